/- The program's data out of a schema and tuples: right ones are laid out. -/
import Derived.Test.YtdmniljjnaebbaaGreatDoorSq
import Derived.Test.YtdmniljjnaebbaaGreatDoorJ13
import Derived.Test.YtdmniljjnaebbaaGreatDoorJ15
import Derived.Test.YtdmniljjnaebbaaGreatDoorJ16
open Go.Proofs.Tryz
set_option maxHeartbeats 80000000
namespace Go.Proofs.YtdmniljjnaebbaaGreatDoor
set_option maxRecDepth 100000
set_option linter.unusedVariables false
open Go.ChangeShapes Go.WideShapes Go.ChangeAt Go.RowKit Go.Maps
open Pl
def H5 (ts:List Ty) (w:World) (e:Ending) (w':World):Prop :=
 ((∃ (b n:Nat) (σ:Ky→Option Int),e=.returned (.tuple #[.map (some b),.bool true])∧bG ts∧aJ dE prog 172 w' b n (gZ σ)∧Least ts (fun k=>(σ k).getD 0)∧∀ k,(∃ x,σ k=some x) ↔ k ∈ ak ts) ∨ (e=.returned (.tuple #[.map none,.bool false])∧¬ bG ts))∧aa w w'
theorem mJ:∀ ts:List Tp,(fG ts).length≤2 * ts.length:=by
 have key:∀ (ts:List Tp) (xs:List Al),(ts.foldl gp xs).length≤xs.length + 2 * ts.length:=by
  intro ts
  induction ts with
  | nil=>intro xs; simp
  | cons t ts ih =>
   intro xs;have h1:=ih (gp xs t);have h2:=pq xs t;simp only [List.foldl_cons,List.length_cons];omega
 intro ts;have:=key ts [];simpa [fG] using this
theorem kK:∀ ts:List Tp,(dA ts).length≤ts.length:=by
 have key:∀ (ts:List Tp) (xs:List Al),(ts.foldl cZ xs).length≤xs.length + ts.length:=by
  intro ts
  induction ts with
  | nil=>intro xs; simp
  | cons t ts ih =>
   intro xs;have h1:=ih (cZ xs t);have h2:=pu xs t;simp only [List.foldl_cons,List.length_cons];omega
 intro ts;have:=key ts [];simpa [dA] using this
def aW (fit:Tp→Bool) (rs:List TR) (ts:List Tp):Bool:=aF (ag rs) && dO ts && ts.all fit
def dU (f:ByteArray × ByteArray→Int) (rs:List TR):List (KL × RR):=rs.flatMap fun t=>t.rows.map fun r=>((t.name,f (t.name,r.name)),r)
def iZ (E:List (KL × RR)):Int:=E.foldl (fun m x=>max m (x.1.2 + 1)) 0
def Rv (fit:Tp→Bool) (rs:List TR) (ts:List Tp) (w:World) (e:Ending) (w':World):Prop :=
 aa w w'∧((aW fit rs ts=false∧e=.returned (.tuple #[.pointer none,.bool false])) ∨
  (aW fit rs ts=true∧∃ (D br bp bt nr np:Nat) (Mr:KL→Option Value) (Mp:K3→Option Value) (vo vu:Value) (f:ByteArray × ByteArray→Int),e=.returned (.tuple #[.pointer (some ⟨D,0,none⟩),.bool true])∧w.heap.size≤bt∧Least (ag rs) f ∧
   DatA w' rs D br bp bt (iZ (dU f rs)) nr Mr (dU f rs) (dm ts) (fG ts) (dA ts) np Mp vo vu))
theorem Nh {w:af} {rs:List TR} {bt:Nat} (ht:aJ dE prog 172 w bt 36 (qo rs)) (hl:bt < w.heap.size) :
  DatA (((w.alloc (.map #[] 0)).alloc (.map #[] 0)).alloc (.cells #[.map (some bt),.int .i64 0,.map (some w.heap.size),.map (some (w.heap.size + 1)),.slice none 0 0,.slice none 0 0] 152)) rs (w.heap.size + 2) w.heap.size (w.heap.size + 1) bt 0 0 (fun _=>none) [] [] [] [] 0 (fun _=>none) (.slice none 0 0) (.slice none 0 0):=by
 obtain ⟨w1,h1⟩:∃ w1,w1=w.alloc (.map #[] 0):=⟨_,rfl⟩;obtain ⟨w2,h2⟩:∃ w2,w2=w1.alloc (.map #[] 0):=⟨_,rfl⟩;have s1:w1.heap.size=w.heap.size + 1:=by rw [h1]; simp
 have s2:w2.heap.size=w.heap.size + 2:=by rw [h2]; simp; omega
 rw [← h1,← h2];have b1:aa w w1:=by rw [h1]; exact (Si _ _).alloc (Sj _) _
 have b2:aa w1 w2:=by rw [h2]; exact (Si _ _).alloc (Sj _) _
 have b3:∀ o,aa w2 (w2.alloc o):=fun o=>(Si _ _).alloc (Sj _) _;have g1:CR w1 w.heap.size 0 (fun _=>none) []:=by rw [h1]; exact G.grp_made w
 have g2:G.Grp oM prog 233 42 6 Tp.row w2 (w.heap.size + 1) 0 (fun _=>none) []:=by
  have:=G.grp_made (enc:=oM) (P:=prog) (kt:=233) (et:=42) (sz:=6) (cl:=Tp.row) w1;rw [s1] at this; rw [h2]; exact this
 rw [← s2];refine ⟨⟨by omega,by simp,⟨_,heap_alloc_new w2 _⟩,by simp,by simp,by simp,by simp,by simp,by simp,g2.below (b3 _),World.ownsRow_nil _ _ _ _,World.ownsRow_nil _ _ _ _,fun g e=>by simp [Value.ownBlock] at e⟩,((ht.below b1).below b2).below (b3 _),(g1.below b2).below (b3 _),hl,by omega⟩
theorem Ni {p:Tp→Bool} {ts:List Tp} {k:Nat} (h:k < ts.length):(ts.take (k + 1)).all p=((ts.take k).all p && p ts[k]):=by
 rw [Sk h,List.all_append]; simp
theorem O8 {p:Tp→Bool} {ts:List Tp} {k:Nat} (h:k < ts.length) (hp:p ts[k]=false):ts.all p=false:=by
 rw [List.all_eq_false];exact ⟨_,Sd h,by rw [hp]; decide⟩
theorem xg {rs:List TR} (h6:rs.length≤6) (hr:∀ r ∈ rs,r.rows.length≤6):(ak (ag rs)).length≤36:=by
 have key:∀ l:List TR,(∀ r ∈ l,r.rows.length≤6)→(ak (ag l)).length≤6 * l.length:=by
  intro l
  induction l with
  | nil=>intro _; simp [ak,ag]
  | cons r l ih =>
   intro h;have h1:=ih fun q hq=>h q (SQ _ hq);have h2:=h r (by simp);have e:ak (ag (r::l))=jd r.p ++ ak (ag l):=by simp [ak,ag]
   have e2:(jd r.p).length=r.rows.length:=by unfold jd; rw [Ta]; exact fB _
   rw [e,Sr,e2,List.length_cons];omega
 have:=key rs hr;omega
theorem Nj {rs:List TR} {σ:Ky→Option Int} (hS:bG (ag rs)) (h6:rs.length≤6) (hr:∀ r ∈ rs,r.rows.length≤6) (hL:Least (ag rs) (fun k=>(σ k).getD 0)) (hk:∀ k,(∃ x,σ k=some x) ↔ k ∈ ak (ag rs)) (y:Ky):0≤(σ y).getD 0∧(σ y).getD 0≤36:=by
 refine ⟨hL.sol.pos y,?_⟩;cases e:σ y with
 | none=>simp
 | some x =>
  have hy:y ∈ ak (ag rs):=(hk y).1 ⟨x,e⟩;obtain ⟨g,hg,hb⟩:=hL.sol.few (kH hS.2.1);have h1:=hL.low y hy g hg;have h2:=hb y hy;have h3:=xg h6 hr;simp only [e] at h1;omega
def uE (f:Ky→Int) (n:ByteArray) (r:RR):KL × RR:=((n,f (n,r.name)),r)
theorem Kw (f:Ky→Int) {rs:List TR} {k:Nat} (h:k < rs.length):dU f (rs.take (k + 1))=dU f (rs.take k) ++ rs[k].rows.map (uE f rs[k].name):=by
 unfold dU;rw [Sk h,List.flatMap_append];simp [uE]
theorem EY (E:List (KL × RR)) (x:KL × RR):iZ (E ++ [x])=max (iZ E) (x.1.2 + 1):=by simp [iZ]
theorem Nk:∃ i,prog.info? 122=some i∧i.zero=some (.agg #[.string ⟨#[]⟩,.slice none 0 0])∧i.size=2∧i.bytes=40 :=
 info_parts (P:=prog) (e:=122) (z:=.agg #[.string ⟨#[]⟩,.slice none 0 0]) (size:=2) (bytes:=40) (by kernel_rfl)
theorem Nl (u:af):(zeroValue 76).run prog u=.ok (.slice none 0 0) u:=by kernel_rfl
theorem O9 (u:af):(zeroValue 2).run prog u=.ok (.int .i64 0) u:=by kernel_rfl
theorem BF {w:af} {br nr:Nat} {Mr:KL→Option Value} {E:List (KL × RR)} (h:CR w br nr Mr E) (k:KL):w.ownsRow (br + 1) 122 2 ((Mr k).getD (.slice none 0 0)) (G.lookL E k).length (G.flatG OV (G.lookL E k)):=by
 rcases h.row k with ⟨e,e2⟩ | ⟨v,e,ho⟩
 ·rw [e,e2]; exact World.ownsRow_nil _ _ _ _
 rw [e]; exact ho
theorem Nn {w W w':af} {D g:Nat} {y x0 x1 x2 x3 x4 x5:Value} (h:W.cell? ⟨D,0,none⟩=some y∧W.cell? ⟨g,0,none⟩=some x0∧W.cell? ⟨g,1,none⟩=some x1∧W.cell? ⟨g,2,none⟩=some x2∧W.cell? ⟨g,3,none⟩=some x3∧W.cell? ⟨g,4,none⟩=some x4∧W.cell? ⟨g,5,none⟩=some x5∧D < W.heap.size∧g < W.heap.size∧aa w W) (hb:aa W w'):w'.cell? ⟨D,0,none⟩=some y∧w'.cell? ⟨g,0,none⟩=some x0∧w'.cell? ⟨g,1,none⟩=some x1∧w'.cell? ⟨g,2,none⟩=some x2∧w'.cell? ⟨g,3,none⟩=some x3∧w'.cell? ⟨g,4,none⟩=some x4∧w'.cell? ⟨g,5,none⟩=some x5∧D < w'.heap.size∧g < w'.heap.size∧aa w w':=by
 obtain ⟨h0,g0,g1,g2,g3,g4,g5,hn,hm,hB⟩:=h;have hc:∀ o,w'.cell? ⟨D,o,none⟩=W.cell? ⟨D,o,none⟩:=fun o=>hb.cell (p:=⟨D,o,none⟩) hn;have hd:∀ o,w'.cell? ⟨g,o,none⟩=W.cell? ⟨g,o,none⟩:=fun o=>hb.cell (p:=⟨g,o,none⟩) hm;exact ⟨(hc _).trans h0,(hd _).trans g0,(hd _).trans g1,(hd _).trans g2,(hd _).trans g3,(hd _).trans g4,(hd _).trans g5,Sg hn hb.size,Sg hm hb.size,hB.trans (hb.mono hB.size)⟩
theorem za (fit:Tp→Bool) (ad:Option Addr) (cap:Nat) (rs:List TR) (Ti:Option Addr) (cap':Nat) (ts:List Tp) (w:af) (hlen:rs.length≤1048576) (hs:iN w ad rs) (hl:∀ r ∈ rs,r.light) (hfr:∀ r ∈ rs,r.fits) (hC:Calls prog 92 #[.slice ad rs.length cap] w (H5 (ag rs) w)) (Zm:aF (ag rs)=true→∀ t:Tp,t.ok=true→mo (ag rs) t.a t.r ⟨t.c,t.s⟩=fit t) (hlt:ts.length≤1048576) (hst:Sl w Ti ts) (hft:∀ x ∈ ts,x.fits) :
  Calls prog 59 #[.slice ad rs.length cap,.slice Ti ts.length cap'] w (Rv fit rs ts w):=by
 have HS:=au hs;have HL:=au hl;have TP:=au hfr;have HST:=au hst;have Tv:=au hft;have HC:=au hC;have HFB:=au Zm;obtain ⟨iR,i0,i1,i2,i3⟩:=Nk;have UE:=au (And.intro i0 (And.intro i1 (And.intro i2 i3)));clear i0 i1 i2 i3;have TF:ts.length≤maxLen:=by unfold maxLen; omega
 clear hs hl hfr hC Zm hst hft;go_enter func59,ntmps59;go_wp2_with fail;refine HC.out.mono ?_;rintro e w1 ⟨hL,hb1⟩;have HB1:=au hb1;clear HC hb1;rcases hL with ⟨bS,nS,σ,rfl,hS,hM,WO,hk⟩ | ⟨rfl,hno⟩
 ·have HSD:Hid (aF (ag rs)=true):=bW.2 hS;have HM:=au hM;have Uk:=au WO;have VW:=au hk;have hSP:=hS;obtain ⟨h6,Xh,-⟩:=bR hSP.1;have HTAB:=au (ut hSP.1);have WP:=au Xh;clear hM WO hk hS hSP Xh;go_wp2_with fail;refine (uC Ti cap' ts _ TF (HST.out.below HB1.out) Tv.out).mono ?_;rintro e w2 ⟨he,hb2⟩;have HB2:=au (HB1.out.trans (hb2.mono HB1.out.size));have UT:=au (HM.out.below hb2);clear hb2 HM;cases h2:dO ts;case false=>
   rw [h2] at he; subst he;have HN:Hid (aW fit rs ts=false):=by show _=_; unfold aW; rw [h2]; simp
   clear h2;go_wp2;exact bodyPost_ret (v:=.tuple #[.pointer none,.bool false]) (by simp [results,Tryz.results59,go_sem]) rfl ⟨HB2.out,.inl ⟨HN.out,rfl⟩⟩
  rw [h2] at he; subst he;have HTU:=au (Jc h2);have Zv:Hid (aW fit rs ts=ts.all (fit)):=by show _=_; unfold aW; rw [h2,HSD.out]; simp
  have h40:ts.length≤40:=HTU.out.2.2;have HTBL:=au (vH ad cap rs w2 h6 (HS.out.below HB2.out) WP.out TP.out);clear h2;go_wp2_with fail;refine HTBL.out.mono ?_;rintro e w3 ⟨rfl,UH,hb3⟩;have HB3:=au (HB2.out.trans (hb3.mono HB2.out.size));have hbt:w2.heap.size < w3.heap.size:=UH.lt;have hw2:w.heap.size≤w2.heap.size:=HB2.out.size;have Zn:=au (UT.out.below hb3);have XA:=au (Nh UH hbt);obtain ⟨bt,hbte⟩:∃ b,b=w2.heap.size:=⟨_,rfl⟩;obtain ⟨br,XB⟩:∃ b,b=w3.heap.size:=⟨_,rfl⟩;rw [← hbte] at XA hbt hw2 ⊢;obtain ⟨W,hW⟩:∃ W,W=((w3.alloc (.map #[] 0)).alloc (.map #[] 0)).alloc (.cells #[.map (some bt),.int .i64 0,.map (some w3.heap.size),.map (some (w3.heap.size + 1)),.slice none 0 0,.slice none 0 0] 152):=⟨_,rfl⟩;rw [← hW] at XA;have hmm:=@run_makeMap prog;have HBW0:Hid (aa w3 W):=by
   show Below _ _ _;rw [hW];exact (((Si _ _).alloc (Sj _) _).alloc (by simp) _).alloc (by simp; omega) _
  have HMW:=au (Zn.out.below HBW0.out);have Tt:=au (HB3.out.trans (HBW0.out.mono HB3.out.size));have hbS:bS < br:=by rw [XB]; exact Zn.out.lt
  clear hb3 UH HTBL hbte;obtain ⟨D,hDe⟩:∃ b,b=br + 2:=⟨_,rfl⟩;obtain ⟨bp,hbpe⟩:∃ b,b=br + 1:=⟨_,rfl⟩;rw [← XB] at XA;rw [← hDe,← hbpe] at XA;have hDW:D < W.heap.size:=XA.out.dat.lt;go_wp2_with fail;rw [← hW,show w3.heap.size + 1 + 1=D by omega,show w3.heap.size + 1=bp by omega,← XB];have hwbr:w.heap.size≤br:=by rw [XB]; exact HB3.out.size
  have hbtr:bt < br:=by rw [XB]; exact hbt
  clear hbt;clear XB hDe hbpe hW hmm HBW0;go_loopw [37] (fun i wr=>∃ k:Nat,k≤ts.length∧i=.int .i64 (k:Int)∧Hid ((ts.take k).all (fit)=true)∧Hid (∃ Mp vo vu,DatA wr rs D br bp bt 0 0 (fun _=>none) [] (dm (ts.take k)) (fG (ts.take k)) (dA (ts.take k)) k Mp vo vu)∧Hid (Below br W wr)) (fun i _=>ts.length - (intOf i).toNat);case atStart=>exact ⟨0,Sm _,rfl,rfl,⟨_,_,_,by simpa [dm,fG,dA] using XA.out⟩,Si _ _⟩
  obtain ⟨k,hk,rfl,TB,VX,HB⟩:=hrel;have Vj:Hid (aa w wr):=Tt.out.trans (HB.out.mono hwbr);by_cases hkl:k < ts.length
  ·rcases HST.out.below Vj.out with hnil | ⟨b,off,rfl,hb,hr⟩
   ·rw [hnil] at hkl; simp at hkl
   obtain ⟨t0,t1,t2,t3,t4,t5⟩:=hr k hkl;have hk1:=bH k;have hk2:(k:Int) < (ts.length:Int):=by omega
   have HAT:=au (Ni (p:=fit) hkl);have HAH:=au (O8 (p:=fit) hkl);have Vi:=au (Tv.out _ (Sd hkl));have Zh:=au (HTU.out.2.1 _ (Sd hkl));have ZJ:Hid (ts.take (k + 1)=ts.take k ++ [ts[k]]):=Sk hkl;obtain ⟨x,hx⟩:∃ x,x=ts[k]:=⟨_,rfl⟩;rw [← hx] at t0 t1 t2 t3 t4 t5 HAT HAH Vi Zh ZJ;obtain ⟨W4,TV⟩:∃ W4,W4=wr.alloc (.cells #[.string x.a,.string x.b,.string x.r,.string x.c,.string x.d,.string x.s] 42):=⟨_,rfl⟩;have hb4:aa wr W4:=by rw [TV]; exact (Si _ _).alloc (Sj _) _
   have hx4:qj W4 wr.heap.size x:=by rw [TV]; exact CE wr x _
   obtain ⟨Mp,vo,vu,Ut⟩:=VX.out;have HD4:=au (Ut.below hb4);have Zl:=au hx4;have XC:=au (Vj.out.trans (hb4.mono Vj.out.size));have Uh:=au (HB.out.trans (hb4.mono (by have:=HB.out.size; have:=XA.out.ord; have:=XA.out.dat.gt; omega)));have HLF:Hid (∀ W',(fun w'=>w'.cell? ⟨D,0,none⟩=some (.map (some bt))∧w'.cell? ⟨wr.heap.size,0,none⟩=some (.string x.a)∧w'.cell? ⟨wr.heap.size,1,none⟩=some (.string x.b)∧w'.cell? ⟨wr.heap.size,2,none⟩=some (.string x.r)∧w'.cell? ⟨wr.heap.size,3,none⟩=some (.string x.c)∧w'.cell? ⟨wr.heap.size,4,none⟩=some (.string x.d)∧w'.cell? ⟨wr.heap.size,5,none⟩=some (.string x.s)∧D < w'.heap.size∧wr.heap.size < w'.heap.size∧aa W4 w') W'→Calls prog 94 #[.map (some bt),.agg #[.string x.a,.string x.b,.string x.r,.string x.c,.string x.d,.string x.s]] W' fun e w'=>e=.returned (.bool (fit x))∧aa W' w'):=fun W' hS'=>by
    have hb':=hS'.2.2.2.2.2.2.2.2.2;refine (ED bt 36 rs ad (qo rs) x.a x.b x.r x.c x.d x.s W' ((HD4.out.tab).below hb') HTAB.out (HS.out.below (XC.out.trans (hb'.mono XC.out.size))) HL.out Vi.out.1 Vi.out.2.2.1).mono ?_;rintro e w6 ⟨rfl,hb6⟩;exact ⟨by rw [HFB.out HSD.out x Zh.out],hb6⟩
   have H0:Hid ((fun w'=>w'.cell? ⟨D,0,none⟩=some (.map (some bt))∧w'.cell? ⟨wr.heap.size,0,none⟩=some (.string x.a)∧w'.cell? ⟨wr.heap.size,1,none⟩=some (.string x.b)∧w'.cell? ⟨wr.heap.size,2,none⟩=some (.string x.r)∧w'.cell? ⟨wr.heap.size,3,none⟩=some (.string x.c)∧w'.cell? ⟨wr.heap.size,4,none⟩=some (.string x.d)∧w'.cell? ⟨wr.heap.size,5,none⟩=some (.string x.s)∧D < w'.heap.size∧wr.heap.size < w'.heap.size∧aa W4 w') W4.drew):=⟨HD4.out.dat.c0,hx4.1,hx4.2.1,hx4.2.2.1,hx4.2.2.2.1,hx4.2.2.2.2.1,hx4.2.2.2.2.2.1,HD4.out.dat.lt,hx4.2.2.2.2.2.2,(Si _ _).drew⟩;have ho40:=mJ (ts.take k);have hu40:=kK (ts.take k);have hte:(dm (ts.take k)).length≤40:=by unfold dm; simp; omega
   have htl:(ts.take k).length≤40:=by rw [SL]; omega
   have HALK:=TB;clear hr hx hx4 Ut hb4 VX HB TB;cases hfx:fit x;case false=>
    rw [hfx] at HLF;go_wp2_with fail;rw [← TV]; clear TV
    go_region_held3 (fun w'=>w'.cell? ⟨D,0,none⟩=some (.map (some bt))∧w'.cell? ⟨wr.heap.size,0,none⟩=some (.string x.a)∧w'.cell? ⟨wr.heap.size,1,none⟩=some (.string x.b)∧w'.cell? ⟨wr.heap.size,2,none⟩=some (.string x.r)∧w'.cell? ⟨wr.heap.size,3,none⟩=some (.string x.c)∧w'.cell? ⟨wr.heap.size,4,none⟩=some (.string x.d)∧w'.cell? ⟨wr.heap.size,5,none⟩=some (.string x.s)∧D < w'.heap.size∧wr.heap.size < w'.heap.size∧aa W4 w')
     (first | assumption | exact Nn (by assumption) hbx | exact H0.out)
     (first | (go_at_call 94; refine (HLF.out _ (by assumption)).mono ?_; rintro e w' ⟨rfl,hbx⟩))
    rename_i hH;have Va:Hid (aa w _):=XC.out.trans (hH.2.2.2.2.2.2.2.2.2.mono XC.out.size);have HN:Hid (aW fit rs ts=false):=Zv.out.trans (HAH.out hfx);clear hH;go_wp2;exact bodyPost_ret (v:=.tuple #[.pointer none,.bool false]) (by simp [results,Tryz.results59,go_sem]) rfl ⟨Va.out,.inl ⟨HN.out,rfl⟩⟩
   rw [hfx] at HLF;go_wp2_with fail;rw [← TV]; clear TV
   go_region_held3 (fun w'=>w'.cell? ⟨D,0,none⟩=some (.map (some bt))∧w'.cell? ⟨wr.heap.size,0,none⟩=some (.string x.a)∧w'.cell? ⟨wr.heap.size,1,none⟩=some (.string x.b)∧w'.cell? ⟨wr.heap.size,2,none⟩=some (.string x.r)∧w'.cell? ⟨wr.heap.size,3,none⟩=some (.string x.c)∧w'.cell? ⟨wr.heap.size,4,none⟩=some (.string x.d)∧w'.cell? ⟨wr.heap.size,5,none⟩=some (.string x.s)∧D < w'.heap.size∧wr.heap.size < w'.heap.size∧aa W4 w')
    (first | assumption | exact Nn (by assumption) hbx | exact H0.out)
    (first | (go_at_call 94; refine (HLF.out _ (by assumption)).mono ?_; rintro e w' ⟨rfl,hbx⟩))
   rename_i hH;obtain ⟨-,y0,y1,y2,y3,y4,y5,-,yl,hbH⟩:=hH;rename_i w5;have HD5:=au (HD4.out.below hbH);have HBw5:=au (XC.out.trans (hbH.mono XC.out.size));have HBW5:=au (Uh.out.trans (hbH.mono (by have:=HD4.out.ord; have:=HD4.out.dat.gt; have:=HD4.out.dat.lt; omega)));have HALN:Hid ((ts.take (k + 1)).all fit=true):=by show _=_; rw [HAT.out,HALK.out,hfx]; rfl
   clear hbH;go_wp2_with fail;refine (MV D br bp _ 0 _ _ _ k Mp vo vu x _ HD5.out.dat (by omega) (by omega) (by omega) (by omega) Vi.out).mono ?_;rintro e w6 ⟨rfl,⟨Mp',We,Wi,hd6⟩,hb6⟩;have HDN6:Hid (∃ Mp vo vu,DatA w6 rs D br bp bt 0 0 (fun _=>none) [] (dm (ts.take (k + 1))) (fG (ts.take (k + 1))) (dA (ts.take (k + 1))) (k + 1) Mp vo vu):=by
    rw [ZJ.out,G5,yN,vN];exact ⟨Mp',We,Wi,HD5.out.tell hd6 hb6⟩
   have HBW6:Hid (Below br W w6):=HBW5.out.trans (hb6.mono (by have:=HD4.out.ord; omega));clear hd6 hb6;go_wp2;go_roundw;case rel=>exact ⟨k + 1,by omega,by go_num,HALN,HDN6,HBW6⟩
   simp [intOf] <;> omega
  obtain rfl:k=ts.length:=by omega
  rw [Su] at TB VX;have HRT:Hid (aW fit rs ts=true):=Zv.out.trans TB.out;obtain ⟨Mp,vo,vu,Ut⟩:=VX.out;have HD0:=au Ut;obtain ⟨f,hf⟩:∃ f:Ky→Int,f=fun k=>(σ k).getD 0:=⟨_,rfl⟩;have HF:=au hf;have HLS:Hid (Least (ag rs) f):=by rw [hf]; exact Uk.out
  have HF36:Hid (∀ y,0≤f y∧f y≤36):=by rw [hf]; exact Nj (bW.1 HSD.out) h6 WP.out Uk.out VW.out
  obtain ⟨wz,hwz⟩:∃ wz,wz=wr:=⟨_,rfl⟩;subst hwz;have hkk:decide ((ts.length:Int) < (ts.length:Int))=false:=by simp
  clear Ut VX TB hf Uk HTU Zv;go_wp2_with fail;go_loopw [54] (fun i wr=>∃ k:Nat,k≤rs.length∧i=.int .i64 (k:Int)∧Hid ((dU f (rs.take k)).length≤6 * k)∧Hid (∃ nr Mr,nr≤6 * k∧DatA wr rs D br bp bt (iZ (dU f (rs.take k))) nr Mr (dU f (rs.take k)) (dm ts) (fG ts) (dA ts) ts.length Mp vo vu)∧Hid (Below br W wr)) (fun i _=>rs.length - (intOf i).toNat);case atStart=>exact ⟨0,Sm _,rfl,Sm _,⟨0,_,Sm _,HD0.out⟩,HB⟩
  clear HD0 HB Vj;obtain ⟨k,hk,rfl,UX,VX,HB⟩:=hrel;have Vj:Hid (aa w wr):=Tt.out.trans (HB.out.mono hwbr);by_cases hkl:k < rs.length
  ·rcases HS.out.below Vj.out with hnil | ⟨b,off,rfl,hb,hr,hok⟩
   ·rw [hnil] at hkl; simp at hkl
   obtain ⟨t0,t1⟩:=hr k hkl;have hk1:=bH k;have hk2:(k:Int) < (rs.length:Int):=by omega
   have h6k:rs[k].rows.length≤6:=WP.out _ (Sd hkl);have z0:rs[k].name.size≤maxLen:=(TP.out _ (Sd hkl)).1;have HFRk:Hid (∀ q ∈ rs[k].rows,q.fits):=(TP.out _ (Sd hkl)).2.2;have Ym:=au (Kw f hkl);obtain ⟨W1,hW1⟩:∃ W1,W1=wr.alloc (.cells #[.string rs[k].name,.slice rs[k].ad rs[k].rows.length rs[k].cap] 78):=⟨_,rfl⟩;have hal:aa wr W1:=by rw [hW1]; exact (Si _ _).alloc (Sj _) _
   obtain ⟨nr,Mr,hnr,Ut⟩:=VX.out;have HD1:=au (Ut.below hal);have hbrz:br < wr.heap.size:=by have:=Ut.ord; have:=Ut.dat.gt; have:=Ut.dat.lt; omega
   have HB1:Hid (Below br W W1):=HB.out.trans (hal.mono (by omega));have HT1:Hid (W1.heap[wr.heap.size]?=some (.cells #[.string rs[k].name,.slice rs[k].ad rs[k].rows.length rs[k].cap] 78 (0,0))):=by rw [hW1]; exact heap_alloc_new wr _
   have a1:W1.cell? ⟨wr.heap.size,1,none⟩=some (.slice rs[k].ad rs[k].rows.length rs[k].cap):=by rw [hW1]; simp
   clear hr hok hal Ut VX;go_wp2_with fail;rw [← hW1];clear hW1 t0 t1 a1 HB;obtain ⟨wo,hwo⟩:∃ wo,wo=wr:=⟨_,rfl⟩;subst hwo;go_loopw [61] (fun i w2=>∃ j:Nat,j≤rs[k].rows.length∧i=.int .i64 (j:Int)∧Hid (∃ nr Mr,nr≤6 * k + j∧DatA w2 rs D br bp bt (iZ (dU f (rs.take k) ++ (rs[k].rows.take j).map (uE f rs[k].name))) nr Mr (dU f (rs.take k) ++ (rs[k].rows.take j).map (uE f rs[k].name)) (dm ts) (fG ts) (dA ts) ts.length Mp vo vu)∧Hid (w2.heap[wo.heap.size]?=some (.cells #[.string rs[k].name,.slice rs[k].ad rs[k].rows.length rs[k].cap] 78 (0,0)))∧Hid (Below br W w2)) (fun i _=>rs[k].rows.length - (intOf i).toNat);case atStart=>exact ⟨0,Sm _,rfl,⟨nr,Mr,by omega,by simpa using HD1.out⟩,HT1,HB1⟩
   clear HD1 HT1 HB1 Vj;obtain ⟨j,hj,rfl,VX,HT,HB⟩:=hrel;have Vj:Hid (aa w wr):=Tt.out.trans (HB.out.mono hwbr);by_cases hjl:j < rs[k].rows.length
   ·rcases HS.out.below Vj.out with hnil | ⟨b',off',he,hb2,hr,hok⟩
    ·rw [hnil] at hkl; simp at hkl
    injection he with he; injection he with he1 he2; subst he1; subst he2;have ok:=hok rs[k] (Sd hkl);rcases ok with hnil | ⟨b2,TY,had,hbb,hr2,-⟩
    ·rw [hnil] at hjl; simp at hjl
    obtain ⟨q0,q1⟩:=hr2 j hjl;have z1:rs[k].rows[j].name.size≤maxLen:=(HFRk.out _ (Sd hjl)).1;have hj1:=bH j;have hj2:(j:Int) < (rs[k].rows.length:Int):=by omega
    obtain ⟨kl,hkl'⟩:=jB (rs[k].name,rs[k].rows[j].name) z0 z1;have UY:=au hkl';obtain ⟨nr,Mr,hnr,Ut⟩:=VX.out;have HTKE:Hid ((rs[k].rows.take (j + 1)).map (uE f rs[k].name)=(rs[k].rows.take j).map (uE f rs[k].name) ++ [uE f rs[k].name rs[k].rows[j]]):=by show _=_; rw [Sk hjl,List.map_append]; rfl
    have hEl:((rs[k].rows.take j).map (uE f rs[k].name)).length=j:=by rw [Ta,SL]; omega
    obtain ⟨E0,hE0⟩:∃ E0,E0=dU f (rs.take k) ++ (rs[k].rows.take j).map (uE f rs[k].name):=⟨_,rfl⟩;have hE0l:E0.length≤36:=by rw [hE0,Sr,hEl]; have:=UX.out; omega
    rw [← hE0] at Ut;have Vk:=au hE0;obtain ⟨fv,hfv⟩:∃ fv,fv=f (rs[k].name,rs[k].rows[j].name):=⟨_,rfl⟩;have hfv36:=HF36.out (rs[k].name,rs[k].rows[j].name);rw [← hfv] at hfv36;obtain ⟨hfv0,hfv1⟩:=hfv36;have HFV:=au hfv;have HLK:Hid ((gZ σ (rs[k].name,rs[k].rows[j].name)).getD (.int .i64 0)=.int .i64 fv):=by
     show _=_;rw [hfv,HF.out]; unfold gZ;cases h:σ (rs[k].name,rs[k].rows[j].name) <;> simp [h]
    obtain ⟨W2,hW2⟩:∃ W2,W2=wr.alloc (.cells #[.string rs[k].rows[j].name,.slice rs[k].rows[j].ad rs[k].rows[j].rows.length rs[k].rows[j].cap] 122):=⟨_,rfl⟩;obtain ⟨W3,hW3⟩:∃ W3,W3=W2.alloc (.cells #[.string rs[k].name,.int .i64 fv] 174):=⟨_,rfl⟩;have hs2:W2.heap.size=wr.heap.size + 1:=by rw [hW2]; simp
    have hs3:W3.heap.size=wr.heap.size + 2:=by rw [hW3]; simp; omega
    have XD:aa wr W2:=by rw [hW2]; exact (Si _ _).alloc (Sj _) _
    have Wn:aa W2 W3:=by rw [hW3]; exact (Si _ _).alloc (Sj _) _
    have hwol:wo.heap.size < wr.heap.size:=by
     rcases Nat.lt_or_ge wo.heap.size wr.heap.size with h | h
     ·exact h
     have:=HT.out; rw [Array.getElem?_eq_none h] at this; cases this
    have HFRB:Hid (G.FreeB Mr wr.heap.size):=Ut.rel.fresh (Sj _);have UT:Hid (aJ dE prog 172 W2 bS nS (gZ σ)):=HMW.out.of_block (by rw [XD.block bS (by omega),HB.out.block bS hbS]);have HD3:=au ((Ut.below XD).below Wn);have HB3':Hid (Below br W W3):=(HB.out.trans (XD.mono (by omega))).trans (Wn.mono (by omega));have HT3:Hid (W3.heap[wo.heap.size]?=some (.cells #[.string rs[k].name,.slice rs[k].ad rs[k].rows.length rs[k].cap] 78 (0,0))):=by show _=_; rw [Wn.block _ (by omega),XD.block _ (by omega)]; exact HT.out
    have c0:wr.cell? ⟨wo.heap.size,0,none⟩=some (.string rs[k].name):=by simp [World.cell?,HT.out]
    have c0b:W2.cell? ⟨wo.heap.size,0,none⟩=some (.string rs[k].name):=(XD.cell (p:=⟨wo.heap.size,0,none⟩) (by show wo.heap.size < _; omega)).trans c0;have g0:W2.cell? ⟨wr.heap.size,0,none⟩=some (.string rs[k].rows[j].name):=by rw [hW2]; simp
    have HR2:Hid (W3.cell? ⟨wr.heap.size,0,none⟩=some (.string rs[k].rows[j].name)∧W3.cell? ⟨wr.heap.size,1,none⟩=some (.slice rs[k].rows[j].ad rs[k].rows[j].rows.length rs[k].rows[j].cap)∧W3.cell? ⟨wr.heap.size + 1,0,none⟩=some (.string rs[k].name)∧W3.cell? ⟨wr.heap.size + 1,1,none⟩=some (.int .i64 fv)):=by
     show _∧_;rw [hW3,hW2];refine ⟨?_,?_,?_,?_⟩ <;> simp
    rw [had];clear hr hok hr2 hkl' Ut VX XD Wn HT HB hE0 hfv hEl;go_wp2_with (first | (at_lookup; rw [← hW2]; refine iK _ rfl _ _ 167 rfl 172 2 ig underlying167 (O9 _) bS nS (gZ σ) rfl UT.out (rs[k].name,rs[k].rows[j].name) kl rfl UY.out ?_; rw [HLK.out]));rw [← hW2,← hW3];clear hW2 hW3 g0 c0b c0 q0 q1 HLK UT;obtain ⟨row0,hr0⟩:∃ r,r=(Mr (rs[k].name,fv)).getD (.slice none 0 0):=⟨_,rfl⟩;obtain ⟨nn,hnn⟩:∃ n,n=(G.lookL E0 (rs[k].name,fv)).length:=⟨_,rfl⟩;obtain ⟨xs,hxs⟩:∃ x,x=G.flatG OV (G.lookL E0 (rs[k].name,fv)):=⟨_,rfl⟩;have XQ:=au hr0;have Vh:=au hnn;have Wd:=au hxs;have hnl:nn≤36:=by rw [hnn]; exact Sq (List.length_filterMap_le _ _) hE0l
    have Ur:Hid (∀ W0:World,aa W3 W0→W0.ownsRow (br + 1) 122 2 row0 nn xs):=fun W0 hb=>by rw [hr0,hnn,hxs]; exact BF (HD3.out.rel.below hb) _
    have HKEY:Hid (∃ kl,keyOf prog 174 (DW (rs[k].name,fv))=some kl):=I6 _ z0 hfv0 (by show fv≤1000000; omega);have hDl:D < W3.heap.size:=HD3.out.dat.lt;have hbrD:br < D:=by have:=HD3.out.ord; have:=HD3.out.dat.gt; omega
    clear hr0 hnn hxs;obtain ⟨C2,hC2⟩:∃ C:Nat→Value,C=fun n=>(Value.pointer (some ⟨D,0,none⟩)::.pointer (some ⟨D,0,none⟩)::.pointer (some ⟨D,2,none⟩)::.map (some br)::.agg #[.string rs[k].name,.int .i64 fv]::.agg #[.string rs[k].rows[j].name,.slice rs[k].rows[j].ad rs[k].rows[j].rows.length rs[k].rows[j].cap]::[]).getD n undef:=⟨_,rfl⟩;have Tx:Hid (C2 0=Value.pointer (some ⟨D,0,none⟩)∧C2 1=Value.pointer (some ⟨D,0,none⟩)∧C2 2=Value.pointer (some ⟨D,2,none⟩)∧C2 3=Value.map (some br)∧C2 4=Value.agg #[.string rs[k].name,.int .i64 fv]∧C2 5=Value.agg #[.string rs[k].rows[j].name,.slice rs[k].rows[j].ad rs[k].rows[j].rows.length rs[k].rows[j].cap]):=by show _∧_; rw [hC2]; exact ⟨rfl,rfl,rfl,rfl,rfl,rfl⟩
    clear hC2;refine om 11 (fun n=>(u76::u77::u78::u79::u80::u82::u83::u84::u81::u85::u86::[]).getD n undef) (fun fq=>{ tmps:=List.toArray (Value.slice (some ⟨b,off,none⟩) rs.length cap::.slice Ti ts.length cap'::undef::undef::u4::u5::.map (some bS)::.bool true::.pointer (some ⟨D,0,none⟩)::undef::u10::undef::.pointer (some ⟨wo.heap.size,0,none⟩)::undef::.pointer (some ⟨wr.heap.size,0,none⟩)::.int .i64 fv::.pointer (some ⟨wr.heap.size + 1,0,none⟩)::.tuple #[.map (some bS),.bool true]::.slice (some ⟨b,off,none⟩) rs.length cap::.tuple #[.map (some bS),.bool true]::.map (some bS)::.bool true::.bool true::.bool false::.bool false::.slice Ti ts.length cap'::.bool true::.bool false::.bool false::.slice (some ⟨b,off,none⟩) rs.length cap::.map (some bt)::.map (some br)::.map (some bp)::.agg #[.map (some bt),.int .i64 0,.map (some br),.map (some bp),.slice none 0 0,.slice none 0 0]::.pointer (some ⟨D,0,none⟩)::.slice Ti ts.length cap'::.int .i64 ts.length::.int .i64 ts.length::.bool false::u39::u40::u41::u42::u43::u44::u45::u46::u47::u48::u49::u50::u51::.slice (some ⟨b,off,none⟩) rs.length cap::.int .i64 rs.length::.int .i64 k::.bool true::.pointer (some ⟨b,off + k * 2,none⟩)::.agg #[.string rs[k].name,.slice (some ⟨b2,TY,none⟩) rs[k].rows.length rs[k].cap]::.pointer (some ⟨wo.heap.size,1,none⟩)::.slice (some ⟨b2,TY,none⟩) rs[k].rows.length rs[k].cap::.int .i64 rs[k].rows.length::.int .i64 j::.bool true::.pointer (some ⟨b2,TY + j * 2,none⟩)::.agg #[.string rs[k].rows[j].name,.slice rs[k].rows[j].ad rs[k].rows[j].rows.length rs[k].rows[j].cap]::.map (some bS)::.pointer (some ⟨wo.heap.size,0,none⟩)::.string rs[k].name::.pointer (some ⟨wr.heap.size,0,none⟩)::.string rs[k].rows[j].name::.agg #[.string rs[k].name,.string rs[k].rows[j].name]::.int .i64 fv::.pointer (some ⟨wo.heap.size,0,none⟩)::.string rs[k].name::.int .i64 fv::.agg #[.string rs[k].name,.int .i64 fv]::(fq 0)::(fq 1)::(fq 2)::(fq 3)::(fq 4)::(fq 8)::(fq 5)::(fq 6)::(fq 7)::(fq 9)::(fq 10)::u87::u88::u89::u90::u91::u92::u93::u94::u95::u96::u97::u98::undef::[]),defers:=[] }) (G.EI C2 #[.string rs[k].rows[j].name,.slice rs[k].rows[j].ad rs[k].rows[j].rows.length rs[k].rows[j].cap] 122 2 W3 br row0 nn xs (G.Back DW prog 174 149 br nr Mr (rs[k].name,fv))) (by kernel_rfl) rfl (by kernel_rfl) (by kernel_rfl) rfl (G.ei_start W3) ?stepA ?finA;case stepA =>
     rintro i hi o ho l fq w' Ul hI hpre;have HI:=ay hI;have Tk:Hid (∀ e ∈ o.after,Region.binds .any e=true→l e.on=true):=hpre;clear hI hpre;have hc:=IW (i:=i) (by omega);clear hi
     repeat' rcases hc with rfl | hc
     ·cases ho;have hA:=HI.out.early (i:=0) (by omega) Ul;clear Tk HI;refine ae rfl fun K HK=>?_;go_simp;exact HK.out _ _ ⟨Value.pointer (some ⟨D,0,none⟩),by simp [upd, *],hA.put (by omega) Tx.out.1.symm⟩
     ·cases ho;have hA:=HI.out.early (i:=1) (by omega) Ul;have e0:=(hA.val 0 (by omega) (Tk.out ⟨0,.data⟩ (by simp) rfl)).trans Tx.out.1;clear Tk HI;refine ae rfl fun K HK=>?_;simp only [e0];go_simp;exact HK.out _ _ ⟨Value.pointer (some ⟨D,0,none⟩),by simp [upd, *],hA.put (by omega) Tx.out.2.1.symm⟩
     ·cases ho;have hA:=HI.out.early (i:=2) (by omega) Ul;have e1:=(hA.val 1 (by omega) (Tk.out ⟨1,.data⟩ (by simp) rfl)).trans Tx.out.2.1;clear Tk HI;refine ae rfl fun K HK=>?_;simp only [e1];go_simp;exact HK.out _ _ ⟨Value.pointer (some ⟨D,2,none⟩),by simp [upd, *],hA.put (by omega) Tx.out.2.2.1.symm⟩
     ·cases ho;have hA:=HI.out.early (i:=3) (by omega) Ul;have e2:=(hA.val 2 (by omega) (Tk.out ⟨2,.data⟩ (by simp) rfl)).trans Tx.out.2.2.1;have hb':=hA.bel;have d2:=(hb'.cell (p:=⟨D,2,none⟩) hDl).trans HD3.out.dat.c2;clear Tk HI;refine ae rfl fun K HK=>?_;simp only [e2];go_simp;exact HK.out _ _ ⟨Value.map (some br),by simp [upd, *],hA.put (by omega) Tx.out.2.2.2.1.symm⟩
     ·cases ho;have hA:=HI.out.early (i:=4) (by omega) Ul;have hb':=hA.bel;have k0:=(hb'.cell (p:=⟨wr.heap.size + 1,0,none⟩) (by show wr.heap.size + 1 < _; omega)).trans HR2.out.2.2.1;have k1:=(hb'.cell (p:=⟨wr.heap.size + 1,1,none⟩) (by show wr.heap.size + 1 < _; omega)).trans HR2.out.2.2.2;clear Tk HI;refine ae rfl fun K HK=>?_;go_simp;exact HK.out _ _ ⟨Value.agg #[.string rs[k].name,.int .i64 fv],by simp [upd, *],hA.put (by omega) Tx.out.2.2.2.2.1.symm⟩
     ·cases ho;have hA:=HI.out.early (i:=5) (by omega) Ul;have hb':=hA.bel;have k0:=(hb'.cell (p:=⟨wr.heap.size,0,none⟩) (by show wr.heap.size < _; omega)).trans HR2.out.1;have k1:=(hb'.cell (p:=⟨wr.heap.size,1,none⟩) (by show wr.heap.size < _; omega)).trans HR2.out.2.1;clear Tk HI;refine ae rfl fun K HK=>?_;go_simp;exact HK.out _ _ ⟨Value.agg #[.string rs[k].rows[j].name,.slice rs[k].rows[j].ad rs[k].rows[j].rows.length rs[k].rows[j].cap],by simp [upd, *],hA.put (by omega) Tx.out.2.2.2.2.2.symm⟩
     ·cases ho;have hA:=HI.out.early (i:=6) (by omega) Ul;have e5:=(hA.val 5 (by omega) (Tk.out ⟨5,.data⟩ (by simp) rfl)).trans Tx.out.2.2.2.2.2;clear Tk HI;refine ae rfl fun K HK=>?_;simp only [e5];go_simp;exact HK.out _ _ ⟨_,by simp [upd,e5],hA.lay⟩
     ·cases ho;have hA:=HI.out.early (i:=7) (by omega) Ul;have e3:=(hA.val 3 (by omega) (Tk.out ⟨3,.data⟩ (by simp) rfl)).trans Tx.out.2.2.2.1;have e4:=(hA.val 4 (by omega) (Tk.out ⟨4,.data⟩ (by simp) rfl)).trans Tx.out.2.2.2.2.1;have hall:∀ k,k≤6→l k=true:=fun k hk=>by
       have hc:=Rm (i:=k) (by omega)
       repeat' rcases hc with rfl | hc
       ·exact Tk.out ⟨0,.phase⟩ (by simp) rfl
       ·exact Tk.out ⟨1,.phase⟩ (by simp) rfl
       ·exact Tk.out ⟨2,.phase⟩ (by simp) rfl
       ·exact Tk.out ⟨3,.phase⟩ (by simp) rfl
       ·exact Tk.out ⟨4,.phase⟩ (by simp) rfl
       ·exact Tk.out ⟨5,.phase⟩ (by simp) rfl
       exact Tk.out ⟨6,.phase⟩ (by simp) rfl
      have hD':=HD3.out.below hA.bel;obtain ⟨kl2,hkl2⟩:=HKEY.out;obtain ⟨st,w1',hrun,hg,hback⟩:=hD'.rel.map.entry Md Mc underlying149 Nl (by unfold maxLen; omega) hkl2;rw [← XQ.out] at hrun;have hrun':(Instr.mapEntry 149 (.map (some br)) (Value.agg #[.string rs[k].name,.int .i64 fv])).run prog w'=.ok (.tuple #[row0,goInt st]) w1':=hrun;clear Tk HI;refine ae rfl fun K HK=>?_;simp only [e3,e4];go_simp;exact HK.out _ _ ⟨_,by simp [upd,e3,e4,goInt],hA.took hall hg hback⟩
     ·cases ho;have h7:=Tk.out ⟨7,.data⟩ (by simp) rfl;have hB:=HI.out.midB h7 (i:=8) (by omega) Ul;obtain ⟨st,e7⟩:=HI.out.seven h7;clear Tk HI;refine ae rfl fun K HK=>?_;simp only [e7];go_simp;exact HK.out _ _ ⟨_,by simp [upd,e7,goInt],hB.first⟩
     ·cases ho;have h7:=Tk.out ⟨7,.chain⟩ (by simp) rfl;have h8:=Tk.out ⟨8,.data⟩ (by simp) rfl;have hB:=HI.out.midB h7 (i:=9) (by omega) Ul;obtain ⟨W0,st,g,hm1,hm2,Wj,Xt,VB,e7,hm7,XR,hm9⟩:=hB.mid;have e8:=XR h8;have hown:=(Ur.out W0 hm1).kept VB (by
       rcases h:row0.ownBlock with _ | g'
       ·exact .inl rfl
       right; intro e; injection e with e; have:=((Ur.out W0 hm1).lt g' h).1; omega)
      have hnew:w'.heap[g]?=some (.cells #[.string rs[k].rows[j].name,.slice rs[k].rows[j].ad rs[k].rows[j].rows.length rs[k].rows[j].cap] 122 (0,0)):=by
       have hgl:g < W0.heap.size:=by
        rcases Nat.lt_or_ge g W0.heap.size with h | h
        ·exact h
        rw [Array.getElem?_eq_none h] at Xt; cases Xt
       rw [VB.block g hgl (fun e=>by injection e with e; omega)]; exact Xt
      clear Tk HI;refine ol w' rfl rfl _ _ 76 rfl (br + 1) 122 iR _ 2 40 underlying76 UE.out.1 UE.out.2.1 UE.out.2.2.1 UE.out.2.2.2 rfl (by decide) row0 nn xs (by simp [Act.eval,e8]) hown ⟨g,0,none⟩ 1 1 [Value.string rs[k].rows[j].name,.slice rs[k].rows[j].ad rs[k].rows[j].rows.length rs[k].rows[j].cap] (by simp [Act.eval,hm2]) rfl (fun j u hu=>news_of_block hnew j u hu) (by simp [Value.oneCell']) (by unfold maxLen; omega) (by omega) (by have:=VB.size; have:=hm1.size; omega) ?_;intro v' w2' hown2 TC Yc;exact ⟨v',by simp [upd,Act.put],hB.app h8 TC hown2 Yc⟩
     cases ho;have h7:=Tk.out ⟨7,.data⟩ (by simp) rfl;obtain ⟨st,e7⟩:=HI.out.seven h7;have HI2:=HI.out.second h7 e7;clear Tk HI;refine ae rfl fun K HK=>?_;simp only [e7];go_simp;exact HK.out _ _ ⟨_,by simp [upd,e7,goInt],HI2⟩
    case finA =>
     rintro o ho l fq w' hall hI;obtain rfl:=Option.some.inj ho;have hC:=hI.last hall;obtain ⟨W0,w1',st,hm1,hm2,Wj,Xt,VB,hm6,-,XR⟩:=hC.mid;have e10:=XR (hall 10 (by omega));have e3:=(hC.val 3 (by omega)).trans Tx.out.2.2.2.1;obtain ⟨w7,hrun,hM3,hg3⟩:=hm6 w' (fq 9) (Wj.block br (by have:=hm2.size; have:=hm1.size; omega) (fun e=>by have:=(Ur.out W0 hm1).lt br e.symm; omega));have hst:=(HD3.out.rel.below hm1).step (y:=(rs[k].name,fv)) (s:=rs[k].rows[j]) hm2 (by rw [← Vh.out,← Wd.out]; exact Xt) (by rw [← XQ.out]; exact Wj) (by rw [← XQ.out]; exact VB) hg3 hM3;have HD7:=au ((HD3.out.below hm1).list hst.1 hst.2);have X9:Hid (Below br W w7):=by
      have b0:Below br W W0:=HB3'.out.trans (hm1.mono (by omega));have b1:Below br W w1':=b0.grown hm2 (by have:=hm1.size; omega) (fun i hi=>by injection hi with hi; omega);have b2:Below br W w':=b1.grown Wj (by have:=hm2.size; have:=hm1.size; omega) (fun i hi=>by have:=((Ur.out W0 hm1).lt i hi).1; omega);exact b2.grown hg3 (by have:=Wj.size; have:=hm2.size; have:=hm1.size; omega) (fun i hi=>by injection hi with hi; omega)
     have HT7:Hid (w7.heap[wo.heap.size]?=some (.cells #[.string rs[k].name,.slice rs[k].ad rs[k].rows.length rs[k].cap] 78 (0,0))):=by
      show _=_;have h0:W0.heap[wo.heap.size]?=_:=(hm1.block wo.heap.size (by omega)).trans HT3.out;rw [hst.2.block wo.heap.size (by have:=hm1.size; omega) (by omega) (pY (HD3.out.rel.below hm1) h0 (by decide))]; exact h0
     have UB:(Instr.entryStore 149 (.map (some br)) (.int .i64 st) (fq 9)).run prog w'=.ok () w7:=hrun;obtain ⟨Mn,ZE⟩:∃ M,M=jV Mr (rs[k].name,fv) (some (fq 9)):=⟨_,rfl⟩;rw [← ZE] at HD7;refine ae rfl fun K HK=>?_;simp only [e3,e10];go_simp;refine HK.out _ _ ?_;obtain ⟨n0,hn0⟩:∃ n,n=iZ E0:=⟨_,rfl⟩;have Vd:=au hn0;rw [← hn0] at HD7;have d1:=HD7.out.dat.c1;have fz:=fun o=>fH HD7.out.dat.kind.choose_spec o;have Uz:=HD7.out.dat.lt;clear hst hrun UB hM3 hg3 hm1 hm2 Wj Xt VB hm6 XR hC hI hall ho HK K e3 e10 HD3 HT3 HB3' Ur Tx HKEY ZE XQ Vh Wd HR2 HFRB hn0 hDl hbrD;obtain ⟨w8,hw8⟩:∃ x,x=w7.setCell ⟨D,1,none⟩ (Value.int .i64 (max n0 (fv + 1))):=⟨_,rfl⟩;have HEQ:Hid (dU f (rs.take k) ++ (rs[k].rows.take (j + 1)).map (uE f rs[k].name)=E0 ++ [((rs[k].name,fv),rs[k].rows[j])]):=by show _=_; rw [HTKE.out,← List.append_assoc,← Vk.out]; unfold uE; rw [← HFV.out]
     have HD8:Hid (∃ nr Mr,nr≤6 * k + (j + 1)∧DatA w8 rs D br bp bt (iZ (dU f (rs.take k) ++ (rs[k].rows.take (j + 1)).map (uE f rs[k].name))) nr Mr (dU f (rs.take k) ++ (rs[k].rows.take (j + 1)).map (uE f rs[k].name)) (dm ts) (fG ts) (dA ts) ts.length Mp vo vu):=by
      rw [HEQ.out,EY,← Vd.out,hw8];exact ⟨nr + 1,Mn,by omega,HD7.out.count (max n0 (fv + 1))⟩
     have HT8:Hid (w8.heap[wo.heap.size]?=some (.cells #[.string rs[k].name,.slice rs[k].ad rs[k].rows.length rs[k].cap] 78 (0,0))):=by
      show _=_;rw [hw8,heap_setCell_other w7 ⟨D,1,none⟩ wo.heap.size _ (fun e=>by
       have e':wo.heap.size=D:=e;have h1:=HT7.out;obtain ⟨cur,h2⟩:=HD7.out.dat.kind;rw [e',h2] at h1;injection h1 with h1;injection h1 with _ h3;exact absurd h3 (by decide))]
      exact HT7.out
     have HB8:Hid (Below br W w8):=by show Below _ _ _; rw [hw8]; exact X9.out.setCell (by show br≤D; have:=HD7.out.ord; have:=HD7.out.dat.gt; omega) _
     rw [had] at HT8;clear HD7 HT7 X9;go_wp2;rw [← hw8];go_roundw;case rel=>exact ⟨j + 1,by omega,by go_num,HD8,HT8,HB8⟩
     simp [intOf] <;> omega
   obtain rfl:j=rs[k].rows.length:=by omega
   have HDN2:Hid (∃ nr Mr,nr≤6 * (k + 1)∧DatA wr rs D br bp bt (iZ (dU f (rs.take (k + 1)))) nr Mr (dU f (rs.take (k + 1))) (dm ts) (fG ts) (dA ts) ts.length Mp vo vu):=by
    obtain ⟨nr,Mr,hnr,Ut⟩:=VX.out;rw [Su] at Ut;rw [Ym.out];exact ⟨nr,Mr,by omega,Ut⟩
   have HEL2:Hid ((dU f (rs.take (k + 1))).length≤6 * (k + 1)):=by
    show _≤_;rw [Ym.out,Sr,Ta];have:=UX.out;omega
   clear VX HT;go_wp2;go_roundw;case rel=>exact ⟨k + 1,by omega,by go_num,HEL2,HDN2,HB⟩
   simp [intOf] <;> omega
  obtain rfl:k=rs.length:=by omega
  rw [Su] at VX;obtain ⟨nr,Mr,-,Ut⟩:=VX.out;have HDE:=au Ut;clear Ut VX;go_wp2;exact bodyPost_ret (v:=.tuple #[.pointer (some ⟨D,0,none⟩),.bool true]) (by simp [results,Tryz.results59,go_sem]) rfl ⟨Vj.out,.inr ⟨HRT.out,D,br,bp,bt,nr,ts.length,Mr,Mp,vo,vu,f,rfl,hw2,HLS.out,HDE.out⟩⟩
 have HN:Hid (aW fit rs ts=false):=by
  show _=_;unfold aW;cases hh:aF (ag rs);case false=>simp
  exact absurd (bW.1 hh) hno
 clear hno;go_wp2;exact bodyPost_ret (v:=.tuple #[.pointer none,.bool false]) (by simp [results,Tryz.results59,go_sem]) rfl ⟨HB1.out,.inl ⟨HN.out,rfl⟩⟩
def lh (known:List Fc) (f:Fc) (t:Tp):Bool:=if t.s.toList.isEmpty then t.c.toList == f.c.toList && t.d.toList == f.d.toList else dG known ⟨t.c,t.d,t.s,f.c,f.d⟩
def sK (known:List Fc) (name:ByteArray) (f:Fc) (t:Tp):Bool:=dG known ⟨t.c,t.d,name,f.c,f.d⟩
theorem EZ (l:List Tp) (k:K3) (p:Tp→Bool):(G.lookL (dm l) k).any p=l.any fun t=>(t.a.toList == k.1.toList && t.b.toList == k.2.1.toList && t.r.toList == k.2.2.toList) && p t:=by
 induction l with
 | nil=>rfl
 | cons t l ih =>
  have e:dm (t::l)=[(Kg t,t)] ++ dm l:=rfl;rw [e,G.lookL_append,List.any_append,ih,List.any_cons];congr 1;unfold G.lookL Kg;by_cases h:(t.a,t.b,t.r)=k
  ·subst h; simp
  have h2:(t.a.toList == k.1.toList && t.b.toList == k.2.1.toList && t.r.toList == k.2.2.toList)=false:=by
   cases hb:(t.a.toList == k.1.toList && t.b.toList == k.2.1.toList && t.r.toList == k.2.2.toList);case false=>rfl
   rw [Sn,Sn,dY,dY,dY] at hb; exact absurd (Prod.ext hb.1.1 (Prod.ext hb.1.2 hb.2)) h
  simp [h,h2]
theorem H6 (l:List Tp) (known:List Fc) (f:Fc):eu l known f=(G.lookL (dm l) (f.a,f.b,f.r)).any (lh known f):=by rw [EZ]; rfl
theorem H7 (l:List Tp) (known:List Fc) (over name:dB) (f:Fc):fI l known over name f=(G.lookL (dm l) (f.a,f.b,over)).any (sK known name f):=by rw [EZ]; rfl
theorem Kz (st:ByteArray × ByteArray→Int) (n:Int) (o:Al) (tn:dB) (rows:List RR):((rows.map fun r=>(tn,r.name)).filter fun k=>k.1.toList == o.t.toList && decide (st k=n))=(G.lookL (rows.map fun r=>((tn,st (tn,r.name)),r)) (o.t,n)).map fun r=>(o.t,r.name):=by
 induction rows with
 | nil=>rfl
 | cons r rows ih =>
  have e:((r::rows).map fun r=>((tn,st (tn,r.name)),r))=[((tn,st (tn,r.name)),r)] ++ rows.map fun r=>((tn,st (tn,r.name)),r):=rfl;rw [e,G.lookL_append,List.map_append,← ih,List.map_cons,List.filter_cons];unfold G.lookL;by_cases h:tn=o.t∧st (tn,r.name)=n
  ·obtain ⟨rfl,rfl⟩:=h;simp
  have h1:(tn.toList == o.t.toList && decide (st (tn,r.name)=n))=false:=by
   cases hb:(tn.toList == o.t.toList && decide (st (tn,r.name)=n));case false=>rfl
   rw [Sn,dY,SE] at hb; exact absurd hb h
  have h2:¬ ((tn,st (tn,r.name))=(o.t,n)):=fun e=>h ⟨congrArg Prod.fst e,congrArg Prod.snd e⟩;simp [h1,h2]
theorem E5 (st:ByteArray × ByteArray→Int) (n:Int) (o:Al) (rs:List TR):CY (ag rs) st n o=(G.lookL (dU st rs) (o.t,n)).map fun r=>(o.t,r.name):=by
 unfold CY
 induction rs with
 | nil=>rfl
 | cons t rs ih =>
  have e1:ak (ag (t::rs))=(t.rows.map fun r=>(t.name,r.name)) ++ ak (ag rs):=by
   have:jd t.p=t.rows.map fun r=>(t.name,r.name):=by unfold jd; show List.map _ (bZ t.rows)=_; unfold bZ; rw [List.map_map]; rfl
   simp [ak,ag,this]
  have e2:dU st (t::rs)=(t.rows.map fun r=>((t.name,st (t.name,r.name)),r)) ++ dU st rs:=rfl;rw [e1,e2,G.lookL_append,Te,List.map_append,ih,Kz]
theorem zb {s:St}:∀ {sts:List St},(gy sts).Nodup→s ∈ sts→eG sts s.key=s.n
 | [],_,h=>by cases h
 | x::xs,hd,h=>by
  have hd2:x.key ∉ gy xs∧(gy xs).Nodup:=List.nodup_cons.1 hd;unfold eG;by_cases e:yo x s.key.1 s.key.2=true
  ·rw [if_pos e];have ek:=o7.1 e;rcases List.mem_cons.1 h with rfl | h
   ·rfl
   exact absurd (by rw [ek]; exact List.mem_map_of_mem h) hd2.1
  rw [if_neg e];rcases List.mem_cons.1 h with rfl | h
  ·exact absurd (o7.2 rfl) e
  exact zb hd2.2 h
def Rx (sts:List St) (n:Int) (o:Al):List St:=sts.filter fun s=>s.typ.toList == o.t.toList && decide (s.n=n)
theorem Pb {ts:List Ty} {sts:List St} (hk:gy sts=ak ts) (hn:(ak ts).Nodup) (n:Int) (o:Al):CY ts (eG sts) n o=(Rx sts n o).map St.key:=by
 unfold CY Rx;rw [← hk];rw [← hk] at hn;unfold gy;rw [List.filter_map];congr 1;refine List.filter_congr fun s hs=>?_;show (s.key.1.toList == o.t.toList && decide (eG sts s.key=n))=_;rw [zb hn hs];rfl
theorem H8 {rs:List TR} (h:bq (ag rs)=true):(ak (ag rs)).Nodup:=by
 have e:ak (ag rs)=rs.flatMap fun t=>t.rows.map fun r=>(t.name,r.name):=by
  unfold ak ag;rw [List.flatMap_map];congr 1
  funext t
  unfold jd;show List.map _ (bZ t.rows)=_;unfold bZ; rw [List.map_map]; rfl
 rw [e,List.Nodup,List.pairwise_flatMap];constructor
 ·intro t ht;obtain ⟨i,hi,rfl⟩:=List.mem_iff_getElem.1 ht;have hu:=(mg h i hi).2.2;rw [List.pairwise_map,List.pairwise_iff_getElem];intro a b ha hb hab e;have hne:=pX (f:=fun k=>(rs[i].rows[k]?.map RR.name).getD ByteArray.empty) (n:=rs[i].rows.length) (fun k hk=>by
   have h0:k < rs[i].rows.length:=by omega
   simp only [Sw hk,Sw h0,Option.map_some,Option.getD_some];exact (Bi hu (k + 1) hk hk).2.1 k h0 rfl)
  have:=hne a b hab hb;simp [ha,hb] at this;exact this (congrArg Prod.snd e)
 rw [List.pairwise_iff_getElem];intro a b ha hb hab x hx y hy e;obtain ⟨r,hr,rfl⟩:=Sy.1 hx;obtain ⟨q,hq,rfl⟩:=Sy.1 hy;have hne:=pX (f:=fun k=>(rs[k]?.map TR.name).getD ByteArray.empty) (n:=rs.length) (fun k hk=>by
  have h0:k < rs.length:=by omega
  simp only [Sw hk,Sw h0,Option.map_some,Option.getD_some];exact (mg h (k + 1) hk).2.1 k h0 rfl)
 have:=hne a b hab hb;simp [ha,hb] at this;exact this (congrArg Prod.fst e)
theorem E8 {α:Type} [DecidableEq α]:∀ {a b:List α},a.Nodup→(∀ x ∈ a,x ∈ b)→a.length≤b.length
 | [],_,_,_=>Sm _
 | x::a,b,hd,hs=>by
  obtain ⟨h1,h2⟩:=List.nodup_cons.1 hd;have hx:=hs x (by simp);have:=E8 (a:=a) (b:=b.erase x) h2 fun y hy=>(List.mem_erase_of_ne (fun e:y=x=>h1 (by rw [← e]; exact hy))).2 (hs y (by simp [hy]));rw [List.length_erase_of_mem hx] at this;have hp:0 < b.length:=List.length_pos_of_mem hx;simp only [List.length_cons];omega
def C8 (ts:List Ty) (xo xu:List Al):List Fc:=xo.flatMap fun o=>(ak ts).flatMap fun k=>ja o k.2 xu
theorem BG {ts:List Ty} {st:ByteArray × ByteArray→Int} {xo xu:List Al} {n:Int} {f:Fc} (h:f ∈ cB ts st xo xu n):f ∈ C8 ts xo xu:=by
 unfold cB wC at h;obtain ⟨o,ho,h⟩:=SB.1 h;obtain ⟨k,hk,h⟩:=SB.1 h;exact SB.2 ⟨o,ho,SB.2 ⟨k,(SX.1 hk).1,h⟩⟩
theorem ze {α β:Type} (f:α→List β) (m:Nat) (hf:∀ a,(f a).length≤m):∀ l:List α,(l.flatMap f).length≤l.length * m
 | []=>by simp
 | a::l=>by
  have h1:=ze f m hf l;have h2:=hf a;simp only [List.flatMap_cons,Sr,List.length_cons,Nat.add_mul];omega
theorem Np (ts:List Ty) (xo xu:List Al):(C8 ts xo xu).length≤xo.length * ((ak ts).length * xu.length) :=
 ze _ _ (fun o=>ze _ _ (fun k=>by unfold ja; rw [Ta]; exact Sj _) _) _
structure GoodO (ts:List Ty) (xo xu:List Al) (out:List Fc):Prop where
 once:out.Nodup
 sub:∀ g ∈ out,g ∈ C8 ts xo xu
def Rj (us:List Al):List (ByteArray × ByteArray):=us.map fun u=>(u.t,u.s)
def Rk (us:List Al) (x:ByteArray × ByteArray):Bool:=us.any fun u=>u.t.toList == x.1.toList && u.s.toList == x.2.toList
theorem xh {us:List Al} {x:ByteArray × ByteArray}:Rk us x=true ↔ x ∈ Rj us:=by
 unfold Rk Rj;rw [SY,Sy];constructor
 ·rintro ⟨u,hu,h⟩;rw [Sn,dY,dY] at h;exact ⟨u,hu,Prod.ext h.1 h.2⟩
 rintro ⟨u,hu,rfl⟩;exact ⟨u,hu,by simp⟩
def dW (us:List Al) (new:List Fc):List Al:=us.filter fun u=>new.any fun g=>g.c.toList == u.t.toList && g.d.toList == u.s.toList
theorem BH {us:List Al} {new:List Fc} {x:ByteArray × ByteArray}:x ∈ Rj (dW us new) ↔ x ∈ Rj us∧∃ g ∈ new,g.u=x:=by
 unfold Rj dW;constructor
 ·intro h;obtain ⟨u,hu,rfl⟩:=Sy.1 h;obtain ⟨h1,h2⟩:=SX.1 hu;obtain ⟨g,hg,h3⟩:=SY.1 h2;rw [Sn,dY,dY] at h3;exact ⟨List.mem_map_of_mem (f:=fun u:Al=>(u.t,u.s)) h1,g,hg,Prod.ext h3.1 h3.2⟩
 rintro ⟨h,g,hg,hx⟩;obtain ⟨u,hu,rfl⟩:=Sy.1 h;refine Sy.2 ⟨u,SX.2 ⟨hu,SY.2 ⟨g,hg,?_⟩⟩,rfl⟩;rw [Sn,dY,dY];exact ⟨congrArg Prod.fst hx,congrArg Prod.snd hx⟩
theorem H9 (us:List Al):dW us []=[]:=by unfold dW; rw [List.filter_eq_nil_iff]; simp
theorem Ia {ts:List Ty} {xo xu:List Al} {n:Int} {st st':ByteArray × ByteArray→Int} (h:∀ k ∈ ak ts,st k=st' k):cB ts st xo xu n=cB ts st' xo xu n:=by
 unfold cB wC;congr 1
 funext o
 have:CY ts st n o=CY ts st' n o:=List.filter_congr fun k hk=>by rw [h k hk]
 rw [this]
set_option linter.unusedSectionVars false
section
variable [DecidableEq Fc]
theorem GoodO.run {ts:List Ty} {xo xu:List Al} {out:List Fc} (h:GoodO ts xo xu out) {H:List Fc→Fc→Bool} {qs:List Fc} (hq:∀ g ∈ qs,g ∈ C8 ts xo xu):GoodO ts xo xu (bI H qs out):=by
 refine ⟨tV qs h.once,fun g hg=>?_⟩;obtain ⟨n,e,hn⟩:=jC (H:=H) qs out;rw [e] at hg;rcases Sz.1 hg with hg | hg
 ·exact h.sub g hg
 exact hq g (hn g hg).1
theorem GoodO.len {ts:List Ty} {xo xu:List Al} {out:List Fc} (h:GoodO ts xo xu out) (h1:xo.length≤80) (h2:(ak ts).length≤36) (h3:xu.length≤40):out.length≤115200:=by
 have a1:=E8 h.once h.sub;have a2:=Np ts xo xu;have a3:(ak ts).length * xu.length≤36 * 40:=Nat.mul_le_mul h2 h3;have a4:xo.length * ((ak ts).length * xu.length)≤80 * (36 * 40):=Nat.mul_le_mul h1 a3;omega
structure FewA (ts:List Ty) (l:List Tp) (st:ByteArray × ByteArray→Int) (xo xu:List Al) (n:Int) (us:List Al) (out:List Fc):Prop where
 sub:us=xu.filter fun u:Al=>Rk us (u.t,u.s)
 few:Few Fc.u (ib ts l) (cB ts st xo xu n) (Rj us) out
variable {ts:List Ty} {l:List Tp} {st:ByteArray × ByteArray→Int} {xo xu:List Al} {n:Int}
theorem FewA.start (out:List Fc):FewA ts l st xo xu n xu out:=by
 refine ⟨(List.filter_eq_self.2 fun u hu=>xh.2 (List.mem_map_of_mem (f:=fun u:Al=>(u.t,u.s)) hu)).symm,Few.start fun f hf=>Hm hf⟩
theorem Ib {φ υ:Type} [DecidableEq φ] {us:φ→υ} {H:List φ→φ→Bool} (hL:Loc us H) {qs:List φ} {users:List υ} {out:List φ} (h:Few us H qs users out) (P:υ→Bool) (hP:∀ u,P u=true ↔ u ∈ users):bI H (qs.filter fun f=>P (us f)) out=bI H qs out :=
 (kV hL P qs out fun f hf hp=>h.set f hf fun hm=>by rw [(hP _).2 hm] at hp; cases hp).symm
theorem FewA.round {us:List Al} {out:List Fc} (h:FewA ts l st xo xu n us out):bI (ib ts l) (cB ts st xo us n) out=bI (ib ts l) (cB ts st xo xu n) out:=by
 have h2:=EH ts st xo xu n (Rk us);rw [← h.sub] at h2;rw [← h2];exact Ib (Bv ts l) h.few (Rk us) fun u=>xh
theorem FewA.next {us:List Al} {out new:List Fc} (h:FewA ts l st xo xu n us out) (hn:bI (ib ts l) (cB ts st xo us n) out=out ++ new):FewA ts l st xo xu n (dW us new) (out ++ new):=by
 refine ⟨?_,h.few.next (Bv ts l) (h.round.symm.trans hn) fun u=>BH⟩;have h1:dW us new=(xu.filter fun u:Al=>Rk us (u.t,u.s)).filter fun u=>new.any fun g=>g.c.toList == u.t.toList && g.d.toList == u.s.toList:=by rw [← h.sub]; rfl
 rw [List.filter_filter] at h1;refine h1.trans (List.filter_congr fun u hu=>?_);rw [Bool.eq_iff_iff,xh,BH,Sn,xh,SY,and_comm];refine and_congr Iff.rfl ⟨fun ⟨g,hg,h3⟩=>⟨g,hg,?_⟩,fun ⟨g,hg,h3⟩=>⟨g,hg,?_⟩⟩
 ·rw [Sn,dY,dY] at h3;exact Prod.ext h3.1 h3.2
 rw [Sn,dY,dY];exact ⟨congrArg Prod.fst h3,congrArg Prod.snd h3⟩
theorem FewA.done {out:List Fc} (h:FewA ts l st xo xu n [] out):ny (ib ts l) (cB ts st xo xu n) out=out:=h.few.done
theorem uF {st st':ByteArray × ByteArray→Int} (h:∀ k ∈ ak ts,st k=st' k):∀ N,kR ts l st xo xu N=kR ts l st' xo xu N
 | 0=>rfl
 | N + 1=>by rw [jl,jl,uF h N,Ia h]
end
end Go.Proofs.YtdmniljjnaebbaaGreatDoor
