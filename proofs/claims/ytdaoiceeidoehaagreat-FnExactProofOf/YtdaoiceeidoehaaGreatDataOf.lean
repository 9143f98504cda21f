/- The program's data out of a schema and tuples: right ones are laid out. -/
import Derived.Test.YtdaoiceeidoehaaGreatJ19
open Go.Proofs.Tryz
set_option maxHeartbeats 80000000
namespace Go.Proofs.YtdaoiceeidoehaaGreat
set_option maxRecDepth 100000
set_option linter.unusedVariables false
open Go.ChangeShapes Go.WideShapes Go.ChangeAt Go.RowKit Go.Maps
open Pl
def Qr (ts:List Ty) (w:World) (e:Ending) (w':World):Prop :=
 ((∃ (b n:Nat) (σ:Ky→Option Int),e=.returned (.tuple #[.map (some b),.bool true])∧bG ts∧aD dJ prog 130 w' b n (iw σ)∧Least ts (fun k=>(σ k).getD 0)∧∀ k,(∃ x,σ k=some x) ↔ k ∈ ai ts) ∨ (e=.returned (.tuple #[.map none,.bool false])∧¬ bG ts))∧Below w.heap.size w w'
theorem lX:∀ ts:List Tp,(fI ts).length≤2 * ts.length:=by
 have key:∀ (ts:List Tp) (xs:List Al),(ts.foldl gJ xs).length≤xs.length + 2 * ts.length:=by
  intro ts
  induction ts with
  | nil=>intro xs; simp
  | cons t ts ih =>
   intro xs;have h1:=ih (gJ xs t);have h2:=oJ xs t;simp only [List.foldl_cons,List.length_cons];omega
 intro ts;have:=key ts [];simpa [fI] using this
theorem kK:∀ ts:List Tp,(dG ts).length≤ts.length:=by
 have key:∀ (ts:List Tp) (xs:List Al),(ts.foldl dx xs).length≤xs.length + ts.length:=by
  intro ts
  induction ts with
  | nil=>intro xs; simp
  | cons t ts ih =>
   intro xs;have h1:=ih (dx xs t);have h2:=oL xs t;simp only [List.foldl_cons,List.length_cons];omega
 intro ts;have:=key ts [];simpa [dG] using this
def aP (fit:Tp→Bool) (rs:List TR) (ts:List Tp):Bool:=bI (ae rs) && eQ ts && ts.all fit
def dY (f:ByteArray × ByteArray→Int) (rs:List TR):List (KL × RR):=rs.flatMap fun t=>t.rows.map fun r=>((t.name,f (t.name,r.name)),r)
def jb (E:List (KL × RR)):Int:=E.foldl (fun m x=>max m (x.1.2 + 1)) 0
def Rm (fit:Tp→Bool) (rs:List TR) (ts:List Tp) (w:World) (e:Ending) (w':World):Prop :=
 Below w.heap.size w w'∧((aP fit rs ts=false∧e=.returned (.tuple #[.pointer none,.bool false])) ∨
  (aP fit rs ts=true∧∃ (D br bp bt nr np:Nat) (Mr:KL→Option Value) (Mp:K3→Option Value) (vo vu:Value) (f:ByteArray × ByteArray→Int),e=.returned (.tuple #[.pointer (some ⟨D,0,none⟩),.bool true])∧w.heap.size≤bt∧Least (ae rs) f ∧
   DatA w' rs D br bp bt (jb (dY f rs)) nr Mr (dY f rs) (aW ts) (fI ts) (dG ts) np Mp vo vu))
theorem MW {w:World} {rs:List TR} {bt:Nat} (ht:aD dJ prog 130 w bt 36 (mJ rs)) (hl:bt < w.heap.size) :
  DatA (((w.alloc (.map #[] 0)).alloc (.map #[] 0)).alloc (.cells #[.map (some bt),.int .i64 0,.map (some w.heap.size),.map (some (w.heap.size + 1)),.slice none 0 0,.slice none 0 0] 128)) rs (w.heap.size + 2) w.heap.size (w.heap.size + 1) bt 0 0 (fun _=>none) [] [] [] [] 0 (fun _=>none) (.slice none 0 0) (.slice none 0 0):=by
 obtain ⟨w1,h1⟩:∃ w1,w1=w.alloc (.map #[] 0):=⟨_,rfl⟩;obtain ⟨w2,h2⟩:∃ w2,w2=w1.alloc (.map #[] 0):=⟨_,rfl⟩;have s1:w1.heap.size=w.heap.size + 1:=by rw [h1]; simp
 have s2:w2.heap.size=w.heap.size + 2:=by rw [h2]; simp; omega
 rw [← h1,← h2];have b1:Below w.heap.size w w1:=by rw [h1]; exact (R3 _ _).alloc (R4 _) _
 have b2:Below w1.heap.size w1 w2:=by rw [h2]; exact (R3 _ _).alloc (R4 _) _
 have b3:∀ o,Below w2.heap.size w2 (w2.alloc o):=fun o=>(R3 _ _).alloc (R4 _) _;have g1:CE w1 w.heap.size 0 (fun _=>none) []:=by rw [h1]; exact G.grp_made w
 have g2:G.Grp oI prog 216 73 6 Tp.row w2 (w.heap.size + 1) 0 (fun _=>none) []:=by
  have:=G.grp_made (enc:=oI) (P:=prog) (kt:=216) (et:=73) (sz:=6) (cl:=Tp.row) w1;rw [s1] at this; rw [h2]; exact this
 rw [← s2];refine ⟨⟨by omega,by simp,⟨_,heap_alloc_new w2 _⟩,by simp,by simp,by simp,by simp,by simp,by simp,g2.below (b3 _),World.ownsRow_nil _ _ _ _,World.ownsRow_nil _ _ _ _,fun g e=>by simp [Value.ownBlock] at e⟩,((ht.below b1).below b2).below (b3 _),(g1.below b2).below (b3 _),hl,by omega⟩
theorem MX {p:Tp→Bool} {ts:List Tp} {k:Nat} (h:k < ts.length):(ts.take (k + 1)).all p=((ts.take k).all p && p ts[k]):=by
 rw [R5 h,List.all_append]; simp
theorem O5 {p:Tp→Bool} {ts:List Tp} {k:Nat} (h:k < ts.length) (hp:p ts[k]=false):ts.all p=false:=by
 rw [List.all_eq_false];exact ⟨_,RY h,by rw [hp]; decide⟩
theorem wW {rs:List TR} (h6:rs.length≤6) (hr:∀ r ∈ rs,r.rows.length≤6):(ai (ae rs)).length≤36:=by
 have key:∀ l:List TR,(∀ r ∈ l,r.rows.length≤6)→(ai (ae l)).length≤6 * l.length:=by
  intro l
  induction l with
  | nil=>intro _; simp [ai,ae]
  | cons r l ih =>
   intro h;have h1:=ih fun q hq=>h q (SA _ hq);have h2:=h r (by simp);have e:ai (ae (r::l))=iB r.p ++ ai (ae l):=by simp [ai,ae]
   have e2:(iB r.p).length=r.rows.length:=by unfold iB; rw [Sv]; exact gF _
   rw [e,R9,e2,List.length_cons];omega
 have:=key rs hr;omega
theorem MZ {rs:List TR} {σ:Ky→Option Int} (hS:bG (ae rs)) (h6:rs.length≤6) (hr:∀ r ∈ rs,r.rows.length≤6) (hL:Least (ae rs) (fun k=>(σ k).getD 0)) (hk:∀ k,(∃ x,σ k=some x) ↔ k ∈ ai (ae rs)) (y:Ky):0≤(σ y).getD 0∧(σ y).getD 0≤36:=by
 refine ⟨hL.sol.pos y,?_⟩;cases e:σ y with
 | none=>simp
 | some x =>
  have hy:y ∈ ai (ae rs):=(hk y).1 ⟨x,e⟩;obtain ⟨g,hg,hb⟩:=hL.sol.few (kE hS.2.1);have h1:=hL.low y hy g hg;have h2:=hb y hy;have h3:=wW h6 hr;simp only [e] at h1;omega
def ul (f:Ky→Int) (n:ByteArray) (r:RR):KL × RR:=((n,f (n,r.name)),r)
theorem Ke (f:Ky→Int) {rs:List TR} {k:Nat} (h:k < rs.length):dY f (rs.take (k + 1))=dY f (rs.take k) ++ rs[k].rows.map (ul f rs[k].name):=by
 unfold dY;rw [R5 h,List.flatMap_append];simp [ul]
theorem EN (E:List (KL × RR)) (x:KL × RR):jb (E ++ [x])=max (jb E) (x.1.2 + 1):=by simp [jb]
theorem M4:∃ i,prog.info? 152=some i∧i.zero=some (.agg #[.string ⟨#[]⟩,.slice none 0 0])∧i.size=2∧i.bytes=40 :=
 info_parts (P:=prog) (e:=152) (z:=.agg #[.string ⟨#[]⟩,.slice none 0 0]) (size:=2) (bytes:=40) (by kernel_rfl)
theorem M5 (u:World):(zeroValue 68).run prog u=.ok (.slice none 0 0) u:=by kernel_rfl
theorem O6 (u:World):(zeroValue 2).run prog u=.ok (.int .i64 0) u:=by kernel_rfl
theorem Bf {w:World} {br nr:Nat} {Mr:KL→Option Value} {E:List (KL × RR)} (h:CE w br nr Mr E) (k:KL):w.ownsRow (br + 1) 152 2 ((Mr k).getD (.slice none 0 0)) (G.lookL E k).length (G.flatG OW (G.lookL E k)):=by
 rcases h.row k with ⟨e,e2⟩ | ⟨v,e,ho⟩
 ·rw [e,e2]; exact World.ownsRow_nil _ _ _ _
 ·rw [e]; exact ho
theorem M7 {w W w':World} {D g:Nat} {y x0 x1 x2 x3 x4 x5:Value} (h:W.cell? ⟨D,0,none⟩=some y∧W.cell? ⟨g,0,none⟩=some x0∧W.cell? ⟨g,1,none⟩=some x1∧W.cell? ⟨g,2,none⟩=some x2∧W.cell? ⟨g,3,none⟩=some x3∧W.cell? ⟨g,4,none⟩=some x4∧W.cell? ⟨g,5,none⟩=some x5∧D < W.heap.size∧g < W.heap.size∧Below w.heap.size w W) (hb:Below W.heap.size W w'):w'.cell? ⟨D,0,none⟩=some y∧w'.cell? ⟨g,0,none⟩=some x0∧w'.cell? ⟨g,1,none⟩=some x1∧w'.cell? ⟨g,2,none⟩=some x2∧w'.cell? ⟨g,3,none⟩=some x3∧w'.cell? ⟨g,4,none⟩=some x4∧w'.cell? ⟨g,5,none⟩=some x5∧D < w'.heap.size∧g < w'.heap.size∧Below w.heap.size w w':=by
 obtain ⟨h0,g0,g1,g2,g3,g4,g5,hn,hm,hB⟩:=h;have hc:∀ o,w'.cell? ⟨D,o,none⟩=W.cell? ⟨D,o,none⟩:=fun o=>hb.cell (p:=⟨D,o,none⟩) hn;have hd:∀ o,w'.cell? ⟨g,o,none⟩=W.cell? ⟨g,o,none⟩:=fun o=>hb.cell (p:=⟨g,o,none⟩) hm;exact ⟨(hc _).trans h0,(hd _).trans g0,(hd _).trans g1,(hd _).trans g2,(hd _).trans g3,(hd _).trans g4,(hd _).trans g5,RZ hn hb.size,RZ hm hb.size,hB.trans (hb.mono hB.size)⟩
theorem G7 (fit:Tp→Bool) (ad:Option Addr) (cap:Nat) (rs:List TR) (SQ:Option Addr) (cap':Nat) (ts:List Tp) (w:World) (hlen:rs.length≤1048576) (hs:jd w ad rs) (hl:∀ r ∈ rs,r.light) (hfr:∀ r ∈ rs,r.fits) (hC:Calls prog 87 #[.slice ad rs.length cap] w (Qr (ae rs) w)) (hfb:bI (ae rs)=true→∀ t:Tp,t.ok=true→vG (ae rs) t.a t.r ⟨t.c,t.s⟩=fit t) (hlt:ts.length≤1048576) (hst:Sl w SQ ts) (hft:∀ x ∈ ts,x.fits) :
  Calls prog 63 #[.slice ad rs.length cap,.slice SQ ts.length cap'] w (Rm fit rs ts w):=by
 have HS:=aB hs;have HL:=aB hl;have TD:=aB hfr;have HST:=aB hst;have Tj:=aB hft;have HC:=aB hC;have HFB:=aB hfb;obtain ⟨iR,i0,i1,i2,i3⟩:=M4;have UB:=aB (And.intro i0 (And.intro i1 (And.intro i2 i3)));clear i0 i1 i2 i3;have Tv:ts.length≤maxLen:=by unfold maxLen; omega
 clear hs hl hfr hC hfb hst hft;go_enter func63,ntmps63;go_wp2_with fail;refine HC.out.mono ?_;rintro e w1 ⟨hL,hb1⟩;have HB1:=aB hb1;clear HC hb1;rcases hL with ⟨bS,nS,σ,rfl,hS,hM,Uw,hk⟩ | ⟨rfl,hno⟩
 ·have HSD:Hid (bI (ae rs)=true):=bq.2 hS;have HM:=aB hM;have TG:=aB Uw;have Vs:=aB hk;have hSP:=hS;obtain ⟨h6,Xn,-⟩:=bH hSP.1;have HTAB:=aB (mM hSP.1);have WR:=aB Xn;clear hM Uw hk hS hSP Xn;go_wp2_with fail;refine (uk SQ cap' ts _ Tv (HST.out.below HB1.out) Tj.out).mono ?_;rintro e w2 ⟨he,hb2⟩;have HB2:=aB (HB1.out.trans (hb2.mono HB1.out.size));have Uj:=aB (HM.out.below hb2);clear hb2 HM;cases h2:eQ ts with
  | false =>
   rw [h2] at he; subst he;have HN:Hid (aP fit rs ts=false):=by show _=_; unfold aP; rw [h2]; simp
   clear h2;go_wp2;exact bodyPost_ret (v:=.tuple #[.pointer none,.bool false]) (by simp [results,Tryz.results63,go_sem]) rfl ⟨HB2.out,.inl ⟨HN.out,rfl⟩⟩
  | true =>
   rw [h2] at he; subst he;have HTU:=aB (MI h2);have HRB:Hid (aP fit rs ts=ts.all (fit)):=by show _=_; unfold aP; rw [h2,HSD.out]; simp
   have h40:ts.length≤40:=HTU.out.2.2;have HTBL:=aB (vz ad cap rs w2 h6 (HS.out.below HB2.out) WR.out TD.out);clear h2;go_wp2_with fail;refine HTBL.out.mono ?_;rintro e w3 ⟨rfl,UG,hb3⟩;have HB3:=aB (HB2.out.trans (hb3.mono HB2.out.size));have hbt:w2.heap.size < w3.heap.size:=UG.lt;have hw2:w.heap.size≤w2.heap.size:=HB2.out.size;have Yg:=aB (Uj.out.below hb3);have ZX:=aB (MW UG hbt);obtain ⟨bt,hbte⟩:∃ b,b=w2.heap.size:=⟨_,rfl⟩;obtain ⟨br,XM⟩:∃ b,b=w3.heap.size:=⟨_,rfl⟩;rw [← hbte] at ZX hbt hw2 ⊢;obtain ⟨W,hW⟩:∃ W,W=((w3.alloc (.map #[] 0)).alloc (.map #[] 0)).alloc (.cells #[.map (some bt),.int .i64 0,.map (some w3.heap.size),.map (some (w3.heap.size + 1)),.slice none 0 0,.slice none 0 0] 128):=⟨_,rfl⟩;rw [← hW] at ZX;have hmm:=@run_makeMap prog;have HBW0:Hid (Below w3.heap.size w3 W):=by
    show Below _ _ _;rw [hW];exact (((R3 _ _).alloc (R4 _) _).alloc (by simp) _).alloc (by simp; omega) _
   have HMW:=aB (Yg.out.below HBW0.out);have S9:=aB (HB3.out.trans (HBW0.out.mono HB3.out.size));have hbS:bS < br:=by rw [XM]; exact Yg.out.lt
   clear hb3 UG HTBL hbte;obtain ⟨D,hDe⟩:∃ b,b=br + 2:=⟨_,rfl⟩;obtain ⟨bp,hbpe⟩:∃ b,b=br + 1:=⟨_,rfl⟩;rw [← XM] at ZX;rw [← hDe,← hbpe] at ZX;have hDW:D < W.heap.size:=ZX.out.dat.lt;go_wp2_with fail;rw [← hW,show w3.heap.size + 1 + 1=D by omega,show w3.heap.size + 1=bp by omega,← XM];have hwbr:w.heap.size≤br:=by rw [XM]; exact HB3.out.size
   have hbtr:bt < br:=by rw [XM]; exact hbt
   clear hbt;clear XM hDe hbpe hW hmm HBW0;go_loopw [37] (fun i wr=>∃ k:Nat,k≤ts.length∧i=.int .i64 (k:Int)∧Hid ((ts.take k).all (fit)=true)∧Hid (∃ Mp vo vu,DatA wr rs D br bp bt 0 0 (fun _=>none) [] (aW (ts.take k)) (fI (ts.take k)) (dG (ts.take k)) k Mp vo vu)∧Hid (Below br W wr)) (fun i _=>ts.length - (intOf i).toNat);case atStart=>exact ⟨0,R6 _,rfl,rfl,⟨_,_,_,by simpa [aW,fI,dG] using ZX.out⟩,R3 _ _⟩
   case round =>
    obtain ⟨k,hk,rfl,Tm,Vn,HB⟩:=hrel;have Vo:Hid (Below w.heap.size w wr):=S9.out.trans (HB.out.mono hwbr);by_cases hkl:k < ts.length
    ·rcases HST.out.below Vo.out with hnil | ⟨b,off,rfl,hb,hr⟩
     ·rw [hnil] at hkl; simp at hkl
     obtain ⟨t0,t1,t2,t3,t4,t5⟩:=hr k hkl;have hk1:=bn k;have hk2:(k:Int) < (ts.length:Int):=by omega
     have HAT:=aB (MX (p:=fit) hkl);have HAH:=aB (O5 (p:=fit) hkl);have Vm:=aB (Tj.out _ (RY hkl));have Yc:=aB (HTU.out.2.1 _ (RY hkl));have U9:Hid (ts.take (k + 1)=ts.take k ++ [ts[k]]):=R5 hkl;obtain ⟨x,hx⟩:∃ x,x=ts[k]:=⟨_,rfl⟩;rw [← hx] at t0 t1 t2 t3 t4 t5 HAT HAH Vm Yc U9;obtain ⟨W4,Tg⟩:∃ W4,W4=wr.alloc (.cells #[.string x.a,.string x.b,.string x.r,.string x.c,.string x.d,.string x.s] 73):=⟨_,rfl⟩;have hb4:Below wr.heap.size wr W4:=by rw [Tg]; exact (R3 _ _).alloc (R4 _) _
     have hx4:AZ W4 wr.heap.size x:=by rw [Tg]; exact OU wr x _
     obtain ⟨Mp,vo,vu,Us⟩:=Vn.out;have HD4:=aB (Us.below hb4);have HX4:=aB hx4;have XN:=aB (Vo.out.trans (hb4.mono Vo.out.size));have Tq:=aB (HB.out.trans (hb4.mono (by have:=HB.out.size; have:=ZX.out.ord; have:=ZX.out.dat.gt; omega)));have HLF:Hid (∀ W',(fun w'=>w'.cell? ⟨D,0,none⟩=some (.map (some bt))∧w'.cell? ⟨wr.heap.size,0,none⟩=some (.string x.a)∧w'.cell? ⟨wr.heap.size,1,none⟩=some (.string x.b)∧w'.cell? ⟨wr.heap.size,2,none⟩=some (.string x.r)∧w'.cell? ⟨wr.heap.size,3,none⟩=some (.string x.c)∧w'.cell? ⟨wr.heap.size,4,none⟩=some (.string x.d)∧w'.cell? ⟨wr.heap.size,5,none⟩=some (.string x.s)∧D < w'.heap.size∧wr.heap.size < w'.heap.size∧Below W4.heap.size W4 w') W'→Calls prog 90 #[.map (some bt),.agg #[.string x.a,.string x.b,.string x.r,.string x.c,.string x.d,.string x.s]] W' fun e w'=>e=.returned (.bool (fit x))∧Below W'.heap.size W' w'):=fun W' hS'=>by
      have hb':=hS'.2.2.2.2.2.2.2.2.2;refine (MR bt 36 rs ad (mJ rs) x.a x.b x.r x.c x.d x.s W' ((HD4.out.tab).below hb') HTAB.out (HS.out.below (XN.out.trans (hb'.mono XN.out.size))) HL.out Vm.out.1 Vm.out.2.2.1).mono ?_;rintro e w6 ⟨rfl,hb6⟩;exact ⟨by rw [HFB.out HSD.out x Yc.out],hb6⟩
     have H0:Hid ((fun w'=>w'.cell? ⟨D,0,none⟩=some (.map (some bt))∧w'.cell? ⟨wr.heap.size,0,none⟩=some (.string x.a)∧w'.cell? ⟨wr.heap.size,1,none⟩=some (.string x.b)∧w'.cell? ⟨wr.heap.size,2,none⟩=some (.string x.r)∧w'.cell? ⟨wr.heap.size,3,none⟩=some (.string x.c)∧w'.cell? ⟨wr.heap.size,4,none⟩=some (.string x.d)∧w'.cell? ⟨wr.heap.size,5,none⟩=some (.string x.s)∧D < w'.heap.size∧wr.heap.size < w'.heap.size∧Below W4.heap.size W4 w') W4.drew):=⟨HD4.out.dat.c0,hx4.1,hx4.2.1,hx4.2.2.1,hx4.2.2.2.1,hx4.2.2.2.2.1,hx4.2.2.2.2.2.1,HD4.out.dat.lt,hx4.2.2.2.2.2.2,(R3 _ _).drew⟩;have ho40:=lX (ts.take k);have hu40:=kK (ts.take k);have hte:(aW (ts.take k)).length≤40:=by unfold aW; simp; omega
     have htl:(ts.take k).length≤40:=by rw [Sq]; omega
     have HALK:=Tm;clear hr hx hx4 Us hb4 Vn HB Tm;cases hfx:fit x with
     | false =>
      rw [hfx] at HLF;go_wp2_with fail;rw [← Tg]; clear Tg
      go_region_held3 (fun w'=>w'.cell? ⟨D,0,none⟩=some (.map (some bt))∧w'.cell? ⟨wr.heap.size,0,none⟩=some (.string x.a)∧w'.cell? ⟨wr.heap.size,1,none⟩=some (.string x.b)∧w'.cell? ⟨wr.heap.size,2,none⟩=some (.string x.r)∧w'.cell? ⟨wr.heap.size,3,none⟩=some (.string x.c)∧w'.cell? ⟨wr.heap.size,4,none⟩=some (.string x.d)∧w'.cell? ⟨wr.heap.size,5,none⟩=some (.string x.s)∧D < w'.heap.size∧wr.heap.size < w'.heap.size∧Below W4.heap.size W4 w')
       (first | assumption | exact M7 (by assumption) hbx | exact H0.out)
       (first | (go_at_call 90; refine (HLF.out _ (by assumption)).mono ?_; rintro e w' ⟨rfl,hbx⟩))
      rename_i hH;have Wt:Hid (Below w.heap.size w _):=XN.out.trans (hH.2.2.2.2.2.2.2.2.2.mono XN.out.size);have HN:Hid (aP fit rs ts=false):=HRB.out.trans (HAH.out hfx);clear hH;go_wp2;exact bodyPost_ret (v:=.tuple #[.pointer none,.bool false]) (by simp [results,Tryz.results63,go_sem]) rfl ⟨Wt.out,.inl ⟨HN.out,rfl⟩⟩
     | true =>
      rw [hfx] at HLF;go_wp2_with fail;rw [← Tg]; clear Tg
      go_region_held3 (fun w'=>w'.cell? ⟨D,0,none⟩=some (.map (some bt))∧w'.cell? ⟨wr.heap.size,0,none⟩=some (.string x.a)∧w'.cell? ⟨wr.heap.size,1,none⟩=some (.string x.b)∧w'.cell? ⟨wr.heap.size,2,none⟩=some (.string x.r)∧w'.cell? ⟨wr.heap.size,3,none⟩=some (.string x.c)∧w'.cell? ⟨wr.heap.size,4,none⟩=some (.string x.d)∧w'.cell? ⟨wr.heap.size,5,none⟩=some (.string x.s)∧D < w'.heap.size∧wr.heap.size < w'.heap.size∧Below W4.heap.size W4 w')
       (first | assumption | exact M7 (by assumption) hbx | exact H0.out)
       (first | (go_at_call 90; refine (HLF.out _ (by assumption)).mono ?_; rintro e w' ⟨rfl,hbx⟩))
      rename_i hH;obtain ⟨-,y0,y1,y2,y3,y4,y5,-,yl,hbH⟩:=hH;rename_i w5;have HD5:=aB (HD4.out.below hbH);have HBw5:=aB (XN.out.trans (hbH.mono XN.out.size));have HBW5:=aB (Tq.out.trans (hbH.mono (by have:=HD4.out.ord; have:=HD4.out.dat.gt; have:=HD4.out.dat.lt; omega)));have HALN:Hid ((ts.take (k + 1)).all fit=true):=by show _=_; rw [HAT.out,HALK.out,hfx]; rfl
      clear hbH;go_wp2_with fail;refine (MK D br bp _ 0 _ _ _ k Mp vo vu x _ HD5.out.dat (by omega) (by omega) (by omega) (by omega) Vm.out).mono ?_;rintro e w6 ⟨rfl,⟨Mp',Wj,Wm,hd6⟩,hb6⟩;have HDN6:Hid (∃ Mp vo vu,DatA w6 rs D br bp bt 0 0 (fun _=>none) [] (aW (ts.take (k + 1))) (fI (ts.take (k + 1))) (dG (ts.take (k + 1))) (k + 1) Mp vo vu):=by
       rw [U9.out,GD,yg,vw];exact ⟨Mp',Wj,Wm,HD5.out.tell hd6 hb6⟩
      have HBW6:Hid (Below br W w6):=HBW5.out.trans (hb6.mono (by have:=HD4.out.ord; omega));clear hd6 hb6;go_wp2;go_roundw;case rel=>exact ⟨k + 1,by omega,by go_num,HALN,HDN6,HBW6⟩
      case measure=>simp [intOf] <;> omega
    ·obtain rfl:k=ts.length:=by omega
     rw [Sc] at Tm Vn;have HRT:Hid (aP fit rs ts=true):=HRB.out.trans Tm.out;obtain ⟨Mp,vo,vu,Us⟩:=Vn.out;have HD0:=aB Us;obtain ⟨f,hf⟩:∃ f:Ky→Int,f=fun k=>(σ k).getD 0:=⟨_,rfl⟩;have HF:=aB hf;have HLS:Hid (Least (ae rs) f):=by rw [hf]; exact TG.out
     have HF36:Hid (∀ y,0≤f y∧f y≤36):=by rw [hf]; exact MZ (bq.1 HSD.out) h6 WR.out TG.out Vs.out
     obtain ⟨wz,hwz⟩:∃ wz,wz=wr:=⟨_,rfl⟩;subst hwz;have hkk:decide ((ts.length:Int) < (ts.length:Int))=false:=by simp
     clear Us Vn Tm hf TG HTU HRB;go_wp2_with fail;go_loopw [54] (fun i wr=>∃ k:Nat,k≤rs.length∧i=.int .i64 (k:Int)∧Hid ((dY f (rs.take k)).length≤6 * k)∧Hid (∃ nr Mr,nr≤6 * k∧DatA wr rs D br bp bt (jb (dY f (rs.take k))) nr Mr (dY f (rs.take k)) (aW ts) (fI ts) (dG ts) ts.length Mp vo vu)∧Hid (Below br W wr)) (fun i _=>rs.length - (intOf i).toNat);case atStart=>exact ⟨0,R6 _,rfl,R6 _,⟨0,_,R6 _,HD0.out⟩,HB⟩
     case round =>
      clear HD0 HB Vo;obtain ⟨k,hk,rfl,UO,Vn,HB⟩:=hrel;have Vo:Hid (Below w.heap.size w wr):=S9.out.trans (HB.out.mono hwbr);by_cases hkl:k < rs.length
      ·rcases HS.out.below Vo.out with hnil | ⟨b,off,rfl,hb,hr,hok⟩
       ·rw [hnil] at hkl; simp at hkl
       obtain ⟨t0,t1⟩:=hr k hkl;have hk1:=bn k;have hk2:(k:Int) < (rs.length:Int):=by omega
       have h6k:rs[k].rows.length≤6:=WR.out _ (RY hkl);have z0:rs[k].name.size≤maxLen:=(TD.out _ (RY hkl)).1;have HFRk:Hid (∀ q ∈ rs[k].rows,q.fits):=(TD.out _ (RY hkl)).2.2;have Vw:=aB (Ke f hkl);obtain ⟨W1,hW1⟩:∃ W1,W1=wr.alloc (.cells #[.string rs[k].name,.slice rs[k].ad rs[k].rows.length rs[k].cap] 70):=⟨_,rfl⟩;have hal:Below wr.heap.size wr W1:=by rw [hW1]; exact (R3 _ _).alloc (R4 _) _
       obtain ⟨nr,Mr,hnr,Us⟩:=Vn.out;have HD1:=aB (Us.below hal);have hbrz:br < wr.heap.size:=by have:=Us.ord; have:=Us.dat.gt; have:=Us.dat.lt; omega
       have HB1:Hid (Below br W W1):=HB.out.trans (hal.mono (by omega));have HT1:Hid (W1.heap[wr.heap.size]?=some (.cells #[.string rs[k].name,.slice rs[k].ad rs[k].rows.length rs[k].cap] 70 (0,0))):=by rw [hW1]; exact heap_alloc_new wr _
       have a1:W1.cell? ⟨wr.heap.size,1,none⟩=some (.slice rs[k].ad rs[k].rows.length rs[k].cap):=by rw [hW1]; simp
       clear hr hok hal Us Vn;go_wp2_with fail;rw [← hW1];clear hW1 t0 t1 a1 HB;obtain ⟨wo,hwo⟩:∃ wo,wo=wr:=⟨_,rfl⟩;subst hwo;go_loopw [61] (fun i w2=>∃ j:Nat,j≤rs[k].rows.length∧i=.int .i64 (j:Int)∧Hid (∃ nr Mr,nr≤6 * k + j∧DatA w2 rs D br bp bt (jb (dY f (rs.take k) ++ (rs[k].rows.take j).map (ul f rs[k].name))) nr Mr (dY f (rs.take k) ++ (rs[k].rows.take j).map (ul f rs[k].name)) (aW ts) (fI ts) (dG ts) ts.length Mp vo vu)∧Hid (w2.heap[wo.heap.size]?=some (.cells #[.string rs[k].name,.slice rs[k].ad rs[k].rows.length rs[k].cap] 70 (0,0)))∧Hid (Below br W w2)) (fun i _=>rs[k].rows.length - (intOf i).toNat);case atStart=>exact ⟨0,R6 _,rfl,⟨nr,Mr,by omega,by simpa using HD1.out⟩,HT1,HB1⟩
       case round =>
        clear HD1 HT1 HB1 Vo;obtain ⟨j,hj,rfl,Vn,HT,HB⟩:=hrel;have Vo:Hid (Below w.heap.size w wr):=S9.out.trans (HB.out.mono hwbr);by_cases hjl:j < rs[k].rows.length
        ·rcases HS.out.below Vo.out with hnil | ⟨b',off',he,hb2,hr,hok⟩
         ·rw [hnil] at hkl; simp at hkl
         injection he with he; injection he with he1 he2; subst he1; subst he2;have ok:=hok rs[k] (RY hkl);rcases ok with hnil | ⟨b2,TQ,had,hbb,hr2,-⟩
         ·rw [hnil] at hjl; simp at hjl
         obtain ⟨q0,q1⟩:=hr2 j hjl;have z1:rs[k].rows[j].name.size≤maxLen:=(HFRk.out _ (RY hjl)).1;have hj1:=bn j;have hj2:(j:Int) < (rs[k].rows.length:Int):=by omega
         obtain ⟨kl,hkl'⟩:=ik (rs[k].name,rs[k].rows[j].name) z0 z1;have Ur:=aB hkl';obtain ⟨nr,Mr,hnr,Us⟩:=Vn.out;have HTKE:Hid ((rs[k].rows.take (j + 1)).map (ul f rs[k].name)=(rs[k].rows.take j).map (ul f rs[k].name) ++ [ul f rs[k].name rs[k].rows[j]]):=by show _=_; rw [R5 hjl,List.map_append]; rfl
         have hEl:((rs[k].rows.take j).map (ul f rs[k].name)).length=j:=by rw [Sv,Sq]; omega
         obtain ⟨E0,hE0⟩:∃ E0,E0=dY f (rs.take k) ++ (rs[k].rows.take j).map (ul f rs[k].name):=⟨_,rfl⟩;have hE0l:E0.length≤36:=by rw [hE0,R9,hEl]; have:=UO.out; omega
         rw [← hE0] at Us;have Vp:=aB hE0;obtain ⟨fv,hfv⟩:∃ fv,fv=f (rs[k].name,rs[k].rows[j].name):=⟨_,rfl⟩;have hfv36:=HF36.out (rs[k].name,rs[k].rows[j].name);rw [← hfv] at hfv36;obtain ⟨hfv0,hfv1⟩:=hfv36;have HFV:=aB hfv;have YH:Hid ((iw σ (rs[k].name,rs[k].rows[j].name)).getD (.int .i64 0)=.int .i64 fv):=by
          show _=_;rw [hfv,HF.out]; unfold iw;cases h:σ (rs[k].name,rs[k].rows[j].name) <;> simp [h]
         obtain ⟨W2,hW2⟩:∃ W2,W2=wr.alloc (.cells #[.string rs[k].rows[j].name,.slice rs[k].rows[j].ad rs[k].rows[j].rows.length rs[k].rows[j].cap] 152):=⟨_,rfl⟩;obtain ⟨W3,hW3⟩:∃ W3,W3=W2.alloc (.cells #[.string rs[k].name,.int .i64 fv] 179):=⟨_,rfl⟩;have hs2:W2.heap.size=wr.heap.size + 1:=by rw [hW2]; simp
         have hs3:W3.heap.size=wr.heap.size + 2:=by rw [hW3]; simp; omega
         have XO:Below wr.heap.size wr W2:=by rw [hW2]; exact (R3 _ _).alloc (R4 _) _
         have UQ:Below W2.heap.size W2 W3:=by rw [hW3]; exact (R3 _ _).alloc (R4 _) _
         have hwol:wo.heap.size < wr.heap.size:=by
          rcases Nat.lt_or_ge wo.heap.size wr.heap.size with h | h
          ·exact h
          ·have:=HT.out; rw [Array.getElem?_eq_none h] at this; cases this
         have HFRB:Hid (G.FreeB Mr wr.heap.size):=Us.rel.fresh (R4 _);have Uj:Hid (aD dJ prog 130 W2 bS nS (iw σ)):=HMW.out.of_block (by rw [XO.block bS (by omega),HB.out.block bS hbS]);have HD3:=aB ((Us.below XO).below UQ);have HB3':Hid (Below br W W3):=(HB.out.trans (XO.mono (by omega))).trans (UQ.mono (by omega));have HT3:Hid (W3.heap[wo.heap.size]?=some (.cells #[.string rs[k].name,.slice rs[k].ad rs[k].rows.length rs[k].cap] 70 (0,0))):=by show _=_; rw [UQ.block _ (by omega),XO.block _ (by omega)]; exact HT.out
         have c0:wr.cell? ⟨wo.heap.size,0,none⟩=some (.string rs[k].name):=by simp [World.cell?,HT.out]
         have c0b:W2.cell? ⟨wo.heap.size,0,none⟩=some (.string rs[k].name):=(XO.cell (p:=⟨wo.heap.size,0,none⟩) (by show wo.heap.size < _; omega)).trans c0;have g0:W2.cell? ⟨wr.heap.size,0,none⟩=some (.string rs[k].rows[j].name):=by rw [hW2]; simp
         have HR2:Hid (W3.cell? ⟨wr.heap.size,0,none⟩=some (.string rs[k].rows[j].name)∧W3.cell? ⟨wr.heap.size,1,none⟩=some (.slice rs[k].rows[j].ad rs[k].rows[j].rows.length rs[k].rows[j].cap)∧W3.cell? ⟨wr.heap.size + 1,0,none⟩=some (.string rs[k].name)∧W3.cell? ⟨wr.heap.size + 1,1,none⟩=some (.int .i64 fv)):=by
          show _∧_;rw [hW3,hW2];refine ⟨?_,?_,?_,?_⟩ <;> simp
         rw [had];clear hr hok hr2 hkl' Us Vn XO UQ HT HB hE0 hfv hEl;go_wp2_with (first | (at_lookup; rw [← hW2]; refine iY _ rfl _ _ 173 rfl 130 2 ib underlying173 (O6 _) bS nS (iw σ) rfl Uj.out (rs[k].name,rs[k].rows[j].name) kl rfl Ur.out ?_; rw [YH.out]));rw [← hW2,← hW3];clear hW2 hW3 g0 c0b c0 q0 q1 YH Uj;obtain ⟨row0,hr0⟩:∃ r,r=(Mr (rs[k].name,fv)).getD (.slice none 0 0):=⟨_,rfl⟩;obtain ⟨nn,hnn⟩:∃ n,n=(G.lookL E0 (rs[k].name,fv)).length:=⟨_,rfl⟩;obtain ⟨xs,hxs⟩:∃ x,x=G.flatG OW (G.lookL E0 (rs[k].name,fv)):=⟨_,rfl⟩;have Xi:=aB hr0;have UD:=aB hnn;have Wh:=aB hxs;have hnl:nn≤36:=by rw [hnn]; exact Sb (List.length_filterMap_le _ _) hE0l
         have UF:Hid (∀ W0:World,Below W3.heap.size W3 W0→W0.ownsRow (br + 1) 152 2 row0 nn xs):=fun W0 hb=>by rw [hr0,hnn,hxs]; exact Bf (HD3.out.rel.below hb) _
         have HKEY:Hid (∃ kl,keyOf prog 179 (En (rs[k].name,fv))=some kl):=Jb _ z0 hfv0 (by show fv≤1000000; omega);have hDl:D < W3.heap.size:=HD3.out.dat.lt;have hbrD:br < D:=by have:=HD3.out.ord; have:=HD3.out.dat.gt; omega
         clear hr0 hnn hxs;obtain ⟨C2,hC2⟩:∃ C:Nat→Value,C=fun n=>(Value.pointer (some ⟨D,0,none⟩)::.pointer (some ⟨D,0,none⟩)::.pointer (some ⟨D,2,none⟩)::.map (some br)::.agg #[.string rs[k].name,.int .i64 fv]::.agg #[.string rs[k].rows[j].name,.slice rs[k].rows[j].ad rs[k].rows[j].rows.length rs[k].rows[j].cap]::[]).getD n undef:=⟨_,rfl⟩;have Tn:Hid (C2 0=Value.pointer (some ⟨D,0,none⟩)∧C2 1=Value.pointer (some ⟨D,0,none⟩)∧C2 2=Value.pointer (some ⟨D,2,none⟩)∧C2 3=Value.map (some br)∧C2 4=Value.agg #[.string rs[k].name,.int .i64 fv]∧C2 5=Value.agg #[.string rs[k].rows[j].name,.slice rs[k].rows[j].ad rs[k].rows[j].rows.length rs[k].rows[j].cap]):=by show _∧_; rw [hC2]; exact ⟨rfl,rfl,rfl,rfl,rfl,rfl⟩
         clear hC2;refine nJ 11 (fun n=>(u76::u77::u78::u79::u80::u82::u83::u84::u81::u85::u86::[]).getD n undef) (fun fq=>{ tmps:=List.toArray (Value.slice (some ⟨b,off,none⟩) rs.length cap::.slice SQ ts.length cap'::undef::undef::u4::u5::.map (some bS)::.bool true::.pointer (some ⟨D,0,none⟩)::undef::u10::undef::.pointer (some ⟨wo.heap.size,0,none⟩)::undef::.pointer (some ⟨wr.heap.size,0,none⟩)::.int .i64 fv::.pointer (some ⟨wr.heap.size + 1,0,none⟩)::.tuple #[.map (some bS),.bool true]::.slice (some ⟨b,off,none⟩) rs.length cap::.tuple #[.map (some bS),.bool true]::.map (some bS)::.bool true::.bool true::.bool false::.bool false::.slice SQ ts.length cap'::.bool true::.bool false::.bool false::.slice (some ⟨b,off,none⟩) rs.length cap::.map (some bt)::.map (some br)::.map (some bp)::.agg #[.map (some bt),.int .i64 0,.map (some br),.map (some bp),.slice none 0 0,.slice none 0 0]::.pointer (some ⟨D,0,none⟩)::.slice SQ ts.length cap'::.int .i64 ts.length::.int .i64 ts.length::.bool false::u39::u40::u41::u42::u43::u44::u45::u46::u47::u48::u49::u50::u51::.slice (some ⟨b,off,none⟩) rs.length cap::.int .i64 rs.length::.int .i64 k::.bool true::.pointer (some ⟨b,off + k * 2,none⟩)::.agg #[.string rs[k].name,.slice (some ⟨b2,TQ,none⟩) rs[k].rows.length rs[k].cap]::.pointer (some ⟨wo.heap.size,1,none⟩)::.slice (some ⟨b2,TQ,none⟩) rs[k].rows.length rs[k].cap::.int .i64 rs[k].rows.length::.int .i64 j::.bool true::.pointer (some ⟨b2,TQ + j * 2,none⟩)::.agg #[.string rs[k].rows[j].name,.slice rs[k].rows[j].ad rs[k].rows[j].rows.length rs[k].rows[j].cap]::.map (some bS)::.pointer (some ⟨wo.heap.size,0,none⟩)::.string rs[k].name::.pointer (some ⟨wr.heap.size,0,none⟩)::.string rs[k].rows[j].name::.agg #[.string rs[k].name,.string rs[k].rows[j].name]::.int .i64 fv::.pointer (some ⟨wo.heap.size,0,none⟩)::.string rs[k].name::.int .i64 fv::.agg #[.string rs[k].name,.int .i64 fv]::(fq 0)::(fq 1)::(fq 2)::(fq 3)::(fq 4)::(fq 8)::(fq 5)::(fq 6)::(fq 7)::(fq 9)::(fq 10)::u87::u88::u89::u90::u91::u92::u93::u94::u95::u96::u97::u98::undef::[]),defers:=[] }) (G.EI C2 #[.string rs[k].rows[j].name,.slice rs[k].rows[j].ad rs[k].rows[j].rows.length rs[k].rows[j].cap] 152 2 W3 br row0 nn xs (G.Back En prog 179 125 br nr Mr (rs[k].name,fv))) (by kernel_rfl) rfl (by kernel_rfl) (by kernel_rfl) rfl (G.ei_start W3) ?stepA ?finA;case stepA =>
          rintro i hi o ho l fq w' Uc hI hpre;have HI:=aC hI;have SS:Hid (∀ e ∈ o.after,Region.binds .any e=true→l e.on=true):=hpre;clear hI hpre;have hc:=PZ (i:=i) (by omega);clear hi
          repeat' rcases hc with rfl | hc
          ·cases ho;have hA:=HI.out.early (i:=0) (by omega) Uc;clear SS HI;refine aj rfl fun K HK=>?_;go_simp;exact HK.out _ _ ⟨Value.pointer (some ⟨D,0,none⟩),by simp [upd, *],hA.put (by omega) Tn.out.1.symm⟩
          ·cases ho;have hA:=HI.out.early (i:=1) (by omega) Uc;have e0:=(hA.val 0 (by omega) (SS.out ⟨0,.data⟩ (by simp) rfl)).trans Tn.out.1;clear SS HI;refine aj rfl fun K HK=>?_;simp only [e0];go_simp;exact HK.out _ _ ⟨Value.pointer (some ⟨D,0,none⟩),by simp [upd, *],hA.put (by omega) Tn.out.2.1.symm⟩
          ·cases ho;have hA:=HI.out.early (i:=2) (by omega) Uc;have e1:=(hA.val 1 (by omega) (SS.out ⟨1,.data⟩ (by simp) rfl)).trans Tn.out.2.1;clear SS HI;refine aj rfl fun K HK=>?_;simp only [e1];go_simp;exact HK.out _ _ ⟨Value.pointer (some ⟨D,2,none⟩),by simp [upd, *],hA.put (by omega) Tn.out.2.2.1.symm⟩
          ·cases ho;have hA:=HI.out.early (i:=3) (by omega) Uc;have e2:=(hA.val 2 (by omega) (SS.out ⟨2,.data⟩ (by simp) rfl)).trans Tn.out.2.2.1;have hb':=hA.bel;have d2:=(hb'.cell (p:=⟨D,2,none⟩) hDl).trans HD3.out.dat.c2;clear SS HI;refine aj rfl fun K HK=>?_;simp only [e2];go_simp;exact HK.out _ _ ⟨Value.map (some br),by simp [upd, *],hA.put (by omega) Tn.out.2.2.2.1.symm⟩
          ·cases ho;have hA:=HI.out.early (i:=4) (by omega) Uc;have hb':=hA.bel;have k0:=(hb'.cell (p:=⟨wr.heap.size + 1,0,none⟩) (by show wr.heap.size + 1 < _; omega)).trans HR2.out.2.2.1;have k1:=(hb'.cell (p:=⟨wr.heap.size + 1,1,none⟩) (by show wr.heap.size + 1 < _; omega)).trans HR2.out.2.2.2;clear SS HI;refine aj rfl fun K HK=>?_;go_simp;exact HK.out _ _ ⟨Value.agg #[.string rs[k].name,.int .i64 fv],by simp [upd, *],hA.put (by omega) Tn.out.2.2.2.2.1.symm⟩
          ·cases ho;have hA:=HI.out.early (i:=5) (by omega) Uc;have hb':=hA.bel;have k0:=(hb'.cell (p:=⟨wr.heap.size,0,none⟩) (by show wr.heap.size < _; omega)).trans HR2.out.1;have k1:=(hb'.cell (p:=⟨wr.heap.size,1,none⟩) (by show wr.heap.size < _; omega)).trans HR2.out.2.1;clear SS HI;refine aj rfl fun K HK=>?_;go_simp;exact HK.out _ _ ⟨Value.agg #[.string rs[k].rows[j].name,.slice rs[k].rows[j].ad rs[k].rows[j].rows.length rs[k].rows[j].cap],by simp [upd, *],hA.put (by omega) Tn.out.2.2.2.2.2.symm⟩
          ·cases ho;have hA:=HI.out.early (i:=6) (by omega) Uc;have e5:=(hA.val 5 (by omega) (SS.out ⟨5,.data⟩ (by simp) rfl)).trans Tn.out.2.2.2.2.2;clear SS HI;refine aj rfl fun K HK=>?_;simp only [e5];go_simp;exact HK.out _ _ ⟨_,by simp [upd,e5],hA.lay⟩
          ·cases ho;have hA:=HI.out.early (i:=7) (by omega) Uc;have e3:=(hA.val 3 (by omega) (SS.out ⟨3,.data⟩ (by simp) rfl)).trans Tn.out.2.2.2.1;have e4:=(hA.val 4 (by omega) (SS.out ⟨4,.data⟩ (by simp) rfl)).trans Tn.out.2.2.2.2.1;have hall:∀ k,k≤6→l k=true:=fun k hk=>by
            have hc:=Q9 (i:=k) (by omega)
            repeat' rcases hc with rfl | hc
            ·exact SS.out ⟨0,.phase⟩ (by simp) rfl
            ·exact SS.out ⟨1,.phase⟩ (by simp) rfl
            ·exact SS.out ⟨2,.phase⟩ (by simp) rfl
            ·exact SS.out ⟨3,.phase⟩ (by simp) rfl
            ·exact SS.out ⟨4,.phase⟩ (by simp) rfl
            ·exact SS.out ⟨5,.phase⟩ (by simp) rfl
            ·exact SS.out ⟨6,.phase⟩ (by simp) rfl
           have hD':=HD3.out.below hA.bel;obtain ⟨kl2,hkl2⟩:=HKEY.out;obtain ⟨st,w1',hrun,hg,hback⟩:=hD'.rel.map.entry Mm Ml underlying125 M5 (by unfold maxLen; omega) hkl2;rw [← Xi.out] at hrun;have hrun':(Instr.mapEntry 125 (.map (some br)) (Value.agg #[.string rs[k].name,.int .i64 fv])).run prog w'=.ok (.tuple #[row0,goInt st]) w1':=hrun;clear SS HI;refine aj rfl fun K HK=>?_;simp only [e3,e4];go_simp;exact HK.out _ _ ⟨_,by simp [upd,e3,e4,goInt],hA.took hall hg hback⟩
          ·cases ho;have h7:=SS.out ⟨7,.data⟩ (by simp) rfl;have hB:=HI.out.midB h7 (i:=8) (by omega) Uc;obtain ⟨st,e7⟩:=HI.out.seven h7;clear SS HI;refine aj rfl fun K HK=>?_;simp only [e7];go_simp;exact HK.out _ _ ⟨_,by simp [upd,e7,goInt],hB.first⟩
          ·cases ho;have h7:=SS.out ⟨7,.chain⟩ (by simp) rfl;have h8:=SS.out ⟨8,.data⟩ (by simp) rfl;have hB:=HI.out.midB h7 (i:=9) (by omega) Uc;obtain ⟨W0,st,g,hm1,hm2,Vt,XC,Vh,e7,hm7,hm8,hm9⟩:=hB.mid;have e8:=hm8 h8;have hown:=(UF.out W0 hm1).kept Vh (by
            rcases h:row0.ownBlock with _ | g'
            ·exact .inl rfl
            ·right; intro e; injection e with e; have:=((UF.out W0 hm1).lt g' h).1; omega)
           have hnew:w'.heap[g]?=some (.cells #[.string rs[k].rows[j].name,.slice rs[k].rows[j].ad rs[k].rows[j].rows.length rs[k].rows[j].cap] 152 (0,0)):=by
            have hgl:g < W0.heap.size:=by
             rcases Nat.lt_or_ge g W0.heap.size with h | h
             ·exact h
             ·rw [Array.getElem?_eq_none h] at XC; cases XC
            rw [Vh.block g hgl (fun e=>by injection e with e; omega)]; exact XC
           clear SS HI;refine nG w' rfl rfl _ _ 68 rfl (br + 1) 152 iR _ 2 40 underlying68 UB.out.1 UB.out.2.1 UB.out.2.2.1 UB.out.2.2.2 rfl (by decide) row0 nn xs (by simp [Act.eval,e8]) hown ⟨g,0,none⟩ 1 1 [Value.string rs[k].rows[j].name,.slice rs[k].rows[j].ad rs[k].rows[j].rows.length rs[k].rows[j].cap] (by simp [Act.eval,hm2]) rfl (fun j u hu=>news_of_block hnew j u hu) (by simp [Value.oneCell']) (by unfold maxLen; omega) (by omega) (by have:=Vh.size; have:=hm1.size; omega) ?_;intro v' w2' hown2 WK Yv;exact ⟨v',by simp [upd,Act.put],hB.app h8 WK hown2 Yv⟩
          ·cases ho;have h7:=SS.out ⟨7,.data⟩ (by simp) rfl;obtain ⟨st,e7⟩:=HI.out.seven h7;have HI2:=HI.out.second h7 e7;clear SS HI;refine aj rfl fun K HK=>?_;simp only [e7];go_simp;exact HK.out _ _ ⟨_,by simp [upd,e7,goInt],HI2⟩
         case finA =>
          rintro o ho l fq w' hall hI;obtain rfl:=Option.some.inj ho;have hC:=hI.last hall;obtain ⟨W0,w1',st,hm1,hm2,Vt,XC,Vh,hm6,-,hm8⟩:=hC.mid;have e10:=hm8 (hall 10 (by omega));have e3:=(hC.val 3 (by omega)).trans Tn.out.2.2.2.1;obtain ⟨w7,hrun,XD,hg3⟩:=hm6 w' (fq 9) (Vt.block br (by have:=hm2.size; have:=hm1.size; omega) (fun e=>by have:=(UF.out W0 hm1).lt br e.symm; omega));have hst:=(HD3.out.rel.below hm1).step (y:=(rs[k].name,fv)) (s:=rs[k].rows[j]) hm2 (by rw [← UD.out,← Wh.out]; exact XC) (by rw [← Xi.out]; exact Vt) (by rw [← Xi.out]; exact Vh) hg3 XD;have HD7:=aB ((HD3.out.below hm1).list hst.1 hst.2);have HB7:Hid (Below br W w7):=by
           have b0:Below br W W0:=HB3'.out.trans (hm1.mono (by omega));have b1:Below br W w1':=b0.grown hm2 (by have:=hm1.size; omega) (fun i hi=>by injection hi with hi; omega);have b2:Below br W w':=b1.grown Vt (by have:=hm2.size; have:=hm1.size; omega) (fun i hi=>by have:=((UF.out W0 hm1).lt i hi).1; omega);exact b2.grown hg3 (by have:=Vt.size; have:=hm2.size; have:=hm1.size; omega) (fun i hi=>by injection hi with hi; omega)
          have HT7:Hid (w7.heap[wo.heap.size]?=some (.cells #[.string rs[k].name,.slice rs[k].ad rs[k].rows.length rs[k].cap] 70 (0,0))):=by
           show _=_;have h0:W0.heap[wo.heap.size]?=_:=(hm1.block wo.heap.size (by omega)).trans HT3.out;rw [hst.2.block wo.heap.size (by have:=hm1.size; omega) (by omega) (pI (HD3.out.rel.below hm1) h0 (by decide))]; exact h0
          have Uu:(Instr.entryStore 125 (.map (some br)) (.int .i64 st) (fq 9)).run prog w'=.ok () w7:=hrun;obtain ⟨Mn,hMn⟩:∃ M,M=fw Mr (rs[k].name,fv) (some (fq 9)):=⟨_,rfl⟩;rw [← hMn] at HD7;refine aj rfl fun K HK=>?_;simp only [e3,e10];go_simp;refine HK.out _ _ ?_;obtain ⟨n0,hn0⟩:∃ n,n=jb E0:=⟨_,rfl⟩;have Ul:=aB hn0;rw [← hn0] at HD7;have d1:=HD7.out.dat.c1;have fz:=fun o=>eD HD7.out.dat.kind.choose_spec o;have Uq:=HD7.out.dat.lt;clear hst hrun Uu XD hg3 hm1 hm2 Vt XC Vh hm6 hm8 hC hI hall ho HK K e3 e10 HD3 HT3 HB3' UF Tn HKEY hMn Xi UD Wh HR2 HFRB hn0 hDl hbrD;obtain ⟨w8,hw8⟩:∃ x,x=w7.setCell ⟨D,1,none⟩ (Value.int .i64 (max n0 (fv + 1))):=⟨_,rfl⟩;have HEQ:Hid (dY f (rs.take k) ++ (rs[k].rows.take (j + 1)).map (ul f rs[k].name)=E0 ++ [((rs[k].name,fv),rs[k].rows[j])]):=by show _=_; rw [HTKE.out,← List.append_assoc,← Vp.out]; unfold ul; rw [← HFV.out]
          have HD8:Hid (∃ nr Mr,nr≤6 * k + (j + 1)∧DatA w8 rs D br bp bt (jb (dY f (rs.take k) ++ (rs[k].rows.take (j + 1)).map (ul f rs[k].name))) nr Mr (dY f (rs.take k) ++ (rs[k].rows.take (j + 1)).map (ul f rs[k].name)) (aW ts) (fI ts) (dG ts) ts.length Mp vo vu):=by
           rw [HEQ.out,EN,← Ul.out,hw8];exact ⟨nr + 1,Mn,by omega,HD7.out.count (max n0 (fv + 1))⟩
          have HT8:Hid (w8.heap[wo.heap.size]?=some (.cells #[.string rs[k].name,.slice rs[k].ad rs[k].rows.length rs[k].cap] 70 (0,0))):=by
           show _=_;rw [hw8,heap_setCell_other w7 ⟨D,1,none⟩ wo.heap.size _ (fun e=>by
            have e':wo.heap.size=D:=e;have h1:=HT7.out;obtain ⟨cur,h2⟩:=HD7.out.dat.kind;rw [e',h2] at h1;injection h1 with h1;injection h1 with _ h3;exact absurd h3 (by decide))]
           exact HT7.out
          have HB8:Hid (Below br W w8):=by show Below _ _ _; rw [hw8]; exact HB7.out.setCell (by show br≤D; have:=HD7.out.ord; have:=HD7.out.dat.gt; omega) _
          rw [had] at HT8;clear HD7 HT7 HB7;go_wp2;rw [← hw8];go_roundw;case rel=>exact ⟨j + 1,by omega,by go_num,HD8,HT8,HB8⟩
          case measure=>simp [intOf] <;> omega
        ·obtain rfl:j=rs[k].rows.length:=by omega
         have HDN2:Hid (∃ nr Mr,nr≤6 * (k + 1)∧DatA wr rs D br bp bt (jb (dY f (rs.take (k + 1)))) nr Mr (dY f (rs.take (k + 1))) (aW ts) (fI ts) (dG ts) ts.length Mp vo vu):=by
          obtain ⟨nr,Mr,hnr,Us⟩:=Vn.out;rw [Sc] at Us;rw [Vw.out];exact ⟨nr,Mr,by omega,Us⟩
         have HEL2:Hid ((dY f (rs.take (k + 1))).length≤6 * (k + 1)):=by
          show _≤_;rw [Vw.out,R9,Sv];have:=UO.out;omega
         clear Vn HT;go_wp2;go_roundw;case rel=>exact ⟨k + 1,by omega,by go_num,HEL2,HDN2,HB⟩
         case measure=>simp [intOf] <;> omega
      ·obtain rfl:k=rs.length:=by omega
       rw [Sc] at Vn;obtain ⟨nr,Mr,-,Us⟩:=Vn.out;have HDE:=aB Us;clear Us Vn;go_wp2;exact bodyPost_ret (v:=.tuple #[.pointer (some ⟨D,0,none⟩),.bool true]) (by simp [results,Tryz.results63,go_sem]) rfl ⟨Vo.out,.inr ⟨HRT.out,D,br,bp,bt,nr,ts.length,Mr,Mp,vo,vu,f,rfl,hw2,HLS.out,HDE.out⟩⟩
 ·have HN:Hid (aP fit rs ts=false):=by
   show _=_;unfold aP;cases hh:bI (ae rs) with
   | false=>simp
   | true=>exact absurd (bq.1 hh) hno
  clear hno;go_wp2;exact bodyPost_ret (v:=.tuple #[.pointer none,.bool false]) (by simp [results,Tryz.results63,go_sem]) rfl ⟨HB1.out,.inl ⟨HN.out,rfl⟩⟩
end Go.Proofs.YtdaoiceeidoehaaGreat
