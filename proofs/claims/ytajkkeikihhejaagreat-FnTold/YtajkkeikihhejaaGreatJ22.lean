/- The program's data out of a schema and tuples: right ones are laid out. -/
import Derived.Test.YtajkkeikihhejaaGreatSq
import Derived.Test.YtajkkeikihhejaaGreatJ16
import Derived.Test.YtajkkeikihhejaaGreatJ19
open Go.Proofs.Tryz
set_option maxHeartbeats 80000000
namespace Go.Proofs.YtajkkeikihhejaaGreat
set_option maxRecDepth 100000
set_option linter.unusedVariables false
open Go.ChangeShapes Go.WideShapes Go.ChangeAt Go.RowKit Go.Maps
open Pl
def Sr (ts:List Ty) (w:World) (e:Ending) (w':World):Prop :=
 ((∃ (b n:Nat) (σ:Ky→Option Int),e=.returned (.tuple #[.map (some b),.bool true])∧bR ts∧aM dQ prog 94 w' b n (iW σ)∧Least ts (fun k=>(σ k).getD 0)∧∀ k,(∃ x,σ k=some x) ↔ k ∈ ak ts) ∨ (e=.returned (.tuple #[.map none,.bool false])∧¬ bR ts))∧ag w w'
theorem oz:∀ ts:List Tp,(eB ts).length≤2 * ts.length:=by
 have key:∀ (ts:List Tp) (xs:List Al),(ts.foldl fP xs).length≤xs.length + 2 * ts.length:=by
  intro ts
  induction ts with
  | nil=>intro xs; simp
  | cons t ts ih =>
   intro xs;have h1:=ih (fP xs t);have h2:=qI xs t;simp only [List.foldl_cons,List.length_cons];omega
 intro ts;have:=key ts [];simpa [eB] using this
theorem mr:∀ ts:List Tp,(cZ ts).length≤ts.length:=by
 have key:∀ (ts:List Tp) (xs:List Al),(ts.foldl cu xs).length≤xs.length + ts.length:=by
  intro ts
  induction ts with
  | nil=>intro xs; simp
  | cons t ts ih =>
   intro xs;have h1:=ih (cu xs t);have h2:=qJ xs t;simp only [List.foldl_cons,List.length_cons];omega
 intro ts;have:=key ts [];simpa [cZ] using this
def aQ (fit:Tp→Bool) (rs:List TR) (ts:List Tp):Bool:=aJ (ae rs) && dJ ts && ts.all fit
def eT (f:ByteArray × ByteArray→Int) (rs:List TR):List (KL × RR):=rs.flatMap fun t=>t.rows.map fun r=>((t.name,f (t.name,r.name)),r)
def jJ (E:List (KL × RR)):Int:=E.foldl (fun m x=>max m (x.1.2 + 1)) 0
def Tw (fit:Tp→Bool) (rs:List TR) (ts:List Tp) (w:World) (e:Ending) (w':World):Prop :=
 ag w w'∧((aQ fit rs ts=false∧e=.returned (.tuple #[.pointer none,.bool false])) ∨
  (aQ fit rs ts=true∧∃ (D br bp bt nr np:Nat) (Mr:KL→Option Value) (Mp:K3→Option Value) (vo vu:Value) (f:ByteArray × ByteArray→Int),e=.returned (.tuple #[.pointer (some ⟨D,0,none⟩),.bool true])∧w.heap.size≤bt∧Least (ae rs) f ∧
   DatA w' rs D br bp bt (jJ (eT f rs)) nr Mr (eT f rs) (dK ts) (eB ts) (cZ ts) np Mp vo vu))
theorem O5 {w:af} {rs:List TR} {bt:Nat} (ht:aM dQ prog 94 w bt 36 (nX rs)) (hl:bt < w.heap.size) :
  DatA (((w.alloc (.map #[] 0)).alloc (.map #[] 0)).alloc (.cells #[.map (some bt),.int .i64 0,.map (some w.heap.size),.map (some (w.heap.size + 1)),.slice none 0 0,.slice none 0 0] 168)) rs (w.heap.size + 2) w.heap.size (w.heap.size + 1) bt 0 0 (fun _=>none) [] [] [] [] 0 (fun _=>none) (.slice none 0 0) (.slice none 0 0):=by
 obtain ⟨w1,h1⟩:∃ w1,w1=w.alloc (.map #[] 0):=⟨_,rfl⟩;obtain ⟨w2,h2⟩:∃ w2,w2=w1.alloc (.map #[] 0):=⟨_,rfl⟩;have s1:w1.heap.size=w.heap.size + 1:=by rw [h1]; simp
 have s2:w2.heap.size=w.heap.size + 2:=by rw [h2]; simp; omega
 rw [← h1,← h2];have b1:ag w w1:=by rw [h1]; exact (TT _ _).alloc (TS _) _
 have b2:ag w1 w2:=by rw [h2]; exact (TT _ _).alloc (TS _) _
 have b3:∀ o,ag w2 (w2.alloc o):=fun o=>(TT _ _).alloc (TS _) _;have g1:Ew w1 w.heap.size 0 (fun _=>none) []:=by rw [h1]; exact G.grp_made w
 have g2:G.Grp qi prog 223 46 6 Tp.row w2 (w.heap.size + 1) 0 (fun _=>none) []:=by
  have:=G.grp_made (enc:=qi) (P:=prog) (kt:=223) (et:=46) (sz:=6) (cl:=Tp.row) w1;rw [s1] at this; rw [h2]; exact this
 rw [← s2];refine ⟨⟨by omega,by simp,⟨_,heap_alloc_new w2 _⟩,by simp,by simp,by simp,by simp,by simp,by simp,g2.below (b3 _),World.ownsRow_nil _ _ _ _,World.ownsRow_nil _ _ _ _,fun g e=>by simp [Value.ownBlock] at e⟩,((ht.below b1).below b2).below (b3 _),(g1.below b2).below (b3 _),hl,by omega⟩
theorem O6 {p:Tp→Bool} {ts:List Tp} {k:Nat} (h:k < ts.length):(ts.take (k + 1)).all p=((ts.take k).all p && p ts[k]):=by
 rw [TV h,List.all_append]; simp
theorem QJ {p:Tp→Bool} {ts:List Tp} {k:Nat} (h:k < ts.length) (hp:p ts[k]=false):ts.all p=false:=by
 rw [List.all_eq_false];exact ⟨_,TQ h,by rw [hp]; decide⟩
theorem yK {rs:List TR} (h6:rs.length≤6) (hr:∀ r ∈ rs,r.rows.length≤6):(ak (ae rs)).length≤36:=by
 have key:∀ l:List TR,(∀ r ∈ l,r.rows.length≤6)→(ak (ae l)).length≤6 * l.length:=by
  intro l
  induction l with
  | nil=>intro _; simp [ak,ae]
  | cons r l ih =>
   intro h;have h1:=ih fun q hq=>h q (Uq _ hq);have h2:=h r (by simp);have e:ak (ae (r::l))=jG r.p ++ ak (ae l):=by simp [ak,ae]
   have e2:(jG r.p).length=r.rows.length:=by unfold jG; rw [Uy]; exact q8 _
   rw [e,T9,e2,List.length_cons];omega
 have:=key rs hr;omega
theorem O7 {rs:List TR} {σ:Ky→Option Int} (hS:bR (ae rs)) (h6:rs.length≤6) (hr:∀ r ∈ rs,r.rows.length≤6) (hL:Least (ae rs) (fun k=>(σ k).getD 0)) (hk:∀ k,(∃ x,σ k=some x) ↔ k ∈ ak (ae rs)) (y:Ky):0≤(σ y).getD 0∧(σ y).getD 0≤36:=by
 refine ⟨hL.sol.pos y,?_⟩;cases e:σ y with
 | none=>simp
 | some x =>
  have hy:y ∈ ak (ae rs):=(hk y).1 ⟨x,e⟩;obtain ⟨g,hg,hb⟩:=hL.sol.few (kw hS.2.1);have h1:=hL.low y hy g hg;have h2:=hb y hy;have h3:=yK h6 hr;simp only [e] at h1;omega
def wS (f:Ky→Int) (n:ByteArray) (r:RR):KL × RR:=((n,f (n,r.name)),r)
theorem Ma (f:Ky→Int) {rs:List TR} {k:Nat} (h:k < rs.length):eT f (rs.take (k + 1))=eT f (rs.take k) ++ rs[k].rows.map (wS f rs[k].name):=by
 unfold eT;rw [TV h,List.flatMap_append];simp [wS]
theorem Gt (E:List (KL × RR)) (x:KL × RR):jJ (E ++ [x])=max (jJ E) (x.1.2 + 1):=by simp [jJ]
theorem O8:∃ i,prog.info? 147=some i∧i.zero=some (.agg #[.string ⟨#[]⟩,.slice none 0 0])∧i.size=2∧i.bytes=40 :=
 info_parts (P:=prog) (e:=147) (z:=.agg #[.string ⟨#[]⟩,.slice none 0 0]) (size:=2) (bytes:=40) (by kernel_rfl)
theorem O9 (u:af):(zeroValue 125).run prog u=.ok (.slice none 0 0) u:=by kernel_rfl
theorem QK (u:af):(zeroValue 2).run prog u=.ok (.int .i64 0) u:=by kernel_rfl
theorem Dn {w:af} {br nr:Nat} {Mr:KL→Option Value} {E:List (KL × RR)} (h:Ew w br nr Mr E) (k:KL):w.ownsRow (br + 1) 147 2 ((Mr k).getD (.slice none 0 0)) (G.lookL E k).length (G.flatG QA (G.lookL E k)):=by
 rcases h.row k with ⟨e,e2⟩ | ⟨v,e,ho⟩
 ·rw [e,e2]; exact World.ownsRow_nil _ _ _ _
 rw [e]; exact ho
theorem Pb {w W w':af} {D g:Nat} {y x0 x1 x2 x3 x4 x5:Value} (h:W.cell? ⟨D,0,none⟩=some y∧W.cell? ⟨g,0,none⟩=some x0∧W.cell? ⟨g,1,none⟩=some x1∧W.cell? ⟨g,2,none⟩=some x2∧W.cell? ⟨g,3,none⟩=some x3∧W.cell? ⟨g,4,none⟩=some x4∧W.cell? ⟨g,5,none⟩=some x5∧D < W.heap.size∧g < W.heap.size∧ag w W) (hb:ag W w'):w'.cell? ⟨D,0,none⟩=some y∧w'.cell? ⟨g,0,none⟩=some x0∧w'.cell? ⟨g,1,none⟩=some x1∧w'.cell? ⟨g,2,none⟩=some x2∧w'.cell? ⟨g,3,none⟩=some x3∧w'.cell? ⟨g,4,none⟩=some x4∧w'.cell? ⟨g,5,none⟩=some x5∧D < w'.heap.size∧g < w'.heap.size∧ag w w':=by
 obtain ⟨h0,g0,g1,g2,g3,g4,g5,hn,hm,hB⟩:=h;have hc:∀ o,w'.cell? ⟨D,o,none⟩=W.cell? ⟨D,o,none⟩:=fun o=>hb.cell (p:=⟨D,o,none⟩) hn;have hd:∀ o,w'.cell? ⟨g,o,none⟩=W.cell? ⟨g,o,none⟩:=fun o=>hb.cell (p:=⟨g,o,none⟩) hm;exact ⟨(hc _).trans h0,(hd _).trans g0,(hd _).trans g1,(hd _).trans g2,(hd _).trans g3,(hd _).trans g4,(hd _).trans g5,TP hn hb.size,TP hm hb.size,hB.trans (hb.mono hB.size)⟩
theorem Jw (fit:Tp→Bool) (ad:Option Addr) (cap:Nat) (rs:List TR) (UJ:Option Addr) (cap':Nat) (ts:List Tp) (w:af) (hlen:rs.length≤1048576) (hs:kW w ad rs) (hl:∀ r ∈ rs,r.light) (hfr:∀ r ∈ rs,r.fits) (hC:Calls prog 91 #[.slice ad rs.length cap] w (Sr (ae rs) w)) (hfb:aJ (ae rs)=true→∀ t:Tp,t.ok=true→xM (ae rs) t.a t.r ⟨t.c,t.s⟩=fit t) (hlt:ts.length≤1048576) (hst:Sl w UJ ts) (hft:∀ x ∈ ts,x.fits) :
  Calls prog 58 #[.slice ad rs.length cap,.slice UJ ts.length cap'] w (Tw fit rs ts w):=by
 have HS:=aD hs;have HL:=aD hl;have WK:=aD hfr;have HST:=aD hst;have UL:=aD hft;have HC:=aD hC;have HFB:=aD hfb;obtain ⟨iR,i0,i1,i2,i3⟩:=O8;have Vx:=aD (And.intro i0 (And.intro i1 (And.intro i2 i3)));clear i0 i1 i2 i3;have U5:ts.length≤maxLen:=by unfold maxLen; omega
 clear hs hl hfr hC hfb hst hft;go_enter func58,ntmps58;go_wp2_with fail;refine HC.out.mono ?_;rintro e w1 ⟨hL,hb1⟩;have HB1:=aD hb1;clear HC hb1;rcases hL with ⟨bS,nS,σ,rfl,hS,hM,Wl,hk⟩ | ⟨rfl,hno⟩
 ·have HSD:Hid (aJ (ae rs)=true):=aY.2 hS;have HM:=aD hM;have Vj:=aD Wl;have YY:=aD hk;have hSP:=hS;obtain ⟨h6,Wd,-⟩:=bq hSP.1;have HTAB:=aD (wG hSP.1);have V5:=aD Wd;clear hM Wl hk hS hSP Wd;go_wp2_with fail;refine (wQ UJ cap' ts _ U5 (HST.out.below HB1.out) UL.out).mono ?_;rintro e w2 ⟨he,hb2⟩;have HB2:=aD (HB1.out.trans (hb2.mono HB1.out.size));have Vd:=aD (HM.out.below hb2);clear hb2 HM;cases h2:dJ ts;case false=>
   rw [h2] at he; subst he;have HN:Hid (aQ fit rs ts=false):=by show _=_; unfold aQ; rw [h2]; simp
   clear h2;go_wp2;exact bodyPost_ret (v:=.tuple #[.pointer none,.bool false]) (by simp [results,Tryz.results58,go_sem]) rfl ⟨HB2.out,.inl ⟨HN.out,rfl⟩⟩
  rw [h2] at he; subst he;have HTU:=aD (RA h2);have Xr:Hid (aQ fit rs ts=ts.all (fit)):=by show _=_; unfold aQ; rw [h2,HSD.out]; simp
  have h40:ts.length≤40:=HTU.out.2.2;have HTBL:=aD (qG ad cap rs w2 h6 (HS.out.below HB2.out) V5.out WK.out);clear h2;go_wp2_with fail;refine HTBL.out.mono ?_;rintro e w3 ⟨rfl,hV3,hb3⟩;have HB3:=aD (HB2.out.trans (hb3.mono HB2.out.size));have hbt:w2.heap.size < w3.heap.size:=hV3.lt;have hw2:w.heap.size≤w2.heap.size:=HB2.out.size;have XY:=aD (Vd.out.below hb3);have YN:=aD (O5 hV3 hbt);obtain ⟨bt,hbte⟩:∃ b,b=w2.heap.size:=⟨_,rfl⟩;obtain ⟨br,YO⟩:∃ b,b=w3.heap.size:=⟨_,rfl⟩;rw [← hbte] at YN hbt hw2 ⊢;obtain ⟨W,hW⟩:∃ W,W=((w3.alloc (.map #[] 0)).alloc (.map #[] 0)).alloc (.cells #[.map (some bt),.int .i64 0,.map (some w3.heap.size),.map (some (w3.heap.size + 1)),.slice none 0 0,.slice none 0 0] 168):=⟨_,rfl⟩;rw [← hW] at YN;have hmm:=@run_makeMap prog;have HBW0:Hid (ag w3 W):=by
   show Below _ _ _;rw [hW];exact (((TT _ _).alloc (TS _) _).alloc (by simp) _).alloc (by simp; omega) _
  have HMW:=aD (XY.out.below HBW0.out);have UG:=aD (HB3.out.trans (HBW0.out.mono HB3.out.size));have hbS:bS < br:=by rw [YO]; exact XY.out.lt
  clear hb3 hV3 HTBL hbte;obtain ⟨D,hDe⟩:∃ b,b=br + 2:=⟨_,rfl⟩;obtain ⟨bp,hbpe⟩:∃ b,b=br + 1:=⟨_,rfl⟩;rw [← YO] at YN;rw [← hDe,← hbpe] at YN;have hDW:D < W.heap.size:=YN.out.dat.lt;go_wp2_with fail;rw [← hW,show w3.heap.size + 1 + 1=D by omega,show w3.heap.size + 1=bp by omega,← YO];have hwbr:w.heap.size≤br:=by rw [YO]; exact HB3.out.size
  have hbtr:bt < br:=by rw [YO]; exact hbt
  clear hbt;clear YO hDe hbpe hW hmm HBW0;go_loopw [37] (fun i wr=>∃ k:Nat,k≤ts.length∧i=.int .i64 (k:Int)∧Hid ((ts.take k).all (fit)=true)∧Hid (∃ Mp vo vu,DatA wr rs D br bp bt 0 0 (fun _=>none) [] (dK (ts.take k)) (eB (ts.take k)) (cZ (ts.take k)) k Mp vo vu)∧Hid (Below br W wr)) (fun i _=>ts.length - (intOf i).toNat);case atStart=>exact ⟨0,TW _,rfl,rfl,⟨_,_,_,by simpa [dK,eB,cZ] using YN.out⟩,TT _ _⟩
  obtain ⟨k,hk,rfl,UN,XR,HB⟩:=hrel;have WF:Hid (ag w wr):=UG.out.trans (HB.out.mono hwbr);by_cases hkl:k < ts.length
  ·rcases HST.out.below WF.out with hnil | ⟨b,off,rfl,hb,hr⟩
   ·rw [hnil] at hkl; simp at hkl
   obtain ⟨t0,t1,t2,t3,t4,t5⟩:=hr k hkl;have hk1:=bB k;have hk2:(k:Int) < (ts.length:Int):=by omega
   have HAT:=aD (O6 (p:=fit) hkl);have HAH:=aD (QJ (p:=fit) hkl);have Xi:=aD (UL.out _ (TQ hkl));have ZO:=aD (HTU.out.2.1 _ (TQ hkl));have HTK:Hid (ts.take (k + 1)=ts.take k ++ [ts[k]]):=TV hkl;obtain ⟨x,hx⟩:∃ x,x=ts[k]:=⟨_,rfl⟩;rw [← hx] at t0 t1 t2 t3 t4 t5 HAT HAH Xi ZO HTK;obtain ⟨W4,VU⟩:∃ W4,W4=wr.alloc (.cells #[.string x.a,.string x.b,.string x.r,.string x.c,.string x.d,.string x.s] 46):=⟨_,rfl⟩;have hb4:ag wr W4:=by rw [VU]; exact (TT _ _).alloc (TS _) _
   have hx4:tZ W4 wr.heap.size x:=by rw [VU]; exact Ef wr x _
   obtain ⟨Mp,vo,vu,V4⟩:=XR.out;have HD4:=aD (V4.below hb4);have HX4:=aD hx4;have YP:=aD (WF.out.trans (hb4.mono WF.out.size));have Xa:=aD (HB.out.trans (hb4.mono (by have:=HB.out.size; have:=YN.out.ord; have:=YN.out.dat.gt; omega)));have HLF:Hid (∀ W',(fun w'=>w'.cell? ⟨D,0,none⟩=some (.map (some bt))∧w'.cell? ⟨wr.heap.size,0,none⟩=some (.string x.a)∧w'.cell? ⟨wr.heap.size,1,none⟩=some (.string x.b)∧w'.cell? ⟨wr.heap.size,2,none⟩=some (.string x.r)∧w'.cell? ⟨wr.heap.size,3,none⟩=some (.string x.c)∧w'.cell? ⟨wr.heap.size,4,none⟩=some (.string x.d)∧w'.cell? ⟨wr.heap.size,5,none⟩=some (.string x.s)∧D < w'.heap.size∧wr.heap.size < w'.heap.size∧ag W4 w') W'→Calls prog 100 #[.map (some bt),.agg #[.string x.a,.string x.b,.string x.r,.string x.c,.string x.d,.string x.s]] W' fun e w'=>e=.returned (.bool (fit x))∧ag W' w'):=fun W' hS'=>by
    have hb':=hS'.2.2.2.2.2.2.2.2.2;refine (OI bt 36 rs ad (nX rs) x.a x.b x.r x.c x.d x.s W' ((HD4.out.tab).below hb') HTAB.out (HS.out.below (YP.out.trans (hb'.mono YP.out.size))) HL.out Xi.out.1 Xi.out.2.2.1).mono ?_;rintro e w6 ⟨rfl,hb6⟩;exact ⟨by rw [HFB.out HSD.out x ZO.out],hb6⟩
   have H0:Hid ((fun w'=>w'.cell? ⟨D,0,none⟩=some (.map (some bt))∧w'.cell? ⟨wr.heap.size,0,none⟩=some (.string x.a)∧w'.cell? ⟨wr.heap.size,1,none⟩=some (.string x.b)∧w'.cell? ⟨wr.heap.size,2,none⟩=some (.string x.r)∧w'.cell? ⟨wr.heap.size,3,none⟩=some (.string x.c)∧w'.cell? ⟨wr.heap.size,4,none⟩=some (.string x.d)∧w'.cell? ⟨wr.heap.size,5,none⟩=some (.string x.s)∧D < w'.heap.size∧wr.heap.size < w'.heap.size∧ag W4 w') W4.drew):=⟨HD4.out.dat.c0,hx4.1,hx4.2.1,hx4.2.2.1,hx4.2.2.2.1,hx4.2.2.2.2.1,hx4.2.2.2.2.2.1,HD4.out.dat.lt,hx4.2.2.2.2.2.2,(TT _ _).drew⟩;have ho40:=oz (ts.take k);have hu40:=mr (ts.take k);have hte:(dK (ts.take k)).length≤40:=by unfold dK; simp; omega
   have htl:(ts.take k).length≤40:=by rw [Ut]; omega
   have HALK:=UN;clear hr hx hx4 V4 hb4 XR HB UN;cases hfx:fit x;case false=>
    rw [hfx] at HLF;go_wp2_with fail;rw [← VU]; clear VU
    go_region_held3 (fun w'=>w'.cell? ⟨D,0,none⟩=some (.map (some bt))∧w'.cell? ⟨wr.heap.size,0,none⟩=some (.string x.a)∧w'.cell? ⟨wr.heap.size,1,none⟩=some (.string x.b)∧w'.cell? ⟨wr.heap.size,2,none⟩=some (.string x.r)∧w'.cell? ⟨wr.heap.size,3,none⟩=some (.string x.c)∧w'.cell? ⟨wr.heap.size,4,none⟩=some (.string x.d)∧w'.cell? ⟨wr.heap.size,5,none⟩=some (.string x.s)∧D < w'.heap.size∧wr.heap.size < w'.heap.size∧ag W4 w')
     (first | assumption | exact Pb (by assumption) hbx | exact H0.out)
     (first | (go_at_call 100; refine (HLF.out _ (by assumption)).mono ?_; rintro e w' ⟨rfl,hbx⟩))
    rename_i hH;have HBE:Hid (ag w _):=YP.out.trans (hH.2.2.2.2.2.2.2.2.2.mono YP.out.size);have HN:Hid (aQ fit rs ts=false):=Xr.out.trans (HAH.out hfx);clear hH;go_wp2;exact bodyPost_ret (v:=.tuple #[.pointer none,.bool false]) (by simp [results,Tryz.results58,go_sem]) rfl ⟨HBE.out,.inl ⟨HN.out,rfl⟩⟩
   rw [hfx] at HLF;go_wp2_with fail;rw [← VU]; clear VU
   go_region_held3 (fun w'=>w'.cell? ⟨D,0,none⟩=some (.map (some bt))∧w'.cell? ⟨wr.heap.size,0,none⟩=some (.string x.a)∧w'.cell? ⟨wr.heap.size,1,none⟩=some (.string x.b)∧w'.cell? ⟨wr.heap.size,2,none⟩=some (.string x.r)∧w'.cell? ⟨wr.heap.size,3,none⟩=some (.string x.c)∧w'.cell? ⟨wr.heap.size,4,none⟩=some (.string x.d)∧w'.cell? ⟨wr.heap.size,5,none⟩=some (.string x.s)∧D < w'.heap.size∧wr.heap.size < w'.heap.size∧ag W4 w')
    (first | assumption | exact Pb (by assumption) hbx | exact H0.out)
    (first | (go_at_call 100; refine (HLF.out _ (by assumption)).mono ?_; rintro e w' ⟨rfl,hbx⟩))
   rename_i hH;obtain ⟨-,y0,y1,y2,y3,y4,y5,-,yl,hbH⟩:=hH;rename_i w5;have HD5:=aD (HD4.out.below hbH);have HBw5:=aD (YP.out.trans (hbH.mono YP.out.size));have HBW5:=aD (Xa.out.trans (hbH.mono (by have:=HD4.out.ord; have:=HD4.out.dat.gt; have:=HD4.out.dat.lt; omega)));have HALN:Hid ((ts.take (k + 1)).all fit=true):=by show _=_; rw [HAT.out,HALK.out,hfx]; rfl
   clear hbH;go_wp2_with fail;refine (OD D br bp _ 0 _ _ _ k Mp vo vu x _ HD5.out.dat (by omega) (by omega) (by omega) (by omega) Xi.out).mono ?_;rintro e w6 ⟨rfl,⟨Mp',XC,XE,hd6⟩,hb6⟩;have HDN6:Hid (∃ Mp vo vu,DatA w6 rs D br bp bt 0 0 (fun _=>none) [] (dK (ts.take (k + 1))) (eB (ts.take (k + 1))) (cZ (ts.take (k + 1))) (k + 1) Mp vo vu):=by
    rw [HTK.out,I9,Aj,xL];exact ⟨Mp',XC,XE,HD5.out.tell hd6 hb6⟩
   have HBW6:Hid (Below br W w6):=HBW5.out.trans (hb6.mono (by have:=HD4.out.ord; omega));clear hd6 hb6;go_wp2;go_roundw;case rel=>exact ⟨k + 1,by omega,by go_num,HALN,HDN6,HBW6⟩
   simp [intOf] <;> omega
  obtain rfl:k=ts.length:=by omega
  rw [Ug] at UN XR;have HRT:Hid (aQ fit rs ts=true):=Xr.out.trans UN.out;obtain ⟨Mp,vo,vu,V4⟩:=XR.out;have HD0:=aD V4;obtain ⟨f,hf⟩:∃ f:Ky→Int,f=fun k=>(σ k).getD 0:=⟨_,rfl⟩;have HF:=aD hf;have HLS:Hid (Least (ae rs) f):=by rw [hf]; exact Vj.out
  have HF36:Hid (∀ y,0≤f y∧f y≤36):=by rw [hf]; exact O7 (aY.1 HSD.out) h6 V5.out Vj.out YY.out
  obtain ⟨wz,hwz⟩:∃ wz,wz=wr:=⟨_,rfl⟩;subst hwz;have hkk:decide ((ts.length:Int) < (ts.length:Int))=false:=by simp
  clear V4 XR UN hf Vj HTU Xr;go_wp2_with fail;go_loopw [54] (fun i wr=>∃ k:Nat,k≤rs.length∧i=.int .i64 (k:Int)∧Hid ((eT f (rs.take k)).length≤6 * k)∧Hid (∃ nr Mr,nr≤6 * k∧DatA wr rs D br bp bt (jJ (eT f (rs.take k))) nr Mr (eT f (rs.take k)) (dK ts) (eB ts) (cZ ts) ts.length Mp vo vu)∧Hid (Below br W wr)) (fun i _=>rs.length - (intOf i).toNat);case atStart=>exact ⟨0,TW _,rfl,TW _,⟨0,_,TW _,HD0.out⟩,HB⟩
  clear HD0 HB WF;obtain ⟨k,hk,rfl,V6,XR,HB⟩:=hrel;have WF:Hid (ag w wr):=UG.out.trans (HB.out.mono hwbr);by_cases hkl:k < rs.length
  ·rcases HS.out.below WF.out with hnil | ⟨b,off,rfl,hb,hr,hok⟩
   ·rw [hnil] at hkl; simp at hkl
   obtain ⟨t0,t1⟩:=hr k hkl;have hk1:=bB k;have hk2:(k:Int) < (rs.length:Int):=by omega
   have h6k:rs[k].rows.length≤6:=V5.out _ (TQ hkl);have z0:rs[k].name.size≤maxLen:=(WK.out _ (TQ hkl)).1;have HFRk:Hid (∀ q ∈ rs[k].rows,q.fits):=(WK.out _ (TQ hkl)).2.2;have Zu:=aD (Ma f hkl);obtain ⟨W1,hW1⟩:∃ W1,W1=wr.alloc (.cells #[.string rs[k].name,.slice rs[k].ad rs[k].rows.length rs[k].cap] 127):=⟨_,rfl⟩;have hal:ag wr W1:=by rw [hW1]; exact (TT _ _).alloc (TS _) _
   obtain ⟨nr,Mr,hnr,V4⟩:=XR.out;have HD1:=aD (V4.below hal);have hbrz:br < wr.heap.size:=by have:=V4.ord; have:=V4.dat.gt; have:=V4.dat.lt; omega
   have HB1:Hid (Below br W W1):=HB.out.trans (hal.mono (by omega));have HT1:Hid (W1.heap[wr.heap.size]?=some (.cells #[.string rs[k].name,.slice rs[k].ad rs[k].rows.length rs[k].cap] 127 (0,0))):=by rw [hW1]; exact heap_alloc_new wr _
   have a1:W1.cell? ⟨wr.heap.size,1,none⟩=some (.slice rs[k].ad rs[k].rows.length rs[k].cap):=by rw [hW1]; simp
   clear hr hok hal V4 XR;go_wp2_with fail;rw [← hW1];clear hW1 t0 t1 a1 HB;obtain ⟨wo,hwo⟩:∃ wo,wo=wr:=⟨_,rfl⟩;subst hwo;go_loopw [61] (fun i w2=>∃ j:Nat,j≤rs[k].rows.length∧i=.int .i64 (j:Int)∧Hid (∃ nr Mr,nr≤6 * k + j∧DatA w2 rs D br bp bt (jJ (eT f (rs.take k) ++ (rs[k].rows.take j).map (wS f rs[k].name))) nr Mr (eT f (rs.take k) ++ (rs[k].rows.take j).map (wS f rs[k].name)) (dK ts) (eB ts) (cZ ts) ts.length Mp vo vu)∧Hid (w2.heap[wo.heap.size]?=some (.cells #[.string rs[k].name,.slice rs[k].ad rs[k].rows.length rs[k].cap] 127 (0,0)))∧Hid (Below br W w2)) (fun i _=>rs[k].rows.length - (intOf i).toNat);case atStart=>exact ⟨0,TW _,rfl,⟨nr,Mr,by omega,by simpa using HD1.out⟩,HT1,HB1⟩
   clear HD1 HT1 HB1 WF;obtain ⟨j,hj,rfl,XR,HT,HB⟩:=hrel;have WF:Hid (ag w wr):=UG.out.trans (HB.out.mono hwbr);by_cases hjl:j < rs[k].rows.length
   ·rcases HS.out.below WF.out with hnil | ⟨b',off',he,hb2,hr,hok⟩
    ·rw [hnil] at hkl; simp at hkl
    injection he with he; injection he with he1 he2; subst he1; subst he2;have ok:=hok rs[k] (TQ hkl);rcases ok with hnil | ⟨b2,UZ,had,hbb,hr2,-⟩
    ·rw [hnil] at hjl; simp at hjl
    obtain ⟨q0,q1⟩:=hr2 j hjl;have z1:rs[k].rows[j].name.size≤maxLen:=(HFRk.out _ (TQ hjl)).1;have hj1:=bB j;have hj2:(j:Int) < (rs[k].rows.length:Int):=by omega
    obtain ⟨kl,hkl'⟩:=jB (rs[k].name,rs[k].rows[j].name) z0 z1;have Vm:=aD hkl';obtain ⟨nr,Mr,hnr,V4⟩:=XR.out;have HTKE:Hid ((rs[k].rows.take (j + 1)).map (wS f rs[k].name)=(rs[k].rows.take j).map (wS f rs[k].name) ++ [wS f rs[k].name rs[k].rows[j]]):=by show _=_; rw [TV hjl,List.map_append]; rfl
    have hEl:((rs[k].rows.take j).map (wS f rs[k].name)).length=j:=by rw [Uy,Ut]; omega
    obtain ⟨E0,hE0⟩:∃ E0,E0=eT f (rs.take k) ++ (rs[k].rows.take j).map (wS f rs[k].name):=⟨_,rfl⟩;have hE0l:E0.length≤36:=by rw [hE0,T9,hEl]; have:=V6.out; omega
    rw [← hE0] at V4;have WB:=aD hE0;obtain ⟨fv,hfv⟩:∃ fv,fv=f (rs[k].name,rs[k].rows[j].name):=⟨_,rfl⟩;have hfv36:=HF36.out (rs[k].name,rs[k].rows[j].name);rw [← hfv] at hfv36;obtain ⟨hfv0,hfv1⟩:=hfv36;have HFV:=aD hfv;have HLK:Hid ((iW σ (rs[k].name,rs[k].rows[j].name)).getD (.int .i64 0)=.int .i64 fv):=by
     show _=_;rw [hfv,HF.out]; unfold iW;cases h:σ (rs[k].name,rs[k].rows[j].name) <;> simp [h]
    obtain ⟨W2,hW2⟩:∃ W2,W2=wr.alloc (.cells #[.string rs[k].rows[j].name,.slice rs[k].rows[j].ad rs[k].rows[j].rows.length rs[k].rows[j].cap] 147):=⟨_,rfl⟩;obtain ⟨W3,hW3⟩:∃ W3,W3=W2.alloc (.cells #[.string rs[k].name,.int .i64 fv] 172):=⟨_,rfl⟩;have hs2:W2.heap.size=wr.heap.size + 1:=by rw [hW2]; simp
    have hs3:W3.heap.size=wr.heap.size + 2:=by rw [hW3]; simp; omega
    have YQ:ag wr W2:=by rw [hW2]; exact (TT _ _).alloc (TS _) _
    have XB:ag W2 W3:=by rw [hW3]; exact (TT _ _).alloc (TS _) _
    have hwol:wo.heap.size < wr.heap.size:=by
     rcases Nat.lt_or_ge wo.heap.size wr.heap.size with h | h
     ·exact h
     have:=HT.out; rw [Array.getElem?_eq_none h] at this; cases this
    have HFRB:Hid (G.FreeB Mr wr.heap.size):=V4.rel.fresh (TS _);have Vd:Hid (aM dQ prog 94 W2 bS nS (iW σ)):=HMW.out.of_block (by rw [YQ.block bS (by omega),HB.out.block bS hbS]);have HD3:=aD ((V4.below YQ).below XB);have HB3':Hid (Below br W W3):=(HB.out.trans (YQ.mono (by omega))).trans (XB.mono (by omega));have HT3:Hid (W3.heap[wo.heap.size]?=some (.cells #[.string rs[k].name,.slice rs[k].ad rs[k].rows.length rs[k].cap] 127 (0,0))):=by show _=_; rw [XB.block _ (by omega),YQ.block _ (by omega)]; exact HT.out
    have c0:wr.cell? ⟨wo.heap.size,0,none⟩=some (.string rs[k].name):=by simp [World.cell?,HT.out]
    have c0b:W2.cell? ⟨wo.heap.size,0,none⟩=some (.string rs[k].name):=(YQ.cell (p:=⟨wo.heap.size,0,none⟩) (by show wo.heap.size < _; omega)).trans c0;have g0:W2.cell? ⟨wr.heap.size,0,none⟩=some (.string rs[k].rows[j].name):=by rw [hW2]; simp
    have HR2:Hid (W3.cell? ⟨wr.heap.size,0,none⟩=some (.string rs[k].rows[j].name)∧W3.cell? ⟨wr.heap.size,1,none⟩=some (.slice rs[k].rows[j].ad rs[k].rows[j].rows.length rs[k].rows[j].cap)∧W3.cell? ⟨wr.heap.size + 1,0,none⟩=some (.string rs[k].name)∧W3.cell? ⟨wr.heap.size + 1,1,none⟩=some (.int .i64 fv)):=by
     show _∧_;rw [hW3,hW2];refine ⟨?_,?_,?_,?_⟩ <;> simp
    rw [had];clear hr hok hr2 hkl' V4 XR YQ XB HT HB hE0 hfv hEl;go_wp2_with (first | (at_lookup; rw [← hW2]; refine jA _ rfl _ _ 153 rfl 94 2 ic underlying153 (QK _) bS nS (iW σ) rfl Vd.out (rs[k].name,rs[k].rows[j].name) kl rfl Vm.out ?_; rw [HLK.out]));rw [← hW2,← hW3];clear hW2 hW3 g0 c0b c0 q0 q1 HLK Vd;obtain ⟨row0,hr0⟩:∃ r,r=(Mr (rs[k].name,fv)).getD (.slice none 0 0):=⟨_,rfl⟩;obtain ⟨nn,hnn⟩:∃ n,n=(G.lookL E0 (rs[k].name,fv)).length:=⟨_,rfl⟩;obtain ⟨xs,hxs⟩:∃ x,x=G.flatG QA (G.lookL E0 (rs[k].name,fv)):=⟨_,rfl⟩;have Vy:=aD hr0;have Wx:=aD hnn;have Wj:=aD hxs;have hnl:nn≤36:=by rw [hnn]; exact TZ (List.length_filterMap_le _ _) hE0l
    have Vn:Hid (∀ W0:World,ag W3 W0→W0.ownsRow (br + 1) 147 2 row0 nn xs):=fun W0 hb=>by rw [hr0,hnn,hxs]; exact Dn (HD3.out.rel.below hb) _
    have HKEY:Hid (∃ kl,keyOf prog 172 (FB (rs[k].name,fv))=some kl):=Kc _ z0 hfv0 (by show fv≤1000000; omega);have hDl:D < W3.heap.size:=HD3.out.dat.lt;have hbrD:br < D:=by have:=HD3.out.ord; have:=HD3.out.dat.gt; omega
    clear hr0 hnn hxs;obtain ⟨C2,hC2⟩:∃ C:Nat→Value,C=fun n=>(Value.pointer (some ⟨D,0,none⟩)::.pointer (some ⟨D,0,none⟩)::.pointer (some ⟨D,2,none⟩)::.map (some br)::.agg #[.string rs[k].name,.int .i64 fv]::.agg #[.string rs[k].rows[j].name,.slice rs[k].rows[j].ad rs[k].rows[j].rows.length rs[k].rows[j].cap]::[]).getD n undef:=⟨_,rfl⟩;have Va:Hid (C2 0=Value.pointer (some ⟨D,0,none⟩)∧C2 1=Value.pointer (some ⟨D,0,none⟩)∧C2 2=Value.pointer (some ⟨D,2,none⟩)∧C2 3=Value.map (some br)∧C2 4=Value.agg #[.string rs[k].name,.int .i64 fv]∧C2 5=Value.agg #[.string rs[k].rows[j].name,.slice rs[k].rows[j].ad rs[k].rows[j].rows.length rs[k].rows[j].cap]):=by show _∧_; rw [hC2]; exact ⟨rfl,rfl,rfl,rfl,rfl,rfl⟩
    clear hC2;refine pM 11 (fun n=>(u76::u77::u78::u79::u80::u82::u83::u84::u81::u85::u86::[]).getD n undef) (fun fq=>{ tmps:=List.toArray (Value.slice (some ⟨b,off,none⟩) rs.length cap::.slice UJ ts.length cap'::undef::undef::u4::u5::.map (some bS)::.bool true::.pointer (some ⟨D,0,none⟩)::undef::u10::undef::.pointer (some ⟨wo.heap.size,0,none⟩)::undef::.pointer (some ⟨wr.heap.size,0,none⟩)::.int .i64 fv::.pointer (some ⟨wr.heap.size + 1,0,none⟩)::.tuple #[.map (some bS),.bool true]::.slice (some ⟨b,off,none⟩) rs.length cap::.tuple #[.map (some bS),.bool true]::.map (some bS)::.bool true::.bool true::.bool false::.bool false::.slice UJ ts.length cap'::.bool true::.bool false::.bool false::.slice (some ⟨b,off,none⟩) rs.length cap::.map (some bt)::.map (some br)::.map (some bp)::.agg #[.map (some bt),.int .i64 0,.map (some br),.map (some bp),.slice none 0 0,.slice none 0 0]::.pointer (some ⟨D,0,none⟩)::.slice UJ ts.length cap'::.int .i64 ts.length::.int .i64 ts.length::.bool false::u39::u40::u41::u42::u43::u44::u45::u46::u47::u48::u49::u50::u51::.slice (some ⟨b,off,none⟩) rs.length cap::.int .i64 rs.length::.int .i64 k::.bool true::.pointer (some ⟨b,off + k * 2,none⟩)::.agg #[.string rs[k].name,.slice (some ⟨b2,UZ,none⟩) rs[k].rows.length rs[k].cap]::.pointer (some ⟨wo.heap.size,1,none⟩)::.slice (some ⟨b2,UZ,none⟩) rs[k].rows.length rs[k].cap::.int .i64 rs[k].rows.length::.int .i64 j::.bool true::.pointer (some ⟨b2,UZ + j * 2,none⟩)::.agg #[.string rs[k].rows[j].name,.slice rs[k].rows[j].ad rs[k].rows[j].rows.length rs[k].rows[j].cap]::.map (some bS)::.pointer (some ⟨wo.heap.size,0,none⟩)::.string rs[k].name::.pointer (some ⟨wr.heap.size,0,none⟩)::.string rs[k].rows[j].name::.agg #[.string rs[k].name,.string rs[k].rows[j].name]::.int .i64 fv::.pointer (some ⟨wo.heap.size,0,none⟩)::.string rs[k].name::.int .i64 fv::.agg #[.string rs[k].name,.int .i64 fv]::(fq 0)::(fq 1)::(fq 2)::(fq 3)::(fq 4)::(fq 8)::(fq 5)::(fq 6)::(fq 7)::(fq 9)::(fq 10)::u87::u88::u89::u90::u91::u92::u93::u94::u95::u96::u97::u98::undef::[]),defers:=[] }) (G.EI C2 #[.string rs[k].rows[j].name,.slice rs[k].rows[j].ad rs[k].rows[j].rows.length rs[k].rows[j].cap] 147 2 W3 br row0 nn xs (G.Back FB prog 172 165 br nr Mr (rs[k].name,fv))) (by kernel_rfl) rfl (by kernel_rfl) (by kernel_rfl) rfl (G.ei_start W3) ?stepA ?finA;case stepA =>
     rintro i hi o ho l fq w' Vl hI hpre;have HI:=az hI;have UD:Hid (∀ e ∈ o.after,Region.binds .any e=true→l e.on=true):=hpre;clear hI hpre;have hc:=M9 (i:=i) (by omega);clear hi
     repeat' rcases hc with rfl | hc
     ·cases ho;have hA:=HI.out.early (i:=0) (by omega) Vl;clear UD HI;refine aa rfl fun K HK=>?_;go_simp;exact HK.out _ _ ⟨Value.pointer (some ⟨D,0,none⟩),by simp [upd, *],hA.put (by omega) Va.out.1.symm⟩
     ·cases ho;have hA:=HI.out.early (i:=1) (by omega) Vl;have e0:=(hA.val 0 (by omega) (UD.out ⟨0,.data⟩ (by simp) rfl)).trans Va.out.1;clear UD HI;refine aa rfl fun K HK=>?_;simp only [e0];go_simp;exact HK.out _ _ ⟨Value.pointer (some ⟨D,0,none⟩),by simp [upd, *],hA.put (by omega) Va.out.2.1.symm⟩
     ·cases ho;have hA:=HI.out.early (i:=2) (by omega) Vl;have e1:=(hA.val 1 (by omega) (UD.out ⟨1,.data⟩ (by simp) rfl)).trans Va.out.2.1;clear UD HI;refine aa rfl fun K HK=>?_;simp only [e1];go_simp;exact HK.out _ _ ⟨Value.pointer (some ⟨D,2,none⟩),by simp [upd, *],hA.put (by omega) Va.out.2.2.1.symm⟩
     ·cases ho;have hA:=HI.out.early (i:=3) (by omega) Vl;have e2:=(hA.val 2 (by omega) (UD.out ⟨2,.data⟩ (by simp) rfl)).trans Va.out.2.2.1;have hb':=hA.bel;have d2:=(hb'.cell (p:=⟨D,2,none⟩) hDl).trans HD3.out.dat.c2;clear UD HI;refine aa rfl fun K HK=>?_;simp only [e2];go_simp;exact HK.out _ _ ⟨Value.map (some br),by simp [upd, *],hA.put (by omega) Va.out.2.2.2.1.symm⟩
     ·cases ho;have hA:=HI.out.early (i:=4) (by omega) Vl;have hb':=hA.bel;have k0:=(hb'.cell (p:=⟨wr.heap.size + 1,0,none⟩) (by show wr.heap.size + 1 < _; omega)).trans HR2.out.2.2.1;have k1:=(hb'.cell (p:=⟨wr.heap.size + 1,1,none⟩) (by show wr.heap.size + 1 < _; omega)).trans HR2.out.2.2.2;clear UD HI;refine aa rfl fun K HK=>?_;go_simp;exact HK.out _ _ ⟨Value.agg #[.string rs[k].name,.int .i64 fv],by simp [upd, *],hA.put (by omega) Va.out.2.2.2.2.1.symm⟩
     ·cases ho;have hA:=HI.out.early (i:=5) (by omega) Vl;have hb':=hA.bel;have k0:=(hb'.cell (p:=⟨wr.heap.size,0,none⟩) (by show wr.heap.size < _; omega)).trans HR2.out.1;have k1:=(hb'.cell (p:=⟨wr.heap.size,1,none⟩) (by show wr.heap.size < _; omega)).trans HR2.out.2.1;clear UD HI;refine aa rfl fun K HK=>?_;go_simp;exact HK.out _ _ ⟨Value.agg #[.string rs[k].rows[j].name,.slice rs[k].rows[j].ad rs[k].rows[j].rows.length rs[k].rows[j].cap],by simp [upd, *],hA.put (by omega) Va.out.2.2.2.2.2.symm⟩
     ·cases ho;have hA:=HI.out.early (i:=6) (by omega) Vl;have e5:=(hA.val 5 (by omega) (UD.out ⟨5,.data⟩ (by simp) rfl)).trans Va.out.2.2.2.2.2;clear UD HI;refine aa rfl fun K HK=>?_;simp only [e5];go_simp;exact HK.out _ _ ⟨_,by simp [upd,e5],hA.lay⟩
     ·cases ho;have hA:=HI.out.early (i:=7) (by omega) Vl;have e3:=(hA.val 3 (by omega) (UD.out ⟨3,.data⟩ (by simp) rfl)).trans Va.out.2.2.2.1;have e4:=(hA.val 4 (by omega) (UD.out ⟨4,.data⟩ (by simp) rfl)).trans Va.out.2.2.2.2.1;have hall:∀ k,k≤6→l k=true:=fun k hk=>by
       have hc:=Td (i:=k) (by omega)
       repeat' rcases hc with rfl | hc
       ·exact UD.out ⟨0,.phase⟩ (by simp) rfl
       ·exact UD.out ⟨1,.phase⟩ (by simp) rfl
       ·exact UD.out ⟨2,.phase⟩ (by simp) rfl
       ·exact UD.out ⟨3,.phase⟩ (by simp) rfl
       ·exact UD.out ⟨4,.phase⟩ (by simp) rfl
       ·exact UD.out ⟨5,.phase⟩ (by simp) rfl
       exact UD.out ⟨6,.phase⟩ (by simp) rfl
      have hD':=HD3.out.below hA.bel;obtain ⟨kl2,hkl2⟩:=HKEY.out;obtain ⟨st,w1',hrun,hg,hback⟩:=hD'.rel.map.entry NM NL underlying165 O9 (by unfold maxLen; omega) hkl2;rw [← Vy.out] at hrun;have hrun':(Instr.mapEntry 165 (.map (some br)) (Value.agg #[.string rs[k].name,.int .i64 fv])).run prog w'=.ok (.tuple #[row0,goInt st]) w1':=hrun;clear UD HI;refine aa rfl fun K HK=>?_;simp only [e3,e4];go_simp;exact HK.out _ _ ⟨_,by simp [upd,e3,e4,goInt],hA.took hall hg hback⟩
     ·cases ho;have h7:=UD.out ⟨7,.data⟩ (by simp) rfl;have hB:=HI.out.midB h7 (i:=8) (by omega) Vl;obtain ⟨st,e7⟩:=HI.out.seven h7;clear UD HI;refine aa rfl fun K HK=>?_;simp only [e7];go_simp;exact HK.out _ _ ⟨_,by simp [upd,e7,goInt],hB.first⟩
     ·cases ho;have h7:=UD.out ⟨7,.chain⟩ (by simp) rfl;have h8:=UD.out ⟨8,.data⟩ (by simp) rfl;have hB:=HI.out.midB h7 (i:=9) (by omega) Vl;obtain ⟨W0,st,g,hm1,hm2,XA,YD,WV,e7,hm7,Z9,hm9⟩:=hB.mid;have e8:=Z9 h8;have hown:=(Vn.out W0 hm1).kept WV (by
       rcases h:row0.ownBlock with _ | g'
       ·exact .inl rfl
       right; intro e; injection e with e; have:=((Vn.out W0 hm1).lt g' h).1; omega)
      have hnew:w'.heap[g]?=some (.cells #[.string rs[k].rows[j].name,.slice rs[k].rows[j].ad rs[k].rows[j].rows.length rs[k].rows[j].cap] 147 (0,0)):=by
       have hgl:g < W0.heap.size:=by
        rcases Nat.lt_or_ge g W0.heap.size with h | h
        ·exact h
        rw [Array.getElem?_eq_none h] at YD; cases YD
       rw [WV.block g hgl (fun e=>by injection e with e; omega)]; exact YD
      clear UD HI;refine kG w' rfl rfl _ _ 125 rfl (br + 1) 147 iR _ 2 40 underlying125 Vx.out.1 Vx.out.2.1 Vx.out.2.2.1 Vx.out.2.2.2 rfl (by decide) row0 nn xs (by simp [Act.eval,e8]) hown ⟨g,0,none⟩ 1 1 [Value.string rs[k].rows[j].name,.slice rs[k].rows[j].ad rs[k].rows[j].rows.length rs[k].rows[j].cap] (by simp [Act.eval,hm2]) rfl (fun j u hu=>news_of_block hnew j u hu) (by simp [Value.oneCell']) (by unfold maxLen; omega) (by omega) (by have:=WV.size; have:=hm1.size; omega) ?_;intro v' w2' hown2 U1 Zl;exact ⟨v',by simp [upd,Act.put],hB.app h8 U1 hown2 Zl⟩
     cases ho;have h7:=UD.out ⟨7,.data⟩ (by simp) rfl;obtain ⟨st,e7⟩:=HI.out.seven h7;have HI2:=HI.out.second h7 e7;clear UD HI;refine aa rfl fun K HK=>?_;simp only [e7];go_simp;exact HK.out _ _ ⟨_,by simp [upd,e7,goInt],HI2⟩
    case finA =>
     rintro o ho l fq w' hall hI;obtain rfl:=Option.some.inj ho;have hC:=hI.last hall;obtain ⟨W0,w1',st,hm1,hm2,XA,YD,WV,hm6,-,Z9⟩:=hC.mid;have e10:=Z9 (hall 10 (by omega));have e3:=(hC.val 3 (by omega)).trans Va.out.2.2.2.1;obtain ⟨w7,hrun,hM3,hg3⟩:=hm6 w' (fq 9) (XA.block br (by have:=hm2.size; have:=hm1.size; omega) (fun e=>by have:=(Vn.out W0 hm1).lt br e.symm; omega));have hst:=(HD3.out.rel.below hm1).step (y:=(rs[k].name,fv)) (s:=rs[k].rows[j]) hm2 (by rw [← Wx.out,← Wj.out]; exact YD) (by rw [← Vy.out]; exact XA) (by rw [← Vy.out]; exact WV) hg3 hM3;have HD7:=aD ((HD3.out.below hm1).list hst.1 hst.2);have HB7:Hid (Below br W w7):=by
      have b0:Below br W W0:=HB3'.out.trans (hm1.mono (by omega));have b1:Below br W w1':=b0.grown hm2 (by have:=hm1.size; omega) (fun i hi=>by injection hi with hi; omega);have b2:Below br W w':=b1.grown XA (by have:=hm2.size; have:=hm1.size; omega) (fun i hi=>by have:=((Vn.out W0 hm1).lt i hi).1; omega);exact b2.grown hg3 (by have:=XA.size; have:=hm2.size; have:=hm1.size; omega) (fun i hi=>by injection hi with hi; omega)
     have HT7:Hid (w7.heap[wo.heap.size]?=some (.cells #[.string rs[k].name,.slice rs[k].ad rs[k].rows.length rs[k].cap] 127 (0,0))):=by
      show _=_;have h0:W0.heap[wo.heap.size]?=_:=(hm1.block wo.heap.size (by omega)).trans HT3.out;rw [hst.2.block wo.heap.size (by have:=hm1.size; omega) (by omega) (rG (HD3.out.rel.below hm1) h0 (by decide))]; exact h0
     have VS:(Instr.entryStore 165 (.map (some br)) (.int .i64 st) (fq 9)).run prog w'=.ok () w7:=hrun;obtain ⟨Mn,hMn⟩:∃ M,M=kZ Mr (rs[k].name,fv) (some (fq 9)):=⟨_,rfl⟩;rw [← hMn] at HD7;refine aa rfl fun K HK=>?_;simp only [e3,e10];go_simp;refine HK.out _ _ ?_;obtain ⟨n0,hn0⟩:∃ n,n=jJ E0:=⟨_,rfl⟩;have Yu:=aD hn0;rw [← hn0] at HD7;have d1:=HD7.out.dat.c1;have fz:=fun o=>gJ HD7.out.dat.kind.choose_spec o;have VR:=HD7.out.dat.lt;clear hst hrun VS hM3 hg3 hm1 hm2 XA YD WV hm6 Z9 hC hI hall ho HK K e3 e10 HD3 HT3 HB3' Vn Va HKEY hMn Vy Wx Wj HR2 HFRB hn0 hDl hbrD;obtain ⟨w8,hw8⟩:∃ x,x=w7.setCell ⟨D,1,none⟩ (Value.int .i64 (max n0 (fv + 1))):=⟨_,rfl⟩;have HEQ:Hid (eT f (rs.take k) ++ (rs[k].rows.take (j + 1)).map (wS f rs[k].name)=E0 ++ [((rs[k].name,fv),rs[k].rows[j])]):=by show _=_; rw [HTKE.out,← List.append_assoc,← WB.out]; unfold wS; rw [← HFV.out]
     have HD8:Hid (∃ nr Mr,nr≤6 * k + (j + 1)∧DatA w8 rs D br bp bt (jJ (eT f (rs.take k) ++ (rs[k].rows.take (j + 1)).map (wS f rs[k].name))) nr Mr (eT f (rs.take k) ++ (rs[k].rows.take (j + 1)).map (wS f rs[k].name)) (dK ts) (eB ts) (cZ ts) ts.length Mp vo vu):=by
      rw [HEQ.out,Gt,← Yu.out,hw8];exact ⟨nr + 1,Mn,by omega,HD7.out.count (max n0 (fv + 1))⟩
     have HT8:Hid (w8.heap[wo.heap.size]?=some (.cells #[.string rs[k].name,.slice rs[k].ad rs[k].rows.length rs[k].cap] 127 (0,0))):=by
      show _=_;rw [hw8,heap_setCell_other w7 ⟨D,1,none⟩ wo.heap.size _ (fun e=>by
       have e':wo.heap.size=D:=e;have h1:=HT7.out;obtain ⟨cur,h2⟩:=HD7.out.dat.kind;rw [e',h2] at h1;injection h1 with h1;injection h1 with _ h3;exact absurd h3 (by decide))]
      exact HT7.out
     have HB8:Hid (Below br W w8):=by show Below _ _ _; rw [hw8]; exact HB7.out.setCell (by show br≤D; have:=HD7.out.ord; have:=HD7.out.dat.gt; omega) _
     rw [had] at HT8;clear HD7 HT7 HB7;go_wp2;rw [← hw8];go_roundw;case rel=>exact ⟨j + 1,by omega,by go_num,HD8,HT8,HB8⟩
     simp [intOf] <;> omega
   obtain rfl:j=rs[k].rows.length:=by omega
   have HDN2:Hid (∃ nr Mr,nr≤6 * (k + 1)∧DatA wr rs D br bp bt (jJ (eT f (rs.take (k + 1)))) nr Mr (eT f (rs.take (k + 1))) (dK ts) (eB ts) (cZ ts) ts.length Mp vo vu):=by
    obtain ⟨nr,Mr,hnr,V4⟩:=XR.out;rw [Ug] at V4;rw [Zu.out];exact ⟨nr,Mr,by omega,V4⟩
   have HEL2:Hid ((eT f (rs.take (k + 1))).length≤6 * (k + 1)):=by
    show _≤_;rw [Zu.out,T9,Uy];have:=V6.out;omega
   clear XR HT;go_wp2;go_roundw;case rel=>exact ⟨k + 1,by omega,by go_num,HEL2,HDN2,HB⟩
   simp [intOf] <;> omega
  obtain rfl:k=rs.length:=by omega
  rw [Ug] at XR;obtain ⟨nr,Mr,-,V4⟩:=XR.out;have HDE:=aD V4;clear V4 XR;go_wp2;exact bodyPost_ret (v:=.tuple #[.pointer (some ⟨D,0,none⟩),.bool true]) (by simp [results,Tryz.results58,go_sem]) rfl ⟨WF.out,.inr ⟨HRT.out,D,br,bp,bt,nr,ts.length,Mr,Mp,vo,vu,f,rfl,hw2,HLS.out,HDE.out⟩⟩
 have HN:Hid (aQ fit rs ts=false):=by
  show _=_;unfold aQ;cases hh:aJ (ae rs);case false=>simp
  exact absurd (aY.1 hh) hno
 clear hno;go_wp2;exact bodyPost_ret (v:=.tuple #[.pointer none,.bool false]) (by simp [results,Tryz.results58,go_sem]) rfl ⟨HB1.out,.inl ⟨HN.out,rfl⟩⟩
def mZ (known:List Fc) (f:Fc) (t:Tp):Bool:=if t.s.toList.isEmpty then t.c.toList == f.c.toList && t.d.toList == f.d.toList else bP known ⟨t.c,t.d,t.s,f.c,f.d⟩
def vG (known:List Fc) (name:ByteArray) (f:Fc) (t:Tp):Bool:=bP known ⟨t.c,t.d,name,f.c,f.d⟩
theorem Gu (l:List Tp) (k:K3) (p:Tp→Bool):(G.lookL (dK l) k).any p=l.any fun t=>(t.a.toList == k.1.toList && t.b.toList == k.2.1.toList && t.r.toList == k.2.2.toList) && p t:=by
 induction l with
 | nil=>rfl
 | cons t l ih =>
  have e:dK (t::l)=[(LC t,t)] ++ dK l:=rfl;rw [e,G.lookL_append,List.any_append,ih,List.any_cons];congr 1;unfold G.lookL LC;by_cases h:(t.a,t.b,t.r)=k
  ·subst h; simp
  have h2:(t.a.toList == k.1.toList && t.b.toList == k.2.1.toList && t.r.toList == k.2.2.toList)=false:=by
   cases hb:(t.a.toList == k.1.toList && t.b.toList == k.2.1.toList && t.r.toList == k.2.2.toList);case false=>rfl
   rw [TU,TU,fo,fo,fo] at hb; exact absurd (Prod.ext hb.1.1 (Prod.ext hb.1.2 hb.2)) h
  simp [h,h2]
theorem Jy (l:List Tp) (known:List Fc) (f:Fc):dY l known f=(G.lookL (dK l) (f.a,f.b,f.r)).any (mZ known f):=by rw [Gu]; rfl
theorem Jz (l:List Tp) (known:List Fc) (over name:bH) (f:Fc):gp l known over name f=(G.lookL (dK l) (f.a,f.b,over)).any (vG known name f):=by rw [Gu]; rfl
theorem Mc (st:ByteArray × ByteArray→Int) (n:Int) (o:Al) (tn:bH) (rows:List RR):((rows.map fun r=>(tn,r.name)).filter fun k=>k.1.toList == o.t.toList && decide (st k=n))=(G.lookL (rows.map fun r=>((tn,st (tn,r.name)),r)) (o.t,n)).map fun r=>(o.t,r.name):=by
 induction rows with
 | nil=>rfl
 | cons r rows ih =>
  have e:((r::rows).map fun r=>((tn,st (tn,r.name)),r))=[((tn,st (tn,r.name)),r)] ++ rows.map fun r=>((tn,st (tn,r.name)),r):=rfl;rw [e,G.lookL_append,List.map_append,← ih,List.map_cons,List.filter_cons];unfold G.lookL;by_cases h:tn=o.t∧st (tn,r.name)=n
  ·obtain ⟨rfl,rfl⟩:=h;simp
  have h1:(tn.toList == o.t.toList && decide (st (tn,r.name)=n))=false:=by
   cases hb:(tn.toList == o.t.toList && decide (st (tn,r.name)=n));case false=>rfl
   rw [TU,fo,Ud] at hb; exact absurd hb h
  have h2:¬ ((tn,st (tn,r.name))=(o.t,n)):=fun e=>h ⟨congrArg Prod.fst e,congrArg Prod.snd e⟩;simp [h1,h2]
theorem Gv (st:ByteArray × ByteArray→Int) (n:Int) (o:Al) (rs:List TR):Af (ae rs) st n o=(G.lookL (eT st rs) (o.t,n)).map fun r=>(o.t,r.name):=by
 unfold Af
 induction rs with
 | nil=>rfl
 | cons t rs ih =>
  have e1:ak (ae (t::rs))=(t.rows.map fun r=>(t.name,r.name)) ++ ak (ae rs):=by
   have:jG t.p=t.rows.map fun r=>(t.name,r.name):=by unfold jG; show List.map _ (eD t.rows)=_; unfold eD; rw [List.map_map]; rfl
   simp [ak,ae,this]
  have e2:eT st (t::rs)=(t.rows.map fun r=>((t.name,st (t.name,r.name)),r)) ++ eT st rs:=rfl;rw [e1,e2,G.lookL_append,Uz,List.map_append,ih,Mc]
theorem AY {s:St}:∀ {sts:List St},(iE sts).Nodup→s ∈ sts→fO sts s.key=s.n
 | [],_,h=>by cases h
 | x::xs,hd,h=>by
  have hd2:x.key ∉ iE xs∧(iE xs).Nodup:=List.nodup_cons.1 hd;unfold fO;by_cases e:zG x s.key.1 s.key.2=true
  ·rw [if_pos e];have ek:=qC.1 e;rcases List.mem_cons.1 h with rfl | h
   ·rfl
   exact absurd (by rw [ek]; exact List.mem_map_of_mem h) hd2.1
  rw [if_neg e];rcases List.mem_cons.1 h with rfl | h
  ·exact absurd (qC.2 rfl) e
  exact AY hd2.2 h
def Tx (sts:List St) (n:Int) (o:Al):List St:=sts.filter fun s=>s.typ.toList == o.t.toList && decide (s.n=n)
theorem QL {ts:List Ty} {sts:List St} (hk:iE sts=ak ts) (hn:(ak ts).Nodup) (n:Int) (o:Al):Af ts (fO sts) n o=(Tx sts n o).map St.key:=by
 unfold Af Tx;rw [← hk];rw [← hk] at hn;unfold iE;rw [List.filter_map];congr 1;refine List.filter_congr fun s hs=>?_;show (s.key.1.toList == o.t.toList && decide (fO sts s.key=n))=_;rw [AY hn hs];rfl
theorem JA {rs:List TR} (h:bi (ae rs)=true):(ak (ae rs)).Nodup:=by
 have e:ak (ae rs)=rs.flatMap fun t=>t.rows.map fun r=>(t.name,r.name):=by
  unfold ak ae;rw [List.flatMap_map];congr 1
  funext t
  unfold jG;show List.map _ (eD t.rows)=_;unfold eD; rw [List.map_map]; rfl
 rw [e,List.Nodup,List.pairwise_flatMap];constructor
 ·intro t ht;obtain ⟨i,hi,rfl⟩:=List.mem_iff_getElem.1 ht;have hu:=(lw h i hi).2.2;rw [List.pairwise_map,List.pairwise_iff_getElem];intro a b ha hb hab e;have hne:=rD (f:=fun k=>(rs[i].rows[k]?.map RR.name).getD ByteArray.empty) (n:=rs[i].rows.length) (fun k hk=>by
   have h0:k < rs[i].rows.length:=by omega
   simp only [TY hk,TY h0,Option.map_some,Option.getD_some];exact (CO hu (k + 1) hk hk).2.1 k h0 rfl)
  have:=hne a b hab hb;simp [ha,hb] at this;exact this (congrArg Prod.snd e)
 rw [List.pairwise_iff_getElem];intro a b ha hb hab x hx y hy e;obtain ⟨r,hr,rfl⟩:=Ue.1 hx;obtain ⟨q,hq,rfl⟩:=Ue.1 hy;have hne:=rD (f:=fun k=>(rs[k]?.map TR.name).getD ByteArray.empty) (n:=rs.length) (fun k hk=>by
  have h0:k < rs.length:=by omega
  simp only [TY hk,TY h0,Option.map_some,Option.getD_some];exact (lw h (k + 1) hk).2.1 k h0 rfl)
 have:=hne a b hab hb;simp [ha,hb] at this;exact this (congrArg Prod.fst e)
theorem Gw {α:Type} [DecidableEq α]:∀ {a b:List α},a.Nodup→(∀ x ∈ a,x ∈ b)→a.length≤b.length
 | [],_,_,_=>TW _
 | x::a,b,hd,hs=>by
  obtain ⟨h1,h2⟩:=List.nodup_cons.1 hd;have hx:=hs x (by simp);have:=Gw (a:=a) (b:=b.erase x) h2 fun y hy=>(List.mem_erase_of_ne (fun e:y=x=>h1 (by rw [← e]; exact hy))).2 (hs y (by simp [hy]));rw [List.length_erase_of_mem hx] at this;have hp:0 < b.length:=List.length_pos_of_mem hx;simp only [List.length_cons];omega
def BI (ts:List Ty) (xo xu:List Al):List Fc:=xo.flatMap fun o=>(ak ts).flatMap fun k=>ja o k.2 xu
theorem Dq {ts:List Ty} {st:ByteArray × ByteArray→Int} {xo xu:List Al} {n:Int} {f:Fc} (h:f ∈ bY ts st xo xu n):f ∈ BI ts xo xu:=by
 unfold bY uZ at h;obtain ⟨o,ho,h⟩:=Uf.1 h;obtain ⟨k,hk,h⟩:=Uf.1 h;exact Uf.2 ⟨o,ho,Uf.2 ⟨k,(Ux.1 hk).1,h⟩⟩
theorem AZ {α β:Type} (f:α→List β) (m:Nat) (hf:∀ a,(f a).length≤m):∀ l:List α,(l.flatMap f).length≤l.length * m
 | []=>by simp
 | a::l=>by
  have h1:=AZ f m hf l;have h2:=hf a;simp only [List.flatMap_cons,T9,List.length_cons,Nat.add_mul];omega
theorem Pd (ts:List Ty) (xo xu:List Al):(BI ts xo xu).length≤xo.length * ((ak ts).length * xu.length) :=
 AZ _ _ (fun o=>AZ _ _ (fun k=>by unfold ja; rw [Uy]; exact TS _) _) _
structure GoodO (ts:List Ty) (xo xu:List Al) (out:List Fc):Prop where
 once:out.Nodup
 sub:∀ g ∈ out,g ∈ BI ts xo xu
def Ta (us:List Al):List (ByteArray × ByteArray):=us.map fun u=>(u.t,u.s)
def Tc (us:List Al) (x:ByteArray × ByteArray):Bool:=us.any fun u=>u.t.toList == x.1.toList && u.s.toList == x.2.toList
theorem yL {us:List Al} {x:ByteArray × ByteArray}:Tc us x=true ↔ x ∈ Ta us:=by
 unfold Tc Ta;rw [Uo,Ue];constructor
 ·rintro ⟨u,hu,h⟩;rw [TU,fo,fo] at h;exact ⟨u,hu,Prod.ext h.1 h.2⟩
 rintro ⟨u,hu,rfl⟩;exact ⟨u,hu,by simp⟩
def eZ (us:List Al) (new:List Fc):List Al:=us.filter fun u=>new.any fun g=>g.c.toList == u.t.toList && g.d.toList == u.s.toList
theorem Dr {us:List Al} {new:List Fc} {x:ByteArray × ByteArray}:x ∈ Ta (eZ us new) ↔ x ∈ Ta us∧∃ g ∈ new,g.u=x:=by
 unfold Ta eZ;constructor
 ·intro h;obtain ⟨u,hu,rfl⟩:=Ue.1 h;obtain ⟨h1,h2⟩:=Ux.1 hu;obtain ⟨g,hg,h3⟩:=Uo.1 h2;rw [TU,fo,fo] at h3;exact ⟨List.mem_map_of_mem (f:=fun u:Al=>(u.t,u.s)) h1,g,hg,Prod.ext h3.1 h3.2⟩
 rintro ⟨h,g,hg,hx⟩;obtain ⟨u,hu,rfl⟩:=Ue.1 h;refine Ue.2 ⟨u,Ux.2 ⟨hu,Uo.2 ⟨g,hg,?_⟩⟩,rfl⟩;rw [TU,fo,fo];exact ⟨congrArg Prod.fst hx,congrArg Prod.snd hx⟩
theorem JB (us:List Al):eZ us []=[]:=by unfold eZ; rw [List.filter_eq_nil_iff]; simp
theorem JC {ts:List Ty} {xo xu:List Al} {n:Int} {st st':ByteArray × ByteArray→Int} (h:∀ k ∈ ak ts,st k=st' k):bY ts st xo xu n=bY ts st' xo xu n:=by
 unfold bY uZ;congr 1
 funext o
 have:Af ts st n o=Af ts st' n o:=List.filter_congr fun k hk=>by rw [h k hk]
 rw [this]
set_option linter.unusedSectionVars false
section
variable [DecidableEq Fc]
theorem GoodO.run {ts:List Ty} {xo xu:List Al} {out:List Fc} (h:GoodO ts xo xu out) {H:List Fc→Fc→Bool} {qs:List Fc} (hq:∀ g ∈ qs,g ∈ BI ts xo xu):GoodO ts xo xu (bF H qs out):=by
 refine ⟨wm qs h.once,fun g hg=>?_⟩;obtain ⟨n,e,hn⟩:=jC (H:=H) qs out;rw [e] at hg;rcases Uc.1 hg with hg | hg
 ·exact h.sub g hg
 exact hq g (hn g hg).1
theorem GoodO.len {ts:List Ty} {xo xu:List Al} {out:List Fc} (h:GoodO ts xo xu out) (h1:xo.length≤80) (h2:(ak ts).length≤36) (h3:xu.length≤40):out.length≤115200:=by
 have a1:=Gw h.once h.sub;have a2:=Pd ts xo xu;have a3:(ak ts).length * xu.length≤36 * 40:=Nat.mul_le_mul h2 h3;have a4:xo.length * ((ak ts).length * xu.length)≤80 * (36 * 40):=Nat.mul_le_mul h1 a3;omega
structure FewA (ts:List Ty) (l:List Tp) (st:ByteArray × ByteArray→Int) (xo xu:List Al) (n:Int) (us:List Al) (out:List Fc):Prop where
 sub:us=xu.filter fun u:Al=>Tc us (u.t,u.s)
 few:Few Fc.u (fC ts l) (bY ts st xo xu n) (Ta us) out
variable {ts:List Ty} {l:List Tp} {st:ByteArray × ByteArray→Int} {xo xu:List Al} {n:Int}
theorem FewA.start (out:List Fc):FewA ts l st xo xu n xu out:=by
 refine ⟨(List.filter_eq_self.2 fun u hu=>yL.2 (List.mem_map_of_mem (f:=fun u:Al=>(u.t,u.s)) hu)).symm,Few.start fun f hf=>I6 hf⟩
theorem JD {φ υ:Type} [DecidableEq φ] {us:φ→υ} {H:List φ→φ→Bool} (hL:Loc us H) {qs:List φ} {users:List υ} {out:List φ} (h:Few us H qs users out) (P:υ→Bool) (hP:∀ u,P u=true ↔ u ∈ users):bF H (qs.filter fun f=>P (us f)) out=bF H qs out :=
 (mR hL P qs out fun f hf hp=>h.set f hf fun hm=>by rw [(hP _).2 hm] at hp; cases hp).symm
theorem FewA.round {us:List Al} {out:List Fc} (h:FewA ts l st xo xu n us out):bF (fC ts l) (bY ts st xo us n) out=bF (fC ts l) (bY ts st xo xu n) out:=by
 have h2:=Ga ts st xo xu n (Tc us);rw [← h.sub] at h2;rw [← h2];exact JD (CX ts l) h.few (Tc us) fun u=>yL
theorem FewA.next {us:List Al} {out new:List Fc} (h:FewA ts l st xo xu n us out) (hn:bF (fC ts l) (bY ts st xo us n) out=out ++ new):FewA ts l st xo xu n (eZ us new) (out ++ new):=by
 refine ⟨?_,h.few.next (CX ts l) (h.round.symm.trans hn) fun u=>Dr⟩;have h1:eZ us new=(xu.filter fun u:Al=>Tc us (u.t,u.s)).filter fun u=>new.any fun g=>g.c.toList == u.t.toList && g.d.toList == u.s.toList:=by rw [← h.sub]; rfl
 rw [List.filter_filter] at h1;refine h1.trans (List.filter_congr fun u hu=>?_);rw [Bool.eq_iff_iff,yL,Dr,TU,yL,Uo,and_comm];refine and_congr Iff.rfl ⟨fun ⟨g,hg,h3⟩=>⟨g,hg,?_⟩,fun ⟨g,hg,h3⟩=>⟨g,hg,?_⟩⟩
 ·rw [TU,fo,fo] at h3;exact Prod.ext h3.1 h3.2
 rw [TU,fo,fo];exact ⟨congrArg Prod.fst h3,congrArg Prod.snd h3⟩
theorem FewA.done {out:List Fc} (h:FewA ts l st xo xu n [] out):kr (fC ts l) (bY ts st xo xu n) out=out:=h.few.done
theorem wT {st st':ByteArray × ByteArray→Int} (h:∀ k ∈ ak ts,st k=st' k):∀ N,ma ts l st xo xu N=ma ts l st' xo xu N
 | 0=>rfl
 | N + 1=>by rw [jl,jl,wT h N,JC h]
end
end Go.Proofs.YtajkkeikihhejaaGreat
