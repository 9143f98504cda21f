/- What the document's reader leaves is an expression in memory. -/
import Derived.Test.YtajkkeikihhejaaGreatSq
import Derived.Test.YtajkkeikihhejaaGreatJ18
import Derived.Test.YtajkkeikihhejaaGreatJ26
import Derived.Test.YtajkkeikihhejaaGreatSpecSchema11
import Derived.Deep.Cut
import Derived.Deep.CutRange
open Go.Proofs.Tryz
set_option maxHeartbeats 80000000
namespace Go.Proofs.YtajkkeikihhejaaGreat
set_option maxRecDepth 100000
open Go.ChangeShapes Go.WideShapes Go.ChangeAt Go.RowKit
open Pl
theorem RdF.nod {w:af} {R:Nat} {s:ByteArray} {st:RS} {base:Nat} {v:Value} {qs:List ER} (h:RdF w R s st base v qs):NodM w base v qs:=⟨h.own,h.zA,h.zK,h.ok,h.lie,h.one,h.two,h.cA⟩
open Go.Maps
theorem dP {p:Prop} (h:p):Hid p:=h
def strOf:Value→Nat | .string b=>b.size | _=>0
def Sy (s:ByteArray) (w:World) (e:Ending) (w':World):Prop :=
 ag w w'∧((dO (s.size + 1) s []=none∧e=.returned (.tuple #[.slice none 0 0,.bool false])) ∨ ∃ (v:Value) (rs:List TR),dO (s.size + 1) s []=some (ae rs)∧e=.returned (.tuple #[v,.bool true])∧iL w' w.heap.size v rs∧dw (ae rs)=s∧RH (ae rs))
theorem Mo {n:Nat} {rest:ByteArray} {acc:List Ty} (hn:rest.size < n) (h:rest.toList.isEmpty=true):dO n rest acc=some acc:=by
 cases n with
 | zero=>omega
 | succ n=>simp [dO,h]
theorem Mq {n:Nat} {rest:ByteArray} {acc:List Ty} (hn:rest.size < n) (h:rest.toList.isEmpty=false) (hc:oK 10 rest=false):dO n rest acc=none:=by
 cases n with
 | zero=>omega
 | succ n=>simp [dO,h,hc]
theorem Ms {n:Nat} {rest:ByteArray} {acc:List Ty} (hn:rest.size < n) (h:rest.toList.isEmpty=false) (hc:oK 10 rest=true) (hl:mZ acc (j5 10 rest)=none):dO n rest acc=none:=by
 cases n with
 | zero=>omega
 | succ n=>simp [dO,h,hc,hl]
theorem Pf {n:Nat} {rest:ByteArray} {acc a:List Ty} (hn:rest.size < n) (h:rest.toList.isEmpty=false) (hc:oK 10 rest=true) (hl:mZ acc (j5 10 rest)=some a):dO n rest acc=dO (n - 1) (iJ 10 rest) a∧(iJ 10 rest).size < n - 1:=by
 have:=Gy hc;cases n with
 | zero=>omega
 | succ n=>exact ⟨by simp [dO,h,hc,hl],by simp; omega⟩
theorem Pg {b:ByteArray} (h:b.toList.isEmpty=true):b=⟨#[]⟩:=by
 have h2:b.toList=[]:=by simpa using h
 rw [mE] at h2;exact jc (by simpa using h2)
theorem AY:O8.toList=[116,121,112,101,32]:=by rw [mE]; rfl
theorem GI:Tw.toList=[61,32]:=by rw [mE]; rfl
theorem Ph (w:af) (a b:Value) (t:TypeId):∀ j u,[a,b][j]?=some u→(w.alloc (.cells #[a,b] t)).cell? ((⟨w.heap.size,0,none⟩:Addr).add j)=some u:=by
 intro j u hu;rw [show (⟨w.heap.size,0,none⟩:Addr).add j=⟨w.heap.size,0 + j,none⟩ by simp [Addr.add]; omega,Um];have:=World.cell?_alloc_mark w #[a,b] t (0,0) j;rw [this];simpa using hu
theorem Pi (xs:List TR) (t t':TR) (hn:t'.name=t.name):((xs ++ [t]).flatMap TR.cells).set (xs.length * 2 + 1) t'.vs=(xs ++ [t']).flatMap TR.cells:=by
 have hl:(xs.flatMap TR.cells).length=xs.length * 2:=o9 (fun _=>rfl) _;rw [List.flatMap_append,List.flatMap_append,List.set_append_right _ _ (by omega),hl];simp [TR.cells,hn]
theorem Tz (n:ByteArray) (ad:Option Addr) (k c:Nat):∀ u ∈ [Value.string n,.slice ad k c],u.oneCell'=true:=by
 intro u hu;simp at hu;rcases hu with rfl | rfl <;> rfl
theorem EN (s:ByteArray) (w:af) (hs:s.size≤3000):Calls prog 124 #[.string s] w (Sy s w):=by
 obtain ⟨iT0,hiT,zT0,zT1,zT2⟩:=info_parts (P:=prog) (e:=127) (z:=.agg #[.string ⟨#[]⟩,.slice none 0 0]) (size:=2) (bytes:=40) (by kernel_rfl);have HIT:Hid (prog.info? 127=some iT0∧iT0.zero=some (.agg #[.string ⟨#[]⟩,.slice none 0 0])∧iT0.size=2∧iT0.bytes=40):=⟨hiT,zT0,zT1,zT2⟩;obtain ⟨iR0,Y0,zR0,zR1,zR2⟩:=info_parts (P:=prog) (e:=147) (z:=.agg #[.string ⟨#[]⟩,.slice none 0 0]) (size:=2) (bytes:=40) (by kernel_rfl);have Vx:Hid (prog.info? 147=some iR0∧iR0.zero=some (.agg #[.string ⟨#[]⟩,.slice none 0 0])∧iR0.size=2∧iR0.bytes=40):=⟨Y0,zR0,zR1,zR2⟩;obtain ⟨W0,hW0⟩:∃ W0,W0=w.alloc (.cells #[] 127):=⟨_,rfl⟩;have HB0:=qY hW0;have HM0:Hid (iL W0 w.heap.size (.slice (some ⟨w.heap.size,0,none⟩) 0 0) []):=by
  show UO _ _ _ _ _ _ _ _ _;rw [hW0];exact ⟨World.ownsRow_lit w #[] 0 (TS _) (by unfold maxLen; omega) (by simp),fun q hq=>(by cases hq),fun q hq=>(by cases hq),fun x y hx=>absurd hx (by simp)⟩
 have hs5:(s.size:Int)≤50000:=by omega
 clear hiT zT0 zT1 zT2 Y0 zR0 zR1 zR2;go_enter func124,ntmps124;go_wp2;rw [← hW0]; clear hW0;go_loopw [4,5] (fun v r wr=>∃ (rs:List TR) (rest:ByteArray) (n:Nat),r=.string rest∧rest.size≤3000∧Hid (iL wr w.heap.size v rs)∧Hid (ag w wr)∧Hid (dw (ae rs) ++ rest=s)∧Hid (RH (ae rs))∧Hid (rest.size < n∧dO n rest (ae rs)=dO (s.size + 1) s [])) (fun _ r _=>strOf r);case atStart=>exact ⟨[],s,s.size + 1,rfl,hs,HM0,HB0,by show _=_; exact rJ _,fun t ht=>(by cases ht),by omega,rfl⟩
 clear HM0 HB0;obtain ⟨rs,rest,n,rfl,hrs,HM,HB,HT,HK,HN⟩:=hrel;cases he:rest.toList.isEmpty;case true=>
  have HTX:Hid (dw (ae rs)=s):=by show _=_; rw [← HT.out,Pg he,vD]
  have Vj:=dP (Mo (acc:=ae rs) HN.out.1 he);obtain ⟨ad,cap,rfl,hsl,-⟩:=HM.out.read;obtain ⟨k1,k2,k3,k4⟩:=rows_ok HK.out (by rw [HTX.out]; exact hs);have UD:=dP (EM ad cap rs wr ⟨k1,fun r hr=>(k2 r hr).1,fun r hr=>(k2 r hr).2.1,fun r hr=>(k2 r hr).2.2⟩ hsl k3 k4);clear hsl k1 k2 k3 k4;go_wp2_with fail;refine UD.out.mono ?_;rintro e w1 ⟨hee,hb1⟩;rw [HTX.out] at hee;subst hee;have HB1:=dP (HB.out.trans (hb1.mono HB.out.size));have Xq:=dP (HM.out.below mH hb1);clear hb1 UD;go_wp2;exact bodyPost_ret (v:=.tuple #[.slice ad rs.length cap,.bool true]) (by simp [results,Tryz.results124,go_sem]) rfl ⟨HB1.out,.inr ⟨_,rs,by rw [← HN.out.2,Vj.out],rfl,Xq.out,HTX.out,HK.out⟩⟩
 have HE:=dP he;have h500:rs.length≤500:=(rows_ok HK.out (by have:=congrArg ByteArray.size HT.out; rw [Uh] at this; omega)).1;have HC:=dP (Cm rest 10 wr (by unfold maxLen; omega));go_wp2_with fail;refine HC.out.mono ?_;rintro e w1 ⟨rfl,n0,hw1⟩;have hb1:ag wr w1:=by rw [hw1]; exact below_drewN (TT _ _) n0
 have HB1:=dP (HB.out.trans (hb1.mono HB.out.size));have Xq:=dP (HM.out.below mH hb1);have hzz:=J7 10 rest;have hza:=Qd 10 rest;clear hw1 hb1 HC HM HB;cases hc:oK 10 rest;case false=>
  have Wu:=dP (Mq (acc:=ae rs) HN.out.1 HE.out hc);go_wp2;exact bodyPost_ret (v:=.tuple #[.slice none 0 0,.bool false]) (by simp [results,Tryz.results124,go_sem]) rfl ⟨HB1.out,.inl ⟨by rw [← HN.out.2,Wu.out],rfl⟩⟩
 have HCF:=dP hc;have HJ:=dP (AO hc);have hless:=Gy hc;obtain ⟨line,XL⟩:∃ line,line=j5 10 rest:=⟨_,rfl⟩;obtain ⟨more,hmore⟩:∃ more,more=iJ 10 rest:=⟨_,rfl⟩;rw [← XL,← hmore] at HJ;rw [← hmore] at hzz hless;rw [← XL] at hza;rw [← XL,← hmore];have XQ:=dP XL;have ZV:=dP hmore;clear XL hmore hc;have HON:Hid (∀ a,mZ (ae rs) line=some a→dO (n - 1) more a=dO (s.size + 1) s []∧more.size < n - 1∧dw a ++ more=s∧RH a):=fun a ha=>by
  have h1:=Pf (acc:=ae rs) HN.out.1 HE.out HCF.out (by rw [← XQ.out]; exact ha);rw [← ZV.out] at h1;refine ⟨by rw [← h1.1,HN.out.2],h1.2,?_,QJ ha HK.out⟩;rw [Ml ha,ByteArray.append_assoc];have h2:=HT.out;rw [HJ.out] at h2;exact h2
 have HOFF:Hid (mZ (ae rs) line=none→dO (s.size + 1) s []=none):=fun ha=>by
  have h1:=Ms (acc:=ae rs) HN.out.1 HE.out HCF.out (by rw [← XQ.out]; exact ha);rw [← HN.out.2,h1]
 cases ht:AL line;case true=>
  have hl5:5 < line.size:=by unfold AL at ht; simp only [TU,Ud] at ht; exact ht.1
  have hty:((line.extract 0 5).toList == [116,121,112,101,32])=true:=by unfold AL at ht; simp only [TU] at ht; rw [← AY]; exact ht.2
  have hd5:decide ((5:Int) < (line.size:Int))=true:=by simp; omega
  have XR:Hid (mZ (ae rs) line=some (ae (rs ++ [⟨line.extract 5 line.size,[],none,0⟩]))):=by show _=_; unfold mZ; rw [ht]; simp [ae,TR.p,eD]
  clear ht;obtain ⟨nm,hnm⟩:∃ nm,nm=line.extract 5 line.size:=⟨_,rfl⟩;obtain ⟨W2,hW2⟩:∃ W2,W2=w1.alloc (.cells #[.string nm,.slice none 0 0] 127):=⟨_,rfl⟩;have hb2:ag w1 W2:=by rw [hW2]; exact (TT _ _).alloc (TS _) _
  have Vd:=dP (Xq.out.below mH hb2);have HB2:=dP (HB1.out.trans (hb2.mono HB1.out.size));have Wi:Hid (∀ j u,[Value.string nm,.slice none 0 0][j]?=some u→W2.cell? ((⟨w1.heap.size,0,none⟩:Addr).add j)=some u):=by show ∀ j u,_; rw [hW2]; exact Ph w1 _ _ _
  rw [← hnm] at XR;rw [hnm] at hW2;clear hb2 hnm;go_wp2_with (at_builtin; rw [← hW2]; clear hW2; refine wpList_append_own_at _ rfl _ _ 24 rfl w.heap.size 127 iT0 (.agg #[.string ⟨#[]⟩,.slice none 0 0]) 2 40 underlying24 HIT.out.1 HIT.out.2.1 HIT.out.2.2.1 HIT.out.2.2.2 rfl (by decide) u4 _ (rs.flatMap TR.cells) rfl Vd.out.own ⟨w1.heap.size,0,none⟩ 1 1 [.string nm,.slice none 0 0] rfl rfl Wi.out (Tz _ _ _ _) (by unfold maxLen; omega) (by omega) HB2.out.size ?_);intro v3 w3 hown3 hgr3 _ hat3;have XY:Hid (iL w3 w.heap.size v3 (rs ++ [⟨nm,[],none,0⟩])):=Vd.out.snoc mH (q:=⟨nm,[],none,0⟩) hown3 hgr3 (by
    rcases hat3 with e | e
    ·exact .inl e
    ·exact .inr ⟨_,e,TS _⟩) (Ov W2 w.heap.size) (fun g hg=>by
    rcases hg with hg | ⟨q,hq,-⟩
    ·simp [TR.vs,Value.ownBlock] at hg
    ·cases hq) (fun p hp g hg hg2=>by
    rcases hg2 with hg2 | ⟨q,hq,-⟩
    ·simp [TR.vs,Value.ownBlock] at hg2
    cases hq)
  have HB3:Hid (ag w w3):=HB2.out.grown hgr3 HB2.out.size (fun g hg=>(Vd.out.own.lt g hg).1);obtain ⟨o1,o2,o3,o4⟩:=HON.out _ XR.out;have HO:=dP (And.intro o2 o1);have UX:=dP o3;have UR:=dP o4;clear hown3 hgr3 hat3 o1 o2 o3 o4 Vd HB2 Wi hty hd5;go_wp2;go_roundw;case rel=>exact ⟨_,more,n - 1,rfl,by omega,XY,HB3,UX,UR,HO⟩
  simp only [strOf]; exact hless
 have HTY:=dP ht;have h58:(5 < line.size∧decide ((5:Int) < (line.size:Int))=true∧((line.extract 0 5).toList == [116,121,112,101,32])=false) ∨ decide ((5:Int) < (line.size:Int))=false:=by
  by_cases h5:5 < line.size
  ·left;refine ⟨h5,by simp; omega,?_⟩;unfold AL at ht;rw [decide_eq_true h5,Bool.true_and,AY] at ht;exact ht
  right; simp; omega
 have U9:=dP (Cm line 32 w1 (by unfold maxLen; omega));obtain ⟨ad4,cap4,hv4,hsl4,-⟩:=iL.read Xq.out;subst hv4;clear ht hsl4;rcases h58 with ⟨hl5,hd5,hty⟩ | hd5
 all_goals (
  go_wp2_with fail;refine U9.out.mono ?_;rintro e w2 ⟨rfl,n1,hw2⟩;have hb2:ag w1 w2:=by rw [hw2]; exact below_drewN (TT _ _) n1
  have HB2:=dP (HB1.out.trans (hb2.mono HB1.out.size));have Vd:=dP (Xq.out.below mH hb2);have hzt:=J7 32 line;obtain ⟨nm,hnm⟩:∃ nm,nm=j5 32 line:=⟨_,rfl⟩;obtain ⟨tl,htl⟩:∃ tl,tl=iJ 32 line:=⟨_,rfl⟩;rw [← htl] at hzt;rw [← hnm,← htl];have XR:Hid (mZ (ae rs) line=if !(ae rs).isEmpty && xS tl && mq (tl.extract 2 tl.size) then some (EL (ae rs) ⟨nm,(kC (tl.extract 2 tl.size)).out⟩) else none):=by show _=_; unfold mZ Di; rw [HTY.out,hnm,htl]; rfl
  clear hw2 hb2 U9 Xq HB1 hnm htl;by_cases hz:rs=[]
  ·subst hz;have Wu:Hid (dO (s.size + 1) s []=none):=HOFF.out (by rw [XR.out]; rfl);go_wp2;exact bodyPost_ret (v:=.tuple #[.slice none 0 0,.bool false]) (by simp [results,Tryz.results124,go_sem]) rfl ⟨HB2.out,.inl ⟨Wu.out,rfl⟩⟩
  obtain ⟨xs,t,hxt⟩:∃ xs t,rs=xs ++ [t]:=⟨rs.dropLast,rs.getLast hz,(List.dropLast_concat_getLast hz).symm⟩;have HXT:=dP hxt;have hlx:rs.length=xs.length + 1:=by rw [hxt]; simp
  have HNE:Hid ((!(ae rs).isEmpty)=true):=by show _=_; rw [hxt]; simp [ae]
  obtain ⟨b4,had4⟩:∃ b4,ad4=some ⟨b4,0,none⟩:=by
   rcases Vd.out.own.2 with ⟨-,h0⟩ | ⟨g,cap,cur,e,-⟩
   ·exact absurd (Ui.1 h0) hz
   injection e with e1 e2 e3; exact ⟨g,e1⟩
  subst had4;have hcell:=Vd.out.own.cellAt (xs.length * 2 + 1) (by omega);rw [rE (fun _=>rfl) rs xs.length (by omega) 1 (by omega)] at hcell;have htx:rs[xs.length]'(by omega)=t:=by subst hxt; simp
  rw [htx] at hcell;have hcl:w2.cell? ⟨b4,xs.length * 2 + 1,none⟩=some (.slice t.ad t.rows.length t.cap):=hcell;have ZR:=dP hcl;have hn0:(0:Int)≤(xs.length:Int):=by omega
  have hn1:(xs.length:Int) < (xs.length:Int) + 1:=by omega
  have HLX:=dP hlx;have hx500:xs.length < 500:=by omega
  have h500':=h500;rw [hlx];clear hz hxt hlx hcell htx hcl h500;by_cases h2:tl.size < 2
  ·have hd2:decide ((tl.size:Int) < 2)=true:=by simp; omega
   have Wu:Hid (dO (s.size + 1) s []=none):=HOFF.out (by rw [XR.out]; simp [xS]; omega);go_wp2;exact bodyPost_ret (v:=.tuple #[.slice none 0 0,.bool false]) (by simp [results,Tryz.results124,go_sem]) rfl ⟨HB2.out,.inl ⟨Wu.out,rfl⟩⟩
  have hd2:decide ((tl.size:Int) < 2)=false:=by simp; omega
  have h22:2≤tl.size:=by omega
  cases hq:(tl.extract 0 2).toList == [61,32];case false=>
   have hq2:(!(tl.extract 0 2).toList == [61,32])=true:=by rw [hq]; rfl
   have Wu:Hid (dO (s.size + 1) s []=none):=HOFF.out (by rw [XR.out]; unfold xS; rw [GI,hq]; simp);go_wp2;exact bodyPost_ret (v:=.tuple #[.slice none 0 0,.bool false]) (by simp [results,Tryz.results124,go_sem]) rfl ⟨HB2.out,.inl ⟨Wu.out,rfl⟩⟩
  have hq2:(!(tl.extract 0 2).toList == [61,32])=false:=by rw [hq]; rfl
  have HTB:Hid (xS tl=true):=by show _=_; unfold xS; rw [GI,hq,decide_eq_true h22]; rfl
  have HRE:=dP (wR (tl.extract 2 tl.size) w2);go_wp2_with fail;refine HRE.out.mono ?_;rintro e w3 ⟨hb3,hcase⟩;have HB3:=dP (HB2.out.trans (hb3.mono HB2.out.size));have XY:=dP (Vd.out.below mH hb3);have h23:w2.heap.size≤w3.heap.size:=hb3.size;have HLT2:Hid (∀ g,F7 iT (.slice (some ⟨b4,0,none⟩) rs.length cap4) rs g→g < w2.heap.size):=fun g hg=>(Vd.out.lt mH hg).2;have hc3:w3.cell? ⟨b4,xs.length * 2 + 1,none⟩=some (.slice t.ad t.rows.length t.cap):=(hb3.cell (p:=⟨b4,xs.length * 2 + 1,none⟩) (Vd.out.own.lt b4 rfl).2).trans ZR.out;rcases hcase with ⟨hrb,rfl⟩ | ⟨hrb,v,R,qs,rfl,hF⟩
  ·have Wu:Hid (dO (s.size + 1) s []=none):=HOFF.out (by rw [XR.out,hrb]; simp);clear hb3 hc3 Vd HB2 HRE;go_wp2;exact bodyPost_ret (v:=.tuple #[.slice none 0 0,.bool false]) (by simp [results,Tryz.results124,go_sem]) rfl ⟨HB3.out,.inl ⟨Wu.out,rfl⟩⟩
  obtain ⟨UC,capE,hvE⟩:∃ UC capE,v=.slice UC qs.length capE:=by
   obtain ⟨a1,a2,a3,-⟩:=hF.slE;exact ⟨a1,a2,a3⟩
  subst hvE;have HNOD:=dP (hF.nod);have Zu:=dP hF.out;have Xr:=dP hrb;obtain ⟨W5,Vb⟩:∃ W5,W5=w3.alloc (.cells #[.string nm,.slice UC qs.length capE] 147):=⟨_,rfl⟩;have hb5:ag w3 W5:=by rw [Vb]; exact (TT _ _).alloc (TS _) _
  have HM5:=dP (XY.out.below mH hb5);have VQ:=dP (HB3.out.trans (hb5.mono HB3.out.size));have Wi:Hid (∀ j u,[Value.string nm,.slice UC qs.length capE][j]?=some u→W5.cell? ((⟨w3.heap.size,0,none⟩:Addr).add j)=some u):=by show ∀ j u,_; rw [Vb]; exact Ph w3 _ _ _
  obtain ⟨q,hqd⟩:∃ q:RR,q=⟨nm,qs,UC,capE⟩:=⟨_,rfl⟩;have HQD:=dP hqd;have hkq3:kR w3 (w2.heap.size + 1) q:=by rw [hqd]; exact HNOD.out
  have hIq:∀ g,iR q g→w2.heap.size + 1≤g:=fun g hg=>(IQ.lt w3 _ q hkq3 g hg).1;have hkq5:kR W5 w.heap.size q:=IQ.heap w3 W5 w.heap.size q (hkq3.mono (by have:=HB2.out.size; omega)) hb5.size (fun g hg=>hb5.block g (IQ.lt w3 _ q hkq3 g hg).2);have HIQ:=dP hIq;have W5_ge:Hid (w2.heap.size≤W5.heap.size):=TZ h23 hb5.size;have HKQ:=dP hkq5;have HKT:Hid (kT W5 w.heap.size t):=HM5.out.kid t (by rw [HXT.out]; simp);have HTLT:Hid (∀ g,iT t g→g < w2.heap.size):=fun g hg=>HLT2.out g (.inr ⟨t,by rw [HXT.out]; simp,hg⟩);have ht750:t.rows.length≤750:=((rows_ok HK.out (by have:=congrArg ByteArray.size HT.out; rw [Uh] at this; omega)).2.1 t (by rw [HXT.out]; simp)).1;have hc5:W5.cell? ⟨b4,xs.length * 2 + 1,none⟩=some (.slice t.ad t.rows.length t.cap):=(hb5.cell (p:=⟨b4,xs.length * 2 + 1,none⟩) (TP (Vd.out.own.lt b4 rfl).2 h23)).trans hc3;have Wy:=dP hc5;have hfz:W5.frozen? ⟨b4,xs.length * 2 + 1,none⟩=false:=HM5.out.own.frozenAt _;have HFZ:=dP hfz;clear hb3 hF hrb hkq3 hkq5 hIq hqd hc5 hb5 Vd HB2 HRE XY HB3 HNOD hfz;go_wp2_with (at_builtin; rw [← Vb]; clear Vb; refine wpList_append_own_at _ rfl _ _ 125 rfl w.heap.size 147 iR0 (.agg #[.string ⟨#[]⟩,.slice none 0 0]) 2 40 underlying125 Vx.out.1 Vx.out.2.1 Vx.out.2.2.1 Vx.out.2.2.2 rfl (by decide) (.slice t.ad t.rows.length t.cap) _ (t.rows.flatMap RR.cells) rfl HKT.out.own ⟨w3.heap.size,0,none⟩ 1 1 [.string nm,.slice UC qs.length capE] rfl rfl Wi.out (Tz _ _ _ _) (by unfold maxLen; omega) (by omega) VQ.out.size ?_);intro v6 w6 hown6 YO _ hat6;obtain ⟨g6,c6,hv6⟩:=fJ hown6;subst hv6;have hqv:q.vs=.slice UC qs.length capE:=by rw [HQD.out]; rfl
  have hneb:some b4 ≠ (Value.slice t.ad t.rows.length t.cap).ownBlock:=fun e=>HM5.out.head t (by rw [HXT.out]; simp) b4 (.inl e.symm) rfl;have hc6:w6.cell? ⟨b4,xs.length * 2 + 1,none⟩=some (.slice t.ad t.rows.length t.cap):=YO.cell Wy.out hneb;have hf6:w6.frozen? ⟨b4,xs.length * 2 + 1,none⟩=false:=(World.frozen?_of_block (w:=W5) (a:=⟨b4,xs.length * 2 + 1,none⟩) (YO.block b4 (HM5.out.own.lt b4 rfl).2 hneb)).trans HFZ.out;obtain ⟨t',ht'⟩:∃ t':TR,t'=⟨t.name,t.rows ++ [q],some ⟨g6,0,none⟩,c6⟩:=⟨_,rfl⟩;have hvt':t'.vs=.slice (some ⟨g6,0,none⟩) (t.rows.length + 1) c6:=by rw [ht']; simp [TR.vs]
  have hkt':kT w6 w.heap.size t':=by
   have h1:BF w6 w.heap.size (.slice (some ⟨g6,0,none⟩) (t.rows.length + 1) c6) (t.rows ++ [q]):=HKT.out.snoc IQ (q:=q) (by
     rw [show RR.cells q=[.string nm,.slice UC qs.length capE] by unfold RR.cells; rw [hqv,HQD.out]]; exact hown6) YO (by
     rcases hat6 with e | e
     ·exact .inl e
     ·exact .inr ⟨_,e,TS _⟩) HKQ.out (fun g hg e=>by
     have h2:=HTLT.out g (.inl e);have h3:=HIQ.out g hg;omega) (fun p hp g hg hg2=>by
     have h2:=HTLT.out g (.inr ⟨p,hp,hg⟩);have h3:=HIQ.out g hg2;omega)
   unfold kT;rw [hvt',ht'];exact h1
  have hI':∀ g,iT t' g→iT t g ∨ (g ≠ b4∧∀ p ∈ xs,¬ iT p g):=fun g hg=>by
   have Xl:w2.heap.size≤g→g ≠ b4∧∀ p ∈ xs,¬ iT p g:=fun hge=>⟨fun e=>by
     have:=HLT2.out b4 (.inl rfl);omega,fun p hp hi=>by
     have:=HLT2.out g (.inr ⟨p,by rw [HXT.out]; simp [hp],hi⟩);omega⟩
   rcases hg with hg | ⟨p,hp,hg⟩
   ·rw [hvt'] at hg;rcases hat6 with e | e
    ·exact .inl (.inl (e.symm.trans hg))
    rw [e] at hg; injection hg with hg;exact .inr (Xl (by have:=W5_ge.out; omega))
   rw [ht'] at hp;rcases Uc.1 hp with hp | hp
   ·exact .inl (.inr ⟨p,hp,hg⟩)
   rw [Ua] at hp; subst hp;exact .inr (Xl (by have:=HIQ.out g hg; omega))
  have HM7:Hid (iL (w6.setCell ⟨b4,xs.length * 2 + 1,none⟩ (.slice (some ⟨g6,0,none⟩) (t.rows.length + 1) c6)) w.heap.size (.slice (some ⟨b4,0,none⟩) (xs.length + 1) cap4) (xs ++ [t'])):=by
   have hM:=HM5.out;rw [HLX.out,HXT.out] at hM;refine UO.last mH hM rfl YO (fun r hr=>.inl hr) hkt' hI' ?_;rw [← hvt',show t'.vs=t'.vs from rfl];exact Pi xs t t' (by rw [ht'])
  have HB7:Hid (ag w (w6.setCell ⟨b4,xs.length * 2 + 1,none⟩ (.slice (some ⟨g6,0,none⟩) (t.rows.length + 1) c6))):=(VQ.out.grown YO VQ.out.size (fun g hg=>(HKT.out.own.lt g hg).1)).setCell (HM5.out.own.lt b4 rfl).1 _;have HTY7:Hid (mZ (ae rs) line=some (ae (xs ++ [t']))):=by
   show _=_;rw [XR.out,HNE.out,HTB.out,Xr.out,HXT.out,ht'];simp only [Bool.and_true,if_true];rw [show ae (xs ++ [t])=ae xs ++ [t.p] by simp [ae],qP];simp [ae,TR.p,eD,RR.p,HQD.out,Zu.out]
  obtain ⟨o1,o2,o3,o4⟩:=HON.out _ HTY7.out;have HO:=dP (And.intro o2 o1);have UX:=dP o3;have UR:=dP o4;clear hown6 YO hat6 o1 o2 o3 o4 hkt' hI' hvt' ht' hqv hneb HM5 VQ HKT HKQ;go_wp2;go_roundw;case rel=>exact ⟨_,more,n - 1,rfl,by omega,HM7,HB7,UX,UR,HO⟩
  simp only [strOf]; exact hless)
def Sz (s:ByteArray) (w:World) (e:Ending) (w':World):Prop :=
 ag w w'∧(((∀ T,dO (s.size + 1) s []=some T→aJ T=false)∧e=.returned (.tuple #[.slice none 0 0,.bool false])) ∨ ∃ (v:Value) (rs:List TR),aJ (ae rs)=true∧e=.returned (.tuple #[v,.bool true])∧iL w' w.heap.size v rs∧dw (ae rs)=s∧RH (ae rs))
theorem qQ (s:ByteArray) (w:af) (hs:s.size≤3000):Calls prog 84 #[.string s] w (Sz s w):=by
 have HL:=dP (EN s w hs);go_enter func84,ntmps84;go_wp2_with fail;refine HL.out.mono ?_;rintro e w1 ⟨hb1,hcase⟩;have HB1:=dP hb1;rcases hcase with ⟨hno,rfl⟩ | ⟨v,rs,hyes,rfl,hM,htx,hok⟩
 ·have Wu:Hid (∀ T,dO (s.size + 1) s []=some T→aJ T=false):=fun T hT=>by rw [hno] at hT; cases hT
  clear hb1 hno HL;go_wp2;exact bodyPost_ret (v:=.tuple #[.slice none 0 0,.bool false]) (by simp [results,Tryz.results84,go_sem]) rfl ⟨HB1.out,.inl ⟨Wu.out,rfl⟩⟩
 obtain ⟨ad,cap,hv,hsl,-⟩:=iL.read hM;subst hv;obtain ⟨k1,k2,k3,k4⟩:=rows_ok hok (by rw [htx]; exact hs);have HM:=dP hM;have HTX:=dP htx;have Vz:=dP hok;have HY:=dP hyes;have HSO:=dP (jV ad cap rs w1 (by omega) hsl k3 k4);clear hb1 hM htx hok hyes hsl k1 k2 k3 k4 HL;go_wp2_with fail;refine HSO.out.mono ?_;rintro e w2 ⟨he,hb2⟩;have HB2:=dP (HB1.out.trans (hb2.mono HB1.out.size));have Vd:=dP (HM.out.below mH hb2);clear hb2 HSO HM;cases hd:aJ (ae rs);case false=>
  rw [hd] at he; subst he;have Wu:Hid (∀ T,dO (s.size + 1) s []=some T→aJ T=false):=fun T hT=>by rw [HY.out] at hT; injection hT with hT; rw [← hT]; exact hd
  clear hd;go_wp2;exact bodyPost_ret (v:=.tuple #[.slice none 0 0,.bool false]) (by simp [results,Tryz.results84,go_sem]) rfl ⟨HB2.out,.inl ⟨Wu.out,rfl⟩⟩
 rw [hd] at he; subst he;have HD:=dP hd;clear hd;go_wp2;exact bodyPost_ret (v:=.tuple #[.slice ad rs.length cap,.bool true]) (by simp [results,Tryz.results84,go_sem]) rfl ⟨HB2.out,.inr ⟨_,rs,HD.out,rfl,Vd.out,HTX.out,Vz.out⟩⟩
set_option linter.unusedVariables false
theorem EO {t:ByteArray} {x y z c:UInt8} (h:t.data.toList.take 10=[116,121,112,101,32,x,y,z,10,c]) (h1:x ≠ 10) (h2:y ≠ 10) (h3:z ≠ 10) (h4:c ≠ 116):Pre t:=by
 refine ⟨x,y,z,c,t.data.toList.drop 10,?_,h1,h2,h3,h4⟩
 conv=>lhs; rw [← List.take_append_drop 10 t.data.toList,h]
 rfl
theorem Pj {t:ByteArray} (h:Pre t):10≤t.size:=by
 obtain ⟨x,y,z,c,tl,e,-⟩:=h;have h2:t.size=t.data.toList.length:=by simp
 rw [h2,e]; simp
theorem vG {w:af} {base base' size n:Nat} {e:TypeId} {v:Value} {xs:List Value} (h:w.ownsRow base e size v n xs) (hb:base'≤base):w.ownsRow base' e size v n xs:=by
 refine ⟨h.1,?_⟩;rcases h.2 with hl | ⟨g,cap,cur,rfl,h1,h2⟩
 ·exact .inl hl
 exact .inr ⟨g,cap,cur,rfl,TZ hb h1,h2⟩
theorem BF.lower {w:af} {base base':Nat} {v:Value} {rs:List RR} (h:BF w base v rs) (hb:base'≤base):BF w base' v rs:=⟨vG h.own hb,fun q hq=>NodM.mono (h.kid q hq) hb,h.head,h.two⟩
theorem UO.lower {w:af} {base base':Nat} {v:Value} {rs:List TR} (h:iL w base v rs) (hb:base'≤base):iL w base' v rs:=⟨vG h.own hb,fun q hq=>BF.lower (h.kid q hq) hb,h.head,h.two⟩
def GJ (w wc:World) (v:Value) (rs:List TR):Prop:=iL wc w.heap.size v rs∧aJ (ae rs)=true∧Pre (dw (ae rs))∧RH (ae rs)∧(dw (ae rs)).size≤2000
theorem GJ.only {w wc wd:af} {R:Nat} {v:Value} {rs:List TR} (h:GJ w wc v rs) (hR:R < w.heap.size) (ho:Only R wc wd):GJ w wd v rs :=
 ⟨h.1.heap mH ho.size fun g hg=>ho.block g (h.1.lt mH hg).2 (fun e=>by injection e with e; have:=(h.1.lt mH hg).1; omega),h.2⟩
def GoodS (rs:List TR):Prop:=rs.length≤500∧(∀ r ∈ rs,r.light)∧∀ r ∈ rs,r.fits
theorem GJ.good {w wc:af} {v:Value} {rs:List TR} (h:GJ w wc v rs):GoodS rs∧iL wc w.heap.size v rs:=by
 obtain ⟨k1,-,k3,k4⟩:=rows_ok h.2.2.2.1 (by have:=h.2.2.2.2; omega);exact ⟨⟨k1,k3,k4⟩,h.1⟩
theorem Pk:(⟨#[122,111,111]⟩:ByteArray).size≤maxLen:=by
 have e:(⟨#[122,111,111]⟩:ByteArray).size=3:=rfl;rw [e]; unfold maxLen; omega
theorem Js {t:TR} {ts:List TR} (h:GoodS (t::ts)):GoodS (({ t with name:=⟨#[122,111,111]⟩ }:TR)::ts):=by
 obtain ⟨h1,h2,h3⟩:=h;refine ⟨by simpa using h1,fun r hr=>?_,fun r hr=>?_⟩
 ·rcases List.mem_cons.1 hr with rfl | hr
  ·exact h2 t (by simp)
  exact h2 r (by simp [hr])
 rcases List.mem_cons.1 hr with rfl | hr
 ·obtain ⟨a1,a2,a3⟩:=h3 t (by simp);exact ⟨Pk,a2,a3⟩
 exact h3 r (by simp [hr])
theorem Mt {t:TR} {ts:List TR} {q:RR} {qs:List RR} {y:ER} {ys:List ER} (k:Int) (h:GoodS (t::ts)) (hq:t.rows=q::qs) (hy:q.rows=y::ys):GoodS (t.asK q qs y ys k::ts):=by
 obtain ⟨h1,h2,h3⟩:=h;refine ⟨by simpa using h1,fun r hr=>?_,fun r hr=>?_⟩
 ·rcases List.mem_cons.1 hr with rfl | hr
  ·obtain ⟨a1,a2⟩:=h2 t (by simp);rw [hq] at a1 a2;refine ⟨by simpa [TR.asK] using a1,fun p hp=>?_⟩;rcases List.mem_cons.1 hp with rfl | hp
   ·obtain ⟨b1,b2⟩:=a2 q (by simp);rw [hy] at b1 b2;refine ⟨by simpa using b1,fun z hz=>?_⟩;rcases List.mem_cons.1 hz with rfl | hz
    ·exact b2 y (by simp)
    exact b2 z (by simp [hz])
   exact a2 p (by simp [hp])
  exact h2 r (by simp [hr])
 rcases List.mem_cons.1 hr with rfl | hr
 ·obtain ⟨a0,a1,a2⟩:=h3 t (by simp);rw [hq] at a1 a2;refine ⟨a0,by simpa [TR.asK] using a1,fun p hp=>?_⟩;rcases List.mem_cons.1 hp with rfl | hp
  ·obtain ⟨b0,b1,b2⟩:=a2 q (by simp);rw [hy] at b1 b2;refine ⟨b0,by simpa using b1,fun z hz=>?_⟩;rcases List.mem_cons.1 hz with rfl | hz
   ·exact b2 y (by simp)
   exact b2 z (by simp [hz])
  exact a2 p (by simp [hp])
 exact h3 r (by simp [hr])
def SA (R:Nat) (ad:Option Addr) (len cap:Nat) (w:World) (e:Ending) (w':World):Prop:=∃ (v:Value) (rs:List TR),e=.returned v∧iL w' w.heap.size v rs∧GoodS rs∧Rd w' R ad len cap∧Only R w w'
def RI (R:Nat) (w:World) (v:Value):Nat × Nat→Prop
 | (0,n)=>∃ g,v=.slice (some ⟨g,0,none⟩) n n∧rT w R g n 70
 | (1,_)=>v=.pointer (some ⟨R,0,none⟩)
 | (2,n)=>∃ x:Nat,v=.int .i64 (x:Int)∧x < n
 | (3,n)=>∃ g x,v=.pointer (some ⟨g,x,none⟩)∧x < n∧rT w R g n 70
 | (4,n)=>∃ t:ByteArray,v=.string t∧t.size≤n
 | (_,n)=>∃ t:ByteArray,v=.string t∧Pre t∧t.size≤n
theorem RI.only {R:Nat} {w w':af} {v:Value} (h:Only R w w') (k:Nat × Nat) (hk:RI R w v k):RI R w' v k:=by
 match k,hk with
 | (0,n),hk=>obtain ⟨g,e,hs⟩:=hk; exact ⟨g,e,hs.only h⟩
 | (1,n),hk=>exact hk
 | (2,n),hk=>exact hk
 | (3,n),hk=>obtain ⟨g,x,e,hx,hs⟩:=hk; exact ⟨g,x,e,hx,hs.only h⟩
 | (4,n),hk=>exact hk
 | (n + 5,m),hk=>exact hk
def TN:List (Nat × Nat):=[(0,2),(1,0),(2,2),(3,2),(4,70),(5,200),(5,240),(0,3),(1,0),(2,3),(3,3),(4,70),(5,320),(5,420)]
theorem Jt (R:Nat) (ad:Option Addr) (len cap:Nat) (w:af) (h:Rd w R ad len cap) :
  Calls prog 45 #[.pointer (some ⟨R,0,none⟩)] w (SA R ad len cap w):=by
 have H:=jK h;have Xm:=h.lt;clear h;go_enter func45,ntmps45;go_wp2_with fail;refine fF 14 (fun f=>{ tmps:=List.toArray (Value.pointer (some ⟨R,0,none⟩)::undef::.slice none 0 0::undef::undef::undef::undef::f 0::f 1::f 2::f 3::f 4::f 5::f 6::f 7::f 8::f 9::f 10::f 11::f 12::f 13::undef::undef::undef::undef::undef::undef::undef::undef::undef::undef::undef::undef::undef::undef::undef::undef::undef::undef::undef::undef::undef::undef::undef::undef::undef::undef::undef::undef::undef::undef::undef::undef::undef::undef::undef::undef::undef::undef::undef::undef::undef::undef::undef::undef::undef::undef::undef::undef::undef::undef::undef::undef::undef::undef::undef::undef::undef::undef::undef::undef::undef::undef::undef::undef::undef::undef::undef::undef::undef::undef::undef::undef::undef::[]),defers:=[] }) (fun k v w'=>RI R w' v (TN.getD k (9,0))) (fun w'=>Rd w' R ad len cap∧Only R w w') (by kernel_rfl) rfl (by kernel_rfl) (by kernel_rfl) rfl ⟨H.out.below ((TT _ _).drew),(Only.refl R w).drewN 1⟩ ?step ?fin;case step =>
  rintro i hi o ho f w' ⟨hR',U2⟩ hpre;have HR:=az hR';have HO:=az U2;have hRl:R < w'.heap.size:=hR'.lt;have HM:Hid (∀ e ∈ o.after,Region.binds .any e=true→_):=hpre;clear hR' U2 hpre;have hc:=Tf (i:=i) (by omega);clear hi
  repeat' rcases hc with rfl | hc
  ·cases ho;have K1:Hid (Only R w' (w'.alloc (.cells #[.string ⟨#[116,104,105,115,40,117,115,101,114,41]⟩,.string ⟨#[116,104,105,115,40,117,115,101,114,41,32,124,32,112,97,114,101,110,116,45,62,111,119,110,101,114]⟩] 9))):=(Only.refl R w').alloc _;refine aa rfl fun K HK=>?_;clear HM;dsimp only;go_simp;exact HK.out _ _ ⟨.slice (some ⟨w'.heap.size,0,none⟩) 2 2,by simp [upd],⟨HR.out.alloc _,HO.out.alloc _⟩,⟨_,rfl,lQ w' R 70 hRl (xs:=[_,_]) (by decide)⟩,fun k u hu=>RI.only K1.out _ hu⟩
  ·cases ho;refine aa rfl fun K HK=>?_;clear HM;dsimp only;go_simp;exact HK.out _ _ ⟨Value.pointer (some ⟨R,0,none⟩),by simp [upd],⟨HR.out,HO.out⟩,rfl,fun k u hu=>hu⟩
  ·cases ho;have e1:f 1=Value.pointer (some ⟨R,0,none⟩):=HM.out ⟨1,.data⟩ (by simp) rfl;refine aa rfl fun K HK=>?_;clear HM;simp only [e1];go_simp;refine (fQ R ad len cap 2 _ HR.out (by omega) (by omega)).mono ?_;rintro e w5 ⟨⟨x,rfl,hx⟩,UU,UY⟩;have UT:=jK UU;have UK:=jK UY;clear UU UY;go_wp2_with fail;exact HK.out _ _ ⟨.int .i64 (x:Int),by simp [upd,e1],⟨UT.out,HO.out.trans UK.out⟩,⟨x,rfl,hx⟩,fun k u hu=>RI.only UK.out _ hu⟩
  ·cases ho;obtain ⟨g,e1,hS⟩:=HM.out ⟨0,.data⟩ (by simp) rfl;obtain ⟨x,e2,hx⟩:=HM.out ⟨2,.data⟩ (by simp) rfl;replace e1:f 0=_:=e1;replace e2:f 2=_:=e2;have HS:=az hS;clear hS;have hx0:=bB x;have hx1:(x:Int) < 2:=by omega
   refine aa rfl fun K HK=>?_;clear HM;simp only [e1,e2];go_simp;exact HK.out _ _ ⟨.pointer (some ⟨g,x,none⟩),by simp [upd,e1,e2],⟨HR.out,HO.out⟩,⟨g,x,rfl,hx,HS.out⟩,fun k u hu=>hu⟩
  ·cases ho;obtain ⟨g,x,e1,hx,hS⟩:=HM.out ⟨3,.data⟩ (by simp) rfl;replace e1:f 3=_:=e1;obtain ⟨t,hcell,ht⟩:=hS.2.2 x hx;clear hS;refine aa rfl fun K HK=>?_;clear HM;simp only [e1];go_simp;exact HK.out _ _ ⟨.string t,by simp [upd,e1],⟨HR.out,HO.out⟩,⟨t,rfl,ht⟩,fun k u hu=>hu⟩
  ·cases ho;obtain ⟨t,e1,ht⟩:=HM.out ⟨4,.data⟩ (by simp) rfl;replace e1:f 4=_:=e1;have hc0:(⟨#[116,121,112,101,32,100,111,99,10,98,97,110,110,101,100,32,61,32,116,104,105,115,40,117,115,101,114,41,10,101,100,105,116,111,114,32,61,32,116,104,105,115,40,117,115,101,114,41,32,124,32,111,119,110,101,114,10,111,119,110,101,114,32,61,32]⟩:ByteArray).size=65:=rfl;have hz:(9223372036854775807 < 65 + t.size)=False:=by simp; omega
   refine aa rfl fun K HK=>?_;clear HM;simp only [e1];go_simp;exact HK.out _ _ ⟨.string ((⟨#[116,121,112,101,32,100,111,99,10,98,97,110,110,101,100,32,61,32,116,104,105,115,40,117,115,101,114,41,10,101,100,105,116,111,114,32,61,32,116,104,105,115,40,117,115,101,114,41,32,124,32,111,119,110,101,114,10,111,119,110,101,114,32,61,32]⟩:ByteArray) ++ t),by simp [upd,e1],⟨HR.out,HO.out⟩,⟨_,rfl,(EO (x:=100) (y:=111) (z:=99) (c:=98) (by rfl) (by decide) (by decide) (by decide) (by decide)).app t,by rw [Uh,hc0]; omega⟩,fun k u hu=>hu⟩
  ·cases ho;obtain ⟨t,e1,hp,ht⟩:=HM.out ⟨5,.data⟩ (by simp) rfl;replace e1:f 5=_:=e1;have XK:=jK hp;have hc0:(⟨#[10,112,97,114,101,110,116,32,61,32,116,104,105,115,40,100,111,99,41,10,118,105,101,119,101,114,32,61,32]⟩:ByteArray).size=29:=rfl;have hz:(9223372036854775807 < t.size + 29)=False:=by simp; omega
   refine aa rfl fun K HK=>?_;clear HM hp;simp only [e1];go_simp;exact HK.out _ _ ⟨.string (t ++ (⟨#[10,112,97,114,101,110,116,32,61,32,116,104,105,115,40,100,111,99,41,10,118,105,101,119,101,114,32,61,32]⟩:ByteArray)),by simp [upd,e1],⟨HR.out,HO.out⟩,⟨_,rfl,XK.out.app _,by rw [Uh,hc0]; omega⟩,fun k u hu=>hu⟩
  ·cases ho;have K1:Hid (Only R w' (w'.alloc (.cells #[.string ⟨#[116,104,105,115,40,117,115,101,114,44,103,114,111,117,112,35,109,101,109,98,101,114,41,32,124,32,101,100,105,116,111,114,32,124,32,112,97,114,101,110,116,45,62,118,105,101,119,101,114]⟩,.string ⟨#[40,116,104,105,115,40,117,115,101,114,44,103,114,111,117,112,35,109,101,109,98,101,114,41,32,124,32,101,100,105,116,111,114,32,124,32,112,97,114,101,110,116,45,62,118,105,101,119,101,114,41,32,45,32,98,97,110,110,101,100]⟩,.string ⟨#[116,104,105,115,40,117,115,101,114,44,103,114,111,117,112,35,109,101,109,98,101,114,41,32,38,32,101,100,105,116,111,114]⟩] 9))):=(Only.refl R w').alloc _;refine aa rfl fun K HK=>?_;clear HM;dsimp only;go_simp;exact HK.out _ _ ⟨.slice (some ⟨w'.heap.size,0,none⟩) 3 3,by simp [upd],⟨HR.out.alloc _,HO.out.alloc _⟩,⟨_,rfl,lQ w' R 70 hRl (xs:=[_,_,_]) (by decide)⟩,fun k u hu=>RI.only K1.out _ hu⟩
  ·cases ho;refine aa rfl fun K HK=>?_;clear HM;dsimp only;go_simp;exact HK.out _ _ ⟨Value.pointer (some ⟨R,0,none⟩),by simp [upd],⟨HR.out,HO.out⟩,rfl,fun k u hu=>hu⟩
  ·cases ho;have e1:f 8=Value.pointer (some ⟨R,0,none⟩):=HM.out ⟨8,.data⟩ (by simp) rfl;refine aa rfl fun K HK=>?_;clear HM;simp only [e1];go_simp;refine (fQ R ad len cap 3 _ HR.out (by omega) (by omega)).mono ?_;rintro e w5 ⟨⟨x,rfl,hx⟩,UU,UY⟩;have UT:=jK UU;have UK:=jK UY;clear UU UY;go_wp2_with fail;exact HK.out _ _ ⟨.int .i64 (x:Int),by simp [upd,e1],⟨UT.out,HO.out.trans UK.out⟩,⟨x,rfl,hx⟩,fun k u hu=>RI.only UK.out _ hu⟩
  ·cases ho;obtain ⟨g,e1,hS⟩:=HM.out ⟨7,.data⟩ (by simp) rfl;obtain ⟨x,e2,hx⟩:=HM.out ⟨9,.data⟩ (by simp) rfl;replace e1:f 7=_:=e1;replace e2:f 9=_:=e2;have HS:=az hS;clear hS;have hx0:=bB x;have hx1:(x:Int) < 3:=by omega
   refine aa rfl fun K HK=>?_;clear HM;simp only [e1,e2];go_simp;exact HK.out _ _ ⟨.pointer (some ⟨g,x,none⟩),by simp [upd,e1,e2],⟨HR.out,HO.out⟩,⟨g,x,rfl,hx,HS.out⟩,fun k u hu=>hu⟩
  ·cases ho;obtain ⟨g,x,e1,hx,hS⟩:=HM.out ⟨10,.data⟩ (by simp) rfl;replace e1:f 10=_:=e1;obtain ⟨t,hcell,ht⟩:=hS.2.2 x hx;clear hS;refine aa rfl fun K HK=>?_;clear HM;simp only [e1];go_simp;exact HK.out _ _ ⟨.string t,by simp [upd,e1],⟨HR.out,HO.out⟩,⟨t,rfl,ht⟩,fun k u hu=>hu⟩
  ·cases ho;obtain ⟨t,e1,hp,ht⟩:=HM.out ⟨6,.data⟩ (by simp) rfl;obtain ⟨u2,e2,hu2⟩:=HM.out ⟨11,.data⟩ (by simp) rfl;replace e1:f 6=_:=e1;replace e2:f 11=_:=e2;have XK:=jK hp;have hz:(9223372036854775807 < t.size + u2.size)=False:=by simp; omega
   refine aa rfl fun K HK=>?_;clear HM hp;simp only [e1,e2];go_simp;exact HK.out _ _ ⟨.string (t ++ u2),by simp [upd,e1,e2],⟨HR.out,HO.out⟩,⟨_,rfl,XK.out.app _,by rw [Uh]; omega⟩,fun k u hu=>hu⟩
  cases ho;obtain ⟨t,e1,hp,ht⟩:=HM.out ⟨12,.data⟩ (by simp) rfl;replace e1:f 12=_:=e1;have XK:=jK hp;have hc0:(⟨#[10,116,121,112,101,32,103,114,111,117,112,10,109,101,109,98,101,114,32,61,32,116,104,105,115,40,117,115,101,114,44,103,114,111,117,112,35,109,101,109,98,101,114,41,10,116,121,112,101,32,117,115,101,114,10]⟩:ByteArray).size=55:=rfl;have hz:(9223372036854775807 < t.size + 55)=False:=by simp; omega
  refine aa rfl fun K HK=>?_;clear HM hp;simp only [e1];go_simp;exact HK.out _ _ ⟨.string (t ++ (⟨#[10,116,121,112,101,32,103,114,111,117,112,10,109,101,109,98,101,114,32,61,32,116,104,105,115,40,117,115,101,114,44,103,114,111,117,112,35,109,101,109,98,101,114,41,10,116,121,112,101,32,117,115,101,114,10]⟩:ByteArray)),by simp [upd,e1],⟨HR.out,HO.out⟩,⟨_,rfl,XK.out.app _,by rw [Uh,hc0]; omega⟩,fun k u hu=>hu⟩
 case fin =>
  rintro o ho f w1 ⟨U4,UW⟩ hall;obtain ⟨t1,e1,hp1,ht1⟩:=hall 13 (by omega);replace e1:f 13=_:=e1;have HR1:=jK U4;have UV:=jK UW;have HP1:=jK hp1;obtain rfl:=Option.some.inj ho;clear ho hall U4 UW hp1;refine aa rfl fun K HK=>?_;simp only [e1];go_simp;refine HK.out _ _ ?_;clear HK;go_wp2_with fail;refine (iP R ad len cap 3 _ HR1.out (by omega) (by omega)).mono ?_;rintro e w2 ⟨⟨q1,rfl⟩,hR2,hO2⟩;have HR2:=jK hR2;have UB:Hid (Only R w w2):=UV.out.trans hO2;clear hR2 hO2 HR1 UV
  go_upto_if 22 with fail
  go_cut [3] from 23 (fun s3 wc=>∃ t:ByteArray,s3=.string t∧t.size≤1200∧Hid (Pre t)∧Hid (Rd wc R ad len cap)∧Hid (Only R w wc))
  case first =>
   cases q1;case false=>
    go_wp2_with fail
    go_meet
    exact ⟨t1,rfl,by omega,HP1,HR2,UB⟩
   go_wp2_with fail;refine (p8 R ad len cap 0 _ (by omega) HR2.out).mono ?_;rintro e w3 ⟨⟨r0,rfl,hr0⟩,Wm,hO3⟩;have HR3:=jK Wm;have UX:Hid (Only R w w3):=UB.out.trans hO3;clear Wm hO3 HR2 UB;go_wp2_with fail;refine (p8 R ad len cap 1 _ (by omega) HR3.out).mono ?_;rintro e w4 ⟨⟨r1,rfl,hr1⟩,Xn,hO4⟩;have HR4:=jK Xn;have UR:Hid (Only R w w4):=UX.out.trans hO4;clear Xn hO4 HR3 UX;go_wp2_with fail;refine (p8 R ad len cap 2 _ (by omega) HR4.out).mono ?_;rintro e w5 ⟨⟨r2,rfl,hr2⟩,UU,UY⟩;have UT:=jK UU;have UK:Hid (Only R w w5):=UR.out.trans UY;clear UU UY HR4 UR;have k0:(⟨#[116,121,112,101,32,100,111,99,10,98,97,110,110,101,100,32,61,32]⟩:ByteArray).size=18:=rfl;have k1:(⟨#[10,101,100,105,116,111,114,32,61,32]⟩:ByteArray).size=10:=rfl;have k2:(⟨#[10,111,119,110,101,114,32,61,32,116,104,105,115,40,117,115,101,114,41,10,112,97,114,101,110,116,32,61,32,116,104,105,115,40,100,111,99,41,10,118,105,101,119,101,114,32,61,32]⟩:ByteArray).size=48:=rfl;have k3:(⟨#[10,116,121,112,101,32,103,114,111,117,112,10,109,101,109,98,101,114,32,61,32,116,104,105,115,40,117,115,101,114,44,103,114,111,117,112,35,109,101,109,98,101,114,41,10,116,121,112,101,32,117,115,101,114,10]⟩:ByteArray).size=55:=rfl;have XG:Hid ((((((((⟨#[116,121,112,101,32,100,111,99,10,98,97,110,110,101,100,32,61,32]⟩:ByteArray) ++ r0) ++ (⟨#[10,101,100,105,116,111,114,32,61,32]⟩:ByteArray)) ++ r1) ++ (⟨#[10,111,119,110,101,114,32,61,32,116,104,105,115,40,117,115,101,114,41,10,112,97,114,101,110,116,32,61,32,116,104,105,115,40,100,111,99,41,10,118,105,101,119,101,114,32,61,32]⟩:ByteArray)) ++ r2) ++ (⟨#[10,116,121,112,101,32,103,114,111,117,112,10,109,101,109,98,101,114,32,61,32,116,104,105,115,40,117,115,101,114,44,103,114,111,117,112,35,109,101,109,98,101,114,41,10,116,121,112,101,32,117,115,101,114,10]⟩:ByteArray)).size≤1200):=by show _≤_; simp only [Uh,k0,k1,k2,k3]; omega
   have HPX:Hid (Pre (((((((⟨#[116,121,112,101,32,100,111,99,10,98,97,110,110,101,100,32,61,32]⟩:ByteArray) ++ r0) ++ (⟨#[10,101,100,105,116,111,114,32,61,32]⟩:ByteArray)) ++ r1) ++ (⟨#[10,111,119,110,101,114,32,61,32,116,104,105,115,40,117,115,101,114,41,10,112,97,114,101,110,116,32,61,32,116,104,105,115,40,100,111,99,41,10,118,105,101,119,101,114,32,61,32]⟩:ByteArray)) ++ r2) ++ (⟨#[10,116,121,112,101,32,103,114,111,117,112,10,109,101,109,98,101,114,32,61,32,116,104,105,115,40,117,115,101,114,44,103,114,111,117,112,35,109,101,109,98,101,114,41,10,116,121,112,101,32,117,115,101,114,10]⟩:ByteArray))):=(((((((EO (x:=100) (y:=111) (z:=99) (c:=98) (by rfl) (by decide) (by decide) (by decide) (by decide):Pre (⟨#[116,121,112,101,32,100,111,99,10,98,97,110,110,101,100,32,61,32]⟩:ByteArray)).app r0).app _).app r1).app _).app r2).app _);clear k0 k1 k2 k3;go_wp2_with fail
   go_meet
   exact ⟨_,rfl,XG.out,HPX,UT,UK⟩
  obtain ⟨t,rfl,hts,HP,HR,HO⟩:=hcut;clear HP1 HR2 UB;go_wp2_with fail;refine (iP R ad len cap 4 _ HR.out (by omega) (by omega)).mono ?_;rintro e w6 ⟨⟨q2,rfl⟩,hR6,WQ⟩;have V5:=jK hR6;have Vh:Hid (Only R w w6):=HO.out.trans WQ;clear hR6 WQ HR HO
  go_upto_if 36 with fail
  go_cut [3,4] from 37 (fun s3 s4 wc=>∃ t:ByteArray,s3=.string t∧t.size≤2000∧Hid (Pre t)∧Hid (Rd wc R ad len cap)∧Hid (Only R w wc))
  case first =>
   cases q2;case false=>
    go_wp2_with fail
    go_meet
    exact ⟨t,rfl,by omega,HP,V5,Vh⟩
   have ht10:10≤t.size:=Pj HP.out;go_wp2_with fail;go_loopw [4] (fun i wr=>∃ k:Nat,i=.int .i64 (k:Int)∧k + 9≤t.size∧wr=w6) (fun i _=>t.size - (intOf i).toNat);case atStart=>exact ⟨0,rfl,by omega,rfl⟩
   obtain ⟨k,rfl,hk,rfl⟩:=hrel;have HD0:Hid ((⟨#[116,121,112,101,32,100,105,114,10,111,119,110,101,114,32,61,32,116,104,105,115,40,117,115,101,114,41,10,115,101,101,32,61,32,116,104,105,115,40,117,115,101,114,41,10]⟩:ByteArray).size=45):=rfl;have HD1:Hid ((⟨#[116,104,105,115,40,100,111,99,44,100,105,114,41]⟩:ByteArray).size=13):=rfl;have h3:(((k:Int) + 9 < (t.size:Int))∧((t.extract k (k + 9)).toList == [116,104,105,115,40,100,111,99,41])=false) ∨ (((k:Int) + 9 < (t.size:Int))∧((t.extract k (k + 9)).toList == [116,104,105,115,40,100,111,99,41])=true) ∨ ¬ ((k:Int) + 9 < (t.size:Int)):=by
    by_cases h:(k:Int) + 9 < (t.size:Int)
    ·cases e:(t.extract k (k + 9)).toList == [116,104,105,115,40,100,111,99,41]
     ·exact .inl ⟨h,rfl⟩
     exact .inr (.inl ⟨h,rfl⟩)
    exact .inr (.inr h)
   have hk0:=bB k;have hk1:(k:Int)≤(t.size:Int):=by omega
   have hk2:(0:Int)≤(k:Int) + 9:=by omega
   have hk3:(k:Int) + 9≤(t.size:Int):=by omega
   have he1:(t.extract 0 k).size≤1200:=by rw [ByteArray.size_extract]; omega
   have he2:(t.extract (k + 9) t.size).size≤1200:=by rw [ByteArray.size_extract]; omega
   have hetot:(t.extract 0 k).size + (t.extract (k + 9) t.size).size≤1200:=by rw [ByteArray.size_extract,ByteArray.size_extract]; omega
   have XG:Hid (((((⟨#[116,121,112,101,32,100,105,114,10,111,119,110,101,114,32,61,32,116,104,105,115,40,117,115,101,114,41,10,115,101,101,32,61,32,116,104,105,115,40,117,115,101,114,41,10]⟩:ByteArray) ++ t.extract 0 k) ++ (⟨#[116,104,105,115,40,100,111,99,44,100,105,114,41]⟩:ByteArray)) ++ t.extract (k + 9) t.size).size≤2000):=by show _≤_; simp only [Uh,HD0.out,HD1.out]; omega
   have HPX:Hid (Pre ((((⟨#[116,121,112,101,32,100,105,114,10,111,119,110,101,114,32,61,32,116,104,105,115,40,117,115,101,114,41,10,115,101,101,32,61,32,116,104,105,115,40,117,115,101,114,41,10]⟩:ByteArray) ++ t.extract 0 k) ++ (⟨#[116,104,105,115,40,100,111,99,44,100,105,114,41]⟩:ByteArray)) ++ t.extract (k + 9) t.size)):=((((EO (x:=100) (y:=105) (z:=114) (c:=111) (by rfl) (by decide) (by decide) (by decide) (by decide):Pre (⟨#[116,121,112,101,32,100,105,114,10,111,119,110,101,114,32,61,32,116,104,105,115,40,117,115,101,114,41,10,115,101,101,32,61,32,116,104,105,115,40,117,115,101,114,41,10]⟩:ByteArray)).app _).app _).app _);have HRW:Hid (∀ n,Rd (wr.drewN n) R ad len cap):=fun n=>V5.out.below (below_drewN (TT _ _) n);have HOW:Hid (∀ n,Only R w (wr.drewN n)):=fun n=>Vh.out.drewN n;rcases h3 with ⟨h,hm⟩ | ⟨h,hm⟩ | h
   ·have hm2:(!(t.extract k (k + 9)).toList == [116,104,105,115,40,100,111,99,41])=true:=by rw [hm]; rfl
    go_wp2;go_roundw;case rel=>exact ⟨k + 1,by go_num,by omega,trivial⟩
    simp [intOf] <;> omega
   ·have hm2:(!(t.extract k (k + 9)).toList == [116,104,105,115,40,100,111,99,41])=false:=by rw [hm]; rfl
    go_wp2_with fail;go_quiet (fail);go_wp2_with fail
    go_meet
    exact ⟨_,rfl,XG.out,HPX,HRW.out _,HOW.out _⟩
   go_wp2_with fail;go_quiet (fail);go_wp2_with fail
   go_meet
   exact ⟨_,rfl,XG.out,HPX,HRW.out _,HOW.out _⟩
  obtain ⟨t2,rfl,hts2,UI,HR,HO⟩:=hcut;clear HP V5 Vh hts;have hRc:R < wc.heap.size:=HR.out.lt;go_wp2_with fail;refine (qQ t2 _ (by omega)).mono ?_;rintro e w7 ⟨Y7,hcase⟩;have HR7:=jK (HR.out.below Y7);have WN:=az (HO.out.below Y7);have hw7:w.heap.size≤w7.heap.size:=WN.out.size;have hwc:w.heap.size≤wc.heap.size:=HO.out.size;obtain ⟨v0,b0,rfl,ZL⟩:∃ (v0:Value) (b0:Bool),e=.returned (.tuple #[v0,.bool b0])∧Hid (b0=true→∃ rs:List TR,GJ w w7 v0 rs):=by
   rcases hcase with ⟨-,e1⟩ | ⟨v,rs,hd,e1,hM,htx,hok⟩
   ·exact ⟨_,_,e1,fun h=>by cases h⟩
   exact ⟨_,_,e1,fun _=>⟨rs,hM.lower hwc,hd,by rw [htx]; exact UI.out,hok,by rw [htx]; omega⟩⟩
  clear Y7 hcase HR HO UI hts2 hwc hRc
  go_upto_if 68 with fail
  go_cut [5] from 69 (fun s5 wd=>(∃ rs:List TR,GJ w wd s5 rs)∧Hid (Rd wd R ad len cap)∧Hid (Only R w wd))
  case first =>
   cases b0;case true=>
    have HV:=jK (ZL.out rfl);go_wp2_with fail
    go_meet
    exact ⟨HV.out,HR7,WN⟩
   go_wp2_with fail;refine (qQ lastT _ (by decide)).mono ?_;rintro e w8 ⟨hb8,hcase⟩;have HR8:=jK (HR7.out.below hb8);have HO8:=az (WN.out.below hb8);rcases hcase with ⟨hno,e1⟩ | ⟨v,rs,hd,e1,hM,htx,hok⟩
   ·exact absurd (hno GD Jp) (by rw [Jq]; decide)
   subst e1;have HV:Hid (∃ rs:List TR,GJ w w8 v rs):=⟨rs,hM.lower hw7,hd,by rw [htx]; exact EO (x:=100) (y:=111) (z:=99) (c:=118) (by rfl) (by decide) (by decide) (by decide) (by decide),hok,by rw [htx]; decide⟩;clear hb8 hd hM htx hok;go_wp2_with fail
   go_meet
   exact ⟨HV.out,HR8,HO8⟩
  obtain ⟨⟨rs,hSR⟩,HR,HO⟩:=hcut;have HSR:=jK hSR;clear hSR ZL HR7 WN hw7;go_wp2_with fail;refine (fQ R ad len cap 40 _ HR.out (by omega) (by omega)).mono ?_;rintro e w9 ⟨⟨x,rfl,hx⟩,hR9,hO9⟩;have HR9:=jK hR9;have HO9:Hid (Only R w w9):=HO.out.trans hO9;have HS9:=jK (HSR.out.only Xm hO9);clear hR9 hO9 HR HO HSR;obtain ⟨t,ts,q,qs,y,ys,hrs,hq,hy⟩:=Mm HS9.out.2.1 HS9.out.2.2.1;subst hrs;obtain ⟨b,cp,hu5⟩:∃ b cp,u5=.slice (some ⟨b,0,none⟩) (ts.length + 1) cp:=fJ HS9.out.1.own;subst hu5;have Zv:=jK HS9.out.1;have HG:=jK HS9.out.good.1;have HQ:=jK hq;have HYY:=jK hy;have hbw:w.heap.size≤b:=(Zv.out.own.lt b rfl).1;have hbl:b < w9.heap.size:=(Zv.out.own.lt b rfl).2;have hts0:(0:Int) < (ts.length:Int) + 1:=by omega
  have FAR:Hid (∀ g,w.heap.size≤g→0 < len→∀ b off,ad=some ⟨b,off,none⟩→b ≠ g):=fun g hg h0 b off e=>by
   obtain ⟨b',off',e',-,hb',-⟩:=H.out.bytes h0;rw [e] at e'; injection e' with e'; injection e' with e1 e2; omega
  have hc0:w9.cell? ⟨b,0,none⟩=some (.string t.name):=(Zv.out.own.cellAt 0 (by omega)).trans (by simp [TR.cells]);have hc1:w9.cell? ⟨b,1,none⟩=some (.slice t.ad t.rows.length t.cap):=(Zv.out.own.cellAt 1 (by omega)).trans (by simp [TR.cells,TR.vs]);have hf0:w9.frozen? ⟨b,0,none⟩=false:=Zv.out.own.frozenAt 0;clear HS9 hq hy;by_cases h39:x=39
  ·have h39b:((x:Int) == 39)=true:=by simp; omega
   have U6:Hid (SA R ad len cap w (.returned (.slice (some ⟨b,0,none⟩) (ts.length + 1) cp)) (w9.setCell ⟨b,0,none⟩ (.string ⟨#[122,111,111]⟩))):=⟨_,_,rfl,iL.named ⟨#[122,111,111]⟩ Zv.out rfl,Js HG.out,HR9.out.setFar (by omega) (FAR.out b hbw),HO9.out.setNew hbw⟩;go_wp2;go_ret;exact U6.out
  have h39b:((x:Int) == 39)=false:=by simp; omega
  by_cases h38:x=38
  ·have h38b:((x:Int) == 38)=true:=by simp; omega
   subst h38;have hkt:=Zv.out.kid t (by simp);have hR9:BF w9 w.heap.size t.vs (q::qs):=by have:=hkt; unfold kT at this; rwa [HQ.out] at this
   obtain ⟨b1,c1,ht1⟩:∃ b1 c1,t.vs=.slice (some ⟨b1,0,none⟩) (qs.length + 1) c1:=fJ hR9.own;have hkq:=hR9.kid q (by simp);have hN9:NodM w9 w.heap.size q.vs (y::ys):=by have:=hkq; unfold kR at this; rwa [HYY.out] at this
   obtain ⟨b2,c2,hq2⟩:∃ b2 c2,q.vs=.slice (some ⟨b2,0,none⟩) (ys.length + 1) c2:=fJ hN9.own;have hqad:q.ad=some ⟨b2,0,none⟩:=by unfold RR.vs at hq2; injection hq2
   rw [ht1] at hR9;rw [hq2] at hN9;have hv1:Value.slice t.ad t.rows.length t.cap=.slice (some ⟨b1,0,none⟩) (qs.length + 1) c1:=ht1;rw [hv1] at hc1;have hd1:w9.cell? ⟨b1,1,none⟩=some (.slice (some ⟨b2,0,none⟩) (ys.length + 1) c2):=(hR9.own.cellAt 1 (by omega)).trans (by simp [RR.cells,hq2]);have hk0:w9.cell? ⟨b2,0,none⟩=some (.int .i64 y.e.kind):=(hN9.own.cellAt 0 (by omega)).trans (by simp [gZ,ER.row]);have hk1:w9.frozen? ⟨b2,0,none⟩=false:=hN9.own.frozenAt 0;have l1:=hR9.own.lt b1 rfl;have l2:=hN9.own.lt b2 rfl;have hqs0:(0:Int) < (qs.length:Int) + 1:=by omega
   have hys0:(0:Int) < (ys.length:Int) + 1:=by omega
   have HQAD:=jK hqad;clear hkt hkq hR9 hN9 ht1 hq2 hqad hv1 hc0 hf0;go_wp2_with fail;refine lZ 11 (fun n=>(u82::u83::u84::u85::u86::u87::u88::u89::u90::u91::u92::u93::[]).getD n undef) (fun fq=>{ tmps:=List.toArray (Value.pointer (some ⟨R,0,none⟩)::undef::.slice none 0 0::.string t2::u4::.slice (some ⟨b,0,none⟩) (ts.length + 1) cp::.bool b0::f 0::f 1::f 2::f 3::f 4::f 5::f 6::f 7::f 8::f 9::f 10::f 11::f 12::.string t1::.pointer (some ⟨R,0,none⟩)::.bool q1::u23::u24::u25::u26::u27::u28::u29::u30::u31::u32::u33::u34::.pointer (some ⟨R,0,none⟩)::.bool q2::u37::u38::u39::u40::u41::u42::u43::u44::u45::u46::u47::u48::u49::u50::u51::u52::u53::u54::u55::u56::u57::u58::u59::u60::u61::.tuple #[v0,.bool b0]::.string t2::.tuple #[v0,.bool b0]::v0::.bool b0::.bool b0::(Value.bool (!b0))::u69::u70::u71::u72::.pointer (some ⟨R,0,none⟩)::.int .i64 38::.bool false::.bool false::u77::u78::u79::.bool true::.bool true::fq 0::fq 1::fq 2::fq 3::fq 4::fq 5::fq 6::fq 7::fq 8::fq 9::fq 10::u93::[]),defers:=[] }) (fun k v _=>(k=8→∃ z:Int,v=.int .i64 z)∧(k ≠ 8→v=(Value.slice (some ⟨b,0,none⟩) (ts.length + 1) cp::.pointer (some ⟨b,0,none⟩)::.pointer (some ⟨b,1,none⟩)::.slice (some ⟨b1,0,none⟩) (qs.length + 1) c1::.pointer (some ⟨b1,0,none⟩)::.pointer (some ⟨b1,1,none⟩)::.slice (some ⟨b2,0,none⟩) (ys.length + 1) c2::.pointer (some ⟨R,0,none⟩)::undef::.pointer (some ⟨b2,0,none⟩)::.pointer (some ⟨b2,0,none⟩)::[]).getD k undef)) (fun _ w'=>Rd w' R ad len cap∧Only R w9 w') (by kernel_rfl) rfl (by kernel_rfl) (by kernel_rfl) rfl ⟨HR9.out.below ((TT _ _).drew),(Only.refl R w9).drewN 1⟩ ?stepK ?finK;case stepK =>
    rintro i hi o ho listed fq w' - - ⟨hR',U2⟩ hpre;have YP:=az hR';have YQ:=az U2;replace hc1:=(U2.cell hbl (by omega)).trans hc1;replace hd1:=(U2.cell l1.2 (by omega)).trans hd1;have HM:Hid (∀ e ∈ o.after,Region.binds .any e=true→_):=hpre;clear hR' U2 hpre;have hc:=M9 (i:=i) (by omega);clear hi
    repeat' rcases hc with rfl | hc
    ·cases ho;refine aa rfl fun K HK=>?_;clear HM;dsimp only;go_simp;exact HK.out _ _ ⟨Value.slice (some ⟨b,0,none⟩) (ts.length + 1) cp,by simp [upd],⟨YP.out,YQ.out⟩,⟨fun h=>absurd h (by decide),fun _=>rfl⟩,fun k u _ hu=>hu⟩
    ·cases ho;have e0:fq 0=.slice (some ⟨b,0,none⟩) (ts.length + 1) cp:=(HM.out ⟨0,.data⟩ (by simp) rfl).2 (by decide);refine aa rfl fun K HK=>?_;clear HM;simp only [e0];go_simp;exact HK.out _ _ ⟨Value.pointer (some ⟨b,0,none⟩),by simp [upd,e0],⟨YP.out,YQ.out⟩,⟨fun h=>absurd h (by decide),fun _=>rfl⟩,fun k u _ hu=>hu⟩
    ·cases ho;have e1:fq 1=.pointer (some ⟨b,0,none⟩):=(HM.out ⟨1,.data⟩ (by simp) rfl).2 (by decide);refine aa rfl fun K HK=>?_;clear HM;simp only [e1];go_simp;exact HK.out _ _ ⟨Value.pointer (some ⟨b,1,none⟩),by simp [upd,e1],⟨YP.out,YQ.out⟩,⟨fun h=>absurd h (by decide),fun _=>rfl⟩,fun k u _ hu=>hu⟩
    ·cases ho;have e2:fq 2=.pointer (some ⟨b,1,none⟩):=(HM.out ⟨2,.data⟩ (by simp) rfl).2 (by decide);refine aa rfl fun K HK=>?_;clear HM;simp only [e2];go_simp;exact HK.out _ _ ⟨Value.slice (some ⟨b1,0,none⟩) (qs.length + 1) c1,by simp [upd,e2],⟨YP.out,YQ.out⟩,⟨fun h=>absurd h (by decide),fun _=>rfl⟩,fun k u _ hu=>hu⟩
    ·cases ho;have e3:fq 3=.slice (some ⟨b1,0,none⟩) (qs.length + 1) c1:=(HM.out ⟨3,.data⟩ (by simp) rfl).2 (by decide);refine aa rfl fun K HK=>?_;clear HM;simp only [e3];go_simp;exact HK.out _ _ ⟨Value.pointer (some ⟨b1,0,none⟩),by simp [upd,e3],⟨YP.out,YQ.out⟩,⟨fun h=>absurd h (by decide),fun _=>rfl⟩,fun k u _ hu=>hu⟩
    ·cases ho;have e4:fq 4=.pointer (some ⟨b1,0,none⟩):=(HM.out ⟨4,.data⟩ (by simp) rfl).2 (by decide);refine aa rfl fun K HK=>?_;clear HM;simp only [e4];go_simp;exact HK.out _ _ ⟨Value.pointer (some ⟨b1,1,none⟩),by simp [upd,e4],⟨YP.out,YQ.out⟩,⟨fun h=>absurd h (by decide),fun _=>rfl⟩,fun k u _ hu=>hu⟩
    ·cases ho;have e5:fq 5=.pointer (some ⟨b1,1,none⟩):=(HM.out ⟨5,.data⟩ (by simp) rfl).2 (by decide);refine aa rfl fun K HK=>?_;clear HM;simp only [e5];go_simp;exact HK.out _ _ ⟨Value.slice (some ⟨b2,0,none⟩) (ys.length + 1) c2,by simp [upd,e5],⟨YP.out,YQ.out⟩,⟨fun h=>absurd h (by decide),fun _=>rfl⟩,fun k u _ hu=>hu⟩
    ·cases ho;refine aa rfl fun K HK=>?_;clear HM;dsimp only;go_simp;exact HK.out _ _ ⟨Value.pointer (some ⟨R,0,none⟩),by simp [upd],⟨YP.out,YQ.out⟩,⟨fun h=>absurd h (by decide),fun _=>rfl⟩,fun k u _ hu=>hu⟩
    ·cases ho;have e7:fq 7=.pointer (some ⟨R,0,none⟩):=(HM.out ⟨7,.data⟩ (by simp) rfl).2 (by decide);refine aa rfl fun K HK=>?_;clear HM;simp only [e7];go_simp;refine (Qk R ad len cap _ YP.out).mono ?_;rintro e w10 ⟨⟨z,rfl⟩,hR10,hO10⟩;have HR10:=jK hR10;have HO10:=jK hO10;clear hR10 hO10;go_wp2_with fail;exact HK.out _ _ ⟨.int .i64 z,by simp [upd,e7],⟨HR10.out,YQ.out.trans HO10.out⟩,⟨fun _=>⟨z,rfl⟩,fun h=>absurd rfl h⟩,fun k u _ hu=>hu⟩
    ·cases ho;have e6:fq 6=.slice (some ⟨b2,0,none⟩) (ys.length + 1) c2:=(HM.out ⟨6,.data⟩ (by simp) rfl).2 (by decide);refine aa rfl fun K HK=>?_;clear HM;simp only [e6];go_simp;exact HK.out _ _ ⟨Value.pointer (some ⟨b2,0,none⟩),by simp [upd,e6],⟨YP.out,YQ.out⟩,⟨fun h=>absurd h (by decide),fun _=>rfl⟩,fun k u _ hu=>hu⟩
    cases ho;have e9:fq 9=.pointer (some ⟨b2,0,none⟩):=(HM.out ⟨9,.data⟩ (by simp) rfl).2 (by decide);refine aa rfl fun K HK=>?_;clear HM;simp only [e9];go_simp;exact HK.out _ _ ⟨Value.pointer (some ⟨b2,0,none⟩),by simp [upd,e9],⟨YP.out,YQ.out⟩,⟨fun h=>absurd h (by decide),fun _=>rfl⟩,fun k u _ hu=>hu⟩
   case finK =>
    rintro o ho listed fq w' ⟨hR',U2⟩ hall;have YP:=az hR';have YQ:Hid (Only R w w'):=HO9.out.trans U2;obtain ⟨z,ez⟩:=(hall 8 (by omega)).1 rfl;replace ez:fq 8=_:=ez;have e10:fq 10=.pointer (some ⟨b2,0,none⟩):=(hall 10 (by omega)).2 (by omega);replace hk0:=(U2.cell l2.2 (by omega)).trans hk0;replace hk1:=(U2.frozen (o:=0) l2.2 (by omega)).trans hk1;have hM':iL w' w.heap.size (.slice (some ⟨b,0,none⟩) (ts.length + 1) cp) (t::ts):=Zv.out.heap mH U2.size fun g hg=>U2.block g (Zv.out.lt mH hg).2 (fun e=>by injection e with e; have:=(Zv.out.lt mH hg).1; omega);have U6:Hid (SA R ad len cap w (.returned (.slice (some ⟨b,0,none⟩) (ts.length + 1) cp)) (w'.setCell ⟨b2,0,none⟩ (.int .i64 z))):=⟨_,_,rfl,iL.kind z hM' HQ.out HYY.out HQAD.out,Mt z HG.out HQ.out HYY.out,YP.out.setFar (by omega) (FAR.out b2 l2.1),YQ.out.setNew l2.1⟩;cases ho;clear hall hR' U2 hM';refine aa rfl fun K HK=>?_;simp only [ez,e10];go_simp;refine HK.out _ _ ?_;clear HK;go_wp2;go_ret;exact U6.out
  have h38b:((x:Int) == 38)=false:=by simp; omega
  go_wp2;go_ret;exact ⟨_,_,rfl,Zv.out,HG.out,HR9.out,HO9.out⟩
end Go.Proofs.YtajkkeikihhejaaGreat
