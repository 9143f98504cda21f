/- Contract of the document's reader of a schema's lines: spec.l3Schema. -/
import Derived.Test.YteoflgocljfgeaaGreatDoorJ16
open Go.Proofs.Tryz
set_option maxHeartbeats 80000000
namespace Go.Proofs.YteoflgocljfgeaaGreatDoor
set_option maxRecDepth 100000
open Go.ChangeShapes Go.WideShapes Go.ChangeAt Go.RowKit Go.Maps
open Pl
theorem dx {p:Prop} (h:p):Hid p:=h
def strOf:Value→Nat | .string b=>b.size | _=>0
def Mm (s:ByteArray) (w:World) (e:Ending) (w':World):Prop :=
 Below w.heap.size w w'∧((dw (s.size + 1) s []=none∧e=.returned (.tuple #[.slice none 0 0,.bool false])) ∨ ∃ (v:Value) (rs:List TR),dw (s.size + 1) s []=some (ah rs)∧e=.returned (.tuple #[v,.bool true])∧fM w' w.heap.size v rs∧bN (ah rs)=s∧LF (ah rs))
theorem Gi {n:Nat} {rest:ByteArray} {acc:List Ty} (hn:rest.size < n) (h:rest.toList.isEmpty=true):dw n rest acc=some acc:=by
 cases n with
 | zero=>omega
 | succ n=>simp [dw,h]
theorem Gj {n:Nat} {rest:ByteArray} {acc:List Ty} (hn:rest.size < n) (h:rest.toList.isEmpty=false) (hc:mD 10 rest=false):dw n rest acc=none:=by
 cases n with
 | zero=>omega
 | succ n=>simp [dw,h,hc]
theorem Gl {n:Nat} {rest:ByteArray} {acc:List Ty} (hn:rest.size < n) (h:rest.toList.isEmpty=false) (hc:mD 10 rest=true) (hl:kJ acc (jq 10 rest)=none):dw n rest acc=none:=by
 cases n with
 | zero=>omega
 | succ n=>simp [dw,h,hc,hl]
theorem Jc {n:Nat} {rest:ByteArray} {acc a:List Ty} (hn:rest.size < n) (h:rest.toList.isEmpty=false) (hc:mD 10 rest=true) (hl:kJ acc (jq 10 rest)=some a):dw n rest acc=dw (n - 1) (fV 10 rest) a∧(fV 10 rest).size < n - 1:=by
 have:=BR hc;cases n with
 | zero=>omega
 | succ n=>exact ⟨by simp [dw,h,hc,hl],by simp; omega⟩
theorem Jd {b:ByteArray} (h:b.toList.isEmpty=true):b=⟨#[]⟩:=by
 have h2:b.toList=[]:=by simpa using h
 rw [j6] at h2;exact gM (by simpa using h2)
theorem wW:I8.toList=[116,121,112,101,32]:=by rw [j6]; rfl
theorem BU:Nk.toList=[61,32]:=by rw [j6]; rfl
theorem LG (w:World) (a b:Value) (t:TypeId):∀ j u,[a,b][j]?=some u→(w.alloc (.cells #[a,b] t)).cell? ((⟨w.heap.size,0,none⟩:Addr).add j)=some u:=by
 intro j u hu;rw [show (⟨w.heap.size,0,none⟩:Addr).add j=⟨w.heap.size,0 + j,none⟩ by simp [Addr.add]; omega,Nat.zero_add];have:=World.cell?_alloc_mark w #[a,b] t (0,0) j;rw [this];simpa using hu
theorem Je (xs:List TR) (t t':TR) (hn:t'.name=t.name):((xs ++ [t]).flatMap TR.cells).set (xs.length * 2 + 1) t'.vs=(xs ++ [t']).flatMap TR.cells:=by
 have hl:(xs.flatMap TR.cells).length=xs.length * 2:=lW (fun _=>rfl) _;rw [List.flatMap_append,List.flatMap_append,List.set_append_right _ _ (by omega),hl];simp [TR.cells,hn]
theorem Nn (n:ByteArray) (ad:Option Addr) (k c:Nat):∀ u ∈ [Value.string n,.slice ad k c],u.oneCell'=true:=by
 intro u hu;simp at hu;rcases hu with rfl | rfl <;> rfl
theorem Aw (s:ByteArray) (w:World) (hs:s.size≤3000):Calls prog 101 #[.string s] w (Mm s w):=by
 obtain ⟨iT0,hiT,zT0,zT1,zT2⟩:=info_parts (P:=prog) (e:=63) (z:=.agg #[.string ⟨#[]⟩,.slice none 0 0]) (size:=2) (bytes:=40) (by kernel_rfl);have HIT:Hid (prog.info? 63=some iT0∧iT0.zero=some (.agg #[.string ⟨#[]⟩,.slice none 0 0])∧iT0.size=2∧iT0.bytes=40):=⟨hiT,zT0,zT1,zT2⟩;obtain ⟨iR0,hiR,zR0,zR1,zR2⟩:=info_parts (P:=prog) (e:=126) (z:=.agg #[.string ⟨#[]⟩,.slice none 0 0]) (size:=2) (bytes:=40) (by kernel_rfl);have HIR:Hid (prog.info? 126=some iR0∧iR0.zero=some (.agg #[.string ⟨#[]⟩,.slice none 0 0])∧iR0.size=2∧iR0.bytes=40):=⟨hiR,zR0,zR1,zR2⟩;obtain ⟨W0,hW0⟩:∃ W0,W0=w.alloc (.cells #[] 63):=⟨_,rfl⟩;have HB0:=Be hW0;have HM0:Hid (fM W0 w.heap.size (.slice (some ⟨w.heap.size,0,none⟩) 0 0) []):=by
  show LotM _ _ _ _ _ _ _ _ _;rw [hW0];exact ⟨World.ownsRow_lit w #[] 0 (Nat.le_refl _) (by unfold maxLen; omega) (by simp),fun q hq=>(by cases hq),fun q hq=>(by cases hq),fun x y hx=>absurd hx (by simp)⟩
 have hs5:(s.size:Int)≤50000:=by omega
 clear hiT zT0 zT1 zT2 hiR zR0 zR1 zR2;go_enter func101,ntmps101;go_wp2;rw [← hW0]; clear hW0;go_loopw [4,5] (fun v r wr=>∃ (rs:List TR) (rest:ByteArray) (n:Nat),r=.string rest∧rest.size≤3000∧Hid (fM wr w.heap.size v rs)∧Hid (Below w.heap.size w wr)∧Hid (bN (ah rs) ++ rest=s)∧Hid (LF (ah rs))∧Hid (rest.size < n∧dw n rest (ah rs)=dw (s.size + 1) s [])) (fun _ r _=>strOf r);case atStart=>exact ⟨[],s,s.size + 1,rfl,hs,HM0,HB0,by show _=_; exact oO _,fun t ht=>(by cases ht),by omega,rfl⟩
 case round =>
  clear HM0 HB0;obtain ⟨rs,rest,n,rfl,hrs,HM,HB,HT,HK,HN⟩:=hrel;cases he:rest.toList.isEmpty with
  | true =>
   have HTX:Hid (bN (ah rs)=s):=by show _=_; rw [← HT.out,Jd he,rD]
   have HLE:=dx (Gi (acc:=ah rs) HN.out.1 he);obtain ⟨ad,cap,rfl,hsl,-⟩:=HM.out.read;obtain ⟨k1,k2,k3,k4⟩:=rows_ok HK.out (by rw [HTX.out]; exact hs);have HPR:=dx (Av ad cap rs wr ⟨k1,fun r hr=>(k2 r hr).1,fun r hr=>(k2 r hr).2.1,fun r hr=>(k2 r hr).2.2⟩ hsl k3 k4);clear hsl k1 k2 k3 k4;go_wp2_with fail;refine HPR.out.mono ?_;rintro e w1 ⟨hee,hb1⟩;rw [HTX.out] at hee;subst hee;have HB1:=dx (HB.out.trans (hb1.mono HB.out.size));have HM1:=dx (HM.out.below kN hb1);clear hb1 HPR;go_wp2;exact bodyPost_ret (v:=.tuple #[.slice ad rs.length cap,.bool true]) (by simp [results,Tryz.results101,go_sem]) rfl ⟨HB1.out,.inr ⟨_,rs,by rw [← HN.out.2,HLE.out],rfl,HM1.out,HTX.out,HK.out⟩⟩
  | false =>
   have HE:=dx he;have h500:rs.length≤500:=(rows_ok HK.out (by have:=congrArg ByteArray.size HT.out; rw [ByteArray.size_append] at this; omega)).1;have HC:=dx (zm rest 10 wr (by unfold maxLen; omega));go_wp2_with fail;refine HC.out.mono ?_;rintro e w1 ⟨rfl,n0,hw1⟩;have hb1:Below wr.heap.size wr w1:=by rw [hw1]; exact below_drewN (Below.refl _ _) n0
   have HB1:=dx (HB.out.trans (hb1.mono HB.out.size));have HM1:=dx (HM.out.below kN hb1);have hzz:=E8 10 rest;have hza:=KS 10 rest;clear hw1 hb1 HC HM HB;cases hc:mD 10 rest with
   | false =>
    have HNO:=dx (Gj (acc:=ah rs) HN.out.1 HE.out hc);go_wp2;exact bodyPost_ret (v:=.tuple #[.slice none 0 0,.bool false]) (by simp [results,Tryz.results101,go_sem]) rfl ⟨HB1.out,.inl ⟨by rw [← HN.out.2,HNO.out],rfl⟩⟩
   | true =>
    have HCF:=dx hc;have HJ:=dx (wT hc);have hless:=BR hc;obtain ⟨line,hline⟩:∃ line,line=jq 10 rest:=⟨_,rfl⟩;obtain ⟨more,hmore⟩:∃ more,more=fV 10 rest:=⟨_,rfl⟩;rw [← hline,← hmore] at HJ;rw [← hmore] at hzz hless;rw [← hline] at hza;rw [← hline,← hmore];have HLI:=dx hline;have HMO:=dx hmore;clear hline hmore hc;have HON:Hid (∀ a,kJ (ah rs) line=some a→dw (n - 1) more a=dw (s.size + 1) s []∧more.size < n - 1∧bN a ++ more=s∧LF a):=fun a ha=>by
     have h1:=Jc (acc:=ah rs) HN.out.1 HE.out HCF.out (by rw [← HLI.out]; exact ha);rw [← HMO.out] at h1;refine ⟨by rw [← h1.1,HN.out.2],h1.2,?_,KT ha HK.out⟩;rw [Gh ha,ByteArray.append_assoc];have h2:=HT.out;rw [HJ.out] at h2;exact h2
    have HOFF:Hid (kJ (ah rs) line=none→dw (s.size + 1) s []=none):=fun ha=>by
     have h1:=Gl (acc:=ah rs) HN.out.1 HE.out HCF.out (by rw [← HLI.out]; exact ha);rw [← HN.out.2,h1]
    cases ht:wS line with
    | true =>
     have hl5:5 < line.size:=by unfold wS at ht; simp only [Bool.and_eq_true,decide_eq_true_eq] at ht; exact ht.1
     have hty:((line.extract 0 5).toList == [116,121,112,101,32])=true:=by unfold wS at ht; simp only [Bool.and_eq_true] at ht; rw [← wW]; exact ht.2
     have hd5:decide ((5:Int) < (line.size:Int))=true:=by simp; omega
     have HLP:Hid (kJ (ah rs) line=some (ah (rs ++ [⟨line.extract 5 line.size,[],none,0⟩]))):=by show _=_; unfold kJ; rw [ht]; simp [ah,TR.p,dO]
     clear ht;obtain ⟨nm,hnm⟩:∃ nm,nm=line.extract 5 line.size:=⟨_,rfl⟩;obtain ⟨W2,hW2⟩:∃ W2,W2=w1.alloc (.cells #[.string nm,.slice none 0 0] 63):=⟨_,rfl⟩;have hb2:Below w1.heap.size w1 W2:=by rw [hW2]; exact (Below.refl _ _).alloc (Nat.le_refl _) _
     have HM2:=dx (HM1.out.below kN hb2);have HB2:=dx (HB1.out.trans (hb2.mono HB1.out.size));have HNW:Hid (∀ j u,[Value.string nm,.slice none 0 0][j]?=some u→W2.cell? ((⟨w1.heap.size,0,none⟩:Addr).add j)=some u):=by show ∀ j u,_; rw [hW2]; exact LG w1 _ _ _
     rw [← hnm] at HLP;rw [hnm] at hW2;clear hb2 hnm;go_wp2_with (at_builtin; rw [← hW2]; clear hW2; refine wpList_append_own_at _ rfl _ _ 36 rfl w.heap.size 63 iT0 (.agg #[.string ⟨#[]⟩,.slice none 0 0]) 2 40 underlying36 HIT.out.1 HIT.out.2.1 HIT.out.2.2.1 HIT.out.2.2.2 rfl (by decide) u4 _ (rs.flatMap TR.cells) rfl HM2.out.own ⟨w1.heap.size,0,none⟩ 1 1 [.string nm,.slice none 0 0] rfl rfl HNW.out (Nn _ _ _ _) (by unfold maxLen; omega) (by omega) HB2.out.size ?_);intro v3 w3 hown3 hgr3 _ hat3;have HM3:Hid (fM w3 w.heap.size v3 (rs ++ [⟨nm,[],none,0⟩])):=HM2.out.snoc kN (q:=⟨nm,[],none,0⟩) hown3 hgr3 (by
       rcases hat3 with e | e
       ·exact .inl e
       ·exact .inr ⟨_,e,Nat.le_refl _⟩) (H8 W2 w.heap.size) (fun g hg=>by
       rcases hg with hg | ⟨q,hq,-⟩
       ·simp [TR.vs,Value.ownBlock] at hg
       ·cases hq) (fun p hp g hg hg2=>by
       rcases hg2 with hg2 | ⟨q,hq,-⟩
       ·simp [TR.vs,Value.ownBlock] at hg2
       ·cases hq)
     have HB3:Hid (Below w.heap.size w w3):=HB2.out.grown hgr3 HB2.out.size (fun g hg=>(HM2.out.own.lt g hg).1);obtain ⟨o1,o2,o3,o4⟩:=HON.out _ HLP.out;have HO:=dx (And.intro o2 o1);have HO3:=dx o3;have HO4:=dx o4;clear hown3 hgr3 hat3 o1 o2 o3 o4 HM2 HB2 HNW hty hd5;go_wp2;go_roundw;case rel=>exact ⟨_,more,n - 1,rfl,by omega,HM3,HB3,HO3,HO4,HO⟩
     case measure=>simp only [strOf]; exact hless
    | false =>
     have HTY:=dx ht;have h58:(5 < line.size∧decide ((5:Int) < (line.size:Int))=true∧((line.extract 0 5).toList == [116,121,112,101,32])=false) ∨ decide ((5:Int) < (line.size:Int))=false:=by
      by_cases h5:5 < line.size
      ·left;refine ⟨h5,by simp; omega,?_⟩;unfold wS at ht;rw [decide_eq_true h5,Bool.true_and,wW] at ht;exact ht
      ·right; simp; omega
     have HC2:=dx (zm line 32 w1 (by unfold maxLen; omega));obtain ⟨ad4,cap4,hv4,hsl4,-⟩:=fM.read HM1.out;subst hv4;clear ht hsl4;rcases h58 with ⟨hl5,hd5,hty⟩ | hd5
     all_goals (
      go_wp2_with fail;refine HC2.out.mono ?_;rintro e w2 ⟨rfl,n1,hw2⟩;have hb2:Below w1.heap.size w1 w2:=by rw [hw2]; exact below_drewN (Below.refl _ _) n1
      have HB2:=dx (HB1.out.trans (hb2.mono HB1.out.size));have HM2:=dx (HM1.out.below kN hb2);have hzt:=E8 32 line;obtain ⟨nm,hnm⟩:∃ nm,nm=jq 32 line:=⟨_,rfl⟩;obtain ⟨tl,htl⟩:∃ tl,tl=fV 32 line:=⟨_,rfl⟩;rw [← htl] at hzt;rw [← hnm,← htl];have HLP:Hid (kJ (ah rs) line=if !(ah rs).isEmpty && uz tl && jY (tl.extract 2 tl.size) then some (Au (ah rs) ⟨nm,(jm (tl.extract 2 tl.size)).out⟩) else none):=by show _=_; unfold kJ zl; rw [HTY.out,hnm,htl]; rfl
      clear hw2 hb2 HC2 HM1 HB1 hnm htl;by_cases hz:rs=[]
      ·subst hz;have HNO:Hid (dw (s.size + 1) s []=none):=HOFF.out (by rw [HLP.out]; rfl);go_wp2;exact bodyPost_ret (v:=.tuple #[.slice none 0 0,.bool false]) (by simp [results,Tryz.results101,go_sem]) rfl ⟨HB2.out,.inl ⟨HNO.out,rfl⟩⟩
      ·obtain ⟨xs,t,hxt⟩:∃ xs t,rs=xs ++ [t]:=⟨rs.dropLast,rs.getLast hz,(List.dropLast_concat_getLast hz).symm⟩;have HXT:=dx hxt;have hlx:rs.length=xs.length + 1:=by rw [hxt]; simp
       have HNE:Hid ((!(ah rs).isEmpty)=true):=by show _=_; rw [hxt]; simp [ah]
       obtain ⟨b4,had4⟩:∃ b4,ad4=some ⟨b4,0,none⟩:=by
        rcases HM2.out.own.2 with ⟨-,h0⟩ | ⟨g,cap,cur,e,-⟩
        ·exact absurd (List.length_eq_zero_iff.1 h0) hz
        ·injection e with e1 e2 e3; exact ⟨g,e1⟩
       subst had4;have hcell:=HM2.out.own.cellAt (xs.length * 2 + 1) (by omega);rw [oM (fun _=>rfl) rs xs.length (by omega) 1 (by omega)] at hcell;have htx:rs[xs.length]'(by omega)=t:=by subst hxt; simp
       rw [htx] at hcell;have hcl:w2.cell? ⟨b4,xs.length * 2 + 1,none⟩=some (.slice t.ad t.rows.length t.cap):=hcell;have HCL:=dx hcl;have hn0:(0:Int)≤(xs.length:Int):=by omega
       have hn1:(xs.length:Int) < (xs.length:Int) + 1:=by omega
       have HLX:=dx hlx;have hx500:xs.length < 500:=by omega
       have h500':=h500;rw [hlx];clear hz hxt hlx hcell htx hcl h500;by_cases h2:tl.size < 2
       ·have hd2:decide ((tl.size:Int) < 2)=true:=by simp; omega
        have HNO:Hid (dw (s.size + 1) s []=none):=HOFF.out (by rw [HLP.out]; simp [uz]; omega);go_wp2;exact bodyPost_ret (v:=.tuple #[.slice none 0 0,.bool false]) (by simp [results,Tryz.results101,go_sem]) rfl ⟨HB2.out,.inl ⟨HNO.out,rfl⟩⟩
       ·have hd2:decide ((tl.size:Int) < 2)=false:=by simp; omega
        have h22:2≤tl.size:=by omega
        cases hq:(tl.extract 0 2).toList == [61,32] with
        | false =>
         have hq2:(!(tl.extract 0 2).toList == [61,32])=true:=by rw [hq]; rfl
         have HNO:Hid (dw (s.size + 1) s []=none):=HOFF.out (by rw [HLP.out]; unfold uz; rw [BU,hq]; simp);go_wp2;exact bodyPost_ret (v:=.tuple #[.slice none 0 0,.bool false]) (by simp [results,Tryz.results101,go_sem]) rfl ⟨HB2.out,.inl ⟨HNO.out,rfl⟩⟩
        | true =>
         have hq2:(!(tl.extract 0 2).toList == [61,32])=false:=by rw [hq]; rfl
         have HTB:Hid (uz tl=true):=by show _=_; unfold uz; rw [BU,hq,decide_eq_true h22]; rfl
         have HRE:=dx (sI (tl.extract 2 tl.size) w2);go_wp2_with fail;refine HRE.out.mono ?_;rintro e w3 ⟨hb3,hcase⟩;have HB3:=dx (HB2.out.trans (hb3.mono HB2.out.size));have HM3:=dx (HM2.out.below kN hb3);have h23:w2.heap.size≤w3.heap.size:=hb3.size;have HLT2:Hid (∀ g,Bp iT (.slice (some ⟨b4,0,none⟩) rs.length cap4) rs g→g < w2.heap.size):=fun g hg=>(HM2.out.lt kN hg).2;have hc3:w3.cell? ⟨b4,xs.length * 2 + 1,none⟩=some (.slice t.ad t.rows.length t.cap):=(hb3.cell (p:=⟨b4,xs.length * 2 + 1,none⟩) (HM2.out.own.lt b4 rfl).2).trans HCL.out;rcases hcase with ⟨hrb,rfl⟩ | ⟨hrb,v,R,qs,rfl,hF⟩
         ·have HNO:Hid (dw (s.size + 1) s []=none):=HOFF.out (by rw [HLP.out,hrb]; simp);clear hb3 hc3 HM2 HB2 HRE;go_wp2;exact bodyPost_ret (v:=.tuple #[.slice none 0 0,.bool false]) (by simp [results,Tryz.results101,go_sem]) rfl ⟨HB3.out,.inl ⟨HNO.out,rfl⟩⟩
         ·obtain ⟨adE,capE,hvE⟩:∃ adE capE,v=.slice adE qs.length capE:=by
           obtain ⟨a1,a2,a3,-⟩:=hF.slE;exact ⟨a1,a2,a3⟩
          subst hvE;have HNOD:=dx (hF.nod);have HEX:=dx hF.out;have HRB:=dx hrb;obtain ⟨W5,hW5⟩:∃ W5,W5=w3.alloc (.cells #[.string nm,.slice adE qs.length capE] 126):=⟨_,rfl⟩;have hb5:Below w3.heap.size w3 W5:=by rw [hW5]; exact (Below.refl _ _).alloc (Nat.le_refl _) _
          have HM5:=dx (HM3.out.below kN hb5);have HB5:=dx (HB3.out.trans (hb5.mono HB3.out.size));have HNW:Hid (∀ j u,[Value.string nm,.slice adE qs.length capE][j]?=some u→W5.cell? ((⟨w3.heap.size,0,none⟩:Addr).add j)=some u):=by show ∀ j u,_; rw [hW5]; exact LG w3 _ _ _
          obtain ⟨q,hqd⟩:∃ q:RR,q=⟨nm,qs,adE,capE⟩:=⟨_,rfl⟩;have HQD:=dx hqd;have hkq3:kR w3 (w2.heap.size + 1) q:=by rw [hqd]; exact HNOD.out
          have hIq:∀ g,iR q g→w2.heap.size + 1≤g:=fun g hg=>(Dc.lt w3 _ q hkq3 g hg).1;have hkq5:kR W5 w.heap.size q:=Dc.heap w3 W5 w.heap.size q (hkq3.mono (by have:=HB2.out.size; omega)) hb5.size (fun g hg=>hb5.block g (Dc.lt w3 _ q hkq3 g hg).2);have HIQ:=dx hIq;have W5_ge:Hid (w2.heap.size≤W5.heap.size):=Nat.le_trans h23 hb5.size;have HKQ:=dx hkq5;have HKT:Hid (kT W5 w.heap.size t):=HM5.out.kid t (by rw [HXT.out]; simp);have HTLT:Hid (∀ g,iT t g→g < w2.heap.size):=fun g hg=>HLT2.out g (.inr ⟨t,by rw [HXT.out]; simp,hg⟩);have ht750:t.rows.length≤750:=((rows_ok HK.out (by have:=congrArg ByteArray.size HT.out; rw [ByteArray.size_append] at this; omega)).2.1 t (by rw [HXT.out]; simp)).1;have hc5:W5.cell? ⟨b4,xs.length * 2 + 1,none⟩=some (.slice t.ad t.rows.length t.cap):=(hb5.cell (p:=⟨b4,xs.length * 2 + 1,none⟩) (Nat.lt_of_lt_of_le (HM2.out.own.lt b4 rfl).2 h23)).trans hc3;have HC5:=dx hc5;have hfz:W5.frozen? ⟨b4,xs.length * 2 + 1,none⟩=false:=HM5.out.own.frozenAt _;have HFZ:=dx hfz;clear hb3 hF hrb hkq3 hkq5 hIq hqd hc5 hb5 HM2 HB2 HRE HM3 HB3 HNOD hfz;go_wp2_with (at_builtin; rw [← hW5]; clear hW5; refine wpList_append_own_at _ rfl _ _ 61 rfl w.heap.size 126 iR0 (.agg #[.string ⟨#[]⟩,.slice none 0 0]) 2 40 underlying61 HIR.out.1 HIR.out.2.1 HIR.out.2.2.1 HIR.out.2.2.2 rfl (by decide) (.slice t.ad t.rows.length t.cap) _ (t.rows.flatMap RR.cells) rfl HKT.out.own ⟨w3.heap.size,0,none⟩ 1 1 [.string nm,.slice adE qs.length capE] rfl rfl HNW.out (Nn _ _ _ _) (by unfold maxLen; omega) (by omega) HB5.out.size ?_);intro v6 w6 hown6 hgr6 _ hat6;obtain ⟨g6,c6,hv6⟩:=dW hown6;subst hv6;have hqv:q.vs=.slice adE qs.length capE:=by rw [HQD.out]; rfl
          have hneb:some b4 ≠ (Value.slice t.ad t.rows.length t.cap).ownBlock:=fun e=>HM5.out.head t (by rw [HXT.out]; simp) b4 (.inl e.symm) rfl;have hc6:w6.cell? ⟨b4,xs.length * 2 + 1,none⟩=some (.slice t.ad t.rows.length t.cap):=hgr6.cell HC5.out hneb;have hf6:w6.frozen? ⟨b4,xs.length * 2 + 1,none⟩=false:=(World.frozen?_of_block (w:=W5) (a:=⟨b4,xs.length * 2 + 1,none⟩) (hgr6.block b4 (HM5.out.own.lt b4 rfl).2 hneb)).trans HFZ.out;obtain ⟨t',ht'⟩:∃ t':TR,t'=⟨t.name,t.rows ++ [q],some ⟨g6,0,none⟩,c6⟩:=⟨_,rfl⟩;have hvt':t'.vs=.slice (some ⟨g6,0,none⟩) (t.rows.length + 1) c6:=by rw [ht']; simp [TR.vs]
          have hkt':kT w6 w.heap.size t':=by
           have h1:yu w6 w.heap.size (.slice (some ⟨g6,0,none⟩) (t.rows.length + 1) c6) (t.rows ++ [q]):=HKT.out.snoc Dc (q:=q) (by
             rw [show RR.cells q=[.string nm,.slice adE qs.length capE] by unfold RR.cells; rw [hqv,HQD.out]]; exact hown6) hgr6 (by
             rcases hat6 with e | e
             ·exact .inl e
             ·exact .inr ⟨_,e,Nat.le_refl _⟩) HKQ.out (fun g hg e=>by
             have h2:=HTLT.out g (.inl e);have h3:=HIQ.out g hg;omega) (fun p hp g hg hg2=>by
             have h2:=HTLT.out g (.inr ⟨p,hp,hg⟩);have h3:=HIQ.out g hg2;omega)
           unfold kT;rw [hvt',ht'];exact h1
          have hI':∀ g,iT t' g→iT t g ∨ (g ≠ b4∧∀ p ∈ xs,¬ iT p g):=fun g hg=>by
           have hfar:w2.heap.size≤g→g ≠ b4∧∀ p ∈ xs,¬ iT p g:=fun hge=>⟨fun e=>by
             have:=HLT2.out b4 (.inl rfl);omega,fun p hp hi=>by
             have:=HLT2.out g (.inr ⟨p,by rw [HXT.out]; simp [hp],hi⟩);omega⟩
           rcases hg with hg | ⟨p,hp,hg⟩
           ·rw [hvt'] at hg;rcases hat6 with e | e
            ·exact .inl (.inl (e.symm.trans hg))
            ·rw [e] at hg; injection hg with hg;exact .inr (hfar (by have:=W5_ge.out; omega))
           ·rw [ht'] at hp;rcases List.mem_append.1 hp with hp | hp
            ·exact .inl (.inr ⟨p,hp,hg⟩)
            ·rw [List.mem_singleton] at hp; subst hp;exact .inr (hfar (by have:=HIQ.out g hg; omega))
          have HM7:Hid (fM (w6.setCell ⟨b4,xs.length * 2 + 1,none⟩ (.slice (some ⟨g6,0,none⟩) (t.rows.length + 1) c6)) w.heap.size (.slice (some ⟨b4,0,none⟩) (xs.length + 1) cap4) (xs ++ [t'])):=by
           have hM:=HM5.out;rw [HLX.out,HXT.out] at hM;refine LotM.last kN hM rfl hgr6 (fun r hr=>.inl hr) hkt' hI' ?_;rw [← hvt',show t'.vs=t'.vs from rfl];exact Je xs t t' (by rw [ht'])
          have HB7:Hid (Below w.heap.size w (w6.setCell ⟨b4,xs.length * 2 + 1,none⟩ (.slice (some ⟨g6,0,none⟩) (t.rows.length + 1) c6))):=(HB5.out.grown hgr6 HB5.out.size (fun g hg=>(HKT.out.own.lt g hg).1)).setCell (HM5.out.own.lt b4 rfl).1 _;have HTY7:Hid (kJ (ah rs) line=some (ah (xs ++ [t']))):=by
           show _=_;rw [HLP.out,HNE.out,HTB.out,HRB.out,HXT.out,ht'];simp only [Bool.and_true,if_true];rw [show ah (xs ++ [t])=ah xs ++ [t.p] by simp [ah],og];simp [ah,TR.p,dO,RR.p,HQD.out,HEX.out]
          obtain ⟨o1,o2,o3,o4⟩:=HON.out _ HTY7.out;have HO:=dx (And.intro o2 o1);have HO3:=dx o3;have HO4:=dx o4;clear hown6 hgr6 hat6 o1 o2 o3 o4 hkt' hI' hvt' ht' hqv hneb HM5 HB5 HKT HKQ;go_wp2;go_roundw;case rel=>exact ⟨_,more,n - 1,rfl,by omega,HM7,HB7,HO3,HO4,HO⟩
          case measure=>simp only [strOf]; exact hless)
end Go.Proofs.YteoflgocljfgeaaGreatDoor
