/- Both sides' look whether facts are a proof. -/
import Derived.Test.YtdaoiceeidoehaaGreatJ31
import Derived.OpenShut
import Derived.ShutString
import Derived.ChangeOld
import Derived.Lib.SmallJoins
import Derived.Deep.Strs
import Derived.Deep.Slices
open Go.Proofs.Tryz
set_option maxHeartbeats 80000000
namespace Go.Proofs.YtdaoiceeidoehaaGreat
set_option maxRecDepth 100000
set_option linter.unusedVariables false
set_option linter.unusedSectionVars false
open Go.ChangeShapes Go.WideShapes Go.ChangeAt Go.RowKit Go.Maps
open Pl
section
variable [DecidableEq Fc]
def jo (st:ByteArray × ByteArray→Int) (rs:List TR) (ts:List Tp) (L:List Fc):Bool:=((aU (gH rs) rs ts && decide (1≤L.length)) && decide (L.length≤200)) && lh rs ts (dS st rs ts) L L.length
theorem sN (st:ByteArray × ByteArray→Int) (ad:Option Addr) (cap:Nat) (rs:List TR) (ad':Option Addr) (cap':Nat) (ts:List Tp) (adL:Option Addr) (capL:Nat) (L:List Fc) (w:World) (hlen:rs.length≤1048576) (hs:eY w ad rs) (hl:∀ r ∈ rs,r.light) (hfr:∀ r ∈ rs,r.fits) (hlt:ts.length≤1048576) (hst:Sl w ad' ts) (hft:∀ x ∈ ts,x.fits) (hLl:L.length≤1048576) (hcL:L.length≤capL) (hL:jq w adL L) (hLf:∀ x ∈ L,x.fits) (hle:bR (ae rs)=true→Least (ae rs) st) :
  Calls prog 19 #[.slice ad rs.length cap,.slice ad' ts.length cap',.slice adL L.length capL] w fun e w'=>e=.returned (.bool (jo st rs ts L))∧Below w.heap.size w w':=by
 have hQl:=Ee st (rs:=rs) (ts:=ts);have HRC:=ag (BQ ad cap rs ad' cap' ts w hlen hs hl hfr hlt hst hft)
 have HAC:Hid (aU (gH rs) rs ts=true→(∀ W':World,Below w.heap.size w W'→Calls prog 33 #[.slice ad rs.length cap,.slice ad' ts.length cap'] W' fun e w'=>(∃ v,e=.returned v∧w'.ownsRow W'.heap.size 42 5 v (dS st rs ts).length (bI (dS st rs ts)))∧Below W'.heap.size W' w') ∧
   (∀ (W':World) (adR:Option Addr) (capR:Nat),Below w.heap.size w W'→jq W' adR (dS st rs ts)→Calls prog 45 #[.slice ad rs.length cap,.slice ad' ts.length cap',.slice adR (dS st rs ts).length capR,.slice adL L.length capL] W' fun e w'=>e=.returned (.bool (lh rs ts (dS st rs ts) L L.length))∧Below W'.heap.size W' w')):=fun hr=>by
  have hsd:bR (ae rs)=true∧ts.length≤40:=by
   unfold aU dX at hr;simp only [Bool.and_eq_true,decide_eq_true_eq] at hr;exact ⟨hr.1.1,hr.1.2.1⟩
  refine ⟨fun W' hb=>?_,fun W' adR capR hb hsR=>?_⟩
  ·have:=Gu st ad cap rs ad' cap' ts W' (bu.1 hsd.1) (hle hsd.1) (hs.below hb) hl hsd.2 (hst.below hb);rw [← oJ hr] at this;exact this
  ·exact Ju ad cap rs ad' cap' ts adR capR (dS st rs ts) adL capL L W' hlen (hs.below hb) hl (bu.1 hsd.1).1 hlt (hst.below hb) hLl hcL (hL.below hb) hLf (by omega) hsR
 clear hs hl hfr hst hft hle hL hLf;go_enter func19,ntmps19;go_wp2_with fail;refine HRC.out.mono ?_;rintro e w1 ⟨rfl,hb1⟩;have HB1:=ag hb1;clear hb1 HRC;cases hr:aU (gH rs) rs ts with
 | false =>
  have HN:Hid (jo st rs ts L=false):=by show _=_; unfold jo; rw [hr]; rfl
  clear HAC hr;go_wp2;go_ret;exact ⟨by rw [HN.out]; rfl,HB1.out⟩
 | true =>
  have HA:=ag (HAC.out hr).1;have H5:=ag (HAC.out hr).2;have HRI:=ag hr;clear HAC hr;by_cases h1:1≤L.length
  ·have hd1:(1:Int)≤(L.length:Int):=by omega
   by_cases h2:L.length≤200
   ·have hd2:(L.length:Int)≤200:=by omega
    have HE:Hid (jo st rs ts L=lh rs ts (dS st rs ts) L L.length):=by show _=_; unfold jo; rw [HRI.out,decide_eq_true h1,decide_eq_true h2]; rfl
    obtain ⟨Q,hQ⟩:∃ Q,Q=dS st rs ts:=⟨_,rfl⟩;rw [← hQ] at HA H5 hQl HE;clear hQ h1 h2;go_wp2_with fail;refine (HA.out _ HB1.out).mono ?_;rintro e w2 ⟨⟨v,rfl,hown⟩,hb2⟩;obtain ⟨adR,capR,rfl,hsR⟩:=jG hown;have HSR:=ag hsR;have HB2:=ag (HB1.out.trans (hb2.mono HB1.out.size));clear hown hsR hb2;go_wp2_with fail;refine (H5.out _ _ _ HB2.out HSR.out).mono ?_;rintro e w3 ⟨rfl,hb3⟩;have HB3:=ag (HB2.out.trans (hb3.mono HB2.out.size));clear hb3;go_wp2;go_ret;exact ⟨by rw [HE.out]; rfl,HB3.out⟩
   ·have hd2:¬ ((L.length:Int)≤200):=by omega
    have HN:Hid (jo st rs ts L=false):=by show _=_; unfold jo; rw [decide_eq_false h2]; simp
    go_wp2;go_ret;exact ⟨by rw [HN.out]; rfl,HB1.out⟩
  ·have hd1:¬ ((1:Int)≤(L.length:Int)):=by omega
   have HN:Hid (jo st rs ts L=false):=by show _=_; unfold jo; rw [decide_eq_false h1]; simp
   go_wp2;go_ret;exact ⟨by rw [HN.out]; rfl,HB1.out⟩
theorem sO (st:ByteArray × ByteArray→Int) (ad:Option Addr) (cap:Nat) (rs:List TR) (ad':Option Addr) (cap':Nat) (ts:List Tp) (adL:Option Addr) (capL:Nat) (L:List Fc) (w:World) (hlen:rs.length≤1048576) (hs:eY w ad rs) (hl:∀ r ∈ rs,r.light) (hfr:∀ r ∈ rs,r.fits) (hcp:∀ r ∈ rs,r.caps) (hlt:ts.length≤1048576) (hst:Sl w ad' ts) (hft:∀ x ∈ ts,x.fits) (hLl:L.length≤1048576) (hL:jq w adL L) (hLf:∀ x ∈ L,x.fits) (hle:bR (ae rs)=true→Least (ae rs) st) :
  Calls prog 20 #[.slice ad rs.length cap,.slice ad' ts.length cap',.slice adL L.length capL] w fun e w'=>e=.returned (.bool (jo st rs ts L))∧Below w.heap.size w w':=by
 have HPC:=ag (zV st ad cap rs ad' cap' ts w hlen hs hl hfr hcp hlt hst hft hle);have HS:=ag hs;have HL:=ag hL;have HLF:=ag hLf;have HFT:=ag hft;have hmm:=@run_makeMap prog;clear hs hl hfr hcp hst hft hle hL hLf;go_enter func20,ntmps20;go_wp2_with fail;refine HPC.out.mono ?_;rintro e w1 ⟨hb1,⟨hr,rfl⟩ | ⟨hr,P,D,br,bp,bt,nr,np,n1,Mr,Er,Mp,vo,vu,adF,capF,bK,nK,rfl,hP,hD⟩⟩
 ·have HN:Hid (jo st rs ts L=false):=by show _=_; unfold jo; rw [hr]; rfl
  have HB1:=ag hb1;clear hb1 hr HPC;go_wp2;go_ret;exact ⟨by rw [HN.out]; rfl,HB1.out⟩
 ·have HB1:=ag hb1;have HS1:=ag (HS.out.below hb1);have HL1:=ag (HL.out.below hb1);have HP:=ag hP;have HD:=ag hD;have hsd:bR (ae rs)=true∧ts.length≤40:=by
   have hr2:=hr;unfold aU dX at hr2;simp only [Bool.and_eq_true,decide_eq_true_eq] at hr2;exact ⟨hr2.1.1,hr2.1.2.1⟩
  have HSH:=ag (bu.1 hsd.1).1;have ht40:=hsd.2;have HR1:=ag hr;clear hb1 hr HPC hP hD hsd HS HL;by_cases h1:1≤L.length
  ·have hd1:¬ ((L.length:Int) < 1):=by omega
   by_cases h2:L.length≤200
   ·have hd2:¬ ((200:Int) < (L.length:Int)):=by omega
    have HE:Hid (jo st rs ts L=lh rs ts (dS st rs ts) L L.length):=by show _=_; unfold jo; rw [HR1.out,decide_eq_true h1,decide_eq_true h2]; rfl
    obtain ⟨W0,hW0⟩:∃ W0,W0=w1.alloc (.map #[] 0):=⟨_,rfl⟩;have HB0:=nX hW0;have HV0:Hid (aB fT prog 42 W0 w1.heap.size 0 (oG (L.take 0))):=by
     have h:=iA fT prog 42 w1;show aB _ _ _ _ _ _ _;rw [hW0]; exact h
    have hz0:w1.heap.size < W0.heap.size:=by rw [hW0]; simp
    obtain ⟨Q,hQ⟩:∃ Q,Q=dS st rs ts:=⟨_,rfl⟩;rw [← hQ] at HE HP;clear h1 hQ;go_wp2_with fail;rw [← hW0];clear hW0 hmm;go_loopw [33] (fun i wr=>∃ k:Nat,k≤L.length∧i=.int .i64 k∧Hid (lh rs ts Q L k=true)∧Hid (aB fT prog 42 wr w1.heap.size k (oG (L.take k)))∧Hid (Below w1.heap.size w1 wr)∧Hid (w1.heap.size < wr.heap.size)) (fun i _=>L.length - (intOf i).toNat);case atStart=>exact ⟨0,Nat.zero_le _,rfl,rfl,HV0,HB0,hz0⟩
    case round =>
     clear HV0 HB0 hz0;obtain ⟨k,hk,rfl,HPK,HV,HB,HZ⟩:=hrel;by_cases hlk:k < L.length
     ·obtain ⟨b,off,hadr,⟨t0,t1,t2,t3,t4⟩,hbl⟩:=jq.at0 (HL1.out.below HB.out) hlk;have hi1:=aY k;have hi2:(k:Int) < (L.length:Int):=by omega
      have HT:Hid (L.take (k + 1)=L.take k ++ [L[k]]):=List.take_succ_eq_append_getElem hlk;have HSU:=ag (yA rs ts Q hlk);have HHI:Hid ((okB L[k] && mH rs ts Q (L.take k) L[k])=false→lh rs ts Q L L.length=false):=Ca rs ts Q hlk;have HXF:=ag (HLF.out _ (List.getElem_mem hlk));obtain ⟨kl,hkl⟩:=pF L[k] HXF.out;obtain ⟨x,hx⟩:∃ x,x=L[k]:=⟨_,rfl⟩;rw [← hx] at t0 t1 t2 t3 t4 HT hkl HSU HHI HXF;have HKL:=ag hkl;clear hx hkl;obtain ⟨W1,hW1⟩:∃ W1,W1=wr.alloc (.cells #[.string x.a,.string x.b,.string x.r,.string x.c,.string x.d] 42):=⟨_,rfl⟩;have HBr:=nX hW1;have HC1:Hid (W1.cell? ⟨wr.heap.size,0,none⟩=some (.string x.a)∧W1.cell? ⟨wr.heap.size,1,none⟩=some (.string x.b)∧W1.cell? ⟨wr.heap.size,2,none⟩=some (.string x.r)∧W1.cell? ⟨wr.heap.size,3,none⟩=some (.string x.c)∧W1.cell? ⟨wr.heap.size,4,none⟩=some (.string x.d)∧Below wr.heap.size wr W1):=by
       refine ⟨?_,?_,?_,?_,?_,HBr.out⟩ <;> rw [hW1] <;> simp
      have HF1:=ag (Ei x W1 HXF.out);subst hadr;go_wp2_with fail;rw [← hW1];clear hW1 t0 t1 t2 t3 t4;refine HF1.out.mono ?_;rintro e w2 ⟨rfl,hb2⟩;have HC2:=ag (vX HC1.out hb2);clear hb2 HF1 HC1 HBr;have HB2:=ag (HB.out.trans (HC2.out.2.2.2.2.2.mono HB.out.size));cases hq:okB x with
      | false =>
       rw [hq] at HHI;have HN:=ag (HHI.out rfl);have HBE:Hid (Below w.heap.size w w2):=HB1.out.trans (HB2.out.mono HB1.out.size);go_wp2;go_ret;exact ⟨by rw [HE.out,HN.out]; rfl,HBE.out⟩
      | true =>
       rw [hq] at HHI HSU;have HRU:=ag (Ej (f:=x) (HP.out.below HB2.out) (HD.out.below HB2.out) HXF.out HFT.out (by omega) HSH.out (HS1.out.below HB2.out));obtain ⟨c0,c1,c2,c3,c4,-⟩:=HC2.out;clear hq;go_wp2_with fail;refine HRU.out.mono ?_;rintro e w3 ⟨⟨v,n,rfl,hru⟩,hb3⟩;have HC3:=ag (vX HC2.out hb3);have HB3:=ag (HB2.out.trans (hb3.mono HB2.out.size));have hV3:=HV.out.below HC3.out.2.2.2.2.2;obtain ⟨T,a,rfl,hkd⟩:=hru.kind;have hm:=wh hkd;have HRUN:=ag (zU hkd);have HFC:=ag (Jw hru (KC hV3));have HV3:=ag hV3;clear hru hb3 hkd hV3 HRU c0 c1 c2 c3 c4 HC2;go_wp2_with fail;rw [HRUN.out,Oper.upon_enter];refine HFC.out.mono ?_;rintro e w4 ⟨rfl,hb4⟩;rw [GH];have HC4:=ag (vX HC3.out hb4);have HB4:=ag (HB3.out.trans (hb4.mono HB3.out.size));have HV4:=ag (HV3.out.below hb4);obtain ⟨v,hv⟩:∃ v,mH rs ts Q (L.take k) x=v:=⟨_,rfl⟩;rw [hv] at HSU HHI ⊢;clear hb4 hm HRUN HFC HV3 HC3 hv;cases v with
       | false =>
        have HN:=ag (HHI.out rfl);have HBE:Hid (Below w.heap.size w w4):=HB1.out.trans (HB4.out.mono HB1.out.size);go_wp2;go_ret;exact ⟨by rw [HE.out,HN.out]; rfl,HBE.out⟩
       | true =>
        have HP2:Hid (lh rs ts Q L (k + 1)=true):=by show _=_; rw [HSU.out,HPK.out]; rfl
        obtain ⟨c0,c1,c2,c3,c4,-⟩:=HC4.out;have hz4:w1.heap.size < w4.heap.size:=Nat.lt_of_lt_of_le HZ.out HC4.out.2.2.2.2.2.size;go_wp2_with (at_mapUpdate; refine gm _ rfl _ _ _ 84 rfl 42 90 yZ uJ underlying84 w1.heap.size k _ rfl HV4.out (by unfold maxLen; omega) x kl rfl HKL.out (.agg #[]) rfl ?_);intro w5 hM5 hg5;have HV5:Hid (aB fT prog 42 w5 w1.heap.size (k + 1) (oG (L.take (k + 1)))):=by show aB _ _ _ _ _ _ _; rw [HT.out,← zK]; exact hM5
        have HB5:Hid (Below w1.heap.size w1 w5):=HB4.out.grown hg5 HB4.out.size (fun g hg=>by injection hg with hg; omega);have HZ5:Hid (w1.heap.size < w5.heap.size):=Nat.lt_of_lt_of_le hz4 hg5.size;clear hM5 hg5 c0 c1 c2 c3 c4;go_wp2;go_roundw;case rel=>exact ⟨k + 1,by omega,by go_num,HP2,HV5,HB5,HZ5⟩
        case measure=>simp [intOf] <;> omega
     ·have HEE:Hid (jo st rs ts L=true):=by
       have e:k=L.length:=by omega
       show _=_;rw [HE.out,← e]; exact HPK.out
      have HBE:Hid (Below w.heap.size w wr):=HB1.out.trans (HB.out.mono HB1.out.size);go_wp2;go_ret;exact ⟨by rw [HEE.out]; rfl,HBE.out⟩
   ·have hd2:(200:Int) < (L.length:Int):=by omega
    have HN:Hid (jo st rs ts L=false):=by show _=_; unfold jo; rw [decide_eq_false h2]; simp
    clear hmm;go_wp2;go_ret;exact ⟨by rw [HN.out]; rfl,HB1.out⟩
  ·have hd1:(L.length:Int) < 1:=by omega
   have HN:Hid (jo st rs ts L=false):=by show _=_; unfold jo; rw [decide_eq_false h1]; simp
   clear hmm;go_wp2;go_ret;exact ⟨by rw [HN.out]; rfl,HB1.out⟩
end
theorem nk (t i:ByteArray) (left:Int):bH t i left≤left ∨ bH t i left=-1:=by
 unfold bH; split
 ·exact .inr rfl
 ·split
  ·exact .inr rfl
  ·exact .inl (by omega)
def qw (a b r c d:ByteArray) (left:Int):Int :=
 if bH a b left < 0 then -1 else if bH a b left - r.size < 0 then -1
 else if bH c d (bH a b left - r.size) < 0 then -1 else bH c d (bH a b left - r.size)
theorem Jy (a b r c d:ByteArray) (left:Int):qw a b r c d left≤left ∨ qw a b r c d left=-1:=by
 unfold qw;split
 ·exact .inr rfl
 split
 ·exact .inr rfl
 split
 ·exact .inr rfl
 ·refine .inl ?_;have h1:=nk a b left;have h2:=nk c d (bH a b left - r.size);omega
theorem Em (a b r c d:ByteArray) (left:Int) (w:World) (ha:a.size≤maxLen) (hb:b.size≤maxLen) (hr:r.size≤maxLen) (hc:c.size≤maxLen) (hd:d.size≤maxLen) (h0:0≤left) (h1:left≤1048576) :
  Calls prog 9 #[.agg #[.string a,.string b,.string r,.string c,.string d],.int .i64 left] w fun e w'=>e=.returned (.int .i64 (qw a b r c d left))∧Below w.heap.size w w':=by
 have hr':=hr;unfold maxLen at hr';have e1:=nk a b left;have e2:=nk c d (bH a b left - r.size);go_enter func9,ntmps9;go_wp2_with fail;refine (jb _ _ _ _ ha hb h0 h1).mono ?_;rintro e w1 ⟨rfl,hb1⟩;obtain ⟨hc1,hf1⟩:=dH hb1;have hz1:w.heap.size < w1.heap.size:=by have:=hb1.size; simp at this; omega
 have HB1:Below w.heap.size w w1:=((Below.refl _ _).alloc (Nat.le_refl _) _).trans (hb1.mono (by simp));by_cases n1:bH a b left < 0
 ·go_wp2;go_ret;exact ⟨iG (by rw [qw,if_pos (by omega)]),HB1⟩
 by_cases n2:bH a b left - r.size < 0
 ·go_wp2;go_ret;exact ⟨iG (by rw [qw,if_neg (by omega),if_pos (by omega)]),HB1⟩
 go_wp2_with fail;refine (jb _ _ _ _ hc hd (by omega) (by omega)).mono ?_;rintro e w2 ⟨rfl,hb2⟩;obtain ⟨hc2,hf2⟩:=dH hb2;have hz2:w.heap.size < w2.heap.size:=by have:=hb2.size; omega
 by_cases n3:bH c d (bH a b left - r.size) < 0
 ·go_wp2;go_ret;exact ⟨iG (by rw [qw,if_neg (by omega),if_neg (by omega),if_pos (by omega)]),HB1.trans (hb2.mono (by omega))⟩
 go_wp2;go_ret;exact ⟨iG (by rw [qw,if_neg (by omega),if_neg (by omega),if_neg (by omega)]),HB1.trans (hb2.mono (by omega))⟩
theorem En (a b r c d:ByteArray) (w:World) :
  Calls prog 14 #[.agg #[.string a,.string b,.string r,.string c,.string d]] w fun e w'=>e=.returned (.agg #[.string a,.string b,.string r,.string c,.string d])∧Below w.heap.size w w':=by
 go_enter func14,ntmps14;go_wp2_with fail;refine (jc _ _ _).mono ?_;rintro e w1 ⟨rfl,hb1⟩;obtain ⟨hc1,hf1⟩:=dH hb1;have hz1:w.heap.size + 1 + 1 < w1.heap.size:=by have:=hb1.size; simp at this; omega
 have hy1:w.heap.size + 1 < w1.heap.size:=by omega
 have hx1:w.heap.size < w1.heap.size:=by omega
 go_wp2_with fail;refine (jc _ _ _).mono ?_;rintro e w2 ⟨rfl,hb2⟩;obtain ⟨hc2,hf2⟩:=dH hb2;have hz2:w.heap.size + 1 + 1 < w2.heap.size:=by have:=hb2.size; simp at this; omega
 have hy2:w.heap.size + 1 < w2.heap.size:=by omega
 have hx2:w.heap.size < w2.heap.size:=by omega
 have HB1:Below w.heap.size w w1:=Below.trans (by
  repeat (first | exact Below.refl _ _ | refine Below.setCell ?_ (by first | (simp; done) | (simp; omega)) _ | refine Below.alloc ?_ (by first | (simp; done) | (simp; omega)) _)) (hb1.mono (by simp; omega))
 have HB2:Below w.heap.size w w2:=Below.trans (by
  repeat (first | refine Below.setCell ?_ (by first | (simp; done) | (simp; omega)) _ | with_reducible exact HB1)) (hb2.mono (by simp; omega))
 clear hb1 hb2;go_wp2;exact bodyPost_ret (v:=.agg #[.string a,.string b,.string r,.string c,.string d]) (by simp [results,Tryz.results14,go_sem, *]) rfl ⟨rfl,by
  repeat (first | refine Below.setCell ?_ (by first | (simp; done) | (simp; omega)) _ | with_reducible exact HB2)⟩
open Go.Joins
theorem LA {α:Type} {l:List α} (h:l.length=2):∃ a b,l=[a,b]:=by
 match l,h with
 | [a,b],_=>exact ⟨a,b,rfl⟩
theorem LB {α:Type} {l:List α} (h:l.length=5):∃ a b c d e,l=[a,b,c,d,e]:=by
 match l,h with
 | [a,b,c,d,e],_=>exact ⟨a,b,c,d,e,rfl⟩
theorem yB:prog.cellsOf 26=2:=by kernel_rfl
theorem Cb:prog.cellsOf 28=5:=by kernel_rfl
theorem yC:prog.cellsOf 9=1:=by kernel_rfl
theorem yD {H:Type} {enc:TypeId × Value→H} {w:World} {base:Nat} {sp:Nat→Bool} {held:Bool} {fuel:Nat} {cs:List Value} {x:DataW H × List MemPlace}
  (h:DataW.trod enc prog w base sp held fuel 26 cs=some x):∃ a b:ByteArray,cs=[.string a,.string b]∧a.size≤maxLen∧b.size≤maxLen:=by
 obtain ⟨y0,y1,n,-,hl,h0,h1⟩:=trod_struct2 underlying26 h;rw [yB] at hl;obtain ⟨c0,c1,rfl⟩:=LA hl;simp only [yC,List.drop_zero,List.drop_succ_cons,List.take_succ_cons,List.take_zero] at h0 h1;obtain ⟨a,e0,-,wa⟩:=DataW.trod_string underlying9 h0;obtain ⟨b,e1,-,wb⟩:=DataW.trod_string underlying9 h1;simp at e0 e1;subst e0 e1;exact ⟨a,b,rfl,wa,wb⟩
theorem Jz {H:Type} {enc:TypeId × Value→H} {w:World} {base:Nat} {sp:Nat→Bool} {held:Bool} {fuel:Nat} {cs:List Value} {x:DataW H × List MemPlace}
  (h:DataW.trod enc prog w base sp held fuel 28 cs=some x):∃ a b r c d:ByteArray,cs=[.string a,.string b,.string r,.string c,.string d] ∧
   a.size≤maxLen∧b.size≤maxLen∧r.size≤maxLen∧c.size≤maxLen∧d.size≤maxLen:=by
 obtain ⟨y0,y1,y2,n,-,hl,h0,h1,h2⟩:=Go.Deep.trod_struct3 underlying28 h;rw [Cb] at hl;obtain ⟨c0,c1,c2,c3,c4,rfl⟩:=LB hl;simp only [yC,yB,List.drop_zero,List.drop_succ_cons,List.take_succ_cons,List.take_zero] at h0 h1 h2;obtain ⟨a,b,e0,wa,wb⟩:=yD h0;obtain ⟨r,e1,-,wr⟩:=DataW.trod_string underlying9 h1;obtain ⟨c,d,e2,wc,wd⟩:=yD h2;simp at e0 e1 e2;obtain ⟨rfl,rfl⟩:=e0;obtain ⟨rfl,rfl⟩:=e2;subst e1;exact ⟨a,b,r,c,d,rfl,wa,wb,wr,wc,wd⟩
open Go.Deep
theorem yX.below {w w':World} {b off B:Nat} {ts:List Fc} (h:yX w b off ts) (hB:Below B w w') (hb:b < B):yX w' b off ts :=
 fun i hi=>(h i hi).same fun o=>hB.cell (p:=⟨b,o,none⟩) hb
theorem Fa:∃ i z,prog.info? 42=some i∧i.zero=some z∧i.size=5∧i.bytes=80:=by
 obtain ⟨i,h0,h1,h2,h3⟩:=pE;exact ⟨i,_,h0,h1,h2,h3⟩
theorem GI (b off x:Nat):(⟨b,off,none⟩:Addr).add x=⟨b,off + x,none⟩:=by
 unfold Addr.add;by_cases h:x=0
 ·subst h; simp
 ·simp [h]
theorem Cc (b off cap:Nat) (ts:List Fc) (left:Int) (w:World) (hlen:ts.length≤maxLen) (hr:yX w b off ts) (hb:b < w.heap.size) (hf:∀ t ∈ ts,t.fits) (h0:0≤left) (h1:left≤1048576) :
  Calls prog 8 #[.slice (some ⟨b,off,none⟩) ts.length cap,.int .i64 left] w fun e w'=>(∃ n:Int,e=.returned (.int .i64 n)∧(n=-1 ∨ 0≤n∧n≤left∧ts.length≤left))∧Below w.heap.size w w':=by
 unfold maxLen at hlen;by_cases hneg:left - ts.length < 0
 ·go_enter func8,ntmps8;go_wp2;go_ret;exact ⟨⟨-1,rfl,.inl rfl⟩,Below.refl _ _⟩
 ·go_enter func8,ntmps8;go_wp2;go_loopw [1,5] (fun l i wr=>∃ (k:Nat) (x:Int),k≤ts.length∧i=.int .i64 k∧l=.int .i64 x∧0≤x∧x≤left∧Below w.heap.size w wr) (fun _ i _=>ts.length - (intOf i).toNat);case atStart=>exact ⟨0,_,Nat.zero_le _,rfl,rfl,by omega,by omega,Below.refl _ _⟩
  case round =>
   obtain ⟨k,x,hk,rfl,rfl,hx0,hx1,hB⟩:=hrel;by_cases hlt:k < ts.length
   ·obtain ⟨t0,t1,t2,t3,t4⟩:=(hr.below hB hb) k hlt;obtain ⟨f0,f1,f2,f3,f4⟩:=hf ts[k] (List.getElem_mem hlt);have hle:=Jy ts[k].a ts[k].b ts[k].r ts[k].c ts[k].d x;go_wp2_with fail;refine (Em _ _ _ _ _ _ _ f0 f1 f2 f3 f4 hx0 (by omega)).mono ?_;rintro e w1 ⟨rfl,hb1⟩;by_cases hn:qw ts[k].a ts[k].b ts[k].r ts[k].c ts[k].d x < 0
    ·go_wp2;go_ret;exact ⟨⟨-1,rfl,.inl rfl⟩,hB.trans (hb1.mono hB.size)⟩
    ·go_wp2;go_roundw;case rel=>exact ⟨k + 1,_,by omega,by go_num,rfl,by omega,by omega,hB.trans (hb1.mono hB.size)⟩
     case measure=>simp [intOf]; omega
   ·go_wp2;go_ret;exact ⟨⟨x,rfl,.inr ⟨hx0,hx1,by omega⟩⟩,hB⟩
theorem Ce (ad:Option Addr) (cap:Nat) (left:Int) (w:World) (h0:0≤left) (h1:left≤1048576) :
  Calls prog 8 #[.slice ad 0 cap,.int .i64 left] w fun e w'=>(∃ n:Int,e=.returned (.int .i64 n)∧(n=-1 ∨ 0≤n∧n≤left∧(0:Nat)≤left))∧Below w.heap.size w w':=by
 go_enter func8,ntmps8;go_wp2;go_loopw [1,5] (fun l i wr=>∃ x:Int,l=.int .i64 x∧i=.int .i64 0∧0≤x∧x≤left∧Below w.heap.size w wr) (fun _ i _=>(intOf i).toNat);case atStart=>exact ⟨_,rfl,rfl,by omega,by omega,Below.refl _ _⟩
 case round =>
  obtain ⟨x,rfl,rfl,hx0,hx1,hB⟩:=hrel;go_wp2;go_ret;exact ⟨⟨x,rfl,.inr ⟨hx0,hx1,by omega⟩⟩,hB⟩
theorem Cf (ad:Option Addr) (cap:Nat) (ts:List Fc) (left:Int) (w:World) (hlen:ts.length≤maxLen) (hs:jq w ad ts) (hf:∀ t ∈ ts,t.fits) (h0:0≤left) (h1:left≤1048576) :
  Calls prog 8 #[.slice ad ts.length cap,.int .i64 left] w fun e w'=>(∃ n:Int,e=.returned (.int .i64 n)∧(n=-1 ∨ 0≤n∧n≤left∧ts.length≤left))∧Below w.heap.size w w':=by
 rcases hs with rfl | ⟨b,off,rfl,hb,hr⟩
 ·exact Ce ad cap left w h0 h1
 ·exact Cc b off cap ts left w hlen hr hb hf h0 h1
def wm (w:World) (g o:Nat) (t:Fc):World :=
 ((((w.setCell ⟨g,o,none⟩ (.string t.a)).setCell ⟨g,o + 1,none⟩ (.string t.b)).setCell ⟨g,o + 2,none⟩ (.string t.r)).setCell ⟨g,o + 3,none⟩ (.string t.c)).setCell ⟨g,o + 4,none⟩ (.string t.d)
theorem Cg (w:World) (g o:Nat) (t:Fc) (j:Nat) (h:j < o ∨ o + 5≤j):(wm w g o t).cell? ⟨g,j,none⟩=w.cell? ⟨g,j,none⟩:=by
 unfold wm;rw [dV (by omega),dV (by omega),dV (by omega),dV (by omega),dV (by omega)]
theorem Fb {w:World} {g o:Nat} (t:Fc) (h:∀ j,j < 5→(w.cell? ⟨g,o + j,none⟩).isSome=true):yV (wm w g o t) g o t:=by
 have e:∀ (W:World) (i j:Nat) (v:Value),(W.cell? ⟨g,o + j,none⟩).isSome=true→((W.setCell ⟨g,o + i,none⟩ v).cell? ⟨g,o + j,none⟩).isSome=true:=by
  intro W i j v hW;by_cases hij:i=j
  ·subst hij;obtain ⟨u,hu⟩:=Option.isSome_iff_exists.mp hW;rw [CU hu]; rfl
  ·rw [dV (by omega)]; exact hW
 have same:∀ (W:World) (j:Nat) (v:Value),(W.cell? ⟨g,o + j,none⟩).isSome=true→(W.setCell ⟨g,o + j,none⟩ v).cell? ⟨g,o + j,none⟩=some v:=by
  intro W j v hW;obtain ⟨u,hu⟩:=Option.isSome_iff_exists.mp hW;exact CU hu
 have h0:=h 0 (by omega);have h1:=h 1 (by omega);have h2:=h 2 (by omega);have h3:=h 3 (by omega);have h4:=h 4 (by omega);unfold wm yV;refine ⟨?_,?_,?_,?_,?_⟩
 ·rw [dV (by omega),dV (by omega),dV (by omega),dV (by omega)];exact same _ 0 _ h0
 ·rw [dV (by omega),dV (by omega),dV (by omega)];exact same _ 1 _ (e _ 0 1 _ h1)
 ·rw [dV (by omega),dV (by omega)];exact same _ 2 _ (e _ 1 2 _ (e _ 0 2 _ h2))
 ·rw [dV (by omega)];exact same _ 3 _ (e _ 2 3 _ (e _ 1 3 _ (e _ 0 3 _ h3)))
 ·exact same _ 4 _ (e _ 3 4 _ (e _ 2 4 _ (e _ 1 4 _ (e _ 0 4 _ h4))))
theorem Ch (w:World) (g o:Nat) (t:Fc) (x:Addr):(wm w g o t).frozen? x=w.frozen? x:=by simp [wm]
theorem Eo {B:Nat} {w0 w:World} {g o:Nat} {t:Fc} (h:Below B w0 w) (hg:B≤g):Below B w0 (wm w g o t):=by
 unfold wm;exact ((((h.setCell (by exact hg) _).setCell (by exact hg) _).setCell (by exact hg) _).setCell (by exact hg) _).setCell (by exact hg) _
theorem GJ (w:World) (g o:Nat) (t:Fc):(wm w g o t).heap.size=w.heap.size:=by simp [wm]
structure FillF (w wr:World) (g:Nat) (ts:List Fc) (k:Nat):Prop where
 below:Below w.heap.size w wr
 ge:w.heap.size≤g
 lt:g < wr.heap.size
 done:∀ (i:Nat) (h:i < ts.length),i < k→yV wr g (0 + i * 5) ts[i]
 there:∀ j,j < ts.length * 5→(wr.cell? ⟨g,j,none⟩).isSome=true
 free:∀ j,wr.frozen? ⟨g,j,none⟩=false
theorem FillF.later {w wr w1:World} {g:Nat} {ts:List Fc} {k:Nat} (h:FillF w wr g ts k) (hb:Below wr.heap.size wr w1):FillF w w1 g ts k where
 below:=h.below.trans (hb.mono h.below.size)
 ge:=h.ge
 lt:=Nat.lt_of_lt_of_le h.lt hb.size
 done i hi hk:=(h.done i hi hk).same fun o=>hb.cell (p:=⟨g,o,none⟩) h.lt
 there j hj:=by rw [hb.cell (p:=⟨g,j,none⟩) h.lt]; exact h.there j hj
 free j:=by rw [hb.frozen (p:=⟨g,j,none⟩) h.lt]; exact h.free j
theorem FillF.put {w wr:World} {g:Nat} {ts:List Fc} {k:Nat} (h:FillF w wr g ts k) (hk:k < ts.length):FillF w (wm wr g (k * 5) ts[k]) g ts (k + 1) where
 below:=Eo h.below h.ge
 ge:=h.ge
 lt:=by rw [GJ]; exact h.lt
 done i hi hik:=by
  by_cases e:i=k
  ·subst e;rw [Nat.zero_add];exact Fb _ (fun j hj=>h.there _ (by omega))
  ·obtain ⟨a0,a1,a2,a3,a4⟩:=h.done i hi (by omega);refine ⟨?_,?_,?_,?_,?_⟩ <;> (rw [Cg _ _ _ _ _ (by omega)]; assumption)
 there j hj:=by
  by_cases hin:j < k * 5 ∨ k * 5 + 5≤j
  ·rw [Cg _ _ _ _ _ hin]; exact h.there j hj
  ·obtain ⟨a0,a1,a2,a3,a4⟩:=Fb (w:=wr) (g:=g) (o:=k * 5) ts[k] (fun j hj=>h.there _ (by omega));have hj6:j=k * 5 ∨ j=k * 5 + 1 ∨ j=k * 5 + 2 ∨ j=k * 5 + 3 ∨ j=k * 5 + 4:=by omega
   rcases hj6 with e | e | e | e | e
   ·rw [e,a0]; rfl
   ·rw [e,a1]; rfl
   ·rw [e,a2]; rfl
   ·rw [e,a3]; rfl
   ·rw [e,a4]; rfl
 free j:=by rw [Ch]; exact h.free j
theorem wu {w w0:World} {ts:List Fc} {base:Nat} {e:TypeId} {xs:List Value} (h:w0.ownsRow base e 5 (.slice (some ⟨w.heap.size,0,none⟩) ts.length ts.length) ts.length xs) (hg:w.grownBy w0 none):FillF w w0 w.heap.size ts 0 where
 below:=(Below.refl _ _).grown hg (Nat.le_refl _) (fun k hk=>by cases hk)
 ge:=Nat.le_refl _
 lt:=(h.lt w.heap.size rfl).2
 done i hi hk:=absurd hk (Nat.not_lt_zero _)
 there j hj:=by
  rw [h.cellAt j hj,List.getElem?_eq_getElem (by rw [h.1]; exact hj)]; rfl
 free j:=h.frozenAt j
theorem Ci (b off cap:Nat) (ts:List Fc) (w:World) (hlen:ts.length≤1048576) (hr:yX w b off ts) (hb:b < w.heap.size) :
  Calls prog 13 #[.slice (some ⟨b,off,none⟩) ts.length cap] w fun e w'=>e=.returned (.slice (some ⟨w.heap.size,0,none⟩) ts.length ts.length)∧FillF w w' w.heap.size ts ts.length:=by
 obtain ⟨inf,z,hi,hz0,hz1,hz2⟩:=Fa;go_enter func13,ntmps13;go_wp2_with (at_make; refine wpList_make_full _ rfl _ _ 38 rfl w.heap.size 42 inf z 5 underlying38 hi hz0 hz1 .i64 .i64 _ _ ts.length rfl rfl rfl rfl (by rw [hz2]; omega) (by unfold maxLen; omega) (Nat.le_refl _) ?_; intro w0 hown0 hgrow0);have F0:FillF w w0 w.heap.size ts 0:=wu hown0 hgrow0;clear hown0 hgrow0 hi hz0 hz1 hz2;go_loopw [4] (fun i wr=>∃ k:Nat,k≤ts.length∧i=.int .i64 k∧FillF w wr w.heap.size ts k) (fun i _=>ts.length - (intOf i).toNat);case atStart=>exact ⟨0,Nat.zero_le _,rfl,F0⟩
 case round =>
  obtain ⟨k,hk,rfl,F⟩:=hrel;by_cases hlt:k < ts.length
  ·obtain ⟨t0,t1,t2,t3,t4⟩:=(hr.below F.below hb) k hlt;go_wp2_with fail;refine (En _ _ _ _ _ _).mono ?_;rintro e w1 ⟨rfl,hb1⟩;have F1:=F.later hb1;have fz:=F1.free;obtain ⟨v0,u0⟩:=Option.isSome_iff_exists.mp (F1.there (k * 5) (by omega));obtain ⟨v1,u1⟩:=Option.isSome_iff_exists.mp (F1.there (k * 5 + 1) (by omega));obtain ⟨v2,u2⟩:=Option.isSome_iff_exists.mp (F1.there (k * 5 + 2) (by omega));obtain ⟨v3,u3⟩:=Option.isSome_iff_exists.mp (F1.there (k * 5 + 3) (by omega));obtain ⟨v4,u4⟩:=Option.isSome_iff_exists.mp (F1.there (k * 5 + 4) (by omega));have F2:=F1.put hlt;clear F F0 t0 t1 t2 t3 t4 hb1;go_wp2;go_roundw;case rel=>exact ⟨k + 1,by omega,by go_num,F2⟩
   case measure=>simp [intOf]; omega
  ·obtain rfl:k=ts.length:=by omega
   go_wp2;go_ret;exact ⟨rfl,F⟩
theorem Cj (ad:Option Addr) (cap:Nat) (w:World) :
  Calls prog 13 #[.slice ad 0 cap] w fun e w'=>e=.returned (.slice (some ⟨w.heap.size,0,none⟩) 0 0)∧FillF w w' w.heap.size [] 0:=by
 obtain ⟨inf,z,hi,hz0,hz1,hz2⟩:=Fa;go_enter func13,ntmps13;go_wp2_with (at_make; refine wpList_make_full _ rfl _ _ 38 rfl w.heap.size 42 inf z 5 underlying38 hi hz0 hz1 .i64 .i64 _ _ 0 rfl rfl rfl rfl (by omega) (by unfold maxLen; omega) (Nat.le_refl _) ?_; intro w0 hown0 hgrow0);have F0:FillF w w0 w.heap.size [] 0:=wu (ts:=[]) hown0 hgrow0;clear hown0 hgrow0 hi hz0 hz1 hz2;go_loopw [4] (fun i wr=>∃ k:Nat,k=0∧i=.int .i64 k∧FillF w wr w.heap.size [] 0) (fun i _=>(intOf i).toNat);case atStart=>exact ⟨0,rfl,rfl,F0⟩
 case round =>
  obtain ⟨k,rfl,rfl,F⟩:=hrel;go_wp2;go_ret;exact ⟨rfl,F⟩
theorem mI (ad:Option Addr) (cap:Nat) (ts:List Fc) (w:World) (hlen:ts.length≤1048576) (hs:jq w ad ts) :
  Calls prog 13 #[.slice ad ts.length cap] w fun e w'=>e=.returned (.slice (some ⟨w.heap.size,0,none⟩) ts.length ts.length)∧FillF w w' w.heap.size ts ts.length:=by
 rcases hs with rfl | ⟨b,off,rfl,hb,hr⟩
 ·exact Cj ad cap w
 ·exact Ci b off cap ts w hlen hr hb
theorem FillF.row {w w':World} {g:Nat} {ts:List Fc} (h:FillF w w' g ts ts.length):yX w' g 0 ts:=fun i hi=>h.done i hi hi
theorem FillF.sl {w w':World} {g:Nat} {ts:List Fc} (h:FillF w w' g ts ts.length):jq w' (some ⟨g,0,none⟩) ts:=.inr ⟨g,0,rfl,h.lt,h.row⟩
theorem GK {H:Type} {enc:TypeId × Value→H} {W:World} {base:Nat} {sp:Nat→Bool} {held:Bool} {fuel:Nat} {ad:Option Addr} {len cap:Nat} {x:DataW H × List MemPlace}
  (h:DataW.trod enc prog W base sp held fuel 24 [.slice ad len cap]=some x):∃ ts:List Fc,ts.length=len∧jq W ad ts∧(∀ t ∈ ts,t.fits)∧len≤maxLen:=by
 rcases open_slice underlying24 h with ⟨hcs,-⟩ | ⟨a,l,c,m,n,D,Pl,hcs,-,hlc,hcm,hm,-,hel⟩
 ·simp at hcs;obtain ⟨rfl,rfl,rfl⟩:=hcs;exact ⟨[],rfl,.inl rfl,(fun t ht=>by cases ht),by unfold maxLen; omega⟩
 ·simp at hcs;obtain ⟨rfl,rfl,rfl⟩:=hcs;have hle:len≤m:=by rw [hm]; split <;> omega
  by_cases h0:len=0
  ·subst h0;exact ⟨[],rfl,.inl rfl,(fun t ht=>by cases ht),by omega⟩
  have key:∀ i,i < len→∃ t:Fc,(∀ j,j < 5→W.cell? ((a.add (i * 5)).add j)=[Value.string t.a,.string t.b,.string t.r,.string t.c,.string t.d][j]?)∧t.fits:=by
   intro i hi;obtain ⟨cs',hc,hd⟩:=hel i (by omega);rw [Cb] at hc;obtain ⟨ta,tb,tr,tc,td,rfl,hh⟩:=Jz hd;exact ⟨⟨ta,tb,tr,tc,td⟩,fun j hj=>(World.cells?_some hc).2.2 j hj,hh⟩
  have hspot:a.spot=none:=by
   obtain ⟨t,ht,-⟩:=key 0 (by omega);have:=ht 0 (by omega);have e:(a.add (0 * 5)).add 0=a:=by simp [Addr.add]
   rw [e] at this;exact World.cell?_spot this
  obtain ⟨b,off,spot⟩:=a;simp only at hspot;subst hspot;obtain ⟨f,hf⟩:=@choose_lt Fc ⟨⟨⟨#[]⟩,⟨#[]⟩,⟨#[]⟩,⟨#[]⟩,⟨#[]⟩⟩⟩ len _ key;have at5:∀ i,i < len→yV W b (off + i * 5) (f i):=by
   intro i hi;obtain ⟨hc,-⟩:=hf i hi;simp only [GI] at hc;exact ⟨hc 0 (by omega),hc 1 (by omega),hc 2 (by omega),hc 3 (by omega),hc 4 (by omega)⟩
  refine ⟨(List.range len).map f,by simp,.inr ⟨b,off,rfl,?_,?_⟩,?_,by omega⟩
  ·exact World.block_lt_of_cell? W ⟨b,off + 0 * 5,none⟩ (at5 0 (by omega)).1
  ·intro i hi;have hi':i < len:=by simpa using hi
   simpa using at5 i hi'
  ·intro t ht;simp only [List.mem_map,List.mem_range] at ht;obtain ⟨i,hi,rfl⟩:=ht;exact (hf i hi).2
theorem KD {w W w':World} {n m i0 i1 i2 i3 i4 j0 j1 j2 j3 j4:Nat} {x0 x1 x2 x3 x4 y0 y1 y2 y3 y4:Value} (h:W.cell? ⟨n,i0,none⟩=some x0∧W.cell? ⟨n,i1,none⟩=some x1∧W.cell? ⟨n,i2,none⟩=some x2∧W.cell? ⟨n,i3,none⟩=some x3∧W.cell? ⟨n,i4,none⟩=some x4∧W.cell? ⟨m,j0,none⟩=some y0∧W.cell? ⟨m,j1,none⟩=some y1∧W.cell? ⟨m,j2,none⟩=some y2∧W.cell? ⟨m,j3,none⟩=some y3∧W.cell? ⟨m,j4,none⟩=some y4∧Below w.heap.size w W) (hb:Below W.heap.size W w'):w'.cell? ⟨n,i0,none⟩=some x0∧w'.cell? ⟨n,i1,none⟩=some x1∧w'.cell? ⟨n,i2,none⟩=some x2∧w'.cell? ⟨n,i3,none⟩=some x3∧w'.cell? ⟨n,i4,none⟩=some x4∧w'.cell? ⟨m,j0,none⟩=some y0∧w'.cell? ⟨m,j1,none⟩=some y1∧w'.cell? ⟨m,j2,none⟩=some y2∧w'.cell? ⟨m,j3,none⟩=some y3∧w'.cell? ⟨m,j4,none⟩=some y4∧Below w.heap.size w w':=by
 obtain ⟨h0,h1,h2,h3,h4,k0,k1,k2,k3,k4,hB⟩:=h;exact ⟨aD hb (ax h0) h0,aD hb (ax h1) h1,aD hb (ax h2) h2,aD hb (ax h3) h3,aD hb (ax h4) h4,aD hb (ax k0) k0,aD hb (ax k1) k1,aD hb (ax k2) k2,aD hb (ax k3) k3,aD hb (ax k4) k4,hB.trans (hb.mono hB.size)⟩
theorem Ck (a b r c d:ByteArray) (w:World) :
  Calls prog 44 #[.agg #[.string a,.string b,.string r,.string c,.string d],.agg #[.string a,.string b,.string r,.string c,.string d]] w fun e w'=>e=.returned (.bool true)∧Below w.heap.size w w':=by
 go_enter func44,ntmps44;go_wp2_with fail;refine (ib _ _ _).mono ?_;rintro e w1 ⟨rfl,hb1⟩;obtain ⟨hc1,hf1⟩:=dH hb1;have hz1:w.heap.size + 1 < w1.heap.size:=by have:=hb1.size; simp at this; omega
 have hy1:w.heap.size < w1.heap.size:=by omega
 have HB1:Below w.heap.size w w1:=(((Below.refl _ _).alloc (Nat.le_refl _) _).alloc (by simp) _).trans (hb1.mono (by simp; omega));go_wp2_with fail;refine (ib _ _ _).mono ?_;rintro e w2 ⟨rfl,hb2⟩;obtain ⟨hc2,hf2⟩:=dH hb2;have hz2:w.heap.size + 1 < w2.heap.size:=by have:=hb2.size; omega
 have hy2:w.heap.size < w2.heap.size:=by omega
 go_wp2;go_ret;exact ⟨rfl,HB1.trans (hb2.mono (by omega))⟩
theorem zW (ad ad':Option Addr) (cap cap':Nat) (w:World) :
  Calls prog 18 #[.slice ad 0 cap,.slice ad' 0 cap'] w fun e w'=>e=.returned (.bool true)∧Below w.heap.size w w':=by
 go_enter func18,ntmps18;go_wp2;refine wp_loop_rounds 1 ?_;rw [rounds_succ];go_wp2;go_ret;exact ⟨rfl,Below.refl _ _⟩
theorem zX (b b' off off' cap cap':Nat) (ts:List Fc) (w:World) (hlen:ts.length≤maxLen) (hr:yX w b off ts) (hb:b < w.heap.size) (hr':yX w b' off' ts) (hb':b' < w.heap.size) :
  Calls prog 18 #[.slice (some ⟨b,off,none⟩) ts.length cap,.slice (some ⟨b',off',none⟩) ts.length cap'] w fun e w'=>e=.returned (.bool true)∧Below w.heap.size w w':=by
 unfold maxLen at hlen;have HR:=ag hr;have HR':=ag hr';clear hr hr';go_enter func18,ntmps18;go_wp2;go_loopw [5] (fun i wr=>∃ k:Nat,k≤ts.length∧i=.int .i64 k∧Hid (Below w.heap.size w wr)) (fun i _=>ts.length - (intOf i).toNat);case atStart=>exact ⟨0,Nat.zero_le _,rfl,Below.refl _ _⟩
 case round =>
  obtain ⟨k,hk,rfl,HB⟩:=hrel;by_cases hlt:k < ts.length
  ·have h1:=(HR.out k hlt).same (fun o=>HB.out.cell (p:=⟨b,o,none⟩) hb);have h2:=(HR'.out k hlt).same (fun o=>HB.out.cell (p:=⟨b',o,none⟩) hb');obtain ⟨x,hx⟩:∃ x,ts[k]=x:=⟨_,rfl⟩;rw [hx] at h1 h2;obtain ⟨s0,s1,s2,s3,s4⟩:=h1;obtain ⟨y0,y1,y2,y3,y4⟩:=h2;clear hx;have hk1:=aY k;have hk2:(k:Int) < (ts.length:Int):=by omega
   have hbp:=HB.out;have hbr:b < wr.heap.size:=ax s0;have hbr':b' < wr.heap.size:=ax y0;go_wp2_with fail
   go_region_held3 (fun w'=>w'.cell? ⟨b,off + k * 5,none⟩=some (.string x.a)∧w'.cell? ⟨b,off + k * 5 + 1,none⟩=some (.string x.b)∧w'.cell? ⟨b,off + k * 5 + 2,none⟩=some (.string x.r)∧w'.cell? ⟨b,off + k * 5 + 3,none⟩=some (.string x.c)∧w'.cell? ⟨b,off + k * 5 + 4,none⟩=some (.string x.d)∧w'.cell? ⟨b',off' + k * 5,none⟩=some (.string x.a)∧w'.cell? ⟨b',off' + k * 5 + 1,none⟩=some (.string x.b)∧w'.cell? ⟨b',off' + k * 5 + 2,none⟩=some (.string x.r)∧w'.cell? ⟨b',off' + k * 5 + 3,none⟩=some (.string x.c)∧w'.cell? ⟨b',off' + k * 5 + 4,none⟩=some (.string x.d)∧Below w.heap.size w w')
    (first | assumption | exact KD (by assumption) hbx | exact ⟨s0,s1,s2,s3,s4,y0,y1,y2,y3,y4,hbp.drew⟩)
    (first | (go_at_call 44; refine (Ck _ _ _ _ _ _).mono ?_; rintro e w' ⟨rfl,hbx⟩))
   rename_i hJ;have HJB:=ag hJ.2.2.2.2.2.2.2.2.2.2;clear hJ s0 s1 s2 s3 s4 y0 y1 y2 y3 y4;go_wp2;go_roundw;case rel=>exact ⟨k + 1,by omega,by go_num,HJB⟩
   case measure=>simp [intOf] <;> omega
  ·go_wp2;go_ret;exact ⟨rfl,HB.out⟩
theorem Cm (ad ad':Option Addr) (cap cap':Nat) (ts:List Fc) (w:World) (hlen:ts.length≤maxLen) (hs:jq w ad ts) (hs':jq w ad' ts) :
  Calls prog 18 #[.slice ad ts.length cap,.slice ad' ts.length cap'] w fun e w'=>e=.returned (.bool true)∧Below w.heap.size w w':=by
 by_cases h:ts=[]
 ·subst h; exact zW ad ad' cap cap' w
 ·rcases hs with h1 | ⟨b,off,rfl,hb,hr⟩
  ·exact absurd h1 h
  rcases hs' with h1 | ⟨b',off',rfl,hb',hr'⟩
  ·exact absurd h1 h
  exact zX b b' off off' cap cap' ts w hlen hr hb hr' hb'
end Go.Proofs.YtdaoiceeidoehaaGreat
