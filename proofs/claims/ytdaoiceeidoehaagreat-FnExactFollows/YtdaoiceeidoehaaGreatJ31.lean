/- The program's look whether a fact follows from facts that are known. -/
import Derived.Test.YtdaoiceeidoehaaGreatFolS
import Derived.OpenShut
import Derived.ShutString
import Derived.ChangeOld
import Derived.Lib.SmallJoins
import Derived.Deep.Strs
import Derived.Deep.Slices
open Go.Proofs.Tryz
set_option maxHeartbeats 80000000
namespace Go.Proofs.YtdaoiceeidoehaaGreat
set_option maxRecDepth 100000
set_option linter.unusedVariables false
set_option linter.unusedSectionVars false
open Go.ChangeShapes Go.WideShapes Go.ChangeAt Go.RowKit Go.Maps
open Pl
section
variable [DecidableEq Fc]
def Ju (st:ByteArray × ByteArray→Int) (rs:List TR) (ts:List Tp) (w:World) (e:Ending) (w':World):Prop :=
 Below w.heap.size w w'∧((aV (gy rs) rs ts=false∧e=.returned (.tuple #[.pointer none,.bool false])) ∨
  (aV (gy rs) rs ts=true∧∃ (P D br bp bt nr np:Nat) (n1:Int) (Mr:KL→Option Value) (Er:List (KL × RR)) (Mp:K3→Option Value) (vo vu:Value) (adF:Option Addr) (capF bK nK:Nat),e=.returned (.tuple #[.pointer (some ⟨P,0,none⟩),.bool true])∧PrM w' P D adF capF (dY st rs ts) bK nK ∧
   DatA w' rs D br bp bt n1 nr Mr Er (aN ts) (fD ts) (dC ts) np Mp vo vu))
theorem zS (st:ByteArray × ByteArray→Int) (ad:Option Addr) (cap:Nat) (rs:List TR) (ad':Option Addr) (cap':Nat) (ts:List Tp) (w:World) (hlen:rs.length≤1048576) (hs:fe w ad rs) (hl:∀ r ∈ rs,r.light) (hfr:∀ r ∈ rs,r.fits) (hcp:∀ r ∈ rs,r.caps) (hlt:ts.length≤1048576) (hst:Sl w ad' ts) (hft:∀ x ∈ ts,x.fits) (hle:bW (ae rs)=true→Least (ae rs) st) :
  Calls prog 37 #[.slice ad rs.length cap,.slice ad' ts.length cap'] w (Ju st rs ts w):=by
 have HC:=ah (DC (gy rs) ad cap rs ad' cap' ts w hlen hs hl hfr (zL ad cap rs w hlen hs hl hfr hcp) (fun h t ht=>Gy h ht) hlt hst hft);have HS:=ah hs;have HFT:=ah hft;have HFR:=ah hfr;have HLE:=ah hle;clear hs hl hfr hcp hst hft hle;go_enter func37,ntmps37;go_wp2_with fail;refine HC.out.mono ?_;rintro e w1 ⟨hb1,⟨hr,rfl⟩ | ⟨hr,D,br,bp,bt,nr,np,Mr,Mp,vo,vu,f,rfl,hbt,hLf,hDA⟩⟩
 ·have HP:Hid (Ju st rs ts w (.returned (.tuple #[.pointer none,.bool false])) w1):=⟨hb1,.inl ⟨hr,rfl⟩⟩;clear hb1 HC hr;go_wp2;exact bodyPost_ret (v:=.tuple #[.pointer none,.bool false]) (by simp [results,Tryz.results37,go_sem]) rfl HP.out
 ·have hsd:bW (ae rs)=true∧ts.length≤40:=by
   unfold aV dW at hr;simp only [Bool.and_eq_true,decide_eq_true_eq] at hr;exact ⟨hr.1.1,hr.1.2.1⟩
  obtain ⟨hsd,ht40⟩:=hsd;have hSP:=bv.1 hsd;obtain ⟨h6,hr6,-⟩:=aY hSP.1;have hE36:=tJ h6 hr6;have hfk:∀ k ∈ aj (ae rs),f k + 1≤(aj (ae rs)).length:=fun k hk=>by
   obtain ⟨g,hg,hb⟩:=hLf.sol.few (jg hSP.2.1);have h1:=hLf.low k hk g hg;have h2:=hb k hk;omega
  have hc0:0≤ic (dF f rs):=(zM (dF f rs) 0).1;have hcl:ic (dF f rs)≤(aj (ae rs)).length:=E5 _ _ _ (by omega) fun x hx=>by
   obtain ⟨k,hk,e,-⟩:=Lj hx;rw [e]; exact hfk k hk
  obtain ⟨N,hN⟩:∃ N:Nat,ic (dF f rs)=N:=⟨(ic (dF f rs)).toNat,by omega⟩;have hkN:∀ k ∈ aj (ae rs),f k < (N:Int):=fun k hk=>by
   obtain ⟨x,hx,e⟩:=Km (f:=f) hk;have h2:=(zM (dF f rs) 0).2 x hx;have h3:x.1.2 + 1≤ic (dF f rs):=h2;rw [e,hN] at h3;omega
  have hLs:jv (ae rs) ts f (fD ts) (dC ts) N=dY st rs ts:=by
   rw [oL hr];unfold kN;rw [← ry (fun k hk=>hLf.same (HLE.out hsd) k hk)];exact (FN hkN _ (by omega)).symm
  rw [hN] at hDA;have HF1:=ah (Gu w1 rs ad D br bp bt N nr Mr f ts (fD ts) (dC ts) np Mp vo vu hDA (HS.out.below hb1) (by omega) (by have:=j5 ts; omega) (by have:=jo ts; omega) hE36 (fun k=>by
   have:(G.lookL (dF f rs) k).length≤(dF f rs).length:=List.length_filterMap_le _ _;rw [Kn] at this; omega) hSP.1 HFT.out (by omega) (oJ HFT.out) (mH HFT.out) (yx HFR.out))
  rw [hLs] at HF1;have hGO:=mE f rs ts (fD ts) (dC ts) N;rw [hLs] at hGO;have HB1:=ah hb1;have hll:=hGO.len (by have:=j5 ts; omega) hE36 (by have:=jo ts; omega);have HFF:Hid (∀ x ∈ dY st rs ts,x.fits):=fun x hx=>by
   have h1:=hGO.sub x hx;unfold Bp at h1;obtain ⟨o,ho,h1⟩:=List.mem_flatMap.1 h1;obtain ⟨k,hk,h1⟩:=List.mem_flatMap.1 h1;obtain ⟨u,hu,rfl⟩:=List.mem_map.1 h1;exact ⟨(oJ HFT.out o ho).1,(oJ HFT.out o ho).2,yx HFR.out k hk,(mH HFT.out u hu).1,(mH HFT.out u hu).2⟩
  obtain ⟨L0,hL0⟩:∃ L0,L0=dY st rs ts:=⟨_,rfl⟩;rw [← hL0] at HF1 hll HFF;have HL0:=ah hL0;have HDA:=ah hDA;have HRI:=ah hr;clear HC hb1 hDA hLf hfk hc0 hcl hN hkN hLs hGO hSP hsd h6 hr6 hE36 hr hbt hL0;go_wp2_with fail;refine HF1.out.mono ?_;rintro e w2 ⟨⟨v,rfl,hown⟩,hb2⟩;have HB2:=ah (HB1.out.trans (hb2.mono HB1.out.size));have HD2:=ah (HDA.out.below hb2);obtain ⟨adF,capF,rfl,hsF⟩:=jG hown;have HSF:=ah hsF;clear HF1 hown hb2 HB1 HDA hsF;go_wp2_with fail;refine (nZ adF capF L0 _ (by omega) HSF.out HFF.out).mono ?_;rintro e w3 ⟨⟨bK,nK,rfl,hV⟩,hb3⟩;obtain ⟨W4,hW4⟩:∃ W4,W4=w3.alloc (.cells #[.pointer (some ⟨D,0,none⟩),.slice adF L0.length capF,.map (some bK)] 95):=⟨_,rfl⟩;have hb4:Below w3.heap.size w3 W4:=by rw [hW4]; exact (Below.refl _ _).alloc (Nat.le_refl _) _
  have hb34:Below w2.heap.size w2 W4:=hb3.trans (hb4.mono hb3.size);have HP:Hid (Ju st rs ts w (.returned (.tuple #[.pointer (some ⟨w3.heap.size,0,none⟩),.bool true])) W4):=by
   refine ⟨HB2.out.trans (hb34.mono HB2.out.size),.inr ⟨HRI.out,w3.heap.size,D,br,bp,bt,nr,np,_,Mr,_,Mp,vo,vu,adF,capF,bK,nK,rfl,?_,HD2.out.below hb34⟩⟩;rw [← HL0.out];exact ⟨by rw [hW4]; simp,by rw [hW4]; simp,by rw [hW4]; simp,by rw [hW4]; simp,HSF.out.below hb34,hV.below hb4⟩
  clear hb3 hb4 hb34 hV;go_wp2;rw [← hW4];exact bodyPost_ret (v:=.tuple #[.pointer (some ⟨w3.heap.size,0,none⟩),.bool true]) (by simp [results,Tryz.results37,go_sem]) rfl HP.out
theorem aG.kind {w:World} {S:Nat→Prop} {n:Nat} {v:Value} {G:Ru} (h:aG w S n v G):∃ T a,v=.iface T a∧KS T a:=by
 match n,h with
 | 0,h=>exact h.elim
 | n + 1,h =>
  rcases h with ⟨b,e,-⟩ | ⟨ad,cap,fs,e,-⟩ | ⟨ad,cap,Gs,e,-⟩ | ⟨ad,cap,Gs,e,-⟩
  ·exact ⟨_,_,e,.inl ⟨rfl,_,rfl⟩⟩
  ·exact ⟨_,_,e,.inr ⟨.inl rfl,_,_,_,rfl⟩⟩
  ·exact ⟨_,_,e,.inr ⟨.inr (.inl rfl),_,_,_,rfl⟩⟩
  ·exact ⟨_,_,e,.inr ⟨.inr (.inr rfl),_,_,_,rfl⟩⟩
theorem Kw (xs:Array Value) (u:World):(callFunc 41 xs).run prog u=.ok (.enter 41 xs) u:=by kernel_rfl
theorem Kz {w:World} {b n:Nat} {fs:List Fc} (h:aD gM prog 42 w b n (qc fs)):KnF w 41 #[.map (some b)] #[] (dh fs) :=
 ⟨Kw,fun x hx w1 hb=>by simpa using mi b n fs x w1 hx (h.below hb)⟩
theorem Jv {w:World} {T:TypeId} {a:Value} {S:Nat→Prop} {n:Nat} {G:Ru} {FC:Nat} {rc cp:Array Value} {K:Fc→Bool} (hr:aG w S n (.iface T a) G) (hK:KnF w FC rc cp K):Calls prog (Eg T) #[a,.func (Fn.func FC) rc cp] w fun e w'=>e=.returned (.bool (G K))∧Below w.heap.size w w':=by
 obtain ⟨T',a',e,-,hc⟩:=BU n w _ G hK hr;injection e with e1 e2;subst e1 e2;exact hc w (Below.refl _ _)
end
section
variable [DecidableEq Fc]
theorem sP (st:ByteArray × ByteArray→Int) (ad:Option Addr) (cap:Nat) (rs:List TR) (ad':Option Addr) (cap':Nat) (ts:List Tp) (adK:Option Addr) (capK:Nat) (known:List Fc) (f:Fc) (w:World) (hlen:rs.length≤1048576) (hs:fe w ad rs) (hl:∀ r ∈ rs,r.light) (hfr:∀ r ∈ rs,r.fits) (hcp:∀ r ∈ rs,r.caps) (hlt:ts.length≤1048576) (hst:Sl w ad' ts) (hft:∀ x ∈ ts,x.fits) (hkl:known.length≤1048576) (hk:kC w adK known) (hkf:∀ x ∈ known,x.fits) (hf:f.fits) (hle:bW (ae rs)=true→Least (ae rs) st) :
    Calls prog 15 #[.slice ad rs.length cap,.slice ad' ts.length cap',.slice adK known.length capK,.agg #[.string f.a,.string f.b,.string f.r,.string f.c,.string f.d]] w fun e w'=>e=.returned (.bool (jy st rs ts known f))∧Below w.heap.size w w':=by
  obtain ⟨W0,hW0⟩:∃ W0,W0=w.alloc (.cells #[.string f.a,.string f.b,.string f.r,.string f.c,.string f.d] 42):=⟨_,rfl⟩;have HB0:=nA hW0;have HBX:Hid (W0.cell? ⟨w.heap.size,0,none⟩=some (.string f.a)∧W0.cell? ⟨w.heap.size,1,none⟩=some (.string f.b)∧W0.cell? ⟨w.heap.size,2,none⟩=some (.string f.r)∧W0.cell? ⟨w.heap.size,3,none⟩=some (.string f.c)∧W0.cell? ⟨w.heap.size,4,none⟩=some (.string f.d)∧Below w.heap.size w W0):=by
    refine ⟨?_,?_,?_,?_,?_,HB0.out⟩ <;> rw [hW0] <;> simp
  have HPC:=ah (zS st ad cap rs ad' cap' ts W0 hlen (hs.below HB0.out) hl hfr hcp hlt (hst.below HB0.out) hft hle);have HS:=ah (hs.below HB0.out);have HKN:=ah (hk.below HB0.out);have HKF:=ah hkf;have HFT:=ah hft;have HF:=ah hf;clear hs hl hfr hcp hst hft hle hk hkf hf;go_enter func15,ntmps15;go_wp2_with fail;rw [← hW0];clear hW0;refine HPC.out.mono ?_;rintro e w1 ⟨hb1,⟨hr,rfl⟩ | ⟨hr,P,D,br,bp,bt,nr,np,n1,Mr,Er,Mp,vo,vu,adF,capF,bK,nK,rfl,hP,hD⟩⟩
  · have HN:Hid (jy st rs ts known f=false):=by show _=_; unfold jy; rw [hr]; rfl
    have HB1:=ah (HB0.out.trans (hb1.mono HB0.out.size));clear hb1 hr HPC;go_wp2;go_ret;exact ⟨by rw [HN.out]; rfl,HB1.out⟩
  · have HK1:=ah (ig HBX.out hb1);have HB1:=ah (HB0.out.trans (hb1.mono HB0.out.size));have HS1:=ah (HS.out.below hb1);have HKN1:=ah (HKN.out.below hb1);have HP:=ah hP;have HD:=ah hD;have hsd:bW (ae rs)=true∧ts.length≤40:=by
      have hr2:=hr;unfold aV dW at hr2;simp only [Bool.and_eq_true,decide_eq_true_eq] at hr2;exact ⟨hr2.1.1,hr2.1.2.1⟩
    have HSH:=ah (bv.1 hsd.1).1;have ht40:=hsd.2;have HR1:=ah hr;obtain ⟨k0,k1,k2,k3,k4,-⟩:=HK1.out;clear hb1 hr HPC hP hD hsd HS HKN HBX;go_wp2_with fail;refine (Ei f _ HF.out).mono ?_;rintro e w2 ⟨rfl,hb2⟩;have HK2:=ah (ig HK1.out hb2);have HB2:=ah hb2;clear hb2 k0 k1 k2 k3 k4;cases hq:okB f with
    | false =>
      have HN:Hid (jy st rs ts known f=false):=by show _=_; unfold jy; rw [hq]; simp
      go_wp2;go_ret;exact ⟨by rw [HN.out]; rfl,HK2.out.2.2.2.2.2⟩
    | true =>
      by_cases h2:known.length≤200
      · have hd2:¬ ((200:Int) < (known.length:Int)):=by omega
        have HE:Hid (jy st rs ts known f=sN rs ts (dY st rs ts) known f):=by show _=_; unfold jy; rw [HR1.out,hq,decide_eq_true h2]; rfl
        have HRU:Hid (∀ W',Below w1.heap.size w1 W'→Calls prog 39 #[.pointer (some ⟨P,0,none⟩),.agg #[.string f.a,.string f.b,.string f.r,.string f.c,.string f.d]] W' fun e w'=>(∃ v n,e=.returned v∧aG w' (gP W'.heap.size) n v (wm rs ts (dY st rs ts) f))∧Below W'.heap.size W' w'):=fun W' hb=>Ej (HP.out.below hb) (HD.out.below hb) HF.out HFT.out (by omega) HSH.out (HS1.out.below hb);have HFS:Hid (∀ W',Below w1.heap.size w1 W'→Calls prog 40 #[.slice adK known.length capK] W' fun e w'=>(∃ b n,e=.returned (.map (some b))∧aD gM prog 42 w' b n (qc known))∧Below W'.heap.size W' w'):=fun W' hb=>nZ adK capK known W' hkl (HKN1.out.below hb) HKF.out;obtain ⟨k0,k1,k2,k3,k4,-⟩:=HK2.out;clear hq h2;go_wp2_with fail
        go_region_held3 (fun w'=>w'.cell? ⟨w.heap.size,0,none⟩=some (.string f.a)∧w'.cell? ⟨w.heap.size,1,none⟩=some (.string f.b)∧w'.cell? ⟨w.heap.size,2,none⟩=some (.string f.r)∧w'.cell? ⟨w.heap.size,3,none⟩=some (.string f.c)∧w'.cell? ⟨w.heap.size,4,none⟩=some (.string f.d)∧Below w1.heap.size w1 w')
          (first | assumption | exact ig (by assumption) hbx | exact ⟨k0,k1,k2,k3,k4,HB2.out.drew⟩)
          (first
           | (go_at_call 39; refine (HRU.out _ (And.right (And.right (And.right (And.right (And.right (by assumption))))))).mono ?_; rintro e w3 ⟨⟨v,n,rfl,hru⟩,hbx⟩; obtain ⟨T,a,rfl,hkd⟩:=hru.kind; have hm:=wh hkd; have hna:=Jq hkd; have hrf:=zR hkd)
           | (go_at_call 40; refine (HFS.out _ (And.right (And.right (And.right (And.right (And.right (by assumption))))))).mono ?_; rintro e w4 ⟨⟨b2,n2,rfl,hV⟩,hbx⟩; have hru4:=hru.below hbx)
           | (refine (Jv hru4 (Kz hV)).mono ?_; rintro e w5 ⟨rfl,hbx⟩))
        all_goals
          (try go_wp2)
          go_ret;exact ⟨by rw [HE.out,← GG]; rfl,HB1.out.trans ((And.right (And.right (And.right (And.right (And.right (by assumption))))):Below w1.heap.size w1 _).mono HB1.out.size)⟩
      · have hd2:(200:Int) < (known.length:Int):=by omega
        have HN:Hid (jy st rs ts known f=false):=by show _=_; unfold jy; rw [decide_eq_false h2]; simp
        go_wp2;go_ret;exact ⟨by rw [HN.out]; rfl,HK2.out.2.2.2.2.2⟩
end
theorem nu (t i:ByteArray) (left:Int):bI t i left≤left ∨ bI t i left=-1:=by
 unfold bI; split
 ·exact .inr rfl
 ·split
  ·exact .inr rfl
  ·exact .inl (by omega)
def lh (a b r c d:ByteArray) (left:Int):Int :=
 if bI a b left < 0 then -1 else if bI a b left - r.size < 0 then -1
 else if bI c d (bI a b left - r.size) < 0 then -1 else bI c d (bI a b left - r.size)
theorem BX (a b r c d:ByteArray) (left:Int):lh a b r c d left≤left ∨ lh a b r c d left=-1:=by
 unfold lh;split
 ·exact .inr rfl
 split
 ·exact .inr rfl
 split
 ·exact .inr rfl
 ·refine .inl ?_;have h1:=nu a b left;have h2:=nu c d (bI a b left - r.size);omega
theorem wu (a b r c d:ByteArray) (left:Int) (w:World) (ha:a.size≤maxLen) (hb:b.size≤maxLen) (hr:r.size≤maxLen) (hc:c.size≤maxLen) (hd:d.size≤maxLen) (h0:0≤left) (h1:left≤1048576) :
  Calls prog 9 #[.agg #[.string a,.string b,.string r,.string c,.string d],.int .i64 left] w fun e w'=>e=.returned (.int .i64 (lh a b r c d left))∧Below w.heap.size w w':=by
 have hr':=hr;unfold maxLen at hr';have e1:=nu a b left;have e2:=nu c d (bI a b left - r.size);go_enter func9,ntmps9;go_wp2_with fail;refine (jb _ _ _ _ ha hb h0 h1).mono ?_;rintro e w1 ⟨rfl,hb1⟩;obtain ⟨hc1,hf1⟩:=dH hb1;have hz1:w.heap.size < w1.heap.size:=by have:=hb1.size; simp at this; omega
 have HB1:Below w.heap.size w w1:=((Below.refl _ _).alloc (Nat.le_refl _) _).trans (hb1.mono (by simp));by_cases n1:bI a b left < 0
 ·go_wp2;go_ret;exact ⟨iE (by rw [lh,if_pos (by omega)]),HB1⟩
 by_cases n2:bI a b left - r.size < 0
 ·go_wp2;go_ret;exact ⟨iE (by rw [lh,if_neg (by omega),if_pos (by omega)]),HB1⟩
 go_wp2_with fail;refine (jb _ _ _ _ hc hd (by omega) (by omega)).mono ?_;rintro e w2 ⟨rfl,hb2⟩;obtain ⟨hc2,hf2⟩:=dH hb2;have hz2:w.heap.size < w2.heap.size:=by have:=hb2.size; omega
 by_cases n3:bI c d (bI a b left - r.size) < 0
 ·go_wp2;go_ret;exact ⟨iE (by rw [lh,if_neg (by omega),if_neg (by omega),if_pos (by omega)]),HB1.trans (hb2.mono (by omega))⟩
 go_wp2;go_ret;exact ⟨iE (by rw [lh,if_neg (by omega),if_neg (by omega),if_neg (by omega)]),HB1.trans (hb2.mono (by omega))⟩
theorem oM (a b r c d:ByteArray) (w:World) :
  Calls prog 14 #[.agg #[.string a,.string b,.string r,.string c,.string d]] w fun e w'=>e=.returned (.agg #[.string a,.string b,.string r,.string c,.string d])∧Below w.heap.size w w':=by
 go_enter func14,ntmps14;go_wp2_with fail;refine (jc _ _ _).mono ?_;rintro e w1 ⟨rfl,hb1⟩;obtain ⟨hc1,hf1⟩:=dH hb1;have hz1:w.heap.size + 1 + 1 < w1.heap.size:=by have:=hb1.size; simp at this; omega
 have hy1:w.heap.size + 1 < w1.heap.size:=by omega
 have hx1:w.heap.size < w1.heap.size:=by omega
 go_wp2_with fail;refine (jc _ _ _).mono ?_;rintro e w2 ⟨rfl,hb2⟩;obtain ⟨hc2,hf2⟩:=dH hb2;have hz2:w.heap.size + 1 + 1 < w2.heap.size:=by have:=hb2.size; simp at this; omega
 have hy2:w.heap.size + 1 < w2.heap.size:=by omega
 have hx2:w.heap.size < w2.heap.size:=by omega
 have HB1:Below w.heap.size w w1:=Below.trans (by
  repeat (first | exact Below.refl _ _ | refine Below.setCell ?_ (by first | (simp; done) | (simp; omega)) _ | refine Below.alloc ?_ (by first | (simp; done) | (simp; omega)) _)) (hb1.mono (by simp; omega))
 have HB2:Below w.heap.size w w2:=Below.trans (by
  repeat (first | refine Below.setCell ?_ (by first | (simp; done) | (simp; omega)) _ | with_reducible exact HB1)) (hb2.mono (by simp; omega))
 clear hb1 hb2;go_wp2;exact bodyPost_ret (v:=.agg #[.string a,.string b,.string r,.string c,.string d]) (by simp [results,Tryz.results14,go_sem, *]) rfl ⟨rfl,by
  repeat (first | refine Below.setCell ?_ (by first | (simp; done) | (simp; omega)) _ | with_reducible exact HB2)⟩
open Go.Joins
theorem Lu {α:Type} {l:List α} (h:l.length=2):∃ a b,l=[a,b]:=by
 match l,h with
 | [a,b],_=>exact ⟨a,b,rfl⟩
theorem Lv {α:Type} {l:List α} (h:l.length=5):∃ a b c d e,l=[a,b,c,d,e]:=by
 match l,h with
 | [a,b,c,d,e],_=>exact ⟨a,b,c,d,e,rfl⟩
theorem yA:prog.cellsOf 26=2:=by kernel_rfl
theorem BZ:prog.cellsOf 28=5:=by kernel_rfl
theorem yB:prog.cellsOf 9=1:=by kernel_rfl
theorem yC {H:Type} {enc:TypeId × Value→H} {w:World} {base:Nat} {sp:Nat→Bool} {held:Bool} {fuel:Nat} {cs:List Value} {x:DataW H × List MemPlace}
  (h:DataW.trod enc prog w base sp held fuel 26 cs=some x):∃ a b:ByteArray,cs=[.string a,.string b]∧a.size≤maxLen∧b.size≤maxLen:=by
 obtain ⟨y0,y1,n,-,hl,h0,h1⟩:=trod_struct2 underlying26 h;rw [yA] at hl;obtain ⟨c0,c1,rfl⟩:=Lu hl;simp only [yB,List.drop_zero,List.drop_succ_cons,List.take_succ_cons,List.take_zero] at h0 h1;obtain ⟨a,e0,-,wa⟩:=DataW.trod_string underlying9 h0;obtain ⟨b,e1,-,wb⟩:=DataW.trod_string underlying9 h1;simp at e0 e1;subst e0 e1;exact ⟨a,b,rfl,wa,wb⟩
theorem Ca {H:Type} {enc:TypeId × Value→H} {w:World} {base:Nat} {sp:Nat→Bool} {held:Bool} {fuel:Nat} {cs:List Value} {x:DataW H × List MemPlace}
  (h:DataW.trod enc prog w base sp held fuel 28 cs=some x):∃ a b r c d:ByteArray,cs=[.string a,.string b,.string r,.string c,.string d] ∧
   a.size≤maxLen∧b.size≤maxLen∧r.size≤maxLen∧c.size≤maxLen∧d.size≤maxLen:=by
 obtain ⟨y0,y1,y2,n,-,hl,h0,h1,h2⟩:=Go.Deep.trod_struct3 underlying28 h;rw [BZ] at hl;obtain ⟨c0,c1,c2,c3,c4,rfl⟩:=Lv hl;simp only [yB,yA,List.drop_zero,List.drop_succ_cons,List.take_succ_cons,List.take_zero] at h0 h1 h2;obtain ⟨a,b,e0,wa,wb⟩:=yC h0;obtain ⟨r,e1,-,wr⟩:=DataW.trod_string underlying9 h1;obtain ⟨c,d,e2,wc,wd⟩:=yC h2;simp at e0 e1 e2;obtain ⟨rfl,rfl⟩:=e0;obtain ⟨rfl,rfl⟩:=e2;subst e1;exact ⟨a,b,r,c,d,rfl,wa,wb,wr,wc,wd⟩
set_option maxRecDepth 100000 in
theorem Jw {H:Type} {enc:TypeId × Value→H} {W w:World} {r0:Reach} {b0 base:Nat} {sp:Nat→Bool} {held:Bool} {v:Value} {d0:DataW H} {p:List MemPlace}
  (hv:Value.okWide prog W r0 b0 28 v) (h:DataW.Trod enc prog w base sp held 28 v d0 p):∃ a b r c d:ByteArray,v=.agg #[.string a,.string b,.string r,.string c,.string d] ∧
   a.size≤maxLen∧b.size≤maxLen∧r.size≤maxLen∧c.size≤maxLen∧d.size≤maxLen:=by
 obtain ⟨cs,rfl,hsz⟩:=okWide_struct underlying28 hv;obtain ⟨fuel,hf⟩:=h;obtain ⟨a,b,r,c,d,e,hh⟩:=Ca hf;refine ⟨a,b,r,c,d,?_,hh⟩;simp only [Value.cells] at e;rw [← Array.toArray_toList (xs:=cs),e]
open Go.Deep
theorem yV.below {w w':World} {b off B:Nat} {ts:List Fc} (h:yV w b off ts) (hB:Below B w w') (hb:b < B):yV w' b off ts :=
 fun i hi=>(h i hi).same fun o=>hB.cell (p:=⟨b,o,none⟩) hb
theorem E9:∃ i z,prog.info? 42=some i∧i.zero=some z∧i.size=5∧i.bytes=80:=by
 obtain ⟨i,h0,h1,h2,h3⟩:=pG;exact ⟨i,_,h0,h1,h2,h3⟩
theorem GH (b off x:Nat):(⟨b,off,none⟩:Addr).add x=⟨b,off + x,none⟩:=by
 unfold Addr.add;by_cases h:x=0
 ·subst h; simp
 ·simp [h]
theorem Cb (b off cap:Nat) (ts:List Fc) (left:Int) (w:World) (hlen:ts.length≤maxLen) (hr:yV w b off ts) (hb:b < w.heap.size) (hf:∀ t ∈ ts,t.fits) (h0:0≤left) (h1:left≤1048576) :
  Calls prog 8 #[.slice (some ⟨b,off,none⟩) ts.length cap,.int .i64 left] w fun e w'=>(∃ n:Int,e=.returned (.int .i64 n)∧(n=-1 ∨ 0≤n∧n≤left∧ts.length≤left))∧Below w.heap.size w w':=by
 unfold maxLen at hlen;by_cases hneg:left - ts.length < 0
 ·go_enter func8,ntmps8;go_wp2;go_ret;exact ⟨⟨-1,rfl,.inl rfl⟩,Below.refl _ _⟩
 ·go_enter func8,ntmps8;go_wp2;go_loopw [1,5] (fun l i wr=>∃ (k:Nat) (x:Int),k≤ts.length∧i=.int .i64 k∧l=.int .i64 x∧0≤x∧x≤left∧Below w.heap.size w wr) (fun _ i _=>ts.length - (intOf i).toNat);case atStart=>exact ⟨0,_,Nat.zero_le _,rfl,rfl,by omega,by omega,Below.refl _ _⟩
  case round =>
   obtain ⟨k,x,hk,rfl,rfl,hx0,hx1,hB⟩:=hrel;by_cases hlt:k < ts.length
   ·obtain ⟨t0,t1,t2,t3,t4⟩:=(hr.below hB hb) k hlt;obtain ⟨f0,f1,f2,f3,f4⟩:=hf ts[k] (List.getElem_mem hlt);have hle:=BX ts[k].a ts[k].b ts[k].r ts[k].c ts[k].d x;go_wp2_with fail;refine (wu _ _ _ _ _ _ _ f0 f1 f2 f3 f4 hx0 (by omega)).mono ?_;rintro e w1 ⟨rfl,hb1⟩;by_cases hn:lh ts[k].a ts[k].b ts[k].r ts[k].c ts[k].d x < 0
    ·go_wp2;go_ret;exact ⟨⟨-1,rfl,.inl rfl⟩,hB.trans (hb1.mono hB.size)⟩
    ·go_wp2;go_roundw;case rel=>exact ⟨k + 1,_,by omega,by go_num,rfl,by omega,by omega,hB.trans (hb1.mono hB.size)⟩
     case measure=>simp [intOf]; omega
   ·go_wp2;go_ret;exact ⟨⟨x,rfl,.inr ⟨hx0,hx1,by omega⟩⟩,hB⟩
theorem Cc (ad:Option Addr) (cap:Nat) (left:Int) (w:World) (h0:0≤left) (h1:left≤1048576) :
  Calls prog 8 #[.slice ad 0 cap,.int .i64 left] w fun e w'=>(∃ n:Int,e=.returned (.int .i64 n)∧(n=-1 ∨ 0≤n∧n≤left∧(0:Nat)≤left))∧Below w.heap.size w w':=by
 go_enter func8,ntmps8;go_wp2;go_loopw [1,5] (fun l i wr=>∃ x:Int,l=.int .i64 x∧i=.int .i64 0∧0≤x∧x≤left∧Below w.heap.size w wr) (fun _ i _=>(intOf i).toNat);case atStart=>exact ⟨_,rfl,rfl,by omega,by omega,Below.refl _ _⟩
 case round =>
  obtain ⟨x,rfl,rfl,hx0,hx1,hB⟩:=hrel;go_wp2;go_ret;exact ⟨⟨x,rfl,.inr ⟨hx0,hx1,by omega⟩⟩,hB⟩
theorem Ce (ad:Option Addr) (cap:Nat) (ts:List Fc) (left:Int) (w:World) (hlen:ts.length≤maxLen) (hs:kC w ad ts) (hf:∀ t ∈ ts,t.fits) (h0:0≤left) (h1:left≤1048576) :
  Calls prog 8 #[.slice ad ts.length cap,.int .i64 left] w fun e w'=>(∃ n:Int,e=.returned (.int .i64 n)∧(n=-1 ∨ 0≤n∧n≤left∧ts.length≤left))∧Below w.heap.size w w':=by
 rcases hs with rfl | ⟨b,off,rfl,hb,hr⟩
 ·exact Cc ad cap left w h0 h1
 ·exact Cb b off cap ts left w hlen hr hb hf h0 h1
def ww (w:World) (g o:Nat) (t:Fc):World :=
 ((((w.setCell ⟨g,o,none⟩ (.string t.a)).setCell ⟨g,o + 1,none⟩ (.string t.b)).setCell ⟨g,o + 2,none⟩ (.string t.r)).setCell ⟨g,o + 3,none⟩ (.string t.c)).setCell ⟨g,o + 4,none⟩ (.string t.d)
theorem Cf (w:World) (g o:Nat) (t:Fc) (j:Nat) (h:j < o ∨ o + 5≤j):(ww w g o t).cell? ⟨g,j,none⟩=w.cell? ⟨g,j,none⟩:=by
 unfold ww;rw [dU (by omega),dU (by omega),dU (by omega),dU (by omega),dU (by omega)]
theorem Fa {w:World} {g o:Nat} (t:Fc) (h:∀ j,j < 5→(w.cell? ⟨g,o + j,none⟩).isSome=true):yU (ww w g o t) g o t:=by
 have e:∀ (W:World) (i j:Nat) (v:Value),(W.cell? ⟨g,o + j,none⟩).isSome=true→((W.setCell ⟨g,o + i,none⟩ v).cell? ⟨g,o + j,none⟩).isSome=true:=by
  intro W i j v hW;by_cases hij:i=j
  ·subst hij;obtain ⟨u,hu⟩:=Option.isSome_iff_exists.mp hW;rw [CS hu]; rfl
  ·rw [dU (by omega)]; exact hW
 have same:∀ (W:World) (j:Nat) (v:Value),(W.cell? ⟨g,o + j,none⟩).isSome=true→(W.setCell ⟨g,o + j,none⟩ v).cell? ⟨g,o + j,none⟩=some v:=by
  intro W j v hW;obtain ⟨u,hu⟩:=Option.isSome_iff_exists.mp hW;exact CS hu
 have h0:=h 0 (by omega);have h1:=h 1 (by omega);have h2:=h 2 (by omega);have h3:=h 3 (by omega);have h4:=h 4 (by omega);unfold ww yU;refine ⟨?_,?_,?_,?_,?_⟩
 ·rw [dU (by omega),dU (by omega),dU (by omega),dU (by omega)];exact same _ 0 _ h0
 ·rw [dU (by omega),dU (by omega),dU (by omega)];exact same _ 1 _ (e _ 0 1 _ h1)
 ·rw [dU (by omega),dU (by omega)];exact same _ 2 _ (e _ 1 2 _ (e _ 0 2 _ h2))
 ·rw [dU (by omega)];exact same _ 3 _ (e _ 2 3 _ (e _ 1 3 _ (e _ 0 3 _ h3)))
 ·exact same _ 4 _ (e _ 3 4 _ (e _ 2 4 _ (e _ 1 4 _ (e _ 0 4 _ h4))))
theorem Cg (w:World) (g o:Nat) (t:Fc) (x:Addr):(ww w g o t).frozen? x=w.frozen? x:=by simp [ww]
theorem Em {B:Nat} {w0 w:World} {g o:Nat} {t:Fc} (h:Below B w0 w) (hg:B≤g):Below B w0 (ww w g o t):=by
 unfold ww;exact ((((h.setCell (by exact hg) _).setCell (by exact hg) _).setCell (by exact hg) _).setCell (by exact hg) _).setCell (by exact hg) _
theorem GI (w:World) (g o:Nat) (t:Fc):(ww w g o t).heap.size=w.heap.size:=by simp [ww]
structure FillF (w wr:World) (g:Nat) (ts:List Fc) (k:Nat):Prop where
 below:Below w.heap.size w wr
 ge:w.heap.size≤g
 lt:g < wr.heap.size
 done:∀ (i:Nat) (h:i < ts.length),i < k→yU wr g (0 + i * 5) ts[i]
 there:∀ j,j < ts.length * 5→(wr.cell? ⟨g,j,none⟩).isSome=true
 free:∀ j,wr.frozen? ⟨g,j,none⟩=false
theorem FillF.later {w wr w1:World} {g:Nat} {ts:List Fc} {k:Nat} (h:FillF w wr g ts k) (hb:Below wr.heap.size wr w1):FillF w w1 g ts k where
 below:=h.below.trans (hb.mono h.below.size)
 ge:=h.ge
 lt:=Nat.lt_of_lt_of_le h.lt hb.size
 done i hi hk:=(h.done i hi hk).same fun o=>hb.cell (p:=⟨g,o,none⟩) h.lt
 there j hj:=by rw [hb.cell (p:=⟨g,j,none⟩) h.lt]; exact h.there j hj
 free j:=by rw [hb.frozen (p:=⟨g,j,none⟩) h.lt]; exact h.free j
theorem FillF.put {w wr:World} {g:Nat} {ts:List Fc} {k:Nat} (h:FillF w wr g ts k) (hk:k < ts.length):FillF w (ww wr g (k * 5) ts[k]) g ts (k + 1) where
 below:=Em h.below h.ge
 ge:=h.ge
 lt:=by rw [GI]; exact h.lt
 done i hi hik:=by
  by_cases e:i=k
  ·subst e;rw [Nat.zero_add];exact Fa _ (fun j hj=>h.there _ (by omega))
  ·obtain ⟨a0,a1,a2,a3,a4⟩:=h.done i hi (by omega);refine ⟨?_,?_,?_,?_,?_⟩ <;> (rw [Cf _ _ _ _ _ (by omega)]; assumption)
 there j hj:=by
  by_cases hin:j < k * 5 ∨ k * 5 + 5≤j
  ·rw [Cf _ _ _ _ _ hin]; exact h.there j hj
  ·obtain ⟨a0,a1,a2,a3,a4⟩:=Fa (w:=wr) (g:=g) (o:=k * 5) ts[k] (fun j hj=>h.there _ (by omega));have hj6:j=k * 5 ∨ j=k * 5 + 1 ∨ j=k * 5 + 2 ∨ j=k * 5 + 3 ∨ j=k * 5 + 4:=by omega
   rcases hj6 with e | e | e | e | e
   ·rw [e,a0]; rfl
   ·rw [e,a1]; rfl
   ·rw [e,a2]; rfl
   ·rw [e,a3]; rfl
   ·rw [e,a4]; rfl
 free j:=by rw [Cg]; exact h.free j
theorem wy {w w0:World} {ts:List Fc} {base:Nat} {e:TypeId} {xs:List Value} (h:w0.ownsRow base e 5 (.slice (some ⟨w.heap.size,0,none⟩) ts.length ts.length) ts.length xs) (hg:w.grownBy w0 none):FillF w w0 w.heap.size ts 0 where
 below:=(Below.refl _ _).grown hg (Nat.le_refl _) (fun k hk=>by cases hk)
 ge:=Nat.le_refl _
 lt:=(h.lt w.heap.size rfl).2
 done i hi hk:=absurd hk (Nat.not_lt_zero _)
 there j hj:=by
  rw [h.cellAt j hj,List.getElem?_eq_getElem (by rw [h.1]; exact hj)]; rfl
 free j:=h.frozenAt j
theorem Ch (b off cap:Nat) (ts:List Fc) (w:World) (hlen:ts.length≤1048576) (hr:yV w b off ts) (hb:b < w.heap.size) :
  Calls prog 13 #[.slice (some ⟨b,off,none⟩) ts.length cap] w fun e w'=>e=.returned (.slice (some ⟨w.heap.size,0,none⟩) ts.length ts.length)∧FillF w w' w.heap.size ts ts.length:=by
 obtain ⟨inf,z,hi,hz0,hz1,hz2⟩:=E9;go_enter func13,ntmps13;go_wp2_with (at_make; refine wpList_make_full _ rfl _ _ 38 rfl w.heap.size 42 inf z 5 underlying38 hi hz0 hz1 .i64 .i64 _ _ ts.length rfl rfl rfl rfl (by rw [hz2]; omega) (by unfold maxLen; omega) (Nat.le_refl _) ?_; intro w0 hown0 hgrow0);have F0:FillF w w0 w.heap.size ts 0:=wy hown0 hgrow0;clear hown0 hgrow0 hi hz0 hz1 hz2;go_loopw [4] (fun i wr=>∃ k:Nat,k≤ts.length∧i=.int .i64 k∧FillF w wr w.heap.size ts k) (fun i _=>ts.length - (intOf i).toNat);case atStart=>exact ⟨0,Nat.zero_le _,rfl,F0⟩
 case round =>
  obtain ⟨k,hk,rfl,F⟩:=hrel;by_cases hlt:k < ts.length
  ·obtain ⟨t0,t1,t2,t3,t4⟩:=(hr.below F.below hb) k hlt;go_wp2_with fail;refine (oM _ _ _ _ _ _).mono ?_;rintro e w1 ⟨rfl,hb1⟩;have F1:=F.later hb1;have fz:=F1.free;obtain ⟨v0,u0⟩:=Option.isSome_iff_exists.mp (F1.there (k * 5) (by omega));obtain ⟨v1,u1⟩:=Option.isSome_iff_exists.mp (F1.there (k * 5 + 1) (by omega));obtain ⟨v2,u2⟩:=Option.isSome_iff_exists.mp (F1.there (k * 5 + 2) (by omega));obtain ⟨v3,u3⟩:=Option.isSome_iff_exists.mp (F1.there (k * 5 + 3) (by omega));obtain ⟨v4,u4⟩:=Option.isSome_iff_exists.mp (F1.there (k * 5 + 4) (by omega));have F2:=F1.put hlt;clear F F0 t0 t1 t2 t3 t4 hb1;go_wp2;go_roundw;case rel=>exact ⟨k + 1,by omega,by go_num,F2⟩
   case measure=>simp [intOf]; omega
  ·obtain rfl:k=ts.length:=by omega
   go_wp2;go_ret;exact ⟨rfl,F⟩
theorem Ci (ad:Option Addr) (cap:Nat) (w:World) :
  Calls prog 13 #[.slice ad 0 cap] w fun e w'=>e=.returned (.slice (some ⟨w.heap.size,0,none⟩) 0 0)∧FillF w w' w.heap.size [] 0:=by
 obtain ⟨inf,z,hi,hz0,hz1,hz2⟩:=E9;go_enter func13,ntmps13;go_wp2_with (at_make; refine wpList_make_full _ rfl _ _ 38 rfl w.heap.size 42 inf z 5 underlying38 hi hz0 hz1 .i64 .i64 _ _ 0 rfl rfl rfl rfl (by omega) (by unfold maxLen; omega) (Nat.le_refl _) ?_; intro w0 hown0 hgrow0);have F0:FillF w w0 w.heap.size [] 0:=wy (ts:=[]) hown0 hgrow0;clear hown0 hgrow0 hi hz0 hz1 hz2;go_loopw [4] (fun i wr=>∃ k:Nat,k=0∧i=.int .i64 k∧FillF w wr w.heap.size [] 0) (fun i _=>(intOf i).toNat);case atStart=>exact ⟨0,rfl,rfl,F0⟩
 case round =>
  obtain ⟨k,rfl,rfl,F⟩:=hrel;go_wp2;go_ret;exact ⟨rfl,F⟩
theorem mJ (ad:Option Addr) (cap:Nat) (ts:List Fc) (w:World) (hlen:ts.length≤1048576) (hs:kC w ad ts) :
  Calls prog 13 #[.slice ad ts.length cap] w fun e w'=>e=.returned (.slice (some ⟨w.heap.size,0,none⟩) ts.length ts.length)∧FillF w w' w.heap.size ts ts.length:=by
 rcases hs with rfl | ⟨b,off,rfl,hb,hr⟩
 ·exact Ci ad cap w
 ·exact Ch b off cap ts w hlen hr hb
theorem FillF.row {w w':World} {g:Nat} {ts:List Fc} (h:FillF w w' g ts ts.length):yV w' g 0 ts:=fun i hi=>h.done i hi hi
theorem FillF.sl {w w':World} {g:Nat} {ts:List Fc} (h:FillF w w' g ts ts.length):kC w' (some ⟨g,0,none⟩) ts:=.inr ⟨g,0,rfl,h.lt,h.row⟩
theorem GJ {H:Type} {enc:TypeId × Value→H} {W:World} {base:Nat} {sp:Nat→Bool} {held:Bool} {fuel:Nat} {ad:Option Addr} {len cap:Nat} {x:DataW H × List MemPlace}
  (h:DataW.trod enc prog W base sp held fuel 24 [.slice ad len cap]=some x):∃ ts:List Fc,ts.length=len∧kC W ad ts∧(∀ t ∈ ts,t.fits)∧len≤maxLen:=by
 rcases open_slice underlying24 h with ⟨hcs,-⟩ | ⟨a,l,c,m,n,D,Pl,hcs,-,hlc,hcm,hm,-,hel⟩
 ·simp at hcs;obtain ⟨rfl,rfl,rfl⟩:=hcs;exact ⟨[],rfl,.inl rfl,(fun t ht=>by cases ht),by unfold maxLen; omega⟩
 ·simp at hcs;obtain ⟨rfl,rfl,rfl⟩:=hcs;have hle:len≤m:=by rw [hm]; split <;> omega
  by_cases h0:len=0
  ·subst h0;exact ⟨[],rfl,.inl rfl,(fun t ht=>by cases ht),by omega⟩
  have key:∀ i,i < len→∃ t:Fc,(∀ j,j < 5→W.cell? ((a.add (i * 5)).add j)=[Value.string t.a,.string t.b,.string t.r,.string t.c,.string t.d][j]?)∧t.fits:=by
   intro i hi;obtain ⟨cs',hc,hd⟩:=hel i (by omega);rw [BZ] at hc;obtain ⟨ta,tb,tr,tc,td,rfl,hh⟩:=Ca hd;exact ⟨⟨ta,tb,tr,tc,td⟩,fun j hj=>(World.cells?_some hc).2.2 j hj,hh⟩
  have hspot:a.spot=none:=by
   obtain ⟨t,ht,-⟩:=key 0 (by omega);have:=ht 0 (by omega);have e:(a.add (0 * 5)).add 0=a:=by simp [Addr.add]
   rw [e] at this;exact World.cell?_spot this
  obtain ⟨b,off,spot⟩:=a;simp only at hspot;subst hspot;obtain ⟨f,hf⟩:=@choose_lt Fc ⟨⟨⟨#[]⟩,⟨#[]⟩,⟨#[]⟩,⟨#[]⟩,⟨#[]⟩⟩⟩ len _ key;have at5:∀ i,i < len→yU W b (off + i * 5) (f i):=by
   intro i hi;obtain ⟨hc,-⟩:=hf i hi;simp only [GH] at hc;exact ⟨hc 0 (by omega),hc 1 (by omega),hc 2 (by omega),hc 3 (by omega),hc 4 (by omega)⟩
  refine ⟨(List.range len).map f,by simp,.inr ⟨b,off,rfl,?_,?_⟩,?_,by omega⟩
  ·exact World.block_lt_of_cell? W ⟨b,off + 0 * 5,none⟩ (at5 0 (by omega)).1
  ·intro i hi;have hi':i < len:=by simpa using hi
   simpa using at5 i hi'
  ·intro t ht;simp only [List.mem_map,List.mem_range] at ht;obtain ⟨i,hi,rfl⟩:=ht;exact (hf i hi).2
theorem KA {w W w':World} {n m i0 i1 i2 i3 i4 j0 j1 j2 j3 j4:Nat} {x0 x1 x2 x3 x4 y0 y1 y2 y3 y4:Value} (h:W.cell? ⟨n,i0,none⟩=some x0∧W.cell? ⟨n,i1,none⟩=some x1∧W.cell? ⟨n,i2,none⟩=some x2∧W.cell? ⟨n,i3,none⟩=some x3∧W.cell? ⟨n,i4,none⟩=some x4∧W.cell? ⟨m,j0,none⟩=some y0∧W.cell? ⟨m,j1,none⟩=some y1∧W.cell? ⟨m,j2,none⟩=some y2∧W.cell? ⟨m,j3,none⟩=some y3∧W.cell? ⟨m,j4,none⟩=some y4∧Below w.heap.size w W) (hb:Below W.heap.size W w'):w'.cell? ⟨n,i0,none⟩=some x0∧w'.cell? ⟨n,i1,none⟩=some x1∧w'.cell? ⟨n,i2,none⟩=some x2∧w'.cell? ⟨n,i3,none⟩=some x3∧w'.cell? ⟨n,i4,none⟩=some x4∧w'.cell? ⟨m,j0,none⟩=some y0∧w'.cell? ⟨m,j1,none⟩=some y1∧w'.cell? ⟨m,j2,none⟩=some y2∧w'.cell? ⟨m,j3,none⟩=some y3∧w'.cell? ⟨m,j4,none⟩=some y4∧Below w.heap.size w w':=by
 obtain ⟨h0,h1,h2,h3,h4,k0,k1,k2,k3,k4,hB⟩:=h;exact ⟨aC hb (ay h0) h0,aC hb (ay h1) h1,aC hb (ay h2) h2,aC hb (ay h3) h3,aC hb (ay h4) h4,aC hb (ay k0) k0,aC hb (ay k1) k1,aC hb (ay k2) k2,aC hb (ay k3) k3,aC hb (ay k4) k4,hB.trans (hb.mono hB.size)⟩
theorem Cj (a b r c d:ByteArray) (w:World) :
  Calls prog 44 #[.agg #[.string a,.string b,.string r,.string c,.string d],.agg #[.string a,.string b,.string r,.string c,.string d]] w fun e w'=>e=.returned (.bool true)∧Below w.heap.size w w':=by
 go_enter func44,ntmps44;go_wp2_with fail;refine (ib _ _ _).mono ?_;rintro e w1 ⟨rfl,hb1⟩;obtain ⟨hc1,hf1⟩:=dH hb1;have hz1:w.heap.size + 1 < w1.heap.size:=by have:=hb1.size; simp at this; omega
 have hy1:w.heap.size < w1.heap.size:=by omega
 have HB1:Below w.heap.size w w1:=(((Below.refl _ _).alloc (Nat.le_refl _) _).alloc (by simp) _).trans (hb1.mono (by simp; omega));go_wp2_with fail;refine (ib _ _ _).mono ?_;rintro e w2 ⟨rfl,hb2⟩;obtain ⟨hc2,hf2⟩:=dH hb2;have hz2:w.heap.size + 1 < w2.heap.size:=by have:=hb2.size; omega
 have hy2:w.heap.size < w2.heap.size:=by omega
 go_wp2;go_ret;exact ⟨rfl,HB1.trans (hb2.mono (by omega))⟩
theorem zT (ad ad':Option Addr) (cap cap':Nat) (w:World) :
  Calls prog 18 #[.slice ad 0 cap,.slice ad' 0 cap'] w fun e w'=>e=.returned (.bool true)∧Below w.heap.size w w':=by
 go_enter func18,ntmps18;go_wp2;refine wp_loop_rounds 1 ?_;rw [rounds_succ];go_wp2;go_ret;exact ⟨rfl,Below.refl _ _⟩
theorem zU (b b' off off' cap cap':Nat) (ts:List Fc) (w:World) (hlen:ts.length≤maxLen) (hr:yV w b off ts) (hb:b < w.heap.size) (hr':yV w b' off' ts) (hb':b' < w.heap.size) :
  Calls prog 18 #[.slice (some ⟨b,off,none⟩) ts.length cap,.slice (some ⟨b',off',none⟩) ts.length cap'] w fun e w'=>e=.returned (.bool true)∧Below w.heap.size w w':=by
 unfold maxLen at hlen;have HR:=ah hr;have HR':=ah hr';clear hr hr';go_enter func18,ntmps18;go_wp2;go_loopw [5] (fun i wr=>∃ k:Nat,k≤ts.length∧i=.int .i64 k∧Hid (Below w.heap.size w wr)) (fun i _=>ts.length - (intOf i).toNat);case atStart=>exact ⟨0,Nat.zero_le _,rfl,Below.refl _ _⟩
 case round =>
  obtain ⟨k,hk,rfl,HB⟩:=hrel;by_cases hlt:k < ts.length
  ·have h1:=(HR.out k hlt).same (fun o=>HB.out.cell (p:=⟨b,o,none⟩) hb);have h2:=(HR'.out k hlt).same (fun o=>HB.out.cell (p:=⟨b',o,none⟩) hb');obtain ⟨x,hx⟩:∃ x,ts[k]=x:=⟨_,rfl⟩;rw [hx] at h1 h2;obtain ⟨s0,s1,s2,s3,s4⟩:=h1;obtain ⟨y0,y1,y2,y3,y4⟩:=h2;clear hx;have hk1:=bf k;have hk2:(k:Int) < (ts.length:Int):=by omega
   have hbp:=HB.out;have hbr:b < wr.heap.size:=ay s0;have hbr':b' < wr.heap.size:=ay y0;go_wp2_with fail
   go_region_held3 (fun w'=>w'.cell? ⟨b,off + k * 5,none⟩=some (.string x.a)∧w'.cell? ⟨b,off + k * 5 + 1,none⟩=some (.string x.b)∧w'.cell? ⟨b,off + k * 5 + 2,none⟩=some (.string x.r)∧w'.cell? ⟨b,off + k * 5 + 3,none⟩=some (.string x.c)∧w'.cell? ⟨b,off + k * 5 + 4,none⟩=some (.string x.d)∧w'.cell? ⟨b',off' + k * 5,none⟩=some (.string x.a)∧w'.cell? ⟨b',off' + k * 5 + 1,none⟩=some (.string x.b)∧w'.cell? ⟨b',off' + k * 5 + 2,none⟩=some (.string x.r)∧w'.cell? ⟨b',off' + k * 5 + 3,none⟩=some (.string x.c)∧w'.cell? ⟨b',off' + k * 5 + 4,none⟩=some (.string x.d)∧Below w.heap.size w w')
    (first | assumption | exact KA (by assumption) hbx | exact ⟨s0,s1,s2,s3,s4,y0,y1,y2,y3,y4,hbp.drew⟩)
    (first | (go_at_call 44; refine (Cj _ _ _ _ _ _).mono ?_; rintro e w' ⟨rfl,hbx⟩))
   rename_i hJ;have HJB:=ah hJ.2.2.2.2.2.2.2.2.2.2;clear hJ s0 s1 s2 s3 s4 y0 y1 y2 y3 y4;go_wp2;go_roundw;case rel=>exact ⟨k + 1,by omega,by go_num,HJB⟩
   case measure=>simp [intOf] <;> omega
  ·go_wp2;go_ret;exact ⟨rfl,HB.out⟩
theorem Ck (ad ad':Option Addr) (cap cap':Nat) (ts:List Fc) (w:World) (hlen:ts.length≤maxLen) (hs:kC w ad ts) (hs':kC w ad' ts) :
  Calls prog 18 #[.slice ad ts.length cap,.slice ad' ts.length cap'] w fun e w'=>e=.returned (.bool true)∧Below w.heap.size w w':=by
 by_cases h:ts=[]
 ·subst h; exact zT ad ad' cap cap' w
 ·rcases hs with h1 | ⟨b,off,rfl,hb,hr⟩
  ·exact absurd h1 h
  rcases hs' with h1 | ⟨b',off',rfl,hb',hr'⟩
  ·exact absurd h1 h
  exact zU b b' off off' cap cap' ts w hlen hr hb hr' hb'
end Go.Proofs.YtdaoiceeidoehaaGreat
