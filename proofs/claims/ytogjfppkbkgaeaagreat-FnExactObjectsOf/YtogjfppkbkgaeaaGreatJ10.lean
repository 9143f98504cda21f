/- Contract of the document's l4Sort: facts by their order, in a new row. -/
import Derived.Test.YtogjfppkbkgaeaaGreatJ8
import Derived.Test.YtogjfppkbkgaeaaGreatJ9
import Derived.Test.YtogjfppkbkgaeaaGreatJ3
import Derived.BigQuiet
import Derived.WideKeyEntry
namespace Go.Proofs.YtogjfppkbkgaeaaGreat
set_option maxRecDepth 100000
set_option linter.unusedVariables false
open Go.ChangeShapes Go.WideShapes Go.ChangeAt Go.RowKit Go.Maps
open Pl
def kH (x y:Fc):Bool:=dx x.a x.b x.r x.c x.d ⟨#[]⟩ y.a y.b y.r y.c y.d ⟨#[]⟩
theorem kI {w w':World} {base:Nat} {e:TypeId} {size:Nat} {v:Value} {n:Nat} {xs:List Value} (h:w.ownsRow base e size v n xs) (hh:∀ g,v.ownBlock=some g→w'.heap[g]?=w.heap[g]?):w'.ownsRow base e size v n xs:=by
 refine ⟨h.1,?_⟩;rcases h.2 with hl | ⟨g,cap,cur,rfl,h1,h2,h3⟩
 ·exact .inl hl
 ·exact .inr ⟨g,cap,cur,rfl,h1,(hh g rfl).trans h2,h3⟩
theorem vW {w:World} {base size n:Nat} {e:TypeId} {v:Value} {xs:List Value} (h:w.ownsRow base e size v n xs):∃ ad cap,v=.slice ad n cap:=by
 rcases h.2 with ⟨rfl,h0⟩ | ⟨g,cap,cur,rfl,-⟩
 ·exact ⟨none,0,by rw [h0]⟩
 ·exact ⟨_,_,rfl⟩
theorem rq {w:World} {base size n cap:Nat} {e:TypeId} {ad:Option Addr} {xs:List Value} (h:w.ownsRow base e size (.slice ad n cap) n xs) (hn:n ≠ 0):∃ g,ad=some ⟨g,0,none⟩∧(Value.slice ad n cap).ownBlock=some g:=by
 rcases h.2 with ⟨-,h0⟩ | ⟨g,cap',cur,e1,-⟩
 ·exact absurd h0 hn
 ·injection e1 with e1;exact ⟨g,e1,by rw [e1]; rfl⟩
theorem jm {w:World} {base base' size n:Nat} {e:TypeId} {v:Value} {xs:List Value} (h:w.ownsRow base e size v n xs) (hb:base'≤base):w.ownsRow base' e size v n xs:=by
 refine ⟨h.1,?_⟩;rcases h.2 with hl | ⟨g,cap,cur,e,h1,h2⟩
 ·exact .inl hl
 ·exact .inr ⟨g,cap,cur,e,Nat.le_trans hb h1,h2⟩
theorem KO {w:World} {base size n cap:Nat} {e:TypeId} {ad:Option Addr} {xs:List Value} (h:w.ownsRow base e size (.slice ad n cap) n xs):n≤cap:=by
 rcases h.2 with ⟨e1,h0⟩ | ⟨g,cap',cur,e1,-,-,hnc,-⟩
 ·injection e1 with _ e2 e3; omega
 ·injection e1 with _ e2 e3; omega
theorem D7 (xs:List Fc):∀ p,aB (xs.take p)=(aB xs).take (p * 5):=by
 induction xs with
 | nil=>intro p; simp [aB]
 | cons x xs ih =>
  intro p;cases p with
  | zero=>simp [aB]
  | succ p =>
   have ih:=ih p;unfold aB at ih ⊢;rw [List.take_succ_cons,List.flatMap_cons,List.flatMap_cons,ih,show (p + 1) * 5=p * 5 + 1 + 1 + 1 + 1 + 1 by omega];simp [Fc.row]
theorem D8 (xs:List Fc):∀ p,aB (xs.drop p)=(aB xs).drop (p * 5):=by
 induction xs with
 | nil=>intro p; simp [aB]
 | cons x xs ih =>
  intro p;cases p with
  | zero=>simp [aB]
  | succ p =>
   have ih:=ih p;unfold aB at ih ⊢;rw [List.drop_succ_cons,List.flatMap_cons,ih,show (p + 1) * 5=p * 5 + 1 + 1 + 1 + 1 + 1 by omega];simp [Fc.row]
theorem vX {w:World} {base g n cap:Nat} {xs:List Fc} (h:w.ownsRow base 47 5 (.slice (some ⟨g,0,none⟩) n cap) n (aB xs)) (p:Nat) (hp:p≤n):∀ j u,(aB (xs.take p))[j]?=some u→w.cell? ((⟨g,0,none⟩:Addr).add j)=some u:=fun j u hu=>by
 rw [D7,List.getElem?_take] at hu;split at hu
 ·rename_i hj;have:=h.cellAt j (by omega);rw [hu] at this;have e:(⟨g,0,none⟩:Addr).add j=⟨g,j,none⟩:=by unfold Addr.add; split <;> simp_all
  rw [e]; exact this
 ·cases hu
theorem D9 {w:World} {base g n cap:Nat} {xs:List Fc} (h:w.ownsRow base 47 5 (.slice (some ⟨g,0,none⟩) n cap) n (aB xs)) (p:Nat) (hp:p≤n):∀ j u,(aB (xs.drop p))[j]?=some u→w.cell? ((⟨g,p * 5,none⟩:Addr).add j)=some u:=fun j u hu=>by
 rw [D8,List.getElem?_drop] at hu;have hl:=h.1;have hj:p * 5 + j < n * 5:=by
  rw [← hl]; exact (List.getElem?_eq_some_iff.1 hu).1
 have:=h.cellAt (p * 5 + j) hj;rw [hu] at this;have e:(⟨g,p * 5,none⟩:Addr).add j=⟨g,p * 5 + j,none⟩:=by unfold Addr.add; split <;> simp_all
 rw [e]; exact this
theorem qg (xs:List Fc):∀ u ∈ aB xs,u.oneCell'=true:=fun u hu=>by
 obtain ⟨q,-,h⟩:=List.mem_flatMap.1 hu;simp only [Fc.row,List.mem_cons,List.not_mem_nil,or_false] at h;rcases h with rfl | rfl | rfl | rfl | rfl <;> rfl
theorem Ea {w:World} {a:Addr} {xs:List Fc} (h:xs=[]):∀ j u,(aB xs)[j]?=some u→w.cell? (a.add j)=some u:=fun j u hu=>by
 rw [h] at hu; simp [aB] at hu
theorem FE {w W w':World} {n m i0 i1 i2 i3 i4 j0 j1 j2 j3 j4:Nat} {x0 x1 x2 x3 x4 y0 y1 y2 y3 y4:Value} (h:W.cell? ⟨n,i0,none⟩=some x0∧W.cell? ⟨n,i1,none⟩=some x1∧W.cell? ⟨n,i2,none⟩=some x2∧W.cell? ⟨n,i3,none⟩=some x3∧W.cell? ⟨n,i4,none⟩=some x4∧W.cell? ⟨m,j0,none⟩=some y0∧W.cell? ⟨m,j1,none⟩=some y1∧W.cell? ⟨m,j2,none⟩=some y2∧W.cell? ⟨m,j3,none⟩=some y3∧W.cell? ⟨m,j4,none⟩=some y4∧Below w.heap.size w W) (hb:Below W.heap.size W w'):w'.cell? ⟨n,i0,none⟩=some x0∧w'.cell? ⟨n,i1,none⟩=some x1∧w'.cell? ⟨n,i2,none⟩=some x2∧w'.cell? ⟨n,i3,none⟩=some x3∧w'.cell? ⟨n,i4,none⟩=some x4∧w'.cell? ⟨m,j0,none⟩=some y0∧w'.cell? ⟨m,j1,none⟩=some y1∧w'.cell? ⟨m,j2,none⟩=some y2∧w'.cell? ⟨m,j3,none⟩=some y3∧w'.cell? ⟨m,j4,none⟩=some y4∧Below w.heap.size w w':=by
 obtain ⟨h0,h1,h2,h3,h4,k0,k1,k2,k3,k4,hB⟩:=h;exact ⟨aG hb (av h0) h0,aG hb (av h1) h1,aG hb (av h2) h2,aG hb (av h3) h3,aG hb (av h4) h4,aG hb (av k0) k0,aG hb (av k1) k1,aG hb (av k2) k2,aG hb (av k3) k3,aG hb (av k4) k4,hB.trans (hb.mono hB.size)⟩
set_option maxHeartbeats 8000000 in
theorem Eb (ad:Option Addr) (cap:Nat) (rows:List Fc) (w:World) (hlen:rows.length≤1048576) (hs:qZ w ad rows) (hfit:∀ x ∈ rows,x.fits) :
  Calls Tryz.prog 36 #[.slice ad rows.length cap] w fun e w'=>(∃ v:Value,e=.returned v∧w'.ownsRow w.heap.size 47 5 v rows.length (aB (iW kH rows)))∧Below w.heap.size w w':=by
 obtain ⟨iR,hiR,zR0,zR1,zR2⟩:=Ae;have HIR:Hid (Tryz.prog.info? 47=some iR∧iR.zero=some (.agg #[.string ⟨#[]⟩,.string ⟨#[]⟩,.string ⟨#[]⟩,.string ⟨#[]⟩,.string ⟨#[]⟩])∧iR.size=5∧iR.bytes=80):=⟨hiR,zR0,zR1,zR2⟩;have HS:=az hs;have HFT:=az hfit;clear hs hfit hiR zR0 zR1 zR2;obtain ⟨W0,hW0⟩:∃ W0,W0=w.alloc (.cells #[] 47):=⟨_,rfl⟩;have HB0:Hid (Below w.heap.size w W0):=by show Below _ _ _; rw [hW0]; exact (Below.refl _ _).alloc (Nat.le_refl _) _
 have HO0:Hid (W0.ownsRow w.heap.size 47 5 (.slice (some ⟨w.heap.size,0,none⟩) 0 0) 0 []):=by
  show World.ownsRow _ _ _ _ _ _ _;rw [hW0];exact World.ownsRow_lit w #[] 0 (Nat.le_refl _) (by unfold maxLen; omega) (by simp)
 go_enter Tryz.func36,Tryz.ntmps36;go_wp2_with fail;rw [← hW0];clear hW0;go_loopw [3,4] (fun v i wr=>∃ (k g c:Nat),k≤rows.length∧i=.int .i64 k∧v=.slice (some ⟨g,0,none⟩) k c∧Hid (wr.ownsRow w.heap.size 47 5 (.slice (some ⟨g,0,none⟩) k c) k (aB (iW kH (rows.take k))))∧Hid (Below w.heap.size w wr)) (fun _ i _=>rows.length - (intOf i).toNat);case atStart=>exact ⟨0,w.heap.size,0,Nat.zero_le _,rfl,rfl,HO0,HB0⟩
 case round =>
  clear HO0 HB0;obtain ⟨k,g,c,hk,rfl,rfl,HO,HB⟩:=hrel;by_cases hlt:k < rows.length
  ·obtain ⟨acc,hacc⟩:∃ acc,acc=iW kH (rows.take k):=⟨_,rfl⟩;obtain ⟨b,off,hadr,hrow,hbl⟩:∃ b off,ad=some ⟨b,off,none⟩∧GH w b (off + k * 5) rows[k]∧b < w.heap.size:=by
    rcases HS.out with h | ⟨b',off',e,hb,hr⟩
    ·rw [h] at hlt; simp at hlt
    ·exact ⟨b',off',e,hr k hlt,hb⟩
   obtain ⟨x,hx⟩:∃ x,rows[k]=x:=⟨_,rfl⟩;have HNX:Hid (iW kH (rows.take (k + 1))=mP kH x acc):=by show _=_; rw [List.take_succ_eq_append_getElem hlt,DZ,hacc,hx]
   have hal:acc.length=k:=by rw [hacc,(iG _).length_eq,List.length_take]; omega
   have HXF:Hid x.fits:=by show Fc.fits x; rw [← hx]; exact HFT.out _ (List.getElem_mem hlt)
   have HAF:Hid (∀ z ∈ acc,z.fits):=fun z hz=>by
    rw [hacc] at hz;exact HFT.out z (List.mem_of_mem_take ((iG _).mem_iff.1 hz))
   rw [← hacc] at HO;rw [hx] at hrow;have HAL:=az hal;have hkc:k≤c:=KO HO.out;have hk1:(0:Int)≤(k:Int):=by omega
   have hk2:(k:Int) < (rows.length:Int):=by omega
   have HROW:=az hrow;have HBL:=az hbl;obtain ⟨wo,hwo⟩:∃ wo,wo=wr:=⟨_,rfl⟩;subst hwo;subst hadr;clear hacc hal hrow hbl hx;go_wp2_with fail;go_loopw [5] (fun i wr=>∃ p:Nat,p≤k∧i=.int .i64 p∧Hid (∀ (i:Nat) (h:i < acc.length),i < p→kH acc[i] x=true)∧Hid (Below wo.heap.size wo wr)) (fun i _=>k - (intOf i).toNat);case atStart=>exact ⟨0,Nat.zero_le _,rfl,fun i h hi=>absurd hi (Nat.not_lt_zero _),Below.refl _ _⟩
   case round =>
    obtain ⟨p,hp,rfl,HU,HBP⟩:=hrel;have HOP:Hid (wr.ownsRow w.heap.size 47 5 (.slice (some ⟨g,0,none⟩) k c) k (aB acc)):=kI HO.out fun z hz=>HBP.out.block z (HO.out.lt z hz).2;have HBWP:Hid (Below w.heap.size w wr):=HB.out.trans (HBP.out.mono HB.out.size);obtain ⟨y0,y1,y2,y3,y4⟩:=HROW.out.same (fun o=>HBWP.out.cell (p:=⟨b,o,none⟩) HBL.out);have hbr:b < wr.heap.size:=Nat.lt_of_lt_of_le HBL.out HBWP.out.size;have hgr:g < wr.heap.size:=(HOP.out.lt g rfl).2;have hp1:(0:Int)≤(p:Int):=by omega
    by_cases hpk:p < k
    ·have hp2:(p:Int) < (k:Int):=by omega
     have hd:decide ((p:Int) < (k:Int))=true:=by simp; omega
     have hpa:p < acc.length:=by rw [HAL.out]; exact hpk
     obtain ⟨y,hy⟩:∃ y,acc[p]=y:=⟨_,rfl⟩;have hc5:∀ c,c < 5→wr.cell? ⟨g,p * 5 + c,none⟩=y.row[c]?:=fun c hc=>by
      rw [HOP.out.cellAt (p * 5 + c) (by omega),mJ acc p hpa c hc,hy]
     have s0:wr.cell? ⟨g,p * 5,none⟩=some (.string y.a):=hc5 0 (by omega);have s1:wr.cell? ⟨g,p * 5 + 1,none⟩=some (.string y.b):=hc5 1 (by omega);have s2:wr.cell? ⟨g,p * 5 + 2,none⟩=some (.string y.r):=hc5 2 (by omega);have s3:wr.cell? ⟨g,p * 5 + 3,none⟩=some (.string y.c):=hc5 3 (by omega);have s4:wr.cell? ⟨g,p * 5 + 4,none⟩=some (.string y.d):=hc5 4 (by omega);have hyf:y.fits:=by rw [← hy]; exact HAF.out _ (List.getElem_mem hpa)
     have HC:Hid (∀ W':World,Calls Tryz.prog 56 #[.agg #[.string y.a,.string y.b,.string y.r,.string y.c,.string y.d],.agg #[.string x.a,.string x.b,.string x.r,.string x.c,.string x.d]] W' fun e w'=>e=.returned (.bool (kH y x))∧Below W'.heap.size W' w'):=fun W'=>qd _ _ _ _ _ _ _ _ _ _ W' hyf.1 hyf.2.1 hyf.2.2.1 hyf.2.2.2.1 hyf.2.2.2.2 HXF.out.1 HXF.out.2.1 HXF.out.2.2.1 HXF.out.2.2.2.1 HXF.out.2.2.2.2;clear hc5 hyf;have HYE:=az hy;clear hy;have hbp:=HBP.out;cases hq:kH y x with
     | true =>
      have HU2:Hid (∀ (i:Nat) (h:i < acc.length),i < p + 1→kH acc[i] x=true):=fun i h hi=>by
       by_cases e:i=p
       ·subst e; rw [HYE.out]; exact hq
       ·exact HU.out i h (by omega)
      rw [hq] at HC;clear hq;go_wp2_with fail
      go_region_held3 (fun w'=>w'.cell? ⟨g,p * 5,none⟩=some (.string y.a)∧w'.cell? ⟨g,p * 5 + 1,none⟩=some (.string y.b)∧w'.cell? ⟨g,p * 5 + 2,none⟩=some (.string y.r)∧w'.cell? ⟨g,p * 5 + 3,none⟩=some (.string y.c)∧w'.cell? ⟨g,p * 5 + 4,none⟩=some (.string y.d)∧w'.cell? ⟨b,off + k * 5,none⟩=some (.string x.a)∧w'.cell? ⟨b,off + k * 5 + 1,none⟩=some (.string x.b)∧w'.cell? ⟨b,off + k * 5 + 2,none⟩=some (.string x.r)∧w'.cell? ⟨b,off + k * 5 + 3,none⟩=some (.string x.c)∧w'.cell? ⟨b,off + k * 5 + 4,none⟩=some (.string x.d)∧Below wo.heap.size wo w')
       (first | assumption | exact FE (by assumption) hbx | exact ⟨s0,s1,s2,s3,s4,y0,y1,y2,y3,y4,hbp.drew⟩)
       (first | (go_at_call 56; refine (HC.out _).mono ?_; rintro e w' ⟨rfl,hbx⟩))
      rename_i hJ;have HJB:=az hJ.2.2.2.2.2.2.2.2.2.2;have HSZ:Hid (wr.heap.size≤w'.heap.size):=by show _≤_; exact Nat.le_trans (by first | exact Nat.le_refl _ | simp) hbx.size
      clear hJ s0 s1 s2 s3 s4 y0 y1 y2 y3 y4 hd;go_wp2;go_roundw;case rel=>exact ⟨p + 1,by omega,by go_num,HU2,HJB⟩
      case measure=>simp [intOf] <;> omega
     | false =>
      have HPT:Hid (mP kH x acc=acc.take p ++ x::acc.drop p):=Af (by rw [HAL.out]; exact hp) HU.out (fun _=>by rw [HYE.out]; exact hq);rw [hq] at HC;clear hq;go_wp2_with fail
      go_region_held3 (fun w'=>w'.cell? ⟨g,p * 5,none⟩=some (.string y.a)∧w'.cell? ⟨g,p * 5 + 1,none⟩=some (.string y.b)∧w'.cell? ⟨g,p * 5 + 2,none⟩=some (.string y.r)∧w'.cell? ⟨g,p * 5 + 3,none⟩=some (.string y.c)∧w'.cell? ⟨g,p * 5 + 4,none⟩=some (.string y.d)∧w'.cell? ⟨b,off + k * 5,none⟩=some (.string x.a)∧w'.cell? ⟨b,off + k * 5 + 1,none⟩=some (.string x.b)∧w'.cell? ⟨b,off + k * 5 + 2,none⟩=some (.string x.r)∧w'.cell? ⟨b,off + k * 5 + 3,none⟩=some (.string x.c)∧w'.cell? ⟨b,off + k * 5 + 4,none⟩=some (.string x.d)∧Below wo.heap.size wo w')
       (first | assumption | exact FE (by assumption) hbx | exact ⟨s0,s1,s2,s3,s4,y0,y1,y2,y3,y4,hbp.drew⟩)
       (first | (go_at_call 56; refine (HC.out _).mono ?_; rintro e w' ⟨rfl,hbx⟩))
      rename_i hJ;have HJB:=az hJ.2.2.2.2.2.2.2.2.2.2;have HSZ:Hid (wr.heap.size≤w'.heap.size):=by show _≤_; exact Nat.le_trans (by first | exact Nat.le_refl _ | simp) hbx.size
      obtain ⟨X,hX⟩:∃ X,w'=X:=⟨_,rfl⟩;subst hX;have HBX:Hid (Below wo.heap.size wo w'):=HJB;have HSX:Hid (wr.heap.size≤w'.heap.size):=by show _≤_; exact HSZ.out
      clear hJ s0 s1 s2 s3 s4 hd HC HYE hbp HJB HSZ;clear y0 y1 y2 y3 y4 hbr HOP HBWP HBP HU;obtain ⟨W1,hW1⟩:∃ W1,W1=w'.alloc (.cells #[] 47):=⟨_,rfl⟩;have HLIT:Hid (W1.ownsRow w'.heap.size 47 5 (.slice (some ⟨w'.heap.size,0,none⟩) 0 0) 0 []):=by
       show World.ownsRow _ _ _ _ _ _ _;rw [hW1];exact World.ownsRow_lit w' #[] 0 (Nat.le_refl _) (by unfold maxLen; omega) (by simp)
      have HB1:Hid (Below w'.heap.size w' W1):=by show Below _ _ _; rw [hW1]; exact (Below.refl _ _).alloc (Nat.le_refl _) _
      have HBO1:Hid (Below wo.heap.size wo W1):=HBX.out.trans (HB1.out.mono HBX.out.size);have HR1:Hid (W1.ownsRow w.heap.size 47 5 (.slice (some ⟨g,0,none⟩) k c) k (aB acc)):=kI HO.out fun z hz=>HBO1.out.block z (HO.out.lt z hz).2;have hz1:w'.heap.size≤W1.heap.size:=HB1.out.size;have hgX:g < w'.heap.size:=Nat.lt_of_lt_of_le (HO.out.lt g rfl).2 HBX.out.size;have hpc:p≤c:=by omega
      go_wp2_with (at_builtin; go_must (rw [← hW1]; clear hW1; refine wpList_append_own_at _ rfl _ _ 26 rfl w'.heap.size 47 iR (.agg #[.string ⟨#[]⟩,.string ⟨#[]⟩,.string ⟨#[]⟩,.string ⟨#[]⟩,.string ⟨#[]⟩]) 5 80 Tryz.underlying26 HIR.out.1 HIR.out.2.1 HIR.out.2.2.1 HIR.out.2.2.2 rfl (by decide) _ 0 [] rfl HLIT.out ⟨g,0,none⟩ p c (aB (acc.take p)) rfl (by rw [jl,List.length_take]; congr 1; have:=HAL.out; omega) (vX HR1.out p hp) (qg _) (by unfold maxLen; omega) (by omega) hz1 ?_));intro v2 w2 hown2 hgr2 _ _;have HO2:Hid (w2.ownsRow w'.heap.size 47 5 v2 p (aB (acc.take p))):=by
       show World.ownsRow _ _ _ _ _ _ _
       first | exact hown2 | (rw [Nat.zero_add,List.nil_append] at hown2; exact hown2) | simpa using hown2
      have HB2:Hid (Below w'.heap.size w' w2):=HB1.out.grown hgr2 HB1.out.size (fun z hz=>by simp [Value.ownBlock] at hz; omega);have hz2:w'.heap.size≤w2.heap.size:=HB2.out.size;have HBO2:Hid (Below w.heap.size w w2):=(HB.out.trans (HBX.out.mono HB.out.size)).trans (HB2.out.mono (Nat.le_trans HB.out.size HBX.out.size));obtain ⟨y0,y1,y2,y3,y4⟩:=HROW.out.same (fun o=>HBO2.out.cell (p:=⟨b,o,none⟩) HBL.out);have hbr:b < w2.heap.size:=Nat.lt_of_lt_of_le HBL.out HBO2.out.size;obtain ⟨W3,hW3⟩:∃ W3,W3=w2.alloc (.cells #[.string x.a,.string x.b,.string x.r,.string x.c,.string x.d] 47):=⟨_,rfl⟩;have HO3:Hid (W3.ownsRow w'.heap.size 47 5 v2 p (aB (acc.take p))):=by show World.ownsRow _ _ _ _ _ _ _; rw [hW3]; exact HO2.out.alloc _
      have HNW:Hid (∀ j u,x.row[j]?=some u→W3.cell? ((⟨w2.heap.size,0,none⟩:Addr).add j)=some u):=by show ∀ j u,_; rw [hW3]; exact FB w2 x
      have HB3:Hid (Below w'.heap.size w' W3):=by show Below _ _ _; rw [hW3]; exact HB2.out.alloc HB2.out.size _
      have hz3:w'.heap.size≤W3.heap.size:=HB3.out.size;clear hown2 hgr2 HLIT HB1 HBO1 HR1 hz1;go_wp2_with (at_builtin; go_must (rw [← hW3]; clear hW3; refine wpList_append_own_at _ rfl _ _ 26 rfl w'.heap.size 47 iR (.agg #[.string ⟨#[]⟩,.string ⟨#[]⟩,.string ⟨#[]⟩,.string ⟨#[]⟩,.string ⟨#[]⟩]) 5 80 Tryz.underlying26 HIR.out.1 HIR.out.2.1 HIR.out.2.2.1 HIR.out.2.2.2 rfl (by decide) v2 p (aB (acc.take p)) rfl HO3.out ⟨w2.heap.size,0,none⟩ 1 1 x.row rfl rfl HNW.out (by simp [Fc.row,Value.oneCell']) (by unfold maxLen; omega) (by omega) hz3 ?_));intro v4 w4 hown4 hgr4 _ _;have HO4:Hid (w4.ownsRow w'.heap.size 47 5 v4 (p + 1) (aB (acc.take p) ++ x.row)):=hown4;have HB4:Hid (Below w'.heap.size w' w4):=HB3.out.grown hgr4 HB3.out.size (fun z hz=>(HO2.out.lt z hz).1);have hz4:w'.heap.size≤w4.heap.size:=HB4.out.size;have HBO4:Hid (Below wo.heap.size wo w4):=HBX.out.trans (HB4.out.mono HBX.out.size);have HR4:Hid (w4.ownsRow w.heap.size 47 5 (.slice (some ⟨g,0,none⟩) k c) k (aB acc)):=kI HO.out fun z hz=>HBO4.out.block z (HO.out.lt z hz).2;clear hown4 hgr4 HO3 HO2 HNW HB3 hz3 HB2 hz2 HBO2 y0 y1 y2 y3 y4 hbr;go_wp2_with (at_builtin; go_must (refine wpList_append_own_at _ rfl _ _ 26 rfl w'.heap.size 47 iR (.agg #[.string ⟨#[]⟩,.string ⟨#[]⟩,.string ⟨#[]⟩,.string ⟨#[]⟩,.string ⟨#[]⟩]) 5 80 Tryz.underlying26 HIR.out.1 HIR.out.2.1 HIR.out.2.2.1 HIR.out.2.2.2 rfl (by decide) v4 (p + 1) (aB (acc.take p) ++ x.row) rfl HO4.out ⟨g,p * 5,none⟩ (k - p) (c - p) (aB (acc.drop p)) rfl (by rw [jl,List.length_drop]; have:=HAL.out; congr 1; omega) (D9 HR4.out p hp) (qg _) (by unfold maxLen; omega) (by omega) hz4 ?_));intro v5 w5 hown5 hgr5 _ _;have hn5:p + 1 + (k - p)=k + 1:=by omega
      have HB5:Hid (Below w'.heap.size w' w5):=HB4.out.grown hgr5 HB4.out.size (fun z hz=>(HO4.out.lt z hz).1);have hown6:w5.ownsRow w'.heap.size 47 5 v5 (k + 1) (aB (iW kH (rows.take (k + 1)))):=by
       rw [HNX.out,HPT.out,aB,List.flatMap_append,List.flatMap_cons,← hn5];exact hown5
      obtain ⟨ad5,c5,rfl⟩:=vW hown6;obtain ⟨g5,rfl,-⟩:=rq hown6 (Nat.succ_ne_zero _);have HO6:=az (jm hown6 (Nat.le_trans HB.out.size HBX.out.size));have HB6:Hid (Below w.heap.size w w5):=(HB.out.trans (HBX.out.mono HB.out.size)).trans (HB5.out.mono (Nat.le_trans HB.out.size HBX.out.size));clear hown5 hown6 hgr5 hn5;go_wp2;go_roundw;case rel=>exact ⟨k + 1,g5,c5,by omega,by go_num,by first | rfl | simp,HO6,HB6⟩
      case measure=>simp [intOf] <;> omega
    ·have hd:decide ((p:Int) < (k:Int))=false:=by simp; omega
     have hpe:¬ (p:Int) < (k:Int):=by omega
     have HPT:Hid (mP kH x acc=acc.take p ++ x::acc.drop p):=Af (by rw [HAL.out]; exact hp) HU.out (fun h=>absurd (by rw [HAL.out] at h; exact h) hpk);go_wp2_with fail;go_quiet (fail);clear hd hpe;obtain ⟨X,hX⟩:∃ X,wr.drewN nq=X:=⟨_,rfl⟩;have HBX:Hid (Below wo.heap.size wo X):=by show Below _ _ _; rw [← hX]; exact below_drewN HBP.out _
     have HSX:Hid (wr.heap.size≤X.heap.size):=by show _≤_; rw [← hX]; exact Nat.le_refl _
     rw [hX];clear hX y0 y1 y2 y3 y4 hbr HOP HBWP HBP HU;obtain ⟨W1,hW1⟩:∃ W1,W1=X.alloc (.cells #[] 47):=⟨_,rfl⟩;have HLIT:Hid (W1.ownsRow X.heap.size 47 5 (.slice (some ⟨X.heap.size,0,none⟩) 0 0) 0 []):=by
      show World.ownsRow _ _ _ _ _ _ _;rw [hW1];exact World.ownsRow_lit X #[] 0 (Nat.le_refl _) (by unfold maxLen; omega) (by simp)
     have HB1:Hid (Below X.heap.size X W1):=by show Below _ _ _; rw [hW1]; exact (Below.refl _ _).alloc (Nat.le_refl _) _
     have HBO1:Hid (Below wo.heap.size wo W1):=HBX.out.trans (HB1.out.mono HBX.out.size);have HR1:Hid (W1.ownsRow w.heap.size 47 5 (.slice (some ⟨g,0,none⟩) k c) k (aB acc)):=kI HO.out fun z hz=>HBO1.out.block z (HO.out.lt z hz).2;have hz1:X.heap.size≤W1.heap.size:=HB1.out.size;have hgX:g < X.heap.size:=Nat.lt_of_lt_of_le (HO.out.lt g rfl).2 HBX.out.size;have hpc:p≤c:=by omega
     go_wp2_with (at_builtin; go_must (rw [← hW1]; clear hW1; refine wpList_append_own_at _ rfl _ _ 26 rfl X.heap.size 47 iR (.agg #[.string ⟨#[]⟩,.string ⟨#[]⟩,.string ⟨#[]⟩,.string ⟨#[]⟩,.string ⟨#[]⟩]) 5 80 Tryz.underlying26 HIR.out.1 HIR.out.2.1 HIR.out.2.2.1 HIR.out.2.2.2 rfl (by decide) _ 0 [] rfl HLIT.out ⟨g,0,none⟩ p c (aB (acc.take p)) rfl (by rw [jl,List.length_take]; congr 1; have:=HAL.out; omega) (vX HR1.out p hp) (qg _) (by unfold maxLen; omega) (by omega) hz1 ?_));intro v2 w2 hown2 hgr2 _ _;have HO2:Hid (w2.ownsRow X.heap.size 47 5 v2 p (aB (acc.take p))):=by
      show World.ownsRow _ _ _ _ _ _ _
      first | exact hown2 | (rw [Nat.zero_add,List.nil_append] at hown2; exact hown2) | simpa using hown2
     have HB2:Hid (Below X.heap.size X w2):=HB1.out.grown hgr2 HB1.out.size (fun z hz=>by simp [Value.ownBlock] at hz; omega);have hz2:X.heap.size≤w2.heap.size:=HB2.out.size;have HBO2:Hid (Below w.heap.size w w2):=(HB.out.trans (HBX.out.mono HB.out.size)).trans (HB2.out.mono (Nat.le_trans HB.out.size HBX.out.size));obtain ⟨y0,y1,y2,y3,y4⟩:=HROW.out.same (fun o=>HBO2.out.cell (p:=⟨b,o,none⟩) HBL.out);have hbr:b < w2.heap.size:=Nat.lt_of_lt_of_le HBL.out HBO2.out.size;obtain ⟨W3,hW3⟩:∃ W3,W3=w2.alloc (.cells #[.string x.a,.string x.b,.string x.r,.string x.c,.string x.d] 47):=⟨_,rfl⟩;have HO3:Hid (W3.ownsRow X.heap.size 47 5 v2 p (aB (acc.take p))):=by show World.ownsRow _ _ _ _ _ _ _; rw [hW3]; exact HO2.out.alloc _
     have HNW:Hid (∀ j u,x.row[j]?=some u→W3.cell? ((⟨w2.heap.size,0,none⟩:Addr).add j)=some u):=by show ∀ j u,_; rw [hW3]; exact FB w2 x
     have HB3:Hid (Below X.heap.size X W3):=by show Below _ _ _; rw [hW3]; exact HB2.out.alloc HB2.out.size _
     have hz3:X.heap.size≤W3.heap.size:=HB3.out.size;clear hown2 hgr2 HLIT HB1 HBO1 HR1 hz1;go_wp2_with (at_builtin; go_must (rw [← hW3]; clear hW3; refine wpList_append_own_at _ rfl _ _ 26 rfl X.heap.size 47 iR (.agg #[.string ⟨#[]⟩,.string ⟨#[]⟩,.string ⟨#[]⟩,.string ⟨#[]⟩,.string ⟨#[]⟩]) 5 80 Tryz.underlying26 HIR.out.1 HIR.out.2.1 HIR.out.2.2.1 HIR.out.2.2.2 rfl (by decide) v2 p (aB (acc.take p)) rfl HO3.out ⟨w2.heap.size,0,none⟩ 1 1 x.row rfl rfl HNW.out (by simp [Fc.row,Value.oneCell']) (by unfold maxLen; omega) (by omega) hz3 ?_));intro v4 w4 hown4 hgr4 _ _;have HO4:Hid (w4.ownsRow X.heap.size 47 5 v4 (p + 1) (aB (acc.take p) ++ x.row)):=hown4;have HB4:Hid (Below X.heap.size X w4):=HB3.out.grown hgr4 HB3.out.size (fun z hz=>(HO2.out.lt z hz).1);have hz4:X.heap.size≤w4.heap.size:=HB4.out.size;have HBO4:Hid (Below wo.heap.size wo w4):=HBX.out.trans (HB4.out.mono HBX.out.size);have HR4:Hid (w4.ownsRow w.heap.size 47 5 (.slice (some ⟨g,0,none⟩) k c) k (aB acc)):=kI HO.out fun z hz=>HBO4.out.block z (HO.out.lt z hz).2;clear hown4 hgr4 HO3 HO2 HNW HB3 hz3 HB2 hz2 HBO2 y0 y1 y2 y3 y4 hbr;obtain rfl:p=k:=by omega
     have HDN:Hid (acc.drop p=[]):=List.drop_of_length_le (by rw [HAL.out]; exact Nat.le_refl _);by_cases hce:c=p
     all_goals
      go_wp2_with (at_builtin; go_must (refine wpList_append_own_at _ rfl _ _ 26 rfl X.heap.size 47 iR (.agg #[.string ⟨#[]⟩,.string ⟨#[]⟩,.string ⟨#[]⟩,.string ⟨#[]⟩,.string ⟨#[]⟩]) 5 80 Tryz.underlying26 HIR.out.1 HIR.out.2.1 HIR.out.2.2.1 HIR.out.2.2.2 rfl (by decide) v4 (p + 1) (aB (acc.take p) ++ x.row) rfl HO4.out _ 0 _ (aB (acc.drop p)) rfl (by rw [HDN.out]; rfl) (Ea HDN.out) (qg _) (by unfold maxLen; omega) (by omega) hz4 ?_));intro v5 w5 hown5 hgr5 _ _;have hn5:p + 1 + 0=p + 1:=rfl;have HB5:Hid (Below X.heap.size X w5):=HB4.out.grown hgr5 HB4.out.size (fun z hz=>(HO4.out.lt z hz).1);have hown6:w5.ownsRow X.heap.size 47 5 v5 (p + 1) (aB (iW kH (rows.take (p + 1)))):=by
       rw [HNX.out,HPT.out,aB,List.flatMap_append,List.flatMap_cons,← hn5];exact hown5
      obtain ⟨ad5,c5,rfl⟩:=vW hown6;obtain ⟨g5,rfl,-⟩:=rq hown6 (Nat.succ_ne_zero _);have HO6:=az (jm hown6 (Nat.le_trans HB.out.size HBX.out.size));have HB6:Hid (Below w.heap.size w w5):=(HB.out.trans (HBX.out.mono HB.out.size)).trans (HB5.out.mono (Nat.le_trans HB.out.size HBX.out.size));clear hown5 hown6 hgr5 hn5;go_wp2;go_roundw;case rel=>exact ⟨p + 1,g5,c5,by omega,by go_num,by first | rfl | simp,HO6,HB6⟩
      case measure=>simp [intOf] <;> omega
  ·obtain rfl:k=rows.length:=by omega
   have HE:Hid (wr.ownsRow w.heap.size 47 5 (.slice (some ⟨g,0,none⟩) rows.length c) rows.length (aB (iW kH rows))):=by have h:=HO.out; rw [List.take_length] at h; exact h
   go_wp2;go_ret;exact ⟨⟨_,rfl,HE.out⟩,HB.out⟩
def bq (k:ByteArray × ByteArray):Value:=.agg #[.string k.1,.string k.2]
theorem mQ (x y:ByteArray × ByteArray) (h:bq x=bq y):x=y:=by
 unfold bq at h;injection h with h;have h1:=congrArg Array.toList h;simp at h1;exact Prod.ext h1.1 h1.2
theorem vY:laidOutB Tryz.prog=true:=by kernel_rfl
theorem Jk:(117:TypeId) < Tryz.prog.types.size:=of_decide_eq_true (by kernel_rfl)
theorem KP:(match Tryz.prog.underlying 117 with | some (.array _ _) | some (.struct _)=>true | _=>false)=true:=by rw [Tryz.underlying117]
set_option maxRecDepth 100000 in
theorem Ag:WideMaps.KeyLaw Tryz.prog 117:=deep_law_laid vY (m:=2) (by omega) Jk (by kernel_rfl) KP
theorem gG:Keyed Tryz.prog 117:=Keyed.of_law Ag
theorem KQ:Tryz.prog.keyType 117=true:=by kernel_rfl
theorem BZ:Tryz.prog.cellsOf 117=2:=by kernel_rfl
theorem strCells:Tryz.prog.cellsOf 9=1:=by kernel_rfl
theorem GQ:∃ n,Tryz.prog.types.size=n + 1:=Nat.exists_eq_succ_of_ne_zero (Nat.ne_of_gt (Nat.lt_of_le_of_lt (Nat.zero_le _) Jk))
theorem il (k:ByteArray × ByteArray) (h1:k.1.size≤maxLen) (h2:k.2.size≤maxLen):∃ kl,keyOf Tryz.prog 117 (bq k)=some kl:=by
 obtain ⟨n,hn⟩:=GQ;refine ⟨.string (keyBytes [.string k.1.data.toList,.string k.2.data.toList]),?_⟩;unfold keyOf;rw [Tryz.underlying117];simp only [KQ,bq,Value.formed,Tryz.underlying117,BZ,hn,Value.cells];simp [Program.keyLits,Tryz.underlying117,Tryz.underlying9,BZ,strCells,h1,h2]
open Go.ChangeMaps (setBlock heap_setBlock_same heap_setBlock_other)
section
variable {K:Type} {enc:K→Value} {P:Program} {k:TypeId} {w:World} {b n:Nat} {M:K→Option Value}
theorem aD.of_block {w':World} (h:aD enc P k w b n M) (e:w'.heap[b]?=w.heap[b]?):aD enc P k w' b n M:=by
 obtain ⟨D,⟨es,clock,hb,r⟩,h2⟩:=h;exact ⟨D,⟨es,clock,e.trans hb,r⟩,h2⟩
theorem mR {w:World} {b:Nat} {es es':Array MapEntry} {c c':Nat} (hb:w.heap[b]?=some (.map es c)):w.grownBy (setBlock w b (.map es' c')) (some b) :=
 ⟨rfl,rfl,rfl,by simp [setBlock],fun i _ hi=>heap_setBlock_other hb _ (fun e=>hi (by rw [e]))⟩
theorem aD.entry [DecidableEq K] {t e:TypeId} (h:aD enc P k w b n M) (L:WideMaps.KeyLaw P k) (hinj:∀ x y,enc x=enc y→x=y) (ht:P.underlying t=some (.map k e)) {z:Value} (hz:∀ u:World,(zeroValue e).run P u=.ok z u) (hn:n < maxLen) {x:K} {kl:Lit} (hkey:keyOf P k (enc x)=some kl) :
  ∃ (st:Nat) (w1:World),(Instr.mapEntry t (.map (some b)) (enc x)).run P w=.ok (.tuple #[(M x).getD z,goInt st]) w1∧w.grownBy w1 (some b) ∧
   ∀ (w2:World) (val:Value),w2.heap[b]?=w1.heap[b]?→∃ w3,(Instr.entryStore t (.map (some b)) (goInt st) val).run P w2=.ok () w3∧aD enc P k w3 b (n + 1) (jb M x (some val))∧w2.grownBy w3 (some b):=by
 have LK:=Keyed.of_law L;have hlook:=h.look LK ht (hz w) hkey;have hst:=fun v=>h.store LK hinj ht hn hkey v;obtain ⟨D,⟨es,clock,hb,F,hs,hD⟩,h2⟩:=h;obtain ⟨v0,st,es1,clock1,hrun,hv0,hback⟩:=WideElems.entry_then_store L ht hz hb F hkey;have hb1:(setBlock w b (.map es1 clock1)).heap[b]?=some (.map es1 clock1):=heap_setBlock_same hb _;have ev:v0=(M x).getD z:=by
  have hl:=hlook;rcases Maps.fit_look false LK ht (hz w) hb F hkey with ⟨hrun2,hno,-⟩ | ⟨e0,y,hmem,hek,hrun2,-,-,-⟩
  ·rw [hl] at hrun2;injection hrun2 with e1;rcases hv0 with ⟨e0,hm,hk0,-⟩ | ⟨-,hz0⟩
   ·exact absurd hk0 (hno e0 hm)
   ·rw [hz0,e1]; rfl
  ·rw [hl] at hrun2;injection hrun2 with e1;rcases hv0 with ⟨e1',hm,hk0,hv⟩ | ⟨hno,-⟩
   ·have hnd:=F.stamped.2.2;have:e1'=e0:=by
     have h3:e1'.key=e0.key:=by rw [hk0,hek]
     obtain ⟨i,hi,hie⟩:=List.mem_iff_getElem.1 hm;obtain ⟨j,hj,hje⟩:=List.mem_iff_getElem.1 hmem;have h4:(es.toList.map (·.key))[i]'(by simpa using hi)=(es.toList.map (·.key))[j]'(by simpa using hj):=by simp only [List.getElem_map,hie,hje]; exact h3
     have h6:=List.pairwise_iff_getElem.1 hnd;have h5:i=j:=by
      rcases Nat.lt_trichotomy i j with hl | hl | hl
      ·exact absurd h4 (h6 i j _ _ hl)
      ·exact hl
      ·exact absurd h4.symm (h6 j i _ _ hl)
     subst h5;rw [← hie,← hje]
    rw [hv,this,e1]; rfl
   ·exact absurd hek (hno e0 hmem)
 refine ⟨st,_,by rw [hrun,ev],mR hb,fun w2 val hw2=>?_⟩;have hw2':w2.heap[b]?=some (.map es1 clock1):=hw2.trans hb1;obtain ⟨es',clock',hr1,hr2⟩:=hback w2 val hw2';obtain ⟨w',hr3,hM',-⟩:=hst val;rw [hr2] at hr3;injection hr3 with _ e3;refine ⟨_,hr1,hM'.of_block ?_,mR hw2'⟩;rw [← e3,heap_setBlock_same hb,heap_setBlock_same hw2']
end
section
variable {K:Type} {enc:K→Value} {P:Program} (w:World) {ops:Array Oper} {rest:List Oper} {o:Oper} {a:Act} {Q:Exit→Act→World→Prop}
theorem oo [DecidableEq K] (hg:o.guard=none) (m x:Operand) (t:TypeId) (hop:o.op=Op.mapEntry t m x) (k e:TypeId) (L:WideMaps.KeyLaw P k) (hinj:∀ x y,enc x=enc y→x=y) (ht:P.underlying t=some (.map k e)) {z:Value} (hz:∀ u:World,(zeroValue e).run P u=.ok z u) (b n:Nat) (M:K→Option Value)
  (hm:a.eval m=.map (some b)) (hV:aD enc P k w b n M) (hn:n < maxLen) (y:K) (kl:Lit) (hx:a.eval x=enc y) (hkey:keyOf P k (enc y)=some kl)
  (hK:∀ (st:Nat) (w1:World),w.grownBy w1 (some b)→(∀ (w2:World) (val:Value),w2.heap[b]?=w1.heap[b]?→∃ w3,(Instr.entryStore t (.map (some b)) (goInt st) val).run P w2=.ok () w3∧aD enc P k w3 b (n + 1) (jb M y (some val))∧w2.grownBy w3 (some b)) →
   wpList P ops Q rest (a.put o.dst (.tuple #[(M y).getD z,goInt st])) w1):wpList P ops Q (o::rest) a w:=by
 refine wpList_plain hg fun K' hK'=>?_;obtain ⟨st,w1,hrun,h1,h2⟩:=hV.entry L hinj ht hz hn hkey;unfold Oper.wp;simp [execOp,hop,hm,hx,hrun,Result.andThen];exact hK' _ _ (hK st w1 h1 h2)
theorem jB (hg:o.guard=none) (m s v:Operand) (t:TypeId) (hop:o.op=Op.entryStore t m s v) (b st:Nat) (hm:a.eval m=.map (some b)) (hs:a.eval s=goInt st) (u:Value) (hv:a.eval v=u) (k:TypeId) (n:Nat) (M:K→Option Value)
  (hback:∃ w3,(Instr.entryStore t (.map (some b)) (goInt st) u).run P w=.ok () w3∧aD enc P k w3 b n M∧w.grownBy w3 (some b))
  (hK:∀ w',aD enc P k w' b n M→w.grownBy w' (some b)→wpList P ops Q rest (a.put o.dst undef) w'):wpList P ops Q (o::rest) a w:=by
 refine wpList_plain hg fun K' hK'=>?_;obtain ⟨w3,hrun,h1,h2⟩:=hback;unfold Oper.wp;simp [execOp,hop,hm,hs,hv,hrun,Result.andThen];exact hK' _ _ (hK w3 h1 h2)
end
end Go.Proofs.YtogjfppkbkgaeaaGreat
namespace Go.Proofs.YtogjfppkbkgaeaaGreat.G
open Go.ChangeShapes Go.WideShapes Go.ChangeAt Go.RowKit Go.Maps
open Pl
variable {K α:Type} {enc:K→Value} {P:Program} {kt et:TypeId} {sz:Nat} {cl:α→List Value}
def FreeB (M:K→Option Value) (g:Nat):Prop:=∀ k v,M k=some v→v.ownBlock ≠ some g
structure Stl (W:World) (M:K→Option Value) (w2:World) (M2:K→Option Value) (bL:Nat):Prop where
 size:W.heap.size≤w2.heap.size
 block:∀ g,g < W.heap.size→g ≠ bL→FreeB M g→w2.heap[g]?=W.heap[g]?
 free:∀ g,g < W.heap.size→FreeB M g→FreeB M2 g
theorem Stl.refl (W:World) (M:K→Option Value) (bL:Nat):Stl W M W M bL:=⟨Nat.le_refl _,fun _ _ _ _=>rfl,fun _ _ h=>h⟩
theorem Stl.trans {W w2 w3:World} {M M2 M3:K→Option Value} {bL:Nat} (h:Stl W M w2 M2 bL) (h2:Stl w2 M2 w3 M3 bL):Stl W M w3 M3 bL where
 size:=Nat.le_trans h.size h2.size
 block g hg hb hf:=(h2.block g (Nat.lt_of_lt_of_le hg h.size) hb (h.free g hg hf)).trans (h.block g hg hb hf)
 free g hg hf:=h2.free g (Nat.lt_of_lt_of_le hg h.size) (h.free g hg hf)
theorem Stl.below {W w2:World} {M:K→Option Value} {bL:Nat} (hB:Below W.heap.size W w2):Stl W M w2 M bL:=⟨hB.size,fun g hg _ _=>hB.block g hg,fun _ _ h=>h⟩
structure Cel (w:World) (M:K→Option Value) (bL g o:Nat) (u:Value):Prop where
 cell:w.cell? ⟨g,o,none⟩=some u
 lt:g < w.heap.size
 free:FreeB M g
 ne:g ≠ bL
theorem Cel.stl {w w2:World} {M M2:K→Option Value} {bL g o:Nat} {u:Value} (h:Cel w M bL g o u) (hS:Stl w M w2 M2 bL):Cel w2 M2 bL g o u where
 cell:=(World.cell?_of_block (w:=w) (hS.block g h.lt h.ne h.free)).trans h.cell
 lt:=Nat.lt_of_lt_of_le h.lt hS.size
 free:=hS.free g h.lt h.free
 ne:=h.ne
theorem Ec {w w':World} {base:Nat} {e:TypeId} {size:Nat} {v:Value} {n:Nat} {xs:List Value} (h:w.ownsRow base e size v n xs) (hb:Below w.heap.size w w'):w'.ownsRow base e size v n xs:=by
 have hl:=fun g hg=>(h.lt g hg).2;refine ⟨h.1,?_⟩;rcases h.2 with h0 | ⟨g,cap,cur,rfl,h1,h2,h3⟩
 ·exact .inl h0
 ·exact .inr ⟨g,cap,cur,rfl,h1,(hb.block g (hl g rfl)).trans h2,h3⟩
variable [DecidableEq K]
def flatG (cl:α→List Value) (xs:List α):List Value:=xs.flatMap cl
theorem Ed (cl:α→List Value) (xs:List α) (x:α):flatG cl (xs ++ [x])=flatG cl xs ++ cl x:=by simp [flatG]
def lookL (E:List (K × α)) (k:K):List α:=E.filterMap fun p=>if p.1=k then some p.2 else none
theorem lookL_append (E F:List (K × α)) (k:K):lookL (E ++ F) k=lookL E k ++ lookL F k:=by unfold lookL; rw [List.filterMap_append]
theorem oV (E:List (K × α)) (k:K) (s:α):lookL (E ++ [(k,s)]) k=lookL E k ++ [s]:=by rw [lookL_append]; simp [lookL]
theorem mU (E:List (K × α)) {k y:K} (s:α) (h:k ≠ y):lookL (E ++ [(y,s)]) k=lookL E k:=by rw [lookL_append]; simp [lookL,Ne.symm h]
theorem mem_lookL {E:List (K × α)} {k:K} {s:α}:s ∈ lookL E k ↔ (k,s) ∈ E:=by
 unfold lookL;rw [List.mem_filterMap];constructor
 ·rintro ⟨⟨a,b⟩,h1,h2⟩;simp only at h2;split at h2
  ·rename_i e; injection h2 with h2; rw [← e,← h2]; exact h1
  ·cases h2
 ·intro h; exact ⟨(k,s),h,by simp⟩
structure Grp (enc:K→Value) (P:Program) (kt et:TypeId) (sz:Nat) (cl:α→List Value) (w:World) (bL n:Nat) (M:K→Option Value) (E:List (K × α)):Prop where
 map:aD enc P kt w bL n M
 row:∀ k,(M k=none∧lookL E k=[]) ∨ ∃ v,M k=some v∧w.ownsRow (bL + 1) et sz v (lookL E k).length (flatG cl (lookL E k))
 apart:∀ k k' v v',k ≠ k'→M k=some v→M k'=some v'→∀ g,v.ownBlock=some g→v'.ownBlock ≠ some g
theorem Grp.lt {w:World} {bL n:Nat} {M:K→Option Value} {E:List (K × α)} (h:Grp enc P kt et sz cl w bL n M E) {k:K} {v:Value} (hk:M k=some v) {g:Nat} (hg:v.ownBlock=some g):bL < g∧g < w.heap.size:=by
 rcases h.row k with ⟨e,-⟩ | ⟨v',e,ho⟩
 ·rw [e] at hk; cases hk
 ·rw [e] at hk; injection hk with hk; subst hk;have:=ho.lt g hg;exact ⟨by omega,this.2⟩
theorem Grp.fresh {w:World} {bL n:Nat} {M:K→Option Value} {E:List (K × α)} (h:Grp enc P kt et sz cl w bL n M E) {g:Nat} (hg:w.heap.size≤g):FreeB M g:=fun k v hk e=>by
 have:=(h.lt hk e).2; omega
theorem Grp.mono {w:World} {bL n n':Nat} {M:K→Option Value} {E:List (K × α)} (h:Grp enc P kt et sz cl w bL n M E) (hn:n≤n'):Grp enc P kt et sz cl w bL n' M E:=⟨h.map.mono hn,h.row,h.apart⟩
theorem Grp.below {w w':World} {bL n:Nat} {M:K→Option Value} {E:List (K × α)} (h:Grp enc P kt et sz cl w bL n M E) (hB:Below w.heap.size w w'):Grp enc P kt et sz cl w' bL n M E where
 map:=h.map.below hB
 row k:=by
  rcases h.row k with e | ⟨v,e,ho⟩
  ·exact .inl e
  ·exact .inr ⟨v,e,Ec ho hB⟩
 apart:=h.apart
theorem grp_made (w:World):Grp enc P kt et sz cl (w.alloc (.map #[] 0)) w.heap.size 0 (fun _=>none) [] where
 map:=kF _ _ _ w
 row k:=.inl ⟨rfl,rfl⟩
 apart k k' v v' _ h:=by cases h
theorem Grp.step {W0 w1 w2 w3:World} {bL n:Nat} {M:K→Option Value} {E:List (K × α)} {y:K} {v':Value} {s:α} (h:Grp enc P kt et sz cl W0 bL n M E) (hg1:W0.grownBy w1 (some bL)) (hown:w2.ownsRow (bL + 1) et sz v' ((lookL E y).length + 1) (flatG cl (lookL E y) ++ cl s))
  (hg2:w1.grownBy w2 ((M y).getD (.slice none 0 0)).ownBlock) (hloc:v'.ownBlock=((M y).getD (.slice none 0 0)).ownBlock ∨ v'.ownBlock=some w1.heap.size) (hg3:w2.grownBy w3 (some bL)) (hM:aD enc P kt w3 bL (n + 1) (jb M y (some v'))) :
  Grp enc P kt et sz cl w3 bL (n + 1) (jb M y (some v')) (E ++ [(y,s)])∧Stl W0 M w3 (jb M y (some v')) bL:=by
 have hrow0:∀ k v,M k=some v→∃ xs m,W0.ownsRow (bL + 1) et sz v m xs:=fun k v hk=>by
  rcases h.row k with ⟨e,-⟩ | ⟨v1,e,ho⟩
  ·rw [e] at hk; cases hk
  ·rw [e] at hk; injection hk with hk; subst hk; exact ⟨_,_,ho⟩
 have hne2:∀ k v,k ≠ y→M k=some v→v.ownBlock=none ∨ v.ownBlock ≠ ((M y).getD (.slice none 0 0)).ownBlock:=fun k v hky hk=>by
  cases e:v.ownBlock with
  | none=>exact .inl rfl
  | some g =>
   right;cases ey:M y with
   | none=>simp [Value.ownBlock]
   | some vy=>intro e2; exact h.apart k y v vy hky hk ey g e (by simpa using e2.symm)
 have hnb:∀ v,(∃ k,M k=some v)→v.ownBlock=none ∨ v.ownBlock ≠ some bL:=fun v ⟨k,hk⟩=>by
  cases e:v.ownBlock with
  | none=>exact .inl rfl
  | some g=>right; have:=(h.lt hk e).1; intro e2; injection e2 with e2; omega
 have hnew:∀ g,v'.ownBlock=some g→bL < g:=fun g e=>by have:=(hown.lt g e).1; omega
 have hv'b:v'.ownBlock=none ∨ v'.ownBlock ≠ some bL:=by
  cases e:v'.ownBlock with
  | none=>exact .inl rfl
  | some g=>right; have:=hnew g e; intro e2; injection e2 with e2; omega
 constructor
 ·refine ⟨hM,fun k=>?_,fun k k' v u hkk hk hk' g e=>?_⟩
  ·by_cases ek:k=y
   ·subst ek;rw [dA,oV];refine .inr ⟨v',rfl,?_⟩;rw [Ed,List.length_append];exact hown.kept hg3 hv'b
   ·rw [bf ek,mU _ _ ek];rcases h.row k with e | ⟨v,e,ho⟩
    ·exact .inl e
    ·exact .inr ⟨v,e,((ho.kept hg1 (hnb v ⟨k,e⟩)).kept hg2 (hne2 k v ek e)).kept hg3 (hnb v ⟨k,e⟩)⟩
  ·by_cases ek:k=y
   ·subst ek;rw [dA] at hk; injection hk with hk; subst hk;rw [bf (Ne.symm hkk)] at hk';intro e2;rcases hloc with el | el
    ·rw [e] at el;cases ey:M k with
     | none=>rw [ey] at el; simp [Value.ownBlock] at el
     | some vy=>rw [ey] at el; exact h.apart k k' vy u hkk ey hk' g (by simpa using el.symm) e2
    ·rw [e] at el; injection el with el;have:=(h.lt hk' e2).2;have:=hg1.size;omega
   ·rw [bf ek] at hk;by_cases ek':k'=y
    ·subst ek';rw [dA] at hk'; injection hk' with hk'; subst hk';intro e2;rcases hloc with el | el
     ·rw [e2] at el;cases ey:M k' with
      | none=>rw [ey] at el; simp [Value.ownBlock] at el
      | some vy=>rw [ey] at el; exact h.apart k k' v vy hkk hk ey g e (by simpa using el.symm)
     ·rw [e2] at el; injection el with el;have:=(h.lt hk e).2;have:=hg1.size;omega
    ·rw [bf ek'] at hk';exact h.apart k k' v u hkk hk hk' g e
 ·refine ⟨Nat.le_trans hg1.size (Nat.le_trans hg2.size hg3.size),fun g hg hb hf=>?_,fun g hg hf k v hk=>?_⟩
  ·have h1:=hg1.block g hg (fun e=>hb (by injection e));have h2:=hg2.block g (Nat.lt_of_lt_of_le hg hg1.size) (fun e=>by
    cases ey:M y with
    | none=>rw [ey] at e; simp [Value.ownBlock] at e
    | some vy=>rw [ey] at e; exact hf y vy ey (by simpa using e.symm))
   have h3:=hg3.block g (Nat.lt_of_lt_of_le hg (Nat.le_trans hg1.size hg2.size)) (fun e=>hb (by injection e));rw [h3,h2,h1]
  ·by_cases ek:k=y
   ·subst ek;rw [dA] at hk; injection hk with hk; subst hk;intro e2;rcases hloc with el | el
    ·rw [e2] at el;cases ey:M k with
     | none=>rw [ey] at el; simp [Value.ownBlock] at el
     | some vy=>rw [ey] at el; exact hf k vy ey (by simpa using el.symm)
    ·rw [e2] at el; injection el with el; have:=hg1.size; omega
   ·rw [bf ek] at hk;exact hf k v hk
end Go.Proofs.YtogjfppkbkgaeaaGreat.G
