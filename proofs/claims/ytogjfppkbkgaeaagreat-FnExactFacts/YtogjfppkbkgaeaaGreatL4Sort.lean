/- Contract of the document's l4Sort: facts by their order, in a new row. -/
import Derived.Test.YtogjfppkbkgaeaaGreatJ9
import Derived.Test.YtogjfppkbkgaeaaGreatJ29
import Derived.Test.YtogjfppkbkgaeaaGreatJ19
import Derived.Test.YtogjfppkbkgaeaaGreatJ4
import Derived.BigQuiet
namespace Go.Proofs.YtogjfppkbkgaeaaGreat
set_option maxRecDepth 100000
set_option linter.unusedVariables false
open Go.ChangeShapes Go.WideShapes Go.ChangeAt Go.RowKit Go.Maps
open Pl
def kH (x y:Fc):Bool:=di x.a x.b x.r x.c x.d ⟨#[]⟩ y.a y.b y.r y.c y.d ⟨#[]⟩
theorem kI {w w':World} {base:Nat} {e:TypeId} {size:Nat} {v:Value} {n:Nat} {xs:List Value} (h:w.ownsRow base e size v n xs) (hh:∀ g,v.ownBlock=some g→w'.heap[g]?=w.heap[g]?):w'.ownsRow base e size v n xs:=by
 refine ⟨h.1,?_⟩;rcases h.2 with hl | ⟨g,cap,cur,rfl,h1,h2,h3⟩
 ·exact .inl hl
 ·exact .inr ⟨g,cap,cur,rfl,h1,(hh g rfl).trans h2,h3⟩
theorem xg {w:World} {base size n:Nat} {e:TypeId} {v:Value} {xs:List Value} (h:w.ownsRow base e size v n xs):∃ ad cap,v=.slice ad n cap:=by
 rcases h.2 with ⟨rfl,h0⟩ | ⟨g,cap,cur,rfl,-⟩
 ·exact ⟨none,0,by rw [h0]⟩
 ·exact ⟨_,_,rfl⟩
theorem rW {w:World} {base size n cap:Nat} {e:TypeId} {ad:Option Addr} {xs:List Value} (h:w.ownsRow base e size (.slice ad n cap) n xs) (hn:n ≠ 0):∃ g,ad=some ⟨g,0,none⟩∧(Value.slice ad n cap).ownBlock=some g:=by
 rcases h.2 with ⟨-,h0⟩ | ⟨g,cap',cur,e1,-⟩
 ·exact absurd h0 hn
 ·injection e1 with e1;exact ⟨g,e1,by rw [e1]; rfl⟩
theorem rX {w:World} {base base' size n:Nat} {e:TypeId} {v:Value} {xs:List Value} (h:w.ownsRow base e size v n xs) (hb:base'≤base):w.ownsRow base' e size v n xs:=by
 refine ⟨h.1,?_⟩;rcases h.2 with hl | ⟨g,cap,cur,e,h1,h2⟩
 ·exact .inl hl
 ·exact .inr ⟨g,cap,cur,e,Nat.le_trans hb h1,h2⟩
theorem Le {w:World} {base size n cap:Nat} {e:TypeId} {ad:Option Addr} {xs:List Value} (h:w.ownsRow base e size (.slice ad n cap) n xs):n≤cap:=by
 rcases h.2 with ⟨e1,h0⟩ | ⟨g,cap',cur,e1,-,-,hnc,-⟩
 ·injection e1 with _ e2 e3; omega
 ·injection e1 with _ e2 e3; omega
theorem EU (xs:List Fc):∀ p,aA (xs.take p)=(aA xs).take (p * 5):=by
 induction xs with
 | nil=>intro p; simp [aA]
 | cons x xs ih =>
  intro p;cases p with
  | zero=>simp [aA]
  | succ p =>
   have ih:=ih p;unfold aA at ih ⊢;rw [List.take_succ_cons,List.flatMap_cons,List.flatMap_cons,ih,show (p + 1) * 5=p * 5 + 1 + 1 + 1 + 1 + 1 by omega];simp [Fc.row]
theorem EW (xs:List Fc):∀ p,aA (xs.drop p)=(aA xs).drop (p * 5):=by
 induction xs with
 | nil=>intro p; simp [aA]
 | cons x xs ih =>
  intro p;cases p with
  | zero=>simp [aA]
  | succ p =>
   have ih:=ih p;unfold aA at ih ⊢;rw [List.drop_succ_cons,List.flatMap_cons,ih,show (p + 1) * 5=p * 5 + 1 + 1 + 1 + 1 + 1 by omega];simp [Fc.row]
theorem xh {w:World} {base g n cap:Nat} {xs:List Fc} (h:w.ownsRow base 47 5 (.slice (some ⟨g,0,none⟩) n cap) n (aA xs)) (p:Nat) (hp:p≤n):∀ j u,(aA (xs.take p))[j]?=some u→w.cell? ((⟨g,0,none⟩:Addr).add j)=some u:=fun j u hu=>by
 rw [EU,List.getElem?_take] at hu;split at hu
 ·rename_i hj;have:=h.cellAt j (by omega);rw [hu] at this;have e:(⟨g,0,none⟩:Addr).add j=⟨g,j,none⟩:=by unfold Addr.add; split <;> simp_all
  rw [e]; exact this
 ·cases hu
theorem EX {w:World} {base g n cap:Nat} {xs:List Fc} (h:w.ownsRow base 47 5 (.slice (some ⟨g,0,none⟩) n cap) n (aA xs)) (p:Nat) (hp:p≤n):∀ j u,(aA (xs.drop p))[j]?=some u→w.cell? ((⟨g,p * 5,none⟩:Addr).add j)=some u:=fun j u hu=>by
 rw [EW,List.getElem?_drop] at hu;have hl:=h.1;have hj:p * 5 + j < n * 5:=by
  rw [← hl]; exact (List.getElem?_eq_some_iff.1 hu).1
 have:=h.cellAt (p * 5 + j) hj;rw [hu] at this;have e:(⟨g,p * 5,none⟩:Addr).add j=⟨g,p * 5 + j,none⟩:=by unfold Addr.add; split <;> simp_all
 rw [e]; exact this
theorem qG (xs:List Fc):∀ u ∈ aA xs,u.oneCell'=true:=fun u hu=>by
 obtain ⟨q,-,h⟩:=List.mem_flatMap.1 hu;simp only [Fc.row,List.mem_cons,List.not_mem_nil,or_false] at h;rcases h with rfl | rfl | rfl | rfl | rfl <;> rfl
theorem EY {w:World} {a:Addr} {xs:List Fc} (h:xs=[]):∀ j u,(aA xs)[j]?=some u→w.cell? (a.add j)=some u:=fun j u hu=>by
 rw [h] at hu; simp [aA] at hu
theorem AP {w W w':World} {n m i0 i1 i2 i3 i4 j0 j1 j2 j3 j4:Nat} {x0 x1 x2 x3 x4 y0 y1 y2 y3 y4:Value} (h:W.cell? ⟨n,i0,none⟩=some x0∧W.cell? ⟨n,i1,none⟩=some x1∧W.cell? ⟨n,i2,none⟩=some x2∧W.cell? ⟨n,i3,none⟩=some x3∧W.cell? ⟨n,i4,none⟩=some x4∧W.cell? ⟨m,j0,none⟩=some y0∧W.cell? ⟨m,j1,none⟩=some y1∧W.cell? ⟨m,j2,none⟩=some y2∧W.cell? ⟨m,j3,none⟩=some y3∧W.cell? ⟨m,j4,none⟩=some y4∧Below w.heap.size w W) (hb:Below W.heap.size W w'):w'.cell? ⟨n,i0,none⟩=some x0∧w'.cell? ⟨n,i1,none⟩=some x1∧w'.cell? ⟨n,i2,none⟩=some x2∧w'.cell? ⟨n,i3,none⟩=some x3∧w'.cell? ⟨n,i4,none⟩=some x4∧w'.cell? ⟨m,j0,none⟩=some y0∧w'.cell? ⟨m,j1,none⟩=some y1∧w'.cell? ⟨m,j2,none⟩=some y2∧w'.cell? ⟨m,j3,none⟩=some y3∧w'.cell? ⟨m,j4,none⟩=some y4∧Below w.heap.size w w':=by
 obtain ⟨h0,h1,h2,h3,h4,k0,k1,k2,k3,k4,hB⟩:=h;exact ⟨aZ hb (aB h0) h0,aZ hb (aB h1) h1,aZ hb (aB h2) h2,aZ hb (aB h3) h3,aZ hb (aB h4) h4,aZ hb (aB k0) k0,aZ hb (aB k1) k1,aZ hb (aB k2) k2,aZ hb (aB k3) k3,aZ hb (aB k4) k4,hB.trans (hb.mono hB.size)⟩
set_option maxHeartbeats 8000000 in
theorem EZ (ad:Option Addr) (cap:Nat) (rows:List Fc) (w:World) (hlen:rows.length≤1048576) (hs:jF w ad rows) (hfit:∀ x ∈ rows,x.fits) :
  Calls Tryz.prog 36 #[.slice ad rows.length cap] w fun e w'=>(∃ v:Value,e=.returned v∧w'.ownsRow w.heap.size 47 5 v rows.length (aA (iU kH rows)))∧Below w.heap.size w w':=by
 obtain ⟨iR,hiR,zR0,zR1,zR2⟩:=zU;have HIR:Hid (Tryz.prog.info? 47=some iR∧iR.zero=some (.agg #[.string ⟨#[]⟩,.string ⟨#[]⟩,.string ⟨#[]⟩,.string ⟨#[]⟩,.string ⟨#[]⟩])∧iR.size=5∧iR.bytes=80):=⟨hiR,zR0,zR1,zR2⟩;have HS:=ax hs;have HFT:=ax hfit;clear hs hfit hiR zR0 zR1 zR2;obtain ⟨W0,hW0⟩:∃ W0,W0=w.alloc (.cells #[] 47):=⟨_,rfl⟩;have HB0:Hid (Below w.heap.size w W0):=by show Below _ _ _; rw [hW0]; exact (Below.refl _ _).alloc (Nat.le_refl _) _
 have HO0:Hid (W0.ownsRow w.heap.size 47 5 (.slice (some ⟨w.heap.size,0,none⟩) 0 0) 0 []):=by
  show World.ownsRow _ _ _ _ _ _ _;rw [hW0];exact World.ownsRow_lit w #[] 0 (Nat.le_refl _) (by unfold maxLen; omega) (by simp)
 go_enter Tryz.func36,Tryz.ntmps36;go_wp2_with fail;rw [← hW0];clear hW0;go_loopw [3,4] (fun v i wr=>∃ (k g c:Nat),k≤rows.length∧i=.int .i64 k∧v=.slice (some ⟨g,0,none⟩) k c∧Hid (wr.ownsRow w.heap.size 47 5 (.slice (some ⟨g,0,none⟩) k c) k (aA (iU kH (rows.take k))))∧Hid (Below w.heap.size w wr)) (fun _ i _=>rows.length - (intOf i).toNat);case atStart=>exact ⟨0,w.heap.size,0,Nat.zero_le _,rfl,rfl,HO0,HB0⟩
 case round =>
  clear HO0 HB0;obtain ⟨k,g,c,hk,rfl,rfl,HO,HB⟩:=hrel;by_cases hlt:k < rows.length
  ·obtain ⟨acc,hacc⟩:∃ acc,acc=iU kH (rows.take k):=⟨_,rfl⟩;obtain ⟨b,off,hadr,hrow,hbl⟩:∃ b off,ad=some ⟨b,off,none⟩∧BC w b (off + k * 5) rows[k]∧b < w.heap.size:=by
    rcases HS.out with h | ⟨b',off',e,hb,hr⟩
    ·rw [h] at hlt; simp at hlt
    ·exact ⟨b',off',e,hr k hlt,hb⟩
   obtain ⟨x,hx⟩:∃ x,rows[k]=x:=⟨_,rfl⟩;have HNX:Hid (iU kH (rows.take (k + 1))=mW kH x acc):=by show _=_; rw [List.take_succ_eq_append_getElem hlt,ET,hacc,hx]
   have hal:acc.length=k:=by rw [hacc,(iD _).length_eq,List.length_take]; omega
   have HXF:Hid x.fits:=by show Fc.fits x; rw [← hx]; exact HFT.out _ (List.getElem_mem hlt)
   have HAF:Hid (∀ z ∈ acc,z.fits):=fun z hz=>by
    rw [hacc] at hz;exact HFT.out z (List.mem_of_mem_take ((iD _).mem_iff.1 hz))
   rw [← hacc] at HO;rw [hx] at hrow;have HAL:=ax hal;have hkc:k≤c:=Le HO.out;have hk1:(0:Int)≤(k:Int):=by omega
   have hk2:(k:Int) < (rows.length:Int):=by omega
   have HROW:=ax hrow;have HBL:=ax hbl;obtain ⟨wo,hwo⟩:∃ wo,wo=wr:=⟨_,rfl⟩;subst hwo;subst hadr;clear hacc hal hrow hbl hx;go_wp2_with fail;go_loopw [5] (fun i wr=>∃ p:Nat,p≤k∧i=.int .i64 p∧Hid (∀ (i:Nat) (h:i < acc.length),i < p→kH acc[i] x=true)∧Hid (Below wo.heap.size wo wr)) (fun i _=>k - (intOf i).toNat);case atStart=>exact ⟨0,Nat.zero_le _,rfl,fun i h hi=>absurd hi (Nat.not_lt_zero _),Below.refl _ _⟩
   case round =>
    obtain ⟨p,hp,rfl,HU,HBP⟩:=hrel;have HOP:Hid (wr.ownsRow w.heap.size 47 5 (.slice (some ⟨g,0,none⟩) k c) k (aA acc)):=kI HO.out fun z hz=>HBP.out.block z (HO.out.lt z hz).2;have HBWP:Hid (Below w.heap.size w wr):=HB.out.trans (HBP.out.mono HB.out.size);obtain ⟨y0,y1,y2,y3,y4⟩:=HROW.out.same (fun o=>HBWP.out.cell (p:=⟨b,o,none⟩) HBL.out);have hbr:b < wr.heap.size:=Nat.lt_of_lt_of_le HBL.out HBWP.out.size;have hgr:g < wr.heap.size:=(HOP.out.lt g rfl).2;have hp1:(0:Int)≤(p:Int):=by omega
    by_cases hpk:p < k
    ·have hp2:(p:Int) < (k:Int):=by omega
     have hd:decide ((p:Int) < (k:Int))=true:=by simp; omega
     have hpa:p < acc.length:=by rw [HAL.out]; exact hpk
     obtain ⟨y,hy⟩:∃ y,acc[p]=y:=⟨_,rfl⟩;have hc5:∀ c,c < 5→wr.cell? ⟨g,p * 5 + c,none⟩=y.row[c]?:=fun c hc=>by
      rw [HOP.out.cellAt (p * 5 + c) (by omega),mo acc p hpa c hc,hy]
     have s0:wr.cell? ⟨g,p * 5,none⟩=some (.string y.a):=hc5 0 (by omega);have s1:wr.cell? ⟨g,p * 5 + 1,none⟩=some (.string y.b):=hc5 1 (by omega);have s2:wr.cell? ⟨g,p * 5 + 2,none⟩=some (.string y.r):=hc5 2 (by omega);have s3:wr.cell? ⟨g,p * 5 + 3,none⟩=some (.string y.c):=hc5 3 (by omega);have s4:wr.cell? ⟨g,p * 5 + 4,none⟩=some (.string y.d):=hc5 4 (by omega);have hyf:y.fits:=by rw [← hy]; exact HAF.out _ (List.getElem_mem hpa)
     have HC:Hid (∀ W':World,Calls Tryz.prog 56 #[.agg #[.string y.a,.string y.b,.string y.r,.string y.c,.string y.d],.agg #[.string x.a,.string x.b,.string x.r,.string x.c,.string x.d]] W' fun e w'=>e=.returned (.bool (kH y x))∧Below W'.heap.size W' w'):=fun W'=>qF _ _ _ _ _ _ _ _ _ _ W' hyf.1 hyf.2.1 hyf.2.2.1 hyf.2.2.2.1 hyf.2.2.2.2 HXF.out.1 HXF.out.2.1 HXF.out.2.2.1 HXF.out.2.2.2.1 HXF.out.2.2.2.2;clear hc5 hyf;have HYE:=ax hy;clear hy;have hbp:=HBP.out;cases hq:kH y x with
     | true =>
      have HU2:Hid (∀ (i:Nat) (h:i < acc.length),i < p + 1→kH acc[i] x=true):=fun i h hi=>by
       by_cases e:i=p
       ·subst e; rw [HYE.out]; exact hq
       ·exact HU.out i h (by omega)
      rw [hq] at HC;clear hq;go_wp2_with fail
      go_region_held3 (fun w'=>w'.cell? ⟨g,p * 5,none⟩=some (.string y.a)∧w'.cell? ⟨g,p * 5 + 1,none⟩=some (.string y.b)∧w'.cell? ⟨g,p * 5 + 2,none⟩=some (.string y.r)∧w'.cell? ⟨g,p * 5 + 3,none⟩=some (.string y.c)∧w'.cell? ⟨g,p * 5 + 4,none⟩=some (.string y.d)∧w'.cell? ⟨b,off + k * 5,none⟩=some (.string x.a)∧w'.cell? ⟨b,off + k * 5 + 1,none⟩=some (.string x.b)∧w'.cell? ⟨b,off + k * 5 + 2,none⟩=some (.string x.r)∧w'.cell? ⟨b,off + k * 5 + 3,none⟩=some (.string x.c)∧w'.cell? ⟨b,off + k * 5 + 4,none⟩=some (.string x.d)∧Below wo.heap.size wo w')
       (first | assumption | exact AP (by assumption) hbx | exact ⟨s0,s1,s2,s3,s4,y0,y1,y2,y3,y4,hbp.drew⟩)
       (first | (go_at_call 56; refine (HC.out _).mono ?_; rintro e w' ⟨rfl,hbx⟩))
      rename_i hJ;have HJB:=ax hJ.2.2.2.2.2.2.2.2.2.2;have HSZ:Hid (wr.heap.size≤w'.heap.size):=by show _≤_; exact Nat.le_trans (by first | exact Nat.le_refl _ | simp) hbx.size
      clear hJ s0 s1 s2 s3 s4 y0 y1 y2 y3 y4 hd;go_wp2;go_roundw;case rel=>exact ⟨p + 1,by omega,by go_num,HU2,HJB⟩
      case measure=>simp [intOf] <;> omega
     | false =>
      have HPT:Hid (mW kH x acc=acc.take p ++ x::acc.drop p):=AO (by rw [HAL.out]; exact hp) HU.out (fun _=>by rw [HYE.out]; exact hq);rw [hq] at HC;clear hq;go_wp2_with fail
      go_region_held3 (fun w'=>w'.cell? ⟨g,p * 5,none⟩=some (.string y.a)∧w'.cell? ⟨g,p * 5 + 1,none⟩=some (.string y.b)∧w'.cell? ⟨g,p * 5 + 2,none⟩=some (.string y.r)∧w'.cell? ⟨g,p * 5 + 3,none⟩=some (.string y.c)∧w'.cell? ⟨g,p * 5 + 4,none⟩=some (.string y.d)∧w'.cell? ⟨b,off + k * 5,none⟩=some (.string x.a)∧w'.cell? ⟨b,off + k * 5 + 1,none⟩=some (.string x.b)∧w'.cell? ⟨b,off + k * 5 + 2,none⟩=some (.string x.r)∧w'.cell? ⟨b,off + k * 5 + 3,none⟩=some (.string x.c)∧w'.cell? ⟨b,off + k * 5 + 4,none⟩=some (.string x.d)∧Below wo.heap.size wo w')
       (first | assumption | exact AP (by assumption) hbx | exact ⟨s0,s1,s2,s3,s4,y0,y1,y2,y3,y4,hbp.drew⟩)
       (first | (go_at_call 56; refine (HC.out _).mono ?_; rintro e w' ⟨rfl,hbx⟩))
      rename_i hJ;have HJB:=ax hJ.2.2.2.2.2.2.2.2.2.2;have HSZ:Hid (wr.heap.size≤w'.heap.size):=by show _≤_; exact Nat.le_trans (by first | exact Nat.le_refl _ | simp) hbx.size
      obtain ⟨X,hX⟩:∃ X,w'=X:=⟨_,rfl⟩;subst hX;have HBX:Hid (Below wo.heap.size wo w'):=HJB;have HSX:Hid (wr.heap.size≤w'.heap.size):=by show _≤_; exact HSZ.out
      clear hJ s0 s1 s2 s3 s4 hd HC HYE hbp HJB HSZ;clear y0 y1 y2 y3 y4 hbr HOP HBWP HBP HU;obtain ⟨W1,hW1⟩:∃ W1,W1=w'.alloc (.cells #[] 47):=⟨_,rfl⟩;have HLIT:Hid (W1.ownsRow w'.heap.size 47 5 (.slice (some ⟨w'.heap.size,0,none⟩) 0 0) 0 []):=by
       show World.ownsRow _ _ _ _ _ _ _;rw [hW1];exact World.ownsRow_lit w' #[] 0 (Nat.le_refl _) (by unfold maxLen; omega) (by simp)
      have HB1:Hid (Below w'.heap.size w' W1):=by show Below _ _ _; rw [hW1]; exact (Below.refl _ _).alloc (Nat.le_refl _) _
      have HBO1:Hid (Below wo.heap.size wo W1):=HBX.out.trans (HB1.out.mono HBX.out.size);have HR1:Hid (W1.ownsRow w.heap.size 47 5 (.slice (some ⟨g,0,none⟩) k c) k (aA acc)):=kI HO.out fun z hz=>HBO1.out.block z (HO.out.lt z hz).2;have hz1:w'.heap.size≤W1.heap.size:=HB1.out.size;have hgX:g < w'.heap.size:=Nat.lt_of_lt_of_le (HO.out.lt g rfl).2 HBX.out.size;have hpc:p≤c:=by omega
      go_wp2_with (at_builtin; go_must (rw [← hW1]; clear hW1; refine wpList_append_own_at _ rfl _ _ 26 rfl w'.heap.size 47 iR (.agg #[.string ⟨#[]⟩,.string ⟨#[]⟩,.string ⟨#[]⟩,.string ⟨#[]⟩,.string ⟨#[]⟩]) 5 80 Tryz.underlying26 HIR.out.1 HIR.out.2.1 HIR.out.2.2.1 HIR.out.2.2.2 rfl (by decide) _ 0 [] rfl HLIT.out ⟨g,0,none⟩ p c (aA (acc.take p)) rfl (by rw [jg,List.length_take]; congr 1; have:=HAL.out; omega) (xh HR1.out p hp) (qG _) (by unfold maxLen; omega) (by omega) hz1 ?_));intro v2 w2 hown2 hgr2 _ _;have HO2:Hid (w2.ownsRow w'.heap.size 47 5 v2 p (aA (acc.take p))):=by
       show World.ownsRow _ _ _ _ _ _ _
       first | exact hown2 | (rw [Nat.zero_add,List.nil_append] at hown2; exact hown2) | simpa using hown2
      have HB2:Hid (Below w'.heap.size w' w2):=HB1.out.grown hgr2 HB1.out.size (fun z hz=>by simp [Value.ownBlock] at hz; omega);have hz2:w'.heap.size≤w2.heap.size:=HB2.out.size;have HBO2:Hid (Below w.heap.size w w2):=(HB.out.trans (HBX.out.mono HB.out.size)).trans (HB2.out.mono (Nat.le_trans HB.out.size HBX.out.size));obtain ⟨y0,y1,y2,y3,y4⟩:=HROW.out.same (fun o=>HBO2.out.cell (p:=⟨b,o,none⟩) HBL.out);have hbr:b < w2.heap.size:=Nat.lt_of_lt_of_le HBL.out HBO2.out.size;obtain ⟨W3,hW3⟩:∃ W3,W3=w2.alloc (.cells #[.string x.a,.string x.b,.string x.r,.string x.c,.string x.d] 47):=⟨_,rfl⟩;have HO3:Hid (W3.ownsRow w'.heap.size 47 5 v2 p (aA (acc.take p))):=by show World.ownsRow _ _ _ _ _ _ _; rw [hW3]; exact HO2.out.alloc _
      have HNW:Hid (∀ j u,x.row[j]?=some u→W3.cell? ((⟨w2.heap.size,0,none⟩:Addr).add j)=some u):=by show ∀ j u,_; rw [hW3]; exact Fv w2 x
      have HB3:Hid (Below w'.heap.size w' W3):=by show Below _ _ _; rw [hW3]; exact HB2.out.alloc HB2.out.size _
      have hz3:w'.heap.size≤W3.heap.size:=HB3.out.size;clear hown2 hgr2 HLIT HB1 HBO1 HR1 hz1;go_wp2_with (at_builtin; go_must (rw [← hW3]; clear hW3; refine wpList_append_own_at _ rfl _ _ 26 rfl w'.heap.size 47 iR (.agg #[.string ⟨#[]⟩,.string ⟨#[]⟩,.string ⟨#[]⟩,.string ⟨#[]⟩,.string ⟨#[]⟩]) 5 80 Tryz.underlying26 HIR.out.1 HIR.out.2.1 HIR.out.2.2.1 HIR.out.2.2.2 rfl (by decide) v2 p (aA (acc.take p)) rfl HO3.out ⟨w2.heap.size,0,none⟩ 1 1 x.row rfl rfl HNW.out (by simp [Fc.row,Value.oneCell']) (by unfold maxLen; omega) (by omega) hz3 ?_));intro v4 w4 hown4 hgr4 _ _;have HO4:Hid (w4.ownsRow w'.heap.size 47 5 v4 (p + 1) (aA (acc.take p) ++ x.row)):=hown4;have HB4:Hid (Below w'.heap.size w' w4):=HB3.out.grown hgr4 HB3.out.size (fun z hz=>(HO2.out.lt z hz).1);have hz4:w'.heap.size≤w4.heap.size:=HB4.out.size;have HBO4:Hid (Below wo.heap.size wo w4):=HBX.out.trans (HB4.out.mono HBX.out.size);have HR4:Hid (w4.ownsRow w.heap.size 47 5 (.slice (some ⟨g,0,none⟩) k c) k (aA acc)):=kI HO.out fun z hz=>HBO4.out.block z (HO.out.lt z hz).2;clear hown4 hgr4 HO3 HO2 HNW HB3 hz3 HB2 hz2 HBO2 y0 y1 y2 y3 y4 hbr;go_wp2_with (at_builtin; go_must (refine wpList_append_own_at _ rfl _ _ 26 rfl w'.heap.size 47 iR (.agg #[.string ⟨#[]⟩,.string ⟨#[]⟩,.string ⟨#[]⟩,.string ⟨#[]⟩,.string ⟨#[]⟩]) 5 80 Tryz.underlying26 HIR.out.1 HIR.out.2.1 HIR.out.2.2.1 HIR.out.2.2.2 rfl (by decide) v4 (p + 1) (aA (acc.take p) ++ x.row) rfl HO4.out ⟨g,p * 5,none⟩ (k - p) (c - p) (aA (acc.drop p)) rfl (by rw [jg,List.length_drop]; have:=HAL.out; congr 1; omega) (EX HR4.out p hp) (qG _) (by unfold maxLen; omega) (by omega) hz4 ?_));intro v5 w5 hown5 hgr5 _ _;have hn5:p + 1 + (k - p)=k + 1:=by omega
      have HB5:Hid (Below w'.heap.size w' w5):=HB4.out.grown hgr5 HB4.out.size (fun z hz=>(HO4.out.lt z hz).1);have hown6:w5.ownsRow w'.heap.size 47 5 v5 (k + 1) (aA (iU kH (rows.take (k + 1)))):=by
       rw [HNX.out,HPT.out,aA,List.flatMap_append,List.flatMap_cons,← hn5];exact hown5
      obtain ⟨ad5,c5,rfl⟩:=xg hown6;obtain ⟨g5,rfl,-⟩:=rW hown6 (Nat.succ_ne_zero _);have HO6:=ax (rX hown6 (Nat.le_trans HB.out.size HBX.out.size));have HB6:Hid (Below w.heap.size w w5):=(HB.out.trans (HBX.out.mono HB.out.size)).trans (HB5.out.mono (Nat.le_trans HB.out.size HBX.out.size));clear hown5 hown6 hgr5 hn5;go_wp2;go_roundw;case rel=>exact ⟨k + 1,g5,c5,by omega,by go_num,by first | rfl | simp,HO6,HB6⟩
      case measure=>simp [intOf] <;> omega
    ·have hd:decide ((p:Int) < (k:Int))=false:=by simp; omega
     have hpe:¬ (p:Int) < (k:Int):=by omega
     have HPT:Hid (mW kH x acc=acc.take p ++ x::acc.drop p):=AO (by rw [HAL.out]; exact hp) HU.out (fun h=>absurd (by rw [HAL.out] at h; exact h) hpk);go_wp2_with fail;go_quiet (fail);clear hd hpe;obtain ⟨X,hX⟩:∃ X,wr.drewN nq=X:=⟨_,rfl⟩;have HBX:Hid (Below wo.heap.size wo X):=by show Below _ _ _; rw [← hX]; exact below_drewN HBP.out _
     have HSX:Hid (wr.heap.size≤X.heap.size):=by show _≤_; rw [← hX]; exact Nat.le_refl _
     rw [hX];clear hX y0 y1 y2 y3 y4 hbr HOP HBWP HBP HU;obtain ⟨W1,hW1⟩:∃ W1,W1=X.alloc (.cells #[] 47):=⟨_,rfl⟩;have HLIT:Hid (W1.ownsRow X.heap.size 47 5 (.slice (some ⟨X.heap.size,0,none⟩) 0 0) 0 []):=by
      show World.ownsRow _ _ _ _ _ _ _;rw [hW1];exact World.ownsRow_lit X #[] 0 (Nat.le_refl _) (by unfold maxLen; omega) (by simp)
     have HB1:Hid (Below X.heap.size X W1):=by show Below _ _ _; rw [hW1]; exact (Below.refl _ _).alloc (Nat.le_refl _) _
     have HBO1:Hid (Below wo.heap.size wo W1):=HBX.out.trans (HB1.out.mono HBX.out.size);have HR1:Hid (W1.ownsRow w.heap.size 47 5 (.slice (some ⟨g,0,none⟩) k c) k (aA acc)):=kI HO.out fun z hz=>HBO1.out.block z (HO.out.lt z hz).2;have hz1:X.heap.size≤W1.heap.size:=HB1.out.size;have hgX:g < X.heap.size:=Nat.lt_of_lt_of_le (HO.out.lt g rfl).2 HBX.out.size;have hpc:p≤c:=by omega
     go_wp2_with (at_builtin; go_must (rw [← hW1]; clear hW1; refine wpList_append_own_at _ rfl _ _ 26 rfl X.heap.size 47 iR (.agg #[.string ⟨#[]⟩,.string ⟨#[]⟩,.string ⟨#[]⟩,.string ⟨#[]⟩,.string ⟨#[]⟩]) 5 80 Tryz.underlying26 HIR.out.1 HIR.out.2.1 HIR.out.2.2.1 HIR.out.2.2.2 rfl (by decide) _ 0 [] rfl HLIT.out ⟨g,0,none⟩ p c (aA (acc.take p)) rfl (by rw [jg,List.length_take]; congr 1; have:=HAL.out; omega) (xh HR1.out p hp) (qG _) (by unfold maxLen; omega) (by omega) hz1 ?_));intro v2 w2 hown2 hgr2 _ _;have HO2:Hid (w2.ownsRow X.heap.size 47 5 v2 p (aA (acc.take p))):=by
      show World.ownsRow _ _ _ _ _ _ _
      first | exact hown2 | (rw [Nat.zero_add,List.nil_append] at hown2; exact hown2) | simpa using hown2
     have HB2:Hid (Below X.heap.size X w2):=HB1.out.grown hgr2 HB1.out.size (fun z hz=>by simp [Value.ownBlock] at hz; omega);have hz2:X.heap.size≤w2.heap.size:=HB2.out.size;have HBO2:Hid (Below w.heap.size w w2):=(HB.out.trans (HBX.out.mono HB.out.size)).trans (HB2.out.mono (Nat.le_trans HB.out.size HBX.out.size));obtain ⟨y0,y1,y2,y3,y4⟩:=HROW.out.same (fun o=>HBO2.out.cell (p:=⟨b,o,none⟩) HBL.out);have hbr:b < w2.heap.size:=Nat.lt_of_lt_of_le HBL.out HBO2.out.size;obtain ⟨W3,hW3⟩:∃ W3,W3=w2.alloc (.cells #[.string x.a,.string x.b,.string x.r,.string x.c,.string x.d] 47):=⟨_,rfl⟩;have HO3:Hid (W3.ownsRow X.heap.size 47 5 v2 p (aA (acc.take p))):=by show World.ownsRow _ _ _ _ _ _ _; rw [hW3]; exact HO2.out.alloc _
     have HNW:Hid (∀ j u,x.row[j]?=some u→W3.cell? ((⟨w2.heap.size,0,none⟩:Addr).add j)=some u):=by show ∀ j u,_; rw [hW3]; exact Fv w2 x
     have HB3:Hid (Below X.heap.size X W3):=by show Below _ _ _; rw [hW3]; exact HB2.out.alloc HB2.out.size _
     have hz3:X.heap.size≤W3.heap.size:=HB3.out.size;clear hown2 hgr2 HLIT HB1 HBO1 HR1 hz1;go_wp2_with (at_builtin; go_must (rw [← hW3]; clear hW3; refine wpList_append_own_at _ rfl _ _ 26 rfl X.heap.size 47 iR (.agg #[.string ⟨#[]⟩,.string ⟨#[]⟩,.string ⟨#[]⟩,.string ⟨#[]⟩,.string ⟨#[]⟩]) 5 80 Tryz.underlying26 HIR.out.1 HIR.out.2.1 HIR.out.2.2.1 HIR.out.2.2.2 rfl (by decide) v2 p (aA (acc.take p)) rfl HO3.out ⟨w2.heap.size,0,none⟩ 1 1 x.row rfl rfl HNW.out (by simp [Fc.row,Value.oneCell']) (by unfold maxLen; omega) (by omega) hz3 ?_));intro v4 w4 hown4 hgr4 _ _;have HO4:Hid (w4.ownsRow X.heap.size 47 5 v4 (p + 1) (aA (acc.take p) ++ x.row)):=hown4;have HB4:Hid (Below X.heap.size X w4):=HB3.out.grown hgr4 HB3.out.size (fun z hz=>(HO2.out.lt z hz).1);have hz4:X.heap.size≤w4.heap.size:=HB4.out.size;have HBO4:Hid (Below wo.heap.size wo w4):=HBX.out.trans (HB4.out.mono HBX.out.size);have HR4:Hid (w4.ownsRow w.heap.size 47 5 (.slice (some ⟨g,0,none⟩) k c) k (aA acc)):=kI HO.out fun z hz=>HBO4.out.block z (HO.out.lt z hz).2;clear hown4 hgr4 HO3 HO2 HNW HB3 hz3 HB2 hz2 HBO2 y0 y1 y2 y3 y4 hbr;obtain rfl:p=k:=by omega
     have HDN:Hid (acc.drop p=[]):=List.drop_of_length_le (by rw [HAL.out]; exact Nat.le_refl _);by_cases hce:c=p
     all_goals
      go_wp2_with (at_builtin; go_must (refine wpList_append_own_at _ rfl _ _ 26 rfl X.heap.size 47 iR (.agg #[.string ⟨#[]⟩,.string ⟨#[]⟩,.string ⟨#[]⟩,.string ⟨#[]⟩,.string ⟨#[]⟩]) 5 80 Tryz.underlying26 HIR.out.1 HIR.out.2.1 HIR.out.2.2.1 HIR.out.2.2.2 rfl (by decide) v4 (p + 1) (aA (acc.take p) ++ x.row) rfl HO4.out _ 0 _ (aA (acc.drop p)) rfl (by rw [HDN.out]; rfl) (EY HDN.out) (qG _) (by unfold maxLen; omega) (by omega) hz4 ?_));intro v5 w5 hown5 hgr5 _ _;have hn5:p + 1 + 0=p + 1:=rfl;have HB5:Hid (Below X.heap.size X w5):=HB4.out.grown hgr5 HB4.out.size (fun z hz=>(HO4.out.lt z hz).1);have hown6:w5.ownsRow X.heap.size 47 5 v5 (p + 1) (aA (iU kH (rows.take (p + 1)))):=by
       rw [HNX.out,HPT.out,aA,List.flatMap_append,List.flatMap_cons,← hn5];exact hown5
      obtain ⟨ad5,c5,rfl⟩:=xg hown6;obtain ⟨g5,rfl,-⟩:=rW hown6 (Nat.succ_ne_zero _);have HO6:=ax (rX hown6 (Nat.le_trans HB.out.size HBX.out.size));have HB6:Hid (Below w.heap.size w w5):=(HB.out.trans (HBX.out.mono HB.out.size)).trans (HB5.out.mono (Nat.le_trans HB.out.size HBX.out.size));clear hown5 hown6 hgr5 hn5;go_wp2;go_roundw;case rel=>exact ⟨p + 1,g5,c5,by omega,by go_num,by first | rfl | simp,HO6,HB6⟩
      case measure=>simp [intOf] <;> omega
  ·obtain rfl:k=rows.length:=by omega
   have HE:Hid (wr.ownsRow w.heap.size 47 5 (.slice (some ⟨g,0,none⟩) rows.length c) rows.length (aA (iU kH rows))):=by have h:=HO.out; rw [List.take_length] at h; exact h
   go_wp2;go_ret;exact ⟨⟨_,rfl,HE.out⟩,HB.out⟩
end Go.Proofs.YtogjfppkbkgaeaaGreat
