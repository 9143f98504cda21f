/- Contracts of the document's functions on goals, and on what an expression names. -/
import Derived.Test.YtdmniljjnaebbaaGreatDoorJ12
import Derived.Test.YtdmniljjnaebbaaGreatDoorJ10
open Go.Proofs.Tryz
set_option maxHeartbeats 80000000
namespace Go.Proofs.YtdmniljjnaebbaaGreatDoor
open Go.ChangeShapes Go.WideShapes Go.ChangeAt Go.RowKit
open Pl
def aG (ts:List Ty) (ty n:ByteArray):List Ex:=(eO ts ty n).getD []
def gl (ts:List Ty) (rel:ByteArray):List Al→List ByteArray
 | []=>[]
 | a::xs=>if (aG ts a.t rel).isEmpty then gl ts rel xs else a.t::gl ts rel xs
def fH (ts:List Ty) (ty over rel:ByteArray):List ByteArray:=gl ts rel (aL (aG ts ty over))
theorem zh (ts:List Ty) (rel:ByteArray) (xs ys:List Al):gl ts rel (xs ++ ys)=gl ts rel xs ++ gl ts rel ys:=by
 induction xs with
 | nil=>rfl
 | cons a xs ih=>simp only [List.cons_append,gl,ih]; split <;> simp
theorem MH (ts:List Ty) (rel:ByteArray) (xs:List Al) (k:Nat) (h:k < xs.length) (he:aG ts xs[k].t rel=[]):gl ts rel (xs.take (k + 1))=gl ts rel (xs.take k):=by
 rw [List.take_succ_eq_append_getElem h,zh]; simp [gl,he]
theorem JF (ts:List Ty) (rel:ByteArray) (xs:List Al) (k:Nat) (h:k < xs.length) (he:aG ts xs[k].t rel ≠ []):gl ts rel (xs.take (k + 1))=gl ts rel (xs.take k) ++ [xs[k].t]:=by
 rw [List.take_succ_eq_append_getElem h,zh]; simp [gl,he]
theorem Es (ts:List Ty) (rel:ByteArray) (xs:List Al):(gl ts rel xs).length≤xs.length:=by
 induction xs with
 | nil=>simp [gl]
 | cons a xs ih=>simp only [gl]; split <;> simp <;> omega
theorem He:(prog.info? 9).map (fun i=>(i.zero,i.size,i.bytes))=some (some (.string ⟨#[]⟩),1,16):=by kernel_rfl
def mJ (xs:List ByteArray):List Value:=xs.map Value.string
def Le (w:World) (ad:Option Addr) (xs:List ByteArray):Prop:=xs=[] ∨ ∃ b off,ad=some ⟨b,off,none⟩∧b < w.heap.size∧∀ (i:Nat) (h:i < xs.length),w.cell? ⟨b,off + i,none⟩=some (.string xs[i])
theorem Le.below {w w':World} {ad:Option Addr} {xs:List ByteArray} (h:Le w ad xs) (hB:Below w.heap.size w w'):Le w' ad xs:=by
 rcases h with h | ⟨b,off,e,hb,hr⟩
 ·exact .inl h
 ·exact .inr ⟨b,off,e,Nat.lt_of_lt_of_le hb hB.size,fun i hi=>(hB.cell (p:=⟨b,off + i,none⟩) hb).trans (hr i hi)⟩
theorem JG {w:World} {base k:Nat} {v:Value} {xs:List ByteArray} (h:w.ownsRow base 9 1 v k (mJ xs)):∃ ad cp,v=.slice ad xs.length cp∧Le w ad xs∧∀ p,ad=some p→base≤p.block:=by
 have hl:xs.length=k:=by have:=h.1; simpa [mJ] using this
 have h2:=h;rcases h.2 with ⟨rfl,h0⟩ | ⟨g,cp,cur,rfl,hbg,hg,hnc,-⟩
 ·refine ⟨none,0,?_,.inl (List.length_eq_zero_iff.1 (by omega)),fun p hp=>by cases hp⟩;rw [hl,h0]
 ·have hlt:=h2.lt g rfl;refine ⟨_,cp,by rw [hl],.inr ⟨g,0,rfl,hlt.2,fun j hj=>?_⟩,fun p hp=>by injection hp with hp; rw [← hp]; exact hlt.1⟩;have:=h2.cells (g:=g) rfl j (.string xs[j]) (by simp [mJ,hj]);rw [Nat.zero_add];have e:(⟨g,0,none⟩:Addr).add j=⟨g,j,none⟩:=by
   unfold Addr.add;by_cases hj:j=0
   ·subst hj; simp
   ·simp [hj]
  rwa [e] at this
theorem l8.light {rs:List TR} {ad:Option Addr} {rows:List ER} (h:l8 rs ad rows) (hl:∀ r ∈ rs,r.light):rows.length≤1048576∧∀ q ∈ rows,q.e.light:=by
 rcases h with rfl | ⟨t,ht,q,hq,rfl,-⟩
 ·exact ⟨by simp,by simp⟩
 ·exact (hl t ht).2 q hq
theorem wL (rows:List ER) (hl:∀ q ∈ rows,q.e.light):(aL (ag rows)).length≤1048576:=by
 induction rows with
 | nil=>simp [ag,aL]
 | cons r rows ih =>
  have e:ag (r::rows)=r.e::ag rows:=rfl;rw [e];simp only [aL];split
  ·exact (hl r (by simp)).1
  ·exact ih fun q hq=>hl q (by simp [hq])
set_option maxRecDepth 100000 in
theorem tX (ad:Option Addr) (cap:Nat) (rs:List TR) (typ over rel:ByteArray) (w:World) (hlen:rs.length≤1048576) (hs:fo w ad rs) (hl:∀ r ∈ rs,r.light) :
  Calls prog 154 #[.slice ad rs.length cap,.string typ,.string over,.string rel] w fun e w'=>(∃ (ad':Option Addr) (cap':Nat),e=.returned (.slice ad' (fH (af rs) typ over rel).length cap')∧Le w' ad' (fH (af rs) typ over rel)∧∀ p,ad'=some p→w.heap.size≤p.block)∧Below w.heap.size w w':=by
 have HS:Hid (fo w ad rs):=hs;have HL:Hid (∀ r ∈ rs,r.light):=hl;clear hs hl;obtain ⟨i0,hi,hz0,hz1,hz2⟩:=info_parts He;go_enter func154,ntmps154;go_wp2_with fail;have hbA:Below w.heap.size w (w.alloc (.cells #[] 9)):=(Below.refl _ _).alloc (Nat.le_refl _) _;have hown1:(w.alloc (.cells #[] 9)).ownsRow w.heap.size 9 1 (.slice (some ⟨w.heap.size,0,none⟩) 0 0) 0 []:=World.ownsRow_made w #[] 0 (Nat.le_refl _) (by decide) rfl;refine (gP ad cap rs typ over _ hlen (HS.out.below hbA) HL.out).mono ?_;rintro e w1 ⟨⟨rows,ad1,cap1,rfl,hx1,hs1,hf1⟩,rfl⟩;have hl1:=hf1.light HL.out;have hal:=wL rows hl1.2;go_wp2_with fail;refine (tV ad1 cap1 rows _ hl1.1 hs1).mono ?_;rintro e w1 ⟨⟨ad2,cap2,rfl,-,hf2⟩,rfl⟩;have HG:Hid (fH (af rs) typ over rel=gl (af rs) rel (aL (ag rows))):=by show _=_; rw [hx1]; rfl
 have HA:Hid (gu w ad2 (aL (ag rows))):=hf2.sl (hf1.sl HS.out);generalize aL (ag rows)=xs at *
 clear hs1 hx1 hf1 hl1 hf2;have HBA:Hid (Below w.heap.size w (w.alloc (.cells #[] 9))):=hbA;have HO1:Hid ((w.alloc (.cells #[] 9)).ownsRow w.heap.size 9 1 (.slice (some ⟨w.heap.size,0,none⟩) 0 0) 0 []):=hown1;clear hbA hown1;obtain ⟨wA,hwA⟩:∃ wA,wA=w.alloc (.cells #[] 9):=⟨_,rfl⟩;rw [← hwA] at HBA HO1 ⊢;clear hwA;go_wp2_with fail;go_loopw [9,11] (fun v i wr=>∃ k:Nat,k≤xs.length∧i=.int .i64 k∧wr.ownsRow w.heap.size 9 1 v (gl (af rs) rel (xs.take k)).length (mJ (gl (af rs) rel (xs.take k)))∧Below w.heap.size w wr) (fun _ i _=>xs.length - (intOf i).toNat);case atStart=>exact ⟨0,Nat.zero_le _,rfl,by simpa [mJ,gl] using HO1.out,HBA.out⟩
 case round =>
  obtain ⟨k,hk,rfl,hown,hB⟩:=hrel;by_cases hlt:k < xs.length
  ·have HST:Hid (fo _ ad rs):=HS.out.below hB;rcases HA.out.below hB with rfl | ⟨b,off,rfl,hb,hr⟩
   ·simp at hlt
   obtain ⟨t0,t1⟩:=hr k hlt;have hBs:=hB.size;have hgl:=Es (af rs) rel (xs.take k);rw [List.length_take] at hgl;have HBH:Hid (Below w.heap.size w wr):=hB;have HOW:Hid (wr.ownsRow w.heap.size 9 1 _ _ _):=hown;clear hr hB hown;go_wp2_with fail;refine (gP ad cap rs xs[k].t rel _ hlen HST.out HL.out).mono ?_;rintro e w1 ⟨⟨rows2,ad3,cap3,rfl,hx3,-,-⟩,rfl⟩;by_cases hz:rows2.length=0
   ·have HE:Hid (gl (af rs) rel (xs.take (k + 1))=gl (af rs) rel (xs.take k)):=by
     refine MH _ _ _ _ hlt ?_;show _=_;unfold aG;rw [← hx3,List.length_eq_zero_iff.1 hz]; rfl
    rw [hz];clear hx3;go_wp2;go_roundw;case rel=>exact ⟨k + 1,by omega,by go_num,by rw [HE.out]; exact HOW.out,HBH.out⟩
    case measure=>simp [intOf] <;> omega
   ·have HX:Hid (gl (af rs) rel (xs.take (k + 1))=gl (af rs) rel (xs.take k) ++ [xs[k].t]):=by
     refine JF _ _ _ _ hlt ?_;show ¬ _=_;unfold aG;rw [← hx3];intro h2;apply hz;rw [← aP,h2]; rfl
    have hzz:(0:Int) < (rows2.length:Int):=by omega
    clear hx3;go_wp2_with (at_builtin; refine wpList_append_own _ rfl _ _ 255 rfl w.heap.size 9 i0 (.string ⟨#[]⟩) 1 16 underlying255 hi hz0 hz1 hz2 rfl (by decide) _ _ _ rfl (HOW.out.alloc _) ⟨w1.heap.size,0,none⟩ 1 1 [.string xs[k].t] rfl rfl (cell_one_new _ _ _) (by intro u hu; simp at hu; subst hu; rfl) (by unfold maxLen; omega) (by omega) (by simp; omega) ?_);intro v' w3 hown3 hgrow _;have hb3:Below w.heap.size w w3:=(HBH.out.alloc HBH.out.size _).grown hgrow (by simp; omega) (fun i hi=>(HOW.out.lt i hi).1);have HO3:Hid (w3.ownsRow w.heap.size 9 1 v' (gl (af rs) rel (xs.take (k + 1))).length (mJ (gl (af rs) rel (xs.take (k + 1))))):=by
     show World.ownsRow _ _ _ _ _ _ _;rw [HX.out];simpa [mJ] using hown3
    clear hown3 hgrow HOW;go_wp2;go_roundw;case rel=>exact ⟨k + 1,by omega,by go_num,HO3.out,hb3⟩
    case measure=>simp [intOf] <;> omega
  ·obtain rfl:k=xs.length:=by omega
   have HE:Hid (xs.take xs.length=xs):=by show _=_; rw [List.take_length]
   rw [HE.out,← HG.out] at hown;obtain ⟨ad',cp,rfl,hsl,hnew⟩:=JG hown;have HNW:Hid (∀ p,ad'=some p→w.heap.size≤p.block):=hnew;have HSL:Hid (Le _ ad' (fH (af rs) typ over rel)):=hsl;have HBH:Hid (Below w.heap.size w _):=hB;clear hsl hB hown hnew;go_wp2;go_ret;exact ⟨⟨ad',cp,rfl,HSL.out,HNW.out⟩,HBH.out⟩
def ma (ts:List Ty) (a:Al):Bool:=jC ts a.t && (a.s.toList.isEmpty || !(aG ts a.t a.s).isEmpty)
def mM (ts:List Ty) (xs:List Al):Bool:=xs.all (ma ts)
def kz (ts:List Ty) (typ:ByteArray) (e:Ex):Bool :=
 if e.kind=2 then !(aG ts typ e.name).isEmpty
 else if e.kind=3 then aV (aG ts typ e.over) && !(fH ts typ e.over e.name).isEmpty
 else true
def aK (ts:List Ty) (typ:ByteArray):List Ex→Bool
 | []=>true
 | e::es=>if mM ts e.allow && kz ts typ e then aK ts typ es else false
def kL (ts:List Ty) (xs:List Al) (k:Nat):Bool:=mM ts (xs.take k)
theorem wM (ts:List Ty) (xs:List Al):kL ts xs 0=true:=by simp [kL,mM]
theorem lH (ts:List Ty) (xs:List Al) (k:Nat) (h:k < xs.length):kL ts xs (k + 1)=(kL ts xs k && ma ts xs[k]):=by
 unfold kL mM; rw [List.take_succ_eq_append_getElem h,List.all_append]; simp
theorem qM (ts:List Ty) (xs:List Al) (k:Nat) (h:k < xs.length) (hb:ma ts xs[k]=false):mM ts xs=false:=by
 unfold mM;rw [Bool.eq_false_iff]; intro h2; rw [List.all_eq_true] at h2; have:=h2 xs[k] (List.getElem_mem h); rw [hb] at this; cases this
theorem ah {w w':World} {g o:Nat} {v:Value} (hB:Below w.heap.size w w') (hg:g < w.heap.size) (h:w.cell? ⟨g,o,none⟩=some v):w'.cell? ⟨g,o,none⟩=some v:=(hB.cell (p:=⟨g,o,none⟩) hg).trans h
set_option maxRecDepth 8000 in
theorem Et (ad adE:Option Addr) (cap capE:Nat) (rs:List TR) (typ:ByteArray) (rows:List ER) (w:World) (hlen:rs.length≤1048576) (hs:fo w ad rs) (hl:∀ r ∈ rs,r.light) (hle:rows.length≤1048576) (hse:dZ w adE rows) (hlE:∀ q ∈ rows,q.e.light) :
  Calls prog 107 #[.slice ad rs.length cap,.string typ,.slice adE rows.length capE] w fun e w'=>e=.returned (.bool (aK (af rs) typ (ag rows)))∧Below w.heap.size w w':=by
 have HS:Hid (fo w ad rs):=hs;have HL:Hid (∀ r ∈ rs,r.light):=hl;have HE:Hid (dZ w adE rows):=hse;have HLE:Hid (∀ q ∈ rows,q.e.light):=hlE;clear hs hl hse hlE;go_enter func107,ntmps107;go_wp2_with fail;go_loopw [7] (fun i wr=>∃ k:Nat,k≤rows.length∧i=.int .i64 k∧Hid (aK (af rs) typ (ag (rows.drop k))=aK (af rs) typ (ag rows))∧Hid (Below w.heap.size w wr)) (fun i _=>rows.length - (intOf i).toNat);case atStart=>exact ⟨0,Nat.zero_le _,rfl,rfl,Below.refl _ _⟩
 case round =>
  obtain ⟨k,hk,rfl,HP,HB⟩:=hrel;by_cases hlt:k < rows.length
  ·have HS1:Hid (fo _ ad rs):=HS.out.below HB.out;rcases HE.out.below HB.out with rfl | ⟨b,off,rfl,hb,hr,hok⟩
   ·simp at hlt
   obtain ⟨t0,t1,t2,t3,t4⟩:=hr k hlt;have HOK:Hid (rows[k].ok wr):=hok rows[k] (List.getElem_mem hlt);have lg:=(HLE.out rows[k] (List.getElem_mem hlt)).1;have hk1:=bq k;have hk2:(k:Int) < (rows.length:Int):=by omega
   clear hr hok;obtain ⟨W1,hW1⟩:∃ W1,W1=wr.alloc (.cells #[.int .i64 rows[k].e.kind,.slice rows[k].adA rows[k].e.allow.length rows[k].capA,.string rows[k].e.over,.string rows[k].e.name,.slice rows[k].adK rows[k].e.kids.length rows[k].capK] 190):=⟨_,rfl⟩;have hal:Below wr.heap.size wr W1:=by rw [hW1]; exact (Below.refl _ _).alloc (Nat.le_refl _) _
   have HAL:Hid (Below wr.heap.size wr W1):=hal;have HBW:=fD HB hal;have hgl:wr.heap.size < W1.heap.size:=by rw [hW1]; simp
   have g0:W1.cell? ⟨wr.heap.size,0,none⟩=some (.int .i64 rows[k].e.kind):=by rw [hW1]; simp
   have g1:W1.cell? ⟨wr.heap.size,1,none⟩=some (.slice rows[k].adA rows[k].e.allow.length rows[k].capA):=by rw [hW1]; simp
   have g2:W1.cell? ⟨wr.heap.size,2,none⟩=some (.string rows[k].e.over):=by rw [hW1]; simp
   have g3:W1.cell? ⟨wr.heap.size,3,none⟩=some (.string rows[k].e.name):=by rw [hW1]; simp
   clear hal;go_wp2_with fail;rw [← hW1];clear hW1;go_loopw [9] (fun i w2=>∃ j:Nat,j≤rows[k].e.allow.length∧i=.int .i64 j∧Hid (kL (af rs) rows[k].e.allow j=true)∧Hid (Below W1.heap.size W1 w2)) (fun i _=>rows[k].e.allow.length - (intOf i).toNat);case atStart=>exact ⟨0,Nat.zero_le _,rfl,wM _ _,Below.refl _ _⟩
   case round =>
    obtain ⟨j,hj,rfl,HJ,HB2⟩:=hrel;have d0:=ah HB2.out hgl g0;have d1:=ah HB2.out hgl g1;have d2:=ah HB2.out hgl g2;have d3:=ah HB2.out hgl g3;clear g0 g1 g2 g3 t0 t1 t2 t3 t4;have HBO:Hid (Below w.heap.size w _):=HBW.out.trans (HB2.out.mono HBW.out.size);have HS2:Hid (fo _ ad rs):=HS.out.below HBO.out;by_cases hjl:j < rows[k].e.allow.length
    ·have hA2:gu _ rows[k].adA rows[k].e.allow:=((HOK.out.1).below HAL.out).below HB2.out;rcases hA2 with hnil | ⟨ba,offa,hadA,hba,hra⟩
     ·rw [hnil] at hjl; simp at hjl
     rw [hadA] at d1;obtain ⟨q0,q1⟩:=hra j hjl;have hj1:=bq j;have hj2:(j:Int) < (rows[k].e.allow.length:Int):=by omega
     clear hra hadA;go_wp2_with fail;refine (Eo ad cap rs _ _ hlen (HS2.out.below ((Below.refl _ _).alloc (Nat.le_refl _) _))).mono ?_;rintro e w3 ⟨rfl,rfl⟩;cases hty:jC (af rs) rows[k].e.allow[j].t with
     | false =>
      have HN:Hid (aK (af rs) typ (ag rows)=false):=by
       show _=_;rw [← HP.out,eX _ _ hlt];simp [aK,qM (af rs) _ j hjl (by simp [ma,hty])]
      go_wp2;go_ret;exact ⟨by rw [HN.out]; rfl,HBO.out.alloc HBO.out.size _⟩
     | true =>
      cases he:rows[k].e.allow[j].s.toList.isEmpty with
      | true =>
       have HJ2:Hid (kL (af rs) rows[k].e.allow (j + 1)=true):=by show _=_; rw [lH _ _ _ hjl,HJ.out]; simp [ma,hty,he]
       go_wp2;go_roundw;case rel=>exact ⟨j + 1,by omega,by go_num,HJ2,HB2.out.alloc HB2.out.size _⟩
       case measure=>simp [intOf] <;> omega
      | false =>
       go_wp2_with fail;refine (gP ad cap rs _ _ _ hlen (HS2.out.below ((Below.refl _ _).alloc (Nat.le_refl _) _)) HL.out).mono ?_;rintro e w3 ⟨⟨rows2,ad3,cap3,rfl,hx3,-,-⟩,rfl⟩;by_cases hz:rows2.length=0
       ·have HN:Hid (aK (af rs) typ (ag rows)=false):=by
         have h1:aG (af rs) rows[k].e.allow[j].t rows[k].e.allow[j].s=[]:=by unfold aG; rw [← hx3,List.length_eq_zero_iff.1 hz]; rfl
         show _=_;rw [← HP.out,eX _ _ hlt];simp [aK,qM (af rs) _ j hjl (by simp [ma,he,h1])]
        rw [hz];clear hx3;go_wp2;go_ret;exact ⟨by rw [HN.out]; rfl,HBO.out.alloc HBO.out.size _⟩
       ·have HJ2:Hid (kL (af rs) rows[k].e.allow (j + 1)=true):=by
         have h1:aG (af rs) rows[k].e.allow[j].t rows[k].e.allow[j].s ≠ []:=by
          unfold aG;rw [← hx3];intro h2;apply hz;rw [← aP,h2]; rfl
         show _=_;rw [lH _ _ _ hjl,HJ.out]; simp [ma,hty,h1]
        have hzb:((rows2.length:Int) == 0)=false:=by simp; intro h; apply hz; rw [h]; rfl
        clear hx3;go_wp2;go_roundw;case rel=>exact ⟨j + 1,by omega,by go_num,HJ2,HB2.out.alloc HB2.out.size _⟩
        case measure=>simp [intOf] <;> omega
    ·have HRA:Hid (mM (af rs) rows[k].e.allow=true):=by
      have:=HJ.out;unfold kL at this;rwa [List.take_of_length_le (by omega)] at this
     by_cases h2:rows[k].e.kind=2
     ·go_wp2_with fail;refine (gP ad cap rs _ _ _ hlen HS2.out HL.out).mono ?_;rintro e w3 ⟨⟨rows2,ad3,cap3,rfl,hx3,-,-⟩,rfl⟩;by_cases hz:rows2.length=0
      ·have HN:Hid (aK (af rs) typ (ag rows)=false):=by
        have h1:aG (af rs) typ rows[k].e.name=[]:=by unfold aG; rw [← hx3,List.length_eq_zero_iff.1 hz]; rfl
        show _=_;rw [← HP.out,eX _ _ hlt];simp [aK,kz,h2,h1]
       rw [hz];clear hx3;go_wp2;go_ret;exact ⟨by rw [HN.out]; rfl,HBO.out⟩
      ·have HP2:Hid (aK (af rs) typ (ag (rows.drop (k + 1)))=aK (af rs) typ (ag rows)):=by
        have h1:aG (af rs) typ rows[k].e.name ≠ []:=by
         unfold aG;rw [← hx3];intro h2;apply hz;rw [← aP,h2]; rfl
        show _=_;rw [← HP.out,eX _ _ hlt];simp [aK,kz,h2,h1,HRA.out]
       have hzb:((rows2.length:Int) == 0)=false:=by simp; intro h; apply hz; rw [h]; rfl
       clear hx3;go_wp2;go_roundw;case rel=>exact ⟨k + 1,by omega,by go_num,HP2,HBO⟩
       case measure=>simp [intOf] <;> omega
     by_cases h3:rows[k].e.kind=3
     ·go_wp2_with fail;refine (gP ad cap rs _ _ _ hlen HS2.out HL.out).mono ?_;rintro e w3 ⟨⟨rows2,ad3,cap3,rfl,hx3,hs3,hf3⟩,rfl⟩;have hl3:=hf3.light HL.out;go_wp2_with fail;refine (AQ ad3 cap3 rows2 _ hl3.1 hs3 hl3.2).mono ?_;rintro e w3 ⟨rfl,rfl⟩;have HX:Hid (ag rows2=aG (af rs) typ rows[k].e.over):=hx3;clear hx3 hs3 hf3 hl3;rw [HX.out];cases hd:aV (aG (af rs) typ rows[k].e.over) with
      | false =>
       have HN:Hid (aK (af rs) typ (ag rows)=false):=by
        show _=_;rw [← HP.out,eX _ _ hlt];simp [aK,kz,h3,hd]
       go_wp2;go_ret;exact ⟨by rw [HN.out]; rfl,HBO.out⟩
      | true =>
       go_wp2_with fail;refine (tX ad cap rs _ _ _ _ hlen HS2.out HL.out).mono ?_;rintro e w4 ⟨⟨ad4,cap4,rfl,-⟩,hb4⟩;have HB4:=fD HBO hb4;clear hb4;by_cases hz:(fH (af rs) typ rows[k].e.over rows[k].e.name).length=0
       ·have HN:Hid (aK (af rs) typ (ag rows)=false):=by
         show _=_;rw [← HP.out,eX _ _ hlt];simp [aK,kz,h3,List.length_eq_zero_iff.1 hz]
        rw [hz];go_wp2;go_ret;exact ⟨by rw [HN.out]; rfl,HB4.out⟩
       ·have HP2:Hid (aK (af rs) typ (ag (rows.drop (k + 1)))=aK (af rs) typ (ag rows)):=by
         have h1:fH (af rs) typ rows[k].e.over rows[k].e.name ≠ []:=by intro h; apply hz; rw [h]; rfl
         show _=_;rw [← HP.out,eX _ _ hlt];simp [aK,kz,h3,h1,hd,HRA.out]
        have hzb:(((fH (af rs) typ rows[k].e.over rows[k].e.name).length:Int) == 0)=false:=by simp; intro h; apply hz; rw [h]; rfl
        go_wp2;go_roundw;case rel=>exact ⟨k + 1,by omega,by go_num,HP2,HB4⟩
        case measure=>simp [intOf] <;> omega
     ·have HP2:Hid (aK (af rs) typ (ag (rows.drop (k + 1)))=aK (af rs) typ (ag rows)):=by
       show _=_;rw [← HP.out,eX _ _ hlt];simp [aK,kz,h2,h3,HRA.out]
      have hb2:(rows[k].e.kind == 2)=false:=by simpa using h2
      have hb3:(rows[k].e.kind == 3)=false:=by simpa using h3
      go_wp2;go_roundw;case rel=>exact ⟨k + 1,by omega,by go_num,HP2,HBO⟩
      case measure=>simp [intOf] <;> omega
  ·have HN:Hid (aK (af rs) typ (ag rows)=true):=by show _=_; rw [← HP.out,List.drop_of_length_le (by omega)]; rfl
   go_wp2;go_ret;exact ⟨by rw [HN.out]; rfl,HB.out⟩
def aR (i:Nat) (kind:Int):List Int→Nat→List Bool→List Bool
 | [],_,out=>out
 | x::xs,k,out=>aR i kind xs (k + 1) (out.set x.toNat (out.getD i false || (kind == 6 && k == 1)))
def fM (es:List Ex):Nat→List Bool→List Bool
 | 0,out=>out
 | i + 1,out=>fM es i (match es[i]? with | none=>out | some e=>aR i e.kind e.kids 0 out)
def dm (es:List Ex):List Bool:=fM es es.length (List.replicate es.length false)
theorem Ct (i:Nat) (kind:Int) (xs:List Int) (k:Nat) (out:List Bool):(aR i kind xs k out).length=out.length:=by
 induction xs generalizing k out with
 | nil=>rfl
 | cons x xs ih=>simp [aR,ih]
def bools (xs:List Bool):List Value:=xs.map Value.bool
theorem Fil.set {w wr:World} {g n o:Nat} {xs:List Value} (h:Fil w wr g n xs) (v:Value) (ho:o < xs.length) (hn:o < n):Fil w (wr.setCell ⟨g,o,none⟩ v) g n (xs.set o v) where
 below:=h.below.setCell (p:=⟨g,o,none⟩) h.ge v
 ge:=h.ge
 lt:=by simpa using h.lt
 done j hj:=by
  by_cases e:j=o
  ·subst e;obtain ⟨u,hu⟩:=Option.isSome_iff_exists.mp (h.there j hn);rw [oO hu];simp
  ·have hj':j < xs.length:=by simpa using hj
   rw [fG (Ne.symm e),h.done j hj',List.getElem_set_ne (Ne.symm e)]
 there j hj:=by
  by_cases e:j=o
  ·subst e;obtain ⟨u,hu⟩:=Option.isSome_iff_exists.mp (h.there j hn);rw [oO hu]; rfl
  ·rw [fG (Ne.symm e)];exact h.there j hj
 free j:=by simpa using h.free j
theorem Fil.drew {w wr:World} {g n:Nat} {xs:List Value} (h:Fil w wr g n xs):Fil w wr.drew g n xs:=⟨h.below.drew,h.ge,h.lt,h.done,h.there,h.free⟩
theorem zi {w w0:World} {n:Nat} {base:Nat} {e:TypeId} {v:Value} (h:w0.ownsRow base e 1 (.slice (some ⟨w.heap.size,0,none⟩) n n) n (madeCells #[v] (n * 1)).toList) (hg:w.grownBy w0 none):Fil w w0 w.heap.size n (List.replicate n v) where
 below:=(Below.refl _ _).grown hg (Nat.le_refl _) (fun k hk=>by cases hk)
 ge:=Nat.le_refl _
 lt:=(h.lt w.heap.size rfl).2
 done j hj:=by
  have hj':j < n:=by simpa using hj
  rw [h.cellAt j (by omega),toList_madeCells_one];simp [hj']
 there j hj:=by
  rw [h.cellAt j (by omega),List.getElem?_eq_getElem (by rw [h.1]; omega)]; rfl
 free j:=h.frozenAt j
theorem wN:(prog.info? 4).map (fun i=>(i.zero,i.size,i.bytes))=some (some (.bool false),1,1):=by kernel_rfl
theorem wO (es:List Ex) (m:Nat) (out:List Bool) (h:m < es.length):fM es (m + 1) out=fM es m (aR m es[m].kind es[m].kids 0 out):=by
 simp [fM,h]
theorem dO (i:Nat) (kind:Int) (ks:List Int) (j:Nat) (out:List Bool) (h:j < ks.length):aR i kind (ks.drop j) j out=aR i kind (ks.drop (j + 1)) (j + 1) (out.set ks[j].toNat (out.getD i false || (kind == 6 && j == 1))):=by
 rw [List.drop_eq_getElem_cons h]; rfl
theorem gQ (out:List Bool) (o:Nat) (v:Bool):bools (out.set o v)=(bools out).set o (.bool v):=by simp [bools,List.map_set]
def bY (n:Nat) (ks:List Int):Prop:=∀ x ∈ ks,0≤x∧x < (n:Int)
theorem Hf (ad:Option Addr) (cap:Nat) (rs:List ER) (w:World) (hlen:rs.length≤1048576) (hs:dZ w ad rs) (hl:∀ r ∈ rs,r.e.light) (hk:∀ r ∈ rs,bY rs.length r.e.kids) :
  Calls prog 160 #[.slice ad rs.length cap] w fun e w'=>e=.returned (.slice (some ⟨w.heap.size,0,none⟩) rs.length rs.length)∧Fil w w' w.heap.size rs.length (bools (dm (ag rs))):=by
 have HS:Hid (dZ w ad rs):=hs;have HL:Hid (∀ r ∈ rs,r.e.light):=hl;have HK:Hid (∀ r ∈ rs,bY rs.length r.e.kids):=hk;clear hs hl hk;obtain ⟨inf,hi,hz0,hz1,hz2⟩:=info_parts wN;go_enter func160,ntmps160;go_wp2_with (at_make; refine wpList_make_full _ rfl _ _ 263 rfl w.heap.size 4 inf (.bool false) 1 underlying263 hi hz0 hz1 .i64 .i64 _ _ rs.length rfl rfl rfl rfl (by rw [hz2]; omega) (by unfold maxLen; omega) (Nat.le_refl _) ?_; intro w0 hown0 hgrow0);have HF0:Hid (Fil w w0 w.heap.size rs.length (bools (List.replicate rs.length false))):=by
  have:=zi (v:=.bool false) hown0 hgrow0;show Fil _ _ _ _ _;simpa [bools] using this
 clear hown0 hgrow0 hi hz0 hz1 hz2;go_loopw [4] (fun i wr=>∃ (m:Nat) (out:List Bool),m≤rs.length∧i=.int .i64 ((m:Int) - 1)∧out.length=rs.length∧Hid (fM (ag rs) m out=dm (ag rs))∧Hid (Fil w wr w.heap.size rs.length (bools out))) (fun i _=>(intOf i + 1).toNat);case atStart=>exact ⟨rs.length,List.replicate rs.length false,Nat.le_refl _,by go_num,by simp,(by show _=_; unfold dm; rw [aP]),HF0⟩
 case round =>
  obtain ⟨m,out,hm,rfl,hol,HN,HF⟩:=hrel;by_cases hm0:0 < m
  ·obtain ⟨m,rfl⟩:∃ m',m=m' + 1:=⟨m - 1,by omega⟩;have hmi:(((m + 1:Nat):Int) - 1)=(m:Int):=by omega
   rw [hmi];have hlt:m < rs.length:=by omega
   rcases HS.out.below HF.out.below with rfl | ⟨b,off,rfl,hb,hr,hok⟩
   ·simp at hlt
   obtain ⟨t0,t1,t2,t3,t4⟩:=hr m hlt;have HOK:Hid (rs[m].ok _):=hok rs[m] (List.getElem_mem hlt);have lg:=(HL.out rs[m] (List.getElem_mem hlt)).2;have HKI:Hid (bY rs.length rs[m].e.kids):=HK.out rs[m] (List.getElem_mem hlt);have hk1:=bq m;have hk2:(m:Int) < (rs.length:Int):=by omega
   have hbw:b < w.heap.size:=by
    rcases HS.out with h | ⟨b',off',h1,h2,-⟩
    ·rw [h] at hlt; simp at hlt
    ·injection h1 with h1; injection h1 with h1; omega
   have HR:Hid (yg wr b (off + m * 5) rs[m]):=hr m hlt;have HNX:Hid (fM (ag rs) m (aR m rs[m].e.kind rs[m].e.kids 0 out)=dm (ag rs)):=by
    show _=_;rw [← HN.out,wO _ _ _ (by rw [aP]; exact hlt)];simp [ag]
   clear hr hok t0 t1 t2 t3 t4;go_wp2_with fail;go_loopw [5] (fun i w2=>∃ (j:Nat) (out2:List Bool),j≤rs[m].e.kids.length∧i=.int .i64 j∧out2.length=rs.length∧Hid (aR m rs[m].e.kind (rs[m].e.kids.drop j) j out2=aR m rs[m].e.kind rs[m].e.kids 0 out)∧Hid (Fil w w2 w.heap.size rs.length (bools out2))) (fun i _=>rs[m].e.kids.length - (intOf i).toNat);case atStart=>exact ⟨0,out,Nat.zero_le _,rfl,hol,rfl,HF⟩
   case round =>
    obtain ⟨j,out2,hj,rfl,ho2,HJ,HF2⟩:=hrel;have hE2:dZ wr _ rs:=HS.out.below HF2.out.below;have ht:yg wr b (off + m * 5) rs[m]:=by
     rcases hE2 with h | ⟨b',off',h1,h2,h3,-⟩
     ·exact absurd hlt (by rw [h]; simp)
     ·injection h1 with h1; injection h1 with h1 h1'; subst h1; subst h1'; exact h3 m hlt
    obtain ⟨t0,t1,t2,t3,t4⟩:=ht;by_cases hjl:j < rs[m].e.kids.length
    ·have hK2:rF wr rs[m].adK rs[m].e.kids:=(hE2.mem (List.getElem_mem hlt)).2;rcases hK2 with hnil | ⟨ba,offa,hadK,hba,hra⟩
     ·rw [hnil] at hjl; simp at hjl
     rw [hadK] at t4;have q0:=hra j hjl;have hj1:=bq j;have hj2:(j:Int) < (rs[m].e.kids.length:Int):=by omega
     obtain ⟨x0,x1⟩:=HKI.out _ (List.getElem_mem hjl);obtain ⟨x,hx⟩:∃ x:Nat,rs[m].e.kids[j]=(x:Int):=⟨rs[m].e.kids[j].toNat,by omega⟩;rw [hx] at q0 x0 x1;have c0:=HF2.out.done m (by simp [bools]; omega);have fz:=HF2.out.free;obtain ⟨v0,u0⟩:=Option.isSome_iff_exists.mp (HF2.out.there x (by omega));have hbr:b < wr.heap.size:=Nat.lt_of_lt_of_le hbw HF2.out.below.size;obtain ⟨bo,hbo⟩:∃ bo,bo=(bools out2)[m]'(by simp [bools]; omega):=⟨_,rfl⟩;rw [← hbo] at c0;clear hra hadK hE2 t1 t2 t3;have hm2:m < out2.length:=by omega
     have hbo1:bo=.bool out2[m]:=by rw [hbo]; simp [bools]
     have hbo':out2[m]?.getD false=out2[m]:=by simp [hm2]
     rw [hbo1] at c0;clear hbo hbo1;cases hb0:out2[m] with
     | true =>
      rw [hb0] at c0 hbo';go_wp2_with fail;refine bF 26 (fun n=>[u26,u27,u28,u29,u30,u31,u32,u33,u34,u35,u36,u37,u38,u39,u40,u41,u42,u43,u44,u45,u46,u47,u48,u49,u50,u51].getD n undef) (fun f=>{ tmps:=#[.slice (some ⟨b,off,none⟩) rs.length cap,undef,.slice none 0 0,.slice (some ⟨w.heap.size,0,none⟩) rs.length rs.length,.int .i64 (m:Int),.int .i64 (j:Int),.slice (some ⟨b,off,none⟩) rs.length cap,.int .i64 (rs.length:Int),.slice (some ⟨w.heap.size,0,none⟩) rs.length rs.length,.slice (some ⟨b,off,none⟩) rs.length cap,.int .i64 (rs.length:Int),.int .i64 ((rs.length:Int) - 1),.int .i64 (m:Int),.bool true,u14,u15,.int .i64 (j:Int),.slice (some ⟨b,off,none⟩) rs.length cap,.int .i64 (m:Int),.pointer (some ⟨b,off + m * 5,none⟩),.pointer (some ⟨b,off + m * 5 + 4,none⟩),.slice (some ⟨ba,offa,none⟩) rs[m].e.kids.length rs[m].capK,.int .i64 (rs[m].e.kids.length:Int),.bool true,u24,u25,f 0,f 1,f 2,f 3,f 4,f 5,f 6,f 7,f 8,f 9,f 10,f 11,f 12,f 13,f 14,f 15,f 16,f 17,f 18,f 19,f 20,f 21,f 22,f 23,f 24,f 25,undef],defers:=[] }) (fun n v _=>v=[Value.slice (some ⟨w.heap.size,0,none⟩) rs.length rs.length,.slice (some ⟨b,off,none⟩) rs.length cap,.int .i64 (m:Int),.pointer (some ⟨b,off + m * 5,none⟩),.pointer (some ⟨b,off + m * 5 + 4,none⟩),.slice (some ⟨ba,offa,none⟩) rs[m].e.kids.length rs[m].capK,.int .i64 (j:Int),.pointer (some ⟨ba,offa + j,none⟩),.int .i64 (x:Int),.slice (some ⟨w.heap.size,0,none⟩) rs.length rs.length,.int .i64 (m:Int),.pointer (some ⟨w.heap.size,m,none⟩),.bool true,.bool true,undef,undef,undef,undef,undef,undef,undef,undef,undef,undef,.bool true,.pointer (some ⟨w.heap.size,x,none⟩)].getD n undef) (fun w'=>Below wr.heap.size wr w') (by kernel_rfl) rfl (by kernel_rfl) (by kernel_rfl) rfl (Below.refl _ _).drew ?step1 ?fin1;case step1 =>
       rintro i hi o ho f w' hG hpre;have HG:Hid (Below wr.heap.size wr w'):=hG;replace t0:=ah hG hbr t0;replace t4:=ah hG hbr t4;replace q0:=ah hG hba q0;replace c0:=ah hG HF2.out.lt c0;have HM:Hid (∀ e ∈ o.after,Region.binds .any e=true→_):=hpre;clear hG hpre;have hc:=FX (i:=i) (by omega);clear hi
       repeat' rcases hc with rfl | hc
       iterate 26
        ·obtain rfl:=Option.some.inj ho;have hm:=HM.out
         try simp [Region.binds] at hm
         refine aa rfl fun K HK=>?_;clear ho HM
         try simp only [hm]
         go_simp;exact HK.out _ _ ⟨_,by simp [upd, *],HG.out,rfl,fun k u hu=>hu⟩
      case fin1 =>
       rintro o ho f w' hG hall;have e24:f 24=Value.bool true:=hall 24 (by omega);have e25:f 25=Value.pointer (some ⟨w.heap.size,x,none⟩):=hall 25 (by omega);replace u0:=ah hG HF2.out.lt u0;have hF3:=HF2.out.later hG;replace fz:=hF3.free;have HF4:Hid (Fil w (w'.setCell ⟨w.heap.size,x,none⟩ (.bool true)) w.heap.size rs.length (bools (out2.set x true))):=by show Fil _ _ _ _ _; rw [gQ]; exact hF3.set _ (by simp [bools]; omega) (by omega)
       have HJ2:Hid (aR m rs[m].e.kind (rs[m].e.kids.drop (j + 1)) (j + 1) (out2.set x true)=aR m rs[m].e.kind rs[m].e.kids 0 out):=by
        show _=_;rw [← HJ.out,dO _ _ _ _ _ hjl,hx];simp [*]
       clear hG hall hF3;obtain rfl:=Option.some.inj ho;clear ho;refine wpOp_step rfl (fun K hK=>?_);have HK:Hid (∀ a w,_→K a w):=hK;clear hK;simp only [e24,e25];go_simp;refine HK.out _ _ ?_;clear HK;go_wp2;go_roundw;case rel=>exact ⟨j + 1,out2.set x true,by omega,by go_num,by simp [ho2],HJ2,HF4⟩
       case measure=>simp [intOf] <;> omega
     | false =>
      rw [hb0] at c0 hbo';cases hkb:(rs[m].e.kind == 6) with
      | false =>
       go_wp2_with fail;refine bF 26 (fun n=>[u26,u27,u28,u29,u30,u31,u32,u33,u34,u35,u36,u37,u38,u39,u40,u41,u42,u43,u44,u45,u46,u47,u48,u49,u50,u51].getD n undef) (fun f=>{ tmps:=#[.slice (some ⟨b,off,none⟩) rs.length cap,undef,.slice none 0 0,.slice (some ⟨w.heap.size,0,none⟩) rs.length rs.length,.int .i64 (m:Int),.int .i64 (j:Int),.slice (some ⟨b,off,none⟩) rs.length cap,.int .i64 (rs.length:Int),.slice (some ⟨w.heap.size,0,none⟩) rs.length rs.length,.slice (some ⟨b,off,none⟩) rs.length cap,.int .i64 (rs.length:Int),.int .i64 ((rs.length:Int) - 1),.int .i64 (m:Int),.bool true,u14,u15,.int .i64 (j:Int),.slice (some ⟨b,off,none⟩) rs.length cap,.int .i64 (m:Int),.pointer (some ⟨b,off + m * 5,none⟩),.pointer (some ⟨b,off + m * 5 + 4,none⟩),.slice (some ⟨ba,offa,none⟩) rs[m].e.kids.length rs[m].capK,.int .i64 (rs[m].e.kids.length:Int),.bool true,u24,u25,f 0,f 1,f 2,f 3,f 4,f 5,f 6,f 7,f 8,f 9,f 10,f 11,f 12,f 13,f 14,f 15,f 16,f 17,f 18,f 19,f 20,f 21,f 22,f 23,f 24,f 25,undef],defers:=[] }) (fun n v _=>v=[Value.slice (some ⟨w.heap.size,0,none⟩) rs.length rs.length,.slice (some ⟨b,off,none⟩) rs.length cap,.int .i64 (m:Int),.pointer (some ⟨b,off + m * 5,none⟩),.pointer (some ⟨b,off + m * 5 + 4,none⟩),.slice (some ⟨ba,offa,none⟩) rs[m].e.kids.length rs[m].capK,.int .i64 (j:Int),.pointer (some ⟨ba,offa + j,none⟩),.int .i64 (x:Int),.slice (some ⟨w.heap.size,0,none⟩) rs.length rs.length,.int .i64 (m:Int),.pointer (some ⟨w.heap.size,m,none⟩),.bool false,.bool false,.slice (some ⟨b,off,none⟩) rs.length cap,.int .i64 (m:Int),.pointer (some ⟨b,off + m * 5,none⟩),.pointer (some ⟨b,off + m * 5,none⟩),.int .i64 rs[m].e.kind,.bool false,.bool false,undef,undef,.bool false,.bool false,.pointer (some ⟨w.heap.size,x,none⟩)].getD n undef) (fun w'=>Below wr.heap.size wr w') (by kernel_rfl) rfl (by kernel_rfl) (by kernel_rfl) rfl (Below.refl _ _).drew ?step2 ?fin2;case step2 =>
        rintro i hi o ho f w' hG hpre;have HG:Hid (Below wr.heap.size wr w'):=hG;replace t0:=ah hG hbr t0;replace t4:=ah hG hbr t4;replace q0:=ah hG hba q0;replace c0:=ah hG HF2.out.lt c0;have HM:Hid (∀ e ∈ o.after,Region.binds .any e=true→_):=hpre;clear hG hpre;have hc:=FX (i:=i) (by omega);clear hi
        repeat' rcases hc with rfl | hc
        iterate 26
         ·obtain rfl:=Option.some.inj ho;have hm:=HM.out
          try simp [Region.binds] at hm
          refine aa rfl fun K HK=>?_;clear ho HM
          try simp only [hm]
          go_simp;exact HK.out _ _ ⟨_,by simp [upd, *],HG.out,rfl,fun k u hu=>hu⟩
       case fin2 =>
        rintro o ho f w' hG hall;have e24:f 24=Value.bool false:=hall 24 (by omega);have e25:f 25=Value.pointer (some ⟨w.heap.size,x,none⟩):=hall 25 (by omega);replace u0:=ah hG HF2.out.lt u0;have hF3:=HF2.out.later hG;replace fz:=hF3.free;have HF4:Hid (Fil w (w'.setCell ⟨w.heap.size,x,none⟩ (.bool false)) w.heap.size rs.length (bools (out2.set x false))):=by show Fil _ _ _ _ _; rw [gQ]; exact hF3.set _ (by simp [bools]; omega) (by omega)
        have HJ2:Hid (aR m rs[m].e.kind (rs[m].e.kids.drop (j + 1)) (j + 1) (out2.set x false)=aR m rs[m].e.kind rs[m].e.kids 0 out):=by
         show _=_;rw [← HJ.out,dO _ _ _ _ _ hjl,hx];simp [*]
        clear hG hall hF3;obtain rfl:=Option.some.inj ho;clear ho;refine wpOp_step rfl (fun K hK=>?_);have HK:Hid (∀ a w,_→K a w):=hK;clear hK;simp only [e24,e25];go_simp;refine HK.out _ _ ?_;clear HK;go_wp2;go_roundw;case rel=>exact ⟨j + 1,out2.set x false,by omega,by go_num,by simp [ho2],HJ2,HF4⟩
        case measure=>simp [intOf] <;> omega
      | true =>
       cases hjb:((j:Int) == 1) with
       | true =>
        have hjn:(j == 1)=true:=by simp at hjb ⊢; omega
        go_wp2_with fail;refine bF 26 (fun n=>[u26,u27,u28,u29,u30,u31,u32,u33,u34,u35,u36,u37,u38,u39,u40,u41,u42,u43,u44,u45,u46,u47,u48,u49,u50,u51].getD n undef) (fun f=>{ tmps:=#[.slice (some ⟨b,off,none⟩) rs.length cap,undef,.slice none 0 0,.slice (some ⟨w.heap.size,0,none⟩) rs.length rs.length,.int .i64 (m:Int),.int .i64 (j:Int),.slice (some ⟨b,off,none⟩) rs.length cap,.int .i64 (rs.length:Int),.slice (some ⟨w.heap.size,0,none⟩) rs.length rs.length,.slice (some ⟨b,off,none⟩) rs.length cap,.int .i64 (rs.length:Int),.int .i64 ((rs.length:Int) - 1),.int .i64 (m:Int),.bool true,u14,u15,.int .i64 (j:Int),.slice (some ⟨b,off,none⟩) rs.length cap,.int .i64 (m:Int),.pointer (some ⟨b,off + m * 5,none⟩),.pointer (some ⟨b,off + m * 5 + 4,none⟩),.slice (some ⟨ba,offa,none⟩) rs[m].e.kids.length rs[m].capK,.int .i64 (rs[m].e.kids.length:Int),.bool true,u24,u25,f 0,f 1,f 2,f 3,f 4,f 5,f 6,f 7,f 8,f 9,f 10,f 11,f 12,f 13,f 14,f 15,f 16,f 17,f 18,f 19,f 20,f 21,f 22,f 23,f 24,f 25,undef],defers:=[] }) (fun n v _=>v=[Value.slice (some ⟨w.heap.size,0,none⟩) rs.length rs.length,.slice (some ⟨b,off,none⟩) rs.length cap,.int .i64 (m:Int),.pointer (some ⟨b,off + m * 5,none⟩),.pointer (some ⟨b,off + m * 5 + 4,none⟩),.slice (some ⟨ba,offa,none⟩) rs[m].e.kids.length rs[m].capK,.int .i64 (j:Int),.pointer (some ⟨ba,offa + j,none⟩),.int .i64 (x:Int),.slice (some ⟨w.heap.size,0,none⟩) rs.length rs.length,.int .i64 (m:Int),.pointer (some ⟨w.heap.size,m,none⟩),.bool false,.bool false,.slice (some ⟨b,off,none⟩) rs.length cap,.int .i64 (m:Int),.pointer (some ⟨b,off + m * 5,none⟩),.pointer (some ⟨b,off + m * 5,none⟩),.int .i64 rs[m].e.kind,.bool true,.bool true,.int .i64 (j:Int),.bool true,.bool true,.bool true,.pointer (some ⟨w.heap.size,x,none⟩)].getD n undef) (fun w'=>Below wr.heap.size wr w') (by kernel_rfl) rfl (by kernel_rfl) (by kernel_rfl) rfl (Below.refl _ _).drew ?step3 ?fin3;case step3 =>
         rintro i hi o ho f w' hG hpre;have HG:Hid (Below wr.heap.size wr w'):=hG;replace t0:=ah hG hbr t0;replace t4:=ah hG hbr t4;replace q0:=ah hG hba q0;replace c0:=ah hG HF2.out.lt c0;have HM:Hid (∀ e ∈ o.after,Region.binds .any e=true→_):=hpre;clear hG hpre;have hc:=FX (i:=i) (by omega);clear hi
         repeat' rcases hc with rfl | hc
         iterate 26
          ·obtain rfl:=Option.some.inj ho;have hm:=HM.out
           try simp [Region.binds] at hm
           refine aa rfl fun K HK=>?_;clear ho HM
           try simp only [hm]
           go_simp;exact HK.out _ _ ⟨_,by simp [upd, *],HG.out,rfl,fun k u hu=>hu⟩
        case fin3 =>
         rintro o ho f w' hG hall;have e24:f 24=Value.bool true:=hall 24 (by omega);have e25:f 25=Value.pointer (some ⟨w.heap.size,x,none⟩):=hall 25 (by omega);replace u0:=ah hG HF2.out.lt u0;have hF3:=HF2.out.later hG;replace fz:=hF3.free;have HF4:Hid (Fil w (w'.setCell ⟨w.heap.size,x,none⟩ (.bool true)) w.heap.size rs.length (bools (out2.set x true))):=by show Fil _ _ _ _ _; rw [gQ]; exact hF3.set _ (by simp [bools]; omega) (by omega)
         have HJ2:Hid (aR m rs[m].e.kind (rs[m].e.kids.drop (j + 1)) (j + 1) (out2.set x true)=aR m rs[m].e.kind rs[m].e.kids 0 out):=by
          show _=_;rw [← HJ.out,dO _ _ _ _ _ hjl,hx];simp [*]
         clear hG hall hF3;obtain rfl:=Option.some.inj ho;clear ho;refine wpOp_step rfl (fun K hK=>?_);have HK:Hid (∀ a w,_→K a w):=hK;clear hK;simp only [e24,e25];go_simp;refine HK.out _ _ ?_;clear HK;go_wp2;go_roundw;case rel=>exact ⟨j + 1,out2.set x true,by omega,by go_num,by simp [ho2],HJ2,HF4⟩
         case measure=>simp [intOf] <;> omega
       | false =>
        have hjn:(j == 1)=false:=by simp at hjb ⊢; omega
        go_wp2_with fail;refine bF 26 (fun n=>[u26,u27,u28,u29,u30,u31,u32,u33,u34,u35,u36,u37,u38,u39,u40,u41,u42,u43,u44,u45,u46,u47,u48,u49,u50,u51].getD n undef) (fun f=>{ tmps:=#[.slice (some ⟨b,off,none⟩) rs.length cap,undef,.slice none 0 0,.slice (some ⟨w.heap.size,0,none⟩) rs.length rs.length,.int .i64 (m:Int),.int .i64 (j:Int),.slice (some ⟨b,off,none⟩) rs.length cap,.int .i64 (rs.length:Int),.slice (some ⟨w.heap.size,0,none⟩) rs.length rs.length,.slice (some ⟨b,off,none⟩) rs.length cap,.int .i64 (rs.length:Int),.int .i64 ((rs.length:Int) - 1),.int .i64 (m:Int),.bool true,u14,u15,.int .i64 (j:Int),.slice (some ⟨b,off,none⟩) rs.length cap,.int .i64 (m:Int),.pointer (some ⟨b,off + m * 5,none⟩),.pointer (some ⟨b,off + m * 5 + 4,none⟩),.slice (some ⟨ba,offa,none⟩) rs[m].e.kids.length rs[m].capK,.int .i64 (rs[m].e.kids.length:Int),.bool true,u24,u25,f 0,f 1,f 2,f 3,f 4,f 5,f 6,f 7,f 8,f 9,f 10,f 11,f 12,f 13,f 14,f 15,f 16,f 17,f 18,f 19,f 20,f 21,f 22,f 23,f 24,f 25,undef],defers:=[] }) (fun n v _=>v=[Value.slice (some ⟨w.heap.size,0,none⟩) rs.length rs.length,.slice (some ⟨b,off,none⟩) rs.length cap,.int .i64 (m:Int),.pointer (some ⟨b,off + m * 5,none⟩),.pointer (some ⟨b,off + m * 5 + 4,none⟩),.slice (some ⟨ba,offa,none⟩) rs[m].e.kids.length rs[m].capK,.int .i64 (j:Int),.pointer (some ⟨ba,offa + j,none⟩),.int .i64 (x:Int),.slice (some ⟨w.heap.size,0,none⟩) rs.length rs.length,.int .i64 (m:Int),.pointer (some ⟨w.heap.size,m,none⟩),.bool false,.bool false,.slice (some ⟨b,off,none⟩) rs.length cap,.int .i64 (m:Int),.pointer (some ⟨b,off + m * 5,none⟩),.pointer (some ⟨b,off + m * 5,none⟩),.int .i64 rs[m].e.kind,.bool true,.bool true,.int .i64 (j:Int),.bool false,.bool false,.bool false,.pointer (some ⟨w.heap.size,x,none⟩)].getD n undef) (fun w'=>Below wr.heap.size wr w') (by kernel_rfl) rfl (by kernel_rfl) (by kernel_rfl) rfl (Below.refl _ _).drew ?step4 ?fin4;case step4 =>
         rintro i hi o ho f w' hG hpre;have HG:Hid (Below wr.heap.size wr w'):=hG;replace t0:=ah hG hbr t0;replace t4:=ah hG hbr t4;replace q0:=ah hG hba q0;replace c0:=ah hG HF2.out.lt c0;have HM:Hid (∀ e ∈ o.after,Region.binds .any e=true→_):=hpre;clear hG hpre;have hc:=FX (i:=i) (by omega);clear hi
         repeat' rcases hc with rfl | hc
         iterate 26
          ·obtain rfl:=Option.some.inj ho;have hm:=HM.out
           try simp [Region.binds] at hm
           refine aa rfl fun K HK=>?_;clear ho HM
           try simp only [hm]
           go_simp;exact HK.out _ _ ⟨_,by simp [upd, *],HG.out,rfl,fun k u hu=>hu⟩
        case fin4 =>
         rintro o ho f w' hG hall;have e24:f 24=Value.bool false:=hall 24 (by omega);have e25:f 25=Value.pointer (some ⟨w.heap.size,x,none⟩):=hall 25 (by omega);replace u0:=ah hG HF2.out.lt u0;have hF3:=HF2.out.later hG;replace fz:=hF3.free;have HF4:Hid (Fil w (w'.setCell ⟨w.heap.size,x,none⟩ (.bool false)) w.heap.size rs.length (bools (out2.set x false))):=by show Fil _ _ _ _ _; rw [gQ]; exact hF3.set _ (by simp [bools]; omega) (by omega)
         have HJ2:Hid (aR m rs[m].e.kind (rs[m].e.kids.drop (j + 1)) (j + 1) (out2.set x false)=aR m rs[m].e.kind rs[m].e.kids 0 out):=by
          show _=_;rw [← HJ.out,dO _ _ _ _ _ hjl,hx];simp [*]
         clear hG hall hF3;obtain rfl:=Option.some.inj ho;clear ho;refine wpOp_step rfl (fun K hK=>?_);have HK:Hid (∀ a w,_→K a w):=hK;clear hK;simp only [e24,e25];go_simp;refine HK.out _ _ ?_;clear HK;go_wp2;go_roundw;case rel=>exact ⟨j + 1,out2.set x false,by omega,by go_num,by simp [ho2],HJ2,HF4⟩
         case measure=>simp [intOf] <;> omega
    ·have HOE:Hid (fM (ag rs) m out2=dm (ag rs)):=by
      show _=_;rw [← HNX.out,← HJ.out,List.drop_of_length_le (by omega)];rfl
     go_wp2;go_roundw;case rel=>exact ⟨m,out2,by omega,by go_num,ho2,HOE,HF2⟩
     case measure=>simp [intOf] <;> omega
  ·obtain rfl:m=0:=by omega
   have HFE:Hid (Fil w wr w.heap.size rs.length (bools (dm (ag rs)))):=by
    show Fil _ _ _ _ _;rw [← HN.out];exact HF.out
   go_wp2;go_ret;exact ⟨rfl,HFE.out⟩
end Go.Proofs.YtdmniljjnaebbaaGreatDoor
