/- The document's question of a node, whatever it is. -/
import Derived.Test.YtdaoiceeidoehaaGreatJ20
import Derived.Test.YtdaoiceeidoehaaGreatJ21
import Derived.Laws.EntriesVeiled
open Go.Proofs.Tryz
set_option maxHeartbeats 80000000
namespace Go.Proofs.YtdaoiceeidoehaaGreat
set_option linter.unusedVariables false
set_option maxRecDepth 100000
open Go.ChangeShapes Go.WideShapes Go.ChangeAt Go.RowKit Go.Maps
open Pl
structure NodOk (rows:List ER):Prop where
 len:rows.length≤1000
 kids:∀ q ∈ rows,q.e.kids.length≤1000
 low:EG (ah rows)
 two:∀ e ∈ ah rows,e.kind=6→2≤e.kids.length
theorem NodOk.kid {rows:List ER} (h:NodOk rows) {n:Nat} (hn:n < rows.length) {i:Int} (hi:i ∈ rows[n].e.kids):0≤i∧i < (n:Int):=by
 have:=h.low n (by rw [aI]; exact hn) i;have e:(ah rows)[n]'(by rw [aI]; exact hn)=rows[n].e:=by simp [ah]
 rw [e] at this;exact this hi
theorem mh (v0:Value) (adT:Option Addr) (capT:Nat) (ts:List Tp) (adE:Option Addr) (capE:Nat) (rows:List ER) (adR:Option Addr) (capR:Nat) (truth:List Fc) (f:Fc) (htl:ts.length≤1048576) (hN:NodOk rows) (htr:truth.length≤1048576) :
  ∀ (k n:Nat) (adK:Option Addr) (capK:Nat) (known:List Fc) (w:World),n < k→n < rows.length→known.length≤1048576→HW w adT ts adE rows adK known adR truth →
  Calls prog 58 #[v0,.slice adT ts.length capT,.slice adE rows.length capE,.int .i64 (n:Int),.slice adK known.length capK,.slice adR truth.length capR,.agg #[.string f.a,.string f.b,.string f.r,.string f.c,.string f.d]] w fun e w'=>e=.returned (.bool (dW ts (ah rows) truth f k known n))∧Below w.heap.size w w'
 | 0,_,_,_,_,_,h,_,_,_=>absurd h (Nat.not_lt_zero _)
 | k + 1,n,adK,capK,known,w,hk,hn,hkn,hW=>by
  have e:(ah rows)[n]?=some rows[n].e:=by simp [ah,hn]
  have hkid:∀ (adK':Option Addr) (capK':Nat) (known':List Fc),known'.length≤1048576→HW w adT ts adE rows adK' known' adR truth→∀ i ∈ rows[n].e.kids,I4 v0 (.slice adT ts.length capT) (.slice adE rows.length capE) (.slice adK' known'.length capK') (.slice adR truth.length capR) f w i (dW ts (ah rows) truth f k known' i.toNat):=fun adK' capK' known' hl hW' i hi w1 hb1=>by
   have h1:=hN.kid hn hi;have h2:=mh v0 adT capT ts adE capE rows adR capR truth f htl hN htr k i.toNat adK' capK' known' w1 (by omega) (by omega) hl (hW'.below hb1);have e2:((i.toNat:Nat):Int)=i:=by omega
   rw [e2] at h2;exact h2
  unfold dW;rw [e];have hm:rows[n] ∈ rows:=List.getElem_mem hn;have hme:rows[n].e ∈ ah rows:=List.mem_map.2 ⟨_,hm,rfl⟩;by_cases k1:rows[n].e.kind=1
  ·simp only [if_pos k1];exact zD v0 adT capT ts adE capE rows n adK capK known adR capR truth f w hW hn hN.len hkn htl k1
  by_cases k2:rows[n].e.kind=2
  ·simp only [if_neg k1,if_pos k2];exact Bw v0 adT capT ts adE capE rows n adK capK known adR capR truth f w hW hn hN.len hkn k2
  by_cases k3:rows[n].e.kind=3
  ·simp only [if_neg k1,if_neg k2,if_pos k3];exact zF v0 adT capT ts adE capE rows n adK capK known adR capR truth f w hW hn hN.len hkn htl k3
  by_cases k4:rows[n].e.kind=4
  ·simp only [if_neg k1,if_neg k2,if_neg k3,if_pos k4];exact wO (fun i=>dW ts (ah rows) truth f k known i.toNat) v0 _ adE capE rows n _ _ f w hW.ex hn hN.len (hN.kids _ hm) k4 (hkid adK capK known hkn hW)
  by_cases k5:rows[n].e.kind=5
  ·simp only [if_neg k1,if_neg k2,if_neg k3,if_neg k4,if_pos k5];exact zH (fun i=>dW ts (ah rows) truth f k known i.toNat) v0 _ adE capE rows n _ _ f w hW.ex hn hN.len (hN.kids _ hm) k5 (hkid adK capK known hkn hW)
  by_cases k6:rows[n].e.kind=6
  ·simp only [if_neg k1,if_neg k2,if_neg k3,if_neg k4,if_neg k5,if_pos k6];have h2:=hN.two _ hme k6;have hg:∀ q,q < 2→rows[n].e.kids.getD q 0 ∈ rows[n].e.kids:=fun q hq=>by
    rw [List.getD_eq_getElem?_getD,List.getElem?_eq_getElem (by omega)];exact List.getElem_mem _
   exact Bz _ _ v0 _ adE capE rows n _ _ f w hW.ex hn hN.len (hN.kids _ hm) h2 k6 (hkid adK capK known hkn hW _ (hg 0 (by omega))) (hkid adR capR truth htr ⟨hW.tup,hW.ex,hW.tr,hW.tr⟩ _ (hg 1 (by omega)))
  simp only [if_neg k1,if_neg k2,if_neg k3,if_neg k4,if_neg k5,if_neg k6];exact DU v0 adT capT ts adE capE rows n _ _ f w hW.ex hn hN.len k1 k2 k3 k4 k5 k6
def sI (B:Nat):Value:=.func (Fn.func 132) #[] #[.pointer (some ⟨B,0,none⟩),.pointer (some ⟨B + 1,0,none⟩),.pointer (some ⟨B + 1 + 1,0,none⟩),.pointer (some ⟨B + 1 + 1 + 1,0,none⟩)]
def Cx (w:World) (D:Nat) (vE:Value) (f:Fc) (bK:Nat) (x:ER):World :=
 (((((w.alloc (.cells #[.pointer (some ⟨D,0,none⟩)] 93)).alloc (.cells #[vE] 105)).alloc (.cells #[.string f.a,.string f.b,.string f.r,.string f.c,.string f.d] 42)).alloc (.cells #[.map (some bK)] 84)).alloc (.cells #[.int .i64 x.e.kind,.slice x.adA x.e.allow.length x.capA,.string x.e.over,.string x.e.name,.slice x.adK x.e.kids.length x.capK] 166)).alloc (.cells #[sI w.heap.size] 223)
structure NdB (w:World) (B D:Nat) (vE:Value) (f:Fc) (bK:Nat) (x:ER):Prop where
 lt:B + 1 + 1 + 1 + 1 + 1 < w.heap.size
 d:w.cell? ⟨B,0,none⟩=some (.pointer (some ⟨D,0,none⟩))
 e:w.cell? ⟨B + 1,0,none⟩=some vE
 f0:w.cell? ⟨B + 1 + 1,0,none⟩=some (.string f.a)
 f1:w.cell? ⟨B + 1 + 1,1,none⟩=some (.string f.b)
 f2:w.cell? ⟨B + 1 + 1,2,none⟩=some (.string f.r)
 f3:w.cell? ⟨B + 1 + 1,3,none⟩=some (.string f.c)
 f4:w.cell? ⟨B + 1 + 1,4,none⟩=some (.string f.d)
 k:w.cell? ⟨B + 1 + 1 + 1,0,none⟩=some (.map (some bK))
 x0:w.cell? ⟨B + 1 + 1 + 1 + 1,0,none⟩=some (.int .i64 x.e.kind)
 x1:w.cell? ⟨B + 1 + 1 + 1 + 1,1,none⟩=some (.slice x.adA x.e.allow.length x.capA)
 x2:w.cell? ⟨B + 1 + 1 + 1 + 1,2,none⟩=some (.string x.e.over)
 x3:w.cell? ⟨B + 1 + 1 + 1 + 1,3,none⟩=some (.string x.e.name)
 x4:w.cell? ⟨B + 1 + 1 + 1 + 1,4,none⟩=some (.slice x.adK x.e.kids.length x.capK)
 v:w.cell? ⟨B + 1 + 1 + 1 + 1 + 1,0,none⟩=some (sI B)
theorem NdB.below {w w':World} {B D:Nat} {vE:Value} {f:Fc} {bK:Nat} {x:ER} (h:NdB w B D vE f bK x) (hB:Below w.heap.size w w'):NdB w' B D vE f bK x:=by
 have hl:=h.lt;have c:∀ i o,i≤5→w'.cell? ⟨B + i,o,none⟩=w.cell? ⟨B + i,o,none⟩:=fun i o hi=>hB.cell (p:=⟨B + i,o,none⟩) (show B + i < _ by omega);have c0:∀ o,w'.cell? ⟨B,o,none⟩=w.cell? ⟨B,o,none⟩:=fun o=>hB.cell (p:=⟨B,o,none⟩) (show B < _ by omega);exact ⟨Nat.lt_of_lt_of_le hl hB.size,(c0 _).trans h.d,(c 1 _ (by omega)).trans h.e,(c 2 _ (by omega)).trans h.f0,(c 2 _ (by omega)).trans h.f1,(c 2 _ (by omega)).trans h.f2,(c 2 _ (by omega)).trans h.f3,(c 2 _ (by omega)).trans h.f4,(c 3 _ (by omega)).trans h.k,(c 4 _ (by omega)).trans h.x0,(c 4 _ (by omega)).trans h.x1,(c 4 _ (by omega)).trans h.x2,(c 4 _ (by omega)).trans h.x3,(c 4 _ (by omega)).trans h.x4,(c 5 _ (by omega)).trans h.v⟩
theorem jd (w:World) (D:Nat) (vE:Value) (f:Fc) (bK:Nat) (x:ER):Below w.heap.size w (Cx w D vE f bK x):=by
 unfold Cx;exact ((((((Below.refl _ _).alloc (Nat.le_refl _) _).alloc (by simp) _).alloc (by simp; omega) _).alloc (by simp; omega) _).alloc (by simp; omega) _).alloc (by simp; omega) _
theorem j5 (w:World) (cs:Array Value) (T:TypeId) (o:Nat):(w.alloc (.cells cs T)).cell? ⟨w.heap.size,o,none⟩=cs[o]?:=World.cell?_alloc_mark w cs T (0,0) o
theorem je (w:World) (D:Nat) (vE:Value) (f:Fc) (bK:Nat) (x:ER):NdB (Cx w D vE f bK x) w.heap.size D vE f bK x:=by
 unfold Cx;obtain ⟨w1,h1⟩:∃ u,u=w.alloc (.cells #[.pointer (some ⟨D,0,none⟩)] 93):=⟨_,rfl⟩;have s1:w1.heap.size=w.heap.size + 1:=by rw [h1,World.size_alloc]
 have b1:Below w.heap.size w w1:=by rw [h1]; exact (Below.refl _ _).alloc (Nat.le_refl _) _
 obtain ⟨w2,h2⟩:∃ u,u=w1.alloc (.cells #[vE] 105):=⟨_,rfl⟩;have s2:w2.heap.size=w.heap.size + 1 + 1:=by rw [h2,World.size_alloc,s1]
 have b2:Below w1.heap.size w1 w2:=by rw [h2]; exact (Below.refl _ _).alloc (Nat.le_refl _) _
 obtain ⟨w3,h3⟩:∃ u,u=w2.alloc (.cells #[.string f.a,.string f.b,.string f.r,.string f.c,.string f.d] 42):=⟨_,rfl⟩;have s3:w3.heap.size=w.heap.size + 1 + 1 + 1:=by rw [h3,World.size_alloc,s2]
 have b3:Below w2.heap.size w2 w3:=by rw [h3]; exact (Below.refl _ _).alloc (Nat.le_refl _) _
 obtain ⟨w4,h4⟩:∃ u,u=w3.alloc (.cells #[.map (some bK)] 84):=⟨_,rfl⟩;have s4:w4.heap.size=w.heap.size + 1 + 1 + 1 + 1:=by rw [h4,World.size_alloc,s3]
 have b4:Below w3.heap.size w3 w4:=by rw [h4]; exact (Below.refl _ _).alloc (Nat.le_refl _) _
 obtain ⟨w5,h5⟩:∃ u,u=w4.alloc (.cells #[.int .i64 x.e.kind,.slice x.adA x.e.allow.length x.capA,.string x.e.over,.string x.e.name,.slice x.adK x.e.kids.length x.capK] 166):=⟨_,rfl⟩;have s5:w5.heap.size=w.heap.size + 1 + 1 + 1 + 1 + 1:=by rw [h5,World.size_alloc,s4]
 have b5:Below w4.heap.size w4 w5:=by rw [h5]; exact (Below.refl _ _).alloc (Nat.le_refl _) _
 obtain ⟨w6,h6⟩:∃ u,u=w5.alloc (.cells #[sI w.heap.size] 223):=⟨_,rfl⟩;have s6:w6.heap.size=w.heap.size + 1 + 1 + 1 + 1 + 1 + 1:=by rw [h6,World.size_alloc,s5]
 have b6:Below w5.heap.size w5 w6:=by rw [h6]; exact (Below.refl _ _).alloc (Nat.le_refl _) _
 rw [← h1,← h2,← h3,← h4,← h5,← h6];have c0:∀ o,w6.cell? ⟨w.heap.size,o,none⟩=(#[.pointer (some ⟨D,0,none⟩)]:Array Value)[o]?:=fun o=>by
  have e:w1.cell? ⟨w.heap.size,o,none⟩=(#[.pointer (some ⟨D,0,none⟩)]:Array Value)[o]?:=by rw [h1]; exact j5 _ _ _ o
  rw [b6.cell (p:=⟨w.heap.size,o,none⟩) (show w.heap.size < _ by omega),b5.cell (p:=⟨w.heap.size,o,none⟩) (show w.heap.size < _ by omega),b4.cell (p:=⟨w.heap.size,o,none⟩) (show w.heap.size < _ by omega),b3.cell (p:=⟨w.heap.size,o,none⟩) (show w.heap.size < _ by omega),b2.cell (p:=⟨w.heap.size,o,none⟩) (show w.heap.size < _ by omega)]; exact e
 have c1:∀ o,w6.cell? ⟨w.heap.size + 1,o,none⟩=(#[vE]:Array Value)[o]?:=fun o=>by
  have e:w2.cell? ⟨w.heap.size + 1,o,none⟩=(#[vE]:Array Value)[o]?:=by rw [h2,← s1]; exact j5 _ _ _ o
  rw [b6.cell (p:=⟨w.heap.size + 1,o,none⟩) (show w.heap.size + 1 < _ by omega),b5.cell (p:=⟨w.heap.size + 1,o,none⟩) (show w.heap.size + 1 < _ by omega),b4.cell (p:=⟨w.heap.size + 1,o,none⟩) (show w.heap.size + 1 < _ by omega),b3.cell (p:=⟨w.heap.size + 1,o,none⟩) (show w.heap.size + 1 < _ by omega)]; exact e
 have c2:∀ o,w6.cell? ⟨w.heap.size + 1 + 1,o,none⟩=(#[.string f.a,.string f.b,.string f.r,.string f.c,.string f.d]:Array Value)[o]?:=fun o=>by
  have e:w3.cell? ⟨w.heap.size + 1 + 1,o,none⟩=(#[.string f.a,.string f.b,.string f.r,.string f.c,.string f.d]:Array Value)[o]?:=by rw [h3,← s2]; exact j5 _ _ _ o
  rw [b6.cell (p:=⟨w.heap.size + 1 + 1,o,none⟩) (show w.heap.size + 1 + 1 < _ by omega),b5.cell (p:=⟨w.heap.size + 1 + 1,o,none⟩) (show w.heap.size + 1 + 1 < _ by omega),b4.cell (p:=⟨w.heap.size + 1 + 1,o,none⟩) (show w.heap.size + 1 + 1 < _ by omega)]; exact e
 have c3:∀ o,w6.cell? ⟨w.heap.size + 1 + 1 + 1,o,none⟩=(#[.map (some bK)]:Array Value)[o]?:=fun o=>by
  have e:w4.cell? ⟨w.heap.size + 1 + 1 + 1,o,none⟩=(#[.map (some bK)]:Array Value)[o]?:=by rw [h4,← s3]; exact j5 _ _ _ o
  rw [b6.cell (p:=⟨w.heap.size + 1 + 1 + 1,o,none⟩) (show w.heap.size + 1 + 1 + 1 < _ by omega),b5.cell (p:=⟨w.heap.size + 1 + 1 + 1,o,none⟩) (show w.heap.size + 1 + 1 + 1 < _ by omega)]; exact e
 have c4:∀ o,w6.cell? ⟨w.heap.size + 1 + 1 + 1 + 1,o,none⟩=(#[.int .i64 x.e.kind,.slice x.adA x.e.allow.length x.capA,.string x.e.over,.string x.e.name,.slice x.adK x.e.kids.length x.capK]:Array Value)[o]?:=fun o=>by
  have e:w5.cell? ⟨w.heap.size + 1 + 1 + 1 + 1,o,none⟩=(#[.int .i64 x.e.kind,.slice x.adA x.e.allow.length x.capA,.string x.e.over,.string x.e.name,.slice x.adK x.e.kids.length x.capK]:Array Value)[o]?:=by rw [h5,← s4]; exact j5 _ _ _ o
  rw [b6.cell (p:=⟨w.heap.size + 1 + 1 + 1 + 1,o,none⟩) (show w.heap.size + 1 + 1 + 1 + 1 < _ by omega)]; exact e
 have c5:∀ o,w6.cell? ⟨w.heap.size + 1 + 1 + 1 + 1 + 1,o,none⟩=(#[sI w.heap.size]:Array Value)[o]?:=fun o=>by
  have e:w6.cell? ⟨w.heap.size + 1 + 1 + 1 + 1 + 1,o,none⟩=(#[sI w.heap.size]:Array Value)[o]?:=by rw [h6,← s5]; exact j5 _ _ _ o
  exact e
 exact ⟨by omega,c0 0,c1 0,c2 0,c2 1,c2 2,c2 3,c2 4,c3 0,c4 0,c4 1,c4 2,c4 3,c4 4,c5 0⟩
def zI (D:Nat) (vE:Value) (f:Fc) (bK:Nat) (w:World) (i:Int) (b:Bool):Prop:=∀ w1:World,Below w.heap.size w w1→Calls prog 100 #[.pointer (some ⟨D,0,none⟩),vE,.int .i64 i,.agg #[.string f.a,.string f.b,.string f.r,.string f.c,.string f.d],.map (some bK)] w1 fun e w'=>e=.returned (.bool b)∧Below w1.heap.size w1 w'
theorem kJ {w w1:World} {B D:Nat} {vE:Value} {f:Fc} {bK:Nat} {x:ER} {i:Int} {b:Bool} (hK:zI D vE f bK w i b) (hb:Below w.heap.size w w1) (hB:NdB w1 B D vE f bK x) :
  Calls prog 132 #[.int .i64 i,.pointer (some ⟨B,0,none⟩),.pointer (some ⟨B + 1,0,none⟩),.pointer (some ⟨B + 1 + 1,0,none⟩),.pointer (some ⟨B + 1 + 1 + 1,0,none⟩)] w1 fun e w'=>e=.returned (.bool b)∧Below w1.heap.size w1 w':=by
 have HC:=ag (hK w1 hb);obtain ⟨-,d,e,f0,f1,f2,f3,f4,k,-⟩:=hB;clear hK;go_enter func132,ntmps132;go_wp2_with fail;refine HC.out.mono ?_;rintro e w2 ⟨rfl,hb2⟩;have HB:=ag hb2;clear hb2;go_wp2;go_ret;exact ⟨rfl,HB.out⟩
theorem qg {w w1:World} {B D:Nat} {vE:Value} {f:Fc} {bK:Nat} {x:ER} {i:Int} {b:Bool} (hK:zI D vE f bK w i b) (hb:Below w.heap.size w w1) (hB:NdB w1 B D vE f bK x) :
  Calls prog 133 #[.int .i64 i,.pointer (some ⟨B + 1 + 1 + 1 + 1 + 1,0,none⟩)] w1 fun e w'=>e=.returned (.bool (!b))∧Below w1.heap.size w1 w':=by
 have HC:=ag (kJ hK hb hB);have hv:=hB.v;unfold sI at hv;clear hK hB;go_enter func133,ntmps133;go_wp2_with fail;refine HC.out.mono ?_;rintro e w2 ⟨rfl,hb2⟩;have HB:=ag hb2;clear hb2;go_wp2;go_ret;exact ⟨rfl,HB.out⟩
theorem Ld (xs:Array Value) (u:World):(callFunc 132 xs).run prog u=.ok (.enter 132 xs) u:=by kernel_rfl
theorem Le (xs:Array Value) (u:World):(callFunc 133 xs).run prog u=.ok (.enter 133 xs) u:=by kernel_rfl
theorem Gf (p:Int→Bool) {zs:List Int} {k:Nat} (h:k < zs.length):(zs.drop k).any p=(p zs[k] || (zs.drop (k + 1)).any p):=by rw [List.drop_eq_getElem_cons h]; rfl
theorem DV (FC:Nat) (rc cp:Array Value) (p:Int→Bool) (ad:Option Addr) (cap:Nat) (xs:List Int) (w:World) (hlen:xs.length≤1048576) (hs:nA w ad xs)
  (hrun:∀ (ys:Array Value) (u:World),(callFunc FC ys).run prog u=.ok (.enter FC ys) u) (hp:∀ x ∈ xs,∀ w1:World,Below w.heap.size w w1→Calls prog FC (rc.push (.int .i64 x) ++ cp) w1 fun e w'=>e=.returned (.bool (p x))∧Below w1.heap.size w1 w') :
  Calls prog 154 #[.slice ad xs.length cap,.func (Fn.func FC) rc cp] w fun e w'=>(∃ r:Int,e=.returned (.int .i64 r)∧decide (0≤r)=xs.any p)∧Below w.heap.size w w':=by
 have HS:=ag hs;have HRUN:=ag hrun;have HP:=ag hp;clear hs hrun hp;have HD:Hid (∀ k (h:k < xs.length),(xs.drop k).any p=(p xs[k] || (xs.drop (k + 1)).any p)):=fun k h=>Gf p h;go_enter func154,ntmps154;go_wp2_with fail;go_loopw [8] (fun i wr=>∃ k:Nat,k≤xs.length∧i=.int .i64 k∧Hid ((xs.drop k).any p=xs.any p)∧Hid (Below w.heap.size w wr)) (fun i _=>xs.length - (intOf i).toNat);case atStart=>exact ⟨0,Nat.zero_le _,rfl,rfl,Below.refl _ _⟩
 case round =>
  obtain ⟨k,hk,rfl,HQ,HB⟩:=hrel;by_cases hlt:k < xs.length
  ·obtain ⟨b,off,hadr,t0,hbl⟩:=nA.at0 (HS.out.below HB.out) hlt;have HM:Hid (xs[k] ∈ xs):=List.getElem_mem hlt;have hk1:=aY k;have hk2:(k:Int) < (xs.length:Int):=by omega
   have HD2:=ag (HD.out k hlt);subst hadr;go_wp2_with fail;rw [HRUN.out,Oper.upon_enter];refine (HP.out _ HM.out _ HB.out).mono ?_;rintro e w1 ⟨rfl,hb1⟩;have HB1:=fK HB hb1;clear hb1 t0;cases he:p xs[k] with
   | true =>
    have HN:Hid (xs.any p=true):=by show _=_; rw [← HQ.out,HD2.out,he]; rfl
    go_wp2;go_ret;exact ⟨⟨k,rfl,by rw [HN.out]; simp⟩,HB1.out⟩
   | false =>
    have HQ2:Hid ((xs.drop (k + 1)).any p=xs.any p):=by show _=_; rw [← HQ.out,HD2.out,he]; rfl
    go_wp2;go_roundw;case rel=>exact ⟨k + 1,by omega,by go_num,HQ2,HB1⟩
    case measure=>simp [intOf] <;> omega
  ·have HN:Hid (xs.any p=false):=by show _=_; rw [← HQ.out,List.drop_of_length_le (by omega)]; rfl
   go_wp2;go_ret;exact ⟨⟨-1,rfl,by rw [HN.out]; simp⟩,HB.out⟩
theorem nP (FC:Nat) (rc cp:Array Value) (p:Int→Bool) (ad:Option Addr) (cap:Nat) (xs:List Int) (w:World) (hlen:xs.length≤1048576) (hs:nA w ad xs)
  (hrun:∀ (ys:Array Value) (u:World),(callFunc FC ys).run prog u=.ok (.enter FC ys) u) (hp:∀ x ∈ xs,∀ w1:World,Below w.heap.size w w1→Calls prog FC (rc.push (.int .i64 x) ++ cp) w1 fun e w'=>e=.returned (.bool (p x))∧Below w1.heap.size w1 w') :
  Calls prog 136 #[.slice ad xs.length cap,.func (Fn.func FC) rc cp] w fun e w'=>e=.returned (.bool (xs.any p))∧Below w.heap.size w w':=by
 have HC:=ag (DV FC rc cp p ad cap xs w hlen hs hrun hp);clear hs hrun hp;go_enter func136,ntmps136;go_wp2_with fail;refine HC.out.mono ?_;rintro e w' ⟨⟨r,rfl,hr⟩,hbx⟩;have HR:=ag hr;clear hr;go_wp2;go_ret;exact ⟨by rw [← HR.out]; rfl,hbx⟩
section
variable {w:World} {rs:List TR} {D br bp bt bK nK:Nat} {n1:Int} {nr:Nat} {Mr:KL→Option Value} {Er:List (KL × RR)} {ts:List Tp} {xo xu:List Al} {np:Nat} {Mp:K3→Option Value} {vo vu:Value} {out:List Fc} {f:Fc} {adE:Option Addr} {capE:Nat} {rows:List ER} {n:Nat}
theorem Gg (hn:n < rows.length) (hD:DatA w rs D br bp bt n1 nr Mr Er (aN ts) xo xu np Mp vo vu) (hK:aB fT prog 42 w bK nK (oG out)) (hf:f.fits) (hts:∀ t ∈ ts,t.fits) (htl:ts.length≤1000) (hex:dw w adE rows) (hre:rows.length≤1000) (hk:rows[n].e.kind=1) :
  Calls prog 100 #[.pointer (some ⟨D,0,none⟩),.slice adE rows.length capE,.int .i64 (n:Int),.agg #[.string f.a,.string f.b,.string f.r,.string f.c,.string f.d],.map (some bK)] w fun e w'=>e=.returned (.bool (dP ts out f))∧Below w.heap.size w w':=by
 obtain ⟨b,off,hadr,⟨t0,t1,t2,t3,t4⟩,hbl,hok⟩:=dw.at0 hex hn;obtain ⟨W0,hW0⟩:∃ W0,W0=Cx w D (.slice adE rows.length capE) f bK rows[n]:=⟨_,rfl⟩;have HB0:Hid (Below w.heap.size w W0):=by show Below _ _ _; rw [hW0]; exact jd _ _ _ _ _ _
 have HN0:Hid (NdB W0 w.heap.size D (.slice adE rows.length capE) f bK rows[n]):=by show NdB _ _ _ _ _ _ _; rw [hW0]; exact je _ _ _ _ _ _
 have hk1:(rows[n].e.kind == 1)=true:=by rw [hk]; rfl
 have hbl1:b < w.heap.size + 1:=by omega
 have hbl2:b < w.heap.size + 1 + 1:=by omega
 have hbl3:b < w.heap.size + 1 + 1 + 1:=by omega
 have hn1:=aY n;have hn2:(n:Int) < (rows.length:Int):=by omega
 unfold Cx sI at hW0;have HC:=ag (wM (hD.below HB0.out) (hK.below HB0.out) hf hts htl);clear hD hK hts hex hk hok;subst hadr;go_enter func100,ntmps100;go_wp2_with fail;rw [← hW0];clear hW0 t0 t1 t2 t3 t4;refine (HC.out).mono ?_;rintro e w1 ⟨rfl,hb1⟩;have HB1:=ag (HB0.out.trans (hb1.mono HB0.out.size));clear hb1;go_wp2;go_ret;exact ⟨rfl,HB1.out⟩
theorem I5 (hn:n < rows.length) (hK:aB fT prog 42 w bK nK (oG out)) (hf:f.fits) (hnm:rows[n].e.name.size≤maxLen) (hex:dw w adE rows) (hre:rows.length≤1000) (hk:rows[n].e.kind=2) :
  Calls prog 100 #[.pointer (some ⟨D,0,none⟩),.slice adE rows.length capE,.int .i64 (n:Int),.agg #[.string f.a,.string f.b,.string f.r,.string f.c,.string f.d],.map (some bK)] w fun e w'=>e=.returned (.bool (df out ⟨f.a,f.b,rows[n].e.name,f.c,f.d⟩))∧Below w.heap.size w w':=by
 obtain ⟨b,off,hadr,⟨t0,t1,t2,t3,t4⟩,hbl,hok⟩:=dw.at0 hex hn;obtain ⟨W0,hW0⟩:∃ W0,W0=Cx w D (.slice adE rows.length capE) f bK rows[n]:=⟨_,rfl⟩;have HB0:Hid (Below w.heap.size w W0):=by show Below _ _ _; rw [hW0]; exact jd _ _ _ _ _ _
 have HN0:Hid (NdB W0 w.heap.size D (.slice adE rows.length capE) f bK rows[n]):=by show NdB _ _ _ _ _ _ _; rw [hW0]; exact je _ _ _ _ _ _
 have hk1:(rows[n].e.kind == 1)=false:=by rw [hk]; rfl
 have hk2:(rows[n].e.kind == 2)=true:=by rw [hk]; rfl
 have hbl1:b < w.heap.size + 1:=by omega
 have hbl2:b < w.heap.size + 1 + 1:=by omega
 have hbl3:b < w.heap.size + 1 + 1 + 1:=by omega
 have hn1:=aY n;have hn2:(n:Int) < (rows.length:Int):=by omega
 unfold Cx sI at hW0;have HC:=ag (mg bK nK out ⟨f.a,f.b,rows[n].e.name,f.c,f.d⟩ W0 ⟨hf.1,hf.2.1,hnm,hf.2.2.2.1,hf.2.2.2.2⟩ (hK.below HB0.out));clear hK hex hk hok hf;subst hadr;go_enter func100,ntmps100;go_wp2_with fail;rw [← hW0];clear hW0 t0 t1 t2 t3 t4;refine (HC.out).mono ?_;rintro e w1 ⟨rfl,hb1⟩;have HB1:=ag (HB0.out.trans (hb1.mono HB0.out.size));clear hb1;go_wp2;go_ret;exact ⟨rfl,HB1.out⟩
theorem Gh (hn:n < rows.length) (hD:DatA w rs D br bp bt n1 nr Mr Er (aN ts) xo xu np Mp vo vu) (hK:aB fT prog 42 w bK nK (oG out)) (hf:f.fits) (hxf:rows[n].e.over.size≤maxLen∧rows[n].e.name.size≤maxLen) (hts:∀ t ∈ ts,t.fits) (htl:ts.length≤1000) (hex:dw w adE rows) (hre:rows.length≤1000) (hk:rows[n].e.kind=3) :
  Calls prog 100 #[.pointer (some ⟨D,0,none⟩),.slice adE rows.length capE,.int .i64 (n:Int),.agg #[.string f.a,.string f.b,.string f.r,.string f.c,.string f.d],.map (some bK)] w fun e w'=>e=.returned (.bool (eO ts out rows[n].e.over rows[n].e.name f))∧Below w.heap.size w w':=by
 obtain ⟨b,off,hadr,⟨t0,t1,t2,t3,t4⟩,hbl,hok⟩:=dw.at0 hex hn;obtain ⟨W0,hW0⟩:∃ W0,W0=Cx w D (.slice adE rows.length capE) f bK rows[n]:=⟨_,rfl⟩;have HB0:Hid (Below w.heap.size w W0):=by show Below _ _ _; rw [hW0]; exact jd _ _ _ _ _ _
 have HN0:Hid (NdB W0 w.heap.size D (.slice adE rows.length capE) f bK rows[n]):=by show NdB _ _ _ _ _ _ _; rw [hW0]; exact je _ _ _ _ _ _
 have hk1:(rows[n].e.kind == 1)=false:=by rw [hk]; rfl
 have hk2:(rows[n].e.kind == 2)=false:=by rw [hk]; rfl
 have hk3:(rows[n].e.kind == 3)=true:=by rw [hk]; rfl
 have hbl1:b < w.heap.size + 1:=by omega
 have hbl2:b < w.heap.size + 1 + 1:=by omega
 have hbl3:b < w.heap.size + 1 + 1 + 1:=by omega
 have hn1:=aY n;have hn2:(n:Int) < (rows.length:Int):=by omega
 unfold Cx sI at hW0;have HC:=ag (wN (hD.below HB0.out) (hK.below HB0.out) rows[n] hxf hf hts htl);clear hD hK hts hex hk hok hxf hf;subst hadr;go_enter func100,ntmps100;go_wp2_with fail;rw [← hW0];clear hW0 t0 t1 t2 t3 t4;refine (HC.out).mono ?_;rintro e w1 ⟨rfl,hb1⟩;have HB1:=ag (HB0.out.trans (hb1.mono HB0.out.size));clear hb1;go_wp2;go_ret;exact ⟨rfl,HB1.out⟩
theorem DW (hn:n < rows.length) (H:Int→Bool) (hkl:rows[n].e.kids.length≤1000) (hIH:∀ i ∈ rows[n].e.kids,zI D (.slice adE rows.length capE) f bK w i (H i)) (hex:dw w adE rows) (hre:rows.length≤1000) (hk:rows[n].e.kind=4) :
  Calls prog 100 #[.pointer (some ⟨D,0,none⟩),.slice adE rows.length capE,.int .i64 (n:Int),.agg #[.string f.a,.string f.b,.string f.r,.string f.c,.string f.d],.map (some bK)] w fun e w'=>e=.returned (.bool (rows[n].e.kids.any H))∧Below w.heap.size w w':=by
 obtain ⟨b,off,hadr,⟨t0,t1,t2,t3,t4⟩,hbl,hok⟩:=dw.at0 hex hn;obtain ⟨W0,hW0⟩:∃ W0,W0=Cx w D (.slice adE rows.length capE) f bK rows[n]:=⟨_,rfl⟩;have HB0:Hid (Below w.heap.size w W0):=by show Below _ _ _; rw [hW0]; exact jd _ _ _ _ _ _
 have HN0:Hid (NdB W0 w.heap.size D (.slice adE rows.length capE) f bK rows[n]):=by show NdB _ _ _ _ _ _ _; rw [hW0]; exact je _ _ _ _ _ _
 have hk1:(rows[n].e.kind == 1)=false:=by rw [hk]; rfl
 have hk2:(rows[n].e.kind == 2)=false:=by rw [hk]; rfl
 have hk3:(rows[n].e.kind == 3)=false:=by rw [hk]; rfl
 have hk4:(rows[n].e.kind == 4)=true:=by rw [hk]; rfl
 have hbl1:b < w.heap.size + 1:=by omega
 have hbl2:b < w.heap.size + 1 + 1:=by omega
 have hbl3:b < w.heap.size + 1 + 1 + 1:=by omega
 have hn1:=aY n;have hn2:(n:Int) < (rows.length:Int):=by omega
 unfold Cx sI at hW0;have HC:=ag (nP 132 #[] #[.pointer (some ⟨w.heap.size,0,none⟩),.pointer (some ⟨w.heap.size + 1,0,none⟩),.pointer (some ⟨w.heap.size + 1 + 1,0,none⟩),.pointer (some ⟨w.heap.size + 1 + 1 + 1,0,none⟩)] H rows[n].adK rows[n].capK rows[n].e.kids W0 (by omega) (hok.2.below HB0.out) Ld (fun i hi w1 hb=>kJ (hIH i hi) (HB0.out.trans (hb.mono HB0.out.size)) (HN0.out.below hb)));clear hIH hex hk hok;subst hadr;go_enter func100,ntmps100;go_wp2_with fail;rw [← hW0];clear hW0 t0 t1 t2 t3 t4;refine (HC.out).mono ?_;rintro e w1 ⟨rfl,hb1⟩;have HB1:=ag (HB0.out.trans (hb1.mono HB0.out.size));clear hb1;go_wp2;go_ret;exact ⟨rfl,HB1.out⟩
theorem Gi (hn:n < rows.length) (H:Int→Bool) (hkl:rows[n].e.kids.length≤1000) (hIH:∀ i ∈ rows[n].e.kids,zI D (.slice adE rows.length capE) f bK w i (H i)) (hex:dw w adE rows) (hre:rows.length≤1000) (hk:rows[n].e.kind=5) :
  Calls prog 100 #[.pointer (some ⟨D,0,none⟩),.slice adE rows.length capE,.int .i64 (n:Int),.agg #[.string f.a,.string f.b,.string f.r,.string f.c,.string f.d],.map (some bK)] w fun e w'=>e=.returned (.bool (rows[n].e.kids.all H))∧Below w.heap.size w w':=by
 obtain ⟨b,off,hadr,⟨t0,t1,t2,t3,t4⟩,hbl,hok⟩:=dw.at0 hex hn;obtain ⟨W0,hW0⟩:∃ W0,W0=Cx w D (.slice adE rows.length capE) f bK rows[n]:=⟨_,rfl⟩;have HB0:Hid (Below w.heap.size w W0):=by show Below _ _ _; rw [hW0]; exact jd _ _ _ _ _ _
 have HN0:Hid (NdB W0 w.heap.size D (.slice adE rows.length capE) f bK rows[n]):=by show NdB _ _ _ _ _ _ _; rw [hW0]; exact je _ _ _ _ _ _
 have hk1:(rows[n].e.kind == 1)=false:=by rw [hk]; rfl
 have hk2:(rows[n].e.kind == 2)=false:=by rw [hk]; rfl
 have hk3:(rows[n].e.kind == 3)=false:=by rw [hk]; rfl
 have hk4:(rows[n].e.kind == 4)=false:=by rw [hk]; rfl
 have hk5:(rows[n].e.kind == 5)=true:=by rw [hk]; rfl
 have hbl1:b < w.heap.size + 1:=by omega
 have hbl2:b < w.heap.size + 1 + 1:=by omega
 have hbl3:b < w.heap.size + 1 + 1 + 1:=by omega
 have hn1:=aY n;have hn2:(n:Int) < (rows.length:Int):=by omega
 unfold Cx sI at hW0;have HC:=ag (nP 133 #[] #[.pointer (some ⟨w.heap.size + 1 + 1 + 1 + 1 + 1,0,none⟩)] (fun i=>!H i) rows[n].adK rows[n].capK rows[n].e.kids W0 (by omega) (hok.2.below HB0.out) Le (fun i hi w1 hb=>qg (hIH i hi) (HB0.out.trans (hb.mono HB0.out.size)) (HN0.out.below hb)));have HAL:Hid ((rows[n].e.kids.any fun i=>!H i)=!rows[n].e.kids.all H):=by show _=_; rw [List.not_all_eq_any_not]
 clear hIH hex hk hok;subst hadr;go_enter func100,ntmps100;go_wp2_with fail;rw [← hW0];clear hW0 t0 t1 t2 t3 t4;refine (HC.out).mono ?_;rintro e w1 ⟨he,hb1⟩;rw [HAL.out] at he;subst he;have HB1:=ag (HB0.out.trans (hb1.mono HB0.out.size));clear hb1;go_wp2;go_ret;exact ⟨by simp,HB1.out⟩
end
end Go.Proofs.YtdaoiceeidoehaaGreat
