/- What the drawing of a word answers: some number. -/
import Derived.Test.YteoflgocljfgeaaGreatDoorJ2
open Go.Proofs.Tryz
set_option maxHeartbeats 80000000
namespace Go.Proofs.YteoflgocljfgeaaGreatDoor
set_option maxRecDepth 100000
open Go.ChangeShapes Go.WideShapes Go.ChangeAt Go.RowKit
open Pl
theorem qN (R:Nat) (ad:Option Addr) (len cap:Nat) (w:World) (h:Rd w R ad len cap) :
  Calls prog 132 #[.pointer (some ⟨R,0,none⟩)] w fun e w'=>(∃ x:Int,e=.returned (.int .u64 x))∧Rd w' R ad len cap∧Only R w w':=by
 have H:Hid (Rd w R ad len cap):=h;clear h;go_enter func132,ntmps132;go_wp2;go_loopw [3,4] (fun v i wr=>∃ (x:Int) (k:Nat),v=.int .u64 x∧i=.int .i64 (k:Int)∧k≤8∧Hid (Rd wr R ad len cap)∧Hid (Only R w wr)) (fun _ i _=>8 - (intOf i).toNat);case atStart=>exact ⟨0,0,rfl,rfl,by omega,H,Only.refl _ _⟩
 case round =>
  obtain ⟨x,k,rfl,rfl,hk,HR,HO⟩:=hrel;by_cases hlt:k < 8
  ·have hk1:(k:Int) < 8:=by omega
   go_wp2_with fail;refine (Bg R ad len cap _ HR.out).mono ?_;rintro e w1 ⟨⟨y,rfl,hy0,hy1⟩,hR1,hO1⟩;have HR1:Hid (Rd w1 R ad len cap):=hR1;have HO1:Hid (Only R w w1):=HO.out.trans hO1;clear hR1 hO1;go_wp2;go_roundw;case rel=>exact ⟨_,k + 1,rfl,by go_num,by omega,HR1,HO1⟩
   case measure=>simp [intOf] <;> omega
  ·have hk1:¬ (k:Int) < 8:=by omega
   go_wp2;go_ret;exact ⟨⟨x,rfl⟩,HR.out,HO.out⟩
theorem Hu (R:Nat) (ad:Option Addr) (len cap:Nat) (w:World) (h:Rd w R ad len cap) :
  Calls prog 102 #[.pointer (some ⟨R,0,none⟩),.int .i64 1,.int .i64 6] w fun e w'=>(∃ x:Int,e=.returned (.int .i64 x))∧Rd w' R ad len cap∧Only R w w':=by
 have H:=iF h;clear h;go_enter func102,ntmps102;go_wp2_with fail;refine (fe R ad len cap 8 _ H.out (by omega) (by omega)).mono ?_;rintro e w1 ⟨⟨x,rfl,hx⟩,hR1,hO1⟩;have HR1:=iF hR1;have HO1:=iF hO1;clear hR1 hO1;by_cases h0:x=0
 ·subst h0;go_wp2;go_ret;exact ⟨⟨_,rfl⟩,HR1.out,HO1.out⟩
 ·have h00:((x:Int) == 0)=false:=by simp; omega
  by_cases h1:x=1
  ·subst h1;go_wp2;go_ret;exact ⟨⟨_,rfl⟩,HR1.out,HO1.out⟩
  ·have h11:((x:Int) == 1)=false:=by simp; omega
   go_wp2_with fail;refine (qN R ad len cap _ HR1.out).mono ?_;rintro e w2 ⟨⟨y,rfl⟩,hR2,hO2⟩;have HR2:=iF hR2;have HO2:Hid (Only R w w2):=HO1.out.trans hO2;clear hR2 hO2;go_wp2;go_ret;exact ⟨⟨_,rfl⟩,HR2.out,HO2.out⟩
theorem Kw (R:Nat) (ad:Option Addr) (len cap:Nat) (w:World) (h:Rd w R ad len cap) :
  Calls prog 69 #[.pointer (some ⟨R,0,none⟩),.int .i64 1,.int .i64 6] w fun e w'=>(∃ x:Int,e=.returned (.int .i64 x))∧Rd w' R ad len cap∧Only R w w':=by
 have H:=iF h;clear h;go_enter func69,ntmps69;go_wp2_with fail;refine (dY R ad len cap 24 _ H.out (by omega) (by omega)).mono ?_;rintro e w1 ⟨⟨q,rfl⟩,hR1,hO1⟩;have HR1:=iF hR1;have HO1:=iF hO1;have hRw:=hR1.lt;clear hR1 hO1;cases q with
 | false =>
  go_wp2_with fail;refine (Hu R ad len cap _ HR1.out).mono ?_;rintro e w2 ⟨⟨y,rfl⟩,hR2,hO2⟩;have HR2:=iF hR2;have HO2:Hid (Only R w w2):=HO1.out.trans hO2;clear hR2 hO2;go_wp2;go_ret;exact ⟨⟨_,rfl⟩,HR2.out,HO2.out⟩
 | true =>
  obtain ⟨W0,hW0⟩:∃ W0,W0=w1.alloc (.cells #[.int .i64 0,.int .i64 7,.int .i64 (-9223372036854775808),.int .i64 9223372036854775807] 2):=⟨_,rfl⟩;have HR0:Hid (Rd W0 R ad len cap):=by show Rd _ _ _ _ _; rw [hW0]; exact HR1.out.alloc _
  have HO0:Hid (Only R w W0):=by show Only _ _ _; rw [hW0]; exact HO1.out.alloc _
  have HC0:Hid (w1.heap.size < W0.heap.size∧∀ o,o < 4→∃ z:Int,W0.cell? ⟨w1.heap.size,o,none⟩=some (.int .i64 z)):=by
   show _∧_;rw [hW0];refine ⟨by simp,fun o ho=>?_⟩;have:o=0 ∨ o=1 ∨ o=2 ∨ o=3:=by omega
   rcases this with rfl | rfl | rfl | rfl <;> exact ⟨_,by simp; rfl⟩
  go_wp2_with fail;rw [← hW0]; clear hW0;refine (fe R ad len cap 4 _ HR0.out (by omega) (by omega)).mono ?_;rintro e w2 ⟨⟨x,rfl,hx⟩,hR2,hO2⟩;obtain ⟨z,hz⟩:=HC0.out.2 x hx;have hz2:w2.cell? ⟨w1.heap.size,x,none⟩=some (.int .i64 z):=by rw [hO2.cell HC0.out.1 (by omega)]; exact hz
  have HR2:=iF hR2;have HO2:Hid (Only R w w2):=HO0.out.trans hO2;have hx0:=bR x;have hx1:(x:Int) < 4:=by omega
  clear hR2 hO2 hz HC0 HR0 HO0;go_wp2;go_ret;exact ⟨⟨z,rfl⟩,HR2.out,HO2.out⟩
structure Al where
 t:ByteArray
 s:ByteArray
def Al.fits (a:Al):Prop:=a.t.size≤maxLen∧a.s.size≤maxLen
def MZ (w:World) (b off:Nat) (a:Al):Prop:=w.cell? ⟨b,off,none⟩=some (.string a.t)∧w.cell? ⟨b,off + 1,none⟩=some (.string a.s)
def kF (w:World) (ad:Option Addr) (xs:List Al):Prop:=xs=[] ∨ ∃ b off,ad=some ⟨b,off,none⟩∧b < w.heap.size∧∀ (i:Nat) (h:i < xs.length),MZ w b (off + i * 2) xs[i]
def Bn (w:World) (ad:Option Addr) (zs:List Int):Prop:=zs=[] ∨ ∃ b off,ad=some ⟨b,off,none⟩∧b < w.heap.size∧∀ (i:Nat) (h:i < zs.length),w.cell? ⟨b,off + i,none⟩=some (.int .i64 zs[i])
theorem MZ.same {w w':World} {b off:Nat} {a:Al} (h:MZ w b off a) (hc:∀ o,w'.cell? ⟨b,o,none⟩=w.cell? ⟨b,o,none⟩):MZ w' b off a:=⟨(hc _).trans h.1,(hc _).trans h.2⟩
theorem kF.below {w w':World} {ad:Option Addr} {xs:List Al} (h:kF w ad xs) (hB:Below w.heap.size w w'):kF w' ad xs:=by
 rcases h with h | ⟨b,off,e,hb,hr⟩
 ·exact .inl h
 ·exact .inr ⟨b,off,e,Nat.lt_of_lt_of_le hb hB.size,fun i hi=>(hr i hi).same fun o=>hB.cell (p:=⟨b,o,none⟩) hb⟩
theorem Bn.below {w w':World} {ad:Option Addr} {zs:List Int} (h:Bn w ad zs) (hB:Below w.heap.size w w'):Bn w' ad zs:=by
 rcases h with h | ⟨b,off,e,hb,hr⟩
 ·exact .inl h
 ·exact .inr ⟨b,off,e,Nat.lt_of_lt_of_le hb hB.size,fun i hi=>(hB.cell (p:=⟨b,off + i,none⟩) hb).trans (hr i hi)⟩
structure Ex where
 kind:Int
 allow:List Al
 over:ByteArray
 name:ByteArray
 kids:List Int
structure ER where
 e:Ex
 adA:Option Addr
 capA:Nat
 adK:Option Addr
 capK:Nat
def ER.val (r:ER):Value:=.agg #[.int .i64 r.e.kind,.slice r.adA r.e.allow.length r.capA,.string r.e.over,.string r.e.name,.slice r.adK r.e.kids.length r.capK]
def ER.ok (w:World) (r:ER):Prop:=kF w r.adA r.e.allow∧Bn w r.adK r.e.kids
def Ex.fits (e:Ex):Prop:=(∀ a ∈ e.allow,a.fits)∧e.over.size≤maxLen∧e.name.size≤maxLen∧e.allow.length≤maxLen∧e.kids.length≤maxLen
theorem ER.ok.below {w w':World} {r:ER} (h:r.ok w) (hB:Below w.heap.size w w'):r.ok w':=⟨h.1.below hB,h.2.below hB⟩
def ve (w:World) (b off:Nat) (r:ER):Prop :=
 w.cell? ⟨b,off,none⟩=some (.int .i64 r.e.kind)∧w.cell? ⟨b,off + 1,none⟩=some (.slice r.adA r.e.allow.length r.capA)∧w.cell? ⟨b,off + 2,none⟩=some (.string r.e.over) ∧
 w.cell? ⟨b,off + 3,none⟩=some (.string r.e.name)∧w.cell? ⟨b,off + 4,none⟩=some (.slice r.adK r.e.kids.length r.capK)
theorem ve.same {w w':World} {b off:Nat} {r:ER} (h:ve w b off r) (hc:∀ o,w'.cell? ⟨b,o,none⟩=w.cell? ⟨b,o,none⟩):ve w' b off r:=by
 obtain ⟨h0,h1,h2,h3,h4⟩:=h;exact ⟨(hc _).trans h0,(hc _).trans h1,(hc _).trans h2,(hc _).trans h3,(hc _).trans h4⟩
def kX (w:World) (ad:Option Addr) (rs:List ER):Prop:=rs=[] ∨ ∃ b off,ad=some ⟨b,off,none⟩∧b < w.heap.size∧(∀ (i:Nat) (h:i < rs.length),ve w b (off + i * 5) rs[i])∧∀ r ∈ rs,r.ok w
theorem kX.below {w w':World} {ad:Option Addr} {rs:List ER} (h:kX w ad rs) (hB:Below w.heap.size w w'):kX w' ad rs:=by
 rcases h with h | ⟨b,off,e,hb,hr,hk⟩
 ·exact .inl h
 ·exact .inr ⟨b,off,e,Nat.lt_of_lt_of_le hb hB.size,fun i hi=>(hr i hi).same fun o=>hB.cell (p:=⟨b,o,none⟩) hb,fun r hr=>(hk r hr).below hB⟩
def au (rs:List ER):List Ex:=rs.map ER.e
theorem bq (rs:List ER):(au rs).length=rs.length:=by simp [au]
def qO (s:ByteArray):Bool:=s.toList.isEmpty || aU s
theorem vH (s:ByteArray) (w:World) (hs:s.size≤maxLen) :
  Calls prog 110 #[.string s] w fun e w'=>e=.returned (.bool (qO s))∧w'=w:=by
 go_enter func110,ntmps110;go_wp2_with (go_at_call 109; refine (aF _ _ hs).mono ?_; rintro e w' ⟨rfl,rfl⟩)
 all_goals go_ret
 all_goals exact ⟨ag (by simp [qO, *]),rfl⟩
def Ex.light (e:Ex):Prop:=e.allow.length≤1048576∧e.kids.length≤1048576
structure Fil (w wr:World) (g n:Nat) (xs:List Value):Prop where
 below:Below w.heap.size w wr
 ge:w.heap.size≤g
 lt:g < wr.heap.size
 done:∀ (j:Nat) (h:j < xs.length),wr.cell? ⟨g,j,none⟩=some xs[j]
 there:∀ j,j < n→(wr.cell? ⟨g,j,none⟩).isSome=true
 free:∀ j,wr.frozen? ⟨g,j,none⟩=false
theorem nA {w:World} {g i j:Nat} {v:Value} (h:i ≠ j):(w.setCell ⟨g,i,none⟩ v).cell? ⟨g,j,none⟩=w.cell? ⟨g,j,none⟩:=by
 apply World.cell?_setCell_other;intro e;exact h (congrArg Addr.off e)
theorem vI {w:World} {a:Addr} {v u:Value} (h:w.cell? a=some u):(w.setCell a v).cell? a=some v:=by
 apply World.cell?_setCell_same; exact h
theorem tV {w:World} {g h i j:Nat} {v:Value} (hn:g ≠ h):(w.setCell ⟨g,i,none⟩ v).cell? ⟨h,j,none⟩=w.cell? ⟨h,j,none⟩:=by
 apply World.cell?_setCell_other;intro e;exact hn (congrArg Addr.block e)
theorem Fil.later {w wr w1:World} {g n:Nat} {xs:List Value} (h:Fil w wr g n xs) (hb:Below wr.heap.size wr w1):Fil w w1 g n xs where
 below:=h.below.trans (hb.mono h.below.size)
 ge:=h.ge
 lt:=Nat.lt_of_lt_of_le h.lt hb.size
 done j hj:=by rw [hb.cell (p:=⟨g,j,none⟩) h.lt]; exact h.done j hj
 there j hj:=by rw [hb.cell (p:=⟨g,j,none⟩) h.lt]; exact h.there j hj
 free j:=by rw [hb.frozen (p:=⟨g,j,none⟩) h.lt]; exact h.free j
theorem Fil.put {w wr:World} {g n o:Nat} {xs:List Value} (h:Fil w wr g n xs) (v:Value) (ho:o=xs.length) (hn:o < n):Fil w (wr.setCell ⟨g,o,none⟩ v) g n (xs ++ [v]) where
 below:=h.below.setCell (p:=⟨g,o,none⟩) h.ge v
 ge:=h.ge
 lt:=by simpa using h.lt
 done j hj:=by
  by_cases e:j=o
  ·subst e;obtain ⟨u,hu⟩:=Option.isSome_iff_exists.mp (h.there j hn);rw [vI hu];simp [ho]
  ·have hj':j < xs.length:=by simp at hj; omega
   rw [nA (Ne.symm e),h.done j hj',List.getElem_append_left hj']
 there j hj:=by
  by_cases e:j=o
  ·subst e;obtain ⟨u,hu⟩:=Option.isSome_iff_exists.mp (h.there j hn);rw [vI hu]; rfl
  ·rw [nA (Ne.symm e)];exact h.there j hj
 free j:=by simpa using h.free j
def ints (zs:List Int):List Value:=zs.map (Value.int .i64)
theorem Fil.ints {w w':World} {g:Nat} {zs:List Int} (h:Fil w w' g zs.length (ints zs)):Bn w' (some ⟨g,0,none⟩) zs :=
 .inr ⟨g,0,rfl,h.lt,fun i hi=>by rw [Nat.zero_add,h.done i (by simpa [YteoflgocljfgeaaGreatDoor.ints] using hi)]; simp [YteoflgocljfgeaaGreatDoor.ints]⟩
def pairs (xs:List Al):List Value:=xs.flatMap fun a=>[.string a.t,.string a.s]
theorem oK:∀ xs:List Al,(pairs xs).length=xs.length * 2
 | []=>rfl
 | a::xs=>by have:=oK xs; simp only [pairs,List.flatMap_cons,List.length_append,List.length_cons,List.length_nil] at this ⊢; omega
theorem qP:∀ (xs:List Al) (i:Nat) (h:i < xs.length),(pairs xs)[i * 2]?=some (.string xs[i].t)∧(pairs xs)[i * 2 + 1]?=some (.string xs[i].s)
 | [],i,h=>by simp at h
 | a::xs,0,_=>by simp [pairs]
 | a::xs,i + 1,h=>by
  have:=qP xs i (by simpa using h);simp only [pairs,List.flatMap_cons,List.cons_append,List.nil_append,List.getElem_cons_succ] at this ⊢;rw [show (i + 1) * 2=i * 2 + 1 + 1 by omega,show i * 2 + 1 + 1 + 1=(i * 2 + 1) + 1 + 1 by omega];simpa using this
theorem Fil.pairs {w w':World} {g:Nat} {xs:List Al} (h:Fil w w' g (xs.length * 2) (pairs xs)):kF w' (some ⟨g,0,none⟩) xs:=by
 refine .inr ⟨g,0,rfl,h.lt,fun i hi=>?_⟩;obtain ⟨h1,h2⟩:=qP xs i hi;have hl:=oK xs;refine ⟨?_,?_⟩
 ·rw [Nat.zero_add,h.done (i * 2) (by omega),← h1,List.getElem?_eq_getElem (by omega)]
 ·rw [Nat.zero_add,h.done (i * 2 + 1) (by omega),← h2,List.getElem?_eq_getElem (by omega)]
end Go.Proofs.YteoflgocljfgeaaGreatDoor
