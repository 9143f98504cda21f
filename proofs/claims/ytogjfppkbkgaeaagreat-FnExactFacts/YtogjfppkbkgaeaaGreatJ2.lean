/- Contracts of the functions that look at names and ids, the document's model beside the program's: each returns what the plain function says and leaves the world as it was. -/
import Derived.Test.YtogjfppkbkgaeaaGreatRows
import Derived.Test.YtogjfppkbkgaeaaGreatJ1
import Derived.WalkKit
import Derived.WalkLawsBesides
import Derived.ProofKit
namespace Go.Proofs.YtogjfppkbkgaeaaGreat
open Go.ChangeShapes Go.WideShapes Go.ChangeAt Go.RowKit
open Pl
theorem jd (c:UInt8) (w:World) :
  Calls Tryz.prog 155 #[.int .u8 c.toNat] w fun e w'=>e=.returned (.bool (gM c))∧w'=w:=by
 go_enter Tryz.func155,Tryz.ntmps155;go_wp2
 all_goals go_ret
 all_goals refine ⟨ae ?_,rfl⟩
 all_goals (rw [Bool.eq_iff_iff]; simp [gM]; omega)
theorem az (s:ByteArray) (w:World) (hs:s.size≤maxLen) :
  Calls Tryz.prog 77 #[.string s] w fun e w'=>e=.returned (.bool (aL s))∧w'=w:=by
 unfold maxLen at hs;by_cases h1:1≤s.size∧s.size≤12
 ·obtain ⟨ha,hb⟩:=h1;go_enter Tryz.func77,Tryz.ntmps77;go_wp2
  go_loop [3] (fun i=>∃ k:Nat,k≤s.size∧i=.int .i64 k∧Hid (Dl gM s k=true)) (fun i=>s.size - (intOf i).toNat)
  case atStart=>exact ⟨0,Nat.zero_le _,rfl,pu _ _⟩
  case round =>
   obtain ⟨k,hk,rfl,hu⟩:=hrel;by_cases hlt:k < s.size
   ·by_cases hc:gM s[k]=true
    ·have hc1:97≤s[k].toNat:=by simp [gM] at hc; omega
     have hc2:s[k].toNat≤122:=by simp [gM] at hc; omega
     have HU:Hid (Dl gM s (k + 1)=true):=by show _=_; rw [pz _ _ _ hlt,hc,hu.out]; rfl
     clear hc;go_wp2;go_round;case rel=>exact ⟨k + 1,by omega,by go_num,HU⟩
     case measure=>simp [intOf]; omega
    ·have hc':gM s[k]=false:=by simpa using hc
     have HB:Hid (oC gM s=false):=uu _ _ _ hlt hc';have hd:s[k].toNat < 97 ∨ 122 < s[k].toNat:=by simp [gM] at hc'; omega
     clear hc hc';rcases hd with hd | hd
     all_goals
      go_wp2;go_ret;exact ⟨ae (by simp [aL,dx,HB.out]),rfl⟩
   ·go_wp2;go_ret;refine ⟨ae ?_,rfl⟩;have hall:oC gM s=true:=by rw [← ut gM s k (by omega)]; exact hu.out
    have hl:kL s=true:=by simp [kL]; omega
    simp [aL,dx,uq,hall,hl]
 ·have hn:kL s=false:=by simp [kL]; omega
  have HN:Hid (aL s=false):=by show _=_; simp [aL,dx,hn]
  clear hn;by_cases ha:1≤s.size
  ·have hb:12 < s.size:=by omega
   clear h1;go_enter Tryz.func77,Tryz.ntmps77;go_wp2;go_ret;exact ⟨ae HN.out.symm,rfl⟩
  ·have ha':s.size < 1:=by omega
   clear h1;go_enter Tryz.func77,Tryz.ntmps77;go_wp2;go_ret;exact ⟨ae HN.out.symm,rfl⟩
theorem uJ (s:ByteArray) (w:World) (hs:s.size≤maxLen) :
  Calls Tryz.prog 154 #[.string s,.func (Fn.func 155) #[] #[]] w fun e w'=>e=.returned (.bool (dx gM s))∧w'=w:=by
 unfold maxLen at hs;by_cases h1:1≤s.size∧s.size≤12
 ·obtain ⟨ha,hb⟩:=h1;go_enter Tryz.func154,Tryz.ntmps154;go_wp2
  go_loop [16] (fun i=>∃ k:Nat,k≤s.size∧i=.int .i64 k∧Hid (Dl gM s k=true)) (fun i=>s.size - (intOf i).toNat)
  case atStart=>exact ⟨0,Nat.zero_le _,rfl,pu _ _⟩
  case round =>
   obtain ⟨k,hk,rfl,hu⟩:=hrel;by_cases hlt:k < s.size
   ·by_cases hc:gM s[k]=true
    ·have HU:Hid (Dl gM s (k + 1)=true):=by show _=_; rw [pz _ _ _ hlt,hc,hu.out]; rfl
     go_wp2_with (go_at_call 155; refine (jd _ _).mono ?_; rintro e w' ⟨rfl,rfl⟩);go_round;case rel=>exact ⟨k + 1,by omega,by go_num,HU⟩
     case measure=>simp [intOf]; omega
    ·have hc':gM s[k]=false:=by simpa using hc
     have HB:Hid (oC gM s=false):=uu _ _ _ hlt hc';clear hc;go_wp2_with (go_at_call 155; refine (jd _ _).mono ?_; rintro e w' ⟨rfl,rfl⟩);go_ret;exact ⟨ae (by simp [dx,HB.out]),rfl⟩
   ·go_wp2;go_ret;refine ⟨ae ?_,rfl⟩;have hall:oC gM s=true:=by rw [← ut gM s k (by omega)]; exact hu.out
    have hl:kL s=true:=by simp [kL]; omega
    simp [dx,hall,hl]
 ·have hn:kL s=false:=by simp [kL]; omega
  have HN:Hid (dx gM s=false):=by show _=_; simp [dx,hn]
  clear hn;by_cases ha:1≤s.size
  ·have hb:12 < s.size:=by omega
   clear h1;go_enter Tryz.func154,Tryz.ntmps154;go_wp2;go_ret;exact ⟨ae HN.out.symm,rfl⟩
  ·have ha':s.size < 1:=by omega
   clear h1;go_enter Tryz.func154,Tryz.ntmps154;go_wp2;go_ret;exact ⟨ae HN.out.symm,rfl⟩
theorem aj (s:ByteArray) (w:World) (hs:s.size≤maxLen) :
  Calls Tryz.prog 127 #[.string s] w fun e w'=>e=.returned (.bool (aL s))∧w'=w:=by
 by_cases h:s.toList=[116,104,105,115]
 ·have hb:(s.toList == [116,104,105,115])=true:=by simp [h]
  have HN:Hid (aL s=false):=by show _=_; simp [aL,uq,h]
  clear h;go_enter Tryz.func127,Tryz.ntmps127;go_wp2;go_ret;exact ⟨ae HN.out.symm,rfl⟩
 ·have hb:(s.toList == [116,104,105,115])=false:=by simp [h]
  have HN:Hid (aL s=dx gM s):=by show _=_; simp [aL,uq,h]
  clear h;go_enter Tryz.func127,Tryz.ntmps127;go_wp2_with (go_at_call 154; refine (uJ _ _ hs).mono ?_; rintro e w' ⟨rfl,rfl⟩);go_ret;exact ⟨ae HN.out.symm,rfl⟩
structure Al where
 t:ByteArray
 s:ByteArray
def Al.fits (a:Al):Prop:=a.t.size≤maxLen∧a.s.size≤maxLen
def Km (w:World) (b off:Nat) (a:Al):Prop:=w.cell? ⟨b,off,none⟩=some (.string a.t)∧w.cell? ⟨b,off + 1,none⟩=some (.string a.s)
def eF (w:World) (ad:Option Addr) (xs:List Al):Prop:=xs=[] ∨ ∃ b off,ad=some ⟨b,off,none⟩∧b < w.heap.size∧∀ (i:Nat) (h:i < xs.length),Km w b (off + i * 2) xs[i]
def kN (w:World) (ad:Option Addr) (zs:List Int):Prop:=zs=[] ∨ ∃ b off,ad=some ⟨b,off,none⟩∧b < w.heap.size∧∀ (i:Nat) (h:i < zs.length),w.cell? ⟨b,off + i,none⟩=some (.int .i64 zs[i])
theorem Km.same {w w':World} {b off:Nat} {a:Al} (h:Km w b off a) (hc:∀ o,w'.cell? ⟨b,o,none⟩=w.cell? ⟨b,o,none⟩):Km w' b off a:=⟨(hc _).trans h.1,(hc _).trans h.2⟩
theorem eF.below {w w':World} {ad:Option Addr} {xs:List Al} (h:eF w ad xs) (hB:Below w.heap.size w w'):eF w' ad xs:=by
 rcases h with h | ⟨b,off,e,hb,hr⟩
 ·exact .inl h
 ·exact .inr ⟨b,off,e,Nat.lt_of_lt_of_le hb hB.size,fun i hi=>(hr i hi).same fun o=>hB.cell (p:=⟨b,o,none⟩) hb⟩
theorem kN.below {w w':World} {ad:Option Addr} {zs:List Int} (h:kN w ad zs) (hB:Below w.heap.size w w'):kN w' ad zs:=by
 rcases h with h | ⟨b,off,e,hb,hr⟩
 ·exact .inl h
 ·exact .inr ⟨b,off,e,Nat.lt_of_lt_of_le hb hB.size,fun i hi=>(hB.cell (p:=⟨b,off + i,none⟩) hb).trans (hr i hi)⟩
structure Ex where
 kind:Int
 allow:List Al
 over:ByteArray
 name:ByteArray
 kids:List Int
structure ER where
 e:Ex
 adA:Option Addr
 capA:Nat
 adK:Option Addr
 capK:Nat
def ER.val (r:ER):Value:=.agg #[.int .i64 r.e.kind,.slice r.adA r.e.allow.length r.capA,.string r.e.over,.string r.e.name,.slice r.adK r.e.kids.length r.capK]
def ER.ok (w:World) (r:ER):Prop:=eF w r.adA r.e.allow∧kN w r.adK r.e.kids
def Ex.fits (e:Ex):Prop:=(∀ a ∈ e.allow,a.fits)∧e.over.size≤maxLen∧e.name.size≤maxLen∧e.allow.length≤maxLen∧e.kids.length≤maxLen
theorem ER.ok.below {w w':World} {r:ER} (h:r.ok w) (hB:Below w.heap.size w w'):r.ok w':=⟨h.1.below hB,h.2.below hB⟩
def qN (w:World) (b off:Nat) (r:ER):Prop :=
 w.cell? ⟨b,off,none⟩=some (.int .i64 r.e.kind)∧w.cell? ⟨b,off + 1,none⟩=some (.slice r.adA r.e.allow.length r.capA)∧w.cell? ⟨b,off + 2,none⟩=some (.string r.e.over) ∧
 w.cell? ⟨b,off + 3,none⟩=some (.string r.e.name)∧w.cell? ⟨b,off + 4,none⟩=some (.slice r.adK r.e.kids.length r.capK)
theorem qN.same {w w':World} {b off:Nat} {r:ER} (h:qN w b off r) (hc:∀ o,w'.cell? ⟨b,o,none⟩=w.cell? ⟨b,o,none⟩):qN w' b off r:=by
 obtain ⟨h0,h1,h2,h3,h4⟩:=h;exact ⟨(hc _).trans h0,(hc _).trans h1,(hc _).trans h2,(hc _).trans h3,(hc _).trans h4⟩
def dU (w:World) (ad:Option Addr) (rs:List ER):Prop:=rs=[] ∨ ∃ b off,ad=some ⟨b,off,none⟩∧b < w.heap.size∧(∀ (i:Nat) (h:i < rs.length),qN w b (off + i * 5) rs[i])∧∀ r ∈ rs,r.ok w
theorem dU.below {w w':World} {ad:Option Addr} {rs:List ER} (h:dU w ad rs) (hB:Below w.heap.size w w'):dU w' ad rs:=by
 rcases h with h | ⟨b,off,e,hb,hr,hk⟩
 ·exact .inl h
 ·exact .inr ⟨b,off,e,Nat.lt_of_lt_of_le hb hB.size,fun i hi=>(hr i hi).same fun o=>hB.cell (p:=⟨b,o,none⟩) hb,fun r hr=>(hk r hr).below hB⟩
def ag (rs:List ER):List Ex:=rs.map ER.e
theorem aO (rs:List ER):(ag rs).length=rs.length:=by simp [ag]
def uK (s:ByteArray):Bool:=s.toList.isEmpty || aL s
theorem uL (s:ByteArray) (w:World) (hs:s.size≤maxLen) :
  Calls Tryz.prog 136 #[.string s] w fun e w'=>e=.returned (.bool (uK s))∧w'=w:=by
 go_enter Tryz.func136,Tryz.ntmps136;go_wp2_with (go_at_call 127; refine (aj _ _ hs).mono ?_; rintro e w' ⟨rfl,rfl⟩)
 all_goals go_ret
 all_goals exact ⟨ae (by simp [uK, *]),rfl⟩
theorem xA (t s:ByteArray) (left:Int) (w:World) (ht:t.size≤maxLen) (hs:s.size≤maxLen) (h0:0≤left) (h1:left≤1048576) :
  Calls Tryz.prog 183 #[.agg #[.string t,.string s],.int .i64 left] w fun e w'=>(∃ n:Int,e=.returned (.int .i64 n)∧(n=-1 ∨ 0≤n∧n≤left))∧Below w.heap.size w w':=by
 unfold maxLen at ht hs;have hB:=(Below.refl w.heap.size w).alloc (Nat.le_refl _) (.cells #[.string t,.string s] 248);by_cases h2:left - t.size < 0
 ·go_enter Tryz.func183,Tryz.ntmps183;go_wp2;go_ret;exact ⟨⟨-1,rfl,.inl rfl⟩,hB⟩
 ·by_cases h3:left - t.size - s.size < 0
  ·go_enter Tryz.func183,Tryz.ntmps183;go_wp2;go_ret;exact ⟨⟨-1,rfl,.inl rfl⟩,hB⟩
  ·go_enter Tryz.func183,Tryz.ntmps183;go_wp2;go_ret;exact ⟨⟨_,rfl,.inr ⟨by omega,by omega⟩⟩,hB⟩
def Ex.light (e:Ex):Prop:=e.allow.length≤1048576∧e.kids.length≤1048576
structure Fil (w wr:World) (g n:Nat) (xs:List Value):Prop where
 below:Below w.heap.size w wr
 ge:w.heap.size≤g
 lt:g < wr.heap.size
 done:∀ (j:Nat) (h:j < xs.length),wr.cell? ⟨g,j,none⟩=some xs[j]
 there:∀ j,j < n→(wr.cell? ⟨g,j,none⟩).isSome=true
 free:∀ j,wr.frozen? ⟨g,j,none⟩=false
theorem bZ {w:World} {g i j:Nat} {v:Value} (h:i ≠ j):(w.setCell ⟨g,i,none⟩ v).cell? ⟨g,j,none⟩=w.cell? ⟨g,j,none⟩:=by
 apply World.cell?_setCell_other;intro e;exact h (congrArg Addr.off e)
theorem iY {w:World} {a:Addr} {v u:Value} (h:w.cell? a=some u):(w.setCell a v).cell? a=some v:=by
 apply World.cell?_setCell_same; exact h
theorem dV {w:World} {g h i j:Nat} {v:Value} (hn:g ≠ h):(w.setCell ⟨g,i,none⟩ v).cell? ⟨h,j,none⟩=w.cell? ⟨h,j,none⟩:=by
 apply World.cell?_setCell_other;intro e;exact hn (congrArg Addr.block e)
theorem Fil.later {w wr w1:World} {g n:Nat} {xs:List Value} (h:Fil w wr g n xs) (hb:Below wr.heap.size wr w1):Fil w w1 g n xs where
 below:=h.below.trans (hb.mono h.below.size)
 ge:=h.ge
 lt:=Nat.lt_of_lt_of_le h.lt hb.size
 done j hj:=by rw [hb.cell (p:=⟨g,j,none⟩) h.lt]; exact h.done j hj
 there j hj:=by rw [hb.cell (p:=⟨g,j,none⟩) h.lt]; exact h.there j hj
 free j:=by rw [hb.frozen (p:=⟨g,j,none⟩) h.lt]; exact h.free j
theorem Fil.put {w wr:World} {g n o:Nat} {xs:List Value} (h:Fil w wr g n xs) (v:Value) (ho:o=xs.length) (hn:o < n):Fil w (wr.setCell ⟨g,o,none⟩ v) g n (xs ++ [v]) where
 below:=h.below.setCell (p:=⟨g,o,none⟩) h.ge v
 ge:=h.ge
 lt:=by simpa using h.lt
 done j hj:=by
  by_cases e:j=o
  ·subst e;obtain ⟨u,hu⟩:=Option.isSome_iff_exists.mp (h.there j hn);rw [iY hu];simp [ho]
  ·have hj':j < xs.length:=by simp at hj; omega
   rw [bZ (Ne.symm e),h.done j hj',List.getElem_append_left hj']
 there j hj:=by
  by_cases e:j=o
  ·subst e;obtain ⟨u,hu⟩:=Option.isSome_iff_exists.mp (h.there j hn);rw [iY hu]; rfl
  ·rw [bZ (Ne.symm e)];exact h.there j hj
 free j:=by simpa using h.free j
theorem l5 {w w0:World} {n k:Nat} {base:Nat} {e:TypeId} {xs:List Value} (h:w0.ownsRow base e k (.slice (some ⟨w.heap.size,0,none⟩) n n) n xs) (hg:w.grownBy w0 none):Fil w w0 w.heap.size (n * k) [] where
 below:=(Below.refl _ _).grown hg (Nat.le_refl _) (fun k hk=>by cases hk)
 ge:=Nat.le_refl _
 lt:=(h.lt w.heap.size rfl).2
 done j hj:=absurd hj (Nat.not_lt_zero _)
 there j hj:=by
  rw [h.cellAt j hj,List.getElem?_eq_getElem (by rw [h.1]; exact hj)]; rfl
 free j:=h.frozenAt j
theorem uM {t:TypeId} {n b:Nat} (h:(Tryz.prog.info? t).map (fun i=>(i.zero.isSome,i.size,i.bytes))=some (true,n,b)):∃ i z,Tryz.prog.info? t=some i∧i.zero=some z∧i.size=n∧i.bytes=b:=by
 cases hi:Tryz.prog.info? t with
 | none=>rw [hi] at h; cases h
 | some i =>
  rw [hi] at h;simp at h;obtain ⟨z,hz⟩:=Option.isSome_iff_exists.mp h.1;exact ⟨i,z,rfl,hz,h.2.1,h.2.2⟩
def ints (zs:List Int):List Value:=zs.map (Value.int .i64)
theorem Gf (zs:List Int) (k:Nat) (h:k < zs.length):ints (zs.take (k + 1))=ints (zs.take k) ++ [.int .i64 zs[k]]:=by
 unfold ints; rw [List.take_succ_eq_append_getElem h,List.map_append]; rfl
theorem Ir (zs:List Int) (k:Nat) (h:k≤zs.length):(ints (zs.take k)).length=k:=by simp [ints]; omega
theorem Fil.ints {w w':World} {g:Nat} {zs:List Int} (h:Fil w w' g zs.length (ints zs)):kN w' (some ⟨g,0,none⟩) zs :=
 .inr ⟨g,0,rfl,h.lt,fun i hi=>by rw [Nat.zero_add,h.done i (by simpa [YtogjfppkbkgaeaaGreat.ints] using hi)]; simp [YtogjfppkbkgaeaaGreat.ints]⟩
theorem xB (t s:ByteArray) (w:World) :
  Calls Tryz.prog 184 #[.agg #[.string t,.string s]] w fun e w'=>e=.returned (.agg #[.string t,.string s])∧Below w.heap.size w w':=by
 have hB:=(((Below.refl w.heap.size w).alloc (Nat.le_refl _) (.cells #[.string t,.string s] 248)).alloc (by simp) (.cells #[.string t,.string s] 146)).alloc (by simp; omega) (.cells #[.string t,.string s] 146);go_enter Tryz.func184,Tryz.ntmps184;go_wp2;exact bodyPost_ret (v:=.agg #[.string t,.string s]) (by simp [results,Tryz.results184,go_sem, *]) rfl ⟨rfl,hB⟩
def pairs (xs:List Al):List Value:=xs.flatMap fun a=>[.string a.t,.string a.s]
theorem Dn (xs:List Al) (k:Nat) (h:k < xs.length):pairs (xs.take (k + 1))=(pairs (xs.take k) ++ [.string xs[k].t]) ++ [.string xs[k].s]:=by
 unfold pairs; rw [List.take_succ_eq_append_getElem h,List.flatMap_append]; simp
theorem mZ:∀ xs:List Al,(pairs xs).length=xs.length * 2
 | []=>rfl
 | a::xs=>by have:=mZ xs; simp only [pairs,List.flatMap_cons,List.length_append,List.length_cons,List.length_nil] at this ⊢; omega
theorem uN:∀ (xs:List Al) (i:Nat) (h:i < xs.length),(pairs xs)[i * 2]?=some (.string xs[i].t)∧(pairs xs)[i * 2 + 1]?=some (.string xs[i].s)
 | [],i,h=>by simp at h
 | a::xs,0,_=>by simp [pairs]
 | a::xs,i + 1,h=>by
  have:=uN xs i (by simpa using h);simp only [pairs,List.flatMap_cons,List.cons_append,List.nil_append,List.getElem_cons_succ] at this ⊢;rw [show (i + 1) * 2=i * 2 + 1 + 1 by omega,show i * 2 + 1 + 1 + 1=(i * 2 + 1) + 1 + 1 by omega];simpa using this
theorem Fil.pairs {w w':World} {g:Nat} {xs:List Al} (h:Fil w w' g (xs.length * 2) (pairs xs)):eF w' (some ⟨g,0,none⟩) xs:=by
 refine .inr ⟨g,0,rfl,h.lt,fun i hi=>?_⟩;obtain ⟨h1,h2⟩:=uN xs i hi;have hl:=mZ xs;refine ⟨?_,?_⟩
 ·rw [Nat.zero_add,h.done (i * 2) (by omega),← h1,List.getElem?_eq_getElem (by omega)]
 ·rw [Nat.zero_add,h.done (i * 2 + 1) (by omega),← h2,List.getElem?_eq_getElem (by omega)]
end Go.Proofs.YtogjfppkbkgaeaaGreat
