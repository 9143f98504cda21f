/- Contracts of the functions that look at names and ids, the document's model beside the program's: each returns what the plain function says and leaves the world as it was. -/
import Derived.Test.YtogjfppkbkgaeaaGreatRows
import Derived.Test.YtogjfppkbkgaeaaGreatJ1
import Derived.WalkKit
import Derived.WalkLawsBesides
import Derived.ProofKit
namespace Go.Proofs.YtogjfppkbkgaeaaGreat
open Go.ChangeShapes Go.WideShapes Go.ChangeAt Go.RowKit
open Pl
theorem isLetter_any (c:UInt8) (w:World) :
  Calls Tryz.prog 155 #[.int .u8 c.toNat] w fun e w'=>e=.returned (.bool (letB c))∧w'=w:=by
 go_enter Tryz.func155,Tryz.ntmps155
 go_wp2
 all_goals go_ret
 all_goals refine ⟨ret_bool ?_,rfl⟩
 all_goals (rw [Bool.eq_iff_iff]; simp [letB]; omega)
theorem specName_any (s:ByteArray) (w:World) (hs:s.size≤maxLen) :
  Calls Tryz.prog 77 #[.string s] w fun e w'=>e=.returned (.bool (nameB s))∧w'=w:=by
 unfold maxLen at hs
 by_cases h1:1≤s.size∧s.size≤12
 ·obtain ⟨ha,hb⟩:=h1
  go_enter Tryz.func77,Tryz.ntmps77
  go_wp2
  go_loop [3] (fun i=>∃ k:Nat,k≤s.size∧i=.int .i64 k∧Hid (upB letB s k=true)) (fun i=>s.size - (intOf i).toNat)
  case atStart=>exact ⟨0,Nat.zero_le _,rfl,upB_zero _ _⟩
  case round =>
   obtain ⟨k,hk,rfl,hu⟩:=hrel
   by_cases hlt:k < s.size
   ·by_cases hc:letB s[k]=true
    ·have hc1:97≤s[k].toNat:=by simp [letB] at hc; omega
     have hc2:s[k].toNat≤122:=by simp [letB] at hc; omega
     have HU:Hid (upB letB s (k + 1)=true):=by show _=_; rw [upB_succ _ _ _ hlt,hc,hu.out]; rfl
     clear hc
     go_wp2
     go_round
     case rel=>exact ⟨k + 1,by omega,by go_num,HU⟩
     case measure=>simp [intOf]; omega
    ·have hc':letB s[k]=false:=by simpa using hc
     have HB:Hid (allB letB s=false):=upB_bad _ _ _ hlt hc'
     have hd:s[k].toNat < 97 ∨ 122 < s[k].toNat:=by simp [letB] at hc'; omega
     clear hc hc'
     rcases hd with hd | hd
     all_goals
      go_wp2
      go_ret
      exact ⟨ret_bool (by simp [nameB,signsB,HB.out]),rfl⟩
   ·go_wp2
    go_ret
    refine ⟨ret_bool ?_,rfl⟩
    have hall:allB letB s=true:=by rw [← upB_end letB s k (by omega)]; exact hu.out
    have hl:lenB s=true:=by simp [lenB]; omega
    simp [nameB,signsB,notThis,hall,hl]
 ·have hn:lenB s=false:=by simp [lenB]; omega
  have HN:Hid (nameB s=false):=by show _=_; simp [nameB,signsB,hn]
  clear hn
  by_cases ha:1≤s.size
  ·have hb:12 < s.size:=by omega
   clear h1
   go_enter Tryz.func77,Tryz.ntmps77
   go_wp2
   go_ret
   exact ⟨ret_bool HN.out.symm,rfl⟩
  ·have ha':s.size < 1:=by omega
   clear h1
   go_enter Tryz.func77,Tryz.ntmps77
   go_wp2
   go_ret
   exact ⟨ret_bool HN.out.symm,rfl⟩
theorem signs_isLetter (s:ByteArray) (w:World) (hs:s.size≤maxLen) :
  Calls Tryz.prog 154 #[.string s,.func (Fn.func 155) #[] #[]] w fun e w'=>e=.returned (.bool (signsB letB s))∧w'=w:=by
 unfold maxLen at hs
 by_cases h1:1≤s.size∧s.size≤12
 ·obtain ⟨ha,hb⟩:=h1
  go_enter Tryz.func154,Tryz.ntmps154
  go_wp2
  go_loop [16] (fun i=>∃ k:Nat,k≤s.size∧i=.int .i64 k∧Hid (upB letB s k=true)) (fun i=>s.size - (intOf i).toNat)
  case atStart=>exact ⟨0,Nat.zero_le _,rfl,upB_zero _ _⟩
  case round =>
   obtain ⟨k,hk,rfl,hu⟩:=hrel
   by_cases hlt:k < s.size
   ·by_cases hc:letB s[k]=true
    ·have HU:Hid (upB letB s (k + 1)=true):=by show _=_; rw [upB_succ _ _ _ hlt,hc,hu.out]; rfl
     go_wp2_with (go_at_call 155; refine (isLetter_any _ _).mono ?_; rintro e w' ⟨rfl,rfl⟩)
     go_round
     case rel=>exact ⟨k + 1,by omega,by go_num,HU⟩
     case measure=>simp [intOf]; omega
    ·have hc':letB s[k]=false:=by simpa using hc
     have HB:Hid (allB letB s=false):=upB_bad _ _ _ hlt hc'
     clear hc
     go_wp2_with (go_at_call 155; refine (isLetter_any _ _).mono ?_; rintro e w' ⟨rfl,rfl⟩)
     go_ret
     exact ⟨ret_bool (by simp [signsB,HB.out]),rfl⟩
   ·go_wp2
    go_ret
    refine ⟨ret_bool ?_,rfl⟩
    have hall:allB letB s=true:=by rw [← upB_end letB s k (by omega)]; exact hu.out
    have hl:lenB s=true:=by simp [lenB]; omega
    simp [signsB,hall,hl]
 ·have hn:lenB s=false:=by simp [lenB]; omega
  have HN:Hid (signsB letB s=false):=by show _=_; simp [signsB,hn]
  clear hn
  by_cases ha:1≤s.size
  ·have hb:12 < s.size:=by omega
   clear h1
   go_enter Tryz.func154,Tryz.ntmps154
   go_wp2
   go_ret
   exact ⟨ret_bool HN.out.symm,rfl⟩
  ·have ha':s.size < 1:=by omega
   clear h1
   go_enter Tryz.func154,Tryz.ntmps154
   go_wp2
   go_ret
   exact ⟨ret_bool HN.out.symm,rfl⟩
theorem implName_any (s:ByteArray) (w:World) (hs:s.size≤maxLen) :
  Calls Tryz.prog 127 #[.string s] w fun e w'=>e=.returned (.bool (nameB s))∧w'=w:=by
 by_cases h:s.toList=[116,104,105,115]
 ·have hb:(s.toList == [116,104,105,115])=true:=by simp [h]
  have HN:Hid (nameB s=false):=by show _=_; simp [nameB,notThis,h]
  clear h
  go_enter Tryz.func127,Tryz.ntmps127
  go_wp2
  go_ret
  exact ⟨ret_bool HN.out.symm,rfl⟩
 ·have hb:(s.toList == [116,104,105,115])=false:=by simp [h]
  have HN:Hid (nameB s=signsB letB s):=by show _=_; simp [nameB,notThis,h]
  clear h
  go_enter Tryz.func127,Tryz.ntmps127
  go_wp2_with (go_at_call 154; refine (signs_isLetter _ _ hs).mono ?_; rintro e w' ⟨rfl,rfl⟩)
  go_ret
  exact ⟨ret_bool HN.out.symm,rfl⟩
end Go.Proofs.YtogjfppkbkgaeaaGreat
namespace Go.Proofs.YtogjfppkbkgaeaaGreat
open Go.ChangeShapes Go.WideShapes Go.ChangeAt Go.RowKit
open Pl
structure Al where
 t:ByteArray
 s:ByteArray
def Al.fits (a:Al):Prop:=a.t.size≤maxLen∧a.s.size≤maxLen
def At2 (w:World) (b off:Nat) (a:Al):Prop:=w.cell? ⟨b,off,none⟩=some (.string a.t)∧w.cell? ⟨b,off + 1,none⟩=some (.string a.s)
def SlA (w:World) (ad:Option Addr) (xs:List Al):Prop:=xs=[] ∨ ∃ b off,ad=some ⟨b,off,none⟩∧b < w.heap.size∧∀ (i:Nat) (h:i < xs.length),At2 w b (off + i * 2) xs[i]
def SlI (w:World) (ad:Option Addr) (zs:List Int):Prop:=zs=[] ∨ ∃ b off,ad=some ⟨b,off,none⟩∧b < w.heap.size∧∀ (i:Nat) (h:i < zs.length),w.cell? ⟨b,off + i,none⟩=some (.int .i64 zs[i])
theorem At2.same {w w':World} {b off:Nat} {a:Al} (h:At2 w b off a) (hc:∀ o,w'.cell? ⟨b,o,none⟩=w.cell? ⟨b,o,none⟩):At2 w' b off a:=⟨(hc _).trans h.1,(hc _).trans h.2⟩
theorem SlA.below {w w':World} {ad:Option Addr} {xs:List Al} (h:SlA w ad xs) (hB:Below w.heap.size w w'):SlA w' ad xs:=by
 rcases h with h | ⟨b,off,e,hb,hr⟩
 ·exact .inl h
 ·exact .inr ⟨b,off,e,Nat.lt_of_lt_of_le hb hB.size,fun i hi=>(hr i hi).same fun o=>hB.cell (p:=⟨b,o,none⟩) hb⟩
theorem SlI.below {w w':World} {ad:Option Addr} {zs:List Int} (h:SlI w ad zs) (hB:Below w.heap.size w w'):SlI w' ad zs:=by
 rcases h with h | ⟨b,off,e,hb,hr⟩
 ·exact .inl h
 ·exact .inr ⟨b,off,e,Nat.lt_of_lt_of_le hb hB.size,fun i hi=>(hB.cell (p:=⟨b,off + i,none⟩) hb).trans (hr i hi)⟩
structure Ex where
 kind:Int
 allow:List Al
 over:ByteArray
 name:ByteArray
 kids:List Int
structure ER where
 e:Ex
 adA:Option Addr
 capA:Nat
 adK:Option Addr
 capK:Nat
def ER.val (r:ER):Value:=.agg #[.int .i64 r.e.kind,.slice r.adA r.e.allow.length r.capA,.string r.e.over,.string r.e.name,.slice r.adK r.e.kids.length r.capK]
def ER.ok (w:World) (r:ER):Prop:=SlA w r.adA r.e.allow∧SlI w r.adK r.e.kids
def Ex.fits (e:Ex):Prop:=(∀ a ∈ e.allow,a.fits)∧e.over.size≤maxLen∧e.name.size≤maxLen∧e.allow.length≤maxLen∧e.kids.length≤maxLen
theorem ER.ok.below {w w':World} {r:ER} (h:r.ok w) (hB:Below w.heap.size w w'):r.ok w':=⟨h.1.below hB,h.2.below hB⟩
def At5 (w:World) (b off:Nat) (r:ER):Prop :=
 w.cell? ⟨b,off,none⟩=some (.int .i64 r.e.kind)∧w.cell? ⟨b,off + 1,none⟩=some (.slice r.adA r.e.allow.length r.capA)∧w.cell? ⟨b,off + 2,none⟩=some (.string r.e.over) ∧
 w.cell? ⟨b,off + 3,none⟩=some (.string r.e.name)∧w.cell? ⟨b,off + 4,none⟩=some (.slice r.adK r.e.kids.length r.capK)
theorem At5.same {w w':World} {b off:Nat} {r:ER} (h:At5 w b off r) (hc:∀ o,w'.cell? ⟨b,o,none⟩=w.cell? ⟨b,o,none⟩):At5 w' b off r:=by
 obtain ⟨h0,h1,h2,h3,h4⟩:=h
 exact ⟨(hc _).trans h0,(hc _).trans h1,(hc _).trans h2,(hc _).trans h3,(hc _).trans h4⟩
def SlE (w:World) (ad:Option Addr) (rs:List ER):Prop:=rs=[] ∨ ∃ b off,ad=some ⟨b,off,none⟩∧b < w.heap.size∧(∀ (i:Nat) (h:i < rs.length),At5 w b (off + i * 5) rs[i])∧∀ r ∈ rs,r.ok w
theorem SlE.below {w w':World} {ad:Option Addr} {rs:List ER} (h:SlE w ad rs) (hB:Below w.heap.size w w'):SlE w' ad rs:=by
 rcases h with h | ⟨b,off,e,hb,hr,hk⟩
 ·exact .inl h
 ·exact .inr ⟨b,off,e,Nat.lt_of_lt_of_le hb hB.size,fun i hi=>(hr i hi).same fun o=>hB.cell (p:=⟨b,o,none⟩) hb,fun r hr=>(hk r hr).below hB⟩
def exs (rs:List ER):List Ex:=rs.map ER.e
theorem exs_len (rs:List ER):(exs rs).length=rs.length:=by simp [exs]
def setB' (s:ByteArray):Bool:=s.toList.isEmpty || nameB s
theorem setOk_any' (s:ByteArray) (w:World) (hs:s.size≤maxLen) :
  Calls Tryz.prog 136 #[.string s] w fun e w'=>e=.returned (.bool (setB' s))∧w'=w:=by
 go_enter Tryz.func136,Tryz.ntmps136
 go_wp2_with (go_at_call 127; refine (implName_any _ _ hs).mono ?_; rintro e w' ⟨rfl,rfl⟩)
 all_goals go_ret
 all_goals exact ⟨ret_bool (by simp [setB', *]),rfl⟩
end Go.Proofs.YtogjfppkbkgaeaaGreat
namespace Go.Proofs.YtogjfppkbkgaeaaGreat
open Go.ChangeShapes Go.WideShapes Go.ChangeAt Go.RowKit
open Pl
theorem szAllowed_any (t s:ByteArray) (left:Int) (w:World) (ht:t.size≤maxLen) (hs:s.size≤maxLen) (h0:0≤left) (h1:left≤1048576) :
  Calls Tryz.prog 183 #[.agg #[.string t,.string s],.int .i64 left] w fun e w'=>(∃ n:Int,e=.returned (.int .i64 n)∧(n=-1 ∨ 0≤n∧n≤left))∧Below w.heap.size w w':=by
 unfold maxLen at ht hs
 have hB:=(Below.refl w.heap.size w).alloc (Nat.le_refl _) (.cells #[.string t,.string s] 248)
 by_cases h2:left - t.size < 0
 ·go_enter Tryz.func183,Tryz.ntmps183
  go_wp2
  go_ret
  exact ⟨⟨-1,rfl,.inl rfl⟩,hB⟩
 ·by_cases h3:left - t.size - s.size < 0
  ·go_enter Tryz.func183,Tryz.ntmps183
   go_wp2
   go_ret
   exact ⟨⟨-1,rfl,.inl rfl⟩,hB⟩
  ·go_enter Tryz.func183,Tryz.ntmps183
   go_wp2
   go_ret
   exact ⟨⟨_,rfl,.inr ⟨by omega,by omega⟩⟩,hB⟩
def Ex.light (e:Ex):Prop:=e.allow.length≤1048576∧e.kids.length≤1048576
end Go.Proofs.YtogjfppkbkgaeaaGreat
namespace Go.Proofs.YtogjfppkbkgaeaaGreat
open Go.ChangeShapes Go.WideShapes Go.ChangeAt Go.RowKit
open Pl
structure Fil (w wr:World) (g n:Nat) (xs:List Value):Prop where
 below:Below w.heap.size w wr
 ge:w.heap.size≤g
 lt:g < wr.heap.size
 done:∀ (j:Nat) (h:j < xs.length),wr.cell? ⟨g,j,none⟩=some xs[j]
 there:∀ j,j < n→(wr.cell? ⟨g,j,none⟩).isSome=true
 free:∀ j,wr.frozen? ⟨g,j,none⟩=false
theorem setO' {w:World} {g i j:Nat} {v:Value} (h:i ≠ j):(w.setCell ⟨g,i,none⟩ v).cell? ⟨g,j,none⟩=w.cell? ⟨g,j,none⟩:=by
 apply World.cell?_setCell_other
 intro e
 exact h (congrArg Addr.off e)
theorem setS' {w:World} {a:Addr} {v u:Value} (h:w.cell? a=some u):(w.setCell a v).cell? a=some v:=by
 apply World.cell?_setCell_same; exact h
theorem setB2 {w:World} {g h i j:Nat} {v:Value} (hn:g ≠ h):(w.setCell ⟨g,i,none⟩ v).cell? ⟨h,j,none⟩=w.cell? ⟨h,j,none⟩:=by
 apply World.cell?_setCell_other
 intro e
 exact hn (congrArg Addr.block e)
theorem Fil.later {w wr w1:World} {g n:Nat} {xs:List Value} (h:Fil w wr g n xs) (hb:Below wr.heap.size wr w1):Fil w w1 g n xs where
 below:=h.below.trans (hb.mono h.below.size)
 ge:=h.ge
 lt:=Nat.lt_of_lt_of_le h.lt hb.size
 done j hj:=by rw [hb.cell (p:=⟨g,j,none⟩) h.lt]; exact h.done j hj
 there j hj:=by rw [hb.cell (p:=⟨g,j,none⟩) h.lt]; exact h.there j hj
 free j:=by rw [hb.frozen (p:=⟨g,j,none⟩) h.lt]; exact h.free j
theorem Fil.put {w wr:World} {g n o:Nat} {xs:List Value} (h:Fil w wr g n xs) (v:Value) (ho:o=xs.length) (hn:o < n):Fil w (wr.setCell ⟨g,o,none⟩ v) g n (xs ++ [v]) where
 below:=h.below.setCell (p:=⟨g,o,none⟩) h.ge v
 ge:=h.ge
 lt:=by simpa using h.lt
 done j hj:=by
  by_cases e:j=o
  ·subst e
   obtain ⟨u,hu⟩:=Option.isSome_iff_exists.mp (h.there j hn)
   rw [setS' hu]
   simp [ho]
  ·have hj':j < xs.length:=by simp at hj; omega
   rw [setO' (Ne.symm e),h.done j hj',List.getElem_append_left hj']
 there j hj:=by
  by_cases e:j=o
  ·subst e
   obtain ⟨u,hu⟩:=Option.isSome_iff_exists.mp (h.there j hn)
   rw [setS' hu]; rfl
  ·rw [setO' (Ne.symm e)]
   exact h.there j hj
 free j:=by simpa using h.free j
theorem fil_made {w w0:World} {n k:Nat} {base:Nat} {e:TypeId} {xs:List Value} (h:w0.ownsRow base e k (.slice (some ⟨w.heap.size,0,none⟩) n n) n xs) (hg:w.grownBy w0 none):Fil w w0 w.heap.size (n * k) [] where
 below:=(Below.refl _ _).grown hg (Nat.le_refl _) (fun k hk=>by cases hk)
 ge:=Nat.le_refl _
 lt:=(h.lt w.heap.size rfl).2
 done j hj:=absurd hj (Nat.not_lt_zero _)
 there j hj:=by
  rw [h.cellAt j hj,List.getElem?_eq_getElem (by rw [h.1]; exact hj)]; rfl
 free j:=h.frozenAt j
theorem infoOf {t:TypeId} {n b:Nat} (h:(Tryz.prog.info? t).map (fun i=>(i.zero.isSome,i.size,i.bytes))=some (true,n,b)):∃ i z,Tryz.prog.info? t=some i∧i.zero=some z∧i.size=n∧i.bytes=b:=by
 cases hi:Tryz.prog.info? t with
 | none=>rw [hi] at h; cases h
 | some i =>
  rw [hi] at h
  simp at h
  obtain ⟨z,hz⟩:=Option.isSome_iff_exists.mp h.1
  exact ⟨i,z,rfl,hz,h.2.1,h.2.2⟩
def ints (zs:List Int):List Value:=zs.map (Value.int .i64)
theorem ints_snoc (zs:List Int) (k:Nat) (h:k < zs.length):ints (zs.take (k + 1))=ints (zs.take k) ++ [.int .i64 zs[k]]:=by
 unfold ints; rw [List.take_succ_eq_append_getElem h,List.map_append]; rfl
theorem ints_len (zs:List Int) (k:Nat) (h:k≤zs.length):(ints (zs.take k)).length=k:=by simp [ints]; omega
theorem Fil.ints {w w':World} {g:Nat} {zs:List Int} (h:Fil w w' g zs.length (ints zs)):SlI w' (some ⟨g,0,none⟩) zs :=
 .inr ⟨g,0,rfl,h.lt,fun i hi=>by rw [Nat.zero_add,h.done i (by simpa [YtogjfppkbkgaeaaGreat.ints] using hi)]; simp [YtogjfppkbkgaeaaGreat.ints]⟩
set_option maxHeartbeats 800000 in
theorem toInt64S_any (ad:Option Addr) (cap:Nat) (zs:List Int) (w:World) (hlen:zs.length≤1048576) (hs:SlI w ad zs) :
  Calls Tryz.prog 173 #[.slice ad zs.length cap] w fun e w'=>e=.returned (.slice (some ⟨w.heap.size,0,none⟩) zs.length zs.length)∧SlI w' (some ⟨w.heap.size,0,none⟩) zs∧Below w.heap.size w w':=by
 obtain ⟨inf,z,hi,hz0,hz1,hz2⟩:=infoOf (t:=2) (n:=1) (b:=8) (by kernel_rfl)
 go_enter Tryz.func173,Tryz.ntmps173
 go_wp2_with (at_make; refine wpList_make_full _ rfl _ _ 152 rfl w.heap.size 2 inf z 1 Tryz.underlying152 hi hz0 hz1 .i64 .i64 _ _ zs.length rfl rfl rfl rfl (by rw [hz2]; omega) (by unfold maxLen; omega) (Nat.le_refl _) ?_; intro w0 hown0 hgrow0)
 have F0:Fil w w0 w.heap.size (zs.length * 1) []:=fil_made hown0 hgrow0
 clear hown0 hgrow0 hi hz0 hz1 hz2
 go_loopw [4] (fun i wr=>∃ k:Nat,k≤zs.length∧i=.int .i64 k∧Fil w wr w.heap.size (zs.length * 1) (ints (zs.take k))) (fun i _=>zs.length - (intOf i).toNat)
 case atStart=>exact ⟨0,Nat.zero_le _,rfl,F0⟩
 case round =>
  obtain ⟨k,hk,rfl,F⟩:=hrel
  by_cases hlt:k < zs.length
  ·rcases hs.below F.below with rfl | ⟨b,off,rfl,hb,hr⟩
   ·simp at hlt
   have t0:=hr k hlt
   have fz:=F.free
   obtain ⟨v0,u0⟩:=Option.isSome_iff_exists.mp (F.there k (by omega))
   have F2:=F.put (.int .i64 zs[k]) (o:=k) (by rw [ints_len _ _ hk]) (by omega)
   rw [← ints_snoc _ _ hlt] at F2
   have HF:Hid (Fil w (wr.setCell ⟨w.heap.size,k,none⟩ (.int .i64 zs[k])) w.heap.size (zs.length * 1) (ints (zs.take (k + 1)))):=F2
   clear F F0 hr F2 hs
   go_wp2
   go_roundw
   case rel=>exact ⟨k + 1,by omega,by go_num,HF.out⟩
   case measure=>simp [intOf]; omega
  ·obtain rfl:k=zs.length:=by omega
   rw [List.take_length,Nat.mul_one] at F
   go_wp2
   go_ret
   exact ⟨rfl,F.ints,F.below⟩
theorem toAllowed_any (t s:ByteArray) (w:World) :
  Calls Tryz.prog 184 #[.agg #[.string t,.string s]] w fun e w'=>e=.returned (.agg #[.string t,.string s])∧Below w.heap.size w w':=by
 have hB:=(((Below.refl w.heap.size w).alloc (Nat.le_refl _) (.cells #[.string t,.string s] 248)).alloc (by simp) (.cells #[.string t,.string s] 146)).alloc (by simp; omega) (.cells #[.string t,.string s] 146)
 go_enter Tryz.func184,Tryz.ntmps184
 go_wp2
 exact bodyPost_ret (v:=.agg #[.string t,.string s]) (by simp [results,Tryz.results184,go_sem, *]) rfl ⟨rfl,hB⟩
def pairs (xs:List Al):List Value:=xs.flatMap fun a=>[.string a.t,.string a.s]
theorem pairs_snoc (xs:List Al) (k:Nat) (h:k < xs.length):pairs (xs.take (k + 1))=(pairs (xs.take k) ++ [.string xs[k].t]) ++ [.string xs[k].s]:=by
 unfold pairs; rw [List.take_succ_eq_append_getElem h,List.flatMap_append]; simp
theorem pairs_len:∀ xs:List Al,(pairs xs).length=xs.length * 2
 | []=>rfl
 | a::xs=>by have:=pairs_len xs; simp only [pairs,List.flatMap_cons,List.length_append,List.length_cons,List.length_nil] at this ⊢; omega
theorem pairs_at:∀ (xs:List Al) (i:Nat) (h:i < xs.length),(pairs xs)[i * 2]?=some (.string xs[i].t)∧(pairs xs)[i * 2 + 1]?=some (.string xs[i].s)
 | [],i,h=>by simp at h
 | a::xs,0,_=>by simp [pairs]
 | a::xs,i + 1,h=>by
  have:=pairs_at xs i (by simpa using h)
  simp only [pairs,List.flatMap_cons,List.cons_append,List.nil_append,List.getElem_cons_succ] at this ⊢
  rw [show (i + 1) * 2=i * 2 + 1 + 1 by omega,show i * 2 + 1 + 1 + 1=(i * 2 + 1) + 1 + 1 by omega]
  simpa using this
theorem Fil.pairs {w w':World} {g:Nat} {xs:List Al} (h:Fil w w' g (xs.length * 2) (pairs xs)):SlA w' (some ⟨g,0,none⟩) xs:=by
 refine .inr ⟨g,0,rfl,h.lt,fun i hi=>?_⟩
 obtain ⟨h1,h2⟩:=pairs_at xs i hi
 have hl:=pairs_len xs
 refine ⟨?_,?_⟩
 ·rw [Nat.zero_add,h.done (i * 2) (by omega),← h1,List.getElem?_eq_getElem (by omega)]
 ·rw [Nat.zero_add,h.done (i * 2 + 1) (by omega),← h2,List.getElem?_eq_getElem (by omega)]
set_option maxHeartbeats 800000 in
theorem toAllowedS_any (ad:Option Addr) (cap:Nat) (xs:List Al) (w:World) (hlen:xs.length≤1048576) (hs:SlA w ad xs) :
  Calls Tryz.prog 172 #[.slice ad xs.length cap] w fun e w'=>e=.returned (.slice (some ⟨w.heap.size,0,none⟩) xs.length xs.length)∧SlA w' (some ⟨w.heap.size,0,none⟩) xs∧Below w.heap.size w w':=by
 obtain ⟨inf,z,hi,hz0,hz1,hz2⟩:=infoOf (t:=146) (n:=2) (b:=32) (by kernel_rfl)
 go_enter Tryz.func172,Tryz.ntmps172
 go_wp2_with (at_make; refine wpList_make_full _ rfl _ _ 143 rfl w.heap.size 146 inf z 2 Tryz.underlying143 hi hz0 hz1 .i64 .i64 _ _ xs.length rfl rfl rfl rfl (by rw [hz2]; omega) (by unfold maxLen; omega) (Nat.le_refl _) ?_; intro w0 hown0 hgrow0)
 have F0:Fil w w0 w.heap.size (xs.length * 2) []:=fil_made hown0 hgrow0
 clear hown0 hgrow0 hi hz0 hz1 hz2
 go_loopw [4] (fun i wr=>∃ k:Nat,k≤xs.length∧i=.int .i64 k∧Fil w wr w.heap.size (xs.length * 2) (pairs (xs.take k))) (fun i _=>xs.length - (intOf i).toNat)
 case atStart=>exact ⟨0,Nat.zero_le _,rfl,F0⟩
 case round =>
  obtain ⟨k,hk,rfl,F⟩:=hrel
  by_cases hlt:k < xs.length
  ·rcases hs.below F.below with rfl | ⟨b,off,rfl,hb,hr⟩
   ·simp at hlt
   obtain ⟨t0,t1⟩:=hr k hlt
   go_wp2_with fail
   refine (toAllowed_any _ _ _).mono ?_
   rintro e w1 ⟨rfl,hb1⟩
   have F1:=F.later hb1
   have fz:=F1.free
   obtain ⟨v0,u0⟩:=Option.isSome_iff_exists.mp (F1.there (k * 2) (by omega))
   obtain ⟨v1,u1⟩:=Option.isSome_iff_exists.mp (F1.there (k * 2 + 1) (by omega))
   have hpl:(pairs (xs.take k)).length=k * 2:=by rw [pairs_len,List.length_take,Nat.min_eq_left hk]
   have F2:=(F1.put (.string xs[k].t) (o:=k * 2) hpl.symm (by omega)).put (.string xs[k].s) (o:=k * 2 + 1) (by simp [hpl]) (by omega)
   rw [← pairs_snoc _ _ hlt] at F2
   have HF:Hid (Fil w ((w1.setCell ⟨w.heap.size,k * 2,none⟩ (.string xs[k].t)).setCell ⟨w.heap.size,k * 2 + 1,none⟩ (.string xs[k].s)) w.heap.size (xs.length * 2) (pairs (xs.take (k + 1)))):=F2
   clear F F0 hr F1 F2 hs t0 t1 hb1 hpl
   go_wp2
   go_roundw
   case rel=>exact ⟨k + 1,by omega,by go_num,HF.out⟩
   case measure=>simp [intOf]; omega
  ·obtain rfl:k=xs.length:=by omega
   rw [List.take_length] at F
   go_wp2
   go_ret
   exact ⟨rfl,F.pairs,F.below⟩
end Go.Proofs.YtogjfppkbkgaeaaGreat
