/- What the cells of an object and of a tuple hold, when they can be read: strings that fit. -/
import Derived.Test.YtogjfppkbkgaeaaGreatRows
import Derived.OpenShut
import Derived.ShutString
import Derived.ChangeOld
import Derived.Lib.SmallJoins
import Derived.Test.YtogjfppkbkgaeaaGreatJ7
import Derived.Deep.Slices
import Derived.Deep.Strs
import Derived.Test.YtogjfppkbkgaeaaGreatEqTupS
namespace Go.Proofs.YtogjfppkbkgaeaaGreat
open Go.ChangeShapes Go.WideShapes Go.ChangeAt Go.RowKit Go.Joins
theorem list2 {α:Type} {l:List α} (h:l.length=2):∃ a b,l=[a,b]:=by
 match l,h with
 | [a,b],_=>exact ⟨a,b,rfl⟩
theorem list6 {α:Type} {l:List α} (h:l.length=6):∃ a b c d e f,l=[a,b,c,d,e,f]:=by
 match l,h with
 | [a,b,c,d,e,f],_=>exact ⟨a,b,c,d,e,f,rfl⟩
theorem cellsObj:Tryz.prog.cellsOf 40=2:=by kernel_rfl
theorem cellsTup:Tryz.prog.cellsOf 65=6:=by kernel_rfl
theorem cellsStr:Tryz.prog.cellsOf 9=1:=by kernel_rfl
theorem read_obj {H:Type} {enc:TypeId × Value→H} {w:World} {base:Nat} {sp:Nat→Bool} {held:Bool} {fuel:Nat} {cs:List Value} {x:DataW H × List MemPlace}
  (h:DataW.trod enc Tryz.prog w base sp held fuel 40 cs=some x):∃ a b:ByteArray,cs=[.string a,.string b]∧a.size≤maxLen∧b.size≤maxLen:=by
 obtain ⟨y0,y1,n,-,hl,h0,h1⟩:=trod_struct2 Tryz.underlying40 h
 rw [cellsObj] at hl
 obtain ⟨c0,c1,rfl⟩:=list2 hl
 simp only [cellsStr,List.drop_zero,List.drop_succ_cons,List.take_succ_cons,List.take_zero] at h0 h1
 obtain ⟨a,e0,-,wa⟩:=DataW.trod_string Tryz.underlying9 h0
 obtain ⟨b,e1,-,wb⟩:=DataW.trod_string Tryz.underlying9 h1
 simp at e0 e1
 subst e0 e1
 exact ⟨a,b,rfl,wa,wb⟩
theorem read_tup {H:Type} {enc:TypeId × Value→H} {w:World} {base:Nat} {sp:Nat→Bool} {held:Bool} {fuel:Nat} {cs:List Value} {x:DataW H × List MemPlace}
  (h:DataW.trod enc Tryz.prog w base sp held fuel 65 cs=some x):∃ a b r c d s:ByteArray,cs=[.string a,.string b,.string r,.string c,.string d,.string s] ∧
   a.size≤maxLen∧b.size≤maxLen∧r.size≤maxLen∧c.size≤maxLen∧d.size≤maxLen∧s.size≤maxLen:=by
 obtain ⟨y0,y1,y2,y3,n,-,hl,h0,h1,h2,h3⟩:=trod_struct4 Tryz.underlying65 h
 rw [cellsTup] at hl
 obtain ⟨c0,c1,c2,c3,c4,c5,rfl⟩:=list6 hl
 simp only [cellsStr,cellsObj,List.drop_zero,List.drop_succ_cons,List.take_succ_cons,List.take_zero] at h0 h1 h2 h3
 obtain ⟨a,b,e0,wa,wb⟩:=read_obj h0
 obtain ⟨r,e1,-,wr⟩:=DataW.trod_string Tryz.underlying9 h1
 obtain ⟨c,d,e2,wc,wd⟩:=read_obj h2
 obtain ⟨s,e3,-,ws⟩:=DataW.trod_string Tryz.underlying9 h3
 simp at e0 e1 e2 e3
 obtain ⟨rfl,rfl⟩:=e0
 obtain ⟨rfl,rfl⟩:=e2
 subst e1 e3
 exact ⟨a,b,r,c,d,s,rfl,wa,wb,wr,wc,wd,ws⟩
end Go.Proofs.YtogjfppkbkgaeaaGreat
namespace Go.Proofs.YtogjfppkbkgaeaaGreat
open Go.ChangeShapes Go.WideShapes Go.ChangeAt Go.RowKit Go.Joins Go.Deep
theorem add_noneT (b off x:Nat):(⟨b,off,none⟩:Addr).add x=⟨b,off + x,none⟩:=by
 unfold Addr.add
 by_cases h:x=0
 ·subst h; simp
 ·simp [h]
theorem open_tups {H:Type} {enc:TypeId × Value→H} {W:World} {base:Nat} {sp:Nat→Bool} {held:Bool} {fuel:Nat} {ad:Option Addr} {len cap:Nat} {x:DataW H × List MemPlace}
  (h:DataW.trod enc Tryz.prog W base sp held fuel 23 [.slice ad len cap]=some x):∃ ts:List Tp,ts.length=len∧Sl W ad ts∧(∀ t ∈ ts,t.fits)∧len≤maxLen:=by
 rcases open_slice Tryz.underlying23 h with ⟨hcs,-⟩ | ⟨a,l,c,m,n,D,Pl,hcs,-,hlc,hcm,hm,-,hel⟩
 ·simp at hcs
  obtain ⟨rfl,rfl,rfl⟩:=hcs
  exact ⟨[],rfl,.inl rfl,(fun t ht=>by cases ht),by unfold maxLen; omega⟩
 ·simp at hcs
  obtain ⟨rfl,rfl,rfl⟩:=hcs
  have hle:len≤m:=by rw [hm]; split <;> omega
  by_cases h0:len=0
  ·subst h0
   exact ⟨[],rfl,.inl rfl,(fun t ht=>by cases ht),by omega⟩
  have key:∀ i,i < len→∃ t:Tp,(∀ j,j < 6→W.cell? ((a.add (i * 6)).add j)=[Value.string t.a,.string t.b,.string t.r,.string t.c,.string t.d,.string t.s][j]?)∧t.fits:=by
   intro i hi
   obtain ⟨cs',hc,hd⟩:=hel i (by omega)
   rw [cellsTup] at hc
   obtain ⟨ta,tb,tr,tc,td,ts,rfl,hh⟩:=read_tup hd
   exact ⟨⟨ta,tb,tr,tc,td,ts⟩,fun j hj=>(World.cells?_some hc).2.2 j hj,hh⟩
  have hspot:a.spot=none:=by
   obtain ⟨t,ht,-⟩:=key 0 (by omega)
   have:=ht 0 (by omega)
   have e:(a.add (0 * 6)).add 0=a:=by simp [Addr.add]
   rw [e] at this
   exact World.cell?_spot this
  obtain ⟨b,off,spot⟩:=a
  simp only at hspot
  subst hspot
  obtain ⟨f,hf⟩:=@choose_lt Tp ⟨⟨⟨#[]⟩,⟨#[]⟩,⟨#[]⟩,⟨#[]⟩,⟨#[]⟩,⟨#[]⟩⟩⟩ len _ key
  have at6:∀ i,i < len→At6 W b (off + i * 6) (f i):=by
   intro i hi
   obtain ⟨hc,-⟩:=hf i hi
   simp only [add_noneT] at hc
   exact ⟨hc 0 (by omega),hc 1 (by omega),hc 2 (by omega),hc 3 (by omega),hc 4 (by omega),hc 5 (by omega)⟩
  refine ⟨(List.range len).map f,by simp,.inr ⟨b,off,rfl,?_,?_⟩,?_,by omega⟩
  ·exact World.block_lt_of_cell? W ⟨b,off + 0 * 6,none⟩ (at6 0 (by omega)).1
  ·intro i hi
   have hi':i < len:=by simpa using hi
   simpa using at6 i hi'
  ·intro t ht
   simp only [List.mem_map,List.mem_range] at ht
   obtain ⟨i,hi,rfl⟩:=ht
   exact (hf i hi).2
end Go.Proofs.YtogjfppkbkgaeaaGreat
namespace Go.Proofs.YtogjfppkbkgaeaaGreat
open Go.ChangeShapes Go.WideShapes Go.ChangeAt Go.RowKit
open Pl
theorem szObjF_le (t i:ByteArray) (left:Int):szObj t i left≤left ∨ szObj t i left=-1:=by
 unfold szObj; split
 ·exact .inr rfl
 ·split
  ·exact .inr rfl
  ·exact .inl (by omega)
def szFac (a b r c d:ByteArray) (left:Int):Int :=
 if szObj a b left < 0 then -1 else if szObj a b left - r.size < 0 then -1
 else if szObj c d (szObj a b left - r.size) < 0 then -1 else szObj c d (szObj a b left - r.size)
theorem szFac_le (a b r c d:ByteArray) (left:Int):szFac a b r c d left≤left ∨ szFac a b r c d left=-1:=by
 unfold szFac
 split
 ·exact .inr rfl
 split
 ·exact .inr rfl
 split
 ·exact .inr rfl
 ·refine .inl ?_
  have h1:=szObjF_le a b left
  have h2:=szObjF_le c d (szObj a b left - r.size)
  omega
theorem szFact_any (a b r c d:ByteArray) (left:Int) (w:World) (ha:a.size≤maxLen) (hb:b.size≤maxLen) (hr:r.size≤maxLen) (hc:c.size≤maxLen) (hd:d.size≤maxLen) (h0:0≤left) (h1:left≤1048576) :
  Calls Tryz.prog 20 #[.agg #[.string a,.string b,.string r,.string c,.string d],.int .i64 left] w fun e w'=>e=.returned (.int .i64 (szFac a b r c d left))∧Below w.heap.size w w':=by
 have hr':=hr
 unfold maxLen at hr'
 have e1:=szObjF_le a b left
 have e2:=szObjF_le c d (szObj a b left - r.size)
 go_enter Tryz.func20,Tryz.ntmps20
 go_wp2_with fail
 refine (szObject_any _ _ _ _ ha hb h0 h1).mono ?_
 rintro e w1 ⟨rfl,hb1⟩
 obtain ⟨hc1,hf1⟩:=bcell hb1
 have hz1:w.heap.size < w1.heap.size:=by have:=hb1.size; simp at this; omega
 have HB1:Below w.heap.size w w1:=((Below.refl _ _).alloc (Nat.le_refl _) _).trans (hb1.mono (by simp))
 by_cases n1:szObj a b left < 0
 ·go_wp2
  go_ret
  exact ⟨ret_int (by rw [szFac,if_pos (by omega)]),HB1⟩
 by_cases n2:szObj a b left - r.size < 0
 ·go_wp2
  go_ret
  exact ⟨ret_int (by rw [szFac,if_neg (by omega),if_pos (by omega)]),HB1⟩
 go_wp2_with fail
 refine (szObject_any _ _ _ _ hc hd (by omega) (by omega)).mono ?_
 rintro e w2 ⟨rfl,hb2⟩
 obtain ⟨hc2,hf2⟩:=bcell hb2
 have hz2:w.heap.size < w2.heap.size:=by have:=hb2.size; omega
 by_cases n3:szObj c d (szObj a b left - r.size) < 0
 ·go_wp2
  go_ret
  exact ⟨ret_int (by rw [szFac,if_neg (by omega),if_neg (by omega),if_pos (by omega)]),HB1.trans (hb2.mono (by omega))⟩
 go_wp2
 go_ret
 exact ⟨ret_int (by rw [szFac,if_neg (by omega),if_neg (by omega),if_neg (by omega)]),HB1.trans (hb2.mono (by omega))⟩
set_option maxHeartbeats 400000 in
theorem toFact_any (a b r c d:ByteArray) (w:World) :
  Calls Tryz.prog 22 #[.agg #[.string a,.string b,.string r,.string c,.string d]] w fun e w'=>e=.returned (.agg #[.string a,.string b,.string r,.string c,.string d])∧Below w.heap.size w w':=by
 go_enter Tryz.func22,Tryz.ntmps22
 go_wp2_with fail
 refine (toObject_any _ _ _).mono ?_
 rintro e w1 ⟨rfl,hb1⟩
 obtain ⟨hc1,hf1⟩:=bcell hb1
 have hz1:w.heap.size + 1 + 1 < w1.heap.size:=by have:=hb1.size; simp at this; omega
 have hy1:w.heap.size + 1 < w1.heap.size:=by omega
 have hx1:w.heap.size < w1.heap.size:=by omega
 go_wp2_with fail
 refine (toObject_any _ _ _).mono ?_
 rintro e w2 ⟨rfl,hb2⟩
 obtain ⟨hc2,hf2⟩:=bcell hb2
 have hz2:w.heap.size + 1 + 1 < w2.heap.size:=by have:=hb2.size; simp at this; omega
 have hy2:w.heap.size + 1 < w2.heap.size:=by omega
 have hx2:w.heap.size < w2.heap.size:=by omega
 have HB1:Below w.heap.size w w1:=Below.trans (by
  repeat (first | exact Below.refl _ _ | refine Below.setCell ?_ (by first | (simp; done) | (simp; omega)) _ | refine Below.alloc ?_ (by first | (simp; done) | (simp; omega)) _)) (hb1.mono (by simp; omega))
 have HB2:Below w.heap.size w w2:=Below.trans (by
  repeat (first | refine Below.setCell ?_ (by first | (simp; done) | (simp; omega)) _ | with_reducible exact HB1)) (hb2.mono (by simp; omega))
 clear hb1 hb2
 go_wp2
 exact bodyPost_ret (v:=.agg #[.string a,.string b,.string r,.string c,.string d]) (by simp [results,Tryz.results22,go_sem, *]) rfl ⟨rfl,by
  repeat (first | refine Below.setCell ?_ (by first | (simp; done) | (simp; omega)) _ | with_reducible exact HB2)⟩
end Go.Proofs.YtogjfppkbkgaeaaGreat
namespace Go.Proofs.YtogjfppkbkgaeaaGreat
open Go.ChangeShapes Go.WideShapes Go.ChangeAt Go.RowKit Go.Joins
theorem listF2 {α:Type} {l:List α} (h:l.length=2):∃ a b,l=[a,b]:=by
 match l,h with
 | [a,b],_=>exact ⟨a,b,rfl⟩
theorem listF5 {α:Type} {l:List α} (h:l.length=5):∃ a b c d e,l=[a,b,c,d,e]:=by
 match l,h with
 | [a,b,c,d,e],_=>exact ⟨a,b,c,d,e,rfl⟩
theorem cellsObjF:Tryz.prog.cellsOf 40=2:=by kernel_rfl
theorem cellsFac:Tryz.prog.cellsOf 42=5:=by kernel_rfl
theorem cellsStrF:Tryz.prog.cellsOf 9=1:=by kernel_rfl
theorem read_objF {H:Type} {enc:TypeId × Value→H} {w:World} {base:Nat} {sp:Nat→Bool} {held:Bool} {fuel:Nat} {cs:List Value} {x:DataW H × List MemPlace}
  (h:DataW.trod enc Tryz.prog w base sp held fuel 40 cs=some x):∃ a b:ByteArray,cs=[.string a,.string b]∧a.size≤maxLen∧b.size≤maxLen:=by
 obtain ⟨y0,y1,n,-,hl,h0,h1⟩:=trod_struct2 Tryz.underlying40 h
 rw [cellsObjF] at hl
 obtain ⟨c0,c1,rfl⟩:=listF2 hl
 simp only [cellsStrF,List.drop_zero,List.drop_succ_cons,List.take_succ_cons,List.take_zero] at h0 h1
 obtain ⟨a,e0,-,wa⟩:=DataW.trod_string Tryz.underlying9 h0
 obtain ⟨b,e1,-,wb⟩:=DataW.trod_string Tryz.underlying9 h1
 simp at e0 e1
 subst e0 e1
 exact ⟨a,b,rfl,wa,wb⟩
theorem read_fac {H:Type} {enc:TypeId × Value→H} {w:World} {base:Nat} {sp:Nat→Bool} {held:Bool} {fuel:Nat} {cs:List Value} {x:DataW H × List MemPlace}
  (h:DataW.trod enc Tryz.prog w base sp held fuel 42 cs=some x):∃ a b r c d:ByteArray,cs=[.string a,.string b,.string r,.string c,.string d] ∧
   a.size≤maxLen∧b.size≤maxLen∧r.size≤maxLen∧c.size≤maxLen∧d.size≤maxLen:=by
 obtain ⟨y0,y1,y2,n,-,hl,h0,h1,h2⟩:=Go.Deep.trod_struct3 Tryz.underlying42 h
 rw [cellsFac] at hl
 obtain ⟨c0,c1,c2,c3,c4,rfl⟩:=listF5 hl
 simp only [cellsStrF,cellsObjF,List.drop_zero,List.drop_succ_cons,List.take_succ_cons,List.take_zero] at h0 h1 h2
 obtain ⟨a,b,e0,wa,wb⟩:=read_objF h0
 obtain ⟨r,e1,-,wr⟩:=DataW.trod_string Tryz.underlying9 h1
 obtain ⟨c,d,e2,wc,wd⟩:=read_objF h2
 simp at e0 e1 e2
 obtain ⟨rfl,rfl⟩:=e0
 obtain ⟨rfl,rfl⟩:=e2
 subst e1
 exact ⟨a,b,r,c,d,rfl,wa,wb,wr,wc,wd⟩
set_option maxRecDepth 100000 in
theorem open_fac {H:Type} {enc:TypeId × Value→H} {W w:World} {r0:Reach} {b0 base:Nat} {sp:Nat→Bool} {held:Bool} {v:Value} {d0:DataW H} {p:List MemPlace}
  (hv:Value.okWide Tryz.prog W r0 b0 42 v) (h:DataW.Trod enc Tryz.prog w base sp held 42 v d0 p):∃ a b r c d:ByteArray,v=.agg #[.string a,.string b,.string r,.string c,.string d] ∧
   a.size≤maxLen∧b.size≤maxLen∧r.size≤maxLen∧c.size≤maxLen∧d.size≤maxLen:=by
 obtain ⟨cs,rfl,hsz⟩:=okWide_struct Tryz.underlying42 hv
 obtain ⟨fuel,hf⟩:=h
 obtain ⟨a,b,r,c,d,e,hh⟩:=read_fac hf
 refine ⟨a,b,r,c,d,?_,hh⟩
 simp only [Value.cells] at e
 rw [← Array.toArray_toList (xs:=cs),e]
end Go.Proofs.YtogjfppkbkgaeaaGreat
namespace Go.Proofs.YtogjfppkbkgaeaaGreat
set_option maxRecDepth 100000
open Go.ChangeShapes Go.WideShapes Go.ChangeAt Go.RowKit
open Pl
theorem eqTupleS_none (ad ad':Option Addr) (cap cap':Nat) (w:World) :
  Calls Tryz.prog 15 #[.slice ad 0 cap,.slice ad' 0 cap'] w fun e w'=>e=.returned (.bool true)∧Below w.heap.size w w':=by
 go_enter Tryz.func15,Tryz.ntmps15
 go_wp2
 refine wp_loop_rounds 1 ?_
 rw [rounds_succ]
 go_wp2
 go_ret
 exact ⟨rfl,Below.refl _ _⟩
theorem eqTupleS_any (ad ad':Option Addr) (cap cap':Nat) (ts:List Tp) (w:World) (hlen:ts.length≤maxLen) (hs:Sl w ad ts) (hs':Sl w ad' ts) :
  Calls Tryz.prog 15 #[.slice ad ts.length cap,.slice ad' ts.length cap'] w fun e w'=>e=.returned (.bool true)∧Below w.heap.size w w':=by
 by_cases h:ts=[]
 ·subst h; exact eqTupleS_none ad ad' cap cap' w
 ·rcases hs with h1 | ⟨b,off,rfl,hb,hr⟩
  ·exact absurd h1 h
  rcases hs' with h1 | ⟨b',off',rfl,hb',hr'⟩
  ·exact absurd h1 h
  exact eqTupleS_same b b' off off' cap cap' ts w hlen hr hb hr' hb'
end Go.Proofs.YtogjfppkbkgaeaaGreat
