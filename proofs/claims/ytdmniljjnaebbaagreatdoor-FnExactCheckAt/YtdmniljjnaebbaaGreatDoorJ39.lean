/- What the cells of an object and of a tuple hold, when they can be read: strings that fit. -/
import Derived.OpenShut
import Derived.ShutString
import Derived.ChangeOld
import Derived.Lib.SmallJoins
import Derived.Deep.Slices
import Derived.Test.YtdmniljjnaebbaaGreatDoorJ11
import Derived.Deep.Strs
open Go.Proofs.Tryz
set_option maxHeartbeats 80000000
namespace Go.Proofs.YtdmniljjnaebbaaGreatDoor
open Go.ChangeShapes Go.WideShapes Go.ChangeAt Go.RowKit Go.Joins
theorem N7 {α:Type} {l:List α} (h:l.length=2):∃ a b,l=[a,b]:=by
 match l,h with
 | [a,b],_=>exact ⟨a,b,rfl⟩
theorem N8 {α:Type} {l:List α} (h:l.length=6):∃ a b c d e f,l=[a,b,c,d,e,f]:=by
 match l,h with
 | [a,b,c,d,e,f],_=>exact ⟨a,b,c,d,e,f,rfl⟩
theorem DY:prog.cellsOf 25=2:=by kernel_rfl
theorem DZ:prog.cellsOf 27=6:=by kernel_rfl
theorem D5:prog.cellsOf 9=1:=by kernel_rfl
theorem D6 {H:Type} {enc:TypeId × Value→H} {w:World} {base:Nat} {sp:Nat→Bool} {held:Bool} {fuel:Nat} {cs:List Value} {x:DataW H × List MemPlace}
  (h:DataW.trod enc prog w base sp held fuel 25 cs=some x):∃ a b:ByteArray,cs=[.string a,.string b]∧a.size≤maxLen∧b.size≤maxLen:=by
 obtain ⟨y0,y1,n,-,hl,h0,h1⟩:=trod_struct2 underlying25 h;rw [DY] at hl;obtain ⟨c0,c1,rfl⟩:=N7 hl;simp only [D5,List.drop_zero,List.drop_succ_cons,List.take_succ_cons,List.take_zero] at h0 h1;obtain ⟨a,e0,-,wa⟩:=DataW.trod_string underlying9 h0;obtain ⟨b,e1,-,wb⟩:=DataW.trod_string underlying9 h1;simp at e0 e1;subst e0 e1;exact ⟨a,b,rfl,wa,wb⟩
theorem K7 {H:Type} {enc:TypeId × Value→H} {w:World} {base:Nat} {sp:Nat→Bool} {held:Bool} {fuel:Nat} {cs:List Value} {x:DataW H × List MemPlace}
  (h:DataW.trod enc prog w base sp held fuel 27 cs=some x):∃ a b r c d s:ByteArray,cs=[.string a,.string b,.string r,.string c,.string d,.string s] ∧
   a.size≤maxLen∧b.size≤maxLen∧r.size≤maxLen∧c.size≤maxLen∧d.size≤maxLen∧s.size≤maxLen:=by
 obtain ⟨y0,y1,y2,y3,n,-,hl,h0,h1,h2,h3⟩:=trod_struct4 underlying27 h;rw [DZ] at hl;obtain ⟨c0,c1,c2,c3,c4,c5,rfl⟩:=N8 hl;simp only [D5,DY,List.drop_zero,List.drop_succ_cons,List.take_succ_cons,List.take_zero] at h0 h1 h2 h3;obtain ⟨a,b,e0,wa,wb⟩:=D6 h0;obtain ⟨r,e1,-,wr⟩:=DataW.trod_string underlying9 h1;obtain ⟨c,d,e2,wc,wd⟩:=D6 h2;obtain ⟨s,e3,-,ws⟩:=DataW.trod_string underlying9 h3;simp at e0 e1 e2 e3;obtain ⟨rfl,rfl⟩:=e0;obtain ⟨rfl,rfl⟩:=e2;subst e1 e3;exact ⟨a,b,r,c,d,s,rfl,wa,wb,wr,wc,wd,ws⟩
theorem N9 {α:Type} {l:List α} (h:l.length=7):∃ x a b c d e f,l=[x,a,b,c,d,e,f]:=by
 match l,h with
 | [x,a,b,c,d,e,f],_=>exact ⟨x,a,b,c,d,e,f,rfl⟩
theorem D7:prog.cellsOf 29=7:=by kernel_rfl
theorem I6:prog.cellsOf 2=1:=by kernel_rfl
theorem K8 {H:Type} {enc:TypeId × Value→H} {w:World} {base:Nat} {sp:Nat→Bool} {held:Bool} {fuel:Nat} {cs:List Value} {x:DataW H × List MemPlace}
  (h:DataW.trod enc prog w base sp held fuel 29 cs=some x):∃ (k:Int) (a b r c d s:ByteArray),cs=[.int .i64 k,.string a,.string b,.string r,.string c,.string d,.string s] ∧
   a.size≤maxLen∧b.size≤maxLen∧r.size≤maxLen∧c.size≤maxLen∧d.size≤maxLen∧s.size≤maxLen:=by
 obtain ⟨y0,y1,n,-,hl,h0,h1⟩:=trod_struct2 underlying29 h;rw [D7] at hl;obtain ⟨c0,c1,c2,c3,c4,c5,c6,rfl⟩:=N9 hl;simp only [I6,DZ,List.drop_zero,List.drop_succ_cons,List.take_succ_cons,List.take_zero] at h0 h1;obtain ⟨k,e0,-,-⟩:=DataW.trod_int underlying2 h0;obtain ⟨a,b,r,c,d,s,e1,hh⟩:=K7 h1;simp at e0 e1;subst e0;obtain ⟨rfl,rfl,rfl,rfl,rfl,rfl⟩:=e1;exact ⟨k,a,b,r,c,d,s,rfl,hh⟩
open Go.Deep
theorem I7 (b off x:Nat):(⟨b,off,none⟩:Addr).add x=⟨b,off + x,none⟩:=by
 unfold Addr.add;by_cases h:x=0
 ·subst h; simp
 ·simp [h]
theorem I8 {H:Type} {enc:TypeId × Value→H} {W:World} {base:Nat} {sp:Nat→Bool} {held:Bool} {fuel:Nat} {ad:Option Addr} {len cap:Nat} {x:DataW H × List MemPlace}
  (h:DataW.trod enc prog W base sp held fuel 53 [.slice ad len cap]=some x):∃ cs:List (Int × Tp),cs.length=len∧JC W ad cs∧(∀ c ∈ cs,c.2.fits)∧len≤maxLen:=by
 rcases open_slice underlying53 h with ⟨hcs,-⟩ | ⟨a,l,c,m,n,D,Pl,hcs,-,hlc,hcm,hm,-,hel⟩
 ·simp at hcs;obtain ⟨rfl,rfl,rfl⟩:=hcs;exact ⟨[],rfl,.inl rfl,(fun t ht=>by cases ht),by unfold maxLen; omega⟩
 ·simp at hcs;obtain ⟨rfl,rfl,rfl⟩:=hcs;have hle:len≤m:=by rw [hm]; split <;> omega
  by_cases h0:len=0
  ·subst h0;exact ⟨[],rfl,.inl rfl,(fun t ht=>by cases ht),by omega⟩
  have key:∀ i,i < len→∃ t:Int × Tp,(∀ j,j < 7→W.cell? ((a.add (i * 7)).add j)=[Value.int .i64 t.1,.string t.2.a,.string t.2.b,.string t.2.r,.string t.2.c,.string t.2.d,.string t.2.s][j]?)∧t.2.fits:=by
   intro i hi;obtain ⟨cs',hc,hd⟩:=hel i (by omega);rw [D7] at hc;obtain ⟨k,ta,tb,tr,tc,td,ts,rfl,hh⟩:=K8 hd;exact ⟨⟨k,⟨ta,tb,tr,tc,td,ts⟩⟩,fun j hj=>(World.cells?_some hc).2.2 j hj,hh⟩
  have hspot:a.spot=none:=by
   obtain ⟨t,ht,-⟩:=key 0 (by omega);have:=ht 0 (by omega);have e:(a.add (0 * 7)).add 0=a:=by simp [Addr.add]
   rw [e] at this;exact World.cell?_spot this
  obtain ⟨b,off,spot⟩:=a;simp only at hspot;subst hspot;obtain ⟨f,hf⟩:=@choose_lt (Int × Tp) ⟨⟨0,⟨⟨#[]⟩,⟨#[]⟩,⟨#[]⟩,⟨#[]⟩,⟨#[]⟩,⟨#[]⟩⟩⟩⟩ len _ key;have at7:∀ i,i < len→MF W b (off + i * 7) (f i):=by
   intro i hi;obtain ⟨hc,-⟩:=hf i hi;simp only [I7] at hc;exact ⟨hc 0 (by omega),hc 1 (by omega),hc 2 (by omega),hc 3 (by omega),hc 4 (by omega),hc 5 (by omega),hc 6 (by omega)⟩
  refine ⟨(List.range len).map f,by simp,.inr ⟨b,off,rfl,?_,?_⟩,?_,by omega⟩
  ·exact World.block_lt_of_cell? W ⟨b,off + 0 * 7,none⟩ (at7 0 (by omega)).1
  ·intro i hi;have hi':i < len:=by simpa using hi
   simpa using at7 i hi'
  ·intro t ht;simp only [List.mem_map,List.mem_range] at ht;obtain ⟨i,hi,rfl⟩:=ht;exact (hf i hi).2
open Pl
theorem oC (t i:ByteArray) (left:Int):bR t i left≤left ∨ bR t i left=-1:=by
 unfold bR; split
 ·exact .inr rfl
 ·split
  ·exact .inr rfl
  ·exact .inl (by omega)
def nN (a b r c d:ByteArray) (left:Int):Int :=
 if bR a b left < 0 then -1 else if bR a b left - r.size < 0 then -1
 else if bR c d (bR a b left - r.size) < 0 then -1 else bR c d (bR a b left - r.size)
theorem K9 (a b r c d:ByteArray) (left:Int):nN a b r c d left≤left ∨ nN a b r c d left=-1:=by
 unfold nN;split
 ·exact .inr rfl
 split
 ·exact .inr rfl
 split
 ·exact .inr rfl
 ·refine .inl ?_;have h1:=oC a b left;have h2:=oC c d (bR a b left - r.size);omega
theorem FT (a b r c d:ByteArray) (left:Int) (w:World) (ha:a.size≤maxLen) (hb:b.size≤maxLen) (hr:r.size≤maxLen) (hc:c.size≤maxLen) (hd:d.size≤maxLen) (h0:0≤left) (h1:left≤1048576) :
  Calls prog 21 #[.agg #[.string a,.string b,.string r,.string c,.string d],.int .i64 left] w fun e w'=>e=.returned (.int .i64 (nN a b r c d left))∧Below w.heap.size w w':=by
 have hr':=hr;unfold maxLen at hr';have e1:=oC a b left;have e2:=oC c d (bR a b left - r.size);go_enter func21,ntmps21;go_wp2_with fail;refine (jw _ _ _ _ ha hb h0 h1).mono ?_;rintro e w1 ⟨rfl,hb1⟩;obtain ⟨hc1,hf1⟩:=dM hb1;have hz1:w.heap.size < w1.heap.size:=by have:=hb1.size; simp at this; omega
 have HB1:Below w.heap.size w w1:=((Below.refl _ _).alloc (Nat.le_refl _) _).trans (hb1.mono (by simp));by_cases n1:bR a b left < 0
 ·go_wp2;go_ret;exact ⟨ib (by rw [nN,if_pos (by omega)]),HB1⟩
 by_cases n2:bR a b left - r.size < 0
 ·go_wp2;go_ret;exact ⟨ib (by rw [nN,if_neg (by omega),if_pos (by omega)]),HB1⟩
 go_wp2_with fail;refine (jw _ _ _ _ hc hd (by omega) (by omega)).mono ?_;rintro e w2 ⟨rfl,hb2⟩;obtain ⟨hc2,hf2⟩:=dM hb2;have hz2:w.heap.size < w2.heap.size:=by have:=hb2.size; omega
 by_cases n3:bR c d (bR a b left - r.size) < 0
 ·go_wp2;go_ret;exact ⟨ib (by rw [nN,if_neg (by omega),if_neg (by omega),if_pos (by omega)]),HB1.trans (hb2.mono (by omega))⟩
 go_wp2;go_ret;exact ⟨ib (by rw [nN,if_neg (by omega),if_neg (by omega),if_neg (by omega)]),HB1.trans (hb2.mono (by omega))⟩
theorem xZ (a b r c d:ByteArray) (w:World) :
  Calls prog 24 #[.agg #[.string a,.string b,.string r,.string c,.string d]] w fun e w'=>e=.returned (.agg #[.string a,.string b,.string r,.string c,.string d])∧Below w.heap.size w w':=by
 go_enter func24,ntmps24;go_wp2_with fail;refine (jy _ _ _).mono ?_;rintro e w1 ⟨rfl,hb1⟩;obtain ⟨hc1,hf1⟩:=dM hb1;have hz1:w.heap.size + 1 + 1 < w1.heap.size:=by have:=hb1.size; simp at this; omega
 have hy1:w.heap.size + 1 < w1.heap.size:=by omega
 have hx1:w.heap.size < w1.heap.size:=by omega
 go_wp2_with fail;refine (jy _ _ _).mono ?_;rintro e w2 ⟨rfl,hb2⟩;obtain ⟨hc2,hf2⟩:=dM hb2;have hz2:w.heap.size + 1 + 1 < w2.heap.size:=by have:=hb2.size; simp at this; omega
 have hy2:w.heap.size + 1 < w2.heap.size:=by omega
 have hx2:w.heap.size < w2.heap.size:=by omega
 have HB1:Below w.heap.size w w1:=Below.trans (by
  repeat (first | exact Below.refl _ _ | refine Below.setCell ?_ (by first | (simp; done) | (simp; omega)) _ | refine Below.alloc ?_ (by first | (simp; done) | (simp; omega)) _)) (hb1.mono (by simp; omega))
 have HB2:Below w.heap.size w w2:=Below.trans (by
  repeat (first | refine Below.setCell ?_ (by first | (simp; done) | (simp; omega)) _ | with_reducible exact HB1)) (hb2.mono (by simp; omega))
 clear hb1 hb2;go_wp2;exact bodyPost_ret (v:=.agg #[.string a,.string b,.string r,.string c,.string d]) (by simp [results,Tryz.results24,go_sem, *]) rfl ⟨rfl,by
  repeat (first | refine Below.setCell ?_ (by first | (simp; done) | (simp; omega)) _ | with_reducible exact HB2)⟩
theorem Nt {α:Type} {l:List α} (h:l.length=2):∃ a b,l=[a,b]:=by
 match l,h with
 | [a,b],_=>exact ⟨a,b,rfl⟩
theorem Nu {α:Type} {l:List α} (h:l.length=5):∃ a b c d e,l=[a,b,c,d,e]:=by
 match l,h with
 | [a,b,c,d,e],_=>exact ⟨a,b,c,d,e,rfl⟩
theorem Ag:prog.cellsOf 25=2:=by kernel_rfl
theorem La:prog.cellsOf 55=5:=by kernel_rfl
theorem Ah:prog.cellsOf 9=1:=by kernel_rfl
theorem Ai {H:Type} {enc:TypeId × Value→H} {w:World} {base:Nat} {sp:Nat→Bool} {held:Bool} {fuel:Nat} {cs:List Value} {x:DataW H × List MemPlace}
  (h:DataW.trod enc prog w base sp held fuel 25 cs=some x):∃ a b:ByteArray,cs=[.string a,.string b]∧a.size≤maxLen∧b.size≤maxLen:=by
 obtain ⟨y0,y1,n,-,hl,h0,h1⟩:=trod_struct2 underlying25 h;rw [Ag] at hl;obtain ⟨c0,c1,rfl⟩:=Nt hl;simp only [Ah,List.drop_zero,List.drop_succ_cons,List.take_succ_cons,List.take_zero] at h0 h1;obtain ⟨a,e0,-,wa⟩:=DataW.trod_string underlying9 h0;obtain ⟨b,e1,-,wb⟩:=DataW.trod_string underlying9 h1;simp at e0 e1;subst e0 e1;exact ⟨a,b,rfl,wa,wb⟩
theorem Lb {H:Type} {enc:TypeId × Value→H} {w:World} {base:Nat} {sp:Nat→Bool} {held:Bool} {fuel:Nat} {cs:List Value} {x:DataW H × List MemPlace}
  (h:DataW.trod enc prog w base sp held fuel 55 cs=some x):∃ a b r c d:ByteArray,cs=[.string a,.string b,.string r,.string c,.string d] ∧
   a.size≤maxLen∧b.size≤maxLen∧r.size≤maxLen∧c.size≤maxLen∧d.size≤maxLen:=by
 obtain ⟨y0,y1,y2,n,-,hl,h0,h1,h2⟩:=Go.Deep.trod_struct3 underlying55 h;rw [La] at hl;obtain ⟨c0,c1,c2,c3,c4,rfl⟩:=Nu hl;simp only [Ah,Ag,List.drop_zero,List.drop_succ_cons,List.take_succ_cons,List.take_zero] at h0 h1 h2;obtain ⟨a,b,e0,wa,wb⟩:=Ai h0;obtain ⟨r,e1,-,wr⟩:=DataW.trod_string underlying9 h1;obtain ⟨c,d,e2,wc,wd⟩:=Ai h2;simp at e0 e1 e2;obtain ⟨rfl,rfl⟩:=e0;obtain ⟨rfl,rfl⟩:=e2;subst e1;exact ⟨a,b,r,c,d,rfl,wa,wb,wr,wc,wd⟩
set_option maxRecDepth 100000 in
theorem Lc {H:Type} {enc:TypeId × Value→H} {W w:World} {r0:Reach} {b0 base:Nat} {sp:Nat→Bool} {held:Bool} {v:Value} {d0:DataW H} {p:List MemPlace}
  (hv:Value.okWide prog W r0 b0 55 v) (h:DataW.Trod enc prog w base sp held 55 v d0 p):∃ a b r c d:ByteArray,v=.agg #[.string a,.string b,.string r,.string c,.string d] ∧
   a.size≤maxLen∧b.size≤maxLen∧r.size≤maxLen∧c.size≤maxLen∧d.size≤maxLen:=by
 obtain ⟨cs,rfl,hsz⟩:=okWide_struct underlying55 hv;obtain ⟨fuel,hf⟩:=h;obtain ⟨a,b,r,c,d,e,hh⟩:=Lb hf;refine ⟨a,b,r,c,d,?_,hh⟩;simp only [Value.cells] at e;rw [← Array.toArray_toList (xs:=cs),e]
end Go.Proofs.YtdmniljjnaebbaaGreatDoor
