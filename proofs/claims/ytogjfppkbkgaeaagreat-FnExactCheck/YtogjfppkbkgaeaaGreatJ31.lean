/- An expression that was answered: it may be marked, and its marks are held; it is not touched by what is done to older blocks. -/
import Derived.Test.YtogjfppkbkgaeaaGreatToOwn
import Derived.Test.YtogjfppkbkgaeaaGreatSzW
import Derived.Test.YtogjfppkbkgaeaaGreatJ2
import Derived.OpenShut
import Derived.ShutString
import Derived.ChangeOld
import Derived.Lib.SmallJoins
import Derived.ChangeSlices
import Derived.Deep.Slices
import Derived.Test.YtogjfppkbkgaeaaGreatJ3
import Derived.Test.YtogjfppkbkgaeaaGreatToSchema
namespace Go.Proofs.YtogjfppkbkgaeaaGreat
open Go.ChangeShapes Go.WideShapes Go.ChangeAt Go.RowKit
open Pl
end Go.Proofs.YtogjfppkbkgaeaaGreat
namespace Go.Proofs.YtogjfppkbkgaeaaGreat
open Go.ChangeShapes Go.WideShapes Go.ChangeAt Go.RowKit Go.Joins Go.Deep
theorem add_none' (b off x:Nat):(⟨b,off,none⟩:Addr).add x=⟨b,off + x,none⟩:=by
 unfold Addr.add
 by_cases h:x=0
 ·subst h; simp
 ·simp [h]
theorem cellsStr':Tryz.prog.cellsOf 9=1:=by kernel_rfl
theorem cellsI64:Tryz.prog.cellsOf 2=1:=by kernel_rfl
theorem cellsAl:Tryz.prog.cellsOf 248=2:=by kernel_rfl
theorem cellsSlA:Tryz.prog.cellsOf 221=1:=by kernel_rfl
theorem cellsSlI:Tryz.prog.cellsOf 152=1:=by kernel_rfl
theorem cellsEx:Tryz.prog.cellsOf 223=5:=by kernel_rfl
section
variable {H:Type} {enc:TypeId × Value→H} {W:World} {base:Nat} {sp:Nat→Bool} {held:Bool}
theorem trod_struct5 {P:Program} {w:World} {t:TypeId} {f0 f1 f2 f3 f4:Field} {fuel:Nat} {cs:List Value} {x:DataW H × List MemPlace} (ht:P.underlying t=some (.struct #[f0,f1,f2,f3,f4])) (h:DataW.trod enc P w base sp held fuel t cs=some x) :
  ∃ (y0 y1 y2 y3 y4:DataW H × List MemPlace) (n:Nat),cs.length=P.cellsOf t ∧
   DataW.trod enc P w base sp held n f0.type ((cs.drop f0.offset).take (P.cellsOf f0.type))=some y0 ∧
   DataW.trod enc P w base sp held n f1.type ((cs.drop f1.offset).take (P.cellsOf f1.type))=some y1 ∧
   DataW.trod enc P w base sp held n f2.type ((cs.drop f2.offset).take (P.cellsOf f2.type))=some y2 ∧
   DataW.trod enc P w base sp held n f3.type ((cs.drop f3.offset).take (P.cellsOf f3.type))=some y3 ∧
   DataW.trod enc P w base sp held n f4.type ((cs.drop f4.offset).take (P.cellsOf f4.type))=some y4:=by
 obtain ⟨xs,n,_,rfl,hl,hlen,hf⟩:=DataW.trod_struct ht h
 match xs,hlen with
 | [y0,y1,y2,y3,y4],_=>exact ⟨y0,y1,y2,y3,y4,n,hl,by simpa using hf 0 f0 rfl,by simpa using hf 1 f1 rfl,by simpa using hf 2 f2 rfl,by simpa using hf 3 f3 rfl,by simpa using hf 4 f4 rfl⟩
set_option maxRecDepth 100000 in
theorem read_al {fuel:Nat} {cs:List Value} {x:DataW H × List MemPlace} (h:DataW.trod enc Tryz.prog W base sp held fuel 248 cs=some x):∃ a:Al,cs=[.string a.t,.string a.s]∧a.fits:=by
 obtain ⟨y0,y1,n,-,hl,h0,h1⟩:=trod_struct2 Tryz.underlying248 h
 rw [cellsAl] at hl
 match cs,hl with
 | [c0,c1],_ =>
  simp only [cellsStr',List.drop_zero,List.drop_succ_cons,List.take_succ_cons,List.take_zero] at h0 h1
  obtain ⟨a,e0,-,wa⟩:=DataW.trod_string Tryz.underlying9 h0
  obtain ⟨b,e1,-,wb⟩:=DataW.trod_string Tryz.underlying9 h1
  simp at e0 e1
  subst e0 e1
  exact ⟨⟨a,b⟩,rfl,wa,wb⟩
theorem read_als {fuel:Nat} {cs:List Value} {x:DataW H × List MemPlace} (h:DataW.trod enc Tryz.prog W base sp held fuel 221 cs=some x) :
  ∃ (ad:Option Addr) (cap:Nat) (xs:List Al),cs=[.slice ad xs.length cap]∧SlA W ad xs∧(∀ a ∈ xs,a.fits)∧xs.length≤maxLen:=by
 rcases open_slice Tryz.underlying221 h with ⟨hcs,-⟩ | ⟨a,len,cap,m,n,D,Pl,hcs,-,hlc,hcm,hm,-,hel⟩
 ·exact ⟨none,0,[],hcs,.inl rfl,(fun a ha=>by cases ha),by unfold maxLen; simp⟩
 ·have hle:len≤m:=by rw [hm]; split <;> omega
  by_cases h0:len=0
  ·subst h0
   exact ⟨some a,cap,[],hcs,.inl rfl,(fun a ha=>by cases ha),by unfold maxLen; simp⟩
  have key:∀ i,i < len→∃ t:Al,(∀ j,j < 2→W.cell? ((a.add (i * 2)).add j)=[Value.string t.t,.string t.s][j]?)∧t.fits:=by
   intro i hi
   obtain ⟨cs',hc,hd⟩:=hel i (by omega)
   rw [cellsAl] at hc
   obtain ⟨t,rfl,hh⟩:=read_al hd
   exact ⟨t,fun j hj=>(World.cells?_some hc).2.2 j hj,hh⟩
  have hspot:a.spot=none:=by
   obtain ⟨t,ht,-⟩:=key 0 (by omega)
   have:=ht 0 (by omega)
   have e:(a.add (0 * 2)).add 0=a:=by simp [Addr.add]
   rw [e] at this
   exact World.cell?_spot this
  obtain ⟨b,off,spot⟩:=a
  simp only at hspot
  subst hspot
  obtain ⟨f,hf⟩:=@choose_lt Al ⟨⟨⟨#[]⟩,⟨#[]⟩⟩⟩ len _ key
  have at2:∀ i,i < len→At2 W b (off + i * 2) (f i):=by
   intro i hi
   obtain ⟨hc,-⟩:=hf i hi
   simp only [add_none'] at hc
   exact ⟨hc 0 (by omega),hc 1 (by omega)⟩
  refine ⟨some ⟨b,off,none⟩,cap,(List.range len).map f,by simpa using hcs,.inr ⟨b,off,rfl,?_,?_⟩,?_,by simp; omega⟩
  ·exact World.block_lt_of_cell? W ⟨b,off + 0 * 2,none⟩ (at2 0 (by omega)).1
  ·intro i hi
   have hi':i < len:=by simpa using hi
   simpa using at2 i hi'
  ·intro t ht
   simp only [List.mem_map,List.mem_range] at ht
   obtain ⟨i,hi,rfl⟩:=ht
   exact (hf i hi).2
theorem read_ints {fuel:Nat} {cs:List Value} {x:DataW H × List MemPlace} (h:DataW.trod enc Tryz.prog W base sp held fuel 152 cs=some x) :
  ∃ (ad:Option Addr) (cap:Nat) (zs:List Int),cs=[.slice ad zs.length cap]∧SlI W ad zs∧zs.length≤maxLen:=by
 rcases open_ints Tryz.underlying152 Tryz.underlying2 cellsI64 h with ⟨hcs,-⟩ | ⟨a,len,cap,zs,hcs,-,hlc,hcm,hm,-,hel,-⟩
 ·exact ⟨none,0,[],hcs,.inl rfl,by unfold maxLen; simp⟩
 ·have hle:len≤zs.length:=by rw [hm]; split <;> omega
  by_cases h0:len=0
  ·subst h0
   exact ⟨some a,cap,[],hcs,.inl rfl,by unfold maxLen; simp⟩
  have hspot:a.spot=none:=by
   have:=hel 0 (by omega)
   have e:a.add 0=a:=by simp [Addr.add]
   rw [e] at this
   exact World.cell?_spot this
  obtain ⟨b,off,spot⟩:=a
  simp only at hspot
  subst hspot
  simp only [add_none'] at hel
  have hl:(zs.take len).length=len:=by simp; omega
  refine ⟨some ⟨b,off,none⟩,cap,zs.take len,by rw [hl]; exact hcs,.inr ⟨b,off,rfl,?_,?_⟩,by omega⟩
  ·exact World.block_lt_of_cell? W ⟨b,off + 0,none⟩ (hel 0 (by omega))
  ·intro i hi
   have hi':i < zs.length:=by omega
   rw [hel i hi',List.getElem_take]
   simp [hi']
set_option maxRecDepth 100000 in
theorem read_ex {fuel:Nat} {cs:List Value} {x:DataW H × List MemPlace} (h:DataW.trod enc Tryz.prog W base sp held fuel 223 cs=some x) :
  ∃ r:ER,cs=[.int .i64 r.e.kind,.slice r.adA r.e.allow.length r.capA,.string r.e.over,.string r.e.name,.slice r.adK r.e.kids.length r.capK]∧r.ok W∧r.e.fits:=by
 obtain ⟨y0,y1,y2,y3,y4,n,hl,h0,h1,h2,h3,h4⟩:=trod_struct5 Tryz.underlying223 h
 rw [cellsEx] at hl
 match cs,hl with
 | [c0,c1,c2,c3,c4],_ =>
  simp only [cellsStr',cellsI64,cellsSlA,cellsSlI,List.drop_zero,List.drop_succ_cons,List.take_succ_cons,List.take_zero] at h0 h1 h2 h3 h4
  obtain ⟨k,e0,-,-⟩:=DataW.trod_int Tryz.underlying2 h0
  obtain ⟨adA,capA,xs,e1,hA,fA,lA⟩:=read_als h1
  obtain ⟨o,e2,-,wo⟩:=DataW.trod_string Tryz.underlying9 h2
  obtain ⟨nm,e3,-,wn⟩:=DataW.trod_string Tryz.underlying9 h3
  obtain ⟨adK,capK,zs,e4,hK,lK⟩:=read_ints h4
  simp at e0 e1 e2 e3 e4
  subst e0 e1 e2 e3 e4
  exact ⟨⟨⟨k,xs,o,nm,zs⟩,adA,capA,adK,capK⟩,rfl,⟨hA,hK⟩,fA,wo,wn,lA,lK⟩
theorem open_exprs {fuel:Nat} {ad:Option Addr} {len cap:Nat} {x:DataW H × List MemPlace} (h:DataW.trod enc Tryz.prog W base sp held fuel 137 [.slice ad len cap]=some x) :
  ∃ rs:List ER,rs.length=len∧SlE W ad rs∧(∀ r ∈ rs,r.e.fits)∧len≤maxLen:=by
 rcases open_slice Tryz.underlying137 h with ⟨hcs,-⟩ | ⟨a,l,c,m,n,D,Pl,hcs,-,hlc,hcm,hm,-,hel⟩
 ·simp at hcs
  obtain ⟨rfl,rfl,rfl⟩:=hcs
  exact ⟨[],rfl,.inl rfl,(fun t ht=>by cases ht),by unfold maxLen; omega⟩
 ·simp at hcs
  obtain ⟨rfl,rfl,rfl⟩:=hcs
  have hle:len≤m:=by rw [hm]; split <;> omega
  by_cases h0:len=0
  ·subst h0
   exact ⟨[],rfl,.inl rfl,(fun t ht=>by cases ht),by omega⟩
  have key:∀ i,i < len→∃ r:ER,(∀ j,j < 5→W.cell? ((a.add (i * 5)).add j)=[Value.int .i64 r.e.kind,.slice r.adA r.e.allow.length r.capA,.string r.e.over,.string r.e.name,.slice r.adK r.e.kids.length r.capK][j]?)∧r.ok W∧r.e.fits:=by
   intro i hi
   obtain ⟨cs',hc,hd⟩:=hel i (by omega)
   rw [cellsEx] at hc
   obtain ⟨r,rfl,hh⟩:=read_ex hd
   exact ⟨r,fun j hj=>(World.cells?_some hc).2.2 j hj,hh⟩
  have hspot:a.spot=none:=by
   obtain ⟨t,ht,-⟩:=key 0 (by omega)
   have:=ht 0 (by omega)
   have e:(a.add (0 * 5)).add 0=a:=by simp [Addr.add]
   rw [e] at this
   exact World.cell?_spot this
  obtain ⟨b,off,spot⟩:=a
  simp only at hspot
  subst hspot
  obtain ⟨f,hf⟩:=@choose_lt ER ⟨⟨⟨0,[],⟨#[]⟩,⟨#[]⟩,[]⟩,none,0,none,0⟩⟩ len _ key
  have at5:∀ i,i < len→At5 W b (off + i * 5) (f i):=by
   intro i hi
   obtain ⟨hc,-⟩:=hf i hi
   simp only [add_none'] at hc
   exact ⟨hc 0 (by omega),hc 1 (by omega),hc 2 (by omega),hc 3 (by omega),hc 4 (by omega)⟩
  refine ⟨(List.range len).map f,by simp,.inr ⟨b,off,rfl,?_,?_,?_⟩,?_,by omega⟩
  ·exact World.block_lt_of_cell? W ⟨b,off + 0 * 5,none⟩ (at5 0 (by omega)).1
  ·intro i hi
   have hi':i < len:=by simpa using hi
   simpa using at5 i hi'
  ·intro t ht
   simp only [List.mem_map,List.mem_range] at ht
   obtain ⟨i,hi,rfl⟩:=ht
   exact (hf i hi).2.1
  ·intro t ht
   simp only [List.mem_map,List.mem_range] at ht
   obtain ⟨i,hi,rfl⟩:=ht
   exact (hf i hi).2.2
end
end Go.Proofs.YtogjfppkbkgaeaaGreat
namespace Go.Proofs.YtogjfppkbkgaeaaGreat
open Go.ChangeShapes Go.WideShapes Go.ChangeAt Go.RowKit Go.Joins Go.Deep
section
variable {H:Type} {enc:TypeId × Value→H} {W:World} {base:Nat} {sp:Nat→Bool} {held:Bool}
theorem cellsRR:Tryz.prog.cellsOf 139=2:=by kernel_rfl
theorem cellsInRR:Tryz.prog.cellsOf 137=1:=by kernel_rfl
set_option maxRecDepth 100000 in
theorem readRR {fuel:Nat} {cs:List Value} {x:DataW H × List MemPlace} (h:DataW.trod enc Tryz.prog W base sp held fuel 139 cs=some x) :
  ∃ r:RR,cs=[.string r.name,.slice r.ad r.rows.length r.cap]∧r.ok W∧r.fits:=by
 obtain ⟨y0,y1,n,-,hl,h0,h1⟩:=trod_struct2 Tryz.underlying139 h
 rw [cellsRR] at hl
 match cs,hl with
 | [c0,c1],_ =>
  simp only [cellsStr',cellsInRR,List.drop_zero,List.drop_succ_cons,List.take_succ_cons,List.take_zero] at h0 h1
  obtain ⟨a,e0,-,wa⟩:=DataW.trod_string Tryz.underlying9 h0
  obtain ⟨ad,len,cap,e1⟩:∃ ad len cap,c1=.slice ad len cap:=by
   rcases open_slice Tryz.underlying137 h1 with ⟨hcs,-⟩ | ⟨a,l,c,m,n,D,Pl,hcs,-⟩
   ·simp at hcs; exact ⟨_,_,_,hcs⟩
   ·simp at hcs; exact ⟨_,_,_,hcs⟩
  simp at e0
  subst e0 e1
  obtain ⟨rs,rfl,hs,hf,hm⟩:=open_exprs h1
  exact ⟨⟨a,rs,ad,cap⟩,rfl,hs,wa,hm,hf⟩
theorem open_rels {fuel:Nat} {ad:Option Addr} {len cap:Nat} {x:DataW H × List MemPlace} (h:DataW.trod enc Tryz.prog W base sp held fuel 60 [.slice ad len cap]=some x) :
  ∃ rs:List RR,rs.length=len∧SlR W ad rs∧(∀ r ∈ rs,r.fits)∧len≤maxLen:=by
 rcases open_slice Tryz.underlying60 h with ⟨hcs,-⟩ | ⟨a,l,c,m,n,D,Pl,hcs,-,hlc,hcm,hm,-,hel⟩
 ·simp at hcs
  obtain ⟨rfl,rfl,rfl⟩:=hcs
  exact ⟨[],rfl,.inl rfl,(fun t ht=>by cases ht),by unfold maxLen; omega⟩
 ·simp at hcs
  obtain ⟨rfl,rfl,rfl⟩:=hcs
  have hle:len≤m:=by rw [hm]; split <;> omega
  by_cases h0:len=0
  ·subst h0
   exact ⟨[],rfl,.inl rfl,(fun t ht=>by cases ht),by omega⟩
  have key:∀ i,i < len→∃ r:RR,(∀ j,j < 2→W.cell? ((a.add (i * 2)).add j)=[Value.string r.name,.slice r.ad r.rows.length r.cap][j]?)∧r.ok W∧r.fits:=by
   intro i hi
   obtain ⟨cs',hc,hd⟩:=hel i (by omega)
   rw [cellsRR] at hc
   obtain ⟨r,rfl,hh⟩:=readRR hd
   exact ⟨r,fun j hj=>(World.cells?_some hc).2.2 j hj,hh⟩
  have hspot:a.spot=none:=by
   obtain ⟨t,ht,-⟩:=key 0 (by omega)
   have:=ht 0 (by omega)
   have e:(a.add (0 * 2)).add 0=a:=by simp [Addr.add]
   rw [e] at this
   exact World.cell?_spot this
  obtain ⟨b,off,spot⟩:=a
  simp only at hspot
  subst hspot
  obtain ⟨f,hf⟩:=@choose_lt RR ⟨⟨⟨#[]⟩,[],none,0⟩⟩ len _ key
  have at2:∀ i,i < len→AtR W b (off + i * 2) (f i):=by
   intro i hi
   obtain ⟨hc,-⟩:=hf i hi
   simp only [add_none'] at hc
   exact ⟨hc 0 (by omega),hc 1 (by omega)⟩
  refine ⟨(List.range len).map f,by simp,.inr ⟨b,off,rfl,?_,?_,?_⟩,?_,by omega⟩
  ·exact World.block_lt_of_cell? W ⟨b,off + 0 * 2,none⟩ (at2 0 (by omega)).1
  ·intro i hi
   have hi':i < len:=by simpa using hi
   simpa using at2 i hi'
  ·intro t ht
   simp only [List.mem_map,List.mem_range] at ht
   obtain ⟨i,hi,rfl⟩:=ht
   exact (hf i hi).2.1
  ·intro t ht
   simp only [List.mem_map,List.mem_range] at ht
   obtain ⟨i,hi,rfl⟩:=ht
   exact (hf i hi).2.2
theorem cellsTR:Tryz.prog.cellsOf 62=2:=by kernel_rfl
theorem cellsInTR:Tryz.prog.cellsOf 60=1:=by kernel_rfl
set_option maxRecDepth 100000 in
theorem readTR {fuel:Nat} {cs:List Value} {x:DataW H × List MemPlace} (h:DataW.trod enc Tryz.prog W base sp held fuel 62 cs=some x) :
  ∃ r:TR,cs=[.string r.name,.slice r.ad r.rows.length r.cap]∧r.ok W∧r.fits:=by
 obtain ⟨y0,y1,n,-,hl,h0,h1⟩:=trod_struct2 Tryz.underlying62 h
 rw [cellsTR] at hl
 match cs,hl with
 | [c0,c1],_ =>
  simp only [cellsStr',cellsInTR,List.drop_zero,List.drop_succ_cons,List.take_succ_cons,List.take_zero] at h0 h1
  obtain ⟨a,e0,-,wa⟩:=DataW.trod_string Tryz.underlying9 h0
  obtain ⟨ad,len,cap,e1⟩:∃ ad len cap,c1=.slice ad len cap:=by
   rcases open_slice Tryz.underlying60 h1 with ⟨hcs,-⟩ | ⟨a,l,c,m,n,D,Pl,hcs,-⟩
   ·simp at hcs; exact ⟨_,_,_,hcs⟩
   ·simp at hcs; exact ⟨_,_,_,hcs⟩
  simp at e0
  subst e0 e1
  obtain ⟨rs,rfl,hs,hf,hm⟩:=open_rels h1
  exact ⟨⟨a,rs,ad,cap⟩,rfl,hs,wa,hm,hf⟩
theorem open_types {fuel:Nat} {ad:Option Addr} {len cap:Nat} {x:DataW H × List MemPlace} (h:DataW.trod enc Tryz.prog W base sp held fuel 22 [.slice ad len cap]=some x) :
  ∃ rs:List TR,rs.length=len∧SlT W ad rs∧(∀ r ∈ rs,r.fits)∧len≤maxLen:=by
 rcases open_slice Tryz.underlying22 h with ⟨hcs,-⟩ | ⟨a,l,c,m,n,D,Pl,hcs,-,hlc,hcm,hm,-,hel⟩
 ·simp at hcs
  obtain ⟨rfl,rfl,rfl⟩:=hcs
  exact ⟨[],rfl,.inl rfl,(fun t ht=>by cases ht),by unfold maxLen; omega⟩
 ·simp at hcs
  obtain ⟨rfl,rfl,rfl⟩:=hcs
  have hle:len≤m:=by rw [hm]; split <;> omega
  by_cases h0:len=0
  ·subst h0
   exact ⟨[],rfl,.inl rfl,(fun t ht=>by cases ht),by omega⟩
  have key:∀ i,i < len→∃ r:TR,(∀ j,j < 2→W.cell? ((a.add (i * 2)).add j)=[Value.string r.name,.slice r.ad r.rows.length r.cap][j]?)∧r.ok W∧r.fits:=by
   intro i hi
   obtain ⟨cs',hc,hd⟩:=hel i (by omega)
   rw [cellsTR] at hc
   obtain ⟨r,rfl,hh⟩:=readTR hd
   exact ⟨r,fun j hj=>(World.cells?_some hc).2.2 j hj,hh⟩
  have hspot:a.spot=none:=by
   obtain ⟨t,ht,-⟩:=key 0 (by omega)
   have:=ht 0 (by omega)
   have e:(a.add (0 * 2)).add 0=a:=by simp [Addr.add]
   rw [e] at this
   exact World.cell?_spot this
  obtain ⟨b,off,spot⟩:=a
  simp only at hspot
  subst hspot
  obtain ⟨f,hf⟩:=@choose_lt TR ⟨⟨⟨#[]⟩,[],none,0⟩⟩ len _ key
  have at2:∀ i,i < len→AtT W b (off + i * 2) (f i):=by
   intro i hi
   obtain ⟨hc,-⟩:=hf i hi
   simp only [add_none'] at hc
   exact ⟨hc 0 (by omega),hc 1 (by omega)⟩
  refine ⟨(List.range len).map f,by simp,.inr ⟨b,off,rfl,?_,?_,?_⟩,?_,by omega⟩
  ·exact World.block_lt_of_cell? W ⟨b,off + 0 * 2,none⟩ (at2 0 (by omega)).1
  ·intro i hi
   have hi':i < len:=by simpa using hi
   simpa using at2 i hi'
  ·intro t ht
   simp only [List.mem_map,List.mem_range] at ht
   obtain ⟨i,hi,rfl⟩:=ht
   exact (hf i hi).2.1
  ·intro t ht
   simp only [List.mem_map,List.mem_range] at ht
   obtain ⟨i,hi,rfl⟩:=ht
   exact (hf i hi).2.2
end
end Go.Proofs.YtogjfppkbkgaeaaGreat
namespace Go.Proofs.YtogjfppkbkgaeaaGreat
open Go.ChangeShapes Go.WideShapes Go.ChangeAt Go.RowKit
open Pl
set_option maxHeartbeats 1000000 in
theorem eqRelation_same (r r':RR) (w:World) (he:r'.p=r.p) (hr:r.ok w) (hr':r'.ok w) (hl:r.light) :
  Calls Tryz.prog 113 #[r.val,r'.val] w fun e w'=>e=.returned (.bool true)∧Below w.heap.size w w':=by
 obtain ⟨name,rows,ad,cap⟩:=r
 obtain ⟨name',rows',ad',cap'⟩:=r'
 simp only [RR.p,Rl.mk.injEq] at he
 obtain ⟨rfl,he⟩:=he
 obtain ⟨l1,l2⟩:=hl
 have HO:Hid (SlE w ad rows):=hr
 have HO':Hid (SlE w ad' rows'):=hr'
 have HL:Hid (∀ q ∈ rows,q.e.light):=l2
 have HE:Hid (exs rows'=exs rows):=he
 simp only at l1
 simp only [RR.val]
 clear hr hr' l2 he
 have HB:Hid (Below w.heap.size w ((w.alloc (.cells #[.string name',.slice ad rows.length cap] 115)).alloc (.cells #[.string name',.slice ad' rows'.length cap'] 115))):=((Below.refl w.heap.size w).alloc (Nat.le_refl _) _).alloc (by simp) _
 go_enter Tryz.func113,Tryz.ntmps113
 go_wp2_with fail
 refine (eqExprS_same ad ad' cap cap' rows rows' _ l1 HE.out (SlE.below HO.out HB.out) (SlE.below HO'.out HB.out) HL.out).mono ?_
 rintro e w1 ⟨rfl,hb1⟩
 have HB1:Hid (Below w.heap.size w w1):=HB.out.trans (hb1.mono HB.out.size)
 clear hb1 HB
 go_wp2
 go_ret
 exact ⟨rfl,HB1.out⟩
theorem keepRR {wr W w':World} {b b' o o':Nat} {x0 x1 y0 y1:Value} (h:W.cell? ⟨b,o,none⟩=some x0∧W.cell? ⟨b,o + 1,none⟩=some x1∧W.cell? ⟨b',o',none⟩=some y0∧W.cell? ⟨b',o' + 1,none⟩=some y1∧b < W.heap.size∧b' < W.heap.size∧Below wr.heap.size wr W) (hb:Below W.heap.size W w') :
  w'.cell? ⟨b,o,none⟩=some x0∧w'.cell? ⟨b,o + 1,none⟩=some x1∧w'.cell? ⟨b',o',none⟩=some y0∧w'.cell? ⟨b',o' + 1,none⟩=some y1∧b < w'.heap.size∧b' < w'.heap.size∧Below wr.heap.size wr w':=keep4 h hb
theorem keepBRR {wr W:World} {b b' o o':Nat} {x0 x1 y0 y1:Value} (h:W.cell? ⟨b,o,none⟩=some x0∧W.cell? ⟨b,o + 1,none⟩=some x1∧W.cell? ⟨b',o',none⟩=some y0∧W.cell? ⟨b',o' + 1,none⟩=some y1∧b < W.heap.size∧b' < W.heap.size∧Below wr.heap.size wr W):Below wr.heap.size wr W:=h.2.2.2.2.2.2
set_option maxHeartbeats 2000000 in
theorem eqRelationS_same (ad ad':Option Addr) (cap cap':Nat) (rs rs':List RR) (w:World) (hlen:rs.length≤1048576) (he:rls rs'=rls rs) (hs:SlR w ad rs) (hs':SlR w ad' rs') (hl:∀ r ∈ rs,r.light) :
  Calls Tryz.prog 73 #[.slice ad rs.length cap,.slice ad' rs'.length cap'] w fun e w'=>e=.returned (.bool true)∧Below w.heap.size w w':=by
 have hll:rs'.length=rs.length:=by rw [← rls_len,he,rls_len]
 have HSL:Hid (SlR w ad rs):=hs
 have HSM:Hid (SlR w ad' rs'):=hs'
 have HLI:Hid (∀ r ∈ rs,r.light):=hl
 have HEE:Hid (rls rs'=rls rs):=he
 have HLL:Hid (rs'.length=rs.length):=hll
 rw [hll]
 clear hs hs' hl he hll
 go_enter Tryz.func73,Tryz.ntmps73
 go_wp2
 go_loopw [5] (fun i wr=>∃ k:Nat,k≤rs.length∧i=.int .i64 k∧Below w.heap.size w wr) (fun i _=>rs.length - (intOf i).toNat)
 case atStart=>exact ⟨0,Nat.zero_le _,rfl,Below.refl _ _⟩
 case round =>
  obtain ⟨k,hk,rfl,hB⟩:=hrel
  by_cases hlt:k < rs.length
  ·have hlt':k < rs'.length:=by rw [HLL.out]; exact hlt
   rcases HSL.out.below hB with rfl | ⟨b,off,rfl,hb,hr,hok⟩
   ·simp at hlt
   rcases HSM.out.below hB with rfl | ⟨b',off',rfl,hb',hr',hok'⟩
   ·simp at hlt'
   obtain ⟨t0,t1⟩:=hr k hlt
   obtain ⟨q0,q1⟩:=hr' k hlt'
   have HK1:Hid (rs[k].ok wr):=hok rs[k] (List.getElem_mem hlt)
   have HK2:Hid (rs'[k].ok wr):=hok' rs'[k] (List.getElem_mem hlt')
   have HK3:Hid (rs'[k].p=rs[k].p):=by
    have h1:(rls rs')[k]?=(rls rs)[k]?:=by rw [HEE.out]
    show _=_
    simpa [rls,hlt,hlt'] using h1
   have HK4:Hid (rs[k].light):=HLI.out rs[k] (List.getElem_mem hlt)
   have hk1:(0:Int)≤(k:Int):=by omega
   have hk2:(k:Int) < (rs.length:Int):=by omega
   clear hr hr' hok hok'
   go_wp2_with fail
   go_region_held3 (fun w'=>w'.cell? ⟨b,off + k * 2,none⟩=some (.string rs[k].name)∧w'.cell? ⟨b,off + k * 2 + 1,none⟩=some (.slice rs[k].ad rs[k].rows.length rs[k].cap)∧w'.cell? ⟨b',off' + k * 2,none⟩=some (.string rs'[k].name)∧w'.cell? ⟨b',off' + k * 2 + 1,none⟩=some (.slice rs'[k].ad rs'[k].rows.length rs'[k].cap)∧b < w'.heap.size∧b' < w'.heap.size∧Below wr.heap.size wr w')
    (first | assumption | exact keepRR (by assumption) hbx | exact ⟨t0,t1,q0,q1,hb,hb',(Below.refl _ _).drew⟩)
    (first | (go_at_call 113; refine (eqRelation_same rs[k] rs'[k] _ HK3.out (HK1.out.below (keepBRR (by assumption))) (HK2.out.below (keepBRR (by assumption))) HK4.out).mono ?_; rintro e w' ⟨rfl,hbx⟩))
   rename_i hH
   obtain ⟨-,-,-,-,-,-,gB⟩:=hH
   clear t0 t1 q0 q1 hb hb'
   go_wp2
   go_roundw
   case rel=>exact ⟨k + 1,by omega,by go_num,hB.trans (gB.mono hB.size)⟩
   case measure=>simp [intOf]; omega
  ·go_wp2
   go_ret
   exact ⟨rfl,hB⟩
set_option maxHeartbeats 1000000 in
theorem eqType_same (r r':TR) (w:World) (he:r'.p=r.p) (hr:r.ok w) (hr':r'.ok w) (hl:r.light) :
  Calls Tryz.prog 45 #[r.val,r'.val] w fun e w'=>e=.returned (.bool true)∧Below w.heap.size w w':=by
 obtain ⟨name,rows,ad,cap⟩:=r
 obtain ⟨name',rows',ad',cap'⟩:=r'
 simp only [TR.p,Ty.mk.injEq] at he
 obtain ⟨rfl,he⟩:=he
 obtain ⟨l1,l2⟩:=hl
 have HO:Hid (SlR w ad rows):=hr
 have HO':Hid (SlR w ad' rows'):=hr'
 have HL:Hid (∀ q ∈ rows,q.light):=l2
 have HE:Hid (rls rows'=rls rows):=he
 simp only at l1
 simp only [TR.val]
 clear hr hr' l2 he
 have HB:Hid (Below w.heap.size w ((w.alloc (.cells #[.string name',.slice ad rows.length cap] 70)).alloc (.cells #[.string name',.slice ad' rows'.length cap'] 70))):=((Below.refl w.heap.size w).alloc (Nat.le_refl _) _).alloc (by simp) _
 go_enter Tryz.func45,Tryz.ntmps45
 go_wp2_with fail
 refine (eqRelationS_same ad ad' cap cap' rows rows' _ l1 HE.out (SlR.below HO.out HB.out) (SlR.below HO'.out HB.out) HL.out).mono ?_
 rintro e w1 ⟨rfl,hb1⟩
 have HB1:Hid (Below w.heap.size w w1):=HB.out.trans (hb1.mono HB.out.size)
 clear hb1 HB
 go_wp2
 go_ret
 exact ⟨rfl,HB1.out⟩
theorem keepTR {wr W w':World} {b b' o o':Nat} {x0 x1 y0 y1:Value} (h:W.cell? ⟨b,o,none⟩=some x0∧W.cell? ⟨b,o + 1,none⟩=some x1∧W.cell? ⟨b',o',none⟩=some y0∧W.cell? ⟨b',o' + 1,none⟩=some y1∧b < W.heap.size∧b' < W.heap.size∧Below wr.heap.size wr W) (hb:Below W.heap.size W w') :
  w'.cell? ⟨b,o,none⟩=some x0∧w'.cell? ⟨b,o + 1,none⟩=some x1∧w'.cell? ⟨b',o',none⟩=some y0∧w'.cell? ⟨b',o' + 1,none⟩=some y1∧b < w'.heap.size∧b' < w'.heap.size∧Below wr.heap.size wr w':=keep4 h hb
theorem keepBTR {wr W:World} {b b' o o':Nat} {x0 x1 y0 y1:Value} (h:W.cell? ⟨b,o,none⟩=some x0∧W.cell? ⟨b,o + 1,none⟩=some x1∧W.cell? ⟨b',o',none⟩=some y0∧W.cell? ⟨b',o' + 1,none⟩=some y1∧b < W.heap.size∧b' < W.heap.size∧Below wr.heap.size wr W):Below wr.heap.size wr W:=h.2.2.2.2.2.2
set_option maxHeartbeats 2000000 in
theorem eqTypeS_same (ad ad':Option Addr) (cap cap':Nat) (rs rs':List TR) (w:World) (hlen:rs.length≤1048576) (he:tys rs'=tys rs) (hs:SlT w ad rs) (hs':SlT w ad' rs') (hl:∀ r ∈ rs,r.light) :
  Calls Tryz.prog 14 #[.slice ad rs.length cap,.slice ad' rs'.length cap'] w fun e w'=>e=.returned (.bool true)∧Below w.heap.size w w':=by
 have hll:rs'.length=rs.length:=by rw [← tys_len,he,tys_len]
 have HSL:Hid (SlT w ad rs):=hs
 have HSM:Hid (SlT w ad' rs'):=hs'
 have HLI:Hid (∀ r ∈ rs,r.light):=hl
 have HEE:Hid (tys rs'=tys rs):=he
 have HLL:Hid (rs'.length=rs.length):=hll
 rw [hll]
 clear hs hs' hl he hll
 go_enter Tryz.func14,Tryz.ntmps14
 go_wp2
 go_loopw [5] (fun i wr=>∃ k:Nat,k≤rs.length∧i=.int .i64 k∧Below w.heap.size w wr) (fun i _=>rs.length - (intOf i).toNat)
 case atStart=>exact ⟨0,Nat.zero_le _,rfl,Below.refl _ _⟩
 case round =>
  obtain ⟨k,hk,rfl,hB⟩:=hrel
  by_cases hlt:k < rs.length
  ·have hlt':k < rs'.length:=by rw [HLL.out]; exact hlt
   rcases HSL.out.below hB with rfl | ⟨b,off,rfl,hb,hr,hok⟩
   ·simp at hlt
   rcases HSM.out.below hB with rfl | ⟨b',off',rfl,hb',hr',hok'⟩
   ·simp at hlt'
   obtain ⟨t0,t1⟩:=hr k hlt
   obtain ⟨q0,q1⟩:=hr' k hlt'
   have HK1:Hid (rs[k].ok wr):=hok rs[k] (List.getElem_mem hlt)
   have HK2:Hid (rs'[k].ok wr):=hok' rs'[k] (List.getElem_mem hlt')
   have HK3:Hid (rs'[k].p=rs[k].p):=by
    have h1:(tys rs')[k]?=(tys rs)[k]?:=by rw [HEE.out]
    show _=_
    simpa [tys,hlt,hlt'] using h1
   have HK4:Hid (rs[k].light):=HLI.out rs[k] (List.getElem_mem hlt)
   have hk1:(0:Int)≤(k:Int):=by omega
   have hk2:(k:Int) < (rs.length:Int):=by omega
   clear hr hr' hok hok'
   go_wp2_with fail
   go_region_held3 (fun w'=>w'.cell? ⟨b,off + k * 2,none⟩=some (.string rs[k].name)∧w'.cell? ⟨b,off + k * 2 + 1,none⟩=some (.slice rs[k].ad rs[k].rows.length rs[k].cap)∧w'.cell? ⟨b',off' + k * 2,none⟩=some (.string rs'[k].name)∧w'.cell? ⟨b',off' + k * 2 + 1,none⟩=some (.slice rs'[k].ad rs'[k].rows.length rs'[k].cap)∧b < w'.heap.size∧b' < w'.heap.size∧Below wr.heap.size wr w')
    (first | assumption | exact keepTR (by assumption) hbx | exact ⟨t0,t1,q0,q1,hb,hb',(Below.refl _ _).drew⟩)
    (first | (go_at_call 45; refine (eqType_same rs[k] rs'[k] _ HK3.out (HK1.out.below (keepBTR (by assumption))) (HK2.out.below (keepBTR (by assumption))) HK4.out).mono ?_; rintro e w' ⟨rfl,hbx⟩))
   rename_i hH
   obtain ⟨-,-,-,-,-,-,gB⟩:=hH
   clear t0 t1 q0 q1 hb hb'
   go_wp2
   go_roundw
   case rel=>exact ⟨k + 1,by omega,by go_num,hB.trans (gB.mono hB.size)⟩
   case measure=>simp [intOf]; omega
  ·go_wp2
   go_ret
   exact ⟨rfl,hB⟩
end Go.Proofs.YtogjfppkbkgaeaaGreat
