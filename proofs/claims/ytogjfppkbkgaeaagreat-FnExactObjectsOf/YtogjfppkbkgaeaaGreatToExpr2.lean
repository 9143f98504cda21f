/- Contracts of the law's helpers that copy a node and a whole expression: new memory that holds the same. -/
import Derived.Test.YtogjfppkbkgaeaaGreatJ1
import Derived.Laws.IdiomStrings
namespace Go.Proofs.YtogjfppkbkgaeaaGreat
open Go.ChangeShapes Go.WideShapes Go.ChangeAt Go.RowKit
open Pl
theorem dm.set {w:World} {ad:Option Addr} {xs:List Al} {g o:Nat} {v:Value} (h:dm w ad xs) (hn:∀ b off,ad=some ⟨b,off,none⟩→g ≠ b):dm (w.setCell ⟨g,o,none⟩ v) ad xs:=by
 rcases h with h | ⟨b,off,e,hb,hr⟩
 ·exact .inl h
 ·exact .inr ⟨b,off,e,by simpa using hb,fun i hi=>(hr i hi).same fun o=>d9 (hn b off e)⟩
theorem kV.set {w:World} {ad:Option Addr} {zs:List Int} {g o:Nat} {v:Value} (h:kV w ad zs) (hn:∀ b off,ad=some ⟨b,off,none⟩→g ≠ b):kV (w.setCell ⟨g,o,none⟩ v) ad zs:=by
 rcases h with h | ⟨b,off,e,hb,hr⟩
 ·exact .inl h
 ·exact .inr ⟨b,off,e,by simpa using hb,fun i hi=>by rw [d9 (hn b off e)]; exact hr i hi⟩
theorem kept {W w1:World} {n o:Nat} {v:Value} (hb:Below W.heap.size W w1) (hn:n < W.heap.size) (h:W.cell? ⟨n,o,none⟩=some v):w1.cell? ⟨n,o,none⟩=some v:=by
 rw [hb.cell (p:=⟨n,o,none⟩) hn]; exact h
theorem gW {W w1:World} {n o:Nat} (hb:Below W.heap.size W w1) (hn:n < W.heap.size) (h:W.frozen? ⟨n,o,none⟩=false):w1.frozen? ⟨n,o,none⟩=false:=by
 rw [hb.frozen (p:=⟨n,o,none⟩) hn]; exact h
theorem gX (w:World) (x:Obj) (C:Array Value) (t:TypeId) (k:Nat) {v:Value} (h:C[k]?=some v):((w.alloc x).alloc (.cells C t)).cell? ⟨w.heap.size + 1,k,none⟩=some v:=by
 have:=World.cell?_alloc_mark (w.alloc x) C t (0,0) k;rw [World.size_alloc,h] at this;exact this
theorem jX (w:World) (x y:Obj) (C:Array Value) (t:TypeId) (k:Nat) {v:Value} (h:C[k]?=some v):(((w.alloc x).alloc y).alloc (.cells C t)).cell? ⟨w.heap.size + 1 + 1,k,none⟩=some v:=by
 have:=gX (w.alloc x) y C t k h;rw [World.size_alloc] at this;exact this
theorem uF (w:World) (x:Obj) (C:Array Value) (t:TypeId) {k:Nat}:((w.alloc x).alloc (.cells C t)).frozen? ⟨w.heap.size + 1,k,none⟩=false:=by
 have:((w.alloc x).alloc (.cells C t)).frozen? ⟨(w.alloc x).heap.size,k,none⟩=false:=by simp
 rw [World.size_alloc] at this;exact this
theorem zR (w:World) (x y:Obj) (C:Array Value) (t:TypeId) {k:Nat}:(((w.alloc x).alloc y).alloc (.cells C t)).frozen? ⟨w.heap.size + 1 + 1,k,none⟩=false:=by
 have:=uF (w.alloc x) y C t (k:=k);rw [World.size_alloc] at this;exact this
def ER.row (r:ER):List Value:=[.int .i64 r.e.kind,.slice r.adA r.e.allow.length r.capA,.string r.e.over,.string r.e.name,.slice r.adK r.e.kids.length r.capK]
def lV (rs:List ER):List Value:=rs.flatMap ER.row
theorem qV:∀ rs:List ER,(lV rs).length=rs.length * 5
 | []=>rfl
 | r::rs=>by have:=qV rs; simp only [lV,ER.row,List.flatMap_cons,List.length_append,List.length_cons,List.length_nil] at this ⊢; omega
theorem Bu:∀ (rs:List ER) (i:Nat) (h:i < rs.length) (j:Nat),j < 5→(lV rs)[i * 5 + j]?=(rs[i]).row[j]?
 | [],i,h,_,_=>by simp at h
 | r::rs,0,_,j,hj=>by
  simp only [lV,List.flatMap_cons,Nat.zero_mul,Nat.zero_add,List.getElem_cons_zero];rw [List.getElem?_append_left (by simpa [ER.row] using hj)]
 | r::rs,i + 1,h,j,hj=>by
  have:=Bu rs i (by simpa using h) j hj;simp only [lV,List.flatMap_cons,List.getElem_cons_succ] at this ⊢;rw [List.getElem?_append_right (by simp [ER.row]; omega),← this];congr 1;simp [ER.row]; omega
theorem Fil.rows {w w':World} {g:Nat} {rs:List ER} (h:Fil w w' g (rs.length * 5) (lV rs)) (hok:∀ r ∈ rs,r.ok w'):dZ w' (some ⟨g,0,none⟩) rs:=by
 refine .inr ⟨g,0,rfl,h.lt,fun i hi=>?_,hok⟩;have hl:=qV rs;have key:∀ j,j < 5→w'.cell? ⟨g,0 + i * 5 + j,none⟩=(rs[i]).row[j]?:=fun j hj=>by
  rw [Nat.zero_add,h.done (i * 5 + j) (by omega),← Bu rs i hi j hj,List.getElem?_eq_getElem (by omega)]
 exact ⟨key 0 (by omega),key 1 (by omega),key 2 (by omega),key 3 (by omega),key 4 (by omega)⟩
def ER.new (B:Nat) (r:ER):Prop:=∃ gA gK:Nat,r.adA=some ⟨gA,0,none⟩∧r.adK=some ⟨gK,0,none⟩∧B < gA∧B < gK∧r.capA=r.e.allow.length
theorem ER.ok.set {w:World} {r:ER} {g o:Nat} {v:Value} (h:r.ok w) (hn:r.new g):r.ok (w.setCell ⟨g,o,none⟩ v):=by
 obtain ⟨gA,gK,e1,e2,h1,h2,-⟩:=hn;refine ⟨h.1.set fun b off e=>?_,h.2.set fun b off e=>?_⟩
 ·rw [e1] at e; injection e with e; injection e with e3 e4; omega
 ·rw [e2] at e; injection e with e; injection e with e3 e4; omega
end Go.Proofs.YtogjfppkbkgaeaaGreat
