/- Contracts of the law's helpers that copy a schema: new memory that holds the same. -/
import Derived.Test.YtdaoiceeidoehaaGreatJ38
namespace Go.Proofs.YtdaoiceeidoehaaGreat
open Go.ChangeShapes Go.WideShapes Go.ChangeAt Go.RowKit
open Pl
def RR.row (r:RR):List Value:=[.string r.name,.slice r.ad r.rows.length r.cap]
def rowRR (rs:List RR):List Value:=rs.flatMap RR.row
theorem uI:∀ rs:List RR,(rowRR rs).length=rs.length * 2
 | []=>rfl
 | r::rs=>by have:=uI rs; simp only [rowRR,RR.row,List.flatMap_cons,R9,List.length_cons,List.length_nil] at this ⊢; omega
theorem FP:∀ (rs:List RR) (i:Nat) (h:i < rs.length) (j:Nat),j < 2→(rowRR rs)[i * 2 + j]?=(rs[i]).row[j]?
 | [],i,h,_,_=>by simp at h
 | r::rs,0,_,j,hj=>by
  simp only [rowRR,List.flatMap_cons,Nat.zero_mul,Su,List.getElem_cons_zero];rw [List.getElem?_append_left (by simpa [RR.row] using hj)]
 | r::rs,i + 1,h,j,hj=>by
  have:=FP rs i (by simpa using h) j hj;simp only [rowRR,List.flatMap_cons,List.getElem_cons_succ] at this ⊢;rw [List.getElem?_append_right (by simp [RR.row]; omega),← this];congr 1;simp [RR.row]; omega
theorem Fil.rowRR {w w':World} {g:Nat} {rs:List RR} (h:Fil w w' g (rs.length * 2) (rowRR rs)) (hok:∀ r ∈ rs,r.ok w'):zz w' (some ⟨g,0,none⟩) rs:=by
 refine .inr ⟨g,0,rfl,h.lt,fun i hi=>?_,hok⟩;have hl:=uI rs;have key:∀ j,j < 2→w'.cell? ⟨g,0 + i * 2 + j,none⟩=(rs[i]).row[j]?:=fun j hj=>by
  rw [Su,h.done (i * 2 + j) (by omega),← FP rs i hi j hj,R8 (by omega)]
 exact ⟨key 0 (by omega),key 1 (by omega)⟩
def TR.row (r:TR):List Value:=[.string r.name,.slice r.ad r.rows.length r.cap]
def rowTR (rs:List TR):List Value:=rs.flatMap TR.row
theorem uJ:∀ rs:List TR,(rowTR rs).length=rs.length * 2
 | []=>rfl
 | r::rs=>by have:=uJ rs; simp only [rowTR,TR.row,List.flatMap_cons,R9,List.length_cons,List.length_nil] at this ⊢; omega
theorem FQ:∀ (rs:List TR) (i:Nat) (h:i < rs.length) (j:Nat),j < 2→(rowTR rs)[i * 2 + j]?=(rs[i]).row[j]?
 | [],i,h,_,_=>by simp at h
 | r::rs,0,_,j,hj=>by
  simp only [rowTR,List.flatMap_cons,Nat.zero_mul,Su,List.getElem_cons_zero];rw [List.getElem?_append_left (by simpa [TR.row] using hj)]
 | r::rs,i + 1,h,j,hj=>by
  have:=FQ rs i (by simpa using h) j hj;simp only [rowTR,List.flatMap_cons,List.getElem_cons_succ] at this ⊢;rw [List.getElem?_append_right (by simp [TR.row]; omega),← this];congr 1;simp [TR.row]; omega
theorem Fil.rowTR {w w':World} {g:Nat} {rs:List TR} (h:Fil w w' g (rs.length * 2) (rowTR rs)) (hok:∀ r ∈ rs,r.ok w'):jd w' (some ⟨g,0,none⟩) rs:=by
 refine .inr ⟨g,0,rfl,h.lt,fun i hi=>?_,hok⟩;have hl:=uJ rs;have key:∀ j,j < 2→w'.cell? ⟨g,0 + i * 2 + j,none⟩=(rs[i]).row[j]?:=fun j hj=>by
  rw [Su,h.done (i * 2 + j) (by omega),← FQ rs i hi j hj,R8 (by omega)]
 exact ⟨key 0 (by omega),key 1 (by omega)⟩
end Go.Proofs.YtdaoiceeidoehaaGreat
