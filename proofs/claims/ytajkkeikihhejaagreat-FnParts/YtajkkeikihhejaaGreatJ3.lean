/- Contracts of the law's helpers that copy an expression into the program's types: new rows that hold the same. -/
import Derived.Test.YtajkkeikihhejaaGreatSq
import Derived.Test.YtajkkeikihhejaaGreatSzExpr
import Derived.Laws.IdiomStrings
import Derived.Deep.RegionHeld3
import Derived.Deep.QuietTactic
import Derived.BigQuiet
import Derived.WalkSmall
import Derived.WalkSpells
open Go.Proofs.Tryz
namespace Go.Proofs.YtajkkeikihhejaaGreat
open Go.ChangeShapes Go.WideShapes Go.ChangeAt Go.RowKit
open Pl
structure Fil (w wr:World)(g n:Nat)(xs:List Value):Prop where
 below:ag w wr
 ge:w.heap.size<=g
 lt:g<wr.heap.size
 done:∀ (j:Nat) (h:j<xs.length),wr.cell? ⟨g,j,none⟩=some xs[j]
 there:∀ j,j<n->(wr.cell? ⟨g,j,none⟩).isSome=true
 free:∀ j,wr.frozen? ⟨g,j,none⟩=false
theorem lQ {w:af}{g i j:Nat}{v:Value}(h:i≠j):(w.setCell ⟨g,i,none⟩ v).cell? ⟨g,j,none⟩=w.cell? ⟨g,j,none⟩:=by
 apply World.cell?_setCell_other;intro e;exact h (congrArg Addr.off e)
theorem xA {w:af}{a:Addr}{v u:Value}(h:w.cell? a=some u):(w.setCell a v).cell? a=some v:=by
 apply World.cell?_setCell_same;exact h
theorem xB {w:af}{g h i j:Nat}{v:Value}(hn:g≠h):(w.setCell ⟨g,i,none⟩ v).cell? ⟨h,j,none⟩=w.cell? ⟨h,j,none⟩:=by
 apply World.cell?_setCell_other;intro e;exact hn (congrArg Addr.block e)
theorem Fil.later {w wr w1:af}{g n:Nat}{xs:List Value}(h:Fil w wr g n xs)(hb:ag wr w1):Fil w w1 g n xs where
 below:=h.below.trans (hb.mono h.below.size)
 ge:=h.ge
 lt:=Uc h.lt hb.size
 done j hj:=by rw [hb.cell (p:=⟨g,j,none⟩) h.lt];exact h.done j hj
 there j hj:=by rw [hb.cell (p:=⟨g,j,none⟩) h.lt];exact h.there j hj
 free j:=by rw [hb.frozen (p:=⟨g,j,none⟩) h.lt];exact h.free j
theorem Fil.put {w wr:af}{g n o:Nat}{xs:List Value}(h:Fil w wr g n xs)(v:Value)(ho:o=xs.length)(hn:o<n):Fil w (wr.setCell ⟨g,o,none⟩ v) g n (xs++[v]) where
 below:=h.below.setCell (p:=⟨g,o,none⟩) h.ge v
 ge:=h.ge
 lt:=by simpa using h.lt
 done j hj:=by
  by_cases e:j=o
  ·subst e;obtain ⟨u,hu⟩:=Option.isSome_iff_exists.mp (h.there j hn);rw [xA hu];simp [ho]
  have hj':j<xs.length:=by simp at hj;omega
  rw [lQ (Ne.symm e),h.done j hj',Ux hj']
 there j hj:=by
  by_cases e:j=o
  ·subst e;obtain ⟨u,hu⟩:=Option.isSome_iff_exists.mp (h.there j hn);rw [xA hu];rfl
  rw [lQ (Ne.symm e)];exact h.there j hj
 free j:=by simpa using h.free j
theorem Nl {w w0:af}{n k:Nat}{base:Nat}{e:TypeId}{xs:List Value}(h:w0.ownsRow base e k (.slice (some ⟨w.heap.size,0,none⟩) n n) n xs)(hg:w.grownBy w0 none):Fil w w0 w.heap.size (n*k) [] where
 below:=(Uf _ _).grown hg (Ue _) (fun k hk=>by cases hk)
 ge:=Ue _
 lt:=(h.lt w.heap.size rfl).2
 done j hj:=absurd hj (UI _)
 there j hj:=by
  rw [h.cellAt j hj,Uj (by rw [h.1];exact hj)];rfl
 free j:=h.frozenAt j
theorem R9 {t:TypeId}{n b:Nat}(h:(prog.info? t).map (fun i=>(i.zero.isSome,i.size,i.bytes))=some (true,n,b)):∃ i z,prog.info? t=some i/\i.zero=some z/\i.size=n/\i.bytes=b:=by
 cases hi:prog.info? t with
 | none=>rw [hi]at h;cases h
 | some i =>
  rw [hi]at h;simp at h;obtain ⟨z,hz⟩:=Option.isSome_iff_exists.mp h.1;exact ⟨i,z,rfl,hz,h.2.1,h.2.2⟩
def ints (zs:List Int):List Value:=zs.map (Value.int .i64)
theorem Fil.ints {w w':af}{g:Nat}{zs:List Int}(h:Fil w w' g zs.length (ints zs)):p8 w' (some ⟨g,0,none⟩) zs :=
 .inr ⟨g,0,rfl,h.lt,fun i hi=>by rw [Uz,h.done i (by simpa [YtajkkeikihhejaaGreat.ints] using hi)];simp [YtajkkeikihhejaaGreat.ints]⟩
def pairs (xs:List Al):List Value:=xs.flatMap fun a=>[.string a.t,.string a.s]
theorem lm:∀ xs:List Al,(pairs xs).length=xs.length*2
 | []=>rfl
 | a::xs=>by have:=lm xs;simp only [pairs,List.flatMap_cons,Ul,List.length_cons,List.length_nil]at this ⊢;omega
theorem nM:∀ (xs:List Al) (i:Nat) (h:i<xs.length),(pairs xs)[i*2]?=some (.string xs[i].t)/\(pairs xs)[i*2+1]?=some (.string xs[i].s)
 | [],i,h=>by simp at h
 | a::xs,0,_=>by simp [pairs]
 | a::xs,i+1,h=>by
  have:=nM xs i (by simpa using h);simp only [pairs,List.flatMap_cons,List.cons_append,List.nil_append,List.getElem_cons_succ]at this ⊢;rw [show (i+1)*2=i*2+1+1 by omega,show i*2+1+1+1=(i*2+1)+1+1 by omega];simpa using this
theorem Fil.pairs {w w':af}{g:Nat}{xs:List Al}(h:Fil w w' g (xs.length*2) (pairs xs)):jM w' (some ⟨g,0,none⟩) xs:=by
 refine .inr ⟨g,0,rfl,h.lt,fun i hi=>?_⟩;obtain ⟨h1,h2⟩:=nM xs i hi;have hl:=lm xs;refine ⟨?_,?_⟩
 ·rw [Uz,h.done (i*2) (by omega),<-h1,Uj (by omega)]
 rw [Uz,h.done (i*2+1) (by omega),<-h2,Uj (by omega)]
theorem jM.set {w:af}{ad:Option Addr}{xs:List Al}{g o:Nat}{v:Value}(h:jM w ad xs)(hn:∀ b off,ad=some ⟨b,off,none⟩->g≠b):jM (w.setCell ⟨g,o,none⟩ v) ad xs:=by
 rcases h with h|⟨b,off,e,hb,hr⟩
 ·exact .inl h
 exact .inr ⟨b,off,e,by simpa using hb,fun i hi=>(hr i hi).same fun o=>xB (hn b off e)⟩
theorem p8.set {w:af}{ad:Option Addr}{zs:List Int}{g o:Nat}{v:Value}(h:p8 w ad zs)(hn:∀ b off,ad=some ⟨b,off,none⟩->g≠b):p8 (w.setCell ⟨g,o,none⟩ v) ad zs:=by
 rcases h with h|⟨b,off,e,hb,hr⟩
 ·exact .inl h
 exact .inr ⟨b,off,e,by simpa using hb,fun i hi=>by rw [xB (hn b off e)];exact hr i hi⟩
theorem kept {W w1:af}{n o:Nat}{v:Value}(hb:ag W w1)(hn:n<W.heap.size)(h:W.cell? ⟨n,o,none⟩=some v):w1.cell? ⟨n,o,none⟩=some v:=by
 rw [hb.cell (p:=⟨n,o,none⟩) hn];exact h
theorem Nn {W w1:af}{n o:Nat}(hb:ag W w1)(hn:n<W.heap.size)(h:W.frozen? ⟨n,o,none⟩=false):w1.frozen? ⟨n,o,none⟩=false:=by
 rw [hb.frozen (p:=⟨n,o,none⟩) hn];exact h
theorem Np (w:af)(x:Obj)(C:Array Value)(t:TypeId)(k:Nat){v:Value}(h:C[k]?=some v):((w.alloc x).alloc (.cells C t)).cell? ⟨w.heap.size+1,k,none⟩=some v:=by
 have:=World.cell?_alloc_mark (w.alloc x) C t (0,0) k;rw [World.size_alloc,h]at this;exact this
theorem Sa (w:af)(x y:Obj)(C:Array Value)(t:TypeId)(k:Nat){v:Value}(h:C[k]?=some v):(((w.alloc x).alloc y).alloc (.cells C t)).cell? ⟨w.heap.size+1+1,k,none⟩=some v:=by
 have:=Np (w.alloc x) y C t k h;rw [World.size_alloc]at this;exact this
def ER.row (r:ER):List Value:=[.int .i64 r.e.kind,.slice r.adA r.e.allow.length r.capA,.string r.e.over,.string r.e.name,.slice r.adK r.e.kids.length r.capK]
def gZ (rs:List ER):List Value:=rs.flatMap ER.row
theorem rf:∀ rs:List ER,(gZ rs).length=rs.length*5
 | []=>rfl
 | r::rs=>by have:=rf rs;simp only [gZ,ER.row,List.flatMap_cons,Ul,List.length_cons,List.length_nil]at this ⊢;omega
theorem yT:∀ (rs:List ER) (i:Nat) (h:i<rs.length) (j:Nat),j<5->(gZ rs)[i*5+j]?=(rs[i]).row[j]?
 | [],i,h,_,_=>by simp at h
 | r::rs,0,_,j,hj=>by
  simp only [gZ,List.flatMap_cons,Nat.zero_mul,Uz,List.getElem_cons_zero];rw [List.getElem?_append_left (by simpa [ER.row] using hj)]
 | r::rs,i+1,h,j,hj=>by
  have:=yT rs i (by simpa using h) j hj;simp only [gZ,List.flatMap_cons,List.getElem_cons_succ]at this ⊢;rw [List.getElem?_append_right (by simp [ER.row];omega),<-this];congr 1;simp [ER.row];omega
theorem Fil.rows {w w':af}{g:Nat}{rs:List ER}(h:Fil w w' g (rs.length*5) (gZ rs))(hok:∀ r∈rs,r.ok w'):iC w' (some ⟨g,0,none⟩) rs:=by
 refine .inr ⟨g,0,rfl,h.lt,fun i hi=>?_,hok⟩;have hl:=rf rs;have key:∀ j,j<5->w'.cell? ⟨g,0+i*5+j,none⟩=(rs[i]).row[j]?:=fun j hj=>by
  rw [Uz,h.done (i*5+j) (by omega),<-yT rs i hi j hj,Uj (by omega)]
 exact ⟨key 0 (by omega),key 1 (by omega),key 2 (by omega),key 3 (by omega),key 4 (by omega)⟩
def ER.new (B:Nat)(r:ER):Prop:=∃ gA gK:Nat,r.adA=some ⟨gA,0,none⟩/\r.adK=some ⟨gK,0,none⟩/\B<gA/\B<gK/\r.capA=r.e.allow.length
theorem ER.ok.set {w:af}{r:ER}{g o:Nat}{v:Value}(h:r.ok w)(hn:r.new g):r.ok (w.setCell ⟨g,o,none⟩ v):=by
 obtain ⟨gA,gK,e1,e2,h1,h2,-⟩:=hn;refine ⟨h.1.set fun b off e=>?_,h.2.set fun b off e=>?_⟩
 ·rw [e1]at e;injection e with e;injection e with e3 e4;omega
 rw [e2]at e;injection e with e;injection e with e3 e4;omega
end Go.Proofs.YtajkkeikihhejaaGreat
