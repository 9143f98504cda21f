/- Contracts of the law's helpers that copy a node and a whole expression: new memory that holds the same. -/
import Derived.Test.YtdaoiceeidoehaaGreatSq
import Derived.Test.YtdaoiceeidoehaaGreatJ2
import Derived.Laws.IdiomStrings
open Go.Proofs.Tryz
set_option maxHeartbeats 80000000
namespace Go.Proofs.YtdaoiceeidoehaaGreat
open Go.ChangeShapes Go.WideShapes Go.ChangeAt Go.RowKit
open Pl
theorem fV.set {w:World} {ad:Option Addr} {xs:List Al} {g o:Nat} {v:Value} (h:fV w ad xs) (hn:∀ b off,ad=some ⟨b,off,none⟩→g ≠ b):fV (w.setCell ⟨g,o,none⟩ v) ad xs:=by
 rcases h with h | ⟨b,off,e,hb,hr⟩
 ·exact .inl h
 ·exact .inr ⟨b,off,e,by simpa using hb,fun i hi=>(hr i hi).same fun o=>dZ (hn b off e)⟩
theorem nA.set {w:World} {ad:Option Addr} {zs:List Int} {g o:Nat} {v:Value} (h:nA w ad zs) (hn:∀ b off,ad=some ⟨b,off,none⟩→g ≠ b):nA (w.setCell ⟨g,o,none⟩ v) ad zs:=by
 rcases h with h | ⟨b,off,e,hb,hr⟩
 ·exact .inl h
 ·exact .inr ⟨b,off,e,by simpa using hb,fun i hi=>by rw [dZ (hn b off e)]; exact hr i hi⟩
theorem kept {W w1:World} {n o:Nat} {v:Value} (hb:Below W.heap.size W w1) (hn:n < W.heap.size) (h:W.cell? ⟨n,o,none⟩=some v):w1.cell? ⟨n,o,none⟩=some v:=by
 rw [hb.cell (p:=⟨n,o,none⟩) hn]; exact h
theorem kS {W w1:World} {n o:Nat} (hb:Below W.heap.size W w1) (hn:n < W.heap.size) (h:W.frozen? ⟨n,o,none⟩=false):w1.frozen? ⟨n,o,none⟩=false:=by
 rw [hb.frozen (p:=⟨n,o,none⟩) hn]; exact h
theorem gT (w:World) (x:Obj) (C:Array Value) (t:TypeId) (k:Nat) {v:Value} (h:C[k]?=some v):((w.alloc x).alloc (.cells C t)).cell? ⟨w.heap.size + 1,k,none⟩=some v:=by
 have:=World.cell?_alloc_mark (w.alloc x) C t (0,0) k;rw [World.size_alloc,h] at this;exact this
theorem jJ (w:World) (x y:Obj) (C:Array Value) (t:TypeId) (k:Nat) {v:Value} (h:C[k]?=some v):(((w.alloc x).alloc y).alloc (.cells C t)).cell? ⟨w.heap.size + 1 + 1,k,none⟩=some v:=by
 have:=gT (w.alloc x) y C t k h;rw [World.size_alloc] at this;exact this
theorem sZ (w:World) (x:Obj) (C:Array Value) (t:TypeId) {k:Nat}:((w.alloc x).alloc (.cells C t)).frozen? ⟨w.heap.size + 1,k,none⟩=false:=by
 have:((w.alloc x).alloc (.cells C t)).frozen? ⟨(w.alloc x).heap.size,k,none⟩=false:=by simp
 rw [World.size_alloc] at this;exact this
theorem yJ (w:World) (x y:Obj) (C:Array Value) (t:TypeId) {k:Nat}:(((w.alloc x).alloc y).alloc (.cells C t)).frozen? ⟨w.heap.size + 1 + 1,k,none⟩=false:=by
 have:=sZ (w.alloc x) y C t (k:=k);rw [World.size_alloc] at this;exact this
theorem CF (r:ER) (w:World) (hr:r.ok w) (hl:r.e.light) :
  Calls prog 140 #[r.val] w fun e w'=>∃ (r':ER) (gA gK:Nat),e=.returned r'.val∧r'.e=r.e∧r'.adA=some ⟨gA,0,none⟩∧r'.adK=some ⟨gK,0,none⟩∧w.heap.size≤gA∧w.heap.size≤gK∧r'.ok w'∧r'.capA=r'.e.allow.length∧Below w.heap.size w w':=by
 obtain ⟨⟨kind,allow,over,name,kids⟩,adA,capA,adK,capK⟩:=r;obtain ⟨hA,hK⟩:=hr;obtain ⟨l1,l2⟩:=hl;simp only at hA hK l1 l2;simp only [ER.val];have HA:Hid (fV w adA allow):=hA;have HK:Hid (nA w adK kids):=hK;clear hA hK;go_enter func140,ntmps140;go_wp2_with fail;obtain ⟨W1,hW1⟩:∃ W1,W1=((w.alloc (.cells #[.int .i64 kind,.slice adA allow.length capA,.string over,.string name,.slice adK kids.length capK] 230)).alloc (.cells #[.int .i64 0,.slice none 0 0,.string ⟨#[]⟩,.string ⟨#[]⟩,.slice none 0 0] 166)).alloc (.cells #[.int .i64 kind,.slice none 0 0,.string ⟨#[]⟩,.string ⟨#[]⟩,.slice none 0 0] 166):=⟨_,rfl⟩;rw [← hW1];have hz1:w.heap.size + 3≤W1.heap.size:=by rw [hW1]; simp only [World.size_alloc]; omega
 have hb0:Below w.heap.size w W1:=by rw [hW1]; exact (((Below.refl w.heap.size w).alloc (Nat.le_refl _) _).alloc (by simp) _).alloc (by simp; omega) _
 have bB:Below (w.alloc (.cells #[.int .i64 kind,.slice adA allow.length capA,.string over,.string name,.slice adK kids.length capK] 230)).heap.size (w.alloc (.cells #[.int .i64 kind,.slice adA allow.length capA,.string over,.string name,.slice adK kids.length capK] 230)) W1:=by rw [hW1]; exact ((Below.refl _ _).alloc (Nat.le_refl _) _).alloc (by simp) _
 have bC:Below ((w.alloc (.cells #[.int .i64 kind,.slice adA allow.length capA,.string over,.string name,.slice adK kids.length capK] 230)).alloc (.cells #[.int .i64 0,.slice none 0 0,.string ⟨#[]⟩,.string ⟨#[]⟩,.slice none 0 0] 166)).heap.size ((w.alloc (.cells #[.int .i64 kind,.slice adA allow.length capA,.string over,.string name,.slice adK kids.length capK] 230)).alloc (.cells #[.int .i64 0,.slice none 0 0,.string ⟨#[]⟩,.string ⟨#[]⟩,.slice none 0 0] 166)) W1:=by rw [hW1]; exact (Below.refl _ _).alloc (Nat.le_refl _) _
 have hfr:∀ i,W1.frozen? ⟨w.heap.size + 1,i,none⟩=false∧W1.frozen? ⟨w.heap.size + 1 + 1,i,none⟩=false:=fun i=>⟨kS bC (by simp) (sZ _ _ _ _),by rw [hW1]; exact yJ _ _ _ _ _⟩;have s2:W1.cell? ⟨w.heap.size,2,none⟩=some (.string over):=kept bB (by simp) (by simp);have s3:W1.cell? ⟨w.heap.size,3,none⟩=some (.string name):=kept bB (by simp) (by simp);have s4:W1.cell? ⟨w.heap.size,4,none⟩=some (.slice adK kids.length capK):=kept bB (by simp) (by simp);have z0:W1.cell? ⟨w.heap.size + 1,0,none⟩=some (.int .i64 0):=kept bC (by simp) (gT _ _ _ _ _ rfl);have z1:W1.cell? ⟨w.heap.size + 1,1,none⟩=some (.slice none 0 0):=kept bC (by simp) (gT _ _ _ _ _ rfl);have z2:W1.cell? ⟨w.heap.size + 1,2,none⟩=some (.string ⟨#[]⟩):=kept bC (by simp) (gT _ _ _ _ _ rfl);have z3:W1.cell? ⟨w.heap.size + 1,3,none⟩=some (.string ⟨#[]⟩):=kept bC (by simp) (gT _ _ _ _ _ rfl);have z4:W1.cell? ⟨w.heap.size + 1,4,none⟩=some (.slice none 0 0):=kept bC (by simp) (gT _ _ _ _ _ rfl);have o0:W1.cell? ⟨w.heap.size + 1 + 1,0,none⟩=some (.int .i64 kind):=by rw [hW1]; exact jJ _ _ _ _ _ _ rfl
 have o1:W1.cell? ⟨w.heap.size + 1 + 1,1,none⟩=some (.slice none 0 0):=by rw [hW1]; exact jJ _ _ _ _ _ _ rfl
 have o2:W1.cell? ⟨w.heap.size + 1 + 1,2,none⟩=some (.string ⟨#[]⟩):=by rw [hW1]; exact jJ _ _ _ _ _ _ rfl
 have o3:W1.cell? ⟨w.heap.size + 1 + 1,3,none⟩=some (.string ⟨#[]⟩):=by rw [hW1]; exact jJ _ _ _ _ _ _ rfl
 have o4:W1.cell? ⟨w.heap.size + 1 + 1,4,none⟩=some (.slice none 0 0):=by rw [hW1]; exact jJ _ _ _ _ _ _ rfl
 clear hW1 bB bC;refine (uf adA capA allow W1 l1 (HA.out.below hb0)).mono ?_;rintro e w1 ⟨rfl,hSA,hb1⟩;replace s2:=kept hb1 (by omega) s2;replace s3:=kept hb1 (by omega) s3;replace s4:=kept hb1 (by omega) s4;replace z0:=kept hb1 (by omega) z0;replace z1:=kept hb1 (by omega) z1;replace z2:=kept hb1 (by omega) z2;replace z3:=kept hb1 (by omega) z3;replace z4:=kept hb1 (by omega) z4;replace o0:=kept hb1 (by omega) o0;replace o1:=kept hb1 (by omega) o1;replace o2:=kept hb1 (by omega) o2;replace o3:=kept hb1 (by omega) o3;replace o4:=kept hb1 (by omega) o4;have f1:∀ i,w1.frozen? ⟨w.heap.size + 1,i,none⟩=false:=fun i=>kS hb1 (by omega) (hfr i).1;have f2:∀ i,w1.frozen? ⟨w.heap.size + 1 + 1,i,none⟩=false:=fun i=>kS hb1 (by omega) (hfr i).2;have hB1:Below w.heap.size w w1:=hb0.trans (hb1.mono (by omega));have hs1:w.heap.size + 3≤w1.heap.size:=by have:=hb1.size; omega
 obtain ⟨W2,hW2⟩:∃ W2,W2=((w1.setCell ⟨w.heap.size + 1 + 1,1,none⟩ (.slice (some ⟨W1.heap.size,0,none⟩) allow.length allow.length)).setCell ⟨w.heap.size + 1 + 1,2,none⟩ (.string over)).setCell ⟨w.heap.size + 1 + 1,3,none⟩ (.string name):=⟨_,rfl⟩;have HB2:Hid (Below w.heap.size w W2):=by show Below _ _ _; rw [hW2]; exact ((hB1.setCell (p:=⟨w.heap.size + 1 + 1,1,none⟩) (by simp; omega) _).setCell (p:=⟨w.heap.size + 1 + 1,2,none⟩) (by simp; omega) _).setCell (p:=⟨w.heap.size + 1 + 1,3,none⟩) (by simp; omega) _
 have hne:∀ b off,(some ⟨W1.heap.size,0,none⟩:Option Addr)=some ⟨b,off,none⟩→w.heap.size + 1 + 1 ≠ b:=fun b off e=>by injection e with e; injection e with e1 e2; omega
 have HS2:Hid (fV W2 (some ⟨W1.heap.size,0,none⟩) allow):=by show fV _ _ _; rw [hW2]; exact ((hSA.set hne).set hne).set hne
 have hs2:w.heap.size + 3≤W2.heap.size:=by rw [hW2]; simp only [World.size_setCell]; omega
 clear hSA hb1 hB1 hb0 hfr HA;go_wp2_with fail;rw [← hW2];have S4:W2.cell? ⟨w.heap.size,4,none⟩=some (.slice adK kids.length capK):=by rw [hW2,dZ (by omega),dZ (by omega),dZ (by omega)]; exact s4
 have Z0:W2.cell? ⟨w.heap.size + 1,0,none⟩=some (.int .i64 0):=by rw [hW2,dZ (by omega),dZ (by omega),dZ (by omega)]; exact z0
 have Z1:W2.cell? ⟨w.heap.size + 1,1,none⟩=some (.slice none 0 0):=by rw [hW2,dZ (by omega),dZ (by omega),dZ (by omega)]; exact z1
 have Z2:W2.cell? ⟨w.heap.size + 1,2,none⟩=some (.string ⟨#[]⟩):=by rw [hW2,dZ (by omega),dZ (by omega),dZ (by omega)]; exact z2
 have Z3:W2.cell? ⟨w.heap.size + 1,3,none⟩=some (.string ⟨#[]⟩):=by rw [hW2,dZ (by omega),dZ (by omega),dZ (by omega)]; exact z3
 have Z4:W2.cell? ⟨w.heap.size + 1,4,none⟩=some (.slice none 0 0):=by rw [hW2,dZ (by omega),dZ (by omega),dZ (by omega)]; exact z4
 have O0:W2.cell? ⟨w.heap.size + 1 + 1,0,none⟩=some (.int .i64 kind):=by rw [hW2,fu (by omega),fu (by omega),fu (by omega)]; exact o0
 have O1:W2.cell? ⟨w.heap.size + 1 + 1,1,none⟩=some (.slice (some ⟨W1.heap.size,0,none⟩) allow.length allow.length):=by rw [hW2,fu (by omega),fu (by omega)]; exact nC o1
 have O2:W2.cell? ⟨w.heap.size + 1 + 1,2,none⟩=some (.string over):=by rw [hW2,fu (by omega)]; exact nC (by rw [fu (by omega)]; exact o2)
 have O3:W2.cell? ⟨w.heap.size + 1 + 1,3,none⟩=some (.string name):=by rw [hW2]; exact nC (by rw [fu (by omega),fu (by omega)]; exact o3)
 have O4:W2.cell? ⟨w.heap.size + 1 + 1,4,none⟩=some (.slice none 0 0):=by rw [hW2,fu (by omega),fu (by omega),fu (by omega)]; exact o4
 have F1:∀ i,W2.frozen? ⟨w.heap.size + 1,i,none⟩=false:=fun i=>by rw [hW2]; simpa using f1 i
 have F2:∀ i,W2.frozen? ⟨w.heap.size + 1 + 1,i,none⟩=false:=fun i=>by rw [hW2]; simpa using f2 i
 clear hW2 s2 s3 s4 z0 z1 z2 z3 z4 o0 o1 o2 o3 o4 f1 f2;refine (yI adK capK kids W2 l2 (HK.out.below HB2.out)).mono ?_;rintro e w2 ⟨rfl,hSK,hb2⟩;replace S4:=kept hb2 (by omega) S4;replace Z0:=kept hb2 (by omega) Z0;replace Z1:=kept hb2 (by omega) Z1;replace Z2:=kept hb2 (by omega) Z2;replace Z3:=kept hb2 (by omega) Z3;replace Z4:=kept hb2 (by omega) Z4;replace O0:=kept hb2 (by omega) O0;replace O1:=kept hb2 (by omega) O1;replace O2:=kept hb2 (by omega) O2;replace O3:=kept hb2 (by omega) O3;replace O4:=kept hb2 (by omega) O4;replace F1:∀ i,w2.frozen? ⟨w.heap.size + 1,i,none⟩=false:=fun i=>kS hb2 (by omega) (F1 i);replace F2:∀ i,w2.frozen? ⟨w.heap.size + 1 + 1,i,none⟩=false:=fun i=>kS hb2 (by omega) (F2 i);have HB3:=fK HB2 hb2;have HS3:Hid (fV w2 (some ⟨W1.heap.size,0,none⟩) allow):=HS2.out.below hb2;have HT3:Hid (nA w2 (some ⟨W2.heap.size,0,none⟩) kids):=hSK;have hlt3:w.heap.size + 3≤w2.heap.size:=by have:=hb2.size; omega
 clear hb2 hSK HB2 HS2 HK hne;have hn1:∀ b off,(some ⟨W1.heap.size,0,none⟩:Option Addr)=some ⟨b,off,none⟩→w.heap.size + 1 ≠ b:=fun b off e=>by injection e with e; injection e with e1 e2; omega
 have hn2:∀ b off,(some ⟨W1.heap.size,0,none⟩:Option Addr)=some ⟨b,off,none⟩→w.heap.size + 1 + 1 ≠ b:=fun b off e=>by injection e with e; injection e with e1 e2; omega
 have hk1:∀ b off,(some ⟨W2.heap.size,0,none⟩:Option Addr)=some ⟨b,off,none⟩→w.heap.size + 1 ≠ b:=fun b off e=>by injection e with e; injection e with e1 e2; omega
 have hk2:∀ b off,(some ⟨W2.heap.size,0,none⟩:Option Addr)=some ⟨b,off,none⟩→w.heap.size + 1 + 1 ≠ b:=fun b off e=>by injection e with e; injection e with e1 e2; omega
 have N1:Hid (∀ b off,(some ⟨W1.heap.size,0,none⟩:Option Addr)=some ⟨b,off,none⟩→w.heap.size + 1 ≠ b):=hn1;have N2:Hid (∀ b off,(some ⟨W1.heap.size,0,none⟩:Option Addr)=some ⟨b,off,none⟩→w.heap.size + 1 + 1 ≠ b):=hn2;have N3:Hid (∀ b off,(some ⟨W2.heap.size,0,none⟩:Option Addr)=some ⟨b,off,none⟩→w.heap.size + 1 ≠ b):=hk1;have N4:Hid (∀ b off,(some ⟨W2.heap.size,0,none⟩:Option Addr)=some ⟨b,off,none⟩→w.heap.size + 1 + 1 ≠ b):=hk2;clear hn1 hn2 hk1 hk2;go_wp2;refine bodyPost_ret (v:=.agg #[.int .i64 kind,.slice (some ⟨W1.heap.size,0,none⟩) allow.length allow.length,.string over,.string name,.slice (some ⟨W2.heap.size,0,none⟩) kids.length kids.length]) (by simp [results,Tryz.results140,go_sem, *]) rfl ⟨⟨⟨kind,allow,over,name,kids⟩,some ⟨W1.heap.size,0,none⟩,allow.length,some ⟨W2.heap.size,0,none⟩,kids.length⟩,_,_,rfl,rfl,rfl,rfl,by omega,by omega,⟨?_,?_⟩,rfl,?_⟩
 ·exact (((((HS3.out.set N2.out).set N1.out).set N1.out).set N1.out).set N1.out).set N1.out
 ·exact (((((HT3.out.set N4.out).set N3.out).set N3.out).set N3.out).set N3.out).set N3.out
 ·exact (((((HB3.out.setCell (p:=⟨w.heap.size + 1 + 1,4,none⟩) (by simp; omega) _).setCell (p:=⟨w.heap.size + 1,0,none⟩) (by simp) _).setCell (p:=⟨w.heap.size + 1,1,none⟩) (by simp) _).setCell (p:=⟨w.heap.size + 1,2,none⟩) (by simp) _).setCell (p:=⟨w.heap.size + 1,3,none⟩) (by simp) _).setCell (p:=⟨w.heap.size + 1,4,none⟩) (by simp) _
def ER.row (r:ER):List Value:=[.int .i64 r.e.kind,.slice r.adA r.e.allow.length r.capA,.string r.e.over,.string r.e.name,.slice r.adK r.e.kids.length r.capK]
def kT (rs:List ER):List Value:=rs.flatMap ER.row
theorem qC:∀ rs:List ER,(kT rs).length=rs.length * 5
 | []=>rfl
 | r::rs=>by have:=qC rs; simp only [kT,ER.row,List.flatMap_cons,List.length_append,List.length_cons,List.length_nil] at this ⊢; omega
theorem Af:∀ (rs:List ER) (i:Nat) (h:i < rs.length) (j:Nat),j < 5→(kT rs)[i * 5 + j]?=(rs[i]).row[j]?
 | [],i,h,_,_=>by simp at h
 | r::rs,0,_,j,hj=>by
  simp only [kT,List.flatMap_cons,Nat.zero_mul,Nat.zero_add,List.getElem_cons_zero];rw [List.getElem?_append_left (by simpa [ER.row] using hj)]
 | r::rs,i + 1,h,j,hj=>by
  have:=Af rs i (by simpa using h) j hj;simp only [kT,List.flatMap_cons,List.getElem_cons_succ] at this ⊢;rw [List.getElem?_append_right (by simp [ER.row]; omega),← this];congr 1;simp [ER.row]; omega
theorem Fil.rows {w w':World} {g:Nat} {rs:List ER} (h:Fil w w' g (rs.length * 5) (kT rs)) (hok:∀ r ∈ rs,r.ok w'):dw w' (some ⟨g,0,none⟩) rs:=by
 refine .inr ⟨g,0,rfl,h.lt,fun i hi=>?_,hok⟩;have hl:=qC rs;have key:∀ j,j < 5→w'.cell? ⟨g,0 + i * 5 + j,none⟩=(rs[i]).row[j]?:=fun j hj=>by
  rw [Nat.zero_add,h.done (i * 5 + j) (by omega),← Af rs i hi j hj,List.getElem?_eq_getElem (by omega)]
 exact ⟨key 0 (by omega),key 1 (by omega),key 2 (by omega),key 3 (by omega),key 4 (by omega)⟩
def ER.new (B:Nat) (r:ER):Prop:=∃ gA gK:Nat,r.adA=some ⟨gA,0,none⟩∧r.adK=some ⟨gK,0,none⟩∧B < gA∧B < gK∧r.capA=r.e.allow.length
theorem ER.ok.set {w:World} {r:ER} {g o:Nat} {v:Value} (h:r.ok w) (hn:r.new g):r.ok (w.setCell ⟨g,o,none⟩ v):=by
 obtain ⟨gA,gK,e1,e2,h1,h2,-⟩:=hn;refine ⟨h.1.set fun b off e=>?_,h.2.set fun b off e=>?_⟩
 ·rw [e1] at e; injection e with e; injection e with e3 e4; omega
 ·rw [e2] at e; injection e with e; injection e with e3 e4; omega
theorem Ag (ad:Option Addr) (cap:Nat) (rs:List ER) (w:World) (hlen:rs.length≤1048576) (hs:dw w ad rs) (hl:∀ r ∈ rs,r.e.light) :
  Calls prog 116 #[.slice ad rs.length cap] w fun e w'=>∃ rs':List ER,e=.returned (.slice (some ⟨w.heap.size,0,none⟩) rs'.length rs'.length)∧ah rs'=ah rs∧dw w' (some ⟨w.heap.size,0,none⟩) rs'∧(∀ r ∈ rs',r.capA=r.e.allow.length)∧(∀ r ∈ rs',r.new w.heap.size)∧Below w.heap.size w w':=by
 obtain ⟨inf,z,hi,hz0,hz1,hz2⟩:=tY (t:=166) (n:=5) (b:=88) (by kernel_rfl);have HSL:Hid (dw w ad rs):=hs;have HLI:Hid (∀ r ∈ rs,r.e.light):=hl;clear hs hl;go_enter func116,ntmps116;go_wp2_with (at_make; refine wpList_make_full _ rfl _ _ 105 rfl w.heap.size 166 inf z 5 underlying105 hi hz0 hz1 .i64 .i64 _ _ rs.length rfl rfl rfl rfl (by rw [hz2]; omega) (by unfold maxLen; omega) (Nat.le_refl _) ?_; intro w0 hown0 hgrow0);have F0:Fil w w0 w.heap.size (rs.length * 5) []:=lq hown0 hgrow0;clear hown0 hgrow0 hi hz0 hz1 hz2;go_loopw [4] (fun i wr=>∃ (k:Nat) (qs:List ER),k≤rs.length∧i=.int .i64 k∧Hid (qs.length=k∧ah qs=(ah rs).take k∧(∀ q ∈ qs,q.ok wr∧q.new w.heap.size))∧Fil w wr w.heap.size (rs.length * 5) (kT qs)) (fun i _=>rs.length - (intOf i).toNat);case atStart=>exact ⟨0,[],Nat.zero_le _,rfl,⟨rfl,by simp [ah],(fun q hq=>by cases hq)⟩,F0⟩
 case round =>
  obtain ⟨k,qs,hk,rfl,HQ,F⟩:=hrel;by_cases hlt:k < rs.length
  ·rcases HSL.out.below F.below with rfl | ⟨b,off,rfl,hb,hr,hok⟩
   ·simp at hlt
   obtain ⟨t0,t1,t2,t3,t4⟩:=hr k hlt;have ok:=hok rs[k] (List.getElem_mem hlt);have lg:=HLI.out rs[k] (List.getElem_mem hlt);clear hr hok;go_wp2_with fail;refine (CF rs[k] _ ok lg).mono ?_;rintro e w1 ⟨q,gA,gK,rfl,hqe,hqA,hqK,hgA,hgK,hqok,hqc,hb1⟩;have F1:=F.later hb1;have fz:=F1.free;obtain ⟨v0,u0⟩:=Option.isSome_iff_exists.mp (F1.there (k * 5) (by omega));obtain ⟨v1,u1⟩:=Option.isSome_iff_exists.mp (F1.there (k * 5 + 1) (by omega));obtain ⟨v2,u2⟩:=Option.isSome_iff_exists.mp (F1.there (k * 5 + 2) (by omega));obtain ⟨v3,u3⟩:=Option.isSome_iff_exists.mp (F1.there (k * 5 + 3) (by omega));obtain ⟨v4,u4⟩:=Option.isSome_iff_exists.mp (F1.there (k * 5 + 4) (by omega));have hpl:(kT qs).length=k * 5:=by rw [qC,HQ.out.1]
   have F2:=((((F1.put (.int .i64 q.e.kind) (o:=k * 5) hpl.symm (by omega)).put (.slice q.adA q.e.allow.length q.capA) (o:=k * 5 + 1) (by simp [hpl]) (by omega)).put (.string q.e.over) (o:=k * 5 + 2) (by simp [hpl]) (by omega)).put (.string q.e.name) (o:=k * 5 + 3) (by simp [hpl]) (by omega)).put (.slice q.adK q.e.kids.length q.capK) (o:=k * 5 + 4) (by simp [hpl]) (by omega);have e5:((((kT qs ++ [.int .i64 q.e.kind]) ++ [.slice q.adA q.e.allow.length q.capA]) ++ [.string q.e.over]) ++ [.string q.e.name]) ++ [.slice q.adK q.e.kids.length q.capK]=kT (qs ++ [q]):=by simp [kT,ER.row]
   rw [e5] at F2;obtain ⟨wn,hwn⟩:∃ wn,wn=((((w1.setCell ⟨w.heap.size,k * 5,none⟩ (.int .i64 q.e.kind)).setCell ⟨w.heap.size,k * 5 + 1,none⟩ (.slice q.adA q.e.allow.length q.capA)).setCell ⟨w.heap.size,k * 5 + 2,none⟩ (.string q.e.over)).setCell ⟨w.heap.size,k * 5 + 3,none⟩ (.string q.e.name)).setCell ⟨w.heap.size,k * 5 + 4,none⟩ (.slice q.adK q.e.kids.length q.capK):=⟨_,rfl⟩;have hnew:q.new w.heap.size:=⟨gA,gK,hqA,hqK,by have:=F.lt; omega,by have:=F.lt; omega,hqc⟩;have HQ2:Hid ((qs ++ [q]).length=k + 1∧ah (qs ++ [q])=(ah rs).take (k + 1)∧∀ p ∈ qs ++ [q],p.ok wn∧p.new w.heap.size):=by
    obtain ⟨h1,h2,h3⟩:=HQ.out;refine ⟨by simp [h1],?_,?_⟩
    ·rw [List.take_succ_eq_append_getElem (by rw [aI]; exact hlt),← h2];simp [ah,hqe]
    ·intro p hp;rw [List.mem_append,List.mem_singleton] at hp;have st:∀ p:ER,p.ok w1→p.new w.heap.size→p.ok wn:=fun p h n=>by rw [hwn]; exact ((((h.set n).set n).set n).set n).set n
     rcases hp with hp | rfl
     ·exact ⟨st p ((h3 p hp).1.below hb1) (h3 p hp).2,(h3 p hp).2⟩
     ·exact ⟨st p hqok hnew,hnew⟩
   rw [← hwn] at F2;have HF:Hid (Fil w wn w.heap.size (rs.length * 5) (kT (qs ++ [q]))):=F2;clear F F0 F1 F2 t0 t1 t2 t3 t4 hb1 hpl e5 ok lg HQ hqe hqA hqK hqok hqc hnew;simp only [ER.val];go_wp2;rw [← hwn];go_roundw;case rel=>exact ⟨k + 1,qs ++ [q],by omega,by go_num,HQ2,HF.out⟩
   case measure=>simp [intOf]; omega
  ·obtain rfl:k=rs.length:=by omega
   obtain ⟨h1,h2,h3⟩:=HQ.out;have HQ3:Hid (qs.length=rs.length):=h1;have HE3:Hid (ah qs=ah rs):=by rw [← aI rs,List.take_length] at h2; exact h2
   have HS3:Hid (dw wr (some ⟨w.heap.size,0,none⟩) qs):=by
    rw [← h1] at F;exact F.rows fun r hr=>(h3 r hr).1
   have HB3:Hid (Below w.heap.size w wr):=F.below;have HN3:Hid (∀ r ∈ qs,r.new w.heap.size):=fun r hr=>(h3 r hr).2;have HC3:Hid (∀ r ∈ qs,r.capA=r.e.allow.length):=fun r hr=>(h3 r hr).2.choose_spec.choose_spec.2.2.2.2;clear h1 h2 h3 F F0 HQ;go_wp2;go_ret;exact ⟨qs,by rw [HQ3.out]; rfl,HE3.out,HS3.out,HC3.out,HN3.out,HB3.out⟩
end Go.Proofs.YtdaoiceeidoehaaGreat
