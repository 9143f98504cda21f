/- Contracts of the law's helpers that copy a node and a whole expression: new memory that holds the same. -/
import Derived.Test.YtdmniljjnaebbaaGreatDoorSq
import Derived.Test.YtdmniljjnaebbaaGreatDoorJ7
import Derived.Laws.IdiomStrings
import Derived.Deep.RegionHeld3
import Derived.Deep.QuietTactic
import Derived.BigQuiet
import Derived.WalkSmall
import Derived.WalkSpells
open Go.Proofs.Tryz
set_option maxHeartbeats 80000000
namespace Go.Proofs.YtdmniljjnaebbaaGreatDoor
open Go.ChangeShapes Go.WideShapes Go.ChangeAt Go.RowKit
open Pl
theorem gu.set {w:World} {ad:Option Addr} {xs:List Al} {g o:Nat} {v:Value} (h:gu w ad xs) (hn:∀ b off,ad=some ⟨b,off,none⟩→g ≠ b):gu (w.setCell ⟨g,o,none⟩ v) ad xs:=by
 rcases h with h | ⟨b,off,e,hb,hr⟩
 ·exact .inl h
 ·exact .inr ⟨b,off,e,by simpa using hb,fun i hi=>(hr i hi).same fun o=>eB (hn b off e)⟩
theorem rF.set {w:World} {ad:Option Addr} {zs:List Int} {g o:Nat} {v:Value} (h:rF w ad zs) (hn:∀ b off,ad=some ⟨b,off,none⟩→g ≠ b):rF (w.setCell ⟨g,o,none⟩ v) ad zs:=by
 rcases h with h | ⟨b,off,e,hb,hr⟩
 ·exact .inl h
 ·exact .inr ⟨b,off,e,by simpa using hb,fun i hi=>by rw [eB (hn b off e)]; exact hr i hi⟩
theorem kept {W w1:World} {n o:Nat} {v:Value} (hb:Below W.heap.size W w1) (hn:n < W.heap.size) (h:W.cell? ⟨n,o,none⟩=some v):w1.cell? ⟨n,o,none⟩=some v:=by
 rw [hb.cell (p:=⟨n,o,none⟩) hn]; exact h
theorem l6 {W w1:World} {n o:Nat} (hb:Below W.heap.size W w1) (hn:n < W.heap.size) (h:W.frozen? ⟨n,o,none⟩=false):w1.frozen? ⟨n,o,none⟩=false:=by
 rw [hb.frozen (p:=⟨n,o,none⟩) hn]; exact h
theorem iq (w:World) (x:Obj) (C:Array Value) (t:TypeId) (k:Nat) {v:Value} (h:C[k]?=some v):((w.alloc x).alloc (.cells C t)).cell? ⟨w.heap.size + 1,k,none⟩=some v:=by
 have:=World.cell?_alloc_mark (w.alloc x) C t (0,0) k;rw [World.size_alloc,h] at this;exact this
theorem ku (w:World) (x y:Obj) (C:Array Value) (t:TypeId) (k:Nat) {v:Value} (h:C[k]?=some v):(((w.alloc x).alloc y).alloc (.cells C t)).cell? ⟨w.heap.size + 1 + 1,k,none⟩=some v:=by
 have:=iq (w.alloc x) y C t k h;rw [World.size_alloc] at this;exact this
theorem uV (w:World) (x:Obj) (C:Array Value) (t:TypeId) {k:Nat}:((w.alloc x).alloc (.cells C t)).frozen? ⟨w.heap.size + 1,k,none⟩=false:=by
 have:((w.alloc x).alloc (.cells C t)).frozen? ⟨(w.alloc x).heap.size,k,none⟩=false:=by simp
 rw [World.size_alloc] at this;exact this
theorem Az (w:World) (x y:Obj) (C:Array Value) (t:TypeId) {k:Nat}:(((w.alloc x).alloc y).alloc (.cells C t)).frozen? ⟨w.heap.size + 1 + 1,k,none⟩=false:=by
 have:=uV (w.alloc x) y C t (k:=k);rw [World.size_alloc] at this;exact this
theorem Ej (r:ER) (w:World) (hr:r.ok w) (hl:r.e.light) :
  Calls prog 161 #[r.val] w fun e w'=>∃ (r':ER) (gA gK:Nat),e=.returned r'.val∧r'.e=r.e∧r'.adA=some ⟨gA,0,none⟩∧r'.adK=some ⟨gK,0,none⟩∧w.heap.size≤gA∧w.heap.size≤gK∧r'.ok w'∧r'.capA=r'.e.allow.length∧Below w.heap.size w w':=by
 obtain ⟨⟨kind,allow,over,name,kids⟩,adA,capA,adK,capK⟩:=r;obtain ⟨hA,hK⟩:=hr;obtain ⟨l1,l2⟩:=hl;simp only at hA hK l1 l2;simp only [ER.val];have HA:Hid (gu w adA allow):=hA;have HK:Hid (rF w adK kids):=hK;clear hA hK;go_enter func161,ntmps161;go_wp2_with fail;obtain ⟨W1,hW1⟩:∃ W1,W1=((w.alloc (.cells #[.int .i64 kind,.slice adA allow.length capA,.string over,.string name,.slice adK kids.length capK] 262)).alloc (.cells #[.int .i64 0,.slice none 0 0,.string ⟨#[]⟩,.string ⟨#[]⟩,.slice none 0 0] 190)).alloc (.cells #[.int .i64 kind,.slice none 0 0,.string ⟨#[]⟩,.string ⟨#[]⟩,.slice none 0 0] 190):=⟨_,rfl⟩;rw [← hW1];have hz1:w.heap.size + 3≤W1.heap.size:=by rw [hW1]; simp only [World.size_alloc]; omega
 have hb0:Below w.heap.size w W1:=by rw [hW1]; exact (((Below.refl w.heap.size w).alloc (Nat.le_refl _) _).alloc (by simp) _).alloc (by simp; omega) _
 have bB:Below (w.alloc (.cells #[.int .i64 kind,.slice adA allow.length capA,.string over,.string name,.slice adK kids.length capK] 262)).heap.size (w.alloc (.cells #[.int .i64 kind,.slice adA allow.length capA,.string over,.string name,.slice adK kids.length capK] 262)) W1:=by rw [hW1]; exact ((Below.refl _ _).alloc (Nat.le_refl _) _).alloc (by simp) _
 have bC:Below ((w.alloc (.cells #[.int .i64 kind,.slice adA allow.length capA,.string over,.string name,.slice adK kids.length capK] 262)).alloc (.cells #[.int .i64 0,.slice none 0 0,.string ⟨#[]⟩,.string ⟨#[]⟩,.slice none 0 0] 190)).heap.size ((w.alloc (.cells #[.int .i64 kind,.slice adA allow.length capA,.string over,.string name,.slice adK kids.length capK] 262)).alloc (.cells #[.int .i64 0,.slice none 0 0,.string ⟨#[]⟩,.string ⟨#[]⟩,.slice none 0 0] 190)) W1:=by rw [hW1]; exact (Below.refl _ _).alloc (Nat.le_refl _) _
 have hfr:∀ i,W1.frozen? ⟨w.heap.size + 1,i,none⟩=false∧W1.frozen? ⟨w.heap.size + 1 + 1,i,none⟩=false:=fun i=>⟨l6 bC (by simp) (uV _ _ _ _),by rw [hW1]; exact Az _ _ _ _ _⟩;have s2:W1.cell? ⟨w.heap.size,2,none⟩=some (.string over):=kept bB (by simp) (by simp);have s3:W1.cell? ⟨w.heap.size,3,none⟩=some (.string name):=kept bB (by simp) (by simp);have s4:W1.cell? ⟨w.heap.size,4,none⟩=some (.slice adK kids.length capK):=kept bB (by simp) (by simp);have z0:W1.cell? ⟨w.heap.size + 1,0,none⟩=some (.int .i64 0):=kept bC (by simp) (iq _ _ _ _ _ rfl);have z1:W1.cell? ⟨w.heap.size + 1,1,none⟩=some (.slice none 0 0):=kept bC (by simp) (iq _ _ _ _ _ rfl);have z2:W1.cell? ⟨w.heap.size + 1,2,none⟩=some (.string ⟨#[]⟩):=kept bC (by simp) (iq _ _ _ _ _ rfl);have z3:W1.cell? ⟨w.heap.size + 1,3,none⟩=some (.string ⟨#[]⟩):=kept bC (by simp) (iq _ _ _ _ _ rfl);have z4:W1.cell? ⟨w.heap.size + 1,4,none⟩=some (.slice none 0 0):=kept bC (by simp) (iq _ _ _ _ _ rfl);have o0:W1.cell? ⟨w.heap.size + 1 + 1,0,none⟩=some (.int .i64 kind):=by rw [hW1]; exact ku _ _ _ _ _ _ rfl
 have o1:W1.cell? ⟨w.heap.size + 1 + 1,1,none⟩=some (.slice none 0 0):=by rw [hW1]; exact ku _ _ _ _ _ _ rfl
 have o2:W1.cell? ⟨w.heap.size + 1 + 1,2,none⟩=some (.string ⟨#[]⟩):=by rw [hW1]; exact ku _ _ _ _ _ _ rfl
 have o3:W1.cell? ⟨w.heap.size + 1 + 1,3,none⟩=some (.string ⟨#[]⟩):=by rw [hW1]; exact ku _ _ _ _ _ _ rfl
 have o4:W1.cell? ⟨w.heap.size + 1 + 1,4,none⟩=some (.slice none 0 0):=by rw [hW1]; exact ku _ _ _ _ _ _ rfl
 clear hW1 bB bC;refine (wm adA capA allow W1 l1 (HA.out.below hb0)).mono ?_;rintro e w1 ⟨rfl,hSA,hb1⟩;replace s2:=kept hb1 (by omega) s2;replace s3:=kept hb1 (by omega) s3;replace s4:=kept hb1 (by omega) s4;replace z0:=kept hb1 (by omega) z0;replace z1:=kept hb1 (by omega) z1;replace z2:=kept hb1 (by omega) z2;replace z3:=kept hb1 (by omega) z3;replace z4:=kept hb1 (by omega) z4;replace o0:=kept hb1 (by omega) o0;replace o1:=kept hb1 (by omega) o1;replace o2:=kept hb1 (by omega) o2;replace o3:=kept hb1 (by omega) o3;replace o4:=kept hb1 (by omega) o4;have f1:∀ i,w1.frozen? ⟨w.heap.size + 1,i,none⟩=false:=fun i=>l6 hb1 (by omega) (hfr i).1;have f2:∀ i,w1.frozen? ⟨w.heap.size + 1 + 1,i,none⟩=false:=fun i=>l6 hb1 (by omega) (hfr i).2;have hB1:Below w.heap.size w w1:=hb0.trans (hb1.mono (by omega));have hs1:w.heap.size + 3≤w1.heap.size:=by have:=hb1.size; omega
 obtain ⟨W2,hW2⟩:∃ W2,W2=((w1.setCell ⟨w.heap.size + 1 + 1,1,none⟩ (.slice (some ⟨W1.heap.size,0,none⟩) allow.length allow.length)).setCell ⟨w.heap.size + 1 + 1,2,none⟩ (.string over)).setCell ⟨w.heap.size + 1 + 1,3,none⟩ (.string name):=⟨_,rfl⟩;have HB2:Hid (Below w.heap.size w W2):=by show Below _ _ _; rw [hW2]; exact ((hB1.setCell (p:=⟨w.heap.size + 1 + 1,1,none⟩) (by simp; omega) _).setCell (p:=⟨w.heap.size + 1 + 1,2,none⟩) (by simp; omega) _).setCell (p:=⟨w.heap.size + 1 + 1,3,none⟩) (by simp; omega) _
 have hne:∀ b off,(some ⟨W1.heap.size,0,none⟩:Option Addr)=some ⟨b,off,none⟩→w.heap.size + 1 + 1 ≠ b:=fun b off e=>by injection e with e; injection e with e1 e2; omega
 have HS2:Hid (gu W2 (some ⟨W1.heap.size,0,none⟩) allow):=by show gu _ _ _; rw [hW2]; exact ((hSA.set hne).set hne).set hne
 have hs2:w.heap.size + 3≤W2.heap.size:=by rw [hW2]; simp only [World.size_setCell]; omega
 clear hSA hb1 hB1 hb0 hfr HA;go_wp2_with fail;rw [← hW2];have S4:W2.cell? ⟨w.heap.size,4,none⟩=some (.slice adK kids.length capK):=by rw [hW2,eB (by omega),eB (by omega),eB (by omega)]; exact s4
 have Z0:W2.cell? ⟨w.heap.size + 1,0,none⟩=some (.int .i64 0):=by rw [hW2,eB (by omega),eB (by omega),eB (by omega)]; exact z0
 have Z1:W2.cell? ⟨w.heap.size + 1,1,none⟩=some (.slice none 0 0):=by rw [hW2,eB (by omega),eB (by omega),eB (by omega)]; exact z1
 have Z2:W2.cell? ⟨w.heap.size + 1,2,none⟩=some (.string ⟨#[]⟩):=by rw [hW2,eB (by omega),eB (by omega),eB (by omega)]; exact z2
 have Z3:W2.cell? ⟨w.heap.size + 1,3,none⟩=some (.string ⟨#[]⟩):=by rw [hW2,eB (by omega),eB (by omega),eB (by omega)]; exact z3
 have Z4:W2.cell? ⟨w.heap.size + 1,4,none⟩=some (.slice none 0 0):=by rw [hW2,eB (by omega),eB (by omega),eB (by omega)]; exact z4
 have O0:W2.cell? ⟨w.heap.size + 1 + 1,0,none⟩=some (.int .i64 kind):=by rw [hW2,fG (by omega),fG (by omega),fG (by omega)]; exact o0
 have O1:W2.cell? ⟨w.heap.size + 1 + 1,1,none⟩=some (.slice (some ⟨W1.heap.size,0,none⟩) allow.length allow.length):=by rw [hW2,fG (by omega),fG (by omega)]; exact oO o1
 have O2:W2.cell? ⟨w.heap.size + 1 + 1,2,none⟩=some (.string over):=by rw [hW2,fG (by omega)]; exact oO (by rw [fG (by omega)]; exact o2)
 have O3:W2.cell? ⟨w.heap.size + 1 + 1,3,none⟩=some (.string name):=by rw [hW2]; exact oO (by rw [fG (by omega),fG (by omega)]; exact o3)
 have O4:W2.cell? ⟨w.heap.size + 1 + 1,4,none⟩=some (.slice none 0 0):=by rw [hW2,fG (by omega),fG (by omega),fG (by omega)]; exact o4
 have F1:∀ i,W2.frozen? ⟨w.heap.size + 1,i,none⟩=false:=fun i=>by rw [hW2]; simpa using f1 i
 have F2:∀ i,W2.frozen? ⟨w.heap.size + 1 + 1,i,none⟩=false:=fun i=>by rw [hW2]; simpa using f2 i
 clear hW2 s2 s3 s4 z0 z1 z2 z3 z4 o0 o1 o2 o3 o4 f1 f2;refine (Ay adK capK kids W2 l2 (HK.out.below HB2.out)).mono ?_;rintro e w2 ⟨rfl,hSK,hb2⟩;replace S4:=kept hb2 (by omega) S4;replace Z0:=kept hb2 (by omega) Z0;replace Z1:=kept hb2 (by omega) Z1;replace Z2:=kept hb2 (by omega) Z2;replace Z3:=kept hb2 (by omega) Z3;replace Z4:=kept hb2 (by omega) Z4;replace O0:=kept hb2 (by omega) O0;replace O1:=kept hb2 (by omega) O1;replace O2:=kept hb2 (by omega) O2;replace O3:=kept hb2 (by omega) O3;replace O4:=kept hb2 (by omega) O4;replace F1:∀ i,w2.frozen? ⟨w.heap.size + 1,i,none⟩=false:=fun i=>l6 hb2 (by omega) (F1 i);replace F2:∀ i,w2.frozen? ⟨w.heap.size + 1 + 1,i,none⟩=false:=fun i=>l6 hb2 (by omega) (F2 i);have HB3:=fD HB2 hb2;have HS3:Hid (gu w2 (some ⟨W1.heap.size,0,none⟩) allow):=HS2.out.below hb2;have HT3:Hid (rF w2 (some ⟨W2.heap.size,0,none⟩) kids):=hSK;have hlt3:w.heap.size + 3≤w2.heap.size:=by have:=hb2.size; omega
 clear hb2 hSK HB2 HS2 HK hne;have hn1:∀ b off,(some ⟨W1.heap.size,0,none⟩:Option Addr)=some ⟨b,off,none⟩→w.heap.size + 1 ≠ b:=fun b off e=>by injection e with e; injection e with e1 e2; omega
 have hn2:∀ b off,(some ⟨W1.heap.size,0,none⟩:Option Addr)=some ⟨b,off,none⟩→w.heap.size + 1 + 1 ≠ b:=fun b off e=>by injection e with e; injection e with e1 e2; omega
 have hk1:∀ b off,(some ⟨W2.heap.size,0,none⟩:Option Addr)=some ⟨b,off,none⟩→w.heap.size + 1 ≠ b:=fun b off e=>by injection e with e; injection e with e1 e2; omega
 have hk2:∀ b off,(some ⟨W2.heap.size,0,none⟩:Option Addr)=some ⟨b,off,none⟩→w.heap.size + 1 + 1 ≠ b:=fun b off e=>by injection e with e; injection e with e1 e2; omega
 have N1:Hid (∀ b off,(some ⟨W1.heap.size,0,none⟩:Option Addr)=some ⟨b,off,none⟩→w.heap.size + 1 ≠ b):=hn1;have N2:Hid (∀ b off,(some ⟨W1.heap.size,0,none⟩:Option Addr)=some ⟨b,off,none⟩→w.heap.size + 1 + 1 ≠ b):=hn2;have N3:Hid (∀ b off,(some ⟨W2.heap.size,0,none⟩:Option Addr)=some ⟨b,off,none⟩→w.heap.size + 1 ≠ b):=hk1;have N4:Hid (∀ b off,(some ⟨W2.heap.size,0,none⟩:Option Addr)=some ⟨b,off,none⟩→w.heap.size + 1 + 1 ≠ b):=hk2;clear hn1 hn2 hk1 hk2;go_wp2;refine bodyPost_ret (v:=.agg #[.int .i64 kind,.slice (some ⟨W1.heap.size,0,none⟩) allow.length allow.length,.string over,.string name,.slice (some ⟨W2.heap.size,0,none⟩) kids.length kids.length]) (by simp [results,Tryz.results161,go_sem, *]) rfl ⟨⟨⟨kind,allow,over,name,kids⟩,some ⟨W1.heap.size,0,none⟩,allow.length,some ⟨W2.heap.size,0,none⟩,kids.length⟩,_,_,rfl,rfl,rfl,rfl,by omega,by omega,⟨?_,?_⟩,rfl,?_⟩
 ·exact (((((HS3.out.set N2.out).set N1.out).set N1.out).set N1.out).set N1.out).set N1.out
 ·exact (((((HT3.out.set N4.out).set N3.out).set N3.out).set N3.out).set N3.out).set N3.out
 ·exact (((((HB3.out.setCell (p:=⟨w.heap.size + 1 + 1,4,none⟩) (by simp; omega) _).setCell (p:=⟨w.heap.size + 1,0,none⟩) (by simp) _).setCell (p:=⟨w.heap.size + 1,1,none⟩) (by simp) _).setCell (p:=⟨w.heap.size + 1,2,none⟩) (by simp) _).setCell (p:=⟨w.heap.size + 1,3,none⟩) (by simp) _).setCell (p:=⟨w.heap.size + 1,4,none⟩) (by simp) _
def ER.row (r:ER):List Value:=[.int .i64 r.e.kind,.slice r.adA r.e.allow.length r.capA,.string r.e.over,.string r.e.name,.slice r.adK r.e.kids.length r.capK]
def l7 (rs:List ER):List Value:=rs.flatMap ER.row
theorem rT:∀ rs:List ER,(l7 rs).length=rs.length * 5
 | []=>rfl
 | r::rs=>by have:=rT rs; simp only [l7,ER.row,List.flatMap_cons,List.length_append,List.length_cons,List.length_nil] at this ⊢; omega
theorem Cb:∀ (rs:List ER) (i:Nat) (h:i < rs.length) (j:Nat),j < 5→(l7 rs)[i * 5 + j]?=(rs[i]).row[j]?
 | [],i,h,_,_=>by simp at h
 | r::rs,0,_,j,hj=>by
  simp only [l7,List.flatMap_cons,Nat.zero_mul,Nat.zero_add,List.getElem_cons_zero];rw [List.getElem?_append_left (by simpa [ER.row] using hj)]
 | r::rs,i + 1,h,j,hj=>by
  have:=Cb rs i (by simpa using h) j hj;simp only [l7,List.flatMap_cons,List.getElem_cons_succ] at this ⊢;rw [List.getElem?_append_right (by simp [ER.row]; omega),← this];congr 1;simp [ER.row]; omega
theorem Fil.rows {w w':World} {g:Nat} {rs:List ER} (h:Fil w w' g (rs.length * 5) (l7 rs)) (hok:∀ r ∈ rs,r.ok w'):dZ w' (some ⟨g,0,none⟩) rs:=by
 refine .inr ⟨g,0,rfl,h.lt,fun i hi=>?_,hok⟩;have hl:=rT rs;have key:∀ j,j < 5→w'.cell? ⟨g,0 + i * 5 + j,none⟩=(rs[i]).row[j]?:=fun j hj=>by
  rw [Nat.zero_add,h.done (i * 5 + j) (by omega),← Cb rs i hi j hj,List.getElem?_eq_getElem (by omega)]
 exact ⟨key 0 (by omega),key 1 (by omega),key 2 (by omega),key 3 (by omega),key 4 (by omega)⟩
def ER.new (B:Nat) (r:ER):Prop:=∃ gA gK:Nat,r.adA=some ⟨gA,0,none⟩∧r.adK=some ⟨gK,0,none⟩∧B < gA∧B < gK∧r.capA=r.e.allow.length
theorem ER.ok.set {w:World} {r:ER} {g o:Nat} {v:Value} (h:r.ok w) (hn:r.new g):r.ok (w.setCell ⟨g,o,none⟩ v):=by
 obtain ⟨gA,gK,e1,e2,h1,h2,-⟩:=hn;refine ⟨h.1.set fun b off e=>?_,h.2.set fun b off e=>?_⟩
 ·rw [e1] at e; injection e with e; injection e with e3 e4; omega
 ·rw [e2] at e; injection e with e; injection e with e3 e4; omega
theorem Cc (ad:Option Addr) (cap:Nat) (rs:List ER) (w:World) (hlen:rs.length≤1048576) (hs:dZ w ad rs) (hl:∀ r ∈ rs,r.e.light) :
  Calls prog 119 #[.slice ad rs.length cap] w fun e w'=>∃ rs':List ER,e=.returned (.slice (some ⟨w.heap.size,0,none⟩) rs'.length rs'.length)∧ag rs'=ag rs∧dZ w' (some ⟨w.heap.size,0,none⟩) rs'∧(∀ r ∈ rs',r.capA=r.e.allow.length)∧(∀ r ∈ rs',r.new w.heap.size)∧Below w.heap.size w w':=by
 obtain ⟨inf,z,hi,hz0,hz1,hz2⟩:=vZ (t:=190) (n:=5) (b:=88) (by kernel_rfl);have HSL:Hid (dZ w ad rs):=hs;have HLI:Hid (∀ r ∈ rs,r.e.light):=hl;clear hs hl;go_enter func119,ntmps119;go_wp2_with (at_make; refine wpList_make_full _ rfl _ _ 120 rfl w.heap.size 190 inf z 5 underlying120 hi hz0 hz1 .i64 .i64 _ _ rs.length rfl rfl rfl rfl (by rw [hz2]; omega) (by unfold maxLen; omega) (Nat.le_refl _) ?_; intro w0 hown0 hgrow0);have F0:Fil w w0 w.heap.size (rs.length * 5) []:=mE hown0 hgrow0;clear hown0 hgrow0 hi hz0 hz1 hz2;go_loopw [4] (fun i wr=>∃ (k:Nat) (qs:List ER),k≤rs.length∧i=.int .i64 k∧Hid (qs.length=k∧ag qs=(ag rs).take k∧(∀ q ∈ qs,q.ok wr∧q.new w.heap.size))∧Fil w wr w.heap.size (rs.length * 5) (l7 qs)) (fun i _=>rs.length - (intOf i).toNat);case atStart=>exact ⟨0,[],Nat.zero_le _,rfl,⟨rfl,by simp [ag],(fun q hq=>by cases hq)⟩,F0⟩
 case round =>
  obtain ⟨k,qs,hk,rfl,HQ,F⟩:=hrel;by_cases hlt:k < rs.length
  ·rcases HSL.out.below F.below with rfl | ⟨b,off,rfl,hb,hr,hok⟩
   ·simp at hlt
   obtain ⟨t0,t1,t2,t3,t4⟩:=hr k hlt;have ok:=hok rs[k] (List.getElem_mem hlt);have lg:=HLI.out rs[k] (List.getElem_mem hlt);clear hr hok;go_wp2_with fail;refine (Ej rs[k] _ ok lg).mono ?_;rintro e w1 ⟨q,gA,gK,rfl,hqe,hqA,hqK,hgA,hgK,hqok,hqc,hb1⟩;have F1:=F.later hb1;have fz:=F1.free;obtain ⟨v0,u0⟩:=Option.isSome_iff_exists.mp (F1.there (k * 5) (by omega));obtain ⟨v1,u1⟩:=Option.isSome_iff_exists.mp (F1.there (k * 5 + 1) (by omega));obtain ⟨v2,u2⟩:=Option.isSome_iff_exists.mp (F1.there (k * 5 + 2) (by omega));obtain ⟨v3,u3⟩:=Option.isSome_iff_exists.mp (F1.there (k * 5 + 3) (by omega));obtain ⟨v4,u4⟩:=Option.isSome_iff_exists.mp (F1.there (k * 5 + 4) (by omega));have hpl:(l7 qs).length=k * 5:=by rw [rT,HQ.out.1]
   have F2:=((((F1.put (.int .i64 q.e.kind) (o:=k * 5) hpl.symm (by omega)).put (.slice q.adA q.e.allow.length q.capA) (o:=k * 5 + 1) (by simp [hpl]) (by omega)).put (.string q.e.over) (o:=k * 5 + 2) (by simp [hpl]) (by omega)).put (.string q.e.name) (o:=k * 5 + 3) (by simp [hpl]) (by omega)).put (.slice q.adK q.e.kids.length q.capK) (o:=k * 5 + 4) (by simp [hpl]) (by omega);have e5:((((l7 qs ++ [.int .i64 q.e.kind]) ++ [.slice q.adA q.e.allow.length q.capA]) ++ [.string q.e.over]) ++ [.string q.e.name]) ++ [.slice q.adK q.e.kids.length q.capK]=l7 (qs ++ [q]):=by simp [l7,ER.row]
   rw [e5] at F2;obtain ⟨wn,hwn⟩:∃ wn,wn=((((w1.setCell ⟨w.heap.size,k * 5,none⟩ (.int .i64 q.e.kind)).setCell ⟨w.heap.size,k * 5 + 1,none⟩ (.slice q.adA q.e.allow.length q.capA)).setCell ⟨w.heap.size,k * 5 + 2,none⟩ (.string q.e.over)).setCell ⟨w.heap.size,k * 5 + 3,none⟩ (.string q.e.name)).setCell ⟨w.heap.size,k * 5 + 4,none⟩ (.slice q.adK q.e.kids.length q.capK):=⟨_,rfl⟩;have hnew:q.new w.heap.size:=⟨gA,gK,hqA,hqK,by have:=F.lt; omega,by have:=F.lt; omega,hqc⟩;have HQ2:Hid ((qs ++ [q]).length=k + 1∧ag (qs ++ [q])=(ag rs).take (k + 1)∧∀ p ∈ qs ++ [q],p.ok wn∧p.new w.heap.size):=by
    obtain ⟨h1,h2,h3⟩:=HQ.out;refine ⟨by simp [h1],?_,?_⟩
    ·rw [List.take_succ_eq_append_getElem (by rw [aP]; exact hlt),← h2];simp [ag,hqe]
    ·intro p hp;rw [List.mem_append,List.mem_singleton] at hp;have st:∀ p:ER,p.ok w1→p.new w.heap.size→p.ok wn:=fun p h n=>by rw [hwn]; exact ((((h.set n).set n).set n).set n).set n
     rcases hp with hp | rfl
     ·exact ⟨st p ((h3 p hp).1.below hb1) (h3 p hp).2,(h3 p hp).2⟩
     ·exact ⟨st p hqok hnew,hnew⟩
   rw [← hwn] at F2;have HF:Hid (Fil w wn w.heap.size (rs.length * 5) (l7 (qs ++ [q]))):=F2;clear F F0 F1 F2 t0 t1 t2 t3 t4 hb1 hpl e5 ok lg HQ hqe hqA hqK hqok hqc hnew;simp only [ER.val];go_wp2;rw [← hwn];go_roundw;case rel=>exact ⟨k + 1,qs ++ [q],by omega,by go_num,HQ2,HF.out⟩
   case measure=>simp [intOf]; omega
  ·obtain rfl:k=rs.length:=by omega
   obtain ⟨h1,h2,h3⟩:=HQ.out;have HQ3:Hid (qs.length=rs.length):=h1;have HE3:Hid (ag qs=ag rs):=by rw [← aP rs,List.take_length] at h2; exact h2
   have HS3:Hid (dZ wr (some ⟨w.heap.size,0,none⟩) qs):=by
    rw [← h1] at F;exact F.rows fun r hr=>(h3 r hr).1
   have HB3:Hid (Below w.heap.size w wr):=F.below;have HN3:Hid (∀ r ∈ qs,r.new w.heap.size):=fun r hr=>(h3 r hr).2;have HC3:Hid (∀ r ∈ qs,r.capA=r.e.allow.length):=fun r hr=>(h3 r hr).2.choose_spec.choose_spec.2.2.2.2;clear h1 h2 h3 F F0 HQ;go_wp2;go_ret;exact ⟨qs,by rw [HQ3.out]; rfl,HE3.out,HS3.out,HC3.out,HN3.out,HB3.out⟩
theorem yo (ad ad':Option Addr) (cap cap':Nat) (zs:List Int) (w:World) (hlen:zs.length≤maxLen) (hs:rF w ad zs) (hs':rF w ad' zs) :
  Calls prog 207 #[.slice ad zs.length cap,.slice ad' zs.length cap'] w fun e w'=>e=.returned (.bool true)∧Below w.heap.size w w':=by
 unfold maxLen at hlen;go_enter func207,ntmps207;go_wp2;go_loopw [5] (fun i wr=>∃ k:Nat,k≤zs.length∧i=.int .i64 k∧Below w.heap.size w wr) (fun i _=>zs.length - (intOf i).toNat);case atStart=>exact ⟨0,Nat.zero_le _,rfl,Below.refl _ _⟩
 case round =>
  obtain ⟨k,hk,rfl,hB⟩:=hrel;by_cases hlt:k < zs.length
  ·rcases hs.below hB with rfl | ⟨b,off,rfl,hb,hr⟩
   ·simp at hlt
   rcases hs'.below hB with rfl | ⟨b',off',rfl,hb',hr'⟩
   ·simp at hlt
   have t0:=hr k hlt;have q0:=hr' k hlt;have hk1:=bq k;have hk2:(k:Int) < (zs.length:Int):=by omega
   clear hr hr' hs hs';go_wp2_with fail;go_quiet (fail);go_wp2;go_roundw;case rel=>exact ⟨k + 1,by omega,by go_num,below_drewN hB _⟩
   case measure=>simp [intOf]; omega
  ·go_wp2;go_ret;exact ⟨rfl,hB⟩
theorem wu (t s:ByteArray) (w:World) :
  Calls prog 217 #[.agg #[.string t,.string s],.agg #[.string t,.string s]] w fun e w'=>e=.returned (.bool true)∧Below w.heap.size w w':=by
 go_enter func217,ntmps217;go_wp2;go_ret;exact ⟨rfl,((Below.refl w.heap.size w).alloc (Nat.le_refl _) _).alloc (by simp) _⟩
theorem Jz {w W w':World} {b b' o o':Nat} {x0 x1 y0 y1:Value} (h:W.cell? ⟨b,o,none⟩=some x0∧W.cell? ⟨b,o + 1,none⟩=some x1∧W.cell? ⟨b',o',none⟩=some y0∧W.cell? ⟨b',o' + 1,none⟩=some y1∧b < W.heap.size∧b' < W.heap.size∧Below w.heap.size w W) (hb:Below W.heap.size W w') :
  w'.cell? ⟨b,o,none⟩=some x0∧w'.cell? ⟨b,o + 1,none⟩=some x1∧w'.cell? ⟨b',o',none⟩=some y0∧w'.cell? ⟨b',o' + 1,none⟩=some y1∧b < w'.heap.size∧b' < w'.heap.size∧Below w.heap.size w w':=by
 obtain ⟨h0,h1,h2,h3,l,l',hB⟩:=h;exact ⟨kept hb l h0,kept hb l h1,kept hb l' h2,kept hb l' h3,Nat.lt_of_lt_of_le l hb.size,Nat.lt_of_lt_of_le l' hb.size,hB.trans (hb.mono hB.size)⟩
theorem uE (ad ad':Option Addr) (cap cap':Nat) (xs:List Al) (w:World) (hlen:xs.length≤maxLen) (hs:gu w ad xs) (hs':gu w ad' xs) :
  Calls prog 206 #[.slice ad xs.length cap,.slice ad' xs.length cap'] w fun e w'=>e=.returned (.bool true)∧Below w.heap.size w w':=by
 unfold maxLen at hlen;go_enter func206,ntmps206;go_wp2;go_loopw [5] (fun i wr=>∃ k:Nat,k≤xs.length∧i=.int .i64 k∧Below w.heap.size w wr) (fun i _=>xs.length - (intOf i).toNat);case atStart=>exact ⟨0,Nat.zero_le _,rfl,Below.refl _ _⟩
 case round =>
  obtain ⟨k,hk,rfl,hB⟩:=hrel;by_cases hlt:k < xs.length
  ·rcases hs.below hB with rfl | ⟨b,off,rfl,hb,hr⟩
   ·simp at hlt
   rcases hs'.below hB with rfl | ⟨b',off',rfl,hb',hr'⟩
   ·simp at hlt
   obtain ⟨t0,t1⟩:=hr k hlt;obtain ⟨q0,q1⟩:=hr' k hlt;have hk1:=bq k;have hk2:(k:Int) < (xs.length:Int):=by omega
   clear hr hr' hs hs';go_wp2_with fail
   go_region_held3 (fun w'=>w'.cell? ⟨b,off + k * 2,none⟩=some (.string xs[k].t)∧w'.cell? ⟨b,off + k * 2 + 1,none⟩=some (.string xs[k].s)∧w'.cell? ⟨b',off' + k * 2,none⟩=some (.string xs[k].t)∧w'.cell? ⟨b',off' + k * 2 + 1,none⟩=some (.string xs[k].s)∧b < w'.heap.size∧b' < w'.heap.size∧Below w.heap.size w w')
    (first | assumption | exact Jz (by assumption) hbx | exact ⟨t0,t1,q0,q1,hb,hb',hB.drew⟩)
    (first | (go_at_call 217; refine (wu _ _ _).mono ?_; rintro e w' ⟨rfl,hbx⟩))
   rename_i hH;obtain ⟨-,-,-,-,-,-,gB⟩:=hH;clear t0 t1 q0 q1 hB hb hb';go_wp2;go_roundw;case rel=>exact ⟨k + 1,by omega,by go_num,gB⟩
   case measure=>simp [intOf]; omega
  ·go_wp2;go_ret;exact ⟨rfl,hB⟩
theorem Ce (r r':ER) (w:World) (he:r'.e=r.e) (hr:r.ok w) (hr':r'.ok w) (hf:r.e.allow.length≤maxLen) (hg:r.e.kids.length≤maxLen) :
  Calls prog 184 #[r.val,r'.val] w fun e w'=>e=.returned (.bool true)∧Below w.heap.size w w':=by
 obtain ⟨⟨kind,allow,over,name,kids⟩,adA,capA,adK,capK⟩:=r;obtain ⟨e',adA',capA',adK',capK'⟩:=r';simp only at he;subst he;obtain ⟨hA,hK⟩:=hr;obtain ⟨hA',hK'⟩:=hr';simp only at hA hK hA' hK' hf hg;simp only [ER.val];obtain ⟨W1,hW1⟩:∃ W1,W1=(w.alloc (.cells #[.int .i64 kind,.slice adA allow.length capA,.string over,.string name,.slice adK kids.length capK] 190)).alloc (.cells #[.int .i64 kind,.slice adA' allow.length capA',.string over,.string name,.slice adK' kids.length capK'] 190):=⟨_,rfl⟩;have hb0:Below w.heap.size w W1:=by rw [hW1]; exact ((Below.refl w.heap.size w).alloc (Nat.le_refl _) _).alloc (by simp) _
 have bA:Below (w.alloc (.cells #[.int .i64 kind,.slice adA allow.length capA,.string over,.string name,.slice adK kids.length capK] 190)).heap.size (w.alloc (.cells #[.int .i64 kind,.slice adA allow.length capA,.string over,.string name,.slice adK kids.length capK] 190)) W1:=by rw [hW1]; exact (Below.refl _ _).alloc (Nat.le_refl _) _
 have hz1:w.heap.size + 2≤W1.heap.size:=by rw [hW1]; simp only [World.size_alloc]; omega
 have s2:W1.cell? ⟨w.heap.size,2,none⟩=some (.string over):=kept bA (by simp) (by simp);have s3:W1.cell? ⟨w.heap.size,3,none⟩=some (.string name):=kept bA (by simp) (by simp);have s4:W1.cell? ⟨w.heap.size,4,none⟩=some (.slice adK kids.length capK):=kept bA (by simp) (by simp);have o2:W1.cell? ⟨w.heap.size + 1,2,none⟩=some (.string over):=by rw [hW1]; exact iq _ _ _ _ _ rfl
 have o3:W1.cell? ⟨w.heap.size + 1,3,none⟩=some (.string name):=by rw [hW1]; exact iq _ _ _ _ _ rfl
 have o4:W1.cell? ⟨w.heap.size + 1,4,none⟩=some (.slice adK' kids.length capK'):=by rw [hW1]; exact iq _ _ _ _ _ rfl
 go_enter func184,ntmps184;go_wp2_with fail;rw [← hW1];refine (uE adA adA' capA capA' allow W1 hf (hA.below hb0) (hA'.below hb0)).mono ?_;rintro e w1 ⟨rfl,hb1⟩;replace s2:=kept hb1 (by omega) s2;replace o2:=kept hb1 (by omega) o2;replace s3:=kept hb1 (by omega) s3;replace o3:=kept hb1 (by omega) o3;replace s4:=kept hb1 (by omega) s4;replace o4:=kept hb1 (by omega) o4;have HB1:Hid (Below w.heap.size w w1):=hb0.trans (hb1.mono (by omega));clear hb1 hb0 bA hW1 hA hA';go_wp2_with fail;refine (yo adK adK' capK capK' kids w1 hg (hK.below HB1.out) (hK'.below HB1.out)).mono ?_;rintro e w2 ⟨rfl,hb2⟩;have HB2:=fD HB1 hb2;clear hb2;go_wp2;go_ret;exact ⟨rfl,HB2.out⟩
theorem MQ {wr W w':World} {b b' o o':Nat} {x0 x1 x2 x3 x4 y0 y1 y2 y3 y4:Value} (h:W.cell? ⟨b,o,none⟩=some x0∧W.cell? ⟨b,o + 1,none⟩=some x1∧W.cell? ⟨b,o + 2,none⟩=some x2∧W.cell? ⟨b,o + 3,none⟩=some x3∧W.cell? ⟨b,o + 4,none⟩=some x4∧W.cell? ⟨b',o',none⟩=some y0∧W.cell? ⟨b',o' + 1,none⟩=some y1∧W.cell? ⟨b',o' + 2,none⟩=some y2∧W.cell? ⟨b',o' + 3,none⟩=some y3∧W.cell? ⟨b',o' + 4,none⟩=some y4∧b < W.heap.size∧b' < W.heap.size∧Below wr.heap.size wr W) (hb:Below W.heap.size W w'):w'.cell? ⟨b,o,none⟩=some x0∧w'.cell? ⟨b,o + 1,none⟩=some x1∧w'.cell? ⟨b,o + 2,none⟩=some x2∧w'.cell? ⟨b,o + 3,none⟩=some x3∧w'.cell? ⟨b,o + 4,none⟩=some x4∧w'.cell? ⟨b',o',none⟩=some y0∧w'.cell? ⟨b',o' + 1,none⟩=some y1∧w'.cell? ⟨b',o' + 2,none⟩=some y2∧w'.cell? ⟨b',o' + 3,none⟩=some y3∧w'.cell? ⟨b',o' + 4,none⟩=some y4∧b < w'.heap.size∧b' < w'.heap.size∧Below wr.heap.size wr w':=by
 obtain ⟨h0,h1,h2,h3,h4,k0,k1,k2,k3,k4,l,l',hB⟩:=h;exact ⟨kept hb l h0,kept hb l h1,kept hb l h2,kept hb l h3,kept hb l h4,kept hb l' k0,kept hb l' k1,kept hb l' k2,kept hb l' k3,kept hb l' k4,Nat.lt_of_lt_of_le l hb.size,Nat.lt_of_lt_of_le l' hb.size,hB.trans (hb.mono hB.size)⟩
theorem gy {wr W:World} {b b' o o':Nat} {x0 x1 x2 x3 x4 y0 y1 y2 y3 y4:Value} (h:W.cell? ⟨b,o,none⟩=some x0∧W.cell? ⟨b,o + 1,none⟩=some x1∧W.cell? ⟨b,o + 2,none⟩=some x2∧W.cell? ⟨b,o + 3,none⟩=some x3∧W.cell? ⟨b,o + 4,none⟩=some x4∧W.cell? ⟨b',o',none⟩=some y0∧W.cell? ⟨b',o' + 1,none⟩=some y1∧W.cell? ⟨b',o' + 2,none⟩=some y2∧W.cell? ⟨b',o' + 3,none⟩=some y3∧W.cell? ⟨b',o' + 4,none⟩=some y4∧b < W.heap.size∧b' < W.heap.size∧Below wr.heap.size wr W):Below wr.heap.size wr W:=h.2.2.2.2.2.2.2.2.2.2.2.2
theorem AA (ad ad':Option Addr) (cap cap':Nat) (rs rs':List ER) (w:World) (hlen:rs.length≤1048576) (he:ag rs'=ag rs) (hs:dZ w ad rs) (hs':dZ w ad' rs') (hl:∀ r ∈ rs,r.e.light) :
  Calls prog 149 #[.slice ad rs.length cap,.slice ad' rs'.length cap'] w fun e w'=>e=.returned (.bool true)∧Below w.heap.size w w':=by
 have hll:rs'.length=rs.length:=by rw [← aP,he,aP]
 have HSL:Hid (dZ w ad rs):=hs;have HSM:Hid (dZ w ad' rs'):=hs';have HLI:Hid (∀ r ∈ rs,r.e.light):=hl;have HEE:Hid (ag rs'=ag rs):=he;have HLL:Hid (rs'.length=rs.length):=hll;rw [hll];clear hs hs' hl he hll;go_enter func149,ntmps149;go_wp2;go_loopw [5] (fun i wr=>∃ k:Nat,k≤rs.length∧i=.int .i64 k∧Below w.heap.size w wr) (fun i _=>rs.length - (intOf i).toNat);case atStart=>exact ⟨0,Nat.zero_le _,rfl,Below.refl _ _⟩
 case round =>
  obtain ⟨k,hk,rfl,hB⟩:=hrel;by_cases hlt:k < rs.length
  ·have hlt':k < rs'.length:=by rw [HLL.out]; exact hlt
   rcases HSL.out.below hB with rfl | ⟨b,off,rfl,hb,hr,hok⟩
   ·simp at hlt
   rcases HSM.out.below hB with rfl | ⟨b',off',rfl,hb',hr',hok'⟩
   ·simp at hlt'
   obtain ⟨t0,t1,t2,t3,t4⟩:=hr k hlt;obtain ⟨q0,q1,q2,q3,q4⟩:=hr' k hlt';have HK1:Hid (rs[k].ok wr):=hok rs[k] (List.getElem_mem hlt);have HK2:Hid (rs'[k].ok wr):=hok' rs'[k] (List.getElem_mem hlt');have HK3:Hid (rs'[k].e=rs[k].e):=by
    have h1:(ag rs')[k]?=(ag rs)[k]?:=by rw [HEE.out]
    show _=_;simpa [ag,hlt,hlt'] using h1
   obtain ⟨g1,g2⟩:=HLI.out rs[k] (List.getElem_mem hlt);have hk1:=bq k;have hk2:(k:Int) < (rs.length:Int):=by omega
   have HK4:Hid (rs[k].e.allow.length≤maxLen):=Nat.le_trans g1 (by decide);have HK5:Hid (rs[k].e.kids.length≤maxLen):=Nat.le_trans g2 (by decide);clear hr hr' hok hok' g1 g2;go_wp2_with fail
   go_region_held3 (fun w'=>w'.cell? ⟨b,off + k * 5,none⟩=some (.int .i64 rs[k].e.kind)∧w'.cell? ⟨b,off + k * 5 + 1,none⟩=some (.slice rs[k].adA rs[k].e.allow.length rs[k].capA)∧w'.cell? ⟨b,off + k * 5 + 2,none⟩=some (.string rs[k].e.over)∧w'.cell? ⟨b,off + k * 5 + 3,none⟩=some (.string rs[k].e.name)∧w'.cell? ⟨b,off + k * 5 + 4,none⟩=some (.slice rs[k].adK rs[k].e.kids.length rs[k].capK)∧w'.cell? ⟨b',off' + k * 5,none⟩=some (.int .i64 rs'[k].e.kind)∧w'.cell? ⟨b',off' + k * 5 + 1,none⟩=some (.slice rs'[k].adA rs'[k].e.allow.length rs'[k].capA)∧w'.cell? ⟨b',off' + k * 5 + 2,none⟩=some (.string rs'[k].e.over)∧w'.cell? ⟨b',off' + k * 5 + 3,none⟩=some (.string rs'[k].e.name)∧w'.cell? ⟨b',off' + k * 5 + 4,none⟩=some (.slice rs'[k].adK rs'[k].e.kids.length rs'[k].capK)∧b < w'.heap.size∧b' < w'.heap.size∧Below wr.heap.size wr w')
    (first | assumption | exact MQ (by assumption) hbx | exact ⟨t0,t1,t2,t3,t4,q0,q1,q2,q3,q4,hb,hb',(Below.refl _ _).drew⟩)
    (first | (go_at_call 184; refine (Ce rs[k] rs'[k] _ HK3.out (HK1.out.below (gy (by assumption))) (HK2.out.below (gy (by assumption))) HK4.out HK5.out).mono ?_; rintro e w' ⟨rfl,hbx⟩))
   rename_i hH;obtain ⟨-,-,-,-,-,-,-,-,-,-,-,-,gB⟩:=hH;clear t0 t1 t2 t3 t4 q0 q1 q2 q3 q4 hb hb';go_wp2;go_roundw;case rel=>exact ⟨k + 1,by omega,by go_num,hB.trans (gB.mono hB.size)⟩
   case measure=>simp [intOf]; omega
  ·go_wp2;go_ret;exact ⟨rfl,hB⟩
theorem mG (n lo hi:Int) (w:World) :
  Calls prog 69 #[.int .i64 n,.int .i64 lo,.int .i64 hi] w fun e w'=>e=.returned (.bool (decide (lo≤n) && decide (n≤hi)))∧w'=w:=by
 go_enter func69,ntmps69;go_wp2
 all_goals go_ret
 all_goals exact ⟨ae (by simp [*] <;> omega),rfl⟩
set_option maxRecDepth 8000 in
theorem ww (r:ER) (w:World) (hf:r.e.fits) (h1:r.e.kind ≠ 1) :
  Calls prog 150 #[r.val] w fun e w'=>e=.returned (.bool (ax r.e))∧Below w.heap.size w w':=by
 obtain ⟨⟨kind,allow,over,name,kids⟩,adA,capA,adK,capK⟩:=r;obtain ⟨f1,f2,f3,f4,f5⟩:=hf;simp only at f1 f2 f3 f4 f5 h1;simp only [ER.val];unfold maxLen at f4 f5;by_cases h2:kind=2
 ·subst h2;clear h1;go_enter func150,ntmps150;go_wp2_with (go_at_call 105; refine (az _ _ (by assumption)).mono ?_; rintro e w' ⟨rfl,rfl⟩)
  all_goals go_ret
  all_goals exact ⟨ae (by first | (simp [ax, *]; done) | (simp [ax, *]; omega) | (simp [ax, *]; rw [Bool.eq_iff_iff]; simp; done) | (simp [ax, *]; rw [Bool.eq_iff_iff]; simp; omega)),(Below.refl w.heap.size w).alloc (Nat.le_refl _) _⟩
 by_cases h3:kind=3
 ·subst h3;clear h1;go_enter func150,ntmps150;go_wp2_with (go_at_call 105; refine (az _ _ (by assumption)).mono ?_; rintro e w' ⟨rfl,rfl⟩)
  all_goals go_ret
  all_goals exact ⟨ae (by first | (simp [ax, *]; done) | (simp [ax, *]; omega) | (simp [ax, *]; rw [Bool.eq_iff_iff]; simp; done) | (simp [ax, *]; rw [Bool.eq_iff_iff]; simp; omega)),(Below.refl w.heap.size w).alloc (Nat.le_refl _) _⟩
 by_cases h4:kind=4
 ·subst h4;clear h1;go_enter func150,ntmps150;go_wp2_with (go_at_call 105; refine (az _ _ (by assumption)).mono ?_; rintro e w' ⟨rfl,rfl⟩)
  all_goals go_ret
  all_goals exact ⟨ae (by first | (simp [ax, *]; done) | (simp [ax, *]; omega) | (simp [ax, *]; rw [Bool.eq_iff_iff]; simp; done) | (simp [ax, *]; rw [Bool.eq_iff_iff]; simp; omega)),(Below.refl w.heap.size w).alloc (Nat.le_refl _) _⟩
 by_cases h5:kind=5
 ·subst h5;clear h1;go_enter func150,ntmps150;go_wp2_with (go_at_call 105; refine (az _ _ (by assumption)).mono ?_; rintro e w' ⟨rfl,rfl⟩)
  all_goals go_ret
  all_goals exact ⟨ae (by first | (simp [ax, *]; done) | (simp [ax, *]; omega) | (simp [ax, *]; rw [Bool.eq_iff_iff]; simp; done) | (simp [ax, *]; rw [Bool.eq_iff_iff]; simp; omega)),(Below.refl w.heap.size w).alloc (Nat.le_refl _) _⟩
 by_cases h6:kind=6
 ·subst h6;clear h1;go_enter func150,ntmps150;go_wp2_with (go_at_call 105; refine (az _ _ (by assumption)).mono ?_; rintro e w' ⟨rfl,rfl⟩)
  all_goals go_ret
  all_goals exact ⟨ae (by first | (simp [ax, *]; done) | (simp [ax, *]; omega) | (simp [ax, *]; rw [Bool.eq_iff_iff]; simp; done) | (simp [ax, *]; rw [Bool.eq_iff_iff]; simp; omega)),(Below.refl w.heap.size w).alloc (Nat.le_refl _) _⟩
 ·go_enter func150,ntmps150;go_wp2_with (go_at_call 105; refine (az _ _ (by assumption)).mono ?_; rintro e w' ⟨rfl,rfl⟩)
  all_goals go_ret
  all_goals exact ⟨ae (by first | (simp [ax, *]; done) | (simp [ax, *]; omega) | (simp [ax, *]; rw [Bool.eq_iff_iff]; simp; done) | (simp [ax, *]; rw [Bool.eq_iff_iff]; simp; omega)),(Below.refl w.heap.size w).alloc (Nat.le_refl _) _⟩
theorem rU (x y:Al) {v:Bool} (h:iN x y=v) (w:World) :
  (binOp .eql 204 (.agg #[.string x.t,.string x.s]) (.agg #[.string y.t,.string y.s])).run prog w=.ok (.bool v) w:=by
 subst h;go_simp;unfold iN;by_cases h1:x.t.toList=y.t.toList <;> by_cases h2:x.s.toList=y.s.toList <;> simp [h1,h2]
theorem rV {xs:List Al} {j k:Nat} {a:Al} (hjk:j < k) (hj:j < xs.length) (h:iN xs[j] a=true):cz xs k a=true:=by
 unfold cz;rw [List.any_eq_true];refine ⟨xs[j],?_,h⟩;rw [List.mem_take_iff_getElem];exact ⟨j,by omega,rfl⟩
set_option maxRecDepth 8000 in
theorem yt (r:ER) (w:World) (hf:r.e.fits) (hok:r.ok w) (h1:r.e.kind=1) :
  Calls prog 150 #[r.val] w fun e w'=>e=.returned (.bool (ax r.e))∧Below w.heap.size w w':=by
 obtain ⟨⟨kind,allow,over,name,kids⟩,adA,capA,adK,capK⟩:=r;obtain ⟨f1,f2,f3,f4,f5⟩:=hf;obtain ⟨hA,hK⟩:=hok;simp only at f1 f2 f3 f4 f5 h1 hA hK;subst h1;simp only [ER.val];unfold maxLen at f4 f5;by_cases hl:1≤allow.length∧allow.length≤6
 ·obtain ⟨hl1,hl2⟩:=hl;obtain ⟨W,hW⟩:∃ W,W=w.alloc (.cells #[.int .i64 1,.slice adA allow.length capA,.string over,.string name,.slice adK kids.length capK] 190):=⟨_,rfl⟩;have HB0:Hid (Below w.heap.size w W):=by show Below _ _ _; rw [hW]; exact (Below.refl w.heap.size w).alloc (Nat.le_refl _) _
  have hz:w.heap.size < W.heap.size:=by rw [hW]; simp
  have b1:W.cell? ⟨w.heap.size,1,none⟩=some (.slice adA allow.length capA):=by rw [hW]; simp
  have b2:W.cell? ⟨w.heap.size,2,none⟩=some (.string over):=by rw [hW]; simp
  have b3:W.cell? ⟨w.heap.size,3,none⟩=some (.string name):=by rw [hW]; simp
  have HA:Hid (gu W adA allow):=hA.below HB0.out;have HF1:Hid (∀ a ∈ allow,a.fits):=f1;clear hA hK f1;go_enter func150,ntmps150;go_wp2_with fail;rw [← hW];clear hW;go_loopw [4] (fun i wr=>∃ k:Nat,k≤allow.length∧i=.int .i64 k∧Hid (Aw allow k=true)∧Below W.heap.size W wr) (fun i _=>allow.length - (intOf i).toNat);case atStart=>exact ⟨0,Nat.zero_le _,rfl,rfl,Below.refl _ _⟩
  case round =>
   obtain ⟨k,hk,rfl,HU,hB⟩:=hrel;have a1:=kept hB hz b1;have a2:=kept hB hz b2;have a3:=kept hB hz b3;by_cases hlt:k < allow.length
   ·rcases HA.out.below hB with rfl | ⟨b,off,rfl,hb,hr⟩
    ·simp at hlt
    obtain ⟨t0,t1⟩:=hr k hlt;obtain ⟨z0,z1⟩:=HF1.out allow[k] (List.getElem_mem hlt);have HR:Hid (∀ (i:Nat) (h:i < allow.length),MC wr b (off + i * 2) allow[i]):=hr;clear hr;obtain ⟨W1,hW1⟩:∃ W1,W1=wr.alloc (.cells #[.string allow[k].t,.string allow[k].s] 204):=⟨_,rfl⟩;have hal:Below wr.heap.size wr W1:=by rw [hW1]; exact (Below.refl _ _).alloc (Nat.le_refl _) _
    have hBW1:Below W.heap.size wr W1:=hal.mono hB.size;have hsz:w.heap.size < wr.heap.size:=Nat.lt_of_lt_of_le hz hB.size;have hWs:W.heap.size≤W1.heap.size:=Nat.le_trans hB.size hal.size;have c1:=kept hal hsz a1;have c2:=kept hal hsz a2;have c3:=kept hal hsz a3;have hbl:b < W1.heap.size:=Nat.lt_of_lt_of_le hb hal.size;have hgl:wr.heap.size < W1.heap.size:=by rw [hW1]; simp
    have g0:W1.cell? ⟨wr.heap.size,0,none⟩=some (.string allow[k].t):=by rw [hW1]; simp
    have g1:W1.cell? ⟨wr.heap.size,1,none⟩=some (.string allow[k].s):=by rw [hW1]; simp
    have HR1:Hid (∀ (i:Nat) (h:i < allow.length),MC W1 b (off + i * 2) allow[i]):=fun i hi=>(HR.out i hi).same fun o=>hal.cell (p:=⟨b,o,none⟩) hb;cases hn:aO allow[k].t with
    | false =>
     have HN:Hid (Aw allow allow.length=false):=jW allow k hlt (by simp [I9,hn]) _ hlt;go_wp2_with (go_at_call 105; refine (az _ _ (by assumption)).mono ?_; rintro e w' ⟨rfl,rfl⟩);go_ret;exact ⟨ae (by simp [ax,fF,HN.out]),HB0.out.trans ((hB.trans ((Below.refl _ _).alloc hB.size _)).mono HB0.out.size)⟩
    | true =>
     cases he:allow[k].s.toList.isEmpty with
     | true =>
      have HAl:Hid (I9 allow[k]=true):=by show _=_; simp [I9,vW,hn,he]
      go_wp2_with (go_at_call 105; refine (az _ _ (by assumption)).mono ?_; rintro e w' ⟨rfl,rfl⟩);rw [← hW1];go_loopw [6] (fun i w2=>∃ j:Nat,j≤k∧i=.int .i64 j∧Hid (cz allow j allow[k]=false)∧Below W1.heap.size W1 w2) (fun i _=>k - (intOf i).toNat);case atStart=>exact ⟨0,Nat.zero_le _,rfl,lG _ _,Below.refl _ _⟩
      case round =>
       obtain ⟨j,hj,rfl,HP,hB2⟩:=hrel;rename_i w2 _;have d1:=kept hB2 (by omega) c1;have d2:=kept hB2 (by omega) c2;have d3:=kept hB2 (by omega) c3;have p0:=kept hB2 hgl g0;have p1:=kept hB2 hgl g1;by_cases hjk:j < k
       ·obtain ⟨q0,q1⟩:=(HR1.out j (by omega)).same fun o=>hB2.cell (p:=⟨b,o,none⟩) hbl;have hj1:=bq j;have hj2:(j:Int) < (allow.length:Int):=by omega
        cases hq:iN allow[j] allow[k] with
        | true =>
         have HE:=rU allow[j] allow[k] hq;have HN:Hid (Aw allow allow.length=false):=jW allow k hlt (by rw [(rV hjk (by omega) hq)]; simp) _ hlt;go_wp2_with fail;go_quiet (fail);go_wp2;go_ret;exact ⟨ae (by simp [ax,fF,HN.out]),HB0.out.trans ((hB.trans (hBW1.trans (hB2.mono (by omega)))).mono HB0.out.size |> fun h=>below_drewN h _)⟩
        | false =>
         have HE:=rU allow[j] allow[k] hq;have HP2:Hid (cz allow (j + 1) allow[k]=false):=by show _=_; rw [lF _ _ _ (by omega),HP.out,hq]; rfl
         go_wp2_with fail;go_quiet (fail);go_wp2;go_roundw;case rel=>exact ⟨j + 1,by omega,by go_num,HP2,below_drewN hB2 _⟩
         case measure=>simp [intOf]; omega
       ·obtain rfl:j=k:=by omega
        have HU2:Hid (Aw allow (j + 1)=true):=by show _=_; rw [qF _ _ hlt,HU.out,HAl.out,HP.out]; rfl
        go_wp2;go_roundw;case rel=>exact ⟨j + 1,by omega,by go_num,HU2,hB.trans (hBW1.trans (hB2.mono (by omega)))⟩
        case measure=>simp [intOf]; omega
     | false =>
      cases hm:aO allow[k].s with
      | false =>
       have HN:Hid (Aw allow allow.length=false):=jW allow k hlt (by simp [I9,hn,vW,he,hm]) _ hlt;go_wp2_with (go_at_call 105; refine (az _ _ (by assumption)).mono ?_; rintro e w' ⟨rfl,rfl⟩);go_ret;exact ⟨ae (by simp [ax,fF,HN.out]),HB0.out.trans ((hB.trans ((Below.refl _ _).alloc hB.size _)).mono HB0.out.size)⟩
      | true =>
       have HAl:Hid (I9 allow[k]=true):=by show _=_; simp [I9,vW,hn,he,hm]
       go_wp2_with (go_at_call 105; refine (az _ _ (by assumption)).mono ?_; rintro e w' ⟨rfl,rfl⟩);rw [← hW1];go_loopw [6] (fun i w2=>∃ j:Nat,j≤k∧i=.int .i64 j∧Hid (cz allow j allow[k]=false)∧Below W1.heap.size W1 w2) (fun i _=>k - (intOf i).toNat);case atStart=>exact ⟨0,Nat.zero_le _,rfl,lG _ _,Below.refl _ _⟩
       case round =>
        obtain ⟨j,hj,rfl,HP,hB2⟩:=hrel;rename_i w2 _;have d1:=kept hB2 (by omega) c1;have d2:=kept hB2 (by omega) c2;have d3:=kept hB2 (by omega) c3;have p0:=kept hB2 hgl g0;have p1:=kept hB2 hgl g1;by_cases hjk:j < k
        ·obtain ⟨q0,q1⟩:=(HR1.out j (by omega)).same fun o=>hB2.cell (p:=⟨b,o,none⟩) hbl;have hj1:=bq j;have hj2:(j:Int) < (allow.length:Int):=by omega
         cases hq:iN allow[j] allow[k] with
         | true =>
          have HE:=rU allow[j] allow[k] hq;have HN:Hid (Aw allow allow.length=false):=jW allow k hlt (by rw [(rV hjk (by omega) hq)]; simp) _ hlt;go_wp2_with fail;go_quiet (fail);go_wp2;go_ret;exact ⟨ae (by simp [ax,fF,HN.out]),HB0.out.trans ((hB.trans (hBW1.trans (hB2.mono (by omega)))).mono HB0.out.size |> fun h=>below_drewN h _)⟩
         | false =>
          have HE:=rU allow[j] allow[k] hq;have HP2:Hid (cz allow (j + 1) allow[k]=false):=by show _=_; rw [lF _ _ _ (by omega),HP.out,hq]; rfl
          go_wp2_with fail;go_quiet (fail);go_wp2;go_roundw;case rel=>exact ⟨j + 1,by omega,by go_num,HP2,below_drewN hB2 _⟩
          case measure=>simp [intOf]; omega
        ·obtain rfl:j=k:=by omega
         have HU2:Hid (Aw allow (j + 1)=true):=by show _=_; rw [qF _ _ hlt,HU.out,HAl.out,HP.out]; rfl
         go_wp2;go_roundw;case rel=>exact ⟨j + 1,by omega,by go_num,HU2,hB.trans (hBW1.trans (hB2.mono (by omega)))⟩
         case measure=>simp [intOf]; omega
   ·obtain rfl:k=allow.length:=by omega
    have HAW:Hid (fF allow=true):=by show _=_; simp [fF,hl1,hl2,HU.out]
    go_wp2
    all_goals go_ret
    all_goals exact ⟨ae (by first | (simp [ax,HAW.out, *]; done) | (simp [ax,HAW.out, *]; rw [Bool.eq_iff_iff]; simp; done)),HB0.out.trans (hB.mono HB0.out.size)⟩
 ·go_enter func150,ntmps150;go_wp2_with fail
  all_goals go_ret
  all_goals exact ⟨ae (by simp [ax,fF]; omega),(Below.refl w.heap.size w).alloc (Nat.le_refl _) _⟩
theorem AB (r:ER) (w:World) (hf:r.e.fits) (hok:r.ok w) :
  Calls prog 150 #[r.val] w fun e w'=>e=.returned (.bool (ax r.e))∧Below w.heap.size w w':=by
 by_cases h:r.e.kind=1
 ·exact yt r w hf hok h
 ·exact ww r w hf h
end Go.Proofs.YtdmniljjnaebbaaGreatDoor
