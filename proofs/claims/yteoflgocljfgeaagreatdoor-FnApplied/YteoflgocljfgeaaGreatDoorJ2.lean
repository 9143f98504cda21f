/- A region that draws its order, whose last operation waits for all others: each operation leaves a value of its own kind in its own place, whatever has come up. -/
import Derived.Test.YteoflgocljfgeaaGreatDoorJ1
open Go.Proofs.Tryz
set_option maxHeartbeats 80000000
namespace Go.Proofs.YteoflgocljfgeaaGreatDoor
open Go.RowKit
def upd (f:Nat→Value) (i:Nat) (v:Value):Nat→Value:=fun k=>if k=i then v else f k
section
variable {P:Program} {ops:Array Oper} {Q:Exit→Act→World→Prop}
theorem aW (listed:Array Bool) (i j:Nat) (hi:i < listed.size):(listed.setIfInBounds i true).getD j false=if j=i then true else listed.getD j false:=by
 rw [Array.getD_eq_getD_getElem?,Array.getD_eq_getD_getElem?,Array.getElem?_setIfInBounds];by_cases e:i=j
 ·subst e; simp [hi]
 ·simp [e,Ne.symm e]
theorem mX {listed:Array Bool} {i:Nat} (hi:i < listed.size):listed.getD i true=listed.getD i false:=by
 rw [Array.getD_eq_getD_getElem?,Array.getD_eq_getD_getElem?,Array.getElem?_eq_getElem hi]; rfl
def Bj (ops:Array Oper):Bool:=(List.range ops.size).all (fun i=>(ops[i]?.map (fun o=>o.after.all (fun e=>decide (e.on < i)))).getD true)
def vG (ops:Array Oper) (L:Nat):Bool:=(List.range L).all (fun j=>(ops[L]?.map (fun o=>o.after.any (fun e=>e.on == j && Region.binds .any e))).getD false)
theorem qM {ops:Array Oper} (h:Bj ops=true):∀ (i:Nat) (o:Oper),ops[i]?=some o→∀ e ∈ o.after,e.on < i:=by
 intro i o ho e he;rw [Bj,List.all_eq_true] at h;have h1:=h i (by simpa using (Array.getElem?_eq_some_iff.1 ho).1);rw [ho] at h1;simp only [Option.map_some,Option.getD_some,Array.all_eq_true_iff_forall_mem] at h1;simpa using h1 e he
theorem yL {ops:Array Oper} {L:Nat} (h:vG ops L=true):∀ (o:Oper),ops[L]?=some o→∀ j,j < L→∃ e ∈ o.after,e.on=j∧Region.binds .any e=true:=by
 intro o ho j hj;rw [vG,List.all_eq_true] at h;have h1:=h j (by simpa using hj);rw [ho] at h1;simp only [Option.map_some,Option.getD_some] at h1;rw [Array.any_eq_true'] at h1;obtain ⟨e,he,h2⟩:=h1;simp only [Bool.and_eq_true,beq_iff_eq] at h2;exact ⟨e,he,h2.1,h2.2⟩
theorem dZ {id:Nat} {a:Act} {w:World} (L:Nat) (f0:Nat→Value) (F:(Nat→Value)→Act) (V:Nat→Value→World→Prop) (G:World→Prop)
  (hm:P.follows .mixedOrders=true) (hsz:ops.size=L + 1) (hord:Bj ops=true) (hlo:vG ops L=true)
  (h0:a=F f0) (hG0:G w.drew)
  (hstep:∀ i,i < L→∀ o,ops[i]?=some o→∀ f w',G w'→(∀ e ∈ o.after,Region.binds .any e=true→V e.on (f e.on) w') →
   wpOp P ops Q i (fun a' w''=>∃ v,a'=F (upd f i v)∧G w''∧V i v w''∧∀ k u,V k u w'→V k u w'') (F f) w')
  (hfin:∀ o,ops[L]?=some o→∀ f w',G w'→(∀ k,k < L→V k (f k) w')→wpOp P ops Q L (fun a' w''=>Q .normal a' w'') (F f) w') :
  (Code.region id ops true).wp P Q a w:=by
 refine eZ (fun listed a' w'=>listed.size=L + 1∧((listed.getD L false=false∧∃ f,a'=F f∧G w'∧∀ k,k < L→listed.getD k false=true→V k (f k) w') ∨ ((∀ j,j≤L→listed.getD j true=true)∧Q .normal a' w'))) hm ?_ ?_ ?_
 ·refine ⟨by simpa using hsz,Or.inl ⟨?_,_,h0,hG0,fun k _ h=>?_⟩⟩
  ·rw [Array.getD_eq_getD_getElem?,Array.getElem?_replicate]; split <;> rfl
  ·rw [Array.getD_eq_getD_getElem?,Array.getElem?_replicate] at h; split at h <;> cases h
 ·rintro listed a' w' ⟨hs,h⟩ i hi;obtain ⟨hl,o,ho,hpre⟩:=mem_ready.1 hi;have hiL:i < L + 1:=by have:=(Array.getElem?_eq_some_iff.1 ho).1; omega
  rcases h with ⟨hn,f,rfl,hG,hV⟩ | ⟨hall,-⟩
  ·by_cases e:i=L
   ·subst e;have hall:∀ k,k < i→listed.getD k false=true:=fun k hk=>by
     obtain ⟨e,he,rfl,hb⟩:=yL hlo o ho k hk;exact hpre e he hb
    refine wpOp_mono (fun a'' w'' hq=>⟨by simpa using hs,Or.inr ⟨fun j hj=>?_,hq⟩⟩) (hfin o ho f w' hG (fun k hk=>hV k hk (hall k hk)));rw [mX (by simp; omega),aW _ _ _ (by omega)];by_cases e:j=i
    ·simp [e]
    ·rw [if_neg e]; exact hall j (by omega)
   ·refine wpOp_mono ?_ (hstep i (by omega) o ho f w' hG (fun e he hb=>hV e.on (by have:=qM hord i o ho e he; omega) (hpre e he hb)));rintro a'' w'' ⟨v,rfl,hG',hv,hmono⟩;refine ⟨by simpa using hs,Or.inl ⟨?_,_,rfl,hG',fun k hk hkl=>?_⟩⟩
    ·rw [aW _ _ _ (by omega),if_neg (Ne.symm e)]; exact hn
    ·rw [aW _ _ _ (by omega)] at hkl;by_cases ek:k=i
     ·subst ek; simpa [upd] using hv
     ·rw [if_neg ek] at hkl;simp only [upd,if_neg ek];exact hmono _ _ (hV k hk hkl)
  ·rw [hall i (by omega)] at hl; cases hl
 ·rintro listed a' w' ⟨hs,h⟩ hr;rcases h with ⟨hn,-⟩ | ⟨-,hq⟩
  ·have:=vF hr hsz (qM hord) hs L (by omega);rw [mX (by omega)] at this;rw [this] at hn; cases hn
  ·exact hq
theorem fZ {id:Nat} {a:Act} {w:World} (L:Nat) (F:(Nat→Value)→Act) (V:Nat→Value→World→Prop) (G:World→Prop)
  (hm:P.follows .mixedOrders=true) (hsz:ops.size=L + 1) (hord:Bj ops=true) (hlo:vG ops L=true)
  (h0:a=F (fun _=>undef)) (hG0:G w.drew)
  (hstep:∀ i,i < L→∀ o,ops[i]?=some o→∀ f w',G w'→(∀ e ∈ o.after,Region.binds .any e=true→V e.on (f e.on) w') →
   wpOp P ops Q i (fun a' w''=>∃ v,a'=F (upd f i v)∧G w''∧V i v w''∧∀ k u,V k u w'→V k u w'') (F f) w')
  (hfin:∀ o,ops[L]?=some o→∀ f w',G w'→(∀ k,k < L→V k (f k) w')→wpOp P ops Q L (fun a' w''=>Q .normal a' w'') (F f) w') :
  (Code.region id ops true).wp P Q a w :=
 dZ L (fun _=>undef) F V G hm hsz hord hlo h0 hG0 hstep hfin
theorem ax {id:Nat} {a:Act} {w:World} (N:Nat) (f0:Nat→Value) (F:(Nat→Value)→Act) (V:Nat→Value→World→Prop) (G:World→Prop)
  (hm:P.follows .mixedOrders=true) (hsz:ops.size=N) (hord:Bj ops=true)
  (h0:a=F f0) (hG0:G w.drew)
  (hstep:∀ i,i < N→∀ o,ops[i]?=some o→∀ f w',G w'→(∀ e ∈ o.after,Region.binds .any e=true→V e.on (f e.on) w') →
   wpOp P ops Q i (fun a' w''=>∃ v,a'=F (upd f i v)∧G w''∧V i v w''∧∀ k u,V k u w'→V k u w'') (F f) w')
  (hend:∀ f w',G w'→(∀ k,k < N→V k (f k) w')→Q .normal (F f) w') :
  (Code.region id ops true).wp P Q a w:=by
 refine eZ (fun listed a' w'=>listed.size=N∧∃ f,a'=F f∧G w'∧∀ k,k < N→listed.getD k false=true→V k (f k) w') hm ?_ ?_ ?_
 ·refine ⟨by simpa using hsz,_,h0,hG0,fun k _ h=>?_⟩;rw [Array.getD_eq_getD_getElem?,Array.getElem?_replicate] at h; split at h <;> cases h
 ·rintro listed a' w' ⟨hs,f,rfl,hG,hV⟩ i hi;obtain ⟨hl,o,ho,hpre⟩:=mem_ready.1 hi;have hiN:i < N:=by have:=(Array.getElem?_eq_some_iff.1 ho).1; omega
  refine wpOp_mono ?_ (hstep i hiN o ho f w' hG (fun e he hb=>hV e.on (by have:=qM hord i o ho e he; omega) (hpre e he hb)));rintro a'' w'' ⟨v,rfl,hG',hv,hmono⟩;refine ⟨by simpa using hs,_,rfl,hG',fun k hk hkl=>?_⟩;rw [aW _ _ _ (by omega)] at hkl;by_cases ek:k=i
  ·subst ek; simpa [upd] using hv
  ·rw [if_neg ek] at hkl;simp only [upd,if_neg ek];exact hmono _ _ (hV k hk hkl)
 ·rintro listed a' w' ⟨hs,f,rfl,hG,hV⟩ hr;refine hend f w' hG fun k hk=>hV k hk ?_;have:=vF hr hsz (qM hord) hs k hk;rwa [mX (by omega)] at this
end
open Go.ChangeAt Go.ChangeShapes Go.WideShapes Pl
def Strs (w:World) (R g n:Nat):Prop:=g ≠ R∧g < w.heap.size∧∀ i,i < n→∃ s:ByteArray,s.size≤20∧w.cell? ⟨g,i,none⟩=some (.string s)
theorem Strs.only {w w':World} {R g n:Nat} (h:Strs w R g n) (k:Only R w w'):Strs w' R g n :=
 ⟨h.1,Nat.lt_of_lt_of_le h.2.1 k.size,fun i hi=>by obtain ⟨s,hs,hc⟩:=h.2.2 i hi; exact ⟨s,hs,by rw [k.cell h.2.1 h.1]; exact hc⟩⟩
def pO (w:World) (R B g:Nat):Prop:=g ≠ R∧B≤g∧g < w.heap.size∧(∀ o,w.frozen? ⟨g,o,none⟩=false)∧∃ a b:ByteArray,a.size≤20∧b.size≤20∧w.cell? ⟨g,0,none⟩=some (.string a)∧w.cell? ⟨g,1,none⟩=some (.string b)
theorem pO.only {w w':World} {R B g:Nat} (h:pO w R B g) (k:Only R w w'):pO w' R B g:=by
 obtain ⟨h1,h2,h3,h4,a,b,ha,hb,ca,cb⟩:=h;exact ⟨h1,h2,Nat.lt_of_lt_of_le h3 k.size,fun o=>by rw [k.frozen h3 h1]; exact h4 o,a,b,ha,hb,by rw [k.cell h3 h1]; exact ca,by rw [k.cell h3 h1]; exact cb⟩
theorem gm (w:World) (R:Nat) (hR:R < w.heap.size) {t:TypeId} {xs:List ByteArray} (h:xs.all (fun x=>decide (x.size≤20))=true):Strs (w.alloc (.cells (xs.map Value.string).toArray t)) R w.heap.size xs.length:=by
 refine ⟨by omega,by simp,fun i hi=>⟨xs[i],?_,?_⟩⟩
 ·rw [List.all_eq_true] at h;simpa using h xs[i] (List.getElem_mem hi)
 ·simp [hi]
theorem Fz {w:World} {R B:Nat} {t:TypeId} (hR:R < w.heap.size) (hB:B≤w.heap.size):pO (w.alloc (.cells #[.string ⟨#[]⟩,.string ⟨#[]⟩] t)) R B w.heap.size :=
 ⟨by omega,hB,by simp,fun o=>by simp,⟨#[]⟩,⟨#[]⟩,by decide,by decide,by simp,by simp⟩
theorem FB {w:World} {R B g:Nat} {x y:Value} {a b:ByteArray} (h1:g ≠ R) (h2:B≤g) (h3:g < w.heap.size) (h4:∀ o,w.frozen? ⟨g,o,none⟩=false) (hx:w.cell? ⟨g,0,none⟩=some x) (hy:w.cell? ⟨g,1,none⟩=some y) (ha:a.size≤20) (hb:b.size≤20) :
  pO ((w.setCell ⟨g,0,none⟩ (.string a)).setCell ⟨g,1,none⟩ (.string b)) R B g:=by
 have n01:(⟨g,0,none⟩:Addr) ≠ ⟨g,1,none⟩:=by intro e; cases e
 have e1:(w.setCell ⟨g,0,none⟩ (.string a)).cell? ⟨g,1,none⟩=some y:=by
  rw [show (w.setCell ⟨g,0,none⟩ (.string a)).cell? ⟨g,1,none⟩=w.cell? ⟨g,1,none⟩ from by apply World.cell?_setCell_other; exact n01]; exact hy
 refine ⟨h1,h2,by simpa using h3,fun o=>by simpa using h4 o,a,b,ha,hb,?_,?_⟩
 ·rw [show ((w.setCell ⟨g,0,none⟩ (.string a)).setCell ⟨g,1,none⟩ (.string b)).cell? ⟨g,0,none⟩=(w.setCell ⟨g,0,none⟩ (.string a)).cell? ⟨g,0,none⟩ from by apply World.cell?_setCell_other; exact n01.symm];apply World.cell?_setCell_same; exact hx
 ·apply World.cell?_setCell_same; exact e1
theorem Rd.setFar {w:World} {R g o:Nat} {ad:Option Addr} {len cap:Nat} {v:Value} (h:Rd w R ad len cap) (hg:g ≠ R) (hb:0 < len→∀ b off,ad=some ⟨b,off,none⟩→b ≠ g):Rd (w.setCell ⟨g,o,none⟩ v) R ad len cap where
 lt:=by simpa using h.lt
 code:=by
  rw [show (w.setCell ⟨g,o,none⟩ v).cell? ⟨R,0,none⟩=w.cell? ⟨R,0,none⟩ from by apply World.cell?_setCell_other; intro e; exact hg (congrArg Addr.block e)]; exact h.code
 place:=by
  obtain ⟨p,hp,hl⟩:=h.place;exact ⟨p,by rw [show (w.setCell ⟨g,o,none⟩ v).cell? ⟨R,1,none⟩=w.cell? ⟨R,1,none⟩ from by apply World.cell?_setCell_other; intro e; exact hg (congrArg Addr.block e)]; exact hp,hl⟩
 free:=by simpa using h.free
 bytes h0:=by
  obtain ⟨b,off,e,hne,hbl,hc⟩:=h.bytes h0;refine ⟨b,off,e,hne,by simpa using hbl,fun i hi=>?_⟩;obtain ⟨c,c0,c1,hcc⟩:=hc i hi;exact ⟨c,c0,c1,by rw [show (w.setCell ⟨g,o,none⟩ v).cell? ⟨b,off + i,none⟩=w.cell? ⟨b,off + i,none⟩ from by apply World.cell?_setCell_other; intro e2; exact hb h0 b off e (congrArg Addr.block e2).symm]; exact hcc⟩
 small:=h.small
theorem Only.setNew {R g o:Nat} {a b:World} {v:Value} (h:Only R a b) (hg:a.heap.size≤g):Only R a (b.setCell ⟨g,o,none⟩ v) :=
 ⟨h.os,h.tape,h.output,by simpa using h.size,fun i hi hr=>(Below.heap_setCell b ⟨g,o,none⟩ v i (by simp; omega)).trans (h.block i hi hr)⟩
theorem aV (listed:Array Bool) (i j:Nat) (hi:i < listed.size):(listed.setIfInBounds i true).getD j false=if j=i then true else listed.getD j false:=by
 rw [Array.getD_eq_getD_getElem?,Array.getD_eq_getD_getElem?,Array.getElem?_setIfInBounds];by_cases e:i=j
 ·subst e; simp [hi]
 ·simp [e,Ne.symm e]
theorem ae {listed:Array Bool} {i j:Nat} (hi:i < listed.size) (hne:j ≠ i) (h:(listed.setIfInBounds i true).getD j false=true):listed.getD j false=true:=by
 rw [aV listed i j hi,if_neg hne] at h; exact h
theorem af {listed:Array Bool} {i j:Nat} (hi:i < listed.size) (hne:j ≠ i) (h:(listed.setIfInBounds i true).getD j false=false):listed.getD j false=false:=by
 rw [aV listed i j hi,if_neg hne] at h; exact h
theorem Only.alloc {R:Nat} {a b:World} (h:Only R a b) (o:Obj):Only R a (b.alloc o):=h.below ((Below.refl _ _).alloc (Nat.le_refl _) _)
theorem Rd.alloc {w:World} {R:Nat} {ad:Option Addr} {len cap:Nat} (h:Rd w R ad len cap) (o:Obj):Rd (w.alloc o) R ad len cap:=h.below ((Below.refl _ _).alloc (Nat.le_refl _) _)
theorem Kt {w:World} {a:Addr} {v:Value} (h:w.cell? a=some v) (o:Obj):(w.alloc o).cell? a=some v:=cell_later ((Below.refl _ _).alloc (Nat.le_refl _) _) h
def Ob (w:World) (R g:Nat) (a b:ByteArray):Prop:=g ≠ R∧g < w.heap.size∧w.cell? ⟨g,0,none⟩=some (.string a)∧w.cell? ⟨g,1,none⟩=some (.string b)
theorem Ob.only {w w':World} {R g:Nat} {a b:ByteArray} (h:Ob w R g a b) (k:Only R w w'):Ob w' R g a b :=
 ⟨h.1,Nat.lt_of_lt_of_le h.2.1 k.size,by rw [k.cell h.2.1 h.1]; exact h.2.2.1,by rw [k.cell h.2.1 h.1]; exact h.2.2.2⟩
theorem Ob.alloc {w:World} {R g:Nat} {a b:ByteArray} (h:Ob w R g a b) (o:Obj):Ob (w.alloc o) R g a b:=h.only ((Only.refl R w).alloc o)
theorem zU {w:World} {R:Nat} (hR:R < w.heap.size) (t:TypeId) (a b:ByteArray):Ob (w.alloc (.cells #[.string a,.string b] t)) R w.heap.size a b :=
 ⟨by omega,by simp,by simp,by simp⟩
def Ma (w:World) (R n:Nat):Prop:=n ≠ R∧n < w.heap.size∧(∀ o,w.frozen? ⟨n,o,none⟩=false)∧∀ o,o < 6→w.cell? ⟨n,o,none⟩=some (.string ⟨#[]⟩)
theorem Ma.only {w w':World} {R n:Nat} (h:Ma w R n) (k:Only R w w'):Ma w' R n :=
 ⟨h.1,Nat.lt_of_lt_of_le h.2.1 k.size,fun o=>by rw [k.frozen h.2.1 h.1]; exact h.2.2.1 o,fun o ho=>by rw [k.cell h.2.1 h.1]; exact h.2.2.2 o ho⟩
theorem Ku {w:World} {R:Nat} (hR:R < w.heap.size) (t:TypeId):Ma (w.alloc (.cells #[.string ⟨#[]⟩,.string ⟨#[]⟩,.string ⟨#[]⟩,.string ⟨#[]⟩,.string ⟨#[]⟩,.string ⟨#[]⟩] t)) R w.heap.size:=by
 refine ⟨by omega,by simp,fun o=>by simp,fun o ho=>?_⟩;have h6:o=0 ∨ o=1 ∨ o=2 ∨ o=3 ∨ o=4 ∨ o=5:=by omega
 rcases h6 with rfl | rfl | rfl | rfl | rfl | rfl <;> simp
structure Kd where
 s:Value ⊕ Nat ⊕ Nat ⊕ Nat ⊕ Unit ⊕ Unit ⊕ Unit
abbrev Kd.eq (v:Value):Kd:=⟨.inl v⟩
abbrev Kd.strs (n:Nat):Kd:=⟨.inr (.inl n)⟩
abbrev Kd.idx (n:Nat):Kd:=⟨.inr (.inr (.inl n))⟩
abbrev Kd.elt (n:Nat):Kd:=⟨.inr (.inr (.inr (.inl n)))⟩
abbrev Kd.str:Kd:=⟨.inr (.inr (.inr (.inr (.inl ()))))⟩
abbrev Kd.obj:Kd:=⟨.inr (.inr (.inr (.inr (.inr (.inl ())))))⟩
abbrev Kd.tup:Kd:=⟨.inr (.inr (.inr (.inr (.inr (.inr ())))))⟩
def Kd.ok (R:Nat) (w:World) (v:Value):Kd→Prop
 | ⟨.inl u⟩=>v=u
 | ⟨.inr (.inl n)⟩=>∃ g,v=.slice (some ⟨g,0,none⟩) n n∧Strs w R g n
 | ⟨.inr (.inr (.inl n))⟩=>∃ x:Nat,v=.int .i64 (x:Int)∧x < n
 | ⟨.inr (.inr (.inr (.inl n)))⟩=>∃ g x,v=.pointer (some ⟨g,x,none⟩)∧x < n∧Strs w R g n
 | ⟨.inr (.inr (.inr (.inr (.inl _))))⟩=>∃ t:ByteArray,v=.string t∧t.size≤20
 | ⟨.inr (.inr (.inr (.inr (.inr (.inl _)))))⟩=>∃ a b:ByteArray,v=.agg #[.string a,.string b]∧a.size≤20∧b.size≤20
 | ⟨.inr (.inr (.inr (.inr (.inr (.inr _)))))⟩=>∃ a b r c d s:ByteArray,v=.agg #[.string a,.string b,.string r,.string c,.string d,.string s]∧a.size≤20∧b.size≤20∧r.size≤20∧c.size≤20∧d.size≤20∧s.size≤20
theorem Kd.only {R:Nat} {w w':World} {v:Value} (h:Only R w w') (k:Kd) (hk:k.ok R w v):k.ok R w' v:=by
 match k,hk with
 | ⟨.inl _⟩,hk=>exact hk
 | ⟨.inr (.inl _)⟩,hk=>obtain ⟨g,e,hs⟩:=hk; exact ⟨g,e,hs.only h⟩
 | ⟨.inr (.inr (.inl _))⟩,hk=>exact hk
 | ⟨.inr (.inr (.inr (.inl _)))⟩,hk=>obtain ⟨g,x,e,hx,hs⟩:=hk; exact ⟨g,x,e,hx,hs.only h⟩
 | ⟨.inr (.inr (.inr (.inr (.inl _))))⟩,hk=>exact hk
 | ⟨.inr (.inr (.inr (.inr (.inr (.inl _)))))⟩,hk=>exact hk
 | ⟨.inr (.inr (.inr (.inr (.inr (.inr _)))))⟩,hk=>exact hk
def Kv (ks:List Kd) (k:Nat):Kd:=ks.getD k .tup
set_option maxRecDepth 100000
theorem iF {p:Prop} (h:p):Hid p:=h
theorem Da (R:Nat) (w:World) (n:Int) (h:n≤1) :
  Calls prog 65 #[.pointer (some ⟨R,0,none⟩),.int .i64 n] w fun e w'=>e=.returned (.int .i64 0)∧w'=w:=by
 go_enter func65,ntmps65;go_wp2;go_ret;exact ⟨rfl,rfl⟩
theorem fe (R:Nat) (ad:Option Addr) (len cap:Nat) (n:Nat) (w:World) (h:Rd w R ad len cap) (h1:1≤n) (h2:n≤256) :
  Calls prog 65 #[.pointer (some ⟨R,0,none⟩),.int .i64 (n:Int)] w fun e w'=>(∃ x:Nat,e=.returned (.int .i64 (x:Int))∧x < n)∧Rd w' R ad len cap∧Only R w w':=by
 by_cases hn:n=1
 ·subst hn;exact (Da R w 1 (by omega)).mono fun e w' ⟨he,hw⟩=>⟨⟨0,by rw [he]; rfl,by omega⟩,by rw [hw]; exact h,by rw [hw]; exact Only.refl _ _⟩
 ·exact (bD R ad len cap n w h (by omega) (by omega)).mono fun e w' ⟨⟨x,he,h0,h3⟩,hR,hO⟩=>⟨⟨x.toNat,by rw [he,Int.toNat_of_nonneg h0],by omega⟩,hR,hO⟩
def nu (w:World) (R g n m:Nat):Prop:=g ≠ R∧g < w.heap.size∧∀ o,o < n→∃ s:ByteArray,w.cell? ⟨g,o,none⟩=some (.string s)∧s.size≤m
theorem nu.only {w w':World} {R g n m:Nat} (h:nu w R g n m) (k:Only R w w'):nu w' R g n m :=
 ⟨h.1,Nat.lt_of_lt_of_le h.2.1 k.size,fun o ho=>by obtain ⟨s,e,hs⟩:=h.2.2 o ho; exact ⟨s,by rw [k.cell h.2.1 h.1]; exact e,hs⟩⟩
theorem jR (w:World) (R m:Nat) (hR:R < w.heap.size) {t:TypeId} {xs:List ByteArray} (h:xs.all (fun x=>decide (x.size≤m))=true):nu (w.alloc (.cells (xs.map Value.string).toArray t)) R w.heap.size xs.length m:=by
 refine ⟨by omega,by simp,fun o ho=>⟨xs[o],?_,?_⟩⟩
 ·have:=World.cell?_alloc_mark w (xs.map Value.string).toArray t (0,0) o;rw [this]; simp [ho]
 ·have:=List.all_eq_true.1 h _ (List.getElem_mem ho);simpa using this
def tB:Nat→Nat
 | 0=>14
 | d + 1=>3 * tB d + 8
theorem pQ (R:Nat) (ad:Option Addr) (len cap:Nat) (d:Int) (w:World) (h:Rd w R ad len cap) :
  Calls prog 100 #[.pointer (some ⟨R,0,none⟩),.int .i64 d,.bool true] w fun e w'=>(∃ t:ByteArray,e=.returned (.string t)∧t.size≤24)∧Rd w' R ad len cap∧Only R w w':=by
 have hRw:=h.lt;have HRD:=iF h;obtain ⟨xs,hxs⟩:∃ xs:List ByteArray,xs=[⟨#[116,104,105,115,40,117,115,101,114,41]⟩,⟨#[116,104,105,115,40,117,115,101,114,44,103,114,111,117,112,35,109,101,109,98,101,114,41]⟩,⟨#[116,104,105,115,40,117,115,101,114,44,100,111,99,35,101,100,105,116,111,114,41]⟩]:=⟨_,rfl⟩;obtain ⟨W0,hW0⟩:∃ W0,W0=w.alloc (.cells (xs.map Value.string).toArray 9):=⟨_,rfl⟩;have HS0:Hid (nu W0 R w.heap.size 3 24):=by
  show nu _ _ _ _ _;rw [hW0];have:=jR w R 24 hRw (t:=9) (xs:=xs) (by rw [hxs]; decide);rwa [show xs.length=3 by rw [hxs]; rfl] at this
 have HR0:Hid (Rd W0 R ad len cap):=by show Rd _ _ _ _ _; rw [hW0]; exact h.alloc _
 have HO0:Hid (Only R w W0):=by show Only _ _ _; rw [hW0]; exact (Only.refl _ _).alloc _
 have hW1:W0=w.alloc (.cells #[.string ⟨#[116,104,105,115,40,117,115,101,114,41]⟩,.string ⟨#[116,104,105,115,40,117,115,101,114,44,103,114,111,117,112,35,109,101,109,98,101,114,41]⟩,.string ⟨#[116,104,105,115,40,117,115,101,114,44,100,111,99,35,101,100,105,116,111,114,41]⟩] 9):=by rw [hW0,hxs]; rfl
 clear h hW0 hxs;go_enter func100,ntmps100;go_wp2_with fail;rw [← hW1]; clear hW1;refine (fe R ad len cap 3 _ HR0.out (by omega) (by omega)).mono ?_;rintro e w1 ⟨⟨x,rfl,hx⟩,hR1,hO1⟩;obtain ⟨-,hlt,hcells⟩:=HS0.out.only hO1;obtain ⟨t,ht,hts⟩:=hcells x hx;have HR1:=iF hR1;have HO1:Hid (Only R w w1):=HO0.out.trans hO1;have hx0:=bR x;have hx1:(x:Int) < 3:=by omega
 clear hR1 hO1 hcells HS0 HR0 HO0;go_wp2;go_ret;exact ⟨⟨t,rfl,hts⟩,HR1.out,HO1.out⟩
theorem zV (R:Nat) (ad:Option Addr) (len cap:Nat):∀ (d:Nat) (w:World),d≤2→Rd w R ad len cap →
  Calls prog 100 #[.pointer (some ⟨R,0,none⟩),.int .i64 (d:Int),.bool false] w fun e w'=>(∃ t:ByteArray,e=.returned (.string t)∧t.size≤tB d)∧Rd w' R ad len cap∧Only R w w':=by
 intro d
 induction d with
 | zero =>
  intro w _ h;have hRw:=h.lt;have hz:(0:Nat)≤256:=by omega
  obtain ⟨xs,hxs⟩:∃ xs:List ByteArray,xs=[⟨#[101,100,105,116,111,114]⟩,⟨#[118,105,101,119,101,114]⟩,⟨#[98,97,110,110,101,100]⟩,⟨#[112,97,114,101,110,116,45,62,118,105,101,119,101,114]⟩,⟨#[112,97,114,101,110,116,45,62,101,100,105,116,111,114]⟩,⟨#[111,119,110,101,114]⟩,⟨#[112,97,114,101,110,116,45,62,111,119,110,101,114]⟩]:=⟨_,rfl⟩;obtain ⟨W0,hW0⟩:∃ W0,W0=w.alloc (.cells (xs.map Value.string).toArray 9):=⟨_,rfl⟩;have HS0:Hid (nu W0 R w.heap.size 7 14):=by
   show nu _ _ _ _ _;rw [hW0];have:=jR w R 14 hRw (t:=9) (xs:=xs) (by rw [hxs]; decide);rwa [show xs.length=7 by rw [hxs]; rfl] at this
  have HR0:Hid (Rd W0 R ad len cap):=by show Rd _ _ _ _ _; rw [hW0]; exact h.alloc _
  have HO0:Hid (Only R w W0):=by show Only _ _ _; rw [hW0]; exact (Only.refl _ _).alloc _
  have hW1:W0=w.alloc (.cells #[.string ⟨#[101,100,105,116,111,114]⟩,.string ⟨#[118,105,101,119,101,114]⟩,.string ⟨#[98,97,110,110,101,100]⟩,.string ⟨#[112,97,114,101,110,116,45,62,118,105,101,119,101,114]⟩,.string ⟨#[112,97,114,101,110,116,45,62,101,100,105,116,111,114]⟩,.string ⟨#[111,119,110,101,114]⟩,.string ⟨#[112,97,114,101,110,116,45,62,111,119,110,101,114]⟩] 9):=by rw [hW0,hxs]; rfl
  clear h hW0 hxs;go_enter func100,ntmps100;go_wp2_with fail;rw [← hW1]; clear hW1;refine (fe R ad len cap 7 _ HR0.out (by omega) (by omega)).mono ?_;rintro e w1 ⟨⟨x,rfl,hx⟩,hR1,hO1⟩;obtain ⟨-,hlt,hcells⟩:=HS0.out.only hO1;obtain ⟨t,ht,hts⟩:=hcells x hx;have HR1:=iF hR1;have HO1:Hid (Only R w w1):=HO0.out.trans hO1;have hx0:=bR x;have hx1:(x:Int) < 7:=by omega
  clear hR1 hO1 hcells HS0 HR0 HO0;go_wp2;go_ret;exact ⟨⟨t,rfl,hts⟩,HR1.out,HO1.out⟩
 | succ d ih =>
  intro w hd h;have hRw:=h.lt;have IH:=iF ih;have hd0:(((d + 1:Nat):Int) == 0)=false:=by simp; omega
  have hdm:((d + 1:Nat):Int) - 1=(d:Int):=by omega
  have HTB:Hid (tB (d + 1)=3 * tB d + 8):=rfl;have hb0:tB d≤82:=by
   have:d=0 ∨ d=1:=by omega
   rcases this with rfl | rfl <;> decide
  obtain ⟨bd,hbd⟩:∃ bd,bd=tB d:=⟨_,rfl⟩;rw [← hbd] at hb0 HTB;have HBD:=iF hbd;clear ih hbd;go_enter func100,ntmps100;go_wp2_with fail;refine (dY R ad len cap 2 _ h (by omega) (by omega)).mono ?_;rintro e w1 ⟨⟨q,rfl⟩,hR1,hO1⟩;have HR1:=iF hR1;have HO1:=iF hO1;have hRw1:R < w1.heap.size:=hR1.lt;clear hR1 hO1 h;cases q with
  | true =>
   obtain ⟨xs,hxs⟩:∃ xs:List ByteArray,xs=[⟨#[101,100,105,116,111,114]⟩,⟨#[118,105,101,119,101,114]⟩,⟨#[98,97,110,110,101,100]⟩,⟨#[112,97,114,101,110,116,45,62,118,105,101,119,101,114]⟩,⟨#[112,97,114,101,110,116,45,62,101,100,105,116,111,114]⟩,⟨#[111,119,110,101,114]⟩,⟨#[112,97,114,101,110,116,45,62,111,119,110,101,114]⟩]:=⟨_,rfl⟩;obtain ⟨W0,hW0⟩:∃ W0,W0=w1.alloc (.cells (xs.map Value.string).toArray 9):=⟨_,rfl⟩;have HS0:Hid (nu W0 R w1.heap.size 7 14):=by
    show nu _ _ _ _ _;rw [hW0];have:=jR w1 R 14 hRw1 (t:=9) (xs:=xs) (by rw [hxs]; decide);rwa [show xs.length=7 by rw [hxs]; rfl] at this
   have HR0:Hid (Rd W0 R ad len cap):=by show Rd _ _ _ _ _; rw [hW0]; exact HR1.out.alloc _
   have HO0:Hid (Only R w W0):=by show Only _ _ _; rw [hW0]; exact HO1.out.alloc _
   have hW1:W0=w1.alloc (.cells #[.string ⟨#[101,100,105,116,111,114]⟩,.string ⟨#[118,105,101,119,101,114]⟩,.string ⟨#[98,97,110,110,101,100]⟩,.string ⟨#[112,97,114,101,110,116,45,62,118,105,101,119,101,114]⟩,.string ⟨#[112,97,114,101,110,116,45,62,101,100,105,116,111,114]⟩,.string ⟨#[111,119,110,101,114]⟩,.string ⟨#[112,97,114,101,110,116,45,62,111,119,110,101,114]⟩] 9):=by rw [hW0,hxs]; rfl
   clear hW0 hxs HR1 HO1;go_wp2_with fail;rw [← hW1]; clear hW1;refine (fe R ad len cap 7 _ HR0.out (by omega) (by omega)).mono ?_;rintro e w2 ⟨⟨x,rfl,hx⟩,hR2,hO2⟩;obtain ⟨-,hlt,hcells⟩:=HS0.out.only hO2;obtain ⟨t,ht,hts⟩:=hcells x hx;have HR2:=iF hR2;have HO2:Hid (Only R w w2):=HO0.out.trans hO2;have hx0:=bR x;have hx1:(x:Int) < 7:=by omega
   have hfin:t.size≤tB (d + 1):=by rw [HTB.out,HBD.out]; cases d <;> simp [tB] <;> omega
   have HFIN:=iF hfin;clear hR2 hO2 hcells HS0 HR0 HO0 hfin;go_wp2;go_ret;exact ⟨⟨t,rfl,HFIN.out⟩,HR2.out,HO2.out⟩
  | false =>
   obtain ⟨xs,hxs⟩:∃ xs:List ByteArray,xs=[⟨#[32,124,32]⟩,⟨#[32,38,32]⟩,⟨#[32,45,32]⟩,⟨#[32,124,32]⟩]:=⟨_,rfl⟩;obtain ⟨W0,hW0⟩:∃ W0,W0=w1.alloc (.cells (xs.map Value.string).toArray 9):=⟨_,rfl⟩;have HS0:Hid (nu W0 R w1.heap.size 4 3):=by
    show nu _ _ _ _ _;rw [hW0];have:=jR w1 R 3 hRw1 (t:=9) (xs:=xs) (by rw [hxs]; decide);rwa [show xs.length=4 by rw [hxs]; rfl] at this
   have HR0:Hid (Rd W0 R ad len cap):=by show Rd _ _ _ _ _; rw [hW0]; exact HR1.out.alloc _
   have HO0:Hid (Only R w W0):=by show Only _ _ _; rw [hW0]; exact HO1.out.alloc _
   have hW1:W0=w1.alloc (.cells #[.string ⟨#[32,124,32]⟩,.string ⟨#[32,38,32]⟩,.string ⟨#[32,45,32]⟩,.string ⟨#[32,124,32]⟩] 9):=by rw [hW0,hxs]; rfl
   clear hW0 hxs HR1 HO1;go_wp2_with fail;rw [← hW1]; clear hW1;refine (fe R ad len cap 4 _ HR0.out (by omega) (by omega)).mono ?_;rintro e w2 ⟨⟨x,rfl,hx⟩,hR2,hO2⟩;obtain ⟨-,hlt,hcells⟩:=HS0.out.only hO2;obtain ⟨op,hop,hops⟩:=hcells x hx;have HR2:=iF hR2;have HO2:Hid (Only R w w2):=HO0.out.trans hO2;have hx0:=bR x;have hx1:(x:Int) < 4:=by omega
   clear hR2 hO2 hcells HS0 HR0 HO0;go_wp2_with fail;refine (IH.out w2 (by omega) HR2.out).mono ?_;rintro e w3 ⟨⟨t1,rfl,ht1⟩,hR3,hO3⟩;rw [← HBD.out] at ht1;have HR3:=iF hR3;have HO3:Hid (Only R w w3):=HO2.out.trans hO3;clear hR3 hO3 HR2 HO2 hop hlt;go_wp2_with fail;refine (IH.out w3 (by omega) HR3.out).mono ?_;rintro e w4 ⟨⟨t2,rfl,ht2⟩,hR4,hO4⟩;rw [← HBD.out] at ht2;have HR4:=iF hR4;have HO4:Hid (Only R w w4):=HO3.out.trans hO4;clear hR4 hO4 HR3 HO3;have e1:(⟨#[40]⟩:ByteArray).size=1:=rfl;have e2:(⟨#[41]⟩:ByteArray).size=1:=rfl;cases hm:op.toList == [32,45,32] with
   | true =>
    have hm2:(!op.toList == [32,45,32])=false:=by rw [hm]; rfl
    have HFIN:Hid ((((((⟨#[40]⟩:ByteArray) ++ t1) ++ op) ++ t2) ++ ⟨#[41]⟩).size≤tB (d + 1)):=by show _≤_; rw [HTB.out]; simp only [ByteArray.size_append,e1,e2]; omega
    go_wp2_with fail;go_ret;exact ⟨⟨_,rfl,HFIN.out⟩,HR4.out,HO4.out⟩
   | false =>
    have hm2:(!op.toList == [32,45,32])=true:=by rw [hm]; rfl
    go_wp2_with fail;refine (dY R ad len cap 3 _ HR4.out (by omega) (by omega)).mono ?_;rintro e w5 ⟨⟨q,rfl⟩,hR5,hO5⟩;have HR5:=iF hR5;have HO5:Hid (Only R w w5):=HO4.out.trans hO5;clear hR5 hO5 HR4 HO4;cases q with
    | false =>
     have HFIN:Hid ((((((⟨#[40]⟩:ByteArray) ++ t1) ++ op) ++ t2) ++ ⟨#[41]⟩).size≤tB (d + 1)):=by show _≤_; rw [HTB.out]; simp only [ByteArray.size_append,e1,e2]; omega
     go_wp2_with fail;go_ret;exact ⟨⟨_,rfl,HFIN.out⟩,HR5.out,HO5.out⟩
    | true =>
     go_wp2_with fail;refine (IH.out w5 (by omega) HR5.out).mono ?_;rintro e w6 ⟨⟨t3,rfl,ht3⟩,hR6,hO6⟩;rw [← HBD.out] at ht3;have HR6:=iF hR6;have HO6:Hid (Only R w w6):=HO5.out.trans hO6;clear hR6 hO6 HR5 HO5;have HFIN:Hid ((((((((⟨#[40]⟩:ByteArray) ++ t1) ++ op) ++ t2) ++ op) ++ t3) ++ ⟨#[41]⟩).size≤tB (d + 1)):=by show _≤_; rw [HTB.out]; simp only [ByteArray.size_append,e1,e2]; omega
     go_wp2_with fail;go_ret;exact ⟨⟨_,rfl,HFIN.out⟩,HR6.out,HO6.out⟩
theorem Bl (R:Nat) (ad:Option Addr) (len cap d:Nat) (w:World) (hd:d≤2) (h:Rd w R ad len cap) :
  Calls prog 67 #[.pointer (some ⟨R,0,none⟩),.int .i64 (d:Int)] w fun e w'=>(∃ t:ByteArray,e=.returned (.string t)∧t.size≤190)∧Rd w' R ad len cap∧Only R w w':=by
 have hRw:=h.lt;have hb0:tB d≤158:=by
  have:d=0 ∨ d=1 ∨ d=2:=by omega
  rcases this with rfl | rfl | rfl <;> decide
 obtain ⟨xs,hxs⟩:∃ xs:List ByteArray,xs=[⟨#[32,124,32]⟩,⟨#[32,38,32]⟩,⟨#[32,45,32]⟩,⟨#[32,124,32]⟩]:=⟨_,rfl⟩;obtain ⟨W0,hW0⟩:∃ W0,W0=w.alloc (.cells (xs.map Value.string).toArray 9):=⟨_,rfl⟩;have HS0:Hid (nu W0 R w.heap.size 4 3):=by
  show nu _ _ _ _ _;rw [hW0];have:=jR w R 3 hRw (t:=9) (xs:=xs) (by rw [hxs]; decide);rwa [show xs.length=4 by rw [hxs]; rfl] at this
 have HR0:Hid (Rd W0 R ad len cap):=by show Rd _ _ _ _ _; rw [hW0]; exact h.alloc _
 have HO0:Hid (Only R w W0):=by show Only _ _ _; rw [hW0]; exact (Only.refl _ _).alloc _
 have hW1:W0=w.alloc (.cells #[.string ⟨#[32,124,32]⟩,.string ⟨#[32,38,32]⟩,.string ⟨#[32,45,32]⟩,.string ⟨#[32,124,32]⟩] 9):=by rw [hW0,hxs]; rfl
 clear h hW0 hxs;go_enter func67,ntmps67;go_wp2_with fail;rw [← hW1]; clear hW1;refine (fe R ad len cap 4 _ HR0.out (by omega) (by omega)).mono ?_;rintro e w2 ⟨⟨x,rfl,hx⟩,hR2,hO2⟩;obtain ⟨-,hlt,hcells⟩:=HS0.out.only hO2;obtain ⟨op,hop,hops⟩:=hcells x hx;have HR2:=iF hR2;have HO2:Hid (Only R w w2):=HO0.out.trans hO2;have hx0:=bR x;have hx1:(x:Int) < 4:=by omega
 clear hR2 hO2 hcells HS0 HR0 HO0;go_wp2_with fail;refine (dY R ad len cap 3 _ HR2.out (by omega) (by omega)).mono ?_;rintro e w3 ⟨⟨q,rfl⟩,hR3,hO3⟩;have HR3:=iF hR3;have HO3:Hid (Only R w w3):=HO2.out.trans hO3;clear hR3 hO3 HR2 HO2 hop hlt;cases q with
 | true =>
  go_wp2_with fail;refine (pQ R ad len cap 0 _ HR3.out).mono ?_;rintro e w4 ⟨⟨t1,rfl,ht1⟩,hR4,hO4⟩;have HR4:=iF hR4;have HO4:Hid (Only R w w4):=HO3.out.trans hO4;clear hR4 hO4;go_wp2;go_ret;exact ⟨⟨t1,rfl,by omega⟩,HR4.out,HO4.out⟩
 | false =>
  go_wp2_with fail;refine (pQ R ad len cap 0 _ HR3.out).mono ?_;rintro e w4 ⟨⟨t1,rfl,ht1⟩,hR4,hO4⟩;have HR4:=iF hR4;have HO4:Hid (Only R w w4):=HO3.out.trans hO4;clear hR4 hO4;go_wp2_with fail;refine (zV R ad len cap d _ hd HR4.out).mono ?_;rintro e w5 ⟨⟨t2,rfl,ht2⟩,hR5,hO5⟩;have HR5:=iF hR5;have HO5:Hid (Only R w w5):=HO4.out.trans hO5;have hf:t2.size≤158:=by omega
  have HFIN:Hid (((t1 ++ op) ++ t2).size≤190):=by show _≤_; simp only [ByteArray.size_append]; omega
  clear hR5 hO5 ht2 hb0;go_wp2;go_ret;exact ⟨⟨_,rfl,HFIN.out⟩,HR5.out,HO5.out⟩
theorem nz (R:Nat) (ad:Option Addr) (len cap d:Nat) (w:World) (hd:d≤2) (h:Rd w R ad len cap) :
  Calls prog 67 #[.pointer (some ⟨R,0,none⟩),.int .i64 (d:Int)] w fun e w'=>(∃ t:ByteArray,e=.returned (.string t)∧t.size≤300)∧Rd w' R ad len cap∧Only R w w' :=
 (Bl R ad len cap d w hd h).mono fun e w' ⟨⟨t,h1,h2⟩,h3⟩=>⟨⟨t,h1,by omega⟩,h3⟩
end Go.Proofs.YteoflgocljfgeaaGreatDoor
