/- The library's joining of slices of tuples, as the program calls it: a row of its own. -/
import Derived.Test.YtdmniljjnaebbaaGreatDoorShelfW
import Derived.Test.YtdmniljjnaebbaaGreatDoorJ6
import Derived.Laws.AppendOwnNone
import Derived.Deep.RegionWith
open Go.Proofs.Tryz
set_option maxHeartbeats 80000000
namespace Go.Proofs.YtdmniljjnaebbaaGreatDoor
set_option maxRecDepth 100000
set_option linter.unusedVariables false
open Go.ChangeShapes Go.WideShapes Go.ChangeAt Go.RowKit
open Pl
structure Pt where
 ad:Option Addr
 cap:Nat
 ts:List Tp
def Pt.v (p:Pt):Value:=.slice p.ad p.ts.length p.cap
def Pt.ok (w:World) (p:Pt):Prop:=(p.ad=none∧p.ts=[]∧p.cap=0) ∨ ∃ b off,p.ad=some ⟨b,off,none⟩∧(p.ts ≠ []→b < w.heap.size)∧eH w b off p.ts
theorem Pt.ok.below {w w':World} {p:Pt} (h:p.ok w) (hb:Below w.heap.size w w'):p.ok w':=by
 rcases h with h | ⟨b,off,e,hl,hr⟩
 ·exact .inl h
 ·refine .inr ⟨b,off,e,fun hne=>Nat.lt_of_lt_of_le (hl hne) hb.size,fun i hi=>?_⟩;have hne:p.ts ≠ []:=fun e=>by rw [e] at hi; simp at hi
  exact (hr i hi).same fun o=>hb.cell (p:=⟨b,o,none⟩) (hl hne)
def cB (ps:List Pt):List Tp:=ps.flatMap (·.ts)
theorem pK {ps:List Pt} {k:Nat} (h:k < ps.length):cB (ps.take (k + 1))=cB (ps.take k) ++ ps[k].ts:=by
 unfold cB;rw [List.take_succ_eq_append_getElem h,List.flatMap_append]; simp
theorem Cg (ps:List Pt) (k:Nat):(cB (ps.take k)).length≤(cB ps).length:=by
 have:cB ps=cB (ps.take k) ++ cB (ps.drop k):=by unfold cB; rw [← List.flatMap_append,List.take_append_drop]
 rw [this,List.length_append]; omega
structure PtsAt (w:World) (b:Nat) (ps:List Pt):Prop where
 lt:b < w.heap.size
 cell:∀ i (h:i < ps.length),w.cell? ⟨b,i,none⟩=some ps[i].v
 ok:∀ p ∈ ps,p.ok w
theorem PtsAt.below {w w':World} {b:Nat} {ps:List Pt} (h:PtsAt w b ps) (hb:Below w.heap.size w w'):PtsAt w' b ps :=
 ⟨Nat.lt_of_lt_of_le h.lt hb.size,fun i hi=>(hb.cell (p:=⟨b,i,none⟩) h.lt).trans (h.cell i hi),fun p hp=>(h.ok p hp).below hb⟩
theorem wB:∃ i,prog.info? 42=some i∧i.zero=some (.agg #[.string ⟨#[]⟩,.string ⟨#[]⟩,.string ⟨#[]⟩,.string ⟨#[]⟩,.string ⟨#[]⟩,.string ⟨#[]⟩])∧i.size=6∧i.bytes=96 :=
 info_parts (P:=prog) (e:=42) (z:=.agg #[.string ⟨#[]⟩,.string ⟨#[]⟩,.string ⟨#[]⟩,.string ⟨#[]⟩,.string ⟨#[]⟩,.string ⟨#[]⟩]) (size:=6) (bytes:=96) (by kernel_rfl)
theorem G6 (n:Nat) (w:World) (hn:n≤1048576) :
  Calls prog 156 #[.slice none 0 0,.int .i64 n] w fun e w'=>∃ v,e=.returned v∧w'.ownsRow w.heap.size 42 6 v 0 (aB [])∧Below w.heap.size w w':=by
 obtain ⟨iT,h0,h1,h2,h3⟩:=wB;by_cases hz:n=0
 ·subst hz;refine (Any8.slices_Grow_room Tryz.growT none 0 0 0 w (by omega) (by omega) (by omega) (by omega)).mono ?_;rintro e w' ⟨rfl,rfl⟩;exact ⟨_,rfl,World.ownsRow_nil _ _ _ _,Below.refl _ _⟩
 ·refine (Any8.slices_Grow_grow Tryz.growT iT _ h0 h1 (by omega) none 0 0 n [] w (by omega) (by omega) (by rw [h3]; omega) (by omega) (by simp) (fun _=>rfl) (fun a ha=>by cases ha)).mono ?_;rintro e w' ⟨rfl,rfl⟩;have hge:=grownCap_ge w (0 + n) 0 (Tryz.growT_ren.t 25);have hm:grownCap w (0 + n) 0 (Tryz.growT_ren.t 25)≤maxLen:=grownCap_le_maxLen _ _ _ _ (by unfold maxLen; omega);obtain ⟨gc,hgc⟩:∃ gc,gc=grownCap w (0 + n) 0 (Tryz.growT_ren.t 25):=⟨_,rfl⟩;rw [← hgc] at hge hm ⊢;exact ⟨_,rfl,World.ownsRow_made w.drew _ gc (Nat.le_refl _) hm (by simp [size_zeroCells,Value.cells]; omega),(Below.refl _ _).drew.alloc (Nat.le_refl _) _⟩
theorem jc (b cap:Nat) (ps:List Pt) (w:World) (hp:PtsAt w b ps) (hn:ps.length≤1000) (hlen:(cB ps).length≤1048576) :
  Calls prog 110 #[.slice (some ⟨b,0,none⟩) ps.length cap] w fun e w'=>∃ v,e=.returned v∧w'.ownsRow w.heap.size 42 6 v (cB ps).length (aB (cB ps))∧Below w.heap.size w w':=by
 obtain ⟨iT,h0,h1,h2,h3⟩:=wB;have HIT:=aj (And.intro h0 (And.intro h1 (And.intro h2 h3)));have HP:=aj hp;clear h0 h1 h2 h3 hp;go_enter func110,ntmps110;go_wp2;go_loopw [3,11] (fun sz i wr=>∃ k:Nat,k≤ps.length∧sz=.int .i64 ((cB (ps.take k)).length:Nat)∧i=.int .i64 (k:Int)∧w=wr) (fun _ i _=>ps.length - (intOf i).toNat);case atStart=>exact ⟨0,Nat.zero_le _,rfl,rfl,rfl⟩
 case round =>
  obtain ⟨k,hk,rfl,rfl,rfl⟩:=hrel;by_cases hlt:k < ps.length
  ·have c0:=HP.out.cell k hlt;have hk1:=bq k;have hk2:(k:Int) < (ps.length:Int):=by omega
   have hle:=Cg ps (k + 1);have hst:(cB (ps.take (k + 1))).length=(cB (ps.take k)).length + ps[k].ts.length:=by rw [pK hlt,List.length_append]
   rw [hst] at hle;unfold Pt.v at c0;obtain ⟨J,hJ⟩:∃ J,J=(cB (ps.take k)).length:=⟨_,rfl⟩;rw [← hJ] at hst hle ⊢;obtain ⟨q,hq⟩:∃ q,q=ps[k].ts.length:=⟨_,rfl⟩;rw [← hq] at hst hle c0;have HST:=aj hst;clear hJ hst hq;have hng:decide ((J:Int) + (q:Int) < 0)=false:=by simp; omega
   go_wp2;go_roundw;case rel=>exact ⟨k + 1,by omega,by rw [HST.out]; go_num,by go_num,by trivial⟩
   case measure=>simp [intOf]; omega
  ·obtain rfl:k=ps.length:=by omega
   rw [List.take_length];obtain ⟨N,hN⟩:∃ N,N=(cB ps).length:=⟨_,rfl⟩;rw [← hN];have hNl:N≤1048576:=by omega
   have HNN:=aj hN;clear hN;go_wp2_with fail;refine (G6 N w hNl).mono ?_;rintro e w1 ⟨v,rfl,hown,hb1⟩;have HO1:=aj hown;have HB1:=aj hb1;clear hown hb1;go_wp2;go_loopw [6,27] (fun v i wr=>∃ k:Nat,k≤ps.length∧i=.int .i64 (k:Int)∧Hid (wr.ownsRow w.heap.size 42 6 v (cB (ps.take k)).length (aB (cB (ps.take k))))∧Hid (Below w.heap.size w wr)) (fun _ i _=>ps.length - (intOf i).toNat);case atStart=>exact ⟨0,Nat.zero_le _,rfl,HO1,HB1⟩
   case round =>
    clear HO1 HB1;obtain ⟨k,hk,rfl,HO,HB⟩:=hrel;by_cases hlt:k < ps.length
    ·have hP2:=HP.out.below HB.out;have c0:=hP2.cell k hlt;have hpk:=hP2.ok ps[k] (List.getElem_mem hlt);have hk1:=bq k;have hk2:(k:Int) < (ps.length:Int):=by omega
     have hle:=Cg ps (k + 1);rw [pK hlt,List.length_append] at hle;have HST:=aj (pK hlt);have hB0:w.heap.size≤wr.heap.size:=HB.out.size;unfold Pt.v at c0;obtain ⟨J,hJ⟩:∃ J,J=cB (ps.take k):=⟨_,rfl⟩;rw [← hJ] at hle HST HO;obtain ⟨p,hq⟩:∃ p,p=ps[k]:=⟨_,rfl⟩;rw [← hq] at hle c0 hpk HST;clear hJ hq hP2;rcases hpk with ⟨e1,e2,e3⟩ | ⟨pb,po,e1,-,hrow⟩
     ·rw [e1,e2,e3] at c0;have HO2:Hid (wr.ownsRow w.heap.size 42 6 u6 (cB (ps.take (k + 1))).length (aB (cB (ps.take (k + 1))))):=by
       show World.ownsRow _ _ _ _ _ _ _;rw [HST.out,e2,List.append_nil]; exact HO.out
      go_wp2_with (at_builtin; refine wpList_append_own_none rfl _ _ 38 rfl w.heap.size 42 iT 6 underlying38 HIT.out.1 _ _ _ rfl HO.out rfl ?_);go_wp2;go_roundw;case rel=>exact ⟨k + 1,by omega,by go_num,HO2,HB⟩
      case measure=>simp [intOf]; omega
     ·rw [e1] at c0;have HR:=aj hrow;clear hrow;go_wp2_with (at_builtin; refine wpList_append_own _ rfl _ _ 38 rfl w.heap.size 42 iT (.agg #[.string ⟨#[]⟩,.string ⟨#[]⟩,.string ⟨#[]⟩,.string ⟨#[]⟩,.string ⟨#[]⟩,.string ⟨#[]⟩]) 6 96 underlying38 HIT.out.1 HIT.out.2.1 HIT.out.2.2.1 HIT.out.2.2.2 rfl (by decide) _ J.length (aB J) rfl HO.out ⟨pb,po,none⟩ p.ts.length p.cap (aB p.ts) rfl (dX p.ts) (iL HR.out) (iM _) (by unfold maxLen; omega) (by omega) hB0 ?_);intro v' w3 hown hgr _;have HO3:Hid (w3.ownsRow w.heap.size 42 6 v' (cB (ps.take (k + 1))).length (aB (cB (ps.take (k + 1))))):=by
       show World.ownsRow _ _ _ _ _ _ _;rw [HST.out,lu,List.length_append]; exact hown
      have HB3:Hid (Below w.heap.size w w3):=HB.out.grown hgr HB.out.size (fun g hg=>by have:=(HO.out.lt g hg).1; omega);clear hown hgr;go_wp2;go_roundw;case rel=>exact ⟨k + 1,by omega,by go_num,HO3,HB3⟩
      case measure=>simp [intOf]; omega
    ·obtain rfl:k=ps.length:=by omega
     have HOE:=HO.out;rw [List.take_length] at HOE;have HE:=aj HOE;clear HOE;go_wp2;go_ret;exact ⟨_,rfl,HE.out,HB.out⟩
theorem JB {α:Type} (p q:α→Bool) (l:List α) (h:∀ x ∈ l,q x=true→p x=true) (y:α) (hy:y ∈ l) (hp:p y=true) (hq:q y=false):l.countP q < l.countP p:=by
 induction l with
 | nil=>cases hy
 | cons a l ih =>
  rw [List.countP_cons,List.countP_cons];rcases List.mem_cons.1 hy with rfl | hy
  ·have:=List.countP_mono_left (p:=q) (q:=p) (l:=l) (fun x hx=>h x (List.mem_cons_of_mem _ hx));simp [hp,hq]; omega
  ·have h1:=ih (fun x hx=>h x (List.mem_cons_of_mem _ hx)) hy;have h2:=h a (List.mem_cons_self ..);cases hqa:q a with
   | true=>simp [h2 hqa]; omega
   | false=>simp; omega
section
variable {P:Program} {ops:Array Oper} {Q:Exit→Act→World→Prop} {md:Region.Mode}
theorem aa {i:Nat} {o:Oper} {K:Act→World→Prop} {a:Act} {w:World} (ho:ops[i]?=some o)
  (h:∀ K':Act→World→Prop,Hid (∀ a w,K a w→K' a w)→if Region.wanted o (yielded ops a.tmps)=true then Oper.wp P o a w K' Q else K' (a.put o.dst undef) w):wpOp P ops Q i K a w:=wpOp_step ho h
def left (ops:Array Oper) (listed:Array Bool):Nat:=(List.range ops.size).countP (fun i=>!(listed.getD i true))
theorem Ch (listed:Array Bool) (i j:Nat):(listed.setIfInBounds i true).getD j true=if j=i then true else listed.getD j true:=by
 rw [Array.getD_eq_getD_getElem?,Array.getD_eq_getD_getElem?,Array.getElem?_setIfInBounds];by_cases e:i=j
 ·subst e;by_cases h:i < listed.size <;> simp [h]
 ·simp [e,Ne.symm e]
theorem Ci {listed:Array Bool} {i:Nat} (hi:i < ops.size) (hl:listed.getD i true=false):left ops (listed.setIfInBounds i true) < left ops listed:=by
 refine JB _ _ _ ?_ i (by simpa using hi) (by simp [hl]) (by rw [Ch]; simp);intro x _ hx;simp only [Ch,Bool.not_eq_true'] at hx ⊢;by_cases e:x=i
 ·simp [e] at hx
 ·simpa [e] using hx
theorem G7 (Inv:Array Bool→Act→World→Prop)
  (hstep:∀ listed a w,Inv listed a w→∀ i ∈ Region.ready md ops listed,wpOp P ops Q i (Inv (listed.setIfInBounds i true)) a w)
  (hend:∀ listed a w,Inv listed a w→Region.ready md ops listed=[]→Q .normal a w) :
  ∀ (fuel:Nat) (listed:Array Bool) (a:Act) (w:World),left ops listed≤fuel→Inv listed a w→wpAny P md ops Q fuel listed a w:=by
 intro fuel
 induction fuel with
 | zero =>
  intro listed a w hc hI;have hr:Region.ready md ops listed=[]:=by
   rw [List.eq_nil_iff_forall_not_mem];intro i hi;obtain ⟨h1,o,h2,-⟩:=mem_ready.1 hi;have:=Ci (ops:=ops) (Array.getElem?_eq_some_iff.1 h2).1 h1;omega
  exact ⟨hr,hend _ _ _ hI hr⟩
 | succ n ih =>
  intro listed a w hc hI;refine ⟨fun hr=>hend _ _ _ hI hr,fun i hi=>wpOp_mono (fun a' w' h=>ih _ _ _ ?_ h) (hstep _ _ _ hI i hi)⟩;obtain ⟨h1,o,h2,-⟩:=mem_ready.1 hi;have:=Ci (ops:=ops) (Array.getElem?_eq_some_iff.1 h2).1 h1;omega
theorem Li (ops:Array Oper) (listed:Array Bool):left ops listed≤ops.size:=by
 unfold left;exact Nat.le_trans List.countP_le_length (by simp)
theorem iX {id:Nat} {a:Act} {w:World} (Inv:Array Bool→Act→World→Prop) (hm:P.follows .mixedOrders=true)
  (h0:Inv (Array.replicate ops.size false) a w.drew)
  (hstep:∀ listed a w,Inv listed a w→∀ i ∈ Region.ready .any ops listed,wpOp P ops Q i (Inv (listed.setIfInBounds i true)) a w)
  (hend:∀ listed a w,Inv listed a w→Region.ready .any ops listed=[]→Q .normal a w):(Code.region id ops true).wp P Q a w :=
 wp_region_any hm (G7 Inv hstep hend _ _ _ _ (Li _ _) h0)
theorem wC {listed:Array Bool} {n:Nat} (hr:Region.ready md ops listed=[]) (hs:ops.size=n) (hord:∀ (i:Nat) (o:Oper),ops[i]?=some o→∀ e ∈ o.after,e.on < i) (hsz:listed.size=n):∀ i,i < n→listed.getD i true=true:=by
 intro i
 induction i using Nat.strongRecOn with
 | ind i ih =>
  intro hi;cases hl:listed.getD i true with
  | true=>rfl
  | false =>
   exfalso;have hmem:i ∈ Region.ready md ops listed:=by
    refine mem_ready.2 ⟨hl,ops[i]'(by omega),Array.getElem?_eq_getElem (by omega),fun e he _=>?_⟩;have hlt:=hord i _ (Array.getElem?_eq_getElem (by omega)) e he;have:=ih e.on hlt (by omega);rw [Array.getD_eq_getD_getElem?,Array.getElem?_eq_getElem (by omega)] at this ⊢;simpa using this
   rw [hr] at hmem;cases hmem
end
def upd (f:Nat→Value) (i:Nat) (v:Value):Nat→Value:=fun k=>if k=i then v else f k
section
variable {P:Program} {ops:Array Oper} {Q:Exit→Act→World→Prop}
theorem fe (listed:Array Bool) (i j:Nat) (hi:i < listed.size):(listed.setIfInBounds i true).getD j false=if j=i then true else listed.getD j false:=by
 rw [Array.getD_eq_getD_getElem?,Array.getD_eq_getD_getElem?,Array.getElem?_setIfInBounds];by_cases e:i=j
 ·subst e; simp [hi]
 ·simp [e,Ne.symm e]
theorem qJ {listed:Array Bool} {i:Nat} (hi:i < listed.size):listed.getD i true=listed.getD i false:=by
 rw [Array.getD_eq_getD_getElem?,Array.getD_eq_getD_getElem?,Array.getElem?_eq_getElem hi]; rfl
def Ga (ops:Array Oper):Bool:=(List.range ops.size).all (fun i=>(ops[i]?.map (fun o=>o.after.all (fun e=>decide (e.on < i)))).getD true)
def AC (ops:Array Oper) (L:Nat):Bool:=(List.range L).all (fun j=>(ops[L]?.map (fun o=>o.after.any (fun e=>e.on == j && Region.binds .any e))).getD false)
theorem qK {ops:Array Oper} (h:Ga ops=true):∀ (i:Nat) (o:Oper),ops[i]?=some o→∀ e ∈ o.after,e.on < i:=by
 intro i o ho e he;rw [Ga,List.all_eq_true] at h;have h1:=h i (by simpa using (Array.getElem?_eq_some_iff.1 ho).1);rw [ho] at h1;simp only [Option.map_some,Option.getD_some,Array.all_eq_true_iff_forall_mem] at h1;simpa using h1 e he
theorem zg {ops:Array Oper} {L:Nat} (h:AC ops L=true):∀ (o:Oper),ops[L]?=some o→∀ j,j < L→∃ e ∈ o.after,e.on=j∧Region.binds .any e=true:=by
 intro o ho j hj;rw [AC,List.all_eq_true] at h;have h1:=h j (by simpa using hj);rw [ho] at h1;simp only [Option.map_some,Option.getD_some] at h1;rw [Array.any_eq_true'] at h1;obtain ⟨e,he,h2⟩:=h1;simp only [Bool.and_eq_true,beq_iff_eq] at h2;exact ⟨e,he,h2.1,h2.2⟩
theorem bF {id:Nat} {a:Act} {w:World} (L:Nat) (f0:Nat→Value) (F:(Nat→Value)→Act) (V:Nat→Value→World→Prop) (G:World→Prop)
  (hm:P.follows .mixedOrders=true) (hsz:ops.size=L + 1) (hord:Ga ops=true) (hlo:AC ops L=true)
  (h0:a=F f0) (hG0:G w.drew)
  (hstep:∀ i,i < L→∀ o,ops[i]?=some o→∀ f w',G w'→(∀ e ∈ o.after,Region.binds .any e=true→V e.on (f e.on) w') →
   wpOp P ops Q i (fun a' w''=>∃ v,a'=F (upd f i v)∧G w''∧V i v w''∧∀ k u,V k u w'→V k u w'') (F f) w')
  (hfin:∀ o,ops[L]?=some o→∀ f w',G w'→(∀ k,k < L→V k (f k) w')→wpOp P ops Q L (fun a' w''=>Q .normal a' w'') (F f) w') :
  (Code.region id ops true).wp P Q a w:=by
 refine iX (fun listed a' w'=>listed.size=L + 1∧((listed.getD L false=false∧∃ f,a'=F f∧G w'∧∀ k,k < L→listed.getD k false=true→V k (f k) w') ∨ ((∀ j,j≤L→listed.getD j true=true)∧Q .normal a' w'))) hm ?_ ?_ ?_
 ·refine ⟨by simpa using hsz,Or.inl ⟨?_,_,h0,hG0,fun k _ h=>?_⟩⟩
  ·rw [Array.getD_eq_getD_getElem?,Array.getElem?_replicate]; split <;> rfl
  ·rw [Array.getD_eq_getD_getElem?,Array.getElem?_replicate] at h; split at h <;> cases h
 ·rintro listed a' w' ⟨hs,h⟩ i hi;obtain ⟨hl,o,ho,hpre⟩:=mem_ready.1 hi;have hiL:i < L + 1:=by have:=(Array.getElem?_eq_some_iff.1 ho).1; omega
  rcases h with ⟨hn,f,rfl,hG,hV⟩ | ⟨hall,-⟩
  ·by_cases e:i=L
   ·subst e;have hall:∀ k,k < i→listed.getD k false=true:=fun k hk=>by
     obtain ⟨e,he,rfl,hb⟩:=zg hlo o ho k hk;exact hpre e he hb
    refine wpOp_mono (fun a'' w'' hq=>⟨by simpa using hs,Or.inr ⟨fun j hj=>?_,hq⟩⟩) (hfin o ho f w' hG (fun k hk=>hV k hk (hall k hk)));rw [qJ (by simp; omega),fe _ _ _ (by omega)];by_cases e:j=i
    ·simp [e]
    ·rw [if_neg e]; exact hall j (by omega)
   ·refine wpOp_mono ?_ (hstep i (by omega) o ho f w' hG (fun e he hb=>hV e.on (by have:=qK hord i o ho e he; omega) (hpre e he hb)));rintro a'' w'' ⟨v,rfl,hG',hv,hmono⟩;refine ⟨by simpa using hs,Or.inl ⟨?_,_,rfl,hG',fun k hk hkl=>?_⟩⟩
    ·rw [fe _ _ _ (by omega),if_neg (Ne.symm e)]; exact hn
    ·rw [fe _ _ _ (by omega)] at hkl;by_cases ek:k=i
     ·subst ek; simpa [upd] using hv
     ·rw [if_neg ek] at hkl;simp only [upd,if_neg ek];exact hmono _ _ (hV k hk hkl)
  ·rw [hall i (by omega)] at hl; cases hl
 ·rintro listed a' w' ⟨hs,h⟩ hr;rcases h with ⟨hn,-⟩ | ⟨-,hq⟩
  ·have:=wC hr hsz (qK hord) hs L (by omega);rw [qJ (by omega)] at this;rw [this] at hn; cases hn
  ·exact hq
theorem ak {id:Nat} {a:Act} {w:World} (N:Nat) (f0:Nat→Value) (F:(Nat→Value)→Act) (V:Nat→Value→World→Prop) (G:World→Prop)
  (hm:P.follows .mixedOrders=true) (hsz:ops.size=N) (hord:Ga ops=true)
  (h0:a=F f0) (hG0:G w.drew)
  (hstep:∀ i,i < N→∀ o,ops[i]?=some o→∀ f w',G w'→(∀ e ∈ o.after,Region.binds .any e=true→V e.on (f e.on) w') →
   wpOp P ops Q i (fun a' w''=>∃ v,a'=F (upd f i v)∧G w''∧V i v w''∧∀ k u,V k u w'→V k u w'') (F f) w')
  (hend:∀ f w',G w'→(∀ k,k < N→V k (f k) w')→Q .normal (F f) w') :
  (Code.region id ops true).wp P Q a w:=by
 refine iX (fun listed a' w'=>listed.size=N∧∃ f,a'=F f∧G w'∧∀ k,k < N→listed.getD k false=true→V k (f k) w') hm ?_ ?_ ?_
 ·refine ⟨by simpa using hsz,_,h0,hG0,fun k _ h=>?_⟩;rw [Array.getD_eq_getD_getElem?,Array.getElem?_replicate] at h; split at h <;> cases h
 ·rintro listed a' w' ⟨hs,f,rfl,hG,hV⟩ i hi;obtain ⟨hl,o,ho,hpre⟩:=mem_ready.1 hi;have hiN:i < N:=by have:=(Array.getElem?_eq_some_iff.1 ho).1; omega
  refine wpOp_mono ?_ (hstep i hiN o ho f w' hG (fun e he hb=>hV e.on (by have:=qK hord i o ho e he; omega) (hpre e he hb)));rintro a'' w'' ⟨v,rfl,hG',hv,hmono⟩;refine ⟨by simpa using hs,_,rfl,hG',fun k hk hkl=>?_⟩;rw [fe _ _ _ (by omega)] at hkl;by_cases ek:k=i
  ·subst ek; simpa [upd] using hv
  ·rw [if_neg ek] at hkl;simp only [upd,if_neg ek];exact hmono _ _ (hV k hk hkl)
 ·rintro listed a' w' ⟨hs,f,rfl,hG,hV⟩ hr;refine hend f w' hG fun k hk=>hV k hk ?_;have:=wC hr hsz (qK hord) hs k hk;rwa [qJ (by omega)] at this
end
end Go.Proofs.YtdmniljjnaebbaaGreatDoor
