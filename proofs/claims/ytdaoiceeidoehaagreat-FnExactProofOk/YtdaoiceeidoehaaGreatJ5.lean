/- Strata in memory, and the contract of the document's function that looks one up. -/
import Derived.Test.YtdaoiceeidoehaaGreatSpecSchema5
import Derived.RegionTactic
import Derived.Deep.AppendLies
open Go.Proofs.Tryz
set_option maxHeartbeats 80000000
namespace Go.Proofs.YtdaoiceeidoehaaGreat
open Go.ChangeShapes Go.WideShapes Go.ChangeAt Go.RowKit
open Pl
structure St where
 typ:ByteArray
 rel:ByteArray
 n:Int
def LM (w:World) (b off:Nat) (s:St):Prop:=w.cell? ⟨b,off,none⟩=some (.string s.typ)∧w.cell? ⟨b,off + 1,none⟩=some (.string s.rel)∧w.cell? ⟨b,off + 2,none⟩=some (.int .i64 s.n)
def CO (w:World) (ad:Option Addr) (xs:List St):Prop:=xs=[] ∨ ∃ b off,ad=some ⟨b,off,none⟩∧b < w.heap.size∧∀ (i:Nat) (h:i < xs.length),LM w b (off + i * 3) xs[i]
theorem CO.below {w w':World} {ad:Option Addr} {xs:List St} (h:CO w ad xs) (hB:Below w.heap.size w w'):CO w' ad xs:=by
 rcases h with h | ⟨b,off,e,hb,hr⟩
 ·exact .inl h
 ·refine .inr ⟨b,off,e,Nat.lt_of_lt_of_le hb hB.size,fun i hi=>?_⟩;obtain ⟨h0,h1,h2⟩:=hr i hi;exact ⟨ai hB hb h0,ai hB hb h1,ai hB hb h2⟩
def ut (s:St) (typ rel:ByteArray):Bool:=(s.typ.toList == typ.toList) && (s.rel.toList == rel.toList)
def eT (typ rel:ByteArray):List St→Nat→Int
 | [],_=>-1
 | s::xs,k=>if ut s typ rel then (k:Int) else eT typ rel xs (k + 1)
theorem lF (typ rel:ByteArray) (xs:List St) (k:Nat) (h:k < xs.length):eT typ rel (xs.drop k) k=if ut xs[k] typ rel then (k:Int) else eT typ rel (xs.drop (k + 1)) (k + 1):=by
 rw [List.drop_eq_getElem_cons h]; rfl
theorem Ho (ad:Option Addr) (cap:Nat) (xs:List St) (typ rel:ByteArray) (w:World) (hlen:xs.length≤1048576) (hs:CO w ad xs) :
  Calls prog 85 #[.slice ad xs.length cap,.string typ,.string rel] w fun e w'=>e=.returned (.int .i64 (eT typ rel xs 0))∧w'=w:=by
 go_enter func85,ntmps85;go_wp2;go_loopw [7] (fun i wr=>∃ k:Nat,k≤xs.length∧i=.int .i64 k∧Hid (eT typ rel (xs.drop k) k=eT typ rel xs 0)∧wr=w) (fun i _=>xs.length - (intOf i).toNat);case atStart=>exact ⟨0,Nat.zero_le _,rfl,rfl,rfl⟩
 case round =>
  obtain ⟨k,hk,rfl,HP,rfl⟩:=hrel;by_cases hlt:k < xs.length
  ·rcases hs with rfl | ⟨b,off,rfl,hb,hr⟩
   ·simp at hlt
   obtain ⟨t0,t1,t2⟩:=hr k hlt;have hk1:=aY k;have hk2:(k:Int) < (xs.length:Int):=by omega
   clear hr;cases hq:(xs[k].typ.toList == typ.toList) with
   | true =>
    cases hp:(xs[k].rel.toList == rel.toList) with
    | true =>
     have HN:Hid (eT typ rel xs 0=(k:Int)):=by show _=_; rw [← HP.out,lF _ _ _ _ hlt]; simp [ut,hq,hp]
     go_wp2;go_ret;exact ⟨by rw [HN.out]; rfl,rfl⟩
    | false =>
     have HP2:Hid (eT typ rel (xs.drop (k + 1)) (k + 1)=eT typ rel xs 0):=by show _=_; rw [← HP.out,lF _ _ _ _ hlt]; simp [ut,hq,hp]
     go_wp2;go_roundw;case rel=>exact ⟨k + 1,by omega,by go_num,HP2,by first | rfl | trivial⟩
     case measure=>simp [intOf] <;> omega
   | false =>
    have HP2:Hid (eT typ rel (xs.drop (k + 1)) (k + 1)=eT typ rel xs 0):=by show _=_; rw [← HP.out,lF _ _ _ _ hlt]; simp [ut,hq]
    go_wp2;go_roundw;case rel=>exact ⟨k + 1,by omega,by go_num,HP2,by first | rfl | trivial⟩
    case measure=>simp [intOf] <;> omega
  ·have HN:Hid (eT typ rel xs 0=-1):=by show _=_; rw [← HP.out,List.drop_of_length_le (by omega)]; rfl
   go_wp2;go_ret;exact ⟨by rw [HN.out]; rfl,rfl⟩
theorem kV {P:Program} {ops:Array Oper} {Q:Exit→Act→World→Prop} {k:Nat} {o:Oper} {K:Act→World→Prop} {a:Act} (w:World) (hop:ops[k]?=some o) (hgd:o.guard=none) (s x:Operand) (t:TypeId)
  (ho:o.op=.call { callee:=.builtin .append,args:=#[s,x],argTypes:=#[t,t] })
  (base:Nat) (e:TypeId) (i:TypeInfo) (z:Value) (size bytes:Nat) (ht:P.underlying t=some (.slice e)) (hi:P.info? e=some i) (hz:i.zero=some z)
  (hsize:i.size=size) (hby:i.bytes=bytes) (hzs:z.cells.size=size) (hsz:0 < size)
  (v:Value) (n:Nat) (xs:List Value) (hs:a.eval s=v) (hown:w.ownsRow base e size v n xs)
  (ad:Addr) (m c:Nat) (news:List Value) (hx:a.eval x=.slice (some ad) m c) (hl:news.length=m * size) (hnews:∀ j u,news[j]?=some u→w.cell? (ad.add j)=some u) (h1:∀ u ∈ news,u.oneCell'=true)
  (h63:n + m≤maxLen) (hbytes:(n + m) * bytes≤140737488355328) (hbase:base≤w.heap.size)
  (h:∀ v' w',w'.ownsRow base e size v' (n + m) (xs ++ news)→w.grownBy w' v.ownBlock→(v'.ownBlock=v.ownBlock ∨ v'.ownBlock=some w.heap.size)→K (a.put o.dst v') w') :
  wpOp P ops Q k K a w:=by
 refine wpOp_step hop (fun K' hK=>?_);have hw:Region.wanted o (yielded ops a.tmps)=true:=by simp [Region.wanted,hgd]
 rw [if_pos hw];obtain ⟨v',w',hr,h2,h3,h4,h5⟩:=run_append_own_at (P:=P) w base t o.type e i z size bytes ht hi hz hsize hby hzs hsz v n xs hown ad m c news hl hnews h1 h63 hbytes hbase;unfold Oper.wp execOp;simp only [ho,resolve,invoke,builtin,Sem.run_bind,Sem.run_pure,Result.andThen_ok,List.map_toArray,List.map_cons,List.map_nil,hs,hx,hr];exact hK _ _ (h v' w' h2 h3 h5)
structure Aside (w:World) (v:Value) (w':World) (v':Value):Prop where
 size:w.heap.size≤w'.heap.size
 block:∀ k,k < w.heap.size→v.ownBlock ≠ some k→w'.heap[k]?=w.heap[k]?
 own:v'.ownBlock=v.ownBlock ∨ ∃ g,v'.ownBlock=some g∧w.heap.size≤g
theorem Aside.refl (w:World) (v:Value):Aside w v w v:=⟨Nat.le_refl _,fun _ _ _=>rfl,.inl rfl⟩
theorem Aside.apart {w w':World} {v v':Value} {k:Nat} (h:Aside w v w' v') (hk:k < w.heap.size) (hv:v.ownBlock ≠ some k):v'.ownBlock ≠ some k:=by
 rcases h.own with e | ⟨g,e,hg⟩
 ·rw [e]; exact hv
 ·rw [e]; intro h2; injection h2 with h2; omega
theorem Aside.trans {w w1 w2:World} {v v1 v2:Value} (h:Aside w v w1 v1) (h2:Aside w1 v1 w2 v2):Aside w v w2 v2 where
 size:=Nat.le_trans h.size h2.size
 block k hk hv:=(h2.block k (Nat.lt_of_lt_of_le hk h.size) (h.apart hk hv)).trans (h.block k hk hv)
 own:=by
  rcases h2.own with e | ⟨g,e,hg⟩
  ·rw [e]; exact h.own
  ·exact .inr ⟨g,e,Nat.le_trans h.size hg⟩
theorem Aside.below {w w':World} {v:Value} (h:Below w.heap.size w w'):Aside w v w' v:=⟨h.size,fun k hk _=>h.block k hk,.inl rfl⟩
theorem Aside.app {w w':World} {v v':Value} (hg:w.grownBy w' v.ownBlock) (h5:v'.ownBlock=v.ownBlock ∨ v'.ownBlock=some w.heap.size):Aside w v w' v' where
 size:=hg.size
 block k hk hv:=hg.block k hk (fun e=>hv e.symm)
 own:=by
  rcases h5 with e | e
  ·exact .inl e
  ·exact .inr ⟨_,e,Nat.le_refl _⟩
theorem Aside.cell {w w':World} {v v':Value} (h:Aside w v w' v') {p:Addr} (hp:p.block < w.heap.size) (hv:v.ownBlock ≠ some p.block):w'.cell? p=w.cell? p:=World.cell?_of_block (w:=w) (h.block p.block hp hv)
structure Dp where
 typ:ByteArray
 rel:ByteArray
 neg:Bool
def Dp.cells (d:Dp):List Value:=[.string d.typ,.string d.rel,.bool d.neg]
def dA:List Dp→List Value
 | []=>[]
 | d::ds=>d.cells ++ dA ds
theorem yN (xs ys:List Dp):dA (xs ++ ys)=dA xs ++ dA ys:=by
 induction xs with
 | nil=>rfl
 | cons d ds ih=>simp [dA,ih]
theorem nZ (xs:List Dp) (d:Dp):dA (xs ++ [d])=dA xs ++ d.cells:=by rw [yN]; simp [dA]
def bq (neg:Bool):List Al→List Dp
 | []=>[]
 | a::xs=>if a.s.toList.isEmpty then bq neg xs else ⟨a.t,a.s,neg⟩::bq neg xs
def jR (ts:List Ty) (typ:ByteArray) (neg:Bool) (e:Ex):List Dp :=
 if e.kind=2 then [⟨typ,e.name,neg⟩] else if e.kind=3 then (fw ts typ e.over e.name).map fun g=>⟨g,e.name,neg⟩ else []
def iP (ts:List Ty) (typ:ByteArray) (es:List Ex) (k:Nat):List Dp :=
 match es[k]? with
 | none=>[]
 | some e=>bq ((cO es).getD k false) e.allow ++ jR ts typ ((cO es).getD k false) e
def aH (ts:List Ty) (typ:ByteArray) (es:List Ex):Nat→List Dp
 | 0=>[]
 | k + 1=>aH ts typ es k ++ iP ts typ es k
def lG (ts:List Ty) (typ:ByteArray) (es:List Ex):List Dp:=aH ts typ es es.length
theorem oW (neg:Bool) (xs ys:List Al):bq neg (xs ++ ys)=bq neg xs ++ bq neg ys:=by
 induction xs with
 | nil=>rfl
 | cons a xs ih=>simp only [List.cons_append,bq,ih]; split <;> simp
theorem Hq (neg:Bool) (xs:List Al) (k:Nat) (h:k < xs.length) (he:xs[k].s.toList.isEmpty=true):bq neg (xs.take (k + 1))=bq neg (xs.take k):=by
 rw [List.take_succ_eq_append_getElem h,oW]; simp [bq] at he ⊢; simp [he]
theorem FB (neg:Bool) (xs:List Al) (k:Nat) (h:k < xs.length) (he:xs[k].s.toList.isEmpty=false):bq neg (xs.take (k + 1))=bq neg (xs.take k) ++ [⟨xs[k].t,xs[k].s,neg⟩]:=by
 rw [List.take_succ_eq_append_getElem h,oW]; simp [bq,he]
theorem xg (neg:Bool) (xs:List Al):(bq neg xs).length≤xs.length:=by
 induction xs with
 | nil=>simp [bq]
 | cons a xs ih=>simp only [bq]; split <;> simp <;> omega
theorem Hr:(prog.info? 171).map (fun i=>(i.zero,i.size,i.bytes))=some (some (.agg #[.string ⟨#[]⟩,.string ⟨#[]⟩,.bool false]),3,40):=by kernel_rfl
theorem qD {a b:ByteArray} (h:a.toList=b.toList):a=b:=by
 rw [Go.ByteArray.toList_eq,Go.ByteArray.toList_eq] at h;cases a with | mk x=>cases b with | mk y =>
 congr;exact Array.ext' h
theorem dJ {a b:ByteArray}:(a.toList == b.toList)=true ↔ a=b:=⟨fun h=>qD (by simpa using h),fun h=>by simp [h]⟩
def il (t:Ty):List (ByteArray × ByteArray):=t.rels.map fun r=>(t.name,r.name)
def aj (ts:List Ty):List (ByteArray × ByteArray):=ts.flatMap il
def stepOf (d:Dp):Int:=if d.neg then 1 else 0
def fM (ts:List Ty) (k:ByteArray × ByteArray):List Dp:=lG ts k.1 (aC ts k.1 k.2)
structure Sol (ts:List Ty) (f:ByteArray × ByteArray→Int):Prop where
 pos:∀ k,0≤f k
 up:∀ k ∈ aj ts,∀ d ∈ fM ts k,f (d.typ,d.rel) + stepOf d≤f k
def Found (ts:List Ty):Prop:=∀ k ∈ aj ts,∀ d ∈ fM ts k,(d.typ,d.rel) ∈ aj ts
theorem rG (vs:List Int) (x y:Int) (h:x≤y):vs.countP (fun v=>decide (v < x))≤vs.countP (fun v=>decide (v < y)) :=
 List.countP_mono_left fun v _ hv=>by simp at hv ⊢; omega
theorem FD (vs:List Int) (x y:Int) (h:x + 1≤y) (hx:x ∈ vs):vs.countP (fun v=>decide (v < x)) + 1≤vs.countP (fun v=>decide (v < y)):=by
 induction vs with
 | nil=>cases hx
 | cons v vs ih =>
  simp only [List.countP_cons];rcases List.mem_cons.1 hx with rfl | hm
  ·have:=rG vs x y (by omega);have h1:decide (x < x)=false:=by simp
   have h2:decide (x < y)=true:=by simp; omega
   simp only [h1,h2]; simp; omega
  ·have:=ih hm;by_cases h1:v < x
   ·have h2:v < y:=by omega
    simp [h1,h2]; omega
   ·simp only [h1]; simp; omega
theorem CP (vs:List Int) (x:Int) (hx:x ∈ vs):vs.countP (fun v=>decide (v < x)) + 1≤vs.length:=by
 induction vs with
 | nil=>cases hx
 | cons v vs ih =>
  simp only [List.countP_cons,List.length_cons];rcases List.mem_cons.1 hx with rfl | hm
  ·have:=List.countP_le_length (p:=fun v=>decide (v < x)) (l:=vs);have h1:decide (x < x)=false:=by simp
   simp only [h1]; simp; omega
  ·have:=ih hm;split <;> omega
theorem Sol.few {ts:List Ty} {f:ByteArray × ByteArray→Int} (h:Sol ts f) (hF:Found ts):∃ g,Sol ts g∧∀ k ∈ aj ts,g k + 1≤(aj ts).length:=by
 refine ⟨fun k=>((((aj ts).map f).countP (fun v=>decide (v < f k)):Nat):Int),⟨fun k=>by omega,fun k hk d hd=>?_⟩,fun k hk=>?_⟩
 ·have h1:=h.up k hk d hd;have h2:f (d.typ,d.rel) ∈ (aj ts).map f:=List.mem_map_of_mem (hF k hk d hd);unfold stepOf at h1 ⊢;split at h1
  ·rename_i hn;have:=FD ((aj ts).map f) _ _ h1 h2;simp only [hn,if_true]; omega
  ·rename_i hn;have:=rG ((aj ts).map f) _ _ (show f (d.typ,d.rel)≤f k by omega);have e0:(if d.neg=true then (1:Int) else 0)=0:=if_neg hn;rw [e0]; omega
 ·have:=CP ((aj ts).map f) (f k) (List.mem_map_of_mem hk);simp at this ⊢; omega
def jS (ts:List Ty) (k:ByteArray × ByteArray) (n:Int):Prop:=∀ f,Sol ts f→n≤f k
theorem Ht {ts:List Ty} (hF:Found ts) {k:ByteArray × ByteArray} (hk:k ∈ aj ts) {n:Int} (hl:jS ts k n) (hn:((aj ts).length:Int)≤n):¬ ∃ f,Sol ts f:=by
 rintro ⟨f,hf⟩;obtain ⟨g,hg,hb⟩:=hf.few hF;have:=hl g hg;have:=hb k hk;omega
theorem jS.step {ts:List Ty} {k:ByteArray × ByteArray} (hk:k ∈ aj ts) {d:Dp} (hd:d ∈ fM ts k) {n:Int} (hl:jS ts (d.typ,d.rel) n):jS ts k (n + stepOf d):=fun f hf=>by
 have h1:=hl f hf;have h2:=hf.up k hk d hd;omega
theorem jS.zero (ts:List Ty) (k:ByteArray × ByteArray):jS ts k 0:=fun _ hf=>hf.pos k
structure Least (ts:List Ty) (f:ByteArray × ByteArray→Int):Prop where
 sol:Sol ts f
 low:∀ k ∈ aj ts,jS ts k (f k)
theorem Least.same {ts:List Ty} {f g:ByteArray × ByteArray→Int} (hf:Least ts f) (hg:Least ts g) (k:ByteArray × ByteArray) (hk:k ∈ aj ts):f k=g k:=by
 have h1:=hf.low k hk g hg.sol;have h2:=hg.low k hk f hf.sol;omega
def St.key (s:St):ByteArray × ByteArray:=(s.typ,s.rel)
def fO (out:List St):List (ByteArray × ByteArray):=out.map St.key
theorem lH {s:St} {k:ByteArray × ByteArray}:ut s k.1 k.2=true ↔ s.key=k:=by
 unfold ut St.key;rw [Bool.and_eq_true,dJ,dJ];constructor
 ·rintro ⟨h1,h2⟩; rw [h1,h2]
 ·rintro rfl; exact ⟨rfl,rfl⟩
def dU (out:List St) (k:ByteArray × ByteArray):Int :=
 match out with
 | []=>0
 | s::xs=>if ut s k.1 k.2 then s.n else dU xs k
theorem ku {k:ByteArray × ByteArray}:∀ (out:List St) (j:Nat),k ∈ fO out→∃ i:Nat,∃ h:i < out.length,eT k.1 k.2 out j=((j + i:Nat):Int)∧out[i].key=k∧out[i].n=dU out k
 | [],_,h=>by cases h
 | s::xs,j,h=>by
  by_cases hs:ut s k.1 k.2=true
  ·exact ⟨0,by simp,by simp [eT,hs],lH.1 hs,by simp [dU,hs]⟩
  ·have hm:k ∈ fO xs:=by
    rcases List.mem_cons.1 h with e | hm
    ·exact absurd (lH.2 e.symm) hs
    ·exact hm
   obtain ⟨i,hi,h1,h2,h3⟩:=ku xs (j + 1) hm;refine ⟨i + 1,by simp; omega,?_,by simpa using h2,by simpa [dU,hs] using h3⟩;simp only [eT,hs];simp only [Bool.false_eq_true,if_false];rw [h1]; congr 1; omega
theorem xh {k:ByteArray × ByteArray} (out:List St) (h:k ∈ fO out):∃ s ∈ out,s.key=k∧s.n=dU out k:=by
 obtain ⟨i,hi,-,h2,h3⟩:=ku out 0 h;exact ⟨out[i],List.getElem_mem hi,h2,h3⟩
theorem Hu {k:ByteArray × ByteArray} (out:List St) (h:k ∉ fO out):dU out k=0:=by
 induction out with
 | nil=>rfl
 | cons s xs ih =>
  have h1:¬ ut s k.1 k.2=true:=fun e=>h (by rw [lH] at e; simp [fO,e]);simp only [dU,h1];simp only [Bool.false_eq_true,if_false];exact ih fun hm=>h (by simp only [fO,List.map_cons,List.mem_cons]; exact .inr hm)
def jv:List St→Int
 | []=>0
 | s::xs=>s.n + jv xs
theorem Hw (out:List St) (i:Nat) (h:i < out.length) (n:Int):jv (out.set i ⟨out[i].typ,out[i].rel,n⟩)=jv out - out[i].n + n:=by
 induction out generalizing i with
 | nil=>simp at h
 | cons s xs ih =>
  cases i with
  | zero=>simp [jv]; omega
  | succ i=>simp only [List.set_cons_succ,jv,List.getElem_cons_succ]; rw [ih i (by simpa using h)]; omega
theorem FE (out:List St) (i:Nat) (h:i < out.length) (n:Int):fO (out.set i ⟨out[i].typ,out[i].rel,n⟩)=fO out:=by
 unfold fO;rw [List.map_set];show (List.map St.key out).set i (out[i].key)=_;have:out[i].key=(List.map St.key out)[i]'(by simpa using h):=by simp
 rw [this,List.set_getElem_self]
structure Round (ts:List Ty) (out:List St):Prop where
 keys:fO out=aj ts
 pos:∀ s ∈ out,0≤s.n
 low:∀ s ∈ out,jS ts s.key s.n
def JL (ts:List Ty) (out:List St) (s:St) (k:Nat):Prop:=∀ d ∈ (fM ts s.key).take k,dU out (d.typ,d.rel) + stepOf d≤s.n
theorem Round.mem {ts:List Ty} {out:List St} (h:Round ts out) {s:St} (hs:s ∈ out):s.key ∈ aj ts:=by rw [← h.keys]; exact List.mem_map_of_mem hs
theorem Round.at {ts:List Ty} {out:List St} (h:Round ts out) {k:ByteArray × ByteArray} (hk:k ∈ aj ts):0≤dU out k∧jS ts k (dU out k):=by
 obtain ⟨s,hs,e,en⟩:=xh out (by rw [h.keys]; exact hk);rw [← en,← e];exact ⟨h.pos s hs,h.low s hs⟩
theorem Round.set {ts:List Ty} {out:List St} (h:Round ts out) (hF:Found ts) {i:Nat} (hi:i < out.length) {d:Dp} (hd:d ∈ fM ts out[i].key):Round ts (out.set i ⟨out[i].typ,out[i].rel,dU out (d.typ,d.rel) + stepOf d⟩):=by
 have hk:out[i].key ∈ aj ts:=h.mem (List.getElem_mem hi);have hdk:=hF _ hk d hd;obtain ⟨h0,hl⟩:=h.at hdk;have hs0:0≤stepOf d:=by unfold stepOf; split <;> omega
 refine ⟨(FE out i hi _).trans h.keys,fun s hs=>?_,fun s hs=>?_⟩
 ·rcases List.mem_or_eq_of_mem_set hs with hs | rfl
  ·exact h.pos s hs
  ·show 0≤dU out (d.typ,d.rel) + stepOf d; omega
 ·rcases List.mem_or_eq_of_mem_set hs with hs | rfl
  ·exact h.low s hs
  ·exact hl.step hk hd
theorem Round.done {ts:List Ty} {out:List St} (h:Round ts out) (hs:∀ s ∈ out,JL ts out s (fM ts s.key).length):Least ts (dU out) where
 sol:=⟨fun k=>by
   by_cases hk:k ∈ aj ts
   ·exact (h.at hk).1
   ·rw [Hu out (by rw [h.keys]; exact hk)]; exact Int.le_refl _,fun k hk d hd=>by
   obtain ⟨s,hm,e,en⟩:=xh out (by rw [h.keys]; exact hk);have:=hs s hm d (by rw [List.take_length,e]; exact hd);rw [← en]; exact this⟩
 low k hk:=(h.at hk).2
def iq (x y:Al):Bool:=x.t.toList == y.t.toList && x.s.toList == y.s.toList
def GY (a:Al):Bool:=aO a.t && tV a.s
def cz (xs:List Al) (k:Nat) (a:Al):Bool:=(xs.take k).any fun x=>iq x a
theorem kv (xs:List Al) (k:Nat) (a:Al) (h:k < xs.length):cz xs (k + 1) a=(cz xs k a || iq xs[k] a):=by
 unfold cz; rw [List.take_succ_eq_append_getElem h,List.any_append]; simp
theorem kw (xs:List Al) (a:Al):cz xs 0 a=false:=by simp [cz]
def yO (xs:List Al):Nat→Bool
 | 0=>true
 | k + 1=>yO xs k && (xs[k]?.map fun a=>GY a && !cz xs k a).getD true
theorem oZ (xs:List Al) (k:Nat) (h:k < xs.length):yO xs (k + 1)=(yO xs k && (GY xs[k] && !cz xs k xs[k])):=by
 simp [yO,h]
theorem jD (xs:List Al) (k:Nat) (h:k < xs.length) (hb:(GY xs[k] && !cz xs k xs[k])=false):∀ n,k < n→yO xs n=false
 | 0,hn=>by omega
 | n + 1,hn=>by
  by_cases e:n=k
  ·subst e; rw [oZ _ _ h,hb]; simp
  ·simp [yO,jD xs k h hb n (by omega)]
def fB (xs:List Al):Bool:=decide (1≤xs.length) && decide (xs.length≤6) && yO xs xs.length
def ak (e:Ex):Bool :=
 if e.kind=1 then fB e.allow && e.over.toList.isEmpty && e.name.toList.isEmpty && decide (e.kids.length=0)
 else if e.kind=2 then aO e.name && decide (e.allow.length=0) && e.over.toList.isEmpty && decide (e.kids.length=0)
 else if e.kind=3 then aO e.over && aO e.name && decide (e.allow.length=0) && decide (e.kids.length=0)
 else if e.kind=4 ∨ e.kind=5 then decide (2≤e.kids.length) && decide (e.kids.length≤5) && decide (e.allow.length=0) && e.over.toList.isEmpty && e.name.toList.isEmpty
 else if e.kind=6 then decide (e.kids.length=2) && decide (e.allow.length=0) && e.over.toList.isEmpty && e.name.toList.isEmpty
 else false
def dK (f:Int→Int):List Int→Int→Int
 | [],at'=>at' + 1
 | k::ks,at'=>if at' < 0 ∨ k ≠ at' then -1 else if f at' < 0 then -1 else dK f ks (f at' - 1)
def lI (es:List Ex) (n:Nat):List Int:=(es[n]?.map Ex.kids).getD []
def aF (es:List Ex) (n:Nat):Int:=dK (fun x=>if _h:0≤x∧x.toNat < n then aF es x.toNat else -1) (lI es n).reverse ((n:Int) - 1)
def dO (es:List Ex) (n:Nat) (x:Int):Int:=if 0≤x∧x.toNat < n then aF es x.toNat else -1
theorem jT (es:List Ex) (n:Nat):aF es n=dK (dO es n) (lI es n).reverse ((n:Int) - 1):=by
 rw [aF];rfl
theorem xk {f:Int→Int} (hf:∀ x,0≤x→f x≤x):∀ (ks:List Int) (a:Int),-1≤a→dK f ks a≤a + 1
 | [],a,_=>by simp [dK]
 | k::ks,a,ha=>by
  unfold dK;split
  ·omega
  ·rename_i h;split
   ·omega
   ·rename_i h2;have h0:0≤a:=by omega
    have:=xk hf ks (f a - 1) (by omega);have:=hf a h0;omega
theorem mP (es:List Ex) (n:Nat):aF es n≤n:=by
 induction n using Nat.strongRecOn with
 | ind n ih =>
  rw [jT];have:=xk (f:=dO es n) (fun x hx=>by
   unfold dO;split
   ·rename_i h; have:=ih x.toNat h.2; omega
   ·omega) (lI es n).reverse ((n:Int) - 1) (by omega)
  omega
theorem Hy (es:List Ex) (n:Nat) (x:Int) (hx:0≤x):dO es n x≤x:=by
 unfold dO;split
 ·have:=mP es x.toNat; omega
 ·omega
theorem nD {es:List Ex} {n:Nat} (ih:∀ m,m < n→0≤aF es m→∀ j:Nat,aF es m≤j→j≤m→0≤aF es j) :
  ∀ (ks:List Int) (a:Int),a < n→0≤dK (dO es n) ks a→∀ j:Nat,dK (dO es n) ks a≤j→(j:Int)≤a→0≤aF es j
 | [],a,ha,h,j,h1,h2=>by simp [dK] at h1; omega
 | k::ks,a,ha,h,j,h1,h2=>by
  unfold dK at h h1;split at h
  ·omega
  ·rename_i c;rw [if_neg c] at h1;split at h
   ·omega
   ·rename_i c2;rw [if_neg c2] at h1;have h0:0≤a:=by omega
    have hF:dO es n a=aF es a.toNat:=by unfold dO; rw [if_pos ⟨h0,by omega⟩]
    rw [hF] at h h1 c2;by_cases hj:aF es a.toNat≤j
    ·exact ih a.toNat (by omega) (by omega) j hj (by omega)
    ·exact nD ih ks (aF es a.toNat - 1) (by have:=mP es a.toNat; omega) h j h1 (by omega)
theorem nE (es:List Ex) (n:Nat):0≤aF es n→∀ j:Nat,aF es n≤j→j≤n→0≤aF es j:=by
 induction n using Nat.strongRecOn with
 | ind n ih =>
  intro h j h1 h2;by_cases e:j=n
  ·subst e; exact h
  ·rw [jT] at h h1;exact nD ih _ _ (by omega) h j h1 (by omega)
def jL (es:List Ex) (i:Nat):Bool:=(lI es i).all fun k=>decide (0≤k) && decide (k≤(i:Int) - 1)
theorem rH {es:List Ex} {n:Nat}:∀ (ks:List Int) (a:Int),a < n→0≤dK (dO es n) ks a→∀ k ∈ ks,0≤k∧k≤a
 | [],_,_,_,k,hk=>by cases hk
 | x::ks,a,ha,h,k,hk=>by
  unfold dK at h;split at h
  ·omega
  ·rename_i c;split at h
   ·omega
   ·rename_i c2;have h0:0≤a:=by omega
    rcases List.mem_cons.1 hk with rfl | hk
    ·omega
    ·have hl:=Hy es n a h0;have:=rH ks (dO es n a - 1) (by omega) h k hk;omega
theorem FH (es:List Ex) (i:Nat) (h:0≤aF es i):jL es i=true:=by
 unfold jL;rw [List.all_eq_true];intro k hk;rw [jT] at h;have:=rH _ _ (by omega) h k (by simpa using hk);simp; omega
def Hz (es:List Ex) (n:Nat):Prop:=∀ j,j < n→0≤aF es j
def own (es:List Ex):Nat:=(es.filter fun e=>decide (e.kind=1)).length
def eH (es:List Ex) (k:Nat):Nat:=own (es.take k)
theorem uu (es:List Ex) (k:Nat) (h:k < es.length):eH es (k + 1)=eH es k + (if es[k].kind=1 then 1 else 0):=by
 unfold eH own;rw [List.take_succ_eq_append_getElem h,List.filter_append,List.length_append];by_cases e:es[k].kind=1 <;> simp [e]
theorem pg (es:List Ex) (k:Nat):eH es k≤k:=by
 unfold eH own;exact Nat.le_trans (List.length_filter_le ..) (by simp; omega)
def gV (es:List Ex) (k:Nat):Bool:=(es.take k).all ak
theorem pq (es:List Ex) (k:Nat) (h:k < es.length):gV es (k + 1)=(gV es k && ak es[k]):=by
 unfold gV; rw [List.take_succ_eq_append_getElem h,List.all_append]; simp
theorem xm (es:List Ex) (k:Nat) (h:k < es.length) (hb:ak es[k]=false):es.all ak=false:=by
 rw [Bool.eq_false_iff]; intro h2; rw [List.all_eq_true] at h2; have:=h2 es[k] (List.getElem_mem h); rw [hb] at this; cases this
def gW (es:List Ex) (k:Nat):Bool:=(List.range k).all (jL es)
theorem Ao (es:List Ex) (k:Nat):gW es (k + 1)=(gW es k && jL es k):=by simp [gW,List.range_succ]
theorem H6 (es:List Ex) (k:Nat) (h:k < es.length) (hb:jL es k=false):gW es es.length=false:=by
 rw [Bool.eq_false_iff]; intro h2; unfold gW at h2; rw [List.all_eq_true] at h2; have:=h2 k (by simpa using h); rw [hb] at this; cases this
def aR (es:List Ex):Bool:=decide (1≤es.length) && decide (es.length≤15) && es.all ak && gW es es.length && decide (own es≤1) && decide (aF es (es.length - 1)=0)
def iJ (es:List Ex):Bool:=(List.range es.length).all fun j=>decide (0≤aF es j)
def iV (es:List Ex):Bool:=decide (1≤es.length) && decide (es.length≤15) && es.all ak && decide (own es≤1) && (iJ es && decide (aF es (es.length - 1)=0))
theorem xq (es:List Ex):aR es=iV es:=by
 by_cases h1:1≤es.length
 ·by_cases ht:aF es (es.length - 1)=0
  ·have ha:iJ es=true:=by
    unfold iJ;rw [List.all_eq_true];intro j hj;have hj':j < es.length:=by simpa using hj
    simpa using nE es (es.length - 1) (by omega) j (by omega) (by omega)
   have hk:gW es es.length=true:=by
    unfold gW;rw [List.all_eq_true];intro j hj;have hj':j < es.length:=by simpa using hj
    exact FH es j (nE es (es.length - 1) (by omega) j (by omega) (by omega))
   simp [aR,iV,ht,ha,hk,h1]
  ·simp [aR,iV,ht]
 ·simp [aR,iV,h1]
end Go.Proofs.YtdaoiceeidoehaaGreat
