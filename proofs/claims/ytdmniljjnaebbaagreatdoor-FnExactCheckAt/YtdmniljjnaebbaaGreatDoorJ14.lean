/- Strata in memory, and the contract of the document's function that looks one up. -/
import Derived.Test.YtdmniljjnaebbaaGreatDoorJ13
import Derived.RegionTactic
import Derived.Deep.AppendLies
open Go.Proofs.Tryz
set_option maxHeartbeats 80000000
namespace Go.Proofs.YtdmniljjnaebbaaGreatDoor
open Go.ChangeShapes Go.WideShapes Go.ChangeAt Go.RowKit
open Pl
structure St where
 typ:ByteArray
 rel:ByteArray
 n:Int
def Nz (w:World) (b off:Nat) (s:St):Prop:=w.cell? ⟨b,off,none⟩=some (.string s.typ)∧w.cell? ⟨b,off + 1,none⟩=some (.string s.rel)∧w.cell? ⟨b,off + 2,none⟩=some (.int .i64 s.n)
def Eu (w:World) (ad:Option Addr) (xs:List St):Prop:=xs=[] ∨ ∃ b off,ad=some ⟨b,off,none⟩∧b < w.heap.size∧∀ (i:Nat) (h:i < xs.length),Nz w b (off + i * 3) xs[i]
theorem Eu.below {w w':World} {ad:Option Addr} {xs:List St} (h:Eu w ad xs) (hB:Below w.heap.size w w'):Eu w' ad xs:=by
 rcases h with h | ⟨b,off,e,hb,hr⟩
 ·exact .inl h
 ·refine .inr ⟨b,off,e,Nat.lt_of_lt_of_le hb hB.size,fun i hi=>?_⟩;obtain ⟨h0,h1,h2⟩:=hr i hi;exact ⟨ah hB hb h0,ah hB hb h1,ah hB hb h2⟩
def wP (s:St) (typ rel:ByteArray):Bool:=(s.typ.toList == typ.toList) && (s.rel.toList == rel.toList)
def fu (typ rel:ByteArray):List St→Nat→Int
 | [],_=>-1
 | s::xs,k=>if wP s typ rel then (k:Int) else fu typ rel xs (k + 1)
theorem mO (typ rel:ByteArray) (xs:List St) (k:Nat) (h:k < xs.length):fu typ rel (xs.drop k) k=if wP xs[k] typ rel then (k:Int) else fu typ rel (xs.drop (k + 1)) (k + 1):=by
 rw [List.drop_eq_getElem_cons h]; rfl
theorem JH (ad:Option Addr) (cap:Nat) (xs:List St) (typ rel:ByteArray) (w:World) (hlen:xs.length≤1048576) (hs:Eu w ad xs) :
  Calls prog 118 #[.slice ad xs.length cap,.string typ,.string rel] w fun e w'=>e=.returned (.int .i64 (fu typ rel xs 0))∧w'=w:=by
 go_enter func118,ntmps118;go_wp2;go_loopw [7] (fun i wr=>∃ k:Nat,k≤xs.length∧i=.int .i64 k∧Hid (fu typ rel (xs.drop k) k=fu typ rel xs 0)∧wr=w) (fun i _=>xs.length - (intOf i).toNat);case atStart=>exact ⟨0,Nat.zero_le _,rfl,rfl,rfl⟩
 case round =>
  obtain ⟨k,hk,rfl,HP,rfl⟩:=hrel;by_cases hlt:k < xs.length
  ·rcases hs with rfl | ⟨b,off,rfl,hb,hr⟩
   ·simp at hlt
   obtain ⟨t0,t1,t2⟩:=hr k hlt;have hk1:=bq k;have hk2:(k:Int) < (xs.length:Int):=by omega
   clear hr;cases hq:(xs[k].typ.toList == typ.toList) with
   | true =>
    cases hp:(xs[k].rel.toList == rel.toList) with
    | true =>
     have HN:Hid (fu typ rel xs 0=(k:Int)):=by show _=_; rw [← HP.out,mO _ _ _ _ hlt]; simp [wP,hq,hp]
     go_wp2;go_ret;exact ⟨by rw [HN.out]; rfl,rfl⟩
    | false =>
     have HP2:Hid (fu typ rel (xs.drop (k + 1)) (k + 1)=fu typ rel xs 0):=by show _=_; rw [← HP.out,mO _ _ _ _ hlt]; simp [wP,hq,hp]
     go_wp2;go_roundw;case rel=>exact ⟨k + 1,by omega,by go_num,HP2,by first | rfl | trivial⟩
     case measure=>simp [intOf] <;> omega
   | false =>
    have HP2:Hid (fu typ rel (xs.drop (k + 1)) (k + 1)=fu typ rel xs 0):=by show _=_; rw [← HP.out,mO _ _ _ _ hlt]; simp [wP,hq]
    go_wp2;go_roundw;case rel=>exact ⟨k + 1,by omega,by go_num,HP2,by first | rfl | trivial⟩
    case measure=>simp [intOf] <;> omega
  ·have HN:Hid (fu typ rel xs 0=-1):=by show _=_; rw [← HP.out,List.drop_of_length_le (by omega)]; rfl
   go_wp2;go_ret;exact ⟨by rw [HN.out]; rfl,rfl⟩
theorem mf {P:Program} {ops:Array Oper} {Q:Exit→Act→World→Prop} {k:Nat} {o:Oper} {K:Act→World→Prop} {a:Act} (w:World) (hop:ops[k]?=some o) (hgd:o.guard=none) (s x:Operand) (t:TypeId)
  (ho:o.op=.call { callee:=.builtin .append,args:=#[s,x],argTypes:=#[t,t] })
  (base:Nat) (e:TypeId) (i:TypeInfo) (z:Value) (size bytes:Nat) (ht:P.underlying t=some (.slice e)) (hi:P.info? e=some i) (hz:i.zero=some z)
  (hsize:i.size=size) (hby:i.bytes=bytes) (hzs:z.cells.size=size) (hsz:0 < size)
  (v:Value) (n:Nat) (xs:List Value) (hs:a.eval s=v) (hown:w.ownsRow base e size v n xs)
  (ad:Addr) (m c:Nat) (news:List Value) (hx:a.eval x=.slice (some ad) m c) (hl:news.length=m * size) (hnews:∀ j u,news[j]?=some u→w.cell? (ad.add j)=some u) (h1:∀ u ∈ news,u.oneCell'=true)
  (h63:n + m≤maxLen) (hbytes:(n + m) * bytes≤140737488355328) (hbase:base≤w.heap.size)
  (h:∀ v' w',w'.ownsRow base e size v' (n + m) (xs ++ news)→w.grownBy w' v.ownBlock→(v'.ownBlock=v.ownBlock ∨ v'.ownBlock=some w.heap.size)→K (a.put o.dst v') w') :
  wpOp P ops Q k K a w:=by
 refine wpOp_step hop (fun K' hK=>?_);have hw:Region.wanted o (yielded ops a.tmps)=true:=by simp [Region.wanted,hgd]
 rw [if_pos hw];obtain ⟨v',w',hr,h2,h3,h4,h5⟩:=run_append_own_at (P:=P) w base t o.type e i z size bytes ht hi hz hsize hby hzs hsz v n xs hown ad m c news hl hnews h1 h63 hbytes hbase;unfold Oper.wp execOp;simp only [ho,resolve,invoke,builtin,Sem.run_bind,Sem.run_pure,Result.andThen_ok,List.map_toArray,List.map_cons,List.map_nil,hs,hx,hr];exact hK _ _ (h v' w' h2 h3 h5)
structure Aside (w:World) (v:Value) (w':World) (v':Value):Prop where
 size:w.heap.size≤w'.heap.size
 block:∀ k,k < w.heap.size→v.ownBlock ≠ some k→w'.heap[k]?=w.heap[k]?
 own:v'.ownBlock=v.ownBlock ∨ ∃ g,v'.ownBlock=some g∧w.heap.size≤g
theorem Aside.refl (w:World) (v:Value):Aside w v w v:=⟨Nat.le_refl _,fun _ _ _=>rfl,.inl rfl⟩
theorem Aside.apart {w w':World} {v v':Value} {k:Nat} (h:Aside w v w' v') (hk:k < w.heap.size) (hv:v.ownBlock ≠ some k):v'.ownBlock ≠ some k:=by
 rcases h.own with e | ⟨g,e,hg⟩
 ·rw [e]; exact hv
 ·rw [e]; intro h2; injection h2 with h2; omega
theorem Aside.trans {w w1 w2:World} {v v1 v2:Value} (h:Aside w v w1 v1) (h2:Aside w1 v1 w2 v2):Aside w v w2 v2 where
 size:=Nat.le_trans h.size h2.size
 block k hk hv:=(h2.block k (Nat.lt_of_lt_of_le hk h.size) (h.apart hk hv)).trans (h.block k hk hv)
 own:=by
  rcases h2.own with e | ⟨g,e,hg⟩
  ·rw [e]; exact h.own
  ·exact .inr ⟨g,e,Nat.le_trans h.size hg⟩
theorem Aside.below {w w':World} {v:Value} (h:Below w.heap.size w w'):Aside w v w' v:=⟨h.size,fun k hk _=>h.block k hk,.inl rfl⟩
theorem Aside.app {w w':World} {v v':Value} (hg:w.grownBy w' v.ownBlock) (h5:v'.ownBlock=v.ownBlock ∨ v'.ownBlock=some w.heap.size):Aside w v w' v' where
 size:=hg.size
 block k hk hv:=hg.block k hk (fun e=>hv e.symm)
 own:=by
  rcases h5 with e | e
  ·exact .inl e
  ·exact .inr ⟨_,e,Nat.le_refl _⟩
theorem Aside.cell {w w':World} {v v':Value} (h:Aside w v w' v') {p:Addr} (hp:p.block < w.heap.size) (hv:v.ownBlock ≠ some p.block):w'.cell? p=w.cell? p:=World.cell?_of_block (w:=w) (h.block p.block hp hv)
structure Dp where
 typ:ByteArray
 rel:ByteArray
 neg:Bool
def Dp.cells (d:Dp):List Value:=[.string d.typ,.string d.rel,.bool d.neg]
def dD:List Dp→List Value
 | []=>[]
 | d::ds=>d.cells ++ dD ds
theorem AR (xs ys:List Dp):dD (xs ++ ys)=dD xs ++ dD ys:=by
 induction xs with
 | nil=>rfl
 | cons d ds ih=>simp [dD,ih]
theorem pM (xs:List Dp) (d:Dp):dD (xs ++ [d])=dD xs ++ d.cells:=by rw [AR]; simp [dD]
def bH (neg:Bool):List Al→List Dp
 | []=>[]
 | a::xs=>if a.s.toList.isEmpty then bH neg xs else ⟨a.t,a.s,neg⟩::bH neg xs
def kM (ts:List Ty) (typ:ByteArray) (neg:Bool) (e:Ex):List Dp :=
 if e.kind=2 then [⟨typ,e.name,neg⟩] else if e.kind=3 then (fH ts typ e.over e.name).map fun g=>⟨g,e.name,neg⟩ else []
def jk (ts:List Ty) (typ:ByteArray) (es:List Ex) (k:Nat):List Dp :=
 match es[k]? with
 | none=>[]
 | some e=>bH ((dm es).getD k false) e.allow ++ kM ts typ ((dm es).getD k false) e
def aJ (ts:List Ty) (typ:ByteArray) (es:List Ex):Nat→List Dp
 | 0=>[]
 | k + 1=>aJ ts typ es k ++ jk ts typ es k
def mP (ts:List Ty) (typ:ByteArray) (es:List Ex):List Dp:=aJ ts typ es es.length
theorem qN (neg:Bool) (xs ys:List Al):bH neg (xs ++ ys)=bH neg xs ++ bH neg ys:=by
 induction xs with
 | nil=>rfl
 | cons a xs ih=>simp only [List.cons_append,bH,ih]; split <;> simp
theorem JI (neg:Bool) (xs:List Al) (k:Nat) (h:k < xs.length) (he:xs[k].s.toList.isEmpty=true):bH neg (xs.take (k + 1))=bH neg (xs.take k):=by
 rw [List.take_succ_eq_append_getElem h,qN]; simp [bH] at he ⊢; simp [he]
theorem Hg (neg:Bool) (xs:List Al) (k:Nat) (h:k < xs.length) (he:xs[k].s.toList.isEmpty=false):bH neg (xs.take (k + 1))=bH neg (xs.take k) ++ [⟨xs[k].t,xs[k].s,neg⟩]:=by
 rw [List.take_succ_eq_append_getElem h,qN]; simp [bH,he]
theorem zk (neg:Bool) (xs:List Al):(bH neg xs).length≤xs.length:=by
 induction xs with
 | nil=>simp [bH]
 | cons a xs ih=>simp only [bH]; split <;> simp <;> omega
theorem JJ:(prog.info? 210).map (fun i=>(i.zero,i.size,i.bytes))=some (some (.agg #[.string ⟨#[]⟩,.string ⟨#[]⟩,.bool false]),3,40):=by kernel_rfl
theorem sj {a b:ByteArray} (h:a.toList=b.toList):a=b:=by
 rw [Go.ByteArray.toList_eq,Go.ByteArray.toList_eq] at h;cases a with | mk x=>cases b with | mk y =>
 congr;exact Array.ext' h
theorem dJ {a b:ByteArray}:(a.toList == b.toList)=true ↔ a=b:=⟨fun h=>sj (by simpa using h),fun h=>by simp [h]⟩
def jd (t:Ty):List (ByteArray × ByteArray):=t.rels.map fun r=>(t.name,r.name)
def ai (ts:List Ty):List (ByteArray × ByteArray):=ts.flatMap jd
def stepOf (d:Dp):Int:=if d.neg then 1 else 0
def fQ (ts:List Ty) (k:ByteArray × ByteArray):List Dp:=mP ts k.1 (aG ts k.1 k.2)
structure Sol (ts:List Ty) (f:ByteArray × ByteArray→Int):Prop where
 pos:∀ k,0≤f k
 up:∀ k ∈ ai ts,∀ d ∈ fQ ts k,f (d.typ,d.rel) + stepOf d≤f k
def Found (ts:List Ty):Prop:=∀ k ∈ ai ts,∀ d ∈ fQ ts k,(d.typ,d.rel) ∈ ai ts
theorem tY (vs:List Int) (x y:Int) (h:x≤y):vs.countP (fun v=>decide (v < x))≤vs.countP (fun v=>decide (v < y)) :=
 List.countP_mono_left fun v _ hv=>by simp at hv ⊢; omega
theorem Hl (vs:List Int) (x y:Int) (h:x + 1≤y) (hx:x ∈ vs):vs.countP (fun v=>decide (v < x)) + 1≤vs.countP (fun v=>decide (v < y)):=by
 induction vs with
 | nil=>cases hx
 | cons v vs ih =>
  simp only [List.countP_cons];rcases List.mem_cons.1 hx with rfl | hm
  ·have:=tY vs x y (by omega);have h1:decide (x < x)=false:=by simp
   have h2:decide (x < y)=true:=by simp; omega
   simp only [h1,h2]; simp; omega
  ·have:=ih hm;by_cases h1:v < x
   ·have h2:v < y:=by omega
    simp [h1,h2]; omega
   ·simp only [h1]; simp; omega
theorem Ev (vs:List Int) (x:Int) (hx:x ∈ vs):vs.countP (fun v=>decide (v < x)) + 1≤vs.length:=by
 induction vs with
 | nil=>cases hx
 | cons v vs ih =>
  simp only [List.countP_cons,List.length_cons];rcases List.mem_cons.1 hx with rfl | hm
  ·have:=List.countP_le_length (p:=fun v=>decide (v < x)) (l:=vs);have h1:decide (x < x)=false:=by simp
   simp only [h1]; simp; omega
  ·have:=ih hm;split <;> omega
theorem Sol.few {ts:List Ty} {f:ByteArray × ByteArray→Int} (h:Sol ts f) (hF:Found ts):∃ g,Sol ts g∧∀ k ∈ ai ts,g k + 1≤(ai ts).length:=by
 refine ⟨fun k=>((((ai ts).map f).countP (fun v=>decide (v < f k)):Nat):Int),⟨fun k=>by omega,fun k hk d hd=>?_⟩,fun k hk=>?_⟩
 ·have h1:=h.up k hk d hd;have h2:f (d.typ,d.rel) ∈ (ai ts).map f:=List.mem_map_of_mem (hF k hk d hd);unfold stepOf at h1 ⊢;split at h1
  ·rename_i hn;have:=Hl ((ai ts).map f) _ _ h1 h2;simp only [hn,if_true]; omega
  ·rename_i hn;have:=tY ((ai ts).map f) _ _ (show f (d.typ,d.rel)≤f k by omega);have e0:(if d.neg=true then (1:Int) else 0)=0:=if_neg hn;rw [e0]; omega
 ·have:=Ev ((ai ts).map f) (f k) (List.mem_map_of_mem hk);simp at this ⊢; omega
def kN (ts:List Ty) (k:ByteArray × ByteArray) (n:Int):Prop:=∀ f,Sol ts f→n≤f k
theorem JK {ts:List Ty} (hF:Found ts) {k:ByteArray × ByteArray} (hk:k ∈ ai ts) {n:Int} (hl:kN ts k n) (hn:((ai ts).length:Int)≤n):¬ ∃ f,Sol ts f:=by
 rintro ⟨f,hf⟩;obtain ⟨g,hg,hb⟩:=hf.few hF;have:=hl g hg;have:=hb k hk;omega
theorem kN.step {ts:List Ty} {k:ByteArray × ByteArray} (hk:k ∈ ai ts) {d:Dp} (hd:d ∈ fQ ts k) {n:Int} (hl:kN ts (d.typ,d.rel) n):kN ts k (n + stepOf d):=fun f hf=>by
 have h1:=hl f hf;have h2:=hf.up k hk d hd;omega
theorem kN.zero (ts:List Ty) (k:ByteArray × ByteArray):kN ts k 0:=fun _ hf=>hf.pos k
structure Least (ts:List Ty) (f:ByteArray × ByteArray→Int):Prop where
 sol:Sol ts f
 low:∀ k ∈ ai ts,kN ts k (f k)
theorem Least.same {ts:List Ty} {f g:ByteArray × ByteArray→Int} (hf:Least ts f) (hg:Least ts g) (k:ByteArray × ByteArray) (hk:k ∈ ai ts):f k=g k:=by
 have h1:=hf.low k hk g hg.sol;have h2:=hg.low k hk f hf.sol;omega
def St.key (s:St):ByteArray × ByteArray:=(s.typ,s.rel)
def fT (out:List St):List (ByteArray × ByteArray):=out.map St.key
theorem mQ {s:St} {k:ByteArray × ByteArray}:wP s k.1 k.2=true ↔ s.key=k:=by
 unfold wP St.key;rw [Bool.and_eq_true,dJ,dJ];constructor
 ·rintro ⟨h1,h2⟩; rw [h1,h2]
 ·rintro rfl; exact ⟨rfl,rfl⟩
def dW (out:List St) (k:ByteArray × ByteArray):Int :=
 match out with
 | []=>0
 | s::xs=>if wP s k.1 k.2 then s.n else dW xs k
theorem lI {k:ByteArray × ByteArray}:∀ (out:List St) (j:Nat),k ∈ fT out→∃ i:Nat,∃ h:i < out.length,fu k.1 k.2 out j=((j + i:Nat):Int)∧out[i].key=k∧out[i].n=dW out k
 | [],_,h=>by cases h
 | s::xs,j,h=>by
  by_cases hs:wP s k.1 k.2=true
  ·exact ⟨0,by simp,by simp [fu,hs],mQ.1 hs,by simp [dW,hs]⟩
  ·have hm:k ∈ fT xs:=by
    rcases List.mem_cons.1 h with e | hm
    ·exact absurd (mQ.2 e.symm) hs
    ·exact hm
   obtain ⟨i,hi,h1,h2,h3⟩:=lI xs (j + 1) hm;refine ⟨i + 1,by simp; omega,?_,by simpa using h2,by simpa [dW,hs] using h3⟩;simp only [fu,hs];simp only [Bool.false_eq_true,if_false];rw [h1]; congr 1; omega
theorem zl {k:ByteArray × ByteArray} (out:List St) (h:k ∈ fT out):∃ s ∈ out,s.key=k∧s.n=dW out k:=by
 obtain ⟨i,hi,-,h2,h3⟩:=lI out 0 h;exact ⟨out[i],List.getElem_mem hi,h2,h3⟩
theorem JL {k:ByteArray × ByteArray} (out:List St) (h:k ∉ fT out):dW out k=0:=by
 induction out with
 | nil=>rfl
 | cons s xs ih =>
  have h1:¬ wP s k.1 k.2=true:=fun e=>h (by rw [mQ] at e; simp [fT,e]);simp only [dW,h1];simp only [Bool.false_eq_true,if_false];exact ih fun hm=>h (by simp only [fT,List.map_cons,List.mem_cons]; exact .inr hm)
def jQ:List St→Int
 | []=>0
 | s::xs=>s.n + jQ xs
theorem JM (out:List St) (i:Nat) (h:i < out.length) (n:Int):jQ (out.set i ⟨out[i].typ,out[i].rel,n⟩)=jQ out - out[i].n + n:=by
 induction out generalizing i with
 | nil=>simp at h
 | cons s xs ih =>
  cases i with
  | zero=>simp [jQ]; omega
  | succ i=>simp only [List.set_cons_succ,jQ,List.getElem_cons_succ]; rw [ih i (by simpa using h)]; omega
theorem Hm (out:List St) (i:Nat) (h:i < out.length) (n:Int):fT (out.set i ⟨out[i].typ,out[i].rel,n⟩)=fT out:=by
 unfold fT;rw [List.map_set];show (List.map St.key out).set i (out[i].key)=_;have:out[i].key=(List.map St.key out)[i]'(by simpa using h):=by simp
 rw [this,List.set_getElem_self]
structure Round (ts:List Ty) (out:List St):Prop where
 keys:fT out=ai ts
 pos:∀ s ∈ out,0≤s.n
 low:∀ s ∈ out,kN ts s.key s.n
def Lr (ts:List Ty) (out:List St) (s:St) (k:Nat):Prop:=∀ d ∈ (fQ ts s.key).take k,dW out (d.typ,d.rel) + stepOf d≤s.n
theorem Round.mem {ts:List Ty} {out:List St} (h:Round ts out) {s:St} (hs:s ∈ out):s.key ∈ ai ts:=by rw [← h.keys]; exact List.mem_map_of_mem hs
theorem Round.at {ts:List Ty} {out:List St} (h:Round ts out) {k:ByteArray × ByteArray} (hk:k ∈ ai ts):0≤dW out k∧kN ts k (dW out k):=by
 obtain ⟨s,hs,e,en⟩:=zl out (by rw [h.keys]; exact hk);rw [← en,← e];exact ⟨h.pos s hs,h.low s hs⟩
theorem Round.set {ts:List Ty} {out:List St} (h:Round ts out) (hF:Found ts) {i:Nat} (hi:i < out.length) {d:Dp} (hd:d ∈ fQ ts out[i].key):Round ts (out.set i ⟨out[i].typ,out[i].rel,dW out (d.typ,d.rel) + stepOf d⟩):=by
 have hk:out[i].key ∈ ai ts:=h.mem (List.getElem_mem hi);have hdk:=hF _ hk d hd;obtain ⟨h0,hl⟩:=h.at hdk;have hs0:0≤stepOf d:=by unfold stepOf; split <;> omega
 refine ⟨(Hm out i hi _).trans h.keys,fun s hs=>?_,fun s hs=>?_⟩
 ·rcases List.mem_or_eq_of_mem_set hs with hs | rfl
  ·exact h.pos s hs
  ·show 0≤dW out (d.typ,d.rel) + stepOf d; omega
 ·rcases List.mem_or_eq_of_mem_set hs with hs | rfl
  ·exact h.low s hs
  ·exact hl.step hk hd
theorem Round.done {ts:List Ty} {out:List St} (h:Round ts out) (hs:∀ s ∈ out,Lr ts out s (fQ ts s.key).length):Least ts (dW out) where
 sol:=⟨fun k=>by
   by_cases hk:k ∈ ai ts
   ·exact (h.at hk).1
   ·rw [JL out (by rw [h.keys]; exact hk)]; exact Int.le_refl _,fun k hk d hd=>by
   obtain ⟨s,hm,e,en⟩:=zl out (by rw [h.keys]; exact hk);have:=hs s hm d (by rw [List.take_length,e]; exact hd);rw [← en]; exact this⟩
 low k hk:=(h.at hk).2
def fC (a b:ByteArray):Bool:=Op.bytesLess a.toList b.toList
def jX (rs:List Rl) (j:Nat):Bool :=
 match rs[j]? with
 | none=>true
 | some r=>aO r.name && (match j with | 0=>true | i + 1=>(rs[i]?.map fun p=>fC p.name r.name).getD true) && aS r.expr
def dK (rs:List Rl):Nat→Bool
 | 0=>true
 | k + 1=>dK rs k && jX rs k
def jo (ts:List Ty) (j:Nat):Bool :=
 match ts[j]? with
 | none=>true
 | some t=>aO t.name && (match j with | 0=>true | i + 1=>(ts[i]?.map fun p=>fC p.name t.name).getD true) && decide (t.rels.length≤6) && dK t.rels t.rels.length
def iB (ts:List Ty):Nat→Bool
 | 0=>true
 | k + 1=>iB ts k && jo ts k
theorem pO (rs:List Rl) (k:Nat) (hb:jX rs k=false):∀ n,k < n→dK rs n=false
 | 0,hn=>by omega
 | n + 1,hn=>by
  by_cases e:n=k
  ·subst e; simp [dK,hb]
  ·simp [dK,pO rs k hb n (by omega)]
theorem pQ (ts:List Ty) (k:Nat) (hb:jo ts k=false):∀ n,k < n→iB ts n=false
 | 0,hn=>by omega
 | n + 1,hn=>by
  by_cases e:n=k
  ·subst e; simp [iB,hb]
  ·simp [iB,pQ ts k hb n (by omega)]
theorem pR {rs:List Rl}:∀ {n:Nat},dK rs n=true→∀ j,j < n→jX rs j=true
 | 0,_,j,hj=>by omega
 | n + 1,h,j,hj=>by
  simp only [dK,Bool.and_eq_true] at h;by_cases e:j=n
  ·subst e; exact h.2
  ·exact pR h.1 j (by omega)
theorem pU {ts:List Ty}:∀ {n:Nat},iB ts n=true→∀ j,j < n→jo ts j=true
 | 0,_,j,hj=>by omega
 | n + 1,h,j,hj=>by
  simp only [iB,Bool.and_eq_true] at h;by_cases e:j=n
  ·subst e; exact h.2
  ·exact pU h.1 j (by omega)
def aY (ts:List Ty):Bool:=decide (ts.length≤6) && iB ts ts.length
def mR (ts:List Ty) (t:Ty):Bool:=t.rels.all fun r=>aK ts t.name r.expr
def iY (ts:List Ty):Bool:=ts.all (mR ts)
def aW (ts:List Ty):Prop:=aY ts=true∧iY ts=true∧∃ f,Sol ts f
theorem Ho {rs:List Rl} {n:ByteArray} {es:List Ex} (h:iH rs n=some es):∃ r ∈ rs,r.name=n∧r.expr=es:=by
 induction rs with
 | nil=>simp [iH] at h
 | cons r rs ih =>
  simp only [iH] at h;split at h
  ·rename_i hn; injection h with h; exact ⟨r,by simp,dJ.1 hn,h⟩
  ·obtain ⟨q,hq,e⟩:=ih h; exact ⟨q,by simp [hq],e⟩
theorem wQ {ts:List Ty} {ty n:ByteArray} {es:List Ex} (h:eO ts ty n=some es):∃ t ∈ ts,∃ r ∈ t.rels,t.name=ty∧r.name=n∧r.expr=es:=by
 induction ts with
 | nil=>simp [eO] at h
 | cons t ts ih =>
  simp only [eO] at h;split at h
  ·rename_i hn;rcases Option.or_eq_some_iff.1 h with h | ⟨-,h⟩
   ·obtain ⟨r,hr,e⟩:=Ho h; exact ⟨t,by simp,r,hr,dJ.1 hn,e⟩
   ·obtain ⟨t',ht,e⟩:=ih h; exact ⟨t',by simp [ht],e⟩
  ·obtain ⟨t',ht,e⟩:=ih h; exact ⟨t',by simp [ht],e⟩
theorem mU {ts:List Ty} {k:ByteArray × ByteArray}:k ∈ ai ts ↔ ∃ t ∈ ts,∃ r ∈ t.rels,k=(t.name,r.name):=by
 simp only [ai,jd,List.mem_flatMap,List.mem_map];constructor
 ·rintro ⟨t,ht,r,hr,e⟩; exact ⟨t,ht,r,hr,e.symm⟩
 ·rintro ⟨t,ht,r,hr,e⟩; exact ⟨t,ht,r,hr,e.symm⟩
theorem su {ts:List Ty} {ty n:ByteArray} (h:(aG ts ty n).isEmpty=false):(ty,n) ∈ ai ts:=by
 unfold aG at h;cases e:eO ts ty n with
 | none=>rw [e] at h; simp at h
 | some es =>
  obtain ⟨t,ht,r,hr,h1,h2,-⟩:=wQ e;exact mU.2 ⟨t,ht,r,hr,by rw [h1,h2]⟩
theorem MS {ts:List Ty} {rel:ByteArray} {xs:List Al} {g:ByteArray} (h:g ∈ gl ts rel xs):(aG ts g rel).isEmpty=false:=by
 induction xs with
 | nil=>simp [gl] at h
 | cons a xs ih =>
  simp only [gl] at h;split at h
  ·exact ih h
  ·rename_i hn;rcases List.mem_cons.1 h with rfl | h
   ·simpa using hn
   ·exact ih h
theorem Hq {neg:Bool} {xs:List Al} {d:Dp} (h:d ∈ bH neg xs):∃ a ∈ xs,a.s.toList.isEmpty=false∧d.typ=a.t∧d.rel=a.s:=by
 induction xs with
 | nil=>simp [bH] at h
 | cons a xs ih =>
  simp only [bH] at h;split at h
  ·obtain ⟨b,hb,e⟩:=ih h; exact ⟨b,by simp [hb],e⟩
  ·rename_i hn;rcases List.mem_cons.1 h with rfl | h
   ·exact ⟨a,by simp,by simpa using hn,rfl,rfl⟩
   ·obtain ⟨b,hb,e⟩:=ih h; exact ⟨b,by simp [hb],e⟩
theorem pV {ts:List Ty} {typ:ByteArray} {es:List Ex} {d:Dp}:∀ {k:Nat},d ∈ aJ ts typ es k→∃ i,i < k∧d ∈ jk ts typ es i
 | 0,h=>by simp [aJ] at h
 | k + 1,h=>by
  simp only [aJ] at h;rcases List.mem_append.1 h with h | h
  ·obtain ⟨i,hi,e⟩:=pV h; exact ⟨i,by omega,e⟩
  ·exact ⟨k,by omega,h⟩
theorem zm {ts:List Ty} {typ:ByteArray} {es:List Ex} (h:aK ts typ es=true):∀ e ∈ es,mM ts e.allow=true∧kz ts typ e=true:=by
 induction es with
 | nil=>intro e he; cases he
 | cons e es ih =>
  simp only [aK] at h;split at h
  ·rename_i hn;rw [Bool.and_eq_true] at hn;intro q hq;rcases List.mem_cons.1 hq with rfl | hq
   ·exact hn
   ·exact ih h q hq
  ·cases h
theorem jJ {ts:List Ty} (h:iY ts=true):Found ts:=by
 intro k hk d hd;unfold fQ mP at hd;have hne:(aG ts k.1 k.2).length ≠ 0:=by
  intro e;rw [e] at hd; simp [aJ] at hd
 obtain ⟨es,hes⟩:∃ es,eO ts k.1 k.2=some es:=by
  cases e:eO ts k.1 k.2 with
  | none=>unfold aG at hne; rw [e] at hne; simp at hne
  | some es=>exact ⟨es,rfl⟩
 have ero:aG ts k.1 k.2=es:=by unfold aG; rw [hes]; rfl
 rw [ero] at hd;obtain ⟨t,ht,r,hr,h1,h2,h3⟩:=wQ hes;have hr1:aK ts k.1 es=true:=by
  unfold iY at h;rw [List.all_eq_true] at h;have:=h t ht;unfold mR at this;rw [List.all_eq_true] at this;have:=this r hr;rw [h1,h3] at this;exact this
 obtain ⟨i,hi,hdi⟩:=pV hd;unfold jk at hdi;split at hdi
 ·cases hdi
 ·rename_i e he;obtain ⟨ra,rn⟩:=zm hr1 e (List.mem_of_getElem? he);rcases List.mem_append.1 hdi with hdi | hdi
  ·obtain ⟨a,ha,hs,e1,e2⟩:=Hq hdi;unfold mM at ra;rw [List.all_eq_true] at ra;have:=ra a ha;unfold ma at this;rw [hs,Bool.false_or,Bool.and_eq_true] at this;rw [e1,e2];exact su (by simpa using this.2)
  ·unfold kM at hdi;unfold kz at rn;split at hdi
   ·rename_i h2;rw [if_pos h2] at rn;simp at hdi;subst hdi;exact su (by simpa using rn)
   ·split at hdi
    ·obtain ⟨g,hg,rfl⟩:=List.mem_map.1 hdi;exact su (MS hg)
    ·cases hdi
theorem zn {es:List Ex} (h:aS es=true):1≤es.length∧es.length≤15:=by
 simp only [aS,Bool.and_eq_true,decide_eq_true_eq] at h;exact ⟨h.1.1.1.1.1,h.1.1.1.1.2⟩
theorem Hr {es:List Ex} (h:aS es=true) (i:Nat) (hi:i < es.length):bY es.length es[i].kids:=by
 simp only [aS,Bool.and_eq_true,decide_eq_true_eq] at h;have h1:=h.1.1.2;unfold il at h1;rw [List.all_eq_true] at h1;have h2:=h1 i (by simpa using hi);unfold kr mD at h2;rw [List.getElem?_eq_getElem hi] at h2;simp only [Option.map_some,Option.getD_some,List.all_eq_true,Bool.and_eq_true,decide_eq_true_eq] at h2;intro x hx;have:=h2 x hx;omega
theorem aX {rs:List TR} (h:aY (af rs)=true):rs.length≤6∧(∀ r ∈ rs,r.rows.length≤6)∧∀ r ∈ rs,∀ q ∈ r.rows,aS (ag q.rows)=true∧q.rows.length≤15∧∀ e ∈ q.rows,bY q.rows.length e.e.kids:=by
 simp only [aY,Bool.and_eq_true,decide_eq_true_eq] at h;rw [fB] at h;have hT:∀ r ∈ rs,r.rows.length≤6∧dK (di r.rows) r.rows.length=true:=by
  intro r hr;obtain ⟨j,hj,rfl⟩:=List.mem_iff_getElem.1 hr;have h1:=pU h.2 j hj;unfold jo at h1;have e:(af rs)[j]?=some rs[j].p:=by simp [af,hj]
  rw [e] at h1;simp only [Bool.and_eq_true,decide_eq_true_eq] at h1;have e2:rs[j].p.rels.length=rs[j].rows.length:=by simp [TR.p,di]
  rw [e2] at h1;exact ⟨h1.1.2,h1.2⟩
 refine ⟨h.1,fun r hr=>(hT r hr).1,fun r hr q hq=>?_⟩;obtain ⟨j,hj,rfl⟩:=List.mem_iff_getElem.1 hq;have h1:=pR (hT r hr).2 j hj;unfold jX at h1;have e:(di r.rows)[j]?=some r.rows[j].p:=by simp [di,hj]
 rw [e] at h1;simp only [Bool.and_eq_true] at h1;have h2:aS (ag r.rows[j].rows)=true:=h1.2;have h3:=zn h2;rw [aP] at h3;refine ⟨h2,h3.2,fun e he=>?_⟩;obtain ⟨i,hi,rfl⟩:=List.mem_iff_getElem.1 he;have:=Hr h2 i (by rw [aP]; exact hi);have e1:(ag r.rows[j].rows)[i]'(by rw [aP]; exact hi)=r.rows[j].rows[i].e:=by simp [ag]
 rw [e1] at this;simpa [ag] using this
def assigns (n:Nat):List (ByteArray × ByteArray)→List (ByteArray × ByteArray→Int)
 | []=>[fun _=>0]
 | k::ks=>(assigns n ks).flatMap fun f=>(List.range n).map fun v=>fun y=>if y=k then ((v:Nat):Int) else f y
theorem tZ {n:Nat}:∀ {ks:List (ByteArray × ByteArray)} {f:ByteArray × ByteArray→Int},f ∈ assigns n ks→∀ k,0≤f k
 | [],f,h,k=>by simp only [assigns,List.mem_singleton] at h; rw [h]; exact Int.le_refl _
 | x::ks,f,h,k=>by
  simp only [assigns,List.mem_flatMap,List.mem_map] at h;obtain ⟨g,hg,v,-,rfl⟩:=h;show 0≤(if k=x then ((v:Nat):Int) else g k);split
  ·omega
  ·exact tZ hg k
theorem uf {n:Nat} (g:ByteArray × ByteArray→Int):∀ (ks:List (ByteArray × ByteArray)),(∀ k ∈ ks,0≤g k∧g k < n)→∃ f ∈ assigns n ks,∀ k ∈ ks,f k=g k
 | [],_=>⟨fun _=>0,by simp [assigns],fun k hk=>by cases hk⟩
 | x::ks,h=>by
  obtain ⟨f,hf,hfg⟩:=uf g ks fun k hk=>h k (List.mem_cons_of_mem _ hk);obtain ⟨h0,h1⟩:=h x (List.mem_cons_self ..);refine ⟨fun y=>if y=x then (((g x).toNat:Nat):Int) else f y,?_,fun k hk=>?_⟩
  ·simp only [assigns,List.mem_flatMap,List.mem_map];exact ⟨f,hf,(g x).toNat,List.mem_range.2 (by omega),rfl⟩
  ·show (if k=x then (((g x).toNat:Nat):Int) else f k)=g k;by_cases e:k=x
   ·rw [if_pos e,e]; omega
   ·rw [if_neg e];rcases List.mem_cons.1 hk with h2 | h2
    ·exact absurd h2 e
    ·exact hfg k h2
def MU (ts:List Ty) (f:ByteArray × ByteArray→Int):Bool:=(ai ts).all fun k=>(fQ ts k).all fun d=>decide (f (d.typ,d.rel) + stepOf d≤f k)
theorem Gc {ts:List Ty} {f:ByteArray × ByteArray→Int}:MU ts f=true ↔ ∀ k ∈ ai ts,∀ d ∈ fQ ts k,f (d.typ,d.rel) + stepOf d≤f k:=by
 unfold MU; simp only [List.all_eq_true,decide_eq_true_eq]
def wR (ts:List Ty):List (ByteArray × ByteArray→Int):=(assigns (ai ts).length (ai ts)).filter (MU ts)
theorem Ht {ts:List Ty} {f:ByteArray × ByteArray→Int} (h:f ∈ wR ts):Sol ts f:=by
 unfold wR at h;rw [List.mem_filter] at h;exact ⟨tZ h.1,Gc.1 h.2⟩
theorem JN {ts:List Ty} {g:ByteArray × ByteArray→Int} (hF:Found ts) (h:Sol ts g) (hb:∀ k ∈ ai ts,g k + 1≤(ai ts).length):∃ f ∈ wR ts,∀ k ∈ ai ts,f k=g k:=by
 obtain ⟨f,hf,hfg⟩:=uf (n:=(ai ts).length) g (ai ts) fun k hk=>⟨h.pos k,by have:=hb k hk; omega⟩;refine ⟨f,?_,hfg⟩;unfold wR;rw [List.mem_filter];refine ⟨hf,Gc.2 fun k hk d hd=>?_⟩;rw [hfg k hk,hfg _ (hF k hk d hd)];exact h.up k hk d hd
def aI (ts:List Ty):Bool:=aY ts && iY ts && !(wR ts).isEmpty
theorem bI {ts:List Ty}:aI ts=true ↔ aW ts:=by
 unfold aI aW;simp only [Bool.and_eq_true,Bool.not_eq_true'];constructor
 ·rintro ⟨⟨h1,h2⟩,h3⟩;refine ⟨h1,h2,?_⟩;cases e:wR ts with
  | nil=>rw [e] at h3; cases h3
  | cons f fs=>exact ⟨f,Ht (by rw [e]; exact List.mem_cons_self ..)⟩
 ·rintro ⟨h1,h2,f,hf⟩;refine ⟨⟨h1,h2⟩,?_⟩;obtain ⟨g,hg,hb⟩:=hf.few (jJ h2);obtain ⟨f2,hf2,-⟩:=JN (jJ h2) hg hb;cases e:wR ts with
  | nil=>rw [e] at hf2; cases hf2
  | cons f fs=>rfl
theorem Cu {ts:List Ty} (h:aW ts):aI ts=true:=bI.2 h
theorem dE {ts:List Ty} (h:¬ aW ts):aI ts=false:=by
 cases e:aI ts with
 | false=>rfl
 | true=>exact absurd (bI.1 e) h
end Go.Proofs.YtdmniljjnaebbaaGreatDoor
