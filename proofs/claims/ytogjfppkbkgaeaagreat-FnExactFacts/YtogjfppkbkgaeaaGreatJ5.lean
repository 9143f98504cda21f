/- Strata in memory, and the contract of the document's function that looks one up. -/
import Derived.Test.YtogjfppkbkgaeaaGreatSpecSchema5
import Derived.Test.YtogjfppkbkgaeaaGreatJ4
import Derived.OwnWalk
import Derived.Maps.AppendAt
import Derived.RegionTactic
import Derived.Deep.RegionHeld3
import Derived.Deep.AppendLies
import Derived.Test.YtogjfppkbkgaeaaGreatJ2
namespace Go.Proofs.YtogjfppkbkgaeaaGreat
open Go.ChangeShapes Go.WideShapes Go.ChangeAt Go.RowKit
open Pl
structure St where
 typ:ByteArray
 rel:ByteArray
 n:Int
def MI (w:World) (b off:Nat) (s:St):Prop:=w.cell? ⟨b,off,none⟩=some (.string s.typ)∧w.cell? ⟨b,off + 1,none⟩=some (.string s.rel)∧w.cell? ⟨b,off + 2,none⟩=some (.int .i64 s.n)
def Dv (w:World) (ad:Option Addr) (xs:List St):Prop:=xs=[] ∨ ∃ b off,ad=some ⟨b,off,none⟩∧b < w.heap.size∧∀ (i:Nat) (h:i < xs.length),MI w b (off + i * 3) xs[i]
theorem Dv.below {w w':World} {ad:Option Addr} {xs:List St} (h:Dv w ad xs) (hB:Below w.heap.size w w'):Dv w' ad xs:=by
 rcases h with h | ⟨b,off,e,hb,hr⟩
 ·exact .inl h
 ·refine .inr ⟨b,off,e,Nat.lt_of_lt_of_le hb hB.size,fun i hi=>?_⟩;obtain ⟨h0,h1,h2⟩:=hr i hi;exact ⟨ah hB hb h0,ah hB hb h1,ah hB hb h2⟩
def uV (s:St) (typ rel:ByteArray):Bool:=(s.typ.toList == typ.toList) && (s.rel.toList == rel.toList)
def eX (typ rel:ByteArray):List St→Nat→Int
 | [],_=>-1
 | s::xs,k=>if uV s typ rel then (k:Int) else eX typ rel xs (k + 1)
theorem l8 (typ rel:ByteArray) (xs:List St) (k:Nat) (h:k < xs.length):eX typ rel (xs.drop k) k=if uV xs[k] typ rel then (k:Int) else eX typ rel (xs.drop (k + 1)) (k + 1):=by
 rw [List.drop_eq_getElem_cons h]; rfl
set_option maxHeartbeats 1000000 in
theorem IC (ad:Option Addr) (cap:Nat) (xs:List St) (typ rel:ByteArray) (w:World) (hlen:xs.length≤1048576) (hs:Dv w ad xs) :
  Calls Tryz.prog 85 #[.slice ad xs.length cap,.string typ,.string rel] w fun e w'=>e=.returned (.int .i64 (eX typ rel xs 0))∧w'=w:=by
 go_enter Tryz.func85,Tryz.ntmps85;go_wp2;go_loopw [7] (fun i wr=>∃ k:Nat,k≤xs.length∧i=.int .i64 k∧Hid (eX typ rel (xs.drop k) k=eX typ rel xs 0)∧wr=w) (fun i _=>xs.length - (intOf i).toNat);case atStart=>exact ⟨0,Nat.zero_le _,rfl,rfl,rfl⟩
 case round =>
  obtain ⟨k,hk,rfl,HP,rfl⟩:=hrel;by_cases hlt:k < xs.length
  ·rcases hs with rfl | ⟨b,off,rfl,hb,hr⟩
   ·simp at hlt
   obtain ⟨t0,t1,t2⟩:=hr k hlt;have hk1:(0:Int)≤(k:Int):=by omega
   have hk2:(k:Int) < (xs.length:Int):=by omega
   clear hr;cases hq:(xs[k].typ.toList == typ.toList) with
   | true =>
    cases hp:(xs[k].rel.toList == rel.toList) with
    | true =>
     have HN:Hid (eX typ rel xs 0=(k:Int)):=by show _=_; rw [← HP.out,l8 _ _ _ _ hlt]; simp [uV,hq,hp]
     go_wp2;go_ret;exact ⟨by rw [HN.out]; rfl,rfl⟩
    | false =>
     have HP2:Hid (eX typ rel (xs.drop (k + 1)) (k + 1)=eX typ rel xs 0):=by show _=_; rw [← HP.out,l8 _ _ _ _ hlt]; simp [uV,hq,hp]
     go_wp2;go_roundw;case rel=>exact ⟨k + 1,by omega,by go_num,HP2,by first | rfl | trivial⟩
     case measure=>simp [intOf] <;> omega
   | false =>
    have HP2:Hid (eX typ rel (xs.drop (k + 1)) (k + 1)=eX typ rel xs 0):=by show _=_; rw [← HP.out,l8 _ _ _ _ hlt]; simp [uV,hq]
    go_wp2;go_roundw;case rel=>exact ⟨k + 1,by omega,by go_num,HP2,by first | rfl | trivial⟩
    case measure=>simp [intOf] <;> omega
  ·have HN:Hid (eX typ rel xs 0=-1):=by show _=_; rw [← HP.out,List.drop_of_length_le (by omega)]; rfl
   go_wp2;go_ret;exact ⟨by rw [HN.out]; rfl,rfl⟩
theorem lI {P:Program} {ops:Array Oper} {Q:Exit→Act→World→Prop} {k:Nat} {o:Oper} {K:Act→World→Prop} {a:Act} (w:World) (hop:ops[k]?=some o) (hgd:o.guard=none) (s x:Operand) (t:TypeId)
  (ho:o.op=.call { callee:=.builtin .append,args:=#[s,x],argTypes:=#[t,t] })
  (base:Nat) (e:TypeId) (i:TypeInfo) (z:Value) (size bytes:Nat) (ht:P.underlying t=some (.slice e)) (hi:P.info? e=some i) (hz:i.zero=some z)
  (hsize:i.size=size) (hby:i.bytes=bytes) (hzs:z.cells.size=size) (hsz:0 < size)
  (v:Value) (n:Nat) (xs:List Value) (hs:a.eval s=v) (hown:w.ownsRow base e size v n xs)
  (ad:Addr) (m c:Nat) (news:List Value) (hx:a.eval x=.slice (some ad) m c) (hl:news.length=m * size) (hnews:∀ j u,news[j]?=some u→w.cell? (ad.add j)=some u) (h1:∀ u ∈ news,u.oneCell'=true)
  (h63:n + m≤maxLen) (hbytes:(n + m) * bytes≤140737488355328) (hbase:base≤w.heap.size)
  (h:∀ v' w',w'.ownsRow base e size v' (n + m) (xs ++ news)→w.grownBy w' v.ownBlock→(v'.ownBlock=v.ownBlock ∨ v'.ownBlock=some w.heap.size)→K (a.put o.dst v') w') :
  wpOp P ops Q k K a w:=by
 refine wpOp_step hop (fun K' hK=>?_);have hw:Region.wanted o (yielded ops a.tmps)=true:=by simp [Region.wanted,hgd]
 rw [if_pos hw];obtain ⟨v',w',hr,h2,h3,h4,h5⟩:=run_append_own_at (P:=P) w base t o.type e i z size bytes ht hi hz hsize hby hzs hsz v n xs hown ad m c news hl hnews h1 h63 hbytes hbase;unfold Oper.wp execOp;simp only [ho,resolve,invoke,builtin,Sem.run_bind,Sem.run_pure,Result.andThen_ok,List.map_toArray,List.map_cons,List.map_nil,hs,hx,hr];exact hK _ _ (h v' w' h2 h3 h5)
structure Aside (w:World) (v:Value) (w':World) (v':Value):Prop where
 size:w.heap.size≤w'.heap.size
 block:∀ k,k < w.heap.size→v.ownBlock ≠ some k→w'.heap[k]?=w.heap[k]?
 own:v'.ownBlock=v.ownBlock ∨ ∃ g,v'.ownBlock=some g∧w.heap.size≤g
theorem Aside.refl (w:World) (v:Value):Aside w v w v:=⟨Nat.le_refl _,fun _ _ _=>rfl,.inl rfl⟩
theorem Aside.apart {w w':World} {v v':Value} {k:Nat} (h:Aside w v w' v') (hk:k < w.heap.size) (hv:v.ownBlock ≠ some k):v'.ownBlock ≠ some k:=by
 rcases h.own with e | ⟨g,e,hg⟩
 ·rw [e]; exact hv
 ·rw [e]; intro h2; injection h2 with h2; omega
theorem Aside.trans {w w1 w2:World} {v v1 v2:Value} (h:Aside w v w1 v1) (h2:Aside w1 v1 w2 v2):Aside w v w2 v2 where
 size:=Nat.le_trans h.size h2.size
 block k hk hv:=(h2.block k (Nat.lt_of_lt_of_le hk h.size) (h.apart hk hv)).trans (h.block k hk hv)
 own:=by
  rcases h2.own with e | ⟨g,e,hg⟩
  ·rw [e]; exact h.own
  ·exact .inr ⟨g,e,Nat.le_trans h.size hg⟩
theorem Aside.below {w w':World} {v:Value} (h:Below w.heap.size w w'):Aside w v w' v:=⟨h.size,fun k hk _=>h.block k hk,.inl rfl⟩
theorem Aside.app {w w':World} {v v':Value} (hg:w.grownBy w' v.ownBlock) (h5:v'.ownBlock=v.ownBlock ∨ v'.ownBlock=some w.heap.size):Aside w v w' v' where
 size:=hg.size
 block k hk hv:=hg.block k hk (fun e=>hv e.symm)
 own:=by
  rcases h5 with e | e
  ·exact .inl e
  ·exact .inr ⟨_,e,Nat.le_refl _⟩
theorem Aside.cell {w w':World} {v v':Value} (h:Aside w v w' v') {p:Addr} (hp:p.block < w.heap.size) (hv:v.ownBlock ≠ some p.block):w'.cell? p=w.cell? p:=World.cell?_of_block (w:=w) (h.block p.block hp hv)
structure Dp where
 typ:ByteArray
 rel:ByteArray
 neg:Bool
def Dp.cells (d:Dp):List Value:=[.string d.typ,.string d.rel,.bool d.neg]
def dz:List Dp→List Value
 | []=>[]
 | d::ds=>d.cells ++ dz ds
theorem zI (xs ys:List Dp):dz (xs ++ ys)=dz xs ++ dz ys:=by
 induction xs with
 | nil=>rfl
 | cons d ds ih=>simp [dz,ih]
theorem oD (xs:List Dp) (d:Dp):dz (xs ++ [d])=dz xs ++ d.cells:=by rw [zI]; simp [dz]
def bu (neg:Bool):List Al→List Dp
 | []=>[]
 | a::xs=>if a.s.toList.isEmpty then bu neg xs else ⟨a.t,a.s,neg⟩::bu neg xs
def j5 (ts:List Ty) (typ:ByteArray) (neg:Bool) (e:Ex):List Dp :=
 if e.kind=2 then [⟨typ,e.name,neg⟩] else if e.kind=3 then (fw ts typ e.over e.name).map fun g=>⟨g,e.name,neg⟩ else []
def iV (ts:List Ty) (typ:ByteArray) (es:List Ex) (k:Nat):List Dp :=
 match es[k]? with
 | none=>[]
 | some e=>bu ((df es).getD k false) e.allow ++ j5 ts typ ((df es).getD k false) e
def aH (ts:List Ty) (typ:ByteArray) (es:List Ex):Nat→List Dp
 | 0=>[]
 | k + 1=>aH ts typ es k ++ iV ts typ es k
def ma (ts:List Ty) (typ:ByteArray) (es:List Ex):List Dp:=aH ts typ es es.length
theorem pJ (neg:Bool) (xs ys:List Al):bu neg (xs ++ ys)=bu neg xs ++ bu neg ys:=by
 induction xs with
 | nil=>rfl
 | cons a xs ih=>simp only [List.cons_append,bu,ih]; split <;> simp
theorem IE (neg:Bool) (xs:List Al) (k:Nat) (h:k < xs.length) (he:xs[k].s.toList.isEmpty=true):bu neg (xs.take (k + 1))=bu neg (xs.take k):=by
 rw [List.take_succ_eq_append_getElem h,pJ]; simp [bu] at he ⊢; simp [he]
theorem Gl (neg:Bool) (xs:List Al) (k:Nat) (h:k < xs.length) (he:xs[k].s.toList.isEmpty=false):bu neg (xs.take (k + 1))=bu neg (xs.take k) ++ [⟨xs[k].t,xs[k].s,neg⟩]:=by
 rw [List.take_succ_eq_append_getElem h,pJ]; simp [bu,he]
theorem yu (neg:Bool) (xs:List Al):(bu neg xs).length≤xs.length:=by
 induction xs with
 | nil=>simp [bu]
 | cons a xs ih=>simp only [bu]; split <;> simp <;> omega
theorem IG:(Tryz.prog.info? 151).map (fun i=>(i.zero,i.size,i.bytes))=some (some (.agg #[.string ⟨#[]⟩,.string ⟨#[]⟩,.bool false]),3,40):=by kernel_rfl
theorem qP {a b:ByteArray} (h:a.toList=b.toList):a=b:=by
 rw [Go.ByteArray.toList_eq,Go.ByteArray.toList_eq] at h;cases a with | mk x=>cases b with | mk y =>
 congr;exact Array.ext' h
theorem dG {a b:ByteArray}:(a.toList == b.toList)=true ↔ a=b:=⟨fun h=>qP (by simpa using h),fun h=>by simp [h]⟩
def iq (t:Ty):List (ByteArray × ByteArray):=t.rels.map fun r=>(t.name,r.name)
def ai (ts:List Ty):List (ByteArray × ByteArray):=ts.flatMap iq
def stepOf (d:Dp):Int:=if d.neg then 1 else 0
def fI (ts:List Ty) (k:ByteArray × ByteArray):List Dp:=ma ts k.1 (aG ts k.1 k.2)
structure Sol (ts:List Ty) (f:ByteArray × ByteArray→Int):Prop where
 pos:∀ k,0≤f k
 up:∀ k ∈ ai ts,∀ d ∈ fI ts k,f (d.typ,d.rel) + stepOf d≤f k
def Found (ts:List Ty):Prop:=∀ k ∈ ai ts,∀ d ∈ fI ts k,(d.typ,d.rel) ∈ ai ts
theorem sK (vs:List Int) (x y:Int) (h:x≤y):vs.countP (fun v=>decide (v < x))≤vs.countP (fun v=>decide (v < y)) :=
 List.countP_mono_left fun v _ hv=>by simp at hv ⊢; omega
theorem Gm (vs:List Int) (x y:Int) (h:x + 1≤y) (hx:x ∈ vs):vs.countP (fun v=>decide (v < x)) + 1≤vs.countP (fun v=>decide (v < y)):=by
 induction vs with
 | nil=>cases hx
 | cons v vs ih =>
  simp only [List.countP_cons];rcases List.mem_cons.1 hx with rfl | hm
  ·have:=sK vs x y (by omega);have h1:decide (x < x)=false:=by simp
   have h2:decide (x < y)=true:=by simp; omega
   simp only [h1,h2]; simp; omega
  ·have:=ih hm;by_cases h1:v < x
   ·have h2:v < y:=by omega
    simp [h1,h2]; omega
   ·simp only [h1]; simp; omega
theorem Dw (vs:List Int) (x:Int) (hx:x ∈ vs):vs.countP (fun v=>decide (v < x)) + 1≤vs.length:=by
 induction vs with
 | nil=>cases hx
 | cons v vs ih =>
  simp only [List.countP_cons,List.length_cons];rcases List.mem_cons.1 hx with rfl | hm
  ·have:=List.countP_le_length (p:=fun v=>decide (v < x)) (l:=vs);have h1:decide (x < x)=false:=by simp
   simp only [h1]; simp; omega
  ·have:=ih hm;split <;> omega
theorem Sol.few {ts:List Ty} {f:ByteArray × ByteArray→Int} (h:Sol ts f) (hF:Found ts):∃ g,Sol ts g∧∀ k ∈ ai ts,g k + 1≤(ai ts).length:=by
 refine ⟨fun k=>((((ai ts).map f).countP (fun v=>decide (v < f k)):Nat):Int),⟨fun k=>by omega,fun k hk d hd=>?_⟩,fun k hk=>?_⟩
 ·have h1:=h.up k hk d hd;have h2:f (d.typ,d.rel) ∈ (ai ts).map f:=List.mem_map_of_mem (hF k hk d hd);unfold stepOf at h1 ⊢;split at h1
  ·rename_i hn;have:=Gm ((ai ts).map f) _ _ h1 h2;simp only [hn,if_true]; omega
  ·rename_i hn;have:=sK ((ai ts).map f) _ _ (show f (d.typ,d.rel)≤f k by omega);have e0:(if d.neg=true then (1:Int) else 0)=0:=if_neg hn;rw [e0]; omega
 ·have:=Dw ((ai ts).map f) (f k) (List.mem_map_of_mem hk);simp at this ⊢; omega
def j6 (ts:List Ty) (k:ByteArray × ByteArray) (n:Int):Prop:=∀ f,Sol ts f→n≤f k
theorem II {ts:List Ty} (hF:Found ts) {k:ByteArray × ByteArray} (hk:k ∈ ai ts) {n:Int} (hl:j6 ts k n) (hn:((ai ts).length:Int)≤n):¬ ∃ f,Sol ts f:=by
 rintro ⟨f,hf⟩;obtain ⟨g,hg,hb⟩:=hf.few hF;have:=hl g hg;have:=hb k hk;omega
theorem j6.step {ts:List Ty} {k:ByteArray × ByteArray} (hk:k ∈ ai ts) {d:Dp} (hd:d ∈ fI ts k) {n:Int} (hl:j6 ts (d.typ,d.rel) n):j6 ts k (n + stepOf d):=fun f hf=>by
 have h1:=hl f hf;have h2:=hf.up k hk d hd;omega
theorem j6.zero (ts:List Ty) (k:ByteArray × ByteArray):j6 ts k 0:=fun _ hf=>hf.pos k
structure Least (ts:List Ty) (f:ByteArray × ByteArray→Int):Prop where
 sol:Sol ts f
 low:∀ k ∈ ai ts,j6 ts k (f k)
theorem Least.same {ts:List Ty} {f g:ByteArray × ByteArray→Int} (hf:Least ts f) (hg:Least ts g) (k:ByteArray × ByteArray) (hk:k ∈ ai ts):f k=g k:=by
 have h1:=hf.low k hk g hg.sol;have h2:=hg.low k hk f hf.sol;omega
def St.key (s:St):ByteArray × ByteArray:=(s.typ,s.rel)
def fJ (out:List St):List (ByteArray × ByteArray):=out.map St.key
theorem mf {s:St} {k:ByteArray × ByteArray}:uV s k.1 k.2=true ↔ s.key=k:=by
 unfold uV St.key;rw [Bool.and_eq_true,dG,dG];constructor
 ·rintro ⟨h1,h2⟩; rw [h1,h2]
 ·rintro rfl; exact ⟨rfl,rfl⟩
def dQ (out:List St) (k:ByteArray × ByteArray):Int :=
 match out with
 | []=>0
 | s::xs=>if uV s k.1 k.2 then s.n else dQ xs k
theorem kR {k:ByteArray × ByteArray}:∀ (out:List St) (j:Nat),k ∈ fJ out→∃ i:Nat,∃ h:i < out.length,eX k.1 k.2 out j=((j + i:Nat):Int)∧out[i].key=k∧out[i].n=dQ out k
 | [],_,h=>by cases h
 | s::xs,j,h=>by
  by_cases hs:uV s k.1 k.2=true
  ·exact ⟨0,by simp,by simp [eX,hs],mf.1 hs,by simp [dQ,hs]⟩
  ·have hm:k ∈ fJ xs:=by
    rcases List.mem_cons.1 h with e | hm
    ·exact absurd (mf.2 e.symm) hs
    ·exact hm
   obtain ⟨i,hi,h1,h2,h3⟩:=kR xs (j + 1) hm;refine ⟨i + 1,by simp; omega,?_,by simpa using h2,by simpa [dQ,hs] using h3⟩;simp only [eX,hs];simp only [Bool.false_eq_true,if_false];rw [h1]; congr 1; omega
theorem yw {k:ByteArray × ByteArray} (out:List St) (h:k ∈ fJ out):∃ s ∈ out,s.key=k∧s.n=dQ out k:=by
 obtain ⟨i,hi,-,h2,h3⟩:=kR out 0 h;exact ⟨out[i],List.getElem_mem hi,h2,h3⟩
theorem IJ {k:ByteArray × ByteArray} (out:List St) (h:k ∉ fJ out):dQ out k=0:=by
 induction out with
 | nil=>rfl
 | cons s xs ih =>
  have h1:¬ uV s k.1 k.2=true:=fun e=>h (by rw [mf] at e; simp [fJ,e]);simp only [dQ,h1];simp only [Bool.false_eq_true,if_false];exact ih fun hm=>h (by simp only [fJ,List.map_cons,List.mem_cons]; exact .inr hm)
def jD:List St→Int
 | []=>0
 | s::xs=>s.n + jD xs
theorem IK (out:List St) (i:Nat) (h:i < out.length) (n:Int):jD (out.set i ⟨out[i].typ,out[i].rel,n⟩)=jD out - out[i].n + n:=by
 induction out generalizing i with
 | nil=>simp at h
 | cons s xs ih =>
  cases i with
  | zero=>simp [jD]; omega
  | succ i=>simp only [List.set_cons_succ,jD,List.getElem_cons_succ]; rw [ih i (by simpa using h)]; omega
theorem Gn (out:List St) (i:Nat) (h:i < out.length) (n:Int):fJ (out.set i ⟨out[i].typ,out[i].rel,n⟩)=fJ out:=by
 unfold fJ;rw [List.map_set];show (List.map St.key out).set i (out[i].key)=_;have:out[i].key=(List.map St.key out)[i]'(by simpa using h):=by simp
 rw [this,List.set_getElem_self]
structure Round (ts:List Ty) (out:List St):Prop where
 keys:fJ out=ai ts
 pos:∀ s ∈ out,0≤s.n
 low:∀ s ∈ out,j6 ts s.key s.n
def Kq (ts:List Ty) (out:List St) (s:St) (k:Nat):Prop:=∀ d ∈ (fI ts s.key).take k,dQ out (d.typ,d.rel) + stepOf d≤s.n
theorem Round.mem {ts:List Ty} {out:List St} (h:Round ts out) {s:St} (hs:s ∈ out):s.key ∈ ai ts:=by rw [← h.keys]; exact List.mem_map_of_mem hs
theorem Round.at {ts:List Ty} {out:List St} (h:Round ts out) {k:ByteArray × ByteArray} (hk:k ∈ ai ts):0≤dQ out k∧j6 ts k (dQ out k):=by
 obtain ⟨s,hs,e,en⟩:=yw out (by rw [h.keys]; exact hk);rw [← en,← e];exact ⟨h.pos s hs,h.low s hs⟩
theorem Round.set {ts:List Ty} {out:List St} (h:Round ts out) (hF:Found ts) {i:Nat} (hi:i < out.length) {d:Dp} (hd:d ∈ fI ts out[i].key):Round ts (out.set i ⟨out[i].typ,out[i].rel,dQ out (d.typ,d.rel) + stepOf d⟩):=by
 have hk:out[i].key ∈ ai ts:=h.mem (List.getElem_mem hi);have hdk:=hF _ hk d hd;obtain ⟨h0,hl⟩:=h.at hdk;have hs0:0≤stepOf d:=by unfold stepOf; split <;> omega
 refine ⟨(Gn out i hi _).trans h.keys,fun s hs=>?_,fun s hs=>?_⟩
 ·rcases List.mem_or_eq_of_mem_set hs with hs | rfl
  ·exact h.pos s hs
  ·show 0≤dQ out (d.typ,d.rel) + stepOf d; omega
 ·rcases List.mem_or_eq_of_mem_set hs with hs | rfl
  ·exact h.low s hs
  ·exact hl.step hk hd
theorem Round.done {ts:List Ty} {out:List St} (h:Round ts out) (hs:∀ s ∈ out,Kq ts out s (fI ts s.key).length):Least ts (dQ out) where
 sol:=⟨fun k=>by
   by_cases hk:k ∈ ai ts
   ·exact (h.at hk).1
   ·rw [IJ out (by rw [h.keys]; exact hk)]; exact Int.le_refl _,fun k hk d hd=>by
   obtain ⟨s,hm,e,en⟩:=yw out (by rw [h.keys]; exact hk);have:=hs s hm d (by rw [List.take_length,e]; exact hd);rw [← en]; exact this⟩
 low k hk:=(h.at hk).2
def iw (x y:Al):Bool:=x.t.toList == y.t.toList && x.s.toList == y.s.toList
def Ik (a:Al):Bool:=aL a.t && uK a.s
def cZ (xs:List Al) (k:Nat) (a:Al):Bool:=(xs.take k).any fun x=>iw x a
theorem kS (xs:List Al) (k:Nat) (a:Al) (h:k < xs.length):cZ xs (k + 1) a=(cZ xs k a || iw xs[k] a):=by
 unfold cZ; rw [List.take_succ_eq_append_getElem h,List.any_append]; simp
theorem kT (xs:List Al) (a:Al):cZ xs 0 a=false:=by simp [cZ]
def zJ (xs:List Al):Nat→Bool
 | 0=>true
 | k + 1=>zJ xs k && (xs[k]?.map fun a=>Ik a && !cZ xs k a).getD true
theorem pK (xs:List Al) (k:Nat) (h:k < xs.length):zJ xs (k + 1)=(zJ xs k && (Ik xs[k] && !cZ xs k xs[k])):=by
 simp [zJ,h]
theorem jJ (xs:List Al) (k:Nat) (h:k < xs.length) (hb:(Ik xs[k] && !cZ xs k xs[k])=false):∀ n,k < n→zJ xs n=false
 | 0,hn=>by omega
 | n + 1,hn=>by
  by_cases e:n=k
  ·subst e; rw [pK _ _ h,hb]; simp
  ·simp [zJ,jJ xs k h hb n (by omega)]
def fB (xs:List Al):Bool:=decide (1≤xs.length) && decide (xs.length≤6) && zJ xs xs.length
def au (e:Ex):Bool :=
 if e.kind=1 then fB e.allow && e.over.toList.isEmpty && e.name.toList.isEmpty && decide (e.kids.length=0)
 else if e.kind=2 then aL e.name && decide (e.allow.length=0) && e.over.toList.isEmpty && decide (e.kids.length=0)
 else if e.kind=3 then aL e.over && aL e.name && decide (e.allow.length=0) && decide (e.kids.length=0)
 else if e.kind=4 ∨ e.kind=5 then decide (2≤e.kids.length) && decide (e.kids.length≤5) && decide (e.allow.length=0) && e.over.toList.isEmpty && e.name.toList.isEmpty
 else if e.kind=6 then decide (e.kids.length=2) && decide (e.allow.length=0) && e.over.toList.isEmpty && e.name.toList.isEmpty
 else false
def dH (f:Int→Int):List Int→Int→Int
 | [],at'=>at' + 1
 | k::ks,at'=>if at' < 0 ∨ k ≠ at' then -1 else if f at' < 0 then -1 else dH f ks (f at' - 1)
def mg (es:List Ex) (n:Nat):List Int:=(es[n]?.map Ex.kids).getD []
def aC (es:List Ex) (n:Nat):Int:=dH (fun x=>if _h:0≤x∧x.toNat < n then aC es x.toNat else -1) (mg es n).reverse ((n:Int) - 1)
def dK (es:List Ex) (n:Nat) (x:Int):Int:=if 0≤x∧x.toNat < n then aC es x.toNat else -1
theorem kg (es:List Ex) (n:Nat):aC es n=dH (dK es n) (mg es n).reverse ((n:Int) - 1):=by
 rw [aC];rfl
theorem yx {f:Int→Int} (hf:∀ x,0≤x→f x≤x):∀ (ks:List Int) (a:Int),-1≤a→dH f ks a≤a + 1
 | [],a,_=>by simp [dH]
 | k::ks,a,ha=>by
  unfold dH;split
  ·omega
  ·rename_i h;split
   ·omega
   ·rename_i h2;have h0:0≤a:=by omega
    have:=yx hf ks (f a - 1) (by omega);have:=hf a h0;omega
theorem ni (es:List Ex) (n:Nat):aC es n≤n:=by
 induction n using Nat.strongRecOn with
 | ind n ih =>
  rw [kg];have:=yx (f:=dK es n) (fun x hx=>by
   unfold dK;split
   ·rename_i h; have:=ih x.toNat h.2; omega
   ·omega) (mg es n).reverse ((n:Int) - 1) (by omega)
  omega
theorem IL (es:List Ex) (n:Nat) (x:Int) (hx:0≤x):dK es n x≤x:=by
 unfold dK;split
 ·have:=ni es x.toNat; omega
 ·omega
theorem nP {es:List Ex} {n:Nat} (ih:∀ m,m < n→0≤aC es m→∀ j:Nat,aC es m≤j→j≤m→0≤aC es j) :
  ∀ (ks:List Int) (a:Int),a < n→0≤dH (dK es n) ks a→∀ j:Nat,dH (dK es n) ks a≤j→(j:Int)≤a→0≤aC es j
 | [],a,ha,h,j,h1,h2=>by simp [dH] at h1; omega
 | k::ks,a,ha,h,j,h1,h2=>by
  unfold dH at h h1;split at h
  ·omega
  ·rename_i c;rw [if_neg c] at h1;split at h
   ·omega
   ·rename_i c2;rw [if_neg c2] at h1;have h0:0≤a:=by omega
    have hF:dK es n a=aC es a.toNat:=by unfold dK; rw [if_pos ⟨h0,by omega⟩]
    rw [hF] at h h1 c2;by_cases hj:aC es a.toNat≤j
    ·exact ih a.toNat (by omega) (by omega) j hj (by omega)
    ·exact nP ih ks (aC es a.toNat - 1) (by have:=ni es a.toNat; omega) h j h1 (by omega)
theorem nQ (es:List Ex) (n:Nat):0≤aC es n→∀ j:Nat,aC es n≤j→j≤n→0≤aC es j:=by
 induction n using Nat.strongRecOn with
 | ind n ih =>
  intro h j h1 h2;by_cases e:j=n
  ·subst e; exact h
  ·rw [kg] at h h1;exact nP ih _ _ (by omega) h j h1 (by omega)
def jT (es:List Ex) (i:Nat):Bool:=(mg es i).all fun k=>decide (0≤k) && decide (k≤(i:Int) - 1)
theorem sM {es:List Ex} {n:Nat}:∀ (ks:List Int) (a:Int),a < n→0≤dH (dK es n) ks a→∀ k ∈ ks,0≤k∧k≤a
 | [],_,_,_,k,hk=>by cases hk
 | x::ks,a,ha,h,k,hk=>by
  unfold dH at h;split at h
  ·omega
  ·rename_i c;split at h
   ·omega
   ·rename_i c2;have h0:0≤a:=by omega
    rcases List.mem_cons.1 hk with rfl | hk
    ·omega
    ·have hl:=IL es n a h0;have:=sM ks (dK es n a - 1) (by omega) h k hk;omega
theorem Gp (es:List Ex) (i:Nat) (h:0≤aC es i):jT es i=true:=by
 unfold jT;rw [List.all_eq_true];intro k hk;rw [kg] at h;have:=sM _ _ (by omega) h k (by simpa using hk);simp; omega
def IM (es:List Ex) (n:Nat):Prop:=∀ j,j < n→0≤aC es j
def own (es:List Ex):Nat:=(es.filter fun e=>decide (e.kind=1)).length
def eH (es:List Ex) (k:Nat):Nat:=own (es.take k)
theorem uW (es:List Ex) (k:Nat) (h:k < es.length):eH es (k + 1)=eH es k + (if es[k].kind=1 then 1 else 0):=by
 unfold eH own;rw [List.take_succ_eq_append_getElem h,List.filter_append,List.length_append];by_cases e:es[k].kind=1 <;> simp [e]
theorem pM (es:List Ex) (k:Nat):eH es k≤k:=by
 unfold eH own;exact Nat.le_trans (List.length_filter_le ..) (by simp; omega)
def gT (es:List Ex) (k:Nat):Bool:=(es.take k).all au
theorem pO (es:List Ex) (k:Nat) (h:k < es.length):gT es (k + 1)=(gT es k && au es[k]):=by
 unfold gT; rw [List.take_succ_eq_append_getElem h,List.all_append]; simp
theorem yz (es:List Ex) (k:Nat) (h:k < es.length) (hb:au es[k]=false):es.all au=false:=by
 rw [Bool.eq_false_iff]; intro h2; rw [List.all_eq_true] at h2; have:=h2 es[k] (List.getElem_mem h); rw [hb] at this; cases this
def gV (es:List Ex) (k:Nat):Bool:=(List.range k).all (jT es)
theorem Bq (es:List Ex) (k:Nat):gV es (k + 1)=(gV es k && jT es k):=by simp [gV,List.range_succ]
theorem IP (es:List Ex) (k:Nat) (h:k < es.length) (hb:jT es k=false):gV es es.length=false:=by
 rw [Bool.eq_false_iff]; intro h2; unfold gV at h2; rw [List.all_eq_true] at h2; have:=h2 k (by simpa using h); rw [hb] at this; cases this
def aR (es:List Ex):Bool:=decide (1≤es.length) && decide (es.length≤15) && es.all au && gV es es.length && decide (own es≤1) && decide (aC es (es.length - 1)=0)
def iJ (es:List Ex):Bool:=(List.range es.length).all fun j=>decide (0≤aC es j)
def iZ (es:List Ex):Bool:=decide (1≤es.length) && decide (es.length≤15) && es.all au && decide (own es≤1) && (iJ es && decide (aC es (es.length - 1)=0))
theorem yA (es:List Ex):aR es=iZ es:=by
 by_cases h1:1≤es.length
 ·by_cases ht:aC es (es.length - 1)=0
  ·have ha:iJ es=true:=by
    unfold iJ;rw [List.all_eq_true];intro j hj;have hj':j < es.length:=by simpa using hj
    simpa using nQ es (es.length - 1) (by omega) j (by omega) (by omega)
   have hk:gV es es.length=true:=by
    unfold gV;rw [List.all_eq_true];intro j hj;have hj':j < es.length:=by simpa using hj
    exact Gp es j (nQ es (es.length - 1) (by omega) j (by omega) (by omega))
   simp [aR,iZ,ht,ha,hk,h1]
  ·simp [aR,iZ,ht]
 ·simp [aR,iZ,h1]
end Go.Proofs.YtogjfppkbkgaeaaGreat
