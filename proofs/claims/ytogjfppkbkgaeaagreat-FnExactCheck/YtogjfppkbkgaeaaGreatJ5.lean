/- Strata in memory, and the contract of the document's function that looks one up. -/
import Derived.Test.YtogjfppkbkgaeaaGreatSpecSchema5
import Derived.Test.YtogjfppkbkgaeaaGreatJ4
import Derived.OwnWalk
import Derived.Maps.AppendAt
import Derived.RegionTactic
import Derived.Deep.RegionHeld3
import Derived.Deep.AppendLies
import Derived.Test.YtogjfppkbkgaeaaGreatJ2
namespace Go.Proofs.YtogjfppkbkgaeaaGreat
open Go.ChangeShapes Go.WideShapes Go.ChangeAt Go.RowKit
open Pl
structure St where
 typ:ByteArray
 rel:ByteArray
 n:Int
def At3 (w:World) (b off:Nat) (s:St):Prop:=w.cell? ⟨b,off,none⟩=some (.string s.typ)∧w.cell? ⟨b,off + 1,none⟩=some (.string s.rel)∧w.cell? ⟨b,off + 2,none⟩=some (.int .i64 s.n)
def SlN (w:World) (ad:Option Addr) (xs:List St):Prop:=xs=[] ∨ ∃ b off,ad=some ⟨b,off,none⟩∧b < w.heap.size∧∀ (i:Nat) (h:i < xs.length),At3 w b (off + i * 3) xs[i]
theorem SlN.below {w w':World} {ad:Option Addr} {xs:List St} (h:SlN w ad xs) (hB:Below w.heap.size w w'):SlN w' ad xs:=by
 rcases h with h | ⟨b,off,e,hb,hr⟩
 ·exact .inl h
 ·refine .inr ⟨b,off,e,Nat.lt_of_lt_of_le hb hB.size,fun i hi=>?_⟩
  obtain ⟨h0,h1,h2⟩:=hr i hi
  exact ⟨kept5 hB hb h0,kept5 hB hb h1,kept5 hB hb h2⟩
def isSt (s:St) (typ rel:ByteArray):Bool:=(s.typ.toList == typ.toList) && (s.rel.toList == rel.toList)
def atFrom (typ rel:ByteArray):List St→Nat→Int
 | [],_=>-1
 | s::xs,k=>if isSt s typ rel then (k:Int) else atFrom typ rel xs (k + 1)
theorem atFrom_drop (typ rel:ByteArray) (xs:List St) (k:Nat) (h:k < xs.length):atFrom typ rel (xs.drop k) k=if isSt xs[k] typ rel then (k:Int) else atFrom typ rel (xs.drop (k + 1)) (k + 1):=by
 rw [List.drop_eq_getElem_cons h]; rfl
set_option maxHeartbeats 1000000 in
theorem l2At_any (ad:Option Addr) (cap:Nat) (xs:List St) (typ rel:ByteArray) (w:World) (hlen:xs.length≤1048576) (hs:SlN w ad xs) :
  Calls Tryz.prog 85 #[.slice ad xs.length cap,.string typ,.string rel] w fun e w'=>e=.returned (.int .i64 (atFrom typ rel xs 0))∧w'=w:=by
 go_enter Tryz.func85,Tryz.ntmps85
 go_wp2
 go_loopw [7] (fun i wr=>∃ k:Nat,k≤xs.length∧i=.int .i64 k∧Hid (atFrom typ rel (xs.drop k) k=atFrom typ rel xs 0)∧wr=w) (fun i _=>xs.length - (intOf i).toNat)
 case atStart=>exact ⟨0,Nat.zero_le _,rfl,rfl,rfl⟩
 case round =>
  obtain ⟨k,hk,rfl,HP,rfl⟩:=hrel
  by_cases hlt:k < xs.length
  ·rcases hs with rfl | ⟨b,off,rfl,hb,hr⟩
   ·simp at hlt
   obtain ⟨t0,t1,t2⟩:=hr k hlt
   have hk1:(0:Int)≤(k:Int):=by omega
   have hk2:(k:Int) < (xs.length:Int):=by omega
   clear hr
   cases hq:(xs[k].typ.toList == typ.toList) with
   | true =>
    cases hp:(xs[k].rel.toList == rel.toList) with
    | true =>
     have HN:Hid (atFrom typ rel xs 0=(k:Int)):=by show _=_; rw [← HP.out,atFrom_drop _ _ _ _ hlt]; simp [isSt,hq,hp]
     go_wp2
     go_ret
     exact ⟨by rw [HN.out]; rfl,rfl⟩
    | false =>
     have HP2:Hid (atFrom typ rel (xs.drop (k + 1)) (k + 1)=atFrom typ rel xs 0):=by show _=_; rw [← HP.out,atFrom_drop _ _ _ _ hlt]; simp [isSt,hq,hp]
     go_wp2
     go_roundw
     case rel=>exact ⟨k + 1,by omega,by go_num,HP2,by first | rfl | trivial⟩
     case measure=>first | (simp [intOf]; done) | (simp [intOf]; omega)
   | false =>
    have HP2:Hid (atFrom typ rel (xs.drop (k + 1)) (k + 1)=atFrom typ rel xs 0):=by show _=_; rw [← HP.out,atFrom_drop _ _ _ _ hlt]; simp [isSt,hq]
    go_wp2
    go_roundw
    case rel=>exact ⟨k + 1,by omega,by go_num,HP2,by first | rfl | trivial⟩
    case measure=>first | (simp [intOf]; done) | (simp [intOf]; omega)
  ·have HN:Hid (atFrom typ rel xs 0=-1):=by show _=_; rw [← HP.out,List.drop_of_length_le (by omega)]; rfl
   go_wp2
   go_ret
   exact ⟨by rw [HN.out]; rfl,rfl⟩
end Go.Proofs.YtogjfppkbkgaeaaGreat
namespace Go.Proofs.YtogjfppkbkgaeaaGreat
open Go.RowKit
theorem wpOp_append_own {P:Program} {ops:Array Oper} {Q:Exit→Act→World→Prop} {k:Nat} {o:Oper} {K:Act→World→Prop} {a:Act} (w:World) (hop:ops[k]?=some o) (hgd:o.guard=none) (s x:Operand) (t:TypeId)
  (ho:o.op=.call { callee:=.builtin .append,args:=#[s,x],argTypes:=#[t,t] })
  (base:Nat) (e:TypeId) (i:TypeInfo) (z:Value) (size bytes:Nat) (ht:P.underlying t=some (.slice e)) (hi:P.info? e=some i) (hz:i.zero=some z)
  (hsize:i.size=size) (hby:i.bytes=bytes) (hzs:z.cells.size=size) (hsz:0 < size)
  (v:Value) (n:Nat) (xs:List Value) (hs:a.eval s=v) (hown:w.ownsRow base e size v n xs)
  (ad:Addr) (m c:Nat) (news:List Value) (hx:a.eval x=.slice (some ad) m c) (hl:news.length=m * size) (hnews:∀ j u,news[j]?=some u→w.cell? (ad.add j)=some u) (h1:∀ u ∈ news,u.oneCell'=true)
  (h63:n + m≤maxLen) (hbytes:(n + m) * bytes≤140737488355328) (hbase:base≤w.heap.size)
  (h:∀ v' w',w'.ownsRow base e size v' (n + m) (xs ++ news)→w.grownBy w' v.ownBlock→(v'.ownBlock=v.ownBlock ∨ v'.ownBlock=some w.heap.size)→K (a.put o.dst v') w') :
  wpOp P ops Q k K a w:=by
 refine wpOp_step hop (fun K' hK=>?_)
 have hw:Region.wanted o (yielded ops a.tmps)=true:=by simp [Region.wanted,hgd]
 rw [if_pos hw]
 obtain ⟨v',w',hr,h2,h3,h4,h5⟩:=run_append_own_at (P:=P) w base t o.type e i z size bytes ht hi hz hsize hby hzs hsz v n xs hown ad m c news hl hnews h1 h63 hbytes hbase
 unfold Oper.wp execOp
 simp only [ho,resolve,invoke,builtin,Sem.run_bind,Sem.run_pure,Result.andThen_ok,List.map_toArray,List.map_cons,List.map_nil,hs,hx,hr]
 exact hK _ _ (h v' w' h2 h3 h5)
structure Aside (w:World) (v:Value) (w':World) (v':Value):Prop where
 size:w.heap.size≤w'.heap.size
 block:∀ k,k < w.heap.size→v.ownBlock ≠ some k→w'.heap[k]?=w.heap[k]?
 own:v'.ownBlock=v.ownBlock ∨ ∃ g,v'.ownBlock=some g∧w.heap.size≤g
theorem Aside.refl (w:World) (v:Value):Aside w v w v:=⟨Nat.le_refl _,fun _ _ _=>rfl,.inl rfl⟩
theorem Aside.apart {w w':World} {v v':Value} {k:Nat} (h:Aside w v w' v') (hk:k < w.heap.size) (hv:v.ownBlock ≠ some k):v'.ownBlock ≠ some k:=by
 rcases h.own with e | ⟨g,e,hg⟩
 ·rw [e]; exact hv
 ·rw [e]; intro h2; injection h2 with h2; omega
theorem Aside.trans {w w1 w2:World} {v v1 v2:Value} (h:Aside w v w1 v1) (h2:Aside w1 v1 w2 v2):Aside w v w2 v2 where
 size:=Nat.le_trans h.size h2.size
 block k hk hv:=(h2.block k (Nat.lt_of_lt_of_le hk h.size) (h.apart hk hv)).trans (h.block k hk hv)
 own:=by
  rcases h2.own with e | ⟨g,e,hg⟩
  ·rw [e]; exact h.own
  ·exact .inr ⟨g,e,Nat.le_trans h.size hg⟩
theorem Aside.below {w w':World} {v:Value} (h:Below w.heap.size w w'):Aside w v w' v:=⟨h.size,fun k hk _=>h.block k hk,.inl rfl⟩
theorem Aside.app {w w':World} {v v':Value} (hg:w.grownBy w' v.ownBlock) (h5:v'.ownBlock=v.ownBlock ∨ v'.ownBlock=some w.heap.size):Aside w v w' v' where
 size:=hg.size
 block k hk hv:=hg.block k hk (fun e=>hv e.symm)
 own:=by
  rcases h5 with e | e
  ·exact .inl e
  ·exact .inr ⟨_,e,Nat.le_refl _⟩
theorem Aside.cell {w w':World} {v v':Value} (h:Aside w v w' v') {p:Addr} (hp:p.block < w.heap.size) (hv:v.ownBlock ≠ some p.block):w'.cell? p=w.cell? p:=World.cell?_of_block (w:=w) (h.block p.block hp hv)
end Go.Proofs.YtogjfppkbkgaeaaGreat
namespace Go.Proofs.YtogjfppkbkgaeaaGreat
open Go.ChangeShapes Go.WideShapes Go.ChangeAt Go.RowKit
open Pl
structure Dp where
 typ:ByteArray
 rel:ByteArray
 neg:Bool
def Dp.cells (d:Dp):List Value:=[.string d.typ,.string d.rel,.bool d.neg]
def flatD:List Dp→List Value
 | []=>[]
 | d::ds=>d.cells ++ flatD ds
theorem flatD_append (xs ys:List Dp):flatD (xs ++ ys)=flatD xs ++ flatD ys:=by
 induction xs with
 | nil=>rfl
 | cons d ds ih=>simp [flatD,ih]
theorem flatD_snoc (xs:List Dp) (d:Dp):flatD (xs ++ [d])=flatD xs ++ d.cells:=by rw [flatD_append]; simp [flatD]
def depsA (neg:Bool):List Al→List Dp
 | []=>[]
 | a::xs=>if a.s.toList.isEmpty then depsA neg xs else ⟨a.t,a.s,neg⟩::depsA neg xs
def depsN (ts:List Ty) (typ:ByteArray) (neg:Bool) (e:Ex):List Dp :=
 if e.kind=2 then [⟨typ,e.name,neg⟩] else if e.kind=3 then (goalsP ts typ e.over e.name).map fun g=>⟨g,e.name,neg⟩ else []
def depsAt (ts:List Ty) (typ:ByteArray) (es:List Ex) (k:Nat):List Dp :=
 match es[k]? with
 | none=>[]
 | some e=>depsA ((negP es).getD k false) e.allow ++ depsN ts typ ((negP es).getD k false) e
def depsUp (ts:List Ty) (typ:ByteArray) (es:List Ex):Nat→List Dp
 | 0=>[]
 | k + 1=>depsUp ts typ es k ++ depsAt ts typ es k
def depsP (ts:List Ty) (typ:ByteArray) (es:List Ex):List Dp:=depsUp ts typ es es.length
theorem depsA_append (neg:Bool) (xs ys:List Al):depsA neg (xs ++ ys)=depsA neg xs ++ depsA neg ys:=by
 induction xs with
 | nil=>rfl
 | cons a xs ih=>simp only [List.cons_append,depsA,ih]; split <;> simp
theorem depsA_no (neg:Bool) (xs:List Al) (k:Nat) (h:k < xs.length) (he:xs[k].s.toList.isEmpty=true):depsA neg (xs.take (k + 1))=depsA neg (xs.take k):=by
 rw [List.take_succ_eq_append_getElem h,depsA_append]; simp [depsA] at he ⊢; simp [he]
theorem depsA_yes (neg:Bool) (xs:List Al) (k:Nat) (h:k < xs.length) (he:xs[k].s.toList.isEmpty=false):depsA neg (xs.take (k + 1))=depsA neg (xs.take k) ++ [⟨xs[k].t,xs[k].s,neg⟩]:=by
 rw [List.take_succ_eq_append_getElem h,depsA_append]; simp [depsA,he]
theorem depsA_len (neg:Bool) (xs:List Al):(depsA neg xs).length≤xs.length:=by
 induction xs with
 | nil=>simp [depsA]
 | cons a xs ih=>simp only [depsA]; split <;> simp <;> omega
theorem info_dep:(Tryz.prog.info? 151).map (fun i=>(i.zero,i.size,i.bytes))=some (some (.agg #[.string ⟨#[]⟩,.string ⟨#[]⟩,.bool false]),3,40):=by kernel_rfl
end Go.Proofs.YtogjfppkbkgaeaaGreat
namespace Go.Proofs.YtogjfppkbkgaeaaGreat
open Pl
theorem ba_ext {a b:ByteArray} (h:a.toList=b.toList):a=b:=by
 rw [Go.ByteArray.toList_eq,Go.ByteArray.toList_eq] at h
 cases a with | mk x=>cases b with | mk y =>
 congr
 exact Array.ext' h
theorem ba_beq {a b:ByteArray}:(a.toList == b.toList)=true ↔ a=b:=⟨fun h=>ba_ext (by simpa using h),fun h=>by simp [h]⟩
def entsT (t:Ty):List (ByteArray × ByteArray):=t.rels.map fun r=>(t.name,r.name)
def ents (ts:List Ty):List (ByteArray × ByteArray):=ts.flatMap entsT
def stepOf (d:Dp):Int:=if d.neg then 1 else 0
def depsK (ts:List Ty) (k:ByteArray × ByteArray):List Dp:=depsP ts k.1 (relOr ts k.1 k.2)
structure Sol (ts:List Ty) (f:ByteArray × ByteArray→Int):Prop where
 pos:∀ k,0≤f k
 up:∀ k ∈ ents ts,∀ d ∈ depsK ts k,f (d.typ,d.rel) + stepOf d≤f k
def Found (ts:List Ty):Prop:=∀ k ∈ ents ts,∀ d ∈ depsK ts k,(d.typ,d.rel) ∈ ents ts
theorem countP_mono (vs:List Int) (x y:Int) (h:x≤y):vs.countP (fun v=>decide (v < x))≤vs.countP (fun v=>decide (v < y)) :=
 List.countP_mono_left fun v _ hv=>by simp at hv ⊢; omega
theorem countP_up (vs:List Int) (x y:Int) (h:x + 1≤y) (hx:x ∈ vs):vs.countP (fun v=>decide (v < x)) + 1≤vs.countP (fun v=>decide (v < y)):=by
 induction vs with
 | nil=>cases hx
 | cons v vs ih =>
  simp only [List.countP_cons]
  rcases List.mem_cons.1 hx with rfl | hm
  ·have:=countP_mono vs x y (by omega)
   have h1:decide (x < x)=false:=by simp
   have h2:decide (x < y)=true:=by simp; omega
   simp only [h1,h2]; simp; omega
  ·have:=ih hm
   by_cases h1:v < x
   ·have h2:v < y:=by omega
    simp [h1,h2]; omega
   ·simp only [h1]; simp; omega
theorem countP_few (vs:List Int) (x:Int) (hx:x ∈ vs):vs.countP (fun v=>decide (v < x)) + 1≤vs.length:=by
 induction vs with
 | nil=>cases hx
 | cons v vs ih =>
  simp only [List.countP_cons,List.length_cons]
  rcases List.mem_cons.1 hx with rfl | hm
  ·have:=List.countP_le_length (p:=fun v=>decide (v < x)) (l:=vs)
   have h1:decide (x < x)=false:=by simp
   simp only [h1]; simp; omega
  ·have:=ih hm
   split <;> omega
theorem Sol.few {ts:List Ty} {f:ByteArray × ByteArray→Int} (h:Sol ts f) (hF:Found ts):∃ g,Sol ts g∧∀ k ∈ ents ts,g k + 1≤(ents ts).length:=by
 refine ⟨fun k=>((((ents ts).map f).countP (fun v=>decide (v < f k)):Nat):Int),⟨fun k=>by omega,fun k hk d hd=>?_⟩,fun k hk=>?_⟩
 ·have h1:=h.up k hk d hd
  have h2:f (d.typ,d.rel) ∈ (ents ts).map f:=List.mem_map_of_mem (hF k hk d hd)
  unfold stepOf at h1 ⊢
  split at h1
  ·rename_i hn
   have:=countP_up ((ents ts).map f) _ _ h1 h2
   simp only [hn,if_true]; omega
  ·rename_i hn
   have:=countP_mono ((ents ts).map f) _ _ (show f (d.typ,d.rel)≤f k by omega)
   have e0:(if d.neg=true then (1:Int) else 0)=0:=if_neg hn
   rw [e0]; omega
 ·have:=countP_few ((ents ts).map f) (f k) (List.mem_map_of_mem hk)
  simp at this ⊢; omega
def LowK (ts:List Ty) (k:ByteArray × ByteArray) (n:Int):Prop:=∀ f,Sol ts f→n≤f k
theorem no_sol {ts:List Ty} (hF:Found ts) {k:ByteArray × ByteArray} (hk:k ∈ ents ts) {n:Int} (hl:LowK ts k n) (hn:((ents ts).length:Int)≤n):¬ ∃ f,Sol ts f:=by
 rintro ⟨f,hf⟩
 obtain ⟨g,hg,hb⟩:=hf.few hF
 have:=hl g hg
 have:=hb k hk
 omega
theorem LowK.step {ts:List Ty} {k:ByteArray × ByteArray} (hk:k ∈ ents ts) {d:Dp} (hd:d ∈ depsK ts k) {n:Int} (hl:LowK ts (d.typ,d.rel) n):LowK ts k (n + stepOf d):=fun f hf=>by
 have h1:=hl f hf
 have h2:=hf.up k hk d hd
 omega
theorem LowK.zero (ts:List Ty) (k:ByteArray × ByteArray):LowK ts k 0:=fun _ hf=>hf.pos k
structure Least (ts:List Ty) (f:ByteArray × ByteArray→Int):Prop where
 sol:Sol ts f
 low:∀ k ∈ ents ts,LowK ts k (f k)
theorem Least.same {ts:List Ty} {f g:ByteArray × ByteArray→Int} (hf:Least ts f) (hg:Least ts g) (k:ByteArray × ByteArray) (hk:k ∈ ents ts):f k=g k:=by
 have h1:=hf.low k hk g hg.sol
 have h2:=hg.low k hk f hf.sol
 omega
def St.key (s:St):ByteArray × ByteArray:=(s.typ,s.rel)
def keysS (out:List St):List (ByteArray × ByteArray):=out.map St.key
theorem isSt_iff {s:St} {k:ByteArray × ByteArray}:isSt s k.1 k.2=true ↔ s.key=k:=by
 unfold isSt St.key
 rw [Bool.and_eq_true,ba_beq,ba_beq]
 constructor
 ·rintro ⟨h1,h2⟩; rw [h1,h2]
 ·rintro rfl; exact ⟨rfl,rfl⟩
def strAt (out:List St) (k:ByteArray × ByteArray):Int :=
 match out with
 | []=>0
 | s::xs=>if isSt s k.1 k.2 then s.n else strAt xs k
theorem atFrom_found {k:ByteArray × ByteArray}:∀ (out:List St) (j:Nat),k ∈ keysS out→∃ i:Nat,∃ h:i < out.length,atFrom k.1 k.2 out j=((j + i:Nat):Int)∧out[i].key=k∧out[i].n=strAt out k
 | [],_,h=>by cases h
 | s::xs,j,h=>by
  by_cases hs:isSt s k.1 k.2=true
  ·exact ⟨0,by simp,by simp [atFrom,hs],isSt_iff.1 hs,by simp [strAt,hs]⟩
  ·have hm:k ∈ keysS xs:=by
    rcases List.mem_cons.1 h with e | hm
    ·exact absurd (isSt_iff.2 e.symm) hs
    ·exact hm
   obtain ⟨i,hi,h1,h2,h3⟩:=atFrom_found xs (j + 1) hm
   refine ⟨i + 1,by simp; omega,?_,by simpa using h2,by simpa [strAt,hs] using h3⟩
   simp only [atFrom,hs]
   simp only [Bool.false_eq_true,if_false]
   rw [h1]; congr 1; omega
theorem strAt_mem {k:ByteArray × ByteArray} (out:List St) (h:k ∈ keysS out):∃ s ∈ out,s.key=k∧s.n=strAt out k:=by
 obtain ⟨i,hi,-,h2,h3⟩:=atFrom_found out 0 h
 exact ⟨out[i],List.getElem_mem hi,h2,h3⟩
theorem strAt_no {k:ByteArray × ByteArray} (out:List St) (h:k ∉ keysS out):strAt out k=0:=by
 induction out with
 | nil=>rfl
 | cons s xs ih =>
  have h1:¬ isSt s k.1 k.2=true:=fun e=>h (by rw [isSt_iff] at e; simp [keysS,e])
  simp only [strAt,h1]
  simp only [Bool.false_eq_true,if_false]
  exact ih fun hm=>h (by simp only [keysS,List.map_cons,List.mem_cons]; exact .inr hm)
def sumN:List St→Int
 | []=>0
 | s::xs=>s.n + sumN xs
theorem sumN_set (out:List St) (i:Nat) (h:i < out.length) (n:Int):sumN (out.set i ⟨out[i].typ,out[i].rel,n⟩)=sumN out - out[i].n + n:=by
 induction out generalizing i with
 | nil=>simp at h
 | cons s xs ih =>
  cases i with
  | zero=>simp [sumN]; omega
  | succ i=>simp only [List.set_cons_succ,sumN,List.getElem_cons_succ]; rw [ih i (by simpa using h)]; omega
theorem keysS_set (out:List St) (i:Nat) (h:i < out.length) (n:Int):keysS (out.set i ⟨out[i].typ,out[i].rel,n⟩)=keysS out:=by
 unfold keysS
 rw [List.map_set]
 show (List.map St.key out).set i (out[i].key)=_
 have:out[i].key=(List.map St.key out)[i]'(by simpa using h):=by simp
 rw [this,List.set_getElem_self]
structure Round (ts:List Ty) (out:List St):Prop where
 keys:keysS out=ents ts
 pos:∀ s ∈ out,0≤s.n
 low:∀ s ∈ out,LowK ts s.key s.n
def satK (ts:List Ty) (out:List St) (s:St) (k:Nat):Prop:=∀ d ∈ (depsK ts s.key).take k,strAt out (d.typ,d.rel) + stepOf d≤s.n
theorem Round.mem {ts:List Ty} {out:List St} (h:Round ts out) {s:St} (hs:s ∈ out):s.key ∈ ents ts:=by rw [← h.keys]; exact List.mem_map_of_mem hs
theorem Round.at {ts:List Ty} {out:List St} (h:Round ts out) {k:ByteArray × ByteArray} (hk:k ∈ ents ts):0≤strAt out k∧LowK ts k (strAt out k):=by
 obtain ⟨s,hs,e,en⟩:=strAt_mem out (by rw [h.keys]; exact hk)
 rw [← en,← e]
 exact ⟨h.pos s hs,h.low s hs⟩
theorem Round.set {ts:List Ty} {out:List St} (h:Round ts out) (hF:Found ts) {i:Nat} (hi:i < out.length) {d:Dp} (hd:d ∈ depsK ts out[i].key):Round ts (out.set i ⟨out[i].typ,out[i].rel,strAt out (d.typ,d.rel) + stepOf d⟩):=by
 have hk:out[i].key ∈ ents ts:=h.mem (List.getElem_mem hi)
 have hdk:=hF _ hk d hd
 obtain ⟨h0,hl⟩:=h.at hdk
 have hs0:0≤stepOf d:=by unfold stepOf; split <;> omega
 refine ⟨(keysS_set out i hi _).trans h.keys,fun s hs=>?_,fun s hs=>?_⟩
 ·rcases List.mem_or_eq_of_mem_set hs with hs | rfl
  ·exact h.pos s hs
  ·show 0≤strAt out (d.typ,d.rel) + stepOf d; omega
 ·rcases List.mem_or_eq_of_mem_set hs with hs | rfl
  ·exact h.low s hs
  ·exact hl.step hk hd
theorem Round.done {ts:List Ty} {out:List St} (h:Round ts out) (hs:∀ s ∈ out,satK ts out s (depsK ts s.key).length):Least ts (strAt out) where
 sol:=⟨fun k=>by
   by_cases hk:k ∈ ents ts
   ·exact (h.at hk).1
   ·rw [strAt_no out (by rw [h.keys]; exact hk)]; exact Int.le_refl _,fun k hk d hd=>by
   obtain ⟨s,hm,e,en⟩:=strAt_mem out (by rw [h.keys]; exact hk)
   have:=hs s hm d (by rw [List.take_length,e]; exact hd)
   rw [← en]; exact this⟩
 low k hk:=(h.at hk).2
end Go.Proofs.YtogjfppkbkgaeaaGreat
namespace Go.Proofs.YtogjfppkbkgaeaaGreat
open Pl
def alEq (x y:Al):Bool:=x.t.toList == y.t.toList && x.s.toList == y.s.toList
def alB (a:Al):Bool:=nameB a.t && setB' a.s
def inPre (xs:List Al) (k:Nat) (a:Al):Bool:=(xs.take k).any fun x=>alEq x a
theorem inPre_succ (xs:List Al) (k:Nat) (a:Al) (h:k < xs.length):inPre xs (k + 1) a=(inPre xs k a || alEq xs[k] a):=by
 unfold inPre; rw [List.take_succ_eq_append_getElem h,List.any_append]; simp
theorem inPre_zero (xs:List Al) (a:Al):inPre xs 0 a=false:=by simp [inPre]
def upA (xs:List Al):Nat→Bool
 | 0=>true
 | k + 1=>upA xs k && (xs[k]?.map fun a=>alB a && !inPre xs k a).getD true
theorem upA_succ (xs:List Al) (k:Nat) (h:k < xs.length):upA xs (k + 1)=(upA xs k && (alB xs[k] && !inPre xs k xs[k])):=by
 simp [upA,h]
theorem upA_bad (xs:List Al) (k:Nat) (h:k < xs.length) (hb:(alB xs[k] && !inPre xs k xs[k])=false):∀ n,k < n→upA xs n=false
 | 0,hn=>by omega
 | n + 1,hn=>by
  by_cases e:n=k
  ·subst e; rw [upA_succ _ _ h,hb]; simp
  ·simp [upA,upA_bad xs k h hb n (by omega)]
def allowB (xs:List Al):Bool:=decide (1≤xs.length) && decide (xs.length≤6) && upA xs xs.length
def nodeB (e:Ex):Bool :=
 if e.kind=1 then allowB e.allow && e.over.toList.isEmpty && e.name.toList.isEmpty && decide (e.kids.length=0)
 else if e.kind=2 then nameB e.name && decide (e.allow.length=0) && e.over.toList.isEmpty && decide (e.kids.length=0)
 else if e.kind=3 then nameB e.over && nameB e.name && decide (e.allow.length=0) && decide (e.kids.length=0)
 else if e.kind=4 ∨ e.kind=5 then decide (2≤e.kids.length) && decide (e.kids.length≤5) && decide (e.allow.length=0) && e.over.toList.isEmpty && e.name.toList.isEmpty
 else if e.kind=6 then decide (e.kids.length=2) && decide (e.allow.length=0) && e.over.toList.isEmpty && e.name.toList.isEmpty
 else false
def treeGo (f:Int→Int):List Int→Int→Int
 | [],at'=>at' + 1
 | k::ks,at'=>if at' < 0 ∨ k ≠ at' then -1 else if f at' < 0 then -1 else treeGo f ks (f at' - 1)
def kidsAt (es:List Ex) (n:Nat):List Int:=(es[n]?.map Ex.kids).getD []
def treeAt (es:List Ex) (n:Nat):Int:=treeGo (fun x=>if _h:0≤x∧x.toNat < n then treeAt es x.toNat else -1) (kidsAt es n).reverse ((n:Int) - 1)
def treeF (es:List Ex) (n:Nat) (x:Int):Int:=if 0≤x∧x.toNat < n then treeAt es x.toNat else -1
theorem treeAt_eq (es:List Ex) (n:Nat):treeAt es n=treeGo (treeF es n) (kidsAt es n).reverse ((n:Int) - 1):=by
 rw [treeAt]
 rfl
theorem treeGo_le {f:Int→Int} (hf:∀ x,0≤x→f x≤x):∀ (ks:List Int) (a:Int),-1≤a→treeGo f ks a≤a + 1
 | [],a,_=>by simp [treeGo]
 | k::ks,a,ha=>by
  unfold treeGo
  split
  ·omega
  ·rename_i h
   split
   ·omega
   ·rename_i h2
    have h0:0≤a:=by omega
    have:=treeGo_le hf ks (f a - 1) (by omega)
    have:=hf a h0
    omega
theorem treeAt_le (es:List Ex) (n:Nat):treeAt es n≤n:=by
 induction n using Nat.strongRecOn with
 | ind n ih =>
  rw [treeAt_eq]
  have:=treeGo_le (f:=treeF es n) (fun x hx=>by
   unfold treeF
   split
   ·rename_i h; have:=ih x.toNat h.2; omega
   ·omega) (kidsAt es n).reverse ((n:Int) - 1) (by omega)
  omega
theorem treeF_le (es:List Ex) (n:Nat) (x:Int) (hx:0≤x):treeF es n x≤x:=by
 unfold treeF
 split
 ·have:=treeAt_le es x.toNat; omega
 ·omega
theorem treeGo_covers {es:List Ex} {n:Nat} (ih:∀ m,m < n→0≤treeAt es m→∀ j:Nat,treeAt es m≤j→j≤m→0≤treeAt es j) :
  ∀ (ks:List Int) (a:Int),a < n→0≤treeGo (treeF es n) ks a→∀ j:Nat,treeGo (treeF es n) ks a≤j→(j:Int)≤a→0≤treeAt es j
 | [],a,ha,h,j,h1,h2=>by simp [treeGo] at h1; omega
 | k::ks,a,ha,h,j,h1,h2=>by
  unfold treeGo at h h1
  split at h
  ·omega
  ·rename_i c
   rw [if_neg c] at h1
   split at h
   ·omega
   ·rename_i c2
    rw [if_neg c2] at h1
    have h0:0≤a:=by omega
    have hF:treeF es n a=treeAt es a.toNat:=by unfold treeF; rw [if_pos ⟨h0,by omega⟩]
    rw [hF] at h h1 c2
    by_cases hj:treeAt es a.toNat≤j
    ·exact ih a.toNat (by omega) (by omega) j hj (by omega)
    ·exact treeGo_covers ih ks (treeAt es a.toNat - 1) (by have:=treeAt_le es a.toNat; omega) h j h1 (by omega)
theorem treeAt_covers (es:List Ex) (n:Nat):0≤treeAt es n→∀ j:Nat,treeAt es n≤j→j≤n→0≤treeAt es j:=by
 induction n using Nat.strongRecOn with
 | ind n ih =>
  intro h j h1 h2
  by_cases e:j=n
  ·subst e; exact h
  ·rw [treeAt_eq] at h h1
   exact treeGo_covers ih _ _ (by omega) h j h1 (by omega)
def kidsIn (es:List Ex) (i:Nat):Bool:=(kidsAt es i).all fun k=>decide (0≤k) && decide (k≤(i:Int) - 1)
theorem treeGo_kids {es:List Ex} {n:Nat}:∀ (ks:List Int) (a:Int),a < n→0≤treeGo (treeF es n) ks a→∀ k ∈ ks,0≤k∧k≤a
 | [],_,_,_,k,hk=>by cases hk
 | x::ks,a,ha,h,k,hk=>by
  unfold treeGo at h
  split at h
  ·omega
  ·rename_i c
   split at h
   ·omega
   ·rename_i c2
    have h0:0≤a:=by omega
    rcases List.mem_cons.1 hk with rfl | hk
    ·omega
    ·have hl:=treeF_le es n a h0
     have:=treeGo_kids ks (treeF es n a - 1) (by omega) h k hk
     omega
theorem kidsIn_of (es:List Ex) (i:Nat) (h:0≤treeAt es i):kidsIn es i=true:=by
 unfold kidsIn
 rw [List.all_eq_true]
 intro k hk
 rw [treeAt_eq] at h
 have:=treeGo_kids _ _ (by omega) h k (by simpa using hk)
 simp; omega
def goodUp (es:List Ex) (n:Nat):Prop:=∀ j,j < n→0≤treeAt es j
def own (es:List Ex):Nat:=(es.filter fun e=>decide (e.kind=1)).length
def ownUp (es:List Ex) (k:Nat):Nat:=own (es.take k)
theorem ownUp_succ (es:List Ex) (k:Nat) (h:k < es.length):ownUp es (k + 1)=ownUp es k + (if es[k].kind=1 then 1 else 0):=by
 unfold ownUp own
 rw [List.take_succ_eq_append_getElem h,List.filter_append,List.length_append]
 by_cases e:es[k].kind=1 <;> simp [e]
theorem ownUp_le (es:List Ex) (k:Nat):ownUp es k≤k:=by
 unfold ownUp own
 exact Nat.le_trans (List.length_filter_le ..) (by simp; omega)
def nodesUp (es:List Ex) (k:Nat):Bool:=(es.take k).all nodeB
theorem nodesUp_succ (es:List Ex) (k:Nat) (h:k < es.length):nodesUp es (k + 1)=(nodesUp es k && nodeB es[k]):=by
 unfold nodesUp; rw [List.take_succ_eq_append_getElem h,List.all_append]; simp
theorem nodes_bad (es:List Ex) (k:Nat) (h:k < es.length) (hb:nodeB es[k]=false):es.all nodeB=false:=by
 rw [Bool.eq_false_iff]; intro h2; rw [List.all_eq_true] at h2; have:=h2 es[k] (List.getElem_mem h); rw [hb] at this; cases this
def kidsUp (es:List Ex) (k:Nat):Bool:=(List.range k).all (kidsIn es)
theorem kidsUp_succ (es:List Ex) (k:Nat):kidsUp es (k + 1)=(kidsUp es k && kidsIn es k):=by simp [kidsUp,List.range_succ]
theorem kids_bad (es:List Ex) (k:Nat) (h:k < es.length) (hb:kidsIn es k=false):kidsUp es es.length=false:=by
 rw [Bool.eq_false_iff]; intro h2; unfold kidsUp at h2; rw [List.all_eq_true] at h2; have:=h2 k (by simpa using h); rw [hb] at this; cases this
def specE (es:List Ex):Bool:=decide (1≤es.length) && decide (es.length≤15) && es.all nodeB && kidsUp es es.length && decide (own es≤1) && decide (treeAt es (es.length - 1)=0)
def allTrees (es:List Ex):Bool:=(List.range es.length).all fun j=>decide (0≤treeAt es j)
def implE (es:List Ex):Bool:=decide (1≤es.length) && decide (es.length≤15) && es.all nodeB && decide (own es≤1) && (allTrees es && decide (treeAt es (es.length - 1)=0))
theorem spec_impl (es:List Ex):specE es=implE es:=by
 by_cases h1:1≤es.length
 ·by_cases ht:treeAt es (es.length - 1)=0
  ·have ha:allTrees es=true:=by
    unfold allTrees
    rw [List.all_eq_true]
    intro j hj
    have hj':j < es.length:=by simpa using hj
    simpa using treeAt_covers es (es.length - 1) (by omega) j (by omega) (by omega)
   have hk:kidsUp es es.length=true:=by
    unfold kidsUp
    rw [List.all_eq_true]
    intro j hj
    have hj':j < es.length:=by simpa using hj
    exact kidsIn_of es j (treeAt_covers es (es.length - 1) (by omega) j (by omega) (by omega))
   simp [specE,implE,ht,ha,hk,h1]
  ·simp [specE,implE,ht]
 ·simp [specE,implE,h1]
end Go.Proofs.YtogjfppkbkgaeaaGreat
