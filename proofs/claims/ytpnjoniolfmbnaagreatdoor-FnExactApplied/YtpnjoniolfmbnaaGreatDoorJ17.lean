/- Strata in memory, and the contract of the document's function that looks one up. -/
import Derived.Test.YtpnjoniolfmbnaaGreatDoorSpecSchema5
import Derived.Test.YtpnjoniolfmbnaaGreatDoorJ13
import Derived.Deep.RegionHeld3
import Derived.Deep.AppendLies
import Derived.Test.YtpnjoniolfmbnaaGreatDoorJ6
namespace Go.Proofs.YtpnjoniolfmbnaaGreatDoor
open Go.ChangeShapes Go.WideShapes Go.ChangeAt Go.RowKit
open Pl
structure St where
 typ:ByteArray
 rel:ByteArray
 n:Int
def At3 (w:World) (b off:Nat) (s:St):Prop:=w.cell? ⟨b,off,none⟩=some (.string s.typ)∧w.cell? ⟨b,off + 1,none⟩=some (.string s.rel)∧w.cell? ⟨b,off + 2,none⟩=some (.int .i64 s.n)
def SlN (w:World) (ad:Option Addr) (xs:List St):Prop:=xs=[] ∨ ∃ b off,ad=some ⟨b,off,none⟩∧b < w.heap.size∧∀ (i:Nat) (h:i < xs.length),At3 w b (off + i * 3) xs[i]
theorem SlN.below {w w':World} {ad:Option Addr} {xs:List St} (h:SlN w ad xs) (hB:Below w.heap.size w w'):SlN w' ad xs:=by
 rcases h with h | ⟨b,off,e,hb,hr⟩
 ·exact .inl h
 ·refine .inr ⟨b,off,e,Nat.lt_of_lt_of_le hb hB.size,fun i hi=>?_⟩
  obtain ⟨h0,h1,h2⟩:=hr i hi
  exact ⟨kept5 hB hb h0,kept5 hB hb h1,kept5 hB hb h2⟩
def isSt (s:St) (typ rel:ByteArray):Bool:=(s.typ.toList == typ.toList) && (s.rel.toList == rel.toList)
def atFrom (typ rel:ByteArray):List St→Nat→Int
 | [],_=>-1
 | s::xs,k=>if isSt s typ rel then (k:Int) else atFrom typ rel xs (k + 1)
theorem atFrom_drop (typ rel:ByteArray) (xs:List St) (k:Nat) (h:k < xs.length):atFrom typ rel (xs.drop k) k=if isSt xs[k] typ rel then (k:Int) else atFrom typ rel (xs.drop (k + 1)) (k + 1):=by
 rw [List.drop_eq_getElem_cons h]; rfl
set_option maxHeartbeats 1000000 in
theorem l2At_any (ad:Option Addr) (cap:Nat) (xs:List St) (typ rel:ByteArray) (w:World) (hlen:xs.length≤1048576) (hs:SlN w ad xs) :
  Calls Tryz.prog 126 #[.slice ad xs.length cap,.string typ,.string rel] w fun e w'=>e=.returned (.int .i64 (atFrom typ rel xs 0))∧w'=w:=by
 go_enter Tryz.func126,Tryz.ntmps126
 go_wp2
 go_loopw [7] (fun i wr=>∃ k:Nat,k≤xs.length∧i=.int .i64 k∧Hid (atFrom typ rel (xs.drop k) k=atFrom typ rel xs 0)∧wr=w) (fun i _=>xs.length - (intOf i).toNat)
 case atStart=>exact ⟨0,Nat.zero_le _,rfl,rfl,rfl⟩
 case round =>
  obtain ⟨k,hk,rfl,HP,rfl⟩:=hrel
  by_cases hlt:k < xs.length
  ·rcases hs with rfl | ⟨b,off,rfl,hb,hr⟩
   ·simp at hlt
   obtain ⟨t0,t1,t2⟩:=hr k hlt
   have hk1:(0:Int)≤(k:Int):=by omega
   have hk2:(k:Int) < (xs.length:Int):=by omega
   clear hr
   cases hq:(xs[k].typ.toList == typ.toList) with
   | true =>
    cases hp:(xs[k].rel.toList == rel.toList) with
    | true =>
     have HN:Hid (atFrom typ rel xs 0=(k:Int)):=by show _=_; rw [← HP.out,atFrom_drop _ _ _ _ hlt]; simp [isSt,hq,hp]
     go_wp2
     go_ret
     exact ⟨by rw [HN.out]; rfl,rfl⟩
    | false =>
     have HP2:Hid (atFrom typ rel (xs.drop (k + 1)) (k + 1)=atFrom typ rel xs 0):=by show _=_; rw [← HP.out,atFrom_drop _ _ _ _ hlt]; simp [isSt,hq,hp]
     go_wp2
     go_roundw
     case rel=>exact ⟨k + 1,by omega,by go_num,HP2,by first | rfl | trivial⟩
     case measure=>first | (simp [intOf]; done) | (simp [intOf]; omega)
   | false =>
    have HP2:Hid (atFrom typ rel (xs.drop (k + 1)) (k + 1)=atFrom typ rel xs 0):=by show _=_; rw [← HP.out,atFrom_drop _ _ _ _ hlt]; simp [isSt,hq]
    go_wp2
    go_roundw
    case rel=>exact ⟨k + 1,by omega,by go_num,HP2,by first | rfl | trivial⟩
    case measure=>first | (simp [intOf]; done) | (simp [intOf]; omega)
  ·have HN:Hid (atFrom typ rel xs 0=-1):=by show _=_; rw [← HP.out,List.drop_of_length_le (by omega)]; rfl
   go_wp2
   go_ret
   exact ⟨by rw [HN.out]; rfl,rfl⟩
end Go.Proofs.YtpnjoniolfmbnaaGreatDoor
namespace Go.Proofs.YtpnjoniolfmbnaaGreatDoor
open Go.ChangeShapes Go.WideShapes Go.ChangeAt Go.RowKit
open Pl
structure Dp where
 typ:ByteArray
 rel:ByteArray
 neg:Bool
def Dp.cells (d:Dp):List Value:=[.string d.typ,.string d.rel,.bool d.neg]
def flatD:List Dp→List Value
 | []=>[]
 | d::ds=>d.cells ++ flatD ds
theorem flatD_append (xs ys:List Dp):flatD (xs ++ ys)=flatD xs ++ flatD ys:=by
 induction xs with
 | nil=>rfl
 | cons d ds ih=>simp [flatD,ih]
theorem flatD_snoc (xs:List Dp) (d:Dp):flatD (xs ++ [d])=flatD xs ++ d.cells:=by rw [flatD_append]; simp [flatD]
def depsA (neg:Bool):List Al→List Dp
 | []=>[]
 | a::xs=>if a.s.toList.isEmpty then depsA neg xs else ⟨a.t,a.s,neg⟩::depsA neg xs
def depsN (ts:List Ty) (typ:ByteArray) (neg:Bool) (e:Ex):List Dp :=
 if e.kind=2 then [⟨typ,e.name,neg⟩] else if e.kind=3 then (goalsP ts typ e.over e.name).map fun g=>⟨g,e.name,neg⟩ else []
def depsAt (ts:List Ty) (typ:ByteArray) (es:List Ex) (k:Nat):List Dp :=
 match es[k]? with
 | none=>[]
 | some e=>depsA ((negP es).getD k false) e.allow ++ depsN ts typ ((negP es).getD k false) e
def depsUp (ts:List Ty) (typ:ByteArray) (es:List Ex):Nat→List Dp
 | 0=>[]
 | k + 1=>depsUp ts typ es k ++ depsAt ts typ es k
def depsP (ts:List Ty) (typ:ByteArray) (es:List Ex):List Dp:=depsUp ts typ es es.length
theorem depsA_append (neg:Bool) (xs ys:List Al):depsA neg (xs ++ ys)=depsA neg xs ++ depsA neg ys:=by
 induction xs with
 | nil=>rfl
 | cons a xs ih=>simp only [List.cons_append,depsA,ih]; split <;> simp
theorem depsA_no (neg:Bool) (xs:List Al) (k:Nat) (h:k < xs.length) (he:xs[k].s.toList.isEmpty=true):depsA neg (xs.take (k + 1))=depsA neg (xs.take k):=by
 rw [List.take_succ_eq_append_getElem h,depsA_append]; simp [depsA] at he ⊢; simp [he]
theorem depsA_yes (neg:Bool) (xs:List Al) (k:Nat) (h:k < xs.length) (he:xs[k].s.toList.isEmpty=false):depsA neg (xs.take (k + 1))=depsA neg (xs.take k) ++ [⟨xs[k].t,xs[k].s,neg⟩]:=by
 rw [List.take_succ_eq_append_getElem h,depsA_append]; simp [depsA,he]
theorem depsA_len (neg:Bool) (xs:List Al):(depsA neg xs).length≤xs.length:=by
 induction xs with
 | nil=>simp [depsA]
 | cons a xs ih=>simp only [depsA]; split <;> simp <;> omega
theorem info_dep:(Tryz.prog.info? 218).map (fun i=>(i.zero,i.size,i.bytes))=some (some (.agg #[.string ⟨#[]⟩,.string ⟨#[]⟩,.bool false]),3,40):=by kernel_rfl
end Go.Proofs.YtpnjoniolfmbnaaGreatDoor
namespace Go.Proofs.YtpnjoniolfmbnaaGreatDoor
open Pl
theorem ba_ext {a b:ByteArray} (h:a.toList=b.toList):a=b:=by
 rw [Go.ByteArray.toList_eq,Go.ByteArray.toList_eq] at h
 cases a with | mk x=>cases b with | mk y =>
 congr
 exact Array.ext' h
theorem ba_beq {a b:ByteArray}:(a.toList == b.toList)=true ↔ a=b:=⟨fun h=>ba_ext (by simpa using h),fun h=>by simp [h]⟩
def entsT (t:Ty):List (ByteArray × ByteArray):=t.rels.map fun r=>(t.name,r.name)
def ents (ts:List Ty):List (ByteArray × ByteArray):=ts.flatMap entsT
def stepOf (d:Dp):Int:=if d.neg then 1 else 0
def depsK (ts:List Ty) (k:ByteArray × ByteArray):List Dp:=depsP ts k.1 (relOr ts k.1 k.2)
structure Sol (ts:List Ty) (f:ByteArray × ByteArray→Int):Prop where
 pos:∀ k,0≤f k
 up:∀ k ∈ ents ts,∀ d ∈ depsK ts k,f (d.typ,d.rel) + stepOf d≤f k
def Found (ts:List Ty):Prop:=∀ k ∈ ents ts,∀ d ∈ depsK ts k,(d.typ,d.rel) ∈ ents ts
theorem countP_mono (vs:List Int) (x y:Int) (h:x≤y):vs.countP (fun v=>decide (v < x))≤vs.countP (fun v=>decide (v < y)) :=
 List.countP_mono_left fun v _ hv=>by simp at hv ⊢; omega
theorem countP_up (vs:List Int) (x y:Int) (h:x + 1≤y) (hx:x ∈ vs):vs.countP (fun v=>decide (v < x)) + 1≤vs.countP (fun v=>decide (v < y)):=by
 induction vs with
 | nil=>cases hx
 | cons v vs ih =>
  simp only [List.countP_cons]
  rcases List.mem_cons.1 hx with rfl | hm
  ·have:=countP_mono vs x y (by omega)
   have h1:decide (x < x)=false:=by simp
   have h2:decide (x < y)=true:=by simp; omega
   simp only [h1,h2]; simp; omega
  ·have:=ih hm
   by_cases h1:v < x
   ·have h2:v < y:=by omega
    simp [h1,h2]; omega
   ·simp only [h1]; simp; omega
theorem countP_few (vs:List Int) (x:Int) (hx:x ∈ vs):vs.countP (fun v=>decide (v < x)) + 1≤vs.length:=by
 induction vs with
 | nil=>cases hx
 | cons v vs ih =>
  simp only [List.countP_cons,List.length_cons]
  rcases List.mem_cons.1 hx with rfl | hm
  ·have:=List.countP_le_length (p:=fun v=>decide (v < x)) (l:=vs)
   have h1:decide (x < x)=false:=by simp
   simp only [h1]; simp; omega
  ·have:=ih hm
   split <;> omega
theorem Sol.few {ts:List Ty} {f:ByteArray × ByteArray→Int} (h:Sol ts f) (hF:Found ts):∃ g,Sol ts g∧∀ k ∈ ents ts,g k + 1≤(ents ts).length:=by
 refine ⟨fun k=>((((ents ts).map f).countP (fun v=>decide (v < f k)):Nat):Int),⟨fun k=>by omega,fun k hk d hd=>?_⟩,fun k hk=>?_⟩
 ·have h1:=h.up k hk d hd
  have h2:f (d.typ,d.rel) ∈ (ents ts).map f:=List.mem_map_of_mem (hF k hk d hd)
  unfold stepOf at h1 ⊢
  split at h1
  ·rename_i hn
   have:=countP_up ((ents ts).map f) _ _ h1 h2
   simp only [hn,if_true]; omega
  ·rename_i hn
   have:=countP_mono ((ents ts).map f) _ _ (show f (d.typ,d.rel)≤f k by omega)
   have e0:(if d.neg=true then (1:Int) else 0)=0:=if_neg hn
   rw [e0]; omega
 ·have:=countP_few ((ents ts).map f) (f k) (List.mem_map_of_mem hk)
  simp at this ⊢; omega
def LowK (ts:List Ty) (k:ByteArray × ByteArray) (n:Int):Prop:=∀ f,Sol ts f→n≤f k
theorem no_sol {ts:List Ty} (hF:Found ts) {k:ByteArray × ByteArray} (hk:k ∈ ents ts) {n:Int} (hl:LowK ts k n) (hn:((ents ts).length:Int)≤n):¬ ∃ f,Sol ts f:=by
 rintro ⟨f,hf⟩
 obtain ⟨g,hg,hb⟩:=hf.few hF
 have:=hl g hg
 have:=hb k hk
 omega
theorem LowK.step {ts:List Ty} {k:ByteArray × ByteArray} (hk:k ∈ ents ts) {d:Dp} (hd:d ∈ depsK ts k) {n:Int} (hl:LowK ts (d.typ,d.rel) n):LowK ts k (n + stepOf d):=fun f hf=>by
 have h1:=hl f hf
 have h2:=hf.up k hk d hd
 omega
theorem LowK.zero (ts:List Ty) (k:ByteArray × ByteArray):LowK ts k 0:=fun _ hf=>hf.pos k
structure Least (ts:List Ty) (f:ByteArray × ByteArray→Int):Prop where
 sol:Sol ts f
 low:∀ k ∈ ents ts,LowK ts k (f k)
theorem Least.same {ts:List Ty} {f g:ByteArray × ByteArray→Int} (hf:Least ts f) (hg:Least ts g) (k:ByteArray × ByteArray) (hk:k ∈ ents ts):f k=g k:=by
 have h1:=hf.low k hk g hg.sol
 have h2:=hg.low k hk f hf.sol
 omega
def St.key (s:St):ByteArray × ByteArray:=(s.typ,s.rel)
def keysS (out:List St):List (ByteArray × ByteArray):=out.map St.key
theorem isSt_iff {s:St} {k:ByteArray × ByteArray}:isSt s k.1 k.2=true ↔ s.key=k:=by
 unfold isSt St.key
 rw [Bool.and_eq_true,ba_beq,ba_beq]
 constructor
 ·rintro ⟨h1,h2⟩; rw [h1,h2]
 ·rintro rfl; exact ⟨rfl,rfl⟩
def strAt (out:List St) (k:ByteArray × ByteArray):Int :=
 match out with
 | []=>0
 | s::xs=>if isSt s k.1 k.2 then s.n else strAt xs k
theorem atFrom_found {k:ByteArray × ByteArray}:∀ (out:List St) (j:Nat),k ∈ keysS out→∃ i:Nat,∃ h:i < out.length,atFrom k.1 k.2 out j=((j + i:Nat):Int)∧out[i].key=k∧out[i].n=strAt out k
 | [],_,h=>by cases h
 | s::xs,j,h=>by
  by_cases hs:isSt s k.1 k.2=true
  ·exact ⟨0,by simp,by simp [atFrom,hs],isSt_iff.1 hs,by simp [strAt,hs]⟩
  ·have hm:k ∈ keysS xs:=by
    rcases List.mem_cons.1 h with e | hm
    ·exact absurd (isSt_iff.2 e.symm) hs
    ·exact hm
   obtain ⟨i,hi,h1,h2,h3⟩:=atFrom_found xs (j + 1) hm
   refine ⟨i + 1,by simp; omega,?_,by simpa using h2,by simpa [strAt,hs] using h3⟩
   simp only [atFrom,hs]
   simp only [Bool.false_eq_true,if_false]
   rw [h1]; congr 1; omega
theorem strAt_mem {k:ByteArray × ByteArray} (out:List St) (h:k ∈ keysS out):∃ s ∈ out,s.key=k∧s.n=strAt out k:=by
 obtain ⟨i,hi,-,h2,h3⟩:=atFrom_found out 0 h
 exact ⟨out[i],List.getElem_mem hi,h2,h3⟩
theorem strAt_no {k:ByteArray × ByteArray} (out:List St) (h:k ∉ keysS out):strAt out k=0:=by
 induction out with
 | nil=>rfl
 | cons s xs ih =>
  have h1:¬ isSt s k.1 k.2=true:=fun e=>h (by rw [isSt_iff] at e; simp [keysS,e])
  simp only [strAt,h1]
  simp only [Bool.false_eq_true,if_false]
  exact ih fun hm=>h (by simp only [keysS,List.map_cons,List.mem_cons]; exact .inr hm)
def sumN:List St→Int
 | []=>0
 | s::xs=>s.n + sumN xs
theorem sumN_set (out:List St) (i:Nat) (h:i < out.length) (n:Int):sumN (out.set i ⟨out[i].typ,out[i].rel,n⟩)=sumN out - out[i].n + n:=by
 induction out generalizing i with
 | nil=>simp at h
 | cons s xs ih =>
  cases i with
  | zero=>simp [sumN]; omega
  | succ i=>simp only [List.set_cons_succ,sumN,List.getElem_cons_succ]; rw [ih i (by simpa using h)]; omega
theorem keysS_set (out:List St) (i:Nat) (h:i < out.length) (n:Int):keysS (out.set i ⟨out[i].typ,out[i].rel,n⟩)=keysS out:=by
 unfold keysS
 rw [List.map_set]
 show (List.map St.key out).set i (out[i].key)=_
 have:out[i].key=(List.map St.key out)[i]'(by simpa using h):=by simp
 rw [this,List.set_getElem_self]
structure Round (ts:List Ty) (out:List St):Prop where
 keys:keysS out=ents ts
 pos:∀ s ∈ out,0≤s.n
 low:∀ s ∈ out,LowK ts s.key s.n
def satK (ts:List Ty) (out:List St) (s:St) (k:Nat):Prop:=∀ d ∈ (depsK ts s.key).take k,strAt out (d.typ,d.rel) + stepOf d≤s.n
theorem Round.mem {ts:List Ty} {out:List St} (h:Round ts out) {s:St} (hs:s ∈ out):s.key ∈ ents ts:=by rw [← h.keys]; exact List.mem_map_of_mem hs
theorem Round.at {ts:List Ty} {out:List St} (h:Round ts out) {k:ByteArray × ByteArray} (hk:k ∈ ents ts):0≤strAt out k∧LowK ts k (strAt out k):=by
 obtain ⟨s,hs,e,en⟩:=strAt_mem out (by rw [h.keys]; exact hk)
 rw [← en,← e]
 exact ⟨h.pos s hs,h.low s hs⟩
theorem Round.set {ts:List Ty} {out:List St} (h:Round ts out) (hF:Found ts) {i:Nat} (hi:i < out.length) {d:Dp} (hd:d ∈ depsK ts out[i].key):Round ts (out.set i ⟨out[i].typ,out[i].rel,strAt out (d.typ,d.rel) + stepOf d⟩):=by
 have hk:out[i].key ∈ ents ts:=h.mem (List.getElem_mem hi)
 have hdk:=hF _ hk d hd
 obtain ⟨h0,hl⟩:=h.at hdk
 have hs0:0≤stepOf d:=by unfold stepOf; split <;> omega
 refine ⟨(keysS_set out i hi _).trans h.keys,fun s hs=>?_,fun s hs=>?_⟩
 ·rcases List.mem_or_eq_of_mem_set hs with hs | rfl
  ·exact h.pos s hs
  ·show 0≤strAt out (d.typ,d.rel) + stepOf d; omega
 ·rcases List.mem_or_eq_of_mem_set hs with hs | rfl
  ·exact h.low s hs
  ·exact hl.step hk hd
theorem Round.done {ts:List Ty} {out:List St} (h:Round ts out) (hs:∀ s ∈ out,satK ts out s (depsK ts s.key).length):Least ts (strAt out) where
 sol:=⟨fun k=>by
   by_cases hk:k ∈ ents ts
   ·exact (h.at hk).1
   ·rw [strAt_no out (by rw [h.keys]; exact hk)]; exact Int.le_refl _,fun k hk d hd=>by
   obtain ⟨s,hm,e,en⟩:=strAt_mem out (by rw [h.keys]; exact hk)
   have:=hs s hm d (by rw [List.take_length,e]; exact hd)
   rw [← en]; exact this⟩
 low k hk:=(h.at hk).2
end Go.Proofs.YtpnjoniolfmbnaaGreatDoor
namespace Go.Proofs.YtpnjoniolfmbnaaGreatDoor
open Pl
def lessB (a b:ByteArray):Bool:=Op.bytesLess a.toList b.toList
def relAt (rs:List Rl) (j:Nat):Bool :=
 match rs[j]? with
 | none=>true
 | some r=>nameB r.name && (match j with | 0=>true | i + 1=>(rs[i]?.map fun p=>lessB p.name r.name).getD true) && specE r.expr
def relsUp (rs:List Rl):Nat→Bool
 | 0=>true
 | k + 1=>relsUp rs k && relAt rs k
def typAt (ts:List Ty) (j:Nat):Bool :=
 match ts[j]? with
 | none=>true
 | some t=>nameB t.name && (match j with | 0=>true | i + 1=>(ts[i]?.map fun p=>lessB p.name t.name).getD true) && decide (t.rels.length≤6) && relsUp t.rels t.rels.length
def typsUp (ts:List Ty):Nat→Bool
 | 0=>true
 | k + 1=>typsUp ts k && typAt ts k
theorem relsUp_bad (rs:List Rl) (k:Nat) (hb:relAt rs k=false):∀ n,k < n→relsUp rs n=false
 | 0,hn=>by omega
 | n + 1,hn=>by
  by_cases e:n=k
  ·subst e; simp [relsUp,hb]
  ·simp [relsUp,relsUp_bad rs k hb n (by omega)]
theorem typsUp_bad (ts:List Ty) (k:Nat) (hb:typAt ts k=false):∀ n,k < n→typsUp ts n=false
 | 0,hn=>by omega
 | n + 1,hn=>by
  by_cases e:n=k
  ·subst e; simp [typsUp,hb]
  ·simp [typsUp,typsUp_bad ts k hb n (by omega)]
theorem relsUp_all {rs:List Rl}:∀ {n:Nat},relsUp rs n=true→∀ j,j < n→relAt rs j=true
 | 0,_,j,hj=>by omega
 | n + 1,h,j,hj=>by
  simp only [relsUp,Bool.and_eq_true] at h
  by_cases e:j=n
  ·subst e; exact h.2
  ·exact relsUp_all h.1 j (by omega)
theorem typsUp_all {ts:List Ty}:∀ {n:Nat},typsUp ts n=true→∀ j,j < n→typAt ts j=true
 | 0,_,j,hj=>by omega
 | n + 1,h,j,hj=>by
  simp only [typsUp,Bool.and_eq_true] at h
  by_cases e:j=n
  ·subst e; exact h.2
  ·exact typsUp_all h.1 j (by omega)
def shapeB (ts:List Ty):Bool:=decide (ts.length≤6) && typsUp ts ts.length
def refsT (ts:List Ty) (t:Ty):Bool:=t.rels.all fun r=>refsP ts t.name r.expr
def refsAll (ts:List Ty):Bool:=ts.all (refsT ts)
def SchemaP (ts:List Ty):Prop:=shapeB ts=true∧refsAll ts=true∧∃ f,Sol ts f
theorem relIn_mem {rs:List Rl} {n:ByteArray} {es:List Ex} (h:relIn rs n=some es):∃ r ∈ rs,r.name=n∧r.expr=es:=by
 induction rs with
 | nil=>simp [relIn] at h
 | cons r rs ih =>
  simp only [relIn] at h
  split at h
  ·rename_i hn; injection h with h; exact ⟨r,by simp,ba_beq.1 hn,h⟩
  ·obtain ⟨q,hq,e⟩:=ih h; exact ⟨q,by simp [hq],e⟩
theorem relP_mem {ts:List Ty} {ty n:ByteArray} {es:List Ex} (h:relP ts ty n=some es):∃ t ∈ ts,∃ r ∈ t.rels,t.name=ty∧r.name=n∧r.expr=es:=by
 induction ts with
 | nil=>simp [relP] at h
 | cons t ts ih =>
  simp only [relP] at h
  split at h
  ·rename_i hn
   rcases Option.or_eq_some_iff.1 h with h | ⟨-,h⟩
   ·obtain ⟨r,hr,e⟩:=relIn_mem h; exact ⟨t,by simp,r,hr,ba_beq.1 hn,e⟩
   ·obtain ⟨t',ht,e⟩:=ih h; exact ⟨t',by simp [ht],e⟩
  ·obtain ⟨t',ht,e⟩:=ih h; exact ⟨t',by simp [ht],e⟩
theorem mem_ents {ts:List Ty} {k:ByteArray × ByteArray}:k ∈ ents ts ↔ ∃ t ∈ ts,∃ r ∈ t.rels,k=(t.name,r.name):=by
 simp only [ents,entsT,List.mem_flatMap,List.mem_map]
 constructor
 ·rintro ⟨t,ht,r,hr,e⟩; exact ⟨t,ht,r,hr,e.symm⟩
 ·rintro ⟨t,ht,r,hr,e⟩; exact ⟨t,ht,r,hr,e.symm⟩
theorem relOr_mem {ts:List Ty} {ty n:ByteArray} (h:(relOr ts ty n).isEmpty=false):(ty,n) ∈ ents ts:=by
 unfold relOr at h
 cases e:relP ts ty n with
 | none=>rw [e] at h; simp at h
 | some es =>
  obtain ⟨t,ht,r,hr,h1,h2,-⟩:=relP_mem e
  exact mem_ents.2 ⟨t,ht,r,hr,by rw [h1,h2]⟩
theorem gl_mem {ts:List Ty} {rel:ByteArray} {xs:List Al} {g:ByteArray} (h:g ∈ gl ts rel xs):(relOr ts g rel).isEmpty=false:=by
 induction xs with
 | nil=>simp [gl] at h
 | cons a xs ih =>
  simp only [gl] at h
  split at h
  ·exact ih h
  ·rename_i hn
   rcases List.mem_cons.1 h with rfl | h
   ·simpa using hn
   ·exact ih h
theorem depsA_mem {neg:Bool} {xs:List Al} {d:Dp} (h:d ∈ depsA neg xs):∃ a ∈ xs,a.s.toList.isEmpty=false∧d.typ=a.t∧d.rel=a.s:=by
 induction xs with
 | nil=>simp [depsA] at h
 | cons a xs ih =>
  simp only [depsA] at h
  split at h
  ·obtain ⟨b,hb,e⟩:=ih h; exact ⟨b,by simp [hb],e⟩
  ·rename_i hn
   rcases List.mem_cons.1 h with rfl | h
   ·exact ⟨a,by simp,by simpa using hn,rfl,rfl⟩
   ·obtain ⟨b,hb,e⟩:=ih h; exact ⟨b,by simp [hb],e⟩
theorem depsUp_mem {ts:List Ty} {typ:ByteArray} {es:List Ex} {d:Dp}:∀ {k:Nat},d ∈ depsUp ts typ es k→∃ i,i < k∧d ∈ depsAt ts typ es i
 | 0,h=>by simp [depsUp] at h
 | k + 1,h=>by
  simp only [depsUp] at h
  rcases List.mem_append.1 h with h | h
  ·obtain ⟨i,hi,e⟩:=depsUp_mem h; exact ⟨i,by omega,e⟩
  ·exact ⟨k,by omega,h⟩
theorem refsP_all {ts:List Ty} {typ:ByteArray} {es:List Ex} (h:refsP ts typ es=true):∀ e ∈ es,refA ts e.allow=true∧refN ts typ e=true:=by
 induction es with
 | nil=>intro e he; cases he
 | cons e es ih =>
  simp only [refsP] at h
  split at h
  ·rename_i hn
   rw [Bool.and_eq_true] at hn
   intro q hq
   rcases List.mem_cons.1 hq with rfl | hq
   ·exact hn
   ·exact ih h q hq
  ·cases h
theorem found_of {ts:List Ty} (h:refsAll ts=true):Found ts:=by
 intro k hk d hd
 unfold depsK depsP at hd
 have hne:(relOr ts k.1 k.2).length ≠ 0:=by
  intro e
  rw [e] at hd; simp [depsUp] at hd
 obtain ⟨es,hes⟩:∃ es,relP ts k.1 k.2=some es:=by
  cases e:relP ts k.1 k.2 with
  | none=>unfold relOr at hne; rw [e] at hne; simp at hne
  | some es=>exact ⟨es,rfl⟩
 have ero:relOr ts k.1 k.2=es:=by unfold relOr; rw [hes]; rfl
 rw [ero] at hd
 obtain ⟨t,ht,r,hr,h1,h2,h3⟩:=relP_mem hes
 have hr1:refsP ts k.1 es=true:=by
  unfold refsAll at h
  rw [List.all_eq_true] at h
  have:=h t ht
  unfold refsT at this
  rw [List.all_eq_true] at this
  have:=this r hr
  rw [h1,h3] at this
  exact this
 obtain ⟨i,hi,hdi⟩:=depsUp_mem hd
 unfold depsAt at hdi
 split at hdi
 ·cases hdi
 ·rename_i e he
  obtain ⟨ra,rn⟩:=refsP_all hr1 e (List.mem_of_getElem? he)
  rcases List.mem_append.1 hdi with hdi | hdi
  ·obtain ⟨a,ha,hs,e1,e2⟩:=depsA_mem hdi
   unfold refA at ra
   rw [List.all_eq_true] at ra
   have:=ra a ha
   unfold alRef at this
   rw [hs,Bool.false_or,Bool.and_eq_true] at this
   rw [e1,e2]
   exact relOr_mem (by simpa using this.2)
  ·unfold depsN at hdi
   unfold refN at rn
   split at hdi
   ·rename_i h2
    rw [if_pos h2] at rn
    simp at hdi
    subst hdi
    exact relOr_mem (by simpa using rn)
   ·split at hdi
    ·obtain ⟨g,hg,rfl⟩:=List.mem_map.1 hdi
     exact relOr_mem (gl_mem hg)
    ·cases hdi
theorem specE_few {es:List Ex} (h:specE es=true):1≤es.length∧es.length≤15:=by
 simp only [specE,Bool.and_eq_true,decide_eq_true_eq] at h
 exact ⟨h.1.1.1.1.1,h.1.1.1.1.2⟩
theorem specE_row {es:List Ex} (h:specE es=true) (i:Nat) (hi:i < es.length):kidsRow es.length es[i].kids:=by
 simp only [specE,Bool.and_eq_true,decide_eq_true_eq] at h
 have h1:=h.1.1.2
 unfold kidsUp at h1
 rw [List.all_eq_true] at h1
 have h2:=h1 i (by simpa using hi)
 unfold kidsIn kidsAt at h2
 rw [List.getElem?_eq_getElem hi] at h2
 simp only [Option.map_some,Option.getD_some,List.all_eq_true,Bool.and_eq_true,decide_eq_true_eq] at h2
 intro x hx
 have:=h2 x hx
 omega
theorem shape_facts {rs:List TR} (h:shapeB (tys rs)=true):rs.length≤6∧(∀ r ∈ rs,r.rows.length≤6)∧∀ r ∈ rs,∀ q ∈ r.rows,specE (exs q.rows)=true∧q.rows.length≤15∧∀ e ∈ q.rows,kidsRow q.rows.length e.e.kids:=by
 simp only [shapeB,Bool.and_eq_true,decide_eq_true_eq] at h
 rw [tys_len] at h
 have hT:∀ r ∈ rs,r.rows.length≤6∧relsUp (rls r.rows) r.rows.length=true:=by
  intro r hr
  obtain ⟨j,hj,rfl⟩:=List.mem_iff_getElem.1 hr
  have h1:=typsUp_all h.2 j hj
  unfold typAt at h1
  have e:(tys rs)[j]?=some rs[j].p:=by simp [tys,hj]
  rw [e] at h1
  simp only [Bool.and_eq_true,decide_eq_true_eq] at h1
  have e2:rs[j].p.rels.length=rs[j].rows.length:=by simp [TR.p,rls]
  rw [e2] at h1
  exact ⟨h1.1.2,h1.2⟩
 refine ⟨h.1,fun r hr=>(hT r hr).1,fun r hr q hq=>?_⟩
 obtain ⟨j,hj,rfl⟩:=List.mem_iff_getElem.1 hq
 have h1:=relsUp_all (hT r hr).2 j hj
 unfold relAt at h1
 have e:(rls r.rows)[j]?=some r.rows[j].p:=by simp [rls,hj]
 rw [e] at h1
 simp only [Bool.and_eq_true] at h1
 have h2:specE (exs r.rows[j].rows)=true:=h1.2
 have h3:=specE_few h2
 rw [exs_len] at h3
 refine ⟨h2,h3.2,fun e he=>?_⟩
 obtain ⟨i,hi,rfl⟩:=List.mem_iff_getElem.1 he
 have:=specE_row h2 i (by rw [exs_len]; exact hi)
 have e1:(exs r.rows[j].rows)[i]'(by rw [exs_len]; exact hi)=r.rows[j].rows[i].e:=by simp [exs]
 rw [e1] at this
 simpa [exs] using this
def assigns (n:Nat):List (ByteArray × ByteArray)→List (ByteArray × ByteArray→Int)
 | []=>[fun _=>0]
 | k::ks=>(assigns n ks).flatMap fun f=>(List.range n).map fun v=>fun y=>if y=k then ((v:Nat):Int) else f y
theorem assigns_pos {n:Nat}:∀ {ks:List (ByteArray × ByteArray)} {f:ByteArray × ByteArray→Int},f ∈ assigns n ks→∀ k,0≤f k
 | [],f,h,k=>by simp only [assigns,List.mem_singleton] at h; rw [h]; exact Int.le_refl _
 | x::ks,f,h,k=>by
  simp only [assigns,List.mem_flatMap,List.mem_map] at h
  obtain ⟨g,hg,v,-,rfl⟩:=h
  show 0≤(if k=x then ((v:Nat):Int) else g k)
  split
  ·omega
  ·exact assigns_pos hg k
theorem assigns_mem {n:Nat} (g:ByteArray × ByteArray→Int):∀ (ks:List (ByteArray × ByteArray)),(∀ k ∈ ks,0≤g k∧g k < n)→∃ f ∈ assigns n ks,∀ k ∈ ks,f k=g k
 | [],_=>⟨fun _=>0,by simp [assigns],fun k hk=>by cases hk⟩
 | x::ks,h=>by
  obtain ⟨f,hf,hfg⟩:=assigns_mem g ks fun k hk=>h k (List.mem_cons_of_mem _ hk)
  obtain ⟨h0,h1⟩:=h x (List.mem_cons_self ..)
  refine ⟨fun y=>if y=x then (((g x).toNat:Nat):Int) else f y,?_,fun k hk=>?_⟩
  ·simp only [assigns,List.mem_flatMap,List.mem_map]
   exact ⟨f,hf,(g x).toNat,List.mem_range.2 (by omega),rfl⟩
  ·show (if k=x then (((g x).toNat:Nat):Int) else f k)=g k
   by_cases e:k=x
   ·rw [if_pos e,e]; omega
   ·rw [if_neg e]
    rcases List.mem_cons.1 hk with h2 | h2
    ·exact absurd h2 e
    ·exact hfg k h2
def upB (ts:List Ty) (f:ByteArray × ByteArray→Int):Bool:=(ents ts).all fun k=>(depsK ts k).all fun d=>decide (f (d.typ,d.rel) + stepOf d≤f k)
theorem upB_iff {ts:List Ty} {f:ByteArray × ByteArray→Int}:upB ts f=true ↔ ∀ k ∈ ents ts,∀ d ∈ depsK ts k,f (d.typ,d.rel) + stepOf d≤f k:=by
 unfold upB; simp only [List.all_eq_true,decide_eq_true_eq]
def solsB (ts:List Ty):List (ByteArray × ByteArray→Int):=(assigns (ents ts).length (ents ts)).filter (upB ts)
theorem solsB_sol {ts:List Ty} {f:ByteArray × ByteArray→Int} (h:f ∈ solsB ts):Sol ts f:=by
 unfold solsB at h
 rw [List.mem_filter] at h
 exact ⟨assigns_pos h.1,upB_iff.1 h.2⟩
theorem solsB_of {ts:List Ty} {g:ByteArray × ByteArray→Int} (hF:Found ts) (h:Sol ts g) (hb:∀ k ∈ ents ts,g k + 1≤(ents ts).length):∃ f ∈ solsB ts,∀ k ∈ ents ts,f k=g k:=by
 obtain ⟨f,hf,hfg⟩:=assigns_mem (n:=(ents ts).length) g (ents ts) fun k hk=>⟨h.pos k,by have:=hb k hk; omega⟩
 refine ⟨f,?_,hfg⟩
 unfold solsB
 rw [List.mem_filter]
 refine ⟨hf,upB_iff.2 fun k hk d hd=>?_⟩
 rw [hfg k hk,hfg _ (hF k hk d hd)]
 exact h.up k hk d hd
def schemaD (ts:List Ty):Bool:=shapeB ts && refsAll ts && !(solsB ts).isEmpty
theorem schemaD_iff {ts:List Ty}:schemaD ts=true ↔ SchemaP ts:=by
 unfold schemaD SchemaP
 simp only [Bool.and_eq_true,Bool.not_eq_true']
 constructor
 ·rintro ⟨⟨h1,h2⟩,h3⟩
  refine ⟨h1,h2,?_⟩
  cases e:solsB ts with
  | nil=>rw [e] at h3; cases h3
  | cons f fs=>exact ⟨f,solsB_sol (by rw [e]; exact List.mem_cons_self ..)⟩
 ·rintro ⟨h1,h2,f,hf⟩
  refine ⟨⟨h1,h2⟩,?_⟩
  obtain ⟨g,hg,hb⟩:=hf.few (found_of h2)
  obtain ⟨f2,hf2,-⟩:=solsB_of (found_of h2) hg hb
  cases e:solsB ts with
  | nil=>rw [e] at hf2; cases hf2
  | cons f fs=>rfl
theorem schemaD_yes {ts:List Ty} (h:SchemaP ts):schemaD ts=true:=schemaD_iff.2 h
theorem schemaD_no {ts:List Ty} (h:¬ SchemaP ts):schemaD ts=false:=by
 cases e:schemaD ts with
 | false=>rfl
 | true=>exact absurd (schemaD_iff.1 e) h
end Go.Proofs.YtpnjoniolfmbnaaGreatDoor
