/- What a right schema is, in plain words. -/
import Derived.Test.YtogjfppkbkgaeaaGreatJ5
import Derived.Test.YtogjfppkbkgaeaaGreatJ2
import Derived.Below
import Derived.Test.YtogjfppkbkgaeaaGreatJ1
namespace Go.Proofs.YtogjfppkbkgaeaaGreat
open Pl
def lessB (a b:ByteArray):Bool:=Op.bytesLess a.toList b.toList
def relAt (rs:List Rl) (j:Nat):Bool :=
 match rs[j]? with
 | none=>true
 | some r=>nameB r.name && (match j with | 0=>true | i + 1=>(rs[i]?.map fun p=>lessB p.name r.name).getD true) && specE r.expr
def relsUp (rs:List Rl):Nat→Bool
 | 0=>true
 | k + 1=>relsUp rs k && relAt rs k
def typAt (ts:List Ty) (j:Nat):Bool :=
 match ts[j]? with
 | none=>true
 | some t=>nameB t.name && (match j with | 0=>true | i + 1=>(ts[i]?.map fun p=>lessB p.name t.name).getD true) && decide (t.rels.length≤6) && relsUp t.rels t.rels.length
def typsUp (ts:List Ty):Nat→Bool
 | 0=>true
 | k + 1=>typsUp ts k && typAt ts k
theorem relsUp_bad (rs:List Rl) (k:Nat) (hb:relAt rs k=false):∀ n,k < n→relsUp rs n=false
 | 0,hn=>by omega
 | n + 1,hn=>by
  by_cases e:n=k
  ·subst e; simp [relsUp,hb]
  ·simp [relsUp,relsUp_bad rs k hb n (by omega)]
theorem typsUp_bad (ts:List Ty) (k:Nat) (hb:typAt ts k=false):∀ n,k < n→typsUp ts n=false
 | 0,hn=>by omega
 | n + 1,hn=>by
  by_cases e:n=k
  ·subst e; simp [typsUp,hb]
  ·simp [typsUp,typsUp_bad ts k hb n (by omega)]
theorem relsUp_all {rs:List Rl}:∀ {n:Nat},relsUp rs n=true→∀ j,j < n→relAt rs j=true
 | 0,_,j,hj=>by omega
 | n + 1,h,j,hj=>by
  simp only [relsUp,Bool.and_eq_true] at h
  by_cases e:j=n
  ·subst e; exact h.2
  ·exact relsUp_all h.1 j (by omega)
theorem typsUp_all {ts:List Ty}:∀ {n:Nat},typsUp ts n=true→∀ j,j < n→typAt ts j=true
 | 0,_,j,hj=>by omega
 | n + 1,h,j,hj=>by
  simp only [typsUp,Bool.and_eq_true] at h
  by_cases e:j=n
  ·subst e; exact h.2
  ·exact typsUp_all h.1 j (by omega)
def shapeB (ts:List Ty):Bool:=decide (ts.length≤6) && typsUp ts ts.length
def refsT (ts:List Ty) (t:Ty):Bool:=t.rels.all fun r=>refsP ts t.name r.expr
def refsAll (ts:List Ty):Bool:=ts.all (refsT ts)
def SchemaP (ts:List Ty):Prop:=shapeB ts=true∧refsAll ts=true∧∃ f,Sol ts f
theorem relIn_mem {rs:List Rl} {n:ByteArray} {es:List Ex} (h:relIn rs n=some es):∃ r ∈ rs,r.name=n∧r.expr=es:=by
 induction rs with
 | nil=>simp [relIn] at h
 | cons r rs ih =>
  simp only [relIn] at h
  split at h
  ·rename_i hn; injection h with h; exact ⟨r,by simp,ba_beq.1 hn,h⟩
  ·obtain ⟨q,hq,e⟩:=ih h; exact ⟨q,by simp [hq],e⟩
theorem relP_mem {ts:List Ty} {ty n:ByteArray} {es:List Ex} (h:relP ts ty n=some es):∃ t ∈ ts,∃ r ∈ t.rels,t.name=ty∧r.name=n∧r.expr=es:=by
 induction ts with
 | nil=>simp [relP] at h
 | cons t ts ih =>
  simp only [relP] at h
  split at h
  ·rename_i hn
   rcases Option.or_eq_some_iff.1 h with h | ⟨-,h⟩
   ·obtain ⟨r,hr,e⟩:=relIn_mem h; exact ⟨t,by simp,r,hr,ba_beq.1 hn,e⟩
   ·obtain ⟨t',ht,e⟩:=ih h; exact ⟨t',by simp [ht],e⟩
  ·obtain ⟨t',ht,e⟩:=ih h; exact ⟨t',by simp [ht],e⟩
theorem mem_ents {ts:List Ty} {k:ByteArray × ByteArray}:k ∈ ents ts ↔ ∃ t ∈ ts,∃ r ∈ t.rels,k=(t.name,r.name):=by
 simp only [ents,entsT,List.mem_flatMap,List.mem_map]
 constructor
 ·rintro ⟨t,ht,r,hr,e⟩; exact ⟨t,ht,r,hr,e.symm⟩
 ·rintro ⟨t,ht,r,hr,e⟩; exact ⟨t,ht,r,hr,e.symm⟩
theorem relOr_mem {ts:List Ty} {ty n:ByteArray} (h:(relOr ts ty n).isEmpty=false):(ty,n) ∈ ents ts:=by
 unfold relOr at h
 cases e:relP ts ty n with
 | none=>rw [e] at h; simp at h
 | some es =>
  obtain ⟨t,ht,r,hr,h1,h2,-⟩:=relP_mem e
  exact mem_ents.2 ⟨t,ht,r,hr,by rw [h1,h2]⟩
theorem gl_mem {ts:List Ty} {rel:ByteArray} {xs:List Al} {g:ByteArray} (h:g ∈ gl ts rel xs):(relOr ts g rel).isEmpty=false:=by
 induction xs with
 | nil=>simp [gl] at h
 | cons a xs ih =>
  simp only [gl] at h
  split at h
  ·exact ih h
  ·rename_i hn
   rcases List.mem_cons.1 h with rfl | h
   ·simpa using hn
   ·exact ih h
theorem depsA_mem {neg:Bool} {xs:List Al} {d:Dp} (h:d ∈ depsA neg xs):∃ a ∈ xs,a.s.toList.isEmpty=false∧d.typ=a.t∧d.rel=a.s:=by
 induction xs with
 | nil=>simp [depsA] at h
 | cons a xs ih =>
  simp only [depsA] at h
  split at h
  ·obtain ⟨b,hb,e⟩:=ih h; exact ⟨b,by simp [hb],e⟩
  ·rename_i hn
   rcases List.mem_cons.1 h with rfl | h
   ·exact ⟨a,by simp,by simpa using hn,rfl,rfl⟩
   ·obtain ⟨b,hb,e⟩:=ih h; exact ⟨b,by simp [hb],e⟩
theorem depsUp_mem {ts:List Ty} {typ:ByteArray} {es:List Ex} {d:Dp}:∀ {k:Nat},d ∈ depsUp ts typ es k→∃ i,i < k∧d ∈ depsAt ts typ es i
 | 0,h=>by simp [depsUp] at h
 | k + 1,h=>by
  simp only [depsUp] at h
  rcases List.mem_append.1 h with h | h
  ·obtain ⟨i,hi,e⟩:=depsUp_mem h; exact ⟨i,by omega,e⟩
  ·exact ⟨k,by omega,h⟩
theorem refsP_all {ts:List Ty} {typ:ByteArray} {es:List Ex} (h:refsP ts typ es=true):∀ e ∈ es,refA ts e.allow=true∧refN ts typ e=true:=by
 induction es with
 | nil=>intro e he; cases he
 | cons e es ih =>
  simp only [refsP] at h
  split at h
  ·rename_i hn
   rw [Bool.and_eq_true] at hn
   intro q hq
   rcases List.mem_cons.1 hq with rfl | hq
   ·exact hn
   ·exact ih h q hq
  ·cases h
theorem found_of {ts:List Ty} (h:refsAll ts=true):Found ts:=by
 intro k hk d hd
 unfold depsK depsP at hd
 have hne:(relOr ts k.1 k.2).length ≠ 0:=by
  intro e
  rw [e] at hd; simp [depsUp] at hd
 obtain ⟨es,hes⟩:∃ es,relP ts k.1 k.2=some es:=by
  cases e:relP ts k.1 k.2 with
  | none=>unfold relOr at hne; rw [e] at hne; simp at hne
  | some es=>exact ⟨es,rfl⟩
 have ero:relOr ts k.1 k.2=es:=by unfold relOr; rw [hes]; rfl
 rw [ero] at hd
 obtain ⟨t,ht,r,hr,h1,h2,h3⟩:=relP_mem hes
 have hr1:refsP ts k.1 es=true:=by
  unfold refsAll at h
  rw [List.all_eq_true] at h
  have:=h t ht
  unfold refsT at this
  rw [List.all_eq_true] at this
  have:=this r hr
  rw [h1,h3] at this
  exact this
 obtain ⟨i,hi,hdi⟩:=depsUp_mem hd
 unfold depsAt at hdi
 split at hdi
 ·cases hdi
 ·rename_i e he
  obtain ⟨ra,rn⟩:=refsP_all hr1 e (List.mem_of_getElem? he)
  rcases List.mem_append.1 hdi with hdi | hdi
  ·obtain ⟨a,ha,hs,e1,e2⟩:=depsA_mem hdi
   unfold refA at ra
   rw [List.all_eq_true] at ra
   have:=ra a ha
   unfold alRef at this
   rw [hs,Bool.false_or,Bool.and_eq_true] at this
   rw [e1,e2]
   exact relOr_mem (by simpa using this.2)
  ·unfold depsN at hdi
   unfold refN at rn
   split at hdi
   ·rename_i h2
    rw [if_pos h2] at rn
    simp at hdi
    subst hdi
    exact relOr_mem (by simpa using rn)
   ·split at hdi
    ·obtain ⟨g,hg,rfl⟩:=List.mem_map.1 hdi
     exact relOr_mem (gl_mem hg)
    ·cases hdi
theorem specE_few {es:List Ex} (h:specE es=true):1≤es.length∧es.length≤15:=by
 simp only [specE,Bool.and_eq_true,decide_eq_true_eq] at h
 exact ⟨h.1.1.1.1.1,h.1.1.1.1.2⟩
theorem specE_row {es:List Ex} (h:specE es=true) (i:Nat) (hi:i < es.length):kidsRow es.length es[i].kids:=by
 simp only [specE,Bool.and_eq_true,decide_eq_true_eq] at h
 have h1:=h.1.1.2
 unfold kidsUp at h1
 rw [List.all_eq_true] at h1
 have h2:=h1 i (by simpa using hi)
 unfold kidsIn kidsAt at h2
 rw [List.getElem?_eq_getElem hi] at h2
 simp only [Option.map_some,Option.getD_some,List.all_eq_true,Bool.and_eq_true,decide_eq_true_eq] at h2
 intro x hx
 have:=h2 x hx
 omega
theorem shape_facts {rs:List TR} (h:shapeB (tys rs)=true):rs.length≤6∧(∀ r ∈ rs,r.rows.length≤6)∧∀ r ∈ rs,∀ q ∈ r.rows,specE (exs q.rows)=true∧q.rows.length≤15∧∀ e ∈ q.rows,kidsRow q.rows.length e.e.kids:=by
 simp only [shapeB,Bool.and_eq_true,decide_eq_true_eq] at h
 rw [tys_len] at h
 have hT:∀ r ∈ rs,r.rows.length≤6∧relsUp (rls r.rows) r.rows.length=true:=by
  intro r hr
  obtain ⟨j,hj,rfl⟩:=List.mem_iff_getElem.1 hr
  have h1:=typsUp_all h.2 j hj
  unfold typAt at h1
  have e:(tys rs)[j]?=some rs[j].p:=by simp [tys,hj]
  rw [e] at h1
  simp only [Bool.and_eq_true,decide_eq_true_eq] at h1
  have e2:rs[j].p.rels.length=rs[j].rows.length:=by simp [TR.p,rls]
  rw [e2] at h1
  exact ⟨h1.1.2,h1.2⟩
 refine ⟨h.1,fun r hr=>(hT r hr).1,fun r hr q hq=>?_⟩
 obtain ⟨j,hj,rfl⟩:=List.mem_iff_getElem.1 hq
 have h1:=relsUp_all (hT r hr).2 j hj
 unfold relAt at h1
 have e:(rls r.rows)[j]?=some r.rows[j].p:=by simp [rls,hj]
 rw [e] at h1
 simp only [Bool.and_eq_true] at h1
 have h2:specE (exs r.rows[j].rows)=true:=h1.2
 have h3:=specE_few h2
 rw [exs_len] at h3
 refine ⟨h2,h3.2,fun e he=>?_⟩
 obtain ⟨i,hi,rfl⟩:=List.mem_iff_getElem.1 he
 have:=specE_row h2 i (by rw [exs_len]; exact hi)
 have e1:(exs r.rows[j].rows)[i]'(by rw [exs_len]; exact hi)=r.rows[j].rows[i].e:=by simp [exs]
 rw [e1] at this
 simpa [exs] using this
def assigns (n:Nat):List (ByteArray × ByteArray)→List (ByteArray × ByteArray→Int)
 | []=>[fun _=>0]
 | k::ks=>(assigns n ks).flatMap fun f=>(List.range n).map fun v=>fun y=>if y=k then ((v:Nat):Int) else f y
theorem assigns_pos {n:Nat}:∀ {ks:List (ByteArray × ByteArray)} {f:ByteArray × ByteArray→Int},f ∈ assigns n ks→∀ k,0≤f k
 | [],f,h,k=>by simp only [assigns,List.mem_singleton] at h; rw [h]; exact Int.le_refl _
 | x::ks,f,h,k=>by
  simp only [assigns,List.mem_flatMap,List.mem_map] at h
  obtain ⟨g,hg,v,-,rfl⟩:=h
  show 0≤(if k=x then ((v:Nat):Int) else g k)
  split
  ·omega
  ·exact assigns_pos hg k
theorem assigns_mem {n:Nat} (g:ByteArray × ByteArray→Int):∀ (ks:List (ByteArray × ByteArray)),(∀ k ∈ ks,0≤g k∧g k < n)→∃ f ∈ assigns n ks,∀ k ∈ ks,f k=g k
 | [],_=>⟨fun _=>0,by simp [assigns],fun k hk=>by cases hk⟩
 | x::ks,h=>by
  obtain ⟨f,hf,hfg⟩:=assigns_mem g ks fun k hk=>h k (List.mem_cons_of_mem _ hk)
  obtain ⟨h0,h1⟩:=h x (List.mem_cons_self ..)
  refine ⟨fun y=>if y=x then (((g x).toNat:Nat):Int) else f y,?_,fun k hk=>?_⟩
  ·simp only [assigns,List.mem_flatMap,List.mem_map]
   exact ⟨f,hf,(g x).toNat,List.mem_range.2 (by omega),rfl⟩
  ·show (if k=x then (((g x).toNat:Nat):Int) else f k)=g k
   by_cases e:k=x
   ·rw [if_pos e,e]; omega
   ·rw [if_neg e]
    rcases List.mem_cons.1 hk with h2 | h2
    ·exact absurd h2 e
    ·exact hfg k h2
def upSB (ts:List Ty) (f:ByteArray × ByteArray→Int):Bool:=(ents ts).all fun k=>(depsK ts k).all fun d=>decide (f (d.typ,d.rel) + stepOf d≤f k)
theorem upB_iff {ts:List Ty} {f:ByteArray × ByteArray→Int}:upSB ts f=true ↔ ∀ k ∈ ents ts,∀ d ∈ depsK ts k,f (d.typ,d.rel) + stepOf d≤f k:=by
 unfold upSB; simp only [List.all_eq_true,decide_eq_true_eq]
def solsB (ts:List Ty):List (ByteArray × ByteArray→Int):=(assigns (ents ts).length (ents ts)).filter (upSB ts)
theorem solsB_sol {ts:List Ty} {f:ByteArray × ByteArray→Int} (h:f ∈ solsB ts):Sol ts f:=by
 unfold solsB at h
 rw [List.mem_filter] at h
 exact ⟨assigns_pos h.1,upB_iff.1 h.2⟩
theorem solsB_of {ts:List Ty} {g:ByteArray × ByteArray→Int} (hF:Found ts) (h:Sol ts g) (hb:∀ k ∈ ents ts,g k + 1≤(ents ts).length):∃ f ∈ solsB ts,∀ k ∈ ents ts,f k=g k:=by
 obtain ⟨f,hf,hfg⟩:=assigns_mem (n:=(ents ts).length) g (ents ts) fun k hk=>⟨h.pos k,by have:=hb k hk; omega⟩
 refine ⟨f,?_,hfg⟩
 unfold solsB
 rw [List.mem_filter]
 refine ⟨hf,upB_iff.2 fun k hk d hd=>?_⟩
 rw [hfg k hk,hfg _ (hF k hk d hd)]
 exact h.up k hk d hd
def schemaD (ts:List Ty):Bool:=shapeB ts && refsAll ts && !(solsB ts).isEmpty
theorem schemaD_iff {ts:List Ty}:schemaD ts=true ↔ SchemaP ts:=by
 unfold schemaD SchemaP
 simp only [Bool.and_eq_true,Bool.not_eq_true']
 constructor
 ·rintro ⟨⟨h1,h2⟩,h3⟩
  refine ⟨h1,h2,?_⟩
  cases e:solsB ts with
  | nil=>rw [e] at h3; cases h3
  | cons f fs=>exact ⟨f,solsB_sol (by rw [e]; exact List.mem_cons_self ..)⟩
 ·rintro ⟨h1,h2,f,hf⟩
  refine ⟨⟨h1,h2⟩,?_⟩
  obtain ⟨g,hg,hb⟩:=hf.few (found_of h2)
  obtain ⟨f2,hf2,-⟩:=solsB_of (found_of h2) hg hb
  cases e:solsB ts with
  | nil=>rw [e] at hf2; cases hf2
  | cons f fs=>rfl
theorem schemaD_yes {ts:List Ty} (h:SchemaP ts):schemaD ts=true:=schemaD_iff.2 h
theorem schemaD_no {ts:List Ty} (h:¬ SchemaP ts):schemaD ts=false:=by
 cases e:schemaD ts with
 | false=>rfl
 | true=>exact absurd (schemaD_iff.1 e) h
end Go.Proofs.YtogjfppkbkgaeaaGreat
namespace Go.Proofs.YtogjfppkbkgaeaaGreat
set_option linter.unusedVariables false
open Pl
def kidsLow (es:List Ex):Prop:=∀ (i:Nat) (h:i < es.length),∀ x ∈ es[i].kids,0≤x∧x < (i:Int)
theorem kidsLow_of {es:List Ex} (h:specE es=true):kidsLow es:=by
 intro i hi x hx
 unfold specE at h
 simp only [Bool.and_eq_true,decide_eq_true_eq] at h
 have h1:=h.1.1.2
 unfold kidsUp at h1
 rw [List.all_eq_true] at h1
 have h2:=h1 i (by simpa using hi)
 unfold kidsIn kidsAt at h2
 rw [List.getElem?_eq_getElem hi] at h2
 simp only [Option.map_some,Option.getD_some,List.all_eq_true,Bool.and_eq_true,decide_eq_true_eq] at h2
 have:=h2 x hx
 omega
end Go.Proofs.YtogjfppkbkgaeaaGreat
namespace Go.Proofs.YtogjfppkbkgaeaaGreat
open Go.ChangeShapes Go.WideShapes Go.ChangeAt Go.RowKit
open Pl
theorem isIdSign_any (c:UInt8) (w:World) :
  Calls Tryz.prog 179 #[.int .u8 c.toNat] w fun e w'=>e=.returned (.bool (idB c))∧w'=w:=by
 by_cases hl:letB c=true
 ·go_enter Tryz.func179,Tryz.ntmps179
  go_wp2_with (go_at_call 155; refine (isLetter_any _ _).mono ?_; rintro e w' ⟨rfl,rfl⟩)
  go_ret
  exact ⟨ret_bool (by simp [idB,hl]),rfl⟩
 ·have hf:letB c=false:=by simpa using hl
  clear hl
  go_enter Tryz.func179,Tryz.ntmps179
  go_wp2_with (go_at_call 155; refine (isLetter_any _ _).mono ?_; rintro e w' ⟨rfl,rfl⟩)
  all_goals go_ret
  all_goals refine ⟨ret_bool ?_,rfl⟩
  all_goals (rw [Bool.eq_iff_iff]; simp [idB,hf]; omega)
set_option maxHeartbeats 1000000 in
theorem specId_any (s:ByteArray) (w:World) (hs:s.size≤maxLen) :
  Calls Tryz.prog 151 #[.string s] w fun e w'=>e=.returned (.bool (isIdB s))∧w'=w:=by
 unfold maxLen at hs
 by_cases h1:1≤s.size∧s.size≤12
 ·obtain ⟨ha,hb⟩:=h1
  go_enter Tryz.func151,Tryz.ntmps151
  go_wp2
  go_loop [3] (fun i=>∃ k:Nat,k≤s.size∧i=.int .i64 k∧Hid (upB idB s k=true)) (fun i=>s.size - (intOf i).toNat)
  case atStart=>exact ⟨0,Nat.zero_le _,rfl,upB_zero _ _⟩
  case round =>
   obtain ⟨k,hk,rfl,hu⟩:=hrel
   by_cases hlt:k < s.size
   ·by_cases hc:idB s[k]=true
    ·have hd:(97≤s[k].toNat∧s[k].toNat≤122) ∨ (48≤s[k].toNat∧s[k].toNat≤57) ∨ s[k].toNat=95:=by simp [idB,letB] at hc; omega
     have HU:Hid (upB idB s (k + 1)=true):=by show _=_; rw [upB_succ _ _ _ hlt,hc,hu.out]; rfl
     clear hc
     rcases hd with ⟨hd1,hd2⟩ | ⟨hd1,hd2⟩ | hd1
     all_goals
      go_wp2
      go_round
      case rel=>exact ⟨k + 1,by omega,by go_num,HU⟩
      case measure=>simp [intOf]; omega
    ·have hc':idB s[k]=false:=by simpa using hc
     have HB:Hid (allB idB s=false):=upB_bad _ _ _ hlt hc'
     have hd:s[k].toNat < 48 ∨ (57 < s[k].toNat∧s[k].toNat < 95) ∨ (95 < s[k].toNat∧s[k].toNat < 97) ∨ 122 < s[k].toNat:=by simp [idB,letB] at hc'; omega
     clear hc hc'
     rcases hd with hd | ⟨hd,hd2⟩ | ⟨hd,hd2⟩ | hd
     all_goals
      have h95:((s[k].toNat:Int) != 95)=true:=by simp; omega
      go_wp2
      go_ret
      exact ⟨ret_bool (by simp [isIdB,signsB,HB.out]),rfl⟩
   ·go_wp2
    go_ret
    refine ⟨ret_bool ?_,rfl⟩
    have hall:allB idB s=true:=by rw [← upB_end idB s k (by omega)]; exact hu.out
    have hl:lenB s=true:=by simp [lenB]; omega
    simp [isIdB,signsB,hall,hl]
 ·have hn:lenB s=false:=by simp [lenB]; omega
  have HN:Hid (isIdB s=false):=by show _=_; simp [isIdB,signsB,hn]
  clear hn
  by_cases ha:1≤s.size
  ·have hb:12 < s.size:=by omega
   clear h1
   go_enter Tryz.func151,Tryz.ntmps151
   go_wp2
   go_ret
   exact ⟨ret_bool HN.out.symm,rfl⟩
  ·have ha':s.size < 1:=by omega
   clear h1
   go_enter Tryz.func151,Tryz.ntmps151
   go_wp2
   go_ret
   exact ⟨ret_bool HN.out.symm,rfl⟩
theorem signs_isIdSign (s:ByteArray) (w:World) (hs:s.size≤maxLen) :
  Calls Tryz.prog 154 #[.string s,.func (Fn.func 179) #[] #[]] w fun e w'=>e=.returned (.bool (signsB idB s))∧w'=w:=by
 unfold maxLen at hs
 by_cases h1:1≤s.size∧s.size≤12
 ·obtain ⟨ha,hb⟩:=h1
  go_enter Tryz.func154,Tryz.ntmps154
  go_wp2
  go_loop [16] (fun i=>∃ k:Nat,k≤s.size∧i=.int .i64 k∧Hid (upB idB s k=true)) (fun i=>s.size - (intOf i).toNat)
  case atStart=>exact ⟨0,Nat.zero_le _,rfl,upB_zero _ _⟩
  case round =>
   obtain ⟨k,hk,rfl,hu⟩:=hrel
   by_cases hlt:k < s.size
   ·by_cases hc:idB s[k]=true
    ·have HU:Hid (upB idB s (k + 1)=true):=by show _=_; rw [upB_succ _ _ _ hlt,hc,hu.out]; rfl
     go_wp2_with (go_at_call 179; refine (isIdSign_any _ _).mono ?_; rintro e w' ⟨rfl,rfl⟩)
     go_round
     case rel=>exact ⟨k + 1,by omega,by go_num,HU⟩
     case measure=>simp [intOf]; omega
    ·have hc':idB s[k]=false:=by simpa using hc
     have HB:Hid (allB idB s=false):=upB_bad _ _ _ hlt hc'
     clear hc
     go_wp2_with (go_at_call 179; refine (isIdSign_any _ _).mono ?_; rintro e w' ⟨rfl,rfl⟩)
     go_ret
     exact ⟨ret_bool (by simp [signsB,HB.out]),rfl⟩
   ·go_wp2
    go_ret
    refine ⟨ret_bool ?_,rfl⟩
    have hall:allB idB s=true:=by rw [← upB_end idB s k (by omega)]; exact hu.out
    have hl:lenB s=true:=by simp [lenB]; omega
    simp [signsB,hall,hl]
 ·have hn:lenB s=false:=by simp [lenB]; omega
  have HN:Hid (signsB idB s=false):=by show _=_; simp [signsB,hn]
  clear hn
  by_cases ha:1≤s.size
  ·have hb:12 < s.size:=by omega
   clear h1
   go_enter Tryz.func154,Tryz.ntmps154
   go_wp2
   go_ret
   exact ⟨ret_bool HN.out.symm,rfl⟩
  ·have ha':s.size < 1:=by omega
   clear h1
   go_enter Tryz.func154,Tryz.ntmps154
   go_wp2
   go_ret
   exact ⟨ret_bool HN.out.symm,rfl⟩
theorem implId_any (s:ByteArray) (w:World) (hs:s.size≤maxLen) :
  Calls Tryz.prog 160 #[.string s] w fun e w'=>e=.returned (.bool (isIdB s))∧w'=w:=by
 go_enter Tryz.func160,Tryz.ntmps160
 go_wp2_with (go_at_call 154; refine (signs_isIdSign _ _ hs).mono ?_; rintro e w' ⟨rfl,rfl⟩)
 go_ret
 exact ⟨rfl,rfl⟩
end Go.Proofs.YtogjfppkbkgaeaaGreat
namespace Go.Proofs.YtogjfppkbkgaeaaGreat
open Go.ChangeShapes Go.WideShapes Go.ChangeAt Go.RowKit
open Pl
theorem bcell {W w1:World} (hb:Below W.heap.size W w1):(∀ b o,b < W.heap.size→w1.cell? ⟨b,o,none⟩=W.cell? ⟨b,o,none⟩)∧(∀ b o,b < W.heap.size→w1.frozen? ⟨b,o,none⟩=W.frozen? ⟨b,o,none⟩) :=
 ⟨fun b o h=>hb.cell (p:=⟨b,o,none⟩) h,fun b o h=>hb.frozen (p:=⟨b,o,none⟩) h⟩
theorem specObj_any (t i:ByteArray) (w:World) (ht:t.size≤maxLen) (hi:i.size≤maxLen) :
  Calls Tryz.prog 123 #[.agg #[.string t,.string i]] w fun e w'=>e=.returned (.bool (objB t i))∧Below w.heap.size w w':=by
 by_cases hn:nameB t=true
 all_goals
  go_enter Tryz.func123,Tryz.ntmps123
  go_wp2_with (first | (go_at_call 77; refine (specName_any _ _ ht).mono ?_; rintro e w' ⟨rfl,rfl⟩) | (go_at_call 151; refine (specId_any _ _ hi).mono ?_; rintro e w' ⟨rfl,rfl⟩))
  go_ret
  exact ⟨ret_bool (by simp [objB,hn]),(Below.refl _ _).alloc (Nat.le_refl _) _⟩
theorem implObj_any (t i:ByteArray) (w:World) (ht:t.size≤maxLen) (hi:i.size≤maxLen) :
  Calls Tryz.prog 135 #[.agg #[.string t,.string i]] w fun e w'=>e=.returned (.bool (objB t i))∧Below w.heap.size w w':=by
 by_cases hn:nameB t=true
 all_goals
  go_enter Tryz.func135,Tryz.ntmps135
  go_wp2_with (first | (go_at_call 127; refine (implName_any _ _ ht).mono ?_; rintro e w' ⟨rfl,rfl⟩) | (go_at_call 160; refine (implId_any _ _ hi).mono ?_; rintro e w' ⟨rfl,rfl⟩))
  go_ret
  exact ⟨ret_bool (by simp [objB,hn]),(Below.refl _ _).alloc (Nat.le_refl _) _⟩
end Go.Proofs.YtogjfppkbkgaeaaGreat
namespace Go.Proofs.YtogjfppkbkgaeaaGreat.Pl
theorem ret_str {a b:ByteArray} (h:a=b):Ending.returned (.string a)=.returned (.string b):=by rw [h]
theorem lenB_le {s:ByteArray} (h:lenB s=true):1≤s.size∧s.size≤12:=by simpa [lenB] using h
theorem nameB_le {s:ByteArray} (h:nameB s=true):1≤s.size∧s.size≤12:=by
 simp [nameB,signsB] at h; exact lenB_le h.1.1
theorem isIdB_le {s:ByteArray} (h:isIdB s=true):1≤s.size∧s.size≤12:=by
 simp [isIdB,signsB] at h; exact lenB_le h.1
theorem objB_le {t i:ByteArray} (h:objB t i=true):t.size≤12∧i.size≤12:=by
 simp [objB] at h; exact ⟨(nameB_le h.1).2,(isIdB_le h.2).2⟩
def objText (t i:ByteArray):ByteArray:=if objB t i then t ++ ⟨#[58]⟩ ++ i else ⟨#[]⟩
theorem objText_yes {t i:ByteArray} (h:objB t i=true):objText t i=t ++ ⟨#[58]⟩ ++ i:=by simp [objText,h]
theorem objText_no {t i:ByteArray} (h:objB t i=false):objText t i=⟨#[]⟩:=by simp [objText,h]
theorem objText_size (t i:ByteArray):(objText t i).size≤25:=by
 unfold objText; split
 ·rename_i h
  have h2:=objB_le h
  have e1:(ByteArray.mk #[58]).size=1:=rfl
  rw [ByteArray.size_append,ByteArray.size_append,e1]
  omega
 ·exact Nat.zero_le _
end Go.Proofs.YtogjfppkbkgaeaaGreat.Pl
namespace Go.Proofs.YtogjfppkbkgaeaaGreat
open Go.ChangeShapes Go.WideShapes Go.ChangeAt Go.RowKit
open Pl
theorem specObjText_any (t i:ByteArray) (w:World) (ht:t.size≤maxLen) (hi:i.size≤maxLen) :
  Calls Tryz.prog 152 #[.agg #[.string t,.string i]] w fun e w'=>e=.returned (.string (objText t i))∧Below w.heap.size w w':=by
 by_cases hn:objB t i=true
 ·obtain ⟨h1,h2⟩:=objB_le hn
  have HT:Hid (objText t i=t ++ ⟨#[58]⟩ ++ i):=objText_yes hn
  go_enter Tryz.func152,Tryz.ntmps152
  go_wp2_with (go_at_call 123; refine (specObj_any _ _ _ ht hi).mono ?_; rintro e w' ⟨rfl,hb⟩; obtain ⟨hc,hf⟩:=bcell hb)
  go_ret
  exact ⟨ret_str HT.out.symm,((Below.refl _ _).alloc (Nat.le_refl _) _).trans (hb.mono (by simp))⟩
 ·have hn':objB t i=false:=by simpa using hn
  have HT:Hid (objText t i=⟨#[]⟩):=objText_no hn'
  clear hn
  go_enter Tryz.func152,Tryz.ntmps152
  go_wp2_with (go_at_call 123; refine (specObj_any _ _ _ ht hi).mono ?_; rintro e w' ⟨rfl,hb⟩; obtain ⟨hc,hf⟩:=bcell hb)
  go_ret
  exact ⟨ret_str HT.out.symm,((Below.refl _ _).alloc (Nat.le_refl _) _).trans (hb.mono (by simp))⟩
theorem implObjText_any (t i:ByteArray) (w:World) (ht:t.size≤maxLen) (hi:i.size≤maxLen) :
  Calls Tryz.prog 148 #[.agg #[.string t,.string i]] w fun e w'=>e=.returned (.string (objText t i))∧Below w.heap.size w w':=by
 by_cases hn:objB t i=true
 ·obtain ⟨h1,h2⟩:=objB_le hn
  have HT:Hid (objText t i=t ++ ⟨#[58]⟩ ++ i):=objText_yes hn
  go_enter Tryz.func148,Tryz.ntmps148
  go_wp2_with (go_at_call 135; refine (implObj_any _ _ _ ht hi).mono ?_; rintro e w' ⟨rfl,hb⟩; obtain ⟨hc,hf⟩:=bcell hb)
  go_ret
  exact ⟨ret_str HT.out.symm,((Below.refl _ _).alloc (Nat.le_refl _) _).trans (hb.mono (by simp))⟩
 ·have hn':objB t i=false:=by simpa using hn
  have HT:Hid (objText t i=⟨#[]⟩):=objText_no hn'
  clear hn
  go_enter Tryz.func148,Tryz.ntmps148
  go_wp2_with (go_at_call 135; refine (implObj_any _ _ _ ht hi).mono ?_; rintro e w' ⟨rfl,hb⟩; obtain ⟨hc,hf⟩:=bcell hb)
  go_ret
  exact ⟨ret_str HT.out.symm,((Below.refl _ _).alloc (Nat.le_refl _) _).trans (hb.mono (by simp))⟩
end Go.Proofs.YtogjfppkbkgaeaaGreat
namespace Go.Proofs.YtogjfppkbkgaeaaGreat.Pl
def setB (s:ByteArray):Bool:=s.toList.isEmpty || nameB s
def tupB (a b r c d s:ByteArray):Bool:=objB a b && nameB r && objB c d && setB s
def tupText (a b r c d s:ByteArray):ByteArray :=
 if tupB a b r c d s then
  (if s.toList.isEmpty then objText a b ++ ⟨#[35]⟩ ++ r ++ ⟨#[64]⟩ ++ objText c d else objText a b ++ ⟨#[35]⟩ ++ r ++ ⟨#[64]⟩ ++ objText c d ++ ⟨#[35]⟩ ++ s)
 else ⟨#[]⟩
theorem tupText_no {a b r c d s:ByteArray} (h:tupB a b r c d s=false):tupText a b r c d s=⟨#[]⟩:=by simp [tupText,h]
theorem tupText_one {a b r c d s:ByteArray} (h:tupB a b r c d s=true) (hs:s.toList.isEmpty=true):tupText a b r c d s=objText a b ++ ⟨#[35]⟩ ++ r ++ ⟨#[64]⟩ ++ objText c d:=by simp [tupText,h,hs]
theorem tupText_two {a b r c d s:ByteArray} (h:tupB a b r c d s=true) (hs:s.toList.isEmpty=false):tupText a b r c d s=objText a b ++ ⟨#[35]⟩ ++ r ++ ⟨#[64]⟩ ++ objText c d ++ ⟨#[35]⟩ ++ s:=by simp [tupText,h,hs]
theorem tupB_no1 {a b r c d s:ByteArray} (h:objB a b=false):tupB a b r c d s=false:=by simp [tupB,h]
theorem tupB_no2 {a b r c d s:ByteArray} (h:nameB r=false):tupB a b r c d s=false:=by simp [tupB,h]
theorem tupB_no3 {a b r c d s:ByteArray} (h:objB c d=false):tupB a b r c d s=false:=by simp [tupB,h]
theorem tupB_yes {a b r c d s:ByteArray} (h1:objB a b=true) (h2:nameB r=true) (h3:objB c d=true):tupB a b r c d s=setB s:=by simp [tupB,h1,h2,h3]
theorem tupB_parts {a b r c d s:ByteArray} (h:tupB a b r c d s=true):objB a b=true∧nameB r=true∧objB c d=true∧setB s=true:=by
 simp [tupB] at h; exact ⟨h.1.1.1,h.1.1.2,h.1.2,h.2⟩
theorem toList_isEmpty {s:ByteArray} (h:s.toList.isEmpty=true):s.size=0:=by
 rw [Go.ByteArray.toList_eq] at h
 have h2:s.data.toList=[]:=by simpa using h
 have h3:s.data.toList.length=0:=by rw [h2]; rfl
 simpa using h3
theorem setB_le {s:ByteArray} (h:setB s=true):s.size≤12:=by
 simp only [setB,Bool.or_eq_true] at h
 rcases h with h | h
 ·have:=toList_isEmpty h; omega
 ·exact (nameB_le h).2
end Go.Proofs.YtogjfppkbkgaeaaGreat.Pl
