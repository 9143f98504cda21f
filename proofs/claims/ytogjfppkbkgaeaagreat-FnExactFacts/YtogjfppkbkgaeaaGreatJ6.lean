/- What a right schema is, in plain words. -/
import Derived.Test.YtogjfppkbkgaeaaGreatJ5
import Derived.Test.YtogjfppkbkgaeaaGreatJ2
import Derived.Below
import Derived.Test.YtogjfppkbkgaeaaGreatJ1
namespace Go.Proofs.YtogjfppkbkgaeaaGreat
open Pl
def fe (a b:ByteArray):Bool:=Op.bytesLess a.toList b.toList
def jm (rs:List Rl) (j:Nat):Bool :=
 match rs[j]? with
 | none=>true
 | some r=>aL r.name && (match j with | 0=>true | i + 1=>(rs[i]?.map fun p=>fe p.name r.name).getD true) && aR r.expr
def dI (rs:List Rl):Nat→Bool
 | 0=>true
 | k + 1=>dI rs k && jm rs k
def iK (ts:List Ty) (j:Nat):Bool :=
 match ts[j]? with
 | none=>true
 | some t=>aL t.name && (match j with | 0=>true | i + 1=>(ts[i]?.map fun p=>fe p.name t.name).getD true) && decide (t.rels.length≤6) && dI t.rels t.rels.length
def gW (ts:List Ty):Nat→Bool
 | 0=>true
 | k + 1=>gW ts k && iK ts k
theorem oF (rs:List Rl) (k:Nat) (hb:jm rs k=false):∀ n,k < n→dI rs n=false
 | 0,hn=>by omega
 | n + 1,hn=>by
  by_cases e:n=k
  ·subst e; simp [dI,hb]
  ·simp [dI,oF rs k hb n (by omega)]
theorem oG (ts:List Ty) (k:Nat) (hb:iK ts k=false):∀ n,k < n→gW ts n=false
 | 0,hn=>by omega
 | n + 1,hn=>by
  by_cases e:n=k
  ·subst e; simp [gW,hb]
  ·simp [gW,oG ts k hb n (by omega)]
theorem kU {rs:List Rl}:∀ {n:Nat},dI rs n=true→∀ j,j < n→jm rs j=true
 | 0,_,j,hj=>by omega
 | n + 1,h,j,hj=>by
  simp only [dI,Bool.and_eq_true] at h;by_cases e:j=n
  ·subst e; exact h.2
  ·exact kU h.1 j (by omega)
theorem kV {ts:List Ty}:∀ {n:Nat},gW ts n=true→∀ j,j < n→iK ts j=true
 | 0,_,j,hj=>by omega
 | n + 1,h,j,hj=>by
  simp only [gW,Bool.and_eq_true] at h;by_cases e:j=n
  ·subst e; exact h.2
  ·exact kV h.1 j (by omega)
def aS (ts:List Ty):Bool:=decide (ts.length≤6) && gW ts ts.length
def mh (ts:List Ty) (t:Ty):Bool:=t.rels.all fun r=>aI ts t.name r.expr
def iG (ts:List Ty):Bool:=ts.all (mh ts)
def aY (ts:List Ty):Prop:=aS ts=true∧iG ts=true∧∃ f,Sol ts f
theorem Gq {rs:List Rl} {n:ByteArray} {es:List Ex} (h:il rs n=some es):∃ r ∈ rs,r.name=n∧r.expr=es:=by
 induction rs with
 | nil=>simp [il] at h
 | cons r rs ih =>
  simp only [il] at h;split at h
  ·rename_i hn; injection h with h; exact ⟨r,by simp,dG.1 hn,h⟩
  ·obtain ⟨q,hq,e⟩:=ih h; exact ⟨q,by simp [hq],e⟩
theorem uX {ts:List Ty} {ty n:ByteArray} {es:List Ex} (h:ed ts ty n=some es):∃ t ∈ ts,∃ r ∈ t.rels,t.name=ty∧r.name=n∧r.expr=es:=by
 induction ts with
 | nil=>simp [ed] at h
 | cons t ts ih =>
  simp only [ed] at h;split at h
  ·rename_i hn;rcases Option.or_eq_some_iff.1 h with h | ⟨-,h⟩
   ·obtain ⟨r,hr,e⟩:=Gq h; exact ⟨t,by simp,r,hr,dG.1 hn,e⟩
   ·obtain ⟨t',ht,e⟩:=ih h; exact ⟨t',by simp [ht],e⟩
  ·obtain ⟨t',ht,e⟩:=ih h; exact ⟨t',by simp [ht],e⟩
theorem mi {ts:List Ty} {k:ByteArray × ByteArray}:k ∈ ai ts ↔ ∃ t ∈ ts,∃ r ∈ t.rels,k=(t.name,r.name):=by
 simp only [ai,iq,List.mem_flatMap,List.mem_map];constructor
 ·rintro ⟨t,ht,r,hr,e⟩; exact ⟨t,ht,r,hr,e.symm⟩
 ·rintro ⟨t,ht,r,hr,e⟩; exact ⟨t,ht,r,hr,e.symm⟩
theorem qQ {ts:List Ty} {ty n:ByteArray} (h:(aG ts ty n).isEmpty=false):(ty,n) ∈ ai ts:=by
 unfold aG at h;cases e:ed ts ty n with
 | none=>rw [e] at h; simp at h
 | some es =>
  obtain ⟨t,ht,r,hr,h1,h2,-⟩:=uX e;exact mi.2 ⟨t,ht,r,hr,by rw [h1,h2]⟩
theorem LX {ts:List Ty} {rel:ByteArray} {xs:List Al} {g:ByteArray} (h:g ∈ gl ts rel xs):(aG ts g rel).isEmpty=false:=by
 induction xs with
 | nil=>simp [gl] at h
 | cons a xs ih =>
  simp only [gl] at h;split at h
  ·exact ih h
  ·rename_i hn;rcases List.mem_cons.1 h with rfl | h
   ·simpa using hn
   ·exact ih h
theorem Gr {neg:Bool} {xs:List Al} {d:Dp} (h:d ∈ bu neg xs):∃ a ∈ xs,a.s.toList.isEmpty=false∧d.typ=a.t∧d.rel=a.s:=by
 induction xs with
 | nil=>simp [bu] at h
 | cons a xs ih =>
  simp only [bu] at h;split at h
  ·obtain ⟨b,hb,e⟩:=ih h; exact ⟨b,by simp [hb],e⟩
  ·rename_i hn;rcases List.mem_cons.1 h with rfl | h
   ·exact ⟨a,by simp,by simpa using hn,rfl,rfl⟩
   ·obtain ⟨b,hb,e⟩:=ih h; exact ⟨b,by simp [hb],e⟩
theorem oH {ts:List Ty} {typ:ByteArray} {es:List Ex} {d:Dp}:∀ {k:Nat},d ∈ aH ts typ es k→∃ i,i < k∧d ∈ iV ts typ es i
 | 0,h=>by simp [aH] at h
 | k + 1,h=>by
  simp only [aH] at h;rcases List.mem_append.1 h with h | h
  ·obtain ⟨i,hi,e⟩:=oH h; exact ⟨i,by omega,e⟩
  ·exact ⟨k,by omega,h⟩
theorem yB {ts:List Ty} {typ:ByteArray} {es:List Ex} (h:aI ts typ es=true):∀ e ∈ es,l7 ts e.allow=true∧jS ts typ e=true:=by
 induction es with
 | nil=>intro e he; cases he
 | cons e es ih =>
  simp only [aI] at h;split at h
  ·rename_i hn;rw [Bool.and_eq_true] at hn;intro q hq;rcases List.mem_cons.1 hq with rfl | hq
   ·exact hn
   ·exact ih h q hq
  ·cases h
theorem jo {ts:List Ty} (h:iG ts=true):Found ts:=by
 intro k hk d hd;unfold fI ma at hd;have hne:(aG ts k.1 k.2).length ≠ 0:=by
  intro e;rw [e] at hd; simp [aH] at hd
 obtain ⟨es,hes⟩:∃ es,ed ts k.1 k.2=some es:=by
  cases e:ed ts k.1 k.2 with
  | none=>unfold aG at hne; rw [e] at hne; simp at hne
  | some es=>exact ⟨es,rfl⟩
 have ero:aG ts k.1 k.2=es:=by unfold aG; rw [hes]; rfl
 rw [ero] at hd;obtain ⟨t,ht,r,hr,h1,h2,h3⟩:=uX hes;have hr1:aI ts k.1 es=true:=by
  unfold iG at h;rw [List.all_eq_true] at h;have:=h t ht;unfold mh at this;rw [List.all_eq_true] at this;have:=this r hr;rw [h1,h3] at this;exact this
 obtain ⟨i,hi,hdi⟩:=oH hd;unfold iV at hdi;split at hdi
 ·cases hdi
 ·rename_i e he;obtain ⟨ra,rn⟩:=yB hr1 e (List.mem_of_getElem? he);rcases List.mem_append.1 hdi with hdi | hdi
  ·obtain ⟨a,ha,hs,e1,e2⟩:=Gr hdi;unfold l7 at ra;rw [List.all_eq_true] at ra;have:=ra a ha;unfold lH at this;rw [hs,Bool.false_or,Bool.and_eq_true] at this;rw [e1,e2];exact qQ (by simpa using this.2)
  ·unfold j5 at hdi;unfold jS at rn;split at hdi
   ·rename_i h2;rw [if_pos h2] at rn;simp at hdi;subst hdi;exact qQ (by simpa using rn)
   ·split at hdi
    ·obtain ⟨g,hg,rfl⟩:=List.mem_map.1 hdi;exact qQ (LX hg)
    ·cases hdi
theorem yC {es:List Ex} (h:aR es=true):1≤es.length∧es.length≤15:=by
 simp only [aR,Bool.and_eq_true,decide_eq_true_eq] at h;exact ⟨h.1.1.1.1.1,h.1.1.1.1.2⟩
theorem Gs {es:List Ex} (h:aR es=true) (i:Nat) (hi:i < es.length):bH es.length es[i].kids:=by
 simp only [aR,Bool.and_eq_true,decide_eq_true_eq] at h;have h1:=h.1.1.2;unfold gV at h1;rw [List.all_eq_true] at h1;have h2:=h1 i (by simpa using hi);unfold jT mg at h2;rw [List.getElem?_eq_getElem hi] at h2;simp only [Option.map_some,Option.getD_some,List.all_eq_true,Bool.and_eq_true,decide_eq_true_eq] at h2;intro x hx;have:=h2 x hx;omega
theorem bn {rs:List TR} (h:aS (af rs)=true):rs.length≤6∧(∀ r ∈ rs,r.rows.length≤6)∧∀ r ∈ rs,∀ q ∈ r.rows,aR (ag q.rows)=true∧q.rows.length≤15∧∀ e ∈ q.rows,bH q.rows.length e.e.kids:=by
 simp only [aS,Bool.and_eq_true,decide_eq_true_eq] at h;rw [eZ] at h;have hT:∀ r ∈ rs,r.rows.length≤6∧dI (bP r.rows) r.rows.length=true:=by
  intro r hr;obtain ⟨j,hj,rfl⟩:=List.mem_iff_getElem.1 hr;have h1:=kV h.2 j hj;unfold iK at h1;have e:(af rs)[j]?=some rs[j].p:=by simp [af,hj]
  rw [e] at h1;simp only [Bool.and_eq_true,decide_eq_true_eq] at h1;have e2:rs[j].p.rels.length=rs[j].rows.length:=by simp [TR.p,bP]
  rw [e2] at h1;exact ⟨h1.1.2,h1.2⟩
 refine ⟨h.1,fun r hr=>(hT r hr).1,fun r hr q hq=>?_⟩;obtain ⟨j,hj,rfl⟩:=List.mem_iff_getElem.1 hq;have h1:=kU (hT r hr).2 j hj;unfold jm at h1;have e:(bP r.rows)[j]?=some r.rows[j].p:=by simp [bP,hj]
 rw [e] at h1;simp only [Bool.and_eq_true] at h1;have h2:aR (ag r.rows[j].rows)=true:=h1.2;have h3:=yC h2;rw [aO] at h3;refine ⟨h2,h3.2,fun e he=>?_⟩;obtain ⟨i,hi,rfl⟩:=List.mem_iff_getElem.1 he;have:=Gs h2 i (by rw [aO]; exact hi);have e1:(ag r.rows[j].rows)[i]'(by rw [aO]; exact hi)=r.rows[j].rows[i].e:=by simp [ag]
 rw [e1] at this;simpa [ag] using this
def assigns (n:Nat):List (ByteArray × ByteArray)→List (ByteArray × ByteArray→Int)
 | []=>[fun _=>0]
 | k::ks=>(assigns n ks).flatMap fun f=>(List.range n).map fun v=>fun y=>if y=k then ((v:Nat):Int) else f y
theorem sN {n:Nat}:∀ {ks:List (ByteArray × ByteArray)} {f:ByteArray × ByteArray→Int},f ∈ assigns n ks→∀ k,0≤f k
 | [],f,h,k=>by simp only [assigns,List.mem_singleton] at h; rw [h]; exact Int.le_refl _
 | x::ks,f,h,k=>by
  simp only [assigns,List.mem_flatMap,List.mem_map] at h;obtain ⟨g,hg,v,-,rfl⟩:=h;show 0≤(if k=x then ((v:Nat):Int) else g k);split
  ·omega
  ·exact sN hg k
theorem sO {n:Nat} (g:ByteArray × ByteArray→Int):∀ (ks:List (ByteArray × ByteArray)),(∀ k ∈ ks,0≤g k∧g k < n)→∃ f ∈ assigns n ks,∀ k ∈ ks,f k=g k
 | [],_=>⟨fun _=>0,by simp [assigns],fun k hk=>by cases hk⟩
 | x::ks,h=>by
  obtain ⟨f,hf,hfg⟩:=sO g ks fun k hk=>h k (List.mem_cons_of_mem _ hk);obtain ⟨h0,h1⟩:=h x (List.mem_cons_self ..);refine ⟨fun y=>if y=x then (((g x).toNat:Nat):Int) else f y,?_,fun k hk=>?_⟩
  ·simp only [assigns,List.mem_flatMap,List.mem_map];exact ⟨f,hf,(g x).toNat,List.mem_range.2 (by omega),rfl⟩
  ·show (if k=x then (((g x).toNat:Nat):Int) else f k)=g k;by_cases e:k=x
   ·rw [if_pos e,e]; omega
   ·rw [if_neg e];rcases List.mem_cons.1 hk with h2 | h2
    ·exact absurd h2 e
    ·exact hfg k h2
def LY (ts:List Ty) (f:ByteArray × ByteArray→Int):Bool:=(ai ts).all fun k=>(fI ts k).all fun d=>decide (f (d.typ,d.rel) + stepOf d≤f k)
theorem Fp {ts:List Ty} {f:ByteArray × ByteArray→Int}:LY ts f=true ↔ ∀ k ∈ ai ts,∀ d ∈ fI ts k,f (d.typ,d.rel) + stepOf d≤f k:=by
 unfold LY; simp only [List.all_eq_true,decide_eq_true_eq]
def uY (ts:List Ty):List (ByteArray × ByteArray→Int):=(assigns (ai ts).length (ai ts)).filter (LY ts)
theorem Gt {ts:List Ty} {f:ByteArray × ByteArray→Int} (h:f ∈ uY ts):Sol ts f:=by
 unfold uY at h;rw [List.mem_filter] at h;exact ⟨sN h.1,Fp.1 h.2⟩
theorem IQ {ts:List Ty} {g:ByteArray × ByteArray→Int} (hF:Found ts) (h:Sol ts g) (hb:∀ k ∈ ai ts,g k + 1≤(ai ts).length):∃ f ∈ uY ts,∀ k ∈ ai ts,f k=g k:=by
 obtain ⟨f,hf,hfg⟩:=sO (n:=(ai ts).length) g (ai ts) fun k hk=>⟨h.pos k,by have:=hb k hk; omega⟩;refine ⟨f,?_,hfg⟩;unfold uY;rw [List.mem_filter];refine ⟨hf,Fp.2 fun k hk d hd=>?_⟩;rw [hfg k hk,hfg _ (hF k hk d hd)];exact h.up k hk d hd
def dh (ts:List Ty):Bool:=aS ts && iG ts && !(uY ts).isEmpty
theorem bR {ts:List Ty}:dh ts=true ↔ aY ts:=by
 unfold dh aY;simp only [Bool.and_eq_true,Bool.not_eq_true'];constructor
 ·rintro ⟨⟨h1,h2⟩,h3⟩;refine ⟨h1,h2,?_⟩;cases e:uY ts with
  | nil=>rw [e] at h3; cases h3
  | cons f fs=>exact ⟨f,Gt (by rw [e]; exact List.mem_cons_self ..)⟩
 ·rintro ⟨h1,h2,f,hf⟩;refine ⟨⟨h1,h2⟩,?_⟩;obtain ⟨g,hg,hb⟩:=hf.few (jo h2);obtain ⟨f2,hf2,-⟩:=IQ (jo h2) hg hb;cases e:uY ts with
  | nil=>rw [e] at hf2; cases hf2
  | cons f fs=>rfl
theorem Br {ts:List Ty} (h:aY ts):dh ts=true:=bR.2 h
theorem dA {ts:List Ty} (h:¬ aY ts):dh ts=false:=by
 cases e:dh ts with
 | false=>rfl
 | true=>exact absurd (bR.1 e) h
set_option linter.unusedVariables false
def Fq (es:List Ex):Prop:=∀ (i:Nat) (h:i < es.length),∀ x ∈ es[i].kids,0≤x∧x < (i:Int)
theorem Dx {es:List Ex} (h:aR es=true):Fq es:=by
 intro i hi x hx;unfold aR at h;simp only [Bool.and_eq_true,decide_eq_true_eq] at h;have h1:=h.1.1.2;unfold gV at h1;rw [List.all_eq_true] at h1;have h2:=h1 i (by simpa using hi);unfold jT mg at h2;rw [List.getElem?_eq_getElem hi] at h2;simp only [Option.map_some,Option.getD_some,List.all_eq_true,Bool.and_eq_true,decide_eq_true_eq] at h2;have:=h2 x hx;omega
theorem Dy {ts:List Ty} (h:aS ts=true) {t:Ty} (ht:t ∈ ts) {r:Rl} (hr:r ∈ t.rels):aL r.name=true∧aR r.expr=true:=by
 unfold aS at h;simp only [Bool.and_eq_true] at h;obtain ⟨j,hj,rfl⟩:=List.getElem_of_mem ht;have h1:=kV h.2 j hj;unfold iK at h1;rw [List.getElem?_eq_getElem hj] at h1;simp only [Bool.and_eq_true] at h1;obtain ⟨k,hk,rfl⟩:=List.getElem_of_mem hr;have h2:=kU h1.2 k hk;unfold jm at h2;rw [List.getElem?_eq_getElem hk] at h2;simp only [Bool.and_eq_true] at h2;exact ⟨h2.1.1,h2.2⟩
open Go.ChangeAt Go.ChangeShapes Go.RowKit Go.WideShapes
theorem pQ (c:UInt8) (w:World) :
  Calls Tryz.prog 179 #[.int .u8 c.toNat] w fun e w'=>e=.returned (.bool (ul c))∧w'=w:=by
 by_cases hl:gM c=true
 ·go_enter Tryz.func179,Tryz.ntmps179;go_wp2_with (go_at_call 155; refine (jd _ _).mono ?_; rintro e w' ⟨rfl,rfl⟩);go_ret;exact ⟨ae (by simp [ul,hl]),rfl⟩
 ·have hf:gM c=false:=by simpa using hl
  clear hl;go_enter Tryz.func179,Tryz.ntmps179;go_wp2_with (go_at_call 155; refine (jd _ _).mono ?_; rintro e w' ⟨rfl,rfl⟩)
  all_goals go_ret
  all_goals refine ⟨ae ?_,rfl⟩
  all_goals (rw [Bool.eq_iff_iff]; simp [ul,hf]; omega)
set_option maxHeartbeats 1000000 in
theorem Dz (s:ByteArray) (w:World) (hs:s.size≤maxLen) :
  Calls Tryz.prog 151 #[.string s] w fun e w'=>e=.returned (.bool (lw s))∧w'=w:=by
 unfold maxLen at hs;by_cases h1:1≤s.size∧s.size≤12
 ·obtain ⟨ha,hb⟩:=h1;go_enter Tryz.func151,Tryz.ntmps151;go_wp2
  go_loop [3] (fun i=>∃ k:Nat,k≤s.size∧i=.int .i64 k∧Hid (Dl ul s k=true)) (fun i=>s.size - (intOf i).toNat)
  case atStart=>exact ⟨0,Nat.zero_le _,rfl,pu _ _⟩
  case round =>
   obtain ⟨k,hk,rfl,hu⟩:=hrel;by_cases hlt:k < s.size
   ·by_cases hc:ul s[k]=true
    ·have hd:(97≤s[k].toNat∧s[k].toNat≤122) ∨ (48≤s[k].toNat∧s[k].toNat≤57) ∨ s[k].toNat=95:=by simp [ul,gM] at hc; omega
     have HU:Hid (Dl ul s (k + 1)=true):=by show _=_; rw [pz _ _ _ hlt,hc,hu.out]; rfl
     clear hc;rcases hd with ⟨hd1,hd2⟩ | ⟨hd1,hd2⟩ | hd1
     all_goals
      go_wp2;go_round;case rel=>exact ⟨k + 1,by omega,by go_num,HU⟩
      case measure=>simp [intOf]; omega
    ·have hc':ul s[k]=false:=by simpa using hc
     have HB:Hid (oC ul s=false):=uu _ _ _ hlt hc';have hd:s[k].toNat < 48 ∨ (57 < s[k].toNat∧s[k].toNat < 95) ∨ (95 < s[k].toNat∧s[k].toNat < 97) ∨ 122 < s[k].toNat:=by simp [ul,gM] at hc'; omega
     clear hc hc';rcases hd with hd | ⟨hd,hd2⟩ | ⟨hd,hd2⟩ | hd
     all_goals
      have h95:((s[k].toNat:Int) != 95)=true:=by simp; omega
      go_wp2;go_ret;exact ⟨ae (by simp [lw,dx,HB.out]),rfl⟩
   ·go_wp2;go_ret;refine ⟨ae ?_,rfl⟩;have hall:oC ul s=true:=by rw [← ut ul s k (by omega)]; exact hu.out
    have hl:kL s=true:=by simp [kL]; omega
    simp [lw,dx,hall,hl]
 ·have hn:kL s=false:=by simp [kL]; omega
  have HN:Hid (lw s=false):=by show _=_; simp [lw,dx,hn]
  clear hn;by_cases ha:1≤s.size
  ·have hb:12 < s.size:=by omega
   clear h1;go_enter Tryz.func151,Tryz.ntmps151;go_wp2;go_ret;exact ⟨ae HN.out.symm,rfl⟩
  ·have ha':s.size < 1:=by omega
   clear h1;go_enter Tryz.func151,Tryz.ntmps151;go_wp2;go_ret;exact ⟨ae HN.out.symm,rfl⟩
theorem uZ (s:ByteArray) (w:World) (hs:s.size≤maxLen) :
  Calls Tryz.prog 154 #[.string s,.func (Fn.func 179) #[] #[]] w fun e w'=>e=.returned (.bool (dx ul s))∧w'=w:=by
 unfold maxLen at hs;by_cases h1:1≤s.size∧s.size≤12
 ·obtain ⟨ha,hb⟩:=h1;go_enter Tryz.func154,Tryz.ntmps154;go_wp2
  go_loop [16] (fun i=>∃ k:Nat,k≤s.size∧i=.int .i64 k∧Hid (Dl ul s k=true)) (fun i=>s.size - (intOf i).toNat)
  case atStart=>exact ⟨0,Nat.zero_le _,rfl,pu _ _⟩
  case round =>
   obtain ⟨k,hk,rfl,hu⟩:=hrel;by_cases hlt:k < s.size
   ·by_cases hc:ul s[k]=true
    ·have HU:Hid (Dl ul s (k + 1)=true):=by show _=_; rw [pz _ _ _ hlt,hc,hu.out]; rfl
     go_wp2_with (go_at_call 179; refine (pQ _ _).mono ?_; rintro e w' ⟨rfl,rfl⟩);go_round;case rel=>exact ⟨k + 1,by omega,by go_num,HU⟩
     case measure=>simp [intOf]; omega
    ·have hc':ul s[k]=false:=by simpa using hc
     have HB:Hid (oC ul s=false):=uu _ _ _ hlt hc';clear hc;go_wp2_with (go_at_call 179; refine (pQ _ _).mono ?_; rintro e w' ⟨rfl,rfl⟩);go_ret;exact ⟨ae (by simp [dx,HB.out]),rfl⟩
   ·go_wp2;go_ret;refine ⟨ae ?_,rfl⟩;have hall:oC ul s=true:=by rw [← ut ul s k (by omega)]; exact hu.out
    have hl:kL s=true:=by simp [kL]; omega
    simp [dx,hall,hl]
 ·have hn:kL s=false:=by simp [kL]; omega
  have HN:Hid (dx ul s=false):=by show _=_; simp [dx,hn]
  clear hn;by_cases ha:1≤s.size
  ·have hb:12 < s.size:=by omega
   clear h1;go_enter Tryz.func154,Tryz.ntmps154;go_wp2;go_ret;exact ⟨ae HN.out.symm,rfl⟩
  ·have ha':s.size < 1:=by omega
   clear h1;go_enter Tryz.func154,Tryz.ntmps154;go_wp2;go_ret;exact ⟨ae HN.out.symm,rfl⟩
theorem ve (s:ByteArray) (w:World) (hs:s.size≤maxLen) :
  Calls Tryz.prog 160 #[.string s] w fun e w'=>e=.returned (.bool (lw s))∧w'=w:=by
 go_enter Tryz.func160,Tryz.ntmps160;go_wp2_with (go_at_call 154; refine (uZ _ _ hs).mono ?_; rintro e w' ⟨rfl,rfl⟩);go_ret;exact ⟨rfl,rfl⟩
theorem dW {W w1:World} (hb:Below W.heap.size W w1):(∀ b o,b < W.heap.size→w1.cell? ⟨b,o,none⟩=W.cell? ⟨b,o,none⟩)∧(∀ b o,b < W.heap.size→w1.frozen? ⟨b,o,none⟩=W.frozen? ⟨b,o,none⟩) :=
 ⟨fun b o h=>hb.cell (p:=⟨b,o,none⟩) h,fun b o h=>hb.frozen (p:=⟨b,o,none⟩) h⟩
theorem dX (t i:ByteArray) (w:World) (ht:t.size≤maxLen) (hi:i.size≤maxLen) :
  Calls Tryz.prog 123 #[.agg #[.string t,.string i]] w fun e w'=>e=.returned (.bool (dC t i))∧Below w.heap.size w w':=by
 by_cases hn:aL t=true
 all_goals
  go_enter Tryz.func123,Tryz.ntmps123;go_wp2_with (first | (go_at_call 77; refine (az _ _ ht).mono ?_; rintro e w' ⟨rfl,rfl⟩) | (go_at_call 151; refine (Dz _ _ hi).mono ?_; rintro e w' ⟨rfl,rfl⟩));go_ret;exact ⟨ae (by simp [dC,hn]),(Below.refl _ _).alloc (Nat.le_refl _) _⟩
theorem dY (t i:ByteArray) (w:World) (ht:t.size≤maxLen) (hi:i.size≤maxLen) :
  Calls Tryz.prog 135 #[.agg #[.string t,.string i]] w fun e w'=>e=.returned (.bool (dC t i))∧Below w.heap.size w w':=by
 by_cases hn:aL t=true
 all_goals
  go_enter Tryz.func135,Tryz.ntmps135;go_wp2_with (first | (go_at_call 127; refine (aj _ _ ht).mono ?_; rintro e w' ⟨rfl,rfl⟩) | (go_at_call 160; refine (ve _ _ hi).mono ?_; rintro e w' ⟨rfl,rfl⟩));go_ret;exact ⟨ae (by simp [dC,hn]),(Below.refl _ _).alloc (Nat.le_refl _) _⟩
end Go.Proofs.YtogjfppkbkgaeaaGreat
namespace Go.Proofs.YtogjfppkbkgaeaaGreat.Pl
theorem eu {a b:ByteArray} (h:a=b):Ending.returned (.string a)=.returned (.string b):=by rw [h]
theorem Fs {s:ByteArray} (h:kL s=true):1≤s.size∧s.size≤12:=by simpa [kL] using h
theorem ko {s:ByteArray} (h:aL s=true):1≤s.size∧s.size≤12:=by
 simp [aL,dx] at h; exact Fs h.1.1
theorem IR {s:ByteArray} (h:lw s=true):1≤s.size∧s.size≤12:=by
 simp [lw,dx] at h; exact Fs h.1
theorem uy {t i:ByteArray} (h:dC t i=true):t.size≤12∧i.size≤12:=by
 simp [dC] at h; exact ⟨(ko h.1).2,(IR h.2).2⟩
def ak (t i:ByteArray):ByteArray:=if dC t i then t ++ ⟨#[58]⟩ ++ i else ⟨#[]⟩
theorem jK {t i:ByteArray} (h:dC t i=true):ak t i=t ++ ⟨#[58]⟩ ++ i:=by simp [ak,h]
theorem oI {t i:ByteArray} (h:dC t i=false):ak t i=⟨#[]⟩:=by simp [ak,h]
theorem fF (t i:ByteArray):(ak t i).size≤25:=by
 unfold ak; split
 ·rename_i h;have h2:=uy h;have e1:(ByteArray.mk #[58]).size=1:=rfl;rw [ByteArray.size_append,ByteArray.size_append,e1];omega
 ·exact Nat.zero_le _
end Go.Proofs.YtogjfppkbkgaeaaGreat.Pl
namespace Go.Proofs.YtogjfppkbkgaeaaGreat
open Go.ChangeShapes Go.WideShapes Go.ChangeAt Go.RowKit
open Pl
theorem tL (t i:ByteArray) (w:World) (ht:t.size≤maxLen) (hi:i.size≤maxLen) :
  Calls Tryz.prog 152 #[.agg #[.string t,.string i]] w fun e w'=>e=.returned (.string (ak t i))∧Below w.heap.size w w':=by
 by_cases hn:dC t i=true
 ·obtain ⟨h1,h2⟩:=uy hn;have HT:Hid (ak t i=t ++ ⟨#[58]⟩ ++ i):=jK hn;go_enter Tryz.func152,Tryz.ntmps152;go_wp2_with (go_at_call 123; refine (dX _ _ _ ht hi).mono ?_; rintro e w' ⟨rfl,hb⟩; obtain ⟨hc,hf⟩:=dW hb);go_ret;exact ⟨eu HT.out.symm,((Below.refl _ _).alloc (Nat.le_refl _) _).trans (hb.mono (by simp))⟩
 ·have hn':dC t i=false:=by simpa using hn
  have HT:Hid (ak t i=⟨#[]⟩):=oI hn';clear hn;go_enter Tryz.func152,Tryz.ntmps152;go_wp2_with (go_at_call 123; refine (dX _ _ _ ht hi).mono ?_; rintro e w' ⟨rfl,hb⟩; obtain ⟨hc,hf⟩:=dW hb);go_ret;exact ⟨eu HT.out.symm,((Below.refl _ _).alloc (Nat.le_refl _) _).trans (hb.mono (by simp))⟩
theorem tN (t i:ByteArray) (w:World) (ht:t.size≤maxLen) (hi:i.size≤maxLen) :
  Calls Tryz.prog 148 #[.agg #[.string t,.string i]] w fun e w'=>e=.returned (.string (ak t i))∧Below w.heap.size w w':=by
 by_cases hn:dC t i=true
 ·obtain ⟨h1,h2⟩:=uy hn;have HT:Hid (ak t i=t ++ ⟨#[58]⟩ ++ i):=jK hn;go_enter Tryz.func148,Tryz.ntmps148;go_wp2_with (go_at_call 135; refine (dY _ _ _ ht hi).mono ?_; rintro e w' ⟨rfl,hb⟩; obtain ⟨hc,hf⟩:=dW hb);go_ret;exact ⟨eu HT.out.symm,((Below.refl _ _).alloc (Nat.le_refl _) _).trans (hb.mono (by simp))⟩
 ·have hn':dC t i=false:=by simpa using hn
  have HT:Hid (ak t i=⟨#[]⟩):=oI hn';clear hn;go_enter Tryz.func148,Tryz.ntmps148;go_wp2_with (go_at_call 135; refine (dY _ _ _ ht hi).mono ?_; rintro e w' ⟨rfl,hb⟩; obtain ⟨hc,hf⟩:=dW hb);go_ret;exact ⟨eu HT.out.symm,((Below.refl _ _).alloc (Nat.le_refl _) _).trans (hb.mono (by simp))⟩
end Go.Proofs.YtogjfppkbkgaeaaGreat
namespace Go.Proofs.YtogjfppkbkgaeaaGreat.Pl
def pR (s:ByteArray):Bool:=s.toList.isEmpty || aL s
def aU (a b r c d s:ByteArray):Bool:=dC a b && aL r && dC c d && pR s
def aN (a b r c d s:ByteArray):ByteArray :=
 if aU a b r c d s then
  (if s.toList.isEmpty then ak a b ++ ⟨#[35]⟩ ++ r ++ ⟨#[64]⟩ ++ ak c d else ak a b ++ ⟨#[35]⟩ ++ r ++ ⟨#[64]⟩ ++ ak c d ++ ⟨#[35]⟩ ++ s)
 else ⟨#[]⟩
theorem oJ {a b r c d s:ByteArray} (h:aU a b r c d s=false):aN a b r c d s=⟨#[]⟩:=by simp [aN,h]
theorem jL {a b r c d s:ByteArray} (h:aU a b r c d s=true) (hs:s.toList.isEmpty=true):aN a b r c d s=ak a b ++ ⟨#[35]⟩ ++ r ++ ⟨#[64]⟩ ++ ak c d:=by simp [aN,h,hs]
theorem jM {a b r c d s:ByteArray} (h:aU a b r c d s=true) (hs:s.toList.isEmpty=false):aN a b r c d s=ak a b ++ ⟨#[35]⟩ ++ r ++ ⟨#[64]⟩ ++ ak c d ++ ⟨#[35]⟩ ++ s:=by simp [aN,h,hs]
theorem vg {a b r c d s:ByteArray} (h:dC a b=false):aU a b r c d s=false:=by simp [aU,h]
theorem vk {a b r c d s:ByteArray} (h:aL r=false):aU a b r c d s=false:=by simp [aU,h]
theorem vv {a b r c d s:ByteArray} (h:dC c d=false):aU a b r c d s=false:=by simp [aU,h]
theorem vw {a b r c d s:ByteArray} (h1:dC a b=true) (h2:aL r=true) (h3:dC c d=true):aU a b r c d s=pR s:=by simp [aU,h1,h2,h3]
theorem iy {a b r c d s:ByteArray} (h:aU a b r c d s=true):dC a b=true∧aL r=true∧dC c d=true∧pR s=true:=by
 simp [aU] at h; exact ⟨h.1.1.1,h.1.1.2,h.1.2,h.2⟩
theorem vz {s:ByteArray} (h:s.toList.isEmpty=true):s.size=0:=by
 rw [Go.ByteArray.toList_eq] at h;have h2:s.data.toList=[]:=by simpa using h
 have h3:s.data.toList.length=0:=by rw [h2]; rfl
 simpa using h3
theorem zK {s:ByteArray} (h:pR s=true):s.size≤12:=by
 simp only [pR,Bool.or_eq_true] at h;rcases h with h | h
 ·have:=vz h; omega
 ·exact (ko h).2
end Go.Proofs.YtogjfppkbkgaeaaGreat.Pl
