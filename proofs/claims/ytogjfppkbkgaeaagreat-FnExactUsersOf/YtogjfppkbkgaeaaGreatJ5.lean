/- What a right schema is, in plain words. -/
import Derived.Test.YtogjfppkbkgaeaaGreatJ4
import Derived.Test.YtogjfppkbkgaeaaGreatJ1
import Derived.Below
namespace Go.Proofs.YtogjfppkbkgaeaaGreat
open Pl
def fC (a b:ByteArray):Bool:=Op.bytesLess a.toList b.toList
def jw (rs:List Rl) (j:Nat):Bool :=
 match rs[j]? with
 | none=>true
 | some r=>aL r.name && (match j with | 0=>true | i + 1=>(rs[i]?.map fun p=>fC p.name r.name).getD true) && aS r.expr
def dL (rs:List Rl):Nat→Bool
 | 0=>true
 | k + 1=>dL rs k && jw rs k
def iU (ts:List Ty) (j:Nat):Bool :=
 match ts[j]? with
 | none=>true
 | some t=>aL t.name && (match j with | 0=>true | i + 1=>(ts[i]?.map fun p=>fC p.name t.name).getD true) && decide (t.rels.length≤6) && dL t.rels t.rels.length
def ib (ts:List Ty):Nat→Bool
 | 0=>true
 | k + 1=>ib ts k && iU ts k
theorem oL (rs:List Rl) (k:Nat) (hb:jw rs k=false):∀ n,k < n→dL rs n=false
 | 0,hn=>by omega
 | n + 1,hn=>by
  by_cases e:n=k
  ·subst e; simp [dL,hb]
  ·simp [dL,oL rs k hb n (by omega)]
theorem oM (ts:List Ty) (k:Nat) (hb:iU ts k=false):∀ n,k < n→ib ts n=false
 | 0,hn=>by omega
 | n + 1,hn=>by
  by_cases e:n=k
  ·subst e; simp [ib,hb]
  ·simp [ib,oM ts k hb n (by omega)]
theorem lc {rs:List Rl}:∀ {n:Nat},dL rs n=true→∀ j,j < n→jw rs j=true
 | 0,_,j,hj=>by omega
 | n + 1,h,j,hj=>by
  simp only [dL,Bool.and_eq_true] at h;by_cases e:j=n
  ·subst e; exact h.2
  ·exact lc h.1 j (by omega)
theorem lh {ts:List Ty}:∀ {n:Nat},ib ts n=true→∀ j,j < n→iU ts j=true
 | 0,_,j,hj=>by omega
 | n + 1,h,j,hj=>by
  simp only [ib,Bool.and_eq_true] at h;by_cases e:j=n
  ·subst e; exact h.2
  ·exact lh h.1 j (by omega)
def aT (ts:List Ty):Bool:=decide (ts.length≤6) && ib ts ts.length
def mG (ts:List Ty) (t:Ty):Bool:=t.rels.all fun r=>aI ts t.name r.expr
def iL (ts:List Ty):Bool:=ts.all (mG ts)
def aX (ts:List Ty):Prop:=aT ts=true∧iL ts=true∧∃ f,Sol ts f
theorem Gx {rs:List Rl} {n:ByteArray} {es:List Ex} (h:iA rs n=some es):∃ r ∈ rs,r.name=n∧r.expr=es:=by
 induction rs with
 | nil=>simp [iA] at h
 | cons r rs ih =>
  simp only [iA] at h;split at h
  ·rename_i hn; injection h with h; exact ⟨r,by simp,dJ.1 hn,h⟩
  ·obtain ⟨q,hq,e⟩:=ih h; exact ⟨q,by simp [hq],e⟩
theorem vw {ts:List Ty} {ty n:ByteArray} {es:List Ex} (h:eF ts ty n=some es):∃ t ∈ ts,∃ r ∈ t.rels,t.name=ty∧r.name=n∧r.expr=es:=by
 induction ts with
 | nil=>simp [eF] at h
 | cons t ts ih =>
  simp only [eF] at h;split at h
  ·rename_i hn;rcases Option.or_eq_some_iff.1 h with h | ⟨-,h⟩
   ·obtain ⟨r,hr,e⟩:=Gx h; exact ⟨t,by simp,r,hr,dJ.1 hn,e⟩
   ·obtain ⟨t',ht,e⟩:=ih h; exact ⟨t',by simp [ht],e⟩
  ·obtain ⟨t',ht,e⟩:=ih h; exact ⟨t',by simp [ht],e⟩
theorem mH {ts:List Ty} {k:ByteArray × ByteArray}:k ∈ ai ts ↔ ∃ t ∈ ts,∃ r ∈ t.rels,k=(t.name,r.name):=by
 simp only [ai,iB,List.mem_flatMap,List.mem_map];constructor
 ·rintro ⟨t,ht,r,hr,e⟩; exact ⟨t,ht,r,hr,e.symm⟩
 ·rintro ⟨t,ht,r,hr,e⟩; exact ⟨t,ht,r,hr,e.symm⟩
theorem qX {ts:List Ty} {ty n:ByteArray} (h:(aF ts ty n).isEmpty=false):(ty,n) ∈ ai ts:=by
 unfold aF at h;cases e:eF ts ty n with
 | none=>rw [e] at h; simp at h
 | some es =>
  obtain ⟨t,ht,r,hr,h1,h2,-⟩:=vw e;exact mH.2 ⟨t,ht,r,hr,by rw [h1,h2]⟩
theorem Me {ts:List Ty} {rel:ByteArray} {xs:List Al} {g:ByteArray} (h:g ∈ gl ts rel xs):(aF ts g rel).isEmpty=false:=by
 induction xs with
 | nil=>simp [gl] at h
 | cons a xs ih =>
  simp only [gl] at h;split at h
  ·exact ih h
  ·rename_i hn;rcases List.mem_cons.1 h with rfl | h
   ·simpa using hn
   ·exact ih h
theorem Gy {neg:Bool} {xs:List Al} {d:Dp} (h:d ∈ bu neg xs):∃ a ∈ xs,a.s.toList.isEmpty=false∧d.typ=a.t∧d.rel=a.s:=by
 induction xs with
 | nil=>simp [bu] at h
 | cons a xs ih =>
  simp only [bu] at h;split at h
  ·obtain ⟨b,hb,e⟩:=ih h; exact ⟨b,by simp [hb],e⟩
  ·rename_i hn;rcases List.mem_cons.1 h with rfl | h
   ·exact ⟨a,by simp,by simpa using hn,rfl,rfl⟩
   ·obtain ⟨b,hb,e⟩:=ih h; exact ⟨b,by simp [hb],e⟩
theorem oN {ts:List Ty} {typ:ByteArray} {es:List Ex} {d:Dp}:∀ {k:Nat},d ∈ aG ts typ es k→∃ i,i < k∧d ∈ iZ ts typ es i
 | 0,h=>by simp [aG] at h
 | k + 1,h=>by
  simp only [aG] at h;rcases List.mem_append.1 h with h | h
  ·obtain ⟨i,hi,e⟩:=oN h; exact ⟨i,by omega,e⟩
  ·exact ⟨k,by omega,h⟩
theorem yK {ts:List Ty} {typ:ByteArray} {es:List Ex} (h:aI ts typ es=true):∀ e ∈ es,mo ts e.allow=true∧jY ts typ e=true:=by
 induction es with
 | nil=>intro e he; cases he
 | cons e es ih =>
  simp only [aI] at h;split at h
  ·rename_i hn;rw [Bool.and_eq_true] at hn;intro q hq;rcases List.mem_cons.1 hq with rfl | hq
   ·exact hn
   ·exact ih h q hq
  ·cases h
theorem jy {ts:List Ty} (h:iL ts=true):Found ts:=by
 intro k hk d hd;unfold fQ mr at hd;have hne:(aF ts k.1 k.2).length ≠ 0:=by
  intro e;rw [e] at hd; simp [aG] at hd
 obtain ⟨es,hes⟩:∃ es,eF ts k.1 k.2=some es:=by
  cases e:eF ts k.1 k.2 with
  | none=>unfold aF at hne; rw [e] at hne; simp at hne
  | some es=>exact ⟨es,rfl⟩
 have ero:aF ts k.1 k.2=es:=by unfold aF; rw [hes]; rfl
 rw [ero] at hd;obtain ⟨t,ht,r,hr,h1,h2,h3⟩:=vw hes;have hr1:aI ts k.1 es=true:=by
  unfold iL at h;rw [List.all_eq_true] at h;have:=h t ht;unfold mG at this;rw [List.all_eq_true] at this;have:=this r hr;rw [h1,h3] at this;exact this
 obtain ⟨i,hi,hdi⟩:=oN hd;unfold iZ at hdi;split at hdi
 ·cases hdi
 ·rename_i e he;obtain ⟨ra,rn⟩:=yK hr1 e (List.mem_of_getElem? he);rcases List.mem_append.1 hdi with hdi | hdi
  ·obtain ⟨a,ha,hs,e1,e2⟩:=Gy hdi;unfold mo at ra;rw [List.all_eq_true] at ra;have:=ra a ha;unfold lX at this;rw [hs,Bool.false_or,Bool.and_eq_true] at this;rw [e1,e2];exact qX (by simpa using this.2)
  ·unfold kz at hdi;unfold jY at rn;split at hdi
   ·rename_i h2;rw [if_pos h2] at rn;simp at hdi;subst hdi;exact qX (by simpa using rn)
   ·split at hdi
    ·obtain ⟨g,hg,rfl⟩:=List.mem_map.1 hdi;exact qX (Me hg)
    ·cases hdi
theorem yL {es:List Ex} (h:aS es=true):1≤es.length∧es.length≤15:=by
 simp only [aS,Bool.and_eq_true,decide_eq_true_eq] at h;exact ⟨h.1.1.1.1.1,h.1.1.1.1.2⟩
theorem Gz {es:List Ex} (h:aS es=true) (i:Nat) (hi:i < es.length):bI es.length es[i].kids:=by
 simp only [aS,Bool.and_eq_true,decide_eq_true_eq] at h;have h1:=h.1.1.2;unfold gZ at h1;rw [List.all_eq_true] at h1;have h2:=h1 i (by simpa using hi);unfold jZ mE at h2;rw [List.getElem?_eq_getElem hi] at h2;simp only [Option.map_some,Option.getD_some,List.all_eq_true,Bool.and_eq_true,decide_eq_true_eq] at h2;intro x hx;have:=h2 x hx;omega
theorem bi {rs:List TR} (h:aT (af rs)=true):rs.length≤6∧(∀ r ∈ rs,r.rows.length≤6)∧∀ r ∈ rs,∀ q ∈ r.rows,aS (ag q.rows)=true∧q.rows.length≤15∧∀ e ∈ q.rows,bI q.rows.length e.e.kids:=by
 simp only [aT,Bool.and_eq_true,decide_eq_true_eq] at h;rw [fB] at h;have hT:∀ r ∈ rs,r.rows.length≤6∧dL (bR r.rows) r.rows.length=true:=by
  intro r hr;obtain ⟨j,hj,rfl⟩:=List.mem_iff_getElem.1 hr;have h1:=lh h.2 j hj;unfold iU at h1;have e:(af rs)[j]?=some rs[j].p:=by simp [af,hj]
  rw [e] at h1;simp only [Bool.and_eq_true,decide_eq_true_eq] at h1;have e2:rs[j].p.rels.length=rs[j].rows.length:=by simp [TR.p,bR]
  rw [e2] at h1;exact ⟨h1.1.2,h1.2⟩
 refine ⟨h.1,fun r hr=>(hT r hr).1,fun r hr q hq=>?_⟩;obtain ⟨j,hj,rfl⟩:=List.mem_iff_getElem.1 hq;have h1:=lc (hT r hr).2 j hj;unfold jw at h1;have e:(bR r.rows)[j]?=some r.rows[j].p:=by simp [bR,hj]
 rw [e] at h1;simp only [Bool.and_eq_true] at h1;have h2:aS (ag r.rows[j].rows)=true:=h1.2;have h3:=yL h2;rw [aO] at h3;refine ⟨h2,h3.2,fun e he=>?_⟩;obtain ⟨i,hi,rfl⟩:=List.mem_iff_getElem.1 he;have:=Gz h2 i (by rw [aO]; exact hi);have e1:(ag r.rows[j].rows)[i]'(by rw [aO]; exact hi)=r.rows[j].rows[i].e:=by simp [ag]
 rw [e1] at this;simpa [ag] using this
def assigns (n:Nat):List (ByteArray × ByteArray)→List (ByteArray × ByteArray→Int)
 | []=>[fun _=>0]
 | k::ks=>(assigns n ks).flatMap fun f=>(List.range n).map fun v=>fun y=>if y=k then ((v:Nat):Int) else f y
theorem sV {n:Nat}:∀ {ks:List (ByteArray × ByteArray)} {f:ByteArray × ByteArray→Int},f ∈ assigns n ks→∀ k,0≤f k
 | [],f,h,k=>by simp only [assigns,List.mem_singleton] at h; rw [h]; exact Int.le_refl _
 | x::ks,f,h,k=>by
  simp only [assigns,List.mem_flatMap,List.mem_map] at h;obtain ⟨g,hg,v,-,rfl⟩:=h;show 0≤(if k=x then ((v:Nat):Int) else g k);split
  ·omega
  ·exact sV hg k
theorem sW {n:Nat} (g:ByteArray × ByteArray→Int):∀ (ks:List (ByteArray × ByteArray)),(∀ k ∈ ks,0≤g k∧g k < n)→∃ f ∈ assigns n ks,∀ k ∈ ks,f k=g k
 | [],_=>⟨fun _=>0,by simp [assigns],fun k hk=>by cases hk⟩
 | x::ks,h=>by
  obtain ⟨f,hf,hfg⟩:=sW g ks fun k hk=>h k (List.mem_cons_of_mem _ hk);obtain ⟨h0,h1⟩:=h x (List.mem_cons_self ..);refine ⟨fun y=>if y=x then (((g x).toNat:Nat):Int) else f y,?_,fun k hk=>?_⟩
  ·simp only [assigns,List.mem_flatMap,List.mem_map];exact ⟨f,hf,(g x).toNat,List.mem_range.2 (by omega),rfl⟩
  ·show (if k=x then (((g x).toNat:Nat):Int) else f k)=g k;by_cases e:k=x
   ·rw [if_pos e,e]; omega
   ·rw [if_neg e];rcases List.mem_cons.1 hk with h2 | h2
    ·exact absurd h2 e
    ·exact hfg k h2
def Mf (ts:List Ty) (f:ByteArray × ByteArray→Int):Bool:=(ai ts).all fun k=>(fQ ts k).all fun d=>decide (f (d.typ,d.rel) + stepOf d≤f k)
theorem Fw {ts:List Ty} {f:ByteArray × ByteArray→Int}:Mf ts f=true ↔ ∀ k ∈ ai ts,∀ d ∈ fQ ts k,f (d.typ,d.rel) + stepOf d≤f k:=by
 unfold Mf; simp only [List.all_eq_true,decide_eq_true_eq]
def vz (ts:List Ty):List (ByteArray × ByteArray→Int):=(assigns (ai ts).length (ai ts)).filter (Mf ts)
theorem GA {ts:List Ty} {f:ByteArray × ByteArray→Int} (h:f ∈ vz ts):Sol ts f:=by
 unfold vz at h;rw [List.mem_filter] at h;exact ⟨sV h.1,Fw.1 h.2⟩
theorem IZ {ts:List Ty} {g:ByteArray × ByteArray→Int} (hF:Found ts) (h:Sol ts g) (hb:∀ k ∈ ai ts,g k + 1≤(ai ts).length):∃ f ∈ vz ts,∀ k ∈ ai ts,f k=g k:=by
 obtain ⟨f,hf,hfg⟩:=sW (n:=(ai ts).length) g (ai ts) fun k hk=>⟨h.pos k,by have:=hb k hk; omega⟩;refine ⟨f,?_,hfg⟩;unfold vz;rw [List.mem_filter];refine ⟨hf,Fw.2 fun k hk d hd=>?_⟩;rw [hfg k hk,hfg _ (hF k hk d hd)];exact h.up k hk d hd
def bP (ts:List Ty):Bool:=aT ts && iL ts && !(vz ts).isEmpty
theorem bY {ts:List Ty}:bP ts=true ↔ aX ts:=by
 unfold bP aX;simp only [Bool.and_eq_true,Bool.not_eq_true'];constructor
 ·rintro ⟨⟨h1,h2⟩,h3⟩;refine ⟨h1,h2,?_⟩;cases e:vz ts with
  | nil=>rw [e] at h3; cases h3
  | cons f fs=>exact ⟨f,GA (by rw [e]; exact List.mem_cons_self ..)⟩
 ·rintro ⟨h1,h2,f,hf⟩;refine ⟨⟨h1,h2⟩,?_⟩;obtain ⟨g,hg,hb⟩:=hf.few (jy h2);obtain ⟨f2,hf2,-⟩:=IZ (jy h2) hg hb;cases e:vz ts with
  | nil=>rw [e] at hf2; cases hf2
  | cons f fs=>rfl
theorem BD {ts:List Ty} (h:aX ts):bP ts=true:=bY.2 h
theorem dE {ts:List Ty} (h:¬ aX ts):bP ts=false:=by
 cases e:bP ts with
 | false=>rfl
 | true=>exact absurd (bY.1 e) h
set_option linter.unusedVariables false
def Fx (es:List Ex):Prop:=∀ (i:Nat) (h:i < es.length),∀ x ∈ es[i].kids,0≤x∧x < (i:Int)
theorem DJ {es:List Ex} (h:aS es=true):Fx es:=by
 intro i hi x hx;unfold aS at h;simp only [Bool.and_eq_true,decide_eq_true_eq] at h;have h1:=h.1.1.2;unfold gZ at h1;rw [List.all_eq_true] at h1;have h2:=h1 i (by simpa using hi);unfold jZ mE at h2;rw [List.getElem?_eq_getElem hi] at h2;simp only [Option.map_some,Option.getD_some,List.all_eq_true,Bool.and_eq_true,decide_eq_true_eq] at h2;have:=h2 x hx;omega
theorem DK {ts:List Ty} (h:aT ts=true) {t:Ty} (ht:t ∈ ts) {r:Rl} (hr:r ∈ t.rels):aL r.name=true∧aS r.expr=true:=by
 unfold aT at h;simp only [Bool.and_eq_true] at h;obtain ⟨j,hj,rfl⟩:=List.getElem_of_mem ht;have h1:=lh h.2 j hj;unfold iU at h1;rw [List.getElem?_eq_getElem hj] at h1;simp only [Bool.and_eq_true] at h1;obtain ⟨k,hk,rfl⟩:=List.getElem_of_mem hr;have h2:=lc h1.2 k hk;unfold jw at h2;rw [List.getElem?_eq_getElem hk] at h2;simp only [Bool.and_eq_true] at h2;exact ⟨h2.1.1,h2.2⟩
open Go.ChangeAt Go.ChangeShapes Go.RowKit Go.WideShapes
theorem pY (c:UInt8) (w:World) :
  Calls Tryz.prog 179 #[.int .u8 c.toNat] w fun e w'=>e=.returned (.bool (uA c))∧w'=w:=by
 by_cases hl:gV c=true
 ·go_enter Tryz.func179,Tryz.ntmps179;go_wp2_with (go_at_call 155; refine (jh _ _).mono ?_; rintro e w' ⟨rfl,rfl⟩);go_ret;exact ⟨ae (by simp [uA,hl]),rfl⟩
 ·have hf:gV c=false:=by simpa using hl
  clear hl;go_enter Tryz.func179,Tryz.ntmps179;go_wp2_with (go_at_call 155; refine (jh _ _).mono ?_; rintro e w' ⟨rfl,rfl⟩)
  all_goals go_ret
  all_goals refine ⟨ae ?_,rfl⟩
  all_goals (rw [Bool.eq_iff_iff]; simp [uA,hf]; omega)
set_option maxHeartbeats 1000000 in
theorem DL (s:ByteArray) (w:World) (hs:s.size≤maxLen) :
  Calls Tryz.prog 151 #[.string s] w fun e w'=>e=.returned (.bool (lT s))∧w'=w:=by
 unfold maxLen at hs;by_cases h1:1≤s.size∧s.size≤12
 ·obtain ⟨ha,hb⟩:=h1;go_enter Tryz.func151,Tryz.ntmps151;go_wp2
  go_loop [3] (fun i=>∃ k:Nat,k≤s.size∧i=.int .i64 k∧Hid (Dv uA s k=true)) (fun i=>s.size - (intOf i).toNat)
  case atStart=>exact ⟨0,Nat.zero_le _,rfl,pJ _ _⟩
  case round =>
   obtain ⟨k,hk,rfl,hu⟩:=hrel;by_cases hlt:k < s.size
   ·by_cases hc:uA s[k]=true
    ·have hd:(97≤s[k].toNat∧s[k].toNat≤122) ∨ (48≤s[k].toNat∧s[k].toNat≤57) ∨ s[k].toNat=95:=by simp [uA,gV] at hc; omega
     have HU:Hid (Dv uA s (k + 1)=true):=by show _=_; rw [pK _ _ _ hlt,hc,hu.out]; rfl
     clear hc;rcases hd with ⟨hd1,hd2⟩ | ⟨hd1,hd2⟩ | hd1
     all_goals
      go_wp2;go_round;case rel=>exact ⟨k + 1,by omega,by go_num,HU⟩
      case measure=>simp [intOf]; omega
    ·have hc':uA s[k]=false:=by simpa using hc
     have HB:Hid (oI uA s=false):=uE _ _ _ hlt hc';have hd:s[k].toNat < 48 ∨ (57 < s[k].toNat∧s[k].toNat < 95) ∨ (95 < s[k].toNat∧s[k].toNat < 97) ∨ 122 < s[k].toNat:=by simp [uA,gV] at hc'; omega
     clear hc hc';rcases hd with hd | ⟨hd,hd2⟩ | ⟨hd,hd2⟩ | hd
     all_goals
      have h95:((s[k].toNat:Int) != 95)=true:=by simp; omega
      go_wp2;go_ret;exact ⟨ae (by simp [lT,dC,HB.out]),rfl⟩
   ·go_wp2;go_ret;refine ⟨ae ?_,rfl⟩;have hall:oI uA s=true:=by rw [← uD uA s k (by omega)]; exact hu.out
    have hl:kT s=true:=by simp [kT]; omega
    simp [lT,dC,hall,hl]
 ·have hn:kT s=false:=by simp [kT]; omega
  have HN:Hid (lT s=false):=by show _=_; simp [lT,dC,hn]
  clear hn;by_cases ha:1≤s.size
  ·have hb:12 < s.size:=by omega
   clear h1;go_enter Tryz.func151,Tryz.ntmps151;go_wp2;go_ret;exact ⟨ae HN.out.symm,rfl⟩
  ·have ha':s.size < 1:=by omega
   clear h1;go_enter Tryz.func151,Tryz.ntmps151;go_wp2;go_ret;exact ⟨ae HN.out.symm,rfl⟩
theorem vB (s:ByteArray) (w:World) (hs:s.size≤maxLen) :
  Calls Tryz.prog 154 #[.string s,.func (Fn.func 179) #[] #[]] w fun e w'=>e=.returned (.bool (dC uA s))∧w'=w:=by
 unfold maxLen at hs;by_cases h1:1≤s.size∧s.size≤12
 ·obtain ⟨ha,hb⟩:=h1;go_enter Tryz.func154,Tryz.ntmps154;go_wp2
  go_loop [16] (fun i=>∃ k:Nat,k≤s.size∧i=.int .i64 k∧Hid (Dv uA s k=true)) (fun i=>s.size - (intOf i).toNat)
  case atStart=>exact ⟨0,Nat.zero_le _,rfl,pJ _ _⟩
  case round =>
   obtain ⟨k,hk,rfl,hu⟩:=hrel;by_cases hlt:k < s.size
   ·by_cases hc:uA s[k]=true
    ·have HU:Hid (Dv uA s (k + 1)=true):=by show _=_; rw [pK _ _ _ hlt,hc,hu.out]; rfl
     go_wp2_with (go_at_call 179; refine (pY _ _).mono ?_; rintro e w' ⟨rfl,rfl⟩);go_round;case rel=>exact ⟨k + 1,by omega,by go_num,HU⟩
     case measure=>simp [intOf]; omega
    ·have hc':uA s[k]=false:=by simpa using hc
     have HB:Hid (oI uA s=false):=uE _ _ _ hlt hc';clear hc;go_wp2_with (go_at_call 179; refine (pY _ _).mono ?_; rintro e w' ⟨rfl,rfl⟩);go_ret;exact ⟨ae (by simp [dC,HB.out]),rfl⟩
   ·go_wp2;go_ret;refine ⟨ae ?_,rfl⟩;have hall:oI uA s=true:=by rw [← uD uA s k (by omega)]; exact hu.out
    have hl:kT s=true:=by simp [kT]; omega
    simp [dC,hall,hl]
 ·have hn:kT s=false:=by simp [kT]; omega
  have HN:Hid (dC uA s=false):=by show _=_; simp [dC,hn]
  clear hn;by_cases ha:1≤s.size
  ·have hb:12 < s.size:=by omega
   clear h1;go_enter Tryz.func154,Tryz.ntmps154;go_wp2;go_ret;exact ⟨ae HN.out.symm,rfl⟩
  ·have ha':s.size < 1:=by omega
   clear h1;go_enter Tryz.func154,Tryz.ntmps154;go_wp2;go_ret;exact ⟨ae HN.out.symm,rfl⟩
theorem vC (s:ByteArray) (w:World) (hs:s.size≤maxLen) :
  Calls Tryz.prog 160 #[.string s] w fun e w'=>e=.returned (.bool (lT s))∧w'=w:=by
 go_enter Tryz.func160,Tryz.ntmps160;go_wp2_with (go_at_call 154; refine (vB _ _ hs).mono ?_; rintro e w' ⟨rfl,rfl⟩);go_ret;exact ⟨rfl,rfl⟩
theorem fD {W w1:World} (hb:Below W.heap.size W w1):(∀ b o,b < W.heap.size→w1.cell? ⟨b,o,none⟩=W.cell? ⟨b,o,none⟩)∧(∀ b o,b < W.heap.size→w1.frozen? ⟨b,o,none⟩=W.frozen? ⟨b,o,none⟩) :=
 ⟨fun b o h=>hb.cell (p:=⟨b,o,none⟩) h,fun b o h=>hb.frozen (p:=⟨b,o,none⟩) h⟩
theorem ed (t i:ByteArray) (w:World) (ht:t.size≤maxLen) (hi:i.size≤maxLen) :
  Calls Tryz.prog 123 #[.agg #[.string t,.string i]] w fun e w'=>e=.returned (.bool (dG t i))∧Below w.heap.size w w':=by
 by_cases hn:aL t=true
 all_goals
  go_enter Tryz.func123,Tryz.ntmps123;go_wp2_with (first | (go_at_call 77; refine (aA _ _ ht).mono ?_; rintro e w' ⟨rfl,rfl⟩) | (go_at_call 151; refine (DL _ _ hi).mono ?_; rintro e w' ⟨rfl,rfl⟩));go_ret;exact ⟨ae (by simp [dG,hn]),(Below.refl _ _).alloc (Nat.le_refl _) _⟩
theorem eu (t i:ByteArray) (w:World) (ht:t.size≤maxLen) (hi:i.size≤maxLen) :
  Calls Tryz.prog 135 #[.agg #[.string t,.string i]] w fun e w'=>e=.returned (.bool (dG t i))∧Below w.heap.size w w':=by
 by_cases hn:aL t=true
 all_goals
  go_enter Tryz.func135,Tryz.ntmps135;go_wp2_with (first | (go_at_call 127; refine (ak _ _ ht).mono ?_; rintro e w' ⟨rfl,rfl⟩) | (go_at_call 160; refine (vC _ _ hi).mono ?_; rintro e w' ⟨rfl,rfl⟩));go_ret;exact ⟨ae (by simp [dG,hn]),(Below.refl _ _).alloc (Nat.le_refl _) _⟩
end Go.Proofs.YtogjfppkbkgaeaaGreat
namespace Go.Proofs.YtogjfppkbkgaeaaGreat.Pl
theorem eG {a b:ByteArray} (h:a=b):Ending.returned (.string a)=.returned (.string b):=by rw [h]
theorem Fy {s:ByteArray} (h:kT s=true):1≤s.size∧s.size≤12:=by simpa [kT] using h
theorem kE {s:ByteArray} (h:aL s=true):1≤s.size∧s.size≤12:=by
 simp [aL,dC] at h; exact Fy h.1.1
theorem I1 {s:ByteArray} (h:lT s=true):1≤s.size∧s.size≤12:=by
 simp [lT,dC] at h; exact Fy h.1
theorem uG {t i:ByteArray} (h:dG t i=true):t.size≤12∧i.size≤12:=by
 simp [dG] at h; exact ⟨(kE h.1).2,(I1 h.2).2⟩
def au (t i:ByteArray):ByteArray:=if dG t i then t ++ ⟨#[58]⟩ ++ i else ⟨#[]⟩
theorem jQ {t i:ByteArray} (h:dG t i=true):au t i=t ++ ⟨#[58]⟩ ++ i:=by simp [au,h]
theorem oO {t i:ByteArray} (h:dG t i=false):au t i=⟨#[]⟩:=by simp [au,h]
theorem fM (t i:ByteArray):(au t i).size≤25:=by
 unfold au; split
 ·rename_i h;have h2:=uG h;have e1:(ByteArray.mk #[58]).size=1:=rfl;rw [ByteArray.size_append,ByteArray.size_append,e1];omega
 ·exact Nat.zero_le _
end Go.Proofs.YtogjfppkbkgaeaaGreat.Pl
namespace Go.Proofs.YtogjfppkbkgaeaaGreat
open Go.ChangeShapes Go.WideShapes Go.ChangeAt Go.RowKit
open Pl
theorem tY (t i:ByteArray) (w:World) (ht:t.size≤maxLen) (hi:i.size≤maxLen) :
  Calls Tryz.prog 152 #[.agg #[.string t,.string i]] w fun e w'=>e=.returned (.string (au t i))∧Below w.heap.size w w':=by
 by_cases hn:dG t i=true
 ·obtain ⟨h1,h2⟩:=uG hn;have HT:Hid (au t i=t ++ ⟨#[58]⟩ ++ i):=jQ hn;go_enter Tryz.func152,Tryz.ntmps152;go_wp2_with (go_at_call 123; refine (ed _ _ _ ht hi).mono ?_; rintro e w' ⟨rfl,hb⟩; obtain ⟨hc,hf⟩:=fD hb);go_ret;exact ⟨eG HT.out.symm,((Below.refl _ _).alloc (Nat.le_refl _) _).trans (hb.mono (by simp))⟩
 ·have hn':dG t i=false:=by simpa using hn
  have HT:Hid (au t i=⟨#[]⟩):=oO hn';clear hn;go_enter Tryz.func152,Tryz.ntmps152;go_wp2_with (go_at_call 123; refine (ed _ _ _ ht hi).mono ?_; rintro e w' ⟨rfl,hb⟩; obtain ⟨hc,hf⟩:=fD hb);go_ret;exact ⟨eG HT.out.symm,((Below.refl _ _).alloc (Nat.le_refl _) _).trans (hb.mono (by simp))⟩
theorem tZ (t i:ByteArray) (w:World) (ht:t.size≤maxLen) (hi:i.size≤maxLen) :
  Calls Tryz.prog 148 #[.agg #[.string t,.string i]] w fun e w'=>e=.returned (.string (au t i))∧Below w.heap.size w w':=by
 by_cases hn:dG t i=true
 ·obtain ⟨h1,h2⟩:=uG hn;have HT:Hid (au t i=t ++ ⟨#[58]⟩ ++ i):=jQ hn;go_enter Tryz.func148,Tryz.ntmps148;go_wp2_with (go_at_call 135; refine (eu _ _ _ ht hi).mono ?_; rintro e w' ⟨rfl,hb⟩; obtain ⟨hc,hf⟩:=fD hb);go_ret;exact ⟨eG HT.out.symm,((Below.refl _ _).alloc (Nat.le_refl _) _).trans (hb.mono (by simp))⟩
 ·have hn':dG t i=false:=by simpa using hn
  have HT:Hid (au t i=⟨#[]⟩):=oO hn';clear hn;go_enter Tryz.func148,Tryz.ntmps148;go_wp2_with (go_at_call 135; refine (eu _ _ _ ht hi).mono ?_; rintro e w' ⟨rfl,hb⟩; obtain ⟨hc,hf⟩:=fD hb);go_ret;exact ⟨eG HT.out.symm,((Below.refl _ _).alloc (Nat.le_refl _) _).trans (hb.mono (by simp))⟩
end Go.Proofs.YtogjfppkbkgaeaaGreat
namespace Go.Proofs.YtogjfppkbkgaeaaGreat.Pl
def p8 (s:ByteArray):Bool:=s.toList.isEmpty || aL s
def aU (a b r c d s:ByteArray):Bool:=dG a b && aL r && dG c d && p8 s
def aN (a b r c d s:ByteArray):ByteArray :=
 if aU a b r c d s then
  (if s.toList.isEmpty then au a b ++ ⟨#[35]⟩ ++ r ++ ⟨#[64]⟩ ++ au c d else au a b ++ ⟨#[35]⟩ ++ r ++ ⟨#[64]⟩ ++ au c d ++ ⟨#[35]⟩ ++ s)
 else ⟨#[]⟩
theorem oP {a b r c d s:ByteArray} (h:aU a b r c d s=false):aN a b r c d s=⟨#[]⟩:=by simp [aN,h]
theorem jR {a b r c d s:ByteArray} (h:aU a b r c d s=true) (hs:s.toList.isEmpty=true):aN a b r c d s=au a b ++ ⟨#[35]⟩ ++ r ++ ⟨#[64]⟩ ++ au c d:=by simp [aN,h,hs]
theorem jS {a b r c d s:ByteArray} (h:aU a b r c d s=true) (hs:s.toList.isEmpty=false):aN a b r c d s=au a b ++ ⟨#[35]⟩ ++ r ++ ⟨#[64]⟩ ++ au c d ++ ⟨#[35]⟩ ++ s:=by simp [aN,h,hs]
theorem vD {a b r c d s:ByteArray} (h:dG a b=false):aU a b r c d s=false:=by simp [aU,h]
theorem vF {a b r c d s:ByteArray} (h:aL r=false):aU a b r c d s=false:=by simp [aU,h]
theorem vG {a b r c d s:ByteArray} (h:dG c d=false):aU a b r c d s=false:=by simp [aU,h]
theorem vH {a b r c d s:ByteArray} (h1:dG a b=true) (h2:aL r=true) (h3:dG c d=true):aU a b r c d s=p8 s:=by simp [aU,h1,h2,h3]
theorem iD {a b r c d s:ByteArray} (h:aU a b r c d s=true):dG a b=true∧aL r=true∧dG c d=true∧p8 s=true:=by
 simp [aU] at h; exact ⟨h.1.1.1,h.1.1.2,h.1.2,h.2⟩
theorem vI {s:ByteArray} (h:s.toList.isEmpty=true):s.size=0:=by
 rw [Go.ByteArray.toList_eq] at h;have h2:s.data.toList=[]:=by simpa using h
 have h3:s.data.toList.length=0:=by rw [h2]; rfl
 simpa using h3
theorem zX {s:ByteArray} (h:p8 s=true):s.size≤12:=by
 simp only [p8,Bool.or_eq_true] at h;rcases h with h | h
 ·have:=vI h; omega
 ·exact (kE h).2
end Go.Proofs.YtogjfppkbkgaeaaGreat.Pl
