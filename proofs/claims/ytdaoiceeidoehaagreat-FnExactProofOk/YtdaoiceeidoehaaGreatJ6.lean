/- What a right schema is, in plain words. -/
import Derived.Test.YtdaoiceeidoehaaGreatJ5
open Go.Proofs.Tryz
set_option maxHeartbeats 80000000
namespace Go.Proofs.YtdaoiceeidoehaaGreat
open Pl
def fe (a b:ByteArray):Bool:=Op.bytesLess a.toList b.toList
def jE (rs:List Rl) (j:Nat):Bool :=
 match rs[j]? with
 | none=>true
 | some r=>aO r.name && (match j with | 0=>true | i + 1=>(rs[i]?.map fun p=>fe p.name r.name).getD true) && aR r.expr
def dL (rs:List Rl):Nat→Bool
 | 0=>true
 | k + 1=>dL rs k && jE rs k
def iW (ts:List Ty) (j:Nat):Bool :=
 match ts[j]? with
 | none=>true
 | some t=>aO t.name && (match j with | 0=>true | i + 1=>(ts[i]?.map fun p=>fe p.name t.name).getD true) && decide (t.rels.length≤6) && dL t.rels t.rels.length
def gX (ts:List Ty):Nat→Bool
 | 0=>true
 | k + 1=>gX ts k && iW ts k
theorem og (rs:List Rl) (k:Nat) (hb:jE rs k=false):∀ n,k < n→dL rs n=false
 | 0,hn=>by omega
 | n + 1,hn=>by
  by_cases e:n=k
  ·subst e; simp [dL,hb]
  ·simp [dL,og rs k hb n (by omega)]
theorem oh (ts:List Ty) (k:Nat) (hb:iW ts k=false):∀ n,k < n→gX ts n=false
 | 0,hn=>by omega
 | n + 1,hn=>by
  by_cases e:n=k
  ·subst e; simp [gX,hb]
  ·simp [gX,oh ts k hb n (by omega)]
theorem ol {rs:List Rl}:∀ {n:Nat},dL rs n=true→∀ j,j < n→jE rs j=true
 | 0,_,j,hj=>by omega
 | n + 1,h,j,hj=>by
  simp only [dL,Bool.and_eq_true] at h;by_cases e:j=n
  ·subst e; exact h.2
  ·exact ol h.1 j (by omega)
theorem om {ts:List Ty}:∀ {n:Nat},gX ts n=true→∀ j,j < n→iW ts j=true
 | 0,_,j,hj=>by omega
 | n + 1,h,j,hj=>by
  simp only [gX,Bool.and_eq_true] at h;by_cases e:j=n
  ·subst e; exact h.2
  ·exact om h.1 j (by omega)
def aS (ts:List Ty):Bool:=decide (ts.length≤6) && gX ts ts.length
def lJ (ts:List Ty) (t:Ty):Bool:=t.rels.all fun r=>aJ ts t.name r.expr
def iD (ts:List Ty):Bool:=ts.all (lJ ts)
def aW (ts:List Ty):Prop:=aS ts=true∧iD ts=true∧∃ f,Sol ts f
theorem FI {rs:List Rl} {n:ByteArray} {es:List Ex} (h:ik rs n=some es):∃ r ∈ rs,r.name=n∧r.expr=es:=by
 induction rs with
 | nil=>simp [ik] at h
 | cons r rs ih =>
  simp only [ik] at h;split at h
  ·rename_i hn; injection h with h; exact ⟨r,by simp,dJ.1 hn,h⟩
  ·obtain ⟨q,hq,e⟩:=ih h; exact ⟨q,by simp [hq],e⟩
theorem uw {ts:List Ty} {ty n:ByteArray} {es:List Ex} (h:dM ts ty n=some es):∃ t ∈ ts,∃ r ∈ t.rels,t.name=ty∧r.name=n∧r.expr=es:=by
 induction ts with
 | nil=>simp [dM] at h
 | cons t ts ih =>
  simp only [dM] at h;split at h
  ·rename_i hn;rcases Option.or_eq_some_iff.1 h with h | ⟨-,h⟩
   ·obtain ⟨r,hr,e⟩:=FI h; exact ⟨t,by simp,r,hr,dJ.1 hn,e⟩
   ·obtain ⟨t',ht,e⟩:=ih h; exact ⟨t',by simp [ht],e⟩
  ·obtain ⟨t',ht,e⟩:=ih h; exact ⟨t',by simp [ht],e⟩
theorem lN {ts:List Ty} {k:ByteArray × ByteArray}:k ∈ aj ts ↔ ∃ t ∈ ts,∃ r ∈ t.rels,k=(t.name,r.name):=by
 simp only [aj,il,List.mem_flatMap,List.mem_map];constructor
 ·rintro ⟨t,ht,r,hr,e⟩; exact ⟨t,ht,r,hr,e.symm⟩
 ·rintro ⟨t,ht,r,hr,e⟩; exact ⟨t,ht,r,hr,e.symm⟩
theorem qE {ts:List Ty} {ty n:ByteArray} (h:(aC ts ty n).isEmpty=false):(ty,n) ∈ aj ts:=by
 unfold aC at h;cases e:dM ts ty n with
 | none=>rw [e] at h; simp at h
 | some es =>
  obtain ⟨t,ht,r,hr,h1,h2,-⟩:=uw e;exact lN.2 ⟨t,ht,r,hr,by rw [h1,h2]⟩
theorem KY {ts:List Ty} {rel:ByteArray} {xs:List Al} {g:ByteArray} (h:g ∈ gl ts rel xs):(aC ts g rel).isEmpty=false:=by
 induction xs with
 | nil=>simp [gl] at h
 | cons a xs ih =>
  simp only [gl] at h;split at h
  ·exact ih h
  ·rename_i hn;rcases List.mem_cons.1 h with rfl | h
   ·simpa using hn
   ·exact ih h
theorem FJ {neg:Bool} {xs:List Al} {d:Dp} (h:d ∈ bq neg xs):∃ a ∈ xs,a.s.toList.isEmpty=false∧d.typ=a.t∧d.rel=a.s:=by
 induction xs with
 | nil=>simp [bq] at h
 | cons a xs ih =>
  simp only [bq] at h;split at h
  ·obtain ⟨b,hb,e⟩:=ih h; exact ⟨b,by simp [hb],e⟩
  ·rename_i hn;rcases List.mem_cons.1 h with rfl | h
   ·exact ⟨a,by simp,by simpa using hn,rfl,rfl⟩
   ·obtain ⟨b,hb,e⟩:=ih h; exact ⟨b,by simp [hb],e⟩
theorem oo {ts:List Ty} {typ:ByteArray} {es:List Ex} {d:Dp}:∀ {k:Nat},d ∈ aH ts typ es k→∃ i,i < k∧d ∈ iP ts typ es i
 | 0,h=>by simp [aH] at h
 | k + 1,h=>by
  simp only [aH] at h;rcases List.mem_append.1 h with h | h
  ·obtain ⟨i,hi,e⟩:=oo h; exact ⟨i,by omega,e⟩
  ·exact ⟨k,by omega,h⟩
theorem xw {ts:List Ty} {typ:ByteArray} {es:List Ex} (h:aJ ts typ es=true):∀ e ∈ es,lw ts e.allow=true∧jK ts typ e=true:=by
 induction es with
 | nil=>intro e he; cases he
 | cons e es ih =>
  simp only [aJ] at h;split at h
  ·rename_i hn;rw [Bool.and_eq_true] at hn;intro q hq;rcases List.mem_cons.1 hq with rfl | hq
   ·exact hn
   ·exact ih h q hq
  ·cases h
theorem jf {ts:List Ty} (h:iD ts=true):Found ts:=by
 intro k hk d hd;unfold fM lG at hd;have hne:(aC ts k.1 k.2).length ≠ 0:=by
  intro e;rw [e] at hd; simp [aH] at hd
 obtain ⟨es,hes⟩:∃ es,dM ts k.1 k.2=some es:=by
  cases e:dM ts k.1 k.2 with
  | none=>unfold aC at hne; rw [e] at hne; simp at hne
  | some es=>exact ⟨es,rfl⟩
 have ero:aC ts k.1 k.2=es:=by unfold aC; rw [hes]; rfl
 rw [ero] at hd;obtain ⟨t,ht,r,hr,h1,h2,h3⟩:=uw hes;have hr1:aJ ts k.1 es=true:=by
  unfold iD at h;rw [List.all_eq_true] at h;have:=h t ht;unfold lJ at this;rw [List.all_eq_true] at this;have:=this r hr;rw [h1,h3] at this;exact this
 obtain ⟨i,hi,hdi⟩:=oo hd;unfold iP at hdi;split at hdi
 ·cases hdi
 ·rename_i e he;obtain ⟨ra,rn⟩:=xw hr1 e (List.mem_of_getElem? he);rcases List.mem_append.1 hdi with hdi | hdi
  ·obtain ⟨a,ha,hs,e1,e2⟩:=FJ hdi;unfold lw at ra;rw [List.all_eq_true] at ra;have:=ra a ha;unfold kU at this;rw [hs,Bool.false_or,Bool.and_eq_true] at this;rw [e1,e2];exact qE (by simpa using this.2)
  ·unfold jR at hdi;unfold jK at rn;split at hdi
   ·rename_i h2;rw [if_pos h2] at rn;simp at hdi;subst hdi;exact qE (by simpa using rn)
   ·split at hdi
    ·obtain ⟨g,hg,rfl⟩:=List.mem_map.1 hdi;exact qE (KY hg)
    ·cases hdi
theorem xx {es:List Ex} (h:aR es=true):1≤es.length∧es.length≤15:=by
 simp only [aR,Bool.and_eq_true,decide_eq_true_eq] at h;exact ⟨h.1.1.1.1.1,h.1.1.1.1.2⟩
theorem FK {es:List Ex} (h:aR es=true) (i:Nat) (hi:i < es.length):bQ es.length es[i].kids:=by
 simp only [aR,Bool.and_eq_true,decide_eq_true_eq] at h;have h1:=h.1.1.2;unfold gW at h1;rw [List.all_eq_true] at h1;have h2:=h1 i (by simpa using hi);unfold jL lI at h2;rw [List.getElem?_eq_getElem hi] at h2;simp only [Option.map_some,Option.getD_some,List.all_eq_true,Bool.and_eq_true,decide_eq_true_eq] at h2;intro x hx;have:=h2 x hx;omega
theorem aX {rs:List TR} (h:aS (ae rs)=true):rs.length≤6∧(∀ r ∈ rs,r.rows.length≤6)∧∀ r ∈ rs,∀ q ∈ r.rows,aR (ah q.rows)=true∧q.rows.length≤15∧∀ e ∈ q.rows,bQ q.rows.length e.e.kids:=by
 simp only [aS,Bool.and_eq_true,decide_eq_true_eq] at h;rw [eZ] at h;have hT:∀ r ∈ rs,r.rows.length≤6∧dL (cB r.rows) r.rows.length=true:=by
  intro r hr;obtain ⟨j,hj,rfl⟩:=List.mem_iff_getElem.1 hr;have h1:=om h.2 j hj;unfold iW at h1;have e:(ae rs)[j]?=some rs[j].p:=by simp [ae,hj]
  rw [e] at h1;simp only [Bool.and_eq_true,decide_eq_true_eq] at h1;have e2:rs[j].p.rels.length=rs[j].rows.length:=by simp [TR.p,cB]
  rw [e2] at h1;exact ⟨h1.1.2,h1.2⟩
 refine ⟨h.1,fun r hr=>(hT r hr).1,fun r hr q hq=>?_⟩;obtain ⟨j,hj,rfl⟩:=List.mem_iff_getElem.1 hq;have h1:=ol (hT r hr).2 j hj;unfold jE at h1;have e:(cB r.rows)[j]?=some r.rows[j].p:=by simp [cB,hj]
 rw [e] at h1;simp only [Bool.and_eq_true] at h1;have h2:aR (ah r.rows[j].rows)=true:=h1.2;have h3:=xx h2;rw [aI] at h3;refine ⟨h2,h3.2,fun e he=>?_⟩;obtain ⟨i,hi,rfl⟩:=List.mem_iff_getElem.1 he;have:=FK h2 i (by rw [aI]; exact hi);have e1:(ah r.rows[j].rows)[i]'(by rw [aI]; exact hi)=r.rows[j].rows[i].e:=by simp [ah]
 rw [e1] at this;simpa [ah] using this
def assigns (n:Nat):List (ByteArray × ByteArray)→List (ByteArray × ByteArray→Int)
 | []=>[fun _=>0]
 | k::ks=>(assigns n ks).flatMap fun f=>(List.range n).map fun v=>fun y=>if y=k then ((v:Nat):Int) else f y
theorem rJ {n:Nat}:∀ {ks:List (ByteArray × ByteArray)} {f:ByteArray × ByteArray→Int},f ∈ assigns n ks→∀ k,0≤f k
 | [],f,h,k=>by simp only [assigns,List.mem_singleton] at h; rw [h]; exact Int.le_refl _
 | x::ks,f,h,k=>by
  simp only [assigns,List.mem_flatMap,List.mem_map] at h;obtain ⟨g,hg,v,-,rfl⟩:=h;show 0≤(if k=x then ((v:Nat):Int) else g k);split
  ·omega
  ·exact rJ hg k
theorem rM {n:Nat} (g:ByteArray × ByteArray→Int):∀ (ks:List (ByteArray × ByteArray)),(∀ k ∈ ks,0≤g k∧g k < n)→∃ f ∈ assigns n ks,∀ k ∈ ks,f k=g k
 | [],_=>⟨fun _=>0,by simp [assigns],fun k hk=>by cases hk⟩
 | x::ks,h=>by
  obtain ⟨f,hf,hfg⟩:=rM g ks fun k hk=>h k (List.mem_cons_of_mem _ hk);obtain ⟨h0,h1⟩:=h x (List.mem_cons_self ..);refine ⟨fun y=>if y=x then (((g x).toNat:Nat):Int) else f y,?_,fun k hk=>?_⟩
  ·simp only [assigns,List.mem_flatMap,List.mem_map];exact ⟨f,hf,(g x).toNat,List.mem_range.2 (by omega),rfl⟩
  ·show (if k=x then (((g x).toNat:Nat):Int) else f k)=g k;by_cases e:k=x
   ·rw [if_pos e,e]; omega
   ·rw [if_neg e];rcases List.mem_cons.1 hk with h2 | h2
    ·exact absurd h2 e
    ·exact hfg k h2
def KZ (ts:List Ty) (f:ByteArray × ByteArray→Int):Bool:=(aj ts).all fun k=>(fM ts k).all fun d=>decide (f (d.typ,d.rel) + stepOf d≤f k)
theorem EF {ts:List Ty} {f:ByteArray × ByteArray→Int}:KZ ts f=true ↔ ∀ k ∈ aj ts,∀ d ∈ fM ts k,f (d.typ,d.rel) + stepOf d≤f k:=by
 unfold KZ; simp only [List.all_eq_true,decide_eq_true_eq]
def uy (ts:List Ty):List (ByteArray × ByteArray→Int):=(assigns (aj ts).length (aj ts)).filter (KZ ts)
theorem FL {ts:List Ty} {f:ByteArray × ByteArray→Int} (h:f ∈ uy ts):Sol ts f:=by
 unfold uy at h;rw [List.mem_filter] at h;exact ⟨rJ h.1,EF.1 h.2⟩
theorem H7 {ts:List Ty} {g:ByteArray × ByteArray→Int} (hF:Found ts) (h:Sol ts g) (hb:∀ k ∈ aj ts,g k + 1≤(aj ts).length):∃ f ∈ uy ts,∀ k ∈ aj ts,f k=g k:=by
 obtain ⟨f,hf,hfg⟩:=rM (n:=(aj ts).length) g (aj ts) fun k hk=>⟨h.pos k,by have:=hb k hk; omega⟩;refine ⟨f,?_,hfg⟩;unfold uy;rw [List.mem_filter];refine ⟨hf,EF.2 fun k hk d hd=>?_⟩;rw [hfg k hk,hfg _ (hF k hk d hd)];exact h.up k hk d hd
def bR (ts:List Ty):Bool:=aS ts && iD ts && !(uy ts).isEmpty
theorem bu {ts:List Ty}:bR ts=true ↔ aW ts:=by
 unfold bR aW;simp only [Bool.and_eq_true,Bool.not_eq_true'];constructor
 ·rintro ⟨⟨h1,h2⟩,h3⟩;refine ⟨h1,h2,?_⟩;cases e:uy ts with
  | nil=>rw [e] at h3; cases h3
  | cons f fs=>exact ⟨f,FL (by rw [e]; exact List.mem_cons_self ..)⟩
 ·rintro ⟨h1,h2,f,hf⟩;refine ⟨⟨h1,h2⟩,?_⟩;obtain ⟨g,hg,hb⟩:=hf.few (jf h2);obtain ⟨f2,hf2,-⟩:=H7 (jf h2) hg hb;cases e:uy ts with
  | nil=>rw [e] at hf2; cases hf2
  | cons f fs=>rfl
theorem Ap {ts:List Ty} (h:aW ts):bR ts=true:=bu.2 h
theorem dB {ts:List Ty} (h:¬ aW ts):bR ts=false:=by
 cases e:bR ts with
 | false=>rfl
 | true=>exact absurd (bu.1 e) h
set_option linter.unusedVariables false
def EG (es:List Ex):Prop:=∀ (i:Nat) (h:i < es.length),∀ x ∈ es[i].kids,0≤x∧x < (i:Int)
theorem CQ {es:List Ex} (h:aR es=true):EG es:=by
 intro i hi x hx;unfold aR at h;simp only [Bool.and_eq_true,decide_eq_true_eq] at h;have h1:=h.1.1.2;unfold gW at h1;rw [List.all_eq_true] at h1;have h2:=h1 i (by simpa using hi);unfold jL lI at h2;rw [List.getElem?_eq_getElem hi] at h2;simp only [Option.map_some,Option.getD_some,List.all_eq_true,Bool.and_eq_true,decide_eq_true_eq] at h2;have:=h2 x hx;omega
open Go.ChangeAt Go.ChangeShapes Go.RowKit Go.WideShapes
theorem pu (c:UInt8) (w:World) :
  Calls prog 153 #[.int .u8 c.toNat] w fun e w'=>e=.returned (.bool (sS c))∧w'=w:=by
 by_cases hl:gQ c=true
 ·go_enter func153,ntmps153;go_wp2_with (go_at_call 131; refine (iY _ _).mono ?_; rintro e w' ⟨rfl,rfl⟩);go_ret;exact ⟨af (by simp [sS,hl]),rfl⟩
 ·have hf:gQ c=false:=by simpa using hl
  clear hl;go_enter func153,ntmps153;go_wp2_with (go_at_call 131; refine (iY _ _).mono ?_; rintro e w' ⟨rfl,rfl⟩)
  all_goals go_ret
  all_goals refine ⟨af ?_,rfl⟩
  all_goals (rw [Bool.eq_iff_iff]; simp [sS,hf]; omega)
theorem CR (s:ByteArray) (w:World) (hs:s.size≤maxLen) :
  Calls prog 83 #[.string s] w fun e w'=>e=.returned (.bool (kR s))∧w'=w:=by
 unfold maxLen at hs;by_cases h1:1≤s.size∧s.size≤12
 ·obtain ⟨ha,hb⟩:=h1;go_enter func83,ntmps83;go_wp2
  go_loop [3] (fun i=>∃ k:Nat,k≤s.size∧i=.int .i64 k∧Hid (Cy sS s k=true)) (fun i=>s.size - (intOf i).toNat)
  case atStart=>exact ⟨0,Nat.zero_le _,rfl,oN _ _⟩
  case round =>
   obtain ⟨k,hk,rfl,hu⟩:=hrel;by_cases hlt:k < s.size
   ·by_cases hc:sS s[k]=true
    ·have hd:(97≤s[k].toNat∧s[k].toNat≤122) ∨ (48≤s[k].toNat∧s[k].toNat≤57) ∨ s[k].toNat=95:=by simp [sS,gQ] at hc; omega
     have HU:Hid (Cy sS s (k + 1)=true):=by show _=_; rw [oO _ _ _ hlt,hc,hu.out]; rfl
     clear hc;rcases hd with ⟨hd1,hd2⟩ | ⟨hd1,hd2⟩ | hd1
     all_goals
      go_wp2;go_round;case rel=>exact ⟨k + 1,by omega,by go_num,HU⟩
      case measure=>simp [intOf]; omega
    ·have hc':sS s[k]=false:=by simpa using hc
     have HB:Hid (nY sS s=false):=sW _ _ _ hlt hc';have hd:s[k].toNat < 48 ∨ (57 < s[k].toNat∧s[k].toNat < 95) ∨ (95 < s[k].toNat∧s[k].toNat < 97) ∨ 122 < s[k].toNat:=by simp [sS,gQ] at hc'; omega
     clear hc hc';rcases hd with hd | ⟨hd,hd2⟩ | ⟨hd,hd2⟩ | hd
     all_goals
      have h95:((s[k].toNat:Int) != 95)=true:=by simp; omega
      go_wp2;go_ret;exact ⟨af (by simp [kR,dx,HB.out]),rfl⟩
   ·go_wp2;go_ret;refine ⟨af ?_,rfl⟩;have hall:nY sS s=true:=by rw [← sV sS s k (by omega)]; exact hu.out
    have hl:kg s=true:=by simp [kg]; omega
    simp [kR,dx,hall,hl]
 ·have hn:kg s=false:=by simp [kg]; omega
  have HN:Hid (kR s=false):=by show _=_; simp [kR,dx,hn]
  clear hn;by_cases ha:1≤s.size
  ·have hb:12 < s.size:=by omega
   clear h1;go_enter func83,ntmps83;go_wp2;go_ret;exact ⟨af HN.out.symm,rfl⟩
  ·have ha':s.size < 1:=by omega
   clear h1;go_enter func83,ntmps83;go_wp2;go_ret;exact ⟨af HN.out.symm,rfl⟩
theorem uz (s:ByteArray) (w:World) (hs:s.size≤maxLen) :
  Calls prog 130 #[.string s,.func (Fn.func 153) #[] #[]] w fun e w'=>e=.returned (.bool (dx sS s))∧w'=w:=by
 unfold maxLen at hs;by_cases h1:1≤s.size∧s.size≤12
 ·obtain ⟨ha,hb⟩:=h1;go_enter func130,ntmps130;go_wp2
  go_loop [16] (fun i=>∃ k:Nat,k≤s.size∧i=.int .i64 k∧Hid (Cy sS s k=true)) (fun i=>s.size - (intOf i).toNat)
  case atStart=>exact ⟨0,Nat.zero_le _,rfl,oN _ _⟩
  case round =>
   obtain ⟨k,hk,rfl,hu⟩:=hrel;by_cases hlt:k < s.size
   ·by_cases hc:sS s[k]=true
    ·have HU:Hid (Cy sS s (k + 1)=true):=by show _=_; rw [oO _ _ _ hlt,hc,hu.out]; rfl
     go_wp2_with (go_at_call 153; refine (pu _ _).mono ?_; rintro e w' ⟨rfl,rfl⟩);go_round;case rel=>exact ⟨k + 1,by omega,by go_num,HU⟩
     case measure=>simp [intOf]; omega
    ·have hc':sS s[k]=false:=by simpa using hc
     have HB:Hid (nY sS s=false):=sW _ _ _ hlt hc';clear hc;go_wp2_with (go_at_call 153; refine (pu _ _).mono ?_; rintro e w' ⟨rfl,rfl⟩);go_ret;exact ⟨af (by simp [dx,HB.out]),rfl⟩
   ·go_wp2;go_ret;refine ⟨af ?_,rfl⟩;have hall:nY sS s=true:=by rw [← sV sS s k (by omega)]; exact hu.out
    have hl:kg s=true:=by simp [kg]; omega
    simp [dx,hall,hl]
 ·have hn:kg s=false:=by simp [kg]; omega
  have HN:Hid (dx sS s=false):=by show _=_; simp [dx,hn]
  clear hn;by_cases ha:1≤s.size
  ·have hb:12 < s.size:=by omega
   clear h1;go_enter func130,ntmps130;go_wp2;go_ret;exact ⟨af HN.out.symm,rfl⟩
  ·have ha':s.size < 1:=by omega
   clear h1;go_enter func130,ntmps130;go_wp2;go_ret;exact ⟨af HN.out.symm,rfl⟩
theorem CS (s:ByteArray) (w:World) (hs:s.size≤maxLen) :
  Calls prog 129 #[.string s] w fun e w'=>e=.returned (.bool (kR s))∧w'=w:=by
 go_enter func129,ntmps129;go_wp2_with (go_at_call 130; refine (uz _ _ hs).mono ?_; rintro e w' ⟨rfl,rfl⟩);go_ret;exact ⟨rfl,rfl⟩
theorem dH {W w1:World} (hb:Below W.heap.size W w1):(∀ b o,b < W.heap.size→w1.cell? ⟨b,o,none⟩=W.cell? ⟨b,o,none⟩)∧(∀ b o,b < W.heap.size→w1.frozen? ⟨b,o,none⟩=W.frozen? ⟨b,o,none⟩) :=
 ⟨fun b o h=>hb.cell (p:=⟨b,o,none⟩) h,fun b o h=>hb.frozen (p:=⟨b,o,none⟩) h⟩
theorem cZ (t i:ByteArray) (w:World) (ht:t.size≤maxLen) (hi:i.size≤maxLen) :
  Calls prog 55 #[.agg #[.string t,.string i]] w fun e w'=>e=.returned (.bool (eF t i))∧Below w.heap.size w w':=by
 by_cases hn:aO t=true
 all_goals
  go_enter func55,ntmps55;go_wp2_with (first | (go_at_call 56; refine (ay _ _ ht).mono ?_; rintro e w' ⟨rfl,rfl⟩) | (go_at_call 83; refine (CR _ _ hi).mono ?_; rintro e w' ⟨rfl,rfl⟩));go_ret;exact ⟨af (by simp [eF,hn]),(Below.refl _ _).alloc (Nat.le_refl _) _⟩
theorem d9 (t i:ByteArray) (w:World) (ht:t.size≤maxLen) (hi:i.size≤maxLen) :
  Calls prog 94 #[.agg #[.string t,.string i]] w fun e w'=>e=.returned (.bool (eF t i))∧Below w.heap.size w w':=by
 by_cases hn:aO t=true
 all_goals
  go_enter func94,ntmps94;go_wp2_with (first | (go_at_call 95; refine (az _ _ ht).mono ?_; rintro e w' ⟨rfl,rfl⟩) | (go_at_call 129; refine (CS _ _ hi).mono ?_; rintro e w' ⟨rfl,rfl⟩));go_ret;exact ⟨af (by simp [eF,hn]),(Below.refl _ _).alloc (Nat.le_refl _) _⟩
end Go.Proofs.YtdaoiceeidoehaaGreat
namespace Go.Proofs.YtdaoiceeidoehaaGreat.Pl
theorem iE {a b:ByteArray} (h:a=b):Ending.returned (.string a)=.returned (.string b):=by rw [h]
theorem EH {s:ByteArray} (h:kg s=true):1≤s.size∧s.size≤12:=by simpa [kg] using h
theorem lQ {s:ByteArray} (h:aO s=true):1≤s.size∧s.size≤12:=by
 simp [aO,dx] at h; exact EH h.1.1
theorem H8 {s:ByteArray} (h:kR s=true):1≤s.size∧s.size≤12:=by
 simp [kR,dx] at h; exact EH h.1
theorem yP {t i:ByteArray} (h:eF t i=true):t.size≤12∧i.size≤12:=by
 simp [eF] at h; exact ⟨(lQ h.1).2,(H8 h.2).2⟩
def aA (t i:ByteArray):ByteArray:=if eF t i then t ++ ⟨#[58]⟩ ++ i else ⟨#[]⟩
theorem lT {t i:ByteArray} (h:eF t i=true):aA t i=t ++ ⟨#[58]⟩ ++ i:=by simp [aA,h]
theorem uA {t i:ByteArray} (h:eF t i=false):aA t i=⟨#[]⟩:=by simp [aA,h]
theorem ja (t i:ByteArray):(aA t i).size≤25:=by
 unfold aA; split
 ·rename_i h;have h2:=yP h;have e1:(ByteArray.mk #[58]).size=1:=rfl;rw [ByteArray.size_append,ByteArray.size_append,e1];omega
 ·exact Nat.zero_le _
end Go.Proofs.YtdaoiceeidoehaaGreat.Pl
namespace Go.Proofs.YtdaoiceeidoehaaGreat
open Go.ChangeShapes Go.WideShapes Go.ChangeAt Go.RowKit
open Pl
theorem si (t i:ByteArray) (w:World) (ht:t.size≤maxLen) (hi:i.size≤maxLen) :
  Calls prog 139 #[.agg #[.string t,.string i]] w fun e w'=>e=.returned (.string (aA t i))∧Below w.heap.size w w':=by
 by_cases hn:eF t i=true
 ·obtain ⟨h1,h2⟩:=yP hn;have HT:Hid (aA t i=t ++ ⟨#[58]⟩ ++ i):=lT hn;go_enter func139,ntmps139;go_wp2_with (go_at_call 55; refine (cZ _ _ _ ht hi).mono ?_; rintro e w' ⟨rfl,hb⟩; obtain ⟨hc,hf⟩:=dH hb);go_ret;exact ⟨iE HT.out.symm,((Below.refl _ _).alloc (Nat.le_refl _) _).trans (hb.mono (by simp))⟩
 ·have hn':eF t i=false:=by simpa using hn
  have HT:Hid (aA t i=⟨#[]⟩):=uA hn';clear hn;go_enter func139,ntmps139;go_wp2_with (go_at_call 55; refine (cZ _ _ _ ht hi).mono ?_; rintro e w' ⟨rfl,hb⟩; obtain ⟨hc,hf⟩:=dH hb);go_ret;exact ⟨iE HT.out.symm,((Below.refl _ _).alloc (Nat.le_refl _) _).trans (hb.mono (by simp))⟩
theorem sj (t i:ByteArray) (w:World) (ht:t.size≤maxLen) (hi:i.size≤maxLen) :
  Calls prog 177 #[.agg #[.string t,.string i]] w fun e w'=>e=.returned (.string (aA t i))∧Below w.heap.size w w':=by
 by_cases hn:eF t i=true
 ·obtain ⟨h1,h2⟩:=yP hn;have HT:Hid (aA t i=t ++ ⟨#[58]⟩ ++ i):=lT hn;go_enter func177,ntmps177;go_wp2_with (go_at_call 94; refine (d9 _ _ _ ht hi).mono ?_; rintro e w' ⟨rfl,hb⟩; obtain ⟨hc,hf⟩:=dH hb);go_ret;exact ⟨iE HT.out.symm,((Below.refl _ _).alloc (Nat.le_refl _) _).trans (hb.mono (by simp))⟩
 ·have hn':eF t i=false:=by simpa using hn
  have HT:Hid (aA t i=⟨#[]⟩):=uA hn';clear hn;go_enter func177,ntmps177;go_wp2_with (go_at_call 94; refine (d9 _ _ _ ht hi).mono ?_; rintro e w' ⟨rfl,hb⟩; obtain ⟨hc,hf⟩:=dH hb);go_ret;exact ⟨iE HT.out.symm,((Below.refl _ _).alloc (Nat.le_refl _) _).trans (hb.mono (by simp))⟩
end Go.Proofs.YtdaoiceeidoehaaGreat
namespace Go.Proofs.YtdaoiceeidoehaaGreat.Pl
def qF (s:ByteArray):Bool:=s.toList.isEmpty || aO s
def bi (a b r c d s:ByteArray):Bool:=eF a b && aO r && eF c d && qF s
def aT (a b r c d s:ByteArray):ByteArray :=
 if bi a b r c d s then
  (if s.toList.isEmpty then aA a b ++ ⟨#[35]⟩ ++ r ++ ⟨#[64]⟩ ++ aA c d else aA a b ++ ⟨#[35]⟩ ++ r ++ ⟨#[64]⟩ ++ aA c d ++ ⟨#[35]⟩ ++ s)
 else ⟨#[]⟩
theorem uC {a b r c d s:ByteArray} (h:bi a b r c d s=false):aT a b r c d s=⟨#[]⟩:=by simp [aT,h]
theorem lV {a b r c d s:ByteArray} (h:bi a b r c d s=true) (hs:s.toList.isEmpty=true):aT a b r c d s=aA a b ++ ⟨#[35]⟩ ++ r ++ ⟨#[64]⟩ ++ aA c d:=by simp [aT,h,hs]
theorem lW {a b r c d s:ByteArray} (h:bi a b r c d s=true) (hs:s.toList.isEmpty=false):aT a b r c d s=aA a b ++ ⟨#[35]⟩ ++ r ++ ⟨#[64]⟩ ++ aA c d ++ ⟨#[35]⟩ ++ s:=by simp [aT,h,hs]
theorem Aq {a b r c d s:ByteArray} (h:eF a b=false):bi a b r c d s=false:=by simp [bi,h]
theorem Ar {a b r c d s:ByteArray} (h:aO r=false):bi a b r c d s=false:=by simp [bi,h]
theorem Au {a b r c d s:ByteArray} (h:eF c d=false):bi a b r c d s=false:=by simp [bi,h]
theorem Av {a b r c d s:ByteArray} (h1:eF a b=true) (h2:aO r=true) (h3:eF c d=true):bi a b r c d s=qF s:=by simp [bi,h1,h2,h3]
theorem jg {a b r c d s:ByteArray} (h:bi a b r c d s=true):eF a b=true∧aO r=true∧eF c d=true∧qF s=true:=by
 simp [bi] at h; exact ⟨h.1.1.1,h.1.1.2,h.1.2,h.2⟩
theorem uD {s:ByteArray} (h:s.toList.isEmpty=true):s.size=0:=by
 rw [Go.ByteArray.toList_eq] at h;have h2:s.data.toList=[]:=by simpa using h
 have h3:s.data.toList.length=0:=by rw [h2]; rfl
 simpa using h3
theorem EJ {s:ByteArray} (h:qF s=true):s.size≤12:=by
 simp only [qF,Bool.or_eq_true] at h;rcases h with h | h
 ·have:=uD h; omega
 ·exact (lQ h).2
end Go.Proofs.YtdaoiceeidoehaaGreat.Pl
