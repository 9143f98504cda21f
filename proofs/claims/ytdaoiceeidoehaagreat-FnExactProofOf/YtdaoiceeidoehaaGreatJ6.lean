/- What a right schema is, in plain words. -/
import Derived.Test.YtdaoiceeidoehaaGreatJ5
open Go.Proofs.Tryz
set_option maxHeartbeats 80000000
namespace Go.Proofs.YtdaoiceeidoehaaGreat
open Pl
def iC (a b:ByteArray):Bool:=Op.bytesLess a.toList b.toList
def kD (rs:List Rl) (j:Nat):Bool :=
 match rs[j]? with
 | none=>true
 | some r=>aR r.name && (match j with | 0=>true | i + 1=>(rs[i]?.map fun p=>iC p.name r.name).getD true) && aU r.expr
def dB (rs:List Rl):Nat→Bool
 | 0=>true
 | k + 1=>dB rs k && kD rs k
def jE (ts:List Ty) (j:Nat):Bool :=
 match ts[j]? with
 | none=>true
 | some t=>aR t.name && (match j with | 0=>true | i + 1=>(ts[i]?.map fun p=>iC p.name t.name).getD true) && decide (t.rels.length≤6) && dB t.rels t.rels.length
def gZ (ts:List Ty):Nat→Bool
 | 0=>true
 | k + 1=>gZ ts k && jE ts k
theorem qA (rs:List Rl) (k:Nat) (hb:kD rs k=false):∀ n,k < n→dB rs n=false
 | 0,hn=>by omega
 | n + 1,hn=>by
  by_cases e:n=k
  ·subst e; simp [dB,hb]
  ·simp [dB,qA rs k hb n (by omega)]
theorem qB (ts:List Ty) (k:Nat) (hb:jE ts k=false):∀ n,k < n→gZ ts n=false
 | 0,hn=>by omega
 | n + 1,hn=>by
  by_cases e:n=k
  ·subst e; simp [gZ,hb]
  ·simp [gZ,qB ts k hb n (by omega)]
theorem mD {rs:List Rl}:∀ {n:Nat},dB rs n=true→∀ j,j < n→kD rs j=true
 | 0,_,j,hj=>by omega
 | n + 1,h,j,hj=>by
  simp only [dB,R7] at h;by_cases e:j=n
  ·subst e; exact h.2
  ·exact mD h.1 j (by omega)
theorem mE {ts:List Ty}:∀ {n:Nat},gZ ts n=true→∀ j,j < n→jE ts j=true
 | 0,_,j,hj=>by omega
 | n + 1,h,j,hj=>by
  simp only [gZ,R7] at h;by_cases e:j=n
  ·subst e; exact h.2
  ·exact mE h.1 j (by omega)
def aV (ts:List Ty):Bool:=decide (ts.length≤6) && gZ ts ts.length
def om (ts:List Ty) (t:Ty):Bool:=t.rels.all fun r=>aN ts t.name r.expr
def gH (ts:List Ty):Bool:=ts.all (om ts)
def bG (ts:List Ty):Prop:=aV ts=true∧gH ts=true∧∃ f,Sol ts f
theorem JR {rs:List Rl} {n:ByteArray} {es:List Ex} (h:jf rs n=some es):∃ r ∈ rs,r.name=n∧r.expr=es:=by
 induction rs with
 | nil=>simp [jf] at h
 | cons r rs ih =>
  simp only [jf] at h;split at h
  ·rename_i hn; injection h with h; exact ⟨r,by simp,eB.1 hn,h⟩
  ·obtain ⟨q,hq,e⟩:=ih h; exact ⟨q,by simp [hq],e⟩
theorem q8 {ts:List Ty} {ty n:ByteArray} {es:List Ex} (h:dX ts ty n=some es):∃ t ∈ ts,∃ r ∈ t.rels,t.name=ty∧r.name=n∧r.expr=es:=by
 induction ts with
 | nil=>simp [dX] at h
 | cons t ts ih =>
  simp only [dX] at h;split at h
  ·rename_i hn;rcases Option.or_eq_some_iff.1 h with h | ⟨-,h⟩
   ·obtain ⟨r,hr,e⟩:=JR h; exact ⟨t,by simp,r,hr,eB.1 hn,e⟩
   ·obtain ⟨t',ht,e⟩:=ih h; exact ⟨t',by simp [ht],e⟩
  ·obtain ⟨t',ht,e⟩:=ih h; exact ⟨t',by simp [ht],e⟩
theorem oo {ts:List Ty} {k:ByteArray × ByteArray}:k ∈ ai ts ↔ ∃ t ∈ ts,∃ r ∈ t.rels,k=(t.name,r.name):=by
 simp only [ai,iB,Sk,Sa];constructor
 ·rintro ⟨t,ht,r,hr,e⟩; exact ⟨t,ht,r,hr,e.symm⟩
 ·rintro ⟨t,ht,r,hr,e⟩; exact ⟨t,ht,r,hr,e.symm⟩
theorem sU {ts:List Ty} {ty n:ByteArray} (h:(ax ts ty n).isEmpty=false):(ty,n) ∈ ai ts:=by
 unfold ax at h;cases e:dX ts ty n with
 | none=>rw [e] at h; simp at h
 | some es =>
  obtain ⟨t,ht,r,hr,h1,h2,-⟩:=q8 e;exact oo.2 ⟨t,ht,r,hr,by rw [h1,h2]⟩
theorem Qj {ts:List Ty} {rel:ByteArray} {xs:List Al} {g:ByteArray} (h:g ∈ gl ts rel xs):(ax ts g rel).isEmpty=false:=by
 induction xs with
 | nil=>simp [gl] at h
 | cons a xs ih =>
  simp only [gl] at h;split at h
  ·exact ih h
  ·rename_i hn;rcases List.mem_cons.1 h with rfl | h
   ·simpa using hn
   ·exact ih h
theorem JS {neg:Bool} {xs:List Al} {d:Dp} (h:d ∈ bY neg xs):∃ a ∈ xs,a.s.toList.isEmpty=false∧d.typ=a.t∧d.rel=a.s:=by
 induction xs with
 | nil=>simp [bY] at h
 | cons a xs ih =>
  simp only [bY] at h;split at h
  ·obtain ⟨b,hb,e⟩:=ih h; exact ⟨b,by simp [hb],e⟩
  ·rename_i hn;rcases List.mem_cons.1 h with rfl | h
   ·exact ⟨a,by simp,by simpa using hn,rfl,rfl⟩
   ·obtain ⟨b,hb,e⟩:=ih h; exact ⟨b,by simp [hb],e⟩
theorem qC {ts:List Ty} {typ:ByteArray} {es:List Ex} {d:Dp}:∀ {k:Nat},d ∈ aK ts typ es k→∃ i,i < k∧d ∈ fU ts typ es i
 | 0,h=>by simp [aK] at h
 | k + 1,h=>by
  simp only [aK] at h;rcases Sd.1 h with h | h
  ·obtain ⟨i,hi,e⟩:=qC h; exact ⟨i,by omega,e⟩
  ·exact ⟨k,by omega,h⟩
theorem AA {ts:List Ty} {typ:ByteArray} {es:List Ex} (h:aN ts typ es=true):∀ e ∈ es,mg ts e.allow=true∧jV ts typ e=true:=by
 induction es with
 | nil=>intro e he; cases he
 | cons e es ih =>
  simp only [aN] at h;split at h
  ·rename_i hn;rw [R7] at hn;intro q hq;rcases List.mem_cons.1 hq with rfl | hq
   ·exact hn
   ·exact ih h q hq
  ·cases h
theorem kE {ts:List Ty} (h:gH ts=true):Found ts:=by
 intro k hk d hd;unfold gQ nH at hd;have hne:(ax ts k.1 k.2).length ≠ 0:=by
  intro e;rw [e] at hd; simp [aK] at hd
 obtain ⟨es,hes⟩:∃ es,dX ts k.1 k.2=some es:=by
  cases e:dX ts k.1 k.2 with
  | none=>unfold ax at hne; rw [e] at hne; simp at hne
  | some es=>exact ⟨es,rfl⟩
 have ero:ax ts k.1 k.2=es:=by unfold ax; rw [hes]; rfl
 rw [ero] at hd;obtain ⟨t,ht,r,hr,h1,h2,h3⟩:=q8 hes;have hr1:aN ts k.1 es=true:=by
  unfold gH at h;rw [Sg] at h;have:=h t ht;unfold om at this;rw [Sg] at this;have:=this r hr;rw [h1,h3] at this;exact this
 obtain ⟨i,hi,hdi⟩:=qC hd;unfold fU at hdi;split at hdi
 ·cases hdi
 ·rename_i e he;obtain ⟨ra,rn⟩:=AA hr1 e (List.mem_of_getElem? he);rcases Sd.1 hdi with hdi | hdi
  ·obtain ⟨a,ha,hs,e1,e2⟩:=JS hdi;unfold mg at ra;rw [Sg] at ra;have:=ra a ha;unfold nE at this;rw [hs,Bool.false_or,R7] at this;rw [e1,e2];exact sU (by simpa using this.2)
  ·unfold jP at hdi;unfold jV at rn;split at hdi
   ·rename_i h2;rw [if_pos h2] at rn;simp at hdi;subst hdi;exact sU (by simpa using rn)
   ·split at hdi
    ·obtain ⟨g,hg,rfl⟩:=Sa.1 hdi;exact sU (Qj hg)
    ·cases hdi
theorem AB {es:List Ex} (h:aU es=true):1≤es.length∧es.length≤15:=by
 simp only [aU,R7,Sj] at h;exact ⟨h.1.1.1.1.1,h.1.1.1.1.2⟩
theorem JU {es:List Ex} (h:aU es=true) (i:Nat) (hi:i < es.length):dU es.length es[i].kids:=by
 simp only [aU,R7,Sj] at h;have h1:=h.1.1.2;unfold iW at h1;rw [Sg] at h1;have h2:=h1 i (by simpa using hi);unfold ll cZ at h2;rw [R8 hi] at h2;simp only [Option.map_some,Option.getD_some,Sg,R7,Sj] at h2;intro x hx;have:=h2 x hx;omega
theorem bH {rs:List TR} (h:aV (ae rs)=true):rs.length≤6∧(∀ r ∈ rs,r.rows.length≤6)∧∀ r ∈ rs,∀ q ∈ r.rows,aU (ah q.rows)=true∧q.rows.length≤15∧∀ e ∈ q.rows,dU q.rows.length e.e.kids:=by
 simp only [aV,R7,Sj] at h;rw [fO] at h;have hT:∀ r ∈ rs,r.rows.length≤6∧dB (dz r.rows) r.rows.length=true:=by
  intro r hr;obtain ⟨j,hj,rfl⟩:=List.mem_iff_getElem.1 hr;have h1:=mE h.2 j hj;unfold jE at h1;have e:(ae rs)[j]?=some rs[j].p:=by simp [ae,hj]
  rw [e] at h1;simp only [R7,Sj] at h1;have e2:rs[j].p.rels.length=rs[j].rows.length:=by simp [TR.p,dz]
  rw [e2] at h1;exact ⟨h1.1.2,h1.2⟩
 refine ⟨h.1,fun r hr=>(hT r hr).1,fun r hr q hq=>?_⟩;obtain ⟨j,hj,rfl⟩:=List.mem_iff_getElem.1 hq;have h1:=mD (hT r hr).2 j hj;unfold kD at h1;have e:(dz r.rows)[j]?=some r.rows[j].p:=by simp [dz,hj]
 rw [e] at h1;simp only [R7] at h1;have h2:aU (ah r.rows[j].rows)=true:=h1.2;have h3:=AB h2;rw [aJ] at h3;refine ⟨h2,h3.2,fun e he=>?_⟩;obtain ⟨i,hi,rfl⟩:=List.mem_iff_getElem.1 he;have:=JU h2 i (by rw [aJ]; exact hi);have e1:(ah r.rows[j].rows)[i]'(by rw [aJ]; exact hi)=r.rows[j].rows[i].e:=by simp [ah]
 rw [e1] at this;simpa [ah] using this
def assigns (n:Nat):List (ByteArray × ByteArray)→List (ByteArray × ByteArray→Int)
 | []=>[fun _=>0]
 | k::ks=>(assigns n ks).flatMap fun f=>(List.range n).map fun v=>fun y=>if y=k then ((v:Nat):Int) else f y
theorem ve {n:Nat}:∀ {ks:List (ByteArray × ByteArray)} {f:ByteArray × ByteArray→Int},f ∈ assigns n ks→∀ k,0≤f k
 | [],f,h,k=>by simp only [assigns,Sm] at h; rw [h]; exact Int.le_refl _
 | x::ks,f,h,k=>by
  simp only [assigns,Sk,Sa] at h;obtain ⟨g,hg,v,-,rfl⟩:=h;show 0≤(if k=x then ((v:Nat):Int) else g k);split
  ·omega
  ·exact ve hg k
theorem vg {n:Nat} (g:ByteArray × ByteArray→Int):∀ (ks:List (ByteArray × ByteArray)),(∀ k ∈ ks,0≤g k∧g k < n)→∃ f ∈ assigns n ks,∀ k ∈ ks,f k=g k
 | [],_=>⟨fun _=>0,by simp [assigns],fun k hk=>by cases hk⟩
 | x::ks,h=>by
  obtain ⟨f,hf,hfg⟩:=vg g ks fun k hk=>h k (SA _ hk);obtain ⟨h0,h1⟩:=h x (SC ..);refine ⟨fun y=>if y=x then (((g x).toNat:Nat):Int) else f y,?_,fun k hk=>?_⟩
  ·simp only [assigns,Sk,Sa];exact ⟨f,hf,(g x).toNat,List.mem_range.2 (by omega),rfl⟩
  ·show (if k=x then (((g x).toNat:Nat):Int) else f k)=g k;by_cases e:k=x
   ·rw [if_pos e,e]; omega
   ·rw [if_neg e];rcases List.mem_cons.1 hk with h2 | h2
    ·exact absurd h2 e
    ·exact hfg k h2
def Qk (ts:List Ty) (f:ByteArray × ByteArray→Int):Bool:=(ai ts).all fun k=>(gQ ts k).all fun d=>decide (f (d.typ,d.rel) + stepOf d≤f k)
theorem IZ {ts:List Ty} {f:ByteArray × ByteArray→Int}:Qk ts f=true ↔ ∀ k ∈ ai ts,∀ d ∈ gQ ts k,f (d.typ,d.rel) + stepOf d≤f k:=by
 unfold Qk; simp only [Sg,Sj]
def xK (ts:List Ty):List (ByteArray × ByteArray→Int):=(assigns (ai ts).length (ai ts)).filter (Qk ts)
theorem JV {ts:List Ty} {f:ByteArray × ByteArray→Int} (h:f ∈ xK ts):Sol ts f:=by
 unfold xK at h;rw [SH] at h;exact ⟨ve h.1,IZ.1 h.2⟩
theorem L6 {ts:List Ty} {g:ByteArray × ByteArray→Int} (hF:Found ts) (h:Sol ts g) (hb:∀ k ∈ ai ts,g k + 1≤(ai ts).length):∃ f ∈ xK ts,∀ k ∈ ai ts,f k=g k:=by
 obtain ⟨f,hf,hfg⟩:=vg (n:=(ai ts).length) g (ai ts) fun k hk=>⟨h.pos k,by have:=hb k hk; omega⟩;refine ⟨f,?_,hfg⟩;unfold xK;rw [SH];refine ⟨hf,IZ.2 fun k hk d hd=>?_⟩;rw [hfg k hk,hfg _ (hF k hk d hd)];exact h.up k hk d hd
def bI (ts:List Ty):Bool:=aV ts && gH ts && !(xK ts).isEmpty
theorem bq {ts:List Ty}:bI ts=true ↔ bG ts:=by
 unfold bI bG;simp only [R7,Bool.not_eq_true'];constructor
 ·rintro ⟨⟨h1,h2⟩,h3⟩;refine ⟨h1,h2,?_⟩;cases e:xK ts with
  | nil=>rw [e] at h3; cases h3
  | cons f fs=>exact ⟨f,JV (by rw [e]; exact SC ..)⟩
 ·rintro ⟨h1,h2,f,hf⟩;refine ⟨⟨h1,h2⟩,?_⟩;obtain ⟨g,hg,hb⟩:=hf.few (kE h2);obtain ⟨f2,hf2,-⟩:=L6 (kE h2) hg hb;cases e:xK ts with
  | nil=>rw [e] at hf2; cases hf2
  | cons f fs=>rfl
theorem DV {ts:List Ty} (h:bG ts):bI ts=true:=bq.2 h
theorem dQ {ts:List Ty} (h:¬ bG ts):bI ts=false:=by
 cases e:bI ts with
 | false=>rfl
 | true=>exact absurd (bq.1 e) h
set_option linter.unusedVariables false
def I1 (es:List Ex):Prop:=∀ (i:Nat) (h:i < es.length),∀ x ∈ es[i].kids,0≤x∧x < (i:Int)
theorem Gi {es:List Ex} (h:aU es=true):I1 es:=by
 intro i hi x hx;unfold aU at h;simp only [R7,Sj] at h;have h1:=h.1.1.2;unfold iW at h1;rw [Sg] at h1;have h2:=h1 i (by simpa using hi);unfold ll cZ at h2;rw [R8 hi] at h2;simp only [Option.map_some,Option.getD_some,Sg,R7,Sj] at h2;have:=h2 x hx;omega
def hasB (ts:List Ty) (t r:ByteArray):Bool:=!(ax ts t r).isEmpty
theorem Gj {ts:List Ty} (h:aV ts=true) {t:Ty} (ht:t ∈ ts) {r:Rl} (hr:r ∈ t.rels):aR r.name=true∧aU r.expr=true:=by
 unfold aV at h;simp only [R7] at h;obtain ⟨j,hj,rfl⟩:=Sz ht;have h1:=mE h.2 j hj;unfold jE at h1;rw [R8 hj] at h1;simp only [R7] at h1;obtain ⟨k,hk,rfl⟩:=Sz hr;have h2:=mD h1.2 k hk;unfold kD at h2;rw [R8 hk] at h2;simp only [R7] at h2;exact ⟨h2.1.1,h2.2⟩
theorem xL {ts:List Ty} {typ:ByteArray}:∀ {es:List Ex},aN ts typ es=true→∀ e ∈ es,mg ts e.allow=true∧jV ts typ e=true
 | [],_,e,he=>by cases he
 | x::es,h,e,he=>by
  unfold aN at h;split at h
  ·rename_i hc;simp only [R7] at hc;rcases List.mem_cons.1 he with rfl | he
   ·exact hc
   ·exact xL h e he
  ·cases h
theorem OG {ts:List Ty} (h:gH ts=true) {t:Ty} (ht:t ∈ ts) {r:Rl} (hr:r ∈ t.rels) {e:Ex} (he:e ∈ r.expr):mg ts e.allow=true∧jV ts t.name e=true:=by
 have h1:=Sg.1 h t ht;have h2:=Sg.1 h1 r hr;exact xL h2 e he
open Go.ChangeAt Go.ChangeShapes Go.RowKit Go.WideShapes
theorem q9 (c:UInt8) (w:World) :
  Calls prog 153 #[.int .u8 c.toNat] w fun e w'=>e=.returned (.bool (wM c))∧w'=w:=by
 by_cases hl:iM c=true
 ·go_enter func153,ntmps153;go_wp2_with (go_at_call 131; refine (jT _ _).mono ?_; rintro e w' ⟨rfl,rfl⟩);go_ret;exact ⟨af (by simp [wM,hl]),rfl⟩
 ·have hf:iM c=false:=by simpa using hl
  clear hl;go_enter func153,ntmps153;go_wp2_with (go_at_call 131; refine (jT _ _).mono ?_; rintro e w' ⟨rfl,rfl⟩)
  all_goals go_ret
  all_goals refine ⟨af ?_,rfl⟩
  all_goals (rw [Bool.eq_iff_iff]; simp [wM,hf]; omega)
theorem Gl (s:ByteArray) (w:World) (hs:s.size≤maxLen) :
  Calls prog 83 #[.string s] w fun e w'=>e=.returned (.bool (nD s))∧w'=w:=by
 unfold maxLen at hs;by_cases h1:1≤s.size∧s.size≤12
 ·obtain ⟨ha,hb⟩:=h1;go_enter func83,ntmps83;go_wp2
  go_loop [3] (fun i=>∃ k:Nat,k≤s.size∧i=.int .i64 k∧Hid (F6 wM s k=true)) (fun i=>s.size - (intOf i).toNat)
  case atStart=>exact ⟨0,R6 _,rfl,qQ _ _⟩
  case round =>
   obtain ⟨k,hk,rfl,hu⟩:=hrel;by_cases hlt:k < s.size
   ·by_cases hc:wM s[k]=true
    ·have hd:(97≤s[k].toNat∧s[k].toNat≤122) ∨ (48≤s[k].toNat∧s[k].toNat≤57) ∨ s[k].toNat=95:=by simp [wM,iM] at hc; omega
     have HU:Hid (F6 wM s (k + 1)=true):=by show _=_; rw [qR _ _ _ hlt,hc,hu.out]; rfl
     clear hc;rcases hd with ⟨hd1,hd2⟩ | ⟨hd1,hd2⟩ | hd1
     all_goals
      go_wp2;go_round;case rel=>exact ⟨k + 1,by omega,by go_num,HU⟩
      case measure=>simp [intOf]; omega
    ·have hc':wM s[k]=false:=by simpa using hc
     have HB:Hid (qy wM s=false):=wP _ _ _ hlt hc';have hd:s[k].toNat < 48 ∨ (57 < s[k].toNat∧s[k].toNat < 95) ∨ (95 < s[k].toNat∧s[k].toNat < 97) ∨ 122 < s[k].toNat:=by simp [wM,iM] at hc'; omega
     clear hc hc';rcases hd with hd | ⟨hd,hd2⟩ | ⟨hd,hd2⟩ | hd
     all_goals
      have h95:((s[k].toNat:Int) != 95)=true:=by simp; omega
      go_wp2;go_ret;exact ⟨af (by simp [nD,dO,HB.out]),rfl⟩
   ·go_wp2;go_ret;refine ⟨af ?_,rfl⟩;have hall:qy wM s=true:=by rw [← wO wM s k (by omega)]; exact hu.out
    have hl:mf s=true:=by simp [mf]; omega
    simp [nD,dO,hall,hl]
 ·have hn:mf s=false:=by simp [mf]; omega
  have HN:Hid (nD s=false):=by show _=_; simp [nD,dO,hn]
  clear hn;by_cases ha:1≤s.size
  ·have hb:12 < s.size:=by omega
   clear h1;go_enter func83,ntmps83;go_wp2;go_ret;exact ⟨af HN.out.symm,rfl⟩
  ·have ha':s.size < 1:=by omega
   clear h1;go_enter func83,ntmps83;go_wp2;go_ret;exact ⟨af HN.out.symm,rfl⟩
theorem xM (s:ByteArray) (w:World) (hs:s.size≤maxLen) :
  Calls prog 130 #[.string s,.func (Fn.func 153) #[] #[]] w fun e w'=>e=.returned (.bool (dO wM s))∧w'=w:=by
 unfold maxLen at hs;by_cases h1:1≤s.size∧s.size≤12
 ·obtain ⟨ha,hb⟩:=h1;go_enter func130,ntmps130;go_wp2
  go_loop [16] (fun i=>∃ k:Nat,k≤s.size∧i=.int .i64 k∧Hid (F6 wM s k=true)) (fun i=>s.size - (intOf i).toNat)
  case atStart=>exact ⟨0,R6 _,rfl,qQ _ _⟩
  case round =>
   obtain ⟨k,hk,rfl,hu⟩:=hrel;by_cases hlt:k < s.size
   ·by_cases hc:wM s[k]=true
    ·have HU:Hid (F6 wM s (k + 1)=true):=by show _=_; rw [qR _ _ _ hlt,hc,hu.out]; rfl
     go_wp2_with (go_at_call 153; refine (q9 _ _).mono ?_; rintro e w' ⟨rfl,rfl⟩);go_round;case rel=>exact ⟨k + 1,by omega,by go_num,HU⟩
     case measure=>simp [intOf]; omega
    ·have hc':wM s[k]=false:=by simpa using hc
     have HB:Hid (qy wM s=false):=wP _ _ _ hlt hc';clear hc;go_wp2_with (go_at_call 153; refine (q9 _ _).mono ?_; rintro e w' ⟨rfl,rfl⟩);go_ret;exact ⟨af (by simp [dO,HB.out]),rfl⟩
   ·go_wp2;go_ret;refine ⟨af ?_,rfl⟩;have hall:qy wM s=true:=by rw [← wO wM s k (by omega)]; exact hu.out
    have hl:mf s=true:=by simp [mf]; omega
    simp [dO,hall,hl]
 ·have hn:mf s=false:=by simp [mf]; omega
  have HN:Hid (dO wM s=false):=by show _=_; simp [dO,hn]
  clear hn;by_cases ha:1≤s.size
  ·have hb:12 < s.size:=by omega
   clear h1;go_enter func130,ntmps130;go_wp2;go_ret;exact ⟨af HN.out.symm,rfl⟩
  ·have ha':s.size < 1:=by omega
   clear h1;go_enter func130,ntmps130;go_wp2;go_ret;exact ⟨af HN.out.symm,rfl⟩
theorem Gm (s:ByteArray) (w:World) (hs:s.size≤maxLen) :
  Calls prog 129 #[.string s] w fun e w'=>e=.returned (.bool (nD s))∧w'=w:=by
 go_enter func129,ntmps129;go_wp2_with (go_at_call 130; refine (xM _ _ hs).mono ?_; rintro e w' ⟨rfl,rfl⟩);go_ret;exact ⟨rfl,rfl⟩
theorem ed {W w1:World} (hb:Below W.heap.size W w1):(∀ b o,b < W.heap.size→w1.cell? ⟨b,o,none⟩=W.cell? ⟨b,o,none⟩)∧(∀ b o,b < W.heap.size→w1.frozen? ⟨b,o,none⟩=W.frozen? ⟨b,o,none⟩) :=
 ⟨fun b o h=>hb.cell (p:=⟨b,o,none⟩) h,fun b o h=>hb.frozen (p:=⟨b,o,none⟩) h⟩
theorem dM (t i:ByteArray) (w:World) (ht:t.size≤maxLen) (hi:i.size≤maxLen) :
  Calls prog 55 #[.agg #[.string t,.string i]] w fun e w'=>e=.returned (.bool (eH t i))∧Below w.heap.size w w':=by
 by_cases hn:aR t=true
 all_goals
  go_enter func55,ntmps55;go_wp2_with (first | (go_at_call 56; refine (aL _ _ ht).mono ?_; rintro e w' ⟨rfl,rfl⟩) | (go_at_call 83; refine (Gl _ _ hi).mono ?_; rintro e w' ⟨rfl,rfl⟩));go_ret;exact ⟨af (by simp [eH,hn]),(R3 _ _).alloc (R4 _) _⟩
theorem eZ (t i:ByteArray) (w:World) (ht:t.size≤maxLen) (hi:i.size≤maxLen) :
  Calls prog 94 #[.agg #[.string t,.string i]] w fun e w'=>e=.returned (.bool (eH t i))∧Below w.heap.size w w':=by
 by_cases hn:aR t=true
 all_goals
  go_enter func94,ntmps94;go_wp2_with (first | (go_at_call 95; refine (aY _ _ ht).mono ?_; rintro e w' ⟨rfl,rfl⟩) | (go_at_call 129; refine (Gm _ _ hi).mono ?_; rintro e w' ⟨rfl,rfl⟩));go_ret;exact ⟨af (by simp [eH,hn]),(R3 _ _).alloc (R4 _) _⟩
end Go.Proofs.YtdaoiceeidoehaaGreat
namespace Go.Proofs.YtdaoiceeidoehaaGreat.Pl
theorem jw {a b:ByteArray} (h:a=b):Ending.returned (.string a)=.returned (.string b):=by rw [h]
theorem I4 {s:ByteArray} (h:mf s=true):1≤s.size∧s.size≤12:=by simpa [mf] using h
theorem oq {s:ByteArray} (h:aR s=true):1≤s.size∧s.size≤12:=by
 simp [aR,dO] at h; exact I4 h.1.1
theorem Ma {s:ByteArray} (h:nD s=true):1≤s.size∧s.size≤12:=by
 simp [nD,dO] at h; exact I4 h.1
theorem Cf {t i:ByteArray} (h:eH t i=true):t.size≤12∧i.size≤12:=by
 simp [eH] at h; exact ⟨(oq h.1).2,(Ma h.2).2⟩
def aF (t i:ByteArray):ByteArray:=if eH t i then t ++ ⟨#[58]⟩ ++ i else ⟨#[]⟩
theorem ou {t i:ByteArray} (h:eH t i=true):aF t i=t ++ ⟨#[58]⟩ ++ i:=by simp [aF,h]
theorem xN {t i:ByteArray} (h:eH t i=false):aF t i=⟨#[]⟩:=by simp [aF,h]
theorem jX (t i:ByteArray):(aF t i).size≤25:=by
 unfold aF; split
 ·rename_i h;have h2:=Cf h;have e1:(ByteArray.mk #[58]).size=1:=rfl;rw [ByteArray.size_append,ByteArray.size_append,e1];omega
 ·exact R6 _
end Go.Proofs.YtdaoiceeidoehaaGreat.Pl
namespace Go.Proofs.YtdaoiceeidoehaaGreat
open Go.ChangeShapes Go.WideShapes Go.ChangeAt Go.RowKit
open Pl
theorem vV (t i:ByteArray) (w:World) (ht:t.size≤maxLen) (hi:i.size≤maxLen) :
  Calls prog 139 #[.agg #[.string t,.string i]] w fun e w'=>e=.returned (.string (aF t i))∧Below w.heap.size w w':=by
 by_cases hn:eH t i=true
 ·obtain ⟨h1,h2⟩:=Cf hn;have HT:Hid (aF t i=t ++ ⟨#[58]⟩ ++ i):=ou hn;go_enter func139,ntmps139;go_wp2_with (go_at_call 55; refine (dM _ _ _ ht hi).mono ?_; rintro e w' ⟨rfl,hb⟩; obtain ⟨hc,hf⟩:=ed hb);go_ret;exact ⟨jw HT.out.symm,((R3 _ _).alloc (R4 _) _).trans (hb.mono (by simp))⟩
 ·have hn':eH t i=false:=by simpa using hn
  have HT:Hid (aF t i=⟨#[]⟩):=xN hn';clear hn;go_enter func139,ntmps139;go_wp2_with (go_at_call 55; refine (dM _ _ _ ht hi).mono ?_; rintro e w' ⟨rfl,hb⟩; obtain ⟨hc,hf⟩:=ed hb);go_ret;exact ⟨jw HT.out.symm,((R3 _ _).alloc (R4 _) _).trans (hb.mono (by simp))⟩
theorem vW (t i:ByteArray) (w:World) (ht:t.size≤maxLen) (hi:i.size≤maxLen) :
  Calls prog 177 #[.agg #[.string t,.string i]] w fun e w'=>e=.returned (.string (aF t i))∧Below w.heap.size w w':=by
 by_cases hn:eH t i=true
 ·obtain ⟨h1,h2⟩:=Cf hn;have HT:Hid (aF t i=t ++ ⟨#[58]⟩ ++ i):=ou hn;go_enter func177,ntmps177;go_wp2_with (go_at_call 94; refine (eZ _ _ _ ht hi).mono ?_; rintro e w' ⟨rfl,hb⟩; obtain ⟨hc,hf⟩:=ed hb);go_ret;exact ⟨jw HT.out.symm,((R3 _ _).alloc (R4 _) _).trans (hb.mono (by simp))⟩
 ·have hn':eH t i=false:=by simpa using hn
  have HT:Hid (aF t i=⟨#[]⟩):=xN hn';clear hn;go_enter func177,ntmps177;go_wp2_with (go_at_call 94; refine (eZ _ _ _ ht hi).mono ?_; rintro e w' ⟨rfl,hb⟩; obtain ⟨hc,hf⟩:=ed hb);go_ret;exact ⟨jw HT.out.symm,((R3 _ _).alloc (R4 _) _).trans (hb.mono (by simp))⟩
end Go.Proofs.YtdaoiceeidoehaaGreat
namespace Go.Proofs.YtdaoiceeidoehaaGreat.Pl
def sV (s:ByteArray):Bool:=s.toList.isEmpty || aR s
def df (a b r c d s:ByteArray):Bool:=eH a b && aR r && eH c d && sV s
def bu (a b r c d s:ByteArray):ByteArray :=
 if df a b r c d s then
  (if s.toList.isEmpty then aF a b ++ ⟨#[35]⟩ ++ r ++ ⟨#[64]⟩ ++ aF c d else aF a b ++ ⟨#[35]⟩ ++ r ++ ⟨#[64]⟩ ++ aF c d ++ ⟨#[35]⟩ ++ s)
 else ⟨#[]⟩
theorem xO {a b r c d s:ByteArray} (h:df a b r c d s=false):bu a b r c d s=⟨#[]⟩:=by simp [bu,h]
theorem ow {a b r c d s:ByteArray} (h:df a b r c d s=true) (hs:s.toList.isEmpty=true):bu a b r c d s=aF a b ++ ⟨#[35]⟩ ++ r ++ ⟨#[64]⟩ ++ aF c d:=by simp [bu,h,hs]
theorem oz {a b r c d s:ByteArray} (h:df a b r c d s=true) (hs:s.toList.isEmpty=false):bu a b r c d s=aF a b ++ ⟨#[35]⟩ ++ r ++ ⟨#[64]⟩ ++ aF c d ++ ⟨#[35]⟩ ++ s:=by simp [bu,h,hs]
theorem DW {a b r c d s:ByteArray} (h:eH a b=false):df a b r c d s=false:=by simp [df,h]
theorem DX {a b r c d s:ByteArray} (h:aR r=false):df a b r c d s=false:=by simp [df,h]
theorem DY {a b r c d s:ByteArray} (h:eH c d=false):df a b r c d s=false:=by simp [df,h]
theorem DZ {a b r c d s:ByteArray} (h1:eH a b=true) (h2:aR r=true) (h3:eH c d=true):df a b r c d s=sV s:=by simp [df,h1,h2,h3]
theorem kF {a b r c d s:ByteArray} (h:df a b r c d s=true):eH a b=true∧aR r=true∧eH c d=true∧sV s=true:=by
 simp [df] at h; exact ⟨h.1.1.1,h.1.1.2,h.1.2,h.2⟩
theorem xP {s:ByteArray} (h:s.toList.isEmpty=true):s.size=0:=by
 rw [Go.ByteArray.toList_eq] at h;have h2:s.data.toList=[]:=by simpa using h
 have h3:s.data.toList.length=0:=by rw [h2]; rfl
 simpa using h3
theorem I5 {s:ByteArray} (h:sV s=true):s.size≤12:=by
 simp only [sV,Bool.or_eq_true] at h;rcases h with h | h
 ·have:=xP h; omega
 ·exact (oq h).2
end Go.Proofs.YtdaoiceeidoehaaGreat.Pl
