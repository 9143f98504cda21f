/- A right schema's table: what lies in it is what the document's look finds. -/
import Derived.Test.YtajkkeikihhejaaGreatSq
import Derived.Test.YtajkkeikihhejaaGreatJ9
open Go.Proofs.Tryz
set_option maxHeartbeats 80000000
namespace Go.Proofs.YtajkkeikihhejaaGreat
open Pl
theorem Rt:∀ x:List UInt8,Op.bytesLess x x=false
 | []=>rfl
 | a::x=>by simp [Op.bytesLess,Rt x]
theorem Ru:∀ x y z:List UInt8,Op.bytesLess x y=true→Op.bytesLess y z=true→Op.bytesLess x z=true
 | [],_,[],h,k=>by cases ‹List UInt8› <;> simp [Op.bytesLess] at h k
 | [],_,_::_,_,_=>rfl
 | _::_,[],_,h,_=>by simp [Op.bytesLess] at h
 | _::_,_::_,[],_,k=>by simp [Op.bytesLess] at k
 | a::x,b::y,c::z,h,k=>by
  simp only [Op.bytesLess,Bool.or_eq_true,TU,Ud,beq_iff_eq] at h k ⊢;rcases h with h | ⟨h,h'⟩
  ·rcases k with k | ⟨k,k'⟩
   ·exact .inl (UInt8.lt_trans h k)
   exact .inl (k ▸ h)
  rcases k with k | ⟨k,k'⟩
  ·exact .inl (h ▸ k)
  exact .inr ⟨h.trans k,Ru x y z h' k'⟩
theorem ry {f:Nat→ByteArray} {n:Nat} (h:∀ i,i + 1 < n→je (f i) (f (i + 1))=true):∀ i j,i < j→j < n→f i ≠ f j:=by
 have h2:∀ d i,i + d + 1 < n→je (f i) (f (i + d + 1))=true:=by
  intro d
  induction d with
  | zero=>intro i hi; exact h i (by omega)
  | succ d ih =>
   intro i hi;have h3:=ih i (by omega);have h4:=h (i + d + 1) (by omega);exact Ru _ _ _ h3 h4
 intro i j hij hj e;have h5:=h2 (j - i - 1) i (by omega);have e2:i + (j - i - 1) + 1=j:=by omega
 rw [e2,e] at h5;unfold je at h5;rw [Rt] at h5;cases h5
theorem lu {rs:List TR} (h:bf (ae rs)=true) (k:Nat) (hk:k < rs.length):aP rs[k].name=true∧(∀ i (hi:i < rs.length),k=i + 1→je rs[i].name rs[k].name=true)∧dG (eD rs[k].rows) rs[k].rows.length=true:=by
 simp only [bf,TU,Ud] at h;rw [kX] at h;have h1:=oZ h.2 k hk;unfold kv at h1;have e:(ae rs)[k]?=some rs[k].p:=by simp [ae,hk]
 rw [e] at h1;simp only [TU,Ud] at h1;have e2:rs[k].p.rels.length=rs[k].rows.length:=by simp [TR.p,eD]
 rw [e2] at h1;refine ⟨h1.1.1.1,fun i hi hki=>?_,h1.2⟩;subst hki;have h2:=h1.1.1.2;have e3:(ae rs)[i]?=some rs[i].p:=by simp [ae,hi]
 simp only [e3,Option.map_some,Option.getD_some] at h2;exact h2
theorem CE {rs:List RR} {n:Nat} (h:dG (eD rs) n=true) (k:Nat) (hk:k < rs.length) (hn:k < n):aP rs[k].name=true∧(∀ i (hi:i < rs.length),k=i + 1→je rs[i].name rs[k].name=true)∧aK (aj rs[k].rows)=true:=by
 have h1:=oW h k hn;unfold l6 at h1;have e:(eD rs)[k]?=some rs[k].p:=by simp [eD,hk]
 rw [e] at h1;simp only [TU] at h1;refine ⟨h1.1.1,fun i hi hki=>?_,h1.2⟩;subst hki;have h2:=h1.1.2;have e3:(eD rs)[i]?=some rs[i].p:=by simp [eD,hi]
 simp only [e3,Option.map_some,Option.getD_some] at h2;exact h2
theorem FR {rs:List TR} (h:bf (ae rs)=true) {t t':TR} (ht:t ∈ rs) (ht':t' ∈ rs) (e:t.name=t'.name):t=t':=by
 obtain ⟨i,hi,rfl⟩:=List.mem_iff_getElem.1 ht;obtain ⟨j,hj,rfl⟩:=List.mem_iff_getElem.1 ht';have hne:=ry (f:=fun k=>(rs[k]?.map TR.name).getD ByteArray.empty) (n:=rs.length) (fun k hk=>by
  have h0:k < rs.length:=by omega
  simp only [TY hk,TY h0,Option.map_some,Option.getD_some];exact (lu h (k + 1) hk).2.1 k h0 rfl)
 by_cases hij:i=j
 ·subst hij; rfl
 exfalso;rcases Nat.lt_or_gt_of_ne hij with hl | hl
 ·have:=hne i j hl hj; simp [hi,hj] at this; exact this e
 have:=hne j i hl hi; simp [hi,hj] at this; exact this e.symm
theorem FT {rs:List RR} (h:dG (eD rs) rs.length=true) {t t':RR} (ht:t ∈ rs) (ht':t' ∈ rs) (e:t.name=t'.name):t=t':=by
 obtain ⟨i,hi,rfl⟩:=List.mem_iff_getElem.1 ht;obtain ⟨j,hj,rfl⟩:=List.mem_iff_getElem.1 ht';have hne:=ry (f:=fun k=>(rs[k]?.map RR.name).getD ByteArray.empty) (n:=rs.length) (fun k hk=>by
  have h0:k < rs.length:=by omega
  simp only [TY hk,TY h0,Option.map_some,Option.getD_some];exact (CE h (k + 1) hk hk).2.1 k h0 rfl)
 by_cases hij:i=j
 ·subst hij; rfl
 exfalso;rcases Nat.lt_or_gt_of_ne hij with hl | hl
 ·have:=hne i j hl hj; simp [hi,hj] at this; exact this e
 have:=hne j i hl hi; simp [hi,hj] at this; exact this e.symm
theorem Iq {t:ByteArray} {M:ByteArray × ByteArray→Option Value} {qs:List RR} {k:ByteArray × ByteArray} {v:Value} (h:kN t M qs k=some v):M k=some v ∨ ∃ q ∈ qs,k=(t,q.name)∧v=q.sl:=by
 induction qs generalizing M with
 | nil=>exact .inl h
 | cons q qs ih =>
  simp only [kN] at h;rcases ih h with h | ⟨q',hq,e⟩
  ·by_cases e:k=(t,q.name)
   ·rw [e,dZ] at h; injection h with h; exact .inr ⟨q,by simp,e,h.symm⟩
   rw [cz e] at h; exact .inl h
  exact .inr ⟨q',by simp [hq],e⟩
theorem xG {t:ByteArray} {M:ByteArray × ByteArray→Option Value} {qs:List RR} {k:ByteArray × ByteArray} (h:(M k).isSome=true ∨ ∃ q ∈ qs,k=(t,q.name)):(kN t M qs k).isSome=true:=by
 induction qs generalizing M with
 | nil=>rcases h with h | ⟨q,hq,-⟩; exact h; cases hq
 | cons q qs ih =>
  simp only [kN];refine ih ?_;by_cases e:k=(t,q.name)
  ·left; rw [e,dZ]; rfl
  rcases h with h | ⟨q',hq,e'⟩
  ·left; rw [cz e]; exact h
  rcases List.mem_cons.1 hq with rfl | hq
  ·exact absurd e' e
  exact .inr ⟨q',hq,e'⟩
theorem Ei {M:ByteArray × ByteArray→Option Value} {rs:List TR} {k:ByteArray × ByteArray} {v:Value} (h:eF M rs k=some v):M k=some v ∨ ∃ t ∈ rs,∃ q ∈ t.rows,k=(t.name,q.name)∧v=q.sl:=by
 induction rs generalizing M with
 | nil=>exact .inl h
 | cons t rs ih =>
  simp only [eF] at h;rcases ih h with h | ⟨t',ht,e⟩
  ·rcases Iq h with h | ⟨q,hq,e⟩
   ·exact .inl h
   exact .inr ⟨t,by simp,q,hq,e⟩
  exact .inr ⟨t',by simp [ht],e⟩
theorem si {M:ByteArray × ByteArray→Option Value} {rs:List TR} {k:ByteArray × ByteArray} (h:(M k).isSome=true ∨ ∃ t ∈ rs,∃ q ∈ t.rows,k=(t.name,q.name)):(eF M rs k).isSome=true:=by
 induction rs generalizing M with
 | nil=>rcases h with h | ⟨q,hq,-⟩; exact h; cases hq
 | cons t rs ih =>
  simp only [eF];refine ih ?_;rcases h with h | ⟨t',ht,q,hq,e⟩
  ·exact .inl (xG (.inl h))
  rcases List.mem_cons.1 ht with rfl | ht
  ·exact .inl (xG (.inr ⟨q,hq,e⟩))
  exact .inr ⟨t',ht,q,hq,e⟩
theorem Ir {rs:List Rl} {n:ByteArray} (h:jN rs n=none):∀ r ∈ rs,r.name ≠ n:=by
 induction rs with
 | nil=>intro r hr; cases hr
 | cons r rs ih =>
  simp only [jN] at h;split at h
  ·cases h
  rename_i hn;intro q hq;rcases List.mem_cons.1 hq with rfl | hq
  ·exact fun e=>hn (fo.2 e)
  exact ih h q hq
theorem Lf {ts:List Ty} {ty n:ByteArray} (h:fH ts ty n=none):∀ t ∈ ts,t.name=ty→∀ r ∈ t.rels,r.name ≠ n:=by
 induction ts with
 | nil=>intro t ht; cases ht
 | cons t ts ih =>
  simp only [fH] at h;intro q hq e;split at h
  ·rw [Option.or_eq_none_iff] at h;rcases List.mem_cons.1 hq with rfl | hq
   ·exact Ir h.1
   exact ih h.2 q hq e
  rename_i hn;rcases List.mem_cons.1 hq with rfl | hq
  ·exact absurd (fo.2 e) hn
  exact ih h q hq e
theorem nX {rs:List TR} {ty n:ByteArray} {es:List Ex} (h:fH (ae rs) ty n=some es):∃ t ∈ rs,∃ q ∈ t.rows,t.name=ty∧q.name=n∧aj q.rows=es:=by
 obtain ⟨t,ht,r,hr,e1,e2,e3⟩:=qC h;obtain ⟨t',ht',rfl⟩:=Ue.1 ht;obtain ⟨q,hq,rfl⟩:=Ue.1 hr;exact ⟨t',ht',q,hq,e1,e2,e3⟩
structure Tab (rs:List TR) (M:ByteArray × ByteArray→Option Value):Prop where
 no:∀ k,M k=none→fH (ae rs) k.1 k.2=none
 yes:∀ k v,M k=some v→∃ t ∈ rs,∃ q ∈ t.rows,k=(t.name,q.name)∧v=q.sl∧fH (ae rs) k.1 k.2=some (aj q.rows)∧aK (aj q.rows)=true
theorem wD {rs:List TR} (h:bf (ae rs)=true):Tab rs (nW rs) where
 no k hk:=by
  cases e:fH (ae rs) k.1 k.2 with
  | none=>rfl
  | some es =>
   obtain ⟨t,ht,q,hq,e1,e2,-⟩:=nX e;have:=si (M:=fun _=>none) (rs:=rs) (k:=k) (.inr ⟨t,ht,q,hq,by rw [e1,e2]⟩);unfold nW at hk;rw [hk] at this; cases this
 yes k v hk:=by
  rcases Ei hk with h0 | ⟨t,ht,q,hq,e,ev⟩
  ·cases h0
  have hSF:=bq h;refine ⟨t,ht,q,hq,e,ev,?_,(hSF.2.2 t ht q hq).1⟩;cases e2:fH (ae rs) k.1 k.2 with
  | none=>exact (Lf e2 t.p (List.mem_map_of_mem ht) (by rw [e]; rfl) q.p (List.mem_map_of_mem hq) (by rw [e]; rfl)).elim
  | some es =>
   obtain ⟨t',ht',q',hq',e3,e4,e5⟩:=nX e2;have h1:t'=t:=FR h ht' ht (by rw [e3,e]);subst h1;obtain ⟨i,hi,rfl⟩:=List.mem_iff_getElem.1 ht;have h2:q'=q:=FT (lu h i hi).2.2 hq' hq (by rw [e4,e]);subst h2;rw [e5]
theorem Tab.some_iff {rs:List TR} {M:ByteArray × ByteArray→Option Value} (h:Tab rs M) (k:ByteArray × ByteArray):(M k).isSome=!(aA (ae rs) k.1 k.2).isEmpty:=by
 unfold aA;cases e:M k with
 | none=>rw [h.no k e]; rfl
 | some v =>
  obtain ⟨t,ht,q,hq,-,-,e1,e2⟩:=h.yes k v e;rw [e1];have:=lm e2;cases e3:aj q.rows with
  | nil=>rw [e3] at this; simp at this
  | cons x xs=>rfl
open Go.ChangeAt Go.ChangeShapes Go.Maps Go.RowKit Go.WideShapes
theorem lw (w:af):(zeroValue 33).run prog w=.ok (.slice none 0 0) w:=by kernel_rfl
theorem yH (b n:Nat) (M:ByteArray × ByteArray→Option Value) (t r:bF) (w:af) (ht:t.size≤maxLen) (hr:r.size≤maxLen) (hV:aM dQ prog 94 w b n M) :
  Calls prog 184 #[.map (some b),.string t,.string r] w fun e w'=>e=.returned (.bool (M (t,r)).isSome)∧w'=w:=by
 obtain ⟨kl,hkl⟩:=jy (t,r) ht hr;have HV:Hid (aM dQ prog 94 w b n M):=hV;have Vl:Hid (keyOf prog 94 (dQ (t,r))=some kl):=hkl;clear hkl hV;go_enter func184,ntmps184;go_wp2_with (first | (at_lookup; refine bZ _ rfl _ _ 91 rfl 94 33 ib underlying91 (lw _) b n M rfl HV.out (t,r) kl rfl Vl.out ?_) | go_in);go_ret;exact ⟨rfl,rfl⟩
theorem CF (a:Al) (w:af) :
  Calls prog 243 #[.agg #[.string a.t,.string a.s]] w fun e w'=>e=.returned (.bool (!a.s.toList.isEmpty))∧ag w w':=by
 cases h:a.s.toList.isEmpty;case true=>
  go_enter func243,ntmps243;go_wp2;go_ret;exact ⟨rfl,(TT _ _).alloc (TS _) _⟩
 go_enter func243,ntmps243;go_wp2;go_ret;exact ⟨rfl,(TT _ _).alloc (TS _) _⟩
theorem xH (xs:List Al) (k:Nat) (h:k < xs.length):(xs.drop k).any (fun a=>!a.s.toList.isEmpty)=((!xs[k].s.toList.isEmpty) || (xs.drop (k + 1)).any (fun a=>!a.s.toList.isEmpty)):=by
 rw [Un h]; rfl
theorem BA (ad:Option Addr) (cap:Nat) (xs:List Al) (w:af) (hlen:xs.length≤1048576) (hs:jM w ad xs) :
  Calls prog 253 #[.slice ad xs.length cap,.func (Fn.func 243) #[] #[]] w fun e w'=>(∃ r:Int,e=.returned (.int .i64 r)∧decide (0≤r)=xs.any (fun a=>!a.s.toList.isEmpty))∧ag w w':=by
 have HS:=az hs;clear hs;go_enter func253,ntmps253;go_wp2_with fail;go_loopw [8] (fun i wr=>∃ k:Nat,k≤xs.length∧i=.int .i64 k∧Hid ((xs.drop k).any (fun a=>!a.s.toList.isEmpty)=xs.any (fun a=>!a.s.toList.isEmpty))∧Hid (ag w wr)) (fun i _=>xs.length - (intOf i).toNat);case atStart=>exact ⟨0,TW _,rfl,rfl,TT _ _⟩
 obtain ⟨k,hk,rfl,HP,HB⟩:=hrel;by_cases hlt:k < xs.length
 ·rcases HS.out.below HB.out with rfl | ⟨b,off,rfl,hb,hr⟩
  ·simp at hlt
  obtain ⟨t0,t1⟩:=hr k hlt;have hk1:=bB k;have hk2:(k:Int) < (xs.length:Int):=by omega
  clear hr;cases he:xs[k].s.toList.isEmpty;case false=>
   have HN:Hid (xs.any (fun a=>!a.s.toList.isEmpty)=true):=by show _=_; rw [← HP.out,xH _ _ hlt,he]; rfl
   go_wp2_with (go_at_call 243; refine (CF xs[k] _).mono ?_; rintro e w' ⟨he2,hbx⟩; rw [he] at he2; subst he2);go_ret;exact ⟨⟨k,rfl,by rw [HN.out]; simp⟩,HB.out.trans (hbx.mono HB.out.size)⟩
  have UI:Hid ((xs.drop (k + 1)).any (fun a=>!a.s.toList.isEmpty)=xs.any (fun a=>!a.s.toList.isEmpty)):=by show _=_; rw [← HP.out,xH _ _ hlt,he]; rfl
  go_wp2_with (go_at_call 243; refine (CF xs[k] _).mono ?_; rintro e w' ⟨he2,hbx⟩; rw [he] at he2; subst he2);go_roundw;case rel=>exact ⟨k + 1,by omega,by go_num,UI,HB.out.trans (hbx.mono HB.out.size)⟩
  simp [intOf] <;> omega
 have HN:Hid (xs.any (fun a=>!a.s.toList.isEmpty)=false):=by show _=_; rw [← HP.out,List.drop_of_length_le (by omega)]; rfl
 go_wp2;go_ret;exact ⟨⟨-1,rfl,by rw [HN.out]; simp⟩,HB.out⟩
theorem wE (ad:Option Addr) (cap:Nat) (xs:List Al) (w:af) (hlen:xs.length≤1048576) (hs:jM w ad xs) :
  Calls prog 242 #[.slice ad xs.length cap,.func (Fn.func 243) #[] #[]] w fun e w'=>e=.returned (.bool (xs.any (fun a=>!a.s.toList.isEmpty)))∧ag w w':=by
 go_enter func242,ntmps242;go_wp2_with fail;refine (BA ad cap xs _ hlen hs).mono ?_;rintro e w' ⟨⟨r,rfl,hr⟩,hbx⟩;have HR:Hid (decide (0≤r)=xs.any (fun a=>!a.s.toList.isEmpty)):=hr;clear hr hs;go_wp2;go_ret;exact ⟨by rw [← HR.out]; rfl,hbx⟩
theorem Oc (xs:List Al):(!xs.any fun a=>!a.s.toList.isEmpty)=xs.all fun a=>a.s.toList.isEmpty:=by
 induction xs with
 | nil=>rfl
 | cons a xs ih=>simp only [List.any_cons,List.all_cons,Bool.not_or,Bool.not_not,ih]
set_option maxRecDepth 100000 in
theorem uJ (ad:Option Addr) (cap:Nat) (rs:List ER) (w:af) (hlen:rs.length≤1048576) (hs:iH w ad rs) (hl:∀ r ∈ rs,r.e.light) :
  Calls prog 224 #[.slice ad rs.length cap] w fun e w'=>e=.returned (.bool (bu (aj rs)))∧ag w w':=by
 by_cases h1:rs.length=1
 ·obtain ⟨r,rfl⟩:∃ r,rs=[r]:=List.length_eq_one_iff.1 h1;rcases hs with h | ⟨b,off,rfl,hb,hr,hok⟩
  ·cases h
  obtain ⟨t0,t1,t2,t3,t4⟩:=hr 0 (by simp);simp only [Nat.zero_mul,Nat.add_zero,List.getElem_cons_zero] at t0 t1 t2 t3 t4;have Vz:Hid (r.ok w):=hok r (by simp);obtain ⟨lg,-⟩:=hl r (by simp);clear hr hok h1;simp only [List.length_cons,List.length_nil,Um];by_cases hq:r.e.kind=1
  ·have HD:Hid (bu (aj [r])=!r.e.allow.any fun a=>!a.s.toList.isEmpty):=by show _=_; rw [Oc]; simp [bu,aj,hq]
   have YX:(r.e.kind == 1)=true:=by simpa using hq
   go_enter func224,ntmps224;go_wp2_with (go_at_call 242; refine (wE _ _ r.e.allow _ lg (Vz.out.1.below ((TT _ _)))).mono ?_; rintro e w' ⟨rfl,hbx⟩);go_ret;exact ⟨by rw [HD.out]; rfl,hbx⟩
  have HD:Hid (bu (aj [r])=false):=by show _=_; simp [bu,aj,hq]
  have YX:(r.e.kind == 1)=false:=by simpa using hq
  go_enter func224,ntmps224;go_wp2;go_ret;exact ⟨by rw [HD.out]; rfl,TT _ _⟩
 have HD:Hid (bu (aj rs)=false):=by
  show _=_;rcases rs with _ | ⟨r,_ | ⟨r2,rs⟩⟩
  ·rfl
  ·simp at h1
  rfl
 have h2:((rs.length:Int) == 1)=false:=by
  have:¬ ((rs.length:Int)=1):=by omega
  simpa using this
 clear hs;go_enter func224,ntmps224;go_wp2;go_ret;exact ⟨by rw [HD.out]; rfl,TT _ _⟩
end Go.Proofs.YtajkkeikihhejaaGreat
