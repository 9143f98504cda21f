/- Contract of the program's table of relations. -/
import Derived.Test.YtajkkeikihhejaaGreatSq
import Derived.Test.YtajkkeikihhejaaGreatJ10
open Go.Proofs.Tryz
set_option maxHeartbeats 80000000
namespace Go.Proofs.YtajkkeikihhejaaGreat
open ChangeShapes WideShapes ChangeAt RowKit Maps
open Pl
def RR.sl(q:RR):Value:=.slice q.ad q.rows.length q.cap
def lc(t:ByteArray)(M:ByteArray×ByteArray->Option Value):List RR->ByteArray×ByteArray->Option Value
 | []=>M
 | q::qs=>lc t (lu M (t,q.name) (some q.sl)) qs
def fo(M:ByteArray×ByteArray->Option Value):List TR->ByteArray×ByteArray->Option Value
 | []=>M
 | t::ts=>fo (lc t.name M t.rows) ts
def oZ(rs:Q06):ByteArray×ByteArray->Option Value:=fo (fun _=>none) rs
theorem EJ(t:bQ)(M:ByteArray×ByteArray->Option Value)(xs ys:Q07):lc t M (xs++ys)=lc t (lc t M xs) ys:=by
 induction xs generalizing M with
 | nil=>rfl
 | cons q qs ih=>simp only[VC,lc];exact ih _
theorem Ai(M:ByteArray×ByteArray->Option Value)(xs ys:Q06):fo M (xs++ys)=fo (fo M xs) ys:=by
 induction xs generalizing M with
 | nil=>rfl
 | cons q qs ih=>simp only[VC,fo];exact ih _
theorem Je(t:bQ)(M:ByteArray×ByteArray->Option Value)(qs:Q07)(j:Nat)(h:j<qs.length):lc t M (qs.take (j+1))=lu (lc t M (qs.take j)) (t,qs[j].name) (some qs[j].sl):=by
 rw[UX h,EJ];rfl
theorem EK(M:ByteArray×ByteArray->Option Value)(rs:Q06)(k:Nat)(h:k<rs.length):fo M (rs.take (k+1))=lc rs[k].name (fo M (rs.take k)) rs[k].rows:=by
 rw[UX h,Ai];rfl
set_option maxRecDepth 100000 in
theorem yj(ad:Q02)(cap:Nat)(rs:Q06)(w:af)(hlen:rs.length<=6)(hs:kU w ad rs)(hrl:∀r∈rs,r.rows.length<=6)(hf:∀r∈rs,r.fits):
  Calls prog 53 #[.slice ad rs.length cap] w fun e w'=>e=.returned (.map (some w.heap.size))/\aK dV prog 94 w' w.heap.size 36 (oZ rs)/\ae w w':=by
 have HS:=aC hs;have HRL:Hid (∀r∈rs,r.rows.length<=6):=hrl;have Wl:=aC hf;have HM0:Hid (aK dV prog 94 (w.alloc (.map #[] 0)) w.heap.size 0 (fun _=>none)):=lK _ _ _ w;have HB0:Hid (ae w (w.alloc (.map #[] 0))):=(UV _ _).alloc (UU _) _;clear hs hrl hf;have hmm:=@run_makeMap prog;go_enter func53,ntmps53;go_wp2_with fail;go_loopw[11] (fun i wr=>∃k:Nat,k<=rs.length/\i=.int .i64 k/\Hid (aK dV prog 94 wr w.heap.size (k*6) (fo (fun _=>none) (rs.take k)))/\Hid (ae w wr)) (fun i _=>rs.length-(intOf i).toNat);case atStart=>exact⟨0,UY _,rfl,HM0,HB0⟩
 clear HM0 HB0 hmm;obtain⟨k,hk,rfl,HM,HB⟩:=hrel;by_cases hlt:k<rs.length
 ·rcases HS.out.below HB.out with rfl|⟨b,off,rfl,hb,hr,hok⟩
  ·simp at hlt
  obtain⟨t0,t1⟩:=hr k hlt;have hk1:=bG k;have hk2:(k:Int)<(rs.length:Int):=by omega
  have h6:rs[k].rows.length<=6:=HRL.out _ (UR hlt);have z0:rs[k].name.size<=maxLen:=(Wl.out _ (UR hlt)).1;have XP:Hid (∀q∈rs[k].rows,q.fits):=(Wl.out _ (UR hlt)).2.2;clear hr hok;obtain⟨W1,hW1⟩:∃W1,W1=wr.alloc (.cells #[.string rs[k].name,.slice rs[k].ad rs[k].rows.length rs[k].cap] 127):=⟨_,rfl⟩;have hal:ae wr W1:=by rw[hW1];exact(UV _ _).alloc (UU _) _
  have Zc:Hid (aK dV prog 94 W1 w.heap.size (k*6) (fo (fun _=>none) (rs.take k))):=HM.out.below hal;have HB1:=jR HB hal;have Xr:Hid (wr.heap.size<W1.heap.size/\W1.cell? ⟨wr.heap.size,0,none⟩=some (.string rs[k].name)):=⟨by rw[hW1];simp,by rw[hW1];simp⟩;have hgw:w.heap.size<wr.heap.size:=HM.out.lt;clear HM hal;go_wp2_with fail;rw[<-hW1];clear hW1 t0 t1 HB;obtain⟨wo,hwo⟩:∃wo,wo=wr:=⟨_,rfl⟩;subst hwo;go_loopw[18] (fun i w2=>∃j:Nat,j<=rs[k].rows.length/\i=.int .i64 j/\Hid (aK dV prog 94 w2 w.heap.size (k*6+j) (lc rs[k].name (fo (fun _=>none) (rs.take k)) (rs[k].rows.take j)))/\Hid (ae w w2)/\Hid (wo.heap.size<w2.heap.size/\w2.cell? ⟨wo.heap.size,0,none⟩=some (.string rs[k].name))) (fun i _=>rs[k].rows.length-(intOf i).toNat);case atStart=>exact⟨0,UY _,rfl,Zc,HB1,Xr⟩
  clear Zc HB1 Xr;obtain⟨j,hj,rfl,HM,HB,HC⟩:=hrel;by_cases hjl:j<rs[k].rows.length
  ·rcases HS.out.below HB.out with hnil|⟨b',off',he,hb2,hr,hok⟩
   ·rw[hnil]at hlt;simp at hlt
   injection he with he;injection he with he1 he2;subst he1;subst he2;have ok:=hok rs[k] (UR hlt);rcases ok with hnil|⟨b2,Wz,had,hbb,hr2,-⟩
   ·rw[hnil]at hjl;simp at hjl
   obtain⟨q0,q1⟩:=hr2 j hjl;have z1:rs[k].rows[j].name.size<=maxLen:=(XP.out _ (UR hjl)).1;have hj1:=bG j;have hj2:(j:Int)<(rs[k].rows.length:Int):=by omega
   obtain⟨kl,hkl⟩:=jE (rs[k].name,rs[k].rows[j].name) z0 z1;have Xh:Hid (keyOf prog 94 (dV (rs[k].name,rs[k].rows[j].name))=some kl):=hkl;obtain⟨W2,hW2⟩:∃W2,W2=wr.alloc (.cells #[.string rs[k].rows[j].name,.slice rs[k].rows[j].ad rs[k].rows[j].rows.length rs[k].rows[j].cap] 147):=⟨_,rfl⟩;have hal:ae wr W2:=by rw[hW2];exact(UV _ _).alloc (UU _) _
   have WS:Hid (aK dV prog 94 W2 w.heap.size (k*6+j) (lc rs[k].name (fo (fun _=>none) (rs.take k)) (rs[k].rows.take j))):=HM.out.below hal;have HB2:=jR HB hal;have hc1:=aH hal HC.out.1 HC.out.2;have WV:Hid (wo.heap.size<W2.heap.size/\W2.cell? ⟨wo.heap.size,0,none⟩=some (.string rs[k].name)):=⟨UT HC.out.1 hal.size,hc1⟩;have g0:W2.cell? ⟨wr.heap.size,0,none⟩=some (.string rs[k].rows[j].name):=by rw[hW2];simp
   have g1:W2.cell? ⟨wr.heap.size,1,none⟩=some (.slice rs[k].rows[j].ad rs[k].rows[j].rows.length rs[k].rows[j].cap):=by rw[hW2];simp
   have hsz:wo.heap.size<wr.heap.size:=HC.out.1;have hc0:=HC.out.2;rw[had];clear hr hok hr2 hkl HM hal HC;go_wp2_with(first|(at_mapUpdate;rw[<-hW2];refine ku _ rfl _ _ _ 91 rfl 94 33 iU uL underlying91 w.heap.size (k*6+j) _ rfl WS.out (by unfold maxLen;omega) (rs[k].name,rs[k].rows[j].name) kl rfl Xh.out _ rfl ?_;intro w3 hV3 hg3)|go_in);have HM4:Hid (aK dV prog 94 w3 w.heap.size (k*6+(j+1)) (lc rs[k].name (fo (fun _=>none) (rs.take k)) (rs[k].rows.take (j+1)))):=by
    show aK _ _ _ _ _ _ _;rw[Je _ _ _ _ hjl];exact hV3
   have XF:Hid (ae w w3):=HB2.out.grown hg3 HB2.out.size (fun i hi=>by injection hi with hi;omega);have HC4:Hid (wo.heap.size<w3.heap.size/\w3.cell? ⟨wo.heap.size,0,none⟩=some (.string rs[k].name)):=⟨UT WV.out.1 hg3.size,by rw[hg3.cell_far _ WV.out.1 (by simp;omega)];exact WV.out.2⟩;clear hV3 hg3 hW2 WS HB2 WV g0 g1 q0 q1 hc0 hc1;go_wp2;go_roundw;case rel=>exact⟨j+1,by omega,by go_num,HM4,XF,HC4⟩
   simp[intOf]<;>omega
  obtain rfl:j=rs[k].rows.length:=by omega
  have HM4:Hid (aK dV prog 94 wr w.heap.size ((k+1)*6) (fo (fun _=>none) (rs.take (k+1)))):=by
   show aK _ _ _ _ _ _ _;have:=HM.out;rw[Va]at this;rw[EK _ _ _ hlt];exact this.mono (by omega)
  clear HM;go_wp2;go_roundw;case rel=>exact⟨k+1,by omega,by go_num,HM4,HB⟩
  simp[intOf]<;>omega
 obtain rfl:k=rs.length:=by omega
 have HM4:Hid (aK dV prog 94 wr w.heap.size 36 (oZ rs)):=by
  show aK _ _ _ _ _ _ _;have:=HM.out;rw[Va]at this;exact this.mono (by omega)
 go_wp2;go_ret;exact⟨rfl,HM4.out,HB.out⟩
theorem SA:∀x:List UInt8,Op.bytesLess x x=false
 | []=>rfl
 | a::x=>by simp[Op.bytesLess,SA x]
theorem SB:∀x y z:List UInt8,Op.bytesLess x y=true->Op.bytesLess y z=true->Op.bytesLess x z=true
 | [],_,[],h,k=>by cases ‹List UInt8› <;> simp [Op.bytesLess] at h k
 | [],_,_::_,_,_=>rfl
 | _::_,[],_,h,_=>by simp[Op.bytesLess]at h
 | _::_,_::_,[],_,k=>by simp[Op.bytesLess]at k
 | a::x,b::y,c::z,h,k=>by
  simp only[Op.bytesLess,Bool.or_eq_true,UW,U3,beq_iff_eq]at h k ⊢;rcases h with h|⟨h,h'⟩
  ·rcases k with k|⟨k,k'⟩
   ·exact .inl (UInt8.lt_trans h k)
   exact .inl (k ▸ h)
  rcases k with k|⟨k,k'⟩
  ·exact .inl (h ▸ k)
  exact .inr ⟨h.trans k,SB x y z h' k'⟩
theorem rM{f:Nat->ByteArray}{n:Nat}(h:∀i,i+1<n->jm (f i) (f (i+1))=true):∀i j,i<j->j<n->f i≠f j:=by
 have h2:∀d i,i+d+1<n->jm (f i) (f (i+d+1))=true:=by
  intro d
  induction d with
  | zero=>intro i hi;exact h i (by omega)
  | succ d ih =>
   intro i hi;have h3:=ih i (by omega);have h4:=h (i+d+1) (by omega);exact SB _ _ _ h3 h4
 intro i j hij hj e;have h5:=h2 (j-i-1) i (by omega);have e2:i+(j-i-1)+1=j:=by omega
 rw[e2,e]at h5;unfold jm at h5;rw[SA]at h5;cases h5
theorem lQ{rs:Q06}(h:bu (ag rs)=true)(k:Nat)(hk:k<rs.length):aT rs[k].name=true/\(∀i (hi:i<rs.length),k=i+1->jm rs[i].name rs[k].name=true)/\dK (eZ rs[k].rows) rs[k].rows.length=true:=by
 simp only[bu,UW,U3]at h;rw[lF]at h;have h1:=oU h.2 k hk;unfold kI at h1;have e:(ag rs)[k]?=some rs[k].p:=by simp[ag,hk]
 rw[e]at h1;simp only[UW,U3]at h1;have e2:rs[k].p.rels.length=rs[k].rows.length:=by simp[TR.p,eZ]
 rw[e2]at h1;refine⟨h1.1.1.1,fun i hi hki=>?_,h1.2⟩;subst hki;have h2:=h1.1.1.2;have e3:(ag rs)[i]?=some rs[i].p:=by simp[ag,hi]
 simp only[e3,Option.map_some,Vw]at h2;exact h2
theorem Dg{rs:Q07}{n:Nat}(h:dK (eZ rs) n=true)(k:Nat)(hk:k<rs.length)(hn:k<n):aT rs[k].name=true/\(∀i (hi:i<rs.length),k=i+1->jm rs[i].name rs[k].name=true)/\aL (ak rs[k].rows)=true:=by
 have h1:=oQ h k hn;unfold mg at h1;have e:(eZ rs)[k]?=some rs[k].p:=by simp[eZ,hk]
 rw[e]at h1;simp only[UW]at h1;refine⟨h1.1.1,fun i hi hki=>?_,h1.2⟩;subst hki;have h2:=h1.1.2;have e3:(eZ rs)[i]?=some rs[i].p:=by simp[eZ,hi]
 simp only[e3,Option.map_some,Vw]at h2;exact h2
theorem Gr{rs:Q06}(h:bu (ag rs)=true){t t':TR}(ht:t∈rs)(ht':t'∈rs)(e:t.name=t'.name):t=t':=by
 obtain ⟨i,hi,rfl⟩:=Vx.1 ht;obtain ⟨j,hj,rfl⟩:=Vx.1 ht';have hne:=rM (f:=fun k=>(rs[k]?.map TR.name).getD ByteArray.empty) (n:=rs.length) (fun k hk=>by
  have h0:k<rs.length:=by omega
  simp only[U1 hk,U1 h0,Option.map_some,Vw];exact(lQ h (k+1) hk).2.1 k h0 rfl)
 by_cases hij:i=j
 ·subst hij;rfl
 exfalso;rcases Nat.lt_or_gt_of_ne hij with hl|hl
 ·have:=hne i j hl hj;simp[hi,hj]at this;exact this e
 have:=hne j i hl hi;simp[hi,hj]at this;exact this e.symm
theorem Gt{rs:Q07}(h:dK (eZ rs) rs.length=true){t t':RR}(ht:t∈rs)(ht':t'∈rs)(e:t.name=t'.name):t=t':=by
 obtain ⟨i,hi,rfl⟩:=Vx.1 ht;obtain ⟨j,hj,rfl⟩:=Vx.1 ht';have hne:=rM (f:=fun k=>(rs[k]?.map RR.name).getD ByteArray.empty) (n:=rs.length) (fun k hk=>by
  have h0:k<rs.length:=by omega
  simp only[U1 hk,U1 h0,Option.map_some,Vw];exact(Dg h (k+1) hk hk).2.1 k h0 rfl)
 by_cases hij:i=j
 ·subst hij;rfl
 exfalso;rcases Nat.lt_or_gt_of_ne hij with hl|hl
 ·have:=hne i j hl hj;simp[hi,hj]at this;exact this e
 have:=hne j i hl hi;simp[hi,hj]at this;exact this e.symm
theorem Jf{t:ByteArray}{M:ByteArray×ByteArray->Option Value}{qs:Q07}{k:Q01}{v:Value}(h:lc t M qs k=some v):M k=some v \/ ∃q∈qs,k=(t,q.name)/\v=q.sl:=by
 induction qs generalizing M with
 | nil=>exact .inl h
 | cons q qs ih =>
  simp only[lc]at h;rcases ih h with h|⟨q',hq,e⟩
  ·by_cases e:k=(t,q.name)
   ·rw[e,ed]at h;injection h with h;exact .inr ⟨q,by simp,e,h.symm⟩
   rw[dw e]at h;exact .inl h
  exact .inr ⟨q',by simp[hq],e⟩
theorem ym{t:ByteArray}{M:ByteArray×ByteArray->Option Value}{qs:Q07}{k:Q01}(h:(M k).isSome=true \/ ∃q∈qs,k=(t,q.name)):(lc t M qs k).isSome=true:=by
 induction qs generalizing M with
 | nil=>rcases h with h|⟨q,hq,-⟩;exact h;cases hq
 | cons q qs ih =>
  simp only[lc];refine ih ?_;by_cases e:k=(t,q.name)
  ·left;rw[e,ed];rfl
  rcases h with h|⟨q',hq,e'⟩
  ·left;rw[dw e];exact h
  rcases U9.1 hq with rfl|hq
  ·exact absurd e' e
  exact .inr ⟨q',hq,e'⟩
theorem EL{M:ByteArray×ByteArray->Option Value}{rs:Q06}{k:Q01}{v:Value}(h:fo M rs k=some v):M k=some v \/ ∃t∈rs,∃q∈t.rows,k=(t.name,q.name)/\v=q.sl:=by
 induction rs generalizing M with
 | nil=>exact .inl h
 | cons t rs ih =>
  simp only[fo]at h;rcases ih h with h|⟨t',ht,e⟩
  ·rcases Jf h with h|⟨q,hq,e⟩
   ·exact .inl h
   exact .inr ⟨t,by simp,q,hq,e⟩
  exact .inr ⟨t',by simp[ht],e⟩
theorem sO{M:ByteArray×ByteArray->Option Value}{rs:Q06}{k:Q01}(h:(M k).isSome=true \/ ∃t∈rs,∃q∈t.rows,k=(t.name,q.name)):(fo M rs k).isSome=true:=by
 induction rs generalizing M with
 | nil=>rcases h with h|⟨q,hq,-⟩;exact h;cases hq
 | cons t rs ih =>
  simp only[fo];refine ih ?_;rcases h with h|⟨t',ht,q,hq,e⟩
  ·exact .inl (ym (.inl h))
  rcases U9.1 ht with rfl|ht
  ·exact .inl (ym (.inr ⟨q,hq,e⟩))
  exact .inr ⟨t',ht,q,hq,e⟩
theorem Jg{rs:List Rl}{n:ByteArray}(h:jT rs n=none):∀r∈rs,r.name≠n:=by
 induction rs with
 | nil=>intro r hr;cases hr
 | cons r rs ih =>
  simp only[jT]at h;split at h
  ·cases h
  rename_i hn;intro q hq;rcases U9.1 hq with rfl|hq
  ·exact fun e=>hn (fE.2 e)
  exact ih h q hq
theorem Mc{ts:Q0b}{ty n:ByteArray}(h:eG ts ty n=none):∀t∈ts,t.name=ty->∀r∈t.rels,r.name≠n:=by
 induction ts with
 | nil=>intro t ht;cases ht
 | cons t ts ih =>
  simp only[eG]at h;intro q hq e;split at h
  ·rw[Option.or_eq_none_iff]at h;rcases U9.1 hq with rfl|hq
   ·exact Jg h.1
   exact ih h.2 q hq e
  rename_i hn;rcases U9.1 hq with rfl|hq
  ·exact absurd (fE.2 e) hn
  exact ih h q hq e
theorem qJ{rs:Q06}{ty n:ByteArray}{es:Q09}(h:eG (ag rs) ty n=some es):∃t∈rs,∃q∈t.rows,t.name=ty/\q.name=n/\ak q.rows=es:=by
 obtain⟨t,ht,r,hr,e1,e2,e3⟩:=qG h;obtain⟨t',ht',rfl⟩:=U7.1 ht;obtain⟨q,hq,rfl⟩:=U7.1 hr;exact⟨t',ht',q,hq,e1,e2,e3⟩
structure Tab(rs:Q06)(M:ByteArray×ByteArray->Option Value):Prop where
 no:∀k,M k=none->eG (ag rs) k.1 k.2=none
 yes:∀k v,M k=some v->∃t∈rs,∃q∈t.rows,k=(t.name,q.name)/\v=q.sl/\eG (ag rs) k.1 k.2=some (ak q.rows)/\aL (ak q.rows)=true
theorem o6{rs:Q06}(h:bu (ag rs)=true):Tab rs (oZ rs) where
 no k hk:=by
  cases e:eG (ag rs) k.1 k.2 with
  | none=>rfl
  | some es =>
   obtain⟨t,ht,q,hq,e1,e2,-⟩:=qJ e;have:=sO (M:=fun _=>none) (rs:=rs) (k:=k) (.inr ⟨t,ht,q,hq,by rw[e1,e2]⟩);unfold oZ at hk;rw[hk]at this;cases this
 yes k v hk:=by
  rcases EL hk with h0|⟨t,ht,q,hq,e,ev⟩
  ·cases h0
  have hSF:=bF h;refine⟨t,ht,q,hq,e,ev,?_,(hSF.2.2 t ht q hq).1⟩;cases e2:eG (ag rs) k.1 k.2 with
  | none=>exact(Mc e2 t.p (Vp ht) (by rw[e];rfl) q.p (Vp hq) (by rw[e];rfl)).elim
  | some es =>
   obtain⟨t',ht',q',hq',e3,e4,e5⟩:=qJ e2;have h1:t'=t:=Gr h ht' ht (by rw[e3,e]);subst h1;obtain⟨i,hi,rfl⟩:=Vx.1 ht;have h2:q'=q:=Gt (lQ h i hi).2.2 hq' hq (by rw[e4,e]);subst h2;rw[e5]
theorem Tab.some_iff{rs:Q06}{M:ByteArray×ByteArray->Option Value}(h:Tab rs M)(k:Q01):(M k).isSome=!(aB (ag rs) k.1 k.2).isEmpty:=by
 unfold aB;cases e:M k with
 | none=>rw[h.no k e];rfl
 | some v =>
  obtain⟨t,ht,q,hq,-,-,e1,e2⟩:=h.yes k v e;rw[e1];have:=nW e2;cases e3:ak q.rows with
  | nil=>rw[e3]at this;simp at this
  | cons x xs=>rfl
theorem nX(w:af):(zeroValue 33).run prog w=.ok (.slice none 0 0) w:=by kernel_rfl
theorem zk(b n:Nat)(M:ByteArray×ByteArray->Option Value)(t r:bQ)(w:af)(ht:t.size<=maxLen)(hr:r.size<=maxLen)(hV:aK dV prog 94 w b n M):
  Calls prog 184 #[.map (some b),.string t,.string r] w fun e w'=>e=.returned (.bool (M (t,r)).isSome)/\w'=w:=by
 obtain⟨kl,hkl⟩:=jE (t,r) ht hr;have HV:Hid (aK dV prog 94 w b n M):=hV;have Xh:Hid (keyOf prog 94 (dV (t,r))=some kl):=hkl;clear hkl hV;go_enter func184,ntmps184;go_wp2_with(first|(at_lookup;refine dQ _ rfl _ _ 91 rfl 94 33 iU underlying91 (nX _) b n M rfl HV.out (t,r) kl rfl Xh.out ?_)|go_in);go_ret;exact⟨rfl,rfl⟩
theorem Dh(a:Al)(w:af):
  Calls prog 243 #[.agg #[.string a.t,.string a.s]] w fun e w'=>e=.returned (.bool (!a.s.toList.isEmpty))/\ae w w':=by
 cases h:a.s.toList.isEmpty;case true=>
  go_enter func243,ntmps243;go_wp2;go_ret;exact⟨rfl,(UV _ _).alloc (UU _) _⟩
 go_enter func243,ntmps243;go_wp2;go_ret;exact⟨rfl,(UV _ _).alloc (UU _) _⟩
theorem yn(xs:Q0a)(k:Nat)(h:k<xs.length):(xs.drop k).any (fun a=>!a.s.toList.isEmpty)=((!xs[k].s.toList.isEmpty) || (xs.drop (k+1)).any (fun a=>!a.s.toList.isEmpty)):=by
 rw[Vl h];rfl
theorem Ck(ad:Q02)(cap:Nat)(xs:Q0a)(w:af)(hlen:xs.length<=1048576)(hs:lq w ad xs):
  Calls prog 253 #[.slice ad xs.length cap,.func (Fn.func 243) #[] #[]] w fun e w'=>(∃r:Int,e=.returned (.int .i64 r)/\decide (0<=r)=xs.any (fun a=>!a.s.toList.isEmpty))/\ae w w':=by
 have HS:=aC hs;clear hs;go_enter func253,ntmps253;go_wp2_with fail;go_loopw[8] (fun i wr=>∃k:Nat,k<=xs.length/\i=.int .i64 k/\Hid ((xs.drop k).any (fun a=>!a.s.toList.isEmpty)=xs.any (fun a=>!a.s.toList.isEmpty))/\Hid (ae w wr)) (fun i _=>xs.length-(intOf i).toNat);case atStart=>exact⟨0,UY _,rfl,rfl,UV _ _⟩
 obtain⟨k,hk,rfl,HP,HB⟩:=hrel;by_cases hlt:k<xs.length
 ·rcases HS.out.below HB.out with rfl|⟨b,off,rfl,hb,hr⟩
  ·simp at hlt
  obtain⟨t0,t1⟩:=hr k hlt;have hk1:=bG k;have hk2:(k:Int)<(xs.length:Int):=by omega
  clear hr;cases he:xs[k].s.toList.isEmpty;case false=>
   have HN:Hid (xs.any (fun a=>!a.s.toList.isEmpty)=true):=by show _=_;rw[<-HP.out,yn _ _ hlt,he];rfl
   go_wp2_with(go_at_call 243;refine(Dh xs[k] _).mono ?_;rintro e w' ⟨he2,hbx⟩;rw[he]at he2;subst he2);go_ret;exact⟨⟨k,rfl,by rw[HN.out];simp⟩,HB.out.trans (hbx.mono HB.out.size)⟩
  have Wj:Hid ((xs.drop (k+1)).any (fun a=>!a.s.toList.isEmpty)=xs.any (fun a=>!a.s.toList.isEmpty)):=by show _=_;rw[<-HP.out,yn _ _ hlt,he];rfl
  go_wp2_with(go_at_call 243;refine(Dh xs[k] _).mono ?_;rintro e w' ⟨he2,hbx⟩;rw[he]at he2;subst he2);go_roundw;case rel=>exact⟨k+1,by omega,by go_num,Wj,HB.out.trans (hbx.mono HB.out.size)⟩
  simp[intOf]<;>omega
 have HN:Hid (xs.any (fun a=>!a.s.toList.isEmpty)=false):=by show _=_;rw[<-HP.out,Vf (by omega)];rfl
 go_wp2;go_ret;exact⟨⟨-1,rfl,by rw[HN.out];simp⟩,HB.out⟩
theorem xk(ad:Q02)(cap:Nat)(xs:Q0a)(w:af)(hlen:xs.length<=1048576)(hs:lq w ad xs):
  Calls prog 242 #[.slice ad xs.length cap,.func (Fn.func 243) #[] #[]] w fun e w'=>e=.returned (.bool (xs.any (fun a=>!a.s.toList.isEmpty)))/\ae w w':=by
 go_enter func242,ntmps242;go_wp2_with fail;refine(Ck ad cap xs _ hlen hs).mono ?_;rintro e w' ⟨⟨r,rfl,hr⟩,hbx⟩;have HR:Hid (decide (0<=r)=xs.any (fun a=>!a.s.toList.isEmpty)):=hr;clear hr hs;go_wp2;go_ret;exact⟨by rw[<-HR.out];rfl,hbx⟩
theorem OX(xs:Q0a):(!xs.any fun a=>!a.s.toList.isEmpty)=xs.all fun a=>a.s.toList.isEmpty:=by
 induction xs with
 | nil=>rfl
 | cons a xs ih=>simp only[VY,List.all_cons,Bool.not_or,Bool.not_not,ih]
set_option maxRecDepth 100000 in
theorem vg(ad:Q02)(cap:Nat)(rs:Q08)(w:af)(hlen:rs.length<=1048576)(hs:gZ w ad rs)(hl:∀r∈rs,r.e.light):
  Calls prog 224 #[.slice ad rs.length cap] w fun e w'=>e=.returned (.bool (bH (ak rs)))/\ae w w':=by
 by_cases h1:rs.length=1
 ·obtain⟨r,rfl⟩:∃r,rs=[r]:=List.length_eq_one_iff.1 h1;rcases hs with h|⟨b,off,rfl,hb,hr,hok⟩
  ·cases h
  obtain⟨t0,t1,t2,t3,t4⟩:=hr 0 (by simp);simp only[Nat.zero_mul,Nat.add_zero,List.getElem_cons_zero]at t0 t1 t2 t3 t4;have XE:Hid (r.ok w):=hok r (by simp);obtain⟨lg,-⟩:=hl r (by simp);clear hr hok h1;simp only[Vq,VT,Vj];by_cases hq:r.e.kind=1
  ·have HD:Hid (bH (ak [r])=!r.e.allow.any fun a=>!a.s.toList.isEmpty):=by show _=_;rw[OX];simp[bH,ak,hq]
   have hqb:(r.e.kind==1)=true:=by simpa using hq
   go_enter func224,ntmps224;go_wp2_with(go_at_call 242;refine(xk _ _ r.e.allow _ lg (XE.out.1.below ((UV _ _)))).mono ?_;rintro e w' ⟨rfl,hbx⟩);go_ret;exact⟨by rw[HD.out];rfl,hbx⟩
  have HD:Hid (bH (ak [r])=false):=by show _=_;simp[bH,ak,hq]
  have hqb:(r.e.kind==1)=false:=by simpa using hq
  go_enter func224,ntmps224;go_wp2;go_ret;exact⟨by rw[HD.out];rfl,UV _ _⟩
 have HD:Hid (bH (ak rs)=false):=by
  show _=_;rcases rs with _|⟨r,_|⟨r2,rs⟩⟩
  ·rfl
  ·simp at h1
  rfl
 have h2:((rs.length:Int)==1)=false:=by
  have:¬((rs.length:Int)=1):=by omega
  simpa using this
 clear hs;go_enter func224,ntmps224;go_wp2;go_ret;exact⟨by rw[HD.out];rfl,UV _ _⟩
end Go.Proofs.YtajkkeikihhejaaGreat
