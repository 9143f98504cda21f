/- Contract of the program's table of relations. -/
import Derived.Test.YtcgdckphpjfmhaaGreatDoorSq
import Derived.Test.YtcgdckphpjfmhaaGreatDoorJ8
import Derived.Sort.Grow
open Go.Proofs.Tryz
set_option maxHeartbeats 80000000
namespace Go.Proofs.YtcgdckphpjfmhaaGreatDoor
open ChangeShapes WideShapes ChangeAt RowKit Maps
open Pl
def RR.sl(q:RR):Value:=.slice q.ad q.rows.length q.cap
def kY(t:ByteArray)(M:ByteArray×ByteArray->Option Value):List RR->ByteArray×ByteArray->Option Value
 | []=>M
 | q::qs=>kY t (lq M (t,q.name) (some q.sl)) qs
def eD(M:ByteArray×ByteArray->Option Value):List TR->ByteArray×ByteArray->Option Value
 | []=>M
 | t::ts=>eD (kY t.name M t.rows) ts
def qg(rs:Q06):ByteArray×ByteArray->Option Value:=eD (fun _=>none) rs
theorem EH(t:bW)(M:ByteArray×ByteArray->Option Value)(xs ys:Q07):kY t M (xs++ys)=kY t (kY t M xs) ys:=by
 induction xs generalizing M with
 | nil=>rfl
 | cons q qs ih=>simp only[Wp,kY];exact ih _
theorem AR(M:ByteArray×ByteArray->Option Value)(xs ys:Q06):eD M (xs++ys)=eD (eD M xs) ys:=by
 induction xs generalizing M with
 | nil=>rfl
 | cons q qs ih=>simp only[Wp,eD];exact ih _
theorem Jy(t:bW)(M:ByteArray×ByteArray->Option Value)(qs:Q07)(j:Nat)(h:j<qs.length):kY t M (qs.take (j+1))=lq (kY t M (qs.take j)) (t,qs[j].name) (some qs[j].sl):=by
 rw[VE h,EH];rfl
theorem EJ(M:ByteArray×ByteArray->Option Value)(rs:Q06)(k:Nat)(h:k<rs.length):eD M (rs.take (k+1))=kY rs[k].name (eD M (rs.take k)) rs[k].rows:=by
 rw[VE h,AR];rfl
set_option maxRecDepth 100000 in
theorem qV(ad:Q02)(cap:Nat)(rs:Q06)(w:ae)(hlen:rs.length<=6)(hs:jP w ad rs)(hrl:∀r∈rs,r.rows.length<=6)(hf:∀r∈rs,r.fits):
  Calls prog 51 #[.slice ad rs.length cap] w fun e w'=>e=.returned (.map (some w.heap.size))/\aN dO prog 151 w' w.heap.size 36 (qg rs)/\af w w':=by
 have HS:=aC hs;have HRL:Hid (∀r∈rs,r.rows.length<=6):=hrl;have Xd:=aC hf;have HM0:Hid (aN dO prog 151 (w.alloc (.map #[] 0)) w.heap.size 0 (fun _=>none)):=nQ _ _ _ w;have HB0:Hid (af w (w.alloc (.map #[] 0))):=(VD _ _).alloc (VC _) _;clear hs hrl hf;have hmm:=@run_makeMap prog;go_enter func51,ntmps51;go_wp2_with fail;go_loopw[11] (fun i wr=>∃k:Nat,k<=rs.length/\i=.int .i64 k/\Hid (aN dO prog 151 wr w.heap.size (k*6) (eD (fun _=>none) (rs.take k)))/\Hid (af w wr)) (fun i _=>rs.length-(intOf i).toNat);case atStart=>exact⟨0,VG _,rfl,HM0,HB0⟩
 clear HM0 HB0 hmm;obtain⟨k,hk,rfl,HM,HB⟩:=hrel;by_cases hlt:k<rs.length
 ·rcases HS.out.below HB.out with rfl|⟨b,off,rfl,hb,hr,hok⟩
  ·simp at hlt
  obtain⟨t0,t1⟩:=hr k hlt;have hk1:=bq k;have hk2:(k:Int)<(rs.length:Int):=by omega
  have h6:rs[k].rows.length<=6:=HRL.out _ (Vz hlt);have z0:rs[k].name.size<=maxLen:=(Xd.out _ (Vz hlt)).1;have YJ:Hid (∀q∈rs[k].rows,q.fits):=(Xd.out _ (Vz hlt)).2.2;clear hr hok;obtain⟨W1,hW1⟩:∃W1,W1=wr.alloc (.cells #[.string rs[k].name,.slice rs[k].ad rs[k].rows.length rs[k].cap] 105):=⟨_,rfl⟩;have hal:af wr W1:=by rw[hW1];exact(VD _ _).alloc (VC _) _
  have ZU:Hid (aN dO prog 151 W1 w.heap.size (k*6) (eD (fun _=>none) (rs.take k))):=HM.out.below hal;have HB1:=kL HB hal;have XL:Hid (wr.heap.size<W1.heap.size/\W1.cell? ⟨wr.heap.size,0,none⟩=some (.string rs[k].name)):=⟨by rw[hW1];simp,by rw[hW1];simp⟩;have hgw:w.heap.size<wr.heap.size:=HM.out.lt;clear HM hal;go_wp2_with fail;rw[<-hW1];clear hW1 t0 t1 HB;obtain⟨wo,hwo⟩:∃wo,wo=wr:=⟨_,rfl⟩;subst hwo;go_loopw[18] (fun i w2=>∃j:Nat,j<=rs[k].rows.length/\i=.int .i64 j/\Hid (aN dO prog 151 w2 w.heap.size (k*6+j) (kY rs[k].name (eD (fun _=>none) (rs.take k)) (rs[k].rows.take j)))/\Hid (af w w2)/\Hid (wo.heap.size<w2.heap.size/\w2.cell? ⟨wo.heap.size,0,none⟩=some (.string rs[k].name))) (fun i _=>rs[k].rows.length-(intOf i).toNat);case atStart=>exact⟨0,VG _,rfl,ZU,HB1,XL⟩
  clear ZU HB1 XL;obtain⟨j,hj,rfl,HM,HB,HC⟩:=hrel;by_cases hjl:j<rs[k].rows.length
  ·rcases HS.out.below HB.out with hnil|⟨b',off',he,hb2,hr,hok⟩
   ·rw[hnil]at hlt;simp at hlt
   injection he with he;injection he with he1 he2;subst he1;subst he2;have ok:=hok rs[k] (Vz hlt);rcases ok with hnil|⟨b2,Xr,had,hbb,hr2,-⟩
   ·rw[hnil]at hjl;simp at hjl
   obtain⟨q0,q1⟩:=hr2 j hjl;have z1:rs[k].rows[j].name.size<=maxLen:=(YJ.out _ (Vz hjl)).1;have hj1:=bq j;have hj2:(j:Int)<(rs[k].rows.length:Int):=by omega
   obtain⟨kl,hkl⟩:=ku (rs[k].name,rs[k].rows[j].name) z0 z1;have XB:Hid (keyOf prog 151 (dO (rs[k].name,rs[k].rows[j].name))=some kl):=hkl;obtain⟨W2,hW2⟩:∃W2,W2=wr.alloc (.cells #[.string rs[k].rows[j].name,.slice rs[k].rows[j].ad rs[k].rows[j].rows.length rs[k].rows[j].cap] 149):=⟨_,rfl⟩;have hal:af wr W2:=by rw[hW2];exact(VD _ _).alloc (VC _) _
   have XE:Hid (aN dO prog 151 W2 w.heap.size (k*6+j) (kY rs[k].name (eD (fun _=>none) (rs.take k)) (rs[k].rows.take j))):=HM.out.below hal;have HB2:=kL HB hal;have hc1:=aI hal HC.out.1 HC.out.2;have Xp:Hid (wo.heap.size<W2.heap.size/\W2.cell? ⟨wo.heap.size,0,none⟩=some (.string rs[k].name)):=⟨Vy HC.out.1 hal.size,hc1⟩;have g0:W2.cell? ⟨wr.heap.size,0,none⟩=some (.string rs[k].rows[j].name):=by rw[hW2];simp
   have g1:W2.cell? ⟨wr.heap.size,1,none⟩=some (.slice rs[k].rows[j].ad rs[k].rows[j].rows.length rs[k].rows[j].cap):=by rw[hW2];simp
   have hsz:wo.heap.size<wr.heap.size:=HC.out.1;have hc0:=HC.out.2;rw[had];clear hr hok hr2 hkl HM hal HC;go_wp2_with(first|(at_mapUpdate;rw[<-hW2];refine nI _ rfl _ _ _ 95 rfl 151 147 jb uJ underlying95 w.heap.size (k*6+j) _ rfl XE.out (by unfold maxLen;omega) (rs[k].name,rs[k].rows[j].name) kl rfl XB.out _ rfl ?_;intro w3 hV3 hg3)|go_in);have HM4:Hid (aN dO prog 151 w3 w.heap.size (k*6+(j+1)) (kY rs[k].name (eD (fun _=>none) (rs.take k)) (rs[k].rows.take (j+1)))):=by
    show aN _ _ _ _ _ _ _;rw[Jy _ _ _ _ hjl];exact hV3
   have XR:Hid (af w w3):=HB2.out.grown hg3 HB2.out.size (fun i hi=>by injection hi with hi;omega);have HC4:Hid (wo.heap.size<w3.heap.size/\w3.cell? ⟨wo.heap.size,0,none⟩=some (.string rs[k].name)):=⟨Vy Xp.out.1 hg3.size,by rw[hg3.cell_far _ Xp.out.1 (by simp;omega)];exact Xp.out.2⟩;clear hV3 hg3 hW2 XE HB2 Xp g0 g1 q0 q1 hc0 hc1;go_wp2;go_roundw;case rel=>exact⟨j+1,by omega,by go_num,HM4,XR,HC4⟩
   simp[intOf]<;>omega
  obtain rfl:j=rs[k].rows.length:=by omega
  have HM4:Hid (aN dO prog 151 wr w.heap.size ((k+1)*6) (eD (fun _=>none) (rs.take (k+1)))):=by
   show aN _ _ _ _ _ _ _;have:=HM.out;rw[VP]at this;rw[EJ _ _ _ hlt];exact this.mono (by omega)
  clear HM;go_wp2;go_roundw;case rel=>exact⟨k+1,by omega,by go_num,HM4,HB⟩
  simp[intOf]<;>omega
 obtain rfl:k=rs.length:=by omega
 have HM4:Hid (aN dO prog 151 wr w.heap.size 36 (qg rs)):=by
  show aN _ _ _ _ _ _ _;have:=HM.out;rw[VP]at this;exact this.mono (by omega)
 go_wp2;go_ret;exact⟨rfl,HM4.out,HB.out⟩
theorem SV:∀x:List UInt8,Op.bytesLess x x=false
 | []=>rfl
 | a::x=>by simp[Op.bytesLess,SV x]
theorem SX:∀x y z:List UInt8,Op.bytesLess x y=true->Op.bytesLess y z=true->Op.bytesLess x z=true
 | [],_,[],h,k=>by cases ‹List UInt8› <;> simp [Op.bytesLess] at h k
 | [],_,_::_,_,_=>rfl
 | _::_,[],_,h,_=>by simp[Op.bytesLess]at h
 | _::_,_::_,[],_,k=>by simp[Op.bytesLess]at k
 | a::x,b::y,c::z,h,k=>by
  simp only[Op.bytesLess,Bool.or_eq_true,VF,VM,beq_iff_eq]at h k ⊢;rcases h with h|⟨h,h'⟩
  ·rcases k with k|⟨k,k'⟩
   ·exact .inl (UInt8.lt_trans h k)
   exact .inl (k ▸ h)
  rcases k with k|⟨k,k'⟩
  ·exact .inl (h ▸ k)
  exact .inr ⟨h.trans k,SX x y z h' k'⟩
theorem rY{f:Nat->ByteArray}{n:Nat}(h:∀i,i+1<n->jg (f i) (f (i+1))=true):∀i j,i<j->j<n->f i≠f j:=by
 have h2:∀d i,i+d+1<n->jg (f i) (f (i+d+1))=true:=by
  intro d
  induction d with
  | zero=>intro i hi;exact h i (by omega)
  | succ d ih =>
   intro i hi;have h3:=ih i (by omega);have h4:=h (i+d+1) (by omega);exact SX _ _ _ h3 h4
 intro i j hij hj e;have h5:=h2 (j-i-1) i (by omega);have e2:i+(j-i-1)+1=j:=by omega
 rw[e2,e]at h5;unfold jg at h5;rw[SV]at h5;cases h5
theorem lK{rs:Q06}(h:bQ (ag rs)=true)(k:Nat)(hk:k<rs.length):aS rs[k].name=true/\(∀i (hi:i<rs.length),k=i+1->jg rs[i].name rs[k].name=true)/\dC (eu rs[k].rows) rs[k].rows.length=true:=by
 simp only[bQ,VF,VM]at h;rw[lm]at h;have h1:=uh h.2 k hk;unfold kX at h1;have e:(ag rs)[k]?=some rs[k].p:=by simp[ag,hk]
 rw[e]at h1;simp only[VF,VM]at h1;have e2:rs[k].p.rels.length=rs[k].rows.length:=by simp[TR.p,eu]
 rw[e2]at h1;refine⟨h1.1.1.1,fun i hi hki=>?_,h1.2⟩;subst hki;have h2:=h1.1.1.2;have e3:(ag rs)[i]?=some rs[i].p:=by simp[ag,hi]
 simp only[e3,Option.map_some,Wn]at h2;exact h2
theorem Dh{rs:Q07}{n:Nat}(h:dC (eu rs) n=true)(k:Nat)(hk:k<rs.length)(hn:k<n):aS rs[k].name=true/\(∀i (hi:i<rs.length),k=i+1->jg rs[i].name rs[k].name=true)/\aP (aj rs[k].rows)=true:=by
 have h1:=ug h k hn;unfold nA at h1;have e:(eu rs)[k]?=some rs[k].p:=by simp[eu,hk]
 rw[e]at h1;simp only[VF]at h1;refine⟨h1.1.1,fun i hi hki=>?_,h1.2⟩;subst hki;have h2:=h1.1.2;have e3:(eu rs)[i]?=some rs[i].p:=by simp[eu,hi]
 simp only[e3,Option.map_some,Wn]at h2;exact h2
theorem Gv{rs:Q06}(h:bQ (ag rs)=true){t t':TR}(ht:t∈rs)(ht':t'∈rs)(e:t.name=t'.name):t=t':=by
 obtain ⟨i,hi,rfl⟩:=Wm.1 ht;obtain ⟨j,hj,rfl⟩:=Wm.1 ht';have hne:=rY (f:=fun k=>(rs[k]?.map TR.name).getD ByteArray.empty) (n:=rs.length) (fun k hk=>by
  have h0:k<rs.length:=by omega
  simp only[VO hk,VO h0,Option.map_some,Wn];exact(lK h (k+1) hk).2.1 k h0 rfl)
 by_cases hij:i=j
 ·subst hij;rfl
 exfalso;rcases Nat.lt_or_gt_of_ne hij with hl|hl
 ·have:=hne i j hl hj;simp[hi,hj]at this;exact this e
 have:=hne j i hl hi;simp[hi,hj]at this;exact this e.symm
theorem Gw{rs:Q07}(h:dC (eu rs) rs.length=true){t t':RR}(ht:t∈rs)(ht':t'∈rs)(e:t.name=t'.name):t=t':=by
 obtain ⟨i,hi,rfl⟩:=Wm.1 ht;obtain ⟨j,hj,rfl⟩:=Wm.1 ht';have hne:=rY (f:=fun k=>(rs[k]?.map RR.name).getD ByteArray.empty) (n:=rs.length) (fun k hk=>by
  have h0:k<rs.length:=by omega
  simp only[VO hk,VO h0,Option.map_some,Wn];exact(Dh h (k+1) hk hk).2.1 k h0 rfl)
 by_cases hij:i=j
 ·subst hij;rfl
 exfalso;rcases Nat.lt_or_gt_of_ne hij with hl|hl
 ·have:=hne i j hl hj;simp[hi,hj]at this;exact this e
 have:=hne j i hl hi;simp[hi,hj]at this;exact this e.symm
theorem Jz{t:ByteArray}{M:ByteArray×ByteArray->Option Value}{qs:Q07}{k:Q01}{v:Value}(h:kY t M qs k=some v):M k=some v \/ ∃q∈qs,k=(t,q.name)/\v=q.sl:=by
 induction qs generalizing M with
 | nil=>exact .inl h
 | cons q qs ih =>
  simp only[kY]at h;rcases ih h with h|⟨q',hq,e⟩
  ·by_cases e:k=(t,q.name)
   ·rw[e,dV]at h;injection h with h;exact .inr ⟨q,by simp,e,h.symm⟩
   rw[bZ e]at h;exact .inl h
  exact .inr ⟨q',by simp[hq],e⟩
theorem xX{t:ByteArray}{M:ByteArray×ByteArray->Option Value}{qs:Q07}{k:Q01}(h:(M k).isSome=true \/ ∃q∈qs,k=(t,q.name)):(kY t M qs k).isSome=true:=by
 induction qs generalizing M with
 | nil=>rcases h with h|⟨q,hq,-⟩;exact h;cases hq
 | cons q qs ih =>
  simp only[kY];refine ih ?_;by_cases e:k=(t,q.name)
  ·left;rw[e,dV];rfl
  rcases h with h|⟨q',hq,e'⟩
  ·left;rw[bZ e];exact h
  rcases VU.1 hq with rfl|hq
  ·exact absurd e' e
  exact .inr ⟨q',hq,e'⟩
theorem EK{M:ByteArray×ByteArray->Option Value}{rs:Q06}{k:Q01}{v:Value}(h:eD M rs k=some v):M k=some v \/ ∃t∈rs,∃q∈t.rows,k=(t.name,q.name)/\v=q.sl:=by
 induction rs generalizing M with
 | nil=>exact .inl h
 | cons t rs ih =>
  simp only[eD]at h;rcases ih h with h|⟨t',ht,e⟩
  ·rcases Jz h with h|⟨q,hq,e⟩
   ·exact .inl h
   exact .inr ⟨t,by simp,q,hq,e⟩
  exact .inr ⟨t',by simp[ht],e⟩
theorem sS{M:ByteArray×ByteArray->Option Value}{rs:Q06}{k:Q01}(h:(M k).isSome=true \/ ∃t∈rs,∃q∈t.rows,k=(t.name,q.name)):(eD M rs k).isSome=true:=by
 induction rs generalizing M with
 | nil=>rcases h with h|⟨q,hq,-⟩;exact h;cases hq
 | cons t rs ih =>
  simp only[eD];refine ih ?_;rcases h with h|⟨t',ht,q,hq,e⟩
  ·exact .inl (xX (.inl h))
  rcases VU.1 ht with rfl|ht
  ·exact .inl (xX (.inr ⟨q,hq,e⟩))
  exact .inr ⟨t',ht,q,hq,e⟩
theorem JA{rs:List Rl}{n:ByteArray}(h:jM rs n=none):∀r∈rs,r.name≠n:=by
 induction rs with
 | nil=>intro r hr;cases hr
 | cons r rs ih =>
  simp only[jM]at h;split at h
  ·cases h
  rename_i hn;intro q hq;rcases VU.1 hq with rfl|hq
  ·exact fun e=>hn (eZ.2 e)
  exact ih h q hq
theorem Mx{ts:Q0b}{ty n:ByteArray}(h:gm ts ty n=none):∀t∈ts,t.name=ty->∀r∈t.rels,r.name≠n:=by
 induction ts with
 | nil=>intro t ht;cases ht
 | cons t ts ih =>
  simp only[gm]at h;intro q hq e;split at h
  ·rw[Option.or_eq_none_iff]at h;rcases VU.1 hq with rfl|hq
   ·exact JA h.1
   exact ih h.2 q hq e
  rename_i hn;rcases VU.1 hq with rfl|hq
  ·exact absurd (eZ.2 e) hn
  exact ih h q hq e
theorem qW{rs:Q06}{ty n:ByteArray}{es:Q09}(h:gm (ag rs) ty n=some es):∃t∈rs,∃q∈t.rows,t.name=ty/\q.name=n/\aj q.rows=es:=by
 obtain⟨t,ht,r,hr,e1,e2,e3⟩:=Ad h;obtain⟨t',ht',rfl⟩:=VQ.1 ht;obtain⟨q,hq,rfl⟩:=VQ.1 hr;exact⟨t',ht',q,hq,e1,e2,e3⟩
structure Tab(rs:Q06)(M:ByteArray×ByteArray->Option Value):Prop where
 no:∀k,M k=none->gm (ag rs) k.1 k.2=none
 yes:∀k v,M k=some v->∃t∈rs,∃q∈t.rows,k=(t.name,q.name)/\v=q.sl/\gm (ag rs) k.1 k.2=some (aj q.rows)/\aP (aj q.rows)=true
theorem uq{rs:Q06}(h:bQ (ag rs)=true):Tab rs (qg rs) where
 no k hk:=by
  cases e:gm (ag rs) k.1 k.2 with
  | none=>rfl
  | some es =>
   obtain⟨t,ht,q,hq,e1,e2,-⟩:=qW e;have:=sS (M:=fun _=>none) (rs:=rs) (k:=k) (.inr ⟨t,ht,q,hq,by rw[e1,e2]⟩);unfold qg at hk;rw[hk]at this;cases this
 yes k v hk:=by
  rcases EK hk with h0|⟨t,ht,q,hq,e,ev⟩
  ·cases h0
  have hSF:=bu h;refine⟨t,ht,q,hq,e,ev,?_,(hSF.2.2 t ht q hq).1⟩;cases e2:gm (ag rs) k.1 k.2 with
  | none=>exact(Mx e2 t.p (Wd ht) (by rw[e];rfl) q.p (Wd hq) (by rw[e];rfl)).elim
  | some es =>
   obtain⟨t',ht',q',hq',e3,e4,e5⟩:=qW e2;have h1:t'=t:=Gv h ht' ht (by rw[e3,e]);subst h1;obtain⟨i,hi,rfl⟩:=Wm.1 ht;have h2:q'=q:=Gw (lK h i hi).2.2 hq' hq (by rw[e4,e]);subst h2;rw[e5]
theorem Tab.some_iff{rs:Q06}{M:ByteArray×ByteArray->Option Value}(h:Tab rs M)(k:Q01):(M k).isSome=!(aK (ag rs) k.1 k.2).isEmpty:=by
 unfold aK;cases e:M k with
 | none=>rw[h.no k e];rfl
 | some v =>
  obtain⟨t,ht,q,hq,-,-,e1,e2⟩:=h.yes k v e;rw[e1];have:=oh e2;cases e3:aj q.rows with
  | nil=>rw[e3]at this;simp at this
  | cons x xs=>rfl
set_option maxRecDepth 100000 in
theorem vG(ad:Q02)(cap:Nat)(rs:Q06)(w:ae)(hlen:rs.length<=6)(hs:jP w ad rs)(hl:∀r∈rs,r.light)(hrl:∀r∈rs,r.rows.length<=6)(hel:∀r∈rs,∀q∈r.rows,q.rows.length<=15/\∀e∈q.rows,eB q.rows.length e.e.kids)(hF:Found (ag rs)):
    Calls prog 117 #[.slice ad rs.length cap] w fun e w'=>((∃WY cap' out,e=.returned (.tuple #[.slice WY out.length cap',.bool true])/\IU w' WY out/\iG out=av (ag rs)/\Least (ag rs) (fP out))\/(e=.returned (.tuple #[.slice none 0 0,.bool false])/\¬ ∃f,Sol (ag rs) f))/\af w w':=by
  have HS:=aC hs;have HL:=aC hl;have HRL:Hid (∀r∈rs,r.rows.length<=6):=hrl;have YI:Hid (∀r∈rs,∀q∈r.rows,q.rows.length<=15/\∀e∈q.rows,eB q.rows.length e.e.kids):=hel;have HF:=aC hF;clear hs hl hrl hel hF;obtain⟨i0,hi,hz0,hz1,hz2⟩:=info_parts Rm;go_enter func117,ntmps117;have hbA:Hid (af w (w.alloc (.cells #[] 200))):=(VD _ _).alloc (VC _) _;have hown1:Hid ((w.alloc (.cells #[] 200)).ownsRow w.heap.size 200 3 (.slice (some ⟨w.heap.size,0,none⟩) 0 0) 0 []):=World.ownsRow_made w #[] 0 (VC _) (by decide) rfl;go_wp2_with fail;go_loopw[4,5] (fun v i wr=>∃k:Nat,k<=rs.length/\i=.int .i64 k/\Hid (wr.ownsRow w.heap.size 200 3 v (dm rs k).length (iH (F9 (dm rs k))))/\Hid (af w wr)) (fun _ i _=>rs.length-(intOf i).toNat);case atStart=>exact⟨0,VG _,rfl,hown1,hbA⟩
  clear hown1 hbA;obtain⟨k,hk,rfl,HOW,HB⟩:=hrel;by_cases hlt:k<rs.length
  · have hk1:=bq k;have hk2:(k:Int)<(rs.length:Int):=by omega
    have HU:Hid ((dm rs k).length<=k*6):=wP rs HRL.out k;have Yv:Hid (rs[k].rows.length<=6):=HRL.out _ (Vz hlt);obtain⟨wo,hwo⟩:∃wo,wo=wr:=⟨_,rfl⟩;subst hwo;go_wp2_with fail;go_loopw[4,6] (fun v i w2=>∃j:Nat,j<=rs[k].rows.length/\i=.int .i64 j/\Hid (w2.ownsRow w.heap.size 200 3 v (dm rs k++iW rs[k] j).length (iH (F9 (dm rs k++iW rs[k] j))))/\Hid (af w w2)) (fun _ i _=>rs[k].rows.length-(intOf i).toNat);case atStart=>exact⟨0,VG _,rfl,(by simpa[iW] using HOW),HB⟩
    obtain⟨j,hj,rfl,WV,HB2⟩:=hrel;rcases HS.out.below HB2.out with rfl|⟨b,off,rfl,hb,hr,hok⟩
    · simp at hlt
    have hbw:b<w.heap.size:=by
      rcases HS.out with h|⟨b',off',e,hb',-⟩
      · rw[h]at hlt;simp at hlt
      · injection e with e;injection e with e1 e2;omega
    obtain⟨t0,t1⟩:=hr k hlt;have XK:Hid (rs[k].ok _):=hok rs[k] (Vz hlt);have HOKW:Hid (rs[k].ok w):=HS.out.mem (Vz hlt);clear hr hok;by_cases hjl:j<rs[k].rows.length
    · rcases XK.out with hnil|⟨b2,Xr,had,hb2,hr2,-⟩
      · rw[hnil]at hjl;simp at hjl
      have hbw2:b2<w.heap.size:=by
        rcases HOKW.out with h|⟨b',off',e,hb',-⟩
        · rw[h]at hjl;simp at hjl
        · rw[had]at e;injection e with e;injection e with e1 e2;omega
      have t1':=t1;rw[had]at t1';obtain⟨q0,q1⟩:=hr2 j hjl;have hj1:=bq j;have hj2:(j:Int)<(rs[k].rows.length:Int):=by omega
      have a1:u4.ownBlock≠some b:=fun e=>by have:=(WV.out.lt _ e).1;omega
      have a2:u4.ownBlock≠some b2:=fun e=>by have:=(WV.out.lt _ e).1;omega
      have l4:w.heap.size<=wr.heap.size:=HB2.out.size;obtain⟨xs,hxs⟩:∃xs,xs=iH (F9 (dm rs k++iW rs[k] j)):=⟨_,rfl⟩;obtain⟨n,hn⟩:∃n,n=(dm rs k++iW rs[k] j).length:=⟨_,rfl⟩;have hown:=WV.out;rw[<-hxs,<-hn]at hown;have hnl:n<=1000:=by
        have h1:=HU.out;have h2:=CS rs[k] j;have h3:=Yv.out;rw[hn,VI];omega
      have HFX:Hid (iH (F9 (dm rs k++iW rs[k] (j+1)))=xs++[.string rs[k].name,.string rs[k].rows[j].name,.int .i64 0]):=by
        show _=_;rw[uj _ _ hjl,<-V8,OO,Af,<-hxs];rfl
      have Y9:Hid ((dm rs k++iW rs[k] (j+1)).length=n+1):=by show _=_;rw[uj _ _ hjl,<-V8,VI,<-hn];rfl
      clear hr2 had t1 hxs hn WV;go_wp2_with fail
      go_region_held3 (fun w'=>w'.cell? ⟨b,off+k*2,none⟩=some (.string rs[k].name)/\w'.cell? ⟨b,off+k*2+1,none⟩=some (.slice (some ⟨b2,Xr,none⟩) rs[k].rows.length rs[k].cap)/\w'.cell? ⟨b2,Xr+j*2,none⟩=some (.string rs[k].rows[j].name))
        (first
          | go_keep
          | (go_split_ands
             refine⟨?_,?_,?_⟩
             · (rw[hgrow.cell_far _ (by simp;omega) (Ne.symm a1)];assumption)
             · (rw[hgrow.cell_far _ (by simp;omega) (Ne.symm a1)];assumption)
             · (rw[hgrow.cell_far _ (by simp;omega) (Ne.symm a2)];assumption)))
        ((refine step_append_lies _ (by rfl) _ _ _ (by rfl) w.heap.size 200 i0 _ 3 40 underlying196 hi hz0 hz1 hz2 rfl (by omega) u4 n xs (by rfl) ((hown.alloc _).drew)
            ⟨wr.heap.size,0,none⟩ 1 1 [.string rs[k].name,.string rs[k].rows[j].name,.int .i64 0] (by rfl) (by rfl) (World.news_of_block (cs:=#[.string rs[k].name,.string rs[k].rows[j].name,.int .i64 0]) (t:=200) (fr:=(0,0)) (heap_alloc_new wr _)) (by simp[Value.oneCell'])
            (by omega) (by unfold maxLen;omega) (by omega) (by simp;omega) (wr.heap.size+1) (by simp) ?_;intro gg cp w5 hown5 hgrow hat hlt5))
      have hb5:Hid (af w w5):=((HB2.out.alloc HB2.out.size _).drew).grown hgrow (by simp;omega) (fun i hi=>(hown.lt i hi).1);have Xi:Hid (w5.ownsRow w.heap.size 200 3 (.slice (some ⟨gg,0,none⟩) (n+1) cp) (dm rs k++iW rs[k] (j+1)).length (iH (F9 (dm rs k++iW rs[k] (j+1))))):=by
        show World.ownsRow _ _ _ _ _ _ _;rw[HFX.out,Y9.out];exact hown5
      have h6:=Yv.out;clear hown5 hgrow hat hown;go_wp2;go_roundw;case rel=>exact⟨j+1,by omega,by go_num,Xi,hb5⟩
      simp[intOf]<;>omega
    · obtain rfl:j=rs[k].rows.length:=by omega
      have Xi:Hid (wr.ownsRow w.heap.size 200 3 u4 (dm rs (k+1)).length (iH (F9 (dm rs (k+1))))):=by
        show World.ownsRow _ _ _ _ _ _ _;rw[pu _ _ hlt];exact WV.out
      clear WV;go_wp2;go_roundw;case rel=>exact⟨k+1,by omega,by go_num,Xi,HB2⟩
      simp[intOf]<;>omega
  · obtain rfl:k=rs.length:=by omega
    have Zb:Hid (dm rs rs.length=av (ag rs)):=by show _=_;unfold dm;rw[VP]
    have HN36:Hid ((av (ag rs)).length<=36):=by
      have h1:=wP rs HRL.out rs.length;have h2:=Zb.out;show _<=_;rw[<-h2];omega
    obtain⟨n,hn⟩:∃n,n=(av (ag rs)).length:=⟨_,rfl⟩;have hown:=HOW.out;rw[Zb.out,<-Ep]at hown;obtain⟨Yw,cpO,g,rfl,hrow⟩:=Ro HB.out hown;have HP0:Hid (Pass (ag rs) n true (F9 (av (ag rs)))):=Pass.zero hn;have XZ:=aC hrow;have hn36:n<=36:=by rw[hn];exact HN36.out
    have Y9:Hid (n=(av (ag rs)).length):=hn;rw[Ep,<-hn];clear hown HOW hrow hn Zb HN36 HB;go_wp2_with fail;go_loopw[7] (fun m w1=>∃(mb:Bool) (out:List St),m=.bool mb/\Hid (Pass (ag rs) n mb out)/\Hid (RowS w w1 Yw g out)) (fun m w1=>CU w1 g n m);case atStart=>exact⟨true,_,rfl,HP0,XZ⟩
    clear HP0 XZ;obtain⟨mb,oS,rfl,HPS,HRS⟩:=hrel;cases mb;case false=>
      go_wp2;exact bodyPost_ret (v:=.tuple #[.slice Yw n cpO,.bool true]) (by simp[results,Tryz.results117,go_sem]) rfl ⟨.inl ⟨Yw,cpO,oS,by rw[HPS.out.len],HRS.out.slN,HPS.out.round.keys,HPS.out.least⟩,HRS.out.below⟩
    have Z8:Hid (oS.length=n):=HPS.out.len;have HM0:Hid (Mid (ag rs) n oS 0 0 false oS):=Mid.start HPS.out.len HPS.out.nn HPS.out.round HPS.out.le;obtain⟨w0,hw0⟩:∃w0,w0=wr:=⟨_,rfl⟩;subst hw0;go_wp2_with fail;go_loopw[7,8] (fun m i w1=>∃(mb:Bool) (k:Nat) (out:List St),m=.bool mb/\k<=n/\i=.int .i64 k/\Hid (Mid (ag rs) n oS k 0 mb out)/\Hid (RowS w w1 Yw g out)) (fun _ i _=>n-(intOf i).toNat);case atStart=>exact⟨false,0,oS,rfl,VG _,rfl,HM0,HRS⟩
    clear HM0;obtain⟨mb,k,out,rfl,hk,rfl,HM,HR⟩:=hrel;by_cases hlt:k<n
    · have hko:k<out.length:=by rw[HM.out.len];exact hlt
      have hke:k<(av (ag rs)).length:=by rw[<-Y9.out];exact hlt
      have hk1:=bq k;have hk2:(k:Int)<(n:Int):=by omega
      rcases HR.out.at' with e|⟨rfl,hgw,hgl,hO,-⟩
      · rw[e]at hko;simp at hko
      obtain⟨c0,c1,c2⟩:=hO k hko;have HKE:Hid (out[k].key=(av (ag rs))[k]):=HM.out.key hko hke;have WZ:∀w',af wr w'->jP w' ad rs:=fun w' h=>HS.out.below (HR.out.below.trans (h.mono HR.out.below.size));have c3:wr.drew.cell? ⟨g,k*3,none⟩=some (.string out[k].typ)/\wr.drew.cell? ⟨g,k*3+1,none⟩=some (.string out[k].rel)/\g<wr.drew.heap.size/\af wr wr.drew:=⟨c0,c1,hgl,(VD _ _).drew⟩;clear hO c2;go_wp2_with fail
      go_region_held3 (fun w'=>w'.cell? ⟨g,k*3,none⟩=some (.string out[k].typ)/\w'.cell? ⟨g,k*3+1,none⟩=some (.string out[k].rel)/\g<w'.heap.size/\af wr w')
        (first|exact c3|assumption|exact keepD (by assumption) hbx)
        (first|(go_at_call 118;refine(jf ad cap rs _ _ _ (by omega) (WZ _ (by first|assumption|exact c3.2.2.2)) HL.out).mono ?_;rintro e w' ⟨⟨rows,WW,capE,rfl,hex,hse,hfs⟩,rfl⟩)|(go_at_call 168;refine(IV ad WW cap capE rs _ rows _ (by omega) (WZ _ (by first|assumption|exact c3.2.2.2)) HL.out (hfs.small YI.out).1 hse (hfs.light HL.out).2 (hfs.small YI.out).2 (Ai rs HL.out _ rows (hfs.small YI.out).1 (hfs.light HL.out).2)).mono ?_;rintro e w' ⟨⟨v,rfl,hown⟩,hbx⟩))
      rename_i hHeld;have Yd:Hid (af wr w'):=hHeld.2.2.2;have Xt:Hid (RowS w w' (some ⟨g,0,none⟩) g out):=HR.out.kept hHeld.2.2.2;have HDK:Hid (qH (ag rs) out[k].typ (aj rows)=il (ag rs) (av (ag rs))[k]):=by
        show _=_;rw[<-HKE.out,hex];rfl
      obtain⟨ds,hds⟩:∃ds,ds=il (ag rs) (av (ag rs))[k]:=⟨_,rfl⟩;rw[HDK.out,<-hds]at hown;obtain⟨adD,cpD,rfl,hD⟩:=UX hown;have HD5:=aC hD;have hdl:ds.length<=100000000:=by
        have:=Ai rs HL.out out[k].typ rows (hfs.small YI.out).1 (hfs.light HL.out).2 (aj rows).length;have e:=HDK.out;unfold qH at e;rw[e,<-hds]at this;exact this
      have HDS:Hid (ds=il (ag rs) (av (ag rs))[k]):=hds;have HKM:Hid ((av (ag rs))[k]∈av (ag rs)):=Vz hke;clear hHeld hown hD hds HDK c0 c1 c3 hex hse hfs hbx WZ HKE;obtain⟨wq,hwq⟩:∃wq,wq=wr:=⟨_,rfl⟩;subst hwq;go_wp2_with fail;go_loopw[7,10] (fun m i w2=>∃(mb:Bool) (j:Nat) (o2:List St),m=.bool mb/\j<=ds.length/\i=.int .i64 j/\Hid (Mid (ag rs) n oS k j mb o2)/\Hid (RowS w w2 (some ⟨g,0,none⟩) g o2)/\Hid (SQ w2 wq.heap.size adD ds)) (fun _ i _=>ds.length-(intOf i).toNat);case atStart=>exact⟨mb,0,out,rfl,VG _,rfl,HM,Xt,HD5⟩
      clear HM HR Xt HD5 Yd;obtain⟨mc,j,o2,rfl,hj,rfl,XE,HR2,HD2⟩:=hrel;have Ye:k<o2.length:=by rw[XE.out.len];exact hlt
      rcases HR2.out.at' with e|⟨-,hgw2,hgl2,hO2,hfz2⟩
      · rw[e]at Ye;simp at Ye
      have f2:=hfz2 (k*3+2);obtain⟨z0,z1,z2⟩:=hO2 k Ye;by_cases hjl:j<ds.length
      · rcases HD2.out with e|⟨bd,rfl,hbd,hbl,hDc⟩
        · rw[e]at hjl;simp at hjl
        obtain⟨x0,x1,x2⟩:=hDc j hjl;have HKE2:Hid (o2[k].key=(av (ag rs))[k]):=XE.out.key Ye hke;have HDJ:Hid ((il (ag rs) o2[k].key)[j]?=some ds[j]):=by
          show _=_;rw[HKE2.out,<-HDS.out];exact VO hjl
        have HDF:Hid ((ds[j].typ,ds[j].rel)∈av (ag rs)):=HF.out _ HKM.out ds[j] (by rw[<-HDS.out];exact Vz hjl);obtain⟨i,hi2,hat,hin,hpos,hub⟩:=XE.out.at _ HDF.out;obtain⟨y0,y1,y2⟩:=hO2 i hi2;have hi3:i<n:=by rw[<-XE.out.len];exact hi2
        have HW:Hid (pz o2 ds[j]=fP o2 (ds[j].typ,ds[j].rel)+stepOf ds[j]):=rfl;have HL2:Hid (o2.length=n):=XE.out.len;have HSN:Hid (IU wr (some ⟨g,0,none⟩) o2):=HR2.out.slN;rw[hin]at y2;obtain⟨x,hx⟩:∃x,x=fP o2 (ds[j].typ,ds[j].rel):=⟨_,rfl⟩;have HX:Hid (pz o2 ds[j]=x+stepOf ds[j]):=by rw[hx];exact HW
        rw[<-hx]at hpos hub y2;obtain⟨kn,hkn⟩:∃kn,kn=o2[k].n:=⟨_,rfl⟩;rw[<-hkn]at z2;have HKN:Hid (kn=o2[k].n):=hkn;have hkn1:0<=kn:=by rw[hkn];exact XE.out.round.pos _ (Vz Ye)
        have hkn2:kn<=n+1+j:=by rw[hkn];exact XE.out.lek Ye
        have hj1:=bq j;have hj2:(j:Int)<(ds.length:Int):=by omega
        have hi4:=bq i;have hi5:(i:Int)<(n:Int):=by omega
        have HAT:Hid (gQ ds[j].typ ds[j].rel o2 0=(i:Int)):=hat;have hx5:(2:Int)<5:=by omega
        clear hfz2 hO2 hDc hx hkn hin y0 y1 hi2 HW hat z0 z1;go_wp2_with fail
        go_region_held3 (fun w'=>w'.cell? ⟨bd,j*3,none⟩=some (.string ds[j].typ)/\w'.cell? ⟨bd,j*3+1,none⟩=some (.string ds[j].rel)/\w'.cell? ⟨g,i*3+2,none⟩=some (.int .i64 x))
          (first|assumption|exact⟨x0,x1,y2⟩)
          (first|(go_at_call 169;refine(TM (some ⟨g,0,none⟩) cpO n o2 (ds[j].typ,ds[j].rel) _ HL2.out (by omega) (by first|exact HSN.out|assumption) i HAT.out).mono ?_;rintro e w' ⟨rfl,rfl⟩))
        rename_i hHeld2;have HR3:Hid (RowS w wr.drew (some ⟨g,0,none⟩) g o2):=HR2.out.kept ((VD _ _).drew);have HD3:Hid (SQ wr.drew wq.heap.size (some ⟨bd,0,none⟩) ds):=HD2.out;clear hHeld2 x0 x1 y2;cases hneg:ds[j].neg
        case' true =>
          have Yt:Hid (pz o2 ds[j]=x+1):=by show _=_;rw[HX.out];simp[stepOf,hneg]
          rw[hneg]at x2;by_cases hgt:kn<x+1
          · have Zz:Hid (Mid (ag rs) n oS k (j+1) true (o2.set k ⟨o2[k].typ,o2[k].rel,x+1⟩)):=by
              have:=XE.out.yes HF.out Ye ds[j] HDJ.out (by rw[Yt.out,<-HKN.out];exact hgt);rw[Yt.out]at this;exact this
            have HR4:Hid (RowS w (wr.drew.setCell ⟨g,k*3+2,none⟩ (.int .i64 (x+1))) (some ⟨g,0,none⟩) g (o2.set k ⟨o2[k].typ,o2[k].rel,x+1⟩)):=HR3.out.set Ye (x+1);have HD4:Hid (SQ (wr.drew.setCell ⟨g,k*3+2,none⟩ (.int .i64 (x+1))) wq.heap.size (some ⟨bd,0,none⟩) ds):=HD3.out.set hgl;clear XE HR2 HR3 HD2 HD3;go_wp2;go_roundw;case rel=>exact⟨true,j+1,_,rfl,by omega,by go_num,Zz,HR4,HD4⟩
            simp[intOf]<;>omega
        case' false =>
          have Yt:Hid (pz o2 ds[j]=x):=by show _=_;rw[HX.out];simp[stepOf,hneg]
          rw[hneg]at x2;by_cases hgt:kn<x
          · have Zz:Hid (Mid (ag rs) n oS k (j+1) true (o2.set k ⟨o2[k].typ,o2[k].rel,x⟩)):=by
              have:=XE.out.yes HF.out Ye ds[j] HDJ.out (by rw[Yt.out,<-HKN.out];exact hgt);rw[Yt.out]at this;exact this
            have HR4:Hid (RowS w (wr.drew.setCell ⟨g,k*3+2,none⟩ (.int .i64 (x))) (some ⟨g,0,none⟩) g (o2.set k ⟨o2[k].typ,o2[k].rel,x⟩)):=HR3.out.set Ye (x);have HD4:Hid (SQ (wr.drew.setCell ⟨g,k*3+2,none⟩ (.int .i64 (x))) wq.heap.size (some ⟨bd,0,none⟩) ds):=HD3.out.set hgl;clear XE HR2 HR3 HD2 HD3;go_wp2;go_roundw;case rel=>exact⟨true,j+1,_,rfl,by omega,by go_num,Zz,HR4,HD4⟩
            simp[intOf]<;>omega
        all_goals
          · have Zz:Hid (Mid (ag rs) n oS k (j+1) mc o2):=XE.out.no Ye ds[j] HDJ.out (by rw[Yt.out,<-HKN.out];omega);clear XE HR2 HD2;go_wp2;go_roundw;case rel=>exact⟨mc,j+1,o2,rfl,by omega,by go_num,Zz,HR3,HD3⟩
            simp[intOf]<;>omega
      · obtain rfl:j=ds.length:=by omega
        have HKE2:Hid (o2[k].key=(av (ag rs))[k]):=XE.out.key Ye hke;have HJ:Hid (ds.length=(il (ag rs) o2[k].key).length):=by show _=_;rw[HKE2.out,<-HDS.out]
        clear z0 z1 hO2 hfz2 f2;by_cases hov:(n:Int)<o2[k].n
        · have YZ:Hid (¬ ∃f,Sol (ag rs) f):=XE.out.over HF.out Ye hov;have hkn2:o2[k].n<=n+1+ds.length:=XE.out.lek Ye;go_wp2;exact bodyPost_ret (v:=.tuple #[.slice none 0 0,.bool false]) (by simp[results,Tryz.results117,go_sem]) rfl ⟨.inr ⟨rfl,YZ.out⟩,HR2.out.below⟩
        · have Zz:Hid (Mid (ag rs) n oS (k+1) 0 mc o2):=XE.out.next Ye HJ.out (by omega);clear XE;go_wp2;go_roundw;case rel=>exact⟨mc,k+1,o2,rfl,by omega,by go_num,Zz,HR2⟩
          simp[intOf]<;>omega
    · obtain rfl:k=n:=by omega
      have Xa:Hid (Pass (ag rs) k mb out):=HM.out.done rfl;have HLS:Hid (CU wr g k (.bool mb)<CU w0 g k (.bool true)):=I7 HRS.out HR.out HM.out Z8.out;go_wp2;go_roundw;case rel=>exact⟨mb,out,rfl,Xa,HR⟩
      exact HLS.out
set_option linter.unusedVariables false
set_option maxRecDepth 100000
section
variable  {α:Type}{T:TypeId}{size:Nat}{cells:α->List Value}{K:World->Nat->α->Prop}{I:α->Nat->Prop}{w w':World}{base:Nat}{v:Value}
theorem AU{q q':α}{rs:List α}(hI:∀g,I q' g->I q g)(h:∀(x y:Nat) (hx:x<(q::rs).length) (hy:y<(q::rs).length),x≠y->∀g,I (q::rs)[x] g->¬I (q::rs)[y] g):
  ∀(x y:Nat) (hx:x<(q'::rs).length) (hy:y<(q'::rs).length),x≠y->∀g,I (q'::rs)[x] g->¬I (q'::rs)[y] g:=by
 intro x y hx hy hxy g h1 h2;cases x with
 | zero =>
  cases y with
  | zero=>exact hxy rfl
  | succ y=>exact h 0 (y+1) (by simp) (by simpa using hy) (by omega) g (hI g h1) h2
 | succ x =>
  cases y with
  | zero=>exact h (x+1) 0 (by simpa using hx) (by simp) (by omega) g h1 (hI g h2)
  | succ y=>exact h (x+1) (y+1) (by simpa using hx) (by simpa using hy) hxy g h1 h2
theorem Xf.first(kd:Kid K I){q q':α}{rs:List α}{b n cap j:Nat}{u:Value}(h:Xf T size cells K I w base (.slice (some ⟨b,0,none⟩) n cap) (q::rs))(hn:n=rs.length+1)
  (hq':∀w,K w base q->K w base q') (hI:∀g,I q' g->I q g) (hset:((q::rs).flatMap cells).set j u=(q'::rs).flatMap cells) :
  Xf T size cells K I (w.setCell ⟨b,j,none⟩ u) base (.slice (some ⟨b,0,none⟩) n cap) (q'::rs):=by
 have own1:w.ownsRow base T size (.slice (some ⟨b,0,none⟩) n cap) n ((q::rs).flatMap cells):=by have:=h.own;rwa [show(q::rs).length=n by simp[hn]]at this
 obtain⟨ZJ,hg2⟩:=own1.stored j u;rw[hset]at ZJ;have hne:∀p∈q::rs,∀g,I p g->g≠b:=fun p hp g hi e=>h.head p hp g hi (by rw[e];rfl);have keep:∀p∈q::rs,K (w.setCell ⟨b,j,none⟩ u) base p:=fun p hp=>kd.heap w _ base p (h.kid p hp) hg2.size fun g hi=>Below.heap_setCell w _ u g (hne p hp g hi);refine⟨by simpa[hn] using ZJ,fun p hp=>?_,fun p hp g hi=>?_,AU hI h.two⟩
 ·rcases VU.1 hp with rfl|hp
  ·exact hq' _ (keep q (by simp))
  exact keep p (by simp[hp])
 rcases VU.1 hp with rfl|hp
 ·exact h.head q (by simp) g (hI g hi)
 exact h.head p (by simp[hp]) g hi
theorem Xf.firstIn(kd:Kid K I){q q':α}{rs:List α}(h:Xf T size cells K I w base v (q::rs))(hs:w.heap.size<=w'.heap.size)(hh:∀g,¬I q g->w'.heap[g]?=w.heap[g]?)(hc:cells q'=cells q)(hk:K w' base q')(hI:∀g,I q' g->I q g):
  Xf T size cells K I w' base v (q'::rs):=by
 refine⟨?_,fun p hp=>?_,fun p hp g hi=>?_,AU hI h.two⟩
 ·have h1:=jv (w':=w') h.own fun g hg=>hh g fun hi=>h.head q (by simp) g hi hg;simpa[List.flatMap_cons,hc] using h1
 ·rcases VU.1 hp with rfl|hp
  ·exact hk
  refine kd.heap w w' base p (h.kid p (by simp[hp])) hs fun g hi=>hh g fun hq=>?_;obtain⟨i,hi2,rfl⟩:=WR hp;exact h.two 0 (i+1) (by simp) (by simp;omega) (by omega) g hq hi
 rcases VU.1 hp with rfl|hp
 ·exact h.head q (by simp) g (hI g hi)
 exact h.head p (by simp[hp]) g hi
end
def ER.asK(x:ER)(k:Int):ER:={ x with e:={ x.e with kind:=k } }
theorem NodM.kind{w:ae}{base b n cap:Nat}{x:ER}{xs:Q08}(k:Int)(h:NodM w base (.slice (some ⟨b,0,none⟩) n cap) (x::xs))(hn:n=xs.length+1):NodM (w.setCell ⟨b,0,none⟩ (.int .i64 k)) base (.slice (some ⟨b,0,none⟩) n cap) (x.asK k::xs):=by
 have own1:w.ownsRow base 188 5 (.slice (some ⟨b,0,none⟩) n cap) n (jL (x::xs)):=by have:=h.own;rwa [show(x::xs).length=n by simp[hn]]at this
 obtain⟨ZJ,hg2⟩:=own1.stored 0 (.int .i64 k);have hset:(jL (x::xs)).set 0 (.int .i64 k)=jL (x.asK k::xs):=by simp[jL,ER.row,ER.asK]
 rw[hset]at ZJ;have hb:∀q∈x::xs,∀g,qd q g->g≠b:=fun q hq g hg e=>(h.lie q hq g hg).2.2.2 (by rw[e];rfl);have hsame:∀g,g≠b->(w.setCell ⟨b,0,none⟩ (.int .i64 k)).heap[g]?=w.heap[g]?:=fun g hg=>Below.heap_setCell w _ _ g hg;have hall:∀{P:ER->Prop},(∀q∈x::xs,P q)->(P x->P (x.asK k))->∀q∈x.asK k::xs,P q:=fun hP hx q hq=>by
  rcases VU.1 hq with rfl|hq
  ·exact hx (hP x (by simp))
  exact hP q (by simp[hq])
 refine ⟨by simpa [hn] using ZJ,hall h.zA id,hall h.zK id,hall (P:=fun q=>q.ok _) (fun q hq=>rQ (h.ok q hq) hg2.size (h.zA q hq) (h.zK q hq) fun g hg=>hsame g (hb q hq g hg)) id,hall (P:=fun q=>∀ g,qd q g->base<=g/\g<(w.setCell ⟨b,0,none⟩ (.int .i64 k)).heap.size/\jJ (w.setCell ⟨b,0,none⟩ (.int .i64 k)) g/\_) (fun q hq g hg=>by
  obtain⟨a1,a2,a3,a4⟩:=h.lie q hq g hg;exact⟨a1,Vy a2 hg2.size,cz a3 (hsame g (hb q hq g hg)),a4⟩) id,hall h.one id,?_,hall h.cA id⟩
 exact AU (I:=qd) (q:=x) (q':=x.asK k) (fun g hg=>hg) h.two
theorem iV.named{w:ae}{base b n cap:Nat}{t:TR}{ts:Q06}(nm:bW)(h:iV w base (.slice (some ⟨b,0,none⟩) n cap) (t::ts))(hn:n=ts.length+1):iV (w.setCell ⟨b,0,none⟩ (.string nm)) base (.slice (some ⟨b,0,none⟩) n cap) (({ t with name:=nm }:TR)::ts) :=
 Xf.first mU h hn (fun w hk=>hk) (fun g hg=>hg) (by simp[TR.cells,TR.vs])
def TR.asK(t:TR)(q:RR)(qs:Q07)(x:ER)(xs:Q08)(k:Int):TR:={ t with rows:={ q with rows:=x.asK k::xs }::qs }
theorem iV.kind{w:ae}{base b:Nat}{v:Value}{t:TR}{ts:Q06}{q:RR}{qs:Q07}{x:ER}{xs:Q08}(k:Int)(h:iV w base v (t::ts))(ht:t.rows=q::qs)(hq:q.rows=x::xs)(hb:q.ad=some ⟨b,0,none⟩):
  iV (w.setCell ⟨b,0,none⟩ (.int .i64 k)) base v (t.asK q qs x xs k::ts):=by
 have hkt:=h.kid t (by simp);have hR:BO w base t.vs (q::qs):=by have:=hkt;unfold kT at this;rwa [ht]at this
 have hkq:=hR.kid q (by simp);have hN:NodM w base q.vs (x::xs):=by have:=hkq;unfold kR at this;rwa [hq]at this
 have hvq:q.vs=.slice (some ⟨b,0,none⟩) (xs.length+1) q.cap:=by unfold RR.vs;rw[hb,hq];rfl
 rw[hvq]at hN;have hN2:=hN.kind k rfl;have hsz:w.heap.size<=(w.setCell ⟨b,0,none⟩ (.int .i64 k)).heap.size:=by simp
 have hsame:∀g,g≠b->(w.setCell ⟨b,0,none⟩ (.int .i64 k)).heap[g]?=w.heap[g]?:=fun g hg=>Below.heap_setCell w _ _ g hg;have hib:iR q b:=.inl (by rw[hvq];rfl);have hvq2:({ q with rows:=x.asK k::xs }:RR).vs=q.vs:=by unfold RR.vs;rw[hq];rfl
 have hiR:∀g,iR { q with rows:=x.asK k::xs } g->iR q g:=fun g hg=>by
  rcases hg with hg|⟨y,hy,hg⟩
  ·exact .inl (by rw[<-hvq2];exact hg)
  rcases VU.1 hy with rfl|hy
  ·exact .inr ⟨x,by rw[hq];simp,hg⟩
  exact .inr ⟨y,by rw[hq];simp[hy],hg⟩
 have hR2:BO (w.setCell ⟨b,0,none⟩ (.int .i64 k)) base t.vs ({ q with rows:=x.asK k::xs }::qs):=Xf.firstIn IW hR hsz (fun g hg=>hsame g fun e=>hg (by rw[e];exact hib)) (by unfold RR.cells;rw[hvq2]) (by show NodM _ _ _ _;rw[hvq2,hvq];exact hN2) hiR;have hvt:(t.asK q qs x xs k).vs=t.vs:=by unfold TR.vs TR.asK;rw[ht];rfl
 have hit:iT t b:=.inr ⟨q,by rw[ht];simp,hib⟩;refine Xf.firstIn mU h hsz (fun g hg=>hsame g fun e=>hg (by rw[e];exact hit)) (by unfold TR.cells;rw[hvt];rfl) (by show BO _ _ _ _;rw[hvt];exact hR2) fun g hg=>?_;rcases hg with hg|⟨y,hy,hg⟩
 ·exact .inl (by rw[<-hvt];exact hg)
 rcases VU.1 hy with rfl|hy
 ·exact .inr ⟨q,by rw[ht];simp,hiR g hg⟩
 exact .inr ⟨y,by rw[ht];simp[hy],hg⟩
theorem rZ(w:ae):(zeroValue 147).run prog w=.ok (.slice none 0 0) w:=by kernel_rfl
theorem zb(b n:Nat)(M:ByteArray×ByteArray->Option Value)(t r:bW)(w:ae)(ht:t.size<=maxLen)(hr:r.size<=maxLen)(hV:aN dO prog 151 w b n M):
  Calls prog 173 #[.map (some b),.string t,.string r] w fun e w'=>e=.returned (.bool (M (t,r)).isSome)/\w'=w:=by
 obtain⟨kl,hkl⟩:=ku (t,r) ht hr;have HV:Hid (aN dO prog 151 w b n M):=hV;have XB:Hid (keyOf prog 151 (dO (t,r))=some kl):=hkl;clear hkl hV;go_enter func173,ntmps173;go_wp2_with(first|(at_lookup;refine dJ _ rfl _ _ 95 rfl 151 147 jb underlying95 (rZ _) b n M rfl HV.out (t,r) kl rfl XB.out ?_)|go_in);go_ret;exact⟨rfl,rfl⟩
theorem Di(a:Al)(w:ae):
  Calls prog 233 #[.agg #[.string a.t,.string a.s]] w fun e w'=>e=.returned (.bool (!a.s.toList.isEmpty))/\af w w':=by
 cases h:a.s.toList.isEmpty;case true=>
  go_enter func233,ntmps233;go_wp2;go_ret;exact⟨rfl,(VD _ _).alloc (VC _) _⟩
 go_enter func233,ntmps233;go_wp2;go_ret;exact⟨rfl,(VD _ _).alloc (VC _) _⟩
theorem xY(xs:Q0a)(k:Nat)(h:k<xs.length):(xs.drop k).any (fun a=>!a.s.toList.isEmpty)=((!xs[k].s.toList.isEmpty) || (xs.drop (k+1)).any (fun a=>!a.s.toList.isEmpty)):=by
 rw[V5 h];rfl
theorem BX(ad:Q02)(cap:Nat)(xs:Q0a)(w:ae)(hlen:xs.length<=1048576)(hs:ll w ad xs):
  Calls prog 248 #[.slice ad xs.length cap,.func (Fn.func 233) #[] #[]] w fun e w'=>(∃r:Int,e=.returned (.int .i64 r)/\decide (0<=r)=xs.any (fun a=>!a.s.toList.isEmpty))/\af w w':=by
 have HS:=aC hs;clear hs;go_enter func248,ntmps248;go_wp2_with fail;go_loopw[8] (fun i wr=>∃k:Nat,k<=xs.length/\i=.int .i64 k/\Hid ((xs.drop k).any (fun a=>!a.s.toList.isEmpty)=xs.any (fun a=>!a.s.toList.isEmpty))/\Hid (af w wr)) (fun i _=>xs.length-(intOf i).toNat);case atStart=>exact⟨0,VG _,rfl,rfl,VD _ _⟩
 obtain⟨k,hk,rfl,HP,HB⟩:=hrel;by_cases hlt:k<xs.length
 ·rcases HS.out.below HB.out with rfl|⟨b,off,rfl,hb,hr⟩
  ·simp at hlt
  obtain⟨t0,t1⟩:=hr k hlt;have hk1:=bq k;have hk2:(k:Int)<(xs.length:Int):=by omega
  clear hr;cases he:xs[k].s.toList.isEmpty;case false=>
   have HN:Hid (xs.any (fun a=>!a.s.toList.isEmpty)=true):=by show _=_;rw[<-HP.out,xY _ _ hlt,he];rfl
   go_wp2_with(go_at_call 233;refine(Di xs[k] _).mono ?_;rintro e w' ⟨he2,hbx⟩;rw[he]at he2;subst he2);go_ret;exact⟨⟨k,rfl,by rw[HN.out];simp⟩,HB.out.trans (hbx.mono HB.out.size)⟩
  have Xa:Hid ((xs.drop (k+1)).any (fun a=>!a.s.toList.isEmpty)=xs.any (fun a=>!a.s.toList.isEmpty)):=by show _=_;rw[<-HP.out,xY _ _ hlt,he];rfl
  go_wp2_with(go_at_call 233;refine(Di xs[k] _).mono ?_;rintro e w' ⟨he2,hbx⟩;rw[he]at he2;subst he2);go_roundw;case rel=>exact⟨k+1,by omega,by go_num,Xa,HB.out.trans (hbx.mono HB.out.size)⟩
  simp[intOf]<;>omega
 have HN:Hid (xs.any (fun a=>!a.s.toList.isEmpty)=false):=by show _=_;rw[<-HP.out,VW (by omega)];rfl
 go_wp2;go_ret;exact⟨⟨-1,rfl,by rw[HN.out];simp⟩,HB.out⟩
theorem wV(ad:Q02)(cap:Nat)(xs:Q0a)(w:ae)(hlen:xs.length<=1048576)(hs:ll w ad xs):
  Calls prog 232 #[.slice ad xs.length cap,.func (Fn.func 233) #[] #[]] w fun e w'=>e=.returned (.bool (xs.any (fun a=>!a.s.toList.isEmpty)))/\af w w':=by
 go_enter func232,ntmps232;go_wp2_with fail;refine(BX ad cap xs _ hlen hs).mono ?_;rintro e w' ⟨⟨r,rfl,hr⟩,hbx⟩;have HR:Hid (decide (0<=r)=xs.any (fun a=>!a.s.toList.isEmpty)):=hr;clear hr hs;go_wp2;go_ret;exact⟨by rw[<-HR.out];rfl,hbx⟩
theorem Pk(xs:Q0a):(!xs.any fun a=>!a.s.toList.isEmpty)=xs.all fun a=>a.s.toList.isEmpty:=by
 induction xs with
 | nil=>rfl
 | cons a xs ih=>simp only[WT,List.all_cons,Bool.not_or,Bool.not_not,ih]
set_option maxRecDepth 100000 in
theorem vH(ad:Q02)(cap:Nat)(rs:Q08)(w:ae)(hlen:rs.length<=1048576)(hs:jq w ad rs)(hl:∀r∈rs,r.e.light):
  Calls prog 213 #[.slice ad rs.length cap] w fun e w'=>e=.returned (.bool (bH (aj rs)))/\af w w':=by
 by_cases h1:rs.length=1
 ·obtain⟨r,rfl⟩:∃r,rs=[r]:=List.length_eq_one_iff.1 h1;rcases hs with h|⟨b,off,rfl,hb,hr,hok⟩
  ·cases h
  obtain⟨t0,t1,t2,t3,t4⟩:=hr 0 (by simp);simp only[Nat.zero_mul,Nat.add_zero,List.getElem_cons_zero]at t0 t1 t2 t3 t4;have XK:Hid (r.ok w):=hok r (by simp);obtain⟨lg,-⟩:=hl r (by simp);clear hr hok h1;simp only[We,WH,V4];by_cases hq:r.e.kind=1
  ·have HD:Hid (bH (aj [r])=!r.e.allow.any fun a=>!a.s.toList.isEmpty):=by show _=_;rw[Pk];simp[bH,aj,hq]
   have hqb:(r.e.kind==1)=true:=by simpa using hq
   go_enter func213,ntmps213;go_wp2_with(go_at_call 232;refine(wV _ _ r.e.allow _ lg (XK.out.1.below ((VD _ _)))).mono ?_;rintro e w' ⟨rfl,hbx⟩);go_ret;exact⟨by rw[HD.out];rfl,hbx⟩
  have HD:Hid (bH (aj [r])=false):=by show _=_;simp[bH,aj,hq]
  have hqb:(r.e.kind==1)=false:=by simpa using hq
  go_enter func213,ntmps213;go_wp2;go_ret;exact⟨by rw[HD.out];rfl,VD _ _⟩
 have HD:Hid (bH (aj rs)=false):=by
  show _=_;rcases rs with _|⟨r,_|⟨r2,rs⟩⟩
  ·rfl
  ·simp at h1
  rfl
 have h2:((rs.length:Int)==1)=false:=by
  have:¬((rs.length:Int)=1):=by omega
  simpa using this
 clear hs;go_enter func213,ntmps213;go_wp2;go_ret;exact⟨by rw[HD.out];rfl,VD _ _⟩
end Go.Proofs.YtcgdckphpjfmhaaGreatDoor
namespace Go.Proofs.YtcgdckphpjfmhaaGreatDoor
open ChangeShapes WideShapes ChangeAt RowKit
open Pl
attribute [local go_sem ↓] Go.wp_at_zero Go.wp_at_succ
structure BelowD(B:Nat)(w w':World):Prop where
 b:Below B w w'
 d:w.drawn<=w'.drawn
theorem BelowD.size{B:Nat}{w w':ae}(h:BelowD B w w'):w.heap.size<=w'.heap.size:=h.b.size
theorem BelowD.refl(B:Nat)(w:ae):BelowD B w w:=⟨VD B w,VC _⟩
theorem BelowD.trans{B:Nat}{a b c:ae}(h:BelowD B a b)(k:BelowD B b c):BelowD B a c:=⟨h.b.trans k.b,VJ h.d k.d⟩
theorem BelowD.mono{B B':Nat}{w w':ae}(h:BelowD B w w')(hB:B'<=B):BelowD B' w w':=⟨h.b.mono hB,h.d⟩
theorem BelowD.drew{B:Nat}{a w:ae}(h:BelowD B a w):BelowD B a w.drew:=⟨h.b.drew,VJ h.d (Nat.le_succ _)⟩
theorem BelowD.alloc{B:Nat}{a w:ae}(h:BelowD B a w)(hB:B<=w.heap.size)(o:Obj):BelowD B a (w.alloc o):=⟨h.b.alloc hB o,h.d⟩
theorem BelowD.cell{B:Nat}{w w':ae}(h:BelowD B w w'){p:Addr}(hp:p.block<B):w'.cell? p=w.cell? p:=h.b.cell hp
theorem BelowD.frozen{B:Nat}{w w':ae}(h:BelowD B w w'){p:Addr}(hp:p.block<B):w'.frozen? p=w.frozen? p:=h.b.frozen hp
theorem BelowD.grew{w w':ae}(h:BelowD w.heap.size w w'):∃q os,w'=Go.Sort.grow (w.drewN q) os:=by
 obtain⟨⟨h1,h2,h3,h4,h5⟩,h6⟩:=h;refine⟨w'.drawn-w.drawn,w'.heap.extract w.heap.size w'.heap.size,?_⟩;obtain⟨hp,tp,dr,os,ou⟩:=w';simp only at h1 h2 h3 h4 h5 h6;subst h1 h2 h3;simp only[Go.Sort.grow,World.drewN,World.mk.injEq,true_and,and_true];refine⟨?_,by omega⟩;apply Array.ext
 ·simp;omega
 intro i hi hj;by_cases hlt:i<w.heap.size
 ·have:=h5 i hlt;rw[Wy hi,Wy hlt]at this;injection this with this;rw[this,Array.getElem_append_left hlt]
 rw[Array.getElem_append_right (by omega)];simp;congr 1;omega
theorem ut{W w1:ae}(hb:BelowD W.heap.size W w1):(∀b o,b<W.heap.size->w1.cell? ⟨b,o,none⟩=W.cell? ⟨b,o,none⟩)/\(∀b o,b<W.heap.size->w1.frozen? ⟨b,o,none⟩=W.frozen? ⟨b,o,none⟩) :=
 ⟨fun b o h=>hb.cell (p:=⟨b,o,none⟩) h,fun b o h=>hb.frozen (p:=⟨b,o,none⟩) h⟩
theorem fG(t i:bW)(w:ae)(ht:t.size<=maxLen)(hi:i.size<=maxLen):
  Calls prog 178 #[.agg #[.string t,.string i]] w fun e w'=>e=.returned (.bool (fH t i))/\BelowD w.heap.size w w':=by
 by_cases hn:aS t=true
 all_goals
  go_enter func178,ntmps178;go_wp2_with(first|(go_at_call 170;refine(aL _ _ ht).mono ?_;rintro e w' ⟨rfl,rfl⟩)|(go_at_call 214;refine(zU _ _ hi).mono ?_;rintro e w' ⟨rfl,rfl⟩));go_ret;exact⟨ah (by simp[fH,hn]),(BelowD.refl _ _).alloc (VC _) _⟩
theorem wW(t i:bW)(w:ae)(ht:t.size<=maxLen)(hi:i.size<=maxLen):
  Calls prog 191 #[.agg #[.string t,.string i]] w fun e w'=>e=.returned (.string (aB t i))/\BelowD w.heap.size w w':=by
 by_cases hn:fH t i=true
 ·obtain⟨h1,h2⟩:=yY hn;have HT:Hid (aB t i=t++⟨#[58]⟩++i):=mX hn;go_enter func191,ntmps191;go_wp2_with(go_at_call 178;refine(fG _ _ _ ht hi).mono ?_;rintro e w' ⟨rfl,hb⟩;obtain⟨hc,hf⟩:=ut hb);go_ret;exact⟨fZ HT.out.symm,((BelowD.refl _ _).alloc (VC _) _).trans (hb.mono (by simp))⟩
 have hn':fH t i=false:=by simpa using hn
 have HT:Hid (aB t i=⟨#[]⟩):=tH hn';clear hn;go_enter func191,ntmps191;go_wp2_with(go_at_call 178;refine(fG _ _ _ ht hi).mono ?_;rintro e w' ⟨rfl,hb⟩;obtain⟨hc,hf⟩:=ut hb);go_ret;exact⟨fZ HT.out.symm,((BelowD.refl _ _).alloc (VC _) _).trans (hb.mono (by simp))⟩
theorem vI(a b r c d s:bW)(w:ae)(ha:a.size<=maxLen)(hb:b.size<=maxLen)(hr:r.size<=maxLen)(hc:c.size<=maxLen)(hd:d.size<=maxLen)(hs:s.size<=maxLen):
  Calls prog 128 #[.agg #[.string a,.string b,.string r,.string c,.string d,.string s]] w fun e w'=>e=.returned (.bool (bF a b r c d s))/\BelowD w.heap.size w w':=by
 by_cases h1:fH a b=true
 ·by_cases h2:aS r=true
  ·by_cases h3:fH c d=true
   ·have HT:Hid (bF a b r c d s=wE s):=zx h1 h2 h3;go_enter func128,ntmps128;go_wp2_with fail;refine(fG _ _ _ ha hb).mono ?_;rintro e w1 ⟨rfl,hb1⟩;obtain⟨hc1,hf1⟩:=ut hb1;have hz1:w.heap.size<w1.heap.size:=by have:=hb1.size;simp at this;omega
    go_wp2_with fail;refine(aL _ _ hr).mono ?_;rintro e w1' ⟨rfl,rfl⟩;go_wp2_with fail;refine(fG _ _ _ hc hd).mono ?_;rintro e w2 ⟨rfl,hb2⟩;obtain⟨hc2,hf2⟩:=ut hb2;have hz2:w.heap.size<w2.heap.size:=by have:=hb2.size;omega
    go_wp2_with(go_at_call 179;refine(CL _ _ hs).mono ?_;rintro e w3 ⟨rfl,rfl⟩)
    all_goals go_ret
    all_goals exact⟨ah (HT.out.trans (by simp[wE, *])).symm,((BelowD.refl _ _).alloc (VC _) _).trans ((hb1.mono (by simp)).trans (hb2.mono (by omega)))⟩
   have h3':fH c d=false:=by simpa using h3
   have HT:Hid (bF a b r c d s=false):=zw h3';clear h3;go_enter func128,ntmps128;go_wp2_with fail;refine(fG _ _ _ ha hb).mono ?_;rintro e w1 ⟨rfl,hb1⟩;obtain⟨hc1,hf1⟩:=ut hb1;have hz1:w.heap.size<w1.heap.size:=by have:=hb1.size;simp at this;omega
   go_wp2_with fail;refine(aL _ _ hr).mono ?_;rintro e w1' ⟨rfl,rfl⟩;go_wp2_with fail;refine(fG _ _ _ hc hd).mono ?_;rintro e w2 ⟨rfl,hb2⟩;go_wp2;go_ret;exact⟨ah HT.out.symm,((BelowD.refl _ _).alloc (VC _) _).trans ((hb1.mono (by simp)).trans (hb2.mono (by omega)))⟩
  have h2':aS r=false:=by simpa using h2
  have HT:Hid (bF a b r c d s=false):=zu h2';clear h2;go_enter func128,ntmps128;go_wp2_with fail;refine(fG _ _ _ ha hb).mono ?_;rintro e w1 ⟨rfl,hb1⟩;obtain⟨hc1,hf1⟩:=ut hb1;go_wp2_with fail;refine(aL _ _ hr).mono ?_;rintro e w1' ⟨rfl,rfl⟩;go_wp2;go_ret;exact⟨ah HT.out.symm,((BelowD.refl _ _).alloc (VC _) _).trans (hb1.mono (by simp))⟩
 have h1':fH a b=false:=by simpa using h1
 have HT:Hid (bF a b r c d s=false):=zt h1';clear h1;go_enter func128,ntmps128;go_wp2_with fail;refine(fG _ _ _ ha hb).mono ?_;rintro e w1 ⟨rfl,hb1⟩;go_wp2;go_ret;exact⟨ah HT.out.symm,((BelowD.refl _ _).alloc (VC _) _).trans (hb1.mono (by simp))⟩
theorem TS{w W w':ae}{n:Nat}{x0 x1 x2 x3 x4 x5:Value}(h:W.cell? ⟨n,0,none⟩=some x0/\W.cell? ⟨n,1,none⟩=some x1/\W.cell? ⟨n,2,none⟩=some x2/\W.cell? ⟨n,3,none⟩=some x3/\W.cell? ⟨n,4,none⟩=some x4/\W.cell? ⟨n,5,none⟩=some x5/\n<W.heap.size/\BelowD n w W)(hb:BelowD W.heap.size W w'):w'.cell? ⟨n,0,none⟩=some x0/\w'.cell? ⟨n,1,none⟩=some x1/\w'.cell? ⟨n,2,none⟩=some x2/\w'.cell? ⟨n,3,none⟩=some x3/\w'.cell? ⟨n,4,none⟩=some x4/\w'.cell? ⟨n,5,none⟩=some x5/\n<w'.heap.size/\BelowD n w w':=by
 obtain⟨h0,h1,h2,h3,h4,h5,hn,hB⟩:=h;have hc:∀o,w'.cell? ⟨n,o,none⟩=W.cell? ⟨n,o,none⟩:=fun o=>hb.cell (p:=⟨n,o,none⟩) hn;refine⟨by rw[hc];exact h0,by rw[hc];exact h1,by rw[hc];exact h2,by rw[hc];exact h3,by rw[hc];exact h4,by rw[hc];exact h5,Vy hn hb.size,hB.trans (hb.mono (WS hn))⟩
theorem wX(a b r c d s:bW)(w:ae)(ha:a.size<=maxLen)(hb:b.size<=maxLen)(hr:r.size<=maxLen)(hc:c.size<=maxLen)(hd:d.size<=maxLen)(hs:s.size<=maxLen):
  Calls prog 148 #[.agg #[.string a,.string b,.string r,.string c,.string d,.string s]] w fun e w'=>e=.returned (.string (aY a b r c d s))/\BelowD w.heap.size w w':=by
 by_cases hn:bF a b r c d s=true
 ·obtain⟨h1,h2,h3,h4⟩:=jR hn;have hx:=iw a b;have hy:=iw c d;have Zl:=(nV h2).2;have hs12:=D8 h4;clear h1 h2 h3 h4;go_enter func148,ntmps148;go_wp2_with fail;refine(vI _ _ _ _ _ _ _ ha hb hr hc hd hs).mono ?_;rintro e w1 ⟨rfl,hb1⟩;obtain⟨hc1,hf1⟩:=ut hb1;have hz1:w.heap.size<w1.heap.size:=by have:=hb1.size;simp at this;omega
  have k:∀o v,(w.alloc (.cells #[.string a,.string b,.string r,.string c,.string d,.string s] 29)).cell? ⟨w.heap.size,o,none⟩=some v->w1.cell? ⟨w.heap.size,o,none⟩=some v:=fun o v h=>by rw[hc1 _ _ (by simp)];exact h
  have k0:=k 0 (.string a) (by simp);have k1:=k 1 (.string b) (by simp);have k2:=k 2 (.string r) (by simp);have k3:=k 3 (.string c) (by simp);have k4:=k 4 (.string d) (by simp);have k5:=k 5 (.string s) (by simp);have HB1:BelowD w.heap.size w w1:=((BelowD.refl _ _).alloc (VC _) _).trans (hb1.mono (by simp));clear k hb1 hc1 hf1;have q1:(9223372036854775807<(aB a b).size+1)=False:=by simp;omega
  have q2:(9223372036854775807<(aB a b).size+1+r.size)=False:=by simp;omega
  have q3:(9223372036854775807<(aB a b).size+1+r.size+1)=False:=by simp;omega
  have q4:(9223372036854775807<(aB a b).size+1+r.size+1+(aB c d).size)=False:=by simp;omega
  go_wp2_with fail
  go_region_held3 (fun w'=>w'.cell? ⟨w.heap.size,0,none⟩=some (.string a)/\w'.cell? ⟨w.heap.size,1,none⟩=some (.string b)/\w'.cell? ⟨w.heap.size,2,none⟩=some (.string r)/\w'.cell? ⟨w.heap.size,3,none⟩=some (.string c)/\w'.cell? ⟨w.heap.size,4,none⟩=some (.string d)/\w'.cell? ⟨w.heap.size,5,none⟩=some (.string s)/\w.heap.size<w'.heap.size/\BelowD w.heap.size w w')
   (first|exact TS (by assumption) hbx|exact⟨k0,k1,k2,k3,k4,k5,hz1,HB1.drew⟩)
   (first|(go_at_call 191;refine(wW _ _ _ (by assumption) (by assumption)).mono ?_;rintro e w' ⟨rfl,hbx⟩))
  rename_i hH;obtain⟨g0,g1,g2,g3,g4,g5,gz,gB⟩:=hH;clear k0 k1 k2 k3 k4 k5 hbx q1 q2 q3 q4 HB1;by_cases he:s.toList.isEmpty=true
  ·have HT:Hid (aY a b r c d s=_):=mY hn he;go_wp2;go_ret;exact⟨fZ HT.out.symm,gB⟩
  have he':s.toList.isEmpty=false:=by simpa using he
  have HT:Hid (aY a b r c d s=_):=mZ hn he';clear he;go_wp2;go_ret;exact⟨fZ (HT.out.trans (by simp only[Wt])).symm,gB⟩
 have hn':bF a b r c d s=false:=by simpa using hn
 have HT:Hid (aY a b r c d s=⟨#[]⟩):=tJ hn';clear hn;go_enter func148,ntmps148;go_wp2_with fail;refine(vI _ _ _ _ _ _ _ ha hb hr hc hd hs).mono ?_;rintro e w1 ⟨rfl,hb1⟩;go_wp2;go_ret;exact⟨fZ HT.out.symm,((BelowD.refl _ _).alloc (VC _) _).trans (hb1.mono (by simp))⟩
theorem RD{w W w':ae}{n m k:Nat}{x0 x1 x2 x3 x4 x5 y0 y1 y2 y3 y4 y5:Value}(hk:k<=n)(h:W.cell? ⟨n,0,none⟩=some x0/\W.cell? ⟨n,1,none⟩=some x1/\W.cell? ⟨n,2,none⟩=some x2/\W.cell? ⟨n,3,none⟩=some x3/\W.cell? ⟨n,4,none⟩=some x4/\W.cell? ⟨n,5,none⟩=some x5/\W.cell? ⟨m,0,none⟩=some y0/\W.cell? ⟨m,1,none⟩=some y1/\W.cell? ⟨m,2,none⟩=some y2/\W.cell? ⟨m,3,none⟩=some y3/\W.cell? ⟨m,4,none⟩=some y4/\W.cell? ⟨m,5,none⟩=some y5/\n<W.heap.size/\m<W.heap.size/\BelowD k w W)(hb:BelowD W.heap.size W w'):w'.cell? ⟨n,0,none⟩=some x0/\w'.cell? ⟨n,1,none⟩=some x1/\w'.cell? ⟨n,2,none⟩=some x2/\w'.cell? ⟨n,3,none⟩=some x3/\w'.cell? ⟨n,4,none⟩=some x4/\w'.cell? ⟨n,5,none⟩=some x5/\w'.cell? ⟨m,0,none⟩=some y0/\w'.cell? ⟨m,1,none⟩=some y1/\w'.cell? ⟨m,2,none⟩=some y2/\w'.cell? ⟨m,3,none⟩=some y3/\w'.cell? ⟨m,4,none⟩=some y4/\w'.cell? ⟨m,5,none⟩=some y5/\n<w'.heap.size/\m<w'.heap.size/\BelowD k w w':=by
 obtain⟨h0,h1,h2,h3,h4,h5,h6,h7,h8,h9,h10,h11,hn,hm,hB⟩:=h;have hc:∀o,w'.cell? ⟨n,o,none⟩=W.cell? ⟨n,o,none⟩:=fun o=>hb.cell (p:=⟨n,o,none⟩) hn;have hd:∀o,w'.cell? ⟨m,o,none⟩=W.cell? ⟨m,o,none⟩:=fun o=>hb.cell (p:=⟨m,o,none⟩) hm;exact⟨by rw[hc];exact h0,by rw[hc];exact h1,by rw[hc];exact h2,by rw[hc];exact h3,by rw[hc];exact h4,by rw[hc];exact h5,by rw[hd];exact h6,by rw[hd];exact h7,by rw[hd];exact h8,by rw[hd];exact h9,by rw[hd];exact h10,by rw[hd];exact h11,Vy hn hb.size,Vy hm hb.size,hB.trans (hb.mono (by omega))⟩
theorem KR(w:ae)(o1 o2:Obj):BelowD w.heap.size w ((w.alloc o1).alloc o2) :=
 ((BelowD.refl _ _).alloc (VC _) _).alloc (by simp) _
theorem uu(a b r c d s a' b' r' c' d' s':bW)(w:ae)(ha:a.size<=maxLen)(hb:b.size<=maxLen)(hr:r.size<=maxLen)(hc:c.size<=maxLen)(hd:d.size<=maxLen)(hs:s.size<=maxLen)(ga:a'.size<=maxLen)(gb:b'.size<=maxLen)(gr:r'.size<=maxLen)(gc:c'.size<=maxLen)(gd:d'.size<=maxLen)(gs:s'.size<=maxLen):
  Calls prog 86 #[.agg #[.string a,.string b,.string r,.string c,.string d,.string s],.agg #[.string a',.string b',.string r',.string c',.string d',.string s']] w fun e w'=>e=.returned (.int .i64 (F7 a b r c d s a' b' r' c' d' s'))/\BelowD w.heap.size w w':=by
 have H0:((w.alloc (.cells #[.string a,.string b,.string r,.string c,.string d,.string s] 29)).alloc (.cells #[.string a',.string b',.string r',.string c',.string d',.string s'] 29)).drew.cell? ⟨w.heap.size,0,none⟩=some (.string a)/\((w.alloc (.cells #[.string a,.string b,.string r,.string c,.string d,.string s] 29)).alloc (.cells #[.string a',.string b',.string r',.string c',.string d',.string s'] 29)).drew.cell? ⟨w.heap.size,1,none⟩=some (.string b)/\((w.alloc (.cells #[.string a,.string b,.string r,.string c,.string d,.string s] 29)).alloc (.cells #[.string a',.string b',.string r',.string c',.string d',.string s'] 29)).drew.cell? ⟨w.heap.size,2,none⟩=some (.string r)/\((w.alloc (.cells #[.string a,.string b,.string r,.string c,.string d,.string s] 29)).alloc (.cells #[.string a',.string b',.string r',.string c',.string d',.string s'] 29)).drew.cell? ⟨w.heap.size,3,none⟩=some (.string c)/\((w.alloc (.cells #[.string a,.string b,.string r,.string c,.string d,.string s] 29)).alloc (.cells #[.string a',.string b',.string r',.string c',.string d',.string s'] 29)).drew.cell? ⟨w.heap.size,4,none⟩=some (.string d)/\((w.alloc (.cells #[.string a,.string b,.string r,.string c,.string d,.string s] 29)).alloc (.cells #[.string a',.string b',.string r',.string c',.string d',.string s'] 29)).drew.cell? ⟨w.heap.size,5,none⟩=some (.string s)/\((w.alloc (.cells #[.string a,.string b,.string r,.string c,.string d,.string s] 29)).alloc (.cells #[.string a',.string b',.string r',.string c',.string d',.string s'] 29)).drew.cell? ⟨w.heap.size+1,0,none⟩=some (.string a')/\((w.alloc (.cells #[.string a,.string b,.string r,.string c,.string d,.string s] 29)).alloc (.cells #[.string a',.string b',.string r',.string c',.string d',.string s'] 29)).drew.cell? ⟨w.heap.size+1,1,none⟩=some (.string b')/\((w.alloc (.cells #[.string a,.string b,.string r,.string c,.string d,.string s] 29)).alloc (.cells #[.string a',.string b',.string r',.string c',.string d',.string s'] 29)).drew.cell? ⟨w.heap.size+1,2,none⟩=some (.string r')/\((w.alloc (.cells #[.string a,.string b,.string r,.string c,.string d,.string s] 29)).alloc (.cells #[.string a',.string b',.string r',.string c',.string d',.string s'] 29)).drew.cell? ⟨w.heap.size+1,3,none⟩=some (.string c')/\((w.alloc (.cells #[.string a,.string b,.string r,.string c,.string d,.string s] 29)).alloc (.cells #[.string a',.string b',.string r',.string c',.string d',.string s'] 29)).drew.cell? ⟨w.heap.size+1,4,none⟩=some (.string d')/\((w.alloc (.cells #[.string a,.string b,.string r,.string c,.string d,.string s] 29)).alloc (.cells #[.string a',.string b',.string r',.string c',.string d',.string s'] 29)).drew.cell? ⟨w.heap.size+1,5,none⟩=some (.string s')/\w.heap.size<((w.alloc (.cells #[.string a,.string b,.string r,.string c,.string d,.string s] 29)).alloc (.cells #[.string a',.string b',.string r',.string c',.string d',.string s'] 29)).drew.heap.size/\w.heap.size+1<((w.alloc (.cells #[.string a,.string b,.string r,.string c,.string d,.string s] 29)).alloc (.cells #[.string a',.string b',.string r',.string c',.string d',.string s'] 29)).drew.heap.size/\BelowD w.heap.size w (((w.alloc (.cells #[.string a,.string b,.string r,.string c,.string d,.string s] 29)).alloc (.cells #[.string a',.string b',.string r',.string c',.string d',.string s'] 29)).drew):=by
  refine⟨?_,?_,?_,?_,?_,?_,?_,?_,?_,?_,?_,?_,?_,?_,?_⟩
  all_goals first|exact(KR _ _ _).drew|(simp;done)|(simp;omega)
 go_enter func86,ntmps86;go_wp2_with fail
 go_region_held3 (fun w'=>w'.cell? ⟨w.heap.size,0,none⟩=some (.string a)/\w'.cell? ⟨w.heap.size,1,none⟩=some (.string b)/\w'.cell? ⟨w.heap.size,2,none⟩=some (.string r)/\w'.cell? ⟨w.heap.size,3,none⟩=some (.string c)/\w'.cell? ⟨w.heap.size,4,none⟩=some (.string d)/\w'.cell? ⟨w.heap.size,5,none⟩=some (.string s)/\w'.cell? ⟨w.heap.size+1,0,none⟩=some (.string a')/\w'.cell? ⟨w.heap.size+1,1,none⟩=some (.string b')/\w'.cell? ⟨w.heap.size+1,2,none⟩=some (.string r')/\w'.cell? ⟨w.heap.size+1,3,none⟩=some (.string c')/\w'.cell? ⟨w.heap.size+1,4,none⟩=some (.string d')/\w'.cell? ⟨w.heap.size+1,5,none⟩=some (.string s')/\w.heap.size<w'.heap.size/\w.heap.size+1<w'.heap.size/\BelowD w.heap.size w w')
  (first|assumption|exact RD (VC _) (by assumption) hbx|exact H0)
  (first|(go_at_call 148;refine(wX _ _ _ _ _ _ _ (by assumption) (by assumption) (by assumption) (by assumption) (by assumption) (by assumption)).mono ?_;rintro e w' ⟨rfl,hbx⟩)|(go_at_call 147;refine(Tryz.strings_Compare _ _ _).mono ?_;rintro e w' ⟨rfl,rfl⟩))
 rename_i hH;obtain⟨-,-,-,-,-,-,-,-,-,-,-,-,-,-,gB⟩:=hH;go_wp2;go_ret;exact⟨rfl,gB⟩
end Go.Proofs.YtcgdckphpjfmhaaGreatDoor
namespace Go.Proofs.YtcgdckphpjfmhaaGreatDoor
open ChangeShapes WideShapes ChangeAt RowKit
open Pl
attribute [local go_sem ↓] Go.wp_at_zero Go.wp_at_succ
end Go.Proofs.YtcgdckphpjfmhaaGreatDoor
