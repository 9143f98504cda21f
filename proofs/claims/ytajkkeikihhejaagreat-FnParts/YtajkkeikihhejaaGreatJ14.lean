/- Contract of the program's table of relations. -/
import Derived.Test.YtajkkeikihhejaaGreatSq
import Derived.Test.YtajkkeikihhejaaGreatJ6
import Derived.Test.YtajkkeikihhejaaGreatJ13
open Go.Proofs.Tryz
set_option maxHeartbeats 80000000
namespace Go.Proofs.YtajkkeikihhejaaGreat
open Go.ChangeShapes Go.WideShapes Go.ChangeAt Go.RowKit Go.Maps
open Pl
def RR.sl (q:RR):Value:=.slice q.ad q.rows.length q.cap
def kP (t:ByteArray)(M:ByteArray×ByteArray->Option Value):List RR->ByteArray×ByteArray->Option Value
 | []=>M
 | q::qs=>kP t (lc M (t,q.name) (some q.sl)) qs
def eG (M:ByteArray×ByteArray->Option Value):List TR->ByteArray×ByteArray->Option Value
 | []=>M
 | t::ts=>eG (kP t.name M t.rows) ts
def nZ (rs:List TR):ByteArray×ByteArray->Option Value:=eG (fun _=>none) rs
theorem Em (t:bI)(M:ByteArray×ByteArray->Option Value)(xs ys:List RR):kP t M (xs++ys)=kP t (kP t M xs) ys:=by
 induction xs generalizing M with
 | nil=>rfl
 | cons q qs ih=>simp only [List.cons_append,kP];exact ih _
theorem zV (M:ByteArray×ByteArray->Option Value)(xs ys:List TR):eG M (xs++ys)=eG (eG M xs) ys:=by
 induction xs generalizing M with
 | nil=>rfl
 | cons q qs ih=>simp only [List.cons_append,eG];exact ih _
theorem IM (t:bI)(M:ByteArray×ByteArray->Option Value)(qs:List RR)(j:Nat)(h:j<qs.length):kP t M (qs.take (j+1))=lc (kP t M (qs.take j)) (t,qs[j].name) (some qs[j].sl):=by
 rw [Uh h,Em];rfl
theorem En (M:ByteArray×ByteArray->Option Value)(rs:List TR)(k:Nat)(h:k<rs.length):eG M (rs.take (k+1))=kP rs[k].name (eG M (rs.take k)) rs[k].rows:=by
 rw [Uh h,zV];rfl
set_option maxRecDepth 100000 in
theorem qK (ad:Option Addr)(cap:Nat)(rs:List TR)(w:af)(hlen:rs.length<=6)(hs:kX w ad rs)(hrl:∀ r∈rs,r.rows.length<=6)(hf:∀ r∈rs,r.fits) :
  Calls prog 53 #[.slice ad rs.length cap] w fun e w'=>e=.returned (.map (some w.heap.size))/\aO dS prog 94 w' w.heap.size 36 (nZ rs)/\ag w w':=by
 have HS:=aA hs;have YS:Hid (∀ r∈rs,r.rows.length<=6):=hrl;have UY:=aA hf;have HM0:Hid (aO dS prog 94 (w.alloc (.map #[] 0)) w.heap.size 0 (fun _=>none)):=nN _ _ _ w;have HB0:Hid (ag w (w.alloc (.map #[] 0))):=(Uf _ _).alloc (Ue _) _;clear hs hrl hf;have hmm:=@run_makeMap prog;go_enter func53,ntmps53;go_wp2_with fail;go_loopw [11] (fun i wr=>∃ k:Nat,k<=rs.length/\i=.int .i64 k/\Hid (aO dS prog 94 wr w.heap.size (k*6) (eG (fun _=>none) (rs.take k)))/\Hid (ag w wr)) (fun i _=>rs.length-(intOf i).toNat);case atStart=>exact ⟨0,Ui _,rfl,HM0,HB0⟩
 clear HM0 HB0 hmm;obtain ⟨k,hk,rfl,HM,HB⟩:=hrel;by_cases hlt:k<rs.length
 ·rcases HS.out.below HB.out with rfl|⟨b,off,rfl,hb,hr,hok⟩
  ·simp at hlt
  obtain ⟨t0,t1⟩:=hr k hlt;have hk1:=bF k;have hk2:(k:Int)<(rs.length:Int):=by omega
  have h6:rs[k].rows.length<=6:=YS.out _ (Ud hlt);have z0:rs[k].name.size<=maxLen:=(UY.out _ (Ud hlt)).1;have Xb:Hid (∀ q∈rs[k].rows,q.fits):=(UY.out _ (Ud hlt)).2.2;clear hr hok;obtain ⟨W1,hW1⟩:∃ W1,W1=wr.alloc (.cells #[.string rs[k].name,.slice rs[k].ad rs[k].rows.length rs[k].cap] 127):=⟨_,rfl⟩;have hal:ag wr W1:=by rw [hW1];exact (Uf _ _).alloc (Ue _) _
  have XO:Hid (aO dS prog 94 W1 w.heap.size (k*6) (eG (fun _=>none) (rs.take k))):=HM.out.below hal;have HB1:=jP HB hal;have VS:Hid (wr.heap.size<W1.heap.size/\W1.cell? ⟨wr.heap.size,0,none⟩=some (.string rs[k].name)):=⟨by rw [hW1];simp,by rw [hW1];simp⟩;have hgw:w.heap.size<wr.heap.size:=HM.out.lt;clear HM hal;go_wp2_with fail;rw [<-hW1];clear hW1 t0 t1 HB;obtain ⟨wo,hwo⟩:∃ wo,wo=wr:=⟨_,rfl⟩;subst hwo;go_loopw [18] (fun i w2=>∃ j:Nat,j<=rs[k].rows.length/\i=.int .i64 j/\Hid (aO dS prog 94 w2 w.heap.size (k*6+j) (kP rs[k].name (eG (fun _=>none) (rs.take k)) (rs[k].rows.take j)))/\Hid (ag w w2)/\Hid (wo.heap.size<w2.heap.size/\w2.cell? ⟨wo.heap.size,0,none⟩=some (.string rs[k].name))) (fun i _=>rs[k].rows.length-(intOf i).toNat);case atStart=>exact ⟨0,Ui _,rfl,XO,HB1,VS⟩
  clear XO HB1 VS;obtain ⟨j,hj,rfl,HM,HB,HC⟩:=hrel;by_cases hjl:j<rs[k].rows.length
  ·rcases HS.out.below HB.out with hnil|⟨b',off',he,hb2,hr,hok⟩
   ·rw [hnil]at hlt;simp at hlt
   injection he with he;injection he with he1 he2;subst he1;subst he2;have ok:=hok rs[k] (Ud hlt);rcases ok with hnil|⟨b2,Vb,had,hbb,hr2,-⟩
   ·rw [hnil]at hjl;simp at hjl
   obtain ⟨q0,q1⟩:=hr2 j hjl;have z1:rs[k].rows[j].name.size<=maxLen:=(Xb.out _ (Ud hjl)).1;have hj1:=bF j;have hj2:(j:Int)<(rs[k].rows.length:Int):=by omega
   obtain ⟨kl,hkl⟩:=jC (rs[k].name,rs[k].rows[j].name) z0 z1;have VD:Hid (keyOf prog 94 (dS (rs[k].name,rs[k].rows[j].name))=some kl):=hkl;obtain ⟨W2,hW2⟩:∃ W2,W2=wr.alloc (.cells #[.string rs[k].rows[j].name,.slice rs[k].rows[j].ad rs[k].rows[j].rows.length rs[k].rows[j].cap] 147):=⟨_,rfl⟩;have hal:ag wr W2:=by rw [hW2];exact (Uf _ _).alloc (Ue _) _
   have Vt:Hid (aO dS prog 94 W2 w.heap.size (k*6+j) (kP rs[k].name (eG (fun _=>none) (rs.take k)) (rs[k].rows.take j))):=HM.out.below hal;have HB2:=jP HB hal;have hc1:=aH hal HC.out.1 HC.out.2;have Vq:Hid (wo.heap.size<W2.heap.size/\W2.cell? ⟨wo.heap.size,0,none⟩=some (.string rs[k].name)):=⟨Uc HC.out.1 hal.size,hc1⟩;have g0:W2.cell? ⟨wr.heap.size,0,none⟩=some (.string rs[k].rows[j].name):=by rw [hW2];simp
   have g1:W2.cell? ⟨wr.heap.size,1,none⟩=some (.slice rs[k].rows[j].ad rs[k].rows[j].rows.length rs[k].rows[j].cap):=by rw [hW2];simp
   have hsz:wo.heap.size<wr.heap.size:=HC.out.1;have hc0:=HC.out.2;rw [had];clear hr hok hr2 hkl HM hal HC;go_wp2_with (first|(at_mapUpdate;rw [<-hW2];refine nE _ rfl _ _ _ 91 rfl 94 33 ic uH underlying91 w.heap.size (k*6+j) _ rfl Vt.out (by unfold maxLen;omega) (rs[k].name,rs[k].rows[j].name) kl rfl VD.out _ rfl ?_;intro w3 hV3 hg3)|go_in);have HM4:Hid (aO dS prog 94 w3 w.heap.size (k*6+(j+1)) (kP rs[k].name (eG (fun _=>none) (rs.take k)) (rs[k].rows.take (j+1)))):=by
    show aO _ _ _ _ _ _ _;rw [IM _ _ _ _ hjl];exact hV3
   have Vx:Hid (ag w w3):=HB2.out.grown hg3 HB2.out.size (fun i hi=>by injection hi with hi;omega);have HC4:Hid (wo.heap.size<w3.heap.size/\w3.cell? ⟨wo.heap.size,0,none⟩=some (.string rs[k].name)):=⟨Uc Vq.out.1 hg3.size,by rw [hg3.cell_far _ Vq.out.1 (by simp;omega)];exact Vq.out.2⟩;clear hV3 hg3 hW2 Vt HB2 Vq g0 g1 q0 q1 hc0 hc1;go_wp2;go_roundw;case rel=>exact ⟨j+1,by omega,by go_num,HM4,Vx,HC4⟩
   simp [intOf] <;> omega
  obtain rfl:j=rs[k].rows.length:=by omega
  have HM4:Hid (aO dS prog 94 wr w.heap.size ((k+1)*6) (eG (fun _=>none) (rs.take (k+1)))):=by
   show aO _ _ _ _ _ _ _;have:=HM.out;rw [Us]at this;rw [En _ _ _ hlt];exact this.mono (by omega)
  clear HM;go_wp2;go_roundw;case rel=>exact ⟨k+1,by omega,by go_num,HM4,HB⟩
  simp [intOf] <;> omega
 obtain rfl:k=rs.length:=by omega
 have HM4:Hid (aO dS prog 94 wr w.heap.size 36 (nZ rs)):=by
  show aO _ _ _ _ _ _ _;have:=HM.out;rw [Us]at this;exact this.mono (by omega)
 go_wp2;go_ret;exact ⟨rfl,HM4.out,HB.out⟩
theorem RN:∀ x:List UInt8,Op.bytesLess x x=false
 | []=>rfl
 | a::x=>by simp [Op.bytesLess,RN x]
theorem RO:∀ x y z:List UInt8,Op.bytesLess x y=true->Op.bytesLess y z=true->Op.bytesLess x z=true
 | [],_,[],h,k=>by cases ‹List UInt8› <;> simp [Op.bytesLess] at h k
 | [],_,_::_,_,_=>rfl
 | _::_,[],_,h,_=>by simp [Op.bytesLess]at h
 | _::_,_::_,[],_,k=>by simp [Op.bytesLess]at k
 | a::x,b::y,c::z,h,k=>by
  simp only [Op.bytesLess,Bool.or_eq_true,Ug,Um,beq_iff_eq]at h k ⊢;rcases h with h|⟨h,h'⟩
  ·rcases k with k|⟨k,k'⟩
   ·exact .inl (UInt8.lt_trans h k)
   exact .inl (k ▸ h)
  rcases k with k|⟨k,k'⟩
  ·exact .inl (h ▸ k)
  exact .inr ⟨h.trans k,RO x y z h' k'⟩
theorem rD {f:Nat->ByteArray}{n:Nat}(h:∀ i,i+1<n->jf (f i) (f (i+1))=true):∀ i j,i<j->j<n->f i≠f j:=by
 have h2:∀ d i,i+d+1<n->jf (f i) (f (i+d+1))=true:=by
  intro d
  induction d with
  | zero=>intro i hi;exact h i (by omega)
  | succ d ih =>
   intro i hi;have h3:=ih i (by omega);have h4:=h (i+d+1) (by omega);exact RO _ _ _ h3 h4
 intro i j hij hj e;have h5:=h2 (j-i-1) i (by omega);have e2:i+(j-i-1)+1=j:=by omega
 rw [e2,e]at h5;unfold jf at h5;rw [RN]at h5;cases h5
theorem lw {rs:List TR}(h:bi (ae rs)=true)(k:Nat)(hk:k<rs.length):aR rs[k].name=true/\(∀ i (hi:i<rs.length),k=i+1->jf rs[i].name rs[k].name=true)/\dI (eF rs[k].rows) rs[k].rows.length=true:=by
 simp only [bi,Ug,Um]at h;rw [kY]at h;have h1:=pg h.2 k hk;unfold kw at h1;have e:(ae rs)[k]?=some rs[k].p:=by simp [ae,hk]
 rw [e]at h1;simp only [Ug,Um]at h1;have e2:rs[k].p.rels.length=rs[k].rows.length:=by simp [TR.p,eF]
 rw [e2]at h1;refine ⟨h1.1.1.1,fun i hi hki=>?_,h1.2⟩;subst hki;have h2:=h1.1.1.2;have e3:(ae rs)[i]?=some rs[i].p:=by simp [ae,hi]
 simp only [e3,Option.map_some,Option.getD_some]at h2;exact h2
theorem CP {rs:List RR}{n:Nat}(h:dI (eF rs) n=true)(k:Nat)(hk:k<rs.length)(hn:k<n):aR rs[k].name=true/\(∀ i (hi:i<rs.length),k=i+1->jf rs[i].name rs[k].name=true)/\aK (aj rs[k].rows)=true:=by
 have h1:=o9 h k hn;unfold ma at h1;have e:(eF rs)[k]?=some rs[k].p:=by simp [eF,hk]
 rw [e]at h1;simp only [Ug]at h1;refine ⟨h1.1.1,fun i hi hki=>?_,h1.2⟩;subst hki;have h2:=h1.1.2;have e3:(eF rs)[i]?=some rs[i].p:=by simp [eF,hi]
 simp only [e3,Option.map_some,Option.getD_some]at h2;exact h2
theorem F3 {rs:List TR}(h:bi (ae rs)=true){t t':TR}(ht:t∈rs)(ht':t'∈rs)(e:t.name=t'.name):t=t':=by
 obtain ⟨i,hi,rfl⟩:=List.mem_iff_getElem.1 ht;obtain ⟨j,hj,rfl⟩:=List.mem_iff_getElem.1 ht';have hne:=rD (f:=fun k=>(rs[k]?.map TR.name).getD ByteArray.empty) (n:=rs.length) (fun k hk=>by
  have h0:k<rs.length:=by omega
  simp only [Uj hk,Uj h0,Option.map_some,Option.getD_some];exact (lw h (k+1) hk).2.1 k h0 rfl)
 by_cases hij:i=j
 ·subst hij;rfl
 exfalso;rcases Nat.lt_or_gt_of_ne hij with hl|hl
 ·have:=hne i j hl hj;simp [hi,hj]at this;exact this e
 have:=hne j i hl hi;simp [hi,hj]at this;exact this e.symm
theorem F5 {rs:List RR}(h:dI (eF rs) rs.length=true){t t':RR}(ht:t∈rs)(ht':t'∈rs)(e:t.name=t'.name):t=t':=by
 obtain ⟨i,hi,rfl⟩:=List.mem_iff_getElem.1 ht;obtain ⟨j,hj,rfl⟩:=List.mem_iff_getElem.1 ht';have hne:=rD (f:=fun k=>(rs[k]?.map RR.name).getD ByteArray.empty) (n:=rs.length) (fun k hk=>by
  have h0:k<rs.length:=by omega
  simp only [Uj hk,Uj h0,Option.map_some,Option.getD_some];exact (CP h (k+1) hk hk).2.1 k h0 rfl)
 by_cases hij:i=j
 ·subst hij;rfl
 exfalso;rcases Nat.lt_or_gt_of_ne hij with hl|hl
 ·have:=hne i j hl hj;simp [hi,hj]at this;exact this e
 have:=hne j i hl hi;simp [hi,hj]at this;exact this e.symm
theorem IP {t:ByteArray}{M:ByteArray×ByteArray->Option Value}{qs:List RR}{k:ByteArray×ByteArray}{v:Value}(h:kP t M qs k=some v):M k=some v \/ ∃ q∈qs,k=(t,q.name)/\v=q.sl:=by
 induction qs generalizing M with
 | nil=>exact .inl h
 | cons q qs ih =>
  simp only [kP]at h;rcases ih h with h|⟨q',hq,e⟩
  ·by_cases e:k=(t,q.name)
   ·rw [e,dZ]at h;injection h with h;exact .inr ⟨q,by simp,e,h.symm⟩
   rw [cZ e]at h;exact .inl h
  exact .inr ⟨q',by simp [hq],e⟩
theorem xN {t:ByteArray}{M:ByteArray×ByteArray->Option Value}{qs:List RR}{k:ByteArray×ByteArray}(h:(M k).isSome=true \/ ∃ q∈qs,k=(t,q.name)):(kP t M qs k).isSome=true:=by
 induction qs generalizing M with
 | nil=>rcases h with h|⟨q,hq,-⟩;exact h;cases hq
 | cons q qs ih =>
  simp only [kP];refine ih ?_;by_cases e:k=(t,q.name)
  ·left;rw [e,dZ];rfl
  rcases h with h|⟨q',hq,e'⟩
  ·left;rw [cZ e];exact h
  rcases List.mem_cons.1 hq with rfl|hq
  ·exact absurd e' e
  exact .inr ⟨q',hq,e'⟩
theorem Eo {M:ByteArray×ByteArray->Option Value}{rs:List TR}{k:ByteArray×ByteArray}{v:Value}(h:eG M rs k=some v):M k=some v \/ ∃ t∈rs,∃ q∈t.rows,k=(t.name,q.name)/\v=q.sl:=by
 induction rs generalizing M with
 | nil=>exact .inl h
 | cons t rs ih =>
  simp only [eG]at h;rcases ih h with h|⟨t',ht,e⟩
  ·rcases IP h with h|⟨q,hq,e⟩
   ·exact .inl h
   exact .inr ⟨t,by simp,q,hq,e⟩
  exact .inr ⟨t',by simp [ht],e⟩
theorem sD {M:ByteArray×ByteArray->Option Value}{rs:List TR}{k:ByteArray×ByteArray}(h:(M k).isSome=true \/ ∃ t∈rs,∃ q∈t.rows,k=(t.name,q.name)):(eG M rs k).isSome=true:=by
 induction rs generalizing M with
 | nil=>rcases h with h|⟨q,hq,-⟩;exact h;cases hq
 | cons t rs ih =>
  simp only [eG];refine ih ?_;rcases h with h|⟨t',ht,q,hq,e⟩
  ·exact .inl (xN (.inl h))
  rcases List.mem_cons.1 ht with rfl|ht
  ·exact .inl (xN (.inr ⟨q,hq,e⟩))
  exact .inr ⟨t',ht,q,hq,e⟩
theorem IQ {rs:List Rl}{n:ByteArray}(h:jO rs n=none):∀ r∈rs,r.name≠n:=by
 induction rs with
 | nil=>intro r hr;cases hr
 | cons r rs ih =>
  simp only [jO]at h;split at h
  ·cases h
  rename_i hn;intro q hq;rcases List.mem_cons.1 hq with rfl|hq
  ·exact fun e=>hn (fw.2 e)
  exact ih h q hq
theorem Lr {ts:List Ty}{ty n:ByteArray}(h:fH ts ty n=none):∀ t∈ts,t.name=ty->∀ r∈t.rels,r.name≠n:=by
 induction ts with
 | nil=>intro t ht;cases ht
 | cons t ts ih =>
  simp only [fH]at h;intro q hq e;split at h
  ·rw [Option.or_eq_none_iff]at h;rcases List.mem_cons.1 hq with rfl|hq
   ·exact IQ h.1
   exact ih h.2 q hq e
  rename_i hn;rcases List.mem_cons.1 hq with rfl|hq
  ·exact absurd (fw.2 e) hn
  exact ih h q hq e
theorem og {rs:List TR}{ty n:ByteArray}{es:List Ex}(h:fH (ae rs) ty n=some es):∃ t∈rs,∃ q∈t.rows,t.name=ty/\q.name=n/\aj q.rows=es:=by
 obtain ⟨t,ht,r,hr,e1,e2,e3⟩:=qI h;obtain ⟨t',ht',rfl⟩:=Ur.1 ht;obtain ⟨q,hq,rfl⟩:=Ur.1 hr;exact ⟨t',ht',q,hq,e1,e2,e3⟩
structure Tab (rs:List TR)(M:ByteArray×ByteArray->Option Value):Prop where
 no:∀ k,M k=none->fH (ae rs) k.1 k.2=none
 yes:∀ k v,M k=some v->∃ t∈rs,∃ q∈t.rows,k=(t.name,q.name)/\v=q.sl/\fH (ae rs) k.1 k.2=some (aj q.rows)/\aK (aj q.rows)=true
theorem wK {rs:List TR}(h:bi (ae rs)=true):Tab rs (nZ rs) where
 no k hk:=by
  cases e:fH (ae rs) k.1 k.2 with
  | none=>rfl
  | some es =>
   obtain ⟨t,ht,q,hq,e1,e2,-⟩:=og e;have:=sD (M:=fun _=>none) (rs:=rs) (k:=k) (.inr ⟨t,ht,q,hq,by rw [e1,e2]⟩);unfold nZ at hk;rw [hk]at this;cases this
 yes k v hk:=by
  rcases Eo hk with h0|⟨t,ht,q,hq,e,ev⟩
  ·cases h0
  have hSF:=bu h;refine ⟨t,ht,q,hq,e,ev,?_,(hSF.2.2 t ht q hq).1⟩;cases e2:fH (ae rs) k.1 k.2 with
  | none=>exact (Lr e2 t.p (List.mem_map_of_mem ht) (by rw [e];rfl) q.p (List.mem_map_of_mem hq) (by rw [e];rfl)).elim
  | some es =>
   obtain ⟨t',ht',q',hq',e3,e4,e5⟩:=og e2;have h1:t'=t:=F3 h ht' ht (by rw [e3,e]);subst h1;obtain ⟨i,hi,rfl⟩:=List.mem_iff_getElem.1 ht;have h2:q'=q:=F5 (lw h i hi).2.2 hq' hq (by rw [e4,e]);subst h2;rw [e5]
theorem Tab.some_iff {rs:List TR}{M:ByteArray×ByteArray->Option Value}(h:Tab rs M)(k:ByteArray×ByteArray):(M k).isSome=!(aB (ae rs) k.1 k.2).isEmpty:=by
 unfold aB;cases e:M k with
 | none=>rw [h.no k e];rfl
 | some v =>
  obtain ⟨t,ht,q,hq,-,-,e1,e2⟩:=h.yes k v e;rw [e1];have:=lq e2;cases e3:aj q.rows with
  | nil=>rw [e3]at this;simp at this
  | cons x xs=>rfl
theorem lF (w:af):(zeroValue 33).run prog w=.ok (.slice none 0 0) w:=by kernel_rfl
theorem yN (b n:Nat)(M:ByteArray×ByteArray->Option Value)(t r:bI)(w:af)(ht:t.size<=maxLen)(hr:r.size<=maxLen)(hV:aO dS prog 94 w b n M) :
  Calls prog 184 #[.map (some b),.string t,.string r] w fun e w'=>e=.returned (.bool (M (t,r)).isSome)/\w'=w:=by
 obtain ⟨kl,hkl⟩:=jC (t,r) ht hr;have HV:Hid (aO dS prog 94 w b n M):=hV;have VD:Hid (keyOf prog 94 (dS (t,r))=some kl):=hkl;clear hkl hV;go_enter func184,ntmps184;go_wp2_with (first|(at_lookup;refine cu _ rfl _ _ 91 rfl 94 33 ic underlying91 (lF _) b n M rfl HV.out (t,r) kl rfl VD.out ?_)|go_in);go_ret;exact ⟨rfl,rfl⟩
theorem CQ (a:Al)(w:af) :
  Calls prog 243 #[.agg #[.string a.t,.string a.s]] w fun e w'=>e=.returned (.bool (!a.s.toList.isEmpty))/\ag w w':=by
 cases h:a.s.toList.isEmpty;case true=>
  go_enter func243,ntmps243;go_wp2;go_ret;exact ⟨rfl,(Uf _ _).alloc (Ue _) _⟩
 go_enter func243,ntmps243;go_wp2;go_ret;exact ⟨rfl,(Uf _ _).alloc (Ue _) _⟩
theorem xO (xs:List Al)(k:Nat)(h:k<xs.length):(xs.drop k).any (fun a=>!a.s.toList.isEmpty)=((!xs[k].s.toList.isEmpty) || (xs.drop (k+1)).any (fun a=>!a.s.toList.isEmpty)):=by
 rw [UB h];rfl
theorem BI (ad:Option Addr)(cap:Nat)(xs:List Al)(w:af)(hlen:xs.length<=1048576)(hs:jM w ad xs) :
  Calls prog 253 #[.slice ad xs.length cap,.func (Fn.func 243) #[] #[]] w fun e w'=>(∃ r:Int,e=.returned (.int .i64 r)/\decide (0<=r)=xs.any (fun a=>!a.s.toList.isEmpty))/\ag w w':=by
 have HS:=aA hs;clear hs;go_enter func253,ntmps253;go_wp2_with fail;go_loopw [8] (fun i wr=>∃ k:Nat,k<=xs.length/\i=.int .i64 k/\Hid ((xs.drop k).any (fun a=>!a.s.toList.isEmpty)=xs.any (fun a=>!a.s.toList.isEmpty))/\Hid (ag w wr)) (fun i _=>xs.length-(intOf i).toNat);case atStart=>exact ⟨0,Ui _,rfl,rfl,Uf _ _⟩
 obtain ⟨k,hk,rfl,HP,HB⟩:=hrel;by_cases hlt:k<xs.length
 ·rcases HS.out.below HB.out with rfl|⟨b,off,rfl,hb,hr⟩
  ·simp at hlt
  obtain ⟨t0,t1⟩:=hr k hlt;have hk1:=bF k;have hk2:(k:Int)<(xs.length:Int):=by omega
  clear hr;cases he:xs[k].s.toList.isEmpty;case false=>
   have HN:Hid (xs.any (fun a=>!a.s.toList.isEmpty)=true):=by show _=_;rw [<-HP.out,xO _ _ hlt,he];rfl
   go_wp2_with (go_at_call 243;refine (CQ xs[k] _).mono ?_;rintro e w' ⟨he2,hbx⟩;rw [he]at he2;subst he2);go_ret;exact ⟨⟨k,rfl,by rw [HN.out];simp⟩,HB.out.trans (hbx.mono HB.out.size)⟩
  have UW:Hid ((xs.drop (k+1)).any (fun a=>!a.s.toList.isEmpty)=xs.any (fun a=>!a.s.toList.isEmpty)):=by show _=_;rw [<-HP.out,xO _ _ hlt,he];rfl
  go_wp2_with (go_at_call 243;refine (CQ xs[k] _).mono ?_;rintro e w' ⟨he2,hbx⟩;rw [he]at he2;subst he2);go_roundw;case rel=>exact ⟨k+1,by omega,by go_num,UW,HB.out.trans (hbx.mono HB.out.size)⟩
  simp [intOf] <;> omega
 have HN:Hid (xs.any (fun a=>!a.s.toList.isEmpty)=false):=by show _=_;rw [<-HP.out,List.drop_of_length_le (by omega)];rfl
 go_wp2;go_ret;exact ⟨⟨-1,rfl,by rw [HN.out];simp⟩,HB.out⟩
theorem wL (ad:Option Addr)(cap:Nat)(xs:List Al)(w:af)(hlen:xs.length<=1048576)(hs:jM w ad xs) :
  Calls prog 242 #[.slice ad xs.length cap,.func (Fn.func 243) #[] #[]] w fun e w'=>e=.returned (.bool (xs.any (fun a=>!a.s.toList.isEmpty)))/\ag w w':=by
 go_enter func242,ntmps242;go_wp2_with fail;refine (BI ad cap xs _ hlen hs).mono ?_;rintro e w' ⟨⟨r,rfl,hr⟩,hbx⟩;have HR:Hid (decide (0<=r)=xs.any (fun a=>!a.s.toList.isEmpty)):=hr;clear hr hs;go_wp2;go_ret;exact ⟨by rw [<-HR.out];rfl,hbx⟩
theorem Oy (xs:List Al):(!xs.any fun a=>!a.s.toList.isEmpty)=xs.all fun a=>a.s.toList.isEmpty:=by
 induction xs with
 | nil=>rfl
 | cons a xs ih=>simp only [List.any_cons,List.all_cons,Bool.not_or,Bool.not_not,ih]
set_option maxRecDepth 100000 in
theorem uS (ad:Option Addr)(cap:Nat)(rs:List ER)(w:af)(hlen:rs.length<=1048576)(hs:iC w ad rs)(hl:∀ r∈rs,r.e.light) :
  Calls prog 224 #[.slice ad rs.length cap] w fun e w'=>e=.returned (.bool (bz (aj rs)))/\ag w w':=by
 by_cases h1:rs.length=1
 ·obtain ⟨r,rfl⟩:∃ r,rs=[r]:=List.length_eq_one_iff.1 h1;rcases hs with h|⟨b,off,rfl,hb,hr,hok⟩
  ·cases h
  obtain ⟨t0,t1,t2,t3,t4⟩:=hr 0 (by simp);simp only [Nat.zero_mul,Nat.add_zero,List.getElem_cons_zero]at t0 t1 t2 t3 t4;have VP:Hid (r.ok w):=hok r (by simp);obtain ⟨lg,-⟩:=hl r (by simp);clear hr hok h1;simp only [List.length_cons,List.length_nil,Uz];by_cases hq:r.e.kind=1
  ·have HD:Hid (bz (aj [r])=!r.e.allow.any fun a=>!a.s.toList.isEmpty):=by show _=_;rw [Oy];simp [bz,aj,hq]
   have Zf:(r.e.kind==1)=true:=by simpa using hq
   go_enter func224,ntmps224;go_wp2_with (go_at_call 242;refine (wL _ _ r.e.allow _ lg (VP.out.1.below ((Uf _ _)))).mono ?_;rintro e w' ⟨rfl,hbx⟩);go_ret;exact ⟨by rw [HD.out];rfl,hbx⟩
  have HD:Hid (bz (aj [r])=false):=by show _=_;simp [bz,aj,hq]
  have Zf:(r.e.kind==1)=false:=by simpa using hq
  go_enter func224,ntmps224;go_wp2;go_ret;exact ⟨by rw [HD.out];rfl,Uf _ _⟩
 have HD:Hid (bz (aj rs)=false):=by
  show _=_;rcases rs with _|⟨r,_|⟨r2,rs⟩⟩
  ·rfl
  ·simp at h1
  rfl
 have h2:((rs.length:Int)==1)=false:=by
  have:¬ ((rs.length:Int)=1):=by omega
  simpa using this
 clear hs;go_enter func224,ntmps224;go_wp2;go_ret;exact ⟨by rw [HD.out];rfl,Uf _ _⟩
end Go.Proofs.YtajkkeikihhejaaGreat
