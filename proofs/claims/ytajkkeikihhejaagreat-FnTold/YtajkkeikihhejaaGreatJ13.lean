/- Drawn regions that only read, their callees laying blocks of their own: what one quiet walk wants of a contract. -/
import Derived.Test.YtajkkeikihhejaaGreatSq
import Derived.Lib.QuietBelow
import Derived.Test.YtajkkeikihhejaaGreatJ12
import Derived.Test.YtajkkeikihhejaaGreatJ8
import Derived.Deep.AppendLies
open Go.Proofs.Tryz
set_option maxHeartbeats 80000000
namespace Go.Proofs.YtajkkeikihhejaaGreat
open Go.RowKit Go.Sort
theorem pV {p:Prop} (h:p):Hid p:=h
theorem jT {P:Program} {f:FuncId} {args:Array Value} {W:af} {v:Value} (h:∀ W',Calls P f args W' fun e w'=>e=.returned v∧w'=W'):∀ d os,Calls P f args (grow (redrawn W d) os) fun e w''=>e=.returned v∧∃ p:Regrown,w''=grow (redrawn W p.d) p.os:=fun d os=>(h _).mono fun _ _ ⟨he,hw⟩=>⟨he,⟨d,os⟩,hw⟩
theorem dm {P:Program} {f:FuncId} {args:Array Value} {W:af} {v:Value} (h:∀ W',ag W W'→Calls P f args W' fun e w'=>e=.returned v∧ag W' w'):∀ d os,Calls P f args (grow (redrawn W d) os) fun e w''=>e=.returned v∧∃ p:Regrown,w''=grow (redrawn W p.d) p.os:=fun d os=>Calls.regrown_of (h _ (below_regrown W d os))
def lm (ops:Array Oper) (m k:Nat):Bool:=(ops[m]?.map fun o=>o.after.any fun e=>e.on == k && Region.binds .any e).getD false
def Tk (ops:Array Oper) (i:Nat):List Nat:=(List.range i).reverse.foldl (fun acc k=>if acc.any (fun m=>lm ops m k) then k::acc else acc) [i]
def Kc (ops:Array Oper) (L N:Nat):Bool:=(List.range N).all fun i=>decide (i < L) || (List.range i).all fun j=>(Tk ops i).contains j
def Qp (l:List Oper) (L:Nat):Bool:=l.all fun o=>match o.guard with | some (g,_)=>decide (g < L) | none=>true
def nP (P:Program) (ops:Array Oper) (Q:Exit→Act→World→Prop):Nat→Nat→Act→World→Prop
 | 0,_,a,w=>Q .normal a w
 | n + 1,i,a,w=>wpOp P ops Q i (nP P ops Q n (i + 1)) a w
theorem xG {ops:Array Oper} {m k:Nat} (h:lm ops m k=true):∃ o,ops[m]?=some o∧∃ e ∈ o.after,e.on=k∧Region.binds .any e=true:=by
 unfold lm at h;cases ho:ops[m]? with
 | none=>rw [ho] at h; cases h
 | some o =>
  rw [ho] at h;simp only [Option.map_some,Option.getD_some] at h;rw [Array.any_eq_true'] at h;obtain ⟨e,he,h2⟩:=h;simp only [TU,beq_iff_eq] at h2;exact ⟨o,rfl,e,he,h2.1,h2.2⟩
theorem FL {ops:Array Oper} {i:Nat} {lst:Nat→Prop} (hcl:∀ m k,m=i ∨ lst m→lm ops m k=true→lst k):∀ m ∈ Tk ops i,m=i ∨ lst m:=by
 have key:∀ (ks acc:List Nat),(∀ m ∈ acc,m=i ∨ lst m)→∀ m ∈ ks.foldl (fun acc k=>if acc.any (fun m=>lm ops m k) then k::acc else acc) acc,m=i ∨ lst m:=by
  intro ks
  induction ks with
  | nil=>intro acc h; exact h
  | cons k ks ih =>
   intro acc h;refine ih _ ?_;dsimp only;split
   ·rename_i ha;obtain ⟨m,hm,hb⟩:=Uo.1 ha;intro x hx;rcases List.mem_cons.1 hx with rfl | hx
    ·exact .inr (hcl m _ (h m hm) hb)
    exact h x hx
   exact h
 exact key _ _ fun m hm=>.inl (by simpa using hm)
theorem Cx {ops:Array Oper} {L N i:Nat} (h:Kc ops L N=true) (hi:i < N) (hL:L≤i) {lst:Nat→Prop} (hcl:∀ m k,m=i ∨ lst m→lm ops m k=true→lst k):∀ j,j < i→lst j:=fun j hj=>by
 have h1:=Ub.1 h i (by simpa using hi);simp only [Bool.or_eq_true,Ud] at h1;have h2:=Ub.1 (h1.resolve_left (by omega)) j (by simpa using hj);exact (FL hcl j (by simpa using h2)).resolve_left (by omega)
theorem pW {P:Program} {id:Nat} {Q:Exit→Act→World→Prop} {a:Act} {w:af} {l:List Oper} (L n:Nat) (hm:P.follows .mixedOrders=true) (hlen:l.length=L + n)
  (hB:(Region.noSelect (l.take L).toArray && Region.lexFrom .any (l.take L).toArray L 0 (Array.replicate (L + n) false) && Qp (l.take L) L && Cf l.toArray && Kc l.toArray L (L + n))=true)
  (h:wpQuiet P (l.take L).toArray (fun w'=>∃ p:Regrown,w'=grow (redrawn w p.d) p.os) (fun a'=>∀ w',(∃ p:Regrown,w'=grow (redrawn w p.d) p.os)→nP P l.toArray Q n L a' w') (l.take L) a):(Code.region id l.toArray true).wp P Q a w:=by
 obtain ⟨C,hC⟩:∃ C:World→Prop,C=fun w'=>∃ p:Regrown,w'=grow (redrawn w p.d) p.os:=⟨_,rfl⟩;have h':wpQuiet P (l.take L).toArray C (fun a'=>∀ w',C w'→nP P l.toArray Q n L a' w') (l.take L) a:=by simpa [hC] using h
 clear h;have hC0:C w.drew:=by rw [hC]; exact ⟨⟨w.drawn + 1,#[]⟩,by rw [grow_empty]; rfl⟩
 clear hC;simp only [TU] at hB;obtain ⟨⟨⟨⟨hns,hlx⟩,hgd⟩,Vg⟩,hch⟩:=hB;have htl:(l.take L).length=L:=by rw [Ut]; omega
 have hat:∀ i,i < L→(l.take L).toArray[i]?=l.toArray[i]?:=fun i hi=>by simp [hi]
 have hsz:l.toArray.size=L + n:=by simpa using hlen
 have hwant:∀ (i:Nat) (o:Oper) (a':Act),i < L→l.toArray[i]?=some o→Region.wanted o (yielded (l.take L).toArray a'.tmps)=Region.wanted o (yielded l.toArray a'.tmps):=by
  intro i o a' hi ho;have hmem:o ∈ l.take L:=by
   rw [← hat i hi] at ho;exact List.mem_of_getElem? (by simpa using ho)
  have:=Ub.1 hgd o hmem;unfold Region.wanted;cases hg:o.guard with
  | none=>rfl
  | some x =>
   obtain ⟨g,bw⟩:=x;rw [hg] at this;have hgl:g < L:=by simpa using this
   simp only [yielded,hat g hgl]
 have h1:=wpAnyQ_lex (C:=C) (md:=.any) hns (l.take L) 0 (Array.replicate (L + n) false) a (fun j=>by simp) (by rw [htl]; exact hlx) h';rw [htl] at h1;refine gM (fun listed a' w'=>listed.size=L + n∧(∀ m k,listed.getD m false=true→lm l.toArray m k=true→listed.getD k false=true)∧(((∀ j,L≤j→listed.getD j false=false)∧C w'∧∃ fuel,wpAnyQ P .any (l.take L).toArray C (fun a'=>∀ w',C w'→nP P l.toArray Q n L a' w') fuel listed a') ∨ ∃ d,d≤n∧(∀ j,j < L + d→listed.getD j false=true)∧(∀ j,L + d≤j→listed.getD j false=false)∧nP P l.toArray Q (n - d) (L + d) a' w')) hm ?_ ?_ ?_
 ·have hf:∀ j,(Array.replicate l.toArray.size false).getD j false=false:=fun j=>by
   rw [Uj,Array.getElem?_replicate]; split <;> rfl
  exact ⟨by simpa using hsz,fun m k hm=>absurd hm (by rw [hf]; decide),Or.inl ⟨fun j _=>hf j,hC0,L,by rw [hsz]; exact h1⟩⟩
 ·rintro listed a' w' ⟨hs,hcl,hh⟩ i hi;obtain ⟨hl,o,ho,hpre⟩:=mem_ready.1 hi;have hiL:i < L + n:=by have:=(Array.getElem?_eq_some_iff.1 ho).1; omega
  have hcl2:∀ m k,(listed.setIfInBounds i true).getD m false=true→lm l.toArray m k=true→(listed.setIfInBounds i true).getD k false=true:=fun m k hm hb=>by
   rw [aO _ _ _ (by omega)] at hm ⊢;by_cases hk:k=i
   ·rw [if_pos hk]
   rw [if_neg hk];by_cases e:m=i
   ·subst e;obtain ⟨o',ho',e,he,rfl,hbe⟩:=xG hb;rw [ho] at ho'; obtain rfl:=Option.some.inj ho';exact hpre e he hbe
   rw [if_neg e] at hm;exact hcl m k hm hb
  have hup:L≤i→∀ j,j < i→listed.getD j false=true:=fun hLi=>Cx hch hiL hLi fun m k hm hb=>by
   rcases hm with rfl | hm
   ·obtain ⟨o',ho',e,he,rfl,hbe⟩:=xG hb;rw [ho] at ho'; obtain rfl:=Option.some.inj ho';exact hpre e he hbe
   exact hcl m k hm hb
  have hsq:∀ d,L + d=i→nP P l.toArray Q (n - d) (L + d) a' w'→wpOp P l.toArray Q i (fun a'' w''=>(listed.setIfInBounds i true).size=L + n∧(∀ m k,(listed.setIfInBounds i true).getD m false=true→lm l.toArray m k=true→(listed.setIfInBounds i true).getD k false=true)∧(((∀ j,L≤j→(listed.setIfInBounds i true).getD j false=false)∧C w''∧∃ fuel,wpAnyQ P .any (l.take L).toArray C (fun a'=>∀ w',C w'→nP P l.toArray Q n L a' w') fuel (listed.setIfInBounds i true) a'') ∨ ∃ d,d≤n∧(∀ j,j < L + d→(listed.setIfInBounds i true).getD j false=true)∧(∀ j,L + d≤j→(listed.setIfInBounds i true).getD j false=false)∧nP P l.toArray Q (n - d) (L + d) a'' w'')) a' w':=fun d hd hw=>by
   obtain ⟨r,hr⟩:∃ r,n - d=r + 1:=⟨n - d - 1,by omega⟩;rw [hr,hd] at hw;have Xx:∀ j,i < j→listed.getD j false=false:=fun j hj=>by
    cases hlj:listed.getD j false;case false=>rfl
    have hjn:j < L + n:=by
     rcases Nat.lt_or_ge j (L + n) with h | h
     ·exact h
     rw [Uj,Array.getElem?_eq_none (by omega)] at hlj; cases hlj
    have:=Cx hch hjn (by omega) (lst:=fun k=>listed.getD k false=true) (fun m k hm hb=>by
     rcases hm with rfl | hm
     ·exact hcl _ k hlj hb
     exact hcl m k hm hb) i hj
    rw [j6 (by omega)] at hl;rw [hl] at this; cases this
   refine wpOp_mono (fun a'' w'' hq=>⟨by simpa using hs,hcl2,.inr ⟨d + 1,by omega,fun j hj=>?_,fun j hj=>?_,?_⟩⟩) hw
   ·rw [aO _ _ _ (by omega)];by_cases e:j=i
    ·rw [if_pos e]
    rw [if_neg e]; exact hup (by omega) j (by omega)
   ·rw [aO _ _ _ (by omega),if_neg (by omega)];exact Xx j (by omega)
   have e1:n - (d + 1)=r:=by omega
   have e2:L + (d + 1)=i + 1:=by omega
   rw [e1,e2];exact hq
  rcases hh with ⟨hn,hCw,fuel,hq⟩ | ⟨d,hdn,hlow,hhigh,hw⟩
  ·by_cases e:i < L
   ·have hr:i ∈ Region.ready .any (l.take L).toArray listed:=mem_ready.2 ⟨hl,o,by rw [hat i e]; exact ho,hpre⟩;cases fuel with
    | zero=>have:=hq.1; rw [this] at hr; cases hr
    | succ nn =>
     have hk:=hq.2 i hr;have:=wpOp_of_qOp (K':=fun a'' w''=>C w''∧wpAnyQ P .any (l.take L).toArray C (fun a'=>∀ w',C w'→nP P l.toArray Q n L a' w') nn (listed.setIfInBounds i true) a'') (Q':=Q) hCw (fun _ _ h1 h2=>⟨h1,h2⟩) hk;have h3:wpOp P l.toArray Q i (fun a'' w''=>C w''∧wpAnyQ P .any (l.take L).toArray C (fun a'=>∀ w',C w'→nP P l.toArray Q n L a' w') nn (listed.setIfInBounds i true) a'') a' w':=by
      unfold wpOp at this ⊢;rw [hat i e,ho] at this;rw [ho];simp only [hwant i o a' e ho] at this;exact this
     refine wpOp_mono (fun a'' w'' hh=>⟨by simpa using hs,hcl2,Or.inl ⟨fun j hj=>?_,hh.1,nn,hh.2⟩⟩) h3;rw [aO _ _ _ (by omega),if_neg (by omega)]; exact hn j hj
   have hiE:i=L:=by
    rcases Nat.lt_or_ge L i with h | h
    ·have:=hup (by omega) L h;rw [hn L (TS _)] at this; cases this
    omega
   have hnr:Region.ready .any (l.take L).toArray listed=[]:=by
    rw [List.eq_nil_iff_forall_not_mem];intro j hj;obtain ⟨g1,oj,g2,-⟩:=mem_ready.1 hj;have hji:j < L:=by have:=(Array.getElem?_eq_some_iff.1 g2).1; simp at this; omega
    rw [j6 (by omega),hup (by omega) j (by omega)] at g1; cases g1
   have hQ:nP P l.toArray Q n L a' w':=by
    cases fuel with
    | zero=>exact hq.2 _ hCw
    | succ n=>exact hq.1 hnr _ hCw
   exact hsq 0 (by omega) (by simpa using hQ)
  have hid:L + d=i:=by
   rcases Nat.lt_or_ge i (L + d) with h | h
   ·have:=hlow i h;rw [j6 (by omega)] at hl; rw [hl] at this; cases this
   rcases Nat.lt_or_ge (L + d) i with h2 | h2
   ·have:=hup (by omega) (L + d) h2;rw [hhigh _ (TS _)] at this; cases this
   omega
  exact hsq d hid hw
 rintro listed a' w' ⟨hs,hcl,hh⟩ hr;have hall:=sM hr hsz (pX Vg) hs;rcases hh with ⟨hn,hCw,fuel,hq⟩ | ⟨d,hdn,hlow,hhigh,hw⟩
 ·have hn0:n=0:=by
   rcases Nat.eq_zero_or_pos n with h | h
   ·exact h
   have:=hall L (by omega);rw [j6 (by omega),hn L (TS _)] at this; cases this
  subst hn0;have hnr:Region.ready .any (l.take L).toArray listed=[]:=by
   rw [List.eq_nil_iff_forall_not_mem];intro j hj;obtain ⟨g1,oj,g2,-⟩:=mem_ready.1 hj;have hji:j < L:=by have:=(Array.getElem?_eq_some_iff.1 g2).1; simp at this; omega
   rw [hall j (by omega)] at g1; cases g1
  have hQ:nP P l.toArray Q 0 L a' w':=by
   cases fuel with
   | zero=>exact hq.2 _ hCw
   | succ n=>exact hq.1 hnr _ hCw
  exact hQ
 have hd:d=n:=by
  rcases Nat.lt_or_ge d n with h | h
  ·have:=hall (L + d) (by omega);rw [j6 (by omega),hhigh _ (TS _)] at this; cases this
  omega
 subst hd;rw [Nat.sub_self] at hw;exact hw
open Go.ChangeAt Go.ChangeShapes Go.WideShapes Pl
def bn (i:Nat) (kind:Int):List Int→Nat→List Bool→List Bool
 | [],_,out=>out
 | x::xs,k,out=>bn i kind xs (k + 1) (out.set x.toNat (out.getD i false || (kind == 6 && k == 1)))
def dV (es:List Ex):Nat→List Bool→List Bool
 | 0,out=>out
 | i + 1,out=>dV es i (match es[i]? with | none=>out | some e=>bn i e.kind e.kids 0 out)
def dz (es:List Ex):List Bool:=dV es es.length (List.replicate es.length false)
theorem xH (i:Nat) (kind:Int) (xs:List Int) (k:Nat) (out:List Bool):(bn i kind xs k out).length=out.length:=by
 induction xs generalizing k out with
 | nil=>rfl
 | cons x xs ih=>simp [bn,ih]
def bools (xs:List Bool):List Value:=xs.map Value.bool
theorem Fil.set {w wr:af} {g n o:Nat} {xs:List Value} (h:Fil w wr g n xs) (v:Value) (ho:o < xs.length) (hn:o < n):Fil w (wr.setCell ⟨g,o,none⟩ v) g n (xs.set o v) where
 below:=h.below.setCell (p:=⟨g,o,none⟩) h.ge v
 ge:=h.ge
 lt:=by simpa using h.lt
 done j hj:=by
  by_cases e:j=o
  ·subst e;obtain ⟨u,hu⟩:=Option.isSome_iff_exists.mp (h.there j hn);rw [xq hu];simp
  have hj':j < xs.length:=by simpa using hj
  rw [lV (Ne.symm e),h.done j hj',List.getElem_set_ne (Ne.symm e)]
 there j hj:=by
  by_cases e:j=o
  ·subst e;obtain ⟨u,hu⟩:=Option.isSome_iff_exists.mp (h.there j hn);rw [xq hu]; rfl
  rw [lV (Ne.symm e)];exact h.there j hj
 free j:=by simpa using h.free j
theorem Fil.drew {w wr:af} {g n:Nat} {xs:List Value} (h:Fil w wr g n xs):Fil w wr.drew g n xs:=⟨h.below.drew,h.ge,h.lt,h.done,h.there,h.free⟩
theorem Cy {w w0:af} {n:Nat} {base:Nat} {e:TypeId} {v:Value} (h:w0.ownsRow base e 1 (.slice (some ⟨w.heap.size,0,none⟩) n n) n (madeCells #[v] (n * 1)).toList) (hg:w.grownBy w0 none):Fil w w0 w.heap.size n (List.replicate n v) where
 below:=(TT _ _).grown hg (TS _) (fun k hk=>by cases hk)
 ge:=TS _
 lt:=(h.lt w.heap.size rfl).2
 done j hj:=by
  have hj':j < n:=by simpa using hj
  rw [h.cellAt j (by omega),toList_madeCells_one];simp [hj']
 there j hj:=by
  rw [h.cellAt j (by omega),TY (by rw [h.1]; omega)]; rfl
 free j:=h.frozenAt j
theorem zC:(prog.info? 4).map (fun i=>(i.zero,i.size,i.bytes))=some (some (.bool false),1,1):=by kernel_rfl
theorem zD (es:List Ex) (m:Nat) (out:List Bool) (h:m < es.length):dV es (m + 1) out=dV es m (bn m es[m].kind es[m].kids 0 out):=by
 simp [dV,h]
theorem jD (i:Nat) (kind:Int) (ks:List Int) (j:Nat) (out:List Bool) (h:j < ks.length):bn i kind (ks.drop j) j out=bn i kind (ks.drop (j + 1)) (j + 1) (out.set ks[j].toNat (out.getD i false || (kind == 6 && j == 1))):=by
 rw [Un h]; rfl
theorem nQ (out:List Bool) (o:Nat) (v:Bool):bools (out.set o v)=(bools out).set o (.bool v):=by simp [bools,List.map_set]
def dW (n:Nat) (ks:List Int):Prop:=∀ x ∈ ks,0≤x∧x < (n:Int)
theorem Lj (ad:Option Addr) (cap:Nat) (rs:List ER) (w:af) (hlen:rs.length≤1048576) (hs:iH w ad rs) (hl:∀ r ∈ rs,r.e.light) (hk:∀ r ∈ rs,dW rs.length r.e.kids) :
  Calls prog 196 #[.slice ad rs.length cap] w fun e w'=>e=.returned (.slice (some ⟨w.heap.size,0,none⟩) rs.length rs.length)∧Fil w w' w.heap.size rs.length (bools (dz (ak rs))):=by
 have HS:=az hs;have HL:=az hl;have HK:=az hk;clear hs hl hk;obtain ⟨inf,hi,hz0,hz1,hz2⟩:=info_parts zC;go_enter func196,ntmps196;go_wp2_with (at_make; refine wpList_make_full _ rfl _ _ 275 rfl w.heap.size 4 inf (.bool false) 1 underlying275 hi hz0 hz1 .i64 .i64 _ _ rs.length rfl rfl rfl rfl (by rw [hz2]; omega) (by unfold maxLen; omega) (TS _) ?_; intro w0 hown0 Vx);have HF0:Hid (Fil w w0 w.heap.size rs.length (bools (List.replicate rs.length false))):=by
  have:=Cy (v:=.bool false) hown0 Vx;show Fil _ _ _ _ _;simpa [bools] using this
 clear hown0 Vx hi hz0 hz1 hz2;go_loopw [4] (fun i wr=>∃ (m:Nat) (out:List Bool),m≤rs.length∧i=.int .i64 ((m:Int) - 1)∧out.length=rs.length∧Hid (dV (ak rs) m out=dz (ak rs))∧Hid (Fil w wr w.heap.size rs.length (bools out))) (fun i _=>(intOf i + 1).toNat);case atStart=>exact ⟨rs.length,List.replicate rs.length false,TS _,by go_num,by simp,(by show _=_; unfold dz; rw [aT]),HF0⟩
 obtain ⟨m,out,hm,rfl,hol,HN,HF⟩:=hrel;by_cases hm0:0 < m
 ·obtain ⟨m,rfl⟩:∃ m',m=m' + 1:=⟨m - 1,by omega⟩;have hmi:(((m + 1:Nat):Int) - 1)=(m:Int):=by omega
  rw [hmi];have hlt:m < rs.length:=by omega
  rcases HS.out.below HF.out.below with rfl | ⟨b,off,rfl,hb,hr,hok⟩
  ·simp at hlt
  obtain ⟨t0,t1,t2,t3,t4⟩:=hr m hlt;have VF:Hid (rs[m].ok _):=hok rs[m] (TQ hlt);have lg:=(HL.out rs[m] (TQ hlt)).2;have HKI:Hid (dW rs.length rs[m].e.kids):=HK.out rs[m] (TQ hlt);have hk1:=bB m;have hk2:(m:Int) < (rs.length:Int):=by omega
  have hbw:b < w.heap.size:=by
   rcases HS.out with h | ⟨b',off',h1,h2,-⟩
   ·rw [h] at hlt; simp at hlt
   injection h1 with h1; injection h1 with h1; omega
  have HR:Hid (yh wr b (off + m * 5) rs[m]):=hr m hlt;have HNX:Hid (dV (ak rs) m (bn m rs[m].e.kind rs[m].e.kids 0 out)=dz (ak rs)):=by
   show _=_;rw [← HN.out,zD _ _ _ (by rw [aT]; exact hlt)];simp [ak]
  clear hr hok t0 t1 t2 t3 t4;go_wp2_with fail;go_loopw [5] (fun i w2=>∃ (j:Nat) (UE:List Bool),j≤rs[m].e.kids.length∧i=.int .i64 j∧UE.length=rs.length∧Hid (bn m rs[m].e.kind (rs[m].e.kids.drop j) j UE=bn m rs[m].e.kind rs[m].e.kids 0 out)∧Hid (Fil w w2 w.heap.size rs.length (bools UE))) (fun i _=>rs[m].e.kids.length - (intOf i).toNat);case atStart=>exact ⟨0,out,TW _,rfl,hol,rfl,HF⟩
  obtain ⟨j,UE,hj,rfl,ho2,HJ,VK⟩:=hrel;have hE2:iH wr _ rs:=HS.out.below VK.out.below;have ht:yh wr b (off + m * 5) rs[m]:=by
   rcases hE2 with h | ⟨b',off',h1,h2,h3,-⟩
   ·exact absurd hlt (by rw [h]; simp)
   injection h1 with h1; injection h1 with h1 h1'; subst h1; subst h1'; exact h3 m hlt
  obtain ⟨t0,t1,t2,t3,t4⟩:=ht;by_cases hjl:j < rs[m].e.kids.length
  ·have hK2:p8 wr rs[m].adK rs[m].e.kids:=(hE2.mem (TQ hlt)).2;rcases hK2 with hnil | ⟨ba,Wx,U8,Yq,hra⟩
   ·rw [hnil] at hjl; simp at hjl
   rw [U8] at t4;have q0:=hra j hjl;have hj1:=bB j;have hj2:(j:Int) < (rs[m].e.kids.length:Int):=by omega
   obtain ⟨x0,x1⟩:=HKI.out _ (TQ hjl);obtain ⟨x,hx⟩:∃ x:Nat,rs[m].e.kids[j]=(x:Int):=⟨rs[m].e.kids[j].toNat,by omega⟩;rw [hx] at q0 x0 x1;have c0:=VK.out.done m (by simp [bools]; omega);have fz:=VK.out.free;obtain ⟨v0,u0⟩:=Option.isSome_iff_exists.mp (VK.out.there x (by omega));have hbr:b < wr.heap.size:=TP hbw VK.out.below.size;obtain ⟨bo,hbo⟩:∃ bo,bo=(bools UE)[m]'(by simp [bools]; omega):=⟨_,rfl⟩;rw [← hbo] at c0;clear hra U8 hE2 t1 t2 t3;have hm2:m < UE.length:=by omega
   have Zo:bo=.bool UE[m]:=by rw [hbo]; simp [bools]
   have Zp:UE[m]?.getD false=UE[m]:=by simp [hm2]
   rw [Zo] at c0;clear hbo Zo;have HJ3:Hid (∀ bv,(UE[m] || (rs[m].e.kind == 6 && j == 1))=bv→bn m rs[m].e.kind (rs[m].e.kids.drop (j + 1)) (j + 1) (UE.set x bv)=bn m rs[m].e.kind rs[m].e.kids 0 out):=by
    rintro _ rfl;rw [← HJ.out,jD _ _ _ _ _ hjl,hx];simp [Zp]
   have Wv:Hid (∀ bv d os,Fil w ((grow (redrawn wr d) os).setCell ⟨w.heap.size,x,none⟩ (.bool bv)) w.heap.size rs.length (bools (UE.set x bv))):=by
    intro bv d os;rw [nQ];exact (VK.out.later (below_regrown wr d os)).set _ (by simp [bools]; omega) (by omega)
   go_wp2_with fail;replace fz:=fun d os=>(VK.out.later (below_regrown wr d os)).free;replace t0:=cell_regrown t0;replace t4:=cell_regrown t4;replace q0:=cell_regrown q0;replace c0:=cell_regrown c0;replace u0:=cell_regrown u0;clear Zp;cases hb0:UE[m] <;> cases hkb:(rs[m].e.kind == 6) <;> cases hjb:((j:Int) == 1)
   all_goals
    have hjn:(j == 1)=_:=(by rw [Bool.eq_iff_iff]; simp; omega:(j == 1)=((j:Int) == 1)).trans hjb;rw [hb0] at c0;have HJ4:=pV (HJ3.out _ (by rw [hb0,hkb,hjn]));refine pW 26 1 (by kernel_rfl) (by rfl) (by kernel_rfl) ?_;simp only [List.take_succ_cons,List.take_zero]
    repeat (go_big_quiet_step (fail))
    refine wpQuiet_nil ?_;rintro _ ⟨⟨dq,osq⟩,rfl⟩;refine wpOp_step rfl (fun K hK=>?_);replace hK:=pV hK;go_simp;refine hK.out _ _ ?_;clear hK;unfold nP;go_wp2;go_roundw;case rel=>exact ⟨j + 1,_,by omega,by go_num,by simp [ho2],HJ4,Wv.out _ _ _⟩
    simp [intOf] <;> omega
  have XB:Hid (dV (ak rs) m UE=dz (ak rs)):=by
   show _=_;rw [← HNX.out,← HJ.out,List.drop_of_length_le (by omega)];rfl
  go_wp2;go_roundw;case rel=>exact ⟨m,UE,by omega,by go_num,ho2,XB,VK⟩
  simp [intOf] <;> omega
 obtain rfl:m=0:=by omega
 have WR:Hid (Fil w wr w.heap.size rs.length (bools (dz (ak rs)))):=by
  show Fil _ _ _ _ _;rw [← HN.out];exact HF.out
 go_wp2;go_ret;exact ⟨rfl,WR.out⟩
structure St where
 typ:ByteArray
 rel:ByteArray
 n:Int
def SY (w:World) (b off:Nat) (s:St):Prop:=w.cell? ⟨b,off,none⟩=some (.string s.typ)∧w.cell? ⟨b,off + 1,none⟩=some (.string s.rel)∧w.cell? ⟨b,off + 2,none⟩=some (.int .i64 s.n)
def Iz (w:World) (ad:Option Addr) (xs:List St):Prop:=xs=[] ∨ ∃ b off,ad=some ⟨b,off,none⟩∧b < w.heap.size∧∀ (i:Nat) (h:i < xs.length),SY w b (off + i * 3) xs[i]
theorem Iz.below {w w':af} {ad:Option Addr} {xs:List St} (h:Iz w ad xs) (hB:ag w w'):Iz w' ad xs:=by
 rcases h with h | ⟨b,off,e,hb,hr⟩
 ·exact .inl h
 refine .inr ⟨b,off,e,TP hb hB.size,fun i hi=>?_⟩;obtain ⟨h0,h1,h2⟩:=hr i hi;exact ⟨aG hB hb h0,aG hB hb h1,aG hB hb h2⟩
def zF (s:St) (typ rel:ByteArray):Bool:=(s.typ.toList == typ.toList) && (s.rel.toList == rel.toList)
def gT (typ rel:ByteArray):List St→Nat→Int
 | [],_=>-1
 | s::xs,k=>if zF s typ rel then (k:Int) else gT typ rel xs (k + 1)
theorem qp (typ rel:bH) (xs:List St) (k:Nat) (h:k < xs.length):gT typ rel (xs.drop k) k=if zF xs[k] typ rel then (k:Int) else gT typ rel (xs.drop (k + 1)) (k + 1):=by
 rw [Un h]; rfl
theorem NU (ad:Option Addr) (cap:Nat) (xs:List St) (typ rel:bH) (w:af) (hlen:xs.length≤1048576) (hs:Iz w ad xs) :
  Calls prog 140 #[.slice ad xs.length cap,.string typ,.string rel] w fun e w'=>e=.returned (.int .i64 (gT typ rel xs 0))∧w'=w:=by
 go_enter func140,ntmps140;go_wp2;go_loopw [7] (fun i wr=>∃ k:Nat,k≤xs.length∧i=.int .i64 k∧Hid (gT typ rel (xs.drop k) k=gT typ rel xs 0)∧wr=w) (fun i _=>xs.length - (intOf i).toNat);case atStart=>exact ⟨0,TW _,rfl,rfl,rfl⟩
 obtain ⟨k,hk,rfl,HP,rfl⟩:=hrel;by_cases hlt:k < xs.length
 ·rcases hs with rfl | ⟨b,off,rfl,hb,hr⟩
  ·simp at hlt
  obtain ⟨t0,t1,t2⟩:=hr k hlt;have hk1:=bB k;have hk2:(k:Int) < (xs.length:Int):=by omega
  clear hr;cases hq:(xs[k].typ.toList == typ.toList);case true=>
   cases hp:(xs[k].rel.toList == rel.toList);case true=>
    have HN:Hid (gT typ rel xs 0=(k:Int)):=by show _=_; rw [← HP.out,qp _ _ _ _ hlt]; simp [zF,hq,hp]
    go_wp2;go_ret;exact ⟨by rw [HN.out]; rfl,rfl⟩
   have UI:Hid (gT typ rel (xs.drop (k + 1)) (k + 1)=gT typ rel xs 0):=by show _=_; rw [← HP.out,qp _ _ _ _ hlt]; simp [zF,hq,hp]
   go_wp2;go_roundw;case rel=>exact ⟨k + 1,by omega,by go_num,UI,by first | rfl | trivial⟩
   simp [intOf] <;> omega
  have UI:Hid (gT typ rel (xs.drop (k + 1)) (k + 1)=gT typ rel xs 0):=by show _=_; rw [← HP.out,qp _ _ _ _ hlt]; simp [zF,hq]
  go_wp2;go_roundw;case rel=>exact ⟨k + 1,by omega,by go_num,UI,by first | rfl | trivial⟩
  simp [intOf] <;> omega
 have HN:Hid (gT typ rel xs 0=-1):=by show _=_; rw [← HP.out,List.drop_of_length_le (by omega)]; rfl
 go_wp2;go_ret;exact ⟨by rw [HN.out]; rfl,rfl⟩
structure Dp where
 typ:ByteArray
 rel:ByteArray
 neg:Bool
def Dp.cells (d:Dp):List Value:=[.string d.typ,.string d.rel,.bool d.neg]
def eB:List Dp→List Value
 | []=>[]
 | d::ds=>d.cells ++ eB ds
theorem Eh (xs ys:List Dp):eB (xs ++ ys)=eB xs ++ eB ys:=by
 induction xs with
 | nil=>rfl
 | cons d ds ih=>simp [eB,ih]
theorem sS (xs:List Dp) (d:Dp):eB (xs ++ [d])=eB xs ++ d.cells:=by rw [Eh]; simp [eB]
def dh (neg:Bool):List Al→List Dp
 | []=>[]
 | a::xs=>if a.s.toList.isEmpty then dh neg xs else ⟨a.t,a.s,neg⟩::dh neg xs
def kP (ts:List Ty) (typ:ByteArray) (neg:Bool) (e:Ex):List Dp :=
 if e.kind=2 then [⟨typ,e.name,neg⟩] else if e.kind=3 then (ig ts typ e.over e.name).map fun g=>⟨g,e.name,neg⟩ else []
def ik (ts:List Ty) (typ:ByteArray) (es:List Ex) (k:Nat):List Dp :=
 match es[k]? with
 | none=>[]
 | some e=>dh ((dz es).getD k false) e.allow ++ kP ts typ ((dz es).getD k false) e
def aN (ts:List Ty) (typ:ByteArray) (es:List Ex):Nat→List Dp
 | 0=>[]
 | k + 1=>aN ts typ es k ++ ik ts typ es k
def pR (ts:List Ty) (typ:ByteArray) (es:List Ex):List Dp:=aN ts typ es es.length
theorem uH (neg:Bool) (xs ys:List Al):dh neg (xs ++ ys)=dh neg xs ++ dh neg ys:=by
 induction xs with
 | nil=>rfl
 | cons a xs ih=>simp only [List.cons_append,dh,ih]; split <;> simp
theorem NV (neg:Bool) (xs:List Al) (k:Nat) (h:k < xs.length) (he:xs[k].s.toList.isEmpty=true):dh neg (xs.take (k + 1))=dh neg (xs.take k):=by
 rw [TV h,uH]; simp [dh] at he ⊢; simp [he]
theorem Ll (neg:Bool) (xs:List Al) (k:Nat) (h:k < xs.length) (he:xs[k].s.toList.isEmpty=false):dh neg (xs.take (k + 1))=dh neg (xs.take k) ++ [⟨xs[k].t,xs[k].s,neg⟩]:=by
 rw [TV h,uH]; simp [dh,he]
theorem Cz (neg:Bool) (xs:List Al):(dh neg xs).length≤xs.length:=by
 induction xs with
 | nil=>simp [dh]
 | cons a xs ih=>simp only [dh]; split <;> simp <;> omega
theorem NW:(prog.info? 220).map (fun i=>(i.zero,i.size,i.bytes))=some (some (.agg #[.string ⟨#[]⟩,.string ⟨#[]⟩,.bool false]),3,40):=by kernel_rfl
theorem fJ {a b:ByteArray} (h:a.toList=b.toList):a=b:=by
 rw [Go.ByteArray.toList_eq,Go.ByteArray.toList_eq] at h;cases a with | mk x=>cases b with | mk y =>
 congr;exact Array.ext' h
theorem fo {a b:ByteArray}:(a.toList == b.toList)=true ↔ a=b:=⟨fun h=>fJ (by simpa using h),fun h=>by simp [h]⟩
def jE (t:Ty):List (ByteArray × ByteArray):=t.rels.map fun r=>(t.name,r.name)
def au (ts:List Ty):List (ByteArray × ByteArray):=ts.flatMap jE
def stepOf (d:Dp):Int:=if d.neg then 1 else 0
def il (ts:List Ty) (k:ByteArray × ByteArray):List Dp:=pR ts k.1 (aA ts k.1 k.2)
structure Sol (ts:List Ty) (f:ByteArray × ByteArray→Int):Prop where
 pos:∀ k,0≤f k
 up:∀ k ∈ au ts,∀ d ∈ il ts k,f (d.typ,d.rel) + stepOf d≤f k
def Found (ts:List Ty):Prop:=∀ k ∈ au ts,∀ d ∈ il ts k,(d.typ,d.rel) ∈ au ts
theorem xI (vs:List Int) (x y:Int) (h:x≤y):vs.countP (fun v=>decide (v < x))≤vs.countP (fun v=>decide (v < y)) :=
 List.countP_mono_left fun v _ hv=>by simp at hv ⊢; omega
theorem Lm (vs:List Int) (x y:Int) (h:x + 1≤y) (hx:x ∈ vs):vs.countP (fun v=>decide (v < x)) + 1≤vs.countP (fun v=>decide (v < y)):=by
 induction vs with
 | nil=>cases hx
 | cons v vs ih =>
  simp only [List.countP_cons];rcases List.mem_cons.1 hx with rfl | hm
  ·have:=xI vs x y (by omega);have h1:decide (x < x)=false:=by simp
   have h2:decide (x < y)=true:=by simp; omega
   simp only [h1,h2]; simp; omega
  have:=ih hm;by_cases h1:v < x
  ·have h2:v < y:=by omega
   simp [h1,h2]; omega
  simp only [h1]; simp; omega
theorem IA (vs:List Int) (x:Int) (hx:x ∈ vs):vs.countP (fun v=>decide (v < x)) + 1≤vs.length:=by
 induction vs with
 | nil=>cases hx
 | cons v vs ih =>
  simp only [List.countP_cons,List.length_cons];rcases List.mem_cons.1 hx with rfl | hm
  ·have:=List.countP_le_length (p:=fun v=>decide (v < x)) (l:=vs);have h1:decide (x < x)=false:=by simp
   simp only [h1]; simp; omega
  have:=ih hm;split <;> omega
theorem Sol.few {ts:List Ty} {f:ByteArray × ByteArray→Int} (h:Sol ts f) (hF:Found ts):∃ g,Sol ts g∧∀ k ∈ au ts,g k + 1≤(au ts).length:=by
 refine ⟨fun k=>((((au ts).map f).countP (fun v=>decide (v < f k)):Nat):Int),⟨fun k=>by omega,fun k hk d hd=>?_⟩,fun k hk=>?_⟩
 ·have h1:=h.up k hk d hd;have h2:f (d.typ,d.rel) ∈ (au ts).map f:=List.mem_map_of_mem (hF k hk d hd);unfold stepOf at h1 ⊢;split at h1
  ·rename_i hn;have:=Lm ((au ts).map f) _ _ h1 h2;simp only [hn,if_true]; omega
  rename_i hn;have:=xI ((au ts).map f) _ _ (show f (d.typ,d.rel)≤f k by omega);have e0:(if d.neg=true then (1:Int) else 0)=0:=if_neg hn;rw [e0]; omega
 have:=IA ((au ts).map f) (f k) (List.mem_map_of_mem hk);simp at this ⊢; omega
def qw (ts:List Ty) (k:ByteArray × ByteArray) (n:Int):Prop:=∀ f,Sol ts f→n≤f k
theorem IB {ts:List Ty} (hF:Found ts) {k:ByteArray × ByteArray} (hk:k ∈ au ts) {n:Int} (hl:qw ts k n) (hn:((au ts).length:Int)≤n):¬ ∃ f,Sol ts f:=by
 rintro ⟨f,hf⟩;obtain ⟨g,hg,hb⟩:=hf.few hF;have:=hl g hg;have:=hb k hk;omega
theorem qw.step {ts:List Ty} {k:ByteArray × ByteArray} (hk:k ∈ au ts) {d:Dp} (hd:d ∈ il ts k) {n:Int} (hl:qw ts (d.typ,d.rel) n):qw ts k (n + stepOf d):=fun f hf=>by
 have h1:=hl f hf;have h2:=hf.up k hk d hd;omega
theorem qw.zero (ts:List Ty) (k:ByteArray × ByteArray):qw ts k 0:=fun _ hf=>hf.pos k
structure Least (ts:List Ty) (f:ByteArray × ByteArray→Int):Prop where
 sol:Sol ts f
 low:∀ k ∈ au ts,qw ts k (f k)
theorem Least.same {ts:List Ty} {f g:ByteArray × ByteArray→Int} (hf:Least ts f) (hg:Least ts g) (k:ByteArray × ByteArray) (hk:k ∈ au ts):f k=g k:=by
 have h1:=hf.low k hk g hg.sol;have h2:=hg.low k hk f hf.sol;omega
def St.key (s:St):ByteArray × ByteArray:=(s.typ,s.rel)
def iE (out:List St):List (ByteArray × ByteArray):=out.map St.key
theorem qx {s:St} {k:ByteArray × ByteArray}:zF s k.1 k.2=true ↔ s.key=k:=by
 unfold zF St.key;rw [TU,fo,fo];constructor
 ·rintro ⟨h1,h2⟩; rw [h1,h2]
 rintro rfl; exact ⟨rfl,rfl⟩
def fO (out:List St) (k:ByteArray × ByteArray):Int :=
 match out with
 | []=>0
 | s::xs=>if zF s k.1 k.2 then s.n else fO xs k
theorem oZ {k:ByteArray × ByteArray}:∀ (out:List St) (j:Nat),k ∈ iE out→∃ i:Nat,∃ h:i < out.length,gT k.1 k.2 out j=((j + i:Nat):Int)∧out[i].key=k∧out[i].n=fO out k
 | [],_,h=>by cases h
 | s::xs,j,h=>by
  by_cases hs:zF s k.1 k.2=true
  ·exact ⟨0,by simp,by simp [gT,hs],qx.1 hs,by simp [fO,hs]⟩
  have hm:k ∈ iE xs:=by
   rcases List.mem_cons.1 h with e | hm
   ·exact absurd (qx.2 e.symm) hs
   exact hm
  obtain ⟨i,hi,h1,h2,h3⟩:=oZ xs (j + 1) hm;refine ⟨i + 1,by simp; omega,?_,by simpa using h2,by simpa [fO,hs] using h3⟩;simp only [gT,hs];simp only [Bool.false_eq_true,if_false];rw [h1]; congr 1; omega
theorem CE {k:ByteArray × ByteArray} (out:List St) (h:k ∈ iE out):∃ s ∈ out,s.key=k∧s.n=fO out k:=by
 obtain ⟨i,hi,-,h2,h3⟩:=oZ out 0 h;exact ⟨out[i],TQ hi,h2,h3⟩
theorem NY {k:ByteArray × ByteArray} (out:List St) (h:k ∉ iE out):fO out k=0:=by
 induction out with
 | nil=>rfl
 | cons s xs ih =>
  have h1:¬ zF s k.1 k.2=true:=fun e=>h (by rw [qx] at e; simp [iE,e]);simp only [fO,h1];simp only [Bool.false_eq_true,if_false];exact ih fun hm=>h (by simp only [iE,List.map_cons,List.mem_cons]; exact .inr hm)
def mI:List St→Int
 | []=>0
 | s::xs=>s.n + mI xs
theorem NZ (out:List St) (i:Nat) (h:i < out.length) (n:Int):mI (out.set i ⟨out[i].typ,out[i].rel,n⟩)=mI out - out[i].n + n:=by
 induction out generalizing i with
 | nil=>simp at h
 | cons s xs ih =>
  cases i with
  | zero=>simp [mI]; omega
  | succ i=>simp only [List.set_cons_succ,mI,List.getElem_cons_succ]; rw [ih i (by simpa using h)]; omega
theorem Lp (out:List St) (i:Nat) (h:i < out.length) (n:Int):iE (out.set i ⟨out[i].typ,out[i].rel,n⟩)=iE out:=by
 unfold iE;rw [List.map_set];show (List.map St.key out).set i (out[i].key)=_;have:out[i].key=(List.map St.key out)[i]'(by simpa using h):=by simp
 rw [this,List.set_getElem_self]
structure Round (ts:List Ty) (out:List St):Prop where
 keys:iE out=au ts
 pos:∀ s ∈ out,0≤s.n
 low:∀ s ∈ out,qw ts s.key s.n
def Qq (ts:List Ty) (out:List St) (s:St) (k:Nat):Prop:=∀ d ∈ (il ts s.key).take k,fO out (d.typ,d.rel) + stepOf d≤s.n
theorem Round.mem {ts:List Ty} {out:List St} (h:Round ts out) {s:St} (hs:s ∈ out):s.key ∈ au ts:=by rw [← h.keys]; exact List.mem_map_of_mem hs
theorem Round.at {ts:List Ty} {out:List St} (h:Round ts out) {k:ByteArray × ByteArray} (hk:k ∈ au ts):0≤fO out k∧qw ts k (fO out k):=by
 obtain ⟨s,hs,e,en⟩:=CE out (by rw [h.keys]; exact hk);rw [← en,← e];exact ⟨h.pos s hs,h.low s hs⟩
theorem Round.set {ts:List Ty} {out:List St} (h:Round ts out) (hF:Found ts) {i:Nat} (hi:i < out.length) {d:Dp} (hd:d ∈ il ts out[i].key):Round ts (out.set i ⟨out[i].typ,out[i].rel,fO out (d.typ,d.rel) + stepOf d⟩):=by
 have hk:out[i].key ∈ au ts:=h.mem (TQ hi);have hdk:=hF _ hk d hd;obtain ⟨h0,hl⟩:=h.at hdk;have hs0:0≤stepOf d:=by unfold stepOf; split <;> omega
 refine ⟨(Lp out i hi _).trans h.keys,fun s hs=>?_,fun s hs=>?_⟩
 ·rcases List.mem_or_eq_of_mem_set hs with hs | rfl
  ·exact h.pos s hs
  show 0≤fO out (d.typ,d.rel) + stepOf d; omega
 rcases List.mem_or_eq_of_mem_set hs with hs | rfl
 ·exact h.low s hs
 exact hl.step hk hd
theorem Round.done {ts:List Ty} {out:List St} (h:Round ts out) (hs:∀ s ∈ out,Qq ts out s (il ts s.key).length):Least ts (fO out) where
 sol:=⟨fun k=>by
   by_cases hk:k ∈ au ts
   ·exact (h.at hk).1
   ·rw [NY out (by rw [h.keys]; exact hk)]; exact Int.le_refl _,fun k hk d hd=>by
   obtain ⟨s,hm,e,en⟩:=CE out (by rw [h.keys]; exact hk);have:=hs s hm d (by rw [Ug,e]; exact hd);rw [← en]; exact this⟩
 low k hk:=(h.at hk).2
def je (a b:ByteArray):Bool:=Op.bytesLess a.toList b.toList
def mg (rs:List Rl) (j:Nat):Bool :=
 match rs[j]? with
 | none=>true
 | some r=>aP r.name && (match j with | 0=>true | i + 1=>(rs[i]?.map fun p=>je p.name r.name).getD true) && aK r.expr
def dG (rs:List Rl):Nat→Bool
 | 0=>true
 | k + 1=>dG rs k && mg rs k
def kv (ts:List Ty) (j:Nat):Bool :=
 match ts[j]? with
 | none=>true
 | some t=>aP t.name && (match j with | 0=>true | i + 1=>(ts[i]?.map fun p=>je p.name t.name).getD true) && decide (t.rels.length≤6) && dG t.rels t.rels.length
def iK (ts:List Ty):Nat→Bool
 | 0=>true
 | k + 1=>iK ts k && kv ts k
theorem sU (rs:List Rl) (k:Nat) (hb:mg rs k=false):∀ n,k < n→dG rs n=false
 | 0,hn=>by omega
 | n + 1,hn=>by
  by_cases e:n=k
  ·subst e; simp [dG,hb]
  simp [dG,sU rs k hb n (by omega)]
theorem sV (ts:List Ty) (k:Nat) (hb:kv ts k=false):∀ n,k < n→iK ts n=false
 | 0,hn=>by omega
 | n + 1,hn=>by
  by_cases e:n=k
  ·subst e; simp [iK,hb]
  simp [iK,sV ts k hb n (by omega)]
theorem o6 {rs:List Rl}:∀ {n:Nat},dG rs n=true→∀ j,j < n→mg rs j=true
 | 0,_,j,hj=>by omega
 | n + 1,h,j,hj=>by
  simp only [dG,TU] at h;by_cases e:j=n
  ·subst e; exact h.2
  exact o6 h.1 j (by omega)
theorem o7 {ts:List Ty}:∀ {n:Nat},iK ts n=true→∀ j,j < n→kv ts j=true
 | 0,_,j,hj=>by omega
 | n + 1,h,j,hj=>by
  simp only [iK,TU] at h;by_cases e:j=n
  ·subst e; exact h.2
  exact o7 h.1 j (by omega)
def bf (ts:List Ty):Bool:=decide (ts.length≤6) && iK ts ts.length
def qy (ts:List Ty) (t:Ty):Bool:=t.rels.all fun r=>aR ts t.name r.expr
def iC (ts:List Ty):Bool:=ts.all (qy ts)
def bR (ts:List Ty):Prop:=bf ts=true∧iC ts=true∧∃ f,Sol ts f
theorem Lr {rs:List Rl} {n:ByteArray} {es:List Ex} (h:jN rs n=some es):∃ r ∈ rs,r.name=n∧r.expr=es:=by
 induction rs with
 | nil=>simp [jN] at h
 | cons r rs ih =>
  simp only [jN] at h;split at h
  ·rename_i hn; injection h with h; exact ⟨r,by simp,fo.1 hn,h⟩
  obtain ⟨q,hq,e⟩:=ih h; exact ⟨q,by simp [hq],e⟩
theorem qz {ts:List Ty} {ty n:ByteArray} {es:List Ex} (h:fI ts ty n=some es):∃ t ∈ ts,∃ r ∈ t.rels,t.name=ty∧r.name=n∧r.expr=es:=by
 induction ts with
 | nil=>simp [fI] at h
 | cons t ts ih =>
  simp only [fI] at h;split at h
  ·rename_i hn;rcases Option.or_eq_some_iff.1 h with h | ⟨-,h⟩
   ·obtain ⟨r,hr,e⟩:=Lr h; exact ⟨t,by simp,r,hr,fo.1 hn,e⟩
   obtain ⟨t',ht,e⟩:=ih h; exact ⟨t',by simp [ht],e⟩
  obtain ⟨t',ht,e⟩:=ih h; exact ⟨t',by simp [ht],e⟩
theorem qA {ts:List Ty} {k:ByteArray × ByteArray}:k ∈ au ts ↔ ∃ t ∈ ts,∃ r ∈ t.rels,k=(t.name,r.name):=by
 simp only [au,jE,Uf,Ue];constructor
 ·rintro ⟨t,ht,r,hr,e⟩; exact ⟨t,ht,r,hr,e.symm⟩
 rintro ⟨t,ht,r,hr,e⟩; exact ⟨t,ht,r,hr,e.symm⟩
theorem rA {ts:List Ty} {ty n:ByteArray} (h:(aA ts ty n).isEmpty=false):(ty,n) ∈ au ts:=by
 unfold aA at h;cases e:fI ts ty n with
 | none=>rw [e] at h; simp at h
 | some es =>
  obtain ⟨t,ht,r,hr,h1,h2,-⟩:=qz e;exact qA.2 ⟨t,ht,r,hr,by rw [h1,h2]⟩
theorem R7 {ts:List Ty} {rel:ByteArray} {xs:List Al} {g:ByteArray} (h:g ∈ gl ts rel xs):(aA ts g rel).isEmpty=false:=by
 induction xs with
 | nil=>simp [gl] at h
 | cons a xs ih =>
  simp only [gl] at h;split at h
  ·exact ih h
  rename_i hn;rcases List.mem_cons.1 h with rfl | h
  ·simpa using hn
  exact ih h
theorem Lt {neg:Bool} {xs:List Al} {d:Dp} (h:d ∈ dh neg xs):∃ a ∈ xs,a.s.toList.isEmpty=false∧d.typ=a.t∧d.rel=a.s:=by
 induction xs with
 | nil=>simp [dh] at h
 | cons a xs ih =>
  simp only [dh] at h;split at h
  ·obtain ⟨b,hb,e⟩:=ih h; exact ⟨b,by simp [hb],e⟩
  rename_i hn;rcases List.mem_cons.1 h with rfl | h
  ·exact ⟨a,by simp,by simpa using hn,rfl,rfl⟩
  obtain ⟨b,hb,e⟩:=ih h; exact ⟨b,by simp [hb],e⟩
theorem sW {ts:List Ty} {typ:ByteArray} {es:List Ex} {d:Dp}:∀ {k:Nat},d ∈ aN ts typ es k→∃ i,i < k∧d ∈ ik ts typ es i
 | 0,h=>by simp [aN] at h
 | k + 1,h=>by
  simp only [aN] at h;rcases Uc.1 h with h | h
  ·obtain ⟨i,hi,e⟩:=sW h; exact ⟨i,by omega,e⟩
  exact ⟨k,by omega,h⟩
theorem CF {ts:List Ty} {typ:ByteArray} {es:List Ex} (h:aR ts typ es=true):∀ e ∈ es,oV ts e.allow=true∧ll ts typ e=true:=by
 induction es with
 | nil=>intro e he; cases he
 | cons e es ih =>
  simp only [aR] at h;split at h
  ·rename_i hn;rw [TU] at hn;intro q hq;rcases List.mem_cons.1 hq with rfl | hq
   ·exact hn
   exact ih h q hq
  cases h
theorem kw {ts:List Ty} (h:iC ts=true):Found ts:=by
 intro k hk d hd;unfold il pR at hd;have hne:(aA ts k.1 k.2).length ≠ 0:=by
  intro e;rw [e] at hd; simp [aN] at hd
 obtain ⟨es,hes⟩:∃ es,fI ts k.1 k.2=some es:=by
  cases e:fI ts k.1 k.2 with
  | none=>unfold aA at hne; rw [e] at hne; simp at hne
  | some es=>exact ⟨es,rfl⟩
 have ero:aA ts k.1 k.2=es:=by unfold aA; rw [hes]; rfl
 rw [ero] at hd;obtain ⟨t,ht,r,hr,h1,h2,h3⟩:=qz hes;have hr1:aR ts k.1 es=true:=by
  unfold iC at h;rw [Ub] at h;have:=h t ht;unfold qy at this;rw [Ub] at this;have:=this r hr;rw [h1,h3] at this;exact this
 obtain ⟨i,hi,hdi⟩:=sW hd;unfold ik at hdi;split at hdi
 ·cases hdi
 rename_i e he;obtain ⟨ra,rn⟩:=CF hr1 e (List.mem_of_getElem? he);rcases Uc.1 hdi with hdi | hdi
 ·obtain ⟨a,ha,hs,e1,e2⟩:=Lt hdi;unfold oV at ra;rw [Ub] at ra;have:=ra a ha;unfold pQ at this;rw [hs,Bool.false_or,TU] at this;rw [e1,e2];exact rA (by simpa using this.2)
 unfold kP at hdi;unfold ll at rn;split at hdi
 ·rename_i h2;rw [if_pos h2] at rn;simp at hdi;subst hdi;exact rA (by simpa using rn)
 split at hdi
 ·obtain ⟨g,hg,rfl⟩:=Ue.1 hdi;exact rA (R7 hg)
 cases hdi
theorem lu {es:List Ex} (h:aK es=true):1≤es.length∧es.length≤15:=by
 simp only [aK,TU,Ud] at h;exact ⟨h.1.1.1.1.1,h.1.1.1.1.2⟩
theorem Lu {es:List Ex} (h:aK es=true) (i:Nat) (hi:i < es.length):dW es.length es[i].kids:=by
 simp only [aK,TU,Ud] at h;have h1:=h.1.1.2;unfold iY at h1;rw [Ub] at h1;have h2:=h1 i (by simpa using hi);unfold kI dC at h2;rw [TY hi] at h2;simp only [Option.map_some,Option.getD_some,Ub,TU,Ud] at h2;intro x hx;have:=h2 x hx;omega
theorem bq {rs:List TR} (h:bf (ae rs)=true):rs.length≤6∧(∀ r ∈ rs,r.rows.length≤6)∧∀ r ∈ rs,∀ q ∈ r.rows,aK (ak q.rows)=true∧q.rows.length≤15∧∀ e ∈ q.rows,dW q.rows.length e.e.kids:=by
 simp only [bf,TU,Ud] at h;rw [kY] at h;have hT:∀ r ∈ rs,r.rows.length≤6∧dG (eF r.rows) r.rows.length=true:=by
  intro r hr;obtain ⟨j,hj,rfl⟩:=List.mem_iff_getElem.1 hr;have h1:=o7 h.2 j hj;unfold kv at h1;have e:(ae rs)[j]?=some rs[j].p:=by simp [ae,hj]
  rw [e] at h1;simp only [TU,Ud] at h1;have e2:rs[j].p.rels.length=rs[j].rows.length:=by simp [TR.p,eF]
  rw [e2] at h1;exact ⟨h1.1.2,h1.2⟩
 refine ⟨h.1,fun r hr=>(hT r hr).1,fun r hr q hq=>?_⟩;obtain ⟨j,hj,rfl⟩:=List.mem_iff_getElem.1 hq;have h1:=o6 (hT r hr).2 j hj;unfold mg at h1;have e:(eF r.rows)[j]?=some r.rows[j].p:=by simp [eF,hj]
 rw [e] at h1;simp only [TU] at h1;have h2:aK (ak r.rows[j].rows)=true:=h1.2;have h3:=lu h2;rw [aT] at h3;refine ⟨h2,h3.2,fun e he=>?_⟩;obtain ⟨i,hi,rfl⟩:=List.mem_iff_getElem.1 he;have:=Lu h2 i (by rw [aT]; exact hi);have e1:(ak r.rows[j].rows)[i]'(by rw [aT]; exact hi)=r.rows[j].rows[i].e:=by simp [ak]
 rw [e1] at this;simpa [ak] using this
def assigns (n:Nat):List (ByteArray × ByteArray)→List (ByteArray × ByteArray→Int)
 | []=>[fun _=>0]
 | k::ks=>(assigns n ks).flatMap fun f=>(List.range n).map fun v=>fun y=>if y=k then ((v:Nat):Int) else f y
theorem xJ {n:Nat}:∀ {ks:List (ByteArray × ByteArray)} {f:ByteArray × ByteArray→Int},f ∈ assigns n ks→∀ k,0≤f k
 | [],f,h,k=>by simp only [assigns,Ua] at h; rw [h]; exact Int.le_refl _
 | x::ks,f,h,k=>by
  simp only [assigns,Uf,Ue] at h;obtain ⟨g,hg,v,-,rfl⟩:=h;show 0≤(if k=x then ((v:Nat):Int) else g k);split
  ·omega
  exact xJ hg k
theorem xK {n:Nat} (g:ByteArray × ByteArray→Int):∀ (ks:List (ByteArray × ByteArray)),(∀ k ∈ ks,0≤g k∧g k < n)→∃ f ∈ assigns n ks,∀ k ∈ ks,f k=g k
 | [],_=>⟨fun _=>0,by simp [assigns],fun k hk=>by cases hk⟩
 | x::ks,h=>by
  obtain ⟨f,hf,hfg⟩:=xK g ks fun k hk=>h k (Uq _ hk);obtain ⟨h0,h1⟩:=h x (Us ..);refine ⟨fun y=>if y=x then (((g x).toNat:Nat):Int) else f y,?_,fun k hk=>?_⟩
  ·simp only [assigns,Uf,Ue];exact ⟨f,hf,(g x).toNat,List.mem_range.2 (by omega),rfl⟩
  show (if k=x then (((g x).toNat:Nat):Int) else f k)=g k;by_cases e:k=x
  ·rw [if_pos e,e]; omega
  rw [if_neg e];rcases List.mem_cons.1 hk with h2 | h2
  ·exact absurd h2 e
  exact hfg k h2
def R8 (ts:List Ty) (f:ByteArray × ByteArray→Int):Bool:=(au ts).all fun k=>(il ts k).all fun d=>decide (f (d.typ,d.rel) + stepOf d≤f k)
theorem Ke {ts:List Ty} {f:ByteArray × ByteArray→Int}:R8 ts f=true ↔ ∀ k ∈ au ts,∀ d ∈ il ts k,f (d.typ,d.rel) + stepOf d≤f k:=by
 unfold R8; simp only [Ub,Ud]
def zG (ts:List Ty):List (ByteArray × ByteArray→Int):=(assigns (au ts).length (au ts)).filter (R8 ts)
theorem Lv {ts:List Ty} {f:ByteArray × ByteArray→Int} (h:f ∈ zG ts):Sol ts f:=by
 unfold zG at h;rw [Ux] at h;exact ⟨xJ h.1,Ke.1 h.2⟩
theorem N7 {ts:List Ty} {g:ByteArray × ByteArray→Int} (hF:Found ts) (h:Sol ts g) (hb:∀ k ∈ au ts,g k + 1≤(au ts).length):∃ f ∈ zG ts,∀ k ∈ au ts,f k=g k:=by
 obtain ⟨f,hf,hfg⟩:=xK (n:=(au ts).length) g (au ts) fun k hk=>⟨h.pos k,by have:=hb k hk; omega⟩;refine ⟨f,?_,hfg⟩;unfold zG;rw [Ux];refine ⟨hf,Ke.2 fun k hk d hd=>?_⟩;rw [hfg k hk,hfg _ (hF k hk d hd)];exact h.up k hk d hd
def aJ (ts:List Ty):Bool:=bf ts && iC ts && !(zG ts).isEmpty
theorem aY {ts:List Ty}:aJ ts=true ↔ bR ts:=by
 unfold aJ bR;simp only [TU,Bool.not_eq_true'];constructor
 ·rintro ⟨⟨h1,h2⟩,h3⟩;refine ⟨h1,h2,?_⟩;cases e:zG ts with
  | nil=>rw [e] at h3; cases h3
  | cons f fs=>exact ⟨f,Lv (by rw [e]; exact Us ..)⟩
 rintro ⟨h1,h2,f,hf⟩;refine ⟨⟨h1,h2⟩,?_⟩;obtain ⟨g,hg,hb⟩:=hf.few (kw h2);obtain ⟨f2,hf2,-⟩:=N7 (kw h2) hg hb;cases e:zG ts with
 | nil=>rw [e] at hf2; cases hf2
 | cons f fs=>rfl
theorem xL {ts:List Ty} (h:bR ts):aJ ts=true:=aY.2 h
theorem dM {ts:List Ty} (h:¬ bR ts):aJ ts=false:=by
 cases e:aJ ts;case false=>rfl
 exact absurd (aY.1 e) h
end Go.Proofs.YtajkkeikihhejaaGreat
