/- Contract of the program's function on right schemas. -/
import Derived.Test.YtajkkeikihhejaaGreatSq
import Derived.Test.YtajkkeikihhejaaGreatJ27
import Derived.Test.YtajkkeikihhejaaGreatJ35
open Go.Proofs.Tryz
set_option maxHeartbeats 80000000
namespace Go.Proofs.YtajkkeikihhejaaGreat
open Go.ChangeShapes Go.WideShapes Go.ChangeAt Go.RowKit Go.Maps
open Pl
theorem xx (ad:Option Addr)(cap:Nat)(rs:List TR)(w:af)(hlen:rs.length<=1048576)(hs:kX w ad rs)(hl:∀ r∈rs,r.light)(hf:∀ r∈rs,r.fits)(hcp:∀ r∈rs,r.caps) :
  Calls prog 52 #[.slice ad rs.length cap] w fun e w'=>e=.returned (.bool (aL (ae rs)))/\ag w w':=by
 have HC:=vY ad cap rs w hlen hs hl hf hcp;clear hs hl hf hcp;go_enter func52,ntmps52;go_wp2_with fail;refine HC.mono ?_;rintro e w6 ⟨hL,hb6⟩;rcases hL with ⟨bS,nS,σ,rfl,hS,-⟩|⟨rfl,hno⟩
 ·have HY:=xL hS;have HY2:Hid (aL (ae rs)=true):=HY;clear HY hS HC;go_wp2;go_ret;exact ⟨ah HY2.out.symm,hb6⟩
 have HY2:Hid (aL (ae rs)=false):=dO hno;clear hno HC;go_wp2;go_ret;exact ⟨ah HY2.out.symm,hb6⟩
def si (ts:List Ty)(typ rel:ByteArray):List Ex:=if aL ts then aB ts typ rel else []
set_option maxRecDepth 100000 in
theorem Cb (ad:Option Addr)(cap:Nat)(rs:List TR)(typ rel:bI)(w:af)(hlen:rs.length<=1048576)(hs:kX w ad rs)(hl:∀ r∈rs,r.light)(hf:∀ r∈rs,r.fits)(hcp:∀ r∈rs,r.caps)(ht:typ.size<=maxLen)(hr:rel.size<=maxLen) :
  Calls prog 12 #[.slice ad rs.length cap,.string typ,.string rel] w fun e w'=>∃ (UX:Option Addr) (cap':Nat) (qs:List ER),e=.returned (.tuple #[.slice UX qs.length cap',.bool (!(si (ae rs) typ rel).isEmpty)])/\aj qs=si (ae rs) typ rel/\iC w' UX qs/\(qs≠[]->∃ b,UX=some ⟨b,0,none⟩/\w.heap.size<=b/\b<w'.heap.size/\qC b w' qs/\gY w' b)/\ag w w':=by
 obtain ⟨kl,hkl⟩:=jC (typ,rel) ht hr;have VD:Hid (keyOf prog 94 (dS (typ,rel))=some kl):=hkl;have HS:=aA hs;have HL:=aA hl;have UY:=aA hf;have HCP:=aA hcp;clear hs hl hf hcp hkl;go_enter func12,ntmps12;go_wp2_with fail;refine (xx ad cap rs _ hlen HS.out HL.out UY.out HCP.out).mono ?_;rintro e w1 ⟨rfl,hb1⟩;have HB1:=aA hb1;clear hb1;cases hd:aL (ae rs);case false=>
  have HN:Hid (si (ae rs) typ rel=[]):=by show _=_;unfold si;rw [hd];rfl
  go_wp2;refine bodyPost_ret (v:=.tuple #[.slice none 0 0,.bool false]) ?_ rfl ⟨none,0,[],by rw [HN.out];rfl,by rw [HN.out];rfl,.inl rfl,fun h=>absurd rfl h,HB1.out⟩;simp [results,Tryz.results12,go_sem]
 have HN:Hid (si (ae rs) typ rel=aB (ae rs) typ rel):=by show _=_;unfold si;rw [hd];rfl
 have hSP:=aZ.1 hd;obtain ⟨h6,Ww,hex⟩:=bu hSP.1;have Wt:Hid (∀ r∈rs,r.rows.length<=6):=Ww;have ZJ:Hid (∀ r∈rs,∀ q∈r.rows,aK (aj q.rows)=true/\q.rows.length<=15/\∀ e∈q.rows,dW q.rows.length e.e.kids):=hex;have HTAB:Hid (Tab rs (nZ rs)):=wK hSP.1;clear hd hSP Ww hex;go_wp2_with fail;refine (qK ad cap rs _ h6 (HS.out.below HB1.out) Wt.out UY.out).mono ?_;rintro e w2 ⟨rfl,hmv,hb2⟩;have HB2:=jP HB1 hb2;have HMV:=aA hmv;clear hmv hb2;cases hm:nZ rs (typ,rel) with
 | none =>
  have Wq:Hid (si (ae rs) typ rel=[]):=by
   show _=_;rw [HN.out];unfold aB;rw [HTAB.out.no _ hm];rfl
  go_wp2_with (at_lookup;refine cu _ rfl _ _ 91 rfl 94 33 ic underlying91 (lF _) w1.heap.size 36 (nZ rs) rfl HMV.out (typ,rel) kl rfl VD.out ?_;simp only [hm,Option.getD_none,Option.isSome_none]);refine bodyPost_ret (v:=.tuple #[.slice none 0 0,.bool false]) ?_ rfl ⟨none,0,[],by rw [Wq.out];rfl,by rw [Wq.out];rfl,.inl rfl,fun h=>absurd rfl h,HB2.out⟩;simp [results,Tryz.results12,go_sem]
 | some v =>
  obtain ⟨t,htm,q,hq,-,rfl,e1,-⟩:=HTAB.out.yes _ v hm;have Wq:Hid (si (ae rs) typ rel=aj q.rows):=by
   show _=_;rw [HN.out];unfold aB;rw [e1];rfl
  have hsp:=ZJ.out t htm q hq;have HNE:Hid ((si (ae rs) typ rel).isEmpty=false):=by
   show _=_;rw [Wq.out];have:=(lq hsp.1).1;cases h:aj q.rows with
   | nil=>rw [h]at this;simp at this
   | cons a b=>rfl
  have hrl:=hsp.2.1;have WU:Hid (iC w2 q.ad q.rows):=Ni.mem (kX.mem (HS.out.below HB2.out) htm) hq;have WV:Hid (∀ r∈q.rows,r.e.light):=((HL.out t htm).2 q hq).2;have HM:Hid (nZ rs (typ,rel)=some (.slice q.ad q.rows.length q.cap)):=hm;clear e1 hsp hm;go_wp2_with (at_lookup;refine cu _ rfl _ _ 91 rfl 94 33 ic underlying91 (lF _) w1.heap.size 36 (nZ rs) rfl HMV.out (typ,rel) kl rfl VD.out ?_;rw [HM.out];simp only [Option.getD_some,Option.isSome_some]);refine (Es q.ad q.cap q.rows _ hrl WU.out WV.out).mono ?_;rintro e w3 ⟨qs,rfl,hqe,hqs,hqo,hqf,Yu,hb3⟩;have HB3:=jP HB2 hb3;have HQE:Hid (aj qs=si (ae rs) typ rel):=by show _=_;rw [hqe,Wq.out]
  have HQS:Hid (iC w3 (some ⟨w2.heap.size,0,none⟩) qs):=hqs;have HQO:Hid (qs≠[]->∃ b,(some ⟨w2.heap.size,0,none⟩:Option Addr)=some ⟨b,0,none⟩/\w.heap.size<=b/\b<w3.heap.size/\qC b w3 qs/\gY w3 b):=fun _=>⟨w2.heap.size,rfl,HB2.out.size,Yu,hqo,hqf⟩;clear hqe hqs hqo hqf Yu hb3;go_wp2;refine bodyPost_ret (v:=.tuple #[.slice (some ⟨w2.heap.size,0,none⟩) qs.length qs.length,.bool true]) ?_ rfl ⟨some ⟨w2.heap.size,0,none⟩,qs.length,qs,by rw [HNE.out];rfl,HQE.out,HQS.out,HQO.out,HB3.out⟩;simp [results,Tryz.results12,go_sem]
set_option linter.unusedSectionVars false
set_option linter.unusedVariables false
theorem xy {xs:List Al}{o x:Al}:x∈bf xs o ↔ x∈xs\/x=o:=by
 unfold bf;split
 ·rename_i h;exact ⟨.inl,fun h'=>h'.elim id fun e=>e ▸ OU.1 h⟩
 simp
theorem Fe:∀ (ts:List Tp) (xs:List Al) (o:Al),(o∈xs \/ ∃ t∈ts,o=⟨t.a,t.b⟩\/o=⟨t.c,t.d⟩)->o∈ts.foldl fO xs
 | [],xs,o,h=>h.elim id fun ⟨t,ht,_⟩=>by cases ht
 | t::ts,xs,o,h=>by
  refine Fe ts (fO xs t) o ?_;unfold fO;simp only [xy];rcases h with h|⟨u,hu,h⟩
  ·exact .inl (.inl (.inl h))
  rcases List.mem_cons.1 hu with rfl|hu
  ·rcases h with h|h
   ·exact .inl (.inl (.inr h))
   exact .inl (.inr h)
  exact .inr ⟨u,hu,h⟩
theorem KN:∀ (ts:List Tp) (xs:List Al) (o:Al),(o∈xs \/ ∃ t∈ts,t.s.toList.isEmpty=true/\o=⟨t.c,t.d⟩)->o∈ts.foldl cz xs
 | [],xs,o,h=>h.elim id fun ⟨t,ht,_⟩=>by cases ht
 | t::ts,xs,o,h=>by
  refine KN ts (cz xs t) o ?_;rcases h with h|⟨u,hu,hs,h⟩
  ·refine .inl ?_;unfold cz;split
   ·exact xy.2 (.inl h)
   exact h
  rcases List.mem_cons.1 hu with rfl|hu
  ·refine .inl ?_;unfold cz;rw [if_pos (by simpa using hs)];exact xy.2 (.inr h)
  exact .inr ⟨u,hu,hs,h⟩
theorem pQ {l:List Tp}{es:List Ex}{truth known:List Fc}{f:Fc}(h5:∀ e∈es,e.kind=5->e.kids≠[])(hkn:∀ g∈known,(⟨g.a,g.b⟩:Al)∈eD l/\(⟨g.c,g.d⟩:Al)∈dh l):∀ (k n:Nat),dz l es truth f k known n=true->(⟨f.a,f.b⟩:Al)∈eD l/\(⟨f.c,f.d⟩:Al)∈dh l
 | 0,n,h=>by cases h
 | k+1,n,h=>by
  unfold dz at h;cases e:es[n]? with
  | none=>rw [e]at h;cases h
  | some x =>
   rw [e]at h;simp only at h;by_cases k1:x.kind=1
   ·rw [if_pos k1]at h;unfold eB at h;obtain ⟨t,ht,h⟩:=UA.1 h;simp only [Ug,beq_iff_eq]at h;obtain ⟨⟨⟨h1,h2⟩,h3⟩,h4⟩:=h;refine ⟨Fe _ _ _ (.inr ⟨t,ht,.inl (by rw [gu h1,gu h2])⟩),?_⟩;split at h4
    ·rename_i hs;simp only [Ug,beq_iff_eq]at h4;exact KN _ _ _ (.inr ⟨t,ht,hs,by rw [gu h4.1,gu h4.2]⟩)
    exact (hkn _ (dE.1 h4)).2
   rw [if_neg k1]at h;by_cases k2:x.kind=2
   ·rw [if_pos k2]at h;have h2:=hkn _ (dE.1 h);exact h2
   rw [if_neg k2]at h;by_cases k3:x.kind=3
   ·rw [if_pos k3]at h;unfold fU at h;obtain ⟨t,ht,h⟩:=UA.1 h;simp only [Ug,beq_iff_eq]at h;obtain ⟨⟨⟨h1,h2⟩,h3⟩,h4⟩:=h;exact ⟨Fe _ _ _ (.inr ⟨t,ht,.inl (by rw [gu h1,gu h2])⟩),(hkn _ (dE.1 h4)).2⟩
   rw [if_neg k3]at h;by_cases k4:x.kind=4
   ·rw [if_pos k4]at h;obtain ⟨i,-,h⟩:=UA.1 h;exact pQ h5 hkn k _ h
   rw [if_neg k4]at h;by_cases k5:x.kind=5
   ·rw [if_pos k5]at h;obtain ⟨i,hi⟩:=List.exists_mem_of_ne_nil _ (h5 x (List.mem_of_getElem? e) k5);exact pQ h5 hkn k _ (Un.1 h i hi)
   rw [if_neg k5]at h;by_cases k6:x.kind=6
   ·rw [if_pos k6]at h;exact pQ h5 hkn k _ (Bool.and_eq_true_iff.1 h).1
   rw [if_neg k6]at h;cases h
theorem Qh {ts:List Tp}(h:dL ts=true):∀ t∈ts,t.ok=true:=fun t ht=>by
 unfold dL at h;simp only [Ug]at h;obtain ⟨i,hi,rfl⟩:=UE ht;have h1:=h.2;unfold tO at h1;have h2:=Un.1 h1 i (by simpa using hi);unfold uX at h2;rw [Uj hi]at h2;exact (Bool.and_eq_true_iff.1 h2).1
section
variable  [DecidableEq Fc]
theorem Hq (ts:List Ty)(l:List Tp)(st:ByteArray×ByteArray->Int)(xo xu:List Al):∀ N,mg ts l st xo xu N=uM (fe ts l) (fun n=>bZ ts st xo xu (n:Int)) N
 | 0=>rfl
 | N+1=>by rw [jh,Hq ts l st xo xu N];rfl
theorem Nf {rs:List TR}(hsh:bi (ae rs)=true)(a r:bI):∀ e∈aB (ae rs) a r,e.kind=5->e.kids≠[]:=by
 intro e he k5;cases hp:fH (ae rs) a r with
 | none=>unfold aB at he;rw [hp]at he;cases he
 | some es =>
  unfold aB at he;rw [hp]at he;obtain ⟨t0,ht0,r0,hr0,en,er,ee⟩:=qI hp;have hspec:=(tY hsh ht0 hr0).2;rw [ee]at hspec;have h4:es.all av=true:=by simp only [aK,Ug]at hspec;exact hspec.1.1.1.2
  have:=Un.1 h4 e he;unfold av at this;rw [if_neg (by omega),if_neg (by omega),if_neg (by omega),if_pos (.inr k5)]at this;simp only [Ug,Um]at this;intro h0;rw [h0]at this;simp at this
theorem wy {st:ByteArray×ByteArray->Int}{rs:List TR}{ts:List Tp}(hle:aL (ae rs)=true->Least (ae rs) st)(hr:aV (gW rs) rs ts=true)(f:Fc):bn (ax st rs ts) f=fe (ae rs) ts (ax st rs ts) f:=by
 have hr2:=hr;unfold aV at hr2;simp only [Ug]at hr2;have hSP:=aZ.1 hr2.1.1;have WE:=hle hr2.1.1;have hfit:∀ t∈ts,PH (ae rs) t=true:=fun t ht=>by
  have h1:=Un.1 hr2.2 t ht;rw [<-DL hr2.1.1 (Qh hr2.1.2 t ht)]at h1;exact h1
 have hL:=ES WE.sol hSP.1 hSP.2.1 hfit;have hen:∀ k∈ak (ae rs),hasB (ae rs) k.1 k.2=true:=fun k hk=>by
  obtain ⟨es,h1,h2⟩:=Ha hSP.1 hk;rw [GK];unfold aB;rw [h1];intro e;have e2:es=[]:=e;rw [e2]at h2;simp [aK]at h2
 have hq:∀ n:Nat,∀ g∈bZ (ae rs) st (eD ts) (dh ts) (n:Int),Qk (ae rs) st g=(n:Int):=fun n g hg=>JH hen hg;have hsub:∀ g∈ax st rs ts,(⟨g.a,g.b⟩:Al)∈eD ts/\(⟨g.c,g.d⟩:Al)∈dh ts:=fun g hg=>by
  rw [iy hr]at hg;have h1:=(kG st rs ts (eD ts) (dh ts) _).sub g hg;unfold BP at h1;obtain ⟨o,ho,h1⟩:=Ut.1 h1;obtain ⟨k,hk,h1⟩:=Ut.1 h1;unfold jc at h1;obtain ⟨u,hu,rfl⟩:=Ur.1 h1;exact ⟨ho,hu⟩
 rw [Bool.eq_iff_iff,dE];have e:ax st rs ts=uM (fe (ae rs) ts) (fun n=>bZ (ae rs) st (eD ts) (dh ts) (n:Int)) ((ak (ae rs)).length+1):=by
  rw [iy hr];exact Hq _ _ _ _ _ _
 constructor
 ·intro h;rw [e]at h ⊢;exact KZ hL hq h
 intro h;obtain ⟨ho,hu⟩:=pQ (Nf hSP.1 f.a f.r) hsub _ _ h;have hne:aB (ae rs) f.a f.r≠[]:=fun h0=>by
  unfold fe at h;rw [h0]at h;cases h
 have hk:(f.a,f.r)∈ak (ae rs):=rC (by simpa using hne);have hp:=WE.sol.pos (f.a,f.r);have hlt:st (f.a,f.r)<((ak (ae rs)).length:Int):=by
  refine Classical.byContradiction fun hc=>?_;exact absurd ⟨st,WE.sol⟩ (IE (kz hSP.2.1) hk (WE.low _ hk) (by omega))
 rw [e]at h ⊢;refine Oa hL hq (n:=(st (f.a,f.r)).toNat) (by omega) ?_ h;unfold bZ vC Ap jc;refine Ut.2 ⟨_,ho,Ut.2 ⟨(f.a,f.r),UJ.2 ⟨hk,?_⟩,Ur.2 ⟨_,hu,rfl⟩⟩⟩;simp only [BEq.rfl,Bool.true_and,Um];omega
end
def oL (ts:List Tp)(Q:List Fc)(f:Fc)(x:Ex):Option Bool :=
 if x.kind=1 then some (eB ts Q f) else if x.kind=2 then some (bn Q ⟨f.a,f.b,x.name,f.c,f.d⟩) else if x.kind=3 then some (fU ts Q x.over x.name f) else none
theorem ui {ts:List Tp}{es:List Ex}{Q truth:List Fc}{f:Fc}{k n:Nat}(h:n<es.length){v:Bool}(hv:oL ts Q f es[n]=some v):dz ts es truth f (k+1) Q n=v:=by
 unfold oL at hv;unfold dz;rw [Uj h];simp only;by_cases k1:es[n].kind=1
 ·rw [if_pos k1]at hv ⊢;exact Option.some.inj hv
 rw [if_neg k1]at hv ⊢;by_cases k2:es[n].kind=2
 ·rw [if_pos k2]at hv ⊢;exact Option.some.inj hv
 rw [if_neg k2]at hv ⊢;by_cases k3:es[n].kind=3
 ·rw [if_pos k3]at hv ⊢;exact Option.some.inj hv
 rw [if_neg k3]at hv;cases hv
theorem Qi {es:List Ex}(h:aK es=true)(hl:2<=es.length):(es[es.length-1]'(by omega)).kind=4\/(es[es.length-1]'(by omega)).kind=5\/((es[es.length-1]'(by omega)).kind=6/\(es[es.length-1]'(by omega)).kids.length=2):=by
 have h0:=h;unfold aK at h0;simp only [Ug,Um]at h0;have hn:=Un.1 h0.1.1.1.2 _ (Ud (show es.length-1<es.length by omega));have ht:=h0.2;obtain ⟨x,hx⟩:∃ x,x=es[es.length-1]'(by omega):=⟨_,rfl⟩;have hk:dx es (es.length-1)=x.kids:=by unfold dx;rw [Uj (by omega),hx];rfl
 have hne:x.kids≠[]:=fun e=>by
  rw [iD,hk,e]at ht;simp only [List.reverse_nil,cO]at ht;omega
 rw [<-hx]at hn ⊢;unfold av at hn;have hl0:x.kids.length≠0:=fun e=>hne (Uu.1 e);by_cases k1:x.kind=1
 ·rw [if_pos k1]at hn;simp only [Ug,Um]at hn;exact absurd hn.2 hl0
 rw [if_neg k1]at hn;by_cases k2:x.kind=2
 ·rw [if_pos k2]at hn;simp only [Ug,Um]at hn;exact absurd hn.2 hl0
 rw [if_neg k2]at hn;by_cases k3:x.kind=3
 ·rw [if_pos k3]at hn;simp only [Ug,Um]at hn;exact absurd hn.2 hl0
 rw [if_neg k3]at hn;by_cases k4:x.kind=4\/x.kind=5
 ·exact k4.elim .inl fun h=>.inr (.inl h)
 rw [if_neg k4]at hn;by_cases k6:x.kind=6
 ·rw [if_pos k6]at hn;simp only [Ug,Um]at hn;exact .inr (.inr ⟨k6,hn.1.1.1⟩)
 rw [if_neg k6]at hn;cases hn
section
variable  [DecidableEq Fc]
theorem Hr {st:ByteArray×ByteArray->Int}{rs:List TR}{ts:List Tp}(hle:aL (ae rs)=true->Least (ae rs) st)(hr:aV (gW rs) rs ts=true)(f:Fc){es:List Ex}(he:aB (ae rs) f.a f.r=es)(hl:2<=es.length){x:Ex}(hx:es[es.length-1]?=some x)(b:Nat->Bool)
  (hb:∀ (i:Nat) (hi:i<x.kids.length),∃ h:(x.kids[i]).toNat<es.length,oL ts (ax st rs ts) f es[(x.kids[i]).toNat]=some (b i)) :
  (x.kind=4->bn (ax st rs ts) f=(List.range x.kids.length).any b)/\(x.kind=5->bn (ax st rs ts) f=(List.range x.kids.length).all b):=by
 obtain ⟨m,hm⟩:∃ m,es.length=m+2:=⟨es.length-2,by omega⟩;have key:bn (ax st rs ts) f=dz ts es (ax st rs ts) f (m+2) (ax st rs ts) (es.length-1):=by
  rw [wy hle hr];unfold fe;rw [he,hm]
 have Vj:∀ (i:Nat) (hi:i<x.kids.length),dz ts es (ax st rs ts) f (m+1) (ax st rs ts) (x.kids[i]).toNat=b i:=fun i hi=>by
  obtain ⟨h1,h2⟩:=hb i hi;exact ui h1 h2
 unfold dz at key;rw [hx]at key;simp only at key;refine ⟨fun k4=>?_,fun k5=>?_⟩
 ·rw [if_neg (by omega),if_neg (by omega),if_neg (by omega),if_pos k4]at key;rw [key,Bool.eq_iff_iff,UA,UA];constructor
  ·rintro ⟨y,hy,h⟩;obtain ⟨i,hi,rfl⟩:=UE hy;exact ⟨i,List.mem_range.2 hi,by rw [<-Vj i hi];exact h⟩
  rintro ⟨i,hi,h⟩;have hi2:=List.mem_range.1 hi;exact ⟨_,Ud hi2,by rw [Vj i hi2];exact h⟩
 rw [if_neg (by omega),if_neg (by omega),if_neg (by omega),if_neg (by omega),if_pos k5]at key;rw [key,Bool.eq_iff_iff,Un,Un];constructor
 ·intro h i hi;have hi2:=List.mem_range.1 hi;rw [<-Vj i hi2];exact h _ (Ud hi2)
 intro h y hy;obtain ⟨i,hi,rfl⟩:=UE hy;rw [Vj i hi];exact h i (List.mem_range.2 hi)
theorem Ng {st:ByteArray×ByteArray->Int}{rs:List TR}{ts:List Tp}(hle:aL (ae rs)=true->Least (ae rs) st)(hr:aV (gW rs) rs ts=true)(f:Fc){es:List Ex}(he:aB (ae rs) f.a f.r=es)(hl:2<=es.length){x:Ex}(hx:es[es.length-1]?=some x)(hk:x.kind=6)(h2:x.kids.length=2)(b0 b1:Bool)
  (hb0:∃ h:(x.kids[0]).toNat<es.length,oL ts (ax st rs ts) f es[(x.kids[0]).toNat]=some b0) (hb1:∃ h:(x.kids[1]).toNat<es.length,oL ts (ax st rs ts) f es[(x.kids[1]).toNat]=some b1) :
  bn (ax st rs ts) f=(b0 && !b1):=by
 obtain ⟨m,hm⟩:∃ m,es.length=m+2:=⟨es.length-2,by omega⟩;have key:bn (ax st rs ts) f=dz ts es (ax st rs ts) f (m+2) (ax st rs ts) (es.length-1):=by
  rw [wy hle hr];unfold fe;rw [he,hm]
 obtain ⟨h3,h4⟩:=hb0;obtain ⟨h5,h6⟩:=hb1;have g0:x.kids.getD 0 0=x.kids[0]:=by rw [List.getD_eq_getElem?_getD,Uj (by omega)];rfl
 have g1:x.kids.getD 1 0=x.kids[1]:=by rw [List.getD_eq_getElem?_getD,Uj (by omega)];rfl
 unfold dz at key;rw [hx]at key;simp only at key;rw [if_neg (by omega),if_neg (by omega),if_neg (by omega),if_neg (by omega),if_neg (by omega),if_pos hk,g0,g1,ui h3 h4,ui h5 h6]at key;exact key
end
def mH (ts:List Tp)(Q:List Fc)(f:Fc)(es:List Ex)(ks:List Int)(j:Nat):Option Bool:=match ks[j]? with
 | none=>none
 | some y=>match es[y.toNat]? with
  | none=>none
  | some x=>oL ts Q f x
theorem RA {ts:List Tp}{Q:List Fc}{f:Fc}{es:List Ex}{ks:List Int}{j:Nat}{y:Int}{x:Ex}(hy:ks[j]?=some y)(hx:es[y.toNat]?=some x):mH ts Q f es ks j=oL ts Q f x:=by
 unfold mH;rw [hy];simp only;rw [hx]
theorem Ff {ts:List Tp}{Q:List Fc}{f:Fc}{es:List Ex}{ks:List Int}{j:Nat}{v:Bool}(h:mH ts Q f es ks j=some v)(hj:j<ks.length):∃ h:(ks[j]).toNat<es.length,oL ts Q f es[(ks[j]).toNat]=some v:=by
 unfold mH at h;rw [Uj hj]at h;simp only at h;by_cases hl:(ks[j]).toNat<es.length
 ·rw [Uj hl]at h;exact ⟨hl,h⟩
 rw [List.getElem?_eq_none (by omega)]at h;cases h
theorem Ht {T:Type}{p:T->Bool}{l:List T}{k:Nat}(h:k<l.length):(l.take (k+1)).any p=((l.take k).any p || p l[k]):=by
 rw [Uh h,List.any_append];simp
theorem Tm {b:Nat->Bool}{k:Nat}:(List.range (k+1)).any b=((List.range k).any b || b k):=by
 rw [List.range_succ,List.any_append];simp
theorem Tn {b:Nat->Bool}{k:Nat}:(List.range (k+1)).all b=((List.range k).all b&&b k):=by
 rw [List.range_succ,List.all_append];simp
section
variable  [DecidableEq Fc]
theorem Nh {st:ByteArray×ByteArray->Int}{rs:List TR}{ts:List Tp}(hle:aL (ae rs)=true->Least (ae rs) st)(hr:aV (gW rs) rs ts=true)(f:Fc){es:List Ex}(he:aB (ae rs) f.a f.r=es)(hs:aK es=true)(hl:2<=es.length){x:Ex}(hx:es[es.length-1]?=some x) :
  ∃ b:Nat->Bool,(∀ j y z v,x.kids[j]?=some y->es[y.toNat]?=some z->oL ts (ax st rs ts) f z=some v->mH ts (ax st rs ts) f es x.kids j=some (b j)/\b j=v) /\
   (∀ k,1<=k->k<x.kids.length->x.kind=6->(∀ j,j<=k->mH ts (ax st rs ts) f es x.kids j=some (b j))->k=1/\bn (ax st rs ts) f=(b 0 && !b k)) /\
   ((∀ j,j<x.kids.length->mH ts (ax st rs ts) f es x.kids j=some (b j))->(x.kind=4/\bn (ax st rs ts) f=(List.range x.kids.length).any b)\/(x.kind=5/\bn (ax st rs ts) f=(List.range x.kids.length).all b)\/x.kind=6):=by
 have hxx:es[es.length-1]'(by omega)=x:=by rw [Uj (by omega)]at hx;exact Option.some.inj hx
 have hkind:=Qi hs hl;rw [hxx]at hkind;refine ⟨fun j=>(mH ts (ax st rs ts) f es x.kids j).getD false,?_,?_,?_⟩
 ·intro j y z v hy hz hv;have e:=(RA (ts:=ts) (Q:=ax st rs ts) (f:=f) hy hz).trans hv;refine ⟨?_,?_⟩
  ·show mH ts (ax st rs ts) f es x.kids j=some ((mH ts (ax st rs ts) f es x.kids j).getD false);rw [e];rfl
  show (mH ts (ax st rs ts) f es x.kids j).getD false=v;rw [e];rfl
 ·intro k h1 h2 k6 ha;have hk2:x.kids.length=2:=by omega
  obtain rfl:k=1:=by omega
  exact ⟨rfl,Ng hle hr f he hl hx k6 hk2 _ _ (Ff (ha 0 (by omega)) (by omega)) (Ff (ha 1 (by omega)) (by omega))⟩
 intro ha;have hp:=Hr hle hr f he hl hx (fun j=>(mH ts (ax st rs ts) f es x.kids j).getD false) fun i hi=>Ff (ha i hi) hi;rcases hkind with h|h|h
 ·exact .inl ⟨h,hp.1 h⟩
 ·exact .inr (.inl ⟨h,hp.2 h⟩)
 exact .inr (.inr h.1)
end
end Go.Proofs.YtajkkeikihhejaaGreat
