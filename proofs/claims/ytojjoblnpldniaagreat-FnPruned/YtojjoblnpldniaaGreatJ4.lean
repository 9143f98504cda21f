/- What a right expression is, in plain words, in the document's way and in the program's way, and that both say the same. -/
import Derived.Test.YtojjoblnpldniaaGreatSq
import Derived.Test.YtojjoblnpldniaaGreatJ3
import Derived.Test.YtojjoblnpldniaaGreatJ2
import Derived.Deep.AppendLies
open Go.Proofs.Tryz
set_option maxHeartbeats 80000000
namespace Go.Proofs.YtojjoblnpldniaaGreat
open Pl
def kF(x y:Al):Bool:=x.t.toList==y.t.toList&&x.s.toList==y.s.toList
def EE(a:Al):Bool:=aP a.t&&vg a.s
def dJ(xs:Q0a)(k:Nat)(a:Al):Bool:=(xs.take k).any fun x=>kF x a
theorem uk(xs:Q0a)(k:Nat)(a:Al)(h:k<xs.length):dJ xs (k+1) a=(dJ xs k a || kF xs[k] a):=by
 unfold dJ;rw[Vx h,List.any_append];simp
theorem ul(xs:Q0a)(a:Al):dJ xs 0 a=false:=by simp[dJ]
def EF(xs:Q0a):Nat->Bool
 | 0=>true
 | k+1=>EF xs k&&(xs[k]?.map fun a=>EE a && !dJ xs k a).getD true
theorem zU(xs:Q0a)(k:Nat)(h:k<xs.length):EF xs (k+1)=(EF xs k&&(EE xs[k] && !dJ xs k xs[k])):=by
 simp[EF,h]
theorem pF(xs:Q0a)(k:Nat)(h:k<xs.length)(hb:(EE xs[k] && !dJ xs k xs[k])=false):∀n,k<n->EF xs n=false
 | 0,hn=>by omega
 | n+1,hn=>by
  by_cases e:n=k
  ·subst e;rw[zU _ _ h,hb];simp
  simp[EF,pF xs k h hb n (by omega)]
def dx(xs:Q0a):Bool:=decide (1<=xs.length)&&decide (xs.length<=6)&&EF xs xs.length
def av(e:Ex):Bool :=
 if e.kind=1 then dx e.allow&&e.over.toList.isEmpty&&e.name.toList.isEmpty&&decide (e.kids.length=0)
 else if e.kind=2 then aP e.name&&decide (e.allow.length=0)&&e.over.toList.isEmpty&&decide (e.kids.length=0)
 else if e.kind=3 then aP e.over&&aP e.name&&decide (e.allow.length=0)&&decide (e.kids.length=0)
 else if e.kind=4\/e.kind=5 then decide (2<=e.kids.length)&&decide (e.kids.length<=5)&&decide (e.allow.length=0)&&e.over.toList.isEmpty&&e.name.toList.isEmpty
 else if e.kind=6 then decide (e.kids.length=2)&&decide (e.allow.length=0)&&e.over.toList.isEmpty&&e.name.toList.isEmpty
 else false
def dh(f:Int->Int):List Int->Int->Int
 | [],at'=>at'+1
 | k::ks,at'=>if at'<0\/k≠at' then -1 else if f at'<0 then -1 else dh f ks (f at'-1)
def dD(es:Q09)(n:Nat):List Int:=(es[n]?.map Ex.kids).getD []
def aB(es:Q09)(n:Nat):Int:=dh (fun x=>if _h:0<=x/\x.toNat<n then aB es x.toNat else -1) (dD es n).reverse ((n:Int)-1)
def dA(es:Q09)(n:Nat)(x:Int):Int:=if 0<=x/\x.toNat<n then aB es x.toNat else -1
theorem jA(es:Q09)(n:Nat):aB es n=dh (dA es n) (dD es n).reverse ((n:Int)-1):=by
 rw[aB];rfl
theorem De{f:Int->Int}(hf:∀x,0<=x->f x<=x):∀(ks:List Int) (a:Int),-1<=a->dh f ks a<=a+1
 | [],a,_=>by simp[dh]
 | k::ks,a,ha=>by
  unfold dh;split
  ·omega
  rename_i h;split
  ·omega
  rename_i h2;have h0:0<=a:=by omega
  have:=De hf ks (f a-1) (by omega);have:=hf a h0;omega
theorem iP(es:Q09)(n:Nat):aB es n<=n:=by
 induction n using Nat.strongRecOn with
 | ind n ih =>
  rw [jA];have:=De (f:=dA es n) (fun x hx=>by
   unfold dA;split
   ·rename_i h;have:=ih x.toNat h.2;omega
   omega) (dD es n).reverse ((n:Int)-1) (by omega)
  omega
theorem Pi(es:Q09)(n:Nat)(x:Int)(hx:0<=x):dA es n x<=x:=by
 unfold dA;split
 ·have:=iP es x.toNat;omega
 omega
theorem tq{es:Q09}{n:Nat}(ih:∀m,m<n->0<=aB es m->∀j:Nat,aB es m<=j->j<=m->0<=aB es j):
  ∀(ks:List Int) (a:Int),a<n->0<=dh (dA es n) ks a->∀j:Nat,dh (dA es n) ks a<=j->(j:Int)<=a->0<=aB es j
 | [],a,ha,h,j,h1,h2=>by simp[dh]at h1;omega
 | k::ks,a,ha,h,j,h1,h2=>by
  unfold dh at h h1;split at h
  ·omega
  rename_i c;rw[if_neg c]at h1;split at h
  ·omega
  rename_i c2;rw[if_neg c2]at h1;have h0:0<=a:=by omega
  have hF:dA es n a=aB es a.toNat:=by unfold dA;rw[if_pos ⟨h0,by omega⟩]
  rw[hF]at h h1 c2;by_cases hj:aB es a.toNat<=j
  ·exact ih a.toNat (by omega) (by omega) j hj (by omega)
  exact tq ih ks (aB es a.toNat-1) (by have:=iP es a.toNat;omega) h j h1 (by omega)
theorem oh(es:Q09)(n:Nat):0<=aB es n->∀j:Nat,aB es n<=j->j<=n->0<=aB es j:=by
 induction n using Nat.strongRecOn with
 | ind n ih =>
  intro h j h1 h2;by_cases e:j=n
  ·subst e;exact h
  rw[jA]at h h1;exact tq ih _ _ (by omega) h j h1 (by omega)
def lc(es:Q09)(i:Nat):Bool:=(dD es i).all fun k=>decide (0<=k)&&decide (k<=(i:Int)-1)
theorem yA{es:Q09}{n:Nat}:∀(ks:List Int) (a:Int),a<n->0<=dh (dA es n) ks a->∀k∈ks,0<=k/\k<=a
 | [],_,_,_,k,hk=>by cases hk
 | x::ks,a,ha,h,k,hk=>by
  unfold dh at h;split at h
  ·omega
  rename_i c;split at h
  ·omega
  rename_i c2;have h0:0<=a:=by omega
  rcases VL.1 hk with rfl|hk
  ·omega
  have hl:=Pi es n a h0;have:=yA ks (dA es n a-1) (by omega) h k hk;omega
theorem Mw(es:Q09)(i:Nat)(h:0<=aB es i):lc es i=true:=by
 unfold lc;rw[VF];intro k hk;rw[jA]at h;have:=yA _ _ (by omega) h k (by simpa using hk);simp;omega
def Pj(es:Q09)(n:Nat):Prop:=∀j,j<n->0<=aB es j
def own(es:Q09):Nat:=(es.filter fun e=>decide (e.kind=1)).length
def gX(es:Q09)(k:Nat):Nat:=own (es.take k)
theorem zV(es:Q09)(k:Nat)(h:k<es.length):gX es (k+1)=gX es k+(if es[k].kind=1 then 1 else 0):=by
 unfold gX own;rw[Vx h,WF,VD];by_cases e:es[k].kind=1<;>simp[e]
theorem vv(es:Q09)(k:Nat):gX es k<=k:=by
 unfold gX own;exact Vz (List.length_filter_le ..) (by simp;omega)
def jO(es:Q09)(k:Nat):Bool:=(es.take k).all av
theorem vw(es:Q09)(k:Nat)(h:k<es.length):jO es (k+1)=(jO es k&&av es[k]):=by
 unfold jO;rw[Vx h,WH];simp
theorem Df(es:Q09)(k:Nat)(h:k<es.length)(hb:av es[k]=false):es.all av=false:=by
 rw[Bool.eq_false_iff];intro h2;rw[VF]at h2;have:=h2 es[k] (Vs h);rw[hb]at this;cases this
def jq(es:Q09)(k:Nat):Bool:=(List.range k).all (lc es)
theorem Gl(es:Q09)(k:Nat):jq es (k+1)=(jq es k&&lc es k):=by simp[jq,List.range_succ]
theorem Pk(es:Q09)(k:Nat)(h:k<es.length)(hb:lc es k=false):jq es es.length=false:=by
 rw[Bool.eq_false_iff];intro h2;unfold jq at h2;rw[VF]at h2;have:=h2 k (by simpa using h);rw[hb]at this;cases this
def aI(es:Q09):Bool:=decide (1<=es.length)&&decide (es.length<=15)&&es.all av&&jq es es.length&&decide (own es<=1)&&decide (aB es (es.length-1)=0)
def jP(es:Q09):Bool:=(List.range es.length).all fun j=>decide (0<=aB es j)
def kG(es:Q09):Bool:=decide (1<=es.length)&&decide (es.length<=15)&&es.all av&&decide (own es<=1)&&(jP es&&decide (aB es (es.length-1)=0))
theorem rV(es:Q09):aI es=kG es:=by
 by_cases h1:1<=es.length
 ·by_cases ht:aB es (es.length-1)=0
  ·have ha:jP es=true:=by
    unfold jP;rw[VF];intro j hj;have hj':j<es.length:=by simpa using hj
    simpa using oh es (es.length-1) (by omega) j (by omega) (by omega)
   have hk:jq es es.length=true:=by
    unfold jq;rw[VF];intro j hj;have hj':j<es.length:=by simpa using hj
    exact Mw es j (oh es (es.length-1) (by omega) j (by omega) (by omega))
   simp[aI,kG,ht,ha,hk,h1]
  simp[aI,kG,ht]
 simp[aI,kG,h1]
open ChangeAt ChangeShapes RowKit WideShapes
theorem Pm(n lo hi:Int)(w:af):
  Calls prog 245 #[.int .i64 n,.int .i64 lo,.int .i64 hi] w fun e w'=>e=.returned (.bool (decide (lo<=n)&&decide (n<=hi)))/\w'=w:=by
 go_enter func245,ntmps245;go_wp2
 all_goals go_ret
 all_goals exact⟨ah (by simp[*]<;>omega),rfl⟩
set_option maxRecDepth 8000 in
theorem mE(r:ER)(w:af)(hf:r.e.fits)(h1:r.e.kind≠1):
  Calls prog 244 #[r.val] w fun e w'=>e=.returned (.bool (av r.e))/\ag w w':=by
 obtain⟨⟨kind,allow,over,name,kids⟩,adA,capA,adK,capK⟩:=r;obtain⟨f1,f2,f3,f4,f5⟩:=hf;simp only at f1 f2 f3 f4 f5 h1;simp only[ER.val];unfold maxLen at f4 f5;by_cases h2:kind=2
 ·subst h2;clear h1;go_enter func244,ntmps244;go_wp2_with(go_at_call 126;refine(aR _ _ (by assumption)).mono ?_;rintro e w' ⟨rfl,rfl⟩)
  all_goals go_ret
  all_goals exact⟨ah (by first|(simp[av, *];done)|(simp[av, *];omega)|(simp[av, *];rw[VR];simp;done)|(simp[av, *];rw[VR];simp;omega)),(Vv w.heap.size w).alloc (Vu _) _⟩
 by_cases h3:kind=3
 ·subst h3;clear h1;go_enter func244,ntmps244;go_wp2_with(go_at_call 126;refine(aR _ _ (by assumption)).mono ?_;rintro e w' ⟨rfl,rfl⟩)
  all_goals go_ret
  all_goals exact⟨ah (by first|(simp[av, *];done)|(simp[av, *];omega)|(simp[av, *];rw[VR];simp;done)|(simp[av, *];rw[VR];simp;omega)),(Vv w.heap.size w).alloc (Vu _) _⟩
 by_cases h4:kind=4
 ·subst h4;clear h1;go_enter func244,ntmps244;go_wp2_with(go_at_call 126;refine(aR _ _ (by assumption)).mono ?_;rintro e w' ⟨rfl,rfl⟩)
  all_goals go_ret
  all_goals exact⟨ah (by first|(simp[av, *];done)|(simp[av, *];omega)|(simp[av, *];rw[VR];simp;done)|(simp[av, *];rw[VR];simp;omega)),(Vv w.heap.size w).alloc (Vu _) _⟩
 by_cases h5:kind=5
 ·subst h5;clear h1;go_enter func244,ntmps244;go_wp2_with(go_at_call 126;refine(aR _ _ (by assumption)).mono ?_;rintro e w' ⟨rfl,rfl⟩)
  all_goals go_ret
  all_goals exact⟨ah (by first|(simp[av, *];done)|(simp[av, *];omega)|(simp[av, *];rw[VR];simp;done)|(simp[av, *];rw[VR];simp;omega)),(Vv w.heap.size w).alloc (Vu _) _⟩
 by_cases h6:kind=6
 ·subst h6;clear h1;go_enter func244,ntmps244;go_wp2_with(go_at_call 126;refine(aR _ _ (by assumption)).mono ?_;rintro e w' ⟨rfl,rfl⟩)
  all_goals go_ret
  all_goals exact⟨ah (by first|(simp[av, *];done)|(simp[av, *];omega)|(simp[av, *];rw[VR];simp;done)|(simp[av, *];rw[VR];simp;omega)),(Vv w.heap.size w).alloc (Vu _) _⟩
 go_enter func244,ntmps244;go_wp2_with(go_at_call 126;refine(aR _ _ (by assumption)).mono ?_;rintro e w' ⟨rfl,rfl⟩)
 all_goals go_ret
 all_goals exact⟨ah (by first|(simp[av, *];done)|(simp[av, *];omega)|(simp[av, *];rw[VR];simp;done)|(simp[av, *];rw[VR];simp;omega)),(Vv w.heap.size w).alloc (Vu _) _⟩
theorem EG(x y:Al){v:Bool}(h:kF x y=v)(w:af):
  (binOp .eql 216 (.agg #[.string x.t,.string x.s]) (.agg #[.string y.t,.string y.s])).run prog w=.ok (.bool v) w:=by
 subst h;go_simp;unfold kF;by_cases h1:x.t.toList=y.t.toList<;>by_cases h2:x.s.toList=y.s.toList<;>simp[h1,h2]
theorem Dg{xs:Q0a}{j k:Nat}{a:Al}(hjk:j<k)(hj:j<xs.length)(h:kF xs[j] a=true):dJ xs k a=true:=by
 unfold dJ;rw[VX];refine⟨xs[j],?_,h⟩;rw[List.mem_take_iff_getElem];exact⟨j,by omega,rfl⟩
set_option maxRecDepth 8000 in
theorem Cq(r:ER)(w:af)(hf:r.e.fits)(hok:r.ok w)(h1:r.e.kind=1):
  Calls prog 244 #[r.val] w fun e w'=>e=.returned (.bool (av r.e))/\ag w w':=by
 obtain⟨⟨kind,allow,over,name,kids⟩,adA,capA,adK,capK⟩:=r;obtain⟨f1,f2,f3,f4,f5⟩:=hf;obtain⟨hA,hK⟩:=hok;simp only at f1 f2 f3 f4 f5 h1 hA hK;subst h1;simp only[ER.val];unfold maxLen at f4 f5;by_cases hl:1<=allow.length/\allow.length<=6
 ·obtain⟨hl1,hl2⟩:=hl;obtain⟨W,hW⟩:=eQx (w.alloc (.cells #[.int .i64 1,.slice adA allow.length capA,.string over,.string name,.slice adK kids.length capK] 43));have HB0:Hid (ag w W):=by show Below _ _ _;rw[hW];exact(Vv w.heap.size w).alloc (Vu _) _
  have hz:w.heap.size<W.heap.size:=by rw[hW];simp
  have b1:W.cell? ⟨w.heap.size,1,none⟩=some (.slice adA allow.length capA):=by rw[hW];simp
  have b2:W.cell? ⟨w.heap.size,2,none⟩=some (.string over):=by rw[hW];simp
  have b3:W.cell? ⟨w.heap.size,3,none⟩=some (.string name):=by rw[hW];simp
  have HA:=az (hA.below HB0.out);have Ya:=az f1;clear hA hK f1;go_enter func244,ntmps244;go_wp2_with fail;rw[<-hW];clear hW;go_loopw[4] (fun i wr=>∃k:Nat,k<=allow.length/\i=.int .i64 k/\Hid (EF allow k=true)/\ag W wr) (fun i _=>allow.length-(intOf i).toNat);case atStart=>exact⟨0,Vy _,rfl,rfl,Vv _ _⟩
  obtain⟨k,hk,rfl,HU,hB⟩:=hrel;have a1:=kept hB hz b1;have a2:=kept hB hz b2;have a3:=kept hB hz b3;by_cases hlt:k<allow.length
  ·rcases HA.out.below hB with rfl|⟨b,off,rfl,hb,hr⟩
   ·simp at hlt
   obtain⟨t0,t1⟩:=hr k hlt;obtain⟨z0,z1⟩:=Ya.out allow[k] (Vs hlt);have HR:Hid (∀(i:Nat) (h:i<allow.length),TV wr b (off+i*2) allow[i]):=hr;clear hr;obtain⟨W1,hW1⟩:=eQx (wr.alloc (.cells #[.string allow[k].t,.string allow[k].s] 216));have hal:ag wr W1:=by rw[hW1];exact(Vv _ _).alloc (Vu _) _
   have hBW1:Below W.heap.size wr W1:=hal.mono hB.size;have hsz:w.heap.size<wr.heap.size:=Vt hz hB.size;have hWs:W.heap.size<=W1.heap.size:=Vz hB.size hal.size;have c1:=kept hal hsz a1;have c2:=kept hal hsz a2;have c3:=kept hal hsz a3;have hbl:b<W1.heap.size:=Vt hb hal.size;have hgl:wr.heap.size<W1.heap.size:=by rw[hW1];simp
   have g0:W1.cell? ⟨wr.heap.size,0,none⟩=some (.string allow[k].t):=by rw[hW1];simp
   have g1:W1.cell? ⟨wr.heap.size,1,none⟩=some (.string allow[k].s):=by rw[hW1];simp
   have HR1:Hid (∀(i:Nat) (h:i<allow.length),TV W1 b (off+i*2) allow[i]):=fun i hi=>(HR.out i hi).same fun o=>hal.cell (p:=⟨b,o,none⟩) hb;cases hn:aP allow[k].t;case false=>
    have HN:Hid (EF allow allow.length=false):=pF allow k hlt (by simp[EE,hn]) _ hlt;go_wp2_with(go_at_call 126;refine(aR _ _ (by assumption)).mono ?_;rintro e w' ⟨rfl,rfl⟩);go_ret;exact⟨ah (by simp[av,dx,HN.out]),HB0.out.trans ((hB.trans ((Vv _ _).alloc hB.size _)).mono HB0.out.size)⟩
   cases he:allow[k].s.toList.isEmpty
   case' true =>
    have HAl:Hid (EE allow[k]=true):=by show _=_;simp[EE,vg,hn,he]
    go_wp2_with(go_at_call 126;refine(aR _ _ (by assumption)).mono ?_;rintro e w' ⟨rfl,rfl⟩);rw[<-hW1]
   case' false =>
    cases hm:aP allow[k].s;case false =>
     have HN:Hid (EF allow allow.length=false):=pF allow k hlt (by simp[EE,hn,vg,he,hm]) _ hlt;go_wp2_with(go_at_call 126;refine(aR _ _ (by assumption)).mono ?_;rintro e w' ⟨rfl,rfl⟩);go_ret;exact⟨ah (by simp[av,dx,HN.out]),HB0.out.trans ((hB.trans ((Vv _ _).alloc hB.size _)).mono HB0.out.size)⟩
    have HAl:Hid (EE allow[k]=true):=by show _=_;simp[EE,vg,hn,he,hm]
    go_wp2_with(go_at_call 126;refine(aR _ _ (by assumption)).mono ?_;rintro e w' ⟨rfl,rfl⟩);rw[<-hW1]
   all_goals
    go_loopw[6] (fun i w2=>∃j:Nat,j<=k/\i=.int .i64 j/\Hid (dJ allow j allow[k]=false)/\ag W1 w2) (fun i _=>k-(intOf i).toNat);case atStart=>exact⟨0,Vy _,rfl,ul _ _,Vv _ _⟩
    obtain⟨j,hj,rfl,HP,hB2⟩:=hrel;rename_i w2 _;have d1:=kept hB2 (by omega) c1;have d2:=kept hB2 (by omega) c2;have d3:=kept hB2 (by omega) c3;have p0:=kept hB2 hgl g0;have p1:=kept hB2 hgl g1;by_cases hjk:j<k
    ·obtain⟨q0,q1⟩:=(HR1.out j (by omega)).same fun o=>hB2.cell (p:=⟨b,o,none⟩) hbl;have hj1:=bI j;have hj2:(j:Int)<(allow.length:Int):=by omega
     cases hq:kF allow[j] allow[k];case true=>
      have HE:=EG allow[j] allow[k] hq;have HN:Hid (EF allow allow.length=false):=pF allow k hlt (by rw[(Dg hjk (by omega) hq)];simp) _ hlt;go_wp2_with fail;go_quiet (fail);go_wp2;go_ret;exact⟨ah (by simp[av,dx,HN.out]),HB0.out.trans ((hB.trans (hBW1.trans (hB2.mono (by omega)))).mono HB0.out.size |> fun h=>below_drewN h _)⟩
     have HE:=EG allow[j] allow[k] hq;have WQ:Hid (dJ allow (j+1) allow[k]=false):=by show _=_;rw[uk _ _ _ (by omega),HP.out,hq];rfl
     go_wp2_with fail;go_quiet (fail);go_wp2;go_roundw;case rel=>exact⟨j+1,by omega,by go_num,WQ,below_drewN hB2 _⟩
     simp[intOf];omega
    obtain rfl:j=k:=by omega
    have HU2:Hid (EF allow (j+1)=true):=by show _=_;rw[zU _ _ hlt,HU.out,HAl.out,HP.out];rfl
    go_wp2;go_roundw;case rel=>exact⟨j+1,by omega,by go_num,HU2,hB.trans (hBW1.trans (hB2.mono (by omega)))⟩
    simp[intOf];omega
  obtain rfl:k=allow.length:=by omega
  have HAW:Hid (dx allow=true):=by show _=_;simp[dx,hl1,hl2,HU.out]
  go_wp2
  all_goals go_ret
  all_goals exact⟨ah (by first|(simp[av,HAW.out, *];done)|(simp[av,HAW.out, *];rw[VR];simp;done)),HB0.out.trans (hB.mono HB0.out.size)⟩
 go_enter func244,ntmps244;go_wp2_with fail
 all_goals go_ret
 all_goals exact⟨ah (by simp[av,dx];omega),(Vv w.heap.size w).alloc (Vu _) _⟩
theorem EH(r:ER)(w:af)(hf:r.e.fits)(hok:r.ok w):
  Calls prog 244 #[r.val] w fun e w'=>e=.returned (.bool (av r.e))/\ag w w':=by
 by_cases h:r.e.kind=1
 ·exact Cq r w hf hok h
 exact mE r w hf h
open Go.Sort
def bf(i:Nat)(kind:Int):List Int->Nat->List Bool->List Bool
 | [],_,out=>out
 | x::xs,k,out=>bf i kind xs (k+1) (out.set x.toNat (out.getD i false || (kind==6&&k==1)))
def ed(es:Q09):Nat->List Bool->List Bool
 | 0,out=>out
 | i+1,out=>ed es i (match es[i]? with|none=>out|some e=>bf i e.kind e.kids 0 out)
def dB(es:Q09):List Bool:=ed es es.length (List.replicate es.length false)
theorem yB(i:Nat)(kind:Int)(xs:List Int)(k:Nat)(out:List Bool):(bf i kind xs k out).length=out.length:=by
 induction xs generalizing k out with
 | nil=>rfl
 | cons x xs ih=>simp[bf,ih]
def bools(xs:List Bool):List Value:=xs.map Value.bool
theorem Fil.set{w wr:af}{g n o:Nat}{xs:Q03}(h:Fil w wr g n xs)(v:Value)(ho:o<xs.length)(hn:o<n):Fil w (wr.setCell ⟨g,o,none⟩ v) g n (xs.set o v) where
 below:=h.below.setCell (p:=⟨g,o,none⟩) h.ge v
 ge:=h.ge
 lt:=by simpa using h.lt
 done j hj:=by
  by_cases e:j=o
  ·subst e;obtain⟨u,hu⟩:=Option.isSome_iff_exists.mp (h.there j hn);rw[mD hu];simp
  have hj':j<xs.length:=by simpa using hj
  rw[gV (Ne.symm e),h.done j hj',List.getElem_set_ne (Ne.symm e)]
 there j hj:=by
  by_cases e:j=o
  ·subst e;obtain⟨u,hu⟩:=Option.isSome_iff_exists.mp (h.there j hn);rw[mD hu];rfl
  rw[gV (Ne.symm e)];exact h.there j hj
 free j:=by simpa using h.free j
theorem Fil.drew{w wr:af}{g n:Nat}{xs:Q03}(h:Fil w wr g n xs):Fil w wr.drew g n xs:=⟨h.below.drew,h.ge,h.lt,h.done,h.there,h.free⟩
theorem Dh{w w0:af}{n:Nat}{base:Nat}{e:TypeId}{v:Value}(h:w0.ownsRow base e 1 (.slice (some ⟨w.heap.size,0,none⟩) n n) n (madeCells #[v] (n*1)).toList)(hg:w.grownBy w0 none):Fil w w0 w.heap.size n (List.replicate n v) where
 below:=(Vv _ _).grown hg (Vu _) (fun k hk=>by cases hk)
 ge:=Vu _
 lt:=(h.lt w.heap.size rfl).2
 done j hj:=by
  have hj':j<n:=by simpa using hj
  rw[h.cellAt j (by omega),toList_madeCells_one];simp[hj']
 there j hj:=by
  rw[h.cellAt j (by omega),VG (by rw[h.1];omega)];rfl
 free j:=h.frozenAt j
theorem zW:(prog.info? 4).map (fun i=>(i.zero,i.size,i.bytes))=some (some (.bool false),1,1):=by kernel_rfl
theorem zX(es:Q09)(m:Nat)(out:List Bool)(h:m<es.length):ed es (m+1) out=ed es m (bf m es[m].kind es[m].kids 0 out):=by
 simp[ed,h]
theorem jQ(i:Nat)(kind:Int)(ks:List Int)(j:Nat)(out:List Bool)(h:j<ks.length):bf i kind (ks.drop j) j out=bf i kind (ks.drop (j+1)) (j+1) (out.set ks[j].toNat (out.getD i false || (kind==6&&j==1))):=by
 rw[Wi h];rfl
theorem oG(out:List Bool)(o:Nat)(v:Bool):bools (out.set o v)=(bools out).set o (.bool v):=by simp[bools,List.map_set]
def fo(n:Nat)(ks:List Int):Prop:=∀x∈ks,0<=x/\x<(n:Int)
theorem Mx(ad:Q02)(cap:Nat)(rs:Q08)(w:af)(hlen:rs.length<=1048576)(hs:jo w ad rs)(hl:∀r∈rs,r.e.light)(hk:∀r∈rs,fo rs.length r.e.kids):
  Calls prog 277 #[.slice ad rs.length cap] w fun e w'=>e=.returned (.slice (some ⟨w.heap.size,0,none⟩) rs.length rs.length)/\Fil w w' w.heap.size rs.length (bools (dB (ai rs))):=by
 have HS:=az hs;have HL:=az hl;have HK:=az hk;clear hs hl hk;obtain⟨inf,hi,hz0,hz1,hz2⟩:=info_parts zW;go_enter func277,ntmps277;go_wp2_with(at_make;refine wpList_make_full _ rfl _ _ 338 rfl w.heap.size 4 inf (.bool false) 1 underlying338 hi hz0 hz1 .i64 .i64 _ _ rs.length rfl rfl rfl rfl (by rw[hz2];omega) (by unfold maxLen;omega) (Vu _) ?_;intro w0 hown0 XT);have HF0:Hid (Fil w w0 w.heap.size rs.length (bools (List.replicate rs.length false))):=by
  have:=Dh (v:=.bool false) hown0 XT;show Fil _ _ _ _ _;simpa[bools] using this
 clear hown0 XT hi hz0 hz1 hz2;go_loopw[4] (fun i wr=>∃(m:Nat) (out:List Bool),m<=rs.length/\i=.int .i64 ((m:Int)-1)/\out.length=rs.length/\Hid (ed (ai rs) m out=dB (ai rs))/\Hid (Fil w wr w.heap.size rs.length (bools out))) (fun i _=>(intOf i+1).toNat);case atStart=>exact⟨rs.length,List.replicate rs.length false,Vu _,by go_num,by simp,(by show _=_;unfold dB;rw[ay]),HF0⟩
 obtain⟨m,out,hm,rfl,hol,HN,HF⟩:=hrel;by_cases hm0:0<m
 ·obtain⟨m,rfl⟩:∃m',m=m'+1:=⟨m-1,by omega⟩;have hmi:(((m+1:Nat):Int)-1)=(m:Int):=by omega
  rw[hmi];have hlt:m<rs.length:=by omega
  rcases HS.out.below HF.out.below with rfl|⟨b,off,rfl,hb,hr,hok⟩
  ·simp at hlt
  obtain⟨t0,t1,t2,t3,t4⟩:=hr m hlt;have Xc:Hid (rs[m].ok _):=hok rs[m] (Vs hlt);have lg:=(HL.out rs[m] (Vs hlt)).2;have HKI:Hid (fo rs.length rs[m].e.kids):=HK.out rs[m] (Vs hlt);have hk1:=bI m;have hk2:(m:Int)<(rs.length:Int):=by omega
  have hbw:b<w.heap.size:=by
   rcases HS.out with h|⟨b',off',h1,h2,-⟩
   ·rw[h]at hlt;simp at hlt
   injection h1 with h1;injection h1 with h1;omega
  have HR:Hid (ve wr b (off+m*5) rs[m]):=hr m hlt;have ZQ:Hid (ed (ai rs) m (bf m rs[m].e.kind rs[m].e.kids 0 out)=dB (ai rs)):=by
   show _=_;rw[<-HN.out,zX _ _ _ (by rw[ay];exact hlt)];simp[ai]
  clear hr hok t0 t1 t2 t3 t4;go_wp2_with fail;go_loopw[5] (fun i w2=>∃(j:Nat) (WU:List Bool),j<=rs[m].e.kids.length/\i=.int .i64 j/\WU.length=rs.length/\Hid (bf m rs[m].e.kind (rs[m].e.kids.drop j) j WU=bf m rs[m].e.kind rs[m].e.kids 0 out)/\Hid (Fil w w2 w.heap.size rs.length (bools WU))) (fun i _=>rs[m].e.kids.length-(intOf i).toNat);case atStart=>exact⟨0,out,Vy _,rfl,hol,rfl,HF⟩
  obtain⟨j,WU,hj,rfl,ho2,HJ,XU⟩:=hrel;have hE2:jo wr _ rs:=HS.out.below XU.out.below;have ht:ve wr b (off+m*5) rs[m]:=by
   rcases hE2 with h|⟨b',off',h1,h2,h3,-⟩
   ·exact absurd hlt (by rw[h];simp)
   injection h1 with h1;injection h1 with h1 h1';subst h1;subst h1';exact h3 m hlt
  obtain⟨t0,t1,t2,t3,t4⟩:=ht;by_cases hjl:j<rs[m].e.kids.length
  ·have hK2:rU wr rs[m].adK rs[m].e.kids:=(hE2.mem (Vs hlt)).2;rcases hK2 with hnil|⟨ba,YI,Yx,hba,hra⟩
   ·rw[hnil]at hjl;simp at hjl
   rw[Yx]at t4;have q0:=hra j hjl;have hj1:=bI j;have hj2:(j:Int)<(rs[m].e.kids.length:Int):=by omega
   obtain⟨x0,x1⟩:=HKI.out _ (Vs hjl);obtain⟨x,hx⟩:∃x:Nat,rs[m].e.kids[j]=(x:Int):=⟨rs[m].e.kids[j].toNat,by omega⟩;rw[hx]at q0 x0 x1;have c0:=XU.out.done m (by simp[bools];omega);have fz:=XU.out.free;obtain⟨v0,u0⟩:=Option.isSome_iff_exists.mp (XU.out.there x (by omega));have hbr:b<wr.heap.size:=Vt hbw XU.out.below.size;obtain⟨bo,hbo⟩:∃bo,bo=(bools WU)[m]'(by simp[bools];omega):=⟨_,rfl⟩;rw[<-hbo]at c0;clear hra Yx hE2 t1 t2 t3;have hm2:m<WU.length:=by omega
   have hbo1:bo=.bool WU[m]:=by rw[hbo];simp[bools]
   have hbo':WU[m]?.getD false=WU[m]:=by simp[hm2]
   rw[hbo1]at c0;clear hbo hbo1;have HJ3:Hid (∀bv,(WU[m] || (rs[m].e.kind==6&&j==1))=bv->bf m rs[m].e.kind (rs[m].e.kids.drop (j+1)) (j+1) (WU.set x bv)=bf m rs[m].e.kind rs[m].e.kids 0 out):=by
    rintro _ rfl;rw[<-HJ.out,jQ _ _ _ _ _ hjl,hx];simp[hbo']
   have YK:Hid (∀bv d os,Fil w ((grow (redrawn wr d) os).setCell ⟨w.heap.size,x,none⟩ (.bool bv)) w.heap.size rs.length (bools (WU.set x bv))):=by
    intro bv d os;rw[oG];exact(XU.out.later (below_regrown wr d os)).set _ (by simp[bools];omega) (by omega)
   go_wp2_with fail;replace fz:=fun d os=>(XU.out.later (below_regrown wr d os)).free;replace t0:=cell_regrown t0;replace t4:=cell_regrown t4;replace q0:=cell_regrown q0;replace c0:=cell_regrown c0;replace u0:=cell_regrown u0;clear hbo';cases hb0:WU[m]<;>cases hkb:(rs[m].e.kind==6)<;>cases hjb:((j:Int)==1)
   all_goals
    have hjn:(j==1)=_:=(by rw[VR];simp;omega:(j==1)=((j:Int)==1)).trans hjb;rw[hb0]at c0;have HJ4:=qD (HJ3.out _ (by rw[hb0,hkb,hjn]));refine qE 26 1 (by kernel_rfl) (by rfl) (by kernel_rfl) ?_;simp only[List.take_succ_cons,List.take_zero]
    repeat(go_big_quiet_step (fail))
    refine wpQuiet_nil ?_;rintro _ ⟨⟨dq,osq⟩,rfl⟩;refine wpOp_step rfl (fun K hK=>?_);replace hK:=qD hK;go_simp;refine hK.out _ _ ?_;clear hK;unfold ow;go_wp2;go_roundw;case rel=>exact⟨j+1,_,by omega,by go_num,by simp[ho2],HJ4,YK.out _ _ _⟩
    simp[intOf]<;>omega
  have HOE:Hid (ed (ai rs) m WU=dB (ai rs)):=by
   show _=_;rw[<-ZQ.out,<-HJ.out,VU (by omega)];rfl
  go_wp2;go_roundw;case rel=>exact⟨m,WU,by omega,by go_num,ho2,HOE,XU⟩
  simp[intOf]<;>omega
 obtain rfl:m=0:=by omega
 have YB:Hid (Fil w wr w.heap.size rs.length (bools (dB (ai rs)))):=by
  show Fil _ _ _ _ _;rw[<-HN.out];exact HF.out
 go_wp2;go_ret;exact⟨rfl,YB.out⟩
structure St where
 typ:ByteArray
 rel:ByteArray
 n:Int
def UN(w:World)(b off:Nat)(s:St):Prop:=w.cell? ⟨b,off,none⟩=some (.string s.typ)/\w.cell? ⟨b,off+1,none⟩=some (.string s.rel)/\w.cell? ⟨b,off+2,none⟩=some (.int .i64 s.n)
def Tn(w:World)(ad:Q02)(xs:List St):Prop:=xs=[] \/ ∃b off,ad=some ⟨b,off,none⟩/\b<w.heap.size/\∀(i:Nat) (h:i<xs.length),UN w b (off+i*3) xs[i]
theorem Tn.below{w w':af}{ad:Q02}{xs:List St}(h:Tn w ad xs)(hB:ag w w'):Tn w' ad xs:=by
 rcases h with h|⟨b,off,e,hb,hr⟩
 ·exact .inl h
 refine .inr ⟨b,off,e,Vt hb hB.size,fun i hi=>?_⟩;obtain⟨h0,h1,h2⟩:=hr i hi;exact⟨aC hB hb h0,aC hB hb h1,aC hB hb h2⟩
def Cr(s:St)(typ rel:ByteArray):Bool:=(s.typ.toList==typ.toList)&&(s.rel.toList==rel.toList)
def il(typ rel:ByteArray):List St->Nat->Int
 | [],_=>-1
 | s::xs,k=>if Cr s typ rel then (k:Int) else il typ rel xs (k+1)
theorem qP(typ rel:bi)(xs:List St)(k:Nat)(h:k<xs.length):il typ rel (xs.drop k) k=if Cr xs[k] typ rel then (k:Int) else il typ rel (xs.drop (k+1)) (k+1):=by
 rw[Wi h];rfl
theorem Pn(ad:Q02)(cap:Nat)(xs:List St)(typ rel:bi)(w:af)(hlen:xs.length<=1048576)(hs:Tn w ad xs):
  Calls prog 219 #[.slice ad xs.length cap,.string typ,.string rel] w fun e w'=>e=.returned (.int .i64 (il typ rel xs 0))/\w'=w:=by
 go_enter func219,ntmps219;go_wp2;go_loopw[7] (fun i wr=>∃k:Nat,k<=xs.length/\i=.int .i64 k/\Hid (il typ rel (xs.drop k) k=il typ rel xs 0)/\wr=w) (fun i _=>xs.length-(intOf i).toNat);case atStart=>exact⟨0,Vy _,rfl,rfl,rfl⟩
 obtain⟨k,hk,rfl,HP,rfl⟩:=hrel;by_cases hlt:k<xs.length
 ·rcases hs with rfl|⟨b,off,rfl,hb,hr⟩
  ·simp at hlt
  obtain⟨t0,t1,t2⟩:=hr k hlt;have hk1:=bI k;have hk2:(k:Int)<(xs.length:Int):=by omega
  clear hr;cases hq:(xs[k].typ.toList==typ.toList);case true=>
   cases hp:(xs[k].rel.toList==rel.toList);case true=>
    have HN:Hid (il typ rel xs 0=(k:Int)):=by show _=_;rw[<-HP.out,qP _ _ _ _ hlt];simp[Cr,hq,hp]
    go_wp2;go_ret;exact⟨by rw[HN.out];rfl,rfl⟩
   have WQ:Hid (il typ rel (xs.drop (k+1)) (k+1)=il typ rel xs 0):=by show _=_;rw[<-HP.out,qP _ _ _ _ hlt];simp[Cr,hq,hp]
   go_wp2;go_roundw;case rel=>exact⟨k+1,by omega,by go_num,WQ,by first|rfl|trivial⟩
   simp[intOf]<;>omega
  have WQ:Hid (il typ rel (xs.drop (k+1)) (k+1)=il typ rel xs 0):=by show _=_;rw[<-HP.out,qP _ _ _ _ hlt];simp[Cr,hq]
  go_wp2;go_roundw;case rel=>exact⟨k+1,by omega,by go_num,WQ,by first|rfl|trivial⟩
  simp[intOf]<;>omega
 have HN:Hid (il typ rel xs 0=-1):=by show _=_;rw[<-HP.out,VU (by omega)];rfl
 go_wp2;go_ret;exact⟨by rw[HN.out];rfl,rfl⟩
structure Dp where
 typ:ByteArray
 rel:ByteArray
 neg:Bool
def Dp.cells(d:Dp):List Value:=[.string d.typ,.string d.rel,.bool d.neg]
def eY:List Dp->List Value
 | []=>[]
 | d::ds=>d.cells++eY ds
theorem EJ(xs ys:List Dp):eY (xs++ys)=eY xs++eY ys:=by
 induction xs with
 | nil=>rfl
 | cons d ds ih=>simp[eY,ih]
theorem uq(xs:List Dp)(d:Dp):eY (xs++[d])=eY xs++d.cells:=by rw[EJ];simp[eY]
def cO(neg:Bool):List Al->List Dp
 | []=>[]
 | a::xs=>if a.s.toList.isEmpty then cO neg xs else ⟨a.t,a.s,neg⟩::cO neg xs
def kH(ts:Q0b)(typ:ByteArray)(neg:Bool)(e:Ex):List Dp :=
 if e.kind=2 then [⟨typ,e.name,neg⟩] else if e.kind=3 then (d9 ts typ e.over e.name).map fun g=>⟨g,e.name,neg⟩ else []
def gG(ts:Q0b)(typ:ByteArray)(es:Q09)(k:Nat):List Dp :=
 match es[k]? with
 | none=>[]
 | some e=>cO ((dB es).getD k false) e.allow++kH ts typ ((dB es).getD k false) e
def aO(ts:Q0b)(typ:ByteArray)(es:Q09):Nat->List Dp
 | 0=>[]
 | k+1=>aO ts typ es k++gG ts typ es k
def oH(ts:Q0b)(typ:ByteArray)(es:Q09):List Dp:=aO ts typ es es.length
theorem vz(neg:Bool)(xs ys:Q0a):cO neg (xs++ys)=cO neg xs++cO neg ys:=by
 induction xs with
 | nil=>rfl
 | cons a xs ih=>simp only[Wq,cO,ih];split<;>simp
theorem Po(neg:Bool)(xs:Q0a)(k:Nat)(h:k<xs.length)(he:xs[k].s.toList.isEmpty=true):cO neg (xs.take (k+1))=cO neg (xs.take k):=by
 rw[Vx h,vz];simp[cO]at he ⊢;simp[he]
theorem MB(neg:Bool)(xs:Q0a)(k:Nat)(h:k<xs.length)(he:xs[k].s.toList.isEmpty=false):cO neg (xs.take (k+1))=cO neg (xs.take k)++[⟨xs[k].t,xs[k].s,neg⟩]:=by
 rw[Vx h,vz];simp[cO,he]
theorem Di(neg:Bool)(xs:Q0a):(cO neg xs).length<=xs.length:=by
 induction xs with
 | nil=>simp[cO]
 | cons a xs ih=>simp only[cO];split<;>simp<;>omega
theorem Pp:(prog.info? 294).map (fun i=>(i.zero,i.size,i.bytes))=some (some (.agg #[.string ⟨#[]⟩,.string ⟨#[]⟩,.bool false]),3,40):=by kernel_rfl
theorem gH{a b:ByteArray}(h:a.toList=b.toList):a=b:=by
 rw[Go.ByteArray.toList_eq,Go.ByteArray.toList_eq]at h;cases a with|mk x=>cases b with|mk y =>
 congr;exact Array.ext' h
theorem fP{a b:ByteArray}:(a.toList==b.toList)=true↔a=b:=⟨fun h=>gH (by simpa using h),fun h=>by simp[h]⟩
def jZ(t:Ty):List (ByteArray×ByteArray):=t.rels.map fun r=>(t.name,r.name)
def au(ts:Q0b):List (ByteArray×ByteArray):=ts.flatMap jZ
def stepOf(d:Dp):Int:=if d.neg then 1 else 0
def fZ(ts:Q0b)(k:Q01):List Dp:=oH ts k.1 (ak ts k.1 k.2)
structure Sol(ts:Q0b)(f:Q00):Prop where
 pos:∀k,0<=f k
 up:∀k∈au ts,∀d∈fZ ts k,f (d.typ,d.rel)+stepOf d<=f k
def Found(ts:Q0b):Prop:=∀k∈au ts,∀d∈fZ ts k,(d.typ,d.rel)∈au ts
theorem yC(vs:List Int)(x y:Int)(h:x<=y):vs.countP (fun v=>decide (v<x))<=vs.countP (fun v=>decide (v<y)) :=
 List.countP_mono_left fun v _ hv=>by simp at hv⊢;omega
theorem MC(vs:List Int)(x y:Int)(h:x+1<=y)(hx:x∈vs):vs.countP (fun v=>decide (v<x))+1<=vs.countP (fun v=>decide (v<y)):=by
 induction vs with
 | nil=>cases hx
 | cons v vs ih =>
  simp only[List.countP_cons];rcases VL.1 hx with rfl|hm
  ·have:=yC vs x y (by omega);have h1:decide (x<x)=false:=by simp
   have h2:decide (x<y)=true:=by simp;omega
   simp only[h1,h2];simp;omega
  have:=ih hm;by_cases h1:v<x
  ·have h2:v<y:=by omega
   simp[h1,h2];omega
  simp only[h1];simp;omega
theorem Jq(vs:List Int)(x:Int)(hx:x∈vs):vs.countP (fun v=>decide (v<x))+1<=vs.length:=by
 induction vs with
 | nil=>cases hx
 | cons v vs ih =>
  simp only[List.countP_cons,V8];rcases VL.1 hx with rfl|hm
  ·have:=List.countP_le_length (p:=fun v=>decide (v<x)) (l:=vs);have h1:decide (x<x)=false:=by simp
   simp only[h1];simp;omega
  have:=ih hm;split<;>omega
theorem Sol.few{ts:Q0b}{f:Q00}(h:Sol ts f)(hF:Found ts):∃g,Sol ts g/\∀k∈au ts,g k+1<=(au ts).length:=by
 refine⟨fun k=>((((au ts).map f).countP (fun v=>decide (v<f k)):Nat):Int),⟨fun k=>by omega,fun k hk d hd=>?_⟩,fun k hk=>?_⟩
 ·have h1:=h.up k hk d hd;have h2:f (d.typ,d.rel)∈(au ts).map f:=VS (hF k hk d hd);unfold stepOf at h1⊢;split at h1
  ·rename_i hn;have:=MC ((au ts).map f) _ _ h1 h2;simp only[hn,if_true];omega
  rename_i hn;have:=yC ((au ts).map f) _ _ (show f (d.typ,d.rel)<=f k by omega);have e0:(if d.neg=true then (1:Int) else 0)=0:=if_neg hn;rw[e0];omega
 have:=Jq ((au ts).map f) (f k) (VS hk);simp at this⊢;omega
def qQ(ts:Q0b)(k:Q01)(n:Int):Prop:=∀f,Sol ts f->n<=f k
theorem Jr{ts:Q0b}(hF:Found ts){k:Q01}(hk:k∈au ts){n:Int}(hl:qQ ts k n)(hn:((au ts).length:Int)<=n):¬ ∃f,Sol ts f:=by
 rintro⟨f,hf⟩;obtain⟨g,hg,hb⟩:=hf.few hF;have:=hl g hg;have:=hb k hk;omega
theorem qQ.step{ts:Q0b}{k:Q01}(hk:k∈au ts){d:Dp}(hd:d∈fZ ts k){n:Int}(hl:qQ ts (d.typ,d.rel) n):qQ ts k (n+stepOf d):=fun f hf=>by
 have h1:=hl f hf;have h2:=hf.up k hk d hd;omega
theorem qQ.zero(ts:Q0b)(k:Q01):qQ ts k 0:=fun _ hf=>hf.pos k
structure Least(ts:Q0b)(f:Q00):Prop where
 sol:Sol ts f
 low:∀k∈au ts,qQ ts k (f k)
theorem Least.same{ts:Q0b}{f g:Q00}(hf:Least ts f)(hg:Least ts g)(k:Q01)(hk:k∈au ts):f k=g k:=by
 have h1:=hf.low k hk g hg.sol;have h2:=hg.low k hk f hf.sol;omega
def St.key(s:St):ByteArray×ByteArray:=(s.typ,s.rel)
def mF(out:List St):List (ByteArray×ByteArray):=out.map St.key
theorem zY{s:St}{k:Q01}:Cr s k.1 k.2=true↔s.key=k:=by
 unfold Cr St.key;rw[Vw,fP,fP];constructor
 ·rintro⟨h1,h2⟩;rw[h1,h2]
 rintro rfl;exact⟨rfl,rfl⟩
def jf(out:List St)(k:Q01):Int :=
 match out with
 | []=>0
 | s::xs=>if Cr s k.1 k.2 then s.n else jf xs k
theorem pG{k:Q01}:∀(out:List St) (j:Nat),k∈mF out->∃i:Nat,∃h:i<out.length,il k.1 k.2 out j=((j+i:Nat):Int)/\out[i].key=k/\out[i].n=jf out k
 | [],_,h=>by cases h
 | s::xs,j,h=>by
  by_cases hs:Cr s k.1 k.2=true
  ·exact⟨0,by simp,by simp[il,hs],zY.1 hs,by simp[jf,hs]⟩
  have hm:k∈mF xs:=by
   rcases VL.1 h with e|hm
   ·exact absurd (zY.2 e.symm) hs
   exact hm
  obtain⟨i,hi,h1,h2,h3⟩:=pG xs (j+1) hm;refine⟨i+1,by simp;omega,?_,by simpa using h2,by simpa[jf,hs] using h3⟩;simp only[il,hs];simp only[Bool.false_eq_true,if_false];rw[h1];congr 1;omega
theorem Dj{k:Q01}(out:List St)(h:k∈mF out):∃s∈out,s.key=k/\s.n=jf out k:=by
 obtain⟨i,hi,-,h2,h3⟩:=pG out 0 h;exact⟨out[i],Vs hi,h2,h3⟩
theorem Pq{k:Q01}(out:List St)(h:k ∉ mF out):jf out k=0:=by
 induction out with
 | nil=>rfl
 | cons s xs ih =>
  have h1:¬Cr s k.1 k.2=true:=fun e=>h (by rw[zY]at e;simp[mF,e]);simp only[jf,h1];simp only[Bool.false_eq_true,if_false];exact ih fun hm=>h (by simp only[mF,WC,VL];exact .inr hm)
def nA:List St->Int
 | []=>0
 | s::xs=>s.n+nA xs
theorem Ps(out:List St)(i:Nat)(h:i<out.length)(n:Int):nA (out.set i ⟨out[i].typ,out[i].rel,n⟩)=nA out-out[i].n+n:=by
 induction out generalizing i with
 | nil=>simp at h
 | cons s xs ih =>
  cases i with
  | zero=>simp[nA];omega
  | succ i=>simp only[List.set_cons_succ,nA,List.getElem_cons_succ];rw[ih i (by simpa using h)];omega
theorem ME(out:List St)(i:Nat)(h:i<out.length)(n:Int):mF (out.set i ⟨out[i].typ,out[i].rel,n⟩)=mF out:=by
 unfold mF;rw[List.map_set];show(List.map St.key out).set i (out[i].key)=_;have:out[i].key=(List.map St.key out)[i]'(by simpa using h):=by simp
 rw[this,List.set_getElem_self]
structure Round(ts:Q0b)(out:List St):Prop where
 keys:mF out=au ts
 pos:∀s∈out,0<=s.n
 low:∀s∈out,qQ ts s.key s.n
def RG(ts:Q0b)(out:List St)(s:St)(k:Nat):Prop:=∀d∈(fZ ts s.key).take k,jf out (d.typ,d.rel)+stepOf d<=s.n
theorem Round.mem{ts:Q0b}{out:List St}(h:Round ts out){s:St}(hs:s∈out):s.key∈au ts:=by rw[<-h.keys];exact VS hs
theorem Round.at{ts:Q0b}{out:List St}(h:Round ts out){k:Q01}(hk:k∈au ts):0<=jf out k/\qQ ts k (jf out k):=by
 obtain⟨s,hs,e,en⟩:=Dj out (by rw[h.keys];exact hk);rw[<-en,<-e];exact⟨h.pos s hs,h.low s hs⟩
theorem Round.set{ts:Q0b}{out:List St}(h:Round ts out)(hF:Found ts){i:Nat}(hi:i<out.length){d:Dp}(hd:d∈fZ ts out[i].key):Round ts (out.set i ⟨out[i].typ,out[i].rel,jf out (d.typ,d.rel)+stepOf d⟩):=by
 have hk:out[i].key∈au ts:=h.mem (Vs hi);have hdk:=hF _ hk d hd;obtain⟨h0,hl⟩:=h.at hdk;have hs0:0<=stepOf d:=by unfold stepOf;split<;>omega
 refine⟨(ME out i hi _).trans h.keys,fun s hs=>?_,fun s hs=>?_⟩
 ·rcases List.mem_or_eq_of_mem_set hs with hs|rfl
  ·exact h.pos s hs
  show 0<=jf out (d.typ,d.rel)+stepOf d;omega
 rcases List.mem_or_eq_of_mem_set hs with hs|rfl
 ·exact h.low s hs
 exact hl.step hk hd
theorem Round.done{ts:Q0b}{out:List St}(h:Round ts out)(hs:∀s∈out,RG ts out s (fZ ts s.key).length):Least ts (jf out) where
 sol:=⟨fun k=>by
   by_cases hk:k∈au ts
   ·exact(h.at hk).1
   ·rw[Pq out (by rw[h.keys];exact hk)];exact Int.le_refl _,fun k hk d hd=>by
   obtain⟨s,hm,e,en⟩:=Dj out (by rw[h.keys];exact hk);have:=hs s hm d (by rw[VI,e];exact hd);rw[<-en];exact this⟩
 low k hk:=(h.at hk).2
def jB(a b:ByteArray):Bool:=Op.bytesLess a.toList b.toList
def mG(rs:List Rl)(j:Nat):Bool :=
 match rs[j]? with
 | none=>true
 | some r=>aP r.name&&(match j with|0=>true|i+1=>(rs[i]?.map fun p=>jB p.name r.name).getD true)&&aI r.expr
def dE(rs:List Rl):Nat->Bool
 | 0=>true
 | k+1=>dE rs k&&mG rs k
def kI(ts:Q0b)(j:Nat):Bool :=
 match ts[j]? with
 | none=>true
 | some t=>aP t.name&&(match j with|0=>true|i+1=>(ts[i]?.map fun p=>jB p.name t.name).getD true)&&decide (t.rels.length<=6)&&dE t.rels t.rels.length
def jb(ts:Q0b):Nat->Bool
 | 0=>true
 | k+1=>jb ts k&&kI ts k
theorem ut(rs:List Rl)(k:Nat)(hb:mG rs k=false):∀n,k<n->dE rs n=false
 | 0,hn=>by omega
 | n+1,hn=>by
  by_cases e:n=k
  ·subst e;simp[dE,hb]
  simp[dE,ut rs k hb n (by omega)]
theorem uu(ts:Q0b)(k:Nat)(hb:kI ts k=false):∀n,k<n->jb ts n=false
 | 0,hn=>by omega
 | n+1,hn=>by
  by_cases e:n=k
  ·subst e;simp[jb,hb]
  simp[jb,uu ts k hb n (by omega)]
theorem pI{rs:List Rl}:∀{n:Nat},dE rs n=true->∀j,j<n->mG rs j=true
 | 0,_,j,hj=>by omega
 | n+1,h,j,hj=>by
  simp only[dE,Vw]at h;by_cases e:j=n
  ·subst e;exact h.2
  exact pI h.1 j (by omega)
theorem pJ{ts:Q0b}:∀{n:Nat},jb ts n=true->∀j,j<n->kI ts j=true
 | 0,_,j,hj=>by omega
 | n+1,h,j,hj=>by
  simp only[jb,Vw]at h;by_cases e:j=n
  ·subst e;exact h.2
  exact pJ h.1 j (by omega)
def aZ(ts:Q0b):Bool:=decide (ts.length<=6)&&jb ts ts.length
def qA(ts:Q0b)(t:Ty):Bool:=t.rels.all fun r=>aQ ts t.name r.expr
def gI(ts:Q0b):Bool:=ts.all (qA ts)
def bN(ts:Q0b):Prop:=aZ ts=true/\gI ts=true/\∃f,Sol ts f
theorem MF{rs:List Rl}{n:ByteArray}{es:Q09}(h:iy rs n=some es):∃r∈rs,r.name=n/\r.expr=es:=by
 induction rs with
 | nil=>simp[iy]at h
 | cons r rs ih =>
  simp only[iy]at h;split at h
  ·rename_i hn;injection h with h;exact⟨r,by simp,fP.1 hn,h⟩
  obtain⟨q,hq,e⟩:=ih h;exact⟨q,by simp[hq],e⟩
theorem oI{ts:Q0b}{ty n:ByteArray}{es:Q09}(h:dZ ts ty n=some es):∃t∈ts,∃r∈t.rels,t.name=ty/\r.name=n/\r.expr=es:=by
 induction ts with
 | nil=>simp[dZ]at h
 | cons t ts ih =>
  simp only[dZ]at h;split at h
  ·rename_i hn;rcases Option.or_eq_some_iff.1 h with h|⟨-,h⟩
   ·obtain⟨r,hr,e⟩:=MF h;exact⟨t,by simp,r,hr,fP.1 hn,e⟩
   obtain⟨t',ht,e⟩:=ih h;exact⟨t',by simp[ht],e⟩
  obtain⟨t',ht,e⟩:=ih h;exact⟨t',by simp[ht],e⟩
theorem oJ{ts:Q0b}{k:Q01}:k∈au ts ↔ ∃t∈ts,∃r∈t.rels,k=(t.name,r.name):=by
 simp only[au,jZ,VP,VE];constructor
 ·rintro⟨t,ht,r,hr,e⟩;exact⟨t,ht,r,hr,e.symm⟩
 rintro⟨t,ht,r,hr,e⟩;exact⟨t,ht,r,hr,e.symm⟩
theorem lX{ts:Q0b}{ty n:ByteArray}(h:(ak ts ty n).isEmpty=false):(ty,n)∈au ts:=by
 unfold ak at h;cases e:dZ ts ty n with
 | none=>rw[e]at h;simp at h
 | some es =>
  obtain⟨t,ht,r,hr,h1,h2,-⟩:=oI e;exact oJ.2 ⟨t,ht,r,hr,by rw[h1,h2]⟩
theorem TZ{ts:Q0b}{rel:ByteArray}{xs:Q0a}{g:ByteArray}(h:g∈gl ts rel xs):(ak ts g rel).isEmpty=false:=by
 induction xs with
 | nil=>simp[gl]at h
 | cons a xs ih =>
  simp only[gl]at h;split at h
  ·exact ih h
  rename_i hn;rcases VL.1 h with rfl|h
  ·simpa using hn
  exact ih h
theorem MG{neg:Bool}{xs:Q0a}{d:Dp}(h:d∈cO neg xs):∃a∈xs,a.s.toList.isEmpty=false/\d.typ=a.t/\d.rel=a.s:=by
 induction xs with
 | nil=>simp[cO]at h
 | cons a xs ih =>
  simp only[cO]at h;split at h
  ·obtain⟨b,hb,e⟩:=ih h;exact⟨b,by simp[hb],e⟩
  rename_i hn;rcases VL.1 h with rfl|h
  ·exact⟨a,by simp,by simpa using hn,rfl,rfl⟩
  obtain⟨b,hb,e⟩:=ih h;exact⟨b,by simp[hb],e⟩
theorem pK{ts:Q0b}{typ:ByteArray}{es:Q09}{d:Dp}:∀{k:Nat},d∈aO ts typ es k->∃i,i<k/\d∈gG ts typ es i
 | 0,h=>by simp[aO]at h
 | k+1,h=>by
  simp only[aO]at h;rcases VJ.1 h with h|h
  ·obtain⟨i,hi,e⟩:=pK h;exact⟨i,by omega,e⟩
  exact⟨k,by omega,h⟩
theorem xy{ts:Q0b}{typ:ByteArray}{es:Q09}(h:aQ ts typ es=true):∀e∈es,pz ts e.allow=true/\kZ ts typ e=true:=by
 induction es with
 | nil=>intro e he;cases he
 | cons e es ih =>
  simp only[aQ]at h;split at h
  ·rename_i hn;rw[Vw]at hn;intro q hq;rcases VL.1 hq with rfl|hq
   ·exact hn
   exact ih h q hq
  cases h
theorem kJ{ts:Q0b}(h:gI ts=true):Found ts:=by
 intro k hk d hd;unfold fZ oH at hd;have hne:(ak ts k.1 k.2).length≠0:=by
  intro e;rw[e]at hd;simp[aO]at hd
 obtain⟨es,hes⟩:∃es,dZ ts k.1 k.2=some es:=by
  cases e:dZ ts k.1 k.2 with
  | none=>unfold ak at hne;rw[e]at hne;simp at hne
  | some es=>exact⟨es,rfl⟩
 have ero:ak ts k.1 k.2=es:=by unfold ak;rw[hes];rfl
 rw[ero]at hd;obtain⟨t,ht,r,hr,h1,h2,h3⟩:=oI hes;have hr1:aQ ts k.1 es=true:=by
  unfold gI at h;rw[VF]at h;have:=h t ht;unfold qA at this;rw[VF]at this;have:=this r hr;rw[h1,h3]at this;exact this
 obtain⟨i,hi,hdi⟩:=pK hd;unfold gG at hdi;split at hdi
 ·cases hdi
 rename_i e he;obtain⟨ra,rn⟩:=xy hr1 e (WB he);rcases VJ.1 hdi with hdi|hdi
 ·obtain⟨a,ha,hs,e1,e2⟩:=MG hdi;unfold pz at ra;rw[VF]at ra;have:=ra a ha;unfold qz at this;rw[hs,Bool.false_or,Vw]at this;rw[e1,e2];exact lX (by simpa using this.2)
 unfold kH at hdi;unfold kZ at rn;split at hdi
 ·rename_i h2;rw[if_pos h2]at rn;simp at hdi;subst hdi;exact lX (by simpa using rn)
 split at hdi
 ·obtain⟨g,hg,rfl⟩:=VE.1 hdi;exact lX (TZ hg)
 cases hdi
theorem lY{es:Q09}(h:aI es=true):1<=es.length/\es.length<=15:=by
 simp only[aI,Vw,VH]at h;exact⟨h.1.1.1.1.1,h.1.1.1.1.2⟩
theorem MH{es:Q09}(h:aI es=true)(i:Nat)(hi:i<es.length):fo es.length es[i].kids:=by
 simp only[aI,Vw,VH]at h;have h1:=h.1.1.2;unfold jq at h1;rw[VF]at h1;have h2:=h1 i (by simpa using hi);unfold lc dD at h2;rw[VG hi]at h2;simp only[Option.map_some,Wn,VF,Vw,VH]at h2;intro x hx;have:=h2 x hx;omega
theorem aW{rs:Q06}(h:aZ (ae rs)=true):rs.length<=6/\(∀r∈rs,r.rows.length<=6)/\∀r∈rs,∀q∈r.rows,aI (ai q.rows)=true/\q.rows.length<=15/\∀e∈q.rows,fo q.rows.length e.e.kids:=by
 simp only[aZ,Vw,VH]at h;rw[df]at h;have hT:∀r∈rs,r.rows.length<=6/\dE (bQ r.rows) r.rows.length=true:=by
  intro r hr;obtain⟨j,hj,rfl⟩:=Wj.1 hr;have h1:=pJ h.2 j hj;unfold kI at h1;have e:(ae rs)[j]?=some rs[j].p:=by simp[ae,hj]
  rw[e]at h1;simp only[Vw,VH]at h1;have e2:rs[j].p.rels.length=rs[j].rows.length:=by simp[TR.p,bQ]
  rw[e2]at h1;exact⟨h1.1.2,h1.2⟩
 refine⟨h.1,fun r hr=>(hT r hr).1,fun r hr q hq=>?_⟩;obtain⟨j,hj,rfl⟩:=Wj.1 hq;have h1:=pI (hT r hr).2 j hj;unfold mG at h1;have e:(bQ r.rows)[j]?=some r.rows[j].p:=by simp[bQ,hj]
 rw[e]at h1;simp only[Vw]at h1;have h2:aI (ai r.rows[j].rows)=true:=h1.2;have h3:=lY h2;rw[ay]at h3;refine⟨h2,h3.2,fun e he=>?_⟩;obtain⟨i,hi,rfl⟩:=Wj.1 he;have:=MH h2 i (by rw[ay];exact hi);have e1:(ai r.rows[j].rows)[i]'(by rw[ay];exact hi)=r.rows[j].rows[i].e:=by simp[ai]
 rw[e1]at this;simpa[ai] using this
def assigns(n:Nat):List (ByteArray×ByteArray)->List (ByteArray×ByteArray->Int)
 | []=>[fun _=>0]
 | k::ks=>(assigns n ks).flatMap fun f=>(List.range n).map fun v=>fun y=>if y=k then ((v:Nat):Int) else f y
theorem yD{n:Nat}:∀{ks:List (ByteArray×ByteArray)} {f:Q00},f∈assigns n ks->∀k,0<=f k
 | [],f,h,k=>by simp only[assigns,VO]at h;rw[h];exact Int.le_refl _
 | x::ks,f,h,k=>by
  simp only[assigns,VP,VE]at h;obtain⟨g,hg,v,-,rfl⟩:=h;show 0<=(if k=x then ((v:Nat):Int) else g k);split
  ·omega
  exact yD hg k
theorem yE{n:Nat}(g:Q00):∀(ks:List (ByteArray×ByteArray)),(∀k∈ks,0<=g k/\g k<n)->∃f∈assigns n ks,∀k∈ks,f k=g k
 | [],_=>⟨fun _=>0,by simp[assigns],fun k hk=>by cases hk⟩
 | x::ks,h=>by
  obtain⟨f,hf,hfg⟩:=yE g ks fun k hk=>h k (V7 _ hk);obtain⟨h0,h1⟩:=h x (Ws ..);refine⟨fun y=>if y=x then (((g x).toNat:Nat):Int) else f y,?_,fun k hk=>?_⟩
  ·simp only[assigns,VP,VE];exact⟨f,hf,(g x).toNat,List.mem_range.2 (by omega),rfl⟩
  show(if k=x then (((g x).toNat:Nat):Int) else f k)=g k;by_cases e:k=x
  ·rw[if_pos e,e];omega
  rw[if_neg e];rcases VL.1 hk with h2|h2
  ·exact absurd h2 e
  exact hfg k h2
def T9(ts:Q0b)(f:Q00):Bool:=(au ts).all fun k=>(fZ ts k).all fun d=>decide (f (d.typ,d.rel)+stepOf d<=f k)
theorem Lv{ts:Q0b}{f:Q00}:T9 ts f=true ↔ ∀k∈au ts,∀d∈fZ ts k,f (d.typ,d.rel)+stepOf d<=f k:=by
 unfold T9;simp only[VF,VH]
def zZ(ts:Q0b):List (ByteArray×ByteArray->Int):=(assigns (au ts).length (au ts)).filter (T9 ts)
theorem MI{ts:Q0b}{f:Q00}(h:f∈zZ ts):Sol ts f:=by
 unfold zZ at h;rw[Wo]at h;exact⟨yD h.1,Lv.1 h.2⟩
theorem Pt{ts:Q0b}{g:Q00}(hF:Found ts)(h:Sol ts g)(hb:∀k∈au ts,g k+1<=(au ts).length):∃f∈zZ ts,∀k∈au ts,f k=g k:=by
 obtain⟨f,hf,hfg⟩:=yE (n:=(au ts).length) g (au ts) fun k hk=>⟨h.pos k,by have:=hb k hk;omega⟩;refine⟨f,?_,hfg⟩;unfold zZ;rw[Wo];refine⟨hf,Lv.2 fun k hk d hd=>?_⟩;rw[hfg k hk,hfg _ (hF k hk d hd)];exact h.up k hk d hd
def aD(ts:Q0b):Bool:=aZ ts&&gI ts && !(zZ ts).isEmpty
theorem aG{ts:Q0b}:aD ts=true↔bN ts:=by
 unfold aD bN;simp only[Vw,Bool.not_eq_true'];constructor
 ·rintro⟨⟨h1,h2⟩,h3⟩;refine⟨h1,h2,?_⟩;cases e:zZ ts with
  | nil=>rw[e]at h3;cases h3
  | cons f fs=>exact⟨f,MI (by rw[e];exact Ws ..)⟩
 rintro⟨h1,h2,f,hf⟩;refine⟨⟨h1,h2⟩,?_⟩;obtain⟨g,hg,hb⟩:=hf.few (kJ h2);obtain⟨f2,hf2,-⟩:=Pt (kJ h2) hg hb;cases e:zZ ts with
 | nil=>rw[e]at hf2;cases hf2
 | cons f fs=>rfl
theorem yF{ts:Q0b}(h:bN ts):aD ts=true:=aG.2 h
theorem dS{ts:Q0b}(h:¬bN ts):aD ts=false:=by
 cases e:aD ts;case false=>rfl
 exact absurd (aG.1 e) h
end Go.Proofs.YtojjoblnpldniaaGreat
