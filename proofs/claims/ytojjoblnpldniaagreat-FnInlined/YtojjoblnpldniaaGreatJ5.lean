/- Contracts of the document's functions that look at an expression. -/
import Derived.Test.YtojjoblnpldniaaGreatSq
import Derived.Test.YtojjoblnpldniaaGreatJ2
open Go.Proofs.Tryz
set_option maxHeartbeats 80000000
set_option linter.defProp false
namespace Go.Proofs.YtojjoblnpldniaaGreat
open ChangeShapes WideShapes ChangeAt RowKit
open Pl
def QV(n lo hi:Int)(w:af):
  Calls prog 245 #[.int .i64 n,.int .i64 lo,.int .i64 hi] w (bx w<|.bool<|decide (lo<=n)&&decide (n<=hi)):=by
 go_enter func245,ntmps245;go_wp2
 all_goals go_ret
 all_goals exact⟨ah<|by simp[*]<;>omega,rfl⟩
set_option maxRecDepth 8000 in
def mZ(r:ER)(w:af)(hf:r.e.fits)(h1:r.e.kind≠1):
  Calls prog 244 #[r.val] w (bj w<|.bool<|ax r.e):=by
 obtain⟨⟨kind,allow,over,name,kids⟩,adA,capA,adK,capK⟩:=r;obtain⟨f1,f2,f3,f4,f5⟩:=hf;simp only at f1 f2 f3 f4 f5 h1;simp only[ER.val];unfold maxLen at f4 f5;by_cases h2:kind=2
 ·subst h2;clear h1;go_enter func244,ntmps244;go_wp2_with(go_at_call 126;refine(aU _ _ cE).mono ?_;rintro e w' ⟨rfl,rfl⟩)
  all_goals go_ret
  all_goals exact⟨ah<|by first|(simp[ax, *];done)|(simp[ax, *];omega)|(simp[ax, *];rw[Xe];simp;done)|(simp[ax, *];rw[Xe];simp;omega),(WL w.heap.size w).alloc (WK _) _⟩
 by_cases h3:kind=3
 ·subst h3;clear h1;go_enter func244,ntmps244;go_wp2_with(go_at_call 126;refine(aU _ _ cE).mono ?_;rintro e w' ⟨rfl,rfl⟩)
  all_goals go_ret
  all_goals exact⟨ah<|by first|(simp[ax, *];done)|(simp[ax, *];omega)|(simp[ax, *];rw[Xe];simp;done)|(simp[ax, *];rw[Xe];simp;omega),(WL w.heap.size w).alloc (WK _) _⟩
 by_cases h4:kind=4
 ·subst h4;clear h1;go_enter func244,ntmps244;go_wp2_with(go_at_call 126;refine(aU _ _ cE).mono ?_;rintro e w' ⟨rfl,rfl⟩)
  all_goals go_ret
  all_goals exact⟨ah<|by first|(simp[ax, *];done)|(simp[ax, *];omega)|(simp[ax, *];rw[Xe];simp;done)|(simp[ax, *];rw[Xe];simp;omega),(WL w.heap.size w).alloc (WK _) _⟩
 by_cases h5:kind=5
 ·subst h5;clear h1;go_enter func244,ntmps244;go_wp2_with(go_at_call 126;refine(aU _ _ cE).mono ?_;rintro e w' ⟨rfl,rfl⟩)
  all_goals go_ret
  all_goals exact⟨ah<|by first|(simp[ax, *];done)|(simp[ax, *];omega)|(simp[ax, *];rw[Xe];simp;done)|(simp[ax, *];rw[Xe];simp;omega),(WL w.heap.size w).alloc (WK _) _⟩
 by_cases h6:kind=6
 ·subst h6;clear h1;go_enter func244,ntmps244;go_wp2_with(go_at_call 126;refine(aU _ _ cE).mono ?_;rintro e w' ⟨rfl,rfl⟩)
  all_goals go_ret
  all_goals exact⟨ah<|by first|(simp[ax, *];done)|(simp[ax, *];omega)|(simp[ax, *];rw[Xe];simp;done)|(simp[ax, *];rw[Xe];simp;omega),(WL w.heap.size w).alloc (WK _) _⟩
 go_enter func244,ntmps244;go_wp2_with(go_at_call 126;refine(aU _ _ cE).mono ?_;rintro e w' ⟨rfl,rfl⟩)
 all_goals go_ret
 all_goals exact⟨ah<|by first|(simp[ax, *];done)|(simp[ax, *];omega)|(simp[ax, *];rw[Xe];simp;done)|(simp[ax, *];rw[Xe];simp;omega),(WL w.heap.size w).alloc (WK _) _⟩
def F7(x y:Al){v:Bool}(h:kY x y=v)(w:af):
  (binOp .eql 216 (.agg #[.string x.t,.string x.s])<|.agg #[.string y.t,.string y.s]).run prog w=.ok (.bool v) w:=by
 subst h;go_simp;unfold kY;by_cases h1:x.t.toList=y.t.toList<;>by_cases h2:x.s.toList=y.s.toList<;>simp[h1,h2]
def Ev{xs:Q0a}{j k:Nat}{a:Al}(hjk:j<k)(hj:j<xs.length)(h:kY xs[j] a=true):dG xs k a=true:=by
 unfold dG;rw[Xj];refine⟨xs[j],?_,h⟩;rw[List.mem_take_iff_getElem];exact⟨j,cq,rfl⟩
set_option maxRecDepth 8000 in
def Dq(r:ER)(w:af)(hf:r.e.fits)(hok:r.ok w)(h1:r.e.kind=1):
  Calls prog 244 #[r.val] w (bj w<|.bool<|ax r.e):=by
 obtain⟨⟨kind,allow,over,name,kids⟩,adA,capA,adK,capK⟩:=r;obtain⟨f1,f2,f3,f4,f5⟩:=hf;obtain⟨hA,hK⟩:=hok;simp only at f1 f2 f3 f4 f5 h1 hA hK;subst h1;simp only[ER.val];unfold maxLen at f4 f5;by_cases hl:1<=allow.length/\allow.length<=6
 ·obtain⟨hl1,hl2⟩:=hl;obtain⟨W,hW⟩:=eQx<|w.alloc<|.cells #[.int .i64 1,.slice adA allow.length capA,.string over,.string name,.slice adK kids.length capK] 43;have HB0:O (ag w W):=by show Below _ _ _;rw[hW];exact(WL w.heap.size w).alloc (WK _) _
  have hz:w.heap.size<W.heap.size:=by rw[hW];simp
  have b1:W.cell? (a8 w 1)=some (.slice adA allow.length capA):=by rw[hW];simp
  have b2:W.cell? (a8 w 2)=some (.string over):=by rw[hW];simp
  have b3:W.cell? (a8 w 3)=some (.string name):=by rw[hW];simp
  have HA:=aB<|hA.below HB0;have Zf:=aB f1;clear hA hK f1;go_enter func244,ntmps244;go_wp2_with fail;rw[<-hW];clear hW;go_loopw[4] (fun i wr=>∃k:Nat,k<=allow.length/\i=.int .i64 k/\O (FK allow k=true)/\ag W wr) (fun i _=>allow.length-(intOf i).toNat);case atStart=>exact⟨0,WO _,rfl,rfl,WL _ _⟩
  obtain⟨k,hk,rfl,HU,hB⟩:=hrel;have a1:=kept hB hz b1;have a2:=kept hB hz b2;have a3:=kept hB hz b3;by_cases hlt:k<allow.length
  ·rcases HA.out.below hB with rfl|⟨b,off,rfl,hb,hr⟩
   ·simp at hlt
   obtain⟨t0,t1⟩:=hr k hlt;obtain⟨z0,z1⟩:=Zf allow[k]<|WH hlt;have HR:O (∀(i:Nat) (h:i<allow.length),U3 wr b (off+i*2) allow[i]):=hr;clear hr;obtain⟨W1,hW1⟩:=eQx<|wr.alloc<|.cells #[.string allow[k].t,.string allow[k].s] 216;have hal:ag wr W1:=by rw[hW1];exact(WL _ _).alloc (WK _) _
   have hBW1:Below W.heap.size wr W1:=hal.mono hB.size;have hsz:cW w wr:=WJ hz hB.size;have hWs:cV W W1:=WR hB.size hal.size;have c1:=kept hal hsz a1;have c2:=kept hal hsz a2;have c3:=kept hal hsz a3;have hbl:cU b W1:=WJ hb hal.size;have hgl:wr.heap.size<W1.heap.size:=by rw[hW1];simp
   have g0:W1.cell? (a7 wr)=some (.string allow[k].t):=by rw[hW1];simp
   have g1:W1.cell? (a8 wr 1)=some (.string allow[k].s):=by rw[hW1];simp
   have HR1:O (∀(i:Nat) (h:i<allow.length),U3 W1 b (off+i*2) allow[i]):=fun i hi=>(HR i hi).same fun o=>hal.cell (p:=⟨b,o,none⟩) hb;cases hn:aS allow[k].t;case false=>
    have HN:O (FK allow allow.length=false):=pY allow k hlt (by simp[FJ,hn]) _ hlt;go_wp2_with(go_at_call 126;refine(aU _ _ cE).mono ?_;rintro e w' ⟨rfl,rfl⟩);go_ret;exact⟨ah<|by simp[ax,dF,HN.out],HB0.trans<|(hB.trans<|(WL _ _).alloc hB.size _).mono HB0.size⟩
   cases he:allow[k].s.toList.isEmpty
   case' true =>
    have HAl:O (FJ allow[k]=true):=by show _=_;simp[FJ,vT,hn,he]
    go_wp2_with(go_at_call 126;refine(aU _ _ cE).mono ?_;rintro e w' ⟨rfl,rfl⟩);rw[<-hW1]
   case' false =>
    cases hm:aS allow[k].s;case false =>
     have HN:O (FK allow allow.length=false):=pY allow k hlt (by simp[FJ,hn,vT,he,hm]) _ hlt;go_wp2_with(go_at_call 126;refine(aU _ _ cE).mono ?_;rintro e w' ⟨rfl,rfl⟩);go_ret;exact⟨ah<|by simp[ax,dF,HN.out],HB0.trans<|(hB.trans<|(WL _ _).alloc hB.size _).mono HB0.size⟩
    have HAl:O (FJ allow[k]=true):=by show _=_;simp[FJ,vT,hn,he,hm]
    go_wp2_with(go_at_call 126;refine(aU _ _ cE).mono ?_;rintro e w' ⟨rfl,rfl⟩);rw[<-hW1]
   all_goals
    go_loopw[6] (fun i w2=>∃j:Nat,j<=k/\i=.int .i64 j/\O (dG allow j allow[k]=false)/\ag W1 w2) (fun i _=>k-(intOf i).toNat);case atStart=>exact⟨0,WO _,rfl,uK _ _,WL _ _⟩
    obtain⟨j,hj,rfl,HP,hB2⟩:=hrel;rename_i w2 _;have d1:=kept hB2 cq c1;have d2:=kept hB2 cq c2;have d3:=kept hB2 cq c3;have p0:=kept hB2 hgl g0;have p1:=kept hB2 hgl g1;by_cases hjk:j<k
    ·obtain⟨q0,q1⟩:=(HR1 j cq).same fun o=>hB2.cell (p:=⟨b,o,none⟩) hbl;have hj1:=bY j;have hj2:(j:Int)<(allow.length:Int):=cq
     cases hq:kY allow[j] allow[k];case true=>
      have HE:=F7 allow[j] allow[k] hq;have HN:O (FK allow allow.length=false):=pY allow k hlt (by rw[(Ev hjk cq hq)];simp) _ hlt;go_wp2_with fail;go_quiet (fail);go_wp2;go_ret;exact⟨ah<|by simp[ax,dF,HN.out],HB0.trans<|(hB.trans<|hBW1.trans<|hB2.mono cq).mono HB0.size |> fun h=>below_drewN h _⟩
     have HE:=F7 allow[j] allow[k] hq;have Ye:O (dG allow (j+1) allow[k]=false):=by show _=_;rw[uJ _ _ _ cq,HP,hq];rfl
     go_wp2_with fail;go_quiet (fail);go_wp2;go_roundw;case rel=>exact⟨j+1,cq,cx,Ye,below_drewN hB2 _⟩
     simp[intOf];omega
    obtain rfl:j=k:=cq;have HU2:O (FK allow (j+1)=true):=by show _=_;rw[AJ _ _ hlt,HU,HAl,HP];rfl
    go_wp2;go_roundw;case rel=>exact⟨j+1,cq,cx,HU2,hB.trans<|hBW1.trans<|hB2.mono cq⟩
    simp[intOf];omega
  obtain rfl:k=allow.length:=cq;have HAW:O (dF allow=true):=by show _=_;simp[dF,hl1,hl2,HU.out]
  go_wp2
  all_goals go_ret
  all_goals exact⟨ah<|by first|(simp[ax,HAW.out, *];done)|(simp[ax,HAW.out, *];rw[Xe];simp;done),HB0.trans<|hB.mono HB0.size⟩
 go_enter func244,ntmps244;go_wp2_with fail
 all_goals go_ret
 all_goals exact⟨ah<|by simp[ax,dF];omega,(WL w.heap.size w).alloc (WK _) _⟩
def F8(r:ER)(w:af)(hf:r.e.fits)(hok:r.ok w):
  Calls prog 244 #[r.val] w (bj w<|.bool<|ax r.e):=by
 by_cases h:r.e.kind=1
 ·exact Dq r w hf hok h
 exact mZ r w hf h
def qA(rs:Q08)(n:Nat)(h:n<rs.length):dD (ai rs) n=rs[n].e.kids:=by simp[dD,ai,h]
def KM(b off cap:Nat)(rs:Q08)(hlen:bh rs)(hl:∀r∈rs,r.e.light)(n:Nat):∀(w:af),n<rs.length->b<w.heap.size->(∀(i:Nat) (h:i<rs.length),vP w b (off+i*5) rs[i])->(∀r∈rs,r.ok w) ->
  Calls prog 246 #[.slice (some<|aq b off) rs.length cap,.int .i64 (n:Int)] w (bj w<|.int .i64<|av (ai rs) n):=by
 induction n using Nat.strongRecOn with
 | ind n ih =>
  intro w hn hb hr hok
  have IH:O (∀ m,m<n->∀ (w:World),m<rs.length->b<w.heap.size->(∀ (i:Nat) (h:i<rs.length),vP w b (off+i*5) rs[i])->(∀ r∈rs,r.ok w) ->
   Calls prog 246 #[.slice (some<|aq b off) rs.length cap,.int .i64 (m:Int)] w (bj w<|.int .i64<|av (ai rs) m)):=ih
  have HR:O (∀(i:Nat) (h:i<rs.length),vP w b (off+i*5) rs[i]):=hr;have HO:=aB hok;obtain⟨t0,t1,t2,t3,t4⟩:=hr n hn;obtain⟨l1,l2⟩:=hl rs[n]<|WH hn;have hn1:=bY n;have hn2:(n:Int)<(rs.length:Int):=cq;have HT:O (av (ai rs) n=bG (cO (ai rs) n) rs[n].e.kids.reverse ((n:Int)-1)):=by show _=_;rw[jc,qA rs n hn]
  have HL:=aB hl;clear ih hr hok hl l1;go_enter func246,ntmps246;go_wp2_with fail;go_loopw[5,6] (fun a i wr=>∃(j:Nat) (x:Int),j<=rs[n].e.kids.length/\i=.int .i64 ((j:Int)-1)/\a=.int .i64 x∧-1<=x/\x<n/\O (bG (cO (ai rs) n) (rs[n].e.kids.take j).reverse x=av (ai rs) n)/\ag w wr) (fun _ i _=>(intOf i+1).toNat);case atStart=>exact⟨rs[n].e.kids.length,(n:Int)-1,WK _,rfl,rfl,cq,cq,(by show _=_;rw[Xa];exact HT.symm),WL _ _⟩
  obtain⟨j,x,hj,rfl,rfl,hx0,hx1,HG,hB⟩:=hrel;have s4:=kept hB hb t4;by_cases hj0:0<j
  ·obtain⟨j,rfl⟩:∃i,j=i+1:=⟨j-1,cq⟩;have hjl:j<rs[n].e.kids.length:=cq;rcases (HO.out rs[n]<|WH hn).2.below hB with hnil|⟨bk,offk,hadk,hbk,hrk⟩
   ·rw[hnil]at hjl;simp at hjl
   rw[hadk]at s4;have k0:=hrk j hjl;clear hrk;have hji:((j+1:Nat):Int)-1=(j:Int):=cq;have hj1:=bY j;have hj2:(j:Int)<(rs[n].e.kids.length:Int):=cq;have HG2:O ((if x<0\/rs[n].e.kids[j]≠x then -1 else if cO (ai rs) n x<0 then -1 else bG (cO (ai rs) n) (rs[n].e.kids.take j).reverse (cO (ai rs) n x-1))=av (ai rs) n):=by
    have:=HG.out;rw[WN hjl,List.reverse_append]at this;exact this
   rw[hji];clear HG hadk t0 t1 t2 t3 t4;by_cases hxn:x<0
   ·have HT1:O (av (ai rs) n=-1):=by show _=_;rw[<-HG2,if_pos<|Or.inl hxn]
    go_wp2;go_ret;exact⟨by rw[HT1];rfl,hB⟩
   by_cases hkx:rs[n].e.kids[j]=x
   ·obtain⟨m,rfl⟩:∃m:Nat,x=(m:Int):=⟨x.toNat,cq⟩;have hF:cO (ai rs) n (m:Int)=av (ai rs) m:=by unfold cO;rw[if_pos ⟨cq,by simp;omega⟩];simp
    have HF:O (cO (ai rs) n (m:Int)=av (ai rs) m):=hF;have hle:=iq (ai rs) m;clear hF;go_wp2_with fail;refine(IH m cq _ cq (WJ hb hB.size) (fun i hi=>(HR i hi).same fun o=>hB.cell (p:=⟨b,o,none⟩) hb) (fun r hr=>(HO r hr).below hB)).mono ?_;rintro e w1 ⟨rfl,hb1⟩;have hB1:ag w w1:=hB.trans<|hb1.mono hB.size;clear hb1;by_cases hneg:av (ai rs) m<0
    ·have HT1:O (av (ai rs) n=-1):=by show _=_;rw[<-HG2,if_neg cq,HF,if_pos hneg]
     go_wp2;go_ret;exact⟨by rw[HT1];rfl,hB1⟩
    have ZY:O (bG (cO (ai rs) n) (rs[n].e.kids.take j).reverse (av (ai rs) m-1)=av (ai rs) n):=by
     show _=_;rw[<-HG2,if_neg cq,HF,if_neg hneg]
    go_wp2;go_roundw;case rel=>exact⟨j,av (ai rs) m-1,cq,cx,rfl,cq,cq,ZY,hB1⟩
    simp[intOf]<;>omega
   have HT1:O (av (ai rs) n=-1):=by show _=_;rw[<-HG2,if_pos<|Or.inr hkx]
   go_wp2;go_ret;exact⟨by rw[HT1];rfl,hB⟩
  obtain rfl:j=0:=cq;have HT1:O (av (ai rs) n=x+1):=by show _=_;have:=HG.out;simp[bG]at this;exact this.symm
  clear HG t0 t1 t2 t3 t4;go_wp2;go_ret;exact⟨by rw[HT1];rfl,hB⟩
def vP.later{w w':af}{b off:Nat}{r:ER}(h:vP w b off r)(hb:cU b w)(hB:ag w w'):vP w' b off r:=h.same fun o=>hB.cell (p:=⟨b,o,none⟩) hb
def Ew{es:Q09}(h:¬(1<=es.length/\es.length<=15)):aK es=false:=by
 unfold aK;by_cases h1:1<=es.length
 ·have h2:¬es.length<=15:=fun h2=>h ⟨h1,h2⟩;simp[h2]
 simp[h1]
def KN{es:Q09}(k:Nat)(h:k<es.length)(hb:ax es[k]=false):aK es=false:=by simp[aK,DW es k h hb]
def KO{es:Q09}(k:Nat)(h:k<es.length)(hb:lI es k=false):aK es=false:=by simp[aK,Qb es k h hb]
def qB(zs:List Int)(i j:Nat):Bool:=(zs.take j).all fun k=>decide (0<=k)&&decide (k<=(i:Int)-1)
def F9(zs:List Int)(i j:Nat)(h:j<zs.length):qB zs i (j+1)=(qB zs i j&&(decide (0<=zs[j])&&decide (zs[j]<=(i:Int)-1))):=by
 unfold qB;rw[WN h,XU];simp
def Ir(zs:List Int)(i j:Nat)(h:j<zs.length)(hb:(decide (0<=zs[j])&&decide (zs[j]<=(i:Int)-1))=false):(zs.all fun k=>decide (0<=k)&&decide (k<=(i:Int)-1))=false:=by
 rw[Bool.eq_false_iff];intro h2;rw[WT]at h2;have:=h2 zs[j]<|WH h;rw[hb]at this;cases this
set_option maxRecDepth 4000 in
def BI(b off cap:Nat)(rs:Q08)(w:af)(hlen:bh rs)(hl:∀r∈rs,r.e.light)(hf:∀r∈rs,r.e.fits)(hb:cU b w)(hr:∀(i:Nat) (h:i<rs.length),vP w b (off+i*5) rs[i])(hok:∀r∈rs,r.ok w):
  Calls prog 174 #[.slice (some<|aq b off) rs.length cap] w (bj w<|.bool<|aK<|ai rs):=by
 have hel:=au rs;have ZC:O ((ai rs).length=rs.length):=hel;have HL:=aB hl;have HF:=aB hf;have HR:O (∀(i:Nat) (h:i<rs.length),vP w b (off+i*5) rs[i]):=hr;have HO:=aB hok;clear hel hl hf hr hok;by_cases hn:1<=rs.length/\rs.length<=15
 ·obtain⟨hn1,hn2⟩:=hn;go_enter func174,ntmps174;go_wp2_with fail;go_loopw[3,4] (fun o i wr=>∃k:Nat,k<=rs.length/\i=.int .i64 k/\o=.int .i64 (ig (ai rs) k:Nat)/\O (j4 (ai rs) k=true/\jH (ai rs) k=true)/\ag w wr) (fun _ i _=>rs.length-(intOf i).toNat);case atStart=>exact⟨0,WO _,rfl,rfl,⟨by simp[j4],by simp[jH]⟩,WL _ _⟩
  obtain⟨k,hk,rfl,rfl,HU,hB⟩:=hrel;by_cases hlt:k<rs.length
  ·have YW:k<(ai rs).length:=by rw[ZC];exact hlt
   have hek:(ai rs)[k]=rs[k].e:=by simp[ai]
   have HEK:O ((ai rs)[k]=rs[k].e):=hek;obtain⟨t0,t1,t2,t3,t4⟩:=(HR k hlt).later hb hB;clear hek;have hk1:=bY k;have hk2:(k:Int)<(rs.length:Int):=cq;have hol:=vZ (ai rs) k;go_wp2_with fail;refine(F8 rs[k] _ (HF _<|WH hlt)<|(HO _<|WH hlt).below hB).mono ?_;rintro e w1 ⟨rfl,hb1⟩;cases X0:ax rs[k].e;case false=>
    have HN:O (aK (ai rs)=false):=KN k YW (by rw[HEK];exact X0);go_wp2;go_ret;exact⟨by rw[HN];rfl,hB.trans<|hb1.mono hB.size⟩
   have hB1:ag w w1:=hB.trans<|hb1.mono hB.size;have hbw:cU b wr:=WJ hb hB.size;replace t0:=kept hb1 hbw t0;replace t4:=kept hb1 hbw t4;have hbw1:cU b w1:=WJ hbw hb1.size;clear t1 t2 t3 hb1 hB hbw;go_wp2_with fail;go_loopw[5] (fun i w2=>∃j:Nat,j<=rs[k].e.kids.length/\i=.int .i64 j/\O (qB rs[k].e.kids k j=true)/\w2=w1) (fun i _=>rs[k].e.kids.length-(intOf i).toNat);case atStart=>exact⟨0,WO _,rfl,(by show _=_;simp[qB]),rfl⟩
   obtain⟨j,hj,rfl,HP,rfl⟩:=hrel;by_cases hjl:j<rs[k].e.kids.length
   ·rcases (HO.out rs[k]<|WH hlt).2.below hB1 with hnil|⟨bk,offk,hadk,hbk,hrk⟩
    ·rw[hnil]at hjl;simp at hjl
    have t4':=t4;rw[hadk]at t4';have k0:=hrk j hjl;have hj1:=bY j;have hj2:(j:Int)<(rs[k].e.kids.length:Int):=cq;obtain⟨-,lk⟩:=HL rs[k]<|WH hlt;clear hrk hadk t4;go_wp2_with fail;refine(QV _ _ _ _).mono ?_;rintro e w' ⟨rfl,rfl⟩;cases hin:(decide (0<=rs[k].e.kids[j])&&decide (rs[k].e.kids[j]<=(k:Int)-1));case false=>
     have HN:O (aK (ai rs)=false):=KO k YW (by unfold lI;rw[qA rs k hlt];exact Ir _ k j hjl hin);go_wp2;go_ret;exact⟨by rw[HN];rfl,hB1⟩
    have Ye:O (qB rs[k].e.kids k (j+1)=true):=by show _=_;rw[F9 _ _ _ hjl,HP,hin];rfl
    go_wp2;go_roundw;case rel=>exact⟨j+1,cq,cx,Ye,by first|rfl|trivial⟩
    simp[intOf]<;>omega
   obtain rfl:j=rs[k].e.kids.length:=cq;have HU2:O (j4 (ai rs) (k+1)=true/\jH (ai rs) (k+1)=true):=by
    refine⟨?_,?_⟩
    ·rw[wh _ _ YW,HU.1,HEK,X0];rfl
    rw[G9,HU.2];unfold lI;rw[qA rs k hlt];have:=HP.out;unfold qB at this;rw[Xa]at this;rw[this];rfl
   have HOW:O (ig (ai rs) (k+1)=ig (ai rs) k+(if rs[k].e.kind=1 then 1 else 0)):=by show _=_;rw[AL _ _ YW,HEK]
   by_cases hk1':rs[k].e.kind=1
   ·have HOW2:O (ig (ai rs) (k+1)=ig (ai rs) k+1):=by show _=_;rw[HOW,if_pos hk1']
    clear HOW;go_wp2;go_roundw;case rel=>exact⟨k+1,cq,cx,by rw[HOW2];go_num,HU2,hB1⟩
    simp[intOf]<;>omega
   have HOW2:O (ig (ai rs) (k+1)=ig (ai rs) k):=by show _=_;rw[HOW,if_neg hk1'];rfl
   clear HOW;go_wp2;go_roundw;case rel=>exact⟨k+1,cq,cx,by rw[HOW2],HU2,hB1⟩
   simp[intOf]<;>omega
  obtain rfl:k=rs.length:=cq;have HN:O ((ai rs).all ax=true):=by
   have:=HU.1;unfold j4 at this;rwa [<-ZC,Xa]at this
  have HKU:O (jH (ai rs) rs.length=true):=HU.2;have HOW:O (ig (ai rs) rs.length=own (ai rs)):=by show _=_;unfold ig;rw[<-ZC,Xa]
  have hol:=vZ (ai rs) rs.length;by_cases ho:ig (ai rs) rs.length<=1
  ·have HS:O (aK (ai rs)=decide (av (ai rs) (rs.length-1)=0)):=by
    show _=_;have h1:own (ai rs)<=1:=by rw[<-HOW];exact ho
    have e1:=ZC.out;unfold aK;rw[e1,HN,HKU];simp[h1,hn1,hn2]
   have hcast:((rs.length:Int)-1)=((rs.length-1:Nat):Int):=cq;have HCA:O (((rs.length:Int)-1)=((rs.length-1:Nat):Int)):=hcast;clear hcast;go_wp2_with fail;rw[HCA];refine(KM b off cap rs hlen HL (rs.length-1) _ cq (WJ hb hB.size) (fun i hi=>(HR i hi).later hb hB) (fun r hr=>(HO r hr).below hB)).mono ?_;rintro e w1 ⟨rfl,hb1⟩;go_wp2;go_ret;exact⟨by rw[HS];exact ah<|by rw[Xe];simp,hB.trans<|hb1.mono hB.size⟩
  have HS:O (aK (ai rs)=false):=by
   show _=_;have h1:¬own (ai rs)<=1:=by rw[<-HOW];exact ho
   simp[aK,h1]
  go_wp2;go_ret;exact⟨by rw[HS];rfl,hB⟩
 have HN:O (aK (ai rs)=false):=Ew (by rw[ZC];exact hn);go_enter func174,ntmps174;go_wp2_with fail
 all_goals go_ret
 all_goals exact⟨by rw[HN];rfl,WL _ _⟩
def ni(ad:Q02)(cap:Nat)(rs:Q08)(w:af)(hlen:bh rs)(hl:∀r∈rs,r.e.light)(hf:∀r∈rs,r.e.fits)(hs:iw w ad rs):
  Calls prog 174 #[.slice ad rs.length cap] w (bj w<|.bool<|aK<|ai rs):=by
 rcases hs with rfl|⟨b,off,rfl,hb,hr,hok⟩
 ·go_enter func174,ntmps174;go_wp2_with fail;go_ret;exact⟨rfl,WL _ _⟩
 exact BI b off cap rs w hlen hl hf hb hr hok
set_option maxRecDepth 100000 in
def Ga(ad:Q02)(cap:Nat)(rs:Q06)(w:af)(hlen:rs.length<=6)(hs:jX w ad rs)(hl:∀r∈rs,r.light)(hrl:∀r∈rs,r.rows.length<=6)(hel:∀r∈rs,∀q∈r.rows,q.rows.length<=15/\∀e∈q.rows,fF q.rows.length e.e.kids)(hF:Found<|ae rs):
    Calls prog 144 #[.slice ad rs.length cap] w fun e w'=>((∃Yh cap' out,e=.returned (.tuple #[.slice Yh out.length cap',.bool true])/\UK w' Yh out/\mQ out=ay (ae rs)/\Least (ae rs) (jw out))\/(e=.returned (.tuple #[.slice none 0 0,.bool false])/\¬ ∃f,Sol (ae rs) f))/\ag w w':=by
  have HS:=aB hs;have HL:=aB hl;have HRL:O (∀r∈rs,r.rows.length<=6):=hrl;have ZC:O (∀r∈rs,∀q∈r.rows,q.rows.length<=15/\∀e∈q.rows,fF q.rows.length e.e.kids):=hel;have HF:=aB hF;clear hs hl hrl hel hF;obtain⟨i0,hi,hz0,hz1,hz2⟩:=info_parts Ti;go_enter func144,ntmps144;have hbA:O (ag w<|w.alloc<|.cells #[] 212):=(WL _ _).alloc (WK _) _;have hown1:O ((w.alloc<|.cells #[] 212).ownsRow w.heap.size 212 3 (.slice (some<|a7 w) 0 0) 0 []):=World.ownsRow_made w #[] 0 (WK _) cv rfl;go_wp2_with fail;go_loopw[4,5] (fun v i wr=>∃k:Nat,k<=rs.length/\i=.int .i64 k/\O (cD w wr 212 3 v (dI rs k).length<|ji<|Hm<|dI rs k)/\O (ag w wr)) (fun _ i _=>rs.length-(intOf i).toNat);case atStart=>exact⟨0,WO _,rfl,hown1,hbA⟩
  clear hown1 hbA;obtain⟨k,hk,rfl,HOW,HB⟩:=hrel;by_cases hlt:k<rs.length
  · have hk1:=bY k;have hk2:(k:Int)<(rs.length:Int):=cq
    have HU:O ((dI rs k).length<=k*6):=xX rs HRL k;have Za:O (rs[k].rows.length<=6):=HRL _<|WH hlt;obtain⟨wo,hwo⟩:=eQx wr;subst hwo;go_wp2_with fail;go_loopw[4,6] (fun v i w2=>∃j:Nat,j<=rs[k].rows.length/\i=.int .i64 j/\O (cD w w2 212 3 v (dI rs k++jy rs[k] j).length<|ji<|Hm<|dI rs k++jy rs[k] j)/\O (ag w w2)) (fun _ i _=>rs[k].rows.length-(intOf i).toNat);case atStart=>exact⟨0,WO _,rfl,(by simpa[jy] using HOW),HB⟩
    obtain⟨j,hj,rfl,Yk,HB2⟩:=hrel;rcases HS.out.below HB2.out with rfl|⟨b,off,rfl,hb,hr,hok⟩
    · simp at hlt
    have hbw:cU b w:=by
      rcases HS.out with h|⟨b',off',e,hb',-⟩
      · rw[h]at hlt;simp at hlt
      · injection e with e;injection e with e1 e2;omega
    obtain⟨t0,t1⟩:=hr k hlt;have Yn:O (rs[k].ok _):=hok rs[k]<|WH hlt;have HOKW:O (rs[k].ok w):=HS.mem<|WH hlt;clear hr hok;by_cases hjl:j<rs[k].rows.length
    · rcases Yn.out with hnil|⟨b2,X7,had,hb2,hr2,-⟩
      · rw[hnil]at hjl;simp at hjl
      have hbw2:cU b2 w:=by
        rcases HOKW.out with h|⟨b',off',e,hb',-⟩
        · rw[h]at hjl;simp at hjl
        · rw[had]at e;injection e with e;injection e with e1 e2;omega
      have t1':=t1;rw[had]at t1';obtain⟨q0,q1⟩:=hr2 j hjl;have hj1:=bY j;have hj2:(j:Int)<(rs[k].rows.length:Int):=cq;have a1:u4.ownBlock≠some b:=fun e=>by have:=(Yk.lt _ e).1;omega
      have a2:u4.ownBlock≠some b2:=fun e=>by have:=(Yk.lt _ e).1;omega
      have l4:cV w wr:=HB2.size;obtain⟨xs,hxs⟩:=eQx<|ji<|Hm<|dI rs k++jy rs[k] j;obtain⟨n,hn⟩:=eQx<|(dI rs k++jy rs[k] j).length;have hown:=Yk.out;rw[<-hxs,<-hn]at hown;have hnl:n<=1000:=by
        have h1:=HU.out;have h2:=D8 rs[k] j;have h3:=Za.out;rw[hn,WP];omega
      have HFX:O (ji (Hm<|dI rs k++jy rs[k] (j+1))=xs++[.string rs[k].name,.string rs[k].rows[j].name,.int .i64 0]):=by
        show _=_;rw[uQ _ _ hjl,<-Xg,Qi,AZ,<-hxs];rfl
      have HNN:O ((dI rs k++jy rs[k] (j+1)).length=n+1):=by show _=_;rw[uQ _ _ hjl,<-Xg,WP,<-hn];rfl
      clear hr2 had t1 hxs hn Yk;go_wp2_with fail
      go_region_held3 (fun w'=>w'.cell? (aq b<|off+k*2)=some (.string rs[k].name)/\w'.cell? (aq b<|off+k*2+1)=some (.slice (some<|aq b2 X7) rs[k].rows.length rs[k].cap)/\w'.cell? (aq b2<|X7+j*2)=some (.string rs[k].rows[j].name))
        (first
          | go_keep
          | (go_split_ands
             refine⟨?_,?_,?_⟩
             · (rw[hgrow.cell_far _ (by simp;omega) (Ne.symm a1)];assumption)
             · (rw[hgrow.cell_far _ (by simp;omega) (Ne.symm a1)];assumption)
             · (rw[hgrow.cell_far _ (by simp;omega) (Ne.symm a2)];assumption)))
        ((refine step_append_lies _ (by rfl) _ _ _ (by rfl) w.heap.size 212 i0 _ 3 40 underlying208 hi hz0 hz1 hz2 rfl cq u4 n xs (by rfl) ((hown.alloc _).drew)
            ⟨wr.heap.size,0,none⟩ 1 1 [.string rs[k].name,.string rs[k].rows[j].name,.int .i64 0] (by rfl) (by rfl) (World.news_of_block (cs:=#[.string rs[k].name,.string rs[k].rows[j].name,.int .i64 0]) (t:=212) (fr:=(0,0))<|heap_alloc_new wr _) (by simp[Value.oneCell'])
            cq cy cq (by simp;omega) (wr.heap.size+1) ct ?_;intro gg cp w5 hown5 hgrow hat hlt5))
      have hb5:O (ag w w5):=((HB2.alloc HB2.size _).drew).grown hgrow (by simp;omega) (fun i hi=>(hown.lt i hi).1);have Yi:O (cD w w5 212 3 (.slice (some<|am gg) (n+1) cp) (dI rs k++jy rs[k] (j+1)).length<|ji<|Hm<|dI rs k++jy rs[k] (j+1)):=by
        show World.ownsRow _ _ _ _ _ _ _;rw[HFX,HNN];exact hown5
      have h6:=Za.out;clear hown5 hgrow hat hown;go_wp2;go_roundw;case rel=>exact⟨j+1,cq,cx,Yi,hb5⟩
      simp[intOf]<;>omega
    · obtain rfl:j=rs[k].rows.length:=cq
      have Yi:O (cD w wr 212 3 u4 (dI rs<|k+1).length<|ji<|Hm<|dI rs<|k+1):=by
        show World.ownsRow _ _ _ _ _ _ _;rw[qh _ _ hlt];exact Yk
      clear Yk;go_wp2;go_roundw;case rel=>exact⟨k+1,cq,cx,Yi,HB2⟩
      simp[intOf]<;>omega
  · obtain rfl:k=rs.length:=cq
    have HE0:O (dI rs rs.length=ay (ae rs)):=by show _=_;unfold dI;rw[Xa]
    have HN36:O ((ay<|ae rs).length<=36):=by
      have h1:=xX rs HRL rs.length;have h2:=HE0.out;show _<=_;rw[<-h2];omega
    obtain⟨n,hn⟩:=eQx<|(ay<|ae rs).length;have hown:=HOW.out;rw[HE0,<-FO]at hown;obtain⟨Zn,cpO,g,rfl,hrow⟩:=Tn HB hown;have HP0:O (Pass (ae rs) n true<|Hm<|ay<|ae rs):=Pass.zero hn;have Y7:=aB hrow;have hn36:n<=36:=by rw[hn];exact HN36
    have HNN:O (n=(ay<|ae rs).length):=hn;rw[FO,<-hn];clear hown HOW hrow hn HE0 HN36 HB;go_wp2_with fail;go_loopw[7] (fun m w1=>∃(mb:Bool) (out:List St),m=.bool mb/\O (Pass (ae rs) n mb out)/\O (RowS w w1 Zn g out)) (fun m w1=>Ea w1 g n m);case atStart=>exact⟨true,_,rfl,HP0,Y7⟩
    clear HP0 Y7;obtain⟨mb,oS,rfl,ZP,HRS⟩:=hrel;cases mb;case false=>
      go_wp2;exact bodyPost_ret (v:=.tuple #[.slice Zn n cpO,.bool true]) (by simp[results,Tryz.results144,go_sem]) rfl ⟨.inl ⟨Zn,cpO,oS,by rw[ZP.len],HRS.slN,ZP.round.keys,ZP.least⟩,HRS.below⟩
    have HSL:O (oS.length=n):=ZP.len;have HM0:O (Mid (ae rs) n oS 0 0 false oS):=Mid.start ZP.len ZP.nn ZP.round ZP.le;obtain⟨w0,hw0⟩:=eQx wr;subst hw0;go_wp2_with fail;go_loopw[7,8] (fun m i w1=>∃(mb:Bool) (k:Nat) (out:List St),m=.bool mb/\k<=n/\i=.int .i64 k/\O (Mid (ae rs) n oS k 0 mb out)/\O (RowS w w1 Zn g out)) (fun _ i _=>n-(intOf i).toNat);case atStart=>exact⟨false,0,oS,rfl,WO _,rfl,HM0,HRS⟩
    clear HM0;obtain⟨mb,k,out,rfl,hk,rfl,HM,HR⟩:=hrel;by_cases hlt:k<n
    · have hko:k<out.length:=by rw[HM.len];exact hlt
      have hke:k<(ay<|ae rs).length:=by rw[<-HNN];exact hlt
      have hk1:=bY k;have hk2:(k:Int)<(n:Int):=cq;rcases HR.out.at' with e|⟨rfl,hgw,hgl,hO,-⟩
      · rw[e]at hko;simp at hko
      obtain⟨c0,c1,c2⟩:=hO k hko;have HKE:O (out[k].key=(ay<|ae rs)[k]):=HM.key hko hke;have Yg:∀w',ag wr w'->jX w' ad rs:=fun w' h=>HS.below<|HR.below.trans<|h.mono HR.below.size;have c3:wr.drew.cell? (aq g<|k*3)=some (.string out[k].typ)/\wr.drew.cell? (aq g<|k*3+1)=some (.string out[k].rel)/\g<wr.drew.heap.size/\ag wr wr.drew:=⟨c0,c1,hgl,(WL _ _).drew⟩;clear hO c2;go_wp2_with fail
      go_region_held3 (fun w'=>w'.cell? (aq g<|k*3)=some (.string out[k].typ)/\w'.cell? (aq g<|k*3+1)=some (.string out[k].rel)/\g<w'.heap.size/\ag wr w')
        (first|exact c3|assumption|exact keepD cE hbx)
        (first|(go_at_call 101;refine(jM ad cap rs _ _ _ cq (Yg _<|by first|assumption|exact c3.2.2.2) HL).mono ?_;rintro e w' ⟨⟨rows,X9,capE,rfl,hex,hse,hfs⟩,rfl⟩)|(go_at_call 218;refine(Ke ad X9 cap capE rs _ rows _ cq (Yg _<|by first|assumption|exact c3.2.2.2) HL (hfs.small ZC).1 hse (hfs.light HL).2 (hfs.small ZC).2 (Be rs HL _ rows (hfs.small ZC).1 (hfs.light HL).2)).mono ?_;rintro e w' ⟨⟨v,rfl,hown⟩,hbx⟩))
      rename_i hHeld;have Yo:O (ag wr w'):=hHeld.2.2.2;have Yz:O (RowS w w' (some<|am g) g out):=HR.kept hHeld.2.2.2;have HDK:O (qR (ae rs) out[k].typ (ai rows)=iW (ae rs) (ay<|ae rs)[k]):=by
        show _=_;rw[<-HKE,hex];rfl
      obtain⟨ds,hds⟩:=eQx<|iW (ae rs) (ay<|ae rs)[k];rw[HDK,<-hds]at hown;obtain⟨adD,cpD,rfl,hD⟩:=VT hown;have HD5:=aB hD;have hdl:ds.length<=100000000:=by
        have:=Be rs HL out[k].typ rows (hfs.small ZC).1 (hfs.light HL).2 (ai rows).length;have e:=HDK.out;unfold qR at e;rw[e,<-hds]at this;exact this
      have HDS:O (ds=iW (ae rs) (ay<|ae rs)[k]):=hds;have HKM:O ((ay<|ae rs)[k]∈ay (ae rs)):=WH hke;clear hHeld hown hD hds HDK c0 c1 c3 hex hse hfs hbx Yg HKE;obtain⟨wq,hwq⟩:=eQx wr;subst hwq;go_wp2_with fail;go_loopw[7,10] (fun m i w2=>∃(mb:Bool) (j:Nat) (o2:List St),m=.bool mb/\j<=ds.length/\i=.int .i64 j/\O (Mid (ae rs) n oS k j mb o2)/\O (RowS w w2 (some<|am g) g o2)/\O (UL w2 wq.heap.size adD ds)) (fun _ i _=>ds.length-(intOf i).toNat);case atStart=>exact⟨mb,0,out,rfl,WO _,rfl,HM,Yz,HD5⟩
      clear HM HR Yz HD5 Yo;obtain⟨mc,j,o2,rfl,hj,rfl,YQ,HR2,HD2⟩:=hrel;have Zg:k<o2.length:=by rw[YQ.len];exact hlt
      rcases HR2.out.at' with e|⟨-,hgw2,hgl2,hO2,hfz2⟩
      · rw[e]at Zg;simp at Zg
      have f2:=hfz2<|k*3+2;obtain⟨z0,z1,z2⟩:=hO2 k Zg;by_cases hjl:j<ds.length
      · rcases HD2.out with e|⟨bd,rfl,hbd,hbl,hDc⟩
        · rw[e]at hjl;simp at hjl
        obtain⟨x0,x1,x2⟩:=hDc j hjl;have HKE2:O (o2[k].key=(ay<|ae rs)[k]):=YQ.key Zg hke;have HDJ:O ((iW (ae rs) o2[k].key)[j]?=some ds[j]):=by
          show _=_;rw[HKE2,<-HDS];exact WS hjl
        have HDF:O ((ds[j].typ,ds[j].rel)∈ay (ae rs)):=HF _ HKM ds[j] (by rw[<-HDS];exact WH hjl);obtain⟨i,hi2,hat,hin,hpos,hub⟩:=YQ.at _ HDF;obtain⟨y0,y1,y2⟩:=hO2 i hi2;have hi3:i<n:=by rw[<-YQ.len];exact hi2
        have HW:O (qj o2 ds[j]=jw o2 (ds[j].typ,ds[j].rel)+stepOf ds[j]):=rfl;have HL2:O (o2.length=n):=YQ.len;have HSN:O (UK wr (some<|am g) o2):=HR2.slN;rw[hin]at y2;obtain⟨x,hx⟩:=eQx<|jw o2 (ds[j].typ,ds[j].rel);have HX:O (qj o2 ds[j]=x+stepOf ds[j]):=by rw[hx];exact HW
        rw[<-hx]at hpos hub y2;obtain⟨kn,hkn⟩:=eQx<|o2[k].n;rw[<-hkn]at z2;have HKN:O (kn=o2[k].n):=hkn;have hkn1:0<=kn:=by rw[hkn];exact YQ.round.pos _<|WH Zg
        have hkn2:kn<=n+1+j:=by rw[hkn];exact YQ.lek Zg
        have hj1:=bY j;have hj2:(j:Int)<(ds.length:Int):=cq;have hi4:=bY i;have hi5:(i:Int)<(n:Int):=cq;have HAT:O (iy ds[j].typ ds[j].rel o2 0=(i:Int)):=hat;have hx5:(2:Int)<5:=cq;clear hfz2 hO2 hDc hx hkn hin y0 y1 hi2 HW hat z0 z1;go_wp2_with fail
        go_region_held3 (fun w'=>w'.cell? (aq bd<|j*3)=some (.string ds[j].typ)/\w'.cell? (aq bd<|j*3+1)=some (.string ds[j].rel)/\w'.cell? (aq g<|i*3+2)=some (.int .i64 x))
          (first|assumption|exact⟨x0,x1,y2⟩)
          (first|(go_at_call 219;refine(Vd (some<|am g) cpO n o2 (ds[j].typ,ds[j].rel) _ HL2 cq (by first|exact HSN|assumption) i HAT).mono ?_;rintro e w' ⟨rfl,rfl⟩))
        rename_i hHeld2;have HR3:O (RowS w wr.drew (some<|am g) g o2):=HR2.kept<|(WL _ _).drew;have HD3:O (UL wr.drew wq.heap.size (some<|am bd) ds):=HD2;clear hHeld2 x0 x1 y2;cases hneg:ds[j].neg
        case' true =>
          have HX2:O (qj o2 ds[j]=x+1):=by show _=_;rw[HX];simp[stepOf,hneg]
          rw[hneg]at x2;by_cases hgt:kn<x+1
          · have HM3:O (Mid (ae rs) n oS k (j+1) true<|o2.set k ⟨o2[k].typ,o2[k].rel,x+1⟩):=by
              have:=YQ.yes HF Zg ds[j] HDJ (by rw[HX2,<-HKN];exact hgt);rw[HX2]at this;exact this
            have HR4:O (RowS w (wr.drew.setCell (aq g<|k*3+2)<|.int .i64<|x+1) (some<|am g) g<|o2.set k ⟨o2[k].typ,o2[k].rel,x+1⟩):=HR3.set Zg<|x+1;have HD4:O (UL (wr.drew.setCell (aq g<|k*3+2)<|.int .i64<|x+1) wq.heap.size (some<|am bd) ds):=HD3.set hgl;clear YQ HR2 HR3 HD2 HD3;go_wp2;go_roundw;case rel=>exact⟨true,j+1,_,rfl,cq,cx,HM3,HR4,HD4⟩
            simp[intOf]<;>omega
        case' false =>
          have HX2:O (qj o2 ds[j]=x):=by show _=_;rw[HX];simp[stepOf,hneg]
          rw[hneg]at x2;by_cases hgt:kn<x
          · have HM3:O (Mid (ae rs) n oS k (j+1) true<|o2.set k ⟨o2[k].typ,o2[k].rel,x⟩):=by
              have:=YQ.yes HF Zg ds[j] HDJ (by rw[HX2,<-HKN];exact hgt);rw[HX2]at this;exact this
            have HR4:O (RowS w (wr.drew.setCell (aq g<|k*3+2)<|.int .i64<|x) (some<|am g) g<|o2.set k ⟨o2[k].typ,o2[k].rel,x⟩):=HR3.set Zg<|x;have HD4:O (UL (wr.drew.setCell (aq g<|k*3+2)<|.int .i64<|x) wq.heap.size (some<|am bd) ds):=HD3.set hgl;clear YQ HR2 HR3 HD2 HD3;go_wp2;go_roundw;case rel=>exact⟨true,j+1,_,rfl,cq,cx,HM3,HR4,HD4⟩
            simp[intOf]<;>omega
        all_goals
          · have HM3:O (Mid (ae rs) n oS k (j+1) mc o2):=YQ.no Zg ds[j] HDJ (by rw[HX2,<-HKN];omega);clear YQ HR2 HD2;go_wp2;go_roundw;case rel=>exact⟨mc,j+1,o2,rfl,cq,cx,HM3,HR3,HD3⟩
            simp[intOf]<;>omega
      · obtain rfl:j=ds.length:=cq
        have HKE2:O (o2[k].key=(ay<|ae rs)[k]):=YQ.key Zg hke;have HJ:O (ds.length=(iW (ae rs) o2[k].key).length):=by show _=_;rw[HKE2,<-HDS]
        clear z0 z1 hO2 hfz2 f2;by_cases hov:(n:Int)<o2[k].n
        · have ZE:O (¬ ∃f,Sol (ae rs) f):=YQ.over HF Zg hov;have hkn2:o2[k].n<=n+1+ds.length:=YQ.lek Zg;go_wp2;exact bodyPost_ret (v:=.tuple #[.slice none 0 0,.bool false]) (by simp[results,Tryz.results144,go_sem]) rfl ⟨.inr ⟨rfl,ZE⟩,HR2.below⟩
        · have HM3:O (Mid (ae rs) n oS (k+1) 0 mc o2):=YQ.next Zg HJ cq;clear YQ;go_wp2;go_roundw;case rel=>exact⟨mc,k+1,o2,rfl,cq,cx,HM3,HR2⟩
          simp[intOf]<;>omega
    · obtain rfl:k=n:=cq
      have Ye:O (Pass (ae rs) k mb out):=HM.done rfl;have HLS:O (Ea wr g k (.bool mb)<Ea w0 g k (.bool true)):=Kh HRS HR HM HSL;go_wp2;go_roundw;case rel=>exact⟨mb,out,rfl,Ye,HR⟩
      exact HLS
def Ey(x y:Al):kY x y=kY y x:=by
 unfold kY;rw[Xe];simp only[WM,beq_iff_eq];exact⟨fun h=>⟨h.1.symm,h.2.symm⟩,fun h=>⟨h.1.symm,h.2.symm⟩⟩
def NZ(ad:Q02)(n cap:Nat)(xs:Q0a)(v:Al)(w:af)(hn:n<=xs.length)(hlen:bh xs)(hs:kV w ad xs):
  Calls prog 221 #[.slice ad n cap,.agg #[.string v.t,.string v.s]] w fun e w'=>(∃r:Int,e=.returned (.int .i64 r)/\decide (0<=r)=dG xs n v)/\ag w w':=by
 obtain⟨W,hW⟩:=eQx<|w.alloc<|.cells #[.string v.t,.string v.s] 216;have HB0:O (ag w W):=by show Below _ _ _;rw[hW];exact(WL w.heap.size w).alloc (WK _) _
 have hz:w.heap.size<W.heap.size:=by rw[hW];simp
 have b0:W.cell? (a7 w)=some (.string v.t):=by rw[hW];simp
 have b1:W.cell? (a8 w 1)=some (.string v.s):=by rw[hW];simp
 have HS:=aB<|hs.below HB0;clear hs;go_enter func221,ntmps221;go_wp2_with fail;rw[<-hW];clear hW;go_loopw[8] (fun i wr=>∃k:Nat,k<=n/\i=.int .i64 k/\O (dG xs k v=false)/\ag W wr) (fun i _=>n-(intOf i).toNat);case atStart=>exact⟨0,WO _,rfl,uK _ _,WL _ _⟩
 obtain⟨k,hk,rfl,HP,hB⟩:=hrel;have a0:=kept hB hz b0;have a1:=kept hB hz b1;by_cases hlt:k<n
 ·have hltx:k<xs.length:=cq;rcases HS.out.below hB with rfl|⟨b,off,rfl,hb,hr⟩
  ·simp at hltx
  obtain⟨t0,t1⟩:=hr k hltx;have hk1:=bY k;have hk2:(k:Int)<(n:Int):=cq;clear hr;cases hq:kY v xs[k];case true=>
   have HE:=F7 v xs[k] hq;have HN:O (dG xs n v=true):=Ev hlt hltx (by rw[Ey];exact hq);go_wp2_with fail;go_quiet (fail);go_wp2;go_ret;exact⟨⟨_,rfl,by rw[HN];simp⟩,HB0.trans<|below_drewN (hB.mono HB0.size) _⟩
  have HE:=F7 v xs[k] hq;have Ye:O (dG xs (k+1) v=false):=by show _=_;rw[uJ _ _ _ hltx,HP,Ey,hq];rfl
  go_wp2_with fail;go_quiet (fail);go_wp2;go_roundw;case rel=>exact⟨k+1,cq,cx,Ye,below_drewN hB _⟩
  simp[intOf]<;>omega
 obtain rfl:k=n:=cq;go_wp2;go_ret;exact⟨⟨-1,rfl,by rw[HP];rfl⟩,HB0.trans<|hB.mono HB0.size⟩
def wN(ad:Q02)(n cap:Nat)(xs:Q0a)(v:Al)(w:af)(hn:n<=xs.length)(hlen:bh xs)(hs:kV w ad xs):
  Calls prog 149 #[.slice ad n cap,.agg #[.string v.t,.string v.s]] w (bj w<|.bool<|dG xs n v):=by
 have HB0:O (ag w<|w.alloc<|.cells #[.string v.t,.string v.s] 216):=(WL w.heap.size w).alloc (WK _) _;have HS:=aB hs;clear hs;go_enter func149,ntmps149;go_wp2_with fail;refine(NZ ad n cap xs v _ hn hlen<|HS.below HB0).mono ?_;rintro e w1 ⟨⟨r,rfl,hr⟩,hb1⟩;have HR:O (decide (0<=r)=dG xs n v):=hr;have HB1:=iD HB0 hb1;clear hr hb1;go_wp2;go_ret;exact⟨ah HR,HB1⟩
set_option maxRecDepth 8000 in
def Gb(r:ER)(w:af)(hf:r.e.fits)(h1:r.e.kind≠1):
  Calls prog 250 #[r.val] w (bj w<|.bool<|ax r.e):=by
 obtain⟨⟨kind,allow,over,name,kids⟩,adA,capA,adK,capK⟩:=r;obtain⟨f1,f2,f3,f4,f5⟩:=hf;simp only at f1 f2 f3 f4 f5 h1;simp only[ER.val];unfold maxLen at f4 f5;by_cases h2:kind=2
 ·subst h2;clear h1;go_enter func250,ntmps250;go_wp2_with fail;go_quiet (fail);go_wp2_with(go_at_call 122;refine(aP _ _ cE).mono ?_;rintro e w' ⟨rfl,rfl⟩)
  all_goals go_ret
  all_goals exact⟨ah<|by first|(simp[ax, *];done)|(simp[ax, *];omega)|(simp[ax, *];rw[Xe];simp;done)|(simp[ax, *];rw[Xe];simp;omega),below_drewN ((WL w.heap.size w).alloc (WK _) _) _⟩
 by_cases h3:kind=3
 ·subst h3;clear h1;go_enter func250,ntmps250;go_wp2_with fail;go_quiet (fail);go_wp2_with(go_at_call 122;refine(aP _ _ cE).mono ?_;rintro e w' ⟨rfl,rfl⟩)
  all_goals go_ret
  all_goals exact⟨ah<|by first|(simp[ax, *];done)|(simp[ax, *];omega)|(simp[ax, *];rw[Xe];simp;done)|(simp[ax, *];rw[Xe];simp;omega),below_drewN ((WL w.heap.size w).alloc (WK _) _) _⟩
 by_cases h4:kind=4
 ·subst h4;clear h1;go_enter func250,ntmps250;go_wp2_with fail;go_quiet (fail);go_wp2_with(go_at_call 122;refine(aP _ _ cE).mono ?_;rintro e w' ⟨rfl,rfl⟩)
  all_goals go_ret
  all_goals exact⟨ah<|by first|(simp[ax, *];done)|(simp[ax, *];omega)|(simp[ax, *];rw[Xe];simp;done)|(simp[ax, *];rw[Xe];simp;omega),below_drewN ((WL w.heap.size w).alloc (WK _) _) _⟩
 by_cases h5:kind=5
 ·subst h5;clear h1;go_enter func250,ntmps250;go_wp2_with fail;go_quiet (fail);go_wp2_with(go_at_call 122;refine(aP _ _ cE).mono ?_;rintro e w' ⟨rfl,rfl⟩)
  all_goals go_ret
  all_goals exact⟨ah<|by first|(simp[ax, *];done)|(simp[ax, *];omega)|(simp[ax, *];rw[Xe];simp;done)|(simp[ax, *];rw[Xe];simp;omega),below_drewN ((WL w.heap.size w).alloc (WK _) _) _⟩
 by_cases h6:kind=6
 ·subst h6;clear h1;go_enter func250,ntmps250;go_wp2_with fail;go_quiet (fail);go_wp2_with(go_at_call 122;refine(aP _ _ cE).mono ?_;rintro e w' ⟨rfl,rfl⟩)
  all_goals go_ret
  all_goals exact⟨ah<|by first|(simp[ax, *];done)|(simp[ax, *];omega)|(simp[ax, *];rw[Xe];simp;done)|(simp[ax, *];rw[Xe];simp;omega),below_drewN ((WL w.heap.size w).alloc (WK _) _) _⟩
 go_enter func250,ntmps250;go_wp2_with fail;go_quiet (fail);go_wp2_with(go_at_call 122;refine(aP _ _ cE).mono ?_;rintro e w' ⟨rfl,rfl⟩)
 all_goals go_ret
 all_goals exact⟨ah<|by first|(simp[ax, *];done)|(simp[ax, *];omega)|(simp[ax, *];rw[Xe];simp;done)|(simp[ax, *];rw[Xe];simp;omega),below_drewN ((WL w.heap.size w).alloc (WK _) _) _⟩
end Go.Proofs.YtojjoblnpldniaaGreat
