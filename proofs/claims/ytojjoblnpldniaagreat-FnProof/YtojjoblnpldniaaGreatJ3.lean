/- Contracts of the document's functions that look at an expression. -/
import Derived.Test.YtojjoblnpldniaaGreatSq
import Derived.Test.YtojjoblnpldniaaGreatJ2
open Go.Proofs.Tryz
set_option maxHeartbeats 80000000
set_option linter.defProp false
namespace Go.Proofs.YtojjoblnpldniaaGreat
open ChangeShapes WideShapes ChangeAt RowKit
open Pl
def QF(n lo hi:Int)(w:ag):
  Calls prog 245 #[.int .i64 n,.int .i64 lo,.int .i64 hi] w (bh w<|.bool<|decide (lo<=n)&&decide (n<=hi)):=by
 go_enter func245,ntmps245;go_wp2
 all_goals go_ret
 all_goals exact⟨aj<|by simp[*]<;>omega,rfl⟩
set_option maxRecDepth 8000 in
def mY(r:ER)(w:ag)(hf:r.e.fits)(h1:r.e.kind≠1):
  Calls prog 244 #[r.val] w (a8 w<|.bool<|aD r.e):=by
 obtain⟨⟨kind,allow,over,name,kids⟩,adA,capA,adK,capK⟩:=r;obtain⟨f1,f2,f3,f4,f5⟩:=hf;simp only at f1 f2 f3 f4 f5 h1;simp only[ER.val];unfold maxLen at f4 f5;by_cases h2:kind=2
 ·subst h2;clear h1;go_enter func244,ntmps244;go_wp2_with(go_at_call 126;refine(aZ _ _ cE).mono ?_;rintro e w' ⟨rfl,rfl⟩)
  all_goals go_ret
  all_goals exact⟨aj<|by first|(simp[aD, *];done)|(simp[aD, *];omega)|(simp[aD, *];rw[X9];simp;done)|(simp[aD, *];rw[X9];simp;omega),(XL w.heap.size w).alloc (XK _) _⟩
 by_cases h3:kind=3
 ·subst h3;clear h1;go_enter func244,ntmps244;go_wp2_with(go_at_call 126;refine(aZ _ _ cE).mono ?_;rintro e w' ⟨rfl,rfl⟩)
  all_goals go_ret
  all_goals exact⟨aj<|by first|(simp[aD, *];done)|(simp[aD, *];omega)|(simp[aD, *];rw[X9];simp;done)|(simp[aD, *];rw[X9];simp;omega),(XL w.heap.size w).alloc (XK _) _⟩
 by_cases h4:kind=4
 ·subst h4;clear h1;go_enter func244,ntmps244;go_wp2_with(go_at_call 126;refine(aZ _ _ cE).mono ?_;rintro e w' ⟨rfl,rfl⟩)
  all_goals go_ret
  all_goals exact⟨aj<|by first|(simp[aD, *];done)|(simp[aD, *];omega)|(simp[aD, *];rw[X9];simp;done)|(simp[aD, *];rw[X9];simp;omega),(XL w.heap.size w).alloc (XK _) _⟩
 by_cases h5:kind=5
 ·subst h5;clear h1;go_enter func244,ntmps244;go_wp2_with(go_at_call 126;refine(aZ _ _ cE).mono ?_;rintro e w' ⟨rfl,rfl⟩)
  all_goals go_ret
  all_goals exact⟨aj<|by first|(simp[aD, *];done)|(simp[aD, *];omega)|(simp[aD, *];rw[X9];simp;done)|(simp[aD, *];rw[X9];simp;omega),(XL w.heap.size w).alloc (XK _) _⟩
 by_cases h6:kind=6
 ·subst h6;clear h1;go_enter func244,ntmps244;go_wp2_with(go_at_call 126;refine(aZ _ _ cE).mono ?_;rintro e w' ⟨rfl,rfl⟩)
  all_goals go_ret
  all_goals exact⟨aj<|by first|(simp[aD, *];done)|(simp[aD, *];omega)|(simp[aD, *];rw[X9];simp;done)|(simp[aD, *];rw[X9];simp;omega),(XL w.heap.size w).alloc (XK _) _⟩
 go_enter func244,ntmps244;go_wp2_with(go_at_call 126;refine(aZ _ _ cE).mono ?_;rintro e w' ⟨rfl,rfl⟩)
 all_goals go_ret
 all_goals exact⟨aj<|by first|(simp[aD, *];done)|(simp[aD, *];omega)|(simp[aD, *];rw[X9];simp;done)|(simp[aD, *];rw[X9];simp;omega),(XL w.heap.size w).alloc (XK _) _⟩
def Gf(x y:Al){v:Bool}(h:kN x y=v)(w:ag):
  (binOp .eql 216 (.agg #[.string x.t,.string x.s])<|.agg #[.string y.t,.string y.s]).run prog w=.ok (.bool v) w:=by
 subst h;go_simp;unfold kN;by_cases h1:x.t.toList=y.t.toList<;>by_cases h2:x.s.toList=y.s.toList<;>simp[h1,h2]
def EK{xs:Q0a}{j k:Nat}{a:Al}(hjk:j<k)(hj:j<xs.length)(h:kN xs[j] a=true):dR xs k a=true:=by
 unfold dR;rw[Yq];refine⟨xs[j],?_,h⟩;rw[List.mem_take_iff_getElem];exact⟨j,cq,rfl⟩
set_option maxRecDepth 8000 in
def DT(r:ER)(w:ag)(hf:r.e.fits)(hok:r.ok w)(h1:r.e.kind=1):
  Calls prog 244 #[r.val] w (a8 w<|.bool<|aD r.e):=by
 obtain⟨⟨kind,allow,over,name,kids⟩,adA,capA,adK,capK⟩:=r;obtain⟨f1,f2,f3,f4,f5⟩:=hf;obtain⟨hA,hK⟩:=hok;simp only at f1 f2 f3 f4 f5 h1 hA hK;subst h1;simp only[ER.val];unfold maxLen at f4 f5;by_cases hl:1<=allow.length/\allow.length<=6
 ·obtain⟨hl1,hl2⟩:=hl;obtain⟨W,hW⟩:=eQx<|w.alloc<|.cells #[.int .i64 1,.slice adA allow.length capA,.string over,.string name,.slice adK kids.length capK] 43;have HB0:O (ae w W):=by show Below _ _ _;rw[hW];exact(XL w.heap.size w).alloc (XK _) _
  have hz:w.heap.size<W.heap.size:=by rw[hW];simp
  have b1:W.cell? (a6 w 1)=some (.slice adA allow.length capA):=by rw[hW];simp
  have b2:W.cell? (a6 w 2)=some (.string over):=by rw[hW];simp
  have b3:W.cell? (a6 w 3)=some (.string name):=by rw[hW];simp
  have HA:=aK<|hA.below HB0;have Z8:=aK f1;clear hA hK f1;go_enter func244,ntmps244;go_wp2_with fail;rw[<-hW];clear hW;go_loopw[4] (fun i wr=>∃k:Nat,k<=allow.length/\i=.int .i64 k/\O (Gb allow k=true)/\ae W wr) (fun i _=>allow.length-(intOf i).toNat);case atStart=>exact⟨0,XP _,rfl,rfl,XL _ _⟩
  obtain⟨k,hk,rfl,HU,hB⟩:=hrel;have a1:=kept hB hz b1;have a2:=kept hB hz b2;have a3:=kept hB hz b3;by_cases hlt:k<allow.length
  ·rcases HA.out.below hB with rfl|⟨b,off,rfl,hb,hr⟩
   ·simp at hlt
   obtain⟨t0,t1⟩:=hr k hlt;obtain⟨z0,z1⟩:=Z8 allow[k]<|XI hlt;have HR:O (∀(i:Nat) (h:i<allow.length),Vy wr b (off+i*2) allow[i]):=hr;clear hr;obtain⟨W1,hW1⟩:=eQx<|wr.alloc<|.cells #[.string allow[k].t,.string allow[k].s] 216;have hal:ae wr W1:=by rw[hW1];exact(XL _ _).alloc (XK _) _
   have hBW1:Below W.heap.size wr W1:=hal.mono hB.size;have hsz:cX w wr:=XJ hz hB.size;have hWs:cY W W1:=XR hB.size hal.size;have c1:=kept hal hsz a1;have c2:=kept hal hsz a2;have c3:=kept hal hsz a3;have hbl:cW b W1:=XJ hb hal.size;have hgl:wr.heap.size<W1.heap.size:=by rw[hW1];simp
   have g0:W1.cell? (aE wr)=some (.string allow[k].t):=by rw[hW1];simp
   have g1:W1.cell? (a6 wr 1)=some (.string allow[k].s):=by rw[hW1];simp
   have HR1:O (∀(i:Nat) (h:i<allow.length),Vy W1 b (off+i*2) allow[i]):=fun i hi=>(HR i hi).same fun o=>hal.cell (p:=⟨b,o,none⟩) hb;cases hn:aW allow[k].t;case false=>
    have HN:O (Gb allow allow.length=false):=qd allow k hlt (by simp[Ic,hn]) _ hlt;go_wp2_with(go_at_call 126;refine(aZ _ _ cE).mono ?_;rintro e w' ⟨rfl,rfl⟩);go_ret;exact⟨aj<|by simp[aD,fo,HN.out],HB0.trans<|(hB.trans<|(XL _ _).alloc hB.size _).mono HB0.size⟩
   cases he:allow[k].s.toList.isEmpty
   case' true =>
    have HAl:O (Ic allow[k]=true):=by show _=_;simp[Ic,wy,hn,he]
    go_wp2_with(go_at_call 126;refine(aZ _ _ cE).mono ?_;rintro e w' ⟨rfl,rfl⟩);rw[<-hW1]
   case' false =>
    cases hm:aW allow[k].s;case false =>
     have HN:O (Gb allow allow.length=false):=qd allow k hlt (by simp[Ic,hn,wy,he,hm]) _ hlt;go_wp2_with(go_at_call 126;refine(aZ _ _ cE).mono ?_;rintro e w' ⟨rfl,rfl⟩);go_ret;exact⟨aj<|by simp[aD,fo,HN.out],HB0.trans<|(hB.trans<|(XL _ _).alloc hB.size _).mono HB0.size⟩
    have HAl:O (Ic allow[k]=true):=by show _=_;simp[Ic,wy,hn,he,hm]
    go_wp2_with(go_at_call 126;refine(aZ _ _ cE).mono ?_;rintro e w' ⟨rfl,rfl⟩);rw[<-hW1]
   all_goals
    go_loopw[6] (fun i w2=>∃j:Nat,j<=k/\i=.int .i64 j/\O (dR allow j allow[k]=false)/\ae W1 w2) (fun i _=>k-(intOf i).toNat);case atStart=>exact⟨0,XP _,rfl,uY _ _,XL _ _⟩
    obtain⟨j,hj,rfl,HP,hB2⟩:=hrel;rename_i w2 _;have d1:=kept hB2 cq c1;have d2:=kept hB2 cq c2;have d3:=kept hB2 cq c3;have p0:=kept hB2 hgl g0;have p1:=kept hB2 hgl g1;by_cases hjk:j<k
    ·obtain⟨q0,q1⟩:=(HR1 j cq).same fun o=>hB2.cell (p:=⟨b,o,none⟩) hbl;have hj1:=bG j;have hj2:(j:Int)<(allow.length:Int):=cq
     cases hq:kN allow[j] allow[k];case true=>
      have HE:=Gf allow[j] allow[k] hq;have HN:O (Gb allow allow.length=false):=qd allow k hlt (by rw[(EK hjk cq hq)];simp) _ hlt;go_wp2_with fail;go_quiet (fail);go_wp2;go_ret;exact⟨aj<|by simp[aD,fo,HN.out],HB0.trans<|(hB.trans<|hBW1.trans<|hB2.mono cq).mono HB0.size |> fun h=>below_drewN h _⟩
     have HE:=Gf allow[j] allow[k] hq;have Zc:O (dR allow (j+1) allow[k]=false):=by show _=_;rw[uX _ _ _ cq,HP,hq];rfl
     go_wp2_with fail;go_quiet (fail);go_wp2;go_roundw;case rel=>exact⟨j+1,cq,cx,Zc,below_drewN hB2 _⟩
     simp[intOf];omega
    obtain rfl:j=k:=cq;have HU2:O (Gb allow (j+1)=true):=by show _=_;rw[Be _ _ hlt,HU,HAl,HP];rfl
    go_wp2;go_roundw;case rel=>exact⟨j+1,cq,cx,HU2,hB.trans<|hBW1.trans<|hB2.mono cq⟩
    simp[intOf];omega
  obtain rfl:k=allow.length:=cq;have HAW:O (fo allow=true):=by show _=_;simp[fo,hl1,hl2,HU.out]
  go_wp2
  all_goals go_ret
  all_goals exact⟨aj<|by first|(simp[aD,HAW.out, *];done)|(simp[aD,HAW.out, *];rw[X9];simp;done),HB0.trans<|hB.mono HB0.size⟩
 go_enter func244,ntmps244;go_wp2_with fail
 all_goals go_ret
 all_goals exact⟨aj<|by simp[aD,fo];omega,(XL w.heap.size w).alloc (XK _) _⟩
def Gg(r:ER)(w:ag)(hf:r.e.fits)(hok:r.ok w):
  Calls prog 244 #[r.val] w (a8 w<|.bool<|aD r.e):=by
 by_cases h:r.e.kind=1
 ·exact DT r w hf hok h
 exact mY r w hf h
def qi(rs:Q08)(n:Nat)(h:n<rs.length):dx (au rs) n=rs[n].e.kids:=by simp[dx,au,h]
def Kt(b off cap:Nat)(rs:Q08)(hlen:a7 rs)(hl:∀r∈rs,r.e.light)(n:Nat):∀(w:ag),n<rs.length->b<w.heap.size->(∀(i:Nat) (h:i<rs.length),zY w b (off+i*5) rs[i])->(∀r∈rs,r.ok w) ->
  Calls prog 246 #[.slice (some<|ap b off) rs.length cap,.int .i64 (n:Int)] w (a8 w<|.int .i64<|aC (au rs) n):=by
 induction n using Nat.strongRecOn with
 | ind n ih =>
  intro w hn hb hr hok
  have IH:O (∀ m,m<n->∀ (w:World),m<rs.length->b<w.heap.size->(∀ (i:Nat) (h:i<rs.length),zY w b (off+i*5) rs[i])->(∀ r∈rs,r.ok w) ->
   Calls prog 246 #[.slice (some<|ap b off) rs.length cap,.int .i64 (m:Int)] w (a8 w<|.int .i64<|aC (au rs) m)):=ih
  have HR:O (∀(i:Nat) (h:i<rs.length),zY w b (off+i*5) rs[i]):=hr;have HO:=aK hok;obtain⟨t0,t1,t2,t3,t4⟩:=hr n hn;obtain⟨l1,l2⟩:=hl rs[n]<|XI hn;have hn1:=bG n;have hn2:(n:Int)<(rs.length:Int):=cq;have HT:O (aC (au rs) n=dF (dJ (au rs) n) rs[n].e.kids.reverse ((n:Int)-1)):=by show _=_;rw[jK,qi rs n hn]
  have HL:=aK hl;clear ih hr hok hl l1;go_enter func246,ntmps246;go_wp2_with fail;go_loopw[5,6] (fun a i wr=>∃(j:Nat) (x:Int),j<=rs[n].e.kids.length/\i=.int .i64 ((j:Int)-1)/\a=.int .i64 x∧-1<=x/\x<n/\O (dF (dJ (au rs) n) (rs[n].e.kids.take j).reverse x=aC (au rs) n)/\ae w wr) (fun _ i _=>(intOf i+1).toNat);case atStart=>exact⟨rs[n].e.kids.length,(n:Int)-1,XK _,rfl,rfl,cq,cq,(by show _=_;rw[X8];exact HT.symm),XL _ _⟩
  obtain⟨j,x,hj,rfl,rfl,hx0,hx1,HG,hB⟩:=hrel;have s4:=kept hB hb t4;by_cases hj0:0<j
  ·obtain⟨j,rfl⟩:∃i,j=i+1:=⟨j-1,cq⟩;have hjl:j<rs[n].e.kids.length:=cq;rcases (HO.out rs[n]<|XI hn).2.below hB with hnil|⟨bk,offk,hadk,hbk,hrk⟩
   ·rw[hnil]at hjl;simp at hjl
   rw[hadk]at s4;have k0:=hrk j hjl;clear hrk;have hji:((j+1:Nat):Int)-1=(j:Int):=cq;have hj1:=bG j;have hj2:(j:Int)<(rs[n].e.kids.length:Int):=cq;have HG2:O ((if x<0\/rs[n].e.kids[j]≠x then -1 else if dJ (au rs) n x<0 then -1 else dF (dJ (au rs) n) (rs[n].e.kids.take j).reverse (dJ (au rs) n x-1))=aC (au rs) n):=by
    have:=HG.out;rw[XM hjl,List.reverse_append]at this;exact this
   rw[hji];clear HG hadk t0 t1 t2 t3 t4;by_cases hxn:x<0
   ·have HT1:O (aC (au rs) n=-1):=by show _=_;rw[<-HG2,if_pos<|Or.inl hxn]
    go_wp2;go_ret;exact⟨by rw[HT1];rfl,hB⟩
   by_cases hkx:rs[n].e.kids[j]=x
   ·obtain⟨m,rfl⟩:∃m:Nat,x=(m:Int):=⟨x.toNat,cq⟩;have hF:dJ (au rs) n (m:Int)=aC (au rs) m:=by unfold dJ;rw[if_pos ⟨cq,by simp;omega⟩];simp
    have HF:O (dJ (au rs) n (m:Int)=aC (au rs) m):=hF;have hle:=gJ (au rs) m;clear hF;go_wp2_with fail;refine(IH m cq _ cq (XJ hb hB.size) (fun i hi=>(HR i hi).same fun o=>hB.cell (p:=⟨b,o,none⟩) hb) (fun r hr=>(HO r hr).below hB)).mono ?_;rintro e w1 ⟨rfl,hb1⟩;have hB1:ae w w1:=hB.trans<|hb1.mono hB.size;clear hb1;by_cases hneg:aC (au rs) m<0
    ·have HT1:O (aC (au rs) n=-1):=by show _=_;rw[<-HG2,if_neg cq,HF,if_pos hneg]
     go_wp2;go_ret;exact⟨by rw[HT1];rfl,hB1⟩
    have HG3:O (dF (dJ (au rs) n) (rs[n].e.kids.take j).reverse (aC (au rs) m-1)=aC (au rs) n):=by
     show _=_;rw[<-HG2,if_neg cq,HF,if_neg hneg]
    go_wp2;go_roundw;case rel=>exact⟨j,aC (au rs) m-1,cq,cx,rfl,cq,cq,HG3,hB1⟩
    simp[intOf]<;>omega
   have HT1:O (aC (au rs) n=-1):=by show _=_;rw[<-HG2,if_pos<|Or.inr hkx]
   go_wp2;go_ret;exact⟨by rw[HT1];rfl,hB⟩
  obtain rfl:j=0:=cq;have HT1:O (aC (au rs) n=x+1):=by show _=_;have:=HG.out;simp[dF]at this;exact this.symm
  clear HG t0 t1 t2 t3 t4;go_wp2;go_ret;exact⟨by rw[HT1];rfl,hB⟩
def zY.later{w w':ag}{b off:Nat}{r:ER}(h:zY w b off r)(hb:cW b w)(hB:ae w w'):zY w' b off r:=h.same fun o=>hB.cell (p:=⟨b,o,none⟩) hb
def EL{es:Q09}(h:¬(1<=es.length/\es.length<=15)):aS es=false:=by
 unfold aS;by_cases h1:1<=es.length
 ·have h2:¬es.length<=15:=fun h2=>h ⟨h1,h2⟩;simp[h2]
 simp[h1]
def Ku{es:Q09}(k:Nat)(h:k<es.length)(hb:aD es[k]=false):aS es=false:=by simp[aS,Ev es k h hb]
def Kv{es:Q09}(k:Nat)(h:k<es.length)(hb:lY es k=false):aS es=false:=by simp[aS,Qi es k h hb]
def qj(zs:List Int)(i j:Nat):Bool:=(zs.take j).all fun k=>decide (0<=k)&&decide (k<=(i:Int)-1)
def Gh(zs:List Int)(i j:Nat)(h:j<zs.length):qj zs i (j+1)=(qj zs i j&&(decide (0<=zs[j])&&decide (zs[j]<=(i:Int)-1))):=by
 unfold qj;rw[XM h,YQ];simp
def Ip(zs:List Int)(i j:Nat)(h:j<zs.length)(hb:(decide (0<=zs[j])&&decide (zs[j]<=(i:Int)-1))=false):(zs.all fun k=>decide (0<=k)&&decide (k<=(i:Int)-1))=false:=by
 rw[Bool.eq_false_iff];intro h2;rw[XY]at h2;have:=h2 zs[j]<|XI h;rw[hb]at this;cases this
set_option maxRecDepth 4000 in
def Bw(b off cap:Nat)(rs:Q08)(w:ag)(hlen:a7 rs)(hl:∀r∈rs,r.e.light)(hf:∀r∈rs,r.e.fits)(hb:cW b w)(hr:∀(i:Nat) (h:i<rs.length),zY w b (off+i*5) rs[i])(hok:∀r∈rs,r.ok w):
  Calls prog 174 #[.slice (some<|ap b off) rs.length cap] w (a8 w<|.bool<|aS<|au rs):=by
 have hel:=aX rs;have HEL:O ((au rs).length=rs.length):=hel;have HL:=aK hl;have HF:=aK hf;have HR:O (∀(i:Nat) (h:i<rs.length),zY w b (off+i*5) rs[i]):=hr;have HO:=aK hok;clear hel hl hf hr hok;by_cases hn:1<=rs.length/\rs.length<=15
 ·obtain⟨hn1,hn2⟩:=hn;go_enter func174,ntmps174;go_wp2_with fail;go_loopw[3,4] (fun o i wr=>∃k:Nat,k<=rs.length/\i=.int .i64 k/\o=.int .i64 (iq (au rs) k:Nat)/\O (jY (au rs) k=true/\jG (au rs) k=true)/\ae w wr) (fun _ i _=>rs.length-(intOf i).toNat);case atStart=>exact⟨0,XP _,rfl,rfl,⟨by simp[jY],by simp[jG]⟩,XL _ _⟩
  obtain⟨k,hk,rfl,rfl,HU,hB⟩:=hrel;by_cases hlt:k<rs.length
  ·have hltE:k<(au rs).length:=by rw[HEL];exact hlt
   have hek:(au rs)[k]=rs[k].e:=by simp[au]
   have HEK:O ((au rs)[k]=rs[k].e):=hek;obtain⟨t0,t1,t2,t3,t4⟩:=(HR k hlt).later hb hB;clear hek;have hk1:=bG k;have hk2:(k:Int)<(rs.length:Int):=cq;have hol:=wC (au rs) k;go_wp2_with fail;refine(Gg rs[k] _ (HF _<|XI hlt)<|(HO _<|XI hlt).below hB).mono ?_;rintro e w1 ⟨rfl,hb1⟩;cases YX:aD rs[k].e;case false=>
    have HN:O (aS (au rs)=false):=Ku k hltE (by rw[HEK];exact YX);go_wp2;go_ret;exact⟨by rw[HN];rfl,hB.trans<|hb1.mono hB.size⟩
   have hB1:ae w w1:=hB.trans<|hb1.mono hB.size;have hbw:cW b wr:=XJ hb hB.size;replace t0:=kept hb1 hbw t0;replace t4:=kept hb1 hbw t4;have hbw1:cW b w1:=XJ hbw hb1.size;clear t1 t2 t3 hb1 hB hbw;go_wp2_with fail;go_loopw[5] (fun i w2=>∃j:Nat,j<=rs[k].e.kids.length/\i=.int .i64 j/\O (qj rs[k].e.kids k j=true)/\w2=w1) (fun i _=>rs[k].e.kids.length-(intOf i).toNat);case atStart=>exact⟨0,XP _,rfl,(by show _=_;simp[qj]),rfl⟩
   obtain⟨j,hj,rfl,HP,rfl⟩:=hrel;by_cases hjl:j<rs[k].e.kids.length
   ·rcases (HO.out rs[k]<|XI hlt).2.below hB1 with hnil|⟨bk,offk,hadk,hbk,hrk⟩
    ·rw[hnil]at hjl;simp at hjl
    have t4':=t4;rw[hadk]at t4';have k0:=hrk j hjl;have hj1:=bG j;have hj2:(j:Int)<(rs[k].e.kids.length:Int):=cq;obtain⟨-,lk⟩:=HL rs[k]<|XI hlt;clear hrk hadk t4;go_wp2_with fail;refine(QF _ _ _ _).mono ?_;rintro e w' ⟨rfl,rfl⟩;cases hin:(decide (0<=rs[k].e.kids[j])&&decide (rs[k].e.kids[j]<=(k:Int)-1));case false=>
     have HN:O (aS (au rs)=false):=Kv k hltE (by unfold lY;rw[qi rs k hlt];exact Ip _ k j hjl hin);go_wp2;go_ret;exact⟨by rw[HN];rfl,hB1⟩
    have Zc:O (qj rs[k].e.kids k (j+1)=true):=by show _=_;rw[Gh _ _ _ hjl,HP,hin];rfl
    go_wp2;go_roundw;case rel=>exact⟨j+1,cq,cx,Zc,by first|rfl|trivial⟩
    simp[intOf]<;>omega
   obtain rfl:j=rs[k].e.kids.length:=cq;have HU2:O (jY (au rs) (k+1)=true/\jG (au rs) (k+1)=true):=by
    refine⟨?_,?_⟩
    ·rw[wD _ _ hltE,HU.1,HEK,YX];rfl
    rw[Ie,HU.2];unfold lY;rw[qi rs k hlt];have:=HP.out;unfold qj at this;rw[X8]at this;rw[this];rfl
   have HOW:O (iq (au rs) (k+1)=iq (au rs) k+(if rs[k].e.kind=1 then 1 else 0)):=by show _=_;rw[Bf _ _ hltE,HEK]
   by_cases hk1':rs[k].e.kind=1
   ·have HOW2:O (iq (au rs) (k+1)=iq (au rs) k+1):=by show _=_;rw[HOW,if_pos hk1']
    clear HOW;go_wp2;go_roundw;case rel=>exact⟨k+1,cq,cx,by rw[HOW2];go_num,HU2,hB1⟩
    simp[intOf]<;>omega
   have HOW2:O (iq (au rs) (k+1)=iq (au rs) k):=by show _=_;rw[HOW,if_neg hk1'];rfl
   clear HOW;go_wp2;go_roundw;case rel=>exact⟨k+1,cq,cx,by rw[HOW2],HU2,hB1⟩
   simp[intOf]<;>omega
  obtain rfl:k=rs.length:=cq;have HN:O ((au rs).all aD=true):=by
   have:=HU.1;unfold jY at this;rwa [<-HEL,X8]at this
  have HKU:O (jG (au rs) rs.length=true):=HU.2;have HOW:O (iq (au rs) rs.length=own (au rs)):=by show _=_;unfold iq;rw[<-HEL,X8]
  have hol:=wC (au rs) rs.length;by_cases ho:iq (au rs) rs.length<=1
  ·have HS:O (aS (au rs)=decide (aC (au rs) (rs.length-1)=0)):=by
    show _=_;have h1:own (au rs)<=1:=by rw[<-HOW];exact ho
    have e1:=HEL.out;unfold aS;rw[e1,HN,HKU];simp[h1,hn1,hn2]
   have hcast:((rs.length:Int)-1)=((rs.length-1:Nat):Int):=cq;have HCA:O (((rs.length:Int)-1)=((rs.length-1:Nat):Int)):=hcast;clear hcast;go_wp2_with fail;rw[HCA];refine(Kt b off cap rs hlen HL (rs.length-1) _ cq (XJ hb hB.size) (fun i hi=>(HR i hi).later hb hB) (fun r hr=>(HO r hr).below hB)).mono ?_;rintro e w1 ⟨rfl,hb1⟩;go_wp2;go_ret;exact⟨by rw[HS];exact aj<|by rw[X9];simp,hB.trans<|hb1.mono hB.size⟩
  have HS:O (aS (au rs)=false):=by
   show _=_;have h1:¬own (au rs)<=1:=by rw[<-HOW];exact ho
   simp[aS,h1]
  go_wp2;go_ret;exact⟨by rw[HS];rfl,hB⟩
 have HN:O (aS (au rs)=false):=EL (by rw[HEL];exact hn);go_enter func174,ntmps174;go_wp2_with fail
 all_goals go_ret
 all_goals exact⟨by rw[HN];rfl,XL _ _⟩
def mZ(ad:Q02)(cap:Nat)(rs:Q08)(w:ag)(hlen:a7 rs)(hl:∀r∈rs,r.e.light)(hf:∀r∈rs,r.e.fits)(hs:iE w ad rs):
  Calls prog 174 #[.slice ad rs.length cap] w (a8 w<|.bool<|aS<|au rs):=by
 rcases hs with rfl|⟨b,off,rfl,hb,hr,hok⟩
 ·go_enter func174,ntmps174;go_wp2_with fail;go_ret;exact⟨rfl,XL _ _⟩
 exact Bw b off cap rs w hlen hl hf hb hr hok
def EM(x y:Al):kN x y=kN y x:=by
 unfold kN;rw[X9];simp only[XN,beq_iff_eq];exact⟨fun h=>⟨h.1.symm,h.2.symm⟩,fun h=>⟨h.1.symm,h.2.symm⟩⟩
def NR(ad:Q02)(n cap:Nat)(xs:Q0a)(v:Al)(w:ag)(hn:n<=xs.length)(hlen:a7 xs)(hs:mJ w ad xs):
  Calls prog 221 #[.slice ad n cap,.agg #[.string v.t,.string v.s]] w fun e w'=>(∃r:Int,e=.returned (.int .i64 r)/\decide (0<=r)=dR xs n v)/\ae w w':=by
 obtain⟨W,hW⟩:=eQx<|w.alloc<|.cells #[.string v.t,.string v.s] 216;have HB0:O (ae w W):=by show Below _ _ _;rw[hW];exact(XL w.heap.size w).alloc (XK _) _
 have hz:w.heap.size<W.heap.size:=by rw[hW];simp
 have b0:W.cell? (aE w)=some (.string v.t):=by rw[hW];simp
 have b1:W.cell? (a6 w 1)=some (.string v.s):=by rw[hW];simp
 have HS:=aK<|hs.below HB0;clear hs;go_enter func221,ntmps221;go_wp2_with fail;rw[<-hW];clear hW;go_loopw[8] (fun i wr=>∃k:Nat,k<=n/\i=.int .i64 k/\O (dR xs k v=false)/\ae W wr) (fun i _=>n-(intOf i).toNat);case atStart=>exact⟨0,XP _,rfl,uY _ _,XL _ _⟩
 obtain⟨k,hk,rfl,HP,hB⟩:=hrel;have a0:=kept hB hz b0;have a1:=kept hB hz b1;by_cases hlt:k<n
 ·have hltx:k<xs.length:=cq;rcases HS.out.below hB with rfl|⟨b,off,rfl,hb,hr⟩
  ·simp at hltx
  obtain⟨t0,t1⟩:=hr k hltx;have hk1:=bG k;have hk2:(k:Int)<(n:Int):=cq;clear hr;cases hq:kN v xs[k];case true=>
   have HE:=Gf v xs[k] hq;have HN:O (dR xs n v=true):=EK hlt hltx (by rw[EM];exact hq);go_wp2_with fail;go_quiet (fail);go_wp2;go_ret;exact⟨⟨_,rfl,by rw[HN];simp⟩,HB0.trans<|below_drewN (hB.mono HB0.size) _⟩
  have HE:=Gf v xs[k] hq;have Zc:O (dR xs (k+1) v=false):=by show _=_;rw[uX _ _ _ hltx,HP,EM,hq];rfl
  go_wp2_with fail;go_quiet (fail);go_wp2;go_roundw;case rel=>exact⟨k+1,cq,cx,Zc,below_drewN hB _⟩
  simp[intOf]<;>omega
 obtain rfl:k=n:=cq;go_wp2;go_ret;exact⟨⟨-1,rfl,by rw[HP];rfl⟩,HB0.trans<|hB.mono HB0.size⟩
def wJ(ad:Q02)(n cap:Nat)(xs:Q0a)(v:Al)(w:ag)(hn:n<=xs.length)(hlen:a7 xs)(hs:mJ w ad xs):
  Calls prog 149 #[.slice ad n cap,.agg #[.string v.t,.string v.s]] w (a8 w<|.bool<|dR xs n v):=by
 have HB0:O (ae w<|w.alloc<|.cells #[.string v.t,.string v.s] 216):=(XL w.heap.size w).alloc (XK _) _;have HS:=aK hs;clear hs;go_enter func149,ntmps149;go_wp2_with fail;refine(NR ad n cap xs v _ hn hlen<|HS.below HB0).mono ?_;rintro e w1 ⟨⟨r,rfl,hr⟩,hb1⟩;have HR:O (decide (0<=r)=dR xs n v):=hr;have HB1:=jr HB0 hb1;clear hr hb1;go_wp2;go_ret;exact⟨aj HR,HB1⟩
set_option maxRecDepth 8000 in
def Gi(r:ER)(w:ag)(hf:r.e.fits)(h1:r.e.kind≠1):
  Calls prog 250 #[r.val] w (a8 w<|.bool<|aD r.e):=by
 obtain⟨⟨kind,allow,over,name,kids⟩,adA,capA,adK,capK⟩:=r;obtain⟨f1,f2,f3,f4,f5⟩:=hf;simp only at f1 f2 f3 f4 f5 h1;simp only[ER.val];unfold maxLen at f4 f5;by_cases h2:kind=2
 ·subst h2;clear h1;go_enter func250,ntmps250;go_wp2_with fail;go_quiet (fail);go_wp2_with(go_at_call 122;refine(aT _ _ cE).mono ?_;rintro e w' ⟨rfl,rfl⟩)
  all_goals go_ret
  all_goals exact⟨aj<|by first|(simp[aD, *];done)|(simp[aD, *];omega)|(simp[aD, *];rw[X9];simp;done)|(simp[aD, *];rw[X9];simp;omega),below_drewN ((XL w.heap.size w).alloc (XK _) _) _⟩
 by_cases h3:kind=3
 ·subst h3;clear h1;go_enter func250,ntmps250;go_wp2_with fail;go_quiet (fail);go_wp2_with(go_at_call 122;refine(aT _ _ cE).mono ?_;rintro e w' ⟨rfl,rfl⟩)
  all_goals go_ret
  all_goals exact⟨aj<|by first|(simp[aD, *];done)|(simp[aD, *];omega)|(simp[aD, *];rw[X9];simp;done)|(simp[aD, *];rw[X9];simp;omega),below_drewN ((XL w.heap.size w).alloc (XK _) _) _⟩
 by_cases h4:kind=4
 ·subst h4;clear h1;go_enter func250,ntmps250;go_wp2_with fail;go_quiet (fail);go_wp2_with(go_at_call 122;refine(aT _ _ cE).mono ?_;rintro e w' ⟨rfl,rfl⟩)
  all_goals go_ret
  all_goals exact⟨aj<|by first|(simp[aD, *];done)|(simp[aD, *];omega)|(simp[aD, *];rw[X9];simp;done)|(simp[aD, *];rw[X9];simp;omega),below_drewN ((XL w.heap.size w).alloc (XK _) _) _⟩
 by_cases h5:kind=5
 ·subst h5;clear h1;go_enter func250,ntmps250;go_wp2_with fail;go_quiet (fail);go_wp2_with(go_at_call 122;refine(aT _ _ cE).mono ?_;rintro e w' ⟨rfl,rfl⟩)
  all_goals go_ret
  all_goals exact⟨aj<|by first|(simp[aD, *];done)|(simp[aD, *];omega)|(simp[aD, *];rw[X9];simp;done)|(simp[aD, *];rw[X9];simp;omega),below_drewN ((XL w.heap.size w).alloc (XK _) _) _⟩
 by_cases h6:kind=6
 ·subst h6;clear h1;go_enter func250,ntmps250;go_wp2_with fail;go_quiet (fail);go_wp2_with(go_at_call 122;refine(aT _ _ cE).mono ?_;rintro e w' ⟨rfl,rfl⟩)
  all_goals go_ret
  all_goals exact⟨aj<|by first|(simp[aD, *];done)|(simp[aD, *];omega)|(simp[aD, *];rw[X9];simp;done)|(simp[aD, *];rw[X9];simp;omega),below_drewN ((XL w.heap.size w).alloc (XK _) _) _⟩
 go_enter func250,ntmps250;go_wp2_with fail;go_quiet (fail);go_wp2_with(go_at_call 122;refine(aT _ _ cE).mono ?_;rintro e w' ⟨rfl,rfl⟩)
 all_goals go_ret
 all_goals exact⟨aj<|by first|(simp[aD, *];done)|(simp[aD, *];omega)|(simp[aD, *];rw[X9];simp;done)|(simp[aD, *];rw[X9];simp;omega),below_drewN ((XL w.heap.size w).alloc (XK _) _) _⟩
end Go.Proofs.YtojjoblnpldniaaGreat
