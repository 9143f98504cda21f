/- Contracts of the document's functions that look at an expression. -/
import Derived.Test.YtojjoblnpldniaaGreatSq
import Derived.Test.YtojjoblnpldniaaGreatJ2
open Go.Proofs.Tryz
set_option maxHeartbeats 80000000
namespace Go.Proofs.YtojjoblnpldniaaGreat
open ChangeShapes WideShapes ChangeAt RowKit
open Pl
theorem QF(n lo hi:Int)(w:ag):
  Calls prog 245 #[.int .i64 n,.int .i64 lo,.int .i64 hi] w fun e w'=>e=.returned (.bool (decide (lo<=n)&&decide (n<=hi)))/\w'=w:=by
 go_enter func245,ntmps245;go_wp2
 all_goals go_ret
 all_goals exact⟨aj (by simp[*]<;>omega),rfl⟩
set_option maxRecDepth 8000 in
theorem mY(r:ER)(w:ag)(hf:r.e.fits)(h1:r.e.kind≠1):
  Calls prog 244 #[r.val] w fun e w'=>e=.returned (.bool (aD r.e))/\ae w w':=by
 obtain⟨⟨kind,allow,over,name,kids⟩,adA,capA,adK,capK⟩:=r;obtain⟨f1,f2,f3,f4,f5⟩:=hf;simp only at f1 f2 f3 f4 f5 h1;simp only[ER.val];unfold maxLen at f4 f5;by_cases h2:kind=2
 ·subst h2;clear h1;go_enter func244,ntmps244;go_wp2_with(go_at_call 126;refine(aZ _ _ (by assumption)).mono ?_;rintro e w' ⟨rfl,rfl⟩)
  all_goals go_ret
  all_goals exact⟨aj (by first|(simp[aD, *];done)|(simp[aD, *];omega)|(simp[aD, *];rw[X9];simp;done)|(simp[aD, *];rw[X9];simp;omega)),(XL w.heap.size w).alloc (XK _) _⟩
 by_cases h3:kind=3
 ·subst h3;clear h1;go_enter func244,ntmps244;go_wp2_with(go_at_call 126;refine(aZ _ _ (by assumption)).mono ?_;rintro e w' ⟨rfl,rfl⟩)
  all_goals go_ret
  all_goals exact⟨aj (by first|(simp[aD, *];done)|(simp[aD, *];omega)|(simp[aD, *];rw[X9];simp;done)|(simp[aD, *];rw[X9];simp;omega)),(XL w.heap.size w).alloc (XK _) _⟩
 by_cases h4:kind=4
 ·subst h4;clear h1;go_enter func244,ntmps244;go_wp2_with(go_at_call 126;refine(aZ _ _ (by assumption)).mono ?_;rintro e w' ⟨rfl,rfl⟩)
  all_goals go_ret
  all_goals exact⟨aj (by first|(simp[aD, *];done)|(simp[aD, *];omega)|(simp[aD, *];rw[X9];simp;done)|(simp[aD, *];rw[X9];simp;omega)),(XL w.heap.size w).alloc (XK _) _⟩
 by_cases h5:kind=5
 ·subst h5;clear h1;go_enter func244,ntmps244;go_wp2_with(go_at_call 126;refine(aZ _ _ (by assumption)).mono ?_;rintro e w' ⟨rfl,rfl⟩)
  all_goals go_ret
  all_goals exact⟨aj (by first|(simp[aD, *];done)|(simp[aD, *];omega)|(simp[aD, *];rw[X9];simp;done)|(simp[aD, *];rw[X9];simp;omega)),(XL w.heap.size w).alloc (XK _) _⟩
 by_cases h6:kind=6
 ·subst h6;clear h1;go_enter func244,ntmps244;go_wp2_with(go_at_call 126;refine(aZ _ _ (by assumption)).mono ?_;rintro e w' ⟨rfl,rfl⟩)
  all_goals go_ret
  all_goals exact⟨aj (by first|(simp[aD, *];done)|(simp[aD, *];omega)|(simp[aD, *];rw[X9];simp;done)|(simp[aD, *];rw[X9];simp;omega)),(XL w.heap.size w).alloc (XK _) _⟩
 go_enter func244,ntmps244;go_wp2_with(go_at_call 126;refine(aZ _ _ (by assumption)).mono ?_;rintro e w' ⟨rfl,rfl⟩)
 all_goals go_ret
 all_goals exact⟨aj (by first|(simp[aD, *];done)|(simp[aD, *];omega)|(simp[aD, *];rw[X9];simp;done)|(simp[aD, *];rw[X9];simp;omega)),(XL w.heap.size w).alloc (XK _) _⟩
theorem Gf(x y:Al){v:Bool}(h:kN x y=v)(w:ag):
  (binOp .eql 216 (.agg #[.string x.t,.string x.s]) (.agg #[.string y.t,.string y.s])).run prog w=.ok (.bool v) w:=by
 subst h;go_simp;unfold kN;by_cases h1:x.t.toList=y.t.toList<;>by_cases h2:x.s.toList=y.s.toList<;>simp[h1,h2]
theorem EK{xs:Q0a}{j k:Nat}{a:Al}(hjk:j<k)(hj:j<xs.length)(h:kN xs[j] a=true):dR xs k a=true:=by
 unfold dR;rw[Yq];refine⟨xs[j],?_,h⟩;rw[List.mem_take_iff_getElem];exact⟨j,by omega,rfl⟩
set_option maxRecDepth 8000 in
theorem DT(r:ER)(w:ag)(hf:r.e.fits)(hok:r.ok w)(h1:r.e.kind=1):
  Calls prog 244 #[r.val] w fun e w'=>e=.returned (.bool (aD r.e))/\ae w w':=by
 obtain⟨⟨kind,allow,over,name,kids⟩,adA,capA,adK,capK⟩:=r;obtain⟨f1,f2,f3,f4,f5⟩:=hf;obtain⟨hA,hK⟩:=hok;simp only at f1 f2 f3 f4 f5 h1 hA hK;subst h1;simp only[ER.val];unfold maxLen at f4 f5;by_cases hl:1<=allow.length/\allow.length<=6
 ·obtain⟨hl1,hl2⟩:=hl;obtain⟨W,hW⟩:=eQx (w.alloc (.cells #[.int .i64 1,.slice adA allow.length capA,.string over,.string name,.slice adK kids.length capK] 43));have HB0:Hid (ae w W):=by show Below _ _ _;rw[hW];exact(XL w.heap.size w).alloc (XK _) _
  have hz:w.heap.size<W.heap.size:=by rw[hW];simp
  have b1:W.cell? ⟨w.heap.size,1,none⟩=some (.slice adA allow.length capA):=by rw[hW];simp
  have b2:W.cell? ⟨w.heap.size,2,none⟩=some (.string over):=by rw[hW];simp
  have b3:W.cell? ⟨w.heap.size,3,none⟩=some (.string name):=by rw[hW];simp
  have HA:=aK (hA.below HB0.out);have Z8:=aK f1;clear hA hK f1;go_enter func244,ntmps244;go_wp2_with fail;rw[<-hW];clear hW;go_loopw[4] (fun i wr=>∃k:Nat,k<=allow.length/\i=.int .i64 k/\Hid (Gb allow k=true)/\ae W wr) (fun i _=>allow.length-(intOf i).toNat);case atStart=>exact⟨0,XP _,rfl,rfl,XL _ _⟩
  obtain⟨k,hk,rfl,HU,hB⟩:=hrel;have a1:=kept hB hz b1;have a2:=kept hB hz b2;have a3:=kept hB hz b3;by_cases hlt:k<allow.length
  ·rcases HA.out.below hB with rfl|⟨b,off,rfl,hb,hr⟩
   ·simp at hlt
   obtain⟨t0,t1⟩:=hr k hlt;obtain⟨z0,z1⟩:=Z8.out allow[k] (XI hlt);have HR:Hid (∀(i:Nat) (h:i<allow.length),Vy wr b (off+i*2) allow[i]):=hr;clear hr;obtain⟨W1,hW1⟩:=eQx (wr.alloc (.cells #[.string allow[k].t,.string allow[k].s] 216));have hal:ae wr W1:=by rw[hW1];exact(XL _ _).alloc (XK _) _
   have hBW1:Below W.heap.size wr W1:=hal.mono hB.size;have hsz:w.heap.size<wr.heap.size:=XJ hz hB.size;have hWs:W.heap.size<=W1.heap.size:=XR hB.size hal.size;have c1:=kept hal hsz a1;have c2:=kept hal hsz a2;have c3:=kept hal hsz a3;have hbl:b<W1.heap.size:=XJ hb hal.size;have hgl:wr.heap.size<W1.heap.size:=by rw[hW1];simp
   have g0:W1.cell? ⟨wr.heap.size,0,none⟩=some (.string allow[k].t):=by rw[hW1];simp
   have g1:W1.cell? ⟨wr.heap.size,1,none⟩=some (.string allow[k].s):=by rw[hW1];simp
   have HR1:Hid (∀(i:Nat) (h:i<allow.length),Vy W1 b (off+i*2) allow[i]):=fun i hi=>(HR.out i hi).same fun o=>hal.cell (p:=⟨b,o,none⟩) hb;cases hn:aW allow[k].t;case false=>
    have HN:Hid (Gb allow allow.length=false):=qd allow k hlt (by simp[Ic,hn]) _ hlt;go_wp2_with(go_at_call 126;refine(aZ _ _ (by assumption)).mono ?_;rintro e w' ⟨rfl,rfl⟩);go_ret;exact⟨aj (by simp[aD,fo,HN.out]),HB0.out.trans ((hB.trans ((XL _ _).alloc hB.size _)).mono HB0.out.size)⟩
   cases he:allow[k].s.toList.isEmpty
   case' true =>
    have HAl:Hid (Ic allow[k]=true):=by show _=_;simp[Ic,wy,hn,he]
    go_wp2_with(go_at_call 126;refine(aZ _ _ (by assumption)).mono ?_;rintro e w' ⟨rfl,rfl⟩);rw[<-hW1]
   case' false =>
    cases hm:aW allow[k].s;case false =>
     have HN:Hid (Gb allow allow.length=false):=qd allow k hlt (by simp[Ic,hn,wy,he,hm]) _ hlt;go_wp2_with(go_at_call 126;refine(aZ _ _ (by assumption)).mono ?_;rintro e w' ⟨rfl,rfl⟩);go_ret;exact⟨aj (by simp[aD,fo,HN.out]),HB0.out.trans ((hB.trans ((XL _ _).alloc hB.size _)).mono HB0.out.size)⟩
    have HAl:Hid (Ic allow[k]=true):=by show _=_;simp[Ic,wy,hn,he,hm]
    go_wp2_with(go_at_call 126;refine(aZ _ _ (by assumption)).mono ?_;rintro e w' ⟨rfl,rfl⟩);rw[<-hW1]
   all_goals
    go_loopw[6] (fun i w2=>∃j:Nat,j<=k/\i=.int .i64 j/\Hid (dR allow j allow[k]=false)/\ae W1 w2) (fun i _=>k-(intOf i).toNat);case atStart=>exact⟨0,XP _,rfl,uY _ _,XL _ _⟩
    obtain⟨j,hj,rfl,HP,hB2⟩:=hrel;rename_i w2 _;have d1:=kept hB2 (by omega) c1;have d2:=kept hB2 (by omega) c2;have d3:=kept hB2 (by omega) c3;have p0:=kept hB2 hgl g0;have p1:=kept hB2 hgl g1;by_cases hjk:j<k
    ·obtain⟨q0,q1⟩:=(HR1.out j (by omega)).same fun o=>hB2.cell (p:=⟨b,o,none⟩) hbl;have hj1:=bG j;have hj2:(j:Int)<(allow.length:Int):=by omega
     cases hq:kN allow[j] allow[k];case true=>
      have HE:=Gf allow[j] allow[k] hq;have HN:Hid (Gb allow allow.length=false):=qd allow k hlt (by rw[(EK hjk (by omega) hq)];simp) _ hlt;go_wp2_with fail;go_quiet (fail);go_wp2;go_ret;exact⟨aj (by simp[aD,fo,HN.out]),HB0.out.trans ((hB.trans (hBW1.trans (hB2.mono (by omega)))).mono HB0.out.size |> fun h=>below_drewN h _)⟩
     have HE:=Gf allow[j] allow[k] hq;have Zc:Hid (dR allow (j+1) allow[k]=false):=by show _=_;rw[uX _ _ _ (by omega),HP.out,hq];rfl
     go_wp2_with fail;go_quiet (fail);go_wp2;go_roundw;case rel=>exact⟨j+1,by omega,by go_num,Zc,below_drewN hB2 _⟩
     simp[intOf];omega
    obtain rfl:j=k:=by omega
    have HU2:Hid (Gb allow (j+1)=true):=by show _=_;rw[Be _ _ hlt,HU.out,HAl.out,HP.out];rfl
    go_wp2;go_roundw;case rel=>exact⟨j+1,by omega,by go_num,HU2,hB.trans (hBW1.trans (hB2.mono (by omega)))⟩
    simp[intOf];omega
  obtain rfl:k=allow.length:=by omega
  have HAW:Hid (fo allow=true):=by show _=_;simp[fo,hl1,hl2,HU.out]
  go_wp2
  all_goals go_ret
  all_goals exact⟨aj (by first|(simp[aD,HAW.out, *];done)|(simp[aD,HAW.out, *];rw[X9];simp;done)),HB0.out.trans (hB.mono HB0.out.size)⟩
 go_enter func244,ntmps244;go_wp2_with fail
 all_goals go_ret
 all_goals exact⟨aj (by simp[aD,fo];omega),(XL w.heap.size w).alloc (XK _) _⟩
theorem Gg(r:ER)(w:ag)(hf:r.e.fits)(hok:r.ok w):
  Calls prog 244 #[r.val] w fun e w'=>e=.returned (.bool (aD r.e))/\ae w w':=by
 by_cases h:r.e.kind=1
 ·exact DT r w hf hok h
 exact mY r w hf h
theorem qi(rs:Q08)(n:Nat)(h:n<rs.length):dx (au rs) n=rs[n].e.kids:=by simp[dx,au,h]
theorem Kt(b off cap:Nat)(rs:Q08)(hlen:rs.length<=1048576)(hl:∀r∈rs,r.e.light)(n:Nat):∀(w:ag),n<rs.length->b<w.heap.size->(∀(i:Nat) (h:i<rs.length),zY w b (off+i*5) rs[i])->(∀r∈rs,r.ok w) ->
  Calls prog 246 #[.slice (some ⟨b,off,none⟩) rs.length cap,.int .i64 (n:Int)] w fun e w'=>e=.returned (.int .i64 (aC (au rs) n))/\ae w w':=by
 induction n using Nat.strongRecOn with
 | ind n ih =>
  intro w hn hb hr hok
  have IH:Hid (∀ m,m<n->∀ (w:World),m<rs.length->b<w.heap.size->(∀ (i:Nat) (h:i<rs.length),zY w b (off+i*5) rs[i])->(∀ r∈rs,r.ok w) ->
   Calls prog 246 #[.slice (some ⟨b,off,none⟩) rs.length cap,.int .i64 (m:Int)] w fun e w'=>e=.returned (.int .i64 (aC (au rs) m))/\ae w w'):=ih
  have HR:Hid (∀(i:Nat) (h:i<rs.length),zY w b (off+i*5) rs[i]):=hr;have HO:=aK hok;obtain⟨t0,t1,t2,t3,t4⟩:=hr n hn;obtain⟨l1,l2⟩:=hl rs[n] (XI hn);have hn1:=bG n;have hn2:(n:Int)<(rs.length:Int):=by omega
  have HT:Hid (aC (au rs) n=dF (dJ (au rs) n) rs[n].e.kids.reverse ((n:Int)-1)):=by show _=_;rw[jK,qi rs n hn]
  have HL:=aK hl;clear ih hr hok hl l1;go_enter func246,ntmps246;go_wp2_with fail;go_loopw[5,6] (fun a i wr=>∃(j:Nat) (x:Int),j<=rs[n].e.kids.length/\i=.int .i64 ((j:Int)-1)/\a=.int .i64 x∧-1<=x/\x<n/\Hid (dF (dJ (au rs) n) (rs[n].e.kids.take j).reverse x=aC (au rs) n)/\ae w wr) (fun _ i _=>(intOf i+1).toNat);case atStart=>exact⟨rs[n].e.kids.length,(n:Int)-1,XK _,rfl,rfl,by omega,by omega,(by show _=_;rw[X8];exact HT.out.symm),XL _ _⟩
  obtain⟨j,x,hj,rfl,rfl,hx0,hx1,HG,hB⟩:=hrel;have s4:=kept hB hb t4;by_cases hj0:0<j
  ·obtain⟨j,rfl⟩:∃i,j=i+1:=⟨j-1,by omega⟩;have hjl:j<rs[n].e.kids.length:=by omega
   rcases (HO.out rs[n] (XI hn)).2.below hB with hnil|⟨bk,offk,hadk,hbk,hrk⟩
   ·rw[hnil]at hjl;simp at hjl
   rw[hadk]at s4;have k0:=hrk j hjl;clear hrk;have hji:((j+1:Nat):Int)-1=(j:Int):=by omega
   have hj1:=bG j;have hj2:(j:Int)<(rs[n].e.kids.length:Int):=by omega
   have HG2:Hid ((if x<0\/rs[n].e.kids[j]≠x then -1 else if dJ (au rs) n x<0 then -1 else dF (dJ (au rs) n) (rs[n].e.kids.take j).reverse (dJ (au rs) n x-1))=aC (au rs) n):=by
    have:=HG.out;rw[XM hjl,List.reverse_append]at this;exact this
   rw[hji];clear HG hadk t0 t1 t2 t3 t4;by_cases hxn:x<0
   ·have HT1:Hid (aC (au rs) n=-1):=by show _=_;rw[<-HG2.out,if_pos (Or.inl hxn)]
    go_wp2;go_ret;exact⟨by rw[HT1.out];rfl,hB⟩
   by_cases hkx:rs[n].e.kids[j]=x
   ·obtain⟨m,rfl⟩:∃m:Nat,x=(m:Int):=⟨x.toNat,by omega⟩;have hF:dJ (au rs) n (m:Int)=aC (au rs) m:=by unfold dJ;rw[if_pos ⟨by omega,by simp;omega⟩];simp
    have HF:Hid (dJ (au rs) n (m:Int)=aC (au rs) m):=hF;have hle:=gJ (au rs) m;clear hF;go_wp2_with fail;refine(IH.out m (by omega) _ (by omega) (XJ hb hB.size) (fun i hi=>(HR.out i hi).same fun o=>hB.cell (p:=⟨b,o,none⟩) hb) (fun r hr=>(HO.out r hr).below hB)).mono ?_;rintro e w1 ⟨rfl,hb1⟩;have hB1:ae w w1:=hB.trans (hb1.mono hB.size);clear hb1;by_cases hneg:aC (au rs) m<0
    ·have HT1:Hid (aC (au rs) n=-1):=by show _=_;rw[<-HG2.out,if_neg (by omega),HF.out,if_pos hneg]
     go_wp2;go_ret;exact⟨by rw[HT1.out];rfl,hB1⟩
    have HG3:Hid (dF (dJ (au rs) n) (rs[n].e.kids.take j).reverse (aC (au rs) m-1)=aC (au rs) n):=by
     show _=_;rw[<-HG2.out,if_neg (by omega),HF.out,if_neg hneg]
    go_wp2;go_roundw;case rel=>exact⟨j,aC (au rs) m-1,by omega,by go_num,rfl,by omega,by omega,HG3,hB1⟩
    simp[intOf]<;>omega
   have HT1:Hid (aC (au rs) n=-1):=by show _=_;rw[<-HG2.out,if_pos (Or.inr hkx)]
   go_wp2;go_ret;exact⟨by rw[HT1.out];rfl,hB⟩
  obtain rfl:j=0:=by omega
  have HT1:Hid (aC (au rs) n=x+1):=by show _=_;have:=HG.out;simp[dF]at this;exact this.symm
  clear HG t0 t1 t2 t3 t4;go_wp2;go_ret;exact⟨by rw[HT1.out];rfl,hB⟩
theorem zY.later{w w':ag}{b off:Nat}{r:ER}(h:zY w b off r)(hb:b<w.heap.size)(hB:ae w w'):zY w' b off r:=h.same fun o=>hB.cell (p:=⟨b,o,none⟩) hb
theorem EL{es:Q09}(h:¬(1<=es.length/\es.length<=15)):aS es=false:=by
 unfold aS;by_cases h1:1<=es.length
 ·have h2:¬es.length<=15:=fun h2=>h ⟨h1,h2⟩;simp[h2]
 simp[h1]
theorem Ku{es:Q09}(k:Nat)(h:k<es.length)(hb:aD es[k]=false):aS es=false:=by simp[aS,Ev es k h hb]
theorem Kv{es:Q09}(k:Nat)(h:k<es.length)(hb:lY es k=false):aS es=false:=by simp[aS,Qi es k h hb]
def qj(zs:List Int)(i j:Nat):Bool:=(zs.take j).all fun k=>decide (0<=k)&&decide (k<=(i:Int)-1)
theorem Gh(zs:List Int)(i j:Nat)(h:j<zs.length):qj zs i (j+1)=(qj zs i j&&(decide (0<=zs[j])&&decide (zs[j]<=(i:Int)-1))):=by
 unfold qj;rw[XM h,YQ];simp
theorem Ip(zs:List Int)(i j:Nat)(h:j<zs.length)(hb:(decide (0<=zs[j])&&decide (zs[j]<=(i:Int)-1))=false):(zs.all fun k=>decide (0<=k)&&decide (k<=(i:Int)-1))=false:=by
 rw[Bool.eq_false_iff];intro h2;rw[XY]at h2;have:=h2 zs[j] (XI h);rw[hb]at this;cases this
set_option maxRecDepth 4000 in
theorem Bw(b off cap:Nat)(rs:Q08)(w:ag)(hlen:rs.length<=1048576)(hl:∀r∈rs,r.e.light)(hf:∀r∈rs,r.e.fits)(hb:b<w.heap.size)(hr:∀(i:Nat) (h:i<rs.length),zY w b (off+i*5) rs[i])(hok:∀r∈rs,r.ok w):
  Calls prog 174 #[.slice (some ⟨b,off,none⟩) rs.length cap] w fun e w'=>e=.returned (.bool (aS (au rs)))/\ae w w':=by
 have hel:=aX rs;have HEL:Hid ((au rs).length=rs.length):=hel;have HL:=aK hl;have HF:=aK hf;have HR:Hid (∀(i:Nat) (h:i<rs.length),zY w b (off+i*5) rs[i]):=hr;have HO:=aK hok;clear hel hl hf hr hok;by_cases hn:1<=rs.length/\rs.length<=15
 ·obtain⟨hn1,hn2⟩:=hn;go_enter func174,ntmps174;go_wp2_with fail;go_loopw[3,4] (fun o i wr=>∃k:Nat,k<=rs.length/\i=.int .i64 k/\o=.int .i64 (iq (au rs) k:Nat)/\Hid (jY (au rs) k=true/\jG (au rs) k=true)/\ae w wr) (fun _ i _=>rs.length-(intOf i).toNat);case atStart=>exact⟨0,XP _,rfl,rfl,⟨by simp[jY],by simp[jG]⟩,XL _ _⟩
  obtain⟨k,hk,rfl,rfl,HU,hB⟩:=hrel;by_cases hlt:k<rs.length
  ·have hltE:k<(au rs).length:=by rw[HEL.out];exact hlt
   have hek:(au rs)[k]=rs[k].e:=by simp[au]
   have HEK:Hid ((au rs)[k]=rs[k].e):=hek;obtain⟨t0,t1,t2,t3,t4⟩:=(HR.out k hlt).later hb hB;clear hek;have hk1:=bG k;have hk2:(k:Int)<(rs.length:Int):=by omega
   have hol:=wC (au rs) k;go_wp2_with fail;refine(Gg rs[k] _ (HF.out _ (XI hlt)) ((HO.out _ (XI hlt)).below hB)).mono ?_;rintro e w1 ⟨rfl,hb1⟩;cases YX:aD rs[k].e;case false=>
    have HN:Hid (aS (au rs)=false):=Ku k hltE (by rw[HEK.out];exact YX);go_wp2;go_ret;exact⟨by rw[HN.out];rfl,hB.trans (hb1.mono hB.size)⟩
   have hB1:ae w w1:=hB.trans (hb1.mono hB.size);have hbw:b<wr.heap.size:=XJ hb hB.size;replace t0:=kept hb1 hbw t0;replace t4:=kept hb1 hbw t4;have hbw1:b<w1.heap.size:=XJ hbw hb1.size;clear t1 t2 t3 hb1 hB hbw;go_wp2_with fail;go_loopw[5] (fun i w2=>∃j:Nat,j<=rs[k].e.kids.length/\i=.int .i64 j/\Hid (qj rs[k].e.kids k j=true)/\w2=w1) (fun i _=>rs[k].e.kids.length-(intOf i).toNat);case atStart=>exact⟨0,XP _,rfl,(by show _=_;simp[qj]),rfl⟩
   obtain⟨j,hj,rfl,HP,rfl⟩:=hrel;by_cases hjl:j<rs[k].e.kids.length
   ·rcases (HO.out rs[k] (XI hlt)).2.below hB1 with hnil|⟨bk,offk,hadk,hbk,hrk⟩
    ·rw[hnil]at hjl;simp at hjl
    have t4':=t4;rw[hadk]at t4';have k0:=hrk j hjl;have hj1:=bG j;have hj2:(j:Int)<(rs[k].e.kids.length:Int):=by omega
    obtain⟨-,lk⟩:=HL.out rs[k] (XI hlt);clear hrk hadk t4;go_wp2_with fail;refine(QF _ _ _ _).mono ?_;rintro e w' ⟨rfl,rfl⟩;cases hin:(decide (0<=rs[k].e.kids[j])&&decide (rs[k].e.kids[j]<=(k:Int)-1));case false=>
     have HN:Hid (aS (au rs)=false):=Kv k hltE (by unfold lY;rw[qi rs k hlt];exact Ip _ k j hjl hin);go_wp2;go_ret;exact⟨by rw[HN.out];rfl,hB1⟩
    have Zc:Hid (qj rs[k].e.kids k (j+1)=true):=by show _=_;rw[Gh _ _ _ hjl,HP.out,hin];rfl
    go_wp2;go_roundw;case rel=>exact⟨j+1,by omega,by go_num,Zc,by first|rfl|trivial⟩
    simp[intOf]<;>omega
   obtain rfl:j=rs[k].e.kids.length:=by omega
   have HU2:Hid (jY (au rs) (k+1)=true/\jG (au rs) (k+1)=true):=by
    refine⟨?_,?_⟩
    ·rw[wD _ _ hltE,HU.out.1,HEK.out,YX];rfl
    rw[Ie,HU.out.2];unfold lY;rw[qi rs k hlt];have:=HP.out;unfold qj at this;rw[X8]at this;rw[this];rfl
   have HOW:Hid (iq (au rs) (k+1)=iq (au rs) k+(if rs[k].e.kind=1 then 1 else 0)):=by show _=_;rw[Bf _ _ hltE,HEK.out]
   by_cases hk1':rs[k].e.kind=1
   ·have HOW2:Hid (iq (au rs) (k+1)=iq (au rs) k+1):=by show _=_;rw[HOW.out,if_pos hk1']
    clear HOW;go_wp2;go_roundw;case rel=>exact⟨k+1,by omega,by go_num,by rw[HOW2.out];go_num,HU2,hB1⟩
    simp[intOf]<;>omega
   have HOW2:Hid (iq (au rs) (k+1)=iq (au rs) k):=by show _=_;rw[HOW.out,if_neg hk1'];rfl
   clear HOW;go_wp2;go_roundw;case rel=>exact⟨k+1,by omega,by go_num,by rw[HOW2.out],HU2,hB1⟩
   simp[intOf]<;>omega
  obtain rfl:k=rs.length:=by omega
  have HN:Hid ((au rs).all aD=true):=by
   have:=HU.out.1;unfold jY at this;rwa [<-HEL.out,X8]at this
  have HKU:Hid (jG (au rs) rs.length=true):=HU.out.2;have HOW:Hid (iq (au rs) rs.length=own (au rs)):=by show _=_;unfold iq;rw[<-HEL.out,X8]
  have hol:=wC (au rs) rs.length;by_cases ho:iq (au rs) rs.length<=1
  ·have HS:Hid (aS (au rs)=decide (aC (au rs) (rs.length-1)=0)):=by
    show _=_;have h1:own (au rs)<=1:=by rw[<-HOW.out];exact ho
    have e1:=HEL.out;unfold aS;rw[e1,HN.out,HKU.out];simp[h1,hn1,hn2]
   have hcast:((rs.length:Int)-1)=((rs.length-1:Nat):Int):=by omega
   have HCA:Hid (((rs.length:Int)-1)=((rs.length-1:Nat):Int)):=hcast;clear hcast;go_wp2_with fail;rw[HCA.out];refine(Kt b off cap rs hlen HL.out (rs.length-1) _ (by omega) (XJ hb hB.size) (fun i hi=>(HR.out i hi).later hb hB) (fun r hr=>(HO.out r hr).below hB)).mono ?_;rintro e w1 ⟨rfl,hb1⟩;go_wp2;go_ret;exact⟨by rw[HS.out];exact aj (by rw[X9];simp),hB.trans (hb1.mono hB.size)⟩
  have HS:Hid (aS (au rs)=false):=by
   show _=_;have h1:¬own (au rs)<=1:=by rw[<-HOW.out];exact ho
   simp[aS,h1]
  go_wp2;go_ret;exact⟨by rw[HS.out];rfl,hB⟩
 have HN:Hid (aS (au rs)=false):=EL (by rw[HEL.out];exact hn);go_enter func174,ntmps174;go_wp2_with fail
 all_goals go_ret
 all_goals exact⟨by rw[HN.out];rfl,XL _ _⟩
theorem mZ(ad:Q02)(cap:Nat)(rs:Q08)(w:ag)(hlen:rs.length<=1048576)(hl:∀r∈rs,r.e.light)(hf:∀r∈rs,r.e.fits)(hs:iE w ad rs):
  Calls prog 174 #[.slice ad rs.length cap] w fun e w'=>e=.returned (.bool (aS (au rs)))/\ae w w':=by
 rcases hs with rfl|⟨b,off,rfl,hb,hr,hok⟩
 ·go_enter func174,ntmps174;go_wp2_with fail;go_ret;exact⟨rfl,XL _ _⟩
 exact Bw b off cap rs w hlen hl hf hb hr hok
theorem EM(x y:Al):kN x y=kN y x:=by
 unfold kN;rw[X9];simp only[XN,beq_iff_eq];exact⟨fun h=>⟨h.1.symm,h.2.symm⟩,fun h=>⟨h.1.symm,h.2.symm⟩⟩
theorem NR(ad:Q02)(n cap:Nat)(xs:Q0a)(v:Al)(w:ag)(hn:n<=xs.length)(hlen:xs.length<=1048576)(hs:mJ w ad xs):
  Calls prog 221 #[.slice ad n cap,.agg #[.string v.t,.string v.s]] w fun e w'=>(∃r:Int,e=.returned (.int .i64 r)/\decide (0<=r)=dR xs n v)/\ae w w':=by
 obtain⟨W,hW⟩:=eQx (w.alloc (.cells #[.string v.t,.string v.s] 216));have HB0:Hid (ae w W):=by show Below _ _ _;rw[hW];exact(XL w.heap.size w).alloc (XK _) _
 have hz:w.heap.size<W.heap.size:=by rw[hW];simp
 have b0:W.cell? ⟨w.heap.size,0,none⟩=some (.string v.t):=by rw[hW];simp
 have b1:W.cell? ⟨w.heap.size,1,none⟩=some (.string v.s):=by rw[hW];simp
 have HS:=aK (hs.below HB0.out);clear hs;go_enter func221,ntmps221;go_wp2_with fail;rw[<-hW];clear hW;go_loopw[8] (fun i wr=>∃k:Nat,k<=n/\i=.int .i64 k/\Hid (dR xs k v=false)/\ae W wr) (fun i _=>n-(intOf i).toNat);case atStart=>exact⟨0,XP _,rfl,uY _ _,XL _ _⟩
 obtain⟨k,hk,rfl,HP,hB⟩:=hrel;have a0:=kept hB hz b0;have a1:=kept hB hz b1;by_cases hlt:k<n
 ·have hltx:k<xs.length:=by omega
  rcases HS.out.below hB with rfl|⟨b,off,rfl,hb,hr⟩
  ·simp at hltx
  obtain⟨t0,t1⟩:=hr k hltx;have hk1:=bG k;have hk2:(k:Int)<(n:Int):=by omega
  clear hr;cases hq:kN v xs[k];case true=>
   have HE:=Gf v xs[k] hq;have HN:Hid (dR xs n v=true):=EK hlt hltx (by rw[EM];exact hq);go_wp2_with fail;go_quiet (fail);go_wp2;go_ret;exact⟨⟨_,rfl,by rw[HN.out];simp⟩,HB0.out.trans (below_drewN (hB.mono HB0.out.size) _)⟩
  have HE:=Gf v xs[k] hq;have Zc:Hid (dR xs (k+1) v=false):=by show _=_;rw[uX _ _ _ hltx,HP.out,EM,hq];rfl
  go_wp2_with fail;go_quiet (fail);go_wp2;go_roundw;case rel=>exact⟨k+1,by omega,by go_num,Zc,below_drewN hB _⟩
  simp[intOf]<;>omega
 obtain rfl:k=n:=by omega
 go_wp2;go_ret;exact⟨⟨-1,rfl,by rw[HP.out];rfl⟩,HB0.out.trans (hB.mono HB0.out.size)⟩
theorem wJ(ad:Q02)(n cap:Nat)(xs:Q0a)(v:Al)(w:ag)(hn:n<=xs.length)(hlen:xs.length<=1048576)(hs:mJ w ad xs):
  Calls prog 149 #[.slice ad n cap,.agg #[.string v.t,.string v.s]] w fun e w'=>e=.returned (.bool (dR xs n v))/\ae w w':=by
 have HB0:Hid (ae w (w.alloc (.cells #[.string v.t,.string v.s] 216))):=(XL w.heap.size w).alloc (XK _) _;have HS:=aK hs;clear hs;go_enter func149,ntmps149;go_wp2_with fail;refine(NR ad n cap xs v _ hn hlen (HS.out.below HB0.out)).mono ?_;rintro e w1 ⟨⟨r,rfl,hr⟩,hb1⟩;have HR:Hid (decide (0<=r)=dR xs n v):=hr;have HB1:=jr HB0 hb1;clear hr hb1;go_wp2;go_ret;exact⟨aj HR.out,HB1.out⟩
set_option maxRecDepth 8000 in
theorem Gi(r:ER)(w:ag)(hf:r.e.fits)(h1:r.e.kind≠1):
  Calls prog 250 #[r.val] w fun e w'=>e=.returned (.bool (aD r.e))/\ae w w':=by
 obtain⟨⟨kind,allow,over,name,kids⟩,adA,capA,adK,capK⟩:=r;obtain⟨f1,f2,f3,f4,f5⟩:=hf;simp only at f1 f2 f3 f4 f5 h1;simp only[ER.val];unfold maxLen at f4 f5;by_cases h2:kind=2
 ·subst h2;clear h1;go_enter func250,ntmps250;go_wp2_with fail;go_quiet (fail);go_wp2_with(go_at_call 122;refine(aT _ _ (by assumption)).mono ?_;rintro e w' ⟨rfl,rfl⟩)
  all_goals go_ret
  all_goals exact⟨aj (by first|(simp[aD, *];done)|(simp[aD, *];omega)|(simp[aD, *];rw[X9];simp;done)|(simp[aD, *];rw[X9];simp;omega)),below_drewN ((XL w.heap.size w).alloc (XK _) _) _⟩
 by_cases h3:kind=3
 ·subst h3;clear h1;go_enter func250,ntmps250;go_wp2_with fail;go_quiet (fail);go_wp2_with(go_at_call 122;refine(aT _ _ (by assumption)).mono ?_;rintro e w' ⟨rfl,rfl⟩)
  all_goals go_ret
  all_goals exact⟨aj (by first|(simp[aD, *];done)|(simp[aD, *];omega)|(simp[aD, *];rw[X9];simp;done)|(simp[aD, *];rw[X9];simp;omega)),below_drewN ((XL w.heap.size w).alloc (XK _) _) _⟩
 by_cases h4:kind=4
 ·subst h4;clear h1;go_enter func250,ntmps250;go_wp2_with fail;go_quiet (fail);go_wp2_with(go_at_call 122;refine(aT _ _ (by assumption)).mono ?_;rintro e w' ⟨rfl,rfl⟩)
  all_goals go_ret
  all_goals exact⟨aj (by first|(simp[aD, *];done)|(simp[aD, *];omega)|(simp[aD, *];rw[X9];simp;done)|(simp[aD, *];rw[X9];simp;omega)),below_drewN ((XL w.heap.size w).alloc (XK _) _) _⟩
 by_cases h5:kind=5
 ·subst h5;clear h1;go_enter func250,ntmps250;go_wp2_with fail;go_quiet (fail);go_wp2_with(go_at_call 122;refine(aT _ _ (by assumption)).mono ?_;rintro e w' ⟨rfl,rfl⟩)
  all_goals go_ret
  all_goals exact⟨aj (by first|(simp[aD, *];done)|(simp[aD, *];omega)|(simp[aD, *];rw[X9];simp;done)|(simp[aD, *];rw[X9];simp;omega)),below_drewN ((XL w.heap.size w).alloc (XK _) _) _⟩
 by_cases h6:kind=6
 ·subst h6;clear h1;go_enter func250,ntmps250;go_wp2_with fail;go_quiet (fail);go_wp2_with(go_at_call 122;refine(aT _ _ (by assumption)).mono ?_;rintro e w' ⟨rfl,rfl⟩)
  all_goals go_ret
  all_goals exact⟨aj (by first|(simp[aD, *];done)|(simp[aD, *];omega)|(simp[aD, *];rw[X9];simp;done)|(simp[aD, *];rw[X9];simp;omega)),below_drewN ((XL w.heap.size w).alloc (XK _) _) _⟩
 go_enter func250,ntmps250;go_wp2_with fail;go_quiet (fail);go_wp2_with(go_at_call 122;refine(aT _ _ (by assumption)).mono ?_;rintro e w' ⟨rfl,rfl⟩)
 all_goals go_ret
 all_goals exact⟨aj (by first|(simp[aD, *];done)|(simp[aD, *];omega)|(simp[aD, *];rw[X9];simp;done)|(simp[aD, *];rw[X9];simp;omega)),below_drewN ((XL w.heap.size w).alloc (XK _) _) _⟩
end Go.Proofs.YtojjoblnpldniaaGreat
