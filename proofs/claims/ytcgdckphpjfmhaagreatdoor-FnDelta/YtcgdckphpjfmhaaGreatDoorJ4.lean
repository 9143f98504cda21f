/- Contracts of the document's functions that look at an expression. -/
import Derived.Test.YtcgdckphpjfmhaaGreatDoorSq
import Derived.Test.YtcgdckphpjfmhaaGreatDoorJ1
open Go.Proofs.Tryz
set_option maxHeartbeats 80000000
namespace Go.Proofs.YtcgdckphpjfmhaaGreatDoor
open ChangeShapes WideShapes ChangeAt RowKit
open Pl
theorem Ah(n lo hi:Int)(w:ae):
  Calls prog 92 #[.int .i64 n,.int .i64 lo,.int .i64 hi] w fun e w'=>e=.returned (.bool (decide (lo<=n)&&decide (n<=hi)))/\w'=w:=by
 go_enter func92,ntmps92;go_wp2
 all_goals go_ret
 all_goals exact⟨ah (by simp[*]<;>omega),rfl⟩
set_option maxRecDepth 8000 in
theorem mJ(r:ER)(w:ae)(hf:r.e.fits)(h1:r.e.kind≠1):
  Calls prog 193 #[r.val] w fun e w'=>e=.returned (.bool (ay r.e))/\af w w':=by
 obtain⟨⟨kind,allow,over,name,kids⟩,adA,capA,adK,capK⟩:=r;obtain⟨f1,f2,f3,f4,f5⟩:=hf;simp only at f1 f2 f3 f4 f5 h1;simp only[ER.val];unfold maxLen at f4 f5;by_cases h2:kind=2
 ·subst h2;clear h1;go_enter func193,ntmps193;go_wp2_with(go_at_call 151;refine(aT _ _ (by assumption)).mono ?_;rintro e w' ⟨rfl,rfl⟩)
  all_goals go_ret
  all_goals exact⟨ah (by first|(simp[ay, *];done)|(simp[ay, *];omega)|(simp[ay, *];rw[Wy];simp;done)|(simp[ay, *];rw[Wy];simp;omega)),(V5 w.heap.size w).alloc (V4 _) _⟩
 by_cases h3:kind=3
 ·subst h3;clear h1;go_enter func193,ntmps193;go_wp2_with(go_at_call 151;refine(aT _ _ (by assumption)).mono ?_;rintro e w' ⟨rfl,rfl⟩)
  all_goals go_ret
  all_goals exact⟨ah (by first|(simp[ay, *];done)|(simp[ay, *];omega)|(simp[ay, *];rw[Wy];simp;done)|(simp[ay, *];rw[Wy];simp;omega)),(V5 w.heap.size w).alloc (V4 _) _⟩
 by_cases h4:kind=4
 ·subst h4;clear h1;go_enter func193,ntmps193;go_wp2_with(go_at_call 151;refine(aT _ _ (by assumption)).mono ?_;rintro e w' ⟨rfl,rfl⟩)
  all_goals go_ret
  all_goals exact⟨ah (by first|(simp[ay, *];done)|(simp[ay, *];omega)|(simp[ay, *];rw[Wy];simp;done)|(simp[ay, *];rw[Wy];simp;omega)),(V5 w.heap.size w).alloc (V4 _) _⟩
 by_cases h5:kind=5
 ·subst h5;clear h1;go_enter func193,ntmps193;go_wp2_with(go_at_call 151;refine(aT _ _ (by assumption)).mono ?_;rintro e w' ⟨rfl,rfl⟩)
  all_goals go_ret
  all_goals exact⟨ah (by first|(simp[ay, *];done)|(simp[ay, *];omega)|(simp[ay, *];rw[Wy];simp;done)|(simp[ay, *];rw[Wy];simp;omega)),(V5 w.heap.size w).alloc (V4 _) _⟩
 by_cases h6:kind=6
 ·subst h6;clear h1;go_enter func193,ntmps193;go_wp2_with(go_at_call 151;refine(aT _ _ (by assumption)).mono ?_;rintro e w' ⟨rfl,rfl⟩)
  all_goals go_ret
  all_goals exact⟨ah (by first|(simp[ay, *];done)|(simp[ay, *];omega)|(simp[ay, *];rw[Wy];simp;done)|(simp[ay, *];rw[Wy];simp;omega)),(V5 w.heap.size w).alloc (V4 _) _⟩
 go_enter func193,ntmps193;go_wp2_with(go_at_call 151;refine(aT _ _ (by assumption)).mono ?_;rintro e w' ⟨rfl,rfl⟩)
 all_goals go_ret
 all_goals exact⟨ah (by first|(simp[ay, *];done)|(simp[ay, *];omega)|(simp[ay, *];rw[Wy];simp;done)|(simp[ay, *];rw[Wy];simp;omega)),(V5 w.heap.size w).alloc (V4 _) _⟩
theorem EK(x y:Al){v:Bool}(h:kI x y=v)(w:ae):
  (binOp .eql 223 (.agg #[.string x.t,.string x.s]) (.agg #[.string y.t,.string y.s])).run prog w=.ok (.bool v) w:=by
 subst h;go_simp;unfold kI;by_cases h1:x.t.toList=y.t.toList<;>by_cases h2:x.s.toList=y.s.toList<;>simp[h1,h2]
theorem Dg{xs:Q0a}{j k:Nat}{a:Al}(hjk:j<k)(hj:j<xs.length)(h:kI xs[j] a=true):dR xs k a=true:=by
 unfold dR;rw[Xe];refine⟨xs[j],?_,h⟩;rw[List.mem_take_iff_getElem];exact⟨j,by omega,rfl⟩
set_option maxRecDepth 8000 in
theorem Co(r:ER)(w:ae)(hf:r.e.fits)(hok:r.ok w)(h1:r.e.kind=1):
  Calls prog 193 #[r.val] w fun e w'=>e=.returned (.bool (ay r.e))/\af w w':=by
 obtain⟨⟨kind,allow,over,name,kids⟩,adA,capA,adK,capK⟩:=r;obtain⟨f1,f2,f3,f4,f5⟩:=hf;obtain⟨hA,hK⟩:=hok;simp only at f1 f2 f3 f4 f5 h1 hA hK;subst h1;simp only[ER.val];unfold maxLen at f4 f5;by_cases hl:1<=allow.length/\allow.length<=6
 ·obtain⟨hl1,hl2⟩:=hl;obtain⟨W,hW⟩:∃W,W=w.alloc (.cells #[.int .i64 1,.slice adA allow.length capA,.string over,.string name,.slice adK kids.length capK] 188):=⟨_,rfl⟩;have HB0:Hid (af w W):=by show Below _ _ _;rw[hW];exact(V5 w.heap.size w).alloc (V4 _) _
  have hz:w.heap.size<W.heap.size:=by rw[hW];simp
  have b1:W.cell? ⟨w.heap.size,1,none⟩=some (.slice adA allow.length capA):=by rw[hW];simp
  have b2:W.cell? ⟨w.heap.size,2,none⟩=some (.string over):=by rw[hW];simp
  have b3:W.cell? ⟨w.heap.size,3,none⟩=some (.string name):=by rw[hW];simp
  have HA:=aC (hA.below HB0.out);have Yc:=aC f1;clear hA hK f1;go_enter func193,ntmps193;go_wp2_with fail;rw[<-hW];clear hW;go_loopw[4] (fun i wr=>∃k:Nat,k<=allow.length/\i=.int .i64 k/\Hid (Ey allow k=true)/\af W wr) (fun i _=>allow.length-(intOf i).toNat);case atStart=>exact⟨0,Wd _,rfl,rfl,V5 _ _⟩
  obtain⟨k,hk,rfl,HU,hB⟩:=hrel;have a1:=kept hB hz b1;have a2:=kept hB hz b2;have a3:=kept hB hz b3;by_cases hlt:k<allow.length
  ·rcases HA.out.below hB with rfl|⟨b,off,rfl,hb,hr⟩
   ·simp at hlt
   obtain⟨t0,t1⟩:=hr k hlt;obtain⟨z0,z1⟩:=Yc.out allow[k] (VZ hlt);have HR:Hid (∀(i:Nat) (h:i<allow.length),Ua wr b (off+i*2) allow[i]):=hr;clear hr;obtain⟨W1,hW1⟩:∃W1,W1=wr.alloc (.cells #[.string allow[k].t,.string allow[k].s] 223):=⟨_,rfl⟩;have hal:af wr W1:=by rw[hW1];exact(V5 _ _).alloc (V4 _) _
   have hBW1:Below W.heap.size wr W1:=hal.mono hB.size;have hsz:w.heap.size<wr.heap.size:=VY hz hB.size;have hWs:W.heap.size<=W1.heap.size:=Wh hB.size hal.size;have c1:=kept hal hsz a1;have c2:=kept hal hsz a2;have c3:=kept hal hsz a3;have hbl:b<W1.heap.size:=VY hb hal.size;have hgl:wr.heap.size<W1.heap.size:=by rw[hW1];simp
   have g0:W1.cell? ⟨wr.heap.size,0,none⟩=some (.string allow[k].t):=by rw[hW1];simp
   have g1:W1.cell? ⟨wr.heap.size,1,none⟩=some (.string allow[k].s):=by rw[hW1];simp
   have HR1:Hid (∀(i:Nat) (h:i<allow.length),Ua W1 b (off+i*2) allow[i]):=fun i hi=>(HR.out i hi).same fun o=>hal.cell (p:=⟨b,o,none⟩) hb;cases hn:aR allow[k].t;case false=>
    have HN:Hid (Ey allow allow.length=false):=pI allow k hlt (by simp[F4,hn]) _ hlt;go_wp2_with(go_at_call 151;refine(aT _ _ (by assumption)).mono ?_;rintro e w' ⟨rfl,rfl⟩);go_ret;exact⟨ah (by simp[ay,ed,HN.out]),HB0.out.trans ((hB.trans ((V5 _ _).alloc hB.size _)).mono HB0.out.size)⟩
   cases he:allow[k].s.toList.isEmpty
   case' true =>
    have HAl:Hid (F4 allow[k]=true):=by show _=_;simp[F4,uT,hn,he]
    go_wp2_with(go_at_call 151;refine(aT _ _ (by assumption)).mono ?_;rintro e w' ⟨rfl,rfl⟩);rw[<-hW1]
   case' false =>
    cases hm:aR allow[k].s;case false =>
     have HN:Hid (Ey allow allow.length=false):=pI allow k hlt (by simp[F4,hn,uT,he,hm]) _ hlt;go_wp2_with(go_at_call 151;refine(aT _ _ (by assumption)).mono ?_;rintro e w' ⟨rfl,rfl⟩);go_ret;exact⟨ah (by simp[ay,ed,HN.out]),HB0.out.trans ((hB.trans ((V5 _ _).alloc hB.size _)).mono HB0.out.size)⟩
    have HAl:Hid (F4 allow[k]=true):=by show _=_;simp[F4,uT,hn,he,hm]
    go_wp2_with(go_at_call 151;refine(aT _ _ (by assumption)).mono ?_;rintro e w' ⟨rfl,rfl⟩);rw[<-hW1]
   all_goals
    go_loopw[6] (fun i w2=>∃j:Nat,j<=k/\i=.int .i64 j/\Hid (dR allow j allow[k]=false)/\af W1 w2) (fun i _=>k-(intOf i).toNat);case atStart=>exact⟨0,Wd _,rfl,uq _ _,V5 _ _⟩
    obtain⟨j,hj,rfl,HP,hB2⟩:=hrel;rename_i w2 _;have d1:=kept hB2 (by omega) c1;have d2:=kept hB2 (by omega) c2;have d3:=kept hB2 (by omega) c3;have p0:=kept hB2 hgl g0;have p1:=kept hB2 hgl g1;by_cases hjk:j<k
    ·obtain⟨q0,q1⟩:=(HR1.out j (by omega)).same fun o=>hB2.cell (p:=⟨b,o,none⟩) hbl;have hj1:=bC j;have hj2:(j:Int)<(allow.length:Int):=by omega
     cases hq:kI allow[j] allow[k];case true=>
      have HE:=EK allow[j] allow[k] hq;have HN:Hid (Ey allow allow.length=false):=pI allow k hlt (by rw[(Dg hjk (by omega) hq)];simp) _ hlt;go_wp2_with fail;go_quiet (fail);go_wp2;go_ret;exact⟨ah (by simp[ay,ed,HN.out]),HB0.out.trans ((hB.trans (hBW1.trans (hB2.mono (by omega)))).mono HB0.out.size |> fun h=>below_drewN h _)⟩
     have HE:=EK allow[j] allow[k] hq;have XA:Hid (dR allow (j+1) allow[k]=false):=by show _=_;rw[ul _ _ _ (by omega),HP.out,hq];rfl
     go_wp2_with fail;go_quiet (fail);go_wp2;go_roundw;case rel=>exact⟨j+1,by omega,by go_num,XA,below_drewN hB2 _⟩
     simp[intOf];omega
    obtain rfl:j=k:=by omega
    have HU2:Hid (Ey allow (j+1)=true):=by show _=_;rw[zH _ _ hlt,HU.out,HAl.out,HP.out];rfl
    go_wp2;go_roundw;case rel=>exact⟨j+1,by omega,by go_num,HU2,hB.trans (hBW1.trans (hB2.mono (by omega)))⟩
    simp[intOf];omega
  obtain rfl:k=allow.length:=by omega
  have HAW:Hid (ed allow=true):=by show _=_;simp[ed,hl1,hl2,HU.out]
  go_wp2
  all_goals go_ret
  all_goals exact⟨ah (by first|(simp[ay,HAW.out, *];done)|(simp[ay,HAW.out, *];rw[Wy];simp;done)),HB0.out.trans (hB.mono HB0.out.size)⟩
 go_enter func193,ntmps193;go_wp2_with fail
 all_goals go_ret
 all_goals exact⟨ah (by simp[ay,ed];omega),(V5 w.heap.size w).alloc (V4 _) _⟩
theorem EL(r:ER)(w:ae)(hf:r.e.fits)(hok:r.ok w):
  Calls prog 193 #[r.val] w fun e w'=>e=.returned (.bool (ay r.e))/\af w w':=by
 by_cases h:r.e.kind=1
 ·exact Co r w hf hok h
 exact mJ r w hf h
theorem pU(rs:Q08)(n:Nat)(h:n<rs.length):mr (aj rs) n=rs[n].e.kids:=by simp[mr,aj,h]
theorem Jf(b off cap:Nat)(rs:Q08)(hlen:rs.length<=1048576)(hl:∀r∈rs,r.e.light)(n:Nat):∀(w:ae),n<rs.length->b<w.heap.size->(∀(i:Nat) (h:i<rs.length),yQ w b (off+i*5) rs[i])->(∀r∈rs,r.ok w) ->
  Calls prog 194 #[.slice (some ⟨b,off,none⟩) rs.length cap,.int .i64 (n:Int)] w fun e w'=>e=.returned (.int .i64 (aI (aj rs) n))/\af w w':=by
 induction n using Nat.strongRecOn with
 | ind n ih =>
  intro w hn hb hr hok
  have IH:Hid (∀ m,m<n->∀ (w:World),m<rs.length->b<w.heap.size->(∀ (i:Nat) (h:i<rs.length),yQ w b (off+i*5) rs[i])->(∀ r∈rs,r.ok w) ->
   Calls prog 194 #[.slice (some ⟨b,off,none⟩) rs.length cap,.int .i64 (m:Int)] w fun e w'=>e=.returned (.int .i64 (aI (aj rs) m))/\af w w'):=ih
  have HR:Hid (∀(i:Nat) (h:i<rs.length),yQ w b (off+i*5) rs[i]):=hr;have HO:=aC hok;obtain⟨t0,t1,t2,t3,t4⟩:=hr n hn;obtain⟨l1,l2⟩:=hl rs[n] (VZ hn);have hn1:=bC n;have hn2:(n:Int)<(rs.length:Int):=by omega
  have HT:Hid (aI (aj rs) n=dC (dS (aj rs) n) rs[n].e.kids.reverse ((n:Int)-1)):=by show _=_;rw[jU,pU rs n hn]
  have HL:=aC hl;clear ih hr hok hl l1;go_enter func194,ntmps194;go_wp2_with fail;go_loopw[5,6] (fun a i wr=>∃(j:Nat) (x:Int),j<=rs[n].e.kids.length/\i=.int .i64 ((j:Int)-1)/\a=.int .i64 x∧-1<=x/\x<n/\Hid (dC (dS (aj rs) n) (rs[n].e.kids.take j).reverse x=aI (aj rs) n)/\af w wr) (fun _ i _=>(intOf i+1).toNat);case atStart=>exact⟨rs[n].e.kids.length,(n:Int)-1,V4 _,rfl,rfl,by omega,by omega,(by show _=_;rw[Wo];exact HT.out.symm),V5 _ _⟩
  obtain⟨j,x,hj,rfl,rfl,hx0,hx1,HG,hB⟩:=hrel;have s4:=kept hB hb t4;by_cases hj0:0<j
  ·obtain⟨j,rfl⟩:∃i,j=i+1:=⟨j-1,by omega⟩;have hjl:j<rs[n].e.kids.length:=by omega
   rcases (HO.out rs[n] (VZ hn)).2.below hB with hnil|⟨bk,offk,aab,hbk,hrk⟩
   ·rw[hnil]at hjl;simp at hjl
   rw[aab]at s4;have k0:=hrk j hjl;clear hrk;have hji:((j+1:Nat):Int)-1=(j:Int):=by omega
   have hj1:=bC j;have hj2:(j:Int)<(rs[n].e.kids.length:Int):=by omega
   have HG2:Hid ((if x<0\/rs[n].e.kids[j]≠x then -1 else if dS (aj rs) n x<0 then -1 else dC (dS (aj rs) n) (rs[n].e.kids.take j).reverse (dS (aj rs) n x-1))=aI (aj rs) n):=by
    have:=HG.out;rw[V8 hjl,List.reverse_append]at this;exact this
   rw[hji];clear HG aab t0 t1 t2 t3 t4;by_cases hxn:x<0
   ·have HT1:Hid (aI (aj rs) n=-1):=by show _=_;rw[<-HG2.out,if_pos (Or.inl hxn)]
    go_wp2;go_ret;exact⟨by rw[HT1.out];rfl,hB⟩
   by_cases hkx:rs[n].e.kids[j]=x
   ·obtain⟨m,rfl⟩:∃m:Nat,x=(m:Int):=⟨x.toNat,by omega⟩;have hF:dS (aj rs) n (m:Int)=aI (aj rs) m:=by unfold dS;rw[if_pos ⟨by omega,by simp;omega⟩];simp
    have HF:Hid (dS (aj rs) n (m:Int)=aI (aj rs) m):=hF;have hle:=oF (aj rs) m;clear hF;go_wp2_with fail;refine(IH.out m (by omega) _ (by omega) (VY hb hB.size) (fun i hi=>(HR.out i hi).same fun o=>hB.cell (p:=⟨b,o,none⟩) hb) (fun r hr=>(HO.out r hr).below hB)).mono ?_;rintro e w1 ⟨rfl,hb1⟩;have hB1:af w w1:=hB.trans (hb1.mono hB.size);clear hb1;by_cases hneg:aI (aj rs) m<0
    ·have HT1:Hid (aI (aj rs) n=-1):=by show _=_;rw[<-HG2.out,if_neg (by omega),HF.out,if_pos hneg]
     go_wp2;go_ret;exact⟨by rw[HT1.out];rfl,hB1⟩
    have HG3:Hid (dC (dS (aj rs) n) (rs[n].e.kids.take j).reverse (aI (aj rs) m-1)=aI (aj rs) n):=by
     show _=_;rw[<-HG2.out,if_neg (by omega),HF.out,if_neg hneg]
    go_wp2;go_roundw;case rel=>exact⟨j,aI (aj rs) m-1,by omega,by go_num,rfl,by omega,by omega,HG3,hB1⟩
    simp[intOf]<;>omega
   have HT1:Hid (aI (aj rs) n=-1):=by show _=_;rw[<-HG2.out,if_pos (Or.inr hkx)]
   go_wp2;go_ret;exact⟨by rw[HT1.out];rfl,hB⟩
  obtain rfl:j=0:=by omega
  have HT1:Hid (aI (aj rs) n=x+1):=by show _=_;have:=HG.out;simp[dC]at this;exact this.symm
  clear HG t0 t1 t2 t3 t4;go_wp2;go_ret;exact⟨by rw[HT1.out];rfl,hB⟩
theorem yQ.later{w w':ae}{b off:Nat}{r:ER}(h:yQ w b off r)(hb:b<w.heap.size)(hB:af w w'):yQ w' b off r:=h.same fun o=>hB.cell (p:=⟨b,o,none⟩) hb
theorem Dh{es:Q09}(h:¬(1<=es.length/\es.length<=15)):aP es=false:=by
 unfold aP;by_cases h1:1<=es.length
 ·have h2:¬es.length<=15:=fun h2=>h ⟨h1,h2⟩;simp[h2]
 simp[h1]
theorem Jg{es:Q09}(k:Nat)(h:k<es.length)(hb:ay es[k]=false):aP es=false:=by simp[aP,CU es k h hb]
theorem Jh{es:Q09}(k:Nat)(h:k<es.length)(hb:lh es k=false):aP es=false:=by simp[aP,OC es k h hb]
def pV(zs:List Int)(i j:Nat):Bool:=(zs.take j).all fun k=>decide (0<=k)&&decide (k<=(i:Int)-1)
theorem EM(zs:List Int)(i j:Nat)(h:j<zs.length):pV zs i (j+1)=(pV zs i j&&(decide (0<=zs[j])&&decide (zs[j]<=(i:Int)-1))):=by
 unfold pV;rw[V8 h,Xj];simp
theorem Gi(zs:List Int)(i j:Nat)(h:j<zs.length)(hb:(decide (0<=zs[j])&&decide (zs[j]<=(i:Int)-1))=false):(zs.all fun k=>decide (0<=k)&&decide (k<=(i:Int)-1))=false:=by
 rw[Bool.eq_false_iff];intro h2;rw[Wq]at h2;have:=h2 zs[j] (VZ h);rw[hb]at this;cases this
set_option maxRecDepth 4000 in
theorem Ai(b off cap:Nat)(rs:Q08)(w:ae)(hlen:rs.length<=1048576)(hl:∀r∈rs,r.e.light)(hf:∀r∈rs,r.e.fits)(hb:b<w.heap.size)(hr:∀(i:Nat) (h:i<rs.length),yQ w b (off+i*5) rs[i])(hok:∀r∈rs,r.ok w):
  Calls prog 152 #[.slice (some ⟨b,off,none⟩) rs.length cap] w fun e w'=>e=.returned (.bool (aP (aj rs)))/\af w w':=by
 have hel:=bf rs;have Y5:Hid ((aj rs).length=rs.length):=hel;have HL:=aC hl;have HF:=aC hf;have HR:Hid (∀(i:Nat) (h:i<rs.length),yQ w b (off+i*5) rs[i]):=hr;have HO:=aC hok;clear hel hl hf hr hok;by_cases hn:1<=rs.length/\rs.length<=15
 ·obtain⟨hn1,hn2⟩:=hn;go_enter func152,ntmps152;go_wp2_with fail;go_loopw[3,4] (fun o i wr=>∃k:Nat,k<=rs.length/\i=.int .i64 k/\o=.int .i64 (gG (aj rs) k:Nat)/\Hid (jw (aj rs) k=true/\je (aj rs) k=true)/\af w wr) (fun _ i _=>rs.length-(intOf i).toNat);case atStart=>exact⟨0,Wd _,rfl,rfl,⟨by simp[jw],by simp[je]⟩,V5 _ _⟩
  obtain⟨k,hk,rfl,rfl,HU,hB⟩:=hrel;by_cases hlt:k<rs.length
  ·have Ze:k<(aj rs).length:=by rw[Y5.out];exact hlt
   have hek:(aj rs)[k]=rs[k].e:=by simp[aj]
   have HEK:Hid ((aj rs)[k]=rs[k].e):=hek;obtain⟨t0,t1,t2,t3,t4⟩:=(HR.out k hlt).later hb hB;clear hek;have hk1:=bC k;have hk2:(k:Int)<(rs.length:Int):=by omega
   have hol:=uV (aj rs) k;go_wp2_with fail;refine(EL rs[k] _ (HF.out _ (VZ hlt)) ((HO.out _ (VZ hlt)).below hB)).mono ?_;rintro e w1 ⟨rfl,hb1⟩;cases Xu:ay rs[k].e;case false=>
    have HN:Hid (aP (aj rs)=false):=Jg k Ze (by rw[HEK.out];exact Xu);go_wp2;go_ret;exact⟨by rw[HN.out];rfl,hB.trans (hb1.mono hB.size)⟩
   have hB1:af w w1:=hB.trans (hb1.mono hB.size);have hbw:b<wr.heap.size:=VY hb hB.size;replace t0:=kept hb1 hbw t0;replace t4:=kept hb1 hbw t4;have hbw1:b<w1.heap.size:=VY hbw hb1.size;clear t1 t2 t3 hb1 hB hbw;go_wp2_with fail;go_loopw[5] (fun i w2=>∃j:Nat,j<=rs[k].e.kids.length/\i=.int .i64 j/\Hid (pV rs[k].e.kids k j=true)/\w2=w1) (fun i _=>rs[k].e.kids.length-(intOf i).toNat);case atStart=>exact⟨0,Wd _,rfl,(by show _=_;simp[pV]),rfl⟩
   obtain⟨j,hj,rfl,HP,rfl⟩:=hrel;by_cases hjl:j<rs[k].e.kids.length
   ·rcases (HO.out rs[k] (VZ hlt)).2.below hB1 with hnil|⟨bk,offk,aab,hbk,hrk⟩
    ·rw[hnil]at hjl;simp at hjl
    have t4':=t4;rw[aab]at t4';have k0:=hrk j hjl;have hj1:=bC j;have hj2:(j:Int)<(rs[k].e.kids.length:Int):=by omega
    obtain⟨-,lk⟩:=HL.out rs[k] (VZ hlt);clear hrk aab t4;go_wp2_with fail;refine(Ah _ _ _ _).mono ?_;rintro e w' ⟨rfl,rfl⟩;cases hin:(decide (0<=rs[k].e.kids[j])&&decide (rs[k].e.kids[j]<=(k:Int)-1));case false=>
     have HN:Hid (aP (aj rs)=false):=Jh k Ze (by unfold lh;rw[pU rs k hlt];exact Gi _ k j hjl hin);go_wp2;go_ret;exact⟨by rw[HN.out];rfl,hB1⟩
    have XA:Hid (pV rs[k].e.kids k (j+1)=true):=by show _=_;rw[EM _ _ _ hjl,HP.out,hin];rfl
    go_wp2;go_roundw;case rel=>exact⟨j+1,by omega,by go_num,XA,by first|rfl|trivial⟩
    simp[intOf]<;>omega
   obtain rfl:j=rs[k].e.kids.length:=by omega
   have HU2:Hid (jw (aj rs) (k+1)=true/\je (aj rs) (k+1)=true):=by
    refine⟨?_,?_⟩
    ·rw[uW _ _ Ze,HU.out.1,HEK.out,Xu];rfl
    rw[F5,HU.out.2];unfold lh;rw[pU rs k hlt];have:=HP.out;unfold pV at this;rw[Wo]at this;rw[this];rfl
   have HOW:Hid (gG (aj rs) (k+1)=gG (aj rs) k+(if rs[k].e.kind=1 then 1 else 0)):=by show _=_;rw[zI _ _ Ze,HEK.out]
   by_cases hk1':rs[k].e.kind=1
   ·have HOW2:Hid (gG (aj rs) (k+1)=gG (aj rs) k+1):=by show _=_;rw[HOW.out,if_pos hk1']
    clear HOW;go_wp2;go_roundw;case rel=>exact⟨k+1,by omega,by go_num,by rw[HOW2.out];go_num,HU2,hB1⟩
    simp[intOf]<;>omega
   have HOW2:Hid (gG (aj rs) (k+1)=gG (aj rs) k):=by show _=_;rw[HOW.out,if_neg hk1'];rfl
   clear HOW;go_wp2;go_roundw;case rel=>exact⟨k+1,by omega,by go_num,by rw[HOW2.out],HU2,hB1⟩
   simp[intOf]<;>omega
  obtain rfl:k=rs.length:=by omega
  have HN:Hid ((aj rs).all ay=true):=by
   have:=HU.out.1;unfold jw at this;rwa [<-Y5.out,Wo]at this
  have HKU:Hid (je (aj rs) rs.length=true):=HU.out.2;have HOW:Hid (gG (aj rs) rs.length=own (aj rs)):=by show _=_;unfold gG;rw[<-Y5.out,Wo]
  have hol:=uV (aj rs) rs.length;by_cases ho:gG (aj rs) rs.length<=1
  ·have HS:Hid (aP (aj rs)=decide (aI (aj rs) (rs.length-1)=0)):=by
    show _=_;have h1:own (aj rs)<=1:=by rw[<-HOW.out];exact ho
    have e1:=Y5.out;unfold aP;rw[e1,HN.out,HKU.out];simp[h1,hn1,hn2]
   have hcast:((rs.length:Int)-1)=((rs.length-1:Nat):Int):=by omega
   have ZY:Hid (((rs.length:Int)-1)=((rs.length-1:Nat):Int)):=hcast;clear hcast;go_wp2_with fail;rw[ZY.out];refine(Jf b off cap rs hlen HL.out (rs.length-1) _ (by omega) (VY hb hB.size) (fun i hi=>(HR.out i hi).later hb hB) (fun r hr=>(HO.out r hr).below hB)).mono ?_;rintro e w1 ⟨rfl,hb1⟩;go_wp2;go_ret;exact⟨by rw[HS.out];exact ah (by rw[Wy];simp),hB.trans (hb1.mono hB.size)⟩
  have HS:Hid (aP (aj rs)=false):=by
   show _=_;have h1:¬own (aj rs)<=1:=by rw[<-HOW.out];exact ho
   simp[aP,h1]
  go_wp2;go_ret;exact⟨by rw[HS.out];rfl,hB⟩
 have HN:Hid (aP (aj rs)=false):=Dh (by rw[Y5.out];exact hn);go_enter func152,ntmps152;go_wp2_with fail
 all_goals go_ret
 all_goals exact⟨by rw[HN.out];rfl,V5 _ _⟩
theorem mM(ad:Q02)(cap:Nat)(rs:Q08)(w:ae)(hlen:rs.length<=1048576)(hl:∀r∈rs,r.e.light)(hf:∀r∈rs,r.e.fits)(hs:jv w ad rs):
  Calls prog 152 #[.slice ad rs.length cap] w fun e w'=>e=.returned (.bool (aP (aj rs)))/\af w w':=by
 rcases hs with rfl|⟨b,off,rfl,hb,hr,hok⟩
 ·go_enter func152,ntmps152;go_wp2_with fail;go_ret;exact⟨rfl,V5 _ _⟩
 exact Ai b off cap rs w hlen hl hf hb hr hok
theorem Di(x y:Al):kI x y=kI y x:=by
 unfold kI;rw[Wy];simp only[V9,beq_iff_eq];exact⟨fun h=>⟨h.1.symm,h.2.symm⟩,fun h=>⟨h.1.symm,h.2.symm⟩⟩
theorem Mk(ad:Q02)(n cap:Nat)(xs:Q0a)(v:Al)(w:ae)(hn:n<=xs.length)(hlen:xs.length<=1048576)(hs:lK w ad xs):
  Calls prog 180 #[.slice ad n cap,.agg #[.string v.t,.string v.s]] w fun e w'=>(∃r:Int,e=.returned (.int .i64 r)/\decide (0<=r)=dR xs n v)/\af w w':=by
 obtain⟨W,hW⟩:∃W,W=w.alloc (.cells #[.string v.t,.string v.s] 223):=⟨_,rfl⟩;have HB0:Hid (af w W):=by show Below _ _ _;rw[hW];exact(V5 w.heap.size w).alloc (V4 _) _
 have hz:w.heap.size<W.heap.size:=by rw[hW];simp
 have b0:W.cell? ⟨w.heap.size,0,none⟩=some (.string v.t):=by rw[hW];simp
 have b1:W.cell? ⟨w.heap.size,1,none⟩=some (.string v.s):=by rw[hW];simp
 have HS:=aC (hs.below HB0.out);clear hs;go_enter func180,ntmps180;go_wp2_with fail;rw[<-hW];clear hW;go_loopw[8] (fun i wr=>∃k:Nat,k<=n/\i=.int .i64 k/\Hid (dR xs k v=false)/\af W wr) (fun i _=>n-(intOf i).toNat);case atStart=>exact⟨0,Wd _,rfl,uq _ _,V5 _ _⟩
 obtain⟨k,hk,rfl,HP,hB⟩:=hrel;have a0:=kept hB hz b0;have a1:=kept hB hz b1;by_cases hlt:k<n
 ·have hltx:k<xs.length:=by omega
  rcases HS.out.below hB with rfl|⟨b,off,rfl,hb,hr⟩
  ·simp at hltx
  obtain⟨t0,t1⟩:=hr k hltx;have hk1:=bC k;have hk2:(k:Int)<(n:Int):=by omega
  clear hr;cases hq:kI v xs[k];case true=>
   have HE:=EK v xs[k] hq;have HN:Hid (dR xs n v=true):=Dg hlt hltx (by rw[Di];exact hq);go_wp2_with fail;go_quiet (fail);go_wp2;go_ret;exact⟨⟨_,rfl,by rw[HN.out];simp⟩,HB0.out.trans (below_drewN (hB.mono HB0.out.size) _)⟩
  have HE:=EK v xs[k] hq;have XA:Hid (dR xs (k+1) v=false):=by show _=_;rw[ul _ _ _ hltx,HP.out,Di,hq];rfl
  go_wp2_with fail;go_quiet (fail);go_wp2;go_roundw;case rel=>exact⟨k+1,by omega,by go_num,XA,below_drewN hB _⟩
  simp[intOf]<;>omega
 obtain rfl:k=n:=by omega
 go_wp2;go_ret;exact⟨⟨-1,rfl,by rw[HP.out];rfl⟩,HB0.out.trans (hB.mono HB0.out.size)⟩
theorem vG(ad:Q02)(n cap:Nat)(xs:Q0a)(v:Al)(w:ae)(hn:n<=xs.length)(hlen:xs.length<=1048576)(hs:lK w ad xs):
  Calls prog 130 #[.slice ad n cap,.agg #[.string v.t,.string v.s]] w fun e w'=>e=.returned (.bool (dR xs n v))/\af w w':=by
 have HB0:Hid (af w (w.alloc (.cells #[.string v.t,.string v.s] 223))):=(V5 w.heap.size w).alloc (V4 _) _;have HS:=aC hs;clear hs;go_enter func130,ntmps130;go_wp2_with fail;refine(Mk ad n cap xs v _ hn hlen (HS.out.below HB0.out)).mono ?_;rintro e w1 ⟨⟨r,rfl,hr⟩,hb1⟩;have HR:Hid (decide (0<=r)=dR xs n v):=hr;have HB1:=kv HB0 hb1;clear hr hb1;go_wp2;go_ret;exact⟨ah HR.out,HB1.out⟩
set_option maxRecDepth 8000 in
theorem EN(r:ER)(w:ae)(hf:r.e.fits)(h1:r.e.kind≠1):
  Calls prog 229 #[r.val] w fun e w'=>e=.returned (.bool (ay r.e))/\af w w':=by
 obtain⟨⟨kind,allow,over,name,kids⟩,adA,capA,adK,capK⟩:=r;obtain⟨f1,f2,f3,f4,f5⟩:=hf;simp only at f1 f2 f3 f4 f5 h1;simp only[ER.val];unfold maxLen at f4 f5;by_cases h2:kind=2
 ·subst h2;clear h1;go_enter func229,ntmps229;go_wp2_with fail;go_quiet (fail);go_wp2_with(go_at_call 170;refine(aO _ _ (by assumption)).mono ?_;rintro e w' ⟨rfl,rfl⟩)
  all_goals go_ret
  all_goals exact⟨ah (by first|(simp[ay, *];done)|(simp[ay, *];omega)|(simp[ay, *];rw[Wy];simp;done)|(simp[ay, *];rw[Wy];simp;omega)),below_drewN ((V5 w.heap.size w).alloc (V4 _) _) _⟩
 by_cases h3:kind=3
 ·subst h3;clear h1;go_enter func229,ntmps229;go_wp2_with fail;go_quiet (fail);go_wp2_with(go_at_call 170;refine(aO _ _ (by assumption)).mono ?_;rintro e w' ⟨rfl,rfl⟩)
  all_goals go_ret
  all_goals exact⟨ah (by first|(simp[ay, *];done)|(simp[ay, *];omega)|(simp[ay, *];rw[Wy];simp;done)|(simp[ay, *];rw[Wy];simp;omega)),below_drewN ((V5 w.heap.size w).alloc (V4 _) _) _⟩
 by_cases h4:kind=4
 ·subst h4;clear h1;go_enter func229,ntmps229;go_wp2_with fail;go_quiet (fail);go_wp2_with(go_at_call 170;refine(aO _ _ (by assumption)).mono ?_;rintro e w' ⟨rfl,rfl⟩)
  all_goals go_ret
  all_goals exact⟨ah (by first|(simp[ay, *];done)|(simp[ay, *];omega)|(simp[ay, *];rw[Wy];simp;done)|(simp[ay, *];rw[Wy];simp;omega)),below_drewN ((V5 w.heap.size w).alloc (V4 _) _) _⟩
 by_cases h5:kind=5
 ·subst h5;clear h1;go_enter func229,ntmps229;go_wp2_with fail;go_quiet (fail);go_wp2_with(go_at_call 170;refine(aO _ _ (by assumption)).mono ?_;rintro e w' ⟨rfl,rfl⟩)
  all_goals go_ret
  all_goals exact⟨ah (by first|(simp[ay, *];done)|(simp[ay, *];omega)|(simp[ay, *];rw[Wy];simp;done)|(simp[ay, *];rw[Wy];simp;omega)),below_drewN ((V5 w.heap.size w).alloc (V4 _) _) _⟩
 by_cases h6:kind=6
 ·subst h6;clear h1;go_enter func229,ntmps229;go_wp2_with fail;go_quiet (fail);go_wp2_with(go_at_call 170;refine(aO _ _ (by assumption)).mono ?_;rintro e w' ⟨rfl,rfl⟩)
  all_goals go_ret
  all_goals exact⟨ah (by first|(simp[ay, *];done)|(simp[ay, *];omega)|(simp[ay, *];rw[Wy];simp;done)|(simp[ay, *];rw[Wy];simp;omega)),below_drewN ((V5 w.heap.size w).alloc (V4 _) _) _⟩
 go_enter func229,ntmps229;go_wp2_with fail;go_quiet (fail);go_wp2_with(go_at_call 170;refine(aO _ _ (by assumption)).mono ?_;rintro e w' ⟨rfl,rfl⟩)
 all_goals go_ret
 all_goals exact⟨ah (by first|(simp[ay, *];done)|(simp[ay, *];omega)|(simp[ay, *];rw[Wy];simp;done)|(simp[ay, *];rw[Wy];simp;omega)),below_drewN ((V5 w.heap.size w).alloc (V4 _) _) _⟩
end Go.Proofs.YtcgdckphpjfmhaaGreatDoor
