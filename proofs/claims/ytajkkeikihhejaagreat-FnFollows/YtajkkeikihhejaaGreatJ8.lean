/- The contract of the document's walk over a tree, and of its look at a whole expression. -/
import Derived.Test.YtajkkeikihhejaaGreatSq
import Derived.Test.YtajkkeikihhejaaGreatSpecExpr
import Derived.Test.YtajkkeikihhejaaGreatSpecSchema5
open Go.Proofs.Tryz
set_option maxHeartbeats 80000000
namespace Go.Proofs.YtajkkeikihhejaaGreat
open ChangeShapes WideShapes ChangeAt RowKit
open Pl
theorem oN(rs:Q08)(n:Nat)(h:n<rs.length):dm (ak rs) n=rs[n].e.kids:=by simp[dm,ak,h]
theorem IZ(b off cap:Nat)(rs:Q08)(hlen:rs.length<=1048576)(hl:∀r∈rs,r.e.light)(n:Nat):∀(w:af),n<rs.length->b<w.heap.size->(∀(i:Nat) (h:i<rs.length),yK w b (off+i*5) rs[i])->(∀r∈rs,r.ok w) ->
  Calls prog 191 #[.slice (some ⟨b,off,none⟩) rs.length cap,.int .i64 (n:Int)] w fun e w'=>e=.returned (.int .i64 (ay (ak rs) n))/\ae w w':=by
 induction n using Nat.strongRecOn with
 | ind n ih =>
  intro w hn hb hr hok
  have IH:Hid (∀ m,m<n->∀ (w:World),m<rs.length->b<w.heap.size->(∀ (i:Nat) (h:i<rs.length),yK w b (off+i*5) rs[i])->(∀ r∈rs,r.ok w) ->
   Calls prog 191 #[.slice (some ⟨b,off,none⟩) rs.length cap,.int .i64 (m:Int)] w fun e w'=>e=.returned (.int .i64 (ay (ak rs) m))/\ae w w'):=ih
  have HR:Hid (∀(i:Nat) (h:i<rs.length),yK w b (off+i*5) rs[i]):=hr;have HO:=aC hok;obtain⟨t0,t1,t2,t3,t4⟩:=hr n hn;obtain⟨l1,l2⟩:=hl rs[n] (UR hn);have hn1:=bG n;have hn2:(n:Int)<(rs.length:Int):=by omega
  have HT:Hid (ay (ak rs) n=dA (dC (ak rs) n) rs[n].e.kids.reverse ((n:Int)-1)):=by show _=_;rw[jk,oN rs n hn]
  have HL:=aC hl;clear ih hr hok hl l1;go_enter func191,ntmps191;go_wp2_with fail;go_loopw[5,6] (fun a i wr=>∃(j:Nat) (x:Int),j<=rs[n].e.kids.length/\i=.int .i64 ((j:Int)-1)/\a=.int .i64 x∧-1<=x/\x<n/\Hid (dA (dC (ak rs) n) (rs[n].e.kids.take j).reverse x=ay (ak rs) n)/\ae w wr) (fun _ i _=>(intOf i+1).toNat);case atStart=>exact⟨rs[n].e.kids.length,(n:Int)-1,UU _,rfl,rfl,by omega,by omega,(by show _=_;rw[Va];exact HT.out.symm),UV _ _⟩
  obtain⟨j,x,hj,rfl,rfl,hx0,hx1,HG,hB⟩:=hrel;have s4:=kept hB hb t4;by_cases hj0:0<j
  ·obtain⟨j,rfl⟩:∃i,j=i+1:=⟨j-1,by omega⟩;have hjl:j<rs[n].e.kids.length:=by omega
   rcases (HO.out rs[n] (UR hn)).2.below hB with hnil|⟨bk,offk,Y9,hbk,hrk⟩
   ·rw[hnil]at hjl;simp at hjl
   rw[Y9]at s4;have k0:=hrk j hjl;clear hrk;have hji:((j+1:Nat):Int)-1=(j:Int):=by omega
   have hj1:=bG j;have hj2:(j:Int)<(rs[n].e.kids.length:Int):=by omega
   have HG2:Hid ((if x<0\/rs[n].e.kids[j]≠x then -1 else if dC (ak rs) n x<0 then -1 else dA (dC (ak rs) n) (rs[n].e.kids.take j).reverse (dC (ak rs) n x-1))=ay (ak rs) n):=by
    have:=HG.out;rw[UX hjl,List.reverse_append]at this;exact this
   rw[hji];clear HG Y9 t0 t1 t2 t3 t4;by_cases hxn:x<0
   ·have HT1:Hid (ay (ak rs) n=-1):=by show _=_;rw[<-HG2.out,if_pos (Or.inl hxn)]
    go_wp2;go_ret;exact⟨by rw[HT1.out];rfl,hB⟩
   by_cases hkx:rs[n].e.kids[j]=x
   ·obtain⟨m,rfl⟩:∃m:Nat,x=(m:Int):=⟨x.toNat,by omega⟩;have hF:dC (ak rs) n (m:Int)=ay (ak rs) m:=by unfold dC;rw[if_pos ⟨by omega,by simp;omega⟩];simp
    have HF:Hid (dC (ak rs) n (m:Int)=ay (ak rs) m):=hF;have hle:=fV (ak rs) m;clear hF;go_wp2_with fail;refine(IH.out m (by omega) _ (by omega) (UT hb hB.size) (fun i hi=>(HR.out i hi).same fun o=>hB.cell (p:=⟨b,o,none⟩) hb) (fun r hr=>(HO.out r hr).below hB)).mono ?_;rintro e w1 ⟨rfl,hb1⟩;have hB1:ae w w1:=hB.trans (hb1.mono hB.size);clear hb1;by_cases hneg:ay (ak rs) m<0
    ·have HT1:Hid (ay (ak rs) n=-1):=by show _=_;rw[<-HG2.out,if_neg (by omega),HF.out,if_pos hneg]
     go_wp2;go_ret;exact⟨by rw[HT1.out];rfl,hB1⟩
    have Za:Hid (dA (dC (ak rs) n) (rs[n].e.kids.take j).reverse (ay (ak rs) m-1)=ay (ak rs) n):=by
     show _=_;rw[<-HG2.out,if_neg (by omega),HF.out,if_neg hneg]
    go_wp2;go_roundw;case rel=>exact⟨j,ay (ak rs) m-1,by omega,by go_num,rfl,by omega,by omega,Za,hB1⟩
    simp[intOf]<;>omega
   have HT1:Hid (ay (ak rs) n=-1):=by show _=_;rw[<-HG2.out,if_pos (Or.inr hkx)]
   go_wp2;go_ret;exact⟨by rw[HT1.out];rfl,hB⟩
  obtain rfl:j=0:=by omega
  have HT1:Hid (ay (ak rs) n=x+1):=by show _=_;have:=HG.out;simp[dA]at this;exact this.symm
  clear HG t0 t1 t2 t3 t4;go_wp2;go_ret;exact⟨by rw[HT1.out];rfl,hB⟩
theorem yK.later{w w':af}{b off:Nat}{r:ER}(h:yK w b off r)(hb:b<w.heap.size)(hB:ae w w'):yK w' b off r:=h.same fun o=>hB.cell (p:=⟨b,o,none⟩) hb
theorem C8{es:Q09}(h:¬(1<=es.length/\es.length<=15)):aL es=false:=by
 unfold aL;by_cases h1:1<=es.length
 ·have h2:¬es.length<=15:=fun h2=>h ⟨h1,h2⟩;simp[h2]
 simp[h1]
theorem I1{es:Q09}(k:Nat)(h:k<es.length)(hb:ax es[k]=false):aL es=false:=by simp[aL,CJ es k h hb]
theorem I4{es:Q09}(k:Nat)(h:k<es.length)(hb:kP es k=false):aL es=false:=by simp[aL,NT es k h hb]
def oO(zs:List Int)(i j:Nat):Bool:=(zs.take j).all fun k=>decide (0<=k)&&decide (k<=(i:Int)-1)
theorem ED(zs:List Int)(i j:Nat)(h:j<zs.length):oO zs i (j+1)=(oO zs i j&&(decide (0<=zs[j])&&decide (zs[j]<=(i:Int)-1))):=by
 unfold oO;rw[UX h,VV];simp
theorem Gf(zs:List Int)(i j:Nat)(h:j<zs.length)(hb:(decide (0<=zs[j])&&decide (zs[j]<=(i:Int)-1))=false):(zs.all fun k=>decide (0<=k)&&decide (k<=(i:Int)-1))=false:=by
 rw[Bool.eq_false_iff];intro h2;rw[U5]at h2;have:=h2 zs[j] (UR h);rw[hb]at this;cases this
set_option maxRecDepth 4000 in
theorem Ab(b off cap:Nat)(rs:Q08)(w:af)(hlen:rs.length<=1048576)(hl:∀r∈rs,r.e.light)(hf:∀r∈rs,r.e.fits)(hb:b<w.heap.size)(hr:∀(i:Nat) (h:i<rs.length),yK w b (off+i*5) rs[i])(hok:∀r∈rs,r.ok w):
  Calls prog 135 #[.slice (some ⟨b,off,none⟩) rs.length cap] w fun e w'=>e=.returned (.bool (aL (ak rs)))/\ae w w':=by
 have hel:=aQ rs;have X0:Hid ((ak rs).length=rs.length):=hel;have HL:=aC hl;have HF:=aC hf;have HR:Hid (∀(i:Nat) (h:i<rs.length),yK w b (off+i*5) rs[i]):=hr;have HO:=aC hok;clear hel hl hf hr hok;by_cases hn:1<=rs.length/\rs.length<=15
 ·obtain⟨hn1,hn2⟩:=hn;go_enter func135,ntmps135;go_wp2_with fail;go_loopw[3,4] (fun o i wr=>∃k:Nat,k<=rs.length/\i=.int .i64 k/\o=.int .i64 (gP (ak rs) k:Nat)/\Hid (jC (ak rs) k=true/\jf (ak rs) k=true)/\ae w wr) (fun _ i _=>rs.length-(intOf i).toNat);case atStart=>exact⟨0,UY _,rfl,rfl,⟨by simp[jC],by simp[jf]⟩,UV _ _⟩
  obtain⟨k,hk,rfl,rfl,HU,hB⟩:=hrel;by_cases hlt:k<rs.length
  ·have Yl:k<(ak rs).length:=by rw[X0.out];exact hlt
   have hek:(ak rs)[k]=rs[k].e:=by simp[ak]
   have HEK:Hid ((ak rs)[k]=rs[k].e):=hek;obtain⟨t0,t1,t2,t3,t4⟩:=(HR.out k hlt).later hb hB;clear hek;have hk1:=bG k;have hk2:(k:Int)<(rs.length:Int):=by omega
   have hol:=uJ (ak rs) k;go_wp2_with fail;refine(Ey rs[k] _ (HF.out _ (UR hlt)) ((HO.out _ (UR hlt)).below hB)).mono ?_;rintro e w1 ⟨rfl,hb1⟩;cases V4:ax rs[k].e;case false=>
    have HN:Hid (aL (ak rs)=false):=I1 k Yl (by rw[HEK.out];exact V4);go_wp2;go_ret;exact⟨by rw[HN.out];rfl,hB.trans (hb1.mono hB.size)⟩
   have hB1:ae w w1:=hB.trans (hb1.mono hB.size);have hbw:b<wr.heap.size:=UT hb hB.size;replace t0:=kept hb1 hbw t0;replace t4:=kept hb1 hbw t4;have hbw1:b<w1.heap.size:=UT hbw hb1.size;clear t1 t2 t3 hb1 hB hbw;go_wp2_with fail;go_loopw[5] (fun i w2=>∃j:Nat,j<=rs[k].e.kids.length/\i=.int .i64 j/\Hid (oO rs[k].e.kids k j=true)/\w2=w1) (fun i _=>rs[k].e.kids.length-(intOf i).toNat);case atStart=>exact⟨0,UY _,rfl,(by show _=_;simp[oO]),rfl⟩
   obtain⟨j,hj,rfl,HP,rfl⟩:=hrel;by_cases hjl:j<rs[k].e.kids.length
   ·rcases (HO.out rs[k] (UR hlt)).2.below hB1 with hnil|⟨bk,offk,Y9,hbk,hrk⟩
    ·rw[hnil]at hjl;simp at hjl
    have t4':=t4;rw[Y9]at t4';have k0:=hrk j hjl;have hj1:=bG j;have hj2:(j:Int)<(rs[k].e.kids.length:Int):=by omega
    obtain⟨-,lk⟩:=HL.out rs[k] (UR hlt);clear hrk Y9 t4;go_wp2_with fail;refine(OG _ _ _ _).mono ?_;rintro e w' ⟨rfl,rfl⟩;cases hin:(decide (0<=rs[k].e.kids[j])&&decide (rs[k].e.kids[j]<=(k:Int)-1));case false=>
     have HN:Hid (aL (ak rs)=false):=I4 k Yl (by unfold kP;rw[oN rs k hlt];exact Gf _ k j hjl hin);go_wp2;go_ret;exact⟨by rw[HN.out];rfl,hB1⟩
    have Wj:Hid (oO rs[k].e.kids k (j+1)=true):=by show _=_;rw[ED _ _ _ hjl,HP.out,hin];rfl
    go_wp2;go_roundw;case rel=>exact⟨j+1,by omega,by go_num,Wj,by first|rfl|trivial⟩
    simp[intOf]<;>omega
   obtain rfl:j=rs[k].e.kids.length:=by omega
   have ZF:Hid (jC (ak rs) (k+1)=true/\jf (ak rs) (k+1)=true):=by
    refine⟨?_,?_⟩
    ·rw[uK _ _ Yl,HU.out.1,HEK.out,V4];rfl
    rw[FW,HU.out.2];unfold kP;rw[oN rs k hlt];have:=HP.out;unfold oO at this;rw[Va]at this;rw[this];rfl
   have HOW:Hid (gP (ak rs) (k+1)=gP (ak rs) k+(if rs[k].e.kind=1 then 1 else 0)):=by show _=_;rw[zw _ _ Yl,HEK.out]
   by_cases hk1':rs[k].e.kind=1
   ·have ZL:Hid (gP (ak rs) (k+1)=gP (ak rs) k+1):=by show _=_;rw[HOW.out,if_pos hk1']
    clear HOW;go_wp2;go_roundw;case rel=>exact⟨k+1,by omega,by go_num,by rw[ZL.out];go_num,ZF,hB1⟩
    simp[intOf]<;>omega
   have ZL:Hid (gP (ak rs) (k+1)=gP (ak rs) k):=by show _=_;rw[HOW.out,if_neg hk1'];rfl
   clear HOW;go_wp2;go_roundw;case rel=>exact⟨k+1,by omega,by go_num,by rw[ZL.out],ZF,hB1⟩
   simp[intOf]<;>omega
  obtain rfl:k=rs.length:=by omega
  have HN:Hid ((ak rs).all ax=true):=by
   have:=HU.out.1;unfold jC at this;rwa [<-X0.out,Va]at this
  have HKU:Hid (jf (ak rs) rs.length=true):=HU.out.2;have HOW:Hid (gP (ak rs) rs.length=own (ak rs)):=by show _=_;unfold gP;rw[<-X0.out,Va]
  have hol:=uJ (ak rs) rs.length;by_cases ho:gP (ak rs) rs.length<=1
  ·have HS:Hid (aL (ak rs)=decide (ay (ak rs) (rs.length-1)=0)):=by
    show _=_;have h1:own (ak rs)<=1:=by rw[<-HOW.out];exact ho
    have e1:=X0.out;unfold aL;rw[e1,HN.out,HKU.out];simp[h1,hn1,hn2]
   have hcast:((rs.length:Int)-1)=((rs.length-1:Nat):Int):=by omega
   have HCA:Hid (((rs.length:Int)-1)=((rs.length-1:Nat):Int)):=hcast;clear hcast;go_wp2_with fail;rw[HCA.out];refine(IZ b off cap rs hlen HL.out (rs.length-1) _ (by omega) (UT hb hB.size) (fun i hi=>(HR.out i hi).later hb hB) (fun r hr=>(HO.out r hr).below hB)).mono ?_;rintro e w1 ⟨rfl,hb1⟩;go_wp2;go_ret;exact⟨by rw[HS.out];exact ah (by rw[Vd];simp),hB.trans (hb1.mono hB.size)⟩
  have HS:Hid (aL (ak rs)=false):=by
   show _=_;have h1:¬own (ak rs)<=1:=by rw[<-HOW.out];exact ho
   simp[aL,h1]
  go_wp2;go_ret;exact⟨by rw[HS.out];rfl,hB⟩
 have HN:Hid (aL (ak rs)=false):=C8 (by rw[X0.out];exact hn);go_enter func135,ntmps135;go_wp2_with fail
 all_goals go_ret
 all_goals exact⟨by rw[HN.out];rfl,UV _ _⟩
theorem ma(ad:Q02)(cap:Nat)(rs:Q08)(w:af)(hlen:rs.length<=1048576)(hl:∀r∈rs,r.e.light)(hf:∀r∈rs,r.e.fits)(hs:gZ w ad rs):
  Calls prog 135 #[.slice ad rs.length cap] w fun e w'=>e=.returned (.bool (aL (ak rs)))/\ae w w':=by
 rcases hs with rfl|⟨b,off,rfl,hb,hr,hok⟩
 ·go_enter func135,ntmps135;go_wp2_with fail;go_ret;exact⟨rfl,UV _ _⟩
 exact Ab b off cap rs w hlen hl hf hb hr hok
theorem C9(x y:Al):jV x y=jV y x:=by
 unfold jV;rw[Vd];simp only[UW,beq_iff_eq];exact⟨fun h=>⟨h.1.symm,h.2.symm⟩,fun h=>⟨h.1.symm,h.2.symm⟩⟩
theorem LW(ad:Q02)(n cap:Nat)(xs:Q0a)(v:Al)(w:af)(hn:n<=xs.length)(hlen:xs.length<=1048576)(hs:lq w ad xs):
  Calls prog 197 #[.slice ad n cap,.agg #[.string v.t,.string v.s]] w fun e w'=>(∃r:Int,e=.returned (.int .i64 r)/\decide (0<=r)=dJ xs n v)/\ae w w':=by
 obtain⟨W,hW⟩:∃W,W=w.alloc (.cells #[.string v.t,.string v.s] 43):=⟨_,rfl⟩;have HB0:Hid (ae w W):=by show Below _ _ _;rw[hW];exact(UV w.heap.size w).alloc (UU _) _
 have hz:w.heap.size<W.heap.size:=by rw[hW];simp
 have b0:W.cell? ⟨w.heap.size,0,none⟩=some (.string v.t):=by rw[hW];simp
 have b1:W.cell? ⟨w.heap.size,1,none⟩=some (.string v.s):=by rw[hW];simp
 have HS:=aC (hs.below HB0.out);clear hs;go_enter func197,ntmps197;go_wp2_with fail;rw[<-hW];clear hW;go_loopw[8] (fun i wr=>∃k:Nat,k<=n/\i=.int .i64 k/\Hid (dJ xs k v=false)/\ae W wr) (fun i _=>n-(intOf i).toNat);case atStart=>exact⟨0,UY _,rfl,tL _ _,UV _ _⟩
 obtain⟨k,hk,rfl,HP,hB⟩:=hrel;have a0:=kept hB hz b0;have a1:=kept hB hz b1;by_cases hlt:k<n
 ·have hltx:k<xs.length:=by omega
  rcases HS.out.below hB with rfl|⟨b,off,rfl,hb,hr⟩
  ·simp at hltx
  obtain⟨t0,t1⟩:=hr k hltx;have hk1:=bG k;have hk2:(k:Int)<(n:Int):=by omega
  clear hr;cases hq:jV v xs[k];case true=>
   have HE:=Ew v xs[k] hq;have HN:Hid (dJ xs n v=true):=CX hlt hltx (by rw[C9];exact hq);go_wp2_with fail;go_quiet (fail);go_wp2;go_ret;exact⟨⟨_,rfl,by rw[HN.out];simp⟩,HB0.out.trans (below_drewN (hB.mono HB0.out.size) _)⟩
  have HE:=Ew v xs[k] hq;have Wj:Hid (dJ xs (k+1) v=false):=by show _=_;rw[tK _ _ _ hltx,HP.out,C9,hq];rfl
  go_wp2_with fail;go_quiet (fail);go_wp2;go_roundw;case rel=>exact⟨k+1,by omega,by go_num,Wj,below_drewN hB _⟩
  simp[intOf]<;>omega
 obtain rfl:k=n:=by omega
 go_wp2;go_ret;exact⟨⟨-1,rfl,by rw[HP.out];rfl⟩,HB0.out.trans (hB.mono HB0.out.size)⟩
theorem uZ(ad:Q02)(n cap:Nat)(xs:Q0a)(v:Al)(w:af)(hn:n<=xs.length)(hlen:xs.length<=1048576)(hs:lq w ad xs):
  Calls prog 142 #[.slice ad n cap,.agg #[.string v.t,.string v.s]] w fun e w'=>e=.returned (.bool (dJ xs n v))/\ae w w':=by
 have HB0:Hid (ae w (w.alloc (.cells #[.string v.t,.string v.s] 43))):=(UV w.heap.size w).alloc (UU _) _;have HS:=aC hs;clear hs;go_enter func142,ntmps142;go_wp2_with fail;refine(LW ad n cap xs v _ hn hlen (HS.out.below HB0.out)).mono ?_;rintro e w1 ⟨⟨r,rfl,hr⟩,hb1⟩;have HR:Hid (decide (0<=r)=dJ xs n v):=hr;have HB1:=jR HB0 hb1;clear hr hb1;go_wp2;go_ret;exact⟨ah HR.out,HB1.out⟩
set_option maxRecDepth 8000 in
theorem EE(r:ER)(w:af)(hf:r.e.fits)(h1:r.e.kind≠1):
  Calls prog 239 #[r.val] w fun e w'=>e=.returned (.bool (ax r.e))/\ae w w':=by
 obtain⟨⟨kind,allow,over,name,kids⟩,adA,capA,adK,capK⟩:=r;obtain⟨f1,f2,f3,f4,f5⟩:=hf;simp only at f1 f2 f3 f4 f5 h1;simp only[ER.val];unfold maxLen at f4 f5;by_cases h2:kind=2
 ·subst h2;clear h1;go_enter func239,ntmps239;go_wp2_with fail;go_quiet (fail);go_wp2_with(go_at_call 162;refine(aP _ _ (by assumption)).mono ?_;rintro e w' ⟨rfl,rfl⟩)
  all_goals go_ret
  all_goals exact⟨ah (by first|(simp[ax, *];done)|(simp[ax, *];omega)|(simp[ax, *];rw[Vd];simp;done)|(simp[ax, *];rw[Vd];simp;omega)),below_drewN ((UV w.heap.size w).alloc (UU _) _) _⟩
 by_cases h3:kind=3
 ·subst h3;clear h1;go_enter func239,ntmps239;go_wp2_with fail;go_quiet (fail);go_wp2_with(go_at_call 162;refine(aP _ _ (by assumption)).mono ?_;rintro e w' ⟨rfl,rfl⟩)
  all_goals go_ret
  all_goals exact⟨ah (by first|(simp[ax, *];done)|(simp[ax, *];omega)|(simp[ax, *];rw[Vd];simp;done)|(simp[ax, *];rw[Vd];simp;omega)),below_drewN ((UV w.heap.size w).alloc (UU _) _) _⟩
 by_cases h4:kind=4
 ·subst h4;clear h1;go_enter func239,ntmps239;go_wp2_with fail;go_quiet (fail);go_wp2_with(go_at_call 162;refine(aP _ _ (by assumption)).mono ?_;rintro e w' ⟨rfl,rfl⟩)
  all_goals go_ret
  all_goals exact⟨ah (by first|(simp[ax, *];done)|(simp[ax, *];omega)|(simp[ax, *];rw[Vd];simp;done)|(simp[ax, *];rw[Vd];simp;omega)),below_drewN ((UV w.heap.size w).alloc (UU _) _) _⟩
 by_cases h5:kind=5
 ·subst h5;clear h1;go_enter func239,ntmps239;go_wp2_with fail;go_quiet (fail);go_wp2_with(go_at_call 162;refine(aP _ _ (by assumption)).mono ?_;rintro e w' ⟨rfl,rfl⟩)
  all_goals go_ret
  all_goals exact⟨ah (by first|(simp[ax, *];done)|(simp[ax, *];omega)|(simp[ax, *];rw[Vd];simp;done)|(simp[ax, *];rw[Vd];simp;omega)),below_drewN ((UV w.heap.size w).alloc (UU _) _) _⟩
 by_cases h6:kind=6
 ·subst h6;clear h1;go_enter func239,ntmps239;go_wp2_with fail;go_quiet (fail);go_wp2_with(go_at_call 162;refine(aP _ _ (by assumption)).mono ?_;rintro e w' ⟨rfl,rfl⟩)
  all_goals go_ret
  all_goals exact⟨ah (by first|(simp[ax, *];done)|(simp[ax, *];omega)|(simp[ax, *];rw[Vd];simp;done)|(simp[ax, *];rw[Vd];simp;omega)),below_drewN ((UV w.heap.size w).alloc (UU _) _) _⟩
 go_enter func239,ntmps239;go_wp2_with fail;go_quiet (fail);go_wp2_with(go_at_call 162;refine(aP _ _ (by assumption)).mono ?_;rintro e w' ⟨rfl,rfl⟩)
 all_goals go_ret
 all_goals exact⟨ah (by first|(simp[ax, *];done)|(simp[ax, *];omega)|(simp[ax, *];rw[Vd];simp;done)|(simp[ax, *];rw[Vd];simp;omega)),below_drewN ((UV w.heap.size w).alloc (UU _) _) _⟩
set_option maxRecDepth 100000 in
theorem Ci(ad:Q02)(cap:Nat)(rs:Q08)(w:af)(hlen:rs.length<=1048576)(hs:gZ w ad rs)(hl:∀r∈rs,r.e.light)(hk:∀r∈rs,fe rs.length r.e.kids):
  Calls prog 187 #[.slice ad rs.length cap] w fun e w'=>e=.returned (.slice (some ⟨w.heap.size,0,none⟩) rs.length rs.length)/\Fil w w' w.heap.size rs.length (bools (dD (ak rs))):=by
 have HS:=aC hs;have HL:=aC hl;have HK:=aC hk;clear hs hl hk;obtain⟨inf,hi,hz0,hz1,hz2⟩:=info_parts z8;go_enter func187,ntmps187;go_wp2_with(at_make;refine wpList_make_full _ rfl _ _ 275 rfl w.heap.size 4 inf (.bool false) 1 underlying275 hi hz0 hz1 .i64 .i64 _ _ rs.length rfl rfl rfl rfl (by rw[hz2];omega) (by unfold maxLen;omega) (UU _) ?_;intro w0 hown0 Yk);have HF0:Hid (Fil w w0 w.heap.size rs.length (bools (List.replicate rs.length false))):=by
  have:=CZ (v:=.bool false) hown0 Yk;show Fil _ _ _ _ _;simpa[bools] using this
 clear hown0 Yk hi hz0 hz1 hz2;go_loopw[4] (fun i wr=>∃(m:Nat) (out:List Bool),m<=rs.length/\i=.int .i64 ((m:Int)-1)/\out.length=rs.length/\Hid (dW (ak rs) m out=dD (ak rs))/\Hid (Fil w wr w.heap.size rs.length (bools out))) (fun i _=>(intOf i+1).toNat);case atStart=>exact⟨rs.length,List.replicate rs.length false,UU _,by go_num,by simp,(by show _=_;unfold dD;rw[aQ]),HF0⟩
 obtain⟨m,out,hm,rfl,hol,HN,HF⟩:=hrel;by_cases hm0:0<m
 ·obtain⟨m,rfl⟩:∃m',m=m'+1:=⟨m-1,by omega⟩;have hmi:(((m+1:Nat):Int)-1)=(m:Int):=by omega
  rw[hmi];have hlt:m<rs.length:=by omega
  rcases HS.out.below HF.out.below with rfl|⟨b,off,rfl,hb,hr,hok⟩
  ·simp at hlt
  obtain⟨t0,t1,t2,t3,t4⟩:=hr m hlt;have XE:Hid (rs[m].ok _):=hok rs[m] (UR hlt);have lg:=(HL.out rs[m] (UR hlt)).2;have HKI:Hid (fe rs.length rs[m].e.kids):=HK.out rs[m] (UR hlt);have hk1:=bG m;have hk2:(m:Int)<(rs.length:Int):=by omega
  have hbw:b<w.heap.size:=by
   rcases HS.out with h|⟨b',off',h1,h2,-⟩
   ·rw[h]at hlt;simp at hlt
   injection h1 with h1;injection h1 with h1;omega
  have HR:Hid (yK wr b (off+m*5) rs[m]):=hr m hlt;have HNX:Hid (dW (ak rs) m (bC m rs[m].e.kind rs[m].e.kids 0 out)=dD (ak rs)):=by
   show _=_;rw[<-HN.out,Aa _ _ _ (by rw[aQ];exact hlt)];simp[ak]
  clear hr hok t0 t1 t2 t3;go_wp2_with fail;clear t4;go_loopw[23] (fun i w2=>∃(j:Nat) (Wd:List Bool),j<=rs[m].e.kids.length/\i=.int .i64 j/\Wd.length=rs.length/\Hid (bC m rs[m].e.kind (rs[m].e.kids.drop j) j Wd=bC m rs[m].e.kind rs[m].e.kids 0 out)/\Hid (Fil w w2 w.heap.size rs.length (bools Wd))) (fun i _=>rs[m].e.kids.length-(intOf i).toNat);case atStart=>exact⟨0,out,UY _,rfl,hol,rfl,HF⟩
  obtain⟨j,Wd,hj,rfl,ho2,HJ,XK⟩:=hrel;have hE2:gZ wr _ rs:=HS.out.below XK.out.below;have ht:yK wr b (off+m*5) rs[m]:=by
   rcases hE2 with h|⟨b',off',h1,h2,h3,-⟩
   ·exact absurd hlt (by rw[h];simp)
   injection h1 with h1;injection h1 with h1 h1';subst h1;subst h1';exact h3 m hlt
  obtain⟨t0,t1,t2,t3,t4⟩:=ht;by_cases hjl:j<rs[m].e.kids.length
  ·have hK2:sK wr rs[m].adK rs[m].e.kids:=(hE2.mem (UR hlt)).2;rcases hK2 with hnil|⟨ba,Yi,WA,ZK,hra⟩
   ·rw[hnil]at hjl;simp at hjl
   rw[WA];have q0:=hra j hjl;have hj1:=bG j;have hj2:(j:Int)<(rs[m].e.kids.length:Int):=by omega
   obtain⟨x0,x1⟩:=HKI.out _ (UR hjl);obtain⟨x,hx⟩:∃x:Nat,rs[m].e.kids[j]=(x:Int):=⟨rs[m].e.kids[j].toNat,by omega⟩;rw[hx]at q0 x0 x1;have c0:=XK.out.done m (by simp[bools];omega);have fz:=XK.out.free;obtain⟨v0,u0⟩:=Option.isSome_iff_exists.mp (XK.out.there x (by omega));have hbr:b<wr.heap.size:=UT hbw XK.out.below.size;obtain⟨bo,hbo⟩:∃bo,bo=(bools Wd)[m]'(by simp[bools];omega):=⟨_,rfl⟩;rw[<-hbo]at c0;clear hra WA hE2 t1 t2 t3;have hm2:m<Wd.length:=by omega
   have hbo1:bo=.bool Wd[m]:=by rw[hbo];simp[bools]
   have hbo':Wd[m]?.getD false=Wd[m]:=by simp[hm2]
   rw[hbo1]at c0;clear hbo hbo1;cases hb0:Wd[m];case true=>
    rw[hb0]at c0 hbo';have Yh:Hid (Fil w (wr.setCell ⟨w.heap.size,x,none⟩ (.bool true)) w.heap.size rs.length (bools (Wd.set x true))):=by show Fil _ _ _ _ _;rw[nV];exact XK.out.set _ (by simp[bools];omega) (by omega)
    have HJ2:Hid (bC m rs[m].e.kind (rs[m].e.kids.drop (j+1)) (j+1) (Wd.set x true)=bC m rs[m].e.kind rs[m].e.kids 0 out):=by
     show _=_;rw[<-HJ.out,jK _ _ _ _ _ hjl,hx];simp[*]
    go_wp2;go_roundw;case rel=>exact⟨j+1,Wd.set x true,by omega,by go_num,by simp[ho2],HJ2,Yh⟩
    simp[intOf]<;>omega
   rw[hb0]at c0 hbo';cases hkb:(rs[m].e.kind==6);case false=>
    have Yh:Hid (Fil w (wr.setCell ⟨w.heap.size,x,none⟩ (.bool false)) w.heap.size rs.length (bools (Wd.set x false))):=by show Fil _ _ _ _ _;rw[nV];exact XK.out.set _ (by simp[bools];omega) (by omega)
    have HJ2:Hid (bC m rs[m].e.kind (rs[m].e.kids.drop (j+1)) (j+1) (Wd.set x false)=bC m rs[m].e.kind rs[m].e.kids 0 out):=by
     show _=_;rw[<-HJ.out,jK _ _ _ _ _ hjl,hx];simp[*]
    go_wp2;go_roundw;case rel=>exact⟨j+1,Wd.set x false,by omega,by go_num,by simp[ho2],HJ2,Yh⟩
    simp[intOf]<;>omega
   cases hjb:((j:Int)==1);case true=>
    have hjn:(j==1)=true:=by simp at hjb⊢;omega
    have Yh:Hid (Fil w (wr.setCell ⟨w.heap.size,x,none⟩ (.bool true)) w.heap.size rs.length (bools (Wd.set x true))):=by show Fil _ _ _ _ _;rw[nV];exact XK.out.set _ (by simp[bools];omega) (by omega)
    have HJ2:Hid (bC m rs[m].e.kind (rs[m].e.kids.drop (j+1)) (j+1) (Wd.set x true)=bC m rs[m].e.kind rs[m].e.kids 0 out):=by
     show _=_;rw[<-HJ.out,jK _ _ _ _ _ hjl,hx];simp[*]
    go_wp2;go_roundw;case rel=>exact⟨j+1,Wd.set x true,by omega,by go_num,by simp[ho2],HJ2,Yh⟩
    simp[intOf]<;>omega
   have hjn:(j==1)=false:=by simp at hjb⊢;omega
   have Yh:Hid (Fil w (wr.setCell ⟨w.heap.size,x,none⟩ (.bool false)) w.heap.size rs.length (bools (Wd.set x false))):=by show Fil _ _ _ _ _;rw[nV];exact XK.out.set _ (by simp[bools];omega) (by omega)
   have HJ2:Hid (bC m rs[m].e.kind (rs[m].e.kids.drop (j+1)) (j+1) (Wd.set x false)=bC m rs[m].e.kind rs[m].e.kids 0 out):=by
    show _=_;rw[<-HJ.out,jK _ _ _ _ _ hjl,hx];simp[*]
   go_wp2;go_roundw;case rel=>exact⟨j+1,Wd.set x false,by omega,by go_num,by simp[ho2],HJ2,Yh⟩
   simp[intOf]<;>omega
  have Y8:Hid (dW (ak rs) m Wd=dD (ak rs)):=by
   show _=_;rw[<-HNX.out,<-HJ.out,Vf (by omega)];rfl
  go_wp2;go_roundw;case rel=>exact⟨m,Wd,by omega,by go_num,ho2,Y8,XK⟩
  simp[intOf]<;>omega
 obtain rfl:m=0:=by omega
 have YE:Hid (Fil w wr w.heap.size rs.length (bools (dD (ak rs)))):=by
  show Fil _ _ _ _ _;rw[<-HN.out];exact HF.out
 go_wp2;go_ret;exact⟨rfl,YE.out⟩
open Go.Sort
set_option maxRecDepth 100000
theorem Gg(ad:Q02)(cap:Nat)(xs:Q0a)(w:af)(hlen:xs.length<=1048576)(hcap:xs.length<=cap)(hf:∀a∈xs,a.fits)(hs:lq w ad xs):
  Calls prog 252 #[.slice ad xs.length cap] w fun e w'=>e=.returned (.bool (eD xs))/\ae w w':=by
 have HS:=aC hs;have HF:=aC hf;clear hs hf;by_cases hl:1<=xs.length/\xs.length<=6
 ·obtain⟨hl1,hl2⟩:=hl;go_enter func252,ntmps252;go_wp2_with fail;go_loopw[15] (fun i wr=>∃k:Nat,k<=xs.length/\i=.int .i64 k/\Hid (En xs k=true)/\ae w wr) (fun i _=>xs.length-(intOf i).toNat);case atStart=>exact⟨0,UY _,rfl,rfl,UV _ _⟩
  obtain⟨k,hk,rfl,HU,hB⟩:=hrel;by_cases hlt:k<xs.length
  ·rcases HS.out.below hB with rfl|⟨b,off,rfl,hb,hr⟩
   ·simp at hlt
   obtain⟨t0,t1⟩:=hr k hlt;obtain⟨z0,z1⟩:=HF.out xs[k] (UR hlt);have hk1:=bG k;have hk2:(k:Int)<=(cap:Int):=by omega
   obtain⟨W1,hW1⟩:∃W1,W1=wr.alloc (.cells #[.string xs[k].t,.string xs[k].s] 43):=⟨_,rfl⟩;have hal:ae wr W1:=by rw[hW1];exact(UV _ _).alloc (UU _) _
   have hBW1:Below w.heap.size wr W1:=hal.mono hB.size;have hWs:w.heap.size<=W1.heap.size:=U0 hB.size hal.size;have hgl:wr.heap.size<W1.heap.size:=by rw[hW1];simp
   have g0:W1.cell? ⟨wr.heap.size,0,none⟩=some (.string xs[k].t):=by rw[hW1];simp
   have g1:W1.cell? ⟨wr.heap.size,1,none⟩=some (.string xs[k].s):=by rw[hW1];simp
   have HS1:Hid (lq W1 (some ⟨b,off,none⟩) xs):=(HS.out.below hB).below hal;clear hr;go_wp2_with fail;rw[<-hW1];clear hW1 t0 t1 hal;have p0:=cell_regrown g0;have p1:=cell_regrown g1;have Xb:Hid (∀d os,ae w (grow (redrawn W1 d) os)):=fun d os=>hB.trans (hBW1.trans ((below_regrown W1 d os).mono hWs));have Xd:=qh (jW (W:=W1) (fun W'=>aP xs[k].t W' z0));have HCS:=qh (jW (W:=W1) (fun W'=>IC xs[k].s W' z1))
   have Xq:Hid (∀d os,Calls prog 142 #[.slice (some ⟨b,off,none⟩) k cap,.agg #[.string xs[k].t,.string xs[k].s]] (grow (redrawn W1 d) os) fun e w''=>e=.returned (.bool (dJ xs k xs[k]))/\∃p:Regrown,w''=grow (redrawn W1 p.d) p.os) :=
    bY fun W' hb=>uZ (some ⟨b,off,none⟩) k cap xs xs[k] _ hk hlen (HS1.out.below hb)
   cases hn:aT xs[k].t;case false=>
    have HN:Hid (En xs xs.length=false):=oF xs k hlt (by simp[FV,hn]) _ hlt;rw[hn]at Xd;refine wp_region_quiet_below (by kernel_rfl) (by kernel_rfl) ?_
    repeat(go_big_quiet_step (exact Xd.out _ _))
    refine wpQuiet_nil ?_;rintro _ ⟨⟨dq,osq⟩,rfl⟩;go_wp2;go_ret;exact⟨ah (by simp[eD,HN.out]),Xb.out dq osq⟩
   rw[hn]at Xd;cases hsb:uI xs[k].s;case false=>
    have HN:Hid (En xs xs.length=false):=oF xs k hlt (by simp[FV,hn,hsb]) _ hlt;rw[hsb]at HCS;refine wp_region_quiet_below (by kernel_rfl) (by kernel_rfl) ?_
    repeat(go_big_quiet_step (first|exact Xd.out _ _|exact HCS.out _ _))
    refine wpQuiet_nil ?_;rintro _ ⟨⟨dq,osq⟩,rfl⟩;go_wp2;go_ret;exact⟨ah (by simp[eD,HN.out]),Xb.out dq osq⟩
   rw[hsb]at HCS;obtain⟨p,hp⟩:∃p,dJ xs k xs[k]=p:=⟨_,rfl⟩;rw[hp]at Xq;refine wp_region_quiet_below (by kernel_rfl) (by kernel_rfl) ?_
   repeat(go_big_quiet_step (first|exact Xd.out _ _|exact HCS.out _ _|exact Xq.out _ _))
   refine wpQuiet_nil ?_;rintro _ ⟨⟨dq,osq⟩,rfl⟩;cases p;case true=>
    have HN:Hid (En xs xs.length=false):=oF xs k hlt (by simp[hp]) _ hlt;go_wp2;go_ret;exact⟨ah (by simp[eD,HN.out]),Xb.out dq osq⟩
   have ZF:Hid (En xs (k+1)=true):=by show _=_;rw[zu _ _ hlt,HU.out];simp[FV,hn,hsb,hp]
   go_wp2;go_roundw;case rel=>exact⟨k+1,by omega,by go_num,ZF,Xb.out dq osq⟩
   simp[intOf]<;>omega
  obtain rfl:k=xs.length:=by omega
  have HAW:Hid (eD xs=true):=by show _=_;simp[eD,hl1,hl2,HU.out]
  go_wp2;go_ret;exact⟨by rw[HAW.out];rfl,hB⟩
 have HAW:Hid (eD xs=false):=by
  show _=_;unfold eD;by_cases h1:1<=xs.length
  ·have h2:¬xs.length<=6:=fun h2=>hl ⟨h1,h2⟩;simp[h2]
  simp[h1]
 go_enter func252,ntmps252;go_wp2_with fail
 all_goals go_ret
 all_goals exact⟨by rw[HAW.out];rfl,UV _ _⟩
end Go.Proofs.YtajkkeikihhejaaGreat
