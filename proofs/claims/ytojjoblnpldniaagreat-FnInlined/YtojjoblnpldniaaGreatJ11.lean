/- Contract of the program's changedExpr: an expression in new memory, its leaves as a function tells. -/
import Derived.Test.YtojjoblnpldniaaGreatSq
import Derived.Test.YtojjoblnpldniaaGreatJ7
import Derived.Deep.DeepMust
open Go.Proofs.Tryz
set_option maxHeartbeats 80000000
set_option linter.defProp false
namespace Go.Proofs.YtojjoblnpldniaaGreat
set_option maxRecDepth 100000
set_option linter.unusedVariables false
open ChangeShapes WideShapes ChangeAt RowKit Maps
open Pl
def zx(FC:Nat)(rc cp:Array Value)(typ:ByteArray)(f:Ex->List Ex)(w:World)(r:ER):Prop :=
 ∀w1:World,ag w w1->Calls prog FC (rc++(#[.string typ,r.val]++cp)) w1 fun e w'=>∃(Yh:Q02) (cap':Nat) (ms:Q08),e=.returned (.slice Yh ms.length cap')/\ai ms=f r.e/\ag w1 w' /\
  ∀w2:World,w'.heap.size<=w2.heap.size->(∀g,g<w'.heap.size->(g<w.heap.size\/w1.heap.size<=g)->w2.heap[g]?=w'.heap[g]?)->iw w2 Yh ms
def Rj(f:Ex->List Ex)(e:Ex):Prop:=(f e).length<=15/\∀m∈f e,m.light/\∀x∈m.kids,0<=x/\x<1000
def qE{rs:Q08}{k:Nat}(h:k<rs.length)(h2:k<(ai rs).length):(ai rs)[k]=rs[k].e:=by simp[ai]
def Cf(xs:Q08)(y:ER):ai (xs++[y])=ai xs++[y.e]:=by simp[ai]
def Gl(w:af)(q:ER):∀j u,q.row[j]?=some u->(w.alloc<|.cells (ce q) 43).cell? ((⟨w.heap.size,0,none⟩:Addr).add j)=some u:=yj w q
def zV(FC:Nat)(rc cp:Array Value)(typ:bN)(f:Ex->List Ex)(ad:Q02)(cap:Nat)(rs:Q08)(w:af)(hlen:rs.length<=15)(hs:iw w ad rs)(hl:∀r∈rs,r.e.light)(hlow:jF<|ai rs)(hB:∀r∈rs,Rj f r.e)
  (hrun:∀(xs:Array Value) (u:World),(callFunc FC xs).run prog u=.ok (.enter FC xs) u) (hch:∀r∈rs,r.e.kids=[]->zx FC rc cp typ f w r) :
  Calls prog 173 #[.string typ,.slice ad rs.length cap,.func (Fn.func FC) rc cp] w fun e w'=>∃(v:Value) (qs:Q08),e=.returned v/\NodM w' w.heap.size v qs/\ai qs=dB f (ai rs)/\ag w w':=by
 obtain ⟨iE,hiE,zE0,zE1,zE2⟩:=info_parts (P:=prog) (e:=43) (z:=.agg #[.int .i64 0,.slice none 0 0,.string ⟨#[]⟩,.string ⟨#[]⟩,.slice none 0 0]) (size:=5) (bytes:=88) cw;obtain ⟨iI,hiI,zI0,zI1,zI2⟩:=info_parts (P:=prog) (e:=2) (z:=.int .i64 0) (size:=1) (bytes:=8) cw;have HIE:O (prog.info? 43=some iE/\iE.zero=some (.agg #[.int .i64 0,.slice none 0 0,.string ⟨#[]⟩,.string ⟨#[]⟩,.slice none 0 0])/\iE.size=5/\iE.bytes=88):=⟨hiE,zE0,zE1,zE2⟩;have Zw:O (prog.info? 2=some iI/\iI.zero=some (.int .i64 0)/\iI.size=1/\iI.bytes=8):=⟨hiI,zI0,zI1,zI2⟩;have HS:=aB hs;have HL:=aB hl;have HLOW:=aB hlow;have HLB:=aB hB;have Z7:O (∀ (xs:Array Value) (u:World),(callFunc FC xs).run prog u=.ok (.enter FC xs) u):=hrun;have HCH:O (∀ r∈rs,r.e.kids=[]->zx FC rc cp typ f w r):=hch;have HFEW:O (∀ k,k<=rs.length->(aI f (ai rs) k).1.length<=k*15/\(aI f (ai rs) k).2.length=k):=fun k hk=>⟨pI f (ai rs) 15 cq (fun e he=>by
  obtain⟨r,hr,rfl⟩:=WV.1 he;exact(hB r hr).1) k (by rw[au];exact hk),tC f (ai rs) k<|by rw[au];exact hk⟩
 clear hs hl hlow hB hrun hch hiE zE0 zE1 zE2 hiI zI0 zI1 zI2;obtain⟨W0,hW0⟩:=eQx<|w.alloc<|.cells #[.slice none 0 0] 41;have HX0:O (XS W0 w.heap.size (w.heap.size+1) (.slice none 0 0) (.slice none 0 0) [] []):=by
  show XS _ _ _ _ _ _ _;rw[hW0];exact⟨KJ.nod<|mY _ _,ct,ct,ct,World.ownsRow_nil _ _ _ _,fun g hg=>by simp[Value.ownBlock]at hg,cq⟩
 have HB0:=tZ hW0;go_enter func173,ntmps173;go_wp2_with fail;rw[<-hW0];clear hW0;go_loopw[7,16] (fun v i wr=>∃(k:Nat) (qs:Q08) (pv:Value),k<=rs.length/\i=.int .i64 k/\O (XS wr w.heap.size (w.heap.size+1) v pv qs (aI f (ai rs) k).2)/\O (ai qs=(aI f (ai rs) k).1)/\O (ag w wr)) (fun _ i _=>rs.length-(intOf i).toNat);case atStart=>exact⟨0,[],.slice none 0 0,WO _,rfl,by rw[iZ];exact HX0,by show _=_;rw[iZ];rfl,HB0⟩
 clear HX0 HB0;obtain⟨k,qs,pv,hk,rfl,HX,HQ,HB⟩:=hrel;by_cases hlt:k<rs.length
 ·obtain⟨YT,Yj,rfl,-⟩:=Eu HX.nod.own rfl HX.nod.ok;rcases HS.out.below HB.out with hnil|⟨b,off,Yb,hb,hr,hok⟩
  ·rw[hnil]at hlt;simp at hlt
  obtain⟨t0,t1,t2,t3,t4⟩:=hr k hlt;have Yn:O (rs[k].ok wr):=hok rs[k]<|WH hlt;have hlg:=HL rs[k]<|WH hlt;have lA:bh rs[k].e.allow:=hlg.1;have lK:bh rs[k].e.kids:=hlg.2;have hk1:=bY k;have hk2:(k:Int)<(rs.length:Int):=cq;have hql:qs.length<=225:=by
   have:=(HFEW k hk).1;rw[<-au,HQ];omega
  obtain⟨W1,hW1⟩:=eQx<|wr.alloc<|.cells (ce rs[k]) 43;have HB1:=tZ hW1;have hgl:wr.heap.size<W1.heap.size:=by rw[hW1];simp
  have p0:W1.cell? (a7 wr)=some (.int .i64 rs[k].e.kind):=by rw[hW1];simp
  have p1:W1.cell? (a8 wr 1)=some (.slice rs[k].adA rs[k].e.allow.length rs[k].capA):=by rw[hW1];simp
  have p2:W1.cell? (a8 wr 2)=some (.string rs[k].e.over):=by rw[hW1];simp
  have p3:W1.cell? (a8 wr 3)=some (.string rs[k].e.name):=by rw[hW1];simp
  have p4:W1.cell? (a8 wr 4)=some (.slice rs[k].adK rs[k].e.kids.length rs[k].capK):=by rw[hW1];simp
  rw[Yb];clear hr hok hlg Yb hb;by_cases Yy:rs[k].e.kids=[]
  ·have hk0:¬(0:Int)<(rs[k].e.kids.length:Int):=by rw[Yy];simp
   have hk0':¬0<rs[k].e.kids.length:=by rw[Yy];simp
   have HKN:O (rs[k].e.kids=[]):=Yy;clear Yy;obtain⟨wo,hwo⟩:=eQx wr;subst hwo;have HS1:O (W1.heap.size=wo.heap.size+1):=by show _=_;rw[hW1];simp
   obtain⟨W2,hW2⟩:=eQx<|(wo.alloc<|.cells (ce rs[k]) 43).alloc<|.cells #[.int .i64 (qs.length:Int)] 2;have HBW2:O (ag wo W2):=by show Below _ _ _;rw[hW2];exact((WL _ _).alloc (WK _) _).alloc ct _
   have HG2:O (W2.cell? (am<|wo.heap.size+1)=some (.int .i64 (qs.length:Int))/\wo.heap.size+1<W2.heap.size):=by
    show _/\_;rw[hW2];refine⟨?_,ct⟩;have:=World.cell?_alloc_mark (wo.alloc<|.cells (ce rs[k]) 43) #[.int .i64 (qs.length:Int)] 2 (0,0) 0;rw[show(wo.alloc<|.cells (ce rs[k]) 43).heap.size=wo.heap.size+1 by simp]at this;rw[this];rfl
   have HSTEP:O (aI f (ai rs) (k+1)=((aI f (ai rs) k).1++(f rs[k].e).map (eT fun x=>(((aI f (ai rs) k).1.length:Nat):Int)+x),(aI f (ai rs) k).2++[((((aI f (ai rs) k).1++(f rs[k].e).map (eT fun x=>(((aI f (ai rs) k).1.length:Nat):Int)+x)).length:Nat):Int)-1])):=by
    show _=_;rw[fD f (ai rs) k (by rw[au];exact hlt),qE hlt];unfold gY;rw[if_pos (by rw[HKN];rfl)]
   clear hW1 p0 p1 p2 p3 p4;go_wp2_with fail;rw[<-hW2,Z7,Oper.upon_enter];clear hW2;refine(HCH rs[k] (WH hlt) HKN W2<|HB.trans<|HBW2.mono HB.size).mono ?_;rintro e w3 ⟨adM,capM,ms,rfl,hme,hb3,hst⟩;have HST:O (∀w2:World,w3.heap.size<=w2.heap.size->(∀g,g<w3.heap.size->(g<w.heap.size\/W2.heap.size<=g)->w2.heap[g]?=w3.heap[g]?)->iw w2 adM ms):=hst;have HME:O (ai ms=f rs[k].e):=hme;have HLBK:O (Rj f rs[k].e):=HLB _<|WH hlt;have Yv:ms.length<=15:=by rw[<-au,hme];exact HLBK.1
   have HBW3:=iD HBW2 hb3;have HX3:=aB<|HX.below HBW3;have ZY:O (ab w3 (wo.heap.size+1) (.int .i64 (qs.length:Int))/\wo.heap.size+1<w3.heap.size):=⟨kept hb3 HG2.2 HG2.1,WJ HG2.2 hb3.size⟩;have HW23:O (W2.heap.size<=w3.heap.size):=hb3.size;clear hst hme hb3 t0 t1 t2 t3 t4;go_wp2_with fail;go_loopw[7,37] (fun v i wr=>∃(j:Nat) (Zy:Q08),j<=ms.length/\i=.int .i64 j/\O (XS wr w.heap.size (w.heap.size+1) v pv Zy (aI f (ai rs) k).2)/\O (ai Zy=ai qs++((ai ms).take j).map (eT fun x=>(qs.length:Int)+x))/\O (ag w wr)/\O (w3.heap.size<=wr.heap.size)/\O (∀g,g<w3.heap.size->(g<w.heap.size\/wo.heap.size<=g)->wr.heap[g]?=w3.heap[g]?)/\O (∀g,v.ownBlock=some g->g<wo.heap.size\/w3.heap.size<=g)) (fun _ i _=>ms.length-(intOf i).toNat);case atStart=>exact⟨0,qs,WO _,rfl,HX3,by show _=_;simp,HB.trans<|HBW3.mono HB.size,WK _,fun g _ _=>rfl,fun g hg=>.inl (HX.nod.own.lt g hg).2⟩
   clear HX3;obtain⟨j,Zy,hj,rfl,HXI,HQI,HBI,HSI,HKI,HVI⟩:=hrel;have hqi:Zy.length<=240:=by
    have e:Zy.length=qs.length+min j ms.length:=by
     rw[<-au,HQI,WP,Xv,XC,au,au]
    omega
   by_cases hjt:j<ms.length
   ·rcases HST.out wr HSI (fun g h1 h2=>HKI g h1<|h2.imp id fun h=>WR HBW2.size h) with hnil|⟨b2,X7,Y5,hb2,hr2,hok2⟩
    ·rw[hnil]at hjt;simp at hjt
    obtain⟨t0,t1,t2,t3,t4⟩:=hr2 j hjt;have HOK2:O (ms[j].ok wr):=hok2 ms[j]<|WH hjt;have hmem:ms[j].e∈f rs[k].e:=by rw[<-HME];exact WV.2 ⟨ms[j],WH hjt,rfl⟩
    have hlg:=(HLBK.2 _ hmem).1;have HXK:O (∀x∈ms[j].e.kids,0<=x/\x<1000):=(HLBK.2 _ hmem).2;have lA2:bh ms[j].e.allow:=hlg.1;have lK2:bh ms[j].e.kids:=hlg.2;have hj1:=bY j;have hj2:(j:Int)<(ms.length:Int):=cq;obtain⟨W1b,hW1b⟩:=eQx<|wr.alloc<|.cells (ce ms[j]) 43;have HBb:=tZ hW1b;have HGb:O (W1b.cell? (am<|wo.heap.size+1)=some (.int .i64 (qs.length:Int))/\wo.heap.size+1<W1b.heap.size):=by
     have h1:wo.heap.size+1<wr.heap.size:=WJ ZY.2 HSI;exact⟨kept HBb h1<|(WX (a:=⟨wo.heap.size+1,0,none⟩)<|HKI (wo.heap.size+1) ZY.2<|.inr<|Nat.le_succ _).trans ZY.1,WJ h1 HBb.size⟩
    rw[Y5];clear hr2 hok2 hlg hmem Y5;go_wp2_with fail;rw[<-hW1b];clear hW1b;refine(uw 243 (wo.heap.size+1) (fun x=>(qs.length:Int)+x) ms[j] _ (HOK2.below HBb) lA2 lK2 Lf (fun x hx w1 hb1=>?pl2)).mono ?_;case pl2 =>
     obtain⟨l1,l2⟩:=HXK x hx;exact Ld (wo.heap.size+1) qs.length x w1 (kept hb1 HGb.2 HGb.1) cq l1 cq
    rintro e w2 ⟨q,he2,hqe,hqn,hb2⟩;have Zv:=aB<|HXI.below HBb;unfold ER.val at he2;subst he2;obtain⟨W3,hW3⟩:=eQx<|w2.alloc<|.cells (ce q) 43;have ZK:=tZ hW3;have HB3:O (ag W1b W3):=hb2.trans<|ZK.mono hb2.size;have HN3:O (NewQ W1b.heap.size W3 q):=pu.heap w2 W3 _ q hqn ZK.size fun g hg=>ZK.block g (hqn.lie g hg).2.1;have YX:O (∀j u,q.row[j]?=some u->W3.cell? ((⟨w2.heap.size,0,none⟩:Addr).add j)=some u):=by rw[hW3];exact Gl w2 q
    have HOW3:O (W3.ownsRow (w.heap.size+1) 43 5 (u7) Zy.length<|dV Zy):=(Zv.below HB3).nod.own;have HBA3:O (w.heap.size+1<=W3.heap.size):=(Zv.below HB3).lt;have HQE:O (q.e=_):=hqe;clear hqn hqe hb2;go_wp2_with(at_builtin;rw[<-hW3];clear hW3;refine wpList_append_own_at _ rfl _ _ 37 rfl (w.heap.size+1) 43 iE (.agg #[.int .i64 0,.slice none 0 0,.string ⟨#[]⟩,.string ⟨#[]⟩,.slice none 0 0]) 5 88 underlying37 HIE.1 HIE.2.1 HIE.2.2.1 HIE.2.2.2 rfl cv (u7) Zy.length (dV Zy) rfl HOW3 ⟨w2.heap.size,0,none⟩ 1 1 q.row rfl rfl YX (rT q) cy cq HBA3 ?_);intro v4 w4 YB YM _ hv4;have YE:O (ag w w4):=((HBI.trans<|HBb.mono HBI.size).trans<|HB3.mono<|WR HBI.size HBb.size).grown YM (by have:=HBA3.out;omega) (fun g hg=>by have:=(HOW3.lt g hg).1;omega);have HX4:O (XS w4 w.heap.size (w.heap.size+1) v4 pv (Zy++[q]) (aI f (ai rs) k).2):=Zv.add HB3 HN3 YB YM<|hv4.imp id fun e=>⟨_,e,WK _⟩;have HQ4:O (ai (Zy++[q])=ai qs++((ai ms).take<|j+1).map (eT fun x=>(qs.length:Int)+x)):=by
     show _=_;rw[Cf,HQI,HQE,WN<|by rw[au];exact hjt,Xy,qE hjt,Xg];rfl
    have HS4:O (w3.heap.size<=w4.heap.size):=WR HSI<|WR HBb.size<|WR HB3.size YM.size;have HW3:O (wr.heap.size<=W3.heap.size):=WR HBb.size HB3.size;have HK4:O (∀g,g<w3.heap.size->(g<w.heap.size\/wo.heap.size<=g)->w4.heap[g]?=w3.heap[g]?):=fun g h1 h2=>by
     have hg:cU g wr:=WJ h1 HSI;have e1:w4.heap[g]?=W3.heap[g]?:=YM.block g (WJ hg HW3) (fun e=>by
      have h3:=HVI g e.symm;have h4:=(HXI.nod.own.lt g e.symm).1;omega)
     rw[e1,HB3.block g<|WJ hg HBb.size,HBb.block g hg];exact HKI g h1 h2
    have HV4:O (∀g,v4.ownBlock=some g->g<wo.heap.size\/w3.heap.size<=g):=fun g hg=>by
     rcases hv4 with e|e
     ·exact HVI g (by rw[<-e];exact hg)
     rw[e]at hg;injection hg with hg;have:=HW3.out;have:=HSI.out;exact .inr cq
    clear YB YM hv4 HOW3 YX HN3 HB3 ZK Zv t0 t1 t2 t3 t4;go_wp2;go_roundw;case rel=>exact⟨j+1,Zy++[q],cq,cx,HX4,HQ4,YE,HS4,HK4,HV4⟩
    simp[intOf]<;>omega
   obtain rfl:j=ms.length:=cq;have HQ2:O (ai Zy=(aI f (ai rs)<|k+1).1):=by
    show _=_;have:=HQI.out;rw[<-au ms,Xa,HME,HQ]at this;rw[this,HSTEP,<-HQ,au]
   have ZP:O ((aI f (ai rs)<|k+1).2=(aI f (ai rs) k).2++[(Zy.length:Int)-1]):=by
    show _=_;rw[<-au Zy,HQ2,HSTEP]
   obtain⟨qs2,hqs2⟩:∃x,x=Zy:=⟨_,rfl⟩;subst hqs2;obtain⟨Zn,Yp,rfl,-⟩:=Eu HXI.nod.own rfl HXI.nod.ok;have ZM:O (XS wr w.heap.size (w.heap.size+1) (.slice Zn qs2.length Yp) pv qs2 (aI f (ai rs) k).2):=HXI;have YE:O (ag w wr):=HBI;have hq2:qs2.length<=300:=cq;clear HXI HBI HKI HVI HSI;have c0:=ZM.pl;have f0:=ZM.fz;have HPL2:O ((aI f (ai rs) k).2.length=k):=(HFEW k hk).2;have HRP:O (wr.ownsRow (w.heap.size+1) 2 1 pv k<|ints (aI f (ai rs) k).2):=by have:=ZM.row;rwa [HPL2]at this
   have HLT:O (w.heap.size+1<=wr.heap.size):=ZM.lt;have hq2':(qs2.length:Int)<=300:=cq;go_wp2_with(at_builtin;refine wpList_append_own_at _ rfl _ _ 41 rfl (w.heap.size+1) 2 iI (.int .i64 0) 1 8 underlying41 Zw.1 Zw.2.1 Zw.2.2.1 Zw.2.2.2 rfl cv pv k (ints (aI f (ai rs) k).2) rfl (HRP.alloc _) ⟨wr.heap.size,0,none⟩ 1 1 [.int .i64 ((qs2.length:Int)-1)] rfl rfl (cell_one_new _ _ _) (by intro u hu;simp at hu;subst hu;rfl) cy cq (by simp;have:=HLT.out;omega) ?_);intro v5 w5 hown5 hgr5 _ hv5;obtain⟨ad5,cap5,rfl⟩:=jT hown5;have HA5:O (ag wr<|wr.alloc<|.cells #[.int .i64 ((qs2.length:Int)-1)] 2):=(WL _ _).alloc (WK _) _;have HPB:O (w5.heap[w.heap.size]?=(wr.alloc<|.cells #[.int .i64 ((qs2.length:Int)-1)] 2).heap[w.heap.size]?):=hgr5.block _ (by simp;have:=HLT.out;omega) (fun e=>by have:=(ZM.row.lt _ e.symm).1;omega);have HXA5:=aB<|ZM.below HA5;have c5:ab w5 w.heap.size pv:=(WX (a:=⟨w.heap.size,0,none⟩) HPB).trans HXA5.pl;have f5:w5.frozen? (a7 w)=false:=(World.frozen?_of_block (a:=⟨w.heap.size,0,none⟩) HPB).trans HXA5.fz;have HX5:O (XS (w5.setCell (a7 w)<|.slice ad5 (k+1) cap5) w.heap.size (w.heap.size+1) (.slice Zn qs2.length Yp) (.slice ad5 (k+1) cap5) qs2 (aI f (ai rs)<|k+1).2):=by
    show XS _ _ _ _ _ _ _;rw[ZP];exact ZM.place HA5 (by rw[HPL2];exact hown5) hgr5 (hv5.imp id fun e=>⟨_,e,ct⟩)
   have Yo:O (ag w<|w5.setCell (a7 w)<|.slice ad5 (k+1) cap5):=((YE.trans<|HA5.mono YE.size).grown hgr5 (by simp;have:=HLT.out;omega) (fun g hg=>by have:=(ZM.row.lt g hg).1;omega)).setCell (WK _) _;clear hown5 hgr5 hv5 c0 f0;go_wp2;go_roundw;case rel=>exact⟨k+1,qs2,.slice ad5 (k+1) cap5,cq,cx,HX5,HQ2,Yo⟩
   simp[intOf]<;>omega
  have hk0:(0:Int)<(rs[k].e.kids.length:Int):=by
   have:=List.length_pos_iff.2 Yy;omega
  have hk0':0<rs[k].e.kids.length:=List.length_pos_iff.2 Yy;have HSTEP:O (aI f (ai rs) (k+1)=((aI f (ai rs) k).1++[eT (fun x=>(aI f (ai rs) k).2.getD x.toNat 0) rs[k].e],(aI f (ai rs) k).2++[((aI f (ai rs) k).1.length:Int)])):=by
   show _=_;rw[fD f (ai rs) k (by rw[au];exact hlt),qE hlt];unfold gY;rw[if_neg (by simpa using Yy)]
  clear Yy;go_wp2_with fail;rw[<-hW1];clear hW1;refine(uw 242 w.heap.size (fun x=>(aI f (ai rs) k).2.getD x.toNat 0) rs[k] _ (Yn.below HB1) lA lK Le (fun x hx w1 hb1=>?pl)).mono ?_;case pl =>
   obtain⟨l1,l2⟩:=HLOW k (by rw[au];exact hlt) x (by rw[qE hlt];exact hx);have hx1:=(HX.below HB1).below hb1;exact Lc w.heap.size pv (w.heap.size+1) _ x w1 hx1.pl hx1.row l1 (by rw[(HFEW k hk).2];exact l2)
  rintro e w2 ⟨q,he2,hqe,hqn,hb2⟩;have Zv:=aB<|HX.below HB1;unfold ER.val at he2;subst he2;obtain⟨W3,hW3⟩:=eQx<|w2.alloc<|.cells (ce q) 43;have ZK:=tZ hW3;have HB3:O (ag W1 W3):=hb2.trans<|ZK.mono hb2.size;have HN3:O (NewQ W1.heap.size W3 q):=pu.heap w2 W3 _ q hqn ZK.size fun g hg=>ZK.block g (hqn.lie g hg).2.1;have YX:O (∀j u,q.row[j]?=some u->W3.cell? ((⟨w2.heap.size,0,none⟩:Addr).add j)=some u):=by rw[hW3];exact Gl w2 q
  have HOW3:O (W3.ownsRow (w.heap.size+1) 43 5 (.slice YT qs.length Yj) qs.length<|dV qs):=(Zv.below HB3).nod.own;have HBA3:O (w.heap.size+1<=W3.heap.size):=(Zv.below HB3).lt;have HQE:O (q.e=_):=hqe;clear hqn hqe hb2;go_wp2_with(at_builtin;rw[<-hW3];clear hW3;refine wpList_append_own_at _ rfl _ _ 37 rfl (w.heap.size+1) 43 iE (.agg #[.int .i64 0,.slice none 0 0,.string ⟨#[]⟩,.string ⟨#[]⟩,.slice none 0 0]) 5 88 underlying37 HIE.1 HIE.2.1 HIE.2.2.1 HIE.2.2.2 rfl cv (.slice YT qs.length Yj) qs.length (dV qs) rfl HOW3 ⟨w2.heap.size,0,none⟩ 1 1 q.row rfl rfl YX (rT q) cy cq HBA3 ?_);intro v4 w4 YB YM _ hv4;have YE:O (ag w w4):=((HB.trans<|HB1.mono HB.size).trans<|HB3.mono<|WR HB.size HB1.size).grown YM (by have:=HBA3.out;omega) (fun g hg=>by have:=(HOW3.lt g hg).1;omega);have hx4:XS w4 w.heap.size (w.heap.size+1) v4 pv (qs++[q]) (aI f (ai rs) k).2:=Zv.add HB3 HN3 YB YM<|hv4.imp id fun e=>⟨_,e,WK _⟩;have HQ2:O (ai (qs++[q])=(aI f (ai rs)<|k+1).1):=by show _=_;rw[Cf,HQ,HQE,HSTEP]
  have ZP:O ((aI f (ai rs)<|k+1).2=(aI f (ai rs) k).2++[((qs++[q]).length:Int)-1]):=by
   show _=_;rw[HSTEP,<-HQ,au,WP,Xi];simp
  have hq2:(qs++[q]).length<=300:=by rw[WP,Xi];omega
  obtain⟨qs2,hqs2⟩:∃x,x=qs++[q]:=⟨_,rfl⟩;rw[<-hqs2]at HQ2 ZP hx4 hq2;clear hqs2;obtain⟨Zn,Yp,rfl,-⟩:=Eu hx4.nod.own rfl hx4.nod.ok;have ZM:=aB hx4;clear hx4 YB YM hv4 HOW3 YX HN3 HB3 ZK p0 p1 p2 p3 p4 t0 t1 t2 t3 t4 Zv;have c0:=ZM.pl;have f0:=ZM.fz;have HPL2:O ((aI f (ai rs) k).2.length=k):=(HFEW k hk).2;have HRP:O (w4.ownsRow (w.heap.size+1) 2 1 pv k<|ints (aI f (ai rs) k).2):=by have:=ZM.row;rwa [HPL2]at this
  have HLT:O (w.heap.size+1<=w4.heap.size):=ZM.lt;have hq2':(qs2.length:Int)<=300:=cq;go_wp2_with(at_builtin;refine wpList_append_own_at _ rfl _ _ 41 rfl (w.heap.size+1) 2 iI (.int .i64 0) 1 8 underlying41 Zw.1 Zw.2.1 Zw.2.2.1 Zw.2.2.2 rfl cv pv k (ints (aI f (ai rs) k).2) rfl (HRP.alloc _) ⟨w4.heap.size,0,none⟩ 1 1 [.int .i64 ((qs2.length:Int)-1)] rfl rfl (cell_one_new _ _ _) (by intro u hu;simp at hu;subst hu;rfl) cy cq (by simp;have:=HLT.out;omega) ?_);intro v5 w5 hown5 hgr5 _ hv5;obtain⟨ad5,cap5,rfl⟩:=jT hown5;have HA5:O (ag w4<|w4.alloc<|.cells #[.int .i64 ((qs2.length:Int)-1)] 2):=(WL _ _).alloc (WK _) _;have HPB:O (w5.heap[w.heap.size]?=(w4.alloc<|.cells #[.int .i64 ((qs2.length:Int)-1)] 2).heap[w.heap.size]?):=hgr5.block _ (by simp;have:=HLT.out;omega) (fun e=>by have:=(ZM.row.lt _ e.symm).1;omega);have HXA5:=aB<|ZM.below HA5;have c5:ab w5 w.heap.size pv:=(WX (a:=⟨w.heap.size,0,none⟩) HPB).trans HXA5.pl;have f5:w5.frozen? (a7 w)=false:=(World.frozen?_of_block (a:=⟨w.heap.size,0,none⟩) HPB).trans HXA5.fz;have HX5:O (XS (w5.setCell (a7 w)<|.slice ad5 (k+1) cap5) w.heap.size (w.heap.size+1) (.slice Zn qs2.length Yp) (.slice ad5 (k+1) cap5) qs2 (aI f (ai rs)<|k+1).2):=by
   show XS _ _ _ _ _ _ _;rw[ZP];exact ZM.place HA5 (by rw[HPL2];exact hown5) hgr5 (hv5.imp id fun e=>⟨_,e,ct⟩)
  have Yo:O (ag w<|w5.setCell (a7 w)<|.slice ad5 (k+1) cap5):=((YE.trans<|HA5.mono YE.size).grown hgr5 (by simp;have:=HLT.out;omega) (fun g hg=>by have:=(ZM.row.lt g hg).1;omega)).setCell (WK _) _;clear hown5 hgr5 hv5 c0 f0;go_wp2;go_roundw;case rel=>exact⟨k+1,qs2,.slice ad5 (k+1) cap5,cq,cx,HX5,HQ2,Yo⟩
  simp[intOf]<;>omega
 obtain rfl:k=rs.length:=cq;have HF:O (ai qs=dB f (ai rs)):=by
  show _=_;rw[HQ];unfold dB;rw[au]
 go_wp2;go_ret;exact⟨_,qs,rfl,HX.nod.mono cq,HF,HB⟩
def zx.mono{FC:Nat}{rc cp:Array Value}{typ:ByteArray}{f:Ex->List Ex}{w w':af}{r:ER}(h:zx FC rc cp typ f w r)(hb:ag w w'):zx FC rc cp typ f w' r:=fun w1 h1=>(h w1<|hb.trans<|h1.mono hb.size).mono fun e w2 ⟨Yh,cap',ms,e1,e2,e3,e4⟩=>⟨Yh,cap',ms,e1,e2,e3,fun w3 h3 h4=>e4 w3 h3 fun g h5 h6=>h4 g h5<|h6.imp (fun h=>WJ h hb.size) id⟩
def X8.mono{α:Type}{T:TypeId}{size:Nat}{cells:α->List Value}{K:World->Nat->α->Prop}{I:α->Nat->Prop}{w:af}{base base':Nat}{v:Value}{rs:List α}(h:X8 T size cells K I w base v rs)(hb:base'<=base)(hk:∀q,K w base q->K w base' q):X8 T size cells K I w base' v rs :=
 ⟨⟨h.own.1,by
  rcases h.own.2 with hl|⟨g,cap,cur,e,h1,h2⟩
  ·exact .inl hl
  exact .inr ⟨g,cap,cur,e,WR hb h1,h2⟩⟩,fun q hq=>hk q<|h.kid q hq,h.head,h.two⟩
def jJ.mono{w:af}{base base':Nat}{v:Value}{rs:Q07}(h:jJ w base v rs)(hb:base'<=base):jJ w base' v rs:=X8.mono h hb fun q hq=>NodM.mono hq hb
def IY(xs:Q07)(y:RR):df (xs++[y])=df xs++[y.p]:=by simp[df]
def IZ(xs:Q06)(y:TR):ae (xs++[y])=ae xs++[y.p]:=by simp[ae]
def vw(w:af)(a b:Value)(T:TypeId):∀j u,[a,b][j]?=some u->(w.alloc<|.cells #[a,b] T).cell? ((⟨w.heap.size,0,none⟩:Addr).add j)=some u:=by
 intro j u hu;rw[show(⟨w.heap.size,0,none⟩:Addr).add j=⟨w.heap.size,0+j,none⟩ by simp[Addr.add];omega,Xl];rw[World.cell?_alloc_mark w #[a,b] T (0,0) j];simpa using hu
structure SmallS(f:ByteArray->Ex->List Ex)(rs:Q06):Prop where
 n6:rs.length<=6
 r6:∀t∈rs,t.rows.length<=6
 e15:∀t∈rs,∀q∈t.rows,q.rows.length<=15
 low:∀t∈rs,∀q∈t.rows,jF (ai q.rows)
 lb:∀t∈rs,∀q∈t.rows,∀x∈q.rows,Rj (f t.name) x.e
 light:∀t∈rs,∀q∈t.rows,∀x∈q.rows,x.e.light
structure RFs(N R T:Nat)(v2:Value)(tn rn:ByteArray)(ex:Value)(w:World):Prop where
 n0:w.cell? ⟨N,0,none⟩=some (.string tn)
 n1:w.cell? ⟨N,1,none⟩=some v2
 fz:w.frozen? ⟨N,1,none⟩=false
 r0:w.cell? ⟨R,0,none⟩=some (.string rn)
 r1:w.cell? ⟨R,1,none⟩=some ex
 t0:w.cell? ⟨T,0,none⟩=some (.string tn)
 lt:N<w.heap.size/\R<w.heap.size/\T<w.heap.size
def RFs.heap{N R T:Nat}{v2:Value}{tn rn:ByteArray}{ex:Value}{w w':af}(h:RFs N R T v2 tn rn ex w)(hs:cV w w')(hb:∀g,g=N\/g=R\/g=T->w'.heap[g]?=w.heap[g]?):RFs N R T v2 tn rn ex w' :=
 ⟨(WX (a:=⟨N,0,none⟩)<|hb N<|.inl rfl).trans h.n0,(WX (a:=⟨N,1,none⟩)<|hb N<|.inl rfl).trans h.n1,(World.frozen?_of_block (a:=⟨N,1,none⟩)<|hb N<|.inl rfl).trans h.fz,(WX (a:=⟨R,0,none⟩)<|hb R<|.inr<|.inl rfl).trans h.r0,(WX (a:=⟨R,1,none⟩)<|hb R<|.inr<|.inl rfl).trans h.r1,(WX (a:=⟨T,0,none⟩)<|hb T<|.inr<|.inr rfl).trans h.t0,by have:=h.lt;omega⟩
def RFs.below{N R T:Nat}{v2:Value}{tn rn:ByteArray}{ex:Value}{w w':af}(h:RFs N R T v2 tn rn ex w)(hb:ag w w'):RFs N R T v2 tn rn ex w' :=
 h.heap hb.size fun g hg=>hb.block g (by have:=h.lt;rcases hg with rfl|rfl|rfl<;>omega)
def C1(W:World)(E:Q09)(x:Value)(w:World):Prop:=∃(ad:Q02) (cap:Nat) (qs:Q08),x=.slice ad qs.length cap/\NodM w W.heap.size x qs/\ai qs=E/\ag W w
def C3(W:World)(rn:ByteArray)(E:Q09)(u:Value)(w:World):Prop:=∃(b:Nat) (q:RR),u=.slice (some ⟨b,0,none⟩) 1 1/\(∀j y,(RR.cells q)[j]?=some y->w.cell? ((⟨b,0,none⟩:Addr).add j)=some y)/\kR w W.heap.size q/\q.p=⟨rn,E⟩/\ag W w
def C4(W:World)(N:Nat)(rows:Q07)(rn:ByteArray)(E:Q09)(u:Value)(w:World):Prop:=∃(ad:Q02) (cap:Nat) (q:RR),u=.slice ad (rows.length+1) cap/\jJ w (N+1) u (rows++[q])/\q.p=⟨rn,E⟩/\Below (N+1) W w
def C1.lay{W w:af}{rn:ByteArray}{E:Q09}{x:Value}(h:C1 W E x w):C3 W rn E (.slice (some<|am w.heap.size) 1 1) (w.alloc<|.cells #[.string rn,x] 39):=by
 obtain⟨ad,cap,qs,rfl,hn,he,hb⟩:=h;have hA:ag w (w.alloc<|.cells #[.string rn,.slice ad qs.length cap] 39):=(WL _ _).alloc (WK _) _;exact⟨w.heap.size,⟨rn,qs,ad,cap⟩,rfl,vw w _ _ _,KJ.nod<|hn.ex.below pu hA,by simp[RR.p,he],hb.trans<|hA.mono hb.size⟩
def C3.app{W0 W w w':af}{N:Nat}{rows:Q07}{rn:ByteArray}{E:Q09}{v2 v':Value}{q:RR}(h0:jJ W (N+1) v2 rows)(hN:N+1<=W.heap.size)(hq:kR w W.heap.size q)(hp:q.p=⟨rn,E⟩)(hb:ag W w)(hown:w'.ownsRow (N+1) 39 2 v' (rows.length+1)<|rows.flatMap RR.cells++RR.cells q)(hg:w.grownBy w' v2.ownBlock)(hat:v'.ownBlock=v2.ownBlock\/v'.ownBlock=some w.heap.size):C4 W N rows rn E v' w':=by
 have h1:jJ w' (N+1) v' (rows++[q]):=X8.snocN oG h0 hb hown hg (hat.imp id fun e=>⟨_,e,WK _⟩) (NodM.mono hq hN) (fun g hi=>(oG.lt w W.heap.size q hq g hi).1);obtain⟨ad,cap,rfl⟩:=jT hown;exact⟨ad,cap,q,rfl,h1,hp,(hb.mono hN).grown hg (WR hN hb.size) fun g hg=>(h0.own.lt g hg).1⟩
def xw(FC:Nat)(rc cp:Array Value)(f:ByteArray->Ex->List Ex)(ad:Q02)(cap:Nat)(rs:Q06)(w:af)(hs:jX w ad rs)(hsm:SmallS f rs)
  (hrun:∀(xs:Array Value) (u:World),(callFunc FC xs).run prog u=.ok (.enter FC xs) u) (hch:∀t∈rs,∀q∈t.rows,∀x∈q.rows,x.e.kids=[]->zx FC rc cp t.name (f t.name) w x) :
  Calls prog 97 #[.slice ad rs.length cap,.func (Fn.func FC) rc cp] w fun e w'=>∃(v:Value) (qs:Q06),e=.returned v/\dA w' w.heap.size v qs/\ae qs=jE f (ae rs)/\ag w w':=by
 obtain⟨iR,hiR,zR0,zR1,zR2⟩:=info_parts (P:=prog) (e:=39) (z:=.agg #[.string ⟨#[]⟩,.slice none 0 0]) (size:=2) (bytes:=40) cw;obtain⟨iT,hiT,zT0,zT1,zT2⟩:=info_parts (P:=prog) (e:=36) (z:=.agg #[.string ⟨#[]⟩,.slice none 0 0]) (size:=2) (bytes:=40) cw;have HIR:O (prog.info? 39=some iR/\iR.zero=some (.agg #[.string ⟨#[]⟩,.slice none 0 0])/\iR.size=2/\iR.bytes=40):=⟨hiR,zR0,zR1,zR2⟩;have HIT:O (prog.info? 36=some iT/\iT.zero=some (.agg #[.string ⟨#[]⟩,.slice none 0 0])/\iT.size=2/\iT.bytes=40):=⟨hiT,zT0,zT1,zT2⟩;have HS:=aB hs;have HSM:=aB hsm;have Z7:O (∀(xs:Array Value) (u:World),(callFunc FC xs).run prog u=.ok (.enter FC xs) u):=hrun;have HCH:O (∀t∈rs,∀q∈t.rows,∀x∈q.rows,x.e.kids=[]->zx FC rc cp t.name (f t.name) w x):=hch;have hn6:=hsm.n6;clear hs hsm hrun hch hiR zR0 zR1 zR2 hiT zT0 zT1 zT2;go_enter func97,ntmps97;go_wp2_with fail;go_loopw[5,13] (fun v i wr=>∃(k:Nat) (qs:Q06),k<=rs.length/\i=.int .i64 k/\O (dA wr w.heap.size v qs)/\O (ae qs=(jE f<|ae rs).take k)/\O (ag w wr)) (fun _ i _=>rs.length-(intOf i).toNat);case atStart=>exact⟨0,[],WO _,rfl,mY _ _,by show _=_;simp[ae],WL _ _⟩
 obtain⟨k,qs,hk,rfl,HX,HQ,HB⟩:=hrel;obtain⟨wo,hwo⟩:=eQx wr;subst hwo;have HQL:O (qs.length=k):=by
  show _=_;rw[<-bz,HQ,XC];simp[jE,bz];omega
 have hql6:qs.length<=6:=by rw[HQL];omega
 by_cases hlt:k<rs.length
 ·rcases HS.out.below HB.out with hnil|⟨b,off,Yb,hb,hr,hok⟩
  ·rw[hnil]at hlt;simp at hlt
  obtain⟨t0,t1⟩:=hr k hlt;have HTM:O (rs[k]∈rs):=WH hlt;have Yn:O (rs[k].ok wo):=hok rs[k]<|WH hlt;have YN:rs[k].rows.length<=6:=HSM.r6 _<|WH hlt;have hk1:=bY k;have hk2:(k:Int)<(rs.length:Int):=cq;obtain⟨W2,hW2⟩:=eQx<|(wo.alloc<|.cells #[.string rs[k].name,.slice rs[k].ad rs[k].rows.length rs[k].cap] 36).alloc<|.cells #[.string rs[k].name,.slice none 0 0] 36;have HB2:O (ag wo W2):=by show Below _ _ _;rw[hW2];exact((WL _ _).alloc (WK _) _).alloc ct _
  have Ye:O (W2.cell? ⟨wo.heap.size,0,none⟩=some (.string rs[k].name)/\W2.cell? ⟨wo.heap.size,1,none⟩=some (.slice rs[k].ad rs[k].rows.length rs[k].cap)/\W2.cell? ⟨wo.heap.size+1,0,none⟩=some (.string rs[k].name)/\W2.cell? ⟨wo.heap.size+1,1,none⟩=some (.slice none 0 0)/\W2.frozen? ⟨wo.heap.size+1,1,none⟩=false/\W2.heap.size=wo.heap.size+2):=by
   show _/\_;rw[hW2];have hz:(wo.alloc<|.cells #[.string rs[k].name,.slice rs[k].ad rs[k].rows.length rs[k].cap] 36).heap.size=wo.heap.size+1:=ct;have hc:=fun j=>World.cell?_alloc_mark (wo.alloc<|.cells #[.string rs[k].name,.slice rs[k].ad rs[k].rows.length rs[k].cap] 36) #[.string rs[k].name,.slice none 0 0] 36 (0,0) j;rw[hz]at hc;exact⟨ct,ct,by rw[hc 0];rfl,by rw[hc 1];rfl,ct,ct⟩
  have p1:=Ye.2.1;rw[Yb];clear hr hok Yb hb;go_wp2_with fail;rw[<-hW2];clear hW2 t0 t1;have hTl:wo.heap.size<W2.heap.size:=by have:=Ye.2.2.2.2.2;omega
  go_loopw[23] (fun i wr=>∃(j:Nat) (v2:Value) (rows:Q07),j<=rs[k].rows.length/\i=.int .i64 j/\O (wr.cell? ⟨wo.heap.size+1,0,none⟩=some (.string rs[k].name)/\wr.cell? ⟨wo.heap.size+1,1,none⟩=some v2/\wr.frozen? ⟨wo.heap.size+1,1,none⟩=false)/\O (jJ wr (wo.heap.size+2) v2 rows)/\O (df rows=(((df rs[k].rows).map<|xe f rs[k].name).take j))/\O (Below (wo.heap.size+1) W2 wr)) (fun i _=>rs[k].rows.length-(intOf i).toNat);case atStart=>exact⟨0,.slice none 0 0,[],WO _,rfl,⟨Ye.2.2.1,Ye.2.2.2.1,Ye.2.2.2.2.1⟩,mY _ _,by show _=_;simp[df],WL _ _⟩
  obtain⟨j,v2,rows,hj,rfl,HN,HR,HRQ,HB3⟩:=hrel;obtain⟨wi,hwi⟩:=eQx wr;subst hwi;have HZ2:O (W2.heap.size=wo.heap.size+2):=Ye.2.2.2.2.2;have Zm:O (ag wo wi):=HB2.trans<|HB3.mono<|Nat.le_succ _;have HRL:O (rows.length=j):=by
   show _=_;rw[<-dP,HRQ,XC,Xv,dP];omega
  have hrl6:rows.length<=6:=by rw[HRL];omega
  by_cases hjt:j<rs[k].rows.length
  ·rcases Yn.out.below Zm.out with hnil|⟨b2,X7,Y5,hb2,hr2,hok2⟩
   ·rw[hnil]at hjt;simp at hjt
   obtain⟨s0,s1⟩:=hr2 j hjt;have HQM:O (rs[k].rows[j]∈rs[k].rows):=WH hjt;have HOE:O (iw wi rs[k].rows[j].ad rs[k].rows[j].rows):=hok2 _<|WH hjt;have hj1:=bY j;have hj2:(j:Int)<(rs[k].rows.length:Int):=cq;obtain⟨W3,hW3⟩:=eQx<|wi.alloc<|.cells #[.string rs[k].rows[j].name,.slice rs[k].rows[j].ad rs[k].rows[j].rows.length rs[k].rows[j].cap] 39;have ZK:=tZ hW3;have hTw:wo.heap.size+2<=wi.heap.size:=by have:=HB3.size;have:=HZ2.out;omega
   have HRF:O (RFs (wo.heap.size+1) wi.heap.size wo.heap.size v2 rs[k].name rs[k].rows[j].name (.slice rs[k].rows[j].ad rs[k].rows[j].rows.length rs[k].rows[j].cap) W3):=by
    have h1:wo.heap.size+1<wi.heap.size:=cq;have h2:wo.heap.size<wi.heap.size:=cq;have ht:wi.cell? ⟨wo.heap.size,0,none⟩=some (.string rs[k].name):=by rw[HB3.cell (p:=⟨wo.heap.size,0,none⟩) (Nat.lt_succ_self _)];exact Ye.1
    refine⟨kept ZK h1 HN.1,kept ZK h1 HN.2.1,q8 ZK h1 HN.2.2,by rw[hW3];simp,by rw[hW3];simp,kept ZK h2 ht,?_⟩;rw[hW3];simp;omega
   have HRM:O (jJ W3 (wo.heap.size+2) v2 rows):=X8.below oG HR ZK;rw[Y5];clear hr2 hok2 Y5 hb2;go_wp2_with fail;rw[<-hW3];clear hW3 s0 s1;have HNW3:O (wo.heap.size+1+1<=W3.heap.size):=by have:=ZK.size;show _<=_;omega
   have HRO:O (jJ wi (wo.heap.size+2) v2 rows):=HR;have HBW3:O (ag w W3):=(HB.trans<|Zm.mono HB.size).trans<|ZK.mono<|WR HB.size Zm.size;obtain⟨CV,hCV⟩:∃C:Nat->Value,C=fun n=>((Value.pointer<|some ⟨wo.heap.size+1,1,none⟩)::(v2)::(Value.pointer<|some ⟨wi.heap.size,0,none⟩)::(Value.string rs[k].rows[j].name)::(Value.pointer<|some ⟨wo.heap.size,0,none⟩)::(Value.string rs[k].name)::(Value.pointer<|some ⟨wi.heap.size,1,none⟩)::(Value.slice rs[k].rows[j].ad rs[k].rows[j].rows.length rs[k].rows[j].cap)::(Value.func (Fn.func FC) rc cp)::(undef)::(undef)::(undef)::(undef)::(Value.pointer<|some ⟨wo.heap.size+1,1,none⟩)::[]).getD n undef:=⟨_,rfl⟩;have Ya:O (CV 0=Value.pointer (some ⟨wo.heap.size+1,1,none⟩)/\CV 1=v2/\CV 2=Value.pointer (some ⟨wi.heap.size,0,none⟩)/\CV 3=Value.string rs[k].rows[j].name/\CV 4=Value.pointer (some ⟨wo.heap.size,0,none⟩)/\CV 5=Value.string rs[k].name/\CV 6=Value.pointer (some ⟨wi.heap.size,1,none⟩)/\CV 7=Value.slice rs[k].rows[j].ad rs[k].rows[j].rows.length rs[k].rows[j].cap/\CV 8=Value.func (Fn.func FC) rc cp/\CV 9=undef/\CV 10=undef/\CV 11=undef/\CV 12=undef/\CV 13=Value.pointer (some ⟨wo.heap.size+1,1,none⟩)):=by show _/\_;rw[hCV];exact⟨rfl,rfl,rfl,rfl,rfl,rfl,rfl,rfl,rfl,rfl,rfl,rfl,rfl,rfl⟩
   clear hCV;refine dK 14 _ _ (G.CH 9 (fun _=>[]) CV (RFs (wo.heap.size+1) wi.heap.size wo.heap.size (v2) rs[k].name rs[k].rows[j].name<|Value.slice rs[k].rows[j].ad rs[k].rows[j].rows.length rs[k].rows[j].cap) (Below W3.heap.size W3) (C1 W3<|dB (f rs[k].name)<|ai rs[k].rows[j].rows) (fun x=>.agg #[.string rs[k].rows[j].name,x]) (C3 W3 rs[k].rows[j].name<|dB (f rs[k].name)<|ai rs[k].rows[j].rows) (C4 W3 (wo.heap.size+1) rows rs[k].rows[j].name<|dB (f rs[k].name)<|ai rs[k].rows[j].rows)) cw rfl cw (fun o ho l fq w' hI hp=>?IQ) (vQ [(27,[0,1,2,3,4,5,6,7,8,9,10,11,12,13])]) (G.ch_start (HRF.below (WL _ _).drew) (WL _ _).drew) ?stepR ?finR<;>try dsimp only[uI]
   case IQ =>
    cases ho;intro k hk;have hc:=PU (i:=k) cq
    repeat' rcases hc with rfl|hc
    ·exact hp ⟨0,.phase⟩ ct rfl
    ·exact hp ⟨1,.phase⟩ ct rfl
    ·exact hp ⟨2,.phase⟩ ct rfl
    ·exact hp ⟨3,.phase⟩ ct rfl
    ·exact hp ⟨4,.phase⟩ ct rfl
    ·exact hp ⟨5,.phase⟩ ct rfl
    ·exact hp ⟨6,.phase⟩ ct rfl
    ·exact hp ⟨7,.phase⟩ ct rfl
    ·exact hp ⟨8,.phase⟩ ct rfl
    ·exact hp ⟨9,.phase⟩ ct rfl
    ·exact hp ⟨10,.phase⟩ ct rfl
    ·exact hp ⟨11,.phase⟩ ct rfl
    ·exact hp ⟨12,.phase⟩ ct rfl
    exact hp ⟨13,.data⟩ ct rfl
   case stepR =>
    rintro i hi o ho l fq w' Yx hI hpre;have HI:O (G.CH 9 (fun _=>[]) CV (RFs (wo.heap.size+1) wi.heap.size wo.heap.size (v2) rs[k].name rs[k].rows[j].name<|Value.slice rs[k].rows[j].ad rs[k].rows[j].rows.length rs[k].rows[j].cap) (Below W3.heap.size W3) (C1 W3<|dB (f rs[k].name)<|ai rs[k].rows[j].rows) (fun x=>.agg #[.string rs[k].rows[j].name,x]) (C3 W3 rs[k].rows[j].name<|dB (f rs[k].name)<|ai rs[k].rows[j].rows) (C4 W3 (wo.heap.size+1) rows rs[k].rows[j].name<|dB (f rs[k].name)<|ai rs[k].rows[j].rows) l fq w'):=hI;have XZ:O (∀e∈o.after,Region.binds .any e=true->l e.on=true):=hpre;have HRW:O (RFs (wo.heap.size+1) wi.heap.size wo.heap.size (v2) rs[k].name rs[k].rows[j].name (Value.slice rs[k].rows[j].ad rs[k].rows[j].rows.length rs[k].rows[j].cap) w'):=hI.rf;clear hI hpre;have hc:=PU (i:=i) cq;clear hi
    repeat' rcases hc with rfl|hc
    ·cases ho;have HP:=aF (HI.put (i:=0) cq (fun j hj=>by cases hj) Ya.1.symm);refine aa rfl fun K HK=>?_;clear XZ HI;dsimp only;go_simp;exact HK _ _ ⟨_,by simp[upd],HP⟩
    ·cases ho;have e0:fq 0=.pointer (some ⟨wo.heap.size+1,1,none⟩):=(HI.val 0 cq<|XZ ⟨0,.data⟩ ct rfl).trans Ya.1;have x1:=HRW.n1;have HP:=aF (HI.put (i:=1) cq (fun j hj=>by cases hj) Ya.2.1.symm);refine aa rfl fun K HK=>?_;clear XZ HI;simp only[e0];go_simp;exact HK _ _ ⟨_,by simp[upd,e0],HP⟩
    ·cases ho;have HP:=aF (HI.put (i:=2) cq (fun j hj=>by cases hj) Ya.2.2.1.symm);refine aa rfl fun K HK=>?_;clear XZ HI;dsimp only;go_simp;exact HK _ _ ⟨_,by simp[upd],HP⟩
    ·cases ho;have e2:fq 2=.pointer (some ⟨wi.heap.size,0,none⟩):=(HI.val 2 cq<|XZ ⟨2,.data⟩ ct rfl).trans Ya.2.2.1;have x1:=HRW.r0;have HP:=aF (HI.put (i:=3) cq (fun j hj=>by cases hj) Ya.2.2.2.1.symm);refine aa rfl fun K HK=>?_;clear XZ HI;simp only[e2];go_simp;exact HK _ _ ⟨_,by simp[upd,e2],HP⟩
    ·cases ho;have HP:=aF (HI.put (i:=4) cq (fun j hj=>by cases hj) Ya.2.2.2.2.1.symm);refine aa rfl fun K HK=>?_;clear XZ HI;dsimp only;go_simp;exact HK _ _ ⟨_,by simp[upd],HP⟩
    ·cases ho;have e4:fq 4=.pointer (some ⟨wo.heap.size,0,none⟩):=(HI.val 4 cq<|XZ ⟨4,.data⟩ ct rfl).trans Ya.2.2.2.2.1;have x1:=HRW.t0;have HP:=aF (HI.put (i:=5) cq (fun j hj=>by cases hj) Ya.2.2.2.2.2.1.symm);refine aa rfl fun K HK=>?_;clear XZ HI;simp only[e4];go_simp;exact HK _ _ ⟨_,by simp[upd,e4],HP⟩
    ·cases ho;have HP:=aF (HI.put (i:=6) cq (fun j hj=>by cases hj) Ya.2.2.2.2.2.2.1.symm);refine aa rfl fun K HK=>?_;clear XZ HI;dsimp only;go_simp;exact HK _ _ ⟨_,by simp[upd],HP⟩
    ·cases ho;have e6:fq 6=.pointer (some ⟨wi.heap.size,1,none⟩):=(HI.val 6 cq<|XZ ⟨6,.data⟩ ct rfl).trans Ya.2.2.2.2.2.2.1;have x1:=HRW.r1;have HP:=aF (HI.put (i:=7) cq (fun j hj=>by cases hj) Ya.2.2.2.2.2.2.2.1.symm);refine aa rfl fun K HK=>?_;clear XZ HI;simp only[e6];go_simp;exact HK _ _ ⟨_,by simp[upd,e6],HP⟩
    ·cases ho;have HP:=aF (HI.put (i:=8) cq (fun j hj=>by cases hj) Ya.2.2.2.2.2.2.2.2.1.symm);refine aa rfl fun K HK=>?_;clear XZ HI;dsimp only;go_simp;exact HK _ _ ⟨_,by simp[upd],HP⟩
    ·cases ho;have e5:fq 5=.string rs[k].name:=(HI.val 5 cq<|XZ ⟨5,.data⟩ ct rfl).trans Ya.2.2.2.2.2.1;have e7:fq 7=.slice rs[k].rows[j].ad rs[k].rows[j].rows.length rs[k].rows[j].cap:=(HI.val 7 cq<|XZ ⟨7,.data⟩ ct rfl).trans Ya.2.2.2.2.2.2.2.1;have e8:fq 8=.func (Fn.func FC) rc cp:=(HI.val 8 cq<|XZ ⟨8,.data⟩ ct rfl).trans Ya.2.2.2.2.2.2.2.2.1;have HM0:=aF (HI.m0 Yx).1;refine aa rfl fun K HK=>?_;clear XZ;simp only[e5,e7,e8];go_simp;refine(zV FC rc cp rs[k].name (f rs[k].name) _ _ rs[k].rows[j].rows w' (HSM.e15 _ HTM _ HQM) ((HOE.below ZK).below HM0) (HSM.light _ HTM _ HQM) (HSM.low _ HTM _ HQM) (HSM.lb _ HTM _ HQM) Z7 fun x hx hk=>(HCH _ HTM _ HQM x hx hk).mono<|HBW3.trans<|HM0.mono HBW3.size).mono ?_;rintro e w9 ⟨v9,qs9,rfl,hn9,he9,Y6⟩;obtain⟨ad9,YP,rfl⟩:=jT hn9.own;have HP:=aF (HI.call Yx (fun j hj=>by cases hj) (HRW.below Y6) (show C1 W3 (dB (f rs[k].name)<|ai rs[k].rows[j].rows) (.slice ad9 qs9.length YP) w9 from ⟨ad9,YP,qs9,rfl,NodM.mono hn9 HM0.size,he9,HM0.trans<|Y6.mono HM0.size⟩));clear hn9 he9 Y6 HI HRW HM0;go_wp2_with fail;exact HK _ _ ⟨_,by simp[upd,e5,e7,e8],HP⟩
    ·cases ho;have e3:fq 3=.string rs[k].rows[j].name:=(HI.val 3 cq<|XZ ⟨3,.data⟩ ct rfl).trans Ya.2.2.2.1;have hc0:=XZ ⟨9,.data⟩ ct rfl;obtain⟨ad9,YP,qs9,e9,-⟩:=(HI.m1 hc0 Yx).1;have HP:=aF (HI.build hc0 Yx (fun j hj=>by cases hj) (v:=.agg #[.string rs[k].rows[j].name,.slice ad9 qs9.length YP]) (by rw[e9]));refine aa rfl fun K HK=>?_;clear XZ HI;simp only[e3,e9];go_simp;exact HK _ _ ⟨_,by simp[upd,e3,e9],HP⟩
    ·cases ho;have hc1:=XZ ⟨10,.data⟩ ct rfl;obtain⟨eB,hM1,-,-⟩:=HI.m2 hc1 Yx;have YH:=aF hM1;obtain⟨ad9,YP,qs9,e9,-⟩:=hM1;replace eB:fq 10=.agg #[.string rs[k].rows[j].name,.slice ad9 qs9.length YP]:=by rw[eB,e9]
     rw[e9]at YH;have HP:=aF (HI.lay hc1 Yx (fun j hj=>by cases hj) (HRW.below<|(WL _ _).alloc (WK _) _) (C1.lay (rn:=rs[k].rows[j].name) YH));refine aa rfl fun K HK=>?_;clear XZ HI YH;simp only[eB];go_simp;exact HK _ _ ⟨_,by simp[upd,eB,e9],HP⟩
    ·cases ho;have e1:fq 1=v2:=(HI.val 1 cq<|XZ ⟨1,.data⟩ ct rfl).trans Ya.2.1;have hc2:=XZ ⟨11,.data⟩ ct rfl;obtain⟨b9,q9,e11,hnew9,hk9,hp9,Y6⟩:=(HI.m3 hc2 Yx).1;have hown:w'.ownsRow ((wo.heap.size+1)+1) 39 2 (v2) rows.length (rows.flatMap RR.cells):=dJ HRM.own fun g hg=>Y6.block g (HRM.own.lt g hg).2;refine ib w' rfl rfl _ _ 34 rfl ((wo.heap.size+1)+1) 39 iR _ 2 40 underlying34 HIR.1 HIR.2.1 HIR.2.2.1 HIR.2.2.2 rfl cv (v2) rows.length (rows.flatMap RR.cells) (by simp[Act.eval,e1]) hown ⟨b9,0,none⟩ 1 1 (RR.cells q9) (by simp[Act.eval,e11]) rfl hnew9 (by simp[RR.cells,RR.vs,Value.oneCell']) cy cq (by have:=Y6.size;have:=HNW3.out;omega) ?_;intro v' w2 hown2 Yl Z8;exact⟨v',by simp[upd,Act.put],HI.app hc2 Yx (fun j hj=>by cases hj) (HRW.heap Yl.size fun g hg=>Yl.block g (by have:=HRW.lt;rcases hg with rfl|rfl|rfl<;>omega) (fun e=>by have h1:=(HRM.own.lt g e.symm).1;have h2:=(HRO.own.lt g e.symm).2;rcases hg with rfl|rfl|rfl<;>omega)) (C3.app (W0:=W3) HRM HNW3 hk9 hp9 Y6 hown2 Yl Z8)⟩
    cases ho;have HP:=aF (HI.put (i:=13) cq (fun j hj=>by cases hj) Ya.2.2.2.2.2.2.2.2.2.2.2.2.2.symm);refine aa rfl fun K HK=>?_;clear XZ HI;dsimp only;go_simp;exact HK _ _ ⟨_,by simp[upd],HP⟩
   case finR =>
    rintro o ho l fq w' hall hI;obtain rfl:=Option.some.inj ho;obtain⟨ad4,cap4,q4,e12,hRM4,hqp4,hb4⟩:=(hI.m4<|hall 12 cq).1;have e13:fq 13=.pointer (some ⟨wo.heap.size+1,1,none⟩):=(hI.val 13 (.inr rfl) (hall 13 cq)).trans Ya.2.2.2.2.2.2.2.2.2.2.2.2.2;have n1:=hI.rf.n1;have fz:=hI.rf.fz;have HRW:=aF hI.rf;rw[e12]at hRM4;have HRM4:=aF hRM4;have HQP4:=aF hqp4;have YF:=aF hb4;clear hRM4 hqp4 hb4 hall;refine aa rfl fun K HK=>?_;simp only[e12,e13];go_simp;refine HK _ _ ?_;clear ho HK K hI Ya e12 e13;obtain⟨y0,hy0⟩:∃y,y=fq 0:=⟨_,rfl⟩;rw[<-hy0];obtain⟨y1,hy1⟩:∃y,y=fq 1:=⟨_,rfl⟩;rw[<-hy1];obtain⟨y2,hy2⟩:∃y,y=fq 2:=⟨_,rfl⟩;rw[<-hy2];obtain⟨y3,hy3⟩:∃y,y=fq 3:=⟨_,rfl⟩;rw[<-hy3];obtain⟨y4,hy4⟩:∃y,y=fq 4:=⟨_,rfl⟩;rw[<-hy4];obtain⟨y5,hy5⟩:∃y,y=fq 5:=⟨_,rfl⟩;rw[<-hy5];obtain⟨y6,hy6⟩:∃y,y=fq 6:=⟨_,rfl⟩;rw[<-hy6];obtain⟨y7,hy7⟩:∃y,y=fq 7:=⟨_,rfl⟩;rw[<-hy7];obtain⟨y8,hy8⟩:∃y,y=fq 8:=⟨_,rfl⟩;rw[<-hy8];obtain⟨y9,hy9⟩:∃y,y=fq 9:=⟨_,rfl⟩;rw[<-hy9];obtain⟨y10,hy10⟩:∃y,y=fq 10:=⟨_,rfl⟩;rw[<-hy10];obtain⟨y11,hy11⟩:∃y,y=fq 11:=⟨_,rfl⟩;rw[<-hy11];clear hy0 hy1 hy2 hy3 hy4 hy5 hy6 hy7 hy8 hy9 hy10 hy11 fq l CV;have HNX:O ((w'.setCell ⟨wo.heap.size+1,1,none⟩<|.slice ad4 (rows.length+1) cap4).cell? ⟨wo.heap.size+1,0,none⟩=some (.string rs[k].name)/\(w'.setCell ⟨wo.heap.size+1,1,none⟩<|.slice ad4 (rows.length+1) cap4).cell? ⟨wo.heap.size+1,1,none⟩=some (.slice ad4 (rows.length+1) cap4)/\(w'.setCell ⟨wo.heap.size+1,1,none⟩<|.slice ad4 (rows.length+1) cap4).frozen? ⟨wo.heap.size+1,1,none⟩=false):=⟨by rw[iL cq];exact HRW.n0,oL n1,by simpa using fz⟩;have HRX:O (jJ (w'.setCell ⟨wo.heap.size+1,1,none⟩<|.slice ad4 (rows.length+1) cap4) (wo.heap.size+2) (.slice ad4 (rows.length+1) cap4)<|rows++[q4]):=X8.heap oG HRM4 ct fun g hg=>Below.heap_setCell _ _ _ g (by have:=(X8.lt oG HRM4 hg).1;show g≠wo.heap.size+1;omega);have HQX:O (df (rows++[q4])=(((df rs[k].rows).map<|xe f rs[k].name).take<|j+1)):=by
     show _=_;rw[IY,HRQ,HQP4,WN<|by rw[Xv,dP];exact hjt];simp[df,xe,RR.p]
    have YY:O (Below (wo.heap.size+1) W2<|w'.setCell ⟨wo.heap.size+1,1,none⟩<|.slice ad4 (rows.length+1) cap4):=((HB3.trans<|ZK.mono cq).trans<|YF.mono cq).setCell (by show _<=wo.heap.size+1;omega) _;clear n1 fz HRW HRM4 YF HRF HRM HRO HN HR;go_wp2_with fail;go_roundw;case rel=>exact⟨j+1,.slice ad4 (rows.length+1) cap4,rows++[q4],cq,cx,HNX,HRX,HQX,YY⟩
    simp[intOf]<;>omega
  obtain rfl:j=rs[k].rows.length:=cq;have hown2:=HR.own;obtain⟨ad2,cap2,rfl⟩:=jT hown2;obtain⟨q,hq⟩:∃q:TR,q=⟨rs[k].name,rows,ad2,cap2⟩:=⟨_,rfl⟩;have HQP:O (q.p=Du f rs[k].p):=by
   show _=_;rw[hq];have e:=HRQ.out;rw[Xn (by rw[Xv,dP];exact WK _)]at e;simp[TR.p,Du,e]
  obtain⟨W4,YR⟩:=eQx<|wi.alloc<|.cells #[.string rs[k].name,.slice ad2 rows.length cap2] 36;have HA4:=tZ YR;have Z9:O (ag wo W4):=Zm.trans<|HA4.mono Zm.size;have YX:O (∀j u,(TR.cells q)[j]?=some u->W4.cell? ((⟨wi.heap.size,0,none⟩:Addr).add j)=some u):=by rw[YR,hq];exact vw wi _ _ _
  have HKQ:O (kT W4 (wo.heap.size+2) q):=by rw[hq];exact X8.below oG HR HA4
  have HOW4:O (W4.ownsRow w.heap.size 36 2 u5 qs.length<|qs.flatMap TR.cells):=dJ HX.own fun g hg=>Z9.block g (HX.own.lt g hg).2;have HWW:O (w.heap.size<=wo.heap.size):=HB.size;obtain⟨n0,n1,-⟩:=HN.out;clear hq hown2;go_wp2_with(at_builtin;go_must (rw[<-YR];clear YR;refine wpList_append_own_at _ rfl _ _ 24 rfl w.heap.size 36 iT (.agg #[.string ⟨#[]⟩,.slice none 0 0]) 2 40 underlying24 HIT.1 HIT.2.1 HIT.2.2.1 HIT.2.2.2 rfl cv u5 qs.length (qs.flatMap TR.cells) rfl HOW4 ⟨wi.heap.size,0,none⟩ 1 1 (TR.cells q) rfl rfl YX (by simp[TR.cells,TR.vs,Value.oneCell']) cy cq (WR HWW Z9.size) ?_));intro v5 w5 hown5 hgr5 _ hv5;have HX5:O (dA w5 w.heap.size v5<|qs++[q]):=X8.snocN jW HX Z9 hown5 hgr5 (hv5.imp id fun e=>⟨_,e,WK _⟩) (jJ.mono HKQ (by have:=HWW.out;omega)) (fun g hg=>by have:=(jW.lt W4 _ q HKQ g hg).1;omega);have HQ5:O (ae (qs++[q])=(jE f<|ae rs).take (k+1)):=by
   show _=_;rw[IZ,HQ,HQP,WN<|by simp[jE,bz];exact hlt];simp[jE,ae]
  have Yo:O (ag w w5):=(HB.trans<|Z9.mono HB.size).grown hgr5 (WR HWW Z9.size) fun g hg=>(HX.own.lt g hg).1;clear hown5 hgr5 hv5 n0 n1 HOW4 YX HKQ HN HR;go_wp2;go_roundw;case rel=>exact⟨k+1,qs++[q],cq,cx,HX5,HQ5,Yo⟩
  simp[intOf]<;>omega
 obtain rfl:k=rs.length:=cq;have HF:O (ae qs=jE f (ae rs)):=by
  show _=_;rw[HQ,Xn<|by simp[jE,bz]]
 go_wp2;go_ret;exact⟨_,qs,rfl,HX,HF,HB⟩
def WB(a b c d:ByteArray):Bool:=a.toList==c.toList&&b.toList==d.toList
def WC(typ rel:ByteArray)(t:TR):List RR:=t.rows.filter fun r=>!WB typ rel t.name r.name
def UV(typ rel:ByteArray)(rs qs:Q06):Prop:=qs.map (fun t=>(t.name,t.rows))=rs.map fun t=>(t.name,WC typ rel t)
def UV.len{typ rel:ByteArray}{rs qs:Q06}(h:UV typ rel rs qs):qs.length=rs.length:=by
 have:=congrArg List.length h;simpa using this
def I1{α:Type}(f:α->Bool)(xs:List α)(k:Nat)(h:k<xs.length):(xs.drop k).any f=(f xs[k] || (xs.drop<|k+1).any f):=by
 rw[Xw h];rfl
set_option maxRecDepth 8000 in
def ku{ops:Array Oper}{rest:List Oper}{o:Oper}{a:Act}{Q:Exit->Act->World->Prop}(w:af)(hgd:o.guard=none)(s x:Operand)(t:TypeId)
  (ho:o.op=.call { callee:=.builtin .append,args:=#[s,x],argTypes:=#[t,t] })
  (base:Nat) (e:TypeId) (i:TypeInfo) (z:Value) (size bytes:Nat) (ht:prog.underlying t=some (.slice e)) (hi:prog.info? e=some i) (hz:i.zero=some z)
  (hsize:i.size=size) (hby:i.bytes=bytes) (hzs:z.cells.size=size) (hsz:0<size)
  (v:Value) (n:Nat) (xs:Q03) (hs:a.eval s=v) (hown:w.ownsRow base e size v n xs)
  (ad:Q02) (m c:Nat) (news:Q03) (hx:a.eval x=.slice ad m c) (hl:news.length=m*size) (hn0:ad=none->m=0) (hnews:∀A,ad=some A->∀j u,news[j]?=some u->w.cell? (A.add j)=some u) (h1:∀u∈news,u.oneCell'=true)
  (h63:n+m<=maxLen) (hbytes:(n+m)*bytes<=140737488355328) (hbase:cd base w)
  (h:∀v' w',w'.ownsRow base e size v' (n+m) (xs++news)->w.grownBy w' v.ownBlock->(v'=.slice none 0 0↔v=.slice none 0 0/\m=0)->wpList prog ops Q rest (a.put o.dst v') w'):wpList prog ops Q (o::rest) a w:=by
 cases ad;case some A=>exact wpList_append_own w hgd s x t ho base e i z size bytes ht hi hz hsize hby hzs hsz v n xs hs hown A m c news hx hl (hnews A rfl) h1 h63 hbytes hbase h
 obtain rfl:=hn0 rfl;have hn:news=[]:=List.eq_nil_of_length_eq_zero (by simpa using hl);subst hn;refine wpList_plain hgd fun K hK=>?_;have hg:w.grownBy w v.ownBlock:=⟨rfl,rfl,rfl,WK _,fun _ _ _=>rfl⟩;have hr:(Builtin.append_ #[t,t] o.type #[v,.slice none 0 c]).run prog w=.ok v w:=by
  rcases hown.2 with⟨rfl,-⟩|⟨g,cap,cur,rfl,-,-,hnc,-⟩
  ·simp[Builtin.append_,run_underlying ht,sizeOf,typeInfo,hi,Builtin.lenOf,Builtin.firstCells]
  have hnc':n<=cap:=hnc;simp[Builtin.append_,run_underlying ht,sizeOf,typeInfo,hi,Builtin.lenOf,Builtin.firstCells,hnc',storeCells]
 unfold Oper.wp execOp;simp only[ho,resolve,invoke,builtin,Sem.run_bind,Sem.run_pure,Result.andThen_ok,List.map_toArray,XN,List.map_nil,hs,hx,hr];exact hK _ _ (h _ w (by simpa using hown) hg ct)
set_option maxRecDepth 8000 in
def Gm(ad:Q02)(cap:Nat)(rs:Q08)(w:af)(hlen:rs.length<=15)(hs:iw w ad rs)(hl:∀r∈rs,r.e.light):
  Calls prog 104 #[.slice ad rs.length cap] w fun e w'=>∃(v:Value) (rs':Q08),e=.returned v/\NodM w' w.heap.size v rs'/\ai rs'=ai rs/\ag w w':=by
 obtain⟨iE,hiE,zE0,zE1,zE2⟩:=info_parts (P:=prog) (e:=43) (z:=.agg #[.int .i64 0,.slice none 0 0,.string ⟨#[]⟩,.string ⟨#[]⟩,.slice none 0 0]) (size:=5) (bytes:=88) cw;obtain⟨iA,hiA,zA0,zA1,zA2⟩:=info_parts (P:=prog) (e:=216) (z:=.agg #[.string ⟨#[]⟩,.string ⟨#[]⟩]) (size:=2) (bytes:=32) cw;obtain⟨iI,hiI,zI0,zI1,zI2⟩:=info_parts (P:=prog) (e:=2) (z:=.int .i64 0) (size:=1) (bytes:=8) cw;have HSL:=aB hs;have HLI:=aB hl;have Z0:O (prog.info? 216=some iA/\iA.zero=some (.agg #[.string ⟨#[]⟩,.string ⟨#[]⟩])/\iA.size=2/\iA.bytes=32):=⟨hiA,zA0,zA1,zA2⟩;have Zw:O (prog.info? 2=some iI/\iI.zero=some (.int .i64 0)/\iI.size=1/\iI.bytes=8):=⟨hiI,zI0,zI1,zI2⟩;have HIE:O (prog.info? 43=some iE/\iE.zero=some (.agg #[.int .i64 0,.slice none 0 0,.string ⟨#[]⟩,.string ⟨#[]⟩,.slice none 0 0])/\iE.size=5/\iE.bytes=88):=⟨hiE,zE0,zE1,zE2⟩;clear hs hl hiA zA0 zA1 zA2 hiI zI0 zI1 zI2 hiE zE0 zE1 zE2;go_enter func104,ntmps104;go_wp2;go_loopw[3,4] (fun v i wr=>∃(k:Nat) (qs:Q08),k<=rs.length/\i=.int .i64 k/\O (qs.length=k/\ai qs=(ai rs).take k/\NodM wr w.heap.size v qs)/\O (wr.ownsRow w.heap.size 43 5 v k<|dV qs)/\O (ag w wr)) (fun _ i _=>rs.length-(intOf i).toNat);case atStart=>exact⟨0,[],WO _,rfl,⟨rfl,by simp[ai],⟨World.ownsRow_lit w #[] 0 (WK _) cy ct,fun q hq=>(by cases hq),fun q hq=>(by cases hq),fun q hq=>(by cases hq),fun q hq=>(by cases hq),fun q hq=>(by cases hq),fun x y hx=>absurd hx ct,fun q hq=>(by cases hq)⟩⟩,World.ownsRow_lit w #[] 0 (WK _) cy ct,(WL _ _).alloc (WK _) _⟩
 obtain⟨k,qs,hk,rfl,HQ,HOW,HB⟩:=hrel;by_cases hlt:k<rs.length
 ·rcases HSL.out.below HB.out with hnil|⟨b,off,Yb,hb,hr,hok⟩
  ·rw[hnil]at hlt;simp at hlt
  obtain⟨t0,t1,t2,t3,t4⟩:=hr k hlt;have Yn:O (rs[k].ok wr):=hok rs[k]<|WH hlt;have hlg:=HLI rs[k]<|WH hlt;have lA:rs[k].e.allow.length<=1048576:=hlg.1;have lK:rs[k].e.kids.length<=1048576:=hlg.2;have hk1:=bY k;have hk2:(k:Int)<(rs.length:Int):=cq;obtain⟨W1,hW1⟩:=eQx<|wr.alloc<|.cells #[.int .i64 rs[k].e.kind,.slice rs[k].adA rs[k].e.allow.length rs[k].capA,.string rs[k].e.over,.string rs[k].e.name,.slice rs[k].adK rs[k].e.kids.length rs[k].capK] 43;have HB1:=tZ hW1;have hgl:wr.heap.size<W1.heap.size:=by rw[hW1];simp
  have HSZ1:O (W1.heap.size=wr.heap.size+1):=by show _=_;rw[hW1];simp
  have HLIT1:O ((W1.alloc<|.cells #[] 216).ownsRow W1.heap.size 216 2 (.slice (some ⟨wr.heap.size+1,0,none⟩) 0 0) 0 []):=by
   show World.ownsRow _ _ _ _ _ _ _;rw[<-HSZ1];exact World.ownsRow_lit W1 #[] 0 (WK _) cy ct
  have HSA1:O (kV W1 rs[k].adA rs[k].e.allow):=Yn.1.below HB1;have p0:W1.cell? ⟨wr.heap.size,0,none⟩=some (.int .i64 rs[k].e.kind):=by rw[hW1];simp
  have p1:W1.cell? ⟨wr.heap.size,1,none⟩=some (.slice rs[k].adA rs[k].e.allow.length rs[k].capA):=by rw[hW1];simp
  have p2:W1.cell? ⟨wr.heap.size,2,none⟩=some (.string rs[k].e.over):=by rw[hW1];simp
  have p3:W1.cell? ⟨wr.heap.size,3,none⟩=some (.string rs[k].e.name):=by rw[hW1];simp
  have p4:W1.cell? ⟨wr.heap.size,4,none⟩=some (.slice rs[k].adK rs[k].e.kids.length rs[k].capK):=by rw[hW1];simp
  have fp:∀y,W1.frozen? ⟨wr.heap.size,y,none⟩=false:=fun y=>by rw[hW1];simp
  have ZP:O (W1.cell? ⟨wr.heap.size,0,none⟩=some (.int .i64 rs[k].e.kind)/\W1.cell? ⟨wr.heap.size,1,none⟩=some (.slice rs[k].adA rs[k].e.allow.length rs[k].capA)/\W1.cell? ⟨wr.heap.size,2,none⟩=some (.string rs[k].e.over)/\W1.cell? ⟨wr.heap.size,3,none⟩=some (.string rs[k].e.name)/\W1.cell? ⟨wr.heap.size,4,none⟩=some (.slice rs[k].adK rs[k].e.kids.length rs[k].capK)/\∀y,W1.frozen? ⟨wr.heap.size,y,none⟩=false):=⟨p0,p1,p2,p3,p4,fp⟩;clear p0 p1 p2 p3 p4 fp;rw[Yb];clear hr hok hlg;go_wp2_with(at_builtin;rw[<-hW1];clear hW1;refine ku _ rfl _ _ 40 rfl W1.heap.size 216 iA (.agg #[.string ⟨#[]⟩,.string ⟨#[]⟩]) 2 32 underlying40 Z0.1 Z0.2.1 Z0.2.2.1 Z0.2.2.2 rfl cv _ 0 [] rfl HLIT1 rs[k].adA rs[k].e.allow.length rs[k].capA (pairs rs[k].e.allow) rfl (kI _) HSA1.none0 (KG<|HSA1.below<|(WL _ _).alloc (WK _) _) (BF _) cy cq ct ?_);intro v2 w2 hown2 Yl _;have HB2:O (ag W1 w2):=((WL W1.heap.size W1).alloc (WK _)<|.cells #[] 216).grown Yl ct (fun k hk=>by simp[Value.ownBlock]at hk;have:=HSZ1.out;omega);obtain⟨adA,cpA,rfl,hsA,hzA,hoA⟩:=MQ (by simpa using hown2) ct;have HCA:O (rs[k].e.allow.length<=cpA):=BZ hown2;have HSA2:=aB hsA;have HZA:O (rs[k].e.allow≠[]->∃g,adA=some ⟨g,0,none⟩):=hzA;have HOA:O (∀g,rs[k].e.allow≠[]->adA=some ⟨g,0,none⟩->W1.heap.size<=g/\g<w2.heap.size/\jV w2 g):=hoA;have x0:w2.cell? ⟨wr.heap.size,0,none⟩=some (.int .i64 rs[k].e.kind):=kept HB2 hgl ZP.1;have x1:w2.cell? ⟨wr.heap.size,1,none⟩=some (.slice rs[k].adA rs[k].e.allow.length rs[k].capA):=kept HB2 hgl ZP.2.1;have x2:w2.cell? ⟨wr.heap.size,2,none⟩=some (.string rs[k].e.over):=kept HB2 hgl ZP.2.2.1;have x3:w2.cell? ⟨wr.heap.size,3,none⟩=some (.string rs[k].e.name):=kept HB2 hgl ZP.2.2.2.1;have x4:w2.cell? ⟨wr.heap.size,4,none⟩=some (.slice rs[k].adK rs[k].e.kids.length rs[k].capK):=kept HB2 hgl ZP.2.2.2.2.1;have fx:∀y,w2.frozen? ⟨wr.heap.size,y,none⟩=false:=fun y=>q8 HB2 hgl<|ZP.2.2.2.2.2 y;clear hown2 Yl hsA hzA hoA;obtain⟨W3,hW3⟩:=eQx<|w2.setCell ⟨wr.heap.size,1,none⟩<|.slice adA rs[k].e.allow.length cpA;have HB3:O (ag wr W3):=by
   show Below _ _ _;rw[hW3];exact(HB1.trans<|HB2.mono<|XW hgl).setCell (WK _) _
  have HC3:O (Chg (fun g=>g=wr.heap.size) w2 W3):=by rw[hW3];exact Chg.set _ rfl
  have HSK3:O (sK W3 rs[k].adK rs[k].e.kids):=Yn.2.below HB3;have hgl3:wr.heap.size<W3.heap.size:=by rw[hW3];simp only[World.size_setCell];exact WJ hgl HB2.size
  have hx2:wr.heap.size<w2.heap.size:=WJ hgl HB2.size;have hx3:(wr.heap.size=w2.heap.size)=False:=by simp;omega
  have HSZ3:O (W3.heap.size=w2.heap.size):=by show _=_;rw[hW3];simp
  have HLIT3:O ((W3.alloc<|.cells #[] 2).ownsRow W3.heap.size 2 1 (.slice (some ⟨w2.heap.size,0,none⟩) 0 0) 0 []):=by
   show World.ownsRow _ _ _ _ _ _ _;rw[<-HSZ3];exact World.ownsRow_lit W3 #[] 0 (WK _) cy ct
  have ZO:O (W3.cell? ⟨wr.heap.size,0,none⟩=some (.int .i64 rs[k].e.kind)/\W3.cell? ⟨wr.heap.size,1,none⟩=some (.slice adA rs[k].e.allow.length cpA)/\W3.cell? ⟨wr.heap.size,2,none⟩=some (.string rs[k].e.over)/\W3.cell? ⟨wr.heap.size,3,none⟩=some (.string rs[k].e.name)/\W3.cell? ⟨wr.heap.size,4,none⟩=some (.slice rs[k].adK rs[k].e.kids.length rs[k].capK)/\∀y,W3.frozen? ⟨wr.heap.size,y,none⟩=false):=by
   rw[hW3];exact⟨by rw[iL cq];exact x0,oL x1,by rw[iL cq];exact x2,by rw[iL cq];exact x3,by rw[iL cq];exact x4,fun y=>by simpa using fx y⟩
  go_wp2_with(at_builtin;rw[<-hW3];clear hW3;refine ku _ rfl _ _ 41 rfl W3.heap.size 2 iI (.int .i64 0) 1 8 underlying41 Zw.1 Zw.2.1 Zw.2.2.1 Zw.2.2.2 rfl cv _ 0 [] rfl HLIT3 rs[k].adK rs[k].e.kids.length rs[k].capK (ints rs[k].e.kids) rfl (by simp[ints]) HSK3.none0 (Vm<|HSK3.below<|(WL _ _).alloc (WK _) _) (TA _) cy cq ct ?_);intro v4 w4 YB YM _;have YF:O (ag W3 w4):=((WL W3.heap.size W3).alloc (WK _)<|.cells #[] 2).grown YM ct (fun k hk=>by simp[Value.ownBlock]at hk;have:=HSZ3.out;omega);obtain⟨adK,cpK,rfl,hsK,hzK,hoK⟩:=Ij (by simpa using YB) ct;have HSK4:=aB hsK;have HZK:O (rs[k].e.kids≠[]->∃g,adK=some ⟨g,0,none⟩):=hzK;have ZL:O (∀g,rs[k].e.kids≠[]->adK=some ⟨g,0,none⟩->W3.heap.size<=g/\g<w4.heap.size/\jV w4 g):=hoK;have y0:w4.cell? ⟨wr.heap.size,0,none⟩=some (.int .i64 rs[k].e.kind):=kept YF hgl3 ZO.1;have y1:w4.cell? ⟨wr.heap.size,1,none⟩=some (.slice adA rs[k].e.allow.length cpA):=kept YF hgl3 ZO.2.1;have y2:w4.cell? ⟨wr.heap.size,2,none⟩=some (.string rs[k].e.over):=kept YF hgl3 ZO.2.2.1;have y3:w4.cell? ⟨wr.heap.size,3,none⟩=some (.string rs[k].e.name):=kept YF hgl3 ZO.2.2.2.1;have y4:w4.cell? ⟨wr.heap.size,4,none⟩=some (.slice rs[k].adK rs[k].e.kids.length rs[k].capK):=kept YF hgl3 ZO.2.2.2.2.1;have fy:∀y,w4.frozen? ⟨wr.heap.size,y,none⟩=false:=fun y=>q8 YF hgl3<|ZO.2.2.2.2.2 y;clear YB YM hsK hzK hoK x0 x1 x2 x3 x4 fx t0 t1 t2 t3 t4;obtain⟨W5,Zh⟩:=eQx<|w4.setCell ⟨wr.heap.size,4,none⟩<|.slice adK rs[k].e.kids.length cpK;have Yo:O (ag wr W5):=by
   show Below _ _ _;rw[Zh];exact(HB3.trans<|YF.mono HB3.size).setCell (WK _) _
  have HC5:O (Chg (fun g=>g=wr.heap.size) w4 W5):=by rw[Zh];exact Chg.set _ rfl
  obtain⟨q,hq⟩:∃q:ER,q=⟨rs[k].e,adA,cpA,adK,cpK⟩:=⟨_,rfl⟩;have HCA5:O (Chg (fun g=>g=wr.heap.size) w2 W5):=HC3.trans<|(Chg.of YF).trans HC5;have HBQ:O (NewQ wr.heap.size W5 q):=by
   rw[hq];have hz2:W1.heap.size=wr.heap.size+1:=HSZ1;refine⟨HZA,HZK,⟨HSA2.chg HCA5 fun g o hne e=>?_,HSK4.chg HC5 fun g o hne e=>?_⟩,?_,?_,HCA⟩
   ·obtain⟨g0,e0⟩:=HZA hne;rw[e0]at e;injection e with e;injection e with e1 e2;have:=(HOA g0 hne e0).1;omega
   ·obtain⟨g0,e0⟩:=HZK hne;rw[e0]at e;injection e with e;injection e with e1 e2;have:=(ZL g0 hne e0).1;omega
   ·rintro g (⟨hne,e⟩|⟨hne,e⟩)
    ·obtain⟨a1,a2,a3⟩:=HOA g hne e;exact⟨cq,WJ a2 HCA5.size,HCA5.free g a2 a3⟩
    obtain⟨a1,a2,a3⟩:=ZL g hne e;exact⟨cq,WJ a2 HC5.size,HC5.free g a2 a3⟩
   rintro g ⟨hne,e⟩ ⟨hne2,e2⟩;obtain⟨a1,a2,a3⟩:=HOA g hne e;obtain⟨b1,b2,b3⟩:=ZL g hne2 e2;have:=HSZ3.out;omega
  have HOW5:O (W5.ownsRow w.heap.size 43 5 u3 k<|dV qs):=HOW.kept (row:=none) ⟨Yo.os,Yo.tape,Yo.output,Yo.size,fun k hk _=>Yo.block k hk⟩ (by
   cases h:u3.ownBlock with
   | none=>exact .inl rfl
   | some g=>exact .inr ct)
  obtain⟨W6,Zo⟩:=eQx<|W5.alloc<|.cells #[.int .i64 q.e.kind,.slice q.adA q.e.allow.length q.capA,.string q.e.over,.string q.e.name,.slice q.adK q.e.kids.length q.capK] 43;have HW6:O (W6=(w4.setCell ⟨wr.heap.size,4,none⟩<|.slice adK rs[k].e.kids.length cpK).alloc (.cells #[.int .i64 rs[k].e.kind,.slice adA rs[k].e.allow.length cpA,.string rs[k].e.over,.string rs[k].e.name,.slice adK rs[k].e.kids.length cpK] 43)):=by show _=_;rw[Zo,hq,Zh]
  have HOW6:O (W6.ownsRow w.heap.size 43 5 u3 k<|dV qs):=by rw[Zo];exact HOW5.alloc _
  have HB6:O (ag wr W6):=by rw[Zo];exact Yo.alloc Yo.size _
  have YX:O (∀j u,q.row[j]?=some u->W6.cell? ((⟨W5.heap.size,0,none⟩:Addr).add j)=some u):=by rw[Zo];exact yj W5 q
  have HBQ6:O (NewQ wr.heap.size W6 q):=by
   rw[Zo];have hA:ag W5 (W5.alloc<|.cells #[.int .i64 q.e.kind,.slice q.adA q.e.allow.length q.capA,.string q.e.over,.string q.e.name,.slice q.adK q.e.kids.length q.capK] 43):=(WL _ _).alloc (WK _) _;exact pu.heap W5 _ _ q HBQ hA.size fun g hg=>hA.block g (HBQ.lie g hg).2.1
  have HS5:O (W5.heap.size=(w4.setCell ⟨wr.heap.size,4,none⟩<|.slice adK rs[k].e.kids.length cpK).heap.size):=by show _=_;rw[Zh]
  have HQE:O (q.e=rs[k].e):=by show _=_;rw[hq]
  have hsw:w4.heap.size=W5.heap.size:=by rw[Zh];simp
  clear Zh Zo hq;go_wp2_with(at_builtin;rw[<-HW6];refine wpList_append_own_at _ rfl _ _ 37 rfl w.heap.size 43 iE (.agg #[.int .i64 0,.slice none 0 0,.string ⟨#[]⟩,.string ⟨#[]⟩,.slice none 0 0]) 5 88 underlying37 HIE.1 HIE.2.1 HIE.2.2.1 HIE.2.2.2 rfl cv u3 k (dV qs) rfl HOW6 ⟨W5.heap.size,0,none⟩ 1 1 q.row rfl rfl YX (rT q) cy cq (WR HB.size HB6.size) ?_);intro v7 w7 YV hgr7 _ hv7;have HB7:O (ag w w7):=(HB.trans<|HB6.mono HB.size).grown hgr7 (WR HB.size HB6.size) fun g hg=>(HOW.lt g hg).1;have HOW7:O (w7.ownsRow w.heap.size 43 5 v7 (k+1)<|dV<|qs++[q]):=by
   have e:dV (qs++[q])=dV qs++q.row:=by simp[dV]
   rw[e];exact YV
  have HQ7:O ((qs++[q]).length=k+1/\ai (qs++[q])=(ai rs).take (k+1)/\NodM w7 w.heap.size v7 (qs++[q])):=by
   obtain⟨h1,h2,h3⟩:=HQ.out;refine⟨by simp[h1],?_,?_⟩
   ·rw[WN (by rw[au];exact hlt),<-h2];simp[ai,HQE.out]
   exact h3.add HB6 HBQ6 HB.size (by rw[h1];exact YV) hgr7 (hv7.imp id fun e=>⟨_,e,WK _⟩)
  clear YV hgr7 hv7;go_wp2;go_roundw;case rel=>exact⟨k+1,qs++[q],cq,cx,HQ7,HOW7,HB7⟩
  simp[intOf];omega
 obtain rfl:k=rs.length:=cq;obtain⟨h1,h2,h3⟩:=HQ.out;have HE3:O (ai qs=ai rs):=by rw[<-au rs,Xa]at h2;exact h2
 have HN3:=aF h3;clear h1 h2 h3;go_wp2;go_ret;exact⟨_,qs,rfl,HN3,HE3,HB⟩
def Fc.fits(t:Fc):Prop:=t.a.size<=maxLen/\t.b.size<=maxLen/\t.r.size<=maxLen/\t.c.size<=maxLen/\t.d.size<=maxLen
def oH(k:Fc):Value:=.agg #[.string k.a,.string k.b,.string k.r,.string k.c,.string k.d]
def Rk(x y:Fc)(h:oH x=oH y):x=y:=by
 unfold oH at h;injection h with h;have h1:=congrArg Array.toList h;simp at h1;obtain⟨xa,xb,xr,xc,xd⟩:=x;obtain⟨ya,yb,yr,yc,yd⟩:=y;simp only at h1;obtain⟨rfl,rfl,rfl,rfl,rfl⟩:=h1;rfl
def Rm:laidOutB prog=true:=cw
def Vo:(52:TypeId)<prog.types.size:=of_decide_eq_true cw
def TI:(match prog.underlying 52 with|some (.array _ _)|some (.struct _)=>true|_=>false)=true:=by rw[underlying52]
set_option maxRecDepth 100000 in
def TJ:WideMaps.KeyLaw prog 52:=deep_law_laid Rm (m:=3) cq Vo cw TI
def Rn:Keyed prog 52:=Keyed.of_law TJ
def TK:prog.keyType 52=true:=cw
def I4:prog.cellsOf 52=5:=cw
def Oz:prog.cellsOf 27=2:=cw
def OA:prog.cellsOf 9=1:=cw
def OB:2<=prog.types.size:=of_decide_eq_true cw
def LA:∃n,prog.types.size=n+2:=⟨prog.types.size-2,by have:=OB;omega⟩
set_option maxRecDepth 100000 in
def I5(k:Fc)(h:k.fits):∃kl,keyOf prog 52 (oH k)=some kl:=by
 obtain⟨n,hn⟩:=LA;obtain⟨h0,h1,h2,h3,h4⟩:=h;refine⟨.string<|keyBytes [.string k.a.data.toList,.string k.b.data.toList,.string k.r.data.toList,.string k.c.data.toList,.string k.d.data.toList],?_⟩;unfold keyOf;rw[underlying52];simp only[TK,oH,Value.formed,underlying52,I4,hn,Value.cells];simp +decide [Program.keyLits,underlying52,underlying27,underlying9,I4,Oz,OA,h0,h1,h2,h3,h4]
def Ro(w:af):(zeroValue 107).run prog w=.ok (.agg #[]) w:=cw
def I6(b n:Nat)(M:Fc->Option Value)(f:Fc)(w:af)(hf:f.fits)(hV:aN oH prog 52 w b n M)(hM:∀v,M f=some v->v=.agg #[]):
  Calls prog 76 #[.map (some b),.agg<|cf f] w (bj w<|.bool (M f).isSome):=by
 obtain⟨kl,hkl⟩:=I5 f hf;have YU:O (keyOf prog 52 (oH f)=some kl):=hkl;have HM:O ((M f).getD (.agg #[])=.agg #[]):=by
  show _=_;cases e:M f with
  | none=>rfl
  | some v=>exact hM v e
 obtain⟨W,hW⟩:=eQx<|w.alloc<|.cells (cf f) 52;have HB:=tZ hW;have HV:=aB<|hV.below HB;have HB2:O (ag w<|W.alloc<|.cells #[] 107):=HB.alloc HB.size _;clear hkl hV hM;go_enter func76,ntmps76;go_wp2_with(at_lookup;rw[<-hW];clear hW;refine d9 _ rfl _ _ 115 rfl 52 107 Rn underlying115 (Ro _) b n M rfl HV f kl rfl YU ?_;rw[HM]);go_ret;exact⟨rfl,HB2⟩
end Go.Proofs.YtojjoblnpldniaaGreat
