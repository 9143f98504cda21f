/- The contract of the program's look at the allowed pairs of a node. -/
import Derived.Test.YtajkkeikihhejaaGreatSq
import Derived.Test.YtajkkeikihhejaaGreatJ14
open Go.Proofs.Tryz
set_option maxHeartbeats 80000000
namespace Go.Proofs.YtajkkeikihhejaaGreat
set_option maxRecDepth 100000
open Go.Sort
open ChangeShapes WideShapes ChangeAt RowKit
open Pl
theorem Ig(ad:Q02)(cap:Nat)(xs:Q0a)(w:af)(hlen:xs.length<=1048576)(hcap:xs.length<=cap)(hf:∀a∈xs,a.fits)(hs:lK w ad xs):
  Calls prog 252 #[.slice ad xs.length cap] w fun e w'=>e=.returned (.bool (eG xs))/\ae w w':=by
 have HS:=aD hs;have HF:=aD hf;clear hs hf;by_cases hl:1<=xs.length/\xs.length<=6
 ·obtain⟨hl1,hl2⟩:=hl;go_enter func252,ntmps252;go_wp2_with fail;go_loopw[15] (fun i wr=>∃k:Nat,k<=xs.length/\i=.int .i64 k/\Hid (EJ xs k=true)/\ae w wr) (fun i _=>xs.length-(intOf i).toNat);case atStart=>exact⟨0,Vf _,rfl,rfl,Vb _ _⟩
  obtain⟨k,hk,rfl,HU,hB⟩:=hrel;by_cases hlt:k<xs.length
  ·rcases HS.out.below hB with rfl|⟨b,off,rfl,hb,hr⟩
   ·simp at hlt
   obtain⟨t0,t1⟩:=hr k hlt;obtain⟨z0,z1⟩:=HF.out xs[k] (U8 hlt);have hk1:=bC k;have hk2:(k:Int)<=(cap:Int):=by omega
   obtain⟨W1,hW1⟩:∃W1,W1=wr.alloc (.cells #[.string xs[k].t,.string xs[k].s] 43):=⟨_,rfl⟩;have hal:ae wr W1:=by rw[hW1];exact(Vb _ _).alloc (Va _) _
   have hBW1:Below w.heap.size wr W1:=hal.mono hB.size;have hWs:w.heap.size<=W1.heap.size:=Vj hB.size hal.size;have hgl:wr.heap.size<W1.heap.size:=by rw[hW1];simp
   have g0:W1.cell? ⟨wr.heap.size,0,none⟩=some (.string xs[k].t):=by rw[hW1];simp
   have g1:W1.cell? ⟨wr.heap.size,1,none⟩=some (.string xs[k].s):=by rw[hW1];simp
   have HS1:Hid (lK W1 (some ⟨b,off,none⟩) xs):=(HS.out.below hB).below hal;clear hr;go_wp2_with fail;rw[<-hW1];clear hW1 t0 t1 hal;have p0:=cell_regrown g0;have p1:=cell_regrown g1;have Xv:Hid (∀d os,ae w (grow (redrawn W1 d) os)):=fun d os=>hB.trans (hBW1.trans ((below_regrown W1 d os).mono hWs));have XA:=qC (j6 (W:=W1) (fun W'=>aQ xs[k].t W' z0));have HCS:=qC (j6 (W:=W1) (fun W'=>IY xs[k].s W' z1))
   have XD:Hid (∀d os,Calls prog 142 #[.slice (some ⟨b,off,none⟩) k cap,.agg #[.string xs[k].t,.string xs[k].s]] (grow (redrawn W1 d) os) fun e w''=>e=.returned (.bool (dK xs k xs[k]))/\∃p:Regrown,w''=grow (redrawn W1 p.d) p.os) :=
    dA fun W' hb=>wN (some ⟨b,off,none⟩) k cap xs xs[k] _ hk hlen (HS1.out.below hb)
   cases hn:aU xs[k].t;case false=>
    have HN:Hid (EJ xs xs.length=false):=oW xs k hlt (by simp[Gf,hn]) _ hlt;rw[hn]at XA;refine wp_region_quiet_below (by kernel_rfl) (by kernel_rfl) ?_
    repeat(go_big_quiet_step (exact XA.out _ _))
    refine wpQuiet_nil ?_;rintro _ ⟨⟨dq,osq⟩,rfl⟩;go_wp2;go_ret;exact⟨ah (by simp[eG,HN.out]),Xv.out dq osq⟩
   rw[hn]at XA;cases hsb:uU xs[k].s;case false=>
    have HN:Hid (EJ xs xs.length=false):=oW xs k hlt (by simp[Gf,hn,hsb]) _ hlt;rw[hsb]at HCS;refine wp_region_quiet_below (by kernel_rfl) (by kernel_rfl) ?_
    repeat(go_big_quiet_step (first|exact XA.out _ _|exact HCS.out _ _))
    refine wpQuiet_nil ?_;rintro _ ⟨⟨dq,osq⟩,rfl⟩;go_wp2;go_ret;exact⟨ah (by simp[eG,HN.out]),Xv.out dq osq⟩
   rw[hsb]at HCS;obtain⟨p,hp⟩:∃p,dK xs k xs[k]=p:=⟨_,rfl⟩;rw[hp]at XD;refine wp_region_quiet_below (by kernel_rfl) (by kernel_rfl) ?_
   repeat(go_big_quiet_step (first|exact XA.out _ _|exact HCS.out _ _|exact XD.out _ _))
   refine wpQuiet_nil ?_;rintro _ ⟨⟨dq,osq⟩,rfl⟩;cases p;case true=>
    have HN:Hid (EJ xs xs.length=false):=oW xs k hlt (by simp[hp]) _ hlt;go_wp2;go_ret;exact⟨ah (by simp[eG,HN.out]),Xv.out dq osq⟩
   have Z6:Hid (EJ xs (k+1)=true):=by show _=_;rw[zS _ _ hlt,HU.out];simp[Gf,hn,hsb,hp]
   go_wp2;go_roundw;case rel=>exact⟨k+1,by omega,by go_num,Z6,Xv.out dq osq⟩
   simp[intOf]<;>omega
  obtain rfl:k=xs.length:=by omega
  have HAW:Hid (eG xs=true):=by show _=_;simp[eG,hl1,hl2,HU.out]
  go_wp2;go_ret;exact⟨by rw[HAW.out];rfl,hB⟩
 have HAW:Hid (eG xs=false):=by
  show _=_;unfold eG;by_cases h1:1<=xs.length
  ·have h2:¬xs.length<=6:=fun h2=>hl ⟨h1,h2⟩;simp[h2]
  simp[h1]
 go_enter func252,ntmps252;go_wp2_with fail
 all_goals go_ret
 all_goals exact⟨by rw[HAW.out];rfl,Vb _ _⟩
set_option maxRecDepth 8000 in
theorem Ih(r:ER)(w:af)(hf:r.e.fits)(hl:r.e.light)(hok:r.ok w)(hcap:r.e.allow.length<=r.capA)(h1:r.e.kind=1):
  Calls prog 239 #[r.val] w fun e w'=>e=.returned (.bool (ay r.e))/\ae w w':=by
 obtain⟨⟨kind,allow,over,name,kids⟩,adA,capA,adK,capK⟩:=r;obtain⟨f1,f2,f3,f4,f5⟩:=hf;obtain⟨hA,hK⟩:=hok;obtain⟨l1,l2⟩:=hl;simp only at f1 f2 f3 f4 f5 h1 hA hK hcap l1 l2;subst h1;simp only[ER.val];unfold maxLen at f4 f5;have HB0:Hid (∀n,ae w ((w.alloc (.cells #[.int .i64 1,.slice adA allow.length capA,.string over,.string name,.slice adK kids.length capK] 39)).drewN n)):=fun n=>below_drewN ((Vb w.heap.size w).alloc (Va _) _) n;have HA:=aD hA;have Xx:=aD f1;have HCAP:Hid (allow.length<=capA):=hcap;clear hA hK f1 hcap;go_enter func239,ntmps239;go_wp2_with fail;go_quiet (fail);go_wp2_with fail;refine(Ig adA capA allow _ l1 HCAP.out Xx.out (HA.out.below (HB0.out _))).mono ?_;rintro e w1 ⟨rfl,hb1⟩;have c2:w1.cell? ⟨w.heap.size,2,none⟩=some (.string over):=by rw[hb1.cell (p:=⟨w.heap.size,2,none⟩) (by show _<(w.alloc _).heap.size;simp)];show(w.alloc _).cell? _=_;simp
 have c3:w1.cell? ⟨w.heap.size,3,none⟩=some (.string name):=by rw[hb1.cell (p:=⟨w.heap.size,3,none⟩) (by show _<(w.alloc _).heap.size;simp)];show(w.alloc _).cell? _=_;simp
 have HB1:Hid (ae w w1):=(HB0.out _).trans (hb1.mono (HB0.out _).size);clear hb1 HB0;go_wp2
 all_goals go_ret
 all_goals exact⟨ah (by first|(simp[ay, *];done)|(simp[ay, *];omega)|(simp[ay, *];rw[Vu];simp;done)|(simp[ay, *];rw[Vu];simp;omega)),HB1.out⟩
theorem Kn(r:ER)(w:af)(hf:r.e.fits)(hl:r.e.light)(hok:r.ok w)(hcap:r.e.allow.length<=r.capA):
  Calls prog 239 #[r.val] w fun e w'=>e=.returned (.bool (ay r.e))/\ae w w':=by
 by_cases h:r.e.kind=1
 ·exact Ih r w hf hl hok hcap h
 exact FI r w hf h
structure Arr(es:Q09)(w:World)(g k:Nat):Prop where
 lt:g<w.heap.size
 told:∀j,j<k->w.cell? ⟨g,j,none⟩=some (.int .i64 (az es j))
 rest:∀j,k<=j->j<15->w.cell? ⟨g,j,none⟩=some (.int .i64 0)
 free:∀o,w.frozen? ⟨g,o,none⟩=false
theorem Arr.later{es:Q09}{w w':af}{g k:Nat}(h:Arr es w g k)(hb:ae w w'):Arr es w' g k where
 lt:=U9 h.lt hb.size
 told j hj:=kept hb h.lt (h.told j hj)
 rest j h1 h2:=kept hb h.lt (h.rest j h1 h2)
 free o:=UA hb h.lt (h.free o)
theorem Arr.put{es:Q09}{w:af}{g k:Nat}(h:Arr es w g k)(hk:k<15):Arr es (w.setCell ⟨g,k,none⟩ (.int .i64 (az es k))) g (k+1) where
 lt:=by simpa using h.lt
 told j hj:=by
  by_cases e:j=k
  ·subst e;exact zG (h.rest j (Va _) hk)
  rw[qz (Ne.symm e)];exact h.told j (by omega)
 rest j h1 h2:=by rw[qz (by omega)];exact h.rest j (by omega) h2
 free o:=by simpa using h.free o
def wT(es:Q09):Bool:=jb es&&decide (az es (es.length-1)=0)
theorem Em{es:Q09}(k:Nat)(h:k<es.length)(hb:az es k<0):wT es=false:=by
 have:jb es=false:=by
  rw[Bool.eq_false_iff];intro h2;unfold jb at h2;rw[Vm]at h2;have:=h2 k (by simpa using h);simp at this;omega
 simp[wT,this]
theorem zf(b off cap:Nat)(rs:Q08)(w:af)(hn1:1<=rs.length)(hn2:rs.length<=15)(hl:∀r∈rs,r.e.light)(hb:b<w.heap.size)(hr:∀(i:Nat) (h:i<rs.length),yT w b (off+i*5) rs[i])(hok:∀r∈rs,r.ok w):
  Calls prog 240 #[.slice (some ⟨b,off,none⟩) rs.length cap] w fun e w'=>e=.returned (.bool (wT (ak rs)))/\ae w w':=by
 have Yn:Hid ((ak rs).length=rs.length):=aR rs;have HL:=aD hl;have HR:Hid (∀(i:Nat) (h:i<rs.length),yT w b (off+i*5) rs[i]):=hr;have HO:=aD hok;clear hl hr hok;go_enter func240,ntmps240;go_wp2_with fail;go_loopw[10] (fun i wr=>∃k:Nat,k<=rs.length/\i=.int .i64 k/\Hid (Oo (ak rs) k)/\Hid (Arr (ak rs) wr w.heap.size k)/\ae w wr) (fun i _=>rs.length-(intOf i).toNat);case atStart =>
  refine⟨0,Vf _,rfl,(fun j hj=>absurd hj (V5 _)),⟨by simp,(fun j hj=>absurd hj (V5 _)),fun j _ hj=>?_,fun o=>by simp⟩,(Vb _ _).alloc (Va _) _⟩;have h15:j=0\/j=1\/j=2\/j=3\/j=4\/j=5\/j=6\/j=7\/j=8\/j=9\/j=10\/j=11\/j=12\/j=13\/j=14:=by omega
  rcases h15 with rfl|rfl|rfl|rfl|rfl|rfl|rfl|rfl|rfl|rfl|rfl|rfl|rfl|rfl|rfl<;>simp
 obtain⟨k,hk,rfl,HGU,HAR,hB⟩:=hrel;by_cases hlt:k<rs.length
 ·have YF:k<(ak rs).length:=by rw[Yn.out];exact hlt
  obtain⟨t0,t1,t2,t3,t4⟩:=(HR.out k hlt).later hb hB;have hk1:=bC k;have hk2:(k:Int)<(rs.length:Int):=by omega
  have hk3:(k:Int)<15:=by omega
  obtain⟨-,lk⟩:=HL.out rs[k] (U8 hlt);obtain⟨W1,hW1⟩:∃W1,W1=wr.alloc (.cells #[.int .i64 rs[k].e.kind,.slice rs[k].adA rs[k].e.allow.length rs[k].capA,.string rs[k].e.over,.string rs[k].e.name,.slice rs[k].adK rs[k].e.kids.length rs[k].capK] 39):=⟨_,rfl⟩;have hal:ae wr W1:=by rw[hW1];exact(Vb _ _).alloc (Va _) _
  have hB1:ae w W1:=hB.trans (hal.mono hB.size);have HAR1:Hid (Arr (ak rs) W1 w.heap.size k):=HAR.out.later hal;have s4:W1.cell? ⟨wr.heap.size,4,none⟩=some (.slice rs[k].adK rs[k].e.kids.length rs[k].capK):=by rw[hW1];simp
  have HT:Hid (dz (dD (ak rs) k) (rs[k].e.kids.take rs[k].e.kids.length).reverse ((k:Int)-1)=az (ak rs) k):=by
   show _=_;rw[Vs,jq (ak rs) k,o8 rs k hlt]
  clear HAR;go_wp2_with fail;rw[<-hW1];clear hW1 t0 t1 t2 t3 t4 hal;go_loopw[6,7] (fun x i w2=>∃(j:Nat) (y:Int),j<=rs[k].e.kids.length/\i=.int .i64 ((j:Int)-1)/\x=.int .i64 y/\0<=y/\y<=k/\Hid (dz (dD (ak rs) k) (rs[k].e.kids.take j).reverse (y-1)=az (ak rs) k)/\w2=W1) (fun _ i _=>(intOf i+1).toNat);case atStart=>exact⟨rs[k].e.kids.length,(k:Int),Va _,rfl,rfl,by omega,by omega,HT,rfl⟩
  obtain⟨j,y,hj,rfl,rfl,hy0,hy1,HG,rfl⟩:=hrel;by_cases hj0:0<j
  ·obtain⟨j,rfl⟩:∃i,j=i+1:=⟨j-1,by omega⟩;have hjl:j<rs[k].e.kids.length:=by omega
   rcases (HO.out rs[k] (U8 hlt)).2.below hB1 with hnil|⟨bk,offk,ZB,hbk,hrk⟩
   ·rw[hnil]at hjl;simp at hjl
   have s4':=s4;rw[ZB]at s4';have k0:=hrk j hjl;have hji:((j+1:Nat):Int)-1=(j:Int):=by omega
   have hj1:=bC j;have hj2:(j:Int)<(rs[k].e.kids.length:Int):=by omega
   have HG2:Hid ((if y-1<0\/rs[k].e.kids[j]≠y-1 then -1 else if dD (ak rs) k (y-1)<0 then -1 else dz (dD (ak rs) k) (rs[k].e.kids.take j).reverse (dD (ak rs) k (y-1)-1))=az (ak rs) k):=by
    have:=HG.out;rw[Ve hjl,List.reverse_append]at this;exact this
   rw[hji];clear HG hrk ZB s4;by_cases hy:y=0
   ·have HN:Hid (wT (ak rs)=false):=Em k YF (by rw[<-HG2.out,if_pos (Or.inl (by omega))];omega);subst hy;go_wp2;go_ret;exact⟨by rw[HN.out];rfl,hB1⟩
   obtain⟨m,rfl⟩:∃m:Nat,y=(m:Int)+1:=⟨(y-1).toNat,by omega⟩;have em:(m:Int)+1-1=(m:Int):=by omega
   by_cases hkx:rs[k].e.kids[j]=(m:Int)
   ·have hF:dD (ak rs) k ((m:Int)+1-1)=az (ak rs) m:=by rw[em];unfold dD;rw[if_pos ⟨by omega,by simp;omega⟩];simp
    have HF:Hid (dD (ak rs) k ((m:Int)+1-1)=az (ak rs) m):=hF;have hle:=fZ (ak rs) m;have hge:0<=az (ak rs) m:=HGU.out m (by omega);have a0:=HAR1.out.told m (by omega);have hm1:=bC m;have hm2:(m:Int)<15:=by omega
    have ZC:Hid (dz (dD (ak rs) k) (rs[k].e.kids.take j).reverse (az (ak rs) m-1)=az (ak rs) k):=by
     show _=_;rw[<-HG2.out,if_neg (by omega),HF.out,if_neg (by omega)]
    clear hF HG2;go_wp2;go_roundw;case rel=>exact⟨j,az (ak rs) m,by omega,by go_num,rfl,hge,by omega,ZC,by first|rfl|trivial⟩
    simp[intOf]<;>omega
   have HN:Hid (wT (ak rs)=false):=Em k YF (by rw[<-HG2.out,if_pos (Or.inr (by rw[em];exact hkx))];omega);have hq:(rs[k].e.kids[j] != (m:Int))=true:=by simpa using hkx
   have hq0:((m:Int)+1==0)=false:=by simp;omega
   go_wp2;go_ret;exact⟨by rw[HN.out];rfl,hB1⟩
  obtain rfl:j=0:=by omega
  have hX:az (ak rs) k=y:=by have:=HG.out;simp[dz]at this;omega
  have HGU2:Hid (Oo (ak rs) (k+1)):=by
   intro m hm;by_cases e:m=k
   ·subst e;omega
   exact HGU.out m (by omega)
  have q0:=HAR1.out.rest k (Va _) (by omega);have qf:=HAR1.out.free;have HA2:=HAR1.out.put (k:=k) (by omega);rw[hX]at HA2;have HA3:Hid (Arr (ak rs) _ w.heap.size (k+1)):=HA2;have hB2:=hB1.setCell (p:=⟨w.heap.size,k,none⟩) (Va _) (.int .i64 y);clear HG HA2 hX;go_wp2;go_roundw;case rel=>exact⟨k+1,by omega,by go_num,HGU2,HA3,hB2⟩
  simp[intOf]<;>omega
 obtain rfl:k=rs.length:=by omega
 have a0:=HAR.out.told (rs.length-1) (by omega);have HKB:Hid (wT (ak rs)=decide (az (ak rs) (rs.length-1)=0)):=by
  show _=_;have:jb (ak rs)=true:=by
   unfold jb;rw[Vm];intro j hj;have hj':j<rs.length:=by simpa[Yn.out] using hj
   simpa using HGU.out j hj'
  unfold wT;rw[this,Yn.out,Bool.true_and]
 have hcast:((rs.length:Int)-1)=((rs.length-1:Nat):Int):=by omega
 have h15:((rs.length-1:Nat):Int)<15:=by omega
 have h00:(0:Int)<=((rs.length-1:Nat):Int):=by omega
 go_wp2;go_ret;exact⟨by rw[HKB.out];exact ah (by rw[Vu];simp),hB⟩
theorem Nu{es:Q09}(h:¬(1<=es.length/\es.length<=15)):kL es=false:=by rw[<-rR];exact Dj h
theorem Ko{es:Q09}(k:Nat)(h:k<es.length)(hb:ay es[k]=false):kL es=false:=by simp[kL,Dc es k h hb]
theorem BZ(b off cap:Nat)(rs:Q08)(w:af)(hlen:rs.length<=1048576)(hl:∀r∈rs,r.e.light)(hf:∀r∈rs,r.e.fits)(hcp:∀r∈rs,r.e.allow.length<=r.capA)(hb:b<w.heap.size)(hr:∀(i:Nat) (h:i<rs.length),yT w b (off+i*5) rs[i])(hok:∀r∈rs,r.ok w):
  Calls prog 221 #[.slice (some ⟨b,off,none⟩) rs.length cap] w fun e w'=>e=.returned (.bool (kL (ak rs)))/\ae w w':=by
 have Yn:Hid ((ak rs).length=rs.length):=aR rs;have HL:=aD hl;have HF:=aD hf;have HCP:Hid (∀r∈rs,r.e.allow.length<=r.capA):=hcp;have HR:Hid (∀(i:Nat) (h:i<rs.length),yT w b (off+i*5) rs[i]):=hr;have HO:=aD hok;clear hl hf hr hok hcp;by_cases hn:1<=rs.length/\rs.length<=15
 ·obtain⟨hn1,hn2⟩:=hn;go_enter func221,ntmps221;go_wp2_with fail;go_loopw[3,16] (fun o i wr=>∃k:Nat,k<=rs.length/\i=.int .i64 k/\o=.int .i64 (gX (ak rs) k:Nat)/\Hid (jH (ak rs) k=true)/\ae w wr) (fun _ i _=>rs.length-(intOf i).toNat);case atStart=>exact⟨0,Vf _,rfl,rfl,(by show _=_;simp[jH]),Vb _ _⟩
  obtain⟨k,hk,rfl,rfl,HU,hB⟩:=hrel;by_cases hlt:k<rs.length
  ·have YF:k<(ak rs).length:=by rw[Yn.out];exact hlt
   have HEK:Hid ((ak rs)[k]=rs[k].e):=by show _=_;simp[ak]
   obtain⟨t0,t1,t2,t3,t4⟩:=(HR.out k hlt).later hb hB;have hk1:=bC k;have hk2:(k:Int)<(rs.length:Int):=by omega
   have hol:=uY (ak rs) k;have hal:ae w (wr.alloc (.cells #[.int .i64 rs[k].e.kind,.slice rs[k].adA rs[k].e.allow.length rs[k].capA,.string rs[k].e.over,.string rs[k].e.name,.slice rs[k].adK rs[k].e.kids.length rs[k].capK] 39)):=hB.alloc hB.size _;have WM:=aD hal;clear hal;go_wp2_with fail;refine(Kn rs[k] _ (HF.out _ (U8 hlt)) (HL.out _ (U8 hlt)) ((HO.out _ (U8 hlt)).below WM.out) (HCP.out _ (U8 hlt))).mono ?_;rintro e w1 ⟨rfl,hb1⟩;have hB1:ae w w1:=WM.out.trans (hb1.mono WM.out.size);have g0:w1.cell? ⟨wr.heap.size,0,none⟩=some (.int .i64 rs[k].e.kind):=by rw[hb1.cell (p:=⟨wr.heap.size,0,none⟩) (by simp)];simp
   clear hb1 t0 t1 t2 t3 t4 WM;cases Wq:ay rs[k].e;case false=>
    have HN:Hid (kL (ak rs)=false):=Ko k YF (by rw[HEK.out];exact Wq);go_wp2;go_ret;exact⟨by rw[HN.out];rfl,hB1⟩
   have Z6:Hid (jH (ak rs) (k+1)=true):=by show _=_;rw[uZ _ _ YF,HU.out,HEK.out,Wq];rfl
   have HOW:Hid (gX (ak rs) (k+1)=gX (ak rs) k+(if rs[k].e.kind=1 then 1 else 0)):=by show _=_;rw[zT _ _ YF,HEK.out]
   by_cases hk1':rs[k].e.kind=1
   ·have HOW2:Hid (gX (ak rs) (k+1)=gX (ak rs) k+1):=by show _=_;rw[HOW.out,if_pos hk1']
    clear HOW;go_wp2;go_roundw;case rel=>exact⟨k+1,by omega,by go_num,by rw[HOW2.out];go_num,Z6,hB1⟩
    simp[intOf]<;>omega
   have HOW2:Hid (gX (ak rs) (k+1)=gX (ak rs) k):=by show _=_;rw[HOW.out,if_neg hk1'];rfl
   clear HOW;go_wp2;go_roundw;case rel=>exact⟨k+1,by omega,by go_num,by rw[HOW2.out],Z6,hB1⟩
   simp[intOf]<;>omega
  obtain rfl:k=rs.length:=by omega
  have HN:Hid ((ak rs).all ay=true):=by
   have:=HU.out;unfold jH at this;rwa [<-Yn.out,Vs]at this
  have HOW:Hid (gX (ak rs) rs.length=own (ak rs)):=by show _=_;unfold gX;rw[<-Yn.out,Vs]
  have hol:=uY (ak rs) rs.length;by_cases ho:gX (ak rs) rs.length<=1
  ·have HS:Hid (kL (ak rs)=wT (ak rs)):=by
    show _=_;have h1:own (ak rs)<=1:=by rw[<-HOW.out];exact ho
    have e1:=Yn.out;unfold kL wT;rw[e1,HN.out];simp[h1,hn1,hn2]
   go_wp2_with fail;refine(zf b off cap rs _ hn1 hn2 HL.out (U9 hb hB.size) (fun i hi=>(HR.out i hi).later hb hB) (fun r hr=>(HO.out r hr).below hB)).mono ?_;rintro e w1 ⟨rfl,hb1⟩;go_wp2;go_ret;exact⟨by rw[HS.out];rfl,hB.trans (hb1.mono hB.size)⟩
  have HS:Hid (kL (ak rs)=false):=by
   show _=_;have h1:¬own (ak rs)<=1:=by rw[<-HOW.out];exact ho
   simp[kL,h1]
  go_wp2;go_ret;exact⟨by rw[HS.out];rfl,hB⟩
 have HN:Hid (kL (ak rs)=false):=Nu (by rw[Yn.out];exact hn);go_enter func221,ntmps221;go_wp2_with fail
 all_goals go_ret
 all_goals exact⟨by rw[HN.out];rfl,Vb _ _⟩
theorem Ca(ad:Q02)(cap:Nat)(rs:Q08)(w:af)(hlen:rs.length<=1048576)(hl:∀r∈rs,r.e.light)(hf:∀r∈rs,r.e.fits)(hcp:∀r∈rs,r.e.allow.length<=r.capA)(hs:ik w ad rs):
  Calls prog 221 #[.slice ad rs.length cap] w fun e w'=>e=.returned (.bool (kL (ak rs)))/\ae w w':=by
 rcases hs with rfl|⟨b,off,rfl,hb,hr,hok⟩
 ·go_enter func221,ntmps221;go_wp2_with fail;go_ret;exact⟨rfl,Vb _ _⟩
 exact BZ b off cap rs w hlen hl hf hcp hb hr hok
end Go.Proofs.YtajkkeikihhejaaGreat
