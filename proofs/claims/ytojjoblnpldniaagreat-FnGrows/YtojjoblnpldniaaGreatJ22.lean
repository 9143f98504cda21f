/- The contract of the program's look at the allowed pairs of a node. -/
import Derived.Test.YtojjoblnpldniaaGreatSq
import Derived.Test.YtojjoblnpldniaaGreatJ15
open Go.Proofs.Tryz
set_option maxHeartbeats 80000000
namespace Go.Proofs.YtojjoblnpldniaaGreat
set_option maxRecDepth 100000
open Go.Sort
open ChangeShapes WideShapes ChangeAt RowKit
open Pl
theorem Hw(ad:Q02)(cap:Nat)(xs:Q0a)(w:ae)(hlen:xs.length<=1048576)(hcap:xs.length<=cap)(hf:∀a∈xs,a.fits)(hs:lu w ad xs):
  Calls prog 291 #[.slice ad xs.length cap] w fun e w'=>e=.returned (.bool (eF xs))/\ag w w':=by
 have HS:=aC hs;have HF:=aC hf;clear hs hf;by_cases hl:1<=xs.length/\xs.length<=6
 ·obtain⟨hl1,hl2⟩:=hl;go_enter func291,ntmps291;go_wp2_with fail;go_loopw[15] (fun i wr=>∃k:Nat,k<=xs.length/\i=.int .i64 k/\Hid (Eu xs k=true)/\ag w wr) (fun i _=>xs.length-(intOf i).toNat);case atStart=>exact⟨0,Vv _,rfl,rfl,Vs _ _⟩
  obtain⟨k,hk,rfl,HU,hB⟩:=hrel;by_cases hlt:k<xs.length
  ·rcases HS.out.below hB with rfl|⟨b,off,rfl,hb,hr⟩
   ·simp at hlt
   obtain⟨t0,t1⟩:=hr k hlt;obtain⟨z0,z1⟩:=HF.out xs[k] (Vp hlt);have hk1:=bC k;have hk2:(k:Int)<=(cap:Int):=by omega
   obtain⟨W1,hW1⟩:∃W1,W1=wr.alloc (.cells #[.string xs[k].t,.string xs[k].s] 216):=⟨_,rfl⟩;have hal:ag wr W1:=by rw[hW1];exact(Vs _ _).alloc (Vr _) _
   have hBW1:Below w.heap.size wr W1:=hal.mono hB.size;have hWs:w.heap.size<=W1.heap.size:=Vz hB.size hal.size;have hgl:wr.heap.size<W1.heap.size:=by rw[hW1];simp
   have g0:W1.cell? ⟨wr.heap.size,0,none⟩=some (.string xs[k].t):=by rw[hW1];simp
   have g1:W1.cell? ⟨wr.heap.size,1,none⟩=some (.string xs[k].s):=by rw[hW1];simp
   have HS1:Hid (lu W1 (some ⟨b,off,none⟩) xs):=(HS.out.below hB).below hal;clear hr;go_wp2_with fail;rw[<-hW1];clear hW1 t0 t1 hal;have p0:=cell_regrown g0;have p1:=cell_regrown g1;have Xq:Hid (∀d os,ag w (grow (redrawn W1 d) os)):=fun d os=>hB.trans (hBW1.trans ((below_regrown W1 d os).mono hWs));have Xy:=nE (jT (W:=W1) (fun W'=>aL xs[k].t W' z0));have HCS:=nE (jT (W:=W1) (fun W'=>I8 xs[k].s W' z1))
   have HCC:Hid (∀d os,Calls prog 149 #[.slice (some ⟨b,off,none⟩) k cap,.agg #[.string xs[k].t,.string xs[k].s]] (grow (redrawn W1 d) os) fun e w''=>e=.returned (.bool (dG xs k xs[k]))/\∃p:Regrown,w''=grow (redrawn W1 p.d) p.os) :=
    dm fun W' hb=>vQ (some ⟨b,off,none⟩) k cap xs xs[k] _ hk hlen (HS1.out.below hb)
   cases hn:aP xs[k].t;case false=>
    have HN:Hid (Eu xs xs.length=false):=oU xs k hlt (by simp[Gi,hn]) _ hlt;rw[hn]at Xy;refine wp_region_quiet_below (by kernel_rfl) (by kernel_rfl) ?_
    repeat(go_big_quiet_step (exact Xy.out _ _))
    refine wpQuiet_nil ?_;rintro _ ⟨⟨dq,osq⟩,rfl⟩;go_wp2;go_ret;exact⟨ah (by simp[eF,HN.out]),Xq.out dq osq⟩
   rw[hn]at Xy;cases hsb:uO xs[k].s;case false=>
    have HN:Hid (Eu xs xs.length=false):=oU xs k hlt (by simp[Gi,hn,hsb]) _ hlt;rw[hsb]at HCS;refine wp_region_quiet_below (by kernel_rfl) (by kernel_rfl) ?_
    repeat(go_big_quiet_step (first|exact Xy.out _ _|exact HCS.out _ _))
    refine wpQuiet_nil ?_;rintro _ ⟨⟨dq,osq⟩,rfl⟩;go_wp2;go_ret;exact⟨ah (by simp[eF,HN.out]),Xq.out dq osq⟩
   rw[hsb]at HCS;obtain⟨p,hp⟩:∃p,dG xs k xs[k]=p:=⟨_,rfl⟩;rw[hp]at HCC;refine wp_region_quiet_below (by kernel_rfl) (by kernel_rfl) ?_
   repeat(go_big_quiet_step (first|exact Xy.out _ _|exact HCS.out _ _|exact HCC.out _ _))
   refine wpQuiet_nil ?_;rintro _ ⟨⟨dq,osq⟩,rfl⟩;cases p;case true=>
    have HN:Hid (Eu xs xs.length=false):=oU xs k hlt (by simp[hp]) _ hlt;go_wp2;go_ret;exact⟨ah (by simp[eF,HN.out]),Xq.out dq osq⟩
   have HU2:Hid (Eu xs (k+1)=true):=by show _=_;rw[zG _ _ hlt,HU.out];simp[Gi,hn,hsb,hp]
   go_wp2;go_roundw;case rel=>exact⟨k+1,by omega,by go_num,HU2,Xq.out dq osq⟩
   simp[intOf]<;>omega
  obtain rfl:k=xs.length:=by omega
  have HAW:Hid (eF xs=true):=by show _=_;simp[eF,hl1,hl2,HU.out]
  go_wp2;go_ret;exact⟨by rw[HAW.out];rfl,hB⟩
 have HAW:Hid (eF xs=false):=by
  show _=_;unfold eF;by_cases h1:1<=xs.length
  ·have h2:¬xs.length<=6:=fun h2=>hl ⟨h1,h2⟩;simp[h2]
  simp[h1]
 go_enter func291,ntmps291;go_wp2_with fail
 all_goals go_ret
 all_goals exact⟨by rw[HAW.out];rfl,Vs _ _⟩
set_option maxRecDepth 8000 in
theorem Hy(r:ER)(w:ae)(hf:r.e.fits)(hl:r.e.light)(hok:r.ok w)(hcap:r.e.allow.length<=r.capA)(h1:r.e.kind=1):
  Calls prog 250 #[r.val] w fun e w'=>e=.returned (.bool (av r.e))/\ag w w':=by
 obtain⟨⟨kind,allow,over,name,kids⟩,adA,capA,adK,capK⟩:=r;obtain⟨f1,f2,f3,f4,f5⟩:=hf;obtain⟨hA,hK⟩:=hok;obtain⟨l1,l2⟩:=hl;simp only at f1 f2 f3 f4 f5 h1 hA hK hcap l1 l2;subst h1;simp only[ER.val];unfold maxLen at f4 f5;have HB0:Hid (∀n,ag w ((w.alloc (.cells #[.int .i64 1,.slice adA allow.length capA,.string over,.string name,.slice adK kids.length capK] 43)).drewN n)):=fun n=>below_drewN ((Vs w.heap.size w).alloc (Vr _) _) n;have HA:=aC hA;have XU:=aC f1;have HCAP:Hid (allow.length<=capA):=hcap;clear hA hK f1 hcap;go_enter func250,ntmps250;go_wp2_with fail;go_quiet (fail);go_wp2_with fail;refine(Hw adA capA allow _ l1 HCAP.out XU.out (HA.out.below (HB0.out _))).mono ?_;rintro e w1 ⟨rfl,hb1⟩;have c2:w1.cell? ⟨w.heap.size,2,none⟩=some (.string over):=by rw[hb1.cell (p:=⟨w.heap.size,2,none⟩) (by show _<(w.alloc _).heap.size;simp)];show(w.alloc _).cell? _=_;simp
 have c3:w1.cell? ⟨w.heap.size,3,none⟩=some (.string name):=by rw[hb1.cell (p:=⟨w.heap.size,3,none⟩) (by show _<(w.alloc _).heap.size;simp)];show(w.alloc _).cell? _=_;simp
 have HB1:Hid (ag w w1):=(HB0.out _).trans (hb1.mono (HB0.out _).size);clear hb1 HB0;go_wp2
 all_goals go_ret
 all_goals exact⟨ah (by first|(simp[av, *];done)|(simp[av, *];omega)|(simp[av, *];rw[VL];simp;done)|(simp[av, *];rw[VL];simp;omega)),HB1.out⟩
theorem Kj(r:ER)(w:ae)(hf:r.e.fits)(hl:r.e.light)(hok:r.ok w)(hcap:r.e.allow.length<=r.capA):
  Calls prog 250 #[r.val] w fun e w'=>e=.returned (.bool (av r.e))/\ag w w':=by
 by_cases h:r.e.kind=1
 ·exact Hy r w hf hl hok hcap h
 exact Fa r w hf h
structure Arr(es:Q09)(w:World)(g k:Nat):Prop where
 lt:g<w.heap.size
 told:∀j,j<k->w.cell? ⟨g,j,none⟩=some (.int .i64 (ay es j))
 rest:∀j,k<=j->j<15->w.cell? ⟨g,j,none⟩=some (.int .i64 0)
 free:∀o,w.frozen? ⟨g,o,none⟩=false
theorem Arr.later{es:Q09}{w w':ae}{g k:Nat}(h:Arr es w g k)(hb:ag w w'):Arr es w' g k where
 lt:=Vq h.lt hb.size
 told j hj:=kept hb h.lt (h.told j hj)
 rest j h1 h2:=kept hb h.lt (h.rest j h1 h2)
 free o:=UQ hb h.lt (h.free o)
theorem Arr.put{es:Q09}{w:ae}{g k:Nat}(h:Arr es w g k)(hk:k<15):Arr es (w.setCell ⟨g,k,none⟩ (.int .i64 (ay es k))) g (k+1) where
 lt:=by simpa using h.lt
 told j hj:=by
  by_cases e:j=k
  ·subst e;exact zw (h.rest j (Vr _) hk)
  rw[qz (Ne.symm e)];exact h.told j (by omega)
 rest j h1 h2:=by rw[qz (by omega)];exact h.rest j (by omega) h2
 free o:=by simpa using h.free o
def wB(es:Q09):Bool:=jE es&&decide (ay es (es.length-1)=0)
theorem D7{es:Q09}(k:Nat)(h:k<es.length)(hb:ay es k<0):wB es=false:=by
 have:jE es=false:=by
  rw[Bool.eq_false_iff];intro h2;unfold jE at h2;rw[VC]at h2;have:=h2 k (by simpa using h);simp at this;omega
 simp[wB,this]
theorem yH(b off cap:Nat)(rs:Q08)(w:ae)(hn1:1<=rs.length)(hn2:rs.length<=15)(hl:∀r∈rs,r.e.light)(hb:b<w.heap.size)(hr:∀(i:Nat) (h:i<rs.length),yz w b (off+i*5) rs[i])(hok:∀r∈rs,r.ok w):
  Calls prog 251 #[.slice (some ⟨b,off,none⟩) rs.length cap] w fun e w'=>e=.returned (.bool (wB (aj rs)))/\ag w w':=by
 have Yo:Hid ((aj rs).length=rs.length):=aX rs;have HL:=aC hl;have HR:Hid (∀(i:Nat) (h:i<rs.length),yz w b (off+i*5) rs[i]):=hr;have HO:=aC hok;clear hl hr hok;go_enter func251,ntmps251;go_wp2_with fail;go_loopw[10] (fun i wr=>∃k:Nat,k<=rs.length/\i=.int .i64 k/\Hid (Pe (aj rs) k)/\Hid (Arr (aj rs) wr w.heap.size k)/\ag w wr) (fun i _=>rs.length-(intOf i).toNat);case atStart =>
  refine⟨0,Vv _,rfl,(fun j hj=>absurd hj (Wx _)),⟨by simp,(fun j hj=>absurd hj (Wx _)),fun j _ hj=>?_,fun o=>by simp⟩,(Vs _ _).alloc (Vr _) _⟩;have h15:j=0\/j=1\/j=2\/j=3\/j=4\/j=5\/j=6\/j=7\/j=8\/j=9\/j=10\/j=11\/j=12\/j=13\/j=14:=by omega
  rcases h15 with rfl|rfl|rfl|rfl|rfl|rfl|rfl|rfl|rfl|rfl|rfl|rfl|rfl|rfl|rfl<;>simp
 obtain⟨k,hk,rfl,HGU,HAR,hB⟩:=hrel;by_cases hlt:k<rs.length
 ·have YF:k<(aj rs).length:=by rw[Yo.out];exact hlt
  obtain⟨t0,t1,t2,t3,t4⟩:=(HR.out k hlt).later hb hB;have hk1:=bC k;have hk2:(k:Int)<(rs.length:Int):=by omega
  have hk3:(k:Int)<15:=by omega
  obtain⟨-,lk⟩:=HL.out rs[k] (Vp hlt);obtain⟨W1,hW1⟩:∃W1,W1=wr.alloc (.cells #[.int .i64 rs[k].e.kind,.slice rs[k].adA rs[k].e.allow.length rs[k].capA,.string rs[k].e.over,.string rs[k].e.name,.slice rs[k].adK rs[k].e.kids.length rs[k].capK] 43):=⟨_,rfl⟩;have hal:ag wr W1:=by rw[hW1];exact(Vs _ _).alloc (Vr _) _
  have hB1:ag w W1:=hB.trans (hal.mono hB.size);have HAR1:Hid (Arr (aj rs) W1 w.heap.size k):=HAR.out.later hal;have s4:W1.cell? ⟨wr.heap.size,4,none⟩=some (.slice rs[k].adK rs[k].e.kids.length rs[k].capK):=by rw[hW1];simp
  have HT:Hid (cZ (dA (aj rs) k) (rs[k].e.kids.take rs[k].e.kids.length).reverse ((k:Int)-1)=ay (aj rs) k):=by
   show _=_;rw[VI,jg (aj rs) k,pF rs k hlt]
  clear HAR;go_wp2_with fail;rw[<-hW1];clear hW1 t0 t1 t2 t3 t4 hal;go_loopw[6,7] (fun x i w2=>∃(j:Nat) (y:Int),j<=rs[k].e.kids.length/\i=.int .i64 ((j:Int)-1)/\x=.int .i64 y/\0<=y/\y<=k/\Hid (cZ (dA (aj rs) k) (rs[k].e.kids.take j).reverse (y-1)=ay (aj rs) k)/\w2=W1) (fun _ i _=>(intOf i+1).toNat);case atStart=>exact⟨rs[k].e.kids.length,(k:Int),Vr _,rfl,rfl,by omega,by omega,HT,rfl⟩
  obtain⟨j,y,hj,rfl,rfl,hy0,hy1,HG,rfl⟩:=hrel;by_cases hj0:0<j
  ·obtain⟨j,rfl⟩:∃i,j=i+1:=⟨j-1,by omega⟩;have hjl:j<rs[k].e.kids.length:=by omega
   rcases (HO.out rs[k] (Vp hlt)).2.below hB1 with hnil|⟨bk,offk,Zy,hbk,hrk⟩
   ·rw[hnil]at hjl;simp at hjl
   have s4':=s4;rw[Zy]at s4';have k0:=hrk j hjl;have hji:((j+1:Nat):Int)-1=(j:Int):=by omega
   have hj1:=bC j;have hj2:(j:Int)<(rs[k].e.kids.length:Int):=by omega
   have HG2:Hid ((if y-1<0\/rs[k].e.kids[j]≠y-1 then -1 else if dA (aj rs) k (y-1)<0 then -1 else cZ (dA (aj rs) k) (rs[k].e.kids.take j).reverse (dA (aj rs) k (y-1)-1))=ay (aj rs) k):=by
    have:=HG.out;rw[Vu hjl,List.reverse_append]at this;exact this
   rw[hji];clear HG hrk Zy s4;by_cases hy:y=0
   ·have HN:Hid (wB (aj rs)=false):=D7 k YF (by rw[<-HG2.out,if_pos (Or.inl (by omega))];omega);subst hy;go_wp2;go_ret;exact⟨by rw[HN.out];rfl,hB1⟩
   obtain⟨m,rfl⟩:∃m:Nat,y=(m:Int)+1:=⟨(y-1).toNat,by omega⟩;have em:(m:Int)+1-1=(m:Int):=by omega
   by_cases hkx:rs[k].e.kids[j]=(m:Int)
   ·have hF:dA (aj rs) k ((m:Int)+1-1)=ay (aj rs) m:=by rw[em];unfold dA;rw[if_pos ⟨by omega,by simp;omega⟩];simp
    have HF:Hid (dA (aj rs) k ((m:Int)+1-1)=ay (aj rs) m):=hF;have hle:=il (aj rs) m;have hge:0<=ay (aj rs) m:=HGU.out m (by omega);have a0:=HAR1.out.told m (by omega);have hm1:=bC m;have hm2:(m:Int)<15:=by omega
    have Zz:Hid (cZ (dA (aj rs) k) (rs[k].e.kids.take j).reverse (ay (aj rs) m-1)=ay (aj rs) k):=by
     show _=_;rw[<-HG2.out,if_neg (by omega),HF.out,if_neg (by omega)]
    clear hF HG2;go_wp2;go_roundw;case rel=>exact⟨j,ay (aj rs) m,by omega,by go_num,rfl,hge,by omega,Zz,by first|rfl|trivial⟩
    simp[intOf]<;>omega
   have HN:Hid (wB (aj rs)=false):=D7 k YF (by rw[<-HG2.out,if_pos (Or.inr (by rw[em];exact hkx))];omega);have hq:(rs[k].e.kids[j] != (m:Int))=true:=by simpa using hkx
   have hq0:((m:Int)+1==0)=false:=by simp;omega
   go_wp2;go_ret;exact⟨by rw[HN.out];rfl,hB1⟩
  obtain rfl:j=0:=by omega
  have hX:ay (aj rs) k=y:=by have:=HG.out;simp[cZ]at this;omega
  have HGU2:Hid (Pe (aj rs) (k+1)):=by
   intro m hm;by_cases e:m=k
   ·subst e;omega
   exact HGU.out m (by omega)
  have q0:=HAR1.out.rest k (Vr _) (by omega);have qf:=HAR1.out.free;have HA2:=HAR1.out.put (k:=k) (by omega);rw[hX]at HA2;have HA3:Hid (Arr (aj rs) _ w.heap.size (k+1)):=HA2;have hB2:=hB1.setCell (p:=⟨w.heap.size,k,none⟩) (Vr _) (.int .i64 y);clear HG HA2 hX;go_wp2;go_roundw;case rel=>exact⟨k+1,by omega,by go_num,HGU2,HA3,hB2⟩
  simp[intOf]<;>omega
 obtain rfl:k=rs.length:=by omega
 have a0:=HAR.out.told (rs.length-1) (by omega);have HKB:Hid (wB (aj rs)=decide (ay (aj rs) (rs.length-1)=0)):=by
  show _=_;have:jE (aj rs)=true:=by
   unfold jE;rw[VC];intro j hj;have hj':j<rs.length:=by simpa[Yo.out] using hj
   simpa using HGU.out j hj'
  unfold wB;rw[this,Yo.out,Bool.true_and]
 have hcast:((rs.length:Int)-1)=((rs.length-1:Nat):Int):=by omega
 have h15:((rs.length-1:Nat):Int)<15:=by omega
 have h00:(0:Int)<=((rs.length-1:Nat):Int):=by omega
 go_wp2;go_ret;exact⟨by rw[HKB.out];exact ah (by rw[VL];simp),hB⟩
theorem NF{es:Q09}(h:¬(1<=es.length/\es.length<=15)):kY es=false:=by rw[<-wT];exact Dy h
theorem Kk{es:Q09}(k:Nat)(h:k<es.length)(hb:av es[k]=false):kY es=false:=by simp[kY,C8 es k h hb]
theorem BC(b off cap:Nat)(rs:Q08)(w:ae)(hlen:rs.length<=1048576)(hl:∀r∈rs,r.e.light)(hf:∀r∈rs,r.e.fits)(hcp:∀r∈rs,r.e.allow.length<=r.capA)(hb:b<w.heap.size)(hr:∀(i:Nat) (h:i<rs.length),yz w b (off+i*5) rs[i])(hok:∀r∈rs,r.ok w):
  Calls prog 178 #[.slice (some ⟨b,off,none⟩) rs.length cap] w fun e w'=>e=.returned (.bool (kY (aj rs)))/\ag w w':=by
 have Yo:Hid ((aj rs).length=rs.length):=aX rs;have HL:=aC hl;have HF:=aC hf;have HCP:Hid (∀r∈rs,r.e.allow.length<=r.capA):=hcp;have HR:Hid (∀(i:Nat) (h:i<rs.length),yz w b (off+i*5) rs[i]):=hr;have HO:=aC hok;clear hl hf hr hok hcp;by_cases hn:1<=rs.length/\rs.length<=15
 ·obtain⟨hn1,hn2⟩:=hn;go_enter func178,ntmps178;go_wp2_with fail;go_loopw[3,16] (fun o i wr=>∃k:Nat,k<=rs.length/\i=.int .i64 k/\o=.int .i64 (gy (aj rs) k:Nat)/\Hid (jD (aj rs) k=true)/\ag w wr) (fun _ i _=>rs.length-(intOf i).toNat);case atStart=>exact⟨0,Vv _,rfl,rfl,(by show _=_;simp[jD]),Vs _ _⟩
  obtain⟨k,hk,rfl,rfl,HU,hB⟩:=hrel;by_cases hlt:k<rs.length
  ·have YF:k<(aj rs).length:=by rw[Yo.out];exact hlt
   have HEK:Hid ((aj rs)[k]=rs[k].e):=by show _=_;simp[aj]
   obtain⟨t0,t1,t2,t3,t4⟩:=(HR.out k hlt).later hb hB;have hk1:=bC k;have hk2:(k:Int)<(rs.length:Int):=by omega
   have hol:=uS (aj rs) k;have hal:ag w (wr.alloc (.cells #[.int .i64 rs[k].e.kind,.slice rs[k].adA rs[k].e.allow.length rs[k].capA,.string rs[k].e.over,.string rs[k].e.name,.slice rs[k].adK rs[k].e.kids.length rs[k].capK] 43)):=hB.alloc hB.size _;have WX:=aC hal;clear hal;go_wp2_with fail;refine(Kj rs[k] _ (HF.out _ (Vp hlt)) (HL.out _ (Vp hlt)) ((HO.out _ (Vp hlt)).below WX.out) (HCP.out _ (Vp hlt))).mono ?_;rintro e w1 ⟨rfl,hb1⟩;have hB1:ag w w1:=WX.out.trans (hb1.mono WX.out.size);have g0:w1.cell? ⟨wr.heap.size,0,none⟩=some (.int .i64 rs[k].e.kind):=by rw[hb1.cell (p:=⟨wr.heap.size,0,none⟩) (by simp)];simp
   clear hb1 t0 t1 t2 t3 t4 WX;cases WK:av rs[k].e;case false=>
    have HN:Hid (kY (aj rs)=false):=Kk k YF (by rw[HEK.out];exact WK);go_wp2;go_ret;exact⟨by rw[HN.out];rfl,hB1⟩
   have HU2:Hid (jD (aj rs) (k+1)=true):=by show _=_;rw[uT _ _ YF,HU.out,HEK.out,WK];rfl
   have HOW:Hid (gy (aj rs) (k+1)=gy (aj rs) k+(if rs[k].e.kind=1 then 1 else 0)):=by show _=_;rw[zH _ _ YF,HEK.out]
   by_cases hk1':rs[k].e.kind=1
   ·have Z0:Hid (gy (aj rs) (k+1)=gy (aj rs) k+1):=by show _=_;rw[HOW.out,if_pos hk1']
    clear HOW;go_wp2;go_roundw;case rel=>exact⟨k+1,by omega,by go_num,by rw[Z0.out];go_num,HU2,hB1⟩
    simp[intOf]<;>omega
   have Z0:Hid (gy (aj rs) (k+1)=gy (aj rs) k):=by show _=_;rw[HOW.out,if_neg hk1'];rfl
   clear HOW;go_wp2;go_roundw;case rel=>exact⟨k+1,by omega,by go_num,by rw[Z0.out],HU2,hB1⟩
   simp[intOf]<;>omega
  obtain rfl:k=rs.length:=by omega
  have HN:Hid ((aj rs).all av=true):=by
   have:=HU.out;unfold jD at this;rwa [<-Yo.out,VI]at this
  have HOW:Hid (gy (aj rs) rs.length=own (aj rs)):=by show _=_;unfold gy;rw[<-Yo.out,VI]
  have hol:=uS (aj rs) rs.length;by_cases ho:gy (aj rs) rs.length<=1
  ·have HS:Hid (kY (aj rs)=wB (aj rs)):=by
    show _=_;have h1:own (aj rs)<=1:=by rw[<-HOW.out];exact ho
    have e1:=Yo.out;unfold kY wB;rw[e1,HN.out];simp[h1,hn1,hn2]
   go_wp2_with fail;refine(yH b off cap rs _ hn1 hn2 HL.out (Vq hb hB.size) (fun i hi=>(HR.out i hi).later hb hB) (fun r hr=>(HO.out r hr).below hB)).mono ?_;rintro e w1 ⟨rfl,hb1⟩;go_wp2;go_ret;exact⟨by rw[HS.out];rfl,hB.trans (hb1.mono hB.size)⟩
  have HS:Hid (kY (aj rs)=false):=by
   show _=_;have h1:¬own (aj rs)<=1:=by rw[<-HOW.out];exact ho
   simp[kY,h1]
  go_wp2;go_ret;exact⟨by rw[HS.out];rfl,hB⟩
 have HN:Hid (kY (aj rs)=false):=NF (by rw[Yo.out];exact hn);go_enter func178,ntmps178;go_wp2_with fail
 all_goals go_ret
 all_goals exact⟨by rw[HN.out];rfl,Vs _ _⟩
theorem BD(ad:Q02)(cap:Nat)(rs:Q08)(w:ae)(hlen:rs.length<=1048576)(hl:∀r∈rs,r.e.light)(hf:∀r∈rs,r.e.fits)(hcp:∀r∈rs,r.e.allow.length<=r.capA)(hs:jw w ad rs):
  Calls prog 178 #[.slice ad rs.length cap] w fun e w'=>e=.returned (.bool (kY (aj rs)))/\ag w w':=by
 rcases hs with rfl|⟨b,off,rfl,hb,hr,hok⟩
 ·go_enter func178,ntmps178;go_wp2_with fail;go_ret;exact⟨rfl,Vs _ _⟩
 exact BC b off cap rs w hlen hl hf hcp hb hr hok
end Go.Proofs.YtojjoblnpldniaaGreat
