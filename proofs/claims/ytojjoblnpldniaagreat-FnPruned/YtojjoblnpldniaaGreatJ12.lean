/- The contract of the program's look at the allowed pairs of a node. -/
import Derived.Test.YtojjoblnpldniaaGreatSq
import Derived.Test.YtojjoblnpldniaaGreatJ10
open Go.Proofs.Tryz
set_option maxHeartbeats 80000000
namespace Go.Proofs.YtojjoblnpldniaaGreat
set_option maxRecDepth 100000
open Go.Sort
open ChangeShapes WideShapes ChangeAt RowKit
open Pl
theorem Hq(ad:Q02)(cap:Nat)(xs:Q0a)(w:af)(hlen:xs.length<=1048576)(hcap:xs.length<=cap)(hf:∀a∈xs,a.fits)(hs:kD w ad xs):
  Calls prog 291 #[.slice ad xs.length cap] w fun e w'=>e=.returned (.bool (dx xs))/\ag w w':=by
 have HS:=az hs;have HF:=az hf;clear hs hf;by_cases hl:1<=xs.length/\xs.length<=6
 ·obtain⟨hl1,hl2⟩:=hl;go_enter func291,ntmps291;go_wp2_with fail;go_loopw[15] (fun i wr=>∃k:Nat,k<=xs.length/\i=.int .i64 k/\Hid (EF xs k=true)/\ag w wr) (fun i _=>xs.length-(intOf i).toNat);case atStart=>exact⟨0,Vy _,rfl,rfl,Vv _ _⟩
  obtain⟨k,hk,rfl,HU,hB⟩:=hrel;by_cases hlt:k<xs.length
  ·rcases HS.out.below hB with rfl|⟨b,off,rfl,hb,hr⟩
   ·simp at hlt
   obtain⟨t0,t1⟩:=hr k hlt;obtain⟨z0,z1⟩:=HF.out xs[k] (Vs hlt);have hk1:=bI k;have hk2:(k:Int)<=(cap:Int):=by omega
   obtain⟨W1,hW1⟩:=eQx (wr.alloc (.cells #[.string xs[k].t,.string xs[k].s] 216));have hal:ag wr W1:=by rw[hW1];exact(Vv _ _).alloc (Vu _) _
   have hBW1:Below w.heap.size wr W1:=hal.mono hB.size;have hWs:w.heap.size<=W1.heap.size:=Vz hB.size hal.size;have hgl:wr.heap.size<W1.heap.size:=by rw[hW1];simp
   have g0:W1.cell? ⟨wr.heap.size,0,none⟩=some (.string xs[k].t):=by rw[hW1];simp
   have g1:W1.cell? ⟨wr.heap.size,1,none⟩=some (.string xs[k].s):=by rw[hW1];simp
   have HS1:Hid (kD W1 (some ⟨b,off,none⟩) xs):=(HS.out.below hB).below hal;clear hr;go_wp2_with fail;rw[<-hW1];clear hW1 t0 t1 hal;have p0:=cell_regrown g0;have p1:=cell_regrown g1;have Xm:Hid (∀d os,ag w (grow (redrawn W1 d) os)):=fun d os=>hB.trans (hBW1.trans ((below_regrown W1 d os).mono hWs));have Xy:=qD (j4 (W:=W1) (fun W'=>aL xs[k].t W' z0));have HCS:=qD (j4 (W:=W1) (fun W'=>Jm xs[k].s W' z1))
   have HCC:Hid (∀d os,Calls prog 149 #[.slice (some ⟨b,off,none⟩) k cap,.agg #[.string xs[k].t,.string xs[k].s]] (grow (redrawn W1 d) os) fun e w''=>e=.returned (.bool (dJ xs k xs[k]))/\∃p:Regrown,w''=grow (redrawn W1 p.d) p.os) :=
    fO fun W' hb=>vX (some ⟨b,off,none⟩) k cap xs xs[k] _ hk hlen (HS1.out.below hb)
   cases hn:aP xs[k].t;case false=>
    have HN:Hid (EF xs xs.length=false):=pF xs k hlt (by simp[EE,hn]) _ hlt;rw[hn]at Xy;refine wp_region_quiet_below (by kernel_rfl) (by kernel_rfl) ?_
    repeat(go_big_quiet_step (exact Xy.out _ _))
    refine wpQuiet_nil ?_;rintro _ ⟨⟨dq,osq⟩,rfl⟩;go_wp2;go_ret;exact⟨ah (by simp[dx,HN.out]),Xm.out dq osq⟩
   rw[hn]at Xy;cases hsb:vg xs[k].s;case false=>
    have HN:Hid (EF xs xs.length=false):=pF xs k hlt (by simp[EE,hn,hsb]) _ hlt;rw[hsb]at HCS;refine wp_region_quiet_below (by kernel_rfl) (by kernel_rfl) ?_
    repeat(go_big_quiet_step (first|exact Xy.out _ _|exact HCS.out _ _))
    refine wpQuiet_nil ?_;rintro _ ⟨⟨dq,osq⟩,rfl⟩;go_wp2;go_ret;exact⟨ah (by simp[dx,HN.out]),Xm.out dq osq⟩
   rw[hsb]at HCS;obtain⟨p,hp⟩:∃p,dJ xs k xs[k]=p:=⟨_,rfl⟩;rw[hp]at HCC;refine wp_region_quiet_below (by kernel_rfl) (by kernel_rfl) ?_
   repeat(go_big_quiet_step (first|exact Xy.out _ _|exact HCS.out _ _|exact HCC.out _ _))
   refine wpQuiet_nil ?_;rintro _ ⟨⟨dq,osq⟩,rfl⟩;cases p;case true=>
    have HN:Hid (EF xs xs.length=false):=pF xs k hlt (by simp[hp]) _ hlt;go_wp2;go_ret;exact⟨ah (by simp[dx,HN.out]),Xm.out dq osq⟩
   have HU2:Hid (EF xs (k+1)=true):=by show _=_;rw[zU _ _ hlt,HU.out];simp[EE,hn,hsb,hp]
   go_wp2;go_roundw;case rel=>exact⟨k+1,by omega,by go_num,HU2,Xm.out dq osq⟩
   simp[intOf]<;>omega
  obtain rfl:k=xs.length:=by omega
  have HAW:Hid (dx xs=true):=by show _=_;simp[dx,hl1,hl2,HU.out]
  go_wp2;go_ret;exact⟨by rw[HAW.out];rfl,hB⟩
 have HAW:Hid (dx xs=false):=by
  show _=_;unfold dx;by_cases h1:1<=xs.length
  ·have h2:¬xs.length<=6:=fun h2=>hl ⟨h1,h2⟩;simp[h2]
  simp[h1]
 go_enter func291,ntmps291;go_wp2_with fail
 all_goals go_ret
 all_goals exact⟨by rw[HAW.out];rfl,Vv _ _⟩
set_option maxRecDepth 8000 in
theorem Hr(r:ER)(w:af)(hf:r.e.fits)(hl:r.e.light)(hok:r.ok w)(hcap:r.e.allow.length<=r.capA)(h1:r.e.kind=1):
  Calls prog 250 #[r.val] w fun e w'=>e=.returned (.bool (av r.e))/\ag w w':=by
 obtain⟨⟨kind,allow,over,name,kids⟩,adA,capA,adK,capK⟩:=r;obtain⟨f1,f2,f3,f4,f5⟩:=hf;obtain⟨hA,hK⟩:=hok;obtain⟨l1,l2⟩:=hl;simp only at f1 f2 f3 f4 f5 h1 hA hK hcap l1 l2;subst h1;simp only[ER.val];unfold maxLen at f4 f5;have HB0:Hid (∀n,ag w ((w.alloc (.cells #[.int .i64 1,.slice adA allow.length capA,.string over,.string name,.slice adK kids.length capK] 43)).drewN n)):=fun n=>below_drewN ((Vv w.heap.size w).alloc (Vu _) _) n;have HA:=az hA;have Ya:=az f1;have HCAP:Hid (allow.length<=capA):=hcap;clear hA hK f1 hcap;go_enter func250,ntmps250;go_wp2_with fail;go_quiet (fail);go_wp2_with fail;refine(Hq adA capA allow _ l1 HCAP.out Ya.out (HA.out.below (HB0.out _))).mono ?_;rintro e w1 ⟨rfl,hb1⟩;have c2:w1.cell? ⟨w.heap.size,2,none⟩=some (.string over):=by rw[hb1.cell (p:=⟨w.heap.size,2,none⟩) (by show _<(w.alloc _).heap.size;simp)];show(w.alloc _).cell? _=_;simp
 have c3:w1.cell? ⟨w.heap.size,3,none⟩=some (.string name):=by rw[hb1.cell (p:=⟨w.heap.size,3,none⟩) (by show _<(w.alloc _).heap.size;simp)];show(w.alloc _).cell? _=_;simp
 have HB1:Hid (ag w w1):=(HB0.out _).trans (hb1.mono (HB0.out _).size);clear hb1 HB0;go_wp2
 all_goals go_ret
 all_goals exact⟨ah (by first|(simp[av, *];done)|(simp[av, *];omega)|(simp[av, *];rw[VR];simp;done)|(simp[av, *];rw[VR];simp;omega)),HB1.out⟩
theorem Km(r:ER)(w:af)(hf:r.e.fits)(hl:r.e.light)(hok:r.ok w)(hcap:r.e.allow.length<=r.capA):
  Calls prog 250 #[r.val] w fun e w'=>e=.returned (.bool (av r.e))/\ag w w':=by
 by_cases h:r.e.kind=1
 ·exact Hr r w hf hl hok hcap h
 exact Fj r w hf h
structure Arr(es:Q09)(w:World)(g k:Nat):Prop where
 lt:g<w.heap.size
 told:∀j,j<k->w.cell? ⟨g,j,none⟩=some (.int .i64 (aB es j))
 rest:∀j,k<=j->j<15->w.cell? ⟨g,j,none⟩=some (.int .i64 0)
 free:∀o,w.frozen? ⟨g,o,none⟩=false
theorem Arr.later{es:Q09}{w w':af}{g k:Nat}(h:Arr es w g k)(hb:ag w w'):Arr es w' g k where
 lt:=Vt h.lt hb.size
 told j hj:=kept hb h.lt (h.told j hj)
 rest j h1 h2:=kept hb h.lt (h.rest j h1 h2)
 free o:=qM hb h.lt (h.free o)
theorem Arr.put{es:Q09}{w:af}{g k:Nat}(h:Arr es w g k)(hk:k<15):Arr es (w.setCell ⟨g,k,none⟩ (.int .i64 (aB es k))) g (k+1) where
 lt:=by simpa using h.lt
 told j hj:=by
  by_cases e:j=k
  ·subst e;exact mD (h.rest j (Vu _) hk)
  rw[gV (Ne.symm e)];exact h.told j (by omega)
 rest j h1 h2:=by rw[gV (by omega)];exact h.rest j (by omega) h2
 free o:=by simpa using h.free o
def wF(es:Q09):Bool:=jP es&&decide (aB es (es.length-1)=0)
theorem D5{es:Q09}(k:Nat)(h:k<es.length)(hb:aB es k<0):wF es=false:=by
 have:jP es=false:=by
  rw[Bool.eq_false_iff];intro h2;unfold jP at h2;rw[VF]at h2;have:=h2 k (by simpa using h);simp at this;omega
 simp[wF,this]
theorem zg(b off cap:Nat)(rs:Q08)(w:af)(hn1:1<=rs.length)(hn2:rs.length<=15)(hl:∀r∈rs,r.e.light)(hb:b<w.heap.size)(hr:∀(i:Nat) (h:i<rs.length),ve w b (off+i*5) rs[i])(hok:∀r∈rs,r.ok w):
  Calls prog 251 #[.slice (some ⟨b,off,none⟩) rs.length cap] w fun e w'=>e=.returned (.bool (wF (ai rs)))/\ag w w':=by
 have Yt:Hid ((ai rs).length=rs.length):=ay rs;have HL:=az hl;have HR:Hid (∀(i:Nat) (h:i<rs.length),ve w b (off+i*5) rs[i]):=hr;have HO:=az hok;clear hl hr hok;go_enter func251,ntmps251;go_wp2_with fail;go_loopw[10] (fun i wr=>∃k:Nat,k<=rs.length/\i=.int .i64 k/\Hid (Pj (ai rs) k)/\Hid (Arr (ai rs) wr w.heap.size k)/\ag w wr) (fun i _=>rs.length-(intOf i).toNat);case atStart =>
  refine⟨0,Vy _,rfl,(fun j hj=>absurd hj (Wm _)),⟨by simp,(fun j hj=>absurd hj (Wm _)),fun j _ hj=>?_,fun o=>by simp⟩,(Vv _ _).alloc (Vu _) _⟩;have h15:j=0\/j=1\/j=2\/j=3\/j=4\/j=5\/j=6\/j=7\/j=8\/j=9\/j=10\/j=11\/j=12\/j=13\/j=14:=by omega
  rcases h15 with rfl|rfl|rfl|rfl|rfl|rfl|rfl|rfl|rfl|rfl|rfl|rfl|rfl|rfl|rfl<;>simp
 obtain⟨k,hk,rfl,HGU,HAR,hB⟩:=hrel;by_cases hlt:k<rs.length
 ·have XO:k<(ai rs).length:=by rw[Yt.out];exact hlt
  obtain⟨t0,t1,t2,t3,t4⟩:=(HR.out k hlt).later hb hB;have hk1:=bI k;have hk2:(k:Int)<(rs.length:Int):=by omega
  have hk3:(k:Int)<15:=by omega
  obtain⟨-,lk⟩:=HL.out rs[k] (Vs hlt);obtain⟨W1,hW1⟩:=eQx (wr.alloc (.cells #[.int .i64 rs[k].e.kind,.slice rs[k].adA rs[k].e.allow.length rs[k].capA,.string rs[k].e.over,.string rs[k].e.name,.slice rs[k].adK rs[k].e.kids.length rs[k].capK] 43));have hal:ag wr W1:=by rw[hW1];exact(Vv _ _).alloc (Vu _) _
  have hB1:ag w W1:=hB.trans (hal.mono hB.size);have HAR1:Hid (Arr (ai rs) W1 w.heap.size k):=HAR.out.later hal;have s4:W1.cell? ⟨wr.heap.size,4,none⟩=some (.slice rs[k].adK rs[k].e.kids.length rs[k].capK):=by rw[hW1];simp
  have HT:Hid (dh (dA (ai rs) k) (rs[k].e.kids.take rs[k].e.kids.length).reverse ((k:Int)-1)=aB (ai rs) k):=by
   show _=_;rw[VI,jA (ai rs) k,p8 rs k hlt]
  clear HAR;go_wp2_with fail;rw[<-hW1];clear hW1 t0 t1 t2 t3 t4 hal;go_loopw[6,7] (fun x i w2=>∃(j:Nat) (y:Int),j<=rs[k].e.kids.length/\i=.int .i64 ((j:Int)-1)/\x=.int .i64 y/\0<=y/\y<=k/\Hid (dh (dA (ai rs) k) (rs[k].e.kids.take j).reverse (y-1)=aB (ai rs) k)/\w2=W1) (fun _ i _=>(intOf i+1).toNat);case atStart=>exact⟨rs[k].e.kids.length,(k:Int),Vu _,rfl,rfl,by omega,by omega,HT,rfl⟩
  obtain⟨j,y,hj,rfl,rfl,hy0,hy1,HG,rfl⟩:=hrel;by_cases hj0:0<j
  ·obtain⟨j,rfl⟩:∃i,j=i+1:=⟨j-1,by omega⟩;have hjl:j<rs[k].e.kids.length:=by omega
   rcases (HO.out rs[k] (Vs hlt)).2.below hB1 with hnil|⟨bk,offk,Z8,hbk,Zx⟩
   ·rw[hnil]at hjl;simp at hjl
   have s4':=s4;rw[Z8]at s4';have k0:=Zx j hjl;have hji:((j+1:Nat):Int)-1=(j:Int):=by omega
   have hj1:=bI j;have hj2:(j:Int)<(rs[k].e.kids.length:Int):=by omega
   have HG2:Hid ((if y-1<0\/rs[k].e.kids[j]≠y-1 then -1 else if dA (ai rs) k (y-1)<0 then -1 else dh (dA (ai rs) k) (rs[k].e.kids.take j).reverse (dA (ai rs) k (y-1)-1))=aB (ai rs) k):=by
    have:=HG.out;rw[Vx hjl,List.reverse_append]at this;exact this
   rw[hji];clear HG Zx Z8 s4;by_cases hy:y=0
   ·have HN:Hid (wF (ai rs)=false):=D5 k XO (by rw[<-HG2.out,if_pos (Or.inl (by omega))];omega);subst hy;go_wp2;go_ret;exact⟨by rw[HN.out];rfl,hB1⟩
   obtain⟨m,rfl⟩:∃m:Nat,y=(m:Int)+1:=⟨(y-1).toNat,by omega⟩;have em:(m:Int)+1-1=(m:Int):=by omega
   by_cases hkx:rs[k].e.kids[j]=(m:Int)
   ·have hF:dA (ai rs) k ((m:Int)+1-1)=aB (ai rs) m:=by rw[em];unfold dA;rw[if_pos ⟨by omega,by simp;omega⟩];simp
    have HF:Hid (dA (ai rs) k ((m:Int)+1-1)=aB (ai rs) m):=hF;have hle:=iP (ai rs) m;have hge:0<=aB (ai rs) m:=HGU.out m (by omega);have a0:=HAR1.out.told m (by omega);have hm1:=bI m;have hm2:(m:Int)<15:=by omega
    have Zt:Hid (dh (dA (ai rs) k) (rs[k].e.kids.take j).reverse (aB (ai rs) m-1)=aB (ai rs) k):=by
     show _=_;rw[<-HG2.out,if_neg (by omega),HF.out,if_neg (by omega)]
    clear hF HG2;go_wp2;go_roundw;case rel=>exact⟨j,aB (ai rs) m,by omega,by go_num,rfl,hge,by omega,Zt,by first|rfl|trivial⟩
    simp[intOf]<;>omega
   have HN:Hid (wF (ai rs)=false):=D5 k XO (by rw[<-HG2.out,if_pos (Or.inr (by rw[em];exact hkx))];omega);have hq:(rs[k].e.kids[j] != (m:Int))=true:=by simpa using hkx
   have hq0:((m:Int)+1==0)=false:=by simp;omega
   go_wp2;go_ret;exact⟨by rw[HN.out];rfl,hB1⟩
  obtain rfl:j=0:=by omega
  have hX:aB (ai rs) k=y:=by have:=HG.out;simp[dh]at this;omega
  have HGU2:Hid (Pj (ai rs) (k+1)):=by
   intro m hm;by_cases e:m=k
   ·subst e;omega
   exact HGU.out m (by omega)
  have q0:=HAR1.out.rest k (Vu _) (by omega);have qf:=HAR1.out.free;have HA2:=HAR1.out.put (k:=k) (by omega);rw[hX]at HA2;have Xi:Hid (Arr (ai rs) _ w.heap.size (k+1)):=HA2;have hB2:=hB1.setCell (p:=⟨w.heap.size,k,none⟩) (Vu _) (.int .i64 y);clear HG HA2 hX;go_wp2;go_roundw;case rel=>exact⟨k+1,by omega,by go_num,HGU2,Xi,hB2⟩
  simp[intOf]<;>omega
 obtain rfl:k=rs.length:=by omega
 have a0:=HAR.out.told (rs.length-1) (by omega);have HKB:Hid (wF (ai rs)=decide (aB (ai rs) (rs.length-1)=0)):=by
  show _=_;have:jP (ai rs)=true:=by
   unfold jP;rw[VF];intro j hj;have hj':j<rs.length:=by simpa[Yt.out] using hj
   simpa using HGU.out j hj'
  unfold wF;rw[this,Yt.out,Bool.true_and]
 have hcast:((rs.length:Int)-1)=((rs.length-1:Nat):Int):=by omega
 have h15:((rs.length-1:Nat):Int)<15:=by omega
 have h00:(0:Int)<=((rs.length-1:Nat):Int):=by omega
 go_wp2;go_ret;exact⟨by rw[HKB.out];exact ah (by rw[VR];simp),hB⟩
theorem Nv{es:Q09}(h:¬(1<=es.length/\es.length<=15)):kG es=false:=by rw[<-rV];exact DC h
theorem Kn{es:Q09}(k:Nat)(h:k<es.length)(hb:av es[k]=false):kG es=false:=by simp[kG,Df es k h hb]
theorem rz(b off cap:Nat)(rs:Q08)(w:af)(hlen:rs.length<=1048576)(hl:∀r∈rs,r.e.light)(hf:∀r∈rs,r.e.fits)(hcp:∀r∈rs,r.e.allow.length<=r.capA)(hb:b<w.heap.size)(hr:∀(i:Nat) (h:i<rs.length),ve w b (off+i*5) rs[i])(hok:∀r∈rs,r.ok w):
  Calls prog 178 #[.slice (some ⟨b,off,none⟩) rs.length cap] w fun e w'=>e=.returned (.bool (kG (ai rs)))/\ag w w':=by
 have Yt:Hid ((ai rs).length=rs.length):=ay rs;have HL:=az hl;have HF:=az hf;have HCP:Hid (∀r∈rs,r.e.allow.length<=r.capA):=hcp;have HR:Hid (∀(i:Nat) (h:i<rs.length),ve w b (off+i*5) rs[i]):=hr;have HO:=az hok;clear hl hf hr hok hcp;by_cases hn:1<=rs.length/\rs.length<=15
 ·obtain⟨hn1,hn2⟩:=hn;go_enter func178,ntmps178;go_wp2_with fail;go_loopw[3,16] (fun o i wr=>∃k:Nat,k<=rs.length/\i=.int .i64 k/\o=.int .i64 (gX (ai rs) k:Nat)/\Hid (jO (ai rs) k=true)/\ag w wr) (fun _ i _=>rs.length-(intOf i).toNat);case atStart=>exact⟨0,Vy _,rfl,rfl,(by show _=_;simp[jO]),Vv _ _⟩
  obtain⟨k,hk,rfl,rfl,HU,hB⟩:=hrel;by_cases hlt:k<rs.length
  ·have XO:k<(ai rs).length:=by rw[Yt.out];exact hlt
   have HEK:Hid ((ai rs)[k]=rs[k].e):=by show _=_;simp[ai]
   obtain⟨t0,t1,t2,t3,t4⟩:=(HR.out k hlt).later hb hB;have hk1:=bI k;have hk2:(k:Int)<(rs.length:Int):=by omega
   have hol:=vv (ai rs) k;have hal:ag w (wr.alloc (.cells #[.int .i64 rs[k].e.kind,.slice rs[k].adA rs[k].e.allow.length rs[k].capA,.string rs[k].e.over,.string rs[k].e.name,.slice rs[k].adK rs[k].e.kids.length rs[k].capK] 43)):=hB.alloc hB.size _;have Xd:=az hal;clear hal;go_wp2_with fail;refine(Km rs[k] _ (HF.out _ (Vs hlt)) (HL.out _ (Vs hlt)) ((HO.out _ (Vs hlt)).below Xd.out) (HCP.out _ (Vs hlt))).mono ?_;rintro e w1 ⟨rfl,hb1⟩;have hB1:ag w w1:=Xd.out.trans (hb1.mono Xd.out.size);have g0:w1.cell? ⟨wr.heap.size,0,none⟩=some (.int .i64 rs[k].e.kind):=by rw[hb1.cell (p:=⟨wr.heap.size,0,none⟩) (by simp)];simp
   clear hb1 t0 t1 t2 t3 t4 Xd;cases WN:av rs[k].e;case false=>
    have HN:Hid (kG (ai rs)=false):=Kn k XO (by rw[HEK.out];exact WN);go_wp2;go_ret;exact⟨by rw[HN.out];rfl,hB1⟩
   have HU2:Hid (jO (ai rs) (k+1)=true):=by show _=_;rw[vw _ _ XO,HU.out,HEK.out,WN];rfl
   have HOW:Hid (gX (ai rs) (k+1)=gX (ai rs) k+(if rs[k].e.kind=1 then 1 else 0)):=by show _=_;rw[zV _ _ XO,HEK.out]
   by_cases hk1':rs[k].e.kind=1
   ·have HOW2:Hid (gX (ai rs) (k+1)=gX (ai rs) k+1):=by show _=_;rw[HOW.out,if_pos hk1']
    clear HOW;go_wp2;go_roundw;case rel=>exact⟨k+1,by omega,by go_num,by rw[HOW2.out];go_num,HU2,hB1⟩
    simp[intOf]<;>omega
   have HOW2:Hid (gX (ai rs) (k+1)=gX (ai rs) k):=by show _=_;rw[HOW.out,if_neg hk1'];rfl
   clear HOW;go_wp2;go_roundw;case rel=>exact⟨k+1,by omega,by go_num,by rw[HOW2.out],HU2,hB1⟩
   simp[intOf]<;>omega
  obtain rfl:k=rs.length:=by omega
  have HN:Hid ((ai rs).all av=true):=by
   have:=HU.out;unfold jO at this;rwa [<-Yt.out,VI]at this
  have HOW:Hid (gX (ai rs) rs.length=own (ai rs)):=by show _=_;unfold gX;rw[<-Yt.out,VI]
  have hol:=vv (ai rs) rs.length;by_cases ho:gX (ai rs) rs.length<=1
  ·have HS:Hid (kG (ai rs)=wF (ai rs)):=by
    show _=_;have h1:own (ai rs)<=1:=by rw[<-HOW.out];exact ho
    have e1:=Yt.out;unfold kG wF;rw[e1,HN.out];simp[h1,hn1,hn2]
   go_wp2_with fail;refine(zg b off cap rs _ hn1 hn2 HL.out (Vt hb hB.size) (fun i hi=>(HR.out i hi).later hb hB) (fun r hr=>(HO.out r hr).below hB)).mono ?_;rintro e w1 ⟨rfl,hb1⟩;go_wp2;go_ret;exact⟨by rw[HS.out];rfl,hB.trans (hb1.mono hB.size)⟩
  have HS:Hid (kG (ai rs)=false):=by
   show _=_;have h1:¬own (ai rs)<=1:=by rw[<-HOW.out];exact ho
   simp[kG,h1]
  go_wp2;go_ret;exact⟨by rw[HS.out];rfl,hB⟩
 have HN:Hid (kG (ai rs)=false):=Nv (by rw[Yt.out];exact hn);go_enter func178,ntmps178;go_wp2_with fail
 all_goals go_ret
 all_goals exact⟨by rw[HN.out];rfl,Vv _ _⟩
theorem rA(ad:Q02)(cap:Nat)(rs:Q08)(w:af)(hlen:rs.length<=1048576)(hl:∀r∈rs,r.e.light)(hf:∀r∈rs,r.e.fits)(hcp:∀r∈rs,r.e.allow.length<=r.capA)(hs:jo w ad rs):
  Calls prog 178 #[.slice ad rs.length cap] w fun e w'=>e=.returned (.bool (kG (ai rs)))/\ag w w':=by
 rcases hs with rfl|⟨b,off,rfl,hb,hr,hok⟩
 ·go_enter func178,ntmps178;go_wp2_with fail;go_ret;exact⟨rfl,Vv _ _⟩
 exact rz b off cap rs w hlen hl hf hcp hb hr hok
end Go.Proofs.YtojjoblnpldniaaGreat
