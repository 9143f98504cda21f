/- The contract of the program's look at the allowed pairs of a node. -/
import Derived.Test.YtojjoblnpldniaaGreatSq
import Derived.Test.YtojjoblnpldniaaGreatJ5
open Go.Proofs.Tryz
set_option maxHeartbeats 80000000
namespace Go.Proofs.YtojjoblnpldniaaGreat
set_option maxRecDepth 100000
open Go.Sort
open ChangeShapes WideShapes ChangeAt RowKit
open Pl
theorem IV(ad:Q02)(cap:Nat)(xs:Q0a)(w:af)(hlen:xs.length<=1048576)(hcap:xs.length<=cap)(hf:∀a∈xs,a.fits)(hs:kV w ad xs):
  Calls prog 291 #[.slice ad xs.length cap] w fun e w'=>e=.returned (.bool (dF xs))/\ag w w':=by
 have HS:=aB hs;have HF:=aB hf;clear hs hf;by_cases hl:1<=xs.length/\xs.length<=6
 ·obtain⟨hl1,hl2⟩:=hl;go_enter func291,ntmps291;go_wp2_with fail;go_loopw[15] (fun i wr=>∃k:Nat,k<=xs.length/\i=.int .i64 k/\Hid (FK xs k=true)/\ag w wr) (fun i _=>xs.length-(intOf i).toNat);case atStart=>exact⟨0,WO _,rfl,rfl,WL _ _⟩
  obtain⟨k,hk,rfl,HU,hB⟩:=hrel;by_cases hlt:k<xs.length
  ·rcases HS.out.below hB with rfl|⟨b,off,rfl,hb,hr⟩
   ·simp at hlt
   obtain⟨t0,t1⟩:=hr k hlt;obtain⟨z0,z1⟩:=HF.out xs[k] (WH hlt);have hk1:=bY k;have hk2:(k:Int)<=(cap:Int):=by omega
   obtain⟨W1,hW1⟩:=eQx (wr.alloc (.cells #[.string xs[k].t,.string xs[k].s] 216));have hal:ag wr W1:=by rw[hW1];exact(WL _ _).alloc (WK _) _
   have hBW1:Below w.heap.size wr W1:=hal.mono hB.size;have hWs:w.heap.size<=W1.heap.size:=WR hB.size hal.size;have hgl:wr.heap.size<W1.heap.size:=by rw[hW1];simp
   have g0:W1.cell? ⟨wr.heap.size,0,none⟩=some (.string xs[k].t):=by rw[hW1];simp
   have g1:W1.cell? ⟨wr.heap.size,1,none⟩=some (.string xs[k].s):=by rw[hW1];simp
   have HS1:Hid (kV W1 (some ⟨b,off,none⟩) xs):=(HS.out.below hB).below hal;clear hr;go_wp2_with fail;rw[<-hW1];clear hW1 t0 t1 hal;have p0:=cell_regrown g0;have p1:=cell_regrown g1;have YE:Hid (∀d os,ag w (grow (redrawn W1 d) os)):=fun d os=>hB.trans (hBW1.trans ((below_regrown W1 d os).mono hWs));have YO:=oP (kJ (W:=W1) (fun W'=>aP xs[k].t W' z0));have HCS:=oP (kJ (W:=W1) (fun W'=>JZ xs[k].s W' z1))
   have HCC:Hid (∀d os,Calls prog 149 #[.slice (some ⟨b,off,none⟩) k cap,.agg #[.string xs[k].t,.string xs[k].s]] (grow (redrawn W1 d) os) fun e w''=>e=.returned (.bool (dG xs k xs[k]))/\∃p:Regrown,w''=grow (redrawn W1 p.d) p.os) :=
    gm fun W' hb=>wN (some ⟨b,off,none⟩) k cap xs xs[k] _ hk hlen (HS1.out.below hb)
   cases hn:aS xs[k].t;case false=>
    have HN:Hid (FK xs xs.length=false):=pY xs k hlt (by simp[FJ,hn]) _ hlt;rw[hn]at YO;refine wp_region_quiet_below (by kernel_rfl) (by kernel_rfl) ?_
    repeat(go_big_quiet_step (exact YO.out _ _))
    refine wpQuiet_nil ?_;rintro _ ⟨⟨dq,osq⟩,rfl⟩;go_wp2;go_ret;exact⟨ah (by simp[dF,HN.out]),YE.out dq osq⟩
   rw[hn]at YO;cases hsb:vT xs[k].s;case false=>
    have HN:Hid (FK xs xs.length=false):=pY xs k hlt (by simp[FJ,hn,hsb]) _ hlt;rw[hsb]at HCS;refine wp_region_quiet_below (by kernel_rfl) (by kernel_rfl) ?_
    repeat(go_big_quiet_step (first|exact YO.out _ _|exact HCS.out _ _))
    refine wpQuiet_nil ?_;rintro _ ⟨⟨dq,osq⟩,rfl⟩;go_wp2;go_ret;exact⟨ah (by simp[dF,HN.out]),YE.out dq osq⟩
   rw[hsb]at HCS;obtain⟨p,hp⟩:∃p,dG xs k xs[k]=p:=⟨_,rfl⟩;rw[hp]at HCC;refine wp_region_quiet_below (by kernel_rfl) (by kernel_rfl) ?_
   repeat(go_big_quiet_step (first|exact YO.out _ _|exact HCS.out _ _|exact HCC.out _ _))
   refine wpQuiet_nil ?_;rintro _ ⟨⟨dq,osq⟩,rfl⟩;cases p;case true=>
    have HN:Hid (FK xs xs.length=false):=pY xs k hlt (by simp[hp]) _ hlt;go_wp2;go_ret;exact⟨ah (by simp[dF,HN.out]),YE.out dq osq⟩
   have HU2:Hid (FK xs (k+1)=true):=by show _=_;rw[AJ _ _ hlt,HU.out];simp[FJ,hn,hsb,hp]
   go_wp2;go_roundw;case rel=>exact⟨k+1,by omega,by go_num,HU2,YE.out dq osq⟩
   simp[intOf]<;>omega
  obtain rfl:k=xs.length:=by omega
  have HAW:Hid (dF xs=true):=by show _=_;simp[dF,hl1,hl2,HU.out]
  go_wp2;go_ret;exact⟨by rw[HAW.out];rfl,hB⟩
 have HAW:Hid (dF xs=false):=by
  show _=_;unfold dF;by_cases h1:1<=xs.length
  ·have h2:¬xs.length<=6:=fun h2=>hl ⟨h1,h2⟩;simp[h2]
  simp[h1]
 go_enter func291,ntmps291;go_wp2_with fail
 all_goals go_ret
 all_goals exact⟨by rw[HAW.out];rfl,WL _ _⟩
set_option maxRecDepth 8000 in
theorem IW(r:ER)(w:af)(hf:r.e.fits)(hl:r.e.light)(hok:r.ok w)(hcap:r.e.allow.length<=r.capA)(h1:r.e.kind=1):
  Calls prog 250 #[r.val] w fun e w'=>e=.returned (.bool (ax r.e))/\ag w w':=by
 obtain⟨⟨kind,allow,over,name,kids⟩,adA,capA,adK,capK⟩:=r;obtain⟨f1,f2,f3,f4,f5⟩:=hf;obtain⟨hA,hK⟩:=hok;obtain⟨l1,l2⟩:=hl;simp only at f1 f2 f3 f4 f5 h1 hA hK hcap l1 l2;subst h1;simp only[ER.val];unfold maxLen at f4 f5;have HB0:Hid (∀n,ag w ((w.alloc (.cells #[.int .i64 1,.slice adA allow.length capA,.string over,.string name,.slice adK kids.length capK] 43)).drewN n)):=fun n=>below_drewN ((WL w.heap.size w).alloc (WK _) _) n;have HA:=aB hA;have Zf:=aB f1;have HCAP:Hid (allow.length<=capA):=hcap;clear hA hK f1 hcap;go_enter func250,ntmps250;go_wp2_with fail;go_quiet (fail);go_wp2_with fail;refine(IV adA capA allow _ l1 HCAP.out Zf.out (HA.out.below (HB0.out _))).mono ?_;rintro e w1 ⟨rfl,hb1⟩;have c2:w1.cell? ⟨w.heap.size,2,none⟩=some (.string over):=by rw[hb1.cell (p:=⟨w.heap.size,2,none⟩) (by show _<(w.alloc _).heap.size;simp)];show(w.alloc _).cell? _=_;simp
 have c3:w1.cell? ⟨w.heap.size,3,none⟩=some (.string name):=by rw[hb1.cell (p:=⟨w.heap.size,3,none⟩) (by show _<(w.alloc _).heap.size;simp)];show(w.alloc _).cell? _=_;simp
 have HB1:Hid (ag w w1):=(HB0.out _).trans (hb1.mono (HB0.out _).size);clear hb1 HB0;go_wp2
 all_goals go_ret
 all_goals exact⟨ah (by first|(simp[ax, *];done)|(simp[ax, *];omega)|(simp[ax, *];rw[Xe];simp;done)|(simp[ax, *];rw[Xe];simp;omega)),HB1.out⟩
theorem Lt(r:ER)(w:af)(hf:r.e.fits)(hl:r.e.light)(hok:r.ok w)(hcap:r.e.allow.length<=r.capA):
  Calls prog 250 #[r.val] w fun e w'=>e=.returned (.bool (ax r.e))/\ag w w':=by
 by_cases h:r.e.kind=1
 ·exact IW r w hf hl hok hcap h
 exact Gb r w hf h
structure Arr(es:Q09)(w:World)(g k:Nat):Prop where
 lt:g<w.heap.size
 told:∀j,j<k->w.cell? ⟨g,j,none⟩=some (.int .i64 (av es j))
 rest:∀j,k<=j->j<15->w.cell? ⟨g,j,none⟩=some (.int .i64 0)
 free:∀o,w.frozen? ⟨g,o,none⟩=false
theorem Arr.later{es:Q09}{w w':af}{g k:Nat}(h:Arr es w g k)(hb:ag w w'):Arr es w' g k where
 lt:=WJ h.lt hb.size
 told j hj:=kept hb h.lt (h.told j hj)
 rest j h1 h2:=kept hb h.lt (h.rest j h1 h2)
 free o:=q8 hb h.lt (h.free o)
theorem Arr.put{es:Q09}{w:af}{g k:Nat}(h:Arr es w g k)(hk:k<15):Arr es (w.setCell ⟨g,k,none⟩ (.int .i64 (av es k))) g (k+1) where
 lt:=by simpa using h.lt
 told j hj:=by
  by_cases e:j=k
  ·subst e;exact oL (h.rest j (WK _) hk)
  rw[iL (Ne.symm e)];exact h.told j (by omega)
 rest j h1 h2:=by rw[iL (by omega)];exact h.rest j (by omega) h2
 free o:=by simpa using h.free o
def xq(es:Q09):Bool:=jq es&&decide (av es (es.length-1)=0)
theorem ET{es:Q09}(k:Nat)(h:k<es.length)(hb:av es k<0):xq es=false:=by
 have:jq es=false:=by
  rw[Bool.eq_false_iff];intro h2;unfold jq at h2;rw[WT]at h2;have:=h2 k (by simpa using h);simp at this;omega
 simp[xq,this]
theorem zT(b off cap:Nat)(rs:Q08)(w:af)(hn1:1<=rs.length)(hn2:rs.length<=15)(hl:∀r∈rs,r.e.light)(hb:b<w.heap.size)(hr:∀(i:Nat) (h:i<rs.length),vP w b (off+i*5) rs[i])(hok:∀r∈rs,r.ok w):
  Calls prog 251 #[.slice (some ⟨b,off,none⟩) rs.length cap] w fun e w'=>e=.returned (.bool (xq (ai rs)))/\ag w w':=by
 have ZC:Hid ((ai rs).length=rs.length):=au rs;have HL:=aB hl;have HR:Hid (∀(i:Nat) (h:i<rs.length),vP w b (off+i*5) rs[i]):=hr;have HO:=aB hok;clear hl hr hok;go_enter func251,ntmps251;go_wp2_with fail;go_loopw[10] (fun i wr=>∃k:Nat,k<=rs.length/\i=.int .i64 k/\Hid (Qa (ai rs) k)/\Hid (Arr (ai rs) wr w.heap.size k)/\ag w wr) (fun i _=>rs.length-(intOf i).toNat);case atStart =>
  refine⟨0,WO _,rfl,(fun j hj=>absurd hj (XE _)),⟨by simp,(fun j hj=>absurd hj (XE _)),fun j _ hj=>?_,fun o=>by simp⟩,(WL _ _).alloc (WK _) _⟩;have h15:j=0\/j=1\/j=2\/j=3\/j=4\/j=5\/j=6\/j=7\/j=8\/j=9\/j=10\/j=11\/j=12\/j=13\/j=14:=by omega
  rcases h15 with rfl|rfl|rfl|rfl|rfl|rfl|rfl|rfl|rfl|rfl|rfl|rfl|rfl|rfl|rfl<;>simp
 obtain⟨k,hk,rfl,HGU,HAR,hB⟩:=hrel;by_cases hlt:k<rs.length
 ·have YW:k<(ai rs).length:=by rw[ZC.out];exact hlt
  obtain⟨t0,t1,t2,t3,t4⟩:=(HR.out k hlt).later hb hB;have hk1:=bY k;have hk2:(k:Int)<(rs.length:Int):=by omega
  have hk3:(k:Int)<15:=by omega
  obtain⟨-,lk⟩:=HL.out rs[k] (WH hlt);obtain⟨W1,hW1⟩:=eQx (wr.alloc (.cells #[.int .i64 rs[k].e.kind,.slice rs[k].adA rs[k].e.allow.length rs[k].capA,.string rs[k].e.over,.string rs[k].e.name,.slice rs[k].adK rs[k].e.kids.length rs[k].capK] 43));have hal:ag wr W1:=by rw[hW1];exact(WL _ _).alloc (WK _) _
  have hB1:ag w W1:=hB.trans (hal.mono hB.size);have HAR1:Hid (Arr (ai rs) W1 w.heap.size k):=HAR.out.later hal;have s4:W1.cell? ⟨wr.heap.size,4,none⟩=some (.slice rs[k].adK rs[k].e.kids.length rs[k].capK):=by rw[hW1];simp
  have HT:Hid (bG (cO (ai rs) k) (rs[k].e.kids.take rs[k].e.kids.length).reverse ((k:Int)-1)=av (ai rs) k):=by
   show _=_;rw[Xa,jc (ai rs) k,qA rs k hlt]
  clear HAR;go_wp2_with fail;rw[<-hW1];clear hW1 t0 t1 t2 t3 t4 hal;go_loopw[6,7] (fun x i w2=>∃(j:Nat) (y:Int),j<=rs[k].e.kids.length/\i=.int .i64 ((j:Int)-1)/\x=.int .i64 y/\0<=y/\y<=k/\Hid (bG (cO (ai rs) k) (rs[k].e.kids.take j).reverse (y-1)=av (ai rs) k)/\w2=W1) (fun _ i _=>(intOf i+1).toNat);case atStart=>exact⟨rs[k].e.kids.length,(k:Int),WK _,rfl,rfl,by omega,by omega,HT,rfl⟩
  obtain⟨j,y,hj,rfl,rfl,hy0,hy1,HG,rfl⟩:=hrel;by_cases hj0:0<j
  ·obtain⟨j,rfl⟩:∃i,j=i+1:=⟨j-1,by omega⟩;have hjl:j<rs[k].e.kids.length:=by omega
   rcases (HO.out rs[k] (WH hlt)).2.below hB1 with hnil|⟨bk,offk,hadk,hbk,hrk⟩
   ·rw[hnil]at hjl;simp at hjl
   have s4':=s4;rw[hadk]at s4';have k0:=hrk j hjl;have hji:((j+1:Nat):Int)-1=(j:Int):=by omega
   have hj1:=bY j;have hj2:(j:Int)<(rs[k].e.kids.length:Int):=by omega
   have HG2:Hid ((if y-1<0\/rs[k].e.kids[j]≠y-1 then -1 else if cO (ai rs) k (y-1)<0 then -1 else bG (cO (ai rs) k) (rs[k].e.kids.take j).reverse (cO (ai rs) k (y-1)-1))=av (ai rs) k):=by
    have:=HG.out;rw[WN hjl,List.reverse_append]at this;exact this
   rw[hji];clear HG hrk hadk s4;by_cases hy:y=0
   ·have HN:Hid (xq (ai rs)=false):=ET k YW (by rw[<-HG2.out,if_pos (Or.inl (by omega))];omega);subst hy;go_wp2;go_ret;exact⟨by rw[HN.out];rfl,hB1⟩
   obtain⟨m,rfl⟩:∃m:Nat,y=(m:Int)+1:=⟨(y-1).toNat,by omega⟩;have em:(m:Int)+1-1=(m:Int):=by omega
   by_cases hkx:rs[k].e.kids[j]=(m:Int)
   ·have hF:cO (ai rs) k ((m:Int)+1-1)=av (ai rs) m:=by rw[em];unfold cO;rw[if_pos ⟨by omega,by simp;omega⟩];simp
    have HF:Hid (cO (ai rs) k ((m:Int)+1-1)=av (ai rs) m):=hF;have hle:=iq (ai rs) m;have hge:0<=av (ai rs) m:=HGU.out m (by omega);have a0:=HAR1.out.told m (by omega);have hm1:=bY m;have hm2:(m:Int)<15:=by omega
    have ZY:Hid (bG (cO (ai rs) k) (rs[k].e.kids.take j).reverse (av (ai rs) m-1)=av (ai rs) k):=by
     show _=_;rw[<-HG2.out,if_neg (by omega),HF.out,if_neg (by omega)]
    clear hF HG2;go_wp2;go_roundw;case rel=>exact⟨j,av (ai rs) m,by omega,by go_num,rfl,hge,by omega,ZY,by first|rfl|trivial⟩
    simp[intOf]<;>omega
   have HN:Hid (xq (ai rs)=false):=ET k YW (by rw[<-HG2.out,if_pos (Or.inr (by rw[em];exact hkx))];omega);have hq:(rs[k].e.kids[j] != (m:Int))=true:=by simpa using hkx
   have hq0:((m:Int)+1==0)=false:=by simp;omega
   go_wp2;go_ret;exact⟨by rw[HN.out];rfl,hB1⟩
  obtain rfl:j=0:=by omega
  have hX:av (ai rs) k=y:=by have:=HG.out;simp[bG]at this;omega
  have HGU2:Hid (Qa (ai rs) (k+1)):=by
   intro m hm;by_cases e:m=k
   ·subst e;omega
   exact HGU.out m (by omega)
  have q0:=HAR1.out.rest k (WK _) (by omega);have qf:=HAR1.out.free;have HA2:=HAR1.out.put (k:=k) (by omega);rw[hX]at HA2;have ZK:Hid (Arr (ai rs) _ w.heap.size (k+1)):=HA2;have hB2:=hB1.setCell (p:=⟨w.heap.size,k,none⟩) (WK _) (.int .i64 y);clear HG HA2 hX;go_wp2;go_roundw;case rel=>exact⟨k+1,by omega,by go_num,HGU2,ZK,hB2⟩
  simp[intOf]<;>omega
 obtain rfl:k=rs.length:=by omega
 have a0:=HAR.out.told (rs.length-1) (by omega);have HKB:Hid (xq (ai rs)=decide (av (ai rs) (rs.length-1)=0)):=by
  show _=_;have:jq (ai rs)=true:=by
   unfold jq;rw[WT];intro j hj;have hj':j<rs.length:=by simpa[ZC.out] using hj
   simpa using HGU.out j hj'
  unfold xq;rw[this,ZC.out,Bool.true_and]
 have hcast:((rs.length:Int)-1)=((rs.length-1:Nat):Int):=by omega
 have h15:((rs.length-1:Nat):Int)<15:=by omega
 have h00:(0:Int)<=((rs.length-1:Nat):Int):=by omega
 go_wp2;go_ret;exact⟨by rw[HKB.out];exact ah (by rw[Xe];simp),hB⟩
theorem Oy{es:Q09}(h:¬(1<=es.length/\es.length<=15)):kG es=false:=by rw[<-oU];exact Ew h
theorem Lu{es:Q09}(k:Nat)(h:k<es.length)(hb:ax es[k]=false):kG es=false:=by simp[kG,DW es k h hb]
theorem rX(b off cap:Nat)(rs:Q08)(w:af)(hlen:rs.length<=1048576)(hl:∀r∈rs,r.e.light)(hf:∀r∈rs,r.e.fits)(hcp:∀r∈rs,r.e.allow.length<=r.capA)(hb:b<w.heap.size)(hr:∀(i:Nat) (h:i<rs.length),vP w b (off+i*5) rs[i])(hok:∀r∈rs,r.ok w):
  Calls prog 178 #[.slice (some ⟨b,off,none⟩) rs.length cap] w fun e w'=>e=.returned (.bool (kG (ai rs)))/\ag w w':=by
 have ZC:Hid ((ai rs).length=rs.length):=au rs;have HL:=aB hl;have HF:=aB hf;have HCP:Hid (∀r∈rs,r.e.allow.length<=r.capA):=hcp;have HR:Hid (∀(i:Nat) (h:i<rs.length),vP w b (off+i*5) rs[i]):=hr;have HO:=aB hok;clear hl hf hr hok hcp;by_cases hn:1<=rs.length/\rs.length<=15
 ·obtain⟨hn1,hn2⟩:=hn;go_enter func178,ntmps178;go_wp2_with fail;go_loopw[3,16] (fun o i wr=>∃k:Nat,k<=rs.length/\i=.int .i64 k/\o=.int .i64 (ig (ai rs) k:Nat)/\Hid (j4 (ai rs) k=true)/\ag w wr) (fun _ i _=>rs.length-(intOf i).toNat);case atStart=>exact⟨0,WO _,rfl,rfl,(by show _=_;simp[j4]),WL _ _⟩
  obtain⟨k,hk,rfl,rfl,HU,hB⟩:=hrel;by_cases hlt:k<rs.length
  ·have YW:k<(ai rs).length:=by rw[ZC.out];exact hlt
   have HEK:Hid ((ai rs)[k]=rs[k].e):=by show _=_;simp[ai]
   obtain⟨t0,t1,t2,t3,t4⟩:=(HR.out k hlt).later hb hB;have hk1:=bY k;have hk2:(k:Int)<(rs.length:Int):=by omega
   have hol:=vZ (ai rs) k;have hal:ag w (wr.alloc (.cells #[.int .i64 rs[k].e.kind,.slice rs[k].adA rs[k].e.allow.length rs[k].capA,.string rs[k].e.over,.string rs[k].e.name,.slice rs[k].adK rs[k].e.kids.length rs[k].capK] 43)):=hB.alloc hB.size _;have Yq:=aB hal;clear hal;go_wp2_with fail;refine(Lt rs[k] _ (HF.out _ (WH hlt)) (HL.out _ (WH hlt)) ((HO.out _ (WH hlt)).below Yq.out) (HCP.out _ (WH hlt))).mono ?_;rintro e w1 ⟨rfl,hb1⟩;have hB1:ag w w1:=Yq.out.trans (hb1.mono Yq.out.size);have g0:w1.cell? ⟨wr.heap.size,0,none⟩=some (.int .i64 rs[k].e.kind):=by rw[hb1.cell (p:=⟨wr.heap.size,0,none⟩) (by simp)];simp
   clear hb1 t0 t1 t2 t3 t4 Yq;cases X0:ax rs[k].e;case false=>
    have HN:Hid (kG (ai rs)=false):=Lu k YW (by rw[HEK.out];exact X0);go_wp2;go_ret;exact⟨by rw[HN.out];rfl,hB1⟩
   have HU2:Hid (j4 (ai rs) (k+1)=true):=by show _=_;rw[wh _ _ YW,HU.out,HEK.out,X0];rfl
   have HOW:Hid (ig (ai rs) (k+1)=ig (ai rs) k+(if rs[k].e.kind=1 then 1 else 0)):=by show _=_;rw[AL _ _ YW,HEK.out]
   by_cases hk1':rs[k].e.kind=1
   ·have HOW2:Hid (ig (ai rs) (k+1)=ig (ai rs) k+1):=by show _=_;rw[HOW.out,if_pos hk1']
    clear HOW;go_wp2;go_roundw;case rel=>exact⟨k+1,by omega,by go_num,by rw[HOW2.out];go_num,HU2,hB1⟩
    simp[intOf]<;>omega
   have HOW2:Hid (ig (ai rs) (k+1)=ig (ai rs) k):=by show _=_;rw[HOW.out,if_neg hk1'];rfl
   clear HOW;go_wp2;go_roundw;case rel=>exact⟨k+1,by omega,by go_num,by rw[HOW2.out],HU2,hB1⟩
   simp[intOf]<;>omega
  obtain rfl:k=rs.length:=by omega
  have HN:Hid ((ai rs).all ax=true):=by
   have:=HU.out;unfold j4 at this;rwa [<-ZC.out,Xa]at this
  have HOW:Hid (ig (ai rs) rs.length=own (ai rs)):=by show _=_;unfold ig;rw[<-ZC.out,Xa]
  have hol:=vZ (ai rs) rs.length;by_cases ho:ig (ai rs) rs.length<=1
  ·have HS:Hid (kG (ai rs)=xq (ai rs)):=by
    show _=_;have h1:own (ai rs)<=1:=by rw[<-HOW.out];exact ho
    have e1:=ZC.out;unfold kG xq;rw[e1,HN.out];simp[h1,hn1,hn2]
   go_wp2_with fail;refine(zT b off cap rs _ hn1 hn2 HL.out (WJ hb hB.size) (fun i hi=>(HR.out i hi).later hb hB) (fun r hr=>(HO.out r hr).below hB)).mono ?_;rintro e w1 ⟨rfl,hb1⟩;go_wp2;go_ret;exact⟨by rw[HS.out];rfl,hB.trans (hb1.mono hB.size)⟩
  have HS:Hid (kG (ai rs)=false):=by
   show _=_;have h1:¬own (ai rs)<=1:=by rw[<-HOW.out];exact ho
   simp[kG,h1]
  go_wp2;go_ret;exact⟨by rw[HS.out];rfl,hB⟩
 have HN:Hid (kG (ai rs)=false):=Oy (by rw[ZC.out];exact hn);go_enter func178,ntmps178;go_wp2_with fail
 all_goals go_ret
 all_goals exact⟨by rw[HN.out];rfl,WL _ _⟩
theorem rY(ad:Q02)(cap:Nat)(rs:Q08)(w:af)(hlen:rs.length<=1048576)(hl:∀r∈rs,r.e.light)(hf:∀r∈rs,r.e.fits)(hcp:∀r∈rs,r.e.allow.length<=r.capA)(hs:iw w ad rs):
  Calls prog 178 #[.slice ad rs.length cap] w fun e w'=>e=.returned (.bool (kG (ai rs)))/\ag w w':=by
 rcases hs with rfl|⟨b,off,rfl,hb,hr,hok⟩
 ·go_enter func178,ntmps178;go_wp2_with fail;go_ret;exact⟨rfl,WL _ _⟩
 exact rX b off cap rs w hlen hl hf hcp hb hr hok
end Go.Proofs.YtojjoblnpldniaaGreat
