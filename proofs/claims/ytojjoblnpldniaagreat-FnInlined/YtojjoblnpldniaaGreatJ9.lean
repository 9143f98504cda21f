/- The contract of the program's look at the allowed pairs of a node. -/
import Derived.Test.YtojjoblnpldniaaGreatSq
import Derived.Test.YtojjoblnpldniaaGreatJ5
open Go.Proofs.Tryz
set_option maxHeartbeats 80000000
set_option linter.defProp false
namespace Go.Proofs.YtojjoblnpldniaaGreat
set_option maxRecDepth 100000
open Go.Sort
open ChangeShapes WideShapes ChangeAt RowKit
open Pl
def IV(ad:Q02)(cap:Nat)(xs:Q0a)(w:af)(hlen:bh xs)(hcap:xs.length<=cap)(hf:∀a∈xs,a.fits)(hs:kV w ad xs):
  Calls prog 291 #[.slice ad xs.length cap] w (bj w<|.bool<|dF xs):=by
 have HS:=aB hs;have HF:=aB hf;clear hs hf;by_cases hl:1<=xs.length/\xs.length<=6
 ·obtain⟨hl1,hl2⟩:=hl;go_enter func291,ntmps291;go_wp2_with fail;go_loopw[15] (fun i wr=>∃k:Nat,k<=xs.length/\i=.int .i64 k/\O (FK xs k=true)/\ag w wr) (fun i _=>xs.length-(intOf i).toNat);case atStart=>exact⟨0,WO _,rfl,rfl,WL _ _⟩
  obtain⟨k,hk,rfl,HU,hB⟩:=hrel;by_cases hlt:k<xs.length
  ·rcases HS.out.below hB with rfl|⟨b,off,rfl,hb,hr⟩
   ·simp at hlt
   obtain⟨t0,t1⟩:=hr k hlt;obtain⟨z0,z1⟩:=HF xs[k]<|WH hlt;have hk1:=bY k;have hk2:(k:Int)<=(cap:Int):=cq;obtain⟨W1,hW1⟩:=eQx<|wr.alloc<|.cells #[.string xs[k].t,.string xs[k].s] 216;have hal:ag wr W1:=by rw[hW1];exact(WL _ _).alloc (WK _) _
   have hBW1:Below w.heap.size wr W1:=hal.mono hB.size;have hWs:cV w W1:=WR hB.size hal.size;have hgl:wr.heap.size<W1.heap.size:=by rw[hW1];simp
   have g0:W1.cell? (a7 wr)=some (.string xs[k].t):=by rw[hW1];simp
   have g1:W1.cell? (a8 wr 1)=some (.string xs[k].s):=by rw[hW1];simp
   have HS1:O (kV W1 (some<|aq b off) xs):=(HS.below hB).below hal;clear hr;go_wp2_with fail;rw[<-hW1];clear hW1 t0 t1 hal;have p0:=cell_regrown g0;have p1:=cell_regrown g1;have YE:O (∀d os,ag w<|grow (redrawn W1 d) os):=fun d os=>hB.trans<|hBW1.trans<|(below_regrown W1 d os).mono hWs;have YO:=oP<|kJ (W:=W1) fun W'=>aP xs[k].t W' z0;have HCS:=oP<|kJ (W:=W1) fun W'=>JZ xs[k].s W' z1
   have HCC:O (∀d os,Calls prog 149 #[.slice (some<|aq b off) k cap,.agg #[.string xs[k].t,.string xs[k].s]] (grow (redrawn W1 d) os) fun e w''=>e=.returned (.bool<|dG xs k xs[k])/\∃p:Regrown,w''=grow (redrawn W1 p.d) p.os) :=
    gm fun W' hb=>wN (some<|aq b off) k cap xs xs[k] _ hk hlen<|HS1.below hb
   cases hn:aS xs[k].t;case false=>
    have HN:O (FK xs xs.length=false):=pY xs k hlt (by simp[FJ,hn]) _ hlt;rw[hn]at YO;refine wp_region_quiet_below cw cw ?_
    repeat(go_big_quiet_step (exact YO _ _))
    refine wpQuiet_nil ?_;rintro _ ⟨⟨dq,osq⟩,rfl⟩;go_wp2;go_ret;exact⟨ah<|by simp[dF,HN.out],YE dq osq⟩
   rw[hn]at YO;cases hsb:vT xs[k].s;case false=>
    have HN:O (FK xs xs.length=false):=pY xs k hlt (by simp[FJ,hn,hsb]) _ hlt;rw[hsb]at HCS;refine wp_region_quiet_below cw cw ?_
    repeat(go_big_quiet_step (first|exact YO _ _|exact HCS _ _))
    refine wpQuiet_nil ?_;rintro _ ⟨⟨dq,osq⟩,rfl⟩;go_wp2;go_ret;exact⟨ah<|by simp[dF,HN.out],YE dq osq⟩
   rw[hsb]at HCS;obtain⟨p,hp⟩:∃p,dG xs k xs[k]=p:=⟨_,rfl⟩;rw[hp]at HCC;refine wp_region_quiet_below cw cw ?_
   repeat(go_big_quiet_step (first|exact YO _ _|exact HCS _ _|exact HCC _ _))
   refine wpQuiet_nil ?_;rintro _ ⟨⟨dq,osq⟩,rfl⟩;cases p;case true=>
    have HN:O (FK xs xs.length=false):=pY xs k hlt (by simp[hp]) _ hlt;go_wp2;go_ret;exact⟨ah<|by simp[dF,HN.out],YE dq osq⟩
   have HU2:O (FK xs (k+1)=true):=by show _=_;rw[AJ _ _ hlt,HU];simp[FJ,hn,hsb,hp]
   go_wp2;go_roundw;case rel=>exact⟨k+1,cq,cx,HU2,YE dq osq⟩
   simp[intOf]<;>omega
  obtain rfl:k=xs.length:=cq;have HAW:O (dF xs=true):=by show _=_;simp[dF,hl1,hl2,HU.out]
  go_wp2;go_ret;exact⟨by rw[HAW];rfl,hB⟩
 have HAW:O (dF xs=false):=by
  show _=_;unfold dF;by_cases h1:1<=xs.length
  ·have h2:¬xs.length<=6:=fun h2=>hl ⟨h1,h2⟩;simp[h2]
  simp[h1]
 go_enter func291,ntmps291;go_wp2_with fail
 all_goals go_ret
 all_goals exact⟨by rw[HAW];rfl,WL _ _⟩
set_option maxRecDepth 8000 in
def IW(r:ER)(w:af)(hf:r.e.fits)(hl:r.e.light)(hok:r.ok w)(hcap:r.e.allow.length<=r.capA)(h1:r.e.kind=1):
  Calls prog 250 #[r.val] w (bj w<|.bool<|ax r.e):=by
 obtain⟨⟨kind,allow,over,name,kids⟩,adA,capA,adK,capK⟩:=r;obtain⟨f1,f2,f3,f4,f5⟩:=hf;obtain⟨hA,hK⟩:=hok;obtain⟨l1,l2⟩:=hl;simp only at f1 f2 f3 f4 f5 h1 hA hK hcap l1 l2;subst h1;simp only[ER.val];unfold maxLen at f4 f5;have HB0:O (∀n,ag w<|(w.alloc<|.cells #[.int .i64 1,.slice adA allow.length capA,.string over,.string name,.slice adK kids.length capK] 43).drewN n):=fun n=>below_drewN ((WL w.heap.size w).alloc (WK _) _) n;have HA:=aB hA;have Zf:=aB f1;have HCAP:O (allow.length<=capA):=hcap;clear hA hK f1 hcap;go_enter func250,ntmps250;go_wp2_with fail;go_quiet (fail);go_wp2_with fail;refine(IV adA capA allow _ l1 HCAP Zf<|HA.below<|HB0 _).mono ?_;rintro e w1 ⟨rfl,hb1⟩;have c2:w1.cell? (a8 w 2)=some (.string over):=by rw[hb1.cell (p:=⟨w.heap.size,2,none⟩) (by show _<(w.alloc _).heap.size;simp)];show(w.alloc _).cell? _=_;simp
 have c3:w1.cell? (a8 w 3)=some (.string name):=by rw[hb1.cell (p:=⟨w.heap.size,3,none⟩) (by show _<(w.alloc _).heap.size;simp)];show(w.alloc _).cell? _=_;simp
 have HB1:O (ag w w1):=(HB0 _).trans<|hb1.mono (HB0 _).size;clear hb1 HB0;go_wp2
 all_goals go_ret
 all_goals exact⟨ah<|by first|(simp[ax, *];done)|(simp[ax, *];omega)|(simp[ax, *];rw[Xe];simp;done)|(simp[ax, *];rw[Xe];simp;omega),HB1⟩
def Lt(r:ER)(w:af)(hf:r.e.fits)(hl:r.e.light)(hok:r.ok w)(hcap:r.e.allow.length<=r.capA):
  Calls prog 250 #[r.val] w (bj w<|.bool<|ax r.e):=by
 by_cases h:r.e.kind=1
 ·exact IW r w hf hl hok hcap h
 exact Gb r w hf h
structure Arr(es:Q09)(w:World)(g k:Nat):Prop where
 lt:g<w.heap.size
 told:∀j,j<k->w.cell? ⟨g,j,none⟩=some (.int .i64<|av es j)
 rest:∀j,k<=j->j<15->w.cell? ⟨g,j,none⟩=some (.int .i64 0)
 free:∀o,w.frozen? ⟨g,o,none⟩=false
def Arr.later{es:Q09}{w w':af}{g k:Nat}(h:Arr es w g k)(hb:ag w w'):Arr es w' g k where
 lt:=WJ h.lt hb.size
 told j hj:=kept hb h.lt<|h.told j hj
 rest j h1 h2:=kept hb h.lt<|h.rest j h1 h2
 free o:=q8 hb h.lt<|h.free o
def Arr.put{es:Q09}{w:af}{g k:Nat}(h:Arr es w g k)(hk:k<15):Arr es (w.setCell (aq g k)<|.int .i64<|av es k) g (k+1) where
 lt:=by simpa using h.lt
 told j hj:=by
  by_cases e:j=k
  ·subst e;exact oL<|h.rest j (WK _) hk
  rw[iL (Ne.symm e)];exact h.told j cq
 rest j h1 h2:=by rw[iL cq];exact h.rest j cq h2
 free o:=by simpa using h.free o
def xq(es:Q09):Bool:=jq es&&decide (av es (es.length-1)=0)
def ET{es:Q09}(k:Nat)(h:k<es.length)(hb:av es k<0):xq es=false:=by
 have:jq es=false:=by
  rw[Bool.eq_false_iff];intro h2;unfold jq at h2;rw[WT]at h2;have:=h2 k (by simpa using h);simp at this;omega
 simp[xq,this]
def zT(b off cap:Nat)(rs:Q08)(w:af)(hn1:1<=rs.length)(hn2:rs.length<=15)(hl:∀r∈rs,r.e.light)(hb:cU b w)(hr:∀(i:Nat) (h:i<rs.length),vP w b (off+i*5) rs[i])(hok:∀r∈rs,r.ok w):
  Calls prog 251 #[.slice (some<|aq b off) rs.length cap] w (bj w<|.bool<|xq<|ai rs):=by
 have ZC:O ((ai rs).length=rs.length):=au rs;have HL:=aB hl;have HR:O (∀(i:Nat) (h:i<rs.length),vP w b (off+i*5) rs[i]):=hr;have HO:=aB hok;clear hl hr hok;go_enter func251,ntmps251;go_wp2_with fail;go_loopw[10] (fun i wr=>∃k:Nat,k<=rs.length/\i=.int .i64 k/\O (Qa (ai rs) k)/\O (Arr (ai rs) wr w.heap.size k)/\ag w wr) (fun i _=>rs.length-(intOf i).toNat);case atStart =>
  refine⟨0,WO _,rfl,(fun j hj=>absurd hj<|XE _),⟨ct,(fun j hj=>absurd hj<|XE _),fun j _ hj=>?_,fun o=>ct⟩,(WL _ _).alloc (WK _) _⟩;have h15:j=0\/j=1\/j=2\/j=3\/j=4\/j=5\/j=6\/j=7\/j=8\/j=9\/j=10\/j=11\/j=12\/j=13\/j=14:=cq
  rcases h15 with rfl|rfl|rfl|rfl|rfl|rfl|rfl|rfl|rfl|rfl|rfl|rfl|rfl|rfl|rfl<;>simp
 obtain⟨k,hk,rfl,HGU,HAR,hB⟩:=hrel;by_cases hlt:k<rs.length
 ·have YW:k<(ai rs).length:=by rw[ZC];exact hlt
  obtain⟨t0,t1,t2,t3,t4⟩:=(HR k hlt).later hb hB;have hk1:=bY k;have hk2:(k:Int)<(rs.length:Int):=cq;have hk3:(k:Int)<15:=cq;obtain⟨-,lk⟩:=HL rs[k]<|WH hlt;obtain⟨W1,hW1⟩:=eQx<|wr.alloc<|.cells (ce rs[k]) 43;have hal:ag wr W1:=by rw[hW1];exact(WL _ _).alloc (WK _) _
  have hB1:ag w W1:=hB.trans<|hal.mono hB.size;have HAR1:O (Arr (ai rs) W1 w.heap.size k):=HAR.later hal;have s4:W1.cell? (a8 wr 4)=some (.slice rs[k].adK rs[k].e.kids.length rs[k].capK):=by rw[hW1];simp
  have HT:O (bG (cO (ai rs) k) (rs[k].e.kids.take rs[k].e.kids.length).reverse ((k:Int)-1)=av (ai rs) k):=by
   show _=_;rw[Xa,jc (ai rs) k,qA rs k hlt]
  clear HAR;go_wp2_with fail;rw[<-hW1];clear hW1 t0 t1 t2 t3 t4 hal;go_loopw[6,7] (fun x i w2=>∃(j:Nat) (y:Int),j<=rs[k].e.kids.length/\i=.int .i64 ((j:Int)-1)/\x=.int .i64 y/\0<=y/\y<=k/\O (bG (cO (ai rs) k) (rs[k].e.kids.take j).reverse (y-1)=av (ai rs) k)/\w2=W1) (fun _ i _=>(intOf i+1).toNat);case atStart=>exact⟨rs[k].e.kids.length,(k:Int),WK _,rfl,rfl,cq,cq,HT,rfl⟩
  obtain⟨j,y,hj,rfl,rfl,hy0,hy1,HG,rfl⟩:=hrel;by_cases hj0:0<j
  ·obtain⟨j,rfl⟩:∃i,j=i+1:=⟨j-1,cq⟩;have hjl:j<rs[k].e.kids.length:=cq;rcases (HO.out rs[k]<|WH hlt).2.below hB1 with hnil|⟨bk,offk,hadk,hbk,hrk⟩
   ·rw[hnil]at hjl;simp at hjl
   have s4':=s4;rw[hadk]at s4';have k0:=hrk j hjl;have hji:((j+1:Nat):Int)-1=(j:Int):=cq;have hj1:=bY j;have hj2:(j:Int)<(rs[k].e.kids.length:Int):=cq;have HG2:O ((if y-1<0\/rs[k].e.kids[j]≠y-1 then -1 else if cO (ai rs) k (y-1)<0 then -1 else bG (cO (ai rs) k) (rs[k].e.kids.take j).reverse (cO (ai rs) k (y-1)-1))=av (ai rs) k):=by
    have:=HG.out;rw[WN hjl,List.reverse_append]at this;exact this
   rw[hji];clear HG hrk hadk s4;by_cases hy:y=0
   ·have HN:O (xq (ai rs)=false):=ET k YW (by rw[<-HG2,if_pos<|Or.inl cq];omega);subst hy;go_wp2;go_ret;exact⟨by rw[HN];rfl,hB1⟩
   obtain⟨m,rfl⟩:∃m:Nat,y=(m:Int)+1:=⟨(y-1).toNat,cq⟩;have em:(m:Int)+1-1=(m:Int):=cq;by_cases hkx:rs[k].e.kids[j]=(m:Int)
   ·have hF:cO (ai rs) k ((m:Int)+1-1)=av (ai rs) m:=by rw[em];unfold cO;rw[if_pos ⟨cq,by simp;omega⟩];simp
    have HF:O (cO (ai rs) k ((m:Int)+1-1)=av (ai rs) m):=hF;have hle:=iq (ai rs) m;have hge:0<=av (ai rs) m:=HGU m cq;have a0:=HAR1.told m cq;have hm1:=bY m;have hm2:(m:Int)<15:=cq;have ZY:O (bG (cO (ai rs) k) (rs[k].e.kids.take j).reverse (av (ai rs) m-1)=av (ai rs) k):=by
     show _=_;rw[<-HG2,if_neg cq,HF,if_neg cq]
    clear hF HG2;go_wp2;go_roundw;case rel=>exact⟨j,av (ai rs) m,cq,cx,rfl,hge,cq,ZY,by first|rfl|trivial⟩
    simp[intOf]<;>omega
   have HN:O (xq (ai rs)=false):=ET k YW (by rw[<-HG2,if_pos<|Or.inr<|by rw[em];exact hkx];omega);have hq:(rs[k].e.kids[j] != (m:Int))=true:=by simpa using hkx
   have hq0:((m:Int)+1==0)=false:=by simp;omega
   go_wp2;go_ret;exact⟨by rw[HN];rfl,hB1⟩
  obtain rfl:j=0:=cq;have hX:av (ai rs) k=y:=by have:=HG.out;simp[bG]at this;omega
  have HGU2:O (Qa (ai rs)<|k+1):=by
   intro m hm;by_cases e:m=k
   ·subst e;omega
   exact HGU m cq
  have q0:=HAR1.rest k (WK _) cq;have qf:=HAR1.free;have HA2:=HAR1.put (k:=k) cq;rw[hX]at HA2;have ZK:O (Arr (ai rs) _ w.heap.size<|k+1):=HA2;have hB2:=hB1.setCell (p:=⟨w.heap.size,k,none⟩) (WK _)<|.int .i64 y;clear HG HA2 hX;go_wp2;go_roundw;case rel=>exact⟨k+1,cq,cx,HGU2,ZK,hB2⟩
  simp[intOf]<;>omega
 obtain rfl:k=rs.length:=cq;have a0:=HAR.told (rs.length-1) cq;have HKB:O (xq (ai rs)=decide (av (ai rs) (rs.length-1)=0)):=by
  show _=_;have:jq (ai rs)=true:=by
   unfold jq;rw[WT];intro j hj;have hj':j<rs.length:=by simpa[ZC.out] using hj
   simpa using HGU.out j hj'
  unfold xq;rw[this,ZC,Bool.true_and]
 have hcast:((rs.length:Int)-1)=((rs.length-1:Nat):Int):=cq;have h15:((rs.length-1:Nat):Int)<15:=cq;have h00:(0:Int)<=((rs.length-1:Nat):Int):=cq;go_wp2;go_ret;exact⟨by rw[HKB];exact ah<|by rw[Xe];simp,hB⟩
def Oy{es:Q09}(h:¬(1<=es.length/\es.length<=15)):kG es=false:=by rw[<-oU];exact Ew h
def Lu{es:Q09}(k:Nat)(h:k<es.length)(hb:ax es[k]=false):kG es=false:=by simp[kG,DW es k h hb]
def rX(b off cap:Nat)(rs:Q08)(w:af)(hlen:bh rs)(hl:∀r∈rs,r.e.light)(hf:∀r∈rs,r.e.fits)(hcp:∀r∈rs,r.e.allow.length<=r.capA)(hb:cU b w)(hr:∀(i:Nat) (h:i<rs.length),vP w b (off+i*5) rs[i])(hok:∀r∈rs,r.ok w):
  Calls prog 178 #[.slice (some<|aq b off) rs.length cap] w (bj w<|.bool<|kG<|ai rs):=by
 have ZC:O ((ai rs).length=rs.length):=au rs;have HL:=aB hl;have HF:=aB hf;have HCP:O (∀r∈rs,r.e.allow.length<=r.capA):=hcp;have HR:O (∀(i:Nat) (h:i<rs.length),vP w b (off+i*5) rs[i]):=hr;have HO:=aB hok;clear hl hf hr hok hcp;by_cases hn:1<=rs.length/\rs.length<=15
 ·obtain⟨hn1,hn2⟩:=hn;go_enter func178,ntmps178;go_wp2_with fail;go_loopw[3,16] (fun o i wr=>∃k:Nat,k<=rs.length/\i=.int .i64 k/\o=.int .i64 (ig (ai rs) k:Nat)/\O (j4 (ai rs) k=true)/\ag w wr) (fun _ i _=>rs.length-(intOf i).toNat);case atStart=>exact⟨0,WO _,rfl,rfl,(by show _=_;simp[j4]),WL _ _⟩
  obtain⟨k,hk,rfl,rfl,HU,hB⟩:=hrel;by_cases hlt:k<rs.length
  ·have YW:k<(ai rs).length:=by rw[ZC];exact hlt
   have HEK:O ((ai rs)[k]=rs[k].e):=by show _=_;simp[ai]
   obtain⟨t0,t1,t2,t3,t4⟩:=(HR k hlt).later hb hB;have hk1:=bY k;have hk2:(k:Int)<(rs.length:Int):=cq;have hol:=vZ (ai rs) k;have hal:ag w (wr.alloc<|.cells (ce rs[k]) 43):=hB.alloc hB.size _;have Yq:=aB hal;clear hal;go_wp2_with fail;refine(Lt rs[k] _ (HF _<|WH hlt) (HL _<|WH hlt) ((HO _<|WH hlt).below Yq)<|HCP _<|WH hlt).mono ?_;rintro e w1 ⟨rfl,hb1⟩;have hB1:ag w w1:=Yq.trans<|hb1.mono Yq.size;have g0:w1.cell? (a7 wr)=some (.int .i64 rs[k].e.kind):=by rw[hb1.cell (p:=⟨wr.heap.size,0,none⟩) ct];simp
   clear hb1 t0 t1 t2 t3 t4 Yq;cases X0:ax rs[k].e;case false=>
    have HN:O (kG (ai rs)=false):=Lu k YW (by rw[HEK];exact X0);go_wp2;go_ret;exact⟨by rw[HN];rfl,hB1⟩
   have HU2:O (j4 (ai rs) (k+1)=true):=by show _=_;rw[wh _ _ YW,HU,HEK,X0];rfl
   have HOW:O (ig (ai rs) (k+1)=ig (ai rs) k+(if rs[k].e.kind=1 then 1 else 0)):=by show _=_;rw[AL _ _ YW,HEK]
   by_cases hk1':rs[k].e.kind=1
   ·have HOW2:O (ig (ai rs) (k+1)=ig (ai rs) k+1):=by show _=_;rw[HOW,if_pos hk1']
    clear HOW;go_wp2;go_roundw;case rel=>exact⟨k+1,cq,cx,by rw[HOW2];go_num,HU2,hB1⟩
    simp[intOf]<;>omega
   have HOW2:O (ig (ai rs) (k+1)=ig (ai rs) k):=by show _=_;rw[HOW,if_neg hk1'];rfl
   clear HOW;go_wp2;go_roundw;case rel=>exact⟨k+1,cq,cx,by rw[HOW2],HU2,hB1⟩
   simp[intOf]<;>omega
  obtain rfl:k=rs.length:=cq;have HN:O ((ai rs).all ax=true):=by
   have:=HU.out;unfold j4 at this;rwa [<-ZC,Xa]at this
  have HOW:O (ig (ai rs) rs.length=own (ai rs)):=by show _=_;unfold ig;rw[<-ZC,Xa]
  have hol:=vZ (ai rs) rs.length;by_cases ho:ig (ai rs) rs.length<=1
  ·have HS:O (kG (ai rs)=xq (ai rs)):=by
    show _=_;have h1:own (ai rs)<=1:=by rw[<-HOW];exact ho
    have e1:=ZC.out;unfold kG xq;rw[e1,HN];simp[h1,hn1,hn2]
   go_wp2_with fail;refine(zT b off cap rs _ hn1 hn2 HL (WJ hb hB.size) (fun i hi=>(HR i hi).later hb hB) (fun r hr=>(HO r hr).below hB)).mono ?_;rintro e w1 ⟨rfl,hb1⟩;go_wp2;go_ret;exact⟨by rw[HS];rfl,hB.trans<|hb1.mono hB.size⟩
  have HS:O (kG (ai rs)=false):=by
   show _=_;have h1:¬own (ai rs)<=1:=by rw[<-HOW];exact ho
   simp[kG,h1]
  go_wp2;go_ret;exact⟨by rw[HS];rfl,hB⟩
 have HN:O (kG (ai rs)=false):=Oy (by rw[ZC];exact hn);go_enter func178,ntmps178;go_wp2_with fail
 all_goals go_ret
 all_goals exact⟨by rw[HN];rfl,WL _ _⟩
def rY(ad:Q02)(cap:Nat)(rs:Q08)(w:af)(hlen:bh rs)(hl:∀r∈rs,r.e.light)(hf:∀r∈rs,r.e.fits)(hcp:∀r∈rs,r.e.allow.length<=r.capA)(hs:iw w ad rs):
  Calls prog 178 #[.slice ad rs.length cap] w (bj w<|.bool<|kG<|ai rs):=by
 rcases hs with rfl|⟨b,off,rfl,hb,hr,hok⟩
 ·go_enter func178,ntmps178;go_wp2_with fail;go_ret;exact⟨rfl,WL _ _⟩
 exact rX b off cap rs w hlen hl hf hcp hb hr hok
end Go.Proofs.YtojjoblnpldniaaGreat
