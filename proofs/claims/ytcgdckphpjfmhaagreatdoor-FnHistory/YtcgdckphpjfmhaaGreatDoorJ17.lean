/- Contracts of the program's looks at a schema's shape. -/
import Derived.Test.YtcgdckphpjfmhaaGreatDoorSq
import Derived.Test.YtcgdckphpjfmhaaGreatDoorSpecSchema11
import Derived.Test.YtcgdckphpjfmhaaGreatDoorJ11
import Derived.Test.YtcgdckphpjfmhaaGreatDoorJ16
open Go.Proofs.Tryz
set_option maxHeartbeats 80000000
namespace Go.Proofs.YtcgdckphpjfmhaaGreatDoor
open ChangeShapes WideShapes ChangeAt RowKit
open Pl
open Go.Sort
def gZ(rs:Q07):Bool:=decide (rs.length<=6)&&dC (eu rs) rs.length
theorem JV{rs:Q07}{k:Nat}(h:k<rs.length):nA (eu rs) k=(aS rs[k].name&&xZ (eu rs) rs[k].name k&&aP (aj rs[k].rows)):=Dk h
theorem JW{rs:Q06}{k:Nat}(h:k<rs.length):kX (ag rs) k=(aS rs[k].name&&vJ (ag rs) rs[k].name k&&gZ rs[k].rows):=by
 rw[Dj h];unfold gZ;rw[Bool.and_assoc]
set_option maxRecDepth 100000 in
theorem yK(ad:Q02)(cap:Nat)(rs:Q07)(w:ae)(hlen:rs.length<=1048576)(hs:NK w ad rs)(hl:∀r∈rs,r.light)(hf:∀r∈rs,r.fits)(hcp:∀r∈rs,r.caps):
  Calls prog 171 #[.slice ad rs.length cap] w fun e w'=>e=.returned (.bool (gZ rs))/\af w w':=by
 have HS:=aC hs;have HL:=aC hl;have Xd:=aC hf;have YU:=aC hcp;clear hs hl hf hcp;have HALL:Hid (gZ rs=(decide (rs.length<=6)&&dC (eu rs) rs.length)):=by show _=_;rfl
 by_cases h6:6<rs.length
 ·have HN:Hid (gZ rs=false):=by show _=_;rw[HALL.out];simp;omega
  go_enter func171,ntmps171;go_wp2;go_ret;exact⟨ah HN.out.symm,VD _ _⟩
 go_enter func171,ntmps171;go_wp2;go_loopw[10] (fun i wr=>∃k:Nat,k<=rs.length/\i=.int .i64 k/\Hid (dC (eu rs) k=true)/\Hid (af w wr)) (fun i _=>rs.length-(intOf i).toNat);case atStart=>exact⟨0,VG _,rfl,rfl,VD _ _⟩
 obtain⟨k,hk,rfl,HP,HB⟩:=hrel;by_cases hlt:k<rs.length
 ·rcases HS.out.below HB.out with rfl|⟨b,off,rfl,hb,hr,hok⟩
  ·simp at hlt
  obtain⟨t0,t1⟩:=hr k hlt;have Zo:Hid (rs[k].ok wr):=hok rs[k] (Vz hlt);have z1:rs[k].name.size<=maxLen:=(Xd.out _ (Vz hlt)).1;have Yx:Hid (rs[k].light):=HL.out _ (Vz hlt);have Zf:Hid (rs[k].fits):=Xd.out _ (Vz hlt);have HCP:Hid (rs[k].caps):=YU.out _ (Vz hlt);have hk1:=bq k;have hk2:(k:Int)<(rs.length:Int):=by omega
  have HTP:Hid (∀(m:Nat) (h:m<rs.length),wr.cell? ⟨b,off+m*2,none⟩=some (.string rs[m].name)):=fun m h=>(hr m h).1;have HRG:Hid (nA (eu rs) k=(aS rs[k].name&&xZ (eu rs) rs[k].name k&&aP (aj rs[k].rows))):=JV hlt;have HBAD:Hid (nA (eu rs) k=false->gZ rs=false):=fun h=>by rw[HALL.out,tZ _ k h _ hlt];simp
  obtain⟨W1,hW1⟩:∃W1,W1=wr.alloc (.cells #[.string rs[k].name,.slice rs[k].ad rs[k].rows.length rs[k].cap] 149):=⟨_,rfl⟩;have hal:af wr W1:=by rw[hW1];exact(VD _ _).alloc (VC _) _
  have Xl:=aC hal;have hgl:wr.heap.size<W1.heap.size:=by rw[hW1];simp
  have g0:W1.cell? ⟨wr.heap.size,0,none⟩=some (.string rs[k].name):=by rw[hW1];simp
  have g1:W1.cell? ⟨wr.heap.size,1,none⟩=some (.slice rs[k].ad rs[k].rows.length rs[k].cap):=by rw[hW1];simp
  have hb4:b<W1.heap.size:=Nat.lt_trans hb hgl;clear hr hok;go_wp2_with fail;rw[<-hW1];clear hW1 t0 t1 hal;have q0:=cell_regrown g0;have q1:=cell_regrown g1;have XJ:=qp (jQ (W:=W1) (fun W'=>aL rs[k].name W' z1));have ZA:Hid (∀d os,Calls prog 210 #[.slice rs[k].ad rs[k].rows.length rs[k].cap] (grow (redrawn W1 d) os) fun e w''=>e=.returned (.bool (aP (aj rs[k].rows)))/\∃p:Regrown,w''=grow (redrawn W1 p.d) p.os):=by
   show ∀d os,Calls prog 210 #[.slice rs[k].ad rs[k].rows.length rs[k].cap] (grow (redrawn W1 d) os) fun e w''=>e=.returned (.bool (aP (aj rs[k].rows)))/\∃p:Regrown,w''=grow (redrawn W1 p.d) p.os;rw[wJ];refine cu fun W' hb=>?_;exact A8 _ _ rs[k].rows _ Yx.out.1 Yx.out.2 Zf.out.2.2 HCP.out.2 (Zo.out.below (Xl.out.trans (hb.mono Xl.out.size)))
  have XI:Hid (∀d os,af w (grow (redrawn W1 d) os)):=fun d os=>HB.out.trans ((Xl.out.mono HB.out.size).trans ((below_regrown W1 d os).mono (VJ HB.out.size Xl.out.size)));cases hnm:aS rs[k].name;case false=>
   rw[hnm]at XJ;have HN:Hid (gZ rs=false):=HBAD.out (by rw[HRG.out];simp[hnm]);refine wp_region_quiet_below (by kernel_rfl) (by kernel_rfl) ?_
   repeat(go_big_quiet_step (exact XJ.out _ _))
   refine wpQuiet_nil ?_;rintro _ ⟨⟨dq,osq⟩,rfl⟩;go_wp2;go_ret;exact⟨ah HN.out.symm,XI.out dq osq⟩
  rw[hnm]at XJ;obtain⟨ex,hex⟩:∃ex,ex=aP (aj rs[k].rows):=⟨_,rfl⟩;rw[<-hex]at ZA HRG;have fin:Hid (∀pv,xZ (eu rs) rs[k].name k=pv->nA (eu rs) k=(pv&&ex)):=fun pv h=>by rw[HRG.out,hnm,h];simp
  clear hex HRG hnm;by_cases hpos:k=0
  ·have hk0:¬(0:Int)<(k:Int):=by omega
   have hk9:decide (0<k)=false:=by simp;omega
   have XV:=qp (fin.out _ (AZ hpos));replace hpos:Hid (k=0):=hpos;refine wp_region_quiet_below (by kernel_rfl) (by kernel_rfl) ?_
   repeat(go_big_quiet_step (first|exact XJ.out _ _|exact ZA.out _ _))
   refine wpQuiet_nil ?_;rintro _ ⟨⟨dq,osq⟩,rfl⟩;cases ex;case false=>
    have HN:Hid (gZ rs=false):=HBAD.out (by rw[XV.out];rfl);go_wp2;go_ret;exact⟨ah HN.out.symm,XI.out dq osq⟩
   have YA:Hid (dC (eu rs) (k+1)=true):=by show _=_;simp only[dC];rw[HP.out,XV.out];rfl
   go_wp2;go_roundw;case rel=>exact⟨k+1,by omega,by go_num,YA,XI.out dq osq⟩
   simp[intOf]<;>omega
  obtain⟨m,hm⟩:∃m,k=m+1:=⟨k-1,by omega⟩;have Xu:m<rs.length:=by omega
  have hk0:(0:Int)<(k:Int):=by omega
  have hk9:decide (0<k)=true:=by simp;omega
  have hkm:(k:Int)-1=(m:Int):=by omega
  have hwm:IntKind.i64.wrap (m:Int)=(m:Int):=by rw[IntKind.wrap_i64];omega
  have hm1:=bq m;have hm2:(m:Int)<(rs.length:Int):=by omega
  have qm:=cell_regrown (aI Xl.out hb (HTP.out m Xu));have XV:=qp (fin.out _ (AX hm Xu));replace hm:Hid (k=m+1):=hm;cases hless:Op.bytesLess rs[m].name.toList rs[k].name.toList;case false=>
   have HN:Hid (gZ rs=false):=HBAD.out (by rw[XV.out];simp[jg,hless]);refine wp_region_quiet_below (by kernel_rfl) (by kernel_rfl) ?_
   repeat(go_big_quiet_step (first|exact XJ.out _ _|exact ZA.out _ _))
   refine wpQuiet_nil ?_;rintro _ ⟨⟨dq,osq⟩,rfl⟩;go_wp2;go_ret;exact⟨ah HN.out.symm,XI.out dq osq⟩
  refine wp_region_quiet_below (by kernel_rfl) (by kernel_rfl) ?_
  repeat(go_big_quiet_step (first|exact XJ.out _ _|exact ZA.out _ _))
  refine wpQuiet_nil ?_;rintro _ ⟨⟨dq,osq⟩,rfl⟩;cases ex;case false=>
   have HN:Hid (gZ rs=false):=HBAD.out (by rw[XV.out];simp);go_wp2;go_ret;exact⟨ah HN.out.symm,XI.out dq osq⟩
  have YA:Hid (dC (eu rs) (k+1)=true):=by show _=_;simp only[dC];rw[HP.out,XV.out];simp[jg,hless]
  go_wp2;go_roundw;case rel=>exact⟨k+1,by omega,by go_num,YA,XI.out dq osq⟩
  simp[intOf]<;>omega
 obtain rfl:k=rs.length:=by omega
 have HY:Hid (gZ rs=true):=by show _=_;rw[HALL.out,HP.out];simp;omega
 go_wp2;go_ret;exact⟨ah HY.out.symm,HB.out⟩
set_option maxRecDepth 100000 in
theorem G7(ad:Q02)(cap:Nat)(rs:Q06)(w:ae)(hlen:rs.length<=1048576)(hs:jP w ad rs)(hl:∀r∈rs,r.light)(hf:∀r∈rs,r.fits)(hcp:∀r∈rs,r.caps):
  Calls prog 124 #[.slice ad rs.length cap] w fun e w'=>e=.returned (.bool (bQ (ag rs)))/\af w w':=by
 have HS:=aC hs;have HL:=aC hl;have Xd:=aC hf;have YU:=aC hcp;clear hs hl hf hcp;have HALL:Hid (bQ (ag rs)=(decide (rs.length<=6)&&iM (ag rs) rs.length)):=by show _=_;unfold bQ;rw[lm]
 by_cases h6:6<rs.length
 ·have HN:Hid (bQ (ag rs)=false):=by show _=_;rw[HALL.out];simp;omega
  go_enter func124,ntmps124;go_wp2;go_ret;exact⟨ah HN.out.symm,VD _ _⟩
 go_enter func124,ntmps124;go_wp2;go_loopw[10] (fun i wr=>∃k:Nat,k<=rs.length/\i=.int .i64 k/\Hid (iM (ag rs) k=true)/\Hid (af w wr)) (fun i _=>rs.length-(intOf i).toNat);case atStart=>exact⟨0,VG _,rfl,rfl,VD _ _⟩
 obtain⟨k,hk,rfl,HP,HB⟩:=hrel;by_cases hlt:k<rs.length
 ·rcases HS.out.below HB.out with rfl|⟨b,off,rfl,hb,hr,hok⟩
  ·simp at hlt
  obtain⟨t0,t1⟩:=hr k hlt;have Zo:Hid (rs[k].ok wr):=hok rs[k] (Vz hlt);have z1:rs[k].name.size<=maxLen:=(Xd.out _ (Vz hlt)).1;have Yx:Hid (rs[k].light):=HL.out _ (Vz hlt);have Zf:Hid (rs[k].fits):=Xd.out _ (Vz hlt);have HCP:Hid (rs[k].caps):=YU.out _ (Vz hlt);have hk1:=bq k;have hk2:(k:Int)<(rs.length:Int):=by omega
  have HTP:Hid (∀(m:Nat) (h:m<rs.length),wr.cell? ⟨b,off+m*2,none⟩=some (.string rs[m].name)):=fun m h=>(hr m h).1;have HRG:Hid (kX (ag rs) k=(aS rs[k].name&&vJ (ag rs) rs[k].name k&&gZ rs[k].rows)):=JW hlt;have HBAD:Hid (kX (ag rs) k=false->bQ (ag rs)=false):=fun h=>by rw[HALL.out,uf _ k h _ hlt];simp
  obtain⟨W1,hW1⟩:∃W1,W1=wr.alloc (.cells #[.string rs[k].name,.slice rs[k].ad rs[k].rows.length rs[k].cap] 105):=⟨_,rfl⟩;have hal:af wr W1:=by rw[hW1];exact(VD _ _).alloc (VC _) _
  have Xl:=aC hal;have hgl:wr.heap.size<W1.heap.size:=by rw[hW1];simp
  have g0:W1.cell? ⟨wr.heap.size,0,none⟩=some (.string rs[k].name):=by rw[hW1];simp
  have g1:W1.cell? ⟨wr.heap.size,1,none⟩=some (.slice rs[k].ad rs[k].rows.length rs[k].cap):=by rw[hW1];simp
  have hb4:b<W1.heap.size:=Nat.lt_trans hb hgl;clear hr hok;go_wp2_with fail;rw[<-hW1];clear hW1 t0 t1 hal;have q0:=cell_regrown g0;have q1:=cell_regrown g1;have XJ:=qp (jQ (W:=W1) (fun W'=>aL rs[k].name W' z1));have ZA:Hid (∀d os,Calls prog 171 #[.slice rs[k].ad rs[k].rows.length rs[k].cap] (grow (redrawn W1 d) os) fun e w''=>e=.returned (.bool (gZ rs[k].rows))/\∃p:Regrown,w''=grow (redrawn W1 p.d) p.os):=by
   refine cu fun W' hb=>?_;exact yK _ _ rs[k].rows _ Yx.out.1 (Zo.out.below (Xl.out.trans (hb.mono Xl.out.size))) Yx.out.2 Zf.out.2.2 HCP.out.2
  have XI:Hid (∀d os,af w (grow (redrawn W1 d) os)):=fun d os=>HB.out.trans ((Xl.out.mono HB.out.size).trans ((below_regrown W1 d os).mono (VJ HB.out.size Xl.out.size)));cases hnm:aS rs[k].name;case false=>
   rw[hnm]at XJ;have HN:Hid (bQ (ag rs)=false):=HBAD.out (by rw[HRG.out];simp[hnm]);refine wp_region_quiet_below (by kernel_rfl) (by kernel_rfl) ?_
   repeat(go_big_quiet_step (exact XJ.out _ _))
   refine wpQuiet_nil ?_;rintro _ ⟨⟨dq,osq⟩,rfl⟩;go_wp2;go_ret;exact⟨ah HN.out.symm,XI.out dq osq⟩
  rw[hnm]at XJ;obtain⟨ex,hex⟩:∃ex,ex=gZ rs[k].rows:=⟨_,rfl⟩;rw[<-hex]at ZA HRG;have fin:Hid (∀pv,vJ (ag rs) rs[k].name k=pv->kX (ag rs) k=(pv&&ex)):=fun pv h=>by rw[HRG.out,hnm,h];simp
  clear hex HRG hnm;by_cases hpos:k=0
  ·have hk0:¬(0:Int)<(k:Int):=by omega
   have hk9:decide (0<k)=false:=by simp;omega
   have XV:=qp (fin.out _ (AY hpos));replace hpos:Hid (k=0):=hpos;refine wp_region_quiet_below (by kernel_rfl) (by kernel_rfl) ?_
   repeat(go_big_quiet_step (first|exact XJ.out _ _|exact ZA.out _ _))
   refine wpQuiet_nil ?_;rintro _ ⟨⟨dq,osq⟩,rfl⟩;cases ex;case false=>
    have HN:Hid (bQ (ag rs)=false):=HBAD.out (by rw[XV.out];rfl);go_wp2;go_ret;exact⟨ah HN.out.symm,XI.out dq osq⟩
   have YA:Hid (iM (ag rs) (k+1)=true):=by show _=_;simp only[iM];rw[HP.out,XV.out];rfl
   go_wp2;go_roundw;case rel=>exact⟨k+1,by omega,by go_num,YA,XI.out dq osq⟩
   simp[intOf]<;>omega
  obtain⟨m,hm⟩:∃m,k=m+1:=⟨k-1,by omega⟩;have Xu:m<rs.length:=by omega
  have hk0:(0:Int)<(k:Int):=by omega
  have hk9:decide (0<k)=true:=by simp;omega
  have hkm:(k:Int)-1=(m:Int):=by omega
  have hwm:IntKind.i64.wrap (m:Int)=(m:Int):=by rw[IntKind.wrap_i64];omega
  have hm1:=bq m;have hm2:(m:Int)<(rs.length:Int):=by omega
  have qm:=cell_regrown (aI Xl.out hb (HTP.out m Xu));have XV:=qp (fin.out _ (AV hm Xu));replace hm:Hid (k=m+1):=hm;cases hless:Op.bytesLess rs[m].name.toList rs[k].name.toList;case false=>
   have HN:Hid (bQ (ag rs)=false):=HBAD.out (by rw[XV.out];simp[jg,hless]);refine wp_region_quiet_below (by kernel_rfl) (by kernel_rfl) ?_
   repeat(go_big_quiet_step (first|exact XJ.out _ _|exact ZA.out _ _))
   refine wpQuiet_nil ?_;rintro _ ⟨⟨dq,osq⟩,rfl⟩;go_wp2;go_ret;exact⟨ah HN.out.symm,XI.out dq osq⟩
  refine wp_region_quiet_below (by kernel_rfl) (by kernel_rfl) ?_
  repeat(go_big_quiet_step (first|exact XJ.out _ _|exact ZA.out _ _))
  refine wpQuiet_nil ?_;rintro _ ⟨⟨dq,osq⟩,rfl⟩;cases ex;case false=>
   have HN:Hid (bQ (ag rs)=false):=HBAD.out (by rw[XV.out];simp);go_wp2;go_ret;exact⟨ah HN.out.symm,XI.out dq osq⟩
  have YA:Hid (iM (ag rs) (k+1)=true):=by show _=_;simp only[iM];rw[HP.out,XV.out];simp[jg,hless]
  go_wp2;go_roundw;case rel=>exact⟨k+1,by omega,by go_num,YA,XI.out dq osq⟩
  simp[intOf]<;>omega
 obtain rfl:k=rs.length:=by omega
 have HY:Hid (bQ (ag rs)=true):=by show _=_;rw[HALL.out,HP.out];simp;omega
 go_wp2;go_ret;exact⟨ah HY.out.symm,HB.out⟩
open Maps
def G8(ts:Q0b)(w:World)(e:Ending)(w':World):Prop :=
 ((∃(b n:Nat) (σ:Ky->Option Int),e=.returned (.tuple #[.map (some b),.bool true])/\bI ts/\aN dO prog 151 w' b n (iZ σ)/\Least ts (fun k=>(σ k).getD 0)/\∀k,(∃x,σ k=some x)↔k∈av ts)\/(e=.returned (.tuple #[.map none,.bool false])/\¬bI ts))/\af w w'
set_option maxRecDepth 100000 in
theorem pQ(ad:Q02)(cap:Nat)(rs:Q06)(w:ae)(hlen:rs.length<=1048576)(hs:jP w ad rs)(hl:∀r∈rs,r.light)(hf:∀r∈rs,r.fits)(hcp:∀r∈rs,r.caps):
  Calls prog 78 #[.slice ad rs.length cap] w (G8 (ag rs) w):=by
 have HS:=aC hs;have HL:=aC hl;have Xd:=aC hf;have YU:=aC hcp;clear hs hl hf hcp;go_enter func78,ntmps78;go_wp2_with fail;refine(G7 ad cap rs _ hlen HS.out HL.out Xd.out YU.out).mono ?_;rintro e w1 ⟨rfl,hb1⟩;have HB1:=aC hb1;clear hb1;cases hsh:bQ (ag rs);case false=>
  have HP:Hid (G8 (ag rs) w (.returned (.tuple #[.map none,.bool false])) w1):=⟨.inr ⟨rfl,fun h=>by rw[h.1]at hsh;cases hsh⟩,HB1.out⟩;go_wp2;refine bodyPost_ret (v:=.tuple #[.map none,.bool false]) ?_ rfl HP.out;simp[results,Tryz.results78,go_sem]
 have HSH:Hid (bQ (ag rs)=true):=hsh;obtain⟨h6,YH,hex⟩:=bu hsh;have Yv:Hid (∀r∈rs,r.rows.length<=6):=YH;have HEX:Hid (∀r∈rs,∀q∈r.rows,aP (aj q.rows)=true/\q.rows.length<=15/\∀e∈q.rows,eB q.rows.length e.e.kids):=hex;have HT:Hid (Tab rs (qg rs)):=uq hsh;clear hsh YH hex;go_wp2_with fail;refine(qV ad cap rs _ h6 (HS.out.below HB1.out) Yv.out Xd.out).mono ?_;rintro e w2 ⟨rfl,hV2,hb2⟩;have HB2:=kL HB1 hb2;obtain⟨bT,hbT⟩:∃bT,bT=w1.heap.size:=⟨_,rfl⟩;rw[<-hbT]at hV2 ⊢;have Zk:Hid (aN dO prog 151 w2 bT 36 (qg rs)):=hV2;clear hV2 hb2 hbT HB1;go_wp2_with fail;go_loopw[16] (fun i wr=>∃k:Nat,k<=rs.length/\i=.int .i64 k/\Hid (((ag rs).take k).all (qM (ag rs))=true)/\Hid (af w wr)/\Hid (aN dO prog 151 wr bT 36 (qg rs))) (fun i _=>rs.length-(intOf i).toNat);case atStart=>exact⟨0,VG _,rfl,(by show _=_;simp),HB2,Zk⟩
 clear HB2 Zk;obtain⟨k,hk,rfl,HP,HB,HV⟩:=hrel;by_cases hlt:k<rs.length
 ·rcases HS.out.below HB.out with rfl|⟨b,off,rfl,hb,hr,-⟩
  ·simp at hlt
  obtain⟨t0,t1⟩:=hr k hlt;have hk1:=bq k;have hk2:(k:Int)<(rs.length:Int):=by omega
  have h66:=Yv.out _ (Vz hlt);have z0:rs[k].name.size<=maxLen:=(Xd.out _ (Vz hlt)).1;obtain⟨W1,hW1⟩:∃W1,W1=wr.alloc (.cells #[.string rs[k].name,.slice rs[k].ad rs[k].rows.length rs[k].cap] 105):=⟨_,rfl⟩;have hal:af wr W1:=by rw[hW1];exact(VD _ _).alloc (VC _) _
  obtain⟨g6,Y4⟩:∃g6,g6=wr.heap.size:=⟨_,rfl⟩;have XL:Hid (W1.cell? ⟨g6,0,none⟩=some (.string rs[k].name)/\g6<W1.heap.size):=⟨by rw[hW1,Y4];simp,by rw[hW1,Y4];simp⟩;have HB1:=kL HB hal;have HV1:=aC (HV.out.below hal);clear hr hal HB HV;go_wp2_with fail;rw[<-hW1,<-Y4];clear hW1 t0 t1 Y4;go_loopw[23] (fun i w3=>∃j:Nat,j<=rs[k].rows.length/\i=.int .i64 j/\Hid (((eu rs[k].rows).take j).all (fun r=>aU (ag rs) rs[k].name r.expr)=true)/\Hid (af w w3)/\Hid (aN dO prog 151 w3 bT 36 (qg rs))/\Hid (w3.cell? ⟨g6,0,none⟩=some (.string rs[k].name)/\g6<w3.heap.size)) (fun i _=>rs[k].rows.length-(intOf i).toNat);case atStart=>exact⟨0,VG _,rfl,(by show _=_;simp),HB1,HV1,XL⟩
  clear HB1 HV1 XL;obtain⟨j,hj,rfl,HR,HB,HV,HC⟩:=hrel;by_cases hjl:j<rs[k].rows.length
  ·rcases HS.out.below HB.out with hnil|⟨b',off',he,hb2,hr,hok⟩
   ·rw[hnil]at hlt;simp at hlt
   injection he with he;injection he with he1 he2;subst he1;subst he2;have ok:=hok rs[k] (Vz hlt);rcases ok with hnil|⟨b2,Xr,had,hbb,hr2,hok2⟩
   ·rw[hnil]at hjl;simp at hjl
   obtain⟨q0,q1⟩:=hr2 j hjl;have Zo:Hid (jq wr rs[k].rows[j].ad rs[k].rows[j].rows):=hok2 _ (Vz hjl);have Yx:Hid (rs[k].rows[j].light):=(HL.out _ (Vz hlt)).2 _ (Vz hjl);have Zf:Hid (rs[k].rows[j].fits):=(Xd.out _ (Vz hlt)).2.2 _ (Vz hjl);have HNB:Hid (∀q∈rs[k].rows[j].rows,az q.e=true):=fun q hq=>jm (HEX.out _ (Vz hlt) _ (Vz hjl)).1 q.e (by unfold aj;exact Wd hq);have hj1:=bq j;have hj2:(j:Int)<(rs[k].rows.length:Int):=by omega
   obtain⟨x0,x1⟩:=HC.out;obtain⟨W3,hW3⟩:∃W3,W3=wr.alloc (.cells #[.string rs[k].rows[j].name,.slice rs[k].rows[j].ad rs[k].rows[j].rows.length rs[k].rows[j].cap] 149):=⟨_,rfl⟩;have hal:af wr W3:=by rw[hW3];exact(VD _ _).alloc (VC _) _
   have HB3:=kL HB hal;have HV3:=aC (HV.out.below hal);have Xl:=aC hal;have HC3:Hid (W3.cell? ⟨g6,0,none⟩=some (.string rs[k].name)/\g6<W3.heap.size):=⟨aI hal x1 x0,Vy x1 hal.size⟩;have HTS:Hid ((eu rs[k].rows).take (j+1)=(eu rs[k].rows).take j++[rs[k].rows[j].p]):=Gy rs[k].rows j hjl;rw[had];clear hr hok hr2 hok2 hal HB HV HC;go_wp2_with fail;rw[<-hW3];clear hW3 q0 q1 x0 x1;refine(Bj (some ⟨b,off,none⟩) rs[k].rows[j].ad cap rs[k].rows[j].cap rs bT 36 (qg rs) rs[k].name rs[k].rows[j].rows _ hlen (HS.out.below HB3.out) HL.out Xd.out HV3.out HT.out z0 Yx.out.1 (Zo.out.below Xl.out) Yx.out.2 Zf.out.2.2 HNB.out).mono ?_;rintro e w5 ⟨rfl,hb5⟩;have Yd:=kL HB3 hb5;have HV5:=aC (HV3.out.below hb5);have HC5:Hid (w5.cell? ⟨g6,0,none⟩=some (.string rs[k].name)/\g6<w5.heap.size):=⟨aI hb5 HC3.out.2 HC3.out.1,Vy HC3.out.2 hb5.size⟩;clear hb5;cases hrf:aU (ag rs) rs[k].name (aj rs[k].rows[j].rows);case false=>
    have HPO:Hid (G8 (ag rs) w (.returned (.tuple #[.map none,.bool false])) w5):=by
     refine⟨.inr ⟨rfl,fun hs=>?_⟩,Yd.out⟩;have h1:=hs.2.1;unfold j5 at h1;rw[VN]at h1;have h2:=h1 rs[k].p (by unfold ag;exact Wd (Vz hlt));unfold qM at h2;rw[VN]at h2;have h3:=h2 rs[k].rows[j].p (by show _∈eu rs[k].rows;unfold eu;exact Wd (Vz hjl));have h4:aU (ag rs) rs[k].name (aj rs[k].rows[j].rows)=true:=h3;rw[hrf]at h4;cases h4
    go_wp2;refine bodyPost_ret (v:=.tuple #[.map none,.bool false]) ?_ rfl HPO.out;simp[results,Tryz.results78,go_sem]
   have YA:Hid (((eu rs[k].rows).take (j+1)).all (fun r=>aU (ag rs) rs[k].name r.expr)=true):=by
    show _=_;rw[HTS.out,WK,HR.out];have:aU (ag rs) rs[k].name rs[k].rows[j].p.expr=true:=hrf;simp[this]
   go_wp2;go_roundw;case rel=>exact⟨j+1,by omega,by go_num,YA,Yd,HV5,HC5⟩
   simp[intOf]<;>omega
  obtain rfl:j=rs[k].rows.length:=by omega
  have HPN:Hid (((ag rs).take (k+1)).all (qM (ag rs))=true):=by
   show _=_;rw[Gx rs k hlt,WK,HP.out];have h1:=HR.out;rw[<-rJ,VP]at h1;have:qM (ag rs) rs[k].p=true:=h1;simp[this]
  go_wp2;go_roundw;case rel=>exact⟨k+1,by omega,by go_num,HPN,HB,HV⟩
  simp[intOf]<;>omega
 obtain rfl:k=rs.length:=by omega
 have Zx:Hid (j5 (ag rs)=true):=by
  have h1:=HP.out;rw[<-lm,VP]at h1;exact h1
 go_wp2_with fail;refine(Cc ad cap rs bT 36 (qg rs) _ h6 (HS.out.below HB.out) HL.out Xd.out Yv.out (fun r hr q hq=>(HEX.out r hr q hq).2) (Qd HSH.out) HV.out HT.out).mono ?_;rintro e w5 ⟨rfl,⟨nL,ML,hG5⟩,hb5⟩;have Yd:=kL HB hb5;have HG5:Hid (Grp w5 wr.heap.size nL ML (jk (ag rs) rs)):=hG5;clear hG5 hb5;go_wp2_with fail;refine(yJ ad cap rs wr.heap.size nL ML (jk (ag rs) rs) _ h6 (HS.out.below Yd.out) Xd.out Yv.out HG5.out (RP HSH.out Zx.out) (mi Zx.out) (MX rs Yv.out HEX.out (Qd HSH.out))).mono ?_;rintro e w6 ⟨hL,hb6⟩;have Yq:=kL Yd hb6;clear hb6;rcases hL with⟨bS,nS,σ,rfl,hM,Zp,hk⟩|⟨rfl,hno⟩
 ·have HPO:Hid (G8 (ag rs) w (.returned (.tuple #[.map (some bS),.bool true])) w6):=⟨.inl ⟨bS,nS,σ,rfl,⟨HSH.out,Zx.out,_,Zp.sol⟩,hM,Zp,hk⟩,Yq.out⟩;clear hM Zp hk;go_wp2;refine bodyPost_ret (v:=.tuple #[.map (some bS),.bool true]) ?_ rfl HPO.out;simp[results,Tryz.results78,go_sem]
 have HPO:Hid (G8 (ag rs) w (.returned (.tuple #[.map none,.bool false])) w6):=⟨.inr ⟨rfl,fun h=>hno h.2.2⟩,Yq.out⟩;clear hno;go_wp2;refine bodyPost_ret (v:=.tuple #[.map none,.bool false]) ?_ rfl HPO.out;simp[results,Tryz.results78,go_sem]
def rq(ts:Q0b)(oa ob r c d s:ByteArray):Bool:=dP (aV (aK ts oa r)) (aV (aK ts oa r)).length ⟨c,s⟩&&bF oa ob r c d s
theorem G9:∀{es:Q09} (a:Al),own es=0->es.any (nO a)=false
 | [],_,_=>rfl
 | e::es,a,h=>by
  by_cases h1:e.kind=1
  ·simp[own,h1]at h
  rw[WT,G9 a (by simpa[own,h1] using h)];simp[nO,h1]
theorem Bp:∀{es:Q09} (a:Al),own es<=1->es.any (nO a)=dP (aV es) (aV es).length a
 | [],_,_=>rfl
 | e::es,a,h=>by
  by_cases h1:e.kind=1
  ·rw[WT,G9 a (by simp[own,h1]at h;simpa[own] using h)];simp[nO,h1,aV]
  rw[WT,Bp a (by simpa[own,h1] using h)];simp[nO,h1,aV]
theorem MZ{xs:Q0a}{a:Al}{k:Nat}(h:k<xs.length)(hk:kz xs[k] a=true):dP xs xs.length a=true:=by
 unfold dP;rw[VP,WG];exact⟨_,Vz h,hk⟩
theorem Ud{es:Q09}(h:aP es=true):own es<=1:=by
 unfold aP at h;simp at h;omega
theorem KU{rs:Q06}(h:bI (ag rs))(ty n:bW):own (aK (ag rs) ty n)<=1:=by
 unfold aK;cases e:gm (ag rs) ty n with
 | none=>simp[own]
 | some es =>
  obtain⟨t,ht,q,hq,-,-,rfl⟩:=qW e;exact Ud ((bu h.1).2.2 t ht q hq).1
set_option maxRecDepth 100000 in
theorem uz(ad:Q02)(cap:Nat)(rs:Q06)(oa ob r c d s:bW)(w:ae)(hlen:rs.length<=1048576)(hs:jP w ad rs)(hl:∀r∈rs,r.light)(ha:oa.size<=maxLen)(hb:ob.size<=maxLen)(hr:r.size<=maxLen)(hc:c.size<=maxLen)(hd:d.size<=maxLen)(hz:s.size<=maxLen):
  Calls prog 110 #[.slice ad rs.length cap,.agg #[.string oa,.string ob,.string r,.string c,.string d,.string s]] w fun e w'=>e=.returned (.bool (rq (ag rs) oa ob r c d s))/\af w w':=by
 have HS:=aC hs;have HL:=aC hl;clear hs hl;obtain⟨W0,hW0⟩:∃W0,W0=w.alloc (.cells #[.string oa,.string ob,.string r,.string c,.string d,.string s] 29):=⟨_,rfl⟩;have hal:af w W0:=by rw[hW0];exact(VD _ _).alloc (VC _) _
 have HB0:=aC hal;have X9:Hid (W0.cell? ⟨w.heap.size,0,none⟩=some (.string oa)/\W0.cell? ⟨w.heap.size,1,none⟩=some (.string ob)/\W0.cell? ⟨w.heap.size,2,none⟩=some (.string r)/\W0.cell? ⟨w.heap.size,3,none⟩=some (.string c)/\W0.cell? ⟨w.heap.size,4,none⟩=some (.string d)/\W0.cell? ⟨w.heap.size,5,none⟩=some (.string s)/\w.heap.size<W0.heap.size):=by
  show _/\_;rw[hW0];refine⟨?_,?_,?_,?_,?_,?_,?_⟩<;>simp
 clear hal;go_enter func110,ntmps110;go_wp2_with fail;rw[<-hW0];clear hW0;refine(jf ad cap rs oa r _ hlen (HS.out.below HB0.out) HL.out).mono ?_;rintro e w1 ⟨⟨rows,WW,capE,rfl,hex,hse,hfr⟩,hw1⟩;replace hw1:=hw1.symm;subst hw1;have HX:Hid (aj rows=aK (ag rs) oa r):=hex;have Zo:=aC hse;have XM:=hfr.light HL.out;have hrl:rows.length<=1048576:=XM.1;have Yx:Hid (∀q∈rows,q.e.light):=XM.2;clear hex hse hfr XM;go_wp2_with fail;refine(xK WW capE rows _ hrl Zo.out).mono ?_;rintro e w1 ⟨⟨adA,capA,rfl,hsa,hfa⟩,hw1⟩;replace hw1:=hw1.symm;subst hw1;obtain⟨xs,hxs⟩:∃xs,xs=aV (aj rows):=⟨_,rfl⟩;rw[<-hxs]at hsa hfa ⊢;have ZH:Hid (xs=aV (aK (ag rs) oa r)):=by rw[<-HX.out];exact hxs
 have HSA:=aC hsa;have hxl:xs.length<=1048576:=by
  rcases hfa with h|⟨q,hq,h,-⟩
  ·rw[h];simp
  rw[h];exact(Yx.out q hq).1
 clear hxs hsa hfa Yx Zo HX;go_wp2;go_loopw[6] (fun i wr=>∃k:Nat,k<=xs.length/\i=.int .i64 k/\Hid (dP xs k ⟨c,s⟩=false)/\Hid (af W0 wr)) (fun i _=>xs.length-(intOf i).toNat);case atStart=>exact⟨0,VG _,rfl,tT _ _,VD _ _⟩
 obtain⟨k,hk,rfl,HP,HB⟩:=hrel;have WZ:Hid (af w wr):=HB0.out.trans (HB.out.mono HB0.out.size);by_cases hlt:k<xs.length
 ·rcases HSA.out.below HB.out with hnil|⟨b,off,rfl,hb5,hr5⟩
  ·rw[hnil]at hlt;simp at hlt
  obtain⟨t0,t1⟩:=hr5 k hlt;have hk1:=bq k;have hk2:(k:Int)<(xs.length:Int):=by omega
  have hwl:w.heap.size<wr.heap.size:=Vy X9.out.2.2.2.2.2.2 HB.out.size;have c0:=aI HB.out X9.out.2.2.2.2.2.2 X9.out.1;have c1:=aI HB.out X9.out.2.2.2.2.2.2 X9.out.2.1;have c2:=aI HB.out X9.out.2.2.2.2.2.2 X9.out.2.2.1;have c3:=aI HB.out X9.out.2.2.2.2.2.2 X9.out.2.2.2.1;have c4:=aI HB.out X9.out.2.2.2.2.2.2 X9.out.2.2.2.2.1;have c5:=aI HB.out X9.out.2.2.2.2.2.2 X9.out.2.2.2.2.2.1;have HSU:Hid (dP xs (k+1) ⟨c,s⟩=kz xs[k] ⟨c,s⟩):=by show _=_;rw[tQ _ _ _ hlt,HP.out];rfl
  clear hr5;go_wp2_with fail;cases h1:(xs[k].t.toList==c.toList);case false=>
   refine dR 19 _ _ (fun n v _=>v=(Value.slice (some ⟨b,off,none⟩) xs.length capA::.int .i64 k::.pointer (some ⟨b,off+k*2,none⟩)::.pointer (some ⟨b,off+k*2,none⟩)::.string xs[k].t::.pointer (some ⟨w.heap.size,3,none⟩)::.pointer (some ⟨w.heap.size,3,none⟩)::.string c::.bool false::.bool false::undef::undef::undef::undef::undef::undef::undef::undef::.bool false::[]).getD n undef) (fun w'=>af wr w') (by kernel_rfl) rfl (by kernel_rfl) (BJ [(21,[0,1,2,3,4,5,6,7,8,9,10,11,12,13,14,15,16,17,18])]) (VD _ _).drew ?stepA ?finA<;>dsimp only[yV];case stepA =>
    rintro i hi o ho fq w' hG hpre;have HG:Hid (af wr w'):=hG;replace t0:=aI hG hb5 t0;replace t1:=aI hG hb5 t1;replace c3:=aI hG hwl c3;replace c5:=aI hG hwl c5;have HM:Hid (∀e∈o.after,Region.binds .any e=true->_):=hpre;clear hG hpre;have hc:=Kv (i:=i) (by omega);clear hi
    repeat' rcases hc with rfl|hc
    iterate 19
     ·cases ho;have hm:=HM.out
      try simp[Region.binds]at hm
      refine aa rfl fun K HK=>?_;clear HM
      try simp only[hm]
      go_simp;exact HK.out _ _ ⟨_,by simp[upd, *],HG.out,rfl,fun k u hu=>hu⟩
   case finA =>
    rintro fq w' hG hall;have e18:fq 18=.bool false:=hall 18 (by omega);have HG:Hid (af wr w'):=hG;clear hall;clear hG;have HB2:Hid (af W0 w'):=HB.out.trans (HG.out.mono HB.out.size);have Xa:Hid (dP xs (k+1) ⟨c,s⟩=false):=by show _=_;rw[HSU.out];simp[kz,h1]
    rw[e18];go_wp2;go_roundw;case rel=>exact⟨k+1,by omega,by go_num,Xa,HB2⟩
    simp[intOf]<;>omega
  cases h2:(xs[k].s.toList==s.toList);case false=>
   refine dR 19 _ _ (fun n v _=>v=(Value.slice (some ⟨b,off,none⟩) xs.length capA::.int .i64 k::.pointer (some ⟨b,off+k*2,none⟩)::.pointer (some ⟨b,off+k*2,none⟩)::.string xs[k].t::.pointer (some ⟨w.heap.size,3,none⟩)::.pointer (some ⟨w.heap.size,3,none⟩)::.string c::.bool true::.bool true::.slice (some ⟨b,off,none⟩) xs.length capA::.int .i64 k::.pointer (some ⟨b,off+k*2,none⟩)::.pointer (some ⟨b,off+k*2+1,none⟩)::.string xs[k].s::.pointer (some ⟨w.heap.size,5,none⟩)::.string s::.bool false::.bool false::[]).getD n undef) (fun w'=>af wr w') (by kernel_rfl) rfl (by kernel_rfl) (BJ [(21,[0,1,2,3,4,5,6,7,8,9,10,11,12,13,14,15,16,17,18])]) (VD _ _).drew ?Dx ?finB<;>dsimp only[yV];case Dx =>
    rintro i hi o ho fq w' hG hpre;have HG:Hid (af wr w'):=hG;replace t0:=aI hG hb5 t0;replace t1:=aI hG hb5 t1;replace c3:=aI hG hwl c3;replace c5:=aI hG hwl c5;have HM:Hid (∀e∈o.after,Region.binds .any e=true->_):=hpre;clear hG hpre;have hc:=Kv (i:=i) (by omega);clear hi
    repeat' rcases hc with rfl|hc
    iterate 19
     ·cases ho;have hm:=HM.out
      try simp[Region.binds]at hm
      refine aa rfl fun K HK=>?_;clear HM
      try simp only[hm]
      go_simp;exact HK.out _ _ ⟨_,by simp[upd, *],HG.out,rfl,fun k u hu=>hu⟩
   case finB =>
    rintro fq w' hG hall;have e18:fq 18=.bool false:=hall 18 (by omega);have HG:Hid (af wr w'):=hG;clear hall;clear hG;have HB2:Hid (af W0 w'):=HB.out.trans (HG.out.mono HB.out.size);have Xa:Hid (dP xs (k+1) ⟨c,s⟩=false):=by show _=_;rw[HSU.out];simp[kz,h1,h2]
    rw[e18];go_wp2;go_roundw;case rel=>exact⟨k+1,by omega,by go_num,Xa,HB2⟩
    simp[intOf]<;>omega
  refine dR 19 _ _ (fun n v _=>v=(Value.slice (some ⟨b,off,none⟩) xs.length capA::.int .i64 k::.pointer (some ⟨b,off+k*2,none⟩)::.pointer (some ⟨b,off+k*2,none⟩)::.string xs[k].t::.pointer (some ⟨w.heap.size,3,none⟩)::.pointer (some ⟨w.heap.size,3,none⟩)::.string c::.bool true::.bool true::.slice (some ⟨b,off,none⟩) xs.length capA::.int .i64 k::.pointer (some ⟨b,off+k*2,none⟩)::.pointer (some ⟨b,off+k*2+1,none⟩)::.string xs[k].s::.pointer (some ⟨w.heap.size,5,none⟩)::.string s::.bool true::.bool true::[]).getD n undef) (fun w'=>af wr w') (by kernel_rfl) rfl (by kernel_rfl) (BJ [(21,[0,1,2,3,4,5,6,7,8,9,10,11,12,13,14,15,16,17,18])]) (VD _ _).drew ?stepC ?finC<;>dsimp only[yV];case stepC =>
   rintro i hi o ho fq w' hG hpre;have HG:Hid (af wr w'):=hG;replace t0:=aI hG hb5 t0;replace t1:=aI hG hb5 t1;replace c3:=aI hG hwl c3;replace c5:=aI hG hwl c5;have HM:Hid (∀e∈o.after,Region.binds .any e=true->_):=hpre;clear hG hpre;have hc:=Kv (i:=i) (by omega);clear hi
   repeat' rcases hc with rfl|hc
   iterate 19
    ·cases ho;have hm:=HM.out
     try simp[Region.binds]at hm
     refine aa rfl fun K HK=>?_;clear HM
     try simp only[hm]
     go_simp;exact HK.out _ _ ⟨_,by simp[upd, *],HG.out,rfl,fun k u hu=>hu⟩
  case finC =>
   rintro fq w' hG hall;have e18:fq 18=.bool true:=hall 18 (by omega);have HG:Hid (af wr w'):=hG;clear hall;replace c0:=aI hG hwl c0;replace c1:=aI hG hwl c1;replace c2:=aI hG hwl c2;replace c3:=aI hG hwl c3;replace c4:=aI hG hwl c4;replace c5:=aI hG hwl c5;clear hG;rw[e18];have HN:Hid (rq (ag rs) oa ob r c d s=bF oa ob r c d s):=by show _=_;unfold rq;rw[<-ZH.out,MZ hlt (by simp[kz,h1,h2])];rfl
   go_wp2_with fail;refine(dU oa ob r c d s _ ha hb hr hc hd hz).mono ?_;rintro e w2 ⟨rfl,hb2⟩;have HB2:Hid (af w w2):=WZ.out.trans ((HG.out.mono WZ.out.size).trans (hb2.mono (VJ WZ.out.size HG.out.size)));clear hb2;go_wp2;go_ret;exact⟨by rw[HN.out];rfl,HB2.out⟩
 obtain rfl:k=xs.length:=by omega
 have HN:Hid (rq (ag rs) oa ob r c d s=false):=by show _=_;unfold rq;rw[<-ZH.out,HP.out];rfl
 go_wp2;go_ret;exact⟨by rw[HN.out];rfl,WZ.out⟩
end Go.Proofs.YtcgdckphpjfmhaaGreatDoor
