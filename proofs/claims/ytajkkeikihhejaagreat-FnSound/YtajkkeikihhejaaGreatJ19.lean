/- Contracts of the program's looks at a schema's shape. -/
import Derived.Test.YtajkkeikihhejaaGreatSq
import Derived.Test.YtajkkeikihhejaaGreatSpecSchema11
import Derived.Test.YtajkkeikihhejaaGreatJ16
import Derived.Test.YtajkkeikihhejaaGreatJ15
import Derived.Test.YtajkkeikihhejaaGreatJ18
open Go.Proofs.Tryz
set_option maxHeartbeats 80000000
namespace Go.Proofs.YtajkkeikihhejaaGreat
open ChangeShapes WideShapes ChangeAt RowKit
open Pl
open Go.Sort
def iB(rs:Q07):Bool:=decide (rs.length<=6)&&dL (eT rs) rs.length
theorem Kz{rs:Q07}{k:Nat}(h:k<rs.length):mI (eT rs) k=(aU rs[k].name&&yF (eT rs) rs[k].name k&&aN (ak rs[k].rows)):=DY h
theorem KA{rs:Q06}{k:Nat}(h:k<rs.length):kP (ag rs) k=(aU rs[k].name&&wD (ag rs) rs[k].name k&&iB rs[k].rows):=by
 rw[DX h];unfold iB;rw[Bool.and_assoc]
set_option maxRecDepth 100000 in
theorem zh(ad:Q02)(cap:Nat)(rs:Q07)(w:af)(hlen:rs.length<=1048576)(hs:Od w ad rs)(hl:∀r∈rs,r.light)(hf:∀r∈rs,r.fits)(hcp:∀r∈rs,r.caps):
  Calls prog 182 #[.slice ad rs.length cap] w fun e w'=>e=.returned (.bool (iB rs))/\ae w w':=by
 have HS:=aD hs;have HL:=aD hl;have WE:=aD hf;have Zc:=aD hcp;clear hs hl hf hcp;have HALL:Hid (iB rs=(decide (rs.length<=6)&&dL (eT rs) rs.length)):=by show _=_;rfl
 by_cases h6:6<rs.length
 ·have HN:Hid (iB rs=false):=by show _=_;rw[HALL.out];simp;omega
  go_enter func182,ntmps182;go_wp2;go_ret;exact⟨ah HN.out.symm,Vb _ _⟩
 go_enter func182,ntmps182;go_wp2;go_loopw[10] (fun i wr=>∃k:Nat,k<=rs.length/\i=.int .i64 k/\Hid (dL (eT rs) k=true)/\Hid (ae w wr)) (fun i _=>rs.length-(intOf i).toNat);case atStart=>exact⟨0,Vf _,rfl,rfl,Vb _ _⟩
 obtain⟨k,hk,rfl,HP,HB⟩:=hrel;by_cases hlt:k<rs.length
 ·rcases HS.out.below HB.out with rfl|⟨b,off,rfl,hb,hr,hok⟩
  ·simp at hlt
  obtain⟨t0,t1⟩:=hr k hlt;have Yx:Hid (rs[k].ok wr):=hok rs[k] (U8 hlt);have z1:rs[k].name.size<=maxLen:=(WE.out _ (U8 hlt)).1;have Zd:Hid (rs[k].light):=HL.out _ (U8 hlt);have Y5:Hid (rs[k].fits):=WE.out _ (U8 hlt);have HCP:Hid (rs[k].caps):=Zc.out _ (U8 hlt);have hk1:=bC k;have hk2:(k:Int)<(rs.length:Int):=by omega
  have HTP:Hid (∀(m:Nat) (h:m<rs.length),wr.cell? ⟨b,off+m*2,none⟩=some (.string rs[m].name)):=fun m h=>(hr m h).1;have HRG:Hid (mI (eT rs) k=(aU rs[k].name&&yF (eT rs) rs[k].name k&&aN (ak rs[k].rows))):=Kz hlt;have HBAD:Hid (mI (eT rs) k=false->iB rs=false):=fun h=>by rw[HALL.out,ut _ k h _ hlt];simp
  obtain⟨W1,hW1⟩:∃W1,W1=wr.alloc (.cells #[.string rs[k].name,.slice rs[k].ad rs[k].rows.length rs[k].cap] 147):=⟨_,rfl⟩;have hal:ae wr W1:=by rw[hW1];exact(Vb _ _).alloc (Va _) _
  have WM:=aD hal;have hgl:wr.heap.size<W1.heap.size:=by rw[hW1];simp
  have g0:W1.cell? ⟨wr.heap.size,0,none⟩=some (.string rs[k].name):=by rw[hW1];simp
  have g1:W1.cell? ⟨wr.heap.size,1,none⟩=some (.slice rs[k].ad rs[k].rows.length rs[k].cap):=by rw[hW1];simp
  have hb4:b<W1.heap.size:=Nat.lt_trans hb hgl;clear hr hok;go_wp2_with fail;rw[<-hW1];clear hW1 t0 t1 hal;have q0:=cell_regrown g0;have q1:=cell_regrown g1;have XA:=qC (j6 (W:=W1) (fun W'=>aQ rs[k].name W' z1));have HCE:Hid (∀d os,Calls prog 221 #[.slice rs[k].ad rs[k].rows.length rs[k].cap] (grow (redrawn W1 d) os) fun e w''=>e=.returned (.bool (aN (ak rs[k].rows)))/\∃p:Regrown,w''=grow (redrawn W1 p.d) p.os):=by
   show ∀d os,Calls prog 221 #[.slice rs[k].ad rs[k].rows.length rs[k].cap] (grow (redrawn W1 d) os) fun e w''=>e=.returned (.bool (aN (ak rs[k].rows)))/\∃p:Regrown,w''=grow (redrawn W1 p.d) p.os;rw[rR];refine dA fun W' hb=>?_;exact Ca _ _ rs[k].rows _ Zd.out.1 Zd.out.2 Y5.out.2.2 HCP.out.2 (Yx.out.below (WM.out.trans (hb.mono WM.out.size)))
  have Xv:Hid (∀d os,ae w (grow (redrawn W1 d) os)):=fun d os=>HB.out.trans ((WM.out.mono HB.out.size).trans ((below_regrown W1 d os).mono (Vj HB.out.size WM.out.size)));cases hnm:aU rs[k].name;case false=>
   rw[hnm]at XA;have HN:Hid (iB rs=false):=HBAD.out (by rw[HRG.out];simp[hnm]);refine wp_region_quiet_below (by kernel_rfl) (by kernel_rfl) ?_
   repeat(go_big_quiet_step (exact XA.out _ _))
   refine wpQuiet_nil ?_;rintro _ ⟨⟨dq,osq⟩,rfl⟩;go_wp2;go_ret;exact⟨ah HN.out.symm,Xv.out dq osq⟩
  rw[hnm]at XA;obtain⟨ex,hex⟩:∃ex,ex=aN (ak rs[k].rows):=⟨_,rfl⟩;rw[<-hex]at HCE HRG;have fin:Hid (∀pv,yF (eT rs) rs[k].name k=pv->mI (eT rs) k=(pv&&ex)):=fun pv h=>by rw[HRG.out,hnm,h];simp
  clear hex HRG hnm;by_cases hpos:k=0
  ·have hk0:¬(0:Int)<(k:Int):=by omega
   have hk9:decide (0<k)=false:=by simp;omega
   have Yi:=qC (fin.out _ (Bp hpos));replace hpos:Hid (k=0):=hpos;refine wp_region_quiet_below (by kernel_rfl) (by kernel_rfl) ?_
   repeat(go_big_quiet_step (first|exact XA.out _ _|exact HCE.out _ _))
   refine wpQuiet_nil ?_;rintro _ ⟨⟨dq,osq⟩,rfl⟩;cases ex;case false=>
    have HN:Hid (iB rs=false):=HBAD.out (by rw[Yi.out];rfl);go_wp2;go_ret;exact⟨ah HN.out.symm,Xv.out dq osq⟩
   have Yk:Hid (dL (eT rs) (k+1)=true):=by show _=_;simp only[dL];rw[HP.out,Yi.out];rfl
   go_wp2;go_roundw;case rel=>exact⟨k+1,by omega,by go_num,Yk,Xv.out dq osq⟩
   simp[intOf]<;>omega
  obtain⟨m,hm⟩:∃m,k=m+1:=⟨k-1,by omega⟩;have Xd:m<rs.length:=by omega
  have hk0:(0:Int)<(k:Int):=by omega
  have hk9:decide (0<k)=true:=by simp;omega
  have hkm:(k:Int)-1=(m:Int):=by omega
  have hwm:IntKind.i64.wrap (m:Int)=(m:Int):=by rw[IntKind.wrap_i64];omega
  have hm1:=bC m;have hm2:(m:Int)<(rs.length:Int):=by omega
  have qm:=cell_regrown (aJ WM.out hb (HTP.out m Xd));have Yi:=qC (fin.out _ (Bn hm Xd));replace hm:Hid (k=m+1):=hm;cases hless:Op.bytesLess rs[m].name.toList rs[k].name.toList;case false=>
   have HN:Hid (iB rs=false):=HBAD.out (by rw[Yi.out];simp[jw,hless]);refine wp_region_quiet_below (by kernel_rfl) (by kernel_rfl) ?_
   repeat(go_big_quiet_step (first|exact XA.out _ _|exact HCE.out _ _))
   refine wpQuiet_nil ?_;rintro _ ⟨⟨dq,osq⟩,rfl⟩;go_wp2;go_ret;exact⟨ah HN.out.symm,Xv.out dq osq⟩
  refine wp_region_quiet_below (by kernel_rfl) (by kernel_rfl) ?_
  repeat(go_big_quiet_step (first|exact XA.out _ _|exact HCE.out _ _))
  refine wpQuiet_nil ?_;rintro _ ⟨⟨dq,osq⟩,rfl⟩;cases ex;case false=>
   have HN:Hid (iB rs=false):=HBAD.out (by rw[Yi.out];simp);go_wp2;go_ret;exact⟨ah HN.out.symm,Xv.out dq osq⟩
  have Yk:Hid (dL (eT rs) (k+1)=true):=by show _=_;simp only[dL];rw[HP.out,Yi.out];simp[jw,hless]
  go_wp2;go_roundw;case rel=>exact⟨k+1,by omega,by go_num,Yk,Xv.out dq osq⟩
  simp[intOf]<;>omega
 obtain rfl:k=rs.length:=by omega
 have HY:Hid (iB rs=true):=by show _=_;rw[HALL.out,HP.out];simp;omega
 go_wp2;go_ret;exact⟨ah HY.out.symm,HB.out⟩
set_option maxRecDepth 100000 in
theorem Ip(ad:Q02)(cap:Nat)(rs:Q06)(w:af)(hlen:rs.length<=1048576)(hs:j5 w ad rs)(hl:∀r∈rs,r.light)(hf:∀r∈rs,r.fits)(hcp:∀r∈rs,r.caps):
  Calls prog 131 #[.slice ad rs.length cap] w fun e w'=>e=.returned (.bool (bq (ag rs)))/\ae w w':=by
 have HS:=aD hs;have HL:=aD hl;have WE:=aD hf;have Zc:=aD hcp;clear hs hl hf hcp;have HALL:Hid (bq (ag rs)=(decide (rs.length<=6)&&iX (ag rs) rs.length)):=by show _=_;unfold bq;rw[lN]
 by_cases h6:6<rs.length
 ·have HN:Hid (bq (ag rs)=false):=by show _=_;rw[HALL.out];simp;omega
  go_enter func131,ntmps131;go_wp2;go_ret;exact⟨ah HN.out.symm,Vb _ _⟩
 go_enter func131,ntmps131;go_wp2;go_loopw[10] (fun i wr=>∃k:Nat,k<=rs.length/\i=.int .i64 k/\Hid (iX (ag rs) k=true)/\Hid (ae w wr)) (fun i _=>rs.length-(intOf i).toNat);case atStart=>exact⟨0,Vf _,rfl,rfl,Vb _ _⟩
 obtain⟨k,hk,rfl,HP,HB⟩:=hrel;by_cases hlt:k<rs.length
 ·rcases HS.out.below HB.out with rfl|⟨b,off,rfl,hb,hr,hok⟩
  ·simp at hlt
  obtain⟨t0,t1⟩:=hr k hlt;have Yx:Hid (rs[k].ok wr):=hok rs[k] (U8 hlt);have z1:rs[k].name.size<=maxLen:=(WE.out _ (U8 hlt)).1;have Zd:Hid (rs[k].light):=HL.out _ (U8 hlt);have Y5:Hid (rs[k].fits):=WE.out _ (U8 hlt);have HCP:Hid (rs[k].caps):=Zc.out _ (U8 hlt);have hk1:=bC k;have hk2:(k:Int)<(rs.length:Int):=by omega
  have HTP:Hid (∀(m:Nat) (h:m<rs.length),wr.cell? ⟨b,off+m*2,none⟩=some (.string rs[m].name)):=fun m h=>(hr m h).1;have HRG:Hid (kP (ag rs) k=(aU rs[k].name&&wD (ag rs) rs[k].name k&&iB rs[k].rows)):=KA hlt;have HBAD:Hid (kP (ag rs) k=false->bq (ag rs)=false):=fun h=>by rw[HALL.out,uu _ k h _ hlt];simp
  obtain⟨W1,hW1⟩:∃W1,W1=wr.alloc (.cells #[.string rs[k].name,.slice rs[k].ad rs[k].rows.length rs[k].cap] 127):=⟨_,rfl⟩;have hal:ae wr W1:=by rw[hW1];exact(Vb _ _).alloc (Va _) _
  have WM:=aD hal;have hgl:wr.heap.size<W1.heap.size:=by rw[hW1];simp
  have g0:W1.cell? ⟨wr.heap.size,0,none⟩=some (.string rs[k].name):=by rw[hW1];simp
  have g1:W1.cell? ⟨wr.heap.size,1,none⟩=some (.slice rs[k].ad rs[k].rows.length rs[k].cap):=by rw[hW1];simp
  have hb4:b<W1.heap.size:=Nat.lt_trans hb hgl;clear hr hok;go_wp2_with fail;rw[<-hW1];clear hW1 t0 t1 hal;have q0:=cell_regrown g0;have q1:=cell_regrown g1;have XA:=qC (j6 (W:=W1) (fun W'=>aQ rs[k].name W' z1));have HCE:Hid (∀d os,Calls prog 182 #[.slice rs[k].ad rs[k].rows.length rs[k].cap] (grow (redrawn W1 d) os) fun e w''=>e=.returned (.bool (iB rs[k].rows))/\∃p:Regrown,w''=grow (redrawn W1 p.d) p.os):=by
   refine dA fun W' hb=>?_;exact zh _ _ rs[k].rows _ Zd.out.1 (Yx.out.below (WM.out.trans (hb.mono WM.out.size))) Zd.out.2 Y5.out.2.2 HCP.out.2
  have Xv:Hid (∀d os,ae w (grow (redrawn W1 d) os)):=fun d os=>HB.out.trans ((WM.out.mono HB.out.size).trans ((below_regrown W1 d os).mono (Vj HB.out.size WM.out.size)));cases hnm:aU rs[k].name;case false=>
   rw[hnm]at XA;have HN:Hid (bq (ag rs)=false):=HBAD.out (by rw[HRG.out];simp[hnm]);refine wp_region_quiet_below (by kernel_rfl) (by kernel_rfl) ?_
   repeat(go_big_quiet_step (exact XA.out _ _))
   refine wpQuiet_nil ?_;rintro _ ⟨⟨dq,osq⟩,rfl⟩;go_wp2;go_ret;exact⟨ah HN.out.symm,Xv.out dq osq⟩
  rw[hnm]at XA;obtain⟨ex,hex⟩:∃ex,ex=iB rs[k].rows:=⟨_,rfl⟩;rw[<-hex]at HCE HRG;have fin:Hid (∀pv,wD (ag rs) rs[k].name k=pv->kP (ag rs) k=(pv&&ex)):=fun pv h=>by rw[HRG.out,hnm,h];simp
  clear hex HRG hnm;by_cases hpos:k=0
  ·have hk0:¬(0:Int)<(k:Int):=by omega
   have hk9:decide (0<k)=false:=by simp;omega
   have Yi:=qC (fin.out _ (Bo hpos));replace hpos:Hid (k=0):=hpos;refine wp_region_quiet_below (by kernel_rfl) (by kernel_rfl) ?_
   repeat(go_big_quiet_step (first|exact XA.out _ _|exact HCE.out _ _))
   refine wpQuiet_nil ?_;rintro _ ⟨⟨dq,osq⟩,rfl⟩;cases ex;case false=>
    have HN:Hid (bq (ag rs)=false):=HBAD.out (by rw[Yi.out];rfl);go_wp2;go_ret;exact⟨ah HN.out.symm,Xv.out dq osq⟩
   have Yk:Hid (iX (ag rs) (k+1)=true):=by show _=_;simp only[iX];rw[HP.out,Yi.out];rfl
   go_wp2;go_roundw;case rel=>exact⟨k+1,by omega,by go_num,Yk,Xv.out dq osq⟩
   simp[intOf]<;>omega
  obtain⟨m,hm⟩:∃m,k=m+1:=⟨k-1,by omega⟩;have Xd:m<rs.length:=by omega
  have hk0:(0:Int)<(k:Int):=by omega
  have hk9:decide (0<k)=true:=by simp;omega
  have hkm:(k:Int)-1=(m:Int):=by omega
  have hwm:IntKind.i64.wrap (m:Int)=(m:Int):=by rw[IntKind.wrap_i64];omega
  have hm1:=bC m;have hm2:(m:Int)<(rs.length:Int):=by omega
  have qm:=cell_regrown (aJ WM.out hb (HTP.out m Xd));have Yi:=qC (fin.out _ (Bl hm Xd));replace hm:Hid (k=m+1):=hm;cases hless:Op.bytesLess rs[m].name.toList rs[k].name.toList;case false=>
   have HN:Hid (bq (ag rs)=false):=HBAD.out (by rw[Yi.out];simp[jw,hless]);refine wp_region_quiet_below (by kernel_rfl) (by kernel_rfl) ?_
   repeat(go_big_quiet_step (first|exact XA.out _ _|exact HCE.out _ _))
   refine wpQuiet_nil ?_;rintro _ ⟨⟨dq,osq⟩,rfl⟩;go_wp2;go_ret;exact⟨ah HN.out.symm,Xv.out dq osq⟩
  refine wp_region_quiet_below (by kernel_rfl) (by kernel_rfl) ?_
  repeat(go_big_quiet_step (first|exact XA.out _ _|exact HCE.out _ _))
  refine wpQuiet_nil ?_;rintro _ ⟨⟨dq,osq⟩,rfl⟩;cases ex;case false=>
   have HN:Hid (bq (ag rs)=false):=HBAD.out (by rw[Yi.out];simp);go_wp2;go_ret;exact⟨ah HN.out.symm,Xv.out dq osq⟩
  have Yk:Hid (iX (ag rs) (k+1)=true):=by show _=_;simp only[iX];rw[HP.out,Yi.out];simp[jw,hless]
  go_wp2;go_roundw;case rel=>exact⟨k+1,by omega,by go_num,Yk,Xv.out dq osq⟩
  simp[intOf]<;>omega
 obtain rfl:k=rs.length:=by omega
 have HY:Hid (bq (ag rs)=true):=by show _=_;rw[HALL.out,HP.out];simp;omega
 go_wp2;go_ret;exact⟨ah HY.out.symm,HB.out⟩
open Maps
def Iq(ts:Q0b)(w:World)(e:Ending)(w':World):Prop :=
 ((∃(b n:Nat) (σ:Ky->Option Int),e=.returned (.tuple #[.map (some b),.bool true])/\cz ts/\aM dX prog 94 w' b n (jh σ)/\Least ts (fun k=>(σ k).getD 0)/\∀k,(∃x,σ k=some x)↔k∈au ts)\/(e=.returned (.tuple #[.map none,.bool false])/\¬cz ts))/\ae w w'
set_option maxRecDepth 100000 in
theorem wZ(ad:Q02)(cap:Nat)(rs:Q06)(w:af)(hlen:rs.length<=1048576)(hs:j5 w ad rs)(hl:∀r∈rs,r.light)(hf:∀r∈rs,r.fits)(hcp:∀r∈rs,r.caps):
  Calls prog 91 #[.slice ad rs.length cap] w (Iq (ag rs) w):=by
 have HS:=aD hs;have HL:=aD hl;have WE:=aD hf;have Zc:=aD hcp;clear hs hl hf hcp;go_enter func91,ntmps91;go_wp2_with fail;refine(Ip ad cap rs _ hlen HS.out HL.out WE.out Zc.out).mono ?_;rintro e w1 ⟨rfl,hb1⟩;have HB1:=aD hb1;clear hb1;cases hsh:bq (ag rs);case false=>
  have HP:Hid (Iq (ag rs) w (.returned (.tuple #[.map none,.bool false])) w1):=⟨.inr ⟨rfl,fun h=>by rw[h.1]at hsh;cases hsh⟩,HB1.out⟩;go_wp2;refine bodyPost_ret (v:=.tuple #[.map none,.bool false]) ?_ rfl HP.out;simp[results,Tryz.results91,go_sem]
 have HSH:Hid (bq (ag rs)=true):=hsh;obtain⟨h6,Yr,hex⟩:=bG hsh;have Yw:Hid (∀r∈rs,r.rows.length<=6):=Yr;have HEX:Hid (∀r∈rs,∀q∈r.rows,aN (ak q.rows)=true/\q.rows.length<=15/\∀e∈q.rows,eZ q.rows.length e.e.kids):=hex;have HT:Hid (Tab rs (pJ rs)):=pK hsh;clear hsh Yr hex;go_wp2_with fail;refine(yA ad cap rs _ h6 (HS.out.below HB1.out) Yw.out WE.out).mono ?_;rintro e w2 ⟨rfl,hV2,hb2⟩;have HB2:=jF HB1 hb2;obtain⟨bT,hbT⟩:∃bT,bT=w1.heap.size:=⟨_,rfl⟩;rw[<-hbT]at hV2 ⊢;have HV2:Hid (aM dX prog 94 w2 bT 36 (pJ rs)):=hV2;clear hV2 hb2 hbT HB1;go_wp2_with fail;go_loopw[16] (fun i wr=>∃k:Nat,k<=rs.length/\i=.int .i64 k/\Hid (((ag rs).take k).all (qL (ag rs))=true)/\Hid (ae w wr)/\Hid (aM dX prog 94 wr bT 36 (pJ rs))) (fun i _=>rs.length-(intOf i).toNat);case atStart=>exact⟨0,Vf _,rfl,(by show _=_;simp),HB2,HV2⟩
 clear HB2 HV2;obtain⟨k,hk,rfl,HP,HB,HV⟩:=hrel;by_cases hlt:k<rs.length
 ·rcases HS.out.below HB.out with rfl|⟨b,off,rfl,hb,hr,-⟩
  ·simp at hlt
  obtain⟨t0,t1⟩:=hr k hlt;have hk1:=bC k;have hk2:(k:Int)<(rs.length:Int):=by omega
  have h66:=Yw.out _ (U8 hlt);have z0:rs[k].name.size<=maxLen:=(WE.out _ (U8 hlt)).1;obtain⟨W1,hW1⟩:∃W1,W1=wr.alloc (.cells #[.string rs[k].name,.slice rs[k].ad rs[k].rows.length rs[k].cap] 127):=⟨_,rfl⟩;have hal:ae wr W1:=by rw[hW1];exact(Vb _ _).alloc (Va _) _
  obtain⟨g6,hg6⟩:∃g6,g6=wr.heap.size:=⟨_,rfl⟩;have XK:Hid (W1.cell? ⟨g6,0,none⟩=some (.string rs[k].name)/\g6<W1.heap.size):=⟨by rw[hW1,hg6];simp,by rw[hW1,hg6];simp⟩;have HB1:=jF HB hal;have HV1:=aD (HV.out.below hal);clear hr hal HB HV;go_wp2_with fail;rw[<-hW1,<-hg6];clear hW1 t0 t1 hg6;go_loopw[23] (fun i w3=>∃j:Nat,j<=rs[k].rows.length/\i=.int .i64 j/\Hid (((eT rs[k].rows).take j).all (fun r=>aX (ag rs) rs[k].name r.expr)=true)/\Hid (ae w w3)/\Hid (aM dX prog 94 w3 bT 36 (pJ rs))/\Hid (w3.cell? ⟨g6,0,none⟩=some (.string rs[k].name)/\g6<w3.heap.size)) (fun i _=>rs[k].rows.length-(intOf i).toNat);case atStart=>exact⟨0,Vf _,rfl,(by show _=_;simp),HB1,HV1,XK⟩
  clear HB1 HV1 XK;obtain⟨j,hj,rfl,HR,HB,HV,HC⟩:=hrel;by_cases hjl:j<rs[k].rows.length
  ·rcases HS.out.below HB.out with hnil|⟨b',off',he,hb2,hr,hok⟩
   ·rw[hnil]at hlt;simp at hlt
   injection he with he;injection he with he1 he2;subst he1;subst he2;have ok:=hok rs[k] (U8 hlt);rcases ok with hnil|⟨b2,WW,had,hbb,hr2,hok2⟩
   ·rw[hnil]at hjl;simp at hjl
   obtain⟨q0,q1⟩:=hr2 j hjl;have Yx:Hid (ik wr rs[k].rows[j].ad rs[k].rows[j].rows):=hok2 _ (U8 hjl);have Zd:Hid (rs[k].rows[j].light):=(HL.out _ (U8 hlt)).2 _ (U8 hjl);have Y5:Hid (rs[k].rows[j].fits):=(WE.out _ (U8 hlt)).2.2 _ (U8 hjl);have HNB:Hid (∀q∈rs[k].rows[j].rows,ay q.e=true):=fun q hq=>iK (HEX.out _ (U8 hlt) _ (U8 hjl)).1 q.e (by unfold ak;exact VK hq);have hj1:=bC j;have hj2:(j:Int)<(rs[k].rows.length:Int):=by omega
   obtain⟨x0,x1⟩:=HC.out;obtain⟨W3,hW3⟩:∃W3,W3=wr.alloc (.cells #[.string rs[k].rows[j].name,.slice rs[k].rows[j].ad rs[k].rows[j].rows.length rs[k].rows[j].cap] 147):=⟨_,rfl⟩;have hal:ae wr W3:=by rw[hW3];exact(Vb _ _).alloc (Va _) _
   have HB3:=jF HB hal;have HV3:=aD (HV.out.below hal);have WM:=aD hal;have Zr:Hid (W3.cell? ⟨g6,0,none⟩=some (.string rs[k].name)/\g6<W3.heap.size):=⟨aJ hal x1 x0,U9 x1 hal.size⟩;have HTS:Hid ((eT rs[k].rows).take (j+1)=(eT rs[k].rows).take j++[rs[k].rows[j].p]):=Hm rs[k].rows j hjl;rw[had];clear hr hok hr2 hok2 hal HB HV HC;go_wp2_with fail;rw[<-hW3];clear hW3 q0 q1 x0 x1;refine(Bi (some ⟨b,off,none⟩) rs[k].rows[j].ad cap rs[k].rows[j].cap rs bT 36 (pJ rs) rs[k].name rs[k].rows[j].rows _ hlen (HS.out.below HB3.out) HL.out WE.out HV3.out HT.out z0 Zd.out.1 (Yx.out.below WM.out) Zd.out.2 Y5.out.2.2 HNB.out).mono ?_;rintro e w5 ⟨rfl,hb5⟩;have XH:=jF HB3 hb5;have HV5:=aD (HV3.out.below hb5);have Zt:Hid (w5.cell? ⟨g6,0,none⟩=some (.string rs[k].name)/\g6<w5.heap.size):=⟨aJ hb5 Zr.out.2 Zr.out.1,U9 Zr.out.2 hb5.size⟩;clear hb5;cases hrf:aX (ag rs) rs[k].name (ak rs[k].rows[j].rows);case false=>
    have HPO:Hid (Iq (ag rs) w (.returned (.tuple #[.map none,.bool false])) w5):=by
     refine⟨.inr ⟨rfl,fun hs=>?_⟩,XH.out⟩;have h1:=hs.2.1;unfold iP at h1;rw[Vm]at h1;have h2:=h1 rs[k].p (by unfold ag;exact VK (U8 hlt));unfold qL at h2;rw[Vm]at h2;have h3:=h2 rs[k].rows[j].p (by show _∈eT rs[k].rows;unfold eT;exact VK (U8 hjl));have h4:aX (ag rs) rs[k].name (ak rs[k].rows[j].rows)=true:=h3;rw[hrf]at h4;cases h4
    go_wp2;refine bodyPost_ret (v:=.tuple #[.map none,.bool false]) ?_ rfl HPO.out;simp[results,Tryz.results91,go_sem]
   have Yk:Hid (((eT rs[k].rows).take (j+1)).all (fun r=>aX (ag rs) rs[k].name r.expr)=true):=by
    show _=_;rw[HTS.out,Wl,HR.out];have:aX (ag rs) rs[k].name rs[k].rows[j].p.expr=true:=hrf;simp[this]
   go_wp2;go_roundw;case rel=>exact⟨j+1,by omega,by go_num,Yk,XH,HV5,Zt⟩
   simp[intOf]<;>omega
  obtain rfl:j=rs[k].rows.length:=by omega
  have HPN:Hid (((ag rs).take (k+1)).all (qL (ag rs))=true):=by
   show _=_;rw[Hl rs k hlt,Wl,HP.out];have h1:=HR.out;rw[<-rQ,Vs]at h1;have:qL (ag rs) rs[k].p=true:=h1;simp[this]
  go_wp2;go_roundw;case rel=>exact⟨k+1,by omega,by go_num,HPN,HB,HV⟩
  simp[intOf]<;>omega
 obtain rfl:k=rs.length:=by omega
 have Zq:Hid (iP (ag rs)=true):=by
  have h1:=HP.out;rw[<-lN,Vs]at h1;exact h1
 go_wp2_with fail;refine(CJ ad cap rs bT 36 (pJ rs) _ h6 (HS.out.below HB.out) HL.out WE.out Yw.out (fun r hr q hq=>(HEX.out r hr q hq).2) (Qx HSH.out) HV.out HT.out).mono ?_;rintro e w5 ⟨rfl,⟨nL,ML,hG5⟩,hb5⟩;have XH:=jF HB hb5;have HG5:Hid (Grp w5 wr.heap.size nL ML (jD (ag rs) rs)):=hG5;clear hG5 hb5;go_wp2_with fail;refine(ze ad cap rs wr.heap.size nL ML (jD (ag rs) rs) _ h6 (HS.out.below XH.out) WE.out Yw.out HG5.out (Sd HSH.out Zq.out) (jO Zq.out) (Nw rs Yw.out HEX.out (Qx HSH.out))).mono ?_;rintro e w6 ⟨hL,hb6⟩;have Ye:=jF XH hb6;clear hb6;rcases hL with⟨bS,nS,σ,rfl,hM,X7,hk⟩|⟨rfl,hno⟩
 ·have HPO:Hid (Iq (ag rs) w (.returned (.tuple #[.map (some bS),.bool true])) w6):=⟨.inl ⟨bS,nS,σ,rfl,⟨HSH.out,Zq.out,_,X7.sol⟩,hM,X7,hk⟩,Ye.out⟩;clear hM X7 hk;go_wp2;refine bodyPost_ret (v:=.tuple #[.map (some bS),.bool true]) ?_ rfl HPO.out;simp[results,Tryz.results91,go_sem]
 have HPO:Hid (Iq (ag rs) w (.returned (.tuple #[.map none,.bool false])) w6):=⟨.inr ⟨rfl,fun h=>hno h.2.2⟩,Ye.out⟩;clear hno;go_wp2;refine bodyPost_ret (v:=.tuple #[.map none,.bool false]) ?_ rfl HPO.out;simp[results,Tryz.results91,go_sem]
def tQ(ts:Q0b)(oa ob r c d s:ByteArray):Bool:=dK (aY (aB ts oa r)) (aY (aB ts oa r)).length ⟨c,s⟩&&cO oa ob r c d s
theorem Ir:∀{es:Q09} (a:Al),own es=0->es.any (nR a)=false
 | [],_,_=>rfl
 | e::es,a,h=>by
  by_cases h1:e.kind=1
  ·simp[own,h1]at h
  rw[Wo,Ir a (by simpa[own,h1] using h)];simp[nR,h1]
theorem Iu:∀{es:Q09} (a:Al),own es<=1->es.any (nR a)=dK (aY es) (aY es).length a
 | [],_,_=>rfl
 | e::es,a,h=>by
  by_cases h1:e.kind=1
  ·rw[Wo,Ir a (by simp[own,h1]at h;simpa[own] using h)];simp[nR,h1,aY]
  rw[Wo,Iu a (by simpa[own,h1] using h)];simp[nR,h1,aY]
theorem NE{xs:Q0a}{a:Al}{k:Nat}(h:k<xs.length)(hk:ko xs[k] a=true):dK xs xs.length a=true:=by
 unfold dK;rw[Vs,VF];exact⟨_,U8 h,hk⟩
def Ev(ts:Q0b)(oa ob r c d s:ByteArray):Bool:=aK ts&&tQ ts oa ob r c d s
theorem Ud{es:Q09}(h:aN es=true):own es<=1:=by
 unfold aN at h;simp at h;omega
theorem Sm{rs:Q06}(h:cz (ag rs))(ty n:bW):own (aB (ag rs) ty n)<=1:=by
 unfold aB;cases e:eD (ag rs) ty n with
 | none=>simp[own]
 | some es =>
  obtain⟨t,ht,q,hq,-,-,rfl⟩:=qX e;exact Ud ((bG h.1).2.2 t ht q hq).1
set_option maxRecDepth 100000 in
theorem Cc(ad:Q02)(cap:Nat)(rs:Q06)(oa ob r c d s:bW)(w:af)(hlen:rs.length<=1048576)(hs:j5 w ad rs)(hl:∀r∈rs,r.light)(ha:oa.size<=maxLen)(hb:ob.size<=maxLen)(hr:r.size<=maxLen)(hc:c.size<=maxLen)(hd:d.size<=maxLen)(hz:s.size<=maxLen):
  Calls prog 94 #[.slice ad rs.length cap,.agg #[.string oa,.string ob,.string r,.string c,.string d,.string s]] w fun e w'=>e=.returned (.bool (tQ (ag rs) oa ob r c d s))/\ae w w':=by
 have HS:=aD hs;have HL:=aD hl;clear hs hl;obtain⟨W0,hW0⟩:∃W0,W0=w.alloc (.cells #[.string oa,.string ob,.string r,.string c,.string d,.string s] 46):=⟨_,rfl⟩;have hal:ae w W0:=by rw[hW0];exact(Vb _ _).alloc (Va _) _
 have HB0:=aD hal;have XC:Hid (W0.cell? ⟨w.heap.size,0,none⟩=some (.string oa)/\W0.cell? ⟨w.heap.size,1,none⟩=some (.string ob)/\W0.cell? ⟨w.heap.size,2,none⟩=some (.string r)/\W0.cell? ⟨w.heap.size,3,none⟩=some (.string c)/\W0.cell? ⟨w.heap.size,4,none⟩=some (.string d)/\W0.cell? ⟨w.heap.size,5,none⟩=some (.string s)/\w.heap.size<W0.heap.size):=by
  show _/\_;rw[hW0];refine⟨?_,?_,?_,?_,?_,?_,?_⟩<;>simp
 clear hal;go_enter func94,ntmps94;go_wp2_with fail;rw[<-hW0];clear hW0;refine(iM ad cap rs oa r _ hlen (HS.out.below HB0.out) HL.out).mono ?_;rintro e w1 ⟨⟨rows,Ws,capE,rfl,hex,hse,hfr⟩,hw1⟩;replace hw1:=hw1.symm;subst hw1;have HX:Hid (ak rows=aB (ag rs) oa r):=hex;have Yx:=aD hse;have Xl:=hfr.light HL.out;have hrl:rows.length<=1048576:=Xl.1;have Zd:Hid (∀q∈rows,q.e.light):=Xl.2;clear hex hse hfr Xl;go_wp2_with fail;refine(yj Ws capE rows _ hrl Yx.out).mono ?_;rintro e w1 ⟨⟨adA,capA,rfl,hsa,hfa⟩,hw1⟩;replace hw1:=hw1.symm;subst hw1;obtain⟨xs,hxs⟩:∃xs,xs=aY (ak rows):=⟨_,rfl⟩;rw[<-hxs]at hsa hfa ⊢;have Zz:Hid (xs=aY (aB (ag rs) oa r)):=by rw[<-HX.out];exact hxs
 have HSA:=aD hsa;have hxl:xs.length<=1048576:=by
  rcases hfa with h|⟨q,hq,h,-⟩
  ·rw[h];simp
  rw[h];exact(Zd.out q hq).1
 clear hxs hsa hfa Zd Yx HX;go_wp2;go_loopw[6] (fun i wr=>∃k:Nat,k<=xs.length/\i=.int .i64 k/\Hid (dK xs k ⟨c,s⟩=false)/\Hid (ae W0 wr)) (fun i _=>xs.length-(intOf i).toNat);case atStart=>exact⟨0,Vf _,rfl,ug _ _,Vb _ _⟩
 obtain⟨k,hk,rfl,HP,HB⟩:=hrel;have Wx:Hid (ae w wr):=HB0.out.trans (HB.out.mono HB0.out.size);by_cases hlt:k<xs.length
 ·rcases HSA.out.below HB.out with hnil|⟨b,off,rfl,hb5,hr5⟩
  ·rw[hnil]at hlt;simp at hlt
  obtain⟨t0,t1⟩:=hr5 k hlt;have hk1:=bC k;have hk2:(k:Int)<(xs.length:Int):=by omega
  have hwl:w.heap.size<wr.heap.size:=U9 XC.out.2.2.2.2.2.2 HB.out.size;have c0:=aJ HB.out XC.out.2.2.2.2.2.2 XC.out.1;have c1:=aJ HB.out XC.out.2.2.2.2.2.2 XC.out.2.1;have c2:=aJ HB.out XC.out.2.2.2.2.2.2 XC.out.2.2.1;have c3:=aJ HB.out XC.out.2.2.2.2.2.2 XC.out.2.2.2.1;have c4:=aJ HB.out XC.out.2.2.2.2.2.2 XC.out.2.2.2.2.1;have c5:=aJ HB.out XC.out.2.2.2.2.2.2 XC.out.2.2.2.2.2.1;have YS:Hid (dK xs (k+1) ⟨c,s⟩=ko xs[k] ⟨c,s⟩):=by show _=_;rw[uf _ _ _ hlt,HP.out];rfl
  clear hr5;go_wp2_with fail;cases h1:(xs[k].t.toList==c.toList);case false=>
   refine kG 19 (fun n=>(u21::u22::u23::u24::u25::u26::u27::u28::u29::u30::u31::u32::u33::u34::u35::u36::u37::u38::u39::[]).getD n undef) (fun fq=>{ tmps:=List.toArray (Value.slice ad rs.length cap::.agg #[.string oa,.string ob,.string r,.string c,.string d,.string s]::undef::.pointer (some ⟨w.heap.size,0,none⟩)::u4::.slice (some ⟨b,off,none⟩) xs.length capA::.int .i64 k::.slice ad rs.length cap::.pointer (some ⟨w.heap.size,0,none⟩)::.pointer (some ⟨w.heap.size,0,none⟩)::.string oa::.pointer (some ⟨w.heap.size,2,none⟩)::.string r::.slice Ws rows.length capE::.slice (some ⟨b,off,none⟩) xs.length capA::.int .i64 k::.slice (some ⟨b,off,none⟩) xs.length capA::.int .i64 xs.length::.bool true::u19::u20::fq 0::fq 1::fq 2::fq 3::fq 4::fq 5::fq 6::fq 7::fq 8::fq 9::fq 10::fq 11::fq 12::fq 13::fq 14::fq 15::fq 16::fq 17::fq 18::u40::u41::[]),defers:=[] }) (fun n v _=>v=(Value.slice (some ⟨b,off,none⟩) xs.length capA::.int .i64 k::.pointer (some ⟨b,off+k*2,none⟩)::.pointer (some ⟨b,off+k*2,none⟩)::.string xs[k].t::.pointer (some ⟨w.heap.size,3,none⟩)::.pointer (some ⟨w.heap.size,3,none⟩)::.string c::.bool false::.bool false::undef::undef::undef::undef::undef::undef::undef::undef::.bool false::[]).getD n undef) (fun w'=>ae wr w') (by kernel_rfl) rfl (by kernel_rfl) rfl (Vb _ _).drew ?stepA ?finA;case stepA =>
    rintro i hi o ho fq w' hG hpre;have HG:Hid (ae wr w'):=hG;replace t0:=aJ hG hb5 t0;replace t1:=aJ hG hb5 t1;replace c3:=aJ hG hwl c3;replace c5:=aJ hG hwl c5;have HM:Hid (∀e∈o.after,Region.binds .any e=true->_):=hpre;clear hG hpre;have hc:=KW (i:=i) (by omega);clear hi
    repeat' rcases hc with rfl|hc
    iterate 19
     ·cases ho;have hm:=HM.out
      try simp[Region.binds]at hm
      refine aa rfl fun K HK=>?_;clear HM
      try simp only[hm]
      go_simp;exact HK.out _ _ ⟨_,by simp[upd, *],HG.out,rfl,fun k u hu=>hu⟩
   case finA =>
    rintro fq w' hG hall;have e18:fq 18=.bool false:=hall 18 (by omega);have HG:Hid (ae wr w'):=hG;clear hall;clear hG;have HB2:Hid (ae W0 w'):=HB.out.trans (HG.out.mono HB.out.size);have WB:Hid (dK xs (k+1) ⟨c,s⟩=false):=by show _=_;rw[YS.out];simp[ko,h1]
    rw[e18];go_wp2;go_roundw;case rel=>exact⟨k+1,by omega,by go_num,WB,HB2⟩
    simp[intOf]<;>omega
  cases h2:(xs[k].s.toList==s.toList);case false=>
   refine kG 19 (fun n=>(u21::u22::u23::u24::u25::u26::u27::u28::u29::u30::u31::u32::u33::u34::u35::u36::u37::u38::u39::[]).getD n undef) (fun fq=>{ tmps:=List.toArray (Value.slice ad rs.length cap::.agg #[.string oa,.string ob,.string r,.string c,.string d,.string s]::undef::.pointer (some ⟨w.heap.size,0,none⟩)::u4::.slice (some ⟨b,off,none⟩) xs.length capA::.int .i64 k::.slice ad rs.length cap::.pointer (some ⟨w.heap.size,0,none⟩)::.pointer (some ⟨w.heap.size,0,none⟩)::.string oa::.pointer (some ⟨w.heap.size,2,none⟩)::.string r::.slice Ws rows.length capE::.slice (some ⟨b,off,none⟩) xs.length capA::.int .i64 k::.slice (some ⟨b,off,none⟩) xs.length capA::.int .i64 xs.length::.bool true::u19::u20::fq 0::fq 1::fq 2::fq 3::fq 4::fq 5::fq 6::fq 7::fq 8::fq 9::fq 10::fq 11::fq 12::fq 13::fq 14::fq 15::fq 16::fq 17::fq 18::u40::u41::[]),defers:=[] }) (fun n v _=>v=(Value.slice (some ⟨b,off,none⟩) xs.length capA::.int .i64 k::.pointer (some ⟨b,off+k*2,none⟩)::.pointer (some ⟨b,off+k*2,none⟩)::.string xs[k].t::.pointer (some ⟨w.heap.size,3,none⟩)::.pointer (some ⟨w.heap.size,3,none⟩)::.string c::.bool true::.bool true::.slice (some ⟨b,off,none⟩) xs.length capA::.int .i64 k::.pointer (some ⟨b,off+k*2,none⟩)::.pointer (some ⟨b,off+k*2+1,none⟩)::.string xs[k].s::.pointer (some ⟨w.heap.size,5,none⟩)::.string s::.bool false::.bool false::[]).getD n undef) (fun w'=>ae wr w') (by kernel_rfl) rfl (by kernel_rfl) rfl (Vb _ _).drew ?yP ?finB;case yP =>
    rintro i hi o ho fq w' hG hpre;have HG:Hid (ae wr w'):=hG;replace t0:=aJ hG hb5 t0;replace t1:=aJ hG hb5 t1;replace c3:=aJ hG hwl c3;replace c5:=aJ hG hwl c5;have HM:Hid (∀e∈o.after,Region.binds .any e=true->_):=hpre;clear hG hpre;have hc:=KW (i:=i) (by omega);clear hi
    repeat' rcases hc with rfl|hc
    iterate 19
     ·cases ho;have hm:=HM.out
      try simp[Region.binds]at hm
      refine aa rfl fun K HK=>?_;clear HM
      try simp only[hm]
      go_simp;exact HK.out _ _ ⟨_,by simp[upd, *],HG.out,rfl,fun k u hu=>hu⟩
   case finB =>
    rintro fq w' hG hall;have e18:fq 18=.bool false:=hall 18 (by omega);have HG:Hid (ae wr w'):=hG;clear hall;clear hG;have HB2:Hid (ae W0 w'):=HB.out.trans (HG.out.mono HB.out.size);have WB:Hid (dK xs (k+1) ⟨c,s⟩=false):=by show _=_;rw[YS.out];simp[ko,h1,h2]
    rw[e18];go_wp2;go_roundw;case rel=>exact⟨k+1,by omega,by go_num,WB,HB2⟩
    simp[intOf]<;>omega
  refine kG 19 (fun n=>(u21::u22::u23::u24::u25::u26::u27::u28::u29::u30::u31::u32::u33::u34::u35::u36::u37::u38::u39::[]).getD n undef) (fun fq=>{ tmps:=List.toArray (Value.slice ad rs.length cap::.agg #[.string oa,.string ob,.string r,.string c,.string d,.string s]::undef::.pointer (some ⟨w.heap.size,0,none⟩)::u4::.slice (some ⟨b,off,none⟩) xs.length capA::.int .i64 k::.slice ad rs.length cap::.pointer (some ⟨w.heap.size,0,none⟩)::.pointer (some ⟨w.heap.size,0,none⟩)::.string oa::.pointer (some ⟨w.heap.size,2,none⟩)::.string r::.slice Ws rows.length capE::.slice (some ⟨b,off,none⟩) xs.length capA::.int .i64 k::.slice (some ⟨b,off,none⟩) xs.length capA::.int .i64 xs.length::.bool true::u19::u20::fq 0::fq 1::fq 2::fq 3::fq 4::fq 5::fq 6::fq 7::fq 8::fq 9::fq 10::fq 11::fq 12::fq 13::fq 14::fq 15::fq 16::fq 17::fq 18::u40::u41::[]),defers:=[] }) (fun n v _=>v=(Value.slice (some ⟨b,off,none⟩) xs.length capA::.int .i64 k::.pointer (some ⟨b,off+k*2,none⟩)::.pointer (some ⟨b,off+k*2,none⟩)::.string xs[k].t::.pointer (some ⟨w.heap.size,3,none⟩)::.pointer (some ⟨w.heap.size,3,none⟩)::.string c::.bool true::.bool true::.slice (some ⟨b,off,none⟩) xs.length capA::.int .i64 k::.pointer (some ⟨b,off+k*2,none⟩)::.pointer (some ⟨b,off+k*2+1,none⟩)::.string xs[k].s::.pointer (some ⟨w.heap.size,5,none⟩)::.string s::.bool true::.bool true::[]).getD n undef) (fun w'=>ae wr w') (by kernel_rfl) rfl (by kernel_rfl) rfl (Vb _ _).drew ?stepC ?finC;case stepC =>
   rintro i hi o ho fq w' hG hpre;have HG:Hid (ae wr w'):=hG;replace t0:=aJ hG hb5 t0;replace t1:=aJ hG hb5 t1;replace c3:=aJ hG hwl c3;replace c5:=aJ hG hwl c5;have HM:Hid (∀e∈o.after,Region.binds .any e=true->_):=hpre;clear hG hpre;have hc:=KW (i:=i) (by omega);clear hi
   repeat' rcases hc with rfl|hc
   iterate 19
    ·cases ho;have hm:=HM.out
     try simp[Region.binds]at hm
     refine aa rfl fun K HK=>?_;clear HM
     try simp only[hm]
     go_simp;exact HK.out _ _ ⟨_,by simp[upd, *],HG.out,rfl,fun k u hu=>hu⟩
  case finC =>
   rintro fq w' hG hall;have e18:fq 18=.bool true:=hall 18 (by omega);have HG:Hid (ae wr w'):=hG;clear hall;replace c0:=aJ hG hwl c0;replace c1:=aJ hG hwl c1;replace c2:=aJ hG hwl c2;replace c3:=aJ hG hwl c3;replace c4:=aJ hG hwl c4;replace c5:=aJ hG hwl c5;clear hG;rw[e18];have HN:Hid (tQ (ag rs) oa ob r c d s=cO oa ob r c d s):=by show _=_;unfold tQ;rw[<-Zz.out,NE hlt (by simp[ko,h1,h2])];rfl
   go_wp2_with fail;refine(d9 oa ob r c d s _ ha hb hr hc hd hz).mono ?_;rintro e w2 ⟨rfl,hb2⟩;have HB2:Hid (ae w w2):=Wx.out.trans ((HG.out.mono Wx.out.size).trans (hb2.mono (Vj Wx.out.size HG.out.size)));clear hb2;go_wp2;go_ret;exact⟨by rw[HN.out];rfl,HB2.out⟩
 obtain rfl:k=xs.length:=by omega
 have HN:Hid (tQ (ag rs) oa ob r c d s=false):=by show _=_;unfold tQ;rw[<-Zz.out,HP.out];rfl
 go_wp2;go_ret;exact⟨by rw[HN.out];rfl,Wx.out⟩
end Go.Proofs.YtajkkeikihhejaaGreat
