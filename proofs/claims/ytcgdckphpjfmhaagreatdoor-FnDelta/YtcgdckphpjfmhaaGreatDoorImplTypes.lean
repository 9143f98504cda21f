/- Contracts of the program's looks at a schema's shape. -/
import Derived.Test.YtcgdckphpjfmhaaGreatDoorSq
import Derived.Test.YtcgdckphpjfmhaaGreatDoorSpecSchema11
import Derived.Test.YtcgdckphpjfmhaaGreatDoorJ8
open Go.Proofs.Tryz
set_option maxHeartbeats 80000000
namespace Go.Proofs.YtcgdckphpjfmhaaGreatDoor
open ChangeShapes WideShapes ChangeAt RowKit
open Pl
open Go.Sort
def ig(rs:Q07):Bool:=decide (rs.length<=6)&&dE (eG rs) rs.length
theorem KM{rs:Q07}{k:Nat}(h:k<rs.length):mP (eG rs) k=(aR rs[k].name&&yK (eG rs) rs[k].name k&&aP (aj rs[k].rows)):=En h
theorem KN{rs:Q06}{k:Nat}(h:k<rs.length):kP (ag rs) k=(aR rs[k].name&&wL (ag rs) rs[k].name k&&ig rs[k].rows):=by
 rw[Em h];unfold ig;rw[Bool.and_assoc]
set_option maxRecDepth 100000 in
theorem ze(ad:Q02)(cap:Nat)(rs:Q07)(w:ae)(hlen:rs.length<=1048576)(hs:Oz w ad rs)(hl:∀r∈rs,r.light)(hf:∀r∈rs,r.fits)(hcp:∀r∈rs,r.caps):
  Calls prog 171 #[.slice ad rs.length cap] w fun e w'=>e=.returned (.bool (ig rs))/\af w w':=by
 have HS:=aC hs;have HL:=aC hl;have XC:=aC hf;have ZN:=aC hcp;clear hs hl hf hcp;have HALL:Hid (ig rs=(decide (rs.length<=6)&&dE (eG rs) rs.length)):=by show _=_;rfl
 by_cases h6:6<rs.length
 ·have HN:Hid (ig rs=false):=by show _=_;rw[HALL.out];simp;omega
  go_enter func171,ntmps171;go_wp2;go_ret;exact⟨ah HN.out.symm,V5 _ _⟩
 go_enter func171,ntmps171;go_wp2;go_loopw[10] (fun i wr=>∃k:Nat,k<=rs.length/\i=.int .i64 k/\Hid (dE (eG rs) k=true)/\Hid (af w wr)) (fun i _=>rs.length-(intOf i).toNat);case atStart=>exact⟨0,Wd _,rfl,rfl,V5 _ _⟩
 obtain⟨k,hk,rfl,HP,HB⟩:=hrel;by_cases hlt:k<rs.length
 ·rcases HS.out.below HB.out with rfl|⟨b,off,rfl,hb,hr,hok⟩
  ·simp at hlt
  obtain⟨t0,t1⟩:=hr k hlt;have ZL:Hid (rs[k].ok wr):=hok rs[k] (VZ hlt);have z1:rs[k].name.size<=maxLen:=(XC.out _ (VZ hlt)).1;have ZO:Hid (rs[k].light):=HL.out _ (VZ hlt);have ZC:Hid (rs[k].fits):=XC.out _ (VZ hlt);have HCP:Hid (rs[k].caps):=ZN.out _ (VZ hlt);have hk1:=bC k;have hk2:(k:Int)<(rs.length:Int):=by omega
  have HTP:Hid (∀(m:Nat) (h:m<rs.length),wr.cell? ⟨b,off+m*2,none⟩=some (.string rs[m].name)):=fun m h=>(hr m h).1;have HRG:Hid (mP (eG rs) k=(aR rs[k].name&&yK (eG rs) rs[k].name k&&aP (aj rs[k].rows))):=KM hlt;have HBAD:Hid (mP (eG rs) k=false->ig rs=false):=fun h=>by rw[HALL.out,uD _ k h _ hlt];simp
  obtain⟨W1,hW1⟩:∃W1,W1=wr.alloc (.cells #[.string rs[k].name,.slice rs[k].ad rs[k].rows.length rs[k].cap] 149):=⟨_,rfl⟩;have hal:af wr W1:=by rw[hW1];exact(V5 _ _).alloc (V4 _) _
  have XJ:=aC hal;have hgl:wr.heap.size<W1.heap.size:=by rw[hW1];simp
  have g0:W1.cell? ⟨wr.heap.size,0,none⟩=some (.string rs[k].name):=by rw[hW1];simp
  have g1:W1.cell? ⟨wr.heap.size,1,none⟩=some (.slice rs[k].ad rs[k].rows.length rs[k].cap):=by rw[hW1];simp
  have hb4:b<W1.heap.size:=Nat.lt_trans hb hgl;clear hr hok;go_wp2_with fail;rw[<-hW1];clear hW1 t0 t1 hal;have q0:=cell_regrown g0;have q1:=cell_regrown g1;have Yh:=ol (jV (W:=W1) (fun W'=>aO rs[k].name W' z1));have Z9:Hid (∀d os,Calls prog 210 #[.slice rs[k].ad rs[k].rows.length rs[k].cap] (grow (redrawn W1 d) os) fun e w''=>e=.returned (.bool (aP (aj rs[k].rows)))/\∃p:Regrown,w''=grow (redrawn W1 p.d) p.os):=by
   show ∀d os,Calls prog 210 #[.slice rs[k].ad rs[k].rows.length rs[k].cap] (grow (redrawn W1 d) os) fun e w''=>e=.returned (.bool (aP (aj rs[k].rows)))/\∃p:Regrown,w''=grow (redrawn W1 p.d) p.os;rw[wU];refine bq fun W' hb=>?_;exact A9 _ _ rs[k].rows _ ZO.out.1 ZO.out.2 ZC.out.2.2 HCP.out.2 (ZL.out.below (XJ.out.trans (hb.mono XJ.out.size)))
  have Yb:Hid (∀d os,af w (grow (redrawn W1 d) os)):=fun d os=>HB.out.trans ((XJ.out.mono HB.out.size).trans ((below_regrown W1 d os).mono (Wh HB.out.size XJ.out.size)));cases hnm:aR rs[k].name;case false=>
   rw[hnm]at Yh;have HN:Hid (ig rs=false):=HBAD.out (by rw[HRG.out];simp[hnm]);refine wp_region_quiet_below (by kernel_rfl) (by kernel_rfl) ?_
   repeat(go_big_quiet_step (exact Yh.out _ _))
   refine wpQuiet_nil ?_;rintro _ ⟨⟨dq,osq⟩,rfl⟩;go_wp2;go_ret;exact⟨ah HN.out.symm,Yb.out dq osq⟩
  rw[hnm]at Yh;obtain⟨ex,hex⟩:∃ex,ex=aP (aj rs[k].rows):=⟨_,rfl⟩;rw[<-hex]at Z9 HRG;have fin:Hid (∀pv,yK (eG rs) rs[k].name k=pv->mP (eG rs) k=(pv&&ex)):=fun pv h=>by rw[HRG.out,hnm,h];simp
  clear hex HRG hnm;by_cases hpos:k=0
  ·have hk0:¬(0:Int)<(k:Int):=by omega
   have hk9:decide (0<k)=false:=by simp;omega
   have YX:=ol (fin.out _ (Ca hpos));replace hpos:Hid (k=0):=hpos;refine wp_region_quiet_below (by kernel_rfl) (by kernel_rfl) ?_
   repeat(go_big_quiet_step (first|exact Yh.out _ _|exact Z9.out _ _))
   refine wpQuiet_nil ?_;rintro _ ⟨⟨dq,osq⟩,rfl⟩;cases ex;case false=>
    have HN:Hid (ig rs=false):=HBAD.out (by rw[YX.out];rfl);go_wp2;go_ret;exact⟨ah HN.out.symm,Yb.out dq osq⟩
   have Y0:Hid (dE (eG rs) (k+1)=true):=by show _=_;simp only[dE];rw[HP.out,YX.out];rfl
   go_wp2;go_roundw;case rel=>exact⟨k+1,by omega,by go_num,Y0,Yb.out dq osq⟩
   simp[intOf]<;>omega
  obtain⟨m,hm⟩:∃m,k=m+1:=⟨k-1,by omega⟩;have XQ:m<rs.length:=by omega
  have hk0:(0:Int)<(k:Int):=by omega
  have hk9:decide (0<k)=true:=by simp;omega
  have hkm:(k:Int)-1=(m:Int):=by omega
  have hwm:IntKind.i64.wrap (m:Int)=(m:Int):=by rw[IntKind.wrap_i64];omega
  have hm1:=bC m;have hm2:(m:Int)<(rs.length:Int):=by omega
  have qm:=cell_regrown (aJ XJ.out hb (HTP.out m XQ));have YX:=ol (fin.out _ (BX hm XQ));replace hm:Hid (k=m+1):=hm;cases hless:Op.bytesLess rs[m].name.toList rs[k].name.toList;case false=>
   have HN:Hid (ig rs=false):=HBAD.out (by rw[YX.out];simp[jk,hless]);refine wp_region_quiet_below (by kernel_rfl) (by kernel_rfl) ?_
   repeat(go_big_quiet_step (first|exact Yh.out _ _|exact Z9.out _ _))
   refine wpQuiet_nil ?_;rintro _ ⟨⟨dq,osq⟩,rfl⟩;go_wp2;go_ret;exact⟨ah HN.out.symm,Yb.out dq osq⟩
  refine wp_region_quiet_below (by kernel_rfl) (by kernel_rfl) ?_
  repeat(go_big_quiet_step (first|exact Yh.out _ _|exact Z9.out _ _))
  refine wpQuiet_nil ?_;rintro _ ⟨⟨dq,osq⟩,rfl⟩;cases ex;case false=>
   have HN:Hid (ig rs=false):=HBAD.out (by rw[YX.out];simp);go_wp2;go_ret;exact⟨ah HN.out.symm,Yb.out dq osq⟩
  have Y0:Hid (dE (eG rs) (k+1)=true):=by show _=_;simp only[dE];rw[HP.out,YX.out];simp[jk,hless]
  go_wp2;go_roundw;case rel=>exact⟨k+1,by omega,by go_num,Y0,Yb.out dq osq⟩
  simp[intOf]<;>omega
 obtain rfl:k=rs.length:=by omega
 have HY:Hid (ig rs=true):=by show _=_;rw[HALL.out,HP.out];simp;omega
 go_wp2;go_ret;exact⟨ah HY.out.symm,HB.out⟩
set_option maxRecDepth 100000 in
theorem Io(ad:Q02)(cap:Nat)(rs:Q06)(w:ae)(hlen:rs.length<=1048576)(hs:lc w ad rs)(hl:∀r∈rs,r.light)(hf:∀r∈rs,r.fits)(hcp:∀r∈rs,r.caps):
  Calls prog 124 #[.slice ad rs.length cap] w fun e w'=>e=.returned (.bool (bF (ag rs)))/\af w w':=by
 have HS:=aC hs;have HL:=aC hl;have XC:=aC hf;have ZN:=aC hcp;clear hs hl hf hcp;have HALL:Hid (bF (ag rs)=(decide (rs.length<=6)&&iN (ag rs) rs.length)):=by show _=_;unfold bF;rw[lN]
 by_cases h6:6<rs.length
 ·have HN:Hid (bF (ag rs)=false):=by show _=_;rw[HALL.out];simp;omega
  go_enter func124,ntmps124;go_wp2;go_ret;exact⟨ah HN.out.symm,V5 _ _⟩
 go_enter func124,ntmps124;go_wp2;go_loopw[10] (fun i wr=>∃k:Nat,k<=rs.length/\i=.int .i64 k/\Hid (iN (ag rs) k=true)/\Hid (af w wr)) (fun i _=>rs.length-(intOf i).toNat);case atStart=>exact⟨0,Wd _,rfl,rfl,V5 _ _⟩
 obtain⟨k,hk,rfl,HP,HB⟩:=hrel;by_cases hlt:k<rs.length
 ·rcases HS.out.below HB.out with rfl|⟨b,off,rfl,hb,hr,hok⟩
  ·simp at hlt
  obtain⟨t0,t1⟩:=hr k hlt;have ZL:Hid (rs[k].ok wr):=hok rs[k] (VZ hlt);have z1:rs[k].name.size<=maxLen:=(XC.out _ (VZ hlt)).1;have ZO:Hid (rs[k].light):=HL.out _ (VZ hlt);have ZC:Hid (rs[k].fits):=XC.out _ (VZ hlt);have HCP:Hid (rs[k].caps):=ZN.out _ (VZ hlt);have hk1:=bC k;have hk2:(k:Int)<(rs.length:Int):=by omega
  have HTP:Hid (∀(m:Nat) (h:m<rs.length),wr.cell? ⟨b,off+m*2,none⟩=some (.string rs[m].name)):=fun m h=>(hr m h).1;have HRG:Hid (kP (ag rs) k=(aR rs[k].name&&wL (ag rs) rs[k].name k&&ig rs[k].rows)):=KN hlt;have HBAD:Hid (kP (ag rs) k=false->bF (ag rs)=false):=fun h=>by rw[HALL.out,uE _ k h _ hlt];simp
  obtain⟨W1,hW1⟩:∃W1,W1=wr.alloc (.cells #[.string rs[k].name,.slice rs[k].ad rs[k].rows.length rs[k].cap] 105):=⟨_,rfl⟩;have hal:af wr W1:=by rw[hW1];exact(V5 _ _).alloc (V4 _) _
  have XJ:=aC hal;have hgl:wr.heap.size<W1.heap.size:=by rw[hW1];simp
  have g0:W1.cell? ⟨wr.heap.size,0,none⟩=some (.string rs[k].name):=by rw[hW1];simp
  have g1:W1.cell? ⟨wr.heap.size,1,none⟩=some (.slice rs[k].ad rs[k].rows.length rs[k].cap):=by rw[hW1];simp
  have hb4:b<W1.heap.size:=Nat.lt_trans hb hgl;clear hr hok;go_wp2_with fail;rw[<-hW1];clear hW1 t0 t1 hal;have q0:=cell_regrown g0;have q1:=cell_regrown g1;have Yh:=ol (jV (W:=W1) (fun W'=>aO rs[k].name W' z1));have Z9:Hid (∀d os,Calls prog 171 #[.slice rs[k].ad rs[k].rows.length rs[k].cap] (grow (redrawn W1 d) os) fun e w''=>e=.returned (.bool (ig rs[k].rows))/\∃p:Regrown,w''=grow (redrawn W1 p.d) p.os):=by
   refine bq fun W' hb=>?_;exact ze _ _ rs[k].rows _ ZO.out.1 (ZL.out.below (XJ.out.trans (hb.mono XJ.out.size))) ZO.out.2 ZC.out.2.2 HCP.out.2
  have Yb:Hid (∀d os,af w (grow (redrawn W1 d) os)):=fun d os=>HB.out.trans ((XJ.out.mono HB.out.size).trans ((below_regrown W1 d os).mono (Wh HB.out.size XJ.out.size)));cases hnm:aR rs[k].name;case false=>
   rw[hnm]at Yh;have HN:Hid (bF (ag rs)=false):=HBAD.out (by rw[HRG.out];simp[hnm]);refine wp_region_quiet_below (by kernel_rfl) (by kernel_rfl) ?_
   repeat(go_big_quiet_step (exact Yh.out _ _))
   refine wpQuiet_nil ?_;rintro _ ⟨⟨dq,osq⟩,rfl⟩;go_wp2;go_ret;exact⟨ah HN.out.symm,Yb.out dq osq⟩
  rw[hnm]at Yh;obtain⟨ex,hex⟩:∃ex,ex=ig rs[k].rows:=⟨_,rfl⟩;rw[<-hex]at Z9 HRG;have fin:Hid (∀pv,wL (ag rs) rs[k].name k=pv->kP (ag rs) k=(pv&&ex)):=fun pv h=>by rw[HRG.out,hnm,h];simp
  clear hex HRG hnm;by_cases hpos:k=0
  ·have hk0:¬(0:Int)<(k:Int):=by omega
   have hk9:decide (0<k)=false:=by simp;omega
   have YX:=ol (fin.out _ (BZ hpos));replace hpos:Hid (k=0):=hpos;refine wp_region_quiet_below (by kernel_rfl) (by kernel_rfl) ?_
   repeat(go_big_quiet_step (first|exact Yh.out _ _|exact Z9.out _ _))
   refine wpQuiet_nil ?_;rintro _ ⟨⟨dq,osq⟩,rfl⟩;cases ex;case false=>
    have HN:Hid (bF (ag rs)=false):=HBAD.out (by rw[YX.out];rfl);go_wp2;go_ret;exact⟨ah HN.out.symm,Yb.out dq osq⟩
   have Y0:Hid (iN (ag rs) (k+1)=true):=by show _=_;simp only[iN];rw[HP.out,YX.out];rfl
   go_wp2;go_roundw;case rel=>exact⟨k+1,by omega,by go_num,Y0,Yb.out dq osq⟩
   simp[intOf]<;>omega
  obtain⟨m,hm⟩:∃m,k=m+1:=⟨k-1,by omega⟩;have XQ:m<rs.length:=by omega
  have hk0:(0:Int)<(k:Int):=by omega
  have hk9:decide (0<k)=true:=by simp;omega
  have hkm:(k:Int)-1=(m:Int):=by omega
  have hwm:IntKind.i64.wrap (m:Int)=(m:Int):=by rw[IntKind.wrap_i64];omega
  have hm1:=bC m;have hm2:(m:Int)<(rs.length:Int):=by omega
  have qm:=cell_regrown (aJ XJ.out hb (HTP.out m XQ));have YX:=ol (fin.out _ (BV hm XQ));replace hm:Hid (k=m+1):=hm;cases hless:Op.bytesLess rs[m].name.toList rs[k].name.toList;case false=>
   have HN:Hid (bF (ag rs)=false):=HBAD.out (by rw[YX.out];simp[jk,hless]);refine wp_region_quiet_below (by kernel_rfl) (by kernel_rfl) ?_
   repeat(go_big_quiet_step (first|exact Yh.out _ _|exact Z9.out _ _))
   refine wpQuiet_nil ?_;rintro _ ⟨⟨dq,osq⟩,rfl⟩;go_wp2;go_ret;exact⟨ah HN.out.symm,Yb.out dq osq⟩
  refine wp_region_quiet_below (by kernel_rfl) (by kernel_rfl) ?_
  repeat(go_big_quiet_step (first|exact Yh.out _ _|exact Z9.out _ _))
  refine wpQuiet_nil ?_;rintro _ ⟨⟨dq,osq⟩,rfl⟩;cases ex;case false=>
   have HN:Hid (bF (ag rs)=false):=HBAD.out (by rw[YX.out];simp);go_wp2;go_ret;exact⟨ah HN.out.symm,Yb.out dq osq⟩
  have Y0:Hid (iN (ag rs) (k+1)=true):=by show _=_;simp only[iN];rw[HP.out,YX.out];simp[jk,hless]
  go_wp2;go_roundw;case rel=>exact⟨k+1,by omega,by go_num,Y0,Yb.out dq osq⟩
  simp[intOf]<;>omega
 obtain rfl:k=rs.length:=by omega
 have HY:Hid (bF (ag rs)=true):=by show _=_;rw[HALL.out,HP.out];simp;omega
 go_wp2;go_ret;exact⟨ah HY.out.symm,HB.out⟩
end Go.Proofs.YtcgdckphpjfmhaaGreatDoor
