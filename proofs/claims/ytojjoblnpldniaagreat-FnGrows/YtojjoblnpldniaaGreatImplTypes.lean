/- Contracts of the program's looks at a schema's shape. -/
import Derived.Test.YtojjoblnpldniaaGreatSq
import Derived.Test.YtojjoblnpldniaaGreatSpecSchema11
import Derived.Test.YtojjoblnpldniaaGreatJ22
open Go.Proofs.Tryz
set_option maxHeartbeats 80000000
namespace Go.Proofs.YtojjoblnpldniaaGreat
open ChangeShapes WideShapes ChangeAt RowKit
open Pl
open Go.Sort
def gT(rs:Q07):Bool:=decide (rs.length<=6)&&dJ (eQ rs) rs.length
theorem Kl{rs:Q07}{k:Nat}(h:k<rs.length):mg (eQ rs) k=(aP rs[k].name&&yo (eQ rs) rs[k].name k&&aK (aj rs[k].rows)):=DR h
theorem Km{rs:Q06}{k:Nat}(h:k<rs.length):kF (af rs) k=(aP rs[k].name&&vW (af rs) rs[k].name k&&gT rs[k].rows):=by
 rw[DN h];unfold gT;rw[Bool.and_assoc]
set_option maxRecDepth 100000 in
theorem yI(ad:Q02)(cap:Nat)(rs:Q07)(w:ae)(hlen:rs.length<=1048576)(hs:O4 w ad rs)(hl:∀r∈rs,r.light)(hf:∀r∈rs,r.fits)(hcp:∀r∈rs,r.caps):
  Calls prog 257 #[.slice ad rs.length cap] w fun e w'=>e=.returned (.bool (gT rs))/\ag w w':=by
 have HS:=aC hs;have HL:=aC hl;have WR:=aC hf;have Y3:=aC hcp;clear hs hl hf hcp;have Z9:Hid (gT rs=(decide (rs.length<=6)&&dJ (eQ rs) rs.length)):=by show _=_;rfl
 by_cases h6:6<rs.length
 ·have HN:Hid (gT rs=false):=by show _=_;rw[Z9.out];simp;omega
  go_enter func257,ntmps257;go_wp2;go_ret;exact⟨ah HN.out.symm,Vs _ _⟩
 go_enter func257,ntmps257;go_wp2;go_loopw[10] (fun i wr=>∃k:Nat,k<=rs.length/\i=.int .i64 k/\Hid (dJ (eQ rs) k=true)/\Hid (ag w wr)) (fun i _=>rs.length-(intOf i).toNat);case atStart=>exact⟨0,Vv _,rfl,rfl,Vs _ _⟩
 obtain⟨k,hk,rfl,HP,HB⟩:=hrel;by_cases hlt:k<rs.length
 ·rcases HS.out.below HB.out with rfl|⟨b,off,rfl,hb,hr,hok⟩
  ·simp at hlt
  obtain⟨t0,t1⟩:=hr k hlt;have Y5:Hid (rs[k].ok wr):=hok rs[k] (Vp hlt);have z1:rs[k].name.size<=maxLen:=(WR.out _ (Vp hlt)).1;have Y4:Hid (rs[k].light):=HL.out _ (Vp hlt);have YO:Hid (rs[k].fits):=WR.out _ (Vp hlt);have HCP:Hid (rs[k].caps):=Y3.out _ (Vp hlt);have hk1:=bC k;have hk2:(k:Int)<(rs.length:Int):=by omega
  have HTP:Hid (∀(m:Nat) (h:m<rs.length),wr.cell? ⟨b,off+m*2,none⟩=some (.string rs[m].name)):=fun m h=>(hr m h).1;have HRG:Hid (mg (eQ rs) k=(aP rs[k].name&&yo (eQ rs) rs[k].name k&&aK (aj rs[k].rows))):=Kl hlt;have HBAD:Hid (mg (eQ rs) k=false->gT rs=false):=fun h=>by rw[Z9.out,uk _ k h _ hlt];simp
  obtain⟨W1,hW1⟩:∃W1,W1=wr.alloc (.cells #[.string rs[k].name,.slice rs[k].ad rs[k].rows.length rs[k].cap] 39):=⟨_,rfl⟩;have hal:ag wr W1:=by rw[hW1];exact(Vs _ _).alloc (Vr _) _
  have WX:=aC hal;have hgl:wr.heap.size<W1.heap.size:=by rw[hW1];simp
  have g0:W1.cell? ⟨wr.heap.size,0,none⟩=some (.string rs[k].name):=by rw[hW1];simp
  have g1:W1.cell? ⟨wr.heap.size,1,none⟩=some (.slice rs[k].ad rs[k].rows.length rs[k].cap):=by rw[hW1];simp
  have hb4:b<W1.heap.size:=Nat.lt_trans hb hgl;clear hr hok;go_wp2_with fail;rw[<-hW1];clear hW1 t0 t1 hal;have q0:=cell_regrown g0;have q1:=cell_regrown g1;have Xy:=nE (jT (W:=W1) (fun W'=>aL rs[k].name W' z1));have HCE:Hid (∀d os,Calls prog 178 #[.slice rs[k].ad rs[k].rows.length rs[k].cap] (grow (redrawn W1 d) os) fun e w''=>e=.returned (.bool (aK (aj rs[k].rows)))/\∃p:Regrown,w''=grow (redrawn W1 p.d) p.os):=by
   show ∀d os,Calls prog 178 #[.slice rs[k].ad rs[k].rows.length rs[k].cap] (grow (redrawn W1 d) os) fun e w''=>e=.returned (.bool (aK (aj rs[k].rows)))/\∃p:Regrown,w''=grow (redrawn W1 p.d) p.os;rw[wT];refine dm fun W' hb=>?_;exact BD _ _ rs[k].rows _ Y4.out.1 Y4.out.2 YO.out.2.2 HCP.out.2 (Y5.out.below (WX.out.trans (hb.mono WX.out.size)))
  have Xq:Hid (∀d os,ag w (grow (redrawn W1 d) os)):=fun d os=>HB.out.trans ((WX.out.mono HB.out.size).trans ((below_regrown W1 d os).mono (Vz HB.out.size WX.out.size)));cases hnm:aP rs[k].name;case false=>
   rw[hnm]at Xy;have HN:Hid (gT rs=false):=HBAD.out (by rw[HRG.out];simp[hnm]);refine wp_region_quiet_below (by kernel_rfl) (by kernel_rfl) ?_
   repeat(go_big_quiet_step (exact Xy.out _ _))
   refine wpQuiet_nil ?_;rintro _ ⟨⟨dq,osq⟩,rfl⟩;go_wp2;go_ret;exact⟨ah HN.out.symm,Xq.out dq osq⟩
  rw[hnm]at Xy;obtain⟨ex,hex⟩:∃ex,ex=aK (aj rs[k].rows):=⟨_,rfl⟩;rw[<-hex]at HCE HRG;have fin:Hid (∀pv,yo (eQ rs) rs[k].name k=pv->mg (eQ rs) k=(pv&&ex)):=fun pv h=>by rw[HRG.out,hnm,h];simp
  clear hex HRG hnm;by_cases hpos:k=0
  ·have hk0:¬(0:Int)<(k:Int):=by omega
   have hk9:decide (0<k)=false:=by simp;omega
   have Yg:=nE (fin.out _ (Bi hpos));replace hpos:Hid (k=0):=hpos;refine wp_region_quiet_below (by kernel_rfl) (by kernel_rfl) ?_
   repeat(go_big_quiet_step (first|exact Xy.out _ _|exact HCE.out _ _))
   refine wpQuiet_nil ?_;rintro _ ⟨⟨dq,osq⟩,rfl⟩;cases ex;case false=>
    have HN:Hid (gT rs=false):=HBAD.out (by rw[Yg.out];rfl);go_wp2;go_ret;exact⟨ah HN.out.symm,Xq.out dq osq⟩
   have Yk:Hid (dJ (eQ rs) (k+1)=true):=by show _=_;simp only[dJ];rw[HP.out,Yg.out];rfl
   go_wp2;go_roundw;case rel=>exact⟨k+1,by omega,by go_num,Yk,Xq.out dq osq⟩
   simp[intOf]<;>omega
  obtain⟨m,hm⟩:∃m,k=m+1:=⟨k-1,by omega⟩;have Xa:m<rs.length:=by omega
  have hk0:(0:Int)<(k:Int):=by omega
  have hk9:decide (0<k)=true:=by simp;omega
  have hkm:(k:Int)-1=(m:Int):=by omega
  have hwm:IntKind.i64.wrap (m:Int)=(m:Int):=by rw[IntKind.wrap_i64];omega
  have hm1:=bC m;have hm2:(m:Int)<(rs.length:Int):=by omega
  have qm:=cell_regrown (aA WX.out hb (HTP.out m Xa));have Yg:=nE (fin.out _ (Bg hm Xa));replace hm:Hid (k=m+1):=hm;cases hless:Op.bytesLess rs[m].name.toList rs[k].name.toList;case false=>
   have HN:Hid (gT rs=false):=HBAD.out (by rw[Yg.out];simp[ji,hless]);refine wp_region_quiet_below (by kernel_rfl) (by kernel_rfl) ?_
   repeat(go_big_quiet_step (first|exact Xy.out _ _|exact HCE.out _ _))
   refine wpQuiet_nil ?_;rintro _ ⟨⟨dq,osq⟩,rfl⟩;go_wp2;go_ret;exact⟨ah HN.out.symm,Xq.out dq osq⟩
  refine wp_region_quiet_below (by kernel_rfl) (by kernel_rfl) ?_
  repeat(go_big_quiet_step (first|exact Xy.out _ _|exact HCE.out _ _))
  refine wpQuiet_nil ?_;rintro _ ⟨⟨dq,osq⟩,rfl⟩;cases ex;case false=>
   have HN:Hid (gT rs=false):=HBAD.out (by rw[Yg.out];simp);go_wp2;go_ret;exact⟨ah HN.out.symm,Xq.out dq osq⟩
  have Yk:Hid (dJ (eQ rs) (k+1)=true):=by show _=_;simp only[dJ];rw[HP.out,Yg.out];simp[ji,hless]
  go_wp2;go_roundw;case rel=>exact⟨k+1,by omega,by go_num,Yk,Xq.out dq osq⟩
  simp[intOf]<;>omega
 obtain rfl:k=rs.length:=by omega
 have HY:Hid (gT rs=true):=by show _=_;rw[Z9.out,HP.out];simp;omega
 go_wp2;go_ret;exact⟨ah HY.out.symm,HB.out⟩
set_option maxRecDepth 100000 in
theorem Hz(ad:Q02)(cap:Nat)(rs:Q06)(w:ae)(hlen:rs.length<=1048576)(hs:mP w ad rs)(hl:∀r∈rs,r.light)(hf:∀r∈rs,r.fits)(hcp:∀r∈rs,r.caps):
  Calls prog 184 #[.slice ad rs.length cap] w fun e w'=>e=.returned (.bool (aY (af rs)))/\ag w w':=by
 have HS:=aC hs;have HL:=aC hl;have WR:=aC hf;have Y3:=aC hcp;clear hs hl hf hcp;have Z9:Hid (aY (af rs)=(decide (rs.length<=6)&&iD (af rs) rs.length)):=by show _=_;unfold aY;rw[lw]
 by_cases h6:6<rs.length
 ·have HN:Hid (aY (af rs)=false):=by show _=_;rw[Z9.out];simp;omega
  go_enter func184,ntmps184;go_wp2;go_ret;exact⟨ah HN.out.symm,Vs _ _⟩
 go_enter func184,ntmps184;go_wp2;go_loopw[10] (fun i wr=>∃k:Nat,k<=rs.length/\i=.int .i64 k/\Hid (iD (af rs) k=true)/\Hid (ag w wr)) (fun i _=>rs.length-(intOf i).toNat);case atStart=>exact⟨0,Vv _,rfl,rfl,Vs _ _⟩
 obtain⟨k,hk,rfl,HP,HB⟩:=hrel;by_cases hlt:k<rs.length
 ·rcases HS.out.below HB.out with rfl|⟨b,off,rfl,hb,hr,hok⟩
  ·simp at hlt
  obtain⟨t0,t1⟩:=hr k hlt;have Y5:Hid (rs[k].ok wr):=hok rs[k] (Vp hlt);have z1:rs[k].name.size<=maxLen:=(WR.out _ (Vp hlt)).1;have Y4:Hid (rs[k].light):=HL.out _ (Vp hlt);have YO:Hid (rs[k].fits):=WR.out _ (Vp hlt);have HCP:Hid (rs[k].caps):=Y3.out _ (Vp hlt);have hk1:=bC k;have hk2:(k:Int)<(rs.length:Int):=by omega
  have HTP:Hid (∀(m:Nat) (h:m<rs.length),wr.cell? ⟨b,off+m*2,none⟩=some (.string rs[m].name)):=fun m h=>(hr m h).1;have HRG:Hid (kF (af rs) k=(aP rs[k].name&&vW (af rs) rs[k].name k&&gT rs[k].rows)):=Km hlt;have HBAD:Hid (kF (af rs) k=false->aY (af rs)=false):=fun h=>by rw[Z9.out,ul _ k h _ hlt];simp
  obtain⟨W1,hW1⟩:∃W1,W1=wr.alloc (.cells #[.string rs[k].name,.slice rs[k].ad rs[k].rows.length rs[k].cap] 36):=⟨_,rfl⟩;have hal:ag wr W1:=by rw[hW1];exact(Vs _ _).alloc (Vr _) _
  have WX:=aC hal;have hgl:wr.heap.size<W1.heap.size:=by rw[hW1];simp
  have g0:W1.cell? ⟨wr.heap.size,0,none⟩=some (.string rs[k].name):=by rw[hW1];simp
  have g1:W1.cell? ⟨wr.heap.size,1,none⟩=some (.slice rs[k].ad rs[k].rows.length rs[k].cap):=by rw[hW1];simp
  have hb4:b<W1.heap.size:=Nat.lt_trans hb hgl;clear hr hok;go_wp2_with fail;rw[<-hW1];clear hW1 t0 t1 hal;have q0:=cell_regrown g0;have q1:=cell_regrown g1;have Xy:=nE (jT (W:=W1) (fun W'=>aL rs[k].name W' z1));have HCE:Hid (∀d os,Calls prog 257 #[.slice rs[k].ad rs[k].rows.length rs[k].cap] (grow (redrawn W1 d) os) fun e w''=>e=.returned (.bool (gT rs[k].rows))/\∃p:Regrown,w''=grow (redrawn W1 p.d) p.os):=by
   refine dm fun W' hb=>?_;exact yI _ _ rs[k].rows _ Y4.out.1 (Y5.out.below (WX.out.trans (hb.mono WX.out.size))) Y4.out.2 YO.out.2.2 HCP.out.2
  have Xq:Hid (∀d os,ag w (grow (redrawn W1 d) os)):=fun d os=>HB.out.trans ((WX.out.mono HB.out.size).trans ((below_regrown W1 d os).mono (Vz HB.out.size WX.out.size)));cases hnm:aP rs[k].name;case false=>
   rw[hnm]at Xy;have HN:Hid (aY (af rs)=false):=HBAD.out (by rw[HRG.out];simp[hnm]);refine wp_region_quiet_below (by kernel_rfl) (by kernel_rfl) ?_
   repeat(go_big_quiet_step (exact Xy.out _ _))
   refine wpQuiet_nil ?_;rintro _ ⟨⟨dq,osq⟩,rfl⟩;go_wp2;go_ret;exact⟨ah HN.out.symm,Xq.out dq osq⟩
  rw[hnm]at Xy;obtain⟨ex,hex⟩:∃ex,ex=gT rs[k].rows:=⟨_,rfl⟩;rw[<-hex]at HCE HRG;have fin:Hid (∀pv,vW (af rs) rs[k].name k=pv->kF (af rs) k=(pv&&ex)):=fun pv h=>by rw[HRG.out,hnm,h];simp
  clear hex HRG hnm;by_cases hpos:k=0
  ·have hk0:¬(0:Int)<(k:Int):=by omega
   have hk9:decide (0<k)=false:=by simp;omega
   have Yg:=nE (fin.out _ (Bh hpos));replace hpos:Hid (k=0):=hpos;refine wp_region_quiet_below (by kernel_rfl) (by kernel_rfl) ?_
   repeat(go_big_quiet_step (first|exact Xy.out _ _|exact HCE.out _ _))
   refine wpQuiet_nil ?_;rintro _ ⟨⟨dq,osq⟩,rfl⟩;cases ex;case false=>
    have HN:Hid (aY (af rs)=false):=HBAD.out (by rw[Yg.out];rfl);go_wp2;go_ret;exact⟨ah HN.out.symm,Xq.out dq osq⟩
   have Yk:Hid (iD (af rs) (k+1)=true):=by show _=_;simp only[iD];rw[HP.out,Yg.out];rfl
   go_wp2;go_roundw;case rel=>exact⟨k+1,by omega,by go_num,Yk,Xq.out dq osq⟩
   simp[intOf]<;>omega
  obtain⟨m,hm⟩:∃m,k=m+1:=⟨k-1,by omega⟩;have Xa:m<rs.length:=by omega
  have hk0:(0:Int)<(k:Int):=by omega
  have hk9:decide (0<k)=true:=by simp;omega
  have hkm:(k:Int)-1=(m:Int):=by omega
  have hwm:IntKind.i64.wrap (m:Int)=(m:Int):=by rw[IntKind.wrap_i64];omega
  have hm1:=bC m;have hm2:(m:Int)<(rs.length:Int):=by omega
  have qm:=cell_regrown (aA WX.out hb (HTP.out m Xa));have Yg:=nE (fin.out _ (Bf hm Xa));replace hm:Hid (k=m+1):=hm;cases hless:Op.bytesLess rs[m].name.toList rs[k].name.toList;case false=>
   have HN:Hid (aY (af rs)=false):=HBAD.out (by rw[Yg.out];simp[ji,hless]);refine wp_region_quiet_below (by kernel_rfl) (by kernel_rfl) ?_
   repeat(go_big_quiet_step (first|exact Xy.out _ _|exact HCE.out _ _))
   refine wpQuiet_nil ?_;rintro _ ⟨⟨dq,osq⟩,rfl⟩;go_wp2;go_ret;exact⟨ah HN.out.symm,Xq.out dq osq⟩
  refine wp_region_quiet_below (by kernel_rfl) (by kernel_rfl) ?_
  repeat(go_big_quiet_step (first|exact Xy.out _ _|exact HCE.out _ _))
  refine wpQuiet_nil ?_;rintro _ ⟨⟨dq,osq⟩,rfl⟩;cases ex;case false=>
   have HN:Hid (aY (af rs)=false):=HBAD.out (by rw[Yg.out];simp);go_wp2;go_ret;exact⟨ah HN.out.symm,Xq.out dq osq⟩
  have Yk:Hid (iD (af rs) (k+1)=true):=by show _=_;simp only[iD];rw[HP.out,Yg.out];simp[ji,hless]
  go_wp2;go_roundw;case rel=>exact⟨k+1,by omega,by go_num,Yk,Xq.out dq osq⟩
  simp[intOf]<;>omega
 obtain rfl:k=rs.length:=by omega
 have HY:Hid (aY (af rs)=true):=by show _=_;rw[Z9.out,HP.out];simp;omega
 go_wp2;go_ret;exact⟨ah HY.out.symm,HB.out⟩
end Go.Proofs.YtojjoblnpldniaaGreat
