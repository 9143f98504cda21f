/- Contracts of the program's looks at a schema's shape. -/
import Derived.Test.YtajkkeikihhejaaGreatSq
import Derived.Test.YtajkkeikihhejaaGreatSpecSchema11
import Derived.Test.YtajkkeikihhejaaGreatJ26
open Go.Proofs.Tryz
set_option maxHeartbeats 80000000
namespace Go.Proofs.YtajkkeikihhejaaGreat
open ChangeShapes WideShapes ChangeAt RowKit
open Pl
open Go.Sort
def il(rs:Q07):Bool:=decide (rs.length<=6)&&dK (eZ rs) rs.length
theorem J8{rs:Q07}{k:Nat}(h:k<rs.length):mg (eZ rs) k=(aT rs[k].name&&yo (eZ rs) rs[k].name k&&aL (ak rs[k].rows)):=Dj h
theorem J9{rs:Q06}{k:Nat}(h:k<rs.length):kI (ag rs) k=(aT rs[k].name&&vv (ag rs) rs[k].name k&&il rs[k].rows):=by
 rw[Di h];unfold il;rw[Bool.and_assoc]
set_option maxRecDepth 100000 in
theorem yT(ad:Q02)(cap:Nat)(rs:Q07)(w:af)(hlen:rs.length<=1048576)(hs:NW w ad rs)(hl:∀r∈rs,r.light)(hf:∀r∈rs,r.fits)(hcp:∀r∈rs,r.caps):
  Calls prog 182 #[.slice ad rs.length cap] w fun e w'=>e=.returned (.bool (il rs))/\ae w w':=by
 have HS:=aC hs;have HL:=aC hl;have Wl:=aC hf;have YL:=aC hcp;clear hs hl hf hcp;have ZV:Hid (il rs=(decide (rs.length<=6)&&dK (eZ rs) rs.length)):=by show _=_;rfl
 by_cases h6:6<rs.length
 ·have HN:Hid (il rs=false):=by show _=_;rw[ZV.out];simp;omega
  go_enter func182,ntmps182;go_wp2;go_ret;exact⟨ah HN.out.symm,UV _ _⟩
 go_enter func182,ntmps182;go_wp2;go_loopw[10] (fun i wr=>∃k:Nat,k<=rs.length/\i=.int .i64 k/\Hid (dK (eZ rs) k=true)/\Hid (ae w wr)) (fun i _=>rs.length-(intOf i).toNat);case atStart=>exact⟨0,UY _,rfl,rfl,UV _ _⟩
 obtain⟨k,hk,rfl,HP,HB⟩:=hrel;by_cases hlt:k<rs.length
 ·rcases HS.out.below HB.out with rfl|⟨b,off,rfl,hb,hr,hok⟩
  ·simp at hlt
  obtain⟨t0,t1⟩:=hr k hlt;have Yv:Hid (rs[k].ok wr):=hok rs[k] (UR hlt);have z1:rs[k].name.size<=maxLen:=(Wl.out _ (UR hlt)).1;have YJ:Hid (rs[k].light):=HL.out _ (UR hlt);have YE:Hid (rs[k].fits):=Wl.out _ (UR hlt);have HCP:Hid (rs[k].caps):=YL.out _ (UR hlt);have hk1:=bG k;have hk2:(k:Int)<(rs.length:Int):=by omega
  have HTP:Hid (∀(m:Nat) (h:m<rs.length),wr.cell? ⟨b,off+m*2,none⟩=some (.string rs[m].name)):=fun m h=>(hr m h).1;have HRG:Hid (mg (eZ rs) k=(aT rs[k].name&&yo (eZ rs) rs[k].name k&&aL (ak rs[k].rows))):=J8 hlt;have HBAD:Hid (mg (eZ rs) k=false->il rs=false):=fun h=>by rw[ZV.out,uf _ k h _ hlt];simp
  obtain⟨W1,hW1⟩:∃W1,W1=wr.alloc (.cells #[.string rs[k].name,.slice rs[k].ad rs[k].rows.length rs[k].cap] 147):=⟨_,rfl⟩;have hal:ae wr W1:=by rw[hW1];exact(UV _ _).alloc (UU _) _
  have Ws:=aC hal;have hgl:wr.heap.size<W1.heap.size:=by rw[hW1];simp
  have g0:W1.cell? ⟨wr.heap.size,0,none⟩=some (.string rs[k].name):=by rw[hW1];simp
  have g1:W1.cell? ⟨wr.heap.size,1,none⟩=some (.slice rs[k].ad rs[k].rows.length rs[k].cap):=by rw[hW1];simp
  have hb4:b<W1.heap.size:=Nat.lt_trans hb hgl;clear hr hok;go_wp2_with fail;rw[<-hW1];clear hW1 t0 t1 hal;have q0:=cell_regrown g0;have q1:=cell_regrown g1;have Xd:=qh (jW (W:=W1) (fun W'=>aP rs[k].name W' z1));have HCE:Hid (∀d os,Calls prog 221 #[.slice rs[k].ad rs[k].rows.length rs[k].cap] (grow (redrawn W1 d) os) fun e w''=>e=.returned (.bool (aL (ak rs[k].rows)))/\∃p:Regrown,w''=grow (redrawn W1 p.d) p.os):=by
   show ∀d os,Calls prog 221 #[.slice rs[k].ad rs[k].rows.length rs[k].cap] (grow (redrawn W1 d) os) fun e w''=>e=.returned (.bool (aL (ak rs[k].rows)))/\∃p:Regrown,w''=grow (redrawn W1 p.d) p.os;rw[rC];refine bY fun W' hb=>?_;exact BI _ _ rs[k].rows _ YJ.out.1 YJ.out.2 YE.out.2.2 HCP.out.2 (Yv.out.below (Ws.out.trans (hb.mono Ws.out.size)))
  have Xb:Hid (∀d os,ae w (grow (redrawn W1 d) os)):=fun d os=>HB.out.trans ((Ws.out.mono HB.out.size).trans ((below_regrown W1 d os).mono (U0 HB.out.size Ws.out.size)));cases hnm:aT rs[k].name;case false=>
   rw[hnm]at Xd;have HN:Hid (il rs=false):=HBAD.out (by rw[HRG.out];simp[hnm]);refine wp_region_quiet_below (by kernel_rfl) (by kernel_rfl) ?_
   repeat(go_big_quiet_step (exact Xd.out _ _))
   refine wpQuiet_nil ?_;rintro _ ⟨⟨dq,osq⟩,rfl⟩;go_wp2;go_ret;exact⟨ah HN.out.symm,Xb.out dq osq⟩
  rw[hnm]at Xd;obtain⟨ex,hex⟩:∃ex,ex=aL (ak rs[k].rows):=⟨_,rfl⟩;rw[<-hex]at HCE HRG;have fin:Hid (∀pv,yo (eZ rs) rs[k].name k=pv->mg (eZ rs) k=(pv&&ex)):=fun pv h=>by rw[HRG.out,hnm,h];simp
  clear hex HRG hnm;by_cases hpos:k=0
  ·have hk0:¬(0:Int)<(k:Int):=by omega
   have hk9:decide (0<k)=false:=by simp;omega
   have XQ:=qh (fin.out _ (Ao hpos));replace hpos:Hid (k=0):=hpos;refine wp_region_quiet_below (by kernel_rfl) (by kernel_rfl) ?_
   repeat(go_big_quiet_step (first|exact Xd.out _ _|exact HCE.out _ _))
   refine wpQuiet_nil ?_;rintro _ ⟨⟨dq,osq⟩,rfl⟩;cases ex;case false=>
    have HN:Hid (il rs=false):=HBAD.out (by rw[XQ.out];rfl);go_wp2;go_ret;exact⟨ah HN.out.symm,Xb.out dq osq⟩
   have XW:Hid (dK (eZ rs) (k+1)=true):=by show _=_;simp only[dK];rw[HP.out,XQ.out];rfl
   go_wp2;go_roundw;case rel=>exact⟨k+1,by omega,by go_num,XW,Xb.out dq osq⟩
   simp[intOf]<;>omega
  obtain⟨m,hm⟩:∃m,k=m+1:=⟨k-1,by omega⟩;have WH:m<rs.length:=by omega
  have hk0:(0:Int)<(k:Int):=by omega
  have hk9:decide (0<k)=true:=by simp;omega
  have hkm:(k:Int)-1=(m:Int):=by omega
  have hwm:IntKind.i64.wrap (m:Int)=(m:Int):=by rw[IntKind.wrap_i64];omega
  have hm1:=bG m;have hm2:(m:Int)<(rs.length:Int):=by omega
  have qm:=cell_regrown (aH Ws.out hb (HTP.out m WH));have XQ:=qh (fin.out _ (Ak hm WH));replace hm:Hid (k=m+1):=hm;cases hless:Op.bytesLess rs[m].name.toList rs[k].name.toList;case false=>
   have HN:Hid (il rs=false):=HBAD.out (by rw[XQ.out];simp[jm,hless]);refine wp_region_quiet_below (by kernel_rfl) (by kernel_rfl) ?_
   repeat(go_big_quiet_step (first|exact Xd.out _ _|exact HCE.out _ _))
   refine wpQuiet_nil ?_;rintro _ ⟨⟨dq,osq⟩,rfl⟩;go_wp2;go_ret;exact⟨ah HN.out.symm,Xb.out dq osq⟩
  refine wp_region_quiet_below (by kernel_rfl) (by kernel_rfl) ?_
  repeat(go_big_quiet_step (first|exact Xd.out _ _|exact HCE.out _ _))
  refine wpQuiet_nil ?_;rintro _ ⟨⟨dq,osq⟩,rfl⟩;cases ex;case false=>
   have HN:Hid (il rs=false):=HBAD.out (by rw[XQ.out];simp);go_wp2;go_ret;exact⟨ah HN.out.symm,Xb.out dq osq⟩
  have XW:Hid (dK (eZ rs) (k+1)=true):=by show _=_;simp only[dK];rw[HP.out,XQ.out];simp[jm,hless]
  go_wp2;go_roundw;case rel=>exact⟨k+1,by omega,by go_num,XW,Xb.out dq osq⟩
  simp[intOf]<;>omega
 obtain rfl:k=rs.length:=by omega
 have HY:Hid (il rs=true):=by show _=_;rw[ZV.out,HP.out];simp;omega
 go_wp2;go_ret;exact⟨ah HY.out.symm,HB.out⟩
set_option maxRecDepth 100000 in
theorem Hw(ad:Q02)(cap:Nat)(rs:Q06)(w:af)(hlen:rs.length<=1048576)(hs:kU w ad rs)(hl:∀r∈rs,r.light)(hf:∀r∈rs,r.fits)(hcp:∀r∈rs,r.caps):
  Calls prog 131 #[.slice ad rs.length cap] w fun e w'=>e=.returned (.bool (bu (ag rs)))/\ae w w':=by
 have HS:=aC hs;have HL:=aC hl;have Wl:=aC hf;have YL:=aC hcp;clear hs hl hf hcp;have ZV:Hid (bu (ag rs)=(decide (rs.length<=6)&&iW (ag rs) rs.length)):=by show _=_;unfold bu;rw[lF]
 by_cases h6:6<rs.length
 ·have HN:Hid (bu (ag rs)=false):=by show _=_;rw[ZV.out];simp;omega
  go_enter func131,ntmps131;go_wp2;go_ret;exact⟨ah HN.out.symm,UV _ _⟩
 go_enter func131,ntmps131;go_wp2;go_loopw[10] (fun i wr=>∃k:Nat,k<=rs.length/\i=.int .i64 k/\Hid (iW (ag rs) k=true)/\Hid (ae w wr)) (fun i _=>rs.length-(intOf i).toNat);case atStart=>exact⟨0,UY _,rfl,rfl,UV _ _⟩
 obtain⟨k,hk,rfl,HP,HB⟩:=hrel;by_cases hlt:k<rs.length
 ·rcases HS.out.below HB.out with rfl|⟨b,off,rfl,hb,hr,hok⟩
  ·simp at hlt
  obtain⟨t0,t1⟩:=hr k hlt;have Yv:Hid (rs[k].ok wr):=hok rs[k] (UR hlt);have z1:rs[k].name.size<=maxLen:=(Wl.out _ (UR hlt)).1;have YJ:Hid (rs[k].light):=HL.out _ (UR hlt);have YE:Hid (rs[k].fits):=Wl.out _ (UR hlt);have HCP:Hid (rs[k].caps):=YL.out _ (UR hlt);have hk1:=bG k;have hk2:(k:Int)<(rs.length:Int):=by omega
  have HTP:Hid (∀(m:Nat) (h:m<rs.length),wr.cell? ⟨b,off+m*2,none⟩=some (.string rs[m].name)):=fun m h=>(hr m h).1;have HRG:Hid (kI (ag rs) k=(aT rs[k].name&&vv (ag rs) rs[k].name k&&il rs[k].rows)):=J9 hlt;have HBAD:Hid (kI (ag rs) k=false->bu (ag rs)=false):=fun h=>by rw[ZV.out,ug _ k h _ hlt];simp
  obtain⟨W1,hW1⟩:∃W1,W1=wr.alloc (.cells #[.string rs[k].name,.slice rs[k].ad rs[k].rows.length rs[k].cap] 127):=⟨_,rfl⟩;have hal:ae wr W1:=by rw[hW1];exact(UV _ _).alloc (UU _) _
  have Ws:=aC hal;have hgl:wr.heap.size<W1.heap.size:=by rw[hW1];simp
  have g0:W1.cell? ⟨wr.heap.size,0,none⟩=some (.string rs[k].name):=by rw[hW1];simp
  have g1:W1.cell? ⟨wr.heap.size,1,none⟩=some (.slice rs[k].ad rs[k].rows.length rs[k].cap):=by rw[hW1];simp
  have hb4:b<W1.heap.size:=Nat.lt_trans hb hgl;clear hr hok;go_wp2_with fail;rw[<-hW1];clear hW1 t0 t1 hal;have q0:=cell_regrown g0;have q1:=cell_regrown g1;have Xd:=qh (jW (W:=W1) (fun W'=>aP rs[k].name W' z1));have HCE:Hid (∀d os,Calls prog 182 #[.slice rs[k].ad rs[k].rows.length rs[k].cap] (grow (redrawn W1 d) os) fun e w''=>e=.returned (.bool (il rs[k].rows))/\∃p:Regrown,w''=grow (redrawn W1 p.d) p.os):=by
   refine bY fun W' hb=>?_;exact yT _ _ rs[k].rows _ YJ.out.1 (Yv.out.below (Ws.out.trans (hb.mono Ws.out.size))) YJ.out.2 YE.out.2.2 HCP.out.2
  have Xb:Hid (∀d os,ae w (grow (redrawn W1 d) os)):=fun d os=>HB.out.trans ((Ws.out.mono HB.out.size).trans ((below_regrown W1 d os).mono (U0 HB.out.size Ws.out.size)));cases hnm:aT rs[k].name;case false=>
   rw[hnm]at Xd;have HN:Hid (bu (ag rs)=false):=HBAD.out (by rw[HRG.out];simp[hnm]);refine wp_region_quiet_below (by kernel_rfl) (by kernel_rfl) ?_
   repeat(go_big_quiet_step (exact Xd.out _ _))
   refine wpQuiet_nil ?_;rintro _ ⟨⟨dq,osq⟩,rfl⟩;go_wp2;go_ret;exact⟨ah HN.out.symm,Xb.out dq osq⟩
  rw[hnm]at Xd;obtain⟨ex,hex⟩:∃ex,ex=il rs[k].rows:=⟨_,rfl⟩;rw[<-hex]at HCE HRG;have fin:Hid (∀pv,vv (ag rs) rs[k].name k=pv->kI (ag rs) k=(pv&&ex)):=fun pv h=>by rw[HRG.out,hnm,h];simp
  clear hex HRG hnm;by_cases hpos:k=0
  ·have hk0:¬(0:Int)<(k:Int):=by omega
   have hk9:decide (0<k)=false:=by simp;omega
   have XQ:=qh (fin.out _ (Am hpos));replace hpos:Hid (k=0):=hpos;refine wp_region_quiet_below (by kernel_rfl) (by kernel_rfl) ?_
   repeat(go_big_quiet_step (first|exact Xd.out _ _|exact HCE.out _ _))
   refine wpQuiet_nil ?_;rintro _ ⟨⟨dq,osq⟩,rfl⟩;cases ex;case false=>
    have HN:Hid (bu (ag rs)=false):=HBAD.out (by rw[XQ.out];rfl);go_wp2;go_ret;exact⟨ah HN.out.symm,Xb.out dq osq⟩
   have XW:Hid (iW (ag rs) (k+1)=true):=by show _=_;simp only[iW];rw[HP.out,XQ.out];rfl
   go_wp2;go_roundw;case rel=>exact⟨k+1,by omega,by go_num,XW,Xb.out dq osq⟩
   simp[intOf]<;>omega
  obtain⟨m,hm⟩:∃m,k=m+1:=⟨k-1,by omega⟩;have WH:m<rs.length:=by omega
  have hk0:(0:Int)<(k:Int):=by omega
  have hk9:decide (0<k)=true:=by simp;omega
  have hkm:(k:Int)-1=(m:Int):=by omega
  have hwm:IntKind.i64.wrap (m:Int)=(m:Int):=by rw[IntKind.wrap_i64];omega
  have hm1:=bG m;have hm2:(m:Int)<(rs.length:Int):=by omega
  have qm:=cell_regrown (aH Ws.out hb (HTP.out m WH));have XQ:=qh (fin.out _ (Aj hm WH));replace hm:Hid (k=m+1):=hm;cases hless:Op.bytesLess rs[m].name.toList rs[k].name.toList;case false=>
   have HN:Hid (bu (ag rs)=false):=HBAD.out (by rw[XQ.out];simp[jm,hless]);refine wp_region_quiet_below (by kernel_rfl) (by kernel_rfl) ?_
   repeat(go_big_quiet_step (first|exact Xd.out _ _|exact HCE.out _ _))
   refine wpQuiet_nil ?_;rintro _ ⟨⟨dq,osq⟩,rfl⟩;go_wp2;go_ret;exact⟨ah HN.out.symm,Xb.out dq osq⟩
  refine wp_region_quiet_below (by kernel_rfl) (by kernel_rfl) ?_
  repeat(go_big_quiet_step (first|exact Xd.out _ _|exact HCE.out _ _))
  refine wpQuiet_nil ?_;rintro _ ⟨⟨dq,osq⟩,rfl⟩;cases ex;case false=>
   have HN:Hid (bu (ag rs)=false):=HBAD.out (by rw[XQ.out];simp);go_wp2;go_ret;exact⟨ah HN.out.symm,Xb.out dq osq⟩
  have XW:Hid (iW (ag rs) (k+1)=true):=by show _=_;simp only[iW];rw[HP.out,XQ.out];simp[jm,hless]
  go_wp2;go_roundw;case rel=>exact⟨k+1,by omega,by go_num,XW,Xb.out dq osq⟩
  simp[intOf]<;>omega
 obtain rfl:k=rs.length:=by omega
 have HY:Hid (bu (ag rs)=true):=by show _=_;rw[ZV.out,HP.out];simp;omega
 go_wp2;go_ret;exact⟨ah HY.out.symm,HB.out⟩
end Go.Proofs.YtajkkeikihhejaaGreat
