/- Contracts of the program's looks at a schema's shape. -/
import Derived.Test.YtojjoblnpldniaaGreatSq
import Derived.Test.YtojjoblnpldniaaGreatSpecSchema11
import Derived.Test.YtojjoblnpldniaaGreatJ9
import Derived.Test.YtojjoblnpldniaaGreatJ7
open Go.Proofs.Tryz
set_option maxHeartbeats 80000000
namespace Go.Proofs.YtojjoblnpldniaaGreat
open ChangeShapes WideShapes ChangeAt RowKit
open Pl
open Go.Sort
def iJ(rs:Q07):Bool:=decide (rs.length<=6)&&dN (df rs) rs.length
theorem Lv{rs:Q07}{k:Nat}(h:k<rs.length):mR (df rs) k=(aS rs[k].name&&zw (df rs) rs[k].name k&&aK (ai rs[k].rows)):=EJ h
theorem Lx{rs:Q06}{k:Nat}(h:k<rs.length):ll (ae rs) k=(aS rs[k].name&&wV (ae rs) rs[k].name k&&iJ rs[k].rows):=by
 rw[EH h];unfold iJ;rw[Bool.and_assoc]
set_option maxRecDepth 100000 in
theorem zU(ad:Q02)(cap:Nat)(rs:Q07)(w:af)(hlen:rs.length<=1048576)(hs:Df w ad rs)(hl:∀r∈rs,r.light)(hf:∀r∈rs,r.fits)(hcp:∀r∈rs,r.caps):
  Calls prog 257 #[.slice ad rs.length cap] w fun e w'=>e=.returned (.bool (iJ rs))/\ag w w':=by
 have HS:=aB hs;have HL:=aB hl;have Yc:=aB hf;have HCT:=aB hcp;clear hs hl hf hcp;have HALL:Hid (iJ rs=(decide (rs.length<=6)&&dN (df rs) rs.length)):=by show _=_;rfl
 by_cases h6:6<rs.length
 ·have HN:Hid (iJ rs=false):=by show _=_;rw[HALL.out];simp;omega
  go_enter func257,ntmps257;go_wp2;go_ret;exact⟨ah HN.out.symm,WL _ _⟩
 go_enter func257,ntmps257;go_wp2;go_loopw[10] (fun i wr=>∃k:Nat,k<=rs.length/\i=.int .i64 k/\Hid (dN (df rs) k=true)/\Hid (ag w wr)) (fun i _=>rs.length-(intOf i).toNat);case atStart=>exact⟨0,WO _,rfl,rfl,WL _ _⟩
 obtain⟨k,hk,rfl,HP,HB⟩:=hrel;by_cases hlt:k<rs.length
 ·rcases HS.out.below HB.out with rfl|⟨b,off,rfl,hb,hr,hok⟩
  ·simp at hlt
  obtain⟨t0,t1⟩:=hr k hlt;have HSE:Hid (rs[k].ok wr):=hok rs[k] (WH hlt);have z1:rs[k].name.size<=maxLen:=(Yc.out _ (WH hlt)).1;have Z6:Hid (rs[k].light):=HL.out _ (WH hlt);have ZN:Hid (rs[k].fits):=Yc.out _ (WH hlt);have HCP:Hid (rs[k].caps):=HCT.out _ (WH hlt);have hk1:=bY k;have hk2:(k:Int)<(rs.length:Int):=by omega
  have HTP:Hid (∀(m:Nat) (h:m<rs.length),wr.cell? ⟨b,off+m*2,none⟩=some (.string rs[m].name)):=fun m h=>(hr m h).1;have HRG:Hid (mR (df rs) k=(aS rs[k].name&&zw (df rs) rs[k].name k&&aK (ai rs[k].rows))):=Lv hlt;have HBAD:Hid (mR (df rs) k=false->iJ rs=false):=fun h=>by rw[HALL.out,uN _ k h _ hlt];simp
  obtain⟨W1,hW1⟩:=eQx (wr.alloc (.cells #[.string rs[k].name,.slice rs[k].ad rs[k].rows.length rs[k].cap] 39));have hal:ag wr W1:=by rw[hW1];exact(WL _ _).alloc (WK _) _
  have Yq:=aB hal;have hgl:wr.heap.size<W1.heap.size:=by rw[hW1];simp
  have g0:W1.cell? ⟨wr.heap.size,0,none⟩=some (.string rs[k].name):=by rw[hW1];simp
  have g1:W1.cell? ⟨wr.heap.size,1,none⟩=some (.slice rs[k].ad rs[k].rows.length rs[k].cap):=by rw[hW1];simp
  have hb4:b<W1.heap.size:=Nat.lt_trans hb hgl;clear hr hok;go_wp2_with fail;rw[<-hW1];clear hW1 t0 t1 hal;have q0:=cell_regrown g0;have q1:=cell_regrown g1;have YO:=oP (kJ (W:=W1) (fun W'=>aP rs[k].name W' z1));have HCE:Hid (∀d os,Calls prog 178 #[.slice rs[k].ad rs[k].rows.length rs[k].cap] (grow (redrawn W1 d) os) fun e w''=>e=.returned (.bool (aK (ai rs[k].rows)))/\∃p:Regrown,w''=grow (redrawn W1 p.d) p.os):=by
   show ∀d os,Calls prog 178 #[.slice rs[k].ad rs[k].rows.length rs[k].cap] (grow (redrawn W1 d) os) fun e w''=>e=.returned (.bool (aK (ai rs[k].rows)))/\∃p:Regrown,w''=grow (redrawn W1 p.d) p.os;rw[oU];refine gm fun W' hb=>?_;exact rY _ _ rs[k].rows _ Z6.out.1 Z6.out.2 ZN.out.2.2 HCP.out.2 (HSE.out.below (Yq.out.trans (hb.mono Yq.out.size)))
  have YE:Hid (∀d os,ag w (grow (redrawn W1 d) os)):=fun d os=>HB.out.trans ((Yq.out.mono HB.out.size).trans ((below_regrown W1 d os).mono (WR HB.out.size Yq.out.size)));cases hnm:aS rs[k].name;case false=>
   rw[hnm]at YO;have HN:Hid (iJ rs=false):=HBAD.out (by rw[HRG.out];simp[hnm]);refine wp_region_quiet_below (by kernel_rfl) (by kernel_rfl) ?_
   repeat(go_big_quiet_step (exact YO.out _ _))
   refine wpQuiet_nil ?_;rintro _ ⟨⟨dq,osq⟩,rfl⟩;go_wp2;go_ret;exact⟨ah HN.out.symm,YE.out dq osq⟩
  rw[hnm]at YO;obtain⟨ex,hex⟩:=eQx (aK (ai rs[k].rows));rw[<-hex]at HCE HRG;have fin:Hid (∀pv,zw (df rs) rs[k].name k=pv->mR (df rs) k=(pv&&ex)):=fun pv h=>by rw[HRG.out,hnm,h];simp
  clear hex HRG hnm;by_cases hpos:k=0
  ·have hk0:¬(0:Int)<(k:Int):=by omega
   have hk9:decide (0<k)=false:=by simp;omega
   have Zx:=oP (fin.out _ (BU hpos));replace hpos:Hid (k=0):=hpos;refine wp_region_quiet_below (by kernel_rfl) (by kernel_rfl) ?_
   repeat(go_big_quiet_step (first|exact YO.out _ _|exact HCE.out _ _))
   refine wpQuiet_nil ?_;rintro _ ⟨⟨dq,osq⟩,rfl⟩;cases ex;case false=>
    have HN:Hid (iJ rs=false):=HBAD.out (by rw[Zx.out];rfl);go_wp2;go_ret;exact⟨ah HN.out.symm,YE.out dq osq⟩
   have ZB:Hid (dN (df rs) (k+1)=true):=by show _=_;simp only[dN];rw[HP.out,Zx.out];rfl
   go_wp2;go_roundw;case rel=>exact⟨k+1,by omega,by go_num,ZB,YE.out dq osq⟩
   simp[intOf]<;>omega
  obtain⟨m,hm⟩:∃m,k=m+1:=⟨k-1,by omega⟩;have Yv:m<rs.length:=by omega
  have hk0:(0:Int)<(k:Int):=by omega
  have hk9:decide (0<k)=true:=by simp;omega
  have hkm:(k:Int)-1=(m:Int):=by omega
  have hwm:IntKind.i64.wrap (m:Int)=(m:Int):=by rw[IntKind.wrap_i64];omega
  have hm1:=bY m;have hm2:(m:Int)<(rs.length:Int):=by omega
  have qm:=cell_regrown (aD Yq.out hb (HTP.out m Yv));have Zx:=oP (fin.out _ (BR hm Yv));replace hm:Hid (k=m+1):=hm;cases hless:Op.bytesLess rs[m].name.toList rs[k].name.toList;case false=>
   have HN:Hid (iJ rs=false):=HBAD.out (by rw[Zx.out];simp[jN,hless]);refine wp_region_quiet_below (by kernel_rfl) (by kernel_rfl) ?_
   repeat(go_big_quiet_step (first|exact YO.out _ _|exact HCE.out _ _))
   refine wpQuiet_nil ?_;rintro _ ⟨⟨dq,osq⟩,rfl⟩;go_wp2;go_ret;exact⟨ah HN.out.symm,YE.out dq osq⟩
  refine wp_region_quiet_below (by kernel_rfl) (by kernel_rfl) ?_
  repeat(go_big_quiet_step (first|exact YO.out _ _|exact HCE.out _ _))
  refine wpQuiet_nil ?_;rintro _ ⟨⟨dq,osq⟩,rfl⟩;cases ex;case false=>
   have HN:Hid (iJ rs=false):=HBAD.out (by rw[Zx.out];simp);go_wp2;go_ret;exact⟨ah HN.out.symm,YE.out dq osq⟩
  have ZB:Hid (dN (df rs) (k+1)=true):=by show _=_;simp only[dN];rw[HP.out,Zx.out];simp[jN,hless]
  go_wp2;go_roundw;case rel=>exact⟨k+1,by omega,by go_num,ZB,YE.out dq osq⟩
  simp[intOf]<;>omega
 obtain rfl:k=rs.length:=by omega
 have HY:Hid (iJ rs=true):=by show _=_;rw[HALL.out,HP.out];simp;omega
 go_wp2;go_ret;exact⟨ah HY.out.symm,HB.out⟩
set_option maxRecDepth 100000 in
theorem IX(ad:Q02)(cap:Nat)(rs:Q06)(w:af)(hlen:rs.length<=1048576)(hs:jX w ad rs)(hl:∀r∈rs,r.light)(hf:∀r∈rs,r.fits)(hcp:∀r∈rs,r.caps):
  Calls prog 184 #[.slice ad rs.length cap] w fun e w'=>e=.returned (.bool (bB (ae rs)))/\ag w w':=by
 have HS:=aB hs;have HL:=aB hl;have Yc:=aB hf;have HCT:=aB hcp;clear hs hl hf hcp;have HALL:Hid (bB (ae rs)=(decide (rs.length<=6)&&jm (ae rs) rs.length)):=by show _=_;unfold bB;rw[bz]
 by_cases h6:6<rs.length
 ·have HN:Hid (bB (ae rs)=false):=by show _=_;rw[HALL.out];simp;omega
  go_enter func184,ntmps184;go_wp2;go_ret;exact⟨ah HN.out.symm,WL _ _⟩
 go_enter func184,ntmps184;go_wp2;go_loopw[10] (fun i wr=>∃k:Nat,k<=rs.length/\i=.int .i64 k/\Hid (jm (ae rs) k=true)/\Hid (ag w wr)) (fun i _=>rs.length-(intOf i).toNat);case atStart=>exact⟨0,WO _,rfl,rfl,WL _ _⟩
 obtain⟨k,hk,rfl,HP,HB⟩:=hrel;by_cases hlt:k<rs.length
 ·rcases HS.out.below HB.out with rfl|⟨b,off,rfl,hb,hr,hok⟩
  ·simp at hlt
  obtain⟨t0,t1⟩:=hr k hlt;have HSE:Hid (rs[k].ok wr):=hok rs[k] (WH hlt);have z1:rs[k].name.size<=maxLen:=(Yc.out _ (WH hlt)).1;have Z6:Hid (rs[k].light):=HL.out _ (WH hlt);have ZN:Hid (rs[k].fits):=Yc.out _ (WH hlt);have HCP:Hid (rs[k].caps):=HCT.out _ (WH hlt);have hk1:=bY k;have hk2:(k:Int)<(rs.length:Int):=by omega
  have HTP:Hid (∀(m:Nat) (h:m<rs.length),wr.cell? ⟨b,off+m*2,none⟩=some (.string rs[m].name)):=fun m h=>(hr m h).1;have HRG:Hid (ll (ae rs) k=(aS rs[k].name&&wV (ae rs) rs[k].name k&&iJ rs[k].rows)):=Lx hlt;have HBAD:Hid (ll (ae rs) k=false->bB (ae rs)=false):=fun h=>by rw[HALL.out,uO _ k h _ hlt];simp
  obtain⟨W1,hW1⟩:=eQx (wr.alloc (.cells #[.string rs[k].name,.slice rs[k].ad rs[k].rows.length rs[k].cap] 36));have hal:ag wr W1:=by rw[hW1];exact(WL _ _).alloc (WK _) _
  have Yq:=aB hal;have hgl:wr.heap.size<W1.heap.size:=by rw[hW1];simp
  have g0:W1.cell? ⟨wr.heap.size,0,none⟩=some (.string rs[k].name):=by rw[hW1];simp
  have g1:W1.cell? ⟨wr.heap.size,1,none⟩=some (.slice rs[k].ad rs[k].rows.length rs[k].cap):=by rw[hW1];simp
  have hb4:b<W1.heap.size:=Nat.lt_trans hb hgl;clear hr hok;go_wp2_with fail;rw[<-hW1];clear hW1 t0 t1 hal;have q0:=cell_regrown g0;have q1:=cell_regrown g1;have YO:=oP (kJ (W:=W1) (fun W'=>aP rs[k].name W' z1));have HCE:Hid (∀d os,Calls prog 257 #[.slice rs[k].ad rs[k].rows.length rs[k].cap] (grow (redrawn W1 d) os) fun e w''=>e=.returned (.bool (iJ rs[k].rows))/\∃p:Regrown,w''=grow (redrawn W1 p.d) p.os):=by
   refine gm fun W' hb=>?_;exact zU _ _ rs[k].rows _ Z6.out.1 (HSE.out.below (Yq.out.trans (hb.mono Yq.out.size))) Z6.out.2 ZN.out.2.2 HCP.out.2
  have YE:Hid (∀d os,ag w (grow (redrawn W1 d) os)):=fun d os=>HB.out.trans ((Yq.out.mono HB.out.size).trans ((below_regrown W1 d os).mono (WR HB.out.size Yq.out.size)));cases hnm:aS rs[k].name;case false=>
   rw[hnm]at YO;have HN:Hid (bB (ae rs)=false):=HBAD.out (by rw[HRG.out];simp[hnm]);refine wp_region_quiet_below (by kernel_rfl) (by kernel_rfl) ?_
   repeat(go_big_quiet_step (exact YO.out _ _))
   refine wpQuiet_nil ?_;rintro _ ⟨⟨dq,osq⟩,rfl⟩;go_wp2;go_ret;exact⟨ah HN.out.symm,YE.out dq osq⟩
  rw[hnm]at YO;obtain⟨ex,hex⟩:=eQx (iJ rs[k].rows);rw[<-hex]at HCE HRG;have fin:Hid (∀pv,wV (ae rs) rs[k].name k=pv->ll (ae rs) k=(pv&&ex)):=fun pv h=>by rw[HRG.out,hnm,h];simp
  clear hex HRG hnm;by_cases hpos:k=0
  ·have hk0:¬(0:Int)<(k:Int):=by omega
   have hk9:decide (0<k)=false:=by simp;omega
   have Zx:=oP (fin.out _ (BS hpos));replace hpos:Hid (k=0):=hpos;refine wp_region_quiet_below (by kernel_rfl) (by kernel_rfl) ?_
   repeat(go_big_quiet_step (first|exact YO.out _ _|exact HCE.out _ _))
   refine wpQuiet_nil ?_;rintro _ ⟨⟨dq,osq⟩,rfl⟩;cases ex;case false=>
    have HN:Hid (bB (ae rs)=false):=HBAD.out (by rw[Zx.out];rfl);go_wp2;go_ret;exact⟨ah HN.out.symm,YE.out dq osq⟩
   have ZB:Hid (jm (ae rs) (k+1)=true):=by show _=_;simp only[jm];rw[HP.out,Zx.out];rfl
   go_wp2;go_roundw;case rel=>exact⟨k+1,by omega,by go_num,ZB,YE.out dq osq⟩
   simp[intOf]<;>omega
  obtain⟨m,hm⟩:∃m,k=m+1:=⟨k-1,by omega⟩;have Yv:m<rs.length:=by omega
  have hk0:(0:Int)<(k:Int):=by omega
  have hk9:decide (0<k)=true:=by simp;omega
  have hkm:(k:Int)-1=(m:Int):=by omega
  have hwm:IntKind.i64.wrap (m:Int)=(m:Int):=by rw[IntKind.wrap_i64];omega
  have hm1:=bY m;have hm2:(m:Int)<(rs.length:Int):=by omega
  have qm:=cell_regrown (aD Yq.out hb (HTP.out m Yv));have Zx:=oP (fin.out _ (BQ hm Yv));replace hm:Hid (k=m+1):=hm;cases hless:Op.bytesLess rs[m].name.toList rs[k].name.toList;case false=>
   have HN:Hid (bB (ae rs)=false):=HBAD.out (by rw[Zx.out];simp[jN,hless]);refine wp_region_quiet_below (by kernel_rfl) (by kernel_rfl) ?_
   repeat(go_big_quiet_step (first|exact YO.out _ _|exact HCE.out _ _))
   refine wpQuiet_nil ?_;rintro _ ⟨⟨dq,osq⟩,rfl⟩;go_wp2;go_ret;exact⟨ah HN.out.symm,YE.out dq osq⟩
  refine wp_region_quiet_below (by kernel_rfl) (by kernel_rfl) ?_
  repeat(go_big_quiet_step (first|exact YO.out _ _|exact HCE.out _ _))
  refine wpQuiet_nil ?_;rintro _ ⟨⟨dq,osq⟩,rfl⟩;cases ex;case false=>
   have HN:Hid (bB (ae rs)=false):=HBAD.out (by rw[Zx.out];simp);go_wp2;go_ret;exact⟨ah HN.out.symm,YE.out dq osq⟩
  have ZB:Hid (jm (ae rs) (k+1)=true):=by show _=_;simp only[jm];rw[HP.out,Zx.out];simp[jN,hless]
  go_wp2;go_roundw;case rel=>exact⟨k+1,by omega,by go_num,ZB,YE.out dq osq⟩
  simp[intOf]<;>omega
 obtain rfl:k=rs.length:=by omega
 have HY:Hid (bB (ae rs)=true):=by show _=_;rw[HALL.out,HP.out];simp;omega
 go_wp2;go_ret;exact⟨ah HY.out.symm,HB.out⟩
open Maps
set_option linter.unusedVariables false
set_option maxRecDepth 100000
end Go.Proofs.YtojjoblnpldniaaGreat
