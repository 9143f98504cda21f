/- Contracts of the program's looks at a schema's shape. -/
import Derived.Test.YtajkkeikihhejaaGreatSq
import Derived.Test.YtajkkeikihhejaaGreatSpecSchema11
import Derived.Test.YtajkkeikihhejaaGreatJ18
open Go.Proofs.Tryz
set_option maxHeartbeats 80000000
namespace Go.Proofs.YtajkkeikihhejaaGreat
open Go.ChangeShapes Go.WideShapes Go.ChangeAt Go.RowKit
open Pl
open Go.Sort
def gX (rs:List RR):Bool:=decide (rs.length<=6)&&dI (eF rs) rs.length
theorem Jm {rs:List RR}{k:Nat}(h:k<rs.length):ma (eF rs) k=(aR rs[k].name&&xP (eF rs) rs[k].name k&&aK (aj rs[k].rows)):=CS h
theorem Jn {rs:List TR}{k:Nat}(h:k<rs.length):kw (ae rs) k=(aR rs[k].name&&uU (ae rs) rs[k].name k&&gX rs[k].rows):=by
 rw [CR h];unfold gX;rw [Bool.and_assoc]
set_option maxRecDepth 100000 in
theorem yA (ad:Option Addr)(cap:Nat)(rs:List RR)(w:af)(hlen:rs.length<=1048576)(hs:Ni w ad rs)(hl:∀ r∈rs,r.light)(hf:∀ r∈rs,r.fits)(hcp:∀ r∈rs,r.caps) :
  Calls prog 182 #[.slice ad rs.length cap] w fun e w'=>e=.returned (.bool (gX rs))/\ag w w':=by
 have HS:=aA hs;have HL:=aA hl;have UY:=aA hf;have Xk:=aA hcp;clear hs hl hf hcp;have Yv:Hid (gX rs=(decide (rs.length<=6)&&dI (eF rs) rs.length)):=by show _=_;rfl
 by_cases h6:6<rs.length
 ·have HN:Hid (gX rs=false):=by show _=_;rw [Yv.out];simp;omega
  go_enter func182,ntmps182;go_wp2;go_ret;exact ⟨ah HN.out.symm,Uf _ _⟩
 go_enter func182,ntmps182;go_wp2;go_loopw [10] (fun i wr=>∃ k:Nat,k<=rs.length/\i=.int .i64 k/\Hid (dI (eF rs) k=true)/\Hid (ag w wr)) (fun i _=>rs.length-(intOf i).toNat);case atStart=>exact ⟨0,Ui _,rfl,rfl,Uf _ _⟩
 obtain ⟨k,hk,rfl,HP,HB⟩:=hrel;by_cases hlt:k<rs.length
 ·rcases HS.out.below HB.out with rfl|⟨b,off,rfl,hb,hr,hok⟩
  ·simp at hlt
  obtain ⟨t0,t1⟩:=hr k hlt;have WU:Hid (rs[k].ok wr):=hok rs[k] (Ud hlt);have z1:rs[k].name.size<=maxLen:=(UY.out _ (Ud hlt)).1;have WV:Hid (rs[k].light):=HL.out _ (Ud hlt);have WZ:Hid (rs[k].fits):=UY.out _ (Ud hlt);have HCP:Hid (rs[k].caps):=Xk.out _ (Ud hlt);have hk1:=bF k;have hk2:(k:Int)<(rs.length:Int):=by omega
  have HTP:Hid (∀ (m:Nat) (h:m<rs.length),wr.cell? ⟨b,off+m*2,none⟩=some (.string rs[m].name)):=fun m h=>(hr m h).1;have YT:Hid (ma (eF rs) k=(aR rs[k].name&&xP (eF rs) rs[k].name k&&aK (aj rs[k].rows))):=Jm hlt;have HBAD:Hid (ma (eF rs) k=false->gX rs=false):=fun h=>by rw [Yv.out,tH _ k h _ hlt];simp
  obtain ⟨W1,hW1⟩:∃ W1,W1=wr.alloc (.cells #[.string rs[k].name,.slice rs[k].ad rs[k].rows.length rs[k].cap] 147):=⟨_,rfl⟩;have hal:ag wr W1:=by rw [hW1];exact (Uf _ _).alloc (Ue _) _
  have U2:=aA hal;have hgl:wr.heap.size<W1.heap.size:=by rw [hW1];simp
  have g0:W1.cell? ⟨wr.heap.size,0,none⟩=some (.string rs[k].name):=by rw [hW1];simp
  have g1:W1.cell? ⟨wr.heap.size,1,none⟩=some (.slice rs[k].ad rs[k].rows.length rs[k].cap):=by rw [hW1];simp
  have hb4:b<W1.heap.size:=Nat.lt_trans hb hgl;clear hr hok;go_wp2_with fail;rw [<-hW1];clear hW1 t0 t1 hal;have q0:=cell_regrown g0;have q1:=cell_regrown g1;have Vo:=qc (jQ (W:=W1) (fun W'=>aM rs[k].name W' z1));have YU:Hid (∀ d os,Calls prog 221 #[.slice rs[k].ad rs[k].rows.length rs[k].cap] (grow (redrawn W1 d) os) fun e w''=>e=.returned (.bool (aK (aj rs[k].rows)))/\∃ p:Regrown,w''=grow (redrawn W1 p.d) p.os):=by
   show ∀ d os,Calls prog 221 #[.slice rs[k].ad rs[k].rows.length rs[k].cap] (grow (redrawn W1 d) os) fun e w''=>e=.returned (.bool (aK (aj rs[k].rows)))/\∃ p:Regrown,w''=grow (redrawn W1 p.d) p.os;rw [wB];refine bP fun W' hb=>?_;exact Ak _ _ rs[k].rows _ WV.out.1 WV.out.2 WZ.out.2.2 HCP.out.2 (WU.out.below (U2.out.trans (hb.mono U2.out.size)))
  have Vy:Hid (∀ d os,ag w (grow (redrawn W1 d) os)):=fun d os=>HB.out.trans ((U2.out.mono HB.out.size).trans ((below_regrown W1 d os).mono (Uk HB.out.size U2.out.size)));cases hnm:aR rs[k].name;case false=>
   rw [hnm]at Vo;have HN:Hid (gX rs=false):=HBAD.out (by rw [YT.out];simp [hnm]);refine wp_region_quiet_below (by kernel_rfl) (by kernel_rfl) ?_
   repeat (go_big_quiet_step (exact Vo.out _ _))
   refine wpQuiet_nil ?_;rintro _ ⟨⟨dq,osq⟩,rfl⟩;go_wp2;go_ret;exact ⟨ah HN.out.symm,Vy.out dq osq⟩
  rw [hnm]at Vo;obtain ⟨ex,hex⟩:∃ ex,ex=aK (aj rs[k].rows):=⟨_,rfl⟩;rw [<-hex]at YU YT;have fin:Hid (∀ pv,xP (eF rs) rs[k].name k=pv->ma (eF rs) k=(pv&&ex)):=fun pv h=>by rw [YT.out,hnm,h];simp
  clear hex YT hnm;by_cases hpos:k=0
  ·have hk0:¬ (0:Int)<(k:Int):=by omega
   have hk9:decide (0<k)=false:=by simp;omega
   have Wl:=qc (fin.out _ (zZ hpos));replace hpos:Hid (k=0):=hpos;refine wp_region_quiet_below (by kernel_rfl) (by kernel_rfl) ?_
   repeat (go_big_quiet_step (first|exact Vo.out _ _|exact YU.out _ _))
   refine wpQuiet_nil ?_;rintro _ ⟨⟨dq,osq⟩,rfl⟩;cases ex;case false=>
    have HN:Hid (gX rs=false):=HBAD.out (by rw [Wl.out];rfl);go_wp2;go_ret;exact ⟨ah HN.out.symm,Vy.out dq osq⟩
   have Wp:Hid (dI (eF rs) (k+1)=true):=by show _=_;simp only [dI];rw [HP.out,Wl.out];rfl
   go_wp2;go_roundw;case rel=>exact ⟨k+1,by omega,by go_num,Wp,Vy.out dq osq⟩
   simp [intOf] <;> omega
  obtain ⟨m,hm⟩:∃ m,k=m+1:=⟨k-1,by omega⟩;have Vl:m<rs.length:=by omega
  have hk0:(0:Int)<(k:Int):=by omega
  have hk9:decide (0<k)=true:=by simp;omega
  have hkm:(k:Int)-1=(m:Int):=by omega
  have hwm:IntKind.i64.wrap (m:Int)=(m:Int):=by rw [IntKind.wrap_i64];omega
  have hm1:=bF m;have hm2:(m:Int)<(rs.length:Int):=by omega
  have qm:=cell_regrown (aH U2.out hb (HTP.out m Vl));have Wl:=qc (fin.out _ (zX hm Vl));replace hm:Hid (k=m+1):=hm;cases hless:Op.bytesLess rs[m].name.toList rs[k].name.toList;case false=>
   have HN:Hid (gX rs=false):=HBAD.out (by rw [Wl.out];simp [jf,hless]);refine wp_region_quiet_below (by kernel_rfl) (by kernel_rfl) ?_
   repeat (go_big_quiet_step (first|exact Vo.out _ _|exact YU.out _ _))
   refine wpQuiet_nil ?_;rintro _ ⟨⟨dq,osq⟩,rfl⟩;go_wp2;go_ret;exact ⟨ah HN.out.symm,Vy.out dq osq⟩
  refine wp_region_quiet_below (by kernel_rfl) (by kernel_rfl) ?_
  repeat (go_big_quiet_step (first|exact Vo.out _ _|exact YU.out _ _))
  refine wpQuiet_nil ?_;rintro _ ⟨⟨dq,osq⟩,rfl⟩;cases ex;case false=>
   have HN:Hid (gX rs=false):=HBAD.out (by rw [Wl.out];simp);go_wp2;go_ret;exact ⟨ah HN.out.symm,Vy.out dq osq⟩
  have Wp:Hid (dI (eF rs) (k+1)=true):=by show _=_;simp only [dI];rw [HP.out,Wl.out];simp [jf,hless]
  go_wp2;go_roundw;case rel=>exact ⟨k+1,by omega,by go_num,Wp,Vy.out dq osq⟩
  simp [intOf] <;> omega
 obtain rfl:k=rs.length:=by omega
 have HY:Hid (gX rs=true):=by show _=_;rw [Yv.out,HP.out];simp;omega
 go_wp2;go_ret;exact ⟨ah HY.out.symm,HB.out⟩
set_option maxRecDepth 100000 in
theorem Gr (ad:Option Addr)(cap:Nat)(rs:List TR)(w:af)(hlen:rs.length<=1048576)(hs:kX w ad rs)(hl:∀ r∈rs,r.light)(hf:∀ r∈rs,r.fits)(hcp:∀ r∈rs,r.caps) :
  Calls prog 131 #[.slice ad rs.length cap] w fun e w'=>e=.returned (.bool (bi (ae rs)))/\ag w w':=by
 have HS:=aA hs;have HL:=aA hl;have UY:=aA hf;have Xk:=aA hcp;clear hs hl hf hcp;have Yv:Hid (bi (ae rs)=(decide (rs.length<=6)&&iM (ae rs) rs.length)):=by show _=_;unfold bi;rw [kY]
 by_cases h6:6<rs.length
 ·have HN:Hid (bi (ae rs)=false):=by show _=_;rw [Yv.out];simp;omega
  go_enter func131,ntmps131;go_wp2;go_ret;exact ⟨ah HN.out.symm,Uf _ _⟩
 go_enter func131,ntmps131;go_wp2;go_loopw [10] (fun i wr=>∃ k:Nat,k<=rs.length/\i=.int .i64 k/\Hid (iM (ae rs) k=true)/\Hid (ag w wr)) (fun i _=>rs.length-(intOf i).toNat);case atStart=>exact ⟨0,Ui _,rfl,rfl,Uf _ _⟩
 obtain ⟨k,hk,rfl,HP,HB⟩:=hrel;by_cases hlt:k<rs.length
 ·rcases HS.out.below HB.out with rfl|⟨b,off,rfl,hb,hr,hok⟩
  ·simp at hlt
  obtain ⟨t0,t1⟩:=hr k hlt;have WU:Hid (rs[k].ok wr):=hok rs[k] (Ud hlt);have z1:rs[k].name.size<=maxLen:=(UY.out _ (Ud hlt)).1;have WV:Hid (rs[k].light):=HL.out _ (Ud hlt);have WZ:Hid (rs[k].fits):=UY.out _ (Ud hlt);have HCP:Hid (rs[k].caps):=Xk.out _ (Ud hlt);have hk1:=bF k;have hk2:(k:Int)<(rs.length:Int):=by omega
  have HTP:Hid (∀ (m:Nat) (h:m<rs.length),wr.cell? ⟨b,off+m*2,none⟩=some (.string rs[m].name)):=fun m h=>(hr m h).1;have YT:Hid (kw (ae rs) k=(aR rs[k].name&&uU (ae rs) rs[k].name k&&gX rs[k].rows)):=Jn hlt;have HBAD:Hid (kw (ae rs) k=false->bi (ae rs)=false):=fun h=>by rw [Yv.out,tJ _ k h _ hlt];simp
  obtain ⟨W1,hW1⟩:∃ W1,W1=wr.alloc (.cells #[.string rs[k].name,.slice rs[k].ad rs[k].rows.length rs[k].cap] 127):=⟨_,rfl⟩;have hal:ag wr W1:=by rw [hW1];exact (Uf _ _).alloc (Ue _) _
  have U2:=aA hal;have hgl:wr.heap.size<W1.heap.size:=by rw [hW1];simp
  have g0:W1.cell? ⟨wr.heap.size,0,none⟩=some (.string rs[k].name):=by rw [hW1];simp
  have g1:W1.cell? ⟨wr.heap.size,1,none⟩=some (.slice rs[k].ad rs[k].rows.length rs[k].cap):=by rw [hW1];simp
  have hb4:b<W1.heap.size:=Nat.lt_trans hb hgl;clear hr hok;go_wp2_with fail;rw [<-hW1];clear hW1 t0 t1 hal;have q0:=cell_regrown g0;have q1:=cell_regrown g1;have Vo:=qc (jQ (W:=W1) (fun W'=>aM rs[k].name W' z1));have YU:Hid (∀ d os,Calls prog 182 #[.slice rs[k].ad rs[k].rows.length rs[k].cap] (grow (redrawn W1 d) os) fun e w''=>e=.returned (.bool (gX rs[k].rows))/\∃ p:Regrown,w''=grow (redrawn W1 p.d) p.os):=by
   refine bP fun W' hb=>?_;exact yA _ _ rs[k].rows _ WV.out.1 (WU.out.below (U2.out.trans (hb.mono U2.out.size))) WV.out.2 WZ.out.2.2 HCP.out.2
  have Vy:Hid (∀ d os,ag w (grow (redrawn W1 d) os)):=fun d os=>HB.out.trans ((U2.out.mono HB.out.size).trans ((below_regrown W1 d os).mono (Uk HB.out.size U2.out.size)));cases hnm:aR rs[k].name;case false=>
   rw [hnm]at Vo;have HN:Hid (bi (ae rs)=false):=HBAD.out (by rw [YT.out];simp [hnm]);refine wp_region_quiet_below (by kernel_rfl) (by kernel_rfl) ?_
   repeat (go_big_quiet_step (exact Vo.out _ _))
   refine wpQuiet_nil ?_;rintro _ ⟨⟨dq,osq⟩,rfl⟩;go_wp2;go_ret;exact ⟨ah HN.out.symm,Vy.out dq osq⟩
  rw [hnm]at Vo;obtain ⟨ex,hex⟩:∃ ex,ex=gX rs[k].rows:=⟨_,rfl⟩;rw [<-hex]at YU YT;have fin:Hid (∀ pv,uU (ae rs) rs[k].name k=pv->kw (ae rs) k=(pv&&ex)):=fun pv h=>by rw [YT.out,hnm,h];simp
  clear hex YT hnm;by_cases hpos:k=0
  ·have hk0:¬ (0:Int)<(k:Int):=by omega
   have hk9:decide (0<k)=false:=by simp;omega
   have Wl:=qc (fin.out _ (zY hpos));replace hpos:Hid (k=0):=hpos;refine wp_region_quiet_below (by kernel_rfl) (by kernel_rfl) ?_
   repeat (go_big_quiet_step (first|exact Vo.out _ _|exact YU.out _ _))
   refine wpQuiet_nil ?_;rintro _ ⟨⟨dq,osq⟩,rfl⟩;cases ex;case false=>
    have HN:Hid (bi (ae rs)=false):=HBAD.out (by rw [Wl.out];rfl);go_wp2;go_ret;exact ⟨ah HN.out.symm,Vy.out dq osq⟩
   have Wp:Hid (iM (ae rs) (k+1)=true):=by show _=_;simp only [iM];rw [HP.out,Wl.out];rfl
   go_wp2;go_roundw;case rel=>exact ⟨k+1,by omega,by go_num,Wp,Vy.out dq osq⟩
   simp [intOf] <;> omega
  obtain ⟨m,hm⟩:∃ m,k=m+1:=⟨k-1,by omega⟩;have Vl:m<rs.length:=by omega
  have hk0:(0:Int)<(k:Int):=by omega
  have hk9:decide (0<k)=true:=by simp;omega
  have hkm:(k:Int)-1=(m:Int):=by omega
  have hwm:IntKind.i64.wrap (m:Int)=(m:Int):=by rw [IntKind.wrap_i64];omega
  have hm1:=bF m;have hm2:(m:Int)<(rs.length:Int):=by omega
  have qm:=cell_regrown (aH U2.out hb (HTP.out m Vl));have Wl:=qc (fin.out _ (zW hm Vl));replace hm:Hid (k=m+1):=hm;cases hless:Op.bytesLess rs[m].name.toList rs[k].name.toList;case false=>
   have HN:Hid (bi (ae rs)=false):=HBAD.out (by rw [Wl.out];simp [jf,hless]);refine wp_region_quiet_below (by kernel_rfl) (by kernel_rfl) ?_
   repeat (go_big_quiet_step (first|exact Vo.out _ _|exact YU.out _ _))
   refine wpQuiet_nil ?_;rintro _ ⟨⟨dq,osq⟩,rfl⟩;go_wp2;go_ret;exact ⟨ah HN.out.symm,Vy.out dq osq⟩
  refine wp_region_quiet_below (by kernel_rfl) (by kernel_rfl) ?_
  repeat (go_big_quiet_step (first|exact Vo.out _ _|exact YU.out _ _))
  refine wpQuiet_nil ?_;rintro _ ⟨⟨dq,osq⟩,rfl⟩;cases ex;case false=>
   have HN:Hid (bi (ae rs)=false):=HBAD.out (by rw [Wl.out];simp);go_wp2;go_ret;exact ⟨ah HN.out.symm,Vy.out dq osq⟩
  have Wp:Hid (iM (ae rs) (k+1)=true):=by show _=_;simp only [iM];rw [HP.out,Wl.out];simp [jf,hless]
  go_wp2;go_roundw;case rel=>exact ⟨k+1,by omega,by go_num,Wp,Vy.out dq osq⟩
  simp [intOf] <;> omega
 obtain rfl:k=rs.length:=by omega
 have HY:Hid (bi (ae rs)=true):=by show _=_;rw [Yv.out,HP.out];simp;omega
 go_wp2;go_ret;exact ⟨ah HY.out.symm,HB.out⟩
end Go.Proofs.YtajkkeikihhejaaGreat
