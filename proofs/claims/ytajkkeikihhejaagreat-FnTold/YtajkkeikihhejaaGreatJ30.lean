/- Contracts of the program's looks at a schema's shape. -/
import Derived.Test.YtajkkeikihhejaaGreatSq
import Derived.Test.YtajkkeikihhejaaGreatSpecSchema11
import Derived.Test.YtajkkeikihhejaaGreatJ20
import Derived.Test.YtajkkeikihhejaaGreatJ29
open Go.Proofs.Tryz
set_option maxHeartbeats 80000000
namespace Go.Proofs.YtajkkeikihhejaaGreat
open Go.ChangeShapes Go.WideShapes Go.ChangeAt Go.RowKit
open Pl
open Go.Sort
def gX (rs:List RR):Bool:=decide (rs.length≤6) && dG (eD rs) rs.length
theorem JS {rs:List RR} {k:Nat} (h:k < rs.length):l8 (eD rs) k=(aP rs[k].name && xQ (eD rs) rs[k].name k && aK (aj rs[k].rows)):=Dk h
theorem JU {rs:List TR} {k:Nat} (h:k < rs.length):kv (ae rs) k=(aP rs[k].name && vC (ae rs) rs[k].name k && gX rs[k].rows):=by
 rw [Dj h]; unfold gX; rw [Bool.and_assoc]
set_option maxRecDepth 100000 in
theorem yu (ad:Option Addr) (cap:Nat) (rs:List RR) (w:af) (hlen:rs.length≤1048576) (hs:M8 w ad rs) (hl:∀ r ∈ rs,r.light) (hf:∀ r ∈ rs,r.fits) (hcp:∀ r ∈ rs,r.caps) :
  Calls prog 182 #[.slice ad rs.length cap] w fun e w'=>e=.returned (.bool (gX rs))∧ag w w':=by
 have HS:=az hs;have HL:=az hl;have UL:=az hf;have WS:=az hcp;clear hs hl hf hcp;have Yh:Hid (gX rs=(decide (rs.length≤6) && dG (eD rs) rs.length)):=by show _=_; rfl
 by_cases h6:6 < rs.length
 ·have HN:Hid (gX rs=false):=by show _=_; rw [Yh.out]; simp; omega
  go_enter func182,ntmps182;go_wp2;go_ret;exact ⟨ah HN.out.symm,TT _ _⟩
 go_enter func182,ntmps182;go_wp2;go_loopw [10] (fun i wr=>∃ k:Nat,k≤rs.length∧i=.int .i64 k∧Hid (dG (eD rs) k=true)∧Hid (ag w wr)) (fun i _=>rs.length - (intOf i).toNat);case atStart=>exact ⟨0,TW _,rfl,rfl,TT _ _⟩
 obtain ⟨k,hk,rfl,HP,HB⟩:=hrel;by_cases hlt:k < rs.length
 ·rcases HS.out.below HB.out with rfl | ⟨b,off,rfl,hb,hr,hok⟩
  ·simp at hlt
  obtain ⟨t0,t1⟩:=hr k hlt;have WA:Hid (rs[k].ok wr):=hok rs[k] (TQ hlt);have z1:rs[k].name.size≤maxLen:=(UL.out _ (TQ hlt)).1;have WE:Hid (rs[k].light):=HL.out _ (TQ hlt);have WH:Hid (rs[k].fits):=UL.out _ (TQ hlt);have HCP:Hid (rs[k].caps):=WS.out _ (TQ hlt);have hk1:=bB k;have hk2:(k:Int) < (rs.length:Int):=by omega
  have HTP:Hid (∀ (m:Nat) (h:m < rs.length),wr.cell? ⟨b,off + m * 2,none⟩=some (.string rs[m].name)):=fun m h=>(hr m h).1;have YL:Hid (l8 (eD rs) k=(aP rs[k].name && xQ (eD rs) rs[k].name k && aK (aj rs[k].rows))):=JS hlt;have HBAD:Hid (l8 (eD rs) k=false→gX rs=false):=fun h=>by rw [Yh.out,tq _ k h _ hlt]; simp
  obtain ⟨W1,hW1⟩:∃ W1,W1=wr.alloc (.cells #[.string rs[k].name,.slice rs[k].ad rs[k].rows.length rs[k].cap] 147):=⟨_,rfl⟩;have hal:ag wr W1:=by rw [hW1]; exact (TT _ _).alloc (TS _) _
  have UN:=az hal;have hgl:wr.heap.size < W1.heap.size:=by rw [hW1]; simp
  have g0:W1.cell? ⟨wr.heap.size,0,none⟩=some (.string rs[k].name):=by rw [hW1]; simp
  have g1:W1.cell? ⟨wr.heap.size,1,none⟩=some (.slice rs[k].ad rs[k].rows.length rs[k].cap):=by rw [hW1]; simp
  have hb4:b < W1.heap.size:=Nat.lt_trans hb hgl;clear hr hok;go_wp2_with fail;rw [← hW1];clear hW1 t0 t1 hal;have q0:=cell_regrown g0;have q1:=cell_regrown g1;have Vk:=pU (jQ (W:=W1) (fun W'=>aL rs[k].name W' z1));have YM:Hid (∀ d os,Calls prog 221 #[.slice rs[k].ad rs[k].rows.length rs[k].cap] (grow (redrawn W1 d) os) fun e w''=>e=.returned (.bool (aK (aj rs[k].rows)))∧∃ p:Regrown,w''=grow (redrawn W1 p.d) p.os):=by
   show ∀ d os,Calls prog 221 #[.slice rs[k].ad rs[k].rows.length rs[k].cap] (grow (redrawn W1 d) os) fun e w''=>e=.returned (.bool (aK (aj rs[k].rows)))∧∃ p:Regrown,w''=grow (redrawn W1 p.d) p.os;rw [vY];refine dm fun W' hb=>?_;exact AP _ _ rs[k].rows _ WE.out.1 WE.out.2 WH.out.2.2 HCP.out.2 (WA.out.below (UN.out.trans (hb.mono UN.out.size)))
  have U9:Hid (∀ d os,ag w (grow (redrawn W1 d) os)):=fun d os=>HB.out.trans ((UN.out.mono HB.out.size).trans ((below_regrown W1 d os).mono (TZ HB.out.size UN.out.size)));cases hnm:aP rs[k].name;case false=>
   rw [hnm] at Vk;have HN:Hid (gX rs=false):=HBAD.out (by rw [YL.out]; simp [hnm]);refine wp_region_quiet_below (by kernel_rfl) (by kernel_rfl) ?_
   repeat (go_big_quiet_step (exact Vk.out _ _))
   refine wpQuiet_nil ?_;rintro _ ⟨⟨dq,osq⟩,rfl⟩;go_wp2;go_ret;exact ⟨ah HN.out.symm,U9.out dq osq⟩
  rw [hnm] at Vk;obtain ⟨ex,hex⟩:∃ ex,ex=aK (aj rs[k].rows):=⟨_,rfl⟩;rw [← hex] at YM YL;have fin:Hid (∀ pv,xQ (eD rs) rs[k].name k=pv→l8 (eD rs) k=(pv && ex)):=fun pv h=>by rw [YL.out,hnm,h]; simp
  clear hex YL hnm;by_cases hpos:k=0
  ·have hk0:¬ (0:Int) < (k:Int):=by omega
   have Z4:decide (0 < k)=false:=by simp; omega
   have VW:=pU (fin.out _ (AL hpos));replace hpos:Hid (k=0):=hpos;refine wp_region_quiet_below (by kernel_rfl) (by kernel_rfl) ?_
   repeat (go_big_quiet_step (first | exact Vk.out _ _ | exact YM.out _ _))
   refine wpQuiet_nil ?_;rintro _ ⟨⟨dq,osq⟩,rfl⟩;cases ex;case false=>
    have HN:Hid (gX rs=false):=HBAD.out (by rw [VW.out]; rfl);go_wp2;go_ret;exact ⟨ah HN.out.symm,U9.out dq osq⟩
   have VZ:Hid (dG (eD rs) (k + 1)=true):=by show _=_; simp only [dG]; rw [HP.out,VW.out]; rfl
   go_wp2;go_roundw;case rel=>exact ⟨k + 1,by omega,by go_num,VZ,U9.out dq osq⟩
   simp [intOf] <;> omega
  obtain ⟨m,hm⟩:∃ m,k=m + 1:=⟨k - 1,by omega⟩;have U5:m < rs.length:=by omega
  have hk0:(0:Int) < (k:Int):=by omega
  have Z4:decide (0 < k)=true:=by simp; omega
  have hkm:(k:Int) - 1=(m:Int):=by omega
  have hwm:IntKind.i64.wrap (m:Int)=(m:Int):=by rw [IntKind.wrap_i64]; omega
  have hm1:=bB m;have hm2:(m:Int) < (rs.length:Int):=by omega
  have qm:=cell_regrown (aG UN.out hb (HTP.out m U5));have VW:=pU (fin.out _ (AC hm U5));replace hm:Hid (k=m + 1):=hm;cases hless:Op.bytesLess rs[m].name.toList rs[k].name.toList;case false=>
   have HN:Hid (gX rs=false):=HBAD.out (by rw [VW.out]; simp [jf,hless]);refine wp_region_quiet_below (by kernel_rfl) (by kernel_rfl) ?_
   repeat (go_big_quiet_step (first | exact Vk.out _ _ | exact YM.out _ _))
   refine wpQuiet_nil ?_;rintro _ ⟨⟨dq,osq⟩,rfl⟩;go_wp2;go_ret;exact ⟨ah HN.out.symm,U9.out dq osq⟩
  refine wp_region_quiet_below (by kernel_rfl) (by kernel_rfl) ?_
  repeat (go_big_quiet_step (first | exact Vk.out _ _ | exact YM.out _ _))
  refine wpQuiet_nil ?_;rintro _ ⟨⟨dq,osq⟩,rfl⟩;cases ex;case false=>
   have HN:Hid (gX rs=false):=HBAD.out (by rw [VW.out]; simp);go_wp2;go_ret;exact ⟨ah HN.out.symm,U9.out dq osq⟩
  have VZ:Hid (dG (eD rs) (k + 1)=true):=by show _=_; simp only [dG]; rw [HP.out,VW.out]; simp [jf,hless]
  go_wp2;go_roundw;case rel=>exact ⟨k + 1,by omega,by go_num,VZ,U9.out dq osq⟩
  simp [intOf] <;> omega
 obtain rfl:k=rs.length:=by omega
 have HY:Hid (gX rs=true):=by show _=_; rw [Yh.out,HP.out]; simp; omega
 go_wp2;go_ret;exact ⟨ah HY.out.symm,HB.out⟩
set_option maxRecDepth 100000 in
theorem GY (ad:Option Addr) (cap:Nat) (rs:List TR) (w:af) (hlen:rs.length≤1048576) (hs:kW w ad rs) (hl:∀ r ∈ rs,r.light) (hf:∀ r ∈ rs,r.fits) (hcp:∀ r ∈ rs,r.caps) :
  Calls prog 131 #[.slice ad rs.length cap] w fun e w'=>e=.returned (.bool (bi (ae rs)))∧ag w w':=by
 have HS:=az hs;have HL:=az hl;have UL:=az hf;have WS:=az hcp;clear hs hl hf hcp;have Yh:Hid (bi (ae rs)=(decide (rs.length≤6) && iK (ae rs) rs.length)):=by show _=_; unfold bi; rw [kX]
 by_cases h6:6 < rs.length
 ·have HN:Hid (bi (ae rs)=false):=by show _=_; rw [Yh.out]; simp; omega
  go_enter func131,ntmps131;go_wp2;go_ret;exact ⟨ah HN.out.symm,TT _ _⟩
 go_enter func131,ntmps131;go_wp2;go_loopw [10] (fun i wr=>∃ k:Nat,k≤rs.length∧i=.int .i64 k∧Hid (iK (ae rs) k=true)∧Hid (ag w wr)) (fun i _=>rs.length - (intOf i).toNat);case atStart=>exact ⟨0,TW _,rfl,rfl,TT _ _⟩
 obtain ⟨k,hk,rfl,HP,HB⟩:=hrel;by_cases hlt:k < rs.length
 ·rcases HS.out.below HB.out with rfl | ⟨b,off,rfl,hb,hr,hok⟩
  ·simp at hlt
  obtain ⟨t0,t1⟩:=hr k hlt;have WA:Hid (rs[k].ok wr):=hok rs[k] (TQ hlt);have z1:rs[k].name.size≤maxLen:=(UL.out _ (TQ hlt)).1;have WE:Hid (rs[k].light):=HL.out _ (TQ hlt);have WH:Hid (rs[k].fits):=UL.out _ (TQ hlt);have HCP:Hid (rs[k].caps):=WS.out _ (TQ hlt);have hk1:=bB k;have hk2:(k:Int) < (rs.length:Int):=by omega
  have HTP:Hid (∀ (m:Nat) (h:m < rs.length),wr.cell? ⟨b,off + m * 2,none⟩=some (.string rs[m].name)):=fun m h=>(hr m h).1;have YL:Hid (kv (ae rs) k=(aP rs[k].name && vC (ae rs) rs[k].name k && gX rs[k].rows)):=JU hlt;have HBAD:Hid (kv (ae rs) k=false→bi (ae rs)=false):=fun h=>by rw [Yh.out,tC _ k h _ hlt]; simp
  obtain ⟨W1,hW1⟩:∃ W1,W1=wr.alloc (.cells #[.string rs[k].name,.slice rs[k].ad rs[k].rows.length rs[k].cap] 127):=⟨_,rfl⟩;have hal:ag wr W1:=by rw [hW1]; exact (TT _ _).alloc (TS _) _
  have UN:=az hal;have hgl:wr.heap.size < W1.heap.size:=by rw [hW1]; simp
  have g0:W1.cell? ⟨wr.heap.size,0,none⟩=some (.string rs[k].name):=by rw [hW1]; simp
  have g1:W1.cell? ⟨wr.heap.size,1,none⟩=some (.slice rs[k].ad rs[k].rows.length rs[k].cap):=by rw [hW1]; simp
  have hb4:b < W1.heap.size:=Nat.lt_trans hb hgl;clear hr hok;go_wp2_with fail;rw [← hW1];clear hW1 t0 t1 hal;have q0:=cell_regrown g0;have q1:=cell_regrown g1;have Vk:=pU (jQ (W:=W1) (fun W'=>aL rs[k].name W' z1));have YM:Hid (∀ d os,Calls prog 182 #[.slice rs[k].ad rs[k].rows.length rs[k].cap] (grow (redrawn W1 d) os) fun e w''=>e=.returned (.bool (gX rs[k].rows))∧∃ p:Regrown,w''=grow (redrawn W1 p.d) p.os):=by
   refine dm fun W' hb=>?_;exact yu _ _ rs[k].rows _ WE.out.1 (WA.out.below (UN.out.trans (hb.mono UN.out.size))) WE.out.2 WH.out.2.2 HCP.out.2
  have U9:Hid (∀ d os,ag w (grow (redrawn W1 d) os)):=fun d os=>HB.out.trans ((UN.out.mono HB.out.size).trans ((below_regrown W1 d os).mono (TZ HB.out.size UN.out.size)));cases hnm:aP rs[k].name;case false=>
   rw [hnm] at Vk;have HN:Hid (bi (ae rs)=false):=HBAD.out (by rw [YL.out]; simp [hnm]);refine wp_region_quiet_below (by kernel_rfl) (by kernel_rfl) ?_
   repeat (go_big_quiet_step (exact Vk.out _ _))
   refine wpQuiet_nil ?_;rintro _ ⟨⟨dq,osq⟩,rfl⟩;go_wp2;go_ret;exact ⟨ah HN.out.symm,U9.out dq osq⟩
  rw [hnm] at Vk;obtain ⟨ex,hex⟩:∃ ex,ex=gX rs[k].rows:=⟨_,rfl⟩;rw [← hex] at YM YL;have fin:Hid (∀ pv,vC (ae rs) rs[k].name k=pv→kv (ae rs) k=(pv && ex)):=fun pv h=>by rw [YL.out,hnm,h]; simp
  clear hex YL hnm;by_cases hpos:k=0
  ·have hk0:¬ (0:Int) < (k:Int):=by omega
   have Z4:decide (0 < k)=false:=by simp; omega
   have VW:=pU (fin.out _ (AJ hpos));replace hpos:Hid (k=0):=hpos;refine wp_region_quiet_below (by kernel_rfl) (by kernel_rfl) ?_
   repeat (go_big_quiet_step (first | exact Vk.out _ _ | exact YM.out _ _))
   refine wpQuiet_nil ?_;rintro _ ⟨⟨dq,osq⟩,rfl⟩;cases ex;case false=>
    have HN:Hid (bi (ae rs)=false):=HBAD.out (by rw [VW.out]; rfl);go_wp2;go_ret;exact ⟨ah HN.out.symm,U9.out dq osq⟩
   have VZ:Hid (iK (ae rs) (k + 1)=true):=by show _=_; simp only [iK]; rw [HP.out,VW.out]; rfl
   go_wp2;go_roundw;case rel=>exact ⟨k + 1,by omega,by go_num,VZ,U9.out dq osq⟩
   simp [intOf] <;> omega
  obtain ⟨m,hm⟩:∃ m,k=m + 1:=⟨k - 1,by omega⟩;have U5:m < rs.length:=by omega
  have hk0:(0:Int) < (k:Int):=by omega
  have Z4:decide (0 < k)=true:=by simp; omega
  have hkm:(k:Int) - 1=(m:Int):=by omega
  have hwm:IntKind.i64.wrap (m:Int)=(m:Int):=by rw [IntKind.wrap_i64]; omega
  have hm1:=bB m;have hm2:(m:Int) < (rs.length:Int):=by omega
  have qm:=cell_regrown (aG UN.out hb (HTP.out m U5));have VW:=pU (fin.out _ (AB hm U5));replace hm:Hid (k=m + 1):=hm;cases hless:Op.bytesLess rs[m].name.toList rs[k].name.toList;case false=>
   have HN:Hid (bi (ae rs)=false):=HBAD.out (by rw [VW.out]; simp [jf,hless]);refine wp_region_quiet_below (by kernel_rfl) (by kernel_rfl) ?_
   repeat (go_big_quiet_step (first | exact Vk.out _ _ | exact YM.out _ _))
   refine wpQuiet_nil ?_;rintro _ ⟨⟨dq,osq⟩,rfl⟩;go_wp2;go_ret;exact ⟨ah HN.out.symm,U9.out dq osq⟩
  refine wp_region_quiet_below (by kernel_rfl) (by kernel_rfl) ?_
  repeat (go_big_quiet_step (first | exact Vk.out _ _ | exact YM.out _ _))
  refine wpQuiet_nil ?_;rintro _ ⟨⟨dq,osq⟩,rfl⟩;cases ex;case false=>
   have HN:Hid (bi (ae rs)=false):=HBAD.out (by rw [VW.out]; simp);go_wp2;go_ret;exact ⟨ah HN.out.symm,U9.out dq osq⟩
  have VZ:Hid (iK (ae rs) (k + 1)=true):=by show _=_; simp only [iK]; rw [HP.out,VW.out]; simp [jf,hless]
  go_wp2;go_roundw;case rel=>exact ⟨k + 1,by omega,by go_num,VZ,U9.out dq osq⟩
  simp [intOf] <;> omega
 obtain rfl:k=rs.length:=by omega
 have HY:Hid (bi (ae rs)=true):=by show _=_; rw [Yh.out,HP.out]; simp; omega
 go_wp2;go_ret;exact ⟨ah HY.out.symm,HB.out⟩
open Go.Maps
def GZ (ts:List Ty) (w:World) (e:Ending) (w':World):Prop :=
 ((∃ (b n:Nat) (σ:Ky→Option Int),e=.returned (.tuple #[.map (some b),.bool true])∧bR ts∧aM dQ prog 94 w' b n (iW σ)∧Least ts (fun k=>(σ k).getD 0)∧∀ k,(∃ x,σ k=some x) ↔ k ∈ ak ts) ∨ (e=.returned (.tuple #[.map none,.bool false])∧¬ bR ts))∧ag w w'
set_option maxRecDepth 100000 in
theorem vQ (ad:Option Addr) (cap:Nat) (rs:List TR) (w:af) (hlen:rs.length≤1048576) (hs:kW w ad rs) (hl:∀ r ∈ rs,r.light) (hf:∀ r ∈ rs,r.fits) (hcp:∀ r ∈ rs,r.caps) :
  Calls prog 91 #[.slice ad rs.length cap] w (GZ (ae rs) w):=by
 have HS:=az hs;have HL:=az hl;have UL:=az hf;have WS:=az hcp;clear hs hl hf hcp;go_enter func91,ntmps91;go_wp2_with fail;refine (GY ad cap rs _ hlen HS.out HL.out UL.out WS.out).mono ?_;rintro e w1 ⟨rfl,hb1⟩;have HB1:=az hb1;clear hb1;cases hsh:bi (ae rs);case false=>
  have HP:Hid (GZ (ae rs) w (.returned (.tuple #[.map none,.bool false])) w1):=⟨.inr ⟨rfl,fun h=>by rw [h.1] at hsh; cases hsh⟩,HB1.out⟩;go_wp2;refine bodyPost_ret (v:=.tuple #[.map none,.bool false]) ?_ rfl HP.out;simp [results,Tryz.results91,go_sem]
 have HSH:Hid (bi (ae rs)=true):=hsh;obtain ⟨h6,Wd,hex⟩:=bq hsh;have V5:Hid (∀ r ∈ rs,r.rows.length≤6):=Wd;have Zx:Hid (∀ r ∈ rs,∀ q ∈ r.rows,aK (aj q.rows)=true∧q.rows.length≤15∧∀ e ∈ q.rows,dV q.rows.length e.e.kids):=hex;have HT:Hid (Tab rs (nX rs)):=wG hsh;clear hsh Wd hex;go_wp2_with fail;refine (qG ad cap rs _ h6 (HS.out.below HB1.out) V5.out UL.out).mono ?_;rintro e w2 ⟨rfl,hV2,hb2⟩;have HB2:=jP HB1 hb2;obtain ⟨bT,hbT⟩:∃ bT,bT=w1.heap.size:=⟨_,rfl⟩;rw [← hbT] at hV2 ⊢;have YZ:Hid (aM dQ prog 94 w2 bT 36 (nX rs)):=hV2;clear hV2 hb2 hbT HB1;go_wp2_with fail;go_loopw [16] (fun i wr=>∃ k:Nat,k≤rs.length∧i=.int .i64 k∧Hid (((ae rs).take k).all (qD (ae rs))=true)∧Hid (ag w wr)∧Hid (aM dQ prog 94 wr bT 36 (nX rs))) (fun i _=>rs.length - (intOf i).toNat);case atStart=>exact ⟨0,TW _,rfl,(by show _=_; simp),HB2,YZ⟩
 clear HB2 YZ;obtain ⟨k,hk,rfl,HP,HB,HV⟩:=hrel;by_cases hlt:k < rs.length
 ·rcases HS.out.below HB.out with rfl | ⟨b,off,rfl,hb,hr,-⟩
  ·simp at hlt
  obtain ⟨t0,t1⟩:=hr k hlt;have hk1:=bB k;have hk2:(k:Int) < (rs.length:Int):=by omega
  have h66:=V5.out _ (TQ hlt);have z0:rs[k].name.size≤maxLen:=(UL.out _ (TQ hlt)).1;obtain ⟨W1,hW1⟩:∃ W1,W1=wr.alloc (.cells #[.string rs[k].name,.slice rs[k].ad rs[k].rows.length rs[k].cap] 127):=⟨_,rfl⟩;have hal:ag wr W1:=by rw [hW1]; exact (TT _ _).alloc (TS _) _
  obtain ⟨g6,XV⟩:∃ g6,g6=wr.heap.size:=⟨_,rfl⟩;have VE:Hid (W1.cell? ⟨g6,0,none⟩=some (.string rs[k].name)∧g6 < W1.heap.size):=⟨by rw [hW1,XV]; simp,by rw [hW1,XV]; simp⟩;have HB1:=jP HB hal;have HV1:=az (HV.out.below hal);clear hr hal HB HV;go_wp2_with fail;rw [← hW1,← XV];clear hW1 t0 t1 XV;go_loopw [23] (fun i w3=>∃ j:Nat,j≤rs[k].rows.length∧i=.int .i64 j∧Hid (((eD rs[k].rows).take j).all (fun r=>aR (ae rs) rs[k].name r.expr)=true)∧Hid (ag w w3)∧Hid (aM dQ prog 94 w3 bT 36 (nX rs))∧Hid (w3.cell? ⟨g6,0,none⟩=some (.string rs[k].name)∧g6 < w3.heap.size)) (fun i _=>rs[k].rows.length - (intOf i).toNat);case atStart=>exact ⟨0,TW _,rfl,(by show _=_; simp),HB1,HV1,VE⟩
  clear HB1 HV1 VE;obtain ⟨j,hj,rfl,HR,HB,HV,HC⟩:=hrel;by_cases hjl:j < rs[k].rows.length
  ·rcases HS.out.below HB.out with hnil | ⟨b',off',he,hb2,hr,hok⟩
   ·rw [hnil] at hlt; simp at hlt
   injection he with he; injection he with he1 he2; subst he1; subst he2;have ok:=hok rs[k] (TQ hlt);rcases ok with hnil | ⟨b2,UZ,had,hbb,hr2,hok2⟩
   ·rw [hnil] at hjl; simp at hjl
   obtain ⟨q0,q1⟩:=hr2 j hjl;have WA:Hid (iH wr rs[k].rows[j].ad rs[k].rows[j].rows):=hok2 _ (TQ hjl);have WE:Hid (rs[k].rows[j].light):=(HL.out _ (TQ hlt)).2 _ (TQ hjl);have WH:Hid (rs[k].rows[j].fits):=(UL.out _ (TQ hlt)).2.2 _ (TQ hjl);have HNB:Hid (∀ q ∈ rs[k].rows[j].rows,av q.e=true):=fun q hq=>jm (Zx.out _ (TQ hlt) _ (TQ hjl)).1 q.e (by unfold aj; exact List.mem_map_of_mem hq);have hj1:=bB j;have hj2:(j:Int) < (rs[k].rows.length:Int):=by omega
   obtain ⟨x0,x1⟩:=HC.out;obtain ⟨W3,hW3⟩:∃ W3,W3=wr.alloc (.cells #[.string rs[k].rows[j].name,.slice rs[k].rows[j].ad rs[k].rows[j].rows.length rs[k].rows[j].cap] 147):=⟨_,rfl⟩;have hal:ag wr W3:=by rw [hW3]; exact (TT _ _).alloc (TS _) _
   have HB3:=jP HB hal;have HV3:=az (HV.out.below hal);have UN:=az hal;have Xu:Hid (W3.cell? ⟨g6,0,none⟩=some (.string rs[k].name)∧g6 < W3.heap.size):=⟨aG hal x1 x0,TP x1 hal.size⟩;have HTS:Hid ((eD rs[k].rows).take (j + 1)=(eD rs[k].rows).take j ++ [rs[k].rows[j].p]):=Gn rs[k].rows j hjl;rw [had];clear hr hok hr2 hok2 hal HB HV HC;go_wp2_with fail;rw [← hW3];clear hW3 q0 q1 x0 x1;refine (Ab (some ⟨b,off,none⟩) rs[k].rows[j].ad cap rs[k].rows[j].cap rs bT 36 (nX rs) rs[k].name rs[k].rows[j].rows _ hlen (HS.out.below HB3.out) HL.out UL.out HV3.out HT.out z0 WE.out.1 (WA.out.below UN.out) WE.out.2 WH.out.2.2 HNB.out).mono ?_;rintro e w5 ⟨rfl,hb5⟩;have VQ:=jP HB3 hb5;have HV5:=az (HV3.out.below hb5);have Wy:Hid (w5.cell? ⟨g6,0,none⟩=some (.string rs[k].name)∧g6 < w5.heap.size):=⟨aG hb5 Xu.out.2 Xu.out.1,TP Xu.out.2 hb5.size⟩;clear hb5;cases hrf:aR (ae rs) rs[k].name (aj rs[k].rows[j].rows);case false=>
    have HPO:Hid (GZ (ae rs) w (.returned (.tuple #[.map none,.bool false])) w5):=by
     refine ⟨.inr ⟨rfl,fun hs=>?_⟩,VQ.out⟩;have h1:=hs.2.1;unfold iD at h1;rw [Ub] at h1;have h2:=h1 rs[k].p (by unfold ae; exact List.mem_map_of_mem (TQ hlt));unfold qD at h2;rw [Ub] at h2;have h3:=h2 rs[k].rows[j].p (by show _ ∈ eD rs[k].rows; unfold eD; exact List.mem_map_of_mem (TQ hjl));have h4:aR (ae rs) rs[k].name (aj rs[k].rows[j].rows)=true:=h3;rw [hrf] at h4; cases h4
    go_wp2;refine bodyPost_ret (v:=.tuple #[.map none,.bool false]) ?_ rfl HPO.out;simp [results,Tryz.results91,go_sem]
   have VZ:Hid (((eD rs[k].rows).take (j + 1)).all (fun r=>aR (ae rs) rs[k].name r.expr)=true):=by
    show _=_;rw [HTS.out,List.all_append,HR.out];have:aR (ae rs) rs[k].name rs[k].rows[j].p.expr=true:=hrf;simp [this]
   go_wp2;go_roundw;case rel=>exact ⟨j + 1,by omega,by go_num,VZ,VQ,HV5,Wy⟩
   simp [intOf] <;> omega
  obtain rfl:j=rs[k].rows.length:=by omega
  have HPN:Hid (((ae rs).take (k + 1)).all (qD (ae rs))=true):=by
   show _=_;rw [Gm rs k hlt,List.all_append,HP.out];have h1:=HR.out;rw [← q8,Ug] at h1;have:qD (ae rs) rs[k].p=true:=h1;simp [this]
  go_wp2;go_roundw;case rel=>exact ⟨k + 1,by omega,by go_num,HPN,HB,HV⟩
  simp [intOf] <;> omega
 obtain rfl:k=rs.length:=by omega
 have Xg:Hid (iD (ae rs)=true):=by
  have h1:=HP.out;rw [← kX,Ug] at h1;exact h1
 go_wp2_with fail;refine (BG ad cap rs bT 36 (nX rs) _ h6 (HS.out.below HB.out) HL.out UL.out V5.out (fun r hr q hq=>(Zx.out r hr q hq).2) (PO HSH.out) HV.out HT.out).mono ?_;rintro e w5 ⟨rfl,⟨nL,ML,hG5⟩,hb5⟩;have VQ:=jP HB hb5;have HG5:Hid (Grp w5 wr.heap.size nL ML (ji (ae rs) rs)):=hG5;clear hG5 hb5;go_wp2_with fail;refine (yt ad cap rs wr.heap.size nL ML (ji (ae rs) rs) _ h6 (HS.out.below VQ.out) UL.out V5.out HG5.out (QX HSH.out Xg.out) (kw Xg.out) (MJ rs V5.out Zx.out (PO HSH.out))).mono ?_;rintro e w6 ⟨hL,hb6⟩;have WJ:=jP VQ hb6;clear hb6;rcases hL with ⟨bS,nS,σ,rfl,hM,Wl,hk⟩ | ⟨rfl,hno⟩
 ·have HPO:Hid (GZ (ae rs) w (.returned (.tuple #[.map (some bS),.bool true])) w6):=⟨.inl ⟨bS,nS,σ,rfl,⟨HSH.out,Xg.out,_,Wl.sol⟩,hM,Wl,hk⟩,WJ.out⟩;clear hM Wl hk;go_wp2;refine bodyPost_ret (v:=.tuple #[.map (some bS),.bool true]) ?_ rfl HPO.out;simp [results,Tryz.results91,go_sem]
 have HPO:Hid (GZ (ae rs) w (.returned (.tuple #[.map none,.bool false])) w6):=⟨.inr ⟨rfl,fun h=>hno h.2.2⟩,WJ.out⟩;clear hno;go_wp2;refine bodyPost_ret (v:=.tuple #[.map none,.bool false]) ?_ rfl HPO.out;simp [results,Tryz.results91,go_sem]
def sF (ts:List Ty) (oa ob r c d s:ByteArray):Bool:=dF (aU (aA ts oa r)) (aU (aA ts oa r)).length ⟨c,s⟩ && bI oa ob r c d s
theorem G5:∀ {es:List Ex} (a:Al),own es=0→es.any (nE a)=false
 | [],_,_=>rfl
 | e::es,a,h=>by
  by_cases h1:e.kind=1
  ·simp [own,h1] at h
  rw [List.any_cons,G5 a (by simpa [own,h1] using h)];simp [nE,h1]
theorem G6:∀ {es:List Ex} (a:Al),own es≤1→es.any (nE a)=dF (aU es) (aU es).length a
 | [],_,_=>rfl
 | e::es,a,h=>by
  by_cases h1:e.kind=1
  ·rw [List.any_cons,G5 a (by simp [own,h1] at h; simpa [own] using h)];simp [nE,h1,aU]
  rw [List.any_cons,G6 a (by simpa [own,h1] using h)];simp [nE,h1,aU]
theorem MP {xs:List Al} {a:Al} {k:Nat} (h:k < xs.length) (hk:jR xs[k] a=true):dF xs xs.length a=true:=by
 unfold dF;rw [Ug,Uo];exact ⟨_,TQ h,hk⟩
def DC (ts:List Ty) (oa ob r c d s:ByteArray):Bool:=aJ ts && sF ts oa ob r c d s
theorem SH {es:List Ex} (h:aK es=true):own es≤1:=by
 unfold aK at h; simp at h; omega
theorem Q3 {rs:List TR} (h:bR (ae rs)) (ty n:bH):own (aA (ae rs) ty n)≤1:=by
 unfold aA;cases e:fI (ae rs) ty n with
 | none=>simp [own]
 | some es =>
  obtain ⟨t,ht,q,hq,-,-,rfl⟩:=nY e;exact SH ((bq h.1).2.2 t ht q hq).1
set_option maxRecDepth 100000 in
theorem Bj (ad:Option Addr) (cap:Nat) (rs:List TR) (oa ob r c d s:bH) (w:af) (hlen:rs.length≤1048576) (hs:kW w ad rs) (hl:∀ r ∈ rs,r.light) (ha:oa.size≤maxLen) (hb:ob.size≤maxLen) (hr:r.size≤maxLen) (hc:c.size≤maxLen) (hd:d.size≤maxLen) (hz:s.size≤maxLen) :
  Calls prog 94 #[.slice ad rs.length cap,.agg #[.string oa,.string ob,.string r,.string c,.string d,.string s]] w fun e w'=>e=.returned (.bool (sF (ae rs) oa ob r c d s))∧ag w w':=by
 have HS:=az hs;have HL:=az hl;clear hs hl;obtain ⟨W0,hW0⟩:∃ W0,W0=w.alloc (.cells #[.string oa,.string ob,.string r,.string c,.string d,.string s] 46):=⟨_,rfl⟩;have hal:ag w W0:=by rw [hW0]; exact (TT _ _).alloc (TS _) _
 have HB0:=az hal;have VD:Hid (W0.cell? ⟨w.heap.size,0,none⟩=some (.string oa)∧W0.cell? ⟨w.heap.size,1,none⟩=some (.string ob)∧W0.cell? ⟨w.heap.size,2,none⟩=some (.string r)∧W0.cell? ⟨w.heap.size,3,none⟩=some (.string c)∧W0.cell? ⟨w.heap.size,4,none⟩=some (.string d)∧W0.cell? ⟨w.heap.size,5,none⟩=some (.string s)∧w.heap.size < W0.heap.size):=by
  show _∧_;rw [hW0]; refine ⟨?_,?_,?_,?_,?_,?_,?_⟩ <;> simp
 clear hal;go_enter func94,ntmps94;go_wp2_with fail;rw [← hW0];clear hW0;refine (jd ad cap rs oa r _ hlen (HS.out.below HB0.out) HL.out).mono ?_;rintro e w1 ⟨⟨rows,UC,capE,rfl,hex,hse,hfr⟩,hw1⟩;replace hw1:=hw1.symm;subst hw1;have HX:Hid (aj rows=aA (ae rs) oa r):=hex;have WA:=az hse;have Vj:=hfr.light HL.out;have hrl:rows.length≤1048576:=Vj.1;have WE:Hid (∀ q ∈ rows,q.e.light):=Vj.2;clear hex hse hfr Vj;go_wp2_with fail;refine (xy UC capE rows _ hrl WA.out).mono ?_;rintro e w1 ⟨⟨adA,capA,rfl,hsa,hfa⟩,hw1⟩;replace hw1:=hw1.symm;subst hw1;obtain ⟨xs,hxs⟩:∃ xs,xs=aU (aj rows):=⟨_,rfl⟩;rw [← hxs] at hsa hfa ⊢;have Wj:Hid (xs=aU (aA (ae rs) oa r)):=by rw [← HX.out]; exact hxs
 have HSA:=az hsa;have hxl:xs.length≤1048576:=by
  rcases hfa with h | ⟨q,hq,h,-⟩
  ·rw [h]; simp
  rw [h]; exact (WE.out q hq).1
 clear hxs hsa hfa WE WA HX;go_wp2;go_loopw [6] (fun i wr=>∃ k:Nat,k≤xs.length∧i=.int .i64 k∧Hid (dF xs k ⟨c,s⟩=false)∧Hid (ag W0 wr)) (fun i _=>xs.length - (intOf i).toNat);case atStart=>exact ⟨0,TW _,rfl,sN _ _,TT _ _⟩
 obtain ⟨k,hk,rfl,HP,HB⟩:=hrel;have UG:Hid (ag w wr):=HB0.out.trans (HB.out.mono HB0.out.size);by_cases hlt:k < xs.length
 ·rcases HSA.out.below HB.out with hnil | ⟨b,off,rfl,hb5,Y4⟩
  ·rw [hnil] at hlt; simp at hlt
  obtain ⟨t0,t1⟩:=Y4 k hlt;have hk1:=bB k;have hk2:(k:Int) < (xs.length:Int):=by omega
  have hwl:w.heap.size < wr.heap.size:=TP VD.out.2.2.2.2.2.2 HB.out.size;have c0:=aG HB.out VD.out.2.2.2.2.2.2 VD.out.1;have c1:=aG HB.out VD.out.2.2.2.2.2.2 VD.out.2.1;have c2:=aG HB.out VD.out.2.2.2.2.2.2 VD.out.2.2.1;have c3:=aG HB.out VD.out.2.2.2.2.2.2 VD.out.2.2.2.1;have c4:=aG HB.out VD.out.2.2.2.2.2.2 VD.out.2.2.2.2.1;have c5:=aG HB.out VD.out.2.2.2.2.2.2 VD.out.2.2.2.2.2.1;have Zu:Hid (dF xs (k + 1) ⟨c,s⟩=jR xs[k] ⟨c,s⟩):=by show _=_; rw [sM _ _ _ hlt,HP.out]; rfl
  clear Y4;go_wp2_with fail;cases h1:(xs[k].t.toList == c.toList);case false=>
   refine nz 19 (fun n=>(u21::u22::u23::u24::u25::u26::u27::u28::u29::u30::u31::u32::u33::u34::u35::u36::u37::u38::u39::[]).getD n undef) (fun fq=>{ tmps:=List.toArray (Value.slice ad rs.length cap::.agg #[.string oa,.string ob,.string r,.string c,.string d,.string s]::undef::.pointer (some ⟨w.heap.size,0,none⟩)::u4::.slice (some ⟨b,off,none⟩) xs.length capA::.int .i64 k::.slice ad rs.length cap::.pointer (some ⟨w.heap.size,0,none⟩)::.pointer (some ⟨w.heap.size,0,none⟩)::.string oa::.pointer (some ⟨w.heap.size,2,none⟩)::.string r::.slice UC rows.length capE::.slice (some ⟨b,off,none⟩) xs.length capA::.int .i64 k::.slice (some ⟨b,off,none⟩) xs.length capA::.int .i64 xs.length::.bool true::u19::u20::fq 0::fq 1::fq 2::fq 3::fq 4::fq 5::fq 6::fq 7::fq 8::fq 9::fq 10::fq 11::fq 12::fq 13::fq 14::fq 15::fq 16::fq 17::fq 18::u40::u41::[]),defers:=[] }) (fun n v _=>v=(Value.slice (some ⟨b,off,none⟩) xs.length capA::.int .i64 k::.pointer (some ⟨b,off + k * 2,none⟩)::.pointer (some ⟨b,off + k * 2,none⟩)::.string xs[k].t::.pointer (some ⟨w.heap.size,3,none⟩)::.pointer (some ⟨w.heap.size,3,none⟩)::.string c::.bool false::.bool false::undef::undef::undef::undef::undef::undef::undef::undef::.bool false::[]).getD n undef) (fun w'=>ag wr w') (by kernel_rfl) rfl (by kernel_rfl) rfl (TT _ _).drew ?stepA ?finA;case stepA =>
    rintro i hi o ho fq w' hG hpre;have HG:Hid (ag wr w'):=hG;replace t0:=aG hG hb5 t0;replace t1:=aG hG hb5 t1;replace c3:=aG hG hwl c3;replace c5:=aG hG hwl c5;have HM:Hid (∀ e ∈ o.after,Region.binds .any e=true→_):=hpre;clear hG hpre;have hc:=J4 (i:=i) (by omega);clear hi
    repeat' rcases hc with rfl | hc
    iterate 19
     ·cases ho;have hm:=HM.out
      try simp [Region.binds] at hm
      refine aa rfl fun K HK=>?_;clear HM
      try simp only [hm]
      go_simp;exact HK.out _ _ ⟨_,by simp [upd, *],HG.out,rfl,fun k u hu=>hu⟩
   case finA =>
    rintro fq w' hG hall;have e18:fq 18=.bool false:=hall 18 (by omega);have HG:Hid (ag wr w'):=hG;clear hall;clear hG;have HB2:Hid (ag W0 w'):=HB.out.trans (HG.out.mono HB.out.size);have UI:Hid (dF xs (k + 1) ⟨c,s⟩=false):=by show _=_; rw [Zu.out]; simp [jR,h1]
    rw [e18];go_wp2;go_roundw;case rel=>exact ⟨k + 1,by omega,by go_num,UI,HB2⟩
    simp [intOf] <;> omega
  cases h2:(xs[k].s.toList == s.toList);case false=>
   refine nz 19 (fun n=>(u21::u22::u23::u24::u25::u26::u27::u28::u29::u30::u31::u32::u33::u34::u35::u36::u37::u38::u39::[]).getD n undef) (fun fq=>{ tmps:=List.toArray (Value.slice ad rs.length cap::.agg #[.string oa,.string ob,.string r,.string c,.string d,.string s]::undef::.pointer (some ⟨w.heap.size,0,none⟩)::u4::.slice (some ⟨b,off,none⟩) xs.length capA::.int .i64 k::.slice ad rs.length cap::.pointer (some ⟨w.heap.size,0,none⟩)::.pointer (some ⟨w.heap.size,0,none⟩)::.string oa::.pointer (some ⟨w.heap.size,2,none⟩)::.string r::.slice UC rows.length capE::.slice (some ⟨b,off,none⟩) xs.length capA::.int .i64 k::.slice (some ⟨b,off,none⟩) xs.length capA::.int .i64 xs.length::.bool true::u19::u20::fq 0::fq 1::fq 2::fq 3::fq 4::fq 5::fq 6::fq 7::fq 8::fq 9::fq 10::fq 11::fq 12::fq 13::fq 14::fq 15::fq 16::fq 17::fq 18::u40::u41::[]),defers:=[] }) (fun n v _=>v=(Value.slice (some ⟨b,off,none⟩) xs.length capA::.int .i64 k::.pointer (some ⟨b,off + k * 2,none⟩)::.pointer (some ⟨b,off + k * 2,none⟩)::.string xs[k].t::.pointer (some ⟨w.heap.size,3,none⟩)::.pointer (some ⟨w.heap.size,3,none⟩)::.string c::.bool true::.bool true::.slice (some ⟨b,off,none⟩) xs.length capA::.int .i64 k::.pointer (some ⟨b,off + k * 2,none⟩)::.pointer (some ⟨b,off + k * 2 + 1,none⟩)::.string xs[k].s::.pointer (some ⟨w.heap.size,5,none⟩)::.string s::.bool false::.bool false::[]).getD n undef) (fun w'=>ag wr w') (by kernel_rfl) rfl (by kernel_rfl) rfl (TT _ _).drew ?xK ?finB;case xK =>
    rintro i hi o ho fq w' hG hpre;have HG:Hid (ag wr w'):=hG;replace t0:=aG hG hb5 t0;replace t1:=aG hG hb5 t1;replace c3:=aG hG hwl c3;replace c5:=aG hG hwl c5;have HM:Hid (∀ e ∈ o.after,Region.binds .any e=true→_):=hpre;clear hG hpre;have hc:=J4 (i:=i) (by omega);clear hi
    repeat' rcases hc with rfl | hc
    iterate 19
     ·cases ho;have hm:=HM.out
      try simp [Region.binds] at hm
      refine aa rfl fun K HK=>?_;clear HM
      try simp only [hm]
      go_simp;exact HK.out _ _ ⟨_,by simp [upd, *],HG.out,rfl,fun k u hu=>hu⟩
   case finB =>
    rintro fq w' hG hall;have e18:fq 18=.bool false:=hall 18 (by omega);have HG:Hid (ag wr w'):=hG;clear hall;clear hG;have HB2:Hid (ag W0 w'):=HB.out.trans (HG.out.mono HB.out.size);have UI:Hid (dF xs (k + 1) ⟨c,s⟩=false):=by show _=_; rw [Zu.out]; simp [jR,h1,h2]
    rw [e18];go_wp2;go_roundw;case rel=>exact ⟨k + 1,by omega,by go_num,UI,HB2⟩
    simp [intOf] <;> omega
  refine nz 19 (fun n=>(u21::u22::u23::u24::u25::u26::u27::u28::u29::u30::u31::u32::u33::u34::u35::u36::u37::u38::u39::[]).getD n undef) (fun fq=>{ tmps:=List.toArray (Value.slice ad rs.length cap::.agg #[.string oa,.string ob,.string r,.string c,.string d,.string s]::undef::.pointer (some ⟨w.heap.size,0,none⟩)::u4::.slice (some ⟨b,off,none⟩) xs.length capA::.int .i64 k::.slice ad rs.length cap::.pointer (some ⟨w.heap.size,0,none⟩)::.pointer (some ⟨w.heap.size,0,none⟩)::.string oa::.pointer (some ⟨w.heap.size,2,none⟩)::.string r::.slice UC rows.length capE::.slice (some ⟨b,off,none⟩) xs.length capA::.int .i64 k::.slice (some ⟨b,off,none⟩) xs.length capA::.int .i64 xs.length::.bool true::u19::u20::fq 0::fq 1::fq 2::fq 3::fq 4::fq 5::fq 6::fq 7::fq 8::fq 9::fq 10::fq 11::fq 12::fq 13::fq 14::fq 15::fq 16::fq 17::fq 18::u40::u41::[]),defers:=[] }) (fun n v _=>v=(Value.slice (some ⟨b,off,none⟩) xs.length capA::.int .i64 k::.pointer (some ⟨b,off + k * 2,none⟩)::.pointer (some ⟨b,off + k * 2,none⟩)::.string xs[k].t::.pointer (some ⟨w.heap.size,3,none⟩)::.pointer (some ⟨w.heap.size,3,none⟩)::.string c::.bool true::.bool true::.slice (some ⟨b,off,none⟩) xs.length capA::.int .i64 k::.pointer (some ⟨b,off + k * 2,none⟩)::.pointer (some ⟨b,off + k * 2 + 1,none⟩)::.string xs[k].s::.pointer (some ⟨w.heap.size,5,none⟩)::.string s::.bool true::.bool true::[]).getD n undef) (fun w'=>ag wr w') (by kernel_rfl) rfl (by kernel_rfl) rfl (TT _ _).drew ?stepC ?finC;case stepC =>
   rintro i hi o ho fq w' hG hpre;have HG:Hid (ag wr w'):=hG;replace t0:=aG hG hb5 t0;replace t1:=aG hG hb5 t1;replace c3:=aG hG hwl c3;replace c5:=aG hG hwl c5;have HM:Hid (∀ e ∈ o.after,Region.binds .any e=true→_):=hpre;clear hG hpre;have hc:=J4 (i:=i) (by omega);clear hi
   repeat' rcases hc with rfl | hc
   iterate 19
    ·cases ho;have hm:=HM.out
     try simp [Region.binds] at hm
     refine aa rfl fun K HK=>?_;clear HM
     try simp only [hm]
     go_simp;exact HK.out _ _ ⟨_,by simp [upd, *],HG.out,rfl,fun k u hu=>hu⟩
  case finC =>
   rintro fq w' hG hall;have e18:fq 18=.bool true:=hall 18 (by omega);have HG:Hid (ag wr w'):=hG;clear hall;replace c0:=aG hG hwl c0;replace c1:=aG hG hwl c1;replace c2:=aG hG hwl c2;replace c3:=aG hG hwl c3;replace c4:=aG hG hwl c4;replace c5:=aG hG hwl c5;clear hG;rw [e18];have HN:Hid (sF (ae rs) oa ob r c d s=bI oa ob r c d s):=by show _=_; unfold sF; rw [← Wj.out,MP hlt (by simp [jR,h1,h2])]; rfl
   go_wp2_with fail;refine (dX oa ob r c d s _ ha hb hr hc hd hz).mono ?_;rintro e w2 ⟨rfl,hb2⟩;have HB2:Hid (ag w w2):=UG.out.trans ((HG.out.mono UG.out.size).trans (hb2.mono (TZ UG.out.size HG.out.size)));clear hb2;go_wp2;go_ret;exact ⟨by rw [HN.out]; rfl,HB2.out⟩
 obtain rfl:k=xs.length:=by omega
 have HN:Hid (sF (ae rs) oa ob r c d s=false):=by show _=_; unfold sF; rw [← Wj.out,HP.out]; rfl
 go_wp2;go_ret;exact ⟨by rw [HN.out]; rfl,UG.out⟩
set_option linter.unusedVariables false
set_option maxRecDepth 100000
def gV (rs:List TR) (t:Tp):Bool:=sF (ae rs) t.a t.b t.r t.c t.d t.s
theorem wY {rs:List TR} {t:Tp} (h:aJ (ae rs)=true) (ht:t.ok=true):xM (ae rs) t.a t.r ⟨t.c,t.s⟩=gV rs t:=by
 have hSP:=aY.1 h;have h1:xM (ae rs) t.a t.r ⟨t.c,t.s⟩=dF (aU (aA (ae rs) t.a t.r)) (aU (aA (ae rs) t.a t.r)).length ⟨t.c,t.s⟩:=G6 _ (Q3 hSP _ _);have h2:bI t.a t.b t.r t.c t.d t.s=true:=ht;rw [h1];unfold gV sF;rw [h2,Bool.and_true]
theorem PR {p:Tp→Bool} {ts:List Tp} {k:Nat} (h:k < ts.length):(ts.drop k).all p=(p ts[k] && (ts.drop (k + 1)).all p):=by rw [Un h]; rfl
theorem xX (ad:Option Addr) (cap:Nat) (rs:List TR) (UJ:Option Addr) (cap':Nat) (ts:List Tp) (w:af) (hlen:rs.length≤1048576) (hs:kW w ad rs) (hl:∀ r ∈ rs,r.light) (hfr:∀ r ∈ rs,r.fits) (hlt:ts.length≤1048576) (hst:Sl w UJ ts) (hft:∀ x ∈ ts,x.fits) :
  Calls prog 55 #[.slice ad rs.length cap,.slice UJ ts.length cap'] w fun e w'=>e=.returned (.bool (aQ (gV rs) rs ts))∧ag w w':=by
 have HS:=aC hs;have HL:=aC hl;have WK:=aC hfr;have HST:=aC hst;have UL:=aC hft;have U5:ts.length≤maxLen:=by unfold maxLen; omega
 clear hs hl hfr hst hft;go_enter func55,ntmps55;go_wp2_with fail;refine (jV ad cap rs _ hlen HS.out HL.out WK.out).mono ?_;rintro e w1 ⟨he,hb1⟩;have HB1:=aC hb1;clear hb1;cases h1:aJ (ae rs);case false=>
  rw [h1] at he; subst he;have HN:Hid (aQ (gV rs) rs ts=false):=by show _=_; unfold aQ; rw [h1]; rfl
  clear h1;go_wp2;go_ret;exact ⟨by rw [HN.out]; rfl,HB1.out⟩
 rw [h1] at he; subst he;have H1:=aC h1;clear h1;go_wp2_with fail;refine (ow UJ cap' ts _ U5 (HST.out.below HB1.out) UL.out).mono ?_;rintro e w2 ⟨he,hb2⟩;have HB2:=aC (HB1.out.trans (hb2.mono HB1.out.size));clear hb2 HB1;cases h2:dJ ts;case false=>
  rw [h2] at he; subst he;have HN:Hid (aQ (gV rs) rs ts=false):=by show _=_; unfold aQ; rw [h2,Bool.and_false]; rfl
  clear h2;go_wp2;go_ret;exact ⟨by rw [HN.out]; rfl,HB2.out⟩
 rw [h2] at he; subst he;have HN:Hid (aQ (gV rs) rs ts=ts.all (gV rs)):=by show _=_; unfold aQ; rw [H1.out,h2]; rfl
 clear h2 H1;go_wp2;go_loopw [5] (fun i wr=>∃ k:Nat,k≤ts.length∧i=.int .i64 k∧Hid ((ts.drop k).all (gV rs)=ts.all (gV rs))∧Hid (ag w wr)) (fun i _=>ts.length - (intOf i).toNat);case atStart=>exact ⟨0,TW _,rfl,rfl,HB2⟩
 clear HB2;obtain ⟨k,hk,rfl,HP,HB⟩:=hrel;by_cases hlt2:k < ts.length
 ·obtain ⟨b,off,UF,⟨t0,t1,t2,t3,t4,t5⟩,hb⟩:=Sl.at0 (HST.out.below HB.out) hlt2;have hk1:=bB k;have hk2:(k:Int) < (ts.length:Int):=by omega
  obtain ⟨f0,f1,f2,f3,f4,f5⟩:=UL.out _ (TQ hlt2);have HD:Hid (ts.all (gV rs)=(gV rs ts[k] && (ts.drop (k + 1)).all (gV rs))):=by show _=_; rw [← HP.out]; exact PR hlt2
  obtain ⟨x,hx⟩:∃ x,x=ts[k]:=⟨_,rfl⟩;rw [← hx] at t0 t1 t2 t3 t4 t5 f0 f1 f2 f3 f4 f5 HD;have HLF:=aC (Bj ad cap rs x.a x.b x.r x.c x.d x.s wr hlen (HS.out.below HB.out) HL.out f0 f1 f2 f3 f4 f5);subst UF;clear hx;go_wp2_with fail;refine HLF.out.mono ?_;rintro e w3 ⟨he,hb3⟩;have HB3:=aC (HB.out.trans (hb3.mono HB.out.size));clear hb3 HLF t0 t1 t2 t3 t4 t5;cases h5:sF (ae rs) x.a x.b x.r x.c x.d x.s;case true=>
   rw [h5] at he; subst he;have UI:Hid ((ts.drop (k + 1)).all (gV rs)=ts.all (gV rs)):=by show _=_; rw [HD.out]; unfold gV at *; rw [h5]; rfl
   clear h5;go_wp2;go_roundw;case rel=>exact ⟨k + 1,by omega,by go_num,UI,HB3⟩
   simp [intOf] <;> omega
  rw [h5] at he; subst he;have VY:Hid (aQ (gV rs) rs ts=false):=by show _=_; rw [HN.out,HD.out]; unfold gV at *; rw [h5]; rfl
  clear h5;go_wp2;go_ret;exact ⟨by rw [VY.out]; rfl,HB3.out⟩
 have VY:Hid (aQ (gV rs) rs ts=true):=by show _=_; rw [HN.out,← HP.out,List.drop_of_length_le (by omega)]; rfl
 go_wp2;go_ret;exact ⟨by rw [VY.out]; rfl,HB.out⟩
end Go.Proofs.YtajkkeikihhejaaGreat
