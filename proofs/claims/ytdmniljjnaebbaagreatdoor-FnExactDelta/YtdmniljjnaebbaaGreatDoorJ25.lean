/- Contracts of the program's looks at a schema's shape. -/
import Derived.Test.YtdmniljjnaebbaaGreatDoorSq
import Derived.Test.YtdmniljjnaebbaaGreatDoorSpecSchema11
import Derived.Test.YtdmniljjnaebbaaGreatDoorJ19
import Derived.Test.YtdmniljjnaebbaaGreatDoorJ22
import Derived.Test.YtdmniljjnaebbaaGreatDoorJ24
open Go.Proofs.Tryz
set_option maxHeartbeats 80000000
namespace Go.Proofs.YtdmniljjnaebbaaGreatDoor
open Go.ChangeShapes Go.WideShapes Go.ChangeAt Go.RowKit
open Pl
open Go.Sort
def fP (rs:List RR):Bool:=decide (rs.length≤6) && df (bZ rs) rs.length
theorem Iw {rs:List RR} {k:Nat} (h:k < rs.length):kG (bZ rs) k=(aR rs[k].name && vQ (bZ rs) rs[k].name k && aY (ai rs[k].rows)):=BJ h
theorem Iy {rs:List TR} {k:Nat} (h:k < rs.length):jF (ag rs) k=(aR rs[k].name && sN (ag rs) rs[k].name k && fP rs[k].rows):=by
 rw [BI h]; unfold fP; rw [Bool.and_assoc]
set_option maxRecDepth 100000 in
theorem wN (ad:Option Addr) (cap:Nat) (rs:List RR) (w:af) (hlen:rs.length≤1048576) (hs:vv w ad rs) (hl:∀ r ∈ rs,r.light) (hf:∀ r ∈ rs,r.fits) (hcp:∀ r ∈ rs,r.caps) :
  Calls prog 163 #[.slice ad rs.length cap] w fun e w'=>e=.returned (.bool (fP rs))∧aa w w':=by
 have HS:=ay hs;have HL:=ay hl;have Tv:=ay hf;have Vx:=ay hcp;clear hs hl hf hcp;have WT:Hid (fP rs=(decide (rs.length≤6) && df (bZ rs) rs.length)):=by show _=_; rfl
 by_cases h6:6 < rs.length
 ·have HN:Hid (fP rs=false):=by show _=_; rw [WT.out]; simp; omega
  go_enter func163,ntmps163;go_wp2;go_ret;exact ⟨ah HN.out.symm,Si _ _⟩
 go_enter func163,ntmps163;go_wp2;go_loopw [10] (fun i wr=>∃ k:Nat,k≤rs.length∧i=.int .i64 k∧Hid (df (bZ rs) k=true)∧Hid (aa w wr)) (fun i _=>rs.length - (intOf i).toNat);case atStart=>exact ⟨0,Sm _,rfl,rfl,Si _ _⟩
 obtain ⟨k,hk,rfl,HP,HB⟩:=hrel;by_cases hlt:k < rs.length
 ·rcases HS.out.below HB.out with rfl | ⟨b,off,rfl,hb,hr,hok⟩
  ·simp at hlt
  obtain ⟨t0,t1⟩:=hr k hlt;have VA:Hid (rs[k].ok wr):=hok rs[k] (Sd hlt);have z1:rs[k].name.size≤maxLen:=(Tv.out _ (Sd hlt)).1;have Vl:Hid (rs[k].light):=HL.out _ (Sd hlt);have U5:Hid (rs[k].fits):=Tv.out _ (Sd hlt);have HCP:Hid (rs[k].caps):=Vx.out _ (Sd hlt);have hk1:=bH k;have hk2:(k:Int) < (rs.length:Int):=by omega
  have HTP:Hid (∀ (m:Nat) (h:m < rs.length),wr.cell? ⟨b,off + m * 2,none⟩=some (.string rs[m].name)):=fun m h=>(hr m h).1;have XE:Hid (kG (bZ rs) k=(aR rs[k].name && vQ (bZ rs) rs[k].name k && aY (ai rs[k].rows))):=Iw hlt;have HBAD:Hid (kG (bZ rs) k=false→fP rs=false):=fun h=>by rw [WT.out,qW _ k h _ hlt]; simp
  obtain ⟨W1,hW1⟩:∃ W1,W1=wr.alloc (.cells #[.string rs[k].name,.slice rs[k].ad rs[k].rows.length rs[k].cap] 122):=⟨_,rfl⟩;have hal:aa wr W1:=by rw [hW1]; exact (Si _ _).alloc (Sj _) _
  have TB:=ay hal;have hgl:wr.heap.size < W1.heap.size:=by rw [hW1]; simp
  have g0:W1.cell? ⟨wr.heap.size,0,none⟩=some (.string rs[k].name):=by rw [hW1]; simp
  have g1:W1.cell? ⟨wr.heap.size,1,none⟩=some (.slice rs[k].ad rs[k].rows.length rs[k].cap):=by rw [hW1]; simp
  have hb4:b < W1.heap.size:=Nat.lt_trans hb hgl;clear hr hok;go_wp2_with fail;rw [← hW1];clear hW1 t0 t1 hal;have q0:=cell_regrown g0;have q1:=cell_regrown g1;have TE:=oG (je (W:=W1) (fun W'=>aL rs[k].name W' z1));have Vp:Hid (∀ d os,Calls prog 193 #[.slice rs[k].ad rs[k].rows.length rs[k].cap] (grow (redrawn W1 d) os) fun e w''=>e=.returned (.bool (aY (ai rs[k].rows)))∧∃ p:Regrown,w''=grow (redrawn W1 p.d) p.os):=by
   show ∀ d os,Calls prog 193 #[.slice rs[k].ad rs[k].rows.length rs[k].cap] (grow (redrawn W1 d) os) fun e w''=>e=.returned (.bool (aY (ai rs[k].rows)))∧∃ p:Regrown,w''=grow (redrawn W1 p.d) p.os;rw [AA];refine bP fun W' hb=>?_;exact zl _ _ rs[k].rows _ Vl.out.1 Vl.out.2 U5.out.2.2 HCP.out.2 (VA.out.below (TB.out.trans (hb.mono TB.out.size)))
  have TQ:Hid (∀ d os,aa w (grow (redrawn W1 d) os)):=fun d os=>HB.out.trans ((TB.out.mono HB.out.size).trans ((below_regrown W1 d os).mono (Sq HB.out.size TB.out.size)));cases hnm:aR rs[k].name;case false=>
   rw [hnm] at TE;have HN:Hid (fP rs=false):=HBAD.out (by rw [XE.out]; simp [hnm]);refine wp_region_quiet_below (by kernel_rfl) (by kernel_rfl) ?_
   repeat (go_big_quiet_step (exact TE.out _ _))
   refine wpQuiet_nil ?_;rintro _ ⟨⟨dq,osq⟩,rfl⟩;go_wp2;go_ret;exact ⟨ah HN.out.symm,TQ.out dq osq⟩
  rw [hnm] at TE;obtain ⟨ex,hex⟩:∃ ex,ex=aY (ai rs[k].rows):=⟨_,rfl⟩;rw [← hex] at Vp XE;have fin:Hid (∀ pv,vQ (bZ rs) rs[k].name k=pv→kG (bZ rs) k=(pv && ex)):=fun pv h=>by rw [XE.out,hnm,h]; simp
  clear hex XE hnm;by_cases hpos:k=0
  ·have hk0:¬ (0:Int) < (k:Int):=by omega
   have Zw:decide (0 < k)=false:=by simp; omega
   have UK:=oG (fin.out _ (zi hpos));replace hpos:Hid (k=0):=hpos;refine wp_region_quiet_below (by kernel_rfl) (by kernel_rfl) ?_
   repeat (go_big_quiet_step (first | exact TE.out _ _ | exact Vp.out _ _))
   refine wpQuiet_nil ?_;rintro _ ⟨⟨dq,osq⟩,rfl⟩;cases ex;case false=>
    have HN:Hid (fP rs=false):=HBAD.out (by rw [UK.out]; rfl);go_wp2;go_ret;exact ⟨ah HN.out.symm,TQ.out dq osq⟩
   have UU:Hid (df (bZ rs) (k + 1)=true):=by show _=_; simp only [df]; rw [HP.out,UK.out]; rfl
   go_wp2;go_roundw;case rel=>exact ⟨k + 1,by omega,by go_num,UU,TQ.out dq osq⟩
   simp [intOf] <;> omega
  obtain ⟨m,hm⟩:∃ m,k=m + 1:=⟨k - 1,by omega⟩;have TF:m < rs.length:=by omega
  have hk0:(0:Int) < (k:Int):=by omega
  have Zw:decide (0 < k)=true:=by simp; omega
  have hkm:(k:Int) - 1=(m:Int):=by omega
  have hwm:IntKind.i64.wrap (m:Int)=(m:Int):=by rw [IntKind.wrap_i64]; omega
  have hm1:=bH m;have hm2:(m:Int) < (rs.length:Int):=by omega
  have qm:=cell_regrown (aK TB.out hb (HTP.out m TF));have UK:=oG (fin.out _ (zg hm TF));replace hm:Hid (k=m + 1):=hm;cases hless:Op.bytesLess rs[m].name.toList rs[k].name.toList;case false=>
   have HN:Hid (fP rs=false):=HBAD.out (by rw [UK.out]; simp [iw,hless]);refine wp_region_quiet_below (by kernel_rfl) (by kernel_rfl) ?_
   repeat (go_big_quiet_step (first | exact TE.out _ _ | exact Vp.out _ _))
   refine wpQuiet_nil ?_;rintro _ ⟨⟨dq,osq⟩,rfl⟩;go_wp2;go_ret;exact ⟨ah HN.out.symm,TQ.out dq osq⟩
  refine wp_region_quiet_below (by kernel_rfl) (by kernel_rfl) ?_
  repeat (go_big_quiet_step (first | exact TE.out _ _ | exact Vp.out _ _))
  refine wpQuiet_nil ?_;rintro _ ⟨⟨dq,osq⟩,rfl⟩;cases ex;case false=>
   have HN:Hid (fP rs=false):=HBAD.out (by rw [UK.out]; simp);go_wp2;go_ret;exact ⟨ah HN.out.symm,TQ.out dq osq⟩
  have UU:Hid (df (bZ rs) (k + 1)=true):=by show _=_; simp only [df]; rw [HP.out,UK.out]; simp [iw,hless]
  go_wp2;go_roundw;case rel=>exact ⟨k + 1,by omega,by go_num,UU,TQ.out dq osq⟩
  simp [intOf] <;> omega
 obtain rfl:k=rs.length:=by omega
 have HY:Hid (fP rs=true):=by show _=_; rw [WT.out,HP.out]; simp; omega
 go_wp2;go_ret;exact ⟨ah HY.out.symm,HB.out⟩
set_option maxRecDepth 100000 in
theorem FI (ad:Option Addr) (cap:Nat) (rs:List TR) (w:af) (hlen:rs.length≤1048576) (hs:iN w ad rs) (hl:∀ r ∈ rs,r.light) (hf:∀ r ∈ rs,r.fits) (hcp:∀ r ∈ rs,r.caps) :
  Calls prog 124 #[.slice ad rs.length cap] w fun e w'=>e=.returned (.bool (bq (ag rs)))∧aa w w':=by
 have HS:=ay hs;have HL:=ay hl;have Tv:=ay hf;have Vx:=ay hcp;clear hs hl hf hcp;have WT:Hid (bq (ag rs)=(decide (rs.length≤6) && gJ (ag rs) rs.length)):=by show _=_; unfold bq; rw [eH]
 by_cases h6:6 < rs.length
 ·have HN:Hid (bq (ag rs)=false):=by show _=_; rw [WT.out]; simp; omega
  go_enter func124,ntmps124;go_wp2;go_ret;exact ⟨ah HN.out.symm,Si _ _⟩
 go_enter func124,ntmps124;go_wp2;go_loopw [10] (fun i wr=>∃ k:Nat,k≤rs.length∧i=.int .i64 k∧Hid (gJ (ag rs) k=true)∧Hid (aa w wr)) (fun i _=>rs.length - (intOf i).toNat);case atStart=>exact ⟨0,Sm _,rfl,rfl,Si _ _⟩
 obtain ⟨k,hk,rfl,HP,HB⟩:=hrel;by_cases hlt:k < rs.length
 ·rcases HS.out.below HB.out with rfl | ⟨b,off,rfl,hb,hr,hok⟩
  ·simp at hlt
  obtain ⟨t0,t1⟩:=hr k hlt;have VA:Hid (rs[k].ok wr):=hok rs[k] (Sd hlt);have z1:rs[k].name.size≤maxLen:=(Tv.out _ (Sd hlt)).1;have Vl:Hid (rs[k].light):=HL.out _ (Sd hlt);have U5:Hid (rs[k].fits):=Tv.out _ (Sd hlt);have HCP:Hid (rs[k].caps):=Vx.out _ (Sd hlt);have hk1:=bH k;have hk2:(k:Int) < (rs.length:Int):=by omega
  have HTP:Hid (∀ (m:Nat) (h:m < rs.length),wr.cell? ⟨b,off + m * 2,none⟩=some (.string rs[m].name)):=fun m h=>(hr m h).1;have XE:Hid (jF (ag rs) k=(aR rs[k].name && sN (ag rs) rs[k].name k && fP rs[k].rows)):=Iy hlt;have HBAD:Hid (jF (ag rs) k=false→bq (ag rs)=false):=fun h=>by rw [WT.out,qX _ k h _ hlt]; simp
  obtain ⟨W1,hW1⟩:∃ W1,W1=wr.alloc (.cells #[.string rs[k].name,.slice rs[k].ad rs[k].rows.length rs[k].cap] 78):=⟨_,rfl⟩;have hal:aa wr W1:=by rw [hW1]; exact (Si _ _).alloc (Sj _) _
  have TB:=ay hal;have hgl:wr.heap.size < W1.heap.size:=by rw [hW1]; simp
  have g0:W1.cell? ⟨wr.heap.size,0,none⟩=some (.string rs[k].name):=by rw [hW1]; simp
  have g1:W1.cell? ⟨wr.heap.size,1,none⟩=some (.slice rs[k].ad rs[k].rows.length rs[k].cap):=by rw [hW1]; simp
  have hb4:b < W1.heap.size:=Nat.lt_trans hb hgl;clear hr hok;go_wp2_with fail;rw [← hW1];clear hW1 t0 t1 hal;have q0:=cell_regrown g0;have q1:=cell_regrown g1;have TE:=oG (je (W:=W1) (fun W'=>aL rs[k].name W' z1));have Vp:Hid (∀ d os,Calls prog 163 #[.slice rs[k].ad rs[k].rows.length rs[k].cap] (grow (redrawn W1 d) os) fun e w''=>e=.returned (.bool (fP rs[k].rows))∧∃ p:Regrown,w''=grow (redrawn W1 p.d) p.os):=by
   refine bP fun W' hb=>?_;exact wN _ _ rs[k].rows _ Vl.out.1 (VA.out.below (TB.out.trans (hb.mono TB.out.size))) Vl.out.2 U5.out.2.2 HCP.out.2
  have TQ:Hid (∀ d os,aa w (grow (redrawn W1 d) os)):=fun d os=>HB.out.trans ((TB.out.mono HB.out.size).trans ((below_regrown W1 d os).mono (Sq HB.out.size TB.out.size)));cases hnm:aR rs[k].name;case false=>
   rw [hnm] at TE;have HN:Hid (bq (ag rs)=false):=HBAD.out (by rw [XE.out]; simp [hnm]);refine wp_region_quiet_below (by kernel_rfl) (by kernel_rfl) ?_
   repeat (go_big_quiet_step (exact TE.out _ _))
   refine wpQuiet_nil ?_;rintro _ ⟨⟨dq,osq⟩,rfl⟩;go_wp2;go_ret;exact ⟨ah HN.out.symm,TQ.out dq osq⟩
  rw [hnm] at TE;obtain ⟨ex,hex⟩:∃ ex,ex=fP rs[k].rows:=⟨_,rfl⟩;rw [← hex] at Vp XE;have fin:Hid (∀ pv,sN (ag rs) rs[k].name k=pv→jF (ag rs) k=(pv && ex)):=fun pv h=>by rw [XE.out,hnm,h]; simp
  clear hex XE hnm;by_cases hpos:k=0
  ·have hk0:¬ (0:Int) < (k:Int):=by omega
   have Zw:decide (0 < k)=false:=by simp; omega
   have UK:=oG (fin.out _ (zh hpos));replace hpos:Hid (k=0):=hpos;refine wp_region_quiet_below (by kernel_rfl) (by kernel_rfl) ?_
   repeat (go_big_quiet_step (first | exact TE.out _ _ | exact Vp.out _ _))
   refine wpQuiet_nil ?_;rintro _ ⟨⟨dq,osq⟩,rfl⟩;cases ex;case false=>
    have HN:Hid (bq (ag rs)=false):=HBAD.out (by rw [UK.out]; rfl);go_wp2;go_ret;exact ⟨ah HN.out.symm,TQ.out dq osq⟩
   have UU:Hid (gJ (ag rs) (k + 1)=true):=by show _=_; simp only [gJ]; rw [HP.out,UK.out]; rfl
   go_wp2;go_roundw;case rel=>exact ⟨k + 1,by omega,by go_num,UU,TQ.out dq osq⟩
   simp [intOf] <;> omega
  obtain ⟨m,hm⟩:∃ m,k=m + 1:=⟨k - 1,by omega⟩;have TF:m < rs.length:=by omega
  have hk0:(0:Int) < (k:Int):=by omega
  have Zw:decide (0 < k)=true:=by simp; omega
  have hkm:(k:Int) - 1=(m:Int):=by omega
  have hwm:IntKind.i64.wrap (m:Int)=(m:Int):=by rw [IntKind.wrap_i64]; omega
  have hm1:=bH m;have hm2:(m:Int) < (rs.length:Int):=by omega
  have qm:=cell_regrown (aK TB.out hb (HTP.out m TF));have UK:=oG (fin.out _ (zf hm TF));replace hm:Hid (k=m + 1):=hm;cases hless:Op.bytesLess rs[m].name.toList rs[k].name.toList;case false=>
   have HN:Hid (bq (ag rs)=false):=HBAD.out (by rw [UK.out]; simp [iw,hless]);refine wp_region_quiet_below (by kernel_rfl) (by kernel_rfl) ?_
   repeat (go_big_quiet_step (first | exact TE.out _ _ | exact Vp.out _ _))
   refine wpQuiet_nil ?_;rintro _ ⟨⟨dq,osq⟩,rfl⟩;go_wp2;go_ret;exact ⟨ah HN.out.symm,TQ.out dq osq⟩
  refine wp_region_quiet_below (by kernel_rfl) (by kernel_rfl) ?_
  repeat (go_big_quiet_step (first | exact TE.out _ _ | exact Vp.out _ _))
  refine wpQuiet_nil ?_;rintro _ ⟨⟨dq,osq⟩,rfl⟩;cases ex;case false=>
   have HN:Hid (bq (ag rs)=false):=HBAD.out (by rw [UK.out]; simp);go_wp2;go_ret;exact ⟨ah HN.out.symm,TQ.out dq osq⟩
  have UU:Hid (gJ (ag rs) (k + 1)=true):=by show _=_; simp only [gJ]; rw [HP.out,UK.out]; simp [iw,hless]
  go_wp2;go_roundw;case rel=>exact ⟨k + 1,by omega,by go_num,UU,TQ.out dq osq⟩
  simp [intOf] <;> omega
 obtain rfl:k=rs.length:=by omega
 have HY:Hid (bq (ag rs)=true):=by show _=_; rw [WT.out,HP.out]; simp; omega
 go_wp2;go_ret;exact ⟨ah HY.out.symm,HB.out⟩
open Go.Maps
def FJ (ts:List Ty) (w:World) (e:Ending) (w':World):Prop :=
 ((∃ (b n:Nat) (σ:Ky→Option Int),e=.returned (.tuple #[.map (some b),.bool true])∧bG ts∧aJ dE prog 172 w' b n (gZ σ)∧Least ts (fun k=>(σ k).getD 0)∧∀ k,(∃ x,σ k=some x) ↔ k ∈ ak ts) ∨ (e=.returned (.tuple #[.map none,.bool false])∧¬ bG ts))∧aa w w'
set_option maxRecDepth 100000 in
theorem sZ (ad:Option Addr) (cap:Nat) (rs:List TR) (w:af) (hlen:rs.length≤1048576) (hs:iN w ad rs) (hl:∀ r ∈ rs,r.light) (hf:∀ r ∈ rs,r.fits) (hcp:∀ r ∈ rs,r.caps) :
  Calls prog 92 #[.slice ad rs.length cap] w (FJ (ag rs) w):=by
 have HS:=ay hs;have HL:=ay hl;have Tv:=ay hf;have Vx:=ay hcp;clear hs hl hf hcp;go_enter func92,ntmps92;go_wp2_with fail;refine (FI ad cap rs _ hlen HS.out HL.out Tv.out Vx.out).mono ?_;rintro e w1 ⟨rfl,hb1⟩;have HB1:=ay hb1;clear hb1;cases hsh:bq (ag rs);case false=>
  have HP:Hid (FJ (ag rs) w (.returned (.tuple #[.map none,.bool false])) w1):=⟨.inr ⟨rfl,fun h=>by rw [h.1] at hsh; cases hsh⟩,HB1.out⟩;go_wp2;refine bodyPost_ret (v:=.tuple #[.map none,.bool false]) ?_ rfl HP.out;simp [results,Tryz.results92,go_sem]
 have HSH:Hid (bq (ag rs)=true):=hsh;obtain ⟨h6,Xh,hex⟩:=bR hsh;have WP:Hid (∀ r ∈ rs,r.rows.length≤6):=Xh;have HEX:Hid (∀ r ∈ rs,∀ q ∈ r.rows,aY (ai q.rows)=true∧q.rows.length≤15∧∀ e ∈ q.rows,dQ q.rows.length e.e.kids):=hex;have HT:Hid (Tab rs (qo rs)):=ut hsh;clear hsh Xh hex;go_wp2_with fail;refine (vH ad cap rs _ h6 (HS.out.below HB1.out) WP.out Tv.out).mono ?_;rintro e w2 ⟨rfl,hV2,hb2⟩;have HB2:=jb HB1 hb2;obtain ⟨bT,hbT⟩:∃ bT,bT=w1.heap.size:=⟨_,rfl⟩;rw [← hbT] at hV2 ⊢;have UR:Hid (aJ dE prog 172 w2 bT 36 (qo rs)):=hV2;clear hV2 hb2 hbT HB1;go_wp2_with fail;go_loopw [16] (fun i wr=>∃ k:Nat,k≤rs.length∧i=.int .i64 k∧Hid (((ag rs).take k).all (o8 (ag rs))=true)∧Hid (aa w wr)∧Hid (aJ dE prog 172 wr bT 36 (qo rs))) (fun i _=>rs.length - (intOf i).toNat);case atStart=>exact ⟨0,Sm _,rfl,(by show _=_; simp),HB2,UR⟩
 clear HB2 UR;obtain ⟨k,hk,rfl,HP,HB,HV⟩:=hrel;by_cases hlt:k < rs.length
 ·rcases HS.out.below HB.out with rfl | ⟨b,off,rfl,hb,hr,-⟩
  ·simp at hlt
  obtain ⟨t0,t1⟩:=hr k hlt;have hk1:=bH k;have hk2:(k:Int) < (rs.length:Int):=by omega
  have h66:=WP.out _ (Sd hlt);have z0:rs[k].name.size≤maxLen:=(Tv.out _ (Sd hlt)).1;obtain ⟨W1,hW1⟩:∃ W1,W1=wr.alloc (.cells #[.string rs[k].name,.slice rs[k].ad rs[k].rows.length rs[k].cap] 78):=⟨_,rfl⟩;have hal:aa wr W1:=by rw [hW1]; exact (Si _ _).alloc (Sj _) _
  obtain ⟨g6,WZ⟩:∃ g6,g6=wr.heap.size:=⟨_,rfl⟩;have TW:Hid (W1.cell? ⟨g6,0,none⟩=some (.string rs[k].name)∧g6 < W1.heap.size):=⟨by rw [hW1,WZ]; simp,by rw [hW1,WZ]; simp⟩;have HB1:=jb HB hal;have UQ:=ay (HV.out.below hal);clear hr hal HB HV;go_wp2_with fail;rw [← hW1,← WZ];clear hW1 t0 t1 WZ;go_loopw [23] (fun i w3=>∃ j:Nat,j≤rs[k].rows.length∧i=.int .i64 j∧Hid (((bZ rs[k].rows).take j).all (fun r=>aP (ag rs) rs[k].name r.expr)=true)∧Hid (aa w w3)∧Hid (aJ dE prog 172 w3 bT 36 (qo rs))∧Hid (w3.cell? ⟨g6,0,none⟩=some (.string rs[k].name)∧g6 < w3.heap.size)) (fun i _=>rs[k].rows.length - (intOf i).toNat);case atStart=>exact ⟨0,Sm _,rfl,(by show _=_; simp),HB1,UQ,TW⟩
  clear HB1 UQ TW;obtain ⟨j,hj,rfl,HR,HB,HV,HC⟩:=hrel;by_cases hjl:j < rs[k].rows.length
  ·rcases HS.out.below HB.out with hnil | ⟨b',off',he,hb2,hr,hok⟩
   ·rw [hnil] at hlt; simp at hlt
   injection he with he; injection he with he1 he2; subst he1; subst he2;have ok:=hok rs[k] (Sd hlt);rcases ok with hnil | ⟨b2,TY,had,hbb,hr2,hok2⟩
   ·rw [hnil] at hjl; simp at hjl
   obtain ⟨q0,q1⟩:=hr2 j hjl;have VA:Hid (fQ wr rs[k].rows[j].ad rs[k].rows[j].rows):=hok2 _ (Sd hjl);have Vl:Hid (rs[k].rows[j].light):=(HL.out _ (Sd hlt)).2 _ (Sd hjl);have U5:Hid (rs[k].rows[j].fits):=(Tv.out _ (Sd hlt)).2.2 _ (Sd hjl);have WJ:Hid (∀ q ∈ rs[k].rows[j].rows,az q.e=true):=fun q hq=>iE (HEX.out _ (Sd hlt) _ (Sd hjl)).1 q.e (by unfold ai; exact List.mem_map_of_mem hq);have hj1:=bH j;have hj2:(j:Int) < (rs[k].rows.length:Int):=by omega
   obtain ⟨x0,x1⟩:=HC.out;obtain ⟨W3,hW3⟩:∃ W3,W3=wr.alloc (.cells #[.string rs[k].rows[j].name,.slice rs[k].rows[j].ad rs[k].rows[j].rows.length rs[k].rows[j].cap] 122):=⟨_,rfl⟩;have hal:aa wr W3:=by rw [hW3]; exact (Si _ _).alloc (Sj _) _
   have HB3:=jb HB hal;have WA:=ay (HV.out.below hal);have TB:=ay hal;have Uy:Hid (W3.cell? ⟨g6,0,none⟩=some (.string rs[k].name)∧g6 < W3.heap.size):=⟨aK hal x1 x0,Sg x1 hal.size⟩;have HTS:Hid ((bZ rs[k].rows).take (j + 1)=(bZ rs[k].rows).take j ++ [rs[k].rows[j].p]):=Fa rs[k].rows j hjl;rw [had];clear hr hok hr2 hok2 hal HB HV HC;go_wp2_with fail;rw [← hW3];clear hW3 q0 q1 x0 x1;refine (yL (some ⟨b,off,none⟩) rs[k].rows[j].ad cap rs[k].rows[j].cap rs bT 36 (qo rs) rs[k].name rs[k].rows[j].rows _ hlen (HS.out.below HB3.out) HL.out Tv.out WA.out HT.out z0 Vl.out.1 (VA.out.below TB.out) Vl.out.2 U5.out.2.2 WJ.out).mono ?_;rintro e w5 ⟨rfl,hb5⟩;have TI:=jb HB3 hb5;have HV5:=ay (WA.out.below hb5);have HC5:Hid (w5.cell? ⟨g6,0,none⟩=some (.string rs[k].name)∧g6 < w5.heap.size):=⟨aK hb5 Uy.out.2 Uy.out.1,Sg Uy.out.2 hb5.size⟩;clear hb5;cases hrf:aP (ag rs) rs[k].name (ai rs[k].rows[j].rows);case false=>
    have HPO:Hid (FJ (ag rs) w (.returned (.tuple #[.map none,.bool false])) w5):=by
     refine ⟨.inr ⟨rfl,fun hs=>?_⟩,TI.out⟩;have h1:=hs.2.1;unfold jv at h1;rw [SC] at h1;have h2:=h1 rs[k].p (by unfold ag; exact List.mem_map_of_mem (Sd hlt));unfold o8 at h2;rw [SC] at h2;have h3:=h2 rs[k].rows[j].p (by show _ ∈ bZ rs[k].rows; unfold bZ; exact List.mem_map_of_mem (Sd hjl));have h4:aP (ag rs) rs[k].name (ai rs[k].rows[j].rows)=true:=h3;rw [hrf] at h4; cases h4
    go_wp2;refine bodyPost_ret (v:=.tuple #[.map none,.bool false]) ?_ rfl HPO.out;simp [results,Tryz.results92,go_sem]
   have UU:Hid (((bZ rs[k].rows).take (j + 1)).all (fun r=>aP (ag rs) rs[k].name r.expr)=true):=by
    show _=_;rw [HTS.out,List.all_append,HR.out];have:aP (ag rs) rs[k].name rs[k].rows[j].p.expr=true:=hrf;simp [this]
   go_wp2;go_roundw;case rel=>exact ⟨j + 1,by omega,by go_num,UU,TI,HV5,HC5⟩
   simp [intOf] <;> omega
  obtain rfl:j=rs[k].rows.length:=by omega
  have HPN:Hid (((ag rs).take (k + 1)).all (o8 (ag rs))=true):=by
   show _=_;rw [E9 rs k hlt,List.all_append,HP.out];have h1:=HR.out;rw [← fB,Su] at h1;have:o8 (ag rs) rs[k].p=true:=h1;simp [this]
  go_wp2;go_roundw;case rel=>exact ⟨k + 1,by omega,by go_num,HPN,HB,HV⟩
  simp [intOf] <;> omega
 obtain rfl:k=rs.length:=by omega
 have VU:Hid (jv (ag rs)=true):=by
  have h1:=HP.out;rw [← eH,Su] at h1;exact h1
 go_wp2_with fail;refine (zZ ad cap rs bT 36 (qo rs) _ h6 (HS.out.below HB.out) HL.out Tv.out WP.out (fun r hr q hq=>(HEX.out r hr q hq).2) (ND HSH.out) HV.out HT.out).mono ?_;rintro e w5 ⟨rfl,⟨nL,ML,hG5⟩,hb5⟩;have TI:=jb HB hb5;have HG5:Hid (Grp w5 wr.heap.size nL ML (iB (ag rs) rs)):=hG5;clear hG5 hb5;go_wp2_with fail;refine (wL ad cap rs wr.heap.size nL ML (iB (ag rs) rs) _ h6 (HS.out.below TI.out) Tv.out WP.out HG5.out (Pp HSH.out VU.out) (kH VU.out) (KQ rs WP.out HEX.out (ND HSH.out))).mono ?_;rintro e w6 ⟨hL,hb6⟩;have TZ:=jb TI hb6;clear hb6;rcases hL with ⟨bS,nS,σ,rfl,hM,WO,hk⟩ | ⟨rfl,hno⟩
 ·have HPO:Hid (FJ (ag rs) w (.returned (.tuple #[.map (some bS),.bool true])) w6):=⟨.inl ⟨bS,nS,σ,rfl,⟨HSH.out,VU.out,_,WO.sol⟩,hM,WO,hk⟩,TZ.out⟩;clear hM WO hk;go_wp2;refine bodyPost_ret (v:=.tuple #[.map (some bS),.bool true]) ?_ rfl HPO.out;simp [results,Tryz.results92,go_sem]
 have HPO:Hid (FJ (ag rs) w (.returned (.tuple #[.map none,.bool false])) w6):=⟨.inr ⟨rfl,fun h=>hno h.2.2⟩,TZ.out⟩;clear hno;go_wp2;refine bodyPost_ret (v:=.tuple #[.map none,.bool false]) ?_ rfl HPO.out;simp [results,Tryz.results92,go_sem]
def pI (ts:List Ty) (oa ob r c d s:ByteArray):Bool:=dC (aQ (aH ts oa r)) (aQ (aH ts oa r)).length ⟨c,s⟩ && bn oa ob r c d s
theorem FK:∀ {es:List Ex} (a:Al),own es=0→es.any (lJ a)=false
 | [],_,_=>rfl
 | e::es,a,h=>by
  by_cases h1:e.kind=1
  ·simp [own,h1] at h
  rw [List.any_cons,FK a (by simpa [own,h1] using h)];simp [lJ,h1]
theorem zB:∀ {es:List Ex} (a:Al),own es≤1→es.any (lJ a)=dC (aQ es) (aQ es).length a
 | [],_,_=>rfl
 | e::es,a,h=>by
  by_cases h1:e.kind=1
  ·rw [List.any_cons,FK a (by simp [own,h1] at h; simpa [own] using h)];simp [lJ,h1,aQ]
  rw [List.any_cons,zB a (by simpa [own,h1] using h)];simp [lJ,h1,aQ]
theorem KV {xs:List Al} {a:Al} {k:Nat} (h:k < xs.length) (hk:jy xs[k] a=true):dC xs xs.length a=true:=by
 unfold dC;rw [Su,SY];exact ⟨_,Sd h,hk⟩
theorem QS {es:List Ex} (h:aY es=true):own es≤1:=by
 unfold aY at h; simp at h; omega
theorem Jr {rs:List TR} (h:bG (ag rs)) (ty n:dB):own (aH (ag rs) ty n)≤1:=by
 unfold aH;cases e:fC (ag rs) ty n with
 | none=>simp [own]
 | some es =>
  obtain ⟨t,ht,q,hq,-,-,rfl⟩:=pg e;exact QS ((bR h.1).2.2 t ht q hq).1
set_option maxRecDepth 100000 in
theorem zC (ad:Option Addr) (cap:Nat) (rs:List TR) (oa ob r c d s:dB) (w:af) (hlen:rs.length≤1048576) (hs:iN w ad rs) (hl:∀ r ∈ rs,r.light) (ha:oa.size≤maxLen) (hb:ob.size≤maxLen) (hr:r.size≤maxLen) (hc:c.size≤maxLen) (hd:d.size≤maxLen) (hz:s.size≤maxLen) :
  Calls prog 76 #[.slice ad rs.length cap,.agg #[.string oa,.string ob,.string r,.string c,.string d,.string s]] w fun e w'=>e=.returned (.bool (pI (ag rs) oa ob r c d s))∧aa w w':=by
 have HS:=ay hs;have HL:=ay hl;clear hs hl;obtain ⟨W0,hW0⟩:∃ W0,W0=w.alloc (.cells #[.string oa,.string ob,.string r,.string c,.string d,.string s] 42):=⟨_,rfl⟩;have hal:aa w W0:=by rw [hW0]; exact (Si _ _).alloc (Sj _) _
 have HB0:=ay hal;have U0:Hid (W0.cell? ⟨w.heap.size,0,none⟩=some (.string oa)∧W0.cell? ⟨w.heap.size,1,none⟩=some (.string ob)∧W0.cell? ⟨w.heap.size,2,none⟩=some (.string r)∧W0.cell? ⟨w.heap.size,3,none⟩=some (.string c)∧W0.cell? ⟨w.heap.size,4,none⟩=some (.string d)∧W0.cell? ⟨w.heap.size,5,none⟩=some (.string s)∧w.heap.size < W0.heap.size):=by
  show _∧_;rw [hW0]; refine ⟨?_,?_,?_,?_,?_,?_,?_⟩ <;> simp
 clear hal;go_enter func76,ntmps76;go_wp2_with fail;rw [← hW0];clear hW0;refine (iq ad cap rs oa r _ hlen (HS.out.below HB0.out) HL.out).mono ?_;rintro e w1 ⟨⟨rows,Tm,capE,rfl,hex,hse,hfr⟩,hw1⟩;replace hw1:=hw1.symm;subst hw1;have HX:Hid (ai rows=aH (ag rs) oa r):=hex;have VA:=ay hse;have Uk:=hfr.light HL.out;have hrl:rows.length≤1048576:=Uk.1;have Vl:Hid (∀ q ∈ rows,q.e.light):=Uk.2;clear hex hse hfr Uk;go_wp2_with fail;refine (vw Tm capE rows _ hrl VA.out).mono ?_;rintro e w1 ⟨⟨adA,capA,rfl,hsa,hfa⟩,hw1⟩;replace hw1:=hw1.symm;subst hw1;obtain ⟨xs,hxs⟩:∃ xs,xs=aQ (ai rows):=⟨_,rfl⟩;rw [← hxs] at hsa hfa ⊢;have Wd:Hid (xs=aQ (aH (ag rs) oa r)):=by rw [← HX.out]; exact hxs
 have HSA:=ay hsa;have hxl:xs.length≤1048576:=by
  rcases hfa with h | ⟨q,hq,h,-⟩
  ·rw [h]; simp
  rw [h]; exact (Vl.out q hq).1
 clear hxs hsa hfa Vl VA HX;go_wp2;go_loopw [6] (fun i wr=>∃ k:Nat,k≤xs.length∧i=.int .i64 k∧Hid (dC xs k ⟨c,s⟩=false)∧Hid (aa W0 wr)) (fun i _=>xs.length - (intOf i).toNat);case atStart=>exact ⟨0,Sm _,rfl,qL _ _,Si _ _⟩
 obtain ⟨k,hk,rfl,HP,HB⟩:=hrel;have Tt:Hid (aa w wr):=HB0.out.trans (HB.out.mono HB0.out.size);by_cases hlt:k < xs.length
 ·rcases HSA.out.below HB.out with hnil | ⟨b,off,rfl,hb5,hr5⟩
  ·rw [hnil] at hlt; simp at hlt
  obtain ⟨t0,t1⟩:=hr5 k hlt;have hk1:=bH k;have hk2:(k:Int) < (xs.length:Int):=by omega
  have hwl:w.heap.size < wr.heap.size:=Sg U0.out.2.2.2.2.2.2 HB.out.size;have c0:=aK HB.out U0.out.2.2.2.2.2.2 U0.out.1;have c1:=aK HB.out U0.out.2.2.2.2.2.2 U0.out.2.1;have c2:=aK HB.out U0.out.2.2.2.2.2.2 U0.out.2.2.1;have c3:=aK HB.out U0.out.2.2.2.2.2.2 U0.out.2.2.2.1;have c4:=aK HB.out U0.out.2.2.2.2.2.2 U0.out.2.2.2.2.1;have c5:=aK HB.out U0.out.2.2.2.2.2.2 U0.out.2.2.2.2.2.1;have Ym:Hid (dC xs (k + 1) ⟨c,s⟩=jy xs[k] ⟨c,s⟩):=by show _=_; rw [qK _ _ _ hlt,HP.out]; rfl
  clear hr5;go_wp2_with fail;cases h1:(xs[k].t.toList == c.toList);case false=>
   refine dH 19 (fun n=>(u21::u22::u23::u24::u25::u26::u27::u28::u29::u30::u31::u32::u33::u34::u35::u36::u37::u38::u39::[]).getD n undef) (fun fq=>{ tmps:=List.toArray (Value.slice ad rs.length cap::.agg #[.string oa,.string ob,.string r,.string c,.string d,.string s]::undef::.pointer (some ⟨w.heap.size,0,none⟩)::u4::.slice (some ⟨b,off,none⟩) xs.length capA::.int .i64 k::.slice ad rs.length cap::.pointer (some ⟨w.heap.size,0,none⟩)::.pointer (some ⟨w.heap.size,0,none⟩)::.string oa::.pointer (some ⟨w.heap.size,2,none⟩)::.string r::.slice Tm rows.length capE::.slice (some ⟨b,off,none⟩) xs.length capA::.int .i64 k::.slice (some ⟨b,off,none⟩) xs.length capA::.int .i64 xs.length::.bool true::u19::u20::fq 0::fq 1::fq 2::fq 3::fq 4::fq 5::fq 6::fq 7::fq 8::fq 9::fq 10::fq 11::fq 12::fq 13::fq 14::fq 15::fq 16::fq 17::fq 18::u40::u41::[]),defers:=[] }) (fun n v _=>v=(Value.slice (some ⟨b,off,none⟩) xs.length capA::.int .i64 k::.pointer (some ⟨b,off + k * 2,none⟩)::.pointer (some ⟨b,off + k * 2,none⟩)::.string xs[k].t::.pointer (some ⟨w.heap.size,3,none⟩)::.pointer (some ⟨w.heap.size,3,none⟩)::.string c::.bool false::.bool false::undef::undef::undef::undef::undef::undef::undef::undef::.bool false::[]).getD n undef) (fun w'=>aa wr w') (by kernel_rfl) rfl (by kernel_rfl) rfl (Si _ _).drew ?stepA ?finA;case stepA =>
    rintro i hi o ho fq w' hG hpre;have HG:Hid (aa wr w'):=hG;replace t0:=aK hG hb5 t0;replace t1:=aK hG hb5 t1;replace c3:=aK hG hwl c3;replace c5:=aK hG hwl c5;have HM:Hid (∀ e ∈ o.after,Region.binds .any e=true→_):=hpre;clear hG hpre;have hc:=LD (i:=i) (by omega);clear hi
    repeat' rcases hc with rfl | hc
    iterate 19
     ·cases ho;have hm:=HM.out
      try simp [Region.binds] at hm
      refine ae rfl fun K HK=>?_;clear HM
      try simp only [hm]
      go_simp;exact HK.out _ _ ⟨_,by simp [upd, *],HG.out,rfl,fun k u hu=>hu⟩
   case finA =>
    rintro fq w' hG hall;have e18:fq 18=.bool false:=hall 18 (by omega);have HG:Hid (aa wr w'):=hG;clear hall;clear hG;have HB2:Hid (aa W0 w'):=HB.out.trans (HG.out.mono HB.out.size);have Tu:Hid (dC xs (k + 1) ⟨c,s⟩=false):=by show _=_; rw [Ym.out]; simp [jy,h1]
    rw [e18];go_wp2;go_roundw;case rel=>exact ⟨k + 1,by omega,by go_num,Tu,HB2⟩
    simp [intOf] <;> omega
  cases h2:(xs[k].s.toList == s.toList);case false=>
   refine dH 19 (fun n=>(u21::u22::u23::u24::u25::u26::u27::u28::u29::u30::u31::u32::u33::u34::u35::u36::u37::u38::u39::[]).getD n undef) (fun fq=>{ tmps:=List.toArray (Value.slice ad rs.length cap::.agg #[.string oa,.string ob,.string r,.string c,.string d,.string s]::undef::.pointer (some ⟨w.heap.size,0,none⟩)::u4::.slice (some ⟨b,off,none⟩) xs.length capA::.int .i64 k::.slice ad rs.length cap::.pointer (some ⟨w.heap.size,0,none⟩)::.pointer (some ⟨w.heap.size,0,none⟩)::.string oa::.pointer (some ⟨w.heap.size,2,none⟩)::.string r::.slice Tm rows.length capE::.slice (some ⟨b,off,none⟩) xs.length capA::.int .i64 k::.slice (some ⟨b,off,none⟩) xs.length capA::.int .i64 xs.length::.bool true::u19::u20::fq 0::fq 1::fq 2::fq 3::fq 4::fq 5::fq 6::fq 7::fq 8::fq 9::fq 10::fq 11::fq 12::fq 13::fq 14::fq 15::fq 16::fq 17::fq 18::u40::u41::[]),defers:=[] }) (fun n v _=>v=(Value.slice (some ⟨b,off,none⟩) xs.length capA::.int .i64 k::.pointer (some ⟨b,off + k * 2,none⟩)::.pointer (some ⟨b,off + k * 2,none⟩)::.string xs[k].t::.pointer (some ⟨w.heap.size,3,none⟩)::.pointer (some ⟨w.heap.size,3,none⟩)::.string c::.bool true::.bool true::.slice (some ⟨b,off,none⟩) xs.length capA::.int .i64 k::.pointer (some ⟨b,off + k * 2,none⟩)::.pointer (some ⟨b,off + k * 2 + 1,none⟩)::.string xs[k].s::.pointer (some ⟨w.heap.size,5,none⟩)::.string s::.bool false::.bool false::[]).getD n undef) (fun w'=>aa wr w') (by kernel_rfl) rfl (by kernel_rfl) rfl (Si _ _).drew ?vO ?finB;case vO =>
    rintro i hi o ho fq w' hG hpre;have HG:Hid (aa wr w'):=hG;replace t0:=aK hG hb5 t0;replace t1:=aK hG hb5 t1;replace c3:=aK hG hwl c3;replace c5:=aK hG hwl c5;have HM:Hid (∀ e ∈ o.after,Region.binds .any e=true→_):=hpre;clear hG hpre;have hc:=LD (i:=i) (by omega);clear hi
    repeat' rcases hc with rfl | hc
    iterate 19
     ·cases ho;have hm:=HM.out
      try simp [Region.binds] at hm
      refine ae rfl fun K HK=>?_;clear HM
      try simp only [hm]
      go_simp;exact HK.out _ _ ⟨_,by simp [upd, *],HG.out,rfl,fun k u hu=>hu⟩
   case finB =>
    rintro fq w' hG hall;have e18:fq 18=.bool false:=hall 18 (by omega);have HG:Hid (aa wr w'):=hG;clear hall;clear hG;have HB2:Hid (aa W0 w'):=HB.out.trans (HG.out.mono HB.out.size);have Tu:Hid (dC xs (k + 1) ⟨c,s⟩=false):=by show _=_; rw [Ym.out]; simp [jy,h1,h2]
    rw [e18];go_wp2;go_roundw;case rel=>exact ⟨k + 1,by omega,by go_num,Tu,HB2⟩
    simp [intOf] <;> omega
  refine dH 19 (fun n=>(u21::u22::u23::u24::u25::u26::u27::u28::u29::u30::u31::u32::u33::u34::u35::u36::u37::u38::u39::[]).getD n undef) (fun fq=>{ tmps:=List.toArray (Value.slice ad rs.length cap::.agg #[.string oa,.string ob,.string r,.string c,.string d,.string s]::undef::.pointer (some ⟨w.heap.size,0,none⟩)::u4::.slice (some ⟨b,off,none⟩) xs.length capA::.int .i64 k::.slice ad rs.length cap::.pointer (some ⟨w.heap.size,0,none⟩)::.pointer (some ⟨w.heap.size,0,none⟩)::.string oa::.pointer (some ⟨w.heap.size,2,none⟩)::.string r::.slice Tm rows.length capE::.slice (some ⟨b,off,none⟩) xs.length capA::.int .i64 k::.slice (some ⟨b,off,none⟩) xs.length capA::.int .i64 xs.length::.bool true::u19::u20::fq 0::fq 1::fq 2::fq 3::fq 4::fq 5::fq 6::fq 7::fq 8::fq 9::fq 10::fq 11::fq 12::fq 13::fq 14::fq 15::fq 16::fq 17::fq 18::u40::u41::[]),defers:=[] }) (fun n v _=>v=(Value.slice (some ⟨b,off,none⟩) xs.length capA::.int .i64 k::.pointer (some ⟨b,off + k * 2,none⟩)::.pointer (some ⟨b,off + k * 2,none⟩)::.string xs[k].t::.pointer (some ⟨w.heap.size,3,none⟩)::.pointer (some ⟨w.heap.size,3,none⟩)::.string c::.bool true::.bool true::.slice (some ⟨b,off,none⟩) xs.length capA::.int .i64 k::.pointer (some ⟨b,off + k * 2,none⟩)::.pointer (some ⟨b,off + k * 2 + 1,none⟩)::.string xs[k].s::.pointer (some ⟨w.heap.size,5,none⟩)::.string s::.bool true::.bool true::[]).getD n undef) (fun w'=>aa wr w') (by kernel_rfl) rfl (by kernel_rfl) rfl (Si _ _).drew ?stepC ?finC;case stepC =>
   rintro i hi o ho fq w' hG hpre;have HG:Hid (aa wr w'):=hG;replace t0:=aK hG hb5 t0;replace t1:=aK hG hb5 t1;replace c3:=aK hG hwl c3;replace c5:=aK hG hwl c5;have HM:Hid (∀ e ∈ o.after,Region.binds .any e=true→_):=hpre;clear hG hpre;have hc:=LD (i:=i) (by omega);clear hi
   repeat' rcases hc with rfl | hc
   iterate 19
    ·cases ho;have hm:=HM.out
     try simp [Region.binds] at hm
     refine ae rfl fun K HK=>?_;clear HM
     try simp only [hm]
     go_simp;exact HK.out _ _ ⟨_,by simp [upd, *],HG.out,rfl,fun k u hu=>hu⟩
  case finC =>
   rintro fq w' hG hall;have e18:fq 18=.bool true:=hall 18 (by omega);have HG:Hid (aa wr w'):=hG;clear hall;replace c0:=aK hG hwl c0;replace c1:=aK hG hwl c1;replace c2:=aK hG hwl c2;replace c3:=aK hG hwl c3;replace c4:=aK hG hwl c4;replace c5:=aK hG hwl c5;clear hG;rw [e18];have HN:Hid (pI (ag rs) oa ob r c d s=bn oa ob r c d s):=by show _=_; unfold pI; rw [← Wd.out,KV hlt (by simp [jy,h1,h2])]; rfl
   go_wp2_with fail;refine (dI oa ob r c d s _ ha hb hr hc hd hz).mono ?_;rintro e w2 ⟨rfl,hb2⟩;have HB2:Hid (aa w w2):=Tt.out.trans ((HG.out.mono Tt.out.size).trans (hb2.mono (Sq Tt.out.size HG.out.size)));clear hb2;go_wp2;go_ret;exact ⟨by rw [HN.out]; rfl,HB2.out⟩
 obtain rfl:k=xs.length:=by omega
 have HN:Hid (pI (ag rs) oa ob r c d s=false):=by show _=_; unfold pI; rw [← Wd.out,HP.out]; rfl
 go_wp2;go_ret;exact ⟨by rw [HN.out]; rfl,Tt.out⟩
set_option linter.unusedVariables false
set_option maxRecDepth 100000
def il (rs:List TR) (t:Tp):Bool:=pI (ag rs) t.a t.b t.r t.c t.d t.s
theorem KW {rs:List TR} {t:Tp} (h:aF (ag rs)=true) (ht:t.ok=true):mo (ag rs) t.a t.r ⟨t.c,t.s⟩=il rs t:=by
 have hSP:=bW.1 h;have h1:mo (ag rs) t.a t.r ⟨t.c,t.s⟩=dC (aQ (aH (ag rs) t.a t.r)) (aQ (aH (ag rs) t.a t.r)).length ⟨t.c,t.s⟩:=zB _ (Jr hSP _ _);have h2:bn t.a t.b t.r t.c t.d t.s=true:=ht;rw [h1];unfold il pI;rw [h2,Bool.and_true]
theorem NG {p:Tp→Bool} {ts:List Tp} {k:Nat} (h:k < ts.length):(ts.drop k).all p=(p ts[k] && (ts.drop (k + 1)).all p):=by rw [SH h]; rfl
theorem FL (ad:Option Addr) (cap:Nat) (rs:List TR) (Ti:Option Addr) (cap':Nat) (ts:List Tp) (w:af) (hlen:rs.length≤1048576) (hs:iN w ad rs) (hl:∀ r ∈ rs,r.light) (hfr:∀ r ∈ rs,r.fits) (hlt:ts.length≤1048576) (hst:Sl w Ti ts) (hft:∀ x ∈ ts,x.fits) :
  Calls prog 50 #[.slice ad rs.length cap,.slice Ti ts.length cap'] w fun e w'=>e=.returned (.bool (aW (il rs) rs ts))∧aa w w':=by
 have HS:=aj hs;have HL:=aj hl;have TP:=aj hfr;have HST:=aj hst;have Tv:=aj hft;have TF:ts.length≤maxLen:=by unfold maxLen; omega
 clear hs hl hfr hst hft;go_enter func50,ntmps50;go_wp2_with fail;refine (mM ad cap rs _ hlen HS.out HL.out TP.out).mono ?_;rintro e w1 ⟨he,hb1⟩;have HB1:=aj hb1;clear hb1;cases h1:aF (ag rs);case false=>
  rw [h1] at he; subst he;have HN:Hid (aW (il rs) rs ts=false):=by show _=_; unfold aW; rw [h1]; rfl
  clear h1;go_wp2;go_ret;exact ⟨by rw [HN.out]; rfl,HB1.out⟩
 rw [h1] at he; subst he;have H1:=aj h1;clear h1;go_wp2_with fail;refine (mD Ti cap' ts _ TF (HST.out.below HB1.out) Tv.out).mono ?_;rintro e w2 ⟨he,hb2⟩;have HB2:=aj (HB1.out.trans (hb2.mono HB1.out.size));clear hb2 HB1;cases h2:dO ts;case false=>
  rw [h2] at he; subst he;have HN:Hid (aW (il rs) rs ts=false):=by show _=_; unfold aW; rw [h2,Bool.and_false]; rfl
  clear h2;go_wp2;go_ret;exact ⟨by rw [HN.out]; rfl,HB2.out⟩
 rw [h2] at he; subst he;have HN:Hid (aW (il rs) rs ts=ts.all (il rs)):=by show _=_; unfold aW; rw [H1.out,h2]; rfl
 clear h2 H1;go_wp2;go_loopw [5] (fun i wr=>∃ k:Nat,k≤ts.length∧i=.int .i64 k∧Hid ((ts.drop k).all (il rs)=ts.all (il rs))∧Hid (aa w wr)) (fun i _=>ts.length - (intOf i).toNat);case atStart=>exact ⟨0,Sm _,rfl,rfl,HB2⟩
 clear HB2;obtain ⟨k,hk,rfl,HP,HB⟩:=hrel;by_cases hlt2:k < ts.length
 ·obtain ⟨b,off,Tq,⟨t0,t1,t2,t3,t4,t5⟩,hb⟩:=Sl.at0 (HST.out.below HB.out) hlt2;have hk1:=bH k;have hk2:(k:Int) < (ts.length:Int):=by omega
  obtain ⟨f0,f1,f2,f3,f4,f5⟩:=Tv.out _ (Sd hlt2);have HD:Hid (ts.all (il rs)=(il rs ts[k] && (ts.drop (k + 1)).all (il rs))):=by show _=_; rw [← HP.out]; exact NG hlt2
  obtain ⟨x,hx⟩:∃ x,x=ts[k]:=⟨_,rfl⟩;rw [← hx] at t0 t1 t2 t3 t4 t5 f0 f1 f2 f3 f4 f5 HD;have HLF:=aj (zC ad cap rs x.a x.b x.r x.c x.d x.s wr hlen (HS.out.below HB.out) HL.out f0 f1 f2 f3 f4 f5);subst Tq;clear hx;go_wp2_with fail;refine HLF.out.mono ?_;rintro e w3 ⟨he,hb3⟩;have HB3:=aj (HB.out.trans (hb3.mono HB.out.size));clear hb3 HLF t0 t1 t2 t3 t4 t5;cases h5:pI (ag rs) x.a x.b x.r x.c x.d x.s;case true=>
   rw [h5] at he; subst he;have Tu:Hid ((ts.drop (k + 1)).all (il rs)=ts.all (il rs)):=by show _=_; rw [HD.out]; unfold il at *; rw [h5]; rfl
   clear h5;go_wp2;go_roundw;case rel=>exact ⟨k + 1,by omega,by go_num,Tu,HB3⟩
   simp [intOf] <;> omega
  rw [h5] at he; subst he;have UZ:Hid (aW (il rs) rs ts=false):=by show _=_; rw [HN.out,HD.out]; unfold il at *; rw [h5]; rfl
  clear h5;go_wp2;go_ret;exact ⟨by rw [UZ.out]; rfl,HB3.out⟩
 have UZ:Hid (aW (il rs) rs ts=true):=by show _=_; rw [HN.out,← HP.out,List.drop_of_length_le (by omega)]; rfl
 go_wp2;go_ret;exact ⟨by rw [UZ.out]; rfl,HB.out⟩
end Go.Proofs.YtdmniljjnaebbaaGreatDoor
