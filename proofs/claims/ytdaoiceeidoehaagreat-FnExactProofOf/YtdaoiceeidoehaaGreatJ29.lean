/- Contracts of the program's looks at a schema's shape. -/
import Derived.Test.YtdaoiceeidoehaaGreatSpecSchema11
import Derived.Test.YtdaoiceeidoehaaGreatJ28
open Go.Proofs.Tryz
set_option maxHeartbeats 80000000
namespace Go.Proofs.YtdaoiceeidoehaaGreat
open Go.ChangeShapes Go.WideShapes Go.ChangeAt Go.RowKit
open Pl
open Go.Sort
def fP (rs:List RR):Bool:=decide (rs.length≤6) && dB (dz rs) rs.length
theorem Ii {rs:List RR} {k:Nat} (h:k < rs.length):kD (dz rs) k=(aR rs[k].name && vM (dz rs) rs[k].name k && aU (ah rs[k].rows)):=BB h
theorem Ij {rs:List TR} {k:Nat} (h:k < rs.length):jE (ae rs) k=(aR rs[k].name && si (ae rs) rs[k].name k && fP rs[k].rows):=by
 rw [BA h]; unfold fP; rw [Bool.and_assoc]
set_option maxRecDepth 100000 in
theorem wB (ad:Option Addr) (cap:Nat) (rs:List RR) (w:World) (hlen:rs.length≤1048576) (hs:zz w ad rs) (hl:∀ r ∈ rs,r.light) (hf:∀ r ∈ rs,r.fits) (hcp:∀ r ∈ rs,r.caps) :
  Calls prog 141 #[.slice ad rs.length cap] w fun e w'=>e=.returned (.bool (fP rs))∧Below w.heap.size w w':=by
 have HS:=aC hs;have HL:=aC hl;have Tj:=aC hf;have VD:=aC hcp;clear hs hl hf hcp;have WV:Hid (fP rs=(decide (rs.length≤6) && dB (dz rs) rs.length)):=by show _=_; rfl
 by_cases h6:6 < rs.length
 ·have HN:Hid (fP rs=false):=by show _=_; rw [WV.out]; simp; omega
  go_enter func141,ntmps141;go_wp2;go_ret;exact ⟨af HN.out.symm,R3 _ _⟩
 go_enter func141,ntmps141;go_wp2;go_loopw [10] (fun i wr=>∃ k:Nat,k≤rs.length∧i=.int .i64 k∧Hid (dB (dz rs) k=true)∧Hid (Below w.heap.size w wr)) (fun i _=>rs.length - (intOf i).toNat);case atStart=>exact ⟨0,R6 _,rfl,rfl,R3 _ _⟩
 case round =>
  obtain ⟨k,hk,rfl,HP,HB⟩:=hrel;by_cases hlt:k < rs.length
  ·rcases HS.out.below HB.out with rfl | ⟨b,off,rfl,hb,hr,hok⟩
   ·simp at hlt
   obtain ⟨t0,t1⟩:=hr k hlt;have UX:Hid (rs[k].ok wr):=hok rs[k] (RY hlt);have z1:rs[k].name.size≤maxLen:=(Tj.out _ (RY hlt)).1;have Vq:Hid (rs[k].light):=HL.out _ (RY hlt);have UV:Hid (rs[k].fits):=Tj.out _ (RY hlt);have HCP:Hid (rs[k].caps):=VD.out _ (RY hlt);have hk1:=bn k;have hk2:(k:Int) < (rs.length:Int):=by omega
   have HTP:Hid (∀ (m:Nat) (h:m < rs.length),wr.cell? ⟨b,off + m * 2,none⟩=some (.string rs[m].name)):=fun m h=>(hr m h).1;have XV:Hid (kD (dz rs) k=(aR rs[k].name && vM (dz rs) rs[k].name k && aU (ah rs[k].rows))):=Ii hlt;have HBAD:Hid (kD (dz rs) k=false→fP rs=false):=fun h=>by rw [WV.out,qA _ k h _ hlt]; simp
   obtain ⟨W1,hW1⟩:∃ W1,W1=wr.alloc (.cells #[.string rs[k].name,.slice rs[k].ad rs[k].rows.length rs[k].cap] 152):=⟨_,rfl⟩;have hal:Below wr.heap.size wr W1:=by rw [hW1]; exact (R3 _ _).alloc (R4 _) _
   have Tm:=aC hal;have hgl:wr.heap.size < W1.heap.size:=by rw [hW1]; simp
   have g0:W1.cell? ⟨wr.heap.size,0,none⟩=some (.string rs[k].name):=by rw [hW1]; simp
   have g1:W1.cell? ⟨wr.heap.size,1,none⟩=some (.slice rs[k].ad rs[k].rows.length rs[k].cap):=by rw [hW1]; simp
   have hb4:b < W1.heap.size:=Nat.lt_trans hb hgl;clear hr hok;go_wp2_with fail;rw [← hW1];clear hW1 t0 t1 hal;have q0:=cell_regrown g0;have q1:=cell_regrown g1;have Tx:=nZ (ji (W:=W1) (fun W'=>aY rs[k].name W' z1));have Ws:Hid (∀ d os,Calls prog 160 #[.slice rs[k].ad rs[k].rows.length rs[k].cap] (grow (redrawn W1 d) os) fun e w''=>e=.returned (.bool (aU (ah rs[k].rows)))∧∃ p:Regrown,w''=grow (redrawn W1 p.d) p.os):=by
    show ∀ d os,Calls prog 160 #[.slice rs[k].ad rs[k].rows.length rs[k].cap] (grow (redrawn W1 d) os) fun e w''=>e=.returned (.bool (aU (ah rs[k].rows)))∧∃ p:Regrown,w''=grow (redrawn W1 p.d) p.os;rw [sS];refine cz fun W' hb=>?_;exact zf _ _ rs[k].rows _ Vq.out.1 Vq.out.2 UV.out.2.2 HCP.out.2 (UX.out.below (Tm.out.trans (hb.mono Tm.out.size)))
   have TH:Hid (∀ d os,Below w.heap.size w (grow (redrawn W1 d) os)):=fun d os=>HB.out.trans ((Tm.out.mono HB.out.size).trans ((below_regrown W1 d os).mono (Sb HB.out.size Tm.out.size)));cases hnm:aR rs[k].name with
   | false =>
    rw [hnm] at Tx;have HN:Hid (fP rs=false):=HBAD.out (by rw [XV.out]; simp [hnm]);refine wp_region_quiet_below (by kernel_rfl) (by kernel_rfl) ?_
    repeat (go_big_quiet_step (exact Tx.out _ _))
    refine wpQuiet_nil ?_;rintro _ ⟨⟨dq,osq⟩,rfl⟩;go_wp2;go_ret;exact ⟨af HN.out.symm,TH.out dq osq⟩
   | true =>
    rw [hnm] at Tx;obtain ⟨ex,hex⟩:∃ ex,ex=aU (ah rs[k].rows):=⟨_,rfl⟩;rw [← hex] at Ws XV;have fin:Hid (∀ pv,vM (dz rs) rs[k].name k=pv→kD (dz rs) k=(pv && ex)):=fun pv h=>by rw [XV.out,hnm,h]; simp
    clear hex XV hnm;by_cases hpos:k=0
    ·have hk0:¬ (0:Int) < (k:Int):=by omega
     have hk9:decide (0 < k)=false:=by simp; omega
     have UA:=nZ (fin.out _ (zb hpos));replace hpos:Hid (k=0):=hpos;refine wp_region_quiet_below (by kernel_rfl) (by kernel_rfl) ?_
     repeat (go_big_quiet_step (first | exact Tx.out _ _ | exact Ws.out _ _))
     refine wpQuiet_nil ?_;rintro _ ⟨⟨dq,osq⟩,rfl⟩;cases ex with
     | false =>
      have HN:Hid (fP rs=false):=HBAD.out (by rw [UA.out]; rfl);go_wp2;go_ret;exact ⟨af HN.out.symm,TH.out dq osq⟩
     | true =>
      have UJ:Hid (dB (dz rs) (k + 1)=true):=by show _=_; simp only [dB]; rw [HP.out,UA.out]; rfl
      go_wp2;go_roundw;case rel=>exact ⟨k + 1,by omega,by go_num,UJ,TH.out dq osq⟩
      case measure=>simp [intOf] <;> omega
    ·obtain ⟨m,hm⟩:∃ m,k=m + 1:=⟨k - 1,by omega⟩;have Tv:m < rs.length:=by omega
     have hk0:(0:Int) < (k:Int):=by omega
     have hk9:decide (0 < k)=true:=by simp; omega
     have hkm:(k:Int) - 1=(m:Int):=by omega
     have hwm:IntKind.i64.wrap (m:Int)=(m:Int):=by rw [IntKind.wrap_i64]; omega
     have hm1:=bn m;have hm2:(m:Int) < (rs.length:Int):=by omega
     have qm:=cell_regrown (aH Tm.out hb (HTP.out m Tv));have UA:=nZ (fin.out _ (yZ hm Tv));replace hm:Hid (k=m + 1):=hm;cases hless:Op.bytesLess rs[m].name.toList rs[k].name.toList with
     | false =>
      have HN:Hid (fP rs=false):=HBAD.out (by rw [UA.out]; simp [iC,hless]);refine wp_region_quiet_below (by kernel_rfl) (by kernel_rfl) ?_
      repeat (go_big_quiet_step (first | exact Tx.out _ _ | exact Ws.out _ _))
      refine wpQuiet_nil ?_;rintro _ ⟨⟨dq,osq⟩,rfl⟩;go_wp2;go_ret;exact ⟨af HN.out.symm,TH.out dq osq⟩
     | true =>
      refine wp_region_quiet_below (by kernel_rfl) (by kernel_rfl) ?_
      repeat (go_big_quiet_step (first | exact Tx.out _ _ | exact Ws.out _ _))
      refine wpQuiet_nil ?_;rintro _ ⟨⟨dq,osq⟩,rfl⟩;cases ex with
      | false =>
       have HN:Hid (fP rs=false):=HBAD.out (by rw [UA.out]; simp);go_wp2;go_ret;exact ⟨af HN.out.symm,TH.out dq osq⟩
      | true =>
       have UJ:Hid (dB (dz rs) (k + 1)=true):=by show _=_; simp only [dB]; rw [HP.out,UA.out]; simp [iC,hless]
       go_wp2;go_roundw;case rel=>exact ⟨k + 1,by omega,by go_num,UJ,TH.out dq osq⟩
       case measure=>simp [intOf] <;> omega
  ·obtain rfl:k=rs.length:=by omega
   have HY:Hid (fP rs=true):=by show _=_; rw [WV.out,HP.out]; simp; omega
   go_wp2;go_ret;exact ⟨af HY.out.symm,HB.out⟩
set_option maxRecDepth 100000 in
theorem Fu (ad:Option Addr) (cap:Nat) (rs:List TR) (w:World) (hlen:rs.length≤1048576) (hs:jd w ad rs) (hl:∀ r ∈ rs,r.light) (hf:∀ r ∈ rs,r.fits) (hcp:∀ r ∈ rs,r.caps) :
  Calls prog 117 #[.slice ad rs.length cap] w fun e w'=>e=.returned (.bool (aV (ae rs)))∧Below w.heap.size w w':=by
 have HS:=aC hs;have HL:=aC hl;have Tj:=aC hf;have VD:=aC hcp;clear hs hl hf hcp;have WV:Hid (aV (ae rs)=(decide (rs.length≤6) && gZ (ae rs) rs.length)):=by show _=_; unfold aV; rw [fO]
 by_cases h6:6 < rs.length
 ·have HN:Hid (aV (ae rs)=false):=by show _=_; rw [WV.out]; simp; omega
  go_enter func117,ntmps117;go_wp2;go_ret;exact ⟨af HN.out.symm,R3 _ _⟩
 go_enter func117,ntmps117;go_wp2;go_loopw [10] (fun i wr=>∃ k:Nat,k≤rs.length∧i=.int .i64 k∧Hid (gZ (ae rs) k=true)∧Hid (Below w.heap.size w wr)) (fun i _=>rs.length - (intOf i).toNat);case atStart=>exact ⟨0,R6 _,rfl,rfl,R3 _ _⟩
 case round =>
  obtain ⟨k,hk,rfl,HP,HB⟩:=hrel;by_cases hlt:k < rs.length
  ·rcases HS.out.below HB.out with rfl | ⟨b,off,rfl,hb,hr,hok⟩
   ·simp at hlt
   obtain ⟨t0,t1⟩:=hr k hlt;have UX:Hid (rs[k].ok wr):=hok rs[k] (RY hlt);have z1:rs[k].name.size≤maxLen:=(Tj.out _ (RY hlt)).1;have Vq:Hid (rs[k].light):=HL.out _ (RY hlt);have UV:Hid (rs[k].fits):=Tj.out _ (RY hlt);have HCP:Hid (rs[k].caps):=VD.out _ (RY hlt);have hk1:=bn k;have hk2:(k:Int) < (rs.length:Int):=by omega
   have HTP:Hid (∀ (m:Nat) (h:m < rs.length),wr.cell? ⟨b,off + m * 2,none⟩=some (.string rs[m].name)):=fun m h=>(hr m h).1;have XV:Hid (jE (ae rs) k=(aR rs[k].name && si (ae rs) rs[k].name k && fP rs[k].rows)):=Ij hlt;have HBAD:Hid (jE (ae rs) k=false→aV (ae rs)=false):=fun h=>by rw [WV.out,qB _ k h _ hlt]; simp
   obtain ⟨W1,hW1⟩:∃ W1,W1=wr.alloc (.cells #[.string rs[k].name,.slice rs[k].ad rs[k].rows.length rs[k].cap] 70):=⟨_,rfl⟩;have hal:Below wr.heap.size wr W1:=by rw [hW1]; exact (R3 _ _).alloc (R4 _) _
   have Tm:=aC hal;have hgl:wr.heap.size < W1.heap.size:=by rw [hW1]; simp
   have g0:W1.cell? ⟨wr.heap.size,0,none⟩=some (.string rs[k].name):=by rw [hW1]; simp
   have g1:W1.cell? ⟨wr.heap.size,1,none⟩=some (.slice rs[k].ad rs[k].rows.length rs[k].cap):=by rw [hW1]; simp
   have hb4:b < W1.heap.size:=Nat.lt_trans hb hgl;clear hr hok;go_wp2_with fail;rw [← hW1];clear hW1 t0 t1 hal;have q0:=cell_regrown g0;have q1:=cell_regrown g1;have Tx:=nZ (ji (W:=W1) (fun W'=>aY rs[k].name W' z1));have Ws:Hid (∀ d os,Calls prog 141 #[.slice rs[k].ad rs[k].rows.length rs[k].cap] (grow (redrawn W1 d) os) fun e w''=>e=.returned (.bool (fP rs[k].rows))∧∃ p:Regrown,w''=grow (redrawn W1 p.d) p.os):=by
    refine cz fun W' hb=>?_;exact wB _ _ rs[k].rows _ Vq.out.1 (UX.out.below (Tm.out.trans (hb.mono Tm.out.size))) Vq.out.2 UV.out.2.2 HCP.out.2
   have TH:Hid (∀ d os,Below w.heap.size w (grow (redrawn W1 d) os)):=fun d os=>HB.out.trans ((Tm.out.mono HB.out.size).trans ((below_regrown W1 d os).mono (Sb HB.out.size Tm.out.size)));cases hnm:aR rs[k].name with
   | false =>
    rw [hnm] at Tx;have HN:Hid (aV (ae rs)=false):=HBAD.out (by rw [XV.out]; simp [hnm]);refine wp_region_quiet_below (by kernel_rfl) (by kernel_rfl) ?_
    repeat (go_big_quiet_step (exact Tx.out _ _))
    refine wpQuiet_nil ?_;rintro _ ⟨⟨dq,osq⟩,rfl⟩;go_wp2;go_ret;exact ⟨af HN.out.symm,TH.out dq osq⟩
   | true =>
    rw [hnm] at Tx;obtain ⟨ex,hex⟩:∃ ex,ex=fP rs[k].rows:=⟨_,rfl⟩;rw [← hex] at Ws XV;have fin:Hid (∀ pv,si (ae rs) rs[k].name k=pv→jE (ae rs) k=(pv && ex)):=fun pv h=>by rw [XV.out,hnm,h]; simp
    clear hex XV hnm;by_cases hpos:k=0
    ·have hk0:¬ (0:Int) < (k:Int):=by omega
     have hk9:decide (0 < k)=false:=by simp; omega
     have UA:=nZ (fin.out _ (za hpos));replace hpos:Hid (k=0):=hpos;refine wp_region_quiet_below (by kernel_rfl) (by kernel_rfl) ?_
     repeat (go_big_quiet_step (first | exact Tx.out _ _ | exact Ws.out _ _))
     refine wpQuiet_nil ?_;rintro _ ⟨⟨dq,osq⟩,rfl⟩;cases ex with
     | false =>
      have HN:Hid (aV (ae rs)=false):=HBAD.out (by rw [UA.out]; rfl);go_wp2;go_ret;exact ⟨af HN.out.symm,TH.out dq osq⟩
     | true =>
      have UJ:Hid (gZ (ae rs) (k + 1)=true):=by show _=_; simp only [gZ]; rw [HP.out,UA.out]; rfl
      go_wp2;go_roundw;case rel=>exact ⟨k + 1,by omega,by go_num,UJ,TH.out dq osq⟩
      case measure=>simp [intOf] <;> omega
    ·obtain ⟨m,hm⟩:∃ m,k=m + 1:=⟨k - 1,by omega⟩;have Tv:m < rs.length:=by omega
     have hk0:(0:Int) < (k:Int):=by omega
     have hk9:decide (0 < k)=true:=by simp; omega
     have hkm:(k:Int) - 1=(m:Int):=by omega
     have hwm:IntKind.i64.wrap (m:Int)=(m:Int):=by rw [IntKind.wrap_i64]; omega
     have hm1:=bn m;have hm2:(m:Int) < (rs.length:Int):=by omega
     have qm:=cell_regrown (aH Tm.out hb (HTP.out m Tv));have UA:=nZ (fin.out _ (yY hm Tv));replace hm:Hid (k=m + 1):=hm;cases hless:Op.bytesLess rs[m].name.toList rs[k].name.toList with
     | false =>
      have HN:Hid (aV (ae rs)=false):=HBAD.out (by rw [UA.out]; simp [iC,hless]);refine wp_region_quiet_below (by kernel_rfl) (by kernel_rfl) ?_
      repeat (go_big_quiet_step (first | exact Tx.out _ _ | exact Ws.out _ _))
      refine wpQuiet_nil ?_;rintro _ ⟨⟨dq,osq⟩,rfl⟩;go_wp2;go_ret;exact ⟨af HN.out.symm,TH.out dq osq⟩
     | true =>
      refine wp_region_quiet_below (by kernel_rfl) (by kernel_rfl) ?_
      repeat (go_big_quiet_step (first | exact Tx.out _ _ | exact Ws.out _ _))
      refine wpQuiet_nil ?_;rintro _ ⟨⟨dq,osq⟩,rfl⟩;cases ex with
      | false =>
       have HN:Hid (aV (ae rs)=false):=HBAD.out (by rw [UA.out]; simp);go_wp2;go_ret;exact ⟨af HN.out.symm,TH.out dq osq⟩
      | true =>
       have UJ:Hid (gZ (ae rs) (k + 1)=true):=by show _=_; simp only [gZ]; rw [HP.out,UA.out]; simp [iC,hless]
       go_wp2;go_roundw;case rel=>exact ⟨k + 1,by omega,by go_num,UJ,TH.out dq osq⟩
       case measure=>simp [intOf] <;> omega
  ·obtain rfl:k=rs.length:=by omega
   have HY:Hid (aV (ae rs)=true):=by show _=_; rw [WV.out,HP.out]; simp; omega
   go_wp2;go_ret;exact ⟨af HY.out.symm,HB.out⟩
open Go.Maps
def Fv (ts:List Ty) (w:World) (e:Ending) (w':World):Prop :=
 ((∃ (b n:Nat) (σ:Ky→Option Int),e=.returned (.tuple #[.map (some b),.bool true])∧bG ts∧aD dJ prog 130 w' b n (iw σ)∧Least ts (fun k=>(σ k).getD 0)∧∀ k,(∃ x,σ k=some x) ↔ k ∈ ai ts) ∨ (e=.returned (.tuple #[.map none,.bool false])∧¬ bG ts))∧Below w.heap.size w w'
set_option maxRecDepth 100000 in
theorem Da (ad:Option Addr) (cap:Nat) (rs:List TR) (w:World) (hlen:rs.length≤1048576) (hs:jd w ad rs) (hl:∀ r ∈ rs,r.light) (hf:∀ r ∈ rs,r.fits) (hcp:∀ r ∈ rs,r.caps) :
  Calls prog 87 #[.slice ad rs.length cap] w (Fv (ae rs) w):=by
 have HS:=aC hs;have HL:=aC hl;have Tj:=aC hf;have VD:=aC hcp;clear hs hl hf hcp;go_enter func87,ntmps87;go_wp2_with fail;refine (Fu ad cap rs _ hlen HS.out HL.out Tj.out VD.out).mono ?_;rintro e w1 ⟨rfl,hb1⟩;have HB1:=aC hb1;clear hb1;cases hsh:aV (ae rs) with
 | false =>
  have HP:Hid (Fv (ae rs) w (.returned (.tuple #[.map none,.bool false])) w1):=⟨.inr ⟨rfl,fun h=>by rw [h.1] at hsh; cases hsh⟩,HB1.out⟩;go_wp2;refine bodyPost_ret (v:=.tuple #[.map none,.bool false]) ?_ rfl HP.out;simp [results,Tryz.results87,go_sem]
 | true =>
  have HSH:Hid (aV (ae rs)=true):=hsh;obtain ⟨h6,Xn,hex⟩:=bH hsh;have WR:Hid (∀ r ∈ rs,r.rows.length≤6):=Xn;have HEX:Hid (∀ r ∈ rs,∀ q ∈ r.rows,aU (ah q.rows)=true∧q.rows.length≤15∧∀ e ∈ q.rows,dU q.rows.length e.e.kids):=hex;have HT:Hid (Tab rs (mJ rs)):=mM hsh;clear hsh Xn hex;go_wp2_with fail;refine (vz ad cap rs _ h6 (HS.out.below HB1.out) WR.out Tj.out).mono ?_;rintro e w2 ⟨rfl,hV2,hb2⟩;have HB2:=gY HB1 hb2;obtain ⟨bT,hbT⟩:∃ bT,bT=w1.heap.size:=⟨_,rfl⟩;rw [← hbT] at hV2 ⊢;have Vf:Hid (aD dJ prog 130 w2 bT 36 (mJ rs)):=hV2;clear hV2 hb2 hbT HB1;go_wp2_with fail;go_loopw [16] (fun i wr=>∃ k:Nat,k≤rs.length∧i=.int .i64 k∧Hid (((ae rs).take k).all (om (ae rs))=true)∧Hid (Below w.heap.size w wr)∧Hid (aD dJ prog 130 wr bT 36 (mJ rs))) (fun i _=>rs.length - (intOf i).toNat);case atStart=>exact ⟨0,R6 _,rfl,(by show _=_; simp),HB2,Vf⟩
  case round =>
   clear HB2 Vf;obtain ⟨k,hk,rfl,HP,HB,HV⟩:=hrel;by_cases hlt:k < rs.length
   ·rcases HS.out.below HB.out with rfl | ⟨b,off,rfl,hb,hr,-⟩
    ·simp at hlt
    obtain ⟨t0,t1⟩:=hr k hlt;have hk1:=bn k;have hk2:(k:Int) < (rs.length:Int):=by omega
    have h66:=WR.out _ (RY hlt);have z0:rs[k].name.size≤maxLen:=(Tj.out _ (RY hlt)).1;obtain ⟨W1,hW1⟩:∃ W1,W1=wr.alloc (.cells #[.string rs[k].name,.slice rs[k].ad rs[k].rows.length rs[k].cap] 70):=⟨_,rfl⟩;have hal:Below wr.heap.size wr W1:=by rw [hW1]; exact (R3 _ _).alloc (R4 _) _
    obtain ⟨g6,hg6⟩:∃ g6,g6=wr.heap.size:=⟨_,rfl⟩;have TY:Hid (W1.cell? ⟨g6,0,none⟩=some (.string rs[k].name)∧g6 < W1.heap.size):=⟨by rw [hW1,hg6]; simp,by rw [hW1,hg6]; simp⟩;have HB1:=gY HB hal;have WC:=aC (HV.out.below hal);clear hr hal HB HV;go_wp2_with fail;rw [← hW1,← hg6];clear hW1 t0 t1 hg6;go_loopw [23] (fun i w3=>∃ j:Nat,j≤rs[k].rows.length∧i=.int .i64 j∧Hid (((dz rs[k].rows).take j).all (fun r=>aN (ae rs) rs[k].name r.expr)=true)∧Hid (Below w.heap.size w w3)∧Hid (aD dJ prog 130 w3 bT 36 (mJ rs))∧Hid (w3.cell? ⟨g6,0,none⟩=some (.string rs[k].name)∧g6 < w3.heap.size)) (fun i _=>rs[k].rows.length - (intOf i).toNat);case atStart=>exact ⟨0,R6 _,rfl,(by show _=_; simp),HB1,WC,TY⟩
    case round =>
     clear HB1 WC TY;obtain ⟨j,hj,rfl,HR,HB,HV,HC⟩:=hrel;by_cases hjl:j < rs[k].rows.length
     ·rcases HS.out.below HB.out with hnil | ⟨b',off',he,hb2,hr,hok⟩
      ·rw [hnil] at hlt; simp at hlt
      injection he with he; injection he with he1 he2; subst he1; subst he2;have ok:=hok rs[k] (RY hlt);rcases ok with hnil | ⟨b2,TQ,had,hbb,hr2,hok2⟩
      ·rw [hnil] at hjl; simp at hjl
      obtain ⟨q0,q1⟩:=hr2 j hjl;have UX:Hid (eX wr rs[k].rows[j].ad rs[k].rows[j].rows):=hok2 _ (RY hjl);have Vq:Hid (rs[k].rows[j].light):=(HL.out _ (RY hlt)).2 _ (RY hjl);have UV:Hid (rs[k].rows[j].fits):=(Tj.out _ (RY hlt)).2.2 _ (RY hjl);have Wo:Hid (∀ q ∈ rs[k].rows[j].rows,az q.e=true):=fun q hq=>gp (HEX.out _ (RY hlt) _ (RY hjl)).1 q.e (by unfold ah; exact List.mem_map_of_mem hq);have hj1:=bn j;have hj2:(j:Int) < (rs[k].rows.length:Int):=by omega
      obtain ⟨x0,x1⟩:=HC.out;obtain ⟨W3,hW3⟩:∃ W3,W3=wr.alloc (.cells #[.string rs[k].rows[j].name,.slice rs[k].rows[j].ad rs[k].rows[j].rows.length rs[k].rows[j].cap] 152):=⟨_,rfl⟩;have hal:Below wr.heap.size wr W3:=by rw [hW3]; exact (R3 _ _).alloc (R4 _) _
      have HB3:=gY HB hal;have Z7:=aC (HV.out.below hal);have Tm:=aC hal;have UY:Hid (W3.cell? ⟨g6,0,none⟩=some (.string rs[k].name)∧g6 < W3.heap.size):=⟨aH hal x1 x0,RZ x1 hal.size⟩;have HTS:Hid ((dz rs[k].rows).take (j + 1)=(dz rs[k].rows).take j ++ [rs[k].rows[j].p]):=Fp rs[k].rows j hjl;rw [had];clear hr hok hr2 hok2 hal HB HV HC;go_wp2_with fail;rw [← hW3];clear hW3 q0 q1 x0 x1;refine (yD (some ⟨b,off,none⟩) rs[k].rows[j].ad cap rs[k].rows[j].cap rs bT 36 (mJ rs) rs[k].name rs[k].rows[j].rows _ hlen (HS.out.below HB3.out) HL.out Tj.out Z7.out HT.out z0 Vq.out.1 (UX.out.below Tm.out) Vq.out.2 UV.out.2.2 Wo.out).mono ?_;rintro e w5 ⟨rfl,hb5⟩;have TK:=gY HB3 hb5;have HV5:=aC (Z7.out.below hb5);have VH:Hid (w5.cell? ⟨g6,0,none⟩=some (.string rs[k].name)∧g6 < w5.heap.size):=⟨aH hb5 UY.out.2 UY.out.1,RZ UY.out.2 hb5.size⟩;clear hb5;cases hrf:aN (ae rs) rs[k].name (ah rs[k].rows[j].rows) with
      | false =>
       have HPO:Hid (Fv (ae rs) w (.returned (.tuple #[.map none,.bool false])) w5):=by
        refine ⟨.inr ⟨rfl,fun hs=>?_⟩,TK.out⟩;have h1:=hs.2.1;unfold gH at h1;rw [Sg] at h1;have h2:=h1 rs[k].p (by unfold ae; exact List.mem_map_of_mem (RY hlt));unfold om at h2;rw [Sg] at h2;have h3:=h2 rs[k].rows[j].p (by show _ ∈ dz rs[k].rows; unfold dz; exact List.mem_map_of_mem (RY hjl));have h4:aN (ae rs) rs[k].name (ah rs[k].rows[j].rows)=true:=h3;rw [hrf] at h4; cases h4
       go_wp2;refine bodyPost_ret (v:=.tuple #[.map none,.bool false]) ?_ rfl HPO.out;simp [results,Tryz.results87,go_sem]
      | true =>
       have UJ:Hid (((dz rs[k].rows).take (j + 1)).all (fun r=>aN (ae rs) rs[k].name r.expr)=true):=by
        show _=_;rw [HTS.out,List.all_append,HR.out];have:aN (ae rs) rs[k].name rs[k].rows[j].p.expr=true:=hrf;simp [this]
       go_wp2;go_roundw;case rel=>exact ⟨j + 1,by omega,by go_num,UJ,TK,HV5,VH⟩
       case measure=>simp [intOf] <;> omega
     ·obtain rfl:j=rs[k].rows.length:=by omega
      have HPN:Hid (((ae rs).take (k + 1)).all (om (ae rs))=true):=by
       show _=_;rw [Fj rs k hlt,List.all_append,HP.out];have h1:=HR.out;rw [← gF,Sc] at h1;have:om (ae rs) rs[k].p=true:=h1;simp [this]
      go_wp2;go_roundw;case rel=>exact ⟨k + 1,by omega,by go_num,HPN,HB,HV⟩
      case measure=>simp [intOf] <;> omega
   ·obtain rfl:k=rs.length:=by omega
    have VY:Hid (gH (ae rs)=true):=by
     have h1:=HP.out;rw [← fO,Sc] at h1;exact h1
    go_wp2_with fail;refine (zQ ad cap rs bT 36 (mJ rs) _ h6 (HS.out.below HB.out) HL.out Tj.out WR.out (fun r hr q hq=>(HEX.out r hr q hq).2) (Nn HSH.out) HV.out HT.out).mono ?_;rintro e w5 ⟨rfl,⟨nL,ML,hG5⟩,hb5⟩;have TK:=gY HB hb5;have HG5:Hid (Grp w5 wr.heap.size nL ML (iG (ae rs) rs)):=hG5;clear hG5 hb5;go_wp2_with fail;refine (ww ad cap rs wr.heap.size nL ML (iG (ae rs) rs) _ h6 (HS.out.below TK.out) Tj.out WR.out HG5.out (Ph HSH.out VY.out) (kE VY.out) (KA rs WR.out HEX.out (Nn HSH.out))).mono ?_;rintro e w6 ⟨hL,hb6⟩;have UW:=gY TK hb6;clear hb6;rcases hL with ⟨bS,nS,σ,rfl,hM,Uw,hk⟩ | ⟨rfl,hno⟩
    ·have HPO:Hid (Fv (ae rs) w (.returned (.tuple #[.map (some bS),.bool true])) w6):=⟨.inl ⟨bS,nS,σ,rfl,⟨HSH.out,VY.out,_,Uw.sol⟩,hM,Uw,hk⟩,UW.out⟩;clear hM Uw hk;go_wp2;refine bodyPost_ret (v:=.tuple #[.map (some bS),.bool true]) ?_ rfl HPO.out;simp [results,Tryz.results87,go_sem]
    ·have HPO:Hid (Fv (ae rs) w (.returned (.tuple #[.map none,.bool false])) w6):=⟨.inr ⟨rfl,fun h=>hno h.2.2⟩,UW.out⟩;clear hno;go_wp2;refine bodyPost_ret (v:=.tuple #[.map none,.bool false]) ?_ rfl HPO.out;simp [results,Tryz.results87,go_sem]
end Go.Proofs.YtdaoiceeidoehaaGreat
