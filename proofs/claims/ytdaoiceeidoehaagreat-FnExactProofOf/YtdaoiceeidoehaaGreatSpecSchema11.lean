/- Contract of the document's function on schemas. -/
import Derived.Test.YtdaoiceeidoehaaGreatJ27
open Go.Proofs.Tryz
set_option maxHeartbeats 80000000
namespace Go.Proofs.YtdaoiceeidoehaaGreat
open Go.Sort
open Go.ChangeShapes Go.WideShapes Go.ChangeAt Go.RowKit
open Pl
def si (ts:List Ty) (n:ByteArray):Nat→Bool
 | 0=>true
 | i + 1=>(ts[i]?.map fun p=>iC p.name n).getD true
def vM (ts:List Rl) (n:ByteArray):Nat→Bool
 | 0=>true
 | i + 1=>(ts[i]?.map fun p=>iC p.name n).getD true
theorem BA {rs:List TR} {k:Nat} (h:k < rs.length):jE (ae rs) k=(aR rs[k].name && si (ae rs) rs[k].name k && decide (rs[k].rows.length≤6) && dB (dz rs[k].rows) rs[k].rows.length):=by
 unfold jE;have e:(ae rs)[k]?=some rs[k].p:=by simp [ae,h]
 rw [e];have e2:rs[k].p.rels.length=rs[k].rows.length:=by simp [TR.p,dz]
 simp only [e2];cases k <;> rfl
theorem BB {rs:List RR} {k:Nat} (h:k < rs.length):kD (dz rs) k=(aR rs[k].name && vM (dz rs) rs[k].name k && aU (ah rs[k].rows)):=by
 unfold kD;have e:(dz rs)[k]?=some rs[k].p:=by simp [dz,h]
 rw [e];cases k <;> rfl
theorem yY {rs:List TR} {n:ByteArray} {k m:Nat} (hk:k=m + 1) (h0:m < rs.length):si (ae rs) n k=iC rs[m].name n:=by
 subst hk;have e:(ae rs)[m]?=some rs[m].p:=by simp [ae,h0]
 simp only [si,e]; rfl
theorem yZ {rs:List RR} {n:ByteArray} {k m:Nat} (hk:k=m + 1) (h0:m < rs.length):vM (dz rs) n k=iC rs[m].name n:=by
 subst hk;have e:(dz rs)[m]?=some rs[m].p:=by simp [dz,h0]
 simp only [vM,e]; rfl
theorem za {ts:List Ty} {n:ByteArray} {k:Nat} (hk:k=0):si ts n k=true:=by subst hk; rfl
theorem zb {ts:List Rl} {n:ByteArray} {k:Nat} (hk:k=0):vM ts n k=true:=by subst hk; rfl
theorem Pp {P:Program} {c:Code} {Q:Exit→Act→World→Prop} {a:Act} {w:World} (H:(Act→World→Prop)→Prop) (hc:H (Q .normal)) (hr:H (Q .normal)→c.wp P Q a w):c.wp P Q a w:=hr hc
theorem Fj (rs:List TR) (k:Nat) (h:k < rs.length):(ae rs).take (k + 1)=(ae rs).take k ++ [rs[k].p]:=by
 rw [R5 (by rw [fO]; exact h)]; simp [ae]
theorem Fp (rs:List RR) (k:Nat) (h:k < rs.length):(dz rs).take (k + 1)=(dz rs).take k ++ [rs[k].p]:=by
 rw [R5 (by rw [gF]; exact h)]; simp [dz]
theorem keepR {wr W w':World} {b b2 o1 o2 o3:Nat} {x y z:Value} (h:W.cell? ⟨b,o1,none⟩=some x∧W.cell? ⟨b,o2,none⟩=some y∧W.cell? ⟨b2,o3,none⟩=some z∧b < W.heap.size∧b2 < W.heap.size∧Below wr.heap.size wr W) (hb:Below W.heap.size W w') :
  w'.cell? ⟨b,o1,none⟩=some x∧w'.cell? ⟨b,o2,none⟩=some y∧w'.cell? ⟨b2,o3,none⟩=some z∧b < w'.heap.size∧b2 < w'.heap.size∧Below wr.heap.size wr w' :=
 ⟨aH hb h.2.2.2.1 h.1,aH hb h.2.2.2.1 h.2.1,aH hb h.2.2.2.2.1 h.2.2.1,RZ h.2.2.2.1 hb.size,RZ h.2.2.2.2.1 hb.size,h.2.2.2.2.2.trans (hb.mono h.2.2.2.2.2.size)⟩
theorem Ie {rs:List TR} {k:Nat} (hk:k < rs.length) (h:jE (ae rs) k=false):¬ bG (ae rs):=fun hs=>by
 have h1:=hs.1;simp only [aV,R7] at h1;rw [qB _ k h _ (by rw [fO]; exact hk)] at h1;cases h1.2
set_option maxRecDepth 100000 in
theorem uy (ad:Option Addr) (cap:Nat) (rs:List TR) (w:World) (hlen:rs.length≤1048576) (hs:jd w ad rs) (hl:∀ r ∈ rs,r.light) (hf:∀ r ∈ rs,r.fits) :
  Calls prog 52 #[.slice ad rs.length cap] w fun e w'=>e=.returned (.bool (bI (ae rs)))∧Below w.heap.size w w':=by
 have HS:=aC hs;have HL:=aC hl;have Tj:=aC hf;clear hs hl hf;by_cases h6:6 < rs.length
 ·have HN:Hid (¬ bG (ae rs)):=fun h=>by have:=(bH h.1).1; omega
  go_enter func52,ntmps52;go_wp2;go_ret;exact ⟨af (dQ HN.out).symm,R3 _ _⟩
 go_enter func52,ntmps52;go_wp2;go_loopw [3] (fun i wr=>∃ k:Nat,k≤rs.length∧i=.int .i64 k∧Hid (gZ (ae rs) k=true)∧Hid (Below w.heap.size w wr)) (fun i _=>rs.length - (intOf i).toNat);case atStart=>exact ⟨0,R6 _,rfl,rfl,R3 _ _⟩
 case round =>
  obtain ⟨k,hk,rfl,HP,HB⟩:=hrel;by_cases hlt:k < rs.length
  ·rcases HS.out.below HB.out with rfl | ⟨b,off,rfl,hb,hr,hok⟩
   ·simp at hlt
   obtain ⟨t0,t1⟩:=hr k hlt;have Ub:Hid (rs[k].ok wr):=hok rs[k] (RY hlt);have HSW:=aC (HS.out.below HB.out);have z0:rs[k].name.size≤maxLen:=(Tj.out _ (RY hlt)).1;have hk1:=bn k;have hk2:(k:Int) < (rs.length:Int):=by omega
   have HTP:Hid (∀ (m:Nat) (h:m < rs.length),wr.cell? ⟨b,off + m * 2,none⟩=some (.string rs[m].name)):=fun m h=>(hr m h).1;have HTA:=BA hlt;have HTH:Hid (jE (ae rs) k=_):=HTA;have HBAD:Hid (jE (ae rs) k=false→¬ bG (ae rs)):=Ie hlt;clear hr hok HTA;go_wp2_with fail;refine Pp (fun K=>∀ (v0 v1 v2 v3 v4 v5 v6 v7 v8 v9 v10 v11 v12 v13 v14 v15 v16 v17 v18 v19 v20 v21 v22 v23 v24 v25 v26 v27 v28 v29 v30 v31 v32:Value) (w':World),Below wr.heap.size wr w'→jE (ae rs) k=dB (dz rs[k].rows) rs[k].rows.length→K { tmps:=List.toArray (Value.slice (some ⟨b,off,none⟩) rs.length cap::undef::u2::.int .i64 k::u4::u5::undef::undef::undef::undef::.slice (some ⟨b,off,none⟩) rs.length cap::.int .i64 rs.length::.bool (decide (6 < (rs.length:Int)))::.int .i64 k::.slice (some ⟨b,off,none⟩) rs.length cap::.int .i64 rs.length::.bool true::u17::u18::v0::v1::v2::v3::v4::v5::v6::v7::v8::v9::v10::v11::v12::v13::v14::v15::v16::v17::v18::v19::v20::v21::v22::v23::v24::v25::v26::v27::v28::v29::v30::v31::v32::.bool false::u53::u54::u55::u56::u57::u58::u59::u60::u61::u62::u63::u64::u65::u66::u67::u68::u69::u70::u71::u72::u73::u74::u75::u76::u77::u78::u79::u80::u81::u82::u83::u84::u85::u86::u87::u88::u89::u90::u91::u92::u93::u94::u95::u96::u97::u98::u99::undef::undef::undef::undef::undef::undef::undef::undef::undef::undef::undef::undef::undef::undef::undef::undef::undef::undef::undef::undef::undef::undef::undef::undef::undef::undef::undef::undef::undef::undef::undef::undef::undef::undef::undef::undef::undef::undef::undef::[]),defers:=[] } w') ?cont6 ?reg6;case cont6 =>
    intro v0 v1 v2 v3 v4 v5 v6 v7 v8 v9 v10 v11 v12 v13 v14 v15 v16 v17 v18 v19 v20 v21 v22 v23 v24 v25 v26 v27 v28 v29 v30 v31 v32 w' hG hpre;have HG:Hid (Below wr.heap.size wr w'):=hG;have HPRE:Hid (jE (ae rs) k=dB (dz rs[k].rows) rs[k].rows.length):=hpre;clear hG hpre;obtain ⟨wo,hwo⟩:∃ wo,wo=wr:=⟨_,rfl⟩;subst hwo;have HB1:Hid (Below w.heap.size w w'):=HB.out.trans (HG.out.mono HB.out.size);have lgT:=(HL.out _ (RY hlt)).1;have WQ:Hid (∀ q ∈ rs[k].rows,q.light):=(HL.out _ (RY hlt)).2;have TD:Hid (∀ q ∈ rs[k].rows,q.fits):=(Tj.out _ (RY hlt)).2.2;have Xr:Hid (∀ j,j < rs[k].rows.length→kD (dz rs[k].rows) j=false→¬ bG (ae rs)):=fun j hj h=>HBAD.out (by rw [HPRE.out]; exact qA _ j h _ hj);clear t0 t1 HTP HSW Ub;go_wp2_with fail;go_loopw [4] (fun i w2=>∃ j:Nat,j≤rs[k].rows.length∧i=.int .i64 j∧Hid (dB (dz rs[k].rows) j=true)∧Hid (Below w.heap.size w w2)) (fun i _=>rs[k].rows.length - (intOf i).toNat);case atStart=>exact ⟨0,R6 _,rfl,rfl,HB1⟩
    case round =>
     clear HB1 HG HB;obtain ⟨j,hj,rfl,HRU,HB⟩:=hrel;rcases HS.out.below HB.out with rfl | ⟨b',off',he,hb2,hr,hok⟩
     ·simp at hlt
     injection he with he; injection he with he1 he2; subst he1; subst he2;obtain ⟨t0,t1⟩:=hr k hlt;have Ub:Hid (rs[k].ok wr):=hok rs[k] (RY hlt);clear hr hok;by_cases hjl:j < rs[k].rows.length
     ·rcases Ub.out with hnil | ⟨b2,TQ,had,hbb,hr2,hok2⟩
      ·rw [hnil] at hjl; simp at hjl
      rw [had] at t1;obtain ⟨q0,q1⟩:=hr2 j hjl;have HQ:Hid (∀ (m:Nat) (h:m < rs[k].rows.length),wr.cell? ⟨b2,TQ + m * 2,none⟩=some (.string rs[k].rows[m].name)):=fun m h=>(hr2 m h).1;have UX:Hid (eX wr rs[k].rows[j].ad rs[k].rows[j].rows):=hok2 _ (RY hjl);have z1:rs[k].rows[j].name.size≤maxLen:=(TD.out _ (RY hjl)).1;have Vq:Hid (rs[k].rows[j].light):=WQ.out _ (RY hjl);have UV:Hid (rs[k].rows[j].fits):=TD.out _ (RY hjl);have hj1:=bn j;have hj2:(j:Int) < (rs[k].rows.length:Int):=by omega
      have XV:Hid (kD (dz rs[k].rows) j=_):=BB hjl;obtain ⟨W1,hW1⟩:∃ W1,W1=wr.alloc (.cells #[.string rs[k].rows[j].name,.slice rs[k].rows[j].ad rs[k].rows[j].rows.length rs[k].rows[j].cap] 152):=⟨_,rfl⟩;have hal:Below wr.heap.size wr W1:=by rw [hW1]; exact (R3 _ _).alloc (R4 _) _
      have Tm:=aC hal;have hgl:wr.heap.size < W1.heap.size:=by rw [hW1]; simp
      have g0:W1.cell? ⟨wr.heap.size,0,none⟩=some (.string rs[k].rows[j].name):=by rw [hW1]; simp
      have g1:W1.cell? ⟨wr.heap.size,1,none⟩=some (.slice rs[k].rows[j].ad rs[k].rows[j].rows.length rs[k].rows[j].cap):=by rw [hW1]; simp
      have d1:=aH hal hb2 t1;have hb3:b < W1.heap.size:=Nat.lt_trans hb2 hgl;have hb4:b2 < W1.heap.size:=Nat.lt_trans hbb hgl;clear hr2 hok2;go_wp2_with fail;rw [← hW1];clear hW1 t0 q0 q1 hal t1;have p0:=cell_regrown g0;have p1:=cell_regrown g1;have p2:=cell_regrown d1;have Tx:Hid (∀ d os,Calls prog 56 #[.string rs[k].rows[j].name] (grow (redrawn W1 d) os) fun e w''=>e=.returned (.bool (aR rs[k].rows[j].name))∧∃ p:Regrown,w''=grow (redrawn W1 p.d) p.os):=by
       refine ji fun W'=>?_;exact aL _ _ z1
      have Ws:Hid (∀ d os,Calls prog 78 #[.slice rs[k].rows[j].ad rs[k].rows[j].rows.length rs[k].rows[j].cap] (grow (redrawn W1 d) os) fun e w''=>e=.returned (.bool (aU (ah rs[k].rows[j].rows)))∧∃ p:Regrown,w''=grow (redrawn W1 p.d) p.os):=by
       refine cz fun W' hb=>?_;exact yX _ _ rs[k].rows[j].rows _ Vq.out.1 Vq.out.2 UV.out.2.2 (UX.out.below (Tm.out.trans (hb.mono Tm.out.size)))
      have TH:Hid (∀ d os,Below w.heap.size w (grow (redrawn W1 d) os)):=fun d os=>HB.out.trans ((Tm.out.mono HB.out.size).trans ((below_regrown W1 d os).mono (Sb HB.out.size Tm.out.size)));cases hnm:aR rs[k].rows[j].name with
      | false =>
       rw [hnm] at Tx;have HN:Hid (¬ bG (ae rs)):=Xr.out j hjl (by rw [XV.out]; simp [hnm]);refine wp_region_quiet_below (by kernel_rfl) (by kernel_rfl) ?_
       repeat (go_big_quiet_step (exact Tx.out _ _))
       refine wpQuiet_nil ?_;rintro _ ⟨⟨dq,osq⟩,rfl⟩;go_wp2;go_ret;exact ⟨af (dQ HN.out).symm,TH.out dq osq⟩
      | true =>
       rw [hnm] at Tx;obtain ⟨ex,hex⟩:∃ ex,ex=aU (ah rs[k].rows[j].rows):=⟨_,rfl⟩;have fin:Hid (∀ pv,vM (dz rs[k].rows) rs[k].rows[j].name j=pv→kD (dz rs[k].rows) j=(pv && ex)):=fun pv h=>by rw [XV.out,hnm,h,hex]; simp
       rw [← hex] at Ws;clear hex XV hnm;by_cases hpos:j=0
       ·have hk0:¬ (0:Int) < (j:Int):=by omega
        have hk9:decide (0 < j)=false:=by simp; omega
        have UA:=nZ (fin.out _ (zb hpos));replace hpos:Hid (j=0):=hpos;refine wp_region_quiet_below (by kernel_rfl) (by kernel_rfl) ?_
        repeat (go_big_quiet_step (first | exact Tx.out _ _ | exact Ws.out _ _))
        refine wpQuiet_nil ?_;rintro _ ⟨⟨dq,osq⟩,rfl⟩;cases ex with
        | false =>
         have HN:Hid (¬ bG (ae rs)):=Xr.out j hjl (by rw [UA.out]; rfl);go_wp2;go_ret;exact ⟨af (dQ HN.out).symm,TH.out dq osq⟩
        | true =>
         have UJ:Hid (dB (dz rs[k].rows) (j + 1)=true):=by show _=_; simp only [dB]; rw [HRU.out,UA.out]; rfl
         go_wp2;go_roundw;case rel=>exact ⟨j + 1,by omega,by go_num,UJ,TH.out dq osq⟩
         case measure=>simp [intOf] <;> omega
       ·obtain ⟨m,hm⟩:∃ m,j=m + 1:=⟨j - 1,by omega⟩;have Tv:m < rs[k].rows.length:=by omega
        have hk0:(0:Int) < (j:Int):=by omega
        have hk9:decide (0 < j)=true:=by simp; omega
        have hkm:(j:Int) - 1=(m:Int):=by omega
        have hwm:IntKind.i64.wrap (m:Int)=(m:Int):=by rw [IntKind.wrap_i64]; omega
        have hm1:=bn m;have hm2:(m:Int) < (rs[k].rows.length:Int):=by omega
        have qm:=cell_regrown (aH Tm.out hbb (HQ.out m Tv));have UA:=nZ (fin.out _ (yZ hm Tv));replace hm:Hid (j=m + 1):=hm;cases hless:Op.bytesLess rs[k].rows[m].name.toList rs[k].rows[j].name.toList with
        | false =>
         have HN:Hid (¬ bG (ae rs)):=Xr.out j hjl (by rw [UA.out]; simp [iC,hless]);refine wp_region_quiet_below (by kernel_rfl) (by kernel_rfl) ?_
         repeat (go_big_quiet_step (exact Tx.out _ _))
         refine wpQuiet_nil ?_;rintro _ ⟨⟨dq,osq⟩,rfl⟩;go_wp2;go_ret;exact ⟨af (dQ HN.out).symm,TH.out dq osq⟩
        | true =>
         refine wp_region_quiet_below (by kernel_rfl) (by kernel_rfl) ?_
         repeat (go_big_quiet_step (first | exact Tx.out _ _ | exact Ws.out _ _))
         refine wpQuiet_nil ?_;rintro _ ⟨⟨dq,osq⟩,rfl⟩;cases ex with
         | false =>
          have HN:Hid (¬ bG (ae rs)):=Xr.out j hjl (by rw [UA.out]; simp);go_wp2;go_ret;exact ⟨af (dQ HN.out).symm,TH.out dq osq⟩
         | true =>
          have UJ:Hid (dB (dz rs[k].rows) (j + 1)=true):=by show _=_; simp only [dB]; rw [HRU.out,UA.out]; simp [iC,hless]
          go_wp2;go_roundw;case rel=>exact ⟨j + 1,by omega,by go_num,UJ,TH.out dq osq⟩
          case measure=>simp [intOf] <;> omega
     ·obtain rfl:j=rs[k].rows.length:=by omega
      have HTU:Hid (gZ (ae rs) (k + 1)=true):=by show _=_; simp only [gZ]; rw [HP.out,HPRE.out,HRU.out]; rfl
      go_wp2;go_roundw;case rel=>exact ⟨k + 1,by omega,by go_num,HTU,HB⟩
      case measure=>simp [intOf] <;> omega
   intro hC;have HC:=nZ hC;clear hC;have p0:=cell_regrown t0;have p1:=cell_regrown t1;have Tx:Hid (∀ d os,Calls prog 56 #[.string rs[k].name] (grow (redrawn wr d) os) fun e w''=>e=.returned (.bool (aR rs[k].name))∧∃ p:Regrown,w''=grow (redrawn wr p.d) p.os):=by
    refine ji fun W'=>?_;exact aL _ _ z0
   have TH:Hid (∀ d os,Below w.heap.size w (grow (redrawn wr d) os)):=fun d os=>HB.out.trans ((below_regrown wr d os).mono HB.out.size);cases hnm:aR rs[k].name with
   | false =>
    rw [hnm] at Tx;have HN:Hid (¬ bG (ae rs)):=HBAD.out (by rw [HTH.out]; simp [hnm]);refine wp_region_quiet_below (by kernel_rfl) (by kernel_rfl) ?_
    repeat (go_big_quiet_step (exact Tx.out _ _))
    refine wpQuiet_nil ?_;rintro _ ⟨⟨dq,osq⟩,rfl⟩;go_wp2;go_ret;exact ⟨af (dQ HN.out).symm,TH.out dq osq⟩
   | true =>
    rw [hnm] at Tx;obtain ⟨gt,hgt⟩:∃ gt,gt=decide (6 < (rs[k].rows.length:Int)):=⟨_,rfl⟩;have HGT:Hid (decide (rs[k].rows.length≤6)=!gt):=by show _=_; rw [hgt]; by_cases h:rs[k].rows.length≤6 <;> simp [h] <;> omega
    have hgn:decide (6 < rs[k].rows.length)=gt:=by rw [hgt]; by_cases h:6 < rs[k].rows.length <;> simp [h] <;> omega
    replace hgt:=hgt.symm;by_cases hpos:k=0
    ·have hk0:¬ (0:Int) < (k:Int):=by omega
     have hk9:decide (0 < k)=false:=by simp; omega
     have UA:Hid (si (ae rs) rs[k].name k=true):=za hpos;replace hpos:Hid (k=0):=hpos;refine wp_region_quiet_below (by kernel_rfl) (by kernel_rfl) ?_
     repeat (go_big_quiet_step (exact Tx.out _ _))
     refine wpQuiet_nil ?_;rintro _ ⟨⟨dq,osq⟩,rfl⟩;clear hgt hgn;cases gt with
     | true =>
      have HN:Hid (¬ bG (ae rs)):=HBAD.out (by rw [HTH.out,UA.out]; simp [HGT.out]);go_wp2;go_ret;exact ⟨af (dQ HN.out).symm,TH.out dq osq⟩
     | false=>exact HC.out _ _ _ _ _ _ _ _ _ _ _ _ _ _ _ _ _ _ _ _ _ _ _ _ _ _ _ _ _ _ _ _ _ _ (below_regrown wr dq osq) (by rw [HTH.out,UA.out]; simp [HGT.out, *])
    ·obtain ⟨m,hm⟩:∃ m,k=m + 1:=⟨k - 1,by omega⟩;have Tv:m < rs.length:=by omega
     have hk0:(0:Int) < (k:Int):=by omega
     have hk9:decide (0 < k)=true:=by simp; omega
     have hkm:(k:Int) - 1=(m:Int):=by omega
     have hwm:IntKind.i64.wrap (m:Int)=(m:Int):=by rw [IntKind.wrap_i64]; omega
     have hm1:=bn m;have hm2:(m:Int) < (rs.length:Int):=by omega
     have qm:=cell_regrown (HTP.out m Tv);have UA:Hid (si (ae rs) rs[k].name k=iC rs[m].name rs[k].name):=yY hm Tv;replace hm:Hid (k=m + 1):=hm;cases hless:Op.bytesLess rs[m].name.toList rs[k].name.toList with
     | false =>
      have HN:Hid (¬ bG (ae rs)):=HBAD.out (by rw [HTH.out,UA.out]; simp [iC,hless]);refine wp_region_quiet_below (by kernel_rfl) (by kernel_rfl) ?_
      repeat (go_big_quiet_step (exact Tx.out _ _))
      refine wpQuiet_nil ?_;rintro _ ⟨⟨dq,osq⟩,rfl⟩;go_wp2;go_ret;exact ⟨af (dQ HN.out).symm,TH.out dq osq⟩
     | true =>
      refine wp_region_quiet_below (by kernel_rfl) (by kernel_rfl) ?_
      repeat (go_big_quiet_step (exact Tx.out _ _))
      refine wpQuiet_nil ?_;rintro _ ⟨⟨dq,osq⟩,rfl⟩;clear hgt hgn;cases gt with
      | true =>
       have HN:Hid (¬ bG (ae rs)):=HBAD.out (by rw [HTH.out,UA.out]; simp [HGT.out]);go_wp2;go_ret;exact ⟨af (dQ HN.out).symm,TH.out dq osq⟩
      | false=>exact HC.out _ _ _ _ _ _ _ _ _ _ _ _ _ _ _ _ _ _ _ _ _ _ _ _ _ _ _ _ _ _ _ _ _ _ (below_regrown wr dq osq) (by rw [HTH.out,UA.out]; simp [iC,HGT.out, *])
  ·obtain rfl:k=rs.length:=by omega
   have HSH:Hid (aV (ae rs)=true):=by
    show _=_;unfold aV; rw [fO,HP.out]; simp; omega
   have HSF:Hid (rs.length≤6∧(∀ r ∈ rs,r.rows.length≤6)∧∀ r ∈ rs,∀ q ∈ r.rows,aU (ah q.rows)=true∧q.rows.length≤15∧∀ e ∈ q.rows,dU q.rows.length e.e.kids):=bH HSH.out;clear HP;go_wp2_with fail;go_loopw [6] (fun i wr=>∃ k:Nat,k≤rs.length∧i=.int .i64 k∧Hid (((ae rs).take k).all (om (ae rs))=true)∧Hid (Below w.heap.size w wr)) (fun i _=>rs.length - (intOf i).toNat);case atStart=>exact ⟨0,R6 _,rfl,(by show _=_; simp),HB⟩
   case round =>
    clear HB;obtain ⟨k,hk,rfl,HP,HB⟩:=hrel;by_cases hlt:k < rs.length
    ·have hk1:=bn k;have hk2:(k:Int) < (rs.length:Int):=by omega
     have lgT:=(HL.out _ (RY hlt)).1;have WQ:Hid (∀ q ∈ rs[k].rows,q.light):=(HL.out _ (RY hlt)).2;go_wp2_with fail;go_loopw [7] (fun i w2=>∃ j:Nat,j≤rs[k].rows.length∧i=.int .i64 j∧Hid (((dz rs[k].rows).take j).all (fun r=>aN (ae rs) rs[k].name r.expr)=true)∧Hid (Below w.heap.size w w2)) (fun i _=>rs[k].rows.length - (intOf i).toNat);case atStart=>exact ⟨0,R6 _,rfl,(by show _=_; simp),HB⟩
     case round =>
      clear HB;obtain ⟨j,hj,rfl,HR,HB⟩:=hrel;have HSW:=aC (HS.out.below HB.out);rcases HSW.out with rfl | ⟨b,off,rfl,hb,hr,hok⟩
      ·simp at hlt
      obtain ⟨t0,t1⟩:=hr k hlt;have Ub:Hid (rs[k].ok wr):=hok rs[k] (RY hlt);clear hr hok;by_cases hjl:j < rs[k].rows.length
      ·rcases Ub.out with hnil | ⟨b2,TQ,had,hbb,hr2,hok2⟩
       ·rw [hnil] at hjl; simp at hjl
       rw [had] at t1;obtain ⟨q0,q1⟩:=hr2 j hjl;have UX:Hid (eX wr rs[k].rows[j].ad rs[k].rows[j].rows):=hok2 _ (RY hjl);have Vq:Hid (rs[k].rows[j].light):=WQ.out _ (RY hjl);have hj1:=bn j;have hj2:(j:Int) < (rs[k].rows.length:Int):=by omega
       have c3:wr.drew.cell? ⟨b,off + k * 2,none⟩=some (.string rs[k].name)∧wr.drew.cell? ⟨b,off + k * 2 + 1,none⟩=some (.slice (some ⟨b2,TQ,none⟩) rs[k].rows.length rs[k].cap)∧wr.drew.cell? ⟨b2,TQ + j * 2 + 1,none⟩=some (.slice rs[k].rows[j].ad rs[k].rows[j].rows.length rs[k].rows[j].cap)∧b < wr.drew.heap.size∧b2 < wr.drew.heap.size∧Below wr.heap.size wr wr.drew:=⟨t0,t1,q1,hb,hbb,(R3 _ _).drew⟩;clear hr2 hok2 q0 had;go_wp2_with fail
       go_region_held3 (fun w'=>w'.cell? ⟨b,off + k * 2,none⟩=some (.string rs[k].name)∧w'.cell? ⟨b,off + k * 2 + 1,none⟩=some (.slice (some ⟨b2,TQ,none⟩) rs[k].rows.length rs[k].cap)∧w'.cell? ⟨b2,TQ + j * 2 + 1,none⟩=some (.slice rs[k].rows[j].ad rs[k].rows[j].rows.length rs[k].rows[j].cap)∧b < w'.heap.size∧b2 < w'.heap.size∧Below wr.heap.size wr w')
        (first | exact c3 | assumption | exact keepR (by first | exact c3 | assumption) hbx)
        (first | (go_at_call 79; refine (Gf (some ⟨b,off,none⟩) rs[k].rows[j].ad cap rs[k].rows[j].cap rs _ rs[k].rows[j].rows _ (by omega) (HSW.out.below ((R3 _ _).drew)) HL.out Vq.out.1 (UX.out.below ((R3 _ _).drew)) Vq.out.2).mono ?_; rintro e w' ⟨rfl,hbx⟩))
       rename_i hHeld;have ZW:Hid (Below w.heap.size w w'):=HB.out.trans (hHeld.2.2.2.2.2.mono HB.out.size);clear hHeld c3 t0 t1 q1 hbx;have HTS:=Fp rs[k].rows j hjl;cases hrf:aN (ae rs) rs[k].name (ah rs[k].rows[j].rows) with
       | false =>
        have HN:Hid (¬ bG (ae rs)):=fun hs=>by
         have h1:=hs.2.1;unfold gH at h1;rw [Sg] at h1;have h2:=h1 rs[k].p (by unfold ae; exact List.mem_map_of_mem (RY hlt));unfold om at h2;rw [Sg] at h2;have h3:=h2 rs[k].rows[j].p (by show _ ∈ dz rs[k].rows; unfold dz; exact List.mem_map_of_mem (RY hjl));have h4:aN (ae rs) rs[k].name (ah rs[k].rows[j].rows)=true:=h3;rw [hrf] at h4; cases h4
        go_wp2;go_ret;exact ⟨af (dQ HN.out).symm,ZW.out⟩
       | true =>
        have UJ:Hid (((dz rs[k].rows).take (j + 1)).all (fun r=>aN (ae rs) rs[k].name r.expr)=true):=by
         show _=_;rw [HTS,List.all_append,HR.out];have:aN (ae rs) rs[k].name rs[k].rows[j].p.expr=true:=hrf;simp [this]
        clear HTS;go_wp2;go_roundw;case rel=>exact ⟨j + 1,by omega,by go_num,UJ,ZW⟩
        case measure=>simp [intOf] <;> omega
      ·obtain rfl:j=rs[k].rows.length:=by omega
       have HPN:Hid (((ae rs).take (k + 1)).all (om (ae rs))=true):=by
        show _=_;rw [Fj rs k hlt,List.all_append,HP.out];have h1:=HR.out;rw [← gF,Sc] at h1;have:om (ae rs) rs[k].p=true:=h1;simp [this]
       go_wp2;go_roundw;case rel=>exact ⟨k + 1,by omega,by go_num,HPN,HB⟩
       case measure=>simp [intOf] <;> omega
    ·obtain rfl:k=rs.length:=by omega
     have VY:Hid (gH (ae rs)=true):=by
      have h1:=HP.out;rw [← fO,Sc] at h1;exact h1
     go_wp2_with fail;refine (r9 ad cap rs _ HSF.out.1 (HS.out.below HB.out) HL.out HSF.out.2.1 (fun r hr q hq=>(HSF.out.2.2 r hr q hq).2) (kE VY.out)).mono ?_;rintro e w' ⟨⟨SQ,cap',out,rfl,-,-,Uw⟩ | ⟨rfl,hno⟩,hbx⟩
     ·have HY:Hid (bG (ae rs)):=⟨HSH.out,VY.out,_,Uw.sol⟩;have ZW:=gY HB hbx;clear Uw hbx;go_wp2;go_ret;exact ⟨af (DV HY.out).symm,ZW.out⟩
     ·have HY:Hid (¬ bG (ae rs)):=fun h=>hno h.2.2;have ZW:=gY HB hbx;clear hno hbx;go_wp2;go_ret;exact ⟨af (dQ HY.out).symm,ZW.out⟩
end Go.Proofs.YtdaoiceeidoehaaGreat
