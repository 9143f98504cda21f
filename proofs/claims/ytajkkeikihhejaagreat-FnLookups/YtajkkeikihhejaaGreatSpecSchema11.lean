/- Contract of the document's function on schemas. -/
import Derived.Test.YtajkkeikihhejaaGreatSq
import Derived.Test.YtajkkeikihhejaaGreatJ16
open Go.Proofs.Tryz
set_option maxHeartbeats 80000000
namespace Go.Proofs.YtajkkeikihhejaaGreat
open Go.Sort
open Go.ChangeShapes Go.WideShapes Go.ChangeAt Go.RowKit
open Pl
def uG (ts:List Ty) (n:ByteArray):Nat→Bool
 | 0=>true
 | i + 1=>(ts[i]?.map fun p=>jd p.name n).getD true
def xE (ts:List Rl) (n:ByteArray):Nat→Bool
 | 0=>true
 | i + 1=>(ts[i]?.map fun p=>jd p.name n).getD true
theorem Ci {rs:List TR} {k:Nat} (h:k < rs.length):kF (ah rs) k=(aQ rs[k].name && uG (ah rs) rs[k].name k && decide (rs[k].rows.length≤6) && dF (eu rs[k].rows) rs[k].rows.length):=by
 unfold kF;have e:(ah rs)[k]?=some rs[k].p:=by simp [ah,h]
 rw [e];have e2:rs[k].p.rels.length=rs[k].rows.length:=by simp [TR.p,eu]
 simp only [e2];cases k <;> rfl
theorem Cj {rs:List RR} {k:Nat} (h:k < rs.length):l5 (eu rs) k=(aQ rs[k].name && xE (eu rs) rs[k].name k && aN (ak rs[k].rows)):=by
 unfold l5;have e:(eu rs)[k]?=some rs[k].p:=by simp [eu,h]
 rw [e];cases k <;> rfl
theorem zM {rs:List TR} {n:ByteArray} {k m:Nat} (hk:k=m + 1) (h0:m < rs.length):uG (ah rs) n k=jd rs[m].name n:=by
 subst hk;have e:(ah rs)[m]?=some rs[m].p:=by simp [ah,h0]
 simp only [uG,e]; rfl
theorem zP {rs:List RR} {n:ByteArray} {k m:Nat} (hk:k=m + 1) (h0:m < rs.length):xE (eu rs) n k=jd rs[m].name n:=by
 subst hk;have e:(eu rs)[m]?=some rs[m].p:=by simp [eu,h0]
 simp only [xE,e]; rfl
theorem zQ {ts:List Ty} {n:ByteArray} {k:Nat} (hk:k=0):uG ts n k=true:=by subst hk; rfl
theorem zR {ts:List Rl} {n:ByteArray} {k:Nat} (hk:k=0):xE ts n k=true:=by subst hk; rfl
theorem PD {P:Program} {c:Code} {Q:Exit→Act→World→Prop} {a:Act} {w:ae} (H:(Act→World→Prop)→Prop) (hc:H (Q .normal)) (hr:H (Q .normal)→c.wp P Q a w):c.wp P Q a w:=hr hc
theorem Fj (rs:List TR) (k:Nat) (h:k < rs.length):(ah rs).take (k + 1)=(ah rs).take k ++ [rs[k].p]:=by
 rw [SA (by rw [lh]; exact h)]; simp [ah]
theorem Fp (rs:List RR) (k:Nat) (h:k < rs.length):(eu rs).take (k + 1)=(eu rs).take k ++ [rs[k].p]:=by
 rw [SA (by rw [qP]; exact h)]; simp [eu]
theorem keepR {wr W w':ae} {b b2 o1 o2 o3:Nat} {x y z:Value} (h:W.cell? ⟨b,o1,none⟩=some x∧W.cell? ⟨b,o2,none⟩=some y∧W.cell? ⟨b2,o3,none⟩=some z∧b < W.heap.size∧b2 < W.heap.size∧af wr W) (hb:af W w') :
  w'.cell? ⟨b,o1,none⟩=some x∧w'.cell? ⟨b,o2,none⟩=some y∧w'.cell? ⟨b2,o3,none⟩=some z∧b < w'.heap.size∧b2 < w'.heap.size∧af wr w' :=
 ⟨aI hb h.2.2.2.1 h.1,aI hb h.2.2.2.1 h.2.1,aI hb h.2.2.2.2.1 h.2.2.1,Sv h.2.2.2.1 hb.size,Sv h.2.2.2.2.1 hb.size,h.2.2.2.2.2.trans (hb.mono h.2.2.2.2.2.size)⟩
theorem Hr {rs:List TR} {k:Nat} (hk:k < rs.length) (h:kF (ah rs) k=false):¬ bI (ah rs):=fun hs=>by
 have h1:=hs.1;simp only [bz,SB] at h1;rw [sO _ k h _ (by rw [lh]; exact hk)] at h1;cases h1.2
set_option maxRecDepth 100000 in
theorem jV (ad:Option Addr) (cap:Nat) (rs:List TR) (w:ae) (hlen:rs.length≤1048576) (hs:mD w ad rs) (hl:∀ r ∈ rs,r.light) (hf:∀ r ∈ rs,r.fits) :
  Calls prog 92 #[.slice ad rs.length cap] w fun e w'=>e=.returned (.bool (bn (ah rs)))∧af w w':=by
 have HS:=az hs;have HL:=az hl;have TP:=az hf;clear hs hl hf;by_cases h6:6 < rs.length
 ·have HN:Hid (¬ bI (ah rs)):=fun h=>by have:=(bP h.1).1; omega
  go_enter func92,ntmps92;go_wp2;go_ret;exact ⟨ag (d9 HN.out).symm,Sz _ _⟩
 go_enter func92,ntmps92;go_wp2;go_loopw [3] (fun i wr=>∃ k:Nat,k≤rs.length∧i=.int .i64 k∧Hid (iK (ah rs) k=true)∧Hid (af w wr)) (fun i _=>rs.length - (intOf i).toNat);case atStart=>exact ⟨0,SC _,rfl,rfl,Sz _ _⟩
 obtain ⟨k,hk,rfl,HP,HB⟩:=hrel;by_cases hlt:k < rs.length
 ·rcases HS.out.below HB.out with rfl | ⟨b,off,rfl,hb,hr,hok⟩
  ·simp at hlt
  obtain ⟨t0,t1⟩:=hr k hlt;have U6:Hid (rs[k].ok wr):=hok rs[k] (Sw hlt);have HSW:=az (HS.out.below HB.out);have z0:rs[k].name.size≤maxLen:=(TP.out _ (Sw hlt)).1;have hk1:=bq k;have hk2:(k:Int) < (rs.length:Int):=by omega
  have HTP:Hid (∀ (m:Nat) (h:m < rs.length),wr.cell? ⟨b,off + m * 2,none⟩=some (.string rs[m].name)):=fun m h=>(hr m h).1;have HTA:=Ci hlt;have HTH:Hid (kF (ah rs) k=_):=HTA;have HBAD:Hid (kF (ah rs) k=false→¬ bI (ah rs)):=Hr hlt;clear hr hok HTA;go_wp2_with fail;refine PD (fun K=>∀ (v0 v1 v2 v3 v4 v5 v6 v7 v8 v9 v10 v11 v12 v13 v14 v15 v16 v17 v18 v19 v20 v21 v22 v23 v24 v25 v26 v27 v28 v29 v30 v31 v32:Value) (w':World),af wr w'→kF (ah rs) k=dF (eu rs[k].rows) rs[k].rows.length→K { tmps:=List.toArray (Value.slice (some ⟨b,off,none⟩) rs.length cap::undef::u2::.int .i64 k::u4::u5::undef::undef::undef::undef::.slice (some ⟨b,off,none⟩) rs.length cap::.int .i64 rs.length::.bool (decide (6 < (rs.length:Int)))::.int .i64 k::.slice (some ⟨b,off,none⟩) rs.length cap::.int .i64 rs.length::.bool true::u17::u18::v0::v1::v2::v3::v4::v5::v6::v7::v8::v9::v10::v11::v12::v13::v14::v15::v16::v17::v18::v19::v20::v21::v22::v23::v24::v25::v26::v27::v28::v29::v30::v31::v32::.bool false::u53::u54::u55::u56::u57::u58::u59::u60::u61::u62::u63::u64::u65::u66::u67::u68::u69::u70::u71::u72::u73::u74::u75::u76::u77::u78::u79::u80::u81::u82::u83::u84::u85::u86::u87::u88::u89::u90::u91::u92::u93::u94::u95::u96::u97::u98::u99::undef::undef::undef::undef::undef::undef::undef::undef::undef::undef::undef::undef::undef::undef::undef::undef::undef::undef::undef::undef::undef::undef::undef::undef::undef::undef::undef::undef::undef::undef::undef::undef::undef::undef::undef::undef::undef::undef::undef::[]),defers:=[] } w') ?cont6 ?reg6;case cont6 =>
   intro v0 v1 v2 v3 v4 v5 v6 v7 v8 v9 v10 v11 v12 v13 v14 v15 v16 v17 v18 v19 v20 v21 v22 v23 v24 v25 v26 v27 v28 v29 v30 v31 v32 w' hG hpre;have HG:Hid (af wr w'):=hG;have WR:Hid (kF (ah rs) k=dF (eu rs[k].rows) rs[k].rows.length):=hpre;clear hG hpre;obtain ⟨wo,hwo⟩:∃ wo,wo=wr:=⟨_,rfl⟩;subst hwo;have HB1:Hid (af w w'):=HB.out.trans (HG.out.mono HB.out.size);have lgT:=(HL.out _ (Sw hlt)).1;have ZH:Hid (∀ q ∈ rs[k].rows,q.light):=(HL.out _ (Sw hlt)).2;have V5:Hid (∀ q ∈ rs[k].rows,q.fits):=(TP.out _ (Sw hlt)).2.2;have XD:Hid (∀ j,j < rs[k].rows.length→l5 (eu rs[k].rows) j=false→¬ bI (ah rs)):=fun j hj h=>HBAD.out (by rw [WR.out]; exact sN _ j h _ hj);clear t0 t1 HTP HSW U6;go_wp2_with fail;go_loopw [4] (fun i w2=>∃ j:Nat,j≤rs[k].rows.length∧i=.int .i64 j∧Hid (dF (eu rs[k].rows) j=true)∧Hid (af w w2)) (fun i _=>rs[k].rows.length - (intOf i).toNat);case atStart=>exact ⟨0,SC _,rfl,rfl,HB1⟩
   clear HB1 HG HB;obtain ⟨j,hj,rfl,HRU,HB⟩:=hrel;rcases HS.out.below HB.out with rfl | ⟨b',off',he,hb2,hr,hok⟩
   ·simp at hlt
   injection he with he; injection he with he1 he2; subst he1; subst he2;obtain ⟨t0,t1⟩:=hr k hlt;have U6:Hid (rs[k].ok wr):=hok rs[k] (Sw hlt);clear hr hok;by_cases hjl:j < rs[k].rows.length
   ·rcases U6.out with hnil | ⟨b2,Uc,had,hbb,hr2,hok2⟩
    ·rw [hnil] at hjl; simp at hjl
    rw [had] at t1;obtain ⟨q0,q1⟩:=hr2 j hjl;have HQ:Hid (∀ (m:Nat) (h:m < rs[k].rows.length),wr.cell? ⟨b2,Uc + m * 2,none⟩=some (.string rs[k].rows[m].name)):=fun m h=>(hr2 m h).1;have Wj:Hid (jk wr rs[k].rows[j].ad rs[k].rows[j].rows):=hok2 _ (Sw hjl);have z1:rs[k].rows[j].name.size≤maxLen:=(V5.out _ (Sw hjl)).1;have Wh:Hid (rs[k].rows[j].light):=ZH.out _ (Sw hjl);have VZ:Hid (rs[k].rows[j].fits):=V5.out _ (Sw hjl);have hj1:=bq j;have hj2:(j:Int) < (rs[k].rows.length:Int):=by omega
    have XR:Hid (l5 (eu rs[k].rows) j=_):=Cj hjl;obtain ⟨W1,hW1⟩:∃ W1,W1=wr.alloc (.cells #[.string rs[k].rows[j].name,.slice rs[k].rows[j].ad rs[k].rows[j].rows.length rs[k].rows[j].cap] 147):=⟨_,rfl⟩;have hal:af wr W1:=by rw [hW1]; exact (Sz _ _).alloc (Sy _) _
    have TL:=az hal;have hgl:wr.heap.size < W1.heap.size:=by rw [hW1]; simp
    have g0:W1.cell? ⟨wr.heap.size,0,none⟩=some (.string rs[k].rows[j].name):=by rw [hW1]; simp
    have g1:W1.cell? ⟨wr.heap.size,1,none⟩=some (.slice rs[k].rows[j].ad rs[k].rows[j].rows.length rs[k].rows[j].cap):=by rw [hW1]; simp
    have d1:=aI hal hb2 t1;have hb3:b < W1.heap.size:=Nat.lt_trans hb2 hgl;have hb4:b2 < W1.heap.size:=Nat.lt_trans hbb hgl;clear hr2 hok2;go_wp2_with fail;rw [← hW1];clear hW1 t0 q0 q1 hal t1;have p0:=cell_regrown g0;have p1:=cell_regrown g1;have p2:=cell_regrown d1;have Um:Hid (∀ d os,Calls prog 111 #[.string rs[k].rows[j].name] (grow (redrawn W1 d) os) fun e w''=>e=.returned (.bool (aQ rs[k].rows[j].name))∧∃ p:Regrown,w''=grow (redrawn W1 p.d) p.os):=by
     refine jS fun W'=>?_;exact aS _ _ z1
    have XT:Hid (∀ d os,Calls prog 135 #[.slice rs[k].rows[j].ad rs[k].rows[j].rows.length rs[k].rows[j].cap] (grow (redrawn W1 d) os) fun e w''=>e=.returned (.bool (aN (ak rs[k].rows[j].rows)))∧∃ p:Regrown,w''=grow (redrawn W1 p.d) p.os):=by
     refine bC fun W' hb=>?_;exact lX _ _ rs[k].rows[j].rows _ Wh.out.1 Wh.out.2 VZ.out.2.2 (Wj.out.below (TL.out.trans (hb.mono TL.out.size)))
    have Uy:Hid (∀ d os,af w (grow (redrawn W1 d) os)):=fun d os=>HB.out.trans ((TL.out.mono HB.out.size).trans ((below_regrown W1 d os).mono (SF HB.out.size TL.out.size)));cases hnm:aQ rs[k].rows[j].name;case false=>
     rw [hnm] at Um;have HN:Hid (¬ bI (ah rs)):=XD.out j hjl (by rw [XR.out]; simp [hnm]);refine wp_region_quiet_below (by kernel_rfl) (by kernel_rfl) ?_
     repeat (go_big_quiet_step (exact Um.out _ _))
     refine wpQuiet_nil ?_;rintro _ ⟨⟨dq,osq⟩,rfl⟩;go_wp2;go_ret;exact ⟨ag (d9 HN.out).symm,Uy.out dq osq⟩
    rw [hnm] at Um;obtain ⟨ex,hex⟩:∃ ex,ex=aN (ak rs[k].rows[j].rows):=⟨_,rfl⟩;have fin:Hid (∀ pv,xE (eu rs[k].rows) rs[k].rows[j].name j=pv→l5 (eu rs[k].rows) j=(pv && ex)):=fun pv h=>by rw [XR.out,hnm,h,hex]; simp
    rw [← hex] at XT;clear hex XR hnm;by_cases hpos:j=0
    ·have hk0:¬ (0:Int) < (j:Int):=by omega
     have ZI:decide (0 < j)=false:=by simp; omega
     have Vj:=oM (fin.out _ (zR hpos));replace hpos:Hid (j=0):=hpos;refine wp_region_quiet_below (by kernel_rfl) (by kernel_rfl) ?_
     repeat (go_big_quiet_step (first | exact Um.out _ _ | exact XT.out _ _))
     refine wpQuiet_nil ?_;rintro _ ⟨⟨dq,osq⟩,rfl⟩;cases ex;case false=>
      have HN:Hid (¬ bI (ah rs)):=XD.out j hjl (by rw [Vj.out]; rfl);go_wp2;go_ret;exact ⟨ag (d9 HN.out).symm,Uy.out dq osq⟩
     have Vl:Hid (dF (eu rs[k].rows) (j + 1)=true):=by show _=_; simp only [dF]; rw [HRU.out,Vj.out]; rfl
     go_wp2;go_roundw;case rel=>exact ⟨j + 1,by omega,by go_num,Vl,Uy.out dq osq⟩
     simp [intOf] <;> omega
    obtain ⟨m,hm⟩:∃ m,j=m + 1:=⟨j - 1,by omega⟩;have Uf:m < rs[k].rows.length:=by omega
    have hk0:(0:Int) < (j:Int):=by omega
    have ZI:decide (0 < j)=true:=by simp; omega
    have hkm:(j:Int) - 1=(m:Int):=by omega
    have hwm:IntKind.i64.wrap (m:Int)=(m:Int):=by rw [IntKind.wrap_i64]; omega
    have hm1:=bq m;have hm2:(m:Int) < (rs[k].rows.length:Int):=by omega
    have qm:=cell_regrown (aI TL.out hbb (HQ.out m Uf));have Vj:=oM (fin.out _ (zP hm Uf));replace hm:Hid (j=m + 1):=hm;cases hless:Op.bytesLess rs[k].rows[m].name.toList rs[k].rows[j].name.toList;case false=>
     have HN:Hid (¬ bI (ah rs)):=XD.out j hjl (by rw [Vj.out]; simp [jd,hless]);refine wp_region_quiet_below (by kernel_rfl) (by kernel_rfl) ?_
     repeat (go_big_quiet_step (exact Um.out _ _))
     refine wpQuiet_nil ?_;rintro _ ⟨⟨dq,osq⟩,rfl⟩;go_wp2;go_ret;exact ⟨ag (d9 HN.out).symm,Uy.out dq osq⟩
    refine wp_region_quiet_below (by kernel_rfl) (by kernel_rfl) ?_
    repeat (go_big_quiet_step (first | exact Um.out _ _ | exact XT.out _ _))
    refine wpQuiet_nil ?_;rintro _ ⟨⟨dq,osq⟩,rfl⟩;cases ex;case false=>
     have HN:Hid (¬ bI (ah rs)):=XD.out j hjl (by rw [Vj.out]; simp);go_wp2;go_ret;exact ⟨ag (d9 HN.out).symm,Uy.out dq osq⟩
    have Vl:Hid (dF (eu rs[k].rows) (j + 1)=true):=by show _=_; simp only [dF]; rw [HRU.out,Vj.out]; simp [jd,hless]
    go_wp2;go_roundw;case rel=>exact ⟨j + 1,by omega,by go_num,Vl,Uy.out dq osq⟩
    simp [intOf] <;> omega
   obtain rfl:j=rs[k].rows.length:=by omega
   have HTU:Hid (iK (ah rs) (k + 1)=true):=by show _=_; simp only [iK]; rw [HP.out,WR.out,HRU.out]; rfl
   go_wp2;go_roundw;case rel=>exact ⟨k + 1,by omega,by go_num,HTU,HB⟩
   simp [intOf] <;> omega
  intro hC;have HC:=oM hC;clear hC;have p0:=cell_regrown t0;have p1:=cell_regrown t1;have Um:Hid (∀ d os,Calls prog 111 #[.string rs[k].name] (grow (redrawn wr d) os) fun e w''=>e=.returned (.bool (aQ rs[k].name))∧∃ p:Regrown,w''=grow (redrawn wr p.d) p.os):=by
   refine jS fun W'=>?_;exact aS _ _ z0
  have Uy:Hid (∀ d os,af w (grow (redrawn wr d) os)):=fun d os=>HB.out.trans ((below_regrown wr d os).mono HB.out.size);cases hnm:aQ rs[k].name;case false=>
   rw [hnm] at Um;have HN:Hid (¬ bI (ah rs)):=HBAD.out (by rw [HTH.out]; simp [hnm]);refine wp_region_quiet_below (by kernel_rfl) (by kernel_rfl) ?_
   repeat (go_big_quiet_step (exact Um.out _ _))
   refine wpQuiet_nil ?_;rintro _ ⟨⟨dq,osq⟩,rfl⟩;go_wp2;go_ret;exact ⟨ag (d9 HN.out).symm,Uy.out dq osq⟩
  rw [hnm] at Um;obtain ⟨gt,hgt⟩:∃ gt,gt=decide (6 < (rs[k].rows.length:Int)):=⟨_,rfl⟩;have HGT:Hid (decide (rs[k].rows.length≤6)=!gt):=by show _=_; rw [hgt]; by_cases h:rs[k].rows.length≤6 <;> simp [h] <;> omega
  have hgn:decide (6 < rs[k].rows.length)=gt:=by rw [hgt]; by_cases h:6 < rs[k].rows.length <;> simp [h] <;> omega
  replace hgt:=hgt.symm;by_cases hpos:k=0
  ·have hk0:¬ (0:Int) < (k:Int):=by omega
   have ZI:decide (0 < k)=false:=by simp; omega
   have Vj:Hid (uG (ah rs) rs[k].name k=true):=zQ hpos;replace hpos:Hid (k=0):=hpos;refine wp_region_quiet_below (by kernel_rfl) (by kernel_rfl) ?_
   repeat (go_big_quiet_step (exact Um.out _ _))
   refine wpQuiet_nil ?_;rintro _ ⟨⟨dq,osq⟩,rfl⟩;clear hgt hgn;cases gt;case true=>
    have HN:Hid (¬ bI (ah rs)):=HBAD.out (by rw [HTH.out,Vj.out]; simp [HGT.out]);go_wp2;go_ret;exact ⟨ag (d9 HN.out).symm,Uy.out dq osq⟩
   exact HC.out _ _ _ _ _ _ _ _ _ _ _ _ _ _ _ _ _ _ _ _ _ _ _ _ _ _ _ _ _ _ _ _ _ _ (below_regrown wr dq osq) (by rw [HTH.out,Vj.out]; simp [HGT.out, *])
  obtain ⟨m,hm⟩:∃ m,k=m + 1:=⟨k - 1,by omega⟩;have Uf:m < rs.length:=by omega
  have hk0:(0:Int) < (k:Int):=by omega
  have ZI:decide (0 < k)=true:=by simp; omega
  have hkm:(k:Int) - 1=(m:Int):=by omega
  have hwm:IntKind.i64.wrap (m:Int)=(m:Int):=by rw [IntKind.wrap_i64]; omega
  have hm1:=bq m;have hm2:(m:Int) < (rs.length:Int):=by omega
  have qm:=cell_regrown (HTP.out m Uf);have Vj:Hid (uG (ah rs) rs[k].name k=jd rs[m].name rs[k].name):=zM hm Uf;replace hm:Hid (k=m + 1):=hm;cases hless:Op.bytesLess rs[m].name.toList rs[k].name.toList;case false=>
   have HN:Hid (¬ bI (ah rs)):=HBAD.out (by rw [HTH.out,Vj.out]; simp [jd,hless]);refine wp_region_quiet_below (by kernel_rfl) (by kernel_rfl) ?_
   repeat (go_big_quiet_step (exact Um.out _ _))
   refine wpQuiet_nil ?_;rintro _ ⟨⟨dq,osq⟩,rfl⟩;go_wp2;go_ret;exact ⟨ag (d9 HN.out).symm,Uy.out dq osq⟩
  refine wp_region_quiet_below (by kernel_rfl) (by kernel_rfl) ?_
  repeat (go_big_quiet_step (exact Um.out _ _))
  refine wpQuiet_nil ?_;rintro _ ⟨⟨dq,osq⟩,rfl⟩;clear hgt hgn;cases gt;case true=>
   have HN:Hid (¬ bI (ah rs)):=HBAD.out (by rw [HTH.out,Vj.out]; simp [HGT.out]);go_wp2;go_ret;exact ⟨ag (d9 HN.out).symm,Uy.out dq osq⟩
  exact HC.out _ _ _ _ _ _ _ _ _ _ _ _ _ _ _ _ _ _ _ _ _ _ _ _ _ _ _ _ _ _ _ _ _ _ (below_regrown wr dq osq) (by rw [HTH.out,Vj.out]; simp [jd,HGT.out, *])
 obtain rfl:k=rs.length:=by omega
 have ZJ:Hid (bz (ah rs)=true):=by
  show _=_;unfold bz; rw [lh,HP.out]; simp; omega
 have VI:Hid (rs.length≤6∧(∀ r ∈ rs,r.rows.length≤6)∧∀ r ∈ rs,∀ q ∈ r.rows,aN (ak q.rows)=true∧q.rows.length≤15∧∀ e ∈ q.rows,eB q.rows.length e.e.kids):=bP ZJ.out;clear HP;go_wp2_with fail;go_loopw [6] (fun i wr=>∃ k:Nat,k≤rs.length∧i=.int .i64 k∧Hid (((ah rs).take k).all (qi (ah rs))=true)∧Hid (af w wr)) (fun i _=>rs.length - (intOf i).toNat);case atStart=>exact ⟨0,SC _,rfl,(by show _=_; simp),HB⟩
 clear HB;obtain ⟨k,hk,rfl,HP,HB⟩:=hrel;by_cases hlt:k < rs.length
 ·have hk1:=bq k;have hk2:(k:Int) < (rs.length:Int):=by omega
  have lgT:=(HL.out _ (Sw hlt)).1;have ZH:Hid (∀ q ∈ rs[k].rows,q.light):=(HL.out _ (Sw hlt)).2;go_wp2_with fail;go_loopw [7] (fun i w2=>∃ j:Nat,j≤rs[k].rows.length∧i=.int .i64 j∧Hid (((eu rs[k].rows).take j).all (fun r=>aT (ah rs) rs[k].name r.expr)=true)∧Hid (af w w2)) (fun i _=>rs[k].rows.length - (intOf i).toNat);case atStart=>exact ⟨0,SC _,rfl,(by show _=_; simp),HB⟩
  clear HB;obtain ⟨j,hj,rfl,HR,HB⟩:=hrel;have HSW:=az (HS.out.below HB.out);rcases HSW.out with rfl | ⟨b,off,rfl,hb,hr,hok⟩
  ·simp at hlt
  obtain ⟨t0,t1⟩:=hr k hlt;have U6:Hid (rs[k].ok wr):=hok rs[k] (Sw hlt);clear hr hok;by_cases hjl:j < rs[k].rows.length
  ·rcases U6.out with hnil | ⟨b2,Uc,had,hbb,hr2,hok2⟩
   ·rw [hnil] at hjl; simp at hjl
   rw [had] at t1;obtain ⟨q0,q1⟩:=hr2 j hjl;have Wj:Hid (jk wr rs[k].rows[j].ad rs[k].rows[j].rows):=hok2 _ (Sw hjl);have Wh:Hid (rs[k].rows[j].light):=ZH.out _ (Sw hjl);have hj1:=bq j;have hj2:(j:Int) < (rs[k].rows.length:Int):=by omega
   have c3:wr.drew.cell? ⟨b,off + k * 2,none⟩=some (.string rs[k].name)∧wr.drew.cell? ⟨b,off + k * 2 + 1,none⟩=some (.slice (some ⟨b2,Uc,none⟩) rs[k].rows.length rs[k].cap)∧wr.drew.cell? ⟨b2,Uc + j * 2 + 1,none⟩=some (.slice rs[k].rows[j].ad rs[k].rows[j].rows.length rs[k].rows[j].cap)∧b < wr.drew.heap.size∧b2 < wr.drew.heap.size∧af wr wr.drew:=⟨t0,t1,q1,hb,hbb,(Sz _ _).drew⟩;clear hr2 hok2 q0 had;go_wp2_with fail
   go_region_held3 (fun w'=>w'.cell? ⟨b,off + k * 2,none⟩=some (.string rs[k].name)∧w'.cell? ⟨b,off + k * 2 + 1,none⟩=some (.slice (some ⟨b2,Uc,none⟩) rs[k].rows.length rs[k].cap)∧w'.cell? ⟨b2,Uc + j * 2 + 1,none⟩=some (.slice rs[k].rows[j].ad rs[k].rows[j].rows.length rs[k].rows[j].cap)∧b < w'.heap.size∧b2 < w'.heap.size∧af wr w')
    (first | exact c3 | assumption | exact keepR (by first | exact c3 | assumption) hbx)
    (first | (go_at_call 136; refine (G7 (some ⟨b,off,none⟩) rs[k].rows[j].ad cap rs[k].rows[j].cap rs _ rs[k].rows[j].rows _ (by omega) (HSW.out.below ((Sz _ _).drew)) HL.out Wh.out.1 (Wj.out.below ((Sz _ _).drew)) Wh.out.2).mono ?_; rintro e w' ⟨rfl,hbx⟩))
   rename_i hHeld;have HBN:Hid (af w w'):=HB.out.trans (hHeld.2.2.2.2.2.mono HB.out.size);clear hHeld c3 t0 t1 q1 hbx;have HTS:=Fp rs[k].rows j hjl;cases hrf:aT (ah rs) rs[k].name (ak rs[k].rows[j].rows);case false=>
    have HN:Hid (¬ bI (ah rs)):=fun hs=>by
     have h1:=hs.2.1;unfold ko at h1;rw [SQ] at h1;have h2:=h1 rs[k].p (by unfold ah; exact List.mem_map_of_mem (Sw hlt));unfold qi at h2;rw [SQ] at h2;have h3:=h2 rs[k].rows[j].p (by show _ ∈ eu rs[k].rows; unfold eu; exact List.mem_map_of_mem (Sw hjl));have h4:aT (ah rs) rs[k].name (ak rs[k].rows[j].rows)=true:=h3;rw [hrf] at h4; cases h4
    go_wp2;go_ret;exact ⟨ag (d9 HN.out).symm,HBN.out⟩
   have Vl:Hid (((eu rs[k].rows).take (j + 1)).all (fun r=>aT (ah rs) rs[k].name r.expr)=true):=by
    show _=_;rw [HTS,List.all_append,HR.out];have:aT (ah rs) rs[k].name rs[k].rows[j].p.expr=true:=hrf;simp [this]
   clear HTS;go_wp2;go_roundw;case rel=>exact ⟨j + 1,by omega,by go_num,Vl,HBN⟩
   simp [intOf] <;> omega
  obtain rfl:j=rs[k].rows.length:=by omega
  have HPN:Hid (((ah rs).take (k + 1)).all (qi (ah rs))=true):=by
   show _=_;rw [Fj rs k hlt,List.all_append,HP.out];have h1:=HR.out;rw [← qP,SS] at h1;have:qi (ah rs) rs[k].p=true:=h1;simp [this]
  go_wp2;go_roundw;case rel=>exact ⟨k + 1,by omega,by go_num,HPN,HB⟩
  simp [intOf] <;> omega
 obtain rfl:k=rs.length:=by omega
 have Wu:Hid (ko (ah rs)=true):=by
  have h1:=HP.out;rw [← lh,SS] at h1;exact h1
 go_wp2_with fail;refine (uF ad cap rs _ VI.out.1 (HS.out.below HB.out) HL.out VI.out.2.1 (fun r hr q hq=>(VI.out.2.2 r hr q hq).2) (l6 Wu.out)).mono ?_;rintro e w' ⟨⟨TH,cap',out,rfl,-,-,Xm⟩ | ⟨rfl,hno⟩,hbx⟩
 ·have HY:Hid (bI (ah rs)):=⟨ZJ.out,Wu.out,_,Xm.sol⟩;have HBN:=jI HB hbx;clear Xm hbx;go_wp2;go_ret;exact ⟨ag (ET HY.out).symm,HBN.out⟩
 have HY:Hid (¬ bI (ah rs)):=fun h=>hno h.2.2;have HBN:=jI HB hbx;clear hno hbx;go_wp2;go_ret;exact ⟨ag (d9 HY.out).symm,HBN.out⟩
end Go.Proofs.YtajkkeikihhejaaGreat
