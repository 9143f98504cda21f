/- Contract of the document's function on schemas. -/
import Derived.Test.YtdmniljjnaebbaaGreatDoorSq
import Derived.Test.YtdmniljjnaebbaaGreatDoorSpecSchema10
import Derived.Test.YtdmniljjnaebbaaGreatDoorJ9
open Go.Proofs.Tryz
set_option maxHeartbeats 80000000
namespace Go.Proofs.YtdmniljjnaebbaaGreatDoor
open Go.Sort
open Go.ChangeShapes Go.WideShapes Go.ChangeAt Go.RowKit
open Pl
def sN (ts:List Ty) (n:ByteArray):Nat→Bool
 | 0=>true
 | i + 1=>(ts[i]?.map fun p=>iw p.name n).getD true
def vQ (ts:List Rl) (n:ByteArray):Nat→Bool
 | 0=>true
 | i + 1=>(ts[i]?.map fun p=>iw p.name n).getD true
theorem BI {rs:List TR} {k:Nat} (h:k < rs.length):jF (ag rs) k=(aR rs[k].name && sN (ag rs) rs[k].name k && decide (rs[k].rows.length≤6) && df (bZ rs[k].rows) rs[k].rows.length):=by
 unfold jF;have e:(ag rs)[k]?=some rs[k].p:=by simp [ag,h]
 rw [e];have e2:rs[k].p.rels.length=rs[k].rows.length:=by simp [TR.p,bZ]
 simp only [e2];cases k <;> rfl
theorem BJ {rs:List RR} {k:Nat} (h:k < rs.length):kG (bZ rs) k=(aR rs[k].name && vQ (bZ rs) rs[k].name k && aY (ai rs[k].rows)):=by
 unfold kG;have e:(bZ rs)[k]?=some rs[k].p:=by simp [bZ,h]
 rw [e];cases k <;> rfl
theorem zf {rs:List TR} {n:ByteArray} {k m:Nat} (hk:k=m + 1) (h0:m < rs.length):sN (ag rs) n k=iw rs[m].name n:=by
 subst hk;have e:(ag rs)[m]?=some rs[m].p:=by simp [ag,h0]
 simp only [sN,e]; rfl
theorem zg {rs:List RR} {n:ByteArray} {k m:Nat} (hk:k=m + 1) (h0:m < rs.length):vQ (bZ rs) n k=iw rs[m].name n:=by
 subst hk;have e:(bZ rs)[m]?=some rs[m].p:=by simp [bZ,h0]
 simp only [vQ,e]; rfl
theorem zh {ts:List Ty} {n:ByteArray} {k:Nat} (hk:k=0):sN ts n k=true:=by subst hk; rfl
theorem zi {ts:List Rl} {n:ByteArray} {k:Nat} (hk:k=0):vQ ts n k=true:=by subst hk; rfl
theorem Pd {P:Program} {c:Code} {Q:Exit→Act→World→Prop} {a:Act} {w:af} (H:(Act→World→Prop)→Prop) (hc:H (Q .normal)) (hr:H (Q .normal)→c.wp P Q a w):c.wp P Q a w:=hr hc
theorem E9 (rs:List TR) (k:Nat) (h:k < rs.length):(ag rs).take (k + 1)=(ag rs).take k ++ [rs[k].p]:=by
 rw [Sk (by rw [eH]; exact h)]; simp [ag]
theorem Fa (rs:List RR) (k:Nat) (h:k < rs.length):(bZ rs).take (k + 1)=(bZ rs).take k ++ [rs[k].p]:=by
 rw [Sk (by rw [fB]; exact h)]; simp [bZ]
theorem keepR {wr W w':af} {b b2 o1 o2 o3:Nat} {x y z:Value} (h:W.cell? ⟨b,o1,none⟩=some x∧W.cell? ⟨b,o2,none⟩=some y∧W.cell? ⟨b2,o3,none⟩=some z∧b < W.heap.size∧b2 < W.heap.size∧aa wr W) (hb:aa W w') :
  w'.cell? ⟨b,o1,none⟩=some x∧w'.cell? ⟨b,o2,none⟩=some y∧w'.cell? ⟨b2,o3,none⟩=some z∧b < w'.heap.size∧b2 < w'.heap.size∧aa wr w' :=
 ⟨aK hb h.2.2.2.1 h.1,aK hb h.2.2.2.1 h.2.1,aK hb h.2.2.2.2.1 h.2.2.1,Sg h.2.2.2.1 hb.size,Sg h.2.2.2.2.1 hb.size,h.2.2.2.2.2.trans (hb.mono h.2.2.2.2.2.size)⟩
theorem Ic {rs:List TR} {k:Nat} (hk:k < rs.length) (h:jF (ag rs) k=false):¬ bG (ag rs):=fun hs=>by
 have h1:=hs.1;simp only [bq,Sn] at h1;rw [qX _ k h _ (by rw [eH]; exact hk)] at h1;cases h1.2
set_option maxRecDepth 100000 in
theorem mM (ad:Option Addr) (cap:Nat) (rs:List TR) (w:af) (hlen:rs.length≤1048576) (hs:iN w ad rs) (hl:∀ r ∈ rs,r.light) (hf:∀ r ∈ rs,r.fits) :
  Calls prog 68 #[.slice ad rs.length cap] w fun e w'=>e=.returned (.bool (aF (ag rs)))∧aa w w':=by
 have HS:=ay hs;have HL:=ay hl;have Tv:=ay hf;clear hs hl hf;by_cases h6:6 < rs.length
 ·have HN:Hid (¬ bG (ag rs)):=fun h=>by have:=(bR h.1).1; omega
  go_enter func68,ntmps68;go_wp2;go_ret;exact ⟨ah (dP HN.out).symm,Si _ _⟩
 go_enter func68,ntmps68;go_wp2;go_loopw [3] (fun i wr=>∃ k:Nat,k≤rs.length∧i=.int .i64 k∧Hid (gJ (ag rs) k=true)∧Hid (aa w wr)) (fun i _=>rs.length - (intOf i).toNat);case atStart=>exact ⟨0,Sm _,rfl,rfl,Si _ _⟩
 obtain ⟨k,hk,rfl,HP,HB⟩:=hrel;by_cases hlt:k < rs.length
 ·rcases HS.out.below HB.out with rfl | ⟨b,off,rfl,hb,hr,hok⟩
  ·simp at hlt
  obtain ⟨t0,t1⟩:=hr k hlt;have TS:Hid (rs[k].ok wr):=hok rs[k] (Sd hlt);have HSW:=ay (HS.out.below HB.out);have z0:rs[k].name.size≤maxLen:=(Tv.out _ (Sd hlt)).1;have hk1:=bH k;have hk2:(k:Int) < (rs.length:Int):=by omega
  have HTP:Hid (∀ (m:Nat) (h:m < rs.length),wr.cell? ⟨b,off + m * 2,none⟩=some (.string rs[m].name)):=fun m h=>(hr m h).1;have HTA:=BI hlt;have HTH:Hid (jF (ag rs) k=_):=HTA;have HBAD:Hid (jF (ag rs) k=false→¬ bG (ag rs)):=Ic hlt;clear hr hok HTA;go_wp2_with fail;refine Pd (fun K=>∀ (v0 v1 v2 v3 v4 v5 v6 v7 v8 v9 v10 v11 v12 v13 v14 v15 v16 v17 v18 v19 v20 v21 v22 v23 v24 v25 v26 v27 v28 v29 v30 v31 v32:Value) (w':World),aa wr w'→jF (ag rs) k=df (bZ rs[k].rows) rs[k].rows.length→K { tmps:=List.toArray (Value.slice (some ⟨b,off,none⟩) rs.length cap::undef::u2::.int .i64 k::u4::u5::undef::undef::undef::undef::.slice (some ⟨b,off,none⟩) rs.length cap::.int .i64 rs.length::.bool (decide (6 < (rs.length:Int)))::.int .i64 k::.slice (some ⟨b,off,none⟩) rs.length cap::.int .i64 rs.length::.bool true::u17::u18::v0::v1::v2::v3::v4::v5::v6::v7::v8::v9::v10::v11::v12::v13::v14::v15::v16::v17::v18::v19::v20::v21::v22::v23::v24::v25::v26::v27::v28::v29::v30::v31::v32::.bool false::u53::u54::u55::u56::u57::u58::u59::u60::u61::u62::u63::u64::u65::u66::u67::u68::u69::u70::u71::u72::u73::u74::u75::u76::u77::u78::u79::u80::u81::u82::u83::u84::u85::u86::u87::u88::u89::u90::u91::u92::u93::u94::u95::u96::u97::u98::u99::undef::undef::undef::undef::undef::undef::undef::undef::undef::undef::undef::undef::undef::undef::undef::undef::undef::undef::undef::undef::undef::undef::undef::undef::undef::undef::undef::undef::undef::undef::undef::undef::undef::undef::undef::undef::undef::undef::undef::[]),defers:=[] } w') ?cont6 ?reg6;case cont6 =>
   intro v0 v1 v2 v3 v4 v5 v6 v7 v8 v9 v10 v11 v12 v13 v14 v15 v16 v17 v18 v19 v20 v21 v22 v23 v24 v25 v26 v27 v28 v29 v30 v31 v32 w' hG hpre;have HG:Hid (aa wr w'):=hG;have HPRE:Hid (jF (ag rs) k=df (bZ rs[k].rows) rs[k].rows.length):=hpre;clear hG hpre;obtain ⟨wo,hwo⟩:∃ wo,wo=wr:=⟨_,rfl⟩;subst hwo;have HB1:Hid (aa w w'):=HB.out.trans (HG.out.mono HB.out.size);have lgT:=(HL.out _ (Sd hlt)).1;have Xg:Hid (∀ q ∈ rs[k].rows,q.light):=(HL.out _ (Sd hlt)).2;have TP:Hid (∀ q ∈ rs[k].rows,q.fits):=(Tv.out _ (Sd hlt)).2.2;have Xi:Hid (∀ j,j < rs[k].rows.length→kG (bZ rs[k].rows) j=false→¬ bG (ag rs)):=fun j hj h=>HBAD.out (by rw [HPRE.out]; exact qW _ j h _ hj);clear t0 t1 HTP HSW TS;go_wp2_with fail;go_loopw [4] (fun i w2=>∃ j:Nat,j≤rs[k].rows.length∧i=.int .i64 j∧Hid (df (bZ rs[k].rows) j=true)∧Hid (aa w w2)) (fun i _=>rs[k].rows.length - (intOf i).toNat);case atStart=>exact ⟨0,Sm _,rfl,rfl,HB1⟩
   clear HB1 HG HB;obtain ⟨j,hj,rfl,HRU,HB⟩:=hrel;rcases HS.out.below HB.out with rfl | ⟨b',off',he,hb2,hr,hok⟩
   ·simp at hlt
   injection he with he; injection he with he1 he2; subst he1; subst he2;obtain ⟨t0,t1⟩:=hr k hlt;have TS:Hid (rs[k].ok wr):=hok rs[k] (Sd hlt);clear hr hok;by_cases hjl:j < rs[k].rows.length
   ·rcases TS.out with hnil | ⟨b2,TY,had,hbb,hr2,hok2⟩
    ·rw [hnil] at hjl; simp at hjl
    rw [had] at t1;obtain ⟨q0,q1⟩:=hr2 j hjl;have HQ:Hid (∀ (m:Nat) (h:m < rs[k].rows.length),wr.cell? ⟨b2,TY + m * 2,none⟩=some (.string rs[k].rows[m].name)):=fun m h=>(hr2 m h).1;have VA:Hid (fQ wr rs[k].rows[j].ad rs[k].rows[j].rows):=hok2 _ (Sd hjl);have z1:rs[k].rows[j].name.size≤maxLen:=(TP.out _ (Sd hjl)).1;have Vl:Hid (rs[k].rows[j].light):=Xg.out _ (Sd hjl);have U5:Hid (rs[k].rows[j].fits):=TP.out _ (Sd hjl);have hj1:=bH j;have hj2:(j:Int) < (rs[k].rows.length:Int):=by omega
    have XE:Hid (kG (bZ rs[k].rows) j=_):=BJ hjl;obtain ⟨W1,hW1⟩:∃ W1,W1=wr.alloc (.cells #[.string rs[k].rows[j].name,.slice rs[k].rows[j].ad rs[k].rows[j].rows.length rs[k].rows[j].cap] 122):=⟨_,rfl⟩;have hal:aa wr W1:=by rw [hW1]; exact (Si _ _).alloc (Sj _) _
    have TB:=ay hal;have hgl:wr.heap.size < W1.heap.size:=by rw [hW1]; simp
    have g0:W1.cell? ⟨wr.heap.size,0,none⟩=some (.string rs[k].rows[j].name):=by rw [hW1]; simp
    have g1:W1.cell? ⟨wr.heap.size,1,none⟩=some (.slice rs[k].rows[j].ad rs[k].rows[j].rows.length rs[k].rows[j].cap):=by rw [hW1]; simp
    have d1:=aK hal hb2 t1;have hb3:b < W1.heap.size:=Nat.lt_trans hb2 hgl;have hb4:b2 < W1.heap.size:=Nat.lt_trans hbb hgl;clear hr2 hok2;go_wp2_with fail;rw [← hW1];clear hW1 t0 q0 q1 hal t1;have p0:=cell_regrown g0;have p1:=cell_regrown g1;have p2:=cell_regrown d1;have TE:Hid (∀ d os,Calls prog 105 #[.string rs[k].rows[j].name] (grow (redrawn W1 d) os) fun e w''=>e=.returned (.bool (aR rs[k].rows[j].name))∧∃ p:Regrown,w''=grow (redrawn W1 p.d) p.os):=by
     refine je fun W'=>?_;exact aN _ _ z1
    have Vp:Hid (∀ d os,Calls prog 106 #[.slice rs[k].rows[j].ad rs[k].rows[j].rows.length rs[k].rows[j].cap] (grow (redrawn W1 d) os) fun e w''=>e=.returned (.bool (aY (ai rs[k].rows[j].rows)))∧∃ p:Regrown,w''=grow (redrawn W1 p.d) p.os):=by
     refine bP fun W' hb=>?_;exact yA _ _ rs[k].rows[j].rows _ Vl.out.1 Vl.out.2 U5.out.2.2 (VA.out.below (TB.out.trans (hb.mono TB.out.size)))
    have TQ:Hid (∀ d os,aa w (grow (redrawn W1 d) os)):=fun d os=>HB.out.trans ((TB.out.mono HB.out.size).trans ((below_regrown W1 d os).mono (Sq HB.out.size TB.out.size)));cases hnm:aR rs[k].rows[j].name;case false=>
     rw [hnm] at TE;have HN:Hid (¬ bG (ag rs)):=Xi.out j hjl (by rw [XE.out]; simp [hnm]);refine wp_region_quiet_below (by kernel_rfl) (by kernel_rfl) ?_
     repeat (go_big_quiet_step (exact TE.out _ _))
     refine wpQuiet_nil ?_;rintro _ ⟨⟨dq,osq⟩,rfl⟩;go_wp2;go_ret;exact ⟨ah (dP HN.out).symm,TQ.out dq osq⟩
    rw [hnm] at TE;obtain ⟨ex,hex⟩:∃ ex,ex=aY (ai rs[k].rows[j].rows):=⟨_,rfl⟩;have fin:Hid (∀ pv,vQ (bZ rs[k].rows) rs[k].rows[j].name j=pv→kG (bZ rs[k].rows) j=(pv && ex)):=fun pv h=>by rw [XE.out,hnm,h,hex]; simp
    rw [← hex] at Vp;clear hex XE hnm;by_cases hpos:j=0
    ·have hk0:¬ (0:Int) < (j:Int):=by omega
     have Zw:decide (0 < j)=false:=by simp; omega
     have UK:=oG (fin.out _ (zi hpos));replace hpos:Hid (j=0):=hpos;refine wp_region_quiet_below (by kernel_rfl) (by kernel_rfl) ?_
     repeat (go_big_quiet_step (first | exact TE.out _ _ | exact Vp.out _ _))
     refine wpQuiet_nil ?_;rintro _ ⟨⟨dq,osq⟩,rfl⟩;cases ex;case false=>
      have HN:Hid (¬ bG (ag rs)):=Xi.out j hjl (by rw [UK.out]; rfl);go_wp2;go_ret;exact ⟨ah (dP HN.out).symm,TQ.out dq osq⟩
     have UU:Hid (df (bZ rs[k].rows) (j + 1)=true):=by show _=_; simp only [df]; rw [HRU.out,UK.out]; rfl
     go_wp2;go_roundw;case rel=>exact ⟨j + 1,by omega,by go_num,UU,TQ.out dq osq⟩
     simp [intOf] <;> omega
    obtain ⟨m,hm⟩:∃ m,j=m + 1:=⟨j - 1,by omega⟩;have TF:m < rs[k].rows.length:=by omega
    have hk0:(0:Int) < (j:Int):=by omega
    have Zw:decide (0 < j)=true:=by simp; omega
    have hkm:(j:Int) - 1=(m:Int):=by omega
    have hwm:IntKind.i64.wrap (m:Int)=(m:Int):=by rw [IntKind.wrap_i64]; omega
    have hm1:=bH m;have hm2:(m:Int) < (rs[k].rows.length:Int):=by omega
    have qm:=cell_regrown (aK TB.out hbb (HQ.out m TF));have UK:=oG (fin.out _ (zg hm TF));replace hm:Hid (j=m + 1):=hm;cases hless:Op.bytesLess rs[k].rows[m].name.toList rs[k].rows[j].name.toList;case false=>
     have HN:Hid (¬ bG (ag rs)):=Xi.out j hjl (by rw [UK.out]; simp [iw,hless]);refine wp_region_quiet_below (by kernel_rfl) (by kernel_rfl) ?_
     repeat (go_big_quiet_step (exact TE.out _ _))
     refine wpQuiet_nil ?_;rintro _ ⟨⟨dq,osq⟩,rfl⟩;go_wp2;go_ret;exact ⟨ah (dP HN.out).symm,TQ.out dq osq⟩
    refine wp_region_quiet_below (by kernel_rfl) (by kernel_rfl) ?_
    repeat (go_big_quiet_step (first | exact TE.out _ _ | exact Vp.out _ _))
    refine wpQuiet_nil ?_;rintro _ ⟨⟨dq,osq⟩,rfl⟩;cases ex;case false=>
     have HN:Hid (¬ bG (ag rs)):=Xi.out j hjl (by rw [UK.out]; simp);go_wp2;go_ret;exact ⟨ah (dP HN.out).symm,TQ.out dq osq⟩
    have UU:Hid (df (bZ rs[k].rows) (j + 1)=true):=by show _=_; simp only [df]; rw [HRU.out,UK.out]; simp [iw,hless]
    go_wp2;go_roundw;case rel=>exact ⟨j + 1,by omega,by go_num,UU,TQ.out dq osq⟩
    simp [intOf] <;> omega
   obtain rfl:j=rs[k].rows.length:=by omega
   have HTU:Hid (gJ (ag rs) (k + 1)=true):=by show _=_; simp only [gJ]; rw [HP.out,HPRE.out,HRU.out]; rfl
   go_wp2;go_roundw;case rel=>exact ⟨k + 1,by omega,by go_num,HTU,HB⟩
   simp [intOf] <;> omega
  intro hC;have HC:=oG hC;clear hC;have p0:=cell_regrown t0;have p1:=cell_regrown t1;have TE:Hid (∀ d os,Calls prog 105 #[.string rs[k].name] (grow (redrawn wr d) os) fun e w''=>e=.returned (.bool (aR rs[k].name))∧∃ p:Regrown,w''=grow (redrawn wr p.d) p.os):=by
   refine je fun W'=>?_;exact aN _ _ z0
  have TQ:Hid (∀ d os,aa w (grow (redrawn wr d) os)):=fun d os=>HB.out.trans ((below_regrown wr d os).mono HB.out.size);cases hnm:aR rs[k].name;case false=>
   rw [hnm] at TE;have HN:Hid (¬ bG (ag rs)):=HBAD.out (by rw [HTH.out]; simp [hnm]);refine wp_region_quiet_below (by kernel_rfl) (by kernel_rfl) ?_
   repeat (go_big_quiet_step (exact TE.out _ _))
   refine wpQuiet_nil ?_;rintro _ ⟨⟨dq,osq⟩,rfl⟩;go_wp2;go_ret;exact ⟨ah (dP HN.out).symm,TQ.out dq osq⟩
  rw [hnm] at TE;obtain ⟨gt,hgt⟩:∃ gt,gt=decide (6 < (rs[k].rows.length:Int)):=⟨_,rfl⟩;have HGT:Hid (decide (rs[k].rows.length≤6)=!gt):=by show _=_; rw [hgt]; by_cases h:rs[k].rows.length≤6 <;> simp [h] <;> omega
  have hgn:decide (6 < rs[k].rows.length)=gt:=by rw [hgt]; by_cases h:6 < rs[k].rows.length <;> simp [h] <;> omega
  replace hgt:=hgt.symm;by_cases hpos:k=0
  ·have hk0:¬ (0:Int) < (k:Int):=by omega
   have Zw:decide (0 < k)=false:=by simp; omega
   have UK:Hid (sN (ag rs) rs[k].name k=true):=zh hpos;replace hpos:Hid (k=0):=hpos;refine wp_region_quiet_below (by kernel_rfl) (by kernel_rfl) ?_
   repeat (go_big_quiet_step (exact TE.out _ _))
   refine wpQuiet_nil ?_;rintro _ ⟨⟨dq,osq⟩,rfl⟩;clear hgt hgn;cases gt;case true=>
    have HN:Hid (¬ bG (ag rs)):=HBAD.out (by rw [HTH.out,UK.out]; simp [HGT.out]);go_wp2;go_ret;exact ⟨ah (dP HN.out).symm,TQ.out dq osq⟩
   exact HC.out _ _ _ _ _ _ _ _ _ _ _ _ _ _ _ _ _ _ _ _ _ _ _ _ _ _ _ _ _ _ _ _ _ _ (below_regrown wr dq osq) (by rw [HTH.out,UK.out]; simp [HGT.out, *])
  obtain ⟨m,hm⟩:∃ m,k=m + 1:=⟨k - 1,by omega⟩;have TF:m < rs.length:=by omega
  have hk0:(0:Int) < (k:Int):=by omega
  have Zw:decide (0 < k)=true:=by simp; omega
  have hkm:(k:Int) - 1=(m:Int):=by omega
  have hwm:IntKind.i64.wrap (m:Int)=(m:Int):=by rw [IntKind.wrap_i64]; omega
  have hm1:=bH m;have hm2:(m:Int) < (rs.length:Int):=by omega
  have qm:=cell_regrown (HTP.out m TF);have UK:Hid (sN (ag rs) rs[k].name k=iw rs[m].name rs[k].name):=zf hm TF;replace hm:Hid (k=m + 1):=hm;cases hless:Op.bytesLess rs[m].name.toList rs[k].name.toList;case false=>
   have HN:Hid (¬ bG (ag rs)):=HBAD.out (by rw [HTH.out,UK.out]; simp [iw,hless]);refine wp_region_quiet_below (by kernel_rfl) (by kernel_rfl) ?_
   repeat (go_big_quiet_step (exact TE.out _ _))
   refine wpQuiet_nil ?_;rintro _ ⟨⟨dq,osq⟩,rfl⟩;go_wp2;go_ret;exact ⟨ah (dP HN.out).symm,TQ.out dq osq⟩
  refine wp_region_quiet_below (by kernel_rfl) (by kernel_rfl) ?_
  repeat (go_big_quiet_step (exact TE.out _ _))
  refine wpQuiet_nil ?_;rintro _ ⟨⟨dq,osq⟩,rfl⟩;clear hgt hgn;cases gt;case true=>
   have HN:Hid (¬ bG (ag rs)):=HBAD.out (by rw [HTH.out,UK.out]; simp [HGT.out]);go_wp2;go_ret;exact ⟨ah (dP HN.out).symm,TQ.out dq osq⟩
  exact HC.out _ _ _ _ _ _ _ _ _ _ _ _ _ _ _ _ _ _ _ _ _ _ _ _ _ _ _ _ _ _ _ _ _ _ (below_regrown wr dq osq) (by rw [HTH.out,UK.out]; simp [iw,HGT.out, *])
 obtain rfl:k=rs.length:=by omega
 have HSH:Hid (bq (ag rs)=true):=by
  show _=_;unfold bq; rw [eH,HP.out]; simp; omega
 have WQ:Hid (rs.length≤6∧(∀ r ∈ rs,r.rows.length≤6)∧∀ r ∈ rs,∀ q ∈ r.rows,aY (ai q.rows)=true∧q.rows.length≤15∧∀ e ∈ q.rows,dQ q.rows.length e.e.kids):=bR HSH.out;clear HP;go_wp2_with fail;go_loopw [6] (fun i wr=>∃ k:Nat,k≤rs.length∧i=.int .i64 k∧Hid (((ag rs).take k).all (o8 (ag rs))=true)∧Hid (aa w wr)) (fun i _=>rs.length - (intOf i).toNat);case atStart=>exact ⟨0,Sm _,rfl,(by show _=_; simp),HB⟩
 clear HB;obtain ⟨k,hk,rfl,HP,HB⟩:=hrel;by_cases hlt:k < rs.length
 ·have hk1:=bH k;have hk2:(k:Int) < (rs.length:Int):=by omega
  have lgT:=(HL.out _ (Sd hlt)).1;have Xg:Hid (∀ q ∈ rs[k].rows,q.light):=(HL.out _ (Sd hlt)).2;go_wp2_with fail;go_loopw [7] (fun i w2=>∃ j:Nat,j≤rs[k].rows.length∧i=.int .i64 j∧Hid (((bZ rs[k].rows).take j).all (fun r=>aP (ag rs) rs[k].name r.expr)=true)∧Hid (aa w w2)) (fun i _=>rs[k].rows.length - (intOf i).toNat);case atStart=>exact ⟨0,Sm _,rfl,(by show _=_; simp),HB⟩
  clear HB;obtain ⟨j,hj,rfl,HR,HB⟩:=hrel;have HSW:=ay (HS.out.below HB.out);rcases HSW.out with rfl | ⟨b,off,rfl,hb,hr,hok⟩
  ·simp at hlt
  obtain ⟨t0,t1⟩:=hr k hlt;have TS:Hid (rs[k].ok wr):=hok rs[k] (Sd hlt);clear hr hok;by_cases hjl:j < rs[k].rows.length
  ·rcases TS.out with hnil | ⟨b2,TY,had,hbb,hr2,hok2⟩
   ·rw [hnil] at hjl; simp at hjl
   rw [had] at t1;obtain ⟨q0,q1⟩:=hr2 j hjl;have VA:Hid (fQ wr rs[k].rows[j].ad rs[k].rows[j].rows):=hok2 _ (Sd hjl);have Vl:Hid (rs[k].rows[j].light):=Xg.out _ (Sd hjl);have hj1:=bH j;have hj2:(j:Int) < (rs[k].rows.length:Int):=by omega
   have c3:wr.drew.cell? ⟨b,off + k * 2,none⟩=some (.string rs[k].name)∧wr.drew.cell? ⟨b,off + k * 2 + 1,none⟩=some (.slice (some ⟨b2,TY,none⟩) rs[k].rows.length rs[k].cap)∧wr.drew.cell? ⟨b2,TY + j * 2 + 1,none⟩=some (.slice rs[k].rows[j].ad rs[k].rows[j].rows.length rs[k].rows[j].cap)∧b < wr.drew.heap.size∧b2 < wr.drew.heap.size∧aa wr wr.drew:=⟨t0,t1,q1,hb,hbb,(Si _ _).drew⟩;clear hr2 hok2 q0 had;go_wp2_with fail
   go_region_held3 (fun w'=>w'.cell? ⟨b,off + k * 2,none⟩=some (.string rs[k].name)∧w'.cell? ⟨b,off + k * 2 + 1,none⟩=some (.slice (some ⟨b2,TY,none⟩) rs[k].rows.length rs[k].cap)∧w'.cell? ⟨b2,TY + j * 2 + 1,none⟩=some (.slice rs[k].rows[j].ad rs[k].rows[j].rows.length rs[k].rows[j].cap)∧b < w'.heap.size∧b2 < w'.heap.size∧aa wr w')
    (first | exact c3 | assumption | exact keepR (by first | exact c3 | assumption) hbx)
    (first | (go_at_call 107; refine (Gx (some ⟨b,off,none⟩) rs[k].rows[j].ad cap rs[k].rows[j].cap rs _ rs[k].rows[j].rows _ (by omega) (HSW.out.below ((Si _ _).drew)) HL.out Vl.out.1 (VA.out.below ((Si _ _).drew)) Vl.out.2).mono ?_; rintro e w' ⟨rfl,hbx⟩))
   rename_i hHeld;have Xf:Hid (aa w w'):=HB.out.trans (hHeld.2.2.2.2.2.mono HB.out.size);clear hHeld c3 t0 t1 q1 hbx;have HTS:=Fa rs[k].rows j hjl;cases hrf:aP (ag rs) rs[k].name (ai rs[k].rows[j].rows);case false=>
    have HN:Hid (¬ bG (ag rs)):=fun hs=>by
     have h1:=hs.2.1;unfold jv at h1;rw [SC] at h1;have h2:=h1 rs[k].p (by unfold ag; exact List.mem_map_of_mem (Sd hlt));unfold o8 at h2;rw [SC] at h2;have h3:=h2 rs[k].rows[j].p (by show _ ∈ bZ rs[k].rows; unfold bZ; exact List.mem_map_of_mem (Sd hjl));have h4:aP (ag rs) rs[k].name (ai rs[k].rows[j].rows)=true:=h3;rw [hrf] at h4; cases h4
    go_wp2;go_ret;exact ⟨ah (dP HN.out).symm,Xf.out⟩
   have UU:Hid (((bZ rs[k].rows).take (j + 1)).all (fun r=>aP (ag rs) rs[k].name r.expr)=true):=by
    show _=_;rw [HTS,List.all_append,HR.out];have:aP (ag rs) rs[k].name rs[k].rows[j].p.expr=true:=hrf;simp [this]
   clear HTS;go_wp2;go_roundw;case rel=>exact ⟨j + 1,by omega,by go_num,UU,Xf⟩
   simp [intOf] <;> omega
  obtain rfl:j=rs[k].rows.length:=by omega
  have HPN:Hid (((ag rs).take (k + 1)).all (o8 (ag rs))=true):=by
   show _=_;rw [E9 rs k hlt,List.all_append,HP.out];have h1:=HR.out;rw [← fB,Su] at h1;have:o8 (ag rs) rs[k].p=true:=h1;simp [this]
  go_wp2;go_roundw;case rel=>exact ⟨k + 1,by omega,by go_num,HPN,HB⟩
  simp [intOf] <;> omega
 obtain rfl:k=rs.length:=by omega
 have VU:Hid (jv (ag rs)=true):=by
  have h1:=HP.out;rw [← eH,Su] at h1;exact h1
 go_wp2_with fail;refine (sM ad cap rs _ WQ.out.1 (HS.out.below HB.out) HL.out WQ.out.2.1 (fun r hr q hq=>(WQ.out.2.2 r hr q hq).2) (kH VU.out)).mono ?_;rintro e w' ⟨⟨Ti,cap',out,rfl,-,-,WO⟩ | ⟨rfl,hno⟩,hbx⟩
 ·have HY:Hid (bG (ag rs)):=⟨HSH.out,VU.out,_,WO.sol⟩;have Xf:=jb HB hbx;clear WO hbx;go_wp2;go_ret;exact ⟨ah (El HY.out).symm,Xf.out⟩
 have HY:Hid (¬ bG (ag rs)):=fun h=>hno h.2.2;have Xf:=jb HB hbx;clear hno hbx;go_wp2;go_ret;exact ⟨ah (dP HY.out).symm,Xf.out⟩
end Go.Proofs.YtdmniljjnaebbaaGreatDoor
