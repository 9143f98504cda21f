/- Contract of the document's function on schemas. -/
import Derived.Test.YteoflgocljfgeaaGreatDoorJ17
open Go.Proofs.Tryz
set_option maxHeartbeats 80000000
namespace Go.Proofs.YteoflgocljfgeaaGreatDoor
open Go.ChangeShapes Go.WideShapes Go.ChangeAt Go.RowKit
open Pl
def pY (ts:List Ty) (n:ByteArray):Nat→Bool
 | 0=>true
 | i + 1=>(ts[i]?.map fun p=>fD p.name n).getD true
def qc (ts:List Rl) (n:ByteArray):Nat→Bool
 | 0=>true
 | i + 1=>(ts[i]?.map fun p=>fD p.name n).getD true
theorem zo {rs:List TR} {k:Nat} (h:k < rs.length):jF (ah rs) k=(aU rs[k].name && pY (ah rs) rs[k].name k && decide (rs[k].rows.length≤6) && dN (dO rs[k].rows) rs[k].rows.length):=by
 unfold jF;have e:(ah rs)[k]?=some rs[k].p:=by simp [ah,h]
 rw [e];have e2:rs[k].p.rels.length=rs[k].rows.length:=by simp [TR.p,dO]
 simp only [e2];cases k <;> rfl
theorem zq {rs:List RR} {k:Nat} (h:k < rs.length):kI (dO rs) k=(aU rs[k].name && qc (dO rs) rs[k].name k && aS (au rs[k].rows)):=by
 unfold kI;have e:(dO rs)[k]?=some rs[k].p:=by simp [dO,h]
 rw [e];cases k <;> rfl
theorem xe {rs:List TR} {n:ByteArray} {k m:Nat} (hk:k=m + 1) (h0:m < rs.length):pY (ah rs) n k=fD rs[m].name n:=by
 subst hk;have e:(ah rs)[m]?=some rs[m].p:=by simp [ah,h0]
 simp only [pY,e]; rfl
theorem xg {rs:List RR} {n:ByteArray} {k m:Nat} (hk:k=m + 1) (h0:m < rs.length):qc (dO rs) n k=fD rs[m].name n:=by
 subst hk;have e:(dO rs)[m]?=some rs[m].p:=by simp [dO,h0]
 simp only [qc,e]; rfl
theorem xh {ts:List Ty} {n:ByteArray} {k:Nat} (hk:k=0):pY ts n k=true:=by subst hk; rfl
theorem xk {ts:List Rl} {n:ByteArray} {k:Nat} (hk:k=0):qc ts n k=true:=by subst hk; rfl
theorem vv {P:Program} {c:Code} {Q:Exit→Act→World→Prop} {a:Act} {w:World} {F:(Nat→Value)→Act} (X:(Nat→Value)→World→Prop) (hcont:∀ f w',X f w'→Q .normal (F f) w') (h:(∀ f w',X f w'→Q .normal (F f) w')→c.wp P Q a w):c.wp P Q a w:=h hcont
theorem BZ (rs:List TR) (k:Nat) (h:k < rs.length):(ah rs).take (k + 1)=(ah rs).take k ++ [rs[k].p]:=by
 rw [List.take_succ_eq_append_getElem (by rw [jL]; exact h)]; simp [ah]
theorem Ca (rs:List RR) (k:Nat) (h:k < rs.length):(dO rs).take (k + 1)=(dO rs).take k ++ [rs[k].p]:=by
 rw [List.take_succ_eq_append_getElem (by rw [qQ]; exact h)]; simp [dO]
theorem keepR {wr W w':World} {b b2 o1 o2 o3:Nat} {x y z:Value} (h:W.cell? ⟨b,o1,none⟩=some x∧W.cell? ⟨b,o2,none⟩=some y∧W.cell? ⟨b2,o3,none⟩=some z∧b < W.heap.size∧b2 < W.heap.size∧Below wr.heap.size wr W) (hb:Below W.heap.size W w') :
  w'.cell? ⟨b,o1,none⟩=some x∧w'.cell? ⟨b,o2,none⟩=some y∧w'.cell? ⟨b2,o3,none⟩=some z∧b < w'.heap.size∧b2 < w'.heap.size∧Below wr.heap.size wr w' :=
 ⟨ak hb h.2.2.2.1 h.1,ak hb h.2.2.2.1 h.2.1,ak hb h.2.2.2.2.1 h.2.2.1,Nat.lt_of_lt_of_le h.2.2.2.1 hb.size,Nat.lt_of_lt_of_le h.2.2.2.2.1 hb.size,h.2.2.2.2.2.trans (hb.mono h.2.2.2.2.2.size)⟩
theorem DU {rs:List TR} {k:Nat} (hk:k < rs.length) (h:jF (ah rs) k=false):¬ bC (ah rs):=fun hs=>by
 have h1:=hs.1;simp only [cu,Bool.and_eq_true] at h1;rw [qz _ k h _ (by rw [jL]; exact hk)] at h1;cases h1.2
set_option maxRecDepth 100000 in
theorem iU (ad:Option Addr) (cap:Nat) (rs:List TR) (w:World) (hlen:rs.length≤1048576) (hs:gp w ad rs) (hl:∀ r ∈ rs,r.light) (hf:∀ r ∈ rs,r.fits) :
  Calls prog 45 #[.slice ad rs.length cap] w fun e w'=>e=.returned (.bool (aA (ah rs)))∧Below w.heap.size w w':=by
 have HS:Hid (gp w ad rs):=hs;have HL:Hid (∀ r ∈ rs,r.light):=hl;have HFT:Hid (∀ r ∈ rs,r.fits):=hf;clear hs hl hf;by_cases h6:6 < rs.length
 ·have HN:Hid (¬ bC (ah rs)):=fun h=>by have:=(dF h.1).1; omega
  go_enter func45,ntmps45;go_wp2;go_ret;exact ⟨ag (di HN.out).symm,Below.refl _ _⟩
 go_enter func45,ntmps45;go_wp2;go_loopw [3] (fun i wr=>∃ k:Nat,k≤rs.length∧i=.int .i64 k∧Hid (iw (ah rs) k=true)∧Hid (Below w.heap.size w wr)) (fun i _=>rs.length - (intOf i).toNat);case atStart=>exact ⟨0,Nat.zero_le _,rfl,rfl,Below.refl _ _⟩
 case round =>
  obtain ⟨k,hk,rfl,HP,HB⟩:=hrel;by_cases hlt:k < rs.length
  ·rcases HS.out.below HB.out with rfl | ⟨b,off,rfl,hb,hr,hok⟩
   ·simp at hlt
   obtain ⟨t0,t1⟩:=hr k hlt;have HOK:Hid (rs[k].ok wr):=hok rs[k] (List.getElem_mem hlt);have HSW:Hid (gp wr (some ⟨b,off,none⟩) rs):=HS.out.below HB.out;have z0:rs[k].name.size≤maxLen:=(HFT.out _ (List.getElem_mem hlt)).1;have hk1:=bR k;have hk2:(k:Int) < (rs.length:Int):=by omega
   have HTP:Hid (∀ (m:Nat) (h:m < rs.length),wr.cell? ⟨b,off + m * 2,none⟩=some (.string rs[m].name)):=fun m h=>(hr m h).1;have HTA:=zo hlt;have HTH:Hid (jF (ah rs) k=_):=HTA;have HBAD:Hid (jF (ah rs) k=false→¬ bC (ah rs)):=DU hlt;clear hr hok HTA;go_wp2_with fail;refine vv (F:=(fun f=>{ tmps:=List.toArray (Value.slice (some ⟨b,off,none⟩) rs.length cap::undef::u2::.int .i64 k::u4::u5::undef::undef::undef::undef::.slice (some ⟨b,off,none⟩) rs.length cap::.int .i64 rs.length::.bool (decide (6 < (rs.length:Int)))::.int .i64 k::.slice (some ⟨b,off,none⟩) rs.length cap::.int .i64 rs.length::.bool true::u17::u18::f 0::f 1::f 2::f 3::f 4::f 5::f 6::f 7::f 8::f 9::f 10::f 11::f 12::f 13::f 14::f 15::f 16::f 17::f 18::f 19::f 20::f 21::f 22::f 23::f 24::f 25::f 26::f 27::f 28::f 29::f 30::f 31::f 32::f 33::u53::u54::u55::u56::u57::u58::u59::u60::u61::u62::u63::u64::u65::u66::u67::u68::u69::u70::u71::u72::u73::u74::u75::u76::u77::u78::u79::u80::u81::u82::u83::u84::u85::u86::u87::u88::u89::u90::u91::u92::u93::u94::u95::u96::u97::u98::u99::undef::undef::undef::undef::undef::undef::undef::undef::undef::undef::undef::undef::undef::undef::undef::undef::undef::undef::undef::undef::undef::undef::undef::undef::undef::undef::undef::undef::undef::undef::undef::undef::undef::undef::undef::undef::undef::undef::undef::[]),defers:=[] })) (fun f w'=>Below wr.heap.size wr w'∧f 33=Value.bool false∧jF (ah rs) k=dN (dO rs[k].rows) rs[k].rows.length) ?cont6 ?reg6;case cont6 =>
    rintro f w' ⟨hG,e33,hpre⟩;have HG:Hid (Below wr.heap.size wr w'):=hG;have HPRE:Hid (jF (ah rs) k=dN (dO rs[k].rows) rs[k].rows.length):=hpre;clear hG hpre;rw [e33];obtain ⟨wo,hwo⟩:∃ wo,wo=wr:=⟨_,rfl⟩;subst hwo;have HB1:Hid (Below w.heap.size w w'):=HB.out.trans (HG.out.mono HB.out.size);have lgT:=(HL.out _ (List.getElem_mem hlt)).1;have HLT:Hid (∀ q ∈ rs[k].rows,q.light):=(HL.out _ (List.getElem_mem hlt)).2;have HFR:Hid (∀ q ∈ rs[k].rows,q.fits):=(HFT.out _ (List.getElem_mem hlt)).2.2;have HBAD2:Hid (∀ j,j < rs[k].rows.length→kI (dO rs[k].rows) j=false→¬ bC (ah rs)):=fun j hj h=>HBAD.out (by rw [HPRE.out]; exact qy _ j h _ hj);clear e33 t0 t1 HTP HSW HOK;go_wp2_with fail;go_loopw [4] (fun i w2=>∃ j:Nat,j≤rs[k].rows.length∧i=.int .i64 j∧Hid (dN (dO rs[k].rows) j=true)∧Hid (Below w.heap.size w w2)) (fun i _=>rs[k].rows.length - (intOf i).toNat);case atStart=>exact ⟨0,Nat.zero_le _,rfl,rfl,HB1⟩
    case round =>
     clear HB1 HG HB;obtain ⟨j,hj,rfl,HRU,HB⟩:=hrel;rcases HS.out.below HB.out with rfl | ⟨b',off',he,hb2,hr,hok⟩
     ·simp at hlt
     injection he with he; injection he with he1 he2; subst he1; subst he2;obtain ⟨t0,t1⟩:=hr k hlt;have HOK:Hid (rs[k].ok wr):=hok rs[k] (List.getElem_mem hlt);clear hr hok;by_cases hjl:j < rs[k].rows.length
     ·rcases HOK.out with hnil | ⟨b2,off2,had,hbb,hr2,hok2⟩
      ·rw [hnil] at hjl; simp at hjl
      rw [had] at t1;obtain ⟨q0,q1⟩:=hr2 j hjl;have HQ:Hid (∀ (m:Nat) (h:m < rs[k].rows.length),wr.cell? ⟨b2,off2 + m * 2,none⟩=some (.string rs[k].rows[m].name)):=fun m h=>(hr2 m h).1;have HSE:Hid (kX wr rs[k].rows[j].ad rs[k].rows[j].rows):=hok2 _ (List.getElem_mem hjl);have z1:rs[k].rows[j].name.size≤maxLen:=(HFR.out _ (List.getElem_mem hjl)).1;have HLG:Hid (rs[k].rows[j].light):=HLT.out _ (List.getElem_mem hjl);have HFE:Hid (rs[k].rows[j].fits):=HFR.out _ (List.getElem_mem hjl);have hj1:=bR j;have hj2:(j:Int) < (rs[k].rows.length:Int):=by omega
      have HRG:Hid (kI (dO rs[k].rows) j=_):=zq hjl;obtain ⟨W1,hW1⟩:∃ W1,W1=wr.alloc (.cells #[.string rs[k].rows[j].name,.slice rs[k].rows[j].ad rs[k].rows[j].rows.length rs[k].rows[j].cap] 126):=⟨_,rfl⟩;have hal:Below wr.heap.size wr W1:=by rw [hW1]; exact (Below.refl _ _).alloc (Nat.le_refl _) _
      have HAL:Hid (Below wr.heap.size wr W1):=hal;have hgl:wr.heap.size < W1.heap.size:=by rw [hW1]; simp
      have g0:W1.cell? ⟨wr.heap.size,0,none⟩=some (.string rs[k].rows[j].name):=by rw [hW1]; simp
      have g1:W1.cell? ⟨wr.heap.size,1,none⟩=some (.slice rs[k].rows[j].ad rs[k].rows[j].rows.length rs[k].rows[j].cap):=by rw [hW1]; simp
      have d1:=ak hal hb2 t1;have hb3:b < W1.heap.size:=Nat.lt_trans hb2 hgl;have hb4:b2 < W1.heap.size:=Nat.lt_trans hbb hgl;clear hr2 hok2;go_wp2_with fail;rw [← hW1];clear hW1 t0 q0 q1 hal t1;refine vv (F:=(fun fq=>{ tmps:=List.toArray (Value.slice (some ⟨b,off,none⟩) rs.length cap::undef::u2::.int .i64 k::.int .i64 j::.pointer (some ⟨wr.heap.size,0,none⟩)::undef::undef::undef::undef::.slice (some ⟨b,off,none⟩) rs.length cap::.int .i64 rs.length::.bool (decide (6 < (rs.length:Int)))::.int .i64 k::.slice (some ⟨b,off,none⟩) rs.length cap::.int .i64 rs.length::.bool true::u17::u18::f 0::f 1::f 2::f 3::f 4::f 5::f 6::f 7::f 8::f 9::f 10::f 11::f 12::f 13::f 14::f 15::f 16::f 17::f 18::f 19::f 20::f 21::f 22::f 23::f 24::f 25::f 26::f 27::f 28::f 29::f 30::f 31::f 32::.bool false::.int .i64 j::.slice (some ⟨b,off,none⟩) rs.length cap::.int .i64 k::.pointer (some ⟨b,off + k * 2,none⟩)::.pointer (some ⟨b,off + k * 2 + 1,none⟩)::.slice (some ⟨b2,off2,none⟩) rs[k].rows.length rs[k].cap::.int .i64 rs[k].rows.length::.bool true::u61::u62::.slice (some ⟨b,off,none⟩) rs.length cap::.int .i64 k::.pointer (some ⟨b,off + k * 2,none⟩)::.pointer (some ⟨b,off + k * 2 + 1,none⟩)::.slice (some ⟨b2,off2,none⟩) rs[k].rows.length rs[k].cap::.int .i64 j::.pointer (some ⟨b2,off2 + j * 2,none⟩)::.agg #[.string rs[k].rows[j].name,.slice rs[k].rows[j].ad rs[k].rows[j].rows.length rs[k].rows[j].cap]::fq 0::fq 1::fq 2::fq 3::fq 4::fq 5::fq 6::fq 7::fq 8::fq 9::fq 10::fq 11::fq 12::fq 13::fq 14::fq 15::fq 16::fq 17::fq 18::fq 19::fq 20::fq 21::fq 22::fq 23::fq 24::fq 25::fq 26::fq 27::fq 28::undef::undef::undef::undef::undef::undef::undef::undef::undef::undef::undef::undef::undef::undef::undef::undef::undef::undef::undef::undef::undef::undef::undef::undef::undef::undef::undef::undef::undef::undef::undef::undef::undef::undef::undef::undef::undef::undef::undef::[]),defers:=[] })) (fun fq w'=>Below W1.heap.size W1 w'∧fq 28=.bool false∧kI (dO rs[k].rows) j=true) ?cont12 ?reg12;case cont12 =>
       rintro fq w' ⟨hG,e28,hpre⟩;have HBN:Hid (Below w.heap.size w w'):=HB.out.trans ((HAL.out.mono HB.out.size).trans (hG.mono (Nat.le_trans HB.out.size HAL.out.size)));have HRN:Hid (dN (dO rs[k].rows) (j + 1)=true):=by show _=_; simp only [dN]; rw [HRU.out,hpre]; rfl
       clear hG hpre;rw [e28];go_wp2;go_roundw;case rel=>exact ⟨j + 1,by omega,by go_num,HRN,HBN⟩
       case measure=>simp [intOf] <;> omega
      intro hC;have HC:Hid (∀ f w',_→_):=hC;clear hC;cases hnm:aU rs[k].rows[j].name with
      | false =>
       have HN:Hid (¬ bC (ah rs)):=HBAD2.out j hjl (by rw [HRG.out]; simp [hnm]);refine ax 29 (fun n=>(u71::u72::u73::u74::u75::u76::u77::u78::u79::u80::u81::u82::u83::u84::u85::u86::u87::u88::u89::u90::u91::u92::u93::u94::u95::u96::u97::u98::u99::[]).getD n undef) (fun fq=>{ tmps:=List.toArray (Value.slice (some ⟨b,off,none⟩) rs.length cap::undef::u2::.int .i64 k::.int .i64 j::.pointer (some ⟨wr.heap.size,0,none⟩)::undef::undef::undef::undef::.slice (some ⟨b,off,none⟩) rs.length cap::.int .i64 rs.length::.bool (decide (6 < (rs.length:Int)))::.int .i64 k::.slice (some ⟨b,off,none⟩) rs.length cap::.int .i64 rs.length::.bool true::u17::u18::f 0::f 1::f 2::f 3::f 4::f 5::f 6::f 7::f 8::f 9::f 10::f 11::f 12::f 13::f 14::f 15::f 16::f 17::f 18::f 19::f 20::f 21::f 22::f 23::f 24::f 25::f 26::f 27::f 28::f 29::f 30::f 31::f 32::.bool false::.int .i64 j::.slice (some ⟨b,off,none⟩) rs.length cap::.int .i64 k::.pointer (some ⟨b,off + k * 2,none⟩)::.pointer (some ⟨b,off + k * 2 + 1,none⟩)::.slice (some ⟨b2,off2,none⟩) rs[k].rows.length rs[k].cap::.int .i64 rs[k].rows.length::.bool true::u61::u62::.slice (some ⟨b,off,none⟩) rs.length cap::.int .i64 k::.pointer (some ⟨b,off + k * 2,none⟩)::.pointer (some ⟨b,off + k * 2 + 1,none⟩)::.slice (some ⟨b2,off2,none⟩) rs[k].rows.length rs[k].cap::.int .i64 j::.pointer (some ⟨b2,off2 + j * 2,none⟩)::.agg #[.string rs[k].rows[j].name,.slice rs[k].rows[j].ad rs[k].rows[j].rows.length rs[k].rows[j].cap]::fq 0::fq 1::fq 2::fq 3::fq 4::fq 5::fq 6::fq 7::fq 8::fq 9::fq 10::fq 11::fq 12::fq 13::fq 14::fq 15::fq 16::fq 17::fq 18::fq 19::fq 20::fq 21::fq 22::fq 23::fq 24::fq 25::fq 26::fq 27::fq 28::undef::undef::undef::undef::undef::undef::undef::undef::undef::undef::undef::undef::undef::undef::undef::undef::undef::undef::undef::undef::undef::undef::undef::undef::undef::undef::undef::undef::undef::undef::undef::undef::undef::undef::undef::undef::undef::undef::undef::[]),defers:=[] }) (fun n v _=>v=(Value.pointer (some ⟨wr.heap.size,0,none⟩)::.string rs[k].rows[j].name::.bool false::.bool true::.bool true::undef::undef::undef::undef::undef::undef::undef::undef::undef::undef::undef::undef::undef::undef::undef::undef::undef::.bool true::.bool true::undef::undef::undef::undef::.bool true::[]).getD n undef) (fun w'=>Below W1.heap.size W1 w') (by kernel_rfl) rfl (by kernel_rfl) rfl (Below.refl _ _).drew ?stepA2 ?finA2;case stepA2 =>
        rintro i hi o ho fq w' hG hpre;have HG:Hid (Below W1.heap.size W1 w'):=hG;replace g0:=ak hG hgl g0;replace g1:=ak hG hgl g1;replace d1:=ak hG hb3 d1;have HM:Hid (∀ e ∈ o.after,Region.binds .any e=true→_):=hpre;clear hG hpre;have hc:=ET (i:=i) (by omega);clear hi
        repeat' rcases hc with rfl | hc
        iterate 2
         ·obtain rfl:=Option.some.inj ho;have hm:=HM.out
          try simp [Region.binds] at hm
          refine aa rfl fun K HK=>?_;clear ho HM
          try simp only [hm]
          go_simp;exact HK.out _ _ ⟨_,by simp [upd, *],HG.out,rfl,fun k u hu=>hu⟩
        ·obtain rfl:=Option.some.inj ho;have e1:fq 1=.string rs[k].rows[j].name:=HM.out ⟨1,.data⟩ (by simp) rfl;refine aa rfl fun K HK=>?_;clear ho HM;simp only [e1];go_simp;refine (aD _ _ z1).mono ?_;rintro e w5 ⟨rfl,rfl⟩;rw [hnm];go_wp2_with fail;exact HK.out _ _ ⟨Value.bool false,by simp [upd,e1],HG.out,rfl,fun k u hu=>hu⟩
        iterate 26
         ·obtain rfl:=Option.some.inj ho;have hm:=HM.out
          try simp [Region.binds] at hm
          refine aa rfl fun K HK=>?_;clear ho HM
          try simp only [hm]
          go_simp;exact HK.out _ _ ⟨_,by simp [upd, *],HG.out,rfl,fun k u hu=>hu⟩
       case finA2 =>
        rintro fq w' hG hall;have e28:fq 28=.bool true:=hall 28 (by omega);have HG:Hid (Below W1.heap.size W1 w'):=hG;clear hG hall;rw [e28];go_wp2;go_ret;exact ⟨ag (di HN.out).symm,HB.out.trans ((HAL.out.mono HB.out.size).trans (HG.out.mono (Nat.le_trans HB.out.size HAL.out.size)))⟩
      | true =>
       obtain ⟨ex,hex⟩:∃ ex,ex=aS (au rs[k].rows[j].rows):=⟨_,rfl⟩;have HEX:Hid (ex=aS (au rs[k].rows[j].rows)):=hex;clear hex;by_cases hpos:j=0
       ·have hk0:¬ (0:Int) < (j:Int):=by omega
        have HPV:Hid (qc (dO rs[k].rows) rs[k].rows[j].name j=true):=xk hpos;replace hpos:Hid (j=0):=hpos;refine ax 29 (fun n=>(u71::u72::u73::u74::u75::u76::u77::u78::u79::u80::u81::u82::u83::u84::u85::u86::u87::u88::u89::u90::u91::u92::u93::u94::u95::u96::u97::u98::u99::[]).getD n undef) (fun fq=>{ tmps:=List.toArray (Value.slice (some ⟨b,off,none⟩) rs.length cap::undef::u2::.int .i64 k::.int .i64 j::.pointer (some ⟨wr.heap.size,0,none⟩)::undef::undef::undef::undef::.slice (some ⟨b,off,none⟩) rs.length cap::.int .i64 rs.length::.bool (decide (6 < (rs.length:Int)))::.int .i64 k::.slice (some ⟨b,off,none⟩) rs.length cap::.int .i64 rs.length::.bool true::u17::u18::f 0::f 1::f 2::f 3::f 4::f 5::f 6::f 7::f 8::f 9::f 10::f 11::f 12::f 13::f 14::f 15::f 16::f 17::f 18::f 19::f 20::f 21::f 22::f 23::f 24::f 25::f 26::f 27::f 28::f 29::f 30::f 31::f 32::.bool false::.int .i64 j::.slice (some ⟨b,off,none⟩) rs.length cap::.int .i64 k::.pointer (some ⟨b,off + k * 2,none⟩)::.pointer (some ⟨b,off + k * 2 + 1,none⟩)::.slice (some ⟨b2,off2,none⟩) rs[k].rows.length rs[k].cap::.int .i64 rs[k].rows.length::.bool true::u61::u62::.slice (some ⟨b,off,none⟩) rs.length cap::.int .i64 k::.pointer (some ⟨b,off + k * 2,none⟩)::.pointer (some ⟨b,off + k * 2 + 1,none⟩)::.slice (some ⟨b2,off2,none⟩) rs[k].rows.length rs[k].cap::.int .i64 j::.pointer (some ⟨b2,off2 + j * 2,none⟩)::.agg #[.string rs[k].rows[j].name,.slice rs[k].rows[j].ad rs[k].rows[j].rows.length rs[k].rows[j].cap]::fq 0::fq 1::fq 2::fq 3::fq 4::fq 5::fq 6::fq 7::fq 8::fq 9::fq 10::fq 11::fq 12::fq 13::fq 14::fq 15::fq 16::fq 17::fq 18::fq 19::fq 20::fq 21::fq 22::fq 23::fq 24::fq 25::fq 26::fq 27::fq 28::undef::undef::undef::undef::undef::undef::undef::undef::undef::undef::undef::undef::undef::undef::undef::undef::undef::undef::undef::undef::undef::undef::undef::undef::undef::undef::undef::undef::undef::undef::undef::undef::undef::undef::undef::undef::undef::undef::undef::[]),defers:=[] }) (fun n v _=>v=(Value.pointer (some ⟨wr.heap.size,0,none⟩)::.string rs[k].rows[j].name::.bool true::.bool false::.bool false::.int .i64 j::.bool false::.bool false::undef::undef::undef::undef::undef::undef::undef::undef::undef::undef::undef::undef::undef::.bool false::.bool false::.bool false::.pointer (some ⟨wr.heap.size,1,none⟩)::.slice rs[k].rows[j].ad rs[k].rows[j].rows.length rs[k].rows[j].cap::.bool ex::.bool (!ex)::.bool (!ex)::[]).getD n undef) (fun w'=>Below W1.heap.size W1 w') (by kernel_rfl) rfl (by kernel_rfl) rfl (Below.refl _ _).drew ?stepB2 ?finB2;case stepB2 =>
         rintro i hi o ho fq w' hG hpre;have HG:Hid (Below W1.heap.size W1 w'):=hG;replace g0:=ak hG hgl g0;replace g1:=ak hG hgl g1;replace d1:=ak hG hb3 d1;have HM:Hid (∀ e ∈ o.after,Region.binds .any e=true→_):=hpre;clear hG hpre;have hc:=ET (i:=i) (by omega);clear hi
         repeat' rcases hc with rfl | hc
         iterate 2
          ·obtain rfl:=Option.some.inj ho;have hm:=HM.out
           try simp [Region.binds] at hm
           refine aa rfl fun K HK=>?_;clear ho HM
           try simp only [hm]
           go_simp;exact HK.out _ _ ⟨_,by simp [upd, *],HG.out,rfl,fun k u hu=>hu⟩
         ·obtain rfl:=Option.some.inj ho;have e1:fq 1=.string rs[k].rows[j].name:=HM.out ⟨1,.data⟩ (by simp) rfl;refine aa rfl fun K HK=>?_;clear ho HM;simp only [e1];go_simp;refine (aD _ _ z1).mono ?_;rintro e w5 ⟨rfl,rfl⟩;rw [hnm];go_wp2_with fail;exact HK.out _ _ ⟨Value.bool true,by simp [upd,e1],HG.out,rfl,fun k u hu=>hu⟩
         iterate 3
          ·obtain rfl:=Option.some.inj ho;have hm:=HM.out
           try simp [Region.binds] at hm
           refine aa rfl fun K HK=>?_;clear ho HM
           try simp only [hm]
           go_simp;exact HK.out _ _ ⟨_,by simp [upd, *],HG.out,rfl,fun k u hu=>hu⟩
         ·obtain rfl:=Option.some.inj ho;have e5:fq 5=.int .i64 j:=HM.out ⟨5,.data⟩ (by simp) rfl;have e4:fq 4=.bool false:=HM.out ⟨4,.guard⟩ (by simp) rfl;refine aa rfl fun K HK=>?_;clear ho HM;simp only [e5,e4];go_simp;exact HK.out _ _ ⟨Value.bool false,by simp [upd,e5,e4]; omega,HG.out,rfl,fun k u hu=>hu⟩
         iterate 19
          ·obtain rfl:=Option.some.inj ho;have hm:=HM.out
           try simp [Region.binds] at hm
           refine aa rfl fun K HK=>?_;clear ho HM
           try simp only [hm]
           go_simp;exact HK.out _ _ ⟨_,by simp [upd, *],HG.out,rfl,fun k u hu=>hu⟩
         ·obtain rfl:=Option.some.inj ho;have e25:fq 25=.slice rs[k].rows[j].ad rs[k].rows[j].rows.length rs[k].rows[j].cap:=HM.out ⟨25,.data⟩ (by simp) rfl;have e23:fq 23=.bool false:=HM.out ⟨23,.guard⟩ (by simp) rfl;refine aa rfl fun K HK=>?_;clear ho HM;simp only [e25,e23];go_simp;refine (ik _ _ rs[k].rows[j].rows _ HLG.out.1 HLG.out.2 HFE.out.2.2 (HSE.out.below (HAL.out.trans (HG.out.mono HAL.out.size)))).mono ?_;rintro e w5 ⟨rfl,hb5⟩;have HG5:=gW HG hb5;rw [← HEX.out];clear hb5;go_wp2_with fail;exact HK.out _ _ ⟨Value.bool ex,by simp [upd,e25,e23],HG5.out,rfl,fun k u hu=>hu⟩
         iterate 2
          ·obtain rfl:=Option.some.inj ho;have hm:=HM.out
           try simp [Region.binds] at hm
           refine aa rfl fun K HK=>?_;clear ho HM
           try simp only [hm]
           go_simp;exact HK.out _ _ ⟨_,by simp [upd, *],HG.out,rfl,fun k u hu=>hu⟩
        case finB2 =>
         rintro fq w' hG hall;have e28:fq 28=.bool (!ex):=hall 28 (by omega);have HG:Hid (Below W1.heap.size W1 w'):=hG;clear hG hall;rw [e28];cases ex with
         | false =>
          have HN:Hid (¬ bC (ah rs)):=HBAD2.out j hjl (by rw [HRG.out,← HEX.out]; simp);simp only [Bool.not_false];go_wp2;go_ret;exact ⟨ag (di HN.out).symm,HB.out.trans ((HAL.out.mono HB.out.size).trans (HG.out.mono (Nat.le_trans HB.out.size HAL.out.size)))⟩
         | true =>
          rw [← e28];exact HC.out fq w' ⟨HG.out,by rw [e28]; rfl,by rw [HRG.out,← HEX.out,HPV.out]; simp [*]⟩
       ·obtain ⟨m,hm⟩:∃ m,j=m + 1:=⟨j - 1,by omega⟩;have hml:m < rs[k].rows.length:=by omega
        have hk0:(0:Int) < (j:Int):=by omega
        have hkm:(j:Int) - 1=(m:Int):=by omega
        have hwm:IntKind.i64.wrap (m:Int)=(m:Int):=by rw [IntKind.wrap_i64]; omega
        have hm1:=bR m;have hm2:(m:Int) < (rs[k].rows.length:Int):=by omega
        have tm:=ak HAL.out hbb (HQ.out m hml);have HPV:Hid (qc (dO rs[k].rows) rs[k].rows[j].name j=fD rs[k].rows[m].name rs[k].rows[j].name):=xg hm hml;replace hm:Hid (j=m + 1):=hm;cases hless:Op.bytesLess rs[k].rows[m].name.toList rs[k].rows[j].name.toList with
        | false =>
         have HN:Hid (¬ bC (ah rs)):=HBAD2.out j hjl (by rw [HRG.out,HPV.out]; simp [fD,hless]);refine ax 29 (fun n=>(u71::u72::u73::u74::u75::u76::u77::u78::u79::u80::u81::u82::u83::u84::u85::u86::u87::u88::u89::u90::u91::u92::u93::u94::u95::u96::u97::u98::u99::[]).getD n undef) (fun fq=>{ tmps:=List.toArray (Value.slice (some ⟨b,off,none⟩) rs.length cap::undef::u2::.int .i64 k::.int .i64 j::.pointer (some ⟨wr.heap.size,0,none⟩)::undef::undef::undef::undef::.slice (some ⟨b,off,none⟩) rs.length cap::.int .i64 rs.length::.bool (decide (6 < (rs.length:Int)))::.int .i64 k::.slice (some ⟨b,off,none⟩) rs.length cap::.int .i64 rs.length::.bool true::u17::u18::f 0::f 1::f 2::f 3::f 4::f 5::f 6::f 7::f 8::f 9::f 10::f 11::f 12::f 13::f 14::f 15::f 16::f 17::f 18::f 19::f 20::f 21::f 22::f 23::f 24::f 25::f 26::f 27::f 28::f 29::f 30::f 31::f 32::.bool false::.int .i64 j::.slice (some ⟨b,off,none⟩) rs.length cap::.int .i64 k::.pointer (some ⟨b,off + k * 2,none⟩)::.pointer (some ⟨b,off + k * 2 + 1,none⟩)::.slice (some ⟨b2,off2,none⟩) rs[k].rows.length rs[k].cap::.int .i64 rs[k].rows.length::.bool true::u61::u62::.slice (some ⟨b,off,none⟩) rs.length cap::.int .i64 k::.pointer (some ⟨b,off + k * 2,none⟩)::.pointer (some ⟨b,off + k * 2 + 1,none⟩)::.slice (some ⟨b2,off2,none⟩) rs[k].rows.length rs[k].cap::.int .i64 j::.pointer (some ⟨b2,off2 + j * 2,none⟩)::.agg #[.string rs[k].rows[j].name,.slice rs[k].rows[j].ad rs[k].rows[j].rows.length rs[k].rows[j].cap]::fq 0::fq 1::fq 2::fq 3::fq 4::fq 5::fq 6::fq 7::fq 8::fq 9::fq 10::fq 11::fq 12::fq 13::fq 14::fq 15::fq 16::fq 17::fq 18::fq 19::fq 20::fq 21::fq 22::fq 23::fq 24::fq 25::fq 26::fq 27::fq 28::undef::undef::undef::undef::undef::undef::undef::undef::undef::undef::undef::undef::undef::undef::undef::undef::undef::undef::undef::undef::undef::undef::undef::undef::undef::undef::undef::undef::undef::undef::undef::undef::undef::undef::undef::undef::undef::undef::undef::[]),defers:=[] }) (fun n v _=>v=(Value.pointer (some ⟨wr.heap.size,0,none⟩)::.string rs[k].rows[j].name::.bool true::.bool false::.bool false::.int .i64 j::.bool true::.bool true::.slice (some ⟨b,off,none⟩) rs.length cap::.int .i64 k::.pointer (some ⟨b,off + k * 2,none⟩)::.pointer (some ⟨b,off + k * 2 + 1,none⟩)::.slice (some ⟨b2,off2,none⟩) rs[k].rows.length rs[k].cap::.int .i64 j::.int .i64 (m:Int)::.pointer (some ⟨b2,off2 + m * 2,none⟩)::.pointer (some ⟨b2,off2 + m * 2,none⟩)::.string rs[k].rows[m].name::.pointer (some ⟨wr.heap.size,0,none⟩)::.string rs[k].rows[j].name::.bool true::.bool true::.bool true::.bool true::undef::undef::undef::undef::.bool true::[]).getD n undef) (fun w'=>Below W1.heap.size W1 w') (by kernel_rfl) rfl (by kernel_rfl) rfl (Below.refl _ _).drew ?stepC2 ?finC2;case stepC2 =>
          rintro i hi o ho fq w' hG hpre;have HG:Hid (Below W1.heap.size W1 w'):=hG;replace g0:=ak hG hgl g0;replace g1:=ak hG hgl g1;replace d1:=ak hG hb3 d1;replace tm:=ak hG hb4 tm;have HM:Hid (∀ e ∈ o.after,Region.binds .any e=true→_):=hpre;clear hG hpre;have hc:=ET (i:=i) (by omega);clear hi
          repeat' rcases hc with rfl | hc
          iterate 2
           ·obtain rfl:=Option.some.inj ho;have hm:=HM.out
            try simp [Region.binds] at hm
            refine aa rfl fun K HK=>?_;clear ho HM
            try simp only [hm]
            go_simp;exact HK.out _ _ ⟨_,by simp [upd, *],HG.out,rfl,fun k u hu=>hu⟩
          ·obtain rfl:=Option.some.inj ho;have e1:fq 1=.string rs[k].rows[j].name:=HM.out ⟨1,.data⟩ (by simp) rfl;refine aa rfl fun K HK=>?_;clear ho HM;simp only [e1];go_simp;refine (aD _ _ z1).mono ?_;rintro e w5 ⟨rfl,rfl⟩;rw [hnm];go_wp2_with fail;exact HK.out _ _ ⟨Value.bool true,by simp [upd,e1],HG.out,rfl,fun k u hu=>hu⟩
          iterate 3
           ·obtain rfl:=Option.some.inj ho;have hm:=HM.out
            try simp [Region.binds] at hm
            refine aa rfl fun K HK=>?_;clear ho HM
            try simp only [hm]
            go_simp;exact HK.out _ _ ⟨_,by simp [upd, *],HG.out,rfl,fun k u hu=>hu⟩
          ·obtain rfl:=Option.some.inj ho;have e5:fq 5=.int .i64 j:=HM.out ⟨5,.data⟩ (by simp) rfl;have e4:fq 4=.bool false:=HM.out ⟨4,.guard⟩ (by simp) rfl;refine aa rfl fun K HK=>?_;clear ho HM;simp only [e5,e4];go_simp;exact HK.out _ _ ⟨Value.bool true,by simp [upd,e5,e4]; omega,HG.out,rfl,fun k u hu=>hu⟩
          iterate 22
           ·obtain rfl:=Option.some.inj ho;have hm:=HM.out
            try simp [Region.binds] at hm
            refine aa rfl fun K HK=>?_;clear ho HM
            try simp only [hm]
            go_simp;exact HK.out _ _ ⟨_,by simp [upd, *],HG.out,rfl,fun k u hu=>hu⟩
         case finC2 =>
          rintro fq w' hG hall;have e28:fq 28=.bool true:=hall 28 (by omega);have HG:Hid (Below W1.heap.size W1 w'):=hG;clear hG hall;rw [e28];go_wp2;go_ret;exact ⟨ag (di HN.out).symm,HB.out.trans ((HAL.out.mono HB.out.size).trans (HG.out.mono (Nat.le_trans HB.out.size HAL.out.size)))⟩
        | true =>
         refine ax 29 (fun n=>(u71::u72::u73::u74::u75::u76::u77::u78::u79::u80::u81::u82::u83::u84::u85::u86::u87::u88::u89::u90::u91::u92::u93::u94::u95::u96::u97::u98::u99::[]).getD n undef) (fun fq=>{ tmps:=List.toArray (Value.slice (some ⟨b,off,none⟩) rs.length cap::undef::u2::.int .i64 k::.int .i64 j::.pointer (some ⟨wr.heap.size,0,none⟩)::undef::undef::undef::undef::.slice (some ⟨b,off,none⟩) rs.length cap::.int .i64 rs.length::.bool (decide (6 < (rs.length:Int)))::.int .i64 k::.slice (some ⟨b,off,none⟩) rs.length cap::.int .i64 rs.length::.bool true::u17::u18::f 0::f 1::f 2::f 3::f 4::f 5::f 6::f 7::f 8::f 9::f 10::f 11::f 12::f 13::f 14::f 15::f 16::f 17::f 18::f 19::f 20::f 21::f 22::f 23::f 24::f 25::f 26::f 27::f 28::f 29::f 30::f 31::f 32::.bool false::.int .i64 j::.slice (some ⟨b,off,none⟩) rs.length cap::.int .i64 k::.pointer (some ⟨b,off + k * 2,none⟩)::.pointer (some ⟨b,off + k * 2 + 1,none⟩)::.slice (some ⟨b2,off2,none⟩) rs[k].rows.length rs[k].cap::.int .i64 rs[k].rows.length::.bool true::u61::u62::.slice (some ⟨b,off,none⟩) rs.length cap::.int .i64 k::.pointer (some ⟨b,off + k * 2,none⟩)::.pointer (some ⟨b,off + k * 2 + 1,none⟩)::.slice (some ⟨b2,off2,none⟩) rs[k].rows.length rs[k].cap::.int .i64 j::.pointer (some ⟨b2,off2 + j * 2,none⟩)::.agg #[.string rs[k].rows[j].name,.slice rs[k].rows[j].ad rs[k].rows[j].rows.length rs[k].rows[j].cap]::fq 0::fq 1::fq 2::fq 3::fq 4::fq 5::fq 6::fq 7::fq 8::fq 9::fq 10::fq 11::fq 12::fq 13::fq 14::fq 15::fq 16::fq 17::fq 18::fq 19::fq 20::fq 21::fq 22::fq 23::fq 24::fq 25::fq 26::fq 27::fq 28::undef::undef::undef::undef::undef::undef::undef::undef::undef::undef::undef::undef::undef::undef::undef::undef::undef::undef::undef::undef::undef::undef::undef::undef::undef::undef::undef::undef::undef::undef::undef::undef::undef::undef::undef::undef::undef::undef::undef::[]),defers:=[] }) (fun n v _=>v=(Value.pointer (some ⟨wr.heap.size,0,none⟩)::.string rs[k].rows[j].name::.bool true::.bool false::.bool false::.int .i64 j::.bool true::.bool true::.slice (some ⟨b,off,none⟩) rs.length cap::.int .i64 k::.pointer (some ⟨b,off + k * 2,none⟩)::.pointer (some ⟨b,off + k * 2 + 1,none⟩)::.slice (some ⟨b2,off2,none⟩) rs[k].rows.length rs[k].cap::.int .i64 j::.int .i64 (m:Int)::.pointer (some ⟨b2,off2 + m * 2,none⟩)::.pointer (some ⟨b2,off2 + m * 2,none⟩)::.string rs[k].rows[m].name::.pointer (some ⟨wr.heap.size,0,none⟩)::.string rs[k].rows[j].name::.bool false::.bool false::.bool false::.bool false::.pointer (some ⟨wr.heap.size,1,none⟩)::.slice rs[k].rows[j].ad rs[k].rows[j].rows.length rs[k].rows[j].cap::.bool ex::.bool (!ex)::.bool (!ex)::[]).getD n undef) (fun w'=>Below W1.heap.size W1 w') (by kernel_rfl) rfl (by kernel_rfl) rfl (Below.refl _ _).drew ?stepD2 ?finD2;case stepD2 =>
          rintro i hi o ho fq w' hG hpre;have HG:Hid (Below W1.heap.size W1 w'):=hG;replace g0:=ak hG hgl g0;replace g1:=ak hG hgl g1;replace d1:=ak hG hb3 d1;replace tm:=ak hG hb4 tm;have HM:Hid (∀ e ∈ o.after,Region.binds .any e=true→_):=hpre;clear hG hpre;have hc:=ET (i:=i) (by omega);clear hi
          repeat' rcases hc with rfl | hc
          iterate 2
           ·obtain rfl:=Option.some.inj ho;have hm:=HM.out
            try simp [Region.binds] at hm
            refine aa rfl fun K HK=>?_;clear ho HM
            try simp only [hm]
            go_simp;exact HK.out _ _ ⟨_,by simp [upd, *],HG.out,rfl,fun k u hu=>hu⟩
          ·obtain rfl:=Option.some.inj ho;have e1:fq 1=.string rs[k].rows[j].name:=HM.out ⟨1,.data⟩ (by simp) rfl;refine aa rfl fun K HK=>?_;clear ho HM;simp only [e1];go_simp;refine (aD _ _ z1).mono ?_;rintro e w5 ⟨rfl,rfl⟩;rw [hnm];go_wp2_with fail;exact HK.out _ _ ⟨Value.bool true,by simp [upd,e1],HG.out,rfl,fun k u hu=>hu⟩
          iterate 3
           ·obtain rfl:=Option.some.inj ho;have hm:=HM.out
            try simp [Region.binds] at hm
            refine aa rfl fun K HK=>?_;clear ho HM
            try simp only [hm]
            go_simp;exact HK.out _ _ ⟨_,by simp [upd, *],HG.out,rfl,fun k u hu=>hu⟩
          ·obtain rfl:=Option.some.inj ho;have e5:fq 5=.int .i64 j:=HM.out ⟨5,.data⟩ (by simp) rfl;have e4:fq 4=.bool false:=HM.out ⟨4,.guard⟩ (by simp) rfl;refine aa rfl fun K HK=>?_;clear ho HM;simp only [e5,e4];go_simp;exact HK.out _ _ ⟨Value.bool true,by simp [upd,e5,e4]; omega,HG.out,rfl,fun k u hu=>hu⟩
          iterate 19
           ·obtain rfl:=Option.some.inj ho;have hm:=HM.out
            try simp [Region.binds] at hm
            refine aa rfl fun K HK=>?_;clear ho HM
            try simp only [hm]
            go_simp;exact HK.out _ _ ⟨_,by simp [upd, *],HG.out,rfl,fun k u hu=>hu⟩
          ·obtain rfl:=Option.some.inj ho;have e25:fq 25=.slice rs[k].rows[j].ad rs[k].rows[j].rows.length rs[k].rows[j].cap:=HM.out ⟨25,.data⟩ (by simp) rfl;have e23:fq 23=.bool false:=HM.out ⟨23,.guard⟩ (by simp) rfl;refine aa rfl fun K HK=>?_;clear ho HM;simp only [e25,e23];go_simp;refine (ik _ _ rs[k].rows[j].rows _ HLG.out.1 HLG.out.2 HFE.out.2.2 (HSE.out.below (HAL.out.trans (HG.out.mono HAL.out.size)))).mono ?_;rintro e w5 ⟨rfl,hb5⟩;have HG5:=gW HG hb5;rw [← HEX.out];clear hb5;go_wp2_with fail;exact HK.out _ _ ⟨Value.bool ex,by simp [upd,e25,e23],HG5.out,rfl,fun k u hu=>hu⟩
          iterate 2
           ·obtain rfl:=Option.some.inj ho;have hm:=HM.out
            try simp [Region.binds] at hm
            refine aa rfl fun K HK=>?_;clear ho HM
            try simp only [hm]
            go_simp;exact HK.out _ _ ⟨_,by simp [upd, *],HG.out,rfl,fun k u hu=>hu⟩
         case finD2 =>
          rintro fq w' hG hall;have e28:fq 28=.bool (!ex):=hall 28 (by omega);have HG:Hid (Below W1.heap.size W1 w'):=hG;clear hG hall;rw [e28];cases ex with
          | false =>
           have HN:Hid (¬ bC (ah rs)):=HBAD2.out j hjl (by rw [HRG.out,← HEX.out]; simp);simp only [Bool.not_false];go_wp2;go_ret;exact ⟨ag (di HN.out).symm,HB.out.trans ((HAL.out.mono HB.out.size).trans (HG.out.mono (Nat.le_trans HB.out.size HAL.out.size)))⟩
          | true =>
           rw [← e28];exact HC.out fq w' ⟨HG.out,by rw [e28]; rfl,by rw [HRG.out,← HEX.out,HPV.out]; simp [fD, *]⟩
     ·obtain rfl:j=rs[k].rows.length:=by omega
      have HTU:Hid (iw (ah rs) (k + 1)=true):=by show _=_; simp only [iw]; rw [HP.out,HPRE.out,HRU.out]; rfl
      go_wp2;go_roundw;case rel=>exact ⟨k + 1,by omega,by go_num,HTU,HB⟩
      case measure=>simp [intOf] <;> omega
   intro hC;have HC:Hid (∀ f w',_→_):=hC;clear hC;cases hnm:aU rs[k].name with
   | false =>
    have HN:Hid (¬ bC (ah rs)):=HBAD.out (by rw [HTH.out]; simp [hnm]);refine ax 34 (fun n=>(u19::u20::u21::u22::u23::u24::u25::u26::u27::u28::u29::u30::u31::u32::u33::u34::u35::u36::u37::u38::u39::u40::u41::u42::u43::u44::u45::u46::u47::u48::u49::u50::u51::u52::[]).getD n undef) (fun f=>{ tmps:=List.toArray (Value.slice (some ⟨b,off,none⟩) rs.length cap::undef::u2::.int .i64 k::u4::u5::undef::undef::undef::undef::.slice (some ⟨b,off,none⟩) rs.length cap::.int .i64 rs.length::.bool (decide (6 < (rs.length:Int)))::.int .i64 k::.slice (some ⟨b,off,none⟩) rs.length cap::.int .i64 rs.length::.bool true::u17::u18::f 0::f 1::f 2::f 3::f 4::f 5::f 6::f 7::f 8::f 9::f 10::f 11::f 12::f 13::f 14::f 15::f 16::f 17::f 18::f 19::f 20::f 21::f 22::f 23::f 24::f 25::f 26::f 27::f 28::f 29::f 30::f 31::f 32::f 33::u53::u54::u55::u56::u57::u58::u59::u60::u61::u62::u63::u64::u65::u66::u67::u68::u69::u70::u71::u72::u73::u74::u75::u76::u77::u78::u79::u80::u81::u82::u83::u84::u85::u86::u87::u88::u89::u90::u91::u92::u93::u94::u95::u96::u97::u98::u99::undef::undef::undef::undef::undef::undef::undef::undef::undef::undef::undef::undef::undef::undef::undef::undef::undef::undef::undef::undef::undef::undef::undef::undef::undef::undef::undef::undef::undef::undef::undef::undef::undef::undef::undef::undef::undef::undef::undef::[]),defers:=[] }) (fun n v _=>v=(Value.slice (some ⟨b,off,none⟩) rs.length cap::.int .i64 k::.pointer (some ⟨b,off + k * 2,none⟩)::.pointer (some ⟨b,off + k * 2,none⟩)::.string rs[k].name::.bool false::.bool true::.bool true::undef::undef::undef::undef::undef::undef::undef::undef::undef::undef::undef::undef::undef::undef::undef::undef::.bool true::.bool true::undef::undef::undef::undef::undef::undef::undef::.bool true::[]).getD n undef) (fun w'=>Below wr.heap.size wr w') (by kernel_rfl) rfl (by kernel_rfl) rfl (Below.refl _ _).drew ?stepA ?finA;case stepA =>
     rintro i hi o ho f w' hG hpre;have HG:Hid (Below wr.heap.size wr w'):=hG;replace t0:=ak hG hb t0;replace t1:=ak hG hb t1;have HM:Hid (∀ e ∈ o.after,Region.binds .any e=true→_):=hpre;clear hG hpre;have hc:=EU (i:=i) (by omega);clear hi
     repeat' rcases hc with rfl | hc
     iterate 5
      ·obtain rfl:=Option.some.inj ho;have hm:=HM.out
       try simp [Region.binds] at hm
       refine aa rfl fun K HK=>?_;clear ho HM
       try simp only [hm]
       go_simp;exact HK.out _ _ ⟨_,by simp [upd, *],HG.out,rfl,fun k u hu=>hu⟩
     ·obtain rfl:=Option.some.inj ho;have e4:f 4=Value.string rs[k].name:=HM.out ⟨4,.data⟩ (by simp) rfl;refine aa rfl fun K HK=>?_;clear ho HM;simp only [e4];go_simp;refine (aD _ _ z0).mono ?_;rintro e w5 ⟨rfl,rfl⟩;rw [hnm];go_wp2_with fail;exact HK.out _ _ ⟨Value.bool false,by simp [upd,e4],HG.out,rfl,fun k u hu=>hu⟩
     iterate 28
      ·obtain rfl:=Option.some.inj ho;have hm:=HM.out
       try simp [Region.binds] at hm
       refine aa rfl fun K HK=>?_;clear ho HM
       try simp only [hm]
       go_simp;exact HK.out _ _ ⟨_,by simp [upd, *],HG.out,rfl,fun k u hu=>hu⟩
    case finA =>
     rintro f w' hG hall;have e33:f 33=Value.bool true:=hall 33 (by omega);have HG:Hid (Below wr.heap.size wr w'):=hG;clear hG hall;rw [e33];go_wp2;go_ret;exact ⟨ag (di HN.out).symm,HB.out.trans (HG.out.mono HB.out.size)⟩
   | true =>
    obtain ⟨gt,hgt⟩:∃ gt,gt=decide (6 < (rs[k].rows.length:Int)):=⟨_,rfl⟩;have HGT:Hid (decide (rs[k].rows.length≤6)=!gt):=by show _=_; rw [hgt]; by_cases h:rs[k].rows.length≤6 <;> simp [h] <;> omega
    replace hgt:=hgt.symm;by_cases hpos:k=0
    ·have hk0:¬ (0:Int) < (k:Int):=by omega
     have HPV:Hid (pY (ah rs) rs[k].name k=true):=xh hpos;have hk0':decide ((0:Int) < (k:Int))=false:=by simpa using hk0
     replace hpos:Hid (k=0):=hpos;refine ax 34 (fun n=>(u19::u20::u21::u22::u23::u24::u25::u26::u27::u28::u29::u30::u31::u32::u33::u34::u35::u36::u37::u38::u39::u40::u41::u42::u43::u44::u45::u46::u47::u48::u49::u50::u51::u52::[]).getD n undef) (fun f=>{ tmps:=List.toArray (Value.slice (some ⟨b,off,none⟩) rs.length cap::undef::u2::.int .i64 k::u4::u5::undef::undef::undef::undef::.slice (some ⟨b,off,none⟩) rs.length cap::.int .i64 rs.length::.bool (decide (6 < (rs.length:Int)))::.int .i64 k::.slice (some ⟨b,off,none⟩) rs.length cap::.int .i64 rs.length::.bool true::u17::u18::f 0::f 1::f 2::f 3::f 4::f 5::f 6::f 7::f 8::f 9::f 10::f 11::f 12::f 13::f 14::f 15::f 16::f 17::f 18::f 19::f 20::f 21::f 22::f 23::f 24::f 25::f 26::f 27::f 28::f 29::f 30::f 31::f 32::f 33::u53::u54::u55::u56::u57::u58::u59::u60::u61::u62::u63::u64::u65::u66::u67::u68::u69::u70::u71::u72::u73::u74::u75::u76::u77::u78::u79::u80::u81::u82::u83::u84::u85::u86::u87::u88::u89::u90::u91::u92::u93::u94::u95::u96::u97::u98::u99::undef::undef::undef::undef::undef::undef::undef::undef::undef::undef::undef::undef::undef::undef::undef::undef::undef::undef::undef::undef::undef::undef::undef::undef::undef::undef::undef::undef::undef::undef::undef::undef::undef::undef::undef::undef::undef::undef::undef::[]),defers:=[] }) (fun n v _=>v=(Value.slice (some ⟨b,off,none⟩) rs.length cap::.int .i64 k::.pointer (some ⟨b,off + k * 2,none⟩)::.pointer (some ⟨b,off + k * 2,none⟩)::.string rs[k].name::.bool true::.bool false::.bool false::.int .i64 k::.bool false::.bool false::undef::undef::undef::undef::undef::undef::undef::undef::undef::undef::undef::undef::.bool false::.bool false::.bool false::.slice (some ⟨b,off,none⟩) rs.length cap::.int .i64 k::.pointer (some ⟨b,off + k * 2,none⟩)::.pointer (some ⟨b,off + k * 2 + 1,none⟩)::.slice rs[k].ad rs[k].rows.length rs[k].cap::.int .i64 (rs[k].rows.length:Int)::.bool gt::.bool gt::[]).getD n undef) (fun w'=>Below wr.heap.size wr w') (by kernel_rfl) rfl (by kernel_rfl) rfl (Below.refl _ _).drew ?jI ?finB;case jI =>
      rintro i hi o ho f w' hG hpre;have HG:Hid (Below wr.heap.size wr w'):=hG;replace t0:=ak hG hb t0;replace t1:=ak hG hb t1;have HM:Hid (∀ e ∈ o.after,Region.binds .any e=true→_):=hpre;clear hG hpre;have hc:=EU (i:=i) (by omega);clear hi
      repeat' rcases hc with rfl | hc
      iterate 5
       ·obtain rfl:=Option.some.inj ho;have hm:=HM.out
        try simp [Region.binds] at hm
        refine aa rfl fun K HK=>?_;clear ho HM
        try simp only [hm]
        go_simp;exact HK.out _ _ ⟨_,by simp [upd, *],HG.out,rfl,fun k u hu=>hu⟩
      ·obtain rfl:=Option.some.inj ho;have e4:f 4=Value.string rs[k].name:=HM.out ⟨4,.data⟩ (by simp) rfl;refine aa rfl fun K HK=>?_;clear ho HM;simp only [e4];go_simp;refine (aD _ _ z0).mono ?_;rintro e w5 ⟨rfl,rfl⟩;rw [hnm];go_wp2_with fail;exact HK.out _ _ ⟨Value.bool true,by simp [upd,e4],HG.out,rfl,fun k u hu=>hu⟩
      iterate 3
       ·obtain rfl:=Option.some.inj ho;have hm:=HM.out
        try simp [Region.binds] at hm
        refine aa rfl fun K HK=>?_;clear ho HM
        try simp only [hm]
        go_simp;exact HK.out _ _ ⟨_,by simp [upd, *],HG.out,rfl,fun k u hu=>hu⟩
      ·obtain rfl:=Option.some.inj ho;have e8:f 8=Value.int .i64 k:=HM.out ⟨8,.data⟩ (by simp) rfl;have e7:f 7=Value.bool false:=HM.out ⟨7,.guard⟩ (by simp) rfl;refine aa rfl fun K HK=>?_;clear ho HM;simp only [e8,e7];go_simp;exact HK.out _ _ ⟨Value.bool false,by simp [upd,e8,e7]; omega,HG.out,rfl,fun k u hu=>hu⟩
      iterate 24
       ·obtain rfl:=Option.some.inj ho;have hm:=HM.out
        try simp [Region.binds] at hm
        refine aa rfl fun K HK=>?_;clear ho HM
        try simp only [hm]
        go_simp;exact HK.out _ _ ⟨_,by simp [upd, *],HG.out,rfl,fun k u hu=>hu⟩
     case finB =>
      rintro f w' hG hall;have e33:f 33=Value.bool gt:=hall 33 (by omega);have HG:Hid (Below wr.heap.size wr w'):=hG;clear hG hall;clear hgt;rw [e33];cases gt with
      | true =>
       have HN:Hid (¬ bC (ah rs)):=HBAD.out (by rw [HTH.out,HPV.out]; simp [HGT.out]);go_wp2;go_ret;exact ⟨ag (di HN.out).symm,HB.out.trans (HG.out.mono HB.out.size)⟩
      | false =>
       rw [← e33];exact HC.out f w' ⟨HG.out,e33,by rw [HTH.out,HPV.out]; simp [HGT.out, *]⟩
    ·obtain ⟨m,hm⟩:∃ m,k=m + 1:=⟨k - 1,by omega⟩;have hml:m < rs.length:=by omega
     have hk0:(0:Int) < (k:Int):=by omega
     have hkm:(k:Int) - 1=(m:Int):=by omega
     have hwm:IntKind.i64.wrap (m:Int)=(m:Int):=by rw [IntKind.wrap_i64]; omega
     have hm1:=bR m;have hm2:(m:Int) < (rs.length:Int):=by omega
     have tm:=HTP.out m hml;have HPV:Hid (pY (ah rs) rs[k].name k=fD rs[m].name rs[k].name):=xe hm hml;replace hm:Hid (k=m + 1):=hm;cases hless:Op.bytesLess rs[m].name.toList rs[k].name.toList with
     | false =>
      have HN:Hid (¬ bC (ah rs)):=HBAD.out (by rw [HTH.out,HPV.out]; simp [fD,hless]);refine ax 34 (fun n=>(u19::u20::u21::u22::u23::u24::u25::u26::u27::u28::u29::u30::u31::u32::u33::u34::u35::u36::u37::u38::u39::u40::u41::u42::u43::u44::u45::u46::u47::u48::u49::u50::u51::u52::[]).getD n undef) (fun f=>{ tmps:=List.toArray (Value.slice (some ⟨b,off,none⟩) rs.length cap::undef::u2::.int .i64 k::u4::u5::undef::undef::undef::undef::.slice (some ⟨b,off,none⟩) rs.length cap::.int .i64 rs.length::.bool (decide (6 < (rs.length:Int)))::.int .i64 k::.slice (some ⟨b,off,none⟩) rs.length cap::.int .i64 rs.length::.bool true::u17::u18::f 0::f 1::f 2::f 3::f 4::f 5::f 6::f 7::f 8::f 9::f 10::f 11::f 12::f 13::f 14::f 15::f 16::f 17::f 18::f 19::f 20::f 21::f 22::f 23::f 24::f 25::f 26::f 27::f 28::f 29::f 30::f 31::f 32::f 33::u53::u54::u55::u56::u57::u58::u59::u60::u61::u62::u63::u64::u65::u66::u67::u68::u69::u70::u71::u72::u73::u74::u75::u76::u77::u78::u79::u80::u81::u82::u83::u84::u85::u86::u87::u88::u89::u90::u91::u92::u93::u94::u95::u96::u97::u98::u99::undef::undef::undef::undef::undef::undef::undef::undef::undef::undef::undef::undef::undef::undef::undef::undef::undef::undef::undef::undef::undef::undef::undef::undef::undef::undef::undef::undef::undef::undef::undef::undef::undef::undef::undef::undef::undef::undef::undef::[]),defers:=[] }) (fun n v _=>v=(Value.slice (some ⟨b,off,none⟩) rs.length cap::.int .i64 k::.pointer (some ⟨b,off + k * 2,none⟩)::.pointer (some ⟨b,off + k * 2,none⟩)::.string rs[k].name::.bool true::.bool false::.bool false::.int .i64 k::.bool true::.bool true::.slice (some ⟨b,off,none⟩) rs.length cap::.int .i64 k::.int .i64 (m:Int)::.pointer (some ⟨b,off + m * 2,none⟩)::.pointer (some ⟨b,off + m * 2,none⟩)::.string rs[m].name::.slice (some ⟨b,off,none⟩) rs.length cap::.int .i64 k::.pointer (some ⟨b,off + k * 2,none⟩)::.pointer (some ⟨b,off + k * 2,none⟩)::.string rs[k].name::.bool true::.bool true::.bool true::.bool true::undef::undef::undef::undef::undef::undef::undef::.bool true::[]).getD n undef) (fun w'=>Below wr.heap.size wr w') (by kernel_rfl) rfl (by kernel_rfl) rfl (Below.refl _ _).drew ?stepC ?finC;case stepC =>
       rintro i hi o ho f w' hG hpre;have HG:Hid (Below wr.heap.size wr w'):=hG;replace t0:=ak hG hb t0;replace t1:=ak hG hb t1;replace tm:=ak hG hb tm;have HM:Hid (∀ e ∈ o.after,Region.binds .any e=true→_):=hpre;clear hG hpre;have hc:=EU (i:=i) (by omega);clear hi
       repeat' rcases hc with rfl | hc
       iterate 5
        ·obtain rfl:=Option.some.inj ho;have hm:=HM.out
         try simp [Region.binds] at hm
         refine aa rfl fun K HK=>?_;clear ho HM
         try simp only [hm]
         go_simp;exact HK.out _ _ ⟨_,by simp [upd, *],HG.out,rfl,fun k u hu=>hu⟩
       ·obtain rfl:=Option.some.inj ho;have e4:f 4=Value.string rs[k].name:=HM.out ⟨4,.data⟩ (by simp) rfl;refine aa rfl fun K HK=>?_;clear ho HM;simp only [e4];go_simp;refine (aD _ _ z0).mono ?_;rintro e w5 ⟨rfl,rfl⟩;rw [hnm];go_wp2_with fail;exact HK.out _ _ ⟨Value.bool true,by simp [upd,e4],HG.out,rfl,fun k u hu=>hu⟩
       iterate 3
        ·obtain rfl:=Option.some.inj ho;have hm:=HM.out
         try simp [Region.binds] at hm
         refine aa rfl fun K HK=>?_;clear ho HM
         try simp only [hm]
         go_simp;exact HK.out _ _ ⟨_,by simp [upd, *],HG.out,rfl,fun k u hu=>hu⟩
       ·obtain rfl:=Option.some.inj ho;have e8:f 8=Value.int .i64 k:=HM.out ⟨8,.data⟩ (by simp) rfl;have e7:f 7=Value.bool false:=HM.out ⟨7,.guard⟩ (by simp) rfl;refine aa rfl fun K HK=>?_;clear ho HM;simp only [e8,e7];go_simp;exact HK.out _ _ ⟨Value.bool true,by simp [upd,e8,e7]; omega,HG.out,rfl,fun k u hu=>hu⟩
       iterate 24
        ·obtain rfl:=Option.some.inj ho;have hm:=HM.out
         try simp [Region.binds] at hm
         refine aa rfl fun K HK=>?_;clear ho HM
         try simp only [hm]
         go_simp;exact HK.out _ _ ⟨_,by simp [upd, *],HG.out,rfl,fun k u hu=>hu⟩
      case finC =>
       rintro f w' hG hall;have e33:f 33=Value.bool true:=hall 33 (by omega);have HG:Hid (Below wr.heap.size wr w'):=hG;clear hG hall;clear hgt;rw [e33];go_wp2;go_ret;exact ⟨ag (di HN.out).symm,HB.out.trans (HG.out.mono HB.out.size)⟩
     | true =>
      refine ax 34 (fun n=>(u19::u20::u21::u22::u23::u24::u25::u26::u27::u28::u29::u30::u31::u32::u33::u34::u35::u36::u37::u38::u39::u40::u41::u42::u43::u44::u45::u46::u47::u48::u49::u50::u51::u52::[]).getD n undef) (fun f=>{ tmps:=List.toArray (Value.slice (some ⟨b,off,none⟩) rs.length cap::undef::u2::.int .i64 k::u4::u5::undef::undef::undef::undef::.slice (some ⟨b,off,none⟩) rs.length cap::.int .i64 rs.length::.bool (decide (6 < (rs.length:Int)))::.int .i64 k::.slice (some ⟨b,off,none⟩) rs.length cap::.int .i64 rs.length::.bool true::u17::u18::f 0::f 1::f 2::f 3::f 4::f 5::f 6::f 7::f 8::f 9::f 10::f 11::f 12::f 13::f 14::f 15::f 16::f 17::f 18::f 19::f 20::f 21::f 22::f 23::f 24::f 25::f 26::f 27::f 28::f 29::f 30::f 31::f 32::f 33::u53::u54::u55::u56::u57::u58::u59::u60::u61::u62::u63::u64::u65::u66::u67::u68::u69::u70::u71::u72::u73::u74::u75::u76::u77::u78::u79::u80::u81::u82::u83::u84::u85::u86::u87::u88::u89::u90::u91::u92::u93::u94::u95::u96::u97::u98::u99::undef::undef::undef::undef::undef::undef::undef::undef::undef::undef::undef::undef::undef::undef::undef::undef::undef::undef::undef::undef::undef::undef::undef::undef::undef::undef::undef::undef::undef::undef::undef::undef::undef::undef::undef::undef::undef::undef::undef::[]),defers:=[] }) (fun n v _=>v=(Value.slice (some ⟨b,off,none⟩) rs.length cap::.int .i64 k::.pointer (some ⟨b,off + k * 2,none⟩)::.pointer (some ⟨b,off + k * 2,none⟩)::.string rs[k].name::.bool true::.bool false::.bool false::.int .i64 k::.bool true::.bool true::.slice (some ⟨b,off,none⟩) rs.length cap::.int .i64 k::.int .i64 (m:Int)::.pointer (some ⟨b,off + m * 2,none⟩)::.pointer (some ⟨b,off + m * 2,none⟩)::.string rs[m].name::.slice (some ⟨b,off,none⟩) rs.length cap::.int .i64 k::.pointer (some ⟨b,off + k * 2,none⟩)::.pointer (some ⟨b,off + k * 2,none⟩)::.string rs[k].name::.bool false::.bool false::.bool false::.bool false::.slice (some ⟨b,off,none⟩) rs.length cap::.int .i64 k::.pointer (some ⟨b,off + k * 2,none⟩)::.pointer (some ⟨b,off + k * 2 + 1,none⟩)::.slice rs[k].ad rs[k].rows.length rs[k].cap::.int .i64 (rs[k].rows.length:Int)::.bool gt::.bool gt::[]).getD n undef) (fun w'=>Below wr.heap.size wr w') (by kernel_rfl) rfl (by kernel_rfl) rfl (Below.refl _ _).drew ?stepD ?finD;case stepD =>
       rintro i hi o ho f w' hG hpre;have HG:Hid (Below wr.heap.size wr w'):=hG;replace t0:=ak hG hb t0;replace t1:=ak hG hb t1;replace tm:=ak hG hb tm;have HM:Hid (∀ e ∈ o.after,Region.binds .any e=true→_):=hpre;clear hG hpre;have hc:=EU (i:=i) (by omega);clear hi
       repeat' rcases hc with rfl | hc
       iterate 5
        ·obtain rfl:=Option.some.inj ho;have hm:=HM.out
         try simp [Region.binds] at hm
         refine aa rfl fun K HK=>?_;clear ho HM
         try simp only [hm]
         go_simp;exact HK.out _ _ ⟨_,by simp [upd, *],HG.out,rfl,fun k u hu=>hu⟩
       ·obtain rfl:=Option.some.inj ho;have e4:f 4=Value.string rs[k].name:=HM.out ⟨4,.data⟩ (by simp) rfl;refine aa rfl fun K HK=>?_;clear ho HM;simp only [e4];go_simp;refine (aD _ _ z0).mono ?_;rintro e w5 ⟨rfl,rfl⟩;rw [hnm];go_wp2_with fail;exact HK.out _ _ ⟨Value.bool true,by simp [upd,e4],HG.out,rfl,fun k u hu=>hu⟩
       iterate 3
        ·obtain rfl:=Option.some.inj ho;have hm:=HM.out
         try simp [Region.binds] at hm
         refine aa rfl fun K HK=>?_;clear ho HM
         try simp only [hm]
         go_simp;exact HK.out _ _ ⟨_,by simp [upd, *],HG.out,rfl,fun k u hu=>hu⟩
       ·obtain rfl:=Option.some.inj ho;have e8:f 8=Value.int .i64 k:=HM.out ⟨8,.data⟩ (by simp) rfl;have e7:f 7=Value.bool false:=HM.out ⟨7,.guard⟩ (by simp) rfl;refine aa rfl fun K HK=>?_;clear ho HM;simp only [e8,e7];go_simp;exact HK.out _ _ ⟨Value.bool true,by simp [upd,e8,e7]; omega,HG.out,rfl,fun k u hu=>hu⟩
       iterate 24
        ·obtain rfl:=Option.some.inj ho;have hm:=HM.out
         try simp [Region.binds] at hm
         refine aa rfl fun K HK=>?_;clear ho HM
         try simp only [hm]
         go_simp;exact HK.out _ _ ⟨_,by simp [upd, *],HG.out,rfl,fun k u hu=>hu⟩
      case finD =>
       rintro f w' hG hall;have e33:f 33=Value.bool gt:=hall 33 (by omega);have HG:Hid (Below wr.heap.size wr w'):=hG;clear hG hall;clear hgt;rw [e33];cases gt with
       | true =>
        have HN:Hid (¬ bC (ah rs)):=HBAD.out (by rw [HTH.out,HPV.out]; simp [fD,hless,HGT.out]);go_wp2;go_ret;exact ⟨ag (di HN.out).symm,HB.out.trans (HG.out.mono HB.out.size)⟩
       | false =>
        rw [← e33];exact HC.out f w' ⟨HG.out,e33,by rw [HTH.out,HPV.out]; simp [fD,HGT.out, *]⟩
  ·obtain rfl:k=rs.length:=by omega
   have HSH:Hid (cu (ah rs)=true):=by
    show _=_;unfold cu; rw [jL,HP.out]; simp; omega
   have HSF:Hid (rs.length≤6∧(∀ r ∈ rs,r.rows.length≤6)∧∀ r ∈ rs,∀ q ∈ r.rows,aS (au q.rows)=true∧q.rows.length≤15∧∀ e ∈ q.rows,bY q.rows.length e.e.kids):=dF HSH.out;clear HP;go_wp2_with fail;go_loopw [6] (fun i wr=>∃ k:Nat,k≤rs.length∧i=.int .i64 k∧Hid (((ah rs).take k).all (nO (ah rs))=true)∧Hid (Below w.heap.size w wr)) (fun i _=>rs.length - (intOf i).toNat);case atStart=>exact ⟨0,Nat.zero_le _,rfl,(by show _=_; simp),HB⟩
   case round =>
    clear HB;obtain ⟨k,hk,rfl,HP,HB⟩:=hrel;by_cases hlt:k < rs.length
    ·have hk1:=bR k;have hk2:(k:Int) < (rs.length:Int):=by omega
     have lgT:=(HL.out _ (List.getElem_mem hlt)).1;have HLT:Hid (∀ q ∈ rs[k].rows,q.light):=(HL.out _ (List.getElem_mem hlt)).2;go_wp2_with fail;go_loopw [7] (fun i w2=>∃ j:Nat,j≤rs[k].rows.length∧i=.int .i64 j∧Hid (((dO rs[k].rows).take j).all (fun r=>aO (ah rs) rs[k].name r.expr)=true)∧Hid (Below w.heap.size w w2)) (fun i _=>rs[k].rows.length - (intOf i).toNat);case atStart=>exact ⟨0,Nat.zero_le _,rfl,(by show _=_; simp),HB⟩
     case round =>
      clear HB;obtain ⟨j,hj,rfl,HR,HB⟩:=hrel;have HSW:Hid (gp wr ad rs):=HS.out.below HB.out;rcases HSW.out with rfl | ⟨b,off,rfl,hb,hr,hok⟩
      ·simp at hlt
      obtain ⟨t0,t1⟩:=hr k hlt;have HOK:Hid (rs[k].ok wr):=hok rs[k] (List.getElem_mem hlt);clear hr hok;by_cases hjl:j < rs[k].rows.length
      ·rcases HOK.out with hnil | ⟨b2,off2,had,hbb,hr2,hok2⟩
       ·rw [hnil] at hjl; simp at hjl
       rw [had] at t1;obtain ⟨q0,q1⟩:=hr2 j hjl;have HSE:Hid (kX wr rs[k].rows[j].ad rs[k].rows[j].rows):=hok2 _ (List.getElem_mem hjl);have HLG:Hid (rs[k].rows[j].light):=HLT.out _ (List.getElem_mem hjl);have hj1:=bR j;have hj2:(j:Int) < (rs[k].rows.length:Int):=by omega
       have c3:wr.drew.cell? ⟨b,off + k * 2,none⟩=some (.string rs[k].name)∧wr.drew.cell? ⟨b,off + k * 2 + 1,none⟩=some (.slice (some ⟨b2,off2,none⟩) rs[k].rows.length rs[k].cap)∧wr.drew.cell? ⟨b2,off2 + j * 2 + 1,none⟩=some (.slice rs[k].rows[j].ad rs[k].rows[j].rows.length rs[k].rows[j].cap)∧b < wr.drew.heap.size∧b2 < wr.drew.heap.size∧Below wr.heap.size wr wr.drew:=⟨t0,t1,q1,hb,hbb,(Below.refl _ _).drew⟩;clear hr2 hok2 q0 had;go_wp2_with fail
       go_region_held3 (fun w'=>w'.cell? ⟨b,off + k * 2,none⟩=some (.string rs[k].name)∧w'.cell? ⟨b,off + k * 2 + 1,none⟩=some (.slice (some ⟨b2,off2,none⟩) rs[k].rows.length rs[k].cap)∧w'.cell? ⟨b2,off2 + j * 2 + 1,none⟩=some (.slice rs[k].rows[j].ad rs[k].rows[j].rows.length rs[k].rows[j].cap)∧b < w'.heap.size∧b2 < w'.heap.size∧Below wr.heap.size wr w')
        (first | exact c3 | assumption | exact keepR (by first | exact c3 | assumption) hbx)
        (first | (go_at_call 80; refine (Dz (some ⟨b,off,none⟩) rs[k].rows[j].ad cap rs[k].rows[j].cap rs _ rs[k].rows[j].rows _ (by omega) (HSW.out.below ((Below.refl _ _).drew)) HL.out HLG.out.1 (HSE.out.below ((Below.refl _ _).drew)) HLG.out.2).mono ?_; rintro e w' ⟨rfl,hbx⟩))
       rename_i hHeld;have HBN:Hid (Below w.heap.size w w'):=HB.out.trans (hHeld.2.2.2.2.2.mono HB.out.size);clear hHeld c3 t0 t1 q1 hbx;have HTS:=Ca rs[k].rows j hjl;cases hrf:aO (ah rs) rs[k].name (au rs[k].rows[j].rows) with
       | false =>
        have HN:Hid (¬ bC (ah rs)):=fun hs=>by
         have h1:=hs.2.1;unfold je at h1;rw [List.all_eq_true] at h1;have h2:=h1 rs[k].p (by unfold ah; exact List.mem_map_of_mem (List.getElem_mem hlt));unfold nO at h2;rw [List.all_eq_true] at h2;have h3:=h2 rs[k].rows[j].p (by show _ ∈ dO rs[k].rows; unfold dO; exact List.mem_map_of_mem (List.getElem_mem hjl));have h4:aO (ah rs) rs[k].name (au rs[k].rows[j].rows)=true:=h3;rw [hrf] at h4; cases h4
        go_wp2;go_ret;exact ⟨ag (di HN.out).symm,HBN.out⟩
       | true =>
        have HRN:Hid (((dO rs[k].rows).take (j + 1)).all (fun r=>aO (ah rs) rs[k].name r.expr)=true):=by
         show _=_;rw [HTS,List.all_append,HR.out];have:aO (ah rs) rs[k].name rs[k].rows[j].p.expr=true:=hrf;simp [this]
        clear HTS;go_wp2;go_roundw;case rel=>exact ⟨j + 1,by omega,by go_num,HRN,HBN⟩
        case measure=>simp [intOf] <;> omega
      ·obtain rfl:j=rs[k].rows.length:=by omega
       have HPN:Hid (((ah rs).take (k + 1)).all (nO (ah rs))=true):=by
        show _=_;rw [BZ rs k hlt,List.all_append,HP.out];have h1:=HR.out;rw [← qQ,List.take_length] at h1;have:nO (ah rs) rs[k].p=true:=h1;simp [this]
       go_wp2;go_roundw;case rel=>exact ⟨k + 1,by omega,by go_num,HPN,HB⟩
       case measure=>simp [intOf] <;> omega
    ·obtain rfl:k=rs.length:=by omega
     have HRA:Hid (je (ah rs)=true):=by
      have h1:=HP.out;rw [← jL,List.take_length] at h1;exact h1
     go_wp2_with fail;refine (Ay ad cap rs _ HSF.out.1 (HS.out.below HB.out) HL.out HSF.out.2.1 (fun r hr q hq=>(HSF.out.2.2 r hr q hq).2) (nQ HRA.out)).mono ?_;rintro e w' ⟨⟨ad',cap',out,rfl,-,-,hLe⟩ | ⟨rfl,hno⟩,hbx⟩
     ·have HY:Hid (bC (ah rs)):=⟨HSH.out,HRA.out,_,hLe.sol⟩;have HBN:=gW HB hbx;clear hLe hbx;go_wp2;go_ret;exact ⟨ag (ut HY.out).symm,HBN.out⟩
     ·have HY:Hid (¬ bC (ah rs)):=fun h=>hno h.2.2;have HBN:=gW HB hbx;clear hno hbx;go_wp2;go_ret;exact ⟨ag (di HY.out).symm,HBN.out⟩
end Go.Proofs.YteoflgocljfgeaaGreatDoor
