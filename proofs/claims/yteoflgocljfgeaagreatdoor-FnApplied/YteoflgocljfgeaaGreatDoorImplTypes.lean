/- Contracts of the program's looks at a schema's shape. -/
import Derived.Test.YteoflgocljfgeaaGreatDoorSpecSchema11
import Derived.Test.YteoflgocljfgeaaGreatDoorJ28
open Go.Proofs.Tryz
set_option maxHeartbeats 80000000
namespace Go.Proofs.YteoflgocljfgeaaGreatDoor
open Go.ChangeShapes Go.WideShapes Go.ChangeAt Go.RowKit
open Pl
def eH (rs:List RR):Bool:=decide (rs.length≤6) && dN (dO rs) rs.length
theorem Em {rs:List RR} {k:Nat} (h:k < rs.length):kI (dO rs) k=(aU rs[k].name && qc (dO rs) rs[k].name k && aS (au rs[k].rows)):=zq h
theorem En {rs:List TR} {k:Nat} (h:k < rs.length):jF (ah rs) k=(aU rs[k].name && pY (ah rs) rs[k].name k && eH rs[k].rows):=by
 rw [zo h]; unfold eH; rw [Bool.and_assoc]
set_option maxRecDepth 100000 in
theorem ni (ad:Option Addr) (cap:Nat) (rs:List RR) (w:World) (hlen:rs.length≤1048576) (hs:Hl w ad rs) (hl:∀ r ∈ rs,r.light) (hf:∀ r ∈ rs,r.fits) (hcp:∀ r ∈ rs,r.caps) :
  Calls prog 133 #[.slice ad rs.length cap] w fun e w'=>e=.returned (.bool (eH rs))∧Below w.heap.size w w':=by
 have HS:Hid (Hl w ad rs):=hs;have HL:Hid (∀ r ∈ rs,r.light):=hl;have HFT:Hid (∀ r ∈ rs,r.fits):=hf;have HCT:Hid (∀ r ∈ rs,r.caps):=hcp;clear hs hl hf hcp;have HALL:Hid (eH rs=(decide (rs.length≤6) && dN (dO rs) rs.length)):=by show _=_; rfl
 by_cases h6:6 < rs.length
 ·have HN:Hid (eH rs=false):=by show _=_; rw [HALL.out]; simp; omega
  go_enter func133,ntmps133;go_wp2;go_ret;exact ⟨ag HN.out.symm,Below.refl _ _⟩
 go_enter func133,ntmps133;go_wp2;go_loopw [10] (fun i wr=>∃ k:Nat,k≤rs.length∧i=.int .i64 k∧Hid (dN (dO rs) k=true)∧Hid (Below w.heap.size w wr)) (fun i _=>rs.length - (intOf i).toNat);case atStart=>exact ⟨0,Nat.zero_le _,rfl,rfl,Below.refl _ _⟩
 case round =>
  obtain ⟨k,hk,rfl,HP,HB⟩:=hrel;by_cases hlt:k < rs.length
  ·rcases HS.out.below HB.out with rfl | ⟨b,off,rfl,hb,hr,hok⟩
   ·simp at hlt
   obtain ⟨t0,t1⟩:=hr k hlt;have HSE:Hid (rs[k].ok wr):=hok rs[k] (List.getElem_mem hlt);have z1:rs[k].name.size≤maxLen:=(HFT.out _ (List.getElem_mem hlt)).1;have HLG:Hid (rs[k].light):=HL.out _ (List.getElem_mem hlt);have HFE:Hid (rs[k].fits):=HFT.out _ (List.getElem_mem hlt);have HCP:Hid (rs[k].caps):=HCT.out _ (List.getElem_mem hlt);have hk1:=bR k;have hk2:(k:Int) < (rs.length:Int):=by omega
   have HTP:Hid (∀ (m:Nat) (h:m < rs.length),wr.cell? ⟨b,off + m * 2,none⟩=some (.string rs[m].name)):=fun m h=>(hr m h).1;have HRG:Hid (kI (dO rs) k=(aU rs[k].name && qc (dO rs) rs[k].name k && aS (au rs[k].rows))):=Em hlt;have HBAD:Hid (kI (dO rs) k=false→eH rs=false):=fun h=>by rw [HALL.out,qy _ k h _ hlt]; simp
   obtain ⟨W1,hW1⟩:∃ W1,W1=wr.alloc (.cells #[.string rs[k].name,.slice rs[k].ad rs[k].rows.length rs[k].cap] 126):=⟨_,rfl⟩;have hal:Below wr.heap.size wr W1:=by rw [hW1]; exact (Below.refl _ _).alloc (Nat.le_refl _) _
   have HAL:Hid (Below wr.heap.size wr W1):=hal;have hgl:wr.heap.size < W1.heap.size:=by rw [hW1]; simp
   have g0:W1.cell? ⟨wr.heap.size,0,none⟩=some (.string rs[k].name):=by rw [hW1]; simp
   have g1:W1.cell? ⟨wr.heap.size,1,none⟩=some (.slice rs[k].ad rs[k].rows.length rs[k].cap):=by rw [hW1]; simp
   have hb4:b < W1.heap.size:=Nat.lt_trans hb hgl;clear hr hok;go_wp2_with fail;rw [← hW1];clear hW1 t0 t1 hal;refine vv (F:=(fun fq=>{ tmps:=List.toArray (Value.slice (some ⟨b,off,none⟩) rs.length cap::undef::u2::.int .i64 k::.pointer (some ⟨wr.heap.size,0,none⟩)::.slice (some ⟨b,off,none⟩) rs.length cap::.int .i64 rs.length::.bool (decide (6 < (rs.length:Int)))::.slice (some ⟨b,off,none⟩) rs.length cap::.int .i64 rs.length::.int .i64 k::.bool true::.int .i64 k::.pointer (some ⟨b,off + k * 2,none⟩)::.agg #[.string rs[k].name,.slice rs[k].ad rs[k].rows.length rs[k].cap]::fq 0::fq 1::fq 2::fq 3::fq 4::fq 5::fq 6::fq 7::fq 8::fq 9::fq 10::fq 11::fq 12::fq 13::fq 14::fq 15::fq 16::fq 17::fq 18::fq 19::fq 20::fq 21::fq 22::fq 23::fq 24::u40::[]),defers:=[] })) (fun fq w'=>Below W1.heap.size W1 w'∧fq 24=.bool false∧kI (dO rs) k=true) ?cont ?reg;case cont =>
    rintro fq w' ⟨hG,e24,hpre⟩;have HBN:Hid (Below w.heap.size w w'):=HB.out.trans ((HAL.out.mono HB.out.size).trans (hG.mono (Nat.le_trans HB.out.size HAL.out.size)));have HRN:Hid (dN (dO rs) (k + 1)=true):=by show _=_; simp only [dN]; rw [HP.out,hpre]; rfl
    clear hG hpre;rw [e24];go_wp2;go_roundw;case rel=>exact ⟨k + 1,by omega,by go_num,HRN,HBN⟩
    case measure=>simp [intOf] <;> omega
   intro hC;have HC:Hid (∀ f w',_→_):=hC;clear hC;cases hnm:aU rs[k].name with
   | false =>
    have HN:Hid (eH rs=false):=HBAD.out (by rw [HRG.out]; simp [hnm]);refine ax 25 (fun n=>(u15::u16::u17::u18::u19::u20::u21::u22::u23::u24::u25::u26::u27::u28::u29::u30::u31::u32::u33::u34::u35::u36::u37::u38::u39::[]).getD n undef) (fun fq=>{ tmps:=List.toArray (Value.slice (some ⟨b,off,none⟩) rs.length cap::undef::u2::.int .i64 k::.pointer (some ⟨wr.heap.size,0,none⟩)::.slice (some ⟨b,off,none⟩) rs.length cap::.int .i64 rs.length::.bool (decide (6 < (rs.length:Int)))::.slice (some ⟨b,off,none⟩) rs.length cap::.int .i64 rs.length::.int .i64 k::.bool true::.int .i64 k::.pointer (some ⟨b,off + k * 2,none⟩)::.agg #[.string rs[k].name,.slice rs[k].ad rs[k].rows.length rs[k].cap]::fq 0::fq 1::fq 2::fq 3::fq 4::fq 5::fq 6::fq 7::fq 8::fq 9::fq 10::fq 11::fq 12::fq 13::fq 14::fq 15::fq 16::fq 17::fq 18::fq 19::fq 20::fq 21::fq 22::fq 23::fq 24::u40::[]),defers:=[] }) (fun n v _=>v=(Value.pointer (some ⟨wr.heap.size,0,none⟩)::.string rs[k].name::.bool false::.bool true::.bool true::undef::undef::undef::undef::undef::undef::undef::undef::undef::undef::undef::undef::undef::.bool true::.bool true::undef::undef::undef::undef::.bool true::[]).getD n undef) (fun w'=>Below W1.heap.size W1 w') (by kernel_rfl) rfl (by kernel_rfl) rfl (Below.refl _ _).drew ?stepA ?finA;case stepA =>
     rintro i hi o ho fq w' hG hpre;have HG:Hid (Below W1.heap.size W1 w'):=hG;replace g0:=ak hG hgl g0;replace g1:=ak hG hgl g1;have HM:Hid (∀ e ∈ o.after,Region.binds .any e=true→_):=hpre;clear hG hpre;have hc:=tT (i:=i) (by omega);clear hi
     repeat' rcases hc with rfl | hc
     iterate 2
      ·obtain rfl:=Option.some.inj ho;have hm:=HM.out
       try simp [Region.binds] at hm
       refine aa rfl fun K HK=>?_;clear ho HM
       try simp only [hm]
       go_simp;exact HK.out _ _ ⟨_,by simp [upd, *],HG.out,rfl,fun k u hu=>hu⟩
     ·obtain rfl:=Option.some.inj ho;have e1:fq 1=.string rs[k].name:=HM.out ⟨1,.data⟩ (by simp) rfl;refine aa rfl fun K HK=>?_;clear ho HM;simp only [e1];go_simp;refine (aF _ _ z1).mono ?_;rintro e w5 ⟨rfl,rfl⟩;rw [hnm];go_wp2_with fail;exact HK.out _ _ ⟨Value.bool false,by simp [upd,e1],HG.out,rfl,fun k u hu=>hu⟩
     iterate 22
      ·obtain rfl:=Option.some.inj ho;have hm:=HM.out
       try simp [Region.binds] at hm
       refine aa rfl fun K HK=>?_;clear ho HM
       try simp only [hm]
       go_simp;exact HK.out _ _ ⟨_,by simp [upd, *],HG.out,rfl,fun k u hu=>hu⟩
    case finA =>
     rintro fq w' hG hall;have e24:fq 24=.bool true:=hall 24 (by omega);have HG:Hid (Below W1.heap.size W1 w'):=hG;clear hG hall;rw [e24];go_wp2;go_ret;exact ⟨ag HN.out.symm,HB.out.trans ((HAL.out.mono HB.out.size).trans (HG.out.mono (Nat.le_trans HB.out.size HAL.out.size)))⟩
   | true =>
    obtain ⟨ex,hex⟩:∃ ex,ex=aS (au rs[k].rows):=⟨_,rfl⟩;have HEX:Hid (ex=aS (au rs[k].rows)):=hex;have HEXC:Hid (ex=ji (au rs[k].rows)):=hex.trans (sD _);clear hex;by_cases hpos:k=0
    ·have hk0:¬ (0:Int) < (k:Int):=by omega
     have HPV:Hid (qc (dO rs) rs[k].name k=true):=xk hpos;replace hpos:Hid (k=0):=hpos;refine ax 25 (fun n=>(u15::u16::u17::u18::u19::u20::u21::u22::u23::u24::u25::u26::u27::u28::u29::u30::u31::u32::u33::u34::u35::u36::u37::u38::u39::[]).getD n undef) (fun fq=>{ tmps:=List.toArray (Value.slice (some ⟨b,off,none⟩) rs.length cap::undef::u2::.int .i64 k::.pointer (some ⟨wr.heap.size,0,none⟩)::.slice (some ⟨b,off,none⟩) rs.length cap::.int .i64 rs.length::.bool (decide (6 < (rs.length:Int)))::.slice (some ⟨b,off,none⟩) rs.length cap::.int .i64 rs.length::.int .i64 k::.bool true::.int .i64 k::.pointer (some ⟨b,off + k * 2,none⟩)::.agg #[.string rs[k].name,.slice rs[k].ad rs[k].rows.length rs[k].cap]::fq 0::fq 1::fq 2::fq 3::fq 4::fq 5::fq 6::fq 7::fq 8::fq 9::fq 10::fq 11::fq 12::fq 13::fq 14::fq 15::fq 16::fq 17::fq 18::fq 19::fq 20::fq 21::fq 22::fq 23::fq 24::u40::[]),defers:=[] }) (fun n v _=>v=(Value.pointer (some ⟨wr.heap.size,0,none⟩)::.string rs[k].name::.bool true::.bool false::.bool false::.int .i64 k::.bool false::.bool false::undef::undef::undef::undef::undef::undef::undef::undef::undef::.bool false::.bool false::.bool false::.pointer (some ⟨wr.heap.size,1,none⟩)::.slice rs[k].ad rs[k].rows.length rs[k].cap::.bool ex::.bool (!ex)::.bool (!ex)::[]).getD n undef) (fun w'=>Below W1.heap.size W1 w') (by kernel_rfl) rfl (by kernel_rfl) rfl (Below.refl _ _).drew ?jI ?finB;case jI =>
      rintro i hi o ho fq w' hG hpre;have HG:Hid (Below W1.heap.size W1 w'):=hG;replace g0:=ak hG hgl g0;replace g1:=ak hG hgl g1;have HM:Hid (∀ e ∈ o.after,Region.binds .any e=true→_):=hpre;clear hG hpre;have hc:=tT (i:=i) (by omega);clear hi
      repeat' rcases hc with rfl | hc
      iterate 2
       ·obtain rfl:=Option.some.inj ho;have hm:=HM.out
        try simp [Region.binds] at hm
        refine aa rfl fun K HK=>?_;clear ho HM
        try simp only [hm]
        go_simp;exact HK.out _ _ ⟨_,by simp [upd, *],HG.out,rfl,fun k u hu=>hu⟩
      ·obtain rfl:=Option.some.inj ho;have e1:fq 1=.string rs[k].name:=HM.out ⟨1,.data⟩ (by simp) rfl;refine aa rfl fun K HK=>?_;clear ho HM;simp only [e1];go_simp;refine (aF _ _ z1).mono ?_;rintro e w5 ⟨rfl,rfl⟩;rw [hnm];go_wp2_with fail;exact HK.out _ _ ⟨Value.bool true,by simp [upd,e1],HG.out,rfl,fun k u hu=>hu⟩
      iterate 3
       ·obtain rfl:=Option.some.inj ho;have hm:=HM.out
        try simp [Region.binds] at hm
        refine aa rfl fun K HK=>?_;clear ho HM
        try simp only [hm]
        go_simp;exact HK.out _ _ ⟨_,by simp [upd, *],HG.out,rfl,fun k u hu=>hu⟩
      ·obtain rfl:=Option.some.inj ho;have e5:fq 5=.int .i64 k:=HM.out ⟨5,.data⟩ (by simp) rfl;have e4:fq 4=.bool false:=HM.out ⟨4,.guard⟩ (by simp) rfl;refine aa rfl fun K HK=>?_;clear ho HM;simp only [e5,e4];go_simp;exact HK.out _ _ ⟨Value.bool false,by simp [upd,e5,e4]; omega,HG.out,rfl,fun k u hu=>hu⟩
      iterate 15
       ·obtain rfl:=Option.some.inj ho;have hm:=HM.out
        try simp [Region.binds] at hm
        refine aa rfl fun K HK=>?_;clear ho HM
        try simp only [hm]
        go_simp;exact HK.out _ _ ⟨_,by simp [upd, *],HG.out,rfl,fun k u hu=>hu⟩
      ·obtain rfl:=Option.some.inj ho;have e21:fq 21=.slice rs[k].ad rs[k].rows.length rs[k].cap:=HM.out ⟨21,.data⟩ (by simp) rfl;have e19:fq 19=.bool false:=HM.out ⟨19,.guard⟩ (by simp) rfl;refine aa rfl fun K HK=>?_;clear ho HM;simp only [e21,e19];go_simp;refine (oG _ _ rs[k].rows _ HLG.out.1 HLG.out.2 HFE.out.2.2 HCP.out.2 (HSE.out.below (HAL.out.trans (HG.out.mono HAL.out.size)))).mono ?_;rintro e w5 ⟨rfl,hb5⟩;have HG5:=gW HG hb5;rw [← HEXC.out];clear hb5;go_wp2_with fail;exact HK.out _ _ ⟨Value.bool ex,by simp [upd,e21,e19],HG5.out,rfl,fun k u hu=>hu⟩
      iterate 2
       ·obtain rfl:=Option.some.inj ho;have hm:=HM.out
        try simp [Region.binds] at hm
        refine aa rfl fun K HK=>?_;clear ho HM
        try simp only [hm]
        go_simp;exact HK.out _ _ ⟨_,by simp [upd, *],HG.out,rfl,fun k u hu=>hu⟩
     case finB =>
      rintro fq w' hG hall;have e24:fq 24=.bool (!ex):=hall 24 (by omega);have HG:Hid (Below W1.heap.size W1 w'):=hG;clear hG hall;rw [e24];cases ex with
      | false =>
       have HN:Hid (eH rs=false):=HBAD.out (by rw [HRG.out,← HEX.out]; simp);simp only [Bool.not_false];go_wp2;go_ret;exact ⟨ag HN.out.symm,HB.out.trans ((HAL.out.mono HB.out.size).trans (HG.out.mono (Nat.le_trans HB.out.size HAL.out.size)))⟩
      | true =>
       rw [← e24];exact HC.out fq w' ⟨HG.out,by rw [e24]; rfl,by rw [HRG.out,← HEX.out,HPV.out]; simp [*]⟩
    ·obtain ⟨m,hm⟩:∃ m,k=m + 1:=⟨k - 1,by omega⟩;have hml:m < rs.length:=by omega
     have hk0:(0:Int) < (k:Int):=by omega
     have hkm:(k:Int) - 1=(m:Int):=by omega
     have hwm:IntKind.i64.wrap (m:Int)=(m:Int):=by rw [IntKind.wrap_i64]; omega
     have hm1:=bR m;have hm2:(m:Int) < (rs.length:Int):=by omega
     have tm:=ak HAL.out hb (HTP.out m hml);have HPV:Hid (qc (dO rs) rs[k].name k=fD rs[m].name rs[k].name):=xg hm hml;replace hm:Hid (k=m + 1):=hm;cases hless:Op.bytesLess rs[m].name.toList rs[k].name.toList with
     | false =>
      have HN:Hid (eH rs=false):=HBAD.out (by rw [HRG.out,HPV.out]; simp [fD,hless]);refine ax 25 (fun n=>(u15::u16::u17::u18::u19::u20::u21::u22::u23::u24::u25::u26::u27::u28::u29::u30::u31::u32::u33::u34::u35::u36::u37::u38::u39::[]).getD n undef) (fun fq=>{ tmps:=List.toArray (Value.slice (some ⟨b,off,none⟩) rs.length cap::undef::u2::.int .i64 k::.pointer (some ⟨wr.heap.size,0,none⟩)::.slice (some ⟨b,off,none⟩) rs.length cap::.int .i64 rs.length::.bool (decide (6 < (rs.length:Int)))::.slice (some ⟨b,off,none⟩) rs.length cap::.int .i64 rs.length::.int .i64 k::.bool true::.int .i64 k::.pointer (some ⟨b,off + k * 2,none⟩)::.agg #[.string rs[k].name,.slice rs[k].ad rs[k].rows.length rs[k].cap]::fq 0::fq 1::fq 2::fq 3::fq 4::fq 5::fq 6::fq 7::fq 8::fq 9::fq 10::fq 11::fq 12::fq 13::fq 14::fq 15::fq 16::fq 17::fq 18::fq 19::fq 20::fq 21::fq 22::fq 23::fq 24::u40::[]),defers:=[] }) (fun n v _=>v=(Value.pointer (some ⟨wr.heap.size,0,none⟩)::.string rs[k].name::.bool true::.bool false::.bool false::.int .i64 k::.bool true::.bool true::.slice (some ⟨b,off,none⟩) rs.length cap::.int .i64 k::.int .i64 (m:Int)::.pointer (some ⟨b,off + m * 2,none⟩)::.pointer (some ⟨b,off + m * 2,none⟩)::.string rs[m].name::.pointer (some ⟨wr.heap.size,0,none⟩)::.string rs[k].name::.bool true::.bool true::.bool true::.bool true::undef::undef::undef::undef::.bool true::[]).getD n undef) (fun w'=>Below W1.heap.size W1 w') (by kernel_rfl) rfl (by kernel_rfl) rfl (Below.refl _ _).drew ?stepC ?finC;case stepC =>
       rintro i hi o ho fq w' hG hpre;have HG:Hid (Below W1.heap.size W1 w'):=hG;replace g0:=ak hG hgl g0;replace g1:=ak hG hgl g1;replace tm:=ak hG hb4 tm;have HM:Hid (∀ e ∈ o.after,Region.binds .any e=true→_):=hpre;clear hG hpre;have hc:=tT (i:=i) (by omega);clear hi
       repeat' rcases hc with rfl | hc
       iterate 2
        ·obtain rfl:=Option.some.inj ho;have hm:=HM.out
         try simp [Region.binds] at hm
         refine aa rfl fun K HK=>?_;clear ho HM
         try simp only [hm]
         go_simp;exact HK.out _ _ ⟨_,by simp [upd, *],HG.out,rfl,fun k u hu=>hu⟩
       ·obtain rfl:=Option.some.inj ho;have e1:fq 1=.string rs[k].name:=HM.out ⟨1,.data⟩ (by simp) rfl;refine aa rfl fun K HK=>?_;clear ho HM;simp only [e1];go_simp;refine (aF _ _ z1).mono ?_;rintro e w5 ⟨rfl,rfl⟩;rw [hnm];go_wp2_with fail;exact HK.out _ _ ⟨Value.bool true,by simp [upd,e1],HG.out,rfl,fun k u hu=>hu⟩
       iterate 3
        ·obtain rfl:=Option.some.inj ho;have hm:=HM.out
         try simp [Region.binds] at hm
         refine aa rfl fun K HK=>?_;clear ho HM
         try simp only [hm]
         go_simp;exact HK.out _ _ ⟨_,by simp [upd, *],HG.out,rfl,fun k u hu=>hu⟩
       ·obtain rfl:=Option.some.inj ho;have e5:fq 5=.int .i64 k:=HM.out ⟨5,.data⟩ (by simp) rfl;have e4:fq 4=.bool false:=HM.out ⟨4,.guard⟩ (by simp) rfl;refine aa rfl fun K HK=>?_;clear ho HM;simp only [e5,e4];go_simp;exact HK.out _ _ ⟨Value.bool true,by simp [upd,e5,e4]; omega,HG.out,rfl,fun k u hu=>hu⟩
       iterate 18
        ·obtain rfl:=Option.some.inj ho;have hm:=HM.out
         try simp [Region.binds] at hm
         refine aa rfl fun K HK=>?_;clear ho HM
         try simp only [hm]
         go_simp;exact HK.out _ _ ⟨_,by simp [upd, *],HG.out,rfl,fun k u hu=>hu⟩
      case finC =>
       rintro fq w' hG hall;have e24:fq 24=.bool true:=hall 24 (by omega);have HG:Hid (Below W1.heap.size W1 w'):=hG;clear hG hall;rw [e24];go_wp2;go_ret;exact ⟨ag HN.out.symm,HB.out.trans ((HAL.out.mono HB.out.size).trans (HG.out.mono (Nat.le_trans HB.out.size HAL.out.size)))⟩
     | true =>
      refine ax 25 (fun n=>(u15::u16::u17::u18::u19::u20::u21::u22::u23::u24::u25::u26::u27::u28::u29::u30::u31::u32::u33::u34::u35::u36::u37::u38::u39::[]).getD n undef) (fun fq=>{ tmps:=List.toArray (Value.slice (some ⟨b,off,none⟩) rs.length cap::undef::u2::.int .i64 k::.pointer (some ⟨wr.heap.size,0,none⟩)::.slice (some ⟨b,off,none⟩) rs.length cap::.int .i64 rs.length::.bool (decide (6 < (rs.length:Int)))::.slice (some ⟨b,off,none⟩) rs.length cap::.int .i64 rs.length::.int .i64 k::.bool true::.int .i64 k::.pointer (some ⟨b,off + k * 2,none⟩)::.agg #[.string rs[k].name,.slice rs[k].ad rs[k].rows.length rs[k].cap]::fq 0::fq 1::fq 2::fq 3::fq 4::fq 5::fq 6::fq 7::fq 8::fq 9::fq 10::fq 11::fq 12::fq 13::fq 14::fq 15::fq 16::fq 17::fq 18::fq 19::fq 20::fq 21::fq 22::fq 23::fq 24::u40::[]),defers:=[] }) (fun n v _=>v=(Value.pointer (some ⟨wr.heap.size,0,none⟩)::.string rs[k].name::.bool true::.bool false::.bool false::.int .i64 k::.bool true::.bool true::.slice (some ⟨b,off,none⟩) rs.length cap::.int .i64 k::.int .i64 (m:Int)::.pointer (some ⟨b,off + m * 2,none⟩)::.pointer (some ⟨b,off + m * 2,none⟩)::.string rs[m].name::.pointer (some ⟨wr.heap.size,0,none⟩)::.string rs[k].name::.bool false::.bool false::.bool false::.bool false::.pointer (some ⟨wr.heap.size,1,none⟩)::.slice rs[k].ad rs[k].rows.length rs[k].cap::.bool ex::.bool (!ex)::.bool (!ex)::[]).getD n undef) (fun w'=>Below W1.heap.size W1 w') (by kernel_rfl) rfl (by kernel_rfl) rfl (Below.refl _ _).drew ?stepD ?finD;case stepD =>
       rintro i hi o ho fq w' hG hpre;have HG:Hid (Below W1.heap.size W1 w'):=hG;replace g0:=ak hG hgl g0;replace g1:=ak hG hgl g1;replace tm:=ak hG hb4 tm;have HM:Hid (∀ e ∈ o.after,Region.binds .any e=true→_):=hpre;clear hG hpre;have hc:=tT (i:=i) (by omega);clear hi
       repeat' rcases hc with rfl | hc
       iterate 2
        ·obtain rfl:=Option.some.inj ho;have hm:=HM.out
         try simp [Region.binds] at hm
         refine aa rfl fun K HK=>?_;clear ho HM
         try simp only [hm]
         go_simp;exact HK.out _ _ ⟨_,by simp [upd, *],HG.out,rfl,fun k u hu=>hu⟩
       ·obtain rfl:=Option.some.inj ho;have e1:fq 1=.string rs[k].name:=HM.out ⟨1,.data⟩ (by simp) rfl;refine aa rfl fun K HK=>?_;clear ho HM;simp only [e1];go_simp;refine (aF _ _ z1).mono ?_;rintro e w5 ⟨rfl,rfl⟩;rw [hnm];go_wp2_with fail;exact HK.out _ _ ⟨Value.bool true,by simp [upd,e1],HG.out,rfl,fun k u hu=>hu⟩
       iterate 3
        ·obtain rfl:=Option.some.inj ho;have hm:=HM.out
         try simp [Region.binds] at hm
         refine aa rfl fun K HK=>?_;clear ho HM
         try simp only [hm]
         go_simp;exact HK.out _ _ ⟨_,by simp [upd, *],HG.out,rfl,fun k u hu=>hu⟩
       ·obtain rfl:=Option.some.inj ho;have e5:fq 5=.int .i64 k:=HM.out ⟨5,.data⟩ (by simp) rfl;have e4:fq 4=.bool false:=HM.out ⟨4,.guard⟩ (by simp) rfl;refine aa rfl fun K HK=>?_;clear ho HM;simp only [e5,e4];go_simp;exact HK.out _ _ ⟨Value.bool true,by simp [upd,e5,e4]; omega,HG.out,rfl,fun k u hu=>hu⟩
       iterate 15
        ·obtain rfl:=Option.some.inj ho;have hm:=HM.out
         try simp [Region.binds] at hm
         refine aa rfl fun K HK=>?_;clear ho HM
         try simp only [hm]
         go_simp;exact HK.out _ _ ⟨_,by simp [upd, *],HG.out,rfl,fun k u hu=>hu⟩
       ·obtain rfl:=Option.some.inj ho;have e21:fq 21=.slice rs[k].ad rs[k].rows.length rs[k].cap:=HM.out ⟨21,.data⟩ (by simp) rfl;have e19:fq 19=.bool false:=HM.out ⟨19,.guard⟩ (by simp) rfl;refine aa rfl fun K HK=>?_;clear ho HM;simp only [e21,e19];go_simp;refine (oG _ _ rs[k].rows _ HLG.out.1 HLG.out.2 HFE.out.2.2 HCP.out.2 (HSE.out.below (HAL.out.trans (HG.out.mono HAL.out.size)))).mono ?_;rintro e w5 ⟨rfl,hb5⟩;have HG5:=gW HG hb5;rw [← HEXC.out];clear hb5;go_wp2_with fail;exact HK.out _ _ ⟨Value.bool ex,by simp [upd,e21,e19],HG5.out,rfl,fun k u hu=>hu⟩
       iterate 2
        ·obtain rfl:=Option.some.inj ho;have hm:=HM.out
         try simp [Region.binds] at hm
         refine aa rfl fun K HK=>?_;clear ho HM
         try simp only [hm]
         go_simp;exact HK.out _ _ ⟨_,by simp [upd, *],HG.out,rfl,fun k u hu=>hu⟩
      case finD =>
       rintro fq w' hG hall;have e24:fq 24=.bool (!ex):=hall 24 (by omega);have HG:Hid (Below W1.heap.size W1 w'):=hG;clear hG hall;rw [e24];cases ex with
       | false =>
        have HN:Hid (eH rs=false):=HBAD.out (by rw [HRG.out,← HEX.out]; simp);simp only [Bool.not_false];go_wp2;go_ret;exact ⟨ag HN.out.symm,HB.out.trans ((HAL.out.mono HB.out.size).trans (HG.out.mono (Nat.le_trans HB.out.size HAL.out.size)))⟩
       | true =>
        rw [← e24];exact HC.out fq w' ⟨HG.out,by rw [e24]; rfl,by rw [HRG.out,← HEX.out,HPV.out]; simp [fD, *]⟩
  ·obtain rfl:k=rs.length:=by omega
   have HY:Hid (eH rs=true):=by show _=_; rw [HALL.out,HP.out]; simp; omega
   go_wp2;go_ret;exact ⟨ag HY.out.symm,HB.out⟩
set_option maxRecDepth 100000 in
theorem Co (ad:Option Addr) (cap:Nat) (rs:List TR) (w:World) (hlen:rs.length≤1048576) (hs:gp w ad rs) (hl:∀ r ∈ rs,r.light) (hf:∀ r ∈ rs,r.fits) (hcp:∀ r ∈ rs,r.caps) :
  Calls prog 104 #[.slice ad rs.length cap] w fun e w'=>e=.returned (.bool (cu (ah rs)))∧Below w.heap.size w w':=by
 have HS:Hid (gp w ad rs):=hs;have HL:Hid (∀ r ∈ rs,r.light):=hl;have HFT:Hid (∀ r ∈ rs,r.fits):=hf;have HCT:Hid (∀ r ∈ rs,r.caps):=hcp;clear hs hl hf hcp;have HALL:Hid (cu (ah rs)=(decide (rs.length≤6) && iw (ah rs) rs.length)):=by show _=_; unfold cu; rw [jL]
 by_cases h6:6 < rs.length
 ·have HN:Hid (cu (ah rs)=false):=by show _=_; rw [HALL.out]; simp; omega
  go_enter func104,ntmps104;go_wp2;go_ret;exact ⟨ag HN.out.symm,Below.refl _ _⟩
 go_enter func104,ntmps104;go_wp2;go_loopw [10] (fun i wr=>∃ k:Nat,k≤rs.length∧i=.int .i64 k∧Hid (iw (ah rs) k=true)∧Hid (Below w.heap.size w wr)) (fun i _=>rs.length - (intOf i).toNat);case atStart=>exact ⟨0,Nat.zero_le _,rfl,rfl,Below.refl _ _⟩
 case round =>
  obtain ⟨k,hk,rfl,HP,HB⟩:=hrel;by_cases hlt:k < rs.length
  ·rcases HS.out.below HB.out with rfl | ⟨b,off,rfl,hb,hr,hok⟩
   ·simp at hlt
   obtain ⟨t0,t1⟩:=hr k hlt;have HSE:Hid (rs[k].ok wr):=hok rs[k] (List.getElem_mem hlt);have z1:rs[k].name.size≤maxLen:=(HFT.out _ (List.getElem_mem hlt)).1;have HLG:Hid (rs[k].light):=HL.out _ (List.getElem_mem hlt);have HFE:Hid (rs[k].fits):=HFT.out _ (List.getElem_mem hlt);have HCP:Hid (rs[k].caps):=HCT.out _ (List.getElem_mem hlt);have hk1:=bR k;have hk2:(k:Int) < (rs.length:Int):=by omega
   have HTP:Hid (∀ (m:Nat) (h:m < rs.length),wr.cell? ⟨b,off + m * 2,none⟩=some (.string rs[m].name)):=fun m h=>(hr m h).1;have HRG:Hid (jF (ah rs) k=(aU rs[k].name && pY (ah rs) rs[k].name k && eH rs[k].rows)):=En hlt;have HBAD:Hid (jF (ah rs) k=false→cu (ah rs)=false):=fun h=>by rw [HALL.out,qz _ k h _ hlt]; simp
   obtain ⟨W1,hW1⟩:∃ W1,W1=wr.alloc (.cells #[.string rs[k].name,.slice rs[k].ad rs[k].rows.length rs[k].cap] 63):=⟨_,rfl⟩;have hal:Below wr.heap.size wr W1:=by rw [hW1]; exact (Below.refl _ _).alloc (Nat.le_refl _) _
   have HAL:Hid (Below wr.heap.size wr W1):=hal;have hgl:wr.heap.size < W1.heap.size:=by rw [hW1]; simp
   have g0:W1.cell? ⟨wr.heap.size,0,none⟩=some (.string rs[k].name):=by rw [hW1]; simp
   have g1:W1.cell? ⟨wr.heap.size,1,none⟩=some (.slice rs[k].ad rs[k].rows.length rs[k].cap):=by rw [hW1]; simp
   have hb4:b < W1.heap.size:=Nat.lt_trans hb hgl;clear hr hok;go_wp2_with fail;rw [← hW1];clear hW1 t0 t1 hal;refine vv (F:=(fun fq=>{ tmps:=List.toArray (Value.slice (some ⟨b,off,none⟩) rs.length cap::undef::u2::.int .i64 k::.pointer (some ⟨wr.heap.size,0,none⟩)::.slice (some ⟨b,off,none⟩) rs.length cap::.int .i64 rs.length::.bool (decide (6 < (rs.length:Int)))::.slice (some ⟨b,off,none⟩) rs.length cap::.int .i64 rs.length::.int .i64 k::.bool true::.int .i64 k::.pointer (some ⟨b,off + k * 2,none⟩)::.agg #[.string rs[k].name,.slice rs[k].ad rs[k].rows.length rs[k].cap]::fq 0::fq 1::fq 2::fq 3::fq 4::fq 5::fq 6::fq 7::fq 8::fq 9::fq 10::fq 11::fq 12::fq 13::fq 14::fq 15::fq 16::fq 17::fq 18::fq 19::fq 20::fq 21::fq 22::fq 23::fq 24::u40::[]),defers:=[] })) (fun fq w'=>Below W1.heap.size W1 w'∧fq 24=.bool false∧jF (ah rs) k=true) ?cont ?reg;case cont =>
    rintro fq w' ⟨hG,e24,hpre⟩;have HBN:Hid (Below w.heap.size w w'):=HB.out.trans ((HAL.out.mono HB.out.size).trans (hG.mono (Nat.le_trans HB.out.size HAL.out.size)));have HRN:Hid (iw (ah rs) (k + 1)=true):=by show _=_; simp only [iw]; rw [HP.out,hpre]; rfl
    clear hG hpre;rw [e24];go_wp2;go_roundw;case rel=>exact ⟨k + 1,by omega,by go_num,HRN,HBN⟩
    case measure=>simp [intOf] <;> omega
   intro hC;have HC:Hid (∀ f w',_→_):=hC;clear hC;cases hnm:aU rs[k].name with
   | false =>
    have HN:Hid (cu (ah rs)=false):=HBAD.out (by rw [HRG.out]; simp [hnm]);refine ax 25 (fun n=>(u15::u16::u17::u18::u19::u20::u21::u22::u23::u24::u25::u26::u27::u28::u29::u30::u31::u32::u33::u34::u35::u36::u37::u38::u39::[]).getD n undef) (fun fq=>{ tmps:=List.toArray (Value.slice (some ⟨b,off,none⟩) rs.length cap::undef::u2::.int .i64 k::.pointer (some ⟨wr.heap.size,0,none⟩)::.slice (some ⟨b,off,none⟩) rs.length cap::.int .i64 rs.length::.bool (decide (6 < (rs.length:Int)))::.slice (some ⟨b,off,none⟩) rs.length cap::.int .i64 rs.length::.int .i64 k::.bool true::.int .i64 k::.pointer (some ⟨b,off + k * 2,none⟩)::.agg #[.string rs[k].name,.slice rs[k].ad rs[k].rows.length rs[k].cap]::fq 0::fq 1::fq 2::fq 3::fq 4::fq 5::fq 6::fq 7::fq 8::fq 9::fq 10::fq 11::fq 12::fq 13::fq 14::fq 15::fq 16::fq 17::fq 18::fq 19::fq 20::fq 21::fq 22::fq 23::fq 24::u40::[]),defers:=[] }) (fun n v _=>v=(Value.pointer (some ⟨wr.heap.size,0,none⟩)::.string rs[k].name::.bool false::.bool true::.bool true::undef::undef::undef::undef::undef::undef::undef::undef::undef::undef::undef::undef::undef::.bool true::.bool true::undef::undef::undef::undef::.bool true::[]).getD n undef) (fun w'=>Below W1.heap.size W1 w') (by kernel_rfl) rfl (by kernel_rfl) rfl (Below.refl _ _).drew ?stepA ?finA;case stepA =>
     rintro i hi o ho fq w' hG hpre;have HG:Hid (Below W1.heap.size W1 w'):=hG;replace g0:=ak hG hgl g0;replace g1:=ak hG hgl g1;have HM:Hid (∀ e ∈ o.after,Region.binds .any e=true→_):=hpre;clear hG hpre;have hc:=tT (i:=i) (by omega);clear hi
     repeat' rcases hc with rfl | hc
     iterate 2
      ·obtain rfl:=Option.some.inj ho;have hm:=HM.out
       try simp [Region.binds] at hm
       refine aa rfl fun K HK=>?_;clear ho HM
       try simp only [hm]
       go_simp;exact HK.out _ _ ⟨_,by simp [upd, *],HG.out,rfl,fun k u hu=>hu⟩
     ·obtain rfl:=Option.some.inj ho;have e1:fq 1=.string rs[k].name:=HM.out ⟨1,.data⟩ (by simp) rfl;refine aa rfl fun K HK=>?_;clear ho HM;simp only [e1];go_simp;refine (aF _ _ z1).mono ?_;rintro e w5 ⟨rfl,rfl⟩;rw [hnm];go_wp2_with fail;exact HK.out _ _ ⟨Value.bool false,by simp [upd,e1],HG.out,rfl,fun k u hu=>hu⟩
     iterate 22
      ·obtain rfl:=Option.some.inj ho;have hm:=HM.out
       try simp [Region.binds] at hm
       refine aa rfl fun K HK=>?_;clear ho HM
       try simp only [hm]
       go_simp;exact HK.out _ _ ⟨_,by simp [upd, *],HG.out,rfl,fun k u hu=>hu⟩
    case finA =>
     rintro fq w' hG hall;have e24:fq 24=.bool true:=hall 24 (by omega);have HG:Hid (Below W1.heap.size W1 w'):=hG;clear hG hall;rw [e24];go_wp2;go_ret;exact ⟨ag HN.out.symm,HB.out.trans ((HAL.out.mono HB.out.size).trans (HG.out.mono (Nat.le_trans HB.out.size HAL.out.size)))⟩
   | true =>
    obtain ⟨ex,hex⟩:∃ ex,ex=eH rs[k].rows:=⟨_,rfl⟩;have HEX:Hid (ex=eH rs[k].rows):=hex;have HEXC:Hid (ex=eH rs[k].rows):=hex;clear hex;by_cases hpos:k=0
    ·have hk0:¬ (0:Int) < (k:Int):=by omega
     have HPV:Hid (pY (ah rs) rs[k].name k=true):=xh hpos;replace hpos:Hid (k=0):=hpos;refine ax 25 (fun n=>(u15::u16::u17::u18::u19::u20::u21::u22::u23::u24::u25::u26::u27::u28::u29::u30::u31::u32::u33::u34::u35::u36::u37::u38::u39::[]).getD n undef) (fun fq=>{ tmps:=List.toArray (Value.slice (some ⟨b,off,none⟩) rs.length cap::undef::u2::.int .i64 k::.pointer (some ⟨wr.heap.size,0,none⟩)::.slice (some ⟨b,off,none⟩) rs.length cap::.int .i64 rs.length::.bool (decide (6 < (rs.length:Int)))::.slice (some ⟨b,off,none⟩) rs.length cap::.int .i64 rs.length::.int .i64 k::.bool true::.int .i64 k::.pointer (some ⟨b,off + k * 2,none⟩)::.agg #[.string rs[k].name,.slice rs[k].ad rs[k].rows.length rs[k].cap]::fq 0::fq 1::fq 2::fq 3::fq 4::fq 5::fq 6::fq 7::fq 8::fq 9::fq 10::fq 11::fq 12::fq 13::fq 14::fq 15::fq 16::fq 17::fq 18::fq 19::fq 20::fq 21::fq 22::fq 23::fq 24::u40::[]),defers:=[] }) (fun n v _=>v=(Value.pointer (some ⟨wr.heap.size,0,none⟩)::.string rs[k].name::.bool true::.bool false::.bool false::.int .i64 k::.bool false::.bool false::undef::undef::undef::undef::undef::undef::undef::undef::undef::.bool false::.bool false::.bool false::.pointer (some ⟨wr.heap.size,1,none⟩)::.slice rs[k].ad rs[k].rows.length rs[k].cap::.bool ex::.bool (!ex)::.bool (!ex)::[]).getD n undef) (fun w'=>Below W1.heap.size W1 w') (by kernel_rfl) rfl (by kernel_rfl) rfl (Below.refl _ _).drew ?jI ?finB;case jI =>
      rintro i hi o ho fq w' hG hpre;have HG:Hid (Below W1.heap.size W1 w'):=hG;replace g0:=ak hG hgl g0;replace g1:=ak hG hgl g1;have HM:Hid (∀ e ∈ o.after,Region.binds .any e=true→_):=hpre;clear hG hpre;have hc:=tT (i:=i) (by omega);clear hi
      repeat' rcases hc with rfl | hc
      iterate 2
       ·obtain rfl:=Option.some.inj ho;have hm:=HM.out
        try simp [Region.binds] at hm
        refine aa rfl fun K HK=>?_;clear ho HM
        try simp only [hm]
        go_simp;exact HK.out _ _ ⟨_,by simp [upd, *],HG.out,rfl,fun k u hu=>hu⟩
      ·obtain rfl:=Option.some.inj ho;have e1:fq 1=.string rs[k].name:=HM.out ⟨1,.data⟩ (by simp) rfl;refine aa rfl fun K HK=>?_;clear ho HM;simp only [e1];go_simp;refine (aF _ _ z1).mono ?_;rintro e w5 ⟨rfl,rfl⟩;rw [hnm];go_wp2_with fail;exact HK.out _ _ ⟨Value.bool true,by simp [upd,e1],HG.out,rfl,fun k u hu=>hu⟩
      iterate 3
       ·obtain rfl:=Option.some.inj ho;have hm:=HM.out
        try simp [Region.binds] at hm
        refine aa rfl fun K HK=>?_;clear ho HM
        try simp only [hm]
        go_simp;exact HK.out _ _ ⟨_,by simp [upd, *],HG.out,rfl,fun k u hu=>hu⟩
      ·obtain rfl:=Option.some.inj ho;have e5:fq 5=.int .i64 k:=HM.out ⟨5,.data⟩ (by simp) rfl;have e4:fq 4=.bool false:=HM.out ⟨4,.guard⟩ (by simp) rfl;refine aa rfl fun K HK=>?_;clear ho HM;simp only [e5,e4];go_simp;exact HK.out _ _ ⟨Value.bool false,by simp [upd,e5,e4]; omega,HG.out,rfl,fun k u hu=>hu⟩
      iterate 15
       ·obtain rfl:=Option.some.inj ho;have hm:=HM.out
        try simp [Region.binds] at hm
        refine aa rfl fun K HK=>?_;clear ho HM
        try simp only [hm]
        go_simp;exact HK.out _ _ ⟨_,by simp [upd, *],HG.out,rfl,fun k u hu=>hu⟩
      ·obtain rfl:=Option.some.inj ho;have e21:fq 21=.slice rs[k].ad rs[k].rows.length rs[k].cap:=HM.out ⟨21,.data⟩ (by simp) rfl;have e19:fq 19=.bool false:=HM.out ⟨19,.guard⟩ (by simp) rfl;refine aa rfl fun K HK=>?_;clear ho HM;simp only [e21,e19];go_simp;refine (ni _ _ rs[k].rows _ HLG.out.1 (HSE.out.below (HAL.out.trans (HG.out.mono HAL.out.size))) HLG.out.2 HFE.out.2.2 HCP.out.2).mono ?_;rintro e w5 ⟨rfl,hb5⟩;have HG5:=gW HG hb5;rw [← HEXC.out];clear hb5;go_wp2_with fail;exact HK.out _ _ ⟨Value.bool ex,by simp [upd,e21,e19],HG5.out,rfl,fun k u hu=>hu⟩
      iterate 2
       ·obtain rfl:=Option.some.inj ho;have hm:=HM.out
        try simp [Region.binds] at hm
        refine aa rfl fun K HK=>?_;clear ho HM
        try simp only [hm]
        go_simp;exact HK.out _ _ ⟨_,by simp [upd, *],HG.out,rfl,fun k u hu=>hu⟩
     case finB =>
      rintro fq w' hG hall;have e24:fq 24=.bool (!ex):=hall 24 (by omega);have HG:Hid (Below W1.heap.size W1 w'):=hG;clear hG hall;rw [e24];cases ex with
      | false =>
       have HN:Hid (cu (ah rs)=false):=HBAD.out (by rw [HRG.out,← HEX.out]; simp);simp only [Bool.not_false];go_wp2;go_ret;exact ⟨ag HN.out.symm,HB.out.trans ((HAL.out.mono HB.out.size).trans (HG.out.mono (Nat.le_trans HB.out.size HAL.out.size)))⟩
      | true =>
       rw [← e24];exact HC.out fq w' ⟨HG.out,by rw [e24]; rfl,by rw [HRG.out,← HEX.out,HPV.out]; simp [*]⟩
    ·obtain ⟨m,hm⟩:∃ m,k=m + 1:=⟨k - 1,by omega⟩;have hml:m < rs.length:=by omega
     have hk0:(0:Int) < (k:Int):=by omega
     have hkm:(k:Int) - 1=(m:Int):=by omega
     have hwm:IntKind.i64.wrap (m:Int)=(m:Int):=by rw [IntKind.wrap_i64]; omega
     have hm1:=bR m;have hm2:(m:Int) < (rs.length:Int):=by omega
     have tm:=ak HAL.out hb (HTP.out m hml);have HPV:Hid (pY (ah rs) rs[k].name k=fD rs[m].name rs[k].name):=xe hm hml;replace hm:Hid (k=m + 1):=hm;cases hless:Op.bytesLess rs[m].name.toList rs[k].name.toList with
     | false =>
      have HN:Hid (cu (ah rs)=false):=HBAD.out (by rw [HRG.out,HPV.out]; simp [fD,hless]);refine ax 25 (fun n=>(u15::u16::u17::u18::u19::u20::u21::u22::u23::u24::u25::u26::u27::u28::u29::u30::u31::u32::u33::u34::u35::u36::u37::u38::u39::[]).getD n undef) (fun fq=>{ tmps:=List.toArray (Value.slice (some ⟨b,off,none⟩) rs.length cap::undef::u2::.int .i64 k::.pointer (some ⟨wr.heap.size,0,none⟩)::.slice (some ⟨b,off,none⟩) rs.length cap::.int .i64 rs.length::.bool (decide (6 < (rs.length:Int)))::.slice (some ⟨b,off,none⟩) rs.length cap::.int .i64 rs.length::.int .i64 k::.bool true::.int .i64 k::.pointer (some ⟨b,off + k * 2,none⟩)::.agg #[.string rs[k].name,.slice rs[k].ad rs[k].rows.length rs[k].cap]::fq 0::fq 1::fq 2::fq 3::fq 4::fq 5::fq 6::fq 7::fq 8::fq 9::fq 10::fq 11::fq 12::fq 13::fq 14::fq 15::fq 16::fq 17::fq 18::fq 19::fq 20::fq 21::fq 22::fq 23::fq 24::u40::[]),defers:=[] }) (fun n v _=>v=(Value.pointer (some ⟨wr.heap.size,0,none⟩)::.string rs[k].name::.bool true::.bool false::.bool false::.int .i64 k::.bool true::.bool true::.slice (some ⟨b,off,none⟩) rs.length cap::.int .i64 k::.int .i64 (m:Int)::.pointer (some ⟨b,off + m * 2,none⟩)::.pointer (some ⟨b,off + m * 2,none⟩)::.string rs[m].name::.pointer (some ⟨wr.heap.size,0,none⟩)::.string rs[k].name::.bool true::.bool true::.bool true::.bool true::undef::undef::undef::undef::.bool true::[]).getD n undef) (fun w'=>Below W1.heap.size W1 w') (by kernel_rfl) rfl (by kernel_rfl) rfl (Below.refl _ _).drew ?stepC ?finC;case stepC =>
       rintro i hi o ho fq w' hG hpre;have HG:Hid (Below W1.heap.size W1 w'):=hG;replace g0:=ak hG hgl g0;replace g1:=ak hG hgl g1;replace tm:=ak hG hb4 tm;have HM:Hid (∀ e ∈ o.after,Region.binds .any e=true→_):=hpre;clear hG hpre;have hc:=tT (i:=i) (by omega);clear hi
       repeat' rcases hc with rfl | hc
       iterate 2
        ·obtain rfl:=Option.some.inj ho;have hm:=HM.out
         try simp [Region.binds] at hm
         refine aa rfl fun K HK=>?_;clear ho HM
         try simp only [hm]
         go_simp;exact HK.out _ _ ⟨_,by simp [upd, *],HG.out,rfl,fun k u hu=>hu⟩
       ·obtain rfl:=Option.some.inj ho;have e1:fq 1=.string rs[k].name:=HM.out ⟨1,.data⟩ (by simp) rfl;refine aa rfl fun K HK=>?_;clear ho HM;simp only [e1];go_simp;refine (aF _ _ z1).mono ?_;rintro e w5 ⟨rfl,rfl⟩;rw [hnm];go_wp2_with fail;exact HK.out _ _ ⟨Value.bool true,by simp [upd,e1],HG.out,rfl,fun k u hu=>hu⟩
       iterate 3
        ·obtain rfl:=Option.some.inj ho;have hm:=HM.out
         try simp [Region.binds] at hm
         refine aa rfl fun K HK=>?_;clear ho HM
         try simp only [hm]
         go_simp;exact HK.out _ _ ⟨_,by simp [upd, *],HG.out,rfl,fun k u hu=>hu⟩
       ·obtain rfl:=Option.some.inj ho;have e5:fq 5=.int .i64 k:=HM.out ⟨5,.data⟩ (by simp) rfl;have e4:fq 4=.bool false:=HM.out ⟨4,.guard⟩ (by simp) rfl;refine aa rfl fun K HK=>?_;clear ho HM;simp only [e5,e4];go_simp;exact HK.out _ _ ⟨Value.bool true,by simp [upd,e5,e4]; omega,HG.out,rfl,fun k u hu=>hu⟩
       iterate 18
        ·obtain rfl:=Option.some.inj ho;have hm:=HM.out
         try simp [Region.binds] at hm
         refine aa rfl fun K HK=>?_;clear ho HM
         try simp only [hm]
         go_simp;exact HK.out _ _ ⟨_,by simp [upd, *],HG.out,rfl,fun k u hu=>hu⟩
      case finC =>
       rintro fq w' hG hall;have e24:fq 24=.bool true:=hall 24 (by omega);have HG:Hid (Below W1.heap.size W1 w'):=hG;clear hG hall;rw [e24];go_wp2;go_ret;exact ⟨ag HN.out.symm,HB.out.trans ((HAL.out.mono HB.out.size).trans (HG.out.mono (Nat.le_trans HB.out.size HAL.out.size)))⟩
     | true =>
      refine ax 25 (fun n=>(u15::u16::u17::u18::u19::u20::u21::u22::u23::u24::u25::u26::u27::u28::u29::u30::u31::u32::u33::u34::u35::u36::u37::u38::u39::[]).getD n undef) (fun fq=>{ tmps:=List.toArray (Value.slice (some ⟨b,off,none⟩) rs.length cap::undef::u2::.int .i64 k::.pointer (some ⟨wr.heap.size,0,none⟩)::.slice (some ⟨b,off,none⟩) rs.length cap::.int .i64 rs.length::.bool (decide (6 < (rs.length:Int)))::.slice (some ⟨b,off,none⟩) rs.length cap::.int .i64 rs.length::.int .i64 k::.bool true::.int .i64 k::.pointer (some ⟨b,off + k * 2,none⟩)::.agg #[.string rs[k].name,.slice rs[k].ad rs[k].rows.length rs[k].cap]::fq 0::fq 1::fq 2::fq 3::fq 4::fq 5::fq 6::fq 7::fq 8::fq 9::fq 10::fq 11::fq 12::fq 13::fq 14::fq 15::fq 16::fq 17::fq 18::fq 19::fq 20::fq 21::fq 22::fq 23::fq 24::u40::[]),defers:=[] }) (fun n v _=>v=(Value.pointer (some ⟨wr.heap.size,0,none⟩)::.string rs[k].name::.bool true::.bool false::.bool false::.int .i64 k::.bool true::.bool true::.slice (some ⟨b,off,none⟩) rs.length cap::.int .i64 k::.int .i64 (m:Int)::.pointer (some ⟨b,off + m * 2,none⟩)::.pointer (some ⟨b,off + m * 2,none⟩)::.string rs[m].name::.pointer (some ⟨wr.heap.size,0,none⟩)::.string rs[k].name::.bool false::.bool false::.bool false::.bool false::.pointer (some ⟨wr.heap.size,1,none⟩)::.slice rs[k].ad rs[k].rows.length rs[k].cap::.bool ex::.bool (!ex)::.bool (!ex)::[]).getD n undef) (fun w'=>Below W1.heap.size W1 w') (by kernel_rfl) rfl (by kernel_rfl) rfl (Below.refl _ _).drew ?stepD ?finD;case stepD =>
       rintro i hi o ho fq w' hG hpre;have HG:Hid (Below W1.heap.size W1 w'):=hG;replace g0:=ak hG hgl g0;replace g1:=ak hG hgl g1;replace tm:=ak hG hb4 tm;have HM:Hid (∀ e ∈ o.after,Region.binds .any e=true→_):=hpre;clear hG hpre;have hc:=tT (i:=i) (by omega);clear hi
       repeat' rcases hc with rfl | hc
       iterate 2
        ·obtain rfl:=Option.some.inj ho;have hm:=HM.out
         try simp [Region.binds] at hm
         refine aa rfl fun K HK=>?_;clear ho HM
         try simp only [hm]
         go_simp;exact HK.out _ _ ⟨_,by simp [upd, *],HG.out,rfl,fun k u hu=>hu⟩
       ·obtain rfl:=Option.some.inj ho;have e1:fq 1=.string rs[k].name:=HM.out ⟨1,.data⟩ (by simp) rfl;refine aa rfl fun K HK=>?_;clear ho HM;simp only [e1];go_simp;refine (aF _ _ z1).mono ?_;rintro e w5 ⟨rfl,rfl⟩;rw [hnm];go_wp2_with fail;exact HK.out _ _ ⟨Value.bool true,by simp [upd,e1],HG.out,rfl,fun k u hu=>hu⟩
       iterate 3
        ·obtain rfl:=Option.some.inj ho;have hm:=HM.out
         try simp [Region.binds] at hm
         refine aa rfl fun K HK=>?_;clear ho HM
         try simp only [hm]
         go_simp;exact HK.out _ _ ⟨_,by simp [upd, *],HG.out,rfl,fun k u hu=>hu⟩
       ·obtain rfl:=Option.some.inj ho;have e5:fq 5=.int .i64 k:=HM.out ⟨5,.data⟩ (by simp) rfl;have e4:fq 4=.bool false:=HM.out ⟨4,.guard⟩ (by simp) rfl;refine aa rfl fun K HK=>?_;clear ho HM;simp only [e5,e4];go_simp;exact HK.out _ _ ⟨Value.bool true,by simp [upd,e5,e4]; omega,HG.out,rfl,fun k u hu=>hu⟩
       iterate 15
        ·obtain rfl:=Option.some.inj ho;have hm:=HM.out
         try simp [Region.binds] at hm
         refine aa rfl fun K HK=>?_;clear ho HM
         try simp only [hm]
         go_simp;exact HK.out _ _ ⟨_,by simp [upd, *],HG.out,rfl,fun k u hu=>hu⟩
       ·obtain rfl:=Option.some.inj ho;have e21:fq 21=.slice rs[k].ad rs[k].rows.length rs[k].cap:=HM.out ⟨21,.data⟩ (by simp) rfl;have e19:fq 19=.bool false:=HM.out ⟨19,.guard⟩ (by simp) rfl;refine aa rfl fun K HK=>?_;clear ho HM;simp only [e21,e19];go_simp;refine (ni _ _ rs[k].rows _ HLG.out.1 (HSE.out.below (HAL.out.trans (HG.out.mono HAL.out.size))) HLG.out.2 HFE.out.2.2 HCP.out.2).mono ?_;rintro e w5 ⟨rfl,hb5⟩;have HG5:=gW HG hb5;rw [← HEXC.out];clear hb5;go_wp2_with fail;exact HK.out _ _ ⟨Value.bool ex,by simp [upd,e21,e19],HG5.out,rfl,fun k u hu=>hu⟩
       iterate 2
        ·obtain rfl:=Option.some.inj ho;have hm:=HM.out
         try simp [Region.binds] at hm
         refine aa rfl fun K HK=>?_;clear ho HM
         try simp only [hm]
         go_simp;exact HK.out _ _ ⟨_,by simp [upd, *],HG.out,rfl,fun k u hu=>hu⟩
      case finD =>
       rintro fq w' hG hall;have e24:fq 24=.bool (!ex):=hall 24 (by omega);have HG:Hid (Below W1.heap.size W1 w'):=hG;clear hG hall;rw [e24];cases ex with
       | false =>
        have HN:Hid (cu (ah rs)=false):=HBAD.out (by rw [HRG.out,← HEX.out]; simp);simp only [Bool.not_false];go_wp2;go_ret;exact ⟨ag HN.out.symm,HB.out.trans ((HAL.out.mono HB.out.size).trans (HG.out.mono (Nat.le_trans HB.out.size HAL.out.size)))⟩
       | true =>
        rw [← e24];exact HC.out fq w' ⟨HG.out,by rw [e24]; rfl,by rw [HRG.out,← HEX.out,HPV.out]; simp [fD, *]⟩
  ·obtain rfl:k=rs.length:=by omega
   have HY:Hid (cu (ah rs)=true):=by show _=_; rw [HALL.out,HP.out]; simp; omega
   go_wp2;go_ret;exact ⟨ag HY.out.symm,HB.out⟩
end Go.Proofs.YteoflgocljfgeaaGreatDoor
