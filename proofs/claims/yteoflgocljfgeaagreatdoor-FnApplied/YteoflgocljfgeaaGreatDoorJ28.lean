/- The contract of the program's look at the allowed pairs of a node. -/
import Derived.Test.YteoflgocljfgeaaGreatDoorJ24
open Go.Proofs.Tryz
set_option maxHeartbeats 80000000
namespace Go.Proofs.YteoflgocljfgeaaGreatDoor
open Go.ChangeShapes Go.WideShapes Go.ChangeAt Go.RowKit
open Pl
theorem Cm (ad:Option Addr) (cap:Nat) (xs:List Al) (w:World) (hlen:xs.length≤1048576) (hcap:xs.length≤cap) (hf:∀ a ∈ xs,a.fits) (hs:kF w ad xs) :
  Calls prog 182 #[.slice ad xs.length cap] w fun e w'=>e=.returned (.bool (dB xs))∧Below w.heap.size w w':=by
 have HS:Hid (kF w ad xs):=hs;have HF:Hid (∀ a ∈ xs,a.fits):=hf;clear hs hf;by_cases hl:1≤xs.length∧xs.length≤6
 ·obtain ⟨hl1,hl2⟩:=hl;go_enter func182,ntmps182;go_wp2_with fail;go_loopw [15] (fun i wr=>∃ k:Nat,k≤xs.length∧i=.int .i64 k∧Hid (yw xs k=true)∧Below w.heap.size w wr) (fun i _=>xs.length - (intOf i).toNat);case atStart=>exact ⟨0,Nat.zero_le _,rfl,rfl,Below.refl _ _⟩
  case round =>
   obtain ⟨k,hk,rfl,HU,hB⟩:=hrel;by_cases hlt:k < xs.length
   ·rcases HS.out.below hB with rfl | ⟨b,off,rfl,hb,hr⟩
    ·simp at hlt
    obtain ⟨t0,t1⟩:=hr k hlt;obtain ⟨z0,z1⟩:=HF.out xs[k] (List.getElem_mem hlt);have hk1:=bR k;have hk2:(k:Int)≤(cap:Int):=by omega
    obtain ⟨W1,hW1⟩:∃ W1,W1=wr.alloc (.cells #[.string xs[k].t,.string xs[k].s] 149):=⟨_,rfl⟩;have hal:Below wr.heap.size wr W1:=by rw [hW1]; exact (Below.refl _ _).alloc (Nat.le_refl _) _
    have hBW1:Below w.heap.size wr W1:=hal.mono hB.size;have hWs:w.heap.size≤W1.heap.size:=Nat.le_trans hB.size hal.size;have hgl:wr.heap.size < W1.heap.size:=by rw [hW1]; simp
    have g0:W1.cell? ⟨wr.heap.size,0,none⟩=some (.string xs[k].t):=by rw [hW1]; simp
    have g1:W1.cell? ⟨wr.heap.size,1,none⟩=some (.string xs[k].s):=by rw [hW1]; simp
    have HS1:Hid (kF W1 (some ⟨b,off,none⟩) xs):=(HS.out.below hB).below hal;clear hr;go_wp2_with fail;rw [← hW1];clear hW1 t0 t1 hal;cases hn:aU xs[k].t with
    | false =>
     have HN:Hid (yw xs xs.length=false):=kG xs k hlt (by simp [Br,hn]) _ hlt;refine ax 17 (fun n=>[u20,u21,u22,u23,u24,u25,u26,u27,u28,u29,u30,u31,u32,u33,u34,u35,u36].getD n undef) (fun f=>{ tmps:=#[.slice (some ⟨b,off,none⟩) xs.length cap,undef,u2,.int .i64 (k:Int),.pointer (some ⟨wr.heap.size,0,none⟩),.slice (some ⟨b,off,none⟩) xs.length cap,.int .i64 (xs.length:Int),.bool (decide ((xs.length:Int) < 1)),.bool (decide ((xs.length:Int) < 1)),.slice (some ⟨b,off,none⟩) xs.length cap,.int .i64 (xs.length:Int),.bool (decide (6 < (xs.length:Int))),.bool (decide ((xs.length:Int) < 1) || decide (6 < (xs.length:Int))),.slice (some ⟨b,off,none⟩) xs.length cap,.int .i64 (xs.length:Int),.int .i64 (k:Int),.bool true,.int .i64 (k:Int),.pointer (some ⟨b,off + k * 2,none⟩),.agg #[.string xs[k].t,.string xs[k].s],f 0,f 1,f 2,f 3,f 4,f 5,f 6,f 7,f 8,f 9,f 10,f 11,f 12,f 13,f 14,f 15,f 16,u37],defers:=[] }) (fun n v _=>v=[Value.pointer (some ⟨wr.heap.size,0,none⟩),.string xs[k].t,.bool false,.bool true,.bool true,undef,undef,undef,undef,.bool true,.bool true,undef,undef,undef,undef,undef,.bool true].getD n undef) (fun w'=>Below W1.heap.size W1 w') (by kernel_rfl) rfl (by kernel_rfl) rfl (Below.refl _ _).drew ?step1 ?fin1;case step1 =>
      rintro i hi o ho f w' hG hpre;have HG:Hid (Below W1.heap.size W1 w'):=hG;have p0:=kept hG hgl g0;have p1:=kept hG hgl g1;have HM:Hid (∀ e ∈ o.after,Region.binds .any e=true→_):=hpre;clear hG hpre;have hc:=Hq (i:=i) (by omega);clear hi
      repeat' rcases hc with rfl | hc
      iterate 2
       ·obtain rfl:=Option.some.inj ho;have hm:=HM.out
        try simp [Region.binds] at hm
        refine aa rfl fun K HK=>?_;clear ho HM
        try simp only [hm]
        go_simp;exact HK.out _ _ ⟨_,by simp [upd, *],HG.out,rfl,fun k u hu=>hu⟩
      ·obtain rfl:=Option.some.inj ho;have e1:f 1=Value.string xs[k].t:=HM.out ⟨1,.data⟩ (by simp) rfl;refine aa rfl fun K HK=>?_;clear ho HM;simp only [e1];go_simp;refine (aF _ _ z0).mono ?_;rintro e w5 ⟨rfl,rfl⟩;rw [hn];go_wp2_with fail;exact HK.out _ _ ⟨Value.bool false,by simp [upd,e1],HG.out,rfl,fun k u hu=>hu⟩
      iterate 14
       ·obtain rfl:=Option.some.inj ho;have hm:=HM.out
        try simp [Region.binds] at hm
        refine aa rfl fun K HK=>?_;clear ho HM
        try simp only [hm]
        go_simp;exact HK.out _ _ ⟨_,by simp [upd, *],HG.out,rfl,fun k u hu=>hu⟩
     case fin1 =>
      rintro f w' hG hall;have e16:f 16=Value.bool true:=hall 16 (by omega);have HG:Hid (Below W1.heap.size W1 w'):=hG;clear hG hall;dsimp only;rw [e16];go_wp2;go_ret;exact ⟨ag (by simp [dB,HN.out]),hB.trans (hBW1.trans (HG.out.mono hWs))⟩
    | true =>
     cases hsb:qO xs[k].s with
     | false =>
      have HN:Hid (yw xs xs.length=false):=kG xs k hlt (by simp [Br,hn,hsb]) _ hlt;refine ax 17 (fun n=>[u20,u21,u22,u23,u24,u25,u26,u27,u28,u29,u30,u31,u32,u33,u34,u35,u36].getD n undef) (fun f=>{ tmps:=#[.slice (some ⟨b,off,none⟩) xs.length cap,undef,u2,.int .i64 (k:Int),.pointer (some ⟨wr.heap.size,0,none⟩),.slice (some ⟨b,off,none⟩) xs.length cap,.int .i64 (xs.length:Int),.bool (decide ((xs.length:Int) < 1)),.bool (decide ((xs.length:Int) < 1)),.slice (some ⟨b,off,none⟩) xs.length cap,.int .i64 (xs.length:Int),.bool (decide (6 < (xs.length:Int))),.bool (decide ((xs.length:Int) < 1) || decide (6 < (xs.length:Int))),.slice (some ⟨b,off,none⟩) xs.length cap,.int .i64 (xs.length:Int),.int .i64 (k:Int),.bool true,.int .i64 (k:Int),.pointer (some ⟨b,off + k * 2,none⟩),.agg #[.string xs[k].t,.string xs[k].s],f 0,f 1,f 2,f 3,f 4,f 5,f 6,f 7,f 8,f 9,f 10,f 11,f 12,f 13,f 14,f 15,f 16,u37],defers:=[] }) (fun n v _=>v=[Value.pointer (some ⟨wr.heap.size,0,none⟩),.string xs[k].t,.bool true,.bool false,.bool false,.pointer (some ⟨wr.heap.size,1,none⟩),.string xs[k].s,.bool false,.bool true,.bool true,.bool true,undef,undef,undef,undef,undef,.bool true].getD n undef) (fun w'=>Below W1.heap.size W1 w') (by kernel_rfl) rfl (by kernel_rfl) rfl (Below.refl _ _).drew ?step2 ?fin2;case step2 =>
       rintro i hi o ho f w' hG hpre;have HG:Hid (Below W1.heap.size W1 w'):=hG;have p0:=kept hG hgl g0;have p1:=kept hG hgl g1;have HM:Hid (∀ e ∈ o.after,Region.binds .any e=true→_):=hpre;clear hG hpre;have hc:=Hq (i:=i) (by omega);clear hi
       repeat' rcases hc with rfl | hc
       iterate 2
        ·obtain rfl:=Option.some.inj ho;have hm:=HM.out
         try simp [Region.binds] at hm
         refine aa rfl fun K HK=>?_;clear ho HM
         try simp only [hm]
         go_simp;exact HK.out _ _ ⟨_,by simp [upd, *],HG.out,rfl,fun k u hu=>hu⟩
       ·obtain rfl:=Option.some.inj ho;have e1:f 1=Value.string xs[k].t:=HM.out ⟨1,.data⟩ (by simp) rfl;refine aa rfl fun K HK=>?_;clear ho HM;simp only [e1];go_simp;refine (aF _ _ z0).mono ?_;rintro e w5 ⟨rfl,rfl⟩;rw [hn];go_wp2_with fail;exact HK.out _ _ ⟨Value.bool true,by simp [upd,e1],HG.out,rfl,fun k u hu=>hu⟩
       iterate 4
        ·obtain rfl:=Option.some.inj ho;have hm:=HM.out
         try simp [Region.binds] at hm
         refine aa rfl fun K HK=>?_;clear ho HM
         try simp only [hm]
         go_simp;exact HK.out _ _ ⟨_,by simp [upd, *],HG.out,rfl,fun k u hu=>hu⟩
       ·obtain rfl:=Option.some.inj ho;have e6:f 6=Value.string xs[k].s:=HM.out ⟨6,.data⟩ (by simp) rfl;have e4:f 4=Value.bool false:=HM.out ⟨4,.guard⟩ (by simp) rfl;refine aa rfl fun K HK=>?_;clear ho HM;simp only [e6,e4];go_simp;refine (vH _ _ z1).mono ?_;rintro e w5 ⟨rfl,rfl⟩;rw [hsb];go_wp2_with fail;exact HK.out _ _ ⟨Value.bool false,by simp [upd,e6,e4],HG.out,rfl,fun k u hu=>hu⟩
       iterate 9
        ·obtain rfl:=Option.some.inj ho;have hm:=HM.out
         try simp [Region.binds] at hm
         refine aa rfl fun K HK=>?_;clear ho HM
         try simp only [hm]
         go_simp;exact HK.out _ _ ⟨_,by simp [upd, *],HG.out,rfl,fun k u hu=>hu⟩
      case fin2 =>
       rintro f w' hG hall;have e16:f 16=Value.bool true:=hall 16 (by omega);have HG:Hid (Below W1.heap.size W1 w'):=hG;clear hG hall;dsimp only;rw [e16];go_wp2;go_ret;exact ⟨ag (by simp [dB,HN.out]),hB.trans (hBW1.trans (HG.out.mono hWs))⟩
     | true =>
      obtain ⟨p,hp⟩:∃ p,dz xs k xs[k]=p:=⟨_,rfl⟩;refine ax 17 (fun n=>[u20,u21,u22,u23,u24,u25,u26,u27,u28,u29,u30,u31,u32,u33,u34,u35,u36].getD n undef) (fun f=>{ tmps:=#[.slice (some ⟨b,off,none⟩) xs.length cap,undef,u2,.int .i64 (k:Int),.pointer (some ⟨wr.heap.size,0,none⟩),.slice (some ⟨b,off,none⟩) xs.length cap,.int .i64 (xs.length:Int),.bool (decide ((xs.length:Int) < 1)),.bool (decide ((xs.length:Int) < 1)),.slice (some ⟨b,off,none⟩) xs.length cap,.int .i64 (xs.length:Int),.bool (decide (6 < (xs.length:Int))),.bool (decide ((xs.length:Int) < 1) || decide (6 < (xs.length:Int))),.slice (some ⟨b,off,none⟩) xs.length cap,.int .i64 (xs.length:Int),.int .i64 (k:Int),.bool true,.int .i64 (k:Int),.pointer (some ⟨b,off + k * 2,none⟩),.agg #[.string xs[k].t,.string xs[k].s],f 0,f 1,f 2,f 3,f 4,f 5,f 6,f 7,f 8,f 9,f 10,f 11,f 12,f 13,f 14,f 15,f 16,u37],defers:=[] }) (fun n v _=>v=[Value.pointer (some ⟨wr.heap.size,0,none⟩),.string xs[k].t,.bool true,.bool false,.bool false,.pointer (some ⟨wr.heap.size,1,none⟩),.string xs[k].s,.bool true,.bool false,.bool false,.bool false,.slice (some ⟨b,off,none⟩) xs.length cap,.int .i64 (k:Int),.slice (some ⟨b,off,none⟩) k cap,.agg #[.string xs[k].t,.string xs[k].s],.bool p,.bool p].getD n undef) (fun w'=>Below W1.heap.size W1 w') (by kernel_rfl) rfl (by kernel_rfl) rfl (Below.refl _ _).drew ?step3 ?fin3;case step3 =>
       rintro i hi o ho f w' hG hpre;have HG:Hid (Below W1.heap.size W1 w'):=hG;have p0:=kept hG hgl g0;have p1:=kept hG hgl g1;have HM:Hid (∀ e ∈ o.after,Region.binds .any e=true→_):=hpre;clear hG hpre;have hc:=Hq (i:=i) (by omega);clear hi
       repeat' rcases hc with rfl | hc
       iterate 2
        ·obtain rfl:=Option.some.inj ho;have hm:=HM.out
         try simp [Region.binds] at hm
         refine aa rfl fun K HK=>?_;clear ho HM
         try simp only [hm]
         go_simp;exact HK.out _ _ ⟨_,by simp [upd, *],HG.out,rfl,fun k u hu=>hu⟩
       ·obtain rfl:=Option.some.inj ho;have e1:f 1=Value.string xs[k].t:=HM.out ⟨1,.data⟩ (by simp) rfl;refine aa rfl fun K HK=>?_;clear ho HM;simp only [e1];go_simp;refine (aF _ _ z0).mono ?_;rintro e w5 ⟨rfl,rfl⟩;rw [hn];go_wp2_with fail;exact HK.out _ _ ⟨Value.bool true,by simp [upd,e1],HG.out,rfl,fun k u hu=>hu⟩
       iterate 4
        ·obtain rfl:=Option.some.inj ho;have hm:=HM.out
         try simp [Region.binds] at hm
         refine aa rfl fun K HK=>?_;clear ho HM
         try simp only [hm]
         go_simp;exact HK.out _ _ ⟨_,by simp [upd, *],HG.out,rfl,fun k u hu=>hu⟩
       ·obtain rfl:=Option.some.inj ho;have e6:f 6=Value.string xs[k].s:=HM.out ⟨6,.data⟩ (by simp) rfl;have e4:f 4=Value.bool false:=HM.out ⟨4,.guard⟩ (by simp) rfl;refine aa rfl fun K HK=>?_;clear ho HM;simp only [e6,e4];go_simp;refine (vH _ _ z1).mono ?_;rintro e w5 ⟨rfl,rfl⟩;rw [hsb];go_wp2_with fail;exact HK.out _ _ ⟨Value.bool true,by simp [upd,e6,e4],HG.out,rfl,fun k u hu=>hu⟩
       iterate 5
        ·obtain rfl:=Option.some.inj ho;have hm:=HM.out
         try simp [Region.binds] at hm
         refine aa rfl fun K HK=>?_;clear ho HM
         try simp only [hm]
         go_simp;exact HK.out _ _ ⟨_,by simp [upd, *],HG.out,rfl,fun k u hu=>hu⟩
       ·obtain rfl:=Option.some.inj ho;have e11:f 11=Value.slice (some ⟨b,off,none⟩) xs.length cap:=HM.out ⟨11,.data⟩ (by simp) rfl;have e12:f 12=Value.int .i64 (k:Int):=HM.out ⟨12,.data⟩ (by simp) rfl;have e10:f 10=Value.bool false:=HM.out ⟨10,.guard⟩ (by simp) rfl;refine aa rfl fun K HK=>?_;clear ho HM;simp only [e11,e12,e10];go_simp;go_wp2_with fail;exact HK.out _ _ ⟨Value.slice (some ⟨b,off,none⟩) k cap,by simp [upd,e11,e12,e10],HG.out,rfl,fun k u hu=>hu⟩
       ·obtain rfl:=Option.some.inj ho;have e10:f 10=Value.bool false:=HM.out ⟨10,.guard⟩ (by simp) rfl;refine aa rfl fun K HK=>?_;clear ho HM;simp only [e10];go_simp;exact HK.out _ _ ⟨Value.agg #[.string xs[k].t,.string xs[k].s],by simp [upd,e10],HG.out,rfl,fun k u hu=>hu⟩
       ·obtain rfl:=Option.some.inj ho;have e13:f 13=Value.slice (some ⟨b,off,none⟩) k cap:=HM.out ⟨13,.data⟩ (by simp) rfl;have e14:f 14=Value.agg #[.string xs[k].t,.string xs[k].s]:=HM.out ⟨14,.data⟩ (by simp) rfl;have e10:f 10=Value.bool false:=HM.out ⟨10,.guard⟩ (by simp) rfl;refine aa rfl fun K HK=>?_;clear ho HM;simp only [e13,e14,e10];go_simp;refine (rR (some ⟨b,off,none⟩) k cap xs xs[k] _ hk hlen (HS1.out.below HG.out)).mono ?_;rintro e w5 ⟨he,hb5⟩;rw [hp] at he;subst he;have HG5:=gW HG hb5;clear hb5;go_wp2_with fail;exact HK.out _ _ ⟨Value.bool p,by simp [upd,e13,e14,e10],HG5.out,rfl,fun k u hu=>hu⟩
       ·obtain rfl:=Option.some.inj ho;have e10:f 10=Value.bool false:=HM.out ⟨10,.data⟩ (by simp) rfl;have e15:f 15=Value.bool p:=HM.out ⟨15,.data⟩ (by simp) rfl;refine aa rfl fun K HK=>?_;clear ho HM;simp only [e10,e15];go_simp;exact HK.out _ _ ⟨Value.bool p,by simp [upd,e10,e15],HG.out,rfl,fun k u hu=>hu⟩
      case fin3 =>
       rintro f w' hG hall;have e16:f 16=Value.bool p:=hall 16 (by omega);have HG:Hid (Below W1.heap.size W1 w'):=hG;clear hG hall;dsimp only;rw [e16];cases p with
       | true =>
        have HN:Hid (yw xs xs.length=false):=kG xs k hlt (by simp [hp]) _ hlt;go_wp2;go_ret;exact ⟨ag (by simp [dB,HN.out]),hB.trans (hBW1.trans (HG.out.mono hWs))⟩
       | false =>
        have HU2:Hid (yw xs (k + 1)=true):=by show _=_; rw [qR _ _ hlt,HU.out]; simp [Br,hn,hsb,hp]
        go_wp2;go_roundw;case rel=>exact ⟨k + 1,by omega,by go_num,HU2,hB.trans (hBW1.trans (HG.out.mono hWs))⟩
        case measure=>simp [intOf] <;> omega
   ·obtain rfl:k=xs.length:=by omega
    have HAW:Hid (dB xs=true):=by show _=_; simp [dB,hl1,hl2,HU.out]
    go_wp2;go_ret;exact ⟨by rw [HAW.out]; rfl,hB⟩
 ·have HAW:Hid (dB xs=false):=by
   show _=_;unfold dB;by_cases h1:1≤xs.length
   ·have h2:¬ xs.length≤6:=fun h2=>hl ⟨h1,h2⟩;simp [h2]
   ·simp [h1]
  go_enter func182,ntmps182;go_wp2_with fail
  all_goals go_ret
  all_goals exact ⟨by rw [HAW.out]; rfl,Below.refl _ _⟩
set_option maxRecDepth 8000 in
theorem Cn (r:ER) (w:World) (hf:r.e.fits) (hl:r.e.light) (hok:r.ok w) (hcap:r.e.allow.length≤r.capA) (h1:r.e.kind=1) :
  Calls prog 172 #[r.val] w fun e w'=>e=.returned (.bool (ay r.e))∧Below w.heap.size w w':=by
 obtain ⟨⟨kind,allow,over,name,kids⟩,adA,capA,adK,capK⟩:=r;obtain ⟨f1,f2,f3,f4,f5⟩:=hf;obtain ⟨hA,hK⟩:=hok;obtain ⟨l1,l2⟩:=hl;simp only at f1 f2 f3 f4 f5 h1 hA hK hcap l1 l2;subst h1;simp only [ER.val];unfold maxLen at f4 f5;have HB0:Hid (∀ n,Below w.heap.size w ((w.alloc (.cells #[.int .i64 1,.slice adA allow.length capA,.string over,.string name,.slice adK kids.length capK] 139)).drewN n)):=fun n=>below_drewN ((Below.refl w.heap.size w).alloc (Nat.le_refl _) _) n;have HA:Hid (kF w adA allow):=hA;have HF1:Hid (∀ a ∈ allow,a.fits):=f1;have HCAP:Hid (allow.length≤capA):=hcap;clear hA hK f1 hcap;go_enter func172,ntmps172;go_wp2_with fail;go_quiet (fail);go_wp2_with fail;refine (Cm adA capA allow _ l1 HCAP.out HF1.out (HA.out.below (HB0.out _))).mono ?_;rintro e w1 ⟨rfl,hb1⟩;have c2:w1.cell? ⟨w.heap.size,2,none⟩=some (.string over):=by rw [hb1.cell (p:=⟨w.heap.size,2,none⟩) (by show _ < (w.alloc _).heap.size; simp)]; show (w.alloc _).cell? _=_; simp
 have c3:w1.cell? ⟨w.heap.size,3,none⟩=some (.string name):=by rw [hb1.cell (p:=⟨w.heap.size,3,none⟩) (by show _ < (w.alloc _).heap.size; simp)]; show (w.alloc _).cell? _=_; simp
 have HB1:Hid (Below w.heap.size w w1):=(HB0.out _).trans (hb1.mono (HB0.out _).size);clear hb1 HB0;go_wp2
 all_goals go_ret
 all_goals exact ⟨ag (by first | (simp [ay, *]; done) | (simp [ay, *]; omega) | (simp [ay, *]; rw [Bool.eq_iff_iff]; simp; done) | (simp [ay, *]; rw [Bool.eq_iff_iff]; simp; omega)),HB1.out⟩
theorem Ej (r:ER) (w:World) (hf:r.e.fits) (hl:r.e.light) (hok:r.ok w) (hcap:r.e.allow.length≤r.capA) :
  Calls prog 172 #[r.val] w fun e w'=>e=.returned (.bool (ay r.e))∧Below w.heap.size w w':=by
 by_cases h:r.e.kind=1
 ·exact Cn r w hf hl hok hcap h
 ·exact AP r w hf h
structure Arr (es:List Ex) (w:World) (g k:Nat):Prop where
 lt:g < w.heap.size
 told:∀ j,j < k→w.cell? ⟨g,j,none⟩=some (.int .i64 (aH es j))
 rest:∀ j,k≤j→j < 15→w.cell? ⟨g,j,none⟩=some (.int .i64 0)
 free:∀ o,w.frozen? ⟨g,o,none⟩=false
theorem Arr.later {es:List Ex} {w w':World} {g k:Nat} (h:Arr es w g k) (hb:Below w.heap.size w w'):Arr es w' g k where
 lt:=Nat.lt_of_lt_of_le h.lt hb.size
 told j hj:=kept hb h.lt (h.told j hj)
 rest j h1 h2:=kept hb h.lt (h.rest j h1 h2)
 free o:=M8 hb h.lt (h.free o)
theorem Arr.put {es:List Ex} {w:World} {g k:Nat} (h:Arr es w g k) (hk:k < 15):Arr es (w.setCell ⟨g,k,none⟩ (.int .i64 (aH es k))) g (k + 1) where
 lt:=by simpa using h.lt
 told j hj:=by
  by_cases e:j=k
  ·subst e; exact vI (h.rest j (Nat.le_refl _) hk)
  ·rw [nA (Ne.symm e)]; exact h.told j (by omega)
 rest j h1 h2:=by rw [nA (by omega)]; exact h.rest j (by omega) h2
 free o:=by simpa using h.free o
def rX (es:List Ex):Bool:=ib es && decide (aH es (es.length - 1)=0)
theorem zL {es:List Ex} (k:Nat) (h:k < es.length) (hb:aH es k < 0):rX es=false:=by
 have:ib es=false:=by
  rw [Bool.eq_false_iff]; intro h2; unfold ib at h2; rw [List.all_eq_true] at h2; have:=h2 k (by simpa using h); simp at this; omega
 simp [rX,this]
theorem uR (b off cap:Nat) (rs:List ER) (w:World) (hn1:1≤rs.length) (hn2:rs.length≤15) (hl:∀ r ∈ rs,r.e.light) (hb:b < w.heap.size) (hr:∀ (i:Nat) (h:i < rs.length),ve w b (off + i * 5) rs[i]) (hok:∀ r ∈ rs,r.ok w) :
  Calls prog 173 #[.slice (some ⟨b,off,none⟩) rs.length cap] w fun e w'=>e=.returned (.bool (rX (au rs)))∧Below w.heap.size w w':=by
 have HEL:Hid ((au rs).length=rs.length):=bq rs;have HL:Hid (∀ r ∈ rs,r.e.light):=hl;have HR:Hid (∀ (i:Nat) (h:i < rs.length),ve w b (off + i * 5) rs[i]):=hr;have HO:Hid (∀ r ∈ rs,r.ok w):=hok;clear hl hr hok;go_enter func173,ntmps173;go_wp2_with fail;go_loopw [10] (fun i wr=>∃ k:Nat,k≤rs.length∧i=.int .i64 k∧Hid (Ic (au rs) k)∧Hid (Arr (au rs) wr w.heap.size k)∧Below w.heap.size w wr) (fun i _=>rs.length - (intOf i).toNat);case atStart =>
  refine ⟨0,Nat.zero_le _,rfl,(fun j hj=>absurd hj (Nat.not_lt_zero _)),⟨by simp,(fun j hj=>absurd hj (Nat.not_lt_zero _)),fun j _ hj=>?_,fun o=>by simp⟩,(Below.refl _ _).alloc (Nat.le_refl _) _⟩;have h15:j=0 ∨ j=1 ∨ j=2 ∨ j=3 ∨ j=4 ∨ j=5 ∨ j=6 ∨ j=7 ∨ j=8 ∨ j=9 ∨ j=10 ∨ j=11 ∨ j=12 ∨ j=13 ∨ j=14:=by omega
  rcases h15 with rfl | rfl | rfl | rfl | rfl | rfl | rfl | rfl | rfl | rfl | rfl | rfl | rfl | rfl | rfl <;> simp
 case round =>
  obtain ⟨k,hk,rfl,HGU,HAR,hB⟩:=hrel;by_cases hlt:k < rs.length
  ·have hltE:k < (au rs).length:=by rw [HEL.out]; exact hlt
   obtain ⟨t0,t1,t2,t3,t4⟩:=(HR.out k hlt).later hb hB;have hk1:=bR k;have hk2:(k:Int) < (rs.length:Int):=by omega
   have hk3:(k:Int) < 15:=by omega
   obtain ⟨-,lk⟩:=HL.out rs[k] (List.getElem_mem hlt);obtain ⟨W1,hW1⟩:∃ W1,W1=wr.alloc (.cells #[.int .i64 rs[k].e.kind,.slice rs[k].adA rs[k].e.allow.length rs[k].capA,.string rs[k].e.over,.string rs[k].e.name,.slice rs[k].adK rs[k].e.kids.length rs[k].capK] 139):=⟨_,rfl⟩;have hal:Below wr.heap.size wr W1:=by rw [hW1]; exact (Below.refl _ _).alloc (Nat.le_refl _) _
   have hB1:Below w.heap.size w W1:=hB.trans (hal.mono hB.size);have HAR1:Hid (Arr (au rs) W1 w.heap.size k):=HAR.out.later hal;have s4:W1.cell? ⟨wr.heap.size,4,none⟩=some (.slice rs[k].adK rs[k].e.kids.length rs[k].capK):=by rw [hW1]; simp
   have HT:Hid (bZ (dA (au rs) k) (rs[k].e.kids.take rs[k].e.kids.length).reverse ((k:Int) - 1)=aH (au rs) k):=by
    show _=_;rw [List.take_length,iL (au rs) k,mg rs k hlt]
   clear HAR;go_wp2_with fail;rw [← hW1];clear hW1 t0 t1 t2 t3 t4 hal;go_loopw [6,7] (fun x i w2=>∃ (j:Nat) (y:Int),j≤rs[k].e.kids.length∧i=.int .i64 ((j:Int) - 1)∧x=.int .i64 y∧0≤y∧y≤k∧Hid (bZ (dA (au rs) k) (rs[k].e.kids.take j).reverse (y - 1)=aH (au rs) k)∧w2=W1) (fun _ i _=>(intOf i + 1).toNat);case atStart=>exact ⟨rs[k].e.kids.length,(k:Int),Nat.le_refl _,rfl,rfl,by omega,by omega,HT,rfl⟩
   case round =>
    obtain ⟨j,y,hj,rfl,rfl,hy0,hy1,HG,rfl⟩:=hrel;by_cases hj0:0 < j
    ·obtain ⟨j,rfl⟩:∃ i,j=i + 1:=⟨j - 1,by omega⟩;have hjl:j < rs[k].e.kids.length:=by omega
     rcases (HO.out rs[k] (List.getElem_mem hlt)).2.below hB1 with hnil | ⟨bk,offk,hadk,hbk,hrk⟩
     ·rw [hnil] at hjl; simp at hjl
     have s4':=s4;rw [hadk] at s4';have k0:=hrk j hjl;have hji:((j + 1:Nat):Int) - 1=(j:Int):=by omega
     have hj1:=bR j;have hj2:(j:Int) < (rs[k].e.kids.length:Int):=by omega
     have HG2:Hid ((if y - 1 < 0 ∨ rs[k].e.kids[j] ≠ y - 1 then -1 else if dA (au rs) k (y - 1) < 0 then -1 else bZ (dA (au rs) k) (rs[k].e.kids.take j).reverse (dA (au rs) k (y - 1) - 1))=aH (au rs) k):=by
      have:=HG.out;rw [List.take_succ_eq_append_getElem hjl,List.reverse_append] at this;exact this
     rw [hji];clear HG hrk hadk s4;by_cases hy:y=0
     ·have HN:Hid (rX (au rs)=false):=zL k hltE (by rw [← HG2.out,if_pos (Or.inl (by omega))]; omega);subst hy;go_wp2;go_ret;exact ⟨by rw [HN.out]; rfl,hB1⟩
     obtain ⟨m,rfl⟩:∃ m:Nat,y=(m:Int) + 1:=⟨(y - 1).toNat,by omega⟩;have em:(m:Int) + 1 - 1=(m:Int):=by omega
     by_cases hkx:rs[k].e.kids[j]=(m:Int)
     ·have hF:dA (au rs) k ((m:Int) + 1 - 1)=aH (au rs) m:=by rw [em]; unfold dA; rw [if_pos ⟨by omega,by simp; omega⟩]; simp
      have HF:Hid (dA (au rs) k ((m:Int) + 1 - 1)=aH (au rs) m):=hF;have hle:=kZ (au rs) m;have hge:0≤aH (au rs) m:=HGU.out m (by omega);have a0:=HAR1.out.told m (by omega);have hm1:=bR m;have hm2:(m:Int) < 15:=by omega
      have HG3:Hid (bZ (dA (au rs) k) (rs[k].e.kids.take j).reverse (aH (au rs) m - 1)=aH (au rs) k):=by
       show _=_;rw [← HG2.out,if_neg (by omega),HF.out,if_neg (by omega)]
      clear hF HG2;go_wp2;go_roundw;case rel=>exact ⟨j,aH (au rs) m,by omega,by go_num,rfl,hge,by omega,HG3,by first | rfl | trivial⟩
      case measure=>simp [intOf] <;> omega
     ·have HN:Hid (rX (au rs)=false):=zL k hltE (by rw [← HG2.out,if_pos (Or.inr (by rw [em]; exact hkx))]; omega);have hq:(rs[k].e.kids[j] != (m:Int))=true:=by simpa using hkx
      have hq0:((m:Int) + 1 == 0)=false:=by simp; omega
      go_wp2;go_ret;exact ⟨by rw [HN.out]; rfl,hB1⟩
    ·obtain rfl:j=0:=by omega
     have hX:aH (au rs) k=y:=by have:=HG.out; simp [bZ] at this; omega
     have HGU2:Hid (Ic (au rs) (k + 1)):=by
      intro m hm;by_cases e:m=k
      ·subst e; omega
      ·exact HGU.out m (by omega)
     have q0:=HAR1.out.rest k (Nat.le_refl _) (by omega);have qf:=HAR1.out.free;have HA2:=HAR1.out.put (k:=k) (by omega);rw [hX] at HA2;have HA3:Hid (Arr (au rs) _ w.heap.size (k + 1)):=HA2;have hB2:=hB1.setCell (p:=⟨w.heap.size,k,none⟩) (Nat.le_refl _) (.int .i64 y);clear HG HA2 hX;go_wp2;go_roundw;case rel=>exact ⟨k + 1,by omega,by go_num,HGU2,HA3,hB2⟩
     case measure=>simp [intOf] <;> omega
  ·obtain rfl:k=rs.length:=by omega
   have a0:=HAR.out.told (rs.length - 1) (by omega);have HKB:Hid (rX (au rs)=decide (aH (au rs) (rs.length - 1)=0)):=by
    show _=_;have:ib (au rs)=true:=by
     unfold ib;rw [List.all_eq_true];intro j hj;have hj':j < rs.length:=by simpa [HEL.out] using hj
     simpa using HGU.out j hj'
    unfold rX;rw [this,HEL.out,Bool.true_and]
   have hcast:((rs.length:Int) - 1)=((rs.length - 1:Nat):Int):=by omega
   have h15:((rs.length - 1:Nat):Int) < 15:=by omega
   have h00:(0:Int)≤((rs.length - 1:Nat):Int):=by omega
   go_wp2;go_ret;exact ⟨by rw [HKB.out]; exact ag (by rw [Bool.eq_iff_iff]; simp),hB⟩
theorem GM {es:List Ex} (h:¬ (1≤es.length∧es.length≤15)):ji es=false:=by rw [← sD]; exact yR h
theorem El {es:List Ex} (k:Nat) (h:k < es.length) (hb:ay es[k]=false):ji es=false:=by simp [ji,yN es k h hb]
theorem xW (b off cap:Nat) (rs:List ER) (w:World) (hlen:rs.length≤1048576) (hl:∀ r ∈ rs,r.e.light) (hf:∀ r ∈ rs,r.e.fits) (hcp:∀ r ∈ rs,r.e.allow.length≤r.capA) (hb:b < w.heap.size) (hr:∀ (i:Nat) (h:i < rs.length),ve w b (off + i * 5) rs[i]) (hok:∀ r ∈ rs,r.ok w) :
  Calls prog 154 #[.slice (some ⟨b,off,none⟩) rs.length cap] w fun e w'=>e=.returned (.bool (ji (au rs)))∧Below w.heap.size w w':=by
 have HEL:Hid ((au rs).length=rs.length):=bq rs;have HL:Hid (∀ r ∈ rs,r.e.light):=hl;have HF:Hid (∀ r ∈ rs,r.e.fits):=hf;have HCP:Hid (∀ r ∈ rs,r.e.allow.length≤r.capA):=hcp;have HR:Hid (∀ (i:Nat) (h:i < rs.length),ve w b (off + i * 5) rs[i]):=hr;have HO:Hid (∀ r ∈ rs,r.ok w):=hok;clear hl hf hr hok hcp;by_cases hn:1≤rs.length∧rs.length≤15
 ·obtain ⟨hn1,hn2⟩:=hn;go_enter func154,ntmps154;go_wp2_with fail;go_loopw [3,16] (fun o i wr=>∃ k:Nat,k≤rs.length∧i=.int .i64 k∧o=.int .i64 (eQ (au rs) k:Nat)∧Hid (gY (au rs) k=true)∧Below w.heap.size w wr) (fun _ i _=>rs.length - (intOf i).toNat);case atStart=>exact ⟨0,Nat.zero_le _,rfl,rfl,(by show _=_; simp [gY]),Below.refl _ _⟩
  case round =>
   obtain ⟨k,hk,rfl,rfl,HU,hB⟩:=hrel;by_cases hlt:k < rs.length
   ·have hltE:k < (au rs).length:=by rw [HEL.out]; exact hlt
    have HEK:Hid ((au rs)[k]=rs[k].e):=by show _=_; simp [au]
    obtain ⟨t0,t1,t2,t3,t4⟩:=(HR.out k hlt).later hb hB;have hk1:=bR k;have hk2:(k:Int) < (rs.length:Int):=by omega
    have hol:=qU (au rs) k;have hal:Below w.heap.size w (wr.alloc (.cells #[.int .i64 rs[k].e.kind,.slice rs[k].adA rs[k].e.allow.length rs[k].capA,.string rs[k].e.over,.string rs[k].e.name,.slice rs[k].adK rs[k].e.kids.length rs[k].capK] 139)):=hB.alloc hB.size _;have HAL:Hid (Below w.heap.size w (wr.alloc (.cells #[.int .i64 rs[k].e.kind,.slice rs[k].adA rs[k].e.allow.length rs[k].capA,.string rs[k].e.over,.string rs[k].e.name,.slice rs[k].adK rs[k].e.kids.length rs[k].capK] 139))):=hal;clear hal;go_wp2_with fail;refine (Ej rs[k] _ (HF.out _ (List.getElem_mem hlt)) (HL.out _ (List.getElem_mem hlt)) ((HO.out _ (List.getElem_mem hlt)).below HAL.out) (HCP.out _ (List.getElem_mem hlt))).mono ?_;rintro e w1 ⟨rfl,hb1⟩;have hB1:Below w.heap.size w w1:=HAL.out.trans (hb1.mono HAL.out.size);have g0:w1.cell? ⟨wr.heap.size,0,none⟩=some (.int .i64 rs[k].e.kind):=by rw [hb1.cell (p:=⟨wr.heap.size,0,none⟩) (by simp)]; simp
    clear hb1 t0 t1 t2 t3 t4 HAL;cases hnode:ay rs[k].e with
    | false =>
     have HN:Hid (ji (au rs)=false):=El k hltE (by rw [HEK.out]; exact hnode);go_wp2;go_ret;exact ⟨by rw [HN.out]; rfl,hB1⟩
    | true =>
     have HU2:Hid (gY (au rs) (k + 1)=true):=by show _=_; rw [qV _ _ hltE,HU.out,HEK.out,hnode]; rfl
     have HOW:Hid (eQ (au rs) (k + 1)=eQ (au rs) k + (if rs[k].e.kind=1 then 1 else 0)):=by show _=_; rw [vL _ _ hltE,HEK.out]
     by_cases hk1':rs[k].e.kind=1
     ·have HOW2:Hid (eQ (au rs) (k + 1)=eQ (au rs) k + 1):=by show _=_; rw [HOW.out,if_pos hk1']
      clear HOW;go_wp2;go_roundw;case rel=>exact ⟨k + 1,by omega,by go_num,by rw [HOW2.out]; go_num,HU2,hB1⟩
      case measure=>simp [intOf] <;> omega
     ·have HOW2:Hid (eQ (au rs) (k + 1)=eQ (au rs) k):=by show _=_; rw [HOW.out,if_neg hk1']; rfl
      clear HOW;go_wp2;go_roundw;case rel=>exact ⟨k + 1,by omega,by go_num,by rw [HOW2.out],HU2,hB1⟩
      case measure=>simp [intOf] <;> omega
   ·obtain rfl:k=rs.length:=by omega
    have HN:Hid ((au rs).all ay=true):=by
     have:=HU.out;unfold gY at this;rwa [← HEL.out,List.take_length] at this
    have HOW:Hid (eQ (au rs) rs.length=own (au rs)):=by show _=_; unfold eQ; rw [← HEL.out,List.take_length]
    have hol:=qU (au rs) rs.length;by_cases ho:eQ (au rs) rs.length≤1
    ·have HS:Hid (ji (au rs)=rX (au rs)):=by
      show _=_;have h1:own (au rs)≤1:=by rw [← HOW.out]; exact ho
      have e1:=HEL.out;unfold ji rX;rw [e1,HN.out];simp [h1,hn1,hn2]
     go_wp2_with fail;refine (uR b off cap rs _ hn1 hn2 HL.out (Nat.lt_of_lt_of_le hb hB.size) (fun i hi=>(HR.out i hi).later hb hB) (fun r hr=>(HO.out r hr).below hB)).mono ?_;rintro e w1 ⟨rfl,hb1⟩;go_wp2;go_ret;exact ⟨by rw [HS.out]; rfl,hB.trans (hb1.mono hB.size)⟩
    ·have HS:Hid (ji (au rs)=false):=by
      show _=_;have h1:¬ own (au rs)≤1:=by rw [← HOW.out]; exact ho
      simp [ji,h1]
     go_wp2;go_ret;exact ⟨by rw [HS.out]; rfl,hB⟩
 ·have HN:Hid (ji (au rs)=false):=GM (by rw [HEL.out]; exact hn);go_enter func154,ntmps154;go_wp2_with fail
  all_goals go_ret
  all_goals exact ⟨by rw [HN.out]; rfl,Below.refl _ _⟩
theorem oG (ad:Option Addr) (cap:Nat) (rs:List ER) (w:World) (hlen:rs.length≤1048576) (hl:∀ r ∈ rs,r.e.light) (hf:∀ r ∈ rs,r.e.fits) (hcp:∀ r ∈ rs,r.e.allow.length≤r.capA) (hs:kX w ad rs) :
  Calls prog 154 #[.slice ad rs.length cap] w fun e w'=>e=.returned (.bool (ji (au rs)))∧Below w.heap.size w w':=by
 rcases hs with rfl | ⟨b,off,rfl,hb,hr,hok⟩
 ·go_enter func154,ntmps154;go_wp2_with fail;go_ret;exact ⟨rfl,Below.refl _ _⟩
 ·exact xW b off cap rs w hlen hl hf hcp hb hr hok
end Go.Proofs.YteoflgocljfgeaaGreatDoor
