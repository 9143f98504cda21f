/- The document's look whether facts are a proof. -/
import Derived.Test.YtdaoiceeidoehaaGreatFolS
open Go.Proofs.Tryz
set_option maxHeartbeats 80000000
namespace Go.Proofs.YtdaoiceeidoehaaGreat
set_option maxRecDepth 100000
set_option linter.unusedVariables false
set_option linter.unusedSectionVars false
open Go.ChangeShapes Go.WideShapes Go.ChangeAt Go.RowKit Go.Maps
open Pl
def p8 (rs:List TR) (ts:List Tp) (truth L:List Fc) (k:Nat):Bool:=(List.range k).all fun i=>match L[i]? with
 | none=>true
 | some x=>okB x && qN rs ts truth (L.take i) x
theorem KQ (rs:List TR) (ts:List Tp) (truth:List Fc) {L:List Fc} {k:Nat} (h:k < L.length):p8 rs ts truth L (k + 1)=(p8 rs ts truth L k && (okB L[k] && qN rs ts truth (L.take k) L[k])):=by
 unfold p8;rw [List.range_succ,List.all_append];simp [R8 h]
theorem NP (rs:List TR) (ts:List Tp) (truth:List Fc) {L:List Fc} {k:Nat} (h:k < L.length) (hn:(okB L[k] && qN rs ts truth (L.take k) L[k])=false):p8 rs ts truth L L.length=false:=by
 unfold p8;rw [List.all_eq_false];exact ⟨k,List.mem_range.2 h,by rw [R8 h]; simpa using hn⟩
theorem gX.takeF {w:World} {ad:Option Addr} {L:List Fc} (h:gX w ad L) (k:Nat):gX w ad (L.take k):=by
 rcases h with h | ⟨b,off,e,hb,hr⟩
 ·exact .inl (by rw [h]; simp)
 ·refine .inr ⟨b,off,e,hb,fun i hi=>?_⟩;have h1:i < L.length:=by rw [Sq] at hi; omega
  rw [List.getElem_take];exact hr i h1
theorem QK {w W w':World} {n i0 i1 i2 i3 i4:Nat} {x0 x1 x2 x3 x4:Value} (h:W.cell? ⟨n,i0,none⟩=some x0∧W.cell? ⟨n,i1,none⟩=some x1∧W.cell? ⟨n,i2,none⟩=some x2∧W.cell? ⟨n,i3,none⟩=some x3∧W.cell? ⟨n,i4,none⟩=some x4∧Below w.heap.size w W) (hb:Below W.heap.size W w'):w'.cell? ⟨n,i0,none⟩=some x0∧w'.cell? ⟨n,i1,none⟩=some x1∧w'.cell? ⟨n,i2,none⟩=some x2∧w'.cell? ⟨n,i3,none⟩=some x3∧w'.cell? ⟨n,i4,none⟩=some x4∧Below w.heap.size w w':=by
 obtain ⟨h0,h1,h2,h3,h4,hB⟩:=h;exact ⟨aA hb (ay h0) h0,aA hb (ay h1) h1,aA hb (ay h2) h2,aA hb (ay h3) h3,aA hb (ay h4) h4,hB.trans (hb.mono hB.size)⟩
theorem NQ (ad:Option Addr) (cap:Nat) (rs:List TR) (SQ:Option Addr) (cap':Nat) (ts:List Tp) (TE:Option Addr) (Tk:Nat) (truth:List Fc) (Tt:Option Addr) (SV:Nat) (L:List Fc) (w:World) (hlen:rs.length≤1048576) (hs:jd w ad rs) (hl:∀ r ∈ rs,r.light) (hsh:aV (ae rs)=true) (hlt:ts.length≤1048576) (hst:Sl w SQ ts) (XX:L.length≤1048576) (hcL:L.length≤SV) (hL:gX w Tt L) (hLf:∀ x ∈ L,x.fits) (htl:truth.length≤1048576) (htr:gX w TE truth) :
    Calls prog 45 #[.slice ad rs.length cap,.slice SQ ts.length cap',.slice TE truth.length Tk,.slice Tt L.length SV] w fun e w'=>e=.returned (.bool (p8 rs ts truth L L.length))∧Below w.heap.size w w':=by
  have HF5:Hid (∀ (k:Nat) (x:Fc) (W':World),Below w.heap.size w W'→Calls prog 32 #[.slice ad rs.length cap,.slice SQ ts.length cap',.slice Tt (L.take k).length SV,.slice TE truth.length Tk,.agg #[.string x.a,.string x.b,.string x.r,.string x.c,.string x.d]] W' fun e w'=>e=.returned (.bool (qN rs ts truth (L.take k) x))∧Below W'.heap.size W' w'):=fun k x W' hb =>
    zY ad cap rs SQ cap' ts Tt SV (L.take k) TE Tk truth x W' hlen (hs.below hb) hl hsh hlt (hst.below hb) (by rw [Sq]; omega) ((hL.below hb).takeF k) htl (htr.below hb)
  have HL:=ag hL;have HLF:=ag hLf;clear hs hst hL htr hLf;go_enter func45,ntmps45;go_wp2_with fail;go_loopw [9] (fun i wr=>∃ k:Nat,k≤L.length∧i=.int .i64 k∧Hid (p8 rs ts truth L k=true)∧Hid (Below w.heap.size w wr)) (fun i _=>L.length - (intOf i).toNat);case atStart=>exact ⟨0,R6 _,rfl,rfl,R3 _ _⟩
  case round =>
    obtain ⟨k,hk,rfl,HP,HB⟩:=hrel;by_cases hlk:k < L.length
    · obtain ⟨b,off,SL,ht,hbl⟩:=gX.at0 (HL.out.below HB.out) hlk;have hi1:=bn k;have hi2:(k:Int) < (L.length:Int):=by omega
      have hi3:(k:Int)≤(SV:Int):=by omega
      have hi4:k≤SV:=by omega
      have Vw:=ag (KQ rs ts truth hlk);have HHI:Hid ((okB L[k] && qN rs ts truth (L.take k) L[k])=false→p8 rs ts truth L L.length=false):=NP rs ts truth hlk;have Vm:=ag (HLF.out _ (RY hlk));have hlt2:(L.take k).length=k:=by rw [Sq]; omega
      have VH:Hid (∀ W':World,Below wr.heap.size wr W'→Calls prog 32 #[.slice ad rs.length cap,.slice SQ ts.length cap',.slice Tt k SV,.slice TE truth.length Tk,.agg #[.string L[k].a,.string L[k].b,.string L[k].r,.string L[k].c,.string L[k].d]] W' fun e w'=>e=.returned (.bool (qN rs ts truth (L.take k) L[k]))∧Below W'.heap.size W' w'):=fun W' h=>by
        have h2:=HF5.out k L[k] W' (HB.out.trans (h.mono HB.out.size));rw [hlt2] at h2; exact h2
      obtain ⟨x,hx⟩:∃ x,x=L[k]:=⟨_,rfl⟩;rw [← hx] at ht Vw HHI Vm VH;have HT5:=ag ht;have HL4:Hid (∀ W':World,Calls prog 31 #[.agg #[.string x.a,.string x.b,.string x.r,.string x.c,.string x.d]] W' fun e w'=>e=.returned (.bool (okB x))∧Below W'.heap.size W' w'):=fun W'=>Ir x W' Vm.out;clear hx ht hlt2;subst SL;cases hq:okB x with
      | true =>
        rw [hq] at HL4 Vw HHI;obtain ⟨v,hv⟩:∃ v,qN rs ts truth (L.take k) x=v:=⟨_,rfl⟩;rw [hv] at VH Vw HHI;obtain ⟨t0,t1,t2,t3,t4⟩:=HT5.out;clear hq hv;go_wp2_with fail
        go_region_held3 (fun w'=>w'.cell? ⟨b,off + k * 5,none⟩=some (.string x.a)∧w'.cell? ⟨b,off + k * 5 + 1,none⟩=some (.string x.b)∧w'.cell? ⟨b,off + k * 5 + 2,none⟩=some (.string x.r)∧w'.cell? ⟨b,off + k * 5 + 3,none⟩=some (.string x.c)∧w'.cell? ⟨b,off + k * 5 + 4,none⟩=some (.string x.d)∧Below wr.heap.size wr w')
          (first | assumption | exact QK (by assumption) hbx | exact ⟨t0,t1,t2,t3,t4,(R3 _ _).drew⟩)
          (first
           | (go_at_call 31; refine (HL4.out _).mono ?_; rintro e w2 ⟨rfl,hbx⟩)
           | (go_at_call 32; refine (VH.out _ (And.right (And.right (And.right (And.right (And.right (by assumption))))))).mono ?_; rintro e w3 ⟨rfl,hbx⟩))
        all_goals
          rename_i hJ;have HG:=ag (HB.out.trans (hJ.2.2.2.2.2.mono HB.out.size));clear hJ;cases v with
          | true =>
            have Td:Hid (p8 rs ts truth L (k + 1)=true):=by show _=_; rw [Vw.out,HP.out]; rfl
            go_wp2;go_roundw;case rel=>exact ⟨k + 1,by omega,by go_num,Td,HG⟩
            case measure=>simp [intOf] <;> omega
          | false =>
            have HN:=ag (HHI.out rfl);go_wp2;go_ret;exact ⟨by rw [HN.out]; rfl,HG.out⟩
      | false =>
        rw [hq] at HL4 Vw HHI;have HN:=ag (HHI.out rfl);clear hq;go_wp2_with fail;refine jv 20 (fun n=>(u16::u17::u18::u19::u20::u21::u22::u23::u24::u25::u26::u27::u28::u29::u30::u31::u32::u33::u34::u35::[]).getD n undef) (fun fq=>{ tmps:=List.toArray (Value.slice ad rs.length cap::.slice SQ ts.length cap'::.slice TE truth.length Tk::.slice (some ⟨b,off,none⟩) L.length SV::undef::undef::undef::undef::u8::.int .i64 k::.int .i64 k::.slice (some ⟨b,off,none⟩) L.length SV::.int .i64 L.length::.bool true::u14::u15::fq 0::fq 1::fq 2::fq 3::fq 4::fq 5::fq 6::fq 7::fq 8::fq 9::fq 10::fq 11::fq 12::fq 13::fq 14::fq 15::fq 16::fq 17::fq 18::fq 19::[]),defers:=[] }) (fun n v _=>v=(Value.slice (some ⟨b,off,none⟩) L.length SV::.int .i64 k::.pointer (some ⟨b,off + k * 5,none⟩)::.agg #[.string x.a,.string x.b,.string x.r,.string x.c,.string x.d]::.bool false::.bool true::.bool true::undef::undef::undef::undef::undef::undef::undef::undef::undef::undef::undef::undef::.bool true::[]).getD n undef) (fun w'=>Below wr.heap.size wr w') (by kernel_rfl) rfl (by kernel_rfl) rfl (R3 _ _).drew ?stepA ?finA;case stepA =>
          rintro i hi o ho fq w' hG hpre;have HG:Hid (Below wr.heap.size wr w'):=hG;have b0:=aA HG.out hbl HT5.out.1;have b1:=aA HG.out hbl HT5.out.2.1;have b2:=aA HG.out hbl HT5.out.2.2.1;have b3:=aA HG.out hbl HT5.out.2.2.2.1;have b4:=aA HG.out hbl HT5.out.2.2.2.2;have HM:Hid (∀ e ∈ o.after,Region.binds .any e=true→_):=hpre;clear hG hpre;have hc:=Ra (i:=i) (by omega);clear hi
          repeat' rcases hc with rfl | hc
          iterate 4
            · cases ho;have hm:=HM.out
              try simp [Region.binds] at hm
              clear HM;refine wpOp_step rfl (fun K hK=>?_);have HK:Hid (∀ a w,_→K a w):=hK;clear hK
              try simp only [hm]
              go_simp;exact HK.out _ _ ⟨_,by simp [upd, *],HG.out,rfl,fun k u hu=>hu⟩
          · cases ho;have e3:fq 3=.agg #[.string x.a,.string x.b,.string x.r,.string x.c,.string x.d]:=HM.out ⟨3,.data⟩ (by simp) rfl;clear HM;refine wpOp_step rfl (fun K hK=>?_);have HK:Hid (∀ a w,_→K a w):=hK;clear hK;simp only [e3];go_simp;refine (HL4.out _).mono ?_;rintro e w9 ⟨rfl,WW⟩;have HG9:=gY HG WW;clear WW;go_wp2_with fail;exact HK.out _ _ ⟨Value.bool false,by simp [upd,e3],HG9.out,rfl,fun k u hu=>hu⟩
          iterate 15
            · cases ho;have hm:=HM.out
              try simp [Region.binds] at hm
              clear HM;refine wpOp_step rfl (fun K hK=>?_);have HK:Hid (∀ a w,_→K a w):=hK;clear hK
              try simp only [hm]
              go_simp;exact HK.out _ _ ⟨_,by simp [upd, *],HG.out,rfl,fun k u hu=>hu⟩
        case finA =>
          rintro fq w' hG hall;have e19:fq 19=.bool true:=hall 19 (by omega);have HG:Hid (Below wr.heap.size wr w'):=hG;clear hG hall;rw [e19];go_wp2;go_ret;exact ⟨by rw [HN.out]; rfl,HB.out.trans (HG.out.mono HB.out.size)⟩
    · have HE:Hid (p8 rs ts truth L L.length=true):=by
        have e:k=L.length:=by omega
        show _=_;rw [← e]; exact HP.out
      go_wp2;go_ret;exact ⟨by rw [HE.out]; rfl,HB.out⟩
section
variable [DecidableEq Fc]
theorem zZ (st:ByteArray × ByteArray→Int) (ad:Option Addr) (cap:Nat) (rs:List TR) (SQ:Option Addr) (cap':Nat) (ts:List Tp) (f:Fc) (w:World) (hlen:rs.length≤1048576) (hs:jd w ad rs) (hl:∀ r ∈ rs,r.light) (hfr:∀ r ∈ rs,r.fits) (hlt:ts.length≤1048576) (hst:Sl w SQ ts) (hft:∀ x ∈ ts,x.fits) (hle:bI (ae rs)=true→Least (ae rs) st) :
  Calls prog 46 #[.slice ad rs.length cap,.slice SQ ts.length cap',.agg #[.string f.a,.string f.b,.string f.r,.string f.c,.string f.d]] w fun e w'=>e=.returned (.bool (aO (aI st rs ts) f))∧Below w.heap.size w w':=by
 obtain ⟨W0,hW0⟩:∃ W0,W0=w.alloc (.cells #[.string f.a,.string f.b,.string f.r,.string f.c,.string f.d] 42):=⟨_,rfl⟩;have HB0:=pu hW0;have hbx:jI W0 w.heap.size f:=by rw [hW0]; exact World.alloc_heap_new w _
 have T9:=ag hbx;have XX:=nk st (rs:=rs) (ts:=ts);have HRC:Hid (∀ W':World,Below W0.heap.size W0 W'→Calls prog 30 #[.slice ad rs.length cap,.slice SQ ts.length cap'] W' fun e w'=>e=.returned (.bool (aP (fC rs) rs ts))∧Below W'.heap.size W' w'):=fun W' h=>by
  have hb:=HB0.out.trans (h.mono HB0.out.size);exact Fy ad cap rs SQ cap' ts W' hlen (hs.below hb) hl hfr hlt (hst.below hb) hft
 have HAC:Hid (aP (fC rs) rs ts=true→∀ W':World,Below W0.heap.size W0 W'→Calls prog 33 #[.slice ad rs.length cap,.slice SQ ts.length cap'] W' fun e w'=>(∃ v,e=.returned v∧w'.ownsRow W'.heap.size 42 5 v (aI st rs ts).length (au (aI st rs ts)))∧Below W'.heap.size W' w'):=fun hr W' h=>by
  have hb:=HB0.out.trans (h.mono HB0.out.size);have hsd:bI (ae rs)=true∧ts.length≤40:=by
   unfold aP eQ at hr;simp only [R7,Sj] at hr;exact ⟨hr.1.1,hr.1.2.1⟩
  have:=Bw st ad cap rs SQ cap' ts W' (bq.1 hsd.1) (hle hsd.1) (hs.below hb) hl hsd.2 (hst.below hb);rw [← fD hr] at this;exact this
 clear hs hl hfr hst hft hle hbx;go_enter func46,ntmps46;go_wp2_with fail;rw [← hW0];clear hW0;cases hr:aP (fC rs) rs ts with
 | true =>
  have HA:=ag (HAC.out hr);rw [hr] at HRC;obtain ⟨c0,c1,c2,c3,c4,cl⟩:=T9.out.c;obtain ⟨L,Uw⟩:∃ L,L=aI st rs ts:=⟨_,rfl⟩;rw [← Uw] at HA XX;have TG:=ag Uw;clear HAC hr Uw
  go_region_held3 (fun w'=>w'.cell? ⟨w.heap.size,0,none⟩=some (.string f.a)∧w'.cell? ⟨w.heap.size,1,none⟩=some (.string f.b)∧w'.cell? ⟨w.heap.size,2,none⟩=some (.string f.r)∧w'.cell? ⟨w.heap.size,3,none⟩=some (.string f.c)∧w'.cell? ⟨w.heap.size,4,none⟩=some (.string f.d)∧Below W0.heap.size W0 w')
   (first | assumption | exact Il (by assumption) hbx | exact ⟨c0,c1,c2,c3,c4,(R3 _ _).drew⟩)
   (first | (go_at_call 30; refine (HRC.out _ (And.right (And.right (And.right (And.right (And.right (by assumption))))))).mono ?_; rintro e w' ⟨rfl,hbx⟩) | (go_at_call 33; refine (HA.out _ (And.right (And.right (And.right (And.right (And.right (by assumption))))))).mono ?_; rintro e w' ⟨⟨v,rfl,hown⟩,hbx⟩; obtain ⟨Tt,SV,rfl,hsl⟩:=iH hown) | (go_at_call 61; refine (lZ Tt SV L f _ (by omega) (by first | exact hsl | exact hsl.below (R3 _ _))).mono ?_; rintro e w'' ⟨rfl,hbx⟩))
  rename_i hJ;have HG:=ag (HB0.out.trans (hJ.2.2.2.2.2.mono HB0.out.size));clear hJ hown hsl c0 c1 c2 c3 c4 HB0;go_wp2;go_ret;exact ⟨by rw [TG.out]; rfl,HG.out⟩
 | false =>
  rw [hr] at HRC;have HN:Hid (aO (aI st rs ts) f=false):=by show _=_; rw [iI hr]; rfl
  clear HAC hr;refine xE 10 (fun n=>(undef::undef::undef::undef::undef::undef::undef::undef::undef::undef::[]).getD n undef) (fun fq=>{ tmps:=List.toArray (Value.slice ad rs.length cap::.slice SQ ts.length cap'::.agg #[.string f.a,.string f.b,.string f.r,.string f.c,.string f.d]::undef::undef::.pointer (some ⟨w.heap.size,0,none⟩)::.bool false::fq 0::fq 1::fq 2::fq 3::fq 4::fq 5::fq 6::fq 7::fq 8::fq 9::[]),defers:=[] }) (fun n v _=>v=(Value.slice ad rs.length cap::.slice SQ ts.length cap'::.bool false::.bool false::undef::undef::undef::undef::undef::.bool false::[]).getD n undef) (fun w'=>Below W0.heap.size W0 w') (by kernel_rfl) rfl (by kernel_rfl) (by kernel_rfl) rfl (R3 _ _).drew ?dZ ?finF;case dZ =>
   rintro i hi o ho fq w' hG hpre;have HG:Hid (Below W0.heap.size W0 w'):=hG;have HM:Hid (∀ e ∈ o.after,Region.binds .any e=true→_):=hpre;clear hG hpre;have hc:=xk (i:=i) (by omega);clear hi
   repeat' rcases hc with rfl | hc
   iterate 2
    ·cases ho;have hm:=HM.out
     try simp [Region.binds] at hm
     clear HM;refine wpOp_step rfl (fun K hK=>?_);have HK:Hid (∀ a w,_→K a w):=hK;clear hK;go_simp;exact HK.out _ _ ⟨_,by simp [upd, *],HG.out,rfl,fun k u hu=>hu⟩
   ·cases ho;have e0:fq 0=.slice ad rs.length cap:=HM.out ⟨0,.data⟩ (by simp) rfl;have e1:fq 1=.slice SQ ts.length cap':=HM.out ⟨1,.data⟩ (by simp) rfl;clear HM;refine wpOp_step rfl (fun K hK=>?_);have HK:Hid (∀ a w,_→K a w):=hK;clear hK;simp only [e0,e1];go_simp;refine (HRC.out _ HG.out).mono ?_;rintro e w9 ⟨rfl,WW⟩;have HG9:=gY HG WW;clear WW;go_wp2_with fail;exact HK.out _ _ ⟨Value.bool false,by simp [upd,e0,e1],HG9.out,rfl,fun k u hu=>hu⟩
   iterate 7
    ·cases ho;have hm:=HM.out
     try simp [Region.binds] at hm
     clear HM;refine wpOp_step rfl (fun K hK=>?_);have HK:Hid (∀ a w,_→K a w):=hK;clear hK
     try simp only [hm]
     go_simp;exact HK.out _ _ ⟨_,by simp [upd, *],HG.out,rfl,fun k u hu=>hu⟩
  case finF =>
   rintro o ho fq w' hG hall;have e9:fq 9=.bool false:=hall 9 (by omega);have HG:Hid (Below W0.heap.size W0 w'):=hG;clear hG hall;cases ho;refine wpOp_step rfl (fun K hK=>?_);have HK:Hid (∀ a w,_→K a w):=hK;clear hK;simp only [e9];go_simp;refine HK.out _ _ ?_;clear HK;go_wp2;go_ret;exact ⟨by rw [HN.out]; rfl,HB0.out.trans (HG.out.mono HB0.out.size)⟩
end
def gu (G:Ru) (qs:List Fc):Prop:=∀ K K':Fc→Bool,(∀ x ∈ qs,K x=K' x)→G K=G K'
theorem KR (b:Bool):gu (fun _=>b) []:=fun _ _ _=>rfl
theorem Iu {α:Type} {p q:α→Bool}:∀ {xs:List α},(∀ x ∈ xs,p x=q x)→xs.any p=xs.any q
 | [],_=>rfl
 | x::xs,h=>by rw [List.any_cons,List.any_cons,h x (SC ..),Iu fun y hy=>h y (SA _ hy)]
theorem NR {α:Type} {p q:α→Bool}:∀ {xs:List α},(∀ x ∈ xs,p x=q x)→xs.all p=xs.all q
 | [],_=>rfl
 | x::xs,h=>by rw [List.all_cons,List.all_cons,h x (SC ..),NR fun y hy=>h y (SA _ hy)]
theorem KS (fs:List Fc):gu (fun K=>fs.any K) fs:=fun K K' h=>Iu h
theorem KT {Gs:List Ru} {qs:List Fc} (h:∀ G ∈ Gs,gu G qs):gu (fun K=>Gs.any fun H=>H K) qs:=fun K K' hk=>Iu fun G hG=>h G hG K K' hk
theorem KU {Gs:List Ru} {qs:List Fc} (h:∀ G ∈ Gs,gu G qs):gu (fun K=>Gs.all fun H=>H K) qs:=fun K K' hk=>NR fun G hG=>h G hG K K' hk
theorem gu.more {G:Ru} {qs bs:List Fc} (h:gu G qs) (hs:∀ x ∈ qs,x ∈ bs):gu G bs:=fun K K' hk=>h K K' fun x hx=>hk x (hs x hx)
def z8 (R:Fc→Ru) (L:List Fc):Prop:=∀ (i:Nat) (h:i < L.length),R L[i] (aO (L.take i))=true
theorem BH {α:Type} (A B:List α) (j:Nat):(A ++ B).take (A.length + j)=A ++ B.take j:=by
 rw [List.take_append,List.take_of_length_le (by omega),Nat.add_sub_cancel_left]
theorem FD {α:Type} (A B:List α) (j:Nat) (h:A.length + j < (A ++ B).length) (hj:j < B.length):(A ++ B)[A.length + j]=B[j]:=by
 rw [SF (by omega)];simp
theorem z8.from {R:Fc→Ru} {A B:List Fc} (h:z8 R (A ++ B)) {j:Nat} (hj:j < B.length):R B[j] (aO (A ++ B.take j))=true:=by
 have:=h (A.length + j) (by rw [R9]; omega);rw [FD A B j _ hj,BH] at this;exact this
theorem z8.left {R:Fc→Ru} {A B:List Fc} (h:z8 R (A ++ B)):z8 R A:=fun i hi=>by
 have:=h i (by rw [R9]; omega);rw [Sy hi,List.take_append_of_le_length (by omega)] at this;exact this
theorem QL {R:Fc→Ru} {A B:List Fc} (hA:z8 R A) (hB:∀ j (hj:j < B.length),R B[j] (aO (A ++ B.take j))=true):z8 R (A ++ B):=fun i hi=>by
 by_cases h:i < A.length
 ·rw [Sy h,List.take_append_of_le_length (by omega)];exact hA i h
 ·obtain ⟨j,rfl⟩:∃ j,i=A.length + j:=⟨i - A.length,by omega⟩;have hj:j < B.length:=by rw [R9] at hi; omega
  rw [FD A B j _ hj,BH];exact hB j hj
theorem FE {R:Fc→Ru} {qs:Fc→List Fc} {A B:List Fc} {f:Fc} (hH:∀ x ∈ B,gu (R x) (qs x)) (hP:z8 R (A ++ f::B)) :
  z8 R (A ++ B) ↔ ∀ j (hj:j < B.length),f ∈ qs B[j]→R B[j] (aO (A ++ B.take j))=true:=by
 refine ⟨fun h j hj _=>h.from hj,fun h=>QL hP.left fun j hj=>?_⟩;by_cases hf:f ∈ qs B[j]
 ·exact h j hj hf
 ·have h2:=hP.from (j:=j + 1) (by rw [List.length_cons]; omega);rw [List.getElem_cons_succ,List.take_succ_cons] at h2;rw [← h2];refine hH _ (RY hj) _ _ fun x hx=>?_;have hne:x ≠ f:=fun e=>hf (e ▸ hx);rw [Bool.eq_iff_iff,aX,aX];simp [hne]
def jS (test:Nat→List Fc→Bool) (L:List Fc):Nat→List Fc→List Fc
 | 0,kept=>kept
 | i + 1,kept=>match L[i]? with
  | none=>kept
  | some f=>if test i kept then jS test L i kept else jS test L i (f::kept)
theorem BI {test:Nat→List Fc→Bool} {L kept:List Fc} {i:Nat} (hi:i < L.length) (h:test i kept=true):jS test L (i + 1) kept=jS test L i kept:=by
 unfold jS;rw [R8 hi];simp [h];cases i <;> rfl
theorem FH {test:Nat→List Fc→Bool} {L kept:List Fc} {i:Nat} (hi:i < L.length) (h:test i kept=false):jS test L (i + 1) kept=jS test L i (L[i]::kept):=by
 conv=>lhs; unfold jS
 rw [R8 hi];simp [h]
def gy (rs:List TR) (ts:List Tp) (Q:List Fc) (i:Nat) (kept:List Fc):Bool:=p8 rs ts Q (Q.take i ++ kept) (Q.take i ++ kept).length
def jh (rs:List TR) (ts:List Tp) (Q:List Fc) (f:Fc) (k:Nat):List Fc:=jS (gy rs ts Q) Q k [f]
theorem KV (x y:List Fc):au (x ++ y)=au x ++ au y:=by simp [au]
def QM (rs:List TR) (ts:List Tp) (Q:List Fc) (f:Fc) (w:World) (e:Ending) (w':World):Prop:=(aO Q f=false∧e=.returned (.tuple #[.slice none 0 0,.bool false]) ∨ ∃ (k:Nat) (h:k < Q.length) (adP:Option Addr) (YT:Nat),Q[k]=f∧f ∉ Q.take k∧e=.returned (.tuple #[.slice adP (jh rs ts Q f k).length YT,.bool true])∧gX w' adP (jh rs ts Q f k))∧Below w.heap.size w w'
section
variable [DecidableEq Fc]
theorem wC (st:ByteArray × ByteArray→Int) (ad:Option Addr) (cap:Nat) (rs:List TR) (SQ:Option Addr) (cap':Nat) (ts:List Tp) (f:Fc) (w:World) (hlen:rs.length≤1048576) (hs:jd w ad rs) (hl:∀ r ∈ rs,r.light) (hfr:∀ r ∈ rs,r.fits) (hlt:ts.length≤1048576) (hst:Sl w SQ ts) (hft:∀ x ∈ ts,x.fits) (hff:∀ x ∈ aI st rs ts,x.fits) (hle:bI (ae rs)=true→Least (ae rs) st) :
  Calls prog 21 #[.slice ad rs.length cap,.slice SQ ts.length cap',.agg #[.string f.a,.string f.b,.string f.r,.string f.c,.string f.d]] w (QM rs ts (aI st rs ts) f w):=by
 obtain ⟨iR,hiR,zR0,zR1,zR2⟩:=mQ;have UB:Hid (prog.info? 42=some iR∧iR.zero=some (.agg #[.string ⟨#[]⟩,.string ⟨#[]⟩,.string ⟨#[]⟩,.string ⟨#[]⟩,.string ⟨#[]⟩])∧iR.size=5∧iR.bytes=80):=⟨hiR,zR0,zR1,zR2⟩;have hQl:=nk st (rs:=rs) (ts:=ts);obtain ⟨W0,hW0⟩:∃ W0,W0=w.alloc (.cells #[.string f.a,.string f.b,.string f.r,.string f.c,.string f.d] 42):=⟨_,rfl⟩;have hB0:Below w.heap.size w W0:=by rw [hW0]; exact (R3 _ _).alloc (R4 _) _
 have T9:Hid (jI W0 w.heap.size f):=by show jI _ _ _; rw [hW0]; exact World.alloc_heap_new w _
 have TJ:=ag (zZ st ad cap rs SQ cap' ts f W0 hlen (hs.below hB0) hl hfr hlt (hst.below hB0) hft hle)
 have HAC:Hid (aP (fC rs) rs ts=true→(∀ W':World,Below w.heap.size w W'→Calls prog 33 #[.slice ad rs.length cap,.slice SQ ts.length cap'] W' fun e w'=>(∃ v,e=.returned v∧w'.ownsRow W'.heap.size 42 5 v (aI st rs ts).length (au (aI st rs ts)))∧Below W'.heap.size W' w') ∧
   (∀ (W':World) (TE:Option Addr) (Tk:Nat) (Tt:Option Addr) (SV:Nat) (L:List Fc),Below w.heap.size w W'→gX W' TE (aI st rs ts)→L.length≤1048576→L.length≤SV→gX W' Tt L→(∀ x ∈ L,x.fits)→Calls prog 45 #[.slice ad rs.length cap,.slice SQ ts.length cap',.slice TE (aI st rs ts).length Tk,.slice Tt L.length SV] W' fun e w'=>e=.returned (.bool (p8 rs ts (aI st rs ts) L L.length))∧Below W'.heap.size W' w')):=fun hr=>by
  have hsd:bI (ae rs)=true∧ts.length≤40:=by
   unfold aP eQ at hr;simp only [R7,Sj] at hr;exact ⟨hr.1.1,hr.1.2.1⟩
  refine ⟨fun W' hb=>?_,fun W' TE Tk Tt SV L hb hsR XX hcL hL hLf=>?_⟩
  ·have:=Bw st ad cap rs SQ cap' ts W' (bq.1 hsd.1) (hle hsd.1) (hs.below hb) hl hsd.2 (hst.below hb);rw [← fD hr] at this;exact this
  ·exact NQ ad cap rs SQ cap' ts TE Tk (aI st rs ts) Tt SV L W' hlen (hs.below hb) hl (bq.1 hsd.1).1 hlt (hst.below hb) XX hcL hL hLf (by omega) hsR
 have HB0:=ag hB0;have YV:=ag hff;have HNR:Hid (aO (aI st rs ts) f=true→aP (fC rs) rs ts=true):=fun h=>by
  cases hr:aP (fC rs) rs ts with
  | true=>rfl
  | false=>rw [iI hr] at h; cases h
 clear hs hl hfr hst hft hle hB0 hff hiR zR0 zR1 zR2;obtain ⟨Q,hQ⟩:∃ Q,Q=aI st rs ts:=⟨_,rfl⟩;rw [← hQ] at hQl TJ HAC YV HNR ⊢;clear hQ;go_enter func21,ntmps21;obtain ⟨c0,c1,c2,c3,c4,cl⟩:=T9.out.c;go_wp2_with fail;rw [← hW0];clear hW0;refine TJ.out.mono ?_;rintro e w1 ⟨rfl,hb1⟩;have HB1:=gY HB0 hb1;have HX1:=ag (T9.out.bel hb1);clear hb1 TJ c0 c1 c2 c3 c4 cl HB0 T9;cases hq:aO Q f with
 | false =>
  have HQ:=ag hq;clear hq HAC YV HNR;go_wp2;exact bodyPost_ret (v:=.tuple #[.slice none 0 0,.bool false]) (by simp [results,Tryz.results21,go_sem]) rfl ⟨.inl ⟨HQ.out,rfl⟩,HB1.out⟩
 | true =>
  have HA:=ag (HAC.out (HNR.out hq)).1;have H5:=ag (HAC.out (HNR.out hq)).2;have HMEM:Hid (f ∈ Q):=aX.1 hq;clear hq HAC HNR;go_wp2_with fail;refine (HA.out _ HB1.out).mono ?_;rintro e w2 ⟨⟨vR,rfl,hownR⟩,hb2⟩;obtain ⟨TE,Tk,rfl,hsR⟩:=iH hownR;have HSR:=ag hsR;have HB2:=gY HB1 hb2;have XA:=ag (HX1.out.bel hb2);clear hownR hsR hb2 HB1 HX1 HA;obtain ⟨W3,hW3⟩:∃ W3,W3=w2.alloc (.cells #[] 42):=⟨_,rfl⟩;have HB3:=pu hW3;have Ui:Hid (W3.ownsRow w2.heap.size 42 5 (.slice (some ⟨w2.heap.size,0,none⟩) 0 0) 0 (au (Q.take 0))):=by
   show World.ownsRow _ _ _ _ _ _ _;rw [hW3];exact World.ownsRow_lit w2 #[] 0 (R4 _) (by unfold maxLen; omega) (by simp)
  go_wp2_with fail;rw [← hW3];clear hW3;go_loopw [9,10] (fun v i wr=>∃ (k:Nat),k≤Q.length∧i=.int .i64 k∧(∃ g c,v=.slice (some ⟨g,0,none⟩) k c)∧Hid (wr.ownsRow w2.heap.size 42 5 v k (au (Q.take k)))∧Hid (f ∉ Q.take k)∧Hid (Below w2.heap.size w2 wr)) (fun _ i _=>Q.length - (intOf i).toNat);case atStart=>exact ⟨0,R6 _,rfl,⟨w2.heap.size,0,rfl⟩,Ui,by show f ∉ Q.take 0; simp,HB3⟩
  case round =>
   clear Ui HB3;obtain ⟨k,hk,rfl,⟨g,c,rfl⟩,HO,UK,HB⟩:=hrel;by_cases hkl:k < Q.length
   ·obtain ⟨b,off,SL,⟨t0,t1,t2,t3,t4⟩,hbl⟩:=gX.at0 (HSR.out.below HB.out) hkl;have hk1:=bn k;have hk2:(k:Int) < (Q.length:Int):=by omega
    obtain ⟨x,hx⟩:∃ x,x=Q[k]:=⟨_,rfl⟩;rw [← hx] at t0 t1 t2 t3 t4;have U9:Hid (Q.take (k + 1)=Q.take k ++ [x]):=by show _=_; rw [hx]; exact R5 hkl
    have HXE:=ag hx;have HBWr:Hid (Below w.heap.size w wr):=HB2.out.trans (HB.out.mono HB2.out.size);obtain ⟨W4,Tg⟩:∃ W4,W4=wr.alloc (.cells #[.string x.a,.string x.b,.string x.r,.string x.c,.string x.d] 42):=⟨_,rfl⟩;have TU:Hid (W4.ownsRow w2.heap.size 42 5 (.slice (some ⟨g,0,none⟩) k c) k (au (Q.take k))):=by show World.ownsRow _ _ _ _ _ _ _; rw [Tg]; exact HO.out.alloc _
    have HNW:Hid (∀ j u,x.row[j]?=some u→W4.cell? ((⟨wr.heap.size,0,none⟩:Addr).add j)=some u):=by show ∀ j u,_; rw [Tg]; exact yL wr x
    have Uo:Hid (Below w2.heap.size w2 W4):=by show Below _ _ _; rw [Tg]; exact HB.out.alloc HB.out.size _
    have Yy:w2.heap.size≤W4.heap.size:=Uo.out.size;subst SL;clear hx HO HB HBWr;go_wp2_with (at_builtin; go_must (rw [← Tg]; clear Tg; refine wpList_append_own_at _ rfl _ _ 38 rfl w2.heap.size 42 iR (.agg #[.string ⟨#[]⟩,.string ⟨#[]⟩,.string ⟨#[]⟩,.string ⟨#[]⟩,.string ⟨#[]⟩]) 5 80 underlying38 UB.out.1 UB.out.2.1 UB.out.2.2.1 UB.out.2.2.2 rfl (by decide) _ k (au (Q.take k)) rfl TU.out ⟨wr.heap.size,0,none⟩ 1 1 x.row rfl rfl HNW.out (by simp [Fc.row,Value.oneCell']) (by unfold maxLen; omega) (by omega) Yy ?_));intro v5 w5 hown5 hgr5 _ _;have TA:Hid (w5.ownsRow w2.heap.size 42 5 v5 (k + 1) (au (Q.take (k + 1)))):=by show World.ownsRow _ _ _ _ _ _ _; rw [U9.out,jq]; exact hown5
    have TK:Hid (Below w2.heap.size w2 w5):=Uo.out.grown hgr5 Uo.out.size (fun z hz=>(TU.out.lt z hz).1);obtain ⟨WG,cap5,hv5⟩:=yM TA.out;subst hv5;obtain ⟨g5,hg5,-⟩:=uu TA.out (by omega);subst hg5;have VH:=ag (CQ TA.out);clear hown5 hgr5 TU HNW Uo Yy t0 t1 t2 t3 t4;obtain ⟨b',off',YW,⟨t0,t1,t2,t3,t4⟩,hbl'⟩:=gX.at0 (HSR.out.below TK.out) hkl;injection YW with YW; injection YW with e1 e2;subst e1 e2;rw [← HXE.out] at t0 t1 t2 t3 t4;obtain ⟨c0,c1,c2,c3,c4,cl⟩:=(XA.out.bel TK.out).c;cases hq:rq x f with
    | false =>
     have heq:=ut x f (v:=false) hq;have HNO2:Hid (f ∉ Q.take (k + 1)):=fun hm=>by
      rw [U9.out] at hm;rcases Sd.1 hm with hm | hm
      ·exact UK.out hm
      ·rw [← Sm.1 hm,jF.2 rfl] at hq; cases hq
     clear hq;go_wp2_with fail;go_quiet (fail);clear t0 t1 t2 t3 t4 c0 c1 c2 c3 c4 heq;have Ut:Hid ((w5.drewN nq).ownsRow w2.heap.size 42 5 (.slice (some ⟨g5,0,none⟩) (k + 1) cap5) (k + 1) (au (Q.take (k + 1)))):=kg TA.out fun z hz=>rfl;go_wp2;go_roundw;case rel=>exact ⟨k + 1,by omega,by go_num,⟨g5,cap5,by go_num⟩,Ut,HNO2,below_drewN TK.out _⟩
     case measure=>simp [intOf] <;> omega
    | true =>
     have heq:=ut x f (v:=true) hq;have Vm:Hid (x=f):=jF.1 hq;clear hq;go_wp2_with fail;go_quiet (fail);clear t0 t1 t2 t3 t4 c0 c1 c2 c3 c4 heq;have Ut:Hid ((w5.drewN nq).ownsRow w2.heap.size 42 5 (.slice (some ⟨g5,0,none⟩) (k + 1) cap5) (k + 1) (au (Q.take (k + 1)))):=kg TA.out fun z hz=>rfl;have UW:=ag (below_drewN TK.out nq);obtain ⟨w6,hw6⟩:∃ w6,w5.drewN nq=w6:=⟨_,rfl⟩;rw [hw6] at Ut UW ⊢;clear hw6 TA TK;have HIN:Hid (f ∈ Q):=HMEM.out;have HEQ:Hid ((Q.take (k + 1))=Q.take k ++ [f]):=by show _=_; rw [U9.out,Vm.out]
     have HGT:Hid (Q[k]=f):=by show _=_; rw [← HXE.out]; exact Vm.out
     rw [HEQ.out] at Ut;clear U9 HXE Vm HEQ;go_wp2_with fail;go_loopw [9,11] (fun v i wr=>∃ (j:Nat) (kept:List Fc) (g c:Nat),j≤k∧i=.int .i64 ((j:Int) - 1)∧v=.slice (some ⟨g,0,none⟩) (j + kept.length) c∧1≤kept.length∧j + kept.length≤k + 1∧Hid (wr.ownsRow w2.heap.size 42 5 (.slice (some ⟨g,0,none⟩) (j + kept.length) c) (j + kept.length) (au (Q.take j ++ kept)))∧Hid (jS (gy rs ts Q) Q j kept=jh rs ts Q f k)∧Hid (∀ x ∈ kept,x ∈ Q)∧Hid (Below w2.heap.size w2 wr)) (fun _ i _=>(intOf i + 1).toNat);case atStart=>exact ⟨k,[f],g5,cap5,R4 _,by go_num,by simp,by simp,by simp,Ut,rfl,fun x hx=>by rw [Sm.1 hx]; exact HIN.out,UW⟩
     case round =>
      clear Ut UW VH;obtain ⟨j,kept,g,c,hjk,rfl,rfl,hk1,hk2,HO,Yj,HKI,HB⟩:=hrel;have hcap:=CQ HO.out;cases j with
      | zero =>
       have hneg:¬ (0:Int)≤((0:Nat):Int) - 1:=by omega
       have Vr:=iH (fs:=kept) (by have:=HO.out; simpa using this);obtain ⟨SN,capE,heE,hsE⟩:=Vr;have hl0:(0:Nat) + kept.length=kept.length:=Su _;rw [hl0] at *
       injection heE with e1 e2 e3;subst e1;clear e2 e3;have UX:=ag hsE;have Wt:Hid (Below w.heap.size w wr):=HB2.out.trans (HB.out.mono HB2.out.size);have HRES:Hid (jh rs ts Q f k=kept):=Yj.out.symm;clear hsE HO Yj HB;go_wp2;exact bodyPost_ret (v:=.tuple #[.slice (some ⟨g,0,none⟩) kept.length c,.bool true]) (by simp [results,Tryz.results21,go_sem]) rfl ⟨.inr ⟨k,hkl,some ⟨g,0,none⟩,c,HGT.out,UK.out,by rw [HRES.out],by rw [HRES.out]; exact UX.out⟩,Wt.out⟩
      | succ m =>
       have hmq:m < Q.length:=by omega
       have hm0:=bn m;have e0:(((m + 1:Nat)):Int) - 1=(m:Int):=by omega
       rw [e0];obtain ⟨N,hN⟩:∃ N,N=m + 1 + kept.length:=⟨_,rfl⟩;have hN1:N≤m + 1 + kept.length:=by omega
       have hN2:m + 1 + kept.length≤N:=by omega
       have Yh:=HO.out;rw [← hN] at Yh hcap ⊢;have HO:=ag Yh;clear Yh e0 hN;have HXT:Hid ((Q.take (m + 1) ++ kept).take m=Q.take m):=by
        show _=_;rw [List.take_append_of_le_length (by rw [Sq]; omega),List.take_take,Nat.min_eq_left (by omega)]
       have HXD:Hid ((Q.take (m + 1) ++ kept).drop (m + 1)=kept):=by
        show _=_;rw [List.drop_append_of_le_length (by rw [Sq]; omega),List.drop_of_length_le (by rw [Sq]; omega),List.nil_append]
       obtain ⟨W7,hW7⟩:∃ W7,W7=wr.alloc (.cells #[] 42):=⟨_,rfl⟩;have Wv:Hid (W7.ownsRow wr.heap.size 42 5 (.slice (some ⟨wr.heap.size,0,none⟩) 0 0) 0 []):=by
        show World.ownsRow _ _ _ _ _ _ _;rw [hW7];exact World.ownsRow_lit wr #[] 0 (R4 _) (by unfold maxLen; omega) (by simp)
       have HB7:=pu hW7;have HR7:Hid (W7.ownsRow w2.heap.size 42 5 (.slice (some ⟨g,0,none⟩) N c) N (au (Q.take (m + 1) ++ kept))):=kg HO.out fun z hz=>HB7.out.block z (HO.out.lt z hz).2;have hz7:wr.heap.size≤W7.heap.size:=HB7.out.size;have hgl:g < wr.heap.size:=(HO.out.lt g rfl).2;have hmc:(m:Int)≤(c:Int):=by omega
       have hmN:(m:Int)≤(N:Int):=by omega
       have hmn:m≤N:=by omega
       have hmc':m≤c:=by omega
       go_wp2_with (at_builtin; go_must (rw [← hW7]; clear hW7; refine wpList_append_own_at _ rfl _ _ 38 rfl wr.heap.size 42 iR (.agg #[.string ⟨#[]⟩,.string ⟨#[]⟩,.string ⟨#[]⟩,.string ⟨#[]⟩,.string ⟨#[]⟩]) 5 80 underlying38 UB.out.1 UB.out.2.1 UB.out.2.2.1 UB.out.2.2.2 rfl (by decide) _ 0 [] rfl Wv.out ⟨g,0,none⟩ m c (au ((Q.take (m + 1) ++ kept).take m)) rfl (by rw [jo,Sq]; congr 1; rw [R9,Sq]; omega) (Ho HR7.out m hmn) (yN _) (by unfold maxLen; omega) (by omega) hz7 ?_));intro v8 w8 TP hgr8 _ _;have Z6:Hid (w8.ownsRow wr.heap.size 42 5 v8 m (au (Q.take m))):=by
        show World.ownsRow _ _ _ _ _ _ _;rw [HXT.out] at TP
        first | exact TP | (rw [Su,List.nil_append] at TP; exact TP) | simpa using TP
       have HB8:Hid (Below wr.heap.size wr w8):=HB7.out.grown hgr8 HB7.out.size (fun z hz=>by simp [Value.ownBlock] at hz; omega);have Yz:wr.heap.size≤w8.heap.size:=HB8.out.size;have HR8:Hid (w8.ownsRow w2.heap.size 42 5 (.slice (some ⟨g,0,none⟩) N c) N (au (Q.take (m + 1) ++ kept))):=kg HO.out fun z hz=>HB8.out.block z (HO.out.lt z hz).2;clear TP hgr8 Wv HB7 HR7 hz7;have hq1:(0:Int)≤(m:Int) + 1:=by omega
       have hq2:(m:Int) + 1≤(N:Int):=by omega
       have hq3:¬ (c=m + 1):=by omega
       have hq4:¬ (m + 1=c):=by omega
       have hwr:IntKind.i64.wrap ((m:Int) + 1)=(m:Int) + 1:=by rw [IntKind.wrap_i64]; omega
       go_wp2_with (at_builtin; go_must (refine wpList_append_own_at _ rfl _ _ 38 rfl wr.heap.size 42 iR (.agg #[.string ⟨#[]⟩,.string ⟨#[]⟩,.string ⟨#[]⟩,.string ⟨#[]⟩,.string ⟨#[]⟩]) 5 80 underlying38 UB.out.1 UB.out.2.1 UB.out.2.2.1 UB.out.2.2.2 rfl (by decide) v8 m (au (Q.take m)) rfl Z6.out ⟨g,(m + 1) * 5,none⟩ (N - (m + 1)) (c - (m + 1)) (au ((Q.take (m + 1) ++ kept).drop (m + 1))) rfl (by rw [jo,List.length_drop]; congr 1; rw [R9,Sq]; omega) (Hq HR8.out (m + 1) (by omega)) (yN _) (by unfold maxLen; omega) (by omega) Yz ?_));intro v9 w9 YX hgr9 _ _;have hNk:m + (N - (m + 1))=m + kept.length:=by omega
       have HO9:Hid (w9.ownsRow wr.heap.size 42 5 v9 (m + kept.length) (au (Q.take m ++ kept))):=by
        show World.ownsRow _ _ _ _ _ _ _;rw [HXD.out,hNk] at YX;rw [KV]; exact YX
       have HB9:Hid (Below wr.heap.size wr w9):=HB8.out.grown hgr9 HB8.out.size (fun z hz=>(Z6.out.lt z hz).1);clear YX hgr9 Z6 HB8 HR8 Yz hq1 hq2 hq3 hq4 hwr hmc hmN hmn hmc';obtain ⟨ad9,cap9,hv9⟩:=yM HO9.out;subst hv9;obtain ⟨g9,Ye,-⟩:=uu HO9.out (by omega);subst Ye;have HC9:=ag (CQ HO9.out);have XX:(Q.take m ++ kept).length=m + kept.length:=by rw [R9,Sq]; omega
       have HS9:Hid (gX w9 (some ⟨g9,0,none⟩) (Q.take m ++ kept)):=by
        obtain ⟨adX,capX,heX,hsX⟩:=iH (fs:=Q.take m ++ kept) (by rw [XX]; exact HO9.out);injection heX with e1 e2 e3;subst e1; exact hsX
       have Xt:Hid (Below w2.heap.size w2 w9):=HB.out.trans (HB9.out.mono HB.out.size);have VH:=ag (H5.out w9 _ Tk (some ⟨g9,0,none⟩) cap9 (Q.take m ++ kept) (HB2.out.trans (Xt.out.mono HB2.out.size)) (HSR.out.below Xt.out) (by omega) (by rw [XX]; exact HC9.out) HS9.out (fun x hx=>by
        rcases Sd.1 hx with hx | hx
        ·exact YV.out x (List.mem_of_mem_take hx)
        ·exact YV.out x (HKI.out x hx)))
       rw [XX] at VH;clear HS9 XX;go_wp2_with fail;refine VH.out.mono ?_;rintro e w10 ⟨rfl,Ve⟩;have HTQ:Hid (p8 rs ts Q (Q.take m ++ kept) (m + kept.length)=gy rs ts Q m kept):=by
        show _=_; unfold gy; rw [R9,Sq,Nat.min_eq_left (by omega)]
       rw [HTQ.out];have HB10:=gY Xt Ve;have HO10:Hid (w10.ownsRow w2.heap.size 42 5 (.slice (some ⟨g9,0,none⟩) (m + kept.length) cap9) (m + kept.length) (au (Q.take m ++ kept))):=Kj (kg HO9.out fun z hz=>Ve.block z (HO9.out.lt z hz).2) HB.out.size;have HOL:Hid (w10.ownsRow w2.heap.size 42 5 (.slice (some ⟨g,0,none⟩) N c) N (au (Q.take (m + 1) ++ kept))):=kg HO.out fun z hz=>(Ve.block z (RZ (HO.out.lt z hz).2 HB9.out.size)).trans (HB9.out.block z (HO.out.lt z hz).2);clear Ve VH HO9 HB9 Xt HO HC9;cases hq:gy rs ts Q m kept with
       | true =>
        have UE:Hid (jS (gy rs ts Q) Q m kept=jh rs ts Q f k):=by show _=_; rw [← Yj.out,BI hmq hq]
        clear hq HOL Yj;go_wp2;go_roundw;case rel=>exact ⟨m,kept,g9,cap9,by omega,by go_num,rfl,hk1,by omega,HO10,UE,HKI,HB10⟩
        case measure=>simp [intOf] <;> omega
       | false =>
        have UE:Hid (jS (gy rs ts Q) Q m (Q[m]::kept)=jh rs ts Q f k):=by show _=_; rw [← Yj.out,FH hmq hq]
        have UD:Hid (N=m + (Q[m]::kept).length):=by show _=_; rw [List.length_cons]; omega
        have HOL2:Hid (w10.ownsRow w2.heap.size 42 5 (.slice (some ⟨g,0,none⟩) N c) N (au (Q.take m ++ (Q[m]::kept)))):=by
         have:=HOL.out;rw [R5 hmq,List.append_assoc] at this;exact this
        have HKI2:Hid (∀ x ∈ Q[m]::kept,x ∈ Q):=fun x hx=>by
         rcases List.mem_cons.1 hx with rfl | hx
         ·exact RY hmq
         ·exact HKI.out x hx
        clear hq HOL Yj HO10 HKI;go_wp2;go_roundw;case rel=>exact ⟨m,Q[m]::kept,g,c,by omega,by go_num,by rw [← UD.out],by simp,by rw [List.length_cons]; omega,by rw [← UD.out]; exact HOL2,UE,HKI2,HB10⟩
        case measure=>simp [intOf] <;> omega
   ·exfalso;have:Q.take k=Q:=List.take_of_length_le (by omega);exact UK.out (by rw [this]; exact HMEM.out)
end
end Go.Proofs.YtdaoiceeidoehaaGreat
