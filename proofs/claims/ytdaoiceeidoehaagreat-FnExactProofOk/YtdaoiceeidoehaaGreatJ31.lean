/- The document's look whether facts are a proof. -/
import Derived.Test.YtdaoiceeidoehaaGreatFolS
open Go.Proofs.Tryz
set_option maxHeartbeats 80000000
namespace Go.Proofs.YtdaoiceeidoehaaGreat
set_option maxRecDepth 100000
set_option linter.unusedVariables false
set_option linter.unusedSectionVars false
open Go.ChangeShapes Go.WideShapes Go.ChangeAt Go.RowKit Go.Maps
open Pl
def lh (rs:List TR) (ts:List Tp) (truth L:List Fc) (k:Nat):Bool:=(List.range k).all fun i=>match L[i]? with
 | none=>true
 | some x=>okB x && mH rs ts truth (L.take i) x
theorem yA (rs:List TR) (ts:List Tp) (truth:List Fc) {L:List Fc} {k:Nat} (h:k < L.length):lh rs ts truth L (k + 1)=(lh rs ts truth L k && (okB L[k] && mH rs ts truth (L.take k) L[k])):=by
 unfold lh;rw [List.range_succ,List.all_append];simp [List.getElem?_eq_getElem h]
theorem Ca (rs:List TR) (ts:List Tp) (truth:List Fc) {L:List Fc} {k:Nat} (h:k < L.length) (hn:(okB L[k] && mH rs ts truth (L.take k) L[k])=false):lh rs ts truth L L.length=false:=by
 unfold lh;rw [List.all_eq_false];exact ⟨k,List.mem_range.2 h,by rw [List.getElem?_eq_getElem h]; simpa using hn⟩
theorem jq.takeF {w:World} {ad:Option Addr} {L:List Fc} (h:jq w ad L) (k:Nat):jq w ad (L.take k):=by
 rcases h with h | ⟨b,off,e,hb,hr⟩
 ·exact .inl (by rw [h]; simp)
 ·refine .inr ⟨b,off,e,hb,fun i hi=>?_⟩;have h1:i < L.length:=by rw [List.length_take] at hi; omega
  rw [List.getElem_take];exact hr i h1
theorem Lx {w W w':World} {n i0 i1 i2 i3 i4:Nat} {x0 x1 x2 x3 x4:Value} (h:W.cell? ⟨n,i0,none⟩=some x0∧W.cell? ⟨n,i1,none⟩=some x1∧W.cell? ⟨n,i2,none⟩=some x2∧W.cell? ⟨n,i3,none⟩=some x3∧W.cell? ⟨n,i4,none⟩=some x4∧Below w.heap.size w W) (hb:Below W.heap.size W w'):w'.cell? ⟨n,i0,none⟩=some x0∧w'.cell? ⟨n,i1,none⟩=some x1∧w'.cell? ⟨n,i2,none⟩=some x2∧w'.cell? ⟨n,i3,none⟩=some x3∧w'.cell? ⟨n,i4,none⟩=some x4∧Below w.heap.size w w':=by
 obtain ⟨h0,h1,h2,h3,h4,hB⟩:=h;exact ⟨aD hb (ax h0) h0,aD hb (ax h1) h1,aD hb (ax h2) h2,aD hb (ax h3) h3,aD hb (ax h4) h4,hB.trans (hb.mono hB.size)⟩
theorem Ju (ad:Option Addr) (cap:Nat) (rs:List TR) (ad':Option Addr) (cap':Nat) (ts:List Tp) (adR:Option Addr) (capR:Nat) (truth:List Fc) (adL:Option Addr) (capL:Nat) (L:List Fc) (w:World) (hlen:rs.length≤1048576) (hs:eY w ad rs) (hl:∀ r ∈ rs,r.light) (hsh:aS (ae rs)=true) (hlt:ts.length≤1048576) (hst:Sl w ad' ts) (hLl:L.length≤1048576) (hcL:L.length≤capL) (hL:jq w adL L) (hLf:∀ x ∈ L,x.fits) (htl:truth.length≤1048576) (htr:jq w adR truth) :
    Calls prog 45 #[.slice ad rs.length cap,.slice ad' ts.length cap',.slice adR truth.length capR,.slice adL L.length capL] w fun e w'=>e=.returned (.bool (lh rs ts truth L L.length))∧Below w.heap.size w w':=by
  have HF5:Hid (∀ (k:Nat) (x:Fc) (W':World),Below w.heap.size w W'→Calls prog 32 #[.slice ad rs.length cap,.slice ad' ts.length cap',.slice adL (L.take k).length capL,.slice adR truth.length capR,.agg #[.string x.a,.string x.b,.string x.r,.string x.c,.string x.d]] W' fun e w'=>e=.returned (.bool (mH rs ts truth (L.take k) x))∧Below W'.heap.size W' w'):=fun k x W' hb =>
    wR ad cap rs ad' cap' ts adL capL (L.take k) adR capR truth x W' hlen (hs.below hb) hl hsh hlt (hst.below hb) (by rw [List.length_take]; omega) ((hL.below hb).takeF k) htl (htr.below hb)
  have HL:=ag hL;have HLF:=ag hLf;clear hs hst hL htr hLf;go_enter func45,ntmps45;go_wp2_with fail;go_loopw [9] (fun i wr=>∃ k:Nat,k≤L.length∧i=.int .i64 k∧Hid (lh rs ts truth L k=true)∧Hid (Below w.heap.size w wr)) (fun i _=>L.length - (intOf i).toNat);case atStart=>exact ⟨0,Nat.zero_le _,rfl,rfl,Below.refl _ _⟩
  case round =>
    obtain ⟨k,hk,rfl,HP,HB⟩:=hrel;by_cases hlk:k < L.length
    · obtain ⟨b,off,hadr,ht,hbl⟩:=jq.at0 (HL.out.below HB.out) hlk;have hi1:=aY k;have hi2:(k:Int) < (L.length:Int):=by omega
      have hi3:(k:Int)≤(capL:Int):=by omega
      have hi4:k≤capL:=by omega
      have HSU:=ag (yA rs ts truth hlk);have HHI:Hid ((okB L[k] && mH rs ts truth (L.take k) L[k])=false→lh rs ts truth L L.length=false):=Ca rs ts truth hlk;have HXF:=ag (HLF.out _ (List.getElem_mem hlk));have hlt2:(L.take k).length=k:=by rw [List.length_take]; omega
      have HC5:Hid (∀ W':World,Below wr.heap.size wr W'→Calls prog 32 #[.slice ad rs.length cap,.slice ad' ts.length cap',.slice adL k capL,.slice adR truth.length capR,.agg #[.string L[k].a,.string L[k].b,.string L[k].r,.string L[k].c,.string L[k].d]] W' fun e w'=>e=.returned (.bool (mH rs ts truth (L.take k) L[k]))∧Below W'.heap.size W' w'):=fun W' h=>by
        have h2:=HF5.out k L[k] W' (HB.out.trans (h.mono HB.out.size));rw [hlt2] at h2; exact h2
      obtain ⟨x,hx⟩:∃ x,x=L[k]:=⟨_,rfl⟩;rw [← hx] at ht HSU HHI HXF HC5;have HT5:=ag ht;have HL4:Hid (∀ W':World,Calls prog 31 #[.agg #[.string x.a,.string x.b,.string x.r,.string x.c,.string x.d]] W' fun e w'=>e=.returned (.bool (okB x))∧Below W'.heap.size W' w'):=fun W'=>El x W' HXF.out;clear hx ht hlt2;subst hadr;cases hq:okB x with
      | true =>
        rw [hq] at HL4 HSU HHI;obtain ⟨v,hv⟩:∃ v,mH rs ts truth (L.take k) x=v:=⟨_,rfl⟩;rw [hv] at HC5 HSU HHI;obtain ⟨t0,t1,t2,t3,t4⟩:=HT5.out;clear hq hv;go_wp2_with fail
        go_region_held3 (fun w'=>w'.cell? ⟨b,off + k * 5,none⟩=some (.string x.a)∧w'.cell? ⟨b,off + k * 5 + 1,none⟩=some (.string x.b)∧w'.cell? ⟨b,off + k * 5 + 2,none⟩=some (.string x.r)∧w'.cell? ⟨b,off + k * 5 + 3,none⟩=some (.string x.c)∧w'.cell? ⟨b,off + k * 5 + 4,none⟩=some (.string x.d)∧Below wr.heap.size wr w')
          (first | assumption | exact Lx (by assumption) hbx | exact ⟨t0,t1,t2,t3,t4,(Below.refl _ _).drew⟩)
          (first
           | (go_at_call 31; refine (HL4.out _).mono ?_; rintro e w2 ⟨rfl,hbx⟩)
           | (go_at_call 32; refine (HC5.out _ (And.right (And.right (And.right (And.right (And.right (by assumption))))))).mono ?_; rintro e w3 ⟨rfl,hbx⟩))
        all_goals
          rename_i hJ;have HG:=ag (HB.out.trans (hJ.2.2.2.2.2.mono HB.out.size));clear hJ;cases v with
          | true =>
            have HP2:Hid (lh rs ts truth L (k + 1)=true):=by show _=_; rw [HSU.out,HP.out]; rfl
            go_wp2;go_roundw;case rel=>exact ⟨k + 1,by omega,by go_num,HP2,HG⟩
            case measure=>simp [intOf] <;> omega
          | false =>
            have HN:=ag (HHI.out rfl);go_wp2;go_ret;exact ⟨by rw [HN.out]; rfl,HG.out⟩
      | false =>
        rw [hq] at HL4 HSU HHI;have HN:=ag (HHI.out rfl);clear hq;go_wp2_with fail;refine au 20 (fun n=>(u16::u17::u18::u19::u20::u21::u22::u23::u24::u25::u26::u27::u28::u29::u30::u31::u32::u33::u34::u35::[]).getD n undef) (fun fq=>{ tmps:=List.toArray (Value.slice ad rs.length cap::.slice ad' ts.length cap'::.slice adR truth.length capR::.slice (some ⟨b,off,none⟩) L.length capL::undef::undef::undef::undef::u8::.int .i64 k::.int .i64 k::.slice (some ⟨b,off,none⟩) L.length capL::.int .i64 L.length::.bool true::u14::u15::fq 0::fq 1::fq 2::fq 3::fq 4::fq 5::fq 6::fq 7::fq 8::fq 9::fq 10::fq 11::fq 12::fq 13::fq 14::fq 15::fq 16::fq 17::fq 18::fq 19::[]),defers:=[] }) (fun n v _=>v=(Value.slice (some ⟨b,off,none⟩) L.length capL::.int .i64 k::.pointer (some ⟨b,off + k * 5,none⟩)::.agg #[.string x.a,.string x.b,.string x.r,.string x.c,.string x.d]::.bool false::.bool true::.bool true::undef::undef::undef::undef::undef::undef::undef::undef::undef::undef::undef::undef::.bool true::[]).getD n undef) (fun w'=>Below wr.heap.size wr w') (by kernel_rfl) rfl (by kernel_rfl) rfl (Below.refl _ _).drew ?stepA ?finA;case stepA =>
          rintro i hi o ho fq w' hG hpre;have HG:Hid (Below wr.heap.size wr w'):=hG;have b0:=aD HG.out hbl HT5.out.1;have b1:=aD HG.out hbl HT5.out.2.1;have b2:=aD HG.out hbl HT5.out.2.2.1;have b3:=aD HG.out hbl HT5.out.2.2.2.1;have b4:=aD HG.out hbl HT5.out.2.2.2.2;have HM:Hid (∀ e ∈ o.after,Region.binds .any e=true→_):=hpre;clear hG hpre;have hc:=LW (i:=i) (by omega);clear hi
          repeat' rcases hc with rfl | hc
          iterate 4
            · obtain rfl:=Option.some.inj ho;have hm:=HM.out
              try simp [Region.binds] at hm
              clear ho HM;refine wpOp_step rfl (fun K hK=>?_);have HK:Hid (∀ a w,_→K a w):=hK;clear hK
              try simp only [hm]
              go_simp;exact HK.out _ _ ⟨_,by simp [upd, *],HG.out,rfl,fun k u hu=>hu⟩
          · obtain rfl:=Option.some.inj ho;have e3:fq 3=.agg #[.string x.a,.string x.b,.string x.r,.string x.c,.string x.d]:=HM.out ⟨3,.data⟩ (by simp) rfl;clear ho HM;refine wpOp_step rfl (fun K hK=>?_);have HK:Hid (∀ a w,_→K a w):=hK;clear hK;simp only [e3];go_simp;refine (HL4.out _).mono ?_;rintro e w9 ⟨rfl,hb9⟩;have HG9:=fK HG hb9;clear hb9;go_wp2_with fail;exact HK.out _ _ ⟨Value.bool false,by simp [upd,e3],HG9.out,rfl,fun k u hu=>hu⟩
          iterate 15
            · obtain rfl:=Option.some.inj ho;have hm:=HM.out
              try simp [Region.binds] at hm
              clear ho HM;refine wpOp_step rfl (fun K hK=>?_);have HK:Hid (∀ a w,_→K a w):=hK;clear hK
              try simp only [hm]
              go_simp;exact HK.out _ _ ⟨_,by simp [upd, *],HG.out,rfl,fun k u hu=>hu⟩
        case finA =>
          rintro fq w' hG hall;have e19:fq 19=.bool true:=hall 19 (by omega);have HG:Hid (Below wr.heap.size wr w'):=hG;clear hG hall;rw [e19];go_wp2;go_ret;exact ⟨by rw [HN.out]; rfl,HB.out.trans (HG.out.mono HB.out.size)⟩
    · have HE:Hid (lh rs ts truth L L.length=true):=by
        have e:k=L.length:=by omega
        show _=_;rw [← e]; exact HP.out
      go_wp2;go_ret;exact ⟨by rw [HE.out]; rfl,HB.out⟩
section
variable [DecidableEq Fc]
def Jv (st:ByteArray × ByteArray→Int) (rs:List TR) (ts:List Tp) (w:World) (e:Ending) (w':World):Prop :=
 Below w.heap.size w w'∧((aU (gH rs) rs ts=false∧e=.returned (.tuple #[.pointer none,.bool false])) ∨
  (aU (gH rs) rs ts=true∧∃ (P D br bp bt nr np:Nat) (n1:Int) (Mr:KL→Option Value) (Er:List (KL × RR)) (Mp:K3→Option Value) (vo vu:Value) (adF:Option Addr) (capF bK nK:Nat),e=.returned (.tuple #[.pointer (some ⟨P,0,none⟩),.bool true])∧PrM w' P D adF capF (dS st rs ts) bK nK ∧
   DatA w' rs D br bp bt n1 nr Mr Er (aN ts) (fC ts) (dC ts) np Mp vo vu))
theorem zV (st:ByteArray × ByteArray→Int) (ad:Option Addr) (cap:Nat) (rs:List TR) (ad':Option Addr) (cap':Nat) (ts:List Tp) (w:World) (hlen:rs.length≤1048576) (hs:eY w ad rs) (hl:∀ r ∈ rs,r.light) (hfr:∀ r ∈ rs,r.fits) (hcp:∀ r ∈ rs,r.caps) (hlt:ts.length≤1048576) (hst:Sl w ad' ts) (hft:∀ x ∈ ts,x.fits) (hle:bR (ae rs)=true→Least (ae rs) st) :
  Calls prog 37 #[.slice ad rs.length cap,.slice ad' ts.length cap'] w (Jv st rs ts w):=by
 have HC:=ag (DC (gH rs) ad cap rs ad' cap' ts w hlen hs hl hfr (zQ ad cap rs w hlen hs hl hfr hcp) (fun h t ht=>Gz h ht) hlt hst hft);have HS:=ag hs;have HFT:=ag hft;have HFR:=ag hfr;have HLE:=ag hle;clear hs hl hfr hcp hst hft hle;go_enter func37,ntmps37;go_wp2_with fail;refine HC.out.mono ?_;rintro e w1 ⟨hb1,⟨hr,rfl⟩ | ⟨hr,D,br,bp,bt,nr,np,Mr,Mp,vo,vu,f,rfl,hbt,hLf,hDA⟩⟩
 ·have HP:Hid (Jv st rs ts w (.returned (.tuple #[.pointer none,.bool false])) w1):=⟨hb1,.inl ⟨hr,rfl⟩⟩;clear hb1 HC hr;go_wp2;exact bodyPost_ret (v:=.tuple #[.pointer none,.bool false]) (by simp [results,Tryz.results37,go_sem]) rfl HP.out
 ·have hsd:bR (ae rs)=true∧ts.length≤40:=by
   unfold aU dX at hr;simp only [Bool.and_eq_true,decide_eq_true_eq] at hr;exact ⟨hr.1.1,hr.1.2.1⟩
  obtain ⟨hsd,ht40⟩:=hsd;have hSP:=bu.1 hsd;obtain ⟨h6,hr6,-⟩:=aX hSP.1;have hE36:=tH h6 hr6;have hfk:∀ k ∈ aj (ae rs),f k + 1≤(aj (ae rs)).length:=fun k hk=>by
   obtain ⟨g,hg,hb⟩:=hLf.sol.few (jf hSP.2.1);have h1:=hLf.low k hk g hg;have h2:=hb k hk;omega
  have hc0:0≤ic (dF f rs):=(zR (dF f rs) 0).1;have hcl:ic (dF f rs)≤(aj (ae rs)).length:=E8 _ _ _ (by omega) fun x hx=>by
   obtain ⟨k,hk,e,-⟩:=Lm hx;rw [e]; exact hfk k hk
  obtain ⟨N,hN⟩:∃ N:Nat,ic (dF f rs)=N:=⟨(ic (dF f rs)).toNat,by omega⟩;have hkN:∀ k ∈ aj (ae rs),f k < (N:Int):=fun k hk=>by
   obtain ⟨x,hx,e⟩:=Ko (f:=f) hk;have h2:=(zR (dF f rs) 0).2 x hx;have h3:x.1.2 + 1≤ic (dF f rs):=h2;rw [e,hN] at h3;omega
  have hLs:jw (ae rs) ts f (fC ts) (dC ts) N=dS st rs ts:=by
   rw [oJ hr];unfold kL;rw [← ru (fun k hk=>hLf.same (HLE.out hsd) k hk)];exact (FO hkN _ (by omega)).symm
  rw [hN] at hDA;have HF1:=ag (Gv w1 rs ad D br bp bt N nr Mr f ts (fC ts) (dC ts) np Mp vo vu hDA (HS.out.below hb1) (by omega) (by have:=jZ ts; omega) (by have:=jm ts; omega) hE36 (fun k=>by
   have:(G.lookL (dF f rs) k).length≤(dF f rs).length:=List.length_filterMap_le _ _;rw [Kq] at this; omega) hSP.1 HFT.out (by omega) (oI HFT.out) (mF HFT.out) (yw HFR.out))
  rw [hLs] at HF1;have hGO:=mr f rs ts (fC ts) (dC ts) N;rw [hLs] at hGO;have HB1:=ag hb1;have hll:=hGO.len (by have:=jZ ts; omega) hE36 (by have:=jm ts; omega);have HFF:Hid (∀ x ∈ dS st rs ts,x.fits):=fun x hx=>by
   have h1:=hGO.sub x hx;unfold Br at h1;obtain ⟨o,ho,h1⟩:=List.mem_flatMap.1 h1;obtain ⟨k,hk,h1⟩:=List.mem_flatMap.1 h1;obtain ⟨u,hu,rfl⟩:=List.mem_map.1 h1;exact ⟨(oI HFT.out o ho).1,(oI HFT.out o ho).2,yw HFR.out k hk,(mF HFT.out u hu).1,(mF HFT.out u hu).2⟩
  obtain ⟨L0,hL0⟩:∃ L0,L0=dS st rs ts:=⟨_,rfl⟩;rw [← hL0] at HF1 hll HFF;have HL0:=ag hL0;have HDA:=ag hDA;have HRI:=ag hr;clear HC hb1 hDA hLf hfk hc0 hcl hN hkN hLs hGO hSP hsd h6 hr6 hE36 hr hbt hL0;go_wp2_with fail;refine HF1.out.mono ?_;rintro e w2 ⟨⟨v,rfl,hown⟩,hb2⟩;have HB2:=ag (HB1.out.trans (hb2.mono HB1.out.size));have HD2:=ag (HDA.out.below hb2);obtain ⟨adF,capF,rfl,hsF⟩:=jG hown;have HSF:=ag hsF;clear HF1 hown hb2 HB1 HDA hsF;go_wp2_with fail;refine (wQ adF capF L0 _ (by omega) HSF.out HFF.out).mono ?_;rintro e w3 ⟨⟨bK,nK,rfl,hV⟩,hb3⟩;obtain ⟨W4,hW4⟩:∃ W4,W4=w3.alloc (.cells #[.pointer (some ⟨D,0,none⟩),.slice adF L0.length capF,.map (some bK)] 95):=⟨_,rfl⟩;have hb4:Below w3.heap.size w3 W4:=by rw [hW4]; exact (Below.refl _ _).alloc (Nat.le_refl _) _
  have hb34:Below w2.heap.size w2 W4:=hb3.trans (hb4.mono hb3.size);have HP:Hid (Jv st rs ts w (.returned (.tuple #[.pointer (some ⟨w3.heap.size,0,none⟩),.bool true])) W4):=by
   refine ⟨HB2.out.trans (hb34.mono HB2.out.size),.inr ⟨HRI.out,w3.heap.size,D,br,bp,bt,nr,np,_,Mr,_,Mp,vo,vu,adF,capF,bK,nK,rfl,?_,HD2.out.below hb34⟩⟩;rw [← HL0.out];exact ⟨by rw [hW4]; simp,by rw [hW4]; simp,by rw [hW4]; simp,by rw [hW4]; simp,HSF.out.below hb34,hV.below hb4⟩
  clear hb3 hb4 hb34 hV;go_wp2;rw [← hW4];exact bodyPost_ret (v:=.tuple #[.pointer (some ⟨w3.heap.size,0,none⟩),.bool true]) (by simp [results,Tryz.results37,go_sem]) rfl HP.out
theorem aG.kind {w:World} {S:Nat→Prop} {n:Nat} {v:Value} {G:Ru} (h:aG w S n v G):∃ T a,v=.iface T a∧KU T a:=by
 match n,h with
 | 0,h=>exact h.elim
 | n + 1,h =>
  rcases h with ⟨b,e,-⟩ | ⟨ad,cap,fs,e,-⟩ | ⟨ad,cap,Gs,e,-⟩ | ⟨ad,cap,Gs,e,-⟩
  ·exact ⟨_,_,e,.inl ⟨rfl,_,rfl⟩⟩
  ·exact ⟨_,_,e,.inr ⟨.inl rfl,_,_,_,rfl⟩⟩
  ·exact ⟨_,_,e,.inr ⟨.inr (.inl rfl),_,_,_,rfl⟩⟩
  ·exact ⟨_,_,e,.inr ⟨.inr (.inr rfl),_,_,_,rfl⟩⟩
theorem KA (xs:Array Value) (u:World):(callFunc 41 xs).run prog u=.ok (.enter 41 xs) u:=by kernel_rfl
theorem KC {w:World} {b n:Nat} {fs:List Fc} (h:aB fT prog 42 w b n (oG fs)):KnF w 41 #[.map (some b)] #[] (df fs) :=
 ⟨KA,fun x hx w1 hb=>by simpa using mg b n fs x w1 hx (h.below hb)⟩
theorem Jw {w:World} {T:TypeId} {a:Value} {S:Nat→Prop} {n:Nat} {G:Ru} {FC:Nat} {rc cp:Array Value} {K:Fc→Bool} (hr:aG w S n (.iface T a) G) (hK:KnF w FC rc cp K):Calls prog (Eg T) #[a,.func (Fn.func FC) rc cp] w fun e w'=>e=.returned (.bool (G K))∧Below w.heap.size w w':=by
 obtain ⟨T',a',e,-,hc⟩:=BX n w _ G hK hr;injection e with e1 e2;subst e1 e2;exact hc w (Below.refl _ _)
end
section
variable [DecidableEq Fc]
end
end Go.Proofs.YtdaoiceeidoehaaGreat
