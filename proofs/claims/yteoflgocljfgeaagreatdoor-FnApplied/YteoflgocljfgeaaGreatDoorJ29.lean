/- Contract of the program's function on strata. -/
import Derived.Test.YteoflgocljfgeaaGreatDoorJ27
import Derived.Test.YteoflgocljfgeaaGreatDoorImplTypes
open Go.Proofs.Tryz
set_option maxHeartbeats 80000000
namespace Go.Proofs.YteoflgocljfgeaaGreatDoor
open Go.ChangeShapes Go.WideShapes Go.ChangeAt Go.RowKit Go.Maps
open Pl
def Cq (ts:List Ty) (w:World) (e:Ending) (w':World):Prop :=
 ((∃ (b n:Nat) (σ:Ky→Option Int),e=.returned (.tuple #[.map (some b),.bool true])∧bC ts∧aJ bI prog 147 w' b n (gF σ)∧Least ts (fun k=>(σ k).getD 0)∧∀ k,(∃ x,σ k=some x) ↔ k ∈ az ts) ∨ (e=.returned (.tuple #[.map none,.bool false])∧¬ bC ts))∧Below w.heap.size w w'
set_option maxRecDepth 100000 in
theorem rY (ad:Option Addr) (cap:Nat) (rs:List TR) (w:World) (hlen:rs.length≤1048576) (hs:gp w ad rs) (hl:∀ r ∈ rs,r.light) (hf:∀ r ∈ rs,r.fits) (hcp:∀ r ∈ rs,r.caps) :
  Calls prog 73 #[.slice ad rs.length cap] w (Cq (ah rs) w):=by
 have HS:Hid (gp w ad rs):=hs;have HL:Hid (∀ r ∈ rs,r.light):=hl;have HFT:Hid (∀ r ∈ rs,r.fits):=hf;have HCT:Hid (∀ r ∈ rs,r.caps):=hcp;clear hs hl hf hcp;go_enter func73,ntmps73;go_wp2_with fail;refine (Co ad cap rs _ hlen HS.out HL.out HFT.out HCT.out).mono ?_;rintro e w1 ⟨rfl,hb1⟩;have HB1:Hid (Below w.heap.size w w1):=hb1;clear hb1;cases hsh:cu (ah rs) with
 | false =>
  have HP:Hid (Cq (ah rs) w (.returned (.tuple #[.map none,.bool false])) w1):=⟨.inr ⟨rfl,fun h=>by rw [h.1] at hsh; cases hsh⟩,HB1.out⟩;go_wp2;refine bodyPost_ret (v:=.tuple #[.map none,.bool false]) ?_ rfl HP.out;simp [results,Tryz.results73,go_sem]
 | true =>
  have HSH:Hid (cu (ah rs)=true):=hsh;obtain ⟨h6,hr6,hex⟩:=dF hsh;have HR6:Hid (∀ r ∈ rs,r.rows.length≤6):=hr6;have HEX:Hid (∀ r ∈ rs,∀ q ∈ r.rows,aS (au q.rows)=true∧q.rows.length≤15∧∀ e ∈ q.rows,bY q.rows.length e.e.kids):=hex;have HT:Hid (Tab rs (mr rs)):=wN hsh;clear hsh hr6 hex;go_wp2_with fail;refine (nU ad cap rs _ h6 (HS.out.below HB1.out) HR6.out HFT.out).mono ?_;rintro e w2 ⟨rfl,hV2,hb2⟩;have HB2:=gW HB1 hb2;obtain ⟨bT,hbT⟩:∃ bT,bT=w1.heap.size:=⟨_,rfl⟩;rw [← hbT] at hV2 ⊢;have HV2:Hid (aJ bI prog 147 w2 bT 36 (mr rs)):=hV2;clear hV2 hb2 hbT HB1;go_wp2_with fail;go_loopw [16] (fun i wr=>∃ k:Nat,k≤rs.length∧i=.int .i64 k∧Hid (((ah rs).take k).all (nO (ah rs))=true)∧Hid (Below w.heap.size w wr)∧Hid (aJ bI prog 147 wr bT 36 (mr rs))) (fun i _=>rs.length - (intOf i).toNat);case atStart=>exact ⟨0,Nat.zero_le _,rfl,(by show _=_; simp),HB2,HV2⟩
  case round =>
   clear HB2 HV2;obtain ⟨k,hk,rfl,HP,HB,HV⟩:=hrel;by_cases hlt:k < rs.length
   ·rcases HS.out.below HB.out with rfl | ⟨b,off,rfl,hb,hr,-⟩
    ·simp at hlt
    obtain ⟨t0,t1⟩:=hr k hlt;have hk1:=bR k;have hk2:(k:Int) < (rs.length:Int):=by omega
    have h66:=HR6.out _ (List.getElem_mem hlt);have z0:rs[k].name.size≤maxLen:=(HFT.out _ (List.getElem_mem hlt)).1;obtain ⟨W1,hW1⟩:∃ W1,W1=wr.alloc (.cells #[.string rs[k].name,.slice rs[k].ad rs[k].rows.length rs[k].cap] 63):=⟨_,rfl⟩;have hal:Below wr.heap.size wr W1:=by rw [hW1]; exact (Below.refl _ _).alloc (Nat.le_refl _) _
    obtain ⟨g6,hg6⟩:∃ g6,g6=wr.heap.size:=⟨_,rfl⟩;have HC1:Hid (W1.cell? ⟨g6,0,none⟩=some (.string rs[k].name)∧g6 < W1.heap.size):=⟨by rw [hW1,hg6]; simp,by rw [hW1,hg6]; simp⟩;have HB1:=gW HB hal;have HV1:Hid (aJ bI prog 147 W1 bT 36 (mr rs)):=HV.out.below hal;clear hr hal HB HV;go_wp2_with fail;rw [← hW1,← hg6];clear hW1 t0 t1 hg6;go_loopw [23] (fun i w3=>∃ j:Nat,j≤rs[k].rows.length∧i=.int .i64 j∧Hid (((dO rs[k].rows).take j).all (fun r=>aO (ah rs) rs[k].name r.expr)=true)∧Hid (Below w.heap.size w w3)∧Hid (aJ bI prog 147 w3 bT 36 (mr rs))∧Hid (w3.cell? ⟨g6,0,none⟩=some (.string rs[k].name)∧g6 < w3.heap.size)) (fun i _=>rs[k].rows.length - (intOf i).toNat);case atStart=>exact ⟨0,Nat.zero_le _,rfl,(by show _=_; simp),HB1,HV1,HC1⟩
    case round =>
     clear HB1 HV1 HC1;obtain ⟨j,hj,rfl,HR,HB,HV,HC⟩:=hrel;by_cases hjl:j < rs[k].rows.length
     ·rcases HS.out.below HB.out with hnil | ⟨b',off',he,hb2,hr,hok⟩
      ·rw [hnil] at hlt; simp at hlt
      injection he with he; injection he with he1 he2; subst he1; subst he2;have ok:=hok rs[k] (List.getElem_mem hlt);rcases ok with hnil | ⟨b2,off2,had,hbb,hr2,hok2⟩
      ·rw [hnil] at hjl; simp at hjl
      obtain ⟨q0,q1⟩:=hr2 j hjl;have HSE:Hid (kX wr rs[k].rows[j].ad rs[k].rows[j].rows):=hok2 _ (List.getElem_mem hjl);have HLG:Hid (rs[k].rows[j].light):=(HL.out _ (List.getElem_mem hlt)).2 _ (List.getElem_mem hjl);have HFE:Hid (rs[k].rows[j].fits):=(HFT.out _ (List.getElem_mem hlt)).2.2 _ (List.getElem_mem hjl);have HNB:Hid (∀ q ∈ rs[k].rows[j].rows,ay q.e=true):=fun q hq=>oD (HEX.out _ (List.getElem_mem hlt) _ (List.getElem_mem hjl)).1 q.e (by unfold au; exact List.mem_map_of_mem hq);have hj1:=bR j;have hj2:(j:Int) < (rs[k].rows.length:Int):=by omega
      obtain ⟨x0,x1⟩:=HC.out;obtain ⟨W3,hW3⟩:∃ W3,W3=wr.alloc (.cells #[.string rs[k].rows[j].name,.slice rs[k].rows[j].ad rs[k].rows[j].rows.length rs[k].rows[j].cap] 126):=⟨_,rfl⟩;have hal:Below wr.heap.size wr W3:=by rw [hW3]; exact (Below.refl _ _).alloc (Nat.le_refl _) _
      have HB3:=gW HB hal;have HV3:Hid (aJ bI prog 147 W3 bT 36 (mr rs)):=HV.out.below hal;have HAL:Hid (Below wr.heap.size wr W3):=hal;have HC3:Hid (W3.cell? ⟨g6,0,none⟩=some (.string rs[k].name)∧g6 < W3.heap.size):=⟨ak hal x1 x0,Nat.lt_of_lt_of_le x1 hal.size⟩;have HTS:Hid ((dO rs[k].rows).take (j + 1)=(dO rs[k].rows).take j ++ [rs[k].rows[j].p]):=Ca rs[k].rows j hjl;rw [had];clear hr hok hr2 hok2 hal HB HV HC;go_wp2_with fail;rw [← hW3];clear hW3 q0 q1 x0 x1;refine (xN (some ⟨b,off,none⟩) rs[k].rows[j].ad cap rs[k].rows[j].cap rs bT 36 (mr rs) rs[k].name rs[k].rows[j].rows _ hlen (HS.out.below HB3.out) HL.out HFT.out HV3.out HT.out z0 HLG.out.1 (HSE.out.below HAL.out) HLG.out.2 HFE.out.2.2 HNB.out).mono ?_;rintro e w5 ⟨rfl,hb5⟩;have HB5:=gW HB3 hb5;have HV5:Hid (aJ bI prog 147 w5 bT 36 (mr rs)):=HV3.out.below hb5;have HC5:Hid (w5.cell? ⟨g6,0,none⟩=some (.string rs[k].name)∧g6 < w5.heap.size):=⟨ak hb5 HC3.out.2 HC3.out.1,Nat.lt_of_lt_of_le HC3.out.2 hb5.size⟩;clear hb5;cases hrf:aO (ah rs) rs[k].name (au rs[k].rows[j].rows) with
      | false =>
       have HPO:Hid (Cq (ah rs) w (.returned (.tuple #[.map none,.bool false])) w5):=by
        refine ⟨.inr ⟨rfl,fun hs=>?_⟩,HB5.out⟩;have h1:=hs.2.1;unfold je at h1;rw [List.all_eq_true] at h1;have h2:=h1 rs[k].p (by unfold ah; exact List.mem_map_of_mem (List.getElem_mem hlt));unfold nO at h2;rw [List.all_eq_true] at h2;have h3:=h2 rs[k].rows[j].p (by show _ ∈ dO rs[k].rows; unfold dO; exact List.mem_map_of_mem (List.getElem_mem hjl));have h4:aO (ah rs) rs[k].name (au rs[k].rows[j].rows)=true:=h3;rw [hrf] at h4; cases h4
       go_wp2;refine bodyPost_ret (v:=.tuple #[.map none,.bool false]) ?_ rfl HPO.out;simp [results,Tryz.results73,go_sem]
      | true =>
       have HRN:Hid (((dO rs[k].rows).take (j + 1)).all (fun r=>aO (ah rs) rs[k].name r.expr)=true):=by
        show _=_;rw [HTS.out,List.all_append,HR.out];have:aO (ah rs) rs[k].name rs[k].rows[j].p.expr=true:=hrf;simp [this]
       go_wp2;go_roundw;case rel=>exact ⟨j + 1,by omega,by go_num,HRN,HB5,HV5,HC5⟩
       case measure=>simp [intOf] <;> omega
     ·obtain rfl:j=rs[k].rows.length:=by omega
      have HPN:Hid (((ah rs).take (k + 1)).all (nO (ah rs))=true):=by
       show _=_;rw [BZ rs k hlt,List.all_append,HP.out];have h1:=HR.out;rw [← qQ,List.take_length] at h1;have:nO (ah rs) rs[k].p=true:=h1;simp [this]
      go_wp2;go_roundw;case rel=>exact ⟨k + 1,by omega,by go_num,HPN,HB,HV⟩
      case measure=>simp [intOf] <;> omega
   ·obtain rfl:k=rs.length:=by omega
    have HRA:Hid (je (ah rs)=true):=by
     have h1:=HP.out;rw [← jL,List.take_length] at h1;exact h1
    go_wp2_with fail;refine (yF ad cap rs bT 36 (mr rs) _ h6 (HS.out.below HB.out) HL.out HFT.out HR6.out (fun r hr q hq=>(HEX.out r hr q hq).2) (Jz HSH.out) HV.out HT.out).mono ?_;rintro e w5 ⟨rfl,⟨nL,ML,hG5⟩,hb5⟩;have HB5:=gW HB hb5;have HG5:Hid (Grp w5 wr.heap.size nL ML (gU (ah rs) rs)):=hG5;clear hG5 hb5;go_wp2_with fail;refine (uQ ad cap rs wr.heap.size nL ML (gU (ah rs) rs) _ h6 (HS.out.below HB5.out) HFT.out HR6.out HG5.out (KZ HSH.out HRA.out) (nQ HRA.out) (GL rs HR6.out HEX.out (Jz HSH.out))).mono ?_;rintro e w6 ⟨hL,hb6⟩;have HB6:=gW HB5 hb6;clear hb6;rcases hL with ⟨bS,nS,σ,rfl,hM,hLe,hk⟩ | ⟨rfl,hno⟩
    ·have HPO:Hid (Cq (ah rs) w (.returned (.tuple #[.map (some bS),.bool true])) w6):=⟨.inl ⟨bS,nS,σ,rfl,⟨HSH.out,HRA.out,_,hLe.sol⟩,hM,hLe,hk⟩,HB6.out⟩;clear hM hLe hk;go_wp2;refine bodyPost_ret (v:=.tuple #[.map (some bS),.bool true]) ?_ rfl HPO.out;simp [results,Tryz.results73,go_sem]
    ·have HPO:Hid (Cq (ah rs) w (.returned (.tuple #[.map none,.bool false])) w6):=⟨.inr ⟨rfl,fun h=>hno h.2.2⟩,HB6.out⟩;clear hno;go_wp2;refine bodyPost_ret (v:=.tuple #[.map none,.bool false]) ?_ rfl HPO.out;simp [results,Tryz.results73,go_sem]
def ql (ts:List Ty) (oa ob r c d s:ByteArray):Bool:=dz (aT (aN ts oa r)) (aT (aN ts oa r)).length ⟨c,s⟩ && bB oa ob r c d s
theorem Cr:∀ {es:List Ex} (a:Al),own es=0→es.any (kW a)=false
 | [],_,_=>rfl
 | e::es,a,h=>by
  by_cases h1:e.kind=1
  ·simp [own,h1] at h
  ·rw [List.any_cons,Cr a (by simpa [own,h1] using h)];simp [kW,h1]
theorem Cs:∀ {es:List Ex} (a:Al),own es≤1→es.any (kW a)=dz (aT es) (aT es).length a
 | [],_,_=>rfl
 | e::es,a,h=>by
  by_cases h1:e.kind=1
  ·rw [List.any_cons,Cr a (by simp [own,h1] at h; simpa [own] using h)];simp [kW,h1,aT]
  ·rw [List.any_cons,Cs a (by simpa [own,h1] using h)];simp [kW,h1,aT]
theorem GN {xs:List Al} {a:Al} {k:Nat} (h:k < xs.length) (hk:jh xs[k] a=true):dz xs xs.length a=true:=by
 unfold dz;rw [List.take_length,List.any_eq_true];exact ⟨_,List.getElem_mem h,hk⟩
def zM (ts:List Ty) (oa ob r c d s:ByteArray):Bool:=aA ts && ql ts oa ob r c d s
theorem Mx {es:List Ex} (h:aS es=true):own es≤1:=by
 unfold aS at h; simp at h; omega
theorem K8 {rs:List TR} (h:bC (ah rs)) (ty n:ByteArray):own (aN (ah rs) ty n)≤1:=by
 unfold aN;cases e:fE (ah rs) ty n with
 | none=>simp [own]
 | some es =>
  obtain ⟨t,ht,q,hq,-,-,rfl⟩:=nV e;exact Mx ((dF h.1).2.2 t ht q hq).1
set_option maxRecDepth 100000 in
theorem xX (ad:Option Addr) (cap:Nat) (rs:List TR) (oa ob r c d s:ByteArray) (w:World) (hlen:rs.length≤1048576) (hs:gp w ad rs) (hl:∀ r ∈ rs,r.light) (ha:oa.size≤maxLen) (hb:ob.size≤maxLen) (hr:r.size≤maxLen) (hc:c.size≤maxLen) (hd:d.size≤maxLen) (hz:s.size≤maxLen) :
  Calls prog 47 #[.slice ad rs.length cap,.agg #[.string oa,.string ob,.string r,.string c,.string d,.string s]] w fun e w'=>e=.returned (.bool (ql (ah rs) oa ob r c d s))∧Below w.heap.size w w':=by
 have HS:Hid (gp w ad rs):=hs;have HL:Hid (∀ r ∈ rs,r.light):=hl;clear hs hl;obtain ⟨W0,hW0⟩:∃ W0,W0=w.alloc (.cells #[.string oa,.string ob,.string r,.string c,.string d,.string s] 41):=⟨_,rfl⟩;have hal:Below w.heap.size w W0:=by rw [hW0]; exact (Below.refl _ _).alloc (Nat.le_refl _) _
 have HB0:Hid (Below w.heap.size w W0):=hal;have HC0:Hid (W0.cell? ⟨w.heap.size,0,none⟩=some (.string oa)∧W0.cell? ⟨w.heap.size,1,none⟩=some (.string ob)∧W0.cell? ⟨w.heap.size,2,none⟩=some (.string r)∧W0.cell? ⟨w.heap.size,3,none⟩=some (.string c)∧W0.cell? ⟨w.heap.size,4,none⟩=some (.string d)∧W0.cell? ⟨w.heap.size,5,none⟩=some (.string s)∧w.heap.size < W0.heap.size):=by
  show _∧_;rw [hW0]; refine ⟨?_,?_,?_,?_,?_,?_,?_⟩ <;> simp
 clear hal;go_enter func47,ntmps47;go_wp2_with fail;rw [← hW0];clear hW0;refine (iQ ad cap rs oa r _ hlen (HS.out.below HB0.out) HL.out).mono ?_;rintro e w1 ⟨⟨rows,adE,capE,rfl,hex,hse,hfr⟩,hw1⟩;replace hw1:=hw1.symm;subst hw1;have HX:Hid (au rows=aN (ah rs) oa r):=hex;have HSE:Hid (kX W0 adE rows):=hse;have HLE:=hfr.light HL.out;have hrl:rows.length≤1048576:=HLE.1;have HLG:Hid (∀ q ∈ rows,q.e.light):=HLE.2;clear hex hse hfr HLE;go_wp2_with fail;refine (ui adE capE rows _ hrl HSE.out).mono ?_;rintro e w1 ⟨⟨adA,capA,rfl,hsa,hfa⟩,hw1⟩;replace hw1:=hw1.symm;subst hw1;obtain ⟨xs,hxs⟩:∃ xs,xs=aT (au rows):=⟨_,rfl⟩;rw [← hxs] at hsa hfa ⊢;have HXS:Hid (xs=aT (aN (ah rs) oa r)):=by rw [← HX.out]; exact hxs
 have HSA:Hid (kF W0 adA xs):=hsa;have hxl:xs.length≤1048576:=by
  rcases hfa with h | ⟨q,hq,h,-⟩
  ·rw [h]; simp
  ·rw [h]; exact (HLG.out q hq).1
 clear hxs hsa hfa HLG HSE HX;go_wp2;go_loopw [6] (fun i wr=>∃ k:Nat,k≤xs.length∧i=.int .i64 k∧Hid (dz xs k ⟨c,s⟩=false)∧Hid (Below W0.heap.size W0 wr)) (fun i _=>xs.length - (intOf i).toNat);case atStart=>exact ⟨0,Nat.zero_le _,rfl,lY _ _,Below.refl _ _⟩
 case round =>
  obtain ⟨k,hk,rfl,HP,HB⟩:=hrel;have HBW:Hid (Below w.heap.size w wr):=HB0.out.trans (HB.out.mono HB0.out.size);by_cases hlt:k < xs.length
  ·rcases HSA.out.below HB.out with hnil | ⟨b,off,rfl,hb5,hr5⟩
   ·rw [hnil] at hlt; simp at hlt
   obtain ⟨t0,t1⟩:=hr5 k hlt;have hk1:=bR k;have hk2:(k:Int) < (xs.length:Int):=by omega
   have hwl:w.heap.size < wr.heap.size:=Nat.lt_of_lt_of_le HC0.out.2.2.2.2.2.2 HB.out.size;have c0:=ak HB.out HC0.out.2.2.2.2.2.2 HC0.out.1;have c1:=ak HB.out HC0.out.2.2.2.2.2.2 HC0.out.2.1;have c2:=ak HB.out HC0.out.2.2.2.2.2.2 HC0.out.2.2.1;have c3:=ak HB.out HC0.out.2.2.2.2.2.2 HC0.out.2.2.2.1;have c4:=ak HB.out HC0.out.2.2.2.2.2.2 HC0.out.2.2.2.2.1;have c5:=ak HB.out HC0.out.2.2.2.2.2.2 HC0.out.2.2.2.2.2.1;have HSU:Hid (dz xs (k + 1) ⟨c,s⟩=jh xs[k] ⟨c,s⟩):=by show _=_; rw [lX _ _ _ hlt,HP.out]; rfl
   clear hr5;go_wp2_with fail;cases h1:(xs[k].t.toList == c.toList) with
   | false =>
    refine ax 19 (fun n=>(u21::u22::u23::u24::u25::u26::u27::u28::u29::u30::u31::u32::u33::u34::u35::u36::u37::u38::u39::[]).getD n undef) (fun fq=>{ tmps:=List.toArray (Value.slice ad rs.length cap::.agg #[.string oa,.string ob,.string r,.string c,.string d,.string s]::undef::.pointer (some ⟨w.heap.size,0,none⟩)::u4::.slice (some ⟨b,off,none⟩) xs.length capA::.int .i64 k::.slice ad rs.length cap::.pointer (some ⟨w.heap.size,0,none⟩)::.pointer (some ⟨w.heap.size,0,none⟩)::.string oa::.pointer (some ⟨w.heap.size,2,none⟩)::.string r::.slice adE rows.length capE::.slice (some ⟨b,off,none⟩) xs.length capA::.int .i64 k::.slice (some ⟨b,off,none⟩) xs.length capA::.int .i64 xs.length::.bool true::u19::u20::fq 0::fq 1::fq 2::fq 3::fq 4::fq 5::fq 6::fq 7::fq 8::fq 9::fq 10::fq 11::fq 12::fq 13::fq 14::fq 15::fq 16::fq 17::fq 18::u40::u41::[]),defers:=[] }) (fun n v _=>v=(Value.slice (some ⟨b,off,none⟩) xs.length capA::.int .i64 k::.pointer (some ⟨b,off + k * 2,none⟩)::.pointer (some ⟨b,off + k * 2,none⟩)::.string xs[k].t::.pointer (some ⟨w.heap.size,3,none⟩)::.pointer (some ⟨w.heap.size,3,none⟩)::.string c::.bool false::.bool false::undef::undef::undef::undef::undef::undef::undef::undef::.bool false::[]).getD n undef) (fun w'=>Below wr.heap.size wr w') (by kernel_rfl) rfl (by kernel_rfl) rfl (Below.refl _ _).drew ?stepA ?finA;case stepA =>
     rintro i hi o ho fq w' hG hpre;have HG:Hid (Below wr.heap.size wr w'):=hG;replace t0:=ak hG hb5 t0;replace t1:=ak hG hb5 t1;replace c3:=ak hG hwl c3;replace c5:=ak hG hwl c5;have HM:Hid (∀ e ∈ o.after,Region.binds .any e=true→_):=hpre;clear hG hpre;have hc:=Hr (i:=i) (by omega);clear hi
     repeat' rcases hc with rfl | hc
     iterate 19
      ·obtain rfl:=Option.some.inj ho;have hm:=HM.out
       try simp [Region.binds] at hm
       refine aa rfl fun K HK=>?_;clear ho HM
       try simp only [hm]
       go_simp;exact HK.out _ _ ⟨_,by simp [upd, *],HG.out,rfl,fun k u hu=>hu⟩
    case finA =>
     rintro fq w' hG hall;have e18:fq 18=.bool false:=hall 18 (by omega);have HG:Hid (Below wr.heap.size wr w'):=hG;clear hall;clear hG;have HB2:Hid (Below W0.heap.size W0 w'):=HB.out.trans (HG.out.mono HB.out.size);have HP2:Hid (dz xs (k + 1) ⟨c,s⟩=false):=by show _=_; rw [HSU.out]; simp [jh,h1]
     rw [e18];go_wp2;go_roundw;case rel=>exact ⟨k + 1,by omega,by go_num,HP2,HB2⟩
     case measure=>simp [intOf] <;> omega
   | true =>
    cases h2:(xs[k].s.toList == s.toList) with
    | false =>
     refine ax 19 (fun n=>(u21::u22::u23::u24::u25::u26::u27::u28::u29::u30::u31::u32::u33::u34::u35::u36::u37::u38::u39::[]).getD n undef) (fun fq=>{ tmps:=List.toArray (Value.slice ad rs.length cap::.agg #[.string oa,.string ob,.string r,.string c,.string d,.string s]::undef::.pointer (some ⟨w.heap.size,0,none⟩)::u4::.slice (some ⟨b,off,none⟩) xs.length capA::.int .i64 k::.slice ad rs.length cap::.pointer (some ⟨w.heap.size,0,none⟩)::.pointer (some ⟨w.heap.size,0,none⟩)::.string oa::.pointer (some ⟨w.heap.size,2,none⟩)::.string r::.slice adE rows.length capE::.slice (some ⟨b,off,none⟩) xs.length capA::.int .i64 k::.slice (some ⟨b,off,none⟩) xs.length capA::.int .i64 xs.length::.bool true::u19::u20::fq 0::fq 1::fq 2::fq 3::fq 4::fq 5::fq 6::fq 7::fq 8::fq 9::fq 10::fq 11::fq 12::fq 13::fq 14::fq 15::fq 16::fq 17::fq 18::u40::u41::[]),defers:=[] }) (fun n v _=>v=(Value.slice (some ⟨b,off,none⟩) xs.length capA::.int .i64 k::.pointer (some ⟨b,off + k * 2,none⟩)::.pointer (some ⟨b,off + k * 2,none⟩)::.string xs[k].t::.pointer (some ⟨w.heap.size,3,none⟩)::.pointer (some ⟨w.heap.size,3,none⟩)::.string c::.bool true::.bool true::.slice (some ⟨b,off,none⟩) xs.length capA::.int .i64 k::.pointer (some ⟨b,off + k * 2,none⟩)::.pointer (some ⟨b,off + k * 2 + 1,none⟩)::.string xs[k].s::.pointer (some ⟨w.heap.size,5,none⟩)::.string s::.bool false::.bool false::[]).getD n undef) (fun w'=>Below wr.heap.size wr w') (by kernel_rfl) rfl (by kernel_rfl) rfl (Below.refl _ _).drew ?jI ?finB;case jI =>
      rintro i hi o ho fq w' hG hpre;have HG:Hid (Below wr.heap.size wr w'):=hG;replace t0:=ak hG hb5 t0;replace t1:=ak hG hb5 t1;replace c3:=ak hG hwl c3;replace c5:=ak hG hwl c5;have HM:Hid (∀ e ∈ o.after,Region.binds .any e=true→_):=hpre;clear hG hpre;have hc:=Hr (i:=i) (by omega);clear hi
      repeat' rcases hc with rfl | hc
      iterate 19
       ·obtain rfl:=Option.some.inj ho;have hm:=HM.out
        try simp [Region.binds] at hm
        refine aa rfl fun K HK=>?_;clear ho HM
        try simp only [hm]
        go_simp;exact HK.out _ _ ⟨_,by simp [upd, *],HG.out,rfl,fun k u hu=>hu⟩
     case finB =>
      rintro fq w' hG hall;have e18:fq 18=.bool false:=hall 18 (by omega);have HG:Hid (Below wr.heap.size wr w'):=hG;clear hall;clear hG;have HB2:Hid (Below W0.heap.size W0 w'):=HB.out.trans (HG.out.mono HB.out.size);have HP2:Hid (dz xs (k + 1) ⟨c,s⟩=false):=by show _=_; rw [HSU.out]; simp [jh,h1,h2]
      rw [e18];go_wp2;go_roundw;case rel=>exact ⟨k + 1,by omega,by go_num,HP2,HB2⟩
      case measure=>simp [intOf] <;> omega
    | true =>
     refine ax 19 (fun n=>(u21::u22::u23::u24::u25::u26::u27::u28::u29::u30::u31::u32::u33::u34::u35::u36::u37::u38::u39::[]).getD n undef) (fun fq=>{ tmps:=List.toArray (Value.slice ad rs.length cap::.agg #[.string oa,.string ob,.string r,.string c,.string d,.string s]::undef::.pointer (some ⟨w.heap.size,0,none⟩)::u4::.slice (some ⟨b,off,none⟩) xs.length capA::.int .i64 k::.slice ad rs.length cap::.pointer (some ⟨w.heap.size,0,none⟩)::.pointer (some ⟨w.heap.size,0,none⟩)::.string oa::.pointer (some ⟨w.heap.size,2,none⟩)::.string r::.slice adE rows.length capE::.slice (some ⟨b,off,none⟩) xs.length capA::.int .i64 k::.slice (some ⟨b,off,none⟩) xs.length capA::.int .i64 xs.length::.bool true::u19::u20::fq 0::fq 1::fq 2::fq 3::fq 4::fq 5::fq 6::fq 7::fq 8::fq 9::fq 10::fq 11::fq 12::fq 13::fq 14::fq 15::fq 16::fq 17::fq 18::u40::u41::[]),defers:=[] }) (fun n v _=>v=(Value.slice (some ⟨b,off,none⟩) xs.length capA::.int .i64 k::.pointer (some ⟨b,off + k * 2,none⟩)::.pointer (some ⟨b,off + k * 2,none⟩)::.string xs[k].t::.pointer (some ⟨w.heap.size,3,none⟩)::.pointer (some ⟨w.heap.size,3,none⟩)::.string c::.bool true::.bool true::.slice (some ⟨b,off,none⟩) xs.length capA::.int .i64 k::.pointer (some ⟨b,off + k * 2,none⟩)::.pointer (some ⟨b,off + k * 2 + 1,none⟩)::.string xs[k].s::.pointer (some ⟨w.heap.size,5,none⟩)::.string s::.bool true::.bool true::[]).getD n undef) (fun w'=>Below wr.heap.size wr w') (by kernel_rfl) rfl (by kernel_rfl) rfl (Below.refl _ _).drew ?stepC ?finC;case stepC =>
      rintro i hi o ho fq w' hG hpre;have HG:Hid (Below wr.heap.size wr w'):=hG;replace t0:=ak hG hb5 t0;replace t1:=ak hG hb5 t1;replace c3:=ak hG hwl c3;replace c5:=ak hG hwl c5;have HM:Hid (∀ e ∈ o.after,Region.binds .any e=true→_):=hpre;clear hG hpre;have hc:=Hr (i:=i) (by omega);clear hi
      repeat' rcases hc with rfl | hc
      iterate 19
       ·obtain rfl:=Option.some.inj ho;have hm:=HM.out
        try simp [Region.binds] at hm
        refine aa rfl fun K HK=>?_;clear ho HM
        try simp only [hm]
        go_simp;exact HK.out _ _ ⟨_,by simp [upd, *],HG.out,rfl,fun k u hu=>hu⟩
     case finC =>
      rintro fq w' hG hall;have e18:fq 18=.bool true:=hall 18 (by omega);have HG:Hid (Below wr.heap.size wr w'):=hG;clear hall;replace c0:=ak hG hwl c0;replace c1:=ak hG hwl c1;replace c2:=ak hG hwl c2;replace c3:=ak hG hwl c3;replace c4:=ak hG hwl c4;replace c5:=ak hG hwl c5;clear hG;rw [e18];have HN:Hid (ql (ah rs) oa ob r c d s=bB oa ob r c d s):=by show _=_; unfold ql; rw [← HXS.out,GN hlt (by simp [jh,h1,h2])]; rfl
      go_wp2_with fail;refine (bz oa ob r c d s _ ha hb hr hc hd hz).mono ?_;rintro e w2 ⟨rfl,hb2⟩;have HB2:Hid (Below w.heap.size w w2):=HBW.out.trans ((HG.out.mono HBW.out.size).trans (hb2.mono (Nat.le_trans HBW.out.size HG.out.size)));clear hb2;go_wp2;go_ret;exact ⟨by rw [HN.out]; rfl,HB2.out⟩
  ·obtain rfl:k=xs.length:=by omega
   have HN:Hid (ql (ah rs) oa ob r c d s=false):=by show _=_; unfold ql; rw [← HXS.out,HP.out]; rfl
   go_wp2;go_ret;exact ⟨by rw [HN.out]; rfl,HBW.out⟩
end Go.Proofs.YteoflgocljfgeaaGreatDoor
