/- Contracts of the program's functions on whether what a schema names is there. -/
import Derived.Test.YtdaoiceeidoehaaGreatJ14
open Go.Proofs.Tryz
set_option maxHeartbeats 80000000
namespace Go.Proofs.YtdaoiceeidoehaaGreat
open Go.ChangeShapes Go.WideShapes Go.ChangeAt Go.RowKit Go.Maps
open Pl
theorem ve (t:TR) (g:Nat) (nm:ByteArray) (w:World) (hg:g < w.heap.size) (hc:w.cell? ⟨g,0,none⟩=some (.string nm)) :
  Calls prog 162 #[.agg #[.string t.name,.slice t.ad t.rows.length t.cap],.pointer (some ⟨g,0,none⟩)] w fun e w'=>e=.returned (.bool (t.name.toList == nm.toList))∧Below w.heap.size w w':=by
 go_enter func162,ntmps162;go_wp2;go_ret;exact ⟨rfl,(Below.refl _ _).alloc (Nat.le_refl _) _⟩
theorem xR (rs:List TR) (k:Nat) (h:k < rs.length) (nm:ByteArray):iZ (ae (rs.drop k)) nm=((rs[k].name.toList == nm.toList) || iZ (ae (rs.drop (k + 1))) nm):=by
 rw [jO _ _ h]; rfl
theorem vg (ad:Option Addr) (cap:Nat) (rs:List TR) (g:Nat) (nm:ByteArray) (w:World) (hlen:rs.length≤1048576) (hs:eY w ad rs) (hg:g < w.heap.size) (hc:w.cell? ⟨g,0,none⟩=some (.string nm)) :
  Calls prog 173 #[.slice ad rs.length cap,.func (Fn.func 162) #[] #[.pointer (some ⟨g,0,none⟩)]] w fun e w'=>(∃ r:Int,e=.returned (.int .i64 r)∧decide (0≤r)=iZ (ae rs) nm)∧Below w.heap.size w w':=by
 have HS:Hid (eY w ad rs):=hs;have HC:Hid (w.cell? ⟨g,0,none⟩=some (.string nm)):=hc;clear hs hc;go_enter func173,ntmps173;go_wp2_with fail;go_loopw [8] (fun i wr=>∃ k:Nat,k≤rs.length∧i=.int .i64 k∧Hid (iZ (ae (rs.drop k)) nm=iZ (ae rs) nm)∧Hid (Below w.heap.size w wr)) (fun i _=>rs.length - (intOf i).toNat);case atStart=>exact ⟨0,Nat.zero_le _,rfl,rfl,Below.refl _ _⟩
 case round =>
  obtain ⟨k,hk,rfl,HP,HB⟩:=hrel;by_cases hlt:k < rs.length
  ·rcases HS.out.below HB.out with rfl | ⟨b,off,rfl,hb,hr,-⟩
   ·simp at hlt
   obtain ⟨t0,t1⟩:=hr k hlt;have hk1:=aY k;have hk2:(k:Int) < (rs.length:Int):=by omega
   have HCW:Hid (wr.cell? ⟨g,0,none⟩=some (.string nm)):=ai HB.out hg HC.out;have HGW:Hid (g < wr.heap.size):=Nat.lt_of_lt_of_le hg HB.out.size;clear hr;cases he:(rs[k].name.toList == nm.toList) with
   | true =>
    have HN:Hid (iZ (ae rs) nm=true):=by show _=_; rw [← HP.out,xR _ _ hlt,he]; rfl
    go_wp2_with (go_at_call 162; refine (ve rs[k] g nm _ HGW.out HCW.out).mono ?_; rintro e w' ⟨he2,hbx⟩; rw [he] at he2; subst he2);go_ret;exact ⟨⟨k,rfl,by rw [HN.out]; simp⟩,HB.out.trans (hbx.mono HB.out.size)⟩
   | false =>
    have HP2:Hid (iZ (ae (rs.drop (k + 1))) nm=iZ (ae rs) nm):=by show _=_; rw [← HP.out,xR _ _ hlt,he]; rfl
    go_wp2_with (go_at_call 162; refine (ve rs[k] g nm _ HGW.out HCW.out).mono ?_; rintro e w' ⟨he2,hbx⟩; rw [he] at he2; subst he2);go_roundw;case rel=>exact ⟨k + 1,by omega,by go_num,HP2,HB.out.trans (hbx.mono HB.out.size)⟩
    case measure=>simp [intOf] <;> omega
  ·have HN:Hid (iZ (ae rs) nm=false):=by show _=_; rw [← HP.out,List.drop_of_length_le (by omega)]; rfl
   go_wp2;go_ret;exact ⟨⟨-1,rfl,by rw [HN.out]; simp⟩,HB.out⟩
theorem pV (ad:Option Addr) (cap:Nat) (rs:List TR) (g:Nat) (nm:ByteArray) (w:World) (hlen:rs.length≤1048576) (hs:eY w ad rs) (hg:g < w.heap.size) (hc:w.cell? ⟨g,0,none⟩=some (.string nm)) :
  Calls prog 161 #[.slice ad rs.length cap,.func (Fn.func 162) #[] #[.pointer (some ⟨g,0,none⟩)]] w fun e w'=>e=.returned (.bool (iZ (ae rs) nm))∧Below w.heap.size w w':=by
 go_enter func161,ntmps161;go_wp2_with fail;refine (vg ad cap rs g nm _ hlen hs hg hc).mono ?_;rintro e w' ⟨⟨r,rfl,hr⟩,hbx⟩;have HR:Hid (decide (0≤r)=iZ (ae rs) nm):=hr;clear hr hs hc;go_wp2;go_ret;exact ⟨by rw [← HR.out]; rfl,hbx⟩
set_option maxRecDepth 100000 in
theorem vk (ad adA:Option Addr) (cap capA:Nat) (rs:List TR) (b n:Nat) (M:ByteArray × ByteArray→Option Value) (xs:List Al) (w:World) (hlen:rs.length≤1048576) (hs:eY w ad rs) (hV:aB bn prog 130 w b n M) (hT:Tab rs M) (hla:xs.length≤1048576) (hsa:fV w adA xs) (hfa:∀ a ∈ xs,a.fits) :
  Calls prog 142 #[.slice ad rs.length cap,.map (some b),.slice adA xs.length capA] w fun e w'=>e=.returned (.bool (lw (ae rs) xs))∧Below w.heap.size w w':=by
 have HS:Hid (eY w ad rs):=hs;have HV:Hid (aB bn prog 130 w b n M):=hV;have HT:Hid (Tab rs M):=hT;have HA:Hid (fV w adA xs):=hsa;have HFA:Hid (∀ a ∈ xs,a.fits):=hfa;clear hs hV hT hsa hfa;go_enter func142,ntmps142;go_wp2_with fail;go_loopw [11] (fun i wr=>∃ k:Nat,k≤xs.length∧i=.int .i64 k∧Hid (jQ (ae rs) xs k=true)∧Hid (Below w.heap.size w wr)) (fun i _=>xs.length - (intOf i).toNat);case atStart=>exact ⟨0,Nat.zero_le _,rfl,uj _ _,Below.refl _ _⟩
 case round =>
  obtain ⟨k,hk,rfl,HP,HB⟩:=hrel;by_cases hlt:k < xs.length
  ·rcases HA.out.below HB.out with rfl | ⟨ba,offa,rfl,hba,hra⟩
   ·simp at hlt
   obtain ⟨t0,t1⟩:=hra k hlt;have hk1:=aY k;have hk2:(k:Int) < (xs.length:Int):=by omega
   have zA:=HFA.out _ (List.getElem_mem hlt);have z1:xs[k].t.size≤maxLen:=zA.1;have z2:xs[k].s.size≤maxLen:=zA.2;have HI:Hid ((M (xs[k].t,xs[k].s)).isSome=!(aC (ae rs) xs[k].t xs[k].s).isEmpty):=HT.out.some_iff (xs[k].t,xs[k].s);obtain ⟨W1,hW1⟩:∃ W1,W1=wr.alloc (.cells #[.string xs[k].t,.string xs[k].s] 163):=⟨_,rfl⟩;have hal:Below wr.heap.size wr W1:=by rw [hW1]; exact (Below.refl _ _).alloc (Nat.le_refl _) _
   have HBW:=fK HB hal;have g0:W1.cell? ⟨wr.heap.size,0,none⟩=some (.string xs[k].t):=by rw [hW1]; simp
   have g1:W1.cell? ⟨wr.heap.size,1,none⟩=some (.string xs[k].s):=by rw [hW1]; simp
   have hgl:wr.heap.size < W1.heap.size:=by rw [hW1]; simp
   clear hra hal zA;go_wp2_with fail;rw [← hW1];clear hW1 t0 t1;refine (pV ad cap rs wr.heap.size xs[k].t _ hlen (HS.out.below HBW.out) hgl g0).mono ?_;rintro e w2 ⟨rfl,hb2⟩;have HB2:=fK HBW hb2;replace g0:=ai hb2 hgl g0;replace g1:=ai hb2 hgl g1;have HV2:Hid (aB bn prog 130 w2 b n M):=HV.out.below HB2.out;clear hb2 hgl;cases ht:iZ (ae rs) xs[k].t with
   | false =>
    have HN:Hid (lw (ae rs) xs=false):=oQ _ _ k hlt (by simp [kU,ht]);go_wp2;go_ret;exact ⟨by rw [HN.out]; rfl,HB2.out⟩
   | true =>
    cases he:xs[k].s.toList.isEmpty with
    | true =>
     have HP2:Hid (jQ (ae rs) xs (k + 1)=true):=by show _=_; rw [kr _ _ _ hlt,HP.out]; simp [kU,ht,he]
     go_wp2;go_roundw;case rel=>exact ⟨k + 1,by omega,by go_num,HP2,HB2⟩
     case measure=>simp [intOf] <;> omega
    | false =>
     cases hz:(M (xs[k].t,xs[k].s)).isSome with
     | false =>
      have HN:Hid (lw (ae rs) xs=false):=oQ _ _ k hlt (by have:=HI.out; rw [hz] at this; simp [kU,ht,he]; simpa using this.symm);go_wp2_with (go_at_call 143; refine (tu b n M xs[k].t xs[k].s _ z1 z2 HV2.out).mono ?_; rintro e w' ⟨he2,rfl⟩; rw [hz] at he2; subst he2);go_ret;exact ⟨by rw [HN.out]; rfl,HB2.out⟩
     | true =>
      have HP2:Hid (jQ (ae rs) xs (k + 1)=true):=by show _=_; rw [kr _ _ _ hlt,HP.out]; have:=HI.out; rw [hz] at this; simp [kU,ht,he]; simpa using this.symm
      go_wp2_with (go_at_call 143; refine (tu b n M xs[k].t xs[k].s _ z1 z2 HV2.out).mono ?_; rintro e w' ⟨he2,rfl⟩; rw [hz] at he2; subst he2);go_roundw;case rel=>exact ⟨k + 1,by omega,by go_num,HP2,HB2⟩
      case measure=>simp [intOf] <;> omega
  ·have HN:Hid (lw (ae rs) xs=true):=by
    have:=HP.out;obtain rfl:k=xs.length:=by omega
    unfold jQ at this;rw [List.take_length] at this;exact this
   go_wp2;go_ret;exact ⟨by rw [HN.out]; rfl,HB.out⟩
theorem oF {e:Ex} (h:ak e=true) (h1:e.kind ≠ 1):e.allow=[]:=by
 unfold ak at h;rw [if_neg h1] at h;split at h
 ·simp only [Bool.and_eq_true,decide_eq_true_eq] at h; exact List.length_eq_zero_iff.1 h.1.1.2
 split at h
 ·simp only [Bool.and_eq_true,decide_eq_true_eq] at h; exact List.length_eq_zero_iff.1 h.1.2
 split at h
 ·simp only [Bool.and_eq_true,decide_eq_true_eq] at h; exact List.length_eq_zero_iff.1 h.1.1.2
 split at h
 ·simp only [Bool.and_eq_true,decide_eq_true_eq] at h; exact List.length_eq_zero_iff.1 h.1.1.2
 ·cases h
theorem Dx (ts:List Ty) (typ:ByteArray) (rows:List ER) (k:Nat) (h:k < rows.length):aJ ts typ (ah (rows.drop k))=if lw ts rows[k].e.allow && jK ts typ rows[k].e then aJ ts typ (ah (rows.drop (k + 1))) else false:=by
 rw [eG _ _ h]; rfl
theorem Bn (ts:List Ty) (typ:ByteArray) (e:Ex) (h:e.kind=3):jK ts typ e=!(eB ts typ e.over e.name).isEmpty:=by
 unfold jK eB;rw [if_neg (by omega),if_pos h];cases aV (aC ts typ e.over) <;> simp
set_option maxRecDepth 100000 in
theorem vv (ad adE:Option Addr) (cap capE:Nat) (rs:List TR) (b n:Nat) (M:ByteArray × ByteArray→Option Value) (typ:ByteArray) (rows:List ER) (w:World) (hlen:rs.length≤1048576) (hs:eY w ad rs) (hl:∀ r ∈ rs,r.light) (hf:∀ r ∈ rs,r.fits) (hV:aB bn prog 130 w b n M) (hT:Tab rs M) (ht:typ.size≤maxLen) (hle:rows.length≤1048576) (hse:dw w adE rows) (hlE:∀ q ∈ rows,q.e.light) (hfE:∀ q ∈ rows,q.e.fits) (hnb:∀ q ∈ rows,ak q.e=true) :
  Calls prog 118 #[.slice ad rs.length cap,.map (some b),.string typ,.slice adE rows.length capE] w fun e w'=>e=.returned (.bool (aJ (ae rs) typ (ah rows)))∧Below w.heap.size w w':=by
 have HS:Hid (eY w ad rs):=hs;have HL:Hid (∀ r ∈ rs,r.light):=hl;have HFT:Hid (∀ r ∈ rs,r.fits):=hf;have HV:Hid (aB bn prog 130 w b n M):=hV;have HT:Hid (Tab rs M):=hT;have HE:Hid (dw w adE rows):=hse;have HLE:Hid (∀ q ∈ rows,q.e.light):=hlE;have HFE:Hid (∀ q ∈ rows,q.e.fits):=hfE;have HNB:Hid (∀ q ∈ rows,ak q.e=true):=hnb;clear hs hl hf hV hT hse hlE hfE hnb;go_enter func118,ntmps118;go_wp2_with fail;go_loopw [13] (fun i wr=>∃ k:Nat,k≤rows.length∧i=.int .i64 k∧Hid (aJ (ae rs) typ (ah (rows.drop k))=aJ (ae rs) typ (ah rows))∧Hid (Below w.heap.size w wr)) (fun i _=>rows.length - (intOf i).toNat);case atStart=>exact ⟨0,Nat.zero_le _,rfl,rfl,Below.refl _ _⟩
 case round =>
  obtain ⟨k,hk,rfl,HP,HB⟩:=hrel;by_cases hlt:k < rows.length
  ·rcases HE.out.below HB.out with rfl | ⟨bE,offE,rfl,hbE,hrE,hokE⟩
   ·simp at hlt
   obtain ⟨t0,t1,t2,t3,t4⟩:=hrE k hlt;have HOKW:Hid (rows[k].ok w):=HE.out.mem (List.getElem_mem hlt);have hk1:=aY k;have hk2:(k:Int) < (rows.length:Int):=by omega
   have lgA:rows[k].e.allow.length≤1048576:=(HLE.out _ (List.getElem_mem hlt)).1;have HFK:Hid (rows[k].e.fits):=HFE.out _ (List.getElem_mem hlt);have HNK:Hid (ak rows[k].e=true):=HNB.out _ (List.getElem_mem hlt);have HDR:=Dx (ae rs) typ rows k hlt;have HD:Hid (aJ (ae rs) typ (ah rows)=if lw (ae rs) rows[k].e.allow && jK (ae rs) typ rows[k].e then aJ (ae rs) typ (ah (rows.drop (k + 1))) else false):=by show _=_; rw [← HP.out]; exact HDR
   obtain ⟨W1,hW1⟩:∃ W1,W1=wr.alloc (.cells #[.int .i64 rows[k].e.kind,.slice rows[k].adA rows[k].e.allow.length rows[k].capA,.string rows[k].e.over,.string rows[k].e.name,.slice rows[k].adK rows[k].e.kids.length rows[k].capK] 166):=⟨_,rfl⟩;have hal:Below wr.heap.size wr W1:=by rw [hW1]; exact (Below.refl _ _).alloc (Nat.le_refl _) _
   have HBW:=fK HB hal;have HVW:Hid (aB bn prog 130 W1 b n M):=HV.out.below HBW.out;have zO:rows[k].e.over.size≤maxLen:=HFK.out.2.1;have zN:rows[k].e.name.size≤maxLen:=HFK.out.2.2.1;clear hrE hokE hal HDR;by_cases h1:rows[k].e.kind=1
   ·have HRN:Hid (jK (ae rs) typ rows[k].e=true):=by show _=_; unfold jK; rw [if_neg (by omega),if_neg (by omega)]
    have hq1:(rows[k].e.kind == 1)=true:=by simpa using h1
    replace h1:Hid (rows[k].e.kind=1):=h1;go_wp2_with fail;rw [← hW1];refine (vk ad rows[k].adA cap rows[k].capA rs b n M rows[k].e.allow _ hlen (HS.out.below HBW.out) HVW.out HT.out lgA (HOKW.out.1.below HBW.out) HFK.out.1).mono ?_;rintro e w2 ⟨rfl,hb2⟩;have HB2:=fK HBW hb2;clear hb2 hW1 t0 t1 t2 t3 t4;cases hz:lw (ae rs) rows[k].e.allow with
    | false =>
     have HN:Hid (aJ (ae rs) typ (ah rows)=false):=by show _=_; rw [HD.out,hz]; rfl
     go_wp2;go_ret;exact ⟨by rw [HN.out]; rfl,HB2.out⟩
    | true =>
     have HP2:Hid (aJ (ae rs) typ (ah (rows.drop (k + 1)))=aJ (ae rs) typ (ah rows)):=by show _=_; rw [HD.out,hz,HRN.out]; rfl
     go_wp2;go_roundw;case rel=>exact ⟨k + 1,by omega,by go_num,HP2,HB2⟩
     case measure=>simp [intOf] <;> omega
   have hq1:(rows[k].e.kind == 1)=false:=by simpa using h1
   have HRA:Hid (lw (ae rs) rows[k].e.allow=true):=by show _=_; rw [oF HNK.out h1]; rfl
   by_cases h2:rows[k].e.kind=2
   ·have hq2:(rows[k].e.kind == 2)=true:=by simpa using h2
    have HI:=HT.out.some_iff (typ,rows[k].e.name);have HRN:Hid (jK (ae rs) typ rows[k].e=(M (typ,rows[k].e.name)).isSome):=by show _=_; unfold jK; rw [if_pos h2,HI]
    clear HI;replace h2:Hid (rows[k].e.kind=2):=h2;go_wp2_with fail;rw [← hW1];refine (tu b n M typ rows[k].e.name _ ht zN HVW.out).mono ?_;rintro e w2 ⟨rfl,hw2⟩;rw [hw2];clear hw2 w2 hW1 t0 t1 t2 t3 t4;cases hz:(M (typ,rows[k].e.name)).isSome with
    | false =>
     have HN:Hid (aJ (ae rs) typ (ah rows)=false):=by show _=_; rw [HD.out,HRN.out,hz,HRA.out]; rfl
     go_wp2;go_ret;exact ⟨by rw [HN.out]; rfl,HBW.out⟩
    | true =>
     have HP2:Hid (aJ (ae rs) typ (ah (rows.drop (k + 1)))=aJ (ae rs) typ (ah rows)):=by show _=_; rw [HD.out,HRN.out,hz,HRA.out]; rfl
     go_wp2;go_roundw;case rel=>exact ⟨k + 1,by omega,by go_num,HP2,HBW⟩
     case measure=>simp [intOf] <;> omega
   have hq2:(rows[k].e.kind == 2)=false:=by simpa using h2
   by_cases h3:rows[k].e.kind=3
   ·have hq3:(rows[k].e.kind == 3)=true:=by simpa using h3
    have HRN:Hid (jK (ae rs) typ rows[k].e=!(eB (ae rs) typ rows[k].e.over rows[k].e.name).isEmpty):=Bn _ _ _ h3;replace h3:Hid (rows[k].e.kind=3):=h3;go_wp2_with fail;rw [← hW1];refine (rV b n rs ad M typ rows[k] _ HVW.out HT.out (HS.out.below HBW.out) HL.out HFT.out ht zO zN).mono ?_;rintro e w2 ⟨⟨ad',cap',rfl,-,-⟩,hb2⟩;have HB2:=fK HBW hb2;clear hb2 hW1 t0 t1 t2 t3 t4;generalize eB (ae rs) typ rows[k].e.over rows[k].e.name=gs at HRN ⊢;cases gs with
    | nil =>
     have HN:Hid (aJ (ae rs) typ (ah rows)=false):=by show _=_; rw [HD.out,HRN.out,HRA.out]; rfl
     go_wp2;go_ret;exact ⟨by rw [HN.out]; rfl,HB2.out⟩
    | cons g gs =>
     have HP2:Hid (aJ (ae rs) typ (ah (rows.drop (k + 1)))=aJ (ae rs) typ (ah rows)):=by show _=_; rw [HD.out,HRN.out,HRA.out]; rfl
     have hlz:(((g::gs).length:Int) == 0)=false:=by
      have:¬ (((g::gs).length:Int)=0):=by simp; omega
      simpa using this
     obtain ⟨ln,hln⟩:∃ ln,ln=(g::gs).length:=⟨_,rfl⟩;rw [← hln] at hlz ⊢;clear hln;go_wp2;go_roundw;case rel=>exact ⟨k + 1,by omega,by go_num,HP2,HB2⟩
     case measure=>simp [intOf] <;> omega
   ·have hq3:(rows[k].e.kind == 3)=false:=by simpa using h3
    have HRN:Hid (jK (ae rs) typ rows[k].e=true):=by show _=_; unfold jK; rw [if_neg h2,if_neg h3]
    have HP2:Hid (aJ (ae rs) typ (ah (rows.drop (k + 1)))=aJ (ae rs) typ (ah rows)):=by show _=_; rw [HD.out,HRN.out,HRA.out]; rfl
    have HBX:Hid (Below w.heap.size w (wr.alloc (.cells #[.int .i64 rows[k].e.kind,.slice rows[k].adA rows[k].e.allow.length rows[k].capA,.string rows[k].e.over,.string rows[k].e.name,.slice rows[k].adK rows[k].e.kids.length rows[k].capK] 166))):=by rw [← hW1]; exact HBW
    clear hW1;go_wp2;go_roundw;case rel=>exact ⟨k + 1,by omega,by go_num,HP2,HBX⟩
    case measure=>simp [intOf] <;> omega
  ·have HN:Hid (aJ (ae rs) typ (ah rows)=true):=by show _=_; rw [← HP.out,List.drop_of_length_le (by omega)]; rfl
   go_wp2;go_ret;exact ⟨by rw [HN.out]; rfl,HB.out⟩
def Al.cells (a:Al):List Value:=[.string a.t,.string a.s]
def fD:List Al→List Value
 | []=>[]
 | a::xs=>a.cells ++ fD xs
theorem zw (xs ys:List Al):fD (xs ++ ys)=fD xs ++ fD ys:=by
 induction xs with
 | nil=>rfl
 | cons d ds ih=>simp [fD,ih]
theorem vw (xs:List Al) (d:Al):fD (xs ++ [d])=fD xs ++ d.cells:=by rw [zw]; simp [fD]
theorem xS (xs:List Al) (i:Nat) (h:i < xs.length) (o:Nat) (ho:o < 2):(fD xs)[i * 2 + o]?=(xs[i].cells)[o]?:=by
 induction xs generalizing i with
 | nil=>simp at h
 | cons s xs ih =>
  cases i with
  | zero =>
   simp only [fD,Nat.zero_mul,Nat.zero_add,List.getElem_cons_zero];rw [List.getElem?_append_left (by simp [Al.cells]; omega)]
  | succ i =>
   simp only [fD,List.getElem_cons_succ];rw [List.getElem?_append_right (by simp [Al.cells]; omega)];have e:(i + 1) * 2 + o - s.cells.length=i * 2 + o:=by simp [Al.cells]; omega
   rw [e];exact ih i (by simpa using h)
theorem IK {w:World} {base:Nat} {v:Value} {xs:List Al} (h:w.ownsRow base 130 2 v xs.length (fD xs)):∃ ad cp,v=.slice ad xs.length cp∧fV w ad xs∧∀ p,ad=some p→base≤p.block:=by
 have h2:=h;rcases h.2 with ⟨rfl,h0⟩ | ⟨g,cp,cur,rfl,hbg,hg,hnc,-⟩
 ·exact ⟨none,0,by rw [h0],.inl (List.length_eq_zero_iff.1 h0),fun p hp=>by cases hp⟩
 ·have hlt:=h2.lt g rfl;refine ⟨_,cp,rfl,.inr ⟨g,0,rfl,hlt.2,fun i hi=>?_⟩,fun p hp=>by injection hp with hp; rw [← hp]; exact hlt.1⟩;have h3:∀ (o:Nat) (u:Value),(fD xs)[i * 2 + o]?=some u→w.cell? ⟨g,0 + i * 2 + o,none⟩=some u:=fun o u hu=>by
   have:=h2.cells (g:=g) rfl (i * 2 + o) u hu;rw [Be] at this;rw [Nat.zero_add]; exact this
  exact ⟨h3 0 _ (by have:=xS xs i hi 0 (by omega); simpa [Al.cells] using this),h3 1 _ (by have:=xS xs i hi 1 (by omega); simpa [Al.cells] using this)⟩
def bP:List Al→List Al
 | []=>[]
 | a::xs=>if a.s.toList.isEmpty then bP xs else a::bP xs
theorem pW (xs ys:List Al):bP (xs ++ ys)=bP xs ++ bP ys:=by
 induction xs with
 | nil=>rfl
 | cons a xs ih=>simp only [List.cons_append,bP,ih]; split <;> simp
theorem IL (xs:List Al) (k:Nat) (h:k < xs.length) (he:xs[k].s.toList.isEmpty=true):bP (xs.take (k + 1))=bP (xs.take k):=by
 rw [List.take_succ_eq_append_getElem h,pW]; simp [bP] at he ⊢; simp [he]
theorem F5 (xs:List Al) (k:Nat) (h:k < xs.length) (he:xs[k].s.toList.isEmpty=false):bP (xs.take (k + 1))=bP (xs.take k) ++ [xs[k]]:=by
 rw [List.take_succ_eq_append_getElem h,pW]; simp [bP,he]
theorem xU (xs:List Al):(bP xs).length≤xs.length:=by
 induction xs with
 | nil=>simp [bP]
 | cons a xs ih=>simp only [bP]; split <;> simp <;> omega
def fQ (ts:List Ty) (typ:ByteArray) (e:Ex):List Al :=
 if e.kind=1 then bP e.allow else if e.kind=2 then [⟨typ,e.name⟩] else if e.kind=3 then (eB ts typ e.over e.name).map fun g=>⟨g,e.name⟩ else []
theorem IM:(prog.info? 130).map (fun i=>(i.zero,i.size,i.bytes))=some (some (.agg #[.string ⟨#[]⟩,.string ⟨#[]⟩]),2,32):=by kernel_rfl
theorem zx (rs:List TR) (hl:∀ r ∈ rs,r.light) (typ over rel:ByteArray):(eB (ae rs) typ over rel).length≤1048576:=by
 unfold eB;split
 ·exact rU rs hl typ over rel
 ·simp
theorem mW (w:World) (o o':Obj):((w.alloc o).alloc o').heap[w.heap.size + 1]?=some o':=by
 have:=heap_alloc_new (w.alloc o) o';simpa using this
set_option maxRecDepth 100000 in
theorem rX (b n:Nat) (rs:List TR) (ad:Option Addr) (M:ByteArray × ByteArray→Option Value) (typ:ByteArray) (x:ER) (w:World) (hV:aB bn prog 130 w b n M) (hT:Tab rs M) (hs:eY w ad rs) (hl:∀ r ∈ rs,r.light) (hf:∀ r ∈ rs,r.fits) (ht:typ.size≤maxLen) (hxf:x.e.fits) (hxl:x.e.light) (hxo:x.ok w) :
  Calls prog 147 #[.map (some b),.string typ,x.val] w fun e w'=>(∃ (ad':Option Addr) (cap':Nat),e=.returned (.slice ad' (fQ (ae rs) typ x.e).length cap')∧fV w' ad' (fQ (ae rs) typ x.e)∧∀ p,ad'=some p→w.heap.size≤p.block)∧Below w.heap.size w w':=by
 have HV:Hid (aB bn prog 130 w b n M):=hV;have HT:Hid (Tab rs M):=hT;have HS:Hid (eY w ad rs):=hs;have HL:Hid (∀ r ∈ rs,r.light):=hl;have HFT:Hid (∀ r ∈ rs,r.fits):=hf;have HXF:Hid (x.e.fits):=hxf;have HXO:Hid (x.ok w):=hxo;have lgA:x.e.allow.length≤1048576:=hxl.1;clear hV hT hs hl hf hxf hxo hxl;obtain ⟨i0,hi,hz0,hz1,hz2⟩:=info_parts IM;obtain ⟨W0,hW0⟩:∃ W0,W0=w.alloc (.cells #[.int .i64 x.e.kind,.slice x.adA x.e.allow.length x.capA,.string x.e.over,.string x.e.name,.slice x.adK x.e.kids.length x.capK] 166):=⟨_,rfl⟩;have hal:Below w.heap.size w W0:=by rw [hW0]; exact (Below.refl _ _).alloc (Nat.le_refl _) _
 have HB0:Hid (Below w.heap.size w W0):=hal;have hg0:w.heap.size < W0.heap.size:=by rw [hW0]; simp
 have c0:W0.cell? ⟨w.heap.size,0,none⟩=some (.int .i64 x.e.kind):=by rw [hW0]; simp
 have c1:W0.cell? ⟨w.heap.size,1,none⟩=some (.slice x.adA x.e.allow.length x.capA):=by rw [hW0]; simp
 have c2:W0.cell? ⟨w.heap.size,2,none⟩=some (.string x.e.over):=by rw [hW0]; simp
 have c3:W0.cell? ⟨w.heap.size,3,none⟩=some (.string x.e.name):=by rw [hW0]; simp
 have c4:W0.cell? ⟨w.heap.size,4,none⟩=some (.slice x.adK x.e.kids.length x.capK):=by rw [hW0]; simp
 clear hal;unfold ER.val;by_cases h1:x.e.kind=1
 ·have HLI:Hid (fQ (ae rs) typ x.e=bP x.e.allow):=by show _=_; unfold fQ; rw [if_pos h1]
  have hq1:(x.e.kind == 1)=true:=by simpa using h1
  replace h1:Hid (x.e.kind=1):=h1;go_enter func147,ntmps147;go_wp2_with fail;rw [← hW0];clear hW0;go_loopw [7,19] (fun v i wr=>∃ k:Nat,k≤x.e.allow.length∧i=.int .i64 k∧Hid (wr.ownsRow w.heap.size 130 2 v (bP (x.e.allow.take k)).length (fD (bP (x.e.allow.take k))))∧Hid (Below w.heap.size w wr)) (fun _ i _=>x.e.allow.length - (intOf i).toNat);case atStart=>exact ⟨0,Nat.zero_le _,rfl,World.ownsRow_nil _ _ _ _,HB0⟩
  case round =>
   clear HB0 c0 c1 c2 c3 c4 hg0;obtain ⟨k,hk,rfl,HOW,HB⟩:=hrel;by_cases hlt:k < x.e.allow.length
   ·rcases (HXO.out.1).below HB.out with hnil | ⟨ba,offa,had,hba,hra⟩
    ·rw [hnil] at hlt; simp at hlt
    obtain ⟨t0,t1⟩:=hra k hlt;have hk1:=aY k;have hk2:(k:Int) < (x.e.allow.length:Int):=by omega
    obtain ⟨W1,hW1⟩:∃ W1,W1=wr.alloc (.cells #[.string x.e.allow[k].t,.string x.e.allow[k].s] 163):=⟨_,rfl⟩;have hal:Below wr.heap.size wr W1:=by rw [hW1]; exact (Below.refl _ _).alloc (Nat.le_refl _) _
    have HBW:=fK HB hal;have HOW1:Hid (W1.ownsRow w.heap.size 130 2 u7 (bP (x.e.allow.take k)).length (fD (bP (x.e.allow.take k)))):=own_below HOW.out hal;have g0:W1.cell? ⟨wr.heap.size,0,none⟩=some (.string x.e.allow[k].t):=by rw [hW1]; simp
    have g1:W1.cell? ⟨wr.heap.size,1,none⟩=some (.string x.e.allow[k].s):=by rw [hW1]; simp
    have hgl1:wr.heap.size < W1.heap.size:=by rw [hW1]; simp
    have hgl:=xU (x.e.allow.take k);rw [List.length_take] at hgl;have hwsz:w.heap.size≤W1.heap.size:=HBW.out.size;rw [had];clear hra hal HOW;cases he:x.e.allow[k].s.toList.isEmpty with
    | true =>
     have HE:Hid (bP (x.e.allow.take (k + 1))=bP (x.e.allow.take k)):=IL _ _ hlt he;have HBX:Hid (Below w.heap.size w (wr.alloc (.cells #[.string x.e.allow[k].t,.string x.e.allow[k].s] 163))):=by rw [← hW1]; exact HBW
     have HOX:Hid ((wr.alloc (.cells #[.string x.e.allow[k].t,.string x.e.allow[k].s] 163)).ownsRow w.heap.size 130 2 u7 (bP (x.e.allow.take (k + 1))).length (fD (bP (x.e.allow.take (k + 1))))):=by rw [← hW1,HE.out]; exact HOW1
     clear hW1 g0 g1;go_wp2;go_roundw;case rel=>exact ⟨k + 1,by omega,by go_num,HOX,HBX⟩
     case measure=>simp [intOf] <;> omega
    | false =>
     have HX:Hid (bP (x.e.allow.take (k + 1))=bP (x.e.allow.take k) ++ [x.e.allow[k]]):=F5 _ _ hlt he;have HOX:Hid ((wr.alloc (.cells #[.string x.e.allow[k].t,.string x.e.allow[k].s] 163)).ownsRow w.heap.size 130 2 u7 (bP (x.e.allow.take k)).length (fD (bP (x.e.allow.take k)))):=by rw [← hW1]; exact HOW1
     have HBX:Hid (Below w.heap.size w (wr.alloc (.cells #[.string x.e.allow[k].t,.string x.e.allow[k].s] 163))):=by rw [← hW1]; exact HBW
     have hws:w.heap.size≤wr.heap.size:=HB.out.size;clear hW1 HOW1 HBW g0 g1 hgl1 hwsz W1;go_wp2_with (at_builtin; refine wpList_append_own_at _ rfl _ _ 242 rfl w.heap.size 130 i0 _ 2 32 underlying242 hi hz0 hz1 hz2 rfl (by decide) _ _ _ rfl (HOX.out.alloc _) ⟨wr.heap.size + 1,0,none⟩ 1 1 [.string x.e.allow[k].t,.string x.e.allow[k].s] rfl rfl (World.news_of_block (cs:=#[.string x.e.allow[k].t,.string x.e.allow[k].s]) (t:=130) (fr:=(0,0)) (mW wr _ _)) (by simp [Value.oneCell']) (by unfold maxLen; omega) (by omega) (by simp; omega) ?_);intro v' w3 hown3 hgrow _ hloc;have HB3:Hid (Below w.heap.size w w3):=(HBX.out.alloc HBX.out.size _).grown hgrow (by simp; omega) (fun i hi=>(HOX.out.lt i hi).1);have HO3:Hid (w3.ownsRow w.heap.size 130 2 v' (bP (x.e.allow.take (k + 1))).length (fD (bP (x.e.allow.take (k + 1))))):=by
      show World.ownsRow _ _ _ _ _ _ _;rw [HX.out,vw,List.length_append];exact hown3
     clear hown3 hgrow hloc HOX HBX;go_wp2;go_roundw;case rel=>exact ⟨k + 1,by omega,by go_num,HO3,HB3⟩
     case measure=>simp [intOf] <;> omega
   ·obtain rfl:k=x.e.allow.length:=by omega
    have hown:=HOW.out;rw [List.take_length] at hown;obtain ⟨ad',cp,rfl,hS',hN'⟩:=IK hown;have HS2:Hid (fV wr ad' (bP x.e.allow)):=hS';have HN2:Hid (∀ p,ad'=some p→w.heap.size≤p.block):=hN';clear hown HOW hS' hN';go_wp2;go_ret;exact ⟨⟨ad',cp,by rw [HLI.out]; rfl,by rw [HLI.out]; exact HS2.out,HN2.out⟩,HB.out⟩
 have hq1:(x.e.kind == 1)=false:=by simpa using h1
 by_cases h2:x.e.kind=2
 ·have HLI:Hid (fQ (ae rs) typ x.e=[⟨typ,x.e.name⟩]):=by show _=_; unfold fQ; rw [if_neg h1,if_pos h2]
  have hq2:(x.e.kind == 2)=true:=by simpa using h2
  replace h2:Hid (x.e.kind=2):=h2;have HOX:Hid ((w.alloc (.cells #[.int .i64 x.e.kind,.slice x.adA x.e.allow.length x.capA,.string x.e.over,.string x.e.name,.slice x.adK x.e.kids.length x.capK] 166)).ownsRow w.heap.size 130 2 (.slice none 0 0) 0 []):=World.ownsRow_nil _ _ _ _;have HBX:Hid (Below w.heap.size w (w.alloc (.cells #[.int .i64 x.e.kind,.slice x.adA x.e.allow.length x.capA,.string x.e.over,.string x.e.name,.slice x.adK x.e.kids.length x.capK] 166))):=by rw [← hW0]; exact HB0
  clear hW0 HB0 c0 c1 c2 c3 c4 hg0 W0;go_enter func147,ntmps147;go_wp2_with (at_builtin; refine wpList_append_own_at _ rfl _ _ 242 rfl w.heap.size 130 i0 _ 2 32 underlying242 hi hz0 hz1 hz2 rfl (by decide) _ _ _ rfl (HOX.out.alloc _) ⟨w.heap.size + 1,0,none⟩ 1 1 [.string typ,.string x.e.name] rfl rfl (World.news_of_block (cs:=#[.string typ,.string x.e.name]) (t:=130) (fr:=(0,0)) (mW w _ _)) (by simp [Value.oneCell']) (by unfold maxLen; omega) (by omega) (by simp; omega) ?_);intro v' w3 hown3 hgrow _ hloc;have HB3:Hid (Below w.heap.size w w3):=(HBX.out.alloc HBX.out.size _).grown hgrow (by simp; omega) (fun i hi=>(HOX.out.lt i hi).1);have hown4:w3.ownsRow w.heap.size 130 2 v' ([⟨typ,x.e.name⟩]:List Al).length (fD [⟨typ,x.e.name⟩]):=hown3;obtain ⟨ad',cp,rfl,hS',hN'⟩:=IK hown4;have HS2:Hid (fV w3 ad' [⟨typ,x.e.name⟩]):=hS';have HN2:Hid (∀ p,ad'=some p→w.heap.size≤p.block):=hN';clear hown3 hown4 hgrow hloc HOX HBX hS' hN';go_wp2;go_ret;exact ⟨⟨ad',cp,by rw [HLI.out]; rfl,by rw [HLI.out]; exact HS2.out,HN2.out⟩,HB3.out⟩
 have hq2:(x.e.kind == 2)=false:=by simpa using h2
 by_cases h3:x.e.kind=3
 ·have HLI:Hid (fQ (ae rs) typ x.e=(eB (ae rs) typ x.e.over x.e.name).map fun g=>(⟨g,x.e.name⟩:Al)):=by show _=_; unfold fQ; rw [if_neg h1,if_neg h2,if_pos h3]
  have hq3:(x.e.kind == 3)=true:=by simpa using h3
  replace h3:Hid (x.e.kind=3):=h3;have HGL:(eB (ae rs) typ x.e.over x.e.name).length≤1048576:=zx rs HL.out _ _ _;have HV0:Hid (aB bn prog 130 W0 b n M):=HV.out.below HB0.out;go_enter func147,ntmps147;go_wp2_with fail;rw [← hW0];refine (rV b n rs ad M typ x _ HV0.out HT.out (HS.out.below HB0.out) HL.out HFT.out ht HXF.out.2.1 HXF.out.2.2.1).mono ?_;rintro e w1 ⟨⟨adG,cpG,rfl,hSG,hNG⟩,hb1⟩;generalize eB (ae rs) typ x.e.over x.e.name=gs at *
  have HB1:=fK HB0 hb1;have HSG:Hid (JJ w1 adG gs):=hSG;have HNG:Hid (∀ p,adG=some p→W0.heap.size≤p.block):=hNG;have HC1:Hid (w1.cell? ⟨w.heap.size,3,none⟩=some (.string x.e.name)∧w.heap.size < w1.heap.size):=⟨ai hb1 hg0 c3,Nat.lt_of_lt_of_le hg0 hb1.size⟩;clear hW0 hSG hNG hb1 c0 c1 c2 c3 c4 HB0 HV0 hg0 HNG;go_wp2_with fail;go_loopw [7,51] (fun v i wr=>∃ m:Nat,m≤gs.length∧i=.int .i64 m∧Hid (wr.ownsRow w.heap.size 130 2 v m (fD ((gs.take m).map fun g=>(⟨g,x.e.name⟩:Al))))∧Hid (Below w.heap.size w wr)∧Hid (Aside w1 (.slice none 0 0) wr v)) (fun _ i _=>gs.length - (intOf i).toNat);case atStart=>exact ⟨0,Nat.zero_le _,rfl,World.ownsRow_nil _ _ _ _,HB1,Aside.refl _ _⟩
  case round =>
   clear HB1;obtain ⟨m,hm,rfl,HO,HB,HA⟩:=hrel;have x3:=l8 HA.out HC1.out.2 (by simp [Value.ownBlock]) HC1.out.1;by_cases hml:m < gs.length
   ·rcases HSG.out with rfl | ⟨bg,offg,rfl,hbg,hrg⟩
    ·simp at hml
    have q0:=l8 HA.out hbg (by simp [Value.ownBlock]) (hrg m hml);have hm1:=aY m;have hm2:(m:Int) < (gs.length:Int):=by omega
    have hws:w.heap.size≤wr.heap.size:=HB.out.size;have HFX:Hid (fD ((gs.take (m + 1)).map fun g=>(⟨g,x.e.name⟩:Al))=fD ((gs.take m).map fun g=>(⟨g,x.e.name⟩:Al)) ++ [.string gs[m],.string x.e.name]):=by
     show _=_;rw [List.take_succ_eq_append_getElem hml,List.map_append,List.map_singleton,vw]; rfl
    clear hrg;go_wp2_with (at_builtin; refine wpList_append_own_at _ rfl _ _ 242 rfl w.heap.size 130 i0 _ 2 32 underlying242 hi hz0 hz1 hz2 rfl (by decide) _ _ _ rfl (HO.out.alloc _) ⟨wr.heap.size,0,none⟩ 1 1 [.string gs[m],.string x.e.name] rfl rfl (World.news_of_block (cs:=#[.string gs[m],.string x.e.name]) (t:=130) (fr:=(0,0)) (heap_alloc_new wr _)) (by simp [Value.oneCell']) (by unfold maxLen; omega) (by omega) (by simp; omega) ?_);intro v' w3 hown3 hgrow _ hloc;have HB3:Hid (Below w.heap.size w w3):=(HB.out.alloc HB.out.size _).grown hgrow (by simp; omega) (fun i hi=>(HO.out.lt i hi).1);have HO3:Hid (w3.ownsRow w.heap.size 130 2 v' (m + 1) (fD ((gs.take (m + 1)).map fun g=>(⟨g,x.e.name⟩:Al)))):=by
     show World.ownsRow _ _ _ _ _ _ _;rw [HFX.out]; simpa [List.map_take] using hown3
    have HA3:Hid (Aside w1 (.slice none 0 0) w3 v'):=HA.out.trans ((Aside.below ((Below.refl _ _).alloc (Nat.le_refl _) _)).trans (Aside.app hgrow (by simpa using hloc)));clear hown3 hgrow hloc HO HA;go_wp2;go_roundw;case rel=>exact ⟨m + 1,by omega,by go_num,HO3,HB3,HA3⟩
    case measure=>simp [intOf] <;> omega
   ·obtain rfl:m=gs.length:=by omega
    have hown:=HO.out;rw [List.take_length] at hown;have e:gs.length=(gs.map fun g=>(⟨g,x.e.name⟩:Al)).length:=by simp
    rw [e] at hown;obtain ⟨ad',cp,rfl,hS',hN'⟩:=IK hown;have HS2:Hid (fV wr ad' (gs.map fun g=>(⟨g,x.e.name⟩:Al))):=hS';have HN2:Hid (∀ p,ad'=some p→w.heap.size≤p.block):=hN';obtain ⟨ln,hln⟩:∃ ln,ln=(gs.map fun g=>(⟨g,x.e.name⟩:Al)).length:=⟨_,rfl⟩;rw [← hln];have HLN:Hid (ln=(gs.map fun g=>(⟨g,x.e.name⟩:Al)).length):=hln;clear hown HO hS' hN' e HA x3 hln;go_wp2;go_ret;exact ⟨⟨ad',cp,by rw [HLI.out,← HLN.out]; rfl,by rw [HLI.out]; exact HS2.out,HN2.out⟩,HB.out⟩
 ·have HLI:Hid (fQ (ae rs) typ x.e=[]):=by show _=_; unfold fQ; rw [if_neg h1,if_neg h2,if_neg h3]
  have hq3:(x.e.kind == 3)=false:=by simpa using h3
  have HBX:Hid (Below w.heap.size w (w.alloc (.cells #[.int .i64 x.e.kind,.slice x.adA x.e.allow.length x.capA,.string x.e.over,.string x.e.name,.slice x.adK x.e.kids.length x.capK] 166))):=by rw [← hW0]; exact HB0
  clear hW0 HB0 c0 c1 c2 c3 c4 hg0;go_enter func147,ntmps147;go_wp2;go_ret;exact ⟨⟨none,0,by rw [HLI.out]; rfl,by rw [HLI.out]; exact .inl rfl,fun p hp=>by cases hp⟩,HBX.out⟩
end Go.Proofs.YtdaoiceeidoehaaGreat
