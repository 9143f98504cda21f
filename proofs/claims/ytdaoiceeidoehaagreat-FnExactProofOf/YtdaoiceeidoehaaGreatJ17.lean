/- Contracts of the program's functions on whether what a schema names is there. -/
import Derived.Test.YtdaoiceeidoehaaGreatJ16
open Go.Proofs.Tryz
set_option maxHeartbeats 80000000
namespace Go.Proofs.YtdaoiceeidoehaaGreat
open Go.ChangeShapes Go.WideShapes Go.ChangeAt Go.RowKit Go.Maps
open Pl
theorem yA (t:TR) (g:Nat) (nm:ByteArray) (w:World) (hg:g < w.heap.size) (hc:w.cell? ⟨g,0,none⟩=some (.string nm)) :
  Calls prog 162 #[.agg #[.string t.name,.slice t.ad t.rows.length t.cap],.pointer (some ⟨g,0,none⟩)] w fun e w'=>e=.returned (.bool (t.name.toList == nm.toList))∧Below w.heap.size w w':=by
 go_enter func162,ntmps162;go_wp2;go_ret;exact ⟨rfl,(R3 _ _).alloc (R4 _) _⟩
theorem Bc (rs:List TR) (k:Nat) (h:k < rs.length) (nm:ByteArray):jU (ae (rs.drop k)) nm=((rs[k].name.toList == nm.toList) || jU (ae (rs.drop (k + 1))) nm):=by
 rw [lG _ _ h]; rfl
theorem yB (ad:Option Addr) (cap:Nat) (rs:List TR) (g:Nat) (nm:ByteArray) (w:World) (hlen:rs.length≤1048576) (hs:jd w ad rs) (hg:g < w.heap.size) (hc:w.cell? ⟨g,0,none⟩=some (.string nm)) :
  Calls prog 173 #[.slice ad rs.length cap,.func (Fn.func 162) #[] #[.pointer (some ⟨g,0,none⟩)]] w fun e w'=>(∃ r:Int,e=.returned (.int .i64 r)∧decide (0≤r)=jU (ae rs) nm)∧Below w.heap.size w w':=by
 have HS:=aC hs;have HC:Hid (w.cell? ⟨g,0,none⟩=some (.string nm)):=hc;clear hs hc;go_enter func173,ntmps173;go_wp2_with fail;go_loopw [8] (fun i wr=>∃ k:Nat,k≤rs.length∧i=.int .i64 k∧Hid (jU (ae (rs.drop k)) nm=jU (ae rs) nm)∧Hid (Below w.heap.size w wr)) (fun i _=>rs.length - (intOf i).toNat);case atStart=>exact ⟨0,R6 _,rfl,rfl,R3 _ _⟩
 case round =>
  obtain ⟨k,hk,rfl,HP,HB⟩:=hrel;by_cases hlt:k < rs.length
  ·rcases HS.out.below HB.out with rfl | ⟨b,off,rfl,hb,hr,-⟩
   ·simp at hlt
   obtain ⟨t0,t1⟩:=hr k hlt;have hk1:=bn k;have hk2:(k:Int) < (rs.length:Int):=by omega
   have HCW:Hid (wr.cell? ⟨g,0,none⟩=some (.string nm)):=aH HB.out hg HC.out;have HGW:Hid (g < wr.heap.size):=RZ hg HB.out.size;clear hr;cases he:(rs[k].name.toList == nm.toList) with
   | true =>
    have HN:Hid (jU (ae rs) nm=true):=by show _=_; rw [← HP.out,Bc _ _ hlt,he]; rfl
    go_wp2_with (go_at_call 162; refine (yA rs[k] g nm _ HGW.out HCW.out).mono ?_; rintro e w' ⟨he2,hbx⟩; rw [he] at he2; subst he2);go_ret;exact ⟨⟨k,rfl,by rw [HN.out]; simp⟩,HB.out.trans (hbx.mono HB.out.size)⟩
   | false =>
    have Td:Hid (jU (ae (rs.drop (k + 1))) nm=jU (ae rs) nm):=by show _=_; rw [← HP.out,Bc _ _ hlt,he]; rfl
    go_wp2_with (go_at_call 162; refine (yA rs[k] g nm _ HGW.out HCW.out).mono ?_; rintro e w' ⟨he2,hbx⟩; rw [he] at he2; subst he2);go_roundw;case rel=>exact ⟨k + 1,by omega,by go_num,Td,HB.out.trans (hbx.mono HB.out.size)⟩
    case measure=>simp [intOf] <;> omega
  ·have HN:Hid (jU (ae rs) nm=false):=by show _=_; rw [← HP.out,List.drop_of_length_le (by omega)]; rfl
   go_wp2;go_ret;exact ⟨⟨-1,rfl,by rw [HN.out]; simp⟩,HB.out⟩
theorem rM (ad:Option Addr) (cap:Nat) (rs:List TR) (g:Nat) (nm:ByteArray) (w:World) (hlen:rs.length≤1048576) (hs:jd w ad rs) (hg:g < w.heap.size) (hc:w.cell? ⟨g,0,none⟩=some (.string nm)) :
  Calls prog 161 #[.slice ad rs.length cap,.func (Fn.func 162) #[] #[.pointer (some ⟨g,0,none⟩)]] w fun e w'=>e=.returned (.bool (jU (ae rs) nm))∧Below w.heap.size w w':=by
 go_enter func161,ntmps161;go_wp2_with fail;refine (yB ad cap rs g nm _ hlen hs hg hc).mono ?_;rintro e w' ⟨⟨r,rfl,hr⟩,hbx⟩;have HR:Hid (decide (0≤r)=jU (ae rs) nm):=hr;clear hr hs hc;go_wp2;go_ret;exact ⟨by rw [← HR.out]; rfl,hbx⟩
set_option maxRecDepth 100000 in
theorem yC (ad adA:Option Addr) (cap capA:Nat) (rs:List TR) (b n:Nat) (M:ByteArray × ByteArray→Option Value) (xs:List Al) (w:World) (hlen:rs.length≤1048576) (hs:jd w ad rs) (hV:aD dJ prog 130 w b n M) (hT:Tab rs M) (hla:xs.length≤1048576) (hsa:iy w adA xs) (hfa:∀ a ∈ xs,a.fits) :
  Calls prog 142 #[.slice ad rs.length cap,.map (some b),.slice adA xs.length capA] w fun e w'=>e=.returned (.bool (mg (ae rs) xs))∧Below w.heap.size w w':=by
 have HS:=aC hs;have HV:Hid (aD dJ prog 130 w b n M):=hV;have HT:=aC hT;have HA:=aC hsa;have HFA:=aC hfa;clear hs hV hT hsa hfa;go_enter func142,ntmps142;go_wp2_with fail;go_loopw [11] (fun i wr=>∃ k:Nat,k≤xs.length∧i=.int .i64 k∧Hid (lI (ae rs) xs k=true)∧Hid (Below w.heap.size w wr)) (fun i _=>xs.length - (intOf i).toNat);case atStart=>exact ⟨0,R6 _,rfl,xD _ _,R3 _ _⟩
 case round =>
  obtain ⟨k,hk,rfl,HP,HB⟩:=hrel;by_cases hlt:k < xs.length
  ·rcases HA.out.below HB.out with rfl | ⟨ba,Vk,rfl,hba,hra⟩
   ·simp at hlt
   obtain ⟨t0,t1⟩:=hra k hlt;have hk1:=bn k;have hk2:(k:Int) < (xs.length:Int):=by omega
   have zA:=HFA.out _ (RY hlt);have z1:xs[k].t.size≤maxLen:=zA.1;have z2:xs[k].s.size≤maxLen:=zA.2;have HI:Hid ((M (xs[k].t,xs[k].s)).isSome=!(ax (ae rs) xs[k].t xs[k].s).isEmpty):=HT.out.some_iff (xs[k].t,xs[k].s);obtain ⟨W1,hW1⟩:∃ W1,W1=wr.alloc (.cells #[.string xs[k].t,.string xs[k].s] 163):=⟨_,rfl⟩;have hal:Below wr.heap.size wr W1:=by rw [hW1]; exact (R3 _ _).alloc (R4 _) _
   have S9:=gY HB hal;have g0:W1.cell? ⟨wr.heap.size,0,none⟩=some (.string xs[k].t):=by rw [hW1]; simp
   have g1:W1.cell? ⟨wr.heap.size,1,none⟩=some (.string xs[k].s):=by rw [hW1]; simp
   have hgl:wr.heap.size < W1.heap.size:=by rw [hW1]; simp
   clear hra hal zA;go_wp2_with fail;rw [← hW1];clear hW1 t0 t1;refine (rM ad cap rs wr.heap.size xs[k].t _ hlen (HS.out.below S9.out) hgl g0).mono ?_;rintro e w2 ⟨rfl,hb2⟩;have HB2:=gY S9 hb2;replace g0:=aH hb2 hgl g0;replace g1:=aH hb2 hgl g1;have Vf:=aC (HV.out.below HB2.out);clear hb2 hgl;cases ht:jU (ae rs) xs[k].t with
   | false =>
    have HN:Hid (mg (ae rs) xs=false):=qV _ _ k hlt (by simp [nE,ht]);go_wp2;go_ret;exact ⟨by rw [HN.out]; rfl,HB2.out⟩
   | true =>
    cases he:xs[k].s.toList.isEmpty with
    | true =>
     have Td:Hid (lI (ae rs) xs (k + 1)=true):=by show _=_; rw [mh _ _ _ hlt,HP.out]; simp [nE,ht,he]
     go_wp2;go_roundw;case rel=>exact ⟨k + 1,by omega,by go_num,Td,HB2⟩
     case measure=>simp [intOf] <;> omega
    | false =>
     cases hz:(M (xs[k].t,xs[k].s)).isSome with
     | false =>
      have HN:Hid (mg (ae rs) xs=false):=qV _ _ k hlt (by have:=HI.out; rw [hz] at this; simp [nE,ht,he]; simpa using this.symm);go_wp2_with (go_at_call 143; refine (wU b n M xs[k].t xs[k].s _ z1 z2 Vf.out).mono ?_; rintro e w' ⟨he2,rfl⟩; rw [hz] at he2; subst he2);go_ret;exact ⟨by rw [HN.out]; rfl,HB2.out⟩
     | true =>
      have Td:Hid (lI (ae rs) xs (k + 1)=true):=by show _=_; rw [mh _ _ _ hlt,HP.out]; have:=HI.out; rw [hz] at this; simp [nE,ht,he]; simpa using this.symm
      go_wp2_with (go_at_call 143; refine (wU b n M xs[k].t xs[k].s _ z1 z2 Vf.out).mono ?_; rintro e w' ⟨he2,rfl⟩; rw [hz] at he2; subst he2);go_roundw;case rel=>exact ⟨k + 1,by omega,by go_num,Td,HB2⟩
      case measure=>simp [intOf] <;> omega
  ·have HN:Hid (mg (ae rs) xs=true):=by
    have:=HP.out;obtain rfl:k=xs.length:=by omega
    unfold lI at this;rw [Sc] at this;exact this
   go_wp2;go_ret;exact ⟨by rw [HN.out]; rfl,HB.out⟩
theorem qL {e:Ex} (h:az e=true) (h1:e.kind ≠ 1):e.allow=[]:=by
 unfold az at h;rw [if_neg h1] at h;split at h
 ·simp only [R7,Sj] at h; exact Si.1 h.1.1.2
 split at h
 ·simp only [R7,Sj] at h; exact Si.1 h.1.2
 split at h
 ·simp only [R7,Sj] at h; exact Si.1 h.1.1.2
 split at h
 ·simp only [R7,Sj] at h; exact Si.1 h.1.1.2
 ·cases h
theorem GZ (ts:List Ty) (typ:ByteArray) (rows:List ER) (k:Nat) (h:k < rows.length):aN ts typ (ah (rows.drop k))=if mg ts rows[k].e.allow && jV ts typ rows[k].e then aN ts typ (ah (rows.drop (k + 1))) else false:=by
 rw [fE _ _ h]; rfl
theorem EM (ts:List Ty) (typ:ByteArray) (e:Ex) (h:e.kind=3):jV ts typ e=!(fB ts typ e.over e.name).isEmpty:=by
 unfold jV fB;rw [if_neg (by omega),if_pos h];cases bi (ax ts typ e.over) <;> simp
set_option maxRecDepth 100000 in
theorem yD (ad SN:Option Addr) (cap capE:Nat) (rs:List TR) (b n:Nat) (M:ByteArray × ByteArray→Option Value) (typ:ByteArray) (rows:List ER) (w:World) (hlen:rs.length≤1048576) (hs:jd w ad rs) (hl:∀ r ∈ rs,r.light) (hf:∀ r ∈ rs,r.fits) (hV:aD dJ prog 130 w b n M) (hT:Tab rs M) (ht:typ.size≤maxLen) (hle:rows.length≤1048576) (hse:eX w SN rows) (ZT:∀ q ∈ rows,q.e.light) (hfE:∀ q ∈ rows,q.e.fits) (hnb:∀ q ∈ rows,az q.e=true) :
  Calls prog 118 #[.slice ad rs.length cap,.map (some b),.string typ,.slice SN rows.length capE] w fun e w'=>e=.returned (.bool (aN (ae rs) typ (ah rows)))∧Below w.heap.size w w':=by
 have HS:=aC hs;have HL:=aC hl;have Tj:=aC hf;have HV:Hid (aD dJ prog 130 w b n M):=hV;have HT:=aC hT;have HE:=aC hse;have TG:=aC ZT;have UV:=aC hfE;have Wo:Hid (∀ q ∈ rows,az q.e=true):=hnb;clear hs hl hf hV hT hse ZT hfE hnb;go_enter func118,ntmps118;go_wp2_with fail;go_loopw [13] (fun i wr=>∃ k:Nat,k≤rows.length∧i=.int .i64 k∧Hid (aN (ae rs) typ (ah (rows.drop k))=aN (ae rs) typ (ah rows))∧Hid (Below w.heap.size w wr)) (fun i _=>rows.length - (intOf i).toNat);case atStart=>exact ⟨0,R6 _,rfl,rfl,R3 _ _⟩
 case round =>
  obtain ⟨k,hk,rfl,HP,HB⟩:=hrel;by_cases hlt:k < rows.length
  ·rcases HE.out.below HB.out with rfl | ⟨bE,offE,rfl,hbE,ZV,hokE⟩
   ·simp at hlt
   obtain ⟨t0,t1,t2,t3,t4⟩:=ZV k hlt;have HOKW:Hid (rows[k].ok w):=HE.out.mem (RY hlt);have hk1:=bn k;have hk2:(k:Int) < (rows.length:Int):=by omega
   have lgA:rows[k].e.allow.length≤1048576:=(TG.out _ (RY hlt)).1;have HFK:Hid (rows[k].e.fits):=UV.out _ (RY hlt);have HNK:Hid (az rows[k].e=true):=Wo.out _ (RY hlt);have HDR:=GZ (ae rs) typ rows k hlt;have HD:Hid (aN (ae rs) typ (ah rows)=if mg (ae rs) rows[k].e.allow && jV (ae rs) typ rows[k].e then aN (ae rs) typ (ah (rows.drop (k + 1))) else false):=by show _=_; rw [← HP.out]; exact HDR
   obtain ⟨W1,hW1⟩:∃ W1,W1=wr.alloc (.cells #[.int .i64 rows[k].e.kind,.slice rows[k].adA rows[k].e.allow.length rows[k].capA,.string rows[k].e.over,.string rows[k].e.name,.slice rows[k].adK rows[k].e.kids.length rows[k].capK] 166):=⟨_,rfl⟩;have hal:Below wr.heap.size wr W1:=by rw [hW1]; exact (R3 _ _).alloc (R4 _) _
   have S9:=gY HB hal;have HVW:=aC (HV.out.below S9.out);have zO:rows[k].e.over.size≤maxLen:=HFK.out.2.1;have zN:rows[k].e.name.size≤maxLen:=HFK.out.2.2.1;clear ZV hokE hal HDR;by_cases h1:rows[k].e.kind=1
   ·have UJ:Hid (jV (ae rs) typ rows[k].e=true):=by show _=_; unfold jV; rw [if_neg (by omega),if_neg (by omega)]
    have hq1:(rows[k].e.kind == 1)=true:=by simpa using h1
    replace h1:Hid (rows[k].e.kind=1):=h1;go_wp2_with fail;rw [← hW1];refine (yC ad rows[k].adA cap rows[k].capA rs b n M rows[k].e.allow _ hlen (HS.out.below S9.out) HVW.out HT.out lgA (HOKW.out.1.below S9.out) HFK.out.1).mono ?_;rintro e w2 ⟨rfl,hb2⟩;have HB2:=gY S9 hb2;clear hb2 hW1 t0 t1 t2 t3 t4;cases hz:mg (ae rs) rows[k].e.allow with
    | false =>
     have HN:Hid (aN (ae rs) typ (ah rows)=false):=by show _=_; rw [HD.out,hz]; rfl
     go_wp2;go_ret;exact ⟨by rw [HN.out]; rfl,HB2.out⟩
    | true =>
     have Td:Hid (aN (ae rs) typ (ah (rows.drop (k + 1)))=aN (ae rs) typ (ah rows)):=by show _=_; rw [HD.out,hz,UJ.out]; rfl
     go_wp2;go_roundw;case rel=>exact ⟨k + 1,by omega,by go_num,Td,HB2⟩
     case measure=>simp [intOf] <;> omega
   have hq1:(rows[k].e.kind == 1)=false:=by simpa using h1
   have VY:Hid (mg (ae rs) rows[k].e.allow=true):=by show _=_; rw [qL HNK.out h1]; rfl
   by_cases h2:rows[k].e.kind=2
   ·have hq2:(rows[k].e.kind == 2)=true:=by simpa using h2
    have HI:=HT.out.some_iff (typ,rows[k].e.name);have UJ:Hid (jV (ae rs) typ rows[k].e=(M (typ,rows[k].e.name)).isSome):=by show _=_; unfold jV; rw [if_pos h2,HI]
    clear HI;replace h2:Hid (rows[k].e.kind=2):=h2;go_wp2_with fail;rw [← hW1];refine (wU b n M typ rows[k].e.name _ ht zN HVW.out).mono ?_;rintro e w2 ⟨rfl,hw2⟩;rw [hw2];clear hw2 w2 hW1 t0 t1 t2 t3 t4;cases hz:(M (typ,rows[k].e.name)).isSome with
    | false =>
     have HN:Hid (aN (ae rs) typ (ah rows)=false):=by show _=_; rw [HD.out,UJ.out,hz,VY.out]; rfl
     go_wp2;go_ret;exact ⟨by rw [HN.out]; rfl,S9.out⟩
    | true =>
     have Td:Hid (aN (ae rs) typ (ah (rows.drop (k + 1)))=aN (ae rs) typ (ah rows)):=by show _=_; rw [HD.out,UJ.out,hz,VY.out]; rfl
     go_wp2;go_roundw;case rel=>exact ⟨k + 1,by omega,by go_num,Td,S9⟩
     case measure=>simp [intOf] <;> omega
   have hq2:(rows[k].e.kind == 2)=false:=by simpa using h2
   by_cases h3:rows[k].e.kind=3
   ·have hq3:(rows[k].e.kind == 3)=true:=by simpa using h3
    have UJ:Hid (jV (ae rs) typ rows[k].e=!(fB (ae rs) typ rows[k].e.over rows[k].e.name).isEmpty):=EM _ _ _ h3;replace h3:Hid (rows[k].e.kind=3):=h3;go_wp2_with fail;rw [← hW1];refine (vF b n rs ad M typ rows[k] _ HVW.out HT.out (HS.out.below S9.out) HL.out Tj.out ht zO zN).mono ?_;rintro e w2 ⟨⟨SQ,cap',rfl,-,-⟩,hb2⟩;have HB2:=gY S9 hb2;clear hb2 hW1 t0 t1 t2 t3 t4;generalize fB (ae rs) typ rows[k].e.over rows[k].e.name=gs at UJ ⊢;cases gs with
    | nil =>
     have HN:Hid (aN (ae rs) typ (ah rows)=false):=by show _=_; rw [HD.out,UJ.out,VY.out]; rfl
     go_wp2;go_ret;exact ⟨by rw [HN.out]; rfl,HB2.out⟩
    | cons g gs =>
     have Td:Hid (aN (ae rs) typ (ah (rows.drop (k + 1)))=aN (ae rs) typ (ah rows)):=by show _=_; rw [HD.out,UJ.out,VY.out]; rfl
     have hlz:(((g::gs).length:Int) == 0)=false:=by
      have:¬ (((g::gs).length:Int)=0):=by simp; omega
      simpa using this
     obtain ⟨ln,hln⟩:∃ ln,ln=(g::gs).length:=⟨_,rfl⟩;rw [← hln] at hlz ⊢;clear hln;go_wp2;go_roundw;case rel=>exact ⟨k + 1,by omega,by go_num,Td,HB2⟩
     case measure=>simp [intOf] <;> omega
   ·have hq3:(rows[k].e.kind == 3)=false:=by simpa using h3
    have UJ:Hid (jV (ae rs) typ rows[k].e=true):=by show _=_; unfold jV; rw [if_neg h2,if_neg h3]
    have Td:Hid (aN (ae rs) typ (ah (rows.drop (k + 1)))=aN (ae rs) typ (ah rows)):=by show _=_; rw [HD.out,UJ.out,VY.out]; rfl
    have T9:Hid (Below w.heap.size w (wr.alloc (.cells #[.int .i64 rows[k].e.kind,.slice rows[k].adA rows[k].e.allow.length rows[k].capA,.string rows[k].e.over,.string rows[k].e.name,.slice rows[k].adK rows[k].e.kids.length rows[k].capK] 166))):=by rw [← hW1]; exact S9
    clear hW1;go_wp2;go_roundw;case rel=>exact ⟨k + 1,by omega,by go_num,Td,T9⟩
    case measure=>simp [intOf] <;> omega
  ·have HN:Hid (aN (ae rs) typ (ah rows)=true):=by show _=_; rw [← HP.out,List.drop_of_length_le (by omega)]; rfl
   go_wp2;go_ret;exact ⟨by rw [HN.out]; rfl,HB.out⟩
def Al.cells (a:Al):List Value:=[.string a.t,.string a.s]
def gm:List Al→List Value
 | []=>[]
 | a::xs=>a.cells ++ gm xs
theorem CJ (xs ys:List Al):gm (xs ++ ys)=gm xs ++ gm ys:=by
 induction xs with
 | nil=>rfl
 | cons d ds ih=>simp [gm,ih]
theorem yE (xs:List Al) (d:Al):gm (xs ++ [d])=gm xs ++ d.cells:=by rw [CJ]; simp [gm]
theorem Bd (xs:List Al) (i:Nat) (h:i < xs.length) (o:Nat) (ho:o < 2):(gm xs)[i * 2 + o]?=(xs[i].cells)[o]?:=by
 induction xs generalizing i with
 | nil=>simp at h
 | cons s xs ih =>
  cases i with
  | zero =>
   simp only [gm,Nat.zero_mul,Su,List.getElem_cons_zero];rw [List.getElem?_append_left (by simp [Al.cells]; omega)]
  | succ i =>
   simp only [gm,List.getElem_cons_succ];rw [List.getElem?_append_right (by simp [Al.cells]; omega)];have e:(i + 1) * 2 + o - s.cells.length=i * 2 + o:=by simp [Al.cells]; omega
   rw [e];exact ih i (by simpa using h)
theorem MS {w:World} {base:Nat} {v:Value} {xs:List Al} (h:w.ownsRow base 130 2 v xs.length (gm xs)):∃ ad cp,v=.slice ad xs.length cp∧iy w ad xs∧∀ p,ad=some p→base≤p.block:=by
 have h2:=h;rcases h.2 with ⟨rfl,h0⟩ | ⟨g,cp,cur,rfl,hbg,hg,hnc,-⟩
 ·exact ⟨none,0,by rw [h0],.inl (Si.1 h0),fun p hp=>by cases hp⟩
 ·have hlt:=h2.lt g rfl;refine ⟨_,cp,rfl,.inr ⟨g,0,rfl,hlt.2,fun i hi=>?_⟩,fun p hp=>by injection hp with hp; rw [← hp]; exact hlt.1⟩;have h3:∀ (o:Nat) (u:Value),(gm xs)[i * 2 + o]?=some u→w.cell? ⟨g,0 + i * 2 + o,none⟩=some u:=fun o u hu=>by
   have:=h2.cells (g:=g) rfl (i * 2 + o) u hu;rw [ED] at this;rw [Su]; exact this
  exact ⟨h3 0 _ (by have:=Bd xs i hi 0 (by omega); simpa [Al.cells] using this),h3 1 _ (by have:=Bd xs i hi 1 (by omega); simpa [Al.cells] using this)⟩
def dD:List Al→List Al
 | []=>[]
 | a::xs=>if a.s.toList.isEmpty then dD xs else a::dD xs
theorem rO (xs ys:List Al):dD (xs ++ ys)=dD xs ++ dD ys:=by
 induction xs with
 | nil=>rfl
 | cons a xs ih=>simp only [List.cons_append,dD,ih]; split <;> simp
theorem MU (xs:List Al) (k:Nat) (h:k < xs.length) (he:xs[k].s.toList.isEmpty=true):dD (xs.take (k + 1))=dD (xs.take k):=by
 rw [R5 h,rO]; simp [dD] at he ⊢; simp [he]
theorem Kb (xs:List Al) (k:Nat) (h:k < xs.length) (he:xs[k].s.toList.isEmpty=false):dD (xs.take (k + 1))=dD (xs.take k) ++ [xs[k]]:=by
 rw [R5 h,rO]; simp [dD,he]
theorem Be (xs:List Al):(dD xs).length≤xs.length:=by
 induction xs with
 | nil=>simp [dD]
 | cons a xs ih=>simp only [dD]; split <;> simp <;> omega
def gW (ts:List Ty) (typ:ByteArray) (e:Ex):List Al :=
 if e.kind=1 then dD e.allow else if e.kind=2 then [⟨typ,e.name⟩] else if e.kind=3 then (fB ts typ e.over e.name).map fun g=>⟨g,e.name⟩ else []
theorem MV:(prog.info? 130).map (fun i=>(i.zero,i.size,i.bytes))=some (some (.agg #[.string ⟨#[]⟩,.string ⟨#[]⟩]),2,32):=by kernel_rfl
theorem CK (rs:List TR) (hl:∀ r ∈ rs,r.light) (typ over rel:ByteArray):(fB (ae rs) typ over rel).length≤1048576:=by
 unfold fB;split
 ·exact vD rs hl typ over rel
 ·simp
theorem pK (w:World) (o o':Obj):((w.alloc o).alloc o').heap[w.heap.size + 1]?=some o':=by
 have:=heap_alloc_new (w.alloc o) o';simpa using this
set_option maxRecDepth 100000 in
theorem vH (b n:Nat) (rs:List TR) (ad:Option Addr) (M:ByteArray × ByteArray→Option Value) (typ:ByteArray) (x:ER) (w:World) (hV:aD dJ prog 130 w b n M) (hT:Tab rs M) (hs:jd w ad rs) (hl:∀ r ∈ rs,r.light) (hf:∀ r ∈ rs,r.fits) (ht:typ.size≤maxLen) (XI:x.e.fits) (hxl:x.e.light) (hxo:x.ok w) :
  Calls prog 147 #[.map (some b),.string typ,x.val] w fun e w'=>(∃ (SQ:Option Addr) (cap':Nat),e=.returned (.slice SQ (gW (ae rs) typ x.e).length cap')∧iy w' SQ (gW (ae rs) typ x.e)∧∀ p,SQ=some p→w.heap.size≤p.block)∧Below w.heap.size w w':=by
 have HV:Hid (aD dJ prog 130 w b n M):=hV;have HT:=aC hT;have HS:=aC hs;have HL:=aC hl;have Tj:=aC hf;have Vm:=aC XI;have Yc:=aC hxo;have lgA:x.e.allow.length≤1048576:=hxl.1;clear hV hT hs hl hf XI hxo hxl;obtain ⟨i0,hi,hz0,hz1,hz2⟩:=info_parts MV;obtain ⟨W0,hW0⟩:∃ W0,W0=w.alloc (.cells #[.int .i64 x.e.kind,.slice x.adA x.e.allow.length x.capA,.string x.e.over,.string x.e.name,.slice x.adK x.e.kids.length x.capK] 166):=⟨_,rfl⟩;have hal:Below w.heap.size w W0:=by rw [hW0]; exact (R3 _ _).alloc (R4 _) _
 have HB0:=aC hal;have hg0:w.heap.size < W0.heap.size:=by rw [hW0]; simp
 have c0:W0.cell? ⟨w.heap.size,0,none⟩=some (.int .i64 x.e.kind):=by rw [hW0]; simp
 have c1:W0.cell? ⟨w.heap.size,1,none⟩=some (.slice x.adA x.e.allow.length x.capA):=by rw [hW0]; simp
 have c2:W0.cell? ⟨w.heap.size,2,none⟩=some (.string x.e.over):=by rw [hW0]; simp
 have c3:W0.cell? ⟨w.heap.size,3,none⟩=some (.string x.e.name):=by rw [hW0]; simp
 have c4:W0.cell? ⟨w.heap.size,4,none⟩=some (.slice x.adK x.e.kids.length x.capK):=by rw [hW0]; simp
 clear hal;unfold ER.val;by_cases h1:x.e.kind=1
 ·have U4:Hid (gW (ae rs) typ x.e=dD x.e.allow):=by show _=_; unfold gW; rw [if_pos h1]
  have hq1:(x.e.kind == 1)=true:=by simpa using h1
  replace h1:Hid (x.e.kind=1):=h1;go_enter func147,ntmps147;go_wp2_with fail;rw [← hW0];clear hW0;go_loopw [7,19] (fun v i wr=>∃ k:Nat,k≤x.e.allow.length∧i=.int .i64 k∧Hid (wr.ownsRow w.heap.size 130 2 v (dD (x.e.allow.take k)).length (gm (dD (x.e.allow.take k))))∧Hid (Below w.heap.size w wr)) (fun _ i _=>x.e.allow.length - (intOf i).toNat);case atStart=>exact ⟨0,R6 _,rfl,World.ownsRow_nil _ _ _ _,HB0⟩
  case round =>
   clear HB0 c0 c1 c2 c3 c4 hg0;obtain ⟨k,hk,rfl,HOW,HB⟩:=hrel;by_cases hlt:k < x.e.allow.length
   ·rcases (Yc.out.1).below HB.out with hnil | ⟨ba,Vk,had,hba,hra⟩
    ·rw [hnil] at hlt; simp at hlt
    obtain ⟨t0,t1⟩:=hra k hlt;have hk1:=bn k;have hk2:(k:Int) < (x.e.allow.length:Int):=by omega
    obtain ⟨W1,hW1⟩:∃ W1,W1=wr.alloc (.cells #[.string x.e.allow[k].t,.string x.e.allow[k].s] 163):=⟨_,rfl⟩;have hal:Below wr.heap.size wr W1:=by rw [hW1]; exact (R3 _ _).alloc (R4 _) _
    have S9:=gY HB hal;have Vl:Hid (W1.ownsRow w.heap.size 130 2 u7 (dD (x.e.allow.take k)).length (gm (dD (x.e.allow.take k)))):=own_below HOW.out hal;have g0:W1.cell? ⟨wr.heap.size,0,none⟩=some (.string x.e.allow[k].t):=by rw [hW1]; simp
    have g1:W1.cell? ⟨wr.heap.size,1,none⟩=some (.string x.e.allow[k].s):=by rw [hW1]; simp
    have hgl1:wr.heap.size < W1.heap.size:=by rw [hW1]; simp
    have hgl:=Be (x.e.allow.take k);rw [Sq] at hgl;have hwsz:w.heap.size≤W1.heap.size:=S9.out.size;rw [had];clear hra hal HOW;cases he:x.e.allow[k].s.toList.isEmpty with
    | true =>
     have HE:Hid (dD (x.e.allow.take (k + 1))=dD (x.e.allow.take k)):=MU _ _ hlt he;have T9:Hid (Below w.heap.size w (wr.alloc (.cells #[.string x.e.allow[k].t,.string x.e.allow[k].s] 163))):=by rw [← hW1]; exact S9
     have HOX:Hid ((wr.alloc (.cells #[.string x.e.allow[k].t,.string x.e.allow[k].s] 163)).ownsRow w.heap.size 130 2 u7 (dD (x.e.allow.take (k + 1))).length (gm (dD (x.e.allow.take (k + 1))))):=by rw [← hW1,HE.out]; exact Vl
     clear hW1 g0 g1;go_wp2;go_roundw;case rel=>exact ⟨k + 1,by omega,by go_num,HOX,T9⟩
     case measure=>simp [intOf] <;> omega
    | false =>
     have HX:Hid (dD (x.e.allow.take (k + 1))=dD (x.e.allow.take k) ++ [x.e.allow[k]]):=Kb _ _ hlt he;have HOX:Hid ((wr.alloc (.cells #[.string x.e.allow[k].t,.string x.e.allow[k].s] 163)).ownsRow w.heap.size 130 2 u7 (dD (x.e.allow.take k)).length (gm (dD (x.e.allow.take k)))):=by rw [← hW1]; exact Vl
     have T9:Hid (Below w.heap.size w (wr.alloc (.cells #[.string x.e.allow[k].t,.string x.e.allow[k].s] 163))):=by rw [← hW1]; exact S9
     have hws:w.heap.size≤wr.heap.size:=HB.out.size;clear hW1 Vl S9 g0 g1 hgl1 hwsz W1;go_wp2_with (at_builtin; refine wpList_append_own_at _ rfl _ _ 242 rfl w.heap.size 130 i0 _ 2 32 underlying242 hi hz0 hz1 hz2 rfl (by decide) _ _ _ rfl (HOX.out.alloc _) ⟨wr.heap.size + 1,0,none⟩ 1 1 [.string x.e.allow[k].t,.string x.e.allow[k].s] rfl rfl (World.news_of_block (cs:=#[.string x.e.allow[k].t,.string x.e.allow[k].s]) (t:=130) (fr:=(0,0)) (pK wr _ _)) (by simp [Value.oneCell']) (by unfold maxLen; omega) (by omega) (by simp; omega) ?_);intro v' w3 hown3 hgrow _ hloc;have HB3:Hid (Below w.heap.size w w3):=(T9.out.alloc T9.out.size _).grown hgrow (by simp; omega) (fun i hi=>(HOX.out.lt i hi).1);have Ui:Hid (w3.ownsRow w.heap.size 130 2 v' (dD (x.e.allow.take (k + 1))).length (gm (dD (x.e.allow.take (k + 1))))):=by
      show World.ownsRow _ _ _ _ _ _ _;rw [HX.out,yE,R9];exact hown3
     clear hown3 hgrow hloc HOX T9;go_wp2;go_roundw;case rel=>exact ⟨k + 1,by omega,by go_num,Ui,HB3⟩
     case measure=>simp [intOf] <;> omega
   ·obtain rfl:k=x.e.allow.length:=by omega
    have hown:=HOW.out;rw [Sc] at hown;obtain ⟨SQ,cp,rfl,hS',hN'⟩:=MS hown;have HS2:=aC hS';have UE:Hid (∀ p,SQ=some p→w.heap.size≤p.block):=hN';clear hown HOW hS' hN';go_wp2;go_ret;exact ⟨⟨SQ,cp,by rw [U4.out]; rfl,by rw [U4.out]; exact HS2.out,UE.out⟩,HB.out⟩
 have hq1:(x.e.kind == 1)=false:=by simpa using h1
 by_cases h2:x.e.kind=2
 ·have U4:Hid (gW (ae rs) typ x.e=[⟨typ,x.e.name⟩]):=by show _=_; unfold gW; rw [if_neg h1,if_pos h2]
  have hq2:(x.e.kind == 2)=true:=by simpa using h2
  replace h2:Hid (x.e.kind=2):=h2;have HOX:Hid ((w.alloc (.cells #[.int .i64 x.e.kind,.slice x.adA x.e.allow.length x.capA,.string x.e.over,.string x.e.name,.slice x.adK x.e.kids.length x.capK] 166)).ownsRow w.heap.size 130 2 (.slice none 0 0) 0 []):=World.ownsRow_nil _ _ _ _;have T9:Hid (Below w.heap.size w (w.alloc (.cells #[.int .i64 x.e.kind,.slice x.adA x.e.allow.length x.capA,.string x.e.over,.string x.e.name,.slice x.adK x.e.kids.length x.capK] 166))):=by rw [← hW0]; exact HB0
  clear hW0 HB0 c0 c1 c2 c3 c4 hg0 W0;go_enter func147,ntmps147;go_wp2_with (at_builtin; refine wpList_append_own_at _ rfl _ _ 242 rfl w.heap.size 130 i0 _ 2 32 underlying242 hi hz0 hz1 hz2 rfl (by decide) _ _ _ rfl (HOX.out.alloc _) ⟨w.heap.size + 1,0,none⟩ 1 1 [.string typ,.string x.e.name] rfl rfl (World.news_of_block (cs:=#[.string typ,.string x.e.name]) (t:=130) (fr:=(0,0)) (pK w _ _)) (by simp [Value.oneCell']) (by unfold maxLen; omega) (by omega) (by simp; omega) ?_);intro v' w3 hown3 hgrow _ hloc;have HB3:Hid (Below w.heap.size w w3):=(T9.out.alloc T9.out.size _).grown hgrow (by simp; omega) (fun i hi=>(HOX.out.lt i hi).1);have Xk:w3.ownsRow w.heap.size 130 2 v' ([⟨typ,x.e.name⟩]:List Al).length (gm [⟨typ,x.e.name⟩]):=hown3;obtain ⟨SQ,cp,rfl,hS',hN'⟩:=MS Xk;have HS2:=aC hS';have UE:Hid (∀ p,SQ=some p→w.heap.size≤p.block):=hN';clear hown3 Xk hgrow hloc HOX T9 hS' hN';go_wp2;go_ret;exact ⟨⟨SQ,cp,by rw [U4.out]; rfl,by rw [U4.out]; exact HS2.out,UE.out⟩,HB3.out⟩
 have hq2:(x.e.kind == 2)=false:=by simpa using h2
 by_cases h3:x.e.kind=3
 ·have U4:Hid (gW (ae rs) typ x.e=(fB (ae rs) typ x.e.over x.e.name).map fun g=>(⟨g,x.e.name⟩:Al)):=by show _=_; unfold gW; rw [if_neg h1,if_neg h2,if_pos h3]
  have hq3:(x.e.kind == 3)=true:=by simpa using h3
  replace h3:Hid (x.e.kind=3):=h3;have HGL:(fB (ae rs) typ x.e.over x.e.name).length≤1048576:=CK rs HL.out _ _ _;have WF:=aC (HV.out.below HB0.out);go_enter func147,ntmps147;go_wp2_with fail;rw [← hW0];refine (vF b n rs ad M typ x _ WF.out HT.out (HS.out.below HB0.out) HL.out Tj.out ht Vm.out.2.1 Vm.out.2.2.1).mono ?_;rintro e w1 ⟨⟨adG,cpG,rfl,hSG,hNG⟩,hb1⟩;generalize fB (ae rs) typ x.e.over x.e.name=gs at *
  have HB1:=gY HB0 hb1;have HSG:=aC hSG;have HNG:Hid (∀ p,adG=some p→W0.heap.size≤p.block):=hNG;have TY:Hid (w1.cell? ⟨w.heap.size,3,none⟩=some (.string x.e.name)∧w.heap.size < w1.heap.size):=⟨aH hb1 hg0 c3,RZ hg0 hb1.size⟩;clear hW0 hSG hNG hb1 c0 c1 c2 c3 c4 HB0 WF hg0 HNG;go_wp2_with fail;go_loopw [7,51] (fun v i wr=>∃ m:Nat,m≤gs.length∧i=.int .i64 m∧Hid (wr.ownsRow w.heap.size 130 2 v m (gm ((gs.take m).map fun g=>(⟨g,x.e.name⟩:Al))))∧Hid (Below w.heap.size w wr)∧Hid (Aside w1 (.slice none 0 0) wr v)) (fun _ i _=>gs.length - (intOf i).toNat);case atStart=>exact ⟨0,R6 _,rfl,World.ownsRow_nil _ _ _ _,HB1,Aside.refl _ _⟩
  case round =>
   clear HB1;obtain ⟨m,hm,rfl,HO,HB,HA⟩:=hrel;have x3:=oC HA.out TY.out.2 (by simp [Value.ownBlock]) TY.out.1;by_cases Tv:m < gs.length
   ·rcases HSG.out with rfl | ⟨bg,offg,rfl,hbg,hrg⟩
    ·simp at Tv
    have q0:=oC HA.out hbg (by simp [Value.ownBlock]) (hrg m Tv);have hm1:=bn m;have hm2:(m:Int) < (gs.length:Int):=by omega
    have hws:w.heap.size≤wr.heap.size:=HB.out.size;have HFX:Hid (gm ((gs.take (m + 1)).map fun g=>(⟨g,x.e.name⟩:Al))=gm ((gs.take m).map fun g=>(⟨g,x.e.name⟩:Al)) ++ [.string gs[m],.string x.e.name]):=by
     show _=_;rw [R5 Tv,List.map_append,List.map_singleton,yE]; rfl
    clear hrg;go_wp2_with (at_builtin; refine wpList_append_own_at _ rfl _ _ 242 rfl w.heap.size 130 i0 _ 2 32 underlying242 hi hz0 hz1 hz2 rfl (by decide) _ _ _ rfl (HO.out.alloc _) ⟨wr.heap.size,0,none⟩ 1 1 [.string gs[m],.string x.e.name] rfl rfl (World.news_of_block (cs:=#[.string gs[m],.string x.e.name]) (t:=130) (fr:=(0,0)) (heap_alloc_new wr _)) (by simp [Value.oneCell']) (by unfold maxLen; omega) (by omega) (by simp; omega) ?_);intro v' w3 hown3 hgrow _ hloc;have HB3:Hid (Below w.heap.size w w3):=(HB.out.alloc HB.out.size _).grown hgrow (by simp; omega) (fun i hi=>(HO.out.lt i hi).1);have Ui:Hid (w3.ownsRow w.heap.size 130 2 v' (m + 1) (gm ((gs.take (m + 1)).map fun g=>(⟨g,x.e.name⟩:Al)))):=by
     show World.ownsRow _ _ _ _ _ _ _;rw [HFX.out]; simpa [List.map_take] using hown3
    have HA3:Hid (Aside w1 (.slice none 0 0) w3 v'):=HA.out.trans ((Aside.below ((R3 _ _).alloc (R4 _) _)).trans (Aside.app hgrow (by simpa using hloc)));clear hown3 hgrow hloc HO HA;go_wp2;go_roundw;case rel=>exact ⟨m + 1,by omega,by go_num,Ui,HB3,HA3⟩
    case measure=>simp [intOf] <;> omega
   ·obtain rfl:m=gs.length:=by omega
    have hown:=HO.out;rw [Sc] at hown;have e:gs.length=(gs.map fun g=>(⟨g,x.e.name⟩:Al)).length:=by simp
    rw [e] at hown;obtain ⟨SQ,cp,rfl,hS',hN'⟩:=MS hown;have HS2:Hid (iy wr SQ (gs.map fun g=>(⟨g,x.e.name⟩:Al))):=hS';have UE:Hid (∀ p,SQ=some p→w.heap.size≤p.block):=hN';obtain ⟨ln,hln⟩:∃ ln,ln=(gs.map fun g=>(⟨g,x.e.name⟩:Al)).length:=⟨_,rfl⟩;rw [← hln];have HLN:Hid (ln=(gs.map fun g=>(⟨g,x.e.name⟩:Al)).length):=hln;clear hown HO hS' hN' e HA x3 hln;go_wp2;go_ret;exact ⟨⟨SQ,cp,by rw [U4.out,← HLN.out]; rfl,by rw [U4.out]; exact HS2.out,UE.out⟩,HB.out⟩
 ·have U4:Hid (gW (ae rs) typ x.e=[]):=by show _=_; unfold gW; rw [if_neg h1,if_neg h2,if_neg h3]
  have hq3:(x.e.kind == 3)=false:=by simpa using h3
  have T9:Hid (Below w.heap.size w (w.alloc (.cells #[.int .i64 x.e.kind,.slice x.adA x.e.allow.length x.capA,.string x.e.over,.string x.e.name,.slice x.adK x.e.kids.length x.capK] 166))):=by rw [← hW0]; exact HB0
  clear hW0 HB0 c0 c1 c2 c3 c4 hg0;go_enter func147,ntmps147;go_wp2;go_ret;exact ⟨⟨none,0,by rw [U4.out]; rfl,by rw [U4.out]; exact .inl rfl,fun p hp=>by cases hp⟩,T9.out⟩
end Go.Proofs.YtdaoiceeidoehaaGreat
