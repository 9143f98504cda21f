/- The document's look whether schema and tuples are right data. -/
import Derived.Test.YtogjfppkbkgaeaaGreatSpecSchema11
import Derived.Test.YtogjfppkbkgaeaaGreatJ28
import Derived.Test.YtogjfppkbkgaeaaGreatJ18
import Derived.Test.YtogjfppkbkgaeaaGreatDataOf
import Derived.Test.YtogjfppkbkgaeaaGreatJ19
import Derived.Test.YtogjfppkbkgaeaaGreatJ25
import Derived.Test.YtogjfppkbkgaeaaGreatJ26
import Derived.Test.YtogjfppkbkgaeaaGreatAhead
import Derived.Test.YtogjfppkbkgaeaaGreatJ1
namespace Go.Proofs.YtogjfppkbkgaeaaGreat
set_option linter.unusedVariables false
set_option maxRecDepth 100000
open Go.ChangeShapes Go.WideShapes Go.ChangeAt Go.RowKit Go.Maps
open Pl
def gp (rs:List TR) (t:Tp):Bool:=tJ (af rs) t.a t.b t.r t.c t.d t.s
theorem Hy {rs:List TR} {t:Tp} (h:dh (af rs)=true) (ht:t.ok=true):tu (af rs) t.a t.r ⟨t.c,t.s⟩=gp rs t:=by
 have hSP:=bR.1 h;have h1:tu (af rs) t.a t.r ⟨t.c,t.s⟩=cZ (aM (aG (af rs) t.a t.r)) (aM (aG (af rs) t.a t.r)).length ⟨t.c,t.s⟩:=CR _ (La hSP _ _);have h2:aU t.a t.b t.r t.c t.d t.s=true:=ht;rw [h1];unfold gp tJ;rw [h2,Bool.and_true]
theorem J3 {p:Tp→Bool} {ts:List Tp} {k:Nat} (h:k < ts.length):(ts.drop k).all p=(p ts[k] && (ts.drop (k + 1)).all p):=by rw [List.drop_eq_getElem_cons h]; rfl
set_option maxHeartbeats 4000000 in
theorem CS (ad:Option Addr) (cap:Nat) (rs:List TR) (ad':Option Addr) (cap':Nat) (ts:List Tp) (w:World) (hlen:rs.length≤1048576) (hs:fo w ad rs) (hl:∀ r ∈ rs,r.light) (hfr:∀ r ∈ rs,r.fits) (hlt:ts.length≤1048576) (hst:Sl w ad' ts) (hft:∀ x ∈ ts,x.fits) :
  Calls Tryz.prog 35 #[.slice ad rs.length cap,.slice ad' ts.length cap'] w fun e w'=>e=.returned (.bool (aV (gp rs) rs ts))∧Below w.heap.size w w':=by
 have HS:=ax hs;have HL:=ax hl;have HFR:=ax hfr;have HST:=ax hst;have HFT:=ax hft;have hml:ts.length≤maxLen:=by unfold maxLen; omega
 clear hs hl hfr hst hft;go_enter Tryz.func35,Tryz.ntmps35;go_wp2_with fail;refine (rT ad cap rs _ hlen HS.out HL.out HFR.out).mono ?_;rintro e w1 ⟨he,hb1⟩;have HB1:=ax hb1;clear hb1;cases h1:dh (af rs) with
 | false =>
  rw [h1] at he; subst he;have HN:Hid (aV (gp rs) rs ts=false):=by show _=_; unfold aV; rw [h1]; rfl
  clear h1;go_wp2;go_ret;exact ⟨by rw [HN.out]; rfl,HB1.out⟩
 | true =>
  rw [h1] at he; subst he;have H1:=ax h1;clear h1;go_wp2_with fail;refine (rH ad' cap' ts _ hml (HST.out.below HB1.out) HFT.out).mono ?_;rintro e w2 ⟨he,hb2⟩;have HB2:=ax (HB1.out.trans (hb2.mono HB1.out.size));clear hb2 HB1;cases h2:dR ts with
  | false =>
   rw [h2] at he; subst he;have HN:Hid (aV (gp rs) rs ts=false):=by show _=_; unfold aV; rw [h2,Bool.and_false]; rfl
   clear h2;go_wp2;go_ret;exact ⟨by rw [HN.out]; rfl,HB2.out⟩
  | true =>
   rw [h2] at he; subst he;have HN:Hid (aV (gp rs) rs ts=ts.all (gp rs)):=by show _=_; unfold aV; rw [H1.out,h2]; rfl
   clear h2 H1;go_wp2;go_loopw [5] (fun i wr=>∃ k:Nat,k≤ts.length∧i=.int .i64 k∧Hid ((ts.drop k).all (gp rs)=ts.all (gp rs))∧Hid (Below w.heap.size w wr)) (fun i _=>ts.length - (intOf i).toNat);case atStart=>exact ⟨0,Nat.zero_le _,rfl,rfl,HB2⟩
   case round =>
    clear HB2;obtain ⟨k,hk,rfl,HP,HB⟩:=hrel;by_cases hlt2:k < ts.length
    ·obtain ⟨b,off,hadr,⟨t0,t1,t2,t3,t4,t5⟩,hb⟩:=Sl.at0 (HST.out.below HB.out) hlt2;have hk1:(0:Int)≤(k:Int):=by omega
     have hk2:(k:Int) < (ts.length:Int):=by omega
     obtain ⟨f0,f1,f2,f3,f4,f5⟩:=HFT.out _ (List.getElem_mem hlt2);have HD:Hid (ts.all (gp rs)=(gp rs ts[k] && (ts.drop (k + 1)).all (gp rs))):=by show _=_; rw [← HP.out]; exact J3 hlt2
     obtain ⟨x,hx⟩:∃ x,x=ts[k]:=⟨_,rfl⟩;rw [← hx] at t0 t1 t2 t3 t4 t5 f0 f1 f2 f3 f4 f5 HD;have HLF:=ax (ES ad cap rs x.a x.b x.r x.c x.d x.s wr hlen (HS.out.below HB.out) HL.out f0 f1 f2 f3 f4 f5);subst hadr;clear hx;go_wp2_with fail;refine HLF.out.mono ?_;rintro e w3 ⟨he,hb3⟩;have HB3:=ax (HB.out.trans (hb3.mono HB.out.size));clear hb3 HLF t0 t1 t2 t3 t4 t5;cases h5:tJ (af rs) x.a x.b x.r x.c x.d x.s with
     | true =>
      rw [h5] at he; subst he;have HP2:Hid ((ts.drop (k + 1)).all (gp rs)=ts.all (gp rs)):=by show _=_; rw [HD.out]; unfold gp at *; rw [h5]; rfl
      clear h5;go_wp2;go_roundw;case rel=>exact ⟨k + 1,by omega,by go_num,HP2,HB3⟩
      case measure=>simp [intOf] <;> omega
     | false =>
      rw [h5] at he; subst he;have HN2:Hid (aV (gp rs) rs ts=false):=by show _=_; rw [HN.out,HD.out]; unfold gp at *; rw [h5]; rfl
      clear h5;go_wp2;go_ret;exact ⟨by rw [HN2.out]; rfl,HB3.out⟩
    ·have HN2:Hid (aV (gp rs) rs ts=true):=by show _=_; rw [HN.out,← HP.out,List.drop_of_length_le (by omega)]; rfl
     go_wp2;go_ret;exact ⟨by rw [HN2.out]; rfl,HB.out⟩
set_option linter.unusedSectionVars false
theorem rU {xs:List Al} {o x:Al} (h:x ∈ aJ xs o):x ∈ xs ∨ x=o:=by
 unfold aJ at h;split at h
 ·exact .inl h
 ·rcases List.mem_append.1 h with h | h
  ·exact .inl h
  ·exact .inr (by simpa using h)
theorem wW:∀ (ts:List Tp) (xs:List Al) (o:Al),o ∈ ts.foldl fG xs→o ∈ xs ∨ ∃ t ∈ ts,o=⟨t.a,t.b⟩ ∨ o=⟨t.c,t.d⟩
 | [],xs,o,h=>.inl h
 | t::ts,xs,o,h=>by
  rcases wW ts (fG xs t) o h with h | ⟨u,hu,h⟩
  ·unfold fG at h;rcases rU h with h | h
   ·rcases rU h with h | h
    ·exact .inl h
    ·exact .inr ⟨t,by simp,.inl h⟩
   ·exact .inr ⟨t,by simp,.inr h⟩
  ·exact .inr ⟨u,by simp [hu],h⟩
theorem wY:∀ (ts:List Tp) (xs:List Al) (o:Al),o ∈ ts.foldl bI xs→o ∈ xs ∨ ∃ t ∈ ts,o=⟨t.a,t.b⟩ ∨ o=⟨t.c,t.d⟩
 | [],xs,o,h=>.inl h
 | t::ts,xs,o,h=>by
  rcases wY ts (bI xs t) o h with h | ⟨u,hu,h⟩
  ·unfold bI at h;split at h
   ·rcases rU h with h | h
    ·exact .inl h
    ·exact .inr ⟨t,by simp,.inr h⟩
   ·exact .inl h
  ·exact .inr ⟨u,by simp [hu],h⟩
theorem FP {ts:List Tp} (hf:∀ t ∈ ts,t.fits) {o:Al} (h:∃ t ∈ ts,o=⟨t.a,t.b⟩ ∨ o=⟨t.c,t.d⟩):o.t.size≤maxLen∧o.s.size≤maxLen:=by
 obtain ⟨t,ht,h⟩:=h;obtain ⟨h0,h1,h2,h3,h4,h5⟩:=hf t ht;rcases h with rfl | rfl
 ·exact ⟨h0,h1⟩
 ·exact ⟨h3,h4⟩
theorem lu {ts:List Tp} (hf:∀ t ∈ ts,t.fits):∀ o ∈ eP ts,o.t.size≤maxLen∧o.s.size≤maxLen:=fun o ho=>by
 rcases wW ts [] o ho with h | h
 ·cases h
 ·exact FP hf h
theorem jP {ts:List Tp} (hf:∀ t ∈ ts,t.fits):∀ o ∈ cO ts,o.t.size≤maxLen∧o.s.size≤maxLen:=fun o ho=>by
 rcases wY ts [] o ho with h | h
 ·cases h
 ·exact FP hf h
theorem AL:∀ (E:List (KL × RR)) (m:Int),m≤E.foldl (fun m x=>max m (x.1.2 + 1)) m∧∀ x ∈ E,x.1.2 + 1≤E.foldl (fun m x=>max m (x.1.2 + 1)) m
 | [],m=>⟨Int.le_refl _,fun x hx=>by cases hx⟩
 | y::E,m=>by
  obtain ⟨h1,h2⟩:=AL E (max m (y.1.2 + 1));simp only [List.foldl_cons];refine ⟨by omega,fun x hx=>?_⟩;rcases List.mem_cons.1 hx with rfl | hx
  ·omega
  ·exact h2 x hx
theorem FQ:∀ (E:List (KL × RR)) (m B:Int),m≤B→(∀ x ∈ E,x.1.2 + 1≤B)→E.foldl (fun m x=>max m (x.1.2 + 1)) m≤B
 | [],m,B,h,_=>h
 | y::E,m,B,h,hx=>FQ E _ B (Int.max_le.2 ⟨h,hx y (by simp)⟩) fun x h2=>hx x (by simp [h2])
theorem Lb {f:ByteArray × ByteArray→Int} {rs:List TR} {k:ByteArray × ByteArray} (hk:k ∈ ai (af rs)):∃ x ∈ dD f rs,x.1.2=f k:=by
 unfold ai at hk;obtain ⟨T,hT,hk⟩:=List.mem_flatMap.1 hk;obtain ⟨t,ht,rfl⟩:=List.mem_map.1 hT;unfold iq at hk;obtain ⟨r,hr,rfl⟩:=List.mem_map.1 hk;obtain ⟨q,hq,rfl⟩:=List.mem_map.1 hr;exact ⟨((t.name,f (t.name,q.name)),q),List.mem_flatMap.2 ⟨t,ht,List.mem_map.2 ⟨q,hq,rfl⟩⟩,rfl⟩
theorem Mt {f:ByteArray × ByteArray→Int} {rs:List TR} {x:KL × RR} (hx:x ∈ dD f rs):∃ k ∈ ai (af rs),x.1.2=f k∧∃ t ∈ rs,∃ q ∈ t.rows,k=(t.name,q.name):=by
 unfold dD at hx;obtain ⟨t,ht,hx⟩:=List.mem_flatMap.1 hx;obtain ⟨q,hq,rfl⟩:=List.mem_map.1 hx;refine ⟨(t.name,q.name),?_,rfl,t,ht,q,hq,rfl⟩;unfold ai iq;exact List.mem_flatMap.2 ⟨t.p,List.mem_map.2 ⟨t,ht,rfl⟩,List.mem_map.2 ⟨q.p,List.mem_map.2 ⟨q,hq,rfl⟩,rfl⟩⟩
theorem rV {rs:List TR} (hf:∀ r ∈ rs,r.fits):∀ k ∈ ai (af rs),k.2.size≤maxLen:=fun k hk=>by
 unfold ai at hk;obtain ⟨T,hT,hk⟩:=List.mem_flatMap.1 hk;obtain ⟨t,ht,rfl⟩:=List.mem_map.1 hT;unfold iq at hk;obtain ⟨r,hr,rfl⟩:=List.mem_map.1 hk;obtain ⟨q,hq,rfl⟩:=List.mem_map.1 hr;exact ((hf t ht).2.2 q hq).1
theorem Lc (f:ByteArray × ByteArray→Int) (rs:List TR):(dD f rs).length=(ai (af rs)).length:=by
 induction rs with
 | nil=>rfl
 | cons t rs ih =>
  have e1:ai (af (t::rs))=iq t.p ++ ai (af rs):=by simp [ai,af]
  have e2:dD f (t::rs)=(t.rows.map fun r=>((t.name,f (t.name,r.name)),r)) ++ dD f rs:=rfl;have e3:(iq t.p).length=t.rows.length:=by unfold iq; rw [List.length_map]; exact fD _
  rw [e1,e2,List.length_append,List.length_append,ih,e3,List.length_map]
section
variable [DecidableEq Fc]
def dP (st:ByteArray × ByteArray→Int) (rs:List TR) (ts:List Tp):List Fc:=if aV (gp rs) rs ts then ll st rs ts else []
theorem jB {st:ByteArray × ByteArray→Int} {rs:List TR} {ts:List Tp} (h:aV (gp rs) rs ts=true):dP st rs ts=ll st rs ts:=by unfold dP; rw [if_pos h]
theorem jl {st:ByteArray × ByteArray→Int} {rs:List TR} {ts:List Tp} (h:aV (gp rs) rs ts=false):dP st rs ts=[]:=by unfold dP; rw [if_neg (by rw [h]; decide)]
def CU (L0:List Fc) (w:World) (e:Ending) (w':World):Prop:=(∃ (L:List Fc) (v:Value),e=.returned v∧L.Perm L0∧L.Pairwise (fun x y=>Op.bytesLess (Bf y) (Bf x)=false)∧w'.ownsRow w.heap.size 47 5 v L.length (aA L))∧Below w.heap.size w w'
set_option maxHeartbeats 8000000 in
theorem oo (st:ByteArray × ByteArray→Int) (ad:Option Addr) (cap:Nat) (rs:List TR) (ad':Option Addr) (cap':Nat) (ts:List Tp) (w:World) (hlen:rs.length≤1048576) (hs:fo w ad rs) (hl:∀ r ∈ rs,r.light) (hfr:∀ r ∈ rs,r.fits) (hcp:∀ r ∈ rs,r.caps) (hlt:ts.length≤1048576) (hst:Sl w ad' ts) (hft:∀ x ∈ ts,x.fits) (hle:dh (af rs)=true→Least (af rs) st) :
  Calls Tryz.prog 12 #[.slice ad rs.length cap,.slice ad' ts.length cap'] w (CU (dP st rs ts) w):=by
 have HC:=ax (Ej (gp rs) ad cap rs ad' cap' ts w hlen hs hl hfr (AJ ad cap rs w hlen hs hl hfr hcp) (fun h t ht=>Hy h ht) hlt hst hft);have HS:=ax hs;have HFT:=ax hft;have HFR:=ax hfr;have HLE:=ax hle;clear hs hl hfr hcp hst hft hle;go_enter Tryz.func12,Tryz.ntmps12;go_wp2_with fail;refine HC.out.mono ?_;rintro e w1 ⟨hb1,⟨hr,rfl⟩ | ⟨hr,D,br,bp,bt,nr,np,Mr,Mp,vo,vu,f,rfl,hbt,hLf,hDA⟩⟩
 ·have HP:Hid (CU (dP st rs ts) w (.returned (.slice none 0 0)) w1):=⟨⟨[],_,rfl,by rw [jl hr],List.Pairwise.nil,World.ownsRow_nil _ _ _ _⟩,hb1⟩;clear hb1 HC hr;go_wp2;go_ret;exact HP.out
 ·have hsd:dh (af rs)=true∧ts.length≤40:=by
   unfold aV dR at hr;simp only [Bool.and_eq_true,decide_eq_true_eq] at hr;exact ⟨hr.1.1,hr.1.2.1⟩
  obtain ⟨hsd,ht40⟩:=hsd;have hSP:=bR.1 hsd;obtain ⟨h6,hr6,-⟩:=bn hSP.1;have hE36:=uE h6 hr6;have hfk:∀ k ∈ ai (af rs),f k + 1≤(ai (af rs)).length:=fun k hk=>by
   obtain ⟨g,hg,hb⟩:=hLf.sol.few (jo hSP.2.1);have h1:=hLf.low k hk g hg;have h2:=hb k hk;omega
  have hc0:0≤ig (dD f rs):=(AL (dD f rs) 0).1;have hcl:ig (dD f rs)≤(ai (af rs)).length:=FQ _ _ _ (by omega) fun x hx=>by
   obtain ⟨k,hk,e,-⟩:=Mt hx;rw [e]; exact hfk k hk
  obtain ⟨N,hN⟩:∃ N:Nat,ig (dD f rs)=N:=⟨(ig (dD f rs)).toNat,by omega⟩;have hkN:∀ k ∈ ai (af rs),f k < (N:Int):=fun k hk=>by
   obtain ⟨x,hx,e⟩:=Lb (f:=f) hk;have h2:=(AL (dD f rs) 0).2 x hx;have h3:x.1.2 + 1≤ig (dD f rs):=h2;rw [e,hN] at h3;omega
  have hLs:jE (af rs) ts f (eP ts) (cO ts) N=dP st rs ts:=by
   rw [jB hr];unfold ll;rw [← rO (fun k hk=>hLf.same (HLE.out hsd) k hk)];exact (Gv hkN _ (by omega)).symm
  rw [hN] at hDA;have HF1:=ax (Hm w1 rs ad D br bp bt N nr Mr f ts (eP ts) (cO ts) np Mp vo vu hDA (HS.out.below hb1) (by omega) (by have:=kD ts; omega) (by have:=jy ts; omega) hE36 (fun k=>by
   have:(G.lookL (dD f rs) k).length≤(dD f rs).length:=List.length_filterMap_le _ _;rw [Lc] at this; omega) hSP.1 HFT.out (by omega) (lu HFT.out) (jP HFT.out) (rV HFR.out))
  rw [hLs] at HF1;have hGO:=jA f rs ts (eP ts) (cO ts) N;rw [hLs] at hGO;have HB1:=ax hb1;have hll:=hGO.len (by have:=kD ts; omega) hE36 (by have:=jy ts; omega);have HFF:Hid (∀ x ∈ dP st rs ts,x.fits):=fun x hx=>by
   have h1:=hGO.sub x hx;unfold Aq at h1;obtain ⟨o,ho,h1⟩:=List.mem_flatMap.1 h1;obtain ⟨k,hk,h1⟩:=List.mem_flatMap.1 h1;obtain ⟨u,hu,rfl⟩:=List.mem_map.1 h1;exact ⟨(lu HFT.out o ho).1,(lu HFT.out o ho).2,rV HFR.out k hk,(jP HFT.out u hu).1,(jP HFT.out u hu).2⟩
  obtain ⟨L0,hL0⟩:∃ L0,L0=dP st rs ts:=⟨_,rfl⟩;rw [← hL0] at HF1 hll HFF;have HL0:=ax hL0;clear HC hb1 hDA hLf hfk hc0 hcl hN hkN hLs hGO hSP hsd h6 hr6 hE36 hr hbt hL0;go_wp2_with fail;refine HF1.out.mono ?_;rintro e w2 ⟨⟨v,rfl,hown⟩,hb2⟩;have HB2:=ax (HB1.out.trans (hb2.mono HB1.out.size));have HO2:=ax (qh hown HB1.out.size);clear HF1 hown hb2 HB1;cases L0 with
  | nil =>
   obtain ⟨adF,capF,rfl,-⟩:=mq HO2.out;have HSN:=ax (Hr adF capF (.func (.func 43) #[] #[]) w2);have HP:Hid (CU [] w (.returned (.slice adF 0 capF)) w2):=⟨⟨[],_,rfl,List.Perm.refl _,List.Pairwise.nil,HO2.out⟩,HB2.out⟩;clear HO2 HB2;go_wp2_with fail;refine HSN.out.mono ?_;rintro e w3 ⟨rfl,rfl⟩;go_wp2;go_ret;rw [← HL0.out]; exact HP.out
  | cons x0 xs0 =>
   obtain ⟨L1,hL1⟩:∃ L1,L1=x0::xs0:=⟨_,rfl⟩;obtain ⟨g,capF,rfl⟩:=ownsRow_succ (k:=xs0.length) HO2.out;have hgl:=(HO2.out.lt g rfl).1;have HSF:=ax (Hq w.heap.size g capF (x0::xs0) w2 HFF.out HO2.out (by simp) (by omega));rw [← hL1] at HSF;have hlL:xs0.length + 1=L1.length:=by rw [hL1]; rfl
   rw [← hL1] at HL0;rw [hlL];clear HO2 HFF hll hL1 hlL;go_wp2_with fail;refine HSF.out.mono ?_;rintro e w3 ⟨rfl,ys,hp,hso,hrow,hcg⟩;have HP:Hid (CU L1 w (.returned (.slice (some ⟨g,0,none⟩) L1.length capF)) w3):=⟨⟨ys,_,rfl,hp,hso,by rw [hp.length_eq]; exact hrow⟩,HB2.out.trans (hcg.below (fun k hk=>by rw [hk]; exact hgl) HB2.out.size)⟩;clear hp hso hrow hcg HB2 HSF;go_wp2;go_ret;rw [← HL0.out]; exact HP.out
end
end Go.Proofs.YtogjfppkbkgaeaaGreat
namespace Go.Proofs.YtogjfppkbkgaeaaGreat
open Go.ChangeShapes Go.WideShapes Go.ChangeAt Go.RowKit
open Pl
attribute [local go_sem ↓] Go.wp_at_zero Go.wp_at_succ
set_option maxHeartbeats 400000 in
theorem Hz (a b r c d:ByteArray) (w:World) :
  Calls Tryz.prog 83 #[.agg #[.string a,.string b,.string r,.string c,.string d]] w fun e w'=>e=.returned (.agg #[.string a,.string b,.string r,.string c,.string d,.string ⟨#[]⟩])∧Below w.heap.size w w':=by
 go_enter Tryz.func83,Tryz.ntmps83;go_wp2;exact bodyPost_ret (v:=.agg #[.string a,.string b,.string r,.string c,.string d,.string ⟨#[]⟩]) (by simp [results,Tryz.results83,go_sem, *]) rfl ⟨rfl,by
  repeat (first | exact Below.refl _ _ | refine Below.setCell ?_ (by first | (simp; done) | (simp; omega)) _ | refine Below.alloc ?_ (by first | (simp; done) | (simp; omega)) _)⟩
theorem Ld {w W w':World} {n m k:Nat} {x0 x1 x2 x3 x4 y0 y1 y2 y3 y4:Value} (hk:k≤n) (h:W.cell? ⟨n,0,none⟩=some x0∧W.cell? ⟨n,1,none⟩=some x1∧W.cell? ⟨n,2,none⟩=some x2∧W.cell? ⟨n,3,none⟩=some x3∧W.cell? ⟨n,4,none⟩=some x4∧W.cell? ⟨m,0,none⟩=some y0∧W.cell? ⟨m,1,none⟩=some y1∧W.cell? ⟨m,2,none⟩=some y2∧W.cell? ⟨m,3,none⟩=some y3∧W.cell? ⟨m,4,none⟩=some y4∧n < W.heap.size∧m < W.heap.size∧Below k w W) (hb:Below W.heap.size W w'):w'.cell? ⟨n,0,none⟩=some x0∧w'.cell? ⟨n,1,none⟩=some x1∧w'.cell? ⟨n,2,none⟩=some x2∧w'.cell? ⟨n,3,none⟩=some x3∧w'.cell? ⟨n,4,none⟩=some x4∧w'.cell? ⟨m,0,none⟩=some y0∧w'.cell? ⟨m,1,none⟩=some y1∧w'.cell? ⟨m,2,none⟩=some y2∧w'.cell? ⟨m,3,none⟩=some y3∧w'.cell? ⟨m,4,none⟩=some y4∧n < w'.heap.size∧m < w'.heap.size∧Below k w w':=by
 obtain ⟨h0,h1,h2,h3,h4,h5,h6,h7,h8,h9,hn,hm,hB⟩:=h;have hc:∀ o,w'.cell? ⟨n,o,none⟩=W.cell? ⟨n,o,none⟩:=fun o=>hb.cell (p:=⟨n,o,none⟩) hn;have hd:∀ o,w'.cell? ⟨m,o,none⟩=W.cell? ⟨m,o,none⟩:=fun o=>hb.cell (p:=⟨m,o,none⟩) hm;exact ⟨by rw [hc]; exact h0,by rw [hc]; exact h1,by rw [hc]; exact h2,by rw [hc]; exact h3,by rw [hc]; exact h4,by rw [hd]; exact h5,by rw [hd]; exact h6,by rw [hd]; exact h7,by rw [hd]; exact h8,by rw [hd]; exact h9,Nat.lt_of_lt_of_le hn hb.size,Nat.lt_of_lt_of_le hm hb.size,hB.trans (hb.mono (by omega))⟩
set_option maxHeartbeats 1000000 in
theorem qF (a b r c d a' b' r' c' d':ByteArray) (w:World) (ha:a.size≤maxLen) (hb:b.size≤maxLen) (hr:r.size≤maxLen) (hc:c.size≤maxLen) (hd:d.size≤maxLen) (ga:a'.size≤maxLen) (gb:b'.size≤maxLen) (gr:r'.size≤maxLen) (gc:c'.size≤maxLen) (gd:d'.size≤maxLen) :
  Calls Tryz.prog 56 #[.agg #[.string a,.string b,.string r,.string c,.string d],.agg #[.string a',.string b',.string r',.string c',.string d']] w fun e w'=>e=.returned (.bool (di a b r c d ⟨#[]⟩ a' b' r' c' d' ⟨#[]⟩))∧Below w.heap.size w w':=by
 have he0:(⟨#[]⟩:ByteArray).size≤maxLen:=by decide
 have H0:((w.alloc (.cells #[.string a,.string b,.string r,.string c,.string d] 47)).alloc (.cells #[.string a',.string b',.string r',.string c',.string d'] 47)).cell? ⟨w.heap.size,0,none⟩=some (.string a)∧((w.alloc (.cells #[.string a,.string b,.string r,.string c,.string d] 47)).alloc (.cells #[.string a',.string b',.string r',.string c',.string d'] 47)).cell? ⟨w.heap.size,1,none⟩=some (.string b)∧((w.alloc (.cells #[.string a,.string b,.string r,.string c,.string d] 47)).alloc (.cells #[.string a',.string b',.string r',.string c',.string d'] 47)).cell? ⟨w.heap.size,2,none⟩=some (.string r)∧((w.alloc (.cells #[.string a,.string b,.string r,.string c,.string d] 47)).alloc (.cells #[.string a',.string b',.string r',.string c',.string d'] 47)).cell? ⟨w.heap.size,3,none⟩=some (.string c)∧((w.alloc (.cells #[.string a,.string b,.string r,.string c,.string d] 47)).alloc (.cells #[.string a',.string b',.string r',.string c',.string d'] 47)).cell? ⟨w.heap.size,4,none⟩=some (.string d)∧((w.alloc (.cells #[.string a,.string b,.string r,.string c,.string d] 47)).alloc (.cells #[.string a',.string b',.string r',.string c',.string d'] 47)).cell? ⟨w.heap.size + 1,0,none⟩=some (.string a')∧((w.alloc (.cells #[.string a,.string b,.string r,.string c,.string d] 47)).alloc (.cells #[.string a',.string b',.string r',.string c',.string d'] 47)).cell? ⟨w.heap.size + 1,1,none⟩=some (.string b')∧((w.alloc (.cells #[.string a,.string b,.string r,.string c,.string d] 47)).alloc (.cells #[.string a',.string b',.string r',.string c',.string d'] 47)).cell? ⟨w.heap.size + 1,2,none⟩=some (.string r')∧((w.alloc (.cells #[.string a,.string b,.string r,.string c,.string d] 47)).alloc (.cells #[.string a',.string b',.string r',.string c',.string d'] 47)).cell? ⟨w.heap.size + 1,3,none⟩=some (.string c')∧((w.alloc (.cells #[.string a,.string b,.string r,.string c,.string d] 47)).alloc (.cells #[.string a',.string b',.string r',.string c',.string d'] 47)).cell? ⟨w.heap.size + 1,4,none⟩=some (.string d')∧w.heap.size < ((w.alloc (.cells #[.string a,.string b,.string r,.string c,.string d] 47)).alloc (.cells #[.string a',.string b',.string r',.string c',.string d'] 47)).heap.size∧w.heap.size + 1 < ((w.alloc (.cells #[.string a,.string b,.string r,.string c,.string d] 47)).alloc (.cells #[.string a',.string b',.string r',.string c',.string d'] 47)).heap.size∧Below w.heap.size w ((w.alloc (.cells #[.string a,.string b,.string r,.string c,.string d] 47)).alloc (.cells #[.string a',.string b',.string r',.string c',.string d'] 47)):=by
  refine ⟨?_,?_,?_,?_,?_,?_,?_,?_,?_,?_,?_,?_,?_⟩
  all_goals first | exact qW _ _ _ | (simp; done) | (simp; omega)
 go_enter Tryz.func56,Tryz.ntmps56;go_wp2_with fail
 go_region_held3 (fun w'=>w'.cell? ⟨w.heap.size,0,none⟩=some (.string a)∧w'.cell? ⟨w.heap.size,1,none⟩=some (.string b)∧w'.cell? ⟨w.heap.size,2,none⟩=some (.string r)∧w'.cell? ⟨w.heap.size,3,none⟩=some (.string c)∧w'.cell? ⟨w.heap.size,4,none⟩=some (.string d)∧w'.cell? ⟨w.heap.size + 1,0,none⟩=some (.string a')∧w'.cell? ⟨w.heap.size + 1,1,none⟩=some (.string b')∧w'.cell? ⟨w.heap.size + 1,2,none⟩=some (.string r')∧w'.cell? ⟨w.heap.size + 1,3,none⟩=some (.string c')∧w'.cell? ⟨w.heap.size + 1,4,none⟩=some (.string d')∧w.heap.size < w'.heap.size∧w.heap.size + 1 < w'.heap.size∧Below w.heap.size w w')
  (first | assumption | exact Ld (Nat.le_refl _) (by assumption) hbx | exact ⟨H0.1,H0.2.1,H0.2.2.1,H0.2.2.2.1,H0.2.2.2.2.1,H0.2.2.2.2.2.1,H0.2.2.2.2.2.2.1,H0.2.2.2.2.2.2.2.1,H0.2.2.2.2.2.2.2.2.1,H0.2.2.2.2.2.2.2.2.2.1,H0.2.2.2.2.2.2.2.2.2.2.1,H0.2.2.2.2.2.2.2.2.2.2.2.1,H0.2.2.2.2.2.2.2.2.2.2.2.2.drew⟩)
  (first | (go_at_call 83; refine (Hz _ _ _ _ _ _).mono ?_; rintro e w' ⟨rfl,hbx⟩) | (go_at_call 81; refine (jW _ _ _ _ _ _ _ _ _ _ _ _ _ (by assumption) (by assumption) (by assumption) (by assumption) (by assumption) (by assumption) (by assumption) (by assumption) (by assumption) (by assumption) (by assumption) (by assumption)).mono ?_; rintro e w' ⟨rfl,hbx⟩))
 rename_i hJ;obtain ⟨-,-,-,-,-,-,-,-,-,-,-,-,gB⟩:=hJ;go_wp2;go_ret;exact ⟨rfl,gB⟩
end Go.Proofs.YtogjfppkbkgaeaaGreat
namespace Go.Proofs.YtogjfppkbkgaeaaGreat
set_option linter.unusedVariables false
section
variable {α:Type} {lt:α→α→Bool}
def mW (lt:α→α→Bool) (r:α):List α→List α
 | []=>[r]
 | x::xs=>if lt x r then x::mW lt r xs else r::x::xs
def iU (lt:α→α→Bool) (rs:List α):List α:=rs.foldl (fun out r=>mW lt r out) []
theorem AO {r:α}:∀ {xs:List α} {p:Nat},p≤xs.length→(∀ (i:Nat) (h:i < xs.length),i < p→lt xs[i] r=true)→(∀ h:p < xs.length,lt xs[p] r=false)→mW lt r xs=xs.take p ++ r::xs.drop p
 | [],p,hp,_,_=>by
  obtain rfl:p=0:=by simpa using hp
  rfl
 | x::xs,0,_,_,h2=>by
  have:=h2 (by simp);simp only [List.getElem_cons_zero] at this;simp [mW,this]
 | x::xs,p + 1,hp,h1,h2=>by
  have h0:=h1 0 (by simp) (by omega);simp only [List.getElem_cons_zero] at h0;have ih:=AO (r:=r) (xs:=xs) (p:=p) (by simpa using hp) (fun i h hi=>h1 (i + 1) (by simpa using h) (by omega)) (fun h=>h2 (by simpa using h));simp [mW,h0,ih]
theorem nM (r:α):∀ xs:List α,(mW lt r xs).Perm (r::xs)
 | []=>List.Perm.refl _
 | x::xs=>by
  unfold mW;split
  ·exact ((nM r xs).cons x).trans (List.Perm.swap _ _ _)
  ·exact List.Perm.refl _
theorem wZ:∀ (rs acc:List α),(rs.foldl (fun out r=>mW lt r out) acc).Perm (rs ++ acc)
 | [],acc=>List.Perm.refl _
 | r::rs,acc=>(wZ rs (mW lt r acc)).trans (((nM r acc).append_left rs).trans List.perm_middle)
theorem iD (rs:List α):(iU lt rs).Perm rs:=by simpa [iU] using wZ rs []
theorem ET (rs:List α) (r:α):iU lt (rs ++ [r])=mW lt r (iU lt rs):=by unfold iU; rw [List.foldl_append]; rfl
structure OrdO (lt:α→α→Bool) (rs:List α):Prop where
 trans:∀ x ∈ rs,∀ y ∈ rs,∀ z ∈ rs,lt x y=true→lt y z=true→lt x z=true
 asymm:∀ x ∈ rs,∀ y ∈ rs,lt x y=true→lt y x=false
 total:∀ x ∈ rs,∀ y ∈ rs,x ≠ y→lt x y=true ∨ lt y x=true
theorem OrdO.mono {rs qs:List α} (h:OrdO lt rs) (hs:∀ x ∈ qs,x ∈ rs):OrdO lt qs :=
 ⟨fun x hx y hy z hz=>h.trans x (hs x hx) y (hs y hy) z (hs z hz),fun x hx y hy=>h.asymm x (hs x hx) y (hs y hy),fun x hx y hy=>h.total x (hs x hx) y (hs y hy)⟩
def LJ (lt:α→α→Bool) (xs:List α):Prop:=xs.Pairwise fun x y=>lt x y=true
theorem FR {r:α}:∀ {xs:List α},OrdO lt (r::xs)→r ∉ xs→LJ lt xs→LJ lt (mW lt r xs)
 | [],_,_,_=>List.pairwise_singleton _ _
 | x::xs,ho,hn,h=>by
  obtain ⟨h1,h2⟩:=List.pairwise_cons.1 h;have hx:x ∈ r::x::xs:=by simp
  have hr:r ∈ r::x::xs:=by simp
  unfold mW;split
  ·rename_i hl;refine List.pairwise_cons.2 ⟨fun y hy=>?_,FR (ho.mono fun z hz=>?_) (fun hm=>hn (List.mem_cons_of_mem _ hm)) h2⟩
   ·rcases List.mem_cons.1 ((nM r xs).mem_iff.1 hy) with rfl | hy
    ·exact hl
    ·exact h1 y hy
   ·rcases List.mem_cons.1 hz with rfl | hz
    ·simp
    ·simp [hz]
  ·rename_i hl;have hne:r ≠ x:=fun e=>hn (by rw [e]; simp);have hrx:lt r x=true:=by
    rcases ho.total r hr x hx hne with h3 | h3
    ·exact h3
    ·exact absurd h3 hl
   refine List.pairwise_cons.2 ⟨fun y hy=>?_,h⟩;rcases List.mem_cons.1 hy with rfl | hy
   ·exact hrx
   ·exact ho.trans r hr x hx y (by simp [hy]) hrx (h1 y hy)
theorem CV:∀ (rs acc:List α),OrdO lt (rs ++ acc)→rs.Nodup→(∀ r ∈ rs,r ∉ acc)→LJ lt acc→LJ lt (rs.foldl (fun out r=>mW lt r out) acc)
 | [],acc,_,_,_,h=>h
 | r::rs,acc,ho,hd,hn,h=>by
  obtain ⟨hr,hd2⟩:=List.nodup_cons.1 hd;have hp:=nM (lt:=lt) r acc;refine CV rs (mW lt r acc) (ho.mono fun x hx=>?_) hd2 (fun x hx hm=>?_) (FR (ho.mono fun x hx=>?_) (hn r (by simp)) h)
  ·rcases List.mem_append.1 hx with hx | hx
   ·simp [hx]
   ·rcases List.mem_cons.1 (hp.mem_iff.1 hx) with rfl | hx
    ·simp
    ·simp [hx]
  ·rcases List.mem_cons.1 (hp.mem_iff.1 hm) with rfl | hm
   ·exact hr hx
   ·exact hn x (by simp [hx]) hm
  ·rcases List.mem_cons.1 hx with rfl | hx
   ·simp
   ·simp [hx]
theorem J4 {rs:List α} (ho:OrdO lt rs) (hd:rs.Nodup):LJ lt (iU lt rs):=CV rs [] (by simpa using ho) hd (fun _ _=>List.not_mem_nil) List.Pairwise.nil
theorem xe:∀ {xs ys:List α},OrdO lt xs→LJ lt xs→LJ lt ys→xs.Perm ys→xs=ys
 | [],ys,_,_,_,hp=>(List.Perm.nil_eq hp)
 | x::xs,[],_,_,_,hp=>absurd hp.length_eq (by simp)
 | x::xs,y::ys,ho,hx,hy,hp=>by
  obtain ⟨h1,h2⟩:=List.pairwise_cons.1 hx;obtain ⟨h3,h4⟩:=List.pairwise_cons.1 hy;have hyx:y ∈ x::xs:=hp.mem_iff.2 (by simp);have hxy:x ∈ y::ys:=hp.mem_iff.1 (by simp);have e:x=y:=by
   rcases List.mem_cons.1 hyx with e | hm
   ·exact e.symm
   ·rcases List.mem_cons.1 hxy with e | hm2
    ·exact e
    ·have a1:=h1 y hm;have a2:=h3 x hm2;rw [ho.asymm x (by simp) y hyx a1] at a2;cases a2
  subst e;rw [xe (ho.mono fun z hz=>List.mem_cons_of_mem _ hz) h2 h4 hp.cons_inv]
theorem J5 {rs qs:List α} (ho:OrdO lt rs) (hd:rs.Nodup) (h:LJ lt qs) (hp:qs.Perm rs):iU lt rs=qs :=
 xe (ho.mono fun x hx=>(iD rs).mem_iff.1 hx) (J4 ho hd) h ((iD rs).trans hp.symm)
end
end Go.Proofs.YtogjfppkbkgaeaaGreat
