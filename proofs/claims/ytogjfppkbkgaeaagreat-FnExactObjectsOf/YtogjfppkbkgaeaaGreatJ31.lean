/- The document's look whether schema and tuples are right data. -/
import Derived.Test.YtogjfppkbkgaeaaGreatSpecSchema11
import Derived.Test.YtogjfppkbkgaeaaGreatJ30
import Derived.Test.YtogjfppkbkgaeaaGreatJ19
import Derived.Test.YtogjfppkbkgaeaaGreatDataOf
import Derived.Test.YtogjfppkbkgaeaaGreatJ9
import Derived.Test.YtogjfppkbkgaeaaGreatJ27
import Derived.Test.YtogjfppkbkgaeaaGreatJ28
import Derived.Test.YtogjfppkbkgaeaaGreatJ10
import Derived.Test.YtogjfppkbkgaeaaGreatJ13
import Derived.Test.YtogjfppkbkgaeaaGreatJ5
namespace Go.Proofs.YtogjfppkbkgaeaaGreat
set_option linter.unusedVariables false
set_option maxRecDepth 100000
open Go.ChangeShapes Go.WideShapes Go.ChangeAt Go.RowKit Go.Maps
open Pl
def gH (rs:List TR) (t:Tp):Bool:=tV (af rs) t.a t.b t.r t.c t.d t.s
theorem Ic {rs:List TR} {t:Tp} (h:bP (af rs)=true) (ht:t.ok=true):tL (af rs) t.a t.r ⟨t.c,t.s⟩=gH rs t:=by
 have hSP:=bY.1 h;have h1:tL (af rs) t.a t.r ⟨t.c,t.s⟩=di (aM (aF (af rs) t.a t.r)) (aM (aF (af rs) t.a t.r)).length ⟨t.c,t.s⟩:=C9 _ (Lr hSP _ _);have h2:aU t.a t.b t.r t.c t.d t.s=true:=ht;rw [h1];unfold gH tV;rw [h2,Bool.and_true]
theorem Kg {p:Tp→Bool} {ts:List Tp} {k:Nat} (h:k < ts.length):(ts.drop k).all p=(p ts[k] && (ts.drop (k + 1)).all p):=by rw [List.drop_eq_getElem_cons h]; rfl
set_option maxHeartbeats 4000000 in
theorem Da (ad:Option Addr) (cap:Nat) (rs:List TR) (ad':Option Addr) (cap':Nat) (ts:List Tp) (w:World) (hlen:rs.length≤1048576) (hs:fo w ad rs) (hl:∀ r ∈ rs,r.light) (hfr:∀ r ∈ rs,r.fits) (hlt:ts.length≤1048576) (hst:Sl w ad' ts) (hft:∀ x ∈ ts,x.fits) :
  Calls Tryz.prog 35 #[.slice ad rs.length cap,.slice ad' ts.length cap'] w fun e w'=>e=.returned (.bool (aV (gH rs) rs ts))∧Below w.heap.size w w':=by
 have HS:=az hs;have HL:=az hl;have HFR:=az hfr;have HST:=az hst;have HFT:=az hft;have hml:ts.length≤maxLen:=by unfold maxLen; omega
 clear hs hl hfr hst hft;go_enter Tryz.func35,Tryz.ntmps35;go_wp2_with fail;refine (si ad cap rs _ hlen HS.out HL.out HFR.out).mono ?_;rintro e w1 ⟨he,hb1⟩;have HB1:=az hb1;clear hb1;cases h1:bP (af rs) with
 | false =>
  rw [h1] at he; subst he;have HN:Hid (aV (gH rs) rs ts=false):=by show _=_; unfold aV; rw [h1]; rfl
  clear h1;go_wp2;go_ret;exact ⟨by rw [HN.out]; rfl,HB1.out⟩
 | true =>
  rw [h1] at he; subst he;have H1:=az h1;clear h1;go_wp2_with fail;refine (rT ad' cap' ts _ hml (HST.out.below HB1.out) HFT.out).mono ?_;rintro e w2 ⟨he,hb2⟩;have HB2:=az (HB1.out.trans (hb2.mono HB1.out.size));clear hb2 HB1;cases h2:dY ts with
  | false =>
   rw [h2] at he; subst he;have HN:Hid (aV (gH rs) rs ts=false):=by show _=_; unfold aV; rw [h2,Bool.and_false]; rfl
   clear h2;go_wp2;go_ret;exact ⟨by rw [HN.out]; rfl,HB2.out⟩
  | true =>
   rw [h2] at he; subst he;have HN:Hid (aV (gH rs) rs ts=ts.all (gH rs)):=by show _=_; unfold aV; rw [H1.out,h2]; rfl
   clear h2 H1;go_wp2;go_loopw [5] (fun i wr=>∃ k:Nat,k≤ts.length∧i=.int .i64 k∧Hid ((ts.drop k).all (gH rs)=ts.all (gH rs))∧Hid (Below w.heap.size w wr)) (fun i _=>ts.length - (intOf i).toNat);case atStart=>exact ⟨0,Nat.zero_le _,rfl,rfl,HB2⟩
   case round =>
    clear HB2;obtain ⟨k,hk,rfl,HP,HB⟩:=hrel;by_cases hlt2:k < ts.length
    ·obtain ⟨b,off,hadr,⟨t0,t1,t2,t3,t4,t5⟩,hb⟩:=Sl.at0 (HST.out.below HB.out) hlt2;have hk1:(0:Int)≤(k:Int):=by omega
     have hk2:(k:Int) < (ts.length:Int):=by omega
     obtain ⟨f0,f1,f2,f3,f4,f5⟩:=HFT.out _ (List.getElem_mem hlt2);have HD:Hid (ts.all (gH rs)=(gH rs ts[k] && (ts.drop (k + 1)).all (gH rs))):=by show _=_; rw [← HP.out]; exact Kg hlt2
     obtain ⟨x,hx⟩:∃ x,x=ts[k]:=⟨_,rfl⟩;rw [← hx] at t0 t1 t2 t3 t4 t5 f0 f1 f2 f3 f4 f5 HD;have HLF:=az (Ff ad cap rs x.a x.b x.r x.c x.d x.s wr hlen (HS.out.below HB.out) HL.out f0 f1 f2 f3 f4 f5);subst hadr;clear hx;go_wp2_with fail;refine HLF.out.mono ?_;rintro e w3 ⟨he,hb3⟩;have HB3:=az (HB.out.trans (hb3.mono HB.out.size));clear hb3 HLF t0 t1 t2 t3 t4 t5;cases h5:tV (af rs) x.a x.b x.r x.c x.d x.s with
     | true =>
      rw [h5] at he; subst he;have HP2:Hid ((ts.drop (k + 1)).all (gH rs)=ts.all (gH rs)):=by show _=_; rw [HD.out]; unfold gH at *; rw [h5]; rfl
      clear h5;go_wp2;go_roundw;case rel=>exact ⟨k + 1,by omega,by go_num,HP2,HB3⟩
      case measure=>simp [intOf] <;> omega
     | false =>
      rw [h5] at he; subst he;have HN2:Hid (aV (gH rs) rs ts=false):=by show _=_; rw [HN.out,HD.out]; unfold gH at *; rw [h5]; rfl
      clear h5;go_wp2;go_ret;exact ⟨by rw [HN2.out]; rfl,HB3.out⟩
    ·have HN2:Hid (aV (gH rs) rs ts=true):=by show _=_; rw [HN.out,← HP.out,List.drop_of_length_le (by omega)]; rfl
     go_wp2;go_ret;exact ⟨by rw [HN2.out]; rfl,HB.out⟩
set_option linter.unusedSectionVars false
theorem sj {xs:List Al} {o x:Al} (h:x ∈ aK xs o):x ∈ xs ∨ x=o:=by
 unfold aK at h;split at h
 ·exact .inl h
 ·rcases List.mem_append.1 h with h | h
  ·exact .inl h
  ·exact .inr (by simpa using h)
theorem xz:∀ (ts:List Tp) (xs:List Al) (o:Al),o ∈ ts.foldl fO xs→o ∈ xs ∨ ∃ t ∈ ts,o=⟨t.a,t.b⟩ ∨ o=⟨t.c,t.d⟩
 | [],xs,o,h=>.inl h
 | t::ts,xs,o,h=>by
  rcases xz ts (fO xs t) o h with h | ⟨u,hu,h⟩
  ·unfold fO at h;rcases sj h with h | h
   ·rcases sj h with h | h
    ·exact .inl h
    ·exact .inr ⟨t,by simp,.inl h⟩
   ·exact .inr ⟨t,by simp,.inr h⟩
  ·exact .inr ⟨u,by simp [hu],h⟩
theorem xA:∀ (ts:List Tp) (xs:List Al) (o:Al),o ∈ ts.foldl bQ xs→o ∈ xs ∨ ∃ t ∈ ts,o=⟨t.a,t.b⟩ ∨ o=⟨t.c,t.d⟩
 | [],xs,o,h=>.inl h
 | t::ts,xs,o,h=>by
  rcases xA ts (bQ xs t) o h with h | ⟨u,hu,h⟩
  ·unfold bQ at h;split at h
   ·rcases sj h with h | h
    ·exact .inl h
    ·exact .inr ⟨t,by simp,.inr h⟩
   ·exact .inl h
  ·exact .inr ⟨u,by simp [hu],h⟩
theorem FY {ts:List Tp} (hf:∀ t ∈ ts,t.fits) {o:Al} (h:∃ t ∈ ts,o=⟨t.a,t.b⟩ ∨ o=⟨t.c,t.d⟩):o.t.size≤maxLen∧o.s.size≤maxLen:=by
 obtain ⟨t,ht,h⟩:=h;obtain ⟨h0,h1,h2,h3,h4,h5⟩:=hf t ht;rcases h with rfl | rfl
 ·exact ⟨h0,h1⟩
 ·exact ⟨h3,h4⟩
theorem lN {ts:List Tp} (hf:∀ t ∈ ts,t.fits):∀ o ∈ eY ts,o.t.size≤maxLen∧o.s.size≤maxLen:=fun o ho=>by
 rcases xz ts [] o ho with h | h
 ·cases h
 ·exact FY hf h
theorem jV {ts:List Tp} (hf:∀ t ∈ ts,t.fits):∀ o ∈ dh ts,o.t.size≤maxLen∧o.s.size≤maxLen:=fun o ho=>by
 rcases xA ts [] o ho with h | h
 ·cases h
 ·exact FY hf h
theorem Ba:∀ (E:List (KL × RR)) (m:Int),m≤E.foldl (fun m x=>max m (x.1.2 + 1)) m∧∀ x ∈ E,x.1.2 + 1≤E.foldl (fun m x=>max m (x.1.2 + 1)) m
 | [],m=>⟨Int.le_refl _,fun x hx=>by cases hx⟩
 | y::E,m=>by
  obtain ⟨h1,h2⟩:=Ba E (max m (y.1.2 + 1));simp only [List.foldl_cons];refine ⟨by omega,fun x hx=>?_⟩;rcases List.mem_cons.1 hx with rfl | hx
  ·omega
  ·exact h2 x hx
theorem FZ:∀ (E:List (KL × RR)) (m B:Int),m≤B→(∀ x ∈ E,x.1.2 + 1≤B)→E.foldl (fun m x=>max m (x.1.2 + 1)) m≤B
 | [],m,B,h,_=>h
 | y::E,m,B,h,hx=>FZ E _ B (Int.max_le.2 ⟨h,hx y (by simp)⟩) fun x h2=>hx x (by simp [h2])
theorem Lt {f:ByteArray × ByteArray→Int} {rs:List TR} {k:ByteArray × ByteArray} (hk:k ∈ ai (af rs)):∃ x ∈ dH f rs,x.1.2=f k:=by
 unfold ai at hk;obtain ⟨T,hT,hk⟩:=List.mem_flatMap.1 hk;obtain ⟨t,ht,rfl⟩:=List.mem_map.1 hT;unfold iB at hk;obtain ⟨r,hr,rfl⟩:=List.mem_map.1 hk;obtain ⟨q,hq,rfl⟩:=List.mem_map.1 hr;exact ⟨((t.name,f (t.name,q.name)),q),List.mem_flatMap.2 ⟨t,ht,List.mem_map.2 ⟨q,hq,rfl⟩⟩,rfl⟩
theorem MG {f:ByteArray × ByteArray→Int} {rs:List TR} {x:KL × RR} (hx:x ∈ dH f rs):∃ k ∈ ai (af rs),x.1.2=f k∧∃ t ∈ rs,∃ q ∈ t.rows,k=(t.name,q.name):=by
 unfold dH at hx;obtain ⟨t,ht,hx⟩:=List.mem_flatMap.1 hx;obtain ⟨q,hq,rfl⟩:=List.mem_map.1 hx;refine ⟨(t.name,q.name),?_,rfl,t,ht,q,hq,rfl⟩;unfold ai iB;exact List.mem_flatMap.2 ⟨t.p,List.mem_map.2 ⟨t,ht,rfl⟩,List.mem_map.2 ⟨q.p,List.mem_map.2 ⟨q,hq,rfl⟩,rfl⟩⟩
theorem su {rs:List TR} (hf:∀ r ∈ rs,r.fits):∀ k ∈ ai (af rs),k.2.size≤maxLen:=fun k hk=>by
 unfold ai at hk;obtain ⟨T,hT,hk⟩:=List.mem_flatMap.1 hk;obtain ⟨t,ht,rfl⟩:=List.mem_map.1 hT;unfold iB at hk;obtain ⟨r,hr,rfl⟩:=List.mem_map.1 hk;obtain ⟨q,hq,rfl⟩:=List.mem_map.1 hr;exact ((hf t ht).2.2 q hq).1
theorem Lu (f:ByteArray × ByteArray→Int) (rs:List TR):(dH f rs).length=(ai (af rs)).length:=by
 induction rs with
 | nil=>rfl
 | cons t rs ih =>
  have e1:ai (af (t::rs))=iB t.p ++ ai (af rs):=by simp [ai,af]
  have e2:dH f (t::rs)=(t.rows.map fun r=>((t.name,f (t.name,r.name)),r)) ++ dH f rs:=rfl;have e3:(iB t.p).length=t.rows.length:=by unfold iB; rw [List.length_map]; exact fI _
  rw [e1,e2,List.length_append,List.length_append,ih,e3,List.length_map]
section
variable [DecidableEq Fc]
def dV (st:ByteArray × ByteArray→Int) (rs:List TR) (ts:List Tp):List Fc:=if aV (gH rs) rs ts then lH st rs ts else []
theorem jI {st:ByteArray × ByteArray→Int} {rs:List TR} {ts:List Tp} (h:aV (gH rs) rs ts=true):dV st rs ts=lH st rs ts:=by unfold dV; rw [if_pos h]
theorem jv {st:ByteArray × ByteArray→Int} {rs:List TR} {ts:List Tp} (h:aV (gH rs) rs ts=false):dV st rs ts=[]:=by unfold dV; rw [if_neg (by rw [h]; decide)]
def Db (L0:List Fc) (w:World) (e:Ending) (w':World):Prop:=(∃ (L:List Fc) (v:Value),e=.returned v∧L.Perm L0∧L.Pairwise (fun x y=>Op.bytesLess (Bq y) (Bq x)=false)∧w'.ownsRow w.heap.size 47 5 v L.length (aB L))∧Below w.heap.size w w'
set_option maxHeartbeats 8000000 in
theorem yf (st:ByteArray × ByteArray→Int) (ad:Option Addr) (cap:Nat) (rs:List TR) (ad':Option Addr) (cap':Nat) (ts:List Tp) (w:World) (hlen:rs.length≤1048576) (hs:fo w ad rs) (hl:∀ r ∈ rs,r.light) (hfr:∀ r ∈ rs,r.fits) (hcp:∀ r ∈ rs,r.caps) (hlt:ts.length≤1048576) (hst:Sl w ad' ts) (hft:∀ x ∈ ts,x.fits) (hle:bP (af rs)=true→Least (af rs) st) :
  Calls Tryz.prog 12 #[.slice ad rs.length cap,.slice ad' ts.length cap'] w (Db (dV st rs ts) w):=by
 have HC:=az (EE (gH rs) ad cap rs ad' cap' ts w hlen hs hl hfr (A9 ad cap rs w hlen hs hl hfr hcp) (fun h t ht=>Ic h ht) hlt hst hft);have HS:=az hs;have HFT:=az hft;have HFR:=az hfr;have HLE:=az hle;clear hs hl hfr hcp hst hft hle;go_enter Tryz.func12,Tryz.ntmps12;go_wp2_with fail;refine HC.out.mono ?_;rintro e w1 ⟨hb1,⟨hr,rfl⟩ | ⟨hr,D,br,bp,bt,nr,np,Mr,Mp,vo,vu,f,rfl,hbt,hLf,hDA⟩⟩
 ·have HP:Hid (Db (dV st rs ts) w (.returned (.slice none 0 0)) w1):=⟨⟨[],_,rfl,by rw [jv hr],List.Pairwise.nil,World.ownsRow_nil _ _ _ _⟩,hb1⟩;clear hb1 HC hr;go_wp2;go_ret;exact HP.out
 ·have hsd:bP (af rs)=true∧ts.length≤40:=by
   unfold aV dY at hr;simp only [Bool.and_eq_true,decide_eq_true_eq] at hr;exact ⟨hr.1.1,hr.1.2.1⟩
  obtain ⟨hsd,ht40⟩:=hsd;have hSP:=bY.1 hsd;obtain ⟨h6,hr6,-⟩:=bi hSP.1;have hE36:=uL h6 hr6;have hfk:∀ k ∈ ai (af rs),f k + 1≤(ai (af rs)).length:=fun k hk=>by
   obtain ⟨g,hg,hb⟩:=hLf.sol.few (jy hSP.2.1);have h1:=hLf.low k hk g hg;have h2:=hb k hk;omega
  have hc0:0≤iw (dH f rs):=(Ba (dH f rs) 0).1;have hcl:iw (dH f rs)≤(ai (af rs)).length:=FZ _ _ _ (by omega) fun x hx=>by
   obtain ⟨k,hk,e,-⟩:=MG hx;rw [e]; exact hfk k hk
  obtain ⟨N,hN⟩:∃ N:Nat,iw (dH f rs)=N:=⟨(iw (dH f rs)).toNat,by omega⟩;have hkN:∀ k ∈ ai (af rs),f k < (N:Int):=fun k hk=>by
   obtain ⟨x,hx,e⟩:=Lt (f:=f) hk;have h2:=(Ba (dH f rs) 0).2 x hx;have h3:x.1.2 + 1≤iw (dH f rs):=h2;rw [e,hN] at h3;omega
  have hLs:jL (af rs) ts f (eY ts) (dh ts) N=dV st rs ts:=by
   rw [jI hr];unfold lH;rw [← rW (fun k hk=>hLf.same (HLE.out hsd) k hk)];exact (GG hkN _ (by omega)).symm
  rw [hN] at hDA;have HF1:=az (H5 w1 rs ad D br bp bt N nr Mr f ts (eY ts) (dh ts) np Mp vo vu hDA (HS.out.below hb1) (by omega) (by have:=kM ts; omega) (by have:=jF ts; omega) hE36 (fun k=>by
   have:(G.lookL (dH f rs) k).length≤(dH f rs).length:=List.length_filterMap_le _ _;rw [Lu] at this; omega) hSP.1 HFT.out (by omega) (lN HFT.out) (jV HFT.out) (su HFR.out))
  rw [hLs] at HF1;have hGO:=jH f rs ts (eY ts) (dh ts) N;rw [hLs] at hGO;have HB1:=az hb1;have hll:=hGO.len (by have:=kM ts; omega) hE36 (by have:=jF ts; omega);have HFF:Hid (∀ x ∈ dV st rs ts,x.fits):=fun x hx=>by
   have h1:=hGO.sub x hx;unfold AO at h1;obtain ⟨o,ho,h1⟩:=List.mem_flatMap.1 h1;obtain ⟨k,hk,h1⟩:=List.mem_flatMap.1 h1;obtain ⟨u,hu,rfl⟩:=List.mem_map.1 h1;exact ⟨(lN HFT.out o ho).1,(lN HFT.out o ho).2,su HFR.out k hk,(jV HFT.out u hu).1,(jV HFT.out u hu).2⟩
  obtain ⟨L0,hL0⟩:∃ L0,L0=dV st rs ts:=⟨_,rfl⟩;rw [← hL0] at HF1 hll HFF;have HL0:=az hL0;clear HC hb1 hDA hLf hfk hc0 hcl hN hkN hLs hGO hSP hsd h6 hr6 hE36 hr hbt hL0;go_wp2_with fail;refine HF1.out.mono ?_;rintro e w2 ⟨⟨v,rfl,hown⟩,hb2⟩;have HB2:=az (HB1.out.trans (hb2.mono HB1.out.size));have HO2:=az (qw hown HB1.out.size);clear HF1 hown hb2 HB1;cases L0 with
  | nil =>
   obtain ⟨adF,capF,rfl,-⟩:=mM HO2.out;have HSN:=az (H8 adF capF (.func (.func 43) #[] #[]) w2);have HP:Hid (Db [] w (.returned (.slice adF 0 capF)) w2):=⟨⟨[],_,rfl,List.Perm.refl _,List.Pairwise.nil,HO2.out⟩,HB2.out⟩;clear HO2 HB2;go_wp2_with fail;refine HSN.out.mono ?_;rintro e w3 ⟨rfl,rfl⟩;go_wp2;go_ret;rw [← HL0.out]; exact HP.out
  | cons x0 xs0 =>
   obtain ⟨L1,hL1⟩:∃ L1,L1=x0::xs0:=⟨_,rfl⟩;obtain ⟨g,capF,rfl⟩:=ownsRow_succ (k:=xs0.length) HO2.out;have hgl:=(HO2.out.lt g rfl).1;have HSF:=az (H7 w.heap.size g capF (x0::xs0) w2 HFF.out HO2.out (by simp) (by omega));rw [← hL1] at HSF;have hlL:xs0.length + 1=L1.length:=by rw [hL1]; rfl
   rw [← hL1] at HL0;rw [hlL];clear HO2 HFF hll hL1 hlL;go_wp2_with fail;refine HSF.out.mono ?_;rintro e w3 ⟨rfl,ys,hp,hso,hrow,hcg⟩;have HP:Hid (Db L1 w (.returned (.slice (some ⟨g,0,none⟩) L1.length capF)) w3):=⟨⟨ys,_,rfl,hp,hso,by rw [hp.length_eq]; exact hrow⟩,HB2.out.trans (hcg.below (fun k hk=>by rw [hk]; exact hgl) HB2.out.size)⟩;clear hp hso hrow hcg HB2 HSF;go_wp2;go_ret;rw [← HL0.out]; exact HP.out
end
def okF (x:Fc):Prop:=aU x.a x.b x.r x.c x.d ⟨#[]⟩=true
theorem Lv {a b:ByteArray} (h:a.toList=b.toList):a=b:=by
 rw [Go.ByteArray.toList_eq,Go.ByteArray.toList_eq] at h;cases a; cases b; congr; exact Array.toList_inj.1 h
theorem jW {x y:Fc} (hx:okF x) (hy:okF y):kH x y=Op.bytesLess (Bq x) (Bq y):=by
 unfold okF at hx hy;unfold kH dx Bq;rw [hx,hy];rfl
theorem F3 {x y:Fc} (hx:okF x) (hy:okF y) (h:Bq x=Bq y):x=y:=by
 obtain ⟨h1,h2,h3,h4,h5,-⟩:=tu hx hy (Lv h);cases x; cases y;simp only at h1 h2 h3 h4 h5;subst h1 h2 h3 h4 h5;rfl
theorem Ny {L:List Fc} (h:∀ x ∈ L,okF x):OrdO kH L where
 trans x hx y hy z hz h1 h2:=by
  rw [jW (h x hx) (h y hy)] at h1;rw [jW (h y hy) (h z hz)] at h2;rw [jW (h x hx) (h z hz)];exact Ls.lt_trans _ _ _ h1 h2
 asymm x hx y hy h1:=by
  rw [jW (h x hx) (h y hy)] at h1;rw [jW (h y hy) (h x hx)];exact Ls.lt_asymm _ _ h1
 total x hx y hy hne:=by
  rw [jW (h x hx) (h y hy),jW (h y hy) (h x hx)];exact Ls.lt_total _ _ fun e=>hne (F3 (h x hx) (h y hy) e)
theorem Lx {L L0:List Fc} (hp:L.Perm L0) (hn:L0.Nodup) (hok:∀ x ∈ L0,okF x) (hs:L.Pairwise (fun x y=>Op.bytesLess (Bq y) (Bq x)=false)):L=iW kH L0:=by
 refine (Jj (Ny hok) hn ?_ hp).symm;have hd:L.Nodup:=hp.nodup_iff.2 hn;refine (List.Pairwise.and hd hs).imp_of_mem fun {x y} hx hy h=>?_;have ox:=hok x (hp.mem_iff.1 hx);have oy:=hok y (hp.mem_iff.1 hy);rw [jW ox oy];rcases Ls.lt_total (Bq x) (Bq y) (fun e=>h.1 (F3 ox oy e)) with h1 | h1
 ·exact h1
 ·rw [h.2] at h1; cases h1
theorem LA {ts:List Tp} (h:dY ts=true):∀ t ∈ ts,t.ok=true:=fun t ht=>by
 unfold dY at h;have h:=(Bool.and_eq_true_iff.1 h).2;unfold qm at h;rw [List.all_eq_true] at h;obtain ⟨i,hi,rfl⟩:=List.mem_iff_getElem.1 ht;have h1:=h i (List.mem_range.2 hi);unfold ru at h1;rw [List.getElem?_eq_getElem hi] at h1;exact (Bool.and_eq_true_iff.1 h1).1
theorem L8 {ts:List Tp} (hf:∀ t ∈ ts,t.ok=true) {o:Al} (h:∃ t ∈ ts,o=⟨t.a,t.b⟩ ∨ o=⟨t.c,t.d⟩):dG o.t o.s=true:=by
 obtain ⟨t,ht,h⟩:=h;have h1:=hf t ht;unfold Tp.ok aU at h1;simp only [Bool.and_eq_true] at h1;rcases h with rfl | rfl
 ·exact h1.1.1.1
 ·exact h1.1.2
theorem LB {rs:List TR} (hs:aT (af rs)=true) {k:ByteArray × ByteArray} (hk:k ∈ ai (af rs)):aL k.2=true:=by
 unfold ai at hk;obtain ⟨T,hT,hk⟩:=List.mem_flatMap.1 hk;unfold iB at hk;obtain ⟨r,hr,rfl⟩:=List.mem_map.1 hk;exact (DI hs hT hr).1
section
variable [DecidableEq Fc]
theorem xB {st:ByteArray × ByteArray→Int} {rs:List TR} {ts:List Tp} {x:Fc} (hx:x ∈ dV st rs ts):∃ o ∈ eY ts,∃ k ∈ ai (af rs),∃ u ∈ dh ts,x=⟨o.t,o.s,k.2,u.t,u.s⟩:=by
 cases hr:aV (gH rs) rs ts with
 | false=>rw [jv hr] at hx; cases hx
 | true =>
  rw [jI hr] at hx;have h1:=(jH st rs ts (eY ts) (dh ts) _).sub x hx;unfold AO at h1;obtain ⟨o,ho,h1⟩:=List.mem_flatMap.1 h1;obtain ⟨k,hk,h1⟩:=List.mem_flatMap.1 h1;unfold iy at h1;obtain ⟨u,hu,rfl⟩:=List.mem_map.1 h1;exact ⟨o,ho,k,hk,u,hu,rfl⟩
theorem Dc {st:ByteArray × ByteArray→Int} {rs:List TR} {ts:List Tp}:(dV st rs ts).Nodup:=by
 cases hr:aV (gH rs) rs ts with
 | false=>rw [jv hr]; exact List.nodup_nil
 | true=>rw [jI hr]; exact (jH st rs ts (eY ts) (dh ts) _).once
theorem Ie {st:ByteArray × ByteArray→Int} {rs:List TR} {ts:List Tp}:∀ x ∈ dV st rs ts,okF x:=fun x hx=>by
 cases hr:aV (gH rs) rs ts with
 | false=>rw [jv hr] at hx; cases hx
 | true =>
  obtain ⟨o,ho,k,hk,u,hu,rfl⟩:=xB hx;unfold aV at hr;simp only [Bool.and_eq_true] at hr;have hts:=LA hr.1.2;have ho1:dG o.t o.s=true:=by
   rcases xz ts [] o ho with h | h
   ·cases h
   ·exact L8 hts h
  have hu1:dG u.t u.s=true:=by
   rcases xA ts [] u hu with h | h
   ·cases h
   ·exact L8 hts h
  have hn:=LB (bY.1 hr.1.1).1 hk;show aU o.t o.s k.2 u.t u.s ⟨#[]⟩=true;unfold aU;rw [ho1,hu1,hn];unfold p8;rw [Go.ByteArray.toList_eq];rfl
theorem De {st:ByteArray × ByteArray→Int} {rs:List TR} {ts:List Tp} (hfr:∀ r ∈ rs,r.fits) (hft:∀ x ∈ ts,x.fits):∀ x ∈ dV st rs ts,x.fits:=fun x hx=>by
 obtain ⟨o,ho,k,hk,u,hu,rfl⟩:=xB hx;have h1:=lN hft o ho;have h2:=jV hft u hu;exact ⟨h1.1,h1.2,su hfr k hk,h2.1,h2.2⟩
def dW (st:ByteArray × ByteArray→Int) (rs:List TR) (ts:List Tp):List Fc:=iW kH (dV st rs ts)
theorem pF (st:ByteArray × ByteArray→Int) (rs:List TR) (ts:List Tp):(dW st rs ts).length=(dV st rs ts).length:=(iG _).length_eq
theorem yg {st:ByteArray × ByteArray→Int} {rs:List TR} {ts:List Tp} {w:World} {e:Ending} {w':World} (h:Db (dV st rs ts) w e w'):(∃ v,e=.returned v∧w'.ownsRow w.heap.size 47 5 v (dW st rs ts).length (aB (dW st rs ts)))∧Below w.heap.size w w':=by
 obtain ⟨⟨L,v,he,hp,hs,hown⟩,hb⟩:=h;obtain rfl:=Lx hp Dc Ie hs;exact ⟨⟨v,he,hown⟩,hb⟩
end
end Go.Proofs.YtogjfppkbkgaeaaGreat
