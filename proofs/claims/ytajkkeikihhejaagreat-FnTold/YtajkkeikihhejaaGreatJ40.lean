/- The document's look whether schema and tuples are right data. -/
import Derived.Test.YtajkkeikihhejaaGreatSq
import Derived.Test.YtajkkeikihhejaaGreatJ39
import Derived.Sort.Grow
open Go.Proofs.Tryz
set_option maxHeartbeats 80000000
namespace Go.Proofs.YtajkkeikihhejaaGreat
set_option linter.unusedVariables false
set_option maxRecDepth 100000
open Go.ChangeShapes Go.WideShapes Go.ChangeAt Go.RowKit Go.Maps
open Pl
def gW (rs:List TR) (t:Tp):Bool:=sF (ae rs) t.a t.b t.r t.c t.d t.s
theorem wV {rs:List TR} {t:Tp} (h:aJ (ae rs)=true) (ht:t.ok=true):xX (ae rs) t.a t.r ⟨t.c,t.s⟩=gW rs t:=by
 have hSP:=aY.1 h;have h1:xX (ae rs) t.a t.r ⟨t.c,t.s⟩=dF (aU (aA (ae rs) t.a t.r)) (aU (aA (ae rs) t.a t.r)).length ⟨t.c,t.s⟩:=Gr _ (QF hSP _ _);have h2:bI t.a t.b t.r t.c t.d t.s=true:=ht;rw [h1];unfold gW sF;rw [h2,Bool.and_true]
theorem PR {p:Tp→Bool} {ts:List Tp} {k:Nat} (h:k < ts.length):(ts.drop k).all p=(p ts[k] && (ts.drop (k + 1)).all p):=by rw [Un h]; rfl
theorem yf (ad:Option Addr) (cap:Nat) (rs:List TR) (UJ:Option Addr) (cap':Nat) (ts:List Tp) (w:af) (hlen:rs.length≤1048576) (hs:kX w ad rs) (hl:∀ r ∈ rs,r.light) (hfr:∀ r ∈ rs,r.fits) (hlt:ts.length≤1048576) (hst:Sl w UJ ts) (hft:∀ x ∈ ts,x.fits) :
  Calls prog 55 #[.slice ad rs.length cap,.slice UJ ts.length cap'] w fun e w'=>e=.returned (.bool (aQ (gW rs) rs ts))∧ag w w':=by
 have HS:=aC hs;have HL:=aC hl;have WT:=aC hfr;have HST:=aC hst;have UL:=aC hft;have U6:ts.length≤maxLen:=by unfold maxLen; omega
 clear hs hl hfr hst hft;go_enter func55,ntmps55;go_wp2_with fail;refine (jV ad cap rs _ hlen HS.out HL.out WT.out).mono ?_;rintro e w1 ⟨he,hb1⟩;have HB1:=aC hb1;clear hb1;cases h1:aJ (ae rs);case false=>
  rw [h1] at he; subst he;have HN:Hid (aQ (gW rs) rs ts=false):=by show _=_; unfold aQ; rw [h1]; rfl
  clear h1;go_wp2;go_ret;exact ⟨by rw [HN.out]; rfl,HB1.out⟩
 rw [h1] at he; subst he;have H1:=aC h1;clear h1;go_wp2_with fail;refine (nX UJ cap' ts _ U6 (HST.out.below HB1.out) UL.out).mono ?_;rintro e w2 ⟨he,hb2⟩;have HB2:=aC (HB1.out.trans (hb2.mono HB1.out.size));clear hb2 HB1;cases h2:dJ ts;case false=>
  rw [h2] at he; subst he;have HN:Hid (aQ (gW rs) rs ts=false):=by show _=_; unfold aQ; rw [h2,Bool.and_false]; rfl
  clear h2;go_wp2;go_ret;exact ⟨by rw [HN.out]; rfl,HB2.out⟩
 rw [h2] at he; subst he;have HN:Hid (aQ (gW rs) rs ts=ts.all (gW rs)):=by show _=_; unfold aQ; rw [H1.out,h2]; rfl
 clear h2 H1;go_wp2;go_loopw [5] (fun i wr=>∃ k:Nat,k≤ts.length∧i=.int .i64 k∧Hid ((ts.drop k).all (gW rs)=ts.all (gW rs))∧Hid (ag w wr)) (fun i _=>ts.length - (intOf i).toNat);case atStart=>exact ⟨0,TW _,rfl,rfl,HB2⟩
 clear HB2;obtain ⟨k,hk,rfl,HP,HB⟩:=hrel;by_cases hlt2:k < ts.length
 ·obtain ⟨b,off,UF,⟨t0,t1,t2,t3,t4,t5⟩,hb⟩:=Sl.at0 (HST.out.below HB.out) hlt2;have hk1:=bB k;have hk2:(k:Int) < (ts.length:Int):=by omega
  obtain ⟨f0,f1,f2,f3,f4,f5⟩:=UL.out _ (TQ hlt2);have HD:Hid (ts.all (gW rs)=(gW rs ts[k] && (ts.drop (k + 1)).all (gW rs))):=by show _=_; rw [← HP.out]; exact PR hlt2
  obtain ⟨x,hx⟩:∃ x,x=ts[k]:=⟨_,rfl⟩;rw [← hx] at t0 t1 t2 t3 t4 t5 f0 f1 f2 f3 f4 f5 HD;have HLF:=aC (AL ad cap rs x.a x.b x.r x.c x.d x.s wr hlen (HS.out.below HB.out) HL.out f0 f1 f2 f3 f4 f5);subst UF;clear hx;go_wp2_with fail;refine HLF.out.mono ?_;rintro e w3 ⟨he,hb3⟩;have HB3:=aC (HB.out.trans (hb3.mono HB.out.size));clear hb3 HLF t0 t1 t2 t3 t4 t5;cases h5:sF (ae rs) x.a x.b x.r x.c x.d x.s;case true=>
   rw [h5] at he; subst he;have UI:Hid ((ts.drop (k + 1)).all (gW rs)=ts.all (gW rs)):=by show _=_; rw [HD.out]; unfold gW at *; rw [h5]; rfl
   clear h5;go_wp2;go_roundw;case rel=>exact ⟨k + 1,by omega,by go_num,UI,HB3⟩
   simp [intOf] <;> omega
  rw [h5] at he; subst he;have V9:Hid (aQ (gW rs) rs ts=false):=by show _=_; rw [HN.out,HD.out]; unfold gW at *; rw [h5]; rfl
  clear h5;go_wp2;go_ret;exact ⟨by rw [V9.out]; rfl,HB3.out⟩
 have V9:Hid (aQ (gW rs) rs ts=true):=by show _=_; rw [HN.out,← HP.out,List.drop_of_length_le (by omega)]; rfl
 go_wp2;go_ret;exact ⟨by rw [V9.out]; rfl,HB.out⟩
set_option linter.unusedSectionVars false
theorem wW {xs:List Al} {o x:Al} (h:x ∈ aZ xs o):x ∈ xs ∨ x=o:=by
 unfold aZ at h;split at h
 ·exact .inl h
 rcases Uc.1 h with h | h
 ·exact .inl h
 exact .inr (by simpa using h)
theorem Bf:∀ (ts:List Tp) (xs:List Al) (o:Al),o ∈ ts.foldl fP xs→o ∈ xs ∨ ∃ t ∈ ts,o=⟨t.a,t.b⟩ ∨ o=⟨t.c,t.d⟩
 | [],xs,o,h=>.inl h
 | t::ts,xs,o,h=>by
  rcases Bf ts (fP xs t) o h with h | ⟨u,hu,h⟩
  ·unfold fP at h;rcases wW h with h | h
   ·rcases wW h with h | h
    ·exact .inl h
    exact .inr ⟨t,by simp,.inl h⟩
   exact .inr ⟨t,by simp,.inr h⟩
  exact .inr ⟨u,by simp [hu],h⟩
theorem Bg:∀ (ts:List Tp) (xs:List Al) (o:Al),o ∈ ts.foldl cu xs→o ∈ xs ∨ ∃ t ∈ ts,o=⟨t.a,t.b⟩ ∨ o=⟨t.c,t.d⟩
 | [],xs,o,h=>.inl h
 | t::ts,xs,o,h=>by
  rcases Bg ts (cu xs t) o h with h | ⟨u,hu,h⟩
  ·unfold cu at h;split at h
   ·rcases wW h with h | h
    ·exact .inl h
    exact .inr ⟨t,by simp,.inr h⟩
   exact .inl h
  exact .inr ⟨u,by simp [hu],h⟩
theorem KA {ts:List Tp} (hf:∀ t ∈ ts,t.fits) {o:Al} (h:∃ t ∈ ts,o=⟨t.a,t.b⟩ ∨ o=⟨t.c,t.d⟩):o.t.size≤maxLen∧o.s.size≤maxLen:=by
 obtain ⟨t,ht,h⟩:=h;obtain ⟨h0,h1,h2,h3,h4,h5⟩:=hf t ht;rcases h with rfl | rfl
 ·exact ⟨h0,h1⟩
 exact ⟨h3,h4⟩
theorem pG {ts:List Tp} (hf:∀ t ∈ ts,t.fits):∀ o ∈ eD ts,o.t.size≤maxLen∧o.s.size≤maxLen:=fun o ho=>by
 rcases Bf ts [] o ho with h | h
 ·cases h
 exact KA hf h
theorem nu {ts:List Tp} (hf:∀ t ∈ ts,t.fits):∀ o ∈ cZ ts,o.t.size≤maxLen∧o.s.size≤maxLen:=fun o ho=>by
 rcases Bg ts [] o ho with h | h
 ·cases h
 exact KA hf h
theorem E8:∀ (E:List (KL × RR)) (m:Int),m≤E.foldl (fun m x=>max m (x.1.2 + 1)) m∧∀ x ∈ E,x.1.2 + 1≤E.foldl (fun m x=>max m (x.1.2 + 1)) m
 | [],m=>⟨Int.le_refl _,fun x hx=>by cases hx⟩
 | y::E,m=>by
  obtain ⟨h1,h2⟩:=E8 E (max m (y.1.2 + 1));simp only [List.foldl_cons];refine ⟨by omega,fun x hx=>?_⟩;rcases List.mem_cons.1 hx with rfl | hx
  ·omega
  exact h2 x hx
theorem KC:∀ (E:List (KL × RR)) (m B:Int),m≤B→(∀ x ∈ E,x.1.2 + 1≤B)→E.foldl (fun m x=>max m (x.1.2 + 1)) m≤B
 | [],m,B,h,_=>h
 | y::E,m,B,h,hx=>KC E _ B (Int.max_le.2 ⟨h,hx y (by simp)⟩) fun x h2=>hx x (by simp [h2])
theorem Q4 {f:ByteArray × ByteArray→Int} {rs:List TR} {k:ByteArray × ByteArray} (hk:k ∈ au (ae rs)):∃ x ∈ eY f rs,x.1.2=f k:=by
 unfold au at hk;obtain ⟨T,hT,hk⟩:=Uf.1 hk;obtain ⟨t,ht,rfl⟩:=Ue.1 hT;unfold jE at hk;obtain ⟨r,hr,rfl⟩:=Ue.1 hk;obtain ⟨q,hq,rfl⟩:=Ue.1 hr;exact ⟨((t.name,f (t.name,q.name)),q),Uf.2 ⟨t,ht,Ue.2 ⟨q,hq,rfl⟩⟩,rfl⟩
theorem SN {f:ByteArray × ByteArray→Int} {rs:List TR} {x:KL × RR} (hx:x ∈ eY f rs):∃ k ∈ au (ae rs),x.1.2=f k∧∃ t ∈ rs,∃ q ∈ t.rows,k=(t.name,q.name):=by
 unfold eY at hx;obtain ⟨t,ht,hx⟩:=Uf.1 hx;obtain ⟨q,hq,rfl⟩:=Ue.1 hx;refine ⟨(t.name,q.name),?_,rfl,t,ht,q,hq,rfl⟩;unfold au jE;exact Uf.2 ⟨t.p,Ue.2 ⟨t,ht,rfl⟩,Ue.2 ⟨q.p,Ue.2 ⟨q,hq,rfl⟩,rfl⟩⟩
theorem wX {rs:List TR} (hf:∀ r ∈ rs,r.fits):∀ k ∈ au (ae rs),k.2.size≤maxLen:=fun k hk=>by
 unfold au at hk;obtain ⟨T,hT,hk⟩:=Uf.1 hk;obtain ⟨t,ht,rfl⟩:=Ue.1 hT;unfold jE at hk;obtain ⟨r,hr,rfl⟩:=Ue.1 hk;obtain ⟨q,hq,rfl⟩:=Ue.1 hr;exact ((hf t ht).2.2 q hq).1
theorem Q5 (f:ByteArray × ByteArray→Int) (rs:List TR):(eY f rs).length=(au (ae rs)).length:=by
 induction rs with
 | nil=>rfl
 | cons t rs ih =>
  have e1:au (ae (t::rs))=jE t.p ++ au (ae rs):=by simp [au,ae]
  have e2:eY f (t::rs)=(t.rows.map fun r=>((t.name,f (t.name,r.name)),r)) ++ eY f rs:=rfl;have e3:(jE t.p).length=t.rows.length:=by unfold jE; rw [Uy]; exact q9 _
  rw [e1,e2,T9,T9,ih,e3,Uy]
theorem PS {w W w':af} {n:Nat} {x0 x1 x2 x3 x4:Value} (h:W.cell? ⟨n,0,none⟩=some x0∧W.cell? ⟨n,1,none⟩=some x1∧W.cell? ⟨n,2,none⟩=some x2∧W.cell? ⟨n,3,none⟩=some x3∧W.cell? ⟨n,4,none⟩=some x4∧ag w W) (hb:ag W w'):w'.cell? ⟨n,0,none⟩=some x0∧w'.cell? ⟨n,1,none⟩=some x1∧w'.cell? ⟨n,2,none⟩=some x2∧w'.cell? ⟨n,3,none⟩=some x3∧w'.cell? ⟨n,4,none⟩=some x4∧ag w w':=by
 obtain ⟨h0,h1,h2,h3,h4,hB⟩:=h;exact ⟨bi hb (aF h0) h0,bi hb (aF h1) h1,bi hb (aF h2) h2,bi hb (aF h3) h3,bi hb (aF h4) h4,hB.trans (hb.mono hB.size)⟩
section
variable [DecidableEq Fc]
def bC (st:ByteArray × ByteArray→Int) (rs:List TR) (ts:List Tp):List Fc:=if aQ (gW rs) rs ts then qU st rs ts else []
theorem iw {st:ByteArray × ByteArray→Int} {rs:List TR} {ts:List Tp} (h:aQ (gW rs) rs ts=true):bC st rs ts=qU st rs ts:=by unfold bC; rw [if_pos h]
theorem jo {st:ByteArray × ByteArray→Int} {rs:List TR} {ts:List Tp} (h:aQ (gW rs) rs ts=false):bC st rs ts=[]:=by unfold bC; rw [if_neg (by rw [h]; decide)]
theorem pI (st:ByteArray × ByteArray→Int) {rs:List TR} {ts:List Tp}:(bC st rs ts).length≤115200:=by
 cases hr:aQ (gW rs) rs ts;case false=>rw [jo hr]; simp
 rw [iw hr];have hsd:aJ (ae rs)=true∧ts.length≤40:=by
  unfold aQ dJ at hr;simp only [TU,Ud] at hr;exact ⟨hr.1.1,hr.1.2.1⟩
 obtain ⟨h6,Wh,-⟩:=bq (aY.1 hsd.1).1;exact (kG st rs ts (eD ts) (cZ ts) _).len (by have:=oq ts; omega) (yN h6 Wh) (by have:=mF ts; omega)
end
end Go.Proofs.YtajkkeikihhejaaGreat
namespace Go.Proofs.YtajkkeikihhejaaGreat
open Go.ChangeShapes Go.WideShapes Go.ChangeAt Go.RowKit
open Pl
attribute [local go_sem ↓] Go.wp_at_zero Go.wp_at_succ
structure BelowD (B:Nat) (w w':World):Prop where
 b:Below B w w'
 d:w.drawn≤w'.drawn
theorem BelowD.size {B:Nat} {w w':af} (h:BelowD B w w'):w.heap.size≤w'.heap.size:=h.b.size
theorem BelowD.refl (B:Nat) (w:af):BelowD B w w:=⟨TT B w,TS _⟩
theorem BelowD.trans {B:Nat} {a b c:af} (h:BelowD B a b) (k:BelowD B b c):BelowD B a c:=⟨h.b.trans k.b,TZ h.d k.d⟩
theorem BelowD.mono {B B':Nat} {w w':af} (h:BelowD B w w') (hB:B'≤B):BelowD B' w w':=⟨h.b.mono hB,h.d⟩
theorem BelowD.drew {B:Nat} {a w:af} (h:BelowD B a w):BelowD B a w.drew:=⟨h.b.drew,TZ h.d (Nat.le_succ _)⟩
theorem BelowD.alloc {B:Nat} {a w:af} (h:BelowD B a w) (hB:B≤w.heap.size) (o:Obj):BelowD B a (w.alloc o):=⟨h.b.alloc hB o,h.d⟩
theorem BelowD.cell {B:Nat} {w w':af} (h:BelowD B w w') {p:Addr} (hp:p.block < B):w'.cell? p=w.cell? p:=h.b.cell hp
theorem BelowD.frozen {B:Nat} {w w':af} (h:BelowD B w w') {p:Addr} (hp:p.block < B):w'.frozen? p=w.frozen? p:=h.b.frozen hp
theorem BelowD.grew {w w':af} (h:BelowD w.heap.size w w'):∃ q os,w'=Go.Sort.grow (w.drewN q) os:=by
 obtain ⟨⟨h1,h2,h3,h4,h5⟩,h6⟩:=h;refine ⟨w'.drawn - w.drawn,w'.heap.extract w.heap.size w'.heap.size,?_⟩;obtain ⟨hp,tp,dr,os,ou⟩:=w';simp only at h1 h2 h3 h4 h5 h6;subst h1 h2 h3;simp only [Go.Sort.grow,World.drewN,World.mk.injEq,true_and,and_true];refine ⟨?_,by omega⟩;apply Array.ext
 ·simp; omega
 intro i hi hj;by_cases hlt:i < w.heap.size
 ·have:=h5 i hlt;rw [Uv hi,Uv hlt] at this;injection this with this;rw [this,Array.getElem_append_left hlt]
 rw [Array.getElem_append_right (by omega)];simp;congr 1;omega
theorem tX {W w1:af} (hb:BelowD W.heap.size W w1):(∀ b o,b < W.heap.size→w1.cell? ⟨b,o,none⟩=W.cell? ⟨b,o,none⟩)∧(∀ b o,b < W.heap.size→w1.frozen? ⟨b,o,none⟩=W.frozen? ⟨b,o,none⟩) :=
 ⟨fun b o h=>hb.cell (p:=⟨b,o,none⟩) h,fun b o h=>hb.frozen (p:=⟨b,o,none⟩) h⟩
theorem fD (t i:bH) (w:af) (ht:t.size≤maxLen) (hi:i.size≤maxLen) :
  Calls prog 161 #[.agg #[.string t,.string i]] w fun e w'=>e=.returned (.bool (eT t i))∧BelowD w.heap.size w w':=by
 by_cases hn:aP t=true
 all_goals
  go_enter func161,ntmps161;go_wp2_with (first | (go_at_call 162; refine (aL _ _ ht).mono ?_; rintro e w' ⟨rfl,rfl⟩) | (go_at_call 208; refine (Ae _ _ hi).mono ?_; rintro e w' ⟨rfl,rfl⟩));go_ret;exact ⟨ah (by simp [eT,hn]),(BelowD.refl _ _).alloc (TS _) _⟩
theorem wY (t i:bH) (w:af) (ht:t.size≤maxLen) (hi:i.size≤maxLen) :
  Calls prog 207 #[.agg #[.string t,.string i]] w fun e w'=>e=.returned (.string (aB t i))∧BelowD w.heap.size w w':=by
 by_cases hn:eT t i=true
 ·obtain ⟨h1,h2⟩:=yJ hn;have HT:Hid (aB t i=t ++ ⟨#[58]⟩ ++ i):=mP hn;go_enter func207,ntmps207;go_wp2_with (go_at_call 161; refine (fD _ _ _ ht hi).mono ?_; rintro e w' ⟨rfl,hb⟩; obtain ⟨hc,hf⟩:=tX hb);go_ret;exact ⟨gu HT.out.symm,((BelowD.refl _ _).alloc (TS _) _).trans (hb.mono (by simp))⟩
 have hn':eT t i=false:=by simpa using hn
 have HT:Hid (aB t i=⟨#[]⟩):=tq hn';clear hn;go_enter func207,ntmps207;go_wp2_with (go_at_call 161; refine (fD _ _ _ ht hi).mono ?_; rintro e w' ⟨rfl,hb⟩; obtain ⟨hc,hf⟩:=tX hb);go_ret;exact ⟨gu HT.out.symm,((BelowD.refl _ _).alloc (TS _) _).trans (hb.mono (by simp))⟩
theorem vQ (a b r c d s:bH) (w:af) (ha:a.size≤maxLen) (hb:b.size≤maxLen) (hr:r.size≤maxLen) (hc:c.size≤maxLen) (hd:d.size≤maxLen) (hs:s.size≤maxLen) :
  Calls prog 108 #[.agg #[.string a,.string b,.string r,.string c,.string d,.string s]] w fun e w'=>e=.returned (.bool (bI a b r c d s))∧BelowD w.heap.size w w':=by
 by_cases h1:eT a b=true
 ·by_cases h2:aP r=true
  ·by_cases h3:eT c d=true
   ·have HT:Hid (bI a b r c d s=uK s):=zP h1 h2 h3;go_enter func108,ntmps108;go_wp2_with fail;refine (fD _ _ _ ha hb).mono ?_;rintro e w1 ⟨rfl,hb1⟩;obtain ⟨hc1,hf1⟩:=tX hb1;have hz1:w.heap.size < w1.heap.size:=by have:=hb1.size; simp at this; omega
    go_wp2_with fail;refine (aL _ _ hr).mono ?_;rintro e w1' ⟨rfl,rfl⟩;go_wp2_with fail;refine (fD _ _ _ hc hd).mono ?_;rintro e w2 ⟨rfl,hb2⟩;obtain ⟨hc2,hf2⟩:=tX hb2;have hz2:w.heap.size < w2.heap.size:=by have:=hb2.size; omega
    go_wp2_with (go_at_call 163; refine (CU _ _ hs).mono ?_; rintro e w3 ⟨rfl,rfl⟩)
    all_goals go_ret
    all_goals exact ⟨ah (HT.out.trans (by simp [uK, *])).symm,((BelowD.refl _ _).alloc (TS _) _).trans ((hb1.mono (by simp)).trans (hb2.mono (by omega)))⟩
   have h3':eT c d=false:=by simpa using h3
   have HT:Hid (bI a b r c d s=false):=zM h3';clear h3;go_enter func108,ntmps108;go_wp2_with fail;refine (fD _ _ _ ha hb).mono ?_;rintro e w1 ⟨rfl,hb1⟩;obtain ⟨hc1,hf1⟩:=tX hb1;have hz1:w.heap.size < w1.heap.size:=by have:=hb1.size; simp at this; omega
   go_wp2_with fail;refine (aL _ _ hr).mono ?_;rintro e w1' ⟨rfl,rfl⟩;go_wp2_with fail;refine (fD _ _ _ hc hd).mono ?_;rintro e w2 ⟨rfl,hb2⟩;go_wp2;go_ret;exact ⟨ah HT.out.symm,((BelowD.refl _ _).alloc (TS _) _).trans ((hb1.mono (by simp)).trans (hb2.mono (by omega)))⟩
  have h2':aP r=false:=by simpa using h2
  have HT:Hid (bI a b r c d s=false):=zL h2';clear h2;go_enter func108,ntmps108;go_wp2_with fail;refine (fD _ _ _ ha hb).mono ?_;rintro e w1 ⟨rfl,hb1⟩;obtain ⟨hc1,hf1⟩:=tX hb1;go_wp2_with fail;refine (aL _ _ hr).mono ?_;rintro e w1' ⟨rfl,rfl⟩;go_wp2;go_ret;exact ⟨ah HT.out.symm,((BelowD.refl _ _).alloc (TS _) _).trans (hb1.mono (by simp))⟩
 have h1':eT a b=false:=by simpa using h1
 have HT:Hid (bI a b r c d s=false):=zJ h1';clear h1;go_enter func108,ntmps108;go_wp2_with fail;refine (fD _ _ _ ha hb).mono ?_;rintro e w1 ⟨rfl,hb1⟩;go_wp2;go_ret;exact ⟨ah HT.out.symm,((BelowD.refl _ _).alloc (TS _) _).trans (hb1.mono (by simp))⟩
theorem SQ {w W w':af} {n:Nat} {x0 x1 x2 x3 x4 x5:Value} (h:W.cell? ⟨n,0,none⟩=some x0∧W.cell? ⟨n,1,none⟩=some x1∧W.cell? ⟨n,2,none⟩=some x2∧W.cell? ⟨n,3,none⟩=some x3∧W.cell? ⟨n,4,none⟩=some x4∧W.cell? ⟨n,5,none⟩=some x5∧n < W.heap.size∧BelowD n w W) (hb:BelowD W.heap.size W w'):w'.cell? ⟨n,0,none⟩=some x0∧w'.cell? ⟨n,1,none⟩=some x1∧w'.cell? ⟨n,2,none⟩=some x2∧w'.cell? ⟨n,3,none⟩=some x3∧w'.cell? ⟨n,4,none⟩=some x4∧w'.cell? ⟨n,5,none⟩=some x5∧n < w'.heap.size∧BelowD n w w':=by
 obtain ⟨h0,h1,h2,h3,h4,h5,hn,hB⟩:=h;have hc:∀ o,w'.cell? ⟨n,o,none⟩=W.cell? ⟨n,o,none⟩:=fun o=>hb.cell (p:=⟨n,o,none⟩) hn;refine ⟨by rw [hc]; exact h0,by rw [hc]; exact h1,by rw [hc]; exact h2,by rw [hc]; exact h3,by rw [hc]; exact h4,by rw [hc]; exact h5,TP hn hb.size,hB.trans (hb.mono (Nat.le_of_lt hn))⟩
theorem wZ (a b r c d s:bH) (w:af) (ha:a.size≤maxLen) (hb:b.size≤maxLen) (hr:r.size≤maxLen) (hc:c.size≤maxLen) (hd:d.size≤maxLen) (hs:s.size≤maxLen) :
  Calls prog 160 #[.agg #[.string a,.string b,.string r,.string c,.string d,.string s]] w fun e w'=>e=.returned (.string (aX a b r c d s))∧BelowD w.heap.size w w':=by
 by_cases hn:bI a b r c d s=true
 ·obtain ⟨h1,h2,h3,h4⟩:=jU hn;have hx:=iD a b;have hy:=iD c d;have VE:=(nW h2).2;have hs12:=Ep h4;clear h1 h2 h3 h4;go_enter func160,ntmps160;go_wp2_with fail;refine (vQ _ _ _ _ _ _ _ ha hb hr hc hd hs).mono ?_;rintro e w1 ⟨rfl,hb1⟩;obtain ⟨hc1,hf1⟩:=tX hb1;have hz1:w.heap.size < w1.heap.size:=by have:=hb1.size; simp at this; omega
  have k:∀ o v,(w.alloc (.cells #[.string a,.string b,.string r,.string c,.string d,.string s] 46)).cell? ⟨w.heap.size,o,none⟩=some v→w1.cell? ⟨w.heap.size,o,none⟩=some v:=fun o v h=>by rw [hc1 _ _ (by simp)]; exact h
  have k0:=k 0 (.string a) (by simp);have k1:=k 1 (.string b) (by simp);have k2:=k 2 (.string r) (by simp);have k3:=k 3 (.string c) (by simp);have k4:=k 4 (.string d) (by simp);have k5:=k 5 (.string s) (by simp);have HB1:BelowD w.heap.size w w1:=((BelowD.refl _ _).alloc (TS _) _).trans (hb1.mono (by simp));clear k hb1 hc1 hf1;have q1:(9223372036854775807 < (aB a b).size + 1)=False:=by simp; omega
  have q2:(9223372036854775807 < (aB a b).size + 1 + r.size)=False:=by simp; omega
  have q3:(9223372036854775807 < (aB a b).size + 1 + r.size + 1)=False:=by simp; omega
  have q4:(9223372036854775807 < (aB a b).size + 1 + r.size + 1 + (aB c d).size)=False:=by simp; omega
  go_wp2_with fail
  go_region_held3 (fun w'=>w'.cell? ⟨w.heap.size,0,none⟩=some (.string a)∧w'.cell? ⟨w.heap.size,1,none⟩=some (.string b)∧w'.cell? ⟨w.heap.size,2,none⟩=some (.string r)∧w'.cell? ⟨w.heap.size,3,none⟩=some (.string c)∧w'.cell? ⟨w.heap.size,4,none⟩=some (.string d)∧w'.cell? ⟨w.heap.size,5,none⟩=some (.string s)∧w.heap.size < w'.heap.size∧BelowD w.heap.size w w')
   (first | exact SQ (by assumption) hbx | exact ⟨k0,k1,k2,k3,k4,k5,hz1,HB1.drew⟩)
   (first | (go_at_call 207; refine (wY _ _ _ (by assumption) (by assumption)).mono ?_; rintro e w' ⟨rfl,hbx⟩))
  rename_i hH;obtain ⟨g0,g1,g2,g3,g4,g5,gz,gB⟩:=hH;clear k0 k1 k2 k3 k4 k5 hbx q1 q2 q3 q4 HB1;by_cases he:s.toList.isEmpty=true
  ·have HT:Hid (aX a b r c d s=_):=mQ hn he;go_wp2;go_ret;exact ⟨gu HT.out.symm,gB⟩
  have he':s.toList.isEmpty=false:=by simpa using he
  have HT:Hid (aX a b r c d s=_):=mR hn he';clear he;go_wp2;go_ret;exact ⟨gu (HT.out.trans (by simp only [ByteArray.append_assoc])).symm,gB⟩
 have hn':bI a b r c d s=false:=by simpa using hn
 have HT:Hid (aX a b r c d s=⟨#[]⟩):=tC hn';clear hn;go_enter func160,ntmps160;go_wp2_with fail;refine (vQ _ _ _ _ _ _ _ ha hb hr hc hd hs).mono ?_;rintro e w1 ⟨rfl,hb1⟩;go_wp2;go_ret;exact ⟨gu HT.out.symm,((BelowD.refl _ _).alloc (TS _) _).trans (hb1.mono (by simp))⟩
theorem Q6 {w W w':af} {n m k:Nat} {x0 x1 x2 x3 x4 x5 y0 y1 y2 y3 y4 y5:Value} (hk:k≤n) (h:W.cell? ⟨n,0,none⟩=some x0∧W.cell? ⟨n,1,none⟩=some x1∧W.cell? ⟨n,2,none⟩=some x2∧W.cell? ⟨n,3,none⟩=some x3∧W.cell? ⟨n,4,none⟩=some x4∧W.cell? ⟨n,5,none⟩=some x5∧W.cell? ⟨m,0,none⟩=some y0∧W.cell? ⟨m,1,none⟩=some y1∧W.cell? ⟨m,2,none⟩=some y2∧W.cell? ⟨m,3,none⟩=some y3∧W.cell? ⟨m,4,none⟩=some y4∧W.cell? ⟨m,5,none⟩=some y5∧n < W.heap.size∧m < W.heap.size∧BelowD k w W) (hb:BelowD W.heap.size W w'):w'.cell? ⟨n,0,none⟩=some x0∧w'.cell? ⟨n,1,none⟩=some x1∧w'.cell? ⟨n,2,none⟩=some x2∧w'.cell? ⟨n,3,none⟩=some x3∧w'.cell? ⟨n,4,none⟩=some x4∧w'.cell? ⟨n,5,none⟩=some x5∧w'.cell? ⟨m,0,none⟩=some y0∧w'.cell? ⟨m,1,none⟩=some y1∧w'.cell? ⟨m,2,none⟩=some y2∧w'.cell? ⟨m,3,none⟩=some y3∧w'.cell? ⟨m,4,none⟩=some y4∧w'.cell? ⟨m,5,none⟩=some y5∧n < w'.heap.size∧m < w'.heap.size∧BelowD k w w':=by
 obtain ⟨h0,h1,h2,h3,h4,h5,h6,h7,h8,h9,h10,h11,hn,hm,hB⟩:=h;have hc:∀ o,w'.cell? ⟨n,o,none⟩=W.cell? ⟨n,o,none⟩:=fun o=>hb.cell (p:=⟨n,o,none⟩) hn;have hd:∀ o,w'.cell? ⟨m,o,none⟩=W.cell? ⟨m,o,none⟩:=fun o=>hb.cell (p:=⟨m,o,none⟩) hm;exact ⟨by rw [hc]; exact h0,by rw [hc]; exact h1,by rw [hc]; exact h2,by rw [hc]; exact h3,by rw [hc]; exact h4,by rw [hc]; exact h5,by rw [hd]; exact h6,by rw [hd]; exact h7,by rw [hd]; exact h8,by rw [hd]; exact h9,by rw [hd]; exact h10,by rw [hd]; exact h11,TP hn hb.size,TP hm hb.size,hB.trans (hb.mono (by omega))⟩
theorem KD (w:af) (o1 o2:Obj):BelowD w.heap.size w ((w.alloc o1).alloc o2) :=
 ((BelowD.refl _ _).alloc (TS _) _).alloc (by simp) _
theorem tY (a b r c d s a' b' r' c' d' s':bH) (w:af) (ha:a.size≤maxLen) (hb:b.size≤maxLen) (hr:r.size≤maxLen) (hc:c.size≤maxLen) (hd:d.size≤maxLen) (hs:s.size≤maxLen) (ga:a'.size≤maxLen) (gb:b'.size≤maxLen) (gr:r'.size≤maxLen) (gc:c'.size≤maxLen) (gd:d'.size≤maxLen) (gs:s'.size≤maxLen) :
  Calls prog 106 #[.agg #[.string a,.string b,.string r,.string c,.string d,.string s],.agg #[.string a',.string b',.string r',.string c',.string d',.string s']] w fun e w'=>e=.returned (.int .i64 (I4 a b r c d s a' b' r' c' d' s'))∧BelowD w.heap.size w w':=by
 have H0:((w.alloc (.cells #[.string a,.string b,.string r,.string c,.string d,.string s] 46)).alloc (.cells #[.string a',.string b',.string r',.string c',.string d',.string s'] 46)).drew.cell? ⟨w.heap.size,0,none⟩=some (.string a)∧((w.alloc (.cells #[.string a,.string b,.string r,.string c,.string d,.string s] 46)).alloc (.cells #[.string a',.string b',.string r',.string c',.string d',.string s'] 46)).drew.cell? ⟨w.heap.size,1,none⟩=some (.string b)∧((w.alloc (.cells #[.string a,.string b,.string r,.string c,.string d,.string s] 46)).alloc (.cells #[.string a',.string b',.string r',.string c',.string d',.string s'] 46)).drew.cell? ⟨w.heap.size,2,none⟩=some (.string r)∧((w.alloc (.cells #[.string a,.string b,.string r,.string c,.string d,.string s] 46)).alloc (.cells #[.string a',.string b',.string r',.string c',.string d',.string s'] 46)).drew.cell? ⟨w.heap.size,3,none⟩=some (.string c)∧((w.alloc (.cells #[.string a,.string b,.string r,.string c,.string d,.string s] 46)).alloc (.cells #[.string a',.string b',.string r',.string c',.string d',.string s'] 46)).drew.cell? ⟨w.heap.size,4,none⟩=some (.string d)∧((w.alloc (.cells #[.string a,.string b,.string r,.string c,.string d,.string s] 46)).alloc (.cells #[.string a',.string b',.string r',.string c',.string d',.string s'] 46)).drew.cell? ⟨w.heap.size,5,none⟩=some (.string s)∧((w.alloc (.cells #[.string a,.string b,.string r,.string c,.string d,.string s] 46)).alloc (.cells #[.string a',.string b',.string r',.string c',.string d',.string s'] 46)).drew.cell? ⟨w.heap.size + 1,0,none⟩=some (.string a')∧((w.alloc (.cells #[.string a,.string b,.string r,.string c,.string d,.string s] 46)).alloc (.cells #[.string a',.string b',.string r',.string c',.string d',.string s'] 46)).drew.cell? ⟨w.heap.size + 1,1,none⟩=some (.string b')∧((w.alloc (.cells #[.string a,.string b,.string r,.string c,.string d,.string s] 46)).alloc (.cells #[.string a',.string b',.string r',.string c',.string d',.string s'] 46)).drew.cell? ⟨w.heap.size + 1,2,none⟩=some (.string r')∧((w.alloc (.cells #[.string a,.string b,.string r,.string c,.string d,.string s] 46)).alloc (.cells #[.string a',.string b',.string r',.string c',.string d',.string s'] 46)).drew.cell? ⟨w.heap.size + 1,3,none⟩=some (.string c')∧((w.alloc (.cells #[.string a,.string b,.string r,.string c,.string d,.string s] 46)).alloc (.cells #[.string a',.string b',.string r',.string c',.string d',.string s'] 46)).drew.cell? ⟨w.heap.size + 1,4,none⟩=some (.string d')∧((w.alloc (.cells #[.string a,.string b,.string r,.string c,.string d,.string s] 46)).alloc (.cells #[.string a',.string b',.string r',.string c',.string d',.string s'] 46)).drew.cell? ⟨w.heap.size + 1,5,none⟩=some (.string s')∧w.heap.size < ((w.alloc (.cells #[.string a,.string b,.string r,.string c,.string d,.string s] 46)).alloc (.cells #[.string a',.string b',.string r',.string c',.string d',.string s'] 46)).drew.heap.size∧w.heap.size + 1 < ((w.alloc (.cells #[.string a,.string b,.string r,.string c,.string d,.string s] 46)).alloc (.cells #[.string a',.string b',.string r',.string c',.string d',.string s'] 46)).drew.heap.size∧BelowD w.heap.size w (((w.alloc (.cells #[.string a,.string b,.string r,.string c,.string d,.string s] 46)).alloc (.cells #[.string a',.string b',.string r',.string c',.string d',.string s'] 46)).drew):=by
  refine ⟨?_,?_,?_,?_,?_,?_,?_,?_,?_,?_,?_,?_,?_,?_,?_⟩
  all_goals first | exact (KD _ _ _).drew | (simp; done) | (simp; omega)
 go_enter func106,ntmps106;go_wp2_with fail
 go_region_held3 (fun w'=>w'.cell? ⟨w.heap.size,0,none⟩=some (.string a)∧w'.cell? ⟨w.heap.size,1,none⟩=some (.string b)∧w'.cell? ⟨w.heap.size,2,none⟩=some (.string r)∧w'.cell? ⟨w.heap.size,3,none⟩=some (.string c)∧w'.cell? ⟨w.heap.size,4,none⟩=some (.string d)∧w'.cell? ⟨w.heap.size,5,none⟩=some (.string s)∧w'.cell? ⟨w.heap.size + 1,0,none⟩=some (.string a')∧w'.cell? ⟨w.heap.size + 1,1,none⟩=some (.string b')∧w'.cell? ⟨w.heap.size + 1,2,none⟩=some (.string r')∧w'.cell? ⟨w.heap.size + 1,3,none⟩=some (.string c')∧w'.cell? ⟨w.heap.size + 1,4,none⟩=some (.string d')∧w'.cell? ⟨w.heap.size + 1,5,none⟩=some (.string s')∧w.heap.size < w'.heap.size∧w.heap.size + 1 < w'.heap.size∧BelowD w.heap.size w w')
  (first | assumption | exact Q6 (TS _) (by assumption) hbx | exact H0)
  (first | (go_at_call 160; refine (wZ _ _ _ _ _ _ _ (by assumption) (by assumption) (by assumption) (by assumption) (by assumption) (by assumption)).mono ?_; rintro e w' ⟨rfl,hbx⟩) | (go_at_call 159; refine (Tryz.strings_Compare _ _ _).mono ?_; rintro e w' ⟨rfl,rfl⟩))
 rename_i hH;obtain ⟨-,-,-,-,-,-,-,-,-,-,-,-,-,-,gB⟩:=hH;go_wp2;go_ret;exact ⟨rfl,gB⟩
end Go.Proofs.YtajkkeikihhejaaGreat
namespace Go.Proofs.YtajkkeikihhejaaGreat.Ls
theorem lt_irrefl:∀ x:List UInt8,Op.bytesLess x x=false
 | []=>rfl
 | a::x=>by simp [Op.bytesLess,lt_irrefl x]
theorem lt_trans:∀ x y z:List UInt8,Op.bytesLess x y=true→Op.bytesLess y z=true→Op.bytesLess x z=true
 | [],_,[],h,k=>by cases ‹List UInt8› <;> simp [Op.bytesLess] at h k
 | [],_,_::_,_,_=>rfl
 | _::_,[],_,h,_=>by simp [Op.bytesLess] at h
 | _::_,_::_,[],_,k=>by simp [Op.bytesLess] at k
 | a::x,b::y,c::z,h,k=>by
  simp only [Op.bytesLess,Bool.or_eq_true,TU,Ud,beq_iff_eq] at h k ⊢;rcases h with h | ⟨h,h'⟩
  ·rcases k with k | ⟨k,k'⟩
   ·exact .inl (UInt8.lt_trans h k)
   exact .inl (k ▸ h)
  rcases k with k | ⟨k,k'⟩
  ·exact .inl (h ▸ k)
  exact .inr ⟨h.trans k,lt_trans x y z h' k'⟩
theorem lt_total:∀ x y:List UInt8,x ≠ y→Op.bytesLess x y=true ∨ Op.bytesLess y x=true
 | [],[],h=>absurd rfl h
 | [],_::_,_=>.inl rfl
 | _::_,[],_=>.inr rfl
 | a::x,b::y,h=>by
  simp only [Op.bytesLess,Bool.or_eq_true,TU,Ud,beq_iff_eq];by_cases e:a=b
  ·subst e;rcases lt_total x y (fun e=>h (by rw [e])) with k | k
   ·exact .inl (.inr ⟨rfl,k⟩)
   exact .inr (.inr ⟨rfl,k⟩)
  rcases Nat.lt_or_gt_of_ne (fun k=>e (UInt8.toNat_inj.1 k)) with k | k
  ·exact .inl (.inl k)
  exact .inr (.inl k)
theorem lt_asymm (x y:List UInt8) (h:Op.bytesLess x y=true):Op.bytesLess y x=false:=by
 cases k:Op.bytesLess y x;case false=>rfl
 have:=lt_trans x y x h k; rw [lt_irrefl] at this; cases this
end Go.Proofs.YtajkkeikihhejaaGreat.Ls
