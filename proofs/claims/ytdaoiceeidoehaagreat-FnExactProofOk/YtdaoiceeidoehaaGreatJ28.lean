/- The document's look whether schema and tuples are right data. -/
import Derived.Test.YtdaoiceeidoehaaGreatJ27
open Go.Proofs.Tryz
set_option maxHeartbeats 80000000
namespace Go.Proofs.YtdaoiceeidoehaaGreat
set_option linter.unusedVariables false
set_option maxRecDepth 100000
open Go.ChangeShapes Go.WideShapes Go.ChangeAt Go.RowKit Go.Maps
open Pl
def gH (rs:List TR) (t:Tp):Bool:=rZ (ae rs) t.a t.b t.r t.c t.d t.s
theorem Gz {rs:List TR} {t:Tp} (h:bR (ae rs)=true) (ht:t.ok=true):rW (ae rs) t.a t.r ⟨t.c,t.s⟩=gH rs t:=by
 have hSP:=bu.1 h;have h1:rW (ae rs) t.a t.r ⟨t.c,t.s⟩=cz (aM (aC (ae rs) t.a t.r)) (aM (aC (ae rs) t.a t.r)).length ⟨t.c,t.s⟩:=BP _ (Kn hSP _ _);have h2:bi t.a t.b t.r t.c t.d t.s=true:=ht;rw [h1];unfold gH rZ;rw [h2,Bool.and_true]
theorem Jh {p:Tp→Bool} {ts:List Tp} {k:Nat} (h:k < ts.length):(ts.drop k).all p=(p ts[k] && (ts.drop (k + 1)).all p):=by rw [List.drop_eq_getElem_cons h]; rfl
theorem BQ (ad:Option Addr) (cap:Nat) (rs:List TR) (ad':Option Addr) (cap':Nat) (ts:List Tp) (w:World) (hlen:rs.length≤1048576) (hs:eY w ad rs) (hl:∀ r ∈ rs,r.light) (hfr:∀ r ∈ rs,r.fits) (hlt:ts.length≤1048576) (hst:Sl w ad' ts) (hft:∀ x ∈ ts,x.fits) :
  Calls prog 30 #[.slice ad rs.length cap,.slice ad' ts.length cap'] w fun e w'=>e=.returned (.bool (aU (gH rs) rs ts))∧Below w.heap.size w w':=by
 have HS:=ag hs;have HL:=ag hl;have HFR:=ag hfr;have HST:=ag hst;have HFT:=ag hft;have hml:ts.length≤maxLen:=by unfold maxLen; omega
 clear hs hl hfr hst hft;go_enter func30,ntmps30;go_wp2_with fail;refine (ry ad cap rs _ hlen HS.out HL.out HFR.out).mono ?_;rintro e w1 ⟨he,hb1⟩;have HB1:=ag hb1;clear hb1;cases h1:bR (ae rs) with
 | false =>
  rw [h1] at he; subst he;have HN:Hid (aU (gH rs) rs ts=false):=by show _=_; unfold aU; rw [h1]; rfl
  clear h1;go_wp2;go_ret;exact ⟨by rw [HN.out]; rfl,HB1.out⟩
 | true =>
  rw [h1] at he; subst he;have H1:=ag h1;clear h1;go_wp2_with fail;refine (q9 ad' cap' ts _ hml (HST.out.below HB1.out) HFT.out).mono ?_;rintro e w2 ⟨he,hb2⟩;have HB2:=ag (HB1.out.trans (hb2.mono HB1.out.size));clear hb2 HB1;cases h2:dX ts with
  | false =>
   rw [h2] at he; subst he;have HN:Hid (aU (gH rs) rs ts=false):=by show _=_; unfold aU; rw [h2,Bool.and_false]; rfl
   clear h2;go_wp2;go_ret;exact ⟨by rw [HN.out]; rfl,HB2.out⟩
  | true =>
   rw [h2] at he; subst he;have HN:Hid (aU (gH rs) rs ts=ts.all (gH rs)):=by show _=_; unfold aU; rw [H1.out,h2]; rfl
   clear h2 H1;go_wp2;go_loopw [5] (fun i wr=>∃ k:Nat,k≤ts.length∧i=.int .i64 k∧Hid ((ts.drop k).all (gH rs)=ts.all (gH rs))∧Hid (Below w.heap.size w wr)) (fun i _=>ts.length - (intOf i).toNat);case atStart=>exact ⟨0,Nat.zero_le _,rfl,rfl,HB2⟩
   case round =>
    clear HB2;obtain ⟨k,hk,rfl,HP,HB⟩:=hrel;by_cases hlt2:k < ts.length
    ·obtain ⟨b,off,hadr,⟨t0,t1,t2,t3,t4,t5⟩,hb⟩:=Sl.at0 (HST.out.below HB.out) hlt2;have hk1:=aY k;have hk2:(k:Int) < (ts.length:Int):=by omega
     obtain ⟨f0,f1,f2,f3,f4,f5⟩:=HFT.out _ (List.getElem_mem hlt2);have HD:Hid (ts.all (gH rs)=(gH rs ts[k] && (ts.drop (k + 1)).all (gH rs))):=by show _=_; rw [← HP.out]; exact Jh hlt2
     obtain ⟨x,hx⟩:∃ x,x=ts[k]:=⟨_,rfl⟩;rw [← hx] at t0 t1 t2 t3 t4 t5 f0 f1 f2 f3 f4 f5 HD;have HLF:=ag (Ed ad cap rs x.a x.b x.r x.c x.d x.s wr hlen (HS.out.below HB.out) HL.out f0 f1 f2 f3 f4 f5);subst hadr;clear hx;go_wp2_with fail;refine HLF.out.mono ?_;rintro e w3 ⟨he,hb3⟩;have HB3:=ag (HB.out.trans (hb3.mono HB.out.size));clear hb3 HLF t0 t1 t2 t3 t4 t5;cases h5:rZ (ae rs) x.a x.b x.r x.c x.d x.s with
     | true =>
      rw [h5] at he; subst he;have HP2:Hid ((ts.drop (k + 1)).all (gH rs)=ts.all (gH rs)):=by show _=_; rw [HD.out]; unfold gH at *; rw [h5]; rfl
      clear h5;go_wp2;go_roundw;case rel=>exact ⟨k + 1,by omega,by go_num,HP2,HB3⟩
      case measure=>simp [intOf] <;> omega
     | false =>
      rw [h5] at he; subst he;have HN2:Hid (aU (gH rs) rs ts=false):=by show _=_; rw [HN.out,HD.out]; unfold gH at *; rw [h5]; rfl
      clear h5;go_wp2;go_ret;exact ⟨by rw [HN2.out]; rfl,HB3.out⟩
    ·have HN2:Hid (aU (gH rs) rs ts=true):=by show _=_; rw [HN.out,← HP.out,List.drop_of_length_le (by omega)]; rfl
     go_wp2;go_ret;exact ⟨by rw [HN2.out]; rfl,HB.out⟩
set_option linter.unusedSectionVars false
theorem rz {xs:List Al} {o x:Al} (h:x ∈ aL xs o):x ∈ xs ∨ x=o:=by
 unfold aL at h;split at h
 ·exact .inl h
 ·rcases List.mem_append.1 h with h | h
  ·exact .inl h
  ·exact .inr (by simpa using h)
theorem BR:∀ (ts:List Tp) (xs:List Al) (o:Al),o ∈ ts.foldl fI xs→o ∈ xs ∨ ∃ t ∈ ts,o=⟨t.a,t.b⟩ ∨ o=⟨t.c,t.d⟩
 | [],xs,o,h=>.inl h
 | t::ts,xs,o,h=>by
  rcases BR ts (fI xs t) o h with h | ⟨u,hu,h⟩
  ·unfold fI at h;rcases rz h with h | h
   ·rcases rz h with h | h
    ·exact .inl h
    ·exact .inr ⟨t,by simp,.inl h⟩
   ·exact .inr ⟨t,by simp,.inr h⟩
  ·exact .inr ⟨u,by simp [hu],h⟩
theorem BS:∀ (ts:List Tp) (xs:List Al) (o:Al),o ∈ ts.foldl bW xs→o ∈ xs ∨ ∃ t ∈ ts,o=⟨t.a,t.b⟩ ∨ o=⟨t.c,t.d⟩
 | [],xs,o,h=>.inl h
 | t::ts,xs,o,h=>by
  rcases BS ts (bW xs t) o h with h | ⟨u,hu,h⟩
  ·unfold bW at h;split at h
   ·rcases rz h with h | h
    ·exact .inl h
    ·exact .inr ⟨t,by simp,.inr h⟩
   ·exact .inl h
  ·exact .inr ⟨u,by simp [hu],h⟩
theorem E5 {ts:List Tp} (hf:∀ t ∈ ts,t.fits) {o:Al} (h:∃ t ∈ ts,o=⟨t.a,t.b⟩ ∨ o=⟨t.c,t.d⟩):o.t.size≤maxLen∧o.s.size≤maxLen:=by
 obtain ⟨t,ht,h⟩:=h;obtain ⟨h0,h1,h2,h3,h4,h5⟩:=hf t ht;rcases h with rfl | rfl
 ·exact ⟨h0,h1⟩
 ·exact ⟨h3,h4⟩
theorem oI {ts:List Tp} (hf:∀ t ∈ ts,t.fits):∀ o ∈ fC ts,o.t.size≤maxLen∧o.s.size≤maxLen:=fun o ho=>by
 rcases BR ts [] o ho with h | h
 ·cases h
 ·exact E5 hf h
theorem mF {ts:List Tp} (hf:∀ t ∈ ts,t.fits):∀ o ∈ dC ts,o.t.size≤maxLen∧o.s.size≤maxLen:=fun o ho=>by
 rcases BS ts [] o ho with h | h
 ·cases h
 ·exact E5 hf h
theorem zR:∀ (E:List (KL × RR)) (m:Int),m≤E.foldl (fun m x=>max m (x.1.2 + 1)) m∧∀ x ∈ E,x.1.2 + 1≤E.foldl (fun m x=>max m (x.1.2 + 1)) m
 | [],m=>⟨Int.le_refl _,fun x hx=>by cases hx⟩
 | y::E,m=>by
  obtain ⟨h1,h2⟩:=zR E (max m (y.1.2 + 1));simp only [List.foldl_cons];refine ⟨by omega,fun x hx=>?_⟩;rcases List.mem_cons.1 hx with rfl | hx
  ·omega
  ·exact h2 x hx
theorem E8:∀ (E:List (KL × RR)) (m B:Int),m≤B→(∀ x ∈ E,x.1.2 + 1≤B)→E.foldl (fun m x=>max m (x.1.2 + 1)) m≤B
 | [],m,B,h,_=>h
 | y::E,m,B,h,hx=>E8 E _ B (Int.max_le.2 ⟨h,hx y (by simp)⟩) fun x h2=>hx x (by simp [h2])
theorem Ko {f:ByteArray × ByteArray→Int} {rs:List TR} {k:ByteArray × ByteArray} (hk:k ∈ aj (ae rs)):∃ x ∈ dF f rs,x.1.2=f k:=by
 unfold aj at hk;obtain ⟨T,hT,hk⟩:=List.mem_flatMap.1 hk;obtain ⟨t,ht,rfl⟩:=List.mem_map.1 hT;unfold il at hk;obtain ⟨r,hr,rfl⟩:=List.mem_map.1 hk;obtain ⟨q,hq,rfl⟩:=List.mem_map.1 hr;exact ⟨((t.name,f (t.name,q.name)),q),List.mem_flatMap.2 ⟨t,ht,List.mem_map.2 ⟨q,hq,rfl⟩⟩,rfl⟩
theorem Lm {f:ByteArray × ByteArray→Int} {rs:List TR} {x:KL × RR} (hx:x ∈ dF f rs):∃ k ∈ aj (ae rs),x.1.2=f k∧∃ t ∈ rs,∃ q ∈ t.rows,k=(t.name,q.name):=by
 unfold dF at hx;obtain ⟨t,ht,hx⟩:=List.mem_flatMap.1 hx;obtain ⟨q,hq,rfl⟩:=List.mem_map.1 hx;refine ⟨(t.name,q.name),?_,rfl,t,ht,q,hq,rfl⟩;unfold aj il;exact List.mem_flatMap.2 ⟨t.p,List.mem_map.2 ⟨t,ht,rfl⟩,List.mem_map.2 ⟨q.p,List.mem_map.2 ⟨q,hq,rfl⟩,rfl⟩⟩
theorem yw {rs:List TR} (hf:∀ r ∈ rs,r.fits):∀ k ∈ aj (ae rs),k.2.size≤maxLen:=fun k hk=>by
 unfold aj at hk;obtain ⟨T,hT,hk⟩:=List.mem_flatMap.1 hk;obtain ⟨t,ht,rfl⟩:=List.mem_map.1 hT;unfold il at hk;obtain ⟨r,hr,rfl⟩:=List.mem_map.1 hk;obtain ⟨q,hq,rfl⟩:=List.mem_map.1 hr;exact ((hf t ht).2.2 q hq).1
theorem Kq (f:ByteArray × ByteArray→Int) (rs:List TR):(dF f rs).length=(aj (ae rs)).length:=by
 induction rs with
 | nil=>rfl
 | cons t rs ih =>
  have e1:aj (ae (t::rs))=il t.p ++ aj (ae rs):=by simp [aj,ae]
  have e2:dF f (t::rs)=(t.rows.map fun r=>((t.name,f (t.name,r.name)),r)) ++ dF f rs:=rfl;have e3:(il t.p).length=t.rows.length:=by unfold il; rw [List.length_map]; exact fF _
  rw [e1,e2,List.length_append,List.length_append,ih,e3,List.length_map]
theorem vX {w W w':World} {n:Nat} {x0 x1 x2 x3 x4:Value} (h:W.cell? ⟨n,0,none⟩=some x0∧W.cell? ⟨n,1,none⟩=some x1∧W.cell? ⟨n,2,none⟩=some x2∧W.cell? ⟨n,3,none⟩=some x3∧W.cell? ⟨n,4,none⟩=some x4∧Below w.heap.size w W) (hb:Below W.heap.size W w'):w'.cell? ⟨n,0,none⟩=some x0∧w'.cell? ⟨n,1,none⟩=some x1∧w'.cell? ⟨n,2,none⟩=some x2∧w'.cell? ⟨n,3,none⟩=some x3∧w'.cell? ⟨n,4,none⟩=some x4∧Below w.heap.size w w':=by
 obtain ⟨h0,h1,h2,h3,h4,hB⟩:=h;exact ⟨aD hb (ax h0) h0,aD hb (ax h1) h1,aD hb (ax h2) h2,aD hb (ax h3) h3,aD hb (ax h4) h4,hB.trans (hb.mono hB.size)⟩
section
variable [DecidableEq Fc]
def dS (st:ByteArray × ByteArray→Int) (rs:List TR) (ts:List Tp):List Fc:=if aU (gH rs) rs ts then kL st rs ts else []
theorem oJ {st:ByteArray × ByteArray→Int} {rs:List TR} {ts:List Tp} (h:aU (gH rs) rs ts=true):dS st rs ts=kL st rs ts:=by unfold dS; rw [if_pos h]
theorem GA {st:ByteArray × ByteArray→Int} {rs:List TR} {ts:List Tp} (h:aU (gH rs) rs ts=false):dS st rs ts=[]:=by unfold dS; rw [if_neg (by rw [h]; decide)]
theorem Ee (st:ByteArray × ByteArray→Int) {rs:List TR} {ts:List Tp}:(dS st rs ts).length≤115200:=by
 cases hr:aU (gH rs) rs ts with
 | false=>rw [GA hr]; simp
 | true =>
  rw [oJ hr];have hsd:bR (ae rs)=true∧ts.length≤40:=by
   unfold aU dX at hr;simp only [Bool.and_eq_true,decide_eq_true_eq] at hr;exact ⟨hr.1.1,hr.1.2.1⟩
  obtain ⟨h6,hr6,-⟩:=aX (bu.1 hsd.1).1;exact (mr st rs ts (fC ts) (dC ts) _).len (by have:=jZ ts; omega) (tH h6 hr6) (by have:=jm ts; omega)
end
def BU (K:Fc→Bool) (f:Fc) (t:Tp):Bool:=if t.s.toList.isEmpty then t.c.toList == f.c.toList && t.d.toList == f.d.toList else K ⟨t.c,t.d,t.s,f.c,f.d⟩
abbrev Ru:=(Fc→Bool)→Bool
def mG (l:List Tp) (f:Fc):Ru:=fun K=>l.any fun t=>(t.a.toList == f.a.toList && t.b.toList == f.b.toList && t.r.toList == f.r.toList) && BU K f t
def yx (l:List Tp) (over name:ByteArray) (f:Fc):Ru:=fun K=>l.any fun t=>(t.a.toList == f.a.toList && t.b.toList == f.b.toList && t.r.toList == over.toList) && K ⟨t.c,t.d,name,f.c,f.d⟩
def gN (l:List Tp) (es:List Ex) (truth:List Fc) (f:Fc):Nat→Nat→Ru
 | 0,_=>fun _=>false
 | k + 1,n=>match es[n]? with
  | none=>fun _=>false
  | some x =>
   if x.kind=1 then mG l f
   else if x.kind=2 then fun K=>K ⟨f.a,f.b,x.name,f.c,f.d⟩
   else if x.kind=3 then yx l x.over x.name f
   else if x.kind=4 then fun K=>x.kids.any fun i=>gN l es truth f k i.toNat K
   else if x.kind=5 then fun K=>x.kids.all fun i=>gN l es truth f k i.toNat K
   else if x.kind=6 then if dW l es truth f k truth (x.kids.getD 1 0).toNat then fun _=>false else gN l es truth f k (x.kids.getD 0 0).toNat
   else fun _=>false
theorem Ji (l:List Tp) (es:List Ex) (truth known:List Fc) (f:Fc):∀ k n,gN l es truth f k n (df known)=dW l es truth f k known n
 | 0,_=>rfl
 | k + 1,n=>by
  unfold gN
  conv=>rhs; unfold dW
  cases es[n]? with
  | none=>rfl
  | some x =>
   dsimp only;by_cases k1:x.kind=1
   ·rw [if_pos k1,if_pos k1]; rfl
   rw [if_neg k1,if_neg k1];by_cases k2:x.kind=2
   ·rw [if_pos k2,if_pos k2]
   rw [if_neg k2,if_neg k2];by_cases k3:x.kind=3
   ·rw [if_pos k3,if_pos k3]; rfl
   rw [if_neg k3,if_neg k3];have key:∀ i:Int,gN l es truth f k i.toNat (df known)=dW l es truth f k known i.toNat:=fun i=>Ji l es truth known f k i.toNat;by_cases k4:x.kind=4
   ·rw [if_pos k4,if_pos k4];exact congrArg (fun p=>x.kids.any p) (funext key)
   rw [if_neg k4,if_neg k4];by_cases k5:x.kind=5
   ·rw [if_pos k5,if_pos k5];exact congrArg (fun p=>x.kids.all p) (funext key)
   rw [if_neg k5,if_neg k5];by_cases k6:x.kind=6
   ·rw [if_pos k6,if_pos k6];cases h:dW l es truth f k truth (x.kids.getD 1 0).toNat with
    | true=>rw [if_pos rfl]; simp
    | false=>rw [if_neg (by decide),key]; simp
   ·rw [if_neg k6,if_neg k6]
def vY (w:World) (S:Nat→Prop) (P:Value→Ru→Prop) (ad:Option Addr) (Gs:List Ru):Prop:=Gs=[] ∨ ∃ g,ad=some ⟨g,0,none⟩∧S g∧g < w.heap.size∧∀ (i:Nat) (h:i < Gs.length),∃ u,w.cell? ⟨g,i,none⟩=some u∧P u Gs[i]
def aG (w:World) (S:Nat→Prop):Nat→Value→Ru→Prop
 | 0,_,_=>False
 | n + 1,v,G =>
  (∃ b:Bool,v=.iface 132 (.agg #[.bool b])∧G=fun _=>b) ∨
  (∃ (ad:Option Addr) (cap:Nat) (fs:List Fc),v=.iface 185 (.agg #[.slice ad fs.length cap])∧(fs=[] ∨ ∃ g,ad=some ⟨g,0,none⟩∧S g)∧jq w ad fs∧fs.length≤1000∧(∀ x ∈ fs,x.fits)∧G=fun K=>fs.any K) ∨
  (∃ (ad:Option Addr) (cap:Nat) (Gs:List Ru),v=.iface 190 (.agg #[.slice ad Gs.length cap])∧Gs.length≤1000∧vY w S (aG w S n) ad Gs∧G=fun K=>Gs.any fun H=>H K) ∨
  (∃ (ad:Option Addr) (cap:Nat) (Gs:List Ru),v=.iface 191 (.agg #[.slice ad Gs.length cap])∧Gs.length≤1000∧vY w S (aG w S n) ad Gs∧G=fun K=>Gs.all fun H=>H K)
theorem jq.blockF {w w':World} {ad:Option Addr} {fs:List Fc} (h:jq w ad fs) (hs:w.heap.size≤w'.heap.size) (hz:fs ≠ []→∃ g,ad=some ⟨g,0,none⟩∧(g < w.heap.size→w'.heap[g]?=w.heap[g]?)):jq w' ad fs:=by
 by_cases hx:fs=[]
 ·exact .inl hx
 ·rcases h with h | ⟨b,off,e,hb,hr⟩
  ·exact absurd h hx
  ·obtain ⟨g,e2,hg⟩:=hz hx;rw [e] at e2;injection e2 with e2; injection e2 with e2 e3;subst e2;exact .inr ⟨b,off,e,Nat.lt_of_lt_of_le hb hs,fun i hi=>(hr i hi).same fun o=>World.cell?_of_block (w:=w) (a:=⟨b,o,none⟩) (hg hb)⟩
theorem aG.keep {w w':World} {S T:Nat→Prop} (hs:w.heap.size≤w'.heap.size) (hk:∀ g,S g→g < w.heap.size→T g∧w'.heap[g]?=w.heap[g]?):∀ (n:Nat) (v:Value) (G:Ru),aG w S n v G→aG w' T n v G
 | 0,_,_,h=>h
 | n + 1,v,G,h=>by
  have row:∀ {ad:Option Addr} {Gs:List Ru},vY w S (aG w S n) ad Gs→vY w' T (aG w' T n) ad Gs:=fun {ad Gs} h=>by
   rcases h with h | ⟨g,e,h1,h2,h3⟩
   ·exact .inl h
   ·obtain ⟨k1,k2⟩:=hk g h1 h2;refine .inr ⟨g,e,k1,Nat.lt_of_lt_of_le h2 hs,fun i hi=>?_⟩;obtain ⟨u,hu,hp⟩:=h3 i hi;exact ⟨u,(World.cell?_of_block (w:=w) (a:=⟨g,i,none⟩) k2).trans hu,aG.keep hs hk n u _ hp⟩
  rcases h with h | ⟨ad,cap,fs,e,hz,h1,h2,h3,h4⟩ | ⟨ad,cap,Gs,e,h1,h2,h3⟩ | ⟨ad,cap,Gs,e,h1,h2,h3⟩
  ·exact .inl h
  ·refine .inr (.inl ⟨ad,cap,fs,e,?_,?_,h2,h3,h4⟩)
   ·rcases hz with hz | ⟨g,e1,hg⟩
    ·exact .inl hz
    ·by_cases hx:fs=[]
     ·exact .inl hx
     ·rcases h1 with h1 | ⟨b,off,e2,hb,-⟩
      ·exact absurd h1 hx
      ·rw [e1] at e2; injection e2 with e2; injection e2 with e2 e3;exact .inr ⟨g,e1,(hk g hg (by omega)).1⟩
   ·refine h1.blockF hs fun hne=>?_;rcases hz with hz | ⟨g,e1,hg⟩
    ·exact absurd hz hne
    ·exact ⟨g,e1,fun hl=>(hk g hg hl).2⟩
  ·exact .inr (.inr (.inl ⟨ad,cap,Gs,e,h1,row h2,h3⟩))
  ·exact .inr (.inr (.inr ⟨ad,cap,Gs,e,h1,row h2,h3⟩))
theorem aG.below {w w':World} {S:Nat→Prop} {n:Nat} {v:Value} {G:Ru} (h:aG w S n v G) (hb:Below w.heap.size w w'):aG w' S n v G:=aG.keep hb.size (fun g h1 h2=>⟨h1,hb.block g h2⟩) n v G h
theorem aG.more {w:World} {S:Nat→Prop}:∀ (n:Nat) (v:Value) (G:Ru),aG w S n v G→aG w S (n + 1) v G
 | 0,_,_,h=>h.elim
 | n + 1,v,G,h=>by
  have row:∀ {ad:Option Addr} {Gs:List Ru},vY w S (aG w S n) ad Gs→vY w S (aG w S (n + 1)) ad Gs:=fun {ad Gs} h=>by
   rcases h with h | ⟨g,e,h1,h2,h3⟩
   ·exact .inl h
   ·refine .inr ⟨g,e,h1,h2,fun i hi=>?_⟩;obtain ⟨u,hu,hp⟩:=h3 i hi;exact ⟨u,hu,aG.more n u _ hp⟩
  rcases h with h | h | ⟨ad,cap,Gs,e,h1,h2,h3⟩ | ⟨ad,cap,Gs,e,h1,h2,h3⟩
  ·exact .inl h
  ·exact .inr (.inl h)
  ·exact .inr (.inr (.inl ⟨ad,cap,Gs,e,h1,row h2,h3⟩))
  ·exact .inr (.inr (.inr ⟨ad,cap,Gs,e,h1,row h2,h3⟩))
theorem aG.up {w:World} {S:Nat→Prop} {v:Value} {G:Ru} {n m:Nat} (h:aG w S n v G) (hm:n≤m):aG w S m v G:=by
  induction m with
  | zero=>have e:n=0:=(by omega);rw [e] at h; exact h
  | succ m ih =>
    by_cases e:n=m + 1
    · rw [← e]; exact h
    · exact aG.more m v G (ih (by omega))
def ig (B:Nat) (g:Nat):Prop:=B≤g
theorem qo {w:World} {B:Nat} {v:Value} {fs:List Fc} (h:w.ownsRow B 42 5 v fs.length (bI fs)) (hl:fs.length≤1000) (hf:∀ x ∈ fs,x.fits) {G:Ru} (hG:G=fun K=>fs.any K):aG w (ig B) 1 (.iface 185 (.agg #[v])) G:=by
 obtain ⟨ad,cap,e,hs⟩:=jG h;subst e;refine .inr (.inl ⟨ad,cap,fs,rfl,?_,hs,hl,hf,hG⟩);by_cases hx:fs=[]
 ·exact .inl hx
 ·rcases h.2 with ⟨-,h0⟩ | ⟨g,cap2,cur,e2,hbg,-⟩
  ·exact absurd (List.length_eq_zero_iff.1 h0) hx
  ·injection e2 with e2;exact .inr ⟨g,e2,hbg⟩
theorem kP {w:World} {S:Nat→Prop} (b:Bool) {G:Ru} (hG:G=fun _=>b):aG w S 1 (.iface 132 (.agg #[.bool b])) G:=.inl ⟨b,rfl,hG⟩
def oM (f:Fc) (L:List Tp):List Fc:=(L.filter fun t=>!t.s.toList.isEmpty).map fun t=>⟨t.c,t.d,t.s,f.c,f.d⟩
def tN (f:Fc) (name:ByteArray) (L:List Tp):List Fc:=L.map fun t=>⟨t.c,t.d,name,f.c,f.d⟩
theorem Jj (f:Fc) {L:List Tp} {k:Nat} (h:k < L.length):oM f (L.take (k + 1))=oM f (L.take k) ++ (if L[k].s.toList.isEmpty then [] else [⟨L[k].c,L[k].d,L[k].s,f.c,f.d⟩]):=by
 unfold oM;rw [List.take_succ_eq_append_getElem h,List.filter_append,List.map_append];congr 1;rw [List.filter_cons];cases L[k].s.toList.isEmpty <;> rfl
theorem Jk (f:Fc) (name:ByteArray) {L:List Tp} {k:Nat} (h:k < L.length):tN f name (L.take (k + 1))=tN f name (L.take k) ++ [⟨L[k].c,L[k].d,name,f.c,f.d⟩]:=by
 unfold tN;rw [List.take_succ_eq_append_getElem h,List.map_append];rfl
theorem E9 (f:Fc) (L:List Tp):(oM f L).length≤L.length:=by unfold oM; rw [List.length_map]; exact List.length_filter_le _ _
theorem Jl {f:Fc} {L:List Tp} (hf:f.fits) (h:∀ t ∈ L,t.fits):∀ x ∈ oM f L,x.fits:=fun x hx=>by
 unfold oM at hx;obtain ⟨t,ht,rfl⟩:=List.mem_map.1 hx;have h1:=h t (List.mem_filter.1 ht).1;exact ⟨h1.2.2.2.1,h1.2.2.2.2.1,h1.2.2.2.2.2,hf.2.2.2.1,hf.2.2.2.2⟩
theorem Jm {f:Fc} {name:ByteArray} {L:List Tp} (hf:f.fits) (hn:name.size≤maxLen) (h:∀ t ∈ L,t.fits):∀ x ∈ tN f name L,x.fits:=fun x hx=>by
 unfold tN at hx;obtain ⟨t,ht,rfl⟩:=List.mem_map.1 hx;have h1:=h t ht;exact ⟨h1.2.2.2.1,h1.2.2.2.2.1,hn,hf.2.2.2.1,hf.2.2.2.2⟩
def lc (f:Fc) (t:Tp):Bool:=t.s.toList.isEmpty && qx t.c t.d f.c f.d
theorem vZ (f:Fc) (L:List Tp) (K:Fc→Bool):L.any (BU K f)=(L.any (lc f) || (oM f L).any K):=by
 induction L with
 | nil=>rfl
 | cons t L ih =>
  have e:oM f (t::L)=(if t.s.toList.isEmpty then [] else [⟨t.c,t.d,t.s,f.c,f.d⟩]) ++ oM f L:=by
   unfold oM;rw [List.filter_cons];cases t.s.toList.isEmpty <;> rfl
  rw [List.any_cons,List.any_cons,e,List.any_append,ih];unfold BU lc;cases hs:t.s.toList.isEmpty
  ·simp only [Bool.false_eq_true,if_false,Bool.false_and,List.any_cons,List.any_nil,Bool.or_false,Bool.false_or];rw [← Bool.or_assoc,Bool.or_comm (K _),Bool.or_assoc]
  ·simp only [if_true,Bool.true_and,List.any_nil,Bool.false_or];unfold qx;rw [Bool.or_assoc]
theorem Jn {ts:List Tp} {f:Fc} (h:(G.lookL (aN ts) (f.a,f.b,f.r)).any (lc f)=true):mG ts f=fun _=>true:=by
 funext K
 unfold mG;rw [← mf ts (f.a,f.b,f.r) (BU K f),vZ,h]; rfl
theorem Kr {ts:List Tp} {f:Fc} (h:(G.lookL (aN ts) (f.a,f.b,f.r)).any (lc f)=false):mG ts f=fun K=>(oM f (G.lookL (aN ts) (f.a,f.b,f.r))).any K:=by
 funext K
 unfold mG;rw [← mf ts (f.a,f.b,f.r) (BU K f),vZ,h]; rfl
theorem Kt {ts:List Tp} {f:Fc} {over name:ByteArray}:yx ts over name f=fun K=>(tN f name (G.lookL (aN ts) (f.a,f.b,over))).any K:=by
 funext K
 unfold yx tN;rw [← mf ts (f.a,f.b,over) (fun t=>K ⟨t.c,t.d,name,f.c,f.d⟩),List.any_map]; rfl
end Go.Proofs.YtdaoiceeidoehaaGreat
