/- The document's look whether schema and tuples are right data. -/
import Derived.Test.YtogjfppkbkgaeaaGreatSpecSchema11
import Derived.Test.YtogjfppkbkgaeaaGreatJ28
import Derived.Test.YtogjfppkbkgaeaaGreatEqTupS
import Derived.Test.YtogjfppkbkgaeaaGreatDataOf
import Derived.Test.YtogjfppkbkgaeaaGreatJ19
import Derived.Test.YtogjfppkbkgaeaaGreatJ25
import Derived.Test.YtogjfppkbkgaeaaGreatJ26
import Derived.Test.YtogjfppkbkgaeaaGreatJ4
import Derived.BigQuiet
import Derived.Test.YtogjfppkbkgaeaaGreatJ3
namespace Go.Proofs.YtogjfppkbkgaeaaGreat
set_option linter.unusedVariables false
set_option maxRecDepth 100000
open Go.ChangeShapes Go.WideShapes Go.ChangeAt Go.RowKit Go.Maps
open Pl
def fitQ (rs:List TR) (t:Tp):Bool:=fitsS (tys rs) t.a t.b t.r t.c t.d t.s
theorem fitQ_both {rs:List TR} {t:Tp} (h:schemaD (tys rs)=true) (ht:t.ok=true):fitsI (tys rs) t.a t.r ⟨t.c,t.s⟩=fitQ rs t:=by
 have hSP:=schemaD_iff.1 h
 have h1:fitsI (tys rs) t.a t.r ⟨t.c,t.s⟩=inPre (allowP (relOr (tys rs) t.a t.r)) (allowP (relOr (tys rs) t.a t.r)).length ⟨t.c,t.s⟩:=fit_same _ (own_rel hSP _ _)
 have h2:tupB t.a t.b t.r t.c t.d t.s=true:=ht
 rw [h1]
 unfold fitQ fitsS
 rw [h2,Bool.and_true]
theorem all_drop {p:Tp→Bool} {ts:List Tp} {k:Nat} (h:k < ts.length):(ts.drop k).all p=(p ts[k] && (ts.drop (k + 1)).all p):=by rw [List.drop_eq_getElem_cons h]; rfl
set_option maxHeartbeats 4000000 in
theorem l4Right_any (ad:Option Addr) (cap:Nat) (rs:List TR) (ad':Option Addr) (cap':Nat) (ts:List Tp) (w:World) (hlen:rs.length≤1048576) (hs:SlT w ad rs) (hl:∀ r ∈ rs,r.light) (hfr:∀ r ∈ rs,r.fits) (hlt:ts.length≤1048576) (hst:Sl w ad' ts) (hft:∀ x ∈ ts,x.fits) :
  Calls Tryz.prog 35 #[.slice ad rs.length cap,.slice ad' ts.length cap'] w fun e w'=>e=.returned (.bool (rightB (fitQ rs) rs ts))∧Below w.heap.size w w':=by
 have HS:=toHF hs
 have HL:=toHF hl
 have HFR:=toHF hfr
 have HST:=toHF hst
 have HFT:=toHF hft
 have hml:ts.length≤maxLen:=by unfold maxLen; omega
 clear hs hl hfr hst hft
 go_enter Tryz.func35,Tryz.ntmps35
 go_wp2_with fail
 refine (specSchemaOk_any ad cap rs _ hlen HS.out HL.out HFR.out).mono ?_
 rintro e w1 ⟨he,hb1⟩
 have HB1:=toHF hb1
 clear hb1
 cases h1:schemaD (tys rs) with
 | false =>
  rw [h1] at he; subst he
  have HN:Hid (rightB (fitQ rs) rs ts=false):=by show _=_; unfold rightB; rw [h1]; rfl
  clear h1
  go_wp2
  go_ret
  exact ⟨by rw [HN.out]; rfl,HB1.out⟩
 | true =>
  rw [h1] at he; subst he
  have H1:=toHF h1
  clear h1
  go_wp2_with fail
  refine (specTuplesOk_any ad' cap' ts _ hml (HST.out.below HB1.out) HFT.out).mono ?_
  rintro e w2 ⟨he,hb2⟩
  have HB2:=toHF (HB1.out.trans (hb2.mono HB1.out.size))
  clear hb2 HB1
  cases h2:tupsB ts with
  | false =>
   rw [h2] at he; subst he
   have HN:Hid (rightB (fitQ rs) rs ts=false):=by show _=_; unfold rightB; rw [h2,Bool.and_false]; rfl
   clear h2
   go_wp2
   go_ret
   exact ⟨by rw [HN.out]; rfl,HB2.out⟩
  | true =>
   rw [h2] at he; subst he
   have HN:Hid (rightB (fitQ rs) rs ts=ts.all (fitQ rs)):=by show _=_; unfold rightB; rw [H1.out,h2]; rfl
   clear h2 H1
   go_wp2
   go_loopw [5] (fun i wr=>∃ k:Nat,k≤ts.length∧i=.int .i64 k∧Hid ((ts.drop k).all (fitQ rs)=ts.all (fitQ rs))∧Hid (Below w.heap.size w wr)) (fun i _=>ts.length - (intOf i).toNat)
   case atStart=>exact ⟨0,Nat.zero_le _,rfl,rfl,HB2⟩
   case round =>
    clear HB2
    obtain ⟨k,hk,rfl,HP,HB⟩:=hrel
    by_cases hlt2:k < ts.length
    ·obtain ⟨b,off,hadr,⟨t0,t1,t2,t3,t4,t5⟩,hb⟩:=Sl.at0 (HST.out.below HB.out) hlt2
     have hk1:(0:Int)≤(k:Int):=by omega
     have hk2:(k:Int) < (ts.length:Int):=by omega
     obtain ⟨f0,f1,f2,f3,f4,f5⟩:=HFT.out _ (List.getElem_mem hlt2)
     have HD:Hid (ts.all (fitQ rs)=(fitQ rs ts[k] && (ts.drop (k + 1)).all (fitQ rs))):=by show _=_; rw [← HP.out]; exact all_drop hlt2
     obtain ⟨x,hx⟩:∃ x,x=ts[k]:=⟨_,rfl⟩
     rw [← hx] at t0 t1 t2 t3 t4 t5 f0 f1 f2 f3 f4 f5 HD
     have HLF:=toHF (l2Fits_any ad cap rs x.a x.b x.r x.c x.d x.s wr hlen (HS.out.below HB.out) HL.out f0 f1 f2 f3 f4 f5)
     subst hadr
     clear hx
     go_wp2_with fail
     refine HLF.out.mono ?_
     rintro e w3 ⟨he,hb3⟩
     have HB3:=toHF (HB.out.trans (hb3.mono HB.out.size))
     clear hb3 HLF t0 t1 t2 t3 t4 t5
     cases h5:fitsS (tys rs) x.a x.b x.r x.c x.d x.s with
     | true =>
      rw [h5] at he; subst he
      have HP2:Hid ((ts.drop (k + 1)).all (fitQ rs)=ts.all (fitQ rs)):=by show _=_; rw [HD.out]; unfold fitQ at *; rw [h5]; rfl
      clear h5
      go_wp2
      go_roundw
      case rel=>exact ⟨k + 1,by omega,by go_num,HP2,HB3⟩
      case measure=>first | (simp [intOf]; done) | (simp [intOf]; omega)
     | false =>
      rw [h5] at he; subst he
      have HN2:Hid (rightB (fitQ rs) rs ts=false):=by show _=_; rw [HN.out,HD.out]; unfold fitQ at *; rw [h5]; rfl
      clear h5
      go_wp2
      go_ret
      exact ⟨by rw [HN2.out]; rfl,HB3.out⟩
    ·have HN2:Hid (rightB (fitQ rs) rs ts=true):=by show _=_; rw [HN.out,← HP.out,List.drop_of_length_le (by omega)]; rfl
     go_wp2
     go_ret
     exact ⟨by rw [HN2.out]; rfl,HB.out⟩
end Go.Proofs.YtogjfppkbkgaeaaGreat
namespace Go.Proofs.YtogjfppkbkgaeaaGreat
set_option maxRecDepth 100000
set_option linter.unusedVariables false
set_option linter.unusedSectionVars false
open Go.ChangeShapes Go.WideShapes Go.ChangeAt Go.RowKit Go.Maps
open Pl
theorem mem_withO {xs:List Al} {o x:Al} (h:x ∈ withO xs o):x ∈ xs ∨ x=o:=by
 unfold withO at h
 split at h
 ·exact .inl h
 ·rcases List.mem_append.1 h with h | h
  ·exact .inl h
  ·exact .inr (by simpa using h)
theorem objs_mem:∀ (ts:List Tp) (xs:List Al) (o:Al),o ∈ ts.foldl objStep xs→o ∈ xs ∨ ∃ t ∈ ts,o=⟨t.a,t.b⟩ ∨ o=⟨t.c,t.d⟩
 | [],xs,o,h=>.inl h
 | t::ts,xs,o,h=>by
  rcases objs_mem ts (objStep xs t) o h with h | ⟨u,hu,h⟩
  ·unfold objStep at h
   rcases mem_withO h with h | h
   ·rcases mem_withO h with h | h
    ·exact .inl h
    ·exact .inr ⟨t,by simp,.inl h⟩
   ·exact .inr ⟨t,by simp,.inr h⟩
  ·exact .inr ⟨u,by simp [hu],h⟩
theorem usrs_mem:∀ (ts:List Tp) (xs:List Al) (o:Al),o ∈ ts.foldl usrStep xs→o ∈ xs ∨ ∃ t ∈ ts,o=⟨t.a,t.b⟩ ∨ o=⟨t.c,t.d⟩
 | [],xs,o,h=>.inl h
 | t::ts,xs,o,h=>by
  rcases usrs_mem ts (usrStep xs t) o h with h | ⟨u,hu,h⟩
  ·unfold usrStep at h
   split at h
   ·rcases mem_withO h with h | h
    ·exact .inl h
    ·exact .inr ⟨t,by simp,.inr h⟩
   ·exact .inl h
  ·exact .inr ⟨u,by simp [hu],h⟩
theorem al_fits {ts:List Tp} (hf:∀ t ∈ ts,t.fits) {o:Al} (h:∃ t ∈ ts,o=⟨t.a,t.b⟩ ∨ o=⟨t.c,t.d⟩):o.t.size≤maxLen∧o.s.size≤maxLen:=by
 obtain ⟨t,ht,h⟩:=h
 obtain ⟨h0,h1,h2,h3,h4,h5⟩:=hf t ht
 rcases h with rfl | rfl
 ·exact ⟨h0,h1⟩
 ·exact ⟨h3,h4⟩
theorem objsT_fits {ts:List Tp} (hf:∀ t ∈ ts,t.fits):∀ o ∈ objsT ts,o.t.size≤maxLen∧o.s.size≤maxLen:=fun o ho=>by
 rcases objs_mem ts [] o ho with h | h
 ·cases h
 ·exact al_fits hf h
theorem usersT_fits {ts:List Tp} (hf:∀ t ∈ ts,t.fits):∀ o ∈ usersT ts,o.t.size≤maxLen∧o.s.size≤maxLen:=fun o ho=>by
 rcases usrs_mem ts [] o ho with h | h
 ·cases h
 ·exact al_fits hf h
theorem fold_ge:∀ (E:List (KL × RR)) (m:Int),m≤E.foldl (fun m x=>max m (x.1.2 + 1)) m∧∀ x ∈ E,x.1.2 + 1≤E.foldl (fun m x=>max m (x.1.2 + 1)) m
 | [],m=>⟨Int.le_refl _,fun x hx=>by cases hx⟩
 | y::E,m=>by
  obtain ⟨h1,h2⟩:=fold_ge E (max m (y.1.2 + 1))
  simp only [List.foldl_cons]
  refine ⟨by omega,fun x hx=>?_⟩
  rcases List.mem_cons.1 hx with rfl | hx
  ·omega
  ·exact h2 x hx
theorem fold_le:∀ (E:List (KL × RR)) (m B:Int),m≤B→(∀ x ∈ E,x.1.2 + 1≤B)→E.foldl (fun m x=>max m (x.1.2 + 1)) m≤B
 | [],m,B,h,_=>h
 | y::E,m,B,h,hx=>fold_le E _ B (Int.max_le.2 ⟨h,hx y (by simp)⟩) fun x h2=>hx x (by simp [h2])
theorem lvl_key {f:ByteArray × ByteArray→Int} {rs:List TR} {k:ByteArray × ByteArray} (hk:k ∈ ents (tys rs)):∃ x ∈ lvlE f rs,x.1.2=f k:=by
 unfold ents at hk
 obtain ⟨T,hT,hk⟩:=List.mem_flatMap.1 hk
 obtain ⟨t,ht,rfl⟩:=List.mem_map.1 hT
 unfold entsT at hk
 obtain ⟨r,hr,rfl⟩:=List.mem_map.1 hk
 obtain ⟨q,hq,rfl⟩:=List.mem_map.1 hr
 exact ⟨((t.name,f (t.name,q.name)),q),List.mem_flatMap.2 ⟨t,ht,List.mem_map.2 ⟨q,hq,rfl⟩⟩,rfl⟩
theorem lvl_of {f:ByteArray × ByteArray→Int} {rs:List TR} {x:KL × RR} (hx:x ∈ lvlE f rs):∃ k ∈ ents (tys rs),x.1.2=f k∧∃ t ∈ rs,∃ q ∈ t.rows,k=(t.name,q.name):=by
 unfold lvlE at hx
 obtain ⟨t,ht,hx⟩:=List.mem_flatMap.1 hx
 obtain ⟨q,hq,rfl⟩:=List.mem_map.1 hx
 refine ⟨(t.name,q.name),?_,rfl,t,ht,q,hq,rfl⟩
 unfold ents entsT
 exact List.mem_flatMap.2 ⟨t.p,List.mem_map.2 ⟨t,ht,rfl⟩,List.mem_map.2 ⟨q.p,List.mem_map.2 ⟨q,hq,rfl⟩,rfl⟩⟩
theorem ents_name {rs:List TR} (hf:∀ r ∈ rs,r.fits):∀ k ∈ ents (tys rs),k.2.size≤maxLen:=fun k hk=>by
 unfold ents at hk
 obtain ⟨T,hT,hk⟩:=List.mem_flatMap.1 hk
 obtain ⟨t,ht,rfl⟩:=List.mem_map.1 hT
 unfold entsT at hk
 obtain ⟨r,hr,rfl⟩:=List.mem_map.1 hk
 obtain ⟨q,hq,rfl⟩:=List.mem_map.1 hr
 exact ((hf t ht).2.2 q hq).1
theorem lvl_len (f:ByteArray × ByteArray→Int) (rs:List TR):(lvlE f rs).length=(ents (tys rs)).length:=by
 induction rs with
 | nil=>rfl
 | cons t rs ih =>
  have e1:ents (tys (t::rs))=entsT t.p ++ ents (tys rs):=by simp [ents,tys]
  have e2:lvlE f (t::rs)=(t.rows.map fun r=>((t.name,f (t.name,r.name)),r)) ++ lvlE f rs:=rfl
  have e3:(entsT t.p).length=t.rows.length:=by unfold entsT; rw [List.length_map]; exact rls_len _
  rw [e1,e2,List.length_append,List.length_append,ih,e3,List.length_map]
section
variable [DecidableEq Fc]
def factsQ (st:ByteArray × ByteArray→Int) (rs:List TR) (ts:List Tp):List Fc:=if rightB (fitQ rs) rs ts then factsL st rs ts else []
theorem factsQ_yes {st:ByteArray × ByteArray→Int} {rs:List TR} {ts:List Tp} (h:rightB (fitQ rs) rs ts=true):factsQ st rs ts=factsL st rs ts:=by unfold factsQ; rw [if_pos h]
theorem factsQ_no {st:ByteArray × ByteArray→Int} {rs:List TR} {ts:List Tp} (h:rightB (fitQ rs) rs ts=false):factsQ st rs ts=[]:=by unfold factsQ; rw [if_neg (by rw [h]; decide)]
def FPost (L0:List Fc) (w:World) (e:Ending) (w':World):Prop:=(∃ (L:List Fc) (v:Value),e=.returned v∧L.Perm L0∧L.Pairwise (fun x y=>Op.bytesLess (txF y) (txF x)=false)∧w'.ownsRow w.heap.size 47 5 v L.length (rowsF L))∧Below w.heap.size w w'
set_option maxHeartbeats 8000000 in
theorem implFacts_any (st:ByteArray × ByteArray→Int) (ad:Option Addr) (cap:Nat) (rs:List TR) (ad':Option Addr) (cap':Nat) (ts:List Tp) (w:World) (hlen:rs.length≤1048576) (hs:SlT w ad rs) (hl:∀ r ∈ rs,r.light) (hfr:∀ r ∈ rs,r.fits) (hcp:∀ r ∈ rs,r.caps) (hlt:ts.length≤1048576) (hst:Sl w ad' ts) (hft:∀ x ∈ ts,x.fits) (hle:schemaD (tys rs)=true→Least (tys rs) st) :
  Calls Tryz.prog 12 #[.slice ad rs.length cap,.slice ad' ts.length cap'] w (FPost (factsQ st rs ts) w):=by
 have HC:=toHF (dataOf_any (fitQ rs) ad cap rs ad' cap' ts w hlen hs hl hfr (strataOf_any ad cap rs w hlen hs hl hfr hcp) (fun h t ht=>fitQ_both h ht) hlt hst hft)
 have HS:=toHF hs
 have HFT:=toHF hft
 have HFR:=toHF hfr
 have HLE:=toHF hle
 clear hs hl hfr hcp hst hft hle
 go_enter Tryz.func12,Tryz.ntmps12
 go_wp2_with fail
 refine HC.out.mono ?_
 rintro e w1 ⟨hb1,⟨hr,rfl⟩ | ⟨hr,D,br,bp,bt,nr,np,Mr,Mp,vo,vu,f,rfl,hbt,hLf,hDA⟩⟩
 ·have HP:Hid (FPost (factsQ st rs ts) w (.returned (.slice none 0 0)) w1):=⟨⟨[],_,rfl,by rw [factsQ_no hr],List.Pairwise.nil,World.ownsRow_nil _ _ _ _⟩,hb1⟩
  clear hb1 HC hr
  go_wp2
  go_ret
  exact HP.out
 ·have hsd:schemaD (tys rs)=true∧ts.length≤40:=by
   unfold rightB tupsB at hr
   simp only [Bool.and_eq_true,decide_eq_true_eq] at hr
   exact ⟨hr.1.1,hr.1.2.1⟩
  obtain ⟨hsd,ht40⟩:=hsd
  have hSP:=schemaD_iff.1 hsd
  obtain ⟨h6,hr6,-⟩:=shape_facts hSP.1
  have hE36:=ents_36 h6 hr6
  have hfk:∀ k ∈ ents (tys rs),f k + 1≤(ents (tys rs)).length:=fun k hk=>by
   obtain ⟨g,hg,hb⟩:=hLf.sol.few (found_of hSP.2.1)
   have h1:=hLf.low k hk g hg
   have h2:=hb k hk
   omega
  have hc0:0≤countE (lvlE f rs):=(fold_ge (lvlE f rs) 0).1
  have hcl:countE (lvlE f rs)≤(ents (tys rs)).length:=fold_le _ _ _ (by omega) fun x hx=>by
   obtain ⟨k,hk,e,-⟩:=lvl_of hx
   rw [e]; exact hfk k hk
  obtain ⟨N,hN⟩:∃ N:Nat,countE (lvlE f rs)=N:=⟨(countE (lvlE f rs)).toNat,by omega⟩
  have hkN:∀ k ∈ ents (tys rs),f k < (N:Int):=fun k hk=>by
   obtain ⟨x,hx,e⟩:=lvl_key (f:=f) hk
   have h2:=(fold_ge (lvlE f rs) 0).2 x hx
   have h3:x.1.2 + 1≤countE (lvlE f rs):=h2
   rw [e,hN] at h3
   omega
  have hLs:allF (tys rs) ts f (objsT ts) (usersT ts) N=factsQ st rs ts:=by
   rw [factsQ_yes hr]
   unfold factsL
   rw [← allF_same (fun k hk=>hLf.same (HLE.out hsd) k hk)]
   exact (allF_more hkN _ (by omega)).symm
  rw [hN] at hDA
  have HF1:=toHF (found_any w1 rs ad D br bp bt N nr Mr f ts (objsT ts) (usersT ts) np Mp vo vu hDA (HS.out.below hb1) (by omega) (by have:=objsT_len ts; omega) (by have:=usersT_len ts; omega) hE36 (fun k=>by
   have:(G.lookL (lvlE f rs) k).length≤(lvlE f rs).length:=List.length_filterMap_le _ _
   rw [lvl_len] at this; omega) hSP.1 HFT.out (by omega) (objsT_fits HFT.out) (usersT_fits HFT.out) (ents_name HFR.out))
  rw [hLs] at HF1
  have hGO:=good_all f rs ts (objsT ts) (usersT ts) N
  rw [hLs] at hGO
  have HB1:=toHF hb1
  have hll:=hGO.len (by have:=objsT_len ts; omega) hE36 (by have:=usersT_len ts; omega)
  have HFF:Hid (∀ x ∈ factsQ st rs ts,x.fits):=fun x hx=>by
   have h1:=hGO.sub x hx
   unfold allQ at h1
   obtain ⟨o,ho,h1⟩:=List.mem_flatMap.1 h1
   obtain ⟨k,hk,h1⟩:=List.mem_flatMap.1 h1
   obtain ⟨u,hu,rfl⟩:=List.mem_map.1 h1
   exact ⟨(objsT_fits HFT.out o ho).1,(objsT_fits HFT.out o ho).2,ents_name HFR.out k hk,(usersT_fits HFT.out u hu).1,(usersT_fits HFT.out u hu).2⟩
  obtain ⟨L0,hL0⟩:∃ L0,L0=factsQ st rs ts:=⟨_,rfl⟩
  rw [← hL0] at HF1 hll HFF
  have HL0:=toHF hL0
  clear HC hb1 hDA hLf hfk hc0 hcl hN hkN hLs hGO hSP hsd h6 hr6 hE36 hr hbt hL0
  go_wp2_with fail
  refine HF1.out.mono ?_
  rintro e w2 ⟨⟨v,rfl,hown⟩,hb2⟩
  have HB2:=toHF (HB1.out.trans (hb2.mono HB1.out.size))
  have HO2:=toHF (ownsRow_base hown HB1.out.size)
  clear HF1 hown hb2 HB1
  cases L0 with
  | nil =>
   obtain ⟨adF,capF,rfl,-⟩:=ownsF HO2.out
   have HSN:=toHF (sort_none adF capF (.func (.func 43) #[] #[]) w2)
   have HP:Hid (FPost [] w (.returned (.slice adF 0 capF)) w2):=⟨⟨[],_,rfl,List.Perm.refl _,List.Pairwise.nil,HO2.out⟩,HB2.out⟩
   clear HO2 HB2
   go_wp2_with fail
   refine HSN.out.mono ?_
   rintro e w3 ⟨rfl,rfl⟩
   go_wp2
   go_ret
   rw [← HL0.out]; exact HP.out
  | cons x0 xs0 =>
   obtain ⟨L1,hL1⟩:∃ L1,L1=x0::xs0:=⟨_,rfl⟩
   obtain ⟨g,capF,rfl⟩:=ownsRow_succ (k:=xs0.length) HO2.out
   have hgl:=(HO2.out.lt g rfl).1
   have HSF:=toHF (sortF_any w.heap.size g capF (x0::xs0) w2 HFF.out HO2.out (by simp) (by omega))
   rw [← hL1] at HSF
   have hlL:xs0.length + 1=L1.length:=by rw [hL1]; rfl
   rw [← hL1] at HL0
   rw [hlL]
   clear HO2 HFF hll hL1 hlL
   go_wp2_with fail
   refine HSF.out.mono ?_
   rintro e w3 ⟨rfl,ys,hp,hso,hrow,hcg⟩
   have HP:Hid (FPost L1 w (.returned (.slice (some ⟨g,0,none⟩) L1.length capF)) w3):=⟨⟨ys,_,rfl,hp,hso,by rw [hp.length_eq]; exact hrow⟩,HB2.out.trans (hcg.below (fun k hk=>by rw [hk]; exact hgl) HB2.out.size)⟩
   clear hp hso hrow hcg HB2 HSF
   go_wp2
   go_ret
   rw [← HL0.out]; exact HP.out
end
end Go.Proofs.YtogjfppkbkgaeaaGreat
namespace Go.Proofs.YtogjfppkbkgaeaaGreat
set_option maxRecDepth 100000
set_option linter.unusedVariables false
set_option linter.unusedSectionVars false
open Go.ChangeShapes Go.WideShapes Go.ChangeAt Go.RowKit Go.Maps
open Pl
theorem fcEq_comm (x y:Fc):fcEq x y=fcEq y x:=by rw [Bool.eq_iff_iff,fcEq_iff,fcEq_iff]; exact ⟨Eq.symm,Eq.symm⟩
theorem hasF_perm {x y:List Fc} (h:x.Perm y) (f:Fc):hasF x f=hasF y f:=by rw [Bool.eq_iff_iff,hasF_iff,hasF_iff]; exact h.mem_iff
set_option maxHeartbeats 2000000 in
theorem indexFv_any (ad:Option Addr) (cap:Nat) (ts:List Fc) (t:Fc) (w:World) (hlen:ts.length≤1048576) (hs:SlF w ad ts) :
  Calls Tryz.prog 75 #[.slice ad ts.length cap,.agg #[.string t.a,.string t.b,.string t.r,.string t.c,.string t.d]] w fun e w'=>(∃ r:Int,e=.returned (.int .i64 r)∧decide (0≤r)=hasF ts t)∧Below w.heap.size w w':=by
 have HS:=toHF hs
 clear hs
 obtain ⟨W0,hW0⟩:∃ W0,W0=w.alloc (.cells #[.string t.a,.string t.b,.string t.r,.string t.c,.string t.d] 47):=⟨_,rfl⟩
 have HB0:Hid (Below w.heap.size w W0):=by show Below _ _ _; rw [hW0]; exact (Below.refl _ _).alloc (Nat.le_refl _) _
 have HX0:Hid (boxF W0 w.heap.size t):=by show boxF _ _ _; rw [hW0]; exact World.alloc_heap_new w _
 go_enter Tryz.func75,Tryz.ntmps75
 go_wp2_with fail
 rw [← hW0]
 clear hW0
 go_loopw [8] (fun i wr=>∃ k:Nat,k≤ts.length∧i=.int .i64 k∧Hid (hasF (ts.drop k) t=hasF ts t)∧Hid (Below W0.heap.size W0 wr)) (fun i _=>ts.length - (intOf i).toNat)
 case atStart=>exact ⟨0,Nat.zero_le _,rfl,rfl,Below.refl _ _⟩
 case round =>
  obtain ⟨k,hk,rfl,HP,HB⟩:=hrel
  have HBW:Hid (Below w.heap.size w wr):=HB0.out.trans (HB.out.mono HB0.out.size)
  by_cases hlt:k < ts.length
  ·obtain ⟨b,off,hadr,⟨t0,t1,t2,t3,t4⟩,hb⟩:=SlF.at0 (HS.out.below HBW.out) hlt
   obtain ⟨x0,x1,x2,x3,x4,xl⟩:=(HX0.out.bel HB.out).c
   have hk1:(0:Int)≤(k:Int):=by omega
   have hk2:(k:Int) < (ts.length:Int):=by omega
   have HD:Hid (hasF ts t=(fcEq ts[k] t || hasF (ts.drop (k + 1)) t)):=by show _=_; rw [← HP.out]; exact hasF_drop hlt
   subst hadr
   cases hq:fcEq ts[k] t with
   | true =>
    have heq:=fc_eql t ts[k] (v:=true) (by rw [fcEq_comm]; exact hq)
    have HN:Hid (hasF ts t=true):=by show _=_; rw [HD.out,hq]; rfl
    clear hq
    go_wp2_with fail
    go_quiet (fail)
    clear t0 t1 t2 t3 t4 x0 x1 x2 x3 x4 heq
    go_wp2
    go_ret
    exact ⟨⟨k,rfl,by rw [HN.out]; simp⟩,below_drewN HBW.out _⟩
   | false =>
    have heq:=fc_eql t ts[k] (v:=false) (by rw [fcEq_comm]; exact hq)
    have HP2:Hid (hasF (ts.drop (k + 1)) t=hasF ts t):=by show _=_; rw [HD.out,hq]; rfl
    clear hq
    go_wp2_with fail
    go_quiet (fail)
    clear t0 t1 t2 t3 t4 x0 x1 x2 x3 x4 heq
    go_wp2
    go_roundw
    case rel=>exact ⟨k + 1,by omega,by go_num,HP2,below_drewN HB.out _⟩
    case measure=>first | (simp [intOf]; done) | (simp [intOf]; omega)
  ·have HN:Hid (hasF ts t=false):=by show _=_; rw [← HP.out,List.drop_of_length_le (by omega)]; rfl
   go_wp2
   go_ret
   exact ⟨⟨-1,rfl,by rw [HN.out]; simp⟩,HBW.out⟩
theorem containsFv_any (ad:Option Addr) (cap:Nat) (ts:List Fc) (t:Fc) (w:World) (hlen:ts.length≤1048576) (hs:SlF w ad ts) :
  Calls Tryz.prog 50 #[.slice ad ts.length cap,.agg #[.string t.a,.string t.b,.string t.r,.string t.c,.string t.d]] w fun e w'=>e=.returned (.bool (hasF ts t))∧Below w.heap.size w w':=by
 obtain ⟨W0,hW0⟩:∃ W0,W0=w.alloc (.cells #[.string t.a,.string t.b,.string t.r,.string t.c,.string t.d] 47):=⟨_,rfl⟩
 have HB0:Hid (Below w.heap.size w W0):=by show Below _ _ _; rw [hW0]; exact (Below.refl _ _).alloc (Nat.le_refl _) _
 have HC:=toHF (indexFv_any ad cap ts t W0 hlen (hs.below HB0.out))
 clear hs
 go_enter Tryz.func50,Tryz.ntmps50
 go_wp2_with fail
 rw [← hW0]
 clear hW0
 refine HC.out.mono ?_
 rintro e w' ⟨⟨r,rfl,hr⟩,hbx⟩
 have HR:=toHF hr
 have HBX:=toHF (HB0.out.trans (hbx.mono HB0.out.size))
 clear hr hbx
 go_wp2
 go_ret
 exact ⟨by rw [← HR.out]; rfl,HBX.out⟩
theorem keep5f {w W w':World} {n:Nat} {x0 x1 x2 x3 x4:Value} (h:W.cell? ⟨n,0,none⟩=some x0∧W.cell? ⟨n,1,none⟩=some x1∧W.cell? ⟨n,2,none⟩=some x2∧W.cell? ⟨n,3,none⟩=some x3∧W.cell? ⟨n,4,none⟩=some x4∧Below w.heap.size w W) (hb:Below W.heap.size W w'):w'.cell? ⟨n,0,none⟩=some x0∧w'.cell? ⟨n,1,none⟩=some x1∧w'.cell? ⟨n,2,none⟩=some x2∧w'.cell? ⟨n,3,none⟩=some x3∧w'.cell? ⟨n,4,none⟩=some x4∧Below w.heap.size w w':=by
 obtain ⟨h0,h1,h2,h3,h4,hB⟩:=h
 exact ⟨keptC hb (cell_lt h0) h0,keptC hb (cell_lt h1) h1,keptC hb (cell_lt h2) h2,keptC hb (cell_lt h3) h3,keptC hb (cell_lt h4) h4,hB.trans (hb.mono hB.size)⟩
section
variable [DecidableEq Fc]
theorem factsQ_len (st:ByteArray × ByteArray→Int) {rs:List TR} {ts:List Tp}:(factsQ st rs ts).length≤115200:=by
 cases hr:rightB (fitQ rs) rs ts with
 | false=>rw [factsQ_no hr]; simp
 | true =>
  rw [factsQ_yes hr]
  have hsd:schemaD (tys rs)=true∧ts.length≤40:=by
   unfold rightB tupsB at hr
   simp only [Bool.and_eq_true,decide_eq_true_eq] at hr
   exact ⟨hr.1.1,hr.1.2.1⟩
  obtain ⟨h6,hr6,-⟩:=shape_facts (schemaD_iff.1 hsd.1).1
  exact (good_all st rs ts (objsT ts) (usersT ts) _).len (by have:=objsT_len ts; omega) (ents_36 h6 hr6) (by have:=usersT_len ts; omega)
set_option maxHeartbeats 4000000 in
theorem implCheck_any (st:ByteArray × ByteArray→Int) (ad:Option Addr) (cap:Nat) (rs:List TR) (ad':Option Addr) (cap':Nat) (ts:List Tp) (f:Fc) (w:World) (hlen:rs.length≤1048576) (hs:SlT w ad rs) (hl:∀ r ∈ rs,r.light) (hfr:∀ r ∈ rs,r.fits) (hcp:∀ r ∈ rs,r.caps) (hlt:ts.length≤1048576) (hst:Sl w ad' ts) (hft:∀ x ∈ ts,x.fits) (hle:schemaD (tys rs)=true→Least (tys rs) st) :
  Calls Tryz.prog 23 #[.slice ad rs.length cap,.slice ad' ts.length cap',.agg #[.string f.a,.string f.b,.string f.r,.string f.c,.string f.d]] w fun e w'=>e=.returned (.bool (hasF (factsQ st rs ts) f))∧Below w.heap.size w w':=by
 obtain ⟨W0,hW0⟩:∃ W0,W0=w.alloc (.cells #[.string f.a,.string f.b,.string f.r,.string f.c,.string f.d] 47):=⟨_,rfl⟩
 have HB0:Below w.heap.size w W0:=by rw [hW0]; exact (Below.refl _ _).alloc (Nat.le_refl _) _
 have hbx:boxF W0 w.heap.size f:=by rw [hW0]; exact World.alloc_heap_new w _
 obtain ⟨c0,c1,c2,c3,c4,cl⟩:=hbx.c
 have HCALL:Hid (∀ W':World,(W'.cell? ⟨w.heap.size,0,none⟩=some (.string f.a)∧W'.cell? ⟨w.heap.size,1,none⟩=some (.string f.b)∧W'.cell? ⟨w.heap.size,2,none⟩=some (.string f.r)∧W'.cell? ⟨w.heap.size,3,none⟩=some (.string f.c)∧W'.cell? ⟨w.heap.size,4,none⟩=some (.string f.d)∧Below w.heap.size w W')→Calls Tryz.prog 12 #[.slice ad rs.length cap,.slice ad' ts.length cap'] W' (FPost (factsQ st rs ts) W')):=fun W' h=>implFacts_any st ad cap rs ad' cap' ts W' hlen (hs.below h.2.2.2.2.2) hl hfr hcp hlt (hst.below h.2.2.2.2.2) hft hle
 have hLl:=factsQ_len st (rs:=rs) (ts:=ts)
 clear hs hl hfr hcp hst hft hle hbx
 go_enter Tryz.func23,Tryz.ntmps23
 go_wp2_with fail
 rw [← hW0]
 clear hW0
 go_region_held3 (fun w'=>w'.cell? ⟨w.heap.size,0,none⟩=some (.string f.a)∧w'.cell? ⟨w.heap.size,1,none⟩=some (.string f.b)∧w'.cell? ⟨w.heap.size,2,none⟩=some (.string f.r)∧w'.cell? ⟨w.heap.size,3,none⟩=some (.string f.c)∧w'.cell? ⟨w.heap.size,4,none⟩=some (.string f.d)∧Below w.heap.size w w')
  (first | assumption | exact keep5f (by assumption) hbx | exact ⟨c0,c1,c2,c3,c4,HB0.drew⟩)
  (first | (go_at_call 12; refine (HCALL.out _ (by assumption)).mono ?_; rintro e w' ⟨⟨L,v,rfl,hp,-,hown⟩,hbx⟩; obtain ⟨adL,capL,rfl,hsl⟩:=ownsF hown; have HLL:Hid (L.length≤1048576):=(by show _≤_; rw [hp.length_eq]; exact Nat.le_trans hLl (by decide))) | (go_at_call 50; refine (containsFv_any adL capL L f _ HLL.out (by first | exact hsl | exact hsl.below (Below.refl _ _))).mono ?_; rintro e w'' ⟨rfl,hbx⟩))
 rename_i hJ
 have HG:=toHF hJ.2.2.2.2.2
 have HE:=toHF (hasF_perm hp f)
 clear hJ hown hsl hp c0 c1 c2 c3 c4
 go_wp2
 go_ret
 exact ⟨by rw [HE.out]; rfl,HG.out⟩
set_option maxHeartbeats 8000000 in
theorem specCheck_any (st:ByteArray × ByteArray→Int) (ad:Option Addr) (cap:Nat) (rs:List TR) (ad':Option Addr) (cap':Nat) (ts:List Tp) (f:Fc) (w:World) (hlen:rs.length≤1048576) (hs:SlT w ad rs) (hl:∀ r ∈ rs,r.light) (hfr:∀ r ∈ rs,r.fits) (hlt:ts.length≤1048576) (hst:Sl w ad' ts) (hft:∀ x ∈ ts,x.fits) (hle:schemaD (tys rs)=true→Least (tys rs) st) :
  Calls Tryz.prog 21 #[.slice ad rs.length cap,.slice ad' ts.length cap',.agg #[.string f.a,.string f.b,.string f.r,.string f.c,.string f.d]] w fun e w'=>e=.returned (.bool (hasF (factsQ st rs ts) f))∧Below w.heap.size w w':=by
 obtain ⟨W0,hW0⟩:∃ W0,W0=w.alloc (.cells #[.string f.a,.string f.b,.string f.r,.string f.c,.string f.d] 47):=⟨_,rfl⟩
 have HB0:Hid (Below w.heap.size w W0):=by show Below _ _ _; rw [hW0]; exact (Below.refl _ _).alloc (Nat.le_refl _) _
 have hbx:boxF W0 w.heap.size f:=by rw [hW0]; exact World.alloc_heap_new w _
 have HBX:=toHF hbx
 have hLl:=factsQ_len st (rs:=rs) (ts:=ts)
 have HRC:Hid (∀ W':World,Below W0.heap.size W0 W'→Calls Tryz.prog 35 #[.slice ad rs.length cap,.slice ad' ts.length cap'] W' fun e w'=>e=.returned (.bool (rightB (fitQ rs) rs ts))∧Below W'.heap.size W' w'):=fun W' h=>by
  have hb:=HB0.out.trans (h.mono HB0.out.size)
  exact l4Right_any ad cap rs ad' cap' ts W' hlen (hs.below hb) hl hfr hlt (hst.below hb) hft
 have HAC:Hid (rightB (fitQ rs) rs ts=true→∀ W':World,Below W0.heap.size W0 W'→Calls Tryz.prog 37 #[.slice ad rs.length cap,.slice ad' ts.length cap'] W' fun e w'=>(∃ v,e=.returned v∧w'.ownsRow W'.heap.size 47 5 v (factsQ st rs ts).length (rowsF (factsQ st rs ts)))∧Below W'.heap.size W' w'):=fun hr W' h=>by
  have hb:=HB0.out.trans (h.mono HB0.out.size)
  have hsd:schemaD (tys rs)=true∧ts.length≤40:=by
   unfold rightB tupsB at hr
   simp only [Bool.and_eq_true,decide_eq_true_eq] at hr
   exact ⟨hr.1.1,hr.1.2.1⟩
  have:=l4All_any st ad cap rs ad' cap' ts W' (schemaD_iff.1 hsd.1) (hle hsd.1) (hs.below hb) hl hsd.2 (hst.below hb)
  rw [← factsQ_yes hr] at this
  exact this
 clear hs hl hfr hst hft hle hbx
 go_enter Tryz.func21,Tryz.ntmps21
 go_wp2_with fail
 rw [← hW0]
 clear hW0
 cases hr:rightB (fitQ rs) rs ts with
 | true =>
  have HA:=toHF (HAC.out hr)
  rw [hr] at HRC
  obtain ⟨c0,c1,c2,c3,c4,cl⟩:=HBX.out.c
  obtain ⟨L,hLe⟩:∃ L,L=factsQ st rs ts:=⟨_,rfl⟩
  rw [← hLe] at HA hLl
  have HLE:=toHF hLe
  clear HAC hr hLe
  go_region_held3 (fun w'=>w'.cell? ⟨w.heap.size,0,none⟩=some (.string f.a)∧w'.cell? ⟨w.heap.size,1,none⟩=some (.string f.b)∧w'.cell? ⟨w.heap.size,2,none⟩=some (.string f.r)∧w'.cell? ⟨w.heap.size,3,none⟩=some (.string f.c)∧w'.cell? ⟨w.heap.size,4,none⟩=some (.string f.d)∧Below W0.heap.size W0 w')
   (first | assumption | exact keep5f (by assumption) hbx | exact ⟨c0,c1,c2,c3,c4,(Below.refl _ _).drew⟩)
   (first | (go_at_call 35; refine (HRC.out _ (And.right (And.right (And.right (And.right (And.right (by assumption))))))).mono ?_; rintro e w' ⟨rfl,hbx⟩) | (go_at_call 37; refine (HA.out _ (And.right (And.right (And.right (And.right (And.right (by assumption))))))).mono ?_; rintro e w' ⟨⟨v,rfl,hown⟩,hbx⟩; obtain ⟨adL,capL,rfl,hsl⟩:=ownsF hown) | (go_at_call 49; refine (l4Has_any adL capL L f _ (by omega) (by first | exact hsl | exact hsl.below (Below.refl _ _))).mono ?_; rintro e w'' ⟨rfl,hbx⟩))
  rename_i hJ
  have HG:=toHF (HB0.out.trans (hJ.2.2.2.2.2.mono HB0.out.size))
  clear hJ hown hsl c0 c1 c2 c3 c4 HB0
  go_wp2
  go_ret
  exact ⟨by rw [HLE.out]; rfl,HG.out⟩
 | false =>
  rw [hr] at HRC
  have HN:Hid (hasF (factsQ st rs ts) f=false):=by show _=_; rw [factsQ_no hr]; rfl
  clear HAC hr
  refine wp_region_mid0 10 (fun n=>(undef::undef::undef::undef::undef::undef::undef::undef::undef::undef::[]).getD n undef) (fun fq=>{ tmps:=List.toArray (Value.slice ad rs.length cap::Value.slice ad' ts.length cap'::Value.agg #[Value.string f.a,Value.string f.b,Value.string f.r,Value.string f.c,Value.string f.d]::undef::undef::Value.pointer (some { block:=w.heap.size,off:=0 })::Value.bool false::fq 0::fq 1::fq 2::fq 3::fq 4::fq 5::fq 6::fq 7::fq 8::fq 9::[]),defers:=[] }) (fun n v _=>v=(Value.slice ad rs.length cap::Value.slice ad' ts.length cap'::Value.bool false::Value.bool false::undef::undef::undef::undef::undef::Value.bool false::[]).getD n undef) (fun w'=>Below W0.heap.size W0 w') (by kernel_rfl) rfl (by kernel_rfl) (by kernel_rfl) rfl (Below.refl _ _).drew ?stepF ?finF
  case stepF =>
   rintro i hi o ho fq w' hG hpre
   have HG:Hid (Below W0.heap.size W0 w'):=hG
   have HM:Hid (∀ e ∈ o.after,Region.binds .any e=true→_):=hpre
   clear hG hpre
   have hc:i=0 ∨ i=1 ∨ i=2 ∨ i=3 ∨ i=4 ∨ i=5 ∨ i=6 ∨ i=7 ∨ i=8 ∨ i=9:=by omega
   clear hi
   rcases hc with rfl | rfl | rfl | rfl | rfl | rfl | rfl | rfl | rfl | rfl
   ·obtain rfl:=Option.some.inj ho
    clear ho HM
    refine wpOp_step rfl (fun K hK=>?_)
    have HK:Hid (∀ a w,_→K a w):=hK
    clear hK
    dsimp only
    go_simp
    exact HK.out _ _ ⟨Value.slice ad rs.length cap,by simp [upd],HG.out,rfl,fun k u hu=>hu⟩
   ·obtain rfl:=Option.some.inj ho
    clear ho HM
    refine wpOp_step rfl (fun K hK=>?_)
    have HK:Hid (∀ a w,_→K a w):=hK
    clear hK
    dsimp only
    go_simp
    exact HK.out _ _ ⟨Value.slice ad' ts.length cap',by simp [upd],HG.out,rfl,fun k u hu=>hu⟩
   ·obtain rfl:=Option.some.inj ho
    have e0:fq 0=Value.slice ad rs.length cap:=HM.out { on:=0,ground:=.data } (by simp) rfl
    have e1:fq 1=Value.slice ad' ts.length cap':=HM.out { on:=1,ground:=.data } (by simp) rfl
    clear ho HM
    refine wpOp_step rfl (fun K hK=>?_)
    have HK:Hid (∀ a w,_→K a w):=hK
    clear hK
    simp only [e0,e1]
    go_simp
    refine (HRC.out _ HG.out).mono ?_
    rintro e w9 ⟨rfl,hb9⟩
    have HG9:Hid (Below W0.heap.size W0 w9):=HG.out.trans (hb9.mono HG.out.size)
    clear hb9
    go_wp2_with fail
    exact HK.out _ _ ⟨Value.bool false,by simp [upd,e0,e1],HG9.out,rfl,fun k u hu=>hu⟩
   ·obtain rfl:=Option.some.inj ho
    have e2:fq 2=Value.bool false:=HM.out { on:=2,ground:=.data } (by simp) rfl
    clear ho HM
    refine wpOp_step rfl (fun K hK=>?_)
    have HK:Hid (∀ a w,_→K a w):=hK
    clear hK
    simp only [e2]
    go_simp
    exact HK.out _ _ ⟨Value.bool false,by simp [upd,e2],HG.out,rfl,fun k u hu=>hu⟩
   ·obtain rfl:=Option.some.inj ho
    have e3:fq 3=Value.bool false:=HM.out { on:=3,ground:=.guard } (by simp) rfl
    clear ho HM
    refine wpOp_step rfl (fun K hK=>?_)
    have HK:Hid (∀ a w,_→K a w):=hK
    clear hK
    simp only [e3]
    go_simp
    exact HK.out _ _ ⟨undef,by simp [upd,e3],HG.out,rfl,fun k u hu=>hu⟩
   ·obtain rfl:=Option.some.inj ho
    have e3:fq 3=Value.bool false:=HM.out { on:=3,ground:=.guard } (by simp) rfl
    clear ho HM
    refine wpOp_step rfl (fun K hK=>?_)
    have HK:Hid (∀ a w,_→K a w):=hK
    clear hK
    simp only [e3]
    go_simp
    exact HK.out _ _ ⟨undef,by simp [upd,e3],HG.out,rfl,fun k u hu=>hu⟩
   ·obtain rfl:=Option.some.inj ho
    have e4:fq 4=undef:=HM.out { on:=4,ground:=.data } (by simp) rfl
    have e5:fq 5=undef:=HM.out { on:=5,ground:=.data } (by simp) rfl
    have e3:fq 3=Value.bool false:=HM.out { on:=3,ground:=.guard } (by simp) rfl
    clear ho HM
    refine wpOp_step rfl (fun K hK=>?_)
    have HK:Hid (∀ a w,_→K a w):=hK
    clear hK
    simp only [e4,e5,e3]
    go_simp
    exact HK.out _ _ ⟨undef,by simp [upd,e4,e5,e3],HG.out,rfl,fun k u hu=>hu⟩
   ·obtain rfl:=Option.some.inj ho
    have e3:fq 3=Value.bool false:=HM.out { on:=3,ground:=.guard } (by simp) rfl
    clear ho HM
    refine wpOp_step rfl (fun K hK=>?_)
    have HK:Hid (∀ a w,_→K a w):=hK
    clear hK
    simp only [e3]
    go_simp
    exact HK.out _ _ ⟨undef,by simp [upd,e3],HG.out,rfl,fun k u hu=>hu⟩
   ·obtain rfl:=Option.some.inj ho
    have e6:fq 6=undef:=HM.out { on:=6,ground:=.data } (by simp) rfl
    have e7:fq 7=undef:=HM.out { on:=7,ground:=.data } (by simp) rfl
    have e3:fq 3=Value.bool false:=HM.out { on:=3,ground:=.guard } (by simp) rfl
    clear ho HM
    refine wpOp_step rfl (fun K hK=>?_)
    have HK:Hid (∀ a w,_→K a w):=hK
    clear hK
    simp only [e6,e7,e3]
    go_simp
    exact HK.out _ _ ⟨undef,by simp [upd,e6,e7,e3],HG.out,rfl,fun k u hu=>hu⟩
   ·obtain rfl:=Option.some.inj ho
    have e3:fq 3=Value.bool false:=HM.out { on:=3,ground:=.data } (by simp) rfl
    have e8:fq 8=undef:=HM.out { on:=8,ground:=.data } (by simp) rfl
    clear ho HM
    refine wpOp_step rfl (fun K hK=>?_)
    have HK:Hid (∀ a w,_→K a w):=hK
    clear hK
    simp only [e3,e8]
    go_simp
    exact HK.out _ _ ⟨Value.bool false,by simp [upd,e3,e8],HG.out,rfl,fun k u hu=>hu⟩
  case finF =>
   rintro o ho fq w' hG hall
   have e9:fq 9=Value.bool false:=hall 9 (by omega)
   have HG:Hid (Below W0.heap.size W0 w'):=hG
   clear hG hall
   obtain rfl:=Option.some.inj ho
   clear ho
   refine wpOp_step rfl (fun K hK=>?_)
   have HK:Hid (∀ a w,_→K a w):=hK
   clear hK
   simp only [e9]
   go_simp
   refine HK.out _ _ ?_
   clear HK
   go_wp2
   go_ret
   exact ⟨by rw [HN.out]; rfl,HB0.out.trans (HG.out.mono HB0.out.size)⟩
end
end Go.Proofs.YtogjfppkbkgaeaaGreat
namespace Go.Proofs.YtogjfppkbkgaeaaGreat
open Go.ChangeShapes Go.WideShapes Go.ChangeAt Go.RowKit
open Pl
end Go.Proofs.YtogjfppkbkgaeaaGreat
