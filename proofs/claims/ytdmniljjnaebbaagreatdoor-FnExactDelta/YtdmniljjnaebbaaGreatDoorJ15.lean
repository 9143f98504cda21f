/- The program's raising of strata in plain words. -/
import Derived.Test.YtdmniljjnaebbaaGreatDoorSq
import Derived.Test.YtdmniljjnaebbaaGreatDoorJ14
open Go.Proofs.Tryz
set_option maxHeartbeats 80000000
namespace Go.Proofs.YtdmniljjnaebbaaGreatDoor
open Pl
def Edge (ts:List Ty) (E:List (Ky × St)):Prop:=∀ on t r s,(on,⟨t,r,s⟩) ∈ E ↔ (t,r) ∈ ak ts∧∃ d ∈ gu ts (t,r),(d.typ,d.rel)=on∧stepOf d=s
def uw:Option Int→Int
 | none=>0
 | some x=>x + 1
def mq (N:Nat) (σ:Ky→Option Int):List Ky→Int
 | []=>0
 | k::ks=>((N:Int) - uw (σ k)) + mq N σ ks
structure Rz (ts:List Ty) (N:Nat) (σ:Ky→Option Int):Prop where
 there:∀ k x,σ k=some x→k ∈ ak ts∧0≤x∧x < N∧o6 ts k x
def Gb (σ:Ky→Option Int) (k:Ky) (x:Int):Ky→Option Int:=fun y=>if y=k then some x else σ y
theorem mr (σ:Ky→Option Int) (k:Ky) (x:Int):Gb σ k x k=some x:=by simp [Gb]
theorem p8 {σ:Ky→Option Int} {k y:Ky} {x:Int} (h:y ≠ k):Gb σ k x y=σ y:=by simp [Gb,h]
theorem Rz.val {ts:List Ty} {N:Nat} {σ:Ky→Option Int} (h:Rz ts N σ) (k:Ky):0≤uw (σ k)∧uw (σ k)≤N:=by
 cases e:σ k with
 | none=>simp [uw]
 | some x=>have:=h.there k x e; simp only [uw]; omega
theorem Rz.mu_pos {ts:List Ty} {N:Nat} {σ:Ky→Option Int} (h:Rz ts N σ) (ks:List Ky):0≤mq N σ ks:=by
 induction ks with
 | nil=>simp [mq]
 | cons k ks ih=>have:=h.val k; simp only [mq]; omega
theorem Rz.set {ts:List Ty} {N:Nat} {σ:Ky→Option Int} (h:Rz ts N σ) {k:Ky} {x:Int} (hk:k ∈ ak ts) (h0:0≤x) (hN:x < N) (hl:o6 ts k x):Rz ts N (Gb σ k x):=⟨fun y z hz=>by
 by_cases e:y=k
 ·subst e; rw [mr] at hz; injection hz with hz; subst hz; exact ⟨hk,h0,hN,hl⟩
 rw [p8 e] at hz; exact h.there y z hz⟩
def sG (σ σ':Ky→Option Int):Prop:=∀ k x,σ k=some x→∃ y,σ' k=some y∧x≤y
theorem sG.refl (σ:Ky→Option Int):sG σ σ:=fun _ x h=>⟨x,h,Int.le_refl _⟩
theorem sG.trans {a b c:Ky→Option Int} (h:sG a b) (h2:sG b c):sG a c:=fun k x hx=>by
 obtain ⟨y,hy,h3⟩:=h k x hx;obtain ⟨z,hz,h4⟩:=h2 k y hy;exact ⟨z,hz,by omega⟩
theorem sG.val {σ σ':Ky→Option Int} {ts:List Ty} {N:Nat} (h:sG σ σ') (hR:Rz ts N σ') (k:Ky):uw (σ k)≤uw (σ' k):=by
 cases e:σ k with
 | none=>exact (hR.val k).1
 | some x=>obtain ⟨y,hy,h2⟩:=h k x e; rw [hy]; simp only [uw]; omega
theorem sG.mu {σ σ':Ky→Option Int} {ts:List Ty} {N:Nat} (h:sG σ σ') (hR:Rz ts N σ') (ks:List Ky):mq N σ' ks≤mq N σ ks:=by
 induction ks with
 | nil=>exact Int.le_refl _
 | cons k ks ih=>have:=h.val hR k; simp only [mq]; omega
theorem xe {σ:Ky→Option Int} {k:Ky} {x:Int} (h:∀ y,σ k=some y→y < x):sG σ (Gb σ k x):=fun y z hz=>by
 by_cases e:y=k
 ·subst e; exact ⟨x,mr _ _ _,by have:=h z hz; omega⟩
 exact ⟨z,by rw [p8 e]; exact hz,Int.le_refl _⟩
theorem Ru {σ:Ky→Option Int} {ts:List Ty} {N:Nat} {k:Ky} {x:Int} (hR:Rz ts N (Gb σ k x)) (h:∀ y,σ k=some y→y < x) (h0:0≤x) (ks:List Ky) (hk:k ∈ ks):mq N (Gb σ k x) ks + 1≤mq N σ ks:=by
 induction ks with
 | nil=>cases hk
 | cons y ks ih =>
  simp only [mq];have hm:=(xe h).mu hR ks;have hv:=(xe h).val hR y;rcases List.mem_cons.1 hk with rfl | hk
  ·have:uw (σ k) + 1≤uw (Gb σ k x k):=by
    rw [mr];cases e:σ k with
    | none=>simp only [uw]; omega
    | some z=>have:=h z e; simp only [uw]; omega
   omega
  have:=ih hk; omega
def p9 (E:List (Ky × St)) (σ:Ky→Option Int) (k:Ky):Prop:=∀ x,σ k=some x→∀ s ∈ lookL E k,∃ y,σ s.key=some y∧x + s.n≤y
structure Raised (E:List (Ky × St)) (σ σ':Ky→Option Int):Prop where
 mono:sG σ σ'
 done:∀ k,(p9 E σ k ∨ σ' k ≠ σ k)→p9 E σ' k
theorem Raised.refl (E:List (Ky × St)) (σ:Ky→Option Int):Raised E σ σ:=⟨sG.refl _,fun _ h=>h.elim id (fun e=>absurd rfl e)⟩
theorem Raised.trans {E:List (Ky × St)} {a b c:Ky→Option Int} (h:Raised E a b) (h2:Raised E b c):Raised E a c:=⟨h.mono.trans h2.mono,fun k hk=>by
 by_cases e:c k=b k
 ·by_cases e2:b k=a k
  ·rcases hk with hk | hk
   ·exact h2.done k (.inl (h.done k (.inl hk)))
   exact absurd (e.trans e2) hk
  exact h2.done k (.inl (h.done k (.inr e2)))
 exact h2.done k (.inr e)⟩
structure Half (E:List (Ky × St)) (σ:Ky→Option Int) (key:Ky) (x:Int) (j:Nat) (σ':Ky→Option Int):Prop where
 mono:sG σ σ'
 done:∀ k,k ≠ key→(p9 E σ k ∨ σ' k ≠ σ k)→p9 E σ' k
 own:p9 E σ' key ∨ (σ' key=some x∧∀ s ∈ (lookL E key).take j,∃ y,σ' s.key=some y∧x + s.n≤y)
 at':∃ y,σ' key=some y∧x≤y
theorem Half.start {E:List (Ky × St)} {σ:Ky→Option Int} {key:Ky} {x:Int} (h:∀ y,σ key=some y→y < x):Half E σ key x 0 (Gb σ key x) where
 mono:=xe h
 done k hk hs:=by
  have e:Gb σ key x k=σ k:=p8 hk;rcases hs with hs | hs
  ·intro z hz s hm;rw [e] at hz;obtain ⟨y,hy,hle⟩:=hs z hz s hm;obtain ⟨y',hy',h2⟩:=xe h _ y hy;exact ⟨y',hy',by omega⟩
  exact absurd e hs
 own:=.inr ⟨mr _ _ _,fun s hs=>by simp at hs⟩
 at':=⟨x,mr _ _ _,Int.le_refl _⟩
theorem Half.step {E:List (Ky × St)} {σ σ1 σ2:Ky→Option Int} {key:Ky} {x:Int} {j:Nat} (h:Half E σ key x j σ1) (hj:j < (lookL E key).length) (hR:Raised E σ1 σ2) (hy:∃ y,σ2 (lookL E key)[j].key=some y∧x + (lookL E key)[j].n≤y):Half E σ key x (j + 1) σ2 where
 mono:=h.mono.trans hR.mono
 done k hk hs:=by
  by_cases e:σ2 k=σ1 k
  ·by_cases e2:σ1 k=σ k
   ·rcases hs with hs | hs
    ·exact hR.done k (.inl (h.done k hk (.inl hs)))
    exact absurd (e.trans e2) hs
   exact hR.done k (.inl (h.done k hk (.inr e2)))
  exact hR.done k (.inr e)
 own:=by
  rcases h.own with ho | ⟨h1,h2⟩
  ·exact .inl (hR.done key (.inl ho))
  by_cases e:σ2 key=σ1 key
  ·refine .inr ⟨e.trans h1,fun s hs=>?_⟩;rw [Sk hj] at hs;rcases Sz.1 hs with hs | hs
   ·obtain ⟨y,hy1,hy2⟩:=h2 s hs;obtain ⟨z,hz,h3⟩:=hR.mono _ y hy1;exact ⟨z,hz,by omega⟩
   simp at hs; subst hs; exact hy
  exact .inl (hR.done key (.inr e))
 at':=by
  obtain ⟨y,hy,h1⟩:=h.at';obtain ⟨z,hz,h2⟩:=hR.mono key y hy;exact ⟨z,hz,by omega⟩
theorem Half.full {E:List (Ky × St)} {σ σ':Ky→Option Int} {key:Ky} {x:Int} {j:Nat} (h:Half E σ key x j σ') (hj:(lookL E key).length≤j):Raised E σ σ' where
 mono:=h.mono
 done k hk:=by
  by_cases e:k=key
  ·subst e;rcases h.own with ho | ⟨h1,h2⟩
   ·exact ho
   intro z hz s hs;rw [h1] at hz; injection hz with hz; subst hz;exact h2 s (by rw [List.take_of_length_le hj]; exact hs)
  exact h.done k e hk
theorem CV {ts:List Ty} {N:Nat} {E:List (Ky × St)} {σ:Ky→Option Int} (hE:Edge ts E) (hF:Found ts) (hR:Rz ts N σ) (hall:∀ k ∈ ak ts,∃ x,σ k=some x) (hs:∀ k,p9 E σ k):Least ts (fun k=>(σ k).getD 0) where
 sol:=⟨fun k=>by
   cases e:σ k with
   | none=>exact Int.le_refl _
   | some x=>exact (hR.there k x e).2.1,fun k hk d hd=>by
   obtain ⟨x,hx⟩:=hall _ (hF k hk d hd);have hm:(⟨k.1,k.2,stepOf d⟩:St) ∈ lookL E (d.typ,d.rel):=mem_lookL.2 ((hE _ _ _ _).2 ⟨hk,d,hd,rfl,rfl⟩);obtain ⟨y,hy,h2⟩:=hs _ x hx _ hm;have hy':σ k=some y:=hy;simp only [hx,hy',Option.getD_some];exact h2⟩
 low k hk:=by
  obtain ⟨x,hx⟩:=hall k hk;simp only [hx,Option.getD_some];exact (hR.there k x hx).2.2.2
theorem Edge.low {ts:List Ty} {E:List (Ky × St)} (hE:Edge ts E) {k:Ky} {x:Int} (hl:o6 ts k x) {s:St} (hs:s ∈ lookL E k):s.key ∈ ak ts∧o6 ts s.key (x + s.n)∧0≤s.n∧s.n≤1:=by
 obtain ⟨h1,d,hd,e1,e2⟩:=(hE k s.typ s.rel s.n).1 (mem_lookL.1 hs);have:=yF d;refine ⟨h1,?_,by omega,by omega⟩;rw [← e2];exact o6.step h1 hd (by rw [e1]; exact hl)
open Go.ChangeAt Go.ChangeShapes Go.Maps Go.RowKit Go.WideShapes
def gZ (σ:Ky→Option Int):Ky→Option Value:=fun k=>(σ k).map fun x=>Value.int .i64 x
theorem OX (σ:Ky→Option Int) (k:Ky) (x:Int):jV (gZ σ) k (some (.int .i64 x))=gZ (Gb σ k x):=by
 funext y
 unfold gZ;by_cases e:y=k
 ·subst e; rw [dJ,mr]; rfl
 rw [bQ e,p8 e]
theorem sH (u:af):(zeroValue 2).run prog u=.ok (.int .i64 0) u:=by kernel_rfl
def CW (gS gC gL gR:Nat):Value:=.func (Fn.func 167) #[] #[.pointer (some ⟨gS,0,none⟩),.pointer (some ⟨gC,0,none⟩),.pointer (some ⟨gL,0,none⟩),.pointer (some ⟨gR,0,none⟩)]
structure Rw (w:World) (gS gC gL gR bS bL N n nL:Nat) (ML:Ky→Option Value) (E:List (Ky × St)) (σ:Ky→Option Int):Prop where
 cS:w.cell? ⟨gS,0,none⟩=some (.map (some bS))
 cC:w.cell? ⟨gC,0,none⟩=some (.int .i64 N)
 cL:w.cell? ⟨gL,0,none⟩=some (.map (some bL))
 cR:w.cell? ⟨gR,0,none⟩=some (CW gS gC gL gR)
 lS:gS < w.heap.size∧gS ≠ bS
 lC:gC < w.heap.size∧gC ≠ bS
 lL:gL < w.heap.size∧gL ≠ bS
 lR:gR < w.heap.size∧gR ≠ bS
 map:aJ dE prog 172 w bS n (gZ σ)
 lean:Grp w bL nL ML E
 bne:bL ≠ bS
 free:FreeB ML bS
theorem jH {w w':af} {b g:Nat} (hg:w.grownBy w' (some b)) (hl:g < w.heap.size∧g ≠ b) (o:Nat):w'.cell? ⟨g,o,none⟩=w.cell? ⟨g,o,none⟩:=SI (w:=w) (hg.block g hl.1 (fun e=>hl.2 (by injection e)))
theorem Grp.kept {w w':af} {bL n b:Nat} {M:Ky→Option Value} {E:List (Ky × St)} (h:Grp w bL n M E) (hg:w.grownBy w' (some b)) (hb:bL ≠ b) (hf:FreeB M b):Grp w' bL n M E where
 map:=h.map.kept hg (by intro e; injection e with e; exact hb e)
 row k:=by
  rcases h.row k with e | ⟨v,e,ho⟩
  ·exact .inl e
  exact .inr ⟨v,e,ho.kept hg (.inr (hf k v e))⟩
 apart:=h.apart
theorem Rw.kept {w w':af} {gS gC gL gR bS bL N n n' nL:Nat} {ML:Ky→Option Value} {E:List (Ky × St)} {σ σ':Ky→Option Int} (h:Rw w gS gC gL gR bS bL N n nL ML E σ) (hg:w.grownBy w' (some bS)) (hM:aJ dE prog 172 w' bS n' (gZ σ')):Rw w' gS gC gL gR bS bL N n' nL ML E σ' where
 cS:=(jH hg h.lS 0).trans h.cS
 cC:=(jH hg h.lC 0).trans h.cC
 cL:=(jH hg h.lL 0).trans h.cL
 cR:=(jH hg h.lR 0).trans h.cR
 lS:=⟨Sg h.lS.1 hg.size,h.lS.2⟩
 lC:=⟨Sg h.lC.1 hg.size,h.lC.2⟩
 lL:=⟨Sg h.lL.1 hg.size,h.lL.2⟩
 lR:=⟨Sg h.lR.1 hg.size,h.lR.2⟩
 map:=hM
 lean:=h.lean.kept hg h.bne h.free
 bne:=h.bne
 free:=h.free
theorem iC {w w':af} {b:Nat} (h:aa w w'):w.grownBy w' (some b):=⟨h.os,h.tape,h.output,h.size,fun k hk _=>h.block k hk⟩
theorem Rw.below {w w':af} {gS gC gL gR bS bL N n nL:Nat} {ML:Ky→Option Value} {E:List (Ky × St)} {σ:Ky→Option Int} (h:Rw w gS gC gL gR bS bL N n nL ML E σ) (hB:aa w w'):Rw w' gS gC gL gR bS bL N n nL ML E σ:=h.kept (iC hB) (h.map.below hB)
theorem kZ {a b c:af} {r:Option Nat} (h:a.grownBy b r) (h2:b.grownBy c r):a.grownBy c r:=⟨h2.os.trans h.os,h2.tape.trans h.tape,h2.output.trans h.output,Sq h.size h2.size,fun k hk hr=>(h2.block k (Sg hk h.size) hr).trans (h.block k hk hr)⟩
def Hd (ts:List Ty) (w:World) (gS gC gL gR bS bL N n nL:Nat) (ML:Ky→Option Value) (E:List (Ky × St)) (σ:Ky→Option Int) (key:Ky) (lv:Int) (e:Ending) (w':World):Prop :=
 ∃ (ok:Bool) (σ':Ky→Option Int) (n':Nat),e=.returned (.bool ok)∧w.grownBy w' (some bS)∧Rw w' gS gC gL gR bS bL N n' nL ML E σ'∧Rz ts N σ'∧(n':Int) + mq N σ' (ak ts)≤n + mq N σ (ak ts)∧mq N σ' (ak ts)≤mq N σ (ak ts) ∧
  (ok=false→¬ ∃ f,Sol ts f)∧(ok=true→Raised E σ σ'∧∃ x,σ' key=some x∧lv≤x)
set_option maxRecDepth 100000 in
theorem Ki (ts:List Ty) (gS gC gL gR bS bL N nL:Nat) (ML:Ky→Option Value) (E:List (Ky × St)) (hE:Edge ts E) (hF:Found ts) (hN:N=(ak ts).length) (hN36:N≤36) (hsz:∀ k ∈ ak ts,k.1.size≤maxLen∧k.2.size≤maxLen) (hEl:E.length≤100000) (f:Nat) :
  ∀ (w:World) (σ:Ky→Option Int) (n:Nat) (key:Ky) (lv:Int),Rw w gS gC gL gR bS bL N n nL ML E σ→Rz ts N σ→mq N σ (ak ts)≤f→(n:Int) + mq N σ (ak ts)≤100000→key ∈ ak ts→0≤lv→lv≤100→o6 ts key lv →
  Calls prog 167 #[.agg #[.string key.1,.string key.2],.int .i64 lv,.pointer (some ⟨gS,0,none⟩),.pointer (some ⟨gC,0,none⟩),.pointer (some ⟨gL,0,none⟩),.pointer (some ⟨gR,0,none⟩)] w (Hd ts w gS gC gL gR bS bL N n nL ML E σ key lv):=by
 have HE:=ay hE;have HF:=ay hF;have Wy:Hid (∀ k ∈ ak ts,k.1.size≤maxLen∧k.2.size≤maxLen):=hsz;have Vh:Hid (N=(ak ts).length):=hN;clear hE hF hsz hN
 induction f using Nat.strongRecOn with
 | _ f ih =>
 intro w σ n key lv hR hZ hmu hnm hk h0 h1 hl;have HIH:Hid (∀ m < f,_):=ih;clear ih;obtain ⟨hz1,hz2⟩:=Wy.out key hk;obtain ⟨kl,hkl⟩:=jB key hz1 hz2;have UY:Hid (keyOf prog 172 (dE key)=some kl):=hkl;have HR:=ay hR;have HZ:=ay hZ;have HLK:=ay hl;have HKM:=ay hk;have hmp:=hZ.mu_pos (ak ts);have cS:=hR.cS;have cC:=hR.cC;have cL:=hR.cL;have lS:=hR.lS.1;have lC:=hR.lC.1;have lL:=hR.lL.1;have hbS:=hR.map.lt;have hal:aa w (w.alloc (.cells #[.string key.1,.string key.2] 172)):=(Si _ _).alloc (Sj _) _;have TB:=ay hal;have Xq:Hid (aJ dE prog 172 (w.alloc (.cells #[.string key.1,.string key.2] 172)) bS n (gZ σ)):=hR.map.below hal;have HR1:=ay (hR.below hal);clear hR hZ hl hkl hal hk;by_cases hd:∃ x,σ key=some x∧lv≤x
 ·obtain ⟨x,hx,hle⟩:=hd;obtain ⟨-,hx0,hxN,-⟩:=HZ.out.there key x hx;have hlk:gZ σ key=some (.int .i64 x):=by unfold gZ; rw [hx]; rfl
  have HX:Hid (σ key=some x):=hx;clear hx;go_enter func167,ntmps167;go_wp2_with (at_lookup; refine dz _ rfl _ _ 167 rfl 172 2 ig underlying167 (sH _) bS n (gZ σ) rfl Xq.out key kl rfl UY.out ?_; simp only [hlk,Option.getD_some,Option.isSome_some]);go_ret;exact ⟨true,σ,n,rfl,iC TB.out,HR1.out,HZ.out,Int.le_refl _,Int.le_refl _,by simp,fun _=>⟨Raised.refl _ _,x,HX.out,hle⟩⟩
 have Xg:Hid (∀ y,σ key=some y→y < lv):=fun y hy=>by
  by_cases h:lv≤y
  ·exact absurd ⟨y,hy,h⟩ hd
  omega
 clear hd;by_cases hNt:(N:Int)≤lv
 ·have HNO:Hid (¬ ∃ f,Sol ts f):=MI HF.out HKM.out HLK.out (by have:=Vh.out; omega);cases hs:σ key with
  | none =>
   have hlk:gZ σ key=none:=by unfold gZ; rw [hs]; rfl
   clear hs;go_enter func167,ntmps167;go_wp2_with (at_lookup; refine dz _ rfl _ _ 167 rfl 172 2 ig underlying167 (sH _) bS n (gZ σ) rfl Xq.out key kl rfl UY.out ?_; simp only [hlk,Option.getD_none,Option.isSome_none]);go_ret;exact ⟨false,σ,n,rfl,iC TB.out,HR1.out,HZ.out,Int.le_refl _,Int.le_refl _,fun _=>HNO.out,by simp⟩
  | some x =>
   have hxt:x < lv:=Xg.out x hs;obtain ⟨-,hx0,hxN,-⟩:=HZ.out.there key x hs;have hlk:gZ σ key=some (.int .i64 x):=by unfold gZ; rw [hs]; rfl
   clear hs;go_enter func167,ntmps167;go_wp2_with (at_lookup; refine dz _ rfl _ _ 167 rfl 172 2 ig underlying167 (sH _) bS n (gZ σ) rfl Xq.out key kl rfl UY.out ?_; simp only [hlk,Option.getD_some,Option.isSome_some]);go_ret;exact ⟨false,σ,n,rfl,iC TB.out,HR1.out,HZ.out,Int.le_refl _,Int.le_refl _,fun _=>HNO.out,by simp⟩
 have hNt':lv < (N:Int):=by omega
 have HZ2:Hid (Rz ts N (Gb σ key lv)):=HZ.out.set HKM.out h0 hNt' HLK.out;have HMU:Hid (mq N (Gb σ key lv) (ak ts) + 1≤mq N σ (ak ts)):=Ru HZ2.out Xg.out h0 _ HKM.out;obtain ⟨Wz,cpL,hvl,hrow⟩:=OP (sF HR.out.lean key);have HVL:Hid ((ML key).getD (.slice none 0 0)=.slice Wz (lookL E key).length cpL):=hvl;have hll:(lookL E key).length≤100000:=Sq (Bu _ _) hEl;clear hvl hrow;cases hs:σ key
 case' none =>
  have hlk:gZ σ key=none:=by unfold gZ; rw [hs]; rfl
  clear hs;go_enter func167,ntmps167
  go_wp2_with (first
   | (at_lookup; refine dz _ rfl _ _ 167 rfl 172 2 ig underlying167 (sH _) bS n (gZ σ) rfl Xq.out key kl rfl UY.out ?_; simp only [hlk,Option.getD_none,Option.isSome_none])
   | (at_mapUpdate; refine jr _ rfl _ _ _ 167 rfl 172 2 ig rG underlying167 bS n (gZ σ) rfl Xq.out (by unfold maxLen; omega) key kl rfl UY.out (.int .i64 lv) rfl ?_; intro w2 hV2 hg2; have cL2:w2.cell? ⟨gL,0,none⟩=some (.map (some bL)):=(jH hg2 HR1.out.lL 0).trans HR1.out.cL; have k0:w2.cell? ⟨w.heap.size,0,none⟩=some (.string key.1):=(jH hg2 ⟨by simp,by omega⟩ 0).trans (by simp); have k1:w2.cell? ⟨w.heap.size,1,none⟩=some (.string key.2):=(jH hg2 ⟨by simp,by omega⟩ 1).trans (by simp))
   | (at_lookup; refine iK _ rfl _ _ 229 rfl 172 275 ig underlying229 (Ha _) bL nL ML rfl ((HR1.out.lean.kept hg2 HR1.out.bne HR1.out.free).map) key kl rfl UY.out ?_; rw [HVL.out]))
 case' some x =>
  have hxt:x < lv:=Xg.out x hs;obtain ⟨-,hx0,hxN,-⟩:=HZ.out.there key x hs;have hlk:gZ σ key=some (.int .i64 x):=by unfold gZ; rw [hs]; rfl
  clear hs;go_enter func167,ntmps167
  go_wp2_with (first
   | (at_lookup; refine dz _ rfl _ _ 167 rfl 172 2 ig underlying167 (sH _) bS n (gZ σ) rfl Xq.out key kl rfl UY.out ?_; simp only [hlk,Option.getD_some,Option.isSome_some])
   | (at_mapUpdate; refine jr _ rfl _ _ _ 167 rfl 172 2 ig rG underlying167 bS n (gZ σ) rfl Xq.out (by unfold maxLen; omega) key kl rfl UY.out (.int .i64 lv) rfl ?_; intro w2 hV2 hg2; have cL2:w2.cell? ⟨gL,0,none⟩=some (.map (some bL)):=(jH hg2 HR1.out.lL 0).trans HR1.out.cL; have k0:w2.cell? ⟨w.heap.size,0,none⟩=some (.string key.1):=(jH hg2 ⟨by simp,by omega⟩ 0).trans (by simp); have k1:w2.cell? ⟨w.heap.size,1,none⟩=some (.string key.2):=(jH hg2 ⟨by simp,by omega⟩ 1).trans (by simp))
   | (at_lookup; refine iK _ rfl _ _ 229 rfl 172 275 ig underlying229 (Ha _) bL nL ML rfl ((HR1.out.lean.kept hg2 HR1.out.bne HR1.out.free).map) key kl rfl UY.out ?_; rw [HVL.out]))
 all_goals
  have HR2:Hid (Rw w2 gS gC gL gR bS bL N (n + 1) nL ML E (Gb σ key lv)):=HR1.out.kept hg2 (by rw [← OX]; exact hV2);have HG2:Hid (w.grownBy w2 (some bS)):=kZ (iC TB.out) hg2;clear hV2 hg2 cL2 k0 k1;go_loopw [35] (fun i w3=>∃ j:Nat,j≤(lookL E key).length∧i=.int .i64 j∧Hid (∃ (σ3:Ky→Option Int) (n3:Nat),Half E σ key lv j σ3∧Rw w3 gS gC gL gR bS bL N n3 nL ML E σ3∧Rz ts N σ3∧(n3:Int) + mq N σ3 (ak ts)≤n + mq N σ (ak ts)∧mq N σ3 (ak ts) + 1≤mq N σ (ak ts)∧w.grownBy w3 (some bS))) (fun i _=>(lookL E key).length - (intOf i).toNat);case atStart=>exact ⟨0,Sm _,rfl,⟨Gb σ key lv,n + 1,Half.start Xg.out,HR2.out,HZ2.out,by have:=HMU.out; push_cast; omega,HMU.out,HG2.out⟩⟩
  clear HR2 HG2 HZ2 HMU;obtain ⟨j,hj,rfl,HI⟩:=hrel;by_cases hjl:j < (lookL E key).length
  ·obtain ⟨σ3,n3,hH3,hR3,hZ3,WL,Wj,hg3⟩:=HI.out;obtain ⟨Ti,cp',hv',hrow'⟩:=OP (sF hR3.lean key);rw [HVL.out] at hv';injection hv' with e1 e2 e3;subst e1;rcases hrow' with h | ⟨gr,Tq,hgr1,TC,hcr⟩
   ·omega
   obtain ⟨st,hst⟩:∃ st,st=(lookL E key)[j]:=⟨_,rfl⟩;have r0:wr.cell? ⟨gr,j * 3,none⟩=some (.string st.typ):=hcr _ _ (by have:=kg (lookL E key) j hjl 0 (by omega); rw [hst]; simpa [St.cells] using this);have r1:wr.cell? ⟨gr,j * 3 + 1,none⟩=some (.string st.rel):=hcr _ _ (by have:=kg (lookL E key) j hjl 1 (by omega); rw [hst]; simpa [St.cells] using this);have r2:wr.cell? ⟨gr,j * 3 + 2,none⟩=some (.int .i64 st.n):=hcr _ _ (by have:=kg (lookL E key) j hjl 2 (by omega); rw [hst]; simpa [St.cells] using this);have HST:Hid (st=(lookL E key)[j]):=hst;obtain ⟨hsk,hsl,hsn0,hsn1⟩:=HE.out.low HLK.out (s:=st) (by rw [hst]; exact Sd hjl);have HSK:=ay hsk;have Uj:=ay hsl;have hj1:=bH j;have hj2:(j:Int) < ((lookL E key).length:Int):=by omega
   have cR3:=hR3.cR;unfold CW at cR3;have lR3:=hR3.lR.1;obtain ⟨W3,hW3⟩:∃ W3,W3=wr.alloc (.cells #[.string st.typ,.string st.rel,.int .i64 st.n] 277):=⟨_,rfl⟩;have Wn:aa wr W3:=by rw [hW3]; exact (Si _ _).alloc (Sj _) _
   have HR3:=ay (hR3.below Wn);have V9:Hid (w.grownBy W3 (some bS)):=kZ hg3 (iC Wn);have HH3:=ay hH3;have HZ3:=ay hZ3;have hm3p:=hZ3.mu_pos (ak ts);have HNM:Hid ((n3:Int) + mq N σ3 (ak ts)≤n + mq N σ (ak ts)∧mq N σ3 (ak ts) + 1≤mq N σ (ak ts)):=⟨WL,Wj⟩;rw [Tq];clear hcr hgr1 TC hsk hsl hst hR3 Wn hH3 hZ3 hg3 HI e2 e3;go_wp2_with fail;rw [← hW3];clear hW3 r0 r1 r2 cR3;refine (HIH.out (mq N σ3 (ak ts)).toNat (by omega) _ σ3 n3 st.key (lv + st.n) HR3.out HZ3.out (by omega) (by omega) HSK.out (by omega) (by omega) Uj.out).mono ?_;rintro e w5 ⟨ok,σ5,n5,rfl,hg5,hR5,hZ5,Yj,VB,hf5,ZI⟩;cases ok;case false=>
    have HP:Hid (Hd ts w gS gC gL gR bS bL N n nL ML E σ key lv (.returned (.bool false)) w5):=by
     have h:=HNM.out;exact ⟨false,σ5,n5,rfl,kZ V9.out hg5,hR5,hZ5,by omega,by omega,fun _=>hf5 rfl,by simp⟩
    clear hg5 hR5 hZ5 Yj VB hf5 ZI;go_wp2;go_ret;exact HP.out
   have HI2:Hid (∃ (σ3:Ky→Option Int) (n3:Nat),Half E σ key lv (j + 1) σ3∧Rw w5 gS gC gL gR bS bL N n3 nL ML E σ3∧Rz ts N σ3∧(n3:Int) + mq N σ3 (ak ts)≤n + mq N σ (ak ts)∧mq N σ3 (ak ts) + 1≤mq N σ (ak ts)∧w.grownBy w5 (some bS)):=by
    have h:=HNM.out;obtain ⟨Zk,y,hy,hle⟩:=ZI rfl;refine ⟨σ5,n5,HH3.out.step hjl Zk ⟨y,?_,?_⟩,hR5,hZ5,by omega,by omega,kZ V9.out hg5⟩
    ·rw [← HST.out]; exact hy
    rw [← HST.out]; exact hle
   clear hg5 hR5 hZ5 Yj VB hf5 ZI;go_wp2;go_roundw;case rel=>exact ⟨j + 1,by omega,by go_num,HI2⟩
   simp [intOf] <;> omega
  obtain rfl:j=(lookL E key).length:=by omega
  have HP:Hid (Hd ts w gS gC gL gR bS bL N n nL ML E σ key lv (.returned (.bool true)) wr):=by
   obtain ⟨σ3,n3,hH3,hR3,hZ3,WL,Wj,hg3⟩:=HI.out;exact ⟨true,σ3,n3,rfl,hg3,hR3,hZ3,WL,by omega,by simp,fun _=>⟨hH3.full (Sj _),hH3.at'⟩⟩
  clear HI;go_wp2;go_ret;exact HP.out
end Go.Proofs.YtdmniljjnaebbaaGreatDoor
