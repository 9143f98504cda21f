/- The program's raising of strata in plain words. -/
import Derived.Test.YtdaoiceeidoehaaGreatImplLeaners
open Go.Proofs.Tryz
set_option maxHeartbeats 80000000
namespace Go.Proofs.YtdaoiceeidoehaaGreat
open Pl
def Edge (ts:List Ty) (E:List (Ky × St)):Prop:=∀ on t r s,(on,⟨t,r,s⟩) ∈ E ↔ (t,r) ∈ ai ts∧∃ d ∈ gQ ts (t,r),(d.typ,d.rel)=on∧stepOf d=s
def uf:Option Int→Int
 | none=>0
 | some x=>x + 1
def jC (N:Nat) (σ:Ky→Option Int):List Ky→Int
 | []=>0
 | k::ks=>((N:Int) - uf (σ k)) + jC N σ ks
structure Rz (ts:List Ty) (N:Nat) (σ:Ky→Option Int):Prop where
 there:∀ k x,σ k=some x→k ∈ ai ts∧0≤x∧x < N∧oh ts k x
def DD (σ:Ky→Option Int) (k:Ky) (x:Int):Ky→Option Int:=fun y=>if y=k then some x else σ y
theorem lW (σ:Ky→Option Int) (k:Ky) (x:Int):DD σ k x k=some x:=by simp [DD]
theorem pM {σ:Ky→Option Int} {k y:Ky} {x:Int} (h:y ≠ k):DD σ k x y=σ y:=by simp [DD,h]
theorem Rz.val {ts:List Ty} {N:Nat} {σ:Ky→Option Int} (h:Rz ts N σ) (k:Ky):0≤uf (σ k)∧uf (σ k)≤N:=by
 cases e:σ k with
 | none=>simp [uf]
 | some x=>have:=h.there k x e; simp only [uf]; omega
theorem Rz.mu_pos {ts:List Ty} {N:Nat} {σ:Ky→Option Int} (h:Rz ts N σ) (ks:List Ky):0≤jC N σ ks:=by
 induction ks with
 | nil=>simp [jC]
 | cons k ks ih=>have:=h.val k; simp only [jC]; omega
theorem Rz.set {ts:List Ty} {N:Nat} {σ:Ky→Option Int} (h:Rz ts N σ) {k:Ky} {x:Int} (hk:k ∈ ai ts) (h0:0≤x) (hN:x < N) (hl:oh ts k x):Rz ts N (DD σ k x):=⟨fun y z hz=>by
 by_cases e:y=k
 ·subst e; rw [lW] at hz; injection hz with hz; subst hz; exact ⟨hk,h0,hN,hl⟩
 ·rw [pM e] at hz; exact h.there y z hz⟩
def rP (σ σ':Ky→Option Int):Prop:=∀ k x,σ k=some x→∃ y,σ' k=some y∧x≤y
theorem rP.refl (σ:Ky→Option Int):rP σ σ:=fun _ x h=>⟨x,h,Int.le_refl _⟩
theorem rP.trans {a b c:Ky→Option Int} (h:rP a b) (h2:rP b c):rP a c:=fun k x hx=>by
 obtain ⟨y,hy,h3⟩:=h k x hx;obtain ⟨z,hz,h4⟩:=h2 k y hy;exact ⟨z,hz,by omega⟩
theorem rP.val {σ σ':Ky→Option Int} {ts:List Ty} {N:Nat} (h:rP σ σ') (hR:Rz ts N σ') (k:Ky):uf (σ k)≤uf (σ' k):=by
 cases e:σ k with
 | none=>exact (hR.val k).1
 | some x=>obtain ⟨y,hy,h2⟩:=h k x e; rw [hy]; simp only [uf]; omega
theorem rP.mu {σ σ':Ky→Option Int} {ts:List Ty} {N:Nat} (h:rP σ σ') (hR:Rz ts N σ') (ks:List Ky):jC N σ' ks≤jC N σ ks:=by
 induction ks with
 | nil=>exact Int.le_refl _
 | cons k ks ih=>have:=h.val hR k; simp only [jC]; omega
theorem wV {σ:Ky→Option Int} {k:Ky} {x:Int} (h:∀ y,σ k=some y→y < x):rP σ (DD σ k x):=fun y z hz=>by
 by_cases e:y=k
 ·subst e; exact ⟨x,lW _ _ _,by have:=h z hz; omega⟩
 ·exact ⟨z,by rw [pM e]; exact hz,Int.le_refl _⟩
theorem Rk {σ:Ky→Option Int} {ts:List Ty} {N:Nat} {k:Ky} {x:Int} (hR:Rz ts N (DD σ k x)) (h:∀ y,σ k=some y→y < x) (h0:0≤x) (ks:List Ky) (hk:k ∈ ks):jC N (DD σ k x) ks + 1≤jC N σ ks:=by
 induction ks with
 | nil=>cases hk
 | cons y ks ih =>
  simp only [jC];have hm:=(wV h).mu hR ks;have hv:=(wV h).val hR y;rcases List.mem_cons.1 hk with rfl | hk
  ·have:uf (σ k) + 1≤uf (DD σ k x k):=by
    rw [lW];cases e:σ k with
    | none=>simp only [uf]; omega
    | some z=>have:=h z e; simp only [uf]; omega
   omega
  ·have:=ih hk; omega
def pO (E:List (Ky × St)) (σ:Ky→Option Int) (k:Ky):Prop:=∀ x,σ k=some x→∀ s ∈ lookL E k,∃ y,σ s.key=some y∧x + s.n≤y
structure Raised (E:List (Ky × St)) (σ σ':Ky→Option Int):Prop where
 mono:rP σ σ'
 done:∀ k,(pO E σ k ∨ σ' k ≠ σ k)→pO E σ' k
theorem Raised.refl (E:List (Ky × St)) (σ:Ky→Option Int):Raised E σ σ:=⟨rP.refl _,fun _ h=>h.elim id (fun e=>absurd rfl e)⟩
theorem Raised.trans {E:List (Ky × St)} {a b c:Ky→Option Int} (h:Raised E a b) (h2:Raised E b c):Raised E a c:=⟨h.mono.trans h2.mono,fun k hk=>by
 by_cases e:c k=b k
 ·by_cases e2:b k=a k
  ·rcases hk with hk | hk
   ·exact h2.done k (.inl (h.done k (.inl hk)))
   ·exact absurd (e.trans e2) hk
  ·exact h2.done k (.inl (h.done k (.inr e2)))
 ·exact h2.done k (.inr e)⟩
structure Half (E:List (Ky × St)) (σ:Ky→Option Int) (key:Ky) (x:Int) (j:Nat) (σ':Ky→Option Int):Prop where
 mono:rP σ σ'
 done:∀ k,k ≠ key→(pO E σ k ∨ σ' k ≠ σ k)→pO E σ' k
 own:pO E σ' key ∨ (σ' key=some x∧∀ s ∈ (lookL E key).take j,∃ y,σ' s.key=some y∧x + s.n≤y)
 at':∃ y,σ' key=some y∧x≤y
theorem Half.start {E:List (Ky × St)} {σ:Ky→Option Int} {key:Ky} {x:Int} (h:∀ y,σ key=some y→y < x):Half E σ key x 0 (DD σ key x) where
 mono:=wV h
 done k hk hs:=by
  have e:DD σ key x k=σ k:=pM hk;rcases hs with hs | hs
  ·intro z hz s hm;rw [e] at hz;obtain ⟨y,hy,hle⟩:=hs z hz s hm;obtain ⟨y',hy',h2⟩:=wV h _ y hy;exact ⟨y',hy',by omega⟩
  ·exact absurd e hs
 own:=.inr ⟨lW _ _ _,fun s hs=>by simp at hs⟩
 at':=⟨x,lW _ _ _,Int.le_refl _⟩
theorem Half.step {E:List (Ky × St)} {σ σ1 σ2:Ky→Option Int} {key:Ky} {x:Int} {j:Nat} (h:Half E σ key x j σ1) (hj:j < (lookL E key).length) (hR:Raised E σ1 σ2) (hy:∃ y,σ2 (lookL E key)[j].key=some y∧x + (lookL E key)[j].n≤y):Half E σ key x (j + 1) σ2 where
 mono:=h.mono.trans hR.mono
 done k hk hs:=by
  by_cases e:σ2 k=σ1 k
  ·by_cases e2:σ1 k=σ k
   ·rcases hs with hs | hs
    ·exact hR.done k (.inl (h.done k hk (.inl hs)))
    ·exact absurd (e.trans e2) hs
   ·exact hR.done k (.inl (h.done k hk (.inr e2)))
  ·exact hR.done k (.inr e)
 own:=by
  rcases h.own with ho | ⟨h1,h2⟩
  ·exact .inl (hR.done key (.inl ho))
  ·by_cases e:σ2 key=σ1 key
   ·refine .inr ⟨e.trans h1,fun s hs=>?_⟩;rw [R5 hj] at hs;rcases Sd.1 hs with hs | hs
    ·obtain ⟨y,hy1,hy2⟩:=h2 s hs;obtain ⟨z,hz,h3⟩:=hR.mono _ y hy1;exact ⟨z,hz,by omega⟩
    ·simp at hs; subst hs; exact hy
   ·exact .inl (hR.done key (.inr e))
 at':=by
  obtain ⟨y,hy,h1⟩:=h.at';obtain ⟨z,hz,h2⟩:=hR.mono key y hy;exact ⟨z,hz,by omega⟩
theorem Half.full {E:List (Ky × St)} {σ σ':Ky→Option Int} {key:Ky} {x:Int} {j:Nat} (h:Half E σ key x j σ') (hj:(lookL E key).length≤j):Raised E σ σ' where
 mono:=h.mono
 done k hk:=by
  by_cases e:k=key
  ·subst e;rcases h.own with ho | ⟨h1,h2⟩
   ·exact ho
   ·intro z hz s hs;rw [h1] at hz; injection hz with hz; subst hz;exact h2 s (by rw [List.take_of_length_le hj]; exact hs)
  ·exact h.done k e hk
theorem CP {ts:List Ty} {N:Nat} {E:List (Ky × St)} {σ:Ky→Option Int} (hE:Edge ts E) (hF:Found ts) (hR:Rz ts N σ) (hall:∀ k ∈ ai ts,∃ x,σ k=some x) (hs:∀ k,pO E σ k):Least ts (fun k=>(σ k).getD 0) where
 sol:=⟨fun k=>by
   cases e:σ k with
   | none=>exact Int.le_refl _
   | some x=>exact (hR.there k x e).2.1,fun k hk d hd=>by
   obtain ⟨x,hx⟩:=hall _ (hF k hk d hd);have hm:(⟨k.1,k.2,stepOf d⟩:St) ∈ lookL E (d.typ,d.rel):=mem_lookL.2 ((hE _ _ _ _).2 ⟨hk,d,hd,rfl,rfl⟩);obtain ⟨y,hy,h2⟩:=hs _ x hx _ hm;have hy':σ k=some y:=hy;simp only [hx,hy',Option.getD_some];exact h2⟩
 low k hk:=by
  obtain ⟨x,hx⟩:=hall k hk;simp only [hx,Option.getD_some];exact (hR.there k x hx).2.2.2
theorem Edge.low {ts:List Ty} {E:List (Ky × St)} (hE:Edge ts E) {k:Ky} {x:Int} (hl:oh ts k x) {s:St} (hs:s ∈ lookL E k):s.key ∈ ai ts∧oh ts s.key (x + s.n)∧0≤s.n∧s.n≤1:=by
 obtain ⟨h1,d,hd,e1,e2⟩:=(hE k s.typ s.rel s.n).1 (mem_lookL.1 hs);have:=yw d;refine ⟨h1,?_,by omega,by omega⟩;rw [← e2];exact oh.step h1 hd (by rw [e1]; exact hl)
open Go.ChangeAt Go.ChangeShapes Go.Maps Go.RowKit Go.WideShapes
def iw (σ:Ky→Option Int):Ky→Option Value:=fun k=>(σ k).map fun x=>Value.int .i64 x
theorem Je (σ:Ky→Option Int) (k:Ky) (x:Int):fw (iw σ) k (some (.int .i64 x))=iw (DD σ k x):=by
 funext y
 unfold iw;by_cases e:y=k
 ·subst e; rw [cB,lW]; rfl
 ·rw [bf e,pM e]
theorem rQ (u:World):(zeroValue 2).run prog u=.ok (.int .i64 0) u:=by kernel_rfl
def yH (gS gC gL gR:Nat):Value:=.func (Fn.func 145) #[] #[.pointer (some ⟨gS,0,none⟩),.pointer (some ⟨gC,0,none⟩),.pointer (some ⟨gL,0,none⟩),.pointer (some ⟨gR,0,none⟩)]
structure Rw (w:World) (gS gC gL gR bS bL N n nL:Nat) (ML:Ky→Option Value) (E:List (Ky × St)) (σ:Ky→Option Int):Prop where
 cS:w.cell? ⟨gS,0,none⟩=some (.map (some bS))
 cC:w.cell? ⟨gC,0,none⟩=some (.int .i64 N)
 cL:w.cell? ⟨gL,0,none⟩=some (.map (some bL))
 cR:w.cell? ⟨gR,0,none⟩=some (yH gS gC gL gR)
 lS:gS < w.heap.size∧gS ≠ bS
 lC:gC < w.heap.size∧gC ≠ bS
 lL:gL < w.heap.size∧gL ≠ bS
 lR:gR < w.heap.size∧gR ≠ bS
 map:aD dJ prog 130 w bS n (iw σ)
 lean:Grp w bL nL ML E
 bne:bL ≠ bS
 free:FreeB ML bS
theorem jg {w w':World} {b g:Nat} (hg:w.grownBy w' (some b)) (hl:g < w.heap.size∧g ≠ b) (o:Nat):w'.cell? ⟨g,o,none⟩=w.cell? ⟨g,o,none⟩:=SB (w:=w) (hg.block g hl.1 (fun e=>hl.2 (by injection e)))
theorem Grp.kept {w w':World} {bL n b:Nat} {M:Ky→Option Value} {E:List (Ky × St)} (h:Grp w bL n M E) (hg:w.grownBy w' (some b)) (hb:bL ≠ b) (hf:FreeB M b):Grp w' bL n M E where
 map:=h.map.kept hg (by intro e; injection e with e; exact hb e)
 row k:=by
  rcases h.row k with e | ⟨v,e,ho⟩
  ·exact .inl e
  ·exact .inr ⟨v,e,ho.kept hg (.inr (hf k v e))⟩
 apart:=h.apart
theorem Rw.kept {w w':World} {gS gC gL gR bS bL N n n' nL:Nat} {ML:Ky→Option Value} {E:List (Ky × St)} {σ σ':Ky→Option Int} (h:Rw w gS gC gL gR bS bL N n nL ML E σ) (hg:w.grownBy w' (some bS)) (hM:aD dJ prog 130 w' bS n' (iw σ')):Rw w' gS gC gL gR bS bL N n' nL ML E σ' where
 cS:=(jg hg h.lS 0).trans h.cS
 cC:=(jg hg h.lC 0).trans h.cC
 cL:=(jg hg h.lL 0).trans h.cL
 cR:=(jg hg h.lR 0).trans h.cR
 lS:=⟨RZ h.lS.1 hg.size,h.lS.2⟩
 lC:=⟨RZ h.lC.1 hg.size,h.lC.2⟩
 lL:=⟨RZ h.lL.1 hg.size,h.lL.2⟩
 lR:=⟨RZ h.lR.1 hg.size,h.lR.2⟩
 map:=hM
 lean:=h.lean.kept hg h.bne h.free
 bne:=h.bne
 free:=h.free
theorem fo {w w':World} {b:Nat} (h:Below w.heap.size w w'):w.grownBy w' (some b):=⟨h.os,h.tape,h.output,h.size,fun k hk _=>h.block k hk⟩
theorem Rw.below {w w':World} {gS gC gL gR bS bL N n nL:Nat} {ML:Ky→Option Value} {E:List (Ky × St)} {σ:Ky→Option Int} (h:Rw w gS gC gL gR bS bL N n nL ML E σ) (hB:Below w.heap.size w w'):Rw w' gS gC gL gR bS bL N n nL ML E σ:=h.kept (fo hB) (h.map.below hB)
theorem fu {a b c:World} {r:Option Nat} (h:a.grownBy b r) (h2:b.grownBy c r):a.grownBy c r:=⟨h2.os.trans h.os,h2.tape.trans h.tape,h2.output.trans h.output,Sb h.size h2.size,fun k hk hr=>(h2.block k (RZ hk h.size) hr).trans (h.block k hk hr)⟩
def yI (ts:List Ty) (w:World) (gS gC gL gR bS bL N n nL:Nat) (ML:Ky→Option Value) (E:List (Ky × St)) (σ:Ky→Option Int) (key:Ky) (lv:Int) (e:Ending) (w':World):Prop :=
 ∃ (ok:Bool) (σ':Ky→Option Int) (n':Nat),e=.returned (.bool ok)∧w.grownBy w' (some bS)∧Rw w' gS gC gL gR bS bL N n' nL ML E σ'∧Rz ts N σ'∧(n':Int) + jC N σ' (ai ts)≤n + jC N σ (ai ts)∧jC N σ' (ai ts)≤jC N σ (ai ts) ∧
  (ok=false→¬ ∃ f,Sol ts f)∧(ok=true→Raised E σ σ'∧∃ x,σ' key=some x∧lv≤x)
set_option maxRecDepth 100000 in
theorem Kc (ts:List Ty) (gS gC gL gR bS bL N nL:Nat) (ML:Ky→Option Value) (E:List (Ky × St)) (hE:Edge ts E) (hF:Found ts) (hN:N=(ai ts).length) (hN36:N≤36) (hsz:∀ k ∈ ai ts,k.1.size≤maxLen∧k.2.size≤maxLen) (hEl:E.length≤100000) (f:Nat) :
  ∀ (w:World) (σ:Ky→Option Int) (n:Nat) (key:Ky) (lv:Int),Rw w gS gC gL gR bS bL N n nL ML E σ→Rz ts N σ→jC N σ (ai ts)≤f→(n:Int) + jC N σ (ai ts)≤100000→key ∈ ai ts→0≤lv→lv≤100→oh ts key lv →
  Calls prog 145 #[.agg #[.string key.1,.string key.2],.int .i64 lv,.pointer (some ⟨gS,0,none⟩),.pointer (some ⟨gC,0,none⟩),.pointer (some ⟨gL,0,none⟩),.pointer (some ⟨gR,0,none⟩)] w (yI ts w gS gC gL gR bS bL N n nL ML E σ key lv):=by
 have HE:=aC hE;have HF:=aC hF;have Xl:Hid (∀ k ∈ ai ts,k.1.size≤maxLen∧k.2.size≤maxLen):=hsz;have UD:Hid (N=(ai ts).length):=hN;clear hE hF hsz hN
 induction f using Nat.strongRecOn with
 | _ f ih =>
 intro w σ n key lv hR hZ hmu hnm hk h0 h1 hl;have HIH:Hid (∀ m < f,_):=ih;clear ih;obtain ⟨hz1,hz2⟩:=Xl.out key hk;obtain ⟨kl,hkl⟩:=ik key hz1 hz2;have Ur:Hid (keyOf prog 130 (dJ key)=some kl):=hkl;have HR:=aC hR;have HZ:=aC hZ;have YH:=aC hl;have HKM:=aC hk;have hmp:=hZ.mu_pos (ai ts);have cS:=hR.cS;have cC:=hR.cC;have cL:=hR.cL;have lS:=hR.lS.1;have lC:=hR.lC.1;have lL:=hR.lL.1;have hbS:=hR.map.lt;have hal:Below w.heap.size w (w.alloc (.cells #[.string key.1,.string key.2] 130)):=(R3 _ _).alloc (R4 _) _;have Tm:=aC hal;have Vv:Hid (aD dJ prog 130 (w.alloc (.cells #[.string key.1,.string key.2] 130)) bS n (iw σ)):=hR.map.below hal;have HR1:=aC (hR.below hal);clear hR hZ hl hkl hal hk;by_cases hd:∃ x,σ key=some x∧lv≤x
 ·obtain ⟨x,hx,hle⟩:=hd;obtain ⟨-,hx0,hxN,-⟩:=HZ.out.there key x hx;have hlk:iw σ key=some (.int .i64 x):=by unfold iw; rw [hx]; rfl
  have HX:Hid (σ key=some x):=hx;clear hx;go_enter func145,ntmps145;go_wp2_with (at_lookup; refine bW _ rfl _ _ 173 rfl 130 2 ib underlying173 (rQ _) bS n (iw σ) rfl Vv.out key kl rfl Ur.out ?_; simp only [hlk,Option.getD_some,Option.isSome_some]);go_ret;exact ⟨true,σ,n,rfl,fo Tm.out,HR1.out,HZ.out,Int.le_refl _,Int.le_refl _,by simp,fun _=>⟨Raised.refl _ _,x,HX.out,hle⟩⟩
 have WQ:Hid (∀ y,σ key=some y→y < lv):=fun y hy=>by
  by_cases h:lv≤y
  ·exact absurd ⟨y,hy,h⟩ hd
  ·omega
 clear hd;by_cases hNt:(N:Int)≤lv
 ·have UK:Hid (¬ ∃ f,Sol ts f):=LU HF.out HKM.out YH.out (by have:=UD.out; omega);cases hs:σ key with
  | none =>
   have hlk:iw σ key=none:=by unfold iw; rw [hs]; rfl
   clear hs;go_enter func145,ntmps145;go_wp2_with (at_lookup; refine bW _ rfl _ _ 173 rfl 130 2 ib underlying173 (rQ _) bS n (iw σ) rfl Vv.out key kl rfl Ur.out ?_; simp only [hlk,Option.getD_none,Option.isSome_none]);go_ret;exact ⟨false,σ,n,rfl,fo Tm.out,HR1.out,HZ.out,Int.le_refl _,Int.le_refl _,fun _=>UK.out,by simp⟩
  | some x =>
   have hxt:x < lv:=WQ.out x hs;obtain ⟨-,hx0,hxN,-⟩:=HZ.out.there key x hs;have hlk:iw σ key=some (.int .i64 x):=by unfold iw; rw [hs]; rfl
   clear hs;go_enter func145,ntmps145;go_wp2_with (at_lookup; refine bW _ rfl _ _ 173 rfl 130 2 ib underlying173 (rQ _) bS n (iw σ) rfl Vv.out key kl rfl Ur.out ?_; simp only [hlk,Option.getD_some,Option.isSome_some]);go_ret;exact ⟨false,σ,n,rfl,fo Tm.out,HR1.out,HZ.out,Int.le_refl _,Int.le_refl _,fun _=>UK.out,by simp⟩
 have hNt':lv < (N:Int):=by omega
 have HZ2:Hid (Rz ts N (DD σ key lv)):=HZ.out.set HKM.out h0 hNt' YH.out;have HMU:Hid (jC N (DD σ key lv) (ai ts) + 1≤jC N σ (ai ts)):=Rk HZ2.out WQ.out h0 _ HKM.out;obtain ⟨Tt,cpL,hvl,hrow⟩:=MM (kJ HR.out.lean key);have HVL:Hid ((ML key).getD (.slice none 0 0)=.slice Tt (lookL E key).length cpL):=hvl;have hll:(lookL E key).length≤100000:=Sb (tZ _ _) hEl;clear hvl hrow;cases hs:σ key with
 | none =>
  have hlk:iw σ key=none:=by unfold iw; rw [hs]; rfl
  clear hs;go_enter func145,ntmps145
  go_wp2_with (first
   | (at_lookup; refine bW _ rfl _ _ 173 rfl 130 2 ib underlying173 (rQ _) bS n (iw σ) rfl Vv.out key kl rfl Ur.out ?_; simp only [hlk,Option.getD_none,Option.isSome_none])
   | (at_mapUpdate; refine jB _ rfl _ _ _ 173 rfl 130 2 ib oF underlying173 bS n (iw σ) rfl Vv.out (by unfold maxLen; omega) key kl rfl Ur.out (.int .i64 lv) rfl ?_; intro w2 hV2 hg2; have cL2:w2.cell? ⟨gL,0,none⟩=some (.map (some bL)):=(jg hg2 HR1.out.lL 0).trans HR1.out.cL; have k0:w2.cell? ⟨w.heap.size,0,none⟩=some (.string key.1):=(jg hg2 ⟨by simp,by omega⟩ 0).trans (by simp); have k1:w2.cell? ⟨w.heap.size,1,none⟩=some (.string key.2):=(jg hg2 ⟨by simp,by omega⟩ 1).trans (by simp))
   | (at_lookup; refine iY _ rfl _ _ 212 rfl 130 239 ib underlying212 (CL _) bL nL ML rfl ((HR1.out.lean.kept hg2 HR1.out.bne HR1.out.free).map) key kl rfl Ur.out ?_; rw [HVL.out]))
  have HR2:Hid (Rw w2 gS gC gL gR bS bL N (n + 1) nL ML E (DD σ key lv)):=HR1.out.kept hg2 (by rw [← Je]; exact hV2);have HG2:Hid (w.grownBy w2 (some bS)):=fu (fo Tm.out) hg2;clear hV2 hg2 cL2 k0 k1;go_loopw [35] (fun i w3=>∃ j:Nat,j≤(lookL E key).length∧i=.int .i64 j∧Hid (∃ (σ3:Ky→Option Int) (n3:Nat),Half E σ key lv j σ3∧Rw w3 gS gC gL gR bS bL N n3 nL ML E σ3∧Rz ts N σ3∧(n3:Int) + jC N σ3 (ai ts)≤n + jC N σ (ai ts)∧jC N σ3 (ai ts) + 1≤jC N σ (ai ts)∧w.grownBy w3 (some bS))) (fun i _=>(lookL E key).length - (intOf i).toNat);case atStart=>exact ⟨0,R6 _,rfl,⟨DD σ key lv,n + 1,Half.start WQ.out,HR2.out,HZ2.out,by have:=HMU.out; push_cast; omega,HMU.out,HG2.out⟩⟩
  case round =>
   clear HR2 HG2 HZ2 HMU;obtain ⟨j,hj,rfl,HI⟩:=hrel;by_cases hjl:j < (lookL E key).length
   ·obtain ⟨σ3,n3,hH3,U8,hZ3,Vi,Vt,hg3⟩:=HI.out;obtain ⟨SQ,cp',hv',hrow'⟩:=MM (kJ U8.lean key);rw [HVL.out] at hv';injection hv' with e1 e2 e3;subst e1;rcases hrow' with h | ⟨gr,SL,hgr1,WK,hcr⟩
    ·omega
    obtain ⟨st,hst⟩:∃ st,st=(lookL E key)[j]:=⟨_,rfl⟩;have r0:wr.cell? ⟨gr,j * 3,none⟩=some (.string st.typ):=hcr _ _ (by have:=gM (lookL E key) j hjl 0 (by omega); rw [hst]; simpa [St.cells] using this);have r1:wr.cell? ⟨gr,j * 3 + 1,none⟩=some (.string st.rel):=hcr _ _ (by have:=gM (lookL E key) j hjl 1 (by omega); rw [hst]; simpa [St.cells] using this);have r2:wr.cell? ⟨gr,j * 3 + 2,none⟩=some (.int .i64 st.n):=hcr _ _ (by have:=gM (lookL E key) j hjl 2 (by omega); rw [hst]; simpa [St.cells] using this);have HST:Hid (st=(lookL E key)[j]):=hst;obtain ⟨hsk,hsl,hsn0,hsn1⟩:=HE.out.low YH.out (s:=st) (by rw [hst]; exact RY hjl);have HSK:=aC hsk;have Uh:=aC hsl;have hj1:=bn j;have hj2:(j:Int) < ((lookL E key).length:Int):=by omega
    have cR3:=U8.cR;unfold yH at cR3;have lR3:=U8.lR.1;obtain ⟨W3,hW3⟩:∃ W3,W3=wr.alloc (.cells #[.string st.typ,.string st.rel,.int .i64 st.n] 241):=⟨_,rfl⟩;have UQ:Below wr.heap.size wr W3:=by rw [hW3]; exact (R3 _ _).alloc (R4 _) _
    have HR3:=aC (U8.below UQ);have UZ:Hid (w.grownBy W3 (some bS)):=fu hg3 (fo UQ);have HH3:=aC hH3;have HZ3:=aC hZ3;have hm3p:=hZ3.mu_pos (ai ts);have HNM:Hid ((n3:Int) + jC N σ3 (ai ts)≤n + jC N σ (ai ts)∧jC N σ3 (ai ts) + 1≤jC N σ (ai ts)):=⟨Vi,Vt⟩;rw [SL];clear hcr hgr1 WK hsk hsl hst U8 UQ hH3 hZ3 hg3 HI e2 e3;go_wp2_with fail;rw [← hW3];clear hW3 r0 r1 r2 cR3;refine (HIH.out (jC N σ3 (ai ts)).toNat (by omega) _ σ3 n3 st.key (lv + st.n) HR3.out HZ3.out (by omega) (by omega) HSK.out (by omega) (by omega) Uh.out).mono ?_;rintro e w5 ⟨ok,σ5,n5,rfl,hg5,XK,XL,hn5,Vh,YI,YJ⟩;cases ok with
    | false =>
     have HP:Hid (yI ts w gS gC gL gR bS bL N n nL ML E σ key lv (.returned (.bool false)) w5):=by
      have h:=HNM.out;exact ⟨false,σ5,n5,rfl,fu UZ.out hg5,XK,XL,by omega,by omega,fun _=>YI rfl,by simp⟩
     clear hg5 XK XL hn5 Vh YI YJ;go_wp2;go_ret;exact HP.out
    | true =>
     have HI2:Hid (∃ (σ3:Ky→Option Int) (n3:Nat),Half E σ key lv (j + 1) σ3∧Rw w5 gS gC gL gR bS bL N n3 nL ML E σ3∧Rz ts N σ3∧(n3:Int) + jC N σ3 (ai ts)≤n + jC N σ (ai ts)∧jC N σ3 (ai ts) + 1≤jC N σ (ai ts)∧w.grownBy w5 (some bS)):=by
      have h:=HNM.out;obtain ⟨Yf,y,hy,hle⟩:=YJ rfl;refine ⟨σ5,n5,HH3.out.step hjl Yf ⟨y,?_,?_⟩,XK,XL,by omega,by omega,fu UZ.out hg5⟩
      ·rw [← HST.out]; exact hy
      ·rw [← HST.out]; exact hle
     clear hg5 XK XL hn5 Vh YI YJ;go_wp2;go_roundw;case rel=>exact ⟨j + 1,by omega,by go_num,HI2⟩
     case measure=>simp [intOf] <;> omega
   ·obtain rfl:j=(lookL E key).length:=by omega
    have HP:Hid (yI ts w gS gC gL gR bS bL N n nL ML E σ key lv (.returned (.bool true)) wr):=by
     obtain ⟨σ3,n3,hH3,U8,hZ3,Vi,Vt,hg3⟩:=HI.out;exact ⟨true,σ3,n3,rfl,hg3,U8,hZ3,Vi,by omega,by simp,fun _=>⟨hH3.full (R4 _),hH3.at'⟩⟩
    clear HI;go_wp2;go_ret;exact HP.out
 | some x =>
  have hxt:x < lv:=WQ.out x hs;obtain ⟨-,hx0,hxN,-⟩:=HZ.out.there key x hs;have hlk:iw σ key=some (.int .i64 x):=by unfold iw; rw [hs]; rfl
  clear hs;go_enter func145,ntmps145
  go_wp2_with (first
   | (at_lookup; refine bW _ rfl _ _ 173 rfl 130 2 ib underlying173 (rQ _) bS n (iw σ) rfl Vv.out key kl rfl Ur.out ?_; simp only [hlk,Option.getD_some,Option.isSome_some])
   | (at_mapUpdate; refine jB _ rfl _ _ _ 173 rfl 130 2 ib oF underlying173 bS n (iw σ) rfl Vv.out (by unfold maxLen; omega) key kl rfl Ur.out (.int .i64 lv) rfl ?_; intro w2 hV2 hg2; have cL2:w2.cell? ⟨gL,0,none⟩=some (.map (some bL)):=(jg hg2 HR1.out.lL 0).trans HR1.out.cL; have k0:w2.cell? ⟨w.heap.size,0,none⟩=some (.string key.1):=(jg hg2 ⟨by simp,by omega⟩ 0).trans (by simp); have k1:w2.cell? ⟨w.heap.size,1,none⟩=some (.string key.2):=(jg hg2 ⟨by simp,by omega⟩ 1).trans (by simp))
   | (at_lookup; refine iY _ rfl _ _ 212 rfl 130 239 ib underlying212 (CL _) bL nL ML rfl ((HR1.out.lean.kept hg2 HR1.out.bne HR1.out.free).map) key kl rfl Ur.out ?_; rw [HVL.out]))
  have HR2:Hid (Rw w2 gS gC gL gR bS bL N (n + 1) nL ML E (DD σ key lv)):=HR1.out.kept hg2 (by rw [← Je]; exact hV2);have HG2:Hid (w.grownBy w2 (some bS)):=fu (fo Tm.out) hg2;clear hV2 hg2 cL2 k0 k1;go_loopw [35] (fun i w3=>∃ j:Nat,j≤(lookL E key).length∧i=.int .i64 j∧Hid (∃ (σ3:Ky→Option Int) (n3:Nat),Half E σ key lv j σ3∧Rw w3 gS gC gL gR bS bL N n3 nL ML E σ3∧Rz ts N σ3∧(n3:Int) + jC N σ3 (ai ts)≤n + jC N σ (ai ts)∧jC N σ3 (ai ts) + 1≤jC N σ (ai ts)∧w.grownBy w3 (some bS))) (fun i _=>(lookL E key).length - (intOf i).toNat);case atStart=>exact ⟨0,R6 _,rfl,⟨DD σ key lv,n + 1,Half.start WQ.out,HR2.out,HZ2.out,by have:=HMU.out; push_cast; omega,HMU.out,HG2.out⟩⟩
  case round =>
   clear HR2 HG2 HZ2 HMU;obtain ⟨j,hj,rfl,HI⟩:=hrel;by_cases hjl:j < (lookL E key).length
   ·obtain ⟨σ3,n3,hH3,U8,hZ3,Vi,Vt,hg3⟩:=HI.out;obtain ⟨SQ,cp',hv',hrow'⟩:=MM (kJ U8.lean key);rw [HVL.out] at hv';injection hv' with e1 e2 e3;subst e1;rcases hrow' with h | ⟨gr,SL,hgr1,WK,hcr⟩
    ·omega
    obtain ⟨st,hst⟩:∃ st,st=(lookL E key)[j]:=⟨_,rfl⟩;have r0:wr.cell? ⟨gr,j * 3,none⟩=some (.string st.typ):=hcr _ _ (by have:=gM (lookL E key) j hjl 0 (by omega); rw [hst]; simpa [St.cells] using this);have r1:wr.cell? ⟨gr,j * 3 + 1,none⟩=some (.string st.rel):=hcr _ _ (by have:=gM (lookL E key) j hjl 1 (by omega); rw [hst]; simpa [St.cells] using this);have r2:wr.cell? ⟨gr,j * 3 + 2,none⟩=some (.int .i64 st.n):=hcr _ _ (by have:=gM (lookL E key) j hjl 2 (by omega); rw [hst]; simpa [St.cells] using this);have HST:Hid (st=(lookL E key)[j]):=hst;obtain ⟨hsk,hsl,hsn0,hsn1⟩:=HE.out.low YH.out (s:=st) (by rw [hst]; exact RY hjl);have HSK:=aC hsk;have Uh:=aC hsl;have hj1:=bn j;have hj2:(j:Int) < ((lookL E key).length:Int):=by omega
    have cR3:=U8.cR;unfold yH at cR3;have lR3:=U8.lR.1;obtain ⟨W3,hW3⟩:∃ W3,W3=wr.alloc (.cells #[.string st.typ,.string st.rel,.int .i64 st.n] 241):=⟨_,rfl⟩;have UQ:Below wr.heap.size wr W3:=by rw [hW3]; exact (R3 _ _).alloc (R4 _) _
    have HR3:=aC (U8.below UQ);have UZ:Hid (w.grownBy W3 (some bS)):=fu hg3 (fo UQ);have HH3:=aC hH3;have HZ3:=aC hZ3;have hm3p:=hZ3.mu_pos (ai ts);have HNM:Hid ((n3:Int) + jC N σ3 (ai ts)≤n + jC N σ (ai ts)∧jC N σ3 (ai ts) + 1≤jC N σ (ai ts)):=⟨Vi,Vt⟩;rw [SL];clear hcr hgr1 WK hsk hsl hst U8 UQ hH3 hZ3 hg3 HI e2 e3;go_wp2_with fail;rw [← hW3];clear hW3 r0 r1 r2 cR3;refine (HIH.out (jC N σ3 (ai ts)).toNat (by omega) _ σ3 n3 st.key (lv + st.n) HR3.out HZ3.out (by omega) (by omega) HSK.out (by omega) (by omega) Uh.out).mono ?_;rintro e w5 ⟨ok,σ5,n5,rfl,hg5,XK,XL,hn5,Vh,YI,YJ⟩;cases ok with
    | false =>
     have HP:Hid (yI ts w gS gC gL gR bS bL N n nL ML E σ key lv (.returned (.bool false)) w5):=by
      have h:=HNM.out;exact ⟨false,σ5,n5,rfl,fu UZ.out hg5,XK,XL,by omega,by omega,fun _=>YI rfl,by simp⟩
     clear hg5 XK XL hn5 Vh YI YJ;go_wp2;go_ret;exact HP.out
    | true =>
     have HI2:Hid (∃ (σ3:Ky→Option Int) (n3:Nat),Half E σ key lv (j + 1) σ3∧Rw w5 gS gC gL gR bS bL N n3 nL ML E σ3∧Rz ts N σ3∧(n3:Int) + jC N σ3 (ai ts)≤n + jC N σ (ai ts)∧jC N σ3 (ai ts) + 1≤jC N σ (ai ts)∧w.grownBy w5 (some bS)):=by
      have h:=HNM.out;obtain ⟨Yf,y,hy,hle⟩:=YJ rfl;refine ⟨σ5,n5,HH3.out.step hjl Yf ⟨y,?_,?_⟩,XK,XL,by omega,by omega,fu UZ.out hg5⟩
      ·rw [← HST.out]; exact hy
      ·rw [← HST.out]; exact hle
     clear hg5 XK XL hn5 Vh YI YJ;go_wp2;go_roundw;case rel=>exact ⟨j + 1,by omega,by go_num,HI2⟩
     case measure=>simp [intOf] <;> omega
   ·obtain rfl:j=(lookL E key).length:=by omega
    have HP:Hid (yI ts w gS gC gL gR bS bL N n nL ML E σ key lv (.returned (.bool true)) wr):=by
     obtain ⟨σ3,n3,hH3,U8,hZ3,Vi,Vt,hg3⟩:=HI.out;exact ⟨true,σ3,n3,rfl,hg3,U8,hZ3,Vi,by omega,by simp,fun _=>⟨hH3.full (R4 _),hH3.at'⟩⟩
    clear HI;go_wp2;go_ret;exact HP.out
end Go.Proofs.YtdaoiceeidoehaaGreat
namespace Go.Proofs.YtdaoiceeidoehaaGreat
open Go.Sort
open Go.ChangeShapes Go.WideShapes Go.ChangeAt Go.RowKit
open Pl
attribute [local go_sem ↓] Go.wp_at_zero Go.wp_at_succ
theorem ug (b off cap:Nat) (ts:List Tp) (w:World) (hlen:ts.length≤maxLen) (hr:xQ w b off ts) (hb:b < w.heap.size) (hf:∀ t ∈ ts,t.fits) :
    Calls prog 88 #[.slice (some ⟨b,off,none⟩) ts.length cap] w fun e w'=>e=.returned (.bool (eQ ts))∧Below w.heap.size w w':=by
  unfold maxLen at hlen;by_cases hbig:40 < ts.length
  · have HT:Hid (eQ ts=false):=by show _=_; simp [eQ]; omega
    go_enter func88,ntmps88;go_wp2;go_ret;exact ⟨af HT.out.symm,R3 _ _⟩
  · go_enter func88,ntmps88;go_wp2;go_loopw [10] (fun i wr=>∃ k:Nat,k≤ts.length∧i=.int .i64 k∧Hid (tF ts k=true)∧Below w.heap.size w wr) (fun i _=>ts.length - (intOf i).toNat);case atStart=>exact ⟨0,R6 _,rfl,rfl,R3 _ _⟩
    case round =>
      obtain ⟨k,hk,rfl,hu,hB⟩:=hrel;by_cases hlt:k < ts.length
      · have HRB:=nZ (hr.below hB hb);have Tj:=nZ hf;obtain ⟨t0,t1,t2,t3,t4,t5⟩:=HRB.out k hlt;have hk1:=bn k;have hk2:(k:Int) < (ts.length:Int):=by omega
        clear hr hf;obtain ⟨W1,hW1⟩:∃ W1,W1=wr.alloc (.cells #[.string ts[k].a,.string ts[k].b,.string ts[k].r,.string ts[k].c,.string ts[k].d,.string ts[k].s] 73):=⟨_,rfl⟩;have hal:Below wr.heap.size wr W1:=by rw [hW1]; exact (R3 _ _).alloc (R4 _) _
        have c0:∀ d os,(grow (redrawn W1 d) os).cell? ⟨wr.heap.size,0,none⟩=some (.string ts[k].a):=cell_regrown (by rw [hW1]; simp);have c1:∀ d os,(grow (redrawn W1 d) os).cell? ⟨wr.heap.size,1,none⟩=some (.string ts[k].b):=cell_regrown (by rw [hW1]; simp);have c2:∀ d os,(grow (redrawn W1 d) os).cell? ⟨wr.heap.size,2,none⟩=some (.string ts[k].r):=cell_regrown (by rw [hW1]; simp);have c3:∀ d os,(grow (redrawn W1 d) os).cell? ⟨wr.heap.size,3,none⟩=some (.string ts[k].c):=cell_regrown (by rw [hW1]; simp);have c4:∀ d os,(grow (redrawn W1 d) os).cell? ⟨wr.heap.size,4,none⟩=some (.string ts[k].d):=cell_regrown (by rw [hW1]; simp);have c5:∀ d os,(grow (redrawn W1 d) os).cell? ⟨wr.heap.size,5,none⟩=some (.string ts[k].s):=cell_regrown (by rw [hW1]; simp);have TH:Hid (∀ d os,Below w.heap.size w (grow (redrawn W1 d) os)):=fun d os=>hB.trans ((hal.mono hB.size).trans ((below_regrown W1 d os).mono (Sb hB.size hal.size)));have HK:Hid (∀ p v,wr.cell? p=some v→W1.cell? p=some v):=fun p v h=>cell_later hal h;clear hal;go_wp2_with fail;rw [← hW1];clear hW1 t0 t1 t2 t3 t4 t5;have VD:Hid (∀ d os,Calls prog 65 #[.agg #[.string ts[k].a,.string ts[k].b,.string ts[k].r,.string ts[k].c,.string ts[k].d,.string ts[k].s]] (grow (redrawn W1 d) os) fun e w''=>e=.returned (.bool ts[k].ok)∧∃ p:Regrown,w''=grow (redrawn W1 p.d) p.os):=by
          obtain ⟨f0,f1,f2,f3,f4,f5⟩:=Tj.out ts[k] (RY hlt);exact cz fun W' _=>fe _ _ _ _ _ _ _ f0 f1 f2 f3 f4 f5
        cases hok:ts[k].ok with
        | false =>
          have HT:Hid (eQ ts=false):=rF hlt (Jd hlt hok);rw [hok] at VD;clear hok;refine wp_region_quiet_below (by kernel_rfl) (by kernel_rfl) ?_
          repeat (go_big_quiet_step (exact VD.out _ _))
          refine wpQuiet_nil ?_;rintro _ ⟨⟨dq,osq⟩,rfl⟩;go_wp2;go_ret;exact ⟨af HT.out.symm,TH.out dq osq⟩
        | true =>
          rw [hok] at VD;by_cases hz:k=0
          · have HU:Hid (tF ts (k + 1)=true):=by show _=_; rw [pF,hu.out]; subst hz; rw [tH hlt,hok]; rfl
            have hk8:decide ((0:Int) < (k:Int))=false:=by simp; omega
            have hk9:decide (0 < k)=false:=by simp; omega
            clear hok hz;refine wp_region_quiet_below (by kernel_rfl) (by kernel_rfl) ?_
            repeat (go_big_quiet_step (exact VD.out _ _))
            refine wpQuiet_nil ?_;rintro _ ⟨⟨dq,osq⟩,rfl⟩;go_wp2;go_roundw;case rel=>exact ⟨k + 1,by omega,by go_num,HU,TH.out dq osq⟩
            case measure=>simp [intOf]; omega
          · obtain ⟨m,hm⟩:∃ m:Nat,k=m + 1:=⟨k - 1,by omega⟩;have Tv:m < ts.length:=by omega
            obtain ⟨q0,q1,q2,q3,q4,q5⟩:=HRB.out m Tv;replace q0:=cell_regrown (HK.out _ _ q0);replace q1:=cell_regrown (HK.out _ _ q1);replace q2:=cell_regrown (HK.out _ _ q2);replace q3:=cell_regrown (HK.out _ _ q3);replace q4:=cell_regrown (HK.out _ _ q4);replace q5:=cell_regrown (HK.out _ _ q5);have hkm:(k:Int) - 1=(m:Int):=by omega
            have hm1:=bn m;have hm2:(m:Int) < (ts.length:Int):=by omega
            have hpos:(0:Int) < (k:Int):=by omega
            have hposN:0 < k:=by omega
            have hwm:IntKind.i64.wrap (m:Int)=(m:Int):=by rw [IntKind.wrap_i64]; omega
            have HA:Hid (wh ts k=ts[m].ahead ts[k]):=by show _=_; subst hm; rw [pG hlt,hok]; rfl
            have Yu:Hid (∀ d os,Calls prog 121 #[.agg #[.string ts[m].a,.string ts[m].b,.string ts[m].r,.string ts[m].c,.string ts[m].d,.string ts[m].s],.agg #[.string ts[k].a,.string ts[k].b,.string ts[k].r,.string ts[k].c,.string ts[k].d,.string ts[k].s]] (grow (redrawn W1 d) os) fun e w''=>e=.returned (.bool (ts[m].ahead ts[k]))∧∃ p:Regrown,w''=grow (redrawn W1 p.d) p.os):=by
              obtain ⟨f0,f1,f2,f3,f4,f5⟩:=Tj.out ts[k] (RY hlt);obtain ⟨g0,g1,g2,g3,g4,g5⟩:=Tj.out ts[m] (RY Tv);exact cz fun W' _=>zK _ _ _ _ _ _ _ _ _ _ _ _ _ g0 g1 g2 g3 g4 g5 f0 f1 f2 f3 f4 f5
            clear hm hz hok;cases ha:ts[m].ahead ts[k] with
            | false =>
              have HT:Hid (eQ ts=false):=rF hlt (by rw [HA.out,ha]);rw [ha] at Yu;clear ha HA;refine wp_region_quiet_below (by kernel_rfl) (by kernel_rfl) ?_
              repeat (go_big_quiet_step (first | exact VD.out _ _ | exact Yu.out _ _))
              refine wpQuiet_nil ?_;rintro _ ⟨⟨dq,osq⟩,rfl⟩;go_wp2;go_ret;exact ⟨af HT.out.symm,TH.out dq osq⟩
            | true =>
              have HU:Hid (tF ts (k + 1)=true):=by show _=_; rw [pF,hu.out,HA.out,ha]; rfl
              rw [ha] at Yu;clear ha HA;refine wp_region_quiet_below (by kernel_rfl) (by kernel_rfl) ?_
              repeat (go_big_quiet_step (first | exact VD.out _ _ | exact Yu.out _ _))
              refine wpQuiet_nil ?_;rintro _ ⟨⟨dq,osq⟩,rfl⟩;go_wp2;go_roundw;case rel=>exact ⟨k + 1,by omega,by go_num,HU,TH.out dq osq⟩
              case measure=>simp [intOf]; omega
      · go_wp2;go_ret;exact ⟨af (by have e:k=ts.length:=(by omega);subst e;simp [eQ,hu.out]; omega),hB⟩
end Go.Proofs.YtdaoiceeidoehaaGreat
namespace Go.Proofs.YtdaoiceeidoehaaGreat
open Go.Sort
open Go.ChangeShapes Go.WideShapes Go.ChangeAt Go.RowKit
open Pl
attribute [local go_sem ↓] Go.wp_at_zero Go.wp_at_succ
theorem uh (ad:Option Addr) (cap:Nat) (w:World) :
  Calls prog 53 #[.slice ad 0 cap] w fun e w'=>e=.returned (.bool (eQ []))∧Below w.heap.size w w':=by
 go_enter func53,ntmps53;go_wp2;go_loopw [3] (fun i wr=>∃ k:Nat,k=0∧i=.int .i64 k∧Below w.heap.size w wr) (fun i _=>(intOf i).toNat);case atStart=>exact ⟨0,rfl,rfl,R3 _ _⟩
 case round =>
  obtain ⟨k,rfl,rfl,hB⟩:=hrel;go_wp2;go_ret;exact ⟨rfl,hB⟩
theorem ui (ad:Option Addr) (cap:Nat) (w:World) :
  Calls prog 88 #[.slice ad 0 cap] w fun e w'=>e=.returned (.bool (eQ []))∧Below w.heap.size w w':=by
 go_enter func88,ntmps88;go_wp2;go_loopw [10] (fun i wr=>∃ k:Nat,k=0∧i=.int .i64 k∧Below w.heap.size w wr) (fun i _=>(intOf i).toNat);case atStart=>exact ⟨0,rfl,rfl,R3 _ _⟩
 case round =>
  obtain ⟨k,rfl,rfl,hB⟩:=hrel;go_wp2;go_ret;exact ⟨rfl,hB⟩
theorem uj (ad:Option Addr) (cap:Nat) (ts:List Tp) (w:World) (hlen:ts.length≤maxLen) (hs:Sl w ad ts) (hf:∀ t ∈ ts,t.fits) :
  Calls prog 53 #[.slice ad ts.length cap] w fun e w'=>e=.returned (.bool (eQ ts))∧Below w.heap.size w w':=by
 rcases hs with rfl | ⟨b,off,rfl,hb,hr⟩
 ·exact uh ad cap w
 ·exact tJ b off cap ts w hlen hr hb hf
theorem uk (ad:Option Addr) (cap:Nat) (ts:List Tp) (w:World) (hlen:ts.length≤maxLen) (hs:Sl w ad ts) (hf:∀ t ∈ ts,t.fits) :
  Calls prog 88 #[.slice ad ts.length cap] w fun e w'=>e=.returned (.bool (eQ ts))∧Below w.heap.size w w':=by
 rcases hs with rfl | ⟨b,off,rfl,hb,hr⟩
 ·exact ui ad cap w
 ·exact ug b off cap ts w hlen hr hb hf
theorem ja (a b:ByteArray) (w:World) :
  Calls prog 69 #[.agg #[.string a,.string b],.agg #[.string a,.string b]] w fun e w'=>e=.returned (.bool true)∧Below w.heap.size w w':=by
 go_enter func69,ntmps69;go_wp2;go_ret;exact ⟨rfl,((R3 _ _).alloc (R4 _) _).alloc (by simp) _⟩
theorem zR (a b r c d s:ByteArray) (w:World) :
  Calls prog 43 #[.agg #[.string a,.string b,.string r,.string c,.string d,.string s],.agg #[.string a,.string b,.string r,.string c,.string d,.string s]] w fun e w'=>e=.returned (.bool true)∧Below w.heap.size w w':=by
 go_enter func43,ntmps43;go_wp2_with fail;refine (ja _ _ _).mono ?_;rintro e w1 ⟨rfl,hb1⟩;obtain ⟨hc1,hf1⟩:=ed hb1;have hz1:w.heap.size + 1 < w1.heap.size:=by have:=hb1.size; simp at this; omega
 have hy1:w.heap.size < w1.heap.size:=by omega
 have HB1:Below w.heap.size w w1:=(((R3 _ _).alloc (R4 _) _).alloc (by simp) _).trans (hb1.mono (by simp; omega));go_wp2_with fail;refine (ja _ _ _).mono ?_;rintro e w2 ⟨rfl,hb2⟩;obtain ⟨hc2,hf2⟩:=ed hb2;have hz2:w.heap.size + 1 < w2.heap.size:=by have:=hb2.size; omega
 have hy2:w.heap.size < w2.heap.size:=by omega
 go_wp2;go_ret;exact ⟨rfl,HB1.trans (hb2.mono (by omega))⟩
theorem zS (b b' off off' cap cap':Nat) (ts:List Tp) (w:World) (hlen:ts.length≤maxLen) (hr:xQ w b off ts) (hb:b < w.heap.size) (hr':xQ w b' off' ts) (hb':b' < w.heap.size) :
  Calls prog 17 #[.slice (some ⟨b,off,none⟩) ts.length cap,.slice (some ⟨b',off',none⟩) ts.length cap'] w fun e w'=>e=.returned (.bool true)∧Below w.heap.size w w':=by
 unfold maxLen at hlen;go_enter func17,ntmps17;go_wp2;go_loopw [5] (fun i wr=>∃ k:Nat,k≤ts.length∧i=.int .i64 k∧Below w.heap.size w wr) (fun i _=>ts.length - (intOf i).toNat);case atStart=>exact ⟨0,R6 _,rfl,R3 _ _⟩
 case round =>
  obtain ⟨k,hk,rfl,hB⟩:=hrel;by_cases hlt:k < ts.length
  ·obtain ⟨t0,t1,t2,t3,t4,t5⟩:=(hr.below hB hb) k hlt;obtain ⟨q0,q1,q2,q3,q4,q5⟩:=(hr'.below hB hb') k hlt;have hk1:=bn k;have hk2:(k:Int) < (ts.length:Int):=by omega
   clear hr hr';replace t0:=cell_regrown t0;replace q0:=cell_regrown q0;replace t1:=cell_regrown t1;replace q1:=cell_regrown q1;replace t2:=cell_regrown t2;replace q2:=cell_regrown q2;replace t3:=cell_regrown t3;replace q3:=cell_regrown q3;replace t4:=cell_regrown t4;replace q4:=cell_regrown q4;replace t5:=cell_regrown t5;replace q5:=cell_regrown q5;have Ws:Hid (∀ d os,Calls prog 43 #[.agg #[.string ts[k].a,.string ts[k].b,.string ts[k].r,.string ts[k].c,.string ts[k].d,.string ts[k].s],.agg #[.string ts[k].a,.string ts[k].b,.string ts[k].r,.string ts[k].c,.string ts[k].d,.string ts[k].s]] (grow (redrawn wr d) os) fun e w''=>e=.returned (.bool true)∧∃ p:Regrown,w''=grow (redrawn wr p.d) p.os):=cz fun W' _=>zR _ _ _ _ _ _ _;go_wp2_with fail;refine wp_region_quiet_below (by kernel_rfl) (by kernel_rfl) ?_
   repeat (go_big_quiet_step (exact Ws.out _ _))
   refine wpQuiet_nil ?_;rintro _ ⟨⟨dq,osq⟩,rfl⟩;have HB:=hB.trans ((below_regrown wr dq osq).mono hB.size);go_wp2;go_roundw;case rel=>exact ⟨k + 1,by omega,by go_num,HB⟩
   case measure=>simp [intOf]; omega
  ·go_wp2;go_ret;exact ⟨rfl,hB⟩
end Go.Proofs.YtdaoiceeidoehaaGreat
