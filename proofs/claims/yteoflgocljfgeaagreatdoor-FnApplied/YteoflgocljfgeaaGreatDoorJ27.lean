/- The program's raising of strata in plain words. -/
import Derived.Test.YteoflgocljfgeaaGreatDoorImplLeaners
import Derived.Laws.EntriesVeiled
open Go.Proofs.Tryz
set_option maxHeartbeats 80000000
namespace Go.Proofs.YteoflgocljfgeaaGreatDoor
open Pl
def Edge (ts:List Ty) (E:List (Ky × St)):Prop:=∀ on t r s,(on,⟨t,r,s⟩) ∈ E ↔ (t,r) ∈ az ts∧∃ d ∈ fI ts (t,r),(d.typ,d.rel)=on∧stepOf d=s
def tH:Option Int→Int
 | none=>0
 | some x=>x + 1
def jg (N:Nat) (σ:Ky→Option Int):List Ky→Int
 | []=>0
 | k::ks=>((N:Int) - tH (σ k)) + jg N σ ks
structure Rz (ts:List Ty) (N:Nat) (σ:Ky→Option Int):Prop where
 there:∀ k x,σ k=some x→k ∈ az ts∧0≤x∧x < N∧lu ts k x
def Bc (σ:Ky→Option Int) (k:Ky) (x:Int):Ky→Option Int:=fun y=>if y=k then some x else σ y
theorem lI (σ:Ky→Option Int) (k:Ky) (x:Int):Bc σ k x k=some x:=by simp [Bc]
theorem pE {σ:Ky→Option Int} {k y:Ky} {x:Int} (h:y ≠ k):Bc σ k x y=σ y:=by simp [Bc,h]
theorem Rz.val {ts:List Ty} {N:Nat} {σ:Ky→Option Int} (h:Rz ts N σ) (k:Ky):0≤tH (σ k)∧tH (σ k)≤N:=by
 cases e:σ k with
 | none=>simp [tH]
 | some x=>have:=h.there k x e; simp only [tH]; omega
theorem Rz.mu_pos {ts:List Ty} {N:Nat} {σ:Ky→Option Int} (h:Rz ts N σ) (ks:List Ky):0≤jg N σ ks:=by
 induction ks with
 | nil=>simp [jg]
 | cons k ks ih=>have:=h.val k; simp only [jg]; omega
theorem Rz.set {ts:List Ty} {N:Nat} {σ:Ky→Option Int} (h:Rz ts N σ) {k:Ky} {x:Int} (hk:k ∈ az ts) (h0:0≤x) (hN:x < N) (hl:lu ts k x):Rz ts N (Bc σ k x):=⟨fun y z hz=>by
 by_cases e:y=k
 ·subst e; rw [lI] at hz; injection hz with hz; subst hz; exact ⟨hk,h0,hN,hl⟩
 ·rw [pE e] at hz; exact h.there y z hz⟩
def rV (σ σ':Ky→Option Int):Prop:=∀ k x,σ k=some x→∃ y,σ' k=some y∧x≤y
theorem rV.refl (σ:Ky→Option Int):rV σ σ:=fun _ x h=>⟨x,h,Int.le_refl _⟩
theorem rV.trans {a b c:Ky→Option Int} (h:rV a b) (h2:rV b c):rV a c:=fun k x hx=>by
 obtain ⟨y,hy,h3⟩:=h k x hx;obtain ⟨z,hz,h4⟩:=h2 k y hy;exact ⟨z,hz,by omega⟩
theorem rV.val {σ σ':Ky→Option Int} {ts:List Ty} {N:Nat} (h:rV σ σ') (hR:Rz ts N σ') (k:Ky):tH (σ k)≤tH (σ' k):=by
 cases e:σ k with
 | none=>exact (hR.val k).1
 | some x=>obtain ⟨y,hy,h2⟩:=h k x e; rw [hy]; simp only [tH]; omega
theorem rV.mu {σ σ':Ky→Option Int} {ts:List Ty} {N:Nat} (h:rV σ σ') (hR:Rz ts N σ') (ks:List Ky):jg N σ' ks≤jg N σ ks:=by
 induction ks with
 | nil=>exact Int.le_refl _
 | cons k ks ih=>have:=h.val hR k; simp only [jg]; omega
theorem vD {σ:Ky→Option Int} {k:Ky} {x:Int} (h:∀ y,σ k=some y→y < x):rV σ (Bc σ k x):=fun y z hz=>by
 by_cases e:y=k
 ·subst e; exact ⟨x,lI _ _ _,by have:=h z hz; omega⟩
 ·exact ⟨z,by rw [pE e]; exact hz,Int.le_refl _⟩
theorem Np {σ:Ky→Option Int} {ts:List Ty} {N:Nat} {k:Ky} {x:Int} (hR:Rz ts N (Bc σ k x)) (h:∀ y,σ k=some y→y < x) (h0:0≤x) (ks:List Ky) (hk:k ∈ ks):jg N (Bc σ k x) ks + 1≤jg N σ ks:=by
 induction ks with
 | nil=>cases hk
 | cons y ks ih =>
  simp only [jg];have hm:=(vD h).mu hR ks;have hv:=(vD h).val hR y;rcases List.mem_cons.1 hk with rfl | hk
  ·have:tH (σ k) + 1≤tH (Bc σ k x k):=by
    rw [lI];cases e:σ k with
    | none=>simp only [tH]; omega
    | some z=>have:=h z e; simp only [tH]; omega
   omega
  ·have:=ih hk; omega
def pF (E:List (Ky × St)) (σ:Ky→Option Int) (k:Ky):Prop:=∀ x,σ k=some x→∀ s ∈ lookL E k,∃ y,σ s.key=some y∧x + s.n≤y
structure Raised (E:List (Ky × St)) (σ σ':Ky→Option Int):Prop where
 mono:rV σ σ'
 done:∀ k,(pF E σ k ∨ σ' k ≠ σ k)→pF E σ' k
theorem Raised.refl (E:List (Ky × St)) (σ:Ky→Option Int):Raised E σ σ:=⟨rV.refl _,fun _ h=>h.elim id (fun e=>absurd rfl e)⟩
theorem Raised.trans {E:List (Ky × St)} {a b c:Ky→Option Int} (h:Raised E a b) (h2:Raised E b c):Raised E a c:=⟨h.mono.trans h2.mono,fun k hk=>by
 by_cases e:c k=b k
 ·by_cases e2:b k=a k
  ·rcases hk with hk | hk
   ·exact h2.done k (.inl (h.done k (.inl hk)))
   ·exact absurd (e.trans e2) hk
  ·exact h2.done k (.inl (h.done k (.inr e2)))
 ·exact h2.done k (.inr e)⟩
structure Half (E:List (Ky × St)) (σ:Ky→Option Int) (key:Ky) (x:Int) (j:Nat) (σ':Ky→Option Int):Prop where
 mono:rV σ σ'
 done:∀ k,k ≠ key→(pF E σ k ∨ σ' k ≠ σ k)→pF E σ' k
 own:pF E σ' key ∨ (σ' key=some x∧∀ s ∈ (lookL E key).take j,∃ y,σ' s.key=some y∧x + s.n≤y)
 at':∃ y,σ' key=some y∧x≤y
theorem Half.start {E:List (Ky × St)} {σ:Ky→Option Int} {key:Ky} {x:Int} (h:∀ y,σ key=some y→y < x):Half E σ key x 0 (Bc σ key x) where
 mono:=vD h
 done k hk hs:=by
  have e:Bc σ key x k=σ k:=pE hk;rcases hs with hs | hs
  ·intro z hz s hm;rw [e] at hz;obtain ⟨y,hy,hle⟩:=hs z hz s hm;obtain ⟨y',hy',h2⟩:=vD h _ y hy;exact ⟨y',hy',by omega⟩
  ·exact absurd e hs
 own:=.inr ⟨lI _ _ _,fun s hs=>by simp at hs⟩
 at':=⟨x,lI _ _ _,Int.le_refl _⟩
theorem Half.step {E:List (Ky × St)} {σ σ1 σ2:Ky→Option Int} {key:Ky} {x:Int} {j:Nat} (h:Half E σ key x j σ1) (hj:j < (lookL E key).length) (hR:Raised E σ1 σ2) (hy:∃ y,σ2 (lookL E key)[j].key=some y∧x + (lookL E key)[j].n≤y):Half E σ key x (j + 1) σ2 where
 mono:=h.mono.trans hR.mono
 done k hk hs:=by
  by_cases e:σ2 k=σ1 k
  ·by_cases e2:σ1 k=σ k
   ·rcases hs with hs | hs
    ·exact hR.done k (.inl (h.done k hk (.inl hs)))
    ·exact absurd (e.trans e2) hs
   ·exact hR.done k (.inl (h.done k hk (.inr e2)))
  ·exact hR.done k (.inr e)
 own:=by
  rcases h.own with ho | ⟨h1,h2⟩
  ·exact .inl (hR.done key (.inl ho))
  ·by_cases e:σ2 key=σ1 key
   ·refine .inr ⟨e.trans h1,fun s hs=>?_⟩;rw [List.take_succ_eq_append_getElem hj] at hs;rcases List.mem_append.1 hs with hs | hs
    ·obtain ⟨y,hy1,hy2⟩:=h2 s hs;obtain ⟨z,hz,h3⟩:=hR.mono _ y hy1;exact ⟨z,hz,by omega⟩
    ·simp at hs; subst hs; exact hy
   ·exact .inl (hR.done key (.inr e))
 at':=by
  obtain ⟨y,hy,h1⟩:=h.at';obtain ⟨z,hz,h2⟩:=hR.mono key y hy;exact ⟨z,hz,by omega⟩
theorem Half.full {E:List (Ky × St)} {σ σ':Ky→Option Int} {key:Ky} {x:Int} {j:Nat} (h:Half E σ key x j σ') (hj:(lookL E key).length≤j):Raised E σ σ' where
 mono:=h.mono
 done k hk:=by
  by_cases e:k=key
  ·subst e;rcases h.own with ho | ⟨h1,h2⟩
   ·exact ho
   ·intro z hz s hs;rw [h1] at hz; injection hz with hz; subst hz;exact h2 s (by rw [List.take_of_length_le hj]; exact hs)
  ·exact h.done k e hk
theorem AX {ts:List Ty} {N:Nat} {E:List (Ky × St)} {σ:Ky→Option Int} (hE:Edge ts E) (hF:Found ts) (hR:Rz ts N σ) (hall:∀ k ∈ az ts,∃ x,σ k=some x) (hs:∀ k,pF E σ k):Least ts (fun k=>(σ k).getD 0) where
 sol:=⟨fun k=>by
   cases e:σ k with
   | none=>exact Int.le_refl _
   | some x=>exact (hR.there k x e).2.1,fun k hk d hd=>by
   obtain ⟨x,hx⟩:=hall _ (hF k hk d hd);have hm:(⟨k.1,k.2,stepOf d⟩:St) ∈ lookL E (d.typ,d.rel):=sZ.2 ((hE _ _ _ _).2 ⟨hk,d,hd,rfl,rfl⟩);obtain ⟨y,hy,h2⟩:=hs _ x hx _ hm;have hy':σ k=some y:=hy;simp only [hx,hy',Option.getD_some];exact h2⟩
 low k hk:=by
  obtain ⟨x,hx⟩:=hall k hk;simp only [hx,Option.getD_some];exact (hR.there k x hx).2.2.2
theorem Edge.low {ts:List Ty} {E:List (Ky × St)} (hE:Edge ts E) {k:Ky} {x:Int} (hl:lu ts k x) {s:St} (hs:s ∈ lookL E k):s.key ∈ az ts∧lu ts s.key (x + s.n)∧0≤s.n∧s.n≤1:=by
 obtain ⟨h1,d,hd,e1,e2⟩:=(hE k s.typ s.rel s.n).1 (sZ.1 hs);have:=wX d;refine ⟨h1,?_,by omega,by omega⟩;rw [← e2];exact lu.step h1 hd (by rw [e1]; exact hl)
open Go.ChangeAt Go.ChangeShapes Go.Maps Go.RowKit Go.WideShapes
def gF (σ:Ky→Option Int):Ky→Option Value:=fun k=>(σ k).map fun x=>Value.int .i64 x
theorem Fj (σ:Ky→Option Int) (k:Ky) (x:Int):kD (gF σ) k (some (.int .i64 x))=gF (Bc σ k x):=by
 funext y
 unfold gF;by_cases e:y=k
 ·subst e; rw [dP,lI]; rfl
 ·rw [bJ e,pE e]
theorem rW (u:World):(zeroValue 2).run prog u=.ok (.int .i64 0) u:=by kernel_rfl
def xR (gS gC gL gR:Nat):Value:=.func (Fn.func 137) #[] #[.pointer (some ⟨gS,0,none⟩),.pointer (some ⟨gC,0,none⟩),.pointer (some ⟨gL,0,none⟩),.pointer (some ⟨gR,0,none⟩)]
structure Rw (w:World) (gS gC gL gR bS bL N n nL:Nat) (ML:Ky→Option Value) (E:List (Ky × St)) (σ:Ky→Option Int):Prop where
 cS:w.cell? ⟨gS,0,none⟩=some (.map (some bS))
 cC:w.cell? ⟨gC,0,none⟩=some (.int .i64 N)
 cL:w.cell? ⟨gL,0,none⟩=some (.map (some bL))
 cR:w.cell? ⟨gR,0,none⟩=some (xR gS gC gL gR)
 lS:gS < w.heap.size∧gS ≠ bS
 lC:gC < w.heap.size∧gC ≠ bS
 lL:gL < w.heap.size∧gL ≠ bS
 lR:gR < w.heap.size∧gR ≠ bS
 map:aJ bI prog 147 w bS n (gF σ)
 lean:Grp w bL nL ML E
 bne:bL ≠ bS
 free:FreeB ML bS
theorem oC {w w':World} {b g:Nat} (hg:w.grownBy w' (some b)) (hl:g < w.heap.size∧g ≠ b) (o:Nat):w'.cell? ⟨g,o,none⟩=w.cell? ⟨g,o,none⟩:=World.cell?_of_block (w:=w) (hg.block g hl.1 (fun e=>hl.2 (by injection e)))
theorem Grp.kept {w w':World} {bL n b:Nat} {M:Ky→Option Value} {E:List (Ky × St)} (h:Grp w bL n M E) (hg:w.grownBy w' (some b)) (hb:bL ≠ b) (hf:FreeB M b):Grp w' bL n M E where
 map:=h.map.kept hg (by intro e; injection e with e; exact hb e)
 row k:=by
  rcases h.row k with e | ⟨v,e,ho⟩
  ·exact .inl e
  ·exact .inr ⟨v,e,ho.kept hg (.inr (hf k v e))⟩
 apart:=h.apart
theorem Rw.kept {w w':World} {gS gC gL gR bS bL N n n' nL:Nat} {ML:Ky→Option Value} {E:List (Ky × St)} {σ σ':Ky→Option Int} (h:Rw w gS gC gL gR bS bL N n nL ML E σ) (hg:w.grownBy w' (some bS)) (hM:aJ bI prog 147 w' bS n' (gF σ')):Rw w' gS gC gL gR bS bL N n' nL ML E σ' where
 cS:=(oC hg h.lS 0).trans h.cS
 cC:=(oC hg h.lC 0).trans h.cC
 cL:=(oC hg h.lL 0).trans h.cL
 cR:=(oC hg h.lR 0).trans h.cR
 lS:=⟨Nat.lt_of_lt_of_le h.lS.1 hg.size,h.lS.2⟩
 lC:=⟨Nat.lt_of_lt_of_le h.lC.1 hg.size,h.lC.2⟩
 lL:=⟨Nat.lt_of_lt_of_le h.lL.1 hg.size,h.lL.2⟩
 lR:=⟨Nat.lt_of_lt_of_le h.lR.1 hg.size,h.lR.2⟩
 map:=hM
 lean:=h.lean.kept hg h.bne h.free
 bne:=h.bne
 free:=h.free
theorem eB {w w':World} {b:Nat} (h:Below w.heap.size w w'):w.grownBy w' (some b):=⟨h.os,h.tape,h.output,h.size,fun k hk _=>h.block k hk⟩
theorem Rw.below {w w':World} {gS gC gL gR bS bL N n nL:Nat} {ML:Ky→Option Value} {E:List (Ky × St)} {σ:Ky→Option Int} (h:Rw w gS gC gL gR bS bL N n nL ML E σ) (hB:Below w.heap.size w w'):Rw w' gS gC gL gR bS bL N n nL ML E σ:=h.kept (eB hB) (h.map.below hB)
theorem eD {a b c:World} {r:Option Nat} (h:a.grownBy b r) (h2:b.grownBy c r):a.grownBy c r:=⟨h2.os.trans h.os,h2.tape.trans h.tape,h2.output.trans h.output,Nat.le_trans h.size h2.size,fun k hk hr=>(h2.block k (Nat.lt_of_lt_of_le hk h.size) hr).trans (h.block k hk hr)⟩
def xS (ts:List Ty) (w:World) (gS gC gL gR bS bL N n nL:Nat) (ML:Ky→Option Value) (E:List (Ky × St)) (σ:Ky→Option Int) (key:Ky) (lv:Int) (e:Ending) (w':World):Prop :=
 ∃ (ok:Bool) (σ':Ky→Option Int) (n':Nat),e=.returned (.bool ok)∧w.grownBy w' (some bS)∧Rw w' gS gC gL gR bS bL N n' nL ML E σ'∧Rz ts N σ'∧(n':Int) + jg N σ' (az ts)≤n + jg N σ (az ts)∧jg N σ' (az ts)≤jg N σ (az ts) ∧
  (ok=false→¬ ∃ f,Sol ts f)∧(ok=true→Raised E σ σ'∧∃ x,σ' key=some x∧lv≤x)
set_option maxRecDepth 100000 in
theorem GI (ts:List Ty) (gS gC gL gR bS bL N nL:Nat) (ML:Ky→Option Value) (E:List (Ky × St)) (hE:Edge ts E) (hF:Found ts) (hN:N=(az ts).length) (hN36:N≤36) (hsz:∀ k ∈ az ts,k.1.size≤maxLen∧k.2.size≤maxLen) (hEl:E.length≤100000) (f:Nat) :
  ∀ (w:World) (σ:Ky→Option Int) (n:Nat) (key:Ky) (lv:Int),Rw w gS gC gL gR bS bL N n nL ML E σ→Rz ts N σ→jg N σ (az ts)≤f→(n:Int) + jg N σ (az ts)≤100000→key ∈ az ts→0≤lv→lv≤100→lu ts key lv →
  Calls prog 137 #[.agg #[.string key.1,.string key.2],.int .i64 lv,.pointer (some ⟨gS,0,none⟩),.pointer (some ⟨gC,0,none⟩),.pointer (some ⟨gL,0,none⟩),.pointer (some ⟨gR,0,none⟩)] w (xS ts w gS gC gL gR bS bL N n nL ML E σ key lv):=by
 have HE:Hid (Edge ts E):=hE;have HF:Hid (Found ts):=hF;have HSZ:Hid (∀ k ∈ az ts,k.1.size≤maxLen∧k.2.size≤maxLen):=hsz;have HNN:Hid (N=(az ts).length):=hN;clear hE hF hsz hN
 induction f using Nat.strongRecOn with
 | _ f ih =>
 intro w σ n key lv hR hZ hmu hnm hk h0 h1 hl;have HIH:Hid (∀ m < f,_):=ih;clear ih;obtain ⟨hz1,hz2⟩:=HSZ.out key hk;obtain ⟨kl,hkl⟩:=jo key hz1 hz2;have HKL:Hid (keyOf prog 147 (bI key)=some kl):=hkl;have HR:Hid (Rw w gS gC gL gR bS bL N n nL ML E σ):=hR;have HZ:Hid (Rz ts N σ):=hZ;have HLK:Hid (lu ts key lv):=hl;have HKM:Hid (key ∈ az ts):=hk;have hmp:=hZ.mu_pos (az ts);have cS:=hR.cS;have cC:=hR.cC;have cL:=hR.cL;have lS:=hR.lS.1;have lC:=hR.lC.1;have lL:=hR.lL.1;have hbS:=hR.map.lt;have hal:Below w.heap.size w (w.alloc (.cells #[.string key.1,.string key.2] 147)):=(Below.refl _ _).alloc (Nat.le_refl _) _;have HAL:Hid (Below w.heap.size w (w.alloc (.cells #[.string key.1,.string key.2] 147))):=hal;have HM1:Hid (aJ bI prog 147 (w.alloc (.cells #[.string key.1,.string key.2] 147)) bS n (gF σ)):=hR.map.below hal;have HR1:Hid (Rw (w.alloc (.cells #[.string key.1,.string key.2] 147)) gS gC gL gR bS bL N n nL ML E σ):=hR.below hal;clear hR hZ hl hkl hal hk;by_cases hd:∃ x,σ key=some x∧lv≤x
 ·obtain ⟨x,hx,hle⟩:=hd;obtain ⟨-,hx0,hxN,-⟩:=HZ.out.there key x hx;have hlk:gF σ key=some (.int .i64 x):=by unfold gF; rw [hx]; rfl
  have HX:Hid (σ key=some x):=hx;clear hx;go_enter func137,ntmps137;go_wp2_with (at_lookup; refine dQ _ rfl _ _ 143 rfl 147 2 iq underlying143 (rW _) bS n (gF σ) rfl HM1.out key kl rfl HKL.out ?_; simp only [hlk,Option.getD_some,Option.isSome_some]);go_ret;exact ⟨true,σ,n,rfl,eB HAL.out,HR1.out,HZ.out,Int.le_refl _,Int.le_refl _,by simp,fun _=>⟨Raised.refl _ _,x,HX.out,hle⟩⟩
 have HLT:Hid (∀ y,σ key=some y→y < lv):=fun y hy=>by
  by_cases h:lv≤y
  ·exact absurd ⟨y,hy,h⟩ hd
  ·omega
 clear hd;by_cases hNt:(N:Int)≤lv
 ·have HNO:Hid (¬ ∃ f,Sol ts f):=IQ HF.out HKM.out HLK.out (by have:=HNN.out; omega);cases hs:σ key with
  | none =>
   have hlk:gF σ key=none:=by unfold gF; rw [hs]; rfl
   clear hs;go_enter func137,ntmps137;go_wp2_with (at_lookup; refine dQ _ rfl _ _ 143 rfl 147 2 iq underlying143 (rW _) bS n (gF σ) rfl HM1.out key kl rfl HKL.out ?_; simp only [hlk,Option.getD_none,Option.isSome_none]);go_ret;exact ⟨false,σ,n,rfl,eB HAL.out,HR1.out,HZ.out,Int.le_refl _,Int.le_refl _,fun _=>HNO.out,by simp⟩
  | some x =>
   have hxt:x < lv:=HLT.out x hs;obtain ⟨-,hx0,hxN,-⟩:=HZ.out.there key x hs;have hlk:gF σ key=some (.int .i64 x):=by unfold gF; rw [hs]; rfl
   clear hs;go_enter func137,ntmps137;go_wp2_with (at_lookup; refine dQ _ rfl _ _ 143 rfl 147 2 iq underlying143 (rW _) bS n (gF σ) rfl HM1.out key kl rfl HKL.out ?_; simp only [hlk,Option.getD_some,Option.isSome_some]);go_ret;exact ⟨false,σ,n,rfl,eB HAL.out,HR1.out,HZ.out,Int.le_refl _,Int.le_refl _,fun _=>HNO.out,by simp⟩
 have hNt':lv < (N:Int):=by omega
 have HZ2:Hid (Rz ts N (Bc σ key lv)):=HZ.out.set HKM.out h0 hNt' HLK.out;have HMU:Hid (jg N (Bc σ key lv) (az ts) + 1≤jg N σ (az ts)):=Np HZ2.out HLT.out h0 _ HKM.out;obtain ⟨adL,cpL,hvl,hrow⟩:=IW (ku HR.out.lean key);have HVL:Hid ((ML key).getD (.slice none 0 0)=.slice adL (lookL E key).length cpL):=hvl;have hll:(lookL E key).length≤100000:=Nat.le_trans (tF _ _) hEl;clear hvl hrow;cases hs:σ key with
 | none =>
  have hlk:gF σ key=none:=by unfold gF; rw [hs]; rfl
  clear hs;go_enter func137,ntmps137
  go_wp2_with (first
   | (at_lookup; refine dQ _ rfl _ _ 143 rfl 147 2 iq underlying143 (rW _) bS n (gF σ) rfl HM1.out key kl rfl HKL.out ?_; simp only [hlk,Option.getD_none,Option.isSome_none])
   | (at_mapUpdate; refine kQ _ rfl _ _ _ 143 rfl 147 2 iq nI underlying143 bS n (gF σ) rfl HM1.out (by unfold maxLen; omega) key kl rfl HKL.out (.int .i64 lv) rfl ?_; intro w2 hV2 hg2; have cL2:w2.cell? ⟨gL,0,none⟩=some (.map (some bL)):=(oC hg2 HR1.out.lL 0).trans HR1.out.cL; have k0:w2.cell? ⟨w.heap.size,0,none⟩=some (.string key.1):=(oC hg2 ⟨by simp,by omega⟩ 0).trans (by simp); have k1:w2.cell? ⟨w.heap.size,1,none⟩=some (.string key.2):=(oC hg2 ⟨by simp,by omega⟩ 1).trans (by simp))
   | (at_lookup; refine il _ rfl _ _ 196 rfl 147 237 iq underlying196 (AU _) bL nL ML rfl ((HR1.out.lean.kept hg2 HR1.out.bne HR1.out.free).map) key kl rfl HKL.out ?_; rw [HVL.out]))
  have HR2:Hid (Rw w2 gS gC gL gR bS bL N (n + 1) nL ML E (Bc σ key lv)):=HR1.out.kept hg2 (by rw [← Fj]; exact hV2);have HG2:Hid (w.grownBy w2 (some bS)):=eD (eB HAL.out) hg2;clear hV2 hg2 cL2 k0 k1;go_loopw [35] (fun i w3=>∃ j:Nat,j≤(lookL E key).length∧i=.int .i64 j∧Hid (∃ (σ3:Ky→Option Int) (n3:Nat),Half E σ key lv j σ3∧Rw w3 gS gC gL gR bS bL N n3 nL ML E σ3∧Rz ts N σ3∧(n3:Int) + jg N σ3 (az ts)≤n + jg N σ (az ts)∧jg N σ3 (az ts) + 1≤jg N σ (az ts)∧w.grownBy w3 (some bS))) (fun i _=>(lookL E key).length - (intOf i).toNat);case atStart=>exact ⟨0,Nat.zero_le _,rfl,⟨Bc σ key lv,n + 1,Half.start HLT.out,HR2.out,HZ2.out,by have:=HMU.out; push_cast; omega,HMU.out,HG2.out⟩⟩
  case round =>
   clear HR2 HG2 HZ2 HMU;obtain ⟨j,hj,rfl,HI⟩:=hrel;by_cases hjl:j < (lookL E key).length
   ·obtain ⟨σ3,n3,hH3,hR3,hZ3,hn3,hm3,hg3⟩:=HI.out;obtain ⟨ad',cp',hv',hrow'⟩:=IW (ku hR3.lean key);rw [HVL.out] at hv';injection hv' with e1 e2 e3;subst e1;rcases hrow' with h | ⟨gr,hadr,hgr1,hgr2,hcr⟩
    ·omega
    obtain ⟨st,hst⟩:∃ st,st=(lookL E key)[j]:=⟨_,rfl⟩;have r0:wr.cell? ⟨gr,j * 3,none⟩=some (.string st.typ):=hcr _ _ (by have:=fP (lookL E key) j hjl 0 (by omega); rw [hst]; simpa [St.cells] using this);have r1:wr.cell? ⟨gr,j * 3 + 1,none⟩=some (.string st.rel):=hcr _ _ (by have:=fP (lookL E key) j hjl 1 (by omega); rw [hst]; simpa [St.cells] using this);have r2:wr.cell? ⟨gr,j * 3 + 2,none⟩=some (.int .i64 st.n):=hcr _ _ (by have:=fP (lookL E key) j hjl 2 (by omega); rw [hst]; simpa [St.cells] using this);have HST:Hid (st=(lookL E key)[j]):=hst;obtain ⟨hsk,hsl,hsn0,hsn1⟩:=HE.out.low HLK.out (s:=st) (by rw [hst]; exact List.getElem_mem hjl);have HSK:Hid (st.key ∈ az ts):=hsk;have HSL:Hid (lu ts st.key (lv + st.n)):=hsl;have hj1:=bR j;have hj2:(j:Int) < ((lookL E key).length:Int):=by omega
    have cR3:=hR3.cR;unfold xR at cR3;have lR3:=hR3.lR.1;obtain ⟨W3,hW3⟩:∃ W3,W3=wr.alloc (.cells #[.string st.typ,.string st.rel,.int .i64 st.n] 239):=⟨_,rfl⟩;have hal3:Below wr.heap.size wr W3:=by rw [hW3]; exact (Below.refl _ _).alloc (Nat.le_refl _) _
    have HR3:Hid (Rw W3 gS gC gL gR bS bL N n3 nL ML E σ3):=hR3.below hal3;have HG3:Hid (w.grownBy W3 (some bS)):=eD hg3 (eB hal3);have HH3:Hid (Half E σ key lv j σ3):=hH3;have HZ3:Hid (Rz ts N σ3):=hZ3;have hm3p:=hZ3.mu_pos (az ts);have HNM:Hid ((n3:Int) + jg N σ3 (az ts)≤n + jg N σ (az ts)∧jg N σ3 (az ts) + 1≤jg N σ (az ts)):=⟨hn3,hm3⟩;rw [hadr];clear hcr hgr1 hgr2 hsk hsl hst hR3 hal3 hH3 hZ3 hg3 HI e2 e3;go_wp2_with fail;rw [← hW3];clear hW3 r0 r1 r2 cR3;refine (HIH.out (jg N σ3 (az ts)).toNat (by omega) _ σ3 n3 st.key (lv + st.n) HR3.out HZ3.out (by omega) (by omega) HSK.out (by omega) (by omega) HSL.out).mono ?_;rintro e w5 ⟨ok,σ5,n5,rfl,hg5,hR5,hZ5,hn5,hm5,hf5,ht5⟩;cases ok with
    | false =>
     have HP:Hid (xS ts w gS gC gL gR bS bL N n nL ML E σ key lv (.returned (.bool false)) w5):=by
      have h:=HNM.out;exact ⟨false,σ5,n5,rfl,eD HG3.out hg5,hR5,hZ5,by omega,by omega,fun _=>hf5 rfl,by simp⟩
     clear hg5 hR5 hZ5 hn5 hm5 hf5 ht5;go_wp2;go_ret;exact HP.out
    | true =>
     have HI2:Hid (∃ (σ3:Ky→Option Int) (n3:Nat),Half E σ key lv (j + 1) σ3∧Rw w5 gS gC gL gR bS bL N n3 nL ML E σ3∧Rz ts N σ3∧(n3:Int) + jg N σ3 (az ts)≤n + jg N σ (az ts)∧jg N σ3 (az ts) + 1≤jg N σ (az ts)∧w.grownBy w5 (some bS)):=by
      have h:=HNM.out;obtain ⟨hRa,y,hy,hle⟩:=ht5 rfl;refine ⟨σ5,n5,HH3.out.step hjl hRa ⟨y,?_,?_⟩,hR5,hZ5,by omega,by omega,eD HG3.out hg5⟩
      ·rw [← HST.out]; exact hy
      ·rw [← HST.out]; exact hle
     clear hg5 hR5 hZ5 hn5 hm5 hf5 ht5;go_wp2;go_roundw;case rel=>exact ⟨j + 1,by omega,by go_num,HI2⟩
     case measure=>simp [intOf] <;> omega
   ·obtain rfl:j=(lookL E key).length:=by omega
    have HP:Hid (xS ts w gS gC gL gR bS bL N n nL ML E σ key lv (.returned (.bool true)) wr):=by
     obtain ⟨σ3,n3,hH3,hR3,hZ3,hn3,hm3,hg3⟩:=HI.out;exact ⟨true,σ3,n3,rfl,hg3,hR3,hZ3,hn3,by omega,by simp,fun _=>⟨hH3.full (Nat.le_refl _),hH3.at'⟩⟩
    clear HI;go_wp2;go_ret;exact HP.out
 | some x =>
  have hxt:x < lv:=HLT.out x hs;obtain ⟨-,hx0,hxN,-⟩:=HZ.out.there key x hs;have hlk:gF σ key=some (.int .i64 x):=by unfold gF; rw [hs]; rfl
  clear hs;go_enter func137,ntmps137
  go_wp2_with (first
   | (at_lookup; refine dQ _ rfl _ _ 143 rfl 147 2 iq underlying143 (rW _) bS n (gF σ) rfl HM1.out key kl rfl HKL.out ?_; simp only [hlk,Option.getD_some,Option.isSome_some])
   | (at_mapUpdate; refine kQ _ rfl _ _ _ 143 rfl 147 2 iq nI underlying143 bS n (gF σ) rfl HM1.out (by unfold maxLen; omega) key kl rfl HKL.out (.int .i64 lv) rfl ?_; intro w2 hV2 hg2; have cL2:w2.cell? ⟨gL,0,none⟩=some (.map (some bL)):=(oC hg2 HR1.out.lL 0).trans HR1.out.cL; have k0:w2.cell? ⟨w.heap.size,0,none⟩=some (.string key.1):=(oC hg2 ⟨by simp,by omega⟩ 0).trans (by simp); have k1:w2.cell? ⟨w.heap.size,1,none⟩=some (.string key.2):=(oC hg2 ⟨by simp,by omega⟩ 1).trans (by simp))
   | (at_lookup; refine il _ rfl _ _ 196 rfl 147 237 iq underlying196 (AU _) bL nL ML rfl ((HR1.out.lean.kept hg2 HR1.out.bne HR1.out.free).map) key kl rfl HKL.out ?_; rw [HVL.out]))
  have HR2:Hid (Rw w2 gS gC gL gR bS bL N (n + 1) nL ML E (Bc σ key lv)):=HR1.out.kept hg2 (by rw [← Fj]; exact hV2);have HG2:Hid (w.grownBy w2 (some bS)):=eD (eB HAL.out) hg2;clear hV2 hg2 cL2 k0 k1;go_loopw [35] (fun i w3=>∃ j:Nat,j≤(lookL E key).length∧i=.int .i64 j∧Hid (∃ (σ3:Ky→Option Int) (n3:Nat),Half E σ key lv j σ3∧Rw w3 gS gC gL gR bS bL N n3 nL ML E σ3∧Rz ts N σ3∧(n3:Int) + jg N σ3 (az ts)≤n + jg N σ (az ts)∧jg N σ3 (az ts) + 1≤jg N σ (az ts)∧w.grownBy w3 (some bS))) (fun i _=>(lookL E key).length - (intOf i).toNat);case atStart=>exact ⟨0,Nat.zero_le _,rfl,⟨Bc σ key lv,n + 1,Half.start HLT.out,HR2.out,HZ2.out,by have:=HMU.out; push_cast; omega,HMU.out,HG2.out⟩⟩
  case round =>
   clear HR2 HG2 HZ2 HMU;obtain ⟨j,hj,rfl,HI⟩:=hrel;by_cases hjl:j < (lookL E key).length
   ·obtain ⟨σ3,n3,hH3,hR3,hZ3,hn3,hm3,hg3⟩:=HI.out;obtain ⟨ad',cp',hv',hrow'⟩:=IW (ku hR3.lean key);rw [HVL.out] at hv';injection hv' with e1 e2 e3;subst e1;rcases hrow' with h | ⟨gr,hadr,hgr1,hgr2,hcr⟩
    ·omega
    obtain ⟨st,hst⟩:∃ st,st=(lookL E key)[j]:=⟨_,rfl⟩;have r0:wr.cell? ⟨gr,j * 3,none⟩=some (.string st.typ):=hcr _ _ (by have:=fP (lookL E key) j hjl 0 (by omega); rw [hst]; simpa [St.cells] using this);have r1:wr.cell? ⟨gr,j * 3 + 1,none⟩=some (.string st.rel):=hcr _ _ (by have:=fP (lookL E key) j hjl 1 (by omega); rw [hst]; simpa [St.cells] using this);have r2:wr.cell? ⟨gr,j * 3 + 2,none⟩=some (.int .i64 st.n):=hcr _ _ (by have:=fP (lookL E key) j hjl 2 (by omega); rw [hst]; simpa [St.cells] using this);have HST:Hid (st=(lookL E key)[j]):=hst;obtain ⟨hsk,hsl,hsn0,hsn1⟩:=HE.out.low HLK.out (s:=st) (by rw [hst]; exact List.getElem_mem hjl);have HSK:Hid (st.key ∈ az ts):=hsk;have HSL:Hid (lu ts st.key (lv + st.n)):=hsl;have hj1:=bR j;have hj2:(j:Int) < ((lookL E key).length:Int):=by omega
    have cR3:=hR3.cR;unfold xR at cR3;have lR3:=hR3.lR.1;obtain ⟨W3,hW3⟩:∃ W3,W3=wr.alloc (.cells #[.string st.typ,.string st.rel,.int .i64 st.n] 239):=⟨_,rfl⟩;have hal3:Below wr.heap.size wr W3:=by rw [hW3]; exact (Below.refl _ _).alloc (Nat.le_refl _) _
    have HR3:Hid (Rw W3 gS gC gL gR bS bL N n3 nL ML E σ3):=hR3.below hal3;have HG3:Hid (w.grownBy W3 (some bS)):=eD hg3 (eB hal3);have HH3:Hid (Half E σ key lv j σ3):=hH3;have HZ3:Hid (Rz ts N σ3):=hZ3;have hm3p:=hZ3.mu_pos (az ts);have HNM:Hid ((n3:Int) + jg N σ3 (az ts)≤n + jg N σ (az ts)∧jg N σ3 (az ts) + 1≤jg N σ (az ts)):=⟨hn3,hm3⟩;rw [hadr];clear hcr hgr1 hgr2 hsk hsl hst hR3 hal3 hH3 hZ3 hg3 HI e2 e3;go_wp2_with fail;rw [← hW3];clear hW3 r0 r1 r2 cR3;refine (HIH.out (jg N σ3 (az ts)).toNat (by omega) _ σ3 n3 st.key (lv + st.n) HR3.out HZ3.out (by omega) (by omega) HSK.out (by omega) (by omega) HSL.out).mono ?_;rintro e w5 ⟨ok,σ5,n5,rfl,hg5,hR5,hZ5,hn5,hm5,hf5,ht5⟩;cases ok with
    | false =>
     have HP:Hid (xS ts w gS gC gL gR bS bL N n nL ML E σ key lv (.returned (.bool false)) w5):=by
      have h:=HNM.out;exact ⟨false,σ5,n5,rfl,eD HG3.out hg5,hR5,hZ5,by omega,by omega,fun _=>hf5 rfl,by simp⟩
     clear hg5 hR5 hZ5 hn5 hm5 hf5 ht5;go_wp2;go_ret;exact HP.out
    | true =>
     have HI2:Hid (∃ (σ3:Ky→Option Int) (n3:Nat),Half E σ key lv (j + 1) σ3∧Rw w5 gS gC gL gR bS bL N n3 nL ML E σ3∧Rz ts N σ3∧(n3:Int) + jg N σ3 (az ts)≤n + jg N σ (az ts)∧jg N σ3 (az ts) + 1≤jg N σ (az ts)∧w.grownBy w5 (some bS)):=by
      have h:=HNM.out;obtain ⟨hRa,y,hy,hle⟩:=ht5 rfl;refine ⟨σ5,n5,HH3.out.step hjl hRa ⟨y,?_,?_⟩,hR5,hZ5,by omega,by omega,eD HG3.out hg5⟩
      ·rw [← HST.out]; exact hy
      ·rw [← HST.out]; exact hle
     clear hg5 hR5 hZ5 hn5 hm5 hf5 ht5;go_wp2;go_roundw;case rel=>exact ⟨j + 1,by omega,by go_num,HI2⟩
     case measure=>simp [intOf] <;> omega
   ·obtain rfl:j=(lookL E key).length:=by omega
    have HP:Hid (xS ts w gS gC gL gR bS bL N n nL ML E σ key lv (.returned (.bool true)) wr):=by
     obtain ⟨σ3,n3,hH3,hR3,hZ3,hn3,hm3,hg3⟩:=HI.out;exact ⟨true,σ3,n3,rfl,hg3,hR3,hZ3,hn3,by omega,by simp,fun _=>⟨hH3.full (Nat.le_refl _),hH3.at'⟩⟩
    clear HI;go_wp2;go_ret;exact HP.out
def Jw (ts:List Ty) (w:World) (e:Ending) (w':World):Prop :=
 ((∃ (b n:Nat) (σ:Ky→Option Int),e=.returned (.tuple #[.map (some b),.bool true])∧aJ bI prog 147 w' b n (gF σ)∧Least ts (fun k=>(σ k).getD 0)∧∀ k,(∃ x,σ k=some x) ↔ k ∈ az ts) ∨ (e=.returned (.tuple #[.map none,.bool false])∧¬ ∃ f,Sol ts f))∧Below w.heap.size w w'
theorem Jy (N:Nat) (ks:List Ky):jg N (fun _=>none) ks=N * ks.length:=by
 induction ks with
 | nil=>simp [jg]
 | cons k ks ih=>simp only [jg,ih,tH,List.length_cons]; push_cast; rw [Int.mul_add]; omega
theorem GJ {rs:List TR} (hf:∀ r ∈ rs,r.fits):∀ k ∈ az (ah rs),k.1.size≤maxLen∧k.2.size≤maxLen:=by
 intro k hk;obtain ⟨t,ht,r,hr,rfl⟩:=nP.1 hk;obtain ⟨t',ht',rfl⟩:=List.mem_map.1 ht;obtain ⟨q,hq,rfl⟩:=List.mem_map.1 hr;exact ⟨(hf t' ht').1,((hf t' ht').2.2 q hq).1⟩
set_option maxRecDepth 100000 in
theorem uQ (ad:Option Addr) (cap:Nat) (rs:List TR) (bL nL:Nat) (ML:Ky→Option Value) (E:List (Ky × St)) (w:World) (hlen:rs.length≤6) (hs:gp w ad rs) (hf:∀ r ∈ rs,r.fits) (hrl:∀ r ∈ rs,r.rows.length≤6) (hG:Grp w bL nL ML E) (hE:Edge (ah rs) E) (hF:Found (ah rs)) (hEl:E.length≤100000) :
  Calls prog 106 #[.slice ad rs.length cap,.map (some bL)] w (Jw (ah rs) w):=by
 have HS:Hid (gp w ad rs):=hs;have HFT:Hid (∀ r ∈ rs,r.fits):=hf;have HRL:Hid (∀ r ∈ rs,r.rows.length≤6):=hrl;have HG:Hid (Grp w bL nL ML E):=hG;have HE:Hid (Edge (ah rs) E):=hE;have HF:Hid (Found (ah rs)):=hF;have HBL:Hid (bL < w.heap.size):=hG.map.lt;clear hs hf hrl hG hE hF;have hmm:=@run_makeMap prog;go_enter func106,ntmps106;have HB0:Hid (Below w.heap.size w ((w.alloc (.cells #[.map (some bL)] 196)).alloc (.cells #[.int .i64 0] 2))):=((Below.refl _ _).alloc (Nat.le_refl _) _).alloc (by simp) _;have HC0:Hid (((w.alloc (.cells #[.map (some bL)] 196)).alloc (.cells #[.int .i64 0] 2)).cell? ⟨w.heap.size,0,none⟩=some (.map (some bL))∧((w.alloc (.cells #[.map (some bL)] 196)).alloc (.cells #[.int .i64 0] 2)).cell? ⟨w.heap.size + 1,0,none⟩=some (.int .i64 0)∧((w.alloc (.cells #[.map (some bL)] 196)).alloc (.cells #[.int .i64 0] 2)).frozen? ⟨w.heap.size + 1,0,none⟩=false∧w.heap.size + 1 < ((w.alloc (.cells #[.map (some bL)] 196)).alloc (.cells #[.int .i64 0] 2)).heap.size):=⟨by simp,by simp,by simp,by simp⟩;go_wp2_with fail;go_loopw [17] (fun i wr=>∃ k:Nat,k≤rs.length∧i=.int .i64 k∧Hid (Below w.heap.size w wr)∧Hid (wr.cell? ⟨w.heap.size,0,none⟩=some (.map (some bL))∧wr.cell? ⟨w.heap.size + 1,0,none⟩=some (.int .i64 ((bP rs k).length:Int))∧wr.frozen? ⟨w.heap.size + 1,0,none⟩=false∧w.heap.size + 1 < wr.heap.size)) (fun i _=>rs.length - (intOf i).toNat);case atStart=>exact ⟨0,Nat.zero_le _,rfl,HB0,HC0⟩
 case round =>
  clear HB0 HC0;obtain ⟨k,hk,rfl,HB,HC⟩:=hrel;obtain ⟨c0,c1,c2,c3⟩:=HC.out;have hu:=sN rs HRL.out k;by_cases hlt:k < rs.length
  ·rcases HS.out.below HB.out with rfl | ⟨b,off,rfl,hb,hr,-⟩
   ·simp at hlt
   obtain ⟨t0,t1⟩:=hr k hlt;have hk1:=bR k;have hk2:(k:Int) < (rs.length:Int):=by omega
   have h6:=HRL.out _ (List.getElem_mem hlt);have HCN:Hid ((bP rs (k + 1)).length=(bP rs k).length + rs[k].rows.length):=by show _=_; rw [mq _ _ hlt,List.length_append]; simp [gy]
   obtain ⟨cn,hcn⟩:∃ cn,cn=(bP rs k).length:=⟨_,rfl⟩;rw [← hcn] at c1 hu HCN;have HB1:Hid (Below w.heap.size w ((wr.setCell ⟨w.heap.size + 1,0,none⟩ (.int .i64 ((cn:Int) + (rs[k].rows.length:Int)))).alloc (.cells #[.string rs[k].name,.slice rs[k].ad rs[k].rows.length rs[k].cap] 63))):=(HB.out.setCell (p:=⟨w.heap.size + 1,0,none⟩) (by simp) _).alloc (by simpa using HB.out.size) _;have HC1:Hid (((wr.setCell ⟨w.heap.size + 1,0,none⟩ (.int .i64 ((cn:Int) + (rs[k].rows.length:Int)))).alloc (.cells #[.string rs[k].name,.slice rs[k].ad rs[k].rows.length rs[k].cap] 63)).cell? ⟨w.heap.size,0,none⟩=some (.map (some bL))∧((wr.setCell ⟨w.heap.size + 1,0,none⟩ (.int .i64 ((cn:Int) + (rs[k].rows.length:Int)))).alloc (.cells #[.string rs[k].name,.slice rs[k].ad rs[k].rows.length rs[k].cap] 63)).cell? ⟨w.heap.size + 1,0,none⟩=some (.int .i64 ((bP rs (k + 1)).length:Int))∧((wr.setCell ⟨w.heap.size + 1,0,none⟩ (.int .i64 ((cn:Int) + (rs[k].rows.length:Int)))).alloc (.cells #[.string rs[k].name,.slice rs[k].ad rs[k].rows.length rs[k].cap] 63)).frozen? ⟨w.heap.size + 1,0,none⟩=false∧w.heap.size + 1 < ((wr.setCell ⟨w.heap.size + 1,0,none⟩ (.int .i64 ((cn:Int) + (rs[k].rows.length:Int)))).alloc (.cells #[.string rs[k].name,.slice rs[k].ad rs[k].rows.length rs[k].cap] 63)).heap.size):=by
    obtain ⟨X,hX⟩:∃ X,X=wr.setCell ⟨w.heap.size + 1,0,none⟩ (.int .i64 ((cn:Int) + (rs[k].rows.length:Int))):=⟨_,rfl⟩;have hXs:X.heap.size=wr.heap.size:=by rw [hX]; simp
    have hB:Below X.heap.size X (X.alloc (.cells #[.string rs[k].name,.slice rs[k].ad rs[k].rows.length rs[k].cap] 63)):=(Below.refl _ _).alloc (Nat.le_refl _) _;rw [← hX];refine ⟨ak hB (by omega) (by rw [hX,tV (by omega)]; exact c0),ak hB (by omega) (by rw [hX,HCN.out]; push_cast; exact vI c1),?_,by simp; omega⟩;rw [hB.frozen (p:=⟨w.heap.size + 1,0,none⟩) (by simp; omega),hX];simpa using c2
   clear hr hcn HC;go_wp2;go_roundw;case rel=>exact ⟨k + 1,by omega,by go_num,HB1,HC1⟩
   case measure=>simp [intOf] <;> omega
  ·obtain rfl:k=rs.length:=by omega
   have hEN:bP rs rs.length=az (ah rs):=by unfold bP; rw [List.take_length]
   rw [hEN] at c1 hu;obtain ⟨N,hN⟩:∃ N,N=(az (ah rs)).length:=⟨_,rfl⟩;rw [← hN] at c1 hu;have HNN:Hid (N=(az (ah rs)).length):=hN;have HEN:Hid (bP rs rs.length=az (ah rs)):=hEN;have hN36:N≤36:=by omega
   have hbl:=HBL.out;have hwr:w.heap.size≤wr.heap.size:=HB.out.size;obtain ⟨W0,hW0⟩:∃ W0,W0=(((wr.alloc (.map #[] 0)).alloc (.cells #[.map (some wr.heap.size)] 143)).alloc (.cells #[(.func (Fn.func 137) #[] #[.pointer (some ⟨wr.heap.size + 1,0,none⟩),.pointer (some ⟨w.heap.size + 1,0,none⟩),.pointer (some ⟨w.heap.size,0,none⟩),.pointer (some ⟨wr.heap.size + 1 + 1,0,none⟩)])] 235)):=⟨_,rfl⟩;have hal:Below wr.heap.size wr W0:=by
    rw [hW0]
    repeat (first | exact Below.refl _ _ | refine Below.alloc ?_ (by first | (simp; done) | (simp; omega)) _)
   have hs0:W0.heap.size=wr.heap.size + 3:=by rw [hW0]; simp
   have HRW:Hid (Rw W0 (wr.heap.size + 1) (w.heap.size + 1) w.heap.size (wr.heap.size + 1 + 1) wr.heap.size bL N 0 nL ML E (fun _=>none)):=by
    have hGr:Grp wr bL nL ML E:=HG.out.below HB.out;have hMV:aJ bI prog 147 W0 wr.heap.size 0 (gF (fun _=>none)):=by
     have h1:=oQ bI prog 147 wr;have e1:gF (fun _=>none)=fun _=>none:=by funext k; rfl
     rw [e1];refine h1.below ?_;rw [hW0]
     repeat (first | exact Below.refl _ _ | refine Below.alloc ?_ (by first | (simp; done) | (simp; omega)) _)
    have hcS:W0.cell? ⟨wr.heap.size + 1,0,none⟩=some (.map (some wr.heap.size)):=by
     rw [hW0];exact ak ((Below.refl _ _).alloc (Nat.le_refl _) _) (by simp) (Hw wr _ _ _ 0 rfl)
    have hcR:W0.cell? ⟨wr.heap.size + 1 + 1,0,none⟩=some (xR (wr.heap.size + 1) (w.heap.size + 1) w.heap.size (wr.heap.size + 1 + 1)):=by
     rw [hW0];exact Mc _ _ _ _ _ _ rfl
    exact ⟨hcS,ak hal (by omega) c1,ak hal (by omega) c0,hcR,by omega,by omega,by omega,by omega,hMV,hGr.below hal,by omega,hGr.fresh (Nat.le_refl _)⟩
   have HB0:=gW HB hal;clear hu hEN hN hal HC;go_wp2_with fail;rw [← hW0];clear hW0 c0 c1 c2 c3 HB;obtain ⟨bS,hbS⟩:∃ bS,bS=wr.heap.size:=⟨_,rfl⟩;obtain ⟨gS,hgS⟩:∃ gS,gS=wr.heap.size + 1:=⟨_,rfl⟩;obtain ⟨gR,hgR⟩:∃ gR,gR=wr.heap.size + 1 + 1:=⟨_,rfl⟩;obtain ⟨gC,hgC⟩:∃ gC,gC=w.heap.size + 1:=⟨_,rfl⟩;obtain ⟨gL,hgL⟩:∃ gL,gL=w.heap.size:=⟨_,rfl⟩;have hb1:w.heap.size≤bS:=by omega
   have HRW2:Hid (Rw W0 gS gC gL gR bS bL N 0 nL ML E (fun _=>none)):=by rw [hbS,hgS,hgR,hgC,hgL]; exact HRW
   have HI0:Hid (∃ (σ:Ky→Option Int) (n:Nat),Rw W0 gS gC gL gR bS bL N n nL ML E σ∧Rz (ah rs) N σ∧(n:Int) + jg N σ (az (ah rs))≤2000∧Raised E (fun _=>none) σ∧∀ key ∈ bP rs 0,∃ x,σ key=some x):=by
    refine ⟨fun _=>none,0,HRW2.out,⟨fun k x h=>by cases h⟩,?_,Raised.refl _ _,fun k hk=>by simp [bP,ah,az] at hk⟩;rw [Jy,← HNN.out];have h1:(N:Int) * N≤36 * 36:=Int.mul_le_mul (by omega) (by omega) (by omega) (by omega)
    push_cast; omega
   rw [← hgR,← hgS,← hbS,← hgC,← hgL];clear HRW HRW2 hs0 hmm hgR hgS hbS hgC hgL;go_loopw [31] (fun i w2=>∃ k:Nat,k≤rs.length∧i=.int .i64 k∧Hid (Below w.heap.size w w2)∧Hid (∃ (σ:Ky→Option Int) (n:Nat),Rw w2 gS gC gL gR bS bL N n nL ML E σ∧Rz (ah rs) N σ∧(n:Int) + jg N σ (az (ah rs))≤2000∧Raised E (fun _=>none) σ∧∀ key ∈ bP rs k,∃ x,σ key=some x)) (fun i _=>rs.length - (intOf i).toNat);case atStart=>exact ⟨0,Nat.zero_le _,rfl,HB0,HI0⟩
   case round =>
    clear HB0 HI0;obtain ⟨k,hk,rfl,HB,HI⟩:=hrel;by_cases hlt:k < rs.length
    ·rcases HS.out.below HB.out with rfl | ⟨b,off,rfl,hb,hr,-⟩
     ·simp at hlt
     obtain ⟨t0,t1⟩:=hr k hlt;have hk1:=bR k;have hk2:(k:Int) < (rs.length:Int):=by omega
     have h6:=HRL.out _ (List.getElem_mem hlt);obtain ⟨W1,hW1⟩:∃ W1,W1=wr.alloc (.cells #[.string rs[k].name,.slice rs[k].ad rs[k].rows.length rs[k].cap] 63):=⟨_,rfl⟩;have hal:Below wr.heap.size wr W1:=by rw [hW1]; exact (Below.refl _ _).alloc (Nat.le_refl _) _
     obtain ⟨g12,hg12⟩:∃ g12,g12=wr.heap.size:=⟨_,rfl⟩;have hbw:bS < wr.heap.size:=by obtain ⟨σ,n,hR,-⟩:=HI.out; exact hR.map.lt
     have HC12:Hid (W1.cell? ⟨g12,0,none⟩=some (.string rs[k].name)∧g12 < W1.heap.size∧g12 ≠ bS):=⟨by rw [hW1,hg12]; simp,by rw [hW1,hg12]; simp,by omega⟩;have HB1:=gW HB hal;have HI1:Hid (∃ (σ:Ky→Option Int) (n:Nat),Rw W1 gS gC gL gR bS bL N n nL ML E σ∧Rz (ah rs) N σ∧(n:Int) + jg N σ (az (ah rs))≤2000∧Raised E (fun _=>none) σ∧∀ key ∈ bP rs k,∃ x,σ key=some x):=by
      obtain ⟨σ,n,hR,h2⟩:=HI.out;exact ⟨σ,n,hR.below hal,h2⟩
     clear hr hal HI HB;go_wp2_with fail;rw [← hW1,← hg12];clear hW1 t0 t1 hg12;go_loopw [38] (fun i w3=>∃ j:Nat,j≤rs[k].rows.length∧i=.int .i64 j∧Hid (Below w.heap.size w w3)∧Hid (w3.cell? ⟨g12,0,none⟩=some (.string rs[k].name)∧g12 < w3.heap.size∧g12 ≠ bS)∧Hid (∃ (σ:Ky→Option Int) (n:Nat),Rw w3 gS gC gL gR bS bL N n nL ML E σ∧Rz (ah rs) N σ∧(n:Int) + jg N σ (az (ah rs))≤2000∧Raised E (fun _=>none) σ∧∀ key ∈ bP rs k ++ gy rs[k] j,∃ x,σ key=some x)) (fun i _=>rs[k].rows.length - (intOf i).toNat);case atStart=>exact ⟨0,Nat.zero_le _,rfl,HB1,HC12,by simpa [gy] using HI1⟩
     case round =>
      clear HB1 HC12 HI1;obtain ⟨j,hj,rfl,HB,HC,HI⟩:=hrel;by_cases hjl:j < rs[k].rows.length
      ·rcases HS.out.below HB.out with hnil | ⟨b',off',he,hb2,hr,hok⟩
       ·rw [hnil] at hlt; simp at hlt
       injection he with he; injection he with he1 he2; subst he1; subst he2;have ok:=hok rs[k] (List.getElem_mem hlt);rcases ok with hnil | ⟨b2,off2,had,hbb,hr2,-⟩
       ·rw [hnil] at hjl; simp at hjl
       obtain ⟨q0,q1⟩:=hr2 j hjl;have hj1:=bR j;have hj2:(j:Int) < (rs[k].rows.length:Int):=by omega
       obtain ⟨σ,n,hR,hZ,hn,hRa,hall⟩:=HI.out;obtain ⟨x0,x1,x2⟩:=HC.out;have cR:=hR.cR;unfold xR at cR;have lR:=hR.lR.1;obtain ⟨W3,hW3⟩:∃ W3,W3=wr.alloc (.cells #[.string rs[k].rows[j].name,.slice rs[k].rows[j].ad rs[k].rows[j].rows.length rs[k].rows[j].cap] 126):=⟨_,rfl⟩;have hal:Below wr.heap.size wr W3:=by rw [hW3]; exact (Below.refl _ _).alloc (Nat.le_refl _) _
       have HR3:Hid (Rw W3 gS gC gL gR bS bL N n nL ML E σ):=hR.below hal;have HZ3:Hid (Rz (ah rs) N σ):=hZ;have HB3:=gW HB hal;have HC3:Hid (W3.cell? ⟨g12,0,none⟩=some (.string rs[k].name)∧g12 < W3.heap.size∧g12 ≠ bS):=⟨ak hal x1 x0,Nat.lt_of_lt_of_le x1 hal.size,x2⟩;have HRA:Hid (Raised E (fun _=>none) σ):=hRa;have HAL:Hid (∀ key ∈ bP rs k ++ gy rs[k] j,∃ x,σ key=some x):=hall;have hmp:=hZ.mu_pos (az (ah rs));have HKM:Hid ((rs[k].name,rs[k].rows[j].name) ∈ az (ah rs)):=nP.2 ⟨rs[k].p,List.mem_map_of_mem (List.getElem_mem hlt),rs[k].rows[j].p,List.mem_map_of_mem (List.getElem_mem hjl),rfl⟩;rw [had];clear hr hok hr2 hal hR hZ hRa hall HI HB HC;go_wp2_with fail;rw [← hW3];clear hW3 q0 q1 cR x0;refine (GI (ah rs) gS gC gL gR bS bL N nL ML E HE.out HF.out HNN.out hN36 (GJ HFT.out) hEl (jg N σ (az (ah rs))).toNat _ σ n (rs[k].name,rs[k].rows[j].name) 0 HR3.out HZ3.out (by omega) (by omega) HKM.out (by omega) (by omega) (lu.zero _ _)).mono ?_;rintro e w5 ⟨ok,σ5,n5,rfl,hg5,hR5,hZ5,hn5,hm5,hf5,ht5⟩;have HB5:Hid (Below w.heap.size w w5):=HB3.out.grown hg5 HB3.out.size (fun i hi=>by injection hi with hi; omega);cases ok with
       | false =>
        have HP:Hid (Jw (ah rs) w (.returned (.tuple #[.map none,.bool false])) w5):=⟨.inr ⟨rfl,hf5 rfl⟩,HB5.out⟩;clear hg5 hR5 hZ5 hn5 hm5 hf5 ht5;go_wp2;refine bodyPost_ret (v:=.tuple #[.map none,.bool false]) ?_ rfl HP.out;simp [results,Tryz.results106,go_sem]
       | true =>
        have HI5:Hid (∃ (σ:Ky→Option Int) (n:Nat),Rw w5 gS gC gL gR bS bL N n nL ML E σ∧Rz (ah rs) N σ∧(n:Int) + jg N σ (az (ah rs))≤2000∧Raised E (fun _=>none) σ∧∀ key ∈ bP rs k ++ gy rs[k] (j + 1),∃ x,σ key=some x):=by
         obtain ⟨hRa,y,hy,-⟩:=ht5 rfl;refine ⟨σ5,n5,hR5,hZ5,by omega,HRA.out.trans hRa,fun key hk=>?_⟩;rw [qD _ _ hjl,← List.append_assoc] at hk;rcases List.mem_append.1 hk with hk | hk
         ·obtain ⟨x,hx⟩:=HAL.out key hk;obtain ⟨z,hz,-⟩:=hRa.mono key x hx;exact ⟨z,hz⟩
         ·simp at hk; subst hk; exact ⟨y,hy⟩
        have HC5:Hid (w5.cell? ⟨g12,0,none⟩=some (.string rs[k].name)∧g12 < w5.heap.size∧g12 ≠ bS):=⟨(oC hg5 HC3.out.2 0).trans HC3.out.1,Nat.lt_of_lt_of_le HC3.out.2.1 hg5.size,HC3.out.2.2⟩;clear hg5 hR5 hZ5 hn5 hm5 hf5 ht5;go_wp2;go_roundw;case rel=>exact ⟨j + 1,by omega,by go_num,HB5,HC5,HI5⟩
        case measure=>simp [intOf] <;> omega
      ·obtain rfl:j=rs[k].rows.length:=by omega
       have HI5:Hid (∃ (σ:Ky→Option Int) (n:Nat),Rw wr gS gC gL gR bS bL N n nL ML E σ∧Rz (ah rs) N σ∧(n:Int) + jg N σ (az (ah rs))≤2000∧Raised E (fun _=>none) σ∧∀ key ∈ bP rs (k + 1),∃ x,σ key=some x):=by rw [mq _ _ hlt]; exact HI
       clear HI;go_wp2;go_roundw;case rel=>exact ⟨k + 1,by omega,by go_num,HB,HI5⟩
       case measure=>simp [intOf] <;> omega
    ·obtain rfl:k=rs.length:=by omega
     obtain ⟨σ,n,hR,hZ,hn,hRa,hall⟩:=HI.out;have cS:=hR.cS;have HP:Hid (Jw (ah rs) w (.returned (.tuple #[.map (some bS),.bool true])) wr):=by
      rw [HEN.out] at hall;refine ⟨.inl ⟨bS,n,σ,rfl,hR.map,AX HE.out HF.out hZ hall (fun k=>hRa.done k (.inl (fun x h=>by cases h))),fun k=>⟨fun ⟨x,hx⟩=>(hZ.there k x hx).1,hall k⟩⟩,HB.out⟩
     clear hR hZ hn hRa hall HI;go_wp2;refine bodyPost_ret (v:=.tuple #[.map (some bS),.bool true]) ?_ rfl HP.out;simp [results,Tryz.results106,go_sem]
theorem GK (ng:Bool) (xs:List Al):bM ng xs=(bW xs).map fun a=>(⟨a.t,a.s,ng⟩:Dp):=by
 induction xs with
 | nil=>rfl
 | cons a xs ih=>simp only [bM,bW]; split <;> simp [ih]
theorem zI (ts:List Ty) (typ:ByteArray) (ng:Bool) (e:Ex) (hn:ay e=true) (hd:e.kind=3→bv (aN ts typ e.over)=true):bM ng e.allow ++ lq ts typ ng e=(fU ts typ e).map fun a=>(⟨a.t,a.s,ng⟩:Dp):=by
 by_cases h1:e.kind=1
 ·unfold lq fU;rw [if_neg (by omega),if_neg (by omega),if_pos h1,List.append_nil,GK]
 ·rw [qG hn h1];unfold lq fU;rw [if_neg h1];by_cases h2:e.kind=2
  ·rw [if_pos h2,if_pos h2]; rfl
  ·rw [if_neg h2,if_neg h2];by_cases h3:e.kind=3
   ·rw [if_pos h3,if_pos h3];unfold eG;rw [if_pos (hd h3),List.map_map];rfl
   ·rw [if_neg h3,if_neg h3]; rfl
theorem zJ {ts:List Ty} {typ:ByteArray} {es:List Ex} {d:Dp} {i:Nat} (hd:d ∈ jD ts typ es i):∀ {k:Nat},i < k→d ∈ aK ts typ es k
 | 0,h=>by omega
 | k + 1,h=>by
  simp only [aK];by_cases e:i=k
  ·subst e; exact List.mem_append.2 (.inr hd)
  ·exact List.mem_append.2 (.inl (zJ hd (by omega)))
theorem xU {ts:List Ty} {t r:ByteArray} {es:List Ex} {x:Ky × St}:∀ {k:Nat},x ∈ relE ts t r es k ↔ ∃ i,i < k∧∃ e,es[i]?=some e∧x ∈ xP ts t r ((dD es).getD i false) e
 | 0=>by simp [relE]
 | k + 1=>by
  simp only [relE,List.mem_append];rw [xU];constructor
  ·rintro (⟨i,hi,h⟩ | h)
   ·exact ⟨i,by omega,h⟩
   ·cases e:es[k]? with
    | none=>rw [e] at h; cases h
    | some y=>rw [e] at h; exact ⟨k,by omega,y,e,h⟩
  ·rintro ⟨i,hi,e,he,h⟩;by_cases ek:i=k
   ·subst ek; right; rw [he]; exact h
   ·exact .inl ⟨i,by omega,e,he,h⟩
theorem xV {rs:List TR} (h:cu (ah rs)=true) {t:TR} (ht:t ∈ rs) {q:RR} (hq:q ∈ t.rows):fE (ah rs) t.name q.name=some (au q.rows):=by
 have hT:=wN h;have hs:=pW (M:=fun _=>none) (rs:=rs) (k:=(t.name,q.name)) (.inr ⟨t,ht,q,hq,rfl⟩);obtain ⟨v,hv⟩:=Option.isSome_iff_exists.1 hs;obtain ⟨t',ht',q',hq',e,-,e2,-⟩:=hT.yes _ v hv;injection e with e3 e4;have h1:t=t':=BI h ht ht' e3;subst h1;obtain ⟨i,hi,rfl⟩:=List.mem_iff_getElem.1 ht;have h2:q=q':=BJ (oU h i hi).2.2 hq hq' e4;subst h2;exact e2
theorem oD {es:List Ex} (h:aS es=true):∀ e ∈ es,ay e=true:=by
 simp only [aS,Bool.and_eq_true] at h;exact List.all_eq_true.1 h.1.1.1.2
theorem Ck (t r:ByteArray) (ng:Bool):stepOf ⟨t,r,ng⟩=jI ng:=by cases ng <;> rfl
theorem KZ {rs:List TR} (h:cu (ah rs)=true) (hr:je (ah rs)=true):Edge (ah rs) (gU (ah rs) rs):=by
 have hnode:∀ t ∈ rs,∀ q ∈ t.rows,∀ e ∈ au q.rows,ay e=true∧(e.kind=3→bv (aN (ah rs) t.name e.over)=true):=by
  intro t ht q hq e he;have h1:=((dF h).2.2 t ht q hq).1;refine ⟨oD h1 e he,fun h3=>?_⟩;unfold je at hr;rw [List.all_eq_true] at hr;have h2:=hr t.p (List.mem_map_of_mem ht);unfold nO at h2;rw [List.all_eq_true] at h2;have h4:aO (ah rs) t.name (au q.rows)=true:=h2 q.p (List.mem_map_of_mem hq);have h5:=(zf h4 e he).2;unfold kS at h5;rw [if_neg (by omega),if_pos h3,Bool.and_eq_true] at h5;exact h5.1
 intro on t0 r0 s;constructor
 ·intro hm;unfold gU gQ at hm;rw [List.mem_flatMap] at hm;obtain ⟨t,ht,hm⟩:=hm;rw [List.mem_flatMap] at hm;obtain ⟨q,hq,hm⟩:=hm;obtain ⟨i,hi,e,he,hm⟩:=xU.1 hm;unfold xP at hm;obtain ⟨a,ha,e1⟩:=List.mem_map.1 hm;injection e1 with e2 e3;injection e3 with e4 e5 e6;subst e4; subst e5;refine ⟨nP.2 ⟨t.p,List.mem_map_of_mem ht,q.p,List.mem_map_of_mem hq,rfl⟩,⟨a.t,a.s,(dD (au q.rows)).getD i false⟩,?_,e2,by rw [Ck]; exact e6⟩;unfold fI nN;have ero:aN (ah rs) t.name q.name=au q.rows:=by unfold aN; rw [xV h ht hq]; rfl
  simp only [ero];have hi2:i < (au q.rows).length:=(List.getElem?_eq_some_iff.1 he).1;refine zJ (i:=i) ?_ hi2;unfold jD;rw [he];obtain ⟨n1,n2⟩:=hnode t ht q hq e (List.mem_of_getElem? he);simp only;rw [zI _ _ _ _ n1 n2];exact List.mem_map_of_mem (f:=fun a:Al=>(⟨a.t,a.s,(dD (au q.rows)).getD i false⟩:Dp)) ha
 ·rintro ⟨hk,d,hd,e1,e2⟩;obtain ⟨t',ht',r',hr',e3⟩:=nP.1 hk;obtain ⟨t,ht,rfl⟩:=List.mem_map.1 ht';obtain ⟨q,hq,rfl⟩:=List.mem_map.1 hr';injection e3 with e4 e5;subst e4; subst e5;unfold fI nN at hd;have ero:aN (ah rs) t.p.name q.p.name=au q.rows:=by
   have:=xV h ht hq;show aN (ah rs) t.name q.name=_;unfold aN; rw [this]; rfl
  simp only [ero] at hd;obtain ⟨i,hi,hd⟩:=qC hd;unfold jD at hd;split at hd
  ·cases hd
  ·rename_i e he;obtain ⟨n1,n2⟩:=hnode t ht q hq e (List.mem_of_getElem? he);have hdn:bM ((dD (au q.rows)).getD i false) e.allow ++ lq (ah rs) t.p.name ((dD (au q.rows)).getD i false) e=_:=zI (ah rs) t.name _ e n1 n2;rw [hdn] at hd;obtain ⟨a,ha,rfl⟩:=List.mem_map.1 hd;unfold gU gQ;rw [List.mem_flatMap];refine ⟨t,ht,?_⟩;rw [List.mem_flatMap];refine ⟨q,hq,xU.2 ⟨i,by rw [bq] at hi; exact hi,e,he,?_⟩⟩;unfold xP;rw [List.mem_map];refine ⟨a,ha,?_⟩;rw [← e1,← e2,Ck];rfl
theorem Jz {rs:List TR} (h:cu (ah rs)=true):∀ r ∈ rs,∀ q ∈ r.rows,∀ e ∈ q.rows,e.e.allow.length≤6:=by
 intro r hr q hq e he;have h1:=oD ((dF h).2.2 r hr q hq).1 e.e (by unfold au; exact List.mem_map_of_mem he);by_cases h2:e.e.kind=1
 ·unfold ay at h1;rw [if_pos h2] at h1;simp only [Bool.and_eq_true,dB,decide_eq_true_eq] at h1;exact h1.1.1.1.1.2
 ·rw [qG h1 h2]; simp
theorem oF {α β:Type} (f:α→List β) (B:Nat):∀ (xs:List α),(∀ x ∈ xs,(f x).length≤B)→(xs.flatMap f).length≤xs.length * B
 | [],_=>by simp
 | x::xs,h=>by
  rw [List.flatMap_cons,List.length_append,List.length_cons,Nat.succ_mul];have h1:=h x (by simp);have h2:=oF f B xs fun q hq=>h q (by simp [hq]);omega
theorem GL (rs:List TR) (h6:∀ r ∈ rs,r.rows.length≤6) (hex:∀ r ∈ rs,∀ q ∈ r.rows,aS (au q.rows)=true∧q.rows.length≤15∧∀ e ∈ q.rows,bY q.rows.length e.e.kids) (h66:∀ r ∈ rs,∀ q ∈ r.rows,∀ e ∈ q.rows,e.e.allow.length≤6) (hl:rs.length≤6:=by omega):(gU (ah rs) rs).length≤100000:=by
 have h1:∀ t ∈ rs,(gQ (ah rs) t.name t.rows).length≤540:=by
  intro t ht;have h2:∀ q ∈ t.rows,(relE (ah rs) t.name q.name (au q.rows) q.rows.length).length≤90:=by
   intro q hq;have h3:∀ k,k≤q.rows.length→(relE (ah rs) t.name q.name (au q.rows) k).length≤k * 6:=by
    intro k
    induction k with
    | zero=>intro _; simp [relE]
    | succ k ih =>
     intro hk;rw [tq _ _ _ _ _ (by omega) _ rfl,List.length_append];have h4:=ih (by omega);have h5:(xP (ah rs) t.name q.name ((dD (au q.rows)).getD k false) q.rows[k].e).length≤6:=by
      unfold xP;rw [List.length_map];exact tC rs h66 _ _ (h66 t ht q hq _ (List.getElem_mem (by omega)))
     omega
   have h4:=h3 q.rows.length (Nat.le_refl _);have h5:=(hex t ht q hq).2.1;omega
  have h3:=oF (fun q:RR=>relE (ah rs) t.name q.name (au q.rows) q.rows.length) 90 t.rows h2;have h4:=h6 t ht;unfold gQ;omega
 have h2:=oF (fun t:TR=>gQ (ah rs) t.name t.rows) 540 rs h1;unfold gU;omega
end Go.Proofs.YteoflgocljfgeaaGreatDoor
