/- The program's raising of strata in plain words. -/
import Derived.Test.YtajkkeikihhejaaGreatSq
import Derived.Test.YtajkkeikihhejaaGreatImplLeaners
import Derived.Laws.EntriesVeiled
open Go.Proofs.Tryz
set_option maxHeartbeats 80000000
namespace Go.Proofs.YtajkkeikihhejaaGreat
open Pl
def Edge (ts:List Ty) (E:List (Ky × St)):Prop:=∀ on t r s,(on,⟨t,r,s⟩) ∈ E ↔ (t,r) ∈ au ts∧∃ d ∈ il ts (t,r),(d.typ,d.rel)=on∧stepOf d=s
def wJ:Option Int→Int
 | none=>0
 | some x=>x + 1
def nZ (N:Nat) (σ:Ky→Option Int):List Ky→Int
 | []=>0
 | k::ks=>((N:Int) - wJ (σ k)) + nZ N σ ks
structure Rz (ts:List Ty) (N:Nat) (σ:Ky→Option Int):Prop where
 there:∀ k x,σ k=some x→k ∈ au ts∧0≤x∧x < N∧qw ts k x
def Hu (σ:Ky→Option Int) (k:Ky) (x:Int):Ky→Option Int:=fun y=>if y=k then some x else σ y
theorem og (σ:Ky→Option Int) (k:Ky) (x:Int):Hu σ k x k=some x:=by simp [Hu]
theorem rM {σ:Ky→Option Int} {k y:Ky} {x:Int} (h:y ≠ k):Hu σ k x y=σ y:=by simp [Hu,h]
theorem Rz.val {ts:List Ty} {N:Nat} {σ:Ky→Option Int} (h:Rz ts N σ) (k:Ky):0≤wJ (σ k)∧wJ (σ k)≤N:=by
 cases e:σ k with
 | none=>simp [wJ]
 | some x=>have:=h.there k x e; simp only [wJ]; omega
theorem Rz.mu_pos {ts:List Ty} {N:Nat} {σ:Ky→Option Int} (h:Rz ts N σ) (ks:List Ky):0≤nZ N σ ks:=by
 induction ks with
 | nil=>simp [nZ]
 | cons k ks ih=>have:=h.val k; simp only [nZ]; omega
theorem Rz.set {ts:List Ty} {N:Nat} {σ:Ky→Option Int} (h:Rz ts N σ) {k:Ky} {x:Int} (hk:k ∈ au ts) (h0:0≤x) (hN:x < N) (hl:qw ts k x):Rz ts N (Hu σ k x):=⟨fun y z hz=>by
 by_cases e:y=k
 ·subst e; rw [og] at hz; injection hz with hz; subst hz; exact ⟨hk,h0,hN,hl⟩
 rw [rM e] at hz; exact h.there y z hz⟩
def vg (σ σ':Ky→Option Int):Prop:=∀ k x,σ k=some x→∃ y,σ' k=some y∧x≤y
theorem vg.refl (σ:Ky→Option Int):vg σ σ:=fun _ x h=>⟨x,h,Int.le_refl _⟩
theorem vg.trans {a b c:Ky→Option Int} (h:vg a b) (h2:vg b c):vg a c:=fun k x hx=>by
 obtain ⟨y,hy,h3⟩:=h k x hx;obtain ⟨z,hz,h4⟩:=h2 k y hy;exact ⟨z,hz,by omega⟩
theorem vg.val {σ σ':Ky→Option Int} {ts:List Ty} {N:Nat} (h:vg σ σ') (hR:Rz ts N σ') (k:Ky):wJ (σ k)≤wJ (σ' k):=by
 cases e:σ k with
 | none=>exact (hR.val k).1
 | some x=>obtain ⟨y,hy,h2⟩:=h k x e; rw [hy]; simp only [wJ]; omega
theorem vg.mu {σ σ':Ky→Option Int} {ts:List Ty} {N:Nat} (h:vg σ σ') (hR:Rz ts N σ') (ks:List Ky):nZ N σ' ks≤nZ N σ ks:=by
 induction ks with
 | nil=>exact Int.le_refl _
 | cons k ks ih=>have:=h.val hR k; simp only [nZ]; omega
theorem yM {σ:Ky→Option Int} {k:Ky} {x:Int} (h:∀ y,σ k=some y→y < x):vg σ (Hu σ k x):=fun y z hz=>by
 by_cases e:y=k
 ·subst e; exact ⟨x,og _ _ _,by have:=h z hz; omega⟩
 exact ⟨z,by rw [rM e]; exact hz,Int.le_refl _⟩
theorem Tv {σ:Ky→Option Int} {ts:List Ty} {N:Nat} {k:Ky} {x:Int} (hR:Rz ts N (Hu σ k x)) (h:∀ y,σ k=some y→y < x) (h0:0≤x) (ks:List Ky) (hk:k ∈ ks):nZ N (Hu σ k x) ks + 1≤nZ N σ ks:=by
 induction ks with
 | nil=>cases hk
 | cons y ks ih =>
  simp only [nZ];have hm:=(yM h).mu hR ks;have hv:=(yM h).val hR y;rcases List.mem_cons.1 hk with rfl | hk
  ·have:wJ (σ k) + 1≤wJ (Hu σ k x k):=by
    rw [og];cases e:σ k with
    | none=>simp only [wJ]; omega
    | some z=>have:=h z e; simp only [wJ]; omega
   omega
  have:=ih hk; omega
def rO (E:List (Ky × St)) (σ:Ky→Option Int) (k:Ky):Prop:=∀ x,σ k=some x→∀ s ∈ lookL E k,∃ y,σ s.key=some y∧x + s.n≤y
structure Raised (E:List (Ky × St)) (σ σ':Ky→Option Int):Prop where
 mono:vg σ σ'
 done:∀ k,(rO E σ k ∨ σ' k ≠ σ k)→rO E σ' k
theorem Raised.refl (E:List (Ky × St)) (σ:Ky→Option Int):Raised E σ σ:=⟨vg.refl _,fun _ h=>h.elim id (fun e=>absurd rfl e)⟩
theorem Raised.trans {E:List (Ky × St)} {a b c:Ky→Option Int} (h:Raised E a b) (h2:Raised E b c):Raised E a c:=⟨h.mono.trans h2.mono,fun k hk=>by
 by_cases e:c k=b k
 ·by_cases e2:b k=a k
  ·rcases hk with hk | hk
   ·exact h2.done k (.inl (h.done k (.inl hk)))
   exact absurd (e.trans e2) hk
  exact h2.done k (.inl (h.done k (.inr e2)))
 exact h2.done k (.inr e)⟩
structure Half (E:List (Ky × St)) (σ:Ky→Option Int) (key:Ky) (x:Int) (j:Nat) (σ':Ky→Option Int):Prop where
 mono:vg σ σ'
 done:∀ k,k ≠ key→(rO E σ k ∨ σ' k ≠ σ k)→rO E σ' k
 own:rO E σ' key ∨ (σ' key=some x∧∀ s ∈ (lookL E key).take j,∃ y,σ' s.key=some y∧x + s.n≤y)
 at':∃ y,σ' key=some y∧x≤y
theorem Half.start {E:List (Ky × St)} {σ:Ky→Option Int} {key:Ky} {x:Int} (h:∀ y,σ key=some y→y < x):Half E σ key x 0 (Hu σ key x) where
 mono:=yM h
 done k hk hs:=by
  have e:Hu σ key x k=σ k:=rM hk;rcases hs with hs | hs
  ·intro z hz s hm;rw [e] at hz;obtain ⟨y,hy,hle⟩:=hs z hz s hm;obtain ⟨y',hy',h2⟩:=yM h _ y hy;exact ⟨y',hy',by omega⟩
  exact absurd e hs
 own:=.inr ⟨og _ _ _,fun s hs=>by simp at hs⟩
 at':=⟨x,og _ _ _,Int.le_refl _⟩
theorem Half.step {E:List (Ky × St)} {σ σ1 σ2:Ky→Option Int} {key:Ky} {x:Int} {j:Nat} (h:Half E σ key x j σ1) (hj:j < (lookL E key).length) (hR:Raised E σ1 σ2) (hy:∃ y,σ2 (lookL E key)[j].key=some y∧x + (lookL E key)[j].n≤y):Half E σ key x (j + 1) σ2 where
 mono:=h.mono.trans hR.mono
 done k hk hs:=by
  by_cases e:σ2 k=σ1 k
  ·by_cases e2:σ1 k=σ k
   ·rcases hs with hs | hs
    ·exact hR.done k (.inl (h.done k hk (.inl hs)))
    exact absurd (e.trans e2) hs
   exact hR.done k (.inl (h.done k hk (.inr e2)))
  exact hR.done k (.inr e)
 own:=by
  rcases h.own with ho | ⟨h1,h2⟩
  ·exact .inl (hR.done key (.inl ho))
  by_cases e:σ2 key=σ1 key
  ·refine .inr ⟨e.trans h1,fun s hs=>?_⟩;rw [TV hj] at hs;rcases Uc.1 hs with hs | hs
   ·obtain ⟨y,hy1,hy2⟩:=h2 s hs;obtain ⟨z,hz,h3⟩:=hR.mono _ y hy1;exact ⟨z,hz,by omega⟩
   simp at hs; subst hs; exact hy
  exact .inl (hR.done key (.inr e))
 at':=by
  obtain ⟨y,hy,h1⟩:=h.at';obtain ⟨z,hz,h2⟩:=hR.mono key y hy;exact ⟨z,hz,by omega⟩
theorem Half.full {E:List (Ky × St)} {σ σ':Ky→Option Int} {key:Ky} {x:Int} {j:Nat} (h:Half E σ key x j σ') (hj:(lookL E key).length≤j):Raised E σ σ' where
 mono:=h.mono
 done k hk:=by
  by_cases e:k=key
  ·subst e;rcases h.own with ho | ⟨h1,h2⟩
   ·exact ho
   intro z hz s hs;rw [h1] at hz; injection hz with hz; subst hz;exact h2 s (by rw [List.take_of_length_le hj]; exact hs)
  exact h.done k e hk
theorem EG {ts:List Ty} {N:Nat} {E:List (Ky × St)} {σ:Ky→Option Int} (hE:Edge ts E) (hF:Found ts) (hR:Rz ts N σ) (hall:∀ k ∈ au ts,∃ x,σ k=some x) (hs:∀ k,rO E σ k):Least ts (fun k=>(σ k).getD 0) where
 sol:=⟨fun k=>by
   cases e:σ k with
   | none=>exact Int.le_refl _
   | some x=>exact (hR.there k x e).2.1,fun k hk d hd=>by
   obtain ⟨x,hx⟩:=hall _ (hF k hk d hd);have hm:(⟨k.1,k.2,stepOf d⟩:St) ∈ lookL E (d.typ,d.rel):=mem_lookL.2 ((hE _ _ _ _).2 ⟨hk,d,hd,rfl,rfl⟩);obtain ⟨y,hy,h2⟩:=hs _ x hx _ hm;have hy':σ k=some y:=hy;simp only [hx,hy',Option.getD_some];exact h2⟩
 low k hk:=by
  obtain ⟨x,hx⟩:=hall k hk;simp only [hx,Option.getD_some];exact (hR.there k x hx).2.2.2
theorem Edge.low {ts:List Ty} {E:List (Ky × St)} (hE:Edge ts E) {k:Ky} {x:Int} (hl:qw ts k x) {s:St} (hs:s ∈ lookL E k):s.key ∈ au ts∧qw ts s.key (x + s.n)∧0≤s.n∧s.n≤1:=by
 obtain ⟨h1,d,hd,e1,e2⟩:=(hE k s.typ s.rel s.n).1 (mem_lookL.1 hs);have:=zW d;refine ⟨h1,?_,by omega,by omega⟩;rw [← e2];exact qw.step h1 hd (by rw [e1]; exact hl)
open Go.ChangeAt Go.ChangeShapes Go.Maps Go.RowKit Go.WideShapes
def iW (σ:Ky→Option Int):Ky→Option Value:=fun k=>(σ k).map fun x=>Value.int .i64 x
theorem QD (σ:Ky→Option Int) (k:Ky) (x:Int):lc (iW σ) k (some (.int .i64 x))=iW (Hu σ k x):=by
 funext y
 unfold iW;by_cases e:y=k
 ·subst e; rw [d9,og]; rfl
 rw [cz e,rM e]
theorem vk (u:af):(zeroValue 2).run prog u=.ok (.int .i64 0) u:=by kernel_rfl
def EH (gS gC gL gR:Nat):Value:=.func (Fn.func 186) #[] #[.pointer (some ⟨gS,0,none⟩),.pointer (some ⟨gC,0,none⟩),.pointer (some ⟨gL,0,none⟩),.pointer (some ⟨gR,0,none⟩)]
structure Rw (w:World) (gS gC gL gR bS bL N n nL:Nat) (ML:Ky→Option Value) (E:List (Ky × St)) (σ:Ky→Option Int):Prop where
 cS:w.cell? ⟨gS,0,none⟩=some (.map (some bS))
 cC:w.cell? ⟨gC,0,none⟩=some (.int .i64 N)
 cL:w.cell? ⟨gL,0,none⟩=some (.map (some bL))
 cR:w.cell? ⟨gR,0,none⟩=some (EH gS gC gL gR)
 lS:gS < w.heap.size∧gS ≠ bS
 lC:gC < w.heap.size∧gC ≠ bS
 lL:gL < w.heap.size∧gL ≠ bS
 lR:gR < w.heap.size∧gR ≠ bS
 map:aM dQ prog 94 w bS n (iW σ)
 lean:Grp w bL nL ML E
 bne:bL ≠ bS
 free:FreeB ML bS
theorem kC {w w':af} {b g:Nat} (hg:w.grownBy w' (some b)) (hl:g < w.heap.size∧g ≠ b) (o:Nat):w'.cell? ⟨g,o,none⟩=w.cell? ⟨g,o,none⟩:=Ul (w:=w) (hg.block g hl.1 (fun e=>hl.2 (by injection e)))
theorem Grp.kept {w w':af} {bL n b:Nat} {M:Ky→Option Value} {E:List (Ky × St)} (h:Grp w bL n M E) (hg:w.grownBy w' (some b)) (hb:bL ≠ b) (hf:FreeB M b):Grp w' bL n M E where
 map:=h.map.kept hg (by intro e; injection e with e; exact hb e)
 row k:=by
  rcases h.row k with e | ⟨v,e,ho⟩
  ·exact .inl e
  exact .inr ⟨v,e,ho.kept hg (.inr (hf k v e))⟩
 apart:=h.apart
theorem Rw.kept {w w':af} {gS gC gL gR bS bL N n n' nL:Nat} {ML:Ky→Option Value} {E:List (Ky × St)} {σ σ':Ky→Option Int} (h:Rw w gS gC gL gR bS bL N n nL ML E σ) (hg:w.grownBy w' (some bS)) (hM:aM dQ prog 94 w' bS n' (iW σ')):Rw w' gS gC gL gR bS bL N n' nL ML E σ' where
 cS:=(kC hg h.lS 0).trans h.cS
 cC:=(kC hg h.lC 0).trans h.cC
 cL:=(kC hg h.lL 0).trans h.cL
 cR:=(kC hg h.lR 0).trans h.cR
 lS:=⟨TP h.lS.1 hg.size,h.lS.2⟩
 lC:=⟨TP h.lC.1 hg.size,h.lC.2⟩
 lL:=⟨TP h.lL.1 hg.size,h.lL.2⟩
 lR:=⟨TP h.lR.1 hg.size,h.lR.2⟩
 map:=hM
 lean:=h.lean.kept hg h.bne h.free
 bne:=h.bne
 free:=h.free
theorem jk {w w':af} {b:Nat} (h:ag w w'):w.grownBy w' (some b):=⟨h.os,h.tape,h.output,h.size,fun k hk _=>h.block k hk⟩
theorem Rw.below {w w':af} {gS gC gL gR bS bL N n nL:Nat} {ML:Ky→Option Value} {E:List (Ky × St)} {σ:Ky→Option Int} (h:Rw w gS gC gL gR bS bL N n nL ML E σ) (hB:ag w w'):Rw w' gS gC gL gR bS bL N n nL ML E σ:=h.kept (jk hB) (h.map.below hB)
theorem mW {a b c:af} {r:Option Nat} (h:a.grownBy b r) (h2:b.grownBy c r):a.grownBy c r:=⟨h2.os.trans h.os,h2.tape.trans h.tape,h2.output.trans h.output,TZ h.size h2.size,fun k hk hr=>(h2.block k (TP hk h.size) hr).trans (h.block k hk hr)⟩
def Jg (ts:List Ty) (w:World) (gS gC gL gR bS bL N n nL:Nat) (ML:Ky→Option Value) (E:List (Ky × St)) (σ:Ky→Option Int) (key:Ky) (lv:Int) (e:Ending) (w':World):Prop :=
 ∃ (ok:Bool) (σ':Ky→Option Int) (n':Nat),e=.returned (.bool ok)∧w.grownBy w' (some bS)∧Rw w' gS gC gL gR bS bL N n' nL ML E σ'∧Rz ts N σ'∧(n':Int) + nZ N σ' (au ts)≤n + nZ N σ (au ts)∧nZ N σ' (au ts)≤nZ N σ (au ts) ∧
  (ok=false→¬ ∃ f,Sol ts f)∧(ok=true→Raised E σ σ'∧∃ x,σ' key=some x∧lv≤x)
set_option maxRecDepth 100000 in
theorem Md (ts:List Ty) (gS gC gL gR bS bL N nL:Nat) (ML:Ky→Option Value) (E:List (Ky × St)) (hE:Edge ts E) (hF:Found ts) (hN:N=(au ts).length) (hN36:N≤36) (hsz:∀ k ∈ au ts,k.1.size≤maxLen∧k.2.size≤maxLen) (hEl:E.length≤100000) (f:Nat) :
  ∀ (w:World) (σ:Ky→Option Int) (n:Nat) (key:Ky) (lv:Int),Rw w gS gC gL gR bS bL N n nL ML E σ→Rz ts N σ→nZ N σ (au ts)≤f→(n:Int) + nZ N σ (au ts)≤100000→key ∈ au ts→0≤lv→lv≤100→qw ts key lv →
  Calls prog 186 #[.agg #[.string key.1,.string key.2],.int .i64 lv,.pointer (some ⟨gS,0,none⟩),.pointer (some ⟨gC,0,none⟩),.pointer (some ⟨gL,0,none⟩),.pointer (some ⟨gR,0,none⟩)] w (Jg ts w gS gC gL gR bS bL N n nL ML E σ key lv):=by
 have HE:=az hE;have HF:=az hF;have Xt:Hid (∀ k ∈ au ts,k.1.size≤maxLen∧k.2.size≤maxLen):=hsz;have WC:Hid (N=(au ts).length):=hN;clear hE hF hsz hN
 induction f using Nat.strongRecOn with
 | _ f ih =>
 intro w σ n key lv hR hZ hmu hnm hk h0 h1 hl;have HIH:Hid (∀ m < f,_):=ih;clear ih;obtain ⟨hz1,hz2⟩:=Xt.out key hk;obtain ⟨kl,hkl⟩:=jC key hz1 hz2;have Vo:Hid (keyOf prog 94 (dQ key)=some kl):=hkl;have HR:=az hR;have HZ:=az hZ;have HLK:=az hl;have HKM:=az hk;have hmp:=hZ.mu_pos (au ts);have cS:=hR.cS;have cC:=hR.cC;have cL:=hR.cL;have lS:=hR.lS.1;have lC:=hR.lC.1;have lL:=hR.lL.1;have hbS:=hR.map.lt;have hal:ag w (w.alloc (.cells #[.string key.1,.string key.2] 94)):=(TT _ _).alloc (TS _) _;have UO:=az hal;have XC:Hid (aM dQ prog 94 (w.alloc (.cells #[.string key.1,.string key.2] 94)) bS n (iW σ)):=hR.map.below hal;have HR1:=az (hR.below hal);clear hR hZ hl hkl hal hk;by_cases hd:∃ x,σ key=some x∧lv≤x
 ·obtain ⟨x,hx,hle⟩:=hd;obtain ⟨-,hx0,hxN,-⟩:=HZ.out.there key x hx;have hlk:iW σ key=some (.int .i64 x):=by unfold iW; rw [hx]; rfl
  have HX:Hid (σ key=some x):=hx;clear hx;go_enter func186,ntmps186;go_wp2_with (at_lookup; refine bZ _ rfl _ _ 153 rfl 94 2 ic underlying153 (vk _) bS n (iW σ) rfl XC.out key kl rfl Vo.out ?_; simp only [hlk,Option.getD_some,Option.isSome_some]);go_ret;exact ⟨true,σ,n,rfl,jk UO.out,HR1.out,HZ.out,Int.le_refl _,Int.le_refl _,by simp,fun _=>⟨Raised.refl _ _,x,HX.out,hle⟩⟩
 have ZX:Hid (∀ y,σ key=some y→y < lv):=fun y hy=>by
  by_cases h:lv≤y
  ·exact absurd ⟨y,hy,h⟩ hd
  omega
 clear hd;by_cases hNt:(N:Int)≤lv
 ·have Wz:Hid (¬ ∃ f,Sol ts f):=IB HF.out HKM.out HLK.out (by have:=WC.out; omega);cases hs:σ key with
  | none =>
   have hlk:iW σ key=none:=by unfold iW; rw [hs]; rfl
   clear hs;go_enter func186,ntmps186;go_wp2_with (at_lookup; refine bZ _ rfl _ _ 153 rfl 94 2 ic underlying153 (vk _) bS n (iW σ) rfl XC.out key kl rfl Vo.out ?_; simp only [hlk,Option.getD_none,Option.isSome_none]);go_ret;exact ⟨false,σ,n,rfl,jk UO.out,HR1.out,HZ.out,Int.le_refl _,Int.le_refl _,fun _=>Wz.out,by simp⟩
  | some x =>
   have hxt:x < lv:=ZX.out x hs;obtain ⟨-,hx0,hxN,-⟩:=HZ.out.there key x hs;have hlk:iW σ key=some (.int .i64 x):=by unfold iW; rw [hs]; rfl
   clear hs;go_enter func186,ntmps186;go_wp2_with (at_lookup; refine bZ _ rfl _ _ 153 rfl 94 2 ic underlying153 (vk _) bS n (iW σ) rfl XC.out key kl rfl Vo.out ?_; simp only [hlk,Option.getD_some,Option.isSome_some]);go_ret;exact ⟨false,σ,n,rfl,jk UO.out,HR1.out,HZ.out,Int.le_refl _,Int.le_refl _,fun _=>Wz.out,by simp⟩
 have hNt':lv < (N:Int):=by omega
 have HZ2:Hid (Rz ts N (Hu σ key lv)):=HZ.out.set HKM.out h0 hNt' HLK.out;have HMU:Hid (nZ N (Hu σ key lv) (au ts) + 1≤nZ N σ (au ts)):=Tv HZ2.out ZX.out h0 _ HKM.out;obtain ⟨Zv,cpL,hvl,hrow⟩:=Qr (ve HR.out.lean key);have HVL:Hid ((ML key).getD (.slice none 0 0)=.slice Zv (lookL E key).length cpL):=hvl;have hll:(lookL E key).length≤100000:=TZ (Di _ _) hEl;clear hvl hrow;cases hs:σ key
 case' none =>
  have hlk:iW σ key=none:=by unfold iW; rw [hs]; rfl
  clear hs;go_enter func186,ntmps186
  go_wp2_with (first
   | (at_lookup; refine bZ _ rfl _ _ 153 rfl 94 2 ic underlying153 (vk _) bS n (iW σ) rfl XC.out key kl rfl Vo.out ?_; simp only [hlk,Option.getD_none,Option.isSome_none])
   | (at_mapUpdate; refine nC _ rfl _ _ _ 153 rfl 94 2 ic uF underlying153 bS n (iW σ) rfl XC.out (by unfold maxLen; omega) key kl rfl Vo.out (.int .i64 lv) rfl ?_; intro w2 hV2 hg2; have cL2:w2.cell? ⟨gL,0,none⟩=some (.map (some bL)):=(kC hg2 HR1.out.lL 0).trans HR1.out.cL; have k0:w2.cell? ⟨w.heap.size,0,none⟩=some (.string key.1):=(kC hg2 ⟨by simp,by omega⟩ 0).trans (by simp); have k1:w2.cell? ⟨w.heap.size,1,none⟩=some (.string key.2):=(kC hg2 ⟨by simp,by omega⟩ 1).trans (by simp))
   | (at_lookup; refine jB _ rfl _ _ 211 rfl 94 272 ic underlying211 (Jf _) bL nL ML rfl ((HR1.out.lean.kept hg2 HR1.out.bne HR1.out.free).map) key kl rfl Vo.out ?_; rw [HVL.out]))
 case' some x =>
  have hxt:x < lv:=ZX.out x hs;obtain ⟨-,hx0,hxN,-⟩:=HZ.out.there key x hs;have hlk:iW σ key=some (.int .i64 x):=by unfold iW; rw [hs]; rfl
  clear hs;go_enter func186,ntmps186
  go_wp2_with (first
   | (at_lookup; refine bZ _ rfl _ _ 153 rfl 94 2 ic underlying153 (vk _) bS n (iW σ) rfl XC.out key kl rfl Vo.out ?_; simp only [hlk,Option.getD_some,Option.isSome_some])
   | (at_mapUpdate; refine nC _ rfl _ _ _ 153 rfl 94 2 ic uF underlying153 bS n (iW σ) rfl XC.out (by unfold maxLen; omega) key kl rfl Vo.out (.int .i64 lv) rfl ?_; intro w2 hV2 hg2; have cL2:w2.cell? ⟨gL,0,none⟩=some (.map (some bL)):=(kC hg2 HR1.out.lL 0).trans HR1.out.cL; have k0:w2.cell? ⟨w.heap.size,0,none⟩=some (.string key.1):=(kC hg2 ⟨by simp,by omega⟩ 0).trans (by simp); have k1:w2.cell? ⟨w.heap.size,1,none⟩=some (.string key.2):=(kC hg2 ⟨by simp,by omega⟩ 1).trans (by simp))
   | (at_lookup; refine jB _ rfl _ _ 211 rfl 94 272 ic underlying211 (Jf _) bL nL ML rfl ((HR1.out.lean.kept hg2 HR1.out.bne HR1.out.free).map) key kl rfl Vo.out ?_; rw [HVL.out]))
 all_goals
  have HR2:Hid (Rw w2 gS gC gL gR bS bL N (n + 1) nL ML E (Hu σ key lv)):=HR1.out.kept hg2 (by rw [← QD]; exact hV2);have HG2:Hid (w.grownBy w2 (some bS)):=mW (jk UO.out) hg2;clear hV2 hg2 cL2 k0 k1;go_loopw [35] (fun i w3=>∃ j:Nat,j≤(lookL E key).length∧i=.int .i64 j∧Hid (∃ (σ3:Ky→Option Int) (n3:Nat),Half E σ key lv j σ3∧Rw w3 gS gC gL gR bS bL N n3 nL ML E σ3∧Rz ts N σ3∧(n3:Int) + nZ N σ3 (au ts)≤n + nZ N σ (au ts)∧nZ N σ3 (au ts) + 1≤nZ N σ (au ts)∧w.grownBy w3 (some bS))) (fun i _=>(lookL E key).length - (intOf i).toNat);case atStart=>exact ⟨0,TW _,rfl,⟨Hu σ key lv,n + 1,Half.start ZX.out,HR2.out,HZ2.out,by have:=HMU.out; push_cast; omega,HMU.out,HG2.out⟩⟩
  clear HR2 HG2 HZ2 HMU;obtain ⟨j,hj,rfl,HI⟩:=hrel;by_cases hjl:j < (lookL E key).length
  ·obtain ⟨σ3,n3,hH3,Wt,hZ3,hn3,XH,hg3⟩:=HI.out;obtain ⟨UJ,cp',hv',hrow'⟩:=Qr (ve Wt.lean key);rw [HVL.out] at hv';injection hv' with e1 e2 e3;subst e1;rcases hrow' with h | ⟨gr,UF,hgr1,U1,hcr⟩
   ·omega
   obtain ⟨st,hst⟩:∃ st,st=(lookL E key)[j]:=⟨_,rfl⟩;have r0:wr.cell? ⟨gr,j * 3,none⟩=some (.string st.typ):=hcr _ _ (by have:=lw (lookL E key) j hjl 0 (by omega); rw [hst]; simpa [St.cells] using this);have r1:wr.cell? ⟨gr,j * 3 + 1,none⟩=some (.string st.rel):=hcr _ _ (by have:=lw (lookL E key) j hjl 1 (by omega); rw [hst]; simpa [St.cells] using this);have r2:wr.cell? ⟨gr,j * 3 + 2,none⟩=some (.int .i64 st.n):=hcr _ _ (by have:=lw (lookL E key) j hjl 2 (by omega); rw [hst]; simpa [St.cells] using this);have HST:Hid (st=(lookL E key)[j]):=hst;obtain ⟨hsk,hsl,hsn0,hsn1⟩:=HE.out.low HLK.out (s:=st) (by rw [hst]; exact TQ hjl);have HSK:=az hsk;have WQ:=az hsl;have hj1:=bB j;have hj2:(j:Int) < ((lookL E key).length:Int):=by omega
   have cR3:=Wt.cR;unfold EH at cR3;have lR3:=Wt.lR.1;obtain ⟨W3,hW3⟩:∃ W3,W3=wr.alloc (.cells #[.string st.typ,.string st.rel,.int .i64 st.n] 274):=⟨_,rfl⟩;have XI:ag wr W3:=by rw [hW3]; exact (TT _ _).alloc (TS _) _
   have HR3:=az (Wt.below XI);have Xw:Hid (w.grownBy W3 (some bS)):=mW hg3 (jk XI);have HH3:=az hH3;have HZ3:=az hZ3;have hm3p:=hZ3.mu_pos (au ts);have HNM:Hid ((n3:Int) + nZ N σ3 (au ts)≤n + nZ N σ (au ts)∧nZ N σ3 (au ts) + 1≤nZ N σ (au ts)):=⟨hn3,XH⟩;rw [UF];clear hcr hgr1 U1 hsk hsl hst Wt XI hH3 hZ3 hg3 HI e2 e3;go_wp2_with fail;rw [← hW3];clear hW3 r0 r1 r2 cR3;refine (HIH.out (nZ N σ3 (au ts)).toNat (by omega) _ σ3 n3 st.key (lv + st.n) HR3.out HZ3.out (by omega) (by omega) HSK.out (by omega) (by omega) WQ.out).mono ?_;rintro e w5 ⟨ok,σ5,n5,rfl,hg5,UW,hZ5,Zb,Xc,hf5,ht5⟩;cases ok;case false=>
    have HP:Hid (Jg ts w gS gC gL gR bS bL N n nL ML E σ key lv (.returned (.bool false)) w5):=by
     have h:=HNM.out;exact ⟨false,σ5,n5,rfl,mW Xw.out hg5,UW,hZ5,by omega,by omega,fun _=>hf5 rfl,by simp⟩
    clear hg5 UW hZ5 Zb Xc hf5 ht5;go_wp2;go_ret;exact HP.out
   have HI2:Hid (∃ (σ3:Ky→Option Int) (n3:Nat),Half E σ key lv (j + 1) σ3∧Rw w5 gS gC gL gR bS bL N n3 nL ML E σ3∧Rz ts N σ3∧(n3:Int) + nZ N σ3 (au ts)≤n + nZ N σ (au ts)∧nZ N σ3 (au ts) + 1≤nZ N σ (au ts)∧w.grownBy w5 (some bS)):=by
    have h:=HNM.out;obtain ⟨Z6,y,hy,hle⟩:=ht5 rfl;refine ⟨σ5,n5,HH3.out.step hjl Z6 ⟨y,?_,?_⟩,UW,hZ5,by omega,by omega,mW Xw.out hg5⟩
    ·rw [← HST.out]; exact hy
    rw [← HST.out]; exact hle
   clear hg5 UW hZ5 Zb Xc hf5 ht5;go_wp2;go_roundw;case rel=>exact ⟨j + 1,by omega,by go_num,HI2⟩
   simp [intOf] <;> omega
  obtain rfl:j=(lookL E key).length:=by omega
  have HP:Hid (Jg ts w gS gC gL gR bS bL N n nL ML E σ key lv (.returned (.bool true)) wr):=by
   obtain ⟨σ3,n3,hH3,Wt,hZ3,hn3,XH,hg3⟩:=HI.out;exact ⟨true,σ3,n3,rfl,hg3,Wt,hZ3,hn3,by omega,by simp,fun _=>⟨hH3.full (TS _),hH3.at'⟩⟩
  clear HI;go_wp2;go_ret;exact HP.out
def OU (ts:List Ty) (w:World) (e:Ending) (w':World):Prop :=
 ((∃ (b n:Nat) (σ:Ky→Option Int),e=.returned (.tuple #[.map (some b),.bool true])∧aM dQ prog 94 w' b n (iW σ)∧Least ts (fun k=>(σ k).getD 0)∧∀ k,(∃ x,σ k=some x) ↔ k ∈ au ts) ∨ (e=.returned (.tuple #[.map none,.bool false])∧¬ ∃ f,Sol ts f))∧ag w w'
theorem OV (N:Nat) (ks:List Ky):nZ N (fun _=>none) ks=N * ks.length:=by
 induction ks with
 | nil=>simp [nZ]
 | cons k ks ih=>simp only [nZ,ih,wJ,List.length_cons]; push_cast; rw [Int.mul_add]; omega
theorem Me {rs:List TR} (hf:∀ r ∈ rs,r.fits):∀ k ∈ au (ae rs),k.1.size≤maxLen∧k.2.size≤maxLen:=by
 intro k hk;obtain ⟨t,ht,r,hr,rfl⟩:=qA.1 hk;obtain ⟨t',ht',rfl⟩:=Ue.1 ht;obtain ⟨q,hq,rfl⟩:=Ue.1 hr;exact ⟨(hf t' ht').1,((hf t' ht').2.2 q hq).1⟩
set_option maxRecDepth 100000 in
theorem yw (ad:Option Addr) (cap:Nat) (rs:List TR) (bL nL:Nat) (ML:Ky→Option Value) (E:List (Ky × St)) (w:af) (hlen:rs.length≤6) (hs:kX w ad rs) (hf:∀ r ∈ rs,r.fits) (hrl:∀ r ∈ rs,r.rows.length≤6) (hG:Grp w bL nL ML E) (hE:Edge (ae rs) E) (hF:Found (ae rs)) (hEl:E.length≤100000) :
  Calls prog 133 #[.slice ad rs.length cap,.map (some bL)] w (OU (ae rs) w):=by
 have HS:=az hs;have UL:=az hf;have YI:Hid (∀ r ∈ rs,r.rows.length≤6):=hrl;have HG:Hid (Grp w bL nL ML E):=hG;have HE:=az hE;have HF:=az hF;have Yo:Hid (bL < w.heap.size):=hG.map.lt;clear hs hf hrl hG hE hF;have hmm:=@run_makeMap prog;go_enter func133,ntmps133;have HB0:Hid (ag w ((w.alloc (.cells #[.map (some bL)] 211)).alloc (.cells #[.int .i64 0] 2))):=((TT _ _).alloc (TS _) _).alloc (by simp) _;have VG:Hid (((w.alloc (.cells #[.map (some bL)] 211)).alloc (.cells #[.int .i64 0] 2)).cell? ⟨w.heap.size,0,none⟩=some (.map (some bL))∧((w.alloc (.cells #[.map (some bL)] 211)).alloc (.cells #[.int .i64 0] 2)).cell? ⟨w.heap.size + 1,0,none⟩=some (.int .i64 0)∧((w.alloc (.cells #[.map (some bL)] 211)).alloc (.cells #[.int .i64 0] 2)).frozen? ⟨w.heap.size + 1,0,none⟩=false∧w.heap.size + 1 < ((w.alloc (.cells #[.map (some bL)] 211)).alloc (.cells #[.int .i64 0] 2)).heap.size):=⟨by simp,by simp,by simp,by simp⟩;go_wp2_with fail;go_loopw [17] (fun i wr=>∃ k:Nat,k≤rs.length∧i=.int .i64 k∧Hid (ag w wr)∧Hid (wr.cell? ⟨w.heap.size,0,none⟩=some (.map (some bL))∧wr.cell? ⟨w.heap.size + 1,0,none⟩=some (.int .i64 ((dA rs k).length:Int))∧wr.frozen? ⟨w.heap.size + 1,0,none⟩=false∧w.heap.size + 1 < wr.heap.size)) (fun i _=>rs.length - (intOf i).toNat);case atStart=>exact ⟨0,TW _,rfl,HB0,VG⟩
 clear HB0 VG;obtain ⟨k,hk,rfl,HB,HC⟩:=hrel;obtain ⟨c0,c1,c2,c3⟩:=HC.out;have hu:=ww rs YI.out k;by_cases hlt:k < rs.length
 ·rcases HS.out.below HB.out with rfl | ⟨b,off,rfl,hb,hr,-⟩
  ·simp at hlt
  obtain ⟨t0,t1⟩:=hr k hlt;have hk1:=bB k;have hk2:(k:Int) < (rs.length:Int):=by omega
  have h6:=YI.out _ (TQ hlt);have Vm:Hid ((dA rs (k + 1)).length=(dA rs k).length + rs[k].rows.length):=by show _=_; rw [o8 _ _ hlt,T9]; simp [iU]
  obtain ⟨cn,hcn⟩:∃ cn,cn=(dA rs k).length:=⟨_,rfl⟩;rw [← hcn] at c1 hu Vm;have HB1:Hid (ag w ((wr.setCell ⟨w.heap.size + 1,0,none⟩ (.int .i64 ((cn:Int) + (rs[k].rows.length:Int)))).alloc (.cells #[.string rs[k].name,.slice rs[k].ad rs[k].rows.length rs[k].cap] 127))):=(HB.out.setCell (p:=⟨w.heap.size + 1,0,none⟩) (by simp) _).alloc (by simpa using HB.out.size) _;have VI:Hid (((wr.setCell ⟨w.heap.size + 1,0,none⟩ (.int .i64 ((cn:Int) + (rs[k].rows.length:Int)))).alloc (.cells #[.string rs[k].name,.slice rs[k].ad rs[k].rows.length rs[k].cap] 127)).cell? ⟨w.heap.size,0,none⟩=some (.map (some bL))∧((wr.setCell ⟨w.heap.size + 1,0,none⟩ (.int .i64 ((cn:Int) + (rs[k].rows.length:Int)))).alloc (.cells #[.string rs[k].name,.slice rs[k].ad rs[k].rows.length rs[k].cap] 127)).cell? ⟨w.heap.size + 1,0,none⟩=some (.int .i64 ((dA rs (k + 1)).length:Int))∧((wr.setCell ⟨w.heap.size + 1,0,none⟩ (.int .i64 ((cn:Int) + (rs[k].rows.length:Int)))).alloc (.cells #[.string rs[k].name,.slice rs[k].ad rs[k].rows.length rs[k].cap] 127)).frozen? ⟨w.heap.size + 1,0,none⟩=false∧w.heap.size + 1 < ((wr.setCell ⟨w.heap.size + 1,0,none⟩ (.int .i64 ((cn:Int) + (rs[k].rows.length:Int)))).alloc (.cells #[.string rs[k].name,.slice rs[k].ad rs[k].rows.length rs[k].cap] 127)).heap.size):=by
   obtain ⟨X,hX⟩:∃ X,X=wr.setCell ⟨w.heap.size + 1,0,none⟩ (.int .i64 ((cn:Int) + (rs[k].rows.length:Int))):=⟨_,rfl⟩;have hXs:X.heap.size=wr.heap.size:=by rw [hX]; simp
   have hB:ag X (X.alloc (.cells #[.string rs[k].name,.slice rs[k].ad rs[k].rows.length rs[k].cap] 127)):=(TT _ _).alloc (TS _) _;rw [← hX];refine ⟨aG hB (by omega) (by rw [hX,xw (by omega)]; exact c0),aG hB (by omega) (by rw [hX,Vm.out]; push_cast; exact xq c1),?_,by simp; omega⟩;rw [hB.frozen (p:=⟨w.heap.size + 1,0,none⟩) (by simp; omega),hX];simpa using c2
  clear hr hcn HC;go_wp2;go_roundw;case rel=>exact ⟨k + 1,by omega,by go_num,HB1,VI⟩
  simp [intOf] <;> omega
 obtain rfl:k=rs.length:=by omega
 have hEN:dA rs rs.length=au (ae rs):=by unfold dA; rw [Ug]
 rw [hEN] at c1 hu;obtain ⟨N,hN⟩:∃ N,N=(au (ae rs)).length:=⟨_,rfl⟩;rw [← hN] at c1 hu;have WC:Hid (N=(au (ae rs)).length):=hN;have HEN:Hid (dA rs rs.length=au (ae rs)):=hEN;have hN36:N≤36:=by omega
 have hbl:=Yo.out;have hwr:w.heap.size≤wr.heap.size:=HB.out.size;obtain ⟨W0,hW0⟩:∃ W0,W0=(((wr.alloc (.map #[] 0)).alloc (.cells #[.map (some wr.heap.size)] 153)).alloc (.cells #[(.func (Fn.func 186) #[] #[.pointer (some ⟨wr.heap.size + 1,0,none⟩),.pointer (some ⟨w.heap.size + 1,0,none⟩),.pointer (some ⟨w.heap.size,0,none⟩),.pointer (some ⟨wr.heap.size + 1 + 1,0,none⟩)])] 270)):=⟨_,rfl⟩;have hal:ag wr W0:=by
  rw [hW0]
  repeat (first | exact TT _ _ | refine Below.alloc ?_ (by first | (simp; done) | (simp; omega)) _)
 have hs0:W0.heap.size=wr.heap.size + 3:=by rw [hW0]; simp
 have HRW:Hid (Rw W0 (wr.heap.size + 1) (w.heap.size + 1) w.heap.size (wr.heap.size + 1 + 1) wr.heap.size bL N 0 nL ML E (fun _=>none)):=by
  have hGr:Grp wr bL nL ML E:=HG.out.below HB.out;have hMV:aM dQ prog 94 W0 wr.heap.size 0 (iW (fun _=>none)):=by
   have h1:=nM dQ prog 94 wr;have e1:iW (fun _=>none)=fun _=>none:=by funext k; rfl
   rw [e1];refine h1.below ?_;rw [hW0]
   repeat (first | exact TT _ _ | refine Below.alloc ?_ (by first | (simp; done) | (simp; omega)) _)
  have hcS:W0.cell? ⟨wr.heap.size + 1,0,none⟩=some (.map (some wr.heap.size)):=by
   rw [hW0];exact aG ((TT _ _).alloc (TS _) _) (by simp) (Ng wr _ _ _ 0 rfl)
  have hcR:W0.cell? ⟨wr.heap.size + 1 + 1,0,none⟩=some (EH (wr.heap.size + 1) (w.heap.size + 1) w.heap.size (wr.heap.size + 1 + 1)):=by
   rw [hW0];exact RX _ _ _ _ _ _ rfl
  exact ⟨hcS,aG hal (by omega) c1,aG hal (by omega) c0,hcR,by omega,by omega,by omega,by omega,hMV,hGr.below hal,by omega,hGr.fresh (TS _)⟩
 have HB0:=jP HB hal;clear hu hEN hN hal HC;go_wp2_with fail;rw [← hW0];clear hW0 c0 c1 c2 c3 HB;obtain ⟨bS,hbS⟩:∃ bS,bS=wr.heap.size:=⟨_,rfl⟩;obtain ⟨gS,hgS⟩:∃ gS,gS=wr.heap.size + 1:=⟨_,rfl⟩;obtain ⟨gR,hgR⟩:∃ gR,gR=wr.heap.size + 1 + 1:=⟨_,rfl⟩;obtain ⟨gC,hgC⟩:∃ gC,gC=w.heap.size + 1:=⟨_,rfl⟩;obtain ⟨gL,hgL⟩:∃ gL,gL=w.heap.size:=⟨_,rfl⟩;have hb1:w.heap.size≤bS:=by omega
 have HRW2:Hid (Rw W0 gS gC gL gR bS bL N 0 nL ML E (fun _=>none)):=by rw [hbS,hgS,hgR,hgC,hgL]; exact HRW
 have HI0:Hid (∃ (σ:Ky→Option Int) (n:Nat),Rw W0 gS gC gL gR bS bL N n nL ML E σ∧Rz (ae rs) N σ∧(n:Int) + nZ N σ (au (ae rs))≤2000∧Raised E (fun _=>none) σ∧∀ key ∈ dA rs 0,∃ x,σ key=some x):=by
  refine ⟨fun _=>none,0,HRW2.out,⟨fun k x h=>by cases h⟩,?_,Raised.refl _ _,fun k hk=>by simp [dA,ae,au] at hk⟩;rw [OV,← WC.out];have h1:(N:Int) * N≤36 * 36:=Int.mul_le_mul (by omega) (by omega) (by omega) (by omega)
  push_cast; omega
 rw [← hgR,← hgS,← hbS,← hgC,← hgL];clear HRW HRW2 hs0 hmm hgR hgS hbS hgC hgL;go_loopw [31] (fun i w2=>∃ k:Nat,k≤rs.length∧i=.int .i64 k∧Hid (ag w w2)∧Hid (∃ (σ:Ky→Option Int) (n:Nat),Rw w2 gS gC gL gR bS bL N n nL ML E σ∧Rz (ae rs) N σ∧(n:Int) + nZ N σ (au (ae rs))≤2000∧Raised E (fun _=>none) σ∧∀ key ∈ dA rs k,∃ x,σ key=some x)) (fun i _=>rs.length - (intOf i).toNat);case atStart=>exact ⟨0,TW _,rfl,HB0,HI0⟩
 clear HB0 HI0;obtain ⟨k,hk,rfl,HB,HI⟩:=hrel;by_cases hlt:k < rs.length
 ·rcases HS.out.below HB.out with rfl | ⟨b,off,rfl,hb,hr,-⟩
  ·simp at hlt
  obtain ⟨t0,t1⟩:=hr k hlt;have hk1:=bB k;have hk2:(k:Int) < (rs.length:Int):=by omega
  have h6:=YI.out _ (TQ hlt);obtain ⟨W1,hW1⟩:∃ W1,W1=wr.alloc (.cells #[.string rs[k].name,.slice rs[k].ad rs[k].rows.length rs[k].cap] 127):=⟨_,rfl⟩;have hal:ag wr W1:=by rw [hW1]; exact (TT _ _).alloc (TS _) _
  obtain ⟨g12,VU⟩:∃ g12,g12=wr.heap.size:=⟨_,rfl⟩;have hbw:bS < wr.heap.size:=by obtain ⟨σ,n,hR,-⟩:=HI.out; exact hR.map.lt
  have HC12:Hid (W1.cell? ⟨g12,0,none⟩=some (.string rs[k].name)∧g12 < W1.heap.size∧g12 ≠ bS):=⟨by rw [hW1,VU]; simp,by rw [hW1,VU]; simp,by omega⟩;have HB1:=jP HB hal;have HI1:Hid (∃ (σ:Ky→Option Int) (n:Nat),Rw W1 gS gC gL gR bS bL N n nL ML E σ∧Rz (ae rs) N σ∧(n:Int) + nZ N σ (au (ae rs))≤2000∧Raised E (fun _=>none) σ∧∀ key ∈ dA rs k,∃ x,σ key=some x):=by
   obtain ⟨σ,n,hR,h2⟩:=HI.out;exact ⟨σ,n,hR.below hal,h2⟩
  clear hr hal HI HB;go_wp2_with fail;rw [← hW1,← VU];clear hW1 t0 t1 VU;go_loopw [38] (fun i w3=>∃ j:Nat,j≤rs[k].rows.length∧i=.int .i64 j∧Hid (ag w w3)∧Hid (w3.cell? ⟨g12,0,none⟩=some (.string rs[k].name)∧g12 < w3.heap.size∧g12 ≠ bS)∧Hid (∃ (σ:Ky→Option Int) (n:Nat),Rw w3 gS gC gL gR bS bL N n nL ML E σ∧Rz (ae rs) N σ∧(n:Int) + nZ N σ (au (ae rs))≤2000∧Raised E (fun _=>none) σ∧∀ key ∈ dA rs k ++ iU rs[k] j,∃ x,σ key=some x)) (fun i _=>rs[k].rows.length - (intOf i).toNat);case atStart=>exact ⟨0,TW _,rfl,HB1,HC12,by simpa [iU] using HI1⟩
  clear HB1 HC12 HI1;obtain ⟨j,hj,rfl,HB,HC,HI⟩:=hrel;by_cases hjl:j < rs[k].rows.length
  ·rcases HS.out.below HB.out with hnil | ⟨b',off',he,hb2,hr,hok⟩
   ·rw [hnil] at hlt; simp at hlt
   injection he with he; injection he with he1 he2; subst he1; subst he2;have ok:=hok rs[k] (TQ hlt);rcases ok with hnil | ⟨b2,U0,had,hbb,hr2,-⟩
   ·rw [hnil] at hjl; simp at hjl
   obtain ⟨q0,q1⟩:=hr2 j hjl;have hj1:=bB j;have hj2:(j:Int) < (rs[k].rows.length:Int):=by omega
   obtain ⟨σ,n,hR,hZ,hn,Z6,hall⟩:=HI.out;obtain ⟨x0,x1,x2⟩:=HC.out;have cR:=hR.cR;unfold EH at cR;have lR:=hR.lR.1;obtain ⟨W3,hW3⟩:∃ W3,W3=wr.alloc (.cells #[.string rs[k].rows[j].name,.slice rs[k].rows[j].ad rs[k].rows[j].rows.length rs[k].rows[j].cap] 147):=⟨_,rfl⟩;have hal:ag wr W3:=by rw [hW3]; exact (TT _ _).alloc (TS _) _
   have HR3:=az (hR.below hal);have HZ3:=az hZ;have HB3:=jP HB hal;have XF:Hid (W3.cell? ⟨g12,0,none⟩=some (.string rs[k].name)∧g12 < W3.heap.size∧g12 ≠ bS):=⟨aG hal x1 x0,TP x1 hal.size,x2⟩;have Xk:Hid (Raised E (fun _=>none) σ):=Z6;have UO:Hid (∀ key ∈ dA rs k ++ iU rs[k] j,∃ x,σ key=some x):=hall;have hmp:=hZ.mu_pos (au (ae rs));have HKM:Hid ((rs[k].name,rs[k].rows[j].name) ∈ au (ae rs)):=qA.2 ⟨rs[k].p,List.mem_map_of_mem (TQ hlt),rs[k].rows[j].p,List.mem_map_of_mem (TQ hjl),rfl⟩;rw [had];clear hr hok hr2 hal hR hZ Z6 hall HI HB HC;go_wp2_with fail;rw [← hW3];clear hW3 q0 q1 cR x0;refine (Md (ae rs) gS gC gL gR bS bL N nL ML E HE.out HF.out WC.out hN36 (Me UL.out) hEl (nZ N σ (au (ae rs))).toNat _ σ n (rs[k].name,rs[k].rows[j].name) 0 HR3.out HZ3.out (by omega) (by omega) HKM.out (by omega) (by omega) (qw.zero _ _)).mono ?_;rintro e w5 ⟨ok,σ5,n5,rfl,hg5,UW,hZ5,Zb,Xc,hf5,ht5⟩;have VS:Hid (ag w w5):=HB3.out.grown hg5 HB3.out.size (fun i hi=>by injection hi with hi; omega);cases ok;case false=>
    have HP:Hid (OU (ae rs) w (.returned (.tuple #[.map none,.bool false])) w5):=⟨.inr ⟨rfl,hf5 rfl⟩,VS.out⟩;clear hg5 UW hZ5 Zb Xc hf5 ht5;go_wp2;refine bodyPost_ret (v:=.tuple #[.map none,.bool false]) ?_ rfl HP.out;simp [results,Tryz.results133,go_sem]
   have HI5:Hid (∃ (σ:Ky→Option Int) (n:Nat),Rw w5 gS gC gL gR bS bL N n nL ML E σ∧Rz (ae rs) N σ∧(n:Int) + nZ N σ (au (ae rs))≤2000∧Raised E (fun _=>none) σ∧∀ key ∈ dA rs k ++ iU rs[k] (j + 1),∃ x,σ key=some x):=by
    obtain ⟨Z6,y,hy,-⟩:=ht5 rfl;refine ⟨σ5,n5,UW,hZ5,by omega,Xk.out.trans Z6,fun key hk=>?_⟩;rw [sZ _ _ hjl,← List.append_assoc] at hk;rcases Uc.1 hk with hk | hk
    ·obtain ⟨x,hx⟩:=UO.out key hk;obtain ⟨z,hz,-⟩:=Z6.mono key x hx;exact ⟨z,hz⟩
    simp at hk; subst hk; exact ⟨y,hy⟩
   have WE:Hid (w5.cell? ⟨g12,0,none⟩=some (.string rs[k].name)∧g12 < w5.heap.size∧g12 ≠ bS):=⟨(kC hg5 XF.out.2 0).trans XF.out.1,TP XF.out.2.1 hg5.size,XF.out.2.2⟩;clear hg5 UW hZ5 Zb Xc hf5 ht5;go_wp2;go_roundw;case rel=>exact ⟨j + 1,by omega,by go_num,VS,WE,HI5⟩
   simp [intOf] <;> omega
  obtain rfl:j=rs[k].rows.length:=by omega
  have HI5:Hid (∃ (σ:Ky→Option Int) (n:Nat),Rw wr gS gC gL gR bS bL N n nL ML E σ∧Rz (ae rs) N σ∧(n:Int) + nZ N σ (au (ae rs))≤2000∧Raised E (fun _=>none) σ∧∀ key ∈ dA rs (k + 1),∃ x,σ key=some x):=by rw [o8 _ _ hlt]; exact HI
  clear HI;go_wp2;go_roundw;case rel=>exact ⟨k + 1,by omega,by go_num,HB,HI5⟩
  simp [intOf] <;> omega
 obtain rfl:k=rs.length:=by omega
 obtain ⟨σ,n,hR,hZ,hn,Z6,hall⟩:=HI.out;have cS:=hR.cS;have HP:Hid (OU (ae rs) w (.returned (.tuple #[.map (some bS),.bool true])) wr):=by
  rw [HEN.out] at hall;refine ⟨.inl ⟨bS,n,σ,rfl,hR.map,EG HE.out HF.out hZ hall (fun k=>Z6.done k (.inl (fun x h=>by cases h))),fun k=>⟨fun ⟨x,hx⟩=>(hZ.there k x hx).1,hall k⟩⟩,HB.out⟩
 clear hR hZ hn Z6 hall HI;go_wp2;refine bodyPost_ret (v:=.tuple #[.map (some bS),.bool true]) ?_ rfl HP.out;simp [results,Tryz.results133,go_sem]
theorem Mf (ng:Bool) (xs:List Al):dh ng xs=(dH xs).map fun a=>(⟨a.t,a.s,ng⟩:Dp):=by
 induction xs with
 | nil=>rfl
 | cons a xs ih=>simp only [dh,dH]; split <;> simp [ih]
theorem Dj (ts:List Ty) (typ:bH) (ng:Bool) (e:Ex) (hn:ax e=true) (hd:e.kind=3→bu (aA ts typ e.over)=true):dh ng e.allow ++ kP ts typ ng e=(jg ts typ e).map fun a=>(⟨a.t,a.s,ng⟩:Dp):=by
 by_cases h1:e.kind=1
 ·unfold kP jg;rw [if_neg (by omega),if_neg (by omega),if_pos h1,List.append_nil,Mf]
 rw [tO hn h1];unfold kP jg;rw [if_neg h1];by_cases h2:e.kind=2
 ·rw [if_pos h2,if_pos h2]; rfl
 rw [if_neg h2,if_neg h2];by_cases h3:e.kind=3
 ·rw [if_pos h3,if_pos h3];unfold gy;rw [if_pos (hd h3),List.map_map];rfl
 rw [if_neg h3,if_neg h3]; rfl
theorem Dk {ts:List Ty} {typ:ByteArray} {es:List Ex} {d:Dp} {i:Nat} (hd:d ∈ ik ts typ es i):∀ {k:Nat},i < k→d ∈ aN ts typ es k
 | 0,h=>by omega
 | k + 1,h=>by
  simp only [aN];by_cases e:i=k
  ·subst e; exact Uc.2 (.inr hd)
  exact Uc.2 (.inl (Dk hd (by omega)))
theorem AB {ts:List Ty} {t r:ByteArray} {es:List Ex} {x:Ky × St}:∀ {k:Nat},x ∈ relE ts t r es k ↔ ∃ i,i < k∧∃ e,es[i]?=some e∧x ∈ AA ts t r ((dz es).getD i false) e
 | 0=>by simp [relE]
 | k + 1=>by
  simp only [relE,Uc];rw [AB];constructor
  ·rintro (⟨i,hi,h⟩ | h)
   ·exact ⟨i,by omega,h⟩
   cases e:es[k]? with
   | none=>rw [e] at h; cases h
   | some y=>rw [e] at h; exact ⟨k,by omega,y,e,h⟩
  rintro ⟨i,hi,e,he,h⟩;by_cases ek:i=k
  ·subst ek; right; rw [he]; exact h
  exact .inl ⟨i,by omega,e,he,h⟩
theorem pz {rs:List TR} (h:bf (ae rs)=true) {t:TR} (ht:t ∈ rs) {q:RR} (hq:q ∈ t.rows):fI (ae rs) t.name q.name=some (ak q.rows):=by
 have hT:=wy h;have hs:=si (M:=fun _=>none) (rs:=rs) (k:=(t.name,q.name)) (.inr ⟨t,ht,q,hq,rfl⟩);obtain ⟨v,hv⟩:=Option.isSome_iff_exists.1 hs;obtain ⟨t',ht',q',hq',e,-,e2,-⟩:=hT.yes _ v hv;injection e with e3 e4;have h1:t=t':=FR h ht ht' e3;subst h1;obtain ⟨i,hi,rfl⟩:=List.mem_iff_getElem.1 ht;have h2:q=q':=FT (lF h i hi).2.2 hq hq' e4;subst h2;exact e2
theorem jl {es:List Ex} (h:aK es=true):∀ e ∈ es,ax e=true:=by
 simp only [aK,TU] at h;exact Ub.1 h.1.1.1.2
theorem Gj (t r:bH) (ng:Bool):stepOf ⟨t,r,ng⟩=xY ng:=by cases ng <;> rfl
theorem QE {rs:List TR} (h:bf (ae rs)=true) (hr:iC (ae rs)=true):Edge (ae rs) (ji (ae rs) rs):=by
 have UA:∀ t ∈ rs,∀ q ∈ t.rows,∀ e ∈ ak q.rows,ax e=true∧(e.kind=3→bu (aA (ae rs) t.name e.over)=true):=by
  intro t ht q hq e he;have h1:=((bq h).2.2 t ht q hq).1;refine ⟨jl h1 e he,fun h3=>?_⟩;unfold iC at hr;rw [Ub] at hr;have h2:=hr t.p (List.mem_map_of_mem ht);unfold qy at h2;rw [Ub] at h2;have h4:aR (ae rs) t.name (ak q.rows)=true:=h2 q.p (List.mem_map_of_mem hq);have h5:=(CF h4 e he).2;unfold ll at h5;rw [if_neg (by omega),if_pos h3,TU] at h5;exact h5.1
 intro on t0 r0 s;constructor
 ·intro hm;unfold ji jh at hm;rw [Uf] at hm;obtain ⟨t,ht,hm⟩:=hm;rw [Uf] at hm;obtain ⟨q,hq,hm⟩:=hm;obtain ⟨i,hi,e,he,hm⟩:=AB.1 hm;unfold AA at hm;obtain ⟨a,ha,e1⟩:=Ue.1 hm;injection e1 with e2 e3;injection e3 with e4 e5 e6;subst e4; subst e5;refine ⟨qA.2 ⟨t.p,List.mem_map_of_mem ht,q.p,List.mem_map_of_mem hq,rfl⟩,⟨a.t,a.s,(dz (ak q.rows)).getD i false⟩,?_,e2,by rw [Gj]; exact e6⟩;unfold il pR;have ero:aA (ae rs) t.name q.name=ak q.rows:=by unfold aA; rw [pz h ht hq]; rfl
  simp only [ero];have hi2:i < (ak q.rows).length:=(List.getElem?_eq_some_iff.1 he).1;refine Dk (i:=i) ?_ hi2;unfold ik;rw [he];obtain ⟨n1,n2⟩:=UA t ht q hq e (List.mem_of_getElem? he);simp only;rw [Dj _ _ _ _ n1 n2];exact List.mem_map_of_mem (f:=fun a:Al=>(⟨a.t,a.s,(dz (ak q.rows)).getD i false⟩:Dp)) ha
 rintro ⟨hk,d,hd,e1,e2⟩;obtain ⟨t',ht',r',hr',e3⟩:=qA.1 hk;obtain ⟨t,ht,rfl⟩:=Ue.1 ht';obtain ⟨q,hq,rfl⟩:=Ue.1 hr';injection e3 with e4 e5;subst e4; subst e5;unfold il pR at hd;have ero:aA (ae rs) t.p.name q.p.name=ak q.rows:=by
  have:=pz h ht hq;show aA (ae rs) t.name q.name=_;unfold aA; rw [this]; rfl
 simp only [ero] at hd;obtain ⟨i,hi,hd⟩:=sW hd;unfold ik at hd;split at hd
 ·cases hd
 rename_i e he;obtain ⟨n1,n2⟩:=UA t ht q hq e (List.mem_of_getElem? he);have hdn:dh ((dz (ak q.rows)).getD i false) e.allow ++ kP (ae rs) t.p.name ((dz (ak q.rows)).getD i false) e=_:=Dj (ae rs) t.name _ e n1 n2;rw [hdn] at hd;obtain ⟨a,ha,rfl⟩:=Ue.1 hd;unfold ji jh;rw [Uf];refine ⟨t,ht,?_⟩;rw [Uf];refine ⟨q,hq,AB.2 ⟨i,by rw [aT] at hi; exact hi,e,he,?_⟩⟩;unfold AA;rw [Ue];refine ⟨a,ha,?_⟩;rw [← e1,← e2,Gj];rfl
theorem OW {rs:List TR} (h:bf (ae rs)=true):∀ r ∈ rs,∀ q ∈ r.rows,∀ e ∈ q.rows,e.e.allow.length≤6:=by
 intro r hr q hq e he;have h1:=jl ((bq h).2.2 r hr q hq).1 e.e (by unfold ak; exact List.mem_map_of_mem he);by_cases h2:e.e.kind=1
 ·unfold ax at h1;rw [if_pos h2] at h1;simp only [TU,eu,Ud] at h1;exact h1.1.1.1.1.2
 rw [tO h1 h2]; simp
theorem qK {α β:Type} (f:α→List β) (B:Nat):∀ (xs:List α),(∀ x ∈ xs,(f x).length≤B)→(xs.flatMap f).length≤xs.length * B
 | [],_=>by simp
 | x::xs,h=>by
  rw [List.flatMap_cons,T9,List.length_cons,Nat.succ_mul];have h1:=h x (by simp);have h2:=qK f B xs fun q hq=>h q (by simp [hq]);omega
theorem Mg (rs:List TR) (h6:∀ r ∈ rs,r.rows.length≤6) (hex:∀ r ∈ rs,∀ q ∈ r.rows,aK (ak q.rows)=true∧q.rows.length≤15∧∀ e ∈ q.rows,dW q.rows.length e.e.kids) (h66:∀ r ∈ rs,∀ q ∈ r.rows,∀ e ∈ q.rows,e.e.allow.length≤6) (hl:rs.length≤6:=by omega):(ji (ae rs) rs).length≤100000:=by
 have h1:∀ t ∈ rs,(jh (ae rs) t.name t.rows).length≤540:=by
  intro t ht;have h2:∀ q ∈ t.rows,(relE (ae rs) t.name q.name (ak q.rows) q.rows.length).length≤90:=by
   intro q hq;have h3:∀ k,k≤q.rows.length→(relE (ae rs) t.name q.name (ak q.rows) k).length≤k * 6:=by
    intro k
    induction k with
    | zero=>intro _; simp [relE]
    | succ k ih =>
     intro hk;rw [Dg _ _ _ _ _ (by omega) _ rfl,T9];have h4:=ih (by omega);have h5:(AA (ae rs) t.name q.name ((dz (ak q.rows)).getD k false) q.rows[k].e).length≤6:=by
      unfold AA;rw [Uy];exact Dh rs h66 _ _ (h66 t ht q hq _ (TQ (by omega)))
     omega
   have h4:=h3 q.rows.length (TS _);have h5:=(hex t ht q hq).2.1;omega
  have h3:=qK (fun q:RR=>relE (ae rs) t.name q.name (ak q.rows) q.rows.length) 90 t.rows h2;have h4:=h6 t ht;unfold jh;omega
 have h2:=qK (fun t:TR=>jh (ae rs) t.name t.rows) 540 rs h1;unfold ji;omega
open Go.Sort
set_option maxRecDepth 100000
theorem Gl (ad:Option Addr) (cap:Nat) (xs:List Al) (w:af) (hlen:xs.length≤1048576) (hcap:xs.length≤cap) (hf:∀ a ∈ xs,a.fits) (hs:jM w ad xs) :
  Calls prog 252 #[.slice ad xs.length cap] w fun e w'=>e=.returned (.bool (eu xs))∧ag w w':=by
 have HS:=az hs;have HF:=az hf;clear hs hf;by_cases hl:1≤xs.length∧xs.length≤6
 ·obtain ⟨hl1,hl2⟩:=hl;go_enter func252,ntmps252;go_wp2_with fail;go_loopw [15] (fun i wr=>∃ k:Nat,k≤xs.length∧i=.int .i64 k∧Hid (DZ xs k=true)∧ag w wr) (fun i _=>xs.length - (intOf i).toNat);case atStart=>exact ⟨0,TW _,rfl,rfl,TT _ _⟩
  obtain ⟨k,hk,rfl,HU,hB⟩:=hrel;by_cases hlt:k < xs.length
  ·rcases HS.out.below hB with rfl | ⟨b,off,rfl,hb,hr⟩
   ·simp at hlt
   obtain ⟨t0,t1⟩:=hr k hlt;obtain ⟨z0,z1⟩:=HF.out xs[k] (TQ hlt);have hk1:=bB k;have hk2:(k:Int)≤(cap:Int):=by omega
   obtain ⟨W1,hW1⟩:∃ W1,W1=wr.alloc (.cells #[.string xs[k].t,.string xs[k].s] 43):=⟨_,rfl⟩;have hal:ag wr W1:=by rw [hW1]; exact (TT _ _).alloc (TS _) _
   have hBW1:Below w.heap.size wr W1:=hal.mono hB.size;have hWs:w.heap.size≤W1.heap.size:=TZ hB.size hal.size;have hgl:wr.heap.size < W1.heap.size:=by rw [hW1]; simp
   have g0:W1.cell? ⟨wr.heap.size,0,none⟩=some (.string xs[k].t):=by rw [hW1]; simp
   have g1:W1.cell? ⟨wr.heap.size,1,none⟩=some (.string xs[k].s):=by rw [hW1]; simp
   have HS1:Hid (jM W1 (some ⟨b,off,none⟩) xs):=(HS.out.below hB).below hal;clear hr;go_wp2_with fail;rw [← hW1];clear hW1 t0 t1 hal;have p0:=cell_regrown g0;have p1:=cell_regrown g1;have Ve:Hid (∀ d os,ag w (grow (redrawn W1 d) os)):=fun d os=>hB.trans (hBW1.trans ((below_regrown W1 d os).mono hWs));have Vm:=pV (jT (W:=W1) (fun W'=>aL xs[k].t W' z0));have HCS:=pV (jT (W:=W1) (fun W'=>H5 xs[k].s W' z1))
   have VJ:Hid (∀ d os,Calls prog 142 #[.slice (some ⟨b,off,none⟩) k cap,.agg #[.string xs[k].t,.string xs[k].s]] (grow (redrawn W1 d) os) fun e w''=>e=.returned (.bool (dF xs k xs[k]))∧∃ p:Regrown,w''=grow (redrawn W1 p.d) p.os) :=
    dm fun W' hb=>uX (some ⟨b,off,none⟩) k cap xs xs[k] _ hk hlen (HS1.out.below hb)
   cases hn:aP xs[k].t;case false=>
    have HN:Hid (DZ xs xs.length=false):=oL xs k hlt (by simp [Fz,hn]) _ hlt;rw [hn] at Vm;refine wp_region_quiet_below (by kernel_rfl) (by kernel_rfl) ?_
    repeat (go_big_quiet_step (exact Vm.out _ _))
    refine wpQuiet_nil ?_;rintro _ ⟨⟨dq,osq⟩,rfl⟩;go_wp2;go_ret;exact ⟨ah (by simp [eu,HN.out]),Ve.out dq osq⟩
   rw [hn] at Vm;cases hsb:ul xs[k].s;case false=>
    have HN:Hid (DZ xs xs.length=false):=oL xs k hlt (by simp [Fz,hn,hsb]) _ hlt;rw [hsb] at HCS;refine wp_region_quiet_below (by kernel_rfl) (by kernel_rfl) ?_
    repeat (go_big_quiet_step (first | exact Vm.out _ _ | exact HCS.out _ _))
    refine wpQuiet_nil ?_;rintro _ ⟨⟨dq,osq⟩,rfl⟩;go_wp2;go_ret;exact ⟨ah (by simp [eu,HN.out]),Ve.out dq osq⟩
   rw [hsb] at HCS;obtain ⟨p,hp⟩:∃ p,dF xs k xs[k]=p:=⟨_,rfl⟩;rw [hp] at VJ;refine wp_region_quiet_below (by kernel_rfl) (by kernel_rfl) ?_
   repeat (go_big_quiet_step (first | exact Vm.out _ _ | exact HCS.out _ _ | exact VJ.out _ _))
   refine wpQuiet_nil ?_;rintro _ ⟨⟨dq,osq⟩,rfl⟩;cases p;case true=>
    have HN:Hid (DZ xs xs.length=false):=oL xs k hlt (by simp [hp]) _ hlt;go_wp2;go_ret;exact ⟨ah (by simp [eu,HN.out]),Ve.out dq osq⟩
   have YB:Hid (DZ xs (k + 1)=true):=by show _=_; rw [yU _ _ hlt,HU.out]; simp [Fz,hn,hsb,hp]
   go_wp2;go_roundw;case rel=>exact ⟨k + 1,by omega,by go_num,YB,Ve.out dq osq⟩
   simp [intOf] <;> omega
  obtain rfl:k=xs.length:=by omega
  have ZN:Hid (eu xs=true):=by show _=_; simp [eu,hl1,hl2,HU.out]
  go_wp2;go_ret;exact ⟨by rw [ZN.out]; rfl,hB⟩
 have ZN:Hid (eu xs=false):=by
  show _=_;unfold eu;by_cases h1:1≤xs.length
  ·have h2:¬ xs.length≤6:=fun h2=>hl ⟨h1,h2⟩;simp [h2]
  simp [h1]
 go_enter func252,ntmps252;go_wp2_with fail
 all_goals go_ret
 all_goals exact ⟨by rw [ZN.out]; rfl,TT _ _⟩
end Go.Proofs.YtajkkeikihhejaaGreat
