/- The program's raising of strata in plain words. -/
import Derived.Test.YtajkkeikihhejaaGreatSq
import Derived.Test.YtajkkeikihhejaaGreatImplLeaners
import Derived.Test.YtajkkeikihhejaaGreatJ24
open Go.Proofs.Tryz
set_option maxHeartbeats 80000000
namespace Go.Proofs.YtajkkeikihhejaaGreat
open Pl
def Edge (ts:List Ty)(E:List (Ky×St)):Prop:=∀ on t r s,(on,⟨t,r,s⟩)∈E ↔ (t,r)∈ak ts/\∃ d∈il ts (t,r),(d.typ,d.rel)=on/\stepOf d=s
def xe:Option Int->Int
 | none=>0
 | some x=>x+1
def oz (N:Nat)(σ:Ky->Option Int):List Ky->Int
 | []=>0
 | k::ks=>((N:Int)-xe (σ k))+oz N σ ks
structure Rz (ts:List Ty)(N:Nat)(σ:Ky->Option Int):Prop where
 there:∀ k x,σ k=some x->k∈ak ts/\0<=x/\x<N/\qF ts k x
def Hw (σ:Ky->Option Int)(k:Ky)(x:Int):Ky->Option Int:=fun y=>if y=k then some x else σ y
theorem oC (σ:Ky->Option Int)(k:Ky)(x:Int):Hw σ k x k=some x:=by simp [Hw]
theorem rP {σ:Ky->Option Int}{k y:Ky}{x:Int}(h:y≠k):Hw σ k x y=σ y:=by simp [Hw,h]
theorem Rz.val {ts:List Ty}{N:Nat}{σ:Ky->Option Int}(h:Rz ts N σ)(k:Ky):0<=xe (σ k)/\xe (σ k)<=N:=by
 cases e:σ k with
 | none=>simp [xe]
 | some x=>have:=h.there k x e;simp only [xe];omega
theorem Rz.mu_pos {ts:List Ty}{N:Nat}{σ:Ky->Option Int}(h:Rz ts N σ)(ks:List Ky):0<=oz N σ ks:=by
 induction ks with
 | nil=>simp [oz]
 | cons k ks ih=>have:=h.val k;simp only [oz];omega
theorem Rz.set {ts:List Ty}{N:Nat}{σ:Ky->Option Int}(h:Rz ts N σ){k:Ky}{x:Int}(hk:k∈ak ts)(h0:0<=x)(hN:x<N)(hl:qF ts k x):Rz ts N (Hw σ k x):=⟨fun y z hz=>by
 by_cases e:y=k
 ·subst e;rw [oC]at hz;injection hz with hz;subst hz;exact ⟨hk,h0,hN,hl⟩
 rw [rP e]at hz;exact h.there y z hz⟩
def vP (σ σ':Ky->Option Int):Prop:=∀ k x,σ k=some x->∃ y,σ' k=some y/\x<=y
theorem vP.refl (σ:Ky->Option Int):vP σ σ:=fun _ x h=>⟨x,h,Int.le_refl _⟩
theorem vP.trans {a b c:Ky->Option Int}(h:vP a b)(h2:vP b c):vP a c:=fun k x hx=>by
 obtain ⟨y,hy,h3⟩:=h k x hx;obtain ⟨z,hz,h4⟩:=h2 k y hy;exact ⟨z,hz,by omega⟩
theorem vP.val {σ σ':Ky->Option Int}{ts:List Ty}{N:Nat}(h:vP σ σ')(hR:Rz ts N σ')(k:Ky):xe (σ k)<=xe (σ' k):=by
 cases e:σ k with
 | none=>exact (hR.val k).1
 | some x=>obtain ⟨y,hy,h2⟩:=h k x e;rw [hy];simp only [xe];omega
theorem vP.mu {σ σ':Ky->Option Int}{ts:List Ty}{N:Nat}(h:vP σ σ')(hR:Rz ts N σ')(ks:List Ky):oz N σ' ks<=oz N σ ks:=by
 induction ks with
 | nil=>exact Int.le_refl _
 | cons k ks ih=>have:=h.val hR k;simp only [oz];omega
theorem yO {σ:Ky->Option Int}{k:Ky}{x:Int}(h:∀ y,σ k=some y->y<x):vP σ (Hw σ k x):=fun y z hz=>by
 by_cases e:y=k
 ·subst e;exact ⟨x,oC _ _ _,by have:=h z hz;omega⟩
 exact ⟨z,by rw [rP e];exact hz,Int.le_refl _⟩
theorem TN {σ:Ky->Option Int}{ts:List Ty}{N:Nat}{k:Ky}{x:Int}(hR:Rz ts N (Hw σ k x))(h:∀ y,σ k=some y->y<x)(h0:0<=x)(ks:List Ky)(hk:k∈ks):oz N (Hw σ k x) ks+1<=oz N σ ks:=by
 induction ks with
 | nil=>cases hk
 | cons y ks ih =>
  simp only [oz];have hm:=(yO h).mu hR ks;have hv:=(yO h).val hR y;rcases List.mem_cons.1 hk with rfl|hk
  ·have:xe (σ k)+1<=xe (Hw σ k x k):=by
    rw [oC];cases e:σ k with
    | none=>simp only [xe];omega
    | some z=>have:=h z e;simp only [xe];omega
   omega
  have:=ih hk;omega
def rQ (E:List (Ky×St))(σ:Ky->Option Int)(k:Ky):Prop:=∀ x,σ k=some x->∀ s∈lookL E k,∃ y,σ s.key=some y/\x+s.n<=y
structure Raised (E:List (Ky×St))(σ σ':Ky->Option Int):Prop where
 mono:vP σ σ'
 done:∀ k,(rQ E σ k\/σ' k≠σ k)->rQ E σ' k
theorem Raised.refl (E:List (Ky×St))(σ:Ky->Option Int):Raised E σ σ:=⟨vP.refl _,fun _ h=>h.elim id (fun e=>absurd rfl e)⟩
theorem Raised.trans {E:List (Ky×St)}{a b c:Ky->Option Int}(h:Raised E a b)(h2:Raised E b c):Raised E a c:=⟨h.mono.trans h2.mono,fun k hk=>by
 by_cases e:c k=b k
 ·by_cases e2:b k=a k
  ·rcases hk with hk|hk
   ·exact h2.done k (.inl (h.done k (.inl hk)))
   exact absurd (e.trans e2) hk
  exact h2.done k (.inl (h.done k (.inr e2)))
 exact h2.done k (.inr e)⟩
structure Half (E:List (Ky×St))(σ:Ky->Option Int)(key:Ky)(x:Int)(j:Nat)(σ':Ky->Option Int):Prop where
 mono:vP σ σ'
 done:∀ k,k≠key->(rQ E σ k\/σ' k≠σ k)->rQ E σ' k
 own:rQ E σ' key\/(σ' key=some x/\∀ s∈(lookL E key).take j,∃ y,σ' s.key=some y/\x+s.n<=y)
 at':∃ y,σ' key=some y/\x<=y
theorem Half.start {E:List (Ky×St)}{σ:Ky->Option Int}{key:Ky}{x:Int}(h:∀ y,σ key=some y->y<x):Half E σ key x 0 (Hw σ key x) where
 mono:=yO h
 done k hk hs:=by
  have e:Hw σ key x k=σ k:=rP hk;rcases hs with hs|hs
  ·intro z hz s hm;rw [e]at hz;obtain ⟨y,hy,hle⟩:=hs z hz s hm;obtain ⟨y',hy',h2⟩:=yO h _ y hy;exact ⟨y',hy',by omega⟩
  exact absurd e hs
 own:=.inr ⟨oC _ _ _,fun s hs=>by simp at hs⟩
 at':=⟨x,oC _ _ _,Int.le_refl _⟩
theorem Half.step {E:List (Ky×St)}{σ σ1 σ2:Ky->Option Int}{key:Ky}{x:Int}{j:Nat}(h:Half E σ key x j σ1)(hj:j<(lookL E key).length)(hR:Raised E σ1 σ2)(hy:∃ y,σ2 (lookL E key)[j].key=some y/\x+(lookL E key)[j].n<=y):Half E σ key x (j+1) σ2 where
 mono:=h.mono.trans hR.mono
 done k hk hs:=by
  by_cases e:σ2 k=σ1 k
  ·by_cases e2:σ1 k=σ k
   ·rcases hs with hs|hs
    ·exact hR.done k (.inl (h.done k hk (.inl hs)))
    exact absurd (e.trans e2) hs
   exact hR.done k (.inl (h.done k hk (.inr e2)))
  exact hR.done k (.inr e)
 own:=by
  rcases h.own with ho|⟨h1,h2⟩
  ·exact .inl (hR.done key (.inl ho))
  by_cases e:σ2 key=σ1 key
  ·refine .inr ⟨e.trans h1,fun s hs=>?_⟩;rw [Uh hj]at hs;rcases Uq.1 hs with hs|hs
   ·obtain ⟨y,hy1,hy2⟩:=h2 s hs;obtain ⟨z,hz,h3⟩:=hR.mono _ y hy1;exact ⟨z,hz,by omega⟩
   simp at hs;subst hs;exact hy
  exact .inl (hR.done key (.inr e))
 at':=by
  obtain ⟨y,hy,h1⟩:=h.at';obtain ⟨z,hz,h2⟩:=hR.mono key y hy;exact ⟨z,hz,by omega⟩
theorem Half.full {E:List (Ky×St)}{σ σ':Ky->Option Int}{key:Ky}{x:Int}{j:Nat}(h:Half E σ key x j σ')(hj:(lookL E key).length<=j):Raised E σ σ' where
 mono:=h.mono
 done k hk:=by
  by_cases e:k=key
  ·subst e;rcases h.own with ho|⟨h1,h2⟩
   ·exact ho
   intro z hz s hs;rw [h1]at hz;injection hz with hz;subst hz;exact h2 s (by rw [List.take_of_length_le hj];exact hs)
  exact h.done k e hk
theorem EM {ts:List Ty}{N:Nat}{E:List (Ky×St)}{σ:Ky->Option Int}(hE:Edge ts E)(hF:Found ts)(hR:Rz ts N σ)(hall:∀ k∈ak ts,∃ x,σ k=some x)(hs:∀ k,rQ E σ k):Least ts (fun k=>(σ k).getD 0) where
 sol:=⟨fun k=>by
   cases e:σ k with
   | none=>exact Int.le_refl _
   | some x=>exact (hR.there k x e).2.1,fun k hk d hd=>by
   obtain ⟨x,hx⟩:=hall _ (hF k hk d hd);have hm:(⟨k.1,k.2,stepOf d⟩:St)∈lookL E (d.typ,d.rel):=mem_lookL.2 ((hE _ _ _ _).2 ⟨hk,d,hd,rfl,rfl⟩);obtain ⟨y,hy,h2⟩:=hs _ x hx _ hm;have hy':σ k=some y:=hy;simp only [hx,hy',Option.getD_some];exact h2⟩
 low k hk:=by
  obtain ⟨x,hx⟩:=hall k hk;simp only [hx,Option.getD_some];exact (hR.there k x hx).2.2.2
theorem Edge.low {ts:List Ty}{E:List (Ky×St)}(hE:Edge ts E){k:Ky}{x:Int}(hl:qF ts k x){s:St}(hs:s∈lookL E k):s.key∈ak ts/\qF ts s.key (x+s.n)/\0<=s.n/\s.n<=1:=by
 obtain ⟨h1,d,hd,e1,e2⟩:=(hE k s.typ s.rel s.n).1 (mem_lookL.1 hs);have:=zS d;refine ⟨h1,?_,by omega,by omega⟩;rw [<-e2];exact qF.step h1 hd (by rw [e1];exact hl)
open Go.ChangeAt Go.ChangeShapes Go.Maps Go.RowKit Go.WideShapes
def iY (σ:Ky->Option Int):Ky->Option Value:=fun k=>(σ k).map fun x=>Value.int .i64 x
theorem QU (σ:Ky->Option Int)(k:Ky)(x:Int):lc (iY σ) k (some (.int .i64 x))=iY (Hw σ k x):=by
 funext y
 unfold iY;by_cases e:y=k
 ·subst e;rw [dZ,oC];rfl
 rw [cZ e,rP e]
theorem vQ (u:af):(zeroValue 2).run prog u=.ok (.int .i64 0) u:=by kernel_rfl
def EN (gS gC gL gR:Nat):Value:=.func (Fn.func 186) #[] #[.pointer (some ⟨gS,0,none⟩),.pointer (some ⟨gC,0,none⟩),.pointer (some ⟨gL,0,none⟩),.pointer (some ⟨gR,0,none⟩)]
structure Rw (w:World)(gS gC gL gR bS bL N n nL:Nat)(ML:Ky->Option Value)(E:List (Ky×St))(σ:Ky->Option Int):Prop where
 cS:w.cell? ⟨gS,0,none⟩=some (.map (some bS))
 cC:w.cell? ⟨gC,0,none⟩=some (.int .i64 N)
 cL:w.cell? ⟨gL,0,none⟩=some (.map (some bL))
 cR:w.cell? ⟨gR,0,none⟩=some (EN gS gC gL gR)
 lS:gS<w.heap.size/\gS≠bS
 lC:gC<w.heap.size/\gC≠bS
 lL:gL<w.heap.size/\gL≠bS
 lR:gR<w.heap.size/\gR≠bS
 map:aO dS prog 94 w bS n (iY σ)
 lean:Grp w bL nL ML E
 bne:bL≠bS
 free:FreeB ML bS
theorem kE {w w':af}{b g:Nat}(hg:w.grownBy w' (some b))(hl:g<w.heap.size/\g≠b)(o:Nat):w'.cell? ⟨g,o,none⟩=w.cell? ⟨g,o,none⟩:=Uy (w:=w) (hg.block g hl.1 (fun e=>hl.2 (by injection e)))
theorem Grp.kept {w w':af}{bL n b:Nat}{M:Ky->Option Value}{E:List (Ky×St)}(h:Grp w bL n M E)(hg:w.grownBy w' (some b))(hb:bL≠b)(hf:FreeB M b):Grp w' bL n M E where
 map:=h.map.kept hg (by intro e;injection e with e;exact hb e)
 row k:=by
  rcases h.row k with e|⟨v,e,ho⟩
  ·exact .inl e
  exact .inr ⟨v,e,ho.kept hg (.inr (hf k v e))⟩
 apart:=h.apart
theorem Rw.kept {w w':af}{gS gC gL gR bS bL N n n' nL:Nat}{ML:Ky->Option Value}{E:List (Ky×St)}{σ σ':Ky->Option Int}(h:Rw w gS gC gL gR bS bL N n nL ML E σ)(hg:w.grownBy w' (some bS))(hM:aO dS prog 94 w' bS n' (iY σ')):Rw w' gS gC gL gR bS bL N n' nL ML E σ' where
 cS:=(kE hg h.lS 0).trans h.cS
 cC:=(kE hg h.lC 0).trans h.cC
 cL:=(kE hg h.lL 0).trans h.cL
 cR:=(kE hg h.lR 0).trans h.cR
 lS:=⟨Uc h.lS.1 hg.size,h.lS.2⟩
 lC:=⟨Uc h.lC.1 hg.size,h.lC.2⟩
 lL:=⟨Uc h.lL.1 hg.size,h.lL.2⟩
 lR:=⟨Uc h.lR.1 hg.size,h.lR.2⟩
 map:=hM
 lean:=h.lean.kept hg h.bne h.free
 bne:=h.bne
 free:=h.free
theorem jm {w w':af}{b:Nat}(h:ag w w'):w.grownBy w' (some b):=⟨h.os,h.tape,h.output,h.size,fun k hk _=>h.block k hk⟩
theorem Rw.below {w w':af}{gS gC gL gR bS bL N n nL:Nat}{ML:Ky->Option Value}{E:List (Ky×St)}{σ:Ky->Option Int}(h:Rw w gS gC gL gR bS bL N n nL ML E σ)(hB:ag w w'):Rw w' gS gC gL gR bS bL N n nL ML E σ:=h.kept (jm hB) (h.map.below hB)
theorem nk {a b c:af}{r:Option Nat}(h:a.grownBy b r)(h2:b.grownBy c r):a.grownBy c r:=⟨h2.os.trans h.os,h2.tape.trans h.tape,h2.output.trans h.output,Uk h.size h2.size,fun k hk hr=>(h2.block k (Uc hk h.size) hr).trans (h.block k hk hr)⟩
def Jw (ts:List Ty)(w:World)(gS gC gL gR bS bL N n nL:Nat)(ML:Ky->Option Value)(E:List (Ky×St))(σ:Ky->Option Int)(key:Ky)(lv:Int)(e:Ending)(w':World):Prop :=
 ∃ (ok:Bool) (σ':Ky->Option Int) (n':Nat),e=.returned (.bool ok)/\w.grownBy w' (some bS)/\Rw w' gS gC gL gR bS bL N n' nL ML E σ'/\Rz ts N σ'/\(n':Int)+oz N σ' (ak ts)<=n+oz N σ (ak ts)/\oz N σ' (ak ts)<=oz N σ (ak ts) /\
  (ok=false->¬ ∃ f,Sol ts f)/\(ok=true->Raised E σ σ'/\∃ x,σ' key=some x/\lv<=x)
set_option maxRecDepth 100000 in
theorem Mo (ts:List Ty)(gS gC gL gR bS bL N nL:Nat)(ML:Ky->Option Value)(E:List (Ky×St))(hE:Edge ts E)(hF:Found ts)(hN:N=(ak ts).length)(hN36:N<=36)(hsz:∀ k∈ak ts,k.1.size<=maxLen/\k.2.size<=maxLen)(hEl:E.length<=100000)(f:Nat) :
  ∀ (w:World) (σ:Ky->Option Int) (n:Nat) (key:Ky) (lv:Int),Rw w gS gC gL gR bS bL N n nL ML E σ->Rz ts N σ->oz N σ (ak ts)<=f->(n:Int)+oz N σ (ak ts)<=100000->key∈ak ts->0<=lv->lv<=100->qF ts key lv ->
  Calls prog 186 #[.agg #[.string key.1,.string key.2],.int .i64 lv,.pointer (some ⟨gS,0,none⟩),.pointer (some ⟨gC,0,none⟩),.pointer (some ⟨gL,0,none⟩),.pointer (some ⟨gR,0,none⟩)] w (Jw ts w gS gC gL gR bS bL N n nL ML E σ key lv):=by
 have HE:=aA hE;have HF:=aA hF;have XU:Hid (∀ k∈ak ts,k.1.size<=maxLen/\k.2.size<=maxLen):=hsz;have WQ:Hid (N=(ak ts).length):=hN;clear hE hF hsz hN
 induction f using Nat.strongRecOn with
 | _ f ih =>
 intro w σ n key lv hR hZ hmu hnm hk h0 h1 hl;have HIH:Hid (∀ m<f,_):=ih;clear ih;obtain ⟨hz1,hz2⟩:=XU.out key hk;obtain ⟨kl,hkl⟩:=jC key hz1 hz2;have VD:Hid (keyOf prog 94 (dS key)=some kl):=hkl;have HR:=aA hR;have HZ:=aA hZ;have HLK:=aA hl;have HKM:=aA hk;have hmp:=hZ.mu_pos (ak ts);have cS:=hR.cS;have cC:=hR.cC;have cL:=hR.cL;have lS:=hR.lS.1;have lC:=hR.lC.1;have lL:=hR.lL.1;have hbS:=hR.map.lt;have hal:ag w (w.alloc (.cells #[.string key.1,.string key.2] 94)):=(Uf _ _).alloc (Ue _) _;have U2:=aA hal;have XO:Hid (aO dS prog 94 (w.alloc (.cells #[.string key.1,.string key.2] 94)) bS n (iY σ)):=hR.map.below hal;have HR1:=aA (hR.below hal);clear hR hZ hl hkl hal hk;by_cases hd:∃ x,σ key=some x/\lv<=x
 ·obtain ⟨x,hx,hle⟩:=hd;obtain ⟨-,hx0,hxN,-⟩:=HZ.out.there key x hx;have hlk:iY σ key=some (.int .i64 x):=by unfold iY;rw [hx];rfl
  have HX:Hid (σ key=some x):=hx;clear hx;go_enter func186,ntmps186;go_wp2_with (at_lookup;refine cu _ rfl _ _ 153 rfl 94 2 ic underlying153 (vQ _) bS n (iY σ) rfl XO.out key kl rfl VD.out ?_;simp only [hlk,Option.getD_some,Option.isSome_some]);go_ret;exact ⟨true,σ,n,rfl,jm U2.out,HR1.out,HZ.out,Int.le_refl _,Int.le_refl _,by simp,fun _=>⟨Raised.refl _ _,x,HX.out,hle⟩⟩
 have Z6:Hid (∀ y,σ key=some y->y<lv):=fun y hy=>by
  by_cases h:lv<=y
  ·exact absurd ⟨y,hy,h⟩ hd
  omega
 clear hd;by_cases hNt:(N:Int)<=lv
 ·have Wo:Hid (¬ ∃ f,Sol ts f):=IE HF.out HKM.out HLK.out (by have:=WQ.out;omega);cases hs:σ key with
  | none =>
   have hlk:iY σ key=none:=by unfold iY;rw [hs];rfl
   clear hs;go_enter func186,ntmps186;go_wp2_with (at_lookup;refine cu _ rfl _ _ 153 rfl 94 2 ic underlying153 (vQ _) bS n (iY σ) rfl XO.out key kl rfl VD.out ?_;simp only [hlk,Option.getD_none,Option.isSome_none]);go_ret;exact ⟨false,σ,n,rfl,jm U2.out,HR1.out,HZ.out,Int.le_refl _,Int.le_refl _,fun _=>Wo.out,by simp⟩
  | some x =>
   have hxt:x<lv:=Z6.out x hs;obtain ⟨-,hx0,hxN,-⟩:=HZ.out.there key x hs;have hlk:iY σ key=some (.int .i64 x):=by unfold iY;rw [hs];rfl
   clear hs;go_enter func186,ntmps186;go_wp2_with (at_lookup;refine cu _ rfl _ _ 153 rfl 94 2 ic underlying153 (vQ _) bS n (iY σ) rfl XO.out key kl rfl VD.out ?_;simp only [hlk,Option.getD_some,Option.isSome_some]);go_ret;exact ⟨false,σ,n,rfl,jm U2.out,HR1.out,HZ.out,Int.le_refl _,Int.le_refl _,fun _=>Wo.out,by simp⟩
 have hNt':lv<(N:Int):=by omega
 have HZ2:Hid (Rz ts N (Hw σ key lv)):=HZ.out.set HKM.out h0 hNt' HLK.out;have HMU:Hid (oz N (Hw σ key lv) (ak ts)+1<=oz N σ (ak ts)):=TN HZ2.out Z6.out h0 _ HKM.out;obtain ⟨ZK,cpL,hvl,hrow⟩:=QD (vG HR.out.lean key);have HVL:Hid ((ML key).getD (.slice none 0 0)=.slice ZK (lookL E key).length cpL):=hvl;have hll:(lookL E key).length<=100000:=Uk (Df _ _) hEl;clear hvl hrow;cases hs:σ key
 case' none =>
  have hlk:iY σ key=none:=by unfold iY;rw [hs];rfl
  clear hs;go_enter func186,ntmps186
  go_wp2_with (first
   | (at_lookup;refine cu _ rfl _ _ 153 rfl 94 2 ic underlying153 (vQ _) bS n (iY σ) rfl XO.out key kl rfl VD.out ?_;simp only [hlk,Option.getD_none,Option.isSome_none])
   | (at_mapUpdate;refine nE _ rfl _ _ _ 153 rfl 94 2 ic uH underlying153 bS n (iY σ) rfl XO.out (by unfold maxLen;omega) key kl rfl VD.out (.int .i64 lv) rfl ?_;intro w2 hV2 hg2;have cL2:w2.cell? ⟨gL,0,none⟩=some (.map (some bL)):=(kE hg2 HR1.out.lL 0).trans HR1.out.cL;have k0:w2.cell? ⟨w.heap.size,0,none⟩=some (.string key.1):=(kE hg2 ⟨by simp,by omega⟩ 0).trans (by simp);have k1:w2.cell? ⟨w.heap.size,1,none⟩=some (.string key.2):=(kE hg2 ⟨by simp,by omega⟩ 1).trans (by simp))
   | (at_lookup;refine jB _ rfl _ _ 211 rfl 94 272 ic underlying211 (Jl _) bL nL ML rfl ((HR1.out.lean.kept hg2 HR1.out.bne HR1.out.free).map) key kl rfl VD.out ?_;rw [HVL.out]))
 case' some x =>
  have hxt:x<lv:=Z6.out x hs;obtain ⟨-,hx0,hxN,-⟩:=HZ.out.there key x hs;have hlk:iY σ key=some (.int .i64 x):=by unfold iY;rw [hs];rfl
  clear hs;go_enter func186,ntmps186
  go_wp2_with (first
   | (at_lookup;refine cu _ rfl _ _ 153 rfl 94 2 ic underlying153 (vQ _) bS n (iY σ) rfl XO.out key kl rfl VD.out ?_;simp only [hlk,Option.getD_some,Option.isSome_some])
   | (at_mapUpdate;refine nE _ rfl _ _ _ 153 rfl 94 2 ic uH underlying153 bS n (iY σ) rfl XO.out (by unfold maxLen;omega) key kl rfl VD.out (.int .i64 lv) rfl ?_;intro w2 hV2 hg2;have cL2:w2.cell? ⟨gL,0,none⟩=some (.map (some bL)):=(kE hg2 HR1.out.lL 0).trans HR1.out.cL;have k0:w2.cell? ⟨w.heap.size,0,none⟩=some (.string key.1):=(kE hg2 ⟨by simp,by omega⟩ 0).trans (by simp);have k1:w2.cell? ⟨w.heap.size,1,none⟩=some (.string key.2):=(kE hg2 ⟨by simp,by omega⟩ 1).trans (by simp))
   | (at_lookup;refine jB _ rfl _ _ 211 rfl 94 272 ic underlying211 (Jl _) bL nL ML rfl ((HR1.out.lean.kept hg2 HR1.out.bne HR1.out.free).map) key kl rfl VD.out ?_;rw [HVL.out]))
 all_goals
  have HR2:Hid (Rw w2 gS gC gL gR bS bL N (n+1) nL ML E (Hw σ key lv)):=HR1.out.kept hg2 (by rw [<-QU];exact hV2);have HG2:Hid (w.grownBy w2 (some bS)):=nk (jm U2.out) hg2;clear hV2 hg2 cL2 k0 k1;go_loopw [35] (fun i w3=>∃ j:Nat,j<=(lookL E key).length/\i=.int .i64 j/\Hid (∃ (σ3:Ky->Option Int) (n3:Nat),Half E σ key lv j σ3/\Rw w3 gS gC gL gR bS bL N n3 nL ML E σ3/\Rz ts N σ3/\(n3:Int)+oz N σ3 (ak ts)<=n+oz N σ (ak ts)/\oz N σ3 (ak ts)+1<=oz N σ (ak ts)/\w.grownBy w3 (some bS))) (fun i _=>(lookL E key).length-(intOf i).toNat);case atStart=>exact ⟨0,Ui _,rfl,⟨Hw σ key lv,n+1,Half.start Z6.out,HR2.out,HZ2.out,by have:=HMU.out;push_cast;omega,HMU.out,HG2.out⟩⟩
  clear HR2 HG2 HZ2 HMU;obtain ⟨j,hj,rfl,HI⟩:=hrel;by_cases hjl:j<(lookL E key).length
  ·obtain ⟨σ3,n3,hH3,WF,hZ3,hn3,XE,hg3⟩:=HI.out;obtain ⟨UX,cp',hv',hrow'⟩:=QD (vG WF.lean key);rw [HVL.out]at hv';injection hv' with e1 e2 e3;subst e1;rcases hrow' with h|⟨gr,UT,hgr1,Vd,hcr⟩
   ·omega
   obtain ⟨st,hst⟩:∃ st,st=(lookL E key)[j]:=⟨_,rfl⟩;have r0:wr.cell? ⟨gr,j*3,none⟩=some (.string st.typ):=hcr _ _ (by have:=lu (lookL E key) j hjl 0 (by omega);rw [hst];simpa [St.cells] using this);have r1:wr.cell? ⟨gr,j*3+1,none⟩=some (.string st.rel):=hcr _ _ (by have:=lu (lookL E key) j hjl 1 (by omega);rw [hst];simpa [St.cells] using this);have r2:wr.cell? ⟨gr,j*3+2,none⟩=some (.int .i64 st.n):=hcr _ _ (by have:=lu (lookL E key) j hjl 2 (by omega);rw [hst];simpa [St.cells] using this);have HST:Hid (st=(lookL E key)[j]):=hst;obtain ⟨hsk,hsl,hsn0,hsn1⟩:=HE.out.low HLK.out (s:=st) (by rw [hst];exact Ud hjl);have HSK:=aA hsk;have WY:=aA hsl;have hj1:=bF j;have hj2:(j:Int)<((lookL E key).length:Int):=by omega
   have cR3:=WF.cR;unfold EN at cR3;have lR3:=WF.lR.1;obtain ⟨W3,hW3⟩:∃ W3,W3=wr.alloc (.cells #[.string st.typ,.string st.rel,.int .i64 st.n] 274):=⟨_,rfl⟩;have Ya:ag wr W3:=by rw [hW3];exact (Uf _ _).alloc (Ue _) _
   have HR3:=aA (WF.below Ya);have XK:Hid (w.grownBy W3 (some bS)):=nk hg3 (jm Ya);have HH3:=aA hH3;have HZ3:=aA hZ3;have hm3p:=hZ3.mu_pos (ak ts);have HNM:Hid ((n3:Int)+oz N σ3 (ak ts)<=n+oz N σ (ak ts)/\oz N σ3 (ak ts)+1<=oz N σ (ak ts)):=⟨hn3,XE⟩;rw [UT];clear hcr hgr1 Vd hsk hsl hst WF Ya hH3 hZ3 hg3 HI e2 e3;go_wp2_with fail;rw [<-hW3];clear hW3 r0 r1 r2 cR3;refine (HIH.out (oz N σ3 (ak ts)).toNat (by omega) _ σ3 n3 st.key (lv+st.n) HR3.out HZ3.out (by omega) (by omega) HSK.out (by omega) (by omega) WY.out).mono ?_;rintro e w5 ⟨ok,σ5,n5,rfl,hg5,U6,hZ5,Zm,Xp,hf5,ht5⟩;cases ok;case false=>
    have HP:Hid (Jw ts w gS gC gL gR bS bL N n nL ML E σ key lv (.returned (.bool false)) w5):=by
     have h:=HNM.out;exact ⟨false,σ5,n5,rfl,nk XK.out hg5,U6,hZ5,by omega,by omega,fun _=>hf5 rfl,by simp⟩
    clear hg5 U6 hZ5 Zm Xp hf5 ht5;go_wp2;go_ret;exact HP.out
   have HI2:Hid (∃ (σ3:Ky->Option Int) (n3:Nat),Half E σ key lv (j+1) σ3/\Rw w5 gS gC gL gR bS bL N n3 nL ML E σ3/\Rz ts N σ3/\(n3:Int)+oz N σ3 (ak ts)<=n+oz N σ (ak ts)/\oz N σ3 (ak ts)+1<=oz N σ (ak ts)/\w.grownBy w5 (some bS)):=by
    have h:=HNM.out;obtain ⟨hRa,y,hy,hle⟩:=ht5 rfl;refine ⟨σ5,n5,HH3.out.step hjl hRa ⟨y,?_,?_⟩,U6,hZ5,by omega,by omega,nk XK.out hg5⟩
    ·rw [<-HST.out];exact hy
    rw [<-HST.out];exact hle
   clear hg5 U6 hZ5 Zm Xp hf5 ht5;go_wp2;go_roundw;case rel=>exact ⟨j+1,by omega,by go_num,HI2⟩
   simp [intOf] <;> omega
  obtain rfl:j=(lookL E key).length:=by omega
  have HP:Hid (Jw ts w gS gC gL gR bS bL N n nL ML E σ key lv (.returned (.bool true)) wr):=by
   obtain ⟨σ3,n3,hH3,WF,hZ3,hn3,XE,hg3⟩:=HI.out;exact ⟨true,σ3,n3,rfl,hg3,WF,hZ3,hn3,by omega,by simp,fun _=>⟨hH3.full (Ue _),hH3.at'⟩⟩
  clear HI;go_wp2;go_ret;exact HP.out
set_option linter.unusedVariables false
set_option maxRecDepth 100000
def SK (ts:List Ty)(w:World)(e:Ending)(w':World):Prop :=
 ((∃ (b n:Nat) (σ:Ky->Option Int),e=.returned (.tuple #[.map (some b),.bool true])/\bW ts/\aO dS prog 94 w' b n (iY σ)/\Least ts (fun k=>(σ k).getD 0)/\∀ k,(∃ x,σ k=some x) ↔ k∈ak ts)\/(e=.returned (.tuple #[.map none,.bool false])/\¬ bW ts))/\ag w w'
theorem oD:∀ ts:List Tp,(eD ts).length<=2*ts.length:=by
 have key:∀ (ts:List Tp) (xs:List Al),(ts.foldl fO xs).length<=xs.length+2*ts.length:=by
  intro ts
  induction ts with
  | nil=>intro xs;simp
  | cons t ts ih =>
   intro xs;have h1:=ih (fO xs t);have h2:=qM xs t;simp only [List.foldl_cons,List.length_cons];omega
 intro ts;have:=key ts [];simpa [eD] using this
theorem mG:∀ ts:List Tp,(dh ts).length<=ts.length:=by
 have key:∀ (ts:List Tp) (xs:List Al),(ts.foldl cz xs).length<=xs.length+ts.length:=by
  intro ts
  induction ts with
  | nil=>intro xs;simp
  | cons t ts ih =>
   intro xs;have h1:=ih (cz xs t);have h2:=qN xs t;simp only [List.foldl_cons,List.length_cons];omega
 intro ts;have:=key ts [];simpa [dh] using this
def aV (fit:Tp->Bool)(rs:List TR)(ts:List Tp):Bool:=aL (ae rs)&&dL ts&&ts.all fit
def eY (f:ByteArray×ByteArray->Int)(rs:List TR):List (KL×RR):=rs.flatMap fun t=>t.rows.map fun r=>((t.name,f (t.name,r.name)),r)
def jJ (E:List (KL×RR)):Int:=E.foldl (fun m x=>max m (x.1.2+1)) 0
def TP (fit:Tp->Bool)(rs:List TR)(ts:List Tp)(w:World)(e:Ending)(w':World):Prop :=
 ag w w'/\((aV fit rs ts=false/\e=.returned (.tuple #[.pointer none,.bool false])) \/
  (aV fit rs ts=true/\∃ (D br bp bt nr np:Nat) (Mr:KL->Option Value) (Mp:K3->Option Value) (vo vu:Value) (f:ByteArray×ByteArray->Int),e=.returned (.tuple #[.pointer (some ⟨D,0,none⟩),.bool true])/\w.heap.size<=bt/\Least (ae rs) f /\
   DatA w' rs D br bp bt (jJ (eY f rs)) nr Mr (eY f rs) (dM ts) (eD ts) (dh ts) np Mp vo vu))
theorem Po {w:af}{rs:List TR}{bt:Nat}(ht:aO dS prog 94 w bt 36 (nZ rs))(hl:bt<w.heap.size) :
  DatA (((w.alloc (.map #[] 0)).alloc (.map #[] 0)).alloc (.cells #[.map (some bt),.int .i64 0,.map (some w.heap.size),.map (some (w.heap.size+1)),.slice none 0 0,.slice none 0 0] 168)) rs (w.heap.size+2) w.heap.size (w.heap.size+1) bt 0 0 (fun _=>none) [] [] [] [] 0 (fun _=>none) (.slice none 0 0) (.slice none 0 0):=by
 obtain ⟨w1,h1⟩:∃ w1,w1=w.alloc (.map #[] 0):=⟨_,rfl⟩;obtain ⟨w2,h2⟩:∃ w2,w2=w1.alloc (.map #[] 0):=⟨_,rfl⟩;have s1:w1.heap.size=w.heap.size+1:=by rw [h1];simp
 have s2:w2.heap.size=w.heap.size+2:=by rw [h2];simp;omega
 rw [<-h1,<-h2];have b1:ag w w1:=by rw [h1];exact (Uf _ _).alloc (Ue _) _
 have b2:ag w1 w2:=by rw [h2];exact (Uf _ _).alloc (Ue _) _
 have b3:∀ o,ag w2 (w2.alloc o):=fun o=>(Uf _ _).alloc (Ue _) _;have g1:EL w1 w.heap.size 0 (fun _=>none) []:=by rw [h1];exact G.grp_made w
 have g2:G.Grp qw prog 223 46 6 Tp.row w2 (w.heap.size+1) 0 (fun _=>none) []:=by
  have:=G.grp_made (enc:=qw) (P:=prog) (kt:=223) (et:=46) (sz:=6) (cl:=Tp.row) w1;rw [s1]at this;rw [h2];exact this
 rw [<-s2];refine ⟨⟨by omega,by simp,⟨_,heap_alloc_new w2 _⟩,by simp,by simp,by simp,by simp,by simp,by simp,g2.below (b3 _),World.ownsRow_nil _ _ _ _,World.ownsRow_nil _ _ _ _,fun g e=>by simp [Value.ownBlock]at e⟩,((ht.below b1).below b2).below (b3 _),(g1.below b2).below (b3 _),hl,by omega⟩
theorem Pp {p:Tp->Bool}{ts:List Tp}{k:Nat}(h:k<ts.length):(ts.take (k+1)).all p=((ts.take k).all p&&p ts[k]):=by
 rw [Uh h,List.all_append];simp
theorem QV {p:Tp->Bool}{ts:List Tp}{k:Nat}(h:k<ts.length)(hp:p ts[k]=false):ts.all p=false:=by
 rw [List.all_eq_false];exact ⟨_,Ud h,by rw [hp];decide⟩
theorem yP {rs:List TR}(h6:rs.length<=6)(hr:∀ r∈rs,r.rows.length<=6):(ak (ae rs)).length<=36:=by
 have key:∀ l:List TR,(∀ r∈l,r.rows.length<=6)->(ak (ae l)).length<=6*l.length:=by
  intro l
  induction l with
  | nil=>intro _;simp [ak,ae]
  | cons r l ih =>
   intro h;have h1:=ih fun q hq=>h q (UC _ hq);have h2:=h r (by simp);have e:ak (ae (r::l))=jH r.p++ak (ae l):=by simp [ak,ae]
   have e2:(jH r.p).length=r.rows.length:=by unfold jH;rw [UK];exact rq _
   rw [e,Ul,e2,List.length_cons];omega
 have:=key rs hr;omega
theorem Pq {rs:List TR}{σ:Ky->Option Int}(hS:bW (ae rs))(h6:rs.length<=6)(hr:∀ r∈rs,r.rows.length<=6)(hL:Least (ae rs) (fun k=>(σ k).getD 0))(hk:∀ k,(∃ x,σ k=some x) ↔ k∈ak (ae rs))(y:Ky):0<=(σ y).getD 0/\(σ y).getD 0<=36:=by
 refine ⟨hL.sol.pos y,?_⟩;cases e:σ y with
 | none=>simp
 | some x =>
  have hy:y∈ak (ae rs):=(hk y).1 ⟨x,e⟩;obtain ⟨g,hg,hb⟩:=hL.sol.few (kz hS.2.1);have h1:=hL.low y hy g hg;have h2:=hb y hy;have h3:=yP h6 hr;simp only [e]at h1;omega
def xg (f:Ky->Int)(n:ByteArray)(r:RR):KL×RR:=((n,f (n,r.name)),r)
theorem Mq (f:Ky->Int){rs:List TR}{k:Nat}(h:k<rs.length):eY f (rs.take (k+1))=eY f (rs.take k)++rs[k].rows.map (xg f rs[k].name):=by
 unfold eY;rw [Uh h,List.flatMap_append];simp [xg]
theorem GG (E:List (KL×RR))(x:KL×RR):jJ (E++[x])=max (jJ E) (x.1.2+1):=by simp [jJ]
theorem Ps:∃ i,prog.info? 147=some i/\i.zero=some (.agg #[.string ⟨#[]⟩,.slice none 0 0])/\i.size=2/\i.bytes=40 :=
 info_parts (P:=prog) (e:=147) (z:=.agg #[.string ⟨#[]⟩,.slice none 0 0]) (size:=2) (bytes:=40) (by kernel_rfl)
theorem Pt (u:af):(zeroValue 125).run prog u=.ok (.slice none 0 0) u:=by kernel_rfl
theorem QW (u:af):(zeroValue 2).run prog u=.ok (.int .i64 0) u:=by kernel_rfl
theorem Dr {w:af}{br nr:Nat}{Mr:KL->Option Value}{E:List (KL×RR)}(h:EL w br nr Mr E)(k:KL):w.ownsRow (br+1) 147 2 ((Mr k).getD (.slice none 0 0)) (G.lookL E k).length (G.flatG QT (G.lookL E k)):=by
 rcases h.row k with ⟨e,e2⟩|⟨v,e,ho⟩
 ·rw [e,e2];exact World.ownsRow_nil _ _ _ _
 rw [e];exact ho
theorem Pv {w W w':af}{D g:Nat}{y x0 x1 x2 x3 x4 x5:Value}(h:W.cell? ⟨D,0,none⟩=some y/\W.cell? ⟨g,0,none⟩=some x0/\W.cell? ⟨g,1,none⟩=some x1/\W.cell? ⟨g,2,none⟩=some x2/\W.cell? ⟨g,3,none⟩=some x3/\W.cell? ⟨g,4,none⟩=some x4/\W.cell? ⟨g,5,none⟩=some x5/\D<W.heap.size/\g<W.heap.size/\ag w W)(hb:ag W w'):w'.cell? ⟨D,0,none⟩=some y/\w'.cell? ⟨g,0,none⟩=some x0/\w'.cell? ⟨g,1,none⟩=some x1/\w'.cell? ⟨g,2,none⟩=some x2/\w'.cell? ⟨g,3,none⟩=some x3/\w'.cell? ⟨g,4,none⟩=some x4/\w'.cell? ⟨g,5,none⟩=some x5/\D<w'.heap.size/\g<w'.heap.size/\ag w w':=by
 obtain ⟨h0,g0,g1,g2,g3,g4,g5,hn,hm,hB⟩:=h;have hc:∀ o,w'.cell? ⟨D,o,none⟩=W.cell? ⟨D,o,none⟩:=fun o=>hb.cell (p:=⟨D,o,none⟩) hn;have hd:∀ o,w'.cell? ⟨g,o,none⟩=W.cell? ⟨g,o,none⟩:=fun o=>hb.cell (p:=⟨g,o,none⟩) hm;exact ⟨(hc _).trans h0,(hd _).trans g0,(hd _).trans g1,(hd _).trans g2,(hd _).trans g3,(hd _).trans g4,(hd _).trans g5,Uc hn hb.size,Uc hm hb.size,hB.trans (hb.mono hB.size)⟩
theorem Jy (fit:Tp->Bool)(ad:Option Addr)(cap:Nat)(rs:List TR)(UX:Option Addr)(cap':Nat)(ts:List Tp)(w:af)(hlen:rs.length<=1048576)(hs:kX w ad rs)(hl:∀ r∈rs,r.light)(hfr:∀ r∈rs,r.fits)(hC:Calls prog 91 #[.slice ad rs.length cap] w (SK (ae rs) w))(hfb:aL (ae rs)=true->∀ t:Tp,t.ok=true->x9 (ae rs) t.a t.r ⟨t.c,t.s⟩=fit t)(hlt:ts.length<=1048576)(hst:Sl w UX ts)(hft:∀ x∈ts,x.fits) :
  Calls prog 58 #[.slice ad rs.length cap,.slice UX ts.length cap'] w (TP fit rs ts w):=by
 have HS:=aF hs;have HL:=aF hl;have Xb:=aF hfr;have HST:=aF hst;have UY:=aF hft;have HC:=aF hC;have HFB:=aF hfb;obtain ⟨iR,i0,i1,i2,i3⟩:=Ps;have VN:=aF (And.intro i0 (And.intro i1 (And.intro i2 i3)));clear i0 i1 i2 i3;have Vl:ts.length<=maxLen:=by unfold maxLen;omega
 clear hs hl hfr hC hfb hst hft;go_enter func58,ntmps58;go_wp2_with fail;refine HC.out.mono ?_;rintro e w1 ⟨hL,hb1⟩;have HB1:=aF hb1;clear HC hb1;rcases hL with ⟨bS,nS,σ,rfl,hS,hM,WE,hk⟩|⟨rfl,hno⟩
 ·have HSD:Hid (aL (ae rs)=true):=aZ.2 hS;have HM:=aF hM;have Vs:=aF WE;have Zg:=aF hk;have hSP:=hS;obtain ⟨h6,Ww,-⟩:=bu hSP.1;have HTAB:=aF (wK hSP.1);have Wt:=aF Ww;clear hM WE hk hS hSP Ww;go_wp2_with fail;refine (wU UX cap' ts _ Vl (HST.out.below HB1.out) UY.out).mono ?_;rintro e w2 ⟨he,hb2⟩;have HB2:=aF (HB1.out.trans (hb2.mono HB1.out.size));have Vt:=aF (HM.out.below hb2);clear hb2 HM;cases h2:dL ts;case false=>
   rw [h2]at he;subst he;have HN:Hid (aV fit rs ts=false):=by show _=_;unfold aV;rw [h2];simp
   clear h2;go_wp2;exact bodyPost_ret (v:=.tuple #[.pointer none,.bool false]) (by simp [results,Tryz.results58,go_sem]) rfl ⟨HB2.out,.inl ⟨HN.out,rfl⟩⟩
  rw [h2]at he;subst he;have HTU:=aF (RV h2);have XQ:Hid (aV fit rs ts=ts.all (fit)):=by show _=_;unfold aV;rw [h2,HSD.out];simp
  have h40:ts.length<=40:=HTU.out.2.2;have HTBL:=aF (qK ad cap rs w2 h6 (HS.out.below HB2.out) Wt.out Xb.out);clear h2;go_wp2_with fail;refine HTBL.out.mono ?_;rintro e w3 ⟨rfl,hV3,hb3⟩;have HB3:=aF (HB2.out.trans (hb3.mono HB2.out.size));have hbt:w2.heap.size<w3.heap.size:=hV3.lt;have hw2:w.heap.size<=w2.heap.size:=HB2.out.size;have Yn:=aF (Vt.out.below hb3);have Y8:=aF (Po hV3 hbt);obtain ⟨bt,hbte⟩:∃ b,b=w2.heap.size:=⟨_,rfl⟩;obtain ⟨br,Y9⟩:∃ b,b=w3.heap.size:=⟨_,rfl⟩;rw [<-hbte]at Y8 hbt hw2 ⊢;obtain ⟨W,hW⟩:∃ W,W=((w3.alloc (.map #[] 0)).alloc (.map #[] 0)).alloc (.cells #[.map (some bt),.int .i64 0,.map (some w3.heap.size),.map (some (w3.heap.size+1)),.slice none 0 0,.slice none 0 0] 168):=⟨_,rfl⟩;rw [<-hW]at Y8;have hmm:=@run_makeMap prog;have HBW0:Hid (ag w3 W):=by
   show Below _ _ _;rw [hW];exact (((Uf _ _).alloc (Ue _) _).alloc (by simp) _).alloc (by simp;omega) _
  have HMW:=aF (Yn.out.below HBW0.out);have UU:=aF (HB3.out.trans (HBW0.out.mono HB3.out.size));have hbS:bS<br:=by rw [Y9];exact Yn.out.lt
  clear hb3 hV3 HTBL hbte;obtain ⟨D,hDe⟩:∃ b,b=br+2:=⟨_,rfl⟩;obtain ⟨bp,hbpe⟩:∃ b,b=br+1:=⟨_,rfl⟩;rw [<-Y9]at Y8;rw [<-hDe,<-hbpe]at Y8;have hDW:D<W.heap.size:=Y8.out.dat.lt;go_wp2_with fail;rw [<-hW,show w3.heap.size+1+1=D by omega,show w3.heap.size+1=bp by omega,<-Y9];have hwbr:w.heap.size<=br:=by rw [Y9];exact HB3.out.size
  have hbtr:bt<br:=by rw [Y9];exact hbt
  clear hbt;clear Y9 hDe hbpe hW hmm HBW0;go_loopw [37] (fun i wr=>∃ k:Nat,k<=ts.length/\i=.int .i64 (k:Int)/\Hid ((ts.take k).all (fit)=true)/\Hid (∃ Mp vo vu,DatA wr rs D br bp bt 0 0 (fun _=>none) [] (dM (ts.take k)) (eD (ts.take k)) (dh (ts.take k)) k Mp vo vu)/\Hid (Below br W wr)) (fun i _=>ts.length-(intOf i).toNat);case atStart=>exact ⟨0,Ui _,rfl,rfl,⟨_,_,_,by simpa [dM,eD,dh] using Y8.out⟩,Uf _ _⟩
  obtain ⟨k,hk,rfl,U2,Yi,HB⟩:=hrel;have WX:Hid (ag w wr):=UU.out.trans (HB.out.mono hwbr);by_cases hkl:k<ts.length
  ·rcases HST.out.below WX.out with hnil|⟨b,off,rfl,hb,hr⟩
   ·rw [hnil]at hkl;simp at hkl
   obtain ⟨t0,t1,t2,t3,t4,t5⟩:=hr k hkl;have hk1:=bF k;have hk2:(k:Int)<(ts.length:Int):=by omega
   have HAT:=aF (Pp (p:=fit) hkl);have HAH:=aF (QV (p:=fit) hkl);have XD:=aF (UY.out _ (Ud hkl));have HXO:=aF (HTU.out.2.1 _ (Ud hkl));have HTK:Hid (ts.take (k+1)=ts.take k++[ts[k]]):=Uh hkl;obtain ⟨x,hx⟩:∃ x,x=ts[k]:=⟨_,rfl⟩;rw [<-hx]at t0 t1 t2 t3 t4 t5 HAT HAH XD HXO HTK;obtain ⟨W4,Wi⟩:∃ W4,W4=wr.alloc (.cells #[.string x.a,.string x.b,.string x.r,.string x.c,.string x.d,.string x.s] 46):=⟨_,rfl⟩;have hb4:ag wr W4:=by rw [Wi];exact (Uf _ _).alloc (Ue _) _
   have hx4:uj W4 wr.heap.size x:=by rw [Wi];exact Ep wr x _
   obtain ⟨Mp,vo,vu,Ws⟩:=Yi.out;have HD4:=aF (Ws.below hb4);have HX4:=aF hx4;have Za:=aF (WX.out.trans (hb4.mono WX.out.size));have Xt:=aF (HB.out.trans (hb4.mono (by have:=HB.out.size;have:=Y8.out.ord;have:=Y8.out.dat.gt;omega)));have HLF:Hid (∀ W',(fun w'=>w'.cell? ⟨D,0,none⟩=some (.map (some bt))/\w'.cell? ⟨wr.heap.size,0,none⟩=some (.string x.a)/\w'.cell? ⟨wr.heap.size,1,none⟩=some (.string x.b)/\w'.cell? ⟨wr.heap.size,2,none⟩=some (.string x.r)/\w'.cell? ⟨wr.heap.size,3,none⟩=some (.string x.c)/\w'.cell? ⟨wr.heap.size,4,none⟩=some (.string x.d)/\w'.cell? ⟨wr.heap.size,5,none⟩=some (.string x.s)/\D<w'.heap.size/\wr.heap.size<w'.heap.size/\ag W4 w') W'->Calls prog 100 #[.map (some bt),.agg #[.string x.a,.string x.b,.string x.r,.string x.c,.string x.d,.string x.s]] W' fun e w'=>e=.returned (.bool (fit x))/\ag W' w'):=fun W' hS'=>by
    have hb':=hS'.2.2.2.2.2.2.2.2.2;refine (Pn bt 36 rs ad (nZ rs) x.a x.b x.r x.c x.d x.s W' ((HD4.out.tab).below hb') HTAB.out (HS.out.below (Za.out.trans (hb'.mono Za.out.size))) HL.out XD.out.1 XD.out.2.2.1).mono ?_;rintro e w6 ⟨rfl,hb6⟩;exact ⟨by rw [HFB.out HSD.out x HXO.out],hb6⟩
   have H0:Hid ((fun w'=>w'.cell? ⟨D,0,none⟩=some (.map (some bt))/\w'.cell? ⟨wr.heap.size,0,none⟩=some (.string x.a)/\w'.cell? ⟨wr.heap.size,1,none⟩=some (.string x.b)/\w'.cell? ⟨wr.heap.size,2,none⟩=some (.string x.r)/\w'.cell? ⟨wr.heap.size,3,none⟩=some (.string x.c)/\w'.cell? ⟨wr.heap.size,4,none⟩=some (.string x.d)/\w'.cell? ⟨wr.heap.size,5,none⟩=some (.string x.s)/\D<w'.heap.size/\wr.heap.size<w'.heap.size/\ag W4 w') W4.drew):=⟨HD4.out.dat.c0,hx4.1,hx4.2.1,hx4.2.2.1,hx4.2.2.2.1,hx4.2.2.2.2.1,hx4.2.2.2.2.2.1,HD4.out.dat.lt,hx4.2.2.2.2.2.2,(Uf _ _).drew⟩;have ho40:=oD (ts.take k);have hu40:=mG (ts.take k);have hte:(dM (ts.take k)).length<=40:=by unfold dM;simp;omega
   have htl:(ts.take k).length<=40:=by rw [UF];omega
   have HALK:=U2;clear hr hx hx4 Ws hb4 Yi HB U2;cases hfx:fit x;case false=>
    rw [hfx]at HLF;go_wp2_with fail;rw [<-Wi];clear Wi
    go_region_held3 (fun w'=>w'.cell? ⟨D,0,none⟩=some (.map (some bt))/\w'.cell? ⟨wr.heap.size,0,none⟩=some (.string x.a)/\w'.cell? ⟨wr.heap.size,1,none⟩=some (.string x.b)/\w'.cell? ⟨wr.heap.size,2,none⟩=some (.string x.r)/\w'.cell? ⟨wr.heap.size,3,none⟩=some (.string x.c)/\w'.cell? ⟨wr.heap.size,4,none⟩=some (.string x.d)/\w'.cell? ⟨wr.heap.size,5,none⟩=some (.string x.s)/\D<w'.heap.size/\wr.heap.size<w'.heap.size/\ag W4 w')
     (first|assumption|exact Pv (by assumption) hbx|exact H0.out)
     (first|(go_at_call 100;refine (HLF.out _ (by assumption)).mono ?_;rintro e w' ⟨rfl,hbx⟩))
    rename_i hH;have HBE:Hid (ag w _):=Za.out.trans (hH.2.2.2.2.2.2.2.2.2.mono Za.out.size);have HN:Hid (aV fit rs ts=false):=XQ.out.trans (HAH.out hfx);clear hH;go_wp2;exact bodyPost_ret (v:=.tuple #[.pointer none,.bool false]) (by simp [results,Tryz.results58,go_sem]) rfl ⟨HBE.out,.inl ⟨HN.out,rfl⟩⟩
   rw [hfx]at HLF;go_wp2_with fail;rw [<-Wi];clear Wi
   go_region_held3 (fun w'=>w'.cell? ⟨D,0,none⟩=some (.map (some bt))/\w'.cell? ⟨wr.heap.size,0,none⟩=some (.string x.a)/\w'.cell? ⟨wr.heap.size,1,none⟩=some (.string x.b)/\w'.cell? ⟨wr.heap.size,2,none⟩=some (.string x.r)/\w'.cell? ⟨wr.heap.size,3,none⟩=some (.string x.c)/\w'.cell? ⟨wr.heap.size,4,none⟩=some (.string x.d)/\w'.cell? ⟨wr.heap.size,5,none⟩=some (.string x.s)/\D<w'.heap.size/\wr.heap.size<w'.heap.size/\ag W4 w')
    (first|assumption|exact Pv (by assumption) hbx|exact H0.out)
    (first|(go_at_call 100;refine (HLF.out _ (by assumption)).mono ?_;rintro e w' ⟨rfl,hbx⟩))
   rename_i hH;obtain ⟨-,y0,y1,y2,y3,y4,y5,-,yl,hbH⟩:=hH;rename_i w5;have HD5:=aF (HD4.out.below hbH);have HBw5:=aF (Za.out.trans (hbH.mono Za.out.size));have HBW5:=aF (Xt.out.trans (hbH.mono (by have:=HD4.out.ord;have:=HD4.out.dat.gt;have:=HD4.out.dat.lt;omega)));have HALN:Hid ((ts.take (k+1)).all fit=true):=by show _=_;rw [HAT.out,HALK.out,hfx];rfl
   clear hbH;go_wp2_with fail;refine (OX D br bp _ 0 _ _ _ k Mp vo vu x _ HD5.out.dat (by omega) (by omega) (by omega) (by omega) XD.out).mono ?_;rintro e w6 ⟨rfl,⟨Mp',XZ,X7,hd6⟩,hb6⟩;have HDN6:Hid (∃ Mp vo vu,DatA w6 rs D br bp bt 0 0 (fun _=>none) [] (dM (ts.take (k+1))) (eD (ts.take (k+1))) (dh (ts.take (k+1))) (k+1) Mp vo vu):=by
    rw [HTK.out,Jp,AB,xS];exact ⟨Mp',XZ,X7,HD5.out.tell hd6 hb6⟩
   have HBW6:Hid (Below br W w6):=HBW5.out.trans (hb6.mono (by have:=HD4.out.ord;omega));clear hd6 hb6;go_wp2;go_roundw;case rel=>exact ⟨k+1,by omega,by go_num,HALN,HDN6,HBW6⟩
   simp [intOf] <;> omega
  obtain rfl:k=ts.length:=by omega
  rw [Us]at U2 Yi;have HRT:Hid (aV fit rs ts=true):=XQ.out.trans U2.out;obtain ⟨Mp,vo,vu,Ws⟩:=Yi.out;have HD0:=aF Ws;obtain ⟨f,hf⟩:∃ f:Ky->Int,f=fun k=>(σ k).getD 0:=⟨_,rfl⟩;have HF:=aF hf;have HLS:Hid (Least (ae rs) f):=by rw [hf];exact Vs.out
  have HF36:Hid (∀ y,0<=f y/\f y<=36):=by rw [hf];exact Pq (aZ.1 HSD.out) h6 Wt.out Vs.out Zg.out
  obtain ⟨wz,hwz⟩:∃ wz,wz=wr:=⟨_,rfl⟩;subst hwz;have hkk:decide ((ts.length:Int)<(ts.length:Int))=false:=by simp
  clear Ws Yi U2 hf Vs HTU XQ;go_wp2_with fail;go_loopw [54] (fun i wr=>∃ k:Nat,k<=rs.length/\i=.int .i64 (k:Int)/\Hid ((eY f (rs.take k)).length<=6*k)/\Hid (∃ nr Mr,nr<=6*k/\DatA wr rs D br bp bt (jJ (eY f (rs.take k))) nr Mr (eY f (rs.take k)) (dM ts) (eD ts) (dh ts) ts.length Mp vo vu)/\Hid (Below br W wr)) (fun i _=>rs.length-(intOf i).toNat);case atStart=>exact ⟨0,Ui _,rfl,Ui _,⟨0,_,Ui _,HD0.out⟩,HB⟩
  clear HD0 HB WX;obtain ⟨k,hk,rfl,Wu,Yi,HB⟩:=hrel;have WX:Hid (ag w wr):=UU.out.trans (HB.out.mono hwbr);by_cases hkl:k<rs.length
  ·rcases HS.out.below WX.out with hnil|⟨b,off,rfl,hb,hr,hok⟩
   ·rw [hnil]at hkl;simp at hkl
   obtain ⟨t0,t1⟩:=hr k hkl;have hk1:=bF k;have hk2:(k:Int)<(rs.length:Int):=by omega
   have h6k:rs[k].rows.length<=6:=Wt.out _ (Ud hkl);have z0:rs[k].name.size<=maxLen:=(Xb.out _ (Ud hkl)).1;have HFRk:Hid (∀ q∈rs[k].rows,q.fits):=(Xb.out _ (Ud hkl)).2.2;have ZH:=aF (Mq f hkl);obtain ⟨W1,hW1⟩:∃ W1,W1=wr.alloc (.cells #[.string rs[k].name,.slice rs[k].ad rs[k].rows.length rs[k].cap] 127):=⟨_,rfl⟩;have hal:ag wr W1:=by rw [hW1];exact (Uf _ _).alloc (Ue _) _
   obtain ⟨nr,Mr,hnr,Ws⟩:=Yi.out;have HD1:=aF (Ws.below hal);have hbrz:br<wr.heap.size:=by have:=Ws.ord;have:=Ws.dat.gt;have:=Ws.dat.lt;omega
   have HB1:Hid (Below br W W1):=HB.out.trans (hal.mono (by omega));have HT1:Hid (W1.heap[wr.heap.size]?=some (.cells #[.string rs[k].name,.slice rs[k].ad rs[k].rows.length rs[k].cap] 127 (0,0))):=by rw [hW1];exact heap_alloc_new wr _
   have a1:W1.cell? ⟨wr.heap.size,1,none⟩=some (.slice rs[k].ad rs[k].rows.length rs[k].cap):=by rw [hW1];simp
   clear hr hok hal Ws Yi;go_wp2_with fail;rw [<-hW1];clear hW1 t0 t1 a1 HB;obtain ⟨wo,hwo⟩:∃ wo,wo=wr:=⟨_,rfl⟩;subst hwo;go_loopw [61] (fun i w2=>∃ j:Nat,j<=rs[k].rows.length/\i=.int .i64 (j:Int)/\Hid (∃ nr Mr,nr<=6*k+j/\DatA w2 rs D br bp bt (jJ (eY f (rs.take k)++(rs[k].rows.take j).map (xg f rs[k].name))) nr Mr (eY f (rs.take k)++(rs[k].rows.take j).map (xg f rs[k].name)) (dM ts) (eD ts) (dh ts) ts.length Mp vo vu)/\Hid (w2.heap[wo.heap.size]?=some (.cells #[.string rs[k].name,.slice rs[k].ad rs[k].rows.length rs[k].cap] 127 (0,0)))/\Hid (Below br W w2)) (fun i _=>rs[k].rows.length-(intOf i).toNat);case atStart=>exact ⟨0,Ui _,rfl,⟨nr,Mr,by omega,by simpa using HD1.out⟩,HT1,HB1⟩
   clear HD1 HT1 HB1 WX;obtain ⟨j,hj,rfl,Yi,HT,HB⟩:=hrel;have WX:Hid (ag w wr):=UU.out.trans (HB.out.mono hwbr);by_cases hjl:j<rs[k].rows.length
   ·rcases HS.out.below WX.out with hnil|⟨b',off',he,hb2,hr,hok⟩
    ·rw [hnil]at hkl;simp at hkl
    injection he with he;injection he with he1 he2;subst he1;subst he2;have ok:=hok rs[k] (Ud hkl);rcases ok with hnil|⟨b2,Vb,had,hbb,hr2,-⟩
    ·rw [hnil]at hjl;simp at hjl
    obtain ⟨q0,q1⟩:=hr2 j hjl;have z1:rs[k].rows[j].name.size<=maxLen:=(HFRk.out _ (Ud hjl)).1;have hj1:=bF j;have hj2:(j:Int)<(rs[k].rows.length:Int):=by omega
    obtain ⟨kl,hkl'⟩:=jC (rs[k].name,rs[k].rows[j].name) z0 z1;have VD:=aF hkl';obtain ⟨nr,Mr,hnr,Ws⟩:=Yi.out;have HTKE:Hid ((rs[k].rows.take (j+1)).map (xg f rs[k].name)=(rs[k].rows.take j).map (xg f rs[k].name)++[xg f rs[k].name rs[k].rows[j]]):=by show _=_;rw [Uh hjl,List.map_append];rfl
    have hEl:((rs[k].rows.take j).map (xg f rs[k].name)).length=j:=by rw [UK,UF];omega
    obtain ⟨E0,hE0⟩:∃ E0,E0=eY f (rs.take k)++(rs[k].rows.take j).map (xg f rs[k].name):=⟨_,rfl⟩;have hE0l:E0.length<=36:=by rw [hE0,Ul,hEl];have:=Wu.out;omega
    rw [<-hE0]at Ws;have WT:=aF hE0;obtain ⟨fv,hfv⟩:∃ fv,fv=f (rs[k].name,rs[k].rows[j].name):=⟨_,rfl⟩;have hfv36:=HF36.out (rs[k].name,rs[k].rows[j].name);rw [<-hfv]at hfv36;obtain ⟨hfv0,hfv1⟩:=hfv36;have HFV:=aF hfv;have HLK:Hid ((iY σ (rs[k].name,rs[k].rows[j].name)).getD (.int .i64 0)=.int .i64 fv):=by
     show _=_;rw [hfv,HF.out];unfold iY;cases h:σ (rs[k].name,rs[k].rows[j].name) <;> simp [h]
    obtain ⟨W2,hW2⟩:∃ W2,W2=wr.alloc (.cells #[.string rs[k].rows[j].name,.slice rs[k].rows[j].ad rs[k].rows[j].rows.length rs[k].rows[j].cap] 147):=⟨_,rfl⟩;obtain ⟨W3,hW3⟩:∃ W3,W3=W2.alloc (.cells #[.string rs[k].name,.int .i64 fv] 172):=⟨_,rfl⟩;have hs2:W2.heap.size=wr.heap.size+1:=by rw [hW2];simp
    have hs3:W3.heap.size=wr.heap.size+2:=by rw [hW3];simp;omega
    have Zb:ag wr W2:=by rw [hW2];exact (Uf _ _).alloc (Ue _) _
    have Ya:ag W2 W3:=by rw [hW3];exact (Uf _ _).alloc (Ue _) _
    have hwol:wo.heap.size<wr.heap.size:=by
     rcases Nat.lt_or_ge wo.heap.size wr.heap.size with h|h
     ·exact h
     have:=HT.out;rw [Array.getElem?_eq_none h]at this;cases this
    have HFRB:Hid (G.FreeB Mr wr.heap.size):=Ws.rel.fresh (Ue _);have Vt:Hid (aO dS prog 94 W2 bS nS (iY σ)):=HMW.out.of_block (by rw [Zb.block bS (by omega),HB.out.block bS hbS]);have HD3:=aF ((Ws.below Zb).below Ya);have HB3':Hid (Below br W W3):=(HB.out.trans (Zb.mono (by omega))).trans (Ya.mono (by omega));have HT3:Hid (W3.heap[wo.heap.size]?=some (.cells #[.string rs[k].name,.slice rs[k].ad rs[k].rows.length rs[k].cap] 127 (0,0))):=by show _=_;rw [Ya.block _ (by omega),Zb.block _ (by omega)];exact HT.out
    have c0:wr.cell? ⟨wo.heap.size,0,none⟩=some (.string rs[k].name):=by simp [World.cell?,HT.out]
    have c0b:W2.cell? ⟨wo.heap.size,0,none⟩=some (.string rs[k].name):=(Zb.cell (p:=⟨wo.heap.size,0,none⟩) (by show wo.heap.size<_;omega)).trans c0;have g0:W2.cell? ⟨wr.heap.size,0,none⟩=some (.string rs[k].rows[j].name):=by rw [hW2];simp
    have HR2:Hid (W3.cell? ⟨wr.heap.size,0,none⟩=some (.string rs[k].rows[j].name)/\W3.cell? ⟨wr.heap.size,1,none⟩=some (.slice rs[k].rows[j].ad rs[k].rows[j].rows.length rs[k].rows[j].cap)/\W3.cell? ⟨wr.heap.size+1,0,none⟩=some (.string rs[k].name)/\W3.cell? ⟨wr.heap.size+1,1,none⟩=some (.int .i64 fv)):=by
     show _/\_;rw [hW3,hW2];refine ⟨?_,?_,?_,?_⟩ <;> simp
    rw [had];clear hr hok hr2 hkl' Ws Yi Zb Ya HT HB hE0 hfv hEl;go_wp2_with (first|(at_lookup;rw [<-hW2];refine jB _ rfl _ _ 153 rfl 94 2 ic underlying153 (QW _) bS nS (iY σ) rfl Vt.out (rs[k].name,rs[k].rows[j].name) kl rfl VD.out ?_;rw [HLK.out]));rw [<-hW2,<-hW3];clear hW2 hW3 g0 c0b c0 q0 q1 HLK Vt;obtain ⟨row0,hr0⟩:∃ r,r=(Mr (rs[k].name,fv)).getD (.slice none 0 0):=⟨_,rfl⟩;obtain ⟨nn,hnn⟩:∃ n,n=(G.lookL E0 (rs[k].name,fv)).length:=⟨_,rfl⟩;obtain ⟨xs,hxs⟩:∃ x,x=G.flatG QT (G.lookL E0 (rs[k].name,fv)):=⟨_,rfl⟩;have VO:=aF hr0;have WQ:=aF hnn;have WC:=aF hxs;have hnl:nn<=36:=by rw [hnn];exact Uk (List.length_filterMap_le _ _) hE0l
    have VE:Hid (∀ W0:World,ag W3 W0->W0.ownsRow (br+1) 147 2 row0 nn xs):=fun W0 hb=>by rw [hr0,hnn,hxs];exact Dr (HD3.out.rel.below hb) _
    have HKEY:Hid (∃ kl,keyOf prog 172 (FH (rs[k].name,fv))=some kl):=Ke _ z0 hfv0 (by show fv<=1000000;omega);have hDl:D<W3.heap.size:=HD3.out.dat.lt;have hbrD:br<D:=by have:=HD3.out.ord;have:=HD3.out.dat.gt;omega
    clear hr0 hnn hxs;obtain ⟨C2,hC2⟩:∃ C:Nat->Value,C=fun n=>(Value.pointer (some ⟨D,0,none⟩)::.pointer (some ⟨D,0,none⟩)::.pointer (some ⟨D,2,none⟩)::.map (some br)::.agg #[.string rs[k].name,.int .i64 fv]::.agg #[.string rs[k].rows[j].name,.slice rs[k].rows[j].ad rs[k].rows[j].rows.length rs[k].rows[j].cap]::[]).getD n undef:=⟨_,rfl⟩;have Vq:Hid (C2 0=Value.pointer (some ⟨D,0,none⟩)/\C2 1=Value.pointer (some ⟨D,0,none⟩)/\C2 2=Value.pointer (some ⟨D,2,none⟩)/\C2 3=Value.map (some br)/\C2 4=Value.agg #[.string rs[k].name,.int .i64 fv]/\C2 5=Value.agg #[.string rs[k].rows[j].name,.slice rs[k].rows[j].ad rs[k].rows[j].rows.length rs[k].rows[j].cap]):=by show _/\_;rw [hC2];exact ⟨rfl,rfl,rfl,rfl,rfl,rfl⟩
    clear hC2;refine pU 11 (fun n=>(u76::u77::u78::u79::u80::u82::u83::u84::u81::u85::u86::[]).getD n undef) (fun fq=>{ tmps:=List.toArray (Value.slice (some ⟨b,off,none⟩) rs.length cap::.slice UX ts.length cap'::undef::undef::u4::u5::.map (some bS)::.bool true::.pointer (some ⟨D,0,none⟩)::undef::u10::undef::.pointer (some ⟨wo.heap.size,0,none⟩)::undef::.pointer (some ⟨wr.heap.size,0,none⟩)::.int .i64 fv::.pointer (some ⟨wr.heap.size+1,0,none⟩)::.tuple #[.map (some bS),.bool true]::.slice (some ⟨b,off,none⟩) rs.length cap::.tuple #[.map (some bS),.bool true]::.map (some bS)::.bool true::.bool true::.bool false::.bool false::.slice UX ts.length cap'::.bool true::.bool false::.bool false::.slice (some ⟨b,off,none⟩) rs.length cap::.map (some bt)::.map (some br)::.map (some bp)::.agg #[.map (some bt),.int .i64 0,.map (some br),.map (some bp),.slice none 0 0,.slice none 0 0]::.pointer (some ⟨D,0,none⟩)::.slice UX ts.length cap'::.int .i64 ts.length::.int .i64 ts.length::.bool false::u39::u40::u41::u42::u43::u44::u45::u46::u47::u48::u49::u50::u51::.slice (some ⟨b,off,none⟩) rs.length cap::.int .i64 rs.length::.int .i64 k::.bool true::.pointer (some ⟨b,off+k*2,none⟩)::.agg #[.string rs[k].name,.slice (some ⟨b2,Vb,none⟩) rs[k].rows.length rs[k].cap]::.pointer (some ⟨wo.heap.size,1,none⟩)::.slice (some ⟨b2,Vb,none⟩) rs[k].rows.length rs[k].cap::.int .i64 rs[k].rows.length::.int .i64 j::.bool true::.pointer (some ⟨b2,Vb+j*2,none⟩)::.agg #[.string rs[k].rows[j].name,.slice rs[k].rows[j].ad rs[k].rows[j].rows.length rs[k].rows[j].cap]::.map (some bS)::.pointer (some ⟨wo.heap.size,0,none⟩)::.string rs[k].name::.pointer (some ⟨wr.heap.size,0,none⟩)::.string rs[k].rows[j].name::.agg #[.string rs[k].name,.string rs[k].rows[j].name]::.int .i64 fv::.pointer (some ⟨wo.heap.size,0,none⟩)::.string rs[k].name::.int .i64 fv::.agg #[.string rs[k].name,.int .i64 fv]::(fq 0)::(fq 1)::(fq 2)::(fq 3)::(fq 4)::(fq 8)::(fq 5)::(fq 6)::(fq 7)::(fq 9)::(fq 10)::u87::u88::u89::u90::u91::u92::u93::u94::u95::u96::u97::u98::undef::[]),defers:=[] }) (G.EI C2 #[.string rs[k].rows[j].name,.slice rs[k].rows[j].ad rs[k].rows[j].rows.length rs[k].rows[j].cap] 147 2 W3 br row0 nn xs (G.Back FH prog 172 165 br nr Mr (rs[k].name,fv))) (by kernel_rfl) rfl (by kernel_rfl) (by kernel_rfl) rfl (G.ei_start W3) ?stepA ?finA;case stepA =>
     rintro i hi o ho l fq w' VC hI hpre;have HI:=aA hI;have UQ:Hid (∀ e∈o.after,Region.binds .any e=true->l e.on=true):=hpre;clear hI hpre;have hc:=Nj (i:=i) (by omega);clear hi
     repeat' rcases hc with rfl|hc
     ·cases ho;have hA:=HI.out.early (i:=0) (by omega) VC;clear UQ HI;refine aa rfl fun K HK=>?_;go_simp;exact HK.out _ _ ⟨Value.pointer (some ⟨D,0,none⟩),by simp [upd, *],hA.put (by omega) Vq.out.1.symm⟩
     ·cases ho;have hA:=HI.out.early (i:=1) (by omega) VC;have e0:=(hA.val 0 (by omega) (UQ.out ⟨0,.data⟩ (by simp) rfl)).trans Vq.out.1;clear UQ HI;refine aa rfl fun K HK=>?_;simp only [e0];go_simp;exact HK.out _ _ ⟨Value.pointer (some ⟨D,0,none⟩),by simp [upd, *],hA.put (by omega) Vq.out.2.1.symm⟩
     ·cases ho;have hA:=HI.out.early (i:=2) (by omega) VC;have e1:=(hA.val 1 (by omega) (UQ.out ⟨1,.data⟩ (by simp) rfl)).trans Vq.out.2.1;clear UQ HI;refine aa rfl fun K HK=>?_;simp only [e1];go_simp;exact HK.out _ _ ⟨Value.pointer (some ⟨D,2,none⟩),by simp [upd, *],hA.put (by omega) Vq.out.2.2.1.symm⟩
     ·cases ho;have hA:=HI.out.early (i:=3) (by omega) VC;have e2:=(hA.val 2 (by omega) (UQ.out ⟨2,.data⟩ (by simp) rfl)).trans Vq.out.2.2.1;have hb':=hA.bel;have d2:=(hb'.cell (p:=⟨D,2,none⟩) hDl).trans HD3.out.dat.c2;clear UQ HI;refine aa rfl fun K HK=>?_;simp only [e2];go_simp;exact HK.out _ _ ⟨Value.map (some br),by simp [upd, *],hA.put (by omega) Vq.out.2.2.2.1.symm⟩
     ·cases ho;have hA:=HI.out.early (i:=4) (by omega) VC;have hb':=hA.bel;have k0:=(hb'.cell (p:=⟨wr.heap.size+1,0,none⟩) (by show wr.heap.size+1<_;omega)).trans HR2.out.2.2.1;have k1:=(hb'.cell (p:=⟨wr.heap.size+1,1,none⟩) (by show wr.heap.size+1<_;omega)).trans HR2.out.2.2.2;clear UQ HI;refine aa rfl fun K HK=>?_;go_simp;exact HK.out _ _ ⟨Value.agg #[.string rs[k].name,.int .i64 fv],by simp [upd, *],hA.put (by omega) Vq.out.2.2.2.2.1.symm⟩
     ·cases ho;have hA:=HI.out.early (i:=5) (by omega) VC;have hb':=hA.bel;have k0:=(hb'.cell (p:=⟨wr.heap.size,0,none⟩) (by show wr.heap.size<_;omega)).trans HR2.out.1;have k1:=(hb'.cell (p:=⟨wr.heap.size,1,none⟩) (by show wr.heap.size<_;omega)).trans HR2.out.2.1;clear UQ HI;refine aa rfl fun K HK=>?_;go_simp;exact HK.out _ _ ⟨Value.agg #[.string rs[k].rows[j].name,.slice rs[k].rows[j].ad rs[k].rows[j].rows.length rs[k].rows[j].cap],by simp [upd, *],hA.put (by omega) Vq.out.2.2.2.2.2.symm⟩
     ·cases ho;have hA:=HI.out.early (i:=6) (by omega) VC;have e5:=(hA.val 5 (by omega) (UQ.out ⟨5,.data⟩ (by simp) rfl)).trans Vq.out.2.2.2.2.2;clear UQ HI;refine aa rfl fun K HK=>?_;simp only [e5];go_simp;exact HK.out _ _ ⟨_,by simp [upd,e5],hA.lay⟩
     ·cases ho;have hA:=HI.out.early (i:=7) (by omega) VC;have e3:=(hA.val 3 (by omega) (UQ.out ⟨3,.data⟩ (by simp) rfl)).trans Vq.out.2.2.2.1;have e4:=(hA.val 4 (by omega) (UQ.out ⟨4,.data⟩ (by simp) rfl)).trans Vq.out.2.2.2.2.1;have hall:∀ k,k<=6->l k=true:=fun k hk=>by
       have hc:=Tw (i:=k) (by omega)
       repeat' rcases hc with rfl|hc
       ·exact UQ.out ⟨0,.phase⟩ (by simp) rfl
       ·exact UQ.out ⟨1,.phase⟩ (by simp) rfl
       ·exact UQ.out ⟨2,.phase⟩ (by simp) rfl
       ·exact UQ.out ⟨3,.phase⟩ (by simp) rfl
       ·exact UQ.out ⟨4,.phase⟩ (by simp) rfl
       ·exact UQ.out ⟨5,.phase⟩ (by simp) rfl
       exact UQ.out ⟨6,.phase⟩ (by simp) rfl
      have hD':=HD3.out.below hA.bel;obtain ⟨kl2,hkl2⟩:=HKEY.out;obtain ⟨st,w1',hrun,hg,hback⟩:=hD'.rel.map.entry NV NU underlying165 Pt (by unfold maxLen;omega) hkl2;rw [<-VO.out]at hrun;have hrun':(Instr.mapEntry 165 (.map (some br)) (Value.agg #[.string rs[k].name,.int .i64 fv])).run prog w'=.ok (.tuple #[row0,goInt st]) w1':=hrun;clear UQ HI;refine aa rfl fun K HK=>?_;simp only [e3,e4];go_simp;exact HK.out _ _ ⟨_,by simp [upd,e3,e4,goInt],hA.took hall hg hback⟩
     ·cases ho;have h7:=UQ.out ⟨7,.data⟩ (by simp) rfl;have hB:=HI.out.midB h7 (i:=8) (by omega) VC;obtain ⟨st,e7⟩:=HI.out.seven h7;clear UQ HI;refine aa rfl fun K HK=>?_;simp only [e7];go_simp;exact HK.out _ _ ⟨_,by simp [upd,e7,goInt],hB.first⟩
     ·cases ho;have h7:=UQ.out ⟨7,.chain⟩ (by simp) rfl;have h8:=UQ.out ⟨8,.data⟩ (by simp) rfl;have hB:=HI.out.midB h7 (i:=9) (by omega) VC;obtain ⟨W0,st,g,hm1,hm2,XE,YJ,Xp,e7,hm7,hm8,hm9⟩:=hB.mid;have e8:=hm8 h8;have hown:=(VE.out W0 hm1).kept Xp (by
       rcases h:row0.ownBlock with _|g'
       ·exact .inl rfl
       right;intro e;injection e with e;have:=((VE.out W0 hm1).lt g' h).1;omega)
      have hnew:w'.heap[g]?=some (.cells #[.string rs[k].rows[j].name,.slice rs[k].rows[j].ad rs[k].rows[j].rows.length rs[k].rows[j].cap] 147 (0,0)):=by
       have hgl:g<W0.heap.size:=by
        rcases Nat.lt_or_ge g W0.heap.size with h|h
        ·exact h
        rw [Array.getElem?_eq_none h]at YJ;cases YJ
       rw [Xp.block g hgl (fun e=>by injection e with e;omega)];exact YJ
      clear UQ HI;refine kH w' rfl rfl _ _ 125 rfl (br+1) 147 iR _ 2 40 underlying125 VN.out.1 VN.out.2.1 VN.out.2.2.1 VN.out.2.2.2 rfl (by decide) row0 nn xs (by simp [Act.eval,e8]) hown ⟨g,0,none⟩ 1 1 [Value.string rs[k].rows[j].name,.slice rs[k].rows[j].ad rs[k].rows[j].rows.length rs[k].rows[j].cap] (by simp [Act.eval,hm2]) rfl (fun j u hu=>news_of_block hnew j u hu) (by simp [Value.oneCell']) (by unfold maxLen;omega) (by omega) (by have:=Xp.size;have:=hm1.size;omega) ?_;intro v' w2' hown2 Vd ZB;exact ⟨v',by simp [upd,Act.put],hB.app h8 Vd hown2 ZB⟩
     cases ho;have h7:=UQ.out ⟨7,.data⟩ (by simp) rfl;obtain ⟨st,e7⟩:=HI.out.seven h7;have HI2:=HI.out.second h7 e7;clear UQ HI;refine aa rfl fun K HK=>?_;simp only [e7];go_simp;exact HK.out _ _ ⟨_,by simp [upd,e7,goInt],HI2⟩
    case finA =>
     rintro o ho l fq w' hall hI;obtain rfl:=Option.some.inj ho;have hC:=hI.last hall;obtain ⟨W0,w1',st,hm1,hm2,XE,YJ,Xp,hm6,-,hm8⟩:=hC.mid;have e10:=hm8 (hall 10 (by omega));have e3:=(hC.val 3 (by omega)).trans Vq.out.2.2.2.1;obtain ⟨w7,hrun,hM3,hg3⟩:=hm6 w' (fq 9) (XE.block br (by have:=hm2.size;have:=hm1.size;omega) (fun e=>by have:=(VE.out W0 hm1).lt br e.symm;omega));have hst:=(HD3.out.rel.below hm1).step (y:=(rs[k].name,fv)) (s:=rs[k].rows[j]) hm2 (by rw [<-WQ.out,<-WC.out];exact YJ) (by rw [<-VO.out];exact XE) (by rw [<-VO.out];exact Xp) hg3 hM3;have HD7:=aF ((HD3.out.below hm1).list hst.1 hst.2);have YL:Hid (Below br W w7):=by
      have b0:Below br W W0:=HB3'.out.trans (hm1.mono (by omega));have b1:Below br W w1':=b0.grown hm2 (by have:=hm1.size;omega) (fun i hi=>by injection hi with hi;omega);have b2:Below br W w':=b1.grown XE (by have:=hm2.size;have:=hm1.size;omega) (fun i hi=>by have:=((VE.out W0 hm1).lt i hi).1;omega);exact b2.grown hg3 (by have:=XE.size;have:=hm2.size;have:=hm1.size;omega) (fun i hi=>by injection hi with hi;omega)
     have HT7:Hid (w7.heap[wo.heap.size]?=some (.cells #[.string rs[k].name,.slice rs[k].ad rs[k].rows.length rs[k].cap] 127 (0,0))):=by
      show _=_;have h0:W0.heap[wo.heap.size]?=_:=(hm1.block wo.heap.size (by omega)).trans HT3.out;rw [hst.2.block wo.heap.size (by have:=hm1.size;omega) (by omega) (rO (HD3.out.rel.below hm1) h0 (by decide))];exact h0
     have We:(Instr.entryStore 165 (.map (some br)) (.int .i64 st) (fq 9)).run prog w'=.ok () w7:=hrun;obtain ⟨Mn,hMn⟩:∃ M,M=lc Mr (rs[k].name,fv) (some (fq 9)):=⟨_,rfl⟩;rw [<-hMn]at HD7;refine aa rfl fun K HK=>?_;simp only [e3,e10];go_simp;refine HK.out _ _ ?_;obtain ⟨n0,hn0⟩:∃ n,n=jJ E0:=⟨_,rfl⟩;have YM:=aF hn0;rw [<-hn0]at HD7;have d1:=HD7.out.dat.c1;have fz:=fun o=>gJ HD7.out.dat.kind.choose_spec o;have Wd:=HD7.out.dat.lt;clear hst hrun We hM3 hg3 hm1 hm2 XE YJ Xp hm6 hm8 hC hI hall ho HK K e3 e10 HD3 HT3 HB3' VE Vq HKEY hMn VO WQ WC HR2 HFRB hn0 hDl hbrD;obtain ⟨w8,hw8⟩:∃ x,x=w7.setCell ⟨D,1,none⟩ (Value.int .i64 (max n0 (fv+1))):=⟨_,rfl⟩;have HEQ:Hid (eY f (rs.take k)++(rs[k].rows.take (j+1)).map (xg f rs[k].name)=E0++[((rs[k].name,fv),rs[k].rows[j])]):=by show _=_;rw [HTKE.out,<-List.append_assoc,<-WT.out];unfold xg;rw [<-HFV.out]
     have HD8:Hid (∃ nr Mr,nr<=6*k+(j+1)/\DatA w8 rs D br bp bt (jJ (eY f (rs.take k)++(rs[k].rows.take (j+1)).map (xg f rs[k].name))) nr Mr (eY f (rs.take k)++(rs[k].rows.take (j+1)).map (xg f rs[k].name)) (dM ts) (eD ts) (dh ts) ts.length Mp vo vu):=by
      rw [HEQ.out,GG,<-YM.out,hw8];exact ⟨nr+1,Mn,by omega,HD7.out.count (max n0 (fv+1))⟩
     have HT8:Hid (w8.heap[wo.heap.size]?=some (.cells #[.string rs[k].name,.slice rs[k].ad rs[k].rows.length rs[k].cap] 127 (0,0))):=by
      show _=_;rw [hw8,heap_setCell_other w7 ⟨D,1,none⟩ wo.heap.size _ (fun e=>by
       have e':wo.heap.size=D:=e;have h1:=HT7.out;obtain ⟨cur,h2⟩:=HD7.out.dat.kind;rw [e',h2]at h1;injection h1 with h1;injection h1 with _ h3;exact absurd h3 (by decide))]
      exact HT7.out
     have HB8:Hid (Below br W w8):=by show Below _ _ _;rw [hw8];exact YL.out.setCell (by show br<=D;have:=HD7.out.ord;have:=HD7.out.dat.gt;omega) _
     rw [had]at HT8;clear HD7 HT7 YL;go_wp2;rw [<-hw8];go_roundw;case rel=>exact ⟨j+1,by omega,by go_num,HD8,HT8,HB8⟩
     simp [intOf] <;> omega
   obtain rfl:j=rs[k].rows.length:=by omega
   have HDN2:Hid (∃ nr Mr,nr<=6*(k+1)/\DatA wr rs D br bp bt (jJ (eY f (rs.take (k+1)))) nr Mr (eY f (rs.take (k+1))) (dM ts) (eD ts) (dh ts) ts.length Mp vo vu):=by
    obtain ⟨nr,Mr,hnr,Ws⟩:=Yi.out;rw [Us]at Ws;rw [ZH.out];exact ⟨nr,Mr,by omega,Ws⟩
   have HEL2:Hid ((eY f (rs.take (k+1))).length<=6*(k+1)):=by
    show _<=_;rw [ZH.out,Ul,UK];have:=Wu.out;omega
   clear Yi HT;go_wp2;go_roundw;case rel=>exact ⟨k+1,by omega,by go_num,HEL2,HDN2,HB⟩
   simp [intOf] <;> omega
  obtain rfl:k=rs.length:=by omega
  rw [Us]at Yi;obtain ⟨nr,Mr,-,Ws⟩:=Yi.out;have HDE:=aF Ws;clear Ws Yi;go_wp2;exact bodyPost_ret (v:=.tuple #[.pointer (some ⟨D,0,none⟩),.bool true]) (by simp [results,Tryz.results58,go_sem]) rfl ⟨WX.out,.inr ⟨HRT.out,D,br,bp,bt,nr,ts.length,Mr,Mp,vo,vu,f,rfl,hw2,HLS.out,HDE.out⟩⟩
 have HN:Hid (aV fit rs ts=false):=by
  show _=_;unfold aV;cases hh:aL (ae rs);case false=>simp
  exact absurd (aZ.1 hh) hno
 clear hno;go_wp2;exact bodyPost_ret (v:=.tuple #[.pointer none,.bool false]) (by simp [results,Tryz.results58,go_sem]) rfl ⟨HB1.out,.inl ⟨HN.out,rfl⟩⟩
end Go.Proofs.YtajkkeikihhejaaGreat
