/- The program's question of a node, whatever it is; does a fact hold by its relation's whole? -/
import Derived.Test.YtdmniljjnaebbaaGreatDoorSq
import Derived.Test.YtdmniljjnaebbaaGreatDoorJ26
import Derived.Test.YtdmniljjnaebbaaGreatDoorInQ
open Go.Proofs.Tryz
set_option maxHeartbeats 80000000
namespace Go.Proofs.YtdmniljjnaebbaaGreatDoor
set_option linter.unusedVariables false
set_option maxRecDepth 100000
open Go.ChangeShapes Go.WideShapes Go.ChangeAt Go.RowKit Go.Maps
open Pl
theorem IA {e:Ex} (h:az e=true):(e.kind=2→e.name.size≤maxLen)∧(e.kind=3→e.over.size≤maxLen∧e.name.size≤maxLen)∧(e.kind=1 ∨ e.kind=2 ∨ e.kind=3 ∨ e.kind=4 ∨ e.kind=5 ∨ e.kind=6):=by
 unfold az at h;have hle:∀ s:ByteArray,aR s=true→s.size≤maxLen:=fun s hs=>by have:=(lW hs).2; unfold maxLen; omega
 by_cases k1:e.kind=1
 ·exact ⟨fun h2=>by omega,fun h3=>by omega,.inl k1⟩
 by_cases k2:e.kind=2
 ·rw [if_neg k1,if_pos k2] at h; simp only [Sn] at h; exact ⟨fun _=>hle _ h.1.1.1,fun h3=>by omega,.inr (.inl k2)⟩
 by_cases k3:e.kind=3
 ·rw [if_neg k1,if_neg k2,if_pos k3] at h; simp only [Sn] at h; exact ⟨fun h2=>by omega,fun _=>⟨hle _ h.1.1.1,hle _ h.1.1.2⟩,.inr (.inr (.inl k3))⟩
 refine ⟨fun h2=>absurd h2 k2,fun h3=>absurd h3 k3,?_⟩;by_cases k4:e.kind=4 ∨ e.kind=5
 ·rcases k4 with k4 | k4
  ·exact .inr (.inr (.inr (.inl k4)))
  exact .inr (.inr (.inr (.inr (.inl k4))))
 by_cases k6:e.kind=6
 ·exact .inr (.inr (.inr (.inr (.inr k6))))
 rw [if_neg k1,if_neg k2,if_neg k3,if_neg k4,if_neg k6] at h; cases h
section
variable {rs:List TR} {D br bp bt bK nK:Nat} {n1:Int} {nr:Nat} {Mr:KL→Option Value} {Er:List (KL × RR)} {ts:List Tp} {xo xu:List Al} {np:Nat} {Mp:K3→Option Value} {vo vu:Value} {out:List Fc} {f:Fc} {Tm:Option Addr} {capE:Nat} {rows:List ER}
theorem qD (hN:Vt rows) (hnb:∀ e ∈ ai rows,az e=true) (hf:f.fits) (hts:∀ t ∈ ts,t.fits) (htl:ts.length≤1000) :
  ∀ (k n:Nat) (w:World),n < k→n < rows.length→DatA w rs D br bp bt n1 nr Mr Er (dm ts) xo xu np Mp vo vu→aJ jJ prog 63 w bK nK (vS out)→fQ w Tm rows →
  Calls prog 175 #[.pointer (some ⟨D,0,none⟩),.slice Tm rows.length capE,.int .i64 (n:Int),.agg #[.string f.a,.string f.b,.string f.r,.string f.c,.string f.d],.map (some bK)] w fun e w'=>e=.returned (.bool (iX ts (ai rows) out f k out n))∧aa w w'
 | 0,_,_,h,_,_,_,_=>absurd h (SV _)
 | k + 1,n,w,hk,hn,hD,hK,hex=>by
  have e:(ai rows)[n]?=some rows[n].e:=by simp [ai,hn]
  have VK:∀ i ∈ rows[n].e.kids,Iq D (.slice Tm rows.length capE) f bK w i (iX ts (ai rows) out f k out i.toNat):=fun i hi w1 hb1=>by
   have h1:=hN.kid hn hi;have h2:=qD hN hnb hf hts htl k i.toNat w1 (by omega) (by omega) (hD.below hb1) (hK.below hb1) (hex.below hb1);have e2:((i.toNat:Nat):Int)=i:=by omega
   rw [e2] at h2;exact h2
  have hm:rows[n] ∈ rows:=Sd hn;have hme:rows[n].e ∈ ai rows:=Sy.2 ⟨_,hm,rfl⟩;obtain ⟨hn2,WL,hkd⟩:=IA (hnb _ hme);unfold iX;rw [e];by_cases k1:rows[n].e.kind=1
  ·simp only [if_pos k1];exact KX hn hD hK hf hts htl hex hN.len k1
  by_cases k2:rows[n].e.kind=2
  ·simp only [if_neg k1,if_pos k2];exact NH hn hK hf (hn2 k2) hex hN.len k2
  by_cases k3:rows[n].e.kind=3
  ·simp only [if_neg k1,if_neg k2,if_pos k3];exact KY hn hD hK hf (WL k3) hts htl hex hN.len k3
  by_cases k4:rows[n].e.kind=4
  ·simp only [if_neg k1,if_neg k2,if_neg k3,if_pos k4];exact Iz hn (fun i=>iX ts (ai rows) out f k out i.toNat) (hN.kids _ hm) VK hex hN.len k4
  by_cases k5:rows[n].e.kind=5
  ·simp only [if_neg k1,if_neg k2,if_neg k3,if_neg k4,if_pos k5];exact KZ hn (fun i=>iX ts (ai rows) out f k out i.toNat) (hN.kids _ hm) VK hex hN.len k5
  have k6:rows[n].e.kind=6:=by omega
  simp only [if_neg k1,if_neg k2,if_neg k3,if_neg k4,if_neg k5,if_pos k6];have h2:=hN.two _ hme k6;have hg:∀ q,q < 2→rows[n].e.kids.getD q 0 ∈ rows[n].e.kids:=fun q hq=>by
   rw [List.getD_eq_getElem?_getD,Sw (by omega)];exact Sd _
  exact NI hn _ _ (hN.kids _ hm) h2 (VK _ (hg 0 (by omega))) (VK _ (hg 1 (by omega))) hex hN.len k6
theorem Ps {rs:List TR} (h:bq (ag rs)=true) {k:ByteArray × ByteArray} (hk:k ∈ ak (ag rs)):∃ t ∈ rs,∃ q ∈ t.rows,qo rs k=some q.sl∧ai q.rows=aH (ag rs) k.1 k.2∧aY (ai q.rows)=true:=by
 have hk':=hk;unfold ak at hk;obtain ⟨T,hT,hk⟩:=SB.1 hk;obtain ⟨t,ht,rfl⟩:=Sy.1 hT;unfold jd at hk;obtain ⟨r,hr,rfl⟩:=Sy.1 hk;obtain ⟨q,hq,rfl⟩:=Sy.1 hr;have hrel:=nW h ht hq;cases e:qo rs (t.p.name,q.p.name) with
 | none =>
  have h1:=(ut h).no _ e;have h2:fC (ag rs) t.name q.name=none:=h1;rw [hrel] at h2; cases h2
 | some v =>
  obtain ⟨t',ht',q',hq',-,rfl,e1,-⟩:=(ut h).yes _ v e;refine ⟨t',ht',q',hq',rfl,?_,((bR h).2.2 t' ht' q' hq').1⟩;unfold aH; rw [e1]; rfl
theorem K4 {w:af} {ad:Option Addr} (hD:DatA w rs D br bp bt n1 nr Mr Er (dm ts) xo xu np Mp vo vu) (hK:aJ jJ prog 63 w bK nK (vS out)) (hf:f.fits) (hts:∀ t ∈ ts,t.fits) (htl:ts.length≤1000) (hsh:bq (ag rs)=true) (hkey:(f.a,f.r) ∈ ak (ag rs)) (hs:iN w ad rs) :
  Calls prog 134 #[.pointer (some ⟨D,0,none⟩),.agg #[.string f.a,.string f.b,.string f.r,.string f.c,.string f.d],.map (some bK)] w fun e w'=>e=.returned (.bool (ib (ag rs) ts out f))∧aa w w':=by
 obtain ⟨t,htm,q,hq,htab,hrx,hsp⟩:=Ps hsh hkey;obtain ⟨hN,hr1⟩:=Jq hsp;have hnb:=iE hsp;have TP:oo rs q.ad q.rows:=.inr ⟨t,htm,q,hq,rfl,rfl⟩;obtain ⟨kl,hkl⟩:=jB (f.a,f.r) hf.1 hf.2.2.1;obtain ⟨W0,hW0⟩:∃ W0,W0=w.alloc (.cells #[.string f.a,.string f.b,.string f.r,.string f.c,.string f.d] 63):=⟨_,rfl⟩;have HB0:=mY hW0;have c0:W0.cell? ⟨w.heap.size,0,none⟩=some (.string f.a):=by rw [hW0]; simp
 have c1:W0.cell? ⟨w.heap.size,1,none⟩=some (.string f.b):=by rw [hW0]; simp
 have c2:W0.cell? ⟨w.heap.size,2,none⟩=some (.string f.r):=by rw [hW0]; simp
 have c3:W0.cell? ⟨w.heap.size,3,none⟩=some (.string f.c):=by rw [hW0]; simp
 have c4:W0.cell? ⟨w.heap.size,4,none⟩=some (.string f.d):=by rw [hW0]; simp
 have d0:=HB0.out.cell (p:=⟨D,0,none⟩) hD.dat.lt |>.trans hD.dat.c0;obtain ⟨Tm,WK⟩:∃ a,a=q.ad:=⟨_,rfl⟩;obtain ⟨capE,hcapE⟩:∃ a,a=q.cap:=⟨_,rfl⟩;obtain ⟨rows,hrows⟩:∃ a,a=q.rows:=⟨_,rfl⟩;have hsl:q.sl=.slice Tm rows.length capE:=by rw [WK,hcapE,hrows]; rfl
 rw [← hrows] at hN hnb hr1 hrx;rw [← hrows,← WK] at TP;have hlk:∀ m,(Instr.lookup 127 (.map (some bt)) (.agg #[.string f.a,.string f.r]) false).run prog (W0.drewN m)=.ok (.slice Tm rows.length capE) (W0.drewN m):=fun m=>by
  have h:=((hD.tab.below HB0.out).below (below_drewN (Si _ _) m)).look (t:=127) (e:=120) ig underlying127 (pW _) (x:=(f.a,f.r)) hkl;rw [htab,hsl] at h;exact h
 have hr1000:=hN.len;have hwr:IntKind.i64.wrap ((rows.length:Int) - 1)=((rows.length - 1:Nat):Int):=by rw [IntKind.wrap_i64]; omega
 have HC:Hid (∀ nq,Calls prog 175 #[.pointer (some ⟨D,0,none⟩),.slice Tm rows.length capE,.int .i64 ((rows.length - 1:Nat):Int),.agg #[.string f.a,.string f.b,.string f.r,.string f.c,.string f.d],.map (some bK)] (W0.drewN nq) fun e w'=>e=.returned (.bool (ib (ag rs) ts out f))∧Below (W0.drewN nq).heap.size (W0.drewN nq) w'):=fun nq=>by
  have hb:aa w (W0.drewN nq):=below_drewN HB0.out nq;have h:=qD (capE:=capE) hN hnb hf hts htl rows.length (rows.length - 1) (W0.drewN nq) (by omega) (by omega) (hD.below hb) (hK.below hb) (TP.sl (hs.below hb));unfold ib;rw [← hrx,aS];exact h
 clear hD hK hs hsp hkl htab hsl hN hnb hf WK hcapE hrows TP hrx hkey;go_enter func134,ntmps134;go_wp2_with fail;rw [← hW0];clear hW0;go_quiet (fail);clear d0 hlk;go_wp2_with fail;refine (HC.out _).mono ?_;rintro e w1 ⟨rfl,hb1⟩;have HB1:=aj ((below_drewN HB0.out _).trans (hb1.mono HB0.out.size));clear hb1 c0 c1 c2 c3 c4;go_wp2;go_ret;exact ⟨rfl,HB1.out⟩
end
end Go.Proofs.YtdmniljjnaebbaaGreatDoor
namespace Go.Proofs.YtdmniljjnaebbaaGreatDoor
set_option linter.unusedVariables false
set_option maxRecDepth 100000
open Go.ChangeShapes Go.WideShapes Go.ChangeAt Go.RowKit Go.Maps Go.Shelf
open Pl
attribute [local go_sem] Oper.semAt_some
theorem IB {n m:Nat} {P:Program} {l:Nat} {f:FuncId} {tmps:Array Value} {assign body:Code} {w:af} {R:Ending→World→Prop} (h:RoundIn Fence.wide n P l f tmps assign body w R):RoundIn Fence.wide m P l f tmps assign body w R :=
 ⟨h.1,fun c cs _=>h.2 c cs (room_wide _)⟩
theorem zD (D:Nat) (sn:Int) (Ua:Option Addr) (nU Tw:Nat) (w:af) :
  Calls prog 133 #[.pointer (some ⟨D,0,none⟩),.int .i64 sn,.slice Ua nU Tw] w fun e w'=>e=.returned (.func (.func 174) #[] #[.pointer (some ⟨w.heap.size,0,none⟩),.pointer (some ⟨w.heap.size + 1,0,none⟩),.pointer (some ⟨w.heap.size + 1 + 1,0,none⟩)])∧w'=((w.alloc (.cells #[.pointer (some ⟨D,0,none⟩)] 107)).alloc (.cells #[.int .i64 sn] 2)).alloc (.cells #[.slice Ua nU Tw] 139):=by
 go_enter func133,ntmps133;go_wp2;go_ret;exact ⟨rfl,rfl⟩
theorem Dm (D:Nat) (sn:Int) (Ua:Option Addr) (nU Tw:Nat) (bK:Nat) (w:af) :
  Calls prog 96 #[.pointer (some ⟨D,0,none⟩),.int .i64 sn,.slice Ua nU Tw,.map (some bK)] w fun e w'=>e=.returned (.func (.func 132) #[] #[.pointer (some ⟨w.heap.size,0,none⟩),.pointer (some ⟨w.heap.size + 1,0,none⟩),.pointer (some ⟨w.heap.size + 1 + 1,0,none⟩),.pointer (some ⟨w.heap.size + 1 + 1 + 1,0,none⟩)])∧w'=(((w.alloc (.cells #[.pointer (some ⟨D,0,none⟩)] 107)).alloc (.cells #[.int .i64 sn] 2)).alloc (.cells #[.slice Ua nU Tw] 139)).alloc (.cells #[.map (some bK)] 114):=by
 go_enter func96,ntmps96;go_wp2;go_ret;exact ⟨rfl,rfl⟩
structure NewM (W:World) (rs:List TR) (adS:Option Addr) (D br bp bt:Nat) (n1:Int) (nr:Nat) (Mr:KL→Option Value) (Er:List (KL × RR)) (ts:List Tp) (xo xu:List Al) (np:Nat) (Mp:K3→Option Value) (vo vu:Value) (bK:Nat) (out:List Fc) (hD hS hU hK:Nat) (sn:Int) (Ua:Option Addr) (Tw:Nat) (us:List Al):Prop where
 dat:DatA W rs D br bp bt n1 nr Mr Er (dm ts) xo xu np Mp vo vu
 sch:iN W adS rs
 map:∃ nK,aJ jJ prog 63 W bK nK (vS out)
 bD:W.cell? ⟨hD,0,none⟩=some (.pointer (some ⟨D,0,none⟩))
 bS:W.cell? ⟨hS,0,none⟩=some (.int .i64 sn)
 bU:W.cell? ⟨hU,0,none⟩=some (.slice Ua us.length Tw)
 bM:W.cell? ⟨hK,0,none⟩=some (.map (some bK))
 users:gP W Ua us
def QT (l:Nat):Value:=.func (.yield l) #[] #[]
def fO (W:World) (g:Nat) (v:Value) (T:TypeId):Prop:=W.heap[g]?=some (.cells #[v] T (0,0))
theorem fO.c {W:af} {g:Nat} {v:Value} {T:TypeId} (h:fO W g v T):W.cell? ⟨g,0,none⟩=some v:=by
 unfold fO at h;simp [World.cell?,h]
theorem fO.kp {b l:Nat} {W W':af} {g:Nat} {v:Value} {T:TypeId} (h:fO W g v T) (hk:KpO b l W W') (h1:T ≠ 63) (h2:T ≠ 33):fO W' g v T:=hk.cells g _ _ _ h h1 h2
theorem fO.bel {W W':af} {g:Nat} {v:Value} {T:TypeId} (h:fO W g v T) (hb:aa W W'):fO W' g v T:=(hb.block g (Array.getElem?_eq_some_iff.1 h).1).trans h
structure NBx (W:World) (B l D:Nat) (sn:Int) (vU:Value):Prop where
 y:fO W B (QT l) 116
 d:fO W (B + 1) (.pointer (some ⟨D,0,none⟩)) 107
 s:fO W (B + 1 + 1) (.int .i64 sn) 2
 u:fO W (B + 1 + 1 + 1) vU 139
theorem NBx.kp {b l0:Nat} {W W':af} {B l D:Nat} {sn:Int} {vU:Value} (h:NBx W B l D sn vU) (hk:KpO b l0 W W'):NBx W' B l D sn vU :=
 ⟨h.y.kp hk (by decide) (by decide),h.d.kp hk (by decide) (by decide),h.s.kp hk (by decide) (by decide),h.u.kp hk (by decide) (by decide)⟩
theorem NBx.bel {W W':af} {B l D:Nat} {sn:Int} {vU:Value} (h:NBx W B l D sn vU) (hb:aa W W'):NBx W' B l D sn vU:=⟨h.y.bel hb,h.d.bel hb,h.s.bel hb,h.u.bel hb⟩
theorem Pv {β:Type} {B0 B l D:Nat} {sn:Int} {vU:Value} (hB:B + 1 + 1 + 1 < B0):OwnFrom B0 (fun (_:β) W=>NBx W B l D sn vU):=fun s X Y row hs hg hr=>by
 have key:∀ g v T,g < B0→fO X g v T→fO Y g v T:=fun g v T hl h=>(hg.block g (Array.getElem?_eq_some_iff.1 h).1 fun e=>by have:=(hr g e.symm).1; omega).trans h;exact ⟨key _ _ _ (by omega) hs.y,key _ _ _ (by omega) hs.d,key _ _ _ (by omega) hs.s,key _ _ _ (by omega) hs.u⟩
def Aq (W:World) (g:Nat) (x:Fc):Prop:=W.heap[g]?=some (.cells #[.string x.a,.string x.b,.string x.r,.string x.c,.string x.d] 63 (0,0))
theorem Aq.c {W:af} {g:Nat} {x:Fc} (h:Aq W g x):W.cell? ⟨g,0,none⟩=some (.string x.a)∧W.cell? ⟨g,1,none⟩=some (.string x.b)∧W.cell? ⟨g,2,none⟩=some (.string x.r)∧W.cell? ⟨g,3,none⟩=some (.string x.c)∧W.cell? ⟨g,4,none⟩=some (.string x.d)∧g < W.heap.size:=by
 have hl:=(Array.getElem?_eq_some_iff.1 h).1;unfold Aq at h;exact ⟨by simp [World.cell?,h],by simp [World.cell?,h],by simp [World.cell?,h],by simp [World.cell?,h],by simp [World.cell?,h],hl⟩
theorem Aq.bel {W W':af} {g:Nat} {x:Fc} (h:Aq W g x) (hb:aa W W'):Aq W' g x:=(hb.block g (Array.getElem?_eq_some_iff.1 h).1).trans h
theorem FM {B0 g:Nat} {x:Fc}:OwnFrom B0 (fun (_:Unit) W=>Aq W g x):=fun s X Y row hs hg hr=>by
 refine (hg.block g (Array.getElem?_eq_some_iff.1 hs).1 fun e=>?_).trans hs;obtain ⟨-,o,ho,hc⟩:=hr g e.symm;rw [show X.heap[g]?=_ from hs] at ho;cases ho; cases hc
theorem NJ {l' m:Nat} {P:Program} {f:FuncId} {args:Array Value} {w:af} {R:Ending→World→Prop} (h:Calls P f args w R):CallsIn (Fence.wide.inRound l') m P f args w R:=(callsIn_wide (n:=m)).2 h
theorem QU {l' n m:Nat} {P:Program} {l:Nat} {f:FuncId} {tmps:Array Value} {assign body:Code} {w:af} {R:Ending→World→Prop} (h:RoundIn Fence.wide n P l f tmps assign body w R):RoundIn (Fence.wide.inRound l') m P l f tmps assign body w R:=IB (m:=m) h
theorem vW {B:Nat} {W W':af} (h:aa W W'):KeepsFrom B W W':=⟨h.size,fun k o _ hk _=>(h.block k (Array.getElem?_eq_some_iff.1 hk).1).trans hk⟩
theorem NK {B b l:Nat} {W W':af} (h:KpO b l W W') (hl:l < B) (hb:b < B):KeepsFrom B W W':=⟨h.size,fun k o hB hk hc=>h.other k o hk hc (by omega) (by omega)⟩
theorem FN {rs:List TR} {st:ByteArray × ByteArray→Int} {xo us:List Al} {sn:Int} {x:Fc} (hof:∀ o ∈ xo,o.t.size≤maxLen∧o.s.size≤maxLen) (huf:∀ o ∈ us,o.t.size≤maxLen∧o.s.size≤maxLen) (hrf:∀ k ∈ ak (ag rs),k.2.size≤maxLen) (h:x ∈ cB (ag rs) st xo us sn):(x.a,x.r) ∈ ak (ag rs)∧x.fits:=by
 unfold cB wC at h;obtain ⟨o,ho,h⟩:=SB.1 h;obtain ⟨k,hk,h⟩:=SB.1 h;obtain ⟨u,hu,rfl⟩:=Sy.1 h;obtain ⟨h1,h2⟩:=SX.1 hk;rw [Sn,dY] at h2;have e:(o.t,k.2)=k:=Prod.ext h2.1.symm rfl;refine ⟨?_,(hof o ho).1,(hof o ho).2,hrf k h1,(huf u hu).1,(huf u hu).2⟩;show (o.t,k.2) ∈ _;rw [e]; exact h1
theorem K5 [DecidableEq Fc] (n:Nat) (hn:4≤n) (rs:List TR) (adS:Option Addr) (D br bp bt:Nat) (n1:Int) (nr:Nat) (Mr:KL→Option Value) (st:ByteArray × ByteArray→Int) (ts:List Tp) (U1:Option Addr) (UG:Nat) (xo xu:List Al) (np:Nat) (Mp:K3→Option Value) (vu:Value) (bK:Nat) (Uw:List Fc) (hD hS hU hK:Nat) (sn:Int) (Ua:Option Addr) (Tw:Nat) (us:List Al) (w0:af) (hs0:0≤sn) (hs1:sn≤1000) (hol:xo.length≤1000) (XV:us.length≤1000) (hrl:∀ k,(G.lookL (dU st rs) k).length≤1000) (hsh:bq (ag rs)=true) (hts:∀ t ∈ ts,t.fits) (htl:ts.length≤1000) (hof:∀ o ∈ xo,o.t.size≤maxLen∧o.s.size≤maxLen) (huf:∀ o ∈ us,o.t.size≤maxLen∧o.s.size≤maxLen) (hrf:∀ k ∈ ak (ag rs),k.2.size≤maxLen) :
  Cj Fence.wide n prog 132 #[.pointer (some ⟨hD,0,none⟩),.pointer (some ⟨hS,0,none⟩),.pointer (some ⟨hU,0,none⟩),.pointer (some ⟨hK,0,none⟩)] BR (KpO bK) (fun pre W=>NewM W rs adS D br bp bt n1 nr Mr (dU st rs) ts xo xu np Mp (.slice U1 xo.length UG) vu bK (Uw ++ pre) hD hS hU hK sn Ua Tw us) (fun pre x=>x ∈ cB (ag rs) st xo us sn∧x ∉ Uw ++ pre) (fun xs=>bI (ib (ag rs) ts) (cB (ag rs) st xo us sn) Uw=Uw ++ xs) w0:=by
 intro l J W _ hlW _ hJ hT hY h0;have hM:=hT _ _ h0;obtain ⟨nK0,hmap0⟩:=hM.map;have Zq:=hmap0.lt;have bD:=hM.bD;have bS:=hM.bS;have bU:=hM.bU;have lD:=aC bD;have lS:=aC bS;have lU:=aC bU;obtain ⟨W1,hW1⟩:∃ W1,W1=W.alloc (.cells #[.func (.yield l) #[] #[]] 116):=⟨_,rfl⟩;have hB1:aa W W1:=by rw [hW1]; exact (Si _ _).alloc (Sj _) _
 have s1:W1.heap.size=W.heap.size + 1:=by rw [hW1,World.size_alloc]
 have y1:fO W1 W.heap.size (QT l) 116:=by rw [hW1]; exact World.alloc_heap_new W _
 have bD1:=aO hB1 lD bD;have bS1:=aO hB1 lS bS;have bU1:=aO hB1 lU bU;clear hM hmap0;refine callsIn_of_wp_marks func132 rfl trivial ?_ rfl;simp only [ntmps132,List.size_toArray,List.length_cons,List.length_nil,Nat.reduceAdd,Nat.reduceSub,Array.replicate_succ,Array.replicate_zero,List.push_toArray,List.append_toArray,List.nil_append,List.cons_append]
 gi_wp2_with fail
 rw [← hW1];clear hW1;refine ⟨trivial,fun _=>by omega,(callsIn_wide.2 (zD D sn Ua us.length Tw W1)).mono ?_⟩;rintro e W2 ⟨rfl,hW2⟩;have hB2:aa W1 W2:=by rw [hW2]; exact (((Si _ _).alloc (Sj _) _).alloc (by simp) _).alloc (by simp; omega) _
 have s2:W2.heap.size=W.heap.size + 1 + 1 + 1 + 1:=by rw [hW2,World.size_alloc,World.size_alloc,World.size_alloc,s1]
 have NB:NBx W2 W.heap.size l D sn (.slice Ua us.length Tw):=by
  obtain ⟨V1,e1⟩:∃ V,V=W1.alloc (.cells #[.pointer (some ⟨D,0,none⟩)] 107):=⟨_,rfl⟩;obtain ⟨V2,e2⟩:∃ V,V=V1.alloc (.cells #[.int .i64 sn] 2):=⟨_,rfl⟩;rw [← e1,← e2] at hW2;have t1:V1.heap.size=W.heap.size + 1 + 1:=by rw [e1,World.size_alloc,s1]
  have t2:V2.heap.size=W.heap.size + 1 + 1 + 1:=by rw [e2,World.size_alloc,t1]
  have f1:aa W1 V1:=by rw [e1]; exact (Si _ _).alloc (Sj _) _
  have f2:aa V1 V2:=by rw [e2]; exact (Si _ _).alloc (Sj _) _
  have f3:aa V2 W2:=by rw [hW2]; exact (Si _ _).alloc (Sj _) _
  have g1:fO V1 (W.heap.size + 1) (.pointer (some ⟨D,0,none⟩)) 107:=by rw [e1,← s1]; exact World.alloc_heap_new W1 _
  have g2:fO V2 (W.heap.size + 1 + 1) (.int .i64 sn) 2:=by rw [e2,← t1]; exact World.alloc_heap_new V1 _
  have g3:fO W2 (W.heap.size + 1 + 1 + 1) (.slice Ua us.length Tw) 139:=by rw [hW2,← t2]; exact World.alloc_heap_new V2 _
  exact ⟨((y1.bel f1).bel f2).bel f3,(g1.bel f2).bel f3,g2.bel f3,g3⟩
 have hB02:aa W W2:=hB1.trans (hB2.mono hB1.size);have J2:=lc hJ h0 hB02;rw [s1];clear hW2 y1 bD bS bU bD1 bS1 bU1 hB1 hB2 lD lS lU;gi_wp2
 refine oN (α:=Fc) rfl (by omega) (gf:=174) (lb:=#[.pointer (some ⟨W.heap.size + 1,0,none⟩),.pointer (some ⟨W.heap.size + 1 + 1,0,none⟩),.pointer (some ⟨W.heap.size + 1 + 1 + 1,0,none⟩)]) rfl trivial (enters_of func174 (by kernel_rfl) rfl)
  (NA (n - 1) (by omega) D br nr Mr st rs U1 UG xo (W.heap.size + 1) (W.heap.size + 1 + 1) (W.heap.size + 1 + 1 + 1) sn Ua Tw us W2 hs0 hs1 hol XV hrl (fun o ho=>(hof o ho).1)) (Si _ _) (fun _=>rfl) (fun h k=>h.trans k) (fun X lx o o' h1 h2=>KpI.put h1 h2)
  (fun pre X=>(∃ xs,bI (ib (ag rs) ts) pre Uw=Uw ++ xs∧J xs X)∧NBx X W.heap.size l D sn (.slice Ua us.length Tw))
  ?own ?tell ⟨⟨[],by rw [List.append_nil]; rfl,J2⟩,NB⟩
  (fun x a' X=>∃ Bx,Aq X Bx x∧a'={ tmps:=#[.func (.yield l) #[] #[],.pointer (some ⟨hD,0,none⟩),.pointer (some ⟨hS,0,none⟩),.pointer (some ⟨hU,0,none⟩),.pointer (some ⟨hK,0,none⟩),.pointer (some ⟨W.heap.size,0,none⟩),.pointer (some ⟨Bx,0,none⟩),.pointer (some ⟨D,0,none⟩),.int .i64 sn,.slice Ua us.length Tw,.func (.func 174) #[] #[.pointer (some ⟨W.heap.size + 1,0,none⟩),.pointer (some ⟨W.heap.size + 1 + 1,0,none⟩),.pointer (some ⟨W.heap.size + 1 + 1 + 1,0,none⟩)],.agg #[.string x.a,.string x.b,.string x.r,.string x.c,.string x.d],undef,undef,undef,undef,undef,undef,undef,undef,undef,undef,undef,undef,undef,undef,undef,undef],defers:=[] })
  (fun x a' s X Y row hs hg hr=>by obtain ⟨Bx,h,e⟩:=hs; exact ⟨Bx,FM (B0:=W2.heap.size) (g:=Bx) (x:=x) () X Y row h hg hr,e⟩) ?assign ?body ?done
 case own =>
  refine OwnFrom.and (fun pre X Y row hs hg hr=>?_) (Pv (by omega));obtain ⟨xs,h1,h2⟩:=hs;exact ⟨xs,h1,hJ xs X Y row h2 hg fun r e=>⟨by have:=(hr r e).1; have:=hB02.size; omega,(hr r e).2⟩⟩
 case tell =>
  rintro pre X ⟨⟨xs,h1,h2⟩,hb⟩;have hm:=hT _ _ h2;obtain ⟨Ti,cap',e,hso⟩:=jG hm.dat.dat.objs;injection e with ea eb ec;exact ⟨hm.dat.dat.c2,hm.dat.dat.c4,by rw [ea]; exact hso,hm.dat.rel,hb.d.c,hb.s.c,hb.u.c,hm.users⟩
 case assign =>
  rintro l' pre x X K ⟨⟨xs,h1,h2⟩,hb⟩ hKK;unfold BR;gi_wp2;have hbl:aa X (X.alloc (.cells #[.string x.a,.string x.b,.string x.r,.string x.c,.string x.d] 63)):=(Si _ _).alloc (Sj _) _;exact hKK _ _ ((KeepsOthers.alloc _ _).from _) (KpI.below hbl) ⟨⟨xs,h1,lc hJ h2 hbl⟩,hb.bel hbl⟩ ⟨X.heap.size,World.alloc_heap_new X _,rfl⟩
 case body =>
  rintro l' pre x a' X hl hEx ⟨⟨xs,hrun,hJx⟩,NBX⟩ ⟨Bx,bX,rfl⟩;have hm:=hT _ _ hJx;obtain ⟨nK,hmap⟩:=hm.map;obtain ⟨c0,c1,c2,c3,c4,cl⟩:=bX.c;have bM:=hm.bM;have lM:=aC bM;obtain ⟨hkey,Xw⟩:=FN hof huf hrf hEx
  gi_wp2_with fail
  refine ⟨trivial,fun _=>by omega,(NJ (pE bK nK (Uw ++ xs) x X Xw hmap)).mono ?_⟩;rintro e X2 ⟨rfl,hb2⟩;have J2':=lc hJ hJx hb2;have NB2:=NBX.bel hb2;cases hh:dG (Uw ++ xs) x;case true=>
   have hr2:bI (ib (ag rs) ts) (pre ++ [x]) Uw=Uw ++ xs:=by rw [qh,hrun,sW (.inl hh)]
   clear c0 c1 c2 c3 c4 cl bM lM hm;gi_wp2;refine ⟨trivial,?_⟩;gi_wp2;refine ⟨fun f h=>(by cases h),?_⟩;gi_wp2;exact ⟨vW hb2,KpI.below hb2,⟨xs,hr2,J2'⟩,NB2⟩
  have bX2:=bX.bel hb2;have hm2:=hT _ _ J2';obtain ⟨nK2,hmap2⟩:=hm2.map;have bM2:=hm2.bM;have bD2:=hm2.bD;obtain ⟨d0,d1,d2,d3,d4,dl⟩:=bX2.c;clear c0 c1 c2 c3 c4 cl bM lM hm
  gi_wp2_with fail
  refine ⟨trivial,fun _=>by omega,(NJ (K4 hm2.dat hmap2 Xw hts htl hsh hkey hm2.sch)).mono ?_⟩;rintro e X3 ⟨rfl,hb3⟩;have Ux:aa X X3:=hb2.trans (hb3.mono hb2.size);have J3':=lc hJ J2' hb3;have NB3:=NB2.bel hb3;clear hm2;cases hv:ib (ag rs) ts (Uw ++ xs) x;case false=>
   have hr2:bI (ib (ag rs) ts) (pre ++ [x]) Uw=Uw ++ xs:=by rw [qh,hrun,sW (.inr hv)]
   clear d0 d1 d2 d3 d4 dl bM2 bD2;gi_wp2;refine ⟨fun f h=>(by cases h),?_⟩;gi_wp2;exact ⟨vW Ux,KpI.below Ux,⟨xs,hr2,J3'⟩,NB3⟩
  have hr2:bI (ib (ag rs) ts) (pre ++ [x]) Uw=Uw ++ (xs ++ [x]):=by rw [qh,hrun,BV hh hv,List.append_assoc]
  obtain ⟨fn,tmps,assign,body,hy,hR⟩:=hY xs x X3 J3' ⟨hEx,fun hm=>by rw [jI.2 hm] at hh; cases hh⟩;unfold BR at hy;obtain ⟨f0,f1,f2,f3,f4,fl⟩:=(bX2.bel hb3).c;have yc:=NB3.y.c;have yl:=aC yc;unfold QT at yc;clear d0 d1 d2 d3 d4 dl bM2 bD2;gi_wp2;refine ⟨fun _=>by omega,(QU hR).mono ?_⟩;rintro e X4 ⟨rfl,hJ4,hK4⟩;have hk24:KpO bK l X X4:=(KpO.below Ux).trans hK4;have NB4:=NB3.kp hK4;clear f0 f1 f2 f3 f4 fl yc yl hy;gi_wp2;exact ⟨NK hk24 (by omega) (by omega),hk24.toI,⟨xs ++ [x],hr2,hJ4⟩,NB4⟩
 case done =>
  rintro Dd ys X hDd hS ⟨⟨xs,h1,h2⟩,-⟩ hKd;rw [hS] at h1;gi_wp2;refine ⟨by simp,.inl ⟨_,_,rfl,run_takeDeferred hKd,?_⟩⟩;exact ⟨_,results_none rfl _ _ _,⟨_,rfl⟩,xs,h1,hJ.putObj _ h2 (by have:=hB02.size; omega) hKd rfl⟩
end Go.Proofs.YtdmniljjnaebbaaGreatDoor
