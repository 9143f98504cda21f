/- The library's Reverse over a row of facts. -/
import Derived.Test.YtdaoiceeidoehaaGreatShelfR
import Derived.Sort.Grow
import Derived.Shelf.SlSortCmp.InsertionK
import Derived.OrdersIn
import Derived.Test.YtdaoiceeidoehaaGreatNdPl
open Go.Proofs.Tryz
set_option maxHeartbeats 80000000
namespace Go.Proofs.YtdaoiceeidoehaaGreat
set_option maxRecDepth 100000
set_option linter.unusedVariables false
open Go.ChangeShapes Go.WideShapes Go.ChangeAt Go.RowKit Go.Maps Go.Shelf Go.Sort
open Pl
theorem N9 [Inhabited Fc] (w:World) (blk off n:Nat) (d:Array Fc) (os:Array Obj):Chg (fun g=>g=blk) w (sortWorldK Fc.row 5 w blk off n d os):=by
 refine ⟨⟨rfl,rfl,rfl,?_,fun k hk=>absurd hk (SE _)⟩,fun k hk hne=>?_,fun g hg hf j=>?_⟩
 ·simp [sortWorldK,grow,putRowK,Sort.ahead]
 ·simp only [sortWorldK,putRowK];rw [heap_grow_old _ _ (by simpa [Sort.ahead] using hk)];have hne:blk ≠ k:=fun e=>hne e.symm;simp [putRow,mapBlock,Sort.ahead,Array.getElem?_modify,hne]
 ·simp only [sortWorldK,putRowK];rw [frozen?_grow _ _ _ (by simpa [Sort.ahead] using hg),frozen?_putRow,frozen?_ahead];exact hf j
theorem FK [Inhabited Fc] {w:World} {base g cap:Nat} {xs:List Fc} (h:w.ownsRow base 42 5 (.slice (some ⟨g,0,none⟩) xs.length cap) xs.length (au xs)):HoldsK Fc.row 5 w g 0 xs.toArray:=by
 intro t ht;rw [size_flatK] at ht;have ht':t < xs.length * 5:=by simpa using ht
 have hi:t / 5 < xs.length:=by omega
 have hr:t % 5 < 5:=Nat.mod_lt _ (by omega);refine ⟨?_,by rw [Su]; exact h.frozenAt t⟩;rw [Su,h.cellAt t ht',get_flatK _ _ _ _ ht];have e:t=t / 5 * 5 + t % 5:=by omega
 have h1:=oQ xs (t / 5) hi (t % 5) hr;rw [← e] at h1;rw [h1];have h2:(xs.toArray)[t / 5]! = xs[t / 5]:=by rw [getElem!_pos xs.toArray _ (by simpa using hi)]; simp
 rw [h2];have hl:t % 5 < (Fc.row xs[t / 5]).length:=hr;show _=some ((Fc.row xs[t / 5])[t % 5]!);rw [R8 hl,getElem!_pos (Fc.row xs[t / 5]) (t % 5) hl]
theorem QQ [Inhabited Fc] {w:World} {base g n cap:Nat} {xs ys:List Fc} (h0:w.ownsRow base 42 5 (.slice (some ⟨g,0,none⟩) n cap) n (au xs)) (hx:xs.length=n) (hl:ys.length=n) (m:Nat) (os:Array Obj):(sortWorldK Fc.row 5 w g 0 m ys.toArray os).ownsRow base 42 5 (.slice (some ⟨g,0,none⟩) n cap) n (au ys):=by
 subst hx;have hg:=(h0.lt g rfl).2;have hH:=holdsK_sortWorldK_c Fc.row 5 w g 0 xs.toArray ys.toArray m os (FK h0) hg (by simpa using hl);have hlen:(au ys).length=xs.length * 5:=by rw [jo,hl]
 refine ⟨hlen,.inr ?_⟩;rcases h0.2 with ⟨e,-⟩ | ⟨g',cap',cur,e,h1,h2,h3,h4,h5,-⟩
 ·cases e
 injection e with e1 e2 e3;injection e1 with e1; injection e1 with e1;subst e1; subst e3;have hb:(sortWorldK Fc.row 5 w g 0 m ys.toArray os).heap[g]?=some (.cells (putCells id 0 (flatK Fc.row 5 ys.toArray) cur) 42 (0,0)):=by
  simp only [sortWorldK,putRowK];rw [heap_grow_old _ _ (by simpa [Sort.ahead] using hg)];simp [putRow,mapBlock,Sort.ahead,Array.getElem?_modify,h2,onCells]
 refine ⟨g,cap,_,rfl,h1,hb,h3,h4,by simp only [putCells,Array.size_mapIdx]; exact h5,?_⟩;refine List.ext_getElem? fun j=>?_;by_cases hj:j < xs.length * 5
 ·rw [List.getElem?_take_of_lt hj];have hi:j / 5 < ys.length:=by omega
  have h6:=(hH j (by rw [size_flatK]; simpa [hl] using hj)).1;rw [Su,get_flatK _ _ _ _ (by simpa [hl] using hj)] at h6;replace h6:(sortWorldK Fc.row 5 w g 0 m ys.toArray os).cell? ⟨g,j,none⟩=some ((Fc.row (ys.toArray)[j / 5]!)[j % 5]!):=h6;have h7:(putCells id 0 (flatK Fc.row 5 ys.toArray) cur).toList[j]?=some ((Fc.row (ys.toArray)[j / 5]!)[j % 5]!):=by
   rw [← h6];simp [World.cell?,hb]
  rw [h7];have e:j=j / 5 * 5 + j % 5:=by omega
  have h8:=oQ ys (j / 5) hi (j % 5) (Nat.mod_lt _ (by omega));rw [← e] at h8;rw [h8];have h9:(ys.toArray)[j / 5]! = ys[j / 5]:=by rw [getElem!_pos ys.toArray _ (by simpa using hi)]; simp
  rw [h9];have hl2:j % 5 < (Fc.row ys[j / 5]).length:=Nat.mod_lt _ (by omega);show some ((Fc.row ys[j / 5])[j % 5]!)=_;rw [R8 hl2,getElem!_pos (Fc.row ys[j / 5]) (j % 5) hl2]
 ·rw [List.getElem?_eq_none (by rw [Sq]; omega),List.getElem?_eq_none (by omega)]
theorem Di (base g cap:Nat) (fs:List Fc) (w:World) (hR:w.ownsRow base 42 5 (.slice (some ⟨g,0,none⟩) fs.length cap) fs.length (au fs)) (hne:fs ≠ []) (h6:fs.length≤200000) :
  Calls prog 75 #[.slice (some ⟨g,0,none⟩) fs.length cap] w fun e w'=>e=.returned (.tuple #[])∧w'.ownsRow base 42 5 (.slice (some ⟨g,0,none⟩) fs.length cap) fs.length (au fs.reverse)∧Chg (fun k=>k=g) w w':=by
 obtain ⟨x0,hx0⟩:∃ x0:Fc,x0 ∈ fs:=List.exists_mem_of_ne_nil _ hne
 letI:Inhabited Fc:=⟨x0⟩
 have hs:=AnyQ.slices_Reverse Tryz.revF 5 Tryz.isAgg42 Tryz.sizeOf42 Fc.row (fun _=>rfl) (fun x v hv=>by simp [Fc.row] at hv; rcases hv with rfl | rfl | rfl | rfl | rfl <;> rfl) g 0 cap fs.toArray w (FK hR) (by simp; omega)
 change Calls prog 75 _ _ _ at hs
 refine hs.mono fun e w' ⟨he,n,hw⟩=>⟨he,?_,?_⟩
 ·have h:=QQ (ys:=fs.reverse) hR rfl (by simp) n #[];have e2:w'=sortWorldK Fc.row 5 w g 0 n fs.reverse.toArray #[]:=by rw [hw]; simp [sortWorldK,grow]
  rw [e2]; exact h
 ·have e2:w'=sortWorldK Fc.row 5 w g 0 n fs.reverse.toArray #[]:=by rw [hw]; simp [sortWorldK,grow]
  rw [e2]; exact N9 _ _ _ _ _ _
def nz (o:Oper):Bool:=match o.op with
 | .defer _=>false
 | _=>true
theorem IG {o:Oper} (h:nz o=true):∀ c,o.op ≠ .defer c:=fun c e=>by unfold nz at h; rw [e] at h; cases h
theorem lw {l n:Nat} {P:Program} {f:FuncId} {args:Array Value} {w:World} {R:Ending→World→Prop} (h:Calls P f args w R):CallsIn (Fence.wide.inRound l) n P f args w R:=(callsIn_wide (n:=n)).2 h
theorem Dj {l n:Nat} {P:Program} {row:String} {args:Array Value} {w:World} {R:Value→World→Prop} (h:Rows P row args w R):RowsIn (Fence.wide.inRound l) n P row args w R:=fun c cs _=>by
 obtain ⟨v,w',r,s⟩:=h c cs;exact ⟨v,w',r,stepsIn_wide.2 s⟩
section
variable {P:Program} {ops:Array Oper} {Q:Exit→Act→World→Prop} {md:Region.Mode} {l n:Nat}
theorem II {o:Oper} {a:Act} {w:World} {K:Act→World→Prop} (hd:nz o=true) (h:o.wp P a w K Q):o.wpIn (Fence.wide.inRound l) n P a w K Q:=by
 refine ⟨fun _ _=>trivial,?_⟩;rw [Fence.inRound_round,Oper.semAt_eq _ _ _ (IG hd)];unfold Oper.wp at h;generalize (execOp a.eval o).run P w=r at *
 cases r with
 | ok x w' =>
  cases x with
  | enter f args=>exact ⟨fun e=>(by cases e),lw h⟩
  | row r args=>exact ⟨fun e=>(by cases e),Dj h⟩
  | round l f t a b=>exact h.elim
  | _=>exact h
 | halt x w'=>cases x <;> exact h
theorem Dk {i:Nat} {K:Act→World→Prop} {a:Act} {w:World} (hd:∀ o ∈ ops,nz o=true) (hL:¬ LetsOut Q) (h:wpOp P ops Q i K a w):wpOpIn (Fence.wide.inRound l) n P ops Q i K a w:=by
 unfold wpOp at h;unfold wpOpIn;cases ho:ops[i]? with
 | none=>rw [ho] at h; exact h
 | some o =>
  rw [ho] at h;simp only at h ⊢;split
  ·rename_i hw;rw [if_pos hw] at h;rcases h with h | h
   ·exact II (hd o (Array.mem_of_getElem? ho)) h
   ·exact absurd h.2 hL
  ·rename_i hw;rw [if_neg hw] at h;exact ⟨fun _ _=>trivial,h⟩
theorem qw (hd:∀ o ∈ ops,nz o=true) (hL:¬ LetsOut Q):∀ (fuel:Nat) (listed:Array Bool) (a:Act) (w:World),wpAny P md ops Q fuel listed a w→wpAnyIn (Fence.wide.inRound l) n P md ops Q fuel listed a w
 | 0,_,_,_,h=>h
 | fuel + 1,listed,a,w,h=>⟨h.1,fun i hi=>wpOpIn_mono (fun a' w' hh=>qw hd hL fuel _ a' w' hh) (Dk hd hL (h.2 i hi))⟩
theorem wG {id:Nat} {a:Act} {w:World} (Inv:Array Bool→Act→World→Prop) (hm:P.follows .mixedOrders=true) (hd:ops.all nz=true) (hL:¬ LetsOut Q)
  (h0:Inv (Array.replicate ops.size false) a w.drew)
  (hstep:∀ listed a w,Inv listed a w→∀ i ∈ Region.ready .any ops listed,wpOp P ops Q i (Inv (listed.setIfInBounds i true)) a w)
  (hend:∀ listed a w,Inv listed a w→Region.ready .any ops listed=[]→Q .normal a w):(Code.region id ops true).wpIn (Fence.wide.inRound l) n P Q a w :=
 wpIn_region_any hm (qw (fun o ho=>Array.all_eq_true_iff_forall_mem.1 hd o ho) hL _ _ _ _ (Ao Inv hstep hend _ _ _ _ (IX _ _) h0))
theorem nM {id:Nat} {a:Act} {w:World} (N:Nat) (f0:Nat→Value) (F:(Nat→Value)→Act) (V:Nat→Value→World→Prop) (G:World→Prop)
  (hm:P.follows .mixedOrders=true) (hd:ops.all nz=true) (hL:¬ LetsOut Q) (hsz:ops.size=N) (TS:Ap ops=true)
  (h0:a=F f0) (hG0:G w.drew)
  (hstep:∀ i,i < N→∀ o,ops[i]?=some o→∀ f w',G w'→(∀ e ∈ o.after,Region.binds .any e=true→V e.on (f e.on) w') →
   wpOp P ops Q i (fun a' w''=>∃ v,a'=F (upd f i v)∧G w''∧V i v w''∧∀ k u,V k u w'→V k u w'') (F f) w')
  (hend:∀ f w',G w'→(∀ k,k < N→V k (f k) w')→Q .normal (F f) w') :
  (Code.region id ops true).wpIn (Fence.wide.inRound l) n P Q a w:=by
 refine wG (fun listed a' w'=>listed.size=N∧∃ f,a'=F f∧G w'∧∀ k,k < N→listed.getD k false=true→V k (f k) w') hm hd hL ?_ ?_ ?_
 ·refine ⟨by simpa using hsz,_,h0,hG0,fun k _ h=>?_⟩;rw [Sn,Array.getElem?_replicate] at h; split at h <;> cases h
 ·rintro listed a' w' ⟨hs,f,rfl,hG,hV⟩ i hi;obtain ⟨hl,o,ho,hpre⟩:=mem_ready.1 hi;have hiN:i < N:=by have:=(Array.getElem?_eq_some_iff.1 ho).1; omega
  refine wpOp_mono ?_ (hstep i hiN o ho f w' hG (fun e he hb=>hV e.on (by have:=kC TS i o ho e he; omega) (hpre e he hb)));rintro a'' w'' ⟨v,rfl,hG',hv,hmono⟩;refine ⟨by simpa using hs,_,rfl,hG',fun k hk hkl=>?_⟩;rw [dm _ _ _ (by omega)] at hkl;by_cases ek:k=i
  ·subst ek; simpa [upd] using hv
  ·rw [if_neg ek] at hkl;simp only [upd,if_neg ek];exact hmono _ _ (hV k hk hkl)
 ·rintro listed a' w' ⟨hs,f,rfl,hG,hV⟩ hr;refine hend f w' hG fun k hk=>hV k hk ?_;have:=mi hr hsz (kC TS) hs k hk;rwa [kw (by omega)] at this
theorem FL {F:Fence} {c:Code} {a:Act} {w:World} (R:Act→World→Prop) (h:c.wpIn F n P (fun e a w=>e=.normal∧R a w) a w) (hR:∀ a w,R a w→Q .normal a w):c.wpIn F n P Q a w:=wpIn_mono h fun e a w ⟨he,hr⟩=>by rw [he]; exact hR a w hr
end
end Go.Proofs.YtdaoiceeidoehaaGreat
namespace Go.Proofs.YtdaoiceeidoehaaGreat
set_option linter.unusedVariables false
set_option linter.unusedSectionVars false
set_option maxRecDepth 100000
open Go.ChangeShapes Go.WideShapes Go.ChangeAt Go.RowKit Go.Maps Go.Shelf
open Pl
attribute [local go_sem] Oper.semAt_some
section
variable [DecidableEq Fc]
theorem IJ (w:World) (rs:List TR) (ts:List Tp) (Q:List Fc) (ad:Option Addr) (P D br bp bt bK nK:Nat) (n1:Int) (nr:Nat) (Mr:KL→Option Value) (Er:List (KL × RR)) (xo xu:List Al) (np:Nat) (Mp:K3→Option Value) (vo vu:Value) (TF:Option Addr) (Te:Nat) (Tt:Option Addr) (SV k:Nat)
  (hP:PrM w P D TF Te Q bK nK) (hD:DatA w rs D br bp bt n1 nr Mr Er (aW ts) xo xu np Mp vo vu) (hts:∀ t ∈ ts,t.fits) (htl:ts.length≤40) (hsh:aV (ae rs)=true) (hs:jd w ad rs) (hQf:∀ x ∈ Q,x.fits) (hQn:Q.Nodup) (hQl:Q.length≤115200) (hok:∀ x ∈ Q,okB x=true) (hPr:z8 (dE rs ts Q) Q) (hk:k < Q.length) (hL:gX w Tt (Q.take (k + 1))) (hcL:k + 1≤SV) :
  Calls prog 48 #[.pointer (some ⟨P,0,none⟩),.slice Tt (Q.take (k + 1)).length SV] w fun e w'=>(∃ v,e=.returned v∧w'.ownsRow w.heap.size 42 5 v (jh rs ts Q Q[k] k).length (au (jh rs ts Q Q[k] k)))∧Below w.heap.size w w':=by
 obtain ⟨iF,z0,z1,z2,z3⟩:=mQ;have XX:(Q.take (k + 1)).length=k + 1:=by rw [Sq]; omega
 obtain ⟨L,Uw⟩:∃ L,L=Q.take (k + 1):=⟨_,rfl⟩;rw [← Uw] at hL XX ⊢;have TG:=ag Uw;have Vj:=ag XX;have hL6:L.length≤1048576:=by omega
 clear Uw XX;obtain ⟨W0,hW0⟩:∃ W0,W0=(((w.alloc (.cells #[.pointer (some ⟨P,0,none⟩)] 76)).alloc (.cells #[.slice Tt L.length SV] 38)).alloc (.map #[] 0)).alloc (.cells #[.map (some (w.heap.size + 1 + 1))] 137):=⟨_,rfl⟩;have H10:=ag (NZ w P (.slice Tt L.length SV) Q hW0);have hmm:=@run_makeMap prog;refine (callsIn_wide (n:=12)).1 ?_;refine callsIn_of_wp_marks func48 rfl trivial ?_ rfl;simp only [ntmps48,List.size_toArray,List.length_cons,List.length_nil,Nat.reduceAdd,Nat.reduceSub,Array.replicate_succ,Array.replicate_zero,List.push_toArray,List.append_toArray,List.nil_append,List.cons_append];gi_wp2;rw [← hW0];clear hW0
 gi_loopw [19] (fun i wr=>∃ q:Nat,q≤L.length∧i=.int .i64 q∧Hid (N1 w wr P (.slice Tt L.length SV) q Q)) (fun i _=>L.length - (intOf i).toNat)
 case atStart=>exact ⟨0,R6 _,rfl,H10⟩
 case round =>
  obtain ⟨q,hq,rfl,HN⟩:=hrel;by_cases hlq:q < L.length
  ·have hqQ:q < Q.length:=by have:=Vj.out; omega
   have heq:L[q]=Q[q]:=by
    have e:=TG.out;subst e;exact List.getElem_take ..
   obtain ⟨b,off,SL,⟨t0,t1,t2,t3,t4⟩,hbl⟩:=gX.at0 (hL.below HN.out.bel) hlq;rw [heq] at t0 t1 t2 t3 t4;obtain ⟨x,hx⟩:∃ x,x=Q[q]:=⟨_,rfl⟩;rw [← hx] at t0 t1 t2 t3 t4;obtain ⟨kl,hkl⟩:=kM x (by rw [hx]; exact hQf _ (RY _));have i1:=bn q;have i2:(q:Int) < (L.length:Int):=by omega
   obtain ⟨W1,hW1⟩:∃ W1,W1=wr.alloc (.cells #[.string x.a,.string x.b,.string x.r,.string x.c,.string x.d] 42):=⟨_,rfl⟩;have hb1:Below wr.heap.size wr W1:=by rw [hW1]; exact (R3 _ _).alloc (R4 _) _
   have XU:=ag (HN.out.below hb1);have x5:=HN.out.x5.c;have x5l:=ay x5;have HPL:Hid (fw (iL (jr Q (Q.take q))) x (some (.int .i64 (q:Int)))=iL (jr Q (Q.take (q + 1)))):=Jt (by rw [hx]; exact gP Q hQn q hqQ) fun g=>by rw [R5 hqQ,Sd,Sm,hx]
   have HX:=ag hx;subst SL;clear hx heq hb1
   gi_wp2_with (first
    | (gi_at_mapUpdate; rw [← hW1]; clear hW1; refine jM _ rfl _ _ _ 137 rfl 42 3 mR lY underlying137 (w.heap.size + 1 + 1) _ _ rfl XU.out.map (by unfold maxLen; omega) x kl rfl hkl (.int .i64 (q:Int)) rfl ?_; intro Y1 hM1 hg1; rw [HPL.out] at hM1; have UE:=ag (XU.out.put hg1 hM1); clear hM1 hg1)
    | gi_in)
   go_roundw;case rel=>exact ⟨q + 1,by omega,by go_num,UE⟩
   case measure=>simp [intOf] <;> omega
  ·have hqe:q=k + 1:=by have:=Vj.out; omega
   subst hqe;obtain ⟨wz,hwz⟩:∃ z,z=wr:=⟨_,rfl⟩;subst hwz;have x1:=HN.out.x1.c;have x1l:=ay x1;have hx1l:w.heap.size + 1 < wz.heap.size + 1:=by omega
   have hx1m:w.heap.size + 1 < wz.heap.size + 1 + 1:=by omega
   have hx1n:w.heap.size + 1 < wz.heap.size + 1 + 1 + 1:=by omega
   have hmm:=@run_makeMap prog;obtain ⟨W1,hW1⟩:∃ W1,W1=(((wz.alloc (.cells #[.func (.func 70) #[] #[.pointer (some ⟨w.heap.size + 1 + 1 + 1,0,none⟩)]] 141)).alloc (.map #[] 0)).alloc (.cells #[.map (some (wz.heap.size + 1))] 142)).alloc (.cells #[.slice none 0 0] 38):=⟨_,rfl⟩
   gi_wp2_with fail
   rw [← hW1];refine ⟨trivial,(callsIn_wide.2 (Dh Tt L.length SV W1)).mono ?_⟩;rintro e W2 ⟨rfl,hW2⟩;obtain ⟨t4,t5,hb2,hK,hR0,hM0⟩:=N7 rs ts HN.out hW1 hW2;have HK:=ag hK;have Xi:=ag hR0;have HM0:=ag hM0;have HB2:=ag hb2;clear hW1 hW2 hK hR0 hM0 hb2 hmm x1 x1l hx1l hx1m hx1n;gi_wp2;have hK:=HK.out;have hm0:=hK.m0;have hm1:=hK.m1;have hk1:=hK.k1
   refine kL (α:=Nat × Fc) rfl (by omega) (gf:=102) (lb:=#[.pointer (some ⟨wz.heap.size + 1 + 1 + 1 + 1,0,none⟩)]) rfl trivial (enters_of func102 (by kernel_rfl) rfl)
    (K8 11 (by omega) (wz.heap.size + 1 + 1 + 1 + 1) Tt SV L hL6 (fun _ _ _=>True) W2) (R3 _ _) (fun _=>rfl) (fun _ _=>trivial) (fun _ _ _ _ _ _=>trivial)
    (fun pre Y=>∃ (kept:List Fc) (vk:Value) (M:Fc→Option Value) (E:List (Fc × (Fc × Value))),NdR w rs ts Q W2.heap.size (w.heap.size + 1 + 1) (wz.heap.size + 1) (wz.heap.size + 1 + 1 + 1) (IE w wz P (.slice Tt L.length SV)) Y kept vk M E.length E∧(∃ nP,nP≤k + 1 + pre.length∧aD dH prog 42 Y (w.heap.size + 1 + 1) nP (iL (jr Q (Q.take (k + 1 - pre.length) ++ kept))))∧NdP rs ts Q k pre.length Q[k] kept E)
    ?own ?tell ⟨[],.slice none 0 0,fun _=>none,[],Xi.out,⟨k + 1,by omega,HM0.out⟩,K9 hPr⟩
    (fun x a' Y=>∃ Bx,jI Y Bx x.2∧(∃ v,bZ Y (wz.heap.size + 1 + 1 + 1) v 38∧v.ownBlock ≠ some Bx)∧a'={ tmps:=List.toArray (Value.pointer (some ⟨P,0,none⟩)::.slice Tt L.length SV::.pointer (some ⟨w.heap.size,0,none⟩)::.pointer (some ⟨w.heap.size + 1,0,none⟩)::.slice none 0 0::.pointer (some ⟨w.heap.size + 1 + 1 + 1,0,none⟩)::u6::u7::.pointer (some ⟨wz.heap.size,0,none⟩)::.pointer (some ⟨wz.heap.size + 1 + 1,0,none⟩)::.pointer (some ⟨wz.heap.size + 1 + 1 + 1,0,none⟩)::.int .i64 (x.1:Int)::.pointer (some ⟨Bx,0,none⟩)::undef::undef::undef::.map (some (w.heap.size + 1 + 1))::.slice Tt L.length SV::.int .i64 (L.length:Int)::.int .i64 ((k:Int) + 1)::.bool (decide ((k:Int) + 1 < (L.length:Int)))::u21::u22::u23::u24::u25::u26::u27::.func (.func 70) #[] #[.pointer (some ⟨w.heap.size + 1 + 1 + 1,0,none⟩)]::.map (some (wz.heap.size + 1))::.slice Tt L.length SV::.func (.func 102) #[] #[.pointer (some ⟨wz.heap.size + 1 + 1 + 1 + 1,0,none⟩)]::.int .i64 (x.1:Int)::.agg #[.string x.2.a,.string x.2.b,.string x.2.r,.string x.2.c,.string x.2.d]::undef::undef::undef::undef::undef::undef::undef::undef::undef::undef::undef::undef::undef::undef::undef::undef::undef::undef::undef::undef::undef::undef::undef::undef::undef::undef::undef::undef::undef::undef::undef::undef::undef::undef::undef::undef::undef::undef::undef::undef::undef::undef::undef::undef::undef::undef::undef::[]),defers:=[] })
    (fun x a' s Y Z row hs hg hr=>by
     obtain ⟨Bx,h,⟨v,hv,hne⟩,e⟩:=hs;refine ⟨Bx,yU (B0:=W2.heap.size) (g:=Bx) (x:=x.2) () Y Z row h hg hr,⟨v,(hg.block _ (Array.getElem?_eq_some_iff.1 hv).1 fun e2=>?_).trans hv,hne⟩,e⟩;obtain ⟨h1,o,h2,h3⟩:=hr _ e2.symm;omega) ?assign ?body ?done
   case own =>
    intro pre Y Z row hs hg hr;obtain ⟨kept,vk,M,E,h1,⟨nP,hn,h2⟩,h3⟩:=hs;exact ⟨kept,vk,M,E,NdR.kept hK h1 hg hr,⟨nP,hn,h2.kept hg (fun e=>by have:=(hr _ e.symm).1; omega)⟩,h3⟩
   case tell =>
    rintro pre Y ⟨kept,vk,M,E,h1,-,-⟩;exact ⟨(h1.bxs (wz.heap.size + 1 + 1 + 1 + 1,.slice Tt L.length SV,38) (by simp [IE])).c,hL.below h1.bel⟩
   case assign =>
    rintro l' pre x Y K ⟨kept,vk,M,E,h1,⟨nP,hn,h2⟩,h3⟩ hKK;unfold NY;gi_wp2;have hbl:Below Y.heap.size Y (Y.alloc (.cells #[.string x.2.a,.string x.2.b,.string x.2.r,.string x.2.c,.string x.2.d] 42)):=(R3 _ _).alloc (R4 _) _;exact hKK _ _ ((KeepsOthers.alloc _ _).from _) trivial ⟨kept,vk,M,E,h1.below hbl,⟨nP,hn,h2.below hbl⟩,h3⟩ ⟨Y.heap.size,World.alloc_heap_new Y _,⟨vk,h1.bx.bel hbl,fun e=>by have:=(h1.row.lt _ e).2; omega⟩,rfl⟩
   case body =>
    rintro l' pre x a' Y hl ⟨hlt,hx⟩ ⟨kept,vk,M,E,hR,⟨nP,hnP,hM⟩,XY⟩ ⟨Bx,bX,⟨v0,hv0,hvB⟩,rfl⟩;have e0:v0=vk:=by
     have h1:=hv0;have h2:=hR.bx;unfold bZ at h1 h2;rw [h1] at h2; injection h2 with h2; injection h2 with h2;simpa using h2
    subst e0;obtain ⟨i,hi⟩:∃ i,i + pre.length=k:=⟨k - pre.length,by have:=Vj.out; omega⟩;have WH:i < Q.length:=by omega
    have hxe:x=(i,Q[i]):=by
     have e:L.length - 1 - pre.length=i:=by have:=Vj.out; omega
     have h1:L[L.length - 1 - pre.length]?=Q[i]?:=by rw [e,TG.out,List.getElem?_take,if_pos (by omega)]
     rw [R8 (by omega),R8 WH] at h1;rw [hx];exact Prod.ext e (Option.some.inj h1)
    obtain ⟨f,hf⟩:∃ f,f=Q[i]:=⟨_,rfl⟩;rw [← hf] at hxe;subst hxe
    change jI Y Bx f at bX
    dsimp only;have ek:k + 1 - pre.length=i + 1:=by omega
    rw [ek] at hM;have hsub:=XY.sub2 hi;have hprf:=XY.prf2 hi;have hff:f.fits:=by rw [hf]; exact hQf _ (RY _)
    obtain ⟨kl,hkl⟩:=kM f hff;have hElen:=XY.len;have hEl:E.length≤1800000000000:=Sb hElen (Sb (Nat.mul_le_mul_right _ (show pre.length≤115200 by omega)) (by decide));have hkl2:kept.length≤115200:=by have:=hsub.length_le; rw [List.length_drop] at this; omega
    have b5:=(hR.bxs (w.heap.size + 1 + 1 + 1,.map (some (w.heap.size + 1 + 1)),137) (by simp [IE])).c;have b5l:=ay b5;obtain ⟨c0,c1,c2,c3,c4,cl0⟩:=bX.c;have HCUT:Hid (fw (iL (jr Q (Q.take (i + 1) ++ kept))) f none=iL (jr Q (Q.take i ++ kept))):=PH (by rw [hf]; exact PL hQn WH hsub);have HHF:=ag hf;have HX0:=ag (show hx=hx from rfl);clear hf hx hv0 HX0
    gi_wp2_with (first
     | (gi_at_delete; refine uF _ rfl _ _ 137 42 rfl 3 mR lY underlying137 (w.heap.size + 1 + 1) nP _ rfl hM f kl rfl hkl ?_; intro Y1 hM1 hg1; rw [HCUT.out] at hM1)
     | gi_in)
    have hbn:Bx ≠ w.heap.size + 1 + 1:=fun e=>by
     obtain ⟨es,c,e2⟩:=hR.mp;have h:=bX;unfold jI at h;rw [e,e2] at h; cases h
    have hR1:=NdR.plc hK hR hg1 hM1;have bX1:jI Y1 Bx f:=(hg1.block _ cl0 (fun e=>hbn (by injection e))).trans bX;have hkp1:KeepsFrom W2.heap.size Y Y1:=vP hg1 hm1;obtain ⟨C0,C1,C2,C3,C4,cl⟩:=bX1.c;have D1:=(hR1.bxs (w.heap.size + 1,.slice Tt L.length SV,38) (by simp [IE])).c;have D9:=(hR1.bxs (wz.heap.size + 1 + 1,.map (some (wz.heap.size + 1)),142) (by simp [IE])).c;have D8:=(hR1.bxs (wz.heap.size,.func (.func 70) #[] #[.pointer (some ⟨w.heap.size + 1 + 1 + 1,0,none⟩)],141) (by simp [IE])).c;have D5:=(hR1.bxs (w.heap.size + 1 + 1 + 1,.map (some (w.heap.size + 1 + 1)),137) (by simp [IE])).c;have L1:=ay D1;have L9:=ay D9;have L8:=ay D8;obtain ⟨adA,capA,eA,-⟩:=zq (P:=jr Q (Q.take i ++ kept)) hR1 D5 hM1 (by omega) f;have YH:Hid (∀ W',Below Y1.heap.size Y1 W'→(Instr.lookup 142 (.map (some (wz.heap.size + 1))) (.agg #[.string f.a,.string f.b,.string f.r,.string f.c,.string f.d]) false).run prog W'=.ok (.slice adA (G.lookL E f).length capA) W'):=fun W' hb=>by
     rw [← eA];exact (hR1.below hb).grp.map.look mR underlying142 (Tryz.zeroValue147 _) hkl
    have HTI:=ag (PK hQn WH hsub hok hprf XY.own XY.hng);obtain ⟨T,hT⟩:∃ T,T=gy rs ts Q i kept:=⟨_,rfl⟩;have Tw:Hid (∀ W',Below Y1.heap.size Y1 W'→Calls prog 73 #[.slice adA (G.lookL E f).length capA,.func (Fn.func 70) #[] #[.pointer (some ⟨w.heap.size + 1 + 1 + 1,0,none⟩)]] W' fun e w'=>e=.returned (.bool (!T))∧Below W'.heap.size W' w'):=fun W' hb=>by
     obtain ⟨adA',Yn,eA',hC⟩:=zq (P:=jr Q (Q.take i ++ kept)) (hR1.below hb) (aA hb (ay D5) D5) (hM1.below hb) (by omega) f;rw [eA] at eA';injection eA' with e1 e2 e3;rw [e1,e3,hT,← HTI.out,← HHF.out];exact hC
    have hwr:IntKind.i64.wrap ((L.length:Int) - 1)=(k:Int):=by rw [IntKind.wrap_i64,Vj.out]; omega
    have HR1:=ag hR1;have Vv:=ag hM1;have HKP1:=ag hkp1;have HT:=ag hT;have HEA:=ag eA;clear hR hM hM1 hg1 hR1 hkp1 b5 b5l c0 c1 c2 c3 c4 cl0 hT eA HTI D5 bX hbn;refine FL (fun a' w'=>∃ fq:Nat→Value,a'={ tmps:=List.toArray (Value.pointer (some ⟨P,0,none⟩)::.slice Tt L.length SV::.pointer (some ⟨w.heap.size,0,none⟩)::.pointer (some ⟨w.heap.size + 1,0,none⟩)::.slice none 0 0::.pointer (some ⟨w.heap.size + 1 + 1 + 1,0,none⟩)::u6::u7::.pointer (some ⟨wz.heap.size,0,none⟩)::.pointer (some ⟨wz.heap.size + 1 + 1,0,none⟩)::.pointer (some ⟨wz.heap.size + 1 + 1 + 1,0,none⟩)::.int .i64 (i:Int)::.pointer (some ⟨Bx,0,none⟩)::undef::undef::undef::.map (some (w.heap.size + 1 + 1))::.slice Tt L.length SV::.int .i64 (L.length:Int)::.int .i64 ((k:Int) + 1)::.bool (decide ((k:Int) + 1 < (L.length:Int)))::u21::u22::u23::u24::u25::u26::u27::.func (.func 70) #[] #[.pointer (some ⟨w.heap.size + 1 + 1 + 1,0,none⟩)]::.map (some (wz.heap.size + 1))::.slice Tt L.length SV::.func (.func 102) #[] #[.pointer (some ⟨wz.heap.size + 1 + 1 + 1 + 1,0,none⟩)]::.int .i64 (i:Int)::.agg #[.string f.a,.string f.b,.string f.r,.string f.c,.string f.d]::.map (some (w.heap.size + 1 + 1))::.agg #[.string f.a,.string f.b,.string f.r,.string f.c,.string f.d]::fq 0::fq 1::fq 2::fq 3::fq 4::fq 5::fq 6::fq 7::fq 8::fq 9::fq 10::fq 11::fq 12::undef::undef::undef::undef::undef::undef::undef::undef::undef::undef::undef::undef::undef::undef::undef::undef::undef::undef::undef::undef::undef::undef::undef::undef::undef::undef::undef::undef::undef::undef::undef::undef::[]),defers:=[] }∧Below Y1.heap.size Y1 w'∧fq 12=.bool (decide (i < k) && T)) ?reg ?rest;case reg =>
     by_cases hik:i < k
     ·have hik2:(i:Int) < (k:Int):=by omega
      have YZ:(decide (i < k) && T)=T:=by simp [hik]
      clear HR1 Vv HKP1 hvB;refine nM 13 (fun n=>(undef::undef::undef::undef::undef::undef::undef::undef::undef::undef::undef::undef::undef::[]).getD n undef) (fun fq=>{ tmps:=List.toArray (Value.pointer (some ⟨P,0,none⟩)::.slice Tt L.length SV::.pointer (some ⟨w.heap.size,0,none⟩)::.pointer (some ⟨w.heap.size + 1,0,none⟩)::.slice none 0 0::.pointer (some ⟨w.heap.size + 1 + 1 + 1,0,none⟩)::u6::u7::.pointer (some ⟨wz.heap.size,0,none⟩)::.pointer (some ⟨wz.heap.size + 1 + 1,0,none⟩)::.pointer (some ⟨wz.heap.size + 1 + 1 + 1,0,none⟩)::.int .i64 (i:Int)::.pointer (some ⟨Bx,0,none⟩)::undef::undef::undef::.map (some (w.heap.size + 1 + 1))::.slice Tt L.length SV::.int .i64 (L.length:Int)::.int .i64 ((k:Int) + 1)::.bool (decide ((k:Int) + 1 < (L.length:Int)))::u21::u22::u23::u24::u25::u26::u27::.func (.func 70) #[] #[.pointer (some ⟨w.heap.size + 1 + 1 + 1,0,none⟩)]::.map (some (wz.heap.size + 1))::.slice Tt L.length SV::.func (.func 102) #[] #[.pointer (some ⟨wz.heap.size + 1 + 1 + 1 + 1,0,none⟩)]::.int .i64 (i:Int)::.agg #[.string f.a,.string f.b,.string f.r,.string f.c,.string f.d]::.map (some (w.heap.size + 1 + 1))::.agg #[.string f.a,.string f.b,.string f.r,.string f.c,.string f.d]::fq 0::fq 1::fq 2::fq 3::fq 4::fq 5::fq 6::fq 7::fq 8::fq 9::fq 10::fq 11::fq 12::undef::undef::undef::undef::undef::undef::undef::undef::undef::undef::undef::undef::undef::undef::undef::undef::undef::undef::undef::undef::undef::undef::undef::undef::undef::undef::undef::undef::undef::undef::undef::undef::[]),defers:=[] }) (fun n v _=>v=(Value.int .i64 (i:Int)::.slice Tt L.length SV::.int .i64 (L.length:Int)::.int .i64 (k:Int)::.bool true::.bool true::.map (some (wz.heap.size + 1))::.agg #[.string f.a,.string f.b,.string f.r,.string f.c,.string f.d]::.slice adA (G.lookL E f).length capA::.func (.func 70) #[] #[.pointer (some ⟨w.heap.size + 1 + 1 + 1,0,none⟩)]::.bool (!T)::.bool T::.bool T::[]).getD n undef) (fun w'=>Below Y1.heap.size Y1 w') (by kernel_rfl) (by kernel_rfl) (fun ⟨_,_,h,_⟩=>by cases h) rfl (by kernel_rfl) rfl (R3 _ _).drew ?stepA ?finA;case stepA =>
       rintro i hi o ho fq w' hG hpre;have HG:Hid (Below Y1.heap.size Y1 w'):=hG;have d1:=aA HG.out L1 D1;have d9:=aA HG.out L9 D9;have d8:=aA HG.out L8 D8;have c0:=aA HG.out cl C0;have c1:=aA HG.out cl C1;have c2:=aA HG.out cl C2;have c3:=aA HG.out cl C3;have c4:=aA HG.out cl C4;have hlk:=YH.out _ HG.out;have HM:Hid (∀ e ∈ o.after,Region.binds .any e=true→_):=hpre;clear hG hpre;have hc:=P5 (i:=i) (by omega);clear hi
       repeat' rcases hc with rfl | hc
       iterate 10
        ·cases ho;have hm:=HM.out
         try simp [Region.binds] at hm
         clear HM;refine wpOp_step rfl (fun K hK=>?_);have HK:Hid (∀ a w,_→K a w):=hK;clear hK
         try simp only [hm]
         go_simp;exact HK.out _ _ ⟨_,by simp [upd, *],HG.out,rfl,fun k u hu=>hu⟩
       ·cases ho;have e8:fq 8=.slice adA (G.lookL E f).length capA:=HM.out ⟨8,.data⟩ (by simp) rfl;have e9:fq 9=.func (.func 70) #[] #[.pointer (some ⟨w.heap.size + 1 + 1 + 1,0,none⟩)]:=HM.out ⟨9,.data⟩ (by simp) rfl;have e5:fq 5=.bool true:=HM.out ⟨5,.guard⟩ (by simp) rfl;clear HM;refine wpOp_step rfl (fun K hK=>?_);have HK:Hid (∀ a w,_→K a w):=hK;clear hK;simp only [e8,e9,e5];go_simp;refine (Tw.out _ HG.out).mono ?_;rintro e w9 ⟨rfl,WW⟩;have HG9:=gY HG WW;clear WW;go_wp2_with fail;exact HK.out _ _ ⟨Value.bool (!T),by simp [upd,e8,e9,e5],HG9.out,rfl,fun k u hu=>hu⟩
       iterate 2
        ·cases ho;have hm:=HM.out
         try simp [Region.binds] at hm
         clear HM;refine wpOp_step rfl (fun K hK=>?_);have HK:Hid (∀ a w,_→K a w):=hK;clear hK
         try simp only [hm]
         go_simp;exact HK.out _ _ ⟨_,by simp [upd, *],HG.out,rfl,fun k u hu=>hu⟩
      case finA =>
       rintro fq w' hG hall;have e12:fq 12=.bool T:=hall 12 (by omega);exact ⟨rfl,fq,rfl,hG,by rw [e12,YZ]⟩
     ·have hik2:¬ (i:Int) < (k:Int):=by omega
      have YZ:(decide (i < k) && T)=false:=by simp [hik]
      clear HR1 Vv HKP1 hvB Tw YH;refine nM 13 (fun n=>(undef::undef::undef::undef::undef::undef::undef::undef::undef::undef::undef::undef::undef::[]).getD n undef) (fun fq=>{ tmps:=List.toArray (Value.pointer (some ⟨P,0,none⟩)::.slice Tt L.length SV::.pointer (some ⟨w.heap.size,0,none⟩)::.pointer (some ⟨w.heap.size + 1,0,none⟩)::.slice none 0 0::.pointer (some ⟨w.heap.size + 1 + 1 + 1,0,none⟩)::u6::u7::.pointer (some ⟨wz.heap.size,0,none⟩)::.pointer (some ⟨wz.heap.size + 1 + 1,0,none⟩)::.pointer (some ⟨wz.heap.size + 1 + 1 + 1,0,none⟩)::.int .i64 (i:Int)::.pointer (some ⟨Bx,0,none⟩)::undef::undef::undef::.map (some (w.heap.size + 1 + 1))::.slice Tt L.length SV::.int .i64 (L.length:Int)::.int .i64 ((k:Int) + 1)::.bool (decide ((k:Int) + 1 < (L.length:Int)))::u21::u22::u23::u24::u25::u26::u27::.func (.func 70) #[] #[.pointer (some ⟨w.heap.size + 1 + 1 + 1,0,none⟩)]::.map (some (wz.heap.size + 1))::.slice Tt L.length SV::.func (.func 102) #[] #[.pointer (some ⟨wz.heap.size + 1 + 1 + 1 + 1,0,none⟩)]::.int .i64 (i:Int)::.agg #[.string f.a,.string f.b,.string f.r,.string f.c,.string f.d]::.map (some (w.heap.size + 1 + 1))::.agg #[.string f.a,.string f.b,.string f.r,.string f.c,.string f.d]::fq 0::fq 1::fq 2::fq 3::fq 4::fq 5::fq 6::fq 7::fq 8::fq 9::fq 10::fq 11::fq 12::undef::undef::undef::undef::undef::undef::undef::undef::undef::undef::undef::undef::undef::undef::undef::undef::undef::undef::undef::undef::undef::undef::undef::undef::undef::undef::undef::undef::undef::undef::undef::undef::[]),defers:=[] }) (fun n v _=>v=(Value.int .i64 (i:Int)::.slice Tt L.length SV::.int .i64 (L.length:Int)::.int .i64 (k:Int)::.bool false::.bool false::undef::undef::undef::undef::undef::undef::.bool false::[]).getD n undef) (fun w'=>Below Y1.heap.size Y1 w') (by kernel_rfl) (by kernel_rfl) (fun ⟨_,_,h,_⟩=>by cases h) rfl (by kernel_rfl) rfl (R3 _ _).drew ?vI ?finB;case vI =>
       rintro i hi o ho fq w' hG hpre;have HG:Hid (Below Y1.heap.size Y1 w'):=hG;have d1:=aA HG.out L1 D1;have d9:=aA HG.out L9 D9;have d8:=aA HG.out L8 D8;have c0:=aA HG.out cl C0;have c1:=aA HG.out cl C1;have c2:=aA HG.out cl C2;have c3:=aA HG.out cl C3;have c4:=aA HG.out cl C4;have HM:Hid (∀ e ∈ o.after,Region.binds .any e=true→_):=hpre;clear hG hpre;have hc:=P5 (i:=i) (by omega);clear hi
       repeat' rcases hc with rfl | hc
       iterate 13
        ·cases ho;have hm:=HM.out
         try simp [Region.binds] at hm
         clear HM;refine wpOp_step rfl (fun K hK=>?_);have HK:Hid (∀ a w,_→K a w):=hK;clear hK
         try simp only [hm]
         go_simp;exact HK.out _ _ ⟨_,by simp [upd, *],HG.out,rfl,fun k u hu=>hu⟩
      case finB =>
       rintro fq w' hG hall;have e12:fq 12=.bool false:=hall 12 (by omega);exact ⟨rfl,fq,rfl,hG,by rw [e12,YZ]⟩
    case rest =>
     rintro a2 w2 ⟨fq,rfl,hb2,h12⟩;have hR2:=HR1.out.below hb2;have hM2:=Vv.out.below hb2;have hkp2:=jK HKP1.out (jc hb2);have bX2:jI w2 Bx f:=(hb2.block _ cl).trans bX1;clear YH Tw HR1 Vv HKP1 C0 C1 C2 C3 C4 D1 D9 D8 L1 L9 L8 hwr;cases YZ:(decide (i < k) && T) with
     | true =>
      rw [YZ] at h12;simp only [R7,Sj] at YZ;have hres:=XY.skip hi WH YZ.1 hok (by rw [← HT.out]; exact YZ.2);have el:(pre ++ [(i,f)]).length=pre.length + 1:=by simp
      simp only [h12];gi_wp2;exact ⟨hkp2,trivial,kept,v0,M,E,hR2,⟨nP,by rw [el]; omega,by rw [el,show k + 1 - (pre.length + 1)=i by omega]; exact hM2⟩,by rw [el]; exact hres⟩
     | false =>
      rw [YZ] at h12;have ht:i < k→gy rs ts Q i kept=false:=fun h=>by rw [← HT.out]; simpa [h] using YZ
      have HTN:=ag ht;obtain ⟨adk,capk,ek2,-⟩:=iH (fs:=kept.reverse) (by rw [List.length_reverse]; exact hR2.row);rw [List.length_reverse] at ek2;have hv2:v0=.slice adk kept.length capk:=ek2;subst hv2;have HPUT:Hid (fw (iL (jr Q (Q.take i ++ kept))) f (some (.int .i64 (i:Int)))=iL (jr Q (Q.take i ++ f::kept))):=Jt (by rw [HHF.out]; exact gP Q hQn i WH) (by rw [HHF.out]; exact put_mem WH);have HIX:Hid (idx Q f=i):=by show _=_; rw [HHF.out]; exact gP Q hQn i WH
      have b5:=(hR2.bxs (w.heap.size + 1 + 1 + 1,.map (some (w.heap.size + 1 + 1)),137) (by simp [IE])).c;have b5l:=ay b5;obtain ⟨c0,c1,c2,c3,c4,cl2⟩:=bX2.c;have hbn:Bx ≠ w.heap.size + 1 + 1:=fun e=>by
       obtain ⟨es,c,e2⟩:=hR2.mp;have h:=bX2;unfold jI at h;rw [e,e2] at h; cases h
      have hbk:Bx ≠ wz.heap.size + 1 + 1 + 1:=fun e=>by
       have h:=bX2;have h2:=hR2.bx;unfold jI at h;unfold bZ at h2;rw [e,h2] at h; injection h with h; injection h with _ h; exact absurd h (by decide)
      clear YZ ht;simp only [h12]
      gi_wp2_with (first
       | (gi_at_mapUpdate; refine jM _ rfl _ _ _ 137 rfl 42 3 mR lY underlying137 (w.heap.size + 1 + 1) nP _ rfl hM2 (by unfold maxLen; omega) f kl rfl hkl (.int .i64 (i:Int)) rfl ?_; intro Y3 XD hg3; rw [HPUT.out] at XD; have U8:=NdR.plc hK hR2 hg3 XD; have bX3:jI Y3 Bx f:=(hg3.block _ cl2 (fun e=>hbn (by injection e))).trans bX2; have hkp3:=jK hkp2 (vP hg3 hm1); obtain ⟨q0,q1,q2,q3,q4,ql⟩:=bX3.c; have qb:=U8.bx.c; have qbl:=ay qb; have Vi:=U8.n0; clear c0 c1 c2 c3 c4 b5 b5l)
       | (gi_at_builtin; refine wpListIn_append_own_at _ rfl _ _ 38 rfl W2.heap.size 42 iF (.agg #[.string ⟨#[]⟩,.string ⟨#[]⟩,.string ⟨#[]⟩,.string ⟨#[]⟩,.string ⟨#[]⟩]) 5 80 underlying38 z0 z1 z2 z3 rfl (by decide) _ kept.length (au kept.reverse) rfl (U8.row.alloc _) ⟨Y3.heap.size,0,none⟩ 1 1 f.row rfl rfl (yL Y3 f) (by simp [Fc.row,Value.oneCell']) (by unfold maxLen; omega) (by omega) (by simp; omega) ?_; intro v2 V hown hgr _ hat; obtain ⟨g2,cap2,rfl⟩:=ownsRow_succ hown; have hYb:Below Y3.heap.size Y3 (Y3.alloc (.cells #[.string f.a,.string f.b,.string f.r,.string f.c,.string f.d] 42)):=(R3 _ _).alloc (R4 _) _; obtain ⟨Yl,hbm4,hkp4⟩:=NdR.app hK U8 hYb hown hgr hat; have hVb:bZ V (wz.heap.size + 1 + 1 + 1) (.slice adk kept.length capk) 38:=(hgr.block _ (RZ qbl hYb.size) (fun e=>by have:=(U8.row.lt _ e.symm).1; omega)).trans (U8.bx.bel hYb); have bX4:jI (V.setCell ⟨wz.heap.size + 1 + 1 + 1,0,none⟩ (.slice (some ⟨g2,0,none⟩) (kept.length + 1) cap2)) Bx f:=(heap_setCell_other V ⟨wz.heap.size + 1 + 1 + 1,0,none⟩ Bx _ hbk).trans ((hgr.block _ (RZ ql hYb.size) (fun e=>hvB e.symm)).trans ((hYb.block _ ql).trans bX3)); have hM4:=(XD.of_block hbm4); have vc:=hVb.c; have vf:=eD hVb 0; have vl:=ay vc; clear hown hgr hat q0 q1 q2 q3 q4 qb)
       | (refine wF _ rfl 38 _ _ rfl ⟨wz.heap.size + 1 + 1 + 1,0,none⟩ (.slice (some ⟨g2,0,none⟩) (kept.length + 1) cap2) rfl rfl (by go_simp) ?_; intro Y4 hY4; rw [← hY4] at Yl hkp4 bX4 hM4; clear hY4 vc vf vl hVb; have hB0:=(Yl.bxs (w.heap.size,.pointer (some ⟨P,0,none⟩),76) (by simp [IE])).c; obtain ⟨q0,q1,q2,q3,q4,ql4⟩:=bX4.c)
       | gi_in)
      have hkp4':=jK hkp3 hkp4;refine ⟨trivial,(lw (Iq (f:=f) (hP.below Yl.bel) (hD.below Yl.bel) hff hts htl hsh (hs.below Yl.bel))).mono ?_⟩;rintro e Y5 ⟨⟨rv,n,rfl,WA,hn8⟩,hb5⟩;obtain ⟨TT,aa,hrv,-⟩:=WA.kind;subst hrv;have hru8:=WA.up hn8;have hHG:Hid (∀ hh:av Y5 (ic Y4.heap.size) 8 (.iface TT aa) (dE rs ts Q f),True):=fun _=>trivial;obtain ⟨Y6,hY6⟩:∃ Y6,Y6=Y5.alloc (.cells #[.int .i64 (i:Int),.iface TT aa] 139):=⟨_,rfl⟩;have hb6:Below Y5.heap.size Y5 Y6:=by rw [hY6]; exact (R3 _ _).alloc (R4 _) _
      have HR4:=ag Yl;have YC:=ag hM4;have HKP4:=ag hkp4';have HRU:=ag hru8;have TK:=ag hb5;have UW:=ag hb6;clear WA hHG U8 hkp4 hkp3 hR2 hM2 hkp2 Yl hM4 hkp4' hru8 hb5 hb6 bX4 bX3 bX2 bX1 hbm4 XD hg3 hYb q0 q1 q2 q3 q4 hB0
      gi_wp2_with fail
      rw [← hY6];refine ⟨trivial,(lw (uD (S:=ic Y4.heap.size) 8 (by omega) Y6 (.iface TT aa) (dE rs ts Q f) (HRU.out.below UW.out))).mono ?_⟩;rintro e Y7 ⟨⟨Uy,XW,fs,rfl,-,hsl7,hHang,hfl,hfit,hat7⟩,VJ⟩;have HLP:=ag (Lb hK HR4.out YC.out HKP4.out TK.out HRU.out hY6 HIX.out VJ hsl7 hat7);have HHA:=ag hHang;have HFIT:=ag hfit;have hfl8:fs.length≤15625000:=Sb hfl (by decide);clear hY6 hsl7 hHang hfit hat7 VJ hfl HR4 YC HKP4 HRU TK UW;obtain ⟨iS,y0,y1,y2,y3⟩:=PN;gi_wp2
      gi_loopw [65] (fun ix wx=>∃ j:Nat,j≤fs.length∧ix=.int .i64 j∧∃ M',Hid (LpI w rs ts Q W2.heap.size (w.heap.size + 1 + 1) (wz.heap.size + 1) (wz.heap.size + 1 + 1 + 1) (IE w wz P (.slice Tt L.length SV)) Y wx (f::kept) (.slice (some ⟨g2,0,none⟩) (kept.length + 1) cap2) M' E (nP + 1) (Q.take i ++ f::kept) f (.iface TT aa) Uy fs Y5.heap.size j)) (fun ix _=>fs.length - (intOf ix).toNat)
      case atStart=>exact ⟨0,R6 _,rfl,M,HLP⟩
      case round =>
       clear HLP;obtain ⟨j,hj,rfl,M',HL⟩:=hrel;by_cases hlj:j < fs.length
       ·obtain ⟨x,hx⟩:∃ x,x=fs[j]:=⟨_,rfl⟩;obtain ⟨bF,offF,SL,⟨t0,t1,t2,t3,t4⟩,hbl⟩:=gX.at0 HL.out.sl hlj;rw [← hx] at t0 t1 t2 t3 t4;obtain ⟨klx,hklx⟩:=kM x (by rw [hx]; exact HFIT.out _ (RY _));have j1:=bn j;have j2:(j:Int) < (fs.length:Int):=by omega
        have d9:=(HL.out.nd.bxs (wz.heap.size + 1 + 1,.map (some (wz.heap.size + 1)),142) (by simp [IE])).c;have d9l:=ay d9;have s0:=HL.out.s0.cell;rw [HIX.out] at s0;have s1:=HL.out.s1.cell;have s0l:=HL.out.s0.lt;obtain ⟨V1,hV1⟩:∃ V1,V1=wr.alloc (.cells #[.string x.a,.string x.b,.string x.r,.string x.c,.string x.d] 42):=⟨_,rfl⟩;obtain ⟨V2,hV2⟩:∃ V2,V2=V1.alloc (.cells #[.int .i64 (i:Int),.iface TT aa] 139):=⟨_,rfl⟩;have hb1:Below wr.heap.size wr V1:=by rw [hV1]; exact (R3 _ _).alloc (R4 _) _
        have hb2:Below V1.heap.size V1 V2:=by rw [hV2]; exact (R3 _ _).alloc (R4 _) _
        have hn2:=QP V1 (.int .i64 (i:Int)) (.iface TT aa);rw [← hV2] at hn2;have hs1:V1.heap.size=wr.heap.size + 1:=by rw [hV1,World.size_alloc]
        have HL2:=ag ((HL.out.below hb1).below hb2);have hnr:=HL.out.nd.n0;have ha1:=hK.a1;rw [hV1] at hV2;have hgm:=HL2.out.nd.grp.map;have hba2:wz.heap.size + 1 < V2.heap.size:=by have:=HL2.out.nd.n0; have:=hK.a1; omega
        have hll:=La (E:=E ++ (fs.take j).map fun g=>(g,(f,Value.iface TT aa))) x;have hll2:(G.lookL (E ++ (fs.take j).map fun g=>(g,(f,Value.iface TT aa))) x).length≤1900000000000:=by
         rw [R9,Sv,Sq] at hll;omega
        have HXE:=ag hx;subst SL;clear hx hll HL hb1 hb2 hV1
        gi_wp2_with (first
         | (rw [← hV2]; clear hV2; refine Classical.byContradiction fun hcn=>?_)
         | gi_in)
        refine hcn ?_;clear hcn;refine wD _ rfl _ _ 142 rfl 42 147 Ji lY underlying142 QO (wz.heap.size + 1) (E.length + j) M' rfl hgm (by unfold maxLen; omega) x klx rfl hklx ?_;intro sti V3 hg3 hback;have hown3:=N8 HL2.out.nd.grp hg3 x;have hba3:wz.heap.size + 1 < V3.heap.size:=RZ hba2 hg3.size;have hnw3:∀ j' u,[Value.int .i64 (i:Int),.iface TT aa][j']?=some u→V3.cell? ((⟨V1.heap.size,0,none⟩:Addr).add j')=some u:=fun j' u hu=>by
         have h:=hn2 j' u hu;have e:((⟨V1.heap.size,0,none⟩:Addr).add j')=⟨V1.heap.size,j',none⟩:=by cases j' <;> simp [Addr.add]
         rw [e] at h ⊢;exact (jg hg3 ⟨ay h,by omega⟩ _).trans h
        have hll3:=hll2
        gi_wp2_with (first
         | (gi_at_builtin; refine wpListIn_append_own_at _ rfl _ _ 147 rfl (wz.heap.size + 1 + 1) 139 iS (.agg #[.int .i64 0,.nilIface]) 2 24 underlying147 y0 y1 y2 y3 rfl (by decide) _ (G.lookL (E ++ (fs.take j).map fun g=>(g,(f,Value.iface TT aa))) x).length _ rfl hown3 ⟨wr.heap.size + 1,0,none⟩ 1 1 [Value.int .i64 (i:Int),.iface TT aa] rfl rfl (by rw [hs1] at hnw3; exact hnw3) (by simp [Value.oneCell']) (by unfold maxLen; omega) (by omega) (by omega) ?_; intro v4 V4 Xk hgr4 _ hat4; have hbk4:=hback V4 v4 (PO HL2.out.nd.grp hba3 hgr4); clear hnw3 hown3)
         | (refine o9 (enc:=dH) _ rfl _ _ _ 142 rfl (wz.heap.size + 1) sti rfl rfl v4 rfl 42 _ _ hbk4 ?_; intro V5 hM5 hg5)
         | gi_in)
        have HL5:=ag (LpI.ask hK HL2.out hlj hg3 (by rw [← HXE.out]; unfold zB; rw [HIX.out]; exact Xk) (by rw [← HXE.out]; exact hgr4) (by rw [← HXE.out]; exact hat4) hg5 (by rw [← HXE.out]; exact hM5));go_roundw;case rel=>exact ⟨j + 1,by omega,by go_num,_,HL5⟩
        case measure=>simp [intOf] <;> omega
       ·have hje:j=fs.length:=by omega
        subst hje;have el:(pre ++ [(i,f)]).length=pre.length + 1:=by simp
        have hE2:(E ++ (fs.take fs.length).map fun g=>(g,(f,Value.iface TT aa)))=E ++ fs.map fun g=>(g,(f,Value.iface TT aa)):=by rw [Sc]
        have hnd:=HL.out.nd;rw [hE2,show E.length + fs.length=(E ++ fs.map fun g=>(g,(f,Value.iface TT aa))).length by simp] at hnd;have hres:NdP rs ts Q k (pre.length + 1) Q[k] (f::kept) (E ++ fs.map fun g=>(g,(f,Value.iface TT aa))):=by
         have:=XY.keep (v:=.iface TT aa) hi WH HTN.out (fun e=>by subst e; rfl) (by rw [← HHF.out]; exact HHA.out) hfl8;rw [← HHF.out] at this; exact this
        gi_wp2;exact ⟨HL.out.kp,trivial,f::kept,_,M',_,hnd,⟨nP + 1,by rw [el]; omega,by rw [el,show k + 1 - (pre.length + 1)=i by omega]; exact HL.out.pl⟩,by rw [el]; exact hres⟩
   case done =>
    rintro Dd xs X5 hDd hS ⟨kept,vk,M,E,hR,-,XY⟩ ZZ;have hxl:xs.length=k + 1:=by
     rw [hS];have:∀ m,m≤L.length→(qp L m).length=m:=fun m=>by
      induction m with
      | zero=>intro _; rfl
      | succ m ih=>intro h; rw [zn h,R9,ih (by omega)]; rfl
     rw [this _ (R4 _)]; exact Vj.out
    rw [hxl] at XY;have hne:kept ≠ []:=by
     rcases XY.ned with ⟨h,-⟩ | ⟨-,h,-⟩
     ·omega
     ·exact h
    have hpv:kept=jh rs ts Q Q[k] k:=by
     rcases XY.ned with ⟨h,-⟩ | ⟨-,-,h⟩
     ·omega
     ·rw [Nat.sub_self] at h;rw [← h]; rfl
    have hkl2:kept.length≤115200:=by have:=XY.sub.length_le; rw [List.length_drop] at this; omega
    have hrow:=hR.row;have hm:=List.length_pos_iff.2 hne;have hrl:kept.reverse.length=kept.length:=List.length_reverse;obtain ⟨g,cap,rfl⟩:∃ g cap,vk=.slice (some ⟨g,0,none⟩) kept.length cap:=by
     rcases hrow.2 with ⟨-,h0⟩ | ⟨g,cap,cur,e,-⟩
     ·omega
     ·exact ⟨g,cap,e⟩
    have hrow2:X5.ownsRow W2.heap.size 42 5 (.slice (some ⟨g,0,none⟩) kept.reverse.length cap) kept.reverse.length (au kept.reverse):=by rw [hrl]; exact hrow
    have hrev:=Di W2.heap.size g cap kept.reverse X5 hrow2 (by simpa using hne) (by rw [hrl]; omega);rw [hrl,List.reverse_reverse] at hrev;have HREV:=ag hrev;have bc:=hR.bx.c;have hgN:=(hrow.lt g rfl).1;have hgl:=(hrow.lt g rfl).2;have hBl:=hR.bel;have hbkg:wz.heap.size + 1 + 1 + 1 ≠ g:=by omega
    obtain ⟨cur,VK⟩:=dV hrow (g:=g) rfl;have hbx:=hR.bx;have UA:=ag hpv;clear hrev hrow2 hrow hR XY hpv hS hm hrl hxl
    gi_wp2_with fail
    refine ⟨trivial,(callsIn_wide.2 HREV.out).mono ?_⟩;rintro e X6 ⟨rfl,hown,hchg⟩;have hbx6:bZ X6 (wz.heap.size + 1 + 1 + 1) (.slice (some ⟨g,0,none⟩) kept.length cap) 38:=(hchg.block _ (Array.getElem?_eq_some_iff.1 hbx).1 hbkg).trans hbx;have bc6:=hbx6.c;have hB6:Below w.heap.size w X6:=hBl.trans (hchg.below (fun z hz=>by subst hz; omega) hBl.size);have hD6:X6.heap[Dd]?=some (.deferred (some [])):=(hchg.block _ (Array.getElem?_eq_some_iff.1 ZZ).1 (fun e=>by
     rw [e,VK] at ZZ;cases ZZ)).trans ZZ
    have hmk:({ target:=.collected Dd,args:=#[] }::[]:List Deferred)=marks [Dd]:=rfl;have HOW:=ag hown;have HBL:=ag hB6;have HD6:=ag hD6;have hwN:w.heap.size < W2.heap.size:=by omega
    clear hown hB6 hD6 hchg hBl hbx ZZ VK HREV bc hbx6;rw [hmk];clear hmk;gi_wp2;refine mX w.heap.size (fun Z=>Z.ownsRow W2.heap.size 42 5 (.slice (some ⟨g,0,none⟩) kept.length cap) kept.length (au kept)∧Below w.heap.size w Z) (fun Z r hr hZ hd=>⟨bz hZ.1 fun z hz=>ko fun e=>?_,?_⟩) (fun Z hZ=>⟨_,results_tmp rfl _ _ _,⟨_,rfl,?_⟩,hZ.2⟩) [Dd] X6 ⟨by simp,fun r hr=>by rw [Sm.1 hr]; exact HD6.out⟩ (fun r hr=>by rw [Sm.1 hr]; omega) ⟨HOW.out,HBL.out⟩
    ·obtain ⟨cur,e2⟩:=dV hZ.1 hz;rw [e,hd] at e2; cases e2
    ·exact hZ.2.grown (grownBy_putObj' Z r _) hZ.2.size (fun z e=>by injection e with e; omega)
    ·rw [← UA.out];exact iZ hZ.1 (by omega)
end
end Go.Proofs.YtdaoiceeidoehaaGreat
