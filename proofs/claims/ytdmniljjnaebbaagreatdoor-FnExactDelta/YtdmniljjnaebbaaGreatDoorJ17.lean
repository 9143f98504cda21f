/- A change of right tuples, on plain lists: its code, the tuples behind it, a log of changes; where a search by halves ends. -/
import Derived.Test.YtdmniljjnaebbaaGreatDoorSq
import Derived.Test.YtdmniljjnaebbaaGreatDoorShelfW
import Derived.Laws.AppendOwnNone
import Derived.Test.YtdmniljjnaebbaaGreatDoorJ16
import Derived.Test.YtdmniljjnaebbaaGreatDoorJ13
open Go.Proofs.Tryz
set_option maxHeartbeats 80000000
namespace Go.Proofs.YtdmniljjnaebbaaGreatDoor
open Pl
def bf (fit:Tp→Bool) (ts:List Tp) (k:Int) (t:Tp):Int :=
  if (k=1 ∨ k=2)∧t.ok=true then
    (if k=2 then (if gH ts t then 0 else 5)
     else if fit t then (if gH ts t then 4 else if 40≤ts.length then 6 else 0) else 3)
  else 2
def fo (ts:List Tp) (k:Int) (t:Tp):List Tp:=if k=2 then dL ts t else jZ ts t
theorem ko {fit:Tp→Bool} {ts:List Tp} {k:Int} {t:Tp} (h:¬ ((k=1 ∨ k=2)∧t.ok=true)):bf fit ts k t=2:=by unfold bf; rw [if_neg h]
theorem qc {fit:Tp→Bool} {ts:List Tp} {t:Tp} (ht:t.ok=true):bf fit ts 2 t=if gH ts t then 0 else 5:=by unfold bf; rw [if_pos ⟨.inr rfl,ht⟩,if_pos rfl]
theorem mH {fit:Tp→Bool} {ts:List Tp} {t:Tp} (ht:t.ok=true):bf fit ts 1 t=if fit t then (if gH ts t then 4 else if 40≤ts.length then 6 else 0) else 3:=by unfold bf; rw [if_pos ⟨.inl rfl,ht⟩,if_neg (by decide)]
theorem BA {fit:Tp→Bool} {ts:List Tp} {k:Int} {t:Tp} (h:bf fit ts k t=0):t.ok=true∧((k=2∧t ∈ ts) ∨ (k=1∧fit t=true∧t ∉ ts∧ts.length < 40)):=by
 by_cases hf:(k=1 ∨ k=2)∧t.ok=true
 ·refine ⟨hf.2,?_⟩;rcases hf.1 with rfl | rfl
  ·rw [mH hf.2] at h;cases h1:fit t;case false=>rw [h1] at h; simp at h
   rw [h1] at h;cases h2:gH ts t;case true=>rw [h2] at h; simp at h
   rw [h2] at h;by_cases h3:40≤ts.length
   ·rw [if_pos h3] at h; simp at h
   exact .inr ⟨rfl,rfl,fun hm=>absurd (Ef.2 hm) (by rw [h2]; decide),by omega⟩
  rw [qc hf.2] at h;cases h2:gH ts t;case true=>exact .inl ⟨rfl,Ef.1 h2⟩
  rw [h2] at h; simp at h
 rw [ko hf] at h; cases h
theorem yT (ts:List Tp) (t:Tp):(jZ ts t).length=ts.length + 1:=by
 induction ts with
 | nil=>rfl
 | cons x xs ih =>
  unfold jZ;cases x.ahead t;case true=>simp only [if_true,List.length_cons,ih]
  simp
theorem Hw {fit:Tp→Bool} {ts:List Tp} {k:Int} {t:Tp} (hu:Up ts) (hok:∀ x ∈ ts,x.ok=true) (hl:ts.length≤40) (h:bf fit ts k t=0) :
  Up (fo ts k t)∧(∀ x ∈ fo ts k t,x.ok=true)∧(fo ts k t).length≤40:=by
 obtain ⟨ht,⟨rfl,hm⟩ | ⟨rfl,hf,hn,hlt⟩⟩:=BA h
 ·unfold fo; rw [if_pos rfl];exact ⟨Ee t hu,fun x hx=>hok x ((uh ts t x).1 hx).1,Sq (List.length_filter_le _ _) hl⟩
 unfold fo; rw [if_neg (by decide)];refine ⟨OM hu hok ht hn,fun x hx=>?_,by rw [yT]; omega⟩;rcases (yx ts t x).1 hx with rfl | h1
 ·exact ht
 exact hok x h1
structure LowT (ts:List Tp) (t:Tp) (n:Nat):Prop where
 le:n≤ts.length
 low:∀ i (h:i < ts.length),i < n→ts[i].ahead t=true
 high:∀ i (h:i < ts.length),n≤i→ts[i].ahead t=false
theorem M9 {ts:List Tp} (hu:Up ts) {i j:Nat} (hi:i < ts.length) (hj:j < ts.length) (hij:i < j):ts[i].ahead ts[j]=true:=(List.pairwise_iff_getElem.1 hu) i j hi hj hij
theorem Na {ts:List Tp} {t:Tp} (hu:Up ts) {m:Nat} (hm:m < ts.length) (h:ts[m].ahead t=true):∀ i (hi:i < ts.length),i < m + 1→ts[i].ahead t=true:=fun i hi him=>by
 by_cases e:i=m
 ·subst e; exact h
 exact jE (M9 hu hi hm (by omega)) h
theorem Ko {ts:List Tp} {t:Tp} (hu:Up ts) {m:Nat} (hm:m < ts.length) (h:ts[m].ahead t=false):∀ i (hi:i < ts.length),m≤i→ts[i].ahead t=false:=fun i hi him=>by
 by_cases e:i=m
 ·subst e; exact h
 cases hc:ts[i].ahead t;case false=>rfl
 rw [jE (M9 hu hm hi (by omega)) hc] at h; cases h
theorem O6 {ts:List Tp} {t:Tp} {n:Nat} (h:LowT ts t n):jZ ts t=ts.take n ++ t::ts.drop n :=
 Cz ts t n h.le h.low fun hn=>h.high n hn (Sj _)
theorem Nb {ts:List Tp} {t:Tp} {n:Nat} (h:LowT ts t n) (hu:Up ts) (hm:t ∈ ts):∃ hn:n < ts.length,ts[n]=t:=by
 obtain ⟨i,hi,e⟩:=List.getElem_of_mem hm;have h1:¬ i < n:=fun hl=>by
  have:=h.low i hi hl;rw [e,iU] at this; cases this
 refine ⟨by omega,?_⟩;by_cases e2:n=i
 ·subst e2; exact e
 have h2:=M9 hu (i:=n) (j:=i) (by omega) hi (by omega);rw [e,h.high n (by omega) (Sj _)] at h2; cases h2
theorem Nc {ts:List Tp} {t:Tp} {n:Nat} (h:LowT ts t n) (hu:Up ts) (hm:t ∈ ts):dL ts t=ts.take n ++ ts.drop (n + 1):=by
 obtain ⟨hn,e⟩:=Nb h hu hm;refine QA (Ee t hu) ?_ fun x=>?_
 ·have:(ts.take n ++ ts.drop (n + 1)).Sublist ts:=by
   conv=>rhs; rw [← Td n ts]
   exact (List.Sublist.refl _).append (List.drop_sublist_drop_left ts (by omega))
  exact List.Pairwise.sublist this hu
 rw [uh];have hsp:ts=ts.take n ++ t::ts.drop (n + 1):=by rw [← e,← SH hn,Td]
 have hnd:t ∉ ts.take n∧t ∉ ts.drop (n + 1):=by
  have hu2:=hu;rw [hsp] at hu2;have hp:=List.pairwise_append.1 hu2;have hp2:=List.pairwise_cons.1 hp.2.1;refine ⟨fun hx=>?_,fun hx=>?_⟩
  ·have:=hp.2.2 t hx t (by simp);rw [iU] at this; cases this
  have:=hp2.1 t hx;rw [iU] at this; cases this
 constructor
 ·rintro ⟨h1,h2⟩;rw [hsp] at h1;rcases Sz.1 h1 with h3 | h3
  ·exact Sz.2 (.inl h3)
  rcases List.mem_cons.1 h3 with h4 | h4
  ·exact absurd h4 h2
  exact Sz.2 (.inr h4)
 intro h1;rcases Sz.1 h1 with h3 | h3
 ·exact ⟨List.mem_of_mem_take h3,fun e=>hnd.1 (e ▸ h3)⟩
 exact ⟨List.mem_of_mem_drop h3,fun e=>hnd.2 (e ▸ h3)⟩
open Go.ChangeAt Go.ChangeShapes Go.RowKit Go.WideShapes
set_option maxRecDepth 100000
theorem BB (x y:Tp):lG x y=lG y x:=by
 rw [Bool.eq_iff_iff,lX,lX];exact ⟨Eq.symm,Eq.symm⟩
theorem Kq {ts:List Tp} {t:Tp} {k:Nat} (h:k < ts.length):gH (ts.take (k + 1)) t=(gH (ts.take k) t || lG ts[k] t):=by
 rw [Sk h];unfold gH;rw [List.any_append];simp only [List.any_cons,List.any_nil,Bool.or_false]
theorem Nf {ts:List Tp} {t:Tp} {k:Nat} (h:k < ts.length) (he:lG ts[k] t=true):gH ts t=true:=SY.2 ⟨ts[k],Sd h,he⟩
theorem Hy (ad:Option Addr) (cap:Nat) (ts:List Tp) (t:Tp) (w:af) (hlen:ts.length≤1048576) (hs:Sl w ad ts) :
  Calls prog 185 #[.slice ad ts.length cap,.agg #[.string t.a,.string t.b,.string t.r,.string t.c,.string t.d,.string t.s]] w fun e w'=>(∃ r:Int,e=.returned (.int .i64 r)∧decide (0≤r)=gH ts t)∧aa w w':=by
 obtain ⟨W,hW⟩:∃ W,W=w.alloc (.cells #[.string t.a,.string t.b,.string t.r,.string t.c,.string t.d,.string t.s] 42):=⟨_,rfl⟩;have HB0:Hid (aa w W):=by show Below _ _ _; rw [hW]; exact (Si w.heap.size w).alloc (Sj _) _
 have hz:w.heap.size < W.heap.size:=by rw [hW]; simp
 have b0:W.cell? ⟨w.heap.size,0,none⟩=some (.string t.a):=by rw [hW]; simp
 have b1:W.cell? ⟨w.heap.size,1,none⟩=some (.string t.b):=by rw [hW]; simp
 have b2:W.cell? ⟨w.heap.size,2,none⟩=some (.string t.r):=by rw [hW]; simp
 have b3:W.cell? ⟨w.heap.size,3,none⟩=some (.string t.c):=by rw [hW]; simp
 have b4:W.cell? ⟨w.heap.size,4,none⟩=some (.string t.d):=by rw [hW]; simp
 have b5:W.cell? ⟨w.heap.size,5,none⟩=some (.string t.s):=by rw [hW]; simp
 have HS:=ay (hs.below HB0.out);clear hs;go_enter func185,ntmps185;go_wp2_with fail;rw [← hW];clear hW;go_loopw [8] (fun i wr=>∃ k:Nat,k≤ts.length∧i=.int .i64 k∧Hid (gH (ts.take k) t=false)∧aa W wr) (fun i _=>ts.length - (intOf i).toNat);case atStart=>exact ⟨0,Sm _,rfl,rfl,Si _ _⟩
 obtain ⟨k,hk,rfl,HP,hB⟩:=hrel;have a0:=aO hB hz b0;have a1:=aO hB hz b1;have a2:=aO hB hz b2;have a3:=aO hB hz b3;have a4:=aO hB hz b4;have a5:=aO hB hz b5;by_cases hlt:k < ts.length
 ·rcases HS.out.below hB with hnil | ⟨b,off,rfl,hb,hr⟩
  ·rw [hnil] at hlt; simp at hlt
  obtain ⟨t0,t1,t2,t3,t4,t5⟩:=hr k hlt;have hk1:=bH k;have hk2:(k:Int) < (ts.length:Int):=by omega
  clear hr;cases hq:lG t ts[k];case true=>
   have HE:=Cs t ts[k] hq;have HN:Hid (gH ts t=true):=Nf hlt (by rw [BB]; exact hq);go_wp2_with fail;go_quiet (fail);go_wp2;go_ret;exact ⟨⟨_,rfl,by rw [HN.out]; simp⟩,HB0.out.trans (below_drewN (hB.mono HB0.out.size) _)⟩
  have HE:=Cs t ts[k] hq;have Tu:Hid (gH (ts.take (k + 1)) t=false):=by show _=_; rw [Kq hlt,HP.out,BB,hq]; rfl
  go_wp2_with fail;go_quiet (fail);go_wp2;go_roundw;case rel=>exact ⟨k + 1,by omega,by go_num,Tu,below_drewN hB _⟩
  simp [intOf] <;> omega
 obtain rfl:k=ts.length:=by omega
 have HN:Hid (gH ts t=false):=by have:=HP.out; rw [Su] at this; exact this
 go_wp2;go_ret;exact ⟨⟨-1,rfl,by rw [HN.out]; rfl⟩,HB0.out.trans (hB.mono HB0.out.size)⟩
theorem Ac (ad:Option Addr) (cap:Nat) (ts:List Tp) (t:Tp) (w:af) (hlen:ts.length≤1048576) (hs:Sl w ad ts) :
  Calls prog 155 #[.slice ad ts.length cap,.agg #[.string t.a,.string t.b,.string t.r,.string t.c,.string t.d,.string t.s]] w fun e w'=>e=.returned (.bool (gH ts t))∧aa w w':=by
 have HB0:Hid (aa w (w.alloc (.cells #[.string t.a,.string t.b,.string t.r,.string t.c,.string t.d,.string t.s] 42))):=(Si w.heap.size w).alloc (Sj _) _;have HS:=au hs;clear hs;go_enter func155,ntmps155;go_wp2_with fail;refine (Hy ad cap ts t _ hlen (HS.out.below HB0.out)).mono ?_;rintro e w1 ⟨⟨r,rfl,hr⟩,hb1⟩;have HR:=au hr;have HB1:=au (HB0.out.trans (hb1.mono HB0.out.size));clear hr hb1;go_wp2;go_ret;exact ⟨ah HR.out,HB1.out⟩
set_option linter.unusedVariables false
def Jg (x t:Tp):Int:=D6 x.a x.b x.r x.c x.d x.s t.a t.b t.r t.c t.d t.s
theorem Kr {x t:Tp} (hx:x.ok=true) (ht:t.ok=true):x.ahead t=decide (Jg x t < 0):=xU hx ht
theorem BC (x t:Tp) (w:af) (hx:x.fits) (ht:t.fits) :
  Calls prog 100 #[.agg #[.string x.a,.string x.b,.string x.r,.string x.c,.string x.d,.string x.s],.agg #[.string t.a,.string t.b,.string t.r,.string t.c,.string t.d,.string t.s]] w fun e w'=>e=.returned (.int .i64 (Jg x t))∧aa w w':=by
 obtain ⟨f0,f1,f2,f3,f4,f5⟩:=hx;obtain ⟨g0,g1,g2,g3,g4,g5⟩:=ht;exact kY _ _ _ _ _ _ _ _ _ _ _ _ w f0 f1 f2 f3 f4 f5 g0 g1 g2 g3 g4 g5
theorem CZ {w W w':af} {n m p:Nat} {x0 x1 x2 x3 x4 x5 y0 y1 y2 y3 y4 y5:Value} (h:W.cell? ⟨n,p,none⟩=some x0∧W.cell? ⟨n,p + 1,none⟩=some x1∧W.cell? ⟨n,p + 2,none⟩=some x2∧W.cell? ⟨n,p + 3,none⟩=some x3∧W.cell? ⟨n,p + 4,none⟩=some x4∧W.cell? ⟨n,p + 5,none⟩=some x5∧W.cell? ⟨m,0,none⟩=some y0∧W.cell? ⟨m,1,none⟩=some y1∧W.cell? ⟨m,2,none⟩=some y2∧W.cell? ⟨m,3,none⟩=some y3∧W.cell? ⟨m,4,none⟩=some y4∧W.cell? ⟨m,5,none⟩=some y5∧n < W.heap.size∧m < W.heap.size∧aa w W) (hb:aa W w'):w'.cell? ⟨n,p,none⟩=some x0∧w'.cell? ⟨n,p + 1,none⟩=some x1∧w'.cell? ⟨n,p + 2,none⟩=some x2∧w'.cell? ⟨n,p + 3,none⟩=some x3∧w'.cell? ⟨n,p + 4,none⟩=some x4∧w'.cell? ⟨n,p + 5,none⟩=some x5∧w'.cell? ⟨m,0,none⟩=some y0∧w'.cell? ⟨m,1,none⟩=some y1∧w'.cell? ⟨m,2,none⟩=some y2∧w'.cell? ⟨m,3,none⟩=some y3∧w'.cell? ⟨m,4,none⟩=some y4∧w'.cell? ⟨m,5,none⟩=some y5∧n < w'.heap.size∧m < w'.heap.size∧aa w w':=by
 obtain ⟨h0,h1,h2,h3,h4,h5,g0,g1,g2,g3,g4,g5,hn,hm,hB⟩:=h;have hc:∀ o,w'.cell? ⟨n,o,none⟩=W.cell? ⟨n,o,none⟩:=fun o=>hb.cell (p:=⟨n,o,none⟩) hn;have hd:∀ o,w'.cell? ⟨m,o,none⟩=W.cell? ⟨m,o,none⟩:=fun o=>hb.cell (p:=⟨m,o,none⟩) hm;exact ⟨(hc _).trans h0,(hc _).trans h1,(hc _).trans h2,(hc _).trans h3,(hc _).trans h4,(hc _).trans h5,(hd _).trans g0,(hd _).trans g1,(hd _).trans g2,(hd _).trans g3,(hd _).trans g4,(hd _).trans g5,Sg hn hb.size,Sg hm hb.size,hB.trans (hb.mono hB.size)⟩
theorem EP (ad:Option Addr) (cap:Nat) (ts:List Tp) (t:Tp) (w:af) (hlen:ts.length≤1048576) (hs:Sl w ad ts) (hf:∀ x ∈ ts,x.fits) (htf:t.fits) (hu:Up ts) (hok:∀ x ∈ ts,x.ok=true) (ht:t.ok=true) :
  Calls prog 109 #[.slice ad ts.length cap,.agg #[.string t.a,.string t.b,.string t.r,.string t.c,.string t.d,.string t.s],.func (.func 100) #[] #[]] w fun e w'=>(∃ (n:Nat) (q:Bool),e=.returned (.tuple #[.int .i64 n,.bool q])∧LowT ts t n)∧aa w w':=by
 have HS:=au hs;have HF:=au hf;have HU:=au hu;have TS:=au hok;clear hs hf hu hok;obtain ⟨W,hW⟩:∃ W,W=w.alloc (.cells #[.string t.a,.string t.b,.string t.r,.string t.c,.string t.d,.string t.s] 42):=⟨_,rfl⟩;have HB0:Hid (aa w W):=by show Below _ _ _; rw [hW]; exact (Si w.heap.size w).alloc (Sj _) _
 have HX0:Hid (qj W w.heap.size t):=by show qj _ _ _; rw [hW]; exact CE w t _
 go_enter func109,ntmps109;go_wp2_with fail;rw [← hW];clear hW;go_loopw [9,10] (fun a b wr=>∃ lo hi:Nat,a=.int .i64 lo∧b=.int .i64 hi∧lo≤hi∧hi≤ts.length∧Hid (aa W wr)∧Hid ((∀ i (h:i < ts.length),i < lo→ts[i].ahead t=true)∧∀ i (h:i < ts.length),hi≤i→ts[i].ahead t=false)) (fun a b _=>(intOf b).toNat - (intOf a).toNat);case atStart=>exact ⟨0,ts.length,rfl,rfl,Sm _,Sj _,Si _ _,fun i h hl=>absurd hl (SV _),fun i h hl=>by omega⟩
 obtain ⟨lo,hi,rfl,rfl,hlh,hin,HB,HI⟩:=hrel;have Tt:=au (HB0.out.trans (HB.out.mono HB0.out.size));obtain ⟨a0,a1,a2,a3,a4,a5,al⟩:=HX0.out.below HB.out;by_cases hlt:lo < hi
 ·have hm:(lo + hi) / 2 < ts.length:=by omega
  rcases HS.out.below Tt.out with hnil | ⟨b,off,rfl,hb,hr⟩
  ·rw [hnil] at hm; simp at hm
  obtain ⟨m,hmm⟩:∃ m,m=(lo + hi) / 2:=⟨_,rfl⟩;rw [← hmm] at hm;obtain ⟨t0,t1,t2,t3,t4,t5⟩:=hr m hm;have HC:=fun W=>au (BC ts[m] t W (HF.out _ (Sd hm)) htf);have HA:=au (Kr (TS.out _ (Sd hm)) ht);have hm0:=bH m;have hm1:(m:Int) < (ts.length:Int):=by omega
  have hmi:((lo:Int) + (hi:Int)) / 2=(m:Int):=by omega
  have hlm:lo≤m∧m < hi:=by omega
  clear hr hmm;have H0:Hid ((fun w'=>w'.cell? ⟨b,off + m * 6,none⟩=some (.string ts[m].a)∧w'.cell? ⟨b,off + m * 6 + 1,none⟩=some (.string ts[m].b)∧w'.cell? ⟨b,off + m * 6 + 2,none⟩=some (.string ts[m].r)∧w'.cell? ⟨b,off + m * 6 + 3,none⟩=some (.string ts[m].c)∧w'.cell? ⟨b,off + m * 6 + 4,none⟩=some (.string ts[m].d)∧w'.cell? ⟨b,off + m * 6 + 5,none⟩=some (.string ts[m].s)∧w'.cell? ⟨w.heap.size,0,none⟩=some (.string t.a)∧w'.cell? ⟨w.heap.size,1,none⟩=some (.string t.b)∧w'.cell? ⟨w.heap.size,2,none⟩=some (.string t.r)∧w'.cell? ⟨w.heap.size,3,none⟩=some (.string t.c)∧w'.cell? ⟨w.heap.size,4,none⟩=some (.string t.d)∧w'.cell? ⟨w.heap.size,5,none⟩=some (.string t.s)∧b < w'.heap.size∧w.heap.size < w'.heap.size∧aa W w') wr.drew):=⟨t0,t1,t2,t3,t4,t5,a0,a1,a2,a3,a4,a5,hb,al,HB.out.drew⟩;clear t0 t1 t2 t3 t4 t5 a0 a1 a2 a3 a4 a5 al;by_cases hc:Jg ts[m] t < 0
  ·go_wp2_with fail
   go_region_held3 (fun w'=>w'.cell? ⟨b,off + m * 6,none⟩=some (.string ts[m].a)∧w'.cell? ⟨b,off + m * 6 + 1,none⟩=some (.string ts[m].b)∧w'.cell? ⟨b,off + m * 6 + 2,none⟩=some (.string ts[m].r)∧w'.cell? ⟨b,off + m * 6 + 3,none⟩=some (.string ts[m].c)∧w'.cell? ⟨b,off + m * 6 + 4,none⟩=some (.string ts[m].d)∧w'.cell? ⟨b,off + m * 6 + 5,none⟩=some (.string ts[m].s)∧w'.cell? ⟨w.heap.size,0,none⟩=some (.string t.a)∧w'.cell? ⟨w.heap.size,1,none⟩=some (.string t.b)∧w'.cell? ⟨w.heap.size,2,none⟩=some (.string t.r)∧w'.cell? ⟨w.heap.size,3,none⟩=some (.string t.c)∧w'.cell? ⟨w.heap.size,4,none⟩=some (.string t.d)∧w'.cell? ⟨w.heap.size,5,none⟩=some (.string t.s)∧b < w'.heap.size∧w.heap.size < w'.heap.size∧aa W w')
    (first | assumption | exact CZ (by assumption) hbx | exact H0.out)
    (first | (go_at_call 100; refine (HC _).out.mono ?_; rintro e w' ⟨rfl,hbx⟩))
   rename_i hH;have Xf:=au hH.2.2.2.2.2.2.2.2.2.2.2.2.2.2;have HIN:Hid ((∀ i (h:i < ts.length),i < m + 1→ts[i].ahead t=true)∧∀ i (h:i < ts.length),hi≤i→ts[i].ahead t=false):=⟨Na HU.out hm (by rw [HA.out]; exact decide_eq_true hc),HI.out.2⟩;clear hH;go_wp2;go_roundw;case rel=>exact ⟨m + 1,hi,by go_num,rfl,by omega,hin,Xf,HIN⟩
   simp [intOf]; omega
  go_wp2_with fail
  go_region_held3 (fun w'=>w'.cell? ⟨b,off + m * 6,none⟩=some (.string ts[m].a)∧w'.cell? ⟨b,off + m * 6 + 1,none⟩=some (.string ts[m].b)∧w'.cell? ⟨b,off + m * 6 + 2,none⟩=some (.string ts[m].r)∧w'.cell? ⟨b,off + m * 6 + 3,none⟩=some (.string ts[m].c)∧w'.cell? ⟨b,off + m * 6 + 4,none⟩=some (.string ts[m].d)∧w'.cell? ⟨b,off + m * 6 + 5,none⟩=some (.string ts[m].s)∧w'.cell? ⟨w.heap.size,0,none⟩=some (.string t.a)∧w'.cell? ⟨w.heap.size,1,none⟩=some (.string t.b)∧w'.cell? ⟨w.heap.size,2,none⟩=some (.string t.r)∧w'.cell? ⟨w.heap.size,3,none⟩=some (.string t.c)∧w'.cell? ⟨w.heap.size,4,none⟩=some (.string t.d)∧w'.cell? ⟨w.heap.size,5,none⟩=some (.string t.s)∧b < w'.heap.size∧w.heap.size < w'.heap.size∧aa W w')
   (first | assumption | exact CZ (by assumption) hbx | exact H0.out)
   (first | (go_at_call 100; refine (HC _).out.mono ?_; rintro e w' ⟨rfl,hbx⟩))
  rename_i hH;have Xf:=au hH.2.2.2.2.2.2.2.2.2.2.2.2.2.2;have HIN:Hid ((∀ i (h:i < ts.length),i < lo→ts[i].ahead t=true)∧∀ i (h:i < ts.length),m≤i→ts[i].ahead t=false):=⟨HI.out.1,Ko HU.out hm (by rw [HA.out]; exact decide_eq_false (by omega))⟩;clear hH;go_wp2;go_roundw;case rel=>exact ⟨lo,m,rfl,by go_num,by omega,by omega,Xf,HIN⟩
  simp [intOf]; omega
 obtain rfl:hi=lo:=by omega
 have Xy:Hid (LowT ts t hi):=⟨hin,HI.out.1,HI.out.2⟩;by_cases hlt2:hi < ts.length
 ·rcases HS.out.below Tt.out with hnil | ⟨b,off,rfl,hb,hr⟩
  ·rw [hnil] at hlt2; simp at hlt2
  obtain ⟨t0,t1,t2,t3,t4,t5⟩:=hr hi hlt2;have HC:=fun W=>au (BC ts[hi] t W (HF.out _ (Sd hlt2)) htf);have hm0:=bH hi;have hm1:(hi:Int) < (ts.length:Int):=by omega
  have hd:decide ((hi:Int) < (ts.length:Int))=true:=decide_eq_true hm1;have hdh:decide ((hi:Int) < (hi:Int))=false:=by simp
  clear hr;have H0:Hid ((fun w'=>w'.cell? ⟨b,off + hi * 6,none⟩=some (.string ts[hi].a)∧w'.cell? ⟨b,off + hi * 6 + 1,none⟩=some (.string ts[hi].b)∧w'.cell? ⟨b,off + hi * 6 + 2,none⟩=some (.string ts[hi].r)∧w'.cell? ⟨b,off + hi * 6 + 3,none⟩=some (.string ts[hi].c)∧w'.cell? ⟨b,off + hi * 6 + 4,none⟩=some (.string ts[hi].d)∧w'.cell? ⟨b,off + hi * 6 + 5,none⟩=some (.string ts[hi].s)∧w'.cell? ⟨w.heap.size,0,none⟩=some (.string t.a)∧w'.cell? ⟨w.heap.size,1,none⟩=some (.string t.b)∧w'.cell? ⟨w.heap.size,2,none⟩=some (.string t.r)∧w'.cell? ⟨w.heap.size,3,none⟩=some (.string t.c)∧w'.cell? ⟨w.heap.size,4,none⟩=some (.string t.d)∧w'.cell? ⟨w.heap.size,5,none⟩=some (.string t.s)∧b < w'.heap.size∧w.heap.size < w'.heap.size∧aa W w') wr.drew):=⟨t0,t1,t2,t3,t4,t5,a0,a1,a2,a3,a4,a5,hb,al,HB.out.drew⟩;clear t0 t1 t2 t3 t4 t5 a0 a1 a2 a3 a4 a5 al;go_wp2_with fail
  go_region_held3 (fun w'=>w'.cell? ⟨b,off + hi * 6,none⟩=some (.string ts[hi].a)∧w'.cell? ⟨b,off + hi * 6 + 1,none⟩=some (.string ts[hi].b)∧w'.cell? ⟨b,off + hi * 6 + 2,none⟩=some (.string ts[hi].r)∧w'.cell? ⟨b,off + hi * 6 + 3,none⟩=some (.string ts[hi].c)∧w'.cell? ⟨b,off + hi * 6 + 4,none⟩=some (.string ts[hi].d)∧w'.cell? ⟨b,off + hi * 6 + 5,none⟩=some (.string ts[hi].s)∧w'.cell? ⟨w.heap.size,0,none⟩=some (.string t.a)∧w'.cell? ⟨w.heap.size,1,none⟩=some (.string t.b)∧w'.cell? ⟨w.heap.size,2,none⟩=some (.string t.r)∧w'.cell? ⟨w.heap.size,3,none⟩=some (.string t.c)∧w'.cell? ⟨w.heap.size,4,none⟩=some (.string t.d)∧w'.cell? ⟨w.heap.size,5,none⟩=some (.string t.s)∧b < w'.heap.size∧w.heap.size < w'.heap.size∧aa W w')
   (first | assumption | exact CZ (by assumption) hbx | exact H0.out)
   (first | (go_at_call 100; refine (HC _).out.mono ?_; rintro e w' ⟨rfl,hbx⟩))
  rename_i hH;have Xf:=au hH.2.2.2.2.2.2.2.2.2.2.2.2.2.2;go_wp2;exact bodyPost_ret (v:=.tuple #[.int .i64 hi,.bool (Jg ts[hi] t == 0)]) (by simp [results,Tryz.results109,go_sem]) rfl ⟨⟨hi,_,rfl,Xy.out⟩,HB0.out.trans (Xf.out.mono HB0.out.size)⟩
 have hd:decide ((hi:Int) < (ts.length:Int))=false:=by simp; omega
 have hdh:decide ((hi:Int) < (hi:Int))=false:=by simp
 go_wp2_with fail;go_quiet (fail);go_wp2;exact bodyPost_ret (v:=.tuple #[.int .i64 hi,.bool false]) (by simp [results,Tryz.results109,go_sem]) rfl ⟨⟨hi,_,rfl,Xy.out⟩,HB0.out.trans (below_drewN (HB.out.mono HB0.out.size) _)⟩
open Go.Maps
set_option maxRecDepth 8000 in
theorem Kt (b off cap:Nat) (ts:List Tp) (t:Tp) (w:af) (hlen:ts.length≤1000) (hcap:ts.length≤cap) (hs:dF w b off ts) (hb:b < w.heap.size) (hf:∀ x ∈ ts,x.fits) (ht:t.fits) :
  Calls prog 80 #[.slice (some ⟨b,off,none⟩) ts.length cap,.agg #[.string t.a,.string t.b,.string t.r,.string t.c,.string t.d,.string t.s]] w fun e w'=>∃ v:Value,e=.returned v∧w'.ownsRow w.heap.size 42 6 v (jZ ts t).length (aD (jZ ts t))∧aa w w':=by
 obtain ⟨iT,hiT,zT0,zT1,zT2⟩:=info_parts (P:=prog) (e:=42) (z:=.agg #[.string ⟨#[]⟩,.string ⟨#[]⟩,.string ⟨#[]⟩,.string ⟨#[]⟩,.string ⟨#[]⟩,.string ⟨#[]⟩]) (size:=6) (bytes:=96) (by kernel_rfl);have HIT:Hid (prog.info? 42=some iT∧iT.zero=some (.agg #[.string ⟨#[]⟩,.string ⟨#[]⟩,.string ⟨#[]⟩,.string ⟨#[]⟩,.string ⟨#[]⟩,.string ⟨#[]⟩])∧iT.size=6∧iT.bytes=96):=⟨hiT,zT0,zT1,zT2⟩;have HS:=ay hs;have HF:=ay hf;have HT:Hid t.fits:=ht;clear hs hf ht hiT zT0 zT1 zT2;obtain ⟨W0,hW0⟩:∃ W0,W0=w.alloc (.cells #[.string t.a,.string t.b,.string t.r,.string t.c,.string t.d,.string t.s] 42):=⟨_,rfl⟩;have HB0:=mY hW0;have HX0:Hid (qj W0 w.heap.size t):=by show qj _ _ _; rw [hW0]; exact CE w t _
 go_enter func80,ntmps80;go_wp2;rw [← hW0];clear hW0;go_loopw [5] (fun i wr=>∃ k:Nat,k≤ts.length∧i=.int .i64 k∧Hid (∀ i (h:i < ts.length),i < k→ts[i].ahead t=true)∧Hid (aa w wr)∧Hid (qj wr w.heap.size t)) (fun i _=>ts.length - (intOf i).toNat);case atStart=>exact ⟨0,Sm _,rfl,fun i h hi=>by omega,HB0,HX0⟩
 clear HX0 HB0;obtain ⟨k,hk,rfl,HU,HB,HX⟩:=hrel;have hk1:=bH k;by_cases hlt:k < ts.length
 ·have hk2:(k:Int) < (ts.length:Int):=by omega
  obtain ⟨t0,t1,t2,t3,t4,t5⟩:=(HS.out.below HB.out hb) k hlt;obtain ⟨x0,x1,x2,x3,x4,x5,xl⟩:=HX.out;have hbr:b < wr.heap.size:=Sg hb HB.out.size;obtain ⟨f0,f1,f2,f3,f4,f5⟩:=HF.out _ (Sd hlt);obtain ⟨e0,e1,e2,e3,e4,e5⟩:=HT.out;have HA:Hid (∀ W,Calls prog 113 #[.agg #[.string ts[k].a,.string ts[k].b,.string ts[k].r,.string ts[k].c,.string ts[k].d,.string ts[k].s],.agg #[.string t.a,.string t.b,.string t.r,.string t.c,.string t.d,.string t.s]] W fun e w'=>e=.returned (.bool (ts[k].ahead t))∧aa W w'):=fun W=>lF _ _ _ _ _ _ _ _ _ _ _ _ W f0 f1 f2 f3 f4 f5 e0 e1 e2 e3 e4 e5;clear f0 f1 f2 f3 f4 f5 e0 e1 e2 e3 e4 e5;have H0:wr.drew.cell? ⟨b,off + k * 6,none⟩=some (.string ts[k].a)∧wr.drew.cell? ⟨b,off + k * 6 + 1,none⟩=some (.string ts[k].b)∧wr.drew.cell? ⟨b,off + k * 6 + 2,none⟩=some (.string ts[k].r)∧wr.drew.cell? ⟨b,off + k * 6 + 3,none⟩=some (.string ts[k].c)∧wr.drew.cell? ⟨b,off + k * 6 + 4,none⟩=some (.string ts[k].d)∧wr.drew.cell? ⟨b,off + k * 6 + 5,none⟩=some (.string ts[k].s)∧wr.drew.cell? ⟨w.heap.size,0,none⟩=some (.string t.a)∧wr.drew.cell? ⟨w.heap.size,1,none⟩=some (.string t.b)∧wr.drew.cell? ⟨w.heap.size,2,none⟩=some (.string t.r)∧wr.drew.cell? ⟨w.heap.size,3,none⟩=some (.string t.c)∧wr.drew.cell? ⟨w.heap.size,4,none⟩=some (.string t.d)∧wr.drew.cell? ⟨w.heap.size,5,none⟩=some (.string t.s)∧b < wr.drew.heap.size∧w.heap.size < wr.drew.heap.size∧aa w wr.drew:=⟨t0,t1,t2,t3,t4,t5,x0,x1,x2,x3,x4,x5,hbr,xl,HB.out.drew⟩;clear t0 t1 t2 t3 t4 t5 x0 x1 x2 x3 x4 x5;generalize hq:ts[k].ahead t=q at HA;cases q;case true=>
   have HQ:Hid (ts[k].ahead t=true):=hq;clear hq;go_wp2_with fail
   go_region_held3 (fun w'=>w'.cell? ⟨b,off + k * 6,none⟩=some (.string ts[k].a)∧w'.cell? ⟨b,off + k * 6 + 1,none⟩=some (.string ts[k].b)∧w'.cell? ⟨b,off + k * 6 + 2,none⟩=some (.string ts[k].r)∧w'.cell? ⟨b,off + k * 6 + 3,none⟩=some (.string ts[k].c)∧w'.cell? ⟨b,off + k * 6 + 4,none⟩=some (.string ts[k].d)∧w'.cell? ⟨b,off + k * 6 + 5,none⟩=some (.string ts[k].s)∧w'.cell? ⟨w.heap.size,0,none⟩=some (.string t.a)∧w'.cell? ⟨w.heap.size,1,none⟩=some (.string t.b)∧w'.cell? ⟨w.heap.size,2,none⟩=some (.string t.r)∧w'.cell? ⟨w.heap.size,3,none⟩=some (.string t.c)∧w'.cell? ⟨w.heap.size,4,none⟩=some (.string t.d)∧w'.cell? ⟨w.heap.size,5,none⟩=some (.string t.s)∧b < w'.heap.size∧w.heap.size < w'.heap.size∧aa w w')
    (first | assumption | exact Jd (by assumption) hbx | exact H0)
    (first | (go_at_call 113; refine (HA.out _).mono ?_; rintro e w' ⟨rfl,hbx⟩))
   rename_i hH;obtain ⟨-,-,-,-,-,-,x0,x1,x2,x3,x4,x5,-,xl,gB⟩:=hH;have HB2:=aX gB;have Ud:=aX (MG x0 x1 x2 x3 x4 x5 xl);have Xo:Hid (∀ i (h:i < ts.length),i < k + 1→ts[i].ahead t=true):=fun i h hi=>by
    by_cases e:i=k
    ·subst e; exact HQ.out
    exact HU.out i h (by omega)
   clear x0 x1 x2 x3 x4 x5 gB hbx H0 HA HQ HU HB HX;go_wp2;go_roundw;case rel=>exact ⟨k + 1,by omega,by go_num,Xo,HB2,Ud⟩
   simp [intOf] <;> omega
  have HQ:Hid (ts[k].ahead t=false):=hq;clear hq;go_wp2_with fail
  go_region_held3 (fun w'=>w'.cell? ⟨b,off + k * 6,none⟩=some (.string ts[k].a)∧w'.cell? ⟨b,off + k * 6 + 1,none⟩=some (.string ts[k].b)∧w'.cell? ⟨b,off + k * 6 + 2,none⟩=some (.string ts[k].r)∧w'.cell? ⟨b,off + k * 6 + 3,none⟩=some (.string ts[k].c)∧w'.cell? ⟨b,off + k * 6 + 4,none⟩=some (.string ts[k].d)∧w'.cell? ⟨b,off + k * 6 + 5,none⟩=some (.string ts[k].s)∧w'.cell? ⟨w.heap.size,0,none⟩=some (.string t.a)∧w'.cell? ⟨w.heap.size,1,none⟩=some (.string t.b)∧w'.cell? ⟨w.heap.size,2,none⟩=some (.string t.r)∧w'.cell? ⟨w.heap.size,3,none⟩=some (.string t.c)∧w'.cell? ⟨w.heap.size,4,none⟩=some (.string t.d)∧w'.cell? ⟨w.heap.size,5,none⟩=some (.string t.s)∧b < w'.heap.size∧w.heap.size < w'.heap.size∧aa w w')
   (first | assumption | exact Jd (by assumption) hbx | exact H0)
   (first | (go_at_call 113; refine (HA.out _).mono ?_; rintro e w' ⟨rfl,hbx⟩))
  rename_i hH;obtain ⟨-,-,-,-,-,-,x0,x1,x2,x3,x4,x5,-,xl,gB⟩:=hH;have HP:=aX (Cz ts t k hk HU.out (fun _=>HQ.out));have Tt:=aX gB;have HXW:=aX (MG x0 x1 x2 x3 x4 x5 xl);clear hbx H0 HA HQ HU HB HX gB x0 x1 x2 x3 x4 x5;obtain ⟨W1,hW1⟩:∃ W1,W1=w'.alloc (.cells #[] 42):=⟨_,rfl⟩;have TG:Hid (W1.ownsRow w'.heap.size 42 6 (.slice (some ⟨w'.heap.size,0,none⟩) 0 0) 0 []):=by
   show World.ownsRow _ _ _ _ _ _ _;rw [hW1];exact World.ownsRow_lit w' #[] 0 (Sj _) (by unfold maxLen; omega) (by simp)
  have T9:=mY hW1;have HR1:Hid (dF W1 b off ts):=(HS.out.below Tt.out hb).below T9.out (Sg hb Tt.out.size);have UA:=ay (HXW.out.below T9.out);have HB1:Hid (aa w W1):=Tt.out.trans (T9.out.mono Tt.out.size);have hWs:w.heap.size < w'.heap.size:=HXW.out.2.2.2.2.2.2;have hb1:b < W1.heap.size:=Sg hb HB1.out.size;have hkc:k≤cap:=by omega
  have hz1:w'.heap.size≤W1.heap.size:=T9.out.size;clear Tt HXW T9;go_wp2_with (at_builtin; rw [← hW1]; clear hW1; refine wpList_append_own_at _ rfl _ _ 38 rfl w'.heap.size 42 iT (.agg #[.string ⟨#[]⟩,.string ⟨#[]⟩,.string ⟨#[]⟩,.string ⟨#[]⟩,.string ⟨#[]⟩,.string ⟨#[]⟩]) 6 96 underlying38 HIT.out.1 HIT.out.2.1 HIT.out.2.2.1 HIT.out.2.2.2 rfl (by decide) _ 0 [] rfl TG.out ⟨b,off,none⟩ k cap (aD (ts.take k)) rfl (by rw [eT,SL]; congr 1; omega) (ji (Ba HR1.out k)) (jk _) (by unfold maxLen; omega) (by omega) hz1 ?_);intro v2 w2 hown2 TC _ _;have Tj:Hid (w2.ownsRow w'.heap.size 42 6 v2 k (aD (ts.take k))):=by
   show World.ownsRow _ _ _ _ _ _ _
   first | exact hown2 | (rw [SG,List.nil_append] at hown2; exact hown2)
  have hne:some w.heap.size ≠ Value.ownBlock (.slice (some ⟨w'.heap.size,0,none⟩) 0 0):=fun e=>by simp [Value.ownBlock] at e; omega
  have hnb:some b ≠ Value.ownBlock (.slice (some ⟨w'.heap.size,0,none⟩) 0 0):=fun e=>by simp [Value.ownBlock] at e; omega
  have Ud:Hid (qj w2 w.heap.size t):=UA.out.grown TC hne;have HR2:Hid (dF w2 b off ts):=nE HR1.out TC hb1 hnb;have HB2:Hid (aa w w2):=HB1.out.grown TC HB1.out.size (fun g hg=>by simp [Value.ownBlock] at hg; omega);have hz2:w'.heap.size≤w2.heap.size:=Sq hz1 TC.size;clear hown2 TC TG UA HR1 HB1 hne hnb;obtain ⟨x0,x1,x2,x3,x4,x5,xl2⟩:=Ud.out;obtain ⟨W3,hW3⟩:∃ W3,W3=w2.alloc (.cells #[.string t.a,.string t.b,.string t.r,.string t.c,.string t.d,.string t.s] 42):=⟨_,rfl⟩;have TD:Hid (W3.ownsRow w'.heap.size 42 6 v2 k (aD (ts.take k))):=by show World.ownsRow _ _ _ _ _ _ _; rw [hW3]; exact Tj.out.alloc _
  have WG:Hid (∀ j u,t.row[j]?=some u→W3.cell? ((⟨w2.heap.size,0,none⟩:Addr).add j)=some u):=by show ∀ j u,_; rw [hW3]; exact tY w2 t
  have UJ:=mY hW3;have HB3:Hid (aa w W3):=HB2.out.trans (UJ.out.mono HB2.out.size);have HR3:Hid (dF W3 b off ts):=HR2.out.below UJ.out (Sg hb HB2.out.size);have hz3:w'.heap.size≤W3.heap.size:=Sq hz2 UJ.out.size;have hb3:b < W3.heap.size:=Sg hb HB3.out.size;clear UJ HB2 HR2 Ud hb1 hz1 hz2;go_wp2_with (at_builtin; rw [← hW3]; clear hW3; refine wpList_append_own_at _ rfl _ _ 38 rfl w'.heap.size 42 iT (.agg #[.string ⟨#[]⟩,.string ⟨#[]⟩,.string ⟨#[]⟩,.string ⟨#[]⟩,.string ⟨#[]⟩,.string ⟨#[]⟩]) 6 96 underlying38 HIT.out.1 HIT.out.2.1 HIT.out.2.2.1 HIT.out.2.2.2 rfl (by decide) v2 k (aD (ts.take k)) rfl TD.out ⟨w2.heap.size,0,none⟩ 1 1 t.row rfl rfl WG.out (rV _) (by unfold maxLen; omega) (by omega) hz3 ?_);intro v4 w4 TN Us _ _;have hnb:some b ≠ v2.ownBlock:=fun e=>by have:=(Tj.out.lt b e.symm).1; omega
  have HR4:Hid (dF w4 b off ts):=nE HR3.out Us hb3 hnb;have TA:Hid (aa w w4):=HB3.out.grown Us HB3.out.size (fun g hg=>by have:=(Tj.out.lt g hg).1; omega);have TJ:=ay TN;have Wx:w'.heap.size≤w4.heap.size:=Sq hz3 Us.size;clear TN Us TD Tj WG HB3 HR3 hb3 hz3 hnb x0 x1 x2 x3 x4 x5 xl2;have hdl:(ts.drop k).length=ts.length - k:=List.length_drop;clear hdl;go_wp2_with (at_builtin; refine wpList_append_own_at _ rfl _ _ 38 rfl w'.heap.size 42 iT (.agg #[.string ⟨#[]⟩,.string ⟨#[]⟩,.string ⟨#[]⟩,.string ⟨#[]⟩,.string ⟨#[]⟩,.string ⟨#[]⟩]) 6 96 underlying38 HIT.out.1 HIT.out.2.1 HIT.out.2.2.1 HIT.out.2.2.2 rfl (by decide) v4 (k + 1) (aD (ts.take k) ++ t.row) rfl TJ.out ⟨b,off + k * 6,none⟩ (ts.length - k) (cap - k) (aD (ts.drop k)) rfl (by rw [eT,List.length_drop]) (ji (JZ HR4.out k)) (jk _) (by unfold maxLen; omega) (by omega) Wx ?_);intro v5 w5 hown5 hgr5 _ _;have TI:Hid (aa w w5):=TA.out.grown hgr5 TA.out.size (fun g hg=>by have:=(TJ.out.lt g hg).1; omega);have hlp:(jZ ts t).length=k + 1 + (ts.length - k):=by rw [HP.out]; simp; omega
  have hown6:w5.ownsRow w'.heap.size 42 6 v5 (jZ ts t).length (aD (jZ ts t)):=by
   rw [hlp,HP.out,show ts.take k ++ t::ts.drop k=(ts.take k ++ [t]) ++ ts.drop k by simp,nD,qU]; first | exact hown5 | (rw [List.append_assoc]; exact hown5)
  have Ub:=aX (j5 hown6 (Tf hWs));clear hown5 hown6 hgr5 hlp;go_wp2;go_ret;exact ⟨v5,rfl,Ub.out,TI.out⟩
 have hd:decide ((k:Int) < (ts.length:Int))=false:=by simp; omega
 go_wp2_with fail;go_quiet (fail);have HP:=aX (Cz ts t k hk HU.out (fun h=>absurd h hlt));obtain ⟨W9,hW9⟩:∃ W9,wr.drewN nq=W9:=⟨_,rfl⟩;have Tt:Hid (aa w W9):=by show Below _ _ _; rw [← hW9]; exact ⟨HB.out.os,HB.out.tape,HB.out.output,HB.out.size,HB.out.block⟩
 have HXW:Hid (qj W9 w.heap.size t):=by show qj _ _ _; rw [← hW9]; exact HX.out
 rw [hW9];clear hW9 HU HB HX hd;obtain ⟨W1,hW1⟩:∃ W1,W1=W9.alloc (.cells #[] 42):=⟨_,rfl⟩;have TG:Hid (W1.ownsRow W9.heap.size 42 6 (.slice (some ⟨W9.heap.size,0,none⟩) 0 0) 0 []):=by
  show World.ownsRow _ _ _ _ _ _ _;rw [hW1];exact World.ownsRow_lit W9 #[] 0 (Sj _) (by unfold maxLen; omega) (by simp)
 have T9:=mY hW1;have HR1:Hid (dF W1 b off ts):=(HS.out.below Tt.out hb).below T9.out (Sg hb Tt.out.size);have UA:=ay (HXW.out.below T9.out);have HB1:Hid (aa w W1):=Tt.out.trans (T9.out.mono Tt.out.size);have hWs:w.heap.size < W9.heap.size:=HXW.out.2.2.2.2.2.2;have hb1:b < W1.heap.size:=Sg hb HB1.out.size;have hkc:k≤cap:=by omega
 have hz1:W9.heap.size≤W1.heap.size:=T9.out.size;clear Tt HXW T9;go_wp2_with (at_builtin; rw [← hW1]; clear hW1; refine wpList_append_own_at _ rfl _ _ 38 rfl W9.heap.size 42 iT (.agg #[.string ⟨#[]⟩,.string ⟨#[]⟩,.string ⟨#[]⟩,.string ⟨#[]⟩,.string ⟨#[]⟩,.string ⟨#[]⟩]) 6 96 underlying38 HIT.out.1 HIT.out.2.1 HIT.out.2.2.1 HIT.out.2.2.2 rfl (by decide) _ 0 [] rfl TG.out ⟨b,off,none⟩ k cap (aD (ts.take k)) rfl (by rw [eT,SL]; congr 1; omega) (ji (Ba HR1.out k)) (jk _) (by unfold maxLen; omega) (by omega) hz1 ?_);intro v2 w2 hown2 TC _ _;have Tj:Hid (w2.ownsRow W9.heap.size 42 6 v2 k (aD (ts.take k))):=by
  show World.ownsRow _ _ _ _ _ _ _
  first | exact hown2 | (rw [SG,List.nil_append] at hown2; exact hown2)
 have hne:some w.heap.size ≠ Value.ownBlock (.slice (some ⟨W9.heap.size,0,none⟩) 0 0):=fun e=>by simp [Value.ownBlock] at e; omega
 have hnb:some b ≠ Value.ownBlock (.slice (some ⟨W9.heap.size,0,none⟩) 0 0):=fun e=>by simp [Value.ownBlock] at e; omega
 have Ud:Hid (qj w2 w.heap.size t):=UA.out.grown TC hne;have HR2:Hid (dF w2 b off ts):=nE HR1.out TC hb1 hnb;have HB2:Hid (aa w w2):=HB1.out.grown TC HB1.out.size (fun g hg=>by simp [Value.ownBlock] at hg; omega);have hz2:W9.heap.size≤w2.heap.size:=Sq hz1 TC.size;clear hown2 TC TG UA HR1 HB1 hne hnb;obtain ⟨x0,x1,x2,x3,x4,x5,xl2⟩:=Ud.out;obtain ⟨W3,hW3⟩:∃ W3,W3=w2.alloc (.cells #[.string t.a,.string t.b,.string t.r,.string t.c,.string t.d,.string t.s] 42):=⟨_,rfl⟩;have TD:Hid (W3.ownsRow W9.heap.size 42 6 v2 k (aD (ts.take k))):=by show World.ownsRow _ _ _ _ _ _ _; rw [hW3]; exact Tj.out.alloc _
 have WG:Hid (∀ j u,t.row[j]?=some u→W3.cell? ((⟨w2.heap.size,0,none⟩:Addr).add j)=some u):=by show ∀ j u,_; rw [hW3]; exact tY w2 t
 have UJ:=mY hW3;have HB3:Hid (aa w W3):=HB2.out.trans (UJ.out.mono HB2.out.size);have HR3:Hid (dF W3 b off ts):=HR2.out.below UJ.out (Sg hb HB2.out.size);have hz3:W9.heap.size≤W3.heap.size:=Sq hz2 UJ.out.size;have hb3:b < W3.heap.size:=Sg hb HB3.out.size;clear UJ HB2 HR2 Ud hb1 hz1 hz2;go_wp2_with (at_builtin; rw [← hW3]; clear hW3; refine wpList_append_own_at _ rfl _ _ 38 rfl W9.heap.size 42 iT (.agg #[.string ⟨#[]⟩,.string ⟨#[]⟩,.string ⟨#[]⟩,.string ⟨#[]⟩,.string ⟨#[]⟩,.string ⟨#[]⟩]) 6 96 underlying38 HIT.out.1 HIT.out.2.1 HIT.out.2.2.1 HIT.out.2.2.2 rfl (by decide) v2 k (aD (ts.take k)) rfl TD.out ⟨w2.heap.size,0,none⟩ 1 1 t.row rfl rfl WG.out (rV _) (by unfold maxLen; omega) (by omega) hz3 ?_);intro v4 w4 TN Us _ _;have hnb:some b ≠ v2.ownBlock:=fun e=>by have:=(Tj.out.lt b e.symm).1; omega
 have HR4:Hid (dF w4 b off ts):=nE HR3.out Us hb3 hnb;have TA:Hid (aa w w4):=HB3.out.grown Us HB3.out.size (fun g hg=>by have:=(Tj.out.lt g hg).1; omega);have TJ:=ay TN;have Wx:W9.heap.size≤w4.heap.size:=Sq hz3 Us.size;clear TN Us TD Tj WG HB3 HR3 hb3 hz3 hnb x0 x1 x2 x3 x4 x5 xl2;have hdl:(ts.drop k).length=ts.length - k:=List.length_drop;clear hdl;by_cases hce:cap=k
 all_goals
  go_wp2_with (at_builtin; refine wpList_append_own_at _ rfl _ _ 38 rfl W9.heap.size 42 iT (.agg #[.string ⟨#[]⟩,.string ⟨#[]⟩,.string ⟨#[]⟩,.string ⟨#[]⟩,.string ⟨#[]⟩,.string ⟨#[]⟩]) 6 96 underlying38 HIT.out.1 HIT.out.2.1 HIT.out.2.2.1 HIT.out.2.2.2 rfl (by decide) v4 (k + 1) (aD (ts.take k) ++ t.row) rfl TJ.out _ (ts.length - k) _ (aD (ts.drop k)) rfl (by rw [eT,List.length_drop]) (J3 (by omega) _ _) (jk _) (by unfold maxLen; omega) (by omega) Wx ?_);intro v5 w5 hown5 hgr5 _ _;have TI:Hid (aa w w5):=TA.out.grown hgr5 TA.out.size (fun g hg=>by have:=(TJ.out.lt g hg).1; omega);have hlp:(jZ ts t).length=k + 1 + (ts.length - k):=by rw [HP.out]; simp; omega
  have hown6:w5.ownsRow W9.heap.size 42 6 v5 (jZ ts t).length (aD (jZ ts t)):=by
   rw [hlp,HP.out,show ts.take k ++ t::ts.drop k=(ts.take k ++ [t]) ++ ts.drop k by simp,nD,qU]; first | exact hown5 | (rw [List.append_assoc]; exact hown5)
  have Ub:=aX (j5 hown6 (Tf hWs));clear hown5 hown6 hgr5 hlp;go_wp2;go_ret;exact ⟨v5,rfl,Ub.out,TI.out⟩
theorem aA {p:Prop} (h:p):Hid p:=h
def kJ (fit:Tp→Bool) (ts:List Tp) (k:Int) (t:Tp):List Tp:=if bf fit ts k t=0 then fo ts k t else ts
def lN (w:World) (n:Nat) (k:Int) (t:Tp):Prop:=w.cell? ⟨n,0,none⟩=some (.int .i64 k)∧w.cell? ⟨n,1,none⟩=some (.string t.a)∧w.cell? ⟨n,2,none⟩=some (.string t.b)∧w.cell? ⟨n,3,none⟩=some (.string t.r)∧w.cell? ⟨n,4,none⟩=some (.string t.c)∧w.cell? ⟨n,5,none⟩=some (.string t.d)∧w.cell? ⟨n,6,none⟩=some (.string t.s)∧n < w.heap.size
theorem lN.below {w w':af} {n:Nat} {k:Int} {t:Tp} (h:lN w n k t) (hb:aa w w'):lN w' n k t:=by
 obtain ⟨h0,h1,h2,h3,h4,h5,h6,hl⟩:=h;exact ⟨(hb.cell (p:=⟨n,0,none⟩) hl).trans h0,(hb.cell (p:=⟨n,1,none⟩) hl).trans h1,(hb.cell (p:=⟨n,2,none⟩) hl).trans h2,(hb.cell (p:=⟨n,3,none⟩) hl).trans h3,(hb.cell (p:=⟨n,4,none⟩) hl).trans h4,(hb.cell (p:=⟨n,5,none⟩) hl).trans h5,(hb.cell (p:=⟨n,6,none⟩) hl).trans h6,Sg hl hb.size⟩
theorem fJ {w:af} {base base':Nat} {e:TypeId} {size:Nat} {v:Value} {n:Nat} {xs:List Value} (h:w.ownsRow base e size v n xs) (hb:base'≤base):w.ownsRow base' e size v n xs:=by
 refine ⟨h.1,?_⟩;rcases h.2 with h0 | ⟨g,cap,cur,e1,h1,h2⟩
 ·exact .inl h0
 exact .inr ⟨g,cap,cur,e1,Sq hb h1,h2⟩
theorem EQ {w:af} {base:Nat} {e:TypeId} {size:Nat} {v:Value} {n:Nat} {xs:List Value} (h:w.ownsRow base e size v n xs) {g:Nat} (hg:v.ownBlock=some g):∃ g c,v=.slice (some ⟨g,0,none⟩) n c:=by
 rcases h.2 with ⟨e1,h0⟩ | ⟨g,cap,cur,rfl,-⟩
 ·rw [e1] at hg; cases hg
 exact ⟨g,cap,rfl⟩
theorem lN.grown {w w':af} {n:Nat} {k:Int} {t:Tp} {o:Option Nat} (h:lN w n k t) (hg:w.grownBy w' o) (hne:o ≠ some n):lN w' n k t:=by
 obtain ⟨h0,h1,h2,h3,h4,h5,h6,hl⟩:=h;have hs:w'.heap[n]?=w.heap[n]?:=hg.block n hl (Ne.symm hne);exact ⟨(SI (w:=w) (a:=⟨n,0,none⟩) hs).trans h0,(SI (w:=w) (a:=⟨n,1,none⟩) hs).trans h1,(SI (w:=w) (a:=⟨n,2,none⟩) hs).trans h2,(SI (w:=w) (a:=⟨n,3,none⟩) hs).trans h3,(SI (w:=w) (a:=⟨n,4,none⟩) hs).trans h4,(SI (w:=w) (a:=⟨n,5,none⟩) hs).trans h5,(SI (w:=w) (a:=⟨n,6,none⟩) hs).trans h6,Sg hl hg.size⟩
def Qb (w:World) (fit:Tp→Bool) (ts:List Tp) (k:Int) (t:Tp) (e:Ending) (w':World):Prop :=
 ∃ g c,e=.returned (.tuple #[.slice (some ⟨g,0,none⟩) (kJ fit ts k t).length c,.int .i64 (bf fit ts k t)])∧w'.ownsRow w.heap.size 42 6 (.slice (some ⟨g,0,none⟩) (kJ fit ts k t).length c) (kJ fit ts k t).length (aD (kJ fit ts k t))∧aa w w'
theorem vP {w w':af} {fit:Tp→Bool} {ts:List Tp} {k:Int} {t:Tp} {g c n:Nat} {L:List Tp} {z:Int} (hz:bf fit ts k t=z) (hL:kJ fit ts k t=L) (hn:n=L.length) (ho:w'.ownsRow w.heap.size 42 6 (.slice (some ⟨g,0,none⟩) L.length c) L.length (aD L)) (hb:aa w w'):Qb w fit ts k t (.returned (.tuple #[.slice (some ⟨g,0,none⟩) n c,.int .i64 z])) w':=by
 subst hz; subst hL; subst hn;exact ⟨g,c,rfl,ho,hb⟩
theorem nQ {fit:Tp→Bool} {ts:List Tp} {k:Int} {t:Tp} {z:Int} (h:bf fit ts k t=z) (hz:z ≠ 0):kJ fit ts k t=ts:=by unfold kJ; rw [if_neg (by rw [h]; exact hz)]
theorem yU {fit:Tp→Bool} {ts:List Tp} {k:Int} {t:Tp} (h:bf fit ts k t=0):kJ fit ts k t=fo ts k t:=by unfold kJ; rw [if_pos h]
theorem Ad (sv:Value) (fit:Tp→Bool) (b off cap:Nat) (ts:List Tp) (k:Int) (t:Tp) (w:af) (hfit:∀ w1:World,aa w w1→Calls prog 76 #[sv,.agg #[.string t.a,.string t.b,.string t.r,.string t.c,.string t.d,.string t.s]] w1 fun e w'=>e=.returned (.bool (fit t))∧aa w1 w') (hts:ts.length≤40) (hcap:ts.length≤cap) (hrow:dF w b off ts) (hb:b < w.heap.size) (hf:∀ x ∈ ts,x.fits) (ht:t.fits) :
  Calls prog 51 #[sv,.slice (some ⟨b,off,none⟩) ts.length cap,.agg #[.int .i64 k,.string t.a,.string t.b,.string t.r,.string t.c,.string t.d,.string t.s]] w (Qb w fit ts k t):=by
 obtain ⟨iT,hiT,zT0,zT1,zT2⟩:=info_parts (P:=prog) (e:=42) (z:=.agg #[.string ⟨#[]⟩,.string ⟨#[]⟩,.string ⟨#[]⟩,.string ⟨#[]⟩,.string ⟨#[]⟩,.string ⟨#[]⟩]) (size:=6) (bytes:=96) (by kernel_rfl);have HIT:Hid (prog.info? 42=some iT∧iT.zero=some (.agg #[.string ⟨#[]⟩,.string ⟨#[]⟩,.string ⟨#[]⟩,.string ⟨#[]⟩,.string ⟨#[]⟩,.string ⟨#[]⟩])∧iT.size=6∧iT.bytes=96):=⟨hiT,zT0,zT1,zT2⟩;have Tv:=aA hfit;have HR:=aA hrow;have HF:=aA hf;have HT:=aA ht;clear hfit hrow hf ht hiT zT0 zT1 zT2;obtain ⟨W0,hW0⟩:∃ W0,W0=w.alloc (.cells #[.int .i64 k,.string t.a,.string t.b,.string t.r,.string t.c,.string t.d,.string t.s] 44):=⟨_,rfl⟩;obtain ⟨W1,hW1⟩:∃ W1,W1=W0.alloc (.cells #[] 42):=⟨_,rfl⟩;have HX0:Hid (lN W0 w.heap.size k t):=by show lN _ _ _ _; rw [hW0]; refine ⟨?_,?_,?_,?_,?_,?_,?_,?_⟩ <;> simp
 have HB0:=mY hW0;have HB01:=mY hW1;have HB1:Hid (aa w W1):=HB0.out.trans (HB01.out.mono HB0.out.size);have UA:=ay (HX0.out.below HB01.out);have TG:Hid (W1.ownsRow w.heap.size 42 6 (.slice (some ⟨w.heap.size + 1,0,none⟩) 0 0) 0 []):=by
  show World.ownsRow _ _ _ _ _ _ _;rw [hW1,← show W0.heap.size=w.heap.size + 1 by rw [hW0]; simp];exact World.ownsRow_lit W0 #[] 0 HB0.out.size (by unfold maxLen; omega) (by simp)
 have hz1:w.heap.size≤W1.heap.size:=HB1.out.size;have HR1:Hid (dF W1 b off ts):=HR.out.below HB1.out hb;go_enter func51,ntmps51;go_wp2_with (at_builtin; rw [← hW0,← hW1]; clear hW0 hW1; refine wpList_append_own_at _ rfl _ _ 38 rfl w.heap.size 42 iT (.agg #[.string ⟨#[]⟩,.string ⟨#[]⟩,.string ⟨#[]⟩,.string ⟨#[]⟩,.string ⟨#[]⟩,.string ⟨#[]⟩]) 6 96 underlying38 HIT.out.1 HIT.out.2.1 HIT.out.2.2.1 HIT.out.2.2.2 rfl (by decide) _ 0 [] rfl TG.out ⟨b,off,none⟩ ts.length cap (aD ts) rfl (eT ts) (ji HR1.out) (jk _) (by unfold maxLen; omega) (by omega) hz1 ?_);intro v2 w2 hown2 TC _ hat2;have hsome:∃ g c,v2=.slice (some ⟨g,0,none⟩) ts.length c:=by
  rcases hat2 with e | e
  ·exact EQ hown2 (g:=w.heap.size + 1) (by rw [e]; rfl)
  exact EQ hown2 e
 obtain ⟨gO,cO,rfl⟩:=hsome;have HB2:Hid (aa w w2):=HB1.out.grown TC HB1.out.size (fun g hg=>by have:=(TG.out.lt g hg).1; omega);have Ud:Hid (lN w2 w.heap.size k t):=UA.out.grown TC (fun e=>by simp [Value.ownBlock] at e);have Tj:=aA hown2;have HRB2:Hid (dF w2 b off ts):=HR.out.below HB2.out hb;have VE:b < w2.heap.size:=Sg hb HB2.out.size;clear hown2 TC hat2 HB0 HB01 HB1 HX0 UA TG HR1 hz1 HR;obtain ⟨c0,c1,c2,c3,c4,c5,c6,cl⟩:=Ud.out;obtain ⟨f0,f1,f2,f3,f4,f5⟩:=HT.out;by_cases hk:k=1 ∨ k=2
 ·have hin:(decide (1≤k) && decide (k≤2))=true:=by rcases hk with rfl | rfl <;> decide
  go_wp2_with fail;refine (xZ k 1 2 _).mono ?_;rintro e w' ⟨rfl,rfl⟩;rw [hin];go_wp2_with fail;refine (dI t.a t.b t.r t.c t.d t.s _ f0 f1 f2 f3 f4 f5).mono ?_;rintro e w3 ⟨rfl,hb3⟩;have HB3:=aA (HB2.out.trans (hb3.mono HB2.out.size));have HX3:=aA (Ud.out.below hb3);have TD:=aA (aB Tj.out hb3);have HR3:=aA (HRB2.out.below hb3 VE);have UD:b < w3.heap.size:=Sg VE hb3.size;clear hb3 HB2 Ud Tj HRB2 VE c0 c1 c2 c3 c4 c5 c6 cl;have Yk:=HR3;obtain ⟨c0,c1,c2,c3,c4,c5,c6,cl⟩:=HX3.out;cases hok:bn t.a t.b t.r t.c t.d t.s;case false=>
   have HC:Hid (bf fit ts k t=2):=ko (fun h=>by have h2:bn t.a t.b t.r t.c t.d t.s=true:=h.2; rw [hok] at h2; cases h2);go_wp2;exact bodyPost_ret (v:=.tuple #[.slice (some ⟨gO,0,none⟩) ts.length cO,.int .i64 2]) (by simp [results,Tryz.results51,go_sem]) rfl (vP HC.out (nQ HC.out (by decide)) rfl TD.out HB3.out)
  have hto:t.ok=true:=hok;rcases hk with rfl | rfl
  ·go_wp2_with fail;refine (Tv.out _ HB3.out).mono ?_;rintro e w4 ⟨rfl,hb4⟩;have TA:=aA (HB3.out.trans (hb4.mono HB3.out.size));have Zl:=aA (HX3.out.below hb4);have TJ:=aA (aB TD.out hb4);have HR4:=aA (Yk.out.below hb4 UD);have Xz:b < w4.heap.size:=Sg UD hb4.size;clear hb4 HB3 HX3 TD Yk UD c0 c1 c2 c3 c4 c5 c6 cl;have Yl:=HR4;obtain ⟨c0,c1,c2,c3,c4,c5,c6,cl⟩:=Zl.out;cases hfi:fit t;case false=>
    have HC:Hid (bf fit ts 1 t=3):=by show _=_; rw [mH hto,hfi]; rfl
    go_wp2;exact bodyPost_ret (v:=.tuple #[.slice (some ⟨gO,0,none⟩) ts.length cO,.int .i64 3]) (by simp [results,Tryz.results51,go_sem]) rfl (vP HC.out (nQ HC.out (by decide)) rfl TJ.out TA.out)
   go_wp2_with fail;refine (A9 _ _ ts t _ (by omega) (.inr ⟨b,off,rfl,Xz,Yl.out⟩)).mono ?_;rintro e w5 ⟨rfl,hb5⟩;have TI:=aA (TA.out.trans (hb5.mono TA.out.size));have HX5:=aA (Zl.out.below hb5);have Uc:=aA (aB TJ.out hb5);have HR5:=aA (Yl.out.below hb5 Xz);have hbl5:b < w5.heap.size:=Sg Xz hb5.size;clear hb5 TA Zl TJ Yl Xz c0 c1 c2 c3 c4 c5 c6 cl;have HRB5:=HR5;obtain ⟨c0,c1,c2,c3,c4,c5,c6,cl⟩:=HX5.out;cases hha:gH ts t;case true=>
    have HC:Hid (bf fit ts 1 t=4):=by show _=_; rw [mH hto,hfi,hha]; rfl
    go_wp2;exact bodyPost_ret (v:=.tuple #[.slice (some ⟨gO,0,none⟩) ts.length cO,.int .i64 4]) (by simp [results,Tryz.results51,go_sem]) rfl (vP HC.out (nQ HC.out (by decide)) rfl Uc.out TI.out)
   by_cases h40:ts.length=40
   ·have hd:((ts.length:Int) == 40)=true:=by simp; omega
    have HC:Hid (bf fit ts 1 t=6):=by show _=_; rw [mH hto,hfi,hha,if_pos rfl,if_neg (by decide),if_pos (by omega)]
    go_wp2;exact bodyPost_ret (v:=.tuple #[.slice (some ⟨gO,0,none⟩) ts.length cO,.int .i64 6]) (by simp [results,Tryz.results51,go_sem,h40]) rfl (vP HC.out (nQ HC.out (by decide)) rfl Uc.out TI.out)
   have hd:((ts.length:Int) == 40)=false:=by simp; omega
   have HC:Hid (bf fit ts 1 t=0):=by show _=_; rw [mH hto,hfi,hha,if_pos rfl,if_neg (by decide),if_neg (by omega)]
   go_wp2_with fail;refine (Kt b off cap ts t _ (by omega) hcap HRB5.out hbl5 HF.out HT.out).mono ?_;rintro e w6 ⟨v6,rfl,hown6,hb6⟩;obtain ⟨g6,c6',rfl⟩:∃ g c,v6=.slice (some ⟨g,0,none⟩) (jZ ts t).length c:=by
    rcases hown6.2 with ⟨-,h0⟩ | ⟨g,cp,cur,e,-⟩
    ·rw [yT] at h0; omega
    exact ⟨g,cp,e⟩
   have Ub:=aA (fJ hown6 TI.out.size);have TZ:=aA (TI.out.trans (hb6.mono TI.out.size));clear hown6 hb6;go_wp2;exact bodyPost_ret (v:=.tuple #[.slice (some ⟨g6,0,none⟩) (jZ ts t).length c6',.int .i64 0]) (by simp [results,Tryz.results51,go_sem]) rfl (vP HC.out (yU HC.out) rfl Ub.out TZ.out)
  go_wp2_with fail;refine (A9 _ _ ts t _ (by omega) (.inr ⟨b,off,rfl,UD,Yk.out⟩)).mono ?_;rintro e w4 ⟨rfl,hb4⟩;have TA:=aA (HB3.out.trans (hb4.mono HB3.out.size));have Zl:=aA (HX3.out.below hb4);have TJ:=aA (aB TD.out hb4);have HR4:=aA (Yk.out.below hb4 UD);have Xz:b < w4.heap.size:=Sg UD hb4.size;clear hb4 HB3 HX3 TD Yk UD c0 c1 c2 c3 c4 c5 c6 cl;have Yl:=HR4;obtain ⟨c0,c1,c2,c3,c4,c5,c6,cl⟩:=Zl.out;cases hha:gH ts t;case false=>
   have HC:Hid (bf fit ts 2 t=5):=by show _=_; rw [qc hto,hha]; rfl
   go_wp2;exact bodyPost_ret (v:=.tuple #[.slice (some ⟨gO,0,none⟩) ts.length cO,.int .i64 5]) (by simp [results,Tryz.results51,go_sem]) rfl (vP HC.out (nQ HC.out (by decide)) rfl TJ.out TA.out)
  have HC:Hid (bf fit ts 2 t=0):=by show _=_; rw [qc hto,hha]; rfl
  go_wp2_with fail;refine (Gz _ _ ts t _ (by omega) (.inr ⟨b,off,rfl,Xz,Yl.out⟩)).mono ?_;rintro e w6 ⟨g6,c6',rfl,hown6,hb6⟩;have Ub:=aA (fJ hown6 (Sq TA.out.size (Nat.le_succ _)));have TZ:=aA (TA.out.trans (hb6.mono TA.out.size));clear hown6 hb6;go_wp2;exact bodyPost_ret (v:=.tuple #[.slice (some ⟨g6,0,none⟩) (dL ts t).length c6',.int .i64 0]) (by simp [results,Tryz.results51,go_sem]) rfl (vP HC.out (yU HC.out) rfl Ub.out TZ.out)
 have hin:(decide (1≤k) && decide (k≤2))=false:=by
  rw [Bool.and_eq_false_iff,decide_eq_false_iff_not,decide_eq_false_iff_not]; omega
 have HC:Hid (bf fit ts k t=2):=ko (fun h=>hk h.1);go_wp2_with fail;refine (xZ k 1 2 _).mono ?_;rintro e w' ⟨rfl,rfl⟩;rw [hin];go_wp2;exact bodyPost_ret (v:=.tuple #[.slice (some ⟨gO,0,none⟩) ts.length cO,.int .i64 2]) (by simp [results,Tryz.results51,go_sem]) rfl (vP HC.out (nQ HC.out (by decide)) rfl Tj.out HB2.out)
def Ku (w:World):Prop:=∀ g:Nat,2≤g→g≤6→g < w.heap.size∧∃ (T:TypeId) (u:Value),w.cell? ⟨g,0,none⟩=some (.iface T u)
theorem Ku.below {w w':af} (h:Ku w) (hb:aa w w'):Ku w':=fun g h2 h6=>by
 obtain ⟨hl,T,u,e⟩:=h g h2 h6;exact ⟨Sg hl hb.size,T,u,(hb.cell (p:=⟨g,0,none⟩) hl).trans e⟩
def Ng (w:World) (z:Int) (e:Ending) (w':World):Prop :=
 ((z=0∧e=.returned .nilIface) ∨ ∃ (g:Nat) (T:TypeId) (u:Value),z=g∧2≤g∧g≤6∧w.cell? ⟨g,0,none⟩=some (.iface T u)∧e=.returned (.iface T u))∧aa w w'
theorem Hz (tv:Value) (fit:Tp→Bool) (ad:Option Addr) (cap:Nat) (ts:List Tp) (k:Int) (t:Tp) (w:af) (hE:Ku w)
  (hfit:∀ w1:World,t.ok=true→aa w w1→Calls prog 94 #[tv,.agg #[.string t.a,.string t.b,.string t.r,.string t.c,.string t.d,.string t.s]] w1 fun e w'=>e=.returned (.bool (fit t))∧aa w1 w')
  (hlen:ts.length≤40) (hs:Sl w ad ts) (ht:t.fits) :
  Calls prog 108 #[tv,.slice ad ts.length cap,.agg #[.int .i64 k,.string t.a,.string t.b,.string t.r,.string t.c,.string t.d,.string t.s]] w (Ng w (bf fit ts k t)):=by
 have HE:=aA hE;have Tv:=aA hfit;have HS:=aA hs;have HT:=aA ht;clear hE hfit hs ht;obtain ⟨W0,hW0⟩:∃ W0,W0=w.alloc (.cells #[.int .i64 k,.string t.a,.string t.b,.string t.r,.string t.c,.string t.d,.string t.s] 44):=⟨_,rfl⟩;have HX0:Hid (lN W0 w.heap.size k t):=by show lN _ _ _ _; rw [hW0]; refine ⟨?_,?_,?_,?_,?_,?_,?_,?_⟩ <;> simp
 have HB0:=mY hW0;go_enter func108,ntmps108;go_wp2_with fail;rw [← hW0];clear hW0;refine (Ac ad cap ts t _ (by omega) (HS.out.below HB0.out)).mono ?_;rintro e w1 ⟨rfl,hb1⟩;have HB1:=aA (HB0.out.trans (hb1.mono HB0.out.size));have UA:=aA (HX0.out.below hb1);clear hb1 HB0 HX0;have HE1:=aA (HE.out.below HB1.out);have RET0:Hid (∀ {w':World},bf fit ts k t=0→aa w w'→Ng w (bf fit ts k t) (.returned .nilIface) w'):=fun h hb=>⟨.inl ⟨h,rfl⟩,hb⟩;have WN:Hid (∀ (g:Nat) {wx w':World} {T:TypeId} {u:Value},bf fit ts k t=g→2≤g→g≤6→wx.cell? ⟨g,0,none⟩=some (.iface T u)→aa w wx→aa w w'→Ng w (bf fit ts k t) (.returned (.iface T u)) w'):=fun g {wx w' T u} h h2 h6 hc hbx hb=>by
  obtain ⟨hl,T',u',e⟩:=HE.out g h2 h6;have e2:=(hbx.cell (p:=⟨g,0,none⟩) hl).symm.trans hc;exact ⟨.inr ⟨g,T,u,h,h2,h6,e2,rfl⟩,hb⟩
 obtain ⟨q2,T2,u2,g2⟩:=HE1.out 2 (by omega) (by omega);obtain ⟨q3,T3,u3,g3⟩:=HE1.out 3 (by omega) (by omega);obtain ⟨q4,T4,u4,g4⟩:=HE1.out 4 (by omega) (by omega);obtain ⟨q5,T5,u5,g5⟩:=HE1.out 5 (by omega) (by omega);obtain ⟨q6,T6,u6,g6⟩:=HE1.out 6 (by omega) (by omega);obtain ⟨x0,x1,x2,x3,x4,x5,x6,xl⟩:=UA.out;by_cases hk:¬ (k=1 ∨ k=2)
 ·have hk1:¬ k=1:=fun h=>hk (.inl h);have hk2:¬ k=2:=fun h=>hk (.inr h);have HN:=aA (ko (fit:=fit) (ts:=ts) (k:=k) (t:=t) fun h=>hk h.1);have hb1':(k != 1)=true:=by simp [hk1]
  have hb2':(k != 2)=true:=by simp [hk2]
  clear hk;go_wp2;go_ret;exact WN.out 2 HN.out (by omega) (by omega) g2 HB1.out HB1.out
 have hk':k=1 ∨ k=2:=Classical.not_not.1 hk;clear hk;obtain ⟨f0,f1,f2,f3,f4,f5⟩:=HT.out;have ZJ:=aA (fun W=>d9 t.a t.b t.r t.c t.d t.s W f0 f1 f2 f3 f4 f5);clear f0 f1 f2 f3 f4 f5;rcases hk' with rfl | rfl
 ·go_wp2_with fail;refine (ZJ.out _).mono ?_;rintro e w2 ⟨he,hb2⟩;have HB2:=aA (HB1.out.trans (hb2.mono HB1.out.size));have Tx:Hid (∀ g o v,g < w1.heap.size→w1.cell? ⟨g,o,none⟩=some v→w2.cell? ⟨g,o,none⟩=some v):=fun g o v hg h=>(hb2.cell (p:=⟨g,o,none⟩) hg).trans h;have Ud:=aA (UA.out.below hb2);have hz2:=hb2.size;replace g2:=Tx.out _ _ _ q2 g2;replace g3:=Tx.out _ _ _ q3 g3;replace g4:=Tx.out _ _ _ q4 g4;replace g6:=Tx.out _ _ _ q6 g6;clear hb2 x0 x1 x2 x3 x4 x5 x6 g5;obtain ⟨x0,x1,x2,x3,x4,x5,x6,xl2⟩:=Ud.out;cases hok:bn t.a t.b t.r t.c t.d t.s;case false=>
   rw [hok] at he; subst he;have HN:=aA (ko (fit:=fit) (ts:=ts) (k:=1) (t:=t) fun h=>by have h2:bn t.a t.b t.r t.c t.d t.s=true:=h.2; rw [hok] at h2; cases h2);clear hok;go_wp2;go_ret;exact WN.out 2 HN.out (by omega) (by omega) g2 HB2.out HB2.out
  rw [hok] at he; subst he;have TS:Hid (t.ok=true):=hok;have Wv:=aA (mH (fit:=fit) (ts:=ts) TS.out);have HFI:=aA (Tv.out w2 TS.out HB2.out);clear hok;go_wp2_with fail;refine HFI.out.mono ?_;rintro e w3 ⟨he,hb3⟩;have HB3:=aA (HB2.out.trans (hb3.mono HB2.out.size));replace g3:=(hb3.cell (p:=⟨3,0,none⟩) (by show 3 < _; omega)).trans g3;replace g4:=(hb3.cell (p:=⟨4,0,none⟩) (by show 4 < _; omega)).trans g4;replace g6:=(hb3.cell (p:=⟨6,0,none⟩) (by show 6 < _; omega)).trans g6;clear hb3 x0 x1 x2 x3 x4 x5 x6 g2;cases hft:fit t;case false=>
   rw [hft] at he; subst he;have HN:Hid (bf fit ts 1 t=3):=by show _=_; rw [Wv.out,hft]; rfl
   clear hft;go_wp2;go_ret;exact WN.out 3 HN.out (by omega) (by omega) g3 HB3.out HB3.out
  rw [hft] at he; subst he;cases hh:gH ts t;case true=>
   have HN:Hid (bf fit ts 1 t=4):=by show _=_; rw [Wv.out,hft,hh]; rfl
   clear hft;go_wp2;go_ret;exact WN.out 4 HN.out (by omega) (by omega) g4 HB3.out HB3.out
  by_cases h40:40≤ts.length
  ·have HN:Hid (bf fit ts 1 t=6):=by show _=_; rw [Wv.out,hft,hh]; simp [h40]
   have h40':(40:Int)≤(ts.length:Int):=by omega
   clear hft;go_wp2;go_ret;exact WN.out 6 HN.out (by omega) (by omega) g6 HB3.out HB3.out
  have HN:Hid (bf fit ts 1 t=0):=by show _=_; rw [Wv.out,hft,hh]; simp [h40]
  have h40':decide ((40:Int)≤(ts.length:Int))=false:=by simp; omega
  clear hft;go_wp2;go_ret;exact RET0.out HN.out HB3.out
 go_wp2_with fail;refine (ZJ.out _).mono ?_;rintro e w2 ⟨he,hb2⟩;have HB2:=aA (HB1.out.trans (hb2.mono HB1.out.size));have Tx:Hid (∀ g o v,g < w1.heap.size→w1.cell? ⟨g,o,none⟩=some v→w2.cell? ⟨g,o,none⟩=some v):=fun g o v hg h=>(hb2.cell (p:=⟨g,o,none⟩) hg).trans h;have Ud:=aA (UA.out.below hb2);have hz2:=hb2.size;replace g2:=Tx.out _ _ _ q2 g2;replace g5:=Tx.out _ _ _ q5 g5;clear hb2 x0 x1 x2 x3 x4 x5 x6 g3 g4 g6;obtain ⟨x0,x1,x2,x3,x4,x5,x6,xl2⟩:=Ud.out;cases hok:bn t.a t.b t.r t.c t.d t.s;case false=>
  rw [hok] at he; subst he;have HN:=aA (ko (fit:=fit) (ts:=ts) (k:=2) (t:=t) fun h=>by have h2:bn t.a t.b t.r t.c t.d t.s=true:=h.2; rw [hok] at h2; cases h2);clear hok;go_wp2;go_ret;exact WN.out 2 HN.out (by omega) (by omega) g2 HB2.out HB2.out
 rw [hok] at he; subst he;have TS:Hid (t.ok=true):=hok;have Vb:=aA (qc (fit:=fit) (ts:=ts) TS.out);clear hok;cases hh:gH ts t;case true=>
  have HN:Hid (bf fit ts 2 t=0):=by show _=_; rw [Vb.out,hh]; rfl
  go_wp2;go_ret;exact RET0.out HN.out HB2.out
 have HN:Hid (bf fit ts 2 t=5):=by show _=_; rw [Vb.out,hh]; rfl
 go_wp2;go_ret;exact WN.out 5 HN.out (by omega) (by omega) g5 HB2.out HB2.out
structure Pt where
 ad:Option Addr
 cap:Nat
 ts:List Tp
def Pt.v (p:Pt):Value:=.slice p.ad p.ts.length p.cap
def Pt.ok (w:World) (p:Pt):Prop:=(p.ad=none∧p.ts=[]∧p.cap=0) ∨ ∃ b off,p.ad=some ⟨b,off,none⟩∧(p.ts ≠ []→b < w.heap.size)∧dF w b off p.ts
theorem Pt.ok.below {w w':af} {p:Pt} (h:p.ok w) (hb:aa w w'):p.ok w':=by
 rcases h with h | ⟨b,off,e,hl,hr⟩
 ·exact .inl h
 refine .inr ⟨b,off,e,fun hne=>Sg (hl hne) hb.size,fun i hi=>?_⟩;have hne:p.ts ≠ []:=fun e=>by rw [e] at hi; simp at hi
 exact (hr i hi).same fun o=>hb.cell (p:=⟨b,o,none⟩) (hl hne)
def dx (ps:List Pt):List Tp:=ps.flatMap (·.ts)
theorem ru {ps:List Pt} {k:Nat} (h:k < ps.length):dx (ps.take (k + 1))=dx (ps.take k) ++ ps[k].ts:=by
 unfold dx;rw [Sk h,List.flatMap_append]; simp
theorem ES (ps:List Pt) (k:Nat):(dx (ps.take k)).length≤(dx ps).length:=by
 have:dx ps=dx (ps.take k) ++ dx (ps.drop k):=by unfold dx; rw [← List.flatMap_append,Td]
 rw [this,Sr]; omega
structure PtsAt (w:World) (b:Nat) (ps:List Pt):Prop where
 lt:b < w.heap.size
 cell:∀ i (h:i < ps.length),w.cell? ⟨b,i,none⟩=some ps[i].v
 ok:∀ p ∈ ps,p.ok w
theorem PtsAt.below {w w':af} {b:Nat} {ps:List Pt} (h:PtsAt w b ps) (hb:aa w w'):PtsAt w' b ps :=
 ⟨Sg h.lt hb.size,fun i hi=>(hb.cell (p:=⟨b,i,none⟩) h.lt).trans (h.cell i hi),fun p hp=>(h.ok p hp).below hb⟩
theorem yV:∃ i,prog.info? 42=some i∧i.zero=some (.agg #[.string ⟨#[]⟩,.string ⟨#[]⟩,.string ⟨#[]⟩,.string ⟨#[]⟩,.string ⟨#[]⟩,.string ⟨#[]⟩])∧i.size=6∧i.bytes=96 :=
 info_parts (P:=prog) (e:=42) (z:=.agg #[.string ⟨#[]⟩,.string ⟨#[]⟩,.string ⟨#[]⟩,.string ⟨#[]⟩,.string ⟨#[]⟩,.string ⟨#[]⟩]) (size:=6) (bytes:=96) (by kernel_rfl)
theorem Kv (n:Nat) (w:af) (hn:n≤1048576) :
  Calls prog 156 #[.slice none 0 0,.int .i64 n] w fun e w'=>∃ v,e=.returned v∧w'.ownsRow w.heap.size 42 6 v 0 (aD [])∧aa w w':=by
 obtain ⟨iT,h0,h1,h2,h3⟩:=yV;by_cases hz:n=0
 ·subst hz;refine (Any8.slices_Grow_room Tryz.growT none 0 0 0 w (by omega) (by omega) (by omega) (by omega)).mono ?_;rintro e w' ⟨rfl,rfl⟩;exact ⟨_,rfl,World.ownsRow_nil _ _ _ _,Si _ _⟩
 refine (Any8.slices_Grow_grow Tryz.growT iT _ h0 h1 (by omega) none 0 0 n [] w (by omega) (by omega) (by rw [h3]; omega) (by omega) (by simp) (fun _=>rfl) (fun a ha=>by cases ha)).mono ?_;rintro e w' ⟨rfl,rfl⟩;have hge:=grownCap_ge w (0 + n) 0 (Tryz.growT_ren.t 25);have hm:grownCap w (0 + n) 0 (Tryz.growT_ren.t 25)≤maxLen:=grownCap_le_maxLen _ _ _ _ (by unfold maxLen; omega);obtain ⟨gc,hgc⟩:∃ gc,gc=grownCap w (0 + n) 0 (Tryz.growT_ren.t 25):=⟨_,rfl⟩;rw [← hgc] at hge hm ⊢;exact ⟨_,rfl,World.ownsRow_made w.drew _ gc (Sj _) hm (by simp [size_zeroCells,Value.cells]; omega),(Si _ _).drew.alloc (Sj _) _⟩
theorem jK (b cap:Nat) (ps:List Pt) (w:af) (hp:PtsAt w b ps) (hn:ps.length≤1000) (hlen:(dx ps).length≤1048576) :
  Calls prog 110 #[.slice (some ⟨b,0,none⟩) ps.length cap] w fun e w'=>∃ v,e=.returned v∧w'.ownsRow w.heap.size 42 6 v (dx ps).length (aD (dx ps))∧aa w w':=by
 obtain ⟨iT,h0,h1,h2,h3⟩:=yV;have HIT:=au (And.intro h0 (And.intro h1 (And.intro h2 h3)));have HP:=au hp;clear h0 h1 h2 h3 hp;go_enter func110,ntmps110;go_wp2;go_loopw [3,11] (fun sz i wr=>∃ k:Nat,k≤ps.length∧sz=.int .i64 ((dx (ps.take k)).length:Nat)∧i=.int .i64 (k:Int)∧w=wr) (fun _ i _=>ps.length - (intOf i).toNat);case atStart=>exact ⟨0,Sm _,rfl,rfl,rfl⟩
 obtain ⟨k,hk,rfl,rfl,rfl⟩:=hrel;by_cases hlt:k < ps.length
 ·have c0:=HP.out.cell k hlt;have hk1:=bH k;have hk2:(k:Int) < (ps.length:Int):=by omega
  have hle:=ES ps (k + 1);have hst:(dx (ps.take (k + 1))).length=(dx (ps.take k)).length + ps[k].ts.length:=by rw [ru hlt,Sr]
  rw [hst] at hle;unfold Pt.v at c0;obtain ⟨J,hJ⟩:∃ J,J=(dx (ps.take k)).length:=⟨_,rfl⟩;rw [← hJ] at hst hle ⊢;obtain ⟨q,hq⟩:∃ q,q=ps[k].ts.length:=⟨_,rfl⟩;rw [← hq] at hst hle c0;have HST:=au hst;clear hJ hst hq;have hng:decide ((J:Int) + (q:Int) < 0)=false:=by simp; omega
  go_wp2;go_roundw;case rel=>exact ⟨k + 1,by omega,by rw [HST.out]; go_num,by go_num,by trivial⟩
  simp [intOf]; omega
 obtain rfl:k=ps.length:=by omega
 rw [Su];obtain ⟨N,hN⟩:∃ N,N=(dx ps).length:=⟨_,rfl⟩;rw [← hN];have hNl:N≤1048576:=by omega
 have Vh:=au hN;clear hN;go_wp2_with fail;refine (Kv N w hNl).mono ?_;rintro e w1 ⟨v,rfl,hown,hb1⟩;have TM:=au hown;have HB1:=au hb1;clear hown hb1;go_wp2;go_loopw [6,27] (fun v i wr=>∃ k:Nat,k≤ps.length∧i=.int .i64 (k:Int)∧Hid (wr.ownsRow w.heap.size 42 6 v (dx (ps.take k)).length (aD (dx (ps.take k))))∧Hid (aa w wr)) (fun _ i _=>ps.length - (intOf i).toNat);case atStart=>exact ⟨0,Sm _,rfl,TM,HB1⟩
 clear TM HB1;obtain ⟨k,hk,rfl,HO,HB⟩:=hrel;by_cases hlt:k < ps.length
 ·have hP2:=HP.out.below HB.out;have c0:=hP2.cell k hlt;have hpk:=hP2.ok ps[k] (Sd hlt);have hk1:=bH k;have hk2:(k:Int) < (ps.length:Int):=by omega
  have hle:=ES ps (k + 1);rw [ru hlt,Sr] at hle;have HST:=au (ru hlt);have hB0:w.heap.size≤wr.heap.size:=HB.out.size;unfold Pt.v at c0;obtain ⟨J,hJ⟩:∃ J,J=dx (ps.take k):=⟨_,rfl⟩;rw [← hJ] at hle HST HO;obtain ⟨p,hq⟩:∃ p,p=ps[k]:=⟨_,rfl⟩;rw [← hq] at hle c0 hpk HST;clear hJ hq hP2;rcases hpk with ⟨e1,e2,e3⟩ | ⟨pb,po,e1,-,hrow⟩
  ·rw [e1,e2,e3] at c0;have Tj:Hid (wr.ownsRow w.heap.size 42 6 u6 (dx (ps.take (k + 1))).length (aD (dx (ps.take (k + 1))))):=by
    show World.ownsRow _ _ _ _ _ _ _;rw [HST.out,e2,List.append_nil]; exact HO.out
   go_wp2_with (at_builtin; refine wpList_append_own_none rfl _ _ 38 rfl w.heap.size 42 iT 6 underlying38 HIT.out.1 _ _ _ rfl HO.out rfl ?_);go_wp2;go_roundw;case rel=>exact ⟨k + 1,by omega,by go_num,Tj,HB⟩
   simp [intOf]; omega
  rw [e1] at c0;have HR:=au hrow;clear hrow;go_wp2_with (at_builtin; refine wpList_append_own _ rfl _ _ 38 rfl w.heap.size 42 iT (.agg #[.string ⟨#[]⟩,.string ⟨#[]⟩,.string ⟨#[]⟩,.string ⟨#[]⟩,.string ⟨#[]⟩,.string ⟨#[]⟩]) 6 96 underlying38 HIT.out.1 HIT.out.2.1 HIT.out.2.2.1 HIT.out.2.2.2 rfl (by decide) _ J.length (aD J) rfl HO.out ⟨pb,po,none⟩ p.ts.length p.cap (aD p.ts) rfl (eT p.ts) (ji HR.out) (jk _) (by unfold maxLen; omega) (by omega) hB0 ?_);intro v' w3 hown hgr _;have TD:Hid (w3.ownsRow w.heap.size 42 6 v' (dx (ps.take (k + 1))).length (aD (dx (ps.take (k + 1))))):=by
   show World.ownsRow _ _ _ _ _ _ _;rw [HST.out,nD,Sr]; exact hown
  have HB3:Hid (aa w w3):=HB.out.grown hgr HB.out.size (fun g hg=>by have:=(HO.out.lt g hg).1; omega);clear hown hgr;go_wp2;go_roundw;case rel=>exact ⟨k + 1,by omega,by go_num,TD,HB3⟩
  simp [intOf]; omega
 obtain rfl:k=ps.length:=by omega
 have Vf:=HO.out;rw [Su] at Vf;have HE:=au Vf;clear Vf;go_wp2;go_ret;exact ⟨_,rfl,HE.out,HB.out⟩
structure KpO (b l:Nat) (W W':World):Prop where
 size:W.heap.size≤W'.heap.size
 cells:∀ (g:Nat) (cs:Array Value) (T:TypeId) (m:Nat × Nat),W.heap[g]?=some (.cells cs T m)→T ≠ 63→T ≠ 33→W'.heap[g]?=some (.cells cs T m)
 other:∀ (g:Nat) (o:Obj),W.heap[g]?=some o→o.isCells=false→g ≠ l→g ≠ b→W'.heap[g]?=some o
structure KpI (W W':World):Prop where
 size:W.heap.size≤W'.heap.size
 cells:∀ (g:Nat) (cs:Array Value) (T:TypeId) (m:Nat × Nat),W.heap[g]?=some (.cells cs T m)→T=40 ∨ T=122→W'.heap[g]?=some (.cells cs T m)
theorem KpO.trans {b l:Nat} {X Y Z:af} (h:KpO b l X Y) (k:KpO b l Y Z):KpO b l X Z :=
 ⟨Sq h.size k.size,fun g cs T m hg h1 h2=>k.cells g cs T m (h.cells g cs T m hg h1 h2) h1 h2,fun g o hg hc h1 h2=>k.other g o (h.other g o hg hc h1 h2) hc h1 h2⟩
theorem KpI.trans {X Y Z:af} (h:KpI X Y) (k:KpI Y Z):KpI X Z :=
 ⟨Sq h.size k.size,fun g cs T m hg h1=>k.cells g cs T m (h.cells g cs T m hg h1) h1⟩
theorem mI {W:af} {l g:Nat} {o':Obj} (h:g ≠ l):(W.putObj l o').heap[g]?=W.heap[g]?:=World.putObj_heap_other h
theorem KpO.put {b l:Nat} {W:af} {o o':Obj} (h:W.heap[l]?=some o) (hc:o.isCells=false):KpO b l W (W.putObj l o') where
 size:=by simp
 cells g cs T m hg _ _:=by
  have:g ≠ l:=fun e=>by subst e; rw [h] at hg; injection hg with hg; subst hg; cases hc
  rw [mI this]; exact hg
 other g x hg _ h1 _:=by rw [mI h1]; exact hg
theorem KpI.put {l:Nat} {W:af} {o o':Obj} (h:W.heap[l]?=some o) (hc:o.isCells=false):KpI W (W.putObj l o') where
 size:=by simp
 cells g cs T m hg _:=by
  have:g ≠ l:=fun e=>by subst e; rw [h] at hg; injection hg with hg; subst hg; cases hc
  rw [mI this]; exact hg
theorem KpO.below {b l:Nat} {W W':af} (h:aa W W'):KpO b l W W' :=
 ⟨h.size,fun g cs T m hg _ _=>(h.block g (Array.getElem?_eq_some_iff.1 hg).1).trans hg,fun g o hg _ _ _=>(h.block g (Array.getElem?_eq_some_iff.1 hg).1).trans hg⟩
theorem KpI.below {W W':af} (h:aa W W'):KpI W W' :=
 ⟨h.size,fun g cs T m hg _=>(h.block g (Array.getElem?_eq_some_iff.1 hg).1).trans hg⟩
theorem KpO.toI {b l:Nat} {W W':af} (h:KpO b l W W'):KpI W W' :=
 ⟨h.size,fun g cs T m hg hT=>h.cells g cs T m hg (by rcases hT with e | e <;> (rw [e]; decide)) (by rcases hT with e | e <;> (rw [e]; decide))⟩
theorem yX {W W':af} (h:aa W W'):W.grownBy W' none:=⟨h.os,h.tape,h.output,h.size,fun k hk _=>h.block k hk⟩
theorem lc {β:Type} {B:Nat} {I:β→World→Prop} (h:OwnFrom B I) {s:β} {W W':af} (hs:I s W) (hb:aa W W'):I s W':=h s W W' none hs (yX hb) (fun r e=>by cases e)
def av (fs:List Fc):List Value:=fs.flatMap Fc.row
theorem kr:∀ fs:List Fc,(av fs).length=fs.length * 5
 | []=>rfl
 | f::fs=>by have:=kr fs; simp only [av,List.flatMap_cons,Sr,List.length_cons,Fc.row,List.length_nil] at this ⊢; omega
theorem nR (fs:List Fc) (f:Fc):av (fs ++ [f])=av fs ++ f.row:=by simp [av]
theorem pz:∀ (fs:List Fc) (i:Nat) (h:i < fs.length) (c:Nat),c < 5→(av fs)[i * 5 + c]?=fs[i].row[c]?
 | [],i,h,_,_=>by simp at h
 | f::fs,0,_,c,hc=>by
  simp only [av,List.flatMap_cons,Nat.zero_mul,SG,List.getElem_cons_zero];rw [List.getElem?_append_left (by simp [Fc.row]; omega)]
 | f::fs,i + 1,h,c,hc=>by
  have ih:=pz fs i (by simpa using h) c hc;simp only [av,List.flatMap_cons,List.getElem_cons_succ] at ih ⊢;rw [List.getElem?_append_right (by simp [Fc.row]; omega)];have:(i + 1) * 5 + c - f.row.length=i * 5 + c:=by simp [Fc.row]; omega
  rw [this]; exact ih
theorem iD {w:af} {base:Nat} {v:Value} {fs:List Fc} (h:w.ownsRow base 63 5 v fs.length (av fs)):∃ ad cap,v=.slice ad fs.length cap∧jP w ad fs:=by
 rcases h.2 with ⟨rfl,h0⟩ | ⟨g,cap,cur,rfl,hbg,hg,hnc,-⟩
 ·exact ⟨none,0,by rw [h0],.inl (SA.1 h0)⟩
 refine ⟨_,cap,rfl,.inr ⟨g,0,rfl,(h.lt g rfl).2,fun i hi=>?_⟩⟩;have hl:=kr fs;have hc:∀ c,c < 5→w.cell? ⟨g,0 + i * 5 + c,none⟩=fs[i].row[c]?:=fun c hc=>by
  rw [h.cellAt (0 + i * 5 + c) (by omega),SG]; exact pz fs i hi c hc
 exact ⟨hc 0 (by omega),hc 1 (by omega),hc 2 (by omega),hc 3 (by omega),hc 4 (by omega)⟩
theorem sI:∃ i,prog.info? 63=some i∧i.zero=some (.agg #[.string ⟨#[]⟩,.string ⟨#[]⟩,.string ⟨#[]⟩,.string ⟨#[]⟩,.string ⟨#[]⟩])∧i.size=5∧i.bytes=80 :=
 info_parts (P:=prog) (e:=63) (z:=.agg #[.string ⟨#[]⟩,.string ⟨#[]⟩,.string ⟨#[]⟩,.string ⟨#[]⟩,.string ⟨#[]⟩]) (size:=5) (bytes:=80) (by kernel_rfl)
theorem BD (w:af) (f:Fc):∀ j u,f.row[j]?=some u→(w.alloc (.cells #[.string f.a,.string f.b,.string f.r,.string f.c,.string f.d] 63)).cell? ((⟨w.heap.size,0,none⟩:Addr).add j)=some u:=fun j u hu=>by
 match j,hu with
 | 0,hu=>simp [Fc.row] at hu; subst hu; simp [Addr.add]
 | 1,hu=>simp [Fc.row] at hu; subst hu; simp [Addr.add]
 | 2,hu=>simp [Fc.row] at hu; subst hu; simp [Addr.add]
 | 3,hu=>simp [Fc.row] at hu; subst hu; simp [Addr.add]
 | 4,hu=>simp [Fc.row] at hu; subst hu; simp [Addr.add]
structure OutI (w W wr:World) (v:Value) (out:List Fc):Prop where
 row:wr.ownsRow w.heap.size 63 5 v out.length (av out)
 keep:∀ g o x,W.cell? ⟨g,o,none⟩=some x→wr.cell? ⟨g,o,none⟩=some x
 size:W.heap.size≤wr.heap.size
 bel:aa w wr
 free:∀ g,v.ownBlock=some g→∀ o,W.cell? ⟨g,o,none⟩=none
theorem aC {w:af} {g o:Nat} {x:Value} (h:w.cell? ⟨g,o,none⟩=some x):g < w.heap.size:=by
 unfold World.cell? at h;cases ho:w.heap[g]? with
 | none=>simp [ho] at h
 | some o=>exact (Array.getElem?_eq_some_iff.1 ho).1
theorem O7 {w:af} {g o:Nat} (h:w.heap.size≤g):w.cell? ⟨g,o,none⟩=none:=by
 cases e:w.cell? ⟨g,o,none⟩ with
 | none=>rfl
 | some x=>have:=aC e; omega
theorem OutI.below {w W wr w':af} {v:Value} {out:List Fc} (h:OutI w W wr v out) (hb:aa wr w'):OutI w W w' v out where
 row:=aB h.row hb
 keep g o x hx:=(hb.cell (p:=⟨g,o,none⟩) (aC (h.keep g o x hx))).trans (h.keep g o x hx)
 size:=Sq h.size hb.size
 bel:=h.bel.trans (hb.mono h.bel.size)
 free:=h.free
theorem OutI.app {w W wr w':af} {v v':Value} {out:List Fc} {f:Fc} (h:OutI w W wr v out) (hown:w'.ownsRow w.heap.size 63 5 v' (out.length + 1) (av out ++ f.row)) (hgr:wr.grownBy w' v.ownBlock) (hat:v'.ownBlock=v.ownBlock ∨ v'.ownBlock=some wr.heap.size):OutI w W w' v' (out ++ [f]) where
 row:=by rw [nR,Sr]; exact hown
 keep g o x hx:=by
  have h1:=h.keep g o x hx;refine (SI (w:=wr) (a:=⟨g,o,none⟩) (hgr.block g (aC h1) fun e=>?_)).trans h1;rw [h.free g e.symm o] at hx;cases hx
 size:=Sq h.size hgr.size
 bel:=h.bel.grown hgr h.bel.size (fun g hg=>(h.row.lt g hg).1)
 free g hg o:=by
  rcases hat with e | e
  ·rw [e] at hg; exact h.free g hg o
  rw [hg] at e; injection e with e; rw [e]; exact O7 h.size
theorem gP.keepC {w w':af} {ad:Option Addr} {xs:List Al} (h:gP w ad xs) (hs:w.heap.size≤w'.heap.size) (hk:∀ g o x,w.cell? ⟨g,o,none⟩=some x→w'.cell? ⟨g,o,none⟩=some x):gP w' ad xs:=by
 rcases h with h | ⟨b,off,e,hb,hr⟩
 ·exact .inl h
 exact .inr ⟨b,off,e,Sg hb hs,fun i hi=>⟨hk _ _ _ (hr i hi).1,hk _ _ _ (hr i hi).2⟩⟩
theorem Gy.keepC {w w':af} {ad:Option Addr} {xs:List St} (h:Gy w ad xs) (hs:w.heap.size≤w'.heap.size) (hk:∀ g o x,w.cell? ⟨g,o,none⟩=some x→w'.cell? ⟨g,o,none⟩=some x):Gy w' ad xs:=by
 rcases h with h | ⟨b,off,e,hb,hr⟩
 ·exact .inl h
 exact .inr ⟨b,off,e,Sg hb hs,fun i hi=>⟨hk _ _ _ (hr i hi).1,hk _ _ _ (hr i hi).2.1,hk _ _ _ (hr i hi).2.2⟩⟩
theorem Gy.at0 {w:af} {ad:Option Addr} {xs:List St} (h:Gy w ad xs) {k:Nat} (hk:k < xs.length):∃ b off,ad=some ⟨b,off,none⟩∧Ri w b (off + k * 3) xs[k]∧b < w.heap.size:=by
 rcases h with h | ⟨b',off',e,hb,hr⟩
 ·rw [h] at hk; simp at hk
 exact ⟨b',off',e,hr k hk,hb⟩
def QG:Value→Nat
 | .slice _ n _=>n
 | _=>0
def RY:Value→Nat
 | .bool true=>1
 | _=>0
end Go.Proofs.YtdmniljjnaebbaaGreatDoor
