/- The contract of the program's look at the allowed pairs of a node. -/
import Derived.Test.YtajkkeikihhejaaGreatSq
import Derived.Test.YtajkkeikihhejaaGreatJ19
open Go.Proofs.Tryz
set_option maxHeartbeats 80000000
namespace Go.Proofs.YtajkkeikihhejaaGreat
set_option maxRecDepth 100000
open Go.Sort
open Go.ChangeShapes Go.WideShapes Go.ChangeAt Go.RowKit
open Pl
theorem Gp (ad:Option Addr) (cap:Nat) (xs:List Al) (w:af) (hlen:xs.length≤1048576) (hcap:xs.length≤cap) (hf:∀ a ∈ xs,a.fits) (hs:jN w ad xs) :
  Calls prog 252 #[.slice ad xs.length cap] w fun e w'=>e=.returned (.bool (ed xs))∧ag w w':=by
 have HS:=az hs;have HF:=az hf;clear hs hf;by_cases hl:1≤xs.length∧xs.length≤6
 ·obtain ⟨hl1,hl2⟩:=hl;go_enter func252,ntmps252;go_wp2_with fail;go_loopw [15] (fun i wr=>∃ k:Nat,k≤xs.length∧i=.int .i64 k∧Hid (DN xs k=true)∧ag w wr) (fun i _=>xs.length - (intOf i).toNat);case atStart=>exact ⟨0,TW _,rfl,rfl,TT _ _⟩
  obtain ⟨k,hk,rfl,HU,hB⟩:=hrel;by_cases hlt:k < xs.length
  ·rcases HS.out.below hB with rfl | ⟨b,off,rfl,hb,hr⟩
   ·simp at hlt
   obtain ⟨t0,t1⟩:=hr k hlt;obtain ⟨z0,z1⟩:=HF.out xs[k] (TQ hlt);have hk1:=bB k;have hk2:(k:Int)≤(cap:Int):=by omega
   obtain ⟨W1,hW1⟩:∃ W1,W1=wr.alloc (.cells #[.string xs[k].t,.string xs[k].s] 43):=⟨_,rfl⟩;have hal:ag wr W1:=by rw [hW1]; exact (TT _ _).alloc (TS _) _
   have hBW1:Below w.heap.size wr W1:=hal.mono hB.size;have hWs:w.heap.size≤W1.heap.size:=TZ hB.size hal.size;have hgl:wr.heap.size < W1.heap.size:=by rw [hW1]; simp
   have g0:W1.cell? ⟨wr.heap.size,0,none⟩=some (.string xs[k].t):=by rw [hW1]; simp
   have g1:W1.cell? ⟨wr.heap.size,1,none⟩=some (.string xs[k].s):=by rw [hW1]; simp
   have HS1:Hid (jN W1 (some ⟨b,off,none⟩) xs):=(HS.out.below hB).below hal;clear hr;go_wp2_with fail;rw [← hW1];clear hW1 t0 t1 hal;have p0:=cell_regrown g0;have p1:=cell_regrown g1;have U9:Hid (∀ d os,ag w (grow (redrawn W1 d) os)):=fun d os=>hB.trans (hBW1.trans ((below_regrown W1 d os).mono hWs));have Vk:=pU (jQ (W:=W1) (fun W'=>aL xs[k].t W' z0));have HCS:=pU (jQ (W:=W1) (fun W'=>Hy xs[k].s W' z1))
   have VF:Hid (∀ d os,Calls prog 142 #[.slice (some ⟨b,off,none⟩) k cap,.agg #[.string xs[k].t,.string xs[k].s]] (grow (redrawn W1 d) os) fun e w''=>e=.returned (.bool (dF xs k xs[k]))∧∃ p:Regrown,w''=grow (redrawn W1 p.d) p.os) :=
    dm fun W' hb=>vw (some ⟨b,off,none⟩) k cap xs xs[k] _ hk hlen (HS1.out.below hb)
   cases hn:aP xs[k].t;case false=>
    have HN:Hid (DN xs xs.length=false):=oK xs k hlt (by simp [Fh,hn]) _ hlt;rw [hn] at Vk;refine wp_region_quiet_below (by kernel_rfl) (by kernel_rfl) ?_
    repeat (go_big_quiet_step (exact Vk.out _ _))
    refine wpQuiet_nil ?_;rintro _ ⟨⟨dq,osq⟩,rfl⟩;go_wp2;go_ret;exact ⟨ah (by simp [ed,HN.out]),U9.out dq osq⟩
   rw [hn] at Vk;cases hsb:uj xs[k].s;case false=>
    have HN:Hid (DN xs xs.length=false):=oK xs k hlt (by simp [Fh,hn,hsb]) _ hlt;rw [hsb] at HCS;refine wp_region_quiet_below (by kernel_rfl) (by kernel_rfl) ?_
    repeat (go_big_quiet_step (first | exact Vk.out _ _ | exact HCS.out _ _))
    refine wpQuiet_nil ?_;rintro _ ⟨⟨dq,osq⟩,rfl⟩;go_wp2;go_ret;exact ⟨ah (by simp [ed,HN.out]),U9.out dq osq⟩
   rw [hsb] at HCS;obtain ⟨p,hp⟩:∃ p,dF xs k xs[k]=p:=⟨_,rfl⟩;rw [hp] at VF;refine wp_region_quiet_below (by kernel_rfl) (by kernel_rfl) ?_
   repeat (go_big_quiet_step (first | exact Vk.out _ _ | exact HCS.out _ _ | exact VF.out _ _))
   refine wpQuiet_nil ?_;rintro _ ⟨⟨dq,osq⟩,rfl⟩;cases p;case true=>
    have HN:Hid (DN xs xs.length=false):=oK xs k hlt (by simp [hp]) _ hlt;go_wp2;go_ret;exact ⟨ah (by simp [ed,HN.out]),U9.out dq osq⟩
   have Yx:Hid (DN xs (k + 1)=true):=by show _=_; rw [yR _ _ hlt,HU.out]; simp [Fh,hn,hsb,hp]
   go_wp2;go_roundw;case rel=>exact ⟨k + 1,by omega,by go_num,Yx,U9.out dq osq⟩
   simp [intOf] <;> omega
  obtain rfl:k=xs.length:=by omega
  have ZG:Hid (ed xs=true):=by show _=_; simp [ed,hl1,hl2,HU.out]
  go_wp2;go_ret;exact ⟨by rw [ZG.out]; rfl,hB⟩
 have ZG:Hid (ed xs=false):=by
  show _=_;unfold ed;by_cases h1:1≤xs.length
  ·have h2:¬ xs.length≤6:=fun h2=>hl ⟨h1,h2⟩;simp [h2]
  simp [h1]
 go_enter func252,ntmps252;go_wp2_with fail
 all_goals go_ret
 all_goals exact ⟨by rw [ZG.out]; rfl,TT _ _⟩
set_option maxRecDepth 8000 in
theorem Gq (r:ER) (w:af) (hf:r.e.fits) (hl:r.e.light) (hok:r.ok w) (hcap:r.e.allow.length≤r.capA) (h1:r.e.kind=1) :
  Calls prog 239 #[r.val] w fun e w'=>e=.returned (.bool (av r.e))∧ag w w':=by
 obtain ⟨⟨kind,allow,over,name,kids⟩,adA,capA,adK,capK⟩:=r;obtain ⟨f1,f2,f3,f4,f5⟩:=hf;obtain ⟨hA,hK⟩:=hok;obtain ⟨l1,l2⟩:=hl;simp only at f1 f2 f3 f4 f5 h1 hA hK hcap l1 l2;subst h1;simp only [ER.val];unfold maxLen at f4 f5;have HB0:Hid (∀ n,ag w ((w.alloc (.cells #[.int .i64 1,.slice adA allow.length capA,.string over,.string name,.slice adK kids.length capK] 39)).drewN n)):=fun n=>below_drewN ((TT w.heap.size w).alloc (TS _) _) n;have HA:=az hA;have VH:=az f1;have HCAP:Hid (allow.length≤capA):=hcap;clear hA hK f1 hcap;go_enter func239,ntmps239;go_wp2_with fail;go_quiet (fail);go_wp2_with fail;refine (Gp adA capA allow _ l1 HCAP.out VH.out (HA.out.below (HB0.out _))).mono ?_;rintro e w1 ⟨rfl,hb1⟩;have c2:w1.cell? ⟨w.heap.size,2,none⟩=some (.string over):=by rw [hb1.cell (p:=⟨w.heap.size,2,none⟩) (by show _ < (w.alloc _).heap.size; simp)]; show (w.alloc _).cell? _=_; simp
 have c3:w1.cell? ⟨w.heap.size,3,none⟩=some (.string name):=by rw [hb1.cell (p:=⟨w.heap.size,3,none⟩) (by show _ < (w.alloc _).heap.size; simp)]; show (w.alloc _).cell? _=_; simp
 have HB1:Hid (ag w w1):=(HB0.out _).trans (hb1.mono (HB0.out _).size);clear hb1 HB0;go_wp2
 all_goals go_ret
 all_goals exact ⟨ah (by first | (simp [av, *]; done) | (simp [av, *]; omega) | (simp [av, *]; rw [Bool.eq_iff_iff]; simp; done) | (simp [av, *]; rw [Bool.eq_iff_iff]; simp; omega)),HB1.out⟩
theorem Jo (r:ER) (w:af) (hf:r.e.fits) (hl:r.e.light) (hok:r.ok w) (hcap:r.e.allow.length≤r.capA) :
  Calls prog 239 #[r.val] w fun e w'=>e=.returned (.bool (av r.e))∧ag w w':=by
 by_cases h:r.e.kind=1
 ·exact Gq r w hf hl hok hcap h
 exact Ev r w hf h
structure Arr (es:List Ex) (w:World) (g k:Nat):Prop where
 lt:g < w.heap.size
 told:∀ j,j < k→w.cell? ⟨g,j,none⟩=some (.int .i64 (ay es j))
 rest:∀ j,k≤j→j < 15→w.cell? ⟨g,j,none⟩=some (.int .i64 0)
 free:∀ o,w.frozen? ⟨g,o,none⟩=false
theorem Arr.later {es:List Ex} {w w':af} {g k:Nat} (h:Arr es w g k) (hb:ag w w'):Arr es w' g k where
 lt:=TP h.lt hb.size
 told j hj:=kept hb h.lt (h.told j hj)
 rest j h1 h2:=kept hb h.lt (h.rest j h1 h2)
 free o:=Nc hb h.lt (h.free o)
theorem Arr.put {es:List Ex} {w:af} {g k:Nat} (h:Arr es w g k) (hk:k < 15):Arr es (w.setCell ⟨g,k,none⟩ (.int .i64 (ay es k))) g (k + 1) where
 lt:=by simpa using h.lt
 told j hj:=by
  by_cases e:j=k
  ·subst e; exact xm (h.rest j (TS _) hk)
  rw [lN (Ne.symm e)]; exact h.told j (by omega)
 rest j h1 h2:=by rw [lN (by omega)]; exact h.rest j (by omega) h2
 free o:=by simpa using h.free o
def vD (es:List Ex):Bool:=jv es && decide (ay es (es.length - 1)=0)
theorem Dl {es:List Ex} (k:Nat) (h:k < es.length) (hb:ay es k < 0):vD es=false:=by
 have:jv es=false:=by
  rw [Bool.eq_false_iff]; intro h2; unfold jv at h2; rw [Ub] at h2; have:=h2 k (by simpa using h); simp at this; omega
 simp [vD,this]
theorem yn (b off cap:Nat) (rs:List ER) (w:af) (hn1:1≤rs.length) (hn2:rs.length≤15) (hl:∀ r ∈ rs,r.e.light) (hb:b < w.heap.size) (hr:∀ (i:Nat) (h:i < rs.length),x8 w b (off + i * 5) rs[i]) (hok:∀ r ∈ rs,r.ok w) :
  Calls prog 240 #[.slice (some ⟨b,off,none⟩) rs.length cap] w fun e w'=>e=.returned (.bool (vD (aj rs)))∧ag w w':=by
 have V6:Hid ((aj rs).length=rs.length):=aT rs;have HL:=az hl;have HR:Hid (∀ (i:Nat) (h:i < rs.length),x8 w b (off + i * 5) rs[i]):=hr;have HO:=az hok;clear hl hr hok;go_enter func240,ntmps240;go_wp2_with fail;go_loopw [10] (fun i wr=>∃ k:Nat,k≤rs.length∧i=.int .i64 k∧Hid (Nh (aj rs) k)∧Hid (Arr (aj rs) wr w.heap.size k)∧ag w wr) (fun i _=>rs.length - (intOf i).toNat);case atStart =>
  refine ⟨0,TW _,rfl,(fun j hj=>absurd hj (Uw _)),⟨by simp,(fun j hj=>absurd hj (Uw _)),fun j _ hj=>?_,fun o=>by simp⟩,(TT _ _).alloc (TS _) _⟩;have h15:j=0 ∨ j=1 ∨ j=2 ∨ j=3 ∨ j=4 ∨ j=5 ∨ j=6 ∨ j=7 ∨ j=8 ∨ j=9 ∨ j=10 ∨ j=11 ∨ j=12 ∨ j=13 ∨ j=14:=by omega
  rcases h15 with rfl | rfl | rfl | rfl | rfl | rfl | rfl | rfl | rfl | rfl | rfl | rfl | rfl | rfl | rfl <;> simp
 obtain ⟨k,hk,rfl,HGU,ZU,hB⟩:=hrel;by_cases hlt:k < rs.length
 ·have Ww:k < (aj rs).length:=by rw [V6.out]; exact hlt
  obtain ⟨t0,t1,t2,t3,t4⟩:=(HR.out k hlt).later hb hB;have hk1:=bB k;have hk2:(k:Int) < (rs.length:Int):=by omega
  have hk3:(k:Int) < 15:=by omega
  obtain ⟨-,lk⟩:=HL.out rs[k] (TQ hlt);obtain ⟨W1,hW1⟩:∃ W1,W1=wr.alloc (.cells #[.int .i64 rs[k].e.kind,.slice rs[k].adA rs[k].e.allow.length rs[k].capA,.string rs[k].e.over,.string rs[k].e.name,.slice rs[k].adK rs[k].e.kids.length rs[k].capK] 39):=⟨_,rfl⟩;have hal:ag wr W1:=by rw [hW1]; exact (TT _ _).alloc (TS _) _
  have hB1:ag w W1:=hB.trans (hal.mono hB.size);have HAR1:Hid (Arr (aj rs) W1 w.heap.size k):=ZU.out.later hal;have s4:W1.cell? ⟨wr.heap.size,4,none⟩=some (.slice rs[k].adK rs[k].e.kids.length rs[k].capK):=by rw [hW1]; simp
  have HT:Hid (di (dx (aj rs) k) (rs[k].e.kids.take rs[k].e.kids.length).reverse ((k:Int) - 1)=ay (aj rs) k):=by
   show _=_;rw [Ug,jb (aj rs) k,pg rs k hlt]
  clear ZU;go_wp2_with fail;rw [← hW1];clear hW1 t0 t1 t2 t3 t4 hal;go_loopw [6,7] (fun x i w2=>∃ (j:Nat) (y:Int),j≤rs[k].e.kids.length∧i=.int .i64 ((j:Int) - 1)∧x=.int .i64 y∧0≤y∧y≤k∧Hid (di (dx (aj rs) k) (rs[k].e.kids.take j).reverse (y - 1)=ay (aj rs) k)∧w2=W1) (fun _ i _=>(intOf i + 1).toNat);case atStart=>exact ⟨rs[k].e.kids.length,(k:Int),TS _,rfl,rfl,by omega,by omega,HT,rfl⟩
  obtain ⟨j,y,hj,rfl,rfl,hy0,hy1,HG,rfl⟩:=hrel;by_cases hj0:0 < j
  ·obtain ⟨j,rfl⟩:∃ i,j=i + 1:=⟨j - 1,by omega⟩;have hjl:j < rs[k].e.kids.length:=by omega
   rcases (HO.out rs[k] (TQ hlt)).2.below hB1 with hnil | ⟨bk,offk,XH,hbk,YK⟩
   ·rw [hnil] at hjl; simp at hjl
   have s4':=s4;rw [XH] at s4';have k0:=YK j hjl;have hji:((j + 1:Nat):Int) - 1=(j:Int):=by omega
   have hj1:=bB j;have hj2:(j:Int) < (rs[k].e.kids.length:Int):=by omega
   have HG2:Hid ((if y - 1 < 0 ∨ rs[k].e.kids[j] ≠ y - 1 then -1 else if dx (aj rs) k (y - 1) < 0 then -1 else di (dx (aj rs) k) (rs[k].e.kids.take j).reverse (dx (aj rs) k (y - 1) - 1))=ay (aj rs) k):=by
    have:=HG.out;rw [TV hjl,List.reverse_append] at this;exact this
   rw [hji];clear HG YK XH s4;by_cases hy:y=0
   ·have HN:Hid (vD (aj rs)=false):=Dl k Ww (by rw [← HG2.out,if_pos (Or.inl (by omega))]; omega);subst hy;go_wp2;go_ret;exact ⟨by rw [HN.out]; rfl,hB1⟩
   obtain ⟨m,rfl⟩:∃ m:Nat,y=(m:Int) + 1:=⟨(y - 1).toNat,by omega⟩;have em:(m:Int) + 1 - 1=(m:Int):=by omega
   by_cases hkx:rs[k].e.kids[j]=(m:Int)
   ·have hF:dx (aj rs) k ((m:Int) + 1 - 1)=ay (aj rs) m:=by rw [em]; unfold dx; rw [if_pos ⟨by omega,by simp; omega⟩]; simp
    have HF:Hid (dx (aj rs) k ((m:Int) + 1 - 1)=ay (aj rs) m):=hF;have hle:=iB (aj rs) m;have hge:0≤ay (aj rs) m:=HGU.out m (by omega);have a0:=HAR1.out.told m (by omega);have hm1:=bB m;have hm2:(m:Int) < 15:=by omega
    have Xv:Hid (di (dx (aj rs) k) (rs[k].e.kids.take j).reverse (ay (aj rs) m - 1)=ay (aj rs) k):=by
     show _=_;rw [← HG2.out,if_neg (by omega),HF.out,if_neg (by omega)]
    clear hF HG2;go_wp2;go_roundw;case rel=>exact ⟨j,ay (aj rs) m,by omega,by go_num,rfl,hge,by omega,Xv,by first | rfl | trivial⟩
    simp [intOf] <;> omega
   have HN:Hid (vD (aj rs)=false):=Dl k Ww (by rw [← HG2.out,if_pos (Or.inr (by rw [em]; exact hkx))]; omega);have hq:(rs[k].e.kids[j] != (m:Int))=true:=by simpa using hkx
   have hq0:((m:Int) + 1 == 0)=false:=by simp; omega
   go_wp2;go_ret;exact ⟨by rw [HN.out]; rfl,hB1⟩
  obtain rfl:j=0:=by omega
  have hX:ay (aj rs) k=y:=by have:=HG.out; simp [di] at this; omega
  have HGU2:Hid (Nh (aj rs) (k + 1)):=by
   intro m hm;by_cases e:m=k
   ·subst e; omega
   exact HGU.out m (by omega)
  have q0:=HAR1.out.rest k (TS _) (by omega);have qf:=HAR1.out.free;have HA2:=HAR1.out.put (k:=k) (by omega);rw [hX] at HA2;have HA3:Hid (Arr (aj rs) _ w.heap.size (k + 1)):=HA2;have hB2:=hB1.setCell (p:=⟨w.heap.size,k,none⟩) (TS _) (.int .i64 y);clear HG HA2 hX;go_wp2;go_roundw;case rel=>exact ⟨k + 1,by omega,by go_num,HGU2,HA3,hB2⟩
  simp [intOf] <;> omega
 obtain rfl:k=rs.length:=by omega
 have a0:=ZU.out.told (rs.length - 1) (by omega);have HKB:Hid (vD (aj rs)=decide (ay (aj rs) (rs.length - 1)=0)):=by
  show _=_;have:jv (aj rs)=true:=by
   unfold jv;rw [Ub];intro j hj;have hj':j < rs.length:=by simpa [V6.out] using hj
   simpa using HGU.out j hj'
  unfold vD;rw [this,V6.out,Bool.true_and]
 have hcast:((rs.length:Int) - 1)=((rs.length - 1:Nat):Int):=by omega
 have h15:((rs.length - 1:Nat):Int) < 15:=by omega
 have h00:(0:Int)≤((rs.length - 1:Nat):Int):=by omega
 go_wp2;go_ret;exact ⟨by rw [HKB.out]; exact ah (by rw [Bool.eq_iff_iff]; simp),hB⟩
theorem L6 {es:List Ex} (h:¬ (1≤es.length∧es.length≤15)):kL es=false:=by rw [← vY]; exact Dc h
theorem Jp {es:List Ex} (k:Nat) (h:k < es.length) (hb:av es[k]=false):kL es=false:=by simp [kL,Cf es k h hb]
theorem AO (b off cap:Nat) (rs:List ER) (w:af) (hlen:rs.length≤1048576) (hl:∀ r ∈ rs,r.e.light) (hf:∀ r ∈ rs,r.e.fits) (hcp:∀ r ∈ rs,r.e.allow.length≤r.capA) (hb:b < w.heap.size) (hr:∀ (i:Nat) (h:i < rs.length),x8 w b (off + i * 5) rs[i]) (hok:∀ r ∈ rs,r.ok w) :
  Calls prog 221 #[.slice (some ⟨b,off,none⟩) rs.length cap] w fun e w'=>e=.returned (.bool (kL (aj rs)))∧ag w w':=by
 have V6:Hid ((aj rs).length=rs.length):=aT rs;have HL:=az hl;have HF:=az hf;have HCP:Hid (∀ r ∈ rs,r.e.allow.length≤r.capA):=hcp;have HR:Hid (∀ (i:Nat) (h:i < rs.length),x8 w b (off + i * 5) rs[i]):=hr;have HO:=az hok;clear hl hf hr hok hcp;by_cases hn:1≤rs.length∧rs.length≤15
 ·obtain ⟨hn1,hn2⟩:=hn;go_enter func221,ntmps221;go_wp2_with fail;go_loopw [3,16] (fun o i wr=>∃ k:Nat,k≤rs.length∧i=.int .i64 k∧o=.int .i64 (gF (aj rs) k:Nat)∧Hid (jr (aj rs) k=true)∧ag w wr) (fun _ i _=>rs.length - (intOf i).toNat);case atStart=>exact ⟨0,TW _,rfl,rfl,(by show _=_; simp [jr]),TT _ _⟩
  obtain ⟨k,hk,rfl,rfl,HU,hB⟩:=hrel;by_cases hlt:k < rs.length
  ·have Ww:k < (aj rs).length:=by rw [V6.out]; exact hlt
   have HEK:Hid ((aj rs)[k]=rs[k].e):=by show _=_; simp [aj]
   obtain ⟨t0,t1,t2,t3,t4⟩:=(HR.out k hlt).later hb hB;have hk1:=bB k;have hk2:(k:Int) < (rs.length:Int):=by omega
   have hol:=uk (aj rs) k;have hal:ag w (wr.alloc (.cells #[.int .i64 rs[k].e.kind,.slice rs[k].adA rs[k].e.allow.length rs[k].capA,.string rs[k].e.over,.string rs[k].e.name,.slice rs[k].adK rs[k].e.kids.length rs[k].capK] 39)):=hB.alloc hB.size _;have UN:=az hal;clear hal;go_wp2_with fail;refine (Jo rs[k] _ (HF.out _ (TQ hlt)) (HL.out _ (TQ hlt)) ((HO.out _ (TQ hlt)).below UN.out) (HCP.out _ (TQ hlt))).mono ?_;rintro e w1 ⟨rfl,hb1⟩;have hB1:ag w w1:=UN.out.trans (hb1.mono UN.out.size);have g0:w1.cell? ⟨wr.heap.size,0,none⟩=some (.int .i64 rs[k].e.kind):=by rw [hb1.cell (p:=⟨wr.heap.size,0,none⟩) (by simp)]; simp
   clear hb1 t0 t1 t2 t3 t4 UN;cases UA:av rs[k].e;case false=>
    have HN:Hid (kL (aj rs)=false):=Jp k Ww (by rw [HEK.out]; exact UA);go_wp2;go_ret;exact ⟨by rw [HN.out]; rfl,hB1⟩
   have Yx:Hid (jr (aj rs) (k + 1)=true):=by show _=_; rw [ul _ _ Ww,HU.out,HEK.out,UA]; rfl
   have HOW:Hid (gF (aj rs) (k + 1)=gF (aj rs) k + (if rs[k].e.kind=1 then 1 else 0)):=by show _=_; rw [yS _ _ Ww,HEK.out]
   by_cases Zr:rs[k].e.kind=1
   ·have Yb:Hid (gF (aj rs) (k + 1)=gF (aj rs) k + 1):=by show _=_; rw [HOW.out,if_pos Zr]
    clear HOW;go_wp2;go_roundw;case rel=>exact ⟨k + 1,by omega,by go_num,by rw [Yb.out]; go_num,Yx,hB1⟩
    simp [intOf] <;> omega
   have Yb:Hid (gF (aj rs) (k + 1)=gF (aj rs) k):=by show _=_; rw [HOW.out,if_neg Zr]; rfl
   clear HOW;go_wp2;go_roundw;case rel=>exact ⟨k + 1,by omega,by go_num,by rw [Yb.out],Yx,hB1⟩
   simp [intOf] <;> omega
  obtain rfl:k=rs.length:=by omega
  have HN:Hid ((aj rs).all av=true):=by
   have:=HU.out;unfold jr at this;rwa [← V6.out,Ug] at this
  have HOW:Hid (gF (aj rs) rs.length=own (aj rs)):=by show _=_; unfold gF; rw [← V6.out,Ug]
  have hol:=uk (aj rs) rs.length;by_cases ho:gF (aj rs) rs.length≤1
  ·have HS:Hid (kL (aj rs)=vD (aj rs)):=by
    show _=_;have h1:own (aj rs)≤1:=by rw [← HOW.out]; exact ho
    have e1:=V6.out;unfold kL vD;rw [e1,HN.out];simp [h1,hn1,hn2]
   go_wp2_with fail;refine (yn b off cap rs _ hn1 hn2 HL.out (TP hb hB.size) (fun i hi=>(HR.out i hi).later hb hB) (fun r hr=>(HO.out r hr).below hB)).mono ?_;rintro e w1 ⟨rfl,hb1⟩;go_wp2;go_ret;exact ⟨by rw [HS.out]; rfl,hB.trans (hb1.mono hB.size)⟩
  have HS:Hid (kL (aj rs)=false):=by
   show _=_;have h1:¬ own (aj rs)≤1:=by rw [← HOW.out]; exact ho
   simp [kL,h1]
  go_wp2;go_ret;exact ⟨by rw [HS.out]; rfl,hB⟩
 have HN:Hid (kL (aj rs)=false):=L6 (by rw [V6.out]; exact hn);go_enter func221,ntmps221;go_wp2_with fail
 all_goals go_ret
 all_goals exact ⟨by rw [HN.out]; rfl,TT _ _⟩
theorem AP (ad:Option Addr) (cap:Nat) (rs:List ER) (w:af) (hlen:rs.length≤1048576) (hl:∀ r ∈ rs,r.e.light) (hf:∀ r ∈ rs,r.e.fits) (hcp:∀ r ∈ rs,r.e.allow.length≤r.capA) (hs:iH w ad rs) :
  Calls prog 221 #[.slice ad rs.length cap] w fun e w'=>e=.returned (.bool (kL (aj rs)))∧ag w w':=by
 rcases hs with rfl | ⟨b,off,rfl,hb,hr,hok⟩
 ·go_enter func221,ntmps221;go_wp2_with fail;go_ret;exact ⟨rfl,TT _ _⟩
 exact AO b off cap rs w hlen hl hf hcp hb hr hok
end Go.Proofs.YtajkkeikihhejaaGreat
