/- The contract of the program's look at the allowed pairs of a node. -/
import Derived.Test.YtdmniljjnaebbaaGreatDoorSq
import Derived.Test.YtdmniljjnaebbaaGreatDoorJ9
open Go.Proofs.Tryz
set_option maxHeartbeats 80000000
namespace Go.Proofs.YtdmniljjnaebbaaGreatDoor
set_option maxRecDepth 100000
open Go.Sort
open Go.ChangeShapes Go.WideShapes Go.ChangeAt Go.RowKit
open Pl
theorem Fb (ad:Option Addr) (cap:Nat) (xs:List Al) (w:af) (hlen:xs.length≤1048576) (hcap:xs.length≤cap) (hf:∀ a ∈ xs,a.fits) (hs:gP w ad xs) :
  Calls prog 218 #[.slice ad xs.length cap] w fun e w'=>e=.returned (.bool (gG xs))∧aa w w':=by
 have HS:=ay hs;have HF:=ay hf;clear hs hf;by_cases hl:1≤xs.length∧xs.length≤6
 ·obtain ⟨hl1,hl2⟩:=hl;go_enter func218,ntmps218;go_wp2_with fail;go_loopw [15] (fun i wr=>∃ k:Nat,k≤xs.length∧i=.int .i64 k∧Hid (DJ xs k=true)∧aa w wr) (fun i _=>xs.length - (intOf i).toNat);case atStart=>exact ⟨0,Sm _,rfl,rfl,Si _ _⟩
  obtain ⟨k,hk,rfl,HU,hB⟩:=hrel;by_cases hlt:k < xs.length
  ·rcases HS.out.below hB with rfl | ⟨b,off,rfl,hb,hr⟩
   ·simp at hlt
   obtain ⟨t0,t1⟩:=hr k hlt;obtain ⟨z0,z1⟩:=HF.out xs[k] (Sd hlt);have hk1:=bH k;have hk2:(k:Int)≤(cap:Int):=by omega
   obtain ⟨W1,hW1⟩:∃ W1,W1=wr.alloc (.cells #[.string xs[k].t,.string xs[k].s] 204):=⟨_,rfl⟩;have hal:aa wr W1:=by rw [hW1]; exact (Si _ _).alloc (Sj _) _
   have hBW1:Below w.heap.size wr W1:=hal.mono hB.size;have hWs:w.heap.size≤W1.heap.size:=Sq hB.size hal.size;have hgl:wr.heap.size < W1.heap.size:=by rw [hW1]; simp
   have g0:W1.cell? ⟨wr.heap.size,0,none⟩=some (.string xs[k].t):=by rw [hW1]; simp
   have g1:W1.cell? ⟨wr.heap.size,1,none⟩=some (.string xs[k].s):=by rw [hW1]; simp
   have HS1:Hid (gP W1 (some ⟨b,off,none⟩) xs):=(HS.out.below hB).below hal;clear hr;go_wp2_with fail;rw [← hW1];clear hW1 t0 t1 hal;have p0:=cell_regrown g0;have p1:=cell_regrown g1;have TQ:Hid (∀ d os,aa w (grow (redrawn W1 d) os)):=fun d os=>hB.trans (hBW1.trans ((below_regrown W1 d os).mono hWs));have TE:=oG (je (W:=W1) (fun W'=>aL xs[k].t W' z0));have HCS:=oG (je (W:=W1) (fun W'=>Gf xs[k].s W' z1))
   have Uo:Hid (∀ d os,Calls prog 130 #[.slice (some ⟨b,off,none⟩) k cap,.agg #[.string xs[k].t,.string xs[k].s]] (grow (redrawn W1 d) os) fun e w''=>e=.returned (.bool (dC xs k xs[k]))∧∃ p:Regrown,w''=grow (redrawn W1 p.d) p.os) :=
    bP fun W' hb=>r9 (some ⟨b,off,none⟩) k cap xs xs[k] _ hk hlen (HS1.out.below hb)
   cases hn:aR xs[k].t;case false=>
    have HN:Hid (DJ xs xs.length=false):=nk xs k hlt (by simp [Lv,hn]) _ hlt;rw [hn] at TE;refine wp_region_quiet_below (by kernel_rfl) (by kernel_rfl) ?_
    repeat (go_big_quiet_step (exact TE.out _ _))
    refine wpQuiet_nil ?_;rintro _ ⟨⟨dq,osq⟩,rfl⟩;go_wp2;go_ret;exact ⟨ah (by simp [gG,HN.out]),TQ.out dq osq⟩
   rw [hn] at TE;cases hsb:xm xs[k].s;case false=>
    have HN:Hid (DJ xs xs.length=false):=nk xs k hlt (by simp [Lv,hn,hsb]) _ hlt;rw [hsb] at HCS;refine wp_region_quiet_below (by kernel_rfl) (by kernel_rfl) ?_
    repeat (go_big_quiet_step (first | exact TE.out _ _ | exact HCS.out _ _))
    refine wpQuiet_nil ?_;rintro _ ⟨⟨dq,osq⟩,rfl⟩;go_wp2;go_ret;exact ⟨ah (by simp [gG,HN.out]),TQ.out dq osq⟩
   rw [hsb] at HCS;obtain ⟨p,hp⟩:∃ p,dC xs k xs[k]=p:=⟨_,rfl⟩;rw [hp] at Uo;refine wp_region_quiet_below (by kernel_rfl) (by kernel_rfl) ?_
   repeat (go_big_quiet_step (first | exact TE.out _ _ | exact HCS.out _ _ | exact Uo.out _ _))
   refine wpQuiet_nil ?_;rintro _ ⟨⟨dq,osq⟩,rfl⟩;cases p;case true=>
    have HN:Hid (DJ xs xs.length=false):=nk xs k hlt (by simp [hp]) _ hlt;go_wp2;go_ret;exact ⟨ah (by simp [gG,HN.out]),TQ.out dq osq⟩
   have Xo:Hid (DJ xs (k + 1)=true):=by show _=_; rw [xx _ _ hlt,HU.out]; simp [Lv,hn,hsb,hp]
   go_wp2;go_roundw;case rel=>exact ⟨k + 1,by omega,by go_num,Xo,TQ.out dq osq⟩
   simp [intOf] <;> omega
  obtain rfl:k=xs.length:=by omega
  have Zc:Hid (gG xs=true):=by show _=_; simp [gG,hl1,hl2,HU.out]
  go_wp2;go_ret;exact ⟨by rw [Zc.out]; rfl,hB⟩
 have Zc:Hid (gG xs=false):=by
  show _=_;unfold gG;by_cases h1:1≤xs.length
  ·have h2:¬ xs.length≤6:=fun h2=>hl ⟨h1,h2⟩;simp [h2]
  simp [h1]
 go_enter func218,ntmps218;go_wp2_with fail
 all_goals go_ret
 all_goals exact ⟨by rw [Zc.out]; rfl,Si _ _⟩
set_option maxRecDepth 8000 in
theorem Fe (r:ER) (w:af) (hf:r.e.fits) (hl:r.e.light) (hok:r.ok w) (hcap:r.e.allow.length≤r.capA) (h1:r.e.kind=1) :
  Calls prog 210 #[r.val] w fun e w'=>e=.returned (.bool (az r.e))∧aa w w':=by
 obtain ⟨⟨kind,allow,over,name,kids⟩,adA,capA,adK,capK⟩:=r;obtain ⟨f1,f2,f3,f4,f5⟩:=hf;obtain ⟨hA,hK⟩:=hok;obtain ⟨l1,l2⟩:=hl;simp only at f1 f2 f3 f4 f5 h1 hA hK hcap l1 l2;subst h1;simp only [ER.val];unfold maxLen at f4 f5;have HB0:Hid (∀ n,aa w ((w.alloc (.cells #[.int .i64 1,.slice adA allow.length capA,.string over,.string name,.slice adK kids.length capK] 190)).drewN n)):=fun n=>below_drewN ((Si w.heap.size w).alloc (Sj _) _) n;have HA:=ay hA;have VT:=ay f1;have HCAP:Hid (allow.length≤capA):=hcap;clear hA hK f1 hcap;go_enter func210,ntmps210;go_wp2_with fail;go_quiet (fail);go_wp2_with fail;refine (Fb adA capA allow _ l1 HCAP.out VT.out (HA.out.below (HB0.out _))).mono ?_;rintro e w1 ⟨rfl,hb1⟩;have c2:w1.cell? ⟨w.heap.size,2,none⟩=some (.string over):=by rw [hb1.cell (p:=⟨w.heap.size,2,none⟩) (by show _ < (w.alloc _).heap.size; simp)]; show (w.alloc _).cell? _=_; simp
 have c3:w1.cell? ⟨w.heap.size,3,none⟩=some (.string name):=by rw [hb1.cell (p:=⟨w.heap.size,3,none⟩) (by show _ < (w.alloc _).heap.size; simp)]; show (w.alloc _).cell? _=_; simp
 have HB1:Hid (aa w w1):=(HB0.out _).trans (hb1.mono (HB0.out _).size);clear hb1 HB0;go_wp2
 all_goals go_ret
 all_goals exact ⟨ah (by first | (simp [az, *]; done) | (simp [az, *]; omega) | (simp [az, *]; rw [Bool.eq_iff_iff]; simp; done) | (simp [az, *]; rw [Bool.eq_iff_iff]; simp; omega)),HB1.out⟩
theorem Ie (r:ER) (w:af) (hf:r.e.fits) (hl:r.e.light) (hok:r.ok w) (hcap:r.e.allow.length≤r.capA) :
  Calls prog 210 #[r.val] w fun e w'=>e=.returned (.bool (az r.e))∧aa w w':=by
 by_cases h:r.e.kind=1
 ·exact Fe r w hf hl hok hcap h
 exact CF r w hf h
structure Arr (es:List Ex) (w:World) (g k:Nat):Prop where
 lt:g < w.heap.size
 told:∀ j,j < k→w.cell? ⟨g,j,none⟩=some (.int .i64 (aG es j))
 rest:∀ j,k≤j→j < 15→w.cell? ⟨g,j,none⟩=some (.int .i64 0)
 free:∀ o,w.frozen? ⟨g,o,none⟩=false
theorem Arr.later {es:List Ex} {w w':af} {g k:Nat} (h:Arr es w g k) (hb:aa w w'):Arr es w' g k where
 lt:=Sg h.lt hb.size
 told j hj:=kept hb h.lt (h.told j hj)
 rest j h1 h2:=kept hb h.lt (h.rest j h1 h2)
 free o:=dV hb h.lt (h.free o)
theorem Arr.put {es:List Ex} {w:af} {g k:Nat} (h:Arr es w g k) (hk:k < 15):Arr es (w.setCell ⟨g,k,none⟩ (.int .i64 (aG es k))) g (k + 1) where
 lt:=by simpa using h.lt
 told j hj:=by
  by_cases e:j=k
  ·subst e; exact iM (h.rest j (Sj _) hk)
  rw [bu (Ne.symm e)]; exact h.told j (by omega)
 rest j h1 h2:=by rw [bu (by omega)]; exact h.rest j (by omega) h2
 free o:=by simpa using h.free o
def sO (es:List Ex):Bool:=jA es && decide (aG es (es.length - 1)=0)
theorem BL {es:List Ex} (k:Nat) (h:k < es.length) (hb:aG es k < 0):sO es=false:=by
 have:jA es=false:=by
  rw [Bool.eq_false_iff]; intro h2; unfold jA at h2; rw [SC] at h2; have:=h2 k (by simpa using h); simp at this; omega
 simp [sO,this]
theorem wD (b off cap:Nat) (rs:List ER) (w:af) (hn1:1≤rs.length) (hn2:rs.length≤15) (hl:∀ r ∈ rs,r.e.light) (hb:b < w.heap.size) (hr:∀ (i:Nat) (h:i < rs.length),tK w b (off + i * 5) rs[i]) (hok:∀ r ∈ rs,r.ok w) :
  Calls prog 211 #[.slice (some ⟨b,off,none⟩) rs.length cap] w fun e w'=>e=.returned (.bool (sO (ai rs)))∧aa w w':=by
 have UX:Hid ((ai rs).length=rs.length):=aS rs;have HL:=ay hl;have HR:Hid (∀ (i:Nat) (h:i < rs.length),tK w b (off + i * 5) rs[i]):=hr;have HO:=ay hok;clear hl hr hok;go_enter func211,ntmps211;go_wp2_with fail;go_loopw [10] (fun i wr=>∃ k:Nat,k≤rs.length∧i=.int .i64 k∧Hid (LG (ai rs) k)∧Hid (Arr (ai rs) wr w.heap.size k)∧aa w wr) (fun i _=>rs.length - (intOf i).toNat);case atStart =>
  refine ⟨0,Sm _,rfl,(fun j hj=>absurd hj (SV _)),⟨by simp,(fun j hj=>absurd hj (SV _)),fun j _ hj=>?_,fun o=>by simp⟩,(Si _ _).alloc (Sj _) _⟩;have h15:j=0 ∨ j=1 ∨ j=2 ∨ j=3 ∨ j=4 ∨ j=5 ∨ j=6 ∨ j=7 ∨ j=8 ∨ j=9 ∨ j=10 ∨ j=11 ∨ j=12 ∨ j=13 ∨ j=14:=by omega
  rcases h15 with rfl | rfl | rfl | rfl | rfl | rfl | rfl | rfl | rfl | rfl | rfl | rfl | rfl | rfl | rfl <;> simp
 obtain ⟨k,hk,rfl,HGU,HAR,hB⟩:=hrel;by_cases hlt:k < rs.length
 ·have U7:k < (ai rs).length:=by rw [UX.out]; exact hlt
  obtain ⟨t0,t1,t2,t3,t4⟩:=(HR.out k hlt).later hb hB;have hk1:=bH k;have hk2:(k:Int) < (rs.length:Int):=by omega
  have hk3:(k:Int) < 15:=by omega
  obtain ⟨-,lk⟩:=HL.out rs[k] (Sd hlt);obtain ⟨W1,hW1⟩:∃ W1,W1=wr.alloc (.cells #[.int .i64 rs[k].e.kind,.slice rs[k].adA rs[k].e.allow.length rs[k].capA,.string rs[k].e.over,.string rs[k].e.name,.slice rs[k].adK rs[k].e.kids.length rs[k].capK] 190):=⟨_,rfl⟩;have hal:aa wr W1:=by rw [hW1]; exact (Si _ _).alloc (Sj _) _
  have hB1:aa w W1:=hB.trans (hal.mono hB.size);have ZN:Hid (Arr (ai rs) W1 w.heap.size k):=HAR.out.later hal;have s4:W1.cell? ⟨wr.heap.size,4,none⟩=some (.slice rs[k].adK rs[k].e.kids.length rs[k].capK):=by rw [hW1]; simp
  have HT:Hid (dX (dZ (ai rs) k) (rs[k].e.kids.take rs[k].e.kids.length).reverse ((k:Int) - 1)=aG (ai rs) k):=by
   show _=_;rw [Su,lT (ai rs) k,nG rs k hlt]
  clear HAR;go_wp2_with fail;rw [← hW1];clear hW1 t0 t1 t2 t3 t4 hal;go_loopw [6,7] (fun x i w2=>∃ (j:Nat) (y:Int),j≤rs[k].e.kids.length∧i=.int .i64 ((j:Int) - 1)∧x=.int .i64 y∧0≤y∧y≤k∧Hid (dX (dZ (ai rs) k) (rs[k].e.kids.take j).reverse (y - 1)=aG (ai rs) k)∧w2=W1) (fun _ i _=>(intOf i + 1).toNat);case atStart=>exact ⟨rs[k].e.kids.length,(k:Int),Sj _,rfl,rfl,by omega,by omega,HT,rfl⟩
  obtain ⟨j,y,hj,rfl,rfl,hy0,hy1,HG,rfl⟩:=hrel;by_cases hj0:0 < j
  ·obtain ⟨j,rfl⟩:∃ i,j=i + 1:=⟨j - 1,by omega⟩;have hjl:j < rs[k].e.kids.length:=by omega
   rcases (HO.out rs[k] (Sd hlt)).2.below hB1 with hnil | ⟨bk,offk,V8,hbk,hrk⟩
   ·rw [hnil] at hjl; simp at hjl
   have s4':=s4;rw [V8] at s4';have k0:=hrk j hjl;have hji:((j + 1:Nat):Int) - 1=(j:Int):=by omega
   have hj1:=bH j;have hj2:(j:Int) < (rs[k].e.kids.length:Int):=by omega
   have HG2:Hid ((if y - 1 < 0 ∨ rs[k].e.kids[j] ≠ y - 1 then -1 else if dZ (ai rs) k (y - 1) < 0 then -1 else dX (dZ (ai rs) k) (rs[k].e.kids.take j).reverse (dZ (ai rs) k (y - 1) - 1))=aG (ai rs) k):=by
    have:=HG.out;rw [Sk hjl,List.reverse_append] at this;exact this
   rw [hji];clear HG hrk V8 s4;by_cases hy:y=0
   ·have HN:Hid (sO (ai rs)=false):=BL k U7 (by rw [← HG2.out,if_pos (Or.inl (by omega))]; omega);subst hy;go_wp2;go_ret;exact ⟨by rw [HN.out]; rfl,hB1⟩
   obtain ⟨m,rfl⟩:∃ m:Nat,y=(m:Int) + 1:=⟨(y - 1).toNat,by omega⟩;have em:(m:Int) + 1 - 1=(m:Int):=by omega
   by_cases hkx:rs[k].e.kids[j]=(m:Int)
   ·have hF:dZ (ai rs) k ((m:Int) + 1 - 1)=aG (ai rs) m:=by rw [em]; unfold dZ; rw [if_pos ⟨by omega,by simp; omega⟩]; simp
    have HF:Hid (dZ (ai rs) k ((m:Int) + 1 - 1)=aG (ai rs) m):=hF;have hle:=pK (ai rs) m;have hge:0≤aG (ai rs) m:=HGU.out m (by omega);have a0:=ZN.out.told m (by omega);have hm1:=bH m;have hm2:(m:Int) < 15:=by omega
    have V9:Hid (dX (dZ (ai rs) k) (rs[k].e.kids.take j).reverse (aG (ai rs) m - 1)=aG (ai rs) k):=by
     show _=_;rw [← HG2.out,if_neg (by omega),HF.out,if_neg (by omega)]
    clear hF HG2;go_wp2;go_roundw;case rel=>exact ⟨j,aG (ai rs) m,by omega,by go_num,rfl,hge,by omega,V9,by first | rfl | trivial⟩
    simp [intOf] <;> omega
   have HN:Hid (sO (ai rs)=false):=BL k U7 (by rw [← HG2.out,if_pos (Or.inr (by rw [em]; exact hkx))]; omega);have hq:(rs[k].e.kids[j] != (m:Int))=true:=by simpa using hkx
   have hq0:((m:Int) + 1 == 0)=false:=by simp; omega
   go_wp2;go_ret;exact ⟨by rw [HN.out]; rfl,hB1⟩
  obtain rfl:j=0:=by omega
  have hX:aG (ai rs) k=y:=by have:=HG.out; simp [dX] at this; omega
  have HGU2:Hid (LG (ai rs) (k + 1)):=by
   intro m hm;by_cases e:m=k
   ·subst e; omega
   exact HGU.out m (by omega)
  have q0:=ZN.out.rest k (Sj _) (by omega);have qf:=ZN.out.free;have HA2:=ZN.out.put (k:=k) (by omega);rw [hX] at HA2;have HA3:Hid (Arr (ai rs) _ w.heap.size (k + 1)):=HA2;have hB2:=hB1.setCell (p:=⟨w.heap.size,k,none⟩) (Sj _) (.int .i64 y);clear HG HA2 hX;go_wp2;go_roundw;case rel=>exact ⟨k + 1,by omega,by go_num,HGU2,HA3,hB2⟩
  simp [intOf] <;> omega
 obtain rfl:k=rs.length:=by omega
 have a0:=HAR.out.told (rs.length - 1) (by omega);have HKB:Hid (sO (ai rs)=decide (aG (ai rs) (rs.length - 1)=0)):=by
  show _=_;have:jA (ai rs)=true:=by
   unfold jA;rw [SC];intro j hj;have hj':j < rs.length:=by simpa [UX.out] using hj
   simpa using HGU.out j hj'
  unfold sO;rw [this,UX.out,Bool.true_and]
 have hcast:((rs.length:Int) - 1)=((rs.length - 1:Nat):Int):=by omega
 have h15:((rs.length - 1:Nat):Int) < 15:=by omega
 have h00:(0:Int)≤((rs.length - 1:Nat):Int):=by omega
 go_wp2;go_ret;exact ⟨by rw [HKB.out]; exact ah (by rw [Bool.eq_iff_iff]; simp),hB⟩
theorem KA {es:List Ex} (h:¬ (1≤es.length∧es.length≤15)):kF es=false:=by rw [← AA]; exact Bc h
theorem Ig {es:List Ex} (k:Nat) (h:k < es.length) (hb:az es[k]=false):kF es=false:=by simp [kF,Az es k h hb]
theorem zk (b off cap:Nat) (rs:List ER) (w:af) (hlen:rs.length≤1048576) (hl:∀ r ∈ rs,r.e.light) (hf:∀ r ∈ rs,r.e.fits) (hcp:∀ r ∈ rs,r.e.allow.length≤r.capA) (hb:b < w.heap.size) (hr:∀ (i:Nat) (h:i < rs.length),tK w b (off + i * 5) rs[i]) (hok:∀ r ∈ rs,r.ok w) :
  Calls prog 193 #[.slice (some ⟨b,off,none⟩) rs.length cap] w fun e w'=>e=.returned (.bool (kF (ai rs)))∧aa w w':=by
 have UX:Hid ((ai rs).length=rs.length):=aS rs;have HL:=ay hl;have HF:=ay hf;have HCP:Hid (∀ r ∈ rs,r.e.allow.length≤r.capA):=hcp;have HR:Hid (∀ (i:Nat) (h:i < rs.length),tK w b (off + i * 5) rs[i]):=hr;have HO:=ay hok;clear hl hf hr hok hcp;by_cases hn:1≤rs.length∧rs.length≤15
 ·obtain ⟨hn1,hn2⟩:=hn;go_enter func193,ntmps193;go_wp2_with fail;go_loopw [3,16] (fun o i wr=>∃ k:Nat,k≤rs.length∧i=.int .i64 k∧o=.int .i64 (fE (ai rs) k:Nat)∧Hid (iI (ai rs) k=true)∧aa w wr) (fun _ i _=>rs.length - (intOf i).toNat);case atStart=>exact ⟨0,Sm _,rfl,rfl,(by show _=_; simp [iI]),Si _ _⟩
  obtain ⟨k,hk,rfl,rfl,HU,hB⟩:=hrel;by_cases hlt:k < rs.length
  ·have U7:k < (ai rs).length:=by rw [UX.out]; exact hlt
   have HEK:Hid ((ai rs)[k]=rs[k].e):=by show _=_; simp [ai]
   obtain ⟨t0,t1,t2,t3,t4⟩:=(HR.out k hlt).later hb hB;have hk1:=bH k;have hk2:(k:Int) < (rs.length:Int):=by omega
   have hol:=rE (ai rs) k;have hal:aa w (wr.alloc (.cells #[.int .i64 rs[k].e.kind,.slice rs[k].adA rs[k].e.allow.length rs[k].capA,.string rs[k].e.over,.string rs[k].e.name,.slice rs[k].adK rs[k].e.kids.length rs[k].capK] 190)):=hB.alloc hB.size _;have TB:=ay hal;clear hal;go_wp2_with fail;refine (Ie rs[k] _ (HF.out _ (Sd hlt)) (HL.out _ (Sd hlt)) ((HO.out _ (Sd hlt)).below TB.out) (HCP.out _ (Sd hlt))).mono ?_;rintro e w1 ⟨rfl,hb1⟩;have hB1:aa w w1:=TB.out.trans (hb1.mono TB.out.size);have g0:w1.cell? ⟨wr.heap.size,0,none⟩=some (.int .i64 rs[k].e.kind):=by rw [hb1.cell (p:=⟨wr.heap.size,0,none⟩) (by simp)]; simp
   clear hb1 t0 t1 t2 t3 t4 TB;cases UO:az rs[k].e;case false=>
    have HN:Hid (kF (ai rs)=false):=Ig k U7 (by rw [HEK.out]; exact UO);go_wp2;go_ret;exact ⟨by rw [HN.out]; rfl,hB1⟩
   have Xo:Hid (iI (ai rs) (k + 1)=true):=by show _=_; rw [rF _ _ U7,HU.out,HEK.out,UO]; rfl
   have HOW:Hid (fE (ai rs) (k + 1)=fE (ai rs) k + (if rs[k].e.kind=1 then 1 else 0)):=by show _=_; rw [xy _ _ U7,HEK.out]
   by_cases Vz:rs[k].e.kind=1
   ·have WH:Hid (fE (ai rs) (k + 1)=fE (ai rs) k + 1):=by show _=_; rw [HOW.out,if_pos Vz]
    clear HOW;go_wp2;go_roundw;case rel=>exact ⟨k + 1,by omega,by go_num,by rw [WH.out]; go_num,Xo,hB1⟩
    simp [intOf] <;> omega
   have WH:Hid (fE (ai rs) (k + 1)=fE (ai rs) k):=by show _=_; rw [HOW.out,if_neg Vz]; rfl
   clear HOW;go_wp2;go_roundw;case rel=>exact ⟨k + 1,by omega,by go_num,by rw [WH.out],Xo,hB1⟩
   simp [intOf] <;> omega
  obtain rfl:k=rs.length:=by omega
  have HN:Hid ((ai rs).all az=true):=by
   have:=HU.out;unfold iI at this;rwa [← UX.out,Su] at this
  have HOW:Hid (fE (ai rs) rs.length=own (ai rs)):=by show _=_; unfold fE; rw [← UX.out,Su]
  have hol:=rE (ai rs) rs.length;by_cases ho:fE (ai rs) rs.length≤1
  ·have HS:Hid (kF (ai rs)=sO (ai rs)):=by
    show _=_;have h1:own (ai rs)≤1:=by rw [← HOW.out]; exact ho
    have e1:=UX.out;unfold kF sO;rw [e1,HN.out];simp [h1,hn1,hn2]
   go_wp2_with fail;refine (wD b off cap rs _ hn1 hn2 HL.out (Sg hb hB.size) (fun i hi=>(HR.out i hi).later hb hB) (fun r hr=>(HO.out r hr).below hB)).mono ?_;rintro e w1 ⟨rfl,hb1⟩;go_wp2;go_ret;exact ⟨by rw [HS.out]; rfl,hB.trans (hb1.mono hB.size)⟩
  have HS:Hid (kF (ai rs)=false):=by
   show _=_;have h1:¬ own (ai rs)≤1:=by rw [← HOW.out]; exact ho
   simp [kF,h1]
  go_wp2;go_ret;exact ⟨by rw [HS.out]; rfl,hB⟩
 have HN:Hid (kF (ai rs)=false):=KA (by rw [UX.out]; exact hn);go_enter func193,ntmps193;go_wp2_with fail
 all_goals go_ret
 all_goals exact ⟨by rw [HN.out]; rfl,Si _ _⟩
theorem zl (ad:Option Addr) (cap:Nat) (rs:List ER) (w:af) (hlen:rs.length≤1048576) (hl:∀ r ∈ rs,r.e.light) (hf:∀ r ∈ rs,r.e.fits) (hcp:∀ r ∈ rs,r.e.allow.length≤r.capA) (hs:fQ w ad rs) :
  Calls prog 193 #[.slice ad rs.length cap] w fun e w'=>e=.returned (.bool (kF (ai rs)))∧aa w w':=by
 rcases hs with rfl | ⟨b,off,rfl,hb,hr,hok⟩
 ·go_enter func193,ntmps193;go_wp2_with fail;go_ret;exact ⟨rfl,Si _ _⟩
 exact zk b off cap rs w hlen hl hf hcp hb hr hok
end Go.Proofs.YtdmniljjnaebbaaGreatDoor
