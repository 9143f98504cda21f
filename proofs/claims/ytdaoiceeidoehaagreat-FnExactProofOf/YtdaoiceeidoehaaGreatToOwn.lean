/- Contracts of the law's helpers that copy a schema: each list lies in a block of its own. -/
import Derived.Test.YtdaoiceeidoehaaGreatToSchema
import Derived.Test.YtdaoiceeidoehaaGreatJ39
open Go.Proofs.Tryz
set_option maxHeartbeats 80000000
namespace Go.Proofs.YtdaoiceeidoehaaGreat
open Go.ChangeShapes Go.WideShapes Go.ChangeAt Go.RowKit
open Pl
def uQ (b:Nat) (w:World) (qs:List ER):Prop:=SepE b qs∧∀ q ∈ qs,∀ g,DF q g→b < g∧g < w.heap.size∧dL w g
theorem uQ.nil (b:Nat) (w:World):uQ b w []:=by
 refine ⟨⟨?_,?_,?_,?_,?_⟩,?_⟩
 ·intro r hr; cases hr
 ·intro r hr; cases hr
 ·intro r hr; cases hr
 ·intro r hr; cases hr
 ·intro x y hx; exact absurd hx (SE _)
 ·intro r hr; cases hr
theorem Jz {q:ER} {gA gK g:Nat} (hA:q.adA=some ⟨gA,0,none⟩) (hK:q.adK=some ⟨gK,0,none⟩) (h:DF q g):g=gA ∨ g=gK:=by
 rcases h with ⟨-,e⟩ | ⟨-,e⟩
 ·rw [hA] at e; injection e with e; injection e with e1 e2; exact .inl e1.symm
 ·rw [hK] at e; injection e with e; injection e with e1 e2; exact .inr e1.symm
theorem uQ.snoc {S:Nat→Prop} {b:Nat} {wr wn:World} {qs:List ER} (h:uQ b wr qs) (hc:Chg S wr wn) (hb:b < wr.heap.size) {q:ER} {gA gK:Nat} (hA:q.adA=some ⟨gA,0,none⟩) (hK:q.adK=some ⟨gK,0,none⟩) (h1:wr.heap.size≤gA) (h2:gA < gK) (h3:gK < wn.heap.size) (fA:dL wn gA) (fK:dL wn gK):uQ b wn (qs ++ [q]):=by
 have hq:∀ g,DF q g→wr.heap.size≤g:=fun g hg=>by rcases Jz hA hK hg with rfl | rfl <;> omega
 refine ⟨⟨?_,?_,?_,?_,?_⟩,?_⟩
 ·intro r hr; rw [Sd,Sm] at hr;rcases hr with hr | rfl
  ·exact h.1.zeroA r hr
  ·exact fun _=>⟨gA,hA⟩
 ·intro r hr; rw [Sd,Sm] at hr;rcases hr with hr | rfl
  ·exact h.1.zeroK r hr
  ·exact fun _=>⟨gK,hK⟩
 ·intro r hr; rw [Sd,Sm] at hr;rcases hr with hr | rfl
  ·exact h.1.head r hr
  ·intro hg; have:=hq b hg; omega
 ·intro r hr; rw [Sd,Sm] at hr;rcases hr with hr | rfl
  ·exact h.1.one r hr
  ·rintro g ⟨-,e1⟩ ⟨-,e2⟩;rw [hA] at e1; rw [hK] at e2;injection e1 with e1; injection e1 with e1 _; injection e2 with e2; injection e2 with e2 _;omega
 ·intro x y hx hy hne g hgx Vz;rw [R9,List.length_singleton] at hx hy;by_cases ex:x < qs.length
  ·rw [Sy ex] at hgx;by_cases ey:y < qs.length
   ·rw [Sy ey] at Vz;exact h.1.two x y ex ey hne g hgx Vz
   ·rw [SF (by omega)] at Vz;have e1:=hq g (by simpa using Vz);have e2:=(h.2 _ (RY ex) g hgx).2.1;omega
  ·rw [SF (by omega)] at hgx;have e1:=hq g (by simpa using hgx);have ey:y < qs.length:=by omega
   rw [Sy ey] at Vz;have e2:=(h.2 _ (RY ey) g Vz).2.1;omega
 ·intro r hr g hg; rw [Sd,Sm] at hr;rcases hr with hr | rfl
  ·obtain ⟨a1,a2,a3⟩:=h.2 r hr g hg;exact ⟨a1,RZ a2 hc.size,hc.free g a2 a3⟩
  ·rcases Jz hA hK hg with rfl | rfl
   ·exact ⟨by omega,by omega,fA⟩
   ·exact ⟨by omega,by omega,fK⟩
theorem uQ.chg {S:Nat→Prop} {b:Nat} {w w':World} {qs:List ER} (h:uQ b w qs) (hc:Chg S w w'):uQ b w' qs:=⟨h.1,fun q hq g hg=>⟨(h.2 q hq g hg).1,RZ (h.2 q hq g hg).2.1 hc.size,hc.free g (h.2 q hq g hg).2.1 (h.2 q hq g hg).2.2⟩⟩
def BL (m:Nat) (w:World) (r:RR):Prop:=FT r∧∀ g,uM r g→m≤g∧g < w.heap.size∧dL w g
theorem BL.chg {S:Nat→Prop} {m:Nat} {w w':World} {r:RR} (h:BL m w r) (hc:Chg S w w'):BL m w' r:=⟨h.1,fun g hg=>⟨(h.2 g hg).1,RZ (h.2 g hg).2.1 hc.size,hc.free g (h.2 g hg).2.1 (h.2 g hg).2.2⟩⟩
def wK (b:Nat) (w:World) (qs:List RR):Prop:=SepR b qs∧∀ q ∈ qs,∀ g,uM q g→b < g∧g < w.heap.size∧dL w g
theorem wK.nil (b:Nat) (w:World):wK b w []:=by
 refine ⟨⟨?_,?_,?_⟩,?_⟩
 ·intro r hr; cases hr
 ·intro r hr; cases hr
 ·intro x y hx; exact absurd hx (SE _)
 ·intro r hr; cases hr
theorem wK.chg {S:Nat→Prop} {b:Nat} {w w':World} {qs:List RR} (h:wK b w qs) (hc:Chg S w w'):wK b w' qs:=⟨h.1,fun q hq g hg=>⟨(h.2 q hq g hg).1,RZ (h.2 q hq g hg).2.1 hc.size,hc.free g (h.2 q hq g hg).2.1 (h.2 q hq g hg).2.2⟩⟩
theorem wK.snoc {S:Nat→Prop} {b:Nat} {wr wn:World} {qs:List RR} (h:wK b wr qs) (hc:Chg S wr wn) (hb:b < wr.heap.size) {q:RR} (hq:BL wr.heap.size wn q):wK b wn (qs ++ [q]):=by
 refine ⟨⟨?_,?_,?_⟩,?_⟩
 ·intro r hr; rw [Sd,Sm] at hr;rcases hr with hr | rfl
  ·exact h.1.good r hr
  ·exact hq.1
 ·intro r hr; rw [Sd,Sm] at hr;rcases hr with hr | rfl
  ·exact h.1.head r hr
  ·intro hg; have:=(hq.2 b hg).1; omega
 ·intro x y hx hy hne g hgx Vz;rw [R9,List.length_singleton] at hx hy;by_cases ex:x < qs.length
  ·rw [Sy ex] at hgx;by_cases ey:y < qs.length
   ·rw [Sy ey] at Vz;exact h.1.two x y ex ey hne g hgx Vz
   ·rw [SF (by omega)] at Vz;have e1:=(hq.2 g (by simpa using Vz)).1;have e2:=(h.2 _ (RY ex) g hgx).2.1;omega
  ·rw [SF (by omega)] at hgx;have e1:=(hq.2 g (by simpa using hgx)).1;have ey:y < qs.length:=by omega
   rw [Sy ey] at Vz;have e2:=(h.2 _ (RY ey) g Vz).2.1;omega
 ·intro r hr g hg; rw [Sd,Sm] at hr;rcases hr with hr | rfl
  ·obtain ⟨a1,a2,a3⟩:=h.2 r hr g hg;exact ⟨a1,RZ a2 hc.size,hc.free g a2 a3⟩
  ·obtain ⟨a1,a2,a3⟩:=hq.2 g hg;exact ⟨by omega,a2,a3⟩
def BM (m:Nat) (w:World) (r:TR):Prop:=FU r∧∀ g,wJ r g→m≤g∧g < w.heap.size∧dL w g
theorem BM.chg {S:Nat→Prop} {m:Nat} {w w':World} {r:TR} (h:BM m w r) (hc:Chg S w w'):BM m w' r:=⟨h.1,fun g hg=>⟨(h.2 g hg).1,RZ (h.2 g hg).2.1 hc.size,hc.free g (h.2 g hg).2.1 (h.2 g hg).2.2⟩⟩
def uR (b:Nat) (w:World) (qs:List TR):Prop:=SepT b qs∧∀ q ∈ qs,∀ g,wJ q g→b < g∧g < w.heap.size∧dL w g
theorem uR.nil (b:Nat) (w:World):uR b w []:=by
 refine ⟨⟨?_,?_,?_⟩,?_⟩
 ·intro r hr; cases hr
 ·intro r hr; cases hr
 ·intro x y hx; exact absurd hx (SE _)
 ·intro r hr; cases hr
theorem uR.chg {S:Nat→Prop} {b:Nat} {w w':World} {qs:List TR} (h:uR b w qs) (hc:Chg S w w'):uR b w' qs:=⟨h.1,fun q hq g hg=>⟨(h.2 q hq g hg).1,RZ (h.2 q hq g hg).2.1 hc.size,hc.free g (h.2 q hq g hg).2.1 (h.2 q hq g hg).2.2⟩⟩
theorem uR.snoc {S:Nat→Prop} {b:Nat} {wr wn:World} {qs:List TR} (h:uR b wr qs) (hc:Chg S wr wn) (hb:b < wr.heap.size) {q:TR} (hq:BM wr.heap.size wn q):uR b wn (qs ++ [q]):=by
 refine ⟨⟨?_,?_,?_⟩,?_⟩
 ·intro r hr; rw [Sd,Sm] at hr;rcases hr with hr | rfl
  ·exact h.1.good r hr
  ·exact hq.1
 ·intro r hr; rw [Sd,Sm] at hr;rcases hr with hr | rfl
  ·exact h.1.head r hr
  ·intro hg; have:=(hq.2 b hg).1; omega
 ·intro x y hx hy hne g hgx Vz;rw [R9,List.length_singleton] at hx hy;by_cases ex:x < qs.length
  ·rw [Sy ex] at hgx;by_cases ey:y < qs.length
   ·rw [Sy ey] at Vz;exact h.1.two x y ex ey hne g hgx Vz
   ·rw [SF (by omega)] at Vz;have e1:=(hq.2 g (by simpa using Vz)).1;have e2:=(h.2 _ (RY ex) g hgx).2.1;omega
  ·rw [SF (by omega)] at hgx;have e1:=(hq.2 g (by simpa using hgx)).1;have ey:y < qs.length:=by omega
   rw [Sy ey] at Vz;have e2:=(h.2 _ (RY ey) g Vz).2.1;omega
 ·intro r hr g hg; rw [Sd,Sm] at hr;rcases hr with hr | rfl
  ·obtain ⟨a1,a2,a3⟩:=h.2 r hr g hg;exact ⟨a1,RZ a2 hc.size,hc.free g a2 a3⟩
  ·obtain ⟨a1,a2,a3⟩:=hq.2 g hg;exact ⟨by omega,a2,a3⟩
theorem IL (ad:Option Addr) (cap:Nat) (zs:List Int) (w:World) (hlen:zs.length≤1048576) (hs:lF w ad zs) :
  Calls prog 159 #[.slice ad zs.length cap] w fun e w'=>e=.returned (.slice (some ⟨w.heap.size,0,none⟩) zs.length zs.length)∧lF w' (some ⟨w.heap.size,0,none⟩) zs∧dL w' w.heap.size∧w.heap.size < w'.heap.size∧Below w.heap.size w w':=by
 obtain ⟨inf,z,hi,hz0,hz1,hz2⟩:=xy (t:=2) (n:=1) (b:=8) (by kernel_rfl);go_enter func159,ntmps159;go_wp2_with (at_make; refine wpList_make_full _ rfl _ _ 164 rfl w.heap.size 2 inf z 1 underlying164 hi hz0 hz1 .i64 .i64 _ _ zs.length rfl rfl rfl rfl (by rw [hz2]; omega) (by unfold maxLen; omega) (R4 _) ?_; intro w0 hown0 SY);have F0:Fil w w0 w.heap.size (zs.length * 1) []:=nW hown0 SY;clear hown0 SY hi hz0 hz1 hz2;go_loopw [4] (fun i wr=>∃ k:Nat,k≤zs.length∧i=.int .i64 k∧Fil w wr w.heap.size (zs.length * 1) (ints (zs.take k))) (fun i _=>zs.length - (intOf i).toNat);case atStart=>exact ⟨0,R6 _,rfl,F0⟩
 case round =>
  obtain ⟨k,hk,rfl,F⟩:=hrel;by_cases hlt:k < zs.length
  ·rcases hs.below F.below with rfl | ⟨b,off,rfl,hb,hr⟩
   ·simp at hlt
   have t0:=hr k hlt;have fz:=F.free;obtain ⟨v0,u0⟩:=Option.isSome_iff_exists.mp (F.there k (by omega));have F2:=F.put (.int .i64 zs[k]) (o:=k) (by rw [LB _ _ hk]) (by omega);rw [← JJ _ _ hlt] at F2;have HF:=aC F2;clear F F0 hr F2 hs;go_wp2;go_roundw;case rel=>exact ⟨k + 1,by omega,by go_num,HF.out⟩
   case measure=>simp [intOf]; omega
  ·obtain rfl:k=zs.length:=by omega
   rw [Sc,Nat.mul_one] at F;go_wp2;go_ret;exact ⟨rfl,F.ints,F.free,F.lt,F.below⟩
theorem Du (ad:Option Addr) (cap:Nat) (xs:List Al) (w:World) (hlen:xs.length≤1048576) (hs:iy w ad xs) :
  Calls prog 158 #[.slice ad xs.length cap] w fun e w'=>e=.returned (.slice (some ⟨w.heap.size,0,none⟩) xs.length xs.length)∧iy w' (some ⟨w.heap.size,0,none⟩) xs∧dL w' w.heap.size∧w.heap.size < w'.heap.size∧Below w.heap.size w w':=by
 obtain ⟨inf,z,hi,hz0,hz1,hz2⟩:=xy (t:=163) (n:=2) (b:=32) (by kernel_rfl);go_enter func158,ntmps158;go_wp2_with (at_make; refine wpList_make_full _ rfl _ _ 160 rfl w.heap.size 163 inf z 2 underlying160 hi hz0 hz1 .i64 .i64 _ _ xs.length rfl rfl rfl rfl (by rw [hz2]; omega) (by unfold maxLen; omega) (R4 _) ?_; intro w0 hown0 SY);have F0:Fil w w0 w.heap.size (xs.length * 2) []:=nW hown0 SY;clear hown0 SY hi hz0 hz1 hz2;go_loopw [4] (fun i wr=>∃ k:Nat,k≤xs.length∧i=.int .i64 k∧Fil w wr w.heap.size (xs.length * 2) (pairs (xs.take k))) (fun i _=>xs.length - (intOf i).toNat);case atStart=>exact ⟨0,R6 _,rfl,F0⟩
 case round =>
  obtain ⟨k,hk,rfl,F⟩:=hrel;by_cases hlt:k < xs.length
  ·rcases hs.below F.below with rfl | ⟨b,off,rfl,hb,hr⟩
   ·simp at hlt
   obtain ⟨t0,t1⟩:=hr k hlt;go_wp2_with fail;refine (zD _ _ _).mono ?_;rintro e w1 ⟨rfl,hb1⟩;have F1:=F.later hb1;have fz:=F1.free;obtain ⟨v0,u0⟩:=Option.isSome_iff_exists.mp (F1.there (k * 2) (by omega));obtain ⟨v1,u1⟩:=Option.isSome_iff_exists.mp (F1.there (k * 2 + 1) (by omega));have hpl:(pairs (xs.take k)).length=k * 2:=by rw [pE,Sq,Nat.min_eq_left hk]
   have F2:=(F1.put (.string xs[k].t) (o:=k * 2) hpl.symm (by omega)).put (.string xs[k].s) (o:=k * 2 + 1) (by simp [hpl]) (by omega);rw [← Ga _ _ hlt] at F2;have HF:=aC F2;clear F F0 hr F1 F2 hs t0 t1 hb1 hpl;go_wp2;go_roundw;case rel=>exact ⟨k + 1,by omega,by go_num,HF.out⟩
   case measure=>simp [intOf]; omega
  ·obtain rfl:k=xs.length:=by omega
   rw [Sc] at F;go_wp2;go_ret;exact ⟨rfl,F.pairs,F.free,F.lt,F.below⟩
theorem Oe (r:ER) (w:World) (hr:r.ok w) (hl:r.e.light) :
  Calls prog 140 #[r.val] w fun e w'=>∃ (r':ER) (gA gK:Nat),e=.returned r'.val∧r'.e=r.e∧r'.adA=some ⟨gA,0,none⟩∧r'.adK=some ⟨gK,0,none⟩∧w.heap.size≤gA∧w.heap.size≤gK∧r'.ok w'∧r'.capA=r'.e.allow.length∧gA < gK∧gK < w'.heap.size∧dL w' gA∧dL w' gK∧Below w.heap.size w w':=by
 obtain ⟨⟨kind,allow,over,name,kids⟩,adA,capA,adK,capK⟩:=r;obtain ⟨hA,hK⟩:=hr;obtain ⟨l1,l2⟩:=hl;simp only at hA hK l1 l2;simp only [ER.val];have HA:=aC hA;have HK:Hid (lF w adK kids):=hK;clear hA hK;go_enter func140,ntmps140;go_wp2_with fail;obtain ⟨W1,hW1⟩:∃ W1,W1=((w.alloc (.cells #[.int .i64 kind,.slice adA allow.length capA,.string over,.string name,.slice adK kids.length capK] 230)).alloc (.cells #[.int .i64 0,.slice none 0 0,.string ⟨#[]⟩,.string ⟨#[]⟩,.slice none 0 0] 166)).alloc (.cells #[.int .i64 kind,.slice none 0 0,.string ⟨#[]⟩,.string ⟨#[]⟩,.slice none 0 0] 166):=⟨_,rfl⟩;rw [← hW1];have hz1:w.heap.size + 3≤W1.heap.size:=by rw [hW1]; simp only [World.size_alloc]; omega
 have hb0:Below w.heap.size w W1:=by rw [hW1]; exact (((R3 w.heap.size w).alloc (R4 _) _).alloc (by simp) _).alloc (by simp; omega) _
 have bB:Below (w.alloc (.cells #[.int .i64 kind,.slice adA allow.length capA,.string over,.string name,.slice adK kids.length capK] 230)).heap.size (w.alloc (.cells #[.int .i64 kind,.slice adA allow.length capA,.string over,.string name,.slice adK kids.length capK] 230)) W1:=by rw [hW1]; exact ((R3 _ _).alloc (R4 _) _).alloc (by simp) _
 have bC:Below ((w.alloc (.cells #[.int .i64 kind,.slice adA allow.length capA,.string over,.string name,.slice adK kids.length capK] 230)).alloc (.cells #[.int .i64 0,.slice none 0 0,.string ⟨#[]⟩,.string ⟨#[]⟩,.slice none 0 0] 166)).heap.size ((w.alloc (.cells #[.int .i64 kind,.slice adA allow.length capA,.string over,.string name,.slice adK kids.length capK] 230)).alloc (.cells #[.int .i64 0,.slice none 0 0,.string ⟨#[]⟩,.string ⟨#[]⟩,.slice none 0 0] 166)) W1:=by rw [hW1]; exact (R3 _ _).alloc (R4 _) _
 have hfr:∀ i,W1.frozen? ⟨w.heap.size + 1,i,none⟩=false∧W1.frozen? ⟨w.heap.size + 1 + 1,i,none⟩=false:=fun i=>⟨iN bC (by simp) (wQ _ _ _ _),by rw [hW1]; exact BV _ _ _ _ _⟩;have s2:W1.cell? ⟨w.heap.size,2,none⟩=some (.string over):=kept bB (by simp) (by simp);have s3:W1.cell? ⟨w.heap.size,3,none⟩=some (.string name):=kept bB (by simp) (by simp);have s4:W1.cell? ⟨w.heap.size,4,none⟩=some (.slice adK kids.length capK):=kept bB (by simp) (by simp);have z0:W1.cell? ⟨w.heap.size + 1,0,none⟩=some (.int .i64 0):=kept bC (by simp) (iP _ _ _ _ _ rfl);have z1:W1.cell? ⟨w.heap.size + 1,1,none⟩=some (.slice none 0 0):=kept bC (by simp) (iP _ _ _ _ _ rfl);have z2:W1.cell? ⟨w.heap.size + 1,2,none⟩=some (.string ⟨#[]⟩):=kept bC (by simp) (iP _ _ _ _ _ rfl);have z3:W1.cell? ⟨w.heap.size + 1,3,none⟩=some (.string ⟨#[]⟩):=kept bC (by simp) (iP _ _ _ _ _ rfl);have z4:W1.cell? ⟨w.heap.size + 1,4,none⟩=some (.slice none 0 0):=kept bC (by simp) (iP _ _ _ _ _ rfl);have o0:W1.cell? ⟨w.heap.size + 1 + 1,0,none⟩=some (.int .i64 kind):=by rw [hW1]; exact lc _ _ _ _ _ _ rfl
 have o1:W1.cell? ⟨w.heap.size + 1 + 1,1,none⟩=some (.slice none 0 0):=by rw [hW1]; exact lc _ _ _ _ _ _ rfl
 have o2:W1.cell? ⟨w.heap.size + 1 + 1,2,none⟩=some (.string ⟨#[]⟩):=by rw [hW1]; exact lc _ _ _ _ _ _ rfl
 have o3:W1.cell? ⟨w.heap.size + 1 + 1,3,none⟩=some (.string ⟨#[]⟩):=by rw [hW1]; exact lc _ _ _ _ _ _ rfl
 have o4:W1.cell? ⟨w.heap.size + 1 + 1,4,none⟩=some (.slice none 0 0):=by rw [hW1]; exact lc _ _ _ _ _ _ rfl
 clear hW1 bB bC;refine (Du adA capA allow W1 l1 (HA.out.below hb0)).mono ?_;rintro e w1 ⟨rfl,hSA,hfA,hgA,hb1⟩;have HFA1:=aC hfA;have HGA1:Hid (W1.heap.size < w1.heap.size):=hgA;clear hfA hgA;replace s2:=kept hb1 (by omega) s2;replace s3:=kept hb1 (by omega) s3;replace s4:=kept hb1 (by omega) s4;replace z0:=kept hb1 (by omega) z0;replace z1:=kept hb1 (by omega) z1;replace z2:=kept hb1 (by omega) z2;replace z3:=kept hb1 (by omega) z3;replace z4:=kept hb1 (by omega) z4;replace o0:=kept hb1 (by omega) o0;replace o1:=kept hb1 (by omega) o1;replace o2:=kept hb1 (by omega) o2;replace o3:=kept hb1 (by omega) o3;replace o4:=kept hb1 (by omega) o4;have f1:∀ i,w1.frozen? ⟨w.heap.size + 1,i,none⟩=false:=fun i=>iN hb1 (by omega) (hfr i).1;have f2:∀ i,w1.frozen? ⟨w.heap.size + 1 + 1,i,none⟩=false:=fun i=>iN hb1 (by omega) (hfr i).2;have hB1:Below w.heap.size w w1:=hb0.trans (hb1.mono (by omega));have hs1:w.heap.size + 3≤w1.heap.size:=by have:=hb1.size; omega
 obtain ⟨W2,hW2⟩:∃ W2,W2=((w1.setCell ⟨w.heap.size + 1 + 1,1,none⟩ (.slice (some ⟨W1.heap.size,0,none⟩) allow.length allow.length)).setCell ⟨w.heap.size + 1 + 1,2,none⟩ (.string over)).setCell ⟨w.heap.size + 1 + 1,3,none⟩ (.string name):=⟨_,rfl⟩;have HB2:Hid (Below w.heap.size w W2):=by show Below _ _ _; rw [hW2]; exact ((hB1.setCell (p:=⟨w.heap.size + 1 + 1,1,none⟩) (by simp; omega) _).setCell (p:=⟨w.heap.size + 1 + 1,2,none⟩) (by simp; omega) _).setCell (p:=⟨w.heap.size + 1 + 1,3,none⟩) (by simp; omega) _
 have hne:∀ b off,(some ⟨W1.heap.size,0,none⟩:Option Addr)=some ⟨b,off,none⟩→w.heap.size + 1 + 1 ≠ b:=fun b off e=>by injection e with e; injection e with e1 e2; omega
 have HS2:Hid (iy W2 (some ⟨W1.heap.size,0,none⟩) allow):=by show iy _ _ _; rw [hW2]; exact ((hSA.set hne).set hne).set hne
 have HFA2:Hid (dL W2 W1.heap.size):=fun y=>by rw [hW2]; simpa using HFA1.out y
 have HGA2:Hid (W1.heap.size < W2.heap.size):=by show _ < _; rw [hW2]; simp only [World.size_setCell]; exact HGA1.out
 have hs2:w.heap.size + 3≤W2.heap.size:=by rw [hW2]; simp only [World.size_setCell]; omega
 clear hSA hb1 hB1 hb0 hfr HA;go_wp2_with fail;rw [← hW2];have S4:W2.cell? ⟨w.heap.size,4,none⟩=some (.slice adK kids.length capK):=by rw [hW2,eY (by omega),eY (by omega),eY (by omega)]; exact s4
 have Z0:W2.cell? ⟨w.heap.size + 1,0,none⟩=some (.int .i64 0):=by rw [hW2,eY (by omega),eY (by omega),eY (by omega)]; exact z0
 have Z1:W2.cell? ⟨w.heap.size + 1,1,none⟩=some (.slice none 0 0):=by rw [hW2,eY (by omega),eY (by omega),eY (by omega)]; exact z1
 have Z2:W2.cell? ⟨w.heap.size + 1,2,none⟩=some (.string ⟨#[]⟩):=by rw [hW2,eY (by omega),eY (by omega),eY (by omega)]; exact z2
 have Z3:W2.cell? ⟨w.heap.size + 1,3,none⟩=some (.string ⟨#[]⟩):=by rw [hW2,eY (by omega),eY (by omega),eY (by omega)]; exact z3
 have Z4:W2.cell? ⟨w.heap.size + 1,4,none⟩=some (.slice none 0 0):=by rw [hW2,eY (by omega),eY (by omega),eY (by omega)]; exact z4
 have O0:W2.cell? ⟨w.heap.size + 1 + 1,0,none⟩=some (.int .i64 kind):=by rw [hW2,dF (by omega),dF (by omega),dF (by omega)]; exact o0
 have O1:W2.cell? ⟨w.heap.size + 1 + 1,1,none⟩=some (.slice (some ⟨W1.heap.size,0,none⟩) allow.length allow.length):=by rw [hW2,dF (by omega),dF (by omega)]; exact jO o1
 have O2:W2.cell? ⟨w.heap.size + 1 + 1,2,none⟩=some (.string over):=by rw [hW2,dF (by omega)]; exact jO (by rw [dF (by omega)]; exact o2)
 have O3:W2.cell? ⟨w.heap.size + 1 + 1,3,none⟩=some (.string name):=by rw [hW2]; exact jO (by rw [dF (by omega),dF (by omega)]; exact o3)
 have O4:W2.cell? ⟨w.heap.size + 1 + 1,4,none⟩=some (.slice none 0 0):=by rw [hW2,dF (by omega),dF (by omega),dF (by omega)]; exact o4
 have F1:∀ i,W2.frozen? ⟨w.heap.size + 1,i,none⟩=false:=fun i=>by rw [hW2]; simpa using f1 i
 have F2:∀ i,W2.frozen? ⟨w.heap.size + 1 + 1,i,none⟩=false:=fun i=>by rw [hW2]; simpa using f2 i
 clear hW2 s2 s3 s4 z0 z1 z2 z3 z4 o0 o1 o2 o3 o4 f1 f2;refine (IL adK capK kids W2 l2 (HK.out.below HB2.out)).mono ?_;rintro e w2 ⟨rfl,hSK,hfK,hgK,hb2⟩;have HFK3:=aC hfK;have HGK3:Hid (W2.heap.size < w2.heap.size):=hgK;have HFA3:Hid (dL w2 W1.heap.size):=fun y=>iN hb2 HGA2.out (HFA2.out y);clear hfK hgK;replace S4:=kept hb2 (by omega) S4;replace Z0:=kept hb2 (by omega) Z0;replace Z1:=kept hb2 (by omega) Z1;replace Z2:=kept hb2 (by omega) Z2;replace Z3:=kept hb2 (by omega) Z3;replace Z4:=kept hb2 (by omega) Z4;replace O0:=kept hb2 (by omega) O0;replace O1:=kept hb2 (by omega) O1;replace O2:=kept hb2 (by omega) O2;replace O3:=kept hb2 (by omega) O3;replace O4:=kept hb2 (by omega) O4;replace F1:∀ i,w2.frozen? ⟨w.heap.size + 1,i,none⟩=false:=fun i=>iN hb2 (by omega) (F1 i);replace F2:∀ i,w2.frozen? ⟨w.heap.size + 1 + 1,i,none⟩=false:=fun i=>iN hb2 (by omega) (F2 i);have HB3:=gY HB2 hb2;have V7:=aC (HS2.out.below hb2);have HT3:=aC hSK;have hlt3:w.heap.size + 3≤w2.heap.size:=by have:=hb2.size; omega
 clear hb2 hSK HB2 HS2 HK hne;have hn1:∀ b off,(some ⟨W1.heap.size,0,none⟩:Option Addr)=some ⟨b,off,none⟩→w.heap.size + 1 ≠ b:=fun b off e=>by injection e with e; injection e with e1 e2; omega
 have hn2:∀ b off,(some ⟨W1.heap.size,0,none⟩:Option Addr)=some ⟨b,off,none⟩→w.heap.size + 1 + 1 ≠ b:=fun b off e=>by injection e with e; injection e with e1 e2; omega
 have hk1:∀ b off,(some ⟨W2.heap.size,0,none⟩:Option Addr)=some ⟨b,off,none⟩→w.heap.size + 1 ≠ b:=fun b off e=>by injection e with e; injection e with e1 e2; omega
 have hk2:∀ b off,(some ⟨W2.heap.size,0,none⟩:Option Addr)=some ⟨b,off,none⟩→w.heap.size + 1 + 1 ≠ b:=fun b off e=>by injection e with e; injection e with e1 e2; omega
 have N1:Hid (∀ b off,(some ⟨W1.heap.size,0,none⟩:Option Addr)=some ⟨b,off,none⟩→w.heap.size + 1 ≠ b):=hn1;have N2:Hid (∀ b off,(some ⟨W1.heap.size,0,none⟩:Option Addr)=some ⟨b,off,none⟩→w.heap.size + 1 + 1 ≠ b):=hn2;have N3:Hid (∀ b off,(some ⟨W2.heap.size,0,none⟩:Option Addr)=some ⟨b,off,none⟩→w.heap.size + 1 ≠ b):=hk1;have N4:Hid (∀ b off,(some ⟨W2.heap.size,0,none⟩:Option Addr)=some ⟨b,off,none⟩→w.heap.size + 1 + 1 ≠ b):=hk2;clear hn1 hn2 hk1 hk2;go_wp2;refine bodyPost_ret (v:=.agg #[.int .i64 kind,.slice (some ⟨W1.heap.size,0,none⟩) allow.length allow.length,.string over,.string name,.slice (some ⟨W2.heap.size,0,none⟩) kids.length kids.length]) (by simp [results,Tryz.results140,go_sem, *]) rfl ⟨⟨⟨kind,allow,over,name,kids⟩,some ⟨W1.heap.size,0,none⟩,allow.length,some ⟨W2.heap.size,0,none⟩,kids.length⟩,_,_,rfl,rfl,rfl,rfl,by omega,by omega,⟨?_,?_⟩,rfl,HGA2.out,by simp only [World.size_setCell]; exact HGK3.out,(fun y=>by simpa using HFA3.out y),(fun y=>by simpa using HFK3.out y),?_⟩
 ·exact (((((V7.out.set N2.out).set N1.out).set N1.out).set N1.out).set N1.out).set N1.out
 ·exact (((((HT3.out.set N4.out).set N3.out).set N3.out).set N3.out).set N3.out).set N3.out
 ·exact (((((HB3.out.setCell (p:=⟨w.heap.size + 1 + 1,4,none⟩) (by simp; omega) _).setCell (p:=⟨w.heap.size + 1,0,none⟩) (by simp) _).setCell (p:=⟨w.heap.size + 1,1,none⟩) (by simp) _).setCell (p:=⟨w.heap.size + 1,2,none⟩) (by simp) _).setCell (p:=⟨w.heap.size + 1,3,none⟩) (by simp) _).setCell (p:=⟨w.heap.size + 1,4,none⟩) (by simp) _
theorem Le (ad:Option Addr) (cap:Nat) (rs:List ER) (w:World) (hlen:rs.length≤1048576) (hs:eX w ad rs) (hl:∀ r ∈ rs,r.e.light) :
  Calls prog 116 #[.slice ad rs.length cap] w fun e w'=>∃ rs':List ER,e=.returned (.slice (some ⟨w.heap.size,0,none⟩) rs'.length rs'.length)∧ah rs'=ah rs∧eX w' (some ⟨w.heap.size,0,none⟩) rs'∧(∀ r ∈ rs',r.capA=r.e.allow.length)∧(∀ r ∈ rs',r.new w.heap.size)∧uQ w.heap.size w' rs'∧dL w' w.heap.size∧w.heap.size < w'.heap.size∧Below w.heap.size w w':=by
 obtain ⟨inf,z,hi,hz0,hz1,hz2⟩:=xy (t:=166) (n:=5) (b:=88) (by kernel_rfl);have Uh:=aC hs;have U4:=aC hl;clear hs hl;go_enter func116,ntmps116;go_wp2_with (at_make; refine wpList_make_full _ rfl _ _ 105 rfl w.heap.size 166 inf z 5 underlying105 hi hz0 hz1 .i64 .i64 _ _ rs.length rfl rfl rfl rfl (by rw [hz2]; omega) (by unfold maxLen; omega) (R4 _) ?_; intro w0 hown0 SY);have F0:Fil w w0 w.heap.size (rs.length * 5) []:=nW hown0 SY;clear hown0 SY hi hz0 hz1 hz2;go_loopw [4] (fun i wr=>∃ (k:Nat) (qs:List ER),k≤rs.length∧i=.int .i64 k∧Hid (qs.length=k∧ah qs=(ah rs).take k∧(∀ q ∈ qs,q.ok wr∧q.new w.heap.size))∧Hid (uQ w.heap.size wr qs)∧Fil w wr w.heap.size (rs.length * 5) (nX qs)) (fun i _=>rs.length - (intOf i).toNat);case atStart=>exact ⟨0,[],R6 _,rfl,⟨rfl,by simp [ah],(fun q hq=>by cases hq)⟩,uQ.nil _ _,F0⟩
 case round =>
  obtain ⟨k,qs,hk,rfl,HQ,HO,F⟩:=hrel;by_cases hlt:k < rs.length
  ·rcases Uh.out.below F.below with rfl | ⟨b,off,rfl,hb,hr,hok⟩
   ·simp at hlt
   obtain ⟨t0,t1,t2,t3,t4⟩:=hr k hlt;have ok:=hok rs[k] (RY hlt);have lg:=U4.out rs[k] (RY hlt);clear hr hok;go_wp2_with fail;refine (Oe rs[k] _ ok lg).mono ?_;rintro e w1 ⟨q,gA,gK,rfl,hqe,hqA,hqK,hgA,hgK,WB,hqc,hgl,hgz,hfA,hfK,hb1⟩;have F1:=F.later hb1;have fz:=F1.free;obtain ⟨v0,u0⟩:=Option.isSome_iff_exists.mp (F1.there (k * 5) (by omega));obtain ⟨v1,u1⟩:=Option.isSome_iff_exists.mp (F1.there (k * 5 + 1) (by omega));obtain ⟨v2,u2⟩:=Option.isSome_iff_exists.mp (F1.there (k * 5 + 2) (by omega));obtain ⟨v3,u3⟩:=Option.isSome_iff_exists.mp (F1.there (k * 5 + 3) (by omega));obtain ⟨v4,u4⟩:=Option.isSome_iff_exists.mp (F1.there (k * 5 + 4) (by omega));have hpl:(nX qs).length=k * 5:=by rw [sQ,HQ.out.1]
   have F2:=((((F1.put (.int .i64 q.e.kind) (o:=k * 5) hpl.symm (by omega)).put (.slice q.adA q.e.allow.length q.capA) (o:=k * 5 + 1) (by simp [hpl]) (by omega)).put (.string q.e.over) (o:=k * 5 + 2) (by simp [hpl]) (by omega)).put (.string q.e.name) (o:=k * 5 + 3) (by simp [hpl]) (by omega)).put (.slice q.adK q.e.kids.length q.capK) (o:=k * 5 + 4) (by simp [hpl]) (by omega);have e5:((((nX qs ++ [.int .i64 q.e.kind]) ++ [.slice q.adA q.e.allow.length q.capA]) ++ [.string q.e.over]) ++ [.string q.e.name]) ++ [.slice q.adK q.e.kids.length q.capK]=nX (qs ++ [q]):=by simp [nX,ER.row]
   rw [e5] at F2;obtain ⟨wn,hwn⟩:∃ wn,wn=((((w1.setCell ⟨w.heap.size,k * 5,none⟩ (.int .i64 q.e.kind)).setCell ⟨w.heap.size,k * 5 + 1,none⟩ (.slice q.adA q.e.allow.length q.capA)).setCell ⟨w.heap.size,k * 5 + 2,none⟩ (.string q.e.over)).setCell ⟨w.heap.size,k * 5 + 3,none⟩ (.string q.e.name)).setCell ⟨w.heap.size,k * 5 + 4,none⟩ (.slice q.adK q.e.kids.length q.capK):=⟨_,rfl⟩;have hcw:Chg (fun g=>g=w.heap.size) w1 wn:=by rw [hwn]; exact ((((Chg.set (S:=fun g=>g=w.heap.size) _ rfl).trans (Chg.set _ rfl)).trans (Chg.set _ rfl)).trans (Chg.set _ rfl)).trans (Chg.set _ rfl)
   have Ta:Hid (uQ w.heap.size wn (qs ++ [q])):=HO.out.snoc ((Chg.of hb1).trans hcw) F.lt hqA hqK hgA hgl (RZ hgz hcw.size) (hcw.free _ (by omega) hfA) (hcw.free _ hgz hfK);clear hcw hfA hfK;have hnew:q.new w.heap.size:=⟨gA,gK,hqA,hqK,by have:=F.lt; omega,by have:=F.lt; omega,hqc⟩;have XR:Hid ((qs ++ [q]).length=k + 1∧ah (qs ++ [q])=(ah rs).take (k + 1)∧∀ p ∈ qs ++ [q],p.ok wn∧p.new w.heap.size):=by
    obtain ⟨h1,h2,h3⟩:=HQ.out;refine ⟨by simp [h1],?_,?_⟩
    ·rw [R5 (by rw [aJ]; exact hlt),← h2];simp [ah,hqe]
    ·intro p hp;rw [Sd,Sm] at hp;have st:∀ p:ER,p.ok w1→p.new w.heap.size→p.ok wn:=fun p h n=>by rw [hwn]; exact ((((h.set n).set n).set n).set n).set n
     rcases hp with hp | rfl
     ·exact ⟨st p ((h3 p hp).1.below hb1) (h3 p hp).2,(h3 p hp).2⟩
     ·exact ⟨st p WB hnew,hnew⟩
   rw [← hwn] at F2;have HF:=aC F2;clear F F0 F1 F2 t0 t1 t2 t3 t4 hb1 hpl e5 ok lg HQ hqe hqA hqK WB hqc hnew;simp only [ER.val];go_wp2;rw [← hwn];go_roundw;case rel=>exact ⟨k + 1,qs ++ [q],by omega,by go_num,XR,Ta,HF.out⟩
   case measure=>simp [intOf]; omega
  ·obtain rfl:k=rs.length:=by omega
   obtain ⟨h1,h2,h3⟩:=HQ.out;have HQ3:Hid (qs.length=rs.length):=h1;have HE3:Hid (ah qs=ah rs):=by rw [← aJ rs,Sc] at h2; exact h2
   have V7:Hid (eX wr (some ⟨w.heap.size,0,none⟩) qs):=by
    rw [← h1] at F;exact F.rows fun r hr=>(h3 r hr).1
   have HB3:Hid (Below w.heap.size w wr):=F.below;have HFH:Hid (dL wr w.heap.size):=F.free;have WQ:Hid (w.heap.size < wr.heap.size):=F.lt;have HN3:Hid (∀ r ∈ qs,r.new w.heap.size):=fun r hr=>(h3 r hr).2;have UY:Hid (∀ r ∈ qs,r.capA=r.e.allow.length):=fun r hr=>(h3 r hr).2.choose_spec.choose_spec.2.2.2.2;clear h1 h2 h3 F F0 HQ;go_wp2;go_ret;exact ⟨qs,by rw [HQ3.out]; rfl,HE3.out,V7.out,UY.out,HN3.out,HO.out,HFH.out,WQ.out,HB3.out⟩
theorem Dv (r:RR) (w:World) (hr:r.ok w) (hl:r.light) :
  Calls prog 86 #[r.val] w fun e w'=>∃ r':RR,e=.returned r'.val∧r'.p=r.p∧r'.new w.heap.size∧r'.ok w'∧r'.caps∧BL w.heap.size w' r'∧Below w.heap.size w w':=by
 obtain ⟨name,rows,ad,cap⟩:=r;obtain ⟨l1,l2⟩:=hl;have HO:=aC hr;have HL:=aC l2;simp only at l1;simp only [RR.val];clear hr l2;go_enter func86,ntmps86;go_wp2_with fail;obtain ⟨W1,hW1⟩:∃ W1,W1=((w.alloc (.cells #[.string name,.slice ad rows.length cap] 157)).alloc (.cells #[.string ⟨#[]⟩,.slice none 0 0] 152)).alloc (.cells #[.string name,.slice none 0 0] 152):=⟨_,rfl⟩;rw [← hW1];have hz1:w.heap.size + 3≤W1.heap.size:=by rw [hW1]; simp only [World.size_alloc]; omega
 have hb0:Below w.heap.size w W1:=by rw [hW1]; exact (((R3 w.heap.size w).alloc (R4 _) _).alloc (by simp) _).alloc (by simp; omega) _
 have bC:Below ((w.alloc (.cells #[.string name,.slice ad rows.length cap] 157)).alloc (.cells #[.string ⟨#[]⟩,.slice none 0 0] 152)).heap.size ((w.alloc (.cells #[.string name,.slice ad rows.length cap] 157)).alloc (.cells #[.string ⟨#[]⟩,.slice none 0 0] 152)) W1:=by rw [hW1]; exact (R3 _ _).alloc (R4 _) _
 have f1:∀ i,W1.frozen? ⟨w.heap.size + 1,i,none⟩=false:=fun i=>iN bC (by simp) (wQ _ _ _ _);have f2:∀ i,W1.frozen? ⟨w.heap.size + 1 + 1,i,none⟩=false:=fun i=>by rw [hW1]; exact BV _ _ _ _ _
 have z0:W1.cell? ⟨w.heap.size + 1,0,none⟩=some (.string ⟨#[]⟩):=kept bC (by simp) (iP _ _ _ _ _ rfl);have z1:W1.cell? ⟨w.heap.size + 1,1,none⟩=some (.slice none 0 0):=kept bC (by simp) (iP _ _ _ _ _ rfl);have o0:W1.cell? ⟨w.heap.size + 1 + 1,0,none⟩=some (.string name):=by rw [hW1]; exact lc _ _ _ _ _ _ rfl
 have o1:W1.cell? ⟨w.heap.size + 1 + 1,1,none⟩=some (.slice none 0 0):=by rw [hW1]; exact lc _ _ _ _ _ _ rfl
 clear hW1 bC;refine (Le ad cap rows W1 l1 (eX.below HO.out hb0) HL.out).mono ?_;rintro e w1 ⟨qs,rfl,hqe,hqs,hqc,XZ,hqo,hqf,VI,hb1⟩;replace z0:=kept hb1 (by omega) z0;replace z1:=kept hb1 (by omega) z1;replace o0:=kept hb1 (by omega) o0;replace o1:=kept hb1 (by omega) o1;have k1:∀ i,w1.frozen? ⟨w.heap.size + 1,i,none⟩=false:=fun i=>iN hb1 (by omega) (f1 i);have k2:∀ i,w1.frozen? ⟨w.heap.size + 1 + 1,i,none⟩=false:=fun i=>iN hb1 (by omega) (f2 i);have HB1:Hid (Below w.heap.size w w1):=hb0.trans (hb1.mono (by omega));have HOW:Hid (BL w.heap.size w1 (⟨name,qs,some ⟨W1.heap.size,0,none⟩,qs.length⟩:RR)):=by
  refine ⟨fun _=>⟨W1.heap.size,rfl,hqo.1⟩,fun g hg=>?_⟩;rcases hg with ⟨-,e⟩ | ⟨q,hq,hg⟩
  ·injection e with e; injection e with e1 e2;subst e1;exact ⟨by omega,VI,hqf⟩
  ·obtain ⟨a1,a2,a3⟩:=hqo.2 q hq g hg;exact ⟨by omega,a2,a3⟩
 clear hqo hqf VI;have hs1:w.heap.size + 3≤w1.heap.size:=by have:=hb1.size; omega
 have hnew:∀ B,B≤W1.heap.size→(⟨name,qs,some ⟨W1.heap.size,0,none⟩,qs.length⟩:RR).new w.heap.size∧(B < W1.heap.size→(⟨name,qs,some ⟨W1.heap.size,0,none⟩,qs.length⟩:RR).new B):=fun B hB =>
  ⟨⟨⟨_,rfl,by omega⟩,fun q hq=>(XZ q hq).mono (by omega)⟩,fun hlt=>⟨⟨_,rfl,hlt⟩,fun q hq=>(XZ q hq).mono (by omega)⟩⟩
 have Ul:Hid ((⟨name,qs,some ⟨W1.heap.size,0,none⟩,qs.length⟩:RR).new w.heap.size):=(hnew 0 (R6 _)).1;have XU:Hid ((⟨name,qs,some ⟨W1.heap.size,0,none⟩,qs.length⟩:RR).new (w.heap.size + 1)):=(hnew _ (by omega)).2 (by omega);have UE:Hid ((⟨name,qs,some ⟨W1.heap.size,0,none⟩,qs.length⟩:RR).new (w.heap.size + 1 + 1)):=(hnew _ (by omega)).2 (by omega);have HK:Hid ((⟨name,qs,some ⟨W1.heap.size,0,none⟩,qs.length⟩:RR).ok w1):=hqs;have HC:Hid ((⟨name,qs,some ⟨W1.heap.size,0,none⟩,qs.length⟩:RR).caps):=⟨R4 _,fun q hq=>Nat.le_of_eq (hqc q hq).symm⟩;have HE:Hid ((⟨name,qs,some ⟨W1.heap.size,0,none⟩,qs.length⟩:RR).p=⟨name,ah rows⟩):=by show _=_; simp only [RR.p,hqe]
 clear hqe hqs hqc XZ hb1 hb0 f1 f2 hnew;go_wp2;refine bodyPost_ret (v:=.agg #[.string name,.slice (some ⟨W1.heap.size,0,none⟩) qs.length qs.length]) (by simp [results,Tryz.results86,go_sem, *]) rfl ⟨⟨name,qs,some ⟨W1.heap.size,0,none⟩,qs.length⟩,rfl,HE.out,Ul.out,?_,HC.out,?_,?_⟩
 ·exact ((HK.out.set UE.out).set XU.out).set XU.out
 ·exact ((HOW.out.chg (Chg.set (S:=fun _=>True) _ trivial)).chg (Chg.set (S:=fun _=>True) _ trivial)).chg (Chg.set (S:=fun _=>True) _ trivial)
 ·exact ((HB1.out.setCell (p:=⟨w.heap.size + 1 + 1,1,none⟩) (by simp; omega) _).setCell (p:=⟨w.heap.size + 1,0,none⟩) (by simp) _).setCell (p:=⟨w.heap.size + 1,1,none⟩) (by simp) _
theorem Ag (ad:Option Addr) (cap:Nat) (rs:List RR) (w:World) (hlen:rs.length≤1048576) (hs:zz w ad rs) (hl:∀ r ∈ rs,r.light) :
  Calls prog 62 #[.slice ad rs.length cap] w fun e w'=>∃ rs':List RR,e=.returned (.slice (some ⟨w.heap.size,0,none⟩) rs'.length rs'.length)∧dz rs'=dz rs∧zz w' (some ⟨w.heap.size,0,none⟩) rs'∧(∀ r ∈ rs',r.caps)∧(∀ r ∈ rs',r.new w.heap.size)∧wK w.heap.size w' rs'∧dL w' w.heap.size∧w.heap.size < w'.heap.size∧Below w.heap.size w w':=by
 obtain ⟨inf,z,hi,hz0,hz1,hz2⟩:=xy (t:=152) (n:=2) (b:=40) (by kernel_rfl);have Uh:=aC hs;have U4:=aC hl;clear hs hl;go_enter func62,ntmps62;go_wp2_with (at_make; refine wpList_make_full _ rfl _ _ 68 rfl w.heap.size 152 inf z 2 underlying68 hi hz0 hz1 .i64 .i64 _ _ rs.length rfl rfl rfl rfl (by rw [hz2]; omega) (by unfold maxLen; omega) (R4 _) ?_; intro w0 hown0 SY);have F0:Fil w w0 w.heap.size (rs.length * 2) []:=nW hown0 SY;clear hown0 SY hi hz0 hz1 hz2;go_loopw [4] (fun i wr=>∃ (k:Nat) (qs:List RR),k≤rs.length∧i=.int .i64 k∧Hid (qs.length=k∧dz qs=(dz rs).take k∧(∀ q ∈ qs,q.ok wr∧q.new w.heap.size∧q.caps))∧Hid (wK w.heap.size wr qs)∧Fil w wr w.heap.size (rs.length * 2) (rowRR qs)) (fun i _=>rs.length - (intOf i).toNat);case atStart=>exact ⟨0,[],R6 _,rfl,⟨rfl,by simp [dz],(fun q hq=>by cases hq)⟩,wK.nil _ _,F0⟩
 case round =>
  obtain ⟨k,qs,hk,rfl,HQ,HO,F⟩:=hrel;by_cases hlt:k < rs.length
  ·rcases Uh.out.below F.below with rfl | ⟨b,off,rfl,hb,hr,hok⟩
   ·simp at hlt
   obtain ⟨t0,t1⟩:=hr k hlt;have ok:=hok rs[k] (RY hlt);have lg:=U4.out rs[k] (RY hlt);clear hr hok;go_wp2_with fail;refine (Dv rs[k] _ ok lg).mono ?_;rintro e w1 ⟨q,rfl,hqe,XZ,WB,hqc,hqo,hb1⟩;have F1:=F.later hb1;have fz:=F1.free;obtain ⟨v0,u0⟩:=Option.isSome_iff_exists.mp (F1.there (k * 2) (by omega));obtain ⟨v1,u1⟩:=Option.isSome_iff_exists.mp (F1.there (k * 2 + 1) (by omega));have hpl:(rowRR qs).length=k * 2:=by rw [uI,HQ.out.1]
   have F2:=(F1.put (.string q.name) (o:=k * 2) hpl.symm (by omega)).put (.slice q.ad q.rows.length q.cap) (o:=k * 2 + 1) (by simp [hpl]) (by omega);have e5:(rowRR qs ++ [.string q.name]) ++ [.slice q.ad q.rows.length q.cap]=rowRR (qs ++ [q]):=by simp [rowRR,RR.row]
   rw [e5] at F2;obtain ⟨wn,hwn⟩:∃ wn,wn=(w1.setCell ⟨w.heap.size,k * 2,none⟩ (.string q.name)).setCell ⟨w.heap.size,k * 2 + 1,none⟩ (.slice q.ad q.rows.length q.cap):=⟨_,rfl⟩;have hcw:Chg (fun g=>g=w.heap.size) w1 wn:=by rw [hwn]; exact (Chg.set (S:=fun g=>g=w.heap.size) _ rfl).trans (Chg.set _ rfl)
   have Ta:Hid (wK w.heap.size wn (qs ++ [q])):=HO.out.snoc ((Chg.of hb1).trans hcw) F.lt (hqo.chg hcw);clear hcw hqo;have hnew:q.new w.heap.size:=XZ.mono (Nat.le_of_lt F.lt);have XR:Hid ((qs ++ [q]).length=k + 1∧dz (qs ++ [q])=(dz rs).take (k + 1)∧∀ p ∈ qs ++ [q],p.ok wn∧p.new w.heap.size∧p.caps):=by
    obtain ⟨h1,h2,h3⟩:=HQ.out;refine ⟨by simp [h1],?_,?_⟩
    ·rw [R5 (by rw [gF]; exact hlt),← h2];simp [dz,hqe]
    ·intro p hp;rw [Sd,Sm] at hp;have st:∀ p:RR,p.ok w1→p.new w.heap.size→p.ok wn:=fun p h n=>by rw [hwn]; exact (h.set n).set n
     rcases hp with hp | rfl
     ·exact ⟨st p ((h3 p hp).1.below hb1) (h3 p hp).2.1,(h3 p hp).2⟩
     ·exact ⟨st p WB hnew,hnew,hqc⟩
   rw [← hwn] at F2;have HF:=aC F2;clear F F0 F1 F2 t0 t1 hb1 hpl e5 ok lg HQ hqe XZ WB hqc hnew;simp only [RR.val];go_wp2;rw [← hwn];go_roundw;case rel=>exact ⟨k + 1,qs ++ [q],by omega,by go_num,XR,Ta,HF.out⟩
   case measure=>simp [intOf]; omega
  ·obtain rfl:k=rs.length:=by omega
   obtain ⟨h1,h2,h3⟩:=HQ.out;have HQ3:Hid (qs.length=rs.length):=h1;have HE3:Hid (dz qs=dz rs):=by rw [← gF rs,Sc] at h2; exact h2
   have V7:Hid (zz wr (some ⟨w.heap.size,0,none⟩) qs):=by
    rw [← h1] at F;exact F.rowRR fun r hr=>(h3 r hr).1
   have HB3:Hid (Below w.heap.size w wr):=F.below;have HFH:Hid (dL wr w.heap.size):=F.free;have WQ:Hid (w.heap.size < wr.heap.size):=F.lt;have HN3:Hid (∀ r ∈ qs,r.new w.heap.size):=fun r hr=>(h3 r hr).2.1;have UY:Hid (∀ r ∈ qs,r.caps):=fun r hr=>(h3 r hr).2.2;clear h1 h2 h3 F F0 HQ;go_wp2;go_ret;exact ⟨qs,by rw [HQ3.out]; rfl,HE3.out,V7.out,UY.out,HN3.out,HO.out,HFH.out,WQ.out,HB3.out⟩
theorem Og (r:TR) (w:World) (hr:r.ok w) (hl:r.light) :
  Calls prog 34 #[r.val] w fun e w'=>∃ r':TR,e=.returned r'.val∧r'.p=r.p∧r'.new w.heap.size∧r'.ok w'∧r'.caps∧BM w.heap.size w' r'∧Below w.heap.size w w':=by
 obtain ⟨name,rows,ad,cap⟩:=r;obtain ⟨l1,l2⟩:=hl;have HO:=aC hr;have HL:=aC l2;simp only at l1;simp only [TR.val];clear hr l2;go_enter func34,ntmps34;go_wp2_with fail;obtain ⟨W1,hW1⟩:∃ W1,W1=((w.alloc (.cells #[.string name,.slice ad rows.length cap] 59)).alloc (.cells #[.string ⟨#[]⟩,.slice none 0 0] 70)).alloc (.cells #[.string name,.slice none 0 0] 70):=⟨_,rfl⟩;rw [← hW1];have hz1:w.heap.size + 3≤W1.heap.size:=by rw [hW1]; simp only [World.size_alloc]; omega
 have hb0:Below w.heap.size w W1:=by rw [hW1]; exact (((R3 w.heap.size w).alloc (R4 _) _).alloc (by simp) _).alloc (by simp; omega) _
 have bC:Below ((w.alloc (.cells #[.string name,.slice ad rows.length cap] 59)).alloc (.cells #[.string ⟨#[]⟩,.slice none 0 0] 70)).heap.size ((w.alloc (.cells #[.string name,.slice ad rows.length cap] 59)).alloc (.cells #[.string ⟨#[]⟩,.slice none 0 0] 70)) W1:=by rw [hW1]; exact (R3 _ _).alloc (R4 _) _
 have f1:∀ i,W1.frozen? ⟨w.heap.size + 1,i,none⟩=false:=fun i=>iN bC (by simp) (wQ _ _ _ _);have f2:∀ i,W1.frozen? ⟨w.heap.size + 1 + 1,i,none⟩=false:=fun i=>by rw [hW1]; exact BV _ _ _ _ _
 have z0:W1.cell? ⟨w.heap.size + 1,0,none⟩=some (.string ⟨#[]⟩):=kept bC (by simp) (iP _ _ _ _ _ rfl);have z1:W1.cell? ⟨w.heap.size + 1,1,none⟩=some (.slice none 0 0):=kept bC (by simp) (iP _ _ _ _ _ rfl);have o0:W1.cell? ⟨w.heap.size + 1 + 1,0,none⟩=some (.string name):=by rw [hW1]; exact lc _ _ _ _ _ _ rfl
 have o1:W1.cell? ⟨w.heap.size + 1 + 1,1,none⟩=some (.slice none 0 0):=by rw [hW1]; exact lc _ _ _ _ _ _ rfl
 clear hW1 bC;refine (Ag ad cap rows W1 l1 (zz.below HO.out hb0) HL.out).mono ?_;rintro e w1 ⟨qs,rfl,hqe,hqs,hqc,XZ,hqo,hqf,VI,hb1⟩;replace z0:=kept hb1 (by omega) z0;replace z1:=kept hb1 (by omega) z1;replace o0:=kept hb1 (by omega) o0;replace o1:=kept hb1 (by omega) o1;have k1:∀ i,w1.frozen? ⟨w.heap.size + 1,i,none⟩=false:=fun i=>iN hb1 (by omega) (f1 i);have k2:∀ i,w1.frozen? ⟨w.heap.size + 1 + 1,i,none⟩=false:=fun i=>iN hb1 (by omega) (f2 i);have HB1:Hid (Below w.heap.size w w1):=hb0.trans (hb1.mono (by omega));have HOW:Hid (BM w.heap.size w1 (⟨name,qs,some ⟨W1.heap.size,0,none⟩,qs.length⟩:TR)):=by
  refine ⟨fun _=>⟨W1.heap.size,rfl,hqo.1⟩,fun g hg=>?_⟩;rcases hg with ⟨-,e⟩ | ⟨q,hq,hg⟩
  ·injection e with e; injection e with e1 e2;subst e1;exact ⟨by omega,VI,hqf⟩
  ·obtain ⟨a1,a2,a3⟩:=hqo.2 q hq g hg;exact ⟨by omega,a2,a3⟩
 clear hqo hqf VI;have hs1:w.heap.size + 3≤w1.heap.size:=by have:=hb1.size; omega
 have hnew:∀ B,B≤W1.heap.size→(⟨name,qs,some ⟨W1.heap.size,0,none⟩,qs.length⟩:TR).new w.heap.size∧(B < W1.heap.size→(⟨name,qs,some ⟨W1.heap.size,0,none⟩,qs.length⟩:TR).new B):=fun B hB =>
  ⟨⟨⟨_,rfl,by omega⟩,fun q hq=>(XZ q hq).mono (by omega)⟩,fun hlt=>⟨⟨_,rfl,hlt⟩,fun q hq=>(XZ q hq).mono (by omega)⟩⟩
 have Ul:Hid ((⟨name,qs,some ⟨W1.heap.size,0,none⟩,qs.length⟩:TR).new w.heap.size):=(hnew 0 (R6 _)).1;have XU:Hid ((⟨name,qs,some ⟨W1.heap.size,0,none⟩,qs.length⟩:TR).new (w.heap.size + 1)):=(hnew _ (by omega)).2 (by omega);have UE:Hid ((⟨name,qs,some ⟨W1.heap.size,0,none⟩,qs.length⟩:TR).new (w.heap.size + 1 + 1)):=(hnew _ (by omega)).2 (by omega);have HK:Hid ((⟨name,qs,some ⟨W1.heap.size,0,none⟩,qs.length⟩:TR).ok w1):=hqs;have HC:Hid ((⟨name,qs,some ⟨W1.heap.size,0,none⟩,qs.length⟩:TR).caps):=⟨R4 _,hqc⟩;have HE:Hid ((⟨name,qs,some ⟨W1.heap.size,0,none⟩,qs.length⟩:TR).p=⟨name,dz rows⟩):=by show _=_; simp only [TR.p,hqe]
 clear hqe hqs hqc XZ hb1 hb0 f1 f2 hnew;go_wp2;refine bodyPost_ret (v:=.agg #[.string name,.slice (some ⟨W1.heap.size,0,none⟩) qs.length qs.length]) (by simp [results,Tryz.results34,go_sem, *]) rfl ⟨⟨name,qs,some ⟨W1.heap.size,0,none⟩,qs.length⟩,rfl,HE.out,Ul.out,?_,HC.out,?_,?_⟩
 ·exact ((HK.out.set UE.out).set XU.out).set XU.out
 ·exact ((HOW.out.chg (Chg.set (S:=fun _=>True) _ trivial)).chg (Chg.set (S:=fun _=>True) _ trivial)).chg (Chg.set (S:=fun _=>True) _ trivial)
 ·exact ((HB1.out.setCell (p:=⟨w.heap.size + 1 + 1,1,none⟩) (by simp; omega) _).setCell (p:=⟨w.heap.size + 1,0,none⟩) (by simp) _).setCell (p:=⟨w.heap.size + 1,1,none⟩) (by simp) _
theorem BN (ad:Option Addr) (cap:Nat) (rs:List TR) (w:World) (hlen:rs.length≤1048576) (hs:jd w ad rs) (hl:∀ r ∈ rs,r.light) :
  Calls prog 11 #[.slice ad rs.length cap] w fun e w'=>∃ rs':List TR,e=.returned (.slice (some ⟨w.heap.size,0,none⟩) rs'.length rs'.length)∧ae rs'=ae rs∧jd w' (some ⟨w.heap.size,0,none⟩) rs'∧(∀ r ∈ rs',r.caps)∧(∀ r ∈ rs',r.new w.heap.size)∧uR w.heap.size w' rs'∧dL w' w.heap.size∧w.heap.size < w'.heap.size∧Below w.heap.size w w':=by
 obtain ⟨inf,z,hi,hz0,hz1,hz2⟩:=xy (t:=70) (n:=2) (b:=40) (by kernel_rfl);have Uh:=aC hs;have U4:=aC hl;clear hs hl;go_enter func11,ntmps11;go_wp2_with (at_make; refine wpList_make_full _ rfl _ _ 34 rfl w.heap.size 70 inf z 2 underlying34 hi hz0 hz1 .i64 .i64 _ _ rs.length rfl rfl rfl rfl (by rw [hz2]; omega) (by unfold maxLen; omega) (R4 _) ?_; intro w0 hown0 SY);have F0:Fil w w0 w.heap.size (rs.length * 2) []:=nW hown0 SY;clear hown0 SY hi hz0 hz1 hz2;go_loopw [4] (fun i wr=>∃ (k:Nat) (qs:List TR),k≤rs.length∧i=.int .i64 k∧Hid (qs.length=k∧ae qs=(ae rs).take k∧(∀ q ∈ qs,q.ok wr∧q.new w.heap.size∧q.caps))∧Hid (uR w.heap.size wr qs)∧Fil w wr w.heap.size (rs.length * 2) (rowTR qs)) (fun i _=>rs.length - (intOf i).toNat);case atStart=>exact ⟨0,[],R6 _,rfl,⟨rfl,by simp [ae],(fun q hq=>by cases hq)⟩,uR.nil _ _,F0⟩
 case round =>
  obtain ⟨k,qs,hk,rfl,HQ,HO,F⟩:=hrel;by_cases hlt:k < rs.length
  ·rcases Uh.out.below F.below with rfl | ⟨b,off,rfl,hb,hr,hok⟩
   ·simp at hlt
   obtain ⟨t0,t1⟩:=hr k hlt;have ok:=hok rs[k] (RY hlt);have lg:=U4.out rs[k] (RY hlt);clear hr hok;go_wp2_with fail;refine (Og rs[k] _ ok lg).mono ?_;rintro e w1 ⟨q,rfl,hqe,XZ,WB,hqc,hqo,hb1⟩;have F1:=F.later hb1;have fz:=F1.free;obtain ⟨v0,u0⟩:=Option.isSome_iff_exists.mp (F1.there (k * 2) (by omega));obtain ⟨v1,u1⟩:=Option.isSome_iff_exists.mp (F1.there (k * 2 + 1) (by omega));have hpl:(rowTR qs).length=k * 2:=by rw [uJ,HQ.out.1]
   have F2:=(F1.put (.string q.name) (o:=k * 2) hpl.symm (by omega)).put (.slice q.ad q.rows.length q.cap) (o:=k * 2 + 1) (by simp [hpl]) (by omega);have e5:(rowTR qs ++ [.string q.name]) ++ [.slice q.ad q.rows.length q.cap]=rowTR (qs ++ [q]):=by simp [rowTR,TR.row]
   rw [e5] at F2;obtain ⟨wn,hwn⟩:∃ wn,wn=(w1.setCell ⟨w.heap.size,k * 2,none⟩ (.string q.name)).setCell ⟨w.heap.size,k * 2 + 1,none⟩ (.slice q.ad q.rows.length q.cap):=⟨_,rfl⟩;have hcw:Chg (fun g=>g=w.heap.size) w1 wn:=by rw [hwn]; exact (Chg.set (S:=fun g=>g=w.heap.size) _ rfl).trans (Chg.set _ rfl)
   have Ta:Hid (uR w.heap.size wn (qs ++ [q])):=HO.out.snoc ((Chg.of hb1).trans hcw) F.lt (hqo.chg hcw);clear hcw hqo;have hnew:q.new w.heap.size:=XZ.mono (Nat.le_of_lt F.lt);have XR:Hid ((qs ++ [q]).length=k + 1∧ae (qs ++ [q])=(ae rs).take (k + 1)∧∀ p ∈ qs ++ [q],p.ok wn∧p.new w.heap.size∧p.caps):=by
    obtain ⟨h1,h2,h3⟩:=HQ.out;refine ⟨by simp [h1],?_,?_⟩
    ·rw [R5 (by rw [fO]; exact hlt),← h2];simp [ae,hqe]
    ·intro p hp;rw [Sd,Sm] at hp;have st:∀ p:TR,p.ok w1→p.new w.heap.size→p.ok wn:=fun p h n=>by rw [hwn]; exact (h.set n).set n
     rcases hp with hp | rfl
     ·exact ⟨st p ((h3 p hp).1.below hb1) (h3 p hp).2.1,(h3 p hp).2⟩
     ·exact ⟨st p WB hnew,hnew,hqc⟩
   rw [← hwn] at F2;have HF:=aC F2;clear F F0 F1 F2 t0 t1 hb1 hpl e5 ok lg HQ hqe XZ WB hqc hnew;simp only [TR.val];go_wp2;rw [← hwn];go_roundw;case rel=>exact ⟨k + 1,qs ++ [q],by omega,by go_num,XR,Ta,HF.out⟩
   case measure=>simp [intOf]; omega
  ·obtain rfl:k=rs.length:=by omega
   obtain ⟨h1,h2,h3⟩:=HQ.out;have HQ3:Hid (qs.length=rs.length):=h1;have HE3:Hid (ae qs=ae rs):=by rw [← fO rs,Sc] at h2; exact h2
   have V7:Hid (jd wr (some ⟨w.heap.size,0,none⟩) qs):=by
    rw [← h1] at F;exact F.rowTR fun r hr=>(h3 r hr).1
   have HB3:Hid (Below w.heap.size w wr):=F.below;have HFH:Hid (dL wr w.heap.size):=F.free;have WQ:Hid (w.heap.size < wr.heap.size):=F.lt;have HN3:Hid (∀ r ∈ qs,r.new w.heap.size):=fun r hr=>(h3 r hr).2.1;have UY:Hid (∀ r ∈ qs,r.caps):=fun r hr=>(h3 r hr).2.2;clear h1 h2 h3 F F0 HQ;go_wp2;go_ret;exact ⟨qs,by rw [HQ3.out]; rfl,HE3.out,V7.out,UY.out,HN3.out,HO.out,HFH.out,WQ.out,HB3.out⟩
end Go.Proofs.YtdaoiceeidoehaaGreat
