/- Proved here: FnExactUsersOf answers true for every slice of types, every slice of tuples, every object and every string, and leaves them as they were, with no condition on them. -/
import Derived.Test.YtogjfppkbkgaeaaGreatJ21
import Derived.Test.YtogjfppkbkgaeaaGreatJ33
import Derived.Test.YtogjfppkbkgaeaaGreatJ35
import Derived.Test.YtogjfppkbkgaeaaGreatJ36
import Derived.Test.YtogjfppkbkgaeaaGreatJ12
import Derived.Test.YtogjfppkbkgaeaaGreatJ6
import Derived.Test.YtogjfppkbkgaeaaGreatToOwn
namespace Go.Proofs.YtogjfppkbkgaeaaGreat.fnExactUsersOf
open Go.ChangeShapes Go.WideShapes Go.ChangeAt Go.RowKit Go.Joins
open Go.ChangeMaps (open_string shut_string)
open Pl
set_option linter.unusedVariables false
set_option linter.unusedSectionVars false
theorem Nl {rs rs':List ER} {p:Ex→Prop} (h:ag rs'=ag rs) (hp:∀ r ∈ rs,p r.e):∀ r ∈ rs',p r.e:=by
 intro r hr;have h1:r.e ∈ ag rs':=List.mem_map.2 ⟨r,hr,rfl⟩;rw [h] at h1;obtain ⟨q,hq,e⟩:=List.mem_map.1 h1;rw [← e];exact hp q hq
theorem Nn {rs rs':List RR} (h:bR rs'=bR rs):∀ r ∈ rs',∃ q ∈ rs,q.name=r.name∧ag r.rows=ag q.rows:=by
 intro r hr;have h1:r.p ∈ bR rs':=List.mem_map.2 ⟨r,hr,rfl⟩;rw [h] at h1;obtain ⟨q,hq,e⟩:=List.mem_map.1 h1;injection e with e1 e2;exact ⟨q,hq,e1,e2.symm⟩
theorem Np {rs rs':List TR} (h:af rs'=af rs):∀ r ∈ rs',∃ q ∈ rs,q.name=r.name∧bR r.rows=bR q.rows:=by
 intro r hr;have h1:r.p ∈ af rs':=List.mem_map.2 ⟨r,hr,rfl⟩;rw [h] at h1;obtain ⟨q,hq,e⟩:=List.mem_map.1 h1;injection e with e1 e2;exact ⟨q,hq,e1,e2.symm⟩
theorem xH {rs rs':List TR} (h:af rs'=af rs) (hl:∀ r ∈ rs,r.light):∀ r ∈ rs',r.light:=by
 intro r hr;obtain ⟨q,hq,-,e⟩:=Np h r hr;have h1:=hl q hq;refine ⟨by rw [← fI,e,fI]; exact h1.1,fun x hx=>?_⟩;obtain ⟨y,hy,-,e2⟩:=Nn e x hx;have h2:=h1.2 y hy;exact ⟨by rw [← aO,e2,aO]; exact h2.1,Nl e2 h2.2⟩
theorem Kv {rs rs':List TR} (h:af rs'=af rs) (hl:∀ r ∈ rs,r.fits):∀ r ∈ rs',r.fits:=by
 intro r hr;obtain ⟨q,hq,en,e⟩:=Np h r hr;have h1:=hl q hq;refine ⟨by rw [← en]; exact h1.1,by rw [← fI,e,fI]; exact h1.2.1,fun x hx=>?_⟩;obtain ⟨y,hy,en2,e2⟩:=Nn e x hx;have h2:=h1.2.2 y hy;exact ⟨by rw [← en2]; exact h2.1,by rw [← aO,e2,aO]; exact h2.2.1,Nl e2 h2.2.2⟩
theorem Kw {rs rs':List TR} (h:af rs'=af rs):rs'.length=rs.length:=by rw [← fB,h,fB]
theorem aZ {w W w':World} {B:Nat} (h:Below B w W) (hB:B≤W.heap.size) (hb:Below W.heap.size W w'):Below B w w':=h.trans (hb.mono hB)
theorem MQ {P:Nat→Prop} (h:∃ n,P n):∃ n,P n∧∀ m,P m→n≤m:=by
 obtain ⟨n,hn⟩:=h
 induction n using Nat.strongRecOn with
 | ind n ih =>
  by_cases hx:∃ m,m < n∧P m
  ·obtain ⟨m,hm,hp⟩:=hx;exact ih m hm hp
  ·exact ⟨n,hn,fun m hm=>Nat.le_of_not_lt fun hlt=>hx ⟨m,hlt,hm⟩⟩
theorem Kz {ts:List Ty} (h:∃ f,Sol ts f):∃ f,Least ts f:=by
 have key:∀ k,∃ n:Nat,(∃ g,Sol ts g∧g k=(n:Int))∧∀ m:Nat,(∃ g,Sol ts g∧g k=(m:Int))→n≤m:=fun k=>MQ (by
  obtain ⟨f,hf⟩:=h;exact ⟨(f k).toNat,f,hf,by have:=hf.pos k; omega⟩)
 have low:∀ k g,Sol ts g→(((key k).choose:Nat):Int)≤g k:=fun k g hg=>by
  have h1:=(key k).choose_spec.2 (g k).toNat ⟨g,hg,by have:=hg.pos k; omega⟩;have:=hg.pos k;omega
 refine ⟨fun k=>(((key k).choose:Nat):Int),⟨fun k=>Int.natCast_nonneg _,fun k hk d hd=>?_⟩,fun k hk g hg=>low k g hg⟩;obtain ⟨g,hg,e⟩:=(key k).choose_spec.1;have h1:=low (d.typ,d.rel) g hg;have h2:=hg.up k hk d hd;show (((key (d.typ,d.rel)).choose:Nat):Int) + stepOf d≤(((key k).choose:Nat):Int);rw [← e];exact Int.le_trans (Int.add_le_add_right h1 _) h2
theorem Nq (ts:List Ty):∃ st,bP ts=true→Least ts st:=by
 by_cases h:bP ts=true
 ·obtain ⟨st,hst⟩:=Kz (bY.1 h).2.2;exact ⟨st,fun _=>hst⟩
 ·exact ⟨fun _=>0,fun h2=>absurd h2 h⟩
theorem xI (ad:Option Addr) (cap:Nat) (rs:List TR) (w:World) (hlen:rs.length≤1048576) (hs:fo w ad rs) (hl:∀ r ∈ rs,r.light) :
  Calls Tryz.prog 10 #[.slice ad rs.length cap] w fun e w'=>∃ rs':List TR,e=.returned (.slice (some ⟨w.heap.size,0,none⟩) rs'.length rs'.length)∧af rs'=af rs∧fo w' (some ⟨w.heap.size,0,none⟩) rs'∧(∀ r ∈ rs',r.caps)∧(∀ r ∈ rs',r.new w.heap.size)∧Below w.heap.size w w' :=
 (zL ad cap rs w hlen hs hl).mono fun e w' ⟨rs',h1,h2,h3,h4,h5,_,_,_,hb⟩=>⟨rs',h1,h2,h3,h4,h5,hb⟩
theorem dz {w W w':World} {n:Nat} {x0 x1:Value} {ad ad2:Option Addr} {L M:List Al} (h:W.cell? ⟨n,0,none⟩=some x0∧W.cell? ⟨n,1,none⟩=some x1∧(dm W ad L∧dm W ad2 M)∧Below w.heap.size w W) (hb:Below W.heap.size W w'):w'.cell? ⟨n,0,none⟩=some x0∧w'.cell? ⟨n,1,none⟩=some x1∧(dm w' ad L∧dm w' ad2 M)∧Below w.heap.size w w' :=
 ⟨aH hb (av h.1) h.1,aH hb (av h.2.1) h.2.1,⟨h.2.2.1.1.below hb,h.2.2.1.2.below hb⟩,h.2.2.2.trans (hb.mono h.2.2.2.size)⟩
set_option maxRecDepth 100000 in
theorem KA {H:Type} {enc:TypeId × Value→H} {W w:World} {r0:Reach} {b0 base:Nat} {sp:Nat→Bool} {held:Bool} {v:Value} {d0:DataW H} {p:List MemPlace}
  (hv:Value.okWide Tryz.prog W r0 b0 40 v) (h:DataW.Trod enc Tryz.prog w base sp held 40 v d0 p):∃ a b:ByteArray,v=.agg #[.string a,.string b]∧a.size≤maxLen∧b.size≤maxLen:=by
 obtain ⟨cs,rfl,hsz⟩:=okWide_struct Tryz.underlying40 hv;obtain ⟨fuel,hf⟩:=h;obtain ⟨a,b,e,hh⟩:=xG hf;refine ⟨a,b,?_,hh⟩;simp only [Value.cells] at e;rw [← Array.toArray_toList (xs:=cs),e]
theorem MR {a b:ByteArray} {m:Int} (h:m≤1048576) (h0:0≤m):eT a b m≤1048576∧-1≤eT a b m:=by
 unfold eT;split
 ·omega
 ·split <;> omega
theorem Dt [DecidableEq Fc] (st:ByteArray × ByteArray→Int) (ad:Option Addr) (cap:Nat) (rs:List TR) (ad':Option Addr) (cap':Nat) (ts:List Tp) (o:Al) (rel:ByteArray) (w:World) (hlen:rs.length≤1048576) (hs:fo w ad rs) (hl:∀ r ∈ rs,r.light) (hfr:∀ r ∈ rs,r.fits) (hcp:∀ r ∈ rs,r.caps) (hlt:ts.length≤1048576) (hst:Sl w ad' ts) (hft:∀ x ∈ ts,x.fits) (hle:bP (af rs)=true→Least (af rs) st) :
  Calls Tryz.prog 27 #[.slice ad rs.length cap,.slice ad' ts.length cap',.agg #[.string o.t,.string o.s],.string rel] w fun e w'=>(∃ v,e=.returned v∧w'.ownsRow w.heap.size 45 2 v (dX (cz o rel) dY (dU st rs ts)).length (pairs (dX (cz o rel) dY (dU st rs ts))))∧Below w.heap.size w w' :=
 Cz ad rs.length cap ad' ts.length cap' (dU st rs ts) o rel w (by rw [pF]; exact lQ st) fun W' hb=>(yf st ad cap rs ad' cap' ts W' hlen (hs.below hb) hl hfr hcp hlt (hst.below hb) hft hle).mono fun e w' h=>yg h
theorem KC [DecidableEq Fc] (st:ByteArray × ByteArray→Int) (ad:Option Addr) (cap:Nat) (rs:List TR) (ad':Option Addr) (cap':Nat) (ts:List Tp) (o:Al) (rel:ByteArray) (w:World) (hlen:rs.length≤1048576) (hs:fo w ad rs) (hl:∀ r ∈ rs,r.light) (hfr:∀ r ∈ rs,r.fits) (hlt:ts.length≤1048576) (hst:Sl w ad' ts) (hft:∀ x ∈ ts,x.fits) (hle:bP (af rs)=true→Least (af rs) st) :
  Calls Tryz.prog 25 #[.slice ad rs.length cap,.slice ad' ts.length cap',.agg #[.string o.t,.string o.s],.string rel] w fun e w'=>(∃ v,e=.returned v∧w'.ownsRow w.heap.size 45 2 v (dX (cz o rel) dY (dU st rs ts)).length (pairs (dX (cz o rel) dY (dU st rs ts))))∧Below w.heap.size w w' :=
 CE ad rs.length cap ad' ts.length cap' (dU st rs ts) o rel w (by rw [pF]; exact lQ st) fun W' hb=>yh st ad cap rs ad' cap' ts W' hlen (hs.below hb) hl hfr hlt (hst.below hb) hft hle
set_option maxRecDepth 100000 in
set_option maxHeartbeats 8000000 in
theorem walk [DecidableEq Fc] (ad:Option Addr) (cap:Nat) (rs:List TR) (ad':Option Addr) (cap':Nat) (ts:List Tp) (a b rel:ByteArray) (w:World) (hmr:rs.length≤maxLen) (hs:fo w ad rs) (hf:∀ r ∈ rs,r.fits) (hm:ts.length≤maxLen) (hst:Sl w ad' ts) (hft:∀ x ∈ ts,x.fits) (ha:a.size≤maxLen) (hb:b.size≤maxLen) (hre:rel.size≤maxLen) :
    Calls Tryz.prog 5 #[.slice ad rs.length cap,.slice ad' ts.length cap',.agg #[.string a,.string b],.string rel] w fun e w'=>e=.returned (.bool true)∧Below w.heap.size w w':=by
  obtain ⟨st,hst0⟩:=Nq (af rs);have HLE:=iJ hst0;clear hst0;have HS:=iJ hs;have HF:=iJ hf;have HST:=iJ hst;have HFT:=iJ hft;clear hs hf hst hft;obtain ⟨W0,hW0⟩:∃ W0,W0=w.alloc (.cells #[.string a,.string b] 40):=⟨_,rfl⟩;have HB0:Hid (Below w.heap.size w W0):=by show Below _ _ _; rw [hW0]; exact (Below.refl _ _).alloc (Nat.le_refl _) _
  have HK0:=iJ (show W0.cell? ⟨w.heap.size,0,none⟩=some (.string a)∧W0.cell? ⟨w.heap.size,1,none⟩=some (.string b)∧Below w.heap.size w W0 from ⟨by rw [hW0]; simp,by rw [hW0]; simp,HB0.out⟩);have qre:=hre;unfold maxLen at qre;by_cases cre:1048576 < rel.size
  · go_enter Tryz.func5,Tryz.ntmps5;go_wp2;rw [← hW0];go_ret;exact ⟨rfl,HB0.out⟩
  go_enter Tryz.func5,Tryz.ntmps5;go_wp2_with fail;rw [← hW0];clear hW0;refine (Il ad cap rs 1048576 _ hmr (HS.out.below HB0.out) HF.out (by omega) (by omega)).mono ?_;rintro e w1 ⟨⟨n,rfl,hn⟩,hb1⟩;have HB1:Hid (Below w.heap.size w w1):=aZ HB0.out HB0.out.size hb1;have HK1:=iJ (jG HK0.out hb1);clear hb1 HB0 HK0 qre cre hre;rcases hn with rfl | ⟨hn0,hn1,hn2,hn3⟩
  · go_wp2;go_ret;exact ⟨rfl,HB1.out⟩
  have HL:=iJ hn3;have hlen:rs.length≤1048576:=by omega
  have HWT:Hid (1 + wT rs≤20000000):=by have:=Mc rs; show _≤_; omega
  clear hn3 hn2;go_wp2_with fail;refine (z8 ad' cap' ts n _ hm (HST.out.below HB1.out) HFT.out (by omega) (by omega)).mono ?_;rintro e w2 ⟨⟨m,rfl,hq⟩,hb2⟩;have HB2:Hid (Below w.heap.size w w2):=aZ HB1.out HB1.out.size hb2;have HK2:=iJ (jG HK1.out hb2);clear hb2 HB1 HK1;rcases hq with rfl | ⟨hq0,hq1,hq2⟩
  · go_wp2;go_ret;exact ⟨rfl,HB2.out⟩
  have hlt:ts.length≤1048576:=by omega
  have hm1:m≤1048576:=by omega
  clear hq2 hq1 hn1;obtain ⟨k0,k1,-⟩:=HK2.out;go_wp2_with fail;refine (ll a b m _ ha hb hq0 hm1).mono ?_;rintro e w2f ⟨rfl,hb2f⟩;have HB2f:Hid (Below w.heap.size w w2f):=aZ HB2.out HB2.out.size hb2f;have HK2f:=iJ (jG HK2.out hb2f);obtain ⟨z,hz⟩:∃ z,z=eT a b m:=⟨_,rfl⟩;have hz1:z≤1048576∧-1≤z:=by rw [hz]; exact MR hm1 hq0
  rw [← hz];clear hz hb2f HB2 HK2 k0 k1;by_cases hz0:z < 0
  · go_wp2;go_ret;exact ⟨rfl,HB2f.out⟩
  clear ha hb hm1 hq0;obtain ⟨L,hL⟩:∃ L,dX (cz ⟨a,b⟩ rel) dY (dU st rs ts)=L:=⟨_,rfl⟩;have HLL:=iJ hL;have hl2:L.length≤1048576:=by rw [← hL]; exact Nat.le_trans (wV _ _ _) (by rw [pF]; exact Nat.le_trans (lQ st) (by decide))
  have hll:L.length≤maxLen:=by unfold maxLen; omega
  clear hL;obtain ⟨k0,k1,kB⟩:=HK2f.out;clear HK2f HB2f;go_wp2_with fail
  go_region_held3 (fun w'=>w'.cell? ⟨w.heap.size,0,none⟩=some (.string a)∧w'.cell? ⟨w.heap.size,1,none⟩=some (.string b)∧Below w.heap.size w w')
    (first | assumption | exact jG (by assumption) hbx | exact ⟨k0,k1,kB.drew⟩)
    (first
     | (go_at_call 10; refine (xI ad cap rs _ hlen (HS.out.below (And.right (And.right (by assumption)))) HL.out).mono ?_; rintro e w3 ⟨rs1,rfl,he1,hs1,-,-,hbx⟩; have HE1:=iJ he1; have HS1:=iJ hs1; clear he1 hs1)
     | (go_at_call 11; refine (jk ad' cap' ts _ hlt (HST.out.below (And.right (And.right (by assumption))))).mono ?_; rintro e w4 ⟨rfl,F4⟩; have hbx:=F4.below; have HS1b:=iJ (HS1.out.below hbx); have HF4:=iJ F4.sl; clear F4)
     | (go_at_call 26; refine (ic a b _).mono ?_; rintro e w4f ⟨rfl,hbx⟩; have HS1c:=iJ (HS1b.out.below hbx); have HF4c:=iJ (HF4.out.below hbx))
     | (go_at_call 25; refine (KC st _ _ rs1 _ _ ts ⟨a,b⟩ rel _ (by rw [Kw HE1.out]; exact hlen) HS1c.out (xH HE1.out HL.out) (Kv HE1.out HF.out) hlt HF4c.out HFT.out (fun h=>by rw [HE1.out] at h ⊢; exact HLE.out h)).mono ?_; rintro e w5 ⟨⟨v5,he5,ho5⟩,hbx⟩; rw [pG HE1.out,HLL.out] at ho5; obtain ⟨ad5,cap5,hv5,hs5⟩:=fU ho5; rw [hv5] at he5; subst he5; have HL5:=iJ hs5; clear ho5 hv5 hs5))
  rename_i hJ;have HK5:=iJ hJ;have HB5:Hid (Below w.heap.size w w5):=hJ.2.2;have hw5:w.heap.size < w5.heap.size:=av hJ.1;clear hJ k0 k1;have s5:w.heap.size≤w5.heap.size:=HB5.out.size;have Cw_w5:Hid (Below w.heap.size w w5):=HB5;have Cw5_w5:Hid (Below w5.heap.size w5 w5):=Below.refl _ _;go_wp2_with fail;refine (zL ad cap rs _ hlen (HS.out.below Cw_w5.out) HL.out).mono ?_;rintro e w6 ⟨rs2,rfl,he2,hs2,hc2,hnw2,ho2,hf2,hlx2,hb6⟩;have HE2:=iJ he2;have HS2:=iJ hs2;have HC2:=iJ hc2;have HO2:=iJ ho2;have HF2:=iJ hf2;have HL2:=iJ hlx2;have HSZ:Hid (∀ g,Be w5.heap.size rs2 g→w5.heap.size≤g∧g < w6.heap.size):=by
    rintro g (rfl | ⟨q,hq,h2⟩)
    · exact ⟨Nat.le_refl _,HL2.out⟩
    · have:=HO2.out.2 q hq g h2; omega
  have Cw_w6:Hid (Below w.heap.size w w6):=aZ Cw_w5.out Cw_w5.out.size hb6;have Cw5_w6:Hid (Below w5.heap.size w5 w6):=aZ Cw5_w5.out Cw5_w5.out.size hb6;clear Cw_w5;clear hb6 he2 hs2 hc2 ho2 hf2 hlx2 hnw2;have Cw6_w6:Hid (Below w6.heap.size w6 w6):=Below.refl _ _;go_wp2_with fail;refine (jk ad' cap' ts _ hlt (HST.out.below Cw_w6.out)).mono ?_;rintro e w7 ⟨rfl,F7⟩;have HF7:=iJ F7;have Cw_w7:Hid (Below w.heap.size w w7):=aZ Cw_w6.out Cw_w6.out.size F7.below;have Cw5_w7:Hid (Below w5.heap.size w5 w7):=aZ Cw5_w6.out Cw5_w6.out.size F7.below;have Cw6_w7:Hid (Below w6.heap.size w6 w7):=aZ Cw6_w6.out Cw6_w6.out.size F7.below;clear Cw_w6;clear F7;have Cw7_w7:Hid (Below w7.heap.size w7 w7):=Below.refl _ _;have HK7:=iJ (jG HK5.out Cw5_w7.out);obtain ⟨k0,k1,-⟩:=HK7.out;go_wp2_with fail;refine (ic a b _).mono ?_;rintro e w7f ⟨rfl,hb7f⟩;have HF7f:=iJ (HF7.out.sl.below hb7f);have HK7f:=iJ (jG HK7.out hb7f);have Cw6_w7f:Hid (Below w6.heap.size w6 w7f):=aZ Cw6_w7.out Cw6_w7.out.size hb7f;have Cw7_w7f:Hid (Below w7.heap.size w7 w7f):=hb7f;clear k0 k1 HK7 HK5 hb7f;go_wp2_with fail;refine (Dt st _ _ rs2 _ _ ts ⟨a,b⟩ rel _ (by rw [Kw HE2.out]; exact hlen) (HS2.out.below Cw6_w7f.out) (xH HE2.out HL.out) (Kv HE2.out HF.out) HC2.out hlt HF7f.out HFT.out (fun h=>by rw [HE2.out] at h ⊢; exact HLE.out h)).mono ?_;rintro e w8 ⟨⟨v8,he8,ho8⟩,hb8f⟩;rw [pG HE2.out,HLL.out] at ho8;obtain ⟨ad8,cap8,hv8,hO8⟩:=Ki (jm ho8 Cw7_w7f.out.size);have hb8:Below w7.heap.size w7 w8:=aZ Cw7_w7f.out Cw7_w7f.out.size hb8f;have HK8:=iJ (jG HK7f.out hb8f);rw [hv8] at he8;subst he8;clear ho8 hv8 hb8f HK7f Cw6_w7f Cw7_w7f HF7f;have HO8:=iJ hO8;have Cw_w8:Hid (Below w.heap.size w w8):=aZ Cw_w7.out Cw_w7.out.size hb8;have Cw5_w8:Hid (Below w5.heap.size w5 w8):=aZ Cw5_w7.out Cw5_w7.out.size hb8;have Cw6_w8:Hid (Below w6.heap.size w6 w8):=aZ Cw6_w7.out Cw6_w7.out.size hb8;have Cw7_w8:Hid (Below w7.heap.size w7 w8):=aZ Cw7_w7.out Cw7_w7.out.size hb8;clear Cw_w7;clear hb8 hO8;have Cw8_w8:Hid (Below w8.heap.size w8 w8):=Below.refl _ _;go_wp2_with fail;refine (kr ad8 ad5 cap8 cap5 L _ hll HO8.out.1 (HL5.out.below Cw5_w8.out)).mono ?_;rintro e w9 ⟨rfl,hb9⟩;have Cw_w9:Hid (Below w.heap.size w w9):=aZ Cw_w8.out Cw_w8.out.size hb9;have Cw5_w9:Hid (Below w5.heap.size w5 w9):=aZ Cw5_w8.out Cw5_w8.out.size hb9;have Cw6_w9:Hid (Below w6.heap.size w6 w9):=aZ Cw6_w8.out Cw6_w8.out.size hb9;have Cw7_w9:Hid (Below w7.heap.size w7 w9):=aZ Cw7_w8.out Cw7_w8.out.size hb9;have Cw8_w9:Hid (Below w8.heap.size w8 w9):=aZ Cw8_w8.out Cw8_w8.out.size hb9;clear Cw_w8;clear hb9;go_wp2_with fail;refine (xI ad cap rs _ hlen (HS.out.below Cw_w9.out) HL.out).mono ?_;rintro e w10 ⟨rs3,rfl,he3,hs3,-,-,hb10⟩;have Cw_w10:Hid (Below w.heap.size w w10):=aZ Cw_w9.out Cw_w9.out.size hb10;have Cw5_w10:Hid (Below w5.heap.size w5 w10):=aZ Cw5_w9.out Cw5_w9.out.size hb10;have Cw6_w10:Hid (Below w6.heap.size w6 w10):=aZ Cw6_w9.out Cw6_w9.out.size hb10;have Cw7_w10:Hid (Below w7.heap.size w7 w10):=aZ Cw7_w9.out Cw7_w9.out.size hb10;have Cw8_w10:Hid (Below w8.heap.size w8 w10):=aZ Cw8_w9.out Cw8_w9.out.size hb10;clear Cw_w9 Cw5_w9 Cw6_w9 Cw7_w9 Cw8_w9;have HE3:=iJ he3;have HS3:=iJ hs3;clear hb10 he3 hs3;go_wp2_with fail;refine (Bl _ _ _ _ rs2 rs3 _ (by rw [Kw HE2.out]; exact hlen) (by rw [HE3.out,HE2.out]) (HS2.out.below Cw6_w10.out) HS3.out (xH HE2.out HL.out)).mono ?_;rintro e w11 ⟨rfl,hb11⟩;have Cw_w11:Hid (Below w.heap.size w w11):=aZ Cw_w10.out Cw_w10.out.size hb11;have Cw5_w11:Hid (Below w5.heap.size w5 w11):=aZ Cw5_w10.out Cw5_w10.out.size hb11;have Cw6_w11:Hid (Below w6.heap.size w6 w11):=aZ Cw6_w10.out Cw6_w10.out.size hb11;have Cw7_w11:Hid (Below w7.heap.size w7 w11):=aZ Cw7_w10.out Cw7_w10.out.size hb11;have Cw8_w11:Hid (Below w8.heap.size w8 w11):=aZ Cw8_w10.out Cw8_w10.out.size hb11;clear Cw_w10 Cw5_w10 Cw6_w10 Cw7_w10 Cw8_w10;clear hb11 HS3;go_wp2_with fail;refine (jk ad' cap' ts _ hlt (HST.out.below Cw_w11.out)).mono ?_;rintro e w12 ⟨rfl,F12⟩;have HG12:=iJ F12.sl;have Cw_w12:Hid (Below w.heap.size w w12):=aZ Cw_w11.out Cw_w11.out.size F12.below;have Cw5_w12:Hid (Below w5.heap.size w5 w12):=aZ Cw5_w11.out Cw5_w11.out.size F12.below;have Cw6_w12:Hid (Below w6.heap.size w6 w12):=aZ Cw6_w11.out Cw6_w11.out.size F12.below;have Cw7_w12:Hid (Below w7.heap.size w7 w12):=aZ Cw7_w11.out Cw7_w11.out.size F12.below;have Cw8_w12:Hid (Below w8.heap.size w8 w12):=aZ Cw8_w11.out Cw8_w11.out.size F12.below;clear Cw_w11 Cw5_w11 Cw6_w11 Cw7_w11 Cw8_w11;clear F12;go_wp2_with fail;refine (Bn _ _ _ _ ts _ hm (HF7.out.later Cw7_w12.out).sl HG12.out).mono ?_;rintro e w13 ⟨rfl,hb13⟩;have Cw_w13:Hid (Below w.heap.size w w13):=aZ Cw_w12.out Cw_w12.out.size hb13;have Cw5_w13:Hid (Below w5.heap.size w5 w13):=aZ Cw5_w12.out Cw5_w12.out.size hb13;have Cw6_w13:Hid (Below w6.heap.size w6 w13):=aZ Cw6_w12.out Cw6_w12.out.size hb13;have Cw7_w13:Hid (Below w7.heap.size w7 w13):=aZ Cw7_w12.out Cw7_w12.out.size hb13;have Cw8_w13:Hid (Below w8.heap.size w8 w13):=aZ Cw8_w12.out Cw8_w12.out.size hb13;clear Cw_w12 Cw5_w12 Cw6_w12 Cw7_w12 Cw8_w12;clear hb13 HG12;have HW2T:Hid (1 + wT rs2≤1000000000):=by show _≤_; rw [Fp HE2.out]; have:=HWT.out; omega
  obtain ⟨M0,hM0⟩:∃ M0:Nat,M0=1 + wT rs2:=⟨_,rfl⟩;have HM0:=iJ hM0;have HM1:Hid (0 < M0∧M0 + 6 * ts.length≤1000000000):=by show _∧_; rw [hM0,Fp HE2.out]; have:=HWT.out; omega
  have h56:w5.heap.size < w6.heap.size:=HL2.out;have h67:w6.heap.size < w7.heap.size:=HF7.out.lt;have h613:w6.heap.size≤w13.heap.size:=Cw6_w13.out.size;have h713:w7.heap.size≤w13.heap.size:=Cw7_w13.out.size;have hc6:Chg (fun _=>False) w6 w13:=Chg.of Cw6_w13.out;have HX13:=iJ (HF7.out.later Cw7_w13.out);have HO13:=iJ (HO8.out.later Cw8_w13.out);have HL13:=iJ (HL5.out.below Cw5_w13.out);have HSC:=iJ (HS2.out.below Cw6_w13.out);have HOC:=iJ (HO2.out.chg hc6);have HFC:=iJ (hc6.free _ HL2.out HF2.out);clear hM0 hc6;go_wp2_with fail;refine (LM w5.heap.size _ rs2 _ HSC.out (by omega) HOC.out HFC.out (xH HE2.out HL.out) (by rw [Kw HE2.out]; exact hlen) HW2T.out).mono ?_;rintro e w14 ⟨he,hc14⟩;rw [← HM0.out] at he;subst he;have HK13:=iJ (jG HK8.out Cw8_w13.out);have hS14:¬ Be w5.heap.size rs2 w.heap.size:=fun hg=>by have:=(HSZ.out _ hg).1; omega
  have HB14:Hid (Below w.heap.size w w14):=Cw_w13.out.trans (hc14.below (fun g hg=>Nat.le_trans s5 (HSZ.out g hg).1) Cw_w13.out.size);have HL14:Hid (dm w14 ad5 L):=HL13.out.chg hc14 (fun g o hne e hg=>by
    have:=(HSZ.out g hg).1;have:=xD HL5.out hne e;omega)
  have HO14:Hid (oH w7.heap.size w14 ad8 L):=HO13.out.chg hc14 (fun g hge hg=>by
    have:=(HSZ.out g hg).2;omega)
  have HX14:Hid (Sl w14 (some ⟨w6.heap.size,0,none⟩) ts):=HX13.out.sl.chg hc14 (fun g o hne e hg=>by
    have:=(HSZ.out g hg).2;injection e with e; injection e with e1 e2;omega)
  have HFX14:Hid (cB w14 w6.heap.size):=hc14.free _ HX13.out.lt HX13.out.free;have h14:w13.heap.size≤w14.heap.size:=hc14.size;have HK14:Hid (w14.cell? ⟨w.heap.size,0,none⟩=some (.string a)∧w14.cell? ⟨w.heap.size,1,none⟩=some (.string b)):=⟨(hc14.cell (av HK13.out.1) hS14).trans HK13.out.1,(hc14.cell (av HK13.out.1) hS14).trans HK13.out.2.1⟩;clear HK13 hS14;clear hc14 HSC HOC HFC HX13 HO13 HL13;go_wp2_with fail;refine (xC _ _ ts M0 _ HX14.out (fun _=>⟨_,rfl,HFX14.out⟩) HM1.out.1 HM1.out.2).mono ?_;rintro e w15 ⟨rfl,-,hc15⟩;have HB15:Hid (Below w.heap.size w w15):=HB14.out.trans (hc15.below (fun g hg=>by obtain ⟨-,e⟩:=hg; injection e with e; injection e with e; omega) HB14.out.size);have HL15:Hid (dm w15 ad5 L):=HL14.out.chg hc15 (fun g o hne e hg=>by
    obtain ⟨-,e2⟩:=hg;injection e2 with e2; injection e2 with e2 e3;have:=xD HL5.out hne e;omega)
  have HO15:Hid (oH w7.heap.size w15 ad8 L):=HO14.out.chg hc15 (fun g hge hg=>by
    obtain ⟨-,e2⟩:=hg;injection e2 with e2; injection e2 with e2 e3;omega)
  have hS15:¬ (ts ≠ []∧(some ⟨w6.heap.size,0,none⟩:Option Addr)=some ⟨w.heap.size,0,none⟩):=fun hg=>by
    obtain ⟨-,e2⟩:=hg;injection e2 with e2; injection e2 with e2 e3;omega
  have HK15:Hid (w15.cell? ⟨w.heap.size,0,none⟩=some (.string a)∧w15.cell? ⟨w.heap.size,1,none⟩=some (.string b)∧Below w.heap.size w w15):=⟨(hc15.cell (av HK14.out.1) hS15).trans HK14.out.1,(hc15.cell (av HK14.out.1) hS15).trans HK14.out.2,HB15.out⟩;clear HK14 hS15;obtain ⟨M2,hM2⟩:∃ M2:Nat,M2=M0 + 6 * ts.length:=⟨_,rfl⟩;rw [← hM2];have hk1:¬ ((M2:Nat):Int) < 0:=by omega
  clear hc15 hM2 HB14 HL14 HO14 HX14 HFX14;go_wp2_with fail;refine (kr ad8 ad5 cap8 cap5 L _ hll HO15.out.1 HL15.out).mono ?_;rintro e w16 ⟨rfl,hb16⟩;have HB16:Hid (Below w.heap.size w w16):=HB15.out.trans (hb16.mono HB15.out.size);have HL16:Hid (dm w16 ad5 L):=HL15.out.below hb16;have HO16:Hid (oH w7.heap.size w16 ad8 L):=HO15.out.later hb16;have HK16:=iJ (jG HK15.out hb16);clear hb16 HB15 HL15 HO15 HK15;go_wp2_with fail;refine (uj ad8 cap8 L 1 _ HO16.out.1 (fun h=>by obtain ⟨g,e,-,hfr⟩:=HO16.out.2 h; exact ⟨g,e,hfr⟩) (by omega) (by omega)).mono ?_;rintro e w17 ⟨rfl,hs17,hc17⟩;have HM17:=iJ hs17;have hfar:∀ g,(L ≠ []∧ad8=some ⟨g,0,none⟩)→w7.heap.size≤g:=fun g hg=>by
    obtain ⟨g',e,h1,-⟩:=HO16.out.2 hg.1;have e2:=hg.2;rw [e] at e2; injection e2 with e2; injection e2 with e2 e3; omega
  have HB17:Hid (Below w.heap.size w w17):=HB16.out.trans (hc17.below (fun g hg=>by have:=hfar g hg; omega) HB16.out.size);have hS17:¬ (L ≠ []∧ad8=some ⟨w.heap.size,0,none⟩):=fun hg=>by have:=hfar _ hg; omega
  have HK17:Hid (w17.cell? ⟨w.heap.size,0,none⟩=some (.string a)∧w17.cell? ⟨w.heap.size,1,none⟩=some (.string b)∧Below w.heap.size w w17):=⟨(hc17.cell (av HK16.out.1) hS17).trans HK16.out.1,(hc17.cell (av HK16.out.1) hS17).trans HK16.out.2.1,HB17.out⟩;have HL17:Hid (dm w17 ad5 L):=HL16.out.chg hc17 (fun g o hne e hg=>by
    have:=hfar g hg;have:=xD HL5.out hne e;omega)
  clear hs17 hc17 hfar HB16 HL16 HO16 HK16 hS17;go_wp2_with fail;refine (l6 ad8 cap8 L 1 _ HM17.out (by omega) (by omega)).mono ?_;rintro e w18 ⟨rfl,hb18⟩;have HB18:Hid (Below w.heap.size w w18):=HB17.out.trans (hb18.mono HB17.out.size);have HL18:Hid (dm w18 ad5 L):=HL17.out.below hb18;have HM18:Hid (dm w18 ad8 (rX 1 L)):=HM17.out.below hb18;have hk2:¬ ((1 + 2 * L.length:Nat):Int) < 0:=by omega
  have HK18:=iJ (jG HK17.out hb18);clear hb18 HB17 HL17 HM17 HK17;obtain ⟨k0,k1,kB⟩:=HK18.out;clear HK18 HB18;go_wp2_with fail
  go_region_held3 (fun w'=>w'.cell? ⟨w.heap.size,0,none⟩=some (.string a)∧w'.cell? ⟨w.heap.size,1,none⟩=some (.string b)∧(dm w' ad5 L∧dm w' ad8 (rX 1 L))∧Below w.heap.size w w')
    (first | assumption | exact dz (by assumption) hbx | exact ⟨k0,k1,⟨HL18.out.below (Below.refl _ _).drew,HM18.out.below (Below.refl _ _).drew⟩,kB.drew⟩)
    (first
     | (go_at_call 10; refine (xI ad cap rs _ hlen (HS.out.below (And.right (And.right (And.right (by assumption))))) HL.out).mono ?_; rintro e w19 ⟨rs4,rfl,he4,hs4,hc4,-,hbx⟩; have HE4:=iJ he4; have HS4:=iJ hs4; have HC4:=iJ hc4; clear he4 hs4 hc4)
     | (go_at_call 11; refine (jk ad' cap' ts _ hlt (HST.out.below (And.right (And.right (And.right (by assumption)))))).mono ?_; rintro e w20 ⟨rfl,F20⟩; have hbx:=F20.below; have HS4b:=iJ (HS4.out.below hbx); have HF20:=iJ F20.sl; clear F20)
     | (go_at_call 26; refine (ic a b _).mono ?_; rintro e w20f ⟨rfl,hbx⟩; have HS4c:=iJ (HS4b.out.below hbx); have HF20c:=iJ (HF20.out.below hbx))
     | (go_at_call 27; refine (Dt st _ _ rs4 _ _ ts ⟨a,b⟩ rel _ (by rw [Kw HE4.out]; exact hlen) HS4c.out (xH HE4.out HL.out) (Kv HE4.out HF.out) HC4.out hlt HF20c.out HFT.out (fun h=>by rw [HE4.out] at h ⊢; exact HLE.out h)).mono ?_; rintro e w21 ⟨⟨v21,he21,ho21⟩,hbx⟩; rw [pG HE4.out,HLL.out] at ho21; obtain ⟨ad21,cap21,hv21,hs21⟩:=fU ho21; rw [hv21] at he21; subst he21; have HO21:=iJ hs21; clear ho21 hv21 hs21))
  rename_i hJ;have HB21:Hid (Below w.heap.size w w21):=hJ.2.2.2;have HL21:=iJ hJ.2.2.1.1;have HM21:=iJ hJ.2.2.1.2;clear hJ k0 k1 HL18 HM18;go_wp2_with fail;refine (kr ad21 ad5 cap21 cap5 L _ hll HO21.out HL21.out).mono ?_;rintro e w22 ⟨rfl,hb22⟩;have HB22:Hid (Below w.heap.size w w22):=HB21.out.trans (hb22.mono HB21.out.size);have HM22:Hid (dm w22 ad8 (rX 1 L)):=HM21.out.below hb22;clear hb22 HB21 HL21 HM21 HO21;go_wp2_with fail;refine (l6 ad8 cap8 L 1 _ HM22.out (by omega) (by omega)).mono ?_;rintro e w23 ⟨rfl,hb23⟩;have HB23:Hid (Below w.heap.size w w23):=HB22.out.trans (hb23.mono HB22.out.size);clear hb23 HB22 HM22;go_wp2;go_ret;exact ⟨rfl,HB23.out⟩
theorem own:ownKnob Tryz.prog.godebug=none:=by kernel_rfl
theorem laidOut:laidOutB Tryz.prog=true:=by kernel_rfl
set_option maxRecDepth 100000 in
theorem lifted (os:Os) (started:os.Started) (H:Type) (enc:TypeId × Value→H) :
  ReturnsInHanded {} Tryz.checked os 5 .any (Rows.fnExactUsersOfSpec.pre6 enc Tryz.prog Tryz.f5 Rows.fnExactUsersOfRow.domain false) (Rows.fnExactUsersOfSpec.post enc Tryz.prog Tryz.f5 false true false false):=by
 refine returnsInHanded_of_change (C:=Tryz.checked) own started (by kernel_rfl) Tryz.func5
  (ChangeSpec.witness6 (enc:=enc) (C:=Tryz.checked) false ⟨#[],#[.slice none 0 0,.slice none 0 0,.agg #[.string ByteArray.empty,.string ByteArray.empty],.string ByteArray.empty],[]⟩ 8 (by kernel_rfl) (by kernel_rfl) (by kernel_rfl) (by kernel_rfl)) ?_
 intro W base args ds gs before hval0 hW hcnd _;have hval:∀ (j:Nat) t v,Tryz.f5.params[j]?=some t→args[j]?=some v→Value.okWide Tryz.prog W .any base t v:=hval0;have hW':=hW;obtain ⟨p,q,hA0,hV,rfl,hfz,hnd⟩:=hW;have hA:DataW.TrodAll enc Tryz.prog W 0 (fun _=>true) true Tryz.f5.params.toList args.toList ds p:=hA0;rw [Tryz.params5] at hA hval;obtain ⟨v0,vs0,d0,ds0,p0,q0,hargs,rfl,rfl,h0,r0⟩:=trodAll_cons hA;obtain ⟨v1,vs1,d1,ds1,p1,q1,rfl,rfl,rfl,h1,r1⟩:=trodAll_cons r0;obtain ⟨v2,vs2,d2,ds2,p2,q2,rfl,rfl,rfl,h2,r2⟩:=trodAll_cons r1;obtain ⟨v3,vs3,d3,ds3,p3,q3,rfl,rfl,rfl,h3,r3⟩:=trodAll_cons r2;obtain ⟨rfl,rfl,rfl⟩:=trodAll_nil r3;obtain rfl:args=#[v0,v1,v2,v3]:=by cases args; simp_all
 obtain ⟨rfl,rfl⟩:=trodVars_none hV;have k0:=h0;have lt0:∀ x ∈ p0,x.block < W.heap.size:=by obtain ⟨m,hm⟩:=k0; exact DataW.trod_lt m _ _ _ hm
 obtain ⟨ad0,len0,cap0,hv0⟩:=okWide_slice Tryz.underlying22 (hval 0 22 v0 rfl rfl);subst hv0;obtain ⟨fuel0,hf0⟩:=h0;obtain ⟨rs0,hl0,hsl0,hft0,hm0⟩:=Fs (by simpa [Value.cells] using hf0);subst hl0;have k1:=h1;have lt1:∀ x ∈ p1,x.block < W.heap.size:=by obtain ⟨m,hm⟩:=k1; exact DataW.trod_lt m _ _ _ hm
 obtain ⟨ad1,len1,cap1,hv1⟩:=okWide_slice Tryz.underlying23 (hval 1 23 v1 rfl rfl);subst hv1;obtain ⟨fuel1,hf1⟩:=h1;obtain ⟨ts1,hl1,hsl1,hft1,hm1⟩:=Iu (by simpa [Value.cells] using hf1);subst hl1;have k2:=h2;have lt2:∀ x ∈ p2,x.block < W.heap.size:=by obtain ⟨m,hm⟩:=k2; exact DataW.trod_lt m _ _ _ hm
 obtain ⟨a2,b2,hv2,wa2,wb2⟩:=KA (hval 2 40 v2 rfl rfl) h2;subst hv2;have k3:=h3;have lt3:∀ x ∈ p3,x.block < W.heap.size:=by obtain ⟨m,hm⟩:=k3; exact DataW.trod_lt m _ _ _ hm
 obtain ⟨s3,hv3,-,-,hs3⟩:=open_string Tryz.underlying9 (hval 3 9 v3 rfl rfl) h3;subst hv3;clear hA0 hval0
 haveI:DecidableEq Fc:=fun x y=>Classical.propDecidable (x=y)
 refine (walk ad0 cap0 rs0 ad1 cap1 ts1 a2 b2 s3 W hm0 hsl0 hft0 hm1 hsl1 hft1 wa2 wb2 hs3).mono fun e W' ⟨he,bel⟩=>?_;subst he;exact ⟨_,rfl,_,_,_,[],_,[],hW',trodAll_mk1 (shut_bool Tryz.underlying4 _),(trodAll_cons_mk (Below.trod laidOut (by kernel_rfl) (of_decide_eq_true (by kernel_rfl)) k0 bel lt0) (trodAll_cons_mk (Below.trod laidOut (by kernel_rfl) (of_decide_eq_true (by kernel_rfl)) k1 bel lt1) (trodAll_cons_mk (Below.trod laidOut (by kernel_rfl) (of_decide_eq_true (by kernel_rfl)) k2 bel lt2) (trodAll_cons_mk (Below.trod laidOut (by kernel_rfl) (of_decide_eq_true (by kernel_rfl)) k3 bel lt3) trodAll_mk0)))),rfl,bel.frame _,fun h=>by cases h⟩
theorem over:Rows.fnExactUsersOfRow.holds Tryz.pinned (OpenSpec.ofChange Rows.fnExactUsersOfSpec) :=
 OpenClaim.holds_of_wide 5 Tryz.f5 rfl rfl rfl rfl rfl rfl rfl ⟨rfl,rfl,rfl,rfl,rfl⟩ rfl rfl rfl rfl rfl (by kernel_rfl) Tryz.func5 (by kernel_rfl)
  (of_decide_eq_true (by kernel_rfl)) (by unfold Func.isWrapper; first | (rw [if_pos (by decide +kernel)]; kernel_rfl) | (rw [if_neg (by decide +kernel)]; exact ⟨rfl,rfl⟩))
  (fun os started H enc _=>lifted os started H enc)
end Go.Proofs.YtogjfppkbkgaeaaGreat.fnExactUsersOf
namespace Go.Proofs.YtogjfppkbkgaeaaGreat
theorem FnExactUsersOf_holds:Rows.FnExactUsersOfSaid:=fnExactUsersOf.over
end Go.Proofs.YtogjfppkbkgaeaaGreat
