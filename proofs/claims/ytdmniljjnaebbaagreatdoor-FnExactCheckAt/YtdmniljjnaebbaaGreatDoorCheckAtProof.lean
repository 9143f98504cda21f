/- Proved here: FnExactCheckAt answers true for every slice of types, every log, every place and every fact and leaves them as they were, where the five variables of errors hold errors. -/
import Derived.Test.YtdmniljjnaebbaaGreatDoorJ38
import Derived.Test.YtdmniljjnaebbaaGreatDoorCards
import Derived.Test.YtdmniljjnaebbaaGreatDoorTie
import Derived.Test.YtdmniljjnaebbaaGreatDoorJ39
import Derived.LaidMore
import Derived.Lay
import Derived.Stop.Joined
import Derived.RowKitTokens
import Derived.ChangeVars
open Go.Proofs.Tryz
set_option maxHeartbeats 80000000
namespace Go.Proofs.YtdmniljjnaebbaaGreatDoor.fnExactCheckAt
open Go.ChangeShapes Go.WideShapes Go.ChangeAt Go.RowKit Go.Joins
open Go.ChangeMaps (open_string shut_string)
open Pl
set_option linter.unusedVariables false
set_option linter.unusedSectionVars false
theorem Oa {rs rs':List ER} {p:Ex→Prop} (h:ag rs'=ag rs) (hp:∀ r ∈ rs,p r.e):∀ r ∈ rs',p r.e:=by
 intro r hr;have h1:r.e ∈ ag rs':=List.mem_map.2 ⟨r,hr,rfl⟩;rw [h] at h1;obtain ⟨q,hq,e⟩:=List.mem_map.1 h1;rw [← e];exact hp q hq
theorem Ob {rs rs':List RR} (h:di rs'=di rs):∀ r ∈ rs',∃ q ∈ rs,q.name=r.name∧ag r.rows=ag q.rows:=by
 intro r hr;have h1:r.p ∈ di rs':=List.mem_map.2 ⟨r,hr,rfl⟩;rw [h] at h1;obtain ⟨q,hq,e⟩:=List.mem_map.1 h1;injection e with e1 e2;exact ⟨q,hq,e1,e2.symm⟩
theorem Oc {rs rs':List TR} (h:af rs'=af rs):∀ r ∈ rs',∃ q ∈ rs,q.name=r.name∧di r.rows=di q.rows:=by
 intro r hr;have h1:r.p ∈ af rs':=List.mem_map.2 ⟨r,hr,rfl⟩;rw [h] at h1;obtain ⟨q,hq,e⟩:=List.mem_map.1 h1;injection e with e1 e2;exact ⟨q,hq,e1,e2.symm⟩
theorem FU {rs rs':List TR} (h:af rs'=af rs) (hl:∀ r ∈ rs,r.light):∀ r ∈ rs',r.light:=by
 intro r hr;obtain ⟨q,hq,-,e⟩:=Oc h r hr;have h1:=hl q hq;refine ⟨by rw [← fK,e,fK]; exact h1.1,fun x hx=>?_⟩;obtain ⟨y,hy,-,e2⟩:=Ob e x hx;have h2:=h1.2 y hy;exact ⟨by rw [← aP,e2,aP]; exact h2.1,Oa e2 h2.2⟩
theorem MO {rs rs':List TR} (h:af rs'=af rs) (hl:∀ r ∈ rs,r.fits):∀ r ∈ rs',r.fits:=by
 intro r hr;obtain ⟨q,hq,en,e⟩:=Oc h r hr;have h1:=hl q hq;refine ⟨by rw [← en]; exact h1.1,by rw [← fK,e,fK]; exact h1.2.1,fun x hx=>?_⟩;obtain ⟨y,hy,en2,e2⟩:=Ob e x hx;have h2:=h1.2.2 y hy;exact ⟨by rw [← en2]; exact h2.1,by rw [← aP,e2,aP]; exact h2.2.1,Oa e2 h2.2.2⟩
theorem Nv {rs rs':List TR} (h:af rs'=af rs):rs'.length=rs.length:=by rw [← fB,h,fB]
theorem gy {w W w':World} {B:Nat} (h:Below B w W) (hB:B≤W.heap.size) (hb:Below W.heap.size W w'):Below B w w':=h.trans (hb.mono hB)
theorem Nw {P:Nat→Prop} (h:∃ n,P n):∃ n,P n∧∀ m,P m→n≤m:=by
 obtain ⟨n,hn⟩:=h
 induction n using Nat.strongRecOn with
 | ind n ih =>
  by_cases hx:∃ m,m < n∧P m
  ·obtain ⟨m,hm,hp⟩:=hx;exact ih m hm hp
  ·exact ⟨n,hn,fun m hm=>Nat.le_of_not_lt fun hlt=>hx ⟨m,hlt,hm⟩⟩
theorem Ld {ts:List Ty} (h:∃ f,Sol ts f):∃ f,Least ts f:=by
 have key:∀ k,∃ n:Nat,(∃ g,Sol ts g∧g k=(n:Int))∧∀ m:Nat,(∃ g,Sol ts g∧g k=(m:Int))→n≤m:=fun k=>Nw (by
  obtain ⟨f,hf⟩:=h;exact ⟨(f k).toNat,f,hf,by have:=hf.pos k; omega⟩)
 have low:∀ k g,Sol ts g→(((key k).choose:Nat):Int)≤g k:=fun k g hg=>by
  have h1:=(key k).choose_spec.2 (g k).toNat ⟨g,hg,by have:=hg.pos k; omega⟩;have:=hg.pos k;omega
 refine ⟨fun k=>(((key k).choose:Nat):Int),⟨fun k=>Int.natCast_nonneg _,fun k hk d hd=>?_⟩,fun k hk g hg=>low k g hg⟩;obtain ⟨g,hg,e⟩:=(key k).choose_spec.1;have h1:=low (d.typ,d.rel) g hg;have h2:=hg.up k hk d hd;show (((key (d.typ,d.rel)).choose:Nat):Int) + stepOf d≤(((key k).choose:Nat):Int);rw [← e];exact Int.le_trans (Int.add_le_add_right h1 _) h2
theorem Od (ts:List Ty):∃ st,aI ts=true→Least ts st:=by
 by_cases h:aI ts=true
 ·obtain ⟨st,hst⟩:=Ld (bI.1 h).2.2;exact ⟨st,fun _=>hst⟩
 ·exact ⟨fun _=>0,fun h2=>absurd h2 h⟩
theorem FV [DecidableEq Fc] {st:ByteArray × ByteArray→Int} {rs rs':List TR} {ts:List Tp} (h:af rs'=af rs):dh st rs' ts=dh st rs ts:=by
 have e:iG rs'=iG rs:=by funext t; unfold iG; rw [h]
 unfold dh bv lZ;rw [e,h]
theorem D8 [DecidableEq Fc] {st:ByteArray × ByteArray→Int} {rs rs':List TR} {cs:List (Int × Tp)} {n:Int} {f:Fc} (h:af rs'=af rs):yO st rs' cs n f=yO st rs cs n f:=by
 unfold yO;rw [(ve h cs n).1,(ve h cs n).2,FV h]
set_option maxRecDepth 100000 in
theorem walk [DecidableEq Fc] (ad:Option Addr) (cap:Nat) (rs:List TR) (ad':Option Addr) (cap':Nat) (cs:List (Int × Tp)) (n0:Int) (a b r c d:ByteArray) (w:World) (hE:yw w) (hmr:rs.length≤maxLen) (hs:fo w ad rs) (hf:∀ r ∈ rs,r.fits) (hm:cs.length≤maxLen) (hst:JC w ad' cs) (hft:∀ c ∈ cs,c.2.fits) (ha:a.size≤maxLen) (hb:b.size≤maxLen) (hr:r.size≤maxLen) (hc:c.size≤maxLen) (hd:d.size≤maxLen) :
    Calls prog 4 #[.slice ad rs.length cap,.slice ad' cs.length cap',.int .i64 n0,.agg #[.string a,.string b,.string r,.string c,.string d]] w fun e w'=>e=.returned (.bool true)∧Below w.heap.size w w':=by
  obtain ⟨st,hst0⟩:=Od (af rs);have HLE:=mi hst0;have HS:=mi hs;have HF:=mi hf;have HST:=mi hst;have HFT:=mi hft;have HER:=mi hE;clear hE;clear hs hf hst hft hst0;obtain ⟨W0,hW0⟩:∃ W0,W0=w.alloc (.cells #[.string a,.string b,.string r,.string c,.string d] 55):=⟨_,rfl⟩;have HB0:=mq hW0;have hx0:W0.heap[w.heap.size]?=some (.cells #[.string a,.string b,.string r,.string c,.string d] 55 (0,0)):=by rw [hW0]; exact World.alloc_heap_new w _
  have HK0:=mi (show W0.cell? ⟨w.heap.size,0,none⟩=some (.string a)∧W0.cell? ⟨w.heap.size,1,none⟩=some (.string b)∧W0.cell? ⟨w.heap.size,2,none⟩=some (.string r)∧W0.cell? ⟨w.heap.size,3,none⟩=some (.string c)∧W0.cell? ⟨w.heap.size,4,none⟩=some (.string d)∧Below w.heap.size w W0 from ⟨by simp [World.cell?,hx0],by simp [World.cell?,hx0],by simp [World.cell?,hx0],by simp [World.cell?,hx0],by simp [World.cell?,hx0],HB0.out⟩);clear hx0;go_enter func4,ntmps4;go_wp2_with fail;rw [← hW0];clear hW0;refine (IY ad cap rs 1048576 _ hmr (HS.out.below HB0.out) HF.out (by omega) (by omega)).mono ?_;rintro e w1 ⟨⟨n,rfl,hn⟩,hb1⟩;have HB1:Hid (Below w.heap.size w w1):=gy HB0.out HB0.out.size hb1;have HK1:=mi (jO HK0.out hb1);clear hb1 HB0 HK0;rcases hn with rfl | ⟨hn0,hn1,hn2,hn3⟩
  · go_wp2;go_ret;exact ⟨rfl,HB1.out⟩
  have HL:=mi hn3;have hlen:rs.length≤1048576:=by omega
  clear hn3 hn2;go_wp2_with fail;refine (yz ad' cap' cs n _ hm (HST.out.below HB1.out) HFT.out (by omega) (by omega)).mono ?_;rintro e w2 ⟨⟨m,rfl,hq⟩,hb2⟩;have HB2:Hid (Below w.heap.size w w2):=gy HB1.out HB1.out.size hb2;obtain ⟨k0,k1,k2,k3,k4,-⟩:=jO HK1.out hb2;have HK2:=mi (jO HK1.out hb2);have hkn:w.heap.size < w2.heap.size:=aA k0;clear HK1;clear hb2 HB1;rcases hq with rfl | ⟨hq0,hq1,hq2⟩
  · go_wp2;go_ret;exact ⟨rfl,HB2.out⟩
  have hlt:cs.length≤1048576:=by omega
  have hm1:m≤1048576:=by omega
  clear hq2 hq1 hn1;go_wp2_with fail;refine (FT a b r c d m _ ha hb hr hc hd hq0 hm1).mono ?_;rintro e w2f ⟨rfl,hb2f⟩;have HB2f:Hid (Below w.heap.size w w2f):=gy HB2.out HB2.out.size hb2f;have HK2f:=mi (jO HK2.out hb2f);clear HK2 k0 k1 k2 k3 k4 hkn;clear hb2f HB2;obtain ⟨z,hz⟩:∃ z,z=nN a b r c d m:=⟨_,rfl⟩;rw [← hz];have hz1:z≤1048576∧-1≤z:=by
    have h1:=K9 a b r c d m;have h2:-1≤nN a b r c d m:=by
      unfold nN;split
      · omega
      split
      · omega
      split <;> omega
    rw [← hz] at h1 h2;omega
  clear hz;by_cases hz0:z < 0
  · go_wp2;go_ret;exact ⟨rfl,HB2f.out⟩
  clear ha hb hr hc hd;obtain ⟨v,hv⟩:∃ v,yO st rs cs n0 ⟨a,b,r,c,d⟩=v:=⟨_,rfl⟩;obtain ⟨q,hQ⟩:∃ q,p8 rs cs n0=q:=⟨_,rfl⟩;have HV:=mi hv;have HQ:=mi hQ;clear hv hQ;obtain ⟨k0,k1,k2,k3,k4,kB⟩:=HK2f.out;clear HK2f HB2f;go_wp2_with fail
  go_region_held3 (fun w'=>w'.cell? ⟨w.heap.size,0,none⟩=some (.string a)∧w'.cell? ⟨w.heap.size,1,none⟩=some (.string b)∧w'.cell? ⟨w.heap.size,2,none⟩=some (.string r)∧w'.cell? ⟨w.heap.size,3,none⟩=some (.string c)∧w'.cell? ⟨w.heap.size,4,none⟩=some (.string d)∧Below w.heap.size w w')
    (first | assumption | exact jO (by assumption) hbx | exact ⟨k0,k1,k2,k3,k4,kB.drew⟩)
    (first
     | (go_at_call 9; refine (nM ad cap rs _ hlen (HS.out.below (And.right (And.right (And.right (And.right (And.right (by assumption))))))) HL.out).mono ?_; rintro e w3 ⟨rs1,rfl,he1,hs1,-,-,hbx⟩; have HE1:=mi he1; have HS1:=mi hs1; clear he1 hs1)
     | (go_at_call 23; refine (kv ad' cap' cs _ hlt (HST.out.below (And.right (And.right (And.right (And.right (And.right (by assumption)))))))).mono ?_; rintro e w4 ⟨rfl,F4⟩; have hbx:=F4.below; have HS1b:=mi (HS1.out.below hbx); have HF4:=mi F4.sl; clear F4)
     | (go_at_call 24; refine (xZ a b r c d _).mono ?_; rintro e w5 ⟨rfl,hbx⟩; have HS1c:=mi (HS1b.out.below hbx); have HF4c:=mi (HF4.out.below hbx))
     | (go_at_call 22; refine (uL st _ _ rs1 _ _ cs n0 ⟨a,b,r,c,d⟩ _ (by rw [Nv HE1.out]; exact hlen) HS1c.out (FU HE1.out HL.out) (MO HE1.out HF.out) hlt HF4c.out HFT.out (fun h=>by rw [HE1.out] at h ⊢; exact HLE.out h)).mono ?_; rintro e w6 ⟨he5,hbx⟩; rw [D8 HE1.out,HV.out,(ve HE1.out cs n0).2,HQ.out] at he5; subst he5))
  rename_i hJ;have HK5:=mi hJ;have Cw_w5:=mi hJ.2.2.2.2.2;clear hJ;go_wp2_with fail;refine (nM ad cap rs _ hlen (HS.out.below Cw_w5.out) HL.out).mono ?_;rintro e w6 ⟨rs2,rfl,he2,hs2,hc2,hnw2,hb6⟩;have HE2:=mi he2;have HS2:=mi hs2;have HC2:=mi hc2;have Cw_w6:Hid (Below w.heap.size w w6):=gy Cw_w5.out Cw_w5.out.size hb6;have HK6:=mi (jO HK5.out hb6);clear HK5;have Cw6_w6:Hid (Below w6.heap.size w6 w6):=Below.refl _ _;clear hb6 he2 hs2 hc2 hnw2 Cw_w5;go_wp2_with fail;refine (kv ad' cap' cs _ hlt (HST.out.below Cw_w6.out)).mono ?_;rintro e w7 ⟨rfl,F7⟩;have HF7:=mi F7;have Cw_w7:Hid (Below w.heap.size w w7):=gy Cw_w6.out Cw_w6.out.size F7.below;obtain ⟨k0,k1,k2,k3,k4,-⟩:=jO HK6.out F7.below;have hkn:w.heap.size < w7.heap.size:=aA k0;clear HK6;have Cw6_w7:Hid (Below w6.heap.size w6 w7):=F7.below;have Cw7_w7:Hid (Below w7.heap.size w7 w7):=Below.refl _ _;clear F7 Cw_w6;go_wp2_with fail;refine (xZ a b r c d _).mono ?_;rintro e w7f ⟨rfl,hb7f⟩;have Cw_w7f:Hid (Below w.heap.size w w7f):=gy Cw_w7.out Cw_w7.out.size hb7f;have Cw6_w7f:Hid (Below w6.heap.size w6 w7f):=gy Cw6_w7.out Cw6_w7.out.size hb7f;have Cw7_w7f:Hid (Below w7.heap.size w7 w7f):=hb7f;clear k0 k1 k2 k3 k4 hkn;clear hb7f Cw_w7 Cw6_w7 Cw7_w7;go_wp2_with fail;refine (uM st _ _ rs2 _ _ _ cs n0 ⟨a,b,r,c,d⟩ _ (HER.out.below Cw_w7f.out) (by rw [Nv HE2.out]; exact hlen) (HS2.out.below Cw6_w7f.out) (FU HE2.out HL.out) (MO HE2.out HF.out) HC2.out hlt (Nat.le_refl _) (HF7.out.later Cw7_w7f.out).lt (HF7.out.later Cw7_w7f.out).row HFT.out (fun h=>by rw [HE2.out] at h ⊢; exact HLE.out h)).mono ?_;rintro e w8 ⟨he8,hb8⟩;rw [D8 HE2.out,HV.out,(ve HE2.out cs n0).2,HQ.out] at he8;subst he8;have Cw_w8:Hid (Below w.heap.size w w8):=gy Cw_w7f.out Cw_w7f.out.size hb8;have Cw6_w8:Hid (Below w6.heap.size w6 w8):=gy Cw6_w7f.out Cw6_w7f.out.size hb8;have Cw7_w8:Hid (Below w7.heap.size w7 w8):=gy Cw7_w7f.out Cw7_w7f.out.size hb8;clear hb8 Cw_w7f Cw6_w7f Cw7_w7f;clear HV HQ;have hvv:(v != v)=false:=by cases v <;> rfl
  have hqq:(q != q)=false:=by cases q <;> rfl
  go_wp2_with fail;refine (nM ad cap rs _ hlen (HS.out.below Cw_w8.out) HL.out).mono ?_;rintro e w10 ⟨rs3,rfl,he3,hs3,-,-,hb10⟩;have Cw_w10:Hid (Below w.heap.size w w10):=gy Cw_w8.out Cw_w8.out.size hb10;have Cw6_w10:Hid (Below w6.heap.size w6 w10):=gy Cw6_w8.out Cw6_w8.out.size hb10;have Cw7_w10:Hid (Below w7.heap.size w7 w10):=gy Cw7_w8.out Cw7_w8.out.size hb10;have HE3:=mi he3;have HS3:=mi hs3;clear hb10 he3 hs3 Cw_w8 Cw6_w8 Cw7_w8;go_wp2_with fail;refine (BG _ _ _ _ rs2 rs3 _ (by rw [Nv HE2.out]; exact hlen) (by rw [HE3.out,HE2.out]) (HS2.out.below Cw6_w10.out) HS3.out (FU HE2.out HL.out)).mono ?_;rintro e w11 ⟨rfl,hb11⟩;have Cw_w11:Hid (Below w.heap.size w w11):=gy Cw_w10.out Cw_w10.out.size hb11;have Cw7_w11:Hid (Below w7.heap.size w7 w11):=gy Cw7_w10.out Cw7_w10.out.size hb11;clear hb11 HS3 Cw_w10 Cw6_w10 Cw7_w10;go_wp2_with fail;refine (kv ad' cap' cs _ hlt (HST.out.below Cw_w11.out)).mono ?_;rintro e w12 ⟨rfl,F12⟩;have HG12:=mi F12;have Cw_w12:Hid (Below w.heap.size w w12):=gy Cw_w11.out Cw_w11.out.size F12.below;have Cw7_w12:Hid (Below w7.heap.size w7 w12):=gy Cw7_w11.out Cw7_w11.out.size F12.below;clear F12 Cw_w11 Cw7_w11;go_wp2_with fail;refine (yF _ _ _ _ _ _ cs _ hm (HF7.out.later Cw7_w12.out).row (HF7.out.later Cw7_w12.out).lt HG12.out.row HG12.out.lt).mono ?_;rintro e w13 ⟨rfl,hb13⟩;have Cw_w13:Hid (Below w.heap.size w w13):=gy Cw_w12.out Cw_w12.out.size hb13;clear hb13 HG12 Cw_w12 Cw7_w12;go_wp2;go_ret;exact ⟨rfl,Cw_w13.out⟩
theorem own:ownKnob prog.godebug=none:=by kernel_rfl
theorem laidOut:laidOutB prog=true:=by kernel_rfl
abbrev nm (i:Nat):String:=(Rows.fnExactCheckAtSpec.vars[i]?).getD default
theorem n2:prog.globalNamed (nm 0)=some 2:=by kernel_rfl
theorem n3:prog.globalNamed (nm 2)=some 3:=by kernel_rfl
theorem n4:prog.globalNamed (nm 3)=some 4:=by kernel_rfl
theorem n5:prog.globalNamed (nm 1)=some 5:=by kernel_rfl
theorem n6:prog.globalNamed (nm 4)=some 6:=by kernel_rfl
theorem t2:(prog.globals[2]?).map (·.type)=some 98:=by kernel_rfl
theorem t3:(prog.globals[3]?).map (·.type)=some 98:=by kernel_rfl
theorem t4:(prog.globals[4]?).map (·.type)=some 98:=by kernel_rfl
theorem t5:(prog.globals[5]?).map (·.type)=some 98:=by kernel_rfl
theorem t6:(prog.globals[6]?).map (·.type)=some 98:=by kernel_rfl
theorem yf {l:Array Value} {u:TypeId} {v:Value} (h:l.toList=[.iface u v]):l=#[.iface u v]:=by
 rw [← Array.toArray_toList (xs:=l),h]
theorem Mv {W:World} (h:laidMetH prog Rows.fnExactCheckAtRow.laid W) :
  ∃ (u2 u3 u4 u5 u6:TypeId) (v2 v3 v4 v5 v6:Value),W.var? prog (nm 0)=some #[.iface u2 v2]∧W.var? prog (nm 2)=some #[.iface u3 v3]∧W.var? prog (nm 3)=some #[.iface u4 v4]∧W.var? prog (nm 1)=some #[.iface u5 v5]∧W.var? prog (nm 4)=some #[.iface u6 v6]:=by
 rw [MakeChecks.laidMetH_plain _ _ _ (by kernel_rfl)] at h;obtain ⟨ps,⟨g0,k0,cs0,f0,p0,q0,hg0,ht0,hv0,hd0,⟨g1,k1,cs1,f1,p1,q1,hg1,ht1,hv1,hd1,⟨g2,k2,cs2,f2,p2,q2,hg2,ht2,hv2,hd2,⟨g3,k3,cs3,f3,p3,q3,hg3,ht3,hv3,hd3,⟨g4,k4,cs4,f4,p4,q4,hg4,ht4,hv4,hd4,_,_⟩,_⟩,_⟩,_⟩,_⟩,_,_⟩:=h;obtain rfl:=Option.some.inj (n2.symm.trans hg0);obtain rfl:=Option.some.inj (n3.symm.trans hg1);obtain rfl:=Option.some.inj (n4.symm.trans hg2);obtain rfl:=Option.some.inj (n5.symm.trans hg3);obtain rfl:=Option.some.inj (n6.symm.trans hg4);obtain rfl:=Option.some.inj (t2.symm.trans ht0);obtain rfl:=Option.some.inj (t3.symm.trans ht1);obtain rfl:=Option.some.inj (t4.symm.trans ht2);obtain rfl:=Option.some.inj (t5.symm.trans ht3);obtain rfl:=Option.some.inj (t6.symm.trans ht4);obtain ⟨_,u2,v2,e0,_,_⟩:=iface_of_trod underlying98 hd0;obtain ⟨_,u3,v3,e1,_,_⟩:=iface_of_trod underlying98 hd1;obtain ⟨_,u4,v4,e2,_,_⟩:=iface_of_trod underlying98 hd2;obtain ⟨_,u5,v5,e3,_,_⟩:=iface_of_trod underlying98 hd3;obtain ⟨_,u6,v6,e4,_,_⟩:=iface_of_trod underlying98 hd4;rw [yf e0] at hv0;rw [yf e1] at hv1;rw [yf e2] at hv2;rw [yf e3] at hv3;rw [yf e4] at hv4;exact ⟨u2,u3,u4,u5,u6,v2,v3,v4,v5,v6,hv0,hv1,hv2,hv3,hv4⟩
theorem ll {W W':World} {n:String} {cs:Array Value} (h:W.var? prog n=some cs) (hb:Below W.heap.size W W'):W'.var? prog n=some cs:=by
 unfold World.var? at h ⊢;cases hg:prog.globalNamed n with
 | none=>simp [hg] at h
 | some g =>
  simp only [hg,Option.bind_some] at h ⊢;have hlt:g < W.heap.size:=by
   rcases Nat.lt_or_ge g W.heap.size with h' | h'
   ·exact h'
   ·simp [Array.getElem?_eq_none h'] at h
  rw [hb.block g hlt];exact h
theorem Aj {H:Type} (enc:TypeId × Value→H) {W:World} {x2 x3 x4 x5 x6:Value} (h2:W.var? prog (nm 0)=some #[x2]) (h3:W.var? prog (nm 2)=some #[x3]) (h4:W.var? prog (nm 3)=some #[x4]) (h5:W.var? prog (nm 1)=some #[x5]) (h6:W.var? prog (nm 4)=some #[x6]) (i2:IsIface x2) (i3:IsIface x3) (i4:IsIface x4) (i5:IsIface x5) (i6:IsIface x6) (sp:Nat→Bool) :
  DataW.TrodVars enc prog W sp Rows.fnExactCheckAtSpec.vars [tok enc x2,tok enc x5,tok enc x3,tok enc x4,tok enc x6] [.cell 2 0,.cell 5 0,.cell 3 0,.cell 4 0,.cell 6 0] :=
 ⟨2,98,#[x2],1,[],_,n2,t2,h2,trod_held underlying98 i2 0,
  ⟨5,98,#[x5],1,[],_,n5,t5,h5,trod_held underlying98 i5 0,
   ⟨3,98,#[x3],1,[],_,n3,t3,h3,trod_held underlying98 i3 0,
    ⟨4,98,#[x4],1,[],_,n4,t4,h4,trod_held underlying98 i4 0,
     ⟨6,98,#[x6],1,[],[],n6,t6,h6,trod_held underlying98 i6 0,rfl,rfl⟩,rfl⟩,rfl⟩,rfl⟩,rfl⟩
set_option maxRecDepth 100000 in
theorem lifted (os:Os) (started:os.Started) (H:Type) (enc:TypeId × Value→H) :
  ReturnsInHanded {} Tryz.checked os 4 .any (fun w args=>(Rows.fnExactCheckAtSpec.pre enc prog Tryz.f4 Rows.fnExactCheckAtRow.domain false w args∧laidMetH prog Rows.fnExactCheckAtRow.laid w)∧sizedMet enc prog Tryz.f4 (OpenSpec.ofChange Rows.fnExactCheckAtSpec) false w args)
   (Rows.fnExactCheckAtSpec.post enc prog Tryz.f4 false true false false):=by
 refine returnsInHanded_of_change_and (C:=Tryz.checked) (X:=fun w _=>laidMetH prog Rows.fnExactCheckAtRow.laid w) (fun _ _ _ hh h=>h.of_heap hh) own started (by kernel_rfl) func4
  (ChangeSpec.witness_shaped (enc:=enc) (C:=Tryz.checked) (os:=os) (X:=fun w _=>laidMetH prog Rows.fnExactCheckAtRow.laid w) false (World.laidAll prog os Rows.fnExactCheckAtRow.laid) #[.slice none 0 0,.slice none 0 0,.int .i64 0,.agg #[.string ByteArray.empty,.string ByteArray.empty,.string ByteArray.empty,.string ByteArray.empty,.string ByteArray.empty]] 8 (World.laidAll_os _ _ _)
   (World.shaped_of_ZipB (by kernel_rfl) (by kernel_rfl)) (by kernel_rfl) (by kernel_rfl) (by kernel_rfl)
   (by rw [MakeChecks.laidMetH_plain _ _ _ (by kernel_rfl)]; exact laidMet_laidAll _ (by kernel_rfl) (by kernel_rfl))) ?_
 intro W base args ds gs before hval0 hW _ _ hL _;have hval:∀ (j:Nat) t v,Tryz.f4.params[j]?=some t→args[j]?=some v→Value.okWide prog W .any base t v:=hval0;have hW':=hW;obtain ⟨p,q,hA0,hV,rfl,hfz,hnd⟩:=hW;have hA:DataW.TrodAll enc prog W 0 (fun _=>true) true Tryz.f4.params.toList args.toList ds p:=hA0;rw [Tryz.params4] at hA hval;obtain ⟨v0,vs0,d0,ds0,p0,q0,hargs,rfl,rfl,h0,r0⟩:=trodAll_cons hA;obtain ⟨v1,vs1,d1,ds1,p1,q1,rfl,rfl,rfl,h1,r1⟩:=trodAll_cons r0;obtain ⟨v2,vs2,d2,ds2,p2,q2,rfl,rfl,rfl,h2,r2⟩:=trodAll_cons r1;obtain ⟨v3,vs3,d3,ds3,p3,q3,rfl,rfl,rfl,h3,r3⟩:=trodAll_cons r2;obtain ⟨rfl,rfl,rfl⟩:=trodAll_nil r3;obtain rfl:args=#[v0,v1,v2,v3]:=by cases args; simp_all
 obtain ⟨y2,y3,y4,y5,y6,z2,z3,z4,z5,z6,e2,e3,e4,e5,e6⟩:=Mv hL;obtain ⟨rfl,rfl⟩:=hV.unique (Aj enc e2 e3 e4 e5 e6 trivial trivial trivial trivial trivial _);have k0:=h0;have lt0:∀ x ∈ p0,x.block < W.heap.size:=by obtain ⟨m,hm⟩:=k0; exact DataW.trod_lt m _ _ _ hm
 obtain ⟨ad0,len0,cap0,hv0⟩:=okWide_slice underlying22 (hval 0 22 v0 rfl rfl);subst hv0;obtain ⟨fuel0,hf0⟩:=h0;obtain ⟨rs0,hl0,hsl0,hft0,hm0⟩:=FR (by simpa [Value.cells] using hf0);subst hl0;have k1:=h1;have lt1:∀ x ∈ p1,x.block < W.heap.size:=by obtain ⟨m,hm⟩:=k1; exact DataW.trod_lt m _ _ _ hm
 obtain ⟨ad1,len1,cap1,hv1⟩:=okWide_slice underlying53 (hval 1 53 v1 rfl rfl);subst hv1;obtain ⟨fuel1,hf1⟩:=h1;obtain ⟨cs1,hl1,hsl1,hft1,hm1⟩:=I8 (by simpa [Value.cells] using hf1);subst hl1;obtain ⟨n0,rfl,rfl,rfl,wn⟩:=open_int underlying2 (hval 2 2 v2 rfl rfl) h2;have k3:=h3;have lt3:∀ x ∈ p3,x.block < W.heap.size:=by obtain ⟨m,hm⟩:=k3; exact DataW.trod_lt m _ _ _ hm
 obtain ⟨xa3,xb3,xr3,xc3,xd3,hv3,wa3,wb3,wr3,wc3,wd3⟩:=Lc (hval 3 55 v3 rfl rfl) h3;subst hv3;have c2:W.cell? ⟨2,0,none⟩=some (.iface y2 z2):=by simpa using World.var?_cell n2 e2 0
 have c3:W.cell? ⟨3,0,none⟩=some (.iface y3 z3):=by simpa using World.var?_cell n3 e3 0
 have c4:W.cell? ⟨4,0,none⟩=some (.iface y4 z4):=by simpa using World.var?_cell n4 e4 0
 have c5:W.cell? ⟨5,0,none⟩=some (.iface y5 z5):=by simpa using World.var?_cell n5 e5 0
 have c6:W.cell? ⟨6,0,none⟩=some (.iface y6 z6):=by simpa using World.var?_cell n6 e6 0
 have hE:yw W:=fun g hg2 hg6=>by
  have hc:g=2 ∨ g=3 ∨ g=4 ∨ g=5 ∨ g=6:=by omega
  repeat' rcases hc with rfl | hc
  ·exact ⟨aA c2,_,_,c2⟩
  ·exact ⟨aA c3,_,_,c3⟩
  ·exact ⟨aA c4,_,_,c4⟩
  ·exact ⟨aA c5,_,_,c5⟩
  ·exact ⟨aA c6,_,_,c6⟩
 clear hA0 hval0
 haveI:DecidableEq Fc:=fun x y=>Classical.propDecidable (x=y)
 refine (walk ad0 cap0 rs0 ad1 cap1 cs1 n0 xa3 xb3 xr3 xc3 xd3 W hE hm0 hsl0 hft0 hm1 hsl1 hft1 wa3 wb3 wr3 wc3 wd3).mono fun e W' ⟨he,bel⟩=>?_;subst he;exact ⟨_,rfl,_,_,_,[],_,_,hW',trodAll_mk1 (shut_bool underlying4 _),(trodAll_cons_mk (Below.trod laidOut (by kernel_rfl) (of_decide_eq_true (by kernel_rfl)) k0 bel lt0) (trodAll_cons_mk (Below.trod laidOut (by kernel_rfl) (of_decide_eq_true (by kernel_rfl)) k1 bel lt1) (trodAll_cons_mk (shut_int underlying2 wn) (trodAll_cons_mk (Below.trod laidOut (by kernel_rfl) (of_decide_eq_true (by kernel_rfl)) k3 bel lt3) trodAll_mk0)))),Aj enc (ll e2 bel) (ll e3 bel) (ll e4 bel) (ll e5 bel) (ll e6 bel) trivial trivial trivial trivial trivial _,bel.frame _,fun h=>by cases h⟩
theorem over:Rows.fnExactCheckAtRow.holds Tryz.pinned (OpenSpec.ofChange Rows.fnExactCheckAtSpec) :=
 OpenClaim.holds_of_wide 4 Tryz.f4 rfl rfl rfl rfl rfl rfl rfl ⟨rfl,rfl,rfl,rfl,rfl⟩ rfl rfl rfl rfl rfl (by kernel_rfl) func4 (by kernel_rfl)
  (of_decide_eq_true (by kernel_rfl)) (by unfold Func.isWrapper; first | (rw [if_pos (by decide +kernel)]; kernel_rfl) | (rw [if_neg (by decide +kernel)]; exact ⟨rfl,rfl⟩))
  (fun os started H enc _=>lifted os started H enc)
theorem card:Rows.FnExactCheckAtCardSaid :=
 Claim7.holds_tied_plain_at .later [] [.sentinel,.sentinel,.sentinel,.sentinel,.sentinel] true _ true over (fun _ h=>by cases h) (by kernel_rfl) (fun _ h=>by cases h) fnExactCheckAt_row_tie rfl ⟨rfl,rfl⟩ (by kernel_rfl) rfl
  (fun f fn hf hfn=>by
   obtain rfl:f=4:=Option.some.inj ((show prog.funcNamed Rows.fnExactCheckAtRow.func=some 4 by kernel_rfl).symm.trans hf) |>.symm;obtain rfl:fn=Tryz.f4:=(Option.some.inj (func4.symm.trans hfn)).symm;exact ⟨by kernel_rfl,fun j t ht=>by
    rw [Tryz.params4] at ht;have hm:t ∈ [22,53,2,55]:=by simpa using Array.mem_of_getElem? ht
    have hall:([22,53,2,55].all fun u=>!prog.wantsStandIn u)=true:=by kernel_rfl
    exact (show prog.wantsStandIn t=false by simpa using List.all_eq_true.1 hall t hm)⟩)
  (by kernel_rfl)
end Go.Proofs.YtdmniljjnaebbaaGreatDoor.fnExactCheckAt
namespace Go.Proofs.YtdmniljjnaebbaaGreatDoor
theorem FnExactCheckAt_holds:Rows.FnExactCheckAtCardSaid:=fnExactCheckAt.card
end Go.Proofs.YtdmniljjnaebbaaGreatDoor
