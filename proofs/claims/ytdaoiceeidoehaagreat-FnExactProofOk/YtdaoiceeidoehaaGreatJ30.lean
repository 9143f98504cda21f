/- The program's rule of a node that takes away; of any node. -/
import Derived.Test.YtdaoiceeidoehaaGreatJ29
open Go.Proofs.Tryz
set_option maxHeartbeats 80000000
namespace Go.Proofs.YtdaoiceeidoehaaGreat
set_option linter.unusedVariables false
set_option maxRecDepth 100000
open Go.ChangeShapes Go.WideShapes Go.ChangeAt Go.RowKit Go.Maps
open Pl
theorem Mf {W0 W w':World} (h:Below W0.heap.size W0 W) (hb:Below W.heap.size W w'):Below W0.heap.size W0 w':=h.trans (hb.mono h.size)
section
variable {w:World} {rs:List TR} {P D br bp bt bK nK n k:Nat} {n1:Int} {nr:Nat} {Mr:KL→Option Value} {Er:List (KL × RR)} {ts:List Tp} {xo xu:List Al} {np:Nat} {Mp:K3→Option Value} {vo vu:Value} {out:List Fc} {f:Fc} {adF:Option Addr} {capF:Nat} {adE:Option Addr} {capE:Nat} {rows:List ER}
theorem Lr (hn:n < rows.length) (b1:Bool) (G0:Ru) (hkl:rows[n].e.kids.length≤1000) (hk2l:2≤rows[n].e.kids.length) (hP:PrM w P D adF capF out bK nK) (hH:zI D (.slice adE rows.length capE) f bK w (rows[n].e.kids.getD 1 0) b1) (hR:Jo P (.slice adE rows.length capE) f w k (rows[n].e.kids.getD 0 0) G0) (hex:dw w adE rows) (hre:rows.length≤1000) (hk:rows[n].e.kind=6) :
  Calls prog 67 #[.pointer (some ⟨P,0,none⟩),.slice adE rows.length capE,.int .i64 (n:Int),.agg #[.string f.a,.string f.b,.string f.r,.string f.c,.string f.d]] w fun e w'=>(∃ v,e=.returned v∧aG w' (ig w.heap.size) (k + 1) v (if b1 then fun _=>false else G0))∧Below w.heap.size w w':=by
 obtain ⟨b,off,hadr,⟨t0,t1,t2,t3,t4⟩,hbl,hok⟩:=dw.at0 hex hn;obtain ⟨W0,hW0⟩:∃ W0,W0=p9 w f rows[n]:=⟨_,rfl⟩;have HB0:Hid (Below w.heap.size w W0):=by show Below _ _ _; rw [hW0]; exact dm _ _ _
 have HN0:Hid (EnB W0 w.heap.size f rows[n]):=by show EnB _ _ _ _; rw [hW0]; exact dY _ _ _
 have hk1:(rows[n].e.kind == 1)=false:=by rw [hk]; rfl
 have hk2:(rows[n].e.kind == 2)=false:=by rw [hk]; rfl
 have hk3:(rows[n].e.kind == 3)=false:=by rw [hk]; rfl
 have hk4:(rows[n].e.kind == 4)=false:=by rw [hk]; rfl
 have hk5:(rows[n].e.kind == 5)=false:=by rw [hk]; rfl
 have hbl1:b < w.heap.size + 1:=by omega
 have hn1:=aY n;have hn2:(n:Int) < (rows.length:Int):=by omega
 unfold p9 at hW0;have h0k:0 < rows[n].e.kids.length:=by omega
 have h1k:1 < rows[n].e.kids.length:=by omega
 obtain ⟨bJ,offJ,hadK,z0,hbK⟩:=nA.at0 hok.2 h0k;have z1:w.cell? ⟨bJ,offJ + 1,none⟩=some (.int .i64 rows[n].e.kids[1]):=by
  obtain ⟨b',off',hadK',z1,-⟩:=nA.at0 hok.2 h1k;rw [hadK] at hadK'; injection hadK' with e; injection e with e1 e2;rw [e1,e2]; exact z1
 obtain ⟨i0,hi0⟩:∃ i,i=rows[n].e.kids[0]:=⟨_,rfl⟩;obtain ⟨i1,hi1⟩:∃ i,i=rows[n].e.kids[1]:=⟨_,rfl⟩;have g0:rows[n].e.kids.getD 0 0=i0:=by rw [hi0,List.getD_eq_getElem?_getD,List.getElem?_eq_getElem h0k]; rfl
 have g1:rows[n].e.kids.getD 1 0=i1:=by rw [hi1,List.getD_eq_getElem?_getD,List.getElem?_eq_getElem h1k]; rfl
 rw [g0] at hR;rw [g1] at hH;rw [← hi0,Nat.add_zero] at z0;rw [← hi1] at z1;obtain ⟨kl,hkl'⟩:∃ kl,kl=rows[n].e.kids.length:=⟨_,rfl⟩;obtain ⟨cK,hcK⟩:∃ c,c=rows[n].capK:=⟨_,rfl⟩;have hl0:(0:Int) < (kl:Int):=by omega
 have hl1:(1:Int) < (kl:Int):=by omega
 have h0k':0 < kl:=by omega
 have h1k':1 < kl:=by omega
 have HH:Hid (∀ w1,Below W0.heap.size W0 w1→Calls prog 100 #[.pointer (some ⟨D,0,none⟩),.slice adE rows.length capE,.int .i64 i1,.agg #[.string f.a,.string f.b,.string f.r,.string f.c,.string f.d],.map (some bK)] w1 fun e w'=>e=.returned (.bool b1)∧Below w1.heap.size w1 w'):=fun w1 hb=>hH w1 (HB0.out.trans (hb.mono HB0.out.size));have HR:Hid (∀ w1,Below W0.heap.size W0 w1→Calls prog 67 #[.pointer (some ⟨P,0,none⟩),.slice adE rows.length capE,.int .i64 i0,.agg #[.string f.a,.string f.b,.string f.r,.string f.c,.string f.d]] w1 fun e w'=>(∃ v,e=.returned v∧aG w' (ig w.heap.size) (k + 1) v G0)∧Below w1.heap.size w1 w'):=fun w1 hb=>(hR w1 (HB0.out.trans (hb.mono HB0.out.size))).mono fun e w' ⟨⟨v,he,hr⟩,hb2⟩=>⟨⟨v,he,hr.old (Nat.le_trans HB0.out.size hb.size) (by omega)⟩,hb2⟩;have HSA:Hid (∀ w':World,Below W0.heap.size W0 w'→Below W0.heap.size W0 w'∧w'.cell? ⟨P,0,none⟩=some (.pointer (some ⟨D,0,none⟩))∧w'.cell? ⟨P,2,none⟩=some (.map (some bK))∧w'.cell? ⟨w.heap.size + 1,4,none⟩=some (.slice (some ⟨bJ,offJ,none⟩) kl cK)∧w'.cell? ⟨bJ,offJ,none⟩=some (.int .i64 i0)∧w'.cell? ⟨bJ,offJ + 1,none⟩=some (.int .i64 i1)∧w'.cell? ⟨w.heap.size,0,none⟩=some (.string f.a)∧w'.cell? ⟨w.heap.size,1,none⟩=some (.string f.b)∧w'.cell? ⟨w.heap.size,2,none⟩=some (.string f.r)∧w'.cell? ⟨w.heap.size,3,none⟩=some (.string f.c)∧w'.cell? ⟨w.heap.size,4,none⟩=some (.string f.d)):=fun w' h=>by
  have hl:=HN0.out.lt;have hs:=HB0.out.size;have hx:∀ o v,W0.cell? ⟨w.heap.size,o,none⟩=some v→w'.cell? ⟨w.heap.size,o,none⟩=some v:=fun o v hv=>aD h (by omega) hv;have hw:∀ g o v,g < w.heap.size→w.cell? ⟨g,o,none⟩=some v→w'.cell? ⟨g,o,none⟩=some v:=fun g o v hg hv=>aD h (by omega) (aD HB0.out hg hv);refine ⟨h,hw _ _ _ hP.lt hP.c0,hw _ _ _ hP.lt hP.c2,?_,hw _ _ _ hbK z0,hw _ _ _ hbK z1,hx _ _ HN0.out.f0,hx _ _ HN0.out.f1,hx _ _ HN0.out.f2,hx _ _ HN0.out.f3,hx _ _ HN0.out.f4⟩;refine aD h hl ?_;rw [HN0.out.x4,hadK,← hkl',← hcK]
 clear hH hR hex hk hok z0 z1 hadK h0k h1k g0 g1 hi0 hi1 hP hkl' hcK;subst hadr;go_enter func67,ntmps67;go_wp2_with fail;rw [← hW0];clear hW0 t0 t1 t2 t3 t4 hk1 hk2 hk3 hk4 hk5
 go_region_held3 (fun w'=>Below W0.heap.size W0 w'∧w'.cell? ⟨P,0,none⟩=some (.pointer (some ⟨D,0,none⟩))∧w'.cell? ⟨P,2,none⟩=some (.map (some bK))∧w'.cell? ⟨w.heap.size + 1,4,none⟩=some (.slice (some ⟨bJ,offJ,none⟩) kl cK)∧w'.cell? ⟨bJ,offJ,none⟩=some (.int .i64 i0)∧w'.cell? ⟨bJ,offJ + 1,none⟩=some (.int .i64 i1)∧w'.cell? ⟨w.heap.size,0,none⟩=some (.string f.a)∧w'.cell? ⟨w.heap.size,1,none⟩=some (.string f.b)∧w'.cell? ⟨w.heap.size,2,none⟩=some (.string f.r)∧w'.cell? ⟨w.heap.size,3,none⟩=some (.string f.c)∧w'.cell? ⟨w.heap.size,4,none⟩=some (.string f.d))
  (first | assumption | exact HSA.out _ (Mf (And.left (by assumption)) hbx) | exact HSA.out _ (Below.refl _ _).drew)
  (first | (go_at_call 100; refine (HH.out _ (And.left (by assumption))).mono ?_; rintro e w2 ⟨rfl,hbx⟩))
 rename_i hJ;have HB2:=ag hJ.1;clear hJ;cases b1 with
 | true =>
  have HBE:Hid (Below w.heap.size w w2):=HB0.out.trans (HB2.out.mono HB0.out.size);have HRU:Hid (aG w2 (ig w.heap.size) (k + 1) (.iface 132 (.agg #[.bool false])) (if true=true then fun _=>false else G0)):=(kP (S:=ig w.heap.size) false (by rw [if_pos rfl])).up (by omega);go_wp2;go_ret;exact ⟨⟨_,rfl,HRU.out⟩,HBE.out⟩
 | false =>
  go_wp2_with fail
  go_region_held3 (fun w'=>Below W0.heap.size W0 w'∧w'.cell? ⟨P,0,none⟩=some (.pointer (some ⟨D,0,none⟩))∧w'.cell? ⟨P,2,none⟩=some (.map (some bK))∧w'.cell? ⟨w.heap.size + 1,4,none⟩=some (.slice (some ⟨bJ,offJ,none⟩) kl cK)∧w'.cell? ⟨bJ,offJ,none⟩=some (.int .i64 i0)∧w'.cell? ⟨bJ,offJ + 1,none⟩=some (.int .i64 i1)∧w'.cell? ⟨w.heap.size,0,none⟩=some (.string f.a)∧w'.cell? ⟨w.heap.size,1,none⟩=some (.string f.b)∧w'.cell? ⟨w.heap.size,2,none⟩=some (.string f.r)∧w'.cell? ⟨w.heap.size,3,none⟩=some (.string f.c)∧w'.cell? ⟨w.heap.size,4,none⟩=some (.string f.d))
   (first | assumption | exact HSA.out _ (Mf (And.left (by assumption)) hbx) | exact HSA.out _ HB2.out.drew)
   (first | (go_at_call 67; refine (HR.out _ (And.left (by assumption))).mono ?_; rintro e w3 ⟨⟨v,rfl,hru⟩,hbx⟩; have HRV:=ag hru; clear hru))
  rename_i hJ;have HB3:=ag hJ.1;clear hJ;have HBE:Hid (Below w.heap.size w w3):=HB0.out.trans (HB3.out.mono HB0.out.size);go_wp2;go_ret;exact ⟨⟨v,rfl,HRV.out⟩,HBE.out⟩
theorem qp (hN:NodOk rows) (hnb:∀ e ∈ ah rows,ak e=true) (hf:f.fits) (hts:∀ t ∈ ts,t.fits) (htl:ts.length≤1000) :
  ∀ (k n:Nat) (w:World),n < k→n < rows.length→PrM w P D adF capF out bK nK→DatA w rs D br bp bt n1 nr Mr Er (aN ts) xo xu np Mp vo vu→dw w adE rows →
  Calls prog 67 #[.pointer (some ⟨P,0,none⟩),.slice adE rows.length capE,.int .i64 (n:Int),.agg #[.string f.a,.string f.b,.string f.r,.string f.c,.string f.d]] w fun e w'=>(∃ v,e=.returned v∧aG w' (ig w.heap.size) k v (gN ts (ah rows) out f k n))∧Below w.heap.size w w'
 | 0,_,_,h,_,_,_,_=>absurd h (Nat.not_lt_zero _)
 | k + 1,n,w,hk,hn,hP,hD,hex=>by
  have e:(ah rows)[n]?=some rows[n].e:=by simp [ah,hn]
  have hkid:∀ i ∈ rows[n].e.kids,Jo P (.slice adE rows.length capE) f w k i (gN ts (ah rows) out f k i.toNat):=fun i hi w1 hb1=>by
   have h1:=hN.kid hn hi;have h2:=qp hN hnb hf hts htl k i.toNat w1 (by omega) (by omega) (hP.below hb1) (hD.below hb1) (hex.below hb1);have e2:((i.toNat:Nat):Int)=i:=by omega
   rw [e2] at h2;exact h2
  have hkidH:∀ i ∈ rows[n].e.kids,zI D (.slice adE rows.length capE) f bK w i (dW ts (ah rows) out f k out i.toNat):=fun i hi w1 hb1=>by
   have h1:=hN.kid hn hi;have h2:=jN (capE:=capE) hN hnb hf hts htl k i.toNat w1 (by omega) (by omega) (hD.below hb1) (hP.set.below hb1) (hex.below hb1);have e2:((i.toNat:Nat):Int)=i:=by omega
   rw [e2] at h2;exact h2
  have hm:rows[n] ∈ rows:=List.getElem_mem hn;have hme:rows[n].e ∈ ah rows:=List.mem_map.2 ⟨_,hm,rfl⟩;obtain ⟨hn2,hn3,hkd⟩:=vM (hnb _ hme);unfold gN;rw [e];dsimp only;by_cases k1:rows[n].e.kind=1
  ·rw [if_pos k1];exact Ku hn hP hD hf hts htl hex hN.len k1
  rw [if_neg k1];by_cases k2:rows[n].e.kind=2
  ·rw [if_pos k2];exact Lp hn hf (hn2 k2) hex hN.len k2
  rw [if_neg k2];by_cases k3:rows[n].e.kind=3
  ·rw [if_pos k3];exact Kv hn hP hD hf hts htl (hn3 k3) hex hN.len k3
  rw [if_neg k3];by_cases k4:rows[n].e.kind=4
  ·rw [if_pos k4];exact Jq hn (fun i=>gN ts (ah rows) out f k i.toNat) (hN.kids _ hm) hkid hex hN.len k4
  rw [if_neg k4];by_cases k5:rows[n].e.kind=5
  ·rw [if_pos k5];exact Kw hn (fun i=>gN ts (ah rows) out f k i.toNat) (hN.kids _ hm) hkid hex hN.len k5
  rw [if_neg k5];have k6:rows[n].e.kind=6:=by omega
  rw [if_pos k6];have h2:=hN.two _ hme k6;have hg:∀ q,q < 2→rows[n].e.kids.getD q 0 ∈ rows[n].e.kids:=fun q hq=>by
   rw [List.getD_eq_getElem?_getD,List.getElem?_eq_getElem (by omega)];exact List.getElem_mem _
  exact Lr hn _ _ (hN.kids _ hm) h2 hP (hkidH _ (hg 1 (by omega))) (hkid _ (hg 0 (by omega))) hex hN.len k6
end
structure KnF (w:World) (FC:Nat) (rc cp:Array Value) (K:Fc→Bool):Prop where
 run:∀ (ys:Array Value) (u:World),(callFunc FC ys).run prog u=.ok (.enter FC ys) u
 says:∀ x:Fc,x.fits→∀ w1:World,Below w.heap.size w w1→Calls prog FC (rc.push (.agg #[.string x.a,.string x.b,.string x.r,.string x.c,.string x.d]) ++ cp) w1 fun e w'=>e=.returned (.bool (K x))∧Below w1.heap.size w1 w'
theorem KnF.below {w w':World} {FC:Nat} {rc cp:Array Value} {K:Fc→Bool} (h:KnF w FC rc cp K) (hb:Below w.heap.size w w'):KnF w' FC rc cp K :=
 ⟨h.run,fun x hx w1 h1=>h.says x hx w1 (hb.trans (h1.mono hb.size))⟩
theorem GD {ps:List Bool} {k:Nat} (h:k < ps.length):(ps.drop k).any id=(ps[k] || (ps.drop (k + 1)).any id):=by rw [List.drop_eq_getElem_cons h]; rfl
theorem Ef (FC:Nat) (rc cp:Array Value) (ps:List Bool) (ad:Option Addr) (cap:Nat) (w:World) (hlen:ps.length≤1000)
  (hrun:∀ (ys:Array Value) (u:World),(callFunc FC ys).run prog u=.ok (.enter FC ys) u)
  (hs:ps=[] ∨ ∃ g,ad=some ⟨g,0,none⟩∧g < w.heap.size∧∀ (i:Nat) (h:i < ps.length),∃ u,w.cell? ⟨g,i,none⟩=some u∧∀ w1:World,Below w.heap.size w w1→Calls prog FC (rc.push u ++ cp) w1 fun e w'=>e=.returned (.bool ps[i])∧Below w1.heap.size w1 w') :
  Calls prog 202 #[.slice ad ps.length cap,.func (Fn.func FC) rc cp] w fun e w'=>(∃ r:Int,e=.returned (.int .i64 r)∧decide (0≤r)=ps.any id)∧Below w.heap.size w w':=by
 have HS:=ag hs;have HRUN:=ag hrun;clear hs hrun;have HD:Hid (∀ k (h:k < ps.length),(ps.drop k).any id=(ps[k] || (ps.drop (k + 1)).any id)):=fun k h=>GD h;go_enter func202,ntmps202;go_wp2_with fail;go_loopw [8] (fun i wr=>∃ k:Nat,k≤ps.length∧i=.int .i64 k∧Hid ((ps.drop k).any id=ps.any id)∧Hid (Below w.heap.size w wr)) (fun i _=>ps.length - (intOf i).toNat);case atStart=>exact ⟨0,Nat.zero_le _,rfl,rfl,Below.refl _ _⟩
 case round =>
  obtain ⟨k,hk,rfl,HQ,HB⟩:=hrel;by_cases hlt:k < ps.length
  ·rcases HS.out with hnil | ⟨g,hadr,hg,hrow⟩
   ·rw [hnil] at hlt; simp at hlt
   obtain ⟨u,hu,hcall⟩:=hrow k hlt;have HC:=ag (hcall wr HB.out);have t0:=aD HB.out hg hu;have hk1:=aY k;have hk2:(k:Int) < (ps.length:Int):=by omega
   have HD2:=ag (HD.out k hlt);subst hadr;clear hrow hu hcall;go_wp2_with fail;rw [HRUN.out,Oper.upon_enter];refine HC.out.mono ?_;rintro e w1 ⟨rfl,hb1⟩;have HB1:=fK HB hb1;clear hb1 t0;cases he:ps[k] with
   | true =>
    have HN:Hid (ps.any id=true):=by show _=_; rw [← HQ.out,HD2.out,he]; rfl
    go_wp2;go_ret;exact ⟨⟨k,rfl,by rw [HN.out]; simp⟩,HB1.out⟩
   | false =>
    have HQ2:Hid ((ps.drop (k + 1)).any id=ps.any id):=by show _=_; rw [← HQ.out,HD2.out,he]; rfl
    go_wp2;go_roundw;case rel=>exact ⟨k + 1,by omega,by go_num,HQ2,HB1⟩
    case measure=>simp [intOf] <;> omega
  ·have HN:Hid (ps.any id=false):=by show _=_; rw [← HQ.out,List.drop_of_length_le (by omega)]; rfl
   go_wp2;go_ret;exact ⟨⟨-1,rfl,by rw [HN.out]; simp⟩,HB.out⟩
theorem nW (FC:Nat) (rc cp:Array Value) (ps:List Bool) (ad:Option Addr) (cap:Nat) (w:World) (hlen:ps.length≤1000)
  (hrun:∀ (ys:Array Value) (u:World),(callFunc FC ys).run prog u=.ok (.enter FC ys) u)
  (hs:ps=[] ∨ ∃ g,ad=some ⟨g,0,none⟩∧g < w.heap.size∧∀ (i:Nat) (h:i < ps.length),∃ u,w.cell? ⟨g,i,none⟩=some u∧∀ w1:World,Below w.heap.size w w1→Calls prog FC (rc.push u ++ cp) w1 fun e w'=>e=.returned (.bool ps[i])∧Below w1.heap.size w1 w') :
  Calls prog 200 #[.slice ad ps.length cap,.func (Fn.func FC) rc cp] w fun e w'=>e=.returned (.bool (ps.any id))∧Below w.heap.size w w':=by
 have HC:=ag (Ef FC rc cp ps ad cap w hlen hrun hs);clear hs hrun;go_enter func200,ntmps200;go_wp2_with fail;refine HC.out.mono ?_;rintro e w' ⟨⟨r,rfl,hr⟩,hbx⟩;have HR:=ag hr;clear hr;go_wp2;go_ret;exact ⟨by rw [← HR.out]; rfl,hbx⟩
theorem BV (b:Bool) (fv:Value) (w:World) :
  Calls prog 197 #[.agg #[.bool b],fv] w fun e w'=>e=.returned (.bool b)∧Below w.heap.size w w':=by
 have HB:Hid (Below w.heap.size w (w.alloc (.cells #[.bool b] 132))):=(Below.refl _ _).alloc (Nat.le_refl _) _;go_enter func197,ntmps197;go_wp2;go_ret;exact ⟨rfl,HB.out⟩
theorem Kz {FC:Nat} {rc cp:Array Value} {K:Fc→Bool} {ad:Option Addr} {cap:Nat} {fs:List Fc} {w:World} (hK:KnF w FC rc cp K) (hl:fs.length≤1000) (hs:jq w ad fs) (hf:∀ x ∈ fs,x.fits) :
  Calls prog 198 #[.agg #[.slice ad fs.length cap],.func (Fn.func FC) rc cp] w fun e w'=>e=.returned (.bool (fs.any K))∧Below w.heap.size w w':=by
 obtain ⟨W0,hW0⟩:∃ W0,W0=w.alloc (.cells #[.slice ad fs.length cap] 185):=⟨_,rfl⟩;have HB0:=nX hW0;have HC:=ag (mo FC rc cp K ad cap fs W0 (by omega) (hs.below HB0.out) hK.run (fun x hx w1 hb=>hK.says x (hf x hx) w1 (HB0.out.trans (hb.mono HB0.out.size))));clear hK hs hf;go_enter func198,ntmps198;go_wp2_with fail;rw [← hW0];clear hW0;refine HC.out.mono ?_;rintro e w1 ⟨rfl,hb1⟩;have HB1:=fK HB0 hb1;clear hb1;go_wp2;go_ret;exact ⟨rfl,HB1.out⟩
def Eg (T:TypeId):Nat:=if T=132 then 197 else if T=185 then 198 else if T=190 then 199 else 203
def Eh (w:World) (FC:Nat) (rc cp:Array Value) (u:Value) (b:Bool):Prop :=
 ∃ (T:TypeId) (a:Value),u=.iface T a∧(T=132∧(∃ c,a=.agg #[.bool c]) ∨ (T=185 ∨ T=190 ∨ T=191)∧∃ ad n cap,a=.agg #[.slice ad n cap])∧∀ w1:World,Below w.heap.size w w1→Calls prog (Eg T) #[a,.func (Fn.func FC) rc cp] w1 fun e w'=>e=.returned (.bool b)∧Below w1.heap.size w1 w'
theorem wh {T : TypeId} {a : Value} (h : T = 132 ∧ (∃ c, a = .agg #[.bool c]) ∨ (T = 185 ∨ T = 190 ∨ T = 191) ∧ ∃ ad n cap, a = .agg #[.slice ad n cap]) (m : Nat) (w : World) : (method (m + 1) T a "loop.example/g00297/impl.follows").run Tryz.prog w = .ok (Eg T, a) w := by
 rcases h with ⟨rfl,c,rfl⟩ | ⟨rfl | rfl | rfl,ad,n,cap,rfl⟩ <;> kernel_rfl
def KU (T:TypeId) (a:Value):Prop:=T=132∧(∃ c,a=.agg #[.bool c]) ∨ (T=185 ∨ T=190 ∨ T=191)∧∃ ad n cap,a=.agg #[.slice ad n cap]
theorem zU {T:TypeId} {a:Value} (h:KU T a) (ys:Array Value) (u:World):(callFunc (Eg T) ys).run prog u=.ok (.enter (Eg T) ys) u:=by
 rcases h with ⟨rfl,-⟩ | ⟨rfl | rfl | rfl,-⟩ <;> kernel_rfl
theorem Jr {w:World} {FC:Nat} {rc cp:Array Value} {u:Value} {b:Bool} (h:Eh w FC rc cp u b) {w1:World} (hb:Below w.heap.size w w1) {g:Nat} (hc:w1.cell? ⟨g,0,none⟩=some (.func (Fn.func FC) rc cp)) :
  Calls prog 201 #[u,.pointer (some ⟨g,0,none⟩)] w1 fun e w'=>e=.returned (.bool b)∧Below w1.heap.size w1 w':=by
 obtain ⟨T,a,rfl,hk,hcall⟩:=h;have hm : ∀ (m : Nat) (x : World), (method (m + 1) T a "loop.example/g00297/impl.follows").run Tryz.prog x = .ok (Eg T, a) x := fun m x => wh hk m x;have HRUN:=ag (zU hk);have HC:=ag (hcall w1 hb);clear hk hcall hb;go_enter func201,ntmps201;go_wp2_with fail;rw [HRUN.out,Oper.upon_enter];refine HC.out.mono ?_;rintro e w2 ⟨rfl,hb2⟩;have HB2:=ag hb2;clear hb2 hc hm;go_wp2;go_ret;exact ⟨rfl,HB2.out⟩
theorem GG {w:World} {FC:Nat} {rc cp:Array Value} {u:Value} {b:Bool} (h:Eh w FC rc cp u b) {w1:World} (hb:Below w.heap.size w w1) {g:Nat} (hc:w1.cell? ⟨g,0,none⟩=some (.func (Fn.func FC) rc cp)) :
  Calls prog 204 #[u,.pointer (some ⟨g,0,none⟩)] w1 fun e w'=>e=.returned (.bool (!b))∧Below w1.heap.size w1 w':=by
 obtain ⟨T,a,rfl,hk,hcall⟩:=h;have hm : ∀ (m : Nat) (x : World), (method (m + 1) T a "loop.example/g00297/impl.follows").run Tryz.prog x = .ok (Eg T, a) x := fun m x => wh hk m x;have HRUN:=ag (zU hk);have HC:=ag (hcall w1 hb);clear hk hcall hb;go_enter func204,ntmps204;go_wp2_with fail;rw [HRUN.out,Oper.upon_enter];refine HC.out.mono ?_;rintro e w2 ⟨rfl,hb2⟩;have HB2:=ag hb2;clear hb2 hc hm;go_wp2;go_ret;exact ⟨rfl,HB2.out⟩
theorem Ls (xs:Array Value) (u:World):(callFunc 201 xs).run prog u=.ok (.enter 201 xs) u:=by kernel_rfl
theorem Lt (xs:Array Value) (u:World):(callFunc 204 xs).run prog u=.ok (.enter 204 xs) u:=by kernel_rfl
def Lu (w:World) (FC:Nat) (rc cp:Array Value) (ad:Option Addr) (bs:List Bool):Prop:=bs=[] ∨ ∃ g,ad=some ⟨g,0,none⟩∧g < w.heap.size∧∀ (i:Nat) (h:i < bs.length),∃ u,w.cell? ⟨g,i,none⟩=some u∧Eh w FC rc cp u bs[i]
theorem Js {w:World} {FC:Nat} {rc cp:Array Value} {ad:Option Addr} {bs:List Bool} (cap:Nat) (hl:bs.length≤1000) (hs:Lu w FC rc cp ad bs) (w1:World) (hb:Below w.heap.size w w1) :
  Calls prog 199 #[.agg #[.slice ad bs.length cap],.func (Fn.func FC) rc cp] w1 fun e w'=>e=.returned (.bool (bs.any id))∧Below w1.heap.size w1 w':=by
 obtain ⟨W0,hW0⟩:∃ W0,W0=(w1.alloc (.cells #[.slice ad bs.length cap] 190)).alloc (.cells #[.func (Fn.func FC) rc cp] 65):=⟨_,rfl⟩;have HB0:Hid (Below w1.heap.size w1 W0):=by show Below _ _ _; rw [hW0]; exact ((Below.refl _ _).alloc (Nat.le_refl _) _).alloc (by simp) _
 have c0:W0.cell? ⟨w1.heap.size + 1,0,none⟩=some (.func (Fn.func FC) rc cp):=by rw [hW0]; simp
 have cl:=ax c0;have HBW:Hid (Below w.heap.size w W0):=hb.trans (HB0.out.mono hb.size);have HC:=ag (nW 201 #[] #[.pointer (some ⟨w1.heap.size + 1,0,none⟩)] bs ad cap W0 (by simpa using hl) Ls (by
  rcases hs with h | ⟨g,e,h1,h2⟩
  ·exact .inl (by first | exact h | (rw [h]; rfl))
  ·refine .inr ⟨g,e,Nat.lt_of_lt_of_le h1 HBW.out.size,fun i hi=>?_⟩;obtain ⟨u,hu,hf⟩:=h2 i (by simpa using hi);refine ⟨u,aD HBW.out h1 hu,fun w2 hb2=>?_⟩;have h:=Jr hf (HBW.out.trans (hb2.mono HBW.out.size)) (aD hb2 cl c0);simpa using h))
 clear hs hb;go_enter func199,ntmps199;go_wp2_with fail;rw [← hW0];clear hW0 c0 cl;refine HC.out.mono ?_;rintro e w2 ⟨rfl,hb2⟩;have HB2:=fK HB0 hb2;clear hb2;go_wp2;go_ret;exact ⟨rfl,HB2.out⟩
theorem Jt {w:World} {FC:Nat} {rc cp:Array Value} {ad:Option Addr} {bs:List Bool} (cap:Nat) (hl:bs.length≤1000) (hs:Lu w FC rc cp ad bs) (w1:World) (hb:Below w.heap.size w w1) :
  Calls prog 203 #[.agg #[.slice ad bs.length cap],.func (Fn.func FC) rc cp] w1 fun e w'=>e=.returned (.bool (bs.all id))∧Below w1.heap.size w1 w':=by
 obtain ⟨W0,hW0⟩:∃ W0,W0=(w1.alloc (.cells #[.slice ad bs.length cap] 191)).alloc (.cells #[.func (Fn.func FC) rc cp] 65):=⟨_,rfl⟩;have HB0:Hid (Below w1.heap.size w1 W0):=by show Below _ _ _; rw [hW0]; exact ((Below.refl _ _).alloc (Nat.le_refl _) _).alloc (by simp) _
 have c0:W0.cell? ⟨w1.heap.size + 1,0,none⟩=some (.func (Fn.func FC) rc cp):=by rw [hW0]; simp
 have cl:=ax c0;have HBW:Hid (Below w.heap.size w W0):=hb.trans (HB0.out.mono hb.size);have HC:=ag (nW 204 #[] #[.pointer (some ⟨w1.heap.size + 1,0,none⟩)] (bs.map (!·)) ad cap W0 (by simpa using hl) Lt (by
  rcases hs with h | ⟨g,e,h1,h2⟩
  ·exact .inl (by first | exact h | (rw [h]; rfl))
  ·refine .inr ⟨g,e,Nat.lt_of_lt_of_le h1 HBW.out.size,fun i hi=>?_⟩;obtain ⟨u,hu,hf⟩:=h2 i (by simpa using hi);refine ⟨u,aD HBW.out h1 hu,fun w2 hb2=>?_⟩;have h:=GG hf (HBW.out.trans (hb2.mono HBW.out.size)) (aD hb2 cl c0);simpa using h))
 have hlm:(bs.map (!·)).length=bs.length:=List.length_map _;rw [hlm] at HC;have HE:Hid ((bs.map (!·)).any id=!(bs.all id)):=by
  show _=_;clear HC hs hl hlm hW0 c0 cl HBW HB0
  induction bs with
  | nil=>rfl
  | cons b bs ih=>rw [List.map_cons,List.any_cons,ih,List.all_cons]; cases b <;> simp
 clear hs hb;go_enter func203,ntmps203;go_wp2_with fail;rw [← hW0];clear hW0 c0 cl;refine HC.out.mono ?_;rintro e w2 ⟨rfl,hb2⟩;have HB2:=fK HB0 hb2;clear hb2;rw [HE.out];go_wp2;go_ret;exact ⟨by simp,HB2.out⟩
theorem Eh.below {w w':World} {FC:Nat} {rc cp:Array Value} {u:Value} {b:Bool} (h:Eh w FC rc cp u b) (hb:Below w.heap.size w w'):Eh w' FC rc cp u b:=by
 obtain ⟨T,a,e,hk,hc⟩:=h;exact ⟨T,a,e,hk,fun w1 h1=>hc w1 (hb.trans (h1.mono hb.size))⟩
theorem BX {FC:Nat} {rc cp:Array Value} {K:Fc→Bool} {S:Nat→Prop}:∀ (n:Nat) (w:World) (v:Value) (G:Ru),KnF w FC rc cp K→aG w S n v G→Eh w FC rc cp v (G K)
 | 0,_,_,_,_,h=>h.elim
 | n + 1,w,v,G,hK,h=>by
  have row:∀ {ad:Option Addr} {Gs:List Ru},vY w S (aG w S n) ad Gs→Lu w FC rc cp ad (Gs.map fun H=>H K):=fun {ad Gs} h=>by
   rcases h with h | ⟨g,e,h1,h2,h3⟩
   ·exact .inl (by rw [h]; rfl)
   ·refine .inr ⟨g,e,h2,fun i hi=>?_⟩;obtain ⟨u,hu,hp⟩:=h3 i (by simpa using hi);refine ⟨u,hu,?_⟩;rw [List.getElem_map];exact BX n w u _ hK hp
  rcases h with ⟨b,rfl,rfl⟩ | ⟨ad,cap,fs,rfl,hz,h1,h2,h3,rfl⟩ | ⟨ad,cap,Gs,rfl,h1,h2,rfl⟩ | ⟨ad,cap,Gs,rfl,h1,h2,rfl⟩
  ·exact ⟨_,_,rfl,.inl ⟨rfl,_,rfl⟩,fun w1 hb=>BV b _ w1⟩
  ·exact ⟨_,_,rfl,.inr ⟨.inl rfl,_,_,_,rfl⟩,fun w1 hb=>Kz (hK.below hb) h2 (h1.below hb) h3⟩
  ·refine ⟨_,_,rfl,.inr ⟨.inr (.inl rfl),_,_,_,rfl⟩,fun w1 hb=>?_⟩;have h:=Js cap (by simpa using h1) (row h2) w1 hb;rw [List.length_map,List.any_map] at h;exact h
  ·refine ⟨_,_,rfl,.inr ⟨.inr (.inr rfl),_,_,_,rfl⟩,fun w1 hb=>?_⟩;have h:=Jt cap (by simpa using h1) (row h2) w1 hb;rw [List.length_map,List.all_map] at h;exact h
set_option linter.unusedSectionVars false
section
variable [DecidableEq Fc]
theorem wQ (ad:Option Addr) (cap:Nat) (fs:List Fc) (w:World) (hl:fs.length≤1048576) (hs:jq w ad fs) (hf:∀ x ∈ fs,x.fits) :
  Calls prog 40 #[.slice ad fs.length cap] w fun e w'=>(∃ b n,e=.returned (.map (some b))∧aB fT prog 42 w' b n (oG fs))∧Below w.heap.size w w':=by
 have hmm:=@run_makeMap prog;obtain ⟨W0,hW0⟩:∃ W0,W0=w.alloc (.map #[] 0):=⟨_,rfl⟩;have HB0:=nX hW0;have HV0:Hid (aB fT prog 42 W0 w.heap.size 0 (oG (fs.take 0))):=by
  have h:=iA fT prog 42 w;show aB _ _ _ _ _ _ _;rw [hW0]; exact h
 have hz0:w.heap.size < W0.heap.size:=by rw [hW0]; simp
 have HS:=ag hs;have HF:=ag hf;clear hs hf;go_enter func40,ntmps40;go_wp2_with fail;rw [← hW0];clear hW0 hmm;go_loopw [9] (fun i wr=>∃ k:Nat,k≤fs.length∧i=.int .i64 k∧Hid (aB fT prog 42 wr w.heap.size k (oG (fs.take k)))∧Hid (Below w.heap.size w wr)∧Hid (w.heap.size < wr.heap.size)) (fun i _=>fs.length - (intOf i).toNat);case atStart=>exact ⟨0,Nat.zero_le _,rfl,HV0,HB0,hz0⟩
 case round =>
  clear HV0 HB0 hz0;obtain ⟨k,hk,rfl,HV,HB,HZ⟩:=hrel;by_cases hlt:k < fs.length
  ·obtain ⟨b,off,hadr,⟨t0,t1,t2,t3,t4⟩,hbl⟩:=jq.at0 (HS.out.below HB.out) hlt;have hi1:=aY k;have hi2:(k:Int) < (fs.length:Int):=by omega
   have HT:Hid (fs.take (k + 1)=fs.take k ++ [fs[k]]):=List.take_succ_eq_append_getElem hlt;obtain ⟨kl,hkl⟩:=pF fs[k] (HF.out _ (List.getElem_mem hlt));obtain ⟨x,hx⟩:∃ x,x=fs[k]:=⟨_,rfl⟩;rw [← hx] at t0 t1 t2 t3 t4 HT hkl;have HKL:=ag hkl;clear hx hkl;obtain ⟨W1,hW1⟩:∃ W1,W1=wr.alloc (.cells #[.string x.a,.string x.b,.string x.r,.string x.c,.string x.d] 42):=⟨_,rfl⟩;have HBr:=nX hW1;have HV1:=ag (HV.out.below HBr.out);have HB1:=ag (HB.out.trans (HBr.out.mono HB.out.size));have hz1:w.heap.size < W1.heap.size:=Nat.lt_of_lt_of_le HZ.out HBr.out.size;subst hadr;clear HV HB HBr;go_wp2_with (at_mapUpdate; rw [← hW1]; clear hW1; refine gm _ rfl _ _ _ 84 rfl 42 90 yZ uJ underlying84 w.heap.size k _ rfl HV1.out (by unfold maxLen; omega) x kl rfl HKL.out (.agg #[]) rfl ?_);intro w2 hM2 hg2;have HV2:Hid (aB fT prog 42 w2 w.heap.size (k + 1) (oG (fs.take (k + 1)))):=by show aB _ _ _ _ _ _ _; rw [HT.out,← zK]; exact hM2
   have HB2:Hid (Below w.heap.size w w2):=HB1.out.grown hg2 HB1.out.size (fun g hg=>by injection hg with hg; omega);have HZ2:Hid (w.heap.size < w2.heap.size):=Nat.lt_of_lt_of_le hz1 hg2.size;clear hM2 hg2 t0 t1 t2 t3 t4;go_wp2;go_roundw;case rel=>exact ⟨k + 1,by omega,by go_num,HV2,HB2,HZ2⟩
   case measure=>simp [intOf] <;> omega
  ·have HVE:Hid (aB fT prog 42 wr w.heap.size k (oG fs)):=by
    have h:=HV.out;rw [List.take_of_length_le (by omega)] at h;exact h
   go_wp2;go_ret;exact ⟨⟨_,_,rfl,HVE.out⟩,HB.out⟩
end
def okB (f:Fc):Bool:=bi f.a f.b f.r f.c f.d ⟨#[]⟩
theorem BZ (f:Fc) (w:World) :
  Calls prog 66 #[.agg #[.string f.a,.string f.b,.string f.r,.string f.c,.string f.d]] w fun e w'=>e=.returned (.agg #[.string f.a,.string f.b,.string f.r,.string f.c,.string f.d,.string ⟨#[]⟩])∧Below w.heap.size w w':=by
 go_enter func66,ntmps66;go_wp2;exact bodyPost_ret (v:=.agg #[.string f.a,.string f.b,.string f.r,.string f.c,.string f.d,.string ⟨#[]⟩]) (by simp [results,Tryz.results66,go_sem, *]) rfl ⟨rfl,by
  repeat (first | exact Below.refl _ _ | refine Below.setCell ?_ (by first | (simp; done) | (simp; omega)) _ | refine Below.alloc ?_ (by first | (simp; done) | (simp; omega)) _)⟩
theorem Ei (f:Fc) (w:World) (hf:f.fits) :
  Calls prog 38 #[.agg #[.string f.a,.string f.b,.string f.r,.string f.c,.string f.d]] w fun e w'=>e=.returned (.bool (okB f))∧Below w.heap.size w w':=by
 obtain ⟨W0,hW0⟩:∃ W0,W0=w.alloc (.cells #[.string f.a,.string f.b,.string f.r,.string f.c,.string f.d] 42):=⟨_,rfl⟩;have HB0:=nX hW0;have HC:=ag (BZ f W0);have HF:=ag hf;clear hf;go_enter func38,ntmps38;go_wp2_with fail;rw [← hW0];clear hW0;refine HC.out.mono ?_;rintro e w1 ⟨rfl,hb1⟩;have HB1:=ag (HB0.out.trans (hb1.mono HB0.out.size));clear hb1;go_wp2_with fail;refine (bz f.a f.b f.r f.c f.d ⟨#[]⟩ _ HF.out.1 HF.out.2.1 HF.out.2.2.1 HF.out.2.2.2.1 HF.out.2.2.2.2 (by decide)).mono ?_;rintro e w2 ⟨rfl,hb2⟩;have HB2:=ag (HB1.out.trans (hb2.mono HB1.out.size));clear hb2;go_wp2;go_ret;exact ⟨rfl,HB2.out⟩
def yz (rs:List TR) (ts:List Tp) (out:List Fc) (f:Fc):Ru:=gN ts (aC (ae rs) f.a f.r) out f (aC (ae rs) f.a f.r).length ((aC (ae rs) f.a f.r).length - 1)
section
variable {rs:List TR} {P D br bp bt bK nK:Nat} {n1:Int} {nr:Nat} {Mr:KL→Option Value} {Er:List (KL × RR)} {ts:List Tp} {xo xu:List Al} {np:Nat} {Mp:K3→Option Value} {vo vu:Value} {out:List Fc} {f:Fc} {adF:Option Addr} {capF:Nat}
theorem Ej {w:World} {ad:Option Addr} (hP:PrM w P D adF capF out bK nK) (hD:DatA w rs D br bp bt n1 nr Mr Er (aN ts) xo xu np Mp vo vu) (hf:f.fits) (hts:∀ t ∈ ts,t.fits) (htl:ts.length≤1000) (hsh:aS (ae rs)=true) (hs:eY w ad rs) :
  Calls prog 39 #[.pointer (some ⟨P,0,none⟩),.agg #[.string f.a,.string f.b,.string f.r,.string f.c,.string f.d]] w fun e w'=>(∃ v n,e=.returned v∧aG w' (ig w.heap.size) n v (yz rs ts out f))∧Below w.heap.size w w':=by
 obtain ⟨kl,hkl⟩:=gp (f.a,f.r) hf.1 hf.2.2.1;obtain ⟨W0,hW0⟩:∃ W0,W0=w.alloc (.cells #[.string f.a,.string f.b,.string f.r,.string f.c,.string f.d] 42):=⟨_,rfl⟩;have HB0:=nX hW0;have c0:W0.cell? ⟨w.heap.size,0,none⟩=some (.string f.a):=by rw [hW0]; simp
 have c1:W0.cell? ⟨w.heap.size,1,none⟩=some (.string f.b):=by rw [hW0]; simp
 have c2:W0.cell? ⟨w.heap.size,2,none⟩=some (.string f.r):=by rw [hW0]; simp
 have c3:W0.cell? ⟨w.heap.size,3,none⟩=some (.string f.c):=by rw [hW0]; simp
 have c4:W0.cell? ⟨w.heap.size,4,none⟩=some (.string f.d):=by rw [hW0]; simp
 have d0:=HB0.out.cell (p:=⟨D,0,none⟩) hD.dat.lt |>.trans hD.dat.c0;have p0:=aD HB0.out hP.lt hP.c0;have hlk0:∀ m,(Instr.lookup 124 (.map (some bt)) (.agg #[.string f.a,.string f.r]) true).run prog (W0.drewN m)=.ok (.tuple #[(jy rs (f.a,f.r)).getD (.slice none 0 0),.bool (jy rs (f.a,f.r)).isSome]) (W0.drewN m):=fun m =>
  ((hD.tab.below HB0.out).below (below_drewN (Below.refl _ _) m)).look_ok (t:=124) (e:=105) fU underlying124 (jW _) (x:=(f.a,f.r)) hkl
 cases htab:jy rs (f.a,f.r) with
 | none =>
  have hrel:dM (ae rs) f.a f.r=none:=(kH hsh).no _ htab;have HG:Hid (yz rs ts out f=fun _=>false):=by show _=_; unfold yz aC; rw [hrel]; rfl
  have hlk:=hlk0;rw [htab] at hlk;simp only [Option.getD_none,Option.isSome_none] at hlk;clear hlk0 hD hP hs hkl htab hrel hf;go_enter func39,ntmps39;go_wp2_with fail;rw [← hW0];clear hW0;go_quiet (fail);clear d0 p0 hlk c0 c1 c2 c3 c4;go_wp2;go_ret;exact ⟨⟨_,1,rfl,kP false HG.out⟩,below_drewN HB0.out _⟩
 | some v0 =>
  obtain ⟨t,htm,q,hq,-,hv0,hrelp,-⟩:=(kH hsh).yes _ v0 htab;have hsp:aR (ah q.rows)=true:=((aX hsh).2.2 t htm q hq).1;have hrx:ah q.rows=aC (ae rs) f.a f.r:=by unfold aC; rw [show dM (ae rs) f.a f.r=some (ah q.rows) from hrelp]; rfl
  obtain ⟨hN,hr1⟩:=tK hsp;have hnb:=fE hsp;have HFR:jP rs q.ad q.rows:=.inr ⟨t,htm,q,hq,rfl,rfl⟩;obtain ⟨adE,hadE⟩:∃ a,a=q.ad:=⟨_,rfl⟩;obtain ⟨capE,hcapE⟩:∃ a,a=q.cap:=⟨_,rfl⟩;obtain ⟨rows,hrows⟩:∃ a,a=q.rows:=⟨_,rfl⟩;have hsl:v0=.slice adE rows.length capE:=by rw [hv0,hadE,hcapE,hrows]; rfl
  rw [← hrows] at hN hnb hr1 hrx;rw [← hrows,← hadE] at HFR;have hlk:=hlk0;rw [htab,hsl] at hlk;simp only [Option.getD_some,Option.isSome_some] at hlk;have hr1000:=hN.len;have hwr:IntKind.i64.wrap ((rows.length:Int) - 1)=((rows.length - 1:Nat):Int):=by rw [IntKind.wrap_i64]; omega
  have HC:Hid (∀ nq,Calls prog 67 #[.pointer (some ⟨P,0,none⟩),.slice adE rows.length capE,.int .i64 ((rows.length - 1:Nat):Int),.agg #[.string f.a,.string f.b,.string f.r,.string f.c,.string f.d]] (W0.drewN nq) fun e w'=>(∃ v,e=.returned v∧aG w' (ig w.heap.size) rows.length v (yz rs ts out f))∧Below (W0.drewN nq).heap.size (W0.drewN nq) w'):=fun nq=>by
   have hb:Below w.heap.size w (W0.drewN nq):=below_drewN HB0.out nq;have h:=qp (capE:=capE) hN hnb hf hts htl rows.length (rows.length - 1) (W0.drewN nq) (by omega) (by omega) (hP.below hb) (hD.below hb) (HFR.sl (hs.below hb));unfold yz;rw [← hrx,aI];exact h.mono fun e w' ⟨⟨v,he,hr⟩,hb2⟩=>⟨⟨v,he,hr.old hb.size (Nat.le_refl _)⟩,hb2⟩
  clear hlk0 hD hP hs hsp hkl htab hsl hN hnb hf hadE hcapE hrows HFR hrx hv0 hrelp;go_enter func39,ntmps39;go_wp2_with fail;rw [← hW0];clear hW0;go_quiet (fail);clear d0 p0 hlk;go_wp2_with fail;refine (HC.out _).mono ?_;rintro e w1 ⟨⟨v,rfl,hr⟩,hb1⟩;have HB1:=ag ((below_drewN HB0.out _).trans (hb1.mono HB0.out.size));have HR:=ag hr;clear hb1 hr c0 c1 c2 c3 c4;go_wp2;go_ret;exact ⟨⟨v,_,rfl,HR.out⟩,HB1.out⟩
end
end Go.Proofs.YtdaoiceeidoehaaGreat
