/- Users of an object and objects of a user: what both sides pick out of the facts. -/
import Derived.Test.YtogjfppkbkgaeaaGreatJ10
import Derived.Test.YtogjfppkbkgaeaaGreatJ20
import Derived.BigQuiet
import Derived.Test.YtogjfppkbkgaeaaGreatJ7
import Derived.Test.YtogjfppkbkgaeaaGreatToExpr2
import Derived.Test.YtogjfppkbkgaeaaGreatJ8
import Derived.Deep.RegionHeld3
import Derived.Deep.DrawnRows
import Derived.RangeFuncNested
namespace Go.Proofs.YtogjfppkbkgaeaaGreat
set_option maxRecDepth 100000
set_option linter.unusedVariables false
open Go.ChangeShapes Go.WideShapes Go.ChangeAt Go.RowKit Go.Maps
open Pl
def dX (p:Fc→Bool) (h:Fc→Al) (L:List Fc):List Al:=(L.filter p).map h
theorem zu (p:Fc→Bool) (h:Fc→Al) {L:List Fc} {k:Nat} (hk:k < L.length):dX p h (L.take (k + 1))=dX p h (L.take k) ++ (if p L[k] then [h L[k]] else []):=by
 unfold dX;rw [List.take_succ_eq_append_getElem hk,List.filter_append,List.map_append];congr 1;rw [List.filter_cons];cases p L[k] <;> rfl
theorem wV (p:Fc→Bool) (h:Fc→Al) (L:List Fc):(dX p h L).length≤L.length:=by
 unfold dX;rw [List.length_map];exact List.length_filter_le _ _
def cz (o:Al) (rel:ByteArray) (x:Fc):Bool:=qN x.a x.b o.t o.s && x.r.toList == rel.toList
def dY (x:Fc):Al:=⟨x.c,x.d⟩
set_option maxHeartbeats 8000000 in
theorem Cz (ad:Option Addr) (n cap:Nat) (ad':Option Addr) (n' cap':Nat) (L:List Fc) (o:Al) (rel:ByteArray) (w:World) (hLl:L.length≤115200)
  (hF:∀ W',Below w.heap.size w W'→Calls Tryz.prog 12 #[.slice ad n cap,.slice ad' n' cap'] W' fun e w'=>(∃ v,e=.returned v∧w'.ownsRow W'.heap.size 47 5 v L.length (aB L))∧Below W'.heap.size W' w') :
  Calls Tryz.prog 27 #[.slice ad n cap,.slice ad' n' cap',.agg #[.string o.t,.string o.s],.string rel] w fun e w'=>(∃ v,e=.returned v∧w'.ownsRow w.heap.size 45 2 v (dX (cz o rel) dY L).length (pairs (dX (cz o rel) dY L)))∧Below w.heap.size w w':=by
 obtain ⟨iO,h0,h1,h2,h3⟩:=mI;have HIO:=aj (And.intro h0 (And.intro h1 (And.intro h2 h3)));obtain ⟨W0,hW0⟩:∃ W0,W0=w.alloc (.cells #[.string o.t,.string o.s] 45):=⟨_,rfl⟩;have HB0:Hid (Below w.heap.size w W0):=by show Below _ _ _; rw [hW0]; exact (Below.refl _ _).alloc (Nat.le_refl _) _
 have d0:W0.cell? ⟨w.heap.size,0,none⟩=some (.string o.t):=by rw [hW0]; simp
 have d1:W0.cell? ⟨w.heap.size,1,none⟩=some (.string o.s):=by rw [hW0]; simp
 have dl:w.heap.size < W0.heap.size:=av d0;have HFC:=aj (hF W0 HB0.out);clear hF h0 h1 h2 h3;go_enter Tryz.func27,Tryz.ntmps27;go_wp2_with fail;rw [← hW0];clear hW0;refine HFC.out.mono ?_;rintro e w1 ⟨⟨v,rfl,hown⟩,hb1⟩;obtain ⟨adL,capL,rfl,hsl⟩:=mM hown;have HSF:=aj hsl;have HB1:Hid (Below w.heap.size w w1):=HB0.out.trans (hb1.mono HB0.out.size);replace d0:=aH hb1 dl d0;replace d1:=aH hb1 dl d1;replace dl:=Nat.lt_of_lt_of_le dl hb1.size;clear hown hsl hb1 HB0 HFC;have HO0:Hid (w1.ownsRow w1.heap.size 45 2 (.slice none 0 0) (dX (cz o rel) dY (L.take 0)).length (pairs (dX (cz o rel) dY (L.take 0)))):=World.ownsRow_nil _ _ _ _;go_wp2_with fail;go_loopw [9,16] (fun v i wr=>∃ k:Nat,k≤L.length∧i=.int .i64 k∧Hid (wr.ownsRow w1.heap.size 45 2 v (dX (cz o rel) dY (L.take k)).length (pairs (dX (cz o rel) dY (L.take k))))∧Hid (Below w1.heap.size w1 wr)) (fun _ i _=>L.length - (intOf i).toNat);case atStart=>exact ⟨0,Nat.zero_le _,rfl,HO0,Below.refl _ _⟩
 case round =>
  clear HO0;obtain ⟨k,hk,rfl,HO,HB⟩:=hrel;by_cases hlk:k < L.length
  ·obtain ⟨b,off,hadr,⟨t0,t1,t2,t3,t4⟩,hbl⟩:=qZ.at0 (HSF.out.below HB.out) hlk;have hi1:(0:Int)≤(k:Int):=by omega
   have hi2:(k:Int) < (L.length:Int):=by omega
   have HKT:=aj (zu (cz o rel) dY hlk);have hkl:=wV (cz o rel) dY (L.take k);rw [List.length_take] at hkl;obtain ⟨x,hx⟩:∃ x,x=L[k]:=⟨_,rfl⟩;rw [← hx] at t0 t1 t2 t3 t4 HKT;clear hx;obtain ⟨W1,hW1⟩:∃ W1,W1=wr.alloc (.cells #[.string x.a,.string x.b,.string x.r,.string x.c,.string x.d] 47):=⟨_,rfl⟩;have HBr:Hid (Below wr.heap.size wr W1):=by show Below _ _ _; rw [hW1]; exact (Below.refl _ _).alloc (Nat.le_refl _) _
   have HBW:=aj (HB.out.trans (HBr.out.mono HB.out.size));have x0:wr.cell? ⟨w.heap.size,0,none⟩=some (.string o.t):=aH HB.out dl d0;have x1:wr.cell? ⟨w.heap.size,1,none⟩=some (.string o.s):=aH HB.out dl d1;have xl:w.heap.size < wr.heap.size:=av x0;have hz1:W1.heap.size=wr.heap.size + 1:=by rw [hW1]; simp
   have HO1:=aj (aJ HO.out HBr.out);obtain ⟨ys,hys⟩:∃ ys,ys=dX (cz o rel) dY (L.take k):=⟨_,rfl⟩;rw [← hys] at HO1 HKT hkl;obtain ⟨adV,capV,rfl,-⟩:=fU HO1.out;subst hadr;clear hys HO HBr;cases hq0:qN x.a x.b o.t o.s with
   | false =>
    have HR:Hid (W1.ownsRow w1.heap.size 45 2 (.slice adV ys.length capV) (dX (cz o rel) dY (L.take (k + 1))).length (pairs (dX (cz o rel) dY (L.take (k + 1))))):=by
     show World.ownsRow _ _ _ _ _ _ _;rw [HKT.out,show cz o rel x=false from by simp [cz,hq0]]; simp only [Bool.false_eq_true,if_false,List.append_nil]; exact HO1.out
    have hv:=bn _ _ _ _ hq0;clear hq0;go_wp2;rw [← hW1];clear hW1;go_roundw;case rel=>exact ⟨k + 1,by omega,by go_num,HR,HBW⟩
    case measure=>simp [intOf] <;> omega
   | true =>
    cases hq1:(x.r.toList == rel.toList) with
    | false =>
     have HR:Hid (W1.ownsRow w1.heap.size 45 2 (.slice adV ys.length capV) (dX (cz o rel) dY (L.take (k + 1))).length (pairs (dX (cz o rel) dY (L.take (k + 1))))):=by
      show World.ownsRow _ _ _ _ _ _ _;rw [HKT.out,show cz o rel x=false from by simp [cz,hq0,hq1]]; simp only [Bool.false_eq_true,if_false,List.append_nil]; exact HO1.out
     have hv:=bn _ _ _ _ hq0;clear hq0;go_wp2;rw [← hW1];clear hW1;go_roundw;case rel=>exact ⟨k + 1,by omega,by go_num,HR,HBW⟩
     case measure=>simp [intOf] <;> omega
    | true =>
     have HWE:Hid (dX (cz o rel) dY (L.take (k + 1))=ys ++ [⟨x.c,x.d⟩]):=by show _=_; rw [HKT.out,show cz o rel x=true from by simp [cz,hq0,hq1]]; rfl
     obtain ⟨W4,hW4⟩:∃ W4,W4=W1.alloc (.cells #[.string x.c,.string x.d] 45):=⟨_,rfl⟩;have HO4:Hid (W4.ownsRow w1.heap.size 45 2 (.slice adV ys.length capV) ys.length (pairs ys)):=by show World.ownsRow _ _ _ _ _ _ _; rw [hW4]; exact HO1.out.alloc _
     have HN4:Hid (∀ j u,[Value.string x.c,Value.string x.d][j]?=some u→W4.cell? ((⟨wr.heap.size + 1,0,none⟩:Addr).add j)=some u):=by rw [← hz1,hW4]; exact yU W1 ⟨x.c,x.d⟩
     have HBW4:Hid (Below w1.heap.size w1 W4):=by show Below _ _ _; rw [hW4]; exact HBW.out.alloc HBW.out.size _
     have hsz4:w1.heap.size≤W4.heap.size:=HBW4.out.size;have hv:=bn _ _ _ _ hq0;clear hq0;go_wp2_with (at_builtin; rw [← hW1]; rw [← hW4]; clear hW4; refine wpList_append_own_at _ rfl _ _ 51 rfl w1.heap.size 45 iO (.agg #[.string ⟨#[]⟩,.string ⟨#[]⟩]) 2 32 Tryz.underlying51 HIO.out.1 HIO.out.2.1 HIO.out.2.2.1 HIO.out.2.2.2 rfl (by decide) _ ys.length (pairs ys) rfl HO4.out ⟨wr.heap.size + 1,0,none⟩ 1 1 [.string x.c,.string x.d] rfl rfl HN4.out (by simp [Value.oneCell']) (by unfold maxLen; omega) (by omega) hsz4 ?_);intro v' w5 hown hgr _ _;have HR:Hid (w5.ownsRow w1.heap.size 45 2 v' (dX (cz o rel) dY (L.take (k + 1))).length (pairs (dX (cz o rel) dY (L.take (k + 1))))):=by
      show World.ownsRow _ _ _ _ _ _ _;rw [HWE.out,List.length_append];have:pairs (ys ++ [⟨x.c,x.d⟩])=pairs ys ++ [.string x.c,.string x.d]:=by simp [pairs]
      rw [this]; exact hown
     have HBR:Hid (Below w1.heap.size w1 w5):=HBW4.out.grown hgr HBW4.out.size (fun g hg=>(HO4.out.lt g hg).1);clear hown hgr x0 x1;go_wp2;go_roundw;case rel=>exact ⟨k + 1,by omega,by go_num,HR,HBR⟩
     case measure=>simp [intOf] <;> omega
  ·have HE:Hid (wr.ownsRow w.heap.size 45 2 u9 (dX (cz o rel) dY L).length (pairs (dX (cz o rel) dY L))):=by
    have h:=HO.out;rw [List.take_of_length_le (by omega)] at h;exact jm h HB1.out.size
   have HBE:Hid (Below w.heap.size w wr):=HB1.out.trans (HB.out.mono HB1.out.size);clear HO;go_wp2;go_ret;exact ⟨⟨_,rfl,HE.out⟩,HBE.out⟩
set_option maxHeartbeats 8000000 in
theorem CE (ad:Option Addr) (n cap:Nat) (ad':Option Addr) (n' cap':Nat) (L:List Fc) (o:Al) (rel:ByteArray) (w:World) (hLl:L.length≤115200)
  (hF:∀ W',Below w.heap.size w W'→Calls Tryz.prog 9 #[.slice ad n cap,.slice ad' n' cap'] W' fun e w'=>(∃ v,e=.returned v∧w'.ownsRow W'.heap.size 47 5 v L.length (aB L))∧Below W'.heap.size W' w') :
  Calls Tryz.prog 25 #[.slice ad n cap,.slice ad' n' cap',.agg #[.string o.t,.string o.s],.string rel] w fun e w'=>(∃ v,e=.returned v∧w'.ownsRow w.heap.size 45 2 v (dX (cz o rel) dY L).length (pairs (dX (cz o rel) dY L)))∧Below w.heap.size w w':=by
 obtain ⟨iO,h0,h1,h2,h3⟩:=mI;have HIO:=aj (And.intro h0 (And.intro h1 (And.intro h2 h3)));obtain ⟨W0,hW0⟩:∃ W0,W0=w.alloc (.cells #[.string o.t,.string o.s] 45):=⟨_,rfl⟩;have HB0:Hid (Below w.heap.size w W0):=by show Below _ _ _; rw [hW0]; exact (Below.refl _ _).alloc (Nat.le_refl _) _
 have d0:W0.cell? ⟨w.heap.size,0,none⟩=some (.string o.t):=by rw [hW0]; simp
 have d1:W0.cell? ⟨w.heap.size,1,none⟩=some (.string o.s):=by rw [hW0]; simp
 have dl:w.heap.size < W0.heap.size:=av d0;have HFC:=aj (hF W0 HB0.out);clear hF h0 h1 h2 h3;go_enter Tryz.func25,Tryz.ntmps25;go_wp2_with fail;rw [← hW0];clear hW0;refine HFC.out.mono ?_;rintro e w1 ⟨⟨v,rfl,hown⟩,hb1⟩;obtain ⟨adL,capL,rfl,hsl⟩:=mM hown;have HSF:=aj hsl;have HB1:Hid (Below w.heap.size w w1):=HB0.out.trans (hb1.mono HB0.out.size);replace d0:=aH hb1 dl d0;replace d1:=aH hb1 dl d1;replace dl:=Nat.lt_of_lt_of_le dl hb1.size;clear hown hsl hb1 HB0 HFC;obtain ⟨W2,hW2⟩:∃ W2,W2=w1.alloc (.cells #[] 45):=⟨_,rfl⟩;have HO0:Hid (W2.ownsRow w1.heap.size 45 2 (.slice (some ⟨w1.heap.size,0,none⟩) 0 0) (dX (cz o rel) dY (L.take 0)).length (pairs (dX (cz o rel) dY (L.take 0)))):=by
  show World.ownsRow _ _ _ _ _ _ _;rw [hW2];exact World.ownsRow_lit w1 #[] 0 (Nat.le_refl _) (by unfold maxLen; omega) (by simp)
 have HB2:Hid (Below w1.heap.size w1 W2):=by show Below _ _ _; rw [hW2]; exact (Below.refl _ _).alloc (Nat.le_refl _) _
 go_wp2_with fail;rw [← hW2];clear hW2;go_loopw [10,11] (fun v i wr=>∃ k:Nat,k≤L.length∧i=.int .i64 k∧Hid (wr.ownsRow w1.heap.size 45 2 v (dX (cz o rel) dY (L.take k)).length (pairs (dX (cz o rel) dY (L.take k))))∧Hid (Below w1.heap.size w1 wr)) (fun _ i _=>L.length - (intOf i).toNat);case atStart=>exact ⟨0,Nat.zero_le _,rfl,HO0,HB2.out⟩
 case round =>
  clear HO0 HB2;obtain ⟨k,hk,rfl,HO,HB⟩:=hrel;by_cases hlk:k < L.length
  ·obtain ⟨b,off,hadr,⟨t0,t1,t2,t3,t4⟩,hbl⟩:=qZ.at0 (HSF.out.below HB.out) hlk;have hi1:(0:Int)≤(k:Int):=by omega
   have hi2:(k:Int) < (L.length:Int):=by omega
   have HKT:=aj (zu (cz o rel) dY hlk);have hkl:=wV (cz o rel) dY (L.take k);rw [List.length_take] at hkl;obtain ⟨x,hx⟩:∃ x,x=L[k]:=⟨_,rfl⟩;rw [← hx] at t0 t1 t2 t3 t4 HKT;clear hx;have x0:wr.cell? ⟨w.heap.size,0,none⟩=some (.string o.t):=aH HB.out dl d0;have x1:wr.cell? ⟨w.heap.size,1,none⟩=some (.string o.s):=aH HB.out dl d1;have HO1:=HO;have HBr:Hid (Below wr.heap.size wr wr):=Below.refl _ _;obtain ⟨ys,hys⟩:∃ ys,ys=dX (cz o rel) dY (L.take k):=⟨_,rfl⟩;rw [← hys] at HO1 HKT hkl;obtain ⟨adV,capV,rfl,-⟩:=fU HO1.out;subst hadr;clear hys HO HBr;cases hq0:qN x.a x.b o.t o.s with
   | false =>
    have hv:=bn _ _ _ _ hq0;replace hq0:=aj hq0;go_wp2_with fail;go_quiet (fail);obtain ⟨W1,hW1⟩:∃ W1,W1=wr.drewN nq:=⟨_,rfl⟩;rw [← hW1];have HBr:Hid (Below wr.heap.size wr W1):=by show Below _ _ _; rw [hW1]; exact below_drewN (Below.refl _ _) _
    have HBW:=aj (HB.out.trans (HBr.out.mono HB.out.size));replace HO1:=aj (aJ HO1.out HBr.out);have y0:=aH HBr.out hbl t3;have y1:=aH HBr.out hbl t4;clear hW1 t0 t1 t2 t3 t4 x0 x1;have HR:Hid (W1.ownsRow w1.heap.size 45 2 (.slice adV ys.length capV) (dX (cz o rel) dY (L.take (k + 1))).length (pairs (dX (cz o rel) dY (L.take (k + 1))))):=by
     show World.ownsRow _ _ _ _ _ _ _;rw [HKT.out,show cz o rel x=false from by simp [cz,hq0.out]]; simp only [Bool.false_eq_true,if_false,List.append_nil]; exact HO1.out
    go_wp2;go_roundw;case rel=>exact ⟨k + 1,by omega,by go_num,HR,HBW⟩
    case measure=>simp [intOf] <;> omega
   | true =>
    cases hq1:(x.r.toList == rel.toList) with
    | false =>
     have hv:=bn _ _ _ _ hq0;replace hq0:=aj hq0;go_wp2_with fail;go_quiet (fail);obtain ⟨W1,hW1⟩:∃ W1,W1=wr.drewN nq:=⟨_,rfl⟩;rw [← hW1];have HBr:Hid (Below wr.heap.size wr W1):=by show Below _ _ _; rw [hW1]; exact below_drewN (Below.refl _ _) _
     have HBW:=aj (HB.out.trans (HBr.out.mono HB.out.size));replace HO1:=aj (aJ HO1.out HBr.out);have y0:=aH HBr.out hbl t3;have y1:=aH HBr.out hbl t4;clear hW1 t0 t1 t2 t3 t4 x0 x1;have HR:Hid (W1.ownsRow w1.heap.size 45 2 (.slice adV ys.length capV) (dX (cz o rel) dY (L.take (k + 1))).length (pairs (dX (cz o rel) dY (L.take (k + 1))))):=by
      show World.ownsRow _ _ _ _ _ _ _;rw [HKT.out,show cz o rel x=false from by simp [cz,hq0.out,hq1]]; simp only [Bool.false_eq_true,if_false,List.append_nil]; exact HO1.out
     go_wp2;go_roundw;case rel=>exact ⟨k + 1,by omega,by go_num,HR,HBW⟩
     case measure=>simp [intOf] <;> omega
    | true =>
     have hv:=bn _ _ _ _ hq0;replace hq0:=aj hq0;go_wp2_with fail;go_quiet (fail);obtain ⟨W1,hW1⟩:∃ W1,W1=wr.drewN nq:=⟨_,rfl⟩;rw [← hW1];have HBr:Hid (Below wr.heap.size wr W1):=by show Below _ _ _; rw [hW1]; exact below_drewN (Below.refl _ _) _
     have HBW:=aj (HB.out.trans (HBr.out.mono HB.out.size));replace HO1:=aj (aJ HO1.out HBr.out);have y0:=aH HBr.out hbl t3;have y1:=aH HBr.out hbl t4;clear hW1 t0 t1 t2 t3 t4 x0 x1;have HWE:Hid (dX (cz o rel) dY (L.take (k + 1))=ys ++ [⟨x.c,x.d⟩]):=by show _=_; rw [HKT.out,show cz o rel x=true from by simp [cz,hq0.out,hq1]]; rfl
     obtain ⟨W4,hW4⟩:∃ W4,W4=W1.alloc (.cells #[.string x.c,.string x.d] 45):=⟨_,rfl⟩;have HO4:Hid (W4.ownsRow w1.heap.size 45 2 (.slice adV ys.length capV) ys.length (pairs ys)):=by show World.ownsRow _ _ _ _ _ _ _; rw [hW4]; exact HO1.out.alloc _
     have HN4:Hid (∀ j u,[Value.string x.c,Value.string x.d][j]?=some u→W4.cell? ((⟨W1.heap.size,0,none⟩:Addr).add j)=some u):=by rw [hW4]; exact yU W1 ⟨x.c,x.d⟩
     have HBW4:Hid (Below w1.heap.size w1 W4):=by show Below _ _ _; rw [hW4]; exact HBW.out.alloc HBW.out.size _
     have hsz4:w1.heap.size≤W4.heap.size:=HBW4.out.size;go_wp2_with (at_builtin; rw [← hW4]; clear hW4; refine wpList_append_own_at _ rfl _ _ 51 rfl w1.heap.size 45 iO (.agg #[.string ⟨#[]⟩,.string ⟨#[]⟩]) 2 32 Tryz.underlying51 HIO.out.1 HIO.out.2.1 HIO.out.2.2.1 HIO.out.2.2.2 rfl (by decide) _ ys.length (pairs ys) rfl HO4.out ⟨W1.heap.size,0,none⟩ 1 1 [.string x.c,.string x.d] rfl rfl HN4.out (by simp [Value.oneCell']) (by unfold maxLen; omega) (by omega) hsz4 ?_);intro v' w5 hown hgr _ _;have HR:Hid (w5.ownsRow w1.heap.size 45 2 v' (dX (cz o rel) dY (L.take (k + 1))).length (pairs (dX (cz o rel) dY (L.take (k + 1))))):=by
      show World.ownsRow _ _ _ _ _ _ _;rw [HWE.out,List.length_append];have:pairs (ys ++ [⟨x.c,x.d⟩])=pairs ys ++ [.string x.c,.string x.d]:=by simp [pairs]
      rw [this]; exact hown
     have HBR:Hid (Below w1.heap.size w1 w5):=HBW4.out.grown hgr HBW4.out.size (fun g hg=>(HO4.out.lt g hg).1);clear hown hgr y0 y1;go_wp2;go_roundw;case rel=>exact ⟨k + 1,by omega,by go_num,HR,HBR⟩
     case measure=>simp [intOf] <;> omega
  ·have HE:Hid (wr.ownsRow w.heap.size 45 2 u10 (dX (cz o rel) dY L).length (pairs (dX (cz o rel) dY L))):=by
    have h:=HO.out;rw [List.take_of_length_le (by omega)] at h;exact jm h HB1.out.size
   have HBE:Hid (Below w.heap.size w wr):=HB1.out.trans (HB.out.mono HB1.out.size);clear HO;go_wp2;go_ret;exact ⟨⟨_,rfl,HE.out⟩,HBE.out⟩
theorem dm.chg {S:Nat→Prop} {w w':World} {ad:Option Addr} {xs:List Al} (h:dm w ad xs) (hc:Chg S w w') (hn:∀ g o,xs ≠ []→ad=some ⟨g,o,none⟩→¬ S g):dm w' ad xs:=by
 rcases h with h | ⟨b,off,e,hb,hr⟩
 ·exact .inl h
 ·by_cases hx:xs=[]
  ·exact .inl hx
  ·exact .inr ⟨b,off,e,Nat.lt_of_lt_of_le hb hc.size,fun i hi=>(hr i hi).same fun o=>hc.cell hb (hn b off hx e)⟩
theorem kV.chg {S:Nat→Prop} {w w':World} {ad:Option Addr} {zs:List Int} (h:kV w ad zs) (hc:Chg S w w') (hn:∀ g o,zs ≠ []→ad=some ⟨g,o,none⟩→¬ S g):kV w' ad zs:=by
 rcases h with h | ⟨b,off,e,hb,hr⟩
 ·exact .inl h
 ·by_cases hx:zs=[]
  ·exact .inl hx
  ·exact .inr ⟨b,off,e,Nat.lt_of_lt_of_le hb hc.size,fun i hi=>by rw [hc.cell hb (hn b off hx e)]; exact hr i hi⟩
def rX (k:Nat) (xs:List Al):List Al:=(List.range xs.length).map fun i=>⟨bz (k + 2 * i),bz (k + 2 * i + 1)⟩
theorem wW (k:Nat) (xs:List Al):(rX k xs).length=xs.length:=by simp [rX]
theorem FP (k:Nat) (xs:List Al) (i:Nat) (h:i < (rX k xs).length):(rX k xs)[i]=⟨bz (k + 2 * i),bz (k + 2 * i + 1)⟩:=by simp [rX]
theorem JQ {k:Nat} {xs:List Al}:rX k xs=[] ↔ xs=[]:=by
 constructor
 ·intro h; have:=congrArg List.length h; rw [wW] at this; exact List.length_eq_zero_iff.1 this
 ·rintro rfl; rfl
set_option maxRecDepth 8000 in
set_option maxHeartbeats 4000000 in
theorem uj (ad:Option Addr) (cap:Nat) (xs:List Al) (k:Nat) (w:World) (hs:dm w ad xs) (hg:xs ≠ []→∃ g,ad=some ⟨g,0,none⟩∧cB w g) (h0:0 < k) (h1:k + 2 * xs.length≤1000000000) :
  Calls Tryz.prog 29 #[.slice ad xs.length cap,.int .i64 (k:Int)] w fun e w'=>e=.returned (.int .i64 ((k + 2 * xs.length:Nat):Int))∧dm w' ad (rX k xs)∧Chg (fun g=>xs ≠ []∧ad=some ⟨g,0,none⟩) w w':=by
 by_cases hz:xs=[]
 ·subst hz;go_enter Tryz.func29,Tryz.ntmps29;go_wp2;go_loopw [1,5] (fun kv i wr=>kv=.int .i64 (k:Int)∧i=.int .i64 0∧wr=w) (fun _ _ _=>0);case atStart=>exact ⟨rfl,rfl,rfl⟩
  case round =>
   obtain ⟨rfl,rfl,rfl⟩:=hrel;go_wp2;go_ret;exact ⟨rfl,.inl rfl,Chg.refl _ _⟩
 obtain ⟨g,rfl,hfree⟩:=hg hz;rcases hs with h | ⟨b,off,hbo,hb,hr⟩
 ·exact absurd h hz
 obtain ⟨rfl,rfl⟩:g=b∧0=off:=by injection hbo with e; injection e with e1 e2; exact ⟨e1,e2⟩
 have HZ:Hid (xs ≠ []):=hz;clear hz hbo hg;go_enter Tryz.func29,Tryz.ntmps29;go_wp2;go_loopw [1,5] (fun kv i wr=>∃ j:Nat,j≤xs.length∧kv=.int .i64 ((k + 2 * j:Nat):Int)∧i=.int .i64 (j:Int)∧Hid (∀ (x:Nat) (hx:x < xs.length),Iw wr g (x * 2) (if x < j then ⟨bz (k + 2 * x),bz (k + 2 * x + 1)⟩ else xs[x]))∧Hid (cB wr g)∧Hid (Chg (fun y=>xs ≠ []∧(some ⟨g,0,none⟩:Option Addr)=some ⟨y,0,none⟩) w wr)) (fun _ i _=>xs.length - (intOf i).toNat);case atStart=>exact ⟨0,Nat.zero_le _,rfl,rfl,fun x hx=>by have:=hr x hx; simpa using this,hfree,Chg.refl _ _⟩
 case round =>
  clear hr;obtain ⟨j,hj,rfl,rfl,HC,HFR,HCH⟩:=hrel;by_cases hlt:j < xs.length
  ·obtain ⟨c0,c1⟩:=HC.out j hlt;rw [if_neg (by omega)] at c0 c1;have hgl:g < wr.heap.size:=Nat.lt_of_lt_of_le hb HCH.out.size;have hj1:(0:Int)≤(j:Int):=by omega
   have hj2:(j:Int) < (xs.length:Int):=by omega
   have hjb:k + 2 * j + 2≤1000000000:=by omega
   have HV0:Hid (Chg (fun y=>y=g) wr wr):=Chg.refl _ _;have HO0:Hid (∀ o,(∀ c,c < 0→o ≠ j * 2 + c)→wr.cell? ⟨g,o,none⟩=wr.cell? ⟨g,o,none⟩):=fun o _=>rfl;go_wp2_with fail;refine (aQ _ (k + 2 * j) _ (by omega) (by omega) (by omega)).mono ?_;rintro e u0 ⟨rfl,hb0⟩;have HB0:Hid (Below wr.heap.size wr u0):=hb0;have e0_0:u0.cell? ⟨g,j * 2,none⟩=some (.string xs[j].t):=mK hb0 hgl c0;have e0_1:u0.cell? ⟨g,j * 2 + 1,none⟩=some (.string xs[j].s):=mK hb0 hgl c1;have fz0:∀ y,u0.frozen? ⟨g,y,none⟩=false:=fun y=>mF hb0 hgl (HV0.out.free g hgl HFR.out y);obtain ⟨v1,hV1⟩:∃ v,v=u0.setCell ⟨g,j * 2,none⟩ (.string (bz (k + 2 * j))):=⟨_,rfl⟩;have HV1:Hid (Chg (fun y=>y=g) wr v1):=HV0.out.trans ((Chg.of HB0.out).trans (by rw [hV1]; exact Chg.set _ rfl));have hg1:g < v1.heap.size:=Nat.lt_of_lt_of_le hgl HV1.out.size;have HO1:Hid (∀ o,(∀ c,c < 1→o ≠ j * 2 + c)→v1.cell? ⟨g,o,none⟩=wr.cell? ⟨g,o,none⟩):=fun o ho=>by rw [hV1,mO (by have:=ho 0 (by omega); omega),HB0.out.cell (p:=⟨g,o,none⟩) hgl]
   have HW1_0:Hid (v1.cell? ⟨g,j * 2,none⟩=some (.string (bz (k + 2 * j)))):=by show _=_; rw [hV1]; exact mS e0_0
   replace c1:v1.cell? ⟨g,j * 2 + 1,none⟩=some (.string xs[j].s):=by rw [hV1,mO (by omega)]; exact e0_1
   clear hb0 c0;go_wp2_with fail;rw [← hV1];refine (aQ _ (k + 2 * j + 1) _ (by omega) (by omega) (by omega)).mono ?_;rintro e u1 ⟨rfl,hb1⟩;have HB1:Hid (Below v1.heap.size v1 u1):=hb1;have e1_1:u1.cell? ⟨g,j * 2 + 1,none⟩=some (.string xs[j].s):=mK hb1 hg1 c1;have fz1:∀ y,u1.frozen? ⟨g,y,none⟩=false:=fun y=>mF hb1 hg1 (HV1.out.free g hgl HFR.out y);obtain ⟨v2,hV2⟩:∃ v,v=u1.setCell ⟨g,j * 2 + 1,none⟩ (.string (bz (k + 2 * j + 1))):=⟨_,rfl⟩;have HV2:Hid (Chg (fun y=>y=g) wr v2):=HV1.out.trans ((Chg.of HB1.out).trans (by rw [hV2]; exact Chg.set _ rfl));have hg2:g < v2.heap.size:=Nat.lt_of_lt_of_le hgl HV2.out.size;have HO2:Hid (∀ o,(∀ c,c < 2→o ≠ j * 2 + c)→v2.cell? ⟨g,o,none⟩=wr.cell? ⟨g,o,none⟩):=fun o ho=>by rw [hV2,mO (by have:=ho 1 (by omega); omega),HB1.out.cell (p:=⟨g,o,none⟩) hg1]; exact HO1.out o fun c hc=>ho c (by omega)
   have HW2_1:Hid (v2.cell? ⟨g,j * 2 + 1,none⟩=some (.string (bz (k + 2 * j + 1)))):=by show _=_; rw [hV2]; exact mS e1_1
   have HW2_0:Hid (v2.cell? ⟨g,j * 2,none⟩=some (.string (bz (k + 2 * j)))):=by show _=_; rw [hV2,mO (by omega),HB1.out.cell (p:=⟨g,j * 2,none⟩) hg1]; exact HW1_0.out
   clear hb1 hV1 fz0 e0_0 e0_1 c1;have HCN:Hid (∀ (x:Nat) (hx:x < xs.length),Iw v2 g (x * 2) (if x < j + 1 then ⟨bz (k + 2 * x),bz (k + 2 * x + 1)⟩ else xs[x])):=by
    intro x hx;by_cases e:x=j
    ·subst e;rw [if_pos (by omega)];exact ⟨HW2_0.out,HW2_1.out⟩
    ·have hx2:=HC.out x hx;have e2:(if x < j + 1 then (⟨bz (k + 2 * x),bz (k + 2 * x + 1)⟩:Al) else xs[x])=(if x < j then ⟨bz (k + 2 * x),bz (k + 2 * x + 1)⟩ else xs[x]):=by
      by_cases h2:x < j
      ·rw [if_pos h2,if_pos (by omega)]
      ·rw [if_neg h2,if_neg (by omega)]
     rw [e2];obtain ⟨p0,p1⟩:=hx2;exact ⟨by rw [HO2.out _ (fun c hc=>by omega)]; exact p0,by rw [HO2.out _ (fun c hc=>by omega)]; exact p1⟩
   have HCHN:Hid (Chg (fun y=>xs ≠ []∧(some ⟨g,0,none⟩:Option Addr)=some ⟨y,0,none⟩) w v2):=HCH.out.trans (HV2.out.mono fun y hy=>⟨HZ.out,by rw [hy]⟩);have HFN:Hid (cB v2 g):=HV2.out.free g hgl HFR.out;have HVE:Hid (v2=_):=hV2;clear hV2;go_wp2;rw [← HVE.out];go_roundw;case rel=>exact ⟨j + 1,by omega,by go_num,by go_num,HCN,HFN,HCHN⟩
   case measure=>simp [intOf] <;> omega
  ·obtain rfl:j=xs.length:=by omega
   have HS3:Hid (dm wr (some ⟨g,0,none⟩) (rX k xs)):=.inr ⟨g,0,rfl,Nat.lt_of_lt_of_le hb HCH.out.size,fun i hi=>by
    have h2:i < xs.length:=by rw [wW] at hi; exact hi
    have:=HC.out i h2;rw [if_pos h2] at this;rw [Nat.zero_add,FP]; exact this⟩
   go_wp2;go_ret;exact ⟨by go_num,HS3.out,HCH.out⟩
theorem tO {w w1 w2:World} {b o:Nat} {z0 z1:Value} (h:w1.cell? ⟨b,o,none⟩=some z0∧w1.cell? ⟨b,o + 1,none⟩=some z1∧b < w1.heap.size∧Below w.heap.size w w1) (hb:Below w1.heap.size w1 w2):w2.cell? ⟨b,o,none⟩=some z0∧w2.cell? ⟨b,o + 1,none⟩=some z1∧b < w2.heap.size∧Below w.heap.size w w2:=by
 obtain ⟨a0,a1,h1,h2⟩:=h;exact ⟨mK hb h1 a0,mK hb h1 a1,Nat.lt_of_lt_of_le h1 hb.size,h2.trans (hb.mono h2.size)⟩
set_option maxRecDepth 8000 in
set_option maxHeartbeats 4000000 in
theorem l6 (ad:Option Addr) (cap:Nat) (xs:List Al) (k:Nat) (w:World) (hs:dm w ad (rX k xs)) (h0:0 < k) (h1:k + 2 * xs.length≤1000000000) :
  Calls Tryz.prog 30 #[.slice ad xs.length cap,.int .i64 (k:Int)] w fun e w'=>e=.returned (.int .i64 ((k + 2 * xs.length:Nat):Int))∧Below w.heap.size w w':=by
 have HS:Hid (dm w ad (rX k xs)):=hs;clear hs;go_enter Tryz.func30,Tryz.ntmps30;go_wp2;go_loopw [1,5] (fun kv i wr=>∃ j:Nat,j≤xs.length∧kv=.int .i64 ((k + 2 * j:Nat):Int)∧i=.int .i64 (j:Int)∧Hid (Below w.heap.size w wr)) (fun _ i _=>xs.length - (intOf i).toNat);case atStart=>exact ⟨0,Nat.zero_le _,rfl,rfl,Below.refl _ _⟩
 case round =>
  obtain ⟨j,hj,rfl,rfl,HB⟩:=hrel;by_cases hlt:j < xs.length
  ·rcases HS.out.below HB.out with h | ⟨b,off,rfl,hb,hr⟩
   ·rw [JQ] at h; rw [h] at hlt; simp at hlt
   obtain ⟨c0,c1⟩:=hr j (by rw [wW]; exact hlt);rw [FP] at c0 c1;have hj1:(0:Int)≤(j:Int):=by omega
   have hj2:(j:Int) < (xs.length:Int):=by omega
   have hjb:k + 2 * j + 2≤1000000000:=by omega
   clear hr;go_wp2_with fail
   go_region_held3 (fun w'=>w'.cell? ⟨b,off + j * 2,none⟩=some (.string (bz (k + 2 * j)))∧w'.cell? ⟨b,off + j * 2 + 1,none⟩=some (.string (bz (k + 2 * j + 1)))∧b < w'.heap.size∧Below w.heap.size w w')
    (first | assumption | exact tO (by assumption) hbx | exact ⟨c0,c1,hb,HB.out.drew⟩)
    (first | (go_at_call 47; refine (aQ _ (k + 2 * j) _ (by omega) (by omega) (by omega)).mono ?_; rintro e w' ⟨rfl,hbx⟩))
   rename_i hH;clear c0 c1 hb HB;obtain ⟨c0,c1,hb,hB⟩:=hH;have HB:Hid (Below w.heap.size w _):=hB;clear hB;go_wp2_with fail
   go_region_held3 (fun w'=>w'.cell? ⟨b,off + j * 2,none⟩=some (.string (bz (k + 2 * j)))∧w'.cell? ⟨b,off + j * 2 + 1,none⟩=some (.string (bz (k + 2 * j + 1)))∧b < w'.heap.size∧Below w.heap.size w w')
    (first | assumption | exact tO (by assumption) hbx | exact ⟨c0,c1,hb,HB.out.drew⟩)
    (first | (go_at_call 47; refine (aQ _ (k + 2 * j + 1) _ (by omega) (by omega) (by omega)).mono ?_; rintro e w' ⟨rfl,hbx⟩))
   rename_i hH;clear c0 c1 hb HB;obtain ⟨c0,c1,hb,hB⟩:=hH;have HB:Hid (Below w.heap.size w _):=hB;clear hB;clear c0 c1 hb;go_wp2;go_roundw;case rel=>exact ⟨j + 1,by omega,by go_num,by go_num,HB⟩
   case measure=>simp [intOf] <;> omega
  ·obtain rfl:j=xs.length:=by omega
   go_wp2;go_ret;exact ⟨by go_num,HB.out⟩
def AP {α:Type} (F:Fence) (n:Nat) (P:Program) (g:Nat) (lb:Array Value) (encs:α→Array Value) (Kp:Nat→World→World→Prop) (Q:List α→World→Prop) (E:List α→α→Prop) (S:List α→Prop) (w:World):Prop :=
 ∀ (l:Nat) (J:List α→World→Prop) (W:World),Below w.heap.size w W→l < W.heap.size→w.heap.size≤l→OwnFrom W.heap.size J→(∀ pre W1,J pre W1→Q pre W1) →
  (∀ pre x W1,J pre W1→E pre x→YieldAt F (n - 1) P l (encs x) W1 fun e W'=>e=.returned (.bool true)∧J (pre ++ [x]) W'∧Kp l W1 W') →
  J [] W →
  CallsIn F n P g (#[.func (.yield l) #[] #[]] ++ lb) W fun e W'=>(∃ v,e=.returned v)∧∃ xs,S xs∧J xs W'
def JR (B:Nat) (R:World→Prop) (W:World):Exit→Act→World→Prop
 | .normal,_,W'=>KeepsFrom B W W'∧R W'
 | _,_,_=>False
theorem FQ {β:Type} {B k:Nat} {o:Obj} (hk:k < B):OwnFrom B (fun (_:β) W=>W.heap[k]?=some o):=fun _ X Y row hs hg hr=>(hg.block k (Array.getElem?_eq_some_iff.1 hs).1 fun e=>by have:=(hr k e.symm).1; omega).trans hs
theorem Mt {β:Type} {B B':Nat} {I:β→World→Prop} (h:OwnFrom B I) (hB:B≤B'):OwnFrom B' I:=fun s X Y row hs hg hr=>h s X Y row hs hg fun r e=>⟨Nat.le_trans hB (hr r e).1,(hr r e).2⟩
theorem nk {α:Type} {F:Fence} {n:Nat} {P:Program} {g:Operand} {ps:Array Tmp} {assign body:Code} {Q:Exit→Act→World→Prop} {a:Act} {w:World} (hro:F.round=none) (h1:1≤n) {gf:Nat} {lb:Array Value} (hg:a.eval g=.func (.func gf) #[] lb) (hFg:F.fn gf) (eg:∀ args w,(callFunc gf args).run P w=.ok (.enter gf args) w)
  {encs:α→Array Value} {Kp:Nat→World→World→Prop} {Tell:List α→World→Prop} {E:List α→α→Prop} {S:List α→Prop} {w0:World} (hseq:AP F (n - 1) P gf lb encs Kp Tell E S w0) (hb0:Below w0.heap.size w0 w) (hps:∀ x,(encs x).size=ps.size)
  (hKt:∀ {l:Nat} {X Y Z:World},Kp l X Y→Kp l Y Z→Kp l X Z) (hKb:∀ (W:World) (l:Nat) (o o':Obj),W.heap[l]?=some o→o.isCells=false→Kp l W (W.putObj l o'))
  (I:List α→World→Prop) (hI:OwnFrom w.heap.size I) (hT:∀ pre W,I pre W→Tell pre W) (h0:I [] w)
  (Ax:α→Act→World→Prop) (hAx:∀ x a',OwnFrom w.heap.size (fun (_:Unit) W=>Ax x a' W))
  (hassign:∀ (l:Nat) (pre:List α) (x:α) (W:World) (K:Act→World→Prop),I pre W→(∀ a' W',KeepsFrom w.heap.size W W'→Kp l W W'→I pre W'→Ax x a' W'→K a' W') →
   assign.wpIn (F.inRound l) (n - 1 - 1) P (Exit.then K (fun _ _ _=>False)) { tmps:=(ps.zip (encs x)).foldl (fun t (p,v)=>t.setIfInBounds p v) a.tmps,defers:=[] } W)
  (hbody:∀ (l:Nat) (pre:List α) (x:α) (a':Act) (W:World),w.heap.size≤l→E pre x→I pre W→Ax x a' W→body.wpIn (F.inRound l) (n - 1 - 1) P (JR w.heap.size (fun W'=>Kp l W W'∧I (pre ++ [x]) W') W) a' W)
  (hdone:∀ (D:Nat) (xs:List α) (W:World),w.heap.size≤D→S xs→I xs W→W.heap[D]?=some (.deferred (some []))→Q .normal { a with defers:={ target:=.collected D,args:=#[] }::a.defers } W) :
  (Code.rangeFunc g ps assign body).wpIn F n P Q a w:=by
 refine wpIn_rangeFunc fun fn hfn=>?_;rw [hro];obtain ⟨rc,hrc⟩:∃ rc:LoopState→Loop,rc=fun st=>{ state:=st,pending:=none,fn,tmps:=a.tmps,params:=ps,assign,body,defers:=w.heap.size }:=⟨_,rfl⟩;obtain ⟨W0,hW0⟩:∃ W0,W0=w.alloc (.deferred (some [])):=⟨_,rfl⟩;have s0:W0.heap.size=w.heap.size + 1:=by rw [hW0]; simp
 obtain ⟨W1,hW1⟩:∃ W1,W1=W0.alloc (.loop (rc .ready)):=⟨_,rfl⟩;have s1:W1.heap.size=w.heap.size + 2:=by rw [hW1]; simp; omega
 have k0:W0.heap[w.heap.size]?=some (.deferred (some [])):=by rw [hW0]; exact World.alloc_heap_new w _
 have k1:W1.heap[w.heap.size]?=some (.deferred (some [])):=by rw [hW1]; exact (Below.heap_alloc _ _ _ (by omega)).trans k0
 have r1:W1.heap[w.heap.size + 1]?=some (.loop (rc .ready)):=by rw [hW1,← s0]; exact World.alloc_heap_new W0 _
 have i1:I [] W1:=by rw [hW1,hW0]; exact hI.alloc _ (hI.alloc _ h0)
 have b1:Below w.heap.size w W1:=by rw [hW1,hW0]; exact ((Below.refl _ w).alloc (Nat.le_refl _) _).alloc (by simp) _
 have bb:Below w0.heap.size w0 W1:=hb0.trans (b1.mono hb0.size);refine ⟨w.heap.size + 1,[{ target:=.collected w.heap.size,args:=#[] }],W1,{ target:=.fn (.func gf) lb,args:=#[.func (.yield (w.heap.size + 1)) #[] #[]] },W1,gf,#[.func (.yield (w.heap.size + 1)) #[] #[]] ++ lb,W1,?_,?_,?_,?_,fun _=>h1,?_⟩
 ·rw [hW1,hW0,hrc]; exact run_enterLoop_outer _ _ _ _ _
 ·simp only [resolve,hg];simp [go_sem]
 ·intro f hf; simp [Target.leads] at hf; subst hf; exact hFg
 ·simp [invoke,go_sem,eg]
 have hJ:OwnFrom W1.heap.size (fun pre W=>I pre W∧W.heap[w.heap.size + 1]?=some (.loop (rc .ready))∧W.heap[w.heap.size]?=some (.deferred (some []))) :=
  (Mt hI (by omega)).and ((FQ (by omega)).and (FQ (by omega)))
 refine (hseq (w.heap.size + 1) _ W1 bb (by omega) (by have:=hb0.size; omega) hJ (fun pre W h=>hT pre W h.1) ?_ ⟨i1,r1,k1⟩).mono ?_
 ·rintro pre x W ⟨hi,hl,hk⟩ hEx;have hy:=run_yield (P:=P) (args:=encs x) hl (by rw [hrc]; exact hps x);rw [hrc] at hy;refine ⟨fn,_,assign,body,hy,roundIn_of_wpIn hfn (hassign _ pre x W _ hi ?_)⟩;clear hy;intro a' Wa hka hkp hia hax;have hla:=hka.same _ _ (by omega) hl rfl;have hda:=hka.same _ _ (Nat.le_refl _) hk rfl;have hlt:w.heap.size + 1 < Wa.heap.size:=(Array.getElem?_eq_some_iff.1 hla).1;refine ⟨_,run_beginRound hla (by rw [hrc]),?_⟩;obtain ⟨Wb,hWb⟩:∃ Wb,Wb=Wa.putObj (w.heap.size + 1) (.loop { rc .ready with state:=.busy }):=⟨_,rfl⟩;rw [← hWb];have lb2:Wb.heap[w.heap.size + 1]?=some (.loop { rc .ready with state:=.busy }):=by rw [hWb]; exact World.putObj_heap_same hlt
  have db2:Wb.heap[w.heap.size]?=some (.deferred (some [])):=by rw [hWb]; exact (World.putObj_heap_other (by omega)).trans hda
  have kb2:Kp (w.heap.size + 1) Wa Wb:=by rw [hWb]; exact hKb _ _ _ _ hla rfl
  have ib2:I pre Wb:=by rw [hWb]; exact hI.putObj _ hia (by omega) hla rfl
  have ab2:Ax x a' Wb:=by rw [hWb]; exact (hAx x a').putObj (s:=()) _ hax (by omega) hla rfl
  refine wpIn_mono (hbody _ pre x a' _ (by omega) hEx ib2 ab2) ?_;intro e a3 W3 hp;cases e with
  | normal =>
   obtain ⟨hk3,hkp3,hi3⟩:=hp;have hl3:=hk3.same _ _ (by omega) lb2 rfl;have hd3:=hk3.same _ _ (Nat.le_refl _) db2 rfl;have hend:=run_endRound (P:=P) none hl3;rw [hrc] at hend;refine ⟨_,_,hend,rfl,⟨hI.putObj _ hi3 (by omega) hl3 rfl,?_,(World.putObj_heap_other (by omega)).trans hd3⟩,hKt hkp (hKt (hKt kb2 hkp3) (hKb _ _ _ _ hl3 rfl))⟩;rw [hrc];exact World.putObj_heap_same (Array.getElem?_eq_some_iff.1 hl3).1
  | ret=>exact hp.elim
  | exit id=>exact hp.elim
  | goto t=>exact hp.elim
  | panic ch=>exact hp.elim
  | outgrown=>exact hp.elim
 ·rintro e W2 ⟨⟨v,rfl⟩,xs,hS,hi,hl,hk⟩;have hend:=run_endLoop (P:=P) hl (by rw [hrc]; simp);rw [hrc] at hend;exact ⟨none,_,hend,hdone _ xs _ (Nat.le_refl _) hS (hI.putObj _ hi (by omega) hl rfl) ((World.putObj_heap_other (by omega)).trans hk)⟩
structure KpO (b l:Nat) (W W':World):Prop where
 size:W.heap.size≤W'.heap.size
 cells:∀ (g:Nat) (cs:Array Value) (T:TypeId) (m:Nat × Nat),W.heap[g]?=some (.cells cs T m)→T ≠ 47→T ≠ 26→W'.heap[g]?=some (.cells cs T m)
 other:∀ (g:Nat) (o:Obj),W.heap[g]?=some o→o.isCells=false→g ≠ l→g ≠ b→W'.heap[g]?=some o
structure KpI (W W':World):Prop where
 size:W.heap.size≤W'.heap.size
 cells:∀ (g:Nat) (cs:Array Value) (T:TypeId) (m:Nat × Nat),W.heap[g]?=some (.cells cs T m)→T=45 ∨ T=115→W'.heap[g]?=some (.cells cs T m)
theorem KpO.trans {b l:Nat} {X Y Z:World} (h:KpO b l X Y) (k:KpO b l Y Z):KpO b l X Z :=
 ⟨Nat.le_trans h.size k.size,fun g cs T m hg h1 h2=>k.cells g cs T m (h.cells g cs T m hg h1 h2) h1 h2,fun g o hg hc h1 h2=>k.other g o (h.other g o hg hc h1 h2) hc h1 h2⟩
theorem KpI.trans {X Y Z:World} (h:KpI X Y) (k:KpI Y Z):KpI X Z :=
 ⟨Nat.le_trans h.size k.size,fun g cs T m hg h1=>k.cells g cs T m (h.cells g cs T m hg h1) h1⟩
theorem kN {W:World} {l g:Nat} {o':Obj} (h:g ≠ l):(W.putObj l o').heap[g]?=W.heap[g]?:=World.putObj_heap_other h
theorem KpO.put {b l:Nat} {W:World} {o o':Obj} (h:W.heap[l]?=some o) (hc:o.isCells=false):KpO b l W (W.putObj l o') where
 size:=by simp
 cells g cs T m hg _ _:=by
  have:g ≠ l:=fun e=>by subst e; rw [h] at hg; injection hg with hg; subst hg; cases hc
  rw [kN this]; exact hg
 other g x hg _ h1 _:=by rw [kN h1]; exact hg
theorem KpI.put {l:Nat} {W:World} {o o':Obj} (h:W.heap[l]?=some o) (hc:o.isCells=false):KpI W (W.putObj l o') where
 size:=by simp
 cells g cs T m hg _:=by
  have:g ≠ l:=fun e=>by subst e; rw [h] at hg; injection hg with hg; subst hg; cases hc
  rw [kN this]; exact hg
theorem KpO.below {b l:Nat} {W W':World} (h:Below W.heap.size W W'):KpO b l W W' :=
 ⟨h.size,fun g cs T m hg _ _=>(h.block g (Array.getElem?_eq_some_iff.1 hg).1).trans hg,fun g o hg _ _ _=>(h.block g (Array.getElem?_eq_some_iff.1 hg).1).trans hg⟩
theorem KpI.below {W W':World} (h:Below W.heap.size W W'):KpI W W' :=
 ⟨h.size,fun g cs T m hg _=>(h.block g (Array.getElem?_eq_some_iff.1 hg).1).trans hg⟩
theorem KpO.toI {b l:Nat} {W W':World} (h:KpO b l W W'):KpI W W' :=
 ⟨h.size,fun g cs T m hg hT=>h.cells g cs T m hg (by rcases hT with e | e <;> (rw [e]; decide)) (by rcases hT with e | e <;> (rw [e]; decide))⟩
theorem wY {W W':World} (h:Below W.heap.size W W'):W.grownBy W' none:=⟨h.os,h.tape,h.output,h.size,fun k hk _=>h.block k hk⟩
theorem jU {β:Type} {B:Nat} {I:β→World→Prop} (h:OwnFrom B I) {s:β} {W W':World} (hs:I s W) (hb:Below W.heap.size W W'):I s W':=h s W W' none hs (wY hb) (fun r e=>by cases e)
end Go.Proofs.YtogjfppkbkgaeaaGreat
