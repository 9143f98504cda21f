/- What the document's UsersOf picks out of the facts. -/
import Derived.Test.YtajkkeikihhejaaGreatSq
import Derived.Test.YtajkkeikihhejaaGreatJ43
open Go.Proofs.Tryz
set_option maxHeartbeats 80000000
namespace Go.Proofs.YtajkkeikihhejaaGreat
set_option maxRecDepth 100000
set_option linter.unusedVariables false
open Go.ChangeShapes Go.WideShapes Go.ChangeAt Go.RowKit Go.Maps
open Pl
theorem Gs (ad:Option Addr) (n cap:Nat) (TH:Option Addr) (n' cap':Nat) (L:List Fc) (o:Al) (rel:aD) (w:ae) (Wz:L.length≤115200)
  (hF:∀ W',af w W'→Calls prog 47 #[.slice ad n cap,.slice TH n' cap'] W' fun e w'=>(∃ v,e=.returned v∧w'.ownsRow W'.heap.size 29 5 v L.length (aF L))∧af W' w') :
  Calls prog 21 #[.slice ad n cap,.slice TH n' cap',.agg #[.string o.t,.string o.s],.string rel] w fun e w'=>(∃ v,e=.returned v∧w'.ownsRow w.heap.size 27 2 v (aZ (bW o rel) fO L).length (pairs (aZ (bW o rel) fO L)))∧af w w':=by
 obtain ⟨iO,h0,h1,h2,h3⟩:=mg;have Ut:=ax (And.intro h0 (And.intro h1 (And.intro h2 h3)));obtain ⟨W0,hW0⟩:∃ W0,W0=w.alloc (.cells #[.string o.t,.string o.s] 27):=⟨_,rfl⟩;have HB0:=nA hW0;have d0:W0.cell? ⟨w.heap.size,0,none⟩=some (.string o.t):=by rw [hW0]; simp
 have d1:W0.cell? ⟨w.heap.size,1,none⟩=some (.string o.s):=by rw [hW0]; simp
 have dl:w.heap.size < W0.heap.size:=aB d0;have Y6:=ax (hF W0 HB0.out);clear hF h0 h1 h2 h3;go_enter func21,ntmps21;go_wp2_with fail;rw [← hW0];clear hW0;refine Y6.out.mono ?_;rintro e w1 ⟨⟨v,rfl,hown⟩,hb1⟩;obtain ⟨XY,VK,rfl,hsl⟩:=kJ hown;have VI:=ax hsl;have HB1:=jI HB0 hb1;replace d0:=aG hb1 dl d0;replace d1:=aG hb1 dl d1;replace dl:=Sv dl hb1.size;clear hown hsl hb1 HB0 Y6;obtain ⟨W2,hW2⟩:∃ W2,W2=w1.alloc (.cells #[] 27):=⟨_,rfl⟩;have UC:Hid (W2.ownsRow w1.heap.size 27 2 (.slice (some ⟨w1.heap.size,0,none⟩) 0 0) (aZ (bW o rel) fO (L.take 0)).length (pairs (aZ (bW o rel) fO (L.take 0)))):=by
  show World.ownsRow _ _ _ _ _ _ _;rw [hW2];exact World.ownsRow_lit w1 #[] 0 (Sy _) (by unfold maxLen; omega) (by simp)
 have HB2:=nA hW2;go_wp2_with fail;rw [← hW2];clear hW2;go_loopw [10,11] (fun v i wr=>∃ k:Nat,k≤L.length∧i=.int .i64 k∧Hid (wr.ownsRow w1.heap.size 27 2 v (aZ (bW o rel) fO (L.take k)).length (pairs (aZ (bW o rel) fO (L.take k))))∧Hid (af w1 wr)) (fun _ i _=>L.length - (intOf i).toNat);case atStart=>exact ⟨0,SC _,rfl,UC,HB2.out⟩
 clear UC HB2;obtain ⟨k,hk,rfl,HO,HB⟩:=hrel;by_cases hlk:k < L.length
 ·obtain ⟨b,off,TC,⟨t0,t1,t2,t3,t4⟩,hbl⟩:=wK.at0 (VI.out.below HB.out) hlk;have hi1:=bq k;have hi2:(k:Int) < (L.length:Int):=by omega
  have Uv:=ax (rJ (bW o rel) fO hlk);have hkl:=ow (bW o rel) fO (L.take k);rw [Tg] at hkl;obtain ⟨x,hx⟩:∃ x,x=L[k]:=⟨_,rfl⟩;rw [← hx] at t0 t1 t2 t3 t4 Uv;clear hx;have x0:wr.cell? ⟨w.heap.size,0,none⟩=some (.string o.t):=aG HB.out dl d0;have x1:wr.cell? ⟨w.heap.size,1,none⟩=some (.string o.s):=aG HB.out dl d1;have TE:=HO;have TJ:Hid (af wr wr):=Sz _ _;obtain ⟨ys,hys⟩:∃ ys,ys=aZ (bW o rel) fO (L.take k):=⟨_,rfl⟩;rw [← hys] at TE Uv hkl;obtain ⟨Vd,T9,rfl,-⟩:=gP TE.out;subst TC;clear hys HO TJ;cases hq0:rE x.a x.b o.t o.s;case false=>
   have hv:=bf _ _ _ _ hq0;replace hq0:=ax hq0;go_wp2_with fail;go_quiet (fail);obtain ⟨W1,hW1⟩:∃ W1,W1=wr.drewN nq:=⟨_,rfl⟩;rw [← hW1];have TJ:Hid (af wr W1):=by show Below _ _ _; rw [hW1]; exact below_drewN (Sz _ _) _
   have TB:=ax (HB.out.trans (TJ.out.mono HB.out.size));replace TE:=ax (aK TE.out TJ.out);have y0:=aG TJ.out hbl t3;have y1:=aG TJ.out hbl t4;clear hW1 t0 t1 t2 t3 t4 x0 x1;have HR:Hid (W1.ownsRow w1.heap.size 27 2 (.slice Vd ys.length T9) (aZ (bW o rel) fO (L.take (k + 1))).length (pairs (aZ (bW o rel) fO (L.take (k + 1))))):=by
    show World.ownsRow _ _ _ _ _ _ _;rw [Uv.out,show bW o rel x=false from by simp [bW,hq0.out]]; simp only [Bool.false_eq_true,if_false,List.append_nil]; exact TE.out
   go_wp2;go_roundw;case rel=>exact ⟨k + 1,by omega,by go_num,HR,TB⟩
   simp [intOf] <;> omega
  cases hq1:(x.r.toList == rel.toList);case false=>
   have hv:=bf _ _ _ _ hq0;replace hq0:=ax hq0;go_wp2_with fail;go_quiet (fail);obtain ⟨W1,hW1⟩:∃ W1,W1=wr.drewN nq:=⟨_,rfl⟩;rw [← hW1];have TJ:Hid (af wr W1):=by show Below _ _ _; rw [hW1]; exact below_drewN (Sz _ _) _
   have TB:=ax (HB.out.trans (TJ.out.mono HB.out.size));replace TE:=ax (aK TE.out TJ.out);have y0:=aG TJ.out hbl t3;have y1:=aG TJ.out hbl t4;clear hW1 t0 t1 t2 t3 t4 x0 x1;have HR:Hid (W1.ownsRow w1.heap.size 27 2 (.slice Vd ys.length T9) (aZ (bW o rel) fO (L.take (k + 1))).length (pairs (aZ (bW o rel) fO (L.take (k + 1))))):=by
    show World.ownsRow _ _ _ _ _ _ _;rw [Uv.out,show bW o rel x=false from by simp [bW,hq0.out,hq1]]; simp only [Bool.false_eq_true,if_false,List.append_nil]; exact TE.out
   go_wp2;go_roundw;case rel=>exact ⟨k + 1,by omega,by go_num,HR,TB⟩
   simp [intOf] <;> omega
  have hv:=bf _ _ _ _ hq0;replace hq0:=ax hq0;go_wp2_with fail;go_quiet (fail);obtain ⟨W1,hW1⟩:∃ W1,W1=wr.drewN nq:=⟨_,rfl⟩;rw [← hW1];have TJ:Hid (af wr W1):=by show Below _ _ _; rw [hW1]; exact below_drewN (Sz _ _) _
  have TB:=ax (HB.out.trans (TJ.out.mono HB.out.size));replace TE:=ax (aK TE.out TJ.out);have y0:=aG TJ.out hbl t3;have y1:=aG TJ.out hbl t4;clear hW1 t0 t1 t2 t3 t4 x0 x1;have Xv:Hid (aZ (bW o rel) fO (L.take (k + 1))=ys ++ [⟨x.c,x.d⟩]):=by show _=_; rw [Uv.out,show bW o rel x=true from by simp [bW,hq0.out,hq1]]; rfl
  obtain ⟨W4,TY⟩:∃ W4,W4=W1.alloc (.cells #[.string x.c,.string x.d] 27):=⟨_,rfl⟩;have TI:Hid (W4.ownsRow w1.heap.size 27 2 (.slice Vd ys.length T9) ys.length (pairs ys)):=by show World.ownsRow _ _ _ _ _ _ _; rw [TY]; exact TE.out.alloc _
  have Xw:Hid (∀ j u,[Value.string x.c,.string x.d][j]?=some u→W4.cell? ((⟨W1.heap.size,0,none⟩:Addr).add j)=some u):=by rw [TY]; exact xM W1 ⟨x.c,x.d⟩
  have TS:Hid (af w1 W4):=by show Below _ _ _; rw [TY]; exact TB.out.alloc TB.out.size _
  have U2:w1.heap.size≤W4.heap.size:=TS.out.size;go_wp2_with (at_builtin; rw [← TY]; clear TY; refine wpList_append_own_at _ rfl _ _ 49 rfl w1.heap.size 27 iO (.agg #[.string ⟨#[]⟩,.string ⟨#[]⟩]) 2 32 underlying49 Ut.out.1 Ut.out.2.1 Ut.out.2.2.1 Ut.out.2.2.2 rfl (by decide) _ ys.length (pairs ys) rfl TI.out ⟨W1.heap.size,0,none⟩ 1 1 [.string x.c,.string x.d] rfl rfl Xw.out (by simp [Value.oneCell']) (by unfold maxLen; omega) (by omega) U2 ?_);intro v' w5 hown hgr _ _;have HR:Hid (w5.ownsRow w1.heap.size 27 2 v' (aZ (bW o rel) fO (L.take (k + 1))).length (pairs (aZ (bW o rel) fO (L.take (k + 1))))):=by
   show World.ownsRow _ _ _ _ _ _ _;rw [Xv.out,SE];have:pairs (ys ++ [⟨x.c,x.d⟩])=pairs ys ++ [.string x.c,.string x.d]:=by simp [pairs]
   rw [this]; exact hown
  have Vn:Hid (af w1 w5):=TS.out.grown hgr TS.out.size (fun g hg=>(TI.out.lt g hg).1);clear hown hgr y0 y1;go_wp2;go_roundw;case rel=>exact ⟨k + 1,by omega,by go_num,HR,Vn⟩
  simp [intOf] <;> omega
 have HE:Hid (wr.ownsRow w.heap.size 27 2 u10 (aZ (bW o rel) fO L).length (pairs (aZ (bW o rel) fO L))):=by
  have h:=HO.out;rw [List.take_of_length_le (by omega)] at h;exact jZ h HB1.out.size
 have YT:Hid (af w wr):=HB1.out.trans (HB.out.mono HB1.out.size);clear HO;go_wp2;go_ret;exact ⟨⟨_,rfl,HE.out⟩,YT.out⟩
theorem Jg (ad:Option Addr) (n cap:Nat) (TH:Option Addr) (n' cap':Nat) (L:List Fc) (typ rel:aD) (o:Al) (w:ae) (Wz:L.length≤115200)
  (hF:∀ W',af w W'→Calls prog 14 #[.slice ad n cap,.slice TH n' cap'] W' fun e w'=>(∃ v,e=.returned v∧w'.ownsRow W'.heap.size 29 5 v L.length (aF L))∧af W' w') :
  Calls prog 19 #[.slice ad n cap,.slice TH n' cap',.string typ,.string rel,.agg #[.string o.t,.string o.s]] w fun e w'=>(∃ v,e=.returned v∧w'.ownsRow w.heap.size 27 2 v (aZ (dh typ rel o) fe L).length (pairs (aZ (dh typ rel o) fe L)))∧af w w':=by
 obtain ⟨iO,h0,h1,h2,h3⟩:=mg;have Ut:=ax (And.intro h0 (And.intro h1 (And.intro h2 h3)));obtain ⟨W0,hW0⟩:∃ W0,W0=w.alloc (.cells #[.string o.t,.string o.s] 27):=⟨_,rfl⟩;have HB0:=nA hW0;have d0:W0.cell? ⟨w.heap.size,0,none⟩=some (.string o.t):=by rw [hW0]; simp
 have d1:W0.cell? ⟨w.heap.size,1,none⟩=some (.string o.s):=by rw [hW0]; simp
 have dl:w.heap.size < W0.heap.size:=aB d0;have Y6:=ax (hF W0 HB0.out);clear hF h0 h1 h2 h3;go_enter func19,ntmps19;go_wp2_with fail;rw [← hW0];clear hW0;refine Y6.out.mono ?_;rintro e w1 ⟨⟨v,rfl,hown⟩,hb1⟩;obtain ⟨XY,VK,rfl,hsl⟩:=kJ hown;have VI:=ax hsl;have HB1:=jI HB0 hb1;replace d0:=aG hb1 dl d0;replace d1:=aG hb1 dl d1;replace dl:=Sv dl hb1.size;clear hown hsl hb1 HB0 Y6;have UC:Hid (w1.ownsRow w1.heap.size 27 2 (.slice none 0 0) (aZ (dh typ rel o) fe (L.take 0)).length (pairs (aZ (dh typ rel o) fe (L.take 0)))):=World.ownsRow_nil _ _ _ _;go_wp2_with fail;go_loopw [11,18] (fun v i wr=>∃ k:Nat,k≤L.length∧i=.int .i64 k∧Hid (wr.ownsRow w1.heap.size 27 2 v (aZ (dh typ rel o) fe (L.take k)).length (pairs (aZ (dh typ rel o) fe (L.take k))))∧Hid (af w1 wr)) (fun _ i _=>L.length - (intOf i).toNat);case atStart=>exact ⟨0,SC _,rfl,UC,Sz _ _⟩
 clear UC;obtain ⟨k,hk,rfl,HO,HB⟩:=hrel;by_cases hlk:k < L.length
 ·obtain ⟨b,off,TC,⟨t0,t1,t2,t3,t4⟩,hbl⟩:=wK.at0 (VI.out.below HB.out) hlk;have hi1:=bq k;have hi2:(k:Int) < (L.length:Int):=by omega
  have Uv:=ax (rJ (dh typ rel o) fe hlk);have hkl:=ow (dh typ rel o) fe (L.take k);rw [Tg] at hkl;obtain ⟨x,hx⟩:∃ x,x=L[k]:=⟨_,rfl⟩;rw [← hx] at t0 t1 t2 t3 t4 Uv;clear hx;obtain ⟨W1,hW1⟩:∃ W1,W1=wr.alloc (.cells #[.string x.a,.string x.b,.string x.r,.string x.c,.string x.d] 29):=⟨_,rfl⟩;have TJ:=nA hW1;have TB:=ax (HB.out.trans (TJ.out.mono HB.out.size));have x0:wr.cell? ⟨w.heap.size,0,none⟩=some (.string o.t):=aG HB.out dl d0;have x1:wr.cell? ⟨w.heap.size,1,none⟩=some (.string o.s):=aG HB.out dl d1;have xl:w.heap.size < wr.heap.size:=aB x0;have hz1:W1.heap.size=wr.heap.size + 1:=by rw [hW1]; simp
  have TE:=ax (aK HO.out TJ.out);obtain ⟨ys,hys⟩:∃ ys,ys=aZ (dh typ rel o) fe (L.take k):=⟨_,rfl⟩;rw [← hys] at TE Uv hkl;obtain ⟨Vd,T9,rfl,-⟩:=gP TE.out;subst TC;clear hys HO TJ;cases hq0:(x.a.toList == typ.toList);case false=>
   have HR:Hid (W1.ownsRow w1.heap.size 27 2 (.slice Vd ys.length T9) (aZ (dh typ rel o) fe (L.take (k + 1))).length (pairs (aZ (dh typ rel o) fe (L.take (k + 1))))):=by
    show World.ownsRow _ _ _ _ _ _ _;rw [Uv.out,show dh typ rel o x=false from by simp [dh,hq0]]; simp only [Bool.false_eq_true,if_false,List.append_nil]; exact TE.out
   go_wp2;rw [← hW1];clear hW1;go_roundw;case rel=>exact ⟨k + 1,by omega,by go_num,HR,TB⟩
   simp [intOf] <;> omega
  cases hq1:(x.r.toList == rel.toList);case false=>
   have HR:Hid (W1.ownsRow w1.heap.size 27 2 (.slice Vd ys.length T9) (aZ (dh typ rel o) fe (L.take (k + 1))).length (pairs (aZ (dh typ rel o) fe (L.take (k + 1))))):=by
    show World.ownsRow _ _ _ _ _ _ _;rw [Uv.out,show dh typ rel o x=false from by simp [dh,hq0,hq1]]; simp only [Bool.false_eq_true,if_false,List.append_nil]; exact TE.out
   go_wp2;rw [← hW1];clear hW1;go_roundw;case rel=>exact ⟨k + 1,by omega,by go_num,HR,TB⟩
   simp [intOf] <;> omega
  cases hq2:rE x.c x.d o.t o.s;case false=>
   have HR:Hid (W1.ownsRow w1.heap.size 27 2 (.slice Vd ys.length T9) (aZ (dh typ rel o) fe (L.take (k + 1))).length (pairs (aZ (dh typ rel o) fe (L.take (k + 1))))):=by
    show World.ownsRow _ _ _ _ _ _ _;rw [Uv.out,show dh typ rel o x=false from by simp [dh,hq0,hq1,hq2]]; simp only [Bool.false_eq_true,if_false,List.append_nil]; exact TE.out
   have hv:=bf _ _ _ _ hq2;clear hq2;go_wp2;rw [← hW1];clear hW1;go_roundw;case rel=>exact ⟨k + 1,by omega,by go_num,HR,TB⟩
   simp [intOf] <;> omega
  have Xv:Hid (aZ (dh typ rel o) fe (L.take (k + 1))=ys ++ [⟨x.a,x.b⟩]):=by show _=_; rw [Uv.out,show dh typ rel o x=true from by simp [dh,hq0,hq1,hq2]]; rfl
  obtain ⟨W4,TY⟩:∃ W4,W4=W1.alloc (.cells #[.string x.a,.string x.b] 27):=⟨_,rfl⟩;have TI:Hid (W4.ownsRow w1.heap.size 27 2 (.slice Vd ys.length T9) ys.length (pairs ys)):=by show World.ownsRow _ _ _ _ _ _ _; rw [TY]; exact TE.out.alloc _
  have Xw:Hid (∀ j u,[Value.string x.a,.string x.b][j]?=some u→W4.cell? ((⟨wr.heap.size + 1,0,none⟩:Addr).add j)=some u):=by rw [← hz1,TY]; exact xM W1 ⟨x.a,x.b⟩
  have TS:Hid (af w1 W4):=by show Below _ _ _; rw [TY]; exact TB.out.alloc TB.out.size _
  have U2:w1.heap.size≤W4.heap.size:=TS.out.size;have hv:=bf _ _ _ _ hq2;clear hq2;go_wp2_with (at_builtin; rw [← hW1]; rw [← TY]; clear TY; refine wpList_append_own_at _ rfl _ _ 49 rfl w1.heap.size 27 iO (.agg #[.string ⟨#[]⟩,.string ⟨#[]⟩]) 2 32 underlying49 Ut.out.1 Ut.out.2.1 Ut.out.2.2.1 Ut.out.2.2.2 rfl (by decide) _ ys.length (pairs ys) rfl TI.out ⟨wr.heap.size + 1,0,none⟩ 1 1 [.string x.a,.string x.b] rfl rfl Xw.out (by simp [Value.oneCell']) (by unfold maxLen; omega) (by omega) U2 ?_);intro v' w5 hown hgr _ _;have HR:Hid (w5.ownsRow w1.heap.size 27 2 v' (aZ (dh typ rel o) fe (L.take (k + 1))).length (pairs (aZ (dh typ rel o) fe (L.take (k + 1))))):=by
   show World.ownsRow _ _ _ _ _ _ _;rw [Xv.out,SE];have:pairs (ys ++ [⟨x.a,x.b⟩])=pairs ys ++ [.string x.a,.string x.b]:=by simp [pairs]
   rw [this]; exact hown
  have Vn:Hid (af w1 w5):=TS.out.grown hgr TS.out.size (fun g hg=>(TI.out.lt g hg).1);clear hown hgr x0 x1;go_wp2;go_roundw;case rel=>exact ⟨k + 1,by omega,by go_num,HR,Vn⟩
  simp [intOf] <;> omega
 have HE:Hid (wr.ownsRow w.heap.size 27 2 u11 (aZ (dh typ rel o) fe L).length (pairs (aZ (dh typ rel o) fe L))):=by
  have h:=HO.out;rw [List.take_of_length_le (by omega)] at h;exact jZ h HB1.out.size
 have YT:Hid (af w wr):=HB1.out.trans (HB.out.mono HB1.out.size);clear HO;go_wp2;go_ret;exact ⟨⟨_,rfl,HE.out⟩,YT.out⟩
theorem Jh (ad:Option Addr) (n cap:Nat) (TH:Option Addr) (n' cap':Nat) (L:List Fc) (typ rel:aD) (o:Al) (w:ae) (Wz:L.length≤115200)
  (hF:∀ W',af w W'→Calls prog 47 #[.slice ad n cap,.slice TH n' cap'] W' fun e w'=>(∃ v,e=.returned v∧w'.ownsRow W'.heap.size 29 5 v L.length (aF L))∧af W' w') :
  Calls prog 22 #[.slice ad n cap,.slice TH n' cap',.string typ,.string rel,.agg #[.string o.t,.string o.s]] w fun e w'=>(∃ v,e=.returned v∧w'.ownsRow w.heap.size 27 2 v (aZ (dh typ rel o) fe L).length (pairs (aZ (dh typ rel o) fe L)))∧af w w':=by
 obtain ⟨iO,h0,h1,h2,h3⟩:=mg;have Ut:=ax (And.intro h0 (And.intro h1 (And.intro h2 h3)));obtain ⟨W0,hW0⟩:∃ W0,W0=w.alloc (.cells #[.string o.t,.string o.s] 27):=⟨_,rfl⟩;have HB0:=nA hW0;have d0:W0.cell? ⟨w.heap.size,0,none⟩=some (.string o.t):=by rw [hW0]; simp
 have d1:W0.cell? ⟨w.heap.size,1,none⟩=some (.string o.s):=by rw [hW0]; simp
 have dl:w.heap.size < W0.heap.size:=aB d0;have Y6:=ax (hF W0 HB0.out);clear hF h0 h1 h2 h3;go_enter func22,ntmps22;go_wp2_with fail;rw [← hW0];clear hW0;refine Y6.out.mono ?_;rintro e w1 ⟨⟨v,rfl,hown⟩,hb1⟩;obtain ⟨XY,VK,rfl,hsl⟩:=kJ hown;have VI:=ax hsl;have HB1:=jI HB0 hb1;replace d0:=aG hb1 dl d0;replace d1:=aG hb1 dl d1;replace dl:=Sv dl hb1.size;clear hown hsl hb1 HB0 Y6;obtain ⟨W2,hW2⟩:∃ W2,W2=w1.alloc (.cells #[] 27):=⟨_,rfl⟩;have UC:Hid (W2.ownsRow w1.heap.size 27 2 (.slice (some ⟨w1.heap.size,0,none⟩) 0 0) (aZ (dh typ rel o) fe (L.take 0)).length (pairs (aZ (dh typ rel o) fe (L.take 0)))):=by
  show World.ownsRow _ _ _ _ _ _ _;rw [hW2];exact World.ownsRow_lit w1 #[] 0 (Sy _) (by unfold maxLen; omega) (by simp)
 have HB2:=nA hW2;go_wp2_with fail;rw [← hW2];clear hW2;go_loopw [12,13] (fun v i wr=>∃ k:Nat,k≤L.length∧i=.int .i64 k∧Hid (wr.ownsRow w1.heap.size 27 2 v (aZ (dh typ rel o) fe (L.take k)).length (pairs (aZ (dh typ rel o) fe (L.take k))))∧Hid (af w1 wr)) (fun _ i _=>L.length - (intOf i).toNat);case atStart=>exact ⟨0,SC _,rfl,UC,HB2.out⟩
 clear UC HB2;obtain ⟨k,hk,rfl,HO,HB⟩:=hrel;by_cases hlk:k < L.length
 ·obtain ⟨b,off,TC,⟨t0,t1,t2,t3,t4⟩,hbl⟩:=wK.at0 (VI.out.below HB.out) hlk;have hi1:=bq k;have hi2:(k:Int) < (L.length:Int):=by omega
  have Uv:=ax (rJ (dh typ rel o) fe hlk);have hkl:=ow (dh typ rel o) fe (L.take k);rw [Tg] at hkl;obtain ⟨x,hx⟩:∃ x,x=L[k]:=⟨_,rfl⟩;rw [← hx] at t0 t1 t2 t3 t4 Uv;clear hx;have x0:wr.cell? ⟨w.heap.size,0,none⟩=some (.string o.t):=aG HB.out dl d0;have x1:wr.cell? ⟨w.heap.size,1,none⟩=some (.string o.s):=aG HB.out dl d1;have TE:=HO;have TJ:Hid (af wr wr):=Sz _ _;obtain ⟨ys,hys⟩:∃ ys,ys=aZ (dh typ rel o) fe (L.take k):=⟨_,rfl⟩;rw [← hys] at TE Uv hkl;obtain ⟨Vd,T9,rfl,-⟩:=gP TE.out;subst TC;clear hys HO TJ;cases hq0:(x.a.toList == typ.toList);case false=>
   go_wp2_with fail;go_quiet (fail);obtain ⟨W1,hW1⟩:∃ W1,W1=wr.drewN nq:=⟨_,rfl⟩;rw [← hW1];have TJ:Hid (af wr W1):=by show Below _ _ _; rw [hW1]; exact below_drewN (Sz _ _) _
   have TB:=ax (HB.out.trans (TJ.out.mono HB.out.size));replace TE:=ax (aK TE.out TJ.out);have y0:=aG TJ.out hbl t0;have y1:=aG TJ.out hbl t1;clear hW1 t0 t1 t2 t3 t4 x0 x1;have HR:Hid (W1.ownsRow w1.heap.size 27 2 (.slice Vd ys.length T9) (aZ (dh typ rel o) fe (L.take (k + 1))).length (pairs (aZ (dh typ rel o) fe (L.take (k + 1))))):=by
    show World.ownsRow _ _ _ _ _ _ _;rw [Uv.out,show dh typ rel o x=false from by simp [dh,hq0]]; simp only [Bool.false_eq_true,if_false,List.append_nil]; exact TE.out
   go_wp2;go_roundw;case rel=>exact ⟨k + 1,by omega,by go_num,HR,TB⟩
   simp [intOf] <;> omega
  cases hq1:(x.r.toList == rel.toList);case false=>
   go_wp2_with fail;go_quiet (fail);obtain ⟨W1,hW1⟩:∃ W1,W1=wr.drewN nq:=⟨_,rfl⟩;rw [← hW1];have TJ:Hid (af wr W1):=by show Below _ _ _; rw [hW1]; exact below_drewN (Sz _ _) _
   have TB:=ax (HB.out.trans (TJ.out.mono HB.out.size));replace TE:=ax (aK TE.out TJ.out);have y0:=aG TJ.out hbl t0;have y1:=aG TJ.out hbl t1;clear hW1 t0 t1 t2 t3 t4 x0 x1;have HR:Hid (W1.ownsRow w1.heap.size 27 2 (.slice Vd ys.length T9) (aZ (dh typ rel o) fe (L.take (k + 1))).length (pairs (aZ (dh typ rel o) fe (L.take (k + 1))))):=by
    show World.ownsRow _ _ _ _ _ _ _;rw [Uv.out,show dh typ rel o x=false from by simp [dh,hq0,hq1]]; simp only [Bool.false_eq_true,if_false,List.append_nil]; exact TE.out
   go_wp2;go_roundw;case rel=>exact ⟨k + 1,by omega,by go_num,HR,TB⟩
   simp [intOf] <;> omega
  cases hq2:rE x.c x.d o.t o.s;case false=>
   have hv:=bf _ _ _ _ hq2;replace hq2:=ax hq2;go_wp2_with fail;go_quiet (fail);obtain ⟨W1,hW1⟩:∃ W1,W1=wr.drewN nq:=⟨_,rfl⟩;rw [← hW1];have TJ:Hid (af wr W1):=by show Below _ _ _; rw [hW1]; exact below_drewN (Sz _ _) _
   have TB:=ax (HB.out.trans (TJ.out.mono HB.out.size));replace TE:=ax (aK TE.out TJ.out);have y0:=aG TJ.out hbl t0;have y1:=aG TJ.out hbl t1;clear hW1 t0 t1 t2 t3 t4 x0 x1;have HR:Hid (W1.ownsRow w1.heap.size 27 2 (.slice Vd ys.length T9) (aZ (dh typ rel o) fe (L.take (k + 1))).length (pairs (aZ (dh typ rel o) fe (L.take (k + 1))))):=by
    show World.ownsRow _ _ _ _ _ _ _;rw [Uv.out,show dh typ rel o x=false from by simp [dh,hq0,hq1,hq2.out]]; simp only [Bool.false_eq_true,if_false,List.append_nil]; exact TE.out
   go_wp2;go_roundw;case rel=>exact ⟨k + 1,by omega,by go_num,HR,TB⟩
   simp [intOf] <;> omega
  have hv:=bf _ _ _ _ hq2;replace hq2:=ax hq2;go_wp2_with fail;go_quiet (fail);obtain ⟨W1,hW1⟩:∃ W1,W1=wr.drewN nq:=⟨_,rfl⟩;rw [← hW1];have TJ:Hid (af wr W1):=by show Below _ _ _; rw [hW1]; exact below_drewN (Sz _ _) _
  have TB:=ax (HB.out.trans (TJ.out.mono HB.out.size));replace TE:=ax (aK TE.out TJ.out);have y0:=aG TJ.out hbl t0;have y1:=aG TJ.out hbl t1;clear hW1 t0 t1 t2 t3 t4 x0 x1;have Xv:Hid (aZ (dh typ rel o) fe (L.take (k + 1))=ys ++ [⟨x.a,x.b⟩]):=by show _=_; rw [Uv.out,show dh typ rel o x=true from by simp [dh,hq0,hq1,hq2.out]]; rfl
  obtain ⟨W4,TY⟩:∃ W4,W4=W1.alloc (.cells #[.string x.a,.string x.b] 27):=⟨_,rfl⟩;have TI:Hid (W4.ownsRow w1.heap.size 27 2 (.slice Vd ys.length T9) ys.length (pairs ys)):=by show World.ownsRow _ _ _ _ _ _ _; rw [TY]; exact TE.out.alloc _
  have Xw:Hid (∀ j u,[Value.string x.a,.string x.b][j]?=some u→W4.cell? ((⟨W1.heap.size,0,none⟩:Addr).add j)=some u):=by rw [TY]; exact xM W1 ⟨x.a,x.b⟩
  have TS:Hid (af w1 W4):=by show Below _ _ _; rw [TY]; exact TB.out.alloc TB.out.size _
  have U2:w1.heap.size≤W4.heap.size:=TS.out.size;go_wp2_with (at_builtin; rw [← TY]; clear TY; refine wpList_append_own_at _ rfl _ _ 49 rfl w1.heap.size 27 iO (.agg #[.string ⟨#[]⟩,.string ⟨#[]⟩]) 2 32 underlying49 Ut.out.1 Ut.out.2.1 Ut.out.2.2.1 Ut.out.2.2.2 rfl (by decide) _ ys.length (pairs ys) rfl TI.out ⟨W1.heap.size,0,none⟩ 1 1 [.string x.a,.string x.b] rfl rfl Xw.out (by simp [Value.oneCell']) (by unfold maxLen; omega) (by omega) U2 ?_);intro v' w5 hown hgr _ _;have HR:Hid (w5.ownsRow w1.heap.size 27 2 v' (aZ (dh typ rel o) fe (L.take (k + 1))).length (pairs (aZ (dh typ rel o) fe (L.take (k + 1))))):=by
   show World.ownsRow _ _ _ _ _ _ _;rw [Xv.out,SE];have:pairs (ys ++ [⟨x.a,x.b⟩])=pairs ys ++ [.string x.a,.string x.b]:=by simp [pairs]
   rw [this]; exact hown
  have Vn:Hid (af w1 w5):=TS.out.grown hgr TS.out.size (fun g hg=>(TI.out.lt g hg).1);clear hown hgr y0 y1;go_wp2;go_roundw;case rel=>exact ⟨k + 1,by omega,by go_num,HR,Vn⟩
  simp [intOf] <;> omega
 have HE:Hid (wr.ownsRow w.heap.size 27 2 u12 (aZ (dh typ rel o) fe L).length (pairs (aZ (dh typ rel o) fe L))):=by
  have h:=HO.out;rw [List.take_of_length_le (by omega)] at h;exact jZ h HB1.out.size
 have YT:Hid (af w wr):=HB1.out.trans (HB.out.mono HB1.out.size);clear HO;go_wp2;go_ret;exact ⟨⟨_,rfl,HE.out⟩,YT.out⟩
theorem Rv (x y:Al) {v:Bool} (h:(!jo x y)=v) (w:ae) :
  (binOp .neq 27 (.agg #[.string x.t,.string x.s]) (.agg #[.string y.t,.string y.s])).run prog w=.ok (.bool v) w:=by
 subst h;go_simp;unfold jo
 (repeat' split) <;> simp_all
theorem pG (ad TH:Option Addr) (cap cap':Nat) (ts:List Al) (w:ae) (hlen:ts.length≤1048576) (hs:kw w ad ts) (hs':kw w TH ts) :
  Calls prog 20 #[.slice ad ts.length cap,.slice TH ts.length cap'] w fun e w'=>e=.returned (.bool true)∧af w w':=by
 have HS:=oM hs;have HS':=oM hs';clear hs hs';have hnn:((ts.length:Int) != (ts.length:Int))=false:=by simp
 go_enter func20,ntmps20;go_wp2;go_loopw [5] (fun i wr=>∃ k:Nat,k≤ts.length∧i=.int .i64 k∧Hid (af w wr)) (fun i _=>ts.length - (intOf i).toNat);case atStart=>exact ⟨0,SC _,rfl,Sz _ _⟩
 obtain ⟨k,hk,rfl,HB⟩:=hrel;have hk1:=bq k;by_cases hlt:k < ts.length
 ·have hk2:(k:Int) < (ts.length:Int):=by omega
  rcases HS.out.below HB.out with hnil | ⟨b,off,rfl,hb,hr⟩
  ·rw [hnil] at hlt; simp at hlt
  rcases HS'.out.below HB.out with hnil | ⟨b',off',rfl,hb',hr'⟩
  ·rw [hnil] at hlt; simp at hlt
  obtain ⟨t0,t1⟩:=hr k hlt;obtain ⟨u0,u1⟩:=hr' k hlt;have heq:=Rv ts[k] ts[k] (v:=false) (by rw [Az.2 rfl]; rfl);clear hr hr';go_wp2_with fail;go_quiet (fail);have HB2:Hid (af w (wr.drewN nq)):=⟨HB.out.os,HB.out.tape,HB.out.output,HB.out.size,HB.out.block⟩;clear t0 t1 u0 u1 heq;go_wp2;go_roundw;case rel=>exact ⟨k + 1,by omega,by go_num,HB2⟩
  simp [intOf] <;> omega
 go_wp2;go_ret;exact ⟨rfl,HB.out⟩
set_option linter.unusedSectionVars false
theorem Bc [DecidableEq Fc] {st:ByteArray × ByteArray→Int} {rs:List TR} {ts:List Tp} {f:Fc}:f ∈ gy st rs ts ↔ f ∈ dB st rs ts:=(iy _).mem_iff
theorem Md [DecidableEq Fc] {st:ByteArray × ByteArray→Int} {rs:List TR} {ts:List Tp} {o:Al} {rel:ByteArray} {u:Al} (h:u ∈ aZ (bW o rel) fO (gy st rs ts)):cZ (dB st rs ts) ⟨o.t,o.s,rel,u.t,u.s⟩=true:=by
 unfold aZ at h;obtain ⟨f,hf,rfl⟩:=SK.1 h;obtain ⟨hm,hp⟩:=Tm.1 hf;unfold bW rE at hp;simp only [SB,beq_iff_eq] at hp;rw [gJ,← Bc];have e:(⟨o.t,o.s,rel,(fO f).t,(fO f).s⟩:Fc)=f:=by
  cases f; unfold fO; simp only at hp ⊢; rw [jT hp.1.1,jT hp.1.2,jT hp.2]
 rw [e]; exact hm
theorem Me [DecidableEq Fc] {st:ByteArray × ByteArray→Int} {rs:List TR} {ts:List Tp} {typ rel:ByteArray} {u o:Al} (h:o ∈ aZ (dh typ rel u) fe (gy st rs ts)):o.t=typ∧cZ (dB st rs ts) ⟨o.t,o.s,rel,u.t,u.s⟩=true:=by
 unfold aZ at h;obtain ⟨f,hf,rfl⟩:=SK.1 h;obtain ⟨hm,hp⟩:=Tm.1 hf;unfold dh rE at hp;simp only [SB,beq_iff_eq] at hp;refine ⟨jT hp.1.1,?_⟩;rw [gJ,← Bc];have e:(⟨(fe f).t,(fe f).s,rel,u.t,u.s⟩:Fc)=f:=by
  cases f; unfold fe; simp only at hp ⊢; rw [jT hp.1.2,jT hp.2.1,jT hp.2.2]
 rw [e]; exact hm
theorem Ji (p:Fc→Bool) (h:Fc→Al) (L:List Fc):(aZ p h L).length=(L.filter p).length:=by unfold aZ; rw [Tk]
end Go.Proofs.YtajkkeikihhejaaGreat
