/- The document's question of a node that goes over a relation. -/
import Derived.Test.YtajkkeikihhejaaGreatSq
import Derived.Test.YtajkkeikihhejaaGreatJ35
open Go.Proofs.Tryz
set_option maxHeartbeats 80000000
namespace Go.Proofs.YtajkkeikihhejaaGreat
set_option linter.unusedVariables false
set_option maxRecDepth 100000
open Go.ChangeShapes Go.WideShapes Go.ChangeAt Go.RowKit Go.Maps
open Pl
theorem Ej (v0:Value) (Vq:Option Addr) (U4:Nat) (ts:List Tp) (TA:Option Addr) (capE:Nat) (rows:List ER) (n:Nat) (adK:Option Addr) (capK:Nat) (known:List Fc) (Vr:Option Addr) (U3:Nat) (truth:List Fc) (f:Fc) (w:ae) (hW:HW w Vq ts TA rows adK known Vr truth) (hn:n < rows.length) (hre:rows.length≤1000) (hkl:known.length≤1048576) (htl:ts.length≤1048576) (hk:rows[n].e.kind=3) :
  Calls prog 98 #[v0,.slice Vq ts.length U4,.slice TA rows.length capE,.int .i64 (n:Int),.slice adK known.length capK,.slice Vr truth.length U3,.agg #[.string f.a,.string f.b,.string f.r,.string f.c,.string f.d]] w fun e w'=>e=.returned (.bool (gM ts known rows[n].e.over rows[n].e.name f))∧af w w':=by
 obtain ⟨b,off,TC,⟨t0,t1,t2,t3,t4⟩,hbl,-⟩:=jk.at0 hW.ex hn;have HW0:=aC hW;obtain ⟨W0,hW0⟩:∃ W0,W0=F7 w f rows[n]:=⟨_,rfl⟩;have HB0:Hid (af w W0):=by show Below _ _ _; rw [hW0]; exact jY _ _ _
 have VS:Hid (EnB W0 w.heap.size f rows[n]):=by show EnB _ _ _ _; rw [hW0]; exact oh _ _ _
 have hk1:(rows[n].e.kind == 1)=false:=by rw [hk]; rfl
 have hk2:(rows[n].e.kind == 2)=false:=by rw [hk]; rfl
 have hk3:(rows[n].e.kind == 3)=true:=by rw [hk]; rfl
 have hn1:=bq n;have hn2:(n:Int) < (rows.length:Int):=by omega
 unfold F7 at hW0;rw [TC];clear TC hW hk;go_enter func98,ntmps98;go_wp2_with fail;rw [← hW0];clear hW0 t0 t1 t2 t3 t4;go_loopw [18] (fun i wr=>∃ k:Nat,k≤ts.length∧i=.int .i64 k∧Hid (gM (ts.drop k) known rows[n].e.over rows[n].e.name f=gM ts known rows[n].e.over rows[n].e.name f)∧Hid (af W0 wr)) (fun i _=>ts.length - (intOf i).toNat);case atStart=>exact ⟨0,SC _,rfl,rfl,Sz _ _⟩
 obtain ⟨k,hk,rfl,HP,HB⟩:=hrel;have TB:Hid (af w wr):=HB0.out.trans (HB.out.mono HB0.out.size);by_cases hlt:k < ts.length
 ·obtain ⟨bT,offT,Wq,⟨a0,a1,a2,a3,a4,a5⟩,hbT⟩:=Sl.at0 (HW0.out.tup.below TB.out) hlt;have hE:=VS.out.below HB.out;have e0:=hE.f0;have e1:=hE.f1;have e2:=hE.f2;have e3:=hE.f3;have e4:=hE.f4;have el:w.heap.size < wr.heap.size:=by have:=hE.lt; omega
  have el2:w.heap.size + 1 < wr.heap.size:=hE.lt;have g2:=hE.x2;have g3:=hE.x3;have hi1:=bq k;have hi2:(k:Int) < (ts.length:Int):=by omega
  obtain ⟨W1,hW1⟩:∃ W1,W1=wr.alloc (.cells #[.string ts[k].a,.string ts[k].b,.string ts[k].r,.string ts[k].c,.string ts[k].d,.string ts[k].s] 46):=⟨_,rfl⟩;have TJ:=nA hW1;have HB1:Hid (af W0 W1):=HB.out.trans (TJ.out.mono HB.out.size);have UF:Hid (af w W1):=TB.out.trans (TJ.out.mono TB.out.size);have HD:Hid (gM ts known rows[n].e.over rows[n].e.name f=(CZ known rows[n].e.over rows[n].e.name f ts[k] || gM (ts.drop (k + 1)) known rows[n].e.over rows[n].e.name f)):=by show _=_; rw [← HP.out]; exact IX hlt known _ _ f
  rw [Wq];clear Wq hE;cases ho:rE ts[k].a ts[k].b f.a f.b;case false=>
   have hoeq:=bf _ _ _ _ ho;have TG:Hid (gM (ts.drop (k + 1)) known rows[n].e.over rows[n].e.name f=gM ts known rows[n].e.over rows[n].e.name f):=by
    show _=_;unfold rE at ho;rw [HD.out]; unfold CZ; rw [ho]; rfl
   clear ho;go_wp2;rw [← hW1];clear hW1;go_roundw;case rel=>exact ⟨k + 1,by omega,by go_num,TG,HB1⟩
   simp [intOf] <;> omega
  have hoeq:=bf _ _ _ _ ho;have HO:Hid (rE ts[k].a ts[k].b f.a f.b=true):=ho;clear ho;cases hr:(ts[k].r.toList == rows[n].e.over.toList);case false=>
   have TG:Hid (gM (ts.drop (k + 1)) known rows[n].e.over rows[n].e.name f=gM ts known rows[n].e.over rows[n].e.name f):=by
    show _=_;have h2:=HO.out;unfold rE at h2;rw [HD.out]; unfold CZ; rw [h2,hr]; rfl
   go_wp2;rw [← hW1];clear hW1;go_roundw;case rel=>exact ⟨k + 1,by omega,by go_num,TG,HB1⟩
   simp [intOf] <;> omega
  have HT2:Hid (CZ known rows[n].e.over rows[n].e.name f ts[k]=cZ known ⟨ts[k].c,ts[k].d,rows[n].e.name,f.c,f.d⟩):=by
   show _=_;have h2:=HO.out;unfold rE at h2;unfold CZ; rw [h2,hr]; rfl
  go_wp2_with fail;rw [← hW1];clear hW1;refine (rD adK capK known ⟨ts[k].c,ts[k].d,rows[n].e.name,f.c,f.d⟩ W1 hkl (HW0.out.kn.below UF.out)).mono ?_;rintro e w2 ⟨rfl,hb2⟩;have HB2:=jI HB1 hb2;have X0:=jI UF hb2;clear hb2;cases hh:cZ known ⟨ts[k].c,ts[k].d,rows[n].e.name,f.c,f.d⟩;case true=>
   have HN:Hid (gM ts known rows[n].e.over rows[n].e.name f=true):=by show _=_; rw [HD.out,HT2.out,hh]; rfl
   go_wp2;go_ret;exact ⟨by rw [HN.out]; rfl,X0.out⟩
  have TG:Hid (gM (ts.drop (k + 1)) known rows[n].e.over rows[n].e.name f=gM ts known rows[n].e.over rows[n].e.name f):=by show _=_; rw [HD.out,HT2.out,hh]; rfl
  go_wp2;go_roundw;case rel=>exact ⟨k + 1,by omega,by go_num,TG,HB2⟩
  simp [intOf] <;> omega
 have HN:Hid (gM ts known rows[n].e.over rows[n].e.name f=false):=by show _=_; rw [← HP.out,List.drop_of_length_le (by omega)]; rfl
 go_wp2;go_ret;exact ⟨by rw [HN.out]; rfl,TB.out⟩
open Go.Sort
theorem LB (p:Int→Bool) {zs:List Int} {k:Nat} (h:k < zs.length):(zs.drop k).any p=(p zs[k] || (zs.drop (k + 1)).any p):=by rw [Te h]; rfl
theorem LC (p:Int→Bool) {zs:List Int} {k:Nat} (h:k < zs.length):(zs.drop k).all p=(p zs[k] && (zs.drop (k + 1)).all p):=by rw [Te h]; rfl
def OO (v0 vT vE vK vR:Value) (f:Fc) (w:World) (i:Int) (b:Bool):Prop:=∀ w1:World,af w w1→Calls prog 98 #[v0,vT,vE,.int .i64 i,vK,vR,.agg #[.string f.a,.string f.b,.string f.r,.string f.c,.string f.d]] w1 fun e w'=>e=.returned (.bool b)∧af w1 w'
theorem Bw (H:Int→Bool) (v0 vT:Value) (TA:Option Addr) (capE:Nat) (rows:List ER) (n:Nat) (vK vR:Value) (f:Fc) (w:ae) (hex:jk w TA rows) (hn:n < rows.length) (hre:rows.length≤1000) (hkl:rows[n].e.kids.length≤1000) (hk:rows[n].e.kind=4) (YW:∀ i ∈ rows[n].e.kids,OO v0 vT (.slice TA rows.length capE) vK vR f w i (H i)) :
  Calls prog 98 #[v0,vT,.slice TA rows.length capE,.int .i64 (n:Int),vK,vR,.agg #[.string f.a,.string f.b,.string f.r,.string f.c,.string f.d]] w fun e w'=>e=.returned (.bool (rows[n].e.kids.any H))∧af w w':=by
 obtain ⟨b,off,TC,⟨t0,t1,t2,t3,t4⟩,hbl,hok⟩:=jk.at0 hex hn;have HK:=aC hok.2;have HIH:=aC YW;obtain ⟨W0,hW0⟩:∃ W0,W0=F7 w f rows[n]:=⟨_,rfl⟩;have HB0:Hid (af w W0):=by show Below _ _ _; rw [hW0]; exact jY _ _ _
 have VS:Hid (EnB W0 w.heap.size f rows[n]):=by show EnB _ _ _ _; rw [hW0]; exact oh _ _ _
 have hk1:(rows[n].e.kind == 1)=false:=by rw [hk]; rfl
 have hk2:(rows[n].e.kind == 2)=false:=by rw [hk]; rfl
 have hk3:(rows[n].e.kind == 3)=false:=by rw [hk]; rfl
 have hk4:(rows[n].e.kind == 4)=true:=by rw [hk]; rfl
 have hn1:=bq n;have hn2:(n:Int) < (rows.length:Int):=by omega
 unfold F7 at hW0;rw [TC] at HIH ⊢;clear TC hex hk YW hok;go_enter func98,ntmps98;go_wp2_with fail;rw [← hW0];clear hW0 t0 t1 t2 t3 t4;go_loopw [20] (fun i wr=>∃ k:Nat,k≤rows[n].e.kids.length∧i=.int .i64 k∧Hid ((rows[n].e.kids.drop k).any H=rows[n].e.kids.any H)∧Hid (af W0 wr)) (fun i _=>rows[n].e.kids.length - (intOf i).toNat);case atStart=>exact ⟨0,SC _,rfl,rfl,Sz _ _⟩
 obtain ⟨k,hk,rfl,HP,HB⟩:=hrel;have TB:Hid (af w wr):=HB0.out.trans (HB.out.mono HB0.out.size);have hE:=VS.out.below HB.out;have e0:=hE.f0;have e1:=hE.f1;have e2:=hE.f2;have e3:=hE.f3;have e4:=hE.f4;have y4:=hE.x4;have el2:w.heap.size + 1 < wr.heap.size:=hE.lt;clear hE;by_cases hlt:k < rows[n].e.kids.length
 ·obtain ⟨bK,WX,Ul,z0,Zo⟩:=vH.at0 (HK.out.below TB.out) hlt;rw [Ul] at y4;have hi1:=bq k;have hi2:(k:Int) < (rows[n].e.kids.length:Int):=by omega
  have HD:Hid (rows[n].e.kids.any H=(H rows[n].e.kids[k] || (rows[n].e.kids.drop (k + 1)).any H)):=by show _=_; rw [← HP.out]; exact LB H hlt
  have HC:=aC (HIH.out _ (Sw hlt));obtain ⟨q,hq⟩:∃ q,H rows[n].e.kids[k]=q:=⟨_,rfl⟩;rw [hq] at HC HD;have XN:Hid (∀ d os,Calls prog 98 #[v0,vT,.slice (some ⟨b,off,none⟩) rows.length capE,.int .i64 rows[n].e.kids[k],vK,vR,.agg #[.string f.a,.string f.b,.string f.r,.string f.c,.string f.d]] (grow (redrawn wr d) os) fun e w''=>e=.returned (.bool q)∧∃ p:Regrown,w''=grow (redrawn wr p.d) p.os):=by
   refine bC fun W' hb=>?_;exact HC.out W' (TB.out.trans (hb.mono TB.out.size))
  clear Ul hq HC;go_wp2_with fail;replace e0:=cell_regrown e0;replace e1:=cell_regrown e1;replace e2:=cell_regrown e2;replace e3:=cell_regrown e3;replace e4:=cell_regrown e4;replace y4:=cell_regrown y4;replace z0:=cell_regrown z0;refine wp_region_quiet_below (by kernel_rfl) (by kernel_rfl) ?_
  repeat (go_big_quiet_step (exact XN.out _ _))
  refine wpQuiet_nil ?_;rintro _ ⟨⟨dq,osq⟩,rfl⟩;have HB2:=aC (HB.out.trans ((below_regrown wr dq osq).mono HB.out.size));clear XN e0 e1 e2 e3 e4 y4 z0;cases q;case true=>
   have HN:Hid (rows[n].e.kids.any H=true):=by show _=_; rw [HD.out]; rfl
   go_wp2;go_ret;exact ⟨by rw [HN.out]; rfl,HB0.out.trans (HB2.out.mono HB0.out.size)⟩
  have TG:Hid ((rows[n].e.kids.drop (k + 1)).any H=rows[n].e.kids.any H):=by show _=_; rw [HD.out]; rfl
  go_wp2;go_roundw;case rel=>exact ⟨k + 1,by omega,by go_num,TG,HB2⟩
  simp [intOf] <;> omega
 have HN:Hid (rows[n].e.kids.any H=false):=by show _=_; rw [← HP.out,List.drop_of_length_le (by omega)]; rfl
 go_wp2;go_ret;exact ⟨by rw [HN.out]; rfl,TB.out⟩
theorem El (H:Int→Bool) (v0 vT:Value) (TA:Option Addr) (capE:Nat) (rows:List ER) (n:Nat) (vK vR:Value) (f:Fc) (w:ae) (hex:jk w TA rows) (hn:n < rows.length) (hre:rows.length≤1000) (hkl:rows[n].e.kids.length≤1000) (hk:rows[n].e.kind=5) (YW:∀ i ∈ rows[n].e.kids,OO v0 vT (.slice TA rows.length capE) vK vR f w i (H i)) :
  Calls prog 98 #[v0,vT,.slice TA rows.length capE,.int .i64 (n:Int),vK,vR,.agg #[.string f.a,.string f.b,.string f.r,.string f.c,.string f.d]] w fun e w'=>e=.returned (.bool (rows[n].e.kids.all H))∧af w w':=by
 obtain ⟨b,off,TC,⟨t0,t1,t2,t3,t4⟩,hbl,hok⟩:=jk.at0 hex hn;have HK:=aC hok.2;have HIH:=aC YW;obtain ⟨W0,hW0⟩:∃ W0,W0=F7 w f rows[n]:=⟨_,rfl⟩;have HB0:Hid (af w W0):=by show Below _ _ _; rw [hW0]; exact jY _ _ _
 have VS:Hid (EnB W0 w.heap.size f rows[n]):=by show EnB _ _ _ _; rw [hW0]; exact oh _ _ _
 have hk1:(rows[n].e.kind == 1)=false:=by rw [hk]; rfl
 have hk2:(rows[n].e.kind == 2)=false:=by rw [hk]; rfl
 have hk3:(rows[n].e.kind == 3)=false:=by rw [hk]; rfl
 have hk4:(rows[n].e.kind == 4)=false:=by rw [hk]; rfl
 have hk5:(rows[n].e.kind == 5)=true:=by rw [hk]; rfl
 have hn1:=bq n;have hn2:(n:Int) < (rows.length:Int):=by omega
 unfold F7 at hW0;rw [TC] at HIH ⊢;clear TC hex hk YW hok;go_enter func98,ntmps98;go_wp2_with fail;rw [← hW0];clear hW0 t0 t1 t2 t3 t4;go_loopw [21] (fun i wr=>∃ k:Nat,k≤rows[n].e.kids.length∧i=.int .i64 k∧Hid ((rows[n].e.kids.drop k).all H=rows[n].e.kids.all H)∧Hid (af W0 wr)) (fun i _=>rows[n].e.kids.length - (intOf i).toNat);case atStart=>exact ⟨0,SC _,rfl,rfl,Sz _ _⟩
 obtain ⟨k,hk,rfl,HP,HB⟩:=hrel;have TB:Hid (af w wr):=HB0.out.trans (HB.out.mono HB0.out.size);have hE:=VS.out.below HB.out;have e0:=hE.f0;have e1:=hE.f1;have e2:=hE.f2;have e3:=hE.f3;have e4:=hE.f4;have y4:=hE.x4;have el2:w.heap.size + 1 < wr.heap.size:=hE.lt;clear hE;by_cases hlt:k < rows[n].e.kids.length
 ·obtain ⟨bK,WX,Ul,z0,Zo⟩:=vH.at0 (HK.out.below TB.out) hlt;rw [Ul] at y4;have hi1:=bq k;have hi2:(k:Int) < (rows[n].e.kids.length:Int):=by omega
  have HD:Hid (rows[n].e.kids.all H=(H rows[n].e.kids[k] && (rows[n].e.kids.drop (k + 1)).all H)):=by show _=_; rw [← HP.out]; exact LC H hlt
  have HC:=aC (HIH.out _ (Sw hlt));obtain ⟨q,hq⟩:∃ q,H rows[n].e.kids[k]=q:=⟨_,rfl⟩;rw [hq] at HC HD;have XN:Hid (∀ d os,Calls prog 98 #[v0,vT,.slice (some ⟨b,off,none⟩) rows.length capE,.int .i64 rows[n].e.kids[k],vK,vR,.agg #[.string f.a,.string f.b,.string f.r,.string f.c,.string f.d]] (grow (redrawn wr d) os) fun e w''=>e=.returned (.bool q)∧∃ p:Regrown,w''=grow (redrawn wr p.d) p.os):=by
   refine bC fun W' hb=>?_;exact HC.out W' (TB.out.trans (hb.mono TB.out.size))
  clear Ul hq HC;go_wp2_with fail;replace e0:=cell_regrown e0;replace e1:=cell_regrown e1;replace e2:=cell_regrown e2;replace e3:=cell_regrown e3;replace e4:=cell_regrown e4;replace y4:=cell_regrown y4;replace z0:=cell_regrown z0;refine wp_region_quiet_below (by kernel_rfl) (by kernel_rfl) ?_
  repeat (go_big_quiet_step (exact XN.out _ _))
  refine wpQuiet_nil ?_;rintro _ ⟨⟨dq,osq⟩,rfl⟩;have HB2:=aC (HB.out.trans ((below_regrown wr dq osq).mono HB.out.size));clear XN e0 e1 e2 e3 e4 y4 z0;cases q;case false=>
   have HN:Hid (rows[n].e.kids.all H=false):=by show _=_; rw [HD.out]; rfl
   go_wp2;go_ret;exact ⟨by rw [HN.out]; rfl,HB0.out.trans (HB2.out.mono HB0.out.size)⟩
  have TG:Hid ((rows[n].e.kids.drop (k + 1)).all H=rows[n].e.kids.all H):=by show _=_; rw [HD.out]; rfl
  go_wp2;go_roundw;case rel=>exact ⟨k + 1,by omega,by go_num,TG,HB2⟩
  simp [intOf] <;> omega
 have HN:Hid (rows[n].e.kids.all H=true):=by show _=_; rw [← HP.out,List.drop_of_length_le (by omega)]; rfl
 go_wp2;go_ret;exact ⟨by rw [HN.out]; rfl,TB.out⟩
theorem Gf (b0 b1:Bool) (v0 vT:Value) (TA:Option Addr) (capE:Nat) (rows:List ER) (n:Nat) (vK vR:Value) (f:Fc) (w:ae) (hex:jk w TA rows) (hn:n < rows.length) (hre:rows.length≤1000) (hkl:rows[n].e.kids.length≤1000) (hk2:2≤rows[n].e.kids.length) (hk:rows[n].e.kind=6) (hA:OO v0 vT (.slice TA rows.length capE) vK vR f w (rows[n].e.kids.getD 0 0) b0) (hB:OO v0 vT (.slice TA rows.length capE) vR vR f w (rows[n].e.kids.getD 1 0) b1) :
  Calls prog 98 #[v0,vT,.slice TA rows.length capE,.int .i64 (n:Int),vK,vR,.agg #[.string f.a,.string f.b,.string f.r,.string f.c,.string f.d]] w fun e w'=>e=.returned (.bool (b0 && !b1))∧af w w':=by
 obtain ⟨b,off,TC,⟨t0,t1,t2,t3,t4⟩,hbl,hok⟩:=jk.at0 hex hn;have h0k:0 < rows[n].e.kids.length:=by omega
 have h1k:1 < rows[n].e.kids.length:=by omega
 obtain ⟨bK,WX,Ul,z0,Zo⟩:=vH.at0 hok.2 h0k;have z1:w.cell? ⟨bK,WX + 1,none⟩=some (.int .i64 rows[n].e.kids[1]):=by
  obtain ⟨b',off',WY,z1,-⟩:=vH.at0 hok.2 h1k;rw [Ul] at WY; injection WY with e; injection e with e1 e2;rw [e1,e2]; exact z1
 obtain ⟨i0,hi0⟩:∃ i,i=rows[n].e.kids[0]:=⟨_,rfl⟩;obtain ⟨i1,hi1⟩:∃ i,i=rows[n].e.kids[1]:=⟨_,rfl⟩;have g0:rows[n].e.kids.getD 0 0=i0:=by rw [hi0,List.getD_eq_getElem?_getD,SH h0k]; rfl
 have g1:rows[n].e.kids.getD 1 0=i1:=by rw [hi1,List.getD_eq_getElem?_getD,SH h1k]; rfl
 rw [g0] at hA;rw [g1] at hB;rw [← hi0,Nat.add_zero] at z0;rw [← hi1] at z1;clear hi0 hi1 g0 g1;obtain ⟨kl,hkl'⟩:∃ kl,kl=rows[n].e.kids.length:=⟨_,rfl⟩;obtain ⟨cK,hcK⟩:∃ c,c=rows[n].capK:=⟨_,rfl⟩;have hl0:(0:Int) < (kl:Int):=by omega
 have hl1:(1:Int) < (kl:Int):=by omega
 have h0k':0 < kl:=by omega
 have h1k':1 < kl:=by omega
 have HA:=aC hA;have UR:=aC hB;obtain ⟨W0,hW0⟩:∃ W0,W0=F7 w f rows[n]:=⟨_,rfl⟩;have HB0:Hid (af w W0):=by show Below _ _ _; rw [hW0]; exact jY _ _ _
 have VS:Hid (EnB W0 w.heap.size f rows[n]):=by show EnB _ _ _ _; rw [hW0]; exact oh _ _ _
 have HZ:Hid (W0.cell? ⟨bK,WX,none⟩=some (.int .i64 i0)∧W0.cell? ⟨bK,WX + 1,none⟩=some (.int .i64 i1)∧bK < W0.heap.size):=⟨(HB0.out.cell (p:=⟨bK,WX,none⟩) Zo).trans z0,(HB0.out.cell (p:=⟨bK,WX + 1,none⟩) Zo).trans z1,Sv Zo HB0.out.size⟩;have HX4:Hid (W0.cell? ⟨w.heap.size + 1,4,none⟩=some (.slice (some ⟨bK,WX,none⟩) kl cK)):=by show _=_; rw [VS.out.x4,Ul,← hkl',← hcK]
 have hk1:(rows[n].e.kind == 1)=false:=by rw [hk]; rfl
 have hk2:(rows[n].e.kind == 2)=false:=by rw [hk]; rfl
 have hk3:(rows[n].e.kind == 3)=false:=by rw [hk]; rfl
 have hk4:(rows[n].e.kind == 4)=false:=by rw [hk]; rfl
 have hk5:(rows[n].e.kind == 5)=false:=by rw [hk]; rfl
 have hk6:(rows[n].e.kind == 6)=true:=by rw [hk]; rfl
 have hn1:=bq n;have hn2:(n:Int) < (rows.length:Int):=by omega
 unfold F7 at hW0;rw [TC] at HA UR ⊢;clear TC hex hk hA hB hok z0 z1 Ul h0k h1k;go_enter func98,ntmps98;go_wp2_with fail;rw [← hW0];clear hW0 t0 t1 t2 t3 t4 hk1 hk2 hk3 hk4 hk5 hk6 hkl' hcK;have HAA:Hid (∀ d os,Calls prog 98 #[v0,vT,.slice (some ⟨b,off,none⟩) rows.length capE,.int .i64 i0,vK,vR,.agg #[.string f.a,.string f.b,.string f.r,.string f.c,.string f.d]] (grow (redrawn W0 d) os) fun e w''=>e=.returned (.bool b0)∧∃ p:Regrown,w''=grow (redrawn W0 p.d) p.os):=by
  refine bC fun W' hb=>?_;exact HA.out _ (HB0.out.trans (hb.mono HB0.out.size))
 have HBQ:Hid (∀ d os,Calls prog 98 #[v0,vT,.slice (some ⟨b,off,none⟩) rows.length capE,.int .i64 i1,vR,vR,.agg #[.string f.a,.string f.b,.string f.r,.string f.c,.string f.d]] (grow (redrawn W0 d) os) fun e w''=>e=.returned (.bool b1)∧∃ p:Regrown,w''=grow (redrawn W0 p.d) p.os):=by
  refine bC fun W' hb=>?_;exact UR.out _ (HB0.out.trans (hb.mono HB0.out.size))
 have c0:=cell_regrown VS.out.f0;have c1:=cell_regrown VS.out.f1;have c2:=cell_regrown VS.out.f2;have c3:=cell_regrown VS.out.f3;have c4:=cell_regrown VS.out.f4;have x4:=cell_regrown HX4.out;have z0:=cell_regrown HZ.out.1;have z1:=cell_regrown HZ.out.2.1;clear HA UR VS;cases b0;case true=>
  refine wp_region_quiet_below (by kernel_rfl) (by kernel_rfl) ?_
  iterate 11 (go_big_quiet_step (exact HAA.out _ _))
  repeat (go_big_quiet_step (exact HBQ.out _ _))
  refine wpQuiet_nil ?_;rintro _ ⟨⟨dq,osq⟩,rfl⟩;go_wp2;go_ret;exact ⟨rfl,HB0.out.trans ((below_regrown W0 dq osq).mono HB0.out.size)⟩
 refine wp_region_quiet_below (by kernel_rfl) (by kernel_rfl) ?_
 repeat (go_big_quiet_step (exact HAA.out _ _))
 refine wpQuiet_nil ?_;rintro _ ⟨⟨dq,osq⟩,rfl⟩;go_wp2;go_ret;exact ⟨rfl,HB0.out.trans ((below_regrown W0 dq osq).mono HB0.out.size)⟩
structure V9 (rows:List ER):Prop where
 len:rows.length≤1000
 kids:∀ q ∈ rows,q.e.kids.length≤1000
 low:Jz (ak rows)
 two:∀ e ∈ ak rows,e.kind=6→2≤e.kids.length
theorem V9.kid {rows:List ER} (h:V9 rows) {n:Nat} (hn:n < rows.length) {i:Int} (hi:i ∈ rows[n].e.kids):0≤i∧i < (n:Int):=by
 have:=h.low n (by rw [bi]; exact hn) i;have e:(ak rows)[n]'(by rw [bi]; exact hn)=rows[n].e:=by simp [ak]
 rw [e] at this;exact this hi
theorem xN (v0:Value) (Vq:Option Addr) (U4:Nat) (ts:List Tp) (TA:Option Addr) (capE:Nat) (rows:List ER) (Vr:Option Addr) (U3:Nat) (truth:List Fc) (f:Fc) (htl:ts.length≤1048576) (hN:V9 rows) (htr:truth.length≤1048576) :
  ∀ (k n:Nat) (adK:Option Addr) (capK:Nat) (known:List Fc) (w:World),n < k→n < rows.length→known.length≤1048576→HW w Vq ts TA rows adK known Vr truth →
  Calls prog 98 #[v0,.slice Vq ts.length U4,.slice TA rows.length capE,.int .i64 (n:Int),.slice adK known.length capK,.slice Vr truth.length U3,.agg #[.string f.a,.string f.b,.string f.r,.string f.c,.string f.d]] w fun e w'=>e=.returned (.bool (jB ts (ak rows) truth f k known n))∧af w w'
 | 0,_,_,_,_,_,h,_,_,_=>absurd h (Tn _)
 | k + 1,n,adK,capK,known,w,hk,hn,hkn,hW=>by
  have e:(ak rows)[n]?=some rows[n].e:=by simp [ak,hn]
  have Vx:∀ (ZW:Option Addr) (YX:Nat) (known':List Fc),known'.length≤1048576→HW w Vq ts TA rows ZW known' Vr truth→∀ i ∈ rows[n].e.kids,OO v0 (.slice Vq ts.length U4) (.slice TA rows.length capE) (.slice ZW known'.length YX) (.slice Vr truth.length U3) f w i (jB ts (ak rows) truth f k known' i.toNat):=fun ZW YX known' hl hW' i hi w1 hb1=>by
   have h1:=hN.kid hn hi;have h2:=xN v0 Vq U4 ts TA capE rows Vr U3 truth f htl hN htr k i.toNat ZW YX known' w1 (by omega) (by omega) hl (hW'.below hb1);have e2:((i.toNat:Nat):Int)=i:=by omega
   rw [e2] at h2;exact h2
  unfold jB;rw [e];have hm:rows[n] ∈ rows:=Sw hn;have hme:rows[n].e ∈ ak rows:=SK.2 ⟨_,hm,rfl⟩;by_cases k1:rows[n].e.kind=1
  ·simp only [if_pos k1];exact Ei v0 Vq U4 ts TA capE rows n adK capK known Vr U3 truth f w hW hn hN.len hkn htl k1
  by_cases k2:rows[n].e.kind=2
  ·simp only [if_neg k1,if_pos k2];exact Gd v0 Vq U4 ts TA capE rows n adK capK known Vr U3 truth f w hW hn hN.len hkn k2
  by_cases k3:rows[n].e.kind=3
  ·simp only [if_neg k1,if_neg k2,if_pos k3];exact Ej v0 Vq U4 ts TA capE rows n adK capK known Vr U3 truth f w hW hn hN.len hkn htl k3
  by_cases k4:rows[n].e.kind=4
  ·simp only [if_neg k1,if_neg k2,if_neg k3,if_pos k4];exact Bw (fun i=>jB ts (ak rows) truth f k known i.toNat) v0 _ TA capE rows n _ _ f w hW.ex hn hN.len (hN.kids _ hm) k4 (Vx adK capK known hkn hW)
  by_cases k5:rows[n].e.kind=5
  ·simp only [if_neg k1,if_neg k2,if_neg k3,if_neg k4,if_pos k5];exact El (fun i=>jB ts (ak rows) truth f k known i.toNat) v0 _ TA capE rows n _ _ f w hW.ex hn hN.len (hN.kids _ hm) k5 (Vx adK capK known hkn hW)
  by_cases k6:rows[n].e.kind=6
  ·simp only [if_neg k1,if_neg k2,if_neg k3,if_neg k4,if_neg k5,if_pos k6];have h2:=hN.two _ hme k6;have hg:∀ q,q < 2→rows[n].e.kids.getD q 0 ∈ rows[n].e.kids:=fun q hq=>by
    rw [List.getD_eq_getElem?_getD,SH (by omega)];exact Sw _
   exact Gf _ _ v0 _ TA capE rows n _ _ f w hW.ex hn hN.len (hN.kids _ hm) h2 k6 (Vx adK capK known hkn hW _ (hg 0 (by omega))) (Vx Vr U3 truth htr ⟨hW.tup,hW.ex,hW.tr,hW.tr⟩ _ (hg 1 (by omega)))
  simp only [if_neg k1,if_neg k2,if_neg k3,if_neg k4,if_neg k5,if_neg k6];exact IZ v0 Vq U4 ts TA capE rows n _ _ f w hW.ex hn hN.len k1 k2 k3 k4 k5 k6
def yf (B:Nat):Value:=.func (Fn.func 211) #[] #[.pointer (some ⟨B,0,none⟩),.pointer (some ⟨B + 1,0,none⟩),.pointer (some ⟨B + 1 + 1,0,none⟩),.pointer (some ⟨B + 1 + 1 + 1,0,none⟩)]
def Gu (w:World) (D:Nat) (vE:Value) (f:Fc) (bK:Nat) (x:ER):World :=
 (((((w.alloc (.cells #[.pointer (some ⟨D,0,none⟩)] 97)).alloc (.cells #[vE] 33)).alloc (.cells #[.string f.a,.string f.b,.string f.r,.string f.c,.string f.d] 29)).alloc (.cells #[.map (some bK)] 107)).alloc (.cells #[.int .i64 x.e.kind,.slice x.adA x.e.allow.length x.capA,.string x.e.over,.string x.e.name,.slice x.adK x.e.kids.length x.capK] 39)).alloc (.cells #[yf w.heap.size] 295)
structure NdB (w:World) (B D:Nat) (vE:Value) (f:Fc) (bK:Nat) (x:ER):Prop where
 lt:B + 1 + 1 + 1 + 1 + 1 < w.heap.size
 d:w.cell? ⟨B,0,none⟩=some (.pointer (some ⟨D,0,none⟩))
 e:w.cell? ⟨B + 1,0,none⟩=some vE
 f0:w.cell? ⟨B + 1 + 1,0,none⟩=some (.string f.a)
 f1:w.cell? ⟨B + 1 + 1,1,none⟩=some (.string f.b)
 f2:w.cell? ⟨B + 1 + 1,2,none⟩=some (.string f.r)
 f3:w.cell? ⟨B + 1 + 1,3,none⟩=some (.string f.c)
 f4:w.cell? ⟨B + 1 + 1,4,none⟩=some (.string f.d)
 k:w.cell? ⟨B + 1 + 1 + 1,0,none⟩=some (.map (some bK))
 x0:w.cell? ⟨B + 1 + 1 + 1 + 1,0,none⟩=some (.int .i64 x.e.kind)
 x1:w.cell? ⟨B + 1 + 1 + 1 + 1,1,none⟩=some (.slice x.adA x.e.allow.length x.capA)
 x2:w.cell? ⟨B + 1 + 1 + 1 + 1,2,none⟩=some (.string x.e.over)
 x3:w.cell? ⟨B + 1 + 1 + 1 + 1,3,none⟩=some (.string x.e.name)
 x4:w.cell? ⟨B + 1 + 1 + 1 + 1,4,none⟩=some (.slice x.adK x.e.kids.length x.capK)
 v:w.cell? ⟨B + 1 + 1 + 1 + 1 + 1,0,none⟩=some (yf B)
theorem NdB.below {w w':ae} {B D:Nat} {vE:Value} {f:Fc} {bK:Nat} {x:ER} (h:NdB w B D vE f bK x) (hB:af w w'):NdB w' B D vE f bK x:=by
 have hl:=h.lt;have c:∀ i o,i≤5→w'.cell? ⟨B + i,o,none⟩=w.cell? ⟨B + i,o,none⟩:=fun i o hi=>hB.cell (p:=⟨B + i,o,none⟩) (show B + i < _ by omega);have c0:∀ o,w'.cell? ⟨B,o,none⟩=w.cell? ⟨B,o,none⟩:=fun o=>hB.cell (p:=⟨B,o,none⟩) (show B < _ by omega);exact ⟨Sv hl hB.size,(c0 _).trans h.d,(c 1 _ (by omega)).trans h.e,(c 2 _ (by omega)).trans h.f0,(c 2 _ (by omega)).trans h.f1,(c 2 _ (by omega)).trans h.f2,(c 2 _ (by omega)).trans h.f3,(c 2 _ (by omega)).trans h.f4,(c 3 _ (by omega)).trans h.k,(c 4 _ (by omega)).trans h.x0,(c 4 _ (by omega)).trans h.x1,(c 4 _ (by omega)).trans h.x2,(c 4 _ (by omega)).trans h.x3,(c 4 _ (by omega)).trans h.x4,(c 5 _ (by omega)).trans h.v⟩
theorem lG (w:ae) (D:Nat) (vE:Value) (f:Fc) (bK:Nat) (x:ER):af w (Gu w D vE f bK x):=by
 unfold Gu;exact ((((((Sz _ _).alloc (Sy _) _).alloc (by simp) _).alloc (by simp; omega) _).alloc (by simp; omega) _).alloc (by simp; omega) _).alloc (by simp; omega) _
theorem ol (w:ae) (cs:Array Value) (T:TypeId) (o:Nat):(w.alloc (.cells cs T)).cell? ⟨w.heap.size,o,none⟩=cs[o]?:=World.cell?_alloc_mark w cs T (0,0) o
theorem lH (w:ae) (D:Nat) (vE:Value) (f:Fc) (bK:Nat) (x:ER):NdB (Gu w D vE f bK x) w.heap.size D vE f bK x:=by
 unfold Gu;obtain ⟨w1,h1⟩:∃ u,u=w.alloc (.cells #[.pointer (some ⟨D,0,none⟩)] 97):=⟨_,rfl⟩;have s1:w1.heap.size=w.heap.size + 1:=by rw [h1,World.size_alloc]
 have b1:af w w1:=by rw [h1]; exact (Sz _ _).alloc (Sy _) _
 obtain ⟨w2,h2⟩:∃ u,u=w1.alloc (.cells #[vE] 33):=⟨_,rfl⟩;have s2:w2.heap.size=w.heap.size + 1 + 1:=by rw [h2,World.size_alloc,s1]
 have b2:af w1 w2:=by rw [h2]; exact (Sz _ _).alloc (Sy _) _
 obtain ⟨w3,h3⟩:∃ u,u=w2.alloc (.cells #[.string f.a,.string f.b,.string f.r,.string f.c,.string f.d] 29):=⟨_,rfl⟩;have s3:w3.heap.size=w.heap.size + 1 + 1 + 1:=by rw [h3,World.size_alloc,s2]
 have b3:af w2 w3:=by rw [h3]; exact (Sz _ _).alloc (Sy _) _
 obtain ⟨w4,h4⟩:∃ u,u=w3.alloc (.cells #[.map (some bK)] 107):=⟨_,rfl⟩;have s4:w4.heap.size=w.heap.size + 1 + 1 + 1 + 1:=by rw [h4,World.size_alloc,s3]
 have b4:af w3 w4:=by rw [h4]; exact (Sz _ _).alloc (Sy _) _
 obtain ⟨w5,h5⟩:∃ u,u=w4.alloc (.cells #[.int .i64 x.e.kind,.slice x.adA x.e.allow.length x.capA,.string x.e.over,.string x.e.name,.slice x.adK x.e.kids.length x.capK] 39):=⟨_,rfl⟩;have s5:w5.heap.size=w.heap.size + 1 + 1 + 1 + 1 + 1:=by rw [h5,World.size_alloc,s4]
 have b5:af w4 w5:=by rw [h5]; exact (Sz _ _).alloc (Sy _) _
 obtain ⟨w6,h6⟩:∃ u,u=w5.alloc (.cells #[yf w.heap.size] 295):=⟨_,rfl⟩;have s6:w6.heap.size=w.heap.size + 1 + 1 + 1 + 1 + 1 + 1:=by rw [h6,World.size_alloc,s5]
 have b6:af w5 w6:=by rw [h6]; exact (Sz _ _).alloc (Sy _) _
 rw [← h1,← h2,← h3,← h4,← h5,← h6];have c0:∀ o,w6.cell? ⟨w.heap.size,o,none⟩=(#[.pointer (some ⟨D,0,none⟩)]:Array Value)[o]?:=fun o=>by
  have e:w1.cell? ⟨w.heap.size,o,none⟩=(#[.pointer (some ⟨D,0,none⟩)]:Array Value)[o]?:=by rw [h1]; exact ol _ _ _ o
  rw [b6.cell (p:=⟨w.heap.size,o,none⟩) (show w.heap.size < _ by omega),b5.cell (p:=⟨w.heap.size,o,none⟩) (show w.heap.size < _ by omega),b4.cell (p:=⟨w.heap.size,o,none⟩) (show w.heap.size < _ by omega),b3.cell (p:=⟨w.heap.size,o,none⟩) (show w.heap.size < _ by omega),b2.cell (p:=⟨w.heap.size,o,none⟩) (show w.heap.size < _ by omega)]; exact e
 have c1:∀ o,w6.cell? ⟨w.heap.size + 1,o,none⟩=(#[vE]:Array Value)[o]?:=fun o=>by
  have e:w2.cell? ⟨w.heap.size + 1,o,none⟩=(#[vE]:Array Value)[o]?:=by rw [h2,← s1]; exact ol _ _ _ o
  rw [b6.cell (p:=⟨w.heap.size + 1,o,none⟩) (show w.heap.size + 1 < _ by omega),b5.cell (p:=⟨w.heap.size + 1,o,none⟩) (show w.heap.size + 1 < _ by omega),b4.cell (p:=⟨w.heap.size + 1,o,none⟩) (show w.heap.size + 1 < _ by omega),b3.cell (p:=⟨w.heap.size + 1,o,none⟩) (show w.heap.size + 1 < _ by omega)]; exact e
 have c2:∀ o,w6.cell? ⟨w.heap.size + 1 + 1,o,none⟩=(#[.string f.a,.string f.b,.string f.r,.string f.c,.string f.d]:Array Value)[o]?:=fun o=>by
  have e:w3.cell? ⟨w.heap.size + 1 + 1,o,none⟩=(#[.string f.a,.string f.b,.string f.r,.string f.c,.string f.d]:Array Value)[o]?:=by rw [h3,← s2]; exact ol _ _ _ o
  rw [b6.cell (p:=⟨w.heap.size + 1 + 1,o,none⟩) (show w.heap.size + 1 + 1 < _ by omega),b5.cell (p:=⟨w.heap.size + 1 + 1,o,none⟩) (show w.heap.size + 1 + 1 < _ by omega),b4.cell (p:=⟨w.heap.size + 1 + 1,o,none⟩) (show w.heap.size + 1 + 1 < _ by omega)]; exact e
 have c3:∀ o,w6.cell? ⟨w.heap.size + 1 + 1 + 1,o,none⟩=(#[.map (some bK)]:Array Value)[o]?:=fun o=>by
  have e:w4.cell? ⟨w.heap.size + 1 + 1 + 1,o,none⟩=(#[.map (some bK)]:Array Value)[o]?:=by rw [h4,← s3]; exact ol _ _ _ o
  rw [b6.cell (p:=⟨w.heap.size + 1 + 1 + 1,o,none⟩) (show w.heap.size + 1 + 1 + 1 < _ by omega),b5.cell (p:=⟨w.heap.size + 1 + 1 + 1,o,none⟩) (show w.heap.size + 1 + 1 + 1 < _ by omega)]; exact e
 have c4:∀ o,w6.cell? ⟨w.heap.size + 1 + 1 + 1 + 1,o,none⟩=(#[.int .i64 x.e.kind,.slice x.adA x.e.allow.length x.capA,.string x.e.over,.string x.e.name,.slice x.adK x.e.kids.length x.capK]:Array Value)[o]?:=fun o=>by
  have e:w5.cell? ⟨w.heap.size + 1 + 1 + 1 + 1,o,none⟩=(#[.int .i64 x.e.kind,.slice x.adA x.e.allow.length x.capA,.string x.e.over,.string x.e.name,.slice x.adK x.e.kids.length x.capK]:Array Value)[o]?:=by rw [h5,← s4]; exact ol _ _ _ o
  rw [b6.cell (p:=⟨w.heap.size + 1 + 1 + 1 + 1,o,none⟩) (show w.heap.size + 1 + 1 + 1 + 1 < _ by omega)]; exact e
 have c5:∀ o,w6.cell? ⟨w.heap.size + 1 + 1 + 1 + 1 + 1,o,none⟩=(#[yf w.heap.size]:Array Value)[o]?:=fun o=>by
  have e:w6.cell? ⟨w.heap.size + 1 + 1 + 1 + 1 + 1,o,none⟩=(#[yf w.heap.size]:Array Value)[o]?:=by rw [h6,← s5]; exact ol _ _ _ o
  exact e
 exact ⟨by omega,c0 0,c1 0,c2 0,c2 1,c2 2,c2 3,c2 4,c3 0,c4 0,c4 1,c4 2,c4 3,c4 4,c5 0⟩
def I1 (D:Nat) (vE:Value) (f:Fc) (bK:Nat) (w:World) (i:Int) (b:Bool):Prop:=∀ w1:World,af w w1→Calls prog 167 #[.pointer (some ⟨D,0,none⟩),vE,.int .i64 i,.agg #[.string f.a,.string f.b,.string f.r,.string f.c,.string f.d],.map (some bK)] w1 fun e w'=>e=.returned (.bool b)∧af w1 w'
theorem o9 {w w1:ae} {B D:Nat} {vE:Value} {f:Fc} {bK:Nat} {x:ER} {i:Int} {b:Bool} (hK:I1 D vE f bK w i b) (hb:af w w1) (hB:NdB w1 B D vE f bK x) :
  Calls prog 211 #[.int .i64 i,.pointer (some ⟨B,0,none⟩),.pointer (some ⟨B + 1,0,none⟩),.pointer (some ⟨B + 1 + 1,0,none⟩),.pointer (some ⟨B + 1 + 1 + 1,0,none⟩)] w1 fun e w'=>e=.returned (.bool b)∧af w1 w':=by
 have HC:=aC (hK w1 hb);obtain ⟨-,d,e,f0,f1,f2,f3,f4,k,-⟩:=hB;clear hK;go_enter func211,ntmps211;go_wp2_with fail;refine HC.out.mono ?_;rintro e w2 ⟨rfl,hb2⟩;have HB:=aC hb2;clear hb2;go_wp2;go_ret;exact ⟨rfl,HB.out⟩
theorem vv {w w1:ae} {B D:Nat} {vE:Value} {f:Fc} {bK:Nat} {x:ER} {i:Int} {b:Bool} (hK:I1 D vE f bK w i b) (hb:af w w1) (hB:NdB w1 B D vE f bK x) :
  Calls prog 212 #[.int .i64 i,.pointer (some ⟨B + 1 + 1 + 1 + 1 + 1,0,none⟩)] w1 fun e w'=>e=.returned (.bool (!b))∧af w1 w':=by
 have HC:=aC (o9 hK hb hB);have hv:=hB.v;unfold yf at hv;clear hK hB;go_enter func212,ntmps212;go_wp2_with fail;refine HC.out.mono ?_;rintro e w2 ⟨rfl,hb2⟩;have HB:=aC hb2;clear hb2;go_wp2;go_ret;exact ⟨rfl,HB.out⟩
theorem Rf (xs:Array Value) (u:ae):(callFunc 211 xs).run prog u=.ok (.enter 211 xs) u:=by kernel_rfl
theorem Rh (xs:Array Value) (u:ae):(callFunc 212 xs).run prog u=.ok (.enter 212 xs) u:=by kernel_rfl
theorem LD (p:Int→Bool) {zs:List Int} {k:Nat} (h:k < zs.length):(zs.drop k).any p=(p zs[k] || (zs.drop (k + 1)).any p):=by rw [Te h]; rfl
theorem I4 (FC:Nat) (rc cp:Array Value) (p:Int→Bool) (ad:Option Addr) (cap:Nat) (xs:List Int) (w:ae) (hlen:xs.length≤1048576) (hs:vH w ad xs)
  (hrun:∀ (ys:Array Value) (u:World),(callFunc FC ys).run prog u=.ok (.enter FC ys) u) (hp:∀ x ∈ xs,∀ w1:World,af w w1→Calls prog FC (rc.push (.int .i64 x) ++ cp) w1 fun e w'=>e=.returned (.bool (p x))∧af w1 w') :
  Calls prog 230 #[.slice ad xs.length cap,.func (Fn.func FC) rc cp] w fun e w'=>(∃ r:Int,e=.returned (.int .i64 r)∧decide (0≤r)=xs.any p)∧af w w':=by
 have HS:=aC hs;have HRUN:=aC hrun;have HP:=aC hp;clear hs hrun hp;have HD:Hid (∀ k (h:k < xs.length),(xs.drop k).any p=(p xs[k] || (xs.drop (k + 1)).any p)):=fun k h=>LD p h;go_enter func230,ntmps230;go_wp2_with fail;go_loopw [8] (fun i wr=>∃ k:Nat,k≤xs.length∧i=.int .i64 k∧Hid ((xs.drop k).any p=xs.any p)∧Hid (af w wr)) (fun i _=>xs.length - (intOf i).toNat);case atStart=>exact ⟨0,SC _,rfl,rfl,Sz _ _⟩
 obtain ⟨k,hk,rfl,HQ,HB⟩:=hrel;by_cases hlt:k < xs.length
 ·obtain ⟨b,off,TC,t0,hbl⟩:=vH.at0 (HS.out.below HB.out) hlt;have HM:Hid (xs[k] ∈ xs):=Sw hlt;have hk1:=bq k;have hk2:(k:Int) < (xs.length:Int):=by omega
  have HD2:=aC (HD.out k hlt);subst TC;go_wp2_with fail;rw [HRUN.out,Oper.upon_enter];refine (HP.out _ HM.out _ HB.out).mono ?_;rintro e w1 ⟨rfl,hb1⟩;have HB1:=jI HB hb1;clear hb1 t0;cases he:p xs[k];case true=>
   have HN:Hid (xs.any p=true):=by show _=_; rw [← HQ.out,HD2.out,he]; rfl
   go_wp2;go_ret;exact ⟨⟨k,rfl,by rw [HN.out]; simp⟩,HB1.out⟩
  have HQ2:Hid ((xs.drop (k + 1)).any p=xs.any p):=by show _=_; rw [← HQ.out,HD2.out,he]; rfl
  go_wp2;go_roundw;case rel=>exact ⟨k + 1,by omega,by go_num,HQ2,HB1⟩
  simp [intOf] <;> omega
 have HN:Hid (xs.any p=false):=by show _=_; rw [← HQ.out,List.drop_of_length_le (by omega)]; rfl
 go_wp2;go_ret;exact ⟨⟨-1,rfl,by rw [HN.out]; simp⟩,HB.out⟩
theorem su (FC:Nat) (rc cp:Array Value) (p:Int→Bool) (ad:Option Addr) (cap:Nat) (xs:List Int) (w:ae) (hlen:xs.length≤1048576) (hs:vH w ad xs)
  (hrun:∀ (ys:Array Value) (u:World),(callFunc FC ys).run prog u=.ok (.enter FC ys) u) (hp:∀ x ∈ xs,∀ w1:World,af w w1→Calls prog FC (rc.push (.int .i64 x) ++ cp) w1 fun e w'=>e=.returned (.bool (p x))∧af w1 w') :
  Calls prog 215 #[.slice ad xs.length cap,.func (Fn.func FC) rc cp] w fun e w'=>e=.returned (.bool (xs.any p))∧af w w':=by
 have HC:=aC (I4 FC rc cp p ad cap xs w hlen hs hrun hp);clear hs hrun hp;go_enter func215,ntmps215;go_wp2_with fail;refine HC.out.mono ?_;rintro e w' ⟨⟨r,rfl,hr⟩,hbx⟩;have HR:=aC hr;clear hr;go_wp2;go_ret;exact ⟨by rw [← HR.out]; rfl,hbx⟩
end Go.Proofs.YtajkkeikihhejaaGreat
