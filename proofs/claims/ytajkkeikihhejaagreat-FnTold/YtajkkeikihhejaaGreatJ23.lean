/- The document's question of a node that is told by tuples, or that names a relation. -/
import Derived.Test.YtajkkeikihhejaaGreatSq
import Derived.Test.YtajkkeikihhejaaGreatJ17
open Go.Proofs.Tryz
set_option maxHeartbeats 80000000
namespace Go.Proofs.YtajkkeikihhejaaGreat
set_option linter.unusedVariables false
set_option maxRecDepth 100000
open Go.ChangeShapes Go.WideShapes Go.ChangeAt Go.RowKit Go.Maps
open Pl
theorem Gx (v0:Value) (V8:Option Addr) (VN:Nat) (ts:List Tp) (UC:Option Addr) (capE:Nat) (rows:List ER) (n:Nat) (adK:Option Addr) (capK:Nat) (known:List Fc) (V9:Option Addr) (VO:Nat) (truth:List Fc) (f:Fc) (w:af) (hW:HW w V8 ts UC rows adK known V9 truth) (hn:n < rows.length) (hre:rows.length≤1000) (hkl:known.length≤1048576) (hk:rows[n].e.kind=2) :
  Calls prog 98 #[v0,.slice V8 ts.length VN,.slice UC rows.length capE,.int .i64 (n:Int),.slice adK known.length capK,.slice V9 truth.length VO,.agg #[.string f.a,.string f.b,.string f.r,.string f.c,.string f.d]] w fun e w'=>e=.returned (.bool (bP known ⟨f.a,f.b,rows[n].e.name,f.c,f.d⟩))∧ag w w':=by
 obtain ⟨b,off,UF,⟨t0,t1,t2,t3,t4⟩,hbl,-⟩:=iH.at0 hW.ex hn;have HW0:=aC hW;obtain ⟨W0,hW0⟩:∃ W0,W0=Gd w f rows[n]:=⟨_,rfl⟩;have HB0:Hid (ag w W0):=by show Below _ _ _; rw [hW0]; exact jU _ _ _
 have hk1:(rows[n].e.kind == 1)=false:=by rw [hk]; rfl
 have hk2:(rows[n].e.kind == 2)=true:=by rw [hk]; rfl
 have hn1:=bB n;have hn2:(n:Int) < (rows.length:Int):=by omega
 unfold Gd at hW0;rw [UF];clear UF hW hk;go_enter func98,ntmps98;go_wp2_with fail;rw [← hW0];refine (om adK capK known ⟨f.a,f.b,rows[n].e.name,f.c,f.d⟩ W0 hkl (HW0.out.kn.below HB0.out)).mono ?_;rintro e w1 ⟨rfl,hb1⟩;have HB1:=aC (HB0.out.trans (hb1.mono HB0.out.size));clear hb1 hW0;go_wp2;go_ret;exact ⟨rfl,HB1.out⟩
theorem JE (v0:Value) (V8:Option Addr) (VN:Nat) (ts:List Tp) (UC:Option Addr) (capE:Nat) (rows:List ER) (n:Nat) (vK vR:Value) (f:Fc) (w:af) (hex:iH w UC rows) (hn:n < rows.length) (hre:rows.length≤1000) (k1:rows[n].e.kind ≠ 1) (k2:rows[n].e.kind ≠ 2) (k3:rows[n].e.kind ≠ 3) (k4:rows[n].e.kind ≠ 4) (k5:rows[n].e.kind ≠ 5) (k6:rows[n].e.kind ≠ 6) :
  Calls prog 98 #[v0,.slice V8 ts.length VN,.slice UC rows.length capE,.int .i64 (n:Int),vK,vR,.agg #[.string f.a,.string f.b,.string f.r,.string f.c,.string f.d]] w fun e w'=>e=.returned (.bool false)∧ag w w':=by
 obtain ⟨b,off,UF,⟨t0,t1,t2,t3,t4⟩,hbl,-⟩:=iH.at0 hex hn;have HB0:=aC (jU w f rows[n]);unfold Gd at HB0;have hk1:(rows[n].e.kind == 1)=false:=by simpa using k1
 have hk2:(rows[n].e.kind == 2)=false:=by simpa using k2
 have hk3:(rows[n].e.kind == 3)=false:=by simpa using k3
 have hk4:(rows[n].e.kind == 4)=false:=by simpa using k4
 have hk5:(rows[n].e.kind == 5)=false:=by simpa using k5
 have hk6:(rows[n].e.kind == 6)=false:=by simpa using k6
 have hn1:=bB n;have hn2:(n:Int) < (rows.length:Int):=by omega
 rw [UF];clear UF hex k1 k2 k3 k4 k5 k6;go_enter func98,ntmps98;go_wp2;go_ret;exact ⟨rfl,HB0.out⟩
theorem EH (v0:Value) (V8:Option Addr) (VN:Nat) (ts:List Tp) (UC:Option Addr) (capE:Nat) (rows:List ER) (n:Nat) (adK:Option Addr) (capK:Nat) (known:List Fc) (V9:Option Addr) (VO:Nat) (truth:List Fc) (f:Fc) (w:af) (hW:HW w V8 ts UC rows adK known V9 truth) (hn:n < rows.length) (hre:rows.length≤1000) (hkl:known.length≤1048576) (htl:ts.length≤1048576) (hk:rows[n].e.kind=1) :
  Calls prog 98 #[v0,.slice V8 ts.length VN,.slice UC rows.length capE,.int .i64 (n:Int),.slice adK known.length capK,.slice V9 truth.length VO,.agg #[.string f.a,.string f.b,.string f.r,.string f.c,.string f.d]] w fun e w'=>e=.returned (.bool (dY ts known f))∧ag w w':=by
 obtain ⟨b,off,UF,⟨t0,t1,t2,t3,t4⟩,hbl,-⟩:=iH.at0 hW.ex hn;have HW0:=aC hW;obtain ⟨W0,hW0⟩:∃ W0,W0=Gd w f rows[n]:=⟨_,rfl⟩;have HB0:Hid (ag w W0):=by show Below _ _ _; rw [hW0]; exact jU _ _ _
 have WB:Hid (EnB W0 w.heap.size f rows[n]):=by show EnB _ _ _ _; rw [hW0]; exact oo _ _ _
 have hk1:(rows[n].e.kind == 1)=true:=by rw [hk]; rfl
 have hn1:=bB n;have hn2:(n:Int) < (rows.length:Int):=by omega
 unfold Gd at hW0;rw [UF];clear UF hW hk;go_enter func98,ntmps98;go_wp2_with fail;rw [← hW0];clear hW0 t0 t1 t2 t3 t4;go_loopw [16] (fun i wr=>∃ k:Nat,k≤ts.length∧i=.int .i64 k∧Hid (dY (ts.drop k) known f=dY ts known f)∧Hid (ag W0 wr)) (fun i _=>ts.length - (intOf i).toNat);case atStart=>exact ⟨0,TW _,rfl,rfl,TT _ _⟩
 obtain ⟨k,hk,rfl,HP,HB⟩:=hrel;have UG:Hid (ag w wr):=HB0.out.trans (HB.out.mono HB0.out.size);by_cases hlt:k < ts.length
 ·obtain ⟨bT,offT,Xb,⟨a0,a1,a2,a3,a4,a5⟩,hbT⟩:=Sl.at0 (HW0.out.tup.below UG.out) hlt;have hE:=WB.out.below HB.out;have e0:=hE.f0;have e1:=hE.f1;have e2:=hE.f2;have e3:=hE.f3;have e4:=hE.f4;have el:w.heap.size < wr.heap.size:=by have:=hE.lt; omega
  have hi1:=bB k;have hi2:(k:Int) < (ts.length:Int):=by omega
  obtain ⟨W1,hW1⟩:∃ W1,W1=wr.alloc (.cells #[.string ts[k].a,.string ts[k].b,.string ts[k].r,.string ts[k].c,.string ts[k].d,.string ts[k].s] 46):=⟨_,rfl⟩;have VM:=qY hW1;have HB1:Hid (ag W0 W1):=HB.out.trans (VM.out.mono HB.out.size);have Vo:Hid (ag w W1):=UG.out.trans (VM.out.mono UG.out.size);have HD:Hid (dY ts known f=(Am known f ts[k] || dY (ts.drop (k + 1)) known f)):=by show _=_; rw [← HP.out]; exact Jb hlt known f
  rw [Xb];clear Xb hE;cases ho:Ak ts[k].a ts[k].b f.a f.b;case false=>
   have hneq:=Gc _ _ _ _ ho;have UI:Hid (dY (ts.drop (k + 1)) known f=dY ts known f):=by
    show _=_;unfold Ak at ho;rw [HD.out]; unfold Am; rw [ho]; rfl
   clear ho;go_wp2;rw [← hW1];clear hW1;go_roundw;case rel=>exact ⟨k + 1,by omega,by go_num,UI,HB1⟩
   simp [intOf] <;> omega
  have hneq:=Gc _ _ _ _ ho;have HO:Hid (Ak ts[k].a ts[k].b f.a f.b=true):=ho;clear ho;cases hr:(ts[k].r.toList == f.r.toList);case false=>
   have UI:Hid (dY (ts.drop (k + 1)) known f=dY ts known f):=by
    show _=_;have h2:=HO.out;unfold Ak at h2;rw [HD.out]; unfold Am; rw [h2,hr]; rfl
   go_wp2;rw [← hW1];clear hW1;go_roundw;case rel=>exact ⟨k + 1,by omega,by go_num,UI,HB1⟩
   simp [intOf] <;> omega
  have HT:Hid (Am known f ts[k]=(if ts[k].s.toList.isEmpty then ts[k].c.toList == f.c.toList && ts[k].d.toList == f.d.toList else bP known ⟨ts[k].c,ts[k].d,ts[k].s,f.c,f.d⟩)):=by
   show _=_;have h2:=HO.out;unfold Ak at h2;unfold Am; rw [h2,hr]; rfl
  cases hs:ts[k].s.toList.isEmpty;case true=>
   have hs2:(ts[k].s.toList == [])=true:=by rw [mX]; exact hs
   cases hu:Ak ts[k].c ts[k].d f.c f.d;case true=>
    have heq:=jI _ _ _ _ hu;have HN:Hid (dY ts known f=true):=by
     show _=_;unfold Ak at hu;rw [HD.out,HT.out,if_pos hs,hu]; rfl
    clear hu hs;go_wp2;rw [← hW1];go_ret;exact ⟨by rw [HN.out]; rfl,Vo.out⟩
   have heq:=jI _ _ _ _ hu;have UI:Hid (dY (ts.drop (k + 1)) known f=dY ts known f):=by
    show _=_;unfold Ak at hu;rw [HD.out,HT.out,if_pos hs,hu]; rfl
   clear hu hs;go_wp2;rw [← hW1];clear hW1;go_roundw;case rel=>exact ⟨k + 1,by omega,by go_num,UI,HB1⟩
   simp [intOf] <;> omega
  have hs2:(ts[k].s.toList == [])=false:=by rw [mX]; exact hs
  have HT2:Hid (Am known f ts[k]=bP known ⟨ts[k].c,ts[k].d,ts[k].s,f.c,f.d⟩):=by show _=_; rw [HT.out,if_neg (by rw [hs]; decide)]
  clear hs;go_wp2_with fail;rw [← hW1];clear hW1;refine (om adK capK known ⟨ts[k].c,ts[k].d,ts[k].s,f.c,f.d⟩ W1 hkl (HW0.out.kn.below Vo.out)).mono ?_;rintro e w2 ⟨rfl,hb2⟩;have HB2:=jP HB1 hb2;have YC:=jP Vo hb2;clear hb2;cases hh:bP known ⟨ts[k].c,ts[k].d,ts[k].s,f.c,f.d⟩;case true=>
   have HN:Hid (dY ts known f=true):=by show _=_; rw [HD.out,HT2.out,hh]; rfl
   go_wp2;go_ret;exact ⟨by rw [HN.out]; rfl,YC.out⟩
  have UI:Hid (dY (ts.drop (k + 1)) known f=dY ts known f):=by show _=_; rw [HD.out,HT2.out,hh]; rfl
  go_wp2;go_roundw;case rel=>exact ⟨k + 1,by omega,by go_num,UI,HB2⟩
  simp [intOf] <;> omega
 have HN:Hid (dY ts known f=false):=by show _=_; rw [← HP.out,List.drop_of_length_le (by omega)]; rfl
 go_wp2;go_ret;exact ⟨by rw [HN.out]; rfl,UG.out⟩
theorem EJ (v0:Value) (V8:Option Addr) (VN:Nat) (ts:List Tp) (UC:Option Addr) (capE:Nat) (rows:List ER) (n:Nat) (adK:Option Addr) (capK:Nat) (known:List Fc) (V9:Option Addr) (VO:Nat) (truth:List Fc) (f:Fc) (w:af) (hW:HW w V8 ts UC rows adK known V9 truth) (hn:n < rows.length) (hre:rows.length≤1000) (hkl:known.length≤1048576) (htl:ts.length≤1048576) (hk:rows[n].e.kind=3) :
  Calls prog 98 #[v0,.slice V8 ts.length VN,.slice UC rows.length capE,.int .i64 (n:Int),.slice adK known.length capK,.slice V9 truth.length VO,.agg #[.string f.a,.string f.b,.string f.r,.string f.c,.string f.d]] w fun e w'=>e=.returned (.bool (gp ts known rows[n].e.over rows[n].e.name f))∧ag w w':=by
 obtain ⟨b,off,UF,⟨t0,t1,t2,t3,t4⟩,hbl,-⟩:=iH.at0 hW.ex hn;have HW0:=aC hW;obtain ⟨W0,hW0⟩:∃ W0,W0=Gd w f rows[n]:=⟨_,rfl⟩;have HB0:Hid (ag w W0):=by show Below _ _ _; rw [hW0]; exact jU _ _ _
 have WB:Hid (EnB W0 w.heap.size f rows[n]):=by show EnB _ _ _ _; rw [hW0]; exact oo _ _ _
 have hk1:(rows[n].e.kind == 1)=false:=by rw [hk]; rfl
 have hk2:(rows[n].e.kind == 2)=false:=by rw [hk]; rfl
 have hk3:(rows[n].e.kind == 3)=true:=by rw [hk]; rfl
 have hn1:=bB n;have hn2:(n:Int) < (rows.length:Int):=by omega
 unfold Gd at hW0;rw [UF];clear UF hW hk;go_enter func98,ntmps98;go_wp2_with fail;rw [← hW0];clear hW0 t0 t1 t2 t3 t4;go_loopw [18] (fun i wr=>∃ k:Nat,k≤ts.length∧i=.int .i64 k∧Hid (gp (ts.drop k) known rows[n].e.over rows[n].e.name f=gp ts known rows[n].e.over rows[n].e.name f)∧Hid (ag W0 wr)) (fun i _=>ts.length - (intOf i).toNat);case atStart=>exact ⟨0,TW _,rfl,rfl,TT _ _⟩
 obtain ⟨k,hk,rfl,HP,HB⟩:=hrel;have UG:Hid (ag w wr):=HB0.out.trans (HB.out.mono HB0.out.size);by_cases hlt:k < ts.length
 ·obtain ⟨bT,offT,Xb,⟨a0,a1,a2,a3,a4,a5⟩,hbT⟩:=Sl.at0 (HW0.out.tup.below UG.out) hlt;have hE:=WB.out.below HB.out;have e0:=hE.f0;have e1:=hE.f1;have e2:=hE.f2;have e3:=hE.f3;have e4:=hE.f4;have el:w.heap.size < wr.heap.size:=by have:=hE.lt; omega
  have el2:w.heap.size + 1 < wr.heap.size:=hE.lt;have g2:=hE.x2;have g3:=hE.x3;have hi1:=bB k;have hi2:(k:Int) < (ts.length:Int):=by omega
  obtain ⟨W1,hW1⟩:∃ W1,W1=wr.alloc (.cells #[.string ts[k].a,.string ts[k].b,.string ts[k].r,.string ts[k].c,.string ts[k].d,.string ts[k].s] 46):=⟨_,rfl⟩;have VM:=qY hW1;have HB1:Hid (ag W0 W1):=HB.out.trans (VM.out.mono HB.out.size);have Vo:Hid (ag w W1):=UG.out.trans (VM.out.mono UG.out.size);have HD:Hid (gp ts known rows[n].e.over rows[n].e.name f=(Da known rows[n].e.over rows[n].e.name f ts[k] || gp (ts.drop (k + 1)) known rows[n].e.over rows[n].e.name f)):=by show _=_; rw [← HP.out]; exact Jc hlt known _ _ f
  rw [Xb];clear Xb hE;cases ho:Ak ts[k].a ts[k].b f.a f.b;case false=>
   have hoeq:=jI _ _ _ _ ho;have UI:Hid (gp (ts.drop (k + 1)) known rows[n].e.over rows[n].e.name f=gp ts known rows[n].e.over rows[n].e.name f):=by
    show _=_;unfold Ak at ho;rw [HD.out]; unfold Da; rw [ho]; rfl
   clear ho;go_wp2;rw [← hW1];clear hW1;go_roundw;case rel=>exact ⟨k + 1,by omega,by go_num,UI,HB1⟩
   simp [intOf] <;> omega
  have hoeq:=jI _ _ _ _ ho;have HO:Hid (Ak ts[k].a ts[k].b f.a f.b=true):=ho;clear ho;cases hr:(ts[k].r.toList == rows[n].e.over.toList);case false=>
   have UI:Hid (gp (ts.drop (k + 1)) known rows[n].e.over rows[n].e.name f=gp ts known rows[n].e.over rows[n].e.name f):=by
    show _=_;have h2:=HO.out;unfold Ak at h2;rw [HD.out]; unfold Da; rw [h2,hr]; rfl
   go_wp2;rw [← hW1];clear hW1;go_roundw;case rel=>exact ⟨k + 1,by omega,by go_num,UI,HB1⟩
   simp [intOf] <;> omega
  have HT2:Hid (Da known rows[n].e.over rows[n].e.name f ts[k]=bP known ⟨ts[k].c,ts[k].d,rows[n].e.name,f.c,f.d⟩):=by
   show _=_;have h2:=HO.out;unfold Ak at h2;unfold Da; rw [h2,hr]; rfl
  go_wp2_with fail;rw [← hW1];clear hW1;refine (om adK capK known ⟨ts[k].c,ts[k].d,rows[n].e.name,f.c,f.d⟩ W1 hkl (HW0.out.kn.below Vo.out)).mono ?_;rintro e w2 ⟨rfl,hb2⟩;have HB2:=jP HB1 hb2;have YC:=jP Vo hb2;clear hb2;cases hh:bP known ⟨ts[k].c,ts[k].d,rows[n].e.name,f.c,f.d⟩;case true=>
   have HN:Hid (gp ts known rows[n].e.over rows[n].e.name f=true):=by show _=_; rw [HD.out,HT2.out,hh]; rfl
   go_wp2;go_ret;exact ⟨by rw [HN.out]; rfl,YC.out⟩
  have UI:Hid (gp (ts.drop (k + 1)) known rows[n].e.over rows[n].e.name f=gp ts known rows[n].e.over rows[n].e.name f):=by show _=_; rw [HD.out,HT2.out,hh]; rfl
  go_wp2;go_roundw;case rel=>exact ⟨k + 1,by omega,by go_num,UI,HB2⟩
  simp [intOf] <;> omega
 have HN:Hid (gp ts known rows[n].e.over rows[n].e.name f=false):=by show _=_; rw [← HP.out,List.drop_of_length_le (by omega)]; rfl
 go_wp2;go_ret;exact ⟨by rw [HN.out]; rfl,UG.out⟩
open Go.Sort
theorem Md (p:Int→Bool) {zs:List Int} {k:Nat} (h:k < zs.length):(zs.drop k).any p=(p zs[k] || (zs.drop (k + 1)).any p):=by rw [Un h]; rfl
theorem Me (p:Int→Bool) {zs:List Int} {k:Nat} (h:k < zs.length):(zs.drop k).all p=(p zs[k] && (zs.drop (k + 1)).all p):=by rw [Un h]; rfl
def Pe (v0 vT vE vK vR:Value) (f:Fc) (w:World) (i:Int) (b:Bool):Prop:=∀ w1:World,ag w w1→Calls prog 98 #[v0,vT,vE,.int .i64 i,vK,vR,.agg #[.string f.a,.string f.b,.string f.r,.string f.c,.string f.d]] w1 fun e w'=>e=.returned (.bool b)∧ag w1 w'
theorem BJ (H:Int→Bool) (v0 vT:Value) (UC:Option Addr) (capE:Nat) (rows:List ER) (n:Nat) (vK vR:Value) (f:Fc) (w:af) (hex:iH w UC rows) (hn:n < rows.length) (hre:rows.length≤1000) (hkl:rows[n].e.kids.length≤1000) (hk:rows[n].e.kind=4) (Zv:∀ i ∈ rows[n].e.kids,Pe v0 vT (.slice UC rows.length capE) vK vR f w i (H i)) :
  Calls prog 98 #[v0,vT,.slice UC rows.length capE,.int .i64 (n:Int),vK,vR,.agg #[.string f.a,.string f.b,.string f.r,.string f.c,.string f.d]] w fun e w'=>e=.returned (.bool (rows[n].e.kids.any H))∧ag w w':=by
 obtain ⟨b,off,UF,⟨t0,t1,t2,t3,t4⟩,hbl,hok⟩:=iH.at0 hex hn;have HK:=aC hok.2;have HIH:=aC Zv;obtain ⟨W0,hW0⟩:∃ W0,W0=Gd w f rows[n]:=⟨_,rfl⟩;have HB0:Hid (ag w W0):=by show Below _ _ _; rw [hW0]; exact jU _ _ _
 have WB:Hid (EnB W0 w.heap.size f rows[n]):=by show EnB _ _ _ _; rw [hW0]; exact oo _ _ _
 have hk1:(rows[n].e.kind == 1)=false:=by rw [hk]; rfl
 have hk2:(rows[n].e.kind == 2)=false:=by rw [hk]; rfl
 have hk3:(rows[n].e.kind == 3)=false:=by rw [hk]; rfl
 have hk4:(rows[n].e.kind == 4)=true:=by rw [hk]; rfl
 have hn1:=bB n;have hn2:(n:Int) < (rows.length:Int):=by omega
 unfold Gd at hW0;rw [UF] at HIH ⊢;clear UF hex hk Zv hok;go_enter func98,ntmps98;go_wp2_with fail;rw [← hW0];clear hW0 t0 t1 t2 t3 t4;go_loopw [20] (fun i wr=>∃ k:Nat,k≤rows[n].e.kids.length∧i=.int .i64 k∧Hid ((rows[n].e.kids.drop k).any H=rows[n].e.kids.any H)∧Hid (ag W0 wr)) (fun i _=>rows[n].e.kids.length - (intOf i).toNat);case atStart=>exact ⟨0,TW _,rfl,rfl,TT _ _⟩
 obtain ⟨k,hk,rfl,HP,HB⟩:=hrel;have UG:Hid (ag w wr):=HB0.out.trans (HB.out.mono HB0.out.size);have hE:=WB.out.below HB.out;have e0:=hE.f0;have e1:=hE.f1;have e2:=hE.f2;have e3:=hE.f3;have e4:=hE.f4;have y4:=hE.x4;have el2:w.heap.size + 1 < wr.heap.size:=hE.lt;clear hE;by_cases hlt:k < rows[n].e.kids.length
 ·obtain ⟨bK,XK,U7,z0,ZX⟩:=pX.at0 (HK.out.below UG.out) hlt;rw [U7] at y4;have hi1:=bB k;have hi2:(k:Int) < (rows[n].e.kids.length:Int):=by omega
  have HD:Hid (rows[n].e.kids.any H=(H rows[n].e.kids[k] || (rows[n].e.kids.drop (k + 1)).any H)):=by show _=_; rw [← HP.out]; exact Md H hlt
  have HC:=aC (HIH.out _ (TQ hlt));obtain ⟨q,hq⟩:∃ q,H rows[n].e.kids[k]=q:=⟨_,rfl⟩;rw [hq] at HC HD;have ZV:Hid (∀ d os,Calls prog 98 #[v0,vT,.slice (some ⟨b,off,none⟩) rows.length capE,.int .i64 rows[n].e.kids[k],vK,vR,.agg #[.string f.a,.string f.b,.string f.r,.string f.c,.string f.d]] (grow (redrawn wr d) os) fun e w''=>e=.returned (.bool q)∧∃ p:Regrown,w''=grow (redrawn wr p.d) p.os):=by
   refine dm fun W' hb=>?_;exact HC.out W' (UG.out.trans (hb.mono UG.out.size))
  clear U7 hq HC;go_wp2_with fail;replace e0:=cell_regrown e0;replace e1:=cell_regrown e1;replace e2:=cell_regrown e2;replace e3:=cell_regrown e3;replace e4:=cell_regrown e4;replace y4:=cell_regrown y4;replace z0:=cell_regrown z0;refine wp_region_quiet_below (by kernel_rfl) (by kernel_rfl) ?_
  repeat (go_big_quiet_step (exact ZV.out _ _))
  refine wpQuiet_nil ?_;rintro _ ⟨⟨dq,osq⟩,rfl⟩;have HB2:=aC (HB.out.trans ((below_regrown wr dq osq).mono HB.out.size));clear ZV e0 e1 e2 e3 e4 y4 z0;cases q;case true=>
   have HN:Hid (rows[n].e.kids.any H=true):=by show _=_; rw [HD.out]; rfl
   go_wp2;go_ret;exact ⟨by rw [HN.out]; rfl,HB0.out.trans (HB2.out.mono HB0.out.size)⟩
  have UI:Hid ((rows[n].e.kids.drop (k + 1)).any H=rows[n].e.kids.any H):=by show _=_; rw [HD.out]; rfl
  go_wp2;go_roundw;case rel=>exact ⟨k + 1,by omega,by go_num,UI,HB2⟩
  simp [intOf] <;> omega
 have HN:Hid (rows[n].e.kids.any H=false):=by show _=_; rw [← HP.out,List.drop_of_length_le (by omega)]; rfl
 go_wp2;go_ret;exact ⟨by rw [HN.out]; rfl,UG.out⟩
theorem EK (H:Int→Bool) (v0 vT:Value) (UC:Option Addr) (capE:Nat) (rows:List ER) (n:Nat) (vK vR:Value) (f:Fc) (w:af) (hex:iH w UC rows) (hn:n < rows.length) (hre:rows.length≤1000) (hkl:rows[n].e.kids.length≤1000) (hk:rows[n].e.kind=5) (Zv:∀ i ∈ rows[n].e.kids,Pe v0 vT (.slice UC rows.length capE) vK vR f w i (H i)) :
  Calls prog 98 #[v0,vT,.slice UC rows.length capE,.int .i64 (n:Int),vK,vR,.agg #[.string f.a,.string f.b,.string f.r,.string f.c,.string f.d]] w fun e w'=>e=.returned (.bool (rows[n].e.kids.all H))∧ag w w':=by
 obtain ⟨b,off,UF,⟨t0,t1,t2,t3,t4⟩,hbl,hok⟩:=iH.at0 hex hn;have HK:=aC hok.2;have HIH:=aC Zv;obtain ⟨W0,hW0⟩:∃ W0,W0=Gd w f rows[n]:=⟨_,rfl⟩;have HB0:Hid (ag w W0):=by show Below _ _ _; rw [hW0]; exact jU _ _ _
 have WB:Hid (EnB W0 w.heap.size f rows[n]):=by show EnB _ _ _ _; rw [hW0]; exact oo _ _ _
 have hk1:(rows[n].e.kind == 1)=false:=by rw [hk]; rfl
 have hk2:(rows[n].e.kind == 2)=false:=by rw [hk]; rfl
 have hk3:(rows[n].e.kind == 3)=false:=by rw [hk]; rfl
 have hk4:(rows[n].e.kind == 4)=false:=by rw [hk]; rfl
 have hk5:(rows[n].e.kind == 5)=true:=by rw [hk]; rfl
 have hn1:=bB n;have hn2:(n:Int) < (rows.length:Int):=by omega
 unfold Gd at hW0;rw [UF] at HIH ⊢;clear UF hex hk Zv hok;go_enter func98,ntmps98;go_wp2_with fail;rw [← hW0];clear hW0 t0 t1 t2 t3 t4;go_loopw [21] (fun i wr=>∃ k:Nat,k≤rows[n].e.kids.length∧i=.int .i64 k∧Hid ((rows[n].e.kids.drop k).all H=rows[n].e.kids.all H)∧Hid (ag W0 wr)) (fun i _=>rows[n].e.kids.length - (intOf i).toNat);case atStart=>exact ⟨0,TW _,rfl,rfl,TT _ _⟩
 obtain ⟨k,hk,rfl,HP,HB⟩:=hrel;have UG:Hid (ag w wr):=HB0.out.trans (HB.out.mono HB0.out.size);have hE:=WB.out.below HB.out;have e0:=hE.f0;have e1:=hE.f1;have e2:=hE.f2;have e3:=hE.f3;have e4:=hE.f4;have y4:=hE.x4;have el2:w.heap.size + 1 < wr.heap.size:=hE.lt;clear hE;by_cases hlt:k < rows[n].e.kids.length
 ·obtain ⟨bK,XK,U7,z0,ZX⟩:=pX.at0 (HK.out.below UG.out) hlt;rw [U7] at y4;have hi1:=bB k;have hi2:(k:Int) < (rows[n].e.kids.length:Int):=by omega
  have HD:Hid (rows[n].e.kids.all H=(H rows[n].e.kids[k] && (rows[n].e.kids.drop (k + 1)).all H)):=by show _=_; rw [← HP.out]; exact Me H hlt
  have HC:=aC (HIH.out _ (TQ hlt));obtain ⟨q,hq⟩:∃ q,H rows[n].e.kids[k]=q:=⟨_,rfl⟩;rw [hq] at HC HD;have ZV:Hid (∀ d os,Calls prog 98 #[v0,vT,.slice (some ⟨b,off,none⟩) rows.length capE,.int .i64 rows[n].e.kids[k],vK,vR,.agg #[.string f.a,.string f.b,.string f.r,.string f.c,.string f.d]] (grow (redrawn wr d) os) fun e w''=>e=.returned (.bool q)∧∃ p:Regrown,w''=grow (redrawn wr p.d) p.os):=by
   refine dm fun W' hb=>?_;exact HC.out W' (UG.out.trans (hb.mono UG.out.size))
  clear U7 hq HC;go_wp2_with fail;replace e0:=cell_regrown e0;replace e1:=cell_regrown e1;replace e2:=cell_regrown e2;replace e3:=cell_regrown e3;replace e4:=cell_regrown e4;replace y4:=cell_regrown y4;replace z0:=cell_regrown z0;refine wp_region_quiet_below (by kernel_rfl) (by kernel_rfl) ?_
  repeat (go_big_quiet_step (exact ZV.out _ _))
  refine wpQuiet_nil ?_;rintro _ ⟨⟨dq,osq⟩,rfl⟩;have HB2:=aC (HB.out.trans ((below_regrown wr dq osq).mono HB.out.size));clear ZV e0 e1 e2 e3 e4 y4 z0;cases q;case false=>
   have HN:Hid (rows[n].e.kids.all H=false):=by show _=_; rw [HD.out]; rfl
   go_wp2;go_ret;exact ⟨by rw [HN.out]; rfl,HB0.out.trans (HB2.out.mono HB0.out.size)⟩
  have UI:Hid ((rows[n].e.kids.drop (k + 1)).all H=rows[n].e.kids.all H):=by show _=_; rw [HD.out]; rfl
  go_wp2;go_roundw;case rel=>exact ⟨k + 1,by omega,by go_num,UI,HB2⟩
  simp [intOf] <;> omega
 have HN:Hid (rows[n].e.kids.all H=true):=by show _=_; rw [← HP.out,List.drop_of_length_le (by omega)]; rfl
 go_wp2;go_ret;exact ⟨by rw [HN.out]; rfl,UG.out⟩
theorem Gy (b0 b1:Bool) (v0 vT:Value) (UC:Option Addr) (capE:Nat) (rows:List ER) (n:Nat) (vK vR:Value) (f:Fc) (w:af) (hex:iH w UC rows) (hn:n < rows.length) (hre:rows.length≤1000) (hkl:rows[n].e.kids.length≤1000) (hk2:2≤rows[n].e.kids.length) (hk:rows[n].e.kind=6) (hA:Pe v0 vT (.slice UC rows.length capE) vK vR f w (rows[n].e.kids.getD 0 0) b0) (hB:Pe v0 vT (.slice UC rows.length capE) vR vR f w (rows[n].e.kids.getD 1 0) b1) :
  Calls prog 98 #[v0,vT,.slice UC rows.length capE,.int .i64 (n:Int),vK,vR,.agg #[.string f.a,.string f.b,.string f.r,.string f.c,.string f.d]] w fun e w'=>e=.returned (.bool (b0 && !b1))∧ag w w':=by
 obtain ⟨b,off,UF,⟨t0,t1,t2,t3,t4⟩,hbl,hok⟩:=iH.at0 hex hn;have h0k:0 < rows[n].e.kids.length:=by omega
 have h1k:1 < rows[n].e.kids.length:=by omega
 obtain ⟨bK,XK,U7,z0,ZX⟩:=pX.at0 hok.2 h0k;have z1:w.cell? ⟨bK,XK + 1,none⟩=some (.int .i64 rows[n].e.kids[1]):=by
  obtain ⟨b',off',XL,z1,-⟩:=pX.at0 hok.2 h1k;rw [U7] at XL; injection XL with e; injection e with e1 e2;rw [e1,e2]; exact z1
 obtain ⟨i0,hi0⟩:∃ i,i=rows[n].e.kids[0]:=⟨_,rfl⟩;obtain ⟨i1,hi1⟩:∃ i,i=rows[n].e.kids[1]:=⟨_,rfl⟩;have g0:rows[n].e.kids.getD 0 0=i0:=by rw [hi0,List.getD_eq_getElem?_getD,TY h0k]; rfl
 have g1:rows[n].e.kids.getD 1 0=i1:=by rw [hi1,List.getD_eq_getElem?_getD,TY h1k]; rfl
 rw [g0] at hA;rw [g1] at hB;rw [← hi0,Nat.add_zero] at z0;rw [← hi1] at z1;clear hi0 hi1 g0 g1;obtain ⟨kl,hkl'⟩:∃ kl,kl=rows[n].e.kids.length:=⟨_,rfl⟩;obtain ⟨cK,hcK⟩:∃ c,c=rows[n].capK:=⟨_,rfl⟩;have hl0:(0:Int) < (kl:Int):=by omega
 have hl1:(1:Int) < (kl:Int):=by omega
 have h0k':0 < kl:=by omega
 have h1k':1 < kl:=by omega
 have HA:=aC hA;have We:=aC hB;obtain ⟨W0,hW0⟩:∃ W0,W0=Gd w f rows[n]:=⟨_,rfl⟩;have HB0:Hid (ag w W0):=by show Below _ _ _; rw [hW0]; exact jU _ _ _
 have WB:Hid (EnB W0 w.heap.size f rows[n]):=by show EnB _ _ _ _; rw [hW0]; exact oo _ _ _
 have HZ:Hid (W0.cell? ⟨bK,XK,none⟩=some (.int .i64 i0)∧W0.cell? ⟨bK,XK + 1,none⟩=some (.int .i64 i1)∧bK < W0.heap.size):=⟨(HB0.out.cell (p:=⟨bK,XK,none⟩) ZX).trans z0,(HB0.out.cell (p:=⟨bK,XK + 1,none⟩) ZX).trans z1,TP ZX HB0.out.size⟩;have HX4:Hid (W0.cell? ⟨w.heap.size + 1,4,none⟩=some (.slice (some ⟨bK,XK,none⟩) kl cK)):=by show _=_; rw [WB.out.x4,U7,← hkl',← hcK]
 have hk1:(rows[n].e.kind == 1)=false:=by rw [hk]; rfl
 have hk2:(rows[n].e.kind == 2)=false:=by rw [hk]; rfl
 have hk3:(rows[n].e.kind == 3)=false:=by rw [hk]; rfl
 have hk4:(rows[n].e.kind == 4)=false:=by rw [hk]; rfl
 have hk5:(rows[n].e.kind == 5)=false:=by rw [hk]; rfl
 have hk6:(rows[n].e.kind == 6)=true:=by rw [hk]; rfl
 have hn1:=bB n;have hn2:(n:Int) < (rows.length:Int):=by omega
 unfold Gd at hW0;rw [UF] at HA We ⊢;clear UF hex hk hA hB hok z0 z1 U7 h0k h1k;go_enter func98,ntmps98;go_wp2_with fail;rw [← hW0];clear hW0 t0 t1 t2 t3 t4 hk1 hk2 hk3 hk4 hk5 hk6 hkl' hcK;have HAA:Hid (∀ d os,Calls prog 98 #[v0,vT,.slice (some ⟨b,off,none⟩) rows.length capE,.int .i64 i0,vK,vR,.agg #[.string f.a,.string f.b,.string f.r,.string f.c,.string f.d]] (grow (redrawn W0 d) os) fun e w''=>e=.returned (.bool b0)∧∃ p:Regrown,w''=grow (redrawn W0 p.d) p.os):=by
  refine dm fun W' hb=>?_;exact HA.out _ (HB0.out.trans (hb.mono HB0.out.size))
 have HBQ:Hid (∀ d os,Calls prog 98 #[v0,vT,.slice (some ⟨b,off,none⟩) rows.length capE,.int .i64 i1,vR,vR,.agg #[.string f.a,.string f.b,.string f.r,.string f.c,.string f.d]] (grow (redrawn W0 d) os) fun e w''=>e=.returned (.bool b1)∧∃ p:Regrown,w''=grow (redrawn W0 p.d) p.os):=by
  refine dm fun W' hb=>?_;exact We.out _ (HB0.out.trans (hb.mono HB0.out.size))
 have c0:=cell_regrown WB.out.f0;have c1:=cell_regrown WB.out.f1;have c2:=cell_regrown WB.out.f2;have c3:=cell_regrown WB.out.f3;have c4:=cell_regrown WB.out.f4;have x4:=cell_regrown HX4.out;have z0:=cell_regrown HZ.out.1;have z1:=cell_regrown HZ.out.2.1;clear HA We WB;cases b0;case true=>
  refine wp_region_quiet_below (by kernel_rfl) (by kernel_rfl) ?_
  iterate 11 (go_big_quiet_step (exact HAA.out _ _))
  repeat (go_big_quiet_step (exact HBQ.out _ _))
  refine wpQuiet_nil ?_;rintro _ ⟨⟨dq,osq⟩,rfl⟩;go_wp2;go_ret;exact ⟨rfl,HB0.out.trans ((below_regrown W0 dq osq).mono HB0.out.size)⟩
 refine wp_region_quiet_below (by kernel_rfl) (by kernel_rfl) ?_
 repeat (go_big_quiet_step (exact HAA.out _ _))
 refine wpQuiet_nil ?_;rintro _ ⟨⟨dq,osq⟩,rfl⟩;go_wp2;go_ret;exact ⟨rfl,HB0.out.trans ((below_regrown W0 dq osq).mono HB0.out.size)⟩
end Go.Proofs.YtajkkeikihhejaaGreat
