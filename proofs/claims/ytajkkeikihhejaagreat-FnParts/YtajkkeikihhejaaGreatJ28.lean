/- The document's question of a node that is told by tuples, or that names a relation. -/
import Derived.Test.YtajkkeikihhejaaGreatSq
import Derived.Test.YtajkkeikihhejaaGreatJ26
open Go.Proofs.Tryz
set_option maxHeartbeats 80000000
namespace Go.Proofs.YtajkkeikihhejaaGreat
set_option linter.unusedVariables false
set_option maxRecDepth 100000
open Go.ChangeShapes Go.WideShapes Go.ChangeAt Go.RowKit Go.Maps
open Pl
theorem GL (v0:Value)(Wx:Option Addr)(V5:Nat)(ts:List Tp)(UO:Option Addr)(capE:Nat)(rows:List ER)(n:Nat)(adK:Option Addr)(capK:Nat)(known:List Fc)(Wy:Option Addr)(V6:Nat)(truth:List Fc)(f:Fc)(w:af)(hW:HW w Wx ts UO rows adK known Wy truth)(hn:n<rows.length)(hre:rows.length<=1000)(hkl:known.length<=1048576)(hk:rows[n].e.kind=2) :
  Calls prog 98 #[v0,.slice Wx ts.length V5,.slice UO rows.length capE,.int .i64 (n:Int),.slice adK known.length capK,.slice Wy truth.length V6,.agg #[.string f.a,.string f.b,.string f.r,.string f.c,.string f.d]] w fun e w'=>e=.returned (.bool (bn known ⟨f.a,f.b,rows[n].e.name,f.c,f.d⟩))/\ag w w':=by
 obtain ⟨b,off,UT,⟨t0,t1,t2,t3,t4⟩,hbl,-⟩:=iC.at0 hW.ex hn;have HW0:=aD hW;obtain ⟨W0,hW0⟩:∃ W0,W0=Gn w f rows[n]:=⟨_,rfl⟩;have HB0:Hid (ag w W0):=by show Below _ _ _;rw [hW0];exact jV _ _ _
 have hk1:(rows[n].e.kind==1)=false:=by rw [hk];rfl
 have hk2:(rows[n].e.kind==2)=true:=by rw [hk];rfl
 have hn1:=bF n;have hn2:(n:Int)<(rows.length:Int):=by omega
 unfold Gn at hW0;rw [UT];clear UT hW hk;go_enter func98,ntmps98;go_wp2_with fail;rw [<-hW0];refine (ol adK capK known ⟨f.a,f.b,rows[n].e.name,f.c,f.d⟩ W0 hkl (HW0.out.kn.below HB0.out)).mono ?_;rintro e w1 ⟨rfl,hb1⟩;have HB1:=aD (HB0.out.trans (hb1.mono HB0.out.size));clear hb1 hW0;go_wp2;go_ret;exact ⟨rfl,HB1.out⟩
theorem JI (v0:Value)(Wx:Option Addr)(V5:Nat)(ts:List Tp)(UO:Option Addr)(capE:Nat)(rows:List ER)(n:Nat)(vK vR:Value)(f:Fc)(w:af)(hex:iC w UO rows)(hn:n<rows.length)(hre:rows.length<=1000)(k1:rows[n].e.kind≠1)(k2:rows[n].e.kind≠2)(k3:rows[n].e.kind≠3)(k4:rows[n].e.kind≠4)(k5:rows[n].e.kind≠5)(k6:rows[n].e.kind≠6) :
  Calls prog 98 #[v0,.slice Wx ts.length V5,.slice UO rows.length capE,.int .i64 (n:Int),vK,vR,.agg #[.string f.a,.string f.b,.string f.r,.string f.c,.string f.d]] w fun e w'=>e=.returned (.bool false)/\ag w w':=by
 obtain ⟨b,off,UT,⟨t0,t1,t2,t3,t4⟩,hbl,-⟩:=iC.at0 hex hn;have HB0:=aD (jV w f rows[n]);unfold Gn at HB0;have hk1:(rows[n].e.kind==1)=false:=by simpa using k1
 have hk2:(rows[n].e.kind==2)=false:=by simpa using k2
 have hk3:(rows[n].e.kind==3)=false:=by simpa using k3
 have hk4:(rows[n].e.kind==4)=false:=by simpa using k4
 have hk5:(rows[n].e.kind==5)=false:=by simpa using k5
 have hk6:(rows[n].e.kind==6)=false:=by simpa using k6
 have hn1:=bF n;have hn2:(n:Int)<(rows.length:Int):=by omega
 rw [UT];clear UT hex k1 k2 k3 k4 k5 k6;go_enter func98,ntmps98;go_wp2;go_ret;exact ⟨rfl,HB0.out⟩
theorem ET (v0:Value)(Wx:Option Addr)(V5:Nat)(ts:List Tp)(UO:Option Addr)(capE:Nat)(rows:List ER)(n:Nat)(adK:Option Addr)(capK:Nat)(known:List Fc)(Wy:Option Addr)(V6:Nat)(truth:List Fc)(f:Fc)(w:af)(hW:HW w Wx ts UO rows adK known Wy truth)(hn:n<rows.length)(hre:rows.length<=1000)(hkl:known.length<=1048576)(htl:ts.length<=1048576)(hk:rows[n].e.kind=1) :
  Calls prog 98 #[v0,.slice Wx ts.length V5,.slice UO rows.length capE,.int .i64 (n:Int),.slice adK known.length capK,.slice Wy truth.length V6,.agg #[.string f.a,.string f.b,.string f.r,.string f.c,.string f.d]] w fun e w'=>e=.returned (.bool (eB ts known f))/\ag w w':=by
 obtain ⟨b,off,UT,⟨t0,t1,t2,t3,t4⟩,hbl,-⟩:=iC.at0 hW.ex hn;have HW0:=aD hW;obtain ⟨W0,hW0⟩:∃ W0,W0=Gn w f rows[n]:=⟨_,rfl⟩;have HB0:Hid (ag w W0):=by show Below _ _ _;rw [hW0];exact jV _ _ _
 have WT:Hid (EnB W0 w.heap.size f rows[n]):=by show EnB _ _ _ _;rw [hW0];exact om _ _ _
 have hk1:(rows[n].e.kind==1)=true:=by rw [hk];rfl
 have hn1:=bF n;have hn2:(n:Int)<(rows.length:Int):=by omega
 unfold Gn at hW0;rw [UT];clear UT hW hk;go_enter func98,ntmps98;go_wp2_with fail;rw [<-hW0];clear hW0 t0 t1 t2 t3 t4;go_loopw [16] (fun i wr=>∃ k:Nat,k<=ts.length/\i=.int .i64 k/\Hid (eB (ts.drop k) known f=eB ts known f)/\Hid (ag W0 wr)) (fun i _=>ts.length-(intOf i).toNat);case atStart=>exact ⟨0,Ui _,rfl,rfl,Uf _ _⟩
 obtain ⟨k,hk,rfl,HP,HB⟩:=hrel;have UU:Hid (ag w wr):=HB0.out.trans (HB.out.mono HB0.out.size);by_cases hlt:k<ts.length
 ·obtain ⟨bT,offT,Vk,⟨a0,a1,a2,a3,a4,a5⟩,hbT⟩:=Sl.at0 (HW0.out.tup.below UU.out) hlt;have hE:=WT.out.below HB.out;have e0:=hE.f0;have e1:=hE.f1;have e2:=hE.f2;have e3:=hE.f3;have e4:=hE.f4;have el:w.heap.size<wr.heap.size:=by have:=hE.lt;omega
  have hi1:=bF k;have hi2:(k:Int)<(ts.length:Int):=by omega
  obtain ⟨W1,hW1⟩:∃ W1,W1=wr.alloc (.cells #[.string ts[k].a,.string ts[k].b,.string ts[k].r,.string ts[k].c,.string ts[k].d,.string ts[k].s] 46):=⟨_,rfl⟩;have V4:=rV hW1;have HB1:Hid (ag W0 W1):=HB.out.trans (V4.out.mono HB.out.size);have VG:Hid (ag w W1):=UU.out.trans (V4.out.mono UU.out.size);have HD:Hid (eB ts known f=(mh known f ts[k] || eB (ts.drop (k+1)) known f)):=by show _=_;rw [<-HP.out];exact Jd hlt known f
  rw [Vk];clear Vk hE;cases ho:uk ts[k].a ts[k].b f.a f.b;case false=>
   have hneq:=Aq _ _ _ _ ho;have UW:Hid (eB (ts.drop (k+1)) known f=eB ts known f):=by
    show _=_;unfold uk at ho;rw [HD.out];unfold mh;rw [ho];rfl
   clear ho;go_wp2;rw [<-hW1];clear hW1;go_roundw;case rel=>exact ⟨k+1,by omega,by go_num,UW,HB1⟩
   simp [intOf] <;> omega
  have hneq:=Aq _ _ _ _ ho;have HO:Hid (uk ts[k].a ts[k].b f.a f.b=true):=ho;clear ho;cases hr:(ts[k].r.toList==f.r.toList);case false=>
   have UW:Hid (eB (ts.drop (k+1)) known f=eB ts known f):=by
    show _=_;have h2:=HO.out;unfold uk at h2;rw [HD.out];unfold mh;rw [h2,hr];rfl
   go_wp2;rw [<-hW1];clear hW1;go_roundw;case rel=>exact ⟨k+1,by omega,by go_num,UW,HB1⟩
   simp [intOf] <;> omega
  have HT:Hid (mh known f ts[k]=(if ts[k].s.toList.isEmpty then ts[k].c.toList==f.c.toList&&ts[k].d.toList==f.d.toList else bn known ⟨ts[k].c,ts[k].d,ts[k].s,f.c,f.d⟩)):=by
   show _=_;have h2:=HO.out;unfold uk at h2;unfold mh;rw [h2,hr];rfl
  cases hs:ts[k].s.toList.isEmpty;case true=>
   have hs2:(ts[k].s.toList==[])=true:=by rw [pF];exact hs
   cases hu:uk ts[k].c ts[k].d f.c f.d;case true=>
    have heq:=iq _ _ _ _ hu;have HN:Hid (eB ts known f=true):=by
     show _=_;unfold uk at hu;rw [HD.out,HT.out,if_pos hs,hu];rfl
    clear hu hs;go_wp2;rw [<-hW1];go_ret;exact ⟨by rw [HN.out];rfl,VG.out⟩
   have heq:=iq _ _ _ _ hu;have UW:Hid (eB (ts.drop (k+1)) known f=eB ts known f):=by
    show _=_;unfold uk at hu;rw [HD.out,HT.out,if_pos hs,hu];rfl
   clear hu hs;go_wp2;rw [<-hW1];clear hW1;go_roundw;case rel=>exact ⟨k+1,by omega,by go_num,UW,HB1⟩
   simp [intOf] <;> omega
  have hs2:(ts[k].s.toList==[])=false:=by rw [pF];exact hs
  have HT2:Hid (mh known f ts[k]=bn known ⟨ts[k].c,ts[k].d,ts[k].s,f.c,f.d⟩):=by show _=_;rw [HT.out,if_neg (by rw [hs];decide)]
  clear hs;go_wp2_with fail;rw [<-hW1];clear hW1;refine (ol adK capK known ⟨ts[k].c,ts[k].d,ts[k].s,f.c,f.d⟩ W1 hkl (HW0.out.kn.below VG.out)).mono ?_;rintro e w2 ⟨rfl,hb2⟩;have HB2:=jP HB1 hb2;have Y4:=jP VG hb2;clear hb2;cases hh:bn known ⟨ts[k].c,ts[k].d,ts[k].s,f.c,f.d⟩;case true=>
   have HN:Hid (eB ts known f=true):=by show _=_;rw [HD.out,HT2.out,hh];rfl
   go_wp2;go_ret;exact ⟨by rw [HN.out];rfl,Y4.out⟩
  have UW:Hid (eB (ts.drop (k+1)) known f=eB ts known f):=by show _=_;rw [HD.out,HT2.out,hh];rfl
  go_wp2;go_roundw;case rel=>exact ⟨k+1,by omega,by go_num,UW,HB2⟩
  simp [intOf] <;> omega
 have HN:Hid (eB ts known f=false):=by show _=_;rw [<-HP.out,List.drop_of_length_le (by omega)];rfl
 go_wp2;go_ret;exact ⟨by rw [HN.out];rfl,UU.out⟩
open Go.Sort
theorem MB (p:Int->Bool){zs:List Int}{k:Nat}(h:k<zs.length):(zs.drop k).any p=(p zs[k] || (zs.drop (k+1)).any p):=by rw [UB h];rfl
theorem MC (p:Int->Bool){zs:List Int}{k:Nat}(h:k<zs.length):(zs.drop k).all p=(p zs[k]&&(zs.drop (k+1)).all p):=by rw [UB h];rfl
def PN (v0 vT vE vK vR:Value)(f:Fc)(w:World)(i:Int)(b:Bool):Prop:=∀ w1:World,ag w w1->Calls prog 98 #[v0,vT,vE,.int .i64 i,vK,vR,.agg #[.string f.a,.string f.b,.string f.r,.string f.c,.string f.d]] w1 fun e w'=>e=.returned (.bool b)/\ag w1 w'
theorem BO (H:Int->Bool)(v0 vT:Value)(UO:Option Addr)(capE:Nat)(rows:List ER)(n:Nat)(vK vR:Value)(f:Fc)(w:af)(hex:iC w UO rows)(hn:n<rows.length)(hre:rows.length<=1000)(hkl:rows[n].e.kids.length<=1000)(hk:rows[n].e.kind=4)(ZM:∀ i∈rows[n].e.kids,PN v0 vT (.slice UO rows.length capE) vK vR f w i (H i)) :
  Calls prog 98 #[v0,vT,.slice UO rows.length capE,.int .i64 (n:Int),vK,vR,.agg #[.string f.a,.string f.b,.string f.r,.string f.c,.string f.d]] w fun e w'=>e=.returned (.bool (rows[n].e.kids.any H))/\ag w w':=by
 obtain ⟨b,off,UT,⟨t0,t1,t2,t3,t4⟩,hbl,hok⟩:=iC.at0 hex hn;have HK:=aD hok.2;have HIH:=aD ZM;obtain ⟨W0,hW0⟩:∃ W0,W0=Gn w f rows[n]:=⟨_,rfl⟩;have HB0:Hid (ag w W0):=by show Below _ _ _;rw [hW0];exact jV _ _ _
 have WT:Hid (EnB W0 w.heap.size f rows[n]):=by show EnB _ _ _ _;rw [hW0];exact om _ _ _
 have hk1:(rows[n].e.kind==1)=false:=by rw [hk];rfl
 have hk2:(rows[n].e.kind==2)=false:=by rw [hk];rfl
 have hk3:(rows[n].e.kind==3)=false:=by rw [hk];rfl
 have hk4:(rows[n].e.kind==4)=true:=by rw [hk];rfl
 have hn1:=bF n;have hn2:(n:Int)<(rows.length:Int):=by omega
 unfold Gn at hW0;rw [UT]at HIH ⊢;clear UT hex hk ZM hok;go_enter func98,ntmps98;go_wp2_with fail;rw [<-hW0];clear hW0 t0 t1 t2 t3 t4;go_loopw [20] (fun i wr=>∃ k:Nat,k<=rows[n].e.kids.length/\i=.int .i64 k/\Hid ((rows[n].e.kids.drop k).any H=rows[n].e.kids.any H)/\Hid (ag W0 wr)) (fun i _=>rows[n].e.kids.length-(intOf i).toNat);case atStart=>exact ⟨0,Ui _,rfl,rfl,Uf _ _⟩
 obtain ⟨k,hk,rfl,HP,HB⟩:=hrel;have UU:Hid (ag w wr):=HB0.out.trans (HB.out.mono HB0.out.size);have hE:=WT.out.below HB.out;have e0:=hE.f0;have e1:=hE.f1;have e2:=hE.f2;have e3:=hE.f3;have e4:=hE.f4;have y4:=hE.x4;have el2:w.heap.size+1<wr.heap.size:=hE.lt;clear hE;by_cases hlt:k<rows[n].e.kids.length
 ·obtain ⟨bK,Xv,Vi,z0,ZN⟩:=p8.at0 (HK.out.below UU.out) hlt;rw [Vi]at y4;have hi1:=bF k;have hi2:(k:Int)<(rows[n].e.kids.length:Int):=by omega
  have HD:Hid (rows[n].e.kids.any H=(H rows[n].e.kids[k] || (rows[n].e.kids.drop (k+1)).any H)):=by show _=_;rw [<-HP.out];exact MB H hlt
  have HC:=aD (HIH.out _ (Ud hlt));obtain ⟨q,hq⟩:∃ q,H rows[n].e.kids[k]=q:=⟨_,rfl⟩;rw [hq]at HC HD;have Z9:Hid (∀ d os,Calls prog 98 #[v0,vT,.slice (some ⟨b,off,none⟩) rows.length capE,.int .i64 rows[n].e.kids[k],vK,vR,.agg #[.string f.a,.string f.b,.string f.r,.string f.c,.string f.d]] (grow (redrawn wr d) os) fun e w''=>e=.returned (.bool q)/\∃ p:Regrown,w''=grow (redrawn wr p.d) p.os):=by
   refine bP fun W' hb=>?_;exact HC.out W' (UU.out.trans (hb.mono UU.out.size))
  clear Vi hq HC;go_wp2_with fail;replace e0:=cell_regrown e0;replace e1:=cell_regrown e1;replace e2:=cell_regrown e2;replace e3:=cell_regrown e3;replace e4:=cell_regrown e4;replace y4:=cell_regrown y4;replace z0:=cell_regrown z0;refine wp_region_quiet_below (by kernel_rfl) (by kernel_rfl) ?_
  repeat (go_big_quiet_step (exact Z9.out _ _))
  refine wpQuiet_nil ?_;rintro _ ⟨⟨dq,osq⟩,rfl⟩;have HB2:=aD (HB.out.trans ((below_regrown wr dq osq).mono HB.out.size));clear Z9 e0 e1 e2 e3 e4 y4 z0;cases q;case true=>
   have HN:Hid (rows[n].e.kids.any H=true):=by show _=_;rw [HD.out];rfl
   go_wp2;go_ret;exact ⟨by rw [HN.out];rfl,HB0.out.trans (HB2.out.mono HB0.out.size)⟩
  have UW:Hid ((rows[n].e.kids.drop (k+1)).any H=rows[n].e.kids.any H):=by show _=_;rw [HD.out];rfl
  go_wp2;go_roundw;case rel=>exact ⟨k+1,by omega,by go_num,UW,HB2⟩
  simp [intOf] <;> omega
 have HN:Hid (rows[n].e.kids.any H=false):=by show _=_;rw [<-HP.out,List.drop_of_length_le (by omega)];rfl
 go_wp2;go_ret;exact ⟨by rw [HN.out];rfl,UU.out⟩
theorem EU (H:Int->Bool)(v0 vT:Value)(UO:Option Addr)(capE:Nat)(rows:List ER)(n:Nat)(vK vR:Value)(f:Fc)(w:af)(hex:iC w UO rows)(hn:n<rows.length)(hre:rows.length<=1000)(hkl:rows[n].e.kids.length<=1000)(hk:rows[n].e.kind=5)(ZM:∀ i∈rows[n].e.kids,PN v0 vT (.slice UO rows.length capE) vK vR f w i (H i)) :
  Calls prog 98 #[v0,vT,.slice UO rows.length capE,.int .i64 (n:Int),vK,vR,.agg #[.string f.a,.string f.b,.string f.r,.string f.c,.string f.d]] w fun e w'=>e=.returned (.bool (rows[n].e.kids.all H))/\ag w w':=by
 obtain ⟨b,off,UT,⟨t0,t1,t2,t3,t4⟩,hbl,hok⟩:=iC.at0 hex hn;have HK:=aD hok.2;have HIH:=aD ZM;obtain ⟨W0,hW0⟩:∃ W0,W0=Gn w f rows[n]:=⟨_,rfl⟩;have HB0:Hid (ag w W0):=by show Below _ _ _;rw [hW0];exact jV _ _ _
 have WT:Hid (EnB W0 w.heap.size f rows[n]):=by show EnB _ _ _ _;rw [hW0];exact om _ _ _
 have hk1:(rows[n].e.kind==1)=false:=by rw [hk];rfl
 have hk2:(rows[n].e.kind==2)=false:=by rw [hk];rfl
 have hk3:(rows[n].e.kind==3)=false:=by rw [hk];rfl
 have hk4:(rows[n].e.kind==4)=false:=by rw [hk];rfl
 have hk5:(rows[n].e.kind==5)=true:=by rw [hk];rfl
 have hn1:=bF n;have hn2:(n:Int)<(rows.length:Int):=by omega
 unfold Gn at hW0;rw [UT]at HIH ⊢;clear UT hex hk ZM hok;go_enter func98,ntmps98;go_wp2_with fail;rw [<-hW0];clear hW0 t0 t1 t2 t3 t4;go_loopw [21] (fun i wr=>∃ k:Nat,k<=rows[n].e.kids.length/\i=.int .i64 k/\Hid ((rows[n].e.kids.drop k).all H=rows[n].e.kids.all H)/\Hid (ag W0 wr)) (fun i _=>rows[n].e.kids.length-(intOf i).toNat);case atStart=>exact ⟨0,Ui _,rfl,rfl,Uf _ _⟩
 obtain ⟨k,hk,rfl,HP,HB⟩:=hrel;have UU:Hid (ag w wr):=HB0.out.trans (HB.out.mono HB0.out.size);have hE:=WT.out.below HB.out;have e0:=hE.f0;have e1:=hE.f1;have e2:=hE.f2;have e3:=hE.f3;have e4:=hE.f4;have y4:=hE.x4;have el2:w.heap.size+1<wr.heap.size:=hE.lt;clear hE;by_cases hlt:k<rows[n].e.kids.length
 ·obtain ⟨bK,Xv,Vi,z0,ZN⟩:=p8.at0 (HK.out.below UU.out) hlt;rw [Vi]at y4;have hi1:=bF k;have hi2:(k:Int)<(rows[n].e.kids.length:Int):=by omega
  have HD:Hid (rows[n].e.kids.all H=(H rows[n].e.kids[k]&&(rows[n].e.kids.drop (k+1)).all H)):=by show _=_;rw [<-HP.out];exact MC H hlt
  have HC:=aD (HIH.out _ (Ud hlt));obtain ⟨q,hq⟩:∃ q,H rows[n].e.kids[k]=q:=⟨_,rfl⟩;rw [hq]at HC HD;have Z9:Hid (∀ d os,Calls prog 98 #[v0,vT,.slice (some ⟨b,off,none⟩) rows.length capE,.int .i64 rows[n].e.kids[k],vK,vR,.agg #[.string f.a,.string f.b,.string f.r,.string f.c,.string f.d]] (grow (redrawn wr d) os) fun e w''=>e=.returned (.bool q)/\∃ p:Regrown,w''=grow (redrawn wr p.d) p.os):=by
   refine bP fun W' hb=>?_;exact HC.out W' (UU.out.trans (hb.mono UU.out.size))
  clear Vi hq HC;go_wp2_with fail;replace e0:=cell_regrown e0;replace e1:=cell_regrown e1;replace e2:=cell_regrown e2;replace e3:=cell_regrown e3;replace e4:=cell_regrown e4;replace y4:=cell_regrown y4;replace z0:=cell_regrown z0;refine wp_region_quiet_below (by kernel_rfl) (by kernel_rfl) ?_
  repeat (go_big_quiet_step (exact Z9.out _ _))
  refine wpQuiet_nil ?_;rintro _ ⟨⟨dq,osq⟩,rfl⟩;have HB2:=aD (HB.out.trans ((below_regrown wr dq osq).mono HB.out.size));clear Z9 e0 e1 e2 e3 e4 y4 z0;cases q;case false=>
   have HN:Hid (rows[n].e.kids.all H=false):=by show _=_;rw [HD.out];rfl
   go_wp2;go_ret;exact ⟨by rw [HN.out];rfl,HB0.out.trans (HB2.out.mono HB0.out.size)⟩
  have UW:Hid ((rows[n].e.kids.drop (k+1)).all H=rows[n].e.kids.all H):=by show _=_;rw [HD.out];rfl
  go_wp2;go_roundw;case rel=>exact ⟨k+1,by omega,by go_num,UW,HB2⟩
  simp [intOf] <;> omega
 have HN:Hid (rows[n].e.kids.all H=true):=by show _=_;rw [<-HP.out,List.drop_of_length_le (by omega)];rfl
 go_wp2;go_ret;exact ⟨by rw [HN.out];rfl,UU.out⟩
theorem GM (b0 b1:Bool)(v0 vT:Value)(UO:Option Addr)(capE:Nat)(rows:List ER)(n:Nat)(vK vR:Value)(f:Fc)(w:af)(hex:iC w UO rows)(hn:n<rows.length)(hre:rows.length<=1000)(hkl:rows[n].e.kids.length<=1000)(hk2:2<=rows[n].e.kids.length)(hk:rows[n].e.kind=6)(hA:PN v0 vT (.slice UO rows.length capE) vK vR f w (rows[n].e.kids.getD 0 0) b0)(hB:PN v0 vT (.slice UO rows.length capE) vR vR f w (rows[n].e.kids.getD 1 0) b1) :
  Calls prog 98 #[v0,vT,.slice UO rows.length capE,.int .i64 (n:Int),vK,vR,.agg #[.string f.a,.string f.b,.string f.r,.string f.c,.string f.d]] w fun e w'=>e=.returned (.bool (b0 && !b1))/\ag w w':=by
 obtain ⟨b,off,UT,⟨t0,t1,t2,t3,t4⟩,hbl,hok⟩:=iC.at0 hex hn;have h0k:0<rows[n].e.kids.length:=by omega
 have h1k:1<rows[n].e.kids.length:=by omega
 obtain ⟨bK,Xv,Vi,z0,ZN⟩:=p8.at0 hok.2 h0k;have z1:w.cell? ⟨bK,Xv+1,none⟩=some (.int .i64 rows[n].e.kids[1]):=by
  obtain ⟨b',off',Yc,z1,-⟩:=p8.at0 hok.2 h1k;rw [Vi]at Yc;injection Yc with e;injection e with e1 e2;rw [e1,e2];exact z1
 obtain ⟨i0,hi0⟩:∃ i,i=rows[n].e.kids[0]:=⟨_,rfl⟩;obtain ⟨i1,hi1⟩:∃ i,i=rows[n].e.kids[1]:=⟨_,rfl⟩;have g0:rows[n].e.kids.getD 0 0=i0:=by rw [hi0,List.getD_eq_getElem?_getD,Uj h0k];rfl
 have g1:rows[n].e.kids.getD 1 0=i1:=by rw [hi1,List.getD_eq_getElem?_getD,Uj h1k];rfl
 rw [g0]at hA;rw [g1]at hB;rw [<-hi0,Nat.add_zero]at z0;rw [<-hi1]at z1;clear hi0 hi1 g0 g1;obtain ⟨kl,hkl'⟩:∃ kl,kl=rows[n].e.kids.length:=⟨_,rfl⟩;obtain ⟨cK,hcK⟩:∃ c,c=rows[n].capK:=⟨_,rfl⟩;have hl0:(0:Int)<(kl:Int):=by omega
 have hl1:(1:Int)<(kl:Int):=by omega
 have h0k':0<kl:=by omega
 have h1k':1<kl:=by omega
 have HA:=aD hA;have Wm:=aD hB;obtain ⟨W0,hW0⟩:∃ W0,W0=Gn w f rows[n]:=⟨_,rfl⟩;have HB0:Hid (ag w W0):=by show Below _ _ _;rw [hW0];exact jV _ _ _
 have WT:Hid (EnB W0 w.heap.size f rows[n]):=by show EnB _ _ _ _;rw [hW0];exact om _ _ _
 have HZ:Hid (W0.cell? ⟨bK,Xv,none⟩=some (.int .i64 i0)/\W0.cell? ⟨bK,Xv+1,none⟩=some (.int .i64 i1)/\bK<W0.heap.size):=⟨(HB0.out.cell (p:=⟨bK,Xv,none⟩) ZN).trans z0,(HB0.out.cell (p:=⟨bK,Xv+1,none⟩) ZN).trans z1,Uc ZN HB0.out.size⟩;have HX4:Hid (W0.cell? ⟨w.heap.size+1,4,none⟩=some (.slice (some ⟨bK,Xv,none⟩) kl cK)):=by show _=_;rw [WT.out.x4,Vi,<-hkl',<-hcK]
 have hk1:(rows[n].e.kind==1)=false:=by rw [hk];rfl
 have hk2:(rows[n].e.kind==2)=false:=by rw [hk];rfl
 have hk3:(rows[n].e.kind==3)=false:=by rw [hk];rfl
 have hk4:(rows[n].e.kind==4)=false:=by rw [hk];rfl
 have hk5:(rows[n].e.kind==5)=false:=by rw [hk];rfl
 have hk6:(rows[n].e.kind==6)=true:=by rw [hk];rfl
 have hn1:=bF n;have hn2:(n:Int)<(rows.length:Int):=by omega
 unfold Gn at hW0;rw [UT]at HA Wm ⊢;clear UT hex hk hA hB hok z0 z1 Vi h0k h1k;go_enter func98,ntmps98;go_wp2_with fail;rw [<-hW0];clear hW0 t0 t1 t2 t3 t4 hk1 hk2 hk3 hk4 hk5 hk6 hkl' hcK;have HAA:Hid (∀ d os,Calls prog 98 #[v0,vT,.slice (some ⟨b,off,none⟩) rows.length capE,.int .i64 i0,vK,vR,.agg #[.string f.a,.string f.b,.string f.r,.string f.c,.string f.d]] (grow (redrawn W0 d) os) fun e w''=>e=.returned (.bool b0)/\∃ p:Regrown,w''=grow (redrawn W0 p.d) p.os):=by
  refine bP fun W' hb=>?_;exact HA.out _ (HB0.out.trans (hb.mono HB0.out.size))
 have V7:Hid (∀ d os,Calls prog 98 #[v0,vT,.slice (some ⟨b,off,none⟩) rows.length capE,.int .i64 i1,vR,vR,.agg #[.string f.a,.string f.b,.string f.r,.string f.c,.string f.d]] (grow (redrawn W0 d) os) fun e w''=>e=.returned (.bool b1)/\∃ p:Regrown,w''=grow (redrawn W0 p.d) p.os):=by
  refine bP fun W' hb=>?_;exact Wm.out _ (HB0.out.trans (hb.mono HB0.out.size))
 have c0:=cell_regrown WT.out.f0;have c1:=cell_regrown WT.out.f1;have c2:=cell_regrown WT.out.f2;have c3:=cell_regrown WT.out.f3;have c4:=cell_regrown WT.out.f4;have x4:=cell_regrown HX4.out;have z0:=cell_regrown HZ.out.1;have z1:=cell_regrown HZ.out.2.1;clear HA Wm WT;cases b0;case true=>
  refine wp_region_quiet_below (by kernel_rfl) (by kernel_rfl) ?_
  iterate 11 (go_big_quiet_step (exact HAA.out _ _))
  repeat (go_big_quiet_step (exact V7.out _ _))
  refine wpQuiet_nil ?_;rintro _ ⟨⟨dq,osq⟩,rfl⟩;go_wp2;go_ret;exact ⟨rfl,HB0.out.trans ((below_regrown W0 dq osq).mono HB0.out.size)⟩
 refine wp_region_quiet_below (by kernel_rfl) (by kernel_rfl) ?_
 repeat (go_big_quiet_step (exact HAA.out _ _))
 refine wpQuiet_nil ?_;rintro _ ⟨⟨dq,osq⟩,rfl⟩;go_wp2;go_ret;exact ⟨rfl,HB0.out.trans ((below_regrown W0 dq osq).mono HB0.out.size)⟩
structure Xg (rows:List ER):Prop where
 len:rows.length<=1000
 kids:∀ q∈rows,q.e.kids.length<=1000
 low:Kw (aj rows)
 two:∀ e∈aj rows,e.kind=6->2<=e.kids.length
theorem Xg.kid {rows:List ER}(h:Xg rows){n:Nat}(hn:n<rows.length){i:Int}(hi:i∈rows[n].e.kids):0<=i/\i<(n:Int):=by
 have:=h.low n (by rw [aN];exact hn) i;have e:(aj rows)[n]'(by rw [aN];exact hn)=rows[n].e:=by simp [aj]
 rw [e]at this;exact this hi
theorem yf (v0:Value)(Wx:Option Addr)(V5:Nat)(ts:List Tp)(UO:Option Addr)(capE:Nat)(rows:List ER)(Wy:Option Addr)(V6:Nat)(truth:List Fc)(f:Fc)(htl:ts.length<=1048576)(hN:Xg rows)(htr:truth.length<=1048576) :
  ∀ (k n:Nat) (adK:Option Addr) (capK:Nat) (known:List Fc) (w:World),n<k->n<rows.length->known.length<=1048576->HW w Wx ts UO rows adK known Wy truth ->
  Calls prog 98 #[v0,.slice Wx ts.length V5,.slice UO rows.length capE,.int .i64 (n:Int),.slice adK known.length capK,.slice Wy truth.length V6,.agg #[.string f.a,.string f.b,.string f.r,.string f.c,.string f.d]] w fun e w'=>e=.returned (.bool (dz ts (aj rows) truth f k known n))/\ag w w'
 | 0,_,_,_,_,_,h,_,_,_=>absurd h (UI _)
 | k+1,n,adK,capK,known,w,hk,hn,hkn,hW=>by
  have e:(aj rows)[n]?=some rows[n].e:=by simp [aj,hn]
  have Vj:∀ (adK':Option Addr) (ZO:Nat) (known':List Fc),known'.length<=1048576->HW w Wx ts UO rows adK' known' Wy truth->∀ i∈rows[n].e.kids,PN v0 (.slice Wx ts.length V5) (.slice UO rows.length capE) (.slice adK' known'.length ZO) (.slice Wy truth.length V6) f w i (dz ts (aj rows) truth f k known' i.toNat):=fun adK' ZO known' hl hW' i hi w1 hb1=>by
   have h1:=hN.kid hn hi;have h2:=yf v0 Wx V5 ts UO capE rows Wy V6 truth f htl hN htr k i.toNat adK' ZO known' w1 (by omega) (by omega) hl (hW'.below hb1);have e2:((i.toNat:Nat):Int)=i:=by omega
   rw [e2]at h2;exact h2
  unfold dz;rw [e];have hm:rows[n]∈rows:=Ud hn;have hme:rows[n].e∈aj rows:=Ur.2 ⟨_,hm,rfl⟩;by_cases k1:rows[n].e.kind=1
  ·simp only [if_pos k1];exact ET v0 Wx V5 ts UO capE rows n adK capK known Wy V6 truth f w hW hn hN.len hkn htl k1
  by_cases k2:rows[n].e.kind=2
  ·simp only [if_neg k1,if_pos k2];exact GL v0 Wx V5 ts UO capE rows n adK capK known Wy V6 truth f w hW hn hN.len hkn k2
  by_cases k3:rows[n].e.kind=3
  ·simp only [if_neg k1,if_neg k2,if_pos k3];exact EO v0 Wx V5 ts UO capE rows n adK capK known Wy V6 truth f w hW hn hN.len hkn htl k3
  by_cases k4:rows[n].e.kind=4
  ·simp only [if_neg k1,if_neg k2,if_neg k3,if_pos k4];exact BO (fun i=>dz ts (aj rows) truth f k known i.toNat) v0 _ UO capE rows n _ _ f w hW.ex hn hN.len (hN.kids _ hm) k4 (Vj adK capK known hkn hW)
  by_cases k5:rows[n].e.kind=5
  ·simp only [if_neg k1,if_neg k2,if_neg k3,if_neg k4,if_pos k5];exact EU (fun i=>dz ts (aj rows) truth f k known i.toNat) v0 _ UO capE rows n _ _ f w hW.ex hn hN.len (hN.kids _ hm) k5 (Vj adK capK known hkn hW)
  by_cases k6:rows[n].e.kind=6
  ·simp only [if_neg k1,if_neg k2,if_neg k3,if_neg k4,if_neg k5,if_pos k6];have h2:=hN.two _ hme k6;have hg:∀ q,q<2->rows[n].e.kids.getD q 0∈rows[n].e.kids:=fun q hq=>by
    rw [List.getD_eq_getElem?_getD,Uj (by omega)];exact Ud _
   exact GM _ _ v0 _ UO capE rows n _ _ f w hW.ex hn hN.len (hN.kids _ hm) h2 k6 (Vj adK capK known hkn hW _ (hg 0 (by omega))) (Vj Wy V6 truth htr ⟨hW.tup,hW.ex,hW.tr,hW.tr⟩ _ (hg 1 (by omega)))
  simp only [if_neg k1,if_neg k2,if_neg k3,if_neg k4,if_neg k5,if_neg k6];exact JI v0 Wx V5 ts UO capE rows n _ _ f w hW.ex hn hN.len k1 k2 k3 k4 k5 k6
end Go.Proofs.YtajkkeikihhejaaGreat
