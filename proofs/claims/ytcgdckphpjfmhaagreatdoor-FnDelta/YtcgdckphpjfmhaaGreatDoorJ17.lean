/- The document's question of a node that is told by tuples, or that names a relation. -/
import Derived.Test.YtcgdckphpjfmhaaGreatDoorSq
import Derived.Test.YtcgdckphpjfmhaaGreatDoorJ9
open Go.Proofs.Tryz
set_option maxHeartbeats 80000000
namespace Go.Proofs.YtcgdckphpjfmhaaGreatDoor
set_option linter.unusedVariables false
set_option maxRecDepth 100000
open ChangeShapes WideShapes ChangeAt RowKit Maps
open Pl
theorem H8(v0:Value)(Y6:Q02)(YL:Nat)(ts:Q05)(Xw:Q02)(capE:Nat)(rows:Q08)(n:Nat)(adK:Q02)(capK:Nat)(known:Q04)(Y7:Q02)(YM:Nat)(truth:Q04)(f:Fc)(w:ae)(hW:HW w Y6 ts Xw rows adK known Y7 truth)(hn:n<rows.length)(hre:rows.length<=1000)(hkl:known.length<=1048576)(hk:rows[n].e.kind=2):
  Calls prog 119 #[v0,.slice Y6 ts.length YL,.slice Xw rows.length capE,.int .i64 (n:Int),.slice adK known.length capK,.slice Y7 truth.length YM,.agg #[.string f.a,.string f.b,.string f.r,.string f.c,.string f.d]] w fun e w'=>e=.returned (.bool (bY known ⟨f.a,f.b,rows[n].e.name,f.c,f.d⟩))/\af w w':=by
 obtain⟨b,off,Xx,⟨t0,t1,t2,t3,t4⟩,hbl,-⟩:=jv.at0 hW.ex hn;have HW0:=ak hW;obtain⟨W0,hW0⟩:∃W0,W0=G8 w f rows[n]:=⟨_,rfl⟩;have HB0:Hid (af w W0):=by show Below _ _ _;rw[hW0];exact ko _ _ _
 have hk1:(rows[n].e.kind==1)=false:=by rw[hk];rfl
 have hk2:(rows[n].e.kind==2)=true:=by rw[hk];rfl
 have hn1:=bC n;have hn2:(n:Int)<(rows.length:Int):=by omega
 unfold G8 at hW0;rw[Xx];clear Xx hW hk;go_enter func119,ntmps119;go_wp2_with fail;rw[<-hW0];refine(oU adK capK known ⟨f.a,f.b,rows[n].e.name,f.c,f.d⟩ W0 hkl (HW0.out.kn.below HB0.out)).mono ?_;rintro e w1 ⟨rfl,hb1⟩;have HB1:=ak (HB0.out.trans (hb1.mono HB0.out.size));clear hb1 hW0;go_wp2;go_ret;exact⟨rfl,HB1.out⟩
theorem Kv(v0:Value)(Y6:Q02)(YL:Nat)(ts:Q05)(Xw:Q02)(capE:Nat)(rows:Q08)(n:Nat)(vK vR:Value)(f:Fc)(w:ae)(hex:jv w Xw rows)(hn:n<rows.length)(hre:rows.length<=1000)(k1:rows[n].e.kind≠1)(k2:rows[n].e.kind≠2)(k3:rows[n].e.kind≠3)(k4:rows[n].e.kind≠4)(k5:rows[n].e.kind≠5)(k6:rows[n].e.kind≠6):
  Calls prog 119 #[v0,.slice Y6 ts.length YL,.slice Xw rows.length capE,.int .i64 (n:Int),vK,vR,.agg #[.string f.a,.string f.b,.string f.r,.string f.c,.string f.d]] w fun e w'=>e=.returned (.bool false)/\af w w':=by
 obtain⟨b,off,Xx,⟨t0,t1,t2,t3,t4⟩,hbl,-⟩:=jv.at0 hex hn;have HB0:=ak (ko w f rows[n]);unfold G8 at HB0;have hk1:(rows[n].e.kind==1)=false:=by simpa using k1
 have hk2:(rows[n].e.kind==2)=false:=by simpa using k2
 have hk3:(rows[n].e.kind==3)=false:=by simpa using k3
 have hk4:(rows[n].e.kind==4)=false:=by simpa using k4
 have hk5:(rows[n].e.kind==5)=false:=by simpa using k5
 have hk6:(rows[n].e.kind==6)=false:=by simpa using k6
 have hn1:=bC n;have hn2:(n:Int)<(rows.length:Int):=by omega
 rw[Xx];clear Xx hex k1 k2 k3 k4 k5 k6;go_enter func119,ntmps119;go_wp2;go_ret;exact⟨rfl,HB0.out⟩
theorem FJ(v0:Value)(Y6:Q02)(YL:Nat)(ts:Q05)(Xw:Q02)(capE:Nat)(rows:Q08)(n:Nat)(adK:Q02)(capK:Nat)(known:Q04)(Y7:Q02)(YM:Nat)(truth:Q04)(f:Fc)(w:ae)(hW:HW w Y6 ts Xw rows adK known Y7 truth)(hn:n<rows.length)(hre:rows.length<=1000)(hkl:known.length<=1048576)(htl:ts.length<=1048576)(hk:rows[n].e.kind=1):
  Calls prog 119 #[v0,.slice Y6 ts.length YL,.slice Xw rows.length capE,.int .i64 (n:Int),.slice adK known.length capK,.slice Y7 truth.length YM,.agg #[.string f.a,.string f.b,.string f.r,.string f.c,.string f.d]] w fun e w'=>e=.returned (.bool (fG ts known f))/\af w w':=by
 obtain⟨b,off,Xx,⟨t0,t1,t2,t3,t4⟩,hbl,-⟩:=jv.at0 hW.ex hn;have HW0:=ak hW;obtain⟨W0,hW0⟩:∃W0,W0=G8 w f rows[n]:=⟨_,rfl⟩;have HB0:Hid (af w W0):=by show Below _ _ _;rw[hW0];exact ko _ _ _
 have Zm:Hid (EnB W0 w.heap.size f rows[n]):=by show EnB _ _ _ _;rw[hW0];exact oV _ _ _
 have hk1:(rows[n].e.kind==1)=true:=by rw[hk];rfl
 have hn1:=bC n;have hn2:(n:Int)<(rows.length:Int):=by omega
 unfold G8 at hW0;rw[Xx];clear Xx hW hk;go_enter func119,ntmps119;go_wp2_with fail;rw[<-hW0];clear hW0 t0 t1 t2 t3 t4;go_loopw[16] (fun i wr=>∃k:Nat,k<=ts.length/\i=.int .i64 k/\Hid (fG (ts.drop k) known f=fG ts known f)/\Hid (af W0 wr)) (fun i _=>ts.length-(intOf i).toNat);case atStart=>exact⟨0,Wd _,rfl,rfl,V5 _ _⟩
 obtain⟨k,hk,rfl,HP,HB⟩:=hrel;have Xz:Hid (af w wr):=HB0.out.trans (HB.out.mono HB0.out.size);by_cases hlt:k<ts.length
 ·obtain⟨bT,offT,ZW,⟨a0,a1,a2,a3,a4,a5⟩,hbT⟩:=Sl.at0 (HW0.out.tup.below Xz.out) hlt;have hE:=Zm.out.below HB.out;have e0:=hE.f0;have e1:=hE.f1;have e2:=hE.f2;have e3:=hE.f3;have e4:=hE.f4;have el:w.heap.size<wr.heap.size:=by have:=hE.lt;omega
  have hi1:=bC k;have hi2:(k:Int)<(ts.length:Int):=by omega
  obtain⟨W1,hW1⟩:∃W1,W1=wr.alloc (.cells #[.string ts[k].a,.string ts[k].b,.string ts[k].r,.string ts[k].c,.string ts[k].d,.string ts[k].s] 29):=⟨_,rfl⟩;have Yj:=nC hW1;have HB1:Hid (af W0 W1):=HB.out.trans (Yj.out.mono HB.out.size);have Yq:Hid (af w W1):=Xz.out.trans (Yj.out.mono Xz.out.size);have HD:Hid (fG ts known f=(Bi known f ts[k] || fG (ts.drop (k+1)) known f)):=by show _=_;rw[<-HP.out];exact JX hlt known f
  rw[ZW];clear ZW hE;cases ho:Bh ts[k].a ts[k].b f.a f.b;case false=>
   have hneq:=G7 _ _ _ _ ho;have XA:Hid (fG (ts.drop (k+1)) known f=fG ts known f):=by
    show _=_;unfold Bh at ho;rw[HD.out];unfold Bi;rw[ho];rfl
   clear ho;go_wp2;rw[<-hW1];clear hW1;go_roundw;case rel=>exact⟨k+1,by omega,by go_num,XA,HB1⟩
   simp[intOf]<;>omega
  have hneq:=G7 _ _ _ _ ho;have HO:Hid (Bh ts[k].a ts[k].b f.a f.b=true):=ho;clear ho;cases hr:(ts[k].r.toList==f.r.toList);case false=>
   have XA:Hid (fG (ts.drop (k+1)) known f=fG ts known f):=by
    show _=_;have h2:=HO.out;unfold Bh at h2;rw[HD.out];unfold Bi;rw[h2,hr];rfl
   go_wp2;rw[<-hW1];clear hW1;go_roundw;case rel=>exact⟨k+1,by omega,by go_num,XA,HB1⟩
   simp[intOf]<;>omega
  have HT:Hid (Bi known f ts[k]=(if ts[k].s.toList.isEmpty then ts[k].c.toList==f.c.toList&&ts[k].d.toList==f.d.toList else bY known ⟨ts[k].c,ts[k].d,ts[k].s,f.c,f.d⟩)):=by
   show _=_;have h2:=HO.out;unfold Bh at h2;unfold Bi;rw[h2,hr];rfl
  cases hs:ts[k].s.toList.isEmpty;case true=>
   have hs2:(ts[k].s.toList==[])=true:=by rw[sI];exact hs
   cases hu:Bh ts[k].c ts[k].d f.c f.d;case true=>
    have heq:=jJ _ _ _ _ hu;have HN:Hid (fG ts known f=true):=by
     show _=_;unfold Bh at hu;rw[HD.out,HT.out,if_pos hs,hu];rfl
    clear hu hs;go_wp2;rw[<-hW1];go_ret;exact⟨by rw[HN.out];rfl,Yq.out⟩
   have heq:=jJ _ _ _ _ hu;have XA:Hid (fG (ts.drop (k+1)) known f=fG ts known f):=by
    show _=_;unfold Bh at hu;rw[HD.out,HT.out,if_pos hs,hu];rfl
   clear hu hs;go_wp2;rw[<-hW1];clear hW1;go_roundw;case rel=>exact⟨k+1,by omega,by go_num,XA,HB1⟩
   simp[intOf]<;>omega
  have hs2:(ts[k].s.toList==[])=false:=by rw[sI];exact hs
  have HT2:Hid (Bi known f ts[k]=bY known ⟨ts[k].c,ts[k].d,ts[k].s,f.c,f.d⟩):=by show _=_;rw[HT.out,if_neg (by rw[hs];decide)]
  clear hs;go_wp2_with fail;rw[<-hW1];clear hW1;refine(oU adK capK known ⟨ts[k].c,ts[k].d,ts[k].s,f.c,f.d⟩ W1 hkl (HW0.out.kn.below Yq.out)).mono ?_;rintro e w2 ⟨rfl,hb2⟩;have HB2:=kv HB1 hb2;have HBW2:=kv Yq hb2;clear hb2;cases hh:bY known ⟨ts[k].c,ts[k].d,ts[k].s,f.c,f.d⟩;case true=>
   have HN:Hid (fG ts known f=true):=by show _=_;rw[HD.out,HT2.out,hh];rfl
   go_wp2;go_ret;exact⟨by rw[HN.out];rfl,HBW2.out⟩
  have XA:Hid (fG (ts.drop (k+1)) known f=fG ts known f):=by show _=_;rw[HD.out,HT2.out,hh];rfl
  go_wp2;go_roundw;case rel=>exact⟨k+1,by omega,by go_num,XA,HB2⟩
  simp[intOf]<;>omega
 have HN:Hid (fG ts known f=false):=by show _=_;rw[<-HP.out,Ww (by omega)];rfl
 go_wp2;go_ret;exact⟨by rw[HN.out];rfl,Xz.out⟩
open Go.Sort
theorem NH(p:Int->Bool){zs:List Int}{k:Nat}(h:k<zs.length):(zs.drop k).any p=(p zs[k] || (zs.drop (k+1)).any p):=by rw[WC h];rfl
theorem NI(p:Int->Bool){zs:List Int}{k:Nat}(h:k<zs.length):(zs.drop k).all p=(p zs[k]&&(zs.drop (k+1)).all p):=by rw[WC h];rfl
def QC(v0 vT vE vK vR:Value)(f:Fc)(w:World)(i:Int)(b:Bool):Prop:=∀w1:World,af w w1->Calls prog 119 #[v0,vT,vE,.int .i64 i,vK,vR,.agg #[.string f.a,.string f.b,.string f.r,.string f.c,.string f.d]] w1 fun e w'=>e=.returned (.bool b)/\af w1 w'
theorem CB(H:Int->Bool)(v0 vT:Value)(Xw:Q02)(capE:Nat)(rows:Q08)(n:Nat)(vK vR:Value)(f:Fc)(w:ae)(hex:jv w Xw rows)(hn:n<rows.length)(hre:rows.length<=1000)(hkl:rows[n].e.kids.length<=1000)(hk:rows[n].e.kind=4)(hIH:∀i∈rows[n].e.kids,QC v0 vT (.slice Xw rows.length capE) vK vR f w i (H i)):
  Calls prog 119 #[v0,vT,.slice Xw rows.length capE,.int .i64 (n:Int),vK,vR,.agg #[.string f.a,.string f.b,.string f.r,.string f.c,.string f.d]] w fun e w'=>e=.returned (.bool (rows[n].e.kids.any H))/\af w w':=by
 obtain⟨b,off,Xx,⟨t0,t1,t2,t3,t4⟩,hbl,hok⟩:=jv.at0 hex hn;have HK:=ak hok.2;have HIH:=ak hIH;obtain⟨W0,hW0⟩:∃W0,W0=G8 w f rows[n]:=⟨_,rfl⟩;have HB0:Hid (af w W0):=by show Below _ _ _;rw[hW0];exact ko _ _ _
 have Zm:Hid (EnB W0 w.heap.size f rows[n]):=by show EnB _ _ _ _;rw[hW0];exact oV _ _ _
 have hk1:(rows[n].e.kind==1)=false:=by rw[hk];rfl
 have hk2:(rows[n].e.kind==2)=false:=by rw[hk];rfl
 have hk3:(rows[n].e.kind==3)=false:=by rw[hk];rfl
 have hk4:(rows[n].e.kind==4)=true:=by rw[hk];rfl
 have hn1:=bC n;have hn2:(n:Int)<(rows.length:Int):=by omega
 unfold G8 at hW0;rw[Xx]at HIH⊢;clear Xx hex hk hIH hok;go_enter func119,ntmps119;go_wp2_with fail;rw[<-hW0];clear hW0 t0 t1 t2 t3 t4;go_loopw[20] (fun i wr=>∃k:Nat,k<=rows[n].e.kids.length/\i=.int .i64 k/\Hid ((rows[n].e.kids.drop k).any H=rows[n].e.kids.any H)/\Hid (af W0 wr)) (fun i _=>rows[n].e.kids.length-(intOf i).toNat);case atStart=>exact⟨0,Wd _,rfl,rfl,V5 _ _⟩
 obtain⟨k,hk,rfl,HP,HB⟩:=hrel;have Xz:Hid (af w wr):=HB0.out.trans (HB.out.mono HB0.out.size);have hE:=Zm.out.below HB.out;have e0:=hE.f0;have e1:=hE.f1;have e2:=hE.f2;have e3:=hE.f3;have e4:=hE.f4;have y4:=hE.x4;have el2:w.heap.size+1<wr.heap.size:=hE.lt;clear hE;by_cases hlt:k<rows[n].e.kids.length
 ·obtain⟨bK,offK,XZ,z0,hbK⟩:=wS.at0 (HK.out.below Xz.out) hlt;rw[XZ]at y4;have hi1:=bC k;have hi2:(k:Int)<(rows[n].e.kids.length:Int):=by omega
  have HD:Hid (rows[n].e.kids.any H=(H rows[n].e.kids[k] || (rows[n].e.kids.drop (k+1)).any H)):=by show _=_;rw[<-HP.out];exact NH H hlt
  have HC:=ak (HIH.out _ (VZ hlt));obtain⟨q,hq⟩:∃q,H rows[n].e.kids[k]=q:=⟨_,rfl⟩;rw[hq]at HC HD;have HCL:Hid (∀d os,Calls prog 119 #[v0,vT,.slice (some ⟨b,off,none⟩) rows.length capE,.int .i64 rows[n].e.kids[k],vK,vR,.agg #[.string f.a,.string f.b,.string f.r,.string f.c,.string f.d]] (grow (redrawn wr d) os) fun e w''=>e=.returned (.bool q)/\∃p:Regrown,w''=grow (redrawn wr p.d) p.os):=by
   refine bq fun W' hb=>?_;exact HC.out W' (Xz.out.trans (hb.mono Xz.out.size))
  clear XZ hq HC;go_wp2_with fail;replace e0:=cell_regrown e0;replace e1:=cell_regrown e1;replace e2:=cell_regrown e2;replace e3:=cell_regrown e3;replace e4:=cell_regrown e4;replace y4:=cell_regrown y4;replace z0:=cell_regrown z0;refine wp_region_quiet_below (by kernel_rfl) (by kernel_rfl) ?_
  repeat(go_big_quiet_step (exact HCL.out _ _))
  refine wpQuiet_nil ?_;rintro _ ⟨⟨dq,osq⟩,rfl⟩;have HB2:=ak (HB.out.trans ((below_regrown wr dq osq).mono HB.out.size));clear HCL e0 e1 e2 e3 e4 y4 z0;cases q;case true=>
   have HN:Hid (rows[n].e.kids.any H=true):=by show _=_;rw[HD.out];rfl
   go_wp2;go_ret;exact⟨by rw[HN.out];rfl,HB0.out.trans (HB2.out.mono HB0.out.size)⟩
  have XA:Hid ((rows[n].e.kids.drop (k+1)).any H=rows[n].e.kids.any H):=by show _=_;rw[HD.out];rfl
  go_wp2;go_roundw;case rel=>exact⟨k+1,by omega,by go_num,XA,HB2⟩
  simp[intOf]<;>omega
 have HN:Hid (rows[n].e.kids.any H=false):=by show _=_;rw[<-HP.out,Ww (by omega)];rfl
 go_wp2;go_ret;exact⟨by rw[HN.out];rfl,Xz.out⟩
theorem FK(H:Int->Bool)(v0 vT:Value)(Xw:Q02)(capE:Nat)(rows:Q08)(n:Nat)(vK vR:Value)(f:Fc)(w:ae)(hex:jv w Xw rows)(hn:n<rows.length)(hre:rows.length<=1000)(hkl:rows[n].e.kids.length<=1000)(hk:rows[n].e.kind=5)(hIH:∀i∈rows[n].e.kids,QC v0 vT (.slice Xw rows.length capE) vK vR f w i (H i)):
  Calls prog 119 #[v0,vT,.slice Xw rows.length capE,.int .i64 (n:Int),vK,vR,.agg #[.string f.a,.string f.b,.string f.r,.string f.c,.string f.d]] w fun e w'=>e=.returned (.bool (rows[n].e.kids.all H))/\af w w':=by
 obtain⟨b,off,Xx,⟨t0,t1,t2,t3,t4⟩,hbl,hok⟩:=jv.at0 hex hn;have HK:=ak hok.2;have HIH:=ak hIH;obtain⟨W0,hW0⟩:∃W0,W0=G8 w f rows[n]:=⟨_,rfl⟩;have HB0:Hid (af w W0):=by show Below _ _ _;rw[hW0];exact ko _ _ _
 have Zm:Hid (EnB W0 w.heap.size f rows[n]):=by show EnB _ _ _ _;rw[hW0];exact oV _ _ _
 have hk1:(rows[n].e.kind==1)=false:=by rw[hk];rfl
 have hk2:(rows[n].e.kind==2)=false:=by rw[hk];rfl
 have hk3:(rows[n].e.kind==3)=false:=by rw[hk];rfl
 have hk4:(rows[n].e.kind==4)=false:=by rw[hk];rfl
 have hk5:(rows[n].e.kind==5)=true:=by rw[hk];rfl
 have hn1:=bC n;have hn2:(n:Int)<(rows.length:Int):=by omega
 unfold G8 at hW0;rw[Xx]at HIH⊢;clear Xx hex hk hIH hok;go_enter func119,ntmps119;go_wp2_with fail;rw[<-hW0];clear hW0 t0 t1 t2 t3 t4;go_loopw[21] (fun i wr=>∃k:Nat,k<=rows[n].e.kids.length/\i=.int .i64 k/\Hid ((rows[n].e.kids.drop k).all H=rows[n].e.kids.all H)/\Hid (af W0 wr)) (fun i _=>rows[n].e.kids.length-(intOf i).toNat);case atStart=>exact⟨0,Wd _,rfl,rfl,V5 _ _⟩
 obtain⟨k,hk,rfl,HP,HB⟩:=hrel;have Xz:Hid (af w wr):=HB0.out.trans (HB.out.mono HB0.out.size);have hE:=Zm.out.below HB.out;have e0:=hE.f0;have e1:=hE.f1;have e2:=hE.f2;have e3:=hE.f3;have e4:=hE.f4;have y4:=hE.x4;have el2:w.heap.size+1<wr.heap.size:=hE.lt;clear hE;by_cases hlt:k<rows[n].e.kids.length
 ·obtain⟨bK,offK,XZ,z0,hbK⟩:=wS.at0 (HK.out.below Xz.out) hlt;rw[XZ]at y4;have hi1:=bC k;have hi2:(k:Int)<(rows[n].e.kids.length:Int):=by omega
  have HD:Hid (rows[n].e.kids.all H=(H rows[n].e.kids[k]&&(rows[n].e.kids.drop (k+1)).all H)):=by show _=_;rw[<-HP.out];exact NI H hlt
  have HC:=ak (HIH.out _ (VZ hlt));obtain⟨q,hq⟩:∃q,H rows[n].e.kids[k]=q:=⟨_,rfl⟩;rw[hq]at HC HD;have HCL:Hid (∀d os,Calls prog 119 #[v0,vT,.slice (some ⟨b,off,none⟩) rows.length capE,.int .i64 rows[n].e.kids[k],vK,vR,.agg #[.string f.a,.string f.b,.string f.r,.string f.c,.string f.d]] (grow (redrawn wr d) os) fun e w''=>e=.returned (.bool q)/\∃p:Regrown,w''=grow (redrawn wr p.d) p.os):=by
   refine bq fun W' hb=>?_;exact HC.out W' (Xz.out.trans (hb.mono Xz.out.size))
  clear XZ hq HC;go_wp2_with fail;replace e0:=cell_regrown e0;replace e1:=cell_regrown e1;replace e2:=cell_regrown e2;replace e3:=cell_regrown e3;replace e4:=cell_regrown e4;replace y4:=cell_regrown y4;replace z0:=cell_regrown z0;refine wp_region_quiet_below (by kernel_rfl) (by kernel_rfl) ?_
  repeat(go_big_quiet_step (exact HCL.out _ _))
  refine wpQuiet_nil ?_;rintro _ ⟨⟨dq,osq⟩,rfl⟩;have HB2:=ak (HB.out.trans ((below_regrown wr dq osq).mono HB.out.size));clear HCL e0 e1 e2 e3 e4 y4 z0;cases q;case false=>
   have HN:Hid (rows[n].e.kids.all H=false):=by show _=_;rw[HD.out];rfl
   go_wp2;go_ret;exact⟨by rw[HN.out];rfl,HB0.out.trans (HB2.out.mono HB0.out.size)⟩
  have XA:Hid ((rows[n].e.kids.drop (k+1)).all H=rows[n].e.kids.all H):=by show _=_;rw[HD.out];rfl
  go_wp2;go_roundw;case rel=>exact⟨k+1,by omega,by go_num,XA,HB2⟩
  simp[intOf]<;>omega
 have HN:Hid (rows[n].e.kids.all H=true):=by show _=_;rw[<-HP.out,Ww (by omega)];rfl
 go_wp2;go_ret;exact⟨by rw[HN.out];rfl,Xz.out⟩
theorem H9(b0 b1:Bool)(v0 vT:Value)(Xw:Q02)(capE:Nat)(rows:Q08)(n:Nat)(vK vR:Value)(f:Fc)(w:ae)(hex:jv w Xw rows)(hn:n<rows.length)(hre:rows.length<=1000)(hkl:rows[n].e.kids.length<=1000)(hk2:2<=rows[n].e.kids.length)(hk:rows[n].e.kind=6)(hA:QC v0 vT (.slice Xw rows.length capE) vK vR f w (rows[n].e.kids.getD 0 0) b0)(hB:QC v0 vT (.slice Xw rows.length capE) vR vR f w (rows[n].e.kids.getD 1 0) b1):
  Calls prog 119 #[v0,vT,.slice Xw rows.length capE,.int .i64 (n:Int),vK,vR,.agg #[.string f.a,.string f.b,.string f.r,.string f.c,.string f.d]] w fun e w'=>e=.returned (.bool (b0 && !b1))/\af w w':=by
 obtain⟨b,off,Xx,⟨t0,t1,t2,t3,t4⟩,hbl,hok⟩:=jv.at0 hex hn;have h0k:0<rows[n].e.kids.length:=by omega
 have h1k:1<rows[n].e.kids.length:=by omega
 obtain⟨bK,offK,XZ,z0,hbK⟩:=wS.at0 hok.2 h0k;have z1:w.cell? ⟨bK,offK+1,none⟩=some (.int .i64 rows[n].e.kids[1]):=by
  obtain⟨b',off',hadK',z1,-⟩:=wS.at0 hok.2 h1k;rw[XZ]at hadK';injection hadK' with e;injection e with e1 e2;rw[e1,e2];exact z1
 obtain⟨i0,hi0⟩:∃i,i=rows[n].e.kids[0]:=⟨_,rfl⟩;obtain⟨i1,hi1⟩:∃i,i=rows[n].e.kids[1]:=⟨_,rfl⟩;have g0:rows[n].e.kids.getD 0 0=i0:=by rw[hi0,Xd,Wm h0k];rfl
 have g1:rows[n].e.kids.getD 1 0=i1:=by rw[hi1,Xd,Wm h1k];rfl
 rw[g0]at hA;rw[g1]at hB;rw[<-hi0,Nat.add_zero]at z0;rw[<-hi1]at z1;clear hi0 hi1 g0 g1;obtain⟨kl,hkl'⟩:∃kl,kl=rows[n].e.kids.length:=⟨_,rfl⟩;obtain⟨cK,hcK⟩:∃c,c=rows[n].capK:=⟨_,rfl⟩;have hl0:(0:Int)<(kl:Int):=by omega
 have hl1:(1:Int)<(kl:Int):=by omega
 have h0k':0<kl:=by omega
 have h1k':1<kl:=by omega
 have HA:=ak hA;have Y9:=ak hB;obtain⟨W0,hW0⟩:∃W0,W0=G8 w f rows[n]:=⟨_,rfl⟩;have HB0:Hid (af w W0):=by show Below _ _ _;rw[hW0];exact ko _ _ _
 have Zm:Hid (EnB W0 w.heap.size f rows[n]):=by show EnB _ _ _ _;rw[hW0];exact oV _ _ _
 have HZ:Hid (W0.cell? ⟨bK,offK,none⟩=some (.int .i64 i0)/\W0.cell? ⟨bK,offK+1,none⟩=some (.int .i64 i1)/\bK<W0.heap.size):=⟨(HB0.out.cell (p:=⟨bK,offK,none⟩) hbK).trans z0,(HB0.out.cell (p:=⟨bK,offK+1,none⟩) hbK).trans z1,VY hbK HB0.out.size⟩;have HX4:Hid (W0.cell? ⟨w.heap.size+1,4,none⟩=some (.slice (some ⟨bK,offK,none⟩) kl cK)):=by show _=_;rw[Zm.out.x4,XZ,<-hkl',<-hcK]
 have hk1:(rows[n].e.kind==1)=false:=by rw[hk];rfl
 have hk2:(rows[n].e.kind==2)=false:=by rw[hk];rfl
 have hk3:(rows[n].e.kind==3)=false:=by rw[hk];rfl
 have hk4:(rows[n].e.kind==4)=false:=by rw[hk];rfl
 have hk5:(rows[n].e.kind==5)=false:=by rw[hk];rfl
 have hk6:(rows[n].e.kind==6)=true:=by rw[hk];rfl
 have hn1:=bC n;have hn2:(n:Int)<(rows.length:Int):=by omega
 unfold G8 at hW0;rw[Xx]at HA Y9⊢;clear Xx hex hk hA hB hok z0 z1 XZ h0k h1k;go_enter func119,ntmps119;go_wp2_with fail;rw[<-hW0];clear hW0 t0 t1 t2 t3 t4 hk1 hk2 hk3 hk4 hk5 hk6 hkl' hcK;have HAA:Hid (∀d os,Calls prog 119 #[v0,vT,.slice (some ⟨b,off,none⟩) rows.length capE,.int .i64 i0,vK,vR,.agg #[.string f.a,.string f.b,.string f.r,.string f.c,.string f.d]] (grow (redrawn W0 d) os) fun e w''=>e=.returned (.bool b0)/\∃p:Regrown,w''=grow (redrawn W0 p.d) p.os):=by
  refine bq fun W' hb=>?_;exact HA.out _ (HB0.out.trans (hb.mono HB0.out.size))
 have HBQ:Hid (∀d os,Calls prog 119 #[v0,vT,.slice (some ⟨b,off,none⟩) rows.length capE,.int .i64 i1,vR,vR,.agg #[.string f.a,.string f.b,.string f.r,.string f.c,.string f.d]] (grow (redrawn W0 d) os) fun e w''=>e=.returned (.bool b1)/\∃p:Regrown,w''=grow (redrawn W0 p.d) p.os):=by
  refine bq fun W' hb=>?_;exact Y9.out _ (HB0.out.trans (hb.mono HB0.out.size))
 have c0:=cell_regrown Zm.out.f0;have c1:=cell_regrown Zm.out.f1;have c2:=cell_regrown Zm.out.f2;have c3:=cell_regrown Zm.out.f3;have c4:=cell_regrown Zm.out.f4;have x4:=cell_regrown HX4.out;have z0:=cell_regrown HZ.out.1;have z1:=cell_regrown HZ.out.2.1;clear HA Y9 Zm;cases b0;case true=>
  refine wp_region_quiet_below (by kernel_rfl) (by kernel_rfl) ?_
  iterate 11 (go_big_quiet_step (exact HAA.out _ _))
  repeat(go_big_quiet_step (exact HBQ.out _ _))
  refine wpQuiet_nil ?_;rintro _ ⟨⟨dq,osq⟩,rfl⟩;go_wp2;go_ret;exact⟨rfl,HB0.out.trans ((below_regrown W0 dq osq).mono HB0.out.size)⟩
 refine wp_region_quiet_below (by kernel_rfl) (by kernel_rfl) ?_
 repeat(go_big_quiet_step (exact HAA.out _ _))
 refine wpQuiet_nil ?_;rintro _ ⟨⟨dq,osq⟩,rfl⟩;go_wp2;go_ret;exact⟨rfl,HB0.out.trans ((below_regrown W0 dq osq).mono HB0.out.size)⟩
end Go.Proofs.YtcgdckphpjfmhaaGreatDoor
