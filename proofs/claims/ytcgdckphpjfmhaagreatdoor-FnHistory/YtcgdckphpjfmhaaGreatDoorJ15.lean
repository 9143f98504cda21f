/- The document's question of a node that goes over a relation. -/
import Derived.Test.YtcgdckphpjfmhaaGreatDoorSq
import Derived.Test.YtcgdckphpjfmhaaGreatDoorJ8
open Go.Proofs.Tryz
set_option maxHeartbeats 80000000
namespace Go.Proofs.YtcgdckphpjfmhaaGreatDoor
set_option linter.unusedVariables false
set_option maxRecDepth 100000
open ChangeShapes WideShapes ChangeAt RowKit Maps
open Pl
theorem EO(v0:Value)(YE:Q02)(Yg:Nat)(ts:Q05)(WW:Q02)(capE:Nat)(rows:Q08)(n:Nat)(adK:Q02)(capK:Nat)(known:Q04)(YF:Q02)(Yh:Nat)(truth:Q04)(f:Fc)(w:ae)(hW:HW w YE ts WW rows adK known YF truth)(hn:n<rows.length)(hre:rows.length<=1000)(hkl:known.length<=1048576)(htl:ts.length<=1048576)(hk:rows[n].e.kind=3):
  Calls prog 119 #[v0,.slice YE ts.length Yg,.slice WW rows.length capE,.int .i64 (n:Int),.slice adK known.length capK,.slice YF truth.length Yh,.agg #[.string f.a,.string f.b,.string f.r,.string f.c,.string f.d]] w fun e w'=>e=.returned (.bool (gJ ts known rows[n].e.over rows[n].e.name f))/\af w w':=by
 obtain⟨b,off,Xb,⟨t0,t1,t2,t3,t4⟩,hbl,-⟩:=jq.at0 hW.ex hn;have HW0:=aD hW;obtain⟨W0,hW0⟩:∃W0,W0=Gm w f rows[n]:=⟨_,rfl⟩;have HB0:Hid (af w W0):=by show Below _ _ _;rw[hW0];exact j3 _ _ _
 have Zb:Hid (EnB W0 w.heap.size f rows[n]):=by show EnB _ _ _ _;rw[hW0];exact ow _ _ _
 have hk1:(rows[n].e.kind==1)=false:=by rw[hk];rfl
 have hk2:(rows[n].e.kind==2)=false:=by rw[hk];rfl
 have hk3:(rows[n].e.kind==3)=true:=by rw[hk];rfl
 have hn1:=bq n;have hn2:(n:Int)<(rows.length:Int):=by omega
 unfold Gm at hW0;rw[Xb];clear Xb hW hk;go_enter func119,ntmps119;go_wp2_with fail;rw[<-hW0];clear hW0 t0 t1 t2 t3 t4;go_loopw[18] (fun i wr=>∃k:Nat,k<=ts.length/\i=.int .i64 k/\Hid (gJ (ts.drop k) known rows[n].e.over rows[n].e.name f=gJ ts known rows[n].e.over rows[n].e.name f)/\Hid (af W0 wr)) (fun i _=>ts.length-(intOf i).toNat);case atStart=>exact⟨0,VG _,rfl,rfl,VD _ _⟩
 obtain⟨k,hk,rfl,HP,HB⟩:=hrel;have WZ:Hid (af w wr):=HB0.out.trans (HB.out.mono HB0.out.size);by_cases hlt:k<ts.length
 ·obtain⟨bT,offT,Zv,⟨a0,a1,a2,a3,a4,a5⟩,hbT⟩:=Sl.at0 (HW0.out.tup.below WZ.out) hlt;have hE:=Zb.out.below HB.out;have e0:=hE.f0;have e1:=hE.f1;have e2:=hE.f2;have e3:=hE.f3;have e4:=hE.f4;have el:w.heap.size<wr.heap.size:=by have:=hE.lt;omega
  have el2:w.heap.size+1<wr.heap.size:=hE.lt;have g2:=hE.x2;have g3:=hE.x3;have hi1:=bq k;have hi2:(k:Int)<(ts.length:Int):=by omega
  obtain⟨W1,hW1⟩:∃W1,W1=wr.alloc (.cells #[.string ts[k].a,.string ts[k].b,.string ts[k].r,.string ts[k].c,.string ts[k].d,.string ts[k].s] 29):=⟨_,rfl⟩;have Yf:=oQ hW1;have HB1:Hid (af W0 W1):=HB.out.trans (Yf.out.mono HB.out.size);have XN:Hid (af w W1):=WZ.out.trans (Yf.out.mono WZ.out.size);have HD:Hid (gJ ts known rows[n].e.over rows[n].e.name f=(C8 known rows[n].e.over rows[n].e.name f ts[k] || gJ (ts.drop (k+1)) known rows[n].e.over rows[n].e.name f)):=by show _=_;rw[<-HP.out];exact Jj hlt known _ _ f
  rw[Zv];clear Zv hE;cases ho:Ar ts[k].a ts[k].b f.a f.b;case false=>
   have hoeq:=jH _ _ _ _ ho;have Xa:Hid (gJ (ts.drop (k+1)) known rows[n].e.over rows[n].e.name f=gJ ts known rows[n].e.over rows[n].e.name f):=by
    show _=_;unfold Ar at ho;rw[HD.out];unfold C8;rw[ho];rfl
   clear ho;go_wp2;rw[<-hW1];clear hW1;go_roundw;case rel=>exact⟨k+1,by omega,by go_num,Xa,HB1⟩
   simp[intOf]<;>omega
  have hoeq:=jH _ _ _ _ ho;have HO:Hid (Ar ts[k].a ts[k].b f.a f.b=true):=ho;clear ho;cases hr:(ts[k].r.toList==rows[n].e.over.toList);case false=>
   have Xa:Hid (gJ (ts.drop (k+1)) known rows[n].e.over rows[n].e.name f=gJ ts known rows[n].e.over rows[n].e.name f):=by
    show _=_;have h2:=HO.out;unfold Ar at h2;rw[HD.out];unfold C8;rw[h2,hr];rfl
   go_wp2;rw[<-hW1];clear hW1;go_roundw;case rel=>exact⟨k+1,by omega,by go_num,Xa,HB1⟩
   simp[intOf]<;>omega
  have HT2:Hid (C8 known rows[n].e.over rows[n].e.name f ts[k]=bR known ⟨ts[k].c,ts[k].d,rows[n].e.name,f.c,f.d⟩):=by
   show _=_;have h2:=HO.out;unfold Ar at h2;unfold C8;rw[h2,hr];rfl
  go_wp2_with fail;rw[<-hW1];clear hW1;refine(oq adK capK known ⟨ts[k].c,ts[k].d,rows[n].e.name,f.c,f.d⟩ W1 hkl (HW0.out.kn.below XN.out)).mono ?_;rintro e w2 ⟨rfl,hb2⟩;have HB2:=kL HB1 hb2;have HBW2:=kL XN hb2;clear hb2;cases hh:bR known ⟨ts[k].c,ts[k].d,rows[n].e.name,f.c,f.d⟩;case true=>
   have HN:Hid (gJ ts known rows[n].e.over rows[n].e.name f=true):=by show _=_;rw[HD.out,HT2.out,hh];rfl
   go_wp2;go_ret;exact⟨by rw[HN.out];rfl,HBW2.out⟩
  have Xa:Hid (gJ (ts.drop (k+1)) known rows[n].e.over rows[n].e.name f=gJ ts known rows[n].e.over rows[n].e.name f):=by show _=_;rw[HD.out,HT2.out,hh];rfl
  go_wp2;go_roundw;case rel=>exact⟨k+1,by omega,by go_num,Xa,HB2⟩
  simp[intOf]<;>omega
 have HN:Hid (gJ ts known rows[n].e.over rows[n].e.name f=false):=by show _=_;rw[<-HP.out,VW (by omega)];rfl
 go_wp2;go_ret;exact⟨by rw[HN.out];rfl,WZ.out⟩
open Go.Sort
theorem MJ(p:Int->Bool){zs:List Int}{k:Nat}(h:k<zs.length):(zs.drop k).any p=(p zs[k] || (zs.drop (k+1)).any p):=by rw[V5 h];rfl
theorem MK(p:Int->Bool){zs:List Int}{k:Nat}(h:k<zs.length):(zs.drop k).all p=(p zs[k]&&(zs.drop (k+1)).all p):=by rw[V5 h];rfl
def PX(v0 vT vE vK vR:Value)(f:Fc)(w:World)(i:Int)(b:Bool):Prop:=∀w1:World,af w w1->Calls prog 119 #[v0,vT,vE,.int .i64 i,vK,vR,.agg #[.string f.a,.string f.b,.string f.r,.string f.c,.string f.d]] w1 fun e w'=>e=.returned (.bool b)/\af w1 w'
theorem Cb(H:Int->Bool)(v0 vT:Value)(WW:Q02)(capE:Nat)(rows:Q08)(n:Nat)(vK vR:Value)(f:Fc)(w:ae)(hex:jq w WW rows)(hn:n<rows.length)(hre:rows.length<=1000)(hkl:rows[n].e.kids.length<=1000)(hk:rows[n].e.kind=4)(hIH:∀i∈rows[n].e.kids,PX v0 vT (.slice WW rows.length capE) vK vR f w i (H i)):
  Calls prog 119 #[v0,vT,.slice WW rows.length capE,.int .i64 (n:Int),vK,vR,.agg #[.string f.a,.string f.b,.string f.r,.string f.c,.string f.d]] w fun e w'=>e=.returned (.bool (rows[n].e.kids.any H))/\af w w':=by
 obtain⟨b,off,Xb,⟨t0,t1,t2,t3,t4⟩,hbl,hok⟩:=jq.at0 hex hn;have HK:=aD hok.2;have HIH:=aD hIH;obtain⟨W0,hW0⟩:∃W0,W0=Gm w f rows[n]:=⟨_,rfl⟩;have HB0:Hid (af w W0):=by show Below _ _ _;rw[hW0];exact j3 _ _ _
 have Zb:Hid (EnB W0 w.heap.size f rows[n]):=by show EnB _ _ _ _;rw[hW0];exact ow _ _ _
 have hk1:(rows[n].e.kind==1)=false:=by rw[hk];rfl
 have hk2:(rows[n].e.kind==2)=false:=by rw[hk];rfl
 have hk3:(rows[n].e.kind==3)=false:=by rw[hk];rfl
 have hk4:(rows[n].e.kind==4)=true:=by rw[hk];rfl
 have hn1:=bq n;have hn2:(n:Int)<(rows.length:Int):=by omega
 unfold Gm at hW0;rw[Xb]at HIH⊢;clear Xb hex hk hIH hok;go_enter func119,ntmps119;go_wp2_with fail;rw[<-hW0];clear hW0 t0 t1 t2 t3 t4;go_loopw[20] (fun i wr=>∃k:Nat,k<=rows[n].e.kids.length/\i=.int .i64 k/\Hid ((rows[n].e.kids.drop k).any H=rows[n].e.kids.any H)/\Hid (af W0 wr)) (fun i _=>rows[n].e.kids.length-(intOf i).toNat);case atStart=>exact⟨0,VG _,rfl,rfl,VD _ _⟩
 obtain⟨k,hk,rfl,HP,HB⟩:=hrel;have WZ:Hid (af w wr):=HB0.out.trans (HB.out.mono HB0.out.size);have hE:=Zb.out.below HB.out;have e0:=hE.f0;have e1:=hE.f1;have e2:=hE.f2;have e3:=hE.f3;have e4:=hE.f4;have y4:=hE.x4;have el2:w.heap.size+1<wr.heap.size:=hE.lt;clear hE;by_cases hlt:k<rows[n].e.kids.length
 ·obtain⟨bK,ZY,Xx,z0,hbK⟩:=wB.at0 (HK.out.below WZ.out) hlt;rw[Xx]at y4;have hi1:=bq k;have hi2:(k:Int)<(rows[n].e.kids.length:Int):=by omega
  have HD:Hid (rows[n].e.kids.any H=(H rows[n].e.kids[k] || (rows[n].e.kids.drop (k+1)).any H)):=by show _=_;rw[<-HP.out];exact MJ H hlt
  have HC:=aD (HIH.out _ (Vz hlt));obtain⟨q,hq⟩:∃q,H rows[n].e.kids[k]=q:=⟨_,rfl⟩;rw[hq]at HC HD;have Z9:Hid (∀d os,Calls prog 119 #[v0,vT,.slice (some ⟨b,off,none⟩) rows.length capE,.int .i64 rows[n].e.kids[k],vK,vR,.agg #[.string f.a,.string f.b,.string f.r,.string f.c,.string f.d]] (grow (redrawn wr d) os) fun e w''=>e=.returned (.bool q)/\∃p:Regrown,w''=grow (redrawn wr p.d) p.os):=by
   refine cu fun W' hb=>?_;exact HC.out W' (WZ.out.trans (hb.mono WZ.out.size))
  clear Xx hq HC;go_wp2_with fail;replace e0:=cell_regrown e0;replace e1:=cell_regrown e1;replace e2:=cell_regrown e2;replace e3:=cell_regrown e3;replace e4:=cell_regrown e4;replace y4:=cell_regrown y4;replace z0:=cell_regrown z0;refine wp_region_quiet_below (by kernel_rfl) (by kernel_rfl) ?_
  repeat(go_big_quiet_step (exact Z9.out _ _))
  refine wpQuiet_nil ?_;rintro _ ⟨⟨dq,osq⟩,rfl⟩;have HB2:=aD (HB.out.trans ((below_regrown wr dq osq).mono HB.out.size));clear Z9 e0 e1 e2 e3 e4 y4 z0;cases q;case true=>
   have HN:Hid (rows[n].e.kids.any H=true):=by show _=_;rw[HD.out];rfl
   go_wp2;go_ret;exact⟨by rw[HN.out];rfl,HB0.out.trans (HB2.out.mono HB0.out.size)⟩
  have Xa:Hid ((rows[n].e.kids.drop (k+1)).any H=rows[n].e.kids.any H):=by show _=_;rw[HD.out];rfl
  go_wp2;go_roundw;case rel=>exact⟨k+1,by omega,by go_num,Xa,HB2⟩
  simp[intOf]<;>omega
 have HN:Hid (rows[n].e.kids.any H=false):=by show _=_;rw[<-HP.out,VW (by omega)];rfl
 go_wp2;go_ret;exact⟨by rw[HN.out];rfl,WZ.out⟩
theorem EP(H:Int->Bool)(v0 vT:Value)(WW:Q02)(capE:Nat)(rows:Q08)(n:Nat)(vK vR:Value)(f:Fc)(w:ae)(hex:jq w WW rows)(hn:n<rows.length)(hre:rows.length<=1000)(hkl:rows[n].e.kids.length<=1000)(hk:rows[n].e.kind=5)(hIH:∀i∈rows[n].e.kids,PX v0 vT (.slice WW rows.length capE) vK vR f w i (H i)):
  Calls prog 119 #[v0,vT,.slice WW rows.length capE,.int .i64 (n:Int),vK,vR,.agg #[.string f.a,.string f.b,.string f.r,.string f.c,.string f.d]] w fun e w'=>e=.returned (.bool (rows[n].e.kids.all H))/\af w w':=by
 obtain⟨b,off,Xb,⟨t0,t1,t2,t3,t4⟩,hbl,hok⟩:=jq.at0 hex hn;have HK:=aD hok.2;have HIH:=aD hIH;obtain⟨W0,hW0⟩:∃W0,W0=Gm w f rows[n]:=⟨_,rfl⟩;have HB0:Hid (af w W0):=by show Below _ _ _;rw[hW0];exact j3 _ _ _
 have Zb:Hid (EnB W0 w.heap.size f rows[n]):=by show EnB _ _ _ _;rw[hW0];exact ow _ _ _
 have hk1:(rows[n].e.kind==1)=false:=by rw[hk];rfl
 have hk2:(rows[n].e.kind==2)=false:=by rw[hk];rfl
 have hk3:(rows[n].e.kind==3)=false:=by rw[hk];rfl
 have hk4:(rows[n].e.kind==4)=false:=by rw[hk];rfl
 have hk5:(rows[n].e.kind==5)=true:=by rw[hk];rfl
 have hn1:=bq n;have hn2:(n:Int)<(rows.length:Int):=by omega
 unfold Gm at hW0;rw[Xb]at HIH⊢;clear Xb hex hk hIH hok;go_enter func119,ntmps119;go_wp2_with fail;rw[<-hW0];clear hW0 t0 t1 t2 t3 t4;go_loopw[21] (fun i wr=>∃k:Nat,k<=rows[n].e.kids.length/\i=.int .i64 k/\Hid ((rows[n].e.kids.drop k).all H=rows[n].e.kids.all H)/\Hid (af W0 wr)) (fun i _=>rows[n].e.kids.length-(intOf i).toNat);case atStart=>exact⟨0,VG _,rfl,rfl,VD _ _⟩
 obtain⟨k,hk,rfl,HP,HB⟩:=hrel;have WZ:Hid (af w wr):=HB0.out.trans (HB.out.mono HB0.out.size);have hE:=Zb.out.below HB.out;have e0:=hE.f0;have e1:=hE.f1;have e2:=hE.f2;have e3:=hE.f3;have e4:=hE.f4;have y4:=hE.x4;have el2:w.heap.size+1<wr.heap.size:=hE.lt;clear hE;by_cases hlt:k<rows[n].e.kids.length
 ·obtain⟨bK,ZY,Xx,z0,hbK⟩:=wB.at0 (HK.out.below WZ.out) hlt;rw[Xx]at y4;have hi1:=bq k;have hi2:(k:Int)<(rows[n].e.kids.length:Int):=by omega
  have HD:Hid (rows[n].e.kids.all H=(H rows[n].e.kids[k]&&(rows[n].e.kids.drop (k+1)).all H)):=by show _=_;rw[<-HP.out];exact MK H hlt
  have HC:=aD (HIH.out _ (Vz hlt));obtain⟨q,hq⟩:∃q,H rows[n].e.kids[k]=q:=⟨_,rfl⟩;rw[hq]at HC HD;have Z9:Hid (∀d os,Calls prog 119 #[v0,vT,.slice (some ⟨b,off,none⟩) rows.length capE,.int .i64 rows[n].e.kids[k],vK,vR,.agg #[.string f.a,.string f.b,.string f.r,.string f.c,.string f.d]] (grow (redrawn wr d) os) fun e w''=>e=.returned (.bool q)/\∃p:Regrown,w''=grow (redrawn wr p.d) p.os):=by
   refine cu fun W' hb=>?_;exact HC.out W' (WZ.out.trans (hb.mono WZ.out.size))
  clear Xx hq HC;go_wp2_with fail;replace e0:=cell_regrown e0;replace e1:=cell_regrown e1;replace e2:=cell_regrown e2;replace e3:=cell_regrown e3;replace e4:=cell_regrown e4;replace y4:=cell_regrown y4;replace z0:=cell_regrown z0;refine wp_region_quiet_below (by kernel_rfl) (by kernel_rfl) ?_
  repeat(go_big_quiet_step (exact Z9.out _ _))
  refine wpQuiet_nil ?_;rintro _ ⟨⟨dq,osq⟩,rfl⟩;have HB2:=aD (HB.out.trans ((below_regrown wr dq osq).mono HB.out.size));clear Z9 e0 e1 e2 e3 e4 y4 z0;cases q;case false=>
   have HN:Hid (rows[n].e.kids.all H=false):=by show _=_;rw[HD.out];rfl
   go_wp2;go_ret;exact⟨by rw[HN.out];rfl,HB0.out.trans (HB2.out.mono HB0.out.size)⟩
  have Xa:Hid ((rows[n].e.kids.drop (k+1)).all H=rows[n].e.kids.all H):=by show _=_;rw[HD.out];rfl
  go_wp2;go_roundw;case rel=>exact⟨k+1,by omega,by go_num,Xa,HB2⟩
  simp[intOf]<;>omega
 have HN:Hid (rows[n].e.kids.all H=true):=by show _=_;rw[<-HP.out,VW (by omega)];rfl
 go_wp2;go_ret;exact⟨by rw[HN.out];rfl,WZ.out⟩
theorem GQ(b0 b1:Bool)(v0 vT:Value)(WW:Q02)(capE:Nat)(rows:Q08)(n:Nat)(vK vR:Value)(f:Fc)(w:ae)(hex:jq w WW rows)(hn:n<rows.length)(hre:rows.length<=1000)(hkl:rows[n].e.kids.length<=1000)(hk2:2<=rows[n].e.kids.length)(hk:rows[n].e.kind=6)(hA:PX v0 vT (.slice WW rows.length capE) vK vR f w (rows[n].e.kids.getD 0 0) b0)(hB:PX v0 vT (.slice WW rows.length capE) vR vR f w (rows[n].e.kids.getD 1 0) b1):
  Calls prog 119 #[v0,vT,.slice WW rows.length capE,.int .i64 (n:Int),vK,vR,.agg #[.string f.a,.string f.b,.string f.r,.string f.c,.string f.d]] w fun e w'=>e=.returned (.bool (b0 && !b1))/\af w w':=by
 obtain⟨b,off,Xb,⟨t0,t1,t2,t3,t4⟩,hbl,hok⟩:=jq.at0 hex hn;have h0k:0<rows[n].e.kids.length:=by omega
 have h1k:1<rows[n].e.kids.length:=by omega
 obtain⟨bK,ZY,Xx,z0,hbK⟩:=wB.at0 hok.2 h0k;have z1:w.cell? ⟨bK,ZY+1,none⟩=some (.int .i64 rows[n].e.kids[1]):=by
  obtain⟨b',off',ZZ,z1,-⟩:=wB.at0 hok.2 h1k;rw[Xx]at ZZ;injection ZZ with e;injection e with e1 e2;rw[e1,e2];exact z1
 obtain⟨i0,hi0⟩:∃i,i=rows[n].e.kids[0]:=⟨_,rfl⟩;obtain⟨i1,hi1⟩:∃i,i=rows[n].e.kids[1]:=⟨_,rfl⟩;have g0:rows[n].e.kids.getD 0 0=i0:=by rw[hi0,WF,VO h0k];rfl
 have g1:rows[n].e.kids.getD 1 0=i1:=by rw[hi1,WF,VO h1k];rfl
 rw[g0]at hA;rw[g1]at hB;rw[<-hi0,Nat.add_zero]at z0;rw[<-hi1]at z1;clear hi0 hi1 g0 g1;obtain⟨kl,hkl'⟩:∃kl,kl=rows[n].e.kids.length:=⟨_,rfl⟩;obtain⟨cK,hcK⟩:∃c,c=rows[n].capK:=⟨_,rfl⟩;have hl0:(0:Int)<(kl:Int):=by omega
 have hl1:(1:Int)<(kl:Int):=by omega
 have h0k':0<kl:=by omega
 have h1k':1<kl:=by omega
 have HA:=aD hA;have YK:=aD hB;obtain⟨W0,hW0⟩:∃W0,W0=Gm w f rows[n]:=⟨_,rfl⟩;have HB0:Hid (af w W0):=by show Below _ _ _;rw[hW0];exact j3 _ _ _
 have Zb:Hid (EnB W0 w.heap.size f rows[n]):=by show EnB _ _ _ _;rw[hW0];exact ow _ _ _
 have HZ:Hid (W0.cell? ⟨bK,ZY,none⟩=some (.int .i64 i0)/\W0.cell? ⟨bK,ZY+1,none⟩=some (.int .i64 i1)/\bK<W0.heap.size):=⟨(HB0.out.cell (p:=⟨bK,ZY,none⟩) hbK).trans z0,(HB0.out.cell (p:=⟨bK,ZY+1,none⟩) hbK).trans z1,Vy hbK HB0.out.size⟩;have HX4:Hid (W0.cell? ⟨w.heap.size+1,4,none⟩=some (.slice (some ⟨bK,ZY,none⟩) kl cK)):=by show _=_;rw[Zb.out.x4,Xx,<-hkl',<-hcK]
 have hk1:(rows[n].e.kind==1)=false:=by rw[hk];rfl
 have hk2:(rows[n].e.kind==2)=false:=by rw[hk];rfl
 have hk3:(rows[n].e.kind==3)=false:=by rw[hk];rfl
 have hk4:(rows[n].e.kind==4)=false:=by rw[hk];rfl
 have hk5:(rows[n].e.kind==5)=false:=by rw[hk];rfl
 have hk6:(rows[n].e.kind==6)=true:=by rw[hk];rfl
 have hn1:=bq n;have hn2:(n:Int)<(rows.length:Int):=by omega
 unfold Gm at hW0;rw[Xb]at HA YK⊢;clear Xb hex hk hA hB hok z0 z1 Xx h0k h1k;go_enter func119,ntmps119;go_wp2_with fail;rw[<-hW0];clear hW0 t0 t1 t2 t3 t4 hk1 hk2 hk3 hk4 hk5 hk6 hkl' hcK;have HAA:Hid (∀d os,Calls prog 119 #[v0,vT,.slice (some ⟨b,off,none⟩) rows.length capE,.int .i64 i0,vK,vR,.agg #[.string f.a,.string f.b,.string f.r,.string f.c,.string f.d]] (grow (redrawn W0 d) os) fun e w''=>e=.returned (.bool b0)/\∃p:Regrown,w''=grow (redrawn W0 p.d) p.os):=by
  refine cu fun W' hb=>?_;exact HA.out _ (HB0.out.trans (hb.mono HB0.out.size))
 have HBQ:Hid (∀d os,Calls prog 119 #[v0,vT,.slice (some ⟨b,off,none⟩) rows.length capE,.int .i64 i1,vR,vR,.agg #[.string f.a,.string f.b,.string f.r,.string f.c,.string f.d]] (grow (redrawn W0 d) os) fun e w''=>e=.returned (.bool b1)/\∃p:Regrown,w''=grow (redrawn W0 p.d) p.os):=by
  refine cu fun W' hb=>?_;exact YK.out _ (HB0.out.trans (hb.mono HB0.out.size))
 have c0:=cell_regrown Zb.out.f0;have c1:=cell_regrown Zb.out.f1;have c2:=cell_regrown Zb.out.f2;have c3:=cell_regrown Zb.out.f3;have c4:=cell_regrown Zb.out.f4;have x4:=cell_regrown HX4.out;have z0:=cell_regrown HZ.out.1;have z1:=cell_regrown HZ.out.2.1;clear HA YK Zb;cases b0;case true=>
  refine wp_region_quiet_below (by kernel_rfl) (by kernel_rfl) ?_
  iterate 11 (go_big_quiet_step (exact HAA.out _ _))
  repeat(go_big_quiet_step (exact HBQ.out _ _))
  refine wpQuiet_nil ?_;rintro _ ⟨⟨dq,osq⟩,rfl⟩;go_wp2;go_ret;exact⟨rfl,HB0.out.trans ((below_regrown W0 dq osq).mono HB0.out.size)⟩
 refine wp_region_quiet_below (by kernel_rfl) (by kernel_rfl) ?_
 repeat(go_big_quiet_step (exact HAA.out _ _))
 refine wpQuiet_nil ?_;rintro _ ⟨⟨dq,osq⟩,rfl⟩;go_wp2;go_ret;exact⟨rfl,HB0.out.trans ((below_regrown W0 dq osq).mono HB0.out.size)⟩
end Go.Proofs.YtcgdckphpjfmhaaGreatDoor
