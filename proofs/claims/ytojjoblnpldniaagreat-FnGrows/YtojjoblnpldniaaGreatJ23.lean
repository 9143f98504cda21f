/- The key of a fact: five strings; is a fact in a set of facts? -/
import Derived.Test.YtojjoblnpldniaaGreatSq
import Derived.Test.YtojjoblnpldniaaGreatJ13
open Go.Proofs.Tryz
set_option maxHeartbeats 80000000
namespace Go.Proofs.YtojjoblnpldniaaGreat
open ChangeShapes WideShapes ChangeAt RowKit Maps
def Fc.fits(t:Fc):Prop:=t.a.size<=maxLen/\t.b.size<=maxLen/\t.r.size<=maxLen/\t.c.size<=maxLen/\t.d.size<=maxLen
def oG(k:Fc):Value:=.agg #[.string k.a,.string k.b,.string k.r,.string k.c,.string k.d]
theorem QJ(x y:Fc)(h:oG x=oG y):x=y:=by
 unfold oG at h;injection h with h;have h1:=congrArg Array.toList h;simp at h1;obtain⟨xa,xb,xr,xc,xd⟩:=x;obtain⟨ya,yb,yr,yc,yd⟩:=y;simp only at h1;obtain⟨rfl,rfl,rfl,rfl,rfl⟩:=h1;rfl
theorem QK:laidOutB prog=true:=by kernel_rfl
theorem Un:(52:TypeId)<prog.types.size:=of_decide_eq_true (by kernel_rfl)
theorem Sj:(match prog.underlying 52 with|some (.array _ _)|some (.struct _)=>true|_=>false)=true:=by rw[underlying52]
set_option maxRecDepth 100000 in
theorem Sk:WideMaps.KeyLaw prog 52:=deep_law_laid QK (m:=3) (by omega) Un (by kernel_rfl) Sj
theorem QL:Keyed prog 52:=Keyed.of_law Sk
theorem Sm:prog.keyType 52=true:=by kernel_rfl
theorem H7:prog.cellsOf 52=5:=by kernel_rfl
theorem NH:prog.cellsOf 27=2:=by kernel_rfl
theorem NI:prog.cellsOf 9=1:=by kernel_rfl
theorem NJ:2<=prog.types.size:=of_decide_eq_true (by kernel_rfl)
theorem Kn:∃n,prog.types.size=n+2:=⟨prog.types.size-2,by have:=NJ;omega⟩
set_option maxRecDepth 100000 in
theorem H8(k:Fc)(h:k.fits):∃kl,keyOf prog 52 (oG k)=some kl:=by
 obtain⟨n,hn⟩:=Kn;obtain⟨h0,h1,h2,h3,h4⟩:=h;refine⟨.string (keyBytes [.string k.a.data.toList,.string k.b.data.toList,.string k.r.data.toList,.string k.c.data.toList,.string k.d.data.toList]),?_⟩;unfold keyOf;rw[underlying52];simp only[Sm,oG,Value.formed,underlying52,H7,hn,Value.cells];simp +decide [Program.keyLits,underlying52,underlying27,underlying9,H7,NH,NI,h0,h1,h2,h3,h4]
theorem QM(w:ae):(zeroValue 107).run prog w=.ok (.agg #[]) w:=by kernel_rfl
theorem H9(b n:Nat)(M:Fc->Option Value)(f:Fc)(w:ae)(hf:f.fits)(hV:aJ oG prog 52 w b n M)(hM:∀v,M f=some v->v=.agg #[]):
  Calls prog 76 #[.map (some b),.agg #[.string f.a,.string f.b,.string f.r,.string f.c,.string f.d]] w fun e w'=>e=.returned (.bool (M f).isSome)/\ag w w':=by
 obtain⟨kl,hkl⟩:=H8 f hf;have Xw:Hid (keyOf prog 52 (oG f)=some kl):=hkl;have HM:Hid ((M f).getD (.agg #[])=.agg #[]):=by
  show _=_;cases e:M f with
  | none=>rfl
  | some v=>exact hM v e
 obtain⟨W,hW⟩:∃W,W=w.alloc (.cells #[.string f.a,.string f.b,.string f.r,.string f.c,.string f.d] 52):=⟨_,rfl⟩;have HB:=sH hW;have HV:=aC (hV.below HB.out);have HB2:Hid (ag w (W.alloc (.cells #[] 107))):=HB.out.alloc HB.out.size _;clear hkl hV hM;go_enter func76,ntmps76;go_wp2_with(at_lookup;rw[<-hW];clear hW;refine bZ _ rfl _ _ 115 rfl 52 107 QL underlying115 (QM _) b n M rfl HV.out f kl rfl Xw.out ?_;rw[HM.out]);go_ret;exact⟨rfl,HB2.out⟩
open Pl
set_option linter.unusedVariables false
set_option maxRecDepth 100000
theorem Ia(v0:Value)(Yq:Q02)(XZ:Nat)(ts:Q05)(WM:Q02)(capE:Nat)(rows:Q08)(n:Nat)(adK:Q02)(capK:Nat)(known:Q04)(Yr:Q02)(X0:Nat)(truth:Q04)(f:Fc)(w:ae)(hW:HW w Yq ts WM rows adK known Yr truth)(hn:n<rows.length)(hre:rows.length<=1000)(hkl:known.length<=1048576)(hk:rows[n].e.kind=2):
  Calls prog 146 #[v0,.slice Yq ts.length XZ,.slice WM rows.length capE,.int .i64 (n:Int),.slice adK known.length capK,.slice Yr truth.length X0,.agg #[.string f.a,.string f.b,.string f.r,.string f.c,.string f.d]] w fun e w'=>e=.returned (.bool (df known ⟨f.a,f.b,rows[n].e.name,f.c,f.d⟩))/\ag w w':=by
 obtain⟨b,off,WO,⟨t0,t1,t2,t3,t4⟩,hbl,-⟩:=jw.at0 hW.ex hn;have HW0:=aF hW;obtain⟨W0,hW0⟩:∃W0,W0=GR w f rows[n]:=⟨_,rfl⟩;have HB0:Hid (ag w W0):=by show Below _ _ _;rw[hW0];exact jW _ _ _
 have hk1:(rows[n].e.kind==1)=false:=by rw[hk];rfl
 have hk2:(rows[n].e.kind==2)=true:=by rw[hk];rfl
 have hn1:=bC n;have hn2:(n:Int)<(rows.length:Int):=by omega
 unfold GR at hW0;rw[WO];clear WO hW hk;go_enter func146,ntmps146;go_wp2_with fail;rw[<-hW0];refine(rV adK capK known ⟨f.a,f.b,rows[n].e.name,f.c,f.d⟩ W0 hkl (HW0.out.kn.below HB0.out)).mono ?_;rintro e w1 ⟨rfl,hb1⟩;have HB1:=aF (HB0.out.trans (hb1.mono HB0.out.size));clear hb1 hW0;go_wp2;go_ret;exact⟨rfl,HB1.out⟩
theorem Ko(v0:Value)(Yq:Q02)(XZ:Nat)(ts:Q05)(WM:Q02)(capE:Nat)(rows:Q08)(n:Nat)(vK vR:Value)(f:Fc)(w:ae)(hex:jw w WM rows)(hn:n<rows.length)(hre:rows.length<=1000)(k1:rows[n].e.kind≠1)(k2:rows[n].e.kind≠2)(k3:rows[n].e.kind≠3)(k4:rows[n].e.kind≠4)(k5:rows[n].e.kind≠5)(k6:rows[n].e.kind≠6):
  Calls prog 146 #[v0,.slice Yq ts.length XZ,.slice WM rows.length capE,.int .i64 (n:Int),vK,vR,.agg #[.string f.a,.string f.b,.string f.r,.string f.c,.string f.d]] w fun e w'=>e=.returned (.bool false)/\ag w w':=by
 obtain⟨b,off,WO,⟨t0,t1,t2,t3,t4⟩,hbl,-⟩:=jw.at0 hex hn;have HB0:=aF (jW w f rows[n]);unfold GR at HB0;have hk1:(rows[n].e.kind==1)=false:=by simpa using k1
 have hk2:(rows[n].e.kind==2)=false:=by simpa using k2
 have hk3:(rows[n].e.kind==3)=false:=by simpa using k3
 have hk4:(rows[n].e.kind==4)=false:=by simpa using k4
 have hk5:(rows[n].e.kind==5)=false:=by simpa using k5
 have hk6:(rows[n].e.kind==6)=false:=by simpa using k6
 have hn1:=bC n;have hn2:(n:Int)<(rows.length:Int):=by omega
 rw[WO];clear WO hex k1 k2 k3 k4 k5 k6;go_enter func146,ntmps146;go_wp2;go_ret;exact⟨rfl,HB0.out⟩
theorem Fz(v0:Value)(Yq:Q02)(XZ:Nat)(ts:Q05)(WM:Q02)(capE:Nat)(rows:Q08)(n:Nat)(adK:Q02)(capK:Nat)(known:Q04)(Yr:Q02)(X0:Nat)(truth:Q04)(f:Fc)(w:ae)(hW:HW w Yq ts WM rows adK known Yr truth)(hn:n<rows.length)(hre:rows.length<=1000)(hkl:known.length<=1048576)(htl:ts.length<=1048576)(hk:rows[n].e.kind=1):
  Calls prog 146 #[v0,.slice Yq ts.length XZ,.slice WM rows.length capE,.int .i64 (n:Int),.slice adK known.length capK,.slice Yr truth.length X0,.agg #[.string f.a,.string f.b,.string f.r,.string f.c,.string f.d]] w fun e w'=>e=.returned (.bool (eG ts known f))/\ag w w':=by
 obtain⟨b,off,WO,⟨t0,t1,t2,t3,t4⟩,hbl,-⟩:=jw.at0 hW.ex hn;have HW0:=aF hW;obtain⟨W0,hW0⟩:∃W0,W0=GR w f rows[n]:=⟨_,rfl⟩;have HB0:Hid (ag w W0):=by show Below _ _ _;rw[hW0];exact jW _ _ _
 have YJ:Hid (EnB W0 w.heap.size f rows[n]):=by show EnB _ _ _ _;rw[hW0];exact oh _ _ _
 have hk1:(rows[n].e.kind==1)=true:=by rw[hk];rfl
 have hn1:=bC n;have hn2:(n:Int)<(rows.length:Int):=by omega
 unfold GR at hW0;rw[WO];clear WO hW hk;go_enter func146,ntmps146;go_wp2_with fail;rw[<-hW0];clear hW0 t0 t1 t2 t3 t4;go_loopw[16] (fun i wr=>∃k:Nat,k<=ts.length/\i=.int .i64 k/\Hid (eG (ts.drop k) known f=eG ts known f)/\Hid (ag W0 wr)) (fun i _=>ts.length-(intOf i).toNat);case atStart=>exact⟨0,Vv _,rfl,rfl,Vs _ _⟩
 obtain⟨k,hk,rfl,HP,HB⟩:=hrel;have WP:Hid (ag w wr):=HB0.out.trans (HB.out.mono HB0.out.size);by_cases hlt:k<ts.length
 ·obtain⟨bT,offT,Za,⟨a0,a1,a2,a3,a4,a5⟩,hbT⟩:=Sl.at0 (HW0.out.tup.below WP.out) hlt;have hE:=YJ.out.below HB.out;have e0:=hE.f0;have e1:=hE.f1;have e2:=hE.f2;have e3:=hE.f3;have e4:=hE.f4;have el:w.heap.size<wr.heap.size:=by have:=hE.lt;omega
  have hi1:=bC k;have hi2:(k:Int)<(ts.length:Int):=by omega
  obtain⟨W1,hW1⟩:∃W1,W1=wr.alloc (.cells #[.string ts[k].a,.string ts[k].b,.string ts[k].r,.string ts[k].c,.string ts[k].d,.string ts[k].s] 29):=⟨_,rfl⟩;have XY:=sH hW1;have HB1:Hid (ag W0 W1):=HB.out.trans (XY.out.mono HB.out.size);have XE:Hid (ag w W1):=WP.out.trans (XY.out.mono WP.out.size);have HD:Hid (eG ts known f=(Az known f ts[k] || eG (ts.drop (k+1)) known f)):=by show _=_;rw[<-HP.out];exact JL hlt known f
  rw[Za];clear Za hE;cases ho:Ay ts[k].a ts[k].b f.a f.b;case false=>
   have hneq:=GQ _ _ _ _ ho;have WQ:Hid (eG (ts.drop (k+1)) known f=eG ts known f):=by
    show _=_;unfold Ay at ho;rw[HD.out];unfold Az;rw[ho];rfl
   clear ho;go_wp2;rw[<-hW1];clear hW1;go_roundw;case rel=>exact⟨k+1,by omega,by go_num,WQ,HB1⟩
   simp[intOf]<;>omega
  have hneq:=GQ _ _ _ _ ho;have HO:Hid (Ay ts[k].a ts[k].b f.a f.b=true):=ho;clear ho;cases hr:(ts[k].r.toList==f.r.toList);case false=>
   have WQ:Hid (eG (ts.drop (k+1)) known f=eG ts known f):=by
    show _=_;have h2:=HO.out;unfold Ay at h2;rw[HD.out];unfold Az;rw[h2,hr];rfl
   go_wp2;rw[<-hW1];clear hW1;go_roundw;case rel=>exact⟨k+1,by omega,by go_num,WQ,HB1⟩
   simp[intOf]<;>omega
  have HT:Hid (Az known f ts[k]=(if ts[k].s.toList.isEmpty then ts[k].c.toList==f.c.toList&&ts[k].d.toList==f.d.toList else df known ⟨ts[k].c,ts[k].d,ts[k].s,f.c,f.d⟩)):=by
   show _=_;have h2:=HO.out;unfold Ay at h2;unfold Az;rw[h2,hr];rfl
  cases hs:ts[k].s.toList.isEmpty;case true=>
   have hs2:(ts[k].s.toList==[])=true:=by rw[rW];exact hs
   cases hu:Ay ts[k].c ts[k].d f.c f.d;case true=>
    have heq:=jM _ _ _ _ hu;have HN:Hid (eG ts known f=true):=by
     show _=_;unfold Ay at hu;rw[HD.out,HT.out,if_pos hs,hu];rfl
    clear hu hs;go_wp2;rw[<-hW1];go_ret;exact⟨by rw[HN.out];rfl,XE.out⟩
   have heq:=jM _ _ _ _ hu;have WQ:Hid (eG (ts.drop (k+1)) known f=eG ts known f):=by
    show _=_;unfold Ay at hu;rw[HD.out,HT.out,if_pos hs,hu];rfl
   clear hu hs;go_wp2;rw[<-hW1];clear hW1;go_roundw;case rel=>exact⟨k+1,by omega,by go_num,WQ,HB1⟩
   simp[intOf]<;>omega
  have hs2:(ts[k].s.toList==[])=false:=by rw[rW];exact hs
  have HT2:Hid (Az known f ts[k]=df known ⟨ts[k].c,ts[k].d,ts[k].s,f.c,f.d⟩):=by show _=_;rw[HT.out,if_neg (by rw[hs];decide)]
  clear hs;go_wp2_with fail;rw[<-hW1];clear hW1;refine(rV adK capK known ⟨ts[k].c,ts[k].d,ts[k].s,f.c,f.d⟩ W1 hkl (HW0.out.kn.below XE.out)).mono ?_;rintro e w2 ⟨rfl,hb2⟩;have HB2:=iJ HB1 hb2;have HBW2:=iJ XE hb2;clear hb2;cases hh:df known ⟨ts[k].c,ts[k].d,ts[k].s,f.c,f.d⟩;case true=>
   have HN:Hid (eG ts known f=true):=by show _=_;rw[HD.out,HT2.out,hh];rfl
   go_wp2;go_ret;exact⟨by rw[HN.out];rfl,HBW2.out⟩
  have WQ:Hid (eG (ts.drop (k+1)) known f=eG ts known f):=by show _=_;rw[HD.out,HT2.out,hh];rfl
  go_wp2;go_roundw;case rel=>exact⟨k+1,by omega,by go_num,WQ,HB2⟩
  simp[intOf]<;>omega
 have HN:Hid (eG ts known f=false):=by show _=_;rw[<-HP.out,VN (by omega)];rfl
 go_wp2;go_ret;exact⟨by rw[HN.out];rfl,WP.out⟩
theorem FB(v0:Value)(Yq:Q02)(XZ:Nat)(ts:Q05)(WM:Q02)(capE:Nat)(rows:Q08)(n:Nat)(adK:Q02)(capK:Nat)(known:Q04)(Yr:Q02)(X0:Nat)(truth:Q04)(f:Fc)(w:ae)(hW:HW w Yq ts WM rows adK known Yr truth)(hn:n<rows.length)(hre:rows.length<=1000)(hkl:known.length<=1048576)(htl:ts.length<=1048576)(hk:rows[n].e.kind=3):
  Calls prog 146 #[v0,.slice Yq ts.length XZ,.slice WM rows.length capE,.int .i64 (n:Int),.slice adK known.length capK,.slice Yr truth.length X0,.agg #[.string f.a,.string f.b,.string f.r,.string f.c,.string f.d]] w fun e w'=>e=.returned (.bool (fQ ts known rows[n].e.over rows[n].e.name f))/\ag w w':=by
 obtain⟨b,off,WO,⟨t0,t1,t2,t3,t4⟩,hbl,-⟩:=jw.at0 hW.ex hn;have HW0:=aF hW;obtain⟨W0,hW0⟩:∃W0,W0=GR w f rows[n]:=⟨_,rfl⟩;have HB0:Hid (ag w W0):=by show Below _ _ _;rw[hW0];exact jW _ _ _
 have YJ:Hid (EnB W0 w.heap.size f rows[n]):=by show EnB _ _ _ _;rw[hW0];exact oh _ _ _
 have hk1:(rows[n].e.kind==1)=false:=by rw[hk];rfl
 have hk2:(rows[n].e.kind==2)=false:=by rw[hk];rfl
 have hk3:(rows[n].e.kind==3)=true:=by rw[hk];rfl
 have hn1:=bC n;have hn2:(n:Int)<(rows.length:Int):=by omega
 unfold GR at hW0;rw[WO];clear WO hW hk;go_enter func146,ntmps146;go_wp2_with fail;rw[<-hW0];clear hW0 t0 t1 t2 t3 t4;go_loopw[18] (fun i wr=>∃k:Nat,k<=ts.length/\i=.int .i64 k/\Hid (fQ (ts.drop k) known rows[n].e.over rows[n].e.name f=fQ ts known rows[n].e.over rows[n].e.name f)/\Hid (ag W0 wr)) (fun i _=>ts.length-(intOf i).toNat);case atStart=>exact⟨0,Vv _,rfl,rfl,Vs _ _⟩
 obtain⟨k,hk,rfl,HP,HB⟩:=hrel;have WP:Hid (ag w wr):=HB0.out.trans (HB.out.mono HB0.out.size);by_cases hlt:k<ts.length
 ·obtain⟨bT,offT,Za,⟨a0,a1,a2,a3,a4,a5⟩,hbT⟩:=Sl.at0 (HW0.out.tup.below WP.out) hlt;have hE:=YJ.out.below HB.out;have e0:=hE.f0;have e1:=hE.f1;have e2:=hE.f2;have e3:=hE.f3;have e4:=hE.f4;have el:w.heap.size<wr.heap.size:=by have:=hE.lt;omega
  have el2:w.heap.size+1<wr.heap.size:=hE.lt;have g2:=hE.x2;have g3:=hE.x3;have hi1:=bC k;have hi2:(k:Int)<(ts.length:Int):=by omega
  obtain⟨W1,hW1⟩:∃W1,W1=wr.alloc (.cells #[.string ts[k].a,.string ts[k].b,.string ts[k].r,.string ts[k].c,.string ts[k].d,.string ts[k].s] 29):=⟨_,rfl⟩;have XY:=sH hW1;have HB1:Hid (ag W0 W1):=HB.out.trans (XY.out.mono HB.out.size);have XE:Hid (ag w W1):=WP.out.trans (XY.out.mono WP.out.size);have HD:Hid (fQ ts known rows[n].e.over rows[n].e.name f=(Du known rows[n].e.over rows[n].e.name f ts[k] || fQ (ts.drop (k+1)) known rows[n].e.over rows[n].e.name f)):=by show _=_;rw[<-HP.out];exact JM hlt known _ _ f
  rw[Za];clear Za hE;cases ho:Ay ts[k].a ts[k].b f.a f.b;case false=>
   have hoeq:=jM _ _ _ _ ho;have WQ:Hid (fQ (ts.drop (k+1)) known rows[n].e.over rows[n].e.name f=fQ ts known rows[n].e.over rows[n].e.name f):=by
    show _=_;unfold Ay at ho;rw[HD.out];unfold Du;rw[ho];rfl
   clear ho;go_wp2;rw[<-hW1];clear hW1;go_roundw;case rel=>exact⟨k+1,by omega,by go_num,WQ,HB1⟩
   simp[intOf]<;>omega
  have hoeq:=jM _ _ _ _ ho;have HO:Hid (Ay ts[k].a ts[k].b f.a f.b=true):=ho;clear ho;cases hr:(ts[k].r.toList==rows[n].e.over.toList);case false=>
   have WQ:Hid (fQ (ts.drop (k+1)) known rows[n].e.over rows[n].e.name f=fQ ts known rows[n].e.over rows[n].e.name f):=by
    show _=_;have h2:=HO.out;unfold Ay at h2;rw[HD.out];unfold Du;rw[h2,hr];rfl
   go_wp2;rw[<-hW1];clear hW1;go_roundw;case rel=>exact⟨k+1,by omega,by go_num,WQ,HB1⟩
   simp[intOf]<;>omega
  have HT2:Hid (Du known rows[n].e.over rows[n].e.name f ts[k]=df known ⟨ts[k].c,ts[k].d,rows[n].e.name,f.c,f.d⟩):=by
   show _=_;have h2:=HO.out;unfold Ay at h2;unfold Du;rw[h2,hr];rfl
  go_wp2_with fail;rw[<-hW1];clear hW1;refine(rV adK capK known ⟨ts[k].c,ts[k].d,rows[n].e.name,f.c,f.d⟩ W1 hkl (HW0.out.kn.below XE.out)).mono ?_;rintro e w2 ⟨rfl,hb2⟩;have HB2:=iJ HB1 hb2;have HBW2:=iJ XE hb2;clear hb2;cases hh:df known ⟨ts[k].c,ts[k].d,rows[n].e.name,f.c,f.d⟩;case true=>
   have HN:Hid (fQ ts known rows[n].e.over rows[n].e.name f=true):=by show _=_;rw[HD.out,HT2.out,hh];rfl
   go_wp2;go_ret;exact⟨by rw[HN.out];rfl,HBW2.out⟩
  have WQ:Hid (fQ (ts.drop (k+1)) known rows[n].e.over rows[n].e.name f=fQ ts known rows[n].e.over rows[n].e.name f):=by show _=_;rw[HD.out,HT2.out,hh];rfl
  go_wp2;go_roundw;case rel=>exact⟨k+1,by omega,by go_num,WQ,HB2⟩
  simp[intOf]<;>omega
 have HN:Hid (fQ ts known rows[n].e.over rows[n].e.name f=false):=by show _=_;rw[<-HP.out,VN (by omega)];rfl
 go_wp2;go_ret;exact⟨by rw[HN.out];rfl,WP.out⟩
open Go.Sort
theorem NK(p:Int->Bool){zs:List Int}{k:Nat}(h:k<zs.length):(zs.drop k).any p=(p zs[k] || (zs.drop (k+1)).any p):=by rw[VZ h];rfl
theorem NL(p:Int->Bool){zs:List Int}{k:Nat}(h:k<zs.length):(zs.drop k).all p=(p zs[k]&&(zs.drop (k+1)).all p):=by rw[VZ h];rfl
def QN(v0 vT vE vK vR:Value)(f:Fc)(w:World)(i:Int)(b:Bool):Prop:=∀w1:World,ag w w1->Calls prog 146 #[v0,vT,vE,.int .i64 i,vK,vR,.agg #[.string f.a,.string f.b,.string f.r,.string f.c,.string f.d]] w1 fun e w'=>e=.returned (.bool b)/\ag w1 w'
theorem Cv(H:Int->Bool)(v0 vT:Value)(WM:Q02)(capE:Nat)(rows:Q08)(n:Nat)(vK vR:Value)(f:Fc)(w:ae)(hex:jw w WM rows)(hn:n<rows.length)(hre:rows.length<=1000)(hkl:rows[n].e.kids.length<=1000)(hk:rows[n].e.kind=4)(hIH:∀i∈rows[n].e.kids,QN v0 vT (.slice WM rows.length capE) vK vR f w i (H i)):
  Calls prog 146 #[v0,vT,.slice WM rows.length capE,.int .i64 (n:Int),vK,vR,.agg #[.string f.a,.string f.b,.string f.r,.string f.c,.string f.d]] w fun e w'=>e=.returned (.bool (rows[n].e.kids.any H))/\ag w w':=by
 obtain⟨b,off,WO,⟨t0,t1,t2,t3,t4⟩,hbl,hok⟩:=jw.at0 hex hn;have HK:=aF hok.2;have HIH:=aF hIH;obtain⟨W0,hW0⟩:∃W0,W0=GR w f rows[n]:=⟨_,rfl⟩;have HB0:Hid (ag w W0):=by show Below _ _ _;rw[hW0];exact jW _ _ _
 have YJ:Hid (EnB W0 w.heap.size f rows[n]):=by show EnB _ _ _ _;rw[hW0];exact oh _ _ _
 have hk1:(rows[n].e.kind==1)=false:=by rw[hk];rfl
 have hk2:(rows[n].e.kind==2)=false:=by rw[hk];rfl
 have hk3:(rows[n].e.kind==3)=false:=by rw[hk];rfl
 have hk4:(rows[n].e.kind==4)=true:=by rw[hk];rfl
 have hn1:=bC n;have hn2:(n:Int)<(rows.length:Int):=by omega
 unfold GR at hW0;rw[WO]at HIH⊢;clear WO hex hk hIH hok;go_enter func146,ntmps146;go_wp2_with fail;rw[<-hW0];clear hW0 t0 t1 t2 t3 t4;go_loopw[20] (fun i wr=>∃k:Nat,k<=rows[n].e.kids.length/\i=.int .i64 k/\Hid ((rows[n].e.kids.drop k).any H=rows[n].e.kids.any H)/\Hid (ag W0 wr)) (fun i _=>rows[n].e.kids.length-(intOf i).toNat);case atStart=>exact⟨0,Vv _,rfl,rfl,Vs _ _⟩
 obtain⟨k,hk,rfl,HP,HB⟩:=hrel;have WP:Hid (ag w wr):=HB0.out.trans (HB.out.mono HB0.out.size);have hE:=YJ.out.below HB.out;have e0:=hE.f0;have e1:=hE.f1;have e2:=hE.f2;have e3:=hE.f3;have e4:=hE.f4;have y4:=hE.x4;have el2:w.heap.size+1<wr.heap.size:=hE.lt;clear hE;by_cases hlt:k<rows[n].e.kids.length
 ·obtain⟨bK,ZI,Xl,z0,hbK⟩:=wL.at0 (HK.out.below WP.out) hlt;rw[Xl]at y4;have hi1:=bC k;have hi2:(k:Int)<(rows[n].e.kids.length:Int):=by omega
  have HD:Hid (rows[n].e.kids.any H=(H rows[n].e.kids[k] || (rows[n].e.kids.drop (k+1)).any H)):=by show _=_;rw[<-HP.out];exact NK H hlt
  have HC:=aF (HIH.out _ (Vp hlt));obtain⟨q,hq⟩:∃q,H rows[n].e.kids[k]=q:=⟨_,rfl⟩;rw[hq]at HC HD;have ZO:Hid (∀d os,Calls prog 146 #[v0,vT,.slice (some ⟨b,off,none⟩) rows.length capE,.int .i64 rows[n].e.kids[k],vK,vR,.agg #[.string f.a,.string f.b,.string f.r,.string f.c,.string f.d]] (grow (redrawn wr d) os) fun e w''=>e=.returned (.bool q)/\∃p:Regrown,w''=grow (redrawn wr p.d) p.os):=by
   refine dm fun W' hb=>?_;exact HC.out W' (WP.out.trans (hb.mono WP.out.size))
  clear Xl hq HC;go_wp2_with fail;replace e0:=cell_regrown e0;replace e1:=cell_regrown e1;replace e2:=cell_regrown e2;replace e3:=cell_regrown e3;replace e4:=cell_regrown e4;replace y4:=cell_regrown y4;replace z0:=cell_regrown z0;refine wp_region_quiet_below (by kernel_rfl) (by kernel_rfl) ?_
  repeat(go_big_quiet_step (exact ZO.out _ _))
  refine wpQuiet_nil ?_;rintro _ ⟨⟨dq,osq⟩,rfl⟩;have HB2:=aF (HB.out.trans ((below_regrown wr dq osq).mono HB.out.size));clear ZO e0 e1 e2 e3 e4 y4 z0;cases q;case true=>
   have HN:Hid (rows[n].e.kids.any H=true):=by show _=_;rw[HD.out];rfl
   go_wp2;go_ret;exact⟨by rw[HN.out];rfl,HB0.out.trans (HB2.out.mono HB0.out.size)⟩
  have WQ:Hid ((rows[n].e.kids.drop (k+1)).any H=rows[n].e.kids.any H):=by show _=_;rw[HD.out];rfl
  go_wp2;go_roundw;case rel=>exact⟨k+1,by omega,by go_num,WQ,HB2⟩
  simp[intOf]<;>omega
 have HN:Hid (rows[n].e.kids.any H=false):=by show _=_;rw[<-HP.out,VN (by omega)];rfl
 go_wp2;go_ret;exact⟨by rw[HN.out];rfl,WP.out⟩
theorem FD(H:Int->Bool)(v0 vT:Value)(WM:Q02)(capE:Nat)(rows:Q08)(n:Nat)(vK vR:Value)(f:Fc)(w:ae)(hex:jw w WM rows)(hn:n<rows.length)(hre:rows.length<=1000)(hkl:rows[n].e.kids.length<=1000)(hk:rows[n].e.kind=5)(hIH:∀i∈rows[n].e.kids,QN v0 vT (.slice WM rows.length capE) vK vR f w i (H i)):
  Calls prog 146 #[v0,vT,.slice WM rows.length capE,.int .i64 (n:Int),vK,vR,.agg #[.string f.a,.string f.b,.string f.r,.string f.c,.string f.d]] w fun e w'=>e=.returned (.bool (rows[n].e.kids.all H))/\ag w w':=by
 obtain⟨b,off,WO,⟨t0,t1,t2,t3,t4⟩,hbl,hok⟩:=jw.at0 hex hn;have HK:=aF hok.2;have HIH:=aF hIH;obtain⟨W0,hW0⟩:∃W0,W0=GR w f rows[n]:=⟨_,rfl⟩;have HB0:Hid (ag w W0):=by show Below _ _ _;rw[hW0];exact jW _ _ _
 have YJ:Hid (EnB W0 w.heap.size f rows[n]):=by show EnB _ _ _ _;rw[hW0];exact oh _ _ _
 have hk1:(rows[n].e.kind==1)=false:=by rw[hk];rfl
 have hk2:(rows[n].e.kind==2)=false:=by rw[hk];rfl
 have hk3:(rows[n].e.kind==3)=false:=by rw[hk];rfl
 have hk4:(rows[n].e.kind==4)=false:=by rw[hk];rfl
 have hk5:(rows[n].e.kind==5)=true:=by rw[hk];rfl
 have hn1:=bC n;have hn2:(n:Int)<(rows.length:Int):=by omega
 unfold GR at hW0;rw[WO]at HIH⊢;clear WO hex hk hIH hok;go_enter func146,ntmps146;go_wp2_with fail;rw[<-hW0];clear hW0 t0 t1 t2 t3 t4;go_loopw[21] (fun i wr=>∃k:Nat,k<=rows[n].e.kids.length/\i=.int .i64 k/\Hid ((rows[n].e.kids.drop k).all H=rows[n].e.kids.all H)/\Hid (ag W0 wr)) (fun i _=>rows[n].e.kids.length-(intOf i).toNat);case atStart=>exact⟨0,Vv _,rfl,rfl,Vs _ _⟩
 obtain⟨k,hk,rfl,HP,HB⟩:=hrel;have WP:Hid (ag w wr):=HB0.out.trans (HB.out.mono HB0.out.size);have hE:=YJ.out.below HB.out;have e0:=hE.f0;have e1:=hE.f1;have e2:=hE.f2;have e3:=hE.f3;have e4:=hE.f4;have y4:=hE.x4;have el2:w.heap.size+1<wr.heap.size:=hE.lt;clear hE;by_cases hlt:k<rows[n].e.kids.length
 ·obtain⟨bK,ZI,Xl,z0,hbK⟩:=wL.at0 (HK.out.below WP.out) hlt;rw[Xl]at y4;have hi1:=bC k;have hi2:(k:Int)<(rows[n].e.kids.length:Int):=by omega
  have HD:Hid (rows[n].e.kids.all H=(H rows[n].e.kids[k]&&(rows[n].e.kids.drop (k+1)).all H)):=by show _=_;rw[<-HP.out];exact NL H hlt
  have HC:=aF (HIH.out _ (Vp hlt));obtain⟨q,hq⟩:∃q,H rows[n].e.kids[k]=q:=⟨_,rfl⟩;rw[hq]at HC HD;have ZO:Hid (∀d os,Calls prog 146 #[v0,vT,.slice (some ⟨b,off,none⟩) rows.length capE,.int .i64 rows[n].e.kids[k],vK,vR,.agg #[.string f.a,.string f.b,.string f.r,.string f.c,.string f.d]] (grow (redrawn wr d) os) fun e w''=>e=.returned (.bool q)/\∃p:Regrown,w''=grow (redrawn wr p.d) p.os):=by
   refine dm fun W' hb=>?_;exact HC.out W' (WP.out.trans (hb.mono WP.out.size))
  clear Xl hq HC;go_wp2_with fail;replace e0:=cell_regrown e0;replace e1:=cell_regrown e1;replace e2:=cell_regrown e2;replace e3:=cell_regrown e3;replace e4:=cell_regrown e4;replace y4:=cell_regrown y4;replace z0:=cell_regrown z0;refine wp_region_quiet_below (by kernel_rfl) (by kernel_rfl) ?_
  repeat(go_big_quiet_step (exact ZO.out _ _))
  refine wpQuiet_nil ?_;rintro _ ⟨⟨dq,osq⟩,rfl⟩;have HB2:=aF (HB.out.trans ((below_regrown wr dq osq).mono HB.out.size));clear ZO e0 e1 e2 e3 e4 y4 z0;cases q;case false=>
   have HN:Hid (rows[n].e.kids.all H=false):=by show _=_;rw[HD.out];rfl
   go_wp2;go_ret;exact⟨by rw[HN.out];rfl,HB0.out.trans (HB2.out.mono HB0.out.size)⟩
  have WQ:Hid ((rows[n].e.kids.drop (k+1)).all H=rows[n].e.kids.all H):=by show _=_;rw[HD.out];rfl
  go_wp2;go_roundw;case rel=>exact⟨k+1,by omega,by go_num,WQ,HB2⟩
  simp[intOf]<;>omega
 have HN:Hid (rows[n].e.kids.all H=true):=by show _=_;rw[<-HP.out,VN (by omega)];rfl
 go_wp2;go_ret;exact⟨by rw[HN.out];rfl,WP.out⟩
theorem Ib(b0 b1:Bool)(v0 vT:Value)(WM:Q02)(capE:Nat)(rows:Q08)(n:Nat)(vK vR:Value)(f:Fc)(w:ae)(hex:jw w WM rows)(hn:n<rows.length)(hre:rows.length<=1000)(hkl:rows[n].e.kids.length<=1000)(hk2:2<=rows[n].e.kids.length)(hk:rows[n].e.kind=6)(hA:QN v0 vT (.slice WM rows.length capE) vK vR f w (rows[n].e.kids.getD 0 0) b0)(hB:QN v0 vT (.slice WM rows.length capE) vR vR f w (rows[n].e.kids.getD 1 0) b1):
  Calls prog 146 #[v0,vT,.slice WM rows.length capE,.int .i64 (n:Int),vK,vR,.agg #[.string f.a,.string f.b,.string f.r,.string f.c,.string f.d]] w fun e w'=>e=.returned (.bool (b0 && !b1))/\ag w w':=by
 obtain⟨b,off,WO,⟨t0,t1,t2,t3,t4⟩,hbl,hok⟩:=jw.at0 hex hn;have h0k:0<rows[n].e.kids.length:=by omega
 have h1k:1<rows[n].e.kids.length:=by omega
 obtain⟨bK,ZI,Xl,z0,hbK⟩:=wL.at0 hok.2 h0k;have z1:w.cell? ⟨bK,ZI+1,none⟩=some (.int .i64 rows[n].e.kids[1]):=by
  obtain⟨b',off',ZJ,z1,-⟩:=wL.at0 hok.2 h1k;rw[Xl]at ZJ;injection ZJ with e;injection e with e1 e2;rw[e1,e2];exact z1
 obtain⟨i0,hi0⟩:∃i,i=rows[n].e.kids[0]:=⟨_,rfl⟩;obtain⟨i1,hi1⟩:∃i,i=rows[n].e.kids[1]:=⟨_,rfl⟩;have g0:rows[n].e.kids.getD 0 0=i0:=by rw[hi0,V6,Vy h0k];rfl
 have g1:rows[n].e.kids.getD 1 0=i1:=by rw[hi1,V6,Vy h1k];rfl
 rw[g0]at hA;rw[g1]at hB;rw[<-hi0,Nat.add_zero]at z0;rw[<-hi1]at z1;clear hi0 hi1 g0 g1;obtain⟨kl,hkl'⟩:∃kl,kl=rows[n].e.kids.length:=⟨_,rfl⟩;obtain⟨cK,hcK⟩:∃c,c=rows[n].capK:=⟨_,rfl⟩;have hl0:(0:Int)<(kl:Int):=by omega
 have hl1:(1:Int)<(kl:Int):=by omega
 have h0k':0<kl:=by omega
 have h1k':1<kl:=by omega
 have HA:=aF hA;have Yu:=aF hB;obtain⟨W0,hW0⟩:∃W0,W0=GR w f rows[n]:=⟨_,rfl⟩;have HB0:Hid (ag w W0):=by show Below _ _ _;rw[hW0];exact jW _ _ _
 have YJ:Hid (EnB W0 w.heap.size f rows[n]):=by show EnB _ _ _ _;rw[hW0];exact oh _ _ _
 have HZ:Hid (W0.cell? ⟨bK,ZI,none⟩=some (.int .i64 i0)/\W0.cell? ⟨bK,ZI+1,none⟩=some (.int .i64 i1)/\bK<W0.heap.size):=⟨(HB0.out.cell (p:=⟨bK,ZI,none⟩) hbK).trans z0,(HB0.out.cell (p:=⟨bK,ZI+1,none⟩) hbK).trans z1,Vq hbK HB0.out.size⟩;have HX4:Hid (W0.cell? ⟨w.heap.size+1,4,none⟩=some (.slice (some ⟨bK,ZI,none⟩) kl cK)):=by show _=_;rw[YJ.out.x4,Xl,<-hkl',<-hcK]
 have hk1:(rows[n].e.kind==1)=false:=by rw[hk];rfl
 have hk2:(rows[n].e.kind==2)=false:=by rw[hk];rfl
 have hk3:(rows[n].e.kind==3)=false:=by rw[hk];rfl
 have hk4:(rows[n].e.kind==4)=false:=by rw[hk];rfl
 have hk5:(rows[n].e.kind==5)=false:=by rw[hk];rfl
 have hk6:(rows[n].e.kind==6)=true:=by rw[hk];rfl
 have hn1:=bC n;have hn2:(n:Int)<(rows.length:Int):=by omega
 unfold GR at hW0;rw[WO]at HA Yu⊢;clear WO hex hk hA hB hok z0 z1 Xl h0k h1k;go_enter func146,ntmps146;go_wp2_with fail;rw[<-hW0];clear hW0 t0 t1 t2 t3 t4 hk1 hk2 hk3 hk4 hk5 hk6 hkl' hcK;have HAA:Hid (∀d os,Calls prog 146 #[v0,vT,.slice (some ⟨b,off,none⟩) rows.length capE,.int .i64 i0,vK,vR,.agg #[.string f.a,.string f.b,.string f.r,.string f.c,.string f.d]] (grow (redrawn W0 d) os) fun e w''=>e=.returned (.bool b0)/\∃p:Regrown,w''=grow (redrawn W0 p.d) p.os):=by
  refine dm fun W' hb=>?_;exact HA.out _ (HB0.out.trans (hb.mono HB0.out.size))
 have HBQ:Hid (∀d os,Calls prog 146 #[v0,vT,.slice (some ⟨b,off,none⟩) rows.length capE,.int .i64 i1,vR,vR,.agg #[.string f.a,.string f.b,.string f.r,.string f.c,.string f.d]] (grow (redrawn W0 d) os) fun e w''=>e=.returned (.bool b1)/\∃p:Regrown,w''=grow (redrawn W0 p.d) p.os):=by
  refine dm fun W' hb=>?_;exact Yu.out _ (HB0.out.trans (hb.mono HB0.out.size))
 have c0:=cell_regrown YJ.out.f0;have c1:=cell_regrown YJ.out.f1;have c2:=cell_regrown YJ.out.f2;have c3:=cell_regrown YJ.out.f3;have c4:=cell_regrown YJ.out.f4;have x4:=cell_regrown HX4.out;have z0:=cell_regrown HZ.out.1;have z1:=cell_regrown HZ.out.2.1;clear HA Yu YJ;cases b0;case true=>
  refine wp_region_quiet_below (by kernel_rfl) (by kernel_rfl) ?_
  iterate 11 (go_big_quiet_step (exact HAA.out _ _))
  repeat(go_big_quiet_step (exact HBQ.out _ _))
  refine wpQuiet_nil ?_;rintro _ ⟨⟨dq,osq⟩,rfl⟩;go_wp2;go_ret;exact⟨rfl,HB0.out.trans ((below_regrown W0 dq osq).mono HB0.out.size)⟩
 refine wp_region_quiet_below (by kernel_rfl) (by kernel_rfl) ?_
 repeat(go_big_quiet_step (exact HAA.out _ _))
 refine wpQuiet_nil ?_;rintro _ ⟨⟨dq,osq⟩,rfl⟩;go_wp2;go_ret;exact⟨rfl,HB0.out.trans ((below_regrown W0 dq osq).mono HB0.out.size)⟩
structure YW(rows:Q08):Prop where
 len:rows.length<=1000
 kids:∀q∈rows,q.e.kids.length<=1000
 low:Lr (aj rows)
 two:∀e∈aj rows,e.kind=6->2<=e.kids.length
theorem YW.kid{rows:Q08}(h:YW rows){n:Nat}(hn:n<rows.length){i:Int}(hi:i∈rows[n].e.kids):0<=i/\i<(n:Int):=by
 have:=h.low n (by rw[aX];exact hn) i;have e:(aj rows)[n]'(by rw[aX];exact hn)=rows[n].e:=by simp[aj]
 rw[e]at this;exact this hi
theorem yw(v0:Value)(Yq:Q02)(XZ:Nat)(ts:Q05)(WM:Q02)(capE:Nat)(rows:Q08)(Yr:Q02)(X0:Nat)(truth:Q04)(f:Fc)(htl:ts.length<=1048576)(hN:YW rows)(htr:truth.length<=1048576):
  ∀(k n:Nat) (adK:Q02) (capK:Nat) (known:Q04) (w:World),n<k->n<rows.length->known.length<=1048576->HW w Yq ts WM rows adK known Yr truth ->
  Calls prog 146 #[v0,.slice Yq ts.length XZ,.slice WM rows.length capE,.int .i64 (n:Int),.slice adK known.length capK,.slice Yr truth.length X0,.agg #[.string f.a,.string f.b,.string f.r,.string f.c,.string f.d]] w fun e w'=>e=.returned (.bool (dK ts (aj rows) truth f k known n))/\ag w w'
 | 0,_,_,_,_,_,h,_,_,_=>absurd h (Wx _)
 | k+1,n,adK,capK,known,w,hk,hn,hkn,hW=>by
  have e:(aj rows)[n]?=some rows[n].e:=by simp[aj,hn]
  have Xv:∀(adK':Q02) (capK':Nat) (known':Q04),known'.length<=1048576->HW w Yq ts WM rows adK' known' Yr truth->∀i∈rows[n].e.kids,QN v0 (.slice Yq ts.length XZ) (.slice WM rows.length capE) (.slice adK' known'.length capK') (.slice Yr truth.length X0) f w i (dK ts (aj rows) truth f k known' i.toNat):=fun adK' capK' known' hl hW' i hi w1 hb1=>by
   have h1:=hN.kid hn hi;have h2:=yw v0 Yq XZ ts WM capE rows Yr X0 truth f htl hN htr k i.toNat adK' capK' known' w1 (by omega) (by omega) hl (hW'.below hb1);have e2:((i.toNat:Nat):Int)=i:=by omega
   rw[e2]at h2;exact h2
  unfold dK;rw[e];have hm:rows[n]∈rows:=Vp hn;have hme:rows[n].e∈aj rows:=VG.2 ⟨_,hm,rfl⟩;by_cases k1:rows[n].e.kind=1
  ·simp only[if_pos k1];exact Fz v0 Yq XZ ts WM capE rows n adK capK known Yr X0 truth f w hW hn hN.len hkn htl k1
  by_cases k2:rows[n].e.kind=2
  ·simp only[if_neg k1,if_pos k2];exact Ia v0 Yq XZ ts WM capE rows n adK capK known Yr X0 truth f w hW hn hN.len hkn k2
  by_cases k3:rows[n].e.kind=3
  ·simp only[if_neg k1,if_neg k2,if_pos k3];exact FB v0 Yq XZ ts WM capE rows n adK capK known Yr X0 truth f w hW hn hN.len hkn htl k3
  by_cases k4:rows[n].e.kind=4
  ·simp only[if_neg k1,if_neg k2,if_neg k3,if_pos k4];exact Cv (fun i=>dK ts (aj rows) truth f k known i.toNat) v0 _ WM capE rows n _ _ f w hW.ex hn hN.len (hN.kids _ hm) k4 (Xv adK capK known hkn hW)
  by_cases k5:rows[n].e.kind=5
  ·simp only[if_neg k1,if_neg k2,if_neg k3,if_neg k4,if_pos k5];exact FD (fun i=>dK ts (aj rows) truth f k known i.toNat) v0 _ WM capE rows n _ _ f w hW.ex hn hN.len (hN.kids _ hm) k5 (Xv adK capK known hkn hW)
  by_cases k6:rows[n].e.kind=6
  ·simp only[if_neg k1,if_neg k2,if_neg k3,if_neg k4,if_neg k5,if_pos k6];have h2:=hN.two _ hme k6;have hg:∀q,q<2->rows[n].e.kids.getD q 0∈rows[n].e.kids:=fun q hq=>by
    rw[V6,Vy (by omega)];exact Vp _
   exact Ib _ _ v0 _ WM capE rows n _ _ f w hW.ex hn hN.len (hN.kids _ hm) h2 k6 (Xv adK capK known hkn hW _ (hg 0 (by omega))) (Xv Yr X0 truth htr ⟨hW.tup,hW.ex,hW.tr,hW.tr⟩ _ (hg 1 (by omega)))
  simp only[if_neg k1,if_neg k2,if_neg k3,if_neg k4,if_neg k5,if_neg k6];exact Ko v0 Yq XZ ts WM capE rows n _ _ f w hW.ex hn hN.len k1 k2 k3 k4 k5 k6
end Go.Proofs.YtojjoblnpldniaaGreat
