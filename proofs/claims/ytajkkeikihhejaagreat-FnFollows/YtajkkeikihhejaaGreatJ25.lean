/- The key of a fact: five strings; is a fact in a set of facts? -/
import Derived.Test.YtajkkeikihhejaaGreatSq
import Derived.Test.YtajkkeikihhejaaGreatJ17
open Go.Proofs.Tryz
set_option maxHeartbeats 80000000
namespace Go.Proofs.YtajkkeikihhejaaGreat
open ChangeShapes WideShapes ChangeAt RowKit Maps
def Fc.fits(t:Fc):Prop:=t.a.size<=maxLen/\t.b.size<=maxLen/\t.r.size<=maxLen/\t.c.size<=maxLen/\t.d.size<=maxLen
def jO(k:Fc):Value:=.agg #[.string k.a,.string k.b,.string k.r,.string k.c,.string k.d]
theorem Hl(x y:Fc)(h:jO x=jO y):x=y:=by
 unfold jO at h;injection h with h;have h1:=congrArg Array.toList h;simp at h1;obtain⟨xa,xb,xr,xc,xd⟩:=x;obtain⟨ya,yb,yr,yc,yd⟩:=y;simp only at h1;obtain⟨rfl,rfl,rfl,rfl,rfl⟩:=h1;rfl
theorem Qb:laidOutB prog=true:=by kernel_rfl
theorem TJ:(29:TypeId)<prog.types.size:=of_decide_eq_true (by kernel_rfl)
theorem RH:(match prog.underlying 29 with|some (.array _ _)|some (.struct _)=>true|_=>false)=true:=by rw[underlying29]
set_option maxRecDepth 100000 in
theorem RI:WideMaps.KeyLaw prog 29:=deep_law_laid Qb (m:=3) (by omega) TJ (by kernel_rfl) RH
theorem J3:Keyed prog 29:=Keyed.of_law RI
theorem RJ:prog.keyType 29=true:=by kernel_rfl
theorem Hm:prog.cellsOf 29=5:=by kernel_rfl
theorem Nf:prog.cellsOf 27=2:=by kernel_rfl
theorem Ng:prog.cellsOf 9=1:=by kernel_rfl
theorem Nh:2<=prog.types.size:=of_decide_eq_true (by kernel_rfl)
theorem J4:∃n,prog.types.size=n+2:=⟨prog.types.size-2,by have:=Nh;omega⟩
set_option maxRecDepth 100000 in
theorem BG(k:Fc)(h:k.fits):∃kl,keyOf prog 29 (jO k)=some kl:=by
 obtain⟨n,hn⟩:=J4;obtain⟨h0,h1,h2,h3,h4⟩:=h;refine⟨.string (keyBytes [.string k.a.data.toList,.string k.b.data.toList,.string k.r.data.toList,.string k.c.data.toList,.string k.d.data.toList]),?_⟩;unfold keyOf;rw[underlying29];simp only[RJ,jO,Value.formed,underlying29,Hm,hn,Value.cells];simp +decide [Program.keyLits,underlying29,underlying27,underlying9,Hm,Nf,Ng,h0,h1,h2,h3,h4]
theorem Qc(w:af):(zeroValue 113).run prog w=.ok (.agg #[]) w:=by kernel_rfl
theorem Ho(b n:Nat)(M:Fc->Option Value)(f:Fc)(w:af)(hf:f.fits)(hV:aK jO prog 29 w b n M)(hM:∀v,M f=some v->v=.agg #[]):
  Calls prog 65 #[.map (some b),.agg #[.string f.a,.string f.b,.string f.r,.string f.c,.string f.d]] w fun e w'=>e=.returned (.bool (M f).isSome)/\ae w w':=by
 obtain⟨kl,hkl⟩:=BG f hf;have Xh:Hid (keyOf prog 29 (jO f)=some kl):=hkl;have HM:Hid ((M f).getD (.agg #[])=.agg #[]):=by
  show _=_;cases e:M f with
  | none=>rfl
  | some v=>exact hM v e
 obtain⟨W,hW⟩:∃W,W=w.alloc (.cells #[.string f.a,.string f.b,.string f.r,.string f.c,.string f.d] 29):=⟨_,rfl⟩;have HB:=mI hW;have HV:=aC (hV.below HB.out);have HB2:Hid (ae w (W.alloc (.cells #[] 113))):=HB.out.alloc HB.out.size _;clear hkl hV hM;go_enter func65,ntmps65;go_wp2_with(at_lookup;rw[<-hW];clear hW;refine dQ _ rfl _ _ 107 rfl 29 113 J3 underlying107 (Qc _) b n M rfl HV.out f kl rfl Xh.out ?_;rw[HM.out]);go_ret;exact⟨rfl,HB2.out⟩
open Pl
set_option linter.unusedVariables false
set_option maxRecDepth 100000
theorem Hq(v0:Value)(X8:Q02)(XA:Nat)(ts:Q05)(V5:Q02)(capE:Nat)(rows:Q08)(n:Nat)(adK:Q02)(capK:Nat)(known:Q04)(Xl:Q02)(WO:Nat)(truth:Q04)(f:Fc)(w:af)(hW:HW w X8 ts V5 rows adK known Xl truth)(hn:n<rows.length)(hre:rows.length<=1000)(hkl:known.length<=1048576)(hk:rows[n].e.kind=2):
  Calls prog 98 #[v0,.slice X8 ts.length XA,.slice V5 rows.length capE,.int .i64 (n:Int),.slice adK known.length capK,.slice Xl truth.length WO,.agg #[.string f.a,.string f.b,.string f.r,.string f.c,.string f.d]] w fun e w'=>e=.returned (.bool (bB known ⟨f.a,f.b,rows[n].e.name,f.c,f.d⟩))/\ae w w':=by
 obtain⟨b,off,V6,⟨t0,t1,t2,t3,t4⟩,hbl,-⟩:=gZ.at0 hW.ex hn;have HW0:=aj hW;obtain⟨W0,hW0⟩:∃W0,W0=vS w f rows[n]:=⟨_,rfl⟩;have HB0:Hid (ae w W0):=by show Below _ _ _;rw[hW0];exact eu _ _ _
 have hk1:(rows[n].e.kind==1)=false:=by rw[hk];rfl
 have hk2:(rows[n].e.kind==2)=true:=by rw[hk];rfl
 have hn1:=bG n;have hn2:(n:Int)<(rows.length:Int):=by omega
 unfold vS at hW0;rw[V6];clear V6 hW hk;go_enter func98,ntmps98;go_wp2_with fail;rw[<-hW0];refine(rU adK capK known ⟨f.a,f.b,rows[n].e.name,f.c,f.d⟩ W0 hkl (HW0.out.kn.below HB0.out)).mono ?_;rintro e w1 ⟨rfl,hb1⟩;have HB1:=aj (HB0.out.trans (hb1.mono HB0.out.size));clear hb1 hW0;go_wp2;go_ret;exact⟨rfl,HB1.out⟩
theorem J5(v0:Value)(X8:Q02)(XA:Nat)(ts:Q05)(V5:Q02)(capE:Nat)(rows:Q08)(n:Nat)(vK vR:Value)(f:Fc)(w:af)(hex:gZ w V5 rows)(hn:n<rows.length)(hre:rows.length<=1000)(k1:rows[n].e.kind≠1)(k2:rows[n].e.kind≠2)(k3:rows[n].e.kind≠3)(k4:rows[n].e.kind≠4)(k5:rows[n].e.kind≠5)(k6:rows[n].e.kind≠6):
  Calls prog 98 #[v0,.slice X8 ts.length XA,.slice V5 rows.length capE,.int .i64 (n:Int),vK,vR,.agg #[.string f.a,.string f.b,.string f.r,.string f.c,.string f.d]] w fun e w'=>e=.returned (.bool false)/\ae w w':=by
 obtain⟨b,off,V6,⟨t0,t1,t2,t3,t4⟩,hbl,-⟩:=gZ.at0 hex hn;have HB0:=aj (eu w f rows[n]);unfold vS at HB0;have hk1:(rows[n].e.kind==1)=false:=by simpa using k1
 have hk2:(rows[n].e.kind==2)=false:=by simpa using k2
 have hk3:(rows[n].e.kind==3)=false:=by simpa using k3
 have hk4:(rows[n].e.kind==4)=false:=by simpa using k4
 have hk5:(rows[n].e.kind==5)=false:=by simpa using k5
 have hk6:(rows[n].e.kind==6)=false:=by simpa using k6
 have hn1:=bG n;have hn2:(n:Int)<(rows.length:Int):=by omega
 rw[V6];clear V6 hex k1 k2 k3 k4 k5 k6;go_enter func98,ntmps98;go_wp2;go_ret;exact⟨rfl,HB0.out⟩
theorem Fw(v0:Value)(X8:Q02)(XA:Nat)(ts:Q05)(V5:Q02)(capE:Nat)(rows:Q08)(n:Nat)(adK:Q02)(capK:Nat)(known:Q04)(Xl:Q02)(WO:Nat)(truth:Q04)(f:Fc)(w:af)(hW:HW w X8 ts V5 rows adK known Xl truth)(hn:n<rows.length)(hre:rows.length<=1000)(hkl:known.length<=1048576)(htl:ts.length<=1048576)(hk:rows[n].e.kind=1):
  Calls prog 98 #[v0,.slice X8 ts.length XA,.slice V5 rows.length capE,.int .i64 (n:Int),.slice adK known.length capK,.slice Xl truth.length WO,.agg #[.string f.a,.string f.b,.string f.r,.string f.c,.string f.d]] w fun e w'=>e=.returned (.bool (eY ts known f))/\ae w w':=by
 obtain⟨b,off,V6,⟨t0,t1,t2,t3,t4⟩,hbl,-⟩:=gZ.at0 hW.ex hn;have HW0:=aj hW;obtain⟨W0,hW0⟩:∃W0,W0=vS w f rows[n]:=⟨_,rfl⟩;have HB0:Hid (ae w W0):=by show Below _ _ _;rw[hW0];exact eu _ _ _
 have YA:Hid (EnB W0 w.heap.size f rows[n]):=by show EnB _ _ _ _;rw[hW0];exact gp _ _ _
 have hk1:(rows[n].e.kind==1)=true:=by rw[hk];rfl
 have hn1:=bG n;have hn2:(n:Int)<(rows.length:Int):=by omega
 unfold vS at hW0;rw[V6];clear V6 hW hk;go_enter func98,ntmps98;go_wp2_with fail;rw[<-hW0];clear hW0 t0 t1 t2 t3 t4;go_loopw[16] (fun i wr=>∃k:Nat,k<=ts.length/\i=.int .i64 k/\Hid (eY (ts.drop k) known f=eY ts known f)/\Hid (ae W0 wr)) (fun i _=>ts.length-(intOf i).toNat);case atStart=>exact⟨0,UY _,rfl,rfl,UV _ _⟩
 obtain⟨k,hk,rfl,HP,HB⟩:=hrel;have V9:Hid (ae w wr):=HB0.out.trans (HB.out.mono HB0.out.size);by_cases hlt:k<ts.length
 ·obtain⟨bT,offT,XR,⟨a0,a1,a2,a3,a4,a5⟩,hbT⟩:=Sl.at0 (HW0.out.tup.below V9.out) hlt;have hE:=YA.out.below HB.out;have e0:=hE.f0;have e1:=hE.f1;have e2:=hE.f2;have e3:=hE.f3;have e4:=hE.f4;have el:w.heap.size<wr.heap.size:=by have:=hE.lt;omega
  have hi1:=bG k;have hi2:(k:Int)<(ts.length:Int):=by omega
  obtain⟨W1,hW1⟩:∃W1,W1=wr.alloc (.cells #[.string ts[k].a,.string ts[k].b,.string ts[k].r,.string ts[k].c,.string ts[k].d,.string ts[k].s] 46):=⟨_,rfl⟩;have WM:=mI hW1;have HB1:Hid (ae W0 W1):=HB.out.trans (WM.out.mono HB.out.size);have Xi:Hid (ae w W1):=V9.out.trans (WM.out.mono V9.out.size);have HD:Hid (eY ts known f=(AV known f ts[k] || eY (ts.drop (k+1)) known f)):=by show _=_;rw[<-HP.out];exact JB hlt known f
  rw[XR];clear XR hE;cases ho:yw ts[k].a ts[k].b f.a f.b;case false=>
   have hneq:=GK _ _ _ _ ho;have Wj:Hid (eY (ts.drop (k+1)) known f=eY ts known f):=by
    show _=_;unfold yw at ho;rw[HD.out];unfold AV;rw[ho];rfl
   clear ho;go_wp2;rw[<-hW1];clear hW1;go_roundw;case rel=>exact⟨k+1,by omega,by go_num,Wj,HB1⟩
   simp[intOf]<;>omega
  have hneq:=GK _ _ _ _ ho;have HO:Hid (yw ts[k].a ts[k].b f.a f.b=true):=ho;clear ho;cases hr:(ts[k].r.toList==f.r.toList);case false=>
   have Wj:Hid (eY (ts.drop (k+1)) known f=eY ts known f):=by
    show _=_;have h2:=HO.out;unfold yw at h2;rw[HD.out];unfold AV;rw[h2,hr];rfl
   go_wp2;rw[<-hW1];clear hW1;go_roundw;case rel=>exact⟨k+1,by omega,by go_num,Wj,HB1⟩
   simp[intOf]<;>omega
  have HT:Hid (AV known f ts[k]=(if ts[k].s.toList.isEmpty then ts[k].c.toList==f.c.toList&&ts[k].d.toList==f.d.toList else bB known ⟨ts[k].c,ts[k].d,ts[k].s,f.c,f.d⟩)):=by
   show _=_;have h2:=HO.out;unfold yw at h2;unfold AV;rw[h2,hr];rfl
  cases hs:ts[k].s.toList.isEmpty;case true=>
   have hs2:(ts[k].s.toList==[])=true:=by rw[mZ];exact hs
   cases hu:yw ts[k].c ts[k].d f.c f.d;case true=>
    have heq:=iD _ _ _ _ hu;have HN:Hid (eY ts known f=true):=by
     show _=_;unfold yw at hu;rw[HD.out,HT.out,if_pos hs,hu];rfl
    clear hu hs;go_wp2;rw[<-hW1];go_ret;exact⟨by rw[HN.out];rfl,Xi.out⟩
   have heq:=iD _ _ _ _ hu;have Wj:Hid (eY (ts.drop (k+1)) known f=eY ts known f):=by
    show _=_;unfold yw at hu;rw[HD.out,HT.out,if_pos hs,hu];rfl
   clear hu hs;go_wp2;rw[<-hW1];clear hW1;go_roundw;case rel=>exact⟨k+1,by omega,by go_num,Wj,HB1⟩
   simp[intOf]<;>omega
  have hs2:(ts[k].s.toList==[])=false:=by rw[mZ];exact hs
  have HT2:Hid (AV known f ts[k]=bB known ⟨ts[k].c,ts[k].d,ts[k].s,f.c,f.d⟩):=by show _=_;rw[HT.out,if_neg (by rw[hs];decide)]
  clear hs;go_wp2_with fail;rw[<-hW1];clear hW1;refine(rU adK capK known ⟨ts[k].c,ts[k].d,ts[k].s,f.c,f.d⟩ W1 hkl (HW0.out.kn.below Xi.out)).mono ?_;rintro e w2 ⟨rfl,hb2⟩;have HB2:=jR HB1 hb2;have HBW2:=jR Xi hb2;clear hb2;cases hh:bB known ⟨ts[k].c,ts[k].d,ts[k].s,f.c,f.d⟩;case true=>
   have HN:Hid (eY ts known f=true):=by show _=_;rw[HD.out,HT2.out,hh];rfl
   go_wp2;go_ret;exact⟨by rw[HN.out];rfl,HBW2.out⟩
  have Wj:Hid (eY (ts.drop (k+1)) known f=eY ts known f):=by show _=_;rw[HD.out,HT2.out,hh];rfl
  go_wp2;go_roundw;case rel=>exact⟨k+1,by omega,by go_num,Wj,HB2⟩
  simp[intOf]<;>omega
 have HN:Hid (eY ts known f=false):=by show _=_;rw[<-HP.out,Vf (by omega)];rfl
 go_wp2;go_ret;exact⟨by rw[HN.out];rfl,V9.out⟩
end Go.Proofs.YtajkkeikihhejaaGreat
