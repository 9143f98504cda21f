/- The program's questions of a node that is told by tuples, or goes over a relation. -/
import Derived.Test.YtojjoblnpldniaaGreatSq
import Derived.Test.YtojjoblnpldniaaGreatJ24
open Go.Proofs.Tryz
set_option maxHeartbeats 80000000
namespace Go.Proofs.YtojjoblnpldniaaGreat
set_option linter.unusedVariables false
set_option maxRecDepth 100000
open ChangeShapes WideShapes ChangeAt RowKit Maps
open Pl
def Cx(out:Q04)(f:Fc):Option Value:=if df out f then some (.agg #[]) else none
theorem QX(out:Q04)(f:Fc):(Cx out f).isSome=df out f:=by unfold Cx;cases df out f<;>rfl
theorem Sv(out:Q04)(f:Fc):∀v,Cx out f=some v->v=.agg #[]:=fun v h=>by
 unfold Cx at h;split at h
 ·injection h with h;exact h.symm
 cases h
theorem wF(b n:Nat)(out:Q04)(f:Fc)(w:ae)(hf:f.fits)(hV:aJ oG prog 52 w b n (Cx out)):
  Calls prog 76 #[.map (some b),.agg #[.string f.a,.string f.b,.string f.r,.string f.c,.string f.d]] w fun e w'=>e=.returned (.bool (df out f))/\ag w w':=by
 have h:=H9 b n (Cx out) f w hf hV (Sv out f);rw[QX]at h;exact h
theorem Ij{w:ae}{bp np:Nat}{Mp:K3->Option Value}{E:List (K3×Tp)}(h:G.Grp qy prog 273 29 6 Tp.row w bp np Mp E)(k:K3):∃ad cap,(Mp k).getD (.slice none 0 0)=.slice ad (G.lookL E k).length cap/\Sl w ad (G.lookL E k):=by
 obtain⟨ad,cap,e,hs,-⟩:=PO (ts:=G.lookL E k) (DW h k) rfl;exact⟨ad,cap,e,hs⟩
theorem Ec(p:Tp->Bool){ts:Q05}{k:Nat}(h:k<ts.length):(ts.drop k).any p=(p ts[k] || (ts.drop (k+1)).any p):=by rw[VZ h];rfl
theorem Ik{ts:Q05}{k:K3}{t:Tp}(h:t∈G.lookL (dN ts) k):t∈ts:=by
 have:=G.mem_lookL.1 h;unfold dN at this;obtain⟨x,hx,e⟩:=VG.1 this;injection e with e1 e2;rw[<-e2];exact hx
theorem Il(ts:Q05)(k:K3):(G.lookL (dN ts) k).length<=ts.length:=by
 unfold G.lookL dN;exact Vz (WE _ _) (by simp)
section
variable  {w:World}{rs:Q06}{D br bp bt bK nK:Nat}{n1:Int}{nr:Nat}{Mr:KL->Option Value}{Er:List (KL×RR)}{ts:Q05}{xo xu:Q0a}{np:Nat}{Mp:K3->Option Value}{vo vu:Value}{out:Q04}{f:Fc}
theorem Cy(hD:DatA w rs D br bp bt n1 nr Mr Er (dN ts) xo xu np Mp vo vu)(hK:aJ oG prog 52 w bK nK (Cx out))(hf:f.fits)(hts:∀t∈ts,t.fits)(htl:ts.length<=1000):
  Calls prog 284 #[.pointer (some ⟨D,0,none⟩),.agg #[.string f.a,.string f.b,.string f.r,.string f.c,.string f.d],.map (some bK)] w fun e w'=>e=.returned (.bool (eG ts out f))/\ag w w':=by
 obtain⟨kl,hkl⟩:=Ep (f.a,f.b,f.r) hf.1 hf.2.1 hf.2.2.1;obtain⟨adL,capL,hgd,hsl⟩:=Ij hD.dat.told (f.a,f.b,f.r);have HL:=aF (Kr ts out f);have hll:=Il ts (f.a,f.b,f.r);have HFL:Hid (∀t∈G.lookL (dN ts) (f.a,f.b,f.r),t.fits):=fun t ht=>hts t (Ik ht);obtain⟨L,YV⟩:∃L,L=G.lookL (dN ts) (f.a,f.b,f.r):=⟨_,rfl⟩;rw[<-YV]at hgd hsl HL hll HFL;obtain⟨W0,hW0⟩:∃W0,W0=w.alloc (.cells #[.string f.a,.string f.b,.string f.r,.string f.c,.string f.d] 52):=⟨_,rfl⟩;have HB0:=sH hW0;have c0:W0.cell? ⟨w.heap.size,0,none⟩=some (.string f.a):=by rw[hW0];simp
 have c1:W0.cell? ⟨w.heap.size,1,none⟩=some (.string f.b):=by rw[hW0];simp
 have c2:W0.cell? ⟨w.heap.size,2,none⟩=some (.string f.r):=by rw[hW0];simp
 have c3:W0.cell? ⟨w.heap.size,3,none⟩=some (.string f.c):=by rw[hW0];simp
 have c4:W0.cell? ⟨w.heap.size,4,none⟩=some (.string f.d):=by rw[hW0];simp
 have d3:=HB0.out.cell (p:=⟨D,3,none⟩) hD.dat.lt |>.trans hD.dat.c3;have hlk:∀m,(Instr.lookup 191 (.map (some bp)) (.agg #[.string f.a,.string f.b,.string f.r]) false).run prog (W0.drewN m)=.ok (.slice adL L.length capL) (W0.drewN m):=fun m=>by
  have h:=((hD.dat.told.map.below HB0.out).below (below_drewN (Vs _ _) m)).look (t:=191) (e:=25) Ti underlying191 (Kb _) (x:=(f.a,f.b,f.r)) hkl;rw[hgd]at h;exact h
 have Zc:=aF hsl;have HKN:=aF hK;have HF:=aF hf;have XR:Hid (W0.cell? ⟨w.heap.size,3,none⟩=some (.string f.c)/\W0.cell? ⟨w.heap.size,4,none⟩=some (.string f.d)/\w.heap.size<W0.heap.size):=⟨c3,c4,by rw[hW0];simp⟩;clear hsl hK hf YV hgd hkl;go_enter func284,ntmps284;go_wp2_with fail;rw[<-hW0];clear hW0;go_quiet (fail);clear c0 c1 c2 c3 c4 d3 hlk;go_wp2;go_loopw[20] (fun i wr=>∃k:Nat,k<=L.length/\i=.int .i64 k/\Hid ((L.drop k).any (ny out f)=L.any (ny out f))/\Hid (ag w wr)/\Hid (wr.cell? ⟨w.heap.size,3,none⟩=some (.string f.c)/\wr.cell? ⟨w.heap.size,4,none⟩=some (.string f.d)/\w.heap.size<wr.heap.size)) (fun i _=>L.length-(intOf i).toNat);case atStart=>exact⟨0,Vv _,rfl,rfl,below_drewN HB0.out _,XR⟩
 clear XR HB0;obtain⟨k,hk,rfl,HP,HB,HC⟩:=hrel;by_cases hlt:k<L.length
 ·obtain⟨bT,offT,Za,⟨a0,a1,a2,a3,a4,a5⟩,hbT⟩:=Sl.at0 (Zc.out.below HB.out) hlt;obtain⟨c3,c4,cl⟩:=HC.out;have hi1:=bC k;have hi2:(k:Int)<(L.length:Int):=by omega
  have HTF:=aF (HFL.out _ (Vp hlt));have HD2:Hid (L.any (ny out f)=(ny out f L[k] || (L.drop (k+1)).any (ny out f))):=by show _=_;rw[<-HP.out];exact Ec _ hlt
  obtain⟨t,ht⟩:∃t,t=L[k]:=⟨_,rfl⟩;rw[<-ht]at a0 a1 a2 a3 a4 a5 HTF HD2;clear ht;obtain⟨W1,hW1⟩:∃W1,W1=wr.alloc (.cells #[.string t.a,.string t.b,.string t.r,.string t.c,.string t.d,.string t.s] 29):=⟨_,rfl⟩;have XY:=sH hW1;have HB1:=aF (HB.out.trans (XY.out.mono HB.out.size));have XC:Hid (W1.cell? ⟨w.heap.size,3,none⟩=some (.string f.c)/\W1.cell? ⟨w.heap.size,4,none⟩=some (.string f.d)/\w.heap.size<W1.heap.size):=⟨mK XY.out cl c3,mK XY.out cl c4,Vq cl XY.out.size⟩;subst Za;cases hs:t.s.toList.isEmpty;case true=>
   have hs2:(t.s.toList==[])=true:=by rw[rW];exact hs
   have HTT:Hid (ny out f t=Ay t.c t.d f.c f.d):=by show _=_;unfold ny;rw[if_pos hs];rfl
   cases hu:Ay t.c t.d f.c f.d;case true=>
    have heq:=jM _ _ _ _ hu;have HN:Hid (eG ts out f=true):=by show _=_;rw[HL.out,HD2.out,HTT.out,hu];rfl
    clear hu hs;go_wp2;rw[<-hW1];go_ret;exact⟨by rw[HN.out];rfl,HB1.out⟩
   have heq:=jM _ _ _ _ hu;have WQ:Hid ((L.drop (k+1)).any (ny out f)=L.any (ny out f)):=by show _=_;rw[HD2.out,HTT.out,hu];rfl
   clear hu hs;go_wp2;rw[<-hW1];clear hW1;go_roundw;case rel=>exact⟨k+1,by omega,by go_num,WQ,HB1,XC⟩
   simp[intOf]<;>omega
  have hs2:(t.s.toList==[])=false:=by rw[rW];exact hs
  have HTT:Hid (ny out f t=df out ⟨t.c,t.d,t.s,f.c,f.d⟩):=by show _=_;unfold ny;rw[if_neg (by rw[hs];decide)]
  clear hs;go_wp2_with fail;rw[<-hW1];clear hW1;refine(wF bK nK out ⟨t.c,t.d,t.s,f.c,f.d⟩ W1 ⟨HTF.out.2.2.2.1,HTF.out.2.2.2.2.1,HTF.out.2.2.2.2.2,HF.out.2.2.2.1,HF.out.2.2.2.2⟩ (HKN.out.below HB1.out)).mono ?_;rintro e w2 ⟨rfl,hb2⟩;have HB2:=aF (HB1.out.trans (hb2.mono HB1.out.size));have Xg:Hid (w2.cell? ⟨w.heap.size,3,none⟩=some (.string f.c)/\w2.cell? ⟨w.heap.size,4,none⟩=some (.string f.d)/\w.heap.size<w2.heap.size):=⟨mK hb2 XC.out.2.2 XC.out.1,mK hb2 XC.out.2.2 XC.out.2.1,Vq XC.out.2.2 hb2.size⟩;clear hb2;cases hh:df out ⟨t.c,t.d,t.s,f.c,f.d⟩;case true=>
   have HN:Hid (eG ts out f=true):=by show _=_;rw[HL.out,HD2.out,HTT.out,hh];rfl
   go_wp2;go_ret;exact⟨by rw[HN.out];rfl,HB2.out⟩
  have WQ:Hid ((L.drop (k+1)).any (ny out f)=L.any (ny out f)):=by show _=_;rw[HD2.out,HTT.out,hh];rfl
  go_wp2;go_roundw;case rel=>exact⟨k+1,by omega,by go_num,WQ,HB2,Xg⟩
  simp[intOf]<;>omega
 have HN:Hid (eG ts out f=false):=by show _=_;rw[HL.out,<-HP.out,VN (by omega)];rfl
 go_wp2;go_ret;exact⟨by rw[HN.out];rfl,HB.out⟩
theorem Cz(hD:DatA w rs D br bp bt n1 nr Mr Er (dN ts) xo xu np Mp vo vu)(hK:aJ oG prog 52 w bK nK (Cx out))(x:ER)(hxf:x.e.over.size<=maxLen/\x.e.name.size<=maxLen)(hf:f.fits)(hts:∀t∈ts,t.fits)(htl:ts.length<=1000):
  Calls prog 285 #[.pointer (some ⟨D,0,none⟩),.agg #[.int .i64 x.e.kind,.slice x.adA x.e.allow.length x.capA,.string x.e.over,.string x.e.name,.slice x.adK x.e.kids.length x.capK],.agg #[.string f.a,.string f.b,.string f.r,.string f.c,.string f.d],.map (some bK)] w fun e w'=>e=.returned (.bool (fQ ts out x.e.over x.e.name f))/\ag w w':=by
 obtain⟨kl,hkl⟩:=Ep (f.a,f.b,x.e.over) hf.1 hf.2.1 hxf.1;obtain⟨adL,capL,hgd,hsl⟩:=Ij hD.dat.told (f.a,f.b,x.e.over);have HL:=aF (Kt ts out x.e.over x.e.name f);have hll:=Il ts (f.a,f.b,x.e.over);have HFL:Hid (∀t∈G.lookL (dN ts) (f.a,f.b,x.e.over),t.fits):=fun t ht=>hts t (Ik ht);obtain⟨L,YV⟩:∃L,L=G.lookL (dN ts) (f.a,f.b,x.e.over):=⟨_,rfl⟩;rw[<-YV]at hgd hsl HL hll HFL;obtain⟨W0,hW0⟩:∃W0,W0=(w.alloc (.cells #[.int .i64 x.e.kind,.slice x.adA x.e.allow.length x.capA,.string x.e.over,.string x.e.name,.slice x.adK x.e.kids.length x.capK] 43)).alloc (.cells #[.string f.a,.string f.b,.string f.r,.string f.c,.string f.d] 52):=⟨_,rfl⟩;have HB0:Hid (ag w W0):=by show Below _ _ _;rw[hW0];exact((Vs _ _).alloc (Vr _) _).alloc (by simp) _
 have c0:W0.cell? ⟨w.heap.size+1,0,none⟩=some (.string f.a):=by rw[hW0];simp
 have c1:W0.cell? ⟨w.heap.size+1,1,none⟩=some (.string f.b):=by rw[hW0];simp
 have c2:W0.cell? ⟨w.heap.size+1,2,none⟩=some (.string f.r):=by rw[hW0];simp
 have c3:W0.cell? ⟨w.heap.size+1,3,none⟩=some (.string f.c):=by rw[hW0];simp
 have c4:W0.cell? ⟨w.heap.size+1,4,none⟩=some (.string f.d):=by rw[hW0];simp
 have x2:W0.cell? ⟨w.heap.size,2,none⟩=some (.string x.e.over):=by rw[hW0];simp
 have x3:W0.cell? ⟨w.heap.size,3,none⟩=some (.string x.e.name):=by rw[hW0];simp
 have d3:=HB0.out.cell (p:=⟨D,3,none⟩) hD.dat.lt |>.trans hD.dat.c3;have hlk:∀m,(Instr.lookup 191 (.map (some bp)) (.agg #[.string f.a,.string f.b,.string x.e.over]) false).run prog (W0.drewN m)=.ok (.slice adL L.length capL) (W0.drewN m):=fun m=>by
  have h:=((hD.dat.told.map.below HB0.out).below (below_drewN (Vs _ _) m)).look (t:=191) (e:=25) Ti underlying191 (Kb _) (x:=(f.a,f.b,x.e.over)) hkl;rw[hgd]at h;exact h
 have Zc:=aF hsl;have HKN:=aF hK;have HF:=aF hf;have Zh:=aF hxf;have XR:Hid (W0.cell? ⟨w.heap.size+1,3,none⟩=some (.string f.c)/\W0.cell? ⟨w.heap.size+1,4,none⟩=some (.string f.d)/\W0.cell? ⟨w.heap.size,3,none⟩=some (.string x.e.name)/\w.heap.size+1<W0.heap.size):=⟨c3,c4,x3,by rw[hW0];simp⟩;clear hsl hK hf YV hgd hkl;go_enter func285,ntmps285;go_wp2_with fail;rw[<-hW0];clear hW0;go_quiet (fail);clear c0 c1 c2 c3 c4 d3 x2 x3 hlk;go_wp2;go_loopw[22] (fun i wr=>∃k:Nat,k<=L.length/\i=.int .i64 k/\Hid ((L.drop k).any (wD out x.e.name f)=L.any (wD out x.e.name f))/\Hid (ag w wr)/\Hid (wr.cell? ⟨w.heap.size+1,3,none⟩=some (.string f.c)/\wr.cell? ⟨w.heap.size+1,4,none⟩=some (.string f.d)/\wr.cell? ⟨w.heap.size,3,none⟩=some (.string x.e.name)/\w.heap.size+1<wr.heap.size)) (fun i _=>L.length-(intOf i).toNat);case atStart=>exact⟨0,Vv _,rfl,rfl,below_drewN HB0.out _,XR⟩
 clear XR HB0;obtain⟨k,hk,rfl,HP,HB,HC⟩:=hrel;by_cases hlt:k<L.length
 ·obtain⟨bT,offT,Za,⟨a0,a1,a2,a3,a4,a5⟩,hbT⟩:=Sl.at0 (Zc.out.below HB.out) hlt;obtain⟨c3,c4,x3,cl⟩:=HC.out;have cl0:w.heap.size<wr.heap.size:=by omega
  have hi1:=bC k;have hi2:(k:Int)<(L.length:Int):=by omega
  have HTF:=aF (HFL.out _ (Vp hlt));have HD2:Hid (L.any (wD out x.e.name f)=(wD out x.e.name f L[k] || (L.drop (k+1)).any (wD out x.e.name f))):=by show _=_;rw[<-HP.out];exact Ec _ hlt
  obtain⟨t,ht⟩:∃t,t=L[k]:=⟨_,rfl⟩;rw[<-ht]at a0 a1 a2 a3 a4 a5 HTF HD2;clear ht;obtain⟨W1,hW1⟩:∃W1,W1=wr.alloc (.cells #[.string t.a,.string t.b,.string t.r,.string t.c,.string t.d,.string t.s] 29):=⟨_,rfl⟩;have XY:=sH hW1;have HB1:=aF (HB.out.trans (XY.out.mono HB.out.size));have XC:Hid (W1.cell? ⟨w.heap.size+1,3,none⟩=some (.string f.c)/\W1.cell? ⟨w.heap.size+1,4,none⟩=some (.string f.d)/\W1.cell? ⟨w.heap.size,3,none⟩=some (.string x.e.name)/\w.heap.size+1<W1.heap.size):=⟨mK XY.out cl c3,mK XY.out cl c4,mK XY.out cl0 x3,Vq cl XY.out.size⟩;subst Za;have HTT:Hid (wD out x.e.name f t=df out ⟨t.c,t.d,x.e.name,f.c,f.d⟩):=rfl;go_wp2_with fail;rw[<-hW1];clear hW1;refine(wF bK nK out ⟨t.c,t.d,x.e.name,f.c,f.d⟩ W1 ⟨HTF.out.2.2.2.1,HTF.out.2.2.2.2.1,Zh.out.2,HF.out.2.2.2.1,HF.out.2.2.2.2⟩ (HKN.out.below HB1.out)).mono ?_;rintro e w2 ⟨rfl,hb2⟩;have HB2:=aF (HB1.out.trans (hb2.mono HB1.out.size));have Xg:Hid (w2.cell? ⟨w.heap.size+1,3,none⟩=some (.string f.c)/\w2.cell? ⟨w.heap.size+1,4,none⟩=some (.string f.d)/\w2.cell? ⟨w.heap.size,3,none⟩=some (.string x.e.name)/\w.heap.size+1<w2.heap.size):=⟨mK hb2 XC.out.2.2.2 XC.out.1,mK hb2 XC.out.2.2.2 XC.out.2.1,mK hb2 (by have:=XC.out.2.2.2;omega) XC.out.2.2.1,Vq XC.out.2.2.2 hb2.size⟩;clear hb2;cases hh:df out ⟨t.c,t.d,x.e.name,f.c,f.d⟩;case true=>
   have HN:Hid (fQ ts out x.e.over x.e.name f=true):=by show _=_;rw[HL.out,HD2.out,HTT.out,hh];rfl
   go_wp2;go_ret;exact⟨by rw[HN.out];rfl,HB2.out⟩
  have WQ:Hid ((L.drop (k+1)).any (wD out x.e.name f)=L.any (wD out x.e.name f)):=by show _=_;rw[HD2.out,HTT.out,hh];rfl
  go_wp2;go_roundw;case rel=>exact⟨k+1,by omega,by go_num,WQ,HB2,Xg⟩
  simp[intOf]<;>omega
 have HN:Hid (fQ ts out x.e.over x.e.name f=false):=by show _=_;rw[HL.out,<-HP.out,VN (by omega)];rfl
 go_wp2;go_ret;exact⟨by rw[HN.out];rfl,HB.out⟩
end
def yJ(B:Nat):Value:=.func (Fn.func 282) #[] #[.pointer (some ⟨B,0,none⟩),.pointer (some ⟨B+1,0,none⟩),.pointer (some ⟨B+1+1,0,none⟩),.pointer (some ⟨B+1+1+1,0,none⟩)]
def IX(w:World)(D:Nat)(vE:Value)(f:Fc)(bK:Nat)(x:ER):World :=
 (((((w.alloc (.cells #[.pointer (some ⟨D,0,none⟩)] 92)).alloc (.cells #[vE] 37)).alloc (.cells #[.string f.a,.string f.b,.string f.r,.string f.c,.string f.d] 52)).alloc (.cells #[.map (some bK)] 115)).alloc (.cells #[.int .i64 x.e.kind,.slice x.adA x.e.allow.length x.capA,.string x.e.over,.string x.e.name,.slice x.adK x.e.kids.length x.capK] 43)).alloc (.cells #[yJ w.heap.size] 358)
structure NdB(w:World)(B D:Nat)(vE:Value)(f:Fc)(bK:Nat)(x:ER):Prop where
 lt:B+1+1+1+1+1<w.heap.size
 d:w.cell? ⟨B,0,none⟩=some (.pointer (some ⟨D,0,none⟩))
 e:w.cell? ⟨B+1,0,none⟩=some vE
 f0:w.cell? ⟨B+1+1,0,none⟩=some (.string f.a)
 f1:w.cell? ⟨B+1+1,1,none⟩=some (.string f.b)
 f2:w.cell? ⟨B+1+1,2,none⟩=some (.string f.r)
 f3:w.cell? ⟨B+1+1,3,none⟩=some (.string f.c)
 f4:w.cell? ⟨B+1+1,4,none⟩=some (.string f.d)
 k:w.cell? ⟨B+1+1+1,0,none⟩=some (.map (some bK))
 x0:w.cell? ⟨B+1+1+1+1,0,none⟩=some (.int .i64 x.e.kind)
 x1:w.cell? ⟨B+1+1+1+1,1,none⟩=some (.slice x.adA x.e.allow.length x.capA)
 x2:w.cell? ⟨B+1+1+1+1,2,none⟩=some (.string x.e.over)
 x3:w.cell? ⟨B+1+1+1+1,3,none⟩=some (.string x.e.name)
 x4:w.cell? ⟨B+1+1+1+1,4,none⟩=some (.slice x.adK x.e.kids.length x.capK)
 v:w.cell? ⟨B+1+1+1+1+1,0,none⟩=some (yJ B)
theorem NdB.below{w w':ae}{B D:Nat}{vE:Value}{f:Fc}{bK:Nat}{x:ER}(h:NdB w B D vE f bK x)(hB:ag w w'):NdB w' B D vE f bK x:=by
 have hl:=h.lt;have c:∀i o,i<=5->w'.cell? ⟨B+i,o,none⟩=w.cell? ⟨B+i,o,none⟩:=fun i o hi=>hB.cell (p:=⟨B+i,o,none⟩) (show B+i<_ by omega);have c0:∀o,w'.cell? ⟨B,o,none⟩=w.cell? ⟨B,o,none⟩:=fun o=>hB.cell (p:=⟨B,o,none⟩) (show B<_ by omega);exact⟨Vq hl hB.size,(c0 _).trans h.d,(c 1 _ (by omega)).trans h.e,(c 2 _ (by omega)).trans h.f0,(c 2 _ (by omega)).trans h.f1,(c 2 _ (by omega)).trans h.f2,(c 2 _ (by omega)).trans h.f3,(c 2 _ (by omega)).trans h.f4,(c 3 _ (by omega)).trans h.k,(c 4 _ (by omega)).trans h.x0,(c 4 _ (by omega)).trans h.x1,(c 4 _ (by omega)).trans h.x2,(c 4 _ (by omega)).trans h.x3,(c 4 _ (by omega)).trans h.x4,(c 5 _ (by omega)).trans h.v⟩
theorem lQ(w:ae)(D:Nat)(vE:Value)(f:Fc)(bK:Nat)(x:ER):ag w (IX w D vE f bK x):=by
 unfold IX;exact((((((Vs _ _).alloc (Vr _) _).alloc (by simp) _).alloc (by simp;omega) _).alloc (by simp;omega) _).alloc (by simp;omega) _).alloc (by simp;omega) _
theorem oI(w:ae)(cs:Array Value)(T:TypeId)(o:Nat):(w.alloc (.cells cs T)).cell? ⟨w.heap.size,o,none⟩=cs[o]?:=World.cell?_alloc_mark w cs T (0,0) o
theorem lT(w:ae)(D:Nat)(vE:Value)(f:Fc)(bK:Nat)(x:ER):NdB (IX w D vE f bK x) w.heap.size D vE f bK x:=by
 unfold IX;obtain⟨w1,h1⟩:∃u,u=w.alloc (.cells #[.pointer (some ⟨D,0,none⟩)] 92):=⟨_,rfl⟩;have s1:w1.heap.size=w.heap.size+1:=by rw[h1,World.size_alloc]
 have b1:ag w w1:=by rw[h1];exact(Vs _ _).alloc (Vr _) _
 obtain⟨w2,h2⟩:∃u,u=w1.alloc (.cells #[vE] 37):=⟨_,rfl⟩;have s2:w2.heap.size=w.heap.size+1+1:=by rw[h2,World.size_alloc,s1]
 have b2:ag w1 w2:=by rw[h2];exact(Vs _ _).alloc (Vr _) _
 obtain⟨w3,h3⟩:∃u,u=w2.alloc (.cells #[.string f.a,.string f.b,.string f.r,.string f.c,.string f.d] 52):=⟨_,rfl⟩;have s3:w3.heap.size=w.heap.size+1+1+1:=by rw[h3,World.size_alloc,s2]
 have b3:ag w2 w3:=by rw[h3];exact(Vs _ _).alloc (Vr _) _
 obtain⟨w4,h4⟩:∃u,u=w3.alloc (.cells #[.map (some bK)] 115):=⟨_,rfl⟩;have s4:w4.heap.size=w.heap.size+1+1+1+1:=by rw[h4,World.size_alloc,s3]
 have b4:ag w3 w4:=by rw[h4];exact(Vs _ _).alloc (Vr _) _
 obtain⟨w5,h5⟩:∃u,u=w4.alloc (.cells #[.int .i64 x.e.kind,.slice x.adA x.e.allow.length x.capA,.string x.e.over,.string x.e.name,.slice x.adK x.e.kids.length x.capK] 43):=⟨_,rfl⟩;have s5:w5.heap.size=w.heap.size+1+1+1+1+1:=by rw[h5,World.size_alloc,s4]
 have b5:ag w4 w5:=by rw[h5];exact(Vs _ _).alloc (Vr _) _
 obtain⟨w6,h6⟩:∃u,u=w5.alloc (.cells #[yJ w.heap.size] 358):=⟨_,rfl⟩;have s6:w6.heap.size=w.heap.size+1+1+1+1+1+1:=by rw[h6,World.size_alloc,s5]
 have b6:ag w5 w6:=by rw[h6];exact(Vs _ _).alloc (Vr _) _
 rw[<-h1,<-h2,<-h3,<-h4,<-h5,<-h6];have c0:∀o,w6.cell? ⟨w.heap.size,o,none⟩=(#[.pointer (some ⟨D,0,none⟩)]:Array Value)[o]?:=fun o=>by
  have e:w1.cell? ⟨w.heap.size,o,none⟩=(#[.pointer (some ⟨D,0,none⟩)]:Array Value)[o]?:=by rw[h1];exact oI _ _ _ o
  rw[b6.cell (p:=⟨w.heap.size,o,none⟩) (show w.heap.size<_ by omega),b5.cell (p:=⟨w.heap.size,o,none⟩) (show w.heap.size<_ by omega),b4.cell (p:=⟨w.heap.size,o,none⟩) (show w.heap.size<_ by omega),b3.cell (p:=⟨w.heap.size,o,none⟩) (show w.heap.size<_ by omega),b2.cell (p:=⟨w.heap.size,o,none⟩) (show w.heap.size<_ by omega)];exact e
 have c1:∀o,w6.cell? ⟨w.heap.size+1,o,none⟩=(#[vE]:Array Value)[o]?:=fun o=>by
  have e:w2.cell? ⟨w.heap.size+1,o,none⟩=(#[vE]:Array Value)[o]?:=by rw[h2,<-s1];exact oI _ _ _ o
  rw[b6.cell (p:=⟨w.heap.size+1,o,none⟩) (show w.heap.size+1<_ by omega),b5.cell (p:=⟨w.heap.size+1,o,none⟩) (show w.heap.size+1<_ by omega),b4.cell (p:=⟨w.heap.size+1,o,none⟩) (show w.heap.size+1<_ by omega),b3.cell (p:=⟨w.heap.size+1,o,none⟩) (show w.heap.size+1<_ by omega)];exact e
 have c2:∀o,w6.cell? ⟨w.heap.size+1+1,o,none⟩=(#[.string f.a,.string f.b,.string f.r,.string f.c,.string f.d]:Array Value)[o]?:=fun o=>by
  have e:w3.cell? ⟨w.heap.size+1+1,o,none⟩=(#[.string f.a,.string f.b,.string f.r,.string f.c,.string f.d]:Array Value)[o]?:=by rw[h3,<-s2];exact oI _ _ _ o
  rw[b6.cell (p:=⟨w.heap.size+1+1,o,none⟩) (show w.heap.size+1+1<_ by omega),b5.cell (p:=⟨w.heap.size+1+1,o,none⟩) (show w.heap.size+1+1<_ by omega),b4.cell (p:=⟨w.heap.size+1+1,o,none⟩) (show w.heap.size+1+1<_ by omega)];exact e
 have c3:∀o,w6.cell? ⟨w.heap.size+1+1+1,o,none⟩=(#[.map (some bK)]:Array Value)[o]?:=fun o=>by
  have e:w4.cell? ⟨w.heap.size+1+1+1,o,none⟩=(#[.map (some bK)]:Array Value)[o]?:=by rw[h4,<-s3];exact oI _ _ _ o
  rw[b6.cell (p:=⟨w.heap.size+1+1+1,o,none⟩) (show w.heap.size+1+1+1<_ by omega),b5.cell (p:=⟨w.heap.size+1+1+1,o,none⟩) (show w.heap.size+1+1+1<_ by omega)];exact e
 have c4:∀o,w6.cell? ⟨w.heap.size+1+1+1+1,o,none⟩=(#[.int .i64 x.e.kind,.slice x.adA x.e.allow.length x.capA,.string x.e.over,.string x.e.name,.slice x.adK x.e.kids.length x.capK]:Array Value)[o]?:=fun o=>by
  have e:w5.cell? ⟨w.heap.size+1+1+1+1,o,none⟩=(#[.int .i64 x.e.kind,.slice x.adA x.e.allow.length x.capA,.string x.e.over,.string x.e.name,.slice x.adK x.e.kids.length x.capK]:Array Value)[o]?:=by rw[h5,<-s4];exact oI _ _ _ o
  rw[b6.cell (p:=⟨w.heap.size+1+1+1+1,o,none⟩) (show w.heap.size+1+1+1+1<_ by omega)];exact e
 have c5:∀o,w6.cell? ⟨w.heap.size+1+1+1+1+1,o,none⟩=(#[yJ w.heap.size]:Array Value)[o]?:=fun o=>by
  have e:w6.cell? ⟨w.heap.size+1+1+1+1+1,o,none⟩=(#[yJ w.heap.size]:Array Value)[o]?:=by rw[h6,<-s5];exact oI _ _ _ o
  exact e
 exact⟨by omega,c0 0,c1 0,c2 0,c2 1,c2 2,c2 3,c2 4,c3 0,c4 0,c4 1,c4 2,c4 3,c4 4,c5 0⟩
def KC(D:Nat)(vE:Value)(f:Fc)(bK:Nat)(w:World)(i:Int)(b:Bool):Prop:=∀w1:World,ag w w1->Calls prog 232 #[.pointer (some ⟨D,0,none⟩),vE,.int .i64 i,.agg #[.string f.a,.string f.b,.string f.r,.string f.c,.string f.d],.map (some bK)] w1 fun e w'=>e=.returned (.bool b)/\ag w1 w'
theorem pK{w w1:ae}{B D:Nat}{vE:Value}{f:Fc}{bK:Nat}{x:ER}{i:Int}{b:Bool}(hK:KC D vE f bK w i b)(hb:ag w w1)(hB:NdB w1 B D vE f bK x):
  Calls prog 282 #[.int .i64 i,.pointer (some ⟨B,0,none⟩),.pointer (some ⟨B+1,0,none⟩),.pointer (some ⟨B+1+1,0,none⟩),.pointer (some ⟨B+1+1+1,0,none⟩)] w1 fun e w'=>e=.returned (.bool b)/\ag w1 w':=by
 have HC:=aF (hK w1 hb);obtain⟨-,d,e,f0,f1,f2,f3,f4,k,-⟩:=hB;clear hK;go_enter func282,ntmps282;go_wp2_with fail;refine HC.out.mono ?_;rintro e w2 ⟨rfl,hb2⟩;have HB:=aF hb2;clear hb2;go_wp2;go_ret;exact⟨rfl,HB.out⟩
theorem wG{w w1:ae}{B D:Nat}{vE:Value}{f:Fc}{bK:Nat}{x:ER}{i:Int}{b:Bool}(hK:KC D vE f bK w i b)(hb:ag w w1)(hB:NdB w1 B D vE f bK x):
  Calls prog 283 #[.int .i64 i,.pointer (some ⟨B+1+1+1+1+1,0,none⟩)] w1 fun e w'=>e=.returned (.bool (!b))/\ag w1 w':=by
 have HC:=aF (pK hK hb hB);have hv:=hB.v;unfold yJ at hv;clear hK hB;go_enter func283,ntmps283;go_wp2_with fail;refine HC.out.mono ?_;rintro e w2 ⟨rfl,hb2⟩;have HB:=aF hb2;clear hb2;go_wp2;go_ret;exact⟨rfl,HB.out⟩
theorem Ur(xs:Array Value)(u:ae):(callFunc 282 xs).run prog u=.ok (.enter 282 xs) u:=by kernel_rfl
theorem Us(xs:Array Value)(u:ae):(callFunc 283 xs).run prog u=.ok (.enter 283 xs) u:=by kernel_rfl
theorem NS(p:Int->Bool){zs:List Int}{k:Nat}(h:k<zs.length):(zs.drop k).any p=(p zs[k] || (zs.drop (k+1)).any p):=by rw[VZ h];rfl
theorem KD(FC:Nat)(rc cp:Array Value)(p:Int->Bool)(ad:Q02)(cap:Nat)(xs:List Int)(w:ae)(hlen:xs.length<=1048576)(hs:wL w ad xs)
  (hrun:∀(ys:Array Value) (u:World),(callFunc FC ys).run prog u=.ok (.enter FC ys) u) (hp:∀x∈xs,∀w1:World,ag w w1->Calls prog FC (rc.push (.int .i64 x)++cp) w1 fun e w'=>e=.returned (.bool (p x))/\ag w1 w') :
  Calls prog 318 #[.slice ad xs.length cap,.func (Fn.func FC) rc cp] w fun e w'=>(∃r:Int,e=.returned (.int .i64 r)/\decide (0<=r)=xs.any p)/\ag w w':=by
 have HS:=aF hs;have HRUN:=aF hrun;have HP:=aF hp;clear hs hrun hp;have HD:Hid (∀k (h:k<xs.length),(xs.drop k).any p=(p xs[k] || (xs.drop (k+1)).any p)):=fun k h=>NS p h;go_enter func318,ntmps318;go_wp2_with fail;go_loopw[8] (fun i wr=>∃k:Nat,k<=xs.length/\i=.int .i64 k/\Hid ((xs.drop k).any p=xs.any p)/\Hid (ag w wr)) (fun i _=>xs.length-(intOf i).toNat);case atStart=>exact⟨0,Vv _,rfl,rfl,Vs _ _⟩
 obtain⟨k,hk,rfl,HQ,HB⟩:=hrel;by_cases hlt:k<xs.length
 ·obtain⟨b,off,WO,t0,hbl⟩:=wL.at0 (HS.out.below HB.out) hlt;have HM:Hid (xs[k]∈xs):=Vp hlt;have hk1:=bC k;have hk2:(k:Int)<(xs.length:Int):=by omega
  have HD2:=aF (HD.out k hlt);subst WO;go_wp2_with fail;rw[HRUN.out,Oper.upon_enter];refine(HP.out _ HM.out _ HB.out).mono ?_;rintro e w1 ⟨rfl,hb1⟩;have HB1:=iJ HB hb1;clear hb1 t0;cases he:p xs[k];case true=>
   have HN:Hid (xs.any p=true):=by show _=_;rw[<-HQ.out,HD2.out,he];rfl
   go_wp2;go_ret;exact⟨⟨k,rfl,by rw[HN.out];simp⟩,HB1.out⟩
  have HQ2:Hid ((xs.drop (k+1)).any p=xs.any p):=by show _=_;rw[<-HQ.out,HD2.out,he];rfl
  go_wp2;go_roundw;case rel=>exact⟨k+1,by omega,by go_num,HQ2,HB1⟩
  simp[intOf]<;>omega
 have HN:Hid (xs.any p=false):=by show _=_;rw[<-HQ.out,VN (by omega)];rfl
 go_wp2;go_ret;exact⟨⟨-1,rfl,by rw[HN.out];simp⟩,HB.out⟩
theorem sZ(FC:Nat)(rc cp:Array Value)(p:Int->Bool)(ad:Q02)(cap:Nat)(xs:List Int)(w:ae)(hlen:xs.length<=1048576)(hs:wL w ad xs)
  (hrun:∀(ys:Array Value) (u:World),(callFunc FC ys).run prog u=.ok (.enter FC ys) u) (hp:∀x∈xs,∀w1:World,ag w w1->Calls prog FC (rc.push (.int .i64 x)++cp) w1 fun e w'=>e=.returned (.bool (p x))/\ag w1 w') :
  Calls prog 286 #[.slice ad xs.length cap,.func (Fn.func FC) rc cp] w fun e w'=>e=.returned (.bool (xs.any p))/\ag w w':=by
 have HC:=aF (KD FC rc cp p ad cap xs w hlen hs hrun hp);clear hs hrun hp;go_enter func286,ntmps286;go_wp2_with fail;refine HC.out.mono ?_;rintro e w' ⟨⟨r,rfl,hr⟩,hbx⟩;have HR:=aF hr;clear hr;go_wp2;go_ret;exact⟨by rw[<-HR.out];rfl,hbx⟩
end Go.Proofs.YtojjoblnpldniaaGreat
