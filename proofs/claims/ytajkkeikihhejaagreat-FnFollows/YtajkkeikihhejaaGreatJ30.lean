/- The program's questions of a node that is told by tuples, or goes over a relation. -/
import Derived.Test.YtajkkeikihhejaaGreatSq
import Derived.Test.YtajkkeikihhejaaGreatJ27
import Derived.Laws.EntriesVeiled
open Go.Proofs.Tryz
set_option maxHeartbeats 80000000
namespace Go.Proofs.YtajkkeikihhejaaGreat
set_option linter.unusedVariables false
set_option maxRecDepth 100000
open ChangeShapes WideShapes ChangeAt RowKit Maps
open Pl
def wL(out:Q04)(f:Fc):Option Value:=if bB out f then some (.agg #[]) else none
theorem Qs(out:Q04)(f:Fc):(wL out f).isSome=bB out f:=by unfold wL;cases bB out f<;>rfl
theorem RX(out:Q04)(f:Fc):∀v,wL out f=some v->v=.agg #[]:=fun v h=>by
 unfold wL at h;split at h
 ·injection h with h;exact h.symm
 cases h
theorem rq(b n:Nat)(out:Q04)(f:Fc)(w:af)(hf:f.fits)(hV:aK jO prog 29 w b n (wL out)):
  Calls prog 65 #[.map (some b),.agg #[.string f.a,.string f.b,.string f.r,.string f.c,.string f.d]] w fun e w'=>e=.returned (.bool (bB out f))/\ae w w':=by
 have h:=Ho b n (wL out) f w hf hV (RX out f);rw[Qs]at h;exact h
theorem wM{w:af}{bp np:Nat}{Mp:K3->Option Value}{E:List (K3×Tp)}(h:G.Grp qA prog 223 46 6 Tp.row w bp np Mp E)(k:K3):∃ad cap,(Mp k).getD (.slice none 0 0)=.slice ad (G.lookL E k).length cap/\Sl w ad (G.lookL E k):=by
 obtain⟨ad,cap,e,hs,-⟩:=O0 (ts:=G.lookL E k) (DN h k) rfl;exact⟨ad,cap,e,hs⟩
theorem Ed(p:Tp->Bool){ts:Q05}{k:Nat}(h:k<ts.length):(ts.drop k).any p=(p ts[k] || (ts.drop (k+1)).any p):=by rw[Vl h];rfl
theorem wN{ts:Q05}{k:K3}{t:Tp}(h:t∈G.lookL (bn ts) k):t∈ts:=by
 have:=G.mem_lookL.1 h;unfold bn at this;obtain⟨x,hx,e⟩:=U7.1 this;injection e with e1 e2;rw[<-e2];exact hx
theorem wO(ts:Q05)(k:K3):(G.lookL (bn ts) k).length<=ts.length:=by
 unfold G.lookL bn;exact U0 (VS _ _) (by simp)
section
variable  {w:World}{rs:Q06}{D br bp bt bK nK:Nat}{n1:Int}{nr:Nat}{Mr:KL->Option Value}{Er:List (KL×RR)}{ts:Q05}{xo xu:Q0a}{np:Nat}{Mp:K3->Option Value}{vo vu:Value}{out:Q04}{f:Fc}
theorem Ct(hD:DatA w rs D br bp bt n1 nr Mr Er (bn ts) xo xu np Mp vo vu)(hK:aK jO prog 29 w bK nK (wL out))(hf:f.fits)(hts:∀t∈ts,t.fits)(htl:ts.length<=1000):
  Calls prog 213 #[.pointer (some ⟨D,0,none⟩),.agg #[.string f.a,.string f.b,.string f.r,.string f.c,.string f.d],.map (some bK)] w fun e w'=>e=.returned (.bool (eY ts out f))/\ae w w':=by
 obtain⟨kl,hkl⟩:=uU (f.a,f.b,f.r) hf.1 hf.2.1 hf.2.2.1;obtain⟨adL,Yb,hgd,hsl⟩:=wM hD.dat.told (f.a,f.b,f.r);have HL:=aj (Ka ts out f);have hll:=wO ts (f.a,f.b,f.r);have HFL:Hid (∀t∈G.lookL (bn ts) (f.a,f.b,f.r),t.fits):=fun t ht=>hts t (wN ht);obtain⟨L,XH⟩:∃L,L=G.lookL (bn ts) (f.a,f.b,f.r):=⟨_,rfl⟩;rw[<-XH]at hgd hsl HL hll HFL;obtain⟨W0,hW0⟩:∃W0,W0=w.alloc (.cells #[.string f.a,.string f.b,.string f.r,.string f.c,.string f.d] 29):=⟨_,rfl⟩;have HB0:=mI hW0;have c0:W0.cell? ⟨w.heap.size,0,none⟩=some (.string f.a):=by rw[hW0];simp
 have c1:W0.cell? ⟨w.heap.size,1,none⟩=some (.string f.b):=by rw[hW0];simp
 have c2:W0.cell? ⟨w.heap.size,2,none⟩=some (.string f.r):=by rw[hW0];simp
 have c3:W0.cell? ⟨w.heap.size,3,none⟩=some (.string f.c):=by rw[hW0];simp
 have c4:W0.cell? ⟨w.heap.size,4,none⟩=some (.string f.d):=by rw[hW0];simp
 have d3:=HB0.out.cell (p:=⟨D,3,none⟩) hD.dat.lt |>.trans hD.dat.c3;have hlk:∀m,(Instr.lookup 166 (.map (some bp)) (.agg #[.string f.a,.string f.b,.string f.r]) false).run prog (W0.drewN m)=.ok (.slice adL L.length Yb) (W0.drewN m):=fun m=>by
  have h:=((hD.dat.told.map.below HB0.out).below (below_drewN (UV _ _) m)).look (t:=166) (e:=25) KQ underlying166 (Bn _) (x:=(f.a,f.b,f.r)) hkl;rw[hgd]at h;exact h
 have Yu:=aj hsl;have HKN:=aj hK;have HF:=aj hf;have Xg:Hid (W0.cell? ⟨w.heap.size,3,none⟩=some (.string f.c)/\W0.cell? ⟨w.heap.size,4,none⟩=some (.string f.d)/\w.heap.size<W0.heap.size):=⟨c3,c4,by rw[hW0];simp⟩;clear hsl hK hf XH hgd hkl;go_enter func213,ntmps213;go_wp2_with fail;rw[<-hW0];clear hW0;go_quiet (fail);clear c0 c1 c2 c3 c4 d3 hlk;go_wp2;go_loopw[20] (fun i wr=>∃k:Nat,k<=L.length/\i=.int .i64 k/\Hid ((L.drop k).any (nA out f)=L.any (nA out f))/\Hid (ae w wr)/\Hid (wr.cell? ⟨w.heap.size,3,none⟩=some (.string f.c)/\wr.cell? ⟨w.heap.size,4,none⟩=some (.string f.d)/\w.heap.size<wr.heap.size)) (fun i _=>L.length-(intOf i).toNat);case atStart=>exact⟨0,UY _,rfl,rfl,below_drewN HB0.out _,Xg⟩
 clear Xg HB0;obtain⟨k,hk,rfl,HP,HB,HC⟩:=hrel;by_cases hlt:k<L.length
 ·obtain⟨bT,offT,XR,⟨a0,a1,a2,a3,a4,a5⟩,hbT⟩:=Sl.at0 (Yu.out.below HB.out) hlt;obtain⟨c3,c4,cl⟩:=HC.out;have hi1:=bG k;have hi2:(k:Int)<(L.length:Int):=by omega
  have HTF:=aj (HFL.out _ (UR hlt));have HD2:Hid (L.any (nA out f)=(nA out f L[k] || (L.drop (k+1)).any (nA out f))):=by show _=_;rw[<-HP.out];exact Ed _ hlt
  obtain⟨t,ht⟩:∃t,t=L[k]:=⟨_,rfl⟩;rw[<-ht]at a0 a1 a2 a3 a4 a5 HTF HD2;clear ht;obtain⟨W1,hW1⟩:∃W1,W1=wr.alloc (.cells #[.string t.a,.string t.b,.string t.r,.string t.c,.string t.d,.string t.s] 46):=⟨_,rfl⟩;have WM:=mI hW1;have HB1:=aj (HB.out.trans (WM.out.mono HB.out.size));have Xr:Hid (W1.cell? ⟨w.heap.size,3,none⟩=some (.string f.c)/\W1.cell? ⟨w.heap.size,4,none⟩=some (.string f.d)/\w.heap.size<W1.heap.size):=⟨mK WM.out cl c3,mK WM.out cl c4,UT cl WM.out.size⟩;subst XR;cases hs:t.s.toList.isEmpty;case true=>
   have hs2:(t.s.toList==[])=true:=by rw[mZ];exact hs
   have HTT:Hid (nA out f t=yw t.c t.d f.c f.d):=by show _=_;unfold nA;rw[if_pos hs];rfl
   cases hu:yw t.c t.d f.c f.d;case true=>
    have heq:=iD _ _ _ _ hu;have HN:Hid (eY ts out f=true):=by show _=_;rw[HL.out,HD2.out,HTT.out,hu];rfl
    clear hu hs;go_wp2;rw[<-hW1];go_ret;exact⟨by rw[HN.out];rfl,HB1.out⟩
   have heq:=iD _ _ _ _ hu;have Wj:Hid ((L.drop (k+1)).any (nA out f)=L.any (nA out f)):=by show _=_;rw[HD2.out,HTT.out,hu];rfl
   clear hu hs;go_wp2;rw[<-hW1];clear hW1;go_roundw;case rel=>exact⟨k+1,by omega,by go_num,Wj,HB1,Xr⟩
   simp[intOf]<;>omega
  have hs2:(t.s.toList==[])=false:=by rw[mZ];exact hs
  have HTT:Hid (nA out f t=bB out ⟨t.c,t.d,t.s,f.c,f.d⟩):=by show _=_;unfold nA;rw[if_neg (by rw[hs];decide)]
  clear hs;go_wp2_with fail;rw[<-hW1];clear hW1;refine(rq bK nK out ⟨t.c,t.d,t.s,f.c,f.d⟩ W1 ⟨HTF.out.2.2.2.1,HTF.out.2.2.2.2.1,HTF.out.2.2.2.2.2,HF.out.2.2.2.1,HF.out.2.2.2.2⟩ (HKN.out.below HB1.out)).mono ?_;rintro e w2 ⟨rfl,hb2⟩;have HB2:=aj (HB1.out.trans (hb2.mono HB1.out.size));have WV:Hid (w2.cell? ⟨w.heap.size,3,none⟩=some (.string f.c)/\w2.cell? ⟨w.heap.size,4,none⟩=some (.string f.d)/\w.heap.size<w2.heap.size):=⟨mK hb2 Xr.out.2.2 Xr.out.1,mK hb2 Xr.out.2.2 Xr.out.2.1,UT Xr.out.2.2 hb2.size⟩;clear hb2;cases hh:bB out ⟨t.c,t.d,t.s,f.c,f.d⟩;case true=>
   have HN:Hid (eY ts out f=true):=by show _=_;rw[HL.out,HD2.out,HTT.out,hh];rfl
   go_wp2;go_ret;exact⟨by rw[HN.out];rfl,HB2.out⟩
  have Wj:Hid ((L.drop (k+1)).any (nA out f)=L.any (nA out f)):=by show _=_;rw[HD2.out,HTT.out,hh];rfl
  go_wp2;go_roundw;case rel=>exact⟨k+1,by omega,by go_num,Wj,HB2,WV⟩
  simp[intOf]<;>omega
 have HN:Hid (eY ts out f=false):=by show _=_;rw[HL.out,<-HP.out,Vf (by omega)];rfl
 go_wp2;go_ret;exact⟨by rw[HN.out];rfl,HB.out⟩
theorem Cu(hD:DatA w rs D br bp bt n1 nr Mr Er (bn ts) xo xu np Mp vo vu)(hK:aK jO prog 29 w bK nK (wL out))(x:ER)(hxf:x.e.over.size<=maxLen/\x.e.name.size<=maxLen)(hf:f.fits)(hts:∀t∈ts,t.fits)(htl:ts.length<=1000):
  Calls prog 214 #[.pointer (some ⟨D,0,none⟩),.agg #[.int .i64 x.e.kind,.slice x.adA x.e.allow.length x.capA,.string x.e.over,.string x.e.name,.slice x.adK x.e.kids.length x.capK],.agg #[.string f.a,.string f.b,.string f.r,.string f.c,.string f.d],.map (some bK)] w fun e w'=>e=.returned (.bool (gm ts out x.e.over x.e.name f))/\ae w w':=by
 obtain⟨kl,hkl⟩:=uU (f.a,f.b,x.e.over) hf.1 hf.2.1 hxf.1;obtain⟨adL,Yb,hgd,hsl⟩:=wM hD.dat.told (f.a,f.b,x.e.over);have HL:=aj (Kb ts out x.e.over x.e.name f);have hll:=wO ts (f.a,f.b,x.e.over);have HFL:Hid (∀t∈G.lookL (bn ts) (f.a,f.b,x.e.over),t.fits):=fun t ht=>hts t (wN ht);obtain⟨L,XH⟩:∃L,L=G.lookL (bn ts) (f.a,f.b,x.e.over):=⟨_,rfl⟩;rw[<-XH]at hgd hsl HL hll HFL;obtain⟨W0,hW0⟩:∃W0,W0=(w.alloc (.cells #[.int .i64 x.e.kind,.slice x.adA x.e.allow.length x.capA,.string x.e.over,.string x.e.name,.slice x.adK x.e.kids.length x.capK] 39)).alloc (.cells #[.string f.a,.string f.b,.string f.r,.string f.c,.string f.d] 29):=⟨_,rfl⟩;have HB0:Hid (ae w W0):=by show Below _ _ _;rw[hW0];exact((UV _ _).alloc (UU _) _).alloc (by simp) _
 have c0:W0.cell? ⟨w.heap.size+1,0,none⟩=some (.string f.a):=by rw[hW0];simp
 have c1:W0.cell? ⟨w.heap.size+1,1,none⟩=some (.string f.b):=by rw[hW0];simp
 have c2:W0.cell? ⟨w.heap.size+1,2,none⟩=some (.string f.r):=by rw[hW0];simp
 have c3:W0.cell? ⟨w.heap.size+1,3,none⟩=some (.string f.c):=by rw[hW0];simp
 have c4:W0.cell? ⟨w.heap.size+1,4,none⟩=some (.string f.d):=by rw[hW0];simp
 have x2:W0.cell? ⟨w.heap.size,2,none⟩=some (.string x.e.over):=by rw[hW0];simp
 have x3:W0.cell? ⟨w.heap.size,3,none⟩=some (.string x.e.name):=by rw[hW0];simp
 have d3:=HB0.out.cell (p:=⟨D,3,none⟩) hD.dat.lt |>.trans hD.dat.c3;have hlk:∀m,(Instr.lookup 166 (.map (some bp)) (.agg #[.string f.a,.string f.b,.string x.e.over]) false).run prog (W0.drewN m)=.ok (.slice adL L.length Yb) (W0.drewN m):=fun m=>by
  have h:=((hD.dat.told.map.below HB0.out).below (below_drewN (UV _ _) m)).look (t:=166) (e:=25) KQ underlying166 (Bn _) (x:=(f.a,f.b,x.e.over)) hkl;rw[hgd]at h;exact h
 have Yu:=aj hsl;have HKN:=aj hK;have HF:=aj hf;have Yw:=aj hxf;have Xg:Hid (W0.cell? ⟨w.heap.size+1,3,none⟩=some (.string f.c)/\W0.cell? ⟨w.heap.size+1,4,none⟩=some (.string f.d)/\W0.cell? ⟨w.heap.size,3,none⟩=some (.string x.e.name)/\w.heap.size+1<W0.heap.size):=⟨c3,c4,x3,by rw[hW0];simp⟩;clear hsl hK hf XH hgd hkl;go_enter func214,ntmps214;go_wp2_with fail;rw[<-hW0];clear hW0;go_quiet (fail);clear c0 c1 c2 c3 c4 d3 x2 x3 hlk;go_wp2;go_loopw[22] (fun i wr=>∃k:Nat,k<=L.length/\i=.int .i64 k/\Hid ((L.drop k).any (wI out x.e.name f)=L.any (wI out x.e.name f))/\Hid (ae w wr)/\Hid (wr.cell? ⟨w.heap.size+1,3,none⟩=some (.string f.c)/\wr.cell? ⟨w.heap.size+1,4,none⟩=some (.string f.d)/\wr.cell? ⟨w.heap.size,3,none⟩=some (.string x.e.name)/\w.heap.size+1<wr.heap.size)) (fun i _=>L.length-(intOf i).toNat);case atStart=>exact⟨0,UY _,rfl,rfl,below_drewN HB0.out _,Xg⟩
 clear Xg HB0;obtain⟨k,hk,rfl,HP,HB,HC⟩:=hrel;by_cases hlt:k<L.length
 ·obtain⟨bT,offT,XR,⟨a0,a1,a2,a3,a4,a5⟩,hbT⟩:=Sl.at0 (Yu.out.below HB.out) hlt;obtain⟨c3,c4,x3,cl⟩:=HC.out;have cl0:w.heap.size<wr.heap.size:=by omega
  have hi1:=bG k;have hi2:(k:Int)<(L.length:Int):=by omega
  have HTF:=aj (HFL.out _ (UR hlt));have HD2:Hid (L.any (wI out x.e.name f)=(wI out x.e.name f L[k] || (L.drop (k+1)).any (wI out x.e.name f))):=by show _=_;rw[<-HP.out];exact Ed _ hlt
  obtain⟨t,ht⟩:∃t,t=L[k]:=⟨_,rfl⟩;rw[<-ht]at a0 a1 a2 a3 a4 a5 HTF HD2;clear ht;obtain⟨W1,hW1⟩:∃W1,W1=wr.alloc (.cells #[.string t.a,.string t.b,.string t.r,.string t.c,.string t.d,.string t.s] 46):=⟨_,rfl⟩;have WM:=mI hW1;have HB1:=aj (HB.out.trans (WM.out.mono HB.out.size));have Xr:Hid (W1.cell? ⟨w.heap.size+1,3,none⟩=some (.string f.c)/\W1.cell? ⟨w.heap.size+1,4,none⟩=some (.string f.d)/\W1.cell? ⟨w.heap.size,3,none⟩=some (.string x.e.name)/\w.heap.size+1<W1.heap.size):=⟨mK WM.out cl c3,mK WM.out cl c4,mK WM.out cl0 x3,UT cl WM.out.size⟩;subst XR;have HTT:Hid (wI out x.e.name f t=bB out ⟨t.c,t.d,x.e.name,f.c,f.d⟩):=rfl;go_wp2_with fail;rw[<-hW1];clear hW1;refine(rq bK nK out ⟨t.c,t.d,x.e.name,f.c,f.d⟩ W1 ⟨HTF.out.2.2.2.1,HTF.out.2.2.2.2.1,Yw.out.2,HF.out.2.2.2.1,HF.out.2.2.2.2⟩ (HKN.out.below HB1.out)).mono ?_;rintro e w2 ⟨rfl,hb2⟩;have HB2:=aj (HB1.out.trans (hb2.mono HB1.out.size));have WV:Hid (w2.cell? ⟨w.heap.size+1,3,none⟩=some (.string f.c)/\w2.cell? ⟨w.heap.size+1,4,none⟩=some (.string f.d)/\w2.cell? ⟨w.heap.size,3,none⟩=some (.string x.e.name)/\w.heap.size+1<w2.heap.size):=⟨mK hb2 Xr.out.2.2.2 Xr.out.1,mK hb2 Xr.out.2.2.2 Xr.out.2.1,mK hb2 (by have:=Xr.out.2.2.2;omega) Xr.out.2.2.1,UT Xr.out.2.2.2 hb2.size⟩;clear hb2;cases hh:bB out ⟨t.c,t.d,x.e.name,f.c,f.d⟩;case true=>
   have HN:Hid (gm ts out x.e.over x.e.name f=true):=by show _=_;rw[HL.out,HD2.out,HTT.out,hh];rfl
   go_wp2;go_ret;exact⟨by rw[HN.out];rfl,HB2.out⟩
  have Wj:Hid ((L.drop (k+1)).any (wI out x.e.name f)=L.any (wI out x.e.name f)):=by show _=_;rw[HD2.out,HTT.out,hh];rfl
  go_wp2;go_roundw;case rel=>exact⟨k+1,by omega,by go_num,Wj,HB2,WV⟩
  simp[intOf]<;>omega
 have HN:Hid (gm ts out x.e.over x.e.name f=false):=by show _=_;rw[HL.out,<-HP.out,Vf (by omega)];rfl
 go_wp2;go_ret;exact⟨by rw[HN.out];rfl,HB.out⟩
end
def yV(B:Nat):Value:=.func (Fn.func 211) #[] #[.pointer (some ⟨B,0,none⟩),.pointer (some ⟨B+1,0,none⟩),.pointer (some ⟨B+1+1,0,none⟩),.pointer (some ⟨B+1+1+1,0,none⟩)]
def IA(w:World)(D:Nat)(vE:Value)(f:Fc)(bK:Nat)(x:ER):World :=
 (((((w.alloc (.cells #[.pointer (some ⟨D,0,none⟩)] 97)).alloc (.cells #[vE] 33)).alloc (.cells #[.string f.a,.string f.b,.string f.r,.string f.c,.string f.d] 29)).alloc (.cells #[.map (some bK)] 107)).alloc (.cells #[.int .i64 x.e.kind,.slice x.adA x.e.allow.length x.capA,.string x.e.over,.string x.e.name,.slice x.adK x.e.kids.length x.capK] 39)).alloc (.cells #[yV w.heap.size] 295)
structure NdB(w:World)(B D:Nat)(vE:Value)(f:Fc)(bK:Nat)(x:ER):Prop where
 lt:B+1+1+1+1+1<w.heap.size
 d:w.cell? ⟨B,0,none⟩=some (.pointer (some ⟨D,0,none⟩))
 e:w.cell? ⟨B+1,0,none⟩=some vE
 f0:w.cell? ⟨B+1+1,0,none⟩=some (.string f.a)
 f1:w.cell? ⟨B+1+1,1,none⟩=some (.string f.b)
 f2:w.cell? ⟨B+1+1,2,none⟩=some (.string f.r)
 f3:w.cell? ⟨B+1+1,3,none⟩=some (.string f.c)
 f4:w.cell? ⟨B+1+1,4,none⟩=some (.string f.d)
 k:w.cell? ⟨B+1+1+1,0,none⟩=some (.map (some bK))
 x0:w.cell? ⟨B+1+1+1+1,0,none⟩=some (.int .i64 x.e.kind)
 x1:w.cell? ⟨B+1+1+1+1,1,none⟩=some (.slice x.adA x.e.allow.length x.capA)
 x2:w.cell? ⟨B+1+1+1+1,2,none⟩=some (.string x.e.over)
 x3:w.cell? ⟨B+1+1+1+1,3,none⟩=some (.string x.e.name)
 x4:w.cell? ⟨B+1+1+1+1,4,none⟩=some (.slice x.adK x.e.kids.length x.capK)
 v:w.cell? ⟨B+1+1+1+1+1,0,none⟩=some (yV B)
theorem NdB.below{w w':af}{B D:Nat}{vE:Value}{f:Fc}{bK:Nat}{x:ER}(h:NdB w B D vE f bK x)(hB:ae w w'):NdB w' B D vE f bK x:=by
 have hl:=h.lt;have c:∀i o,i<=5->w'.cell? ⟨B+i,o,none⟩=w.cell? ⟨B+i,o,none⟩:=fun i o hi=>hB.cell (p:=⟨B+i,o,none⟩) (show B+i<_ by omega);have c0:∀o,w'.cell? ⟨B,o,none⟩=w.cell? ⟨B,o,none⟩:=fun o=>hB.cell (p:=⟨B,o,none⟩) (show B<_ by omega);exact⟨UT hl hB.size,(c0 _).trans h.d,(c 1 _ (by omega)).trans h.e,(c 2 _ (by omega)).trans h.f0,(c 2 _ (by omega)).trans h.f1,(c 2 _ (by omega)).trans h.f2,(c 2 _ (by omega)).trans h.f3,(c 2 _ (by omega)).trans h.f4,(c 3 _ (by omega)).trans h.k,(c 4 _ (by omega)).trans h.x0,(c 4 _ (by omega)).trans h.x1,(c 4 _ (by omega)).trans h.x2,(c 4 _ (by omega)).trans h.x3,(c 4 _ (by omega)).trans h.x4,(c 5 _ (by omega)).trans h.v⟩
theorem lT(w:af)(D:Nat)(vE:Value)(f:Fc)(bK:Nat)(x:ER):ae w (IA w D vE f bK x):=by
 unfold IA;exact((((((UV _ _).alloc (UU _) _).alloc (by simp) _).alloc (by simp;omega) _).alloc (by simp;omega) _).alloc (by simp;omega) _).alloc (by simp;omega) _
theorem ow(w:af)(cs:Array Value)(T:TypeId)(o:Nat):(w.alloc (.cells cs T)).cell? ⟨w.heap.size,o,none⟩=cs[o]?:=World.cell?_alloc_mark w cs T (0,0) o
theorem lV(w:af)(D:Nat)(vE:Value)(f:Fc)(bK:Nat)(x:ER):NdB (IA w D vE f bK x) w.heap.size D vE f bK x:=by
 unfold IA;obtain⟨w1,h1⟩:∃u,u=w.alloc (.cells #[.pointer (some ⟨D,0,none⟩)] 97):=⟨_,rfl⟩;have s1:w1.heap.size=w.heap.size+1:=by rw[h1,World.size_alloc]
 have b1:ae w w1:=by rw[h1];exact(UV _ _).alloc (UU _) _
 obtain⟨w2,h2⟩:∃u,u=w1.alloc (.cells #[vE] 33):=⟨_,rfl⟩;have s2:w2.heap.size=w.heap.size+1+1:=by rw[h2,World.size_alloc,s1]
 have b2:ae w1 w2:=by rw[h2];exact(UV _ _).alloc (UU _) _
 obtain⟨w3,h3⟩:∃u,u=w2.alloc (.cells #[.string f.a,.string f.b,.string f.r,.string f.c,.string f.d] 29):=⟨_,rfl⟩;have s3:w3.heap.size=w.heap.size+1+1+1:=by rw[h3,World.size_alloc,s2]
 have b3:ae w2 w3:=by rw[h3];exact(UV _ _).alloc (UU _) _
 obtain⟨w4,h4⟩:∃u,u=w3.alloc (.cells #[.map (some bK)] 107):=⟨_,rfl⟩;have s4:w4.heap.size=w.heap.size+1+1+1+1:=by rw[h4,World.size_alloc,s3]
 have b4:ae w3 w4:=by rw[h4];exact(UV _ _).alloc (UU _) _
 obtain⟨w5,h5⟩:∃u,u=w4.alloc (.cells #[.int .i64 x.e.kind,.slice x.adA x.e.allow.length x.capA,.string x.e.over,.string x.e.name,.slice x.adK x.e.kids.length x.capK] 39):=⟨_,rfl⟩;have s5:w5.heap.size=w.heap.size+1+1+1+1+1:=by rw[h5,World.size_alloc,s4]
 have b5:ae w4 w5:=by rw[h5];exact(UV _ _).alloc (UU _) _
 obtain⟨w6,h6⟩:∃u,u=w5.alloc (.cells #[yV w.heap.size] 295):=⟨_,rfl⟩;have s6:w6.heap.size=w.heap.size+1+1+1+1+1+1:=by rw[h6,World.size_alloc,s5]
 have b6:ae w5 w6:=by rw[h6];exact(UV _ _).alloc (UU _) _
 rw[<-h1,<-h2,<-h3,<-h4,<-h5,<-h6];have c0:∀o,w6.cell? ⟨w.heap.size,o,none⟩=(#[.pointer (some ⟨D,0,none⟩)]:Array Value)[o]?:=fun o=>by
  have e:w1.cell? ⟨w.heap.size,o,none⟩=(#[.pointer (some ⟨D,0,none⟩)]:Array Value)[o]?:=by rw[h1];exact ow _ _ _ o
  rw[b6.cell (p:=⟨w.heap.size,o,none⟩) (show w.heap.size<_ by omega),b5.cell (p:=⟨w.heap.size,o,none⟩) (show w.heap.size<_ by omega),b4.cell (p:=⟨w.heap.size,o,none⟩) (show w.heap.size<_ by omega),b3.cell (p:=⟨w.heap.size,o,none⟩) (show w.heap.size<_ by omega),b2.cell (p:=⟨w.heap.size,o,none⟩) (show w.heap.size<_ by omega)];exact e
 have c1:∀o,w6.cell? ⟨w.heap.size+1,o,none⟩=(#[vE]:Array Value)[o]?:=fun o=>by
  have e:w2.cell? ⟨w.heap.size+1,o,none⟩=(#[vE]:Array Value)[o]?:=by rw[h2,<-s1];exact ow _ _ _ o
  rw[b6.cell (p:=⟨w.heap.size+1,o,none⟩) (show w.heap.size+1<_ by omega),b5.cell (p:=⟨w.heap.size+1,o,none⟩) (show w.heap.size+1<_ by omega),b4.cell (p:=⟨w.heap.size+1,o,none⟩) (show w.heap.size+1<_ by omega),b3.cell (p:=⟨w.heap.size+1,o,none⟩) (show w.heap.size+1<_ by omega)];exact e
 have c2:∀o,w6.cell? ⟨w.heap.size+1+1,o,none⟩=(#[.string f.a,.string f.b,.string f.r,.string f.c,.string f.d]:Array Value)[o]?:=fun o=>by
  have e:w3.cell? ⟨w.heap.size+1+1,o,none⟩=(#[.string f.a,.string f.b,.string f.r,.string f.c,.string f.d]:Array Value)[o]?:=by rw[h3,<-s2];exact ow _ _ _ o
  rw[b6.cell (p:=⟨w.heap.size+1+1,o,none⟩) (show w.heap.size+1+1<_ by omega),b5.cell (p:=⟨w.heap.size+1+1,o,none⟩) (show w.heap.size+1+1<_ by omega),b4.cell (p:=⟨w.heap.size+1+1,o,none⟩) (show w.heap.size+1+1<_ by omega)];exact e
 have c3:∀o,w6.cell? ⟨w.heap.size+1+1+1,o,none⟩=(#[.map (some bK)]:Array Value)[o]?:=fun o=>by
  have e:w4.cell? ⟨w.heap.size+1+1+1,o,none⟩=(#[.map (some bK)]:Array Value)[o]?:=by rw[h4,<-s3];exact ow _ _ _ o
  rw[b6.cell (p:=⟨w.heap.size+1+1+1,o,none⟩) (show w.heap.size+1+1+1<_ by omega),b5.cell (p:=⟨w.heap.size+1+1+1,o,none⟩) (show w.heap.size+1+1+1<_ by omega)];exact e
 have c4:∀o,w6.cell? ⟨w.heap.size+1+1+1+1,o,none⟩=(#[.int .i64 x.e.kind,.slice x.adA x.e.allow.length x.capA,.string x.e.over,.string x.e.name,.slice x.adK x.e.kids.length x.capK]:Array Value)[o]?:=fun o=>by
  have e:w5.cell? ⟨w.heap.size+1+1+1+1,o,none⟩=(#[.int .i64 x.e.kind,.slice x.adA x.e.allow.length x.capA,.string x.e.over,.string x.e.name,.slice x.adK x.e.kids.length x.capK]:Array Value)[o]?:=by rw[h5,<-s4];exact ow _ _ _ o
  rw[b6.cell (p:=⟨w.heap.size+1+1+1+1,o,none⟩) (show w.heap.size+1+1+1+1<_ by omega)];exact e
 have c5:∀o,w6.cell? ⟨w.heap.size+1+1+1+1+1,o,none⟩=(#[yV w.heap.size]:Array Value)[o]?:=fun o=>by
  have e:w6.cell? ⟨w.heap.size+1+1+1+1+1,o,none⟩=(#[yV w.heap.size]:Array Value)[o]?:=by rw[h6,<-s5];exact ow _ _ _ o
  exact e
 exact⟨by omega,c0 0,c1 0,c2 0,c2 1,c2 2,c2 3,c2 4,c3 0,c4 0,c4 1,c4 2,c4 3,c4 4,c5 0⟩
def Fy(D:Nat)(vE:Value)(f:Fc)(bK:Nat)(w:World)(i:Int)(b:Bool):Prop:=∀w1:World,ae w w1->Calls prog 167 #[.pointer (some ⟨D,0,none⟩),vE,.int .i64 i,.agg #[.string f.a,.string f.b,.string f.r,.string f.c,.string f.d],.map (some bK)] w1 fun e w'=>e=.returned (.bool b)/\ae w1 w'
theorem pF{w w1:af}{B D:Nat}{vE:Value}{f:Fc}{bK:Nat}{x:ER}{i:Int}{b:Bool}(hK:Fy D vE f bK w i b)(hb:ae w w1)(hB:NdB w1 B D vE f bK x):
  Calls prog 211 #[.int .i64 i,.pointer (some ⟨B,0,none⟩),.pointer (some ⟨B+1,0,none⟩),.pointer (some ⟨B+1+1,0,none⟩),.pointer (some ⟨B+1+1+1,0,none⟩)] w1 fun e w'=>e=.returned (.bool b)/\ae w1 w':=by
 have HC:=aj (hK w1 hb);obtain⟨-,d,e,f0,f1,f2,f3,f4,k,-⟩:=hB;clear hK;go_enter func211,ntmps211;go_wp2_with fail;refine HC.out.mono ?_;rintro e w2 ⟨rfl,hb2⟩;have HB:=aj hb2;clear hb2;go_wp2;go_ret;exact⟨rfl,HB.out⟩
theorem wP{w w1:af}{B D:Nat}{vE:Value}{f:Fc}{bK:Nat}{x:ER}{i:Int}{b:Bool}(hK:Fy D vE f bK w i b)(hb:ae w w1)(hB:NdB w1 B D vE f bK x):
  Calls prog 212 #[.int .i64 i,.pointer (some ⟨B+1+1+1+1+1,0,none⟩)] w1 fun e w'=>e=.returned (.bool (!b))/\ae w1 w':=by
 have HC:=aj (pF hK hb hB);have hv:=hB.v;unfold yV at hv;clear hK hB;go_enter func212,ntmps212;go_wp2_with fail;refine HC.out.mono ?_;rintro e w2 ⟨rfl,hb2⟩;have HB:=aj hb2;clear hb2;go_wp2;go_ret;exact⟨rfl,HB.out⟩
theorem TN(xs:Array Value)(u:af):(callFunc 211 xs).run prog u=.ok (.enter 211 xs) u:=by kernel_rfl
theorem TP(xs:Array Value)(u:af):(callFunc 212 xs).run prog u=.ok (.enter 212 xs) u:=by kernel_rfl
theorem Nu(p:Int->Bool){zs:List Int}{k:Nat}(h:k<zs.length):(zs.drop k).any p=(p zs[k] || (zs.drop (k+1)).any p):=by rw[Vl h];rfl
theorem Kj(FC:Nat)(rc cp:Array Value)(p:Int->Bool)(ad:Q02)(cap:Nat)(xs:List Int)(w:af)(hlen:xs.length<=1048576)(hs:sK w ad xs)
  (hrun:∀(ys:Array Value) (u:World),(callFunc FC ys).run prog u=.ok (.enter FC ys) u) (hp:∀x∈xs,∀w1:World,ae w w1->Calls prog FC (rc.push (.int .i64 x)++cp) w1 fun e w'=>e=.returned (.bool (p x))/\ae w1 w') :
  Calls prog 230 #[.slice ad xs.length cap,.func (Fn.func FC) rc cp] w fun e w'=>(∃r:Int,e=.returned (.int .i64 r)/\decide (0<=r)=xs.any p)/\ae w w':=by
 have HS:=aj hs;have YV:=aj hrun;have HP:=aj hp;clear hs hrun hp;have HD:Hid (∀k (h:k<xs.length),(xs.drop k).any p=(p xs[k] || (xs.drop (k+1)).any p)):=fun k h=>Nu p h;go_enter func230,ntmps230;go_wp2_with fail;go_loopw[8] (fun i wr=>∃k:Nat,k<=xs.length/\i=.int .i64 k/\Hid ((xs.drop k).any p=xs.any p)/\Hid (ae w wr)) (fun i _=>xs.length-(intOf i).toNat);case atStart=>exact⟨0,UY _,rfl,rfl,UV _ _⟩
 obtain⟨k,hk,rfl,HQ,HB⟩:=hrel;by_cases hlt:k<xs.length
 ·obtain⟨b,off,V6,t0,hbl⟩:=sK.at0 (HS.out.below HB.out) hlt;have HM:Hid (xs[k]∈xs):=UR hlt;have hk1:=bG k;have hk2:(k:Int)<(xs.length:Int):=by omega
  have HD2:=aj (HD.out k hlt);subst V6;go_wp2_with fail;rw[YV.out,Oper.upon_enter];refine(HP.out _ HM.out _ HB.out).mono ?_;rintro e w1 ⟨rfl,hb1⟩;have HB1:=jR HB hb1;clear hb1 t0;cases he:p xs[k];case true=>
   have HN:Hid (xs.any p=true):=by show _=_;rw[<-HQ.out,HD2.out,he];rfl
   go_wp2;go_ret;exact⟨⟨k,rfl,by rw[HN.out];simp⟩,HB1.out⟩
  have HQ2:Hid ((xs.drop (k+1)).any p=xs.any p):=by show _=_;rw[<-HQ.out,HD2.out,he];rfl
  go_wp2;go_roundw;case rel=>exact⟨k+1,by omega,by go_num,HQ2,HB1⟩
  simp[intOf]<;>omega
 have HN:Hid (xs.any p=false):=by show _=_;rw[<-HQ.out,Vf (by omega)];rfl
 go_wp2;go_ret;exact⟨⟨-1,rfl,by rw[HN.out];simp⟩,HB.out⟩
theorem sZ(FC:Nat)(rc cp:Array Value)(p:Int->Bool)(ad:Q02)(cap:Nat)(xs:List Int)(w:af)(hlen:xs.length<=1048576)(hs:sK w ad xs)
  (hrun:∀(ys:Array Value) (u:World),(callFunc FC ys).run prog u=.ok (.enter FC ys) u) (hp:∀x∈xs,∀w1:World,ae w w1->Calls prog FC (rc.push (.int .i64 x)++cp) w1 fun e w'=>e=.returned (.bool (p x))/\ae w1 w') :
  Calls prog 215 #[.slice ad xs.length cap,.func (Fn.func FC) rc cp] w fun e w'=>e=.returned (.bool (xs.any p))/\ae w w':=by
 have HC:=aj (Kj FC rc cp p ad cap xs w hlen hs hrun hp);clear hs hrun hp;go_enter func215,ntmps215;go_wp2_with fail;refine HC.out.mono ?_;rintro e w' ⟨⟨r,rfl,hr⟩,hbx⟩;have HR:=aj hr;clear hr;go_wp2;go_ret;exact⟨by rw[<-HR.out];rfl,hbx⟩
section
variable  {w:World}{rs:Q06}{D br bp bt bK nK:Nat}{n1:Int}{nr:Nat}{Mr:KL->Option Value}{Er:List (KL×RR)}{ts:Q05}{xo xu:Q0a}{np:Nat}{Mp:K3->Option Value}{vo vu:Value}{out:Q04}{f:Fc}{V5:Q02}{capE:Nat}{rows:Q08}{n:Nat}
theorem Nv(hn:n<rows.length)(hD:DatA w rs D br bp bt n1 nr Mr Er (bn ts) xo xu np Mp vo vu)(hK:aK jO prog 29 w bK nK (wL out))(hf:f.fits)(hts:∀t∈ts,t.fits)(htl:ts.length<=1000)(hex:gZ w V5 rows)(hre:rows.length<=1000)(hk:rows[n].e.kind=1):
  Calls prog 167 #[.pointer (some ⟨D,0,none⟩),.slice V5 rows.length capE,.int .i64 (n:Int),.agg #[.string f.a,.string f.b,.string f.r,.string f.c,.string f.d],.map (some bK)] w fun e w'=>e=.returned (.bool (eY ts out f))/\ae w w':=by
 obtain⟨b,off,V6,⟨t0,t1,t2,t3,t4⟩,hbl,hok⟩:=gZ.at0 hex hn;obtain⟨W0,hW0⟩:∃W0,W0=IA w D (.slice V5 rows.length capE) f bK rows[n]:=⟨_,rfl⟩;have HB0:Hid (ae w W0):=by show Below _ _ _;rw[hW0];exact lT _ _ _ _ _ _
 have XU:Hid (NdB W0 w.heap.size D (.slice V5 rows.length capE) f bK rows[n]):=by show NdB _ _ _ _ _ _ _;rw[hW0];exact lV _ _ _ _ _ _
 have hk1:(rows[n].e.kind==1)=true:=by rw[hk];rfl
 have Yr:b<w.heap.size+1:=by omega
 have hbl2:b<w.heap.size+1+1:=by omega
 have hbl3:b<w.heap.size+1+1+1:=by omega
 have hn1:=bG n;have hn2:(n:Int)<(rows.length:Int):=by omega
 unfold IA yV at hW0;have HC:=aj (Ct (hD.below HB0.out) (hK.below HB0.out) hf hts htl);clear hD hK hts hex hk hok;subst V6;go_enter func167,ntmps167;go_wp2_with fail;rw[<-hW0];clear hW0 t0 t1 t2 t3 t4;refine(HC.out).mono ?_;rintro e w1 ⟨rfl,hb1⟩;have HB1:=aj (HB0.out.trans (hb1.mono HB0.out.size));clear hb1;go_wp2;go_ret;exact⟨rfl,HB1.out⟩
theorem Qt(hn:n<rows.length)(hK:aK jO prog 29 w bK nK (wL out))(hf:f.fits)(hnm:rows[n].e.name.size<=maxLen)(hex:gZ w V5 rows)(hre:rows.length<=1000)(hk:rows[n].e.kind=2):
  Calls prog 167 #[.pointer (some ⟨D,0,none⟩),.slice V5 rows.length capE,.int .i64 (n:Int),.agg #[.string f.a,.string f.b,.string f.r,.string f.c,.string f.d],.map (some bK)] w fun e w'=>e=.returned (.bool (bB out ⟨f.a,f.b,rows[n].e.name,f.c,f.d⟩))/\ae w w':=by
 obtain⟨b,off,V6,⟨t0,t1,t2,t3,t4⟩,hbl,hok⟩:=gZ.at0 hex hn;obtain⟨W0,hW0⟩:∃W0,W0=IA w D (.slice V5 rows.length capE) f bK rows[n]:=⟨_,rfl⟩;have HB0:Hid (ae w W0):=by show Below _ _ _;rw[hW0];exact lT _ _ _ _ _ _
 have XU:Hid (NdB W0 w.heap.size D (.slice V5 rows.length capE) f bK rows[n]):=by show NdB _ _ _ _ _ _ _;rw[hW0];exact lV _ _ _ _ _ _
 have hk1:(rows[n].e.kind==1)=false:=by rw[hk];rfl
 have hk2:(rows[n].e.kind==2)=true:=by rw[hk];rfl
 have Yr:b<w.heap.size+1:=by omega
 have hbl2:b<w.heap.size+1+1:=by omega
 have hbl3:b<w.heap.size+1+1+1:=by omega
 have hn1:=bG n;have hn2:(n:Int)<(rows.length:Int):=by omega
 unfold IA yV at hW0;have HC:=aj (rq bK nK out ⟨f.a,f.b,rows[n].e.name,f.c,f.d⟩ W0 ⟨hf.1,hf.2.1,hnm,hf.2.2.2.1,hf.2.2.2.2⟩ (hK.below HB0.out));clear hK hex hk hok hf;subst V6;go_enter func167,ntmps167;go_wp2_with fail;rw[<-hW0];clear hW0 t0 t1 t2 t3 t4;refine(HC.out).mono ?_;rintro e w1 ⟨rfl,hb1⟩;have HB1:=aj (HB0.out.trans (hb1.mono HB0.out.size));clear hb1;go_wp2;go_ret;exact⟨rfl,HB1.out⟩
theorem Nw(hn:n<rows.length)(hD:DatA w rs D br bp bt n1 nr Mr Er (bn ts) xo xu np Mp vo vu)(hK:aK jO prog 29 w bK nK (wL out))(hf:f.fits)(hxf:rows[n].e.over.size<=maxLen/\rows[n].e.name.size<=maxLen)(hts:∀t∈ts,t.fits)(htl:ts.length<=1000)(hex:gZ w V5 rows)(hre:rows.length<=1000)(hk:rows[n].e.kind=3):
  Calls prog 167 #[.pointer (some ⟨D,0,none⟩),.slice V5 rows.length capE,.int .i64 (n:Int),.agg #[.string f.a,.string f.b,.string f.r,.string f.c,.string f.d],.map (some bK)] w fun e w'=>e=.returned (.bool (gm ts out rows[n].e.over rows[n].e.name f))/\ae w w':=by
 obtain⟨b,off,V6,⟨t0,t1,t2,t3,t4⟩,hbl,hok⟩:=gZ.at0 hex hn;obtain⟨W0,hW0⟩:∃W0,W0=IA w D (.slice V5 rows.length capE) f bK rows[n]:=⟨_,rfl⟩;have HB0:Hid (ae w W0):=by show Below _ _ _;rw[hW0];exact lT _ _ _ _ _ _
 have XU:Hid (NdB W0 w.heap.size D (.slice V5 rows.length capE) f bK rows[n]):=by show NdB _ _ _ _ _ _ _;rw[hW0];exact lV _ _ _ _ _ _
 have hk1:(rows[n].e.kind==1)=false:=by rw[hk];rfl
 have hk2:(rows[n].e.kind==2)=false:=by rw[hk];rfl
 have hk3:(rows[n].e.kind==3)=true:=by rw[hk];rfl
 have Yr:b<w.heap.size+1:=by omega
 have hbl2:b<w.heap.size+1+1:=by omega
 have hbl3:b<w.heap.size+1+1+1:=by omega
 have hn1:=bG n;have hn2:(n:Int)<(rows.length:Int):=by omega
 unfold IA yV at hW0;have HC:=aj (Cu (hD.below HB0.out) (hK.below HB0.out) rows[n] hxf hf hts htl);clear hD hK hts hex hk hok hxf hf;subst V6;go_enter func167,ntmps167;go_wp2_with fail;rw[<-hW0];clear hW0 t0 t1 t2 t3 t4;refine(HC.out).mono ?_;rintro e w1 ⟨rfl,hb1⟩;have HB1:=aj (HB0.out.trans (hb1.mono HB0.out.size));clear hb1;go_wp2;go_ret;exact⟨rfl,HB1.out⟩
theorem Kk(hn:n<rows.length)(H:Int->Bool)(hkl:rows[n].e.kids.length<=1000)(Zq:∀i∈rows[n].e.kids,Fy D (.slice V5 rows.length capE) f bK w i (H i))(hex:gZ w V5 rows)(hre:rows.length<=1000)(hk:rows[n].e.kind=4):
  Calls prog 167 #[.pointer (some ⟨D,0,none⟩),.slice V5 rows.length capE,.int .i64 (n:Int),.agg #[.string f.a,.string f.b,.string f.r,.string f.c,.string f.d],.map (some bK)] w fun e w'=>e=.returned (.bool (rows[n].e.kids.any H))/\ae w w':=by
 obtain⟨b,off,V6,⟨t0,t1,t2,t3,t4⟩,hbl,hok⟩:=gZ.at0 hex hn;obtain⟨W0,hW0⟩:∃W0,W0=IA w D (.slice V5 rows.length capE) f bK rows[n]:=⟨_,rfl⟩;have HB0:Hid (ae w W0):=by show Below _ _ _;rw[hW0];exact lT _ _ _ _ _ _
 have XU:Hid (NdB W0 w.heap.size D (.slice V5 rows.length capE) f bK rows[n]):=by show NdB _ _ _ _ _ _ _;rw[hW0];exact lV _ _ _ _ _ _
 have hk1:(rows[n].e.kind==1)=false:=by rw[hk];rfl
 have hk2:(rows[n].e.kind==2)=false:=by rw[hk];rfl
 have hk3:(rows[n].e.kind==3)=false:=by rw[hk];rfl
 have hk4:(rows[n].e.kind==4)=true:=by rw[hk];rfl
 have Yr:b<w.heap.size+1:=by omega
 have hbl2:b<w.heap.size+1+1:=by omega
 have hbl3:b<w.heap.size+1+1+1:=by omega
 have hn1:=bG n;have hn2:(n:Int)<(rows.length:Int):=by omega
 unfold IA yV at hW0;have HC:=aj (sZ 211 #[] #[.pointer (some ⟨w.heap.size,0,none⟩),.pointer (some ⟨w.heap.size+1,0,none⟩),.pointer (some ⟨w.heap.size+1+1,0,none⟩),.pointer (some ⟨w.heap.size+1+1+1,0,none⟩)] H rows[n].adK rows[n].capK rows[n].e.kids W0 (by omega) (hok.2.below HB0.out) TN (fun i hi w1 hb=>pF (Zq i hi) (HB0.out.trans (hb.mono HB0.out.size)) (XU.out.below hb)));clear Zq hex hk hok;subst V6;go_enter func167,ntmps167;go_wp2_with fail;rw[<-hW0];clear hW0 t0 t1 t2 t3 t4;refine(HC.out).mono ?_;rintro e w1 ⟨rfl,hb1⟩;have HB1:=aj (HB0.out.trans (hb1.mono HB0.out.size));clear hb1;go_wp2;go_ret;exact⟨rfl,HB1.out⟩
theorem Ny(hn:n<rows.length)(H:Int->Bool)(hkl:rows[n].e.kids.length<=1000)(Zq:∀i∈rows[n].e.kids,Fy D (.slice V5 rows.length capE) f bK w i (H i))(hex:gZ w V5 rows)(hre:rows.length<=1000)(hk:rows[n].e.kind=5):
  Calls prog 167 #[.pointer (some ⟨D,0,none⟩),.slice V5 rows.length capE,.int .i64 (n:Int),.agg #[.string f.a,.string f.b,.string f.r,.string f.c,.string f.d],.map (some bK)] w fun e w'=>e=.returned (.bool (rows[n].e.kids.all H))/\ae w w':=by
 obtain⟨b,off,V6,⟨t0,t1,t2,t3,t4⟩,hbl,hok⟩:=gZ.at0 hex hn;obtain⟨W0,hW0⟩:∃W0,W0=IA w D (.slice V5 rows.length capE) f bK rows[n]:=⟨_,rfl⟩;have HB0:Hid (ae w W0):=by show Below _ _ _;rw[hW0];exact lT _ _ _ _ _ _
 have XU:Hid (NdB W0 w.heap.size D (.slice V5 rows.length capE) f bK rows[n]):=by show NdB _ _ _ _ _ _ _;rw[hW0];exact lV _ _ _ _ _ _
 have hk1:(rows[n].e.kind==1)=false:=by rw[hk];rfl
 have hk2:(rows[n].e.kind==2)=false:=by rw[hk];rfl
 have hk3:(rows[n].e.kind==3)=false:=by rw[hk];rfl
 have hk4:(rows[n].e.kind==4)=false:=by rw[hk];rfl
 have hk5:(rows[n].e.kind==5)=true:=by rw[hk];rfl
 have Yr:b<w.heap.size+1:=by omega
 have hbl2:b<w.heap.size+1+1:=by omega
 have hbl3:b<w.heap.size+1+1+1:=by omega
 have hn1:=bG n;have hn2:(n:Int)<(rows.length:Int):=by omega
 unfold IA yV at hW0;have HC:=aj (sZ 212 #[] #[.pointer (some ⟨w.heap.size+1+1+1+1+1,0,none⟩)] (fun i=>!H i) rows[n].adK rows[n].capK rows[n].e.kids W0 (by omega) (hok.2.below HB0.out) TP (fun i hi w1 hb=>wP (Zq i hi) (HB0.out.trans (hb.mono HB0.out.size)) (XU.out.below hb)));have Ws:Hid ((rows[n].e.kids.any fun i=>!H i)=!rows[n].e.kids.all H):=by show _=_;rw[List.not_all_eq_any_not]
 clear Zq hex hk hok;subst V6;go_enter func167,ntmps167;go_wp2_with fail;rw[<-hW0];clear hW0 t0 t1 t2 t3 t4;refine(HC.out).mono ?_;rintro e w1 ⟨he,hb1⟩;rw[Ws.out]at he;subst he;have HB1:=aj (HB0.out.trans (hb1.mono HB0.out.size));clear hb1;go_wp2;go_ret;exact⟨by simp,HB1.out⟩
end
open Go.Sort
section
variable  {w:World}{rs:Q06}{D br bp bt bK nK:Nat}{n1:Int}{nr:Nat}{Mr:KL->Option Value}{Er:List (KL×RR)}{ts:Q05}{xo xu:Q0a}{np:Nat}{Mp:K3->Option Value}{vo vu:Value}{out:Q04}{f:Fc}{V5:Q02}{capE:Nat}{rows:Q08}{n:Nat}
theorem Qu(hn:n<rows.length)(b0 b1:Bool)(hkl:rows[n].e.kids.length<=1000)(hk2l:2<=rows[n].e.kids.length)(hA:Fy D (.slice V5 rows.length capE) f bK w (rows[n].e.kids.getD 0 0) b0)(hB:Fy D (.slice V5 rows.length capE) f bK w (rows[n].e.kids.getD 1 0) b1)(hex:gZ w V5 rows)(hre:rows.length<=1000)(hk:rows[n].e.kind=6):
  Calls prog 167 #[.pointer (some ⟨D,0,none⟩),.slice V5 rows.length capE,.int .i64 (n:Int),.agg #[.string f.a,.string f.b,.string f.r,.string f.c,.string f.d],.map (some bK)] w fun e w'=>e=.returned (.bool (b0 && !b1))/\ae w w':=by
 obtain⟨b,off,V6,⟨t0,t1,t2,t3,t4⟩,hbl,hok⟩:=gZ.at0 hex hn;obtain⟨W0,hW0⟩:∃W0,W0=IA w D (.slice V5 rows.length capE) f bK rows[n]:=⟨_,rfl⟩;have HB0:Hid (ae w W0):=by show Below _ _ _;rw[hW0];exact lT _ _ _ _ _ _
 have XU:Hid (NdB W0 w.heap.size D (.slice V5 rows.length capE) f bK rows[n]):=by show NdB _ _ _ _ _ _ _;rw[hW0];exact lV _ _ _ _ _ _
 have hk1:(rows[n].e.kind==1)=false:=by rw[hk];rfl
 have hk2:(rows[n].e.kind==2)=false:=by rw[hk];rfl
 have hk3:(rows[n].e.kind==3)=false:=by rw[hk];rfl
 have hk4:(rows[n].e.kind==4)=false:=by rw[hk];rfl
 have hk5:(rows[n].e.kind==5)=false:=by rw[hk];rfl
 have Yr:b<w.heap.size+1:=by omega
 have hbl2:b<w.heap.size+1+1:=by omega
 have hbl3:b<w.heap.size+1+1+1:=by omega
 have hn1:=bG n;have hn2:(n:Int)<(rows.length:Int):=by omega
 unfold IA yV at hW0;have h0k:0<rows[n].e.kids.length:=by omega
 have h1k:1<rows[n].e.kids.length:=by omega
 obtain⟨bJ,Xj,WA,z0,hbK⟩:=sK.at0 hok.2 h0k;have z1:w.cell? ⟨bJ,Xj+1,none⟩=some (.int .i64 rows[n].e.kids[1]):=by
  obtain⟨b',off',XY,z1,-⟩:=sK.at0 hok.2 h1k;rw[WA]at XY;injection XY with e;injection e with e1 e2;rw[e1,e2];exact z1
 obtain⟨i0,hi0⟩:∃i,i=rows[n].e.kids[0]:=⟨_,rfl⟩;obtain⟨i1,hi1⟩:∃i,i=rows[n].e.kids[1]:=⟨_,rfl⟩;have g0:rows[n].e.kids.getD 0 0=i0:=by rw[hi0,Vn,U1 h0k];rfl
 have g1:rows[n].e.kids.getD 1 0=i1:=by rw[hi1,Vn,U1 h1k];rfl
 rw[g0]at hA;rw[g1]at hB;rw[<-hi0,Nat.add_zero]at z0;rw[<-hi1]at z1;obtain⟨kl,hkl'⟩:∃kl,kl=rows[n].e.kids.length:=⟨_,rfl⟩;obtain⟨cK,hcK⟩:∃c,c=rows[n].capK:=⟨_,rfl⟩;have hl0:(0:Int)<(kl:Int):=by omega
 have hl1:(1:Int)<(kl:Int):=by omega
 have h0k':0<kl:=by omega
 have h1k':1<kl:=by omega
 have HA:Hid (∀w1,ae W0 w1->_):=fun w1 hb=>pF hA (HB0.out.trans (hb.mono HB0.out.size)) (XU.out.below hb);have Ya:Hid (∀w1,ae W0 w1->_):=fun w1 hb=>wP hB (HB0.out.trans (hb.mono HB0.out.size)) (XU.out.below hb);have HZ:Hid (W0.cell? ⟨bJ,Xj,none⟩=some (.int .i64 i0)/\W0.cell? ⟨bJ,Xj+1,none⟩=some (.int .i64 i1)/\bJ<W0.heap.size):=⟨(HB0.out.cell (p:=⟨bJ,Xj,none⟩) hbK).trans z0,(HB0.out.cell (p:=⟨bJ,Xj+1,none⟩) hbK).trans z1,UT hbK HB0.out.size⟩;have HX4:Hid (W0.cell? ⟨w.heap.size+1+1+1+1,4,none⟩=some (.slice (some ⟨bJ,Xj,none⟩) kl cK)):=by show _=_;rw[XU.out.x4,WA,<-hkl',<-hcK]
 have HV5:Hid (W0.cell? ⟨w.heap.size+1+1+1+1+1,0,none⟩=some (.func (Fn.func 211) #[] #[.pointer (some ⟨w.heap.size,0,none⟩),.pointer (some ⟨w.heap.size+1,0,none⟩),.pointer (some ⟨w.heap.size+1+1,0,none⟩),.pointer (some ⟨w.heap.size+1+1+1,0,none⟩)])):=XU.out.v;clear hA hB hex hk hok z0 z1 WA h0k h1k g0 g1 hi0 hi1;subst V6;go_enter func167,ntmps167;go_wp2_with fail;rw[<-hW0];clear hW0 t0 t1 t2 t3 t4;clear hk1 hk2 hk3 hk4 hk5 hkl' hcK;have HAA:Hid (∀d os,Calls prog 211 #[.int .i64 i0,.pointer (some ⟨w.heap.size,0,none⟩),.pointer (some ⟨w.heap.size+1,0,none⟩),.pointer (some ⟨w.heap.size+1+1,0,none⟩),.pointer (some ⟨w.heap.size+1+1+1,0,none⟩)] (grow (redrawn W0 d) os) fun e w''=>e=.returned (.bool b0)/\∃p:Regrown,w''=grow (redrawn W0 p.d) p.os):=by
  refine bY fun W' hb=>?_;exact HA.out _ hb
 have HBQ:Hid (∀d os,Calls prog 212 #[.int .i64 i1,.pointer (some ⟨w.heap.size+1+1+1+1+1,0,none⟩)] (grow (redrawn W0 d) os) fun e w''=>e=.returned (.bool (!b1))/\∃p:Regrown,w''=grow (redrawn W0 p.d) p.os):=by
  refine bY fun W' hb=>?_;exact Ya.out _ hb
 have x4:=cell_regrown HX4.out;have v5:=cell_regrown HV5.out;have z0:=cell_regrown HZ.out.1;have z1:=cell_regrown HZ.out.2.1;clear HA Ya XU;cases b0
 case' true =>
  skip
 case' false =>
  skip
 all_goals
  refine wp_region_quiet_below (by kernel_rfl) (by kernel_rfl) ?_
  repeat(go_big_quiet_step (first|exact HAA.out _ _|exact HBQ.out _ _))
  refine wpQuiet_nil ?_;rintro _ ⟨⟨dq,osq⟩,rfl⟩;go_wp2;go_ret;exact⟨rfl,HB0.out.trans ((below_regrown W0 dq osq).mono HB0.out.size)⟩
end
end Go.Proofs.YtajkkeikihhejaaGreat
