/- The text of the drawing's last resort can be read, and says a right schema. -/
import Derived.Test.YtajkkeikihhejaaGreatSq
import Derived.Test.YtajkkeikihhejaaGreatJ22
import Derived.Test.YtajkkeikihhejaaGreatJ15
import Derived.Test.YtajkkeikihhejaaGreatJ26
import Derived.Test.YtajkkeikihhejaaGreatShelfS
open Go.Proofs.Tryz
set_option maxHeartbeats 80000000
namespace Go.Proofs.YtajkkeikihhejaaGreat
open Pl
def lastT:ByteArray:=⟨#[116,121,112,101,32,100,111,99,10,118,105,101,119,101,114,32,61,32,116,104,105,115,40,117,115,101,114,41,10,116,121,112,101,32,117,115,101,114,10]⟩
def Hf:List Ty:=[⟨⟨#[100,111,99]⟩,[⟨⟨#[118,105,101,119,101,114]⟩,[⟨1,[⟨⟨#[117,115,101,114]⟩,⟨#[]⟩⟩],⟨#[]⟩,⟨#[]⟩,[]⟩]⟩]⟩,⟨⟨#[117,115,101,114]⟩,[]⟩]
theorem JX:dQ (lastT.size+1) lastT []=some Hf:=by kernel_rfl
theorem JY:aL Hf=true:=by
 refine aZ.2 ⟨by kernel_rfl,by kernel_rfl,fun _=>0,⟨fun _=>Int.le_refl _,fun k hk d hd=>?_⟩⟩;have h:((ak Hf).all fun k=>(il Hf k).isEmpty)=true:=by kernel_rfl
 have h2:=Un.1 h k hk;rw [List.isEmpty_iff.1 h2]at hd;cases hd
def Pre (t:ByteArray):Prop:=∃ x y z c tl,t.data.toList=116::121::112::101::32::x::y::z::10::c::tl/\x≠10/\y≠10/\z≠10/\c≠116
theorem Pre.app {t:ByteArray}(h:Pre t)(u:bI):Pre (t++u):=by
 obtain ⟨x,y,z,c,tl,e,h1⟩:=h;exact ⟨x,y,z,c,tl++u.data.toList,by rw [ByteArray.data_append,Array.toList_append,e];rfl,h1⟩
theorem P9 {n:ByteArray}(h:aR n=true):∀ b∈n.data.toList,b≠10:=by
 intro b hb e;unfold aR dN rW at h;simp only [Ug]at h;have:=Un.1 h.1.2 b hb;rw [e]at this
 revert this
 decide
theorem MZ {rs:List TR}(hd:aL (ae rs)=true)(h:Pre (dA (ae rs))):∃ t ts q qs x xs,rs=t::ts/\t.rows=q::qs/\q.rows=x::xs:=by
 have hS:=aZ.1 hd;obtain ⟨x,y,z,c,tl,e,hx,hy,hz,hc⟩:=h;cases rs with
 | nil=>simp [ae,dA]at e
 | cons t ts =>
  have hn:=P9 (lw hS.1 0 (by simp)).1;simp only [List.getElem_cons_zero]at hn;have e2:(116::121::112::101::32::(t.name.data.toList++10::((dP (eF t.rows)).data.toList++(dA (ae ts)).data.toList)))=116::121::112::101::32::x::y::z::10::c::tl:=by
   rw [<-e];show _=(dA (⟨t.name,eF t.rows⟩::ae ts)).data.toList;simp [dA,mD,ByteArray.data_append]
  simp only [List.cons.injEq,true_and]at e2;have key:(dP (eF t.rows)).data.toList++(dA (ae ts)).data.toList=c::tl:=by
   generalize (dP (eF t.rows)).data.toList++(dA (ae ts)).data.toList=rest at e2;generalize t.name.data.toList=nm at e2 hn
   match nm,e2,hn with
   | [],e2,_=>simp at e2;exact absurd e2.1.symm hx
   | [a],e2,_=>simp at e2;exact absurd e2.2.1.symm hy
   | [a,b],e2,_=>simp at e2;exact absurd e2.2.2.1.symm hz
   | [a,b,d],e2,_=>simp at e2;exact e2.2.2.2
   | a::b::d::f::nm,e2,hn=>simp at e2;exact absurd e2.2.2.2.1 (hn f (by simp))
  cases hr:t.rows with
  | nil =>
   rw [hr]at key;cases ts with
   | nil=>simp [eF,dP,ae,dA]at key
   | cons u us =>
    have:(dA (ae (u::us))).data.toList.head?=some 116:=by
     show (dA (⟨u.name,eF u.rows⟩::ae us)).data.toList.head?=_;simp [dA,mD,ByteArray.data_append]
    simp only [eF,List.map_nil,dP]at key;rw [show ((⟨#[]⟩:ByteArray).data.toList++(dA (ae (u::us))).data.toList)=(dA (ae (u::us))).data.toList from rfl]at key;rw [key]at this;simp at this;exact absurd this hc
  | cons q qs =>
   obtain ⟨h1,-⟩:=(bu hS.1).2.2 t (by simp) q (by rw [hr];simp);have h2:=(lq h1).1;rw [aN]at h2;cases hq:q.rows with
   | nil=>rw [hq]at h2;simp at h2
   | cons x xs=>exact ⟨t,ts,q,qs,x,xs,rfl,hr,hq⟩
open Go.ChangeAt Go.ChangeShapes Go.Maps Go.RowKit Go.WideShapes
set_option maxRecDepth 8000 in
theorem M0 (b off cap:Nat)(ts:List Tp)(t:Tp)(w:af)(hlen:ts.length<=1000)(hcap:ts.length<=cap)(hs:kK w b off ts)(hb:b<w.heap.size)(hf:∀ x∈ts,x.fits)(ht:t.fits) :
  Calls prog 129 #[.slice (some ⟨b,off,none⟩) ts.length cap,.agg #[.string t.a,.string t.b,.string t.r,.string t.c,.string t.d,.string t.s]] w fun e w'=>∃ v:Value,e=.returned v/\w'.ownsRow w.heap.size 46 6 v (jL ts t).length (bH (jL ts t))/\ag w w':=by
 obtain ⟨iT,hiT,zT0,zT1,zT2⟩:=info_parts (P:=prog) (e:=46) (z:=.agg #[.string ⟨#[]⟩,.string ⟨#[]⟩,.string ⟨#[]⟩,.string ⟨#[]⟩,.string ⟨#[]⟩,.string ⟨#[]⟩]) (size:=6) (bytes:=96) (by kernel_rfl);have HIT:Hid (prog.info? 46=some iT/\iT.zero=some (.agg #[.string ⟨#[]⟩,.string ⟨#[]⟩,.string ⟨#[]⟩,.string ⟨#[]⟩,.string ⟨#[]⟩,.string ⟨#[]⟩])/\iT.size=6/\iT.bytes=96):=⟨hiT,zT0,zT1,zT2⟩;have HS:=aA hs;have HF:=aA hf;have HT:Hid t.fits:=ht;clear hs hf ht hiT zT0 zT1 zT2;obtain ⟨W0,hW0⟩:∃ W0,W0=w.alloc (.cells #[.string t.a,.string t.b,.string t.r,.string t.c,.string t.d,.string t.s] 46):=⟨_,rfl⟩;have HB0:=rV hW0;have HX0:Hid (uj W0 w.heap.size t):=by show uj _ _ _;rw [hW0];exact Ep w t _
 go_enter func129,ntmps129;go_wp2;rw [<-hW0];clear hW0;go_loopw [5] (fun i wr=>∃ k:Nat,k<=ts.length/\i=.int .i64 k/\Hid (∀ i (h:i<ts.length),i<k->ts[i].ahead t=true)/\Hid (ag w wr)/\Hid (uj wr w.heap.size t)) (fun i _=>ts.length-(intOf i).toNat);case atStart=>exact ⟨0,Ui _,rfl,fun i h hi=>by omega,HB0,HX0⟩
 clear HX0 HB0;obtain ⟨k,hk,rfl,HU,HB,HX⟩:=hrel;have hk1:=bF k;by_cases hlt:k<ts.length
 ·have hk2:(k:Int)<(ts.length:Int):=by omega
  obtain ⟨t0,t1,t2,t3,t4,t5⟩:=(HS.out.below HB.out hb) k hlt;obtain ⟨x0,x1,x2,x3,x4,x5,xl⟩:=HX.out;have hbr:b<wr.heap.size:=Uc hb HB.out.size;obtain ⟨f0,f1,f2,f3,f4,f5⟩:=HF.out _ (Ud hlt);obtain ⟨e0,e1,e2,e3,e4,e5⟩:=HT.out;have HA:Hid (∀ W,Calls prog 137 #[.agg #[.string ts[k].a,.string ts[k].b,.string ts[k].r,.string ts[k].c,.string ts[k].d,.string ts[k].s],.agg #[.string t.a,.string t.b,.string t.r,.string t.c,.string t.d,.string t.s]] W fun e w'=>e=.returned (.bool (ts[k].ahead t))/\ag W w'):=fun W=>nG _ _ _ _ _ _ _ _ _ _ _ _ W f0 f1 f2 f3 f4 f5 e0 e1 e2 e3 e4 e5;clear f0 f1 f2 f3 f4 f5 e0 e1 e2 e3 e4 e5;have H0:wr.drew.cell? ⟨b,off+k*6,none⟩=some (.string ts[k].a)/\wr.drew.cell? ⟨b,off+k*6+1,none⟩=some (.string ts[k].b)/\wr.drew.cell? ⟨b,off+k*6+2,none⟩=some (.string ts[k].r)/\wr.drew.cell? ⟨b,off+k*6+3,none⟩=some (.string ts[k].c)/\wr.drew.cell? ⟨b,off+k*6+4,none⟩=some (.string ts[k].d)/\wr.drew.cell? ⟨b,off+k*6+5,none⟩=some (.string ts[k].s)/\wr.drew.cell? ⟨w.heap.size,0,none⟩=some (.string t.a)/\wr.drew.cell? ⟨w.heap.size,1,none⟩=some (.string t.b)/\wr.drew.cell? ⟨w.heap.size,2,none⟩=some (.string t.r)/\wr.drew.cell? ⟨w.heap.size,3,none⟩=some (.string t.c)/\wr.drew.cell? ⟨w.heap.size,4,none⟩=some (.string t.d)/\wr.drew.cell? ⟨w.heap.size,5,none⟩=some (.string t.s)/\b<wr.drew.heap.size/\w.heap.size<wr.drew.heap.size/\ag w wr.drew:=⟨t0,t1,t2,t3,t4,t5,x0,x1,x2,x3,x4,x5,hbr,xl,HB.out.drew⟩;clear t0 t1 t2 t3 t4 t5 x0 x1 x2 x3 x4 x5;generalize hq:ts[k].ahead t=q at HA;cases q;case true=>
   have HQ:Hid (ts[k].ahead t=true):=hq;clear hq;go_wp2_with fail
   go_region_held3 (fun w'=>w'.cell? ⟨b,off+k*6,none⟩=some (.string ts[k].a)/\w'.cell? ⟨b,off+k*6+1,none⟩=some (.string ts[k].b)/\w'.cell? ⟨b,off+k*6+2,none⟩=some (.string ts[k].r)/\w'.cell? ⟨b,off+k*6+3,none⟩=some (.string ts[k].c)/\w'.cell? ⟨b,off+k*6+4,none⟩=some (.string ts[k].d)/\w'.cell? ⟨b,off+k*6+5,none⟩=some (.string ts[k].s)/\w'.cell? ⟨w.heap.size,0,none⟩=some (.string t.a)/\w'.cell? ⟨w.heap.size,1,none⟩=some (.string t.b)/\w'.cell? ⟨w.heap.size,2,none⟩=some (.string t.r)/\w'.cell? ⟨w.heap.size,3,none⟩=some (.string t.c)/\w'.cell? ⟨w.heap.size,4,none⟩=some (.string t.d)/\w'.cell? ⟨w.heap.size,5,none⟩=some (.string t.s)/\b<w'.heap.size/\w.heap.size<w'.heap.size/\ag w w')
    (first|assumption|exact Ku (by assumption) hbx|exact H0)
    (first|(go_at_call 137;refine (HA.out _).mono ?_;rintro e w' ⟨rfl,hbx⟩))
   rename_i hH;obtain ⟨-,-,-,-,-,-,x0,x1,x2,x3,x4,x5,-,xl,gB⟩:=hH;have HB2:=dw gB;have XA:=dw (OD x0 x1 x2 x3 x4 x5 xl);have YO:Hid (∀ i (h:i<ts.length),i<k+1->ts[i].ahead t=true):=fun i h hi=>by
    by_cases e:i=k
    ·subst e;exact HQ.out
    exact HU.out i h (by omega)
   clear x0 x1 x2 x3 x4 x5 gB hbx H0 HA HQ HU HB HX;go_wp2;go_roundw;case rel=>exact ⟨k+1,by omega,by go_num,YO,HB2,XA⟩
   simp [intOf] <;> omega
  have HQ:Hid (ts[k].ahead t=false):=hq;clear hq;go_wp2_with fail
  go_region_held3 (fun w'=>w'.cell? ⟨b,off+k*6,none⟩=some (.string ts[k].a)/\w'.cell? ⟨b,off+k*6+1,none⟩=some (.string ts[k].b)/\w'.cell? ⟨b,off+k*6+2,none⟩=some (.string ts[k].r)/\w'.cell? ⟨b,off+k*6+3,none⟩=some (.string ts[k].c)/\w'.cell? ⟨b,off+k*6+4,none⟩=some (.string ts[k].d)/\w'.cell? ⟨b,off+k*6+5,none⟩=some (.string ts[k].s)/\w'.cell? ⟨w.heap.size,0,none⟩=some (.string t.a)/\w'.cell? ⟨w.heap.size,1,none⟩=some (.string t.b)/\w'.cell? ⟨w.heap.size,2,none⟩=some (.string t.r)/\w'.cell? ⟨w.heap.size,3,none⟩=some (.string t.c)/\w'.cell? ⟨w.heap.size,4,none⟩=some (.string t.d)/\w'.cell? ⟨w.heap.size,5,none⟩=some (.string t.s)/\b<w'.heap.size/\w.heap.size<w'.heap.size/\ag w w')
   (first|assumption|exact Ku (by assumption) hbx|exact H0)
   (first|(go_at_call 137;refine (HA.out _).mono ?_;rintro e w' ⟨rfl,hbx⟩))
  rename_i hH;obtain ⟨-,-,-,-,-,-,x0,x1,x2,x3,x4,x5,-,xl,gB⟩:=hH;have HP:=dw (Kt ts t k hk HU.out (fun _=>HQ.out));have UU:=dw gB;have HXW:=dw (OD x0 x1 x2 x3 x4 x5 xl);clear hbx H0 HA HQ HU HB HX gB x0 x1 x2 x3 x4 x5;obtain ⟨W1,hW1⟩:∃ W1,W1=w'.alloc (.cells #[] 46):=⟨_,rfl⟩;have Vv:Hid (W1.ownsRow w'.heap.size 46 6 (.slice (some ⟨w'.heap.size,0,none⟩) 0 0) 0 []):=by
   show World.ownsRow _ _ _ _ _ _ _;rw [hW1];exact World.ownsRow_lit w' #[] 0 (Ue _) (by unfold maxLen;omega) (by simp)
  have VG:=rV hW1;have HR1:Hid (kK W1 b off ts):=(HS.out.below UU.out hb).below VG.out (Uc hb UU.out.size);have XC:=aA (HXW.out.below VG.out);have HB1:Hid (ag w W1):=UU.out.trans (VG.out.mono UU.out.size);have hWs:w.heap.size<w'.heap.size:=HXW.out.2.2.2.2.2.2;have hb1:b<W1.heap.size:=Uc hb HB1.out.size;have hkc:k<=cap:=by omega
  have hz1:w'.heap.size<=W1.heap.size:=VG.out.size;clear UU HXW VG;go_wp2_with (at_builtin;rw [<-hW1];clear hW1;refine wpList_append_own_at _ rfl _ _ 25 rfl w'.heap.size 46 iT (.agg #[.string ⟨#[]⟩,.string ⟨#[]⟩,.string ⟨#[]⟩,.string ⟨#[]⟩,.string ⟨#[]⟩,.string ⟨#[]⟩]) 6 96 underlying25 HIT.out.1 HIT.out.2.1 HIT.out.2.2.1 HIT.out.2.2.2 rfl (by decide) _ 0 [] rfl Vv.out ⟨b,off,none⟩ k cap (bH (ts.take k)) rfl (by rw [jg,UF];congr 1;omega) (tT (CW HR1.out k)) (rG _) (by unfold maxLen;omega) (by omega) hz1 ?_);intro v2 w2 hown2 Vd _ _;have UN:Hid (w2.ownsRow w'.heap.size 46 6 v2 k (bH (ts.take k))):=by
   show World.ownsRow _ _ _ _ _ _ _
   first|exact hown2|(rw [Uz,List.nil_append]at hown2;exact hown2)
  have hne:some w.heap.size≠Value.ownBlock (.slice (some ⟨w'.heap.size,0,none⟩) 0 0):=fun e=>by simp [Value.ownBlock]at e;omega
  have hnb:some b≠Value.ownBlock (.slice (some ⟨w'.heap.size,0,none⟩) 0 0):=fun e=>by simp [Value.ownBlock]at e;omega
  have XA:Hid (uj w2 w.heap.size t):=XC.out.grown Vd hne;have HR2:Hid (kK w2 b off ts):=pz HR1.out Vd hb1 hnb;have HB2:Hid (ag w w2):=HB1.out.grown Vd HB1.out.size (fun g hg=>by simp [Value.ownBlock]at hg;omega);have hz2:w'.heap.size<=w2.heap.size:=Uk hz1 Vd.size;clear hown2 Vd Vv XC HR1 HB1 hne hnb;obtain ⟨x0,x1,x2,x3,x4,x5,xl2⟩:=XA.out;obtain ⟨W3,hW3⟩:∃ W3,W3=w2.alloc (.cells #[.string t.a,.string t.b,.string t.r,.string t.c,.string t.d,.string t.s] 46):=⟨_,rfl⟩;have U9:Hid (W3.ownsRow w'.heap.size 46 6 v2 k (bH (ts.take k))):=by show World.ownsRow _ _ _ _ _ _ _;rw [hW3];exact UN.out.alloc _
  have WB:Hid (∀ j u,t.row[j]?=some u->W3.cell? ((⟨w2.heap.size,0,none⟩:Addr).add j)=some u):=by show ∀ j u,_;rw [hW3];exact CV w2 t
  have Xx:=rV hW3;have HB3:Hid (ag w W3):=HB2.out.trans (Xx.out.mono HB2.out.size);have HR3:Hid (kK W3 b off ts):=HR2.out.below Xx.out (Uc hb HB2.out.size);have hz3:w'.heap.size<=W3.heap.size:=Uk hz2 Xx.out.size;have hb3:b<W3.heap.size:=Uc hb HB3.out.size;clear Xx HB2 HR2 XA hb1 hz1 hz2;go_wp2_with (at_builtin;rw [<-hW3];clear hW3;refine wpList_append_own_at _ rfl _ _ 25 rfl w'.heap.size 46 iT (.agg #[.string ⟨#[]⟩,.string ⟨#[]⟩,.string ⟨#[]⟩,.string ⟨#[]⟩,.string ⟨#[]⟩,.string ⟨#[]⟩]) 6 96 underlying25 HIT.out.1 HIT.out.2.1 HIT.out.2.2.1 HIT.out.2.2.2 rfl (by decide) v2 k (bH (ts.take k)) rfl U9.out ⟨w2.heap.size,0,none⟩ 1 1 t.row rfl rfl WB.out (Ah _) (by unfold maxLen;omega) (by omega) hz3 ?_);intro v4 w4 Ve VF _ _;have hnb:some b≠v2.ownBlock:=fun e=>by have:=(UN.out.lt b e.symm).1;omega
  have HR4:Hid (kK w4 b off ts):=pz HR3.out VF hb3 hnb;have Vx:Hid (ag w w4):=HB3.out.grown VF HB3.out.size (fun g hg=>by have:=(UN.out.lt g hg).1;omega);have U4:=aA Ve;have XF:w'.heap.size<=w4.heap.size:=Uk hz3 VF.size;clear Ve VF U9 UN WB HB3 HR3 hb3 hz3 hnb x0 x1 x2 x3 x4 x5 xl2;have hdl:(ts.drop k).length=ts.length-k:=List.length_drop;clear hdl;go_wp2_with (at_builtin;refine wpList_append_own_at _ rfl _ _ 25 rfl w'.heap.size 46 iT (.agg #[.string ⟨#[]⟩,.string ⟨#[]⟩,.string ⟨#[]⟩,.string ⟨#[]⟩,.string ⟨#[]⟩,.string ⟨#[]⟩]) 6 96 underlying25 HIT.out.1 HIT.out.2.1 HIT.out.2.2.1 HIT.out.2.2.2 rfl (by decide) v4 (k+1) (bH (ts.take k)++t.row) rfl U4.out ⟨b,off+k*6,none⟩ (ts.length-k) (cap-k) (bH (ts.drop k)) rfl (by rw [jg,List.length_drop]) (tT (LB HR4.out k)) (rG _) (by unfold maxLen;omega) (by omega) XF ?_);intro v5 w5 hown5 hgr5 _ _;have V9:Hid (ag w w5):=Vx.out.grown hgr5 Vx.out.size (fun g hg=>by have:=(U4.out.lt g hg).1;omega);have hlp:(jL ts t).length=k+1+(ts.length-k):=by rw [HP.out];simp;omega
  have hown6:w5.ownsRow w'.heap.size 46 6 v5 (jL ts t).length (bH (jL ts t)):=by
   rw [hlp,HP.out,show ts.take k++t::ts.drop k=(ts.take k++[t])++ts.drop k by simp,ve,Ag];first|exact hown5|(rw [List.append_assoc];exact hown5)
  have Vw:=dw (fD hown6 (Nat.le_of_lt hWs));clear hown5 hown6 hgr5 hlp;go_wp2;go_ret;exact ⟨v5,rfl,Vw.out,V9.out⟩
 have hd:decide ((k:Int)<(ts.length:Int))=false:=by simp;omega
 go_wp2_with fail;go_quiet (fail);have HP:=dw (Kt ts t k hk HU.out (fun h=>absurd h hlt));obtain ⟨W9,YH⟩:∃ W9,wr.drewN nq=W9:=⟨_,rfl⟩;have UU:Hid (ag w W9):=by show Below _ _ _;rw [<-YH];exact ⟨HB.out.os,HB.out.tape,HB.out.output,HB.out.size,HB.out.block⟩
 have HXW:Hid (uj W9 w.heap.size t):=by show uj _ _ _;rw [<-YH];exact HX.out
 rw [YH];clear YH HU HB HX hd;obtain ⟨W1,hW1⟩:∃ W1,W1=W9.alloc (.cells #[] 46):=⟨_,rfl⟩;have Vv:Hid (W1.ownsRow W9.heap.size 46 6 (.slice (some ⟨W9.heap.size,0,none⟩) 0 0) 0 []):=by
  show World.ownsRow _ _ _ _ _ _ _;rw [hW1];exact World.ownsRow_lit W9 #[] 0 (Ue _) (by unfold maxLen;omega) (by simp)
 have VG:=rV hW1;have HR1:Hid (kK W1 b off ts):=(HS.out.below UU.out hb).below VG.out (Uc hb UU.out.size);have XC:=aA (HXW.out.below VG.out);have HB1:Hid (ag w W1):=UU.out.trans (VG.out.mono UU.out.size);have hWs:w.heap.size<W9.heap.size:=HXW.out.2.2.2.2.2.2;have hb1:b<W1.heap.size:=Uc hb HB1.out.size;have hkc:k<=cap:=by omega
 have hz1:W9.heap.size<=W1.heap.size:=VG.out.size;clear UU HXW VG;go_wp2_with (at_builtin;rw [<-hW1];clear hW1;refine wpList_append_own_at _ rfl _ _ 25 rfl W9.heap.size 46 iT (.agg #[.string ⟨#[]⟩,.string ⟨#[]⟩,.string ⟨#[]⟩,.string ⟨#[]⟩,.string ⟨#[]⟩,.string ⟨#[]⟩]) 6 96 underlying25 HIT.out.1 HIT.out.2.1 HIT.out.2.2.1 HIT.out.2.2.2 rfl (by decide) _ 0 [] rfl Vv.out ⟨b,off,none⟩ k cap (bH (ts.take k)) rfl (by rw [jg,UF];congr 1;omega) (tT (CW HR1.out k)) (rG _) (by unfold maxLen;omega) (by omega) hz1 ?_);intro v2 w2 hown2 Vd _ _;have UN:Hid (w2.ownsRow W9.heap.size 46 6 v2 k (bH (ts.take k))):=by
  show World.ownsRow _ _ _ _ _ _ _
  first|exact hown2|(rw [Uz,List.nil_append]at hown2;exact hown2)
 have hne:some w.heap.size≠Value.ownBlock (.slice (some ⟨W9.heap.size,0,none⟩) 0 0):=fun e=>by simp [Value.ownBlock]at e;omega
 have hnb:some b≠Value.ownBlock (.slice (some ⟨W9.heap.size,0,none⟩) 0 0):=fun e=>by simp [Value.ownBlock]at e;omega
 have XA:Hid (uj w2 w.heap.size t):=XC.out.grown Vd hne;have HR2:Hid (kK w2 b off ts):=pz HR1.out Vd hb1 hnb;have HB2:Hid (ag w w2):=HB1.out.grown Vd HB1.out.size (fun g hg=>by simp [Value.ownBlock]at hg;omega);have hz2:W9.heap.size<=w2.heap.size:=Uk hz1 Vd.size;clear hown2 Vd Vv XC HR1 HB1 hne hnb;obtain ⟨x0,x1,x2,x3,x4,x5,xl2⟩:=XA.out;obtain ⟨W3,hW3⟩:∃ W3,W3=w2.alloc (.cells #[.string t.a,.string t.b,.string t.r,.string t.c,.string t.d,.string t.s] 46):=⟨_,rfl⟩;have U9:Hid (W3.ownsRow W9.heap.size 46 6 v2 k (bH (ts.take k))):=by show World.ownsRow _ _ _ _ _ _ _;rw [hW3];exact UN.out.alloc _
 have WB:Hid (∀ j u,t.row[j]?=some u->W3.cell? ((⟨w2.heap.size,0,none⟩:Addr).add j)=some u):=by show ∀ j u,_;rw [hW3];exact CV w2 t
 have Xx:=rV hW3;have HB3:Hid (ag w W3):=HB2.out.trans (Xx.out.mono HB2.out.size);have HR3:Hid (kK W3 b off ts):=HR2.out.below Xx.out (Uc hb HB2.out.size);have hz3:W9.heap.size<=W3.heap.size:=Uk hz2 Xx.out.size;have hb3:b<W3.heap.size:=Uc hb HB3.out.size;clear Xx HB2 HR2 XA hb1 hz1 hz2;go_wp2_with (at_builtin;rw [<-hW3];clear hW3;refine wpList_append_own_at _ rfl _ _ 25 rfl W9.heap.size 46 iT (.agg #[.string ⟨#[]⟩,.string ⟨#[]⟩,.string ⟨#[]⟩,.string ⟨#[]⟩,.string ⟨#[]⟩,.string ⟨#[]⟩]) 6 96 underlying25 HIT.out.1 HIT.out.2.1 HIT.out.2.2.1 HIT.out.2.2.2 rfl (by decide) v2 k (bH (ts.take k)) rfl U9.out ⟨w2.heap.size,0,none⟩ 1 1 t.row rfl rfl WB.out (Ah _) (by unfold maxLen;omega) (by omega) hz3 ?_);intro v4 w4 Ve VF _ _;have hnb:some b≠v2.ownBlock:=fun e=>by have:=(UN.out.lt b e.symm).1;omega
 have HR4:Hid (kK w4 b off ts):=pz HR3.out VF hb3 hnb;have Vx:Hid (ag w w4):=HB3.out.grown VF HB3.out.size (fun g hg=>by have:=(UN.out.lt g hg).1;omega);have U4:=aA Ve;have XF:W9.heap.size<=w4.heap.size:=Uk hz3 VF.size;clear Ve VF U9 UN WB HB3 HR3 hb3 hz3 hnb x0 x1 x2 x3 x4 x5 xl2;have hdl:(ts.drop k).length=ts.length-k:=List.length_drop;clear hdl;by_cases hce:cap=k
 all_goals
  go_wp2_with (at_builtin;refine wpList_append_own_at _ rfl _ _ 25 rfl W9.heap.size 46 iT (.agg #[.string ⟨#[]⟩,.string ⟨#[]⟩,.string ⟨#[]⟩,.string ⟨#[]⟩,.string ⟨#[]⟩,.string ⟨#[]⟩]) 6 96 underlying25 HIT.out.1 HIT.out.2.1 HIT.out.2.2.1 HIT.out.2.2.2 rfl (by decide) v4 (k+1) (bH (ts.take k)++t.row) rfl U4.out _ (ts.length-k) _ (bH (ts.drop k)) rfl (by rw [jg,List.length_drop]) (LC (by omega) _ _) (rG _) (by unfold maxLen;omega) (by omega) XF ?_);intro v5 w5 hown5 hgr5 _ _;have V9:Hid (ag w w5):=Vx.out.grown hgr5 Vx.out.size (fun g hg=>by have:=(U4.out.lt g hg).1;omega);have hlp:(jL ts t).length=k+1+(ts.length-k):=by rw [HP.out];simp;omega
  have hown6:w5.ownsRow W9.heap.size 46 6 v5 (jL ts t).length (bH (jL ts t)):=by
   rw [hlp,HP.out,show ts.take k++t::ts.drop k=(ts.take k++[t])++ts.drop k by simp,ve,Ag];first|exact hown5|(rw [List.append_assoc];exact hown5)
  have Vw:=dw (fD hown6 (Nat.le_of_lt hWs));clear hown5 hown6 hgr5 hlp;go_wp2;go_ret;exact ⟨v5,rfl,Vw.out,V9.out⟩
def r9 (ts:List Tp)(t:Tp):Bool:=dL ts&&t.ok && !wO ts t && !(ts.length==40)
def BU (ts:List Tp)(t:Tp):List Tp:=if r9 ts t then jL ts t else []
theorem Bu {ts:List Tp}{t:Tp}(h:r9 ts t=true):BU ts t=jL ts t:=by simp [BU,h]
theorem rT {ts:List Tp}{t:Tp}(h:r9 ts t=false):BU ts t=[]:=by simp [BU,h]
def Tf (w w':World)(e:Ending)(L:List Tp)(f:Bool):Prop:=∃ v:Value,e=.returned (.tuple #[v,.bool f])/\w'.ownsRow w.heap.size 46 6 v L.length (bH L)/\ag w w'
theorem sK (b off cap:Nat)(ts:List Tp)(t:Tp)(w:af)(hlen:ts.length<=1048576)(hcap:ts.length<=cap)(hs:kK w b off ts)(hb:b<w.heap.size)(hf:∀ x∈ts,x.fits)(ht:t.fits) :
  Calls prog 88 #[.slice (some ⟨b,off,none⟩) ts.length cap,.agg #[.string t.a,.string t.b,.string t.r,.string t.c,.string t.d,.string t.s]] w fun e w'=>Tf w w' e (BU ts t) (r9 ts t):=by
 have HF:=dw hf;have UY:=dw ht;obtain ⟨W0,hW0⟩:∃ W0,W0=w.alloc (.cells #[.string t.a,.string t.b,.string t.r,.string t.c,.string t.d,.string t.s] 46):=⟨_,rfl⟩;have HB0:=rV hW0;have HX0:Hid (uj W0 w.heap.size t):=by show uj _ _ _;rw [hW0];exact Ep w t _
 have HS:=dw hs;have SL:Hid (∀ W:World,ag w W->Sl W (some ⟨b,off,none⟩) ts):=fun W hB=>.inr ⟨b,off,rfl,Uc hb hB.size,HS.out.below hB hb⟩;have Vl:ts.length<=maxLen:=by unfold maxLen;omega
 have HT:=dw (oh (some ⟨b,off,none⟩) cap ts W0 Vl (SL.out _ HB0.out) hf);clear hs hf Vl ht;go_enter func88,ntmps88;go_wp2_with fail;rw [<-hW0];clear hW0;refine HT.out.mono ?_;rintro e w1 ⟨he,hb1⟩;have HB1:=jP HB0 hb1;have XC:=aA (HX0.out.below hb1);clear HT HX0 HB0 hb1;cases h1:dL ts;case false=>
  rw [h1]at he;subst he;have HR:Hid (r9 ts t=false):=by show _=_;simp [r9,h1]
  have HL:Hid (BU ts t=[]):=rT HR.out;clear h1;go_wp2
  go_ret2
  exact ⟨.slice none 0 0,by rw [HR.out];rfl,by rw [HL.out];exact World.ownsRow_nil _ _ _ _,HB1.out⟩
 rw [h1]at he;subst he;obtain ⟨x0,x1,x2,x3,x4,x5,xl⟩:=XC.out;have H1:=dw h1;obtain ⟨e0,e1,e2,e3,e4,e5⟩:=UY.out;have HH:=dw (dY t.a t.b t.r t.c t.d t.s w1 e0 e1 e2 e3 e4 e5);clear h1 e0 e1 e2 e3 e4 e5;go_wp2_with fail;refine HH.out.mono ?_;rintro e w2 ⟨he,hb2⟩;have HB2:=jP HB1 hb2;have XA:=aA (XC.out.below hb2);clear HH XC HB1 hb2 x0 x1 x2 x3 x4 x5 xl;cases h2:t.ok;case false=>
  have h2':bQ t.a t.b t.r t.c t.d t.s=false:=h2;rw [h2']at he;subst he;have HR:Hid (r9 ts t=false):=by show _=_;simp [r9,H1.out,h2]
  have HL:Hid (BU ts t=[]):=rT HR.out;clear h2 h2';go_wp2
  go_ret2
  exact ⟨.slice none 0 0,by rw [HR.out];rfl,by rw [HL.out];exact World.ownsRow_nil _ _ _ _,HB2.out⟩
 have h2':bQ t.a t.b t.r t.c t.d t.s=true:=h2;rw [h2']at he;subst he;have H2:=dw h2;obtain ⟨x0,x1,x2,x3,x4,x5,xl⟩:=XA.out;have HH:=dw (LD (some ⟨b,off,none⟩) cap ts t w2 hlen (SL.out _ HB2.out));clear h2 h2';go_wp2_with fail;refine HH.out.mono ?_;rintro e w3 ⟨he,hb3⟩;have HB3:=jP HB2 hb3;have HX3:=aA (XA.out.below hb3);clear HH XA HB2 hb3 x0 x1 x2 x3 x4 x5 xl;cases h3:wO ts t;case true=>
  rw [h3]at he;subst he;have HR:Hid (r9 ts t=false):=by show _=_;simp [r9,H1.out,H2.out,h3]
  have HL:Hid (BU ts t=[]):=rT HR.out;clear h3;go_wp2
  go_ret2
  exact ⟨.slice none 0 0,by rw [HR.out];rfl,by rw [HL.out];exact World.ownsRow_nil _ _ _ _,HB3.out⟩
 rw [h3]at he;subst he;have H3:=dw h3;clear h3;by_cases h4:ts.length=40
 ·have HR:Hid (r9 ts t=false):=by show _=_;simp [r9,H1.out,H2.out,H3.out,h4]
  have HL:Hid (BU ts t=[]):=rT HR.out;have h5:((ts.length:Int)==40)=true:=by simp;omega
  have H4:=dw h4;clear h4;go_wp2
  go_ret2
  exact ⟨.slice none 0 0,by rw [HR.out];rfl,by rw [HL.out];exact World.ownsRow_nil _ _ _ _,HB3.out⟩
 have HR:Hid (r9 ts t=true):=by show _=_;simp [r9,H1.out,H2.out,H3.out,h4]
 have HL:Hid (BU ts t=jL ts t):=Bu HR.out;have h5:((ts.length:Int)==40)=false:=by simp;omega
 have h40:=LA H1.out;obtain ⟨x0,x1,x2,x3,x4,x5,xl⟩:=HX3.out;have HP:=dw (M0 b off cap ts t w3 (by omega) hcap (HS.out.below HB3.out hb) (Uc hb HB3.out.size) HF.out UY.out);clear HX3;go_wp2_with fail;refine HP.out.mono ?_;rintro e w4 ⟨v4,rfl,hs4,hb4⟩;have HS4:=dw hs4;clear hs4 HP x0 x1 x2 x3 x4 x5 xl;go_wp2
 go_ret2
 exact ⟨v4,by rw [HR.out];rfl,by rw [HL.out];exact fD HS4.out HB3.out.size,HB3.out.trans (hb4.mono HB3.out.size)⟩
def Tp.short (t:Tp):Prop:=t.a.size<=20/\t.b.size<=20/\t.r.size<=20/\t.c.size<=20/\t.d.size<=20/\t.s.size<=20
theorem Tp.short.fits {t:Tp}(h:t.short):t.fits:=by unfold Tp.short at h;unfold Tp.fits maxLen;omega
def qZ (ts:List Tp):Prop:=∀ t∈ts,t.short
theorem qZ.fits {ts:List Tp}(h:qZ ts):∀ t∈ts,t.fits:=fun t ht=>(h t ht).fits
theorem M4:qZ []:=fun t ht=>by cases ht
theorem rU (ts:List Tp)(t:Tp):(jL ts t).length=ts.length+1:=by
 induction ts with
 | nil=>rfl
 | cons x xs ih =>
  unfold jL;split
  ·simp [ih]
  simp
theorem qZ.put {ts:List Tp}{t:Tp}(h:qZ ts)(ht:t.short):qZ (jL ts t):=fun x hx=>by
 rcases (OC ts t x).1 hx with rfl|k
 ·exact ht
 exact h x k
theorem oJ {w w':af}{R base n:Nat}{v:Value}{xs:List Value}(h:w.ownsRow base 46 6 v n xs)(hR:R<base)(hO:Only R w w'):w'.ownsRow base 46 6 v n xs :=
 h.kept hO (.inr fun e=>by have:=(h.lt R e).1;omega)
theorem nz {w:af}{base g n c:Nat}{ts:List Tp}(h:w.ownsRow base 46 6 (.slice (some ⟨g,0,none⟩) n c) n (bH ts))(hn:n=ts.length):kK w g 0 ts/\g<w.heap.size/\n<=c/\base<=g:=by
 have hlt:=h.lt g rfl;refine ⟨?_,hlt.2,?_,hlt.1⟩
 ·subst hn;intro i hi;have key:∀ j,j<6->w.cell? ⟨g,0+i*6+j,none⟩=(ts[i]).row[j]?:=fun j hj=>by
   rw [h.cellAt (0+i*6+j) (by have:=jg ts;omega),<-uZ ts i hi j hj,Uz]
  exact ⟨key 0 (by omega),key 1 (by omega),key 2 (by omega),key 3 (by omega),key 4 (by omega),key 5 (by omega)⟩
 rcases h.2 with ⟨e,-⟩|⟨g',cap',cur,e,-,-,hle,-⟩
 ·cases e
 injection e with e1 e2 e3;omega
theorem sM {W:af}{base:Nat}{e:TypeId}{size:Nat}{v:Value}{k:Nat}{xs:List Value}(h:W.ownsRow base e size v (k+1) xs):∃ g cap,v=.slice (some ⟨g,0,none⟩) (k+1) cap:=by
 rcases h.2 with ⟨_,h0⟩|⟨g,cap,_,rfl,_⟩
 ·omega
 exact ⟨g,cap,rfl⟩
theorem Rd.grown {w w':af}{R:Nat}{ad:Option Addr}{len cap:Nat}{row:Option Nat}(h:Rd w R ad len cap)(hg:w.grownBy w' row)(hR:some R≠row)(hb:0<len->∀ b off,ad=some ⟨b,off,none⟩->some b≠row):Rd w' R ad len cap where
 lt:=Uc h.lt hg.size
 code:=hg.cell h.code hR
 place:=by obtain ⟨p,hp,hl⟩:=h.place;exact ⟨p,hg.cell hp hR,hl⟩
 free:=(World.frozen?_of_block (w:=w) (a:=⟨R,1,none⟩) (hg.block R h.lt hR)).trans h.free
 bytes h0:=by
  obtain ⟨b,off,e,hne,hbl,hc⟩:=h.bytes h0;refine ⟨b,off,e,hne,Uc hbl hg.size,fun i hi=>?_⟩;obtain ⟨c,c0,c1,hcc⟩:=hc i hi;exact ⟨c,c0,c1,hg.cell hcc (hb h0 b off e)⟩
 small:=h.small
open Go.Shelf Go.Sort
set_option linter.unusedVariables false
set_option maxRecDepth 100000
theorem q8 (f:Fc)(w:af) :
  Calls prog 107 #[.agg #[.string f.a,.string f.b,.string f.r,.string f.c,.string f.d]] w fun e w'=>e=.returned (.agg #[.string f.a,.string f.b,.string f.r,.string f.c,.string f.d,.string ⟨#[]⟩])/\BelowD w.heap.size w w':=by
 go_enter func107,ntmps107;go_wp2;exact bodyPost_ret (v:=.agg #[.string f.a,.string f.b,.string f.r,.string f.c,.string f.d,.string ⟨#[]⟩]) (by simp [results,Tryz.results107,go_sem, *]) rfl ⟨rfl,⟨by
  repeat (first|exact Uf _ _|refine Below.setCell ?_ (by first|(simp;done)|(simp;omega)) _|refine Below.alloc ?_ (by first|(simp;done)|(simp;omega)) _),Ue _⟩⟩
def Rq (x y:Fc):Int:=IV x.a x.b x.r x.c x.d ⟨#[]⟩ y.a y.b y.r y.c y.d ⟨#[]⟩
theorem Rs {w W w':af}{n m:Nat}{x0 x1 x2 x3 x4 y0 y1 y2 y3 y4:Value}(h:W.cell? ⟨n,0,none⟩=some x0/\W.cell? ⟨n,1,none⟩=some x1/\W.cell? ⟨n,2,none⟩=some x2/\W.cell? ⟨n,3,none⟩=some x3/\W.cell? ⟨n,4,none⟩=some x4/\W.cell? ⟨m,0,none⟩=some y0/\W.cell? ⟨m,1,none⟩=some y1/\W.cell? ⟨m,2,none⟩=some y2/\W.cell? ⟨m,3,none⟩=some y3/\W.cell? ⟨m,4,none⟩=some y4/\BelowD w.heap.size w W)(hb:BelowD W.heap.size W w'):w'.cell? ⟨n,0,none⟩=some x0/\w'.cell? ⟨n,1,none⟩=some x1/\w'.cell? ⟨n,2,none⟩=some x2/\w'.cell? ⟨n,3,none⟩=some x3/\w'.cell? ⟨n,4,none⟩=some x4/\w'.cell? ⟨m,0,none⟩=some y0/\w'.cell? ⟨m,1,none⟩=some y1/\w'.cell? ⟨m,2,none⟩=some y2/\w'.cell? ⟨m,3,none⟩=some y3/\w'.cell? ⟨m,4,none⟩=some y4/\BelowD w.heap.size w w':=by
 obtain ⟨h0,h1,h2,h3,h4,g0,g1,g2,g3,g4,hB⟩:=h;exact ⟨bC hb.b (aG h0) h0,bC hb.b (aG h1) h1,bC hb.b (aG h2) h2,bC hb.b (aG h3) h3,bC hb.b (aG h4) h4,bC hb.b (aG g0) g0,bC hb.b (aG g1) g1,bC hb.b (aG g2) g2,bC hb.b (aG g3) g3,bC hb.b (aG g4) g4,hB.trans (hb.mono hB.size)⟩
theorem xw (x y:Fc)(w:af)(hx:x.fits)(hy:y.fits) :
  Calls prog 61 #[.agg #[.string x.a,.string x.b,.string x.r,.string x.c,.string x.d],.agg #[.string y.a,.string y.b,.string y.r,.string y.c,.string y.d]] w fun e w'=>e=.returned (.int .i64 (Rq x y))/\BelowD w.heap.size w w':=by
 have he0:(⟨#[]⟩:ByteArray).size<=maxLen:=by decide
 obtain ⟨x0,x1,x2,x3,x4⟩:=hx;obtain ⟨y0,y1,y2,y3,y4⟩:=hy;obtain ⟨W0,hW0⟩:∃ W0,W0=(w.alloc (.cells #[.string x.a,.string x.b,.string x.r,.string x.c,.string x.d] 29)).alloc (.cells #[.string y.a,.string y.b,.string y.r,.string y.c,.string y.d] 29):=⟨_,rfl⟩;have HB0:BelowD w.heap.size w W0:=by rw [hW0];exact Kv _ _ _
 have c0:W0.cell? ⟨w.heap.size,0,none⟩=some (.string x.a):=by rw [hW0];simp
 have c1:W0.cell? ⟨w.heap.size,1,none⟩=some (.string x.b):=by rw [hW0];simp
 have c2:W0.cell? ⟨w.heap.size,2,none⟩=some (.string x.r):=by rw [hW0];simp
 have c3:W0.cell? ⟨w.heap.size,3,none⟩=some (.string x.c):=by rw [hW0];simp
 have c4:W0.cell? ⟨w.heap.size,4,none⟩=some (.string x.d):=by rw [hW0];simp
 have e0:W0.cell? ⟨w.heap.size+1,0,none⟩=some (.string y.a):=by rw [hW0];simp
 have e1:W0.cell? ⟨w.heap.size+1,1,none⟩=some (.string y.b):=by rw [hW0];simp
 have e2:W0.cell? ⟨w.heap.size+1,2,none⟩=some (.string y.r):=by rw [hW0];simp
 have e3:W0.cell? ⟨w.heap.size+1,3,none⟩=some (.string y.c):=by rw [hW0];simp
 have e4:W0.cell? ⟨w.heap.size+1,4,none⟩=some (.string y.d):=by rw [hW0];simp
 unfold Rq;go_enter func61,ntmps61;go_wp2_with fail;rw [<-hW0];clear hW0
 go_region_held3 (fun w'=>w'.cell? ⟨w.heap.size,0,none⟩=some (.string x.a)/\w'.cell? ⟨w.heap.size,1,none⟩=some (.string x.b)/\w'.cell? ⟨w.heap.size,2,none⟩=some (.string x.r)/\w'.cell? ⟨w.heap.size,3,none⟩=some (.string x.c)/\w'.cell? ⟨w.heap.size,4,none⟩=some (.string x.d)/\w'.cell? ⟨w.heap.size+1,0,none⟩=some (.string y.a)/\w'.cell? ⟨w.heap.size+1,1,none⟩=some (.string y.b)/\w'.cell? ⟨w.heap.size+1,2,none⟩=some (.string y.r)/\w'.cell? ⟨w.heap.size+1,3,none⟩=some (.string y.c)/\w'.cell? ⟨w.heap.size+1,4,none⟩=some (.string y.d)/\BelowD w.heap.size w w')
  (first|assumption|exact Rs (by assumption) hbx|exact ⟨c0,c1,c2,c3,c4,e0,e1,e2,e3,e4,HB0.drew⟩)
  (first|(go_at_call_of 107 (Value.agg #[.string x.a,.string x.b,.string x.r,.string x.c,.string x.d]);refine (q8 x _).mono ?_;rintro e w' ⟨rfl,hbx⟩)|(go_at_call_of 107 (Value.agg #[.string y.a,.string y.b,.string y.r,.string y.c,.string y.d]);refine (q8 y _).mono ?_;rintro e w' ⟨rfl,hbx⟩)|(go_at_call 106;refine (tX x.a x.b x.r x.c x.d ⟨#[]⟩ y.a y.b y.r y.c y.d ⟨#[]⟩ _ x0 x1 x2 x3 x4 he0 y0 y1 y2 y3 y4 he0).mono ?_;rintro e w' ⟨rfl,hbx⟩))
 all_goals (rename_i hJ;obtain ⟨-,-,-,-,-,-,-,-,-,-,gB⟩:=hJ;clear c0 c1 c2 c3 c4 e0 e1 e2 e3 e4;go_wp2;go_ret;exact ⟨rfl,gB⟩)
abbrev KI:={ f:Fc // f.fits }
def oK (x:KI):List Value:=x.1.row
def TW (x y:KI):Int:=Rq x.1 y.1
def Fg (x:Fc):List UInt8:=(aY x.a x.b x.r x.c x.d ⟨#[]⟩).toList
def R3 (x y:KI):Bool:=Op.bytesLess (Fg x.1) (Fg y.1)
theorem Qa:ltOf TW=R3:=by
 funext x y
 unfold ltOf TW R3 Rq IV Fg;rw [uV,Go.ByteArray.toList_eq,Go.ByteArray.toList_eq]
theorem Rt:Go.Sort.SWO R3 where
 irrefl x:=Ls.lt_irrefl _
 trans x y z h k:=Ls.lt_trans _ _ _ h k
 ntrans x y z h k:=by
  cases e:R3 x z;case false=>rfl
  by_cases e1:Fg y.1=Fg x.1
  ·unfold R3 at *;rw [e1]at k;rw [k]at e;cases e
  rcases Ls.lt_total _ _ e1 with h1|h1
  ·have:R3 y z=true:=Ls.lt_trans _ _ _ h1 e;rw [k]at this;cases this
  have h:R3 x y=false:=h;have h1:R3 x y=true:=h1;rw [h]at h1;cases h1
theorem Qb [Inhabited KI](blk off size:Nat)(w:af):CmpLays prog 61 #[] oK 5 TW blk off size w:=fun m os dk _ x y =>
 (xw x.1 y.1 _ x.2 y.2).mono fun e w' ⟨he,hb⟩=>⟨he,hb.grew⟩
def kU (xs:List KI):List Fc:=xs.map (·.1)
theorem lJ (xs:List KI):(kU xs).length=xs.length:=by simp [kU]
theorem M5 [Inhabited KI](w:af)(blk off n:Nat)(d:Array KI)(os:Array Obj):Chg (fun g=>g=blk) w (sortWorldK oK 5 w blk off n d os):=by
 refine ⟨⟨rfl,rfl,rfl,?_,fun k hk=>absurd hk (UI _)⟩,fun k hk hne=>?_,fun g hg hf j=>?_⟩
 ·simp [sortWorldK,grow,putRowK,Sort.ahead]
 ·simp only [sortWorldK,putRowK];rw [heap_grow_old _ _ (by simpa [Sort.ahead] using hk)];have hne:blk≠k:=fun e=>hne e.symm;simp [putRow,mapBlock,Sort.ahead,Array.getElem?_modify,hne]
 simp only [sortWorldK,putRowK];rw [frozen?_grow _ _ _ (by simpa [Sort.ahead] using hg),frozen?_putRow,frozen?_ahead];exact hf j
theorem KJ [Inhabited KI]{w:af}{base g cap:Nat}{xs:List KI}(h:w.ownsRow base 29 5 (.slice (some ⟨g,0,none⟩) xs.length cap) xs.length (aI (kU xs))):HoldsK oK 5 w g 0 xs.toArray:=by
 intro t ht;rw [size_flatK]at ht;have ht':t<xs.length*5:=by simpa using ht
 have hi:t / 5<xs.length:=by omega
 have hr:t % 5<5:=Nat.mod_lt _ (by omega);refine ⟨?_,by rw [Uz];exact h.frozenAt t⟩;rw [Uz,h.cellAt t ht',get_flatK _ _ _ _ ht];have e:t=t / 5*5+t % 5:=by omega
 have h1:=qU (kU xs) (t / 5) (by rw [lJ];exact hi) (t % 5) hr;rw [<-e]at h1;rw [h1];have h2:(xs.toArray)[t / 5]! = xs[t / 5]:=by rw [getElem!_pos xs.toArray _ (by simpa using hi)];simp
 rw [h2];have h3:(kU xs)[t / 5]'(by rw [lJ];exact hi)=xs[t / 5].1:=by simp [kU]
 rw [h3];have hl:t % 5<(Fc.row xs[t / 5].1).length:=hr;show _=some ((Fc.row xs[t / 5].1)[t % 5]!);rw [Uj hl,getElem!_pos (Fc.row xs[t / 5].1) (t % 5) hl]
theorem TS [Inhabited KI]{w:af}{base g n cap:Nat}{xs ys:List KI}(h0:w.ownsRow base 29 5 (.slice (some ⟨g,0,none⟩) n cap) n (aI (kU xs)))(hx:xs.length=n)(hl:ys.length=n)(m:Nat)(os:Array Obj):(sortWorldK oK 5 w g 0 m ys.toArray os).ownsRow base 29 5 (.slice (some ⟨g,0,none⟩) n cap) n (aI (kU ys)):=by
 subst hx;have hg:=(h0.lt g rfl).2;have hH:=holdsK_sortWorldK_c oK 5 w g 0 xs.toArray ys.toArray m os (KJ h0) hg (by simpa using hl);have hlen:(aI (kU ys)).length=xs.length*5:=by rw [lG,lJ,hl]
 refine ⟨hlen,.inr ?_⟩;rcases h0.2 with ⟨e,-⟩|⟨g',cap',cur,e,h1,h2,h3,h4,h5,-⟩
 ·cases e
 injection e with e1 e2 e3;injection e1 with e1;injection e1 with e1;subst e1;subst e3;have hb:(sortWorldK oK 5 w g 0 m ys.toArray os).heap[g]?=some (.cells (putCells id 0 (flatK oK 5 ys.toArray) cur) 29 (0,0)):=by
  simp only [sortWorldK,putRowK];rw [heap_grow_old _ _ (by simpa [Sort.ahead] using hg)];simp [putRow,mapBlock,Sort.ahead,Array.getElem?_modify,h2,onCells]
 refine ⟨g,cap,_,rfl,h1,hb,h3,h4,by simp only [putCells,Array.size_mapIdx];exact h5,?_⟩;refine List.ext_getElem? fun j=>?_;by_cases hj:j<xs.length*5
 ·rw [List.getElem?_take_of_lt hj];have hi:j / 5<ys.length:=by omega
  have h6:=(hH j (by rw [size_flatK];simpa [hl] using hj)).1;rw [Uz,get_flatK _ _ _ _ (by simpa [hl] using hj)]at h6;replace h6:(sortWorldK oK 5 w g 0 m ys.toArray os).cell? ⟨g,j,none⟩=some ((oK (ys.toArray)[j / 5]!)[j % 5]!):=h6;have h7:(putCells id 0 (flatK oK 5 ys.toArray) cur).toList[j]?=some ((oK (ys.toArray)[j / 5]!)[j % 5]!):=by
   rw [<-h6];simp [World.cell?,hb]
  rw [h7];have e:j=j / 5*5+j % 5:=by omega
  have h8:=qU (kU ys) (j / 5) (by rw [lJ];exact hi) (j % 5) (Nat.mod_lt _ (by omega));rw [<-e]at h8;rw [h8];have h9:(ys.toArray)[j / 5]! = ys[j / 5]:=by rw [getElem!_pos ys.toArray _ (by simpa using hi)];simp
  have h10:(kU ys)[j / 5]'(by rw [lJ];exact hi)=ys[j / 5].1:=by simp [kU]
  rw [h9,h10];have hl2:j % 5<(Fc.row ys[j / 5].1).length:=Nat.mod_lt _ (by omega);show some ((Fc.row ys[j / 5].1)[j % 5]!)=_;rw [Uj hl2,getElem!_pos (Fc.row ys[j / 5].1) (j % 5) hl2]
 rw [List.getElem?_eq_none (by rw [UF];omega),List.getElem?_eq_none (by omega)]
theorem M7 (base g cap:Nat)(fs:List Fc)(w:af)(hf:∀ f∈fs,f.fits)(hR:w.ownsRow base 29 5 (.slice (some ⟨g,0,none⟩) fs.length cap) fs.length (aI fs))(hne:fs≠[])(h6:fs.length<=200000) :
  Calls prog 60 #[.slice (some ⟨g,0,none⟩) fs.length cap,.func (.func 61) #[] #[]] w fun e w'=>e=.returned (.tuple #[])/\∃ ys:List Fc,ys.Perm fs/\ys.Pairwise (fun x y=>Op.bytesLess (Fg y) (Fg x)=false)/\w'.ownsRow base 29 5 (.slice (some ⟨g,0,none⟩) fs.length cap) fs.length (aI ys)/\Chg (fun k=>k=g) w w':=by
 obtain ⟨xs,hxs⟩:∃ xs:List KI,kU xs=fs:=⟨fs.attach.map fun x=>⟨x.1,hf x.1 x.2⟩,by unfold kU;rw [List.map_map];simp [Function.comp_def]⟩;subst hxs;rw [lJ]at hR h6 ⊢;cases xs with
 | nil=>exact absurd rfl hne
 | cons x0 xs0 =>
  letI:Inhabited KI:=⟨x0⟩
  have hg:=hR.lt g rfl;have eg:∀ args w,(callFunc 61 args).run prog w=.ok (.enter 61 args) w:=enters_of func61 (by kernel_rfl) rfl;have hs:=AnyQ.slices_SortFunc Tryz.sortF 5 Tryz.isAgg29 Tryz.sizeOf29 oK (fun _=>rfl) (fun x v hv=>by simp [oK,Fc.row]at hv;rcases hv with rfl|rfl|rfl|rfl|rfl <;> rfl) TW (by rw [Qa];exact Rt) 61 #[] g 0 cap (x0::xs0).toArray w eg (Qb g 0 _ w) (KJ hR) hg.2 (by simp at h6 ⊢;omega)
  change Calls prog 60 _ _ _ at hs
  rw [Qa]at hs;refine hs.mono fun e w' ⟨he,d',n,os,hp,hso,hw⟩=>⟨he,kU d'.toList,?_,?_,?_,?_⟩
  ·have:=hp.2.2;have h2:d'.toList.Perm (x0::xs0):=by simpa [Array.extract_eq_self_of_le,hp.1] using this
   exact h2.map _
  ·have hz:d'.size=xs0.length+1:=by simpa using hp.1
   unfold kU;rw [List.pairwise_map,List.pairwise_iff_getElem];intro i j hi hj hij;have hi2:i<d'.size:=by simpa using hi
   have hj2:j<d'.size:=by simpa using hj
   have hlt:=hso i j (Ui _) hij (by rw [hz]at hj2;simpa using hj2);rw [getElem!_pos d' j hj2,getElem!_pos d' i hi2]at hlt;exact hlt
  ·rw [hw];have hz:d'.toList.length=(x0::xs0).length:=by simpa using hp.1
   have:=TS hR rfl hz n os;simpa using this
  rw [hw];exact M5 w g 0 n d' os
theorem Hg (p:Option Addr)(cap:Nat)(fv:Value)(w:af) :
  Calls prog 149 #[.slice p 0 cap,.int .i64 0,.int .i64 0,fv] w fun e w'=>e=.returned (.tuple #[])/\w'=w:=by
 go_enter func149,ntmps149;go_wp2_with fail;go_loopw [8] (fun i wr=>i=.int .i64 1/\wr=w) (fun _ _=>0);case atStart=>exact ⟨rfl,rfl⟩
 obtain ⟨rfl,rfl⟩:=hrel;go_wp2
 go_end0
 exact ⟨rfl,rfl⟩
theorem Qc (p:Option Addr)(cap:Nat)(lim:Int)(fv:Value)(w:af) :
  Calls prog 104 #[.slice p 0 cap,.int .i64 0,.int .i64 0,.int .i64 lim,fv] w fun e w'=>e=.returned (.tuple #[])/\w'=w:=by
 go_enter func104,ntmps104;go_wp2_with fail;go_loopw [1,2] (fun a b wr=>a=.int .i64 0/\b=.int .i64 0/\wr=w) (fun _ _ _=>0);case atStart=>exact ⟨rfl,rfl,rfl⟩
 obtain ⟨rfl,rfl,rfl⟩:=hrel;go_wp2_with fail;refine (Hg p cap fv _).mono ?_;rintro e w1 ⟨rfl,rfl⟩;go_wp2;refine bodyPost_ret (results_none rfl _ _ _) rfl ?_;exact ⟨rfl,rfl⟩
theorem M8 (p:Option Addr)(cap:Nat)(fv:Value)(w:af) :
  Calls prog 60 #[.slice p 0 cap,fv] w fun e w'=>e=.returned (.tuple #[])/\w'=w:=by
 go_enter func60,ntmps60;go_wp2_with fail;refine (Tryz.bits_Len 0 _ (by omega) (by omega)).mono ?_;rintro e w1 ⟨rfl,rfl⟩;go_wp2_with fail;refine (Qc p cap _ fv _).mono ?_;rintro e w1 ⟨rfl,rfl⟩;go_wp2
 go_end0
 exact ⟨rfl,rfl⟩
theorem Tg {P:Nat->Prop}(h:∃ n,P n):∃ n,P n/\∀ m,P m->n<=m:=by
 obtain ⟨n,hn⟩:=h
 induction n using Nat.strongRecOn with
 | ind n ih =>
  by_cases hx:∃ m,m<n/\P m
  ·obtain ⟨m,hm,hp⟩:=hx;exact ih m hm hp
  exact ⟨n,hn,fun m hm=>Nat.le_of_not_lt fun hlt=>hx ⟨m,hlt,hm⟩⟩
theorem Qd {ts:List Ty}(h:∃ f,Sol ts f):∃ f,Least ts f:=by
 have key:∀ k,∃ n:Nat,(∃ g,Sol ts g/\g k=(n:Int))/\∀ m:Nat,(∃ g,Sol ts g/\g k=(m:Int))->n<=m:=fun k=>Tg (by
  obtain ⟨f,hf⟩:=h;exact ⟨(f k).toNat,f,hf,by have:=hf.pos k;omega⟩)
 have low:∀ k g,Sol ts g->(((key k).choose:Nat):Int)<=g k:=fun k g hg=>by
  have h1:=(key k).choose_spec.2 (g k).toNat ⟨g,hg,by have:=hg.pos k;omega⟩;have:=hg.pos k;omega
 refine ⟨fun k=>(((key k).choose:Nat):Int),⟨fun k=>Int.natCast_nonneg _,fun k hk d hd=>?_⟩,fun k hk g hg=>low k g hg⟩;obtain ⟨g,hg,e⟩:=(key k).choose_spec.1;have h1:=low (d.typ,d.rel) g hg;have h2:=hg.up k hk d hd;show (((key (d.typ,d.rel)).choose:Nat):Int)+stepOf d<=(((key k).choose:Nat):Int);rw [<-e];exact Int.le_trans (Int.add_le_add_right h1 _) h2
theorem R4 (ts:List Ty):∃ st,aL ts=true->Least ts st:=by
 by_cases h:aL ts=true
 ·obtain ⟨st,hst⟩:=Qd (aZ.1 h).2.2;exact ⟨st,fun _=>hst⟩
 exact ⟨fun _=>0,fun h2=>absurd h2 h⟩
end Go.Proofs.YtajkkeikihhejaaGreat
