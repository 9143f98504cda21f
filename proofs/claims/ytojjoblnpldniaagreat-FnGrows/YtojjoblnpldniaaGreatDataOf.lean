/- The program's data out of a schema and tuples: right ones are laid out. -/
import Derived.Test.YtojjoblnpldniaaGreatSq
import Derived.Test.YtojjoblnpldniaaGreatJ20
import Derived.Test.YtojjoblnpldniaaGreatJ21
open Go.Proofs.Tryz
set_option maxHeartbeats 80000000
namespace Go.Proofs.YtojjoblnpldniaaGreat
set_option maxRecDepth 100000
set_option linter.unusedVariables false
open ChangeShapes WideShapes ChangeAt RowKit Maps
open Pl
def Uo(ts:Q0b)(w:World)(e:Ending)(w':World):Prop :=
 ((∃(b n:Nat) (σ:Ky->Option Int),e=.returned (.tuple #[.map (some b),.bool true])/\bP ts/\aJ dU prog 146 w' b n (iW σ)/\Least ts (fun k=>(σ k).getD 0)/\∀k,(∃x,σ k=some x)↔k∈ak ts)\/(e=.returned (.tuple #[.map none,.bool false])/\¬bP ts))/\ag w w'
theorem oH:∀ts:List Tp,(dW ts).length<=2*ts.length:=by
 have key:∀(ts:Q05) (xs:Q0a),(ts.foldl fM xs).length<=xs.length+2*ts.length:=by
  intro ts
  induction ts with
  | nil=>intro xs;simp
  | cons t ts ih =>
   intro xs;have h1:=ih (fM xs t);have h2:=qU xs t;simp only[List.foldl_cons,VS];omega
 intro ts;have:=key ts [];simpa[dW] using this
theorem mM:∀ts:List Tp,(bH ts).length<=ts.length:=by
 have key:∀(ts:Q05) (xs:Q0a),(ts.foldl cu xs).length<=xs.length+ts.length:=by
  intro ts
  induction ts with
  | nil=>intro xs;simp
  | cons t ts ih =>
   intro xs;have h1:=ih (cu xs t);have h2:=qV xs t;simp only[List.foldl_cons,VS];omega
 intro ts;have:=key ts [];simpa[bH] using this
def aW(fit:Tp->Bool)(rs:Q06)(ts:Q05):Bool:=aN (af rs)&&dH ts&&ts.all fit
def fe(f:Q00)(rs:Q06):List (KL×RR):=rs.flatMap fun t=>t.rows.map fun r=>((t.name,f (t.name,r.name)),r)
def jN(E:List (KL×RR)):Int:=E.foldl (fun m x=>max m (x.1.2+1)) 0
def U5(fit:Tp->Bool)(rs:Q06)(ts:Q05)(w:World)(e:Ending)(w':World):Prop :=
 ag w w'/\((aW fit rs ts=false/\e=.returned (.tuple #[.pointer none,.bool false])) \/
  (aW fit rs ts=true/\∃ (D br bp bt nr np:Nat) (Mr:KL->Option Value) (Mp:K3->Option Value) (vo vu:Value) (f:Q00),e=.returned (.tuple #[.pointer (some ⟨D,0,none⟩),.bool true])/\w.heap.size<=bt/\Least (af rs) f /\
   DatA w' rs D br bp bt (jN (fe f rs)) nr Mr (fe f rs) (dN ts) (dW ts) (bH ts) np Mp vo vu))
theorem QO{w:ae}{rs:Q06}{bt:Nat}(ht:aJ dU prog 146 w bt 36 (qd rs))(hl:bt<w.heap.size):
  DatA (((w.alloc (.map #[] 0)).alloc (.map #[] 0)).alloc (.cells #[.map (some bt),.int .i64 0,.map (some w.heap.size),.map (some (w.heap.size+1)),.slice none 0 0,.slice none 0 0] 194)) rs (w.heap.size+2) w.heap.size (w.heap.size+1) bt 0 0 (fun _=>none) [] [] [] [] 0 (fun _=>none) (.slice none 0 0) (.slice none 0 0):=by
 obtain⟨w1,h1⟩:∃w1,w1=w.alloc (.map #[] 0):=⟨_,rfl⟩;obtain⟨w2,h2⟩:∃w2,w2=w1.alloc (.map #[] 0):=⟨_,rfl⟩;have s1:w1.heap.size=w.heap.size+1:=by rw[h1];simp
 have s2:w2.heap.size=w.heap.size+2:=by rw[h2];simp;omega
 rw[<-h1,<-h2];have b1:ag w w1:=by rw[h1];exact(Vs _ _).alloc (Vr _) _
 have b2:ag w1 w2:=by rw[h2];exact(Vs _ _).alloc (Vr _) _
 have b3:∀o,ag w2 (w2.alloc o):=fun o=>(Vs _ _).alloc (Vr _) _;have g1:Fw w1 w.heap.size 0 (fun _=>none) []:=by rw[h1];exact G.grp_made w
 have g2:G.Grp qy prog 273 29 6 Tp.row w2 (w.heap.size+1) 0 (fun _=>none) []:=by
  have:=G.grp_made (enc:=qy) (P:=prog) (kt:=273) (et:=29) (sz:=6) (cl:=Tp.row) w1;rw[s1]at this;rw[h2];exact this
 rw[<-s2];refine⟨⟨by omega,by simp,⟨_,heap_alloc_new w2 _⟩,by simp,by simp,by simp,by simp,by simp,by simp,g2.below (b3 _),World.ownsRow_nil _ _ _ _,World.ownsRow_nil _ _ _ _,fun g e=>by simp[Value.ownBlock]at e⟩,((ht.below b1).below b2).below (b3 _),(g1.below b2).below (b3 _),hl,by omega⟩
theorem QP{p:Tp->Bool}{ts:Q05}{k:Nat}(h:k<ts.length):(ts.take (k+1)).all p=((ts.take k).all p&&p ts[k]):=by
 rw[Vu h,WC];simp
theorem Sn{p:Tp->Bool}{ts:Q05}{k:Nat}(h:k<ts.length)(hp:p ts[k]=false):ts.all p=false:=by
 rw[List.all_eq_false];exact⟨_,Vp h,by rw[hp];decide⟩
theorem za{rs:Q06}(h6:rs.length<=6)(hr:∀r∈rs,r.rows.length<=6):(ak (af rs)).length<=36:=by
 have key:∀l:List TR,(∀r∈l,r.rows.length<=6)->(ak (af l)).length<=6*l.length:=by
  intro l
  induction l with
  | nil=>intro _;simp[ak,af]
  | cons r l ih =>
   intro h;have h1:=ih fun q hq=>h q (V4 _ hq);have h2:=h r (by simp);have e:ak (af (r::l))=jI r.p++ak (af l):=by simp[ak,af]
   have e2:(jI r.p).length=r.rows.length:=by unfold jI;rw[Wy];exact rM _
   rw[e,Vx,e2,VS];omega
 have:=key rs hr;omega
theorem QQ{rs:Q06}{σ:Ky->Option Int}(hS:bP (af rs))(h6:rs.length<=6)(hr:∀r∈rs,r.rows.length<=6)(hL:Least (af rs) (fun k=>(σ k).getD 0))(hk:∀k,(∃x,σ k=some x)↔k∈ak (af rs))(y:Ky):0<=(σ y).getD 0/\(σ y).getD 0<=36:=by
 refine⟨hL.sol.pos y,?_⟩;cases e:σ y with
 | none=>simp
 | some x =>
  have hy:y∈ak (af rs):=(hk y).1 ⟨x,e⟩;obtain⟨g,hg,hb⟩:=hL.sol.few (kG hS.2.1);have h1:=hL.low y hy g hg;have h2:=hb y hy;have h3:=za h6 hr;simp only[e]at h1;omega
def xC(f:Ky->Int)(n:ByteArray)(r:RR):KL×RR:=((n,f (n,r.name)),r)
theorem NM(f:Ky->Int){rs:Q06}{k:Nat}(h:k<rs.length):fe f (rs.take (k+1))=fe f (rs.take k)++rs[k].rows.map (xC f rs[k].name):=by
 unfold fe;rw[Vu h,Wj];simp[xC]
theorem Ic(E:List (KL×RR))(x:KL×RR):jN (E++[x])=max (jN E) (x.1.2+1):=by simp[jN]
theorem QR:∃i,prog.info? 39=some i/\i.zero=some (.agg #[.string ⟨#[]⟩,.slice none 0 0])/\i.size=2/\i.bytes=40 :=
 info_parts (P:=prog) (e:=39) (z:=.agg #[.string ⟨#[]⟩,.slice none 0 0]) (size:=2) (bytes:=40) (by kernel_rfl)
theorem QS(u:ae):(zeroValue 34).run prog u=.ok (.slice none 0 0) u:=by kernel_rfl
theorem Sq(u:ae):(zeroValue 2).run prog u=.ok (.int .i64 0) u:=by kernel_rfl
theorem D8{w:ae}{br nr:Nat}{Mr:KL->Option Value}{E:List (KL×RR)}(h:Fw w br nr Mr E)(k:KL):w.ownsRow (br+1) 39 2 ((Mr k).getD (.slice none 0 0)) (G.lookL E k).length (G.flatG Sc (G.lookL E k)):=by
 rcases h.row k with⟨e,e2⟩|⟨v,e,ho⟩
 ·rw[e,e2];exact World.ownsRow_nil _ _ _ _
 rw[e];exact ho
theorem QT{w W w':ae}{D g:Nat}{y x0 x1 x2 x3 x4 x5:Value}(h:W.cell? ⟨D,0,none⟩=some y/\W.cell? ⟨g,0,none⟩=some x0/\W.cell? ⟨g,1,none⟩=some x1/\W.cell? ⟨g,2,none⟩=some x2/\W.cell? ⟨g,3,none⟩=some x3/\W.cell? ⟨g,4,none⟩=some x4/\W.cell? ⟨g,5,none⟩=some x5/\D<W.heap.size/\g<W.heap.size/\ag w W)(hb:ag W w'):w'.cell? ⟨D,0,none⟩=some y/\w'.cell? ⟨g,0,none⟩=some x0/\w'.cell? ⟨g,1,none⟩=some x1/\w'.cell? ⟨g,2,none⟩=some x2/\w'.cell? ⟨g,3,none⟩=some x3/\w'.cell? ⟨g,4,none⟩=some x4/\w'.cell? ⟨g,5,none⟩=some x5/\D<w'.heap.size/\g<w'.heap.size/\ag w w':=by
 obtain⟨h0,g0,g1,g2,g3,g4,g5,hn,hm,hB⟩:=h;have hc:∀o,w'.cell? ⟨D,o,none⟩=W.cell? ⟨D,o,none⟩:=fun o=>hb.cell (p:=⟨D,o,none⟩) hn;have hd:∀o,w'.cell? ⟨g,o,none⟩=W.cell? ⟨g,o,none⟩:=fun o=>hb.cell (p:=⟨g,o,none⟩) hm;exact⟨(hc _).trans h0,(hd _).trans g0,(hd _).trans g1,(hd _).trans g2,(hd _).trans g3,(hd _).trans g4,(hd _).trans g5,Vq hn hb.size,Vq hm hb.size,hB.trans (hb.mono hB.size)⟩
theorem Kq(fit:Tp->Bool)(ad:Q02)(cap:Nat)(rs:Q06)(WS:Q02)(cap':Nat)(ts:Q05)(w:ae)(hlen:rs.length<=1048576)(hs:mP w ad rs)(hl:∀r∈rs,r.light)(hfr:∀r∈rs,r.fits)(hC:Calls prog 112 #[.slice ad rs.length cap] w (Uo (af rs) w))(hfb:aN (af rs)=true->∀t:Tp,t.ok=true->sW (af rs) t.a t.r ⟨t.c,t.s⟩=fit t)(hlt:ts.length<=1048576)(hst:Sl w WS ts)(hft:∀x∈ts,x.fits):
  Calls prog 55 #[.slice ad rs.length cap,.slice WS ts.length cap'] w (U5 fit rs ts w):=by
 have HS:=aD hs;have HL:=aD hl;have YQ:=aD hfr;have HST:=aD hst;have WR:=aD hft;have HC:=aD hC;have HFB:=aD hfb;obtain⟨iR,i0,i1,i2,i3⟩:=QR;have XM:=aD (And.intro i0 (And.intro i1 (And.intro i2 i3)));clear i0 i1 i2 i3;have Xa:ts.length<=maxLen:=by unfold maxLen;omega
 clear hs hl hfr hC hfb hst hft;go_enter func55,ntmps55;go_wp2_with fail;refine HC.out.mono ?_;rintro e w1 ⟨hL,hb1⟩;have HB1:=aD hb1;clear HC hb1;rcases hL with⟨bS,nS,σ,rfl,hS,hM,YV,hk⟩|⟨rfl,hno⟩
 ·have HSD:Hid (aN (af rs)=true):=bu.2 hS;have HM:=aD hM;have XA:=aD YV;have HKE:=aD hk;have hSP:=hS;obtain⟨h6,Yt,-⟩:=bq hSP.1;have HTAB:=aD (wX hSP.1);have Ym:=aD Yt;clear hM YV hk hS hSP Yt;go_wp2_with fail;refine(oq WS cap' ts _ Xa (HST.out.below HB1.out) WR.out).mono ?_;rintro e w2 ⟨he,hb2⟩;have HB2:=aD (HB1.out.trans (hb2.mono HB1.out.size));have Xr:=aD (HM.out.below hb2);clear hb2 HM;cases h2:dH ts;case false=>
   rw[h2]at he;subst he;have HN:Hid (aW fit rs ts=false):=by show _=_;unfold aW;rw[h2];simp
   clear h2;go_wp2;exact bodyPost_ret (v:=.tuple #[.pointer none,.bool false]) (by simp[results,Tryz.results55,go_sem]) rfl ⟨HB2.out,.inl ⟨HN.out,rfl⟩⟩
  rw[h2]at he;subst he;have HTU:=aD (Lv h2);have Zx:Hid (aW fit rs ts=ts.all (fit)):=by show _=_;unfold aW;rw[h2,HSD.out];simp
  have h40:ts.length<=40:=HTU.out.2.2;have HTBL:=aD (qN ad cap rs w2 h6 (HS.out.below HB2.out) Ym.out YQ.out);clear h2;go_wp2_with fail;refine HTBL.out.mono ?_;rintro e w3 ⟨rfl,hV3,hb3⟩;have HB3:=aD (HB2.out.trans (hb3.mono HB2.out.size));have hbt:w2.heap.size<w3.heap.size:=hV3.lt;have hw2:w.heap.size<=w2.heap.size:=HB2.out.size;have ZW:=aD (Xr.out.below hb3);have HDN:=aD (QO hV3 hbt);obtain⟨bt,hbte⟩:∃b,b=w2.heap.size:=⟨_,rfl⟩;obtain⟨br,hbre⟩:∃b,b=w3.heap.size:=⟨_,rfl⟩;rw[<-hbte]at HDN hbt hw2 ⊢;obtain⟨W,hW⟩:∃W,W=((w3.alloc (.map #[] 0)).alloc (.map #[] 0)).alloc (.cells #[.map (some bt),.int .i64 0,.map (some w3.heap.size),.map (some (w3.heap.size+1)),.slice none 0 0,.slice none 0 0] 194):=⟨_,rfl⟩;rw[<-hW]at HDN;have hmm:=@run_makeMap prog;have HBW0:Hid (ag w3 W):=by
   show Below _ _ _;rw[hW];exact(((Vs _ _).alloc (Vr _) _).alloc (by simp) _).alloc (by simp;omega) _
  have HMW:=aD (ZW.out.below HBW0.out);have WP:=aD (HB3.out.trans (HBW0.out.mono HB3.out.size));have hbS:bS<br:=by rw[hbre];exact ZW.out.lt
  clear hb3 hV3 HTBL hbte;obtain⟨D,hDe⟩:∃b,b=br+2:=⟨_,rfl⟩;obtain⟨bp,hbpe⟩:∃b,b=br+1:=⟨_,rfl⟩;rw[<-hbre]at HDN;rw[<-hDe,<-hbpe]at HDN;have hDW:D<W.heap.size:=HDN.out.dat.lt;go_wp2_with fail;rw[<-hW,show w3.heap.size+1+1=D by omega,show w3.heap.size+1=bp by omega,<-hbre];have hwbr:w.heap.size<=br:=by rw[hbre];exact HB3.out.size
  have hbtr:bt<br:=by rw[hbre];exact hbt
  clear hbt;clear hbre hDe hbpe hW hmm HBW0;go_loopw[37] (fun i wr=>∃k:Nat,k<=ts.length/\i=.int .i64 (k:Int)/\Hid ((ts.take k).all (fit)=true)/\Hid (∃Mp vo vu,DatA wr rs D br bp bt 0 0 (fun _=>none) [] (dN (ts.take k)) (dW (ts.take k)) (bH (ts.take k)) k Mp vo vu)/\Hid (Below br W wr)) (fun i _=>ts.length-(intOf i).toNat);case atStart=>exact⟨0,Vv _,rfl,rfl,⟨_,_,_,by simpa[dN,dW,bH] using HDN.out⟩,Vs _ _⟩
  obtain⟨k,hk,rfl,WX,ZQ,HB⟩:=hrel;have YN:Hid (ag w wr):=WP.out.trans (HB.out.mono hwbr);by_cases hkl:k<ts.length
  ·rcases HST.out.below YN.out with hnil|⟨b,off,rfl,hb,hr⟩
   ·rw[hnil]at hkl;simp at hkl
   obtain⟨t0,t1,t2,t3,t4,t5⟩:=hr k hkl;have hk1:=bC k;have hk2:(k:Int)<(ts.length:Int):=by omega
   have HAT:=aD (QP (p:=fit) hkl);have HAH:=aD (Sn (p:=fit) hkl);have Zh:=aD (WR.out _ (Vp hkl));have HXO:=aD (HTU.out.2.1 _ (Vp hkl));have HTK:Hid (ts.take (k+1)=ts.take k++[ts[k]]):=Vu hkl;obtain⟨x,hx⟩:∃x,x=ts[k]:=⟨_,rfl⟩;rw[<-hx]at t0 t1 t2 t3 t4 t5 HAT HAH Zh HXO HTK;obtain⟨W4,XT⟩:∃W4,W4=wr.alloc (.cells #[.string x.a,.string x.b,.string x.r,.string x.c,.string x.d,.string x.s] 29):=⟨_,rfl⟩;have hb4:ag wr W4:=by rw[XT];exact(Vs _ _).alloc (Vr _) _
   have hx4:uH W4 wr.heap.size x:=by rw[XT];exact yY wr x _
   obtain⟨Mp,vo,vu,Yl⟩:=ZQ.out;have HD4:=aD (Yl.below hb4);have HX4:=aD hx4;have HBw4:=aD (YN.out.trans (hb4.mono YN.out.size));have Y7:=aD (HB.out.trans (hb4.mono (by have:=HB.out.size;have:=HDN.out.ord;have:=HDN.out.dat.gt;omega)));have HLF:Hid (∀W',(fun w'=>w'.cell? ⟨D,0,none⟩=some (.map (some bt))/\w'.cell? ⟨wr.heap.size,0,none⟩=some (.string x.a)/\w'.cell? ⟨wr.heap.size,1,none⟩=some (.string x.b)/\w'.cell? ⟨wr.heap.size,2,none⟩=some (.string x.r)/\w'.cell? ⟨wr.heap.size,3,none⟩=some (.string x.c)/\w'.cell? ⟨wr.heap.size,4,none⟩=some (.string x.d)/\w'.cell? ⟨wr.heap.size,5,none⟩=some (.string x.s)/\D<w'.heap.size/\wr.heap.size<w'.heap.size/\ag W4 w') W'->Calls prog 64 #[.map (some bt),.agg #[.string x.a,.string x.b,.string x.r,.string x.c,.string x.d,.string x.s]] W' fun e w'=>e=.returned (.bool (fit x))/\ag W' w'):=fun W' hS'=>by
    have hb':=hS'.2.2.2.2.2.2.2.2.2;refine(Hq bt 36 rs ad (qd rs) x.a x.b x.r x.c x.d x.s W' ((HD4.out.tab).below hb') HTAB.out (HS.out.below (HBw4.out.trans (hb'.mono HBw4.out.size))) HL.out Zh.out.1 Zh.out.2.2.1).mono ?_;rintro e w6 ⟨rfl,hb6⟩;exact⟨by rw[HFB.out HSD.out x HXO.out],hb6⟩
   have H0:Hid ((fun w'=>w'.cell? ⟨D,0,none⟩=some (.map (some bt))/\w'.cell? ⟨wr.heap.size,0,none⟩=some (.string x.a)/\w'.cell? ⟨wr.heap.size,1,none⟩=some (.string x.b)/\w'.cell? ⟨wr.heap.size,2,none⟩=some (.string x.r)/\w'.cell? ⟨wr.heap.size,3,none⟩=some (.string x.c)/\w'.cell? ⟨wr.heap.size,4,none⟩=some (.string x.d)/\w'.cell? ⟨wr.heap.size,5,none⟩=some (.string x.s)/\D<w'.heap.size/\wr.heap.size<w'.heap.size/\ag W4 w') W4.drew):=⟨HD4.out.dat.c0,hx4.1,hx4.2.1,hx4.2.2.1,hx4.2.2.2.1,hx4.2.2.2.2.1,hx4.2.2.2.2.2.1,HD4.out.dat.lt,hx4.2.2.2.2.2.2,(Vs _ _).drew⟩;have ho40:=oH (ts.take k);have hu40:=mM (ts.take k);have hte:(dN (ts.take k)).length<=40:=by unfold dN;simp;omega
   have htl:(ts.take k).length<=40:=by rw[Wi];omega
   have HALK:=WX;clear hr hx hx4 Yl hb4 ZQ HB WX;cases hfx:fit x;case false=>
    rw[hfx]at HLF;go_wp2_with fail;rw[<-XT];clear XT
    go_region_held3 (fun w'=>w'.cell? ⟨D,0,none⟩=some (.map (some bt))/\w'.cell? ⟨wr.heap.size,0,none⟩=some (.string x.a)/\w'.cell? ⟨wr.heap.size,1,none⟩=some (.string x.b)/\w'.cell? ⟨wr.heap.size,2,none⟩=some (.string x.r)/\w'.cell? ⟨wr.heap.size,3,none⟩=some (.string x.c)/\w'.cell? ⟨wr.heap.size,4,none⟩=some (.string x.d)/\w'.cell? ⟨wr.heap.size,5,none⟩=some (.string x.s)/\D<w'.heap.size/\wr.heap.size<w'.heap.size/\ag W4 w')
     (first|assumption|exact QT (by assumption) hbx|exact H0.out)
     (first|(go_at_call 64;refine(HLF.out _ (by assumption)).mono ?_;rintro e w' ⟨rfl,hbx⟩))
    rename_i hH;have HBE:Hid (ag w _):=HBw4.out.trans (hH.2.2.2.2.2.2.2.2.2.mono HBw4.out.size);have HN:Hid (aW fit rs ts=false):=Zx.out.trans (HAH.out hfx);clear hH;go_wp2;exact bodyPost_ret (v:=.tuple #[.pointer none,.bool false]) (by simp[results,Tryz.results55,go_sem]) rfl ⟨HBE.out,.inl ⟨HN.out,rfl⟩⟩
   rw[hfx]at HLF;go_wp2_with fail;rw[<-XT];clear XT
   go_region_held3 (fun w'=>w'.cell? ⟨D,0,none⟩=some (.map (some bt))/\w'.cell? ⟨wr.heap.size,0,none⟩=some (.string x.a)/\w'.cell? ⟨wr.heap.size,1,none⟩=some (.string x.b)/\w'.cell? ⟨wr.heap.size,2,none⟩=some (.string x.r)/\w'.cell? ⟨wr.heap.size,3,none⟩=some (.string x.c)/\w'.cell? ⟨wr.heap.size,4,none⟩=some (.string x.d)/\w'.cell? ⟨wr.heap.size,5,none⟩=some (.string x.s)/\D<w'.heap.size/\wr.heap.size<w'.heap.size/\ag W4 w')
    (first|assumption|exact QT (by assumption) hbx|exact H0.out)
    (first|(go_at_call 64;refine(HLF.out _ (by assumption)).mono ?_;rintro e w' ⟨rfl,hbx⟩))
   rename_i hH;obtain⟨-,y0,y1,y2,y3,y4,y5,-,yl,hbH⟩:=hH;rename_i w5;have HD5:=aD (HD4.out.below hbH);have HBw5:=aD (HBw4.out.trans (hbH.mono HBw4.out.size));have HBW5:=aD (Y7.out.trans (hbH.mono (by have:=HD4.out.ord;have:=HD4.out.dat.gt;have:=HD4.out.dat.lt;omega)));have HALN:Hid ((ts.take (k+1)).all fit=true):=by show _=_;rw[HAT.out,HALK.out,hfx];rfl
   clear hbH;go_wp2_with fail;refine(QE D br bp _ 0 _ _ _ k Mp vo vu x _ HD5.out.dat (by omega) (by omega) (by omega) (by omega) Zh.out).mono ?_;rintro e w6 ⟨rfl,⟨Mp',Zr,Zt,hd6⟩,hb6⟩;have HDN6:Hid (∃Mp vo vu,DatA w6 rs D br bp bt 0 0 (fun _=>none) [] (dN (ts.take (k+1))) (dW (ts.take (k+1))) (bH (ts.take (k+1))) (k+1) Mp vo vu):=by
    rw[HTK.out,JK,Aw,xZ];exact⟨Mp',Zr,Zt,HD5.out.tell hd6 hb6⟩
   have HBW6:Hid (Below br W w6):=HBW5.out.trans (hb6.mono (by have:=HD4.out.ord;omega));clear hd6 hb6;go_wp2;go_roundw;case rel=>exact⟨k+1,by omega,by go_num,HALN,HDN6,HBW6⟩
   simp[intOf]<;>omega
  obtain rfl:k=ts.length:=by omega
  rw[VI]at WX ZQ;have HRT:Hid (aW fit rs ts=true):=Zx.out.trans WX.out;obtain⟨Mp,vo,vu,Yl⟩:=ZQ.out;have HD0:=aD Yl;obtain⟨f,hf⟩:∃f:Ky->Int,f=fun k=>(σ k).getD 0:=⟨_,rfl⟩;have HF:=aD hf;have HLS:Hid (Least (af rs) f):=by rw[hf];exact XA.out
  have HF36:Hid (∀y,0<=f y/\f y<=36):=by rw[hf];exact QQ (bu.1 HSD.out) h6 Ym.out XA.out HKE.out
  obtain⟨wz,hwz⟩:∃wz,wz=wr:=⟨_,rfl⟩;subst hwz;have hkk:decide ((ts.length:Int)<(ts.length:Int))=false:=by simp
  clear Yl ZQ WX hf XA HTU Zx;go_wp2_with fail;go_loopw[54] (fun i wr=>∃k:Nat,k<=rs.length/\i=.int .i64 (k:Int)/\Hid ((fe f (rs.take k)).length<=6*k)/\Hid (∃nr Mr,nr<=6*k/\DatA wr rs D br bp bt (jN (fe f (rs.take k))) nr Mr (fe f (rs.take k)) (dN ts) (dW ts) (bH ts) ts.length Mp vo vu)/\Hid (Below br W wr)) (fun i _=>rs.length-(intOf i).toNat);case atStart=>exact⟨0,Vv _,rfl,Vv _,⟨0,_,Vv _,HD0.out⟩,HB⟩
  clear HD0 HB YN;obtain⟨k,hk,rfl,Yo,ZQ,HB⟩:=hrel;have YN:Hid (ag w wr):=WP.out.trans (HB.out.mono hwbr);by_cases hkl:k<rs.length
  ·rcases HS.out.below YN.out with hnil|⟨b,off,rfl,hb,hr,hok⟩
   ·rw[hnil]at hkl;simp at hkl
   obtain⟨t0,t1⟩:=hr k hkl;have hk1:=bC k;have hk2:(k:Int)<(rs.length:Int):=by omega
   have h6k:rs[k].rows.length<=6:=Ym.out _ (Vp hkl);have z0:rs[k].name.size<=maxLen:=(YQ.out _ (Vp hkl)).1;have HFRk:Hid (∀q∈rs[k].rows,q.fits):=(YQ.out _ (Vp hkl)).2.2;have HSU:=aD (NM f hkl);obtain⟨W1,hW1⟩:∃W1,W1=wr.alloc (.cells #[.string rs[k].name,.slice rs[k].ad rs[k].rows.length rs[k].cap] 36):=⟨_,rfl⟩;have hal:ag wr W1:=by rw[hW1];exact(Vs _ _).alloc (Vr _) _
   obtain⟨nr,Mr,hnr,Yl⟩:=ZQ.out;have HD1:=aD (Yl.below hal);have hbrz:br<wr.heap.size:=by have:=Yl.ord;have:=Yl.dat.gt;have:=Yl.dat.lt;omega
   have HB1:Hid (Below br W W1):=HB.out.trans (hal.mono (by omega));have HT1:Hid (W1.heap[wr.heap.size]?=some (.cells #[.string rs[k].name,.slice rs[k].ad rs[k].rows.length rs[k].cap] 36 (0,0))):=by rw[hW1];exact heap_alloc_new wr _
   have a1:W1.cell? ⟨wr.heap.size,1,none⟩=some (.slice rs[k].ad rs[k].rows.length rs[k].cap):=by rw[hW1];simp
   clear hr hok hal Yl ZQ;go_wp2_with fail;rw[<-hW1];clear hW1 t0 t1 a1 HB;obtain⟨wo,hwo⟩:∃wo,wo=wr:=⟨_,rfl⟩;subst hwo;go_loopw[61] (fun i w2=>∃j:Nat,j<=rs[k].rows.length/\i=.int .i64 (j:Int)/\Hid (∃nr Mr,nr<=6*k+j/\DatA w2 rs D br bp bt (jN (fe f (rs.take k)++(rs[k].rows.take j).map (xC f rs[k].name))) nr Mr (fe f (rs.take k)++(rs[k].rows.take j).map (xC f rs[k].name)) (dN ts) (dW ts) (bH ts) ts.length Mp vo vu)/\Hid (w2.heap[wo.heap.size]?=some (.cells #[.string rs[k].name,.slice rs[k].ad rs[k].rows.length rs[k].cap] 36 (0,0)))/\Hid (Below br W w2)) (fun i _=>rs[k].rows.length-(intOf i).toNat);case atStart=>exact⟨0,Vv _,rfl,⟨nr,Mr,by omega,by simpa using HD1.out⟩,HT1,HB1⟩
   clear HD1 HT1 HB1 YN;obtain⟨j,hj,rfl,ZQ,HT,HB⟩:=hrel;have YN:Hid (ag w wr):=WP.out.trans (HB.out.mono hwbr);by_cases hjl:j<rs[k].rows.length
   ·rcases HS.out.below YN.out with hnil|⟨b',off',he,hb2,hr,hok⟩
    ·rw[hnil]at hkl;simp at hkl
    injection he with he;injection he with he1 he2;subst he1;subst he2;have ok:=hok rs[k] (Vp hkl);rcases ok with hnil|⟨b2,Xd,had,hbb,hr2,-⟩
    ·rw[hnil]at hjl;simp at hjl
    obtain⟨q0,q1⟩:=hr2 j hjl;have z1:rs[k].rows[j].name.size<=maxLen:=(HFRk.out _ (Vp hjl)).1;have hj1:=bC j;have hj2:(j:Int)<(rs[k].rows.length:Int):=by omega
    obtain⟨kl,hkl'⟩:=kv (rs[k].name,rs[k].rows[j].name) z0 z1;have Xw:=aD hkl';obtain⟨nr,Mr,hnr,Yl⟩:=ZQ.out;have HTKE:Hid ((rs[k].rows.take (j+1)).map (xC f rs[k].name)=(rs[k].rows.take j).map (xC f rs[k].name)++[xC f rs[k].name rs[k].rows[j]]):=by show _=_;rw[Vu hjl,Wu];rfl
    have hEl:((rs[k].rows.take j).map (xC f rs[k].name)).length=j:=by rw[Wy,Wi];omega
    obtain⟨E0,hE0⟩:∃E0,E0=fe f (rs.take k)++(rs[k].rows.take j).map (xC f rs[k].name):=⟨_,rfl⟩;have hE0l:E0.length<=36:=by rw[hE0,Vx,hEl];have:=Yo.out;omega
    rw[<-hE0]at Yl;have YJ:=aD hE0;obtain⟨fv,hfv⟩:∃fv,fv=f (rs[k].name,rs[k].rows[j].name):=⟨_,rfl⟩;have hfv36:=HF36.out (rs[k].name,rs[k].rows[j].name);rw[<-hfv]at hfv36;obtain⟨hfv0,hfv1⟩:=hfv36;have HFV:=aD hfv;have HLK:Hid ((iW σ (rs[k].name,rs[k].rows[j].name)).getD (.int .i64 0)=.int .i64 fv):=by
     show _=_;rw[hfv,HF.out];unfold iW;cases h:σ (rs[k].name,rs[k].rows[j].name)<;>simp[h]
    obtain⟨W2,hW2⟩:∃W2,W2=wr.alloc (.cells #[.string rs[k].rows[j].name,.slice rs[k].rows[j].ad rs[k].rows[j].rows.length rs[k].rows[j].cap] 39):=⟨_,rfl⟩;obtain⟨W3,hW3⟩:∃W3,W3=W2.alloc (.cells #[.string rs[k].name,.int .i64 fv] 197):=⟨_,rfl⟩;have hs2:W2.heap.size=wr.heap.size+1:=by rw[hW2];simp
    have hs3:W3.heap.size=wr.heap.size+2:=by rw[hW3];simp;omega
    have hal2:ag wr W2:=by rw[hW2];exact(Vs _ _).alloc (Vr _) _
    have ZH:ag W2 W3:=by rw[hW3];exact(Vs _ _).alloc (Vr _) _
    have hwol:wo.heap.size<wr.heap.size:=by
     rcases Nat.lt_or_ge wo.heap.size wr.heap.size with h|h
     ·exact h
     have:=HT.out;rw[Array.getElem?_eq_none h]at this;cases this
    have HFRB:Hid (G.FreeB Mr wr.heap.size):=Yl.rel.fresh (Vr _);have Xr:Hid (aJ dU prog 146 W2 bS nS (iW σ)):=HMW.out.of_block (by rw[hal2.block bS (by omega),HB.out.block bS hbS]);have HD3:=aD ((Yl.below hal2).below ZH);have HB3':Hid (Below br W W3):=(HB.out.trans (hal2.mono (by omega))).trans (ZH.mono (by omega));have HT3:Hid (W3.heap[wo.heap.size]?=some (.cells #[.string rs[k].name,.slice rs[k].ad rs[k].rows.length rs[k].cap] 36 (0,0))):=by show _=_;rw[ZH.block _ (by omega),hal2.block _ (by omega)];exact HT.out
    have c0:wr.cell? ⟨wo.heap.size,0,none⟩=some (.string rs[k].name):=by simp[World.cell?,HT.out]
    have c0b:W2.cell? ⟨wo.heap.size,0,none⟩=some (.string rs[k].name):=(hal2.cell (p:=⟨wo.heap.size,0,none⟩) (by show wo.heap.size<_;omega)).trans c0;have g0:W2.cell? ⟨wr.heap.size,0,none⟩=some (.string rs[k].rows[j].name):=by rw[hW2];simp
    have HR2:Hid (W3.cell? ⟨wr.heap.size,0,none⟩=some (.string rs[k].rows[j].name)/\W3.cell? ⟨wr.heap.size,1,none⟩=some (.slice rs[k].rows[j].ad rs[k].rows[j].rows.length rs[k].rows[j].cap)/\W3.cell? ⟨wr.heap.size+1,0,none⟩=some (.string rs[k].name)/\W3.cell? ⟨wr.heap.size+1,1,none⟩=some (.int .i64 fv)):=by
     show _/\_;rw[hW3,hW2];refine⟨?_,?_,?_,?_⟩<;>simp
    rw[had];clear hr hok hr2 hkl' Yl ZQ hal2 ZH HT HB hE0 hfv hEl;go_wp2_with(first|(at_lookup;rw[<-hW2];refine jA _ rfl _ _ 169 rfl 146 2 iY underlying169 (Sq _) bS nS (iW σ) rfl Xr.out (rs[k].name,rs[k].rows[j].name) kl rfl Xw.out ?_;rw[HLK.out]));rw[<-hW2,<-hW3];clear hW2 hW3 g0 c0b c0 q0 q1 HLK Xr;obtain⟨row0,hr0⟩:∃r,r=(Mr (rs[k].name,fv)).getD (.slice none 0 0):=⟨_,rfl⟩;obtain⟨nn,hnn⟩:∃n,n=(G.lookL E0 (rs[k].name,fv)).length:=⟨_,rfl⟩;obtain⟨xs,hxs⟩:∃x,x=G.flatG Sc (G.lookL E0 (rs[k].name,fv)):=⟨_,rfl⟩;have XI:=aD hr0;have YP:=aD hnn;have Zm:=aD hxs;have hnl:nn<=36:=by rw[hnn];exact Vz (WE _ _) hE0l
    have XB:Hid (∀W0:World,ag W3 W0->W0.ownsRow (br+1) 39 2 row0 nn xs):=fun W0 hb=>by rw[hr0,hnn,hxs];exact D8 (HD3.out.rel.below hb) _
    have HKEY:Hid (∃kl,keyOf prog 197 (Gc (rs[k].name,fv))=some kl):=Lc _ z0 hfv0 (by show fv<=1000000;omega);have hDl:D<W3.heap.size:=HD3.out.dat.lt;have hbrD:br<D:=by have:=HD3.out.ord;have:=HD3.out.dat.gt;omega
    clear hr0 hnn hxs;obtain⟨C2,hC2⟩:∃C:Nat->Value,C=fun n=>(Value.pointer (some ⟨D,0,none⟩)::.pointer (some ⟨D,0,none⟩)::.pointer (some ⟨D,2,none⟩)::.map (some br)::.agg #[.string rs[k].name,.int .i64 fv]::.agg #[.string rs[k].rows[j].name,.slice rs[k].rows[j].ad rs[k].rows[j].rows.length rs[k].rows[j].cap]::[]).getD n undef:=⟨_,rfl⟩;have Xg:Hid (C2 0=Value.pointer (some ⟨D,0,none⟩)/\C2 1=Value.pointer (some ⟨D,0,none⟩)/\C2 2=Value.pointer (some ⟨D,2,none⟩)/\C2 3=Value.map (some br)/\C2 4=Value.agg #[.string rs[k].name,.int .i64 fv]/\C2 5=Value.agg #[.string rs[k].rows[j].name,.slice rs[k].rows[j].ad rs[k].rows[j].rows.length rs[k].rows[j].cap]):=by show _/\_;rw[hC2];exact⟨rfl,rfl,rfl,rfl,rfl,rfl⟩
    clear hC2;refine pU 11 (fun n=>(u76::u77::u78::u79::u80::u82::u83::u84::u81::u85::u86::[]).getD n undef) (fun fq=>{ tmps:=List.toArray (Value.slice (some ⟨b,off,none⟩) rs.length cap::.slice WS ts.length cap'::undef::undef::u4::u5::.map (some bS)::.bool true::.pointer (some ⟨D,0,none⟩)::undef::u10::undef::.pointer (some ⟨wo.heap.size,0,none⟩)::undef::.pointer (some ⟨wr.heap.size,0,none⟩)::.int .i64 fv::.pointer (some ⟨wr.heap.size+1,0,none⟩)::.tuple #[.map (some bS),.bool true]::.slice (some ⟨b,off,none⟩) rs.length cap::.tuple #[.map (some bS),.bool true]::.map (some bS)::.bool true::.bool true::.bool false::.bool false::.slice WS ts.length cap'::.bool true::.bool false::.bool false::.slice (some ⟨b,off,none⟩) rs.length cap::.map (some bt)::.map (some br)::.map (some bp)::.agg #[.map (some bt),.int .i64 0,.map (some br),.map (some bp),.slice none 0 0,.slice none 0 0]::.pointer (some ⟨D,0,none⟩)::.slice WS ts.length cap'::.int .i64 ts.length::.int .i64 ts.length::.bool false::u39::u40::u41::u42::u43::u44::u45::u46::u47::u48::u49::u50::u51::.slice (some ⟨b,off,none⟩) rs.length cap::.int .i64 rs.length::.int .i64 k::.bool true::.pointer (some ⟨b,off+k*2,none⟩)::.agg #[.string rs[k].name,.slice (some ⟨b2,Xd,none⟩) rs[k].rows.length rs[k].cap]::.pointer (some ⟨wo.heap.size,1,none⟩)::.slice (some ⟨b2,Xd,none⟩) rs[k].rows.length rs[k].cap::.int .i64 rs[k].rows.length::.int .i64 j::.bool true::.pointer (some ⟨b2,Xd+j*2,none⟩)::.agg #[.string rs[k].rows[j].name,.slice rs[k].rows[j].ad rs[k].rows[j].rows.length rs[k].rows[j].cap]::.map (some bS)::.pointer (some ⟨wo.heap.size,0,none⟩)::.string rs[k].name::.pointer (some ⟨wr.heap.size,0,none⟩)::.string rs[k].rows[j].name::.agg #[.string rs[k].name,.string rs[k].rows[j].name]::.int .i64 fv::.pointer (some ⟨wo.heap.size,0,none⟩)::.string rs[k].name::.int .i64 fv::.agg #[.string rs[k].name,.int .i64 fv]::(fq 0)::(fq 1)::(fq 2)::(fq 3)::(fq 4)::(fq 8)::(fq 5)::(fq 6)::(fq 7)::(fq 9)::(fq 10)::u87::u88::u89::u90::u91::u92::u93::u94::u95::u96::u97::u98::undef::[]),defers:=[] }) (G.EI C2 #[.string rs[k].rows[j].name,.slice rs[k].rows[j].ad rs[k].rows[j].rows.length rs[k].rows[j].cap] 39 2 W3 br row0 nn xs (G.Back Gc prog 197 190 br nr Mr (rs[k].name,fv))) (by kernel_rfl) rfl (by kernel_rfl) (by kernel_rfl) rfl (G.ei_start W3) ?stepA ?finA;case stepA =>
     rintro i hi o ho l fq w' X9 hI hpre;have HI:=aC hI;have WT:Hid (∀e∈o.after,Region.binds .any e=true->l e.on=true):=hpre;clear hI hpre;have hc:=Oy (i:=i) (by omega);clear hi
     repeat' rcases hc with rfl|hc
     ·cases ho;have hA:=HI.out.early (i:=0) (by omega) X9;clear WT HI;refine aa rfl fun K HK=>?_;go_simp;exact HK.out _ _ ⟨Value.pointer (some ⟨D,0,none⟩),by simp[upd, *],hA.put (by omega) Xg.out.1.symm⟩
     ·cases ho;have hA:=HI.out.early (i:=1) (by omega) X9;have e0:=(hA.val 0 (by omega) (WT.out ⟨0,.data⟩ (by simp) rfl)).trans Xg.out.1;clear WT HI;refine aa rfl fun K HK=>?_;simp only[e0];go_simp;exact HK.out _ _ ⟨Value.pointer (some ⟨D,0,none⟩),by simp[upd, *],hA.put (by omega) Xg.out.2.1.symm⟩
     ·cases ho;have hA:=HI.out.early (i:=2) (by omega) X9;have e1:=(hA.val 1 (by omega) (WT.out ⟨1,.data⟩ (by simp) rfl)).trans Xg.out.2.1;clear WT HI;refine aa rfl fun K HK=>?_;simp only[e1];go_simp;exact HK.out _ _ ⟨Value.pointer (some ⟨D,2,none⟩),by simp[upd, *],hA.put (by omega) Xg.out.2.2.1.symm⟩
     ·cases ho;have hA:=HI.out.early (i:=3) (by omega) X9;have e2:=(hA.val 2 (by omega) (WT.out ⟨2,.data⟩ (by simp) rfl)).trans Xg.out.2.2.1;have hb':=hA.bel;have d2:=(hb'.cell (p:=⟨D,2,none⟩) hDl).trans HD3.out.dat.c2;clear WT HI;refine aa rfl fun K HK=>?_;simp only[e2];go_simp;exact HK.out _ _ ⟨Value.map (some br),by simp[upd, *],hA.put (by omega) Xg.out.2.2.2.1.symm⟩
     ·cases ho;have hA:=HI.out.early (i:=4) (by omega) X9;have hb':=hA.bel;have k0:=(hb'.cell (p:=⟨wr.heap.size+1,0,none⟩) (by show wr.heap.size+1<_;omega)).trans HR2.out.2.2.1;have k1:=(hb'.cell (p:=⟨wr.heap.size+1,1,none⟩) (by show wr.heap.size+1<_;omega)).trans HR2.out.2.2.2;clear WT HI;refine aa rfl fun K HK=>?_;go_simp;exact HK.out _ _ ⟨Value.agg #[.string rs[k].name,.int .i64 fv],by simp[upd, *],hA.put (by omega) Xg.out.2.2.2.2.1.symm⟩
     ·cases ho;have hA:=HI.out.early (i:=5) (by omega) X9;have hb':=hA.bel;have k0:=(hb'.cell (p:=⟨wr.heap.size,0,none⟩) (by show wr.heap.size<_;omega)).trans HR2.out.1;have k1:=(hb'.cell (p:=⟨wr.heap.size,1,none⟩) (by show wr.heap.size<_;omega)).trans HR2.out.2.1;clear WT HI;refine aa rfl fun K HK=>?_;go_simp;exact HK.out _ _ ⟨Value.agg #[.string rs[k].rows[j].name,.slice rs[k].rows[j].ad rs[k].rows[j].rows.length rs[k].rows[j].cap],by simp[upd, *],hA.put (by omega) Xg.out.2.2.2.2.2.symm⟩
     ·cases ho;have hA:=HI.out.early (i:=6) (by omega) X9;have e5:=(hA.val 5 (by omega) (WT.out ⟨5,.data⟩ (by simp) rfl)).trans Xg.out.2.2.2.2.2;clear WT HI;refine aa rfl fun K HK=>?_;simp only[e5];go_simp;exact HK.out _ _ ⟨_,by simp[upd,e5],hA.lay⟩
     ·cases ho;have hA:=HI.out.early (i:=7) (by omega) X9;have e3:=(hA.val 3 (by omega) (WT.out ⟨3,.data⟩ (by simp) rfl)).trans Xg.out.2.2.2.1;have e4:=(hA.val 4 (by omega) (WT.out ⟨4,.data⟩ (by simp) rfl)).trans Xg.out.2.2.2.2.1;have hall:∀k,k<=6->l k=true:=fun k hk=>by
       have hc:=UI (i:=k) (by omega)
       repeat' rcases hc with rfl|hc
       ·exact WT.out ⟨0,.phase⟩ (by simp) rfl
       ·exact WT.out ⟨1,.phase⟩ (by simp) rfl
       ·exact WT.out ⟨2,.phase⟩ (by simp) rfl
       ·exact WT.out ⟨3,.phase⟩ (by simp) rfl
       ·exact WT.out ⟨4,.phase⟩ (by simp) rfl
       ·exact WT.out ⟨5,.phase⟩ (by simp) rfl
       exact WT.out ⟨6,.phase⟩ (by simp) rfl
      have hD':=HD3.out.below hA.bel;obtain⟨kl2,hkl2⟩:=HKEY.out;obtain⟨st,w1',hrun,hg,hback⟩:=hD'.rel.map.entry O0 OZ underlying190 QS (by unfold maxLen;omega) hkl2;rw[<-XI.out]at hrun;have hrun':(Instr.mapEntry 190 (.map (some br)) (Value.agg #[.string rs[k].name,.int .i64 fv])).run prog w'=.ok (.tuple #[row0,goInt st]) w1':=hrun;clear WT HI;refine aa rfl fun K HK=>?_;simp only[e3,e4];go_simp;exact HK.out _ _ ⟨_,by simp[upd,e3,e4,goInt],hA.took hall hg hback⟩
     ·cases ho;have h7:=WT.out ⟨7,.data⟩ (by simp) rfl;have hB:=HI.out.midB h7 (i:=8) (by omega) X9;obtain⟨st,e7⟩:=HI.out.seven h7;clear WT HI;refine aa rfl fun K HK=>?_;simp only[e7];go_simp;exact HK.out _ _ ⟨_,by simp[upd,e7,goInt],hB.first⟩
     ·cases ho;have h7:=WT.out ⟨7,.chain⟩ (by simp) rfl;have h8:=WT.out ⟨8,.data⟩ (by simp) rfl;have hB:=HI.out.midB h7 (i:=9) (by omega) X9;obtain ⟨W0,st,g,hm1,hm2,ZG,hm4,Y8,e7,hm7,hm8,hm9⟩:=hB.mid;have e8:=hm8 h8;have hown:=(XB.out W0 hm1).kept Y8 (by
       rcases h:row0.ownBlock with _|g'
       ·exact .inl rfl
       right;intro e;injection e with e;have:=((XB.out W0 hm1).lt g' h).1;omega)
      have hnew:w'.heap[g]?=some (.cells #[.string rs[k].rows[j].name,.slice rs[k].rows[j].ad rs[k].rows[j].rows.length rs[k].rows[j].cap] 39 (0,0)):=by
       have hgl:g<W0.heap.size:=by
        rcases Nat.lt_or_ge g W0.heap.size with h|h
        ·exact h
        rw[Array.getElem?_eq_none h]at hm4;cases hm4
       rw[Y8.block g hgl (fun e=>by injection e with e;omega)];exact hm4
      clear WT HI;refine kN w' rfl rfl _ _ 34 rfl (br+1) 39 iR _ 2 40 underlying34 XM.out.1 XM.out.2.1 XM.out.2.2.1 XM.out.2.2.2 rfl (by decide) row0 nn xs (by simp[Act.eval,e8]) hown ⟨g,0,none⟩ 1 1 [Value.string rs[k].rows[j].name,.slice rs[k].rows[j].ad rs[k].rows[j].rows.length rs[k].rows[j].cap] (by simp[Act.eval,hm2]) rfl (fun j u hu=>news_of_block hnew j u hu) (by simp[Value.oneCell']) (by unfold maxLen;omega) (by omega) (by have:=Y8.size;have:=hm1.size;omega) ?_;intro v' w2' hown2 Xk hloc2;exact⟨v',by simp[upd,Act.put],hB.app h8 Xk hown2 hloc2⟩
     cases ho;have h7:=WT.out ⟨7,.data⟩ (by simp) rfl;obtain⟨st,e7⟩:=HI.out.seven h7;have HI2:=HI.out.second h7 e7;clear WT HI;refine aa rfl fun K HK=>?_;simp only[e7];go_simp;exact HK.out _ _ ⟨_,by simp[upd,e7,goInt],HI2⟩
    case finA =>
     rintro o ho l fq w' hall hI;obtain rfl:=Option.some.inj ho;have hC:=hI.last hall;obtain⟨W0,w1',st,hm1,hm2,ZG,hm4,Y8,hm6,-,hm8⟩:=hC.mid;have e10:=hm8 (hall 10 (by omega));have e3:=(hC.val 3 (by omega)).trans Xg.out.2.2.2.1;obtain⟨w7,hrun,hM3,hg3⟩:=hm6 w' (fq 9) (ZG.block br (by have:=hm2.size;have:=hm1.size;omega) (fun e=>by have:=(XB.out W0 hm1).lt br e.symm;omega));have hst:=(HD3.out.rel.below hm1).step (y:=(rs[k].name,fv)) (s:=rs[k].rows[j]) hm2 (by rw[<-YP.out,<-Zm.out];exact hm4) (by rw[<-XI.out];exact ZG) (by rw[<-XI.out];exact Y8) hg3 hM3;have HD7:=aD ((HD3.out.below hm1).list hst.1 hst.2);have HB7:Hid (Below br W w7):=by
      have b0:Below br W W0:=HB3'.out.trans (hm1.mono (by omega));have b1:Below br W w1':=b0.grown hm2 (by have:=hm1.size;omega) (fun i hi=>by injection hi with hi;omega);have b2:Below br W w':=b1.grown ZG (by have:=hm2.size;have:=hm1.size;omega) (fun i hi=>by have:=((XB.out W0 hm1).lt i hi).1;omega);exact b2.grown hg3 (by have:=ZG.size;have:=hm2.size;have:=hm1.size;omega) (fun i hi=>by injection hi with hi;omega)
     have HT7:Hid (w7.heap[wo.heap.size]?=some (.cells #[.string rs[k].name,.slice rs[k].ad rs[k].rows.length rs[k].cap] 36 (0,0))):=by
      show _=_;have h0:W0.heap[wo.heap.size]?=_:=(hm1.block wo.heap.size (by omega)).trans HT3.out;rw[hst.2.block wo.heap.size (by have:=hm1.size;omega) (by omega) (su (HD3.out.rel.below hm1) h0 (by decide))];exact h0
     have Ya:(Instr.entryStore 190 (.map (some br)) (.int .i64 st) (fq 9)).run prog w'=.ok () w7:=hrun;obtain⟨Mn,hMn⟩:∃M,M=jO Mr (rs[k].name,fv) (some (fq 9)):=⟨_,rfl⟩;rw[<-hMn]at HD7;refine aa rfl fun K HK=>?_;simp only[e3,e10];go_simp;refine HK.out _ _ ?_;obtain⟨n0,hn0⟩:∃n,n=jN E0:=⟨_,rfl⟩;have HN0:=aD hn0;rw[<-hn0]at HD7;have d1:=HD7.out.dat.c1;have fz:=fun o=>kW HD7.out.dat.kind.choose_spec o;have hDw:=HD7.out.dat.lt;clear hst hrun Ya hM3 hg3 hm1 hm2 ZG hm4 Y8 hm6 hm8 hC hI hall ho HK K e3 e10 HD3 HT3 HB3' XB Xg HKEY hMn XI YP Zm HR2 HFRB hn0 hDl hbrD;obtain⟨w8,hw8⟩:∃x,x=w7.setCell ⟨D,1,none⟩ (Value.int .i64 (max n0 (fv+1))):=⟨_,rfl⟩;have HEQ:Hid (fe f (rs.take k)++(rs[k].rows.take (j+1)).map (xC f rs[k].name)=E0++[((rs[k].name,fv),rs[k].rows[j])]):=by show _=_;rw[HTKE.out,<-VU,<-YJ.out];unfold xC;rw[<-HFV.out]
     have HD8:Hid (∃nr Mr,nr<=6*k+(j+1)/\DatA w8 rs D br bp bt (jN (fe f (rs.take k)++(rs[k].rows.take (j+1)).map (xC f rs[k].name))) nr Mr (fe f (rs.take k)++(rs[k].rows.take (j+1)).map (xC f rs[k].name)) (dN ts) (dW ts) (bH ts) ts.length Mp vo vu):=by
      rw[HEQ.out,Ic,<-HN0.out,hw8];exact⟨nr+1,Mn,by omega,HD7.out.count (max n0 (fv+1))⟩
     have HT8:Hid (w8.heap[wo.heap.size]?=some (.cells #[.string rs[k].name,.slice rs[k].ad rs[k].rows.length rs[k].cap] 36 (0,0))):=by
      show _=_;rw [hw8,heap_setCell_other w7 ⟨D,1,none⟩ wo.heap.size _ (fun e=>by
       have e':wo.heap.size=D:=e;have h1:=HT7.out;obtain⟨cur,h2⟩:=HD7.out.dat.kind;rw[e',h2]at h1;injection h1 with h1;injection h1 with _ h3;exact absurd h3 (by decide))]
      exact HT7.out
     have HB8:Hid (Below br W w8):=by show Below _ _ _;rw[hw8];exact HB7.out.setCell (by show br<=D;have:=HD7.out.ord;have:=HD7.out.dat.gt;omega) _
     rw[had]at HT8;clear HD7 HT7 HB7;go_wp2;rw[<-hw8];go_roundw;case rel=>exact⟨j+1,by omega,by go_num,HD8,HT8,HB8⟩
     simp[intOf]<;>omega
   obtain rfl:j=rs[k].rows.length:=by omega
   have HDN2:Hid (∃nr Mr,nr<=6*(k+1)/\DatA wr rs D br bp bt (jN (fe f (rs.take (k+1)))) nr Mr (fe f (rs.take (k+1))) (dN ts) (dW ts) (bH ts) ts.length Mp vo vu):=by
    obtain⟨nr,Mr,hnr,Yl⟩:=ZQ.out;rw[VI]at Yl;rw[HSU.out];exact⟨nr,Mr,by omega,Yl⟩
   have HEL2:Hid ((fe f (rs.take (k+1))).length<=6*(k+1)):=by
    show _<=_;rw[HSU.out,Vx,Wy];have:=Yo.out;omega
   clear ZQ HT;go_wp2;go_roundw;case rel=>exact⟨k+1,by omega,by go_num,HEL2,HDN2,HB⟩
   simp[intOf]<;>omega
  obtain rfl:k=rs.length:=by omega
  rw[VI]at ZQ;obtain⟨nr,Mr,-,Yl⟩:=ZQ.out;have HDE:=aD Yl;clear Yl ZQ;go_wp2;exact bodyPost_ret (v:=.tuple #[.pointer (some ⟨D,0,none⟩),.bool true]) (by simp[results,Tryz.results55,go_sem]) rfl ⟨YN.out,.inr ⟨HRT.out,D,br,bp,bt,nr,ts.length,Mr,Mp,vo,vu,f,rfl,hw2,HLS.out,HDE.out⟩⟩
 have HN:Hid (aW fit rs ts=false):=by
  show _=_;unfold aW;cases hh:aN (af rs);case false=>simp
  exact absurd (bu.1 hh) hno
 clear hno;go_wp2;exact bodyPost_ret (v:=.tuple #[.pointer none,.bool false]) (by simp[results,Tryz.results55,go_sem]) rfl ⟨HB1.out,.inl ⟨HN.out,rfl⟩⟩
end Go.Proofs.YtojjoblnpldniaaGreat
