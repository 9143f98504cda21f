/- The program's data out of a schema and tuples: right ones are laid out. -/
import Derived.Test.YtajkkeikihhejaaGreatSq
import Derived.Test.YtajkkeikihhejaaGreatJ26
import Derived.Test.YtajkkeikihhejaaGreatJ16
open Go.Proofs.Tryz
set_option maxHeartbeats 80000000
namespace Go.Proofs.YtajkkeikihhejaaGreat
set_option maxRecDepth 100000
set_option linter.unusedVariables false
open ChangeShapes WideShapes ChangeAt RowKit Maps
open Pl
def TK(ts:Q0b)(w:World)(e:Ending)(w':World):Prop :=
 ((∃(b n:Nat) (σ:Ky->Option Int),e=.returned (.tuple #[.map (some b),.bool true])/\cu ts/\aK dV prog 94 w' b n (jd σ)/\Least ts (fun k=>(σ k).getD 0)/\∀k,(∃x,σ k=some x)↔k∈au ts)\/(e=.returned (.tuple #[.map none,.bool false])/\¬cu ts))/\ae w w'
theorem kr:∀ts:List Tp,(dM ts).length<=2*ts.length:=by
 have key:∀(ts:Q05) (xs:Q0a),(ts.foldl fU xs).length<=xs.length+2*ts.length:=by
  intro ts
  induction ts with
  | nil=>intro xs;simp
  | cons t ts ih =>
   intro xs;have h1:=ih (fU xs t);have h2:=qP xs t;simp only[List.foldl_cons,Vq];omega
 intro ts;have:=key ts [];simpa[dM] using this
theorem jh:∀ts:List Tp,(bP ts).length<=ts.length:=by
 have key:∀(ts:Q05) (xs:Q0a),(ts.foldl dh xs).length<=xs.length+ts.length:=by
  intro ts
  induction ts with
  | nil=>intro xs;simp
  | cons t ts ih =>
   intro xs;have h1:=ih (dh xs t);have h2:=qQ xs t;simp only[List.foldl_cons,Vq];omega
 intro ts;have:=key ts [];simpa[bP] using this
def aV(fit:Tp->Bool)(rs:Q06)(ts:Q05):Bool:=aM (ag rs)&&dO ts&&ts.all fit
def dH(f:Q00)(rs:Q06):List (KL×RR):=rs.flatMap fun t=>t.rows.map fun r=>((t.name,f (t.name,r.name)),r)
def gJ(E:List (KL×RR)):Int:=E.foldl (fun m x=>max m (x.1.2+1)) 0
def UD(fit:Tp->Bool)(rs:Q06)(ts:Q05)(w:World)(e:Ending)(w':World):Prop :=
 ae w w'/\((aV fit rs ts=false/\e=.returned (.tuple #[.pointer none,.bool false])) \/
  (aV fit rs ts=true/\∃ (D br bp bt nr np:Nat) (Mr:KL->Option Value) (Mp:K3->Option Value) (vo vu:Value) (f:Q00),e=.returned (.tuple #[.pointer (some ⟨D,0,none⟩),.bool true])/\w.heap.size<=bt/\Least (ag rs) f /\
   DatA w' rs D br bp bt (gJ (dH f rs)) nr Mr (dH f rs) (bn ts) (dM ts) (bP ts) np Mp vo vu))
theorem Qe{w:af}{rs:Q06}{bt:Nat}(ht:aK dV prog 94 w bt 36 (oZ rs))(hl:bt<w.heap.size):
  DatA (((w.alloc (.map #[] 0)).alloc (.map #[] 0)).alloc (.cells #[.map (some bt),.int .i64 0,.map (some w.heap.size),.map (some (w.heap.size+1)),.slice none 0 0,.slice none 0 0] 168)) rs (w.heap.size+2) w.heap.size (w.heap.size+1) bt 0 0 (fun _=>none) [] [] [] [] 0 (fun _=>none) (.slice none 0 0) (.slice none 0 0):=by
 obtain⟨w1,h1⟩:∃w1,w1=w.alloc (.map #[] 0):=⟨_,rfl⟩;obtain⟨w2,h2⟩:∃w2,w2=w1.alloc (.map #[] 0):=⟨_,rfl⟩;have s1:w1.heap.size=w.heap.size+1:=by rw[h1];simp
 have s2:w2.heap.size=w.heap.size+2:=by rw[h2];simp;omega
 rw[<-h1,<-h2];have b1:ae w w1:=by rw[h1];exact(UV _ _).alloc (UU _) _
 have b2:ae w1 w2:=by rw[h2];exact(UV _ _).alloc (UU _) _
 have b3:∀o,ae w2 (w2.alloc o):=fun o=>(UV _ _).alloc (UU _) _;have g1:Fx w1 w.heap.size 0 (fun _=>none) []:=by rw[h1];exact G.grp_made w
 have g2:G.Grp qA prog 223 46 6 Tp.row w2 (w.heap.size+1) 0 (fun _=>none) []:=by
  have:=G.grp_made (enc:=qA) (P:=prog) (kt:=223) (et:=46) (sz:=6) (cl:=Tp.row) w1;rw[s1]at this;rw[h2];exact this
 rw[<-s2];refine⟨⟨by omega,by simp,⟨_,heap_alloc_new w2 _⟩,by simp,by simp,by simp,by simp,by simp,by simp,g2.below (b3 _),World.ownsRow_nil _ _ _ _,World.ownsRow_nil _ _ _ _,fun g e=>by simp[Value.ownBlock]at e⟩,((ht.below b1).below b2).below (b3 _),(g1.below b2).below (b3 _),hl,by omega⟩
theorem Qf{p:Tp->Bool}{ts:Q05}{k:Nat}(h:k<ts.length):(ts.take (k+1)).all p=((ts.take k).all p&&p ts[k]):=by
 rw[UX h,VV];simp
theorem RN{p:Tp->Bool}{ts:Q05}{k:Nat}(h:k<ts.length)(hp:p ts[k]=false):ts.all p=false:=by
 rw[List.all_eq_false];exact⟨_,UR h,by rw[hp];decide⟩
theorem wH{rs:Q06}(h6:rs.length<=6)(hr:∀r∈rs,r.rows.length<=6):(au (ag rs)).length<=36:=by
 have key:∀l:List TR,(∀r∈l,r.rows.length<=6)->(au (ag l)).length<=6*l.length:=by
  intro l
  induction l with
  | nil=>intro _;simp[au,ag]
  | cons r l ih =>
   intro h;have h1:=ih fun q hq=>h q (Vv _ hq);have h2:=h r (by simp);have e:au (ag (r::l))=jL r.p++au (ag l):=by simp[au,ag]
   have e2:(jL r.p).length=r.rows.length:=by unfold jL;rw[Vt];exact rE _
   rw[e,U2,e2,Vq];omega
 have:=key rs hr;omega
theorem Qg{rs:Q06}{σ:Ky->Option Int}(hS:cu (ag rs))(h6:rs.length<=6)(hr:∀r∈rs,r.rows.length<=6)(hL:Least (ag rs) (fun k=>(σ k).getD 0))(hk:∀k,(∃x,σ k=some x)↔k∈au (ag rs))(y:Ky):0<=(σ y).getD 0/\(σ y).getD 0<=36:=by
 refine⟨hL.sol.pos y,?_⟩;cases e:σ y with
 | none=>simp
 | some x =>
  have hy:y∈au (ag rs):=(hk y).1 ⟨x,e⟩;obtain⟨g,hg,hb⟩:=hL.sol.few (jM hS.2.1);have h1:=hL.low y hy g hg;have h2:=hb y hy;have h3:=wH h6 hr;simp only[e]at h1;omega
def xM(f:Ky->Int)(n:ByteArray)(r:RR):KL×RR:=((n,f (n,r.name)),r)
theorem Nj(f:Ky->Int){rs:Q06}{k:Nat}(h:k<rs.length):dH f (rs.take (k+1))=dH f (rs.take k)++rs[k].rows.map (xM f rs[k].name):=by
 unfold dH;rw[UX h,VE];simp[xM]
theorem Hy(E:List (KL×RR))(x:KL×RR):gJ (E++[x])=max (gJ E) (x.1.2+1):=by simp[gJ]
theorem Qh:∃i,prog.info? 147=some i/\i.zero=some (.agg #[.string ⟨#[]⟩,.slice none 0 0])/\i.size=2/\i.bytes=40 :=
 info_parts (P:=prog) (e:=147) (z:=.agg #[.string ⟨#[]⟩,.slice none 0 0]) (size:=2) (bytes:=40) (by kernel_rfl)
theorem Qi(u:af):(zeroValue 125).run prog u=.ok (.slice none 0 0) u:=by kernel_rfl
theorem RO(u:af):(zeroValue 2).run prog u=.ok (.int .i64 0) u:=by kernel_rfl
theorem D5{w:af}{br nr:Nat}{Mr:KL->Option Value}{E:List (KL×RR)}(h:Fx w br nr Mr E)(k:KL):w.ownsRow (br+1) 147 2 ((Mr k).getD (.slice none 0 0)) (G.lookL E k).length (G.flatG RL (G.lookL E k)):=by
 rcases h.row k with⟨e,e2⟩|⟨v,e,ho⟩
 ·rw[e,e2];exact World.ownsRow_nil _ _ _ _
 rw[e];exact ho
theorem Qj{w W w':af}{D g:Nat}{y x0 x1 x2 x3 x4 x5:Value}(h:W.cell? ⟨D,0,none⟩=some y/\W.cell? ⟨g,0,none⟩=some x0/\W.cell? ⟨g,1,none⟩=some x1/\W.cell? ⟨g,2,none⟩=some x2/\W.cell? ⟨g,3,none⟩=some x3/\W.cell? ⟨g,4,none⟩=some x4/\W.cell? ⟨g,5,none⟩=some x5/\D<W.heap.size/\g<W.heap.size/\ae w W)(hb:ae W w'):w'.cell? ⟨D,0,none⟩=some y/\w'.cell? ⟨g,0,none⟩=some x0/\w'.cell? ⟨g,1,none⟩=some x1/\w'.cell? ⟨g,2,none⟩=some x2/\w'.cell? ⟨g,3,none⟩=some x3/\w'.cell? ⟨g,4,none⟩=some x4/\w'.cell? ⟨g,5,none⟩=some x5/\D<w'.heap.size/\g<w'.heap.size/\ae w w':=by
 obtain⟨h0,g0,g1,g2,g3,g4,g5,hn,hm,hB⟩:=h;have hc:∀o,w'.cell? ⟨D,o,none⟩=W.cell? ⟨D,o,none⟩:=fun o=>hb.cell (p:=⟨D,o,none⟩) hn;have hd:∀o,w'.cell? ⟨g,o,none⟩=W.cell? ⟨g,o,none⟩:=fun o=>hb.cell (p:=⟨g,o,none⟩) hm;exact⟨(hc _).trans h0,(hd _).trans g0,(hd _).trans g1,(hd _).trans g2,(hd _).trans g3,(hd _).trans g4,(hd _).trans g5,UT hn hb.size,UT hm hb.size,hB.trans (hb.mono hB.size)⟩
theorem BJ(fit:Tp->Bool)(ad:Q02)(cap:Nat)(rs:Q06)(We:Q02)(cap':Nat)(ts:Q05)(w:af)(hlen:rs.length<=1048576)(hs:kU w ad rs)(hl:∀r∈rs,r.light)(hfr:∀r∈rs,r.fits)(hC:Calls prog 91 #[.slice ad rs.length cap] w (TK (ag rs) w))(hfb:aM (ag rs)=true->∀t:Tp,t.ok=true->yG (ag rs) t.a t.r ⟨t.c,t.s⟩=fit t)(hlt:ts.length<=1048576)(hst:Sl w We ts)(hft:∀x∈ts,x.fits):
  Calls prog 58 #[.slice ad rs.length cap,.slice We ts.length cap'] w (UD fit rs ts w):=by
 have HS:=aG hs;have HL:=aG hl;have XP:=aG hfr;have HST:=aG hst;have Wl:=aG hft;have HC:=aG hC;have HFB:=aG hfb;obtain⟨iR,i0,i1,i2,i3⟩:=Qh;have Xe:=aG (And.intro i0 (And.intro i1 (And.intro i2 i3)));clear i0 i1 i2 i3;have WH:ts.length<=maxLen:=by unfold maxLen;omega
 clear hs hl hfr hC hfb hst hft;go_enter func58,ntmps58;go_wp2_with fail;refine HC.out.mono ?_;rintro e w1 ⟨hL,hb1⟩;have HB1:=aG hb1;clear HC hb1;rcases hL with⟨bS,nS,σ,rfl,hS,hM,XH,hk⟩|⟨rfl,hno⟩
 ·have HSD:Hid (aM (ag rs)=true):=bq.2 hS;have HM:=aG hM;have WR:=aG XH;have Z4:=aG hk;have hSP:=hS;obtain⟨h6,X9,-⟩:=bF hSP.1;have HTAB:=aG (o6 hSP.1);have XG:=aG X9;clear hM XH hk hS hSP X9;go_wp2_with fail;refine(xI We cap' ts _ WH (HST.out.below HB1.out) Wl.out).mono ?_;rintro e w2 ⟨he,hb2⟩;have HB2:=aG (HB1.out.trans (hb2.mono HB1.out.size));have WS:=aG (HM.out.below hb2);clear hb2 HM;cases h2:dO ts;case false=>
   rw[h2]at he;subst he;have HN:Hid (aV fit rs ts=false):=by show _=_;unfold aV;rw[h2];simp
   clear h2;go_wp2;exact bodyPost_ret (v:=.tuple #[.pointer none,.bool false]) (by simp[results,Tryz.results58,go_sem]) rfl ⟨HB2.out,.inl ⟨HN.out,rfl⟩⟩
  rw[h2]at he;subst he;have HTU:=aG (SG h2);have Zf:Hid (aV fit rs ts=ts.all (fit)):=by show _=_;unfold aV;rw[h2,HSD.out];simp
  have h40:ts.length<=40:=HTU.out.2.2;have HTBL:=aG (yj ad cap rs w2 h6 (HS.out.below HB2.out) XG.out XP.out);clear h2;go_wp2_with fail;refine HTBL.out.mono ?_;rintro e w3 ⟨rfl,hV3,hb3⟩;have HB3:=aG (HB2.out.trans (hb3.mono HB2.out.size));have hbt:w2.heap.size<w3.heap.size:=hV3.lt;have hw2:w.heap.size<=w2.heap.size:=HB2.out.size;have ZM:=aG (WS.out.below hb3);have HDN:=aG (Qe hV3 hbt);obtain⟨bt,hbte⟩:∃b,b=w2.heap.size:=⟨_,rfl⟩;obtain⟨br,hbre⟩:∃b,b=w3.heap.size:=⟨_,rfl⟩;rw[<-hbte]at HDN hbt hw2 ⊢;obtain⟨W,hW⟩:∃W,W=((w3.alloc (.map #[] 0)).alloc (.map #[] 0)).alloc (.cells #[.map (some bt),.int .i64 0,.map (some w3.heap.size),.map (some (w3.heap.size+1)),.slice none 0 0,.slice none 0 0] 168):=⟨_,rfl⟩;rw[<-hW]at HDN;have hmm:=@run_makeMap prog;have HBW0:Hid (ae w3 W):=by
   show Below _ _ _;rw[hW];exact(((UV _ _).alloc (UU _) _).alloc (by simp) _).alloc (by simp;omega) _
  have HMW:=aG (ZM.out.below HBW0.out);have V9:=aG (HB3.out.trans (HBW0.out.mono HB3.out.size));have hbS:bS<br:=by rw[hbre];exact ZM.out.lt
  clear hb3 hV3 HTBL hbte;obtain⟨D,hDe⟩:∃b,b=br+2:=⟨_,rfl⟩;obtain⟨bp,hbpe⟩:∃b,b=br+1:=⟨_,rfl⟩;rw[<-hbre]at HDN;rw[<-hDe,<-hbpe]at HDN;have hDW:D<W.heap.size:=HDN.out.dat.lt;go_wp2_with fail;rw[<-hW,show w3.heap.size+1+1=D by omega,show w3.heap.size+1=bp by omega,<-hbre];have hwbr:w.heap.size<=br:=by rw[hbre];exact HB3.out.size
  have hbtr:bt<br:=by rw[hbre];exact hbt
  clear hbt;clear hbre hDe hbpe hW hmm HBW0;go_loopw[37] (fun i wr=>∃k:Nat,k<=ts.length/\i=.int .i64 (k:Int)/\Hid ((ts.take k).all (fit)=true)/\Hid (∃Mp vo vu,DatA wr rs D br bp bt 0 0 (fun _=>none) [] (bn (ts.take k)) (dM (ts.take k)) (bP (ts.take k)) k Mp vo vu)/\Hid (Below br W wr)) (fun i _=>ts.length-(intOf i).toNat);case atStart=>exact⟨0,UY _,rfl,rfl,⟨_,_,_,by simpa[bn,dM,bP] using HDN.out⟩,UV _ _⟩
  obtain⟨k,hk,rfl,Ws,YU,HB⟩:=hrel;have YD:Hid (ae w wr):=V9.out.trans (HB.out.mono hwbr);by_cases hkl:k<ts.length
  ·rcases HST.out.below YD.out with hnil|⟨b,off,rfl,hb,hr⟩
   ·rw[hnil]at hkl;simp at hkl
   obtain⟨t0,t1,t2,t3,t4,t5⟩:=hr k hkl;have hk1:=bG k;have hk2:(k:Int)<(ts.length:Int):=by omega
   have HAT:=aG (Qf (p:=fit) hkl);have HAH:=aG (RN (p:=fit) hkl);have Yw:=aG (Wl.out _ (UR hkl));have HXO:=aG (HTU.out.2.1 _ (UR hkl));have HTK:Hid (ts.take (k+1)=ts.take k++[ts[k]]):=UX hkl;obtain⟨x,hx⟩:∃x,x=ts[k]:=⟨_,rfl⟩;rw[<-hx]at t0 t1 t2 t3 t4 t5 HAT HAH Yw HXO HTK;obtain⟨W4,WE⟩:∃W4,W4=wr.alloc (.cells #[.string x.a,.string x.b,.string x.r,.string x.c,.string x.d,.string x.s] 46):=⟨_,rfl⟩;have hb4:ae wr W4:=by rw[WE];exact(UV _ _).alloc (UU _) _
   have hx4:uE W4 wr.heap.size x:=by rw[WE];exact EM wr x _
   obtain⟨Mp,vo,vu,XC⟩:=YU.out;have HD4:=aG (XC.below hb4);have HX4:=aG hx4;have HBw4:=aG (YD.out.trans (hb4.mono YD.out.size));have WW:=aG (HB.out.trans (hb4.mono (by have:=HB.out.size;have:=HDN.out.ord;have:=HDN.out.dat.gt;omega)));have HLF:Hid (∀W',(fun w'=>w'.cell? ⟨D,0,none⟩=some (.map (some bt))/\w'.cell? ⟨wr.heap.size,0,none⟩=some (.string x.a)/\w'.cell? ⟨wr.heap.size,1,none⟩=some (.string x.b)/\w'.cell? ⟨wr.heap.size,2,none⟩=some (.string x.r)/\w'.cell? ⟨wr.heap.size,3,none⟩=some (.string x.c)/\w'.cell? ⟨wr.heap.size,4,none⟩=some (.string x.d)/\w'.cell? ⟨wr.heap.size,5,none⟩=some (.string x.s)/\D<w'.heap.size/\wr.heap.size<w'.heap.size/\ae W4 w') W'->Calls prog 100 #[.map (some bt),.agg #[.string x.a,.string x.b,.string x.r,.string x.c,.string x.d,.string x.s]] W' fun e w'=>e=.returned (.bool (fit x))/\ae W' w'):=fun W' hS'=>by
    have hb':=hS'.2.2.2.2.2.2.2.2.2;refine(Qd bt 36 rs ad (oZ rs) x.a x.b x.r x.c x.d x.s W' ((HD4.out.tab).below hb') HTAB.out (HS.out.below (HBw4.out.trans (hb'.mono HBw4.out.size))) HL.out Yw.out.1 Yw.out.2.2.1).mono ?_;rintro e w6 ⟨rfl,hb6⟩;exact⟨by rw[HFB.out HSD.out x HXO.out],hb6⟩
   have H0:Hid ((fun w'=>w'.cell? ⟨D,0,none⟩=some (.map (some bt))/\w'.cell? ⟨wr.heap.size,0,none⟩=some (.string x.a)/\w'.cell? ⟨wr.heap.size,1,none⟩=some (.string x.b)/\w'.cell? ⟨wr.heap.size,2,none⟩=some (.string x.r)/\w'.cell? ⟨wr.heap.size,3,none⟩=some (.string x.c)/\w'.cell? ⟨wr.heap.size,4,none⟩=some (.string x.d)/\w'.cell? ⟨wr.heap.size,5,none⟩=some (.string x.s)/\D<w'.heap.size/\wr.heap.size<w'.heap.size/\ae W4 w') W4.drew):=⟨HD4.out.dat.c0,hx4.1,hx4.2.1,hx4.2.2.1,hx4.2.2.2.1,hx4.2.2.2.2.1,hx4.2.2.2.2.2.1,HD4.out.dat.lt,hx4.2.2.2.2.2.2,(UV _ _).drew⟩;have ho40:=kr (ts.take k);have hu40:=jh (ts.take k);have hte:(bn (ts.take k)).length<=40:=by unfold bn;simp;omega
   have htl:(ts.take k).length<=40:=by rw[Vy];omega
   have HALK:=Ws;clear hr hx hx4 XC hb4 YU HB Ws;cases hfx:fit x;case false=>
    rw[hfx]at HLF;go_wp2_with fail;rw[<-WE];clear WE
    go_region_held3 (fun w'=>w'.cell? ⟨D,0,none⟩=some (.map (some bt))/\w'.cell? ⟨wr.heap.size,0,none⟩=some (.string x.a)/\w'.cell? ⟨wr.heap.size,1,none⟩=some (.string x.b)/\w'.cell? ⟨wr.heap.size,2,none⟩=some (.string x.r)/\w'.cell? ⟨wr.heap.size,3,none⟩=some (.string x.c)/\w'.cell? ⟨wr.heap.size,4,none⟩=some (.string x.d)/\w'.cell? ⟨wr.heap.size,5,none⟩=some (.string x.s)/\D<w'.heap.size/\wr.heap.size<w'.heap.size/\ae W4 w')
     (first|assumption|exact Qj (by assumption) hbx|exact H0.out)
     (first|(go_at_call 100;refine(HLF.out _ (by assumption)).mono ?_;rintro e w' ⟨rfl,hbx⟩))
    rename_i hH;have ZW:Hid (ae w _):=HBw4.out.trans (hH.2.2.2.2.2.2.2.2.2.mono HBw4.out.size);have HN:Hid (aV fit rs ts=false):=Zf.out.trans (HAH.out hfx);clear hH;go_wp2;exact bodyPost_ret (v:=.tuple #[.pointer none,.bool false]) (by simp[results,Tryz.results58,go_sem]) rfl ⟨ZW.out,.inl ⟨HN.out,rfl⟩⟩
   rw[hfx]at HLF;go_wp2_with fail;rw[<-WE];clear WE
   go_region_held3 (fun w'=>w'.cell? ⟨D,0,none⟩=some (.map (some bt))/\w'.cell? ⟨wr.heap.size,0,none⟩=some (.string x.a)/\w'.cell? ⟨wr.heap.size,1,none⟩=some (.string x.b)/\w'.cell? ⟨wr.heap.size,2,none⟩=some (.string x.r)/\w'.cell? ⟨wr.heap.size,3,none⟩=some (.string x.c)/\w'.cell? ⟨wr.heap.size,4,none⟩=some (.string x.d)/\w'.cell? ⟨wr.heap.size,5,none⟩=some (.string x.s)/\D<w'.heap.size/\wr.heap.size<w'.heap.size/\ae W4 w')
    (first|assumption|exact Qj (by assumption) hbx|exact H0.out)
    (first|(go_at_call 100;refine(HLF.out _ (by assumption)).mono ?_;rintro e w' ⟨rfl,hbx⟩))
   rename_i hH;obtain⟨-,y0,y1,y2,y3,y4,y5,-,yl,hbH⟩:=hH;rename_i w5;have HD5:=aG (HD4.out.below hbH);have HBw5:=aG (HBw4.out.trans (hbH.mono HBw4.out.size));have HBW5:=aG (WW.out.trans (hbH.mono (by have:=HD4.out.ord;have:=HD4.out.dat.gt;have:=HD4.out.dat.lt;omega)));have HALN:Hid ((ts.take (k+1)).all fit=true):=by show _=_;rw[HAT.out,HALK.out,hfx];rfl
   clear hbH;go_wp2_with fail;refine(PD D br bp _ 0 _ _ _ k Mp vo vu x _ HD5.out.dat (by omega) (by omega) (by omega) (by omega) Yw.out).mono ?_;rintro e w6 ⟨rfl,⟨Mp',Zv,Zx,hd6⟩,hb6⟩;have HDN6:Hid (∃Mp vo vu,DatA w6 rs D br bp bt 0 0 (fun _=>none) [] (bn (ts.take (k+1))) (dM (ts.take (k+1))) (bP (ts.take (k+1))) (k+1) Mp vo vu):=by
    rw[HTK.out,JP,Bl,yx];exact⟨Mp',Zv,Zx,HD5.out.tell hd6 hb6⟩
   have HBW6:Hid (Below br W w6):=HBW5.out.trans (hb6.mono (by have:=HD4.out.ord;omega));clear hd6 hb6;go_wp2;go_roundw;case rel=>exact⟨k+1,by omega,by go_num,HALN,HDN6,HBW6⟩
   simp[intOf]<;>omega
  obtain rfl:k=ts.length:=by omega
  rw[Va]at Ws YU;have HRT:Hid (aV fit rs ts=true):=Zf.out.trans Ws.out;obtain⟨Mp,vo,vu,XC⟩:=YU.out;have HD0:=aG XC;obtain⟨f,hf⟩:∃f:Ky->Int,f=fun k=>(σ k).getD 0:=⟨_,rfl⟩;have HF:=aG hf;have HLS:Hid (Least (ag rs) f):=by rw[hf];exact WR.out
  have HF36:Hid (∀y,0<=f y/\f y<=36):=by rw[hf];exact Qg (bq.1 HSD.out) h6 XG.out WR.out Z4.out
  obtain⟨wz,hwz⟩:∃wz,wz=wr:=⟨_,rfl⟩;subst hwz;have hkk:decide ((ts.length:Int)<(ts.length:Int))=false:=by simp
  clear XC YU Ws hf WR HTU Zf;go_wp2_with fail;go_loopw[54] (fun i wr=>∃k:Nat,k<=rs.length/\i=.int .i64 (k:Int)/\Hid ((dH f (rs.take k)).length<=6*k)/\Hid (∃nr Mr,nr<=6*k/\DatA wr rs D br bp bt (gJ (dH f (rs.take k))) nr Mr (dH f (rs.take k)) (bn ts) (dM ts) (bP ts) ts.length Mp vo vu)/\Hid (Below br W wr)) (fun i _=>rs.length-(intOf i).toNat);case atStart=>exact⟨0,UY _,rfl,UY _,⟨0,_,UY _,HD0.out⟩,HB⟩
  clear HD0 HB YD;obtain⟨k,hk,rfl,X0,YU,HB⟩:=hrel;have YD:Hid (ae w wr):=V9.out.trans (HB.out.mono hwbr);by_cases hkl:k<rs.length
  ·rcases HS.out.below YD.out with hnil|⟨b,off,rfl,hb,hr,hok⟩
   ·rw[hnil]at hkl;simp at hkl
   obtain⟨t0,t1⟩:=hr k hkl;have hk1:=bG k;have hk2:(k:Int)<(rs.length:Int):=by omega
   have h6k:rs[k].rows.length<=6:=XG.out _ (UR hkl);have z0:rs[k].name.size<=maxLen:=(XP.out _ (UR hkl)).1;have HFRk:Hid (∀q∈rs[k].rows,q.fits):=(XP.out _ (UR hkl)).2.2;have HSU:=aG (Nj f hkl);obtain⟨W1,hW1⟩:∃W1,W1=wr.alloc (.cells #[.string rs[k].name,.slice rs[k].ad rs[k].rows.length rs[k].cap] 127):=⟨_,rfl⟩;have hal:ae wr W1:=by rw[hW1];exact(UV _ _).alloc (UU _) _
   obtain⟨nr,Mr,hnr,XC⟩:=YU.out;have HD1:=aG (XC.below hal);have hbrz:br<wr.heap.size:=by have:=XC.ord;have:=XC.dat.gt;have:=XC.dat.lt;omega
   have HB1:Hid (Below br W W1):=HB.out.trans (hal.mono (by omega));have HT1:Hid (W1.heap[wr.heap.size]?=some (.cells #[.string rs[k].name,.slice rs[k].ad rs[k].rows.length rs[k].cap] 127 (0,0))):=by rw[hW1];exact heap_alloc_new wr _
   have a1:W1.cell? ⟨wr.heap.size,1,none⟩=some (.slice rs[k].ad rs[k].rows.length rs[k].cap):=by rw[hW1];simp
   clear hr hok hal XC YU;go_wp2_with fail;rw[<-hW1];clear hW1 t0 t1 a1 HB;obtain⟨wo,hwo⟩:∃wo,wo=wr:=⟨_,rfl⟩;subst hwo;go_loopw[61] (fun i w2=>∃j:Nat,j<=rs[k].rows.length/\i=.int .i64 (j:Int)/\Hid (∃nr Mr,nr<=6*k+j/\DatA w2 rs D br bp bt (gJ (dH f (rs.take k)++(rs[k].rows.take j).map (xM f rs[k].name))) nr Mr (dH f (rs.take k)++(rs[k].rows.take j).map (xM f rs[k].name)) (bn ts) (dM ts) (bP ts) ts.length Mp vo vu)/\Hid (w2.heap[wo.heap.size]?=some (.cells #[.string rs[k].name,.slice rs[k].ad rs[k].rows.length rs[k].cap] 127 (0,0)))/\Hid (Below br W w2)) (fun i _=>rs[k].rows.length-(intOf i).toNat);case atStart=>exact⟨0,UY _,rfl,⟨nr,Mr,by omega,by simpa using HD1.out⟩,HT1,HB1⟩
   clear HD1 HT1 HB1 YD;obtain⟨j,hj,rfl,YU,HT,HB⟩:=hrel;have YD:Hid (ae w wr):=V9.out.trans (HB.out.mono hwbr);by_cases hjl:j<rs[k].rows.length
   ·rcases HS.out.below YD.out with hnil|⟨b',off',he,hb2,hr,hok⟩
    ·rw[hnil]at hkl;simp at hkl
    injection he with he;injection he with he1 he2;subst he1;subst he2;have ok:=hok rs[k] (UR hkl);rcases ok with hnil|⟨b2,Wz,had,hbb,hr2,-⟩
    ·rw[hnil]at hjl;simp at hjl
    obtain⟨q0,q1⟩:=hr2 j hjl;have z1:rs[k].rows[j].name.size<=maxLen:=(HFRk.out _ (UR hjl)).1;have hj1:=bG j;have hj2:(j:Int)<(rs[k].rows.length:Int):=by omega
    obtain⟨kl,hkl'⟩:=jE (rs[k].name,rs[k].rows[j].name) z0 z1;have Xh:=aG hkl';obtain⟨nr,Mr,hnr,XC⟩:=YU.out;have HTKE:Hid ((rs[k].rows.take (j+1)).map (xM f rs[k].name)=(rs[k].rows.take j).map (xM f rs[k].name)++[xM f rs[k].name rs[k].rows[j]]):=by show _=_;rw[UX hjl,VG];rfl
    have hEl:((rs[k].rows.take j).map (xM f rs[k].name)).length=j:=by rw[Vt,Vy];omega
    obtain⟨E0,hE0⟩:∃E0,E0=dH f (rs.take k)++(rs[k].rows.take j).map (xM f rs[k].name):=⟨_,rfl⟩;have hE0l:E0.length<=36:=by rw[hE0,U2,hEl];have:=X0.out;omega
    rw[<-hE0]at XC;have YA:=aG hE0;obtain⟨fv,hfv⟩:∃fv,fv=f (rs[k].name,rs[k].rows[j].name):=⟨_,rfl⟩;have hfv36:=HF36.out (rs[k].name,rs[k].rows[j].name);rw[<-hfv]at hfv36;obtain⟨hfv0,hfv1⟩:=hfv36;have HFV:=aG hfv;have HLK:Hid ((jd σ (rs[k].name,rs[k].rows[j].name)).getD (.int .i64 0)=.int .i64 fv):=by
     show _=_;rw[hfv,HF.out];unfold jd;cases h:σ (rs[k].name,rs[k].rows[j].name)<;>simp[h]
    obtain⟨W2,hW2⟩:∃W2,W2=wr.alloc (.cells #[.string rs[k].rows[j].name,.slice rs[k].rows[j].ad rs[k].rows[j].rows.length rs[k].rows[j].cap] 147):=⟨_,rfl⟩;obtain⟨W3,hW3⟩:∃W3,W3=W2.alloc (.cells #[.string rs[k].name,.int .i64 fv] 172):=⟨_,rfl⟩;have hs2:W2.heap.size=wr.heap.size+1:=by rw[hW2];simp
    have hs3:W3.heap.size=wr.heap.size+2:=by rw[hW3];simp;omega
    have hal2:ae wr W2:=by rw[hW2];exact(UV _ _).alloc (UU _) _
    have Zl:ae W2 W3:=by rw[hW3];exact(UV _ _).alloc (UU _) _
    have hwol:wo.heap.size<wr.heap.size:=by
     rcases Nat.lt_or_ge wo.heap.size wr.heap.size with h|h
     ·exact h
     have:=HT.out;rw[Array.getElem?_eq_none h]at this;cases this
    have HFRB:Hid (G.FreeB Mr wr.heap.size):=XC.rel.fresh (UU _);have WS:Hid (aK dV prog 94 W2 bS nS (jd σ)):=HMW.out.of_block (by rw[hal2.block bS (by omega),HB.out.block bS hbS]);have HD3:=aG ((XC.below hal2).below Zl);have HB3':Hid (Below br W W3):=(HB.out.trans (hal2.mono (by omega))).trans (Zl.mono (by omega));have HT3:Hid (W3.heap[wo.heap.size]?=some (.cells #[.string rs[k].name,.slice rs[k].ad rs[k].rows.length rs[k].cap] 127 (0,0))):=by show _=_;rw[Zl.block _ (by omega),hal2.block _ (by omega)];exact HT.out
    have c0:wr.cell? ⟨wo.heap.size,0,none⟩=some (.string rs[k].name):=by simp[World.cell?,HT.out]
    have c0b:W2.cell? ⟨wo.heap.size,0,none⟩=some (.string rs[k].name):=(hal2.cell (p:=⟨wo.heap.size,0,none⟩) (by show wo.heap.size<_;omega)).trans c0;have g0:W2.cell? ⟨wr.heap.size,0,none⟩=some (.string rs[k].rows[j].name):=by rw[hW2];simp
    have HR2:Hid (W3.cell? ⟨wr.heap.size,0,none⟩=some (.string rs[k].rows[j].name)/\W3.cell? ⟨wr.heap.size,1,none⟩=some (.slice rs[k].rows[j].ad rs[k].rows[j].rows.length rs[k].rows[j].cap)/\W3.cell? ⟨wr.heap.size+1,0,none⟩=some (.string rs[k].name)/\W3.cell? ⟨wr.heap.size+1,1,none⟩=some (.int .i64 fv)):=by
     show _/\_;rw[hW3,hW2];refine⟨?_,?_,?_,?_⟩<;>simp
    rw[had];clear hr hok hr2 hkl' XC YU hal2 Zl HT HB hE0 hfv hEl;go_wp2_with(first|(at_lookup;rw[<-hW2];refine jD _ rfl _ _ 153 rfl 94 2 iU underlying153 (RO _) bS nS (jd σ) rfl WS.out (rs[k].name,rs[k].rows[j].name) kl rfl Xh.out ?_;rw[HLK.out]));rw[<-hW2,<-hW3];clear hW2 hW3 g0 c0b c0 q0 q1 HLK WS;obtain⟨row0,hr0⟩:∃r,r=(Mr (rs[k].name,fv)).getD (.slice none 0 0):=⟨_,rfl⟩;obtain⟨nn,hnn⟩:∃n,n=(G.lookL E0 (rs[k].name,fv)).length:=⟨_,rfl⟩;obtain⟨xs,hxs⟩:∃x,x=G.flatG RL (G.lookL E0 (rs[k].name,fv)):=⟨_,rfl⟩;have Xo:=aG hr0;have XV:=aG hnn;have Zb:=aG hxs;have hnl:nn<=36:=by rw[hnn];exact U0 (VS _ _) hE0l
    have Xa:Hid (∀W0:World,ae W3 W0->W0.ownsRow (br+1) 147 2 row0 nn xs):=fun W0 hb=>by rw[hr0,hnn,hxs];exact D5 (HD3.out.rel.below hb) _
    have HKEY:Hid (∃kl,keyOf prog 172 (Ga (rs[k].name,fv))=some kl):=KU _ z0 hfv0 (by show fv<=1000000;omega);have hDl:D<W3.heap.size:=HD3.out.dat.lt;have hbrD:br<D:=by have:=HD3.out.ord;have:=HD3.out.dat.gt;omega
    clear hr0 hnn hxs;obtain⟨C2,hC2⟩:∃C:Nat->Value,C=fun n=>(Value.pointer (some ⟨D,0,none⟩)::.pointer (some ⟨D,0,none⟩)::.pointer (some ⟨D,2,none⟩)::.map (some br)::.agg #[.string rs[k].name,.int .i64 fv]::.agg #[.string rs[k].rows[j].name,.slice rs[k].rows[j].ad rs[k].rows[j].rows.length rs[k].rows[j].cap]::[]).getD n undef:=⟨_,rfl⟩;have WV:Hid (C2 0=Value.pointer (some ⟨D,0,none⟩)/\C2 1=Value.pointer (some ⟨D,0,none⟩)/\C2 2=Value.pointer (some ⟨D,2,none⟩)/\C2 3=Value.map (some br)/\C2 4=Value.agg #[.string rs[k].name,.int .i64 fv]/\C2 5=Value.agg #[.string rs[k].rows[j].name,.slice rs[k].rows[j].ad rs[k].rows[j].rows.length rs[k].rows[j].cap]):=by show _/\_;rw[hC2];exact⟨rfl,rfl,rfl,rfl,rfl,rfl⟩
    clear hC2;refine pR 11 (fun n=>(u76::u77::u78::u79::u80::u82::u83::u84::u81::u85::u86::[]).getD n undef) (fun fq=>{ tmps:=List.toArray (Value.slice (some ⟨b,off,none⟩) rs.length cap::.slice We ts.length cap'::undef::undef::u4::u5::.map (some bS)::.bool true::.pointer (some ⟨D,0,none⟩)::undef::u10::undef::.pointer (some ⟨wo.heap.size,0,none⟩)::undef::.pointer (some ⟨wr.heap.size,0,none⟩)::.int .i64 fv::.pointer (some ⟨wr.heap.size+1,0,none⟩)::.tuple #[.map (some bS),.bool true]::.slice (some ⟨b,off,none⟩) rs.length cap::.tuple #[.map (some bS),.bool true]::.map (some bS)::.bool true::.bool true::.bool false::.bool false::.slice We ts.length cap'::.bool true::.bool false::.bool false::.slice (some ⟨b,off,none⟩) rs.length cap::.map (some bt)::.map (some br)::.map (some bp)::.agg #[.map (some bt),.int .i64 0,.map (some br),.map (some bp),.slice none 0 0,.slice none 0 0]::.pointer (some ⟨D,0,none⟩)::.slice We ts.length cap'::.int .i64 ts.length::.int .i64 ts.length::.bool false::u39::u40::u41::u42::u43::u44::u45::u46::u47::u48::u49::u50::u51::.slice (some ⟨b,off,none⟩) rs.length cap::.int .i64 rs.length::.int .i64 k::.bool true::.pointer (some ⟨b,off+k*2,none⟩)::.agg #[.string rs[k].name,.slice (some ⟨b2,Wz,none⟩) rs[k].rows.length rs[k].cap]::.pointer (some ⟨wo.heap.size,1,none⟩)::.slice (some ⟨b2,Wz,none⟩) rs[k].rows.length rs[k].cap::.int .i64 rs[k].rows.length::.int .i64 j::.bool true::.pointer (some ⟨b2,Wz+j*2,none⟩)::.agg #[.string rs[k].rows[j].name,.slice rs[k].rows[j].ad rs[k].rows[j].rows.length rs[k].rows[j].cap]::.map (some bS)::.pointer (some ⟨wo.heap.size,0,none⟩)::.string rs[k].name::.pointer (some ⟨wr.heap.size,0,none⟩)::.string rs[k].rows[j].name::.agg #[.string rs[k].name,.string rs[k].rows[j].name]::.int .i64 fv::.pointer (some ⟨wo.heap.size,0,none⟩)::.string rs[k].name::.int .i64 fv::.agg #[.string rs[k].name,.int .i64 fv]::(fq 0)::(fq 1)::(fq 2)::(fq 3)::(fq 4)::(fq 8)::(fq 5)::(fq 6)::(fq 7)::(fq 9)::(fq 10)::u87::u88::u89::u90::u91::u92::u93::u94::u95::u96::u97::u98::undef::[]),defers:=[] }) (G.EI C2 #[.string rs[k].rows[j].name,.slice rs[k].rows[j].ad rs[k].rows[j].rows.length rs[k].rows[j].cap] 147 2 W3 br row0 nn xs (G.Back Ga prog 172 165 br nr Mr (rs[k].name,fv))) (by kernel_rfl) rfl (by kernel_rfl) (by kernel_rfl) rfl (G.ei_start W3) ?stepA ?finA;case stepA =>
     rintro i hi o ho l fq w' Xf hI hpre;have HI:=aC hI;have V8:Hid (∀e∈o.after,Region.binds .any e=true->l e.on=true):=hpre;clear hI hpre;have hc:=NP (i:=i) (by omega);clear hi
     repeat' rcases hc with rfl|hc
     ·cases ho;have hA:=HI.out.early (i:=0) (by omega) Xf;clear V8 HI;refine aa rfl fun K HK=>?_;go_simp;exact HK.out _ _ ⟨Value.pointer (some ⟨D,0,none⟩),by simp[upd, *],hA.put (by omega) WV.out.1.symm⟩
     ·cases ho;have hA:=HI.out.early (i:=1) (by omega) Xf;have e0:=(hA.val 0 (by omega) (V8.out ⟨0,.data⟩ (by simp) rfl)).trans WV.out.1;clear V8 HI;refine aa rfl fun K HK=>?_;simp only[e0];go_simp;exact HK.out _ _ ⟨Value.pointer (some ⟨D,0,none⟩),by simp[upd, *],hA.put (by omega) WV.out.2.1.symm⟩
     ·cases ho;have hA:=HI.out.early (i:=2) (by omega) Xf;have e1:=(hA.val 1 (by omega) (V8.out ⟨1,.data⟩ (by simp) rfl)).trans WV.out.2.1;clear V8 HI;refine aa rfl fun K HK=>?_;simp only[e1];go_simp;exact HK.out _ _ ⟨Value.pointer (some ⟨D,2,none⟩),by simp[upd, *],hA.put (by omega) WV.out.2.2.1.symm⟩
     ·cases ho;have hA:=HI.out.early (i:=3) (by omega) Xf;have e2:=(hA.val 2 (by omega) (V8.out ⟨2,.data⟩ (by simp) rfl)).trans WV.out.2.2.1;have hb':=hA.bel;have d2:=(hb'.cell (p:=⟨D,2,none⟩) hDl).trans HD3.out.dat.c2;clear V8 HI;refine aa rfl fun K HK=>?_;simp only[e2];go_simp;exact HK.out _ _ ⟨Value.map (some br),by simp[upd, *],hA.put (by omega) WV.out.2.2.2.1.symm⟩
     ·cases ho;have hA:=HI.out.early (i:=4) (by omega) Xf;have hb':=hA.bel;have k0:=(hb'.cell (p:=⟨wr.heap.size+1,0,none⟩) (by show wr.heap.size+1<_;omega)).trans HR2.out.2.2.1;have k1:=(hb'.cell (p:=⟨wr.heap.size+1,1,none⟩) (by show wr.heap.size+1<_;omega)).trans HR2.out.2.2.2;clear V8 HI;refine aa rfl fun K HK=>?_;go_simp;exact HK.out _ _ ⟨Value.agg #[.string rs[k].name,.int .i64 fv],by simp[upd, *],hA.put (by omega) WV.out.2.2.2.2.1.symm⟩
     ·cases ho;have hA:=HI.out.early (i:=5) (by omega) Xf;have hb':=hA.bel;have k0:=(hb'.cell (p:=⟨wr.heap.size,0,none⟩) (by show wr.heap.size<_;omega)).trans HR2.out.1;have k1:=(hb'.cell (p:=⟨wr.heap.size,1,none⟩) (by show wr.heap.size<_;omega)).trans HR2.out.2.1;clear V8 HI;refine aa rfl fun K HK=>?_;go_simp;exact HK.out _ _ ⟨Value.agg #[.string rs[k].rows[j].name,.slice rs[k].rows[j].ad rs[k].rows[j].rows.length rs[k].rows[j].cap],by simp[upd, *],hA.put (by omega) WV.out.2.2.2.2.2.symm⟩
     ·cases ho;have hA:=HI.out.early (i:=6) (by omega) Xf;have e5:=(hA.val 5 (by omega) (V8.out ⟨5,.data⟩ (by simp) rfl)).trans WV.out.2.2.2.2.2;clear V8 HI;refine aa rfl fun K HK=>?_;simp only[e5];go_simp;exact HK.out _ _ ⟨_,by simp[upd,e5],hA.lay⟩
     ·cases ho;have hA:=HI.out.early (i:=7) (by omega) Xf;have e3:=(hA.val 3 (by omega) (V8.out ⟨3,.data⟩ (by simp) rfl)).trans WV.out.2.2.2.1;have e4:=(hA.val 4 (by omega) (V8.out ⟨4,.data⟩ (by simp) rfl)).trans WV.out.2.2.2.2.1;have hall:∀k,k<=6->l k=true:=fun k hk=>by
       have hc:=Ug (i:=k) (by omega)
       repeat' rcases hc with rfl|hc
       ·exact V8.out ⟨0,.phase⟩ (by simp) rfl
       ·exact V8.out ⟨1,.phase⟩ (by simp) rfl
       ·exact V8.out ⟨2,.phase⟩ (by simp) rfl
       ·exact V8.out ⟨3,.phase⟩ (by simp) rfl
       ·exact V8.out ⟨4,.phase⟩ (by simp) rfl
       ·exact V8.out ⟨5,.phase⟩ (by simp) rfl
       exact V8.out ⟨6,.phase⟩ (by simp) rfl
      have hD':=HD3.out.below hA.bel;obtain⟨kl2,hkl2⟩:=HKEY.out;obtain⟨st,w1',hrun,hg,hback⟩:=hD'.rel.map.entry Ow Ov underlying165 Qi (by unfold maxLen;omega) hkl2;rw[<-Xo.out]at hrun;have hrun':(Instr.mapEntry 165 (.map (some br)) (Value.agg #[.string rs[k].name,.int .i64 fv])).run prog w'=.ok (.tuple #[row0,goInt st]) w1':=hrun;clear V8 HI;refine aa rfl fun K HK=>?_;simp only[e3,e4];go_simp;exact HK.out _ _ ⟨_,by simp[upd,e3,e4,goInt],hA.took hall hg hback⟩
     ·cases ho;have h7:=V8.out ⟨7,.data⟩ (by simp) rfl;have hB:=HI.out.midB h7 (i:=8) (by omega) Xf;obtain⟨st,e7⟩:=HI.out.seven h7;clear V8 HI;refine aa rfl fun K HK=>?_;simp only[e7];go_simp;exact HK.out _ _ ⟨_,by simp[upd,e7,goInt],hB.first⟩
     ·cases ho;have h7:=V8.out ⟨7,.chain⟩ (by simp) rfl;have h8:=V8.out ⟨8,.data⟩ (by simp) rfl;have hB:=HI.out.midB h7 (i:=9) (by omega) Xf;obtain ⟨W0,st,g,hm1,hm2,Zk,hm4,YN,e7,hm7,hm8,hm9⟩:=hB.mid;have e8:=hm8 h8;have hown:=(Xa.out W0 hm1).kept YN (by
       rcases h:row0.ownBlock with _|g'
       ·exact .inl rfl
       right;intro e;injection e with e;have:=((Xa.out W0 hm1).lt g' h).1;omega)
      have hnew:w'.heap[g]?=some (.cells #[.string rs[k].rows[j].name,.slice rs[k].rows[j].ad rs[k].rows[j].rows.length rs[k].rows[j].cap] 147 (0,0)):=by
       have hgl:g<W0.heap.size:=by
        rcases Nat.lt_or_ge g W0.heap.size with h|h
        ·exact h
        rw[Array.getElem?_eq_none h]at hm4;cases hm4
       rw[YN.block g hgl (fun e=>by injection e with e;omega)];exact hm4
      clear V8 HI;refine kS w' rfl rfl _ _ 125 rfl (br+1) 147 iR _ 2 40 underlying125 Xe.out.1 Xe.out.2.1 Xe.out.2.2.1 Xe.out.2.2.2 rfl (by decide) row0 nn xs (by simp[Act.eval,e8]) hown ⟨g,0,none⟩ 1 1 [Value.string rs[k].rows[j].name,.slice rs[k].rows[j].ad rs[k].rows[j].rows.length rs[k].rows[j].cap] (by simp[Act.eval,hm2]) rfl (fun j u hu=>news_of_block hnew j u hu) (by simp[Value.oneCell']) (by unfold maxLen;omega) (by omega) (by have:=YN.size;have:=hm1.size;omega) ?_;intro v' w2' hown2 WN hloc2;exact⟨v',by simp[upd,Act.put],hB.app h8 WN hown2 hloc2⟩
     cases ho;have h7:=V8.out ⟨7,.data⟩ (by simp) rfl;obtain⟨st,e7⟩:=HI.out.seven h7;have HI2:=HI.out.second h7 e7;clear V8 HI;refine aa rfl fun K HK=>?_;simp only[e7];go_simp;exact HK.out _ _ ⟨_,by simp[upd,e7,goInt],HI2⟩
    case finA =>
     rintro o ho l fq w' hall hI;obtain rfl:=Option.some.inj ho;have hC:=hI.last hall;obtain⟨W0,w1',st,hm1,hm2,Zk,hm4,YN,hm6,-,hm8⟩:=hC.mid;have e10:=hm8 (hall 10 (by omega));have e3:=(hC.val 3 (by omega)).trans WV.out.2.2.2.1;obtain⟨w7,hrun,hM3,hg3⟩:=hm6 w' (fq 9) (Zk.block br (by have:=hm2.size;have:=hm1.size;omega) (fun e=>by have:=(Xa.out W0 hm1).lt br e.symm;omega));have hst:=(HD3.out.rel.below hm1).step (y:=(rs[k].name,fv)) (s:=rs[k].rows[j]) hm2 (by rw[<-XV.out,<-Zb.out];exact hm4) (by rw[<-Xo.out];exact Zk) (by rw[<-Xo.out];exact YN) hg3 hM3;have HD7:=aG ((HD3.out.below hm1).list hst.1 hst.2);have HB7:Hid (Below br W w7):=by
      have b0:Below br W W0:=HB3'.out.trans (hm1.mono (by omega));have b1:Below br W w1':=b0.grown hm2 (by have:=hm1.size;omega) (fun i hi=>by injection hi with hi;omega);have b2:Below br W w':=b1.grown Zk (by have:=hm2.size;have:=hm1.size;omega) (fun i hi=>by have:=((Xa.out W0 hm1).lt i hi).1;omega);exact b2.grown hg3 (by have:=Zk.size;have:=hm2.size;have:=hm1.size;omega) (fun i hi=>by injection hi with hi;omega)
     have HT7:Hid (w7.heap[wo.heap.size]?=some (.cells #[.string rs[k].name,.slice rs[k].ad rs[k].rows.length rs[k].cap] 127 (0,0))):=by
      show _=_;have h0:W0.heap[wo.heap.size]?=_:=(hm1.block wo.heap.size (by omega)).trans HT3.out;rw[hst.2.block wo.heap.size (by have:=hm1.size;omega) (by omega) (r9 (HD3.out.rel.below hm1) h0 (by decide))];exact h0
     have XJ:(Instr.entryStore 165 (.map (some br)) (.int .i64 st) (fq 9)).run prog w'=.ok () w7:=hrun;obtain⟨Mn,hMn⟩:∃M,M=lu Mr (rs[k].name,fv) (some (fq 9)):=⟨_,rfl⟩;rw[<-hMn]at HD7;refine aa rfl fun K HK=>?_;simp only[e3,e10];go_simp;refine HK.out _ _ ?_;obtain⟨n0,hn0⟩:∃n,n=gJ E0:=⟨_,rfl⟩;have XU:=aG hn0;rw[<-hn0]at HD7;have d1:=HD7.out.dat.c1;have fz:=fun o=>gX HD7.out.dat.kind.choose_spec o;have XI:=HD7.out.dat.lt;clear hst hrun XJ hM3 hg3 hm1 hm2 Zk hm4 YN hm6 hm8 hC hI hall ho HK K e3 e10 HD3 HT3 HB3' Xa WV HKEY hMn Xo XV Zb HR2 HFRB hn0 hDl hbrD;obtain⟨w8,hw8⟩:∃x,x=w7.setCell ⟨D,1,none⟩ (Value.int .i64 (max n0 (fv+1))):=⟨_,rfl⟩;have HEQ:Hid (dH f (rs.take k)++(rs[k].rows.take (j+1)).map (xM f rs[k].name)=E0++[((rs[k].name,fv),rs[k].rows[j])]):=by show _=_;rw[HTKE.out,<-Vm,<-YA.out];unfold xM;rw[<-HFV.out]
     have HD8:Hid (∃nr Mr,nr<=6*k+(j+1)/\DatA w8 rs D br bp bt (gJ (dH f (rs.take k)++(rs[k].rows.take (j+1)).map (xM f rs[k].name))) nr Mr (dH f (rs.take k)++(rs[k].rows.take (j+1)).map (xM f rs[k].name)) (bn ts) (dM ts) (bP ts) ts.length Mp vo vu):=by
      rw[HEQ.out,Hy,<-XU.out,hw8];exact⟨nr+1,Mn,by omega,HD7.out.count (max n0 (fv+1))⟩
     have HT8:Hid (w8.heap[wo.heap.size]?=some (.cells #[.string rs[k].name,.slice rs[k].ad rs[k].rows.length rs[k].cap] 127 (0,0))):=by
      show _=_;rw [hw8,heap_setCell_other w7 ⟨D,1,none⟩ wo.heap.size _ (fun e=>by
       have e':wo.heap.size=D:=e;have h1:=HT7.out;obtain⟨cur,h2⟩:=HD7.out.dat.kind;rw[e',h2]at h1;injection h1 with h1;injection h1 with _ h3;exact absurd h3 (by decide))]
      exact HT7.out
     have HB8:Hid (Below br W w8):=by show Below _ _ _;rw[hw8];exact HB7.out.setCell (by show br<=D;have:=HD7.out.ord;have:=HD7.out.dat.gt;omega) _
     rw[had]at HT8;clear HD7 HT7 HB7;go_wp2;rw[<-hw8];go_roundw;case rel=>exact⟨j+1,by omega,by go_num,HD8,HT8,HB8⟩
     simp[intOf]<;>omega
   obtain rfl:j=rs[k].rows.length:=by omega
   have HDN2:Hid (∃nr Mr,nr<=6*(k+1)/\DatA wr rs D br bp bt (gJ (dH f (rs.take (k+1)))) nr Mr (dH f (rs.take (k+1))) (bn ts) (dM ts) (bP ts) ts.length Mp vo vu):=by
    obtain⟨nr,Mr,hnr,XC⟩:=YU.out;rw[Va]at XC;rw[HSU.out];exact⟨nr,Mr,by omega,XC⟩
   have HEL2:Hid ((dH f (rs.take (k+1))).length<=6*(k+1)):=by
    show _<=_;rw[HSU.out,U2,Vt];have:=X0.out;omega
   clear YU HT;go_wp2;go_roundw;case rel=>exact⟨k+1,by omega,by go_num,HEL2,HDN2,HB⟩
   simp[intOf]<;>omega
  obtain rfl:k=rs.length:=by omega
  rw[Va]at YU;obtain⟨nr,Mr,-,XC⟩:=YU.out;have HDE:=aG XC;clear XC YU;go_wp2;exact bodyPost_ret (v:=.tuple #[.pointer (some ⟨D,0,none⟩),.bool true]) (by simp[results,Tryz.results58,go_sem]) rfl ⟨YD.out,.inr ⟨HRT.out,D,br,bp,bt,nr,ts.length,Mr,Mp,vo,vu,f,rfl,hw2,HLS.out,HDE.out⟩⟩
 have HN:Hid (aV fit rs ts=false):=by
  show _=_;unfold aV;cases hh:aM (ag rs);case false=>simp
  exact absurd (bq.1 hh) hno
 clear hno;go_wp2;exact bodyPost_ret (v:=.tuple #[.pointer none,.bool false]) (by simp[results,Tryz.results58,go_sem]) rfl ⟨HB1.out,.inl ⟨HN.out,rfl⟩⟩
def nA(known:Q04)(f:Fc)(t:Tp):Bool:=if t.s.toList.isEmpty then t.c.toList==f.c.toList&&t.d.toList==f.d.toList else bB known ⟨t.c,t.d,t.s,f.c,f.d⟩
def wI(known:Q04)(name:ByteArray)(f:Fc)(t:Tp):Bool:=bB known ⟨t.c,t.d,name,f.c,f.d⟩
theorem q8(l:Q05)(k:K3)(p:Tp->Bool):(G.lookL (bn l) k).any p=l.any fun t=>(t.a.toList==k.1.toList&&t.b.toList==k.2.1.toList&&t.r.toList==k.2.2.toList)&&p t:=by
 induction l with
 | nil=>rfl
 | cons t l ih =>
  have e:bn (t::l)=[(MP t,t)]++bn l:=rfl;rw[e,G.lookL_append,List.any_append,ih,VY];congr 1;unfold G.lookL MP;by_cases h:(t.a,t.b,t.r)=k
  ·subst h;simp
  have h2:(t.a.toList==k.1.toList&&t.b.toList==k.2.1.toList&&t.r.toList==k.2.2.toList)=false:=by
   cases hb:(t.a.toList==k.1.toList&&t.b.toList==k.2.1.toList&&t.r.toList==k.2.2.toList);case false=>rfl
   rw[UW,UW,fE,fE,fE]at hb;exact absurd (Prod.ext hb.1.1 (Prod.ext hb.1.2 hb.2)) h
  simp[h,h2]
theorem Ka(l:Q05)(known:Q04)(f:Fc):eY l known f=(G.lookL (bn l) (f.a,f.b,f.r)).any (nA known f):=by rw[q8];rfl
theorem Kb(l:Q05)(known:Q04)(over name:bQ)(f:Fc):gm l known over name f=(G.lookL (bn l) (f.a,f.b,over)).any (wI known name f):=by rw[q8];rfl
theorem Nk(st:Q00)(n:Int)(o:Al)(tn:bQ)(rows:Q07):((rows.map fun r=>(tn,r.name)).filter fun k=>k.1.toList==o.t.toList&&decide (st k=n))=(G.lookL (rows.map fun r=>((tn,st (tn,r.name)),r)) (o.t,n)).map fun r=>(o.t,r.name):=by
 induction rows with
 | nil=>rfl
 | cons r rows ih =>
  have e:((r::rows).map fun r=>((tn,st (tn,r.name)),r))=[((tn,st (tn,r.name)),r)]++rows.map fun r=>((tn,st (tn,r.name)),r):=rfl;rw[e,G.lookL_append,VG,<-ih,VX,VW];unfold G.lookL;by_cases h:tn=o.t/\st (tn,r.name)=n
  ·obtain⟨rfl,rfl⟩:=h;simp
  have h1:(tn.toList==o.t.toList&&decide (st (tn,r.name)=n))=false:=by
   cases hb:(tn.toList==o.t.toList&&decide (st (tn,r.name)=n));case false=>rfl
   rw[UW,fE,U3]at hb;exact absurd hb h
  have h2:¬((tn,st (tn,r.name))=(o.t,n)):=fun e=>h ⟨congrArg Prod.fst e,congrArg Prod.snd e⟩;simp[h1,h2]
theorem Hz(st:Q00)(n:Int)(o:Al)(rs:Q06):AU (ag rs) st n o=(G.lookL (dH st rs) (o.t,n)).map fun r=>(o.t,r.name):=by
 unfold AU
 induction rs with
 | nil=>rfl
 | cons t rs ih =>
  have e1:au (ag (t::rs))=(t.rows.map fun r=>(t.name,r.name))++au (ag rs):=by
   have:jL t.p=t.rows.map fun r=>(t.name,r.name):=by unfold jL;show List.map _ (eZ t.rows)=_;unfold eZ;rw[List.map_map];rfl
   simp[au,ag,this]
  have e2:dH st (t::rs)=(t.rows.map fun r=>((t.name,st (t.name,r.name)),r))++dH st rs:=rfl;rw[e1,e2,G.lookL_append,VZ,VG,ih,Nk]
theorem BL{s:St}:∀{sts:List St},(iM sts).Nodup->s∈sts->fQ sts s.key=s.n
 | [],_,h=>by cases h
 | x::xs,hd,h=>by
  have hd2:x.key ∉ iM xs/\(iM xs).Nodup:=List.nodup_cons.1 hd;unfold fQ;by_cases e:Ac x s.key.1 s.key.2=true
  ·rw[if_pos e];have ek:=qE.1 e;rcases U9.1 h with rfl|h
   ·rfl
   exact absurd (by rw[ek];exact Vp h) hd2.1
  rw[if_neg e];rcases U9.1 h with rfl|h
  ·exact absurd (qE.2 rfl) e
  exact BL hd2.2 h
def UE(sts:List St)(n:Int)(o:Al):List St:=sts.filter fun s=>s.typ.toList==o.t.toList&&decide (s.n=n)
theorem RP{ts:Q0b}{sts:List St}(hk:iM sts=au ts)(hn:(au ts).Nodup)(n:Int)(o:Al):AU ts (fQ sts) n o=(UE sts n o).map St.key:=by
 unfold AU UE;rw[<-hk];rw[<-hk]at hn;unfold iM;rw[List.filter_map];congr 1;refine List.filter_congr fun s hs=>?_;show(s.key.1.toList==o.t.toList&&decide (fQ sts s.key=n))=_;rw[BL hn hs];rfl
theorem Kc{rs:Q06}(h:bu (ag rs)=true):(au (ag rs)).Nodup:=by
 have e:au (ag rs)=rs.flatMap fun t=>t.rows.map fun r=>(t.name,r.name):=by
  unfold au ag;rw[List.flatMap_map];congr 1
  funext t
  unfold jL;show List.map _ (eZ t.rows)=_;unfold eZ;rw[List.map_map];rfl
 rw[e,List.Nodup,List.pairwise_flatMap];constructor
 ·intro t ht;obtain ⟨i,hi,rfl⟩:=Vx.1 ht;have hu:=(lQ h i hi).2.2;rw [List.pairwise_map,List.pairwise_iff_getElem];intro a b ha hb hab e;have hne:=rM (f:=fun k=>(rs[i].rows[k]?.map RR.name).getD ByteArray.empty) (n:=rs[i].rows.length) (fun k hk=>by
   have h0:k<rs[i].rows.length:=by omega
   simp only[U1 hk,U1 h0,Option.map_some,Vw];exact(Dg hu (k+1) hk hk).2.1 k h0 rfl)
  have:=hne a b hab hb;simp[ha,hb]at this;exact this (congrArg Prod.snd e)
 rw [List.pairwise_iff_getElem];intro a b ha hb hab x hx y hy e;obtain ⟨r,hr,rfl⟩:=U7.1 hx;obtain ⟨q,hq,rfl⟩:=U7.1 hy;have hne:=rM (f:=fun k=>(rs[k]?.map TR.name).getD ByteArray.empty) (n:=rs.length) (fun k hk=>by
  have h0:k<rs.length:=by omega
  simp only[U1 hk,U1 h0,Option.map_some,Vw];exact(lQ h (k+1) hk).2.1 k h0 rfl)
 have:=hne a b hab hb;simp[ha,hb]at this;exact this (congrArg Prod.fst e)
theorem H5{α:Type}[DecidableEq α]:∀{a b:List α},a.Nodup->(∀x∈a,x∈b)->a.length<=b.length
 | [],_,_,_=>UY _
 | x::a,b,hd,hs=>by
  obtain⟨h1,h2⟩:=List.nodup_cons.1 hd;have hx:=hs x (by simp);have:=H5 (a:=a) (b:=b.erase x) h2 fun y hy=>(List.mem_erase_of_ne (fun e:y=x=>h1 (by rw[<-e];exact hy))).2 (hs y (by simp[hy]));rw[List.length_erase_of_mem hx]at this;have hp:0<b.length:=List.length_pos_of_mem hx;simp only[Vq];omega
def BM(ts:Q0b)(xo xu:Q0a):List Fc:=xo.flatMap fun o=>(au ts).flatMap fun k=>jg o k.2 xu
theorem D6{ts:Q0b}{st:Q00}{xo xu:Q0a}{n:Int}{f:Fc}(h:f∈df ts st xo xu n):f∈BM ts xo xu:=by
 unfold df vQ at h;obtain⟨o,ho,h⟩:=U8.1 h;obtain⟨k,hk,h⟩:=U8.1 h;exact U8.2 ⟨o,ho,U8.2 ⟨k,(VM.1 hk).1,h⟩⟩
theorem BN{α β:Type}(f:α->List β)(m:Nat)(hf:∀a,(f a).length<=m):∀l:List α,(l.flatMap f).length<=l.length*m
 | []=>by simp
 | a::l=>by
  have h1:=BN f m hf l;have h2:=hf a;simp only[Vo,U2,Vq,Nat.add_mul];omega
theorem Qk(ts:Q0b)(xo xu:Q0a):(BM ts xo xu).length<=xo.length*((au ts).length*xu.length) :=
 BN _ _ (fun o=>BN _ _ (fun k=>by unfold jg;rw[Vt];exact UU _) _) _
structure GoodO(ts:Q0b)(xo xu:Q0a)(out:Q04):Prop where
 once:out.Nodup
 sub:∀g∈out,g∈BM ts xo xu
def Ue(us:Q0a):List (ByteArray×ByteArray):=us.map fun u=>(u.t,u.s)
def Uf(us:Q0a)(x:Q01):Bool:=us.any fun u=>u.t.toList==x.1.toList&&u.s.toList==x.2.toList
theorem zm{us:Q0a}{x:Q01}:Uf us x=true↔x∈Ue us:=by
 unfold Uf Ue;rw[Vk,U7];constructor
 ·rintro⟨u,hu,h⟩;rw[UW,fE,fE]at h;exact⟨u,hu,Prod.ext h.1 h.2⟩
 rintro⟨u,hu,rfl⟩;exact⟨u,hu,by simp⟩
def fC(us:Q0a)(new:Q04):List Al:=us.filter fun u=>new.any fun g=>g.c.toList==u.t.toList&&g.d.toList==u.s.toList
theorem D7{us:Q0a}{new:Q04}{x:Q01}:x∈Ue (fC us new)↔x∈Ue us/\∃g∈new,g.u=x:=by
 unfold Ue fC;constructor
 ·intro h;obtain⟨u,hu,rfl⟩:=U7.1 h;obtain⟨h1,h2⟩:=VM.1 hu;obtain⟨g,hg,h3⟩:=Vk.1 h2;rw[UW,fE,fE]at h3;exact⟨Vp (f:=fun u:Al=>(u.t,u.s)) h1,g,hg,Prod.ext h3.1 h3.2⟩
 rintro⟨h,g,hg,hx⟩;obtain⟨u,hu,rfl⟩:=U7.1 h;refine U7.2 ⟨u,VM.2 ⟨hu,Vk.2 ⟨g,hg,?_⟩⟩,rfl⟩;rw[UW,fE,fE];exact⟨congrArg Prod.fst hx,congrArg Prod.snd hx⟩
theorem Ke(us:Q0a):fC us []=[]:=by unfold fC;rw[List.filter_eq_nil_iff];simp
theorem Kg{ts:Q0b}{xo xu:Q0a}{n:Int}{st st':Q00}(h:∀k∈au ts,st k=st' k):df ts st xo xu n=df ts st' xo xu n:=by
 unfold df vQ;congr 1
 funext o
 have:AU ts st n o=AU ts st' n o:=List.filter_congr fun k hk=>by rw[h k hk]
 rw[this]
set_option linter.unusedSectionVars false
section
variable  [DecidableEq Fc]
theorem GoodO.run{ts:Q0b}{xo xu:Q0a}{out:Q04}(h:GoodO ts xo xu out){H:List Fc->Fc->Bool}{qs:Q04}(hq:∀g∈qs,g∈BM ts xo xu):GoodO ts xo xu (bR H qs out):=by
 refine⟨wX qs h.once,fun g hg=>?_⟩;obtain⟨n,e,hn⟩:=jH (H:=H) qs out;rw[e]at hg;rcases U6.1 hg with hg|hg
 ·exact h.sub g hg
 exact hq g (hn g hg).1
theorem GoodO.len{ts:Q0b}{xo xu:Q0a}{out:Q04}(h:GoodO ts xo xu out)(h1:xo.length<=80)(h2:(au ts).length<=36)(h3:xu.length<=40):out.length<=115200:=by
 have a1:=H5 h.once h.sub;have a2:=Qk ts xo xu;have a3:(au ts).length*xu.length<=36*40:=Nat.mul_le_mul h2 h3;have a4:xo.length*((au ts).length*xu.length)<=80*(36*40):=Nat.mul_le_mul h1 a3;omega
structure FewA(ts:Q0b)(l:Q05)(st:Q00)(xo xu:Q0a)(n:Int)(us:Q0a)(out:Q04):Prop where
 sub:us=xu.filter fun u:Al=>Uf us (u.t,u.s)
 few:Few Fc.u (fT ts l) (df ts st xo xu n) (Ue us) out
variable  {ts:Q0b}{l:Q05}{st:Q00}{xo xu:Q0a}{n:Int}
theorem FewA.start(out:Q04):FewA ts l st xo xu n xu out:=by
 refine⟨(List.filter_eq_self.2 fun u hu=>zm.2 (Vp (f:=fun u:Al=>(u.t,u.s)) hu)).symm,Few.start fun f hf=>Jz hf⟩
theorem Kh{φ υ:Type}[DecidableEq φ]{us:φ->υ}{H:List φ->φ->Bool}(hL:Loc us H){qs:List φ}{users:List υ}{out:List φ}(h:Few us H qs users out)(P:υ->Bool)(hP:∀u,P u=true↔u∈users):bR H (qs.filter fun f=>P (us f)) out=bR H qs out :=
 (mW hL P qs out fun f hf hp=>h.set f hf fun hm=>by rw[(hP _).2 hm]at hp;cases hp).symm
theorem FewA.round{us:Q0a}{out:Q04}(h:FewA ts l st xo xu n us out):bR (fT ts l) (df ts st xo us n) out=bR (fT ts l) (df ts st xo xu n) out:=by
 have h2:=GJ ts st xo xu n (Uf us);rw[<-h.sub]at h2;rw[<-h2];exact Kh (Dw ts l) h.few (Uf us) fun u=>zm
theorem FewA.next{us:Q0a}{out new:Q04}(h:FewA ts l st xo xu n us out)(hn:bR (fT ts l) (df ts st xo us n) out=out++new):FewA ts l st xo xu n (fC us new) (out++new):=by
 refine⟨?_,h.few.next (Dw ts l) (h.round.symm.trans hn) fun u=>D7⟩;have h1:fC us new=(xu.filter fun u:Al=>Uf us (u.t,u.s)).filter fun u=>new.any fun g=>g.c.toList==u.t.toList&&g.d.toList==u.s.toList:=by rw[<-h.sub];rfl
 rw[List.filter_filter]at h1;refine h1.trans (List.filter_congr fun u hu=>?_);rw[Vd,zm,D7,UW,zm,Vk,and_comm];refine and_congr Iff.rfl ⟨fun⟨g,hg,h3⟩=>⟨g,hg,?_⟩,fun⟨g,hg,h3⟩=>⟨g,hg,?_⟩⟩
 ·rw[UW,fE,fE]at h3;exact Prod.ext h3.1 h3.2
 rw[UW,fE,fE];exact⟨congrArg Prod.fst h3,congrArg Prod.snd h3⟩
theorem FewA.done{out:Q04}(h:FewA ts l st xo xu n [] out):kH (fT ts l) (df ts st xo xu n) out=out:=h.few.done
theorem si{st st':Q00}(h:∀k∈au ts,st k=st' k):∀N,lJ ts l st xo xu N=lJ ts l st' xo xu N
 | 0=>rfl
 | N+1=>by rw[jy,jy,si h N,Kg h]
end
end Go.Proofs.YtajkkeikihhejaaGreat
