/- The program's data out of a schema and tuples: right ones are laid out. -/
import Derived.Test.YtcgdckphpjfmhaaGreatDoorSq
import Derived.Test.YtcgdckphpjfmhaaGreatDoorJ16
import Derived.Test.YtcgdckphpjfmhaaGreatDoorJ18
open Go.Proofs.Tryz
set_option maxHeartbeats 80000000
namespace Go.Proofs.YtcgdckphpjfmhaaGreatDoor
set_option maxRecDepth 100000
set_option linter.unusedVariables false
open ChangeShapes WideShapes ChangeAt RowKit Maps
open Pl
def J7(ts:Q0b)(w:World)(e:Ending)(w':World):Prop :=
 ((∃(b n:Nat) (σ:Ky->Option Int),e=.returned (.tuple #[.map (some b),.bool true])/\bI ts/\aN dO prog 151 w' b n (iZ σ)/\Least ts (fun k=>(σ k).getD 0)/\∀k,(∃x,σ k=some x)↔k∈av ts)\/(e=.returned (.tuple #[.map none,.bool false])/\¬bI ts))/\af w w'
theorem oM:∀ts:List Tp,(iJ ts).length<=2*ts.length:=by
 have key:∀(ts:Q05) (xs:Q0a),(ts.foldl iB xs).length<=xs.length+2*ts.length:=by
  intro ts
  induction ts with
  | nil=>intro xs;simp
  | cons t ts ih =>
   intro xs;have h1:=ih (iB xs t);have h2:=qO xs t;simp only[List.foldl_cons,We];omega
 intro ts;have:=key ts [];simpa[iJ] using this
theorem mR:∀ts:List Tp,(fo ts).length<=ts.length:=by
 have key:∀(ts:Q05) (xs:Q0a),(ts.foldl dA xs).length<=xs.length+ts.length:=by
  intro ts
  induction ts with
  | nil=>intro xs;simp
  | cons t ts ih =>
   intro xs;have h1:=ih (dA xs t);have h2:=qP xs t;simp only[List.foldl_cons,We];omega
 intro ts;have:=key ts [];simpa[fo] using this
def bC(fit:Tp->Bool)(rs:Q06)(ts:Q05):Bool:=ak (ag rs)&&dZ ts&&ts.all fit
def eG(f:Q00)(rs:Q06):List (KL×RR):=rs.flatMap fun t=>t.rows.map fun r=>((t.name,f (t.name,r.name)),r)
def jI(E:List (KL×RR)):Int:=E.foldl (fun m x=>max m (x.1.2+1)) 0
def Vd(fit:Tp->Bool)(rs:Q06)(ts:Q05)(w:World)(e:Ending)(w':World):Prop :=
 af w w'/\((bC fit rs ts=false/\e=.returned (.tuple #[.pointer none,.bool false])) \/
  (bC fit rs ts=true/\∃ (D br bp bt nr np:Nat) (Mr:KL->Option Value) (Mp:K3->Option Value) (vo vu:Value) (f:Q00),e=.returned (.tuple #[.pointer (some ⟨D,0,none⟩),.bool true])/\w.heap.size<=bt/\Least (ag rs) f /\
   DatA w' rs D br bp bt (jI (eG f rs)) nr Mr (eG f rs) (dF ts) (iJ ts) (fo ts) np Mp vo vu))
theorem Qy{w:ae}{rs:Q06}{bt:Nat}(ht:aN dO prog 151 w bt 36 (qg rs))(hl:bt<w.heap.size):
  DatA (((w.alloc (.map #[] 0)).alloc (.map #[] 0)).alloc (.cells #[.map (some bt),.int .i64 0,.map (some w.heap.size),.map (some (w.heap.size+1)),.slice none 0 0,.slice none 0 0] 126)) rs (w.heap.size+2) w.heap.size (w.heap.size+1) bt 0 0 (fun _=>none) [] [] [] [] 0 (fun _=>none) (.slice none 0 0) (.slice none 0 0):=by
 obtain⟨w1,h1⟩:∃w1,w1=w.alloc (.map #[] 0):=⟨_,rfl⟩;obtain⟨w2,h2⟩:∃w2,w2=w1.alloc (.map #[] 0):=⟨_,rfl⟩;have s1:w1.heap.size=w.heap.size+1:=by rw[h1];simp
 have s2:w2.heap.size=w.heap.size+2:=by rw[h2];simp;omega
 rw[<-h1,<-h2];have b1:af w w1:=by rw[h1];exact(VD _ _).alloc (VC _) _
 have b2:af w1 w2:=by rw[h2];exact(VD _ _).alloc (VC _) _
 have b3:∀o,af w2 (w2.alloc o):=fun o=>(VD _ _).alloc (VC _) _;have g1:EZ w1 w.heap.size 0 (fun _=>none) []:=by rw[h1];exact G.grp_made w
 have g2:G.Grp qz prog 226 29 6 Tp.row w2 (w.heap.size+1) 0 (fun _=>none) []:=by
  have:=G.grp_made (enc:=qz) (P:=prog) (kt:=226) (et:=29) (sz:=6) (cl:=Tp.row) w1;rw[s1]at this;rw[h2];exact this
 rw[<-s2];refine⟨⟨by omega,by simp,⟨_,heap_alloc_new w2 _⟩,by simp,by simp,by simp,by simp,by simp,by simp,g2.below (b3 _),World.ownsRow_nil _ _ _ _,World.ownsRow_nil _ _ _ _,fun g e=>by simp[Value.ownBlock]at e⟩,((ht.below b1).below b2).below (b3 _),(g1.below b2).below (b3 _),hl,by omega⟩
theorem Qz{p:Tp->Bool}{ts:Q05}{k:Nat}(h:k<ts.length):(ts.take (k+1)).all p=((ts.take k).all p&&p ts[k]):=by
 rw[VE h,WK];simp
theorem R5{p:Tp->Bool}{ts:Q05}{k:Nat}(h:k<ts.length)(hp:p ts[k]=false):ts.all p=false:=by
 rw[List.all_eq_false];exact⟨_,Vz h,by rw[hp];decide⟩
theorem zf{rs:Q06}(h6:rs.length<=6)(hr:∀r∈rs,r.rows.length<=6):(av (ag rs)).length<=36:=by
 have key:∀l:List TR,(∀r∈l,r.rows.length<=6)->(av (ag l)).length<=6*l.length:=by
  intro l
  induction l with
  | nil=>intro _;simp[av,ag]
  | cons r l ih =>
   intro h;have h1:=ih fun q hq=>h q (Wv _ hq);have h2:=h r (by simp);have e:av (ag (r::l))=kE r.p++av (ag l):=by simp[av,ag]
   have e2:(kE r.p).length=r.rows.length:=by unfold kE;rw[WC];exact rJ _
   rw[e,VI,e2,We];omega
 have:=key rs hr;omega
theorem QA{rs:Q06}{σ:Ky->Option Int}(hS:bI (ag rs))(h6:rs.length<=6)(hr:∀r∈rs,r.rows.length<=6)(hL:Least (ag rs) (fun k=>(σ k).getD 0))(hk:∀k,(∃x,σ k=some x)↔k∈av (ag rs))(y:Ky):0<=(σ y).getD 0/\(σ y).getD 0<=36:=by
 refine⟨hL.sol.pos y,?_⟩;cases e:σ y with
 | none=>simp
 | some x =>
  have hy:y∈av (ag rs):=(hk y).1 ⟨x,e⟩;obtain⟨g,hg,hb⟩:=hL.sol.few (mi hS.2.1);have h1:=hL.low y hy g hg;have h2:=hb y hy;have h3:=zf h6 hr;simp only[e]at h1;omega
def xx(f:Ky->Int)(n:ByteArray)(r:RR):KL×RR:=((n,f (n,r.name)),r)
theorem Nj(f:Ky->Int){rs:Q06}{k:Nat}(h:k<rs.length):eG f (rs.take (k+1))=eG f (rs.take k)++rs[k].rows.map (xx f rs[k].name):=by
 unfold eG;rw[VE h,Ws];simp[xx]
theorem Ho(E:List (KL×RR))(x:KL×RR):jI (E++[x])=max (jI E) (x.1.2+1):=by simp[jI]
theorem QB:∃i,prog.info? 149=some i/\i.zero=some (.agg #[.string ⟨#[]⟩,.slice none 0 0])/\i.size=2/\i.bytes=40 :=
 info_parts (P:=prog) (e:=149) (z:=.agg #[.string ⟨#[]⟩,.slice none 0 0]) (size:=2) (bytes:=40) (by kernel_rfl)
theorem QC(u:ae):(zeroValue 103).run prog u=.ok (.slice none 0 0) u:=by kernel_rfl
theorem R6(u:ae):(zeroValue 2).run prog u=.ok (.int .i64 0) u:=by kernel_rfl
theorem DJ{w:ae}{br nr:Nat}{Mr:KL->Option Value}{E:List (KL×RR)}(h:EZ w br nr Mr E)(k:KL):w.ownsRow (br+1) 149 2 ((Mr k).getD (.slice none 0 0)) (G.lookL E k).length (G.flatG RQ (G.lookL E k)):=by
 rcases h.row k with⟨e,e2⟩|⟨v,e,ho⟩
 ·rw[e,e2];exact World.ownsRow_nil _ _ _ _
 rw[e];exact ho
theorem QD{w W w':ae}{D g:Nat}{y x0 x1 x2 x3 x4 x5:Value}(h:W.cell? ⟨D,0,none⟩=some y/\W.cell? ⟨g,0,none⟩=some x0/\W.cell? ⟨g,1,none⟩=some x1/\W.cell? ⟨g,2,none⟩=some x2/\W.cell? ⟨g,3,none⟩=some x3/\W.cell? ⟨g,4,none⟩=some x4/\W.cell? ⟨g,5,none⟩=some x5/\D<W.heap.size/\g<W.heap.size/\af w W)(hb:af W w'):w'.cell? ⟨D,0,none⟩=some y/\w'.cell? ⟨g,0,none⟩=some x0/\w'.cell? ⟨g,1,none⟩=some x1/\w'.cell? ⟨g,2,none⟩=some x2/\w'.cell? ⟨g,3,none⟩=some x3/\w'.cell? ⟨g,4,none⟩=some x4/\w'.cell? ⟨g,5,none⟩=some x5/\D<w'.heap.size/\g<w'.heap.size/\af w w':=by
 obtain⟨h0,g0,g1,g2,g3,g4,g5,hn,hm,hB⟩:=h;have hc:∀o,w'.cell? ⟨D,o,none⟩=W.cell? ⟨D,o,none⟩:=fun o=>hb.cell (p:=⟨D,o,none⟩) hn;have hd:∀o,w'.cell? ⟨g,o,none⟩=W.cell? ⟨g,o,none⟩:=fun o=>hb.cell (p:=⟨g,o,none⟩) hm;exact⟨(hc _).trans h0,(hd _).trans g0,(hd _).trans g1,(hd _).trans g2,(hd _).trans g3,(hd _).trans g4,(hd _).trans g5,Vy hn hb.size,Vy hm hb.size,hB.trans (hb.mono hB.size)⟩
theorem Bv(fit:Tp->Bool)(ad:Q02)(cap:Nat)(rs:Q06)(WY:Q02)(cap':Nat)(ts:Q05)(w:ae)(hlen:rs.length<=1048576)(hs:jP w ad rs)(hl:∀r∈rs,r.light)(hfr:∀r∈rs,r.fits)(hC:Calls prog 78 #[.slice ad rs.length cap] w (J7 (ag rs) w))(hfb:ak (ag rs)=true->∀t:Tp,t.ok=true->oG (ag rs) t.a t.r ⟨t.c,t.s⟩=fit t)(hlt:ts.length<=1048576)(hst:Sl w WY ts)(hft:∀x∈ts,x.fits):
  Calls prog 41 #[.slice ad rs.length cap,.slice WY ts.length cap'] w (Vd fit rs ts w):=by
 have HS:=ax hs;have HL:=ax hl;have YJ:=ax hfr;have HST:=ax hst;have Xd:=ax hft;have HC:=ax hC;have HFB:=ax hfb;obtain⟨iR,i0,i1,i2,i3⟩:=QB;have HIR:=ax (And.intro i0 (And.intro i1 (And.intro i2 i3)));clear i0 i1 i2 i3;have Xu:ts.length<=maxLen:=by unfold maxLen;omega
 clear hs hl hfr hC hfb hst hft;go_enter func41,ntmps41;go_wp2_with fail;refine HC.out.mono ?_;rintro e w1 ⟨hL,hb1⟩;have HB1:=ax hb1;clear HC hb1;rcases hL with⟨bS,nS,σ,rfl,hS,hM,Zp,hk⟩|⟨rfl,hno⟩
 ·have HSD:Hid (ak (ag rs)=true):=bz.2 hS;have HM:=ax hM;have XM:=ax Zp;have HKE:=ax hk;have hSP:=hS;obtain⟨h6,YH,-⟩:=bu hSP.1;have HTAB:=ax (uq hSP.1);have Yv:=ax YH;clear hM Zp hk hS hSP YH;go_wp2_with fail;refine(xq WY cap' ts _ Xu (HST.out.below HB1.out) Xd.out).mono ?_;rintro e w2 ⟨he,hb2⟩;have HB2:=ax (HB1.out.trans (hb2.mono HB1.out.size));have XE:=ax (HM.out.below hb2);clear hb2 HM;cases h2:dZ ts;case false=>
   rw[h2]at he;subst he;have HN:Hid (bC fit rs ts=false):=by show _=_;unfold bC;rw[h2];simp
   clear h2;go_wp2;exact bodyPost_ret (v:=.tuple #[.pointer none,.bool false]) (by simp[results,Tryz.results41,go_sem]) rfl ⟨HB2.out,.inl ⟨HN.out,rfl⟩⟩
  rw[h2]at he;subst he;have HTU:=ax (OU h2);have ZK:Hid (bC fit rs ts=ts.all (fit)):=by show _=_;unfold bC;rw[h2,HSD.out];simp
  have h40:ts.length<=40:=HTU.out.2.2;have HTBL:=ax (qV ad cap rs w2 h6 (HS.out.below HB2.out) Yv.out YJ.out);clear h2;go_wp2_with fail;refine HTBL.out.mono ?_;rintro e w3 ⟨rfl,hV3,hb3⟩;have HB3:=ax (HB2.out.trans (hb3.mono HB2.out.size));have hbt:w2.heap.size<w3.heap.size:=hV3.lt;have hw2:w.heap.size<=w2.heap.size:=HB2.out.size;have Zz:=ax (XE.out.below hb3);have HDN:=ax (Qy hV3 hbt);obtain⟨bt,hbte⟩:∃b,b=w2.heap.size:=⟨_,rfl⟩;obtain⟨br,hbre⟩:∃b,b=w3.heap.size:=⟨_,rfl⟩;rw[<-hbte]at HDN hbt hw2 ⊢;obtain⟨W,hW⟩:∃W,W=((w3.alloc (.map #[] 0)).alloc (.map #[] 0)).alloc (.cells #[.map (some bt),.int .i64 0,.map (some w3.heap.size),.map (some (w3.heap.size+1)),.slice none 0 0,.slice none 0 0] 126):=⟨_,rfl⟩;rw[<-hW]at HDN;have hmm:=@run_makeMap prog;have HBW0:Hid (af w3 W):=by
   show Below _ _ _;rw[hW];exact(((VD _ _).alloc (VC _) _).alloc (by simp) _).alloc (by simp;omega) _
  have HMW:=ax (Zz.out.below HBW0.out);have WZ:=ax (HB3.out.trans (HBW0.out.mono HB3.out.size));have hbS:bS<br:=by rw[hbre];exact Zz.out.lt
  clear hb3 hV3 HTBL hbte;obtain⟨D,hDe⟩:∃b,b=br+2:=⟨_,rfl⟩;obtain⟨bp,hbpe⟩:∃b,b=br+1:=⟨_,rfl⟩;rw[<-hbre]at HDN;rw[<-hDe,<-hbpe]at HDN;have hDW:D<W.heap.size:=HDN.out.dat.lt;go_wp2_with fail;rw[<-hW,show w3.heap.size+1+1=D by omega,show w3.heap.size+1=bp by omega,<-hbre];have hwbr:w.heap.size<=br:=by rw[hbre];exact HB3.out.size
  have hbtr:bt<br:=by rw[hbre];exact hbt
  clear hbt;clear hbre hDe hbpe hW hmm HBW0;go_loopw[37] (fun i wr=>∃k:Nat,k<=ts.length/\i=.int .i64 (k:Int)/\Hid ((ts.take k).all (fit)=true)/\Hid (∃Mp vo vu,DatA wr rs D br bp bt 0 0 (fun _=>none) [] (dF (ts.take k)) (iJ (ts.take k)) (fo (ts.take k)) k Mp vo vu)/\Hid (Below br W wr)) (fun i _=>ts.length-(intOf i).toNat);case atStart=>exact⟨0,VG _,rfl,rfl,⟨_,_,_,by simpa[dF,iJ,fo] using HDN.out⟩,VD _ _⟩
  obtain⟨k,hk,rfl,Xl,ZE,HB⟩:=hrel;have Zd:Hid (af w wr):=WZ.out.trans (HB.out.mono hwbr);by_cases hkl:k<ts.length
  ·rcases HST.out.below Zd.out with hnil|⟨b,off,rfl,hb,hr⟩
   ·rw[hnil]at hkl;simp at hkl
   obtain⟨t0,t1,t2,t3,t4,t5⟩:=hr k hkl;have hk1:=bq k;have hk2:(k:Int)<(ts.length:Int):=by omega
   have HAT:=ax (Qz (p:=fit) hkl);have HAH:=ax (R5 (p:=fit) hkl);have HXF:=ax (Xd.out _ (Vz hkl));have HXO:=ax (HTU.out.2.1 _ (Vz hkl));have HTK:Hid (ts.take (k+1)=ts.take k++[ts[k]]):=VE hkl;obtain⟨x,hx⟩:∃x,x=ts[k]:=⟨_,rfl⟩;rw[<-hx]at t0 t1 t2 t3 t4 t5 HAT HAH HXF HXO HTK;obtain⟨W4,XX⟩:∃W4,W4=wr.alloc (.cells #[.string x.a,.string x.b,.string x.r,.string x.c,.string x.d,.string x.s] 29):=⟨_,rfl⟩;have hb4:af wr W4:=by rw[XX];exact(VD _ _).alloc (VC _) _
   have hx4:wC W4 wr.heap.size x:=by rw[XX];exact Et wr x _
   obtain⟨Mp,vo,vu,Yi⟩:=ZE.out;have HD4:=ax (Yi.below hb4);have HX4:=ax hx4;have HBw4:=ax (Zd.out.trans (hb4.mono Zd.out.size));have X7:=ax (HB.out.trans (hb4.mono (by have:=HB.out.size;have:=HDN.out.ord;have:=HDN.out.dat.gt;omega)));have HLF:Hid (∀W',(fun w'=>w'.cell? ⟨D,0,none⟩=some (.map (some bt))/\w'.cell? ⟨wr.heap.size,0,none⟩=some (.string x.a)/\w'.cell? ⟨wr.heap.size,1,none⟩=some (.string x.b)/\w'.cell? ⟨wr.heap.size,2,none⟩=some (.string x.r)/\w'.cell? ⟨wr.heap.size,3,none⟩=some (.string x.c)/\w'.cell? ⟨wr.heap.size,4,none⟩=some (.string x.d)/\w'.cell? ⟨wr.heap.size,5,none⟩=some (.string x.s)/\D<w'.heap.size/\wr.heap.size<w'.heap.size/\af W4 w') W'->Calls prog 80 #[.map (some bt),.agg #[.string x.a,.string x.b,.string x.r,.string x.c,.string x.d,.string x.s]] W' fun e w'=>e=.returned (.bool (fit x))/\af W' w'):=fun W' hS'=>by
    have hb':=hS'.2.2.2.2.2.2.2.2.2;refine(Bf bt 36 rs ad (qg rs) x.a x.b x.r x.c x.d x.s W' ((HD4.out.tab).below hb') HTAB.out (HS.out.below (HBw4.out.trans (hb'.mono HBw4.out.size))) HL.out HXF.out.1 HXF.out.2.2.1).mono ?_;rintro e w6 ⟨rfl,hb6⟩;exact⟨by rw[HFB.out HSD.out x HXO.out],hb6⟩
   have H0:Hid ((fun w'=>w'.cell? ⟨D,0,none⟩=some (.map (some bt))/\w'.cell? ⟨wr.heap.size,0,none⟩=some (.string x.a)/\w'.cell? ⟨wr.heap.size,1,none⟩=some (.string x.b)/\w'.cell? ⟨wr.heap.size,2,none⟩=some (.string x.r)/\w'.cell? ⟨wr.heap.size,3,none⟩=some (.string x.c)/\w'.cell? ⟨wr.heap.size,4,none⟩=some (.string x.d)/\w'.cell? ⟨wr.heap.size,5,none⟩=some (.string x.s)/\D<w'.heap.size/\wr.heap.size<w'.heap.size/\af W4 w') W4.drew):=⟨HD4.out.dat.c0,hx4.1,hx4.2.1,hx4.2.2.1,hx4.2.2.2.1,hx4.2.2.2.2.1,hx4.2.2.2.2.2.1,HD4.out.dat.lt,hx4.2.2.2.2.2.2,(VD _ _).drew⟩;have ho40:=oM (ts.take k);have hu40:=mR (ts.take k);have hte:(dF (ts.take k)).length<=40:=by unfold dF;simp;omega
   have htl:(ts.take k).length<=40:=by rw[V9];omega
   have HALK:=Xl;clear hr hx hx4 Yi hb4 ZE HB Xl;cases hfx:fit x;case false=>
    rw[hfx]at HLF;go_wp2_with fail;rw[<-XX];clear XX
    go_region_held3 (fun w'=>w'.cell? ⟨D,0,none⟩=some (.map (some bt))/\w'.cell? ⟨wr.heap.size,0,none⟩=some (.string x.a)/\w'.cell? ⟨wr.heap.size,1,none⟩=some (.string x.b)/\w'.cell? ⟨wr.heap.size,2,none⟩=some (.string x.r)/\w'.cell? ⟨wr.heap.size,3,none⟩=some (.string x.c)/\w'.cell? ⟨wr.heap.size,4,none⟩=some (.string x.d)/\w'.cell? ⟨wr.heap.size,5,none⟩=some (.string x.s)/\D<w'.heap.size/\wr.heap.size<w'.heap.size/\af W4 w')
     (first|assumption|exact QD (by assumption) hbx|exact H0.out)
     (first|(go_at_call 80;refine(HLF.out _ (by assumption)).mono ?_;rintro e w' ⟨rfl,hbx⟩))
    rename_i hH;have HBE:Hid (af w _):=HBw4.out.trans (hH.2.2.2.2.2.2.2.2.2.mono HBw4.out.size);have HN:Hid (bC fit rs ts=false):=ZK.out.trans (HAH.out hfx);clear hH;go_wp2;exact bodyPost_ret (v:=.tuple #[.pointer none,.bool false]) (by simp[results,Tryz.results41,go_sem]) rfl ⟨HBE.out,.inl ⟨HN.out,rfl⟩⟩
   rw[hfx]at HLF;go_wp2_with fail;rw[<-XX];clear XX
   go_region_held3 (fun w'=>w'.cell? ⟨D,0,none⟩=some (.map (some bt))/\w'.cell? ⟨wr.heap.size,0,none⟩=some (.string x.a)/\w'.cell? ⟨wr.heap.size,1,none⟩=some (.string x.b)/\w'.cell? ⟨wr.heap.size,2,none⟩=some (.string x.r)/\w'.cell? ⟨wr.heap.size,3,none⟩=some (.string x.c)/\w'.cell? ⟨wr.heap.size,4,none⟩=some (.string x.d)/\w'.cell? ⟨wr.heap.size,5,none⟩=some (.string x.s)/\D<w'.heap.size/\wr.heap.size<w'.heap.size/\af W4 w')
    (first|assumption|exact QD (by assumption) hbx|exact H0.out)
    (first|(go_at_call 80;refine(HLF.out _ (by assumption)).mono ?_;rintro e w' ⟨rfl,hbx⟩))
   rename_i hH;obtain⟨-,y0,y1,y2,y3,y4,y5,-,yl,hbH⟩:=hH;rename_i w5;have HD5:=ax (HD4.out.below hbH);have HBw5:=ax (HBw4.out.trans (hbH.mono HBw4.out.size));have HBW5:=ax (X7.out.trans (hbH.mono (by have:=HD4.out.ord;have:=HD4.out.dat.gt;have:=HD4.out.dat.lt;omega)));have HALN:Hid ((ts.take (k+1)).all fit=true):=by show _=_;rw[HAT.out,HALK.out,hfx];rfl
   clear hbH;go_wp2_with fail;refine(PW D br bp _ 0 _ _ _ k Mp vo vu x _ HD5.out.dat (by omega) (by omega) (by omega) (by omega) HXF.out).mono ?_;rintro e w6 ⟨rfl,⟨Mp',ZL,ZM,hd6⟩,hb6⟩;have HDN6:Hid (∃Mp vo vu,DatA w6 rs D br bp bt 0 0 (fun _=>none) [] (dF (ts.take (k+1))) (iJ (ts.take (k+1))) (fo (ts.take (k+1))) (k+1) Mp vo vu):=by
    rw[HTK.out,Jc,Ap,xS];exact⟨Mp',ZL,ZM,HD5.out.tell hd6 hb6⟩
   have HBW6:Hid (Below br W w6):=HBW5.out.trans (hb6.mono (by have:=HD4.out.ord;omega));clear hd6 hb6;go_wp2;go_roundw;case rel=>exact⟨k+1,by omega,by go_num,HALN,HDN6,HBW6⟩
   simp[intOf]<;>omega
  obtain rfl:k=ts.length:=by omega
  rw[VP]at Xl ZE;have HRT:Hid (bC fit rs ts=true):=ZK.out.trans Xl.out;obtain⟨Mp,vo,vu,Yi⟩:=ZE.out;have HD0:=ax Yi;obtain⟨f,hf⟩:∃f:Ky->Int,f=fun k=>(σ k).getD 0:=⟨_,rfl⟩;have HF:=ax hf;have HLS:Hid (Least (ag rs) f):=by rw[hf];exact XM.out
  have HF36:Hid (∀y,0<=f y/\f y<=36):=by rw[hf];exact QA (bz.1 HSD.out) h6 Yv.out XM.out HKE.out
  obtain⟨wz,hwz⟩:∃wz,wz=wr:=⟨_,rfl⟩;subst hwz;have hkk:decide ((ts.length:Int)<(ts.length:Int))=false:=by simp
  clear Yi ZE Xl hf XM HTU ZK;go_wp2_with fail;go_loopw[54] (fun i wr=>∃k:Nat,k<=rs.length/\i=.int .i64 (k:Int)/\Hid ((eG f (rs.take k)).length<=6*k)/\Hid (∃nr Mr,nr<=6*k/\DatA wr rs D br bp bt (jI (eG f (rs.take k))) nr Mr (eG f (rs.take k)) (dF ts) (iJ ts) (fo ts) ts.length Mp vo vu)/\Hid (Below br W wr)) (fun i _=>rs.length-(intOf i).toNat);case atStart=>exact⟨0,VG _,rfl,VG _,⟨0,_,VG _,HD0.out⟩,HB⟩
  clear HD0 HB Zd;obtain⟨k,hk,rfl,YI,ZE,HB⟩:=hrel;have Zd:Hid (af w wr):=WZ.out.trans (HB.out.mono hwbr);by_cases hkl:k<rs.length
  ·rcases HS.out.below Zd.out with hnil|⟨b,off,rfl,hb,hr,hok⟩
   ·rw[hnil]at hkl;simp at hkl
   obtain⟨t0,t1⟩:=hr k hkl;have hk1:=bq k;have hk2:(k:Int)<(rs.length:Int):=by omega
   have h6k:rs[k].rows.length<=6:=Yv.out _ (Vz hkl);have z0:rs[k].name.size<=maxLen:=(YJ.out _ (Vz hkl)).1;have HFRk:Hid (∀q∈rs[k].rows,q.fits):=(YJ.out _ (Vz hkl)).2.2;have HSU:=ax (Nj f hkl);obtain⟨W1,hW1⟩:∃W1,W1=wr.alloc (.cells #[.string rs[k].name,.slice rs[k].ad rs[k].rows.length rs[k].cap] 105):=⟨_,rfl⟩;have hal:af wr W1:=by rw[hW1];exact(VD _ _).alloc (VC _) _
   obtain⟨nr,Mr,hnr,Yi⟩:=ZE.out;have HD1:=ax (Yi.below hal);have hbrz:br<wr.heap.size:=by have:=Yi.ord;have:=Yi.dat.gt;have:=Yi.dat.lt;omega
   have HB1:Hid (Below br W W1):=HB.out.trans (hal.mono (by omega));have HT1:Hid (W1.heap[wr.heap.size]?=some (.cells #[.string rs[k].name,.slice rs[k].ad rs[k].rows.length rs[k].cap] 105 (0,0))):=by rw[hW1];exact heap_alloc_new wr _
   have a1:W1.cell? ⟨wr.heap.size,1,none⟩=some (.slice rs[k].ad rs[k].rows.length rs[k].cap):=by rw[hW1];simp
   clear hr hok hal Yi ZE;go_wp2_with fail;rw[<-hW1];clear hW1 t0 t1 a1 HB;obtain⟨wo,hwo⟩:∃wo,wo=wr:=⟨_,rfl⟩;subst hwo;go_loopw[61] (fun i w2=>∃j:Nat,j<=rs[k].rows.length/\i=.int .i64 (j:Int)/\Hid (∃nr Mr,nr<=6*k+j/\DatA w2 rs D br bp bt (jI (eG f (rs.take k)++(rs[k].rows.take j).map (xx f rs[k].name))) nr Mr (eG f (rs.take k)++(rs[k].rows.take j).map (xx f rs[k].name)) (dF ts) (iJ ts) (fo ts) ts.length Mp vo vu)/\Hid (w2.heap[wo.heap.size]?=some (.cells #[.string rs[k].name,.slice rs[k].ad rs[k].rows.length rs[k].cap] 105 (0,0)))/\Hid (Below br W w2)) (fun i _=>rs[k].rows.length-(intOf i).toNat);case atStart=>exact⟨0,VG _,rfl,⟨nr,Mr,by omega,by simpa using HD1.out⟩,HT1,HB1⟩
   clear HD1 HT1 HB1 Zd;obtain⟨j,hj,rfl,ZE,HT,HB⟩:=hrel;have Zd:Hid (af w wr):=WZ.out.trans (HB.out.mono hwbr);by_cases hjl:j<rs[k].rows.length
   ·rcases HS.out.below Zd.out with hnil|⟨b',off',he,hb2,hr,hok⟩
    ·rw[hnil]at hkl;simp at hkl
    injection he with he;injection he with he1 he2;subst he1;subst he2;have ok:=hok rs[k] (Vz hkl);rcases ok with hnil|⟨b2,Xr,had,hbb,hr2,-⟩
    ·rw[hnil]at hjl;simp at hjl
    obtain⟨q0,q1⟩:=hr2 j hjl;have z1:rs[k].rows[j].name.size<=maxLen:=(HFRk.out _ (Vz hjl)).1;have hj1:=bq j;have hj2:(j:Int)<(rs[k].rows.length:Int):=by omega
    obtain⟨kl,hkl'⟩:=ku (rs[k].name,rs[k].rows[j].name) z0 z1;have XB:=ax hkl';obtain⟨nr,Mr,hnr,Yi⟩:=ZE.out;have HTKE:Hid ((rs[k].rows.take (j+1)).map (xx f rs[k].name)=(rs[k].rows.take j).map (xx f rs[k].name)++[xx f rs[k].name rs[k].rows[j]]):=by show _=_;rw[VE hjl,WA];rfl
    have hEl:((rs[k].rows.take j).map (xx f rs[k].name)).length=j:=by rw[WC,V9];omega
    obtain⟨E0,hE0⟩:∃E0,E0=eG f (rs.take k)++(rs[k].rows.take j).map (xx f rs[k].name):=⟨_,rfl⟩;have hE0l:E0.length<=36:=by rw[hE0,VI,hEl];have:=YI.out;omega
    rw[<-hE0]at Yi;have Zb:=ax hE0;obtain⟨fv,hfv⟩:∃fv,fv=f (rs[k].name,rs[k].rows[j].name):=⟨_,rfl⟩;have hfv36:=HF36.out (rs[k].name,rs[k].rows[j].name);rw[<-hfv]at hfv36;obtain⟨hfv0,hfv1⟩:=hfv36;have HFV:=ax hfv;have HLK:Hid ((iZ σ (rs[k].name,rs[k].rows[j].name)).getD (.int .i64 0)=.int .i64 fv):=by
     show _=_;rw[hfv,HF.out];unfold iZ;cases h:σ (rs[k].name,rs[k].rows[j].name)<;>simp[h]
    obtain⟨W2,hW2⟩:∃W2,W2=wr.alloc (.cells #[.string rs[k].rows[j].name,.slice rs[k].rows[j].ad rs[k].rows[j].rows.length rs[k].rows[j].cap] 149):=⟨_,rfl⟩;obtain⟨W3,hW3⟩:∃W3,W3=W2.alloc (.cells #[.string rs[k].name,.int .i64 fv] 153):=⟨_,rfl⟩;have hs2:W2.heap.size=wr.heap.size+1:=by rw[hW2];simp
    have hs3:W3.heap.size=wr.heap.size+2:=by rw[hW3];simp;omega
    have hal2:af wr W2:=by rw[hW2];exact(VD _ _).alloc (VC _) _
    have Z0:af W2 W3:=by rw[hW3];exact(VD _ _).alloc (VC _) _
    have hwol:wo.heap.size<wr.heap.size:=by
     rcases Nat.lt_or_ge wo.heap.size wr.heap.size with h|h
     ·exact h
     have:=HT.out;rw[Array.getElem?_eq_none h]at this;cases this
    have HFRB:Hid (G.FreeB Mr wr.heap.size):=Yi.rel.fresh (VC _);have XE:Hid (aN dO prog 151 W2 bS nS (iZ σ)):=HMW.out.of_block (by rw[hal2.block bS (by omega),HB.out.block bS hbS]);have HD3:=ax ((Yi.below hal2).below Z0);have HB3':Hid (Below br W W3):=(HB.out.trans (hal2.mono (by omega))).trans (Z0.mono (by omega));have HT3:Hid (W3.heap[wo.heap.size]?=some (.cells #[.string rs[k].name,.slice rs[k].ad rs[k].rows.length rs[k].cap] 105 (0,0))):=by show _=_;rw[Z0.block _ (by omega),hal2.block _ (by omega)];exact HT.out
    have c0:wr.cell? ⟨wo.heap.size,0,none⟩=some (.string rs[k].name):=by simp[World.cell?,HT.out]
    have c0b:W2.cell? ⟨wo.heap.size,0,none⟩=some (.string rs[k].name):=(hal2.cell (p:=⟨wo.heap.size,0,none⟩) (by show wo.heap.size<_;omega)).trans c0;have g0:W2.cell? ⟨wr.heap.size,0,none⟩=some (.string rs[k].rows[j].name):=by rw[hW2];simp
    have HR2:Hid (W3.cell? ⟨wr.heap.size,0,none⟩=some (.string rs[k].rows[j].name)/\W3.cell? ⟨wr.heap.size,1,none⟩=some (.slice rs[k].rows[j].ad rs[k].rows[j].rows.length rs[k].rows[j].cap)/\W3.cell? ⟨wr.heap.size+1,0,none⟩=some (.string rs[k].name)/\W3.cell? ⟨wr.heap.size+1,1,none⟩=some (.int .i64 fv)):=by
     show _/\_;rw[hW3,hW2];refine⟨?_,?_,?_,?_⟩<;>simp
    rw[had];clear hr hok hr2 hkl' Yi ZE hal2 Z0 HT HB hE0 hfv hEl;go_wp2_with(first|(at_lookup;rw[<-hW2];refine jr _ rfl _ _ 141 rfl 151 2 jb underlying141 (R6 _) bS nS (iZ σ) rfl XE.out (rs[k].name,rs[k].rows[j].name) kl rfl XB.out ?_;rw[HLK.out]));rw[<-hW2,<-hW3];clear hW2 hW3 g0 c0b c0 q0 q1 HLK XE;obtain⟨row0,hr0⟩:∃r,r=(Mr (rs[k].name,fv)).getD (.slice none 0 0):=⟨_,rfl⟩;obtain⟨nn,hnn⟩:∃n,n=(G.lookL E0 (rs[k].name,fv)).length:=⟨_,rfl⟩;obtain⟨xs,hxs⟩:∃x,x=G.flatG RQ (G.lookL E0 (rs[k].name,fv)):=⟨_,rfl⟩;have XZ:=ax hr0;have Y9:=ax hnn;have ZH:=ax hxs;have hnl:nn<=36:=by rw[hnn];exact VJ (WM _ _) hE0l
    have Yn:Hid (∀W0:World,af W3 W0->W0.ownsRow (br+1) 149 2 row0 nn xs):=fun W0 hb=>by rw[hr0,hnn,hxs];exact DJ (HD3.out.rel.below hb) _
    have HKEY:Hid (∃kl,keyOf prog 153 (FM (rs[k].name,fv))=some kl):=KF _ z0 hfv0 (by show fv<=1000000;omega);have hDl:D<W3.heap.size:=HD3.out.dat.lt;have hbrD:br<D:=by have:=HD3.out.ord;have:=HD3.out.dat.gt;omega
    clear hr0 hnn hxs;obtain⟨C2,hC2⟩:∃C:Nat->Value,C=fun n=>(Value.pointer (some ⟨D,0,none⟩)::.pointer (some ⟨D,0,none⟩)::.pointer (some ⟨D,2,none⟩)::.map (some br)::.agg #[.string rs[k].name,.int .i64 fv]::.agg #[.string rs[k].rows[j].name,.slice rs[k].rows[j].ad rs[k].rows[j].rows.length rs[k].rows[j].cap]::[]).getD n undef:=⟨_,rfl⟩;have Xp:Hid (C2 0=Value.pointer (some ⟨D,0,none⟩)/\C2 1=Value.pointer (some ⟨D,0,none⟩)/\C2 2=Value.pointer (some ⟨D,2,none⟩)/\C2 3=Value.map (some br)/\C2 4=Value.agg #[.string rs[k].name,.int .i64 fv]/\C2 5=Value.agg #[.string rs[k].rows[j].name,.slice rs[k].rows[j].ad rs[k].rows[j].rows.length rs[k].rows[j].cap]):=by show _/\_;rw[hC2];exact⟨rfl,rfl,rfl,rfl,rfl,rfl⟩
    clear hC2;refine pW 11 (fun n=>(u76::u77::u78::u79::u80::u82::u83::u84::u81::u85::u86::[]).getD n undef) (fun fq=>{ tmps:=List.toArray (Value.slice (some ⟨b,off,none⟩) rs.length cap::.slice WY ts.length cap'::undef::undef::u4::u5::.map (some bS)::.bool true::.pointer (some ⟨D,0,none⟩)::undef::u10::undef::.pointer (some ⟨wo.heap.size,0,none⟩)::undef::.pointer (some ⟨wr.heap.size,0,none⟩)::.int .i64 fv::.pointer (some ⟨wr.heap.size+1,0,none⟩)::.tuple #[.map (some bS),.bool true]::.slice (some ⟨b,off,none⟩) rs.length cap::.tuple #[.map (some bS),.bool true]::.map (some bS)::.bool true::.bool true::.bool false::.bool false::.slice WY ts.length cap'::.bool true::.bool false::.bool false::.slice (some ⟨b,off,none⟩) rs.length cap::.map (some bt)::.map (some br)::.map (some bp)::.agg #[.map (some bt),.int .i64 0,.map (some br),.map (some bp),.slice none 0 0,.slice none 0 0]::.pointer (some ⟨D,0,none⟩)::.slice WY ts.length cap'::.int .i64 ts.length::.int .i64 ts.length::.bool false::u39::u40::u41::u42::u43::u44::u45::u46::u47::u48::u49::u50::u51::.slice (some ⟨b,off,none⟩) rs.length cap::.int .i64 rs.length::.int .i64 k::.bool true::.pointer (some ⟨b,off+k*2,none⟩)::.agg #[.string rs[k].name,.slice (some ⟨b2,Xr,none⟩) rs[k].rows.length rs[k].cap]::.pointer (some ⟨wo.heap.size,1,none⟩)::.slice (some ⟨b2,Xr,none⟩) rs[k].rows.length rs[k].cap::.int .i64 rs[k].rows.length::.int .i64 j::.bool true::.pointer (some ⟨b2,Xr+j*2,none⟩)::.agg #[.string rs[k].rows[j].name,.slice rs[k].rows[j].ad rs[k].rows[j].rows.length rs[k].rows[j].cap]::.map (some bS)::.pointer (some ⟨wo.heap.size,0,none⟩)::.string rs[k].name::.pointer (some ⟨wr.heap.size,0,none⟩)::.string rs[k].rows[j].name::.agg #[.string rs[k].name,.string rs[k].rows[j].name]::.int .i64 fv::.pointer (some ⟨wo.heap.size,0,none⟩)::.string rs[k].name::.int .i64 fv::.agg #[.string rs[k].name,.int .i64 fv]::(fq 0)::(fq 1)::(fq 2)::(fq 3)::(fq 4)::(fq 8)::(fq 5)::(fq 6)::(fq 7)::(fq 9)::(fq 10)::u87::u88::u89::u90::u91::u92::u93::u94::u95::u96::u97::u98::undef::[]),defers:=[] }) (G.EI C2 #[.string rs[k].rows[j].name,.slice rs[k].rows[j].ad rs[k].rows[j].rows.length rs[k].rows[j].cap] 149 2 W3 br row0 nn xs (G.Back FM prog 153 122 br nr Mr (rs[k].name,fv))) (by kernel_rfl) rfl (by kernel_rfl) (by kernel_rfl) rfl (G.ei_start W3) ?stepA ?finA;case stepA =>
     rintro i hi o ho l fq w' Yk hI hpre;have HI:=aC hI;have Xc:Hid (∀e∈o.after,Region.binds .any e=true->l e.on=true):=hpre;clear hI hpre;have hc:=Ku (i:=i) (by omega);clear hi
     repeat' rcases hc with rfl|hc
     ·cases ho;have hA:=HI.out.early (i:=0) (by omega) Yk;clear Xc HI;refine aa rfl fun K HK=>?_;go_simp;exact HK.out _ _ ⟨Value.pointer (some ⟨D,0,none⟩),by simp[upd, *],hA.put (by omega) Xp.out.1.symm⟩
     ·cases ho;have hA:=HI.out.early (i:=1) (by omega) Yk;have e0:=(hA.val 0 (by omega) (Xc.out ⟨0,.data⟩ (by simp) rfl)).trans Xp.out.1;clear Xc HI;refine aa rfl fun K HK=>?_;simp only[e0];go_simp;exact HK.out _ _ ⟨Value.pointer (some ⟨D,0,none⟩),by simp[upd, *],hA.put (by omega) Xp.out.2.1.symm⟩
     ·cases ho;have hA:=HI.out.early (i:=2) (by omega) Yk;have e1:=(hA.val 1 (by omega) (Xc.out ⟨1,.data⟩ (by simp) rfl)).trans Xp.out.2.1;clear Xc HI;refine aa rfl fun K HK=>?_;simp only[e1];go_simp;exact HK.out _ _ ⟨Value.pointer (some ⟨D,2,none⟩),by simp[upd, *],hA.put (by omega) Xp.out.2.2.1.symm⟩
     ·cases ho;have hA:=HI.out.early (i:=3) (by omega) Yk;have e2:=(hA.val 2 (by omega) (Xc.out ⟨2,.data⟩ (by simp) rfl)).trans Xp.out.2.2.1;have hb':=hA.bel;have d2:=(hb'.cell (p:=⟨D,2,none⟩) hDl).trans HD3.out.dat.c2;clear Xc HI;refine aa rfl fun K HK=>?_;simp only[e2];go_simp;exact HK.out _ _ ⟨Value.map (some br),by simp[upd, *],hA.put (by omega) Xp.out.2.2.2.1.symm⟩
     ·cases ho;have hA:=HI.out.early (i:=4) (by omega) Yk;have hb':=hA.bel;have k0:=(hb'.cell (p:=⟨wr.heap.size+1,0,none⟩) (by show wr.heap.size+1<_;omega)).trans HR2.out.2.2.1;have k1:=(hb'.cell (p:=⟨wr.heap.size+1,1,none⟩) (by show wr.heap.size+1<_;omega)).trans HR2.out.2.2.2;clear Xc HI;refine aa rfl fun K HK=>?_;go_simp;exact HK.out _ _ ⟨Value.agg #[.string rs[k].name,.int .i64 fv],by simp[upd, *],hA.put (by omega) Xp.out.2.2.2.2.1.symm⟩
     ·cases ho;have hA:=HI.out.early (i:=5) (by omega) Yk;have hb':=hA.bel;have k0:=(hb'.cell (p:=⟨wr.heap.size,0,none⟩) (by show wr.heap.size<_;omega)).trans HR2.out.1;have k1:=(hb'.cell (p:=⟨wr.heap.size,1,none⟩) (by show wr.heap.size<_;omega)).trans HR2.out.2.1;clear Xc HI;refine aa rfl fun K HK=>?_;go_simp;exact HK.out _ _ ⟨Value.agg #[.string rs[k].rows[j].name,.slice rs[k].rows[j].ad rs[k].rows[j].rows.length rs[k].rows[j].cap],by simp[upd, *],hA.put (by omega) Xp.out.2.2.2.2.2.symm⟩
     ·cases ho;have hA:=HI.out.early (i:=6) (by omega) Yk;have e5:=(hA.val 5 (by omega) (Xc.out ⟨5,.data⟩ (by simp) rfl)).trans Xp.out.2.2.2.2.2;clear Xc HI;refine aa rfl fun K HK=>?_;simp only[e5];go_simp;exact HK.out _ _ ⟨_,by simp[upd,e5],hA.lay⟩
     ·cases ho;have hA:=HI.out.early (i:=7) (by omega) Yk;have e3:=(hA.val 3 (by omega) (Xc.out ⟨3,.data⟩ (by simp) rfl)).trans Xp.out.2.2.2.1;have e4:=(hA.val 4 (by omega) (Xc.out ⟨4,.data⟩ (by simp) rfl)).trans Xp.out.2.2.2.2.1;have hall:∀k,k<=6->l k=true:=fun k hk=>by
       have hc:=UH (i:=k) (by omega)
       repeat' rcases hc with rfl|hc
       ·exact Xc.out ⟨0,.phase⟩ (by simp) rfl
       ·exact Xc.out ⟨1,.phase⟩ (by simp) rfl
       ·exact Xc.out ⟨2,.phase⟩ (by simp) rfl
       ·exact Xc.out ⟨3,.phase⟩ (by simp) rfl
       ·exact Xc.out ⟨4,.phase⟩ (by simp) rfl
       ·exact Xc.out ⟨5,.phase⟩ (by simp) rfl
       exact Xc.out ⟨6,.phase⟩ (by simp) rfl
      have hD':=HD3.out.below hA.bel;obtain⟨kl2,hkl2⟩:=HKEY.out;obtain⟨st,w1',hrun,hg,hback⟩:=hD'.rel.map.entry Oa N9 underlying122 QC (by unfold maxLen;omega) hkl2;rw[<-XZ.out]at hrun;have hrun':(Instr.mapEntry 122 (.map (some br)) (Value.agg #[.string rs[k].name,.int .i64 fv])).run prog w'=.ok (.tuple #[row0,goInt st]) w1':=hrun;clear Xc HI;refine aa rfl fun K HK=>?_;simp only[e3,e4];go_simp;exact HK.out _ _ ⟨_,by simp[upd,e3,e4,goInt],hA.took hall hg hback⟩
     ·cases ho;have h7:=Xc.out ⟨7,.data⟩ (by simp) rfl;have hB:=HI.out.midB h7 (i:=8) (by omega) Yk;obtain⟨st,e7⟩:=HI.out.seven h7;clear Xc HI;refine aa rfl fun K HK=>?_;simp only[e7];go_simp;exact HK.out _ _ ⟨_,by simp[upd,e7,goInt],hB.first⟩
     ·cases ho;have h7:=Xc.out ⟨7,.chain⟩ (by simp) rfl;have h8:=Xc.out ⟨8,.data⟩ (by simp) rfl;have hB:=HI.out.midB h7 (i:=9) (by omega) Yk;obtain ⟨W0,st,g,hm1,hm2,ZX,hm4,Zu,e7,hm7,hm8,hm9⟩:=hB.mid;have e8:=hm8 h8;have hown:=(Yn.out W0 hm1).kept Zu (by
       rcases h:row0.ownBlock with _|g'
       ·exact .inl rfl
       right;intro e;injection e with e;have:=((Yn.out W0 hm1).lt g' h).1;omega)
      have hnew:w'.heap[g]?=some (.cells #[.string rs[k].rows[j].name,.slice rs[k].rows[j].ad rs[k].rows[j].rows.length rs[k].rows[j].cap] 149 (0,0)):=by
       have hgl:g<W0.heap.size:=by
        rcases Nat.lt_or_ge g W0.heap.size with h|h
        ·exact h
        rw[Array.getElem?_eq_none h]at hm4;cases hm4
       rw[Zu.block g hgl (fun e=>by injection e with e;omega)];exact hm4
      clear Xc HI;refine kM w' rfl rfl _ _ 103 rfl (br+1) 149 iR _ 2 40 underlying103 HIR.out.1 HIR.out.2.1 HIR.out.2.2.1 HIR.out.2.2.2 rfl (by decide) row0 nn xs (by simp[Act.eval,e8]) hown ⟨g,0,none⟩ 1 1 [Value.string rs[k].rows[j].name,.slice rs[k].rows[j].ad rs[k].rows[j].rows.length rs[k].rows[j].cap] (by simp[Act.eval,hm2]) rfl (fun j u hu=>news_of_block hnew j u hu) (by simp[Value.oneCell']) (by unfold maxLen;omega) (by omega) (by have:=Zu.size;have:=hm1.size;omega) ?_;intro v' w2' hown2 XC hloc2;exact⟨v',by simp[upd,Act.put],hB.app h8 XC hown2 hloc2⟩
     cases ho;have h7:=Xc.out ⟨7,.data⟩ (by simp) rfl;obtain⟨st,e7⟩:=HI.out.seven h7;have HI2:=HI.out.second h7 e7;clear Xc HI;refine aa rfl fun K HK=>?_;simp only[e7];go_simp;exact HK.out _ _ ⟨_,by simp[upd,e7,goInt],HI2⟩
    case finA =>
     rintro o ho l fq w' hall hI;obtain rfl:=Option.some.inj ho;have hC:=hI.last hall;obtain⟨W0,w1',st,hm1,hm2,ZX,hm4,Zu,hm6,-,hm8⟩:=hC.mid;have e10:=hm8 (hall 10 (by omega));have e3:=(hC.val 3 (by omega)).trans Xp.out.2.2.2.1;obtain⟨w7,hrun,hM3,hg3⟩:=hm6 w' (fq 9) (ZX.block br (by have:=hm2.size;have:=hm1.size;omega) (fun e=>by have:=(Yn.out W0 hm1).lt br e.symm;omega));have hst:=(HD3.out.rel.below hm1).step (y:=(rs[k].name,fv)) (s:=rs[k].rows[j]) hm2 (by rw[<-Y9.out,<-ZH.out];exact hm4) (by rw[<-XZ.out];exact ZX) (by rw[<-XZ.out];exact Zu) hg3 hM3;have HD7:=ax ((HD3.out.below hm1).list hst.1 hst.2);have HB7:Hid (Below br W w7):=by
      have b0:Below br W W0:=HB3'.out.trans (hm1.mono (by omega));have b1:Below br W w1':=b0.grown hm2 (by have:=hm1.size;omega) (fun i hi=>by injection hi with hi;omega);have b2:Below br W w':=b1.grown ZX (by have:=hm2.size;have:=hm1.size;omega) (fun i hi=>by have:=((Yn.out W0 hm1).lt i hi).1;omega);exact b2.grown hg3 (by have:=ZX.size;have:=hm2.size;have:=hm1.size;omega) (fun i hi=>by injection hi with hi;omega)
     have HT7:Hid (w7.heap[wo.heap.size]?=some (.cells #[.string rs[k].name,.slice rs[k].ad rs[k].rows.length rs[k].cap] 105 (0,0))):=by
      show _=_;have h0:W0.heap[wo.heap.size]?=_:=(hm1.block wo.heap.size (by omega)).trans HT3.out;rw[hst.2.block wo.heap.size (by have:=hm1.size;omega) (by omega) (su (HD3.out.rel.below hm1) h0 (by decide))];exact h0
     have Ym:(Instr.entryStore 122 (.map (some br)) (.int .i64 st) (fq 9)).run prog w'=.ok () w7:=hrun;obtain⟨Mn,hMn⟩:∃M,M=lq Mr (rs[k].name,fv) (some (fq 9)):=⟨_,rfl⟩;rw[<-hMn]at HD7;refine aa rfl fun K HK=>?_;simp only[e3,e10];go_simp;refine HK.out _ _ ?_;obtain⟨n0,hn0⟩:∃n,n=jI E0:=⟨_,rfl⟩;have HN0:=ax hn0;rw[<-hn0]at HD7;have d1:=HD7.out.dat.c1;have fz:=fun o=>kV HD7.out.dat.kind.choose_spec o;have hDw:=HD7.out.dat.lt;clear hst hrun Ym hM3 hg3 hm1 hm2 ZX hm4 Zu hm6 hm8 hC hI hall ho HK K e3 e10 HD3 HT3 HB3' Yn Xp HKEY hMn XZ Y9 ZH HR2 HFRB hn0 hDl hbrD;obtain⟨w8,hw8⟩:∃x,x=w7.setCell ⟨D,1,none⟩ (Value.int .i64 (max n0 (fv+1))):=⟨_,rfl⟩;have HEQ:Hid (eG f (rs.take k)++(rs[k].rows.take (j+1)).map (xx f rs[k].name)=E0++[((rs[k].name,fv),rs[k].rows[j])]):=by show _=_;rw[HTKE.out,<-V8,<-Zb.out];unfold xx;rw[<-HFV.out]
     have HD8:Hid (∃nr Mr,nr<=6*k+(j+1)/\DatA w8 rs D br bp bt (jI (eG f (rs.take k)++(rs[k].rows.take (j+1)).map (xx f rs[k].name))) nr Mr (eG f (rs.take k)++(rs[k].rows.take (j+1)).map (xx f rs[k].name)) (dF ts) (iJ ts) (fo ts) ts.length Mp vo vu):=by
      rw[HEQ.out,Ho,<-HN0.out,hw8];exact⟨nr+1,Mn,by omega,HD7.out.count (max n0 (fv+1))⟩
     have HT8:Hid (w8.heap[wo.heap.size]?=some (.cells #[.string rs[k].name,.slice rs[k].ad rs[k].rows.length rs[k].cap] 105 (0,0))):=by
      show _=_;rw [hw8,heap_setCell_other w7 ⟨D,1,none⟩ wo.heap.size _ (fun e=>by
       have e':wo.heap.size=D:=e;have h1:=HT7.out;obtain⟨cur,h2⟩:=HD7.out.dat.kind;rw[e',h2]at h1;injection h1 with h1;injection h1 with _ h3;exact absurd h3 (by decide))]
      exact HT7.out
     have HB8:Hid (Below br W w8):=by show Below _ _ _;rw[hw8];exact HB7.out.setCell (by show br<=D;have:=HD7.out.ord;have:=HD7.out.dat.gt;omega) _
     rw[had]at HT8;clear HD7 HT7 HB7;go_wp2;rw[<-hw8];go_roundw;case rel=>exact⟨j+1,by omega,by go_num,HD8,HT8,HB8⟩
     simp[intOf]<;>omega
   obtain rfl:j=rs[k].rows.length:=by omega
   have HDN2:Hid (∃nr Mr,nr<=6*(k+1)/\DatA wr rs D br bp bt (jI (eG f (rs.take (k+1)))) nr Mr (eG f (rs.take (k+1))) (dF ts) (iJ ts) (fo ts) ts.length Mp vo vu):=by
    obtain⟨nr,Mr,hnr,Yi⟩:=ZE.out;rw[VP]at Yi;rw[HSU.out];exact⟨nr,Mr,by omega,Yi⟩
   have HEL2:Hid ((eG f (rs.take (k+1))).length<=6*(k+1)):=by
    show _<=_;rw[HSU.out,VI,WC];have:=YI.out;omega
   clear ZE HT;go_wp2;go_roundw;case rel=>exact⟨k+1,by omega,by go_num,HEL2,HDN2,HB⟩
   simp[intOf]<;>omega
  obtain rfl:k=rs.length:=by omega
  rw[VP]at ZE;obtain⟨nr,Mr,-,Yi⟩:=ZE.out;have HDE:=ax Yi;clear Yi ZE;go_wp2;exact bodyPost_ret (v:=.tuple #[.pointer (some ⟨D,0,none⟩),.bool true]) (by simp[results,Tryz.results41,go_sem]) rfl ⟨Zd.out,.inr ⟨HRT.out,D,br,bp,bt,nr,ts.length,Mr,Mp,vo,vu,f,rfl,hw2,HLS.out,HDE.out⟩⟩
 have HN:Hid (bC fit rs ts=false):=by
  show _=_;unfold bC;cases hh:ak (ag rs);case false=>simp
  exact absurd (bz.1 hh) hno
 clear hno;go_wp2;exact bodyPost_ret (v:=.tuple #[.pointer none,.bool false]) (by simp[results,Tryz.results41,go_sem]) rfl ⟨HB1.out,.inl ⟨HN.out,rfl⟩⟩
def nH(known:Q04)(f:Fc)(t:Tp):Bool:=if t.s.toList.isEmpty then t.c.toList==f.c.toList&&t.d.toList==f.d.toList else bR known ⟨t.c,t.d,t.s,f.c,f.d⟩
def vZ(known:Q04)(name:ByteArray)(f:Fc)(t:Tp):Bool:=bR known ⟨t.c,t.d,name,f.c,f.d⟩
theorem Hq(l:Q05)(k:K3)(p:Tp->Bool):(G.lookL (dF l) k).any p=l.any fun t=>(t.a.toList==k.1.toList&&t.b.toList==k.2.1.toList&&t.r.toList==k.2.2.toList)&&p t:=by
 induction l with
 | nil=>rfl
 | cons t l ih =>
  have e:dF (t::l)=[(L6 t,t)]++dF l:=rfl;rw[e,G.lookL_append,List.any_append,ih,WT];congr 1;unfold G.lookL L6;by_cases h:(t.a,t.b,t.r)=k
  ·subst h;simp
  have h2:(t.a.toList==k.1.toList&&t.b.toList==k.2.1.toList&&t.r.toList==k.2.2.toList)=false:=by
   cases hb:(t.a.toList==k.1.toList&&t.b.toList==k.2.1.toList&&t.r.toList==k.2.2.toList);case false=>rfl
   rw[VF,VF,eZ,eZ,eZ]at hb;exact absurd (Prod.ext hb.1.1 (Prod.ext hb.1.2 hb.2)) h
  simp[h,h2]
theorem J8(l:Q05)(known:Q04)(f:Fc):fE l known f=(G.lookL (dF l) (f.a,f.b,f.r)).any (nH known f):=by rw[Hq];rfl
theorem J9(l:Q05)(known:Q04)(over name:bW)(f:Fc):gJ l known over name f=(G.lookL (dF l) (f.a,f.b,over)).any (vZ known name f):=by rw[Hq];rfl
theorem Nk(st:Q00)(n:Int)(o:Al)(tn:bW)(rows:Q07):((rows.map fun r=>(tn,r.name)).filter fun k=>k.1.toList==o.t.toList&&decide (st k=n))=(G.lookL (rows.map fun r=>((tn,st (tn,r.name)),r)) (o.t,n)).map fun r=>(o.t,r.name):=by
 induction rows with
 | nil=>rfl
 | cons r rows ih =>
  have e:((r::rows).map fun r=>((tn,st (tn,r.name)),r))=[((tn,st (tn,r.name)),r)]++rows.map fun r=>((tn,st (tn,r.name)),r):=rfl;rw[e,G.lookL_append,WA,<-ih,WO,List.filter_cons];unfold G.lookL;by_cases h:tn=o.t/\st (tn,r.name)=n
  ·obtain⟨rfl,rfl⟩:=h;simp
  have h1:(tn.toList==o.t.toList&&decide (st (tn,r.name)=n))=false:=by
   cases hb:(tn.toList==o.t.toList&&decide (st (tn,r.name)=n));case false=>rfl
   rw[VF,eZ,VM]at hb;exact absurd hb h
  have h2:¬((tn,st (tn,r.name))=(o.t,n)):=fun e=>h ⟨congrArg Prod.fst e,congrArg Prod.snd e⟩;simp[h1,h2]
theorem Hr(st:Q00)(n:Int)(o:Al)(rs:Q06):Ev (ag rs) st n o=(G.lookL (eG st rs) (o.t,n)).map fun r=>(o.t,r.name):=by
 unfold Ev
 induction rs with
 | nil=>rfl
 | cons t rs ih =>
  have e1:av (ag (t::rs))=(t.rows.map fun r=>(t.name,r.name))++av (ag rs):=by
   have:kE t.p=t.rows.map fun r=>(t.name,r.name):=by unfold kE;show List.map _ (eu t.rows)=_;unfold eu;rw[List.map_map];rfl
   simp[av,ag,this]
  have e2:eG st (t::rs)=(t.rows.map fun r=>((t.name,st (t.name,r.name)),r))++eG st rs:=rfl;rw[e1,e2,G.lookL_append,WP,WA,ih,Nk]
theorem Bw{s:St}:∀{sts:List St},(iG sts).Nodup->s∈sts->fP sts s.key=s.n
 | [],_,h=>by cases h
 | x::xs,hd,h=>by
  have hd2:x.key ∉ iG xs/\(iG xs).Nodup:=List.nodup_cons.1 hd;unfold fP;by_cases e:zX x s.key.1 s.key.2=true
  ·rw[if_pos e];have ek:=qL.1 e;rcases VU.1 h with rfl|h
   ·rfl
   exact absurd (by rw[ek];exact Wd h) hd2.1
  rw[if_neg e];rcases VU.1 h with rfl|h
  ·exact absurd (qL.2 rfl) e
  exact Bw hd2.2 h
def Ve(sts:List St)(n:Int)(o:Al):List St:=sts.filter fun s=>s.typ.toList==o.t.toList&&decide (s.n=n)
theorem R7{ts:Q0b}{sts:List St}(hk:iG sts=av ts)(hn:(av ts).Nodup)(n:Int)(o:Al):Ev ts (fP sts) n o=(Ve sts n o).map St.key:=by
 unfold Ev Ve;rw[<-hk];rw[<-hk]at hn;unfold iG;rw[List.filter_map];congr 1;refine List.filter_congr fun s hs=>?_;show(s.key.1.toList==o.t.toList&&decide (fP sts s.key=n))=_;rw[Bw hn hs];rfl
theorem Ka{rs:Q06}(h:bQ (ag rs)=true):(av (ag rs)).Nodup:=by
 have e:av (ag rs)=rs.flatMap fun t=>t.rows.map fun r=>(t.name,r.name):=by
  unfold av ag;rw[List.flatMap_map];congr 1
  funext t
  unfold kE;show List.map _ (eu t.rows)=_;unfold eu;rw[List.map_map];rfl
 rw[e,List.Nodup,List.pairwise_flatMap];constructor
 ·intro t ht;obtain ⟨i,hi,rfl⟩:=Wm.1 ht;have hu:=(lK h i hi).2.2;rw [List.pairwise_map,List.pairwise_iff_getElem];intro a b ha hb hab e;have hne:=rY (f:=fun k=>(rs[i].rows[k]?.map RR.name).getD ByteArray.empty) (n:=rs[i].rows.length) (fun k hk=>by
   have h0:k<rs[i].rows.length:=by omega
   simp only[VO hk,VO h0,Option.map_some,Wn];exact(Dh hu (k+1) hk hk).2.1 k h0 rfl)
  have:=hne a b hab hb;simp[ha,hb]at this;exact this (congrArg Prod.snd e)
 rw [List.pairwise_iff_getElem];intro a b ha hb hab x hx y hy e;obtain ⟨r,hr,rfl⟩:=VQ.1 hx;obtain ⟨q,hq,rfl⟩:=VQ.1 hy;have hne:=rY (f:=fun k=>(rs[k]?.map TR.name).getD ByteArray.empty) (n:=rs.length) (fun k hk=>by
  have h0:k<rs.length:=by omega
  simp only[VO hk,VO h0,Option.map_some,Wn];exact(lK h (k+1) hk).2.1 k h0 rfl)
 have:=hne a b hab hb;simp[ha,hb]at this;exact this (congrArg Prod.fst e)
theorem Ht{α:Type}[DecidableEq α]:∀{a b:List α},a.Nodup->(∀x∈a,x∈b)->a.length<=b.length
 | [],_,_,_=>VG _
 | x::a,b,hd,hs=>by
  obtain⟨h1,h2⟩:=List.nodup_cons.1 hd;have hx:=hs x (by simp);have:=Ht (a:=a) (b:=b.erase x) h2 fun y hy=>(List.mem_erase_of_ne (fun e:y=x=>h1 (by rw[<-e];exact hy))).2 (hs y (by simp[hy]));rw[List.length_erase_of_mem hx]at this;have hp:0<b.length:=List.length_pos_of_mem hx;simp only[We];omega
def Hu(ts:Q0b)(xo xu:Q0a):List Fc:=xo.flatMap fun o=>(av ts).flatMap fun k=>jY o k.2 xu
theorem DK{ts:Q0b}{st:Q00}{xo xu:Q0a}{n:Int}{f:Fc}(h:f∈dw ts st xo xu n):f∈Hu ts xo xu:=by
 unfold dw yF at h;obtain⟨o,ho,h⟩:=VZ.1 h;obtain⟨k,hk,h⟩:=VZ.1 h;exact VZ.2 ⟨o,ho,VZ.2 ⟨k,(WE.1 hk).1,h⟩⟩
theorem Bz{α β:Type}(f:α->List β)(m:Nat)(hf:∀a,(f a).length<=m):∀l:List α,(l.flatMap f).length<=l.length*m
 | []=>by simp
 | a::l=>by
  have h1:=Bz f m hf l;have h2:=hf a;simp only[Wi,VI,We,Nat.add_mul];omega
theorem QE(ts:Q0b)(xo xu:Q0a):(Hu ts xo xu).length<=xo.length*((av ts).length*xu.length) :=
 Bz _ _ (fun o=>Bz _ _ (fun k=>by unfold jY;rw[WC];exact VC _) _) _
structure GoodO(ts:Q0b)(xo xu:Q0a)(out:Q04):Prop where
 once:out.Nodup
 sub:∀g∈out,g∈Hu ts xo xu
def UE(us:Q0a):List (ByteArray×ByteArray):=us.map fun u=>(u.t,u.s)
def UF(us:Q0a)(x:Q01):Bool:=us.any fun u=>u.t.toList==x.1.toList&&u.s.toList==x.2.toList
theorem zg{us:Q0a}{x:Q01}:UF us x=true↔x∈UE us:=by
 unfold UF UE;rw[WG,VQ];constructor
 ·rintro⟨u,hu,h⟩;rw[VF,eZ,eZ]at h;exact⟨u,hu,Prod.ext h.1 h.2⟩
 rintro⟨u,hu,rfl⟩;exact⟨u,hu,by simp⟩
def eX(us:Q0a)(new:Q04):List Al:=us.filter fun u=>new.any fun g=>g.c.toList==u.t.toList&&g.d.toList==u.s.toList
theorem DL{us:Q0a}{new:Q04}{x:Q01}:x∈UE (eX us new)↔x∈UE us/\∃g∈new,g.u=x:=by
 unfold UE eX;constructor
 ·intro h;obtain⟨u,hu,rfl⟩:=VQ.1 h;obtain⟨h1,h2⟩:=WE.1 hu;obtain⟨g,hg,h3⟩:=WG.1 h2;rw[VF,eZ,eZ]at h3;exact⟨Wd (f:=fun u:Al=>(u.t,u.s)) h1,g,hg,Prod.ext h3.1 h3.2⟩
 rintro⟨h,g,hg,hx⟩;obtain⟨u,hu,rfl⟩:=VQ.1 h;refine VQ.2 ⟨u,WE.2 ⟨hu,WG.2 ⟨g,hg,?_⟩⟩,rfl⟩;rw[VF,eZ,eZ];exact⟨congrArg Prod.fst hx,congrArg Prod.snd hx⟩
theorem Kb(us:Q0a):eX us []=[]:=by unfold eX;rw[List.filter_eq_nil_iff];simp
theorem Kc{ts:Q0b}{xo xu:Q0a}{n:Int}{st st':Q00}(h:∀k∈av ts,st k=st' k):dw ts st xo xu n=dw ts st' xo xu n:=by
 unfold dw yF;congr 1
 funext o
 have:Ev ts st n o=Ev ts st' n o:=List.filter_congr fun k hk=>by rw[h k hk]
 rw[this]
set_option linter.unusedSectionVars false
section
variable  [DecidableEq Fc]
theorem GoodO.run{ts:Q0b}{xo xu:Q0a}{out:Q04}(h:GoodO ts xo xu out){H:List Fc->Fc->Bool}{qs:Q04}(hq:∀g∈qs,g∈Hu ts xo xu):GoodO ts xo xu (bY H qs out):=by
 refine⟨wH qs h.once,fun g hg=>?_⟩;obtain⟨n,e,hn⟩:=kw (H:=H) qs out;rw[e]at hg;rcases VL.1 hg with hg|hg
 ·exact h.sub g hg
 exact hq g (hn g hg).1
theorem GoodO.len{ts:Q0b}{xo xu:Q0a}{out:Q04}(h:GoodO ts xo xu out)(h1:xo.length<=80)(h2:(av ts).length<=36)(h3:xu.length<=40):out.length<=115200:=by
 have a1:=Ht h.once h.sub;have a2:=QE ts xo xu;have a3:(av ts).length*xu.length<=36*40:=Nat.mul_le_mul h2 h3;have a4:xo.length*((av ts).length*xu.length)<=80*(36*40):=Nat.mul_le_mul h1 a3;omega
structure FewA(ts:Q0b)(l:Q05)(st:Q00)(xo xu:Q0a)(n:Int)(us:Q0a)(out:Q04):Prop where
 sub:us=xu.filter fun u:Al=>UF us (u.t,u.s)
 few:Few Fc.u (iY ts l) (dw ts st xo xu n) (UE us) out
variable  {ts:Q0b}{l:Q05}{st:Q00}{xo xu:Q0a}{n:Int}
theorem FewA.start(out:Q04):FewA ts l st xo xu n xu out:=by
 refine⟨(List.filter_eq_self.2 fun u hu=>zg.2 (Wd (f:=fun u:Al=>(u.t,u.s)) hu)).symm,Few.start fun f hf=>Jg hf⟩
theorem Ke{φ υ:Type}[DecidableEq φ]{us:φ->υ}{H:List φ->φ->Bool}(hL:Loc us H){qs:List φ}{users:List υ}{out:List φ}(h:Few us H qs users out)(P:υ->Bool)(hP:∀u,P u=true↔u∈users):bY H (qs.filter fun f=>P (us f)) out=bY H qs out :=
 (ni hL P qs out fun f hf hp=>h.set f hf fun hm=>by rw[(hP _).2 hm]at hp;cases hp).symm
theorem FewA.round{us:Q0a}{out:Q04}(h:FewA ts l st xo xu n us out):bY (iY ts l) (dw ts st xo us n) out=bY (iY ts l) (dw ts st xo xu n) out:=by
 have h2:=Gj ts st xo xu n (UF us);rw[<-h.sub]at h2;rw[<-h2];exact Ke (CX ts l) h.few (UF us) fun u=>zg
theorem FewA.next{us:Q0a}{out new:Q04}(h:FewA ts l st xo xu n us out)(hn:bY (iY ts l) (dw ts st xo us n) out=out++new):FewA ts l st xo xu n (eX us new) (out++new):=by
 refine⟨?_,h.few.next (CX ts l) (h.round.symm.trans hn) fun u=>DL⟩;have h1:eX us new=(xu.filter fun u:Al=>UF us (u.t,u.s)).filter fun u=>new.any fun g=>g.c.toList==u.t.toList&&g.d.toList==u.s.toList:=by rw[<-h.sub];rfl
 rw[List.filter_filter]at h1;refine h1.trans (List.filter_congr fun u hu=>?_);rw[VV,zg,DL,VF,zg,WG,and_comm];refine and_congr Iff.rfl ⟨fun⟨g,hg,h3⟩=>⟨g,hg,?_⟩,fun⟨g,hg,h3⟩=>⟨g,hg,?_⟩⟩
 ·rw[VF,eZ,eZ]at h3;exact Prod.ext h3.1 h3.2
 rw[VF,eZ,eZ];exact⟨congrArg Prod.fst h3,congrArg Prod.snd h3⟩
theorem FewA.done{out:Q04}(h:FewA ts l st xo xu n [] out):oW (iY ts l) (dw ts st xo xu n) out=out:=h.few.done
theorem xy{st st':Q00}(h:∀k∈av ts,st k=st' k):∀N,mW ts l st xo xu N=mW ts l st' xo xu N
 | 0=>rfl
 | N+1=>by rw[jZ,jZ,xy h N,Kc h]
end
def Ce(out:Q04)(f:Fc):Option Value:=if bR out f then some (.agg #[]) else none
theorem QF(out:Q04)(f:Fc):(Ce out f).isSome=bR out f:=by unfold Ce;cases bR out f<;>rfl
theorem R8(out:Q04)(f:Fc):∀v,Ce out f=some v->v=.agg #[]:=fun v h=>by
 unfold Ce at h;split at h
 ·injection h with h;exact h.symm
 cases h
theorem wh(b n:Nat)(out:Q04)(f:Fc)(w:ae)(hf:f.fits)(hV:aN oD prog 43 w b n (Ce out)):
  Calls prog 67 #[.map (some b),.agg #[.string f.a,.string f.b,.string f.r,.string f.c,.string f.d]] w fun e w'=>e=.returned (.bool (bR out f))/\af w w':=by
 have h:=Gu b n (Ce out) f w hf hV (R8 out f);rw[QF]at h;exact h
theorem Hw{w:ae}{bp np:Nat}{Mp:K3->Option Value}{E:List (K3×Tp)}(h:G.Grp qz prog 226 29 6 Tp.row w bp np Mp E)(k:K3):∃ad cap,(Mp k).getD (.slice none 0 0)=.slice ad (G.lookL E k).length cap/\Sl w ad (G.lookL E k):=by
 obtain⟨ad,cap,e,hs,-⟩:=KJ (ts:=G.lookL E k) (Dq h k) rfl;exact⟨ad,cap,e,hs⟩
theorem DN(p:Tp->Bool){ts:Q05}{k:Nat}(h:k<ts.length):(ts.drop k).any p=(p ts[k] || (ts.drop (k+1)).any p):=by rw[V5 h];rfl
theorem Hy{ts:Q05}{k:K3}{t:Tp}(h:t∈G.lookL (dF ts) k):t∈ts:=by
 have:=G.mem_lookL.1 h;unfold dF at this;obtain⟨x,hx,e⟩:=VQ.1 this;injection e with e1 e2;rw[<-e2];exact hx
theorem Hz(ts:Q05)(k:K3):(G.lookL (dF ts) k).length<=ts.length:=by
 unfold G.lookL dF;exact VJ (WM _ _) (by simp)
section
variable  {w:World}{rs:Q06}{D br bp bt bK nK:Nat}{n1:Int}{nr:Nat}{Mr:KL->Option Value}{Er:List (KL×RR)}{ts:Q05}{xo xu:Q0a}{np:Nat}{Mp:K3->Option Value}{vo vu:Value}{out:Q04}{f:Fc}
theorem Cf(hD:DatA w rs D br bp bt n1 nr Mr Er (dF ts) xo xu np Mp vo vu)(hK:aN oD prog 43 w bK nK (Ce out))(hf:f.fits)(hts:∀t∈ts,t.fits)(htl:ts.length<=1000):
  Calls prog 218 #[.pointer (some ⟨D,0,none⟩),.agg #[.string f.a,.string f.b,.string f.r,.string f.c,.string f.d],.map (some bK)] w fun e w'=>e=.returned (.bool (fE ts out f))/\af w w':=by
 obtain⟨kl,hkl⟩:=Ea (f.a,f.b,f.r) hf.1 hf.2.1 hf.2.2.1;obtain⟨adL,Y3,hgd,hsl⟩:=Hw hD.dat.told (f.a,f.b,f.r);have HL:=aD (J8 ts out f);have hll:=Hz ts (f.a,f.b,f.r);have HFL:Hid (∀t∈G.lookL (dF ts) (f.a,f.b,f.r),t.fits):=fun t ht=>hts t (Hy ht);obtain⟨L,Zp⟩:∃L,L=G.lookL (dF ts) (f.a,f.b,f.r):=⟨_,rfl⟩;rw[<-Zp]at hgd hsl HL hll HFL;obtain⟨W0,hW0⟩:∃W0,W0=w.alloc (.cells #[.string f.a,.string f.b,.string f.r,.string f.c,.string f.d] 43):=⟨_,rfl⟩;have HB0:=oQ hW0;have c0:W0.cell? ⟨w.heap.size,0,none⟩=some (.string f.a):=by rw[hW0];simp
 have c1:W0.cell? ⟨w.heap.size,1,none⟩=some (.string f.b):=by rw[hW0];simp
 have c2:W0.cell? ⟨w.heap.size,2,none⟩=some (.string f.r):=by rw[hW0];simp
 have c3:W0.cell? ⟨w.heap.size,3,none⟩=some (.string f.c):=by rw[hW0];simp
 have c4:W0.cell? ⟨w.heap.size,4,none⟩=some (.string f.d):=by rw[hW0];simp
 have d3:=HB0.out.cell (p:=⟨D,3,none⟩) hD.dat.lt |>.trans hD.dat.c3;have hlk:∀m,(Instr.lookup 123 (.map (some bp)) (.agg #[.string f.a,.string f.b,.string f.r]) false).run prog (W0.drewN m)=.ok (.slice adL L.length Y3) (W0.drewN m):=fun m=>by
  have h:=((hD.dat.told.map.below HB0.out).below (below_drewN (VD _ _) m)).look (t:=123) (e:=25) SC underlying123 (JK _) (x:=(f.a,f.b,f.r)) hkl;rw[hgd]at h;exact h
 have Z8:=aD hsl;have HKN:=aD hK;have HF:=aD hf;have X9:Hid (W0.cell? ⟨w.heap.size,3,none⟩=some (.string f.c)/\W0.cell? ⟨w.heap.size,4,none⟩=some (.string f.d)/\w.heap.size<W0.heap.size):=⟨c3,c4,by rw[hW0];simp⟩;clear hsl hK hf Zp hgd hkl;go_enter func218,ntmps218;go_wp2_with fail;rw[<-hW0];clear hW0;go_quiet (fail);clear c0 c1 c2 c3 c4 d3 hlk;go_wp2;go_loopw[20] (fun i wr=>∃k:Nat,k<=L.length/\i=.int .i64 k/\Hid ((L.drop k).any (nH out f)=L.any (nH out f))/\Hid (af w wr)/\Hid (wr.cell? ⟨w.heap.size,3,none⟩=some (.string f.c)/\wr.cell? ⟨w.heap.size,4,none⟩=some (.string f.d)/\w.heap.size<wr.heap.size)) (fun i _=>L.length-(intOf i).toNat);case atStart=>exact⟨0,VG _,rfl,rfl,below_drewN HB0.out _,X9⟩
 clear X9 HB0;obtain⟨k,hk,rfl,HP,HB,HC⟩:=hrel;by_cases hlt:k<L.length
 ·obtain⟨bT,offT,Zv,⟨a0,a1,a2,a3,a4,a5⟩,hbT⟩:=Sl.at0 (Z8.out.below HB.out) hlt;obtain⟨c3,c4,cl⟩:=HC.out;have hi1:=bq k;have hi2:(k:Int)<(L.length:Int):=by omega
  have HTF:=aD (HFL.out _ (Vz hlt));have HD2:Hid (L.any (nH out f)=(nH out f L[k] || (L.drop (k+1)).any (nH out f))):=by show _=_;rw[<-HP.out];exact DN _ hlt
  obtain⟨t,ht⟩:∃t,t=L[k]:=⟨_,rfl⟩;rw[<-ht]at a0 a1 a2 a3 a4 a5 HTF HD2;clear ht;obtain⟨W1,hW1⟩:∃W1,W1=wr.alloc (.cells #[.string t.a,.string t.b,.string t.r,.string t.c,.string t.d,.string t.s] 29):=⟨_,rfl⟩;have Yf:=oQ hW1;have HB1:=aD (HB.out.trans (Yf.out.mono HB.out.size));have XL:Hid (W1.cell? ⟨w.heap.size,3,none⟩=some (.string f.c)/\W1.cell? ⟨w.heap.size,4,none⟩=some (.string f.d)/\w.heap.size<W1.heap.size):=⟨mK Yf.out cl c3,mK Yf.out cl c4,Vy cl Yf.out.size⟩;subst Zv;cases hs:t.s.toList.isEmpty;case true=>
   have hs2:(t.s.toList==[])=true:=by rw[rV];exact hs
   have HTT:Hid (nH out f t=Ar t.c t.d f.c f.d):=by show _=_;unfold nH;rw[if_pos hs];rfl
   cases hu:Ar t.c t.d f.c f.d;case true=>
    have heq:=jH _ _ _ _ hu;have HN:Hid (fE ts out f=true):=by show _=_;rw[HL.out,HD2.out,HTT.out,hu];rfl
    clear hu hs;go_wp2;rw[<-hW1];go_ret;exact⟨by rw[HN.out];rfl,HB1.out⟩
   have heq:=jH _ _ _ _ hu;have Xa:Hid ((L.drop (k+1)).any (nH out f)=L.any (nH out f)):=by show _=_;rw[HD2.out,HTT.out,hu];rfl
   clear hu hs;go_wp2;rw[<-hW1];clear hW1;go_roundw;case rel=>exact⟨k+1,by omega,by go_num,Xa,HB1,XL⟩
   simp[intOf]<;>omega
  have hs2:(t.s.toList==[])=false:=by rw[rV];exact hs
  have HTT:Hid (nH out f t=bR out ⟨t.c,t.d,t.s,f.c,f.d⟩):=by show _=_;unfold nH;rw[if_neg (by rw[hs];decide)]
  clear hs;go_wp2_with fail;rw[<-hW1];clear hW1;refine(wh bK nK out ⟨t.c,t.d,t.s,f.c,f.d⟩ W1 ⟨HTF.out.2.2.2.1,HTF.out.2.2.2.2.1,HTF.out.2.2.2.2.2,HF.out.2.2.2.1,HF.out.2.2.2.2⟩ (HKN.out.below HB1.out)).mono ?_;rintro e w2 ⟨rfl,hb2⟩;have HB2:=aD (HB1.out.trans (hb2.mono HB1.out.size));have Xp:Hid (w2.cell? ⟨w.heap.size,3,none⟩=some (.string f.c)/\w2.cell? ⟨w.heap.size,4,none⟩=some (.string f.d)/\w.heap.size<w2.heap.size):=⟨mK hb2 XL.out.2.2 XL.out.1,mK hb2 XL.out.2.2 XL.out.2.1,Vy XL.out.2.2 hb2.size⟩;clear hb2;cases hh:bR out ⟨t.c,t.d,t.s,f.c,f.d⟩;case true=>
   have HN:Hid (fE ts out f=true):=by show _=_;rw[HL.out,HD2.out,HTT.out,hh];rfl
   go_wp2;go_ret;exact⟨by rw[HN.out];rfl,HB2.out⟩
  have Xa:Hid ((L.drop (k+1)).any (nH out f)=L.any (nH out f)):=by show _=_;rw[HD2.out,HTT.out,hh];rfl
  go_wp2;go_roundw;case rel=>exact⟨k+1,by omega,by go_num,Xa,HB2,Xp⟩
  simp[intOf]<;>omega
 have HN:Hid (fE ts out f=false):=by show _=_;rw[HL.out,<-HP.out,VW (by omega)];rfl
 go_wp2;go_ret;exact⟨by rw[HN.out];rfl,HB.out⟩
theorem Cg(hD:DatA w rs D br bp bt n1 nr Mr Er (dF ts) xo xu np Mp vo vu)(hK:aN oD prog 43 w bK nK (Ce out))(x:ER)(hxf:x.e.over.size<=maxLen/\x.e.name.size<=maxLen)(hf:f.fits)(hts:∀t∈ts,t.fits)(htl:ts.length<=1000):
  Calls prog 219 #[.pointer (some ⟨D,0,none⟩),.agg #[.int .i64 x.e.kind,.slice x.adA x.e.allow.length x.capA,.string x.e.over,.string x.e.name,.slice x.adK x.e.kids.length x.capK],.agg #[.string f.a,.string f.b,.string f.r,.string f.c,.string f.d],.map (some bK)] w fun e w'=>e=.returned (.bool (gJ ts out x.e.over x.e.name f))/\af w w':=by
 obtain⟨kl,hkl⟩:=Ea (f.a,f.b,x.e.over) hf.1 hf.2.1 hxf.1;obtain⟨adL,Y3,hgd,hsl⟩:=Hw hD.dat.told (f.a,f.b,x.e.over);have HL:=aD (J9 ts out x.e.over x.e.name f);have hll:=Hz ts (f.a,f.b,x.e.over);have HFL:Hid (∀t∈G.lookL (dF ts) (f.a,f.b,x.e.over),t.fits):=fun t ht=>hts t (Hy ht);obtain⟨L,Zp⟩:∃L,L=G.lookL (dF ts) (f.a,f.b,x.e.over):=⟨_,rfl⟩;rw[<-Zp]at hgd hsl HL hll HFL;obtain⟨W0,hW0⟩:∃W0,W0=(w.alloc (.cells #[.int .i64 x.e.kind,.slice x.adA x.e.allow.length x.capA,.string x.e.over,.string x.e.name,.slice x.adK x.e.kids.length x.capK] 188)).alloc (.cells #[.string f.a,.string f.b,.string f.r,.string f.c,.string f.d] 43):=⟨_,rfl⟩;have HB0:Hid (af w W0):=by show Below _ _ _;rw[hW0];exact((VD _ _).alloc (VC _) _).alloc (by simp) _
 have c0:W0.cell? ⟨w.heap.size+1,0,none⟩=some (.string f.a):=by rw[hW0];simp
 have c1:W0.cell? ⟨w.heap.size+1,1,none⟩=some (.string f.b):=by rw[hW0];simp
 have c2:W0.cell? ⟨w.heap.size+1,2,none⟩=some (.string f.r):=by rw[hW0];simp
 have c3:W0.cell? ⟨w.heap.size+1,3,none⟩=some (.string f.c):=by rw[hW0];simp
 have c4:W0.cell? ⟨w.heap.size+1,4,none⟩=some (.string f.d):=by rw[hW0];simp
 have x2:W0.cell? ⟨w.heap.size,2,none⟩=some (.string x.e.over):=by rw[hW0];simp
 have x3:W0.cell? ⟨w.heap.size,3,none⟩=some (.string x.e.name):=by rw[hW0];simp
 have d3:=HB0.out.cell (p:=⟨D,3,none⟩) hD.dat.lt |>.trans hD.dat.c3;have hlk:∀m,(Instr.lookup 123 (.map (some bp)) (.agg #[.string f.a,.string f.b,.string x.e.over]) false).run prog (W0.drewN m)=.ok (.slice adL L.length Y3) (W0.drewN m):=fun m=>by
  have h:=((hD.dat.told.map.below HB0.out).below (below_drewN (VD _ _) m)).look (t:=123) (e:=25) SC underlying123 (JK _) (x:=(f.a,f.b,x.e.over)) hkl;rw[hgd]at h;exact h
 have Z8:=aD hsl;have HKN:=aD hK;have HF:=aD hf;have HXF:=aD hxf;have X9:Hid (W0.cell? ⟨w.heap.size+1,3,none⟩=some (.string f.c)/\W0.cell? ⟨w.heap.size+1,4,none⟩=some (.string f.d)/\W0.cell? ⟨w.heap.size,3,none⟩=some (.string x.e.name)/\w.heap.size+1<W0.heap.size):=⟨c3,c4,x3,by rw[hW0];simp⟩;clear hsl hK hf Zp hgd hkl;go_enter func219,ntmps219;go_wp2_with fail;rw[<-hW0];clear hW0;go_quiet (fail);clear c0 c1 c2 c3 c4 d3 x2 x3 hlk;go_wp2;go_loopw[22] (fun i wr=>∃k:Nat,k<=L.length/\i=.int .i64 k/\Hid ((L.drop k).any (vZ out x.e.name f)=L.any (vZ out x.e.name f))/\Hid (af w wr)/\Hid (wr.cell? ⟨w.heap.size+1,3,none⟩=some (.string f.c)/\wr.cell? ⟨w.heap.size+1,4,none⟩=some (.string f.d)/\wr.cell? ⟨w.heap.size,3,none⟩=some (.string x.e.name)/\w.heap.size+1<wr.heap.size)) (fun i _=>L.length-(intOf i).toNat);case atStart=>exact⟨0,VG _,rfl,rfl,below_drewN HB0.out _,X9⟩
 clear X9 HB0;obtain⟨k,hk,rfl,HP,HB,HC⟩:=hrel;by_cases hlt:k<L.length
 ·obtain⟨bT,offT,Zv,⟨a0,a1,a2,a3,a4,a5⟩,hbT⟩:=Sl.at0 (Z8.out.below HB.out) hlt;obtain⟨c3,c4,x3,cl⟩:=HC.out;have cl0:w.heap.size<wr.heap.size:=by omega
  have hi1:=bq k;have hi2:(k:Int)<(L.length:Int):=by omega
  have HTF:=aD (HFL.out _ (Vz hlt));have HD2:Hid (L.any (vZ out x.e.name f)=(vZ out x.e.name f L[k] || (L.drop (k+1)).any (vZ out x.e.name f))):=by show _=_;rw[<-HP.out];exact DN _ hlt
  obtain⟨t,ht⟩:∃t,t=L[k]:=⟨_,rfl⟩;rw[<-ht]at a0 a1 a2 a3 a4 a5 HTF HD2;clear ht;obtain⟨W1,hW1⟩:∃W1,W1=wr.alloc (.cells #[.string t.a,.string t.b,.string t.r,.string t.c,.string t.d,.string t.s] 29):=⟨_,rfl⟩;have Yf:=oQ hW1;have HB1:=aD (HB.out.trans (Yf.out.mono HB.out.size));have XL:Hid (W1.cell? ⟨w.heap.size+1,3,none⟩=some (.string f.c)/\W1.cell? ⟨w.heap.size+1,4,none⟩=some (.string f.d)/\W1.cell? ⟨w.heap.size,3,none⟩=some (.string x.e.name)/\w.heap.size+1<W1.heap.size):=⟨mK Yf.out cl c3,mK Yf.out cl c4,mK Yf.out cl0 x3,Vy cl Yf.out.size⟩;subst Zv;have HTT:Hid (vZ out x.e.name f t=bR out ⟨t.c,t.d,x.e.name,f.c,f.d⟩):=rfl;go_wp2_with fail;rw[<-hW1];clear hW1;refine(wh bK nK out ⟨t.c,t.d,x.e.name,f.c,f.d⟩ W1 ⟨HTF.out.2.2.2.1,HTF.out.2.2.2.2.1,HXF.out.2,HF.out.2.2.2.1,HF.out.2.2.2.2⟩ (HKN.out.below HB1.out)).mono ?_;rintro e w2 ⟨rfl,hb2⟩;have HB2:=aD (HB1.out.trans (hb2.mono HB1.out.size));have Xp:Hid (w2.cell? ⟨w.heap.size+1,3,none⟩=some (.string f.c)/\w2.cell? ⟨w.heap.size+1,4,none⟩=some (.string f.d)/\w2.cell? ⟨w.heap.size,3,none⟩=some (.string x.e.name)/\w.heap.size+1<w2.heap.size):=⟨mK hb2 XL.out.2.2.2 XL.out.1,mK hb2 XL.out.2.2.2 XL.out.2.1,mK hb2 (by have:=XL.out.2.2.2;omega) XL.out.2.2.1,Vy XL.out.2.2.2 hb2.size⟩;clear hb2;cases hh:bR out ⟨t.c,t.d,x.e.name,f.c,f.d⟩;case true=>
   have HN:Hid (gJ ts out x.e.over x.e.name f=true):=by show _=_;rw[HL.out,HD2.out,HTT.out,hh];rfl
   go_wp2;go_ret;exact⟨by rw[HN.out];rfl,HB2.out⟩
  have Xa:Hid ((L.drop (k+1)).any (vZ out x.e.name f)=L.any (vZ out x.e.name f)):=by show _=_;rw[HD2.out,HTT.out,hh];rfl
  go_wp2;go_roundw;case rel=>exact⟨k+1,by omega,by go_num,Xa,HB2,Xp⟩
  simp[intOf]<;>omega
 have HN:Hid (gJ ts out x.e.over x.e.name f=false):=by show _=_;rw[HL.out,<-HP.out,VW (by omega)];rfl
 go_wp2;go_ret;exact⟨by rw[HN.out];rfl,HB.out⟩
end
def yM(B:Nat):Value:=.func (Fn.func 216) #[] #[.pointer (some ⟨B,0,none⟩),.pointer (some ⟨B+1,0,none⟩),.pointer (some ⟨B+1+1,0,none⟩),.pointer (some ⟨B+1+1+1,0,none⟩)]
def Iu(w:World)(D:Nat)(vE:Value)(f:Fc)(bK:Nat)(x:ER):World :=
 (((((w.alloc (.cells #[.pointer (some ⟨D,0,none⟩)] 82)).alloc (.cells #[vE] 147)).alloc (.cells #[.string f.a,.string f.b,.string f.r,.string f.c,.string f.d] 43)).alloc (.cells #[.map (some bK)] 117)).alloc (.cells #[.int .i64 x.e.kind,.slice x.adA x.e.allow.length x.capA,.string x.e.over,.string x.e.name,.slice x.adK x.e.kids.length x.capK] 188)).alloc (.cells #[yM w.heap.size] 312)
structure NdB(w:World)(B D:Nat)(vE:Value)(f:Fc)(bK:Nat)(x:ER):Prop where
 lt:B+1+1+1+1+1<w.heap.size
 d:w.cell? ⟨B,0,none⟩=some (.pointer (some ⟨D,0,none⟩))
 e:w.cell? ⟨B+1,0,none⟩=some vE
 f0:w.cell? ⟨B+1+1,0,none⟩=some (.string f.a)
 f1:w.cell? ⟨B+1+1,1,none⟩=some (.string f.b)
 f2:w.cell? ⟨B+1+1,2,none⟩=some (.string f.r)
 f3:w.cell? ⟨B+1+1,3,none⟩=some (.string f.c)
 f4:w.cell? ⟨B+1+1,4,none⟩=some (.string f.d)
 k:w.cell? ⟨B+1+1+1,0,none⟩=some (.map (some bK))
 x0:w.cell? ⟨B+1+1+1+1,0,none⟩=some (.int .i64 x.e.kind)
 x1:w.cell? ⟨B+1+1+1+1,1,none⟩=some (.slice x.adA x.e.allow.length x.capA)
 x2:w.cell? ⟨B+1+1+1+1,2,none⟩=some (.string x.e.over)
 x3:w.cell? ⟨B+1+1+1+1,3,none⟩=some (.string x.e.name)
 x4:w.cell? ⟨B+1+1+1+1,4,none⟩=some (.slice x.adK x.e.kids.length x.capK)
 v:w.cell? ⟨B+1+1+1+1+1,0,none⟩=some (yM B)
theorem NdB.below{w w':ae}{B D:Nat}{vE:Value}{f:Fc}{bK:Nat}{x:ER}(h:NdB w B D vE f bK x)(hB:af w w'):NdB w' B D vE f bK x:=by
 have hl:=h.lt;have c:∀i o,i<=5->w'.cell? ⟨B+i,o,none⟩=w.cell? ⟨B+i,o,none⟩:=fun i o hi=>hB.cell (p:=⟨B+i,o,none⟩) (show B+i<_ by omega);have c0:∀o,w'.cell? ⟨B,o,none⟩=w.cell? ⟨B,o,none⟩:=fun o=>hB.cell (p:=⟨B,o,none⟩) (show B<_ by omega);exact⟨Vy hl hB.size,(c0 _).trans h.d,(c 1 _ (by omega)).trans h.e,(c 2 _ (by omega)).trans h.f0,(c 2 _ (by omega)).trans h.f1,(c 2 _ (by omega)).trans h.f2,(c 2 _ (by omega)).trans h.f3,(c 2 _ (by omega)).trans h.f4,(c 3 _ (by omega)).trans h.k,(c 4 _ (by omega)).trans h.x0,(c 4 _ (by omega)).trans h.x1,(c 4 _ (by omega)).trans h.x2,(c 4 _ (by omega)).trans h.x3,(c 4 _ (by omega)).trans h.x4,(c 5 _ (by omega)).trans h.v⟩
theorem lT(w:ae)(D:Nat)(vE:Value)(f:Fc)(bK:Nat)(x:ER):af w (Iu w D vE f bK x):=by
 unfold Iu;exact((((((VD _ _).alloc (VC _) _).alloc (by simp) _).alloc (by simp;omega) _).alloc (by simp;omega) _).alloc (by simp;omega) _).alloc (by simp;omega) _
theorem oN(w:ae)(cs:Array Value)(T:TypeId)(o:Nat):(w.alloc (.cells cs T)).cell? ⟨w.heap.size,o,none⟩=cs[o]?:=World.cell?_alloc_mark w cs T (0,0) o
theorem lV(w:ae)(D:Nat)(vE:Value)(f:Fc)(bK:Nat)(x:ER):NdB (Iu w D vE f bK x) w.heap.size D vE f bK x:=by
 unfold Iu;obtain⟨w1,h1⟩:∃u,u=w.alloc (.cells #[.pointer (some ⟨D,0,none⟩)] 82):=⟨_,rfl⟩;have s1:w1.heap.size=w.heap.size+1:=by rw[h1,World.size_alloc]
 have b1:af w w1:=by rw[h1];exact(VD _ _).alloc (VC _) _
 obtain⟨w2,h2⟩:∃u,u=w1.alloc (.cells #[vE] 147):=⟨_,rfl⟩;have s2:w2.heap.size=w.heap.size+1+1:=by rw[h2,World.size_alloc,s1]
 have b2:af w1 w2:=by rw[h2];exact(VD _ _).alloc (VC _) _
 obtain⟨w3,h3⟩:∃u,u=w2.alloc (.cells #[.string f.a,.string f.b,.string f.r,.string f.c,.string f.d] 43):=⟨_,rfl⟩;have s3:w3.heap.size=w.heap.size+1+1+1:=by rw[h3,World.size_alloc,s2]
 have b3:af w2 w3:=by rw[h3];exact(VD _ _).alloc (VC _) _
 obtain⟨w4,h4⟩:∃u,u=w3.alloc (.cells #[.map (some bK)] 117):=⟨_,rfl⟩;have s4:w4.heap.size=w.heap.size+1+1+1+1:=by rw[h4,World.size_alloc,s3]
 have b4:af w3 w4:=by rw[h4];exact(VD _ _).alloc (VC _) _
 obtain⟨w5,h5⟩:∃u,u=w4.alloc (.cells #[.int .i64 x.e.kind,.slice x.adA x.e.allow.length x.capA,.string x.e.over,.string x.e.name,.slice x.adK x.e.kids.length x.capK] 188):=⟨_,rfl⟩;have s5:w5.heap.size=w.heap.size+1+1+1+1+1:=by rw[h5,World.size_alloc,s4]
 have b5:af w4 w5:=by rw[h5];exact(VD _ _).alloc (VC _) _
 obtain⟨w6,h6⟩:∃u,u=w5.alloc (.cells #[yM w.heap.size] 312):=⟨_,rfl⟩;have s6:w6.heap.size=w.heap.size+1+1+1+1+1+1:=by rw[h6,World.size_alloc,s5]
 have b6:af w5 w6:=by rw[h6];exact(VD _ _).alloc (VC _) _
 rw[<-h1,<-h2,<-h3,<-h4,<-h5,<-h6];have c0:∀o,w6.cell? ⟨w.heap.size,o,none⟩=(#[.pointer (some ⟨D,0,none⟩)]:Array Value)[o]?:=fun o=>by
  have e:w1.cell? ⟨w.heap.size,o,none⟩=(#[.pointer (some ⟨D,0,none⟩)]:Array Value)[o]?:=by rw[h1];exact oN _ _ _ o
  rw[b6.cell (p:=⟨w.heap.size,o,none⟩) (show w.heap.size<_ by omega),b5.cell (p:=⟨w.heap.size,o,none⟩) (show w.heap.size<_ by omega),b4.cell (p:=⟨w.heap.size,o,none⟩) (show w.heap.size<_ by omega),b3.cell (p:=⟨w.heap.size,o,none⟩) (show w.heap.size<_ by omega),b2.cell (p:=⟨w.heap.size,o,none⟩) (show w.heap.size<_ by omega)];exact e
 have c1:∀o,w6.cell? ⟨w.heap.size+1,o,none⟩=(#[vE]:Array Value)[o]?:=fun o=>by
  have e:w2.cell? ⟨w.heap.size+1,o,none⟩=(#[vE]:Array Value)[o]?:=by rw[h2,<-s1];exact oN _ _ _ o
  rw[b6.cell (p:=⟨w.heap.size+1,o,none⟩) (show w.heap.size+1<_ by omega),b5.cell (p:=⟨w.heap.size+1,o,none⟩) (show w.heap.size+1<_ by omega),b4.cell (p:=⟨w.heap.size+1,o,none⟩) (show w.heap.size+1<_ by omega),b3.cell (p:=⟨w.heap.size+1,o,none⟩) (show w.heap.size+1<_ by omega)];exact e
 have c2:∀o,w6.cell? ⟨w.heap.size+1+1,o,none⟩=(#[.string f.a,.string f.b,.string f.r,.string f.c,.string f.d]:Array Value)[o]?:=fun o=>by
  have e:w3.cell? ⟨w.heap.size+1+1,o,none⟩=(#[.string f.a,.string f.b,.string f.r,.string f.c,.string f.d]:Array Value)[o]?:=by rw[h3,<-s2];exact oN _ _ _ o
  rw[b6.cell (p:=⟨w.heap.size+1+1,o,none⟩) (show w.heap.size+1+1<_ by omega),b5.cell (p:=⟨w.heap.size+1+1,o,none⟩) (show w.heap.size+1+1<_ by omega),b4.cell (p:=⟨w.heap.size+1+1,o,none⟩) (show w.heap.size+1+1<_ by omega)];exact e
 have c3:∀o,w6.cell? ⟨w.heap.size+1+1+1,o,none⟩=(#[.map (some bK)]:Array Value)[o]?:=fun o=>by
  have e:w4.cell? ⟨w.heap.size+1+1+1,o,none⟩=(#[.map (some bK)]:Array Value)[o]?:=by rw[h4,<-s3];exact oN _ _ _ o
  rw[b6.cell (p:=⟨w.heap.size+1+1+1,o,none⟩) (show w.heap.size+1+1+1<_ by omega),b5.cell (p:=⟨w.heap.size+1+1+1,o,none⟩) (show w.heap.size+1+1+1<_ by omega)];exact e
 have c4:∀o,w6.cell? ⟨w.heap.size+1+1+1+1,o,none⟩=(#[.int .i64 x.e.kind,.slice x.adA x.e.allow.length x.capA,.string x.e.over,.string x.e.name,.slice x.adK x.e.kids.length x.capK]:Array Value)[o]?:=fun o=>by
  have e:w5.cell? ⟨w.heap.size+1+1+1+1,o,none⟩=(#[.int .i64 x.e.kind,.slice x.adA x.e.allow.length x.capA,.string x.e.over,.string x.e.name,.slice x.adK x.e.kids.length x.capK]:Array Value)[o]?:=by rw[h5,<-s4];exact oN _ _ _ o
  rw[b6.cell (p:=⟨w.heap.size+1+1+1+1,o,none⟩) (show w.heap.size+1+1+1+1<_ by omega)];exact e
 have c5:∀o,w6.cell? ⟨w.heap.size+1+1+1+1+1,o,none⟩=(#[yM w.heap.size]:Array Value)[o]?:=fun o=>by
  have e:w6.cell? ⟨w.heap.size+1+1+1+1+1,o,none⟩=(#[yM w.heap.size]:Array Value)[o]?:=by rw[h6,<-s5];exact oN _ _ _ o
  exact e
 exact⟨by omega,c0 0,c1 0,c2 0,c2 1,c2 2,c2 3,c2 4,c3 0,c4 0,c4 1,c4 2,c4 3,c4 4,c5 0⟩
def Kg(D:Nat)(vE:Value)(f:Fc)(bK:Nat)(w:World)(i:Int)(b:Bool):Prop:=∀w1:World,af w w1->Calls prog 183 #[.pointer (some ⟨D,0,none⟩),vE,.int .i64 i,.agg #[.string f.a,.string f.b,.string f.r,.string f.c,.string f.d],.map (some bK)] w1 fun e w'=>e=.returned (.bool b)/\af w1 w'
theorem pR{w w1:ae}{B D:Nat}{vE:Value}{f:Fc}{bK:Nat}{x:ER}{i:Int}{b:Bool}(hK:Kg D vE f bK w i b)(hb:af w w1)(hB:NdB w1 B D vE f bK x):
  Calls prog 216 #[.int .i64 i,.pointer (some ⟨B,0,none⟩),.pointer (some ⟨B+1,0,none⟩),.pointer (some ⟨B+1+1,0,none⟩),.pointer (some ⟨B+1+1+1,0,none⟩)] w1 fun e w'=>e=.returned (.bool b)/\af w1 w':=by
 have HC:=aD (hK w1 hb);obtain⟨-,d,e,f0,f1,f2,f3,f4,k,-⟩:=hB;clear hK;go_enter func216,ntmps216;go_wp2_with fail;refine HC.out.mono ?_;rintro e w2 ⟨rfl,hb2⟩;have HB:=aD hb2;clear hb2;go_wp2;go_ret;exact⟨rfl,HB.out⟩
theorem wm{w w1:ae}{B D:Nat}{vE:Value}{f:Fc}{bK:Nat}{x:ER}{i:Int}{b:Bool}(hK:Kg D vE f bK w i b)(hb:af w w1)(hB:NdB w1 B D vE f bK x):
  Calls prog 217 #[.int .i64 i,.pointer (some ⟨B+1+1+1+1+1,0,none⟩)] w1 fun e w'=>e=.returned (.bool (!b))/\af w1 w':=by
 have HC:=aD (pR hK hb hB);have hv:=hB.v;unfold yM at hv;clear hK hB;go_enter func217,ntmps217;go_wp2_with fail;refine HC.out.mono ?_;rintro e w2 ⟨rfl,hb2⟩;have HB:=aD hb2;clear hb2;go_wp2;go_ret;exact⟨rfl,HB.out⟩
theorem Um(xs:Array Value)(u:ae):(callFunc 216 xs).run prog u=.ok (.enter 216 xs) u:=by kernel_rfl
theorem Un(xs:Array Value)(u:ae):(callFunc 217 xs).run prog u=.ok (.enter 217 xs) u:=by kernel_rfl
theorem Nl(p:Int->Bool){zs:List Int}{k:Nat}(h:k<zs.length):(zs.drop k).any p=(p zs[k] || (zs.drop (k+1)).any p):=by rw[V5 h];rfl
theorem Kh(FC:Nat)(rc cp:Array Value)(p:Int->Bool)(ad:Q02)(cap:Nat)(xs:List Int)(w:ae)(hlen:xs.length<=1048576)(hs:wB w ad xs)
  (hrun:∀(ys:Array Value) (u:World),(callFunc FC ys).run prog u=.ok (.enter FC ys) u) (hp:∀x∈xs,∀w1:World,af w w1->Calls prog FC (rc.push (.int .i64 x)++cp) w1 fun e w'=>e=.returned (.bool (p x))/\af w1 w') :
  Calls prog 235 #[.slice ad xs.length cap,.func (Fn.func FC) rc cp] w fun e w'=>(∃r:Int,e=.returned (.int .i64 r)/\decide (0<=r)=xs.any p)/\af w w':=by
 have HS:=aD hs;have HRUN:=aD hrun;have HP:=aD hp;clear hs hrun hp;have HD:Hid (∀k (h:k<xs.length),(xs.drop k).any p=(p xs[k] || (xs.drop (k+1)).any p)):=fun k h=>Nl p h;go_enter func235,ntmps235;go_wp2_with fail;go_loopw[8] (fun i wr=>∃k:Nat,k<=xs.length/\i=.int .i64 k/\Hid ((xs.drop k).any p=xs.any p)/\Hid (af w wr)) (fun i _=>xs.length-(intOf i).toNat);case atStart=>exact⟨0,VG _,rfl,rfl,VD _ _⟩
 obtain⟨k,hk,rfl,HQ,HB⟩:=hrel;by_cases hlt:k<xs.length
 ·obtain⟨b,off,Xb,t0,hbl⟩:=wB.at0 (HS.out.below HB.out) hlt;have HM:Hid (xs[k]∈xs):=Vz hlt;have hk1:=bq k;have hk2:(k:Int)<(xs.length:Int):=by omega
  have HD2:=aD (HD.out k hlt);subst Xb;go_wp2_with fail;rw[HRUN.out,Oper.upon_enter];refine(HP.out _ HM.out _ HB.out).mono ?_;rintro e w1 ⟨rfl,hb1⟩;have HB1:=kL HB hb1;clear hb1 t0;cases he:p xs[k];case true=>
   have HN:Hid (xs.any p=true):=by show _=_;rw[<-HQ.out,HD2.out,he];rfl
   go_wp2;go_ret;exact⟨⟨k,rfl,by rw[HN.out];simp⟩,HB1.out⟩
  have HQ2:Hid ((xs.drop (k+1)).any p=xs.any p):=by show _=_;rw[<-HQ.out,HD2.out,he];rfl
  go_wp2;go_roundw;case rel=>exact⟨k+1,by omega,by go_num,HQ2,HB1⟩
  simp[intOf]<;>omega
 have HN:Hid (xs.any p=false):=by show _=_;rw[<-HQ.out,VW (by omega)];rfl
 go_wp2;go_ret;exact⟨⟨-1,rfl,by rw[HN.out];simp⟩,HB.out⟩
theorem tq(FC:Nat)(rc cp:Array Value)(p:Int->Bool)(ad:Q02)(cap:Nat)(xs:List Int)(w:ae)(hlen:xs.length<=1048576)(hs:wB w ad xs)
  (hrun:∀(ys:Array Value) (u:World),(callFunc FC ys).run prog u=.ok (.enter FC ys) u) (hp:∀x∈xs,∀w1:World,af w w1->Calls prog FC (rc.push (.int .i64 x)++cp) w1 fun e w'=>e=.returned (.bool (p x))/\af w1 w') :
  Calls prog 220 #[.slice ad xs.length cap,.func (Fn.func FC) rc cp] w fun e w'=>e=.returned (.bool (xs.any p))/\af w w':=by
 have HC:=aD (Kh FC rc cp p ad cap xs w hlen hs hrun hp);clear hs hrun hp;go_enter func220,ntmps220;go_wp2_with fail;refine HC.out.mono ?_;rintro e w' ⟨⟨r,rfl,hr⟩,hbx⟩;have HR:=aD hr;clear hr;go_wp2;go_ret;exact⟨by rw[<-HR.out];rfl,hbx⟩
set_option linter.unusedSectionVars false
def kJ(sts:List St)(xu:Q0a)(n:Int)(o:Al)(k:Nat):List Fc:=((sts.take k).filter fun s=>s.typ.toList==o.t.toList&&decide (s.n=n)).flatMap fun s=>jY o s.rel xu
def Uo(sts:List St)(xu:Q0a)(n:Int)(o:Al):List Fc:=kJ sts xu n o sts.length
def sI(sts:List St)(xo xu:Q0a)(n:Int)(i:Nat):List Fc:=(xo.take i).flatMap (Uo sts xu n)
theorem Nn(sts:List St)(xu:Q0a)(n:Int)(o:Al):kJ sts xu n o 0=[]:=rfl
theorem R9{sts:List St}{xu:Q0a}{n:Int}{o:Al}{k:Nat}(h:k<sts.length)(hc:(sts[k].typ.toList==o.t.toList&&decide (sts[k].n=n))=false):kJ sts xu n o (k+1)=kJ sts xu n o k:=by
 unfold kJ;rw[VE h,WP,Ws];simp[hc]
theorem QG{sts:List St}{xu:Q0a}{n:Int}{o:Al}{k:Nat}(h:k<sts.length)(hc:(sts[k].typ.toList==o.t.toList&&decide (sts[k].n=n))=true):kJ sts xu n o (k+1)=kJ sts xu n o k++jY o sts[k].rel xu:=by
 unfold kJ;rw[VE h,WP,Ws];simp[hc]
theorem Np{sts:List St}{xo xu:Q0a}{n:Int}{i:Nat}(h:i<xo.length):sI sts xo xu n (i+1)=sI sts xo xu n i++kJ sts xu n xo[i] sts.length:=by
 unfold sI;rw[VE h,Ws];simp[Uo]
theorem QH{ts:Q0b}{sts:List St}(hk:iG sts=av ts)(hn:(av ts).Nodup)(xo xu:Q0a)(n:Int):sI sts xo xu n xo.length=dw ts (fP sts) xo xu n:=by
 unfold sI dw;rw[VP];congr 1
 funext o
 unfold Uo kJ yF;rw[VP,R7 hk hn,List.flatMap_map];rfl
theorem Nq(o:Al)(rel:bW){xu:Q0a}{j:Nat}(h:j<xu.length):jY o rel (xu.take (j+1))=jY o rel (xu.take j)++[⟨o.t,o.s,rel,xu[j].t,xu[j].s⟩]:=by
 unfold jY;rw[VE h,WA];rfl
theorem BA{e:Ex}(h:az e=true):e.kids.length<=5/\(e.kind=6->2<=e.kids.length):=by
 unfold az at h;by_cases k1:e.kind=1
 ·rw[if_pos k1]at h;simp only[VF,VM]at h;exact⟨by omega,fun h6=>by omega⟩
 by_cases k2:e.kind=2
 ·rw[if_neg k1,if_pos k2]at h;simp only[VF,VM]at h;exact⟨by omega,fun h6=>by omega⟩
 by_cases k3:e.kind=3
 ·rw[if_neg k1,if_neg k2,if_pos k3]at h;simp only[VF,VM]at h;exact⟨by omega,fun h6=>by omega⟩
 by_cases k4:e.kind=4\/e.kind=5
 ·rw[if_neg k1,if_neg k2,if_neg k3,if_pos k4]at h;simp only[VF,VM]at h;exact⟨by omega,fun h6=>by omega⟩
 by_cases k6:e.kind=6
 ·rw[if_neg k1,if_neg k2,if_neg k3,if_neg k4,if_pos k6]at h;simp only[VF,VM]at h;exact⟨by omega,fun h6=>by omega⟩
 rw[if_neg k1,if_neg k2,if_neg k3,if_neg k4,if_neg k6]at h;cases h
theorem KZ{rows:Q08}(h:aP (aj rows)=true):Zi rows/\1<=rows.length:=by
 have hl:1<=rows.length/\rows.length<=15:=by
  unfold aP at h;simp only[VF,VM,aZ]at h;exact⟨h.1.1.1.1.1,h.1.1.1.1.2⟩
 have hlow:=Jd h;have hkl:∀q∈rows,q.e.kids.length<=1000:=fun q hq=>by
  have:=(BA (jm h q.e (VQ.2 ⟨q,hq,rfl⟩))).1;omega
 refine⟨⟨by omega,hkl,hlow,fun e he h6=>?_⟩,hl.1⟩;exact(BA (jm h e he)).2 h6
section
variable  [DecidableEq Fc]
theorem sw(H:List Fc->Fc->Bool)(qs:Q04)(f:Fc)(out:Q04):bY H (qs++[f]) out=fO H (bY H qs out) f:=by rw[FN];rfl
theorem wu{H:List Fc->Fc->Bool}{out:Q04}{f:Fc}(h:bR out f=true\/H out f=false):fO H out f=out:=by
 unfold fO;rw[if_pos];rcases h with h|h
 ·exact .inl (iX.1 h)
 exact .inr h
theorem DR{H:List Fc->Fc->Bool}{out:Q04}{f:Fc}(h1:bR out f=false)(h2:H out f=true):fO H out f=out++[f]:=by
 unfold fO;rw[if_neg];rintro(h|h)
 ·rw[iX.2 h]at h1;cases h1
 rw[h2]at h;cases h
theorem H5(H:List Fc->Fc->Bool)(qs out:Q04):out.length<=(bY H qs out).length:=by
 obtain⟨n,e,-⟩:=kw (H:=H) qs out;rw[e,VI];omega
theorem Ki{H:List Fc->Fc->Bool}{qs out:Q04}(h:decide (out.length<(bY H qs out).length)=false):bY H qs out=out:=by
 obtain⟨n,e,-⟩:=kw (H:=H) qs out;rw[e,VI,decide_eq_false_iff_not]at h;have:n=[]:=VS.1 (by omega);rw[e,this,Ww]
end
end Go.Proofs.YtcgdckphpjfmhaaGreatDoor
