/- Contract of the program's changedSchema: a schema in new memory, its leaves as a function tells. -/
import Derived.Test.YtojjoblnpldniaaGreatSq
import Derived.Deep.DeepMust
import Derived.Test.YtojjoblnpldniaaGreatJ14
import Derived.Test.YtojjoblnpldniaaGreatJ13
open Go.Proofs.Tryz
set_option maxHeartbeats 80000000
namespace Go.Proofs.YtojjoblnpldniaaGreat
set_option maxRecDepth 100000
set_option linter.unusedVariables false
open ChangeShapes WideShapes ChangeAt RowKit Maps
open Pl
theorem yH.mono{FC:Nat}{rc cp:Array Value}{typ:ByteArray}{f:Ex->List Ex}{w w':af}{r:ER}(h:yH FC rc cp typ f w r)(hb:ag w w'):yH FC rc cp typ f w' r:=fun w1 h1=>(h w1 (hb.trans (h1.mono hb.size))).mono fun e w2 ⟨Xe,cap',ms,e1,e2,e3,e4⟩=>⟨Xe,cap',ms,e1,e2,e3,fun w3 h3 h4=>e4 w3 h3 fun g h5 h6=>h4 g h5 (h6.imp (fun h=>Vt h hb.size) id)⟩
theorem WP.mono{α:Type}{T:TypeId}{size:Nat}{cells:α->List Value}{K:World->Nat->α->Prop}{I:α->Nat->Prop}{w:af}{base base':Nat}{v:Value}{rs:List α}(h:WP T size cells K I w base v rs)(hb:base'<=base)(hk:∀q,K w base q->K w base' q):WP T size cells K I w base' v rs :=
 ⟨⟨h.own.1,by
  rcases h.own.2 with hl|⟨g,cap,cur,e,h1,h2⟩
  ·exact .inl hl
  exact .inr ⟨g,cap,cur,e,Vz hb h1,h2⟩⟩,fun q hq=>hk q (h.kid q hq),h.head,h.two⟩
theorem jX.mono{w:af}{base base':Nat}{v:Value}{rs:Q07}(h:jX w base v rs)(hb:base'<=base):jX w base' v rs:=WP.mono h hb fun q hq=>NodM.mono hq hb
theorem IB(xs:Q07)(y:RR):bQ (xs++[y])=bQ xs++[y.p]:=by simp[bQ]
theorem IC(xs:Q06)(y:TR):ae (xs++[y])=ae xs++[y.p]:=by simp[ae]
theorem nu(w:af)(a b:Value)(T:TypeId):∀j u,[a,b][j]?=some u->(w.alloc (.cells #[a,b] T)).cell? ((⟨w.heap.size,0,none⟩:Addr).add j)=some u:=by
 intro j u hu;rw[show(⟨w.heap.size,0,none⟩:Addr).add j=⟨w.heap.size,0+j,none⟩ by simp[Addr.add];omega,VW];rw[World.cell?_alloc_mark w #[a,b] T (0,0) j];simpa using hu
structure SmallS(f:ByteArray->Ex->List Ex)(rs:Q06):Prop where
 n6:rs.length<=6
 r6:∀t∈rs,t.rows.length<=6
 e15:∀t∈rs,∀q∈t.rows,q.rows.length<=15
 low:∀t∈rs,∀q∈t.rows,pR (ai q.rows)
 lb:∀t∈rs,∀q∈t.rows,∀x∈q.rows,PW (f t.name) x.e
 light:∀t∈rs,∀q∈t.rows,∀x∈q.rows,x.e.light
structure RFs(N R T:Nat)(v2:Value)(tn rn:ByteArray)(ex:Value)(w:World):Prop where
 n0:w.cell? ⟨N,0,none⟩=some (.string tn)
 n1:w.cell? ⟨N,1,none⟩=some v2
 fz:w.frozen? ⟨N,1,none⟩=false
 r0:w.cell? ⟨R,0,none⟩=some (.string rn)
 r1:w.cell? ⟨R,1,none⟩=some ex
 t0:w.cell? ⟨T,0,none⟩=some (.string tn)
 lt:N<w.heap.size/\R<w.heap.size/\T<w.heap.size
theorem RFs.heap{N R T:Nat}{v2:Value}{tn rn:ByteArray}{ex:Value}{w w':af}(h:RFs N R T v2 tn rn ex w)(hs:w.heap.size<=w'.heap.size)(hb:∀g,g=N\/g=R\/g=T->w'.heap[g]?=w.heap[g]?):RFs N R T v2 tn rn ex w' :=
 ⟨(VN (a:=⟨N,0,none⟩) (hb N (.inl rfl))).trans h.n0,(VN (a:=⟨N,1,none⟩) (hb N (.inl rfl))).trans h.n1,(World.frozen?_of_block (a:=⟨N,1,none⟩) (hb N (.inl rfl))).trans h.fz,(VN (a:=⟨R,0,none⟩) (hb R (.inr (.inl rfl)))).trans h.r0,(VN (a:=⟨R,1,none⟩) (hb R (.inr (.inl rfl)))).trans h.r1,(VN (a:=⟨T,0,none⟩) (hb T (.inr (.inr rfl)))).trans h.t0,by have:=h.lt;omega⟩
theorem RFs.below{N R T:Nat}{v2:Value}{tn rn:ByteArray}{ex:Value}{w w':af}(h:RFs N R T v2 tn rn ex w)(hb:ag w w'):RFs N R T v2 tn rn ex w' :=
 h.heap hb.size fun g hg=>hb.block g (by have:=h.lt;rcases hg with rfl|rfl|rfl<;>omega)
def C1(W:World)(E:Q09)(x:Value)(w:World):Prop:=∃(ad:Q02) (cap:Nat) (qs:Q08),x=.slice ad qs.length cap/\NodM w W.heap.size x qs/\ai qs=E/\ag W w
def C3(W:World)(rn:ByteArray)(E:Q09)(u:Value)(w:World):Prop:=∃(b:Nat) (q:RR),u=.slice (some ⟨b,0,none⟩) 1 1/\(∀j y,(RR.cells q)[j]?=some y->w.cell? ((⟨b,0,none⟩:Addr).add j)=some y)/\kR w W.heap.size q/\q.p=⟨rn,E⟩/\ag W w
def C4(W:World)(N:Nat)(rows:Q07)(rn:ByteArray)(E:Q09)(u:Value)(w:World):Prop:=∃(ad:Q02) (cap:Nat) (q:RR),u=.slice ad (rows.length+1) cap/\jX w (N+1) u (rows++[q])/\q.p=⟨rn,E⟩/\Below (N+1) W w
theorem C1.lay{W w:af}{rn:ByteArray}{E:Q09}{x:Value}(h:C1 W E x w):C3 W rn E (.slice (some ⟨w.heap.size,0,none⟩) 1 1) (w.alloc (.cells #[.string rn,x] 39)):=by
 obtain⟨ad,cap,qs,rfl,hn,he,hb⟩:=h;have hA:ag w (w.alloc (.cells #[.string rn,.slice ad qs.length cap] 39)):=(Vv _ _).alloc (Vu _) _;exact⟨w.heap.size,⟨rn,qs,ad,cap⟩,rfl,nu w _ _ _,Tz.nod (hn.ex.below GV hA),by simp[RR.p,he],hb.trans (hA.mono hb.size)⟩
theorem C3.app{W0 W w w':af}{N:Nat}{rows:Q07}{rn:ByteArray}{E:Q09}{v2 v':Value}{q:RR}(h0:jX W (N+1) v2 rows)(hN:N+1<=W.heap.size)(hq:kR w W.heap.size q)(hp:q.p=⟨rn,E⟩)(hb:ag W w)(hown:w'.ownsRow (N+1) 39 2 v' (rows.length+1) (rows.flatMap RR.cells++RR.cells q))(hg:w.grownBy w' v2.ownBlock)(hat:v'.ownBlock=v2.ownBlock\/v'.ownBlock=some w.heap.size):C4 W N rows rn E v' w':=by
 have h1:jX w' (N+1) v' (rows++[q]):=WP.snocN qF h0 hb hown hg (hat.imp id fun e=>⟨_,e,Vu _⟩) (NodM.mono hq hN) (fun g hi=>(qF.lt w W.heap.size q hq g hi).1);obtain⟨ad,cap,rfl⟩:=ik hown;exact⟨ad,cap,q,rfl,h1,hp,(hb.mono hN).grown hg (Vz hN hb.size) (fun g hg=>(h0.own.lt g hg).1)⟩
theorem wT(FC:Nat)(rc cp:Array Value)(f:ByteArray->Ex->List Ex)(ad:Q02)(cap:Nat)(rs:Q06)(w:af)(hs:jK w ad rs)(hsm:SmallS f rs)
  (hrun:∀(xs:Array Value) (u:World),(callFunc FC xs).run prog u=.ok (.enter FC xs) u) (hch:∀t∈rs,∀q∈t.rows,∀x∈q.rows,x.e.kids=[]->yH FC rc cp t.name (f t.name) w x) :
  Calls prog 97 #[.slice ad rs.length cap,.func (Fn.func FC) rc cp] w fun e w'=>∃(v:Value) (qs:Q06),e=.returned v/\eZ w' w.heap.size v qs/\ae qs=AB f (ae rs)/\ag w w':=by
 obtain⟨iR,ZV,zR0,zR1,zR2⟩:=info_parts (P:=prog) (e:=39) (z:=.agg #[.string ⟨#[]⟩,.slice none 0 0]) (size:=2) (bytes:=40) (by kernel_rfl);obtain⟨iT,Zg,Zh,Zi,Zj⟩:=info_parts (P:=prog) (e:=36) (z:=.agg #[.string ⟨#[]⟩,.slice none 0 0]) (size:=2) (bytes:=40) (by kernel_rfl);have Yo:Hid (prog.info? 39=some iR/\iR.zero=some (.agg #[.string ⟨#[]⟩,.slice none 0 0])/\iR.size=2/\iR.bytes=40):=⟨ZV,zR0,zR1,zR2⟩;have HIT:Hid (prog.info? 36=some iT/\iT.zero=some (.agg #[.string ⟨#[]⟩,.slice none 0 0])/\iT.size=2/\iT.bytes=40):=⟨Zg,Zh,Zi,Zj⟩;have HS:=az hs;have YL:=az hsm;have YQ:Hid (∀(xs:Array Value) (u:World),(callFunc FC xs).run prog u=.ok (.enter FC xs) u):=hrun;have HCH:Hid (∀t∈rs,∀q∈t.rows,∀x∈q.rows,x.e.kids=[]->yH FC rc cp t.name (f t.name) w x):=hch;have hn6:=hsm.n6;clear hs hsm hrun hch ZV zR0 zR1 zR2 Zg Zh Zi Zj;go_enter func97,ntmps97;go_wp2_with fail;go_loopw[5,13] (fun v i wr=>∃(k:Nat) (qs:Q06),k<=rs.length/\i=.int .i64 k/\Hid (eZ wr w.heap.size v qs)/\Hid (ae qs=(AB f (ae rs)).take k)/\Hid (ag w wr)) (fun _ i _=>rs.length-(intOf i).toNat);case atStart=>exact⟨0,[],Vy _,rfl,mI _ _,by show _=_;simp[ae],Vv _ _⟩
 obtain⟨k,qs,hk,rfl,HX,HQ,HB⟩:=hrel;obtain⟨wo,hwo⟩:=eQx wr;subst hwo;have HQL:Hid (qs.length=k):=by
  show _=_;rw[<-df,HQ.out,V9];simp[AB,df];omega
 have hql6:qs.length<=6:=by rw[HQL.out];omega
 by_cases hlt:k<rs.length
 ·rcases HS.out.below HB.out with hnil|⟨b,off,WR,hb,hr,hok⟩
  ·rw[hnil]at hlt;simp at hlt
  obtain⟨t0,t1⟩:=hr k hlt;have YW:Hid (rs[k]∈rs):=Vs hlt;have Xc:Hid (rs[k].ok wo):=hok rs[k] (Vs hlt);have XA:rs[k].rows.length<=6:=YL.out.r6 _ (Vs hlt);have hk1:=bI k;have hk2:(k:Int)<(rs.length:Int):=by omega
  obtain⟨W2,hW2⟩:=eQx ((wo.alloc (.cells #[.string rs[k].name,.slice rs[k].ad rs[k].rows.length rs[k].cap] 36)).alloc (.cells #[.string rs[k].name,.slice none 0 0] 36));have HB2:Hid (ag wo W2):=by show Below _ _ _;rw[hW2];exact((Vv _ _).alloc (Vu _) _).alloc (by simp) _
  have WQ:Hid (W2.cell? ⟨wo.heap.size,0,none⟩=some (.string rs[k].name)/\W2.cell? ⟨wo.heap.size,1,none⟩=some (.slice rs[k].ad rs[k].rows.length rs[k].cap)/\W2.cell? ⟨wo.heap.size+1,0,none⟩=some (.string rs[k].name)/\W2.cell? ⟨wo.heap.size+1,1,none⟩=some (.slice none 0 0)/\W2.frozen? ⟨wo.heap.size+1,1,none⟩=false/\W2.heap.size=wo.heap.size+2):=by
   show _/\_;rw[hW2];have hz:(wo.alloc (.cells #[.string rs[k].name,.slice rs[k].ad rs[k].rows.length rs[k].cap] 36)).heap.size=wo.heap.size+1:=by simp
   have hc:=fun j=>World.cell?_alloc_mark (wo.alloc (.cells #[.string rs[k].name,.slice rs[k].ad rs[k].rows.length rs[k].cap] 36)) #[.string rs[k].name,.slice none 0 0] 36 (0,0) j;rw[hz]at hc;exact⟨by simp,by simp,by rw[hc 0];rfl,by rw[hc 1];rfl,by simp,by simp⟩
  have p1:=WQ.out.2.1;rw[WR];clear hr hok WR hb;go_wp2_with fail;rw[<-hW2];clear hW2 t0 t1;have hTl:wo.heap.size<W2.heap.size:=by have:=WQ.out.2.2.2.2.2;omega
  go_loopw[23] (fun i wr=>∃(j:Nat) (v2:Value) (rows:Q07),j<=rs[k].rows.length/\i=.int .i64 j/\Hid (wr.cell? ⟨wo.heap.size+1,0,none⟩=some (.string rs[k].name)/\wr.cell? ⟨wo.heap.size+1,1,none⟩=some v2/\wr.frozen? ⟨wo.heap.size+1,1,none⟩=false)/\Hid (jX wr (wo.heap.size+2) v2 rows)/\Hid (bQ rows=(((bQ rs[k].rows).map (MZ f rs[k].name)).take j))/\Hid (Below (wo.heap.size+1) W2 wr)) (fun i _=>rs[k].rows.length-(intOf i).toNat);case atStart=>exact⟨0,.slice none 0 0,[],Vy _,rfl,⟨WQ.out.2.2.1,WQ.out.2.2.2.1,WQ.out.2.2.2.2.1⟩,mI _ _,by show _=_;simp[bQ],Vv _ _⟩
  obtain⟨j,v2,rows,hj,rfl,HN,HR,HRQ,HB3⟩:=hrel;obtain⟨wi,hwi⟩:=eQx wr;subst hwi;have HZ2:Hid (W2.heap.size=wo.heap.size+2):=WQ.out.2.2.2.2.2;have XI:Hid (ag wo wi):=HB2.out.trans (HB3.out.mono (Nat.le_succ _));have Zo:Hid (rows.length=j):=by
   show _=_;rw[<-dz,HRQ.out,V9,Wp,dz];omega
  have hrl6:rows.length<=6:=by rw[Zo.out];omega
  by_cases hjt:j<rs[k].rows.length
  ·rcases Xc.out.below XI.out with hnil|⟨b2,WV,XC,hb2,hr2,hok2⟩
   ·rw[hnil]at hjt;simp at hjt
   obtain⟨s0,s1⟩:=hr2 j hjt;have HQM:Hid (rs[k].rows[j]∈rs[k].rows):=Vs hjt;have HOE:Hid (jo wi rs[k].rows[j].ad rs[k].rows[j].rows):=hok2 _ (Vs hjt);have hj1:=bI j;have hj2:(j:Int)<(rs[k].rows.length:Int):=by omega
   obtain⟨W3,hW3⟩:=eQx (wi.alloc (.cells #[.string rs[k].rows[j].name,.slice rs[k].rows[j].ad rs[k].rows[j].rows.length rs[k].rows[j].cap] 39));have Xi:=qC hW3;have hTw:wo.heap.size+2<=wi.heap.size:=by have:=HB3.out.size;have:=HZ2.out;omega
   have HRF:Hid (RFs (wo.heap.size+1) wi.heap.size wo.heap.size v2 rs[k].name rs[k].rows[j].name (.slice rs[k].rows[j].ad rs[k].rows[j].rows.length rs[k].rows[j].cap) W3):=by
    have h1:wo.heap.size+1<wi.heap.size:=by omega
    have h2:wo.heap.size<wi.heap.size:=by omega
    have ht:wi.cell? ⟨wo.heap.size,0,none⟩=some (.string rs[k].name):=by rw[HB3.out.cell (p:=⟨wo.heap.size,0,none⟩) (WL _)];exact WQ.out.1
    refine⟨kept Xi.out h1 HN.out.1,kept Xi.out h1 HN.out.2.1,qM Xi.out h1 HN.out.2.2,by rw[hW3];simp,by rw[hW3];simp,kept Xi.out h2 ht,?_⟩;rw[hW3];simp;omega
   have Y0:Hid (jX W3 (wo.heap.size+2) v2 rows):=WP.below qF HR.out Xi.out;rw[XC];clear hr2 hok2 XC hb2;go_wp2_with fail;rw[<-hW3];clear hW3 s0 s1;have Zc:Hid (wo.heap.size+1+1<=W3.heap.size):=by have:=Xi.out.size;show _<=_;omega
   have HRO:Hid (jX wi (wo.heap.size+2) v2 rows):=HR.out;have Y7:Hid (ag w W3):=(HB.out.trans (XI.out.mono HB.out.size)).trans (Xi.out.mono (Vz HB.out.size XI.out.size));obtain⟨CV,hCV⟩:∃C:Nat->Value,C=fun n=>((Value.pointer (some ⟨wo.heap.size+1,1,none⟩))::(v2)::(Value.pointer (some ⟨wi.heap.size,0,none⟩))::(Value.string rs[k].rows[j].name)::(Value.pointer (some ⟨wo.heap.size,0,none⟩))::(Value.string rs[k].name)::(Value.pointer (some ⟨wi.heap.size,1,none⟩))::(Value.slice rs[k].rows[j].ad rs[k].rows[j].rows.length rs[k].rows[j].cap)::(Value.func (Fn.func FC) rc cp)::(undef)::(undef)::(undef)::(undef)::(Value.pointer (some ⟨wo.heap.size+1,1,none⟩))::[]).getD n undef:=⟨_,rfl⟩;have XQ:Hid (CV 0=Value.pointer (some ⟨wo.heap.size+1,1,none⟩)/\CV 1=v2/\CV 2=Value.pointer (some ⟨wi.heap.size,0,none⟩)/\CV 3=Value.string rs[k].rows[j].name/\CV 4=Value.pointer (some ⟨wo.heap.size,0,none⟩)/\CV 5=Value.string rs[k].name/\CV 6=Value.pointer (some ⟨wi.heap.size,1,none⟩)/\CV 7=Value.slice rs[k].rows[j].ad rs[k].rows[j].rows.length rs[k].rows[j].cap/\CV 8=Value.func (Fn.func FC) rc cp/\CV 9=undef/\CV 10=undef/\CV 11=undef/\CV 12=undef/\CV 13=Value.pointer (some ⟨wo.heap.size+1,1,none⟩)):=by show _/\_;rw[hCV];exact⟨rfl,rfl,rfl,rfl,rfl,rfl,rfl,rfl,rfl,rfl,rfl,rfl,rfl,rfl⟩
   clear hCV;refine eT 14 _ _ (G.CH 9 (fun _=>[]) CV (RFs (wo.heap.size+1) wi.heap.size wo.heap.size (v2) rs[k].name rs[k].rows[j].name (Value.slice rs[k].rows[j].ad rs[k].rows[j].rows.length rs[k].rows[j].cap)) (Below W3.heap.size W3) (C1 W3 (xO (f rs[k].name) (ai rs[k].rows[j].rows))) (fun x=>.agg #[.string rs[k].rows[j].name,x]) (C3 W3 rs[k].rows[j].name (xO (f rs[k].name) (ai rs[k].rows[j].rows))) (C4 W3 (wo.heap.size+1) rows rs[k].rows[j].name (xO (f rs[k].name) (ai rs[k].rows[j].rows)))) (by kernel_rfl) rfl (by kernel_rfl) (fun o ho l fq w' hI hp=>?KJ) (yt [(27,[0,1,2,3,4,5,6,7,8,9,10,11,12,13])]) (G.ch_start (HRF.out.below (Vv _ _).drew) (Vv _ _).drew) ?stepR ?finR<;>try dsimp only[wY]
   case KJ =>
    cases ho;intro k hk;have hc:=OG (i:=k) (by omega)
    repeat' rcases hc with rfl|hc
    ·exact hp ⟨0,.phase⟩ (by simp) rfl
    ·exact hp ⟨1,.phase⟩ (by simp) rfl
    ·exact hp ⟨2,.phase⟩ (by simp) rfl
    ·exact hp ⟨3,.phase⟩ (by simp) rfl
    ·exact hp ⟨4,.phase⟩ (by simp) rfl
    ·exact hp ⟨5,.phase⟩ (by simp) rfl
    ·exact hp ⟨6,.phase⟩ (by simp) rfl
    ·exact hp ⟨7,.phase⟩ (by simp) rfl
    ·exact hp ⟨8,.phase⟩ (by simp) rfl
    ·exact hp ⟨9,.phase⟩ (by simp) rfl
    ·exact hp ⟨10,.phase⟩ (by simp) rfl
    ·exact hp ⟨11,.phase⟩ (by simp) rfl
    ·exact hp ⟨12,.phase⟩ (by simp) rfl
    exact hp ⟨13,.data⟩ (by simp) rfl
   case stepR =>
    rintro i hi o ho l fq w' Xb hI hpre;have HI:Hid (G.CH 9 (fun _=>[]) CV (RFs (wo.heap.size+1) wi.heap.size wo.heap.size (v2) rs[k].name rs[k].rows[j].name (Value.slice rs[k].rows[j].ad rs[k].rows[j].rows.length rs[k].rows[j].cap)) (Below W3.heap.size W3) (C1 W3 (xO (f rs[k].name) (ai rs[k].rows[j].rows))) (fun x=>.agg #[.string rs[k].rows[j].name,x]) (C3 W3 rs[k].rows[j].name (xO (f rs[k].name) (ai rs[k].rows[j].rows))) (C4 W3 (wo.heap.size+1) rows rs[k].rows[j].name (xO (f rs[k].name) (ai rs[k].rows[j].rows))) l fq w'):=hI;have WO:Hid (∀e∈o.after,Region.binds .any e=true->l e.on=true):=hpre;have HRW:Hid (RFs (wo.heap.size+1) wi.heap.size wo.heap.size (v2) rs[k].name rs[k].rows[j].name (Value.slice rs[k].rows[j].ad rs[k].rows[j].rows.length rs[k].rows[j].cap) w'):=hI.rf;clear hI hpre;have hc:=OG (i:=i) (by omega);clear hi
    repeat' rcases hc with rfl|hc
    ·cases ho;have HP:=aM (HI.out.put (i:=0) (by omega) (fun j hj=>by cases hj) XQ.out.1.symm);refine aa rfl fun K HK=>?_;clear WO HI;dsimp only;go_simp;exact HK.out _ _ ⟨_,by simp[upd],HP.out⟩
    ·cases ho;have e0:fq 0=.pointer (some ⟨wo.heap.size+1,1,none⟩):=(HI.out.val 0 (by omega) (WO.out ⟨0,.data⟩ (by simp) rfl)).trans XQ.out.1;have x1:=HRW.out.n1;have HP:=aM (HI.out.put (i:=1) (by omega) (fun j hj=>by cases hj) XQ.out.2.1.symm);refine aa rfl fun K HK=>?_;clear WO HI;simp only[e0];go_simp;exact HK.out _ _ ⟨_,by simp[upd,e0],HP.out⟩
    ·cases ho;have HP:=aM (HI.out.put (i:=2) (by omega) (fun j hj=>by cases hj) XQ.out.2.2.1.symm);refine aa rfl fun K HK=>?_;clear WO HI;dsimp only;go_simp;exact HK.out _ _ ⟨_,by simp[upd],HP.out⟩
    ·cases ho;have e2:fq 2=.pointer (some ⟨wi.heap.size,0,none⟩):=(HI.out.val 2 (by omega) (WO.out ⟨2,.data⟩ (by simp) rfl)).trans XQ.out.2.2.1;have x1:=HRW.out.r0;have HP:=aM (HI.out.put (i:=3) (by omega) (fun j hj=>by cases hj) XQ.out.2.2.2.1.symm);refine aa rfl fun K HK=>?_;clear WO HI;simp only[e2];go_simp;exact HK.out _ _ ⟨_,by simp[upd,e2],HP.out⟩
    ·cases ho;have HP:=aM (HI.out.put (i:=4) (by omega) (fun j hj=>by cases hj) XQ.out.2.2.2.2.1.symm);refine aa rfl fun K HK=>?_;clear WO HI;dsimp only;go_simp;exact HK.out _ _ ⟨_,by simp[upd],HP.out⟩
    ·cases ho;have e4:fq 4=.pointer (some ⟨wo.heap.size,0,none⟩):=(HI.out.val 4 (by omega) (WO.out ⟨4,.data⟩ (by simp) rfl)).trans XQ.out.2.2.2.2.1;have x1:=HRW.out.t0;have HP:=aM (HI.out.put (i:=5) (by omega) (fun j hj=>by cases hj) XQ.out.2.2.2.2.2.1.symm);refine aa rfl fun K HK=>?_;clear WO HI;simp only[e4];go_simp;exact HK.out _ _ ⟨_,by simp[upd,e4],HP.out⟩
    ·cases ho;have HP:=aM (HI.out.put (i:=6) (by omega) (fun j hj=>by cases hj) XQ.out.2.2.2.2.2.2.1.symm);refine aa rfl fun K HK=>?_;clear WO HI;dsimp only;go_simp;exact HK.out _ _ ⟨_,by simp[upd],HP.out⟩
    ·cases ho;have e6:fq 6=.pointer (some ⟨wi.heap.size,1,none⟩):=(HI.out.val 6 (by omega) (WO.out ⟨6,.data⟩ (by simp) rfl)).trans XQ.out.2.2.2.2.2.2.1;have x1:=HRW.out.r1;have HP:=aM (HI.out.put (i:=7) (by omega) (fun j hj=>by cases hj) XQ.out.2.2.2.2.2.2.2.1.symm);refine aa rfl fun K HK=>?_;clear WO HI;simp only[e6];go_simp;exact HK.out _ _ ⟨_,by simp[upd,e6],HP.out⟩
    ·cases ho;have HP:=aM (HI.out.put (i:=8) (by omega) (fun j hj=>by cases hj) XQ.out.2.2.2.2.2.2.2.2.1.symm);refine aa rfl fun K HK=>?_;clear WO HI;dsimp only;go_simp;exact HK.out _ _ ⟨_,by simp[upd],HP.out⟩
    ·cases ho;have e5:fq 5=.string rs[k].name:=(HI.out.val 5 (by omega) (WO.out ⟨5,.data⟩ (by simp) rfl)).trans XQ.out.2.2.2.2.2.1;have e7:fq 7=.slice rs[k].rows[j].ad rs[k].rows[j].rows.length rs[k].rows[j].cap:=(HI.out.val 7 (by omega) (WO.out ⟨7,.data⟩ (by simp) rfl)).trans XQ.out.2.2.2.2.2.2.2.1;have e8:fq 8=.func (Fn.func FC) rc cp:=(HI.out.val 8 (by omega) (WO.out ⟨8,.data⟩ (by simp) rfl)).trans XQ.out.2.2.2.2.2.2.2.2.1;have Y6:=aM (HI.out.m0 Xb).1;refine aa rfl fun K HK=>?_;clear WO;simp only[e5,e7,e8];go_simp;refine(zb FC rc cp rs[k].name (f rs[k].name) _ _ rs[k].rows[j].rows w' (YL.out.e15 _ YW.out _ HQM.out) ((HOE.out.below Xi.out).below Y6.out) (YL.out.light _ YW.out _ HQM.out) (YL.out.low _ YW.out _ HQM.out) (YL.out.lb _ YW.out _ HQM.out) YQ.out (fun x hx hk=>(HCH.out _ YW.out _ HQM.out x hx hk).mono (Y7.out.trans (Y6.out.mono Y7.out.size)))).mono ?_;rintro e w9 ⟨v9,qs9,rfl,hn9,he9,XZ⟩;obtain⟨ad9,Yr,rfl⟩:=ik hn9.own;have HP:=aM (HI.out.call Xb (fun j hj=>by cases hj) (HRW.out.below XZ) (show C1 W3 (xO (f rs[k].name) (ai rs[k].rows[j].rows)) (.slice ad9 qs9.length Yr) w9 from ⟨ad9,Yr,qs9,rfl,NodM.mono hn9 Y6.out.size,he9,Y6.out.trans (XZ.mono Y6.out.size)⟩));clear hn9 he9 XZ HI HRW Y6;go_wp2_with fail;exact HK.out _ _ ⟨_,by simp[upd,e5,e7,e8],HP.out⟩
    ·cases ho;have e3:fq 3=.string rs[k].rows[j].name:=(HI.out.val 3 (by omega) (WO.out ⟨3,.data⟩ (by simp) rfl)).trans XQ.out.2.2.2.1;have hc0:=WO.out ⟨9,.data⟩ (by simp) rfl;obtain⟨ad9,Yr,qs9,e9,-⟩:=(HI.out.m1 hc0 Xb).1;have HP:=aM (HI.out.build hc0 Xb (fun j hj=>by cases hj) (v:=.agg #[.string rs[k].rows[j].name,.slice ad9 qs9.length Yr]) (by rw[e9]));refine aa rfl fun K HK=>?_;clear WO HI;simp only[e3,e9];go_simp;exact HK.out _ _ ⟨_,by simp[upd,e3,e9],HP.out⟩
    ·cases ho;have hc1:=WO.out ⟨10,.data⟩ (by simp) rfl;obtain⟨eB,hM1,-,-⟩:=HI.out.m2 hc1 Xb;have Xu:=aM hM1;obtain⟨ad9,Yr,qs9,e9,-⟩:=hM1;replace eB:fq 10=.agg #[.string rs[k].rows[j].name,.slice ad9 qs9.length Yr]:=by rw[eB,e9]
     rw[e9]at Xu;have HP:=aM (HI.out.lay hc1 Xb (fun j hj=>by cases hj) (HRW.out.below ((Vv _ _).alloc (Vu _) _)) (C1.lay (rn:=rs[k].rows[j].name) Xu.out));refine aa rfl fun K HK=>?_;clear WO HI Xu;simp only[eB];go_simp;exact HK.out _ _ ⟨_,by simp[upd,eB,e9],HP.out⟩
    ·cases ho;have e1:fq 1=v2:=(HI.out.val 1 (by omega) (WO.out ⟨1,.data⟩ (by simp) rfl)).trans XQ.out.2.1;have hc2:=WO.out ⟨11,.data⟩ (by simp) rfl;obtain⟨b9,q9,e11,hnew9,hk9,hp9,XZ⟩:=(HI.out.m3 hc2 Xb).1;have hown:w'.ownsRow ((wo.heap.size+1)+1) 39 2 (v2) rows.length (rows.flatMap RR.cells):=bF Y0.out.own fun g hg=>XZ.block g (Y0.out.own.lt g hg).2;refine gP w' rfl rfl _ _ 34 rfl ((wo.heap.size+1)+1) 39 iR _ 2 40 underlying34 Yo.out.1 Yo.out.2.1 Yo.out.2.2.1 Yo.out.2.2.2 rfl (by decide) (v2) rows.length (rows.flatMap RR.cells) (by simp[Act.eval,e1]) hown ⟨b9,0,none⟩ 1 1 (RR.cells q9) (by simp[Act.eval,e11]) rfl hnew9 (by simp[RR.cells,RR.vs,Value.oneCell']) (by unfold maxLen;omega) (by omega) (by have:=XZ.size;have:=Zc.out;omega) ?_;intro v' w2 hown2 WZ YV;exact⟨v',by simp[upd,Act.put],HI.out.app hc2 Xb (fun j hj=>by cases hj) (HRW.out.heap WZ.size fun g hg=>WZ.block g (by have:=HRW.out.lt;rcases hg with rfl|rfl|rfl<;>omega) (fun e=>by have h1:=(Y0.out.own.lt g e.symm).1;have h2:=(HRO.out.own.lt g e.symm).2;rcases hg with rfl|rfl|rfl<;>omega)) (C3.app (W0:=W3) Y0.out Zc.out hk9 hp9 XZ hown2 WZ YV)⟩
    cases ho;have HP:=aM (HI.out.put (i:=13) (by omega) (fun j hj=>by cases hj) XQ.out.2.2.2.2.2.2.2.2.2.2.2.2.2.symm);refine aa rfl fun K HK=>?_;clear WO HI;dsimp only;go_simp;exact HK.out _ _ ⟨_,by simp[upd],HP.out⟩
   case finR =>
    rintro o ho l fq w' hall hI;obtain rfl:=Option.some.inj ho;obtain⟨YY,cap4,q4,e12,hRM4,hqp4,hb4⟩:=(hI.m4 (hall 12 (by omega))).1;have e13:fq 13=.pointer (some ⟨wo.heap.size+1,1,none⟩):=(hI.val 13 (.inr rfl) (hall 13 (by omega))).trans XQ.out.2.2.2.2.2.2.2.2.2.2.2.2.2;have n1:=hI.rf.n1;have fz:=hI.rf.fz;have HRW:=aM hI.rf;rw[e12]at hRM4;have HRM4:=aM hRM4;have HQP4:=aM hqp4;have XJ:=aM hb4;clear hRM4 hqp4 hb4 hall;refine aa rfl fun K HK=>?_;simp only[e12,e13];go_simp;refine HK.out _ _ ?_;clear ho HK K hI XQ e12 e13;obtain⟨y0,hy0⟩:∃y,y=fq 0:=⟨_,rfl⟩;rw[<-hy0];obtain⟨y1,hy1⟩:∃y,y=fq 1:=⟨_,rfl⟩;rw[<-hy1];obtain⟨y2,hy2⟩:∃y,y=fq 2:=⟨_,rfl⟩;rw[<-hy2];obtain⟨y3,hy3⟩:∃y,y=fq 3:=⟨_,rfl⟩;rw[<-hy3];obtain⟨y4,hy4⟩:∃y,y=fq 4:=⟨_,rfl⟩;rw[<-hy4];obtain⟨y5,hy5⟩:∃y,y=fq 5:=⟨_,rfl⟩;rw[<-hy5];obtain⟨y6,hy6⟩:∃y,y=fq 6:=⟨_,rfl⟩;rw[<-hy6];obtain⟨y7,hy7⟩:∃y,y=fq 7:=⟨_,rfl⟩;rw[<-hy7];obtain⟨y8,hy8⟩:∃y,y=fq 8:=⟨_,rfl⟩;rw[<-hy8];obtain⟨y9,hy9⟩:∃y,y=fq 9:=⟨_,rfl⟩;rw[<-hy9];obtain⟨y10,hy10⟩:∃y,y=fq 10:=⟨_,rfl⟩;rw[<-hy10];obtain⟨y11,hy11⟩:∃y,y=fq 11:=⟨_,rfl⟩;rw[<-hy11];clear hy0 hy1 hy2 hy3 hy4 hy5 hy6 hy7 hy8 hy9 hy10 hy11 fq l CV;have ZQ:Hid ((w'.setCell ⟨wo.heap.size+1,1,none⟩ (.slice YY (rows.length+1) cap4)).cell? ⟨wo.heap.size+1,0,none⟩=some (.string rs[k].name)/\(w'.setCell ⟨wo.heap.size+1,1,none⟩ (.slice YY (rows.length+1) cap4)).cell? ⟨wo.heap.size+1,1,none⟩=some (.slice YY (rows.length+1) cap4)/\(w'.setCell ⟨wo.heap.size+1,1,none⟩ (.slice YY (rows.length+1) cap4)).frozen? ⟨wo.heap.size+1,1,none⟩=false):=⟨by rw[gV (by omega)];exact HRW.out.n0,mD n1,by simpa using fz⟩;have YR:Hid (jX (w'.setCell ⟨wo.heap.size+1,1,none⟩ (.slice YY (rows.length+1) cap4)) (wo.heap.size+2) (.slice YY (rows.length+1) cap4) (rows++[q4])):=WP.heap qF HRM4.out (by simp) fun g hg=>Below.heap_setCell _ _ _ g (by have:=(WP.lt qF HRM4.out hg).1;show g≠wo.heap.size+1;omega);have HQX:Hid (bQ (rows++[q4])=(((bQ rs[k].rows).map (MZ f rs[k].name)).take (j+1))):=by
     show _=_;rw[IB,HRQ.out,HQP4.out,Vx (by rw[Wp,dz];exact hjt)];simp[bQ,MZ,RR.p]
    have XL:Hid (Below (wo.heap.size+1) W2 (w'.setCell ⟨wo.heap.size+1,1,none⟩ (.slice YY (rows.length+1) cap4))):=((HB3.out.trans (Xi.out.mono (by omega))).trans (XJ.out.mono (by omega))).setCell (by show _<=wo.heap.size+1;omega) _;clear n1 fz HRW HRM4 XJ HRF Y0 HRO HN HR;go_wp2_with fail;go_roundw;case rel=>exact⟨j+1,.slice YY (rows.length+1) cap4,rows++[q4],by omega,by go_num,ZQ,YR,HQX,XL⟩
    simp[intOf]<;>omega
  obtain rfl:j=rs[k].rows.length:=by omega
  have hown2:=HR.out.own;obtain⟨ZP,cap2,rfl⟩:=ik hown2;obtain⟨q,hq⟩:∃q:TR,q=⟨rs[k].name,rows,ZP,cap2⟩:=⟨_,rfl⟩;have HQP:Hid (q.p=RZ f rs[k].p):=by
   show _=_;rw[hq];have e:=HRQ.out;rw[VZ (by rw[Wp,dz];exact Vu _)]at e;simp[TR.p,RZ,e]
  obtain⟨W4,Xn⟩:=eQx (wi.alloc (.cells #[.string rs[k].name,.slice ZP rows.length cap2] 36));have YD:=qC Xn;have XY:Hid (ag wo W4):=XI.out.trans (YD.out.mono XI.out.size);have XM:Hid (∀j u,(TR.cells q)[j]?=some u->W4.cell? ((⟨wi.heap.size,0,none⟩:Addr).add j)=some u):=by rw[Xn,hq];exact nu wi _ _ _
  have HKQ:Hid (kT W4 (wo.heap.size+2) q):=by rw[hq];exact WP.below qF HR.out YD.out
  have YX:Hid (W4.ownsRow w.heap.size 36 2 u5 qs.length (qs.flatMap TR.cells)):=bF HX.out.own fun g hg=>XY.out.block g (HX.out.own.lt g hg).2;have HWW:Hid (w.heap.size<=wo.heap.size):=HB.out.size;obtain⟨n0,n1,-⟩:=HN.out;clear hq hown2;go_wp2_with(at_builtin;go_must (rw[<-Xn];clear Xn;refine wpList_append_own_at _ rfl _ _ 24 rfl w.heap.size 36 iT (.agg #[.string ⟨#[]⟩,.slice none 0 0]) 2 40 underlying24 HIT.out.1 HIT.out.2.1 HIT.out.2.2.1 HIT.out.2.2.2 rfl (by decide) u5 qs.length (qs.flatMap TR.cells) rfl YX.out ⟨wi.heap.size,0,none⟩ 1 1 (TR.cells q) rfl rfl XM.out (by simp[TR.cells,TR.vs,Value.oneCell']) (by unfold maxLen;omega) (by omega) (Vz HWW.out XY.out.size) ?_));intro v5 w5 hown5 hgr5 _ hv5;have HX5:Hid (eZ w5 w.heap.size v5 (qs++[q])):=WP.snocN ko HX.out XY.out hown5 hgr5 (hv5.imp id fun e=>⟨_,e,Vu _⟩) (jX.mono HKQ.out (by have:=HWW.out;omega)) (fun g hg=>by have:=(ko.lt W4 _ q HKQ.out g hg).1;omega);have HQ5:Hid (ae (qs++[q])=(AB f (ae rs)).take (k+1)):=by
   show _=_;rw[IC,HQ.out,HQP.out,Vx (by simp[AB,df];exact hlt)];simp[AB,ae]
  have Xg:Hid (ag w w5):=(HB.out.trans (XY.out.mono HB.out.size)).grown hgr5 (Vz HWW.out XY.out.size) (fun g hg=>(HX.out.own.lt g hg).1);clear hown5 hgr5 hv5 n0 n1 YX XM HKQ HN HR;go_wp2;go_roundw;case rel=>exact⟨k+1,qs++[q],by omega,by go_num,HX5,HQ5,Xg⟩
  simp[intOf]<;>omega
 obtain rfl:k=rs.length:=by omega
 have HF:Hid (ae qs=AB f (ae rs)):=by
  show _=_;rw[HQ.out,VZ (by simp[AB,df])]
 go_wp2;go_ret;exact⟨_,qs,rfl,HX.out,HF.out,HB.out⟩
def fM(a b c d:ByteArray):Bool:=a.toList==c.toList&&b.toList==d.toList
def Q0(typ rel:ByteArray)(t:TR):List RR:=t.rows.filter fun r=>!fM typ rel t.name r.name
def Q3(typ rel:ByteArray)(t:Ty):Ty:=⟨t.name,t.rels.filter fun r=>!fM typ rel t.name r.name⟩
def jc(typ rel:ByteArray)(ts:Q0b):List Ty:=ts.map (Q3 typ rel)
def kW(w:World)(base:Nat)(t:TR):Prop:=w.ownsRow base 39 2 t.vs t.rows.length (t.rows.flatMap RR.cells)
def iW(t:TR)(g:Nat):Prop:=t.vs.ownBlock=some g
theorem Vf:Kid kW iW where
 heap w w' base q h hs hh:=bF h hh
 lt w base q h g hg:=h.lt g hg
abbrev UD:=WP 36 2 TR.cells kW iW
theorem Q4(typ rel:bi)(t:TR):bQ (Q0 typ rel t)=(bQ t.rows).filter fun r=>!fM typ rel t.name r.name:=by
 unfold Q0 bQ;rw[List.filter_map];rfl
theorem SC{w:af}{base cap:Nat}{ad:Q02}{rows:Q07}(h:w.ownsRow base 39 2 (.slice ad rows.length cap) rows.length (rows.flatMap RR.cells))(hk:∀r∈rows,r.ok w):F5 w ad rows:=by
 by_cases hz:rows=[]
 ·exact .inl hz
 rcases h.2 with⟨-,h0⟩|⟨g,cap,cur,e,-⟩
 ·exact absurd (VM.1 h0) hz
 injection e with e1 e2 e3;rw[e1]at h ⊢;refine .inr ⟨g,0,rfl,(h.lt g rfl).2,fun i hi=>?_,hk⟩;have hl:(rows.flatMap RR.cells).length=rows.length*2:=kr (fun _=>rfl) _;have key:∀j,j<2->w.cell? ⟨g,0+i*2+j,none⟩=(RR.cells rows[i])[j]?:=fun j hj=>by
  rw[h.cellAt (0+i*2+j) (by omega),<-l6 (fun _=>rfl) rows i hi j hj,VW]
 exact⟨key 0 (by omega),key 1 (by omega)⟩
theorem UD.read{w:af}{base:Nat}{v:Value}{rs:Q06}(h:UD w base v rs)(hk:∀t∈rs,∀r∈t.rows,r.ok w):∃ad cap,v=.slice ad rs.length cap/\jK w ad rs:=by
 have hr:∀t∈rs,t.ok w:=fun t ht=>SC (h.kid t ht) (hk t ht);rcases h.own.2 with⟨rfl,h0⟩|⟨g,cap,cur,rfl,-⟩
 ·exact⟨none,0,by rw[h0],.inl (VM.1 h0)⟩
 have h3:=h.own;refine⟨some ⟨g,0,none⟩,cap,rfl,.inr ⟨g,0,rfl,(h3.lt g rfl).2,fun i hi=>?_,hr⟩⟩;have hl:(rs.flatMap TR.cells).length=rs.length*2:=kr (fun _=>rfl) _;have key:∀j,j<2->w.cell? ⟨g,0+i*2+j,none⟩=(TR.cells rs[i])[j]?:=fun j hj=>by
  rw[h3.cellAt (0+i*2+j) (by omega),<-l6 (fun _=>rfl) rs i hi j hj,VW]
 exact⟨key 0 (by omega),key 1 (by omega)⟩
def nW(typ rel:ByteArray)(rs qs:Q06):Prop:=qs.map (fun t=>(t.name,t.rows))=rs.map fun t=>(t.name,Q0 typ rel t)
theorem nW.eqT{typ rel:ByteArray}{rs qs:Q06}(h:nW typ rel rs qs):ae qs=jc typ rel (ae rs):=by
 have e1:∀qs:List TR,ae qs=(qs.map fun t=>(t.name,t.rows)).map fun x=>(⟨x.1,bQ x.2⟩:Ty):=fun qs=>by simp[ae,TR.p]
 rw[e1,h,List.map_map];unfold jc ae;rw[List.map_map];refine List.map_congr_left fun t ht=>?_;simp only[Function.comp,Q4,Q3,TR.p]
theorem nW.mem{typ rel:ByteArray}{rs qs:Q06}(h:nW typ rel rs qs):∀t∈qs,∃s∈rs,t.name=s.name/\t.rows=Q0 typ rel s:=by
 intro t ht;have h1:(t.name,t.rows)∈qs.map (fun t=>(t.name,t.rows)):=VE.2 ⟨t,ht,rfl⟩;rw[h]at h1;obtain⟨s,hs,e⟩:=VE.1 h1;injection e with e1 e2;exact⟨s,hs,e1.symm,e2.symm⟩
theorem nW.len{typ rel:ByteArray}{rs qs:Q06}(h:nW typ rel rs qs):qs.length=rs.length:=by
 have:=congrArg List.length h;simpa using this
theorem IE{w:af}{base base' size n:Nat}{e:TypeId}{v:Value}{xs:Q03}(h:w.ownsRow base e size v n xs)(hb:base'<=base):w.ownsRow base' e size v n xs:=by
 refine⟨h.1,?_⟩;rcases h.2 with hl|⟨g,cap,cur,e,h1,h2⟩
 ·exact .inl hl
 exact .inr ⟨g,cap,cur,e,Vz hb h1,h2⟩
theorem FP{a b c d:ByteArray}(h:fM a b c d=false):((a.toList==c.toList)=true/\(b.toList==d.toList)=false)\/(a.toList==c.toList)=false:=by
 unfold fM at h;cases h1:(a.toList==c.toList);case false=>exact .inr rfl
 rw[h1]at h;exact .inl ⟨rfl,by simpa using h⟩
theorem IG(typ rel:bi)(ad:Q02)(cap:Nat)(rs:Q06)(w:af)(hs:jK w ad rs)(hn6:rs.length<=6)(XA:∀t∈rs,t.rows.length<=6):
  Calls prog 98 #[.slice ad rs.length cap,.agg #[.string typ,.string rel]] w fun e w'=>∃(v:Value) (qs:Q06),e=.returned v/\UD w' w.heap.size v qs/\nW typ rel rs qs/\ag w w':=by
 obtain⟨iR,ZV,zR0,zR1,zR2⟩:=info_parts (P:=prog) (e:=39) (z:=.agg #[.string ⟨#[]⟩,.slice none 0 0]) (size:=2) (bytes:=40) (by kernel_rfl);obtain⟨iT,Zg,Zh,Zi,Zj⟩:=info_parts (P:=prog) (e:=36) (z:=.agg #[.string ⟨#[]⟩,.slice none 0 0]) (size:=2) (bytes:=40) (by kernel_rfl);have Yo:Hid (prog.info? 39=some iR/\iR.zero=some (.agg #[.string ⟨#[]⟩,.slice none 0 0])/\iR.size=2/\iR.bytes=40):=⟨ZV,zR0,zR1,zR2⟩;have HIT:Hid (prog.info? 36=some iT/\iT.zero=some (.agg #[.string ⟨#[]⟩,.slice none 0 0])/\iT.size=2/\iT.bytes=40):=⟨Zg,Zh,Zi,Zj⟩;have HS:=az hs;have X0:Hid (∀t∈rs,t.rows.length<=6):=XA;obtain⟨w00,hw00⟩:∃x,x=w:=⟨_,rfl⟩;obtain⟨W1,hW1⟩:=eQx (w.alloc (.cells #[.string typ,.string rel] 146));have HB1:=qC hW1;have HK1:Hid (W1.cell? ⟨w.heap.size,0,none⟩=some (.string typ)/\W1.cell? ⟨w.heap.size,1,none⟩=some (.string rel)/\w.heap.size<W1.heap.size):=by show _/\_;rw[hW1];exact⟨by simp,by simp,by simp⟩
 clear hs XA hw00 ZV zR0 zR1 zR2 Zg Zh Zi Zj;go_enter func98,ntmps98;go_wp2_with fail;rw[<-hW1];clear hW1;go_loopw[5,13] (fun v i wr=>∃(k:Nat) (qs:Q06),k<=rs.length/\i=.int .i64 k/\Hid (UD wr (w.heap.size+1) v qs)/\Hid (nW typ rel (rs.take k) qs)/\Hid (Below (w.heap.size+1) W1 wr)) (fun _ i _=>rs.length-(intOf i).toNat);case atStart=>exact⟨0,[],Vy _,rfl,mI _ _,by show nW _ _ _ _;simp[nW],Vv _ _⟩
 obtain⟨k,qs,hk,rfl,HX,HQ,HBK⟩:=hrel;have HB:Hid (ag w wr):=HB1.out.trans (HBK.out.mono (Nat.le_succ _));have hkw:w.heap.size+1<=wr.heap.size:=by have:=HBK.out.size;have:=HK1.out.2.2;omega
 obtain⟨wo,hwo⟩:=eQx wr;subst hwo;have HQL:Hid (qs.length=k):=by
  show _=_;rw[HQ.out.len,V9];omega
 have hql6:qs.length<=6:=by rw[HQL.out];omega
 by_cases hlt:k<rs.length
 ·rcases HS.out.below HB.out with hnil|⟨b,off,WR,hb,hr,hok⟩
  ·rw[hnil]at hlt;simp at hlt
  obtain⟨t0,t1⟩:=hr k hlt;have YW:Hid (rs[k]∈rs):=Vs hlt;have Xc:Hid (rs[k].ok wo):=hok rs[k] (Vs hlt);have XA:rs[k].rows.length<=6:=X0.out _ (Vs hlt);have hk1:=bI k;have hk2:(k:Int)<(rs.length:Int):=by omega
  obtain⟨W2,hW2⟩:=eQx ((wo.alloc (.cells #[.string rs[k].name,.slice rs[k].ad rs[k].rows.length rs[k].cap] 36)).alloc (.cells #[.string rs[k].name,.slice none 0 0] 36));have HB2:Hid (ag wo W2):=by show Below _ _ _;rw[hW2];exact((Vv _ _).alloc (Vu _) _).alloc (by simp) _
  have WQ:Hid (W2.cell? ⟨wo.heap.size,0,none⟩=some (.string rs[k].name)/\W2.cell? ⟨wo.heap.size,1,none⟩=some (.slice rs[k].ad rs[k].rows.length rs[k].cap)/\W2.cell? ⟨wo.heap.size+1,0,none⟩=some (.string rs[k].name)/\W2.cell? ⟨wo.heap.size+1,1,none⟩=some (.slice none 0 0)/\W2.frozen? ⟨wo.heap.size+1,1,none⟩=false/\W2.heap.size=wo.heap.size+2):=by
   show _/\_;rw[hW2];have hz:(wo.alloc (.cells #[.string rs[k].name,.slice rs[k].ad rs[k].rows.length rs[k].cap] 36)).heap.size=wo.heap.size+1:=by simp
   have hc:=fun j=>World.cell?_alloc_mark (wo.alloc (.cells #[.string rs[k].name,.slice rs[k].ad rs[k].rows.length rs[k].cap] 36)) #[.string rs[k].name,.slice none 0 0] 36 (0,0) j;rw[hz]at hc;exact⟨by simp,by simp,by rw[hc 0];rfl,by rw[hc 1];rfl,by simp,by simp⟩
  have p1:=WQ.out.2.1;rw[WR];clear hr hok WR hb;go_wp2_with fail;rw[<-hW2];clear hW2 t0 t1;have hTl:wo.heap.size<W2.heap.size:=by have:=WQ.out.2.2.2.2.2;omega
  go_loopw[23] (fun i wr=>∃(j:Nat) (v2:Value) (rows:Q07),j<=rs[k].rows.length/\i=.int .i64 j/\Hid (wr.cell? ⟨wo.heap.size+1,0,none⟩=some (.string rs[k].name)/\wr.cell? ⟨wo.heap.size+1,1,none⟩=some v2/\wr.frozen? ⟨wo.heap.size+1,1,none⟩=false)/\Hid (wr.ownsRow (wo.heap.size+2) 39 2 v2 rows.length (rows.flatMap RR.cells))/\Hid (rows=(rs[k].rows.take j).filter fun r=>!fM typ rel rs[k].name r.name)/\Hid (Below (wo.heap.size+1) W2 wr)) (fun i _=>rs[k].rows.length-(intOf i).toNat);case atStart=>exact⟨0,.slice none 0 0,[],Vy _,rfl,⟨WQ.out.2.2.1,WQ.out.2.2.2.1,WQ.out.2.2.2.2.1⟩,World.ownsRow_nil _ _ _ _,by show _=_;simp,Vv _ _⟩
  obtain⟨j,v2,rows,hj,rfl,HN,HR,HRQ,HB3⟩:=hrel;obtain⟨wi,hwi⟩:=eQx wr;subst hwi;have HZ2:Hid (W2.heap.size=wo.heap.size+2):=WQ.out.2.2.2.2.2;have XI:Hid (ag wo wi):=HB2.out.trans (HB3.out.mono (Nat.le_succ _));have Zo:Hid (rows.length<=j):=by
   show _<=_;rw[HRQ.out];exact Vz (List.length_filter_le _ _) (by rw[V9];omega)
  have hrl6:rows.length<=6:=by have:=Zo.out;omega
  by_cases hjt:j<rs[k].rows.length
  ·rcases Xc.out.below XI.out with hnil|⟨b2,WV,XC,hb2,hr2,hok2⟩
   ·rw[hnil]at hjt;simp at hjt
   obtain⟨s0,s1⟩:=hr2 j hjt;have HQM:Hid (rs[k].rows[j]∈rs[k].rows):=Vs hjt;have HOE:Hid (jo wi rs[k].rows[j].ad rs[k].rows[j].rows):=hok2 _ (Vs hjt);have hj1:=bI j;have hj2:(j:Int)<(rs[k].rows.length:Int):=by omega
   obtain⟨W3,hW3⟩:=eQx (wi.alloc (.cells #[.string rs[k].rows[j].name,.slice rs[k].rows[j].ad rs[k].rows[j].rows.length rs[k].rows[j].cap] 39));have Xi:=qC hW3;have hTw:wo.heap.size+2<=wi.heap.size:=by have:=HB3.out.size;have:=HZ2.out;omega
   have HRF:Hid (RFs (wo.heap.size+1) wi.heap.size wo.heap.size v2 rs[k].name rs[k].rows[j].name (.slice rs[k].rows[j].ad rs[k].rows[j].rows.length rs[k].rows[j].cap) W3):=by
    have h1:wo.heap.size+1<wi.heap.size:=by omega
    have h2:wo.heap.size<wi.heap.size:=by omega
    have ht:wi.cell? ⟨wo.heap.size,0,none⟩=some (.string rs[k].name):=by rw[HB3.out.cell (p:=⟨wo.heap.size,0,none⟩) (WL _)];exact WQ.out.1
    refine⟨kept Xi.out h1 HN.out.1,kept Xi.out h1 HN.out.2.1,qM Xi.out h1 HN.out.2.2,by rw[hW3];simp,by rw[hW3];simp,kept Xi.out h2 ht,?_⟩;rw[hW3];simp;omega
   have Y0:Hid (W3.ownsRow (wo.heap.size+2) 39 2 v2 rows.length (rows.flatMap RR.cells)):=bF HR.out fun g hg=>Xi.out.block g (HR.out.lt g hg).2;have x0:wi.cell? ⟨wo.heap.size,0,none⟩=some (.string rs[k].name):=by rw[HB3.out.cell (p:=⟨wo.heap.size,0,none⟩) (WL _)];exact WQ.out.1
   have x3:=HN.out.2.1;have x4:=HN.out.2.2;have y0:wo.heap.size<wi.heap.size:=by omega
   have y1:wo.heap.size+1<wi.heap.size:=by omega
   have y2:w.heap.size<wi.heap.size:=by omega
   have HKW:Hid (∀o,wi.cell? ⟨w.heap.size,o,none⟩=W1.cell? ⟨w.heap.size,o,none⟩):=fun o=>by
    rw[XI.out.cell (p:=⟨w.heap.size,o,none⟩) (by show w.heap.size<_;omega),HBK.out.cell (p:=⟨w.heap.size,o,none⟩) (WL _)]
   have k0:=(HKW.out 0).trans HK1.out.1;have k1:=(HKW.out 1).trans HK1.out.2.1;have Zc:Hid (wo.heap.size+2<=W3.heap.size):=by have:=Xi.out.size;show _<=_;omega
   rw[XC];clear hr2 hok2 XC hb2;have hW3s:wi.heap.size<W3.heap.size:=HRF.out.lt.2.1;cases he:fM typ rel rs[k].name rs[k].rows[j].name;case true=>
    have HSTP:Hid (rows=(rs[k].rows.take (j+1)).filter fun r=>!fM typ rel rs[k].name r.name):=by
     show _=_;rw[Vx hjt,WF,<-HRQ.out];simp[he]
    have h2:typ.toList=rs[k].name.toList/\rel.toList=rs[k].rows[j].name.toList:=by unfold fM at he;simpa using he
    have h3:(typ.toList==rs[k].name.toList)=true:=by simp[h2.1]
    have h4:(rel.toList==rs[k].rows[j].name.toList)=true:=by simp[h2.2]
    have XL:Hid (Below (wo.heap.size+1) W2 W3):=HB3.out.trans (Xi.out.mono (by omega));have ZQ:Hid (W3.cell? ⟨wo.heap.size+1,0,none⟩=some (.string rs[k].name)/\W3.cell? ⟨wo.heap.size+1,1,none⟩=some v2/\W3.frozen? ⟨wo.heap.size+1,1,none⟩=false):=⟨HRF.out.n0,HRF.out.n1,HRF.out.fz⟩;clear h2 he;go_wp2;rw[<-hW3];go_roundw;case rel=>exact⟨j+1,v2,rows,by omega,by go_num,ZQ,Y0,HSTP,XL⟩
    simp[intOf]<;>omega
   have HSTP:Hid (rows++[rs[k].rows[j]]=(rs[k].rows.take (j+1)).filter fun r=>!fM typ rel rs[k].name r.name):=by
    show _=_;rw[Vx hjt,WF,<-HRQ.out];simp[he]
   have HT:=FP he;clear he;obtain⟨W4,Xn⟩:=eQx ((wi.alloc (.cells #[.string rs[k].rows[j].name,.slice rs[k].rows[j].ad rs[k].rows[j].rows.length rs[k].rows[j].cap] 39)).alloc (.cells #[.string rs[k].rows[j].name,.slice rs[k].rows[j].ad rs[k].rows[j].rows.length rs[k].rows[j].cap] 39));have YD:Hid (ag W3 W4):=by show Below _ _ _;rw[Xn,<-hW3];exact(Vv _ _).alloc (Vu _) _
   have HNEW:Hid (∀j' u,(RR.cells rs[k].rows[j])[j']?=some u->W4.cell? ((⟨wi.heap.size+1,0,none⟩:Addr).add j')=some u):=by
    have hs:W3.heap.size=wi.heap.size+1:=by rw[hW3];simp
    rw[Xn,<-hW3,<-hs];exact nu W3 _ _ _
   have YX:Hid (W4.ownsRow (wo.heap.size+2) 39 2 v2 rows.length (rows.flatMap RR.cells)):=bF Y0.out fun g hg=>YD.out.block g (Y0.out.lt g hg).2;have HRF4:=az (HRF.out.below YD.out);rcases HT with⟨h3,h4⟩|h3
   ·go_wp2_with(at_builtin;go_must (rw[<-Xn];clear Xn;refine wpList_append_own_at _ rfl _ _ 34 rfl (wo.heap.size+2) 39 iR (.agg #[.string ⟨#[]⟩,.slice none 0 0]) 2 40 underlying34 Yo.out.1 Yo.out.2.1 Yo.out.2.2.1 Yo.out.2.2.2 rfl (by decide) v2 rows.length (rows.flatMap RR.cells) rfl YX.out ⟨wi.heap.size+1,0,none⟩ 1 1 (RR.cells rs[k].rows[j]) rfl rfl HNEW.out (by simp[RR.cells,RR.vs,Value.oneCell']) (by unfold maxLen;omega) (by omega) (Vz Zc.out YD.out.size) ?_));intro v5 w5 hown5 hgr5 _ hv5;obtain⟨Yi,cap5,rfl⟩:=ik hown5;have HRF5:Hid (RFs (wo.heap.size+1) wi.heap.size wo.heap.size v2 rs[k].name rs[k].rows[j].name (.slice rs[k].rows[j].ad rs[k].rows[j].rows.length rs[k].rows[j].cap) w5):=HRF4.out.heap hgr5.size fun g hg=>hgr5.block g (by have:=HRF4.out.lt;rcases hg with rfl|rfl|rfl<;>omega) (fun e=>by have h1:=(HR.out.lt g e.symm).1;have h2:=(HR.out.lt g e.symm).2;rcases hg with rfl|rfl|rfl<;>omega);have z3:=HRF5.out.n1;have z4:=HRF5.out.fz;have ZQ:Hid ((w5.setCell ⟨wo.heap.size+1,1,none⟩ (.slice Yi (rows.length+1) cap5)).cell? ⟨wo.heap.size+1,0,none⟩=some (.string rs[k].name)/\(w5.setCell ⟨wo.heap.size+1,1,none⟩ (.slice Yi (rows.length+1) cap5)).cell? ⟨wo.heap.size+1,1,none⟩=some (.slice Yi (rows.length+1) cap5)/\(w5.setCell ⟨wo.heap.size+1,1,none⟩ (.slice Yi (rows.length+1) cap5)).frozen? ⟨wo.heap.size+1,1,none⟩=false):=⟨by rw[gV (by omega)];exact HRF5.out.n0,mD z3,by simpa using z4⟩;have YR:Hid ((w5.setCell ⟨wo.heap.size+1,1,none⟩ (.slice Yi (rows.length+1) cap5)).ownsRow (wo.heap.size+2) 39 2 (.slice Yi (rows.length+1) cap5) (rows++[rs[k].rows[j]]).length ((rows++[rs[k].rows[j]]).flatMap RR.cells)):=by
     show World.ownsRow _ _ _ _ _ _ _;rw[VD,VT,WA];simp only[V6,List.flatMap_nil,Wt];exact bF hown5 fun g hg=>Below.heap_setCell _ _ _ g (by have:=(hown5.lt g hg).1;show g≠wo.heap.size+1;omega)
    have XL:Hid (Below (wo.heap.size+1) W2 (w5.setCell ⟨wo.heap.size+1,1,none⟩ (.slice Yi (rows.length+1) cap5))):=(((HB3.out.trans (Xi.out.mono (by omega))).trans (YD.out.mono (by omega))).grown hgr5 (by have:=YD.out.size;have:=Zc.out;omega) (fun g hg=>by have:=(HR.out.lt g hg).1;omega)).setCell (by show _<=wo.heap.size+1;omega) _;clear hown5 hgr5 hv5 x0 x3 x4 k0 k1 y0 y1 y2 hW3;go_wp2;go_roundw;case rel=>exact⟨j+1,.slice Yi (rows.length+1) cap5,rows++[rs[k].rows[j]],by omega,by go_num,ZQ,YR,HSTP,XL⟩
    simp[intOf]<;>omega
   go_wp2_with(at_builtin;go_must (rw[<-Xn];clear Xn;refine wpList_append_own_at _ rfl _ _ 34 rfl (wo.heap.size+2) 39 iR (.agg #[.string ⟨#[]⟩,.slice none 0 0]) 2 40 underlying34 Yo.out.1 Yo.out.2.1 Yo.out.2.2.1 Yo.out.2.2.2 rfl (by decide) v2 rows.length (rows.flatMap RR.cells) rfl YX.out ⟨wi.heap.size+1,0,none⟩ 1 1 (RR.cells rs[k].rows[j]) rfl rfl HNEW.out (by simp[RR.cells,RR.vs,Value.oneCell']) (by unfold maxLen;omega) (by omega) (Vz Zc.out YD.out.size) ?_));intro v5 w5 hown5 hgr5 _ hv5;obtain⟨Yi,cap5,rfl⟩:=ik hown5;have HRF5:Hid (RFs (wo.heap.size+1) wi.heap.size wo.heap.size v2 rs[k].name rs[k].rows[j].name (.slice rs[k].rows[j].ad rs[k].rows[j].rows.length rs[k].rows[j].cap) w5):=HRF4.out.heap hgr5.size fun g hg=>hgr5.block g (by have:=HRF4.out.lt;rcases hg with rfl|rfl|rfl<;>omega) (fun e=>by have h1:=(HR.out.lt g e.symm).1;have h2:=(HR.out.lt g e.symm).2;rcases hg with rfl|rfl|rfl<;>omega);have z3:=HRF5.out.n1;have z4:=HRF5.out.fz;have ZQ:Hid ((w5.setCell ⟨wo.heap.size+1,1,none⟩ (.slice Yi (rows.length+1) cap5)).cell? ⟨wo.heap.size+1,0,none⟩=some (.string rs[k].name)/\(w5.setCell ⟨wo.heap.size+1,1,none⟩ (.slice Yi (rows.length+1) cap5)).cell? ⟨wo.heap.size+1,1,none⟩=some (.slice Yi (rows.length+1) cap5)/\(w5.setCell ⟨wo.heap.size+1,1,none⟩ (.slice Yi (rows.length+1) cap5)).frozen? ⟨wo.heap.size+1,1,none⟩=false):=⟨by rw[gV (by omega)];exact HRF5.out.n0,mD z3,by simpa using z4⟩;have YR:Hid ((w5.setCell ⟨wo.heap.size+1,1,none⟩ (.slice Yi (rows.length+1) cap5)).ownsRow (wo.heap.size+2) 39 2 (.slice Yi (rows.length+1) cap5) (rows++[rs[k].rows[j]]).length ((rows++[rs[k].rows[j]]).flatMap RR.cells)):=by
    show World.ownsRow _ _ _ _ _ _ _;rw[VD,VT,WA];simp only[V6,List.flatMap_nil,Wt];exact bF hown5 fun g hg=>Below.heap_setCell _ _ _ g (by have:=(hown5.lt g hg).1;show g≠wo.heap.size+1;omega)
   have XL:Hid (Below (wo.heap.size+1) W2 (w5.setCell ⟨wo.heap.size+1,1,none⟩ (.slice Yi (rows.length+1) cap5))):=(((HB3.out.trans (Xi.out.mono (by omega))).trans (YD.out.mono (by omega))).grown hgr5 (by have:=YD.out.size;have:=Zc.out;omega) (fun g hg=>by have:=(HR.out.lt g hg).1;omega)).setCell (by show _<=wo.heap.size+1;omega) _;clear hown5 hgr5 hv5 x0 x3 x4 k0 k1 y0 y1 y2 hW3;go_wp2;go_roundw;case rel=>exact⟨j+1,.slice Yi (rows.length+1) cap5,rows++[rs[k].rows[j]],by omega,by go_num,ZQ,YR,HSTP,XL⟩
   simp[intOf]<;>omega
  obtain rfl:j=rs[k].rows.length:=by omega
  have hown2:=HR.out;obtain⟨ZP,cap2,rfl⟩:=ik hown2;obtain⟨q,hq⟩:∃q:TR,q=⟨rs[k].name,rows,ZP,cap2⟩:=⟨_,rfl⟩;have HQP:Hid (q.name=rs[k].name/\q.rows=Q0 typ rel rs[k]):=by
   show _/\_;rw[hq];have e:=HRQ.out;rw[VI]at e;exact⟨rfl,e⟩
  obtain⟨W4,Xn⟩:=eQx (wi.alloc (.cells #[.string rs[k].name,.slice ZP rows.length cap2] 36));have YD:=qC Xn;have XY:Hid (ag wo W4):=XI.out.trans (YD.out.mono XI.out.size);have XM:Hid (∀j u,(TR.cells q)[j]?=some u->W4.cell? ((⟨wi.heap.size,0,none⟩:Addr).add j)=some u):=by rw[Xn,hq];exact nu wi _ _ _
  have HKQ:Hid (kW W4 (wo.heap.size+2) q):=by rw[hq];exact bF HR.out fun g hg=>YD.out.block g (HR.out.lt g hg).2
  have YX:Hid (W4.ownsRow (w.heap.size+1) 36 2 u5 qs.length (qs.flatMap TR.cells)):=bF HX.out.own fun g hg=>XY.out.block g (HX.out.own.lt g hg).2;have HWW:Hid (w.heap.size+1<=wo.heap.size):=hkw;obtain⟨n0,n1,-⟩:=HN.out;clear hq hown2;go_wp2_with(at_builtin;go_must (rw[<-Xn];clear Xn;refine wpList_append_own_at _ rfl _ _ 24 rfl (w.heap.size+1) 36 iT (.agg #[.string ⟨#[]⟩,.slice none 0 0]) 2 40 underlying24 HIT.out.1 HIT.out.2.1 HIT.out.2.2.1 HIT.out.2.2.2 rfl (by decide) u5 qs.length (qs.flatMap TR.cells) rfl YX.out ⟨wi.heap.size,0,none⟩ 1 1 (TR.cells q) rfl rfl XM.out (by simp[TR.cells,TR.vs,Value.oneCell']) (by unfold maxLen;omega) (by omega) (Vz HWW.out XY.out.size) ?_));intro v5 w5 hown5 hgr5 _ hv5;have HX5:Hid (UD w5 (w.heap.size+1) v5 (qs++[q])):=WP.snocN Vf HX.out XY.out hown5 hgr5 (hv5.imp id fun e=>⟨_,e,Vu _⟩) (IE HKQ.out (by have:=HWW.out;omega)) (fun g hg=>by have:=(Vf.lt W4 _ q HKQ.out g hg).1;omega);have HQ5:Hid (nW typ rel (rs.take (k+1)) (qs++[q])):=by
   show nW _ _ _ _;unfold nW;rw[Vx hlt,Wl,Wl,HQ.out];simp[HQP.out.1,HQP.out.2]
  have Xg:Hid (Below (w.heap.size+1) W1 w5):=(HBK.out.trans (XY.out.mono (by omega))).grown hgr5 (Vz HWW.out XY.out.size) (fun g hg=>(HX.out.own.lt g hg).1);clear hown5 hgr5 hv5 n0 n1 YX XM HKQ HN HR;go_wp2;go_roundw;case rel=>exact⟨k+1,qs++[q],by omega,by go_num,HX5,HQ5,Xg⟩
  simp[intOf]<;>omega
 obtain rfl:k=rs.length:=by omega
 have HF:Hid (nW typ rel rs qs):=by have:=HQ.out;rwa [VI]at this
 go_wp2;go_ret;exact⟨_,qs,rfl,WP.mono HX.out (Nat.le_succ _) (fun q hq=>IE hq (Nat.le_succ _)),HF.out,HB.out⟩
def xe(p:ByteArray->ByteArray->Ex->Bool)(tn rn:ByteArray)(e:Ex):Bool:=decide (e.kind=3)&&p tn rn e
def Ro(p:ByteArray->ByteArray->Ex->Bool)(tn:ByteArray)(r:Rl):Bool:=r.expr.any (xe p tn r.name)
def Rp(p:ByteArray->ByteArray->Ex->Bool)(t:Ty):Bool:=t.rels.any (Ro p t.name)
def FQ(p:ByteArray->ByteArray->Ex->Bool)(ts:Q0b):Bool:=ts.any (Rp p)
theorem KP{α:Type}{f:α->Bool}{xs:List α}{k:Nat}(h:k<xs.length)(hf:f xs[k]=true):xs.any f=true:=VX.2 ⟨_,Vs h,hf⟩
theorem FR{α:Type}{f:α->Bool}{xs:List α}{k:Nat}(h:∀i (hi:i<xs.length),i<k->f xs[i]=false)(hk:xs.length<=k):xs.any f=false:=by
 rw[List.any_eq_false];intro x hx;obtain⟨i,hi,rfl⟩:=V4 hx;rw[h i hi (by omega)];simp
theorem FT(FC:Nat)(rc cp:Array Value)(p:ByteArray->ByteArray->Ex->Bool)(ad:Q02)(cap:Nat)(rs:Q06)(w:af)(hs:jK w ad rs)(hn6:rs.length<=6)(XA:∀t∈rs,t.rows.length<=6)(he15:∀t∈rs,∀q∈t.rows,q.rows.length<=15)
  (hrun:∀(xs:Array Value) (u:World),(callFunc FC xs).run prog u=.ok (.enter FC xs) u)
  (hp:∀t∈rs,∀q∈t.rows,∀x∈q.rows,x.e.kind=3->∀w1:World,ag w w1->Calls prog FC (rc++(#[.agg #[.string t.name,.string q.name],x.val]++cp)) w1 fun e w'=>e=.returned (.bool (p t.name q.name x.e))/\ag w1 w') :
  Calls prog 95 #[.slice ad rs.length cap,.func (Fn.func FC) rc cp] w fun e w'=>e=.returned (.bool (FQ p (ae rs)))/\ag w w':=by
 have HS:=az hs;have X0:Hid (∀t∈rs,t.rows.length<=6):=XA;have HE15:Hid (∀t∈rs,∀q∈t.rows,q.rows.length<=15):=he15;have YQ:Hid (∀(xs:Array Value) (u:World),(callFunc FC xs).run prog u=.ok (.enter FC xs) u):=hrun;have HP:Hid (∀t∈rs,∀q∈t.rows,∀x∈q.rows,x.e.kind=3->∀w1:World,ag w w1->Calls prog FC (rc++(#[.agg #[.string t.name,.string q.name],x.val]++cp)) w1 fun e w'=>e=.returned (.bool (p t.name q.name x.e))/\ag w1 w'):=hp;have HYES:Hid (∀(k:Nat) (hk:k<rs.length) (j:Nat) (hj:j<rs[k].rows.length) (m:Nat) (hm:m<rs[k].rows[j].rows.length),xe p rs[k].name rs[k].rows[j].name rs[k].rows[j].rows[m].e=true->FQ p (ae rs)=true):=fun k hk j hj m hm h=>by
  unfold FQ ae;rw[List.any_map];refine KP hk ?_;show Rp p rs[k].p=true;unfold Rp TR.p bQ;simp only[List.any_map];refine KP hj ?_;show Ro p _ rs[k].rows[j].p=true;unfold Ro RR.p ai;simp only[List.any_map];exact KP hm h
 have HEE:Hid (∀(k:Nat) (hk:k<rs.length) (j:Nat) (hj:j<rs[k].rows.length),(∀m (hm:m<rs[k].rows[j].rows.length),xe p rs[k].name rs[k].rows[j].name rs[k].rows[j].rows[m].e=false)->Ro p rs[k].name rs[k].rows[j].p=false):=fun k hk j hj h=>by
  unfold Ro RR.p ai;simp only[List.any_map];exact FR (k:=rs[k].rows[j].rows.length) (fun i hi _=>h i hi) (Vu _)
 have HET:Hid (∀(k:Nat) (hk:k<rs.length),(∀j (hj:j<rs[k].rows.length),Ro p rs[k].name rs[k].rows[j].p=false)->Rp p rs[k].p=false):=fun k hk h=>by
  unfold Rp TR.p bQ;simp only[List.any_map];exact FR (k:=rs[k].rows.length) (fun i hi _=>h i hi) (Vu _)
 have HES:Hid ((∀k (hk:k<rs.length),Rp p rs[k].p=false)->FQ p (ae rs)=false):=fun h=>by
  unfold FQ ae;rw[List.any_map];exact FR (k:=rs.length) (fun i hi _=>h i hi) (Vu _)
 clear hs XA he15 hrun hp;go_enter func95,ntmps95;go_wp2_with fail;go_loopw[13] (fun i wr=>∃k:Nat,k<=rs.length/\i=.int .i64 k/\Hid (∀k' (hk:k'<rs.length),k'<k->Rp p rs[k'].p=false)/\Hid (ag w wr)) (fun i _=>rs.length-(intOf i).toNat);case atStart=>exact⟨0,Vy _,rfl,fun _ _ h=>absurd h (Wm _),Vv _ _⟩
 obtain⟨k,hk,rfl,HK,HB⟩:=hrel;obtain⟨wo,hwo⟩:=eQx wr;subst hwo;by_cases hlt:k<rs.length
 ·rcases HS.out.below HB.out with hnil|⟨b,off,WR,hb,hr,hok⟩
  ·rw[hnil]at hlt;simp at hlt
  obtain⟨t0,t1⟩:=hr k hlt;have YW:Hid (rs[k]∈rs):=Vs hlt;have Xc:Hid (rs[k].ok wo):=hok rs[k] (Vs hlt);have XA:rs[k].rows.length<=6:=X0.out _ (Vs hlt);have hk1:=bI k;have hk2:(k:Int)<(rs.length:Int):=by omega
  obtain⟨W2,hW2⟩:=eQx (wo.alloc (.cells #[.string rs[k].name,.slice rs[k].ad rs[k].rows.length rs[k].cap] 36));have HB2:=qC hW2;have WQ:Hid (W2.cell? ⟨wo.heap.size,0,none⟩=some (.string rs[k].name)/\wo.heap.size<W2.heap.size):=by
   show _/\_;rw[hW2];exact⟨by simp,by simp⟩
  rw[WR];clear hr hok WR hb;go_wp2_with fail;rw[<-hW2];clear hW2 t0 t1;go_loopw[20] (fun i wr=>∃j:Nat,j<=rs[k].rows.length/\i=.int .i64 j/\Hid (∀j' (hj:j'<rs[k].rows.length),j'<j->Ro p rs[k].name rs[k].rows[j'].p=false)/\Hid (ag W2 wr)) (fun i _=>rs[k].rows.length-(intOf i).toNat);case atStart=>exact⟨0,Vy _,rfl,fun _ _ h=>absurd h (Wm _),Vv _ _⟩
  obtain⟨j,hj,rfl,HJ,HBJ⟩:=hrel;obtain⟨wi,hwi⟩:=eQx wr;subst hwi;have XI:Hid (ag wo wi):=HB2.out.trans (HBJ.out.mono HB2.out.size);by_cases hjt:j<rs[k].rows.length
  ·rcases Xc.out.below XI.out with hnil|⟨b2,WV,XC,hb2,hr2,hok2⟩
   ·rw[hnil]at hjt;simp at hjt
   obtain⟨s0,s1⟩:=hr2 j hjt;have HQM:Hid (rs[k].rows[j]∈rs[k].rows):=Vs hjt;have HOE:Hid (jo wi rs[k].rows[j].ad rs[k].rows[j].rows):=hok2 _ (Vs hjt);have hej:rs[k].rows[j].rows.length<=15:=HE15.out _ YW.out _ (Vs hjt);have hj1:=bI j;have hj2:(j:Int)<(rs[k].rows.length:Int):=by omega
   obtain⟨W3,hW3⟩:=eQx (wi.alloc (.cells #[.string rs[k].rows[j].name,.slice rs[k].rows[j].ad rs[k].rows[j].rows.length rs[k].rows[j].cap] 39));have Xi:=qC hW3;have HP3:Hid (W3.cell? ⟨wo.heap.size,0,none⟩=some (.string rs[k].name)/\W3.cell? ⟨wi.heap.size,0,none⟩=some (.string rs[k].rows[j].name)/\wo.heap.size<W3.heap.size/\wi.heap.size<W3.heap.size):=by
    have h1:wo.heap.size<wi.heap.size:=Vt WQ.out.2 HBJ.out.size;exact⟨kept Xi.out h1 (kept HBJ.out WQ.out.2 WQ.out.1),by rw[hW3];simp,by rw[hW3];simp;omega,by rw[hW3];simp⟩
   rw[XC];clear hr2 hok2 XC hb2;go_wp2_with fail;rw[<-hW3];clear hW3 s0 s1;go_loopw[27] (fun i wr=>∃m:Nat,m<=rs[k].rows[j].rows.length/\i=.int .i64 m/\Hid (∀m' (hm:m'<rs[k].rows[j].rows.length),m'<m->xe p rs[k].name rs[k].rows[j].name rs[k].rows[j].rows[m'].e=false)/\Hid (ag W3 wr)) (fun i _=>rs[k].rows[j].rows.length-(intOf i).toNat);case atStart=>exact⟨0,Vy _,rfl,fun _ _ h=>absurd h (Wm _),Vv _ _⟩
   obtain⟨m,hm,rfl,HM,ZE⟩:=hrel;have WS:Hid (ag w wr):=((HB.out.trans (XI.out.mono HB.out.size)).trans (Xi.out.mono (Vz HB.out.size XI.out.size))).trans (ZE.out.mono (Vz HB.out.size (Vz XI.out.size Xi.out.size)));have HBI:Hid (ag W2 wr):=(HBJ.out.trans (Xi.out.mono HBJ.out.size)).trans (ZE.out.mono (Vz HBJ.out.size Xi.out.size));by_cases hmt:m<rs[k].rows[j].rows.length
   ·rcases (HOE.out.below Xi.out).below ZE.out with hnil|⟨b3,XB,hadr3,hb3,hr3,hok3⟩
    ·rw[hnil]at hmt;simp at hmt
    obtain⟨q0,q1,q2,q3,q4⟩:=hr3 m hmt;have HXM:Hid (rs[k].rows[j].rows[m]∈rs[k].rows[j].rows):=Vs hmt;have hm1:=bI m;have hm2:(m:Int)<(rs[k].rows[j].rows.length:Int):=by omega
    obtain⟨z0,z1,z2,z3⟩:=HP3.out;have x0:=kept ZE.out z2 z0;have x1:=kept ZE.out z3 z1;have y0:wo.heap.size<wr.heap.size:=Vt z2 ZE.out.size;have y1:wi.heap.size<wr.heap.size:=Vt z3 ZE.out.size;obtain⟨W4,Xn⟩:=eQx (wr.alloc (.cells #[.int .i64 rs[k].rows[j].rows[m].e.kind,.slice rs[k].rows[j].rows[m].adA rs[k].rows[j].rows[m].e.allow.length rs[k].rows[j].rows[m].capA,.string rs[k].rows[j].rows[m].e.over,.string rs[k].rows[j].rows[m].e.name,.slice rs[k].rows[j].rows[m].adK rs[k].rows[j].rows[m].e.kids.length rs[k].rows[j].rows[m].capK] 43));have YD:=qC Xn;have XJ:Hid (ag W3 W4):=ZE.out.trans (YD.out.mono ZE.out.size);rw[hadr3];clear hr3 hok3 hadr3 hb3 z0 z1 z2 z3;by_cases hkind:rs[k].rows[j].rows[m].e.kind=3
    ·have hcall:=HP.out _ YW.out _ HQM.out _ HXM.out hkind W4 (WS.out.trans (YD.out.mono WS.out.size));unfold ER.val at hcall;rw[hkind]at hcall Xn;have XX:=aM hcall;clear hcall;go_wp2_with fail;rw[<-Xn,YQ.out,Oper.upon_enter];clear Xn;refine XX.out.mono ?_;rintro e w5 ⟨rfl,hb5⟩;have Xg:=az hb5;have hon:xe p rs[k].name rs[k].rows[j].name rs[k].rows[j].rows[m].e=p rs[k].name rs[k].rows[j].name rs[k].rows[j].rows[m].e:=by unfold xe;rw[hkind];rfl
     have HON:Hid (xe p rs[k].name rs[k].rows[j].name rs[k].rows[j].rows[m].e=p rs[k].name rs[k].rows[j].name rs[k].rows[j].rows[m].e):=hon;clear hb5 hon q0 q1 q2 q3 q4;cases hpv:p rs[k].name rs[k].rows[j].name rs[k].rows[j].rows[m].e;case true=>
      have HY:Hid (FQ p (ae rs)=true):=HYES.out k hlt j hjt m hmt (HON.out.trans hpv);have ZC:Hid (ag w w5):=(WS.out.trans (YD.out.mono WS.out.size)).trans (Xg.out.mono (Vz WS.out.size YD.out.size));go_wp2;go_ret;exact⟨by rw[HY.out];rfl,ZC.out⟩
     have Xl:Hid (∀m' (hm:m'<rs[k].rows[j].rows.length),m'<m+1->xe p rs[k].name rs[k].rows[j].name rs[k].rows[j].rows[m'].e=false):=fun m' hm' h=>by
      by_cases e:m'=m
      ·subst e;exact HON.out.trans hpv
      exact HM.out m' hm' (by omega)
     have ZC:Hid (ag W3 w5):=XJ.out.trans (Xg.out.mono XJ.out.size);go_wp2;go_roundw;case rel=>exact⟨m+1,by omega,by go_num,Xl,ZC⟩
     simp[intOf]<;>omega
    have Xl:Hid (∀m' (hm:m'<rs[k].rows[j].rows.length),m'<m+1->xe p rs[k].name rs[k].rows[j].name rs[k].rows[j].rows[m'].e=false):=fun m' hm' h=>by
     by_cases e:m'=m
     ·subst e;unfold xe;rw[decide_eq_false hkind];rfl
     exact HM.out m' hm' (by omega)
    go_wp2;rw[<-Xn];go_roundw;case rel=>exact⟨m+1,by omega,by go_num,Xl,XJ⟩
    simp[intOf]<;>omega
   have HJ2:Hid (∀j' (hj:j'<rs[k].rows.length),j'<j+1->Ro p rs[k].name rs[k].rows[j'].p=false):=fun j' hj' h=>by
    by_cases e:j'=j
    ·subst e;exact HEE.out k hlt j' hjt fun m' hm'=>HM.out m' hm' (by omega)
    exact HJ.out j' hj' (by omega)
   go_wp2;go_roundw;case rel=>exact⟨j+1,by omega,by go_num,HJ2,HBI⟩
   simp[intOf]<;>omega
  have HK2:Hid (∀k' (hk:k'<rs.length),k'<k+1->Rp p rs[k'].p=false):=fun k' hk' h=>by
   by_cases e:k'=k
   ·subst e;exact HET.out k' hlt fun j' hj'=>HJ.out j' hj' (by omega)
   exact HK.out k' hk' (by omega)
  have ZC:Hid (ag w wi):=HB.out.trans (XI.out.mono HB.out.size);go_wp2;go_roundw;case rel=>exact⟨k+1,by omega,by go_num,HK2,ZC⟩
  simp[intOf]<;>omega
 have HN:Hid (FQ p (ae rs)=false):=HES.out fun k' hk'=>HK.out k' hk' (by omega);go_wp2;go_ret;exact⟨by rw[HN.out];rfl,HB.out⟩
theorem kD.keepB{w w2:af}{ad:Q02}{xs:Q0a}(h:kD w ad xs)(hs:w.heap.size<=w2.heap.size)(hb:∀g,g<w.heap.size->w2.heap[g]?=w.heap[g]?):kD w2 ad xs:=by
 rcases h with h|⟨b,off,e,hb',hr⟩
 ·exact .inl h
 exact .inr ⟨b,off,e,Vt hb' hs,fun i hi=>(hr i hi).same fun o=>VN (a:=⟨b,o,none⟩) (hb b hb')⟩
theorem rU.keepB{w w2:af}{ad:Q02}{xs:List Int}(h:rU w ad xs)(hs:w.heap.size<=w2.heap.size)(hb:∀g,g<w.heap.size->w2.heap[g]?=w.heap[g]?):rU w2 ad xs:=by
 rcases h with h|⟨b,off,e,hb',hr⟩
 ·exact .inl h
 exact .inr ⟨b,off,e,Vt hb' hs,fun i hi=>(VN (a:=⟨b,off+i,none⟩) (hb b hb')).trans (hr i hi)⟩
theorem Q5(xs:Array Value)(u:af):(callFunc 99 xs).run prog u=.ok (.enter 99 xs) u:=by kernel_rfl
theorem Q6(xs:Array Value)(u:af):(callFunc 91 xs).run prog u=.ok (.enter 91 xs) u:=by kernel_rfl
theorem SE{w1 w2:af}{r:ER}{b:Nat}(hb:w1.heap[b]?=some (.cells #[.int .i64 r.e.kind,.slice r.adA r.e.allow.length r.capA,.string r.e.over,.string r.e.name,.slice r.adK r.e.kids.length r.capK] 43 (0,0)))(hlt:b<w1.heap.size)(hs:w1.heap.size<=w2.heap.size)(h2:w2.heap[b]?=w1.heap[b]?)(hok:r.ok w2):jo w2 (some ⟨b,0,none⟩) [r]:=by
 refine .inr ⟨b,0,rfl,Vt hlt hs,fun i hi=>?_,fun q hq=>by rw[VO]at hq;subst hq;exact hok⟩;have e:i=0:=by simpa using hi
 subst e;have hc:∀o,w2.cell? ⟨b,o,none⟩=w1.cell? ⟨b,o,none⟩:=fun o=>VN (a:=⟨b,o,none⟩) h2;refine⟨?_,?_,?_,?_,?_⟩
 all_goals
  rw[hc];simp[World.cell?,hb]
theorem KQ(typ:bi)(r:ER)(w:af)(hok:r.ok w):yH 99 #[] #[] typ (fun e=>[e]) w r:=by
 intro w1 hb1;have Xc:=az hok;have HB1:=az hb1;obtain⟨W2,hW2⟩:=eQx ((w1.alloc (.cells #[.int .i64 r.e.kind,.slice r.adA r.e.allow.length r.capA,.string r.e.over,.string r.e.name,.slice r.adK r.e.kids.length r.capK] 43)).alloc (.cells #[.int .i64 r.e.kind,.slice r.adA r.e.allow.length r.capA,.string r.e.over,.string r.e.name,.slice r.adK r.e.kids.length r.capK] 43));have HB2:Hid (ag w1 W2):=by show Below _ _ _;rw[hW2];exact((Vv _ _).alloc (Vu _) _).alloc (by simp) _
 have HC:Hid (W2.heap[w1.heap.size+1]?=some (.cells #[.int .i64 r.e.kind,.slice r.adA r.e.allow.length r.capA,.string r.e.over,.string r.e.name,.slice r.adK r.e.kids.length r.capK] 43 (0,0))/\w1.heap.size+1<W2.heap.size):=by
  show _/\_;rw[hW2];have:=heap_alloc_new (w1.alloc (.cells #[.int .i64 r.e.kind,.slice r.adA r.e.allow.length r.capA,.string r.e.over,.string r.e.name,.slice r.adK r.e.kids.length r.capK] 43)) (.cells #[.int .i64 r.e.kind,.slice r.adA r.e.allow.length r.capA,.string r.e.over,.string r.e.name,.slice r.adK r.e.kids.length r.capK] 43);rw[show(w1.alloc (.cells #[.int .i64 r.e.kind,.slice r.adA r.e.allow.length r.capA,.string r.e.over,.string r.e.name,.slice r.adK r.e.kids.length r.capK] 43)).heap.size=w1.heap.size+1 by simp]at this;exact⟨this,by simp⟩
 clear hok hb1;show Calls prog 99 #[.string typ,r.val] w1 _;go_enter func99,ntmps99;unfold ER.val;go_wp2;rw[<-hW2];go_ret;refine⟨_,_,[r],rfl,rfl,HB2.out,fun w2 hs hk=>?_⟩;have hbw:∀g,g<w.heap.size->w2.heap[g]?=w.heap[g]?:=fun g hg=>by
  have h1:=HB1.out.size;have h2:=HB2.out.size;rw[hk g (by omega) (.inl hg),HB2.out.block g (by omega),HB1.out.block g hg]
 exact SE HC.out.1 HC.out.2 hs (hk _ HC.out.2 (.inr (Nat.le_succ _))) ⟨Xc.out.1.keepB (Vz HB1.out.size (Vz HB2.out.size hs)) hbw,Xc.out.2.keepB (Vz HB1.out.size (Vz HB2.out.size hs)) hbw⟩
theorem FU{B:Nat}{w w':af}(h:Below B w w')(n:Nat):Below B w (w'.drewN n):=⟨h.os,h.tape,h.output,h.size,h.block⟩
def iM(ts:Q0b)(typ rel tn rn:ByteArray)(e:Ex):Bool:=!fM tn rn typ rel&&(e.name.toList==rel.toList)&&yP (dU ts tn e.over e.name) typ
theorem Q7(gK gR gT gY:Nat)(b n:Nat)(rs:Q06)(ad:Q02)(M:ByteArray×ByteArray->Option Value)(typ rel tn rn:bi)(x:ER)(w:af)(hV:aJ dw prog 146 w b n M)(hT:Tab rs M)(hs:jK w ad rs)(hl:∀r∈rs,r.light)(hf:∀r∈rs,r.fits)(Y3:(dU (ae rs) tn x.e.over x.e.name).length<=1048576)
  (htn:tn.size<=maxLen) (ho:x.e.over.size<=maxLen) (hn:x.e.name.size<=maxLen) (hlt:gK<w.heap.size/\gR<w.heap.size/\gT<w.heap.size/\gY<w.heap.size)
  (hc:w.cell? ⟨gK,0,none⟩=some (.string typ)/\w.cell? ⟨gK,1,none⟩=some (.string rel)/\w.cell? ⟨gR,0,none⟩=some (.string rel)/\w.cell? ⟨gT,0,none⟩=some (.map (some b))/\w.cell? ⟨gY,0,none⟩=some (.string typ)) :
  Calls prog 91 #[.agg #[.string tn,.string rn],x.val,.pointer (some ⟨gK,0,none⟩),.pointer (some ⟨gR,0,none⟩),.pointer (some ⟨gT,0,none⟩),.pointer (some ⟨gY,0,none⟩)] w fun e w'=>e=.returned (.bool (iM (ae rs) typ rel tn rn x.e))/\ag w w':=by
 have HV:=aM hV;have HT:=aM hT;have HS:=aM hs;have HL:=aM hl;have HF:=aM hf;have HC:=aM hc;obtain⟨W2,hW2⟩:=eQx ((w.alloc (.cells #[.string tn,.string rn] 146)).alloc (.cells #[.int .i64 x.e.kind,.slice x.adA x.e.allow.length x.capA,.string x.e.over,.string x.e.name,.slice x.adK x.e.kids.length x.capK] 43));have HB2:Hid (ag w W2):=by show Below _ _ _;rw[hW2];exact((Vv _ _).alloc (Vu _) _).alloc (by simp) _
 obtain⟨l1,l2,l3,l4⟩:=hlt;have hz:(w.alloc (.cells #[.string tn,.string rn] 146)).heap.size=w.heap.size+1:=by simp
 have hxc:=fun j=>World.cell?_alloc_mark (w.alloc (.cells #[.string tn,.string rn] 146)) #[.int .i64 x.e.kind,.slice x.adA x.e.allow.length x.capA,.string x.e.over,.string x.e.name,.slice x.adK x.e.kids.length x.capK] 43 (0,0) j;rw[hz,<-hW2]at hxc;have c0:W2.cell? ⟨w.heap.size,0,none⟩=some (.string tn):=by rw[hW2];simp
 have c1:W2.cell? ⟨w.heap.size,1,none⟩=some (.string rn):=by rw[hW2];simp
 have d0:W2.cell? ⟨w.heap.size+1,0,none⟩=some (.int .i64 x.e.kind):=by rw[hxc 0];rfl
 have d1:W2.cell? ⟨w.heap.size+1,1,none⟩=some (.slice x.adA x.e.allow.length x.capA):=by rw[hxc 1];rfl
 have d2:W2.cell? ⟨w.heap.size+1,2,none⟩=some (.string x.e.over):=by rw[hxc 2];rfl
 have d3:W2.cell? ⟨w.heap.size+1,3,none⟩=some (.string x.e.name):=by rw[hxc 3];rfl
 have d4:W2.cell? ⟨w.heap.size+1,4,none⟩=some (.slice x.adK x.e.kids.length x.capK):=by rw[hxc 4];rfl
 have k0:=kept HB2.out l1 HC.out.1;have k1:=kept HB2.out l1 HC.out.2.1;have k2:=kept HB2.out l2 HC.out.2.2.1;have k3:=kept HB2.out l3 HC.out.2.2.2.1;have k4:=kept HB2.out l4 HC.out.2.2.2.2;have m0:w.heap.size+1<W2.heap.size:=by rw[hW2];simp
 clear hV hT hs hl hf hc hxc hz;go_enter func91,ntmps91;unfold ER.val;cases hk:fM tn rn typ rel;case true=>
  have HR:Hid (iM (ae rs) typ rel tn rn x.e=false):=by show _=_;unfold iM;rw[hk];rfl
  have h2:tn.toList=typ.toList/\rn.toList=rel.toList:=by unfold fM at hk;simpa using hk
  have h3:(tn.toList==typ.toList)=true:=by simp[h2.1]
  have h4:(rn.toList==rel.toList)=true:=by simp[h2.2]
  clear h2 hk;go_wp2_with fail;rw[<-hW2];clear hW2;go_quiet (fail);go_wp2;go_ret;exact⟨by rw[HR.out];rfl,FU HB2.out _⟩
 have HTK:=FP hk;cases hn2:(x.e.name.toList==rel.toList);case false=>
  have HR:Hid (iM (ae rs) typ rel tn rn x.e=false):=by show _=_;unfold iM;rw[hk,hn2];rfl
  clear hk;go_wp2_with fail;rw[<-hW2];clear hW2;rcases HTK with⟨h3,h4⟩|h3
  all_goals
   go_quiet (fail);go_wp2;go_ret;exact⟨by rw[HR.out];rfl,FU HB2.out _⟩
 have HR:Hid (iM (ae rs) typ rel tn rn x.e=yP (dU (ae rs) tn x.e.over x.e.name) typ):=by show _=_;unfold iM;rw[hk,hn2];rfl
 clear hk;go_wp2_with fail;rw[<-hW2];clear hW2;have n0:w.heap.size<W2.heap.size:=by omega
 have n1:gK<W2.heap.size:=by omega
 have n2:gR<W2.heap.size:=by omega
 have n3:gT<W2.heap.size:=by omega
 have n4:gY<W2.heap.size:=by omega
 have HKP:Hid (∀w1 w3:World,(w1.cell? ⟨w.heap.size,0,none⟩=some (.string tn)/\w1.cell? ⟨w.heap.size,1,none⟩=some (.string rn)/\w1.cell? ⟨w.heap.size+1,0,none⟩=some (.int .i64 x.e.kind)/\w1.cell? ⟨w.heap.size+1,1,none⟩=some (.slice x.adA x.e.allow.length x.capA)/\w1.cell? ⟨w.heap.size+1,2,none⟩=some (.string x.e.over)/\w1.cell? ⟨w.heap.size+1,3,none⟩=some (.string x.e.name)/\w1.cell? ⟨w.heap.size+1,4,none⟩=some (.slice x.adK x.e.kids.length x.capK)/\w1.cell? ⟨gK,0,none⟩=some (.string typ)/\w1.cell? ⟨gK,1,none⟩=some (.string rel)/\w1.cell? ⟨gR,0,none⟩=some (.string rel)/\w1.cell? ⟨gT,0,none⟩=some (.map (some b))/\w1.cell? ⟨gY,0,none⟩=some (.string typ)/\ag W2 w1)->ag w1 w3->(w3.cell? ⟨w.heap.size,0,none⟩=some (.string tn)/\w3.cell? ⟨w.heap.size,1,none⟩=some (.string rn)/\w3.cell? ⟨w.heap.size+1,0,none⟩=some (.int .i64 x.e.kind)/\w3.cell? ⟨w.heap.size+1,1,none⟩=some (.slice x.adA x.e.allow.length x.capA)/\w3.cell? ⟨w.heap.size+1,2,none⟩=some (.string x.e.over)/\w3.cell? ⟨w.heap.size+1,3,none⟩=some (.string x.e.name)/\w3.cell? ⟨w.heap.size+1,4,none⟩=some (.slice x.adK x.e.kids.length x.capK)/\w3.cell? ⟨gK,0,none⟩=some (.string typ)/\w3.cell? ⟨gK,1,none⟩=some (.string rel)/\w3.cell? ⟨gR,0,none⟩=some (.string rel)/\w3.cell? ⟨gT,0,none⟩=some (.map (some b))/\w3.cell? ⟨gY,0,none⟩=some (.string typ)/\ag W2 w3)):=fun w1 w3 h hb=>by
  obtain⟨q0,q1,q2,q3,q4,q5,q6,q7,q8,q9,q10,q11,hB⟩:=h;have hz:=hB.size;exact⟨kept hb (Vt n0 hz) q0,kept hb (Vt n0 hz) q1,kept hb (Vt m0 hz) q2,kept hb (Vt m0 hz) q3,kept hb (Vt m0 hz) q4,kept hb (Vt m0 hz) q5,kept hb (Vt m0 hz) q6,kept hb (Vt n1 hz) q7,kept hb (Vt n1 hz) q8,kept hb (Vt n2 hz) q9,kept hb (Vt n3 hz) q10,kept hb (Vt n4 hz) q11,hB.trans (hb.mono hz)⟩
 have HBS:Hid (∀w1:World,(w1.cell? ⟨w.heap.size,0,none⟩=some (.string tn)/\w1.cell? ⟨w.heap.size,1,none⟩=some (.string rn)/\w1.cell? ⟨w.heap.size+1,0,none⟩=some (.int .i64 x.e.kind)/\w1.cell? ⟨w.heap.size+1,1,none⟩=some (.slice x.adA x.e.allow.length x.capA)/\w1.cell? ⟨w.heap.size+1,2,none⟩=some (.string x.e.over)/\w1.cell? ⟨w.heap.size+1,3,none⟩=some (.string x.e.name)/\w1.cell? ⟨w.heap.size+1,4,none⟩=some (.slice x.adK x.e.kids.length x.capK)/\w1.cell? ⟨gK,0,none⟩=some (.string typ)/\w1.cell? ⟨gK,1,none⟩=some (.string rel)/\w1.cell? ⟨gR,0,none⟩=some (.string rel)/\w1.cell? ⟨gT,0,none⟩=some (.map (some b))/\w1.cell? ⟨gY,0,none⟩=some (.string typ)/\ag W2 w1)->ag w w1):=fun w1 h=>HB2.out.trans (h.2.2.2.2.2.2.2.2.2.2.2.2.mono HB2.out.size);have HGL:=aM Y3;rcases HTK with⟨h3,h4⟩|h3
 ·go_region_held3 (fun w'=>w'.cell? ⟨w.heap.size,0,none⟩=some (.string tn)/\w'.cell? ⟨w.heap.size,1,none⟩=some (.string rn)/\w'.cell? ⟨w.heap.size+1,0,none⟩=some (.int .i64 x.e.kind)/\w'.cell? ⟨w.heap.size+1,1,none⟩=some (.slice x.adA x.e.allow.length x.capA)/\w'.cell? ⟨w.heap.size+1,2,none⟩=some (.string x.e.over)/\w'.cell? ⟨w.heap.size+1,3,none⟩=some (.string x.e.name)/\w'.cell? ⟨w.heap.size+1,4,none⟩=some (.slice x.adK x.e.kids.length x.capK)/\w'.cell? ⟨gK,0,none⟩=some (.string typ)/\w'.cell? ⟨gK,1,none⟩=some (.string rel)/\w'.cell? ⟨gR,0,none⟩=some (.string rel)/\w'.cell? ⟨gT,0,none⟩=some (.map (some b))/\w'.cell? ⟨gY,0,none⟩=some (.string typ)/\ag W2 w')
   (first|assumption|exact HKP.out _ _ (by assumption) hbx|exact⟨c0,c1,d0,d1,d2,d3,d4,k0,k1,k2,k3,k4,(Vv _ _).drew⟩)
   (first|(go_at_call 93;refine(nO b n rs ad M tn x _ (HV.out.below (HBS.out _ (by assumption))) HT.out (HS.out.below (HBS.out _ (by assumption))) HL.out HF.out htn ho hn).mono ?_;rintro e w' ⟨⟨adg,capg,rfl,hsg,-⟩,hbx⟩)|(go_at_call 92;refine(tN adg capg _ typ _ HGL.out hsg).mono ?_;rintro e w' ⟨rfl,rfl⟩))
  rename_i hH;have ZC:=aM (HBS.out _ hH);clear hH;go_wp2;go_ret;exact⟨by rw[HR.out];rfl,ZC.out⟩
 go_region_held3 (fun w'=>w'.cell? ⟨w.heap.size,0,none⟩=some (.string tn)/\w'.cell? ⟨w.heap.size,1,none⟩=some (.string rn)/\w'.cell? ⟨w.heap.size+1,0,none⟩=some (.int .i64 x.e.kind)/\w'.cell? ⟨w.heap.size+1,1,none⟩=some (.slice x.adA x.e.allow.length x.capA)/\w'.cell? ⟨w.heap.size+1,2,none⟩=some (.string x.e.over)/\w'.cell? ⟨w.heap.size+1,3,none⟩=some (.string x.e.name)/\w'.cell? ⟨w.heap.size+1,4,none⟩=some (.slice x.adK x.e.kids.length x.capK)/\w'.cell? ⟨gK,0,none⟩=some (.string typ)/\w'.cell? ⟨gK,1,none⟩=some (.string rel)/\w'.cell? ⟨gR,0,none⟩=some (.string rel)/\w'.cell? ⟨gT,0,none⟩=some (.map (some b))/\w'.cell? ⟨gY,0,none⟩=some (.string typ)/\ag W2 w')
  (first|assumption|exact HKP.out _ _ (by assumption) hbx|exact⟨c0,c1,d0,d1,d2,d3,d4,k0,k1,k2,k3,k4,(Vv _ _).drew⟩)
  (first|(go_at_call 93;refine(nO b n rs ad M tn x _ (HV.out.below (HBS.out _ (by assumption))) HT.out (HS.out.below (HBS.out _ (by assumption))) HL.out HF.out htn ho hn).mono ?_;rintro e w' ⟨⟨adg,capg,rfl,hsg,-⟩,hbx⟩)|(go_at_call 92;refine(tN adg capg _ typ _ HGL.out hsg).mono ?_;rintro e w' ⟨rfl,rfl⟩))
 rename_i hH;have ZC:=aM (HBS.out _ hH);clear hH;go_wp2;go_ret;exact⟨by rw[HR.out];rfl,ZC.out⟩
def ic(ts:Q0b)(typ rel:ByteArray):Option (List Ty):=if aD ts && !(ak ts typ rel).isEmpty && !FQ (iM ts typ rel) ts&&aD (jc typ rel ts) then some (jc typ rel ts) else none
def Uv(w0:World)(D:Option (List Ty))(e:Ending)(w':World):Prop:=∃(v:Value) (qs:Q06),e=.returned (.tuple #[v,.bool D.isSome])/\ae qs=D.getD []/\eZ w' w0.heap.size v qs/\ag w0 w'
theorem jJ{w0 w':af}{D:Option (List Ty)}(h:D=none)(hb:ag w0 w'):Uv w0 D (.returned (.tuple #[.slice none 0 0,.bool false])) w':=⟨.slice none 0 0,[],by rw[h];rfl,by rw[h];rfl,mI _ _,hb⟩
structure PI(w2:World)(SLV:Value)(typ rel:ByteArray)(M:ByteArray×ByteArray->Option Value)(l:Nat->Bool)(f:Nat->Value)(w:World):Prop where
 v0:l 0=true->f 0=SLV
 v2:l 2=true->f 2=.string typ
 v3:l 3=true->f 3=.string rel
 v4:l 4=true->f 4=.agg #[.string typ,.string rel]
 bel:ag w2 w
 c1:l 1=true->∃b,f 1=.map (some b)/\w2.heap.size<=b/\aJ dw prog 146 w b 36 M
 a5:l 5=true->∃g,f 5=.pointer (some ⟨g,0,none⟩)/\w2.heap.size<=g/\w.heap[g]?=some (.cells #[if l 7=true then f 1 else .map none] 102 (0,0))
 a6:l 6=true->∃g,f 6=.pointer (some ⟨g,0,none⟩)/\w2.heap.size<=g/\w.heap[g]?=some (.cells #[.string ⟨#[]⟩,.string ⟨#[]⟩] 146 (0,0))
 o7:l 7=true->l 1=true/\l 5=true
theorem lt_of_some{w:af}{g:Nat}{o:Obj}(h:w.heap[g]?=some o):g<w.heap.size:=(VC.1 h).1
theorem PI.later{w2 w w':af}{SLV:Value}{typ rel:ByteArray}{M:ByteArray×ByteArray->Option Value}{l:Nat->Bool}{f:Nat->Value}(h:PI w2 SLV typ rel M l f w)(hb:ag w w'):PI w2 SLV typ rel M l f w' where
 v0:=h.v0
 v2:=h.v2
 v3:=h.v3
 v4:=h.v4
 bel:=h.bel.trans (hb.mono h.bel.size)
 c1 hl:=by obtain⟨b,e,hb2,hm⟩:=h.c1 hl;exact⟨b,e,hb2,hm.below hb⟩
 a5 hl:=by obtain⟨g,e,h1,h2⟩:=h.a5 hl;exact⟨g,e,h1,(hb.block g (lt_of_some h2)).trans h2⟩
 a6 hl:=by obtain⟨g,e,h1,h2⟩:=h.a6 hl;exact⟨g,e,h1,(hb.block g (lt_of_some h2)).trans h2⟩
 o7:=h.o7
theorem PI.add{w2 w:af}{SLV:Value}{typ rel:ByteArray}{M:ByteArray×ByteArray->Option Value}{l:Nat->Bool}{f:Nat->Value}(h:PI w2 SLV typ rel M l f w)(i:Nat)(v:Value)(hl:l i=false)(h7:i≠7)
  (n0:i=0->v=SLV) (n2:i=2->v=.string typ) (n3:i=3->v=.string rel) (n4:i=4->v=.agg #[.string typ,.string rel]) (n1:i=1->∃b,v=.map (some b)/\w2.heap.size<=b/\aJ dw prog 146 w b 36 M)
  (n5:i=5->∃g,v=.pointer (some ⟨g,0,none⟩)/\w2.heap.size<=g/\w.heap[g]?=some (.cells #[.map none] 102 (0,0))) (n6:i=6->∃g,v=.pointer (some ⟨g,0,none⟩)/\w2.heap.size<=g/\w.heap[g]?=some (.cells #[.string ⟨#[]⟩,.string ⟨#[]⟩] 146 (0,0))) :
  PI w2 SLV typ rel M (fun k=>if k=i then true else l k) (upd f i v) w:=by
 have key:∀{k:Nat} {P:Value->Prop},(l k=true->P (f k))->(i=k->P v)->(if k=i then true else l k)=true->P (upd f i v k):=fun {k P} h1 h2 h3=>by
  by_cases e:k=i
  ·subst e;simp only[upd,if_true];exact h2 rfl
  rw[if_neg e]at h3;simp only[upd,if_neg e];exact h1 h3
 have e7:(if (7:Nat)=i then true else l 7)=l 7:=if_neg (Ne.symm h7);refine⟨key (P:=fun x=>x=SLV) h.v0 n0,key (P:=fun x=>x=.string typ) h.v2 n2,key (P:=fun x=>x=.string rel) h.v3 n3,key (P:=fun x=>x=.agg #[.string typ,.string rel]) h.v4 n4,h.bel,key (P:=fun x=>∃b,x=.map (some b)/\w2.heap.size<=b/\aJ dw prog 146 w b 36 M) h.c1 n1,fun h5=>?_,key (P:=fun x=>∃g,x=.pointer (some ⟨g,0,none⟩)/\w2.heap.size<=g/\w.heap[g]?=some (.cells #[.string ⟨#[]⟩,.string ⟨#[]⟩] 146 (0,0))) h.a6 n6,fun h8=>?_⟩
 ·show ∃g:Nat,upd f i v 5=.pointer (some ⟨g,0,none⟩)/\w2.heap.size<=g/\w.heap[g]?=some (Obj.cells #[if (if (7:Nat)=i then true else l 7)=true then upd f i v 1 else .map none] 102 (0,0));rw[e7];by_cases e:(5:Nat)=i
  ·have hf:l 7=false:=by
    cases h9:l 7;case false=>rfl
    have:=(h.o7 h9).2;rw[<-e]at hl;rw[hl]at this;cases this
   rw[hf];subst e;simpa[upd] using n5 rfl
  rw[if_neg e]at h5;obtain⟨g,e1,e2,e3⟩:=h.a5 h5;refine⟨g,by simp only[upd,if_neg e];exact e1,e2,?_⟩;cases h9:l 7;case false=>rw[h9]at e3;simpa using e3
  have h1:(1:Nat)≠i:=fun e4=>by have:=(h.o7 h9).1;rw[<-e4]at hl;rw[hl]at this;cases this
  rw[h9]at e3;simp only[upd,if_neg h1];exact e3
 have h8:(if (7:Nat)=i then true else l 7)=true:=h8;rw[e7]at h8;have:=h.o7 h8;exact⟨by show(if (1:Nat)=i then true else l 1)=true;rw[this.1];split<;>rfl,by show(if (5:Nat)=i then true else l 5)=true;rw[this.2];split<;>rfl⟩
theorem Oc{w:af}{g:Nat}{T:TypeId}{x y:Value}(h:w.heap[g]?=some (.cells #[x] T (0,0))):(w.setCell ⟨g,0,none⟩ y).heap[g]?=some (.cells #[y] T (0,0)):=by
 unfold World.setCell;simp[Array.getElem?_modify,h]
theorem Od{w:af}{g:Nat}{T:TypeId}{x y x' y':Value}(h:w.heap[g]?=some (.cells #[x,y] T (0,0))):((w.setCell ⟨g,0,none⟩ x').setCell ⟨g,1,none⟩ y').heap[g]?=some (.cells #[x',y'] T (0,0)):=by
 unfold World.setCell;simp[Array.getElem?_modify,h]
theorem BS{w:af}{b n:Nat}{M:ByteArray×ByteArray->Option Value}{cs:Array Value}{T:TypeId}(h:aJ dw prog 146 w b n M)(hc:w.heap[b]?=some (.cells cs T (0,0))):False:=by
 obtain⟨D,⟨entries,ix,hb,-⟩,-⟩:=h;rw[hb]at hc;cases hc
theorem PI.seven{w2 w:af}{SLV:Value}{typ rel:ByteArray}{M:ByteArray×ByteArray->Option Value}{l:Nat->Bool}{f:Nat->Value}(h:PI w2 SLV typ rel M l f w)(hl:l 7=false)(h1:l 1=true)(h5:l 5=true){g:Nat}(hg:f 5=.pointer (some ⟨g,0,none⟩))(v:Value):PI w2 SLV typ rel M (fun k=>if k=7 then true else l k) (upd f 7 v) (w.setCell ⟨g,0,none⟩ (f 1)):=by
 obtain⟨g',e1,e2,e3⟩:=h.a5 h5;rw[hg]at e1;injection e1 with e1;injection e1 with e1;injection e1 with e1;subst e1;have ho:∀k,k≠g->(w.setCell ⟨g,0,none⟩ (f 1)).heap[k]?=w.heap[k]?:=fun k hk=>Below.heap_setCell w _ _ k hk;refine⟨fun a=>h.v0 a,fun a=>h.v2 a,fun a=>h.v3 a,fun a=>h.v4 a,h.bel.setCell e2 _,fun a=>?_,fun a=>⟨g,hg,e2,?_⟩,fun a=>?_,fun _=>⟨h1,h5⟩⟩
 ·obtain⟨b,q1,q2,q3⟩:=h.c1 a;exact⟨b,q1,q2,q3.setCell (fun e=>BS (b:=b) q3 (by rw[e];exact e3)) _⟩
 ·show(w.setCell ⟨g,0,none⟩ (f 1)).heap[g]?=some (.cells #[if (if (7:Nat)=7 then true else l 7)=true then upd f 7 v 1 else .map none] _ _);rw[if_pos rfl,if_pos rfl];exact Oc e3
 obtain⟨g6,q1,q2,q3⟩:=h.a6 a;exact⟨g6,q1,q2,(ho g6 fun e=>by subst e;rw[e3]at q3;injection q3 with q3;injection q3 with _ q4;exact absurd q4 (by decide)).trans q3⟩
theorem eZ.mono{w:af}{base base':Nat}{v:Value}{rs:Q06}(h:eZ w base v rs)(hb:base'<=base):eZ w base' v rs:=WP.mono h hb fun q hq=>jX.mono hq hb
theorem Oe{rs:Q06}(hl:∀r∈rs,r.light)(tn over nm:bi):(dU (ae rs) tn over nm).length<=1048576:=by
 unfold dU;split
 ·unfold d9;refine Vz (zS _ _ _) ?_;unfold ak;cases e:dZ (ae rs) tn over with
  | none=>exact Vy _
  | some es =>
   obtain⟨t,ht,q,hq,-,-,h⟩:=mZ e;show(aN es).length<=_;rw[<-h];exact pu _ ((hl t ht).2 q hq).2
 exact Vy _
def Vg(b:Bool)(v:Value):Value:=if b=true then .tuple #[v,.bool true] else .tuple #[.slice none 0 0,.bool false]
theorem II(ad:Q02)(cap:Nat)(rs:Q06)(w:af)(hlen:rs.length<=1048576)(hs:jK w ad rs)(hl:∀r∈rs,r.light)(hf:∀r∈rs,r.fits)(hcp:∀r∈rs,r.caps):
  Calls prog 96 #[.slice ad rs.length cap] w fun e w'=>e=.returned (Vg (aD (ae rs)) (.slice ad rs.length cap))/\ag w w':=by
 have HS:=aM hs;have HL:=aM hl;have HF:=aM hf;have HC:=aM hcp;clear hs hl hf hcp;go_enter func96,ntmps96;go_wp2_with fail;refine(cZ ad cap rs _ hlen HS.out HL.out HF.out HC.out).mono ?_;rintro e w2 ⟨rfl,hb2⟩;have HB2:=aM hb2;clear hb2;cases hd:aD (ae rs);case false=>
  go_wp2;refine bodyPost_ret (v:=.tuple #[.slice none 0 0,.bool false]) ?_ rfl ⟨by first|rfl|(rw[hd];rfl)|simp[Vg,hd],HB2.out⟩;simp[results,Tryz.results96,go_sem]
 go_wp2;refine bodyPost_ret (v:=.tuple #[.slice ad rs.length cap,.bool true]) ?_ rfl ⟨by first|rfl|(rw[hd];rfl)|simp[Vg,hd],HB2.out⟩;simp[results,Tryz.results96,go_sem]
theorem BU(ad:Q02)(cap:Nat)(rs:Q06)(typ rel:bi)(w:af)(hlen:rs.length<=1048576)(hs:jK w ad rs)(hl:∀r∈rs,r.light)(hf:∀r∈rs,r.fits)(hcp:∀r∈rs,r.caps)(ht:typ.size<=maxLen)(hr:rel.size<=maxLen):
  Calls prog 36 #[.slice ad rs.length cap,.string typ,.string rel] w (Uv w (ic (ae rs) typ rel)):=by
 have HS:=aM hs;have HL:=aM hl;have WT:=aM hf;have HCP:=aM hcp;obtain⟨W1,hW1⟩:=eQx ((w.alloc (.cells #[.string typ] 9)).alloc (.cells #[.string rel] 9));have HB1:Hid (ag w W1):=by show Below _ _ _;rw[hW1];exact((Vv _ _).alloc (Vu _) _).alloc (by simp) _
 have Xu:Hid (W1.cell? ⟨w.heap.size,0,none⟩=some (.string typ)/\W1.cell? ⟨w.heap.size+1,0,none⟩=some (.string rel)/\w.heap.size+1<W1.heap.size):=by
  show _/\_;rw[hW1];have hc:=World.cell?_alloc_mark (w.alloc (.cells #[.string typ] 9)) #[.string rel] 9 (0,0) 0;rw[show(w.alloc (.cells #[.string typ] 9)).heap.size=w.heap.size+1 by simp]at hc;exact⟨by simp,by rw[hc];rfl,by simp⟩
 clear hs hl hf hcp;go_enter func36,ntmps36;go_wp2_with fail;rw[<-hW1];clear hW1;refine(cZ ad cap rs _ hlen (HS.out.below HB1.out) HL.out WT.out HCP.out).mono ?_;rintro e w2 ⟨rfl,hb2⟩;have HB2:=iX HB1 hb2;have Xk:Hid (w2.cell? ⟨w.heap.size,0,none⟩=some (.string typ)/\w2.cell? ⟨w.heap.size+1,0,none⟩=some (.string rel)/\w.heap.size+1<w2.heap.size):=⟨kept hb2 (by have:=Xu.out.2.2;omega) Xu.out.1,kept hb2 Xu.out.2.2 Xu.out.2.1,Vt Xu.out.2.2 hb2.size⟩;clear hb2 Xu;cases hd:aD (ae rs);case false=>
  have HN:Hid (ic (ae rs) typ rel=none):=by show _=_;unfold ic;rw[hd];rfl
  clear hd;go_wp2;refine bodyPost_ret (v:=.tuple #[.slice none 0 0,.bool false]) ?_ rfl (jJ HN.out HB2.out);simp[results,Tryz.results36,go_sem]
 have HD:=aM hd;have hSP:=aG.1 hd;obtain⟨h6,XA,hex⟩:=aW hSP.1;have X0:=aM XA;have HEX:=aM hex;have HTAB:Hid (Tab rs (jY rs)):=ry hSP.1;clear hd hSP XA hex;go_wp2_with fail;have HB2W:=aM HB2.out.size;refine eT 8 _ _ (PI w2 (.slice ad rs.length cap) typ rel (jY rs)) (by kernel_rfl) rfl (by kernel_rfl) (fun o ho l fq w' hI hp=>?KJ) (yt [(8,[5,6]),(14,[0,1,2,3,4])]) ⟨fun h=>(by cases h),fun h=>(by cases h),fun h=>(by cases h),fun h=>(by cases h),(Vv _ _).drew,fun h=>(by cases h),fun h=>(by cases h),fun h=>(by cases h),fun h=>(by cases h)⟩ ?stepR ?finR<;>try dsimp only[wY]
 case KJ =>
  cases ho;intro k hk;have hc:=TK (i:=k) (by omega)
  repeat' rcases hc with rfl|hc
  ·exact hp ⟨0,.phase⟩ (by simp) rfl
  ·exact hp ⟨1,.phase⟩ (by simp) rfl
  ·exact hp ⟨2,.phase⟩ (by simp) rfl
  ·exact hp ⟨3,.phase⟩ (by simp) rfl
  ·exact hp ⟨4,.phase⟩ (by simp) rfl
  ·exact hp ⟨5,.phase⟩ (by simp) rfl
  ·exact hp ⟨6,.phase⟩ (by simp) rfl
  exact hp ⟨7,.phase⟩ (by simp) rfl
 case stepR =>
  rintro i hi o ho l fq w' Xb hI hpre;have HI:=az hI;have WO:Hid (∀e∈o.after,Region.binds .any e=true->l e.on=true):=hpre;clear hI hpre;have hc:=TK (i:=i) (by omega);clear hi
  repeat' rcases hc with rfl|hc
  ·cases ho;have Zf:=HI.out;have HP:=aM (Zf.add 0 (.slice ad rs.length cap) Xb (by decide) (fun _=>rfl) (fun h=>absurd h (by decide)) (fun h=>absurd h (by decide)) (fun h=>absurd h (by decide)) (fun h=>absurd h (by decide)) (fun h=>absurd h (by decide)) (fun h=>absurd h (by decide)));refine aa rfl fun K HK=>?_;clear WO;dsimp only;go_simp;exact HK.out _ _ ⟨_,by simp[upd],HP.out⟩
  ·cases ho;have e0:=HI.out.v0 (WO.out ⟨0,.data⟩ (by simp) rfl);have Zf:=HI.out;refine aa rfl fun K HK=>?_;clear WO;simp only[e0];go_simp;refine(kS ad cap rs w' h6 (HS.out.below (HB2.out.trans (HI.out.bel.mono HB2.out.size))) X0.out WT.out).mono ?_;rintro e w9 ⟨rfl,hm9,XZ⟩;have Zf:=HI.out.later XZ;have HP:=aM (Zf.add 1 (.map (some w'.heap.size)) Xb (by decide) (fun h=>absurd h (by decide)) (fun h=>absurd h (by decide)) (fun h=>absurd h (by decide)) (fun h=>absurd h (by decide)) (fun _=>⟨_,rfl,HI.out.bel.size,hm9⟩) (fun h=>absurd h (by decide)) (fun h=>absurd h (by decide)));clear hm9 XZ Zf;go_wp2_with fail;exact HK.out _ _ ⟨_,by simp[upd,e0],HP.out⟩
  ·cases ho;have x1:w'.cell? ⟨w.heap.size,0,none⟩=some (.string typ):=kept HI.out.bel (by have:=Xk.out.2.2;omega) Xk.out.1;have Zf:=HI.out;have HP:=aM (Zf.add 2 (.string typ) Xb (by decide) (fun h=>absurd h (by decide)) (fun _=>rfl) (fun h=>absurd h (by decide)) (fun h=>absurd h (by decide)) (fun h=>absurd h (by decide)) (fun h=>absurd h (by decide)) (fun h=>absurd h (by decide)));refine aa rfl fun K HK=>?_;clear WO;dsimp only;go_simp;exact HK.out _ _ ⟨_,by simp[upd],HP.out⟩
  ·cases ho;have x1:w'.cell? ⟨w.heap.size+1,0,none⟩=some (.string rel):=kept HI.out.bel Xk.out.2.2 Xk.out.2.1;have Zf:=HI.out;have HP:=aM (Zf.add 3 (.string rel) Xb (by decide) (fun h=>absurd h (by decide)) (fun h=>absurd h (by decide)) (fun _=>rfl) (fun h=>absurd h (by decide)) (fun h=>absurd h (by decide)) (fun h=>absurd h (by decide)) (fun h=>absurd h (by decide)));refine aa rfl fun K HK=>?_;clear WO;dsimp only;go_simp;exact HK.out _ _ ⟨_,by simp[upd],HP.out⟩
  ·cases ho;have e2:=HI.out.v2 (WO.out ⟨2,.data⟩ (by simp) rfl);have e3:=HI.out.v3 (WO.out ⟨3,.data⟩ (by simp) rfl);have Zf:=HI.out;have HP:=aM (Zf.add 4 (.agg #[.string typ,.string rel]) Xb (by decide) (fun h=>absurd h (by decide)) (fun h=>absurd h (by decide)) (fun h=>absurd h (by decide)) (fun _=>rfl) (fun h=>absurd h (by decide)) (fun h=>absurd h (by decide)) (fun h=>absurd h (by decide)));refine aa rfl fun K HK=>?_;clear WO;simp only[e2,e3];go_simp;exact HK.out _ _ ⟨_,by simp[upd,e2,e3],HP.out⟩
  ·cases ho;have hA:ag w' (w'.alloc (.cells #[.map none] 102)):=(Vv _ _).alloc (Vu _) _;have Zf:=HI.out.later hA;have HP:=aM (Zf.add 5 (.pointer (some ⟨w'.heap.size,0,none⟩)) Xb (by decide) (fun h=>absurd h (by decide)) (fun h=>absurd h (by decide)) (fun h=>absurd h (by decide)) (fun h=>absurd h (by decide)) (fun h=>absurd h (by decide)) (fun _=>⟨_,rfl,HI.out.bel.size,heap_alloc_new w' _⟩) (fun h=>absurd h (by decide)));refine aa rfl fun K HK=>?_;clear WO hA Zf;dsimp only;go_simp;exact HK.out _ _ ⟨_,by simp[upd],HP.out⟩
  ·cases ho;have hA:ag w' (w'.alloc (.cells #[.string ⟨#[]⟩,.string ⟨#[]⟩] 146)):=(Vv _ _).alloc (Vu _) _;have Zf:=HI.out.later hA;have HP:=aM (Zf.add 6 (.pointer (some ⟨w'.heap.size,0,none⟩)) Xb (by decide) (fun h=>absurd h (by decide)) (fun h=>absurd h (by decide)) (fun h=>absurd h (by decide)) (fun h=>absurd h (by decide)) (fun h=>absurd h (by decide)) (fun h=>absurd h (by decide)) (fun _=>⟨_,rfl,HI.out.bel.size,heap_alloc_new w' _⟩));refine aa rfl fun K HK=>?_;clear WO hA Zf;dsimp only;go_simp;exact HK.out _ _ ⟨_,by simp[upd],HP.out⟩
  cases ho;have l1:=WO.out ⟨1,.data⟩ (by simp) rfl;have l5:=WO.out ⟨5,.data⟩ (by simp) rfl;obtain⟨b,e1,-,-⟩:=HI.out.c1 l1;obtain⟨g,e5,-,hc5⟩:=HI.out.a5 l5;rw[Xb]at hc5;have HP:=aM (HI.out.seven Xb l1 l5 e5 undef);rw[e1]at HP;have x1:w'.cell? ⟨g,0,none⟩=some (.map none):=by simp[World.cell?,hc5]
  have x2:w'.frozen? ⟨g,0,none⟩=false:=by simp[World.frozen?,hc5]
  refine aa rfl fun K HK=>?_;clear WO HI hc5;simp only[e1,e5];go_simp;exact HK.out _ _ ⟨undef,by simp[upd,e1,e5],HP.out⟩
 case finR =>
  rintro o ho l fq w' hall hI;obtain rfl:=Option.some.inj ho;obtain⟨b,e1,hbb,hm⟩:=hI.c1 (hall 1 (by omega));obtain⟨g5,e5,hg5,hc5⟩:=hI.a5 (hall 5 (by omega));obtain⟨g6,e6,Y3,hc6⟩:=hI.a6 (hall 6 (by omega));have e4:=hI.v4 (hall 4 (by omega));rw[hall 7 (by omega),if_pos rfl,e1]at hc5;have x1:w'.cell? ⟨g6,0,none⟩=some (.string ⟨#[]⟩):=by simp[World.cell?,hc6]
  have x2:w'.cell? ⟨g6,1,none⟩=some (.string ⟨#[]⟩):=by simp[World.cell?,hc6]
  have x3:∀y,w'.frozen? ⟨g6,y,none⟩=false:=fun y=>by simp[World.frozen?,hc6]
  have h56:g5≠g6:=fun e=>by subst e;rw[hc5]at hc6;injection hc6 with hc6;injection hc6 with _ q4;exact absurd q4 (by decide)
  have hb6:b≠g6:=fun e=>BS (b:=b) hm (by rw[e];exact hc6);obtain⟨W9,YF⟩:=eQx ((w'.setCell ⟨g6,0,none⟩ (.string typ)).setCell ⟨g6,1,none⟩ (.string rel));have ho9:∀k,k≠g6->W9.heap[k]?=w'.heap[k]?:=fun k hk=>by rw[YF,Below.heap_setCell _ _ _ k hk,Below.heap_setCell _ _ _ k hk]
  have HB9:Hid (ag w2 W9):=by show Below _ _ _;rw[YF];exact(hI.bel.setCell Y3 _).setCell Y3 _
  have HM9:Hid (aJ dw prog 146 W9 b 36 (jY rs)):=by show aJ _ _ _ _ _ _ _;rw[YF];exact(hm.setCell hb6 _).setCell hb6 _
  have hc69:W9.heap[g6]?=some (.cells #[.string typ,.string rel] 146 (0,0)):=by rw[YF];exact Od hc6
  have hc59:=(ho9 g5 h56).trans hc5;have HC9:Hid ((W9.cell? ⟨g6,0,none⟩=some (.string typ)/\W9.cell? ⟨g6,1,none⟩=some (.string rel)/\W9.cell? ⟨g5,0,none⟩=some (.map (some b)))/\g5<W9.heap.size/\g6<W9.heap.size):=⟨⟨by simp[World.cell?,hc69],by simp[World.cell?,hc69],by simp[World.cell?,hc59]⟩,lt_of_some hc59,lt_of_some hc69⟩;refine aa rfl fun K HK=>?_;clear hc5 hc6 hc59 hc69 ho9 h56 hb6 hm hbb hg5 Y3;simp only[e4,e6];go_simp;refine HK.out _ _ ?_;rw[<-YF];clear ho HK K hI YF e1 e4 e5 e6 x1 x2 x3 hall;obtain⟨y0,hy0⟩:∃y,y=fq 0:=⟨_,rfl⟩;rw[<-hy0];obtain⟨y2,hy2⟩:∃y,y=fq 2:=⟨_,rfl⟩;rw[<-hy2];obtain⟨y3,hy3⟩:∃y,y=fq 3:=⟨_,rfl⟩;rw[<-hy3];clear hy0 hy2 hy3 fq l;have HBW9:Hid (ag w W9):=HB2.out.trans (HB9.out.mono HB2.out.size);have HCW9:Hid (W9.cell? ⟨w.heap.size,0,none⟩=some (.string typ)/\W9.cell? ⟨w.heap.size+1,0,none⟩=some (.string rel)/\w.heap.size+1<W9.heap.size):=⟨kept HB9.out (by have:=Xk.out.2.2;omega) Xk.out.1,kept HB9.out Xk.out.2.2 Xk.out.2.1,Vt Xk.out.2.2 HB9.out.size⟩;have z0:=HCW9.out.1;have z1:=HCW9.out.2.1;have z2:=HC9.out.1.1;have z3:=HC9.out.1.2.1;have z4:=HC9.out.1.2.2;have YW:=HTAB.out.some_iff (typ,rel);go_wp2_with fail;refine(vY b 36 (jY rs) typ rel _ ht hr HM9.out).mono ?_;rintro e w9 ⟨rfl,hw9⟩;replace hw9:=hw9.symm;subst hw9;cases hm:(jY rs (typ,rel)).isSome;case false=>
   have HN:Hid (ic (ae rs) typ rel=none):=by
    rw[hm]at YW;replace YW:false=!(ak (ae rs) typ rel).isEmpty:=YW;show _=_;unfold ic;rw[<-YW];simp
   clear hm YW;go_wp2;refine bodyPost_ret (v:=.tuple #[.slice none 0 0,.bool false]) ?_ rfl (jJ HN.out HBW9.out);simp[results,Tryz.results36,go_sem]
  have HNE:Hid ((!(ak (ae rs) typ rel).isEmpty)=true):=by
   rw[hm]at YW;exact YW.symm
  clear hm YW;go_wp2_with fail;refine(FT 91 #[] #[.pointer (some ⟨g6,0,none⟩),.pointer (some ⟨w.heap.size+1,0,none⟩),.pointer (some ⟨g5,0,none⟩),.pointer (some ⟨w.heap.size,0,none⟩)] (iM (ae rs) typ rel) ad cap rs W9 (HS.out.below HBW9.out) h6 X0.out (fun t ht q hq=>(HEX.out t ht q hq).2.1) Q6 (fun t ZL q hqm x hx hk3 w1 hb1=>?ask)).mono ?_;case ask =>
   have hfx:=((WT.out t ZL).2.2 q hqm).2.2 x hx;exact Q7 g6 (w.heap.size+1) g5 w.heap.size b 36 rs ad (jY rs) typ rel t.name q.name x w1 (HM9.out.below hb1) HTAB.out (HS.out.below (HBW9.out.trans (hb1.mono HBW9.out.size))) HL.out WT.out (Oe HL.out _ _ _) (WT.out t ZL).1 hfx.2.1 hfx.2.2.1 ⟨Vt HC9.out.2.2 hb1.size,Vt HCW9.out.2.2 hb1.size,Vt HC9.out.2.1 hb1.size,by have:=HCW9.out.2.2;have:=hb1.size;omega⟩ ⟨kept hb1 HC9.out.2.2 z2,kept hb1 HC9.out.2.2 z3,kept hb1 HCW9.out.2.2 z1,kept hb1 HC9.out.2.1 z4,kept hb1 (by have:=HCW9.out.2.2;omega) z0⟩
  rintro e wA ⟨rfl,hbA⟩;have HBA:=iX HBW9 hbA;replace z2:=kept hbA HC9.out.2.2 z2;replace z3:=kept hbA HC9.out.2.2 z3;clear hbA z0 z1 z4;cases hov:FQ (iM (ae rs) typ rel) (ae rs);case true=>
   have HN:Hid (ic (ae rs) typ rel=none):=by show _=_;unfold ic;rw[hov];simp
   clear hov;go_wp2;refine bodyPost_ret (v:=.tuple #[.slice none 0 0,.bool false]) ?_ rfl (jJ HN.out HBA.out);simp[results,Tryz.results36,go_sem]
  have HPD:Hid (ic (ae rs) typ rel=if aD (jc typ rel (ae rs))=true then some (jc typ rel (ae rs)) else none):=by
   show _=_;unfold ic;rw[HD.out,HNE.out,hov];simp
  clear hov;go_wp2_with fail;refine(IG typ rel ad cap rs wA (HS.out.below HBA.out) h6 X0.out).mono ?_;rintro e wB ⟨v1,q1,rfl,hwm,hcut,hbB⟩;have HBB:=iX HBA hbB;have HCUT:=aM hcut;have hmem:∀t∈q1,∃s∈rs,t.name=s.name/\∀r∈t.rows,r∈s.rows:=fun t ht=>by
   obtain⟨s,hs,e1,e2⟩:=hcut.mem t ht;exact⟨s,hs,e1,fun r hr=>by rw[e2]at hr;exact(Wo.1 hr).1⟩
  have hokB:∀t∈q1,∀r∈t.rows,r.ok wB:=fun t ht r hr=>by
   obtain⟨s,hs,-,e2⟩:=hmem t ht;exact F5.mem (jK.mem (HS.out.below HBB.out) hs) (e2 r hr)
  obtain⟨ad1,cap1,rfl,hs1⟩:=UD.read hwm hokB;have HOKB:=aM hokB;have HS1:=aM hs1;have HMEM:=aM hmem;have YL:Hid (SmallS (fun _ e=>[e]) q1):=by
   refine⟨by rw[hcut.len];exact h6,fun t ht=>?_,fun t ht q hq=>?_,fun t ht q hq=>?_,fun t ht q hq x hx=>?_,fun t ht q hq x hx=>?_⟩
   ·obtain⟨s,hs,-,e2⟩:=hcut.mem t ht;rw[e2];exact Vz (List.length_filter_le _ _) (X0.out s hs)
   all_goals
    obtain⟨s,hs,-,e2⟩:=hmem t ht;have hx0:=HEX.out s hs q (e2 q hq);have hl0:=((HL.out s hs).2 q (e2 q hq)).2
   ·exact hx0.2.1
   ·exact Aw hx0.1
   ·refine⟨by simp,fun m hm=>?_⟩;rw[VO]at hm;subst hm;refine⟨hl0 x hx,fun y hy=>?_⟩;have h1:=hx0.2.2 x hx y hy;have h2:=hx0.2.1;omega
   exact hl0 x hx
  clear hwm hcut hbB hmem hokB hs1 z2 z3;go_wp2_with fail;refine(wT 99 #[] #[] (fun _ e=>[e]) ad1 cap1 q1 wB HS1.out YL.out Q5 (fun t ht q hq x hx _=>KQ t.name x wB ?okx)).mono ?_;case okx =>
   have h0:=HOKB.out t ht q hq;rcases h0 with h0|⟨_,_,_,_,_,h0⟩
   ·rw[h0]at hx;cases hx
   exact h0 x hx
  rintro e wC ⟨v2,q2,rfl,ZL,htq,hbC⟩;have HBC:=iX HBB hbC;obtain⟨ZP,cap2,rfl,hs2,hc2⟩:=eZ.read ZL;have hq1:AB (fun _ e=>[e]) (ae q1)=ae q1:=M5 fun t ht r hr=>by
   obtain⟨t',ht',rfl⟩:=VE.1 ht;obtain⟨r',hr',rfl⟩:=VE.1 hr;exact YL.out.low t' ht' r' hr'
  have hq12:ae q2=ae q1:=htq.trans hq1;have hl1:∀t∈q1,t.light:=fun t ht=>by
   obtain⟨s,hs,-,e2⟩:=HMEM.out t ht;exact⟨Vz (YL.out.r6 t ht) (by omega),fun q hq=>(HL.out s hs).2 q (e2 q hq)⟩
  have hf1:∀t∈q1,t.fits:=fun t ht=>by
   obtain⟨s,hs,e1,e2⟩:=HMEM.out t ht;exact⟨by rw[e1];exact(WT.out s hs).1,Vz (YL.out.r6 t ht) (by unfold maxLen;omega),fun q hq=>(WT.out s hs).2.2 q (e2 q hq)⟩
  have HTQ:Hid (ae q2=jc typ rel (ae rs)):=hq12.trans HCUT.out.eqT;have HTM2:=aM ZL;have HS2:=aM hs2;have HC2':=aM hc2;have HL2:=aM (Uj hq12 hl1);have XU:=aM (U2 hq12 hf1);have hlen2:q2.length<=1048576:=by rw[Vp hq12,HCUT.out.len];omega
  have HWB:Hid (w.heap.size<=wB.heap.size):=HBB.out.size;clear ZL htq hbC hs2 hc2 hq1 hq12 hl1 hf1;go_wp2_with fail;refine(II ZP cap2 q2 wC hlen2 HS2.out HL2.out XU.out HC2'.out).mono ?_;rintro e wD ⟨rfl,hbD⟩;have YO:=iX HBC hbD;have HTD:Hid (eZ wD w.heap.size (.slice ZP q2.length cap2) q2):=eZ.mono (WP.below ko HTM2.out hbD) HWB.out;clear hbD;cases hd2:aD (ae q2);case false=>
   have HN:Hid (ic (ae rs) typ rel=none):=by show _=_;rw[HPD.out,<-HTQ.out,hd2];rfl
   clear hd2;unfold Vg;go_wp2;refine bodyPost_ret (v:=.tuple #[.slice none 0 0,.bool false]) ?_ rfl (jJ HN.out YO.out);simp[results,Tryz.results36,go_sem]
  have HN:Hid (ic (ae rs) typ rel=some (ae q2)):=by show _=_;rw[HPD.out,<-HTQ.out,hd2];rfl
  clear hd2;unfold Vg;go_wp2;refine bodyPost_ret (v:=.tuple #[.slice ZP q2.length cap2,.bool true]) ?_ rfl ⟨.slice ZP q2.length cap2,q2,by rw[HN.out];rfl,by rw[HN.out];rfl,HTD.out,YO.out⟩;simp[results,Tryz.results36,go_sem]
theorem IJ{a b:ByteArray}(h:a.toList=b.toList):a=b:=by
 rw[Go.ByteArray.toList_eq,Go.ByteArray.toList_eq]at h;exact ByteArray.ext (Array.toList_inj.1 h)
theorem oZ{a b:ByteArray}(h:(a.toList==b.toList)=true):a=b:=IJ (by simpa using h)
theorem Q8{rs:Q06}(h:aD (ae rs)=true){t:TR}(ht:t∈rs){q:RR}(hq:q∈t.rows){x:ER}(hx:x∈q.rows)(hk:x.e.kind=3){typ rel:ByteArray}(hkey:fM t.name q.name typ rel=false):xe (iM (ae rs) typ rel) t.name q.name x.e=((x.e.name.toList==rel.toList)&&yP (d9 (ae rs) t.name x.e.over rel) typ):=by
 have hSP:=aG.1 h;have hr:=hSP.2.1;unfold gI at hr;rw[VF]at hr;have h2:=hr t.p (VS ht);unfold qA at h2;rw[VF]at h2;have h4:aQ (ae rs) t.name (ai q.rows)=true:=h2 q.p (VS hq);have h5:=(xy h4 x.e (VS hx)).2;unfold kZ at h5;rw[if_neg (by omega),if_pos hk,Vw]at h5;unfold xe iM;rw[hkey,decide_eq_true hk];cases hn:(x.e.name.toList==rel.toList);case false=>rfl
 rw[oZ hn];unfold dU;rw[if_pos h5.1];rfl
theorem KR{rs:Q06}(hl:∀r∈rs,r.light)(tn over nm:bi):(d9 (ae rs) tn over nm).length<=1048576:=by
 unfold d9;refine Vz (zS _ _ _) ?_;unfold ak;cases e:dZ (ae rs) tn over with
 | none=>exact Vy _
 | some es =>
  obtain⟨t,ht,q,hq,-,-,h⟩:=mZ e;show(aN es).length<=_;rw[<-h];exact pu _ ((hl t ht).2 q hq).2
theorem yj(a b c d:bi):fM a b c d=fM c d a b:=by
 unfold fM;rw[Bool.beq_comm,Bool.beq_comm (a:=b.toList)]
theorem SF{ts:Q0b}{typ rel tn rn:ByteArray}(h:fM tn rn typ rel=true)(e:Ex):xe (iM ts typ rel) tn rn e=false:=by
 unfold xe iM;rw[h];simp
theorem jK.row{w:af}{b off:Nat}{rs:Q06}(h:jK w (some ⟨b,off,none⟩) rs){k:Nat}(hk:k<rs.length):Pe w b (off+k*2) rs[k]/\b<w.heap.size:=by
 rcases h with h|⟨b',off',e,hb,hr,-⟩
 ·rw[h]at hk;simp at hk
 injection e with e;injection e with e1 e2;subst e1;subst e2;exact⟨hr k hk,hb⟩
theorem F5.row{w:af}{ad:Q02}{rs:Q07}(h:F5 w ad rs){k:Nat}(hk:k<rs.length):∃b off,ad=some ⟨b,off,none⟩/\AtR w b (off+k*2) rs[k]/\b<w.heap.size:=by
 rcases h with h|⟨b',off',e,hb,hr,-⟩
 ·rw[h]at hk;simp at hk
 exact⟨b',off',e,hr k hk,hb⟩
theorem jo.row{w:af}{ad:Q02}{rs:Q08}(h:jo w ad rs){k:Nat}(hk:k<rs.length):∃b off,ad=some ⟨b,off,none⟩/\ve w b (off+k*5) rs[k]/\b<w.heap.size:=by
 rcases h with h|⟨b',off',e,hb,hr,-⟩
 ·rw[h]at hk;simp at hk
 exact⟨b',off',e,hr k hk,hb⟩
theorem Pe.kept{w w':af}{b off:Nat}{t:TR}(h:Pe w b off t)(hb:b<w.heap.size)(hB:ag w w'):Pe w' b off t:=h.later hb hB
theorem IK{typ rel:ByteArray}{rs qs:Q06}(h:ae qs=jc typ rel (ae rs)):∀t∈qs,∃s∈rs,t.name=s.name/\t.rows.length<=s.rows.length/\∀q∈t.rows,∃q'∈s.rows,q.name=q'.name/\ai q.rows=ai q'.rows:=by
 intro t ht;have h1:t.p∈ae qs:=VS ht;rw[h]at h1;obtain⟨s',hs',e⟩:=VE.1 h1;obtain⟨s,hs,rfl⟩:=VE.1 hs';injection e with e1 e2;refine⟨s,hs,e1.symm,?_,fun q hq=>?_⟩
 ·rw[<-dz,<-e2];exact Vz (List.length_filter_le _ _) (by show(bQ s.rows).length<=_;rw[dz];exact Vu _)
 have h2:q.p∈bQ t.rows:=VS hq;rw[<-e2]at h2;obtain⟨q',hq',e3⟩:=VE.1 (Wo.1 h2).1;injection e3 with e4 e5;exact⟨q',hq',e4.symm,e5.symm⟩
theorem Eg{typ rel:ByteArray}{rs qs:Q06}(h:ae qs=jc typ rel (ae rs))(hl:∀r∈rs,r.light):∀r∈qs,r.light:=fun t ht=>by
 obtain⟨s,hs,-,e2,e3⟩:=IK h t ht;refine⟨Vz e2 (hl s hs).1,fun q hq=>?_⟩;obtain⟨q',hq',-,e5⟩:=e3 q hq;have:=(hl s hs).2 q' hq';exact⟨by rw[<-ay,e5,ay];exact this.1,Sg e5 this.2⟩
theorem IL{typ rel:ByteArray}{rs qs:Q06}(h:ae qs=jc typ rel (ae rs))(hl:∀r∈rs,r.fits):∀r∈qs,r.fits:=fun t ht=>by
 obtain⟨s,hs,e1,e2,e3⟩:=IK h t ht;refine⟨by rw[e1];exact(hl s hs).1,Vz e2 (hl s hs).2.1,fun q hq=>?_⟩;obtain⟨q',hq',e4,e5⟩:=e3 q hq;have:=(hl s hs).2.2 q' hq';exact⟨by rw[e4];exact this.1,by rw[<-ay,e5,ay];exact this.2.1,Sg e5 this.2.2⟩
theorem BV(ad:Q02)(cap:Nat)(rs:Q06)(typ rel:bi)(w:af)(hlen:rs.length<=1048576)(hs:jK w ad rs)(hl:∀r∈rs,r.light)(hf:∀r∈rs,r.fits):
  Calls prog 37 #[.slice ad rs.length cap,.string typ,.string rel] w (Uv w (ic (ae rs) typ rel)):=by
 obtain⟨iR,ZV,zR0,zR1,zR2⟩:=info_parts (P:=prog) (e:=39) (z:=.agg #[.string ⟨#[]⟩,.slice none 0 0]) (size:=2) (bytes:=40) (by kernel_rfl);obtain⟨iT,Zg,Zh,Zi,Zj⟩:=info_parts (P:=prog) (e:=36) (z:=.agg #[.string ⟨#[]⟩,.slice none 0 0]) (size:=2) (bytes:=40) (by kernel_rfl);have Yo:Hid (prog.info? 39=some iR/\iR.zero=some (.agg #[.string ⟨#[]⟩,.slice none 0 0])/\iR.size=2/\iR.bytes=40):=⟨ZV,zR0,zR1,zR2⟩;have HIT:Hid (prog.info? 36=some iT/\iT.zero=some (.agg #[.string ⟨#[]⟩,.slice none 0 0])/\iT.size=2/\iT.bytes=40):=⟨Zg,Zh,Zi,Zj⟩;have HS:=aM hs;have HL:=aM hl;have WT:=aM hf;clear hs hl hf ZV zR0 zR1 zR2 Zg Zh Zi Zj;go_enter func37,ntmps37;go_wp2_with fail;refine(fV ad cap rs _ hlen HS.out HL.out WT.out).mono ?_;rintro e w1 ⟨rfl,hb1⟩;have HB1:=az hb1;clear hb1;cases hd:aD (ae rs);case false=>
  have HN:Hid (ic (ae rs) typ rel=none):=by show _=_;unfold ic;rw[hd];rfl
  clear hd;go_wp2;refine bodyPost_ret (v:=.tuple #[.slice none 0 0,.bool false]) ?_ rfl (jJ HN.out HB1.out);simp[results,Tryz.results37,go_sem]
 have HD:=aM hd;have hSP:=aG.1 hd;obtain⟨h6,XA,hex⟩:=aW hSP.1;have X0:=aM XA;have HEX:=aM hex;clear hd hSP XA hex;go_wp2_with fail;refine(jy ad cap rs typ rel _ hlen (HS.out.below HB1.out) HL.out).mono ?_;rintro e w2 ⟨⟨Zn,WW,capE,rfl,hex0,-,-⟩,hw2⟩;replace hw2:=hw2.symm;subst hw2;replace hex0:ai Zn=ak (ae rs) typ rel:=hex0;by_cases hz0:Zn=[]
 ·have HN:Hid (ic (ae rs) typ rel=none):=by
   have e:ak (ae rs) typ rel=[]:=by rw[<-hex0,hz0];rfl
   show _=_;unfold ic;rw[e];simp
  have hlz:(Zn.length:Int)=0:=by rw[hz0];rfl
  clear hz0 hex0;go_wp2;refine bodyPost_ret (v:=.tuple #[.slice none 0 0,.bool false]) ?_ rfl (jJ HN.out HB1.out);simp[results,Tryz.results37,go_sem]
 have hlz:¬(Zn.length:Int)=0:=fun h=>hz0 (VM.1 (by omega));have hlz2:((Zn.length:Int)==0)=false:=by simpa using hlz
 have HNE:Hid ((!(ak (ae rs) typ rel).isEmpty)=true):=by
  show _=_;rw[<-hex0];cases Zn with
  | nil=>exact absurd rfl hz0
  | cons a b=>rfl
 have HPD:Hid (FQ (iM (ae rs) typ rel) (ae rs)=false->ic (ae rs) typ rel=if aD (jc typ rel (ae rs))=true then some (jc typ rel (ae rs)) else none):=fun h=>by
  unfold ic;rw[HD.out,HNE.out,h];simp
 have HPN:Hid (FQ (iM (ae rs) typ rel) (ae rs)=true->ic (ae rs) typ rel=none):=fun h=>by unfold ic;rw[h];simp
 have HYES:Hid (∀t∈rs,∀q∈t.rows,∀x∈q.rows,xe (iM (ae rs) typ rel) t.name q.name x.e=true->FQ (iM (ae rs) typ rel) (ae rs)=true):=fun t ht q hq x hx h=>VX.2 ⟨t.p,VS ht,VX.2 ⟨q.p,VS hq,VX.2 ⟨x.e,VS hx,h⟩⟩⟩;have Yp:Hid ((∀k (hk:k<rs.length),∀q∈rs[k].rows,∀x∈q.rows,xe (iM (ae rs) typ rel) rs[k].name q.name x.e=false)->FQ (iM (ae rs) typ rel) (ae rs)=false):=fun h=>by
  rw[FQ,List.any_eq_false];rintro t' ht';obtain⟨t,ht,rfl⟩:=VE.1 ht';obtain⟨k,hk,rfl⟩:=V4 ht;rw[Bool.not_eq_true,Rp,List.any_eq_false];rintro q' hq';obtain⟨q,hq,rfl⟩:=VE.1 hq';rw[Bool.not_eq_true,Ro,List.any_eq_false];rintro x' hx';obtain⟨x,hx,rfl⟩:=VE.1 hx';rw[Bool.not_eq_true];exact h k hk q hq x hx
 clear hz0 hex0;obtain⟨W0,hW0⟩:=eQx (w1.alloc (.cells #[] 36));have HX0:Hid (eZ W0 w.heap.size (.slice (some ⟨w1.heap.size,0,none⟩) 0 0) []):=by
  show WP _ _ _ _ _ _ _ _ _;rw[hW0];exact⟨World.ownsRow_lit w1 #[] 0 HB1.out.size (by unfold maxLen;omega) (by simp),fun q hq=>(by cases hq),fun q hq=>(by cases hq),fun x y hx=>absurd hx (by simp)⟩
 have HB0:Hid (ag w W0):=by show Below _ _ _;rw[hW0];exact HB1.out.alloc HB1.out.size _
 go_wp2_with fail;rw[<-hW0];clear hW0;go_loopw[8,9] (fun v i wr=>∃(k:Nat) (qs:Q06),k<=rs.length/\i=.int .i64 k/\Hid (eZ wr w.heap.size v qs)/\Hid (ae qs=(jc typ rel (ae rs)).take k)/\Hid (∀k' (hk:k'<rs.length),k'<k->∀q∈rs[k'].rows,∀x∈q.rows,xe (iM (ae rs) typ rel) rs[k'].name q.name x.e=false)/\Hid (ag w wr)) (fun _ i _=>rs.length-(intOf i).toNat);case atStart=>exact⟨0,[],Vy _,rfl,HX0,by show _=_;simp[ae],fun _ _ h=>absurd h (Wm _),HB0⟩
 clear HX0 HB0;obtain⟨k,qs,hk,rfl,HX,HQ,HKN,HB⟩:=hrel;obtain⟨wo,hwo⟩:=eQx wr;subst hwo;have HQL:Hid (qs.length=k):=by
  show _=_;rw[<-df,HQ.out,V9];simp[jc,df];omega
 have hql6:qs.length<=6:=by rw[HQL.out];omega
 by_cases hlt:k<rs.length
 ·rcases HS.out with hnil|⟨b,off,WR,hb0,-,-⟩
  ·rw[hnil]at hlt;simp at hlt
  subst WR;have YW:Hid (rs[k]∈rs):=Vs hlt;have XA:rs[k].rows.length<=6:=X0.out _ (Vs hlt);have hk1:=bI k;have hk2:(k:Int)<(rs.length:Int):=by omega
  have HTR:=aM (HS.out.row hlt);obtain⟨t0,t1⟩:=HTR.out.1.kept HTR.out.2 HB.out;have Xc:Hid (rs[k].ok w):=jK.mem HS.out (Vs hlt);obtain⟨W2,hW2⟩:=eQx (wo.alloc (.cells #[.string rs[k].name,.slice none 0 0] 36));have HB2:=qC hW2;have WQ:Hid (W2.cell? ⟨wo.heap.size,0,none⟩=some (.string rs[k].name)/\W2.cell? ⟨wo.heap.size,1,none⟩=some (.slice none 0 0)/\W2.frozen? ⟨wo.heap.size,1,none⟩=false/\W2.heap.size=wo.heap.size+1):=by
   show _/\_;rw[hW2];exact⟨by simp,by simp,by simp,by simp⟩
  clear hb0;go_wp2_with fail;rw[<-hW2];clear hW2 t0 t1;go_loopw[11] (fun i wr=>∃(j:Nat) (v2:Value) (rows:Q07),j<=rs[k].rows.length/\i=.int .i64 j/\Hid (wr.cell? ⟨wo.heap.size,0,none⟩=some (.string rs[k].name)/\wr.cell? ⟨wo.heap.size,1,none⟩=some v2/\wr.frozen? ⟨wo.heap.size,1,none⟩=false)/\Hid (jX wr (wo.heap.size+1) v2 rows)/\Hid (bQ rows=((bQ rs[k].rows).take j).filter fun r=>!fM typ rel rs[k].name r.name)/\Hid (∀j' (hj:j'<rs[k].rows.length),j'<j->∀x∈rs[k].rows[j'].rows,xe (iM (ae rs) typ rel) rs[k].name rs[k].rows[j'].name x.e=false)/\Hid (Below wo.heap.size W2 wr)) (fun i _=>rs[k].rows.length-(intOf i).toNat);case atStart=>exact⟨0,.slice none 0 0,[],Vy _,rfl,⟨WQ.out.1,WQ.out.2.1,WQ.out.2.2.1⟩,mI _ _,by show _=_;simp[bQ],fun _ _ h=>absurd h (Wm _),Vv _ _⟩
  obtain⟨j,v2,rows,hj,rfl,HN,HR,HRQ,HJN,HB3⟩:=hrel;obtain⟨wi,hwi⟩:=eQx wr;subst hwi;have HZ2:Hid (W2.heap.size=wo.heap.size+1):=WQ.out.2.2.2;have XI:Hid (ag wo wi):=HB2.out.trans HB3.out;have HBI:Hid (ag w wi):=HB.out.trans (XI.out.mono HB.out.size);have Zo:Hid (rows.length<=j):=by
   show _<=_;rw[<-dz,HRQ.out];exact Vz (List.length_filter_le _ _) (by rw[V9];omega)
  have hrl6:rows.length<=6:=by have:=Zo.out;omega
  obtain⟨t0,t1⟩:=HTR.out.1.kept HTR.out.2 HBI.out;have hTw:wo.heap.size+1<=wi.heap.size:=by have:=HB3.out.size;have:=HZ2.out;omega
  by_cases hjt:j<rs[k].rows.length
  ·obtain⟨b2,WV,XC,hrow2,hbl2⟩:=F5.row Xc.out hjt;have HQM:Hid (rs[k].rows[j]∈rs[k].rows):=Vs hjt;have HOE:Hid (jo w rs[k].rows[j].ad rs[k].rows[j].rows):=F5.mem Xc.out (Vs hjt);have hej:rs[k].rows[j].rows.length<=15:=(HEX.out _ YW.out _ HQM.out).2.1;obtain⟨s0,s1⟩:=hrow2.later hbl2 HBI.out;rw[XC]at t1;have yb:b<wi.heap.size:=Vt HTR.out.2 HBI.out.size;have yb2:b2<wi.heap.size:=Vt hbl2 HBI.out.size;have hj1:=bI j;have hj2:(j:Int)<(rs[k].rows.length:Int):=by omega
   obtain⟨W3,hW3⟩:=eQx (wi.alloc (.cells #[.string rs[k].rows[j].name,.slice rs[k].rows[j].ad rs[k].rows[j].rows.length rs[k].rows[j].cap] 39));have Xi:=qC hW3;have HRF:Hid (RFs wo.heap.size wi.heap.size wo.heap.size v2 rs[k].name rs[k].rows[j].name (.slice rs[k].rows[j].ad rs[k].rows[j].rows.length rs[k].rows[j].cap) W3):=by
    have h1:wo.heap.size<wi.heap.size:=by omega
    refine⟨kept Xi.out h1 HN.out.1,kept Xi.out h1 HN.out.2.1,qM Xi.out h1 HN.out.2.2,by rw[hW3];simp,by rw[hW3];simp,kept Xi.out h1 HN.out.1,?_⟩;rw[hW3];simp;omega
   have Y0:Hid (jX W3 (wo.heap.size+1) v2 rows):=WP.below qF HR.out Xi.out;have Y7:Hid (ag w W3):=HBI.out.trans (Xi.out.mono HBI.out.size);have hNw:wo.heap.size<wi.heap.size:=by omega
   cases hke:fM rs[k].name rs[k].rows[j].name typ rel;case true=>
    have HRQ2:Hid (bQ rows=((bQ rs[k].rows).take (j+1)).filter fun r=>!fM typ rel rs[k].name r.name):=by
     show _=_;rw[Vx (by rw[dz];exact hjt),WF,<-HRQ.out];have e:(bQ rs[k].rows)[j]'(by rw[dz];exact hjt)=rs[k].rows[j].p:=by simp[bQ]
     rw[e];rw[yj]at hke;simp[RR.p,hke]
    have HJN2:Hid (∀j' (hj:j'<rs[k].rows.length),j'<j+1->∀x∈rs[k].rows[j'].rows,xe (iM (ae rs) typ rel) rs[k].name rs[k].rows[j'].name x.e=false):=fun j' hj' h x hx=>by
     by_cases e:j'=j
     ·subst e;exact SF hke x.e
     exact HJN.out j' hj' (by omega) x hx
    have h3:(rs[k].name.toList==typ.toList)=true:=by unfold fM at hke;rw[Vw]at hke;exact hke.1
    have h4:(rs[k].rows[j].name.toList==rel.toList)=true:=by unfold fM at hke;rw[Vw]at hke;exact hke.2
    have ZQ:Hid (W3.cell? ⟨wo.heap.size,0,none⟩=some (.string rs[k].name)/\W3.cell? ⟨wo.heap.size,1,none⟩=some v2/\W3.frozen? ⟨wo.heap.size,1,none⟩=false):=⟨HRF.out.n0,HRF.out.n1,HRF.out.fz⟩;have XL:Hid (Below wo.heap.size W2 W3):=HB3.out.trans (Xi.out.mono (by omega));clear hke;go_wp2;rw[<-hW3];go_roundw;case rel=>exact⟨j+1,v2,rows,by omega,by go_num,ZQ,Y0,HRQ2,HJN2,XL⟩
    simp[intOf]<;>omega
   have HKE:=aM hke;have hkn:=FP hke;clear hke;rcases hkn with⟨h3,h4⟩|h3
   all_goals
    go_wp2_with fail;rw[<-hW3];clear hW3 t0 t1 s0 s1 h3
    try clear h4
    go_loopw[13] (fun i wr=>∃m:Nat,m<=rs[k].rows[j].rows.length/\i=.int .i64 m/\Hid (∀m' (hm:m'<rs[k].rows[j].rows.length),m'<m->xe (iM (ae rs) typ rel) rs[k].name rs[k].rows[j].name rs[k].rows[j].rows[m'].e=false)/\Hid (ag W3 wr)) (fun i _=>rs[k].rows[j].rows.length-(intOf i).toNat);case atStart=>exact⟨0,Vy _,rfl,fun _ _ h=>absurd h (Wm _),Vv _ _⟩
    obtain⟨m,hm,rfl,HM,ZE⟩:=hrel;have HRFM:=az (HRF.out.below ZE.out);have WS:Hid (ag w wr):=Y7.out.trans (ZE.out.mono Y7.out.size);have r1:=HRFM.out.r1;by_cases hmt:m<rs[k].rows[j].rows.length
    ·obtain⟨b3,XB,hadr3,hrow3,Zy⟩:=jo.row HOE.out hmt;have HXM:Hid (rs[k].rows[j].rows[m]∈rs[k].rows[j].rows):=Vs hmt;obtain⟨q0,-,q2,q3,-⟩:=hrow3.same fun o=>WS.out.cell (p:=⟨b3,o,none⟩) Zy;obtain⟨t0,-⟩:=HTR.out.1.kept HTR.out.2 WS.out;rw[hadr3]at r1;have hm1:=bI m;have hm2:(m:Int)<(rs[k].rows[j].rows.length:Int):=by omega
     have Yh:Hid (xe (iM (ae rs) typ rel) rs[k].name rs[k].rows[j].name rs[k].rows[j].rows[m].e=false->∀m' (hm:m'<rs[k].rows[j].rows.length),m'<m+1->xe (iM (ae rs) typ rel) rs[k].name rs[k].rows[j].name rs[k].rows[j].rows[m'].e=false):=fun h m' hm' hl=>by
      by_cases e:m'=m
      ·subst e;exact h
      exact HM.out m' hm' (by omega)
     have HAE:Hid (rs[k].rows[j].rows[m].e.kind=3->xe (iM (ae rs) typ rel) rs[k].name rs[k].rows[j].name rs[k].rows[j].rows[m].e=((rs[k].rows[j].rows[m].e.name.toList==rel.toList)&&yP (d9 (ae rs) rs[k].name rs[k].rows[j].rows[m].e.over rel) typ)):=fun h=>Q8 HD.out YW.out HQM.out HXM.out h HKE.out;clear hadr3 hrow3;by_cases hkind:rs[k].rows[j].rows[m].e.kind=3
     ·have HAE2:=aM (HAE.out hkind);cases hnm:(rs[k].rows[j].rows[m].e.name.toList==rel.toList);case false=>
       have Xl:=aM (Yh.out (by rw[HAE2.out,hnm];rfl));go_wp2_with fail;go_quiet (fail);have ZC:=aM (FU ZE.out nq);go_wp2;go_roundw;case rel=>exact⟨m+1,by omega,by go_num,Xl,ZC⟩
       simp[intOf]<;>omega
      have y1:wi.heap.size<wr.heap.size:=HRFM.out.lt.2.1;have y2:b<wr.heap.size:=Vt HTR.out.2 WS.out.size;have y3:b3<wr.heap.size:=Vt Zy WS.out.size;have HKP:Hid (∀w1 w3:World,(w1.cell? ⟨b,off+k*2,none⟩=some (.string rs[k].name)/\w1.cell? ⟨wi.heap.size,1,none⟩=some (.slice (some ⟨b3,XB,none⟩) rs[k].rows[j].rows.length rs[k].rows[j].cap)/\w1.cell? ⟨b3,XB+m*5,none⟩=some (.int .i64 3)/\w1.cell? ⟨b3,XB+m*5+2,none⟩=some (.string rs[k].rows[j].rows[m].e.over)/\w1.cell? ⟨b3,XB+m*5+3,none⟩=some (.string rs[k].rows[j].rows[m].e.name)/\ag wr w1)->ag w1 w3->(w3.cell? ⟨b,off+k*2,none⟩=some (.string rs[k].name)/\w3.cell? ⟨wi.heap.size,1,none⟩=some (.slice (some ⟨b3,XB,none⟩) rs[k].rows[j].rows.length rs[k].rows[j].cap)/\w3.cell? ⟨b3,XB+m*5,none⟩=some (.int .i64 3)/\w3.cell? ⟨b3,XB+m*5+2,none⟩=some (.string rs[k].rows[j].rows[m].e.over)/\w3.cell? ⟨b3,XB+m*5+3,none⟩=some (.string rs[k].rows[j].rows[m].e.name)/\ag wr w3)):=fun w1 w3 h hb=>by
       obtain⟨p0,p1,p2,p3,p4,hB⟩:=h;have hz:=hB.size;exact⟨kept hb (Vt y2 hz) p0,kept hb (Vt y1 hz) p1,kept hb (Vt y3 hz) p2,kept hb (Vt y3 hz) p3,kept hb (Vt y3 hz) p4,hB.trans (hb.mono hz)⟩
      have HBS:Hid (∀w1:World,(w1.cell? ⟨b,off+k*2,none⟩=some (.string rs[k].name)/\w1.cell? ⟨wi.heap.size,1,none⟩=some (.slice (some ⟨b3,XB,none⟩) rs[k].rows[j].rows.length rs[k].rows[j].cap)/\w1.cell? ⟨b3,XB+m*5,none⟩=some (.int .i64 3)/\w1.cell? ⟨b3,XB+m*5+2,none⟩=some (.string rs[k].rows[j].rows[m].e.over)/\w1.cell? ⟨b3,XB+m*5+3,none⟩=some (.string rs[k].rows[j].rows[m].e.name)/\ag wr w1)->ag w w1):=fun w1 h=>WS.out.trans (h.2.2.2.2.2.mono WS.out.size);have HGF:=aM (KR HL.out rs[k].name rs[k].rows[j].rows[m].e.over rel);cases hin:yP (d9 (ae rs) rs[k].name rs[k].rows[j].rows[m].e.over rel) typ;case false=>
       have Xl:=aM (Yh.out (by rw[HAE2.out,hnm,hin];rfl));rw[hkind]at q0;go_wp2_with fail
       go_region_held3 (fun w'=>w'.cell? ⟨b,off+k*2,none⟩=some (.string rs[k].name)/\w'.cell? ⟨wi.heap.size,1,none⟩=some (.slice (some ⟨b3,XB,none⟩) rs[k].rows[j].rows.length rs[k].rows[j].cap)/\w'.cell? ⟨b3,XB+m*5,none⟩=some (.int .i64 3)/\w'.cell? ⟨b3,XB+m*5+2,none⟩=some (.string rs[k].rows[j].rows[m].e.over)/\w'.cell? ⟨b3,XB+m*5+3,none⟩=some (.string rs[k].rows[j].rows[m].e.name)/\ag wr w')
        (first|assumption|exact HKP.out _ _ (by assumption) hbx|exact⟨t0,r1,q0,q2,q3,(Vv _ _).drew⟩)
        (first|(go_at_call 103;refine(nI _ cap rs rs[k].name rs[k].rows[j].rows[m].e.over rel _ hlen (HS.out.below (HBS.out _ (by assumption))) HL.out).mono ?_;rintro e w' ⟨⟨adg,capg,rfl,hsg,-⟩,hbx⟩)|(go_at_call 102;refine(Hy adg capg _ typ _ HGF.out hsg).mono ?_;rintro e w' ⟨rfl,rfl⟩))
       rename_i hH;have ZC:Hid (ag W3 _):=ZE.out.trans (hH.2.2.2.2.2.mono ZE.out.size);clear hH;go_wp2;go_roundw;case rel=>exact⟨m+1,by omega,by go_num,Xl,ZC⟩
       simp[intOf]<;>omega
      have HNO2:=aM (HPN.out (HYES.out _ YW.out _ HQM.out _ HXM.out (by rw[HAE2.out,hnm,hin];rfl)));rw[hkind]at q0;go_wp2_with fail
      go_region_held3 (fun w'=>w'.cell? ⟨b,off+k*2,none⟩=some (.string rs[k].name)/\w'.cell? ⟨wi.heap.size,1,none⟩=some (.slice (some ⟨b3,XB,none⟩) rs[k].rows[j].rows.length rs[k].rows[j].cap)/\w'.cell? ⟨b3,XB+m*5,none⟩=some (.int .i64 3)/\w'.cell? ⟨b3,XB+m*5+2,none⟩=some (.string rs[k].rows[j].rows[m].e.over)/\w'.cell? ⟨b3,XB+m*5+3,none⟩=some (.string rs[k].rows[j].rows[m].e.name)/\ag wr w')
       (first|assumption|exact HKP.out _ _ (by assumption) hbx|exact⟨t0,r1,q0,q2,q3,(Vv _ _).drew⟩)
       (first|(go_at_call 103;refine(nI _ cap rs rs[k].name rs[k].rows[j].rows[m].e.over rel _ hlen (HS.out.below (HBS.out _ (by assumption))) HL.out).mono ?_;rintro e w' ⟨⟨adg,capg,rfl,hsg,-⟩,hbx⟩)|(go_at_call 102;refine(Hy adg capg _ typ _ HGF.out hsg).mono ?_;rintro e w' ⟨rfl,rfl⟩))
      rename_i hH;have ZC:=aM (HBS.out _ hH);clear hH;go_wp2;refine bodyPost_ret (v:=.tuple #[.slice none 0 0,.bool false]) ?_ rfl (jJ HNO2.out ZC.out);simp[results,Tryz.results37,go_sem]
     have Xl:=aM (Yh.out (by unfold xe;rw[decide_eq_false hkind];rfl));have hkd:(rs[k].rows[j].rows[m].e.kind==3)=false:=by simpa using hkind
     have hkd2:decide (rs[k].rows[j].rows[m].e.kind=3)=false:=decide_eq_false hkind;clear hkind;go_wp2_with fail;go_quiet (fail);have ZC:=aM (FU ZE.out nq);go_wp2;go_roundw;case rel=>exact⟨m+1,by omega,by go_num,Xl,ZC⟩
     simp[intOf]<;>omega
    obtain rfl:m=rs[k].rows[j].rows.length:=by omega
    have HJN2:Hid (∀j' (hj:j'<rs[k].rows.length),j'<j+1->∀x∈rs[k].rows[j'].rows,xe (iM (ae rs) typ rel) rs[k].name rs[k].rows[j'].name x.e=false):=fun j' hj' h x hx=>by
     by_cases e:j'=j
     ·subst e;obtain⟨i,hi,rfl⟩:=V4 hx;exact HM.out i hi hi
     exact HJN.out j' hj' (by omega) x hx
    obtain⟨wx,hwx⟩:=eQx wr;subst hwx;go_wp2_with fail;have Zc:Hid (wo.heap.size+1<=wx.heap.size):=by have:=Xi.out.size;have:=ZE.out.size;show _<=_;omega
    have HRO:Hid (jX wi (wo.heap.size+1) v2 rows):=HR.out;have HBWX:Hid (ag w wx):=WS.out;have HRM2:Hid (jX wx (wo.heap.size+1) v2 rows):=WP.below qF Y0.out ZE.out;clear Y0 HRF;have Y0:=HRM2;have HRF:=HRFM;obtain⟨CV,hCV⟩:∃C:Nat->Value,C=fun n=>((Value.pointer (some ⟨wo.heap.size,1,none⟩))::(v2)::(Value.pointer (some ⟨wi.heap.size,0,none⟩))::(Value.string rs[k].rows[j].name)::(Value.pointer (some ⟨wi.heap.size,1,none⟩))::(Value.slice rs[k].rows[j].ad rs[k].rows[j].rows.length rs[k].rows[j].cap)::(undef)::(undef)::(undef)::(undef)::(Value.pointer (some ⟨wo.heap.size,1,none⟩))::[]).getD n undef:=⟨_,rfl⟩;have XQ:Hid (CV 0=Value.pointer (some ⟨wo.heap.size,1,none⟩)/\CV 1=v2/\CV 2=Value.pointer (some ⟨wi.heap.size,0,none⟩)/\CV 3=Value.string rs[k].rows[j].name/\CV 4=Value.pointer (some ⟨wi.heap.size,1,none⟩)/\CV 5=Value.slice rs[k].rows[j].ad rs[k].rows[j].rows.length rs[k].rows[j].cap/\CV 6=undef/\CV 7=undef/\CV 8=undef/\CV 9=undef/\CV 10=Value.pointer (some ⟨wo.heap.size,1,none⟩)):=by show _/\_;rw[hCV];exact⟨rfl,rfl,rfl,rfl,rfl,rfl,rfl,rfl,rfl,rfl,rfl⟩
    clear hCV;refine eT 11 _ _ (G.CH 6 (fun _=>[]) CV (RFs wo.heap.size wi.heap.size wo.heap.size (v2) rs[k].name rs[k].rows[j].name (Value.slice rs[k].rows[j].ad rs[k].rows[j].rows.length rs[k].rows[j].cap)) (Below wx.heap.size wx) (C1 wx (ai rs[k].rows[j].rows)) (fun x=>.agg #[.string rs[k].rows[j].name,x]) (C3 wx rs[k].rows[j].name (ai rs[k].rows[j].rows)) (C4 wx wo.heap.size rows rs[k].rows[j].name (ai rs[k].rows[j].rows))) (by kernel_rfl) rfl (by kernel_rfl) (fun o ho l fq w' hI hp=>?KJ) (yt [(111,[0,1,2,3,4,5,6,7,8,9,10])]) (G.ch_start (HRF.out.below (Vv _ _).drew) (Vv _ _).drew) ?stepR ?finR<;>try dsimp only[wY]
    case KJ =>
     cases ho;intro k hk;have hc:=F7 (i:=k) (by omega)
     repeat' rcases hc with rfl|hc
     ·exact hp ⟨0,.phase⟩ (by simp) rfl
     ·exact hp ⟨1,.phase⟩ (by simp) rfl
     ·exact hp ⟨2,.phase⟩ (by simp) rfl
     ·exact hp ⟨3,.phase⟩ (by simp) rfl
     ·exact hp ⟨4,.phase⟩ (by simp) rfl
     ·exact hp ⟨5,.phase⟩ (by simp) rfl
     ·exact hp ⟨6,.phase⟩ (by simp) rfl
     ·exact hp ⟨7,.phase⟩ (by simp) rfl
     ·exact hp ⟨8,.phase⟩ (by simp) rfl
     ·exact hp ⟨9,.phase⟩ (by simp) rfl
     exact hp ⟨10,.data⟩ (by simp) rfl
    case stepR =>
     rintro i hi o ho l fq w' Xb hI hpre;have HI:Hid (G.CH 6 (fun _=>[]) CV (RFs wo.heap.size wi.heap.size wo.heap.size (v2) rs[k].name rs[k].rows[j].name (Value.slice rs[k].rows[j].ad rs[k].rows[j].rows.length rs[k].rows[j].cap)) (Below wx.heap.size wx) (C1 wx (ai rs[k].rows[j].rows)) (fun x=>.agg #[.string rs[k].rows[j].name,x]) (C3 wx rs[k].rows[j].name (ai rs[k].rows[j].rows)) (C4 wx wo.heap.size rows rs[k].rows[j].name (ai rs[k].rows[j].rows)) l fq w'):=hI;have WO:Hid (∀e∈o.after,Region.binds .any e=true->l e.on=true):=hpre;have HRW:Hid (RFs wo.heap.size wi.heap.size wo.heap.size (v2) rs[k].name rs[k].rows[j].name (Value.slice rs[k].rows[j].ad rs[k].rows[j].rows.length rs[k].rows[j].cap) w'):=hI.rf;clear hI hpre;have hc:=F7 (i:=i) (by omega);clear hi
     repeat' rcases hc with rfl|hc
     ·cases ho;have HP:=aM (HI.out.put (i:=0) (by omega) (fun j hj=>by cases hj) XQ.out.1.symm);refine aa rfl fun K HK=>?_;clear WO HI;dsimp only;go_simp;exact HK.out _ _ ⟨_,by simp[upd],HP.out⟩
     ·cases ho;have e0:fq 0=.pointer (some ⟨wo.heap.size,1,none⟩):=(HI.out.val 0 (by omega) (WO.out ⟨0,.data⟩ (by simp) rfl)).trans XQ.out.1;have x1:=HRW.out.n1;have HP:=aM (HI.out.put (i:=1) (by omega) (fun j hj=>by cases hj) XQ.out.2.1.symm);refine aa rfl fun K HK=>?_;clear WO HI;simp only[e0];go_simp;exact HK.out _ _ ⟨_,by simp[upd,e0],HP.out⟩
     ·cases ho;have HP:=aM (HI.out.put (i:=2) (by omega) (fun j hj=>by cases hj) XQ.out.2.2.1.symm);refine aa rfl fun K HK=>?_;clear WO HI;dsimp only;go_simp;exact HK.out _ _ ⟨_,by simp[upd],HP.out⟩
     ·cases ho;have e2:fq 2=.pointer (some ⟨wi.heap.size,0,none⟩):=(HI.out.val 2 (by omega) (WO.out ⟨2,.data⟩ (by simp) rfl)).trans XQ.out.2.2.1;have x1:=HRW.out.r0;have HP:=aM (HI.out.put (i:=3) (by omega) (fun j hj=>by cases hj) XQ.out.2.2.2.1.symm);refine aa rfl fun K HK=>?_;clear WO HI;simp only[e2];go_simp;exact HK.out _ _ ⟨_,by simp[upd,e2],HP.out⟩
     ·cases ho;have HP:=aM (HI.out.put (i:=4) (by omega) (fun j hj=>by cases hj) XQ.out.2.2.2.2.1.symm);refine aa rfl fun K HK=>?_;clear WO HI;dsimp only;go_simp;exact HK.out _ _ ⟨_,by simp[upd],HP.out⟩
     ·cases ho;have e4:fq 4=.pointer (some ⟨wi.heap.size,1,none⟩):=(HI.out.val 4 (by omega) (WO.out ⟨4,.data⟩ (by simp) rfl)).trans XQ.out.2.2.2.2.1;have x1:=HRW.out.r1;have HP:=aM (HI.out.put (i:=5) (by omega) (fun j hj=>by cases hj) XQ.out.2.2.2.2.2.1.symm);refine aa rfl fun K HK=>?_;clear WO HI;simp only[e4];go_simp;exact HK.out _ _ ⟨_,by simp[upd,e4],HP.out⟩
     ·cases ho;have e5:fq 5=.slice rs[k].rows[j].ad rs[k].rows[j].rows.length rs[k].rows[j].cap:=(HI.out.val 5 (by omega) (WO.out ⟨5,.data⟩ (by simp) rfl)).trans XQ.out.2.2.2.2.2.1;have Y6:=aM (HI.out.m0 Xb).1;refine aa rfl fun K HK=>?_;clear WO;simp only[e5];go_simp;refine(Fy _ _ rs[k].rows[j].rows w' hej (HOE.out.below (HBWX.out.trans (Y6.out.mono HBWX.out.size))) (((HL.out _ YW.out).2 _ HQM.out).2)).mono ?_;rintro e w9 ⟨v9,qs9,rfl,hn9,he9,XZ⟩;obtain⟨ad9,Yr,rfl⟩:=ik hn9.own;have HP:=aM (HI.out.call Xb (fun j hj=>by cases hj) (HRW.out.below XZ) (show C1 wx (ai rs[k].rows[j].rows) (.slice ad9 qs9.length Yr) w9 from ⟨ad9,Yr,qs9,rfl,NodM.mono hn9 Y6.out.size,he9,Y6.out.trans (XZ.mono Y6.out.size)⟩));clear hn9 he9 XZ HI HRW Y6;go_wp2_with fail;exact HK.out _ _ ⟨_,by simp[upd,e5],HP.out⟩
     ·cases ho;have e3:fq 3=.string rs[k].rows[j].name:=(HI.out.val 3 (by omega) (WO.out ⟨3,.data⟩ (by simp) rfl)).trans XQ.out.2.2.2.1;have hc0:=WO.out ⟨6,.data⟩ (by simp) rfl;obtain⟨ad9,Yr,qs9,e6,-⟩:=(HI.out.m1 hc0 Xb).1;have HP:=aM (HI.out.build hc0 Xb (fun j hj=>by cases hj) (v:=.agg #[.string rs[k].rows[j].name,.slice ad9 qs9.length Yr]) (by rw[e6]));refine aa rfl fun K HK=>?_;clear WO HI;simp only[e3,e6];go_simp;exact HK.out _ _ ⟨_,by simp[upd,e3,e6],HP.out⟩
     ·cases ho;have hc1:=WO.out ⟨7,.data⟩ (by simp) rfl;obtain⟨eB,hM1,-,-⟩:=HI.out.m2 hc1 Xb;have Xu:=aM hM1;obtain⟨ad9,Yr,qs9,e6,-⟩:=hM1;replace eB:fq 7=.agg #[.string rs[k].rows[j].name,.slice ad9 qs9.length Yr]:=by rw[eB,e6]
      rw[e6]at Xu;have HP:=aM (HI.out.lay hc1 Xb (fun j hj=>by cases hj) (HRW.out.below ((Vv _ _).alloc (Vu _) _)) (C1.lay (rn:=rs[k].rows[j].name) Xu.out));refine aa rfl fun K HK=>?_;clear WO HI Xu;simp only[eB];go_simp;exact HK.out _ _ ⟨_,by simp[upd,eB,e6],HP.out⟩
     ·cases ho;have e1:fq 1=v2:=(HI.out.val 1 (by omega) (WO.out ⟨1,.data⟩ (by simp) rfl)).trans XQ.out.2.1;have hc2:=WO.out ⟨8,.data⟩ (by simp) rfl;obtain⟨b9,q9,e8,hnew9,hk9,hp9,XZ⟩:=(HI.out.m3 hc2 Xb).1;have hown:w'.ownsRow (wo.heap.size+1) 39 2 (v2) rows.length (rows.flatMap RR.cells):=bF Y0.out.own fun g hg=>XZ.block g (Y0.out.own.lt g hg).2;refine gP w' rfl rfl _ _ 34 rfl (wo.heap.size+1) 39 iR _ 2 40 underlying34 Yo.out.1 Yo.out.2.1 Yo.out.2.2.1 Yo.out.2.2.2 rfl (by decide) (v2) rows.length (rows.flatMap RR.cells) (by simp[Act.eval,e1]) hown ⟨b9,0,none⟩ 1 1 (RR.cells q9) (by simp[Act.eval,e8]) rfl hnew9 (by simp[RR.cells,RR.vs,Value.oneCell']) (by unfold maxLen;omega) (by omega) (by have:=XZ.size;have:=Zc.out;omega) ?_;intro v' w2 hown2 WZ YV;exact⟨v',by simp[upd,Act.put],HI.out.app hc2 Xb (fun j hj=>by cases hj) (HRW.out.heap WZ.size fun g hg=>WZ.block g (by have:=HRW.out.lt;rcases hg with rfl|rfl|rfl<;>omega) (fun e=>by have h1:=(Y0.out.own.lt g e.symm).1;have h2:=(HRO.out.own.lt g e.symm).2;rcases hg with rfl|rfl|rfl<;>omega)) (C3.app (W0:=wx) Y0.out Zc.out hk9 hp9 XZ hown2 WZ YV)⟩
     cases ho;have HP:=aM (HI.out.put (i:=10) (by omega) (fun j hj=>by cases hj) XQ.out.2.2.2.2.2.2.2.2.2.2.symm);refine aa rfl fun K HK=>?_;clear WO HI;dsimp only;go_simp;exact HK.out _ _ ⟨_,by simp[upd],HP.out⟩
    case finR =>
     rintro o ho l fq w' hall hI;obtain rfl:=Option.some.inj ho;obtain⟨YY,cap4,q4,e9,hRM4,hqp4,hb4⟩:=(hI.m4 (hall 9 (by omega))).1;have e10:fq 10=.pointer (some ⟨wo.heap.size,1,none⟩):=(hI.val 10 (.inr rfl) (hall 10 (by omega))).trans XQ.out.2.2.2.2.2.2.2.2.2.2;have n1:=hI.rf.n1;have fz:=hI.rf.fz;have HRW:=aM hI.rf;rw[e9]at hRM4;have HRM4:=aM hRM4;have HQP4:=aM hqp4;have XJ:=aM hb4;clear hRM4 hqp4 hb4 hall;refine aa rfl fun K HK=>?_;simp only[e9,e10];go_simp;refine HK.out _ _ ?_;clear ho HK K hI XQ e9 e10;obtain⟨y0,hy0⟩:∃y,y=fq 0:=⟨_,rfl⟩;rw[<-hy0];obtain⟨y1,hy1⟩:∃y,y=fq 1:=⟨_,rfl⟩;rw[<-hy1];obtain⟨y2,hy2⟩:∃y,y=fq 2:=⟨_,rfl⟩;rw[<-hy2];obtain⟨y3,hy3⟩:∃y,y=fq 3:=⟨_,rfl⟩;rw[<-hy3];obtain⟨y4,hy4⟩:∃y,y=fq 4:=⟨_,rfl⟩;rw[<-hy4];obtain⟨y5,hy5⟩:∃y,y=fq 5:=⟨_,rfl⟩;rw[<-hy5];obtain⟨y6,hy6⟩:∃y,y=fq 6:=⟨_,rfl⟩;rw[<-hy6];obtain⟨y7,hy7⟩:∃y,y=fq 7:=⟨_,rfl⟩;rw[<-hy7];obtain⟨y8,hy8⟩:∃y,y=fq 8:=⟨_,rfl⟩;rw[<-hy8];clear hy0 hy1 hy2 hy3 hy4 hy5 hy6 hy7 hy8 fq l CV;have ZQ:Hid ((w'.setCell ⟨wo.heap.size,1,none⟩ (.slice YY (rows.length+1) cap4)).cell? ⟨wo.heap.size,0,none⟩=some (.string rs[k].name)/\(w'.setCell ⟨wo.heap.size,1,none⟩ (.slice YY (rows.length+1) cap4)).cell? ⟨wo.heap.size,1,none⟩=some (.slice YY (rows.length+1) cap4)/\(w'.setCell ⟨wo.heap.size,1,none⟩ (.slice YY (rows.length+1) cap4)).frozen? ⟨wo.heap.size,1,none⟩=false):=⟨by rw[gV (by omega)];exact HRW.out.n0,mD n1,by simpa using fz⟩;have YR:Hid (jX (w'.setCell ⟨wo.heap.size,1,none⟩ (.slice YY (rows.length+1) cap4)) (wo.heap.size+1) (.slice YY (rows.length+1) cap4) (rows++[q4])):=WP.heap qF HRM4.out (by simp) fun g hg=>Below.heap_setCell _ _ _ g (by have:=(WP.lt qF HRM4.out hg).1;show g≠wo.heap.size;omega);have HQX:Hid (bQ (rows++[q4])=((bQ rs[k].rows).take (j+1)).filter fun r=>!fM typ rel rs[k].name r.name):=by
      show _=_;have e:(bQ rs[k].rows)[j]'(by rw[dz];exact hjt)=rs[k].rows[j].p:=by simp[bQ]
      have hke:=HKE.out;rw[yj]at hke;rw[IB,HRQ.out,HQP4.out,Vx (by rw[dz];exact hjt),WF,e];simp[RR.p,hke]
     have XL:Hid (Below wo.heap.size W2 (w'.setCell ⟨wo.heap.size,1,none⟩ (.slice YY (rows.length+1) cap4))):=(((HB3.out.trans (Xi.out.mono (by omega))).trans (ZE.out.mono (by have:=Xi.out.size;omega))).trans (XJ.out.mono (by omega))).setCell (by show _<=wo.heap.size;omega) _;clear n1 fz HRW HRM4 XJ HRF Y0 HRO HN HR;go_wp2_with fail;go_roundw;case rel=>exact⟨j+1,.slice YY (rows.length+1) cap4,rows++[q4],by omega,by go_num,ZQ,YR,HQX,HJN2,XL⟩
     simp[intOf]<;>omega
  obtain rfl:j=rs[k].rows.length:=by omega
  have HKN2:Hid (∀k' (hk:k'<rs.length),k'<k+1->∀q∈rs[k'].rows,∀x∈q.rows,xe (iM (ae rs) typ rel) rs[k'].name q.name x.e=false):=fun k' hk' h q hq x hx=>by
   by_cases e:k'=k
   ·subst e;obtain⟨i,hi,rfl⟩:=V4 hq;exact HJN.out i hi hi x hx
   exact HKN.out k' hk' (by omega) q hq x hx
  have hown2:=HR.out.own;obtain⟨ZP,cap2,rfl⟩:=ik hown2;obtain⟨q,hq⟩:∃q:TR,q=⟨rs[k].name,rows,ZP,cap2⟩:=⟨_,rfl⟩;have HQP:Hid (q.p=Q3 typ rel rs[k].p):=by
   show _=_;rw[hq];have e:=HRQ.out;rw[VZ (by rw[dz];exact Vu _)]at e;simp[TR.p,Q3,e]
  obtain⟨W4,Xn⟩:=eQx (wi.alloc (.cells #[.string rs[k].name,.slice ZP rows.length cap2] 36));have YD:=qC Xn;have XY:Hid (ag wo W4):=XI.out.trans (YD.out.mono XI.out.size);have XM:Hid (∀j u,(TR.cells q)[j]?=some u->W4.cell? ((⟨wi.heap.size,0,none⟩:Addr).add j)=some u):=by rw[Xn,hq];exact nu wi _ _ _
  have HKQ:Hid (kT W4 (wo.heap.size+1) q):=by rw[hq];exact WP.below qF HR.out YD.out
  have YX:Hid (W4.ownsRow w.heap.size 36 2 u8 qs.length (qs.flatMap TR.cells)):=bF HX.out.own fun g hg=>XY.out.block g (HX.out.own.lt g hg).2;have HWW:Hid (w.heap.size<=wo.heap.size):=HB.out.size;obtain⟨n0,n1,-⟩:=HN.out;clear hq hown2;go_wp2_with(at_builtin;go_must (rw[<-Xn];clear Xn;refine wpList_append_own_at _ rfl _ _ 24 rfl w.heap.size 36 iT (.agg #[.string ⟨#[]⟩,.slice none 0 0]) 2 40 underlying24 HIT.out.1 HIT.out.2.1 HIT.out.2.2.1 HIT.out.2.2.2 rfl (by decide) u8 qs.length (qs.flatMap TR.cells) rfl YX.out ⟨wi.heap.size,0,none⟩ 1 1 (TR.cells q) rfl rfl XM.out (by simp[TR.cells,TR.vs,Value.oneCell']) (by unfold maxLen;omega) (by omega) (Vz HWW.out XY.out.size) ?_));intro v5 w5 hown5 hgr5 _ hv5;have HX5:Hid (eZ w5 w.heap.size v5 (qs++[q])):=WP.snocN ko HX.out XY.out hown5 hgr5 (hv5.imp id fun e=>⟨_,e,Vu _⟩) (jX.mono HKQ.out (by have:=HWW.out;omega)) (fun g hg=>by have:=(ko.lt W4 _ q HKQ.out g hg).1;omega);have HQ5:Hid (ae (qs++[q])=(jc typ rel (ae rs)).take (k+1)):=by
   show _=_;rw[IC,HQ.out,HQP.out,Vx (by simp[jc,df];exact hlt)];simp[jc,ae]
  have Xg:Hid (ag w w5):=(HB.out.trans (XY.out.mono HB.out.size)).grown hgr5 (Vz HWW.out XY.out.size) (fun g hg=>(HX.out.own.lt g hg).1);clear hown5 hgr5 hv5 n0 n1 t0 t1 YX XM HKQ HN HR;go_wp2;go_roundw;case rel=>exact⟨k+1,qs++[q],by omega,by go_num,HX5,HQ5,HKN2,Xg⟩
  simp[intOf]<;>omega
 obtain rfl:k=rs.length:=by omega
 have HTQ:Hid (ae qs=jc typ rel (ae rs)):=by
  show _=_;rw[HQ.out,VZ (by simp[jc,df])]
 have HPD2:=aM (HPD.out (Yp.out fun k' hk'=>HKN.out k' hk' hk'));obtain⟨Yg,XN,rfl,hso,-⟩:=eZ.read HX.out;have HSO:=aM hso;have HLO:=aM (Eg HTQ.out HL.out);have HFO:=aM (IL HTQ.out WT.out);clear hso;go_wp2_with fail;refine(fV Yg XN qs _ (by omega) HSO.out HLO.out HFO.out).mono ?_;rintro e wD ⟨rfl,hbD⟩;have YO:=iX HB hbD;have HTD:Hid (eZ wD w.heap.size (.slice Yg qs.length XN) qs):=WP.below ko HX.out hbD;clear hbD;cases hd2:aD (ae qs);case false=>
  have HN:Hid (ic (ae rs) typ rel=none):=by show _=_;rw[HPD2.out,<-HTQ.out,hd2];rfl
  clear hd2;go_wp2;refine bodyPost_ret (v:=.tuple #[.slice none 0 0,.bool false]) ?_ rfl (jJ HN.out YO.out);simp[results,Tryz.results37,go_sem]
 have HN:Hid (ic (ae rs) typ rel=some (ae qs)):=by show _=_;rw[HPD2.out,<-HTQ.out,hd2];rfl
 clear hd2;go_wp2;refine bodyPost_ret (v:=.tuple #[.slice Yg qs.length XN,.bool true]) ?_ rfl ⟨.slice Yg qs.length XN,qs,by rw[HN.out];rfl,by rw[HN.out];rfl,HTD.out,YO.out⟩;simp[results,Tryz.results37,go_sem]
end Go.Proofs.YtojjoblnpldniaaGreat
