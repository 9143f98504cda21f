/- Contract of the program's look whether a tuple fits its table. -/
import Derived.Test.YtojjoblnpldniaaGreatSq
import Derived.Test.YtojjoblnpldniaaGreatJ19
import Derived.Test.YtojjoblnpldniaaGreatJ15
open Go.Proofs.Tryz
set_option maxHeartbeats 80000000
namespace Go.Proofs.YtojjoblnpldniaaGreat
open ChangeShapes WideShapes ChangeAt RowKit Maps
open Pl
def nJ(a:Al)(e:Ex):Bool:=decide (e.kind=1)&&dG e.allow e.allow.length a
def sW(ts:Q0b)(ty rel:ByteArray)(a:Al):Bool:=(az ts ty rel).any (nJ a)
theorem fit_drop(a:Al)(rows:Q08)(k:Nat)(h:k<rows.length):(aj (rows.drop k)).any (nJ a)=(nJ a rows[k].e || (aj (rows.drop (k+1))).any (nJ a)):=by
 rw[gu _ _ h];rfl
set_option maxRecDepth 100000 in
theorem Hq(b n:Nat)(rs:Q06)(ad:Q02)(M:ByteArray×ByteArray->Option Value)(oa ob r c d s:bQ)(w:ae)(hV:aJ dU prog 146 w b n M)(hT:Tab rs M)(hs:mP w ad rs)(hl:∀r∈rs,r.light)(ho:oa.size<=maxLen)(hr:r.size<=maxLen):
  Calls prog 64 #[.map (some b),.agg #[.string oa,.string ob,.string r,.string c,.string d,.string s]] w fun e w'=>e=.returned (.bool (sW (af rs) oa r ⟨c,s⟩))/\ag w w':=by
 have HT:=aC hT;have HS:=aC hs;have HL:=aC hl;obtain⟨kl,hkl⟩:=kv (oa,r) ho hr;have Xw:Hid (keyOf prog 146 (dU (oa,r))=some kl):=hkl;obtain⟨W0,hW0⟩:∃W0,W0=(w.alloc (.cells #[.string oa,.string ob,.string r,.string c,.string d,.string s] 29)).alloc (.cells #[.string c,.string s] 216):=⟨_,rfl⟩;have hal:ag w W0:=by
  rw[hW0]
  repeat(first|exact Vs _ _|refine Below.alloc ?_ (by first|(simp;done)|(simp;omega)) _)
 have HB0:=aC hal;have HV0:=aC (hV.below hal);have XR:Hid (W0.cell? ⟨w.heap.size+1,0,none⟩=some (.string c)/\W0.cell? ⟨w.heap.size+1,1,none⟩=some (.string s)/\w.heap.size+1<W0.heap.size):=⟨by rw[hW0];simp,by rw[hW0];simp,by rw[hW0];simp⟩;obtain⟨rows,WM,capE,HM,HE,HF⟩:∃(rows:Q08) (WM:Q02) (capE:Nat),Hid ((M (oa,r)).getD (.slice none 0 0)=.slice WM rows.length capE)/\Hid (aj rows=az (af rs) oa r)/\Hid (pV rs WM rows):=by
  cases e:M (oa,r) with
  | none=>exact⟨[],none,0,rfl,by show _=_;unfold az;rw[HT.out.no _ e];rfl,.inl rfl⟩
  | some v =>
   obtain⟨t,htm,q,hq,-,rfl,e1,-⟩:=HT.out.yes _ v e;exact⟨q.rows,q.ad,q.cap,rfl,by show _=_;unfold az;rw[e1];rfl,.inr ⟨t,htm,q,hq,rfl,rfl⟩⟩
 have XA:=HF.out.light HL.out;have HLE1:rows.length<=1048576:=XA.1;have HLE2:Hid (∀q∈rows,q.e.light):=XA.2;have Y5:Hid (jw w WM rows):=HF.out.sl HS.out;clear hV hT hs hl hkl hal XA;go_enter func64,ntmps64;go_wp2_with(at_lookup;rw[<-hW0];refine jA _ rfl _ _ 102 rfl 146 37 iY underlying102 (rT _) b n M rfl HV0.out (oa,r) kl rfl Xw.out ?_;rw[HM.out];clear hW0);go_loopw[23] (fun i wr=>∃k:Nat,k<=rows.length/\i=.int .i64 k/\Hid ((aj (rows.drop k)).any (nJ ⟨c,s⟩)=(aj rows).any (nJ ⟨c,s⟩))/\Hid (ag w wr)/\Hid (wr.cell? ⟨w.heap.size+1,0,none⟩=some (.string c)/\wr.cell? ⟨w.heap.size+1,1,none⟩=some (.string s)/\w.heap.size+1<wr.heap.size)) (fun i _=>rows.length-(intOf i).toNat);case atStart=>exact⟨0,Vv _,rfl,rfl,HB0,XR⟩
 clear HB0 XR HV0;obtain⟨k,hk,rfl,HP,HB,HC⟩:=hrel;by_cases hlt:k<rows.length
 ·rcases Y5.out.below HB.out with hnil|⟨bE,offE,Z7,hbE,hrE,hok⟩
  ·rw[hnil]at hlt;simp at hlt
  obtain⟨t0,t1,t2,t3,t4⟩:=hrE k hlt;have XN:Hid (rows[k].ok wr):=hok _ (Vp hlt);have lgA:rows[k].e.allow.length<=1048576:=(HLE2.out _ (Vp hlt)).1;have hk1:=bC k;have hk2:(k:Int)<(rows.length:Int):=by omega
  obtain⟨x0,x1,x2⟩:=HC.out;have HD:Hid ((aj rows).any (nJ ⟨c,s⟩)=(nJ ⟨c,s⟩ rows[k].e || (aj (rows.drop (k+1))).any (nJ ⟨c,s⟩))):=by show _=_;rw[<-HP.out];exact fit_drop _ _ _ hlt
  obtain⟨W1,hW1⟩:∃W1,W1=wr.alloc (.cells #[.int .i64 rows[k].e.kind,.slice rows[k].adA rows[k].e.allow.length rows[k].capA,.string rows[k].e.over,.string rows[k].e.name,.slice rows[k].adK rows[k].e.kids.length rows[k].capK] 43):=⟨_,rfl⟩;have hal:ag wr W1:=by rw[hW1];exact(Vs _ _).alloc (Vr _) _
  have HB1:=iJ HB hal;have XC:Hid (W1.cell? ⟨w.heap.size+1,0,none⟩=some (.string c)/\W1.cell? ⟨w.heap.size+1,1,none⟩=some (.string s)/\w.heap.size+1<W1.heap.size):=⟨aA hal x2 x0,aA hal x2 x1,Vq x2 hal.size⟩;have HA1:Hid (lu W1 rows[k].adA rows[k].e.allow):=XN.out.1.below hal;rw[Z7];clear hrE hok hal HC;by_cases h1:rows[k].e.kind=1
  ·have hq1:(rows[k].e.kind==1)=true:=by simpa using h1
   have YO:Hid (nJ ⟨c,s⟩ rows[k].e=dG rows[k].e.allow rows[k].e.allow.length ⟨c,s⟩):=by show _=_;unfold nJ;simp[h1]
   replace h1:Hid (rows[k].e.kind=1):=h1;go_wp2_with fail;rw[<-hW1];refine(vQ rows[k].adA rows[k].e.allow.length rows[k].capA rows[k].e.allow ⟨c,s⟩ _ (Vr _) lgA HA1.out).mono ?_;rintro e w2 ⟨rfl,hb2⟩;have HB2:=iJ HB1 hb2;have Xg:Hid (w2.cell? ⟨w.heap.size+1,0,none⟩=some (.string c)/\w2.cell? ⟨w.heap.size+1,1,none⟩=some (.string s)/\w.heap.size+1<w2.heap.size):=⟨aA hb2 XC.out.2.2 XC.out.1,aA hb2 XC.out.2.2 XC.out.2.1,Vq XC.out.2.2 hb2.size⟩;clear hb2 hW1 t0 t1 t2 t3 t4 x0 x1;cases hz:dG rows[k].e.allow rows[k].e.allow.length ⟨c,s⟩;case true=>
    have HN:Hid (sW (af rs) oa r ⟨c,s⟩=true):=by show _=_;unfold sW;rw[<-HE.out,HD.out,YO.out,hz];rfl
    go_wp2;go_ret;exact⟨by rw[HN.out];rfl,HB2.out⟩
   have WQ:Hid ((aj (rows.drop (k+1))).any (nJ ⟨c,s⟩)=(aj rows).any (nJ ⟨c,s⟩)):=by show _=_;rw[HD.out,YO.out,hz];rfl
   go_wp2;go_roundw;case rel=>exact⟨k+1,by omega,by go_num,WQ,HB2,Xg⟩
   simp[intOf]<;>omega
  have hq1:(rows[k].e.kind==1)=false:=by simpa using h1
  have WQ:Hid ((aj (rows.drop (k+1))).any (nJ ⟨c,s⟩)=(aj rows).any (nJ ⟨c,s⟩)):=by show _=_;rw[HD.out];simp[nJ,h1]
  have Xh:Hid (ag w (wr.alloc (.cells #[.int .i64 rows[k].e.kind,.slice rows[k].adA rows[k].e.allow.length rows[k].capA,.string rows[k].e.over,.string rows[k].e.name,.slice rows[k].adK rows[k].e.kids.length rows[k].capK] 43))):=by rw[<-hW1];exact HB1
  have HCX:Hid ((wr.alloc (.cells #[.int .i64 rows[k].e.kind,.slice rows[k].adA rows[k].e.allow.length rows[k].capA,.string rows[k].e.over,.string rows[k].e.name,.slice rows[k].adK rows[k].e.kids.length rows[k].capK] 43)).cell? ⟨w.heap.size+1,0,none⟩=some (.string c)/\(wr.alloc (.cells #[.int .i64 rows[k].e.kind,.slice rows[k].adA rows[k].e.allow.length rows[k].capA,.string rows[k].e.over,.string rows[k].e.name,.slice rows[k].adK rows[k].e.kids.length rows[k].capK] 43)).cell? ⟨w.heap.size+1,1,none⟩=some (.string s)/\w.heap.size+1<(wr.alloc (.cells #[.int .i64 rows[k].e.kind,.slice rows[k].adA rows[k].e.allow.length rows[k].capA,.string rows[k].e.over,.string rows[k].e.name,.slice rows[k].adK rows[k].e.kids.length rows[k].capK] 43)).heap.size):=by rw[<-hW1];exact XC
  clear hW1;go_wp2;go_roundw;case rel=>exact⟨k+1,by omega,by go_num,WQ,Xh,HCX⟩
  simp[intOf]<;>omega
 have HN:Hid (sW (af rs) oa r ⟨c,s⟩=false):=by show _=_;unfold sW;rw[<-HE.out,<-HP.out,VN (by omega)];rfl
 go_wp2;go_ret;exact⟨by rw[HN.out];rfl,HB.out⟩
set_option linter.unusedVariables false
set_option maxRecDepth 100000
theorem QC:∃i,prog.info? 29=some i/\i.zero=some (.agg #[.string ⟨#[]⟩,.string ⟨#[]⟩,.string ⟨#[]⟩,.string ⟨#[]⟩,.string ⟨#[]⟩,.string ⟨#[]⟩])/\i.size=6/\i.bytes=96 :=
 info_parts (P:=prog) (e:=29) (z:=.agg #[.string ⟨#[]⟩,.string ⟨#[]⟩,.string ⟨#[]⟩,.string ⟨#[]⟩,.string ⟨#[]⟩,.string ⟨#[]⟩]) (size:=6) (bytes:=96) (by kernel_rfl)
theorem Kb(u:ae):(zeroValue 25).run prog u=.ok (.slice none 0 0) u:=by kernel_rfl
theorem DW{w:ae}{bp np:Nat}{Mp:K3->Option Value}{E:List (K3×Tp)}(h:G.Grp qy prog 273 29 6 Tp.row w bp np Mp E)(k:K3):w.ownsRow (bp+1) 29 6 ((Mp k).getD (.slice none 0 0)) (G.lookL E k).length (G.flatG Tp.row (G.lookL E k)):=by
 rcases h.row k with⟨e,e2⟩|⟨v,e,ho⟩
 ·rw[e,e2];exact World.ownsRow_nil _ _ _ _
 rw[e];exact ho
theorem news_of_block{w:ae}{g:Nat}{cs:Array Value}{T:TypeId}(h:w.heap[g]?=some (.cells cs T (0,0))):∀j u,cs.toList[j]?=some u->w.cell? ((⟨g,0,none⟩:Addr).add j)=some u:=by
 intro j u hu;have e:(⟨g,0,none⟩:Addr).add j=⟨g,j,none⟩:=by
  unfold Addr.add;by_cases hj:j=0
  ·subst hj;simp
  simp[hj]
 rw[e];simp[World.cell?,h];simpa using hu
theorem uH.block{w w':ae}{g:Nat}{t:Tp}(h:uH w g t)(e:w'.heap[g]?=w.heap[g]?)(hl:g<w'.heap.size):uH w' g t:=by
 obtain⟨h0,h1,h2,h3,h4,h5,_⟩:=h;have hc:∀o,w'.cell? ⟨g,o,none⟩=w.cell? ⟨g,o,none⟩:=fun o=>VR (w:=w) (a:=⟨g,o,none⟩) e;exact⟨(hc _).trans h0,(hc _).trans h1,(hc _).trans h2,(hc _).trans h3,(hc _).trans h4,(hc _).trans h5,hl⟩
theorem kW{w:ae}{g:Nat}{cs:Array Value}{T:TypeId}(h:w.heap[g]?=some (.cells cs T (0,0)))(o:Nat):w.frozen? ⟨g,o,none⟩=false:=by
 simp[World.frozen?,h]
theorem uH.aside{w w':ae}{g base n:Nat}{t:Tp}{v v':Value}{xs:Q03}(h:uH w g t)(hc:∃cur,w.heap[g]?=some (.cells cur 29 (0,0)))(ho:w.ownsRow base 27 2 v n xs)(ha:Aside w v w' v'):uH w' g t/\∃cur,w'.heap[g]?=some (.cells cur 29 (0,0)):=by
 obtain⟨cur,e⟩:=hc;have hl:=h.2.2.2.2.2.2;have hb:=ha.block g hl fun hg=>absurd (eH ho hg e) (by decide);exact⟨h.block hb (Vq hl ha.size),cur,hb.trans e⟩
theorem Ul{C:Nat->Value}{a b c d e f g h i j:Value}(q:C=fun n=>(a::b::c::d::e::f::g::h::i::j::[]).getD n undef):C 0=a/\C 1=b/\C 2=c/\C 3=d/\C 4=e/\C 5=f/\C 6=g/\C 7=h/\C 8=i/\C 9=j:=by
 rw[q];exact⟨rfl,rfl,rfl,rfl,rfl,rfl,rfl,rfl,rfl,rfl⟩
theorem LF{w w1:ae}{D c:Nat}{v:Value}(h:w.cell? ⟨D,c,none⟩=some v)(hD:D<w.heap.size)(hb:ag w w1):w1.cell? ⟨D,c,none⟩=some v:=(hb.cell hD).trans h
theorem cell_of{w1 w':ae}{D c:Nat}{v:Value}(h:w1.cell? ⟨D,c,none⟩=some v)(e:w'.heap[D]?=w1.heap[D]?):w'.cell? ⟨D,c,none⟩=some v:=(VR (w:=w1) (a:=⟨D,c,none⟩) e).trans h
theorem DatT.named{w:ae}{p:Addr}{v:Value}{D br bp:Nat}{tab:Value}{n1:Int}{E:List (K3×Tp)}{xo xu:Q0a}{np:Nat}{Mp:K3->Option Value}{vo vu:Value}(h:DatT (w.setCell p v) D br bp tab n1 E xo xu np Mp vo vu):∃x,x=w.setCell p v/\DatT x D br bp tab n1 E xo xu np Mp vo vu:=⟨_,rfl,h⟩
def QD(bp:Nat)(w:World)(vo:Value)(X:Q0a)(v':Value)(w':World):Prop:=∃w1,ag w w1/\w'.ownsRow (bp+1) 27 2 v' X.length (pairs X)/\Aside w1 vo w' v'/\∀B',(∀g,vo.ownBlock=some g->B'<=g)->B'<=w1.heap.size->Below B' w1 w'
theorem QE(D br bp:Nat)(tab:Value)(n1:Int)(E:List (K3×Tp))(xo xu:Q0a)(np:Nat)(Mp:K3->Option Value)(vo vu:Value)(t:Tp)(w:ae)(hd:DatT w D br bp tab n1 E xo xu np Mp vo vu)(hnp:np<=1000)(hE:E.length<=1000)(hxo:xo.length<=500)(hxu:xu.length<=500)(ht:t.fits):
    Calls prog 134 #[.pointer (some ⟨D,0,none⟩),.agg #[.string t.a,.string t.b,.string t.r,.string t.c,.string t.d,.string t.s]] w fun e w'=>e=.returned (.tuple #[])/\(∃Mp' Zr Zt,DatT w' D br bp tab n1 (E++[(MQ t,t)]) (fM xo t) (cu xu t) (np+1) Mp' Zr Zt)/\Below bp w w':=by
  obtain⟨iT,h0,h1,h2,h3⟩:=QC;have HIT:=aD (And.intro h0 (And.intro h1 (And.intro h2 h3)));obtain⟨W,hW⟩:∃W,W=(w.alloc (.cells #[.string t.a,.string t.b,.string t.r,.string t.c,.string t.d,.string t.s] 29)).alloc (.cells #[.string t.a,.string t.b,.string t.r] 273):=⟨_,rfl⟩;have WP:Hid (ag w W):=by show Below _ _ _;rw[hW];exact((Vs _ _).alloc (Vr _) _).alloc (by simp) _
  have hWs:W.heap.size=w.heap.size+2:=by rw[hW];simp
  have HT6:Hid (uH W w.heap.size t):=by show uH _ _ _;rw[hW];refine⟨?_,?_,?_,?_,?_,?_,?_⟩<;>first|(simp;done)|(simp;omega)
  have HK3:Hid (W.cell? ⟨w.heap.size+1,0,none⟩=some (.string t.a)/\W.cell? ⟨w.heap.size+1,1,none⟩=some (.string t.b)/\W.cell? ⟨w.heap.size+1,2,none⟩=some (.string t.r)):=by show _/\_;rw[hW];refine⟨?_,?_,?_⟩<;>simp
  have HD:=aD (hd.below WP.out);have hDl:D<w.heap.size:=hd.lt;have HFB:Hid (G.FreeB Mp w.heap.size):=hd.told.fresh (Vr _);have Xh:Hid (W.heap[w.heap.size]?=some (.cells #[.string t.a,.string t.b,.string t.r,.string t.c,.string t.d,.string t.s] 29 (0,0))):=by show _=_;rw[hW,Below.heap_alloc _ _ _ (by simp)];exact heap_alloc_new w _
  have hbD:bp<D:=hd.gt;have HLL:Hid ((G.lookL E (MQ t)).length<=1000):=Vz (WE _ _) hE;obtain⟨row0,hr0⟩:∃r,r=(Mp (MQ t)).getD (.slice none 0 0):=⟨_,rfl⟩;obtain⟨nn,hnn⟩:∃n,n=(G.lookL E (MQ t)).length:=⟨_,rfl⟩;obtain⟨xs,hxs⟩:∃x,x=G.flatG Tp.row (G.lookL E (MQ t)):=⟨_,rfl⟩;have XI:=aD hr0;have YP:=aD hnn;have Zm:=aD hxs;have hnl:nn<=1000:=by rw[hnn];exact HLL.out
  have XB:Hid (∀W0:World,ag W W0->W0.ownsRow (bp+1) 29 6 row0 nn xs):=fun W0 hb=>by rw[hr0,hnn,hxs];exact DW (HD.out.told.below hb) _
  have HKEY:Hid (∃kl,keyOf prog 273 (qy (MQ t))=some kl):=Ep _ ht.1 ht.2.1 ht.2.2.1;clear h0 h1 h2 h3 hr0 hnn hxs hd hE;obtain⟨C2,hC2⟩:∃C:Nat->Value,C=fun n=>(Value.pointer (some ⟨D,0,none⟩)::.pointer (some ⟨D,0,none⟩)::.pointer (some ⟨D,3,none⟩)::.map (some bp)::.agg #[.string t.a,.string t.b,.string t.r]::.agg #[.string t.a,.string t.b,.string t.r,.string t.c,.string t.d,.string t.s]::[]).getD n undef:=⟨_,rfl⟩;have Xg:Hid (C2 0=Value.pointer (some ⟨D,0,none⟩)/\C2 1=Value.pointer (some ⟨D,0,none⟩)/\C2 2=Value.pointer (some ⟨D,3,none⟩)/\C2 3=Value.map (some bp)/\C2 4=Value.agg #[.string t.a,.string t.b,.string t.r]/\C2 5=Value.agg #[.string t.a,.string t.b,.string t.r,.string t.c,.string t.d,.string t.s]):=by show _/\_;rw[hC2];exact⟨rfl,rfl,rfl,rfl,rfl,rfl⟩
  clear hC2;go_enter func134,ntmps134;go_wp2_with fail;rw[<-hW];clear hW;refine pU 11 _ _ (G.EI C2 #[.string t.a,.string t.b,.string t.r,.string t.c,.string t.d,.string t.s] 29 6 W bp row0 nn xs (G.Back qy prog 273 191 bp np Mp (MQ t))) (by kernel_rfl) rfl (by kernel_rfl) (by kernel_rfl) (F5 [(10,[0,1,2,3,4,8,5,6,7,9,10])]) (G.ei_start W) ?stepA ?finA<;>dsimp only[Em];case stepA =>
    rintro i hi o ho l fq w' X9 hI hpre;have HI:=aC hI;have WT:Hid (∀e∈o.after,Region.binds .any e=true->l e.on=true):=hpre;clear hI hpre;have hc:=Oy (i:=i) (by omega);clear hi
    repeat' rcases hc with rfl|hc
    · cases ho;have hA:=HI.out.early (i:=0) (by omega) X9;clear WT HI;refine aa rfl fun K HK=>?_;go_simp;exact HK.out _ _ ⟨Value.pointer (some ⟨D,0,none⟩),by simp[upd, *],hA.put (by omega) Xg.out.1.symm⟩
    · cases ho;have hA:=HI.out.early (i:=1) (by omega) X9;have e0:=(hA.val 0 (by omega) (WT.out ⟨0,.data⟩ (by simp) rfl)).trans Xg.out.1;clear WT HI;refine aa rfl fun K HK=>?_;simp only[e0];go_simp;exact HK.out _ _ ⟨Value.pointer (some ⟨D,0,none⟩),by simp[upd, *],hA.put (by omega) Xg.out.2.1.symm⟩
    · cases ho;have hA:=HI.out.early (i:=2) (by omega) X9;have e1:=(hA.val 1 (by omega) (WT.out ⟨1,.data⟩ (by simp) rfl)).trans Xg.out.2.1;clear WT HI;refine aa rfl fun K HK=>?_;simp only[e1];go_simp;exact HK.out _ _ ⟨Value.pointer (some ⟨D,3,none⟩),by simp[upd, *],hA.put (by omega) Xg.out.2.2.1.symm⟩
    · cases ho;have hA:=HI.out.early (i:=3) (by omega) X9;have e2:=(hA.val 2 (by omega) (WT.out ⟨2,.data⟩ (by simp) rfl)).trans Xg.out.2.2.1;have hb':=hA.bel;have d3:=(hb'.cell (p:=⟨D,3,none⟩) (by show D<_;omega)).trans HD.out.c3;clear WT HI;refine aa rfl fun K HK=>?_;simp only[e2];go_simp;exact HK.out _ _ ⟨Value.map (some bp),by simp[upd, *],hA.put (by omega) Xg.out.2.2.2.1.symm⟩
    · cases ho;have hA:=HI.out.early (i:=4) (by omega) X9;have hb':=hA.bel;have k0:=(hb'.cell (p:=⟨w.heap.size+1,0,none⟩) (by show w.heap.size+1<_;omega)).trans HK3.out.1;have k1:=(hb'.cell (p:=⟨w.heap.size+1,1,none⟩) (by show w.heap.size+1<_;omega)).trans HK3.out.2.1;have k2:=(hb'.cell (p:=⟨w.heap.size+1,2,none⟩) (by show w.heap.size+1<_;omega)).trans HK3.out.2.2;clear WT HI;refine aa rfl fun K HK=>?_;go_simp;exact HK.out _ _ ⟨Value.agg #[.string t.a,.string t.b,.string t.r],by simp[upd, *],hA.put (by omega) Xg.out.2.2.2.2.1.symm⟩
    · cases ho;have hA:=HI.out.early (i:=5) (by omega) X9;have hb':=hA.bel;obtain⟨t0,t1,t2,t3,t4,t5,tl⟩:=HT6.out.below hb';clear WT HI;refine aa rfl fun K HK=>?_;go_simp;exact HK.out _ _ ⟨Value.agg #[.string t.a,.string t.b,.string t.r,.string t.c,.string t.d,.string t.s],by simp[upd, *],hA.put (by omega) Xg.out.2.2.2.2.2.symm⟩
    · cases ho;have hA:=HI.out.early (i:=6) (by omega) X9;have e5:=(hA.val 5 (by omega) (WT.out ⟨5,.data⟩ (by simp) rfl)).trans Xg.out.2.2.2.2.2;clear WT HI;refine aa rfl fun K HK=>?_;simp only[e5];go_simp;exact HK.out _ _ ⟨_,by simp[upd,e5],hA.lay⟩
    · cases ho;have hA:=HI.out.early (i:=7) (by omega) X9;have e3:=(hA.val 3 (by omega) (WT.out ⟨3,.data⟩ (by simp) rfl)).trans Xg.out.2.2.2.1;have e4:=(hA.val 4 (by omega) (WT.out ⟨4,.data⟩ (by simp) rfl)).trans Xg.out.2.2.2.2.1;have hall:∀k,k<=6->l k=true:=fun k hk=>by
        have hc:=UI (i:=k) (by omega)
        repeat' rcases hc with rfl|hc
        all_goals exact WT.out ⟨_,.phase⟩ (by simp) rfl
      have hD':=HD.out.below hA.bel;obtain⟨kl,hkl⟩:=HKEY.out;obtain⟨st,w1,hrun,hg,hback⟩:=hD'.told.map.entry OY OX underlying191 Kb (by unfold maxLen;omega) hkl;rw[<-XI.out]at hrun;have hrun':(Instr.mapEntry 191 (.map (some bp)) (Value.agg #[.string t.a,.string t.b,.string t.r])).run prog w'=.ok (.tuple #[row0,goInt st]) w1:=hrun;clear WT HI;refine aa rfl fun K HK=>?_;simp only[e3,e4];go_simp;exact HK.out _ _ ⟨_,by simp[upd,e3,e4,goInt],hA.took hall hg hback⟩
    · cases ho;have h7:=WT.out ⟨7,.data⟩ (by simp) rfl;have hB:=HI.out.midB h7 (i:=8) (by omega) X9;obtain⟨st,e7⟩:=HI.out.seven h7;clear WT HI;refine aa rfl fun K HK=>?_;simp only[e7];go_simp;exact HK.out _ _ ⟨_,by simp[upd,e7,goInt],hB.first⟩
    · cases ho;have h7:=WT.out ⟨7,.chain⟩ (by simp) rfl;have h8:=WT.out ⟨8,.data⟩ (by simp) rfl;have hB:=HI.out.midB h7 (i:=9) (by omega) X9;obtain ⟨W0,st,g,hm1,hm2,ZG,hm4,Y8,e7,hm7,hm8,hm9⟩:=hB.mid;have e8:=hm8 h8;have hown:=(XB.out W0 hm1).kept Y8 (by
        rcases h:row0.ownBlock with _|g'
        · exact .inl rfl
        · right;intro e;injection e with e;have:=((XB.out W0 hm1).lt g' h).1;omega)
      have hnew:w'.heap[g]?=some (.cells #[.string t.a,.string t.b,.string t.r,.string t.c,.string t.d,.string t.s] 29 (0,0)):=by
        have hgl:g<W0.heap.size:=by
          rcases Nat.lt_or_ge g W0.heap.size with h|h
          · exact h
          · rw[Array.getElem?_eq_none h]at hm4;cases hm4
        rw[Y8.block g hgl (fun e=>by injection e with e;omega)];exact hm4
      clear WT HI;refine kN w' rfl rfl _ _ 25 rfl (bp+1) 29 iT _ 6 96 underlying25 HIT.out.1 HIT.out.2.1 HIT.out.2.2.1 HIT.out.2.2.2 rfl (by decide) row0 nn xs (by simp[Act.eval,e8]) hown ⟨g,0,none⟩ 1 1 [Value.string t.a,.string t.b,.string t.r,.string t.c,.string t.d,.string t.s] (by simp[Act.eval,hm2]) rfl (fun j u hu=>news_of_block hnew j u hu) (by simp[Value.oneCell']) (by unfold maxLen;omega) (by omega) (by have:=Y8.size;have:=hm1.size;omega) ?_;intro v' w2 hown2 Xk hloc2;exact⟨v',by simp[upd,Act.put],hB.app h8 Xk hown2 hloc2⟩
    · cases ho;have h7:=WT.out ⟨7,.data⟩ (by simp) rfl;obtain⟨st,e7⟩:=HI.out.seven h7;have HI2:=HI.out.second h7 e7;clear WT HI;refine aa rfl fun K HK=>?_;simp only[e7];go_simp;exact HK.out _ _ ⟨_,by simp[upd,e7,goInt],HI2⟩
  case finA =>
    rintro o ho l fq w' hall hI;obtain rfl:=Option.some.inj ho;have hC:=hI.last hall;obtain⟨W0,w1,st,hm1,hm2,ZG,hm4,Y8,hm6,-,hm8⟩:=hC.mid;have e10:=hm8 (hall 10 (by omega));have e3:=(hC.val 3 (by omega)).trans Xg.out.2.2.2.1;obtain⟨w3,hrun,hM3,hg3⟩:=hm6 w' (fq 9) (ZG.block bp (by have:=hm2.size;have:=hm1.size;omega) (fun e=>by have:=(XB.out W0 hm1).lt bp e.symm;omega));have hst:=(HD.out.told.below hm1).step (y:=MQ t) (s:=t) hm2 (by rw[<-YP.out,<-Zm.out];exact hm4) (by rw[<-XI.out];exact ZG) (by rw[<-XI.out];exact Y8) hg3 hM3;have Zi:=aD ((HD.out.below hm1).tell hst.1 hst.2);have HBQ:Hid (Below bp w w3):=by
      have b0:Below bp w W0:=(WP.out.trans (hm1.mono WP.out.size)).mono (by omega);have b1:Below bp w w1:=b0.grown hm2 (by have:=hm1.size;omega) (fun i hi=>by injection hi with hi;omega);have b2:Below bp w w':=b1.grown ZG (by have:=hm2.size;have:=hm1.size;omega) (fun i hi=>by have:=((XB.out W0 hm1).lt i hi).1;omega);exact b2.grown hg3 (by have:=ZG.size;have:=hm2.size;have:=hm1.size;omega) (fun i hi=>by injection hi with hi;omega)
    have hz3:W.heap.size<=w3.heap.size:=by have:=hg3.size;have:=ZG.size;have:=hm2.size;have:=hm1.size;omega
    have hbx3:w3.heap[w.heap.size]?=some (.cells #[.string t.a,.string t.b,.string t.r,.string t.c,.string t.d,.string t.s] 29 (0,0)):=by
      rw[hst.2.block w.heap.size (by have:=hm1.size;omega) (by omega) HFB.out,hm1.block w.heap.size (by omega)];exact Xh.out
    have HTQ:Hid (uH w3 w.heap.size t/\∃cur,w3.heap[w.heap.size]?=some (.cells cur 29 (0,0))):=⟨HT6.out.block (by rw[hbx3,Xh.out]) (by omega),_,hbx3⟩;have Ya:(Instr.entryStore 191 (.map (some bp)) (.int .i64 st) (fq 9)).run prog w'=.ok () w3:=hrun;obtain⟨Mn,hMn⟩:∃M,M=jO Mp (MQ t) (some (fq 9)):=⟨_,rfl⟩;rw[<-hMn]at Zi;refine aa rfl fun K HK=>?_;simp only[e3,e10];go_simp;refine HK.out _ _ ?_;clear hst hrun Ya hM3 hg3 hm1 hm2 ZG hm4 Y8 hm6 hm8 hC hI hall ho HK K e3 e10 HD HT6 HK3 WP XB Xh Xg HKEY HFB hMn XI YP Zm hbx3;obtain⟨y0,hy0⟩:∃y,y=fq 0:=⟨_,rfl⟩;rw[<-hy0];obtain⟨y1,hy1⟩:∃y,y=fq 1:=⟨_,rfl⟩;rw[<-hy1];obtain⟨y2,hy2⟩:∃y,y=fq 2:=⟨_,rfl⟩;rw[<-hy2];obtain⟨y4,hy4⟩:∃y,y=fq 4:=⟨_,rfl⟩;rw[<-hy4];obtain⟨y8,hy8⟩:∃y,y=fq 8:=⟨_,rfl⟩;rw[<-hy8];obtain⟨y5,hy5⟩:∃y,y=fq 5:=⟨_,rfl⟩;rw[<-hy5];obtain⟨y6,hy6⟩:∃y,y=fq 6:=⟨_,rfl⟩;rw[<-hy6];obtain⟨y7,hy7⟩:∃y,y=fq 7:=⟨_,rfl⟩;rw[<-hy7];obtain⟨y9,hy9⟩:∃y,y=fq 9:=⟨_,rfl⟩;rw[<-hy9];clear hy0 hy1 hy2 hy4 hy8 hy5 hy6 hy7 hy9 fq l hz3;go_wp2_with fail;have hbz:bp+1<=w3.heap.size:=by have:=Zi.out.lt;have:=Zi.out.gt;omega
    have hx1:(eu xo ⟨t.a,t.b⟩).length<=501:=by have:=og xo ⟨t.a,t.b⟩;omega
    have m1:=trivial;obtain⟨CQ,hCQ⟩:∃C:Nat->Value,C=fun n=>(Value.pointer (some ⟨D,0,none⟩)::.pointer (some ⟨D,0,none⟩)::.pointer (some ⟨D,0,none⟩)::.pointer (some ⟨D,4,none⟩)::vo::.pointer (some ⟨w.heap.size,0,none⟩)::.agg #[.string t.a,.string t.b]::undef::.pointer (some ⟨D,0,none⟩)::.pointer (some ⟨D,4,none⟩)::[]).getD n undef:=⟨_,rfl⟩;have YM:=aD (Ul hCQ);have HOB:=aD Zi.out.objs;have ZO:=aD Zi.out.c4;have HWO:=aD (mi (bp+1) vo xo ⟨t.a,t.b⟩);clear hCQ;refine jU 10 _ _ (G.WI CQ w3 (QD bp w3 vo (eu xo ⟨t.a,t.b⟩))) (by kernel_rfl) rfl (by kernel_rfl) (fun o ho l f w' hI hp=>?_) (F5 [(21,[0,1,2,3,4,5,6,7,8,9])]) (G.wi_start _) ?_ ?_<;>try dsimp only[Em]
    iterate 3
      · cases ho;intro k hk;have h9:=hp ⟨9,.data⟩ (by simp) rfl;have hc:=KW (i:=k) (by omega)
        repeat' rcases hc with rfl|hc
        all_goals first|exact hI.nin h9|exact h9|exact hp ⟨_,.phase⟩ (by simp) rfl
      · rintro i hi o ho l fr w' X9 hI hpre;have HI:=aD hI;have WT:Hid (∀e∈o.after,Region.binds .any e=true->l e.on=true):=hpre;clear hI hpre;have hc:=KW (i:=i) (by omega);clear hi
        repeat' rcases hc with rfl|hc
        · cases ho;have hW:=HI.out;clear WT HI;refine aa rfl fun K HK=>?_;go_simp;exact HK.out _ _ ⟨_,by simp[upd, *],hW.put (by omega) (by omega) YM.out.1.symm⟩
        · cases ho;have hW:=HI.out;clear WT HI;refine aa rfl fun K HK=>?_;go_simp;exact HK.out _ _ ⟨_,by simp[upd, *],hW.put (by omega) (by omega) YM.out.2.1.symm⟩
        · cases ho;have hW:=HI.out;have e1:=(HI.out.val 1 (by omega) (by omega) (WT.out ⟨1,.data⟩ (by simp) rfl)).trans YM.out.2.1;clear WT HI;refine aa rfl fun K HK=>?_;simp only[e1];go_simp;exact HK.out _ _ ⟨_,by simp[upd, *],hW.put (by omega) (by omega) YM.out.2.2.1.symm⟩
        · cases ho;have hW:=HI.out;have e2:=(HI.out.val 2 (by omega) (by omega) (WT.out ⟨2,.data⟩ (by simp) rfl)).trans YM.out.2.2.1;clear WT HI;refine aa rfl fun K HK=>?_;simp only[e2];go_simp;exact HK.out _ _ ⟨_,by simp[upd, *],hW.put (by omega) (by omega) YM.out.2.2.2.1.symm⟩
        · cases ho;have hW:=HI.out;have e3:=(HI.out.val 3 (by omega) (by omega) (WT.out ⟨3,.data⟩ (by simp) rfl)).trans YM.out.2.2.2.1;have hb':=HI.out.early (.inl X9);have d4:=LF ZO.out Zi.out.lt hb';clear WT HI;refine aa rfl fun K HK=>?_;simp only[e3];go_simp;exact HK.out _ _ ⟨_,by simp[upd, *],hW.put (by omega) (by omega) YM.out.2.2.2.2.1.symm⟩
        · cases ho;have hW:=HI.out;clear WT HI;refine aa rfl fun K HK=>?_;go_simp;exact HK.out _ _ ⟨_,by simp[upd, *],hW.put (by omega) (by omega) YM.out.2.2.2.2.2.1.symm⟩
        · cases ho;have hW:=HI.out;have e5:=(HI.out.val 5 (by omega) (by omega) (WT.out ⟨5,.data⟩ (by simp) rfl)).trans YM.out.2.2.2.2.2.1;have hb':=HI.out.early (.inr X9);obtain⟨t0,t1,t2,t3,t4,t5,tl⟩:=HTQ.out.1.below hb';clear WT HI;refine aa rfl fun K HK=>?_;simp only[e5];go_simp;exact HK.out _ _ ⟨_,by simp[upd, *],hW.put (by omega) (by omega) YM.out.2.2.2.2.2.2.1.symm⟩
        · cases ho;have hW:=HI.out;have e4:=(HI.out.val 4 (by omega) (by omega) (WT.out ⟨4,.data⟩ (by simp) rfl)).trans YM.out.2.2.2.2.1;have e6:=(HI.out.val 6 (by omega) (by omega) (WT.out ⟨6,.data⟩ (by simp) rfl)).trans YM.out.2.2.2.2.2.2.1;have h4:=WT.out ⟨4,.data⟩ (by simp) rfl;have h6:=WT.out ⟨6,.data⟩ (by simp) rfl;have hb':=HI.out.before X9;have hown:=dw HOB.out hb';clear WT HI;refine aa rfl fun K HK=>?_;simp only[e4,e6];go_simp;refine(HWO.out w' (by omega) (Vz hbz hb'.size) hown).mono ?_;rintro e w2 ⟨v',rfl,hown2,has,hbl⟩;exact HK.out _ _ ⟨v',by simp[upd,e4,e6],hW.call h4 h6 ⟨w',hb',hown2,has,hbl⟩⟩
        · cases ho;have hW:=HI.out;have e0:=(HI.out.val 0 (by omega) (by omega) (WT.out ⟨0,.data⟩ (by simp) rfl)).trans YM.out.1;clear WT HI;refine aa rfl fun K HK=>?_;simp only[e0];go_simp;exact HK.out _ _ ⟨_,by simp[upd, *],hW.put (by omega) (by omega) YM.out.2.2.2.2.2.2.2.2.1.symm⟩
        · cases ho;have hW:=HI.out;have e8:=(HI.out.val 8 (by omega) (by omega) (WT.out ⟨8,.data⟩ (by simp) rfl)).trans YM.out.2.2.2.2.2.2.2.2.1;have h8:=WT.out ⟨8,.data⟩ (by simp) rfl;clear WT HI;refine aa rfl fun K HK=>?_;simp only[e8];go_simp;exact HK.out _ _ ⟨_,by simp[upd, *],hW.put (by omega) (fun _=>h8) YM.out.2.2.2.2.2.2.2.2.2.symm⟩
      rintro o ho l fr w' hall hI;obtain rfl:=Option.some.inj ho;obtain⟨hval,w1,hb1,hown,has,hbl⟩:=hI.last hall;have e9:=(hval 9 (by omega) (by omega)).trans YM.out.2.2.2.2.2.2.2.2.2;have hDw:=Zi.out.below hb1;have hob:=dw HOB.out hb1
      first|have hDn:=hDw.newO hown has|have hDn:=hDw.newU hown has
      have hTn:=(HTQ.out.1.below hb1).aside (by obtain⟨cur,e⟩:=HTQ.out.2;exact⟨cur,(hb1.block _ HTQ.out.1.2.2.2.2.2.2).trans e⟩) hob has;obtain⟨cur,hkd⟩:=hDw.kind;have hDo:¬_=some D:=fun e=>absurd (eH hob e hkd) (by decide);have hkd':=(has.block D hDw.lt hDo).trans hkd;have fz:=fun o=>kW hkd' o;have d4:=cell_of (LF ZO.out Zi.out.lt hb1) (has.block D hDw.lt hDo);obtain⟨adn,cpn,e7,-⟩:=mh hown;rw[e7]at hown has hDn;obtain⟨wq,hwn,hDn⟩:=hDn.named;replace HTQ:Hid (uH wq w.heap.size t/\∃cur,wq.heap[w.heap.size]?=some (.cells cur 29 (0,0))):=by
        have hh:wq.heap[w.heap.size]?=w'.heap[w.heap.size]?:=by rw[hwn];exact heap_setCell_other w' _ w.heap.size _ (by show w.heap.size≠D;omega)
        obtain⟨cr,ecr⟩:=hTn.2;exact⟨hTn.1.block hh (by rw[hwn];simpa using hTn.1.2.2.2.2.2.2),cr,hh.trans ecr⟩
      replace HBQ:Hid (Below bp w wq):=by
        have b1:Below bp w w1:=HBQ.out.trans (hb1.mono (by omega));have b2:Below bp w w':=b1.trans (hbl bp (fun g hg=>by have:=(hob.lt g hg).1;omega) (by have:=hb1.size;omega));show Below _ _ _;rw[hwn];exact b2.setCell (by show bp<=D;omega) _
      replace Zi:=aD hDn;replace hbz:bp+1<=wq.heap.size:=by have:=Zi.out.lt;omega
      clear hval;refine aa rfl fun K HK=>?_;simp only[e9,e7];go_simp;rw[<-hwn];refine HK.out _ _ ?_;rw[<-e7]at Zi ⊢;clear hb1 hown has hbl hDw hDn hTn hkd hkd' hDo fz d4 HK K hI hall ho hwn e9 e7 YM HOB ZO HWO hob;obtain⟨vq,hvq⟩:∃y,y=fr 7:=⟨_,rfl⟩;rw[<-hvq]at Zi ⊢;generalize fr 0=z0,fr 1=z1,fr 2=z2,fr 3=z3,fr 4=z4,fr 5=z5,fr 6=z6,fr 8=z8;clear hvq fr l
      first
        | (clear m1
           go_wp2_with fail;have m2:=trivial;obtain⟨CQ,hCQ⟩:∃C:Nat->Value,C=fun n=>(Value.pointer (some ⟨D,0,none⟩)::.pointer (some ⟨D,0,none⟩)::.pointer (some ⟨D,0,none⟩)::.pointer (some ⟨D,4,none⟩)::vq::.pointer (some ⟨w.heap.size,3,none⟩)::.agg #[.string t.c,.string t.d]::undef::.pointer (some ⟨D,0,none⟩)::.pointer (some ⟨D,4,none⟩)::[]).getD n undef:=⟨_,rfl⟩;have YM:=aD (Ul hCQ);have HOB:=aD Zi.out.objs;have ZO:=aD Zi.out.c4;have HWO:=aD (mi (bp+1) vq (eu xo ⟨t.a,t.b⟩) ⟨t.c,t.d⟩);clear hCQ;refine jU 10 _ _ (G.WI CQ wq (QD bp wq vq (eu (eu xo ⟨t.a,t.b⟩) ⟨t.c,t.d⟩))) (by kernel_rfl) rfl (by kernel_rfl) (fun o ho l f w' hI hp=>?_) (F5 [(31,[0,1,2,3,4,5,6,7,8,9])]) (G.wi_start _) ?_ ?_<;>try dsimp only[Em])
        | (clear m2
           obtain⟨t0,t1,t2,t3,t4,t5,tl⟩:=HTQ.out.1;cases hs:(t.s.toList==([]:List UInt8))
           · have HU:Hid (cu xu t=xu):=by show _=_;unfold cu;rw[hs];rfl
             go_wp2
             go_end0
             exact⟨rfl,⟨_,_,_,by rw[HU.out];exact Zi.out⟩,HBQ.out⟩
           have HU:Hid (cu xu t=eu xu ⟨t.c,t.d⟩):=by show _=_;unfold cu;rw[hs];rfl
           clear t0 t1 t2 t3 t4 tl;go_wp2_with fail;clear t5 hs;have m3:=trivial;obtain⟨CQ,hCQ⟩:∃C:Nat->Value,C=fun n=>(Value.pointer (some ⟨D,0,none⟩)::.pointer (some ⟨D,0,none⟩)::.pointer (some ⟨D,0,none⟩)::.pointer (some ⟨D,5,none⟩)::vu::.pointer (some ⟨w.heap.size,3,none⟩)::.agg #[.string t.c,.string t.d]::undef::.pointer (some ⟨D,0,none⟩)::.pointer (some ⟨D,5,none⟩)::[]).getD n undef:=⟨_,rfl⟩;have YM:=aD (Ul hCQ);have HOB:=aD Zi.out.users;have ZO:=aD Zi.out.c5;have HWO:=aD (mi (bp+1) vu xu ⟨t.c,t.d⟩);clear hCQ;refine jU 10 _ _ (G.WI CQ wq (QD bp wq vu (eu xu ⟨t.c,t.d⟩))) (by kernel_rfl) rfl (by kernel_rfl) (fun o ho l f w' hI hp=>?_) (F5 [(44,[0,1,2,3,4,5,6,7,8,9])]) (G.wi_start _) ?_ ?_<;>try dsimp only[Em])
        | (clear m3
           go_wp2
           go_end0
           exact⟨rfl,⟨_,_,_,by rw[HU.out];exact Zi.out⟩,HBQ.out⟩)
def Sc(r:RR):List Value:=[.string r.name,r.sl]
abbrev Fw (w:World)(br nr:Nat)(Mr:KL->Option Value)(Er:List (KL×RR)):Prop:=G.Grp Gc prog 197 39 2 Sc w br nr Mr Er
theorem Hr{w:ae}{br nr:Nat}{Mr:KL->Option Value}{Er:List (KL×RR)}(h:Fw w br nr Mr Er){k:KL}{v:Value}(hk:Mr k=some v):∃n xs,w.ownsRow (br+1) 39 2 v n xs:=by
 rcases h.row k with⟨e,-⟩|⟨v',e,ho⟩
 ·rw[e]at hk;cases hk
 rw[e]at hk;injection hk with hk;subst hk;exact⟨_,_,ho⟩
theorem su{w:ae}{br nr g:Nat}{Mr:KL->Option Value}{Er:List (KL×RR)}{e:TypeId}{cur:Array Value}(h:Fw w br nr Mr Er)(hc:w.heap[g]?=some (.cells cur e (0,0)))(hne:(39:TypeId)≠e):G.FreeB Mr g:=fun k v hk hg=>by
 obtain⟨n,xs,ho⟩:=Hr h hk;exact hne (eH ho hg hc)
theorem Ht{w:ae}{br nr g:Nat}{Mr:KL->Option Value}{Er:List (KL×RR)}{es:Array MapEntry}{c:Nat}(h:Fw w br nr Mr Er)(hc:w.heap[g]?=some (.map es c)):G.FreeB Mr g:=fun k v hk hg=>by
 obtain⟨n,xs,ho⟩:=Hr h hk;exact EX ho hg hc
theorem pI{K:Type}{enc:K->Value}{P:Program}{kt:TypeId}{w:ae}{b n:Nat}{M:K->Option Value}(h:aJ enc P kt w b n M):∃es c,w.heap[b]?=some (.map es c):=by
 obtain⟨D,⟨es,c,hb,-⟩,-⟩:=h;exact⟨es,c,hb⟩
structure DatA(w:World)(rs:Q06)(D br bp bt:Nat)(n1:Int)(nr:Nat)(Mr:KL->Option Value)(Er:List (KL×RR))(E:List (K3×Tp))(xo xu:Q0a)(np:Nat)(Mp:K3->Option Value)(vo vu:Value):Prop where
 dat:DatT w D br bp (.map (some bt)) n1 E xo xu np Mp vo vu
 tab:aJ dU prog 146 w bt 36 (qd rs)
 rel:Fw w br nr Mr Er
 ord:bt<br/\br<bp
section
variable  {w w':World}{rs:Q06}{D br bp bt:Nat}{n1:Int}{nr:Nat}{Mr:KL->Option Value}{Er:List (KL×RR)}{E:List (K3×Tp)}{xo xu:Q0a}{np:Nat}{Mp:K3->Option Value}{vo vu:Value}
theorem DatA.below(h:DatA w rs D br bp bt n1 nr Mr Er E xo xu np Mp vo vu)(hb:ag w w'):DatA w' rs D br bp bt n1 nr Mr Er E xo xu np Mp vo vu:=⟨h.dat.below hb,h.tab.below hb,h.rel.below hb,h.ord⟩
theorem DatA.tell(h:DatA w rs D br bp bt n1 0 (fun _=>none) [] E xo xu np Mp vo vu){E':List (K3×Tp)}{xo' xu':Q0a}{np':Nat}{Mp':K3->Option Value}{Zr Zt:Value}(hd:DatT w' D br bp (.map (some bt)) n1 E' xo' xu' np' Mp' Zr Zt)(hb:Below bp w w'):DatA w' rs D br bp bt n1 0 (fun _=>none) [] E' xo' xu' np' Mp' Zr Zt:=by
 obtain⟨h1,h2⟩:=h.ord;exact⟨hd,h.tab.of_block (hb.block bt (by omega)),⟨h.rel.map.of_block (hb.block br (by omega)),fun k=>.inl ⟨rfl,rfl⟩,fun k k' v v' _ e=>by cases e⟩,h.ord⟩
theorem DatA.list(h:DatA w rs D br bp bt n1 nr Mr Er E xo xu np Mp vo vu){nr':Nat}{Mr':KL->Option Value}{Er':List (KL×RR)}(hg:Fw w' br nr' Mr' Er')(hs:G.Stl w Mr w' Mr' br):DatA w' rs D br bp bt n1 nr' Mr' Er' E xo xu np Mp vo vu:=by
 obtain⟨h1,h2⟩:=h.ord;have hgt:=h.dat.gt;have hlt:=h.dat.lt;obtain⟨cur,hk⟩:=h.dat.kind;have hD:w'.heap[D]?=w.heap[D]?:=hs.block D hlt (by omega) (su h.rel hk (by decide));have hc:∀o,w'.cell? ⟨D,o,none⟩=w.cell? ⟨D,o,none⟩:=fun o=>VR (w:=w) (a:=⟨D,o,none⟩) hD;have hO:∀{v:Value} {n:Nat} {xs:Q03},w.ownsRow (bp+1) 27 2 v n xs->w'.ownsRow (bp+1) 27 2 v n xs:=fun {v n xs} ho=>eB ho fun g hg=>by
  obtain⟨cr,e⟩:=jL ho hg;have:=ho.lt g hg;exact hs.block g this.2 (by omega) (su h.rel e (by decide))
 obtain⟨es,c,eb⟩:=pI h.dat.told.map;obtain⟨es2,c2,eb2⟩:=pI h.tab;refine⟨⟨hgt,Vq hlt hs.size,⟨cur,hD.trans hk⟩,(hc _).trans h.dat.c0,(hc _).trans h.dat.c1,(hc _).trans h.dat.c2,(hc _).trans h.dat.c3,(hc _).trans h.dat.c4,(hc _).trans h.dat.c5,vG h.dat.told ?_ ?_,hO h.dat.objs,hO h.dat.users,h.dat.apart⟩,h.tab.of_block ?_,hg,h.ord⟩
 ·exact hs.block bp (by omega) (by omega) (Ht h.rel eb)
 ·intro k v g hm hg2;obtain⟨n,xs,ho⟩:=vF h.dat.told hm;obtain⟨cr,e⟩:=jL ho hg2;have:=ho.lt g hg2;exact hs.block g this.2 (by omega) (su h.rel e (by decide))
 exact hs.block bt (by omega) (by omega) (Ht h.rel eb2)
theorem DatA.count(h:DatA w rs D br bp bt n1 nr Mr Er E xo xu np Mp vo vu)(n2:Int):DatA (w.setCell ⟨D,1,none⟩ (.int .i64 n2)) rs D br bp bt n2 nr Mr Er E xo xu np Mp vo vu:=by
 obtain⟨h1,h2⟩:=h.ord;have hgt:=h.dat.gt;obtain⟨cur,hk⟩:=h.dat.kind;have hne:∀g,g≠D->(w.setCell ⟨D,1,none⟩ (.int .i64 n2)).heap[g]?=w.heap[g]?:=fun g e=>heap_setCell_other w ⟨D,1,none⟩ g _ e;have hc2:∀o,o≠1->(w.setCell ⟨D,1,none⟩ (.int .i64 n2)).cell? ⟨D,o,none⟩=w.cell? ⟨D,o,none⟩:=fun o ne=>kU (by omega);have hO:∀{v:Value} {n:Nat} {xs:Q03},w.ownsRow (bp+1) 27 2 v n xs->(w.setCell ⟨D,1,none⟩ (.int .i64 n2)).ownsRow (bp+1) 27 2 v n xs:=fun {v n xs} ho=>eB ho fun g hg=>hne g fun e=>absurd (eH ho (e ▸ hg) hk) (by decide);refine⟨⟨hgt,by simpa using h.dat.lt,⟨_,heap_setCell_same w D 1 cur _ _ hk⟩,(hc2 0 (by omega)).trans h.dat.c0,PM h.dat.c1,(hc2 2 (by omega)).trans h.dat.c2,(hc2 3 (by omega)).trans h.dat.c3,(hc2 4 (by omega)).trans h.dat.c4,(hc2 5 (by omega)).trans h.dat.c5,vG h.dat.told (hne bp (by omega)) ?_,hO h.dat.objs,hO h.dat.users,h.dat.apart⟩,h.tab.of_block (hne bt (by omega)),⟨h.rel.map.of_block (hne br (by omega)),fun k=>?_,h.rel.apart⟩,h.ord⟩
 ·intro k v g hm hg2;obtain⟨n,xs,ho⟩:=vF h.dat.told hm;exact hne g fun e=>absurd (eH ho (e ▸ hg2) hk) (by decide)
 rcases h.rel.row k with e|⟨v,e,ho⟩
 ·exact .inl e
 exact .inr ⟨v,e,eB ho fun g hg=>hne g fun e2=>absurd (eH ho (e2 ▸ hg) hk) (by decide)⟩
end
end Go.Proofs.YtojjoblnpldniaaGreat
