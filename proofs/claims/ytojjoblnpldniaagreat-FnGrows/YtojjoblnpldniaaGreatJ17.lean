/- Contract of the document's reader of schemas: spec.ReadSchema. -/
import Derived.Test.YtojjoblnpldniaaGreatSq
import Derived.Test.YtojjoblnpldniaaGreatJ16
import Derived.Test.YtojjoblnpldniaaGreatSpecSchema11
import Derived.Deep.Cut
import Derived.Deep.CutRange
open Go.Proofs.Tryz
set_option maxHeartbeats 80000000
namespace Go.Proofs.YtojjoblnpldniaaGreat
set_option maxRecDepth 100000
open ChangeShapes WideShapes ChangeAt RowKit
open Pl
def Uh(s:ByteArray)(w:World)(e:Ending)(w':World):Prop :=
 ag w w'/\(((∀T,dR (s.size+1) s []=some T->aN T=false)/\e=.returned (.tuple #[.slice none 0 0,.bool false])) \/ ∃(v:Value) (rs:Q06),aN (af rs)=true/\e=.returned (.tuple #[v,.bool true])/\iE w' w.heap.size v rs/\dx (af rs)=s/\TB (af rs))
theorem rq(s:ByteArray)(w:ae)(hs:s.size<=3000):Calls prog 113 #[.string s] w (Uh s w):=by
 have HL:=dS (Fh s w hs);go_enter func113,ntmps113;go_wp2_with fail;refine HL.out.mono ?_;rintro e w1 ⟨hb1,hcase⟩;have HB1:=dS hb1;rcases hcase with⟨hno,rfl⟩|⟨v,rs,hyes,rfl,hM,htx,hok⟩
 ·have YD:Hid (∀T,dR (s.size+1) s []=some T->aN T=false):=fun T hT=>by rw[hno]at hT;cases hT
  clear hb1 hno HL;go_wp2;exact bodyPost_ret (v:=.tuple #[.slice none 0 0,.bool false]) (by simp[results,Tryz.results113,go_sem]) rfl ⟨HB1.out,.inl ⟨YD.out,rfl⟩⟩
 obtain⟨ad,cap,hv,hsl,-⟩:=iE.read hM;subst hv;obtain⟨k1,k2,k3,k4⟩:=rows_ok hok (by rw[htx];exact hs);have HM:=dS hM;have HTX:=dS htx;have XN:=dS hok;have HY:=dS hyes;have HSO:=dS (jX ad cap rs w1 (by omega) hsl k3 k4);clear hb1 hM htx hok hyes hsl k1 k2 k3 k4 HL;go_wp2_with fail;refine HSO.out.mono ?_;rintro e w2 ⟨he,hb2⟩;have HB2:=dS (HB1.out.trans (hb2.mono HB1.out.size));have Xr:=dS (HM.out.below nI hb2);clear hb2 HSO HM;cases hd:aN (af rs);case false=>
  rw[hd]at he;subst he;have YD:Hid (∀T,dR (s.size+1) s []=some T->aN T=false):=fun T hT=>by rw[HY.out]at hT;injection hT with hT;rw[<-hT];exact hd
  clear hd;go_wp2;exact bodyPost_ret (v:=.tuple #[.slice none 0 0,.bool false]) (by simp[results,Tryz.results113,go_sem]) rfl ⟨HB2.out,.inl ⟨YD.out,rfl⟩⟩
 rw[hd]at he;subst he;have HD:=dS hd;clear hd;go_wp2;exact bodyPost_ret (v:=.tuple #[.slice ad rs.length cap,.bool true]) (by simp[results,Tryz.results113,go_sem]) rfl ⟨HB2.out,.inr ⟨_,rs,HD.out,rfl,Xr.out,HTX.out,XN.out⟩⟩
set_option linter.unusedVariables false
theorem Fj{t:ByteArray}{x y z c:UInt8}(h:t.data.toList.take 10=[116,121,112,101,32,x,y,z,10,c])(h1:x≠10)(h2:y≠10)(h3:z≠10)(h4:c≠116):Pre t:=by
 refine⟨x,y,z,c,t.data.toList.drop 10,?_,h1,h2,h3,h4⟩
 conv=>lhs;rw[<-List.take_append_drop 10 t.data.toList,h]
 rfl
theorem Qq{t:ByteArray}(h:Pre t):10<=t.size:=by
 obtain⟨x,y,z,c,tl,e,-⟩:=h;have h2:t.size=t.data.toList.length:=by simp
 rw[h2,e];simp
theorem vX{w:ae}{base base' size n:Nat}{e:TypeId}{v:Value}{xs:Q03}(h:w.ownsRow base e size v n xs)(hb:base'<=base):w.ownsRow base' e size v n xs:=by
 refine⟨h.1,?_⟩;rcases h.2 with hl|⟨g,cap,cur,rfl,h1,h2⟩
 ·exact .inl hl
 exact .inr ⟨g,cap,cur,rfl,Vz hb h1,h2⟩
theorem Cq.lower{w:ae}{base base':Nat}{v:Value}{rs:Q07}(h:Cq w base v rs)(hb:base'<=base):Cq w base' v rs:=⟨vX h.own hb,fun q hq=>NodM.mono (h.kid q hq) hb,h.head,h.two⟩
theorem WW.lower{w:ae}{base base':Nat}{v:Value}{rs:Q06}(h:iE w base v rs)(hb:base'<=base):iE w base' v rs:=⟨vX h.own hb,fun q hq=>Cq.lower (h.kid q hq) hb,h.head,h.two⟩
def Hd(w wc:World)(v:Value)(rs:Q06):Prop:=iE wc w.heap.size v rs/\aN (af rs)=true/\Pre (dx (af rs))/\TB (af rs)/\(dx (af rs)).size<=2000
theorem Hd.only{w wc wd:ae}{R:Nat}{v:Value}{rs:Q06}(h:Hd w wc v rs)(hR:R<w.heap.size)(ho:Only R wc wd):Hd w wd v rs :=
 ⟨h.1.heap nI ho.size fun g hg=>ho.block g (h.1.lt nI hg).2 (fun e=>by injection e with e;have:=(h.1.lt nI hg).1;omega),h.2⟩
def GoodS(rs:Q06):Prop:=rs.length<=500/\(∀r∈rs,r.light)/\∀r∈rs,r.fits
theorem Hd.good{w wc:ae}{v:Value}{rs:Q06}(h:Hd w wc v rs):GoodS rs/\iE wc w.heap.size v rs:=by
 obtain⟨k1,-,k3,k4⟩:=rows_ok h.2.2.2.1 (by have:=h.2.2.2.2;omega);exact⟨⟨k1,k3,k4⟩,h.1⟩
theorem Qr:(⟨#[122,111,111]⟩:ByteArray).size<=maxLen:=by
 have e:(⟨#[122,111,111]⟩:ByteArray).size=3:=rfl;rw[e];unfold maxLen;omega
theorem J4{t:TR}{ts:Q06}(h:GoodS (t::ts)):GoodS (({ t with name:=⟨#[122,111,111]⟩ }:TR)::ts):=by
 obtain⟨h1,h2,h3⟩:=h;refine⟨by simpa using h1,fun r hr=>?_,fun r hr=>?_⟩
 ·rcases VH.1 hr with rfl|hr
  ·exact h2 t (by simp)
  exact h2 r (by simp[hr])
 rcases VH.1 hr with rfl|hr
 ·obtain⟨a1,a2,a3⟩:=h3 t (by simp);exact⟨Qr,a2,a3⟩
 exact h3 r (by simp[hr])
theorem Nr{t:TR}{ts:Q06}{q:RR}{qs:Q07}{y:ER}{ys:Q08}(k:Int)(h:GoodS (t::ts))(hq:t.rows=q::qs)(hy:q.rows=y::ys):GoodS (t.asK q qs y ys k::ts):=by
 obtain⟨h1,h2,h3⟩:=h;refine⟨by simpa using h1,fun r hr=>?_,fun r hr=>?_⟩
 ·rcases VH.1 hr with rfl|hr
  ·obtain⟨a1,a2⟩:=h2 t (by simp);rw[hq]at a1 a2;refine⟨by simpa[TR.asK] using a1,fun p hp=>?_⟩;rcases VH.1 hp with rfl|hp
   ·obtain⟨b1,b2⟩:=a2 q (by simp);rw[hy]at b1 b2;refine⟨by simpa using b1,fun z hz=>?_⟩;rcases VH.1 hz with rfl|hz
    ·exact b2 y (by simp)
    exact b2 z (by simp[hz])
   exact a2 p (by simp[hp])
  exact h2 r (by simp[hr])
 rcases VH.1 hr with rfl|hr
 ·obtain⟨a0,a1,a2⟩:=h3 t (by simp);rw[hq]at a1 a2;refine⟨a0,by simpa[TR.asK] using a1,fun p hp=>?_⟩;rcases VH.1 hp with rfl|hp
  ·obtain⟨b0,b1,b2⟩:=a2 q (by simp);rw[hy]at b1 b2;refine⟨b0,by simpa using b1,fun z hz=>?_⟩;rcases VH.1 hz with rfl|hz
   ·exact b2 y (by simp)
   exact b2 z (by simp[hz])
  exact a2 p (by simp[hp])
 exact h3 r (by simp[hr])
def Ui(R:Nat)(ad:Q02)(len cap:Nat)(w:World)(e:Ending)(w':World):Prop:=∃(v:Value) (rs:Q06),e=.returned v/\iE w' w.heap.size v rs/\GoodS rs/\Rd w' R ad len cap/\Only R w w'
def TC(R:Nat)(w:World)(v:Value):Nat×Nat->Prop
 | (0,n)=>∃g,v=.slice (some ⟨g,0,none⟩) n n/\sJ w R g n 70
 | (1,_)=>v=.pointer (some ⟨R,0,none⟩)
 | (2,n)=>∃x:Nat,v=.int .i64 (x:Int)/\x<n
 | (3,n)=>∃g x,v=.pointer (some ⟨g,x,none⟩)/\x<n/\sJ w R g n 70
 | (4,n)=>∃t:ByteArray,v=.string t/\t.size<=n
 | (_,n)=>∃t:ByteArray,v=.string t/\Pre t/\t.size<=n
theorem TC.only{R:Nat}{w w':ae}{v:Value}(h:Only R w w')(k:Nat×Nat)(hk:TC R w v k):TC R w' v k:=by
 match k,hk with
 | (0,n),hk=>obtain⟨g,e,hs⟩:=hk;exact⟨g,e,hs.only h⟩
 | (1,n),hk=>exact hk
 | (2,n),hk=>exact hk
 | (3,n),hk=>obtain⟨g,x,e,hx,hs⟩:=hk;exact⟨g,x,e,hx,hs.only h⟩
 | (4,n),hk=>exact hk
 | (n+5,m),hk=>exact hk
def Vo:List (Nat×Nat):=[(0,2),(1,0),(2,2),(3,2),(4,70),(5,200),(5,240),(0,3),(1,0),(2,3),(3,3),(4,70),(5,320),(5,420)]
theorem J5(R:Nat)(ad:Q02)(len cap:Nat)(w:ae)(h:Rd w R ad len cap):
  Calls prog 89 #[.pointer (some ⟨R,0,none⟩)] w (Ui R ad len cap w):=by
 have H:=jP h;have Zf:=h.lt;clear h;go_enter func89,ntmps89;go_wp2_with fail;refine bR 14 _ _ (fun k v w'=>TC R w' v (Vo.getD k (9,0))) (fun w'=>Rd w' R ad len cap/\Only R w w') (by kernel_rfl) rfl (by kernel_rfl) (by kernel_rfl) (F5 [(7,[0,1,2,3,4,5,6,7,8,9,10,11,12,13])]) ⟨H.out.below ((Vs _ _).drew),(Only.refl R w).drewN 1⟩ ?step ?fin<;>dsimp only[Em];case step =>
  rintro i hi o ho f w' ⟨hR',XO⟩ hpre;have HR:=aC hR';have HO:=aC XO;have hRl:R<w'.heap.size:=hR'.lt;have HM:Hid (∀e∈o.after,Region.binds .any e=true->_):=hpre;clear hR' XO hpre;have hc:=UJ (i:=i) (by omega);clear hi
  repeat' rcases hc with rfl|hc
  ·cases ho;have K1:Hid (Only R w' (w'.alloc (.cells #[.string ⟨#[116,104,105,115,40,117,115,101,114,41]⟩,.string ⟨#[116,104,105,115,40,117,115,101,114,41,32,124,32,112,97,114,101,110,116,45,62,111,119,110,101,114]⟩] 9))):=(Only.refl R w').alloc _;refine aa rfl fun K HK=>?_;clear HM;dsimp only;go_simp;exact HK.out _ _ ⟨.slice (some ⟨w'.heap.size,0,none⟩) 2 2,by simp[upd],⟨HR.out.alloc _,HO.out.alloc _⟩,⟨_,rfl,lZ w' R 70 hRl (xs:=[_,_]) (by decide)⟩,fun k u hu=>TC.only K1.out _ hu⟩
  ·cases ho;refine aa rfl fun K HK=>?_;clear HM;dsimp only;go_simp;exact HK.out _ _ ⟨Value.pointer (some ⟨R,0,none⟩),by simp[upd],⟨HR.out,HO.out⟩,rfl,fun k u hu=>hu⟩
  ·cases ho;have e1:f 1=Value.pointer (some ⟨R,0,none⟩):=HM.out ⟨1,.data⟩ (by simp) rfl;refine aa rfl fun K HK=>?_;clear HM;simp only[e1];go_simp;refine(gH R ad len cap 2 _ HR.out (by omega) (by omega)).mono ?_;rintro e w5 ⟨⟨x,rfl,hx⟩,Xn,Xi⟩;have Xo:=jP Xn;have WV:=jP Xi;clear Xn Xi;go_wp2_with fail;exact HK.out _ _ ⟨.int .i64 (x:Int),by simp[upd,e1],⟨Xo.out,HO.out.trans WV.out⟩,⟨x,rfl,hx⟩,fun k u hu=>TC.only WV.out _ hu⟩
  ·cases ho;obtain⟨g,e1,hS⟩:=HM.out ⟨0,.data⟩ (by simp) rfl;obtain⟨x,e2,hx⟩:=HM.out ⟨2,.data⟩ (by simp) rfl;replace e1:f 0=_:=e1;replace e2:f 2=_:=e2;have HS:=aC hS;clear hS;have hx0:=bC x;have hx1:(x:Int)<2:=by omega
   refine aa rfl fun K HK=>?_;clear HM;simp only[e1,e2];go_simp;exact HK.out _ _ ⟨.pointer (some ⟨g,x,none⟩),by simp[upd,e1,e2],⟨HR.out,HO.out⟩,⟨g,x,rfl,hx,HS.out⟩,fun k u hu=>hu⟩
  ·cases ho;obtain⟨g,x,e1,hx,hS⟩:=HM.out ⟨3,.data⟩ (by simp) rfl;replace e1:f 3=_:=e1;obtain⟨t,hcell,ht⟩:=hS.2.2 x hx;clear hS;refine aa rfl fun K HK=>?_;clear HM;simp only[e1];go_simp;exact HK.out _ _ ⟨.string t,by simp[upd,e1],⟨HR.out,HO.out⟩,⟨t,rfl,ht⟩,fun k u hu=>hu⟩
  ·cases ho;obtain⟨t,e1,ht⟩:=HM.out ⟨4,.data⟩ (by simp) rfl;replace e1:f 4=_:=e1;have hc0:(⟨#[116,121,112,101,32,100,111,99,10,98,97,110,110,101,100,32,61,32,116,104,105,115,40,117,115,101,114,41,10,101,100,105,116,111,114,32,61,32,116,104,105,115,40,117,115,101,114,41,32,124,32,111,119,110,101,114,10,111,119,110,101,114,32,61,32]⟩:ByteArray).size=65:=rfl;have hz:(9223372036854775807<65+t.size)=False:=by simp;omega
   refine aa rfl fun K HK=>?_;clear HM;simp only[e1];go_simp;exact HK.out _ _ ⟨.string ((⟨#[116,121,112,101,32,100,111,99,10,98,97,110,110,101,100,32,61,32,116,104,105,115,40,117,115,101,114,41,10,101,100,105,116,111,114,32,61,32,116,104,105,115,40,117,115,101,114,41,32,124,32,111,119,110,101,114,10,111,119,110,101,114,32,61,32]⟩:ByteArray)++t),by simp[upd,e1],⟨HR.out,HO.out⟩,⟨_,rfl,(Fj (x:=100) (y:=111) (z:=99) (c:=98) (by rfl) (by decide) (by decide) (by decide) (by decide)).app t,by rw[VK,hc0];omega⟩,fun k u hu=>hu⟩
  ·cases ho;obtain⟨t,e1,hp,ht⟩:=HM.out ⟨5,.data⟩ (by simp) rfl;replace e1:f 5=_:=e1;have ZC:=jP hp;have hc0:(⟨#[10,112,97,114,101,110,116,32,61,32,116,104,105,115,40,100,111,99,41,10,118,105,101,119,101,114,32,61,32]⟩:ByteArray).size=29:=rfl;have hz:(9223372036854775807<t.size+29)=False:=by simp;omega
   refine aa rfl fun K HK=>?_;clear HM hp;simp only[e1];go_simp;exact HK.out _ _ ⟨.string (t++(⟨#[10,112,97,114,101,110,116,32,61,32,116,104,105,115,40,100,111,99,41,10,118,105,101,119,101,114,32,61,32]⟩:ByteArray)),by simp[upd,e1],⟨HR.out,HO.out⟩,⟨_,rfl,ZC.out.app _,by rw[VK,hc0];omega⟩,fun k u hu=>hu⟩
  ·cases ho;have K1:Hid (Only R w' (w'.alloc (.cells #[.string ⟨#[116,104,105,115,40,117,115,101,114,44,103,114,111,117,112,35,109,101,109,98,101,114,41,32,124,32,101,100,105,116,111,114,32,124,32,112,97,114,101,110,116,45,62,118,105,101,119,101,114]⟩,.string ⟨#[40,116,104,105,115,40,117,115,101,114,44,103,114,111,117,112,35,109,101,109,98,101,114,41,32,124,32,101,100,105,116,111,114,32,124,32,112,97,114,101,110,116,45,62,118,105,101,119,101,114,41,32,45,32,98,97,110,110,101,100]⟩,.string ⟨#[116,104,105,115,40,117,115,101,114,44,103,114,111,117,112,35,109,101,109,98,101,114,41,32,38,32,101,100,105,116,111,114]⟩] 9))):=(Only.refl R w').alloc _;refine aa rfl fun K HK=>?_;clear HM;dsimp only;go_simp;exact HK.out _ _ ⟨.slice (some ⟨w'.heap.size,0,none⟩) 3 3,by simp[upd],⟨HR.out.alloc _,HO.out.alloc _⟩,⟨_,rfl,lZ w' R 70 hRl (xs:=[_,_,_]) (by decide)⟩,fun k u hu=>TC.only K1.out _ hu⟩
  ·cases ho;refine aa rfl fun K HK=>?_;clear HM;dsimp only;go_simp;exact HK.out _ _ ⟨Value.pointer (some ⟨R,0,none⟩),by simp[upd],⟨HR.out,HO.out⟩,rfl,fun k u hu=>hu⟩
  ·cases ho;have e1:f 8=Value.pointer (some ⟨R,0,none⟩):=HM.out ⟨8,.data⟩ (by simp) rfl;refine aa rfl fun K HK=>?_;clear HM;simp only[e1];go_simp;refine(gH R ad len cap 3 _ HR.out (by omega) (by omega)).mono ?_;rintro e w5 ⟨⟨x,rfl,hx⟩,Xn,Xi⟩;have Xo:=jP Xn;have WV:=jP Xi;clear Xn Xi;go_wp2_with fail;exact HK.out _ _ ⟨.int .i64 (x:Int),by simp[upd,e1],⟨Xo.out,HO.out.trans WV.out⟩,⟨x,rfl,hx⟩,fun k u hu=>TC.only WV.out _ hu⟩
  ·cases ho;obtain⟨g,e1,hS⟩:=HM.out ⟨7,.data⟩ (by simp) rfl;obtain⟨x,e2,hx⟩:=HM.out ⟨9,.data⟩ (by simp) rfl;replace e1:f 7=_:=e1;replace e2:f 9=_:=e2;have HS:=aC hS;clear hS;have hx0:=bC x;have hx1:(x:Int)<3:=by omega
   refine aa rfl fun K HK=>?_;clear HM;simp only[e1,e2];go_simp;exact HK.out _ _ ⟨.pointer (some ⟨g,x,none⟩),by simp[upd,e1,e2],⟨HR.out,HO.out⟩,⟨g,x,rfl,hx,HS.out⟩,fun k u hu=>hu⟩
  ·cases ho;obtain⟨g,x,e1,hx,hS⟩:=HM.out ⟨10,.data⟩ (by simp) rfl;replace e1:f 10=_:=e1;obtain⟨t,hcell,ht⟩:=hS.2.2 x hx;clear hS;refine aa rfl fun K HK=>?_;clear HM;simp only[e1];go_simp;exact HK.out _ _ ⟨.string t,by simp[upd,e1],⟨HR.out,HO.out⟩,⟨t,rfl,ht⟩,fun k u hu=>hu⟩
  ·cases ho;obtain⟨t,e1,hp,ht⟩:=HM.out ⟨6,.data⟩ (by simp) rfl;obtain⟨u2,e2,hu2⟩:=HM.out ⟨11,.data⟩ (by simp) rfl;replace e1:f 6=_:=e1;replace e2:f 11=_:=e2;have ZC:=jP hp;have hz:(9223372036854775807<t.size+u2.size)=False:=by simp;omega
   refine aa rfl fun K HK=>?_;clear HM hp;simp only[e1,e2];go_simp;exact HK.out _ _ ⟨.string (t++u2),by simp[upd,e1,e2],⟨HR.out,HO.out⟩,⟨_,rfl,ZC.out.app _,by rw[VK];omega⟩,fun k u hu=>hu⟩
  cases ho;obtain⟨t,e1,hp,ht⟩:=HM.out ⟨12,.data⟩ (by simp) rfl;replace e1:f 12=_:=e1;have ZC:=jP hp;have hc0:(⟨#[10,116,121,112,101,32,103,114,111,117,112,10,109,101,109,98,101,114,32,61,32,116,104,105,115,40,117,115,101,114,44,103,114,111,117,112,35,109,101,109,98,101,114,41,10,116,121,112,101,32,117,115,101,114,10]⟩:ByteArray).size=55:=rfl;have hz:(9223372036854775807<t.size+55)=False:=by simp;omega
  refine aa rfl fun K HK=>?_;clear HM hp;simp only[e1];go_simp;exact HK.out _ _ ⟨.string (t++(⟨#[10,116,121,112,101,32,103,114,111,117,112,10,109,101,109,98,101,114,32,61,32,116,104,105,115,40,117,115,101,114,44,103,114,111,117,112,35,109,101,109,98,101,114,41,10,116,121,112,101,32,117,115,101,114,10]⟩:ByteArray)),by simp[upd,e1],⟨HR.out,HO.out⟩,⟨_,rfl,ZC.out.app _,by rw[VK,hc0];omega⟩,fun k u hu=>hu⟩
 case fin =>
  rintro o ho f w1 ⟨Xf,Xe⟩ hall;obtain⟨t1,e1,hp1,ht1⟩:=hall 13 (by omega);replace e1:f 13=_:=e1;have HR1:=jP Xf;have Xb:=jP Xe;have HP1:=jP hp1;obtain rfl:=Option.some.inj ho;clear ho hall Xf Xe hp1;refine aa rfl fun K HK=>?_;simp only[e1];go_simp;refine HK.out _ _ ?_;clear HK;go_wp2_with fail;refine(iN R ad len cap 3 _ HR1.out (by omega) (by omega)).mono ?_;rintro e w2 ⟨⟨q1,rfl⟩,hR2,hO2⟩;have HR2:=jP hR2;have WL:Hid (Only R w w2):=Xb.out.trans hO2;clear hR2 hO2 HR1 Xb
  go_upto_if 22 with fail
  go_cut [3] from 23 (fun s3 wc=>∃t:ByteArray,s3=.string t/\t.size<=1200/\Hid (Pre t)/\Hid (Rd wc R ad len cap)/\Hid (Only R w wc))
  case first =>
   cases q1;case false=>
    go_wp2_with fail
    go_meet
    exact⟨t1,rfl,by omega,HP1,HR2,WL⟩
   go_wp2_with fail;refine(qD R ad len cap 0 _ (by omega) HR2.out).mono ?_;rintro e w3 ⟨⟨r0,rfl,hr0⟩,Yi,hO3⟩;have HR3:=jP Yi;have Xc:Hid (Only R w w3):=WL.out.trans hO3;clear Yi hO3 HR2 WL;go_wp2_with fail;refine(qD R ad len cap 1 _ (by omega) HR3.out).mono ?_;rintro e w4 ⟨⟨r1,rfl,hr1⟩,YY,hO4⟩;have HR4:=jP YY;have WZ:Hid (Only R w w4):=Xc.out.trans hO4;clear YY hO4 HR3 Xc;go_wp2_with fail;refine(qD R ad len cap 2 _ (by omega) HR4.out).mono ?_;rintro e w5 ⟨⟨r2,rfl,hr2⟩,Xn,Xi⟩;have Xo:=jP Xn;have WV:Hid (Only R w w5):=WZ.out.trans Xi;clear Xn Xi HR4 WZ;have k0:(⟨#[116,121,112,101,32,100,111,99,10,98,97,110,110,101,100,32,61,32]⟩:ByteArray).size=18:=rfl;have k1:(⟨#[10,101,100,105,116,111,114,32,61,32]⟩:ByteArray).size=10:=rfl;have k2:(⟨#[10,111,119,110,101,114,32,61,32,116,104,105,115,40,117,115,101,114,41,10,112,97,114,101,110,116,32,61,32,116,104,105,115,40,100,111,99,41,10,118,105,101,119,101,114,32,61,32]⟩:ByteArray).size=48:=rfl;have k3:(⟨#[10,116,121,112,101,32,103,114,111,117,112,10,109,101,109,98,101,114,32,61,32,116,104,105,115,40,117,115,101,114,44,103,114,111,117,112,35,109,101,109,98,101,114,41,10,116,121,112,101,32,117,115,101,114,10]⟩:ByteArray).size=55:=rfl;have Zu:Hid ((((((((⟨#[116,121,112,101,32,100,111,99,10,98,97,110,110,101,100,32,61,32]⟩:ByteArray)++r0)++(⟨#[10,101,100,105,116,111,114,32,61,32]⟩:ByteArray))++r1)++(⟨#[10,111,119,110,101,114,32,61,32,116,104,105,115,40,117,115,101,114,41,10,112,97,114,101,110,116,32,61,32,116,104,105,115,40,100,111,99,41,10,118,105,101,119,101,114,32,61,32]⟩:ByteArray))++r2)++(⟨#[10,116,121,112,101,32,103,114,111,117,112,10,109,101,109,98,101,114,32,61,32,116,104,105,115,40,117,115,101,114,44,103,114,111,117,112,35,109,101,109,98,101,114,41,10,116,121,112,101,32,117,115,101,114,10]⟩:ByteArray)).size<=1200):=by show _<=_;simp only[VK,k0,k1,k2,k3];omega
   have HPX:Hid (Pre (((((((⟨#[116,121,112,101,32,100,111,99,10,98,97,110,110,101,100,32,61,32]⟩:ByteArray)++r0)++(⟨#[10,101,100,105,116,111,114,32,61,32]⟩:ByteArray))++r1)++(⟨#[10,111,119,110,101,114,32,61,32,116,104,105,115,40,117,115,101,114,41,10,112,97,114,101,110,116,32,61,32,116,104,105,115,40,100,111,99,41,10,118,105,101,119,101,114,32,61,32]⟩:ByteArray))++r2)++(⟨#[10,116,121,112,101,32,103,114,111,117,112,10,109,101,109,98,101,114,32,61,32,116,104,105,115,40,117,115,101,114,44,103,114,111,117,112,35,109,101,109,98,101,114,41,10,116,121,112,101,32,117,115,101,114,10]⟩:ByteArray))):=(((((((Fj (x:=100) (y:=111) (z:=99) (c:=98) (by rfl) (by decide) (by decide) (by decide) (by decide):Pre (⟨#[116,121,112,101,32,100,111,99,10,98,97,110,110,101,100,32,61,32]⟩:ByteArray)).app r0).app _).app r1).app _).app r2).app _);clear k0 k1 k2 k3;go_wp2_with fail
   go_meet
   exact⟨_,rfl,Zu.out,HPX,Xo,WV⟩
  obtain⟨t,rfl,hts,HP,HR,HO⟩:=hcut;clear HP1 HR2 WL;go_wp2_with fail;refine(iN R ad len cap 4 _ HR.out (by omega) (by omega)).mono ?_;rintro e w6 ⟨⟨q2,rfl⟩,hR6,Zg⟩;have Ym:=jP hR6;have XL:Hid (Only R w w6):=HO.out.trans Zg;clear hR6 Zg HR HO
  go_upto_if 36 with fail
  go_cut [3,4] from 37 (fun s3 s4 wc=>∃t:ByteArray,s3=.string t/\t.size<=2000/\Hid (Pre t)/\Hid (Rd wc R ad len cap)/\Hid (Only R w wc))
  case first =>
   cases q2;case false=>
    go_wp2_with fail
    go_meet
    exact⟨t,rfl,by omega,HP,Ym,XL⟩
   have ht10:10<=t.size:=Qq HP.out;go_wp2_with fail;go_loopw[4] (fun i wr=>∃k:Nat,i=.int .i64 (k:Int)/\k+9<=t.size/\wr=w6) (fun i _=>t.size-(intOf i).toNat);case atStart=>exact⟨0,rfl,by omega,rfl⟩
   obtain⟨k,rfl,hk,rfl⟩:=hrel;have HD0:Hid ((⟨#[116,121,112,101,32,100,105,114,10,111,119,110,101,114,32,61,32,116,104,105,115,40,117,115,101,114,41,10,115,101,101,32,61,32,116,104,105,115,40,117,115,101,114,41,10]⟩:ByteArray).size=45):=rfl;have HD1:Hid ((⟨#[116,104,105,115,40,100,111,99,44,100,105,114,41]⟩:ByteArray).size=13):=rfl;have h3:(((k:Int)+9<(t.size:Int))/\((t.extract k (k+9)).toList==[116,104,105,115,40,100,111,99,41])=false)\/(((k:Int)+9<(t.size:Int))/\((t.extract k (k+9)).toList==[116,104,105,115,40,100,111,99,41])=true)\/¬((k:Int)+9<(t.size:Int)):=by
    by_cases h:(k:Int)+9<(t.size:Int)
    ·cases e:(t.extract k (k+9)).toList==[116,104,105,115,40,100,111,99,41]
     ·exact .inl ⟨h,rfl⟩
     exact .inr (.inl ⟨h,rfl⟩)
    exact .inr (.inr h)
   have hk0:=bC k;have hk1:(k:Int)<=(t.size:Int):=by omega
   have hk2:(0:Int)<=(k:Int)+9:=by omega
   have hk3:(k:Int)+9<=(t.size:Int):=by omega
   have he1:(t.extract 0 k).size<=1200:=by rw[ByteArray.size_extract];omega
   have he2:(t.extract (k+9) t.size).size<=1200:=by rw[ByteArray.size_extract];omega
   have hetot:(t.extract 0 k).size+(t.extract (k+9) t.size).size<=1200:=by rw[ByteArray.size_extract,ByteArray.size_extract];omega
   have Zu:Hid (((((⟨#[116,121,112,101,32,100,105,114,10,111,119,110,101,114,32,61,32,116,104,105,115,40,117,115,101,114,41,10,115,101,101,32,61,32,116,104,105,115,40,117,115,101,114,41,10]⟩:ByteArray)++t.extract 0 k)++(⟨#[116,104,105,115,40,100,111,99,44,100,105,114,41]⟩:ByteArray))++t.extract (k+9) t.size).size<=2000):=by show _<=_;simp only[VK,HD0.out,HD1.out];omega
   have HPX:Hid (Pre ((((⟨#[116,121,112,101,32,100,105,114,10,111,119,110,101,114,32,61,32,116,104,105,115,40,117,115,101,114,41,10,115,101,101,32,61,32,116,104,105,115,40,117,115,101,114,41,10]⟩:ByteArray)++t.extract 0 k)++(⟨#[116,104,105,115,40,100,111,99,44,100,105,114,41]⟩:ByteArray))++t.extract (k+9) t.size)):=((((Fj (x:=100) (y:=105) (z:=114) (c:=111) (by rfl) (by decide) (by decide) (by decide) (by decide):Pre (⟨#[116,121,112,101,32,100,105,114,10,111,119,110,101,114,32,61,32,116,104,105,115,40,117,115,101,114,41,10,115,101,101,32,61,32,116,104,105,115,40,117,115,101,114,41,10]⟩:ByteArray)).app _).app _).app _);have HRW:Hid (∀n,Rd (wr.drewN n) R ad len cap):=fun n=>Ym.out.below (below_drewN (Vs _ _) n);have HOW:Hid (∀n,Only R w (wr.drewN n)):=fun n=>XL.out.drewN n;rcases h3 with⟨h,hm⟩|⟨h,hm⟩|h
   ·have hm2:(!(t.extract k (k+9)).toList==[116,104,105,115,40,100,111,99,41])=true:=by rw[hm];rfl
    go_wp2;go_roundw;case rel=>exact⟨k+1,by go_num,by omega,trivial⟩
    simp[intOf]<;>omega
   ·have hm2:(!(t.extract k (k+9)).toList==[116,104,105,115,40,100,111,99,41])=false:=by rw[hm];rfl
    go_wp2_with fail;go_quiet (fail);go_wp2_with fail
    go_meet
    exact⟨_,rfl,Zu.out,HPX,HRW.out _,HOW.out _⟩
   go_wp2_with fail;go_quiet (fail);go_wp2_with fail
   go_meet
   exact⟨_,rfl,Zu.out,HPX,HRW.out _,HOW.out _⟩
  obtain⟨t2,rfl,hts2,WQ,HR,HO⟩:=hcut;clear HP Ym XL hts;have hRc:R<wc.heap.size:=HR.out.lt;go_wp2_with fail;refine(rq t2 _ (by omega)).mono ?_;rintro e w7 ⟨Y6,hcase⟩;have HR7:=jP (HR.out.below Y6);have ZN:=aC (HO.out.below Y6);have hw7:w.heap.size<=w7.heap.size:=ZN.out.size;have hwc:w.heap.size<=wc.heap.size:=HO.out.size;obtain⟨v0,b0,rfl,HV0⟩:∃(v0:Value) (b0:Bool),e=.returned (.tuple #[v0,.bool b0])/\Hid (b0=true->∃rs:List TR,Hd w w7 v0 rs):=by
   rcases hcase with⟨-,e1⟩|⟨v,rs,hd,e1,hM,htx,hok⟩
   ·exact⟨_,_,e1,fun h=>by cases h⟩
   exact⟨_,_,e1,fun _=>⟨rs,hM.lower hwc,hd,by rw[htx];exact WQ.out,hok,by rw[htx];omega⟩⟩
  clear Y6 hcase HR HO WQ hts2 hwc hRc
  go_upto_if 68 with fail
  go_cut [5] from 69 (fun s5 wd=>(∃rs:List TR,Hd w wd s5 rs)/\Hid (Rd wd R ad len cap)/\Hid (Only R w wd))
  case first =>
   cases b0;case true=>
    have HV:=jP (HV0.out rfl);go_wp2_with fail
    go_meet
    exact⟨HV.out,HR7,ZN⟩
   go_wp2_with fail;refine(rq lastT _ (by decide)).mono ?_;rintro e w8 ⟨hb8,hcase⟩;have HR8:=jP (HR7.out.below hb8);have HO8:=aC (ZN.out.below hb8);rcases hcase with⟨hno,e1⟩|⟨v,rs,hd,e1,hM,htx,hok⟩
   ·exact absurd (hno G8 JY) (by rw[JZ];decide)
   subst e1;have HV:Hid (∃rs:List TR,Hd w w8 v rs):=⟨rs,hM.lower hw7,hd,by rw[htx];exact Fj (x:=100) (y:=111) (z:=99) (c:=118) (by rfl) (by decide) (by decide) (by decide) (by decide),hok,by rw[htx];decide⟩;clear hb8 hd hM htx hok;go_wp2_with fail
   go_meet
   exact⟨HV.out,HR8,HO8⟩
  obtain⟨⟨rs,hSR⟩,HR,HO⟩:=hcut;have HSR:=jP hSR;clear hSR HV0 HR7 ZN hw7;go_wp2_with fail;refine(gH R ad len cap 40 _ HR.out (by omega) (by omega)).mono ?_;rintro e w9 ⟨⟨x,rfl,hx⟩,hR9,hO9⟩;have HR9:=jP hR9;have HO9:Hid (Only R w w9):=HO.out.trans hO9;have HS9:=jP (HSR.out.only Zf hO9);clear hR9 hO9 HR HO HSR;obtain⟨t,ts,q,qs,y,ys,hrs,hq,hy⟩:=Nq HS9.out.2.1 HS9.out.2.2.1;subst hrs;obtain⟨b,cp,hu5⟩:∃b cp,u5=.slice (some ⟨b,0,none⟩) (ts.length+1) cp:=fH HS9.out.1.own;subst hu5;have HM9:=jP HS9.out.1;have HG:=jP HS9.out.good.1;have HQ:=jP hq;have HYY:=jP hy;have hbw:w.heap.size<=b:=(HM9.out.own.lt b rfl).1;have hbl:b<w9.heap.size:=(HM9.out.own.lt b rfl).2;have hts0:(0:Int)<(ts.length:Int)+1:=by omega
  have FAR:Hid (∀g,w.heap.size<=g->0<len->∀b off,ad=some ⟨b,off,none⟩->b≠g):=fun g hg h0 b off e=>by
   obtain⟨b',off',e',-,hb',-⟩:=H.out.bytes h0;rw[e]at e';injection e' with e';injection e' with e1 e2;omega
  have hc0:w9.cell? ⟨b,0,none⟩=some (.string t.name):=(HM9.out.own.cellAt 0 (by omega)).trans (by simp[TR.cells]);have hc1:w9.cell? ⟨b,1,none⟩=some (.slice t.ad t.rows.length t.cap):=(HM9.out.own.cellAt 1 (by omega)).trans (by simp[TR.cells,TR.vs]);have hf0:w9.frozen? ⟨b,0,none⟩=false:=HM9.out.own.frozenAt 0;clear HS9 hq hy;by_cases h39:x=39
  ·have h39b:((x:Int)==39)=true:=by simp;omega
   have Xu:Hid (Ui R ad len cap w (.returned (.slice (some ⟨b,0,none⟩) (ts.length+1) cp)) (w9.setCell ⟨b,0,none⟩ (.string ⟨#[122,111,111]⟩))):=⟨_,_,rfl,iE.named ⟨#[122,111,111]⟩ HM9.out rfl,J4 HG.out,HR9.out.setFar (by omega) (FAR.out b hbw),HO9.out.setNew hbw⟩;go_wp2;go_ret;exact Xu.out
  have h39b:((x:Int)==39)=false:=by simp;omega
  by_cases h38:x=38
  ·have h38b:((x:Int)==38)=true:=by simp;omega
   subst h38;have hkt:=HM9.out.kid t (by simp);have hR9:Cq w9 w.heap.size t.vs (q::qs):=by have:=hkt;unfold kT at this;rwa [HQ.out]at this
   obtain⟨b1,c1,ht1⟩:∃b1 c1,t.vs=.slice (some ⟨b1,0,none⟩) (qs.length+1) c1:=fH hR9.own;have hkq:=hR9.kid q (by simp);have hN9:NodM w9 w.heap.size q.vs (y::ys):=by have:=hkq;unfold kR at this;rwa [HYY.out]at this
   obtain⟨b2,c2,hq2⟩:∃b2 c2,q.vs=.slice (some ⟨b2,0,none⟩) (ys.length+1) c2:=fH hN9.own;have hqad:q.ad=some ⟨b2,0,none⟩:=by unfold RR.vs at hq2;injection hq2
   rw[ht1]at hR9;rw[hq2]at hN9;have hv1:Value.slice t.ad t.rows.length t.cap=.slice (some ⟨b1,0,none⟩) (qs.length+1) c1:=ht1;rw[hv1]at hc1;have hd1:w9.cell? ⟨b1,1,none⟩=some (.slice (some ⟨b2,0,none⟩) (ys.length+1) c2):=(hR9.own.cellAt 1 (by omega)).trans (by simp[RR.cells,hq2]);have hk0:w9.cell? ⟨b2,0,none⟩=some (.int .i64 y.e.kind):=(hN9.own.cellAt 0 (by omega)).trans (by simp[jQ,ER.row]);have hk1:w9.frozen? ⟨b2,0,none⟩=false:=hN9.own.frozenAt 0;have l1:=hR9.own.lt b1 rfl;have l2:=hN9.own.lt b2 rfl;have hqs0:(0:Int)<(qs.length:Int)+1:=by omega
   have hys0:(0:Int)<(ys.length:Int)+1:=by omega
   have HQAD:=jP hqad;clear hkt hkq hR9 hN9 ht1 hq2 hqad hv1 hc0 hf0;go_wp2_with fail;refine lW 11 _ _ (fun k v _=>(k=8->∃z:Int,v=.int .i64 z)/\(k≠8->v=(Value.slice (some ⟨b,0,none⟩) (ts.length+1) cp::.pointer (some ⟨b,0,none⟩)::.pointer (some ⟨b,1,none⟩)::.slice (some ⟨b1,0,none⟩) (qs.length+1) c1::.pointer (some ⟨b1,0,none⟩)::.pointer (some ⟨b1,1,none⟩)::.slice (some ⟨b2,0,none⟩) (ys.length+1) c2::.pointer (some ⟨R,0,none⟩)::undef::.pointer (some ⟨b2,0,none⟩)::.pointer (some ⟨b2,0,none⟩)::[]).getD k undef)) (fun _ w'=>Rd w' R ad len cap/\Only R w9 w') (by kernel_rfl) rfl (by kernel_rfl) (by kernel_rfl) (F5 [(82,[0,1,2,3,4,5,6,7,8,9,10])]) ⟨HR9.out.below ((Vs _ _).drew),(Only.refl R w9).drewN 1⟩ ?stepK ?finK<;>dsimp only[Em];case stepK =>
    rintro i hi o ho listed fq w' - - ⟨hR',XO⟩ hpre;have HRr:=aC hR';have HOo:=aC XO;replace hc1:=(XO.cell hbl (by omega)).trans hc1;replace hd1:=(XO.cell l1.2 (by omega)).trans hd1;have HM:Hid (∀e∈o.after,Region.binds .any e=true->_):=hpre;clear hR' XO hpre;have hc:=Oy (i:=i) (by omega);clear hi
    repeat' rcases hc with rfl|hc
    ·cases ho;refine aa rfl fun K HK=>?_;clear HM;dsimp only;go_simp;exact HK.out _ _ ⟨Value.slice (some ⟨b,0,none⟩) (ts.length+1) cp,by simp[upd],⟨HRr.out,HOo.out⟩,⟨fun h=>absurd h (by decide),fun _=>rfl⟩,fun k u _ hu=>hu⟩
    ·cases ho;have e0:fq 0=.slice (some ⟨b,0,none⟩) (ts.length+1) cp:=(HM.out ⟨0,.data⟩ (by simp) rfl).2 (by decide);refine aa rfl fun K HK=>?_;clear HM;simp only[e0];go_simp;exact HK.out _ _ ⟨Value.pointer (some ⟨b,0,none⟩),by simp[upd,e0],⟨HRr.out,HOo.out⟩,⟨fun h=>absurd h (by decide),fun _=>rfl⟩,fun k u _ hu=>hu⟩
    ·cases ho;have e1:fq 1=.pointer (some ⟨b,0,none⟩):=(HM.out ⟨1,.data⟩ (by simp) rfl).2 (by decide);refine aa rfl fun K HK=>?_;clear HM;simp only[e1];go_simp;exact HK.out _ _ ⟨Value.pointer (some ⟨b,1,none⟩),by simp[upd,e1],⟨HRr.out,HOo.out⟩,⟨fun h=>absurd h (by decide),fun _=>rfl⟩,fun k u _ hu=>hu⟩
    ·cases ho;have e2:fq 2=.pointer (some ⟨b,1,none⟩):=(HM.out ⟨2,.data⟩ (by simp) rfl).2 (by decide);refine aa rfl fun K HK=>?_;clear HM;simp only[e2];go_simp;exact HK.out _ _ ⟨Value.slice (some ⟨b1,0,none⟩) (qs.length+1) c1,by simp[upd,e2],⟨HRr.out,HOo.out⟩,⟨fun h=>absurd h (by decide),fun _=>rfl⟩,fun k u _ hu=>hu⟩
    ·cases ho;have e3:fq 3=.slice (some ⟨b1,0,none⟩) (qs.length+1) c1:=(HM.out ⟨3,.data⟩ (by simp) rfl).2 (by decide);refine aa rfl fun K HK=>?_;clear HM;simp only[e3];go_simp;exact HK.out _ _ ⟨Value.pointer (some ⟨b1,0,none⟩),by simp[upd,e3],⟨HRr.out,HOo.out⟩,⟨fun h=>absurd h (by decide),fun _=>rfl⟩,fun k u _ hu=>hu⟩
    ·cases ho;have e4:fq 4=.pointer (some ⟨b1,0,none⟩):=(HM.out ⟨4,.data⟩ (by simp) rfl).2 (by decide);refine aa rfl fun K HK=>?_;clear HM;simp only[e4];go_simp;exact HK.out _ _ ⟨Value.pointer (some ⟨b1,1,none⟩),by simp[upd,e4],⟨HRr.out,HOo.out⟩,⟨fun h=>absurd h (by decide),fun _=>rfl⟩,fun k u _ hu=>hu⟩
    ·cases ho;have e5:fq 5=.pointer (some ⟨b1,1,none⟩):=(HM.out ⟨5,.data⟩ (by simp) rfl).2 (by decide);refine aa rfl fun K HK=>?_;clear HM;simp only[e5];go_simp;exact HK.out _ _ ⟨Value.slice (some ⟨b2,0,none⟩) (ys.length+1) c2,by simp[upd,e5],⟨HRr.out,HOo.out⟩,⟨fun h=>absurd h (by decide),fun _=>rfl⟩,fun k u _ hu=>hu⟩
    ·cases ho;refine aa rfl fun K HK=>?_;clear HM;dsimp only;go_simp;exact HK.out _ _ ⟨Value.pointer (some ⟨R,0,none⟩),by simp[upd],⟨HRr.out,HOo.out⟩,⟨fun h=>absurd h (by decide),fun _=>rfl⟩,fun k u _ hu=>hu⟩
    ·cases ho;have e7:fq 7=.pointer (some ⟨R,0,none⟩):=(HM.out ⟨7,.data⟩ (by simp) rfl).2 (by decide);refine aa rfl fun K HK=>?_;clear HM;simp only[e7];go_simp;refine(Ld R ad len cap 1 6 _ HRr.out (by decide) (by decide) (by decide)).mono ?_;rintro e w10 ⟨⟨z,rfl⟩,hR10,hO10⟩;have HR10:=jP hR10;have HO10:=jP hO10;clear hR10 hO10;go_wp2_with fail;exact HK.out _ _ ⟨.int .i64 z,by simp[upd,e7],⟨HR10.out,HOo.out.trans HO10.out⟩,⟨fun _=>⟨z,rfl⟩,fun h=>absurd rfl h⟩,fun k u _ hu=>hu⟩
    ·cases ho;have e6:fq 6=.slice (some ⟨b2,0,none⟩) (ys.length+1) c2:=(HM.out ⟨6,.data⟩ (by simp) rfl).2 (by decide);refine aa rfl fun K HK=>?_;clear HM;simp only[e6];go_simp;exact HK.out _ _ ⟨Value.pointer (some ⟨b2,0,none⟩),by simp[upd,e6],⟨HRr.out,HOo.out⟩,⟨fun h=>absurd h (by decide),fun _=>rfl⟩,fun k u _ hu=>hu⟩
    cases ho;have e9:fq 9=.pointer (some ⟨b2,0,none⟩):=(HM.out ⟨9,.data⟩ (by simp) rfl).2 (by decide);refine aa rfl fun K HK=>?_;clear HM;simp only[e9];go_simp;exact HK.out _ _ ⟨Value.pointer (some ⟨b2,0,none⟩),by simp[upd,e9],⟨HRr.out,HOo.out⟩,⟨fun h=>absurd h (by decide),fun _=>rfl⟩,fun k u _ hu=>hu⟩
   case finK =>
    rintro o ho listed fq w' ⟨hR',XO⟩ hall;have HRr:=aC hR';have HOo:Hid (Only R w w'):=HO9.out.trans XO;obtain⟨z,ez⟩:=(hall 8 (by omega)).1 rfl;replace ez:fq 8=_:=ez;have e10:fq 10=.pointer (some ⟨b2,0,none⟩):=(hall 10 (by omega)).2 (by omega);replace hk0:=(XO.cell l2.2 (by omega)).trans hk0;replace hk1:=(XO.frozen (o:=0) l2.2 (by omega)).trans hk1;have hM':iE w' w.heap.size (.slice (some ⟨b,0,none⟩) (ts.length+1) cp) (t::ts):=HM9.out.heap nI XO.size fun g hg=>XO.block g (HM9.out.lt nI hg).2 (fun e=>by injection e with e;have:=(HM9.out.lt nI hg).1;omega);have Xu:Hid (Ui R ad len cap w (.returned (.slice (some ⟨b,0,none⟩) (ts.length+1) cp)) (w'.setCell ⟨b2,0,none⟩ (.int .i64 z))):=⟨_,_,rfl,iE.kind z hM' HQ.out HYY.out HQAD.out,Nr z HG.out HQ.out HYY.out,HRr.out.setFar (by omega) (FAR.out b2 l2.1),HOo.out.setNew l2.1⟩;cases ho;clear hall hR' XO hM';refine aa rfl fun K HK=>?_;simp only[ez,e10];go_simp;refine HK.out _ _ ?_;clear HK;go_wp2;go_ret;exact Xu.out
  have h38b:((x:Int)==38)=false:=by simp;omega
  go_wp2;go_ret;exact⟨_,_,rfl,HM9.out,HG.out,HR9.out,HO9.out⟩
end Go.Proofs.YtojjoblnpldniaaGreat
