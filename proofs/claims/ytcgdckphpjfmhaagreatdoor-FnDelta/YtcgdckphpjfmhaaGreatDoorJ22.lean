/- Contract of the document's reader of schemas: spec.ReadSchema. -/
import Derived.Test.YtcgdckphpjfmhaaGreatDoorSq
import Derived.Test.YtcgdckphpjfmhaaGreatDoorJ21
import Derived.Deep.Cut
import Derived.Deep.CutRange
import Derived.Test.YtcgdckphpjfmhaaGreatDoorJ16
open Go.Proofs.Tryz
set_option maxHeartbeats 80000000
namespace Go.Proofs.YtcgdckphpjfmhaaGreatDoor
set_option maxRecDepth 100000
open ChangeShapes WideShapes ChangeAt RowKit
open Pl
def UX(s:ByteArray)(w:World)(e:Ending)(w':World):Prop :=
 af w w'/\(((∀T,dP (s.size+1) s []=some T->aD T=false)/\e=.returned (.tuple #[.slice none 0 0,.bool false])) \/ ∃(v:Value) (rs:Q06),aD (ag rs)=true/\e=.returned (.tuple #[v,.bool true])/\iP w' w.heap.size v rs/\dh (ag rs)=s/\TJ (ag rs))
theorem rW(s:ByteArray)(w:ae)(hs:s.size<=3000):Calls prog 105 #[.string s] w (UX s w):=by
 have HL:=dQ (Fy s w hs);go_enter func105,ntmps105;go_wp2_with fail;refine HL.out.mono ?_;rintro e w1 ⟨hb1,hcase⟩;have HB1:=dQ hb1;rcases hcase with⟨hno,rfl⟩|⟨v,rs,hyes,rfl,hM,htx,hok⟩
 ·have Zl:Hid (∀T,dP (s.size+1) s []=some T->aD T=false):=fun T hT=>by rw[hno]at hT;cases hT
  clear hb1 hno HL;go_wp2;exact bodyPost_ret (v:=.tuple #[.slice none 0 0,.bool false]) (by simp[results,Tryz.results105,go_sem]) rfl ⟨HB1.out,.inl ⟨Zl.out,rfl⟩⟩
 obtain⟨ad,cap,hv,hsl,-⟩:=iP.read hM;subst hv;obtain⟨k1,k2,k3,k4⟩:=rows_ok hok (by rw[htx];exact hs);have HM:=dQ hM;have HTX:=dQ htx;have Yk:=dQ hok;have HY:=dQ hyes;have HSO:=dQ (iJ ad cap rs w1 (by omega) hsl k3 k4);clear hb1 hM htx hok hyes hsl k1 k2 k3 k4 HL;go_wp2_with fail;refine HSO.out.mono ?_;rintro e w2 ⟨he,hb2⟩;have HB2:=dQ (HB1.out.trans (hb2.mono HB1.out.size));have X0:=dQ (HM.out.below ow hb2);clear hb2 HSO HM;cases hd:aD (ag rs);case false=>
  rw[hd]at he;subst he;have Zl:Hid (∀T,dP (s.size+1) s []=some T->aD T=false):=fun T hT=>by rw[HY.out]at hT;injection hT with hT;rw[<-hT];exact hd
  clear hd;go_wp2;exact bodyPost_ret (v:=.tuple #[.slice none 0 0,.bool false]) (by simp[results,Tryz.results105,go_sem]) rfl ⟨HB2.out,.inl ⟨Zl.out,rfl⟩⟩
 rw[hd]at he;subst he;have HD:=dQ hd;clear hd;go_wp2;exact bodyPost_ret (v:=.tuple #[.slice ad rs.length cap,.bool true]) (by simp[results,Tryz.results105,go_sem]) rfl ⟨HB2.out,.inr ⟨_,rs,HD.out,rfl,X0.out,HTX.out,Yk.out⟩⟩
set_option linter.unusedVariables false
theorem FO{t:ByteArray}{x y z c:UInt8}(h:t.data.toList.take 10=[116,121,112,101,32,x,y,z,10,c])(h1:x≠10)(h2:y≠10)(h3:z≠10)(h4:c≠116):Pre t:=by
 refine⟨x,y,z,c,t.data.toList.drop 10,?_,h1,h2,h3,h4⟩
 conv=>lhs;rw[<-List.take_append_drop 10 t.data.toList,h]
 rfl
theorem Rj{t:ByteArray}(h:Pre t):10<=t.size:=by
 obtain⟨x,y,z,c,tl,e,-⟩:=h;have h2:t.size=t.data.toList.length:=by simp
 rw[h2,e];simp
theorem wO{w:ae}{base base' size n:Nat}{e:TypeId}{v:Value}{xs:Q03}(h:w.ownsRow base e size v n xs)(hb:base'<=base):w.ownsRow base' e size v n xs:=by
 refine⟨h.1,?_⟩;rcases h.2 with hl|⟨g,cap,cur,rfl,h1,h2⟩
 ·exact .inl hl
 exact .inr ⟨g,cap,cur,rfl,Wh hb h1,h2⟩
theorem Cv.lower{w:ae}{base base':Nat}{v:Value}{rs:Q07}(h:Cv w base v rs)(hb:base'<=base):Cv w base' v rs:=⟨wO h.own hb,fun q hq=>NodM.mono (h.kid q hq) hb,h.head,h.two⟩
theorem XK.lower{w:ae}{base base':Nat}{v:Value}{rs:Q06}(h:iP w base v rs)(hb:base'<=base):iP w base' v rs:=⟨wO h.own hb,fun q hq=>Cv.lower (h.kid q hq) hb,h.head,h.two⟩
def IC(w wc:World)(v:Value)(rs:Q06):Prop:=iP wc w.heap.size v rs/\aD (ag rs)=true/\Pre (dh (ag rs))/\TJ (ag rs)/\(dh (ag rs)).size<=2000
theorem IC.only{w wc wd:ae}{R:Nat}{v:Value}{rs:Q06}(h:IC w wc v rs)(hR:R<w.heap.size)(ho:Only R wc wd):IC w wd v rs :=
 ⟨h.1.heap ow ho.size fun g hg=>ho.block g (h.1.lt ow hg).2 (fun e=>by injection e with e;have:=(h.1.lt ow hg).1;omega),h.2⟩
def GoodS(rs:Q06):Prop:=rs.length<=500/\(∀r∈rs,r.light)/\∀r∈rs,r.fits
theorem IC.good{w wc:ae}{v:Value}{rs:Q06}(h:IC w wc v rs):GoodS rs/\iP wc w.heap.size v rs:=by
 obtain⟨k1,-,k3,k4⟩:=rows_ok h.2.2.2.1 (by have:=h.2.2.2.2;omega);exact⟨⟨k1,k3,k4⟩,h.1⟩
theorem Rk:(⟨#[122,111,111]⟩:ByteArray).size<=maxLen:=by
 have e:(⟨#[122,111,111]⟩:ByteArray).size=3:=rfl;rw[e];unfold maxLen;omega
theorem KU{t:TR}{ts:Q06}(h:GoodS (t::ts)):GoodS (({ t with name:=⟨#[122,111,111]⟩ }:TR)::ts):=by
 obtain⟨h1,h2,h3⟩:=h;refine⟨by simpa using h1,fun r hr=>?_,fun r hr=>?_⟩
 ·rcases Ws.1 hr with rfl|hr
  ·exact h2 t (by simp)
  exact h2 r (by simp[hr])
 rcases Ws.1 hr with rfl|hr
 ·obtain⟨a1,a2,a3⟩:=h3 t (by simp);exact⟨Rk,a2,a3⟩
 exact h3 r (by simp[hr])
theorem Oe{t:TR}{ts:Q06}{q:RR}{qs:Q07}{y:ER}{ys:Q08}(k:Int)(h:GoodS (t::ts))(hq:t.rows=q::qs)(hy:q.rows=y::ys):GoodS (t.asK q qs y ys k::ts):=by
 obtain⟨h1,h2,h3⟩:=h;refine⟨by simpa using h1,fun r hr=>?_,fun r hr=>?_⟩
 ·rcases Ws.1 hr with rfl|hr
  ·obtain⟨a1,a2⟩:=h2 t (by simp);rw[hq]at a1 a2;refine⟨by simpa[TR.asK] using a1,fun p hp=>?_⟩;rcases Ws.1 hp with rfl|hp
   ·obtain⟨b1,b2⟩:=a2 q (by simp);rw[hy]at b1 b2;refine⟨by simpa using b1,fun z hz=>?_⟩;rcases Ws.1 hz with rfl|hz
    ·exact b2 y (by simp)
    exact b2 z (by simp[hz])
   exact a2 p (by simp[hp])
  exact h2 r (by simp[hr])
 rcases Ws.1 hr with rfl|hr
 ·obtain⟨a0,a1,a2⟩:=h3 t (by simp);rw[hq]at a1 a2;refine⟨a0,by simpa[TR.asK] using a1,fun p hp=>?_⟩;rcases Ws.1 hp with rfl|hp
  ·obtain⟨b0,b1,b2⟩:=a2 q (by simp);rw[hy]at b1 b2;refine⟨b0,by simpa using b1,fun z hz=>?_⟩;rcases Ws.1 hz with rfl|hz
   ·exact b2 y (by simp)
   exact b2 z (by simp[hz])
  exact a2 p (by simp[hp])
 exact h3 r (by simp[hr])
def UY(R:Nat)(ad:Q02)(len cap:Nat)(w:World)(e:Ending)(w':World):Prop:=∃(v:Value) (rs:Q06),e=.returned v/\iP w' w.heap.size v rs/\GoodS rs/\Rd w' R ad len cap/\Only R w w'
def TZ(R:Nat)(w:World)(v:Value):Nat×Nat->Prop
 | (0,n)=>∃g,v=.slice (some ⟨g,0,none⟩) n n/\tF w R g n 70
 | (1,_)=>v=.pointer (some ⟨R,0,none⟩)
 | (2,n)=>∃x:Nat,v=.int .i64 (x:Int)/\x<n
 | (3,n)=>∃g x,v=.pointer (some ⟨g,x,none⟩)/\x<n/\tF w R g n 70
 | (4,n)=>∃t:ByteArray,v=.string t/\t.size<=n
 | (_,n)=>∃t:ByteArray,v=.string t/\Pre t/\t.size<=n
theorem TZ.only{R:Nat}{w w':ae}{v:Value}(h:Only R w w')(k:Nat×Nat)(hk:TZ R w v k):TZ R w' v k:=by
 match k,hk with
 | (0,n),hk=>obtain⟨g,e,hs⟩:=hk;exact⟨g,e,hs.only h⟩
 | (1,n),hk=>exact hk
 | (2,n),hk=>exact hk
 | (3,n),hk=>obtain⟨g,x,e,hx,hs⟩:=hk;exact⟨g,x,e,hx,hs.only h⟩
 | (4,n),hk=>exact hk
 | (n+5,m),hk=>exact hk
def VX:List (Nat×Nat):=[(0,2),(1,0),(2,2),(3,2),(4,70),(5,200),(5,240),(0,3),(1,0),(2,3),(3,3),(4,70),(5,320),(5,420)]
theorem KV(R:Nat)(ad:Q02)(len cap:Nat)(w:ae)(h:Rd w R ad len cap):
  Calls prog 63 #[.pointer (some ⟨R,0,none⟩)] w (UY R ad len cap w):=by
 have H:=jN h;have Z5:=h.lt;clear h;go_enter func63,ntmps63;go_wp2_with fail;refine d9 14 _ _ (fun k v w'=>TZ R w' v (VX.getD k (9,0))) (fun w'=>Rd w' R ad len cap/\Only R w w') (by kernel_rfl) rfl (by kernel_rfl) (by kernel_rfl) (Ck [(7,[0,1,2,3,4,5,6,7,8,9,10,11,12,13])]) ⟨H.out.below ((V5 _ _).drew),(Only.refl R w).drewN 1⟩ ?step ?fin<;>dsimp only[zo];case step =>
  rintro i hi o ho f w' ⟨hR',YE⟩ hpre;have HR:=aC hR';have HO:=aC YE;have hRl:R<w'.heap.size:=hR'.lt;have HM:Hid (∀e∈o.after,Region.binds .any e=true->_):=hpre;clear hR' YE hpre;have hc:=Ve (i:=i) (by omega);clear hi
  repeat' rcases hc with rfl|hc
  ·cases ho;have K1:Hid (Only R w' (w'.alloc (.cells #[.string ⟨#[116,104,105,115,40,117,115,101,114,41]⟩,.string ⟨#[116,104,105,115,40,117,115,101,114,41,32,124,32,112,97,114,101,110,116,45,62,111,119,110,101,114]⟩] 9))):=(Only.refl R w').alloc _;refine aa rfl fun K HK=>?_;clear HM;dsimp only;go_simp;exact HK.out _ _ ⟨.slice (some ⟨w'.heap.size,0,none⟩) 2 2,by simp[upd],⟨HR.out.alloc _,HO.out.alloc _⟩,⟨_,rfl,mR w' R 70 hRl (xs:=[_,_]) (by decide)⟩,fun k u hu=>TZ.only K1.out _ hu⟩
  ·cases ho;refine aa rfl fun K HK=>?_;clear HM;dsimp only;go_simp;exact HK.out _ _ ⟨Value.pointer (some ⟨R,0,none⟩),by simp[upd],⟨HR.out,HO.out⟩,rfl,fun k u hu=>hu⟩
  ·cases ho;have e1:f 1=Value.pointer (some ⟨R,0,none⟩):=HM.out ⟨1,.data⟩ (by simp) rfl;refine aa rfl fun K HK=>?_;clear HM;simp only[e1];go_simp;refine(gX R ad len cap 2 _ HR.out (by omega) (by omega)).mono ?_;rintro e w5 ⟨⟨x,rfl,hx⟩,X9,XW⟩;have XY:=jN X9;have XH:=jN XW;clear X9 XW;go_wp2_with fail;exact HK.out _ _ ⟨.int .i64 (x:Int),by simp[upd,e1],⟨XY.out,HO.out.trans XH.out⟩,⟨x,rfl,hx⟩,fun k u hu=>TZ.only XH.out _ hu⟩
  ·cases ho;obtain⟨g,e1,hS⟩:=HM.out ⟨0,.data⟩ (by simp) rfl;obtain⟨x,e2,hx⟩:=HM.out ⟨2,.data⟩ (by simp) rfl;replace e1:f 0=_:=e1;replace e2:f 2=_:=e2;have HS:=aC hS;clear hS;have hx0:=bC x;have hx1:(x:Int)<2:=by omega
   refine aa rfl fun K HK=>?_;clear HM;simp only[e1,e2];go_simp;exact HK.out _ _ ⟨.pointer (some ⟨g,x,none⟩),by simp[upd,e1,e2],⟨HR.out,HO.out⟩,⟨g,x,rfl,hx,HS.out⟩,fun k u hu=>hu⟩
  ·cases ho;obtain⟨g,x,e1,hx,hS⟩:=HM.out ⟨3,.data⟩ (by simp) rfl;replace e1:f 3=_:=e1;obtain⟨t,hcell,ht⟩:=hS.2.2 x hx;clear hS;refine aa rfl fun K HK=>?_;clear HM;simp only[e1];go_simp;exact HK.out _ _ ⟨.string t,by simp[upd,e1],⟨HR.out,HO.out⟩,⟨t,rfl,ht⟩,fun k u hu=>hu⟩
  ·cases ho;obtain⟨t,e1,ht⟩:=HM.out ⟨4,.data⟩ (by simp) rfl;replace e1:f 4=_:=e1;have hc0:(⟨#[116,121,112,101,32,100,111,99,10,98,97,110,110,101,100,32,61,32,116,104,105,115,40,117,115,101,114,41,10,101,100,105,116,111,114,32,61,32,116,104,105,115,40,117,115,101,114,41,32,124,32,111,119,110,101,114,10,111,119,110,101,114,32,61,32]⟩:ByteArray).size=65:=rfl;have hz:(9223372036854775807<65+t.size)=False:=by simp;omega
   refine aa rfl fun K HK=>?_;clear HM;simp only[e1];go_simp;exact HK.out _ _ ⟨.string ((⟨#[116,121,112,101,32,100,111,99,10,98,97,110,110,101,100,32,61,32,116,104,105,115,40,117,115,101,114,41,10,101,100,105,116,111,114,32,61,32,116,104,105,115,40,117,115,101,114,41,32,124,32,111,119,110,101,114,10,111,119,110,101,114,32,61,32]⟩:ByteArray)++t),by simp[upd,e1],⟨HR.out,HO.out⟩,⟨_,rfl,(FO (x:=100) (y:=111) (z:=99) (c:=98) (by rfl) (by decide) (by decide) (by decide) (by decide)).app t,by rw[Wv,hc0];omega⟩,fun k u hu=>hu⟩
  ·cases ho;obtain⟨t,e1,hp,ht⟩:=HM.out ⟨5,.data⟩ (by simp) rfl;replace e1:f 5=_:=e1;have HPRE:=jN hp;have hc0:(⟨#[10,112,97,114,101,110,116,32,61,32,116,104,105,115,40,100,111,99,41,10,118,105,101,119,101,114,32,61,32]⟩:ByteArray).size=29:=rfl;have hz:(9223372036854775807<t.size+29)=False:=by simp;omega
   refine aa rfl fun K HK=>?_;clear HM hp;simp only[e1];go_simp;exact HK.out _ _ ⟨.string (t++(⟨#[10,112,97,114,101,110,116,32,61,32,116,104,105,115,40,100,111,99,41,10,118,105,101,119,101,114,32,61,32]⟩:ByteArray)),by simp[upd,e1],⟨HR.out,HO.out⟩,⟨_,rfl,HPRE.out.app _,by rw[Wv,hc0];omega⟩,fun k u hu=>hu⟩
  ·cases ho;have K1:Hid (Only R w' (w'.alloc (.cells #[.string ⟨#[116,104,105,115,40,117,115,101,114,44,103,114,111,117,112,35,109,101,109,98,101,114,41,32,124,32,101,100,105,116,111,114,32,124,32,112,97,114,101,110,116,45,62,118,105,101,119,101,114]⟩,.string ⟨#[40,116,104,105,115,40,117,115,101,114,44,103,114,111,117,112,35,109,101,109,98,101,114,41,32,124,32,101,100,105,116,111,114,32,124,32,112,97,114,101,110,116,45,62,118,105,101,119,101,114,41,32,45,32,98,97,110,110,101,100]⟩,.string ⟨#[116,104,105,115,40,117,115,101,114,44,103,114,111,117,112,35,109,101,109,98,101,114,41,32,38,32,101,100,105,116,111,114]⟩] 9))):=(Only.refl R w').alloc _;refine aa rfl fun K HK=>?_;clear HM;dsimp only;go_simp;exact HK.out _ _ ⟨.slice (some ⟨w'.heap.size,0,none⟩) 3 3,by simp[upd],⟨HR.out.alloc _,HO.out.alloc _⟩,⟨_,rfl,mR w' R 70 hRl (xs:=[_,_,_]) (by decide)⟩,fun k u hu=>TZ.only K1.out _ hu⟩
  ·cases ho;refine aa rfl fun K HK=>?_;clear HM;dsimp only;go_simp;exact HK.out _ _ ⟨Value.pointer (some ⟨R,0,none⟩),by simp[upd],⟨HR.out,HO.out⟩,rfl,fun k u hu=>hu⟩
  ·cases ho;have e1:f 8=Value.pointer (some ⟨R,0,none⟩):=HM.out ⟨8,.data⟩ (by simp) rfl;refine aa rfl fun K HK=>?_;clear HM;simp only[e1];go_simp;refine(gX R ad len cap 3 _ HR.out (by omega) (by omega)).mono ?_;rintro e w5 ⟨⟨x,rfl,hx⟩,X9,XW⟩;have XY:=jN X9;have XH:=jN XW;clear X9 XW;go_wp2_with fail;exact HK.out _ _ ⟨.int .i64 (x:Int),by simp[upd,e1],⟨XY.out,HO.out.trans XH.out⟩,⟨x,rfl,hx⟩,fun k u hu=>TZ.only XH.out _ hu⟩
  ·cases ho;obtain⟨g,e1,hS⟩:=HM.out ⟨7,.data⟩ (by simp) rfl;obtain⟨x,e2,hx⟩:=HM.out ⟨9,.data⟩ (by simp) rfl;replace e1:f 7=_:=e1;replace e2:f 9=_:=e2;have HS:=aC hS;clear hS;have hx0:=bC x;have hx1:(x:Int)<3:=by omega
   refine aa rfl fun K HK=>?_;clear HM;simp only[e1,e2];go_simp;exact HK.out _ _ ⟨.pointer (some ⟨g,x,none⟩),by simp[upd,e1,e2],⟨HR.out,HO.out⟩,⟨g,x,rfl,hx,HS.out⟩,fun k u hu=>hu⟩
  ·cases ho;obtain⟨g,x,e1,hx,hS⟩:=HM.out ⟨10,.data⟩ (by simp) rfl;replace e1:f 10=_:=e1;obtain⟨t,hcell,ht⟩:=hS.2.2 x hx;clear hS;refine aa rfl fun K HK=>?_;clear HM;simp only[e1];go_simp;exact HK.out _ _ ⟨.string t,by simp[upd,e1],⟨HR.out,HO.out⟩,⟨t,rfl,ht⟩,fun k u hu=>hu⟩
  ·cases ho;obtain⟨t,e1,hp,ht⟩:=HM.out ⟨6,.data⟩ (by simp) rfl;obtain⟨u2,e2,hu2⟩:=HM.out ⟨11,.data⟩ (by simp) rfl;replace e1:f 6=_:=e1;replace e2:f 11=_:=e2;have HPRE:=jN hp;have hz:(9223372036854775807<t.size+u2.size)=False:=by simp;omega
   refine aa rfl fun K HK=>?_;clear HM hp;simp only[e1,e2];go_simp;exact HK.out _ _ ⟨.string (t++u2),by simp[upd,e1,e2],⟨HR.out,HO.out⟩,⟨_,rfl,HPRE.out.app _,by rw[Wv];omega⟩,fun k u hu=>hu⟩
  cases ho;obtain⟨t,e1,hp,ht⟩:=HM.out ⟨12,.data⟩ (by simp) rfl;replace e1:f 12=_:=e1;have HPRE:=jN hp;have hc0:(⟨#[10,116,121,112,101,32,103,114,111,117,112,10,109,101,109,98,101,114,32,61,32,116,104,105,115,40,117,115,101,114,44,103,114,111,117,112,35,109,101,109,98,101,114,41,10,116,121,112,101,32,117,115,101,114,10]⟩:ByteArray).size=55:=rfl;have hz:(9223372036854775807<t.size+55)=False:=by simp;omega
  refine aa rfl fun K HK=>?_;clear HM hp;simp only[e1];go_simp;exact HK.out _ _ ⟨.string (t++(⟨#[10,116,121,112,101,32,103,114,111,117,112,10,109,101,109,98,101,114,32,61,32,116,104,105,115,40,117,115,101,114,44,103,114,111,117,112,35,109,101,109,98,101,114,41,10,116,121,112,101,32,117,115,101,114,10]⟩:ByteArray)),by simp[upd,e1],⟨HR.out,HO.out⟩,⟨_,rfl,HPRE.out.app _,by rw[Wv,hc0];omega⟩,fun k u hu=>hu⟩
 case fin =>
  rintro o ho f w1 ⟨XV,XT⟩ hall;obtain⟨t1,e1,hp1,ht1⟩:=hall 13 (by omega);replace e1:f 13=_:=e1;have HR1:=jN XV;have XD:=jN XT;have HP1:=jN hp1;obtain rfl:=Option.some.inj ho;clear ho hall XV XT hp1;refine aa rfl fun K HK=>?_;simp only[e1];go_simp;refine HK.out _ _ ?_;clear HK;go_wp2_with fail;refine(iY R ad len cap 3 _ HR1.out (by omega) (by omega)).mono ?_;rintro e w2 ⟨⟨q1,rfl⟩,hR2,hO2⟩;have HR2:=jN hR2;have Xv:Hid (Only R w w2):=XD.out.trans hO2;clear hR2 hO2 HR1 XD
  go_upto_if 22 with fail
  go_cut [3] from 23 (fun s3 wc=>∃t:ByteArray,s3=.string t/\t.size<=1200/\Hid (Pre t)/\Hid (Rd wc R ad len cap)/\Hid (Only R w wc))
  case first =>
   cases q1;case false=>
    go_wp2_with fail
    go_meet
    exact⟨t1,rfl,by omega,HP1,HR2,Xv⟩
   go_wp2_with fail;refine(rA R ad len cap 0 _ (by omega) HR2.out).mono ?_;rintro e w3 ⟨⟨r0,rfl,hr0⟩,Y3,hO3⟩;have HR3:=jN Y3;have XG:Hid (Only R w w3):=Xv.out.trans hO3;clear Y3 hO3 HR2 Xv;go_wp2_with fail;refine(rA R ad len cap 1 _ (by omega) HR3.out).mono ?_;rintro e w4 ⟨⟨r1,rfl,hr1⟩,ZM,hO4⟩;have HR4:=jN ZM;have XE:Hid (Only R w w4):=XG.out.trans hO4;clear ZM hO4 HR3 XG;go_wp2_with fail;refine(rA R ad len cap 2 _ (by omega) HR4.out).mono ?_;rintro e w5 ⟨⟨r2,rfl,hr2⟩,X9,XW⟩;have XY:=jN X9;have XH:Hid (Only R w w5):=XE.out.trans XW;clear X9 XW HR4 XE;have k0:(⟨#[116,121,112,101,32,100,111,99,10,98,97,110,110,101,100,32,61,32]⟩:ByteArray).size=18:=rfl;have k1:(⟨#[10,101,100,105,116,111,114,32,61,32]⟩:ByteArray).size=10:=rfl;have k2:(⟨#[10,111,119,110,101,114,32,61,32,116,104,105,115,40,117,115,101,114,41,10,112,97,114,101,110,116,32,61,32,116,104,105,115,40,100,111,99,41,10,118,105,101,119,101,114,32,61,32]⟩:ByteArray).size=48:=rfl;have k3:(⟨#[10,116,121,112,101,32,103,114,111,117,112,10,109,101,109,98,101,114,32,61,32,116,104,105,115,40,117,115,101,114,44,103,114,111,117,112,35,109,101,109,98,101,114,41,10,116,121,112,101,32,117,115,101,114,10]⟩:ByteArray).size=55:=rfl;have HSZ:Hid ((((((((⟨#[116,121,112,101,32,100,111,99,10,98,97,110,110,101,100,32,61,32]⟩:ByteArray)++r0)++(⟨#[10,101,100,105,116,111,114,32,61,32]⟩:ByteArray))++r1)++(⟨#[10,111,119,110,101,114,32,61,32,116,104,105,115,40,117,115,101,114,41,10,112,97,114,101,110,116,32,61,32,116,104,105,115,40,100,111,99,41,10,118,105,101,119,101,114,32,61,32]⟩:ByteArray))++r2)++(⟨#[10,116,121,112,101,32,103,114,111,117,112,10,109,101,109,98,101,114,32,61,32,116,104,105,115,40,117,115,101,114,44,103,114,111,117,112,35,109,101,109,98,101,114,41,10,116,121,112,101,32,117,115,101,114,10]⟩:ByteArray)).size<=1200):=by show _<=_;simp only[Wv,k0,k1,k2,k3];omega
   have HPX:Hid (Pre (((((((⟨#[116,121,112,101,32,100,111,99,10,98,97,110,110,101,100,32,61,32]⟩:ByteArray)++r0)++(⟨#[10,101,100,105,116,111,114,32,61,32]⟩:ByteArray))++r1)++(⟨#[10,111,119,110,101,114,32,61,32,116,104,105,115,40,117,115,101,114,41,10,112,97,114,101,110,116,32,61,32,116,104,105,115,40,100,111,99,41,10,118,105,101,119,101,114,32,61,32]⟩:ByteArray))++r2)++(⟨#[10,116,121,112,101,32,103,114,111,117,112,10,109,101,109,98,101,114,32,61,32,116,104,105,115,40,117,115,101,114,44,103,114,111,117,112,35,109,101,109,98,101,114,41,10,116,121,112,101,32,117,115,101,114,10]⟩:ByteArray))):=(((((((FO (x:=100) (y:=111) (z:=99) (c:=98) (by rfl) (by decide) (by decide) (by decide) (by decide):Pre (⟨#[116,121,112,101,32,100,111,99,10,98,97,110,110,101,100,32,61,32]⟩:ByteArray)).app r0).app _).app r1).app _).app r2).app _);clear k0 k1 k2 k3;go_wp2_with fail
   go_meet
   exact⟨_,rfl,HSZ.out,HPX,XY,XH⟩
  obtain⟨t,rfl,hts,HP,HR,HO⟩:=hcut;clear HP1 HR2 Xv;go_wp2_with fail;refine(iY R ad len cap 4 _ HR.out (by omega) (by omega)).mono ?_;rintro e w6 ⟨⟨q2,rfl⟩,hR6,Z6⟩;have Zk:=jN hR6;have Yf:Hid (Only R w w6):=HO.out.trans Z6;clear hR6 Z6 HR HO
  go_upto_if 36 with fail
  go_cut [3,4] from 37 (fun s3 s4 wc=>∃t:ByteArray,s3=.string t/\t.size<=2000/\Hid (Pre t)/\Hid (Rd wc R ad len cap)/\Hid (Only R w wc))
  case first =>
   cases q2;case false=>
    go_wp2_with fail
    go_meet
    exact⟨t,rfl,by omega,HP,Zk,Yf⟩
   have ht10:10<=t.size:=Rj HP.out;go_wp2_with fail;go_loopw[4] (fun i wr=>∃k:Nat,i=.int .i64 (k:Int)/\k+9<=t.size/\wr=w6) (fun i _=>t.size-(intOf i).toNat);case atStart=>exact⟨0,rfl,by omega,rfl⟩
   obtain⟨k,rfl,hk,rfl⟩:=hrel;have HD0:Hid ((⟨#[116,121,112,101,32,100,105,114,10,111,119,110,101,114,32,61,32,116,104,105,115,40,117,115,101,114,41,10,115,101,101,32,61,32,116,104,105,115,40,117,115,101,114,41,10]⟩:ByteArray).size=45):=rfl;have HD1:Hid ((⟨#[116,104,105,115,40,100,111,99,44,100,105,114,41]⟩:ByteArray).size=13):=rfl;have h3:(((k:Int)+9<(t.size:Int))/\((t.extract k (k+9)).toList==[116,104,105,115,40,100,111,99,41])=false)\/(((k:Int)+9<(t.size:Int))/\((t.extract k (k+9)).toList==[116,104,105,115,40,100,111,99,41])=true)\/¬((k:Int)+9<(t.size:Int)):=by
    by_cases h:(k:Int)+9<(t.size:Int)
    ·cases e:(t.extract k (k+9)).toList==[116,104,105,115,40,100,111,99,41]
     ·exact .inl ⟨h,rfl⟩
     exact .inr (.inl ⟨h,rfl⟩)
    exact .inr (.inr h)
   have hk0:=bC k;have hk1:(k:Int)<=(t.size:Int):=by omega
   have hk2:(0:Int)<=(k:Int)+9:=by omega
   have hk3:(k:Int)+9<=(t.size:Int):=by omega
   have he1:(t.extract 0 k).size<=1200:=by rw[ByteArray.size_extract];omega
   have he2:(t.extract (k+9) t.size).size<=1200:=by rw[ByteArray.size_extract];omega
   have hetot:(t.extract 0 k).size+(t.extract (k+9) t.size).size<=1200:=by rw[ByteArray.size_extract,ByteArray.size_extract];omega
   have HSZ:Hid (((((⟨#[116,121,112,101,32,100,105,114,10,111,119,110,101,114,32,61,32,116,104,105,115,40,117,115,101,114,41,10,115,101,101,32,61,32,116,104,105,115,40,117,115,101,114,41,10]⟩:ByteArray)++t.extract 0 k)++(⟨#[116,104,105,115,40,100,111,99,44,100,105,114,41]⟩:ByteArray))++t.extract (k+9) t.size).size<=2000):=by show _<=_;simp only[Wv,HD0.out,HD1.out];omega
   have HPX:Hid (Pre ((((⟨#[116,121,112,101,32,100,105,114,10,111,119,110,101,114,32,61,32,116,104,105,115,40,117,115,101,114,41,10,115,101,101,32,61,32,116,104,105,115,40,117,115,101,114,41,10]⟩:ByteArray)++t.extract 0 k)++(⟨#[116,104,105,115,40,100,111,99,44,100,105,114,41]⟩:ByteArray))++t.extract (k+9) t.size)):=((((FO (x:=100) (y:=105) (z:=114) (c:=111) (by rfl) (by decide) (by decide) (by decide) (by decide):Pre (⟨#[116,121,112,101,32,100,105,114,10,111,119,110,101,114,32,61,32,116,104,105,115,40,117,115,101,114,41,10,115,101,101,32,61,32,116,104,105,115,40,117,115,101,114,41,10]⟩:ByteArray)).app _).app _).app _);have HRW:Hid (∀n,Rd (wr.drewN n) R ad len cap):=fun n=>Zk.out.below (below_drewN (V5 _ _) n);have HOW:Hid (∀n,Only R w (wr.drewN n)):=fun n=>Yf.out.drewN n;rcases h3 with⟨h,hm⟩|⟨h,hm⟩|h
   ·have hm2:(!(t.extract k (k+9)).toList==[116,104,105,115,40,100,111,99,41])=true:=by rw[hm];rfl
    go_wp2;go_roundw;case rel=>exact⟨k+1,by go_num,by omega,trivial⟩
    simp[intOf]<;>omega
   ·have hm2:(!(t.extract k (k+9)).toList==[116,104,105,115,40,100,111,99,41])=false:=by rw[hm];rfl
    go_wp2_with fail;go_quiet (fail);go_wp2_with fail
    go_meet
    exact⟨_,rfl,HSZ.out,HPX,HRW.out _,HOW.out _⟩
   go_wp2_with fail;go_quiet (fail);go_wp2_with fail
   go_meet
   exact⟨_,rfl,HSZ.out,HPX,HRW.out _,HOW.out _⟩
  obtain⟨t2,rfl,hts2,XA,HR,HO⟩:=hcut;clear HP Zk Yf hts;have hRc:R<wc.heap.size:=HR.out.lt;go_wp2_with fail;refine(rW t2 _ (by omega)).mono ?_;rintro e w7 ⟨ZB,hcase⟩;have HR7:=jN (HR.out.below ZB);have Z4:=aC (HO.out.below ZB);have hw7:w.heap.size<=w7.heap.size:=Z4.out.size;have hwc:w.heap.size<=wc.heap.size:=HO.out.size;obtain⟨v0,b0,rfl,HV0⟩:∃(v0:Value) (b0:Bool),e=.returned (.tuple #[v0,.bool b0])/\Hid (b0=true->∃rs:List TR,IC w w7 v0 rs):=by
   rcases hcase with⟨-,e1⟩|⟨v,rs,hd,e1,hM,htx,hok⟩
   ·exact⟨_,_,e1,fun h=>by cases h⟩
   exact⟨_,_,e1,fun _=>⟨rs,hM.lower hwc,hd,by rw[htx];exact XA.out,hok,by rw[htx];omega⟩⟩
  clear ZB hcase HR HO XA hts2 hwc hRc
  go_upto_if 68 with fail
  go_cut [5] from 69 (fun s5 wd=>(∃rs:List TR,IC w wd s5 rs)/\Hid (Rd wd R ad len cap)/\Hid (Only R w wd))
  case first =>
   cases b0;case true=>
    have HV:=jN (HV0.out rfl);go_wp2_with fail
    go_meet
    exact⟨HV.out,HR7,Z4⟩
   go_wp2_with fail;refine(rW lastT _ (by decide)).mono ?_;rintro e w8 ⟨hb8,hcase⟩;have HR8:=jN (HR7.out.below hb8);have HO8:=aC (Z4.out.below hb8);rcases hcase with⟨hno,e1⟩|⟨v,rs,hd,e1,hM,htx,hok⟩
   ·exact absurd (hno Iy KS) (by rw[KT];decide)
   subst e1;have HV:Hid (∃rs:List TR,IC w w8 v rs):=⟨rs,hM.lower hw7,hd,by rw[htx];exact FO (x:=100) (y:=111) (z:=99) (c:=118) (by rfl) (by decide) (by decide) (by decide) (by decide),hok,by rw[htx];decide⟩;clear hb8 hd hM htx hok;go_wp2_with fail
   go_meet
   exact⟨HV.out,HR8,HO8⟩
  obtain⟨⟨rs,hSR⟩,HR,HO⟩:=hcut;have HSR:=jN hSR;clear hSR HV0 HR7 Z4 hw7;go_wp2_with fail;refine(gX R ad len cap 40 _ HR.out (by omega) (by omega)).mono ?_;rintro e w9 ⟨⟨x,rfl,hx⟩,hR9,hO9⟩;have HR9:=jN hR9;have HO9:Hid (Only R w w9):=HO.out.trans hO9;have HS9:=jN (HSR.out.only Z5 hO9);clear hR9 hO9 HR HO HSR;obtain⟨t,ts,q,qs,y,ys,hrs,hq,hy⟩:=N7 HS9.out.2.1 HS9.out.2.2.1;subst hrs;obtain⟨b,cp,hu5⟩:∃b cp,u5=.slice (some ⟨b,0,none⟩) (ts.length+1) cp:=fJ HS9.out.1.own;subst hu5;have HM9:=jN HS9.out.1;have HG:=jN HS9.out.good.1;have HQ:=jN hq;have HYY:=jN hy;have hbw:w.heap.size<=b:=(HM9.out.own.lt b rfl).1;have hbl:b<w9.heap.size:=(HM9.out.own.lt b rfl).2;have hts0:(0:Int)<(ts.length:Int)+1:=by omega
  have FAR:Hid (∀g,w.heap.size<=g->0<len->∀b off,ad=some ⟨b,off,none⟩->b≠g):=fun g hg h0 b off e=>by
   obtain⟨b',off',e',-,hb',-⟩:=H.out.bytes h0;rw[e]at e';injection e' with e';injection e' with e1 e2;omega
  have hc0:w9.cell? ⟨b,0,none⟩=some (.string t.name):=(HM9.out.own.cellAt 0 (by omega)).trans (by simp[TR.cells]);have hc1:w9.cell? ⟨b,1,none⟩=some (.slice t.ad t.rows.length t.cap):=(HM9.out.own.cellAt 1 (by omega)).trans (by simp[TR.cells,TR.vs]);have hf0:w9.frozen? ⟨b,0,none⟩=false:=HM9.out.own.frozenAt 0;clear HS9 hq hy;by_cases h39:x=39
  ·have h39b:((x:Int)==39)=true:=by simp;omega
   have Ye:Hid (UY R ad len cap w (.returned (.slice (some ⟨b,0,none⟩) (ts.length+1) cp)) (w9.setCell ⟨b,0,none⟩ (.string ⟨#[122,111,111]⟩))):=⟨_,_,rfl,iP.named ⟨#[122,111,111]⟩ HM9.out rfl,KU HG.out,HR9.out.setFar (by omega) (FAR.out b hbw),HO9.out.setNew hbw⟩;go_wp2;go_ret;exact Ye.out
  have h39b:((x:Int)==39)=false:=by simp;omega
  by_cases h38:x=38
  ·have h38b:((x:Int)==38)=true:=by simp;omega
   subst h38;have hkt:=HM9.out.kid t (by simp);have hR9:Cv w9 w.heap.size t.vs (q::qs):=by have:=hkt;unfold kT at this;rwa [HQ.out]at this
   obtain⟨b1,c1,ht1⟩:∃b1 c1,t.vs=.slice (some ⟨b1,0,none⟩) (qs.length+1) c1:=fJ hR9.own;have hkq:=hR9.kid q (by simp);have hN9:NodM w9 w.heap.size q.vs (y::ys):=by have:=hkq;unfold kR at this;rwa [HYY.out]at this
   obtain⟨b2,c2,hq2⟩:∃b2 c2,q.vs=.slice (some ⟨b2,0,none⟩) (ys.length+1) c2:=fJ hN9.own;have hqad:q.ad=some ⟨b2,0,none⟩:=by unfold RR.vs at hq2;injection hq2
   rw[ht1]at hR9;rw[hq2]at hN9;have hv1:Value.slice t.ad t.rows.length t.cap=.slice (some ⟨b1,0,none⟩) (qs.length+1) c1:=ht1;rw[hv1]at hc1;have hd1:w9.cell? ⟨b1,1,none⟩=some (.slice (some ⟨b2,0,none⟩) (ys.length+1) c2):=(hR9.own.cellAt 1 (by omega)).trans (by simp[RR.cells,hq2]);have hk0:w9.cell? ⟨b2,0,none⟩=some (.int .i64 y.e.kind):=(hN9.own.cellAt 0 (by omega)).trans (by simp[jQ,ER.row]);have hk1:w9.frozen? ⟨b2,0,none⟩=false:=hN9.own.frozenAt 0;have l1:=hR9.own.lt b1 rfl;have l2:=hN9.own.lt b2 rfl;have hqs0:(0:Int)<(qs.length:Int)+1:=by omega
   have hys0:(0:Int)<(ys.length:Int)+1:=by omega
   have HQAD:=jN hqad;clear hkt hkq hR9 hN9 ht1 hq2 hqad hv1 hc0 hf0;go_wp2_with fail;refine mD 11 _ _ (fun k v _=>(k=8->∃z:Int,v=.int .i64 z)/\(k≠8->v=(Value.slice (some ⟨b,0,none⟩) (ts.length+1) cp::.pointer (some ⟨b,0,none⟩)::.pointer (some ⟨b,1,none⟩)::.slice (some ⟨b1,0,none⟩) (qs.length+1) c1::.pointer (some ⟨b1,0,none⟩)::.pointer (some ⟨b1,1,none⟩)::.slice (some ⟨b2,0,none⟩) (ys.length+1) c2::.pointer (some ⟨R,0,none⟩)::undef::.pointer (some ⟨b2,0,none⟩)::.pointer (some ⟨b2,0,none⟩)::[]).getD k undef)) (fun _ w'=>Rd w' R ad len cap/\Only R w9 w') (by kernel_rfl) rfl (by kernel_rfl) (by kernel_rfl) (Ck [(82,[0,1,2,3,4,5,6,7,8,9,10])]) ⟨HR9.out.below ((V5 _ _).drew),(Only.refl R w9).drewN 1⟩ ?stepK ?finK<;>dsimp only[zo];case stepK =>
    rintro i hi o ho listed fq w' - - ⟨hR',YE⟩ hpre;have HRr:=aC hR';have HOo:=aC YE;replace hc1:=(YE.cell hbl (by omega)).trans hc1;replace hd1:=(YE.cell l1.2 (by omega)).trans hd1;have HM:Hid (∀e∈o.after,Region.binds .any e=true->_):=hpre;clear hR' YE hpre;have hc:=La (i:=i) (by omega);clear hi
    repeat' rcases hc with rfl|hc
    ·cases ho;refine aa rfl fun K HK=>?_;clear HM;dsimp only;go_simp;exact HK.out _ _ ⟨Value.slice (some ⟨b,0,none⟩) (ts.length+1) cp,by simp[upd],⟨HRr.out,HOo.out⟩,⟨fun h=>absurd h (by decide),fun _=>rfl⟩,fun k u _ hu=>hu⟩
    ·cases ho;have e0:fq 0=.slice (some ⟨b,0,none⟩) (ts.length+1) cp:=(HM.out ⟨0,.data⟩ (by simp) rfl).2 (by decide);refine aa rfl fun K HK=>?_;clear HM;simp only[e0];go_simp;exact HK.out _ _ ⟨Value.pointer (some ⟨b,0,none⟩),by simp[upd,e0],⟨HRr.out,HOo.out⟩,⟨fun h=>absurd h (by decide),fun _=>rfl⟩,fun k u _ hu=>hu⟩
    ·cases ho;have e1:fq 1=.pointer (some ⟨b,0,none⟩):=(HM.out ⟨1,.data⟩ (by simp) rfl).2 (by decide);refine aa rfl fun K HK=>?_;clear HM;simp only[e1];go_simp;exact HK.out _ _ ⟨Value.pointer (some ⟨b,1,none⟩),by simp[upd,e1],⟨HRr.out,HOo.out⟩,⟨fun h=>absurd h (by decide),fun _=>rfl⟩,fun k u _ hu=>hu⟩
    ·cases ho;have e2:fq 2=.pointer (some ⟨b,1,none⟩):=(HM.out ⟨2,.data⟩ (by simp) rfl).2 (by decide);refine aa rfl fun K HK=>?_;clear HM;simp only[e2];go_simp;exact HK.out _ _ ⟨Value.slice (some ⟨b1,0,none⟩) (qs.length+1) c1,by simp[upd,e2],⟨HRr.out,HOo.out⟩,⟨fun h=>absurd h (by decide),fun _=>rfl⟩,fun k u _ hu=>hu⟩
    ·cases ho;have e3:fq 3=.slice (some ⟨b1,0,none⟩) (qs.length+1) c1:=(HM.out ⟨3,.data⟩ (by simp) rfl).2 (by decide);refine aa rfl fun K HK=>?_;clear HM;simp only[e3];go_simp;exact HK.out _ _ ⟨Value.pointer (some ⟨b1,0,none⟩),by simp[upd,e3],⟨HRr.out,HOo.out⟩,⟨fun h=>absurd h (by decide),fun _=>rfl⟩,fun k u _ hu=>hu⟩
    ·cases ho;have e4:fq 4=.pointer (some ⟨b1,0,none⟩):=(HM.out ⟨4,.data⟩ (by simp) rfl).2 (by decide);refine aa rfl fun K HK=>?_;clear HM;simp only[e4];go_simp;exact HK.out _ _ ⟨Value.pointer (some ⟨b1,1,none⟩),by simp[upd,e4],⟨HRr.out,HOo.out⟩,⟨fun h=>absurd h (by decide),fun _=>rfl⟩,fun k u _ hu=>hu⟩
    ·cases ho;have e5:fq 5=.pointer (some ⟨b1,1,none⟩):=(HM.out ⟨5,.data⟩ (by simp) rfl).2 (by decide);refine aa rfl fun K HK=>?_;clear HM;simp only[e5];go_simp;exact HK.out _ _ ⟨Value.slice (some ⟨b2,0,none⟩) (ys.length+1) c2,by simp[upd,e5],⟨HRr.out,HOo.out⟩,⟨fun h=>absurd h (by decide),fun _=>rfl⟩,fun k u _ hu=>hu⟩
    ·cases ho;refine aa rfl fun K HK=>?_;clear HM;dsimp only;go_simp;exact HK.out _ _ ⟨Value.pointer (some ⟨R,0,none⟩),by simp[upd],⟨HRr.out,HOo.out⟩,⟨fun h=>absurd h (by decide),fun _=>rfl⟩,fun k u _ hu=>hu⟩
    ·cases ho;have e7:fq 7=.pointer (some ⟨R,0,none⟩):=(HM.out ⟨7,.data⟩ (by simp) rfl).2 (by decide);refine aa rfl fun K HK=>?_;clear HM;simp only[e7];go_simp;refine(Lm R ad len cap 1 6 _ HRr.out (by decide) (by decide) (by decide)).mono ?_;rintro e w10 ⟨⟨z,rfl⟩,hR10,hO10⟩;have HR10:=jN hR10;have HO10:=jN hO10;clear hR10 hO10;go_wp2_with fail;exact HK.out _ _ ⟨.int .i64 z,by simp[upd,e7],⟨HR10.out,HOo.out.trans HO10.out⟩,⟨fun _=>⟨z,rfl⟩,fun h=>absurd rfl h⟩,fun k u _ hu=>hu⟩
    ·cases ho;have e6:fq 6=.slice (some ⟨b2,0,none⟩) (ys.length+1) c2:=(HM.out ⟨6,.data⟩ (by simp) rfl).2 (by decide);refine aa rfl fun K HK=>?_;clear HM;simp only[e6];go_simp;exact HK.out _ _ ⟨Value.pointer (some ⟨b2,0,none⟩),by simp[upd,e6],⟨HRr.out,HOo.out⟩,⟨fun h=>absurd h (by decide),fun _=>rfl⟩,fun k u _ hu=>hu⟩
    cases ho;have e9:fq 9=.pointer (some ⟨b2,0,none⟩):=(HM.out ⟨9,.data⟩ (by simp) rfl).2 (by decide);refine aa rfl fun K HK=>?_;clear HM;simp only[e9];go_simp;exact HK.out _ _ ⟨Value.pointer (some ⟨b2,0,none⟩),by simp[upd,e9],⟨HRr.out,HOo.out⟩,⟨fun h=>absurd h (by decide),fun _=>rfl⟩,fun k u _ hu=>hu⟩
   case finK =>
    rintro o ho listed fq w' ⟨hR',YE⟩ hall;have HRr:=aC hR';have HOo:Hid (Only R w w'):=HO9.out.trans YE;obtain⟨z,ez⟩:=(hall 8 (by omega)).1 rfl;replace ez:fq 8=_:=ez;have e10:fq 10=.pointer (some ⟨b2,0,none⟩):=(hall 10 (by omega)).2 (by omega);replace hk0:=(YE.cell l2.2 (by omega)).trans hk0;replace hk1:=(YE.frozen (o:=0) l2.2 (by omega)).trans hk1;have hM':iP w' w.heap.size (.slice (some ⟨b,0,none⟩) (ts.length+1) cp) (t::ts):=HM9.out.heap ow YE.size fun g hg=>YE.block g (HM9.out.lt ow hg).2 (fun e=>by injection e with e;have:=(HM9.out.lt ow hg).1;omega);have Ye:Hid (UY R ad len cap w (.returned (.slice (some ⟨b,0,none⟩) (ts.length+1) cp)) (w'.setCell ⟨b2,0,none⟩ (.int .i64 z))):=⟨_,_,rfl,iP.kind z hM' HQ.out HYY.out HQAD.out,Oe z HG.out HQ.out HYY.out,HRr.out.setFar (by omega) (FAR.out b2 l2.1),HOo.out.setNew l2.1⟩;cases ho;clear hall hR' YE hM';refine aa rfl fun K HK=>?_;simp only[ez,e10];go_simp;refine HK.out _ _ ?_;clear HK;go_wp2;go_ret;exact Ye.out
  have h38b:((x:Int)==38)=false:=by simp;omega
  go_wp2;go_ret;exact⟨_,_,rfl,HM9.out,HG.out,HR9.out,HO9.out⟩
open Maps
set_option maxRecDepth 100000 in
theorem FP(ad:Q02)(cap:Nat)(rs:Q06)(oa ob r c d s:ByteArray)(w:ae)(hlen:rs.length<=1048576)(hs:lc w ad rs)(hl:∀r∈rs,r.light)(hf:∀r∈rs,r.fits)(ha:oa.size<=maxLen)(hb:ob.size<=maxLen)(hr:r.size<=maxLen)(hc:c.size<=maxLen)(hd:d.size<=maxLen)(hz:s.size<=maxLen):
  Calls prog 107 #[.slice ad rs.length cap,.agg #[.string oa,.string ob,.string r,.string c,.string d,.string s]] w fun e w'=>e=.returned (.bool (Es (ag rs) oa ob r c d s))/\af w w':=by
 have HS:=aC hs;have HL:=aC hl;have XC:=aC hf;clear hs hl hf;obtain⟨W0,hW0⟩:∃W0,W0=w.alloc (.cells #[.string oa,.string ob,.string r,.string c,.string d,.string s] 29):=⟨_,rfl⟩;have hal:af w W0:=by rw[hW0];exact(V5 _ _).alloc (V4 _) _
 have HB0:=aC hal;have hw0:w.heap.size<W0.heap.size:=by rw[hW0];simp
 have c0:W0.cell? ⟨w.heap.size,0,none⟩=some (.string oa):=by rw[hW0];simp
 have c1:W0.cell? ⟨w.heap.size,1,none⟩=some (.string ob):=by rw[hW0];simp
 have c2:W0.cell? ⟨w.heap.size,2,none⟩=some (.string r):=by rw[hW0];simp
 have c3:W0.cell? ⟨w.heap.size,3,none⟩=some (.string c):=by rw[hW0];simp
 have c4:W0.cell? ⟨w.heap.size,4,none⟩=some (.string d):=by rw[hW0];simp
 have c5:W0.cell? ⟨w.heap.size,5,none⟩=some (.string s):=by rw[hW0];simp
 clear hal;go_enter func107,ntmps107;go_wp2_with fail;rw[<-hW0];clear hW0;refine(iJ ad cap rs _ hlen (HS.out.below HB0.out) HL.out XC.out).mono ?_;rintro e w1 ⟨rfl,hb1⟩;have HB1:=kv HB0 hb1;have hw1:w.heap.size<w1.heap.size:=VY hw0 hb1.size;replace c0:=aJ hb1 hw0 c0;replace c1:=aJ hb1 hw0 c1;replace c2:=aJ hb1 hw0 c2;replace c3:=aJ hb1 hw0 c3;replace c4:=aJ hb1 hw0 c4;replace c5:=aJ hb1 hw0 c5;clear hb1 hw0;cases hd5:aD (ag rs);case false=>
  have HN:Hid (Es (ag rs) oa ob r c d s=false):=by show _=_;unfold Es;rw[hd5];rfl
  go_wp2;go_ret;exact⟨by rw[HN.out];rfl,HB1.out⟩
 have HN:Hid (Es (ag rs) oa ob r c d s=pF (ag rs) oa ob r c d s):=by show _=_;unfold Es;rw[hd5];rfl
 go_wp2_with fail;refine(uO ad cap rs oa ob r c d s _ hlen (HS.out.below HB1.out) HL.out ha hb hr hc hd hz).mono ?_;rintro e w2 ⟨rfl,hb2⟩;have HB2:=kv HB1 hb2;clear hb2;go_wp2;go_ret;exact⟨by rw[HN.out];rfl,HB2.out⟩
theorem iP.only{wc wd:ae}{R base:Nat}{v:Value}{rs:Q06}(h:iP wc base v rs)(hR:R<base)(ho:Only R wc wd):iP wd base v rs :=
 h.heap ow ho.size fun g hg=>ho.block g (h.lt ow hg).2 (fun e=>by injection e with e;have:=(h.lt ow hg).1;omega)
theorem iP.slT{w:ae}{R base cap:Nat}{Yt:Q02}{rs:Q06}(h:iP w base (.slice Yt rs.length cap) rs)(hR:R<base):∀W,Only R w W->lc W Yt rs:=fun W hO=>by
 obtain⟨XB,cap',e,hs,-⟩:=(h.only hR hO).read;injection e with e1 e2 e3;subst e1;exact hs
def Rm(w:World)(n:Nat)(a b r c d s:ByteArray):Prop:=w.cell? ⟨n,0,none⟩=some (.string a)/\w.cell? ⟨n,1,none⟩=some (.string b)/\w.cell? ⟨n,2,none⟩=some (.string r)/\w.cell? ⟨n,3,none⟩=some (.string c)/\w.cell? ⟨n,4,none⟩=some (.string d)/\w.cell? ⟨n,5,none⟩=some (.string s)
theorem Rm.same{w w':ae}{n:Nat}{a b r c d s:ByteArray}(h:Rm w n a b r c d s)(hk:∀o,w'.cell? ⟨n,o,none⟩=w.cell? ⟨n,o,none⟩):Rm w' n a b r c d s :=
 ⟨(hk _).trans h.1,(hk _).trans h.2.1,(hk _).trans h.2.2.1,(hk _).trans h.2.2.2.1,(hk _).trans h.2.2.2.2.1,(hk _).trans h.2.2.2.2.2⟩
theorem FQ{w w':ae}{base g c n:Nat}{xs:Q03}(h:w.ownsRow base 29 6 (.slice (some ⟨g,0,none⟩) n c) n xs)(hb:af w w'):w'.ownsRow base 29 6 (.slice (some ⟨g,0,none⟩) n c) n xs :=
 h.kept (row:=none) ⟨hb.os,hb.tape,hb.output,hb.size,fun i hi _=>hb.block i hi⟩ (.inr (by simp[Value.ownBlock]))
theorem IE(R:Nat)(ad:Q02)(len cap:Nat)(Yt:Q02)(Yu base:Nat)(rs:Q06)(w:ae)(h:Rd w R ad len cap)(hRb:R<base)(hT:iP w base (.slice Yt rs.length Yu) rs)(hG:GoodS rs):
  Calls prog 64 #[.pointer (some ⟨R,0,none⟩),.slice Yt rs.length Yu,.int .i64 10] w fun e w'=>(∃(g c:Nat) (ts:Q05),e=.returned (.slice (some ⟨g,0,none⟩) ts.length c)/\ts.length<=10/\qD ts/\w'.ownsRow w.heap.size 29 6 (.slice (some ⟨g,0,none⟩) ts.length c) ts.length (aF ts))/\Rd w' R ad len cap/\Only R w w':=by
 have Z5:=h.lt;have HS:Hid (∀W,Only R w W->lc W Yt rs):=hT.slT hRb;obtain⟨hG1,hG2,hG3⟩:=hG;have hlen:rs.length<=1048576:=by omega
 have HL:=dm hG2;have HF:=dm hG3;clear hG2 hG3 hT;obtain⟨W0,hW0⟩:∃W0,W0=w.alloc (.cells #[] 29):=⟨_,rfl⟩;have XO:Hid (W0.ownsRow w.heap.size 29 6 (.slice (some ⟨w.heap.size,0,none⟩) 0 0) 0 (aF [])):=by
  show World.ownsRow _ _ _ _ _ _ _;rw[hW0];exact World.ownsRow_lit w #[] 0 (V4 _) (by unfold maxLen;omega) (by simp)
 have Yw:Hid (Rd W0 R ad len cap):=by show Rd _ _ _ _ _;rw[hW0];exact h.alloc _
 have Yz:Hid (Only R w W0):=by show Only _ _ _;rw[hW0];exact(Only.refl _ _).alloc _
 clear h;go_enter func64,ntmps64;go_wp2_with fail;rw[<-hW0];clear hW0;refine(dA R ad len cap 11 _ Yw.out (by omega) (by omega)).mono ?_;rintro e w1 ⟨⟨x,rfl,hx0,hx1⟩,XV,XT⟩;have HR1:=dm XV;have XD:Hid (Only R w w1):=Yz.out.trans XT;have HL1:Hid (w1.ownsRow w.heap.size 29 6 (.slice (some ⟨w.heap.size,0,none⟩) 0 0) 0 (aF [])):=pg XO.out Z5 XT;clear XV XT XO Yw Yz;go_wp2_with fail;go_loopw[7,8] (fun v i wr=>∃(k:Nat) (ts:Q05) (g c:Nat),i=.int .i64 k/\ts.length+k<=10/\v=.slice (some ⟨g,0,none⟩) ts.length c/\Hid (qD ts)/\Hid (wr.ownsRow w.heap.size 29 6 v ts.length (aF ts))/\Hid (Rd wr R ad len cap)/\Hid (Only R w wr)) (fun _ i _=>(intOf i).toNat);case atStart=>exact⟨x.toNat,[],w.heap.size,0,by rw[Int.toNat_of_nonneg hx0],by simp;omega,rfl,ND,HL1,HR1,XD⟩
 clear HL1 HR1 XD hx0 hx1;obtain⟨k,ts,g,c,rfl,hk,rfl,HSh,HOw,HR,HO⟩:=hrel;by_cases hk0:0<k
 ·have hk1:(0:Int)<(k:Int):=by omega
  go_wp2_with fail;refine(Dz R ad len cap _ HR.out).mono ?_;rintro e w2 ⟨⟨a,b,r,c2,d,s,rfl,ha,hb,hr,hc,hd,hs⟩,hR2,hO2⟩;have HT:Hid (Tp.short ⟨a,b,r,c2,d,s⟩):=⟨ha,hb,hr,hc,hd,hs⟩;obtain⟨f1,f2,f3,f4,f5,f6⟩:=HT.out.fits;obtain⟨W2,hW2⟩:∃W2,W2=w2.alloc (.cells #[.string a,.string b,.string r,.string c2,.string d,.string s] 29):=⟨_,rfl⟩;have HR2:Hid (Rd W2 R ad len cap):=by show Rd _ _ _ _ _;rw[hW2];exact hR2.alloc _
  have Xv:Hid (Only R w W2):=by show Only _ _ _;rw[hW2];exact(HO.out.trans hO2).alloc _
  have HOw2:Hid (W2.ownsRow w.heap.size 29 6 (.slice (some ⟨g,0,none⟩) ts.length c) ts.length (aF ts)):=by show World.ownsRow _ _ _ _ _ _ _;rw[hW2];exact(pg HOw.out Z5 hO2).alloc _
  have hz2:w2.heap.size<W2.heap.size:=by rw[hW2];simp
  have hnR:w2.heap.size≠R:=by have:=hR2.lt;omega
  have HC:Hid (Rm W2 w2.heap.size a b r c2 d s):=by
   show Rm _ _ _ _ _ _ _ _;rw[hW2];refine⟨?_,?_,?_,?_,?_,?_⟩<;>simp
  clear ha hb hr hc hd hs hR2 hO2 HR HO HOw;go_wp2_with fail;rw[<-hW2];clear hW2;refine(FP Yt Yu rs _ _ _ _ _ _ _ hlen (HS.out _ Xv.out) HL.out HF.out f1 f2 f3 f4 f5 f6).mono ?_;rintro e w3 ⟨rfl,hb3⟩;have HR3:=aC (HR2.out.below hb3);have XG:=aC (Xv.out.below hb3);have HOw3:=dm (FQ HOw2.out hb3);have HC3:=dm (HC.out.same fun o=>hb3.cell (p:=⟨_,o,none⟩) hz2);have hz3:=VY hz2 hb3.size;clear hb3 HR2 Xv HOw2 HC hz2;cases hq:Es (ag rs) a b r c2 d s;case true=>
   obtain⟨c0,c1,c2',c3,c4,c5⟩:=HC3.out;clear hq;have HA:=dm (tY g 0 c ts ⟨a,b,r,c2,d,s⟩ w3 (by omega) (nX HOw3.out rfl).2.2.1 (nX HOw3.out rfl).1 (nX HOw3.out rfl).2.1 HSh.out.fits HT.out.fits);go_wp2_with fail;refine HA.out.mono ?_;rintro e w5 ⟨v5,rfl,hown5,hb5⟩;have XY:=aC (HR3.out.below hb5);have XH:=aC (XG.out.below hb5);clear c0 c1 c2' c3 c4 c5;cases hz:tH ts ⟨a,b,r,c2,d,s⟩;case true=>
    rw[BJ hz,sU]at hown5;obtain⟨g3,c3,rfl⟩:=tZ hown5;have HOw5:Hid (w5.ownsRow w.heap.size 29 6 (.slice (some ⟨g3,0,none⟩) (ts.length+1) c3) (ts.length+1) (aF (ik ts ⟨a,b,r,c2,d,s⟩))):=dV hown5 XG.out.size;have HSh5:Hid (qD (ik ts ⟨a,b,r,c2,d,s⟩)):=HSh.out.put HT.out;have HLP:=dm (sU ts ⟨a,b,r,c2,d,s⟩);have HQ:=dm hz;clear hown5 hb5 hz HA HOw3 HR3 XG;go_wp2;go_roundw;case rel=>exact⟨k-1,ik ts ⟨a,b,r,c2,d,s⟩,g3,c3,by rw[show((k-1:Nat):Int)=(k:Int)-1 by omega],by rw[HLP.out];omega,by rw[HLP.out],HSh5,by rw[HLP.out];exact HOw5,XY,XH⟩
    simp[intOf];omega
   have HOw5:=dm (FQ HOw3.out hb5);rw[sS hz]at hown5;obtain⟨ZH,cap5,hv5,-,-⟩:=GQ (ts:=[]) hown5 rfl;subst hv5;have HQ:=dm hz;clear hown5 hb5 hz HA HOw3 HR3 XG;go_wp2;go_roundw;case rel=>exact⟨k-1,ts,g,c,by rw[show((k-1:Nat):Int)=(k:Int)-1 by omega],by omega,rfl,HSh,HOw5,XY,XH⟩
   simp[intOf];omega
  clear hq;go_wp2_with fail;refine(iY R ad len cap 60 _ HR3.out (by omega) (by omega)).mono ?_;rintro e w4 ⟨⟨q,rfl⟩,ZM,hO4⟩;have HR4:=dm ZM;have XE:Hid (Only R w w4):=XG.out.trans hO4;have HOw4:=dm (pg HOw3.out Z5 hO4);have HC4:=dm (HC3.out.same fun o=>hO4.cell (b:=w2.heap.size) (o:=o) hz3 hnR);clear ZM hO4 HR3 XG HOw3 HC3;cases q;case true=>
   obtain⟨c0,c1,c2',c3,c4,c5⟩:=HC4.out;have HA:=dm (tY g 0 c ts ⟨a,b,r,c2,d,s⟩ w4 (by omega) (nX HOw4.out rfl).2.2.1 (nX HOw4.out rfl).1 (nX HOw4.out rfl).2.1 HSh.out.fits HT.out.fits);go_wp2_with fail;refine HA.out.mono ?_;rintro e w5 ⟨v5,rfl,hown5,hb5⟩;have XY:=aC (HR4.out.below hb5);have XH:=aC (XE.out.below hb5);clear c0 c1 c2' c3 c4 c5;cases hz:tH ts ⟨a,b,r,c2,d,s⟩;case true=>
    rw[BJ hz,sU]at hown5;obtain⟨g3,c3,rfl⟩:=tZ hown5;have HOw5:Hid (w5.ownsRow w.heap.size 29 6 (.slice (some ⟨g3,0,none⟩) (ts.length+1) c3) (ts.length+1) (aF (ik ts ⟨a,b,r,c2,d,s⟩))):=dV hown5 XE.out.size;have HSh5:Hid (qD (ik ts ⟨a,b,r,c2,d,s⟩)):=HSh.out.put HT.out;have HLP:=dm (sU ts ⟨a,b,r,c2,d,s⟩);have HQ:=dm hz;clear hown5 hb5 hz HA HOw4 HR4 XE;go_wp2;go_roundw;case rel=>exact⟨k-1,ik ts ⟨a,b,r,c2,d,s⟩,g3,c3,by rw[show((k-1:Nat):Int)=(k:Int)-1 by omega],by rw[HLP.out];omega,by rw[HLP.out],HSh5,by rw[HLP.out];exact HOw5,XY,XH⟩
    simp[intOf];omega
   have HOw5:=dm (FQ HOw4.out hb5);rw[sS hz]at hown5;obtain⟨ZH,cap5,hv5,-,-⟩:=GQ (ts:=[]) hown5 rfl;subst hv5;have HQ:=dm hz;clear hown5 hb5 hz HA HOw4 HR4 XE;go_wp2;go_roundw;case rel=>exact⟨k-1,ts,g,c,by rw[show((k-1:Nat):Int)=(k:Int)-1 by omega],by omega,rfl,HSh,HOw5,XY,XH⟩
   simp[intOf];omega
  go_wp2;go_roundw;case rel=>exact⟨k-1,ts,g,c,by rw[show((k-1:Nat):Int)=(k:Int)-1 by omega],by omega,rfl,HSh,HOw4,HR4,XE⟩
  simp[intOf];omega
 obtain rfl:k=0:=by omega
 go_wp2;go_ret;exact⟨⟨g,c,ts,rfl,by omega,HSh.out,HOw.out⟩,HR.out,HO.out⟩
def Ta(w:World)(e:Ending)(w':World):Prop:=∃(v:Value) (rs:Q06) (g c:Nat) (ts:Q05) (k:Int) (t:Tp),e=.returned (.tuple #[v,.slice (some ⟨g,0,none⟩) ts.length c,.agg #[.int .i64 k,.string t.a,.string t.b,.string t.r,.string t.c,.string t.d,.string t.s]])/\iP w' w.heap.size v rs/\GoodS rs/\ts.length<=10/\qD ts/\t.short/\w'.ownsRow w.heap.size 29 6 (.slice (some ⟨g,0,none⟩) ts.length c) ts.length (aF ts)/\af w w'
theorem Cf(n:Nat)(w:ae)(v0 v1 v2 v3 v4 v5 v6:Value):Only n w (((((((w.setCell ⟨n,0,none⟩ v0).setCell ⟨n,1,none⟩ v1).setCell ⟨n,2,none⟩ v2).setCell ⟨n,3,none⟩ v3).setCell ⟨n,4,none⟩ v4).setCell ⟨n,5,none⟩ v5).setCell ⟨n,6,none⟩ v6) :=
 (((((((Only.refl n w).set 0 v0).set 1 v1).set 2 v2).set 3 v3).set 4 v4).set 5 v5).set 6 v6
theorem zg(ad:Q02)(len cap:Nat)(w:ae)(h:Bytes w ad len):
  Calls prog 33 #[.slice ad len cap] w (Ta w):=by
 have H:=aC h;clear h;obtain⟨W0,hW0⟩:∃W0,W0=w.alloc (.cells #[.int .i64 0,.string ⟨#[]⟩,.string ⟨#[]⟩,.string ⟨#[]⟩,.string ⟨#[]⟩,.string ⟨#[]⟩,.string ⟨#[]⟩] 31):=⟨_,rfl⟩;have HB0:=nC hW0;have HZ0:Hid (W0.heap.size=w.heap.size+1):=by show _=_;rw[hW0];simp
 have YW:Hid (qG W0 (w.heap.size+1) w.heap.size 0 ⟨#[]⟩ ⟨#[]⟩ ⟨#[]⟩ ⟨#[]⟩ ⟨#[]⟩ ⟨#[]⟩):=by
  show qG _ _ _ _ _ _ _ _ _ _;rw[hW0];refine⟨by omega,by simp,fun o=>by simp,?_,?_,?_,?_,?_,?_,?_⟩<;>simp
 go_enter func33,ntmps33;go_wp2_with fail;rw[<-hW0];clear hW0;refine(PH ad len cap _ (H.out.below HB0.out)).mono ?_;rintro e w1 ⟨rfl,XV,hb1⟩;rw[HZ0.out]at XV ⊢;obtain⟨R,hRR⟩:∃R,R=w.heap.size+1:=⟨_,rfl⟩;rw[<-hRR]at XV YW ⊢;have HB1:=kv HB0 hb1;have HR1:=aC XV;have HS1:=dm (YW.out.only (Only.of_below hb1));have hRn:w.heap.size<R:=by omega
 clear XV hb1 YW HB0 HZ0 hRR;go_wp2_with fail;refine(KV R ad len cap _ HR1.out).mono ?_;rintro e w2 ⟨v,rs,rfl,hT2,hG,hR2,hO2⟩;have hb:=HR1.out.lt;obtain⟨Yt,Yu,rfl,-,-⟩:=hT2.read;have HR2:=aC hR2;have HB2:Hid (af w w2):=Only.toBelow HB1.out hO2 HB1.out.size (by omega);have HT2:=aC hT2;have HG:Hid (GoodS rs):=hG;have HS2:=dm (HS1.out.only hO2);clear hT2 hG hR2 hO2 HB1 HR1 HS1;go_wp2_with fail;refine(IE R ad len cap Yt Yu w1.heap.size rs _ HR2.out hb HT2.out HG.out).mono ?_;rintro e w3 ⟨⟨g,c,ts,rfl,hl9,hsh,hown⟩,Y3,hO3⟩;have HB3:Hid (af w w3):=Only.toBelow HB2.out hO3 HB2.out.size (by omega);have HT3:Hid (iP w3 w1.heap.size (.slice Yt rs.length Yu) rs):=HT2.out.only hb hO3;have hw:w.heap.size<=w1.heap.size:=by omega
 have hs2:R<w2.heap.size:=HR2.out.lt;obtain⟨hrow,hg,-,hbg⟩:=nX hown rfl;have HO:=aC hown;have HC:=dm (Km R ad len cap g c ts w3 Y3 (by omega) hsh hrow hg (by omega));have HSH:=dm hsh;have HS3:=dm (HS2.out.only hO3);clear Y3 hO3 HR2 HB2 HT2 HS2 hown hrow hg hbg hsh;go_wp2_with fail;refine HC.out.mono ?_;rintro e w4 ⟨⟨k,a,b,r,c2,d,s,rfl,ht⟩,ZM,hO4⟩;have XM:Hid (af w w4):=Only.toBelow HB3.out hO4 HB3.out.size (by omega);have HT4:Hid (iP w4 w1.heap.size (.slice Yt rs.length Yu) rs):=HT3.out.only hb hO4;have XE:Hid (w4.ownsRow w2.heap.size 29 6 (.slice (some ⟨g,0,none⟩) ts.length c) ts.length (aF ts)):=pg HO.out hs2 hO4;have HTS:=aC ht;have hS4:=HS3.out.only hO4;have hn1:w.heap.size<w1.heap.size:=by omega
 have hn2:w.heap.size<w2.heap.size:=by omega
 obtain⟨W5,YI⟩:∃W5,W5=(((((((w4.setCell ⟨w.heap.size,0,none⟩ (.int .i64 k)).setCell ⟨w.heap.size,1,none⟩ (.string a)).setCell ⟨w.heap.size,2,none⟩ (.string b)).setCell ⟨w.heap.size,3,none⟩ (.string r)).setCell ⟨w.heap.size,4,none⟩ (.string c2)).setCell ⟨w.heap.size,5,none⟩ (.string d)).setCell ⟨w.heap.size,6,none⟩ (.string s)):=⟨_,rfl⟩;have XW:Only w.heap.size w4 W5:=by rw[YI];exact Cf _ _ _ _ _ _ _ _ _
 have HS5:Hid (qG W5 R w.heap.size k a b r c2 d s):=by show qG _ _ _ _ _ _ _ _ _ _;rw[YI];exact hS4.set
 have XY:Hid (Ta w (.returned (.tuple #[.slice Yt rs.length Yu,.slice (some ⟨g,0,none⟩) ts.length c,.agg #[.int .i64 k,.string a,.string b,.string r,.string c2,.string d,.string s]])) W5) :=
  ⟨_,rs,g,c,ts,k,⟨a,b,r,c2,d,s⟩,rfl,XK.lower (HT4.out.only hn1 XW) hw,HG.out,hl9,HSH.out,HTS.out,dV (pg XE.out hn2 XW) (Xr hn2),Only.toBelow XM.out XW XM.out.size (V4 _)⟩
 obtain⟨s1,s2,s3,d0,d1,d2,d3,d4,d5,d6⟩:=hS4;clear ht ZM hO4 XW HB3 HT3 HO HC HS3 XM HT4 XE HTS HSH HG;go_wp2;rw[<-YI];clear YI d0 d1 d2 d3 d4 d5 d6 s2 s3;obtain⟨-,s2,s3,d0,d1,d2,d3,d4,d5,d6⟩:=HS5.out;exact bodyPost_ret (v:=.tuple #[.slice Yt rs.length Yu,.slice (some ⟨g,0,none⟩) ts.length c,.agg #[.int .i64 k,.string a,.string b,.string r,.string c2,.string d,.string s]]) (by simp[results,Tryz.results33,go_sem, *]) rfl XY.out
theorem CG(ad:Q02)(len cap:Nat)(w:ae)(h:Bytes w ad len):
  Calls prog 7 #[.slice ad len cap] w (Ta w):=by
 obtain⟨W0,hW0⟩:∃W0,W0=w.alloc (.cells #[.int .i64 0,.string ⟨#[]⟩,.string ⟨#[]⟩,.string ⟨#[]⟩,.string ⟨#[]⟩,.string ⟨#[]⟩,.string ⟨#[]⟩] 31):=⟨_,rfl⟩;have HB0:=nC hW0;have hz0:w.heap.size<W0.heap.size:=by rw[hW0];simp
 have HD:=dm (zg ad len cap W0 (h.below HB0.out));have YW:Hid (qG W0 W0.heap.size w.heap.size 0 ⟨#[]⟩ ⟨#[]⟩ ⟨#[]⟩ ⟨#[]⟩ ⟨#[]⟩ ⟨#[]⟩):=by
  show qG _ _ _ _ _ _ _ _ _ _;rw[hW0];refine⟨by simp,by simp,fun o=>by simp,?_,?_,?_,?_,?_,?_,?_⟩<;>simp
 clear h;go_enter func7,ntmps7;go_wp2_with fail;rw[<-hW0];clear hW0;refine HD.out.mono ?_;rintro e w4 ⟨v,rs,g,c,ts,k,t,rfl,hT,hG,hl,hsh,ht,hown,hb4⟩;obtain⟨Yt,Yu,rfl,-,-⟩:=hT.read;have XM:=kv HB0 hb4;have hS4:=YW.out.only (Only.of_below hb4);obtain⟨W5,YI⟩:∃W5,W5=(((((((w4.setCell ⟨w.heap.size,0,none⟩ (.int .i64 k)).setCell ⟨w.heap.size,1,none⟩ (.string t.a)).setCell ⟨w.heap.size,2,none⟩ (.string t.b)).setCell ⟨w.heap.size,3,none⟩ (.string t.r)).setCell ⟨w.heap.size,4,none⟩ (.string t.c)).setCell ⟨w.heap.size,5,none⟩ (.string t.d)).setCell ⟨w.heap.size,6,none⟩ (.string t.s)):=⟨_,rfl⟩;have XW:Only w.heap.size w4 W5:=by rw[YI];exact Cf _ _ _ _ _ _ _ _ _
 have HS5:Hid (qG W5 W0.heap.size w.heap.size k t.a t.b t.r t.c t.d t.s):=by show qG _ _ _ _ _ _ _ _ _ _;rw[YI];exact hS4.set
 have XY:Hid (Ta w (.returned (.tuple #[.slice Yt rs.length Yu,.slice (some ⟨g,0,none⟩) ts.length c,.agg #[.int .i64 k,.string t.a,.string t.b,.string t.r,.string t.c,.string t.d,.string t.s]])) W5) :=
  ⟨_,rs,g,c,ts,k,t,rfl,XK.lower (hT.only hz0 XW) (Xr hz0),hG,hl,hsh,ht,dV (pg hown hz0 XW) (Xr hz0),Only.toBelow XM.out XW XM.out.size (V4 _)⟩
 obtain⟨s1,s2,s3,d0,d1,d2,d3,d4,d5,d6⟩:=hS4;clear hT hG hl hsh ht hown hb4 XM XW HD HB0 YW;go_wp2;rw[<-YI];clear YI d0 d1 d2 d3 d4 d5 d6 s2 s3;obtain⟨-,s2,s3,d0,d1,d2,d3,d4,d5,d6⟩:=HS5.out;exact bodyPost_ret (v:=.tuple #[.slice Yt rs.length Yu,.slice (some ⟨g,0,none⟩) ts.length c,.agg #[.int .i64 k,.string t.a,.string t.b,.string t.r,.string t.c,.string t.d,.string t.s]]) (by simp[results,Tryz.results7,go_sem, *]) rfl XY.out
end Go.Proofs.YtcgdckphpjfmhaaGreatDoor
