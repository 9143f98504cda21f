/- Contract of the document's reader of schemas: spec.ReadSchema. -/
import Derived.Test.YtajkkeikihhejaaGreatSq
import Derived.Test.YtajkkeikihhejaaGreatJ15
import Derived.Test.YtajkkeikihhejaaGreatSpecSchema11
import Derived.Deep.Cut
import Derived.Deep.CutRange
import Derived.Test.YtajkkeikihhejaaGreatShelfS
import Derived.Test.YtajkkeikihhejaaGreatJ18
open Go.Proofs.Tryz
set_option maxHeartbeats 80000000
namespace Go.Proofs.YtajkkeikihhejaaGreat
set_option maxRecDepth 100000
open ChangeShapes WideShapes ChangeAt RowKit
open Pl
def Um(s:ByteArray)(w:World)(e:Ending)(w':World):Prop :=
 ae w w'/\(((∀T,dS (s.size+1) s []=some T->aK T=false)/\e=.returned (.tuple #[.slice none 0 0,.bool false])) \/ ∃(v:Value) (rs:Q06),aK (ag rs)=true/\e=.returned (.tuple #[v,.bool true])/\iZ w' w.heap.size v rs/\dB (ag rs)=s/\Ti (ag rs))
theorem rJ(s:ByteArray)(w:af)(hs:s.size<=3000):Calls prog 84 #[.string s] w (Um s w):=by
 have HL:=dU (FM s w hs);go_enter func84,ntmps84;go_wp2_with fail;refine HL.out.mono ?_;rintro e w1 ⟨hb1,hcase⟩;have HB1:=dU hb1;rcases hcase with⟨hno,rfl⟩|⟨v,rs,hyes,rfl,hM,htx,hok⟩
 ·have XI:Hid (∀T,dS (s.size+1) s []=some T->aK T=false):=fun T hT=>by rw[hno]at hT;cases hT
  clear hb1 hno HL;go_wp2;exact bodyPost_ret (v:=.tuple #[.slice none 0 0,.bool false]) (by simp[results,Tryz.results84,go_sem]) rfl ⟨HB1.out,.inl ⟨XI.out,rfl⟩⟩
 obtain⟨ad,cap,hv,hsl,-⟩:=iZ.read hM;subst hv;obtain⟨k1,k2,k3,k4⟩:=rows_ok hok (by rw[htx];exact hs);have HM:=dU hM;have HTX:=dU htx;have X0:=dU hok;have HY:=dU hyes;have HSO:=dU (kz ad cap rs w1 (by omega) hsl k3 k4);clear hb1 hM htx hok hyes hsl k1 k2 k3 k4 HL;go_wp2_with fail;refine HSO.out.mono ?_;rintro e w2 ⟨he,hb2⟩;have HB2:=dU (HB1.out.trans (hb2.mono HB1.out.size));have Xm:=dU (HM.out.below nk hb2);clear hb2 HSO HM;cases hd:aK (ag rs);case false=>
  rw[hd]at he;subst he;have XI:Hid (∀T,dS (s.size+1) s []=some T->aK T=false):=fun T hT=>by rw[HY.out]at hT;injection hT with hT;rw[<-hT];exact hd
  clear hd;go_wp2;exact bodyPost_ret (v:=.tuple #[.slice none 0 0,.bool false]) (by simp[results,Tryz.results84,go_sem]) rfl ⟨HB2.out,.inl ⟨XI.out,rfl⟩⟩
 rw[hd]at he;subst he;have HD:=dU hd;clear hd;go_wp2;exact bodyPost_ret (v:=.tuple #[.slice ad rs.length cap,.bool true]) (by simp[results,Tryz.results84,go_sem]) rfl ⟨HB2.out,.inr ⟨_,rs,HD.out,rfl,Xm.out,HTX.out,X0.out⟩⟩
set_option linter.unusedVariables false
theorem FY{t:ByteArray}{x y z c:UInt8}(h:t.data.toList.take 10=[116,121,112,101,32,x,y,z,10,c])(h1:x≠10)(h2:y≠10)(h3:z≠10)(h4:c≠116):Pre t:=by
 refine⟨x,y,z,c,t.data.toList.drop 10,?_,h1,h2,h3,h4⟩
 conv=>lhs;rw[<-List.take_append_drop 10 t.data.toList,h]
 rfl
theorem QU{t:ByteArray}(h:Pre t):10<=t.size:=by
 obtain⟨x,y,z,c,tl,e,-⟩:=h;have h2:t.size=t.data.toList.length:=by simp
 rw[h2,e];simp
theorem xk{w:af}{base base' size n:Nat}{e:TypeId}{v:Value}{xs:Q03}(h:w.ownsRow base e size v n xs)(hb:base'<=base):w.ownsRow base' e size v n xs:=by
 refine⟨h.1,?_⟩;rcases h.2 with hl|⟨g,cap,cur,rfl,h1,h2⟩
 ·exact .inl hl
 exact .inr ⟨g,cap,cur,rfl,Vj hb h1,h2⟩
theorem Cx.lower{w:af}{base base':Nat}{v:Value}{rs:Q07}(h:Cx w base v rs)(hb:base'<=base):Cx w base' v rs:=⟨xk h.own hb,fun q hq=>NodM.mono (h.kid q hq) hb,h.head,h.two⟩
theorem WL.lower{w:af}{base base':Nat}{v:Value}{rs:Q06}(h:iZ w base v rs)(hb:base'<=base):iZ w base' v rs:=⟨xk h.own hb,fun q hq=>Cx.lower (h.kid q hq) hb,h.head,h.two⟩
def IE(w wc:World)(v:Value)(rs:Q06):Prop:=iZ wc w.heap.size v rs/\aK (ag rs)=true/\Pre (dB (ag rs))/\Ti (ag rs)/\(dB (ag rs)).size<=2000
theorem IE.only{w wc wd:af}{R:Nat}{v:Value}{rs:Q06}(h:IE w wc v rs)(hR:R<w.heap.size)(ho:Only R wc wd):IE w wd v rs :=
 ⟨h.1.heap nk ho.size fun g hg=>ho.block g (h.1.lt nk hg).2 (fun e=>by injection e with e;have:=(h.1.lt nk hg).1;omega),h.2⟩
def GoodS(rs:Q06):Prop:=rs.length<=500/\(∀r∈rs,r.light)/\∀r∈rs,r.fits
theorem IE.good{w wc:af}{v:Value}{rs:Q06}(h:IE w wc v rs):GoodS rs/\iZ wc w.heap.size v rs:=by
 obtain⟨k1,-,k3,k4⟩:=rows_ok h.2.2.2.1 (by have:=h.2.2.2.2;omega);exact⟨⟨k1,k3,k4⟩,h.1⟩
theorem QV:(⟨#[122,111,111]⟩:ByteArray).size<=maxLen:=by
 have e:(⟨#[122,111,111]⟩:ByteArray).size=3:=rfl;rw[e];unfold maxLen;omega
theorem KH{t:TR}{ts:Q06}(h:GoodS (t::ts)):GoodS (({ t with name:=⟨#[122,111,111]⟩ }:TR)::ts):=by
 obtain⟨h1,h2,h3⟩:=h;refine⟨by simpa using h1,fun r hr=>?_,fun r hr=>?_⟩
 ·rcases Vq.1 hr with rfl|hr
  ·exact h2 t (by simp)
  exact h2 r (by simp[hr])
 rcases Vq.1 hr with rfl|hr
 ·obtain⟨a1,a2,a3⟩:=h3 t (by simp);exact⟨QV,a2,a3⟩
 exact h3 r (by simp[hr])
theorem NP{t:TR}{ts:Q06}{q:RR}{qs:Q07}{y:ER}{ys:Q08}(k:Int)(h:GoodS (t::ts))(hq:t.rows=q::qs)(hy:q.rows=y::ys):GoodS (t.asK q qs y ys k::ts):=by
 obtain⟨h1,h2,h3⟩:=h;refine⟨by simpa using h1,fun r hr=>?_,fun r hr=>?_⟩
 ·rcases Vq.1 hr with rfl|hr
  ·obtain⟨a1,a2⟩:=h2 t (by simp);rw[hq]at a1 a2;refine⟨by simpa[TR.asK] using a1,fun p hp=>?_⟩;rcases Vq.1 hp with rfl|hp
   ·obtain⟨b1,b2⟩:=a2 q (by simp);rw[hy]at b1 b2;refine⟨by simpa using b1,fun z hz=>?_⟩;rcases Vq.1 hz with rfl|hz
    ·exact b2 y (by simp)
    exact b2 z (by simp[hz])
   exact a2 p (by simp[hp])
  exact h2 r (by simp[hr])
 rcases Vq.1 hr with rfl|hr
 ·obtain⟨a0,a1,a2⟩:=h3 t (by simp);rw[hq]at a1 a2;refine⟨a0,by simpa[TR.asK] using a1,fun p hp=>?_⟩;rcases Vq.1 hp with rfl|hp
  ·obtain⟨b0,b1,b2⟩:=a2 q (by simp);rw[hy]at b1 b2;refine⟨b0,by simpa using b1,fun z hz=>?_⟩;rcases Vq.1 hz with rfl|hz
   ·exact b2 y (by simp)
   exact b2 z (by simp[hz])
  exact a2 p (by simp[hp])
 exact h3 r (by simp[hr])
def Un(R:Nat)(ad:Q02)(len cap:Nat)(w:World)(e:Ending)(w':World):Prop:=∃(v:Value) (rs:Q06),e=.returned v/\iZ w' w.heap.size v rs/\GoodS rs/\Rd w' R ad len cap/\Only R w w'
def Tn(R:Nat)(w:World)(v:Value):Nat×Nat->Prop
 | (0,n)=>∃g,v=.slice (some ⟨g,0,none⟩) n n/\sQ w R g n 70
 | (1,_)=>v=.pointer (some ⟨R,0,none⟩)
 | (2,n)=>∃x:Nat,v=.int .i64 (x:Int)/\x<n
 | (3,n)=>∃g x,v=.pointer (some ⟨g,x,none⟩)/\x<n/\sQ w R g n 70
 | (4,n)=>∃t:ByteArray,v=.string t/\t.size<=n
 | (_,n)=>∃t:ByteArray,v=.string t/\Pre t/\t.size<=n
theorem Tn.only{R:Nat}{w w':af}{v:Value}(h:Only R w w')(k:Nat×Nat)(hk:Tn R w v k):Tn R w' v k:=by
 match k,hk with
 | (0,n),hk=>obtain⟨g,e,hs⟩:=hk;exact⟨g,e,hs.only h⟩
 | (1,n),hk=>exact hk
 | (2,n),hk=>exact hk
 | (3,n),hk=>obtain⟨g,x,e,hx,hs⟩:=hk;exact⟨g,x,e,hx,hs.only h⟩
 | (4,n),hk=>exact hk
 | (n+5,m),hk=>exact hk
def U7:List (Nat×Nat):=[(0,2),(1,0),(2,2),(3,2),(4,70),(5,200),(5,240),(0,3),(1,0),(2,3),(3,3),(4,70),(5,320),(5,420)]
theorem KI(R:Nat)(ad:Q02)(len cap:Nat)(w:af)(h:Rd w R ad len cap):
  Calls prog 45 #[.pointer (some ⟨R,0,none⟩)] w (Un R ad len cap w):=by
 have H:=jU h;have YU:=h.lt;clear h;go_enter func45,ntmps45;go_wp2_with fail;refine fI 14 (fun f=>{ tmps:=List.toArray (Value.pointer (some ⟨R,0,none⟩)::undef::.slice none 0 0::undef::undef::undef::undef::f 0::f 1::f 2::f 3::f 4::f 5::f 6::f 7::f 8::f 9::f 10::f 11::f 12::f 13::undef::undef::undef::undef::undef::undef::undef::undef::undef::undef::undef::undef::undef::undef::undef::undef::undef::undef::undef::undef::undef::undef::undef::undef::undef::undef::undef::undef::undef::undef::undef::undef::undef::undef::undef::undef::undef::undef::undef::undef::undef::undef::undef::undef::undef::undef::undef::undef::undef::undef::undef::undef::undef::undef::undef::undef::undef::undef::undef::undef::undef::undef::undef::undef::undef::undef::undef::undef::undef::undef::undef::undef::undef::[]),defers:=[] }) (fun k v w'=>Tn R w' v (U7.getD k (9,0))) (fun w'=>Rd w' R ad len cap/\Only R w w') (by kernel_rfl) rfl (by kernel_rfl) (by kernel_rfl) rfl ⟨H.out.below ((Vb _ _).drew),(Only.refl R w).drewN 1⟩ ?step ?fin;case step =>
  rintro i hi o ho f w' ⟨hR',Xa⟩ hpre;have HR:=aD hR';have HO:=aD Xa;have hRl:R<w'.heap.size:=hR'.lt;have HM:Hid (∀e∈o.after,Region.binds .any e=true->_):=hpre;clear hR' Xa hpre;have hc:=Ux (i:=i) (by omega);clear hi
  repeat' rcases hc with rfl|hc
  ·cases ho;have K1:Hid (Only R w' (w'.alloc (.cells #[.string ⟨#[116,104,105,115,40,117,115,101,114,41]⟩,.string ⟨#[116,104,105,115,40,117,115,101,114,41,32,124,32,112,97,114,101,110,116,45,62,111,119,110,101,114]⟩] 9))):=(Only.refl R w').alloc _;refine aa rfl fun K HK=>?_;clear HM;dsimp only;go_simp;exact HK.out _ _ ⟨.slice (some ⟨w'.heap.size,0,none⟩) 2 2,by simp[upd],⟨HR.out.alloc _,HO.out.alloc _⟩,⟨_,rfl,mM w' R 70 hRl (xs:=[_,_]) (by decide)⟩,fun k u hu=>Tn.only K1.out _ hu⟩
  ·cases ho;refine aa rfl fun K HK=>?_;clear HM;dsimp only;go_simp;exact HK.out _ _ ⟨Value.pointer (some ⟨R,0,none⟩),by simp[upd],⟨HR.out,HO.out⟩,rfl,fun k u hu=>hu⟩
  ·cases ho;have e1:f 1=Value.pointer (some ⟨R,0,none⟩):=HM.out ⟨1,.data⟩ (by simp) rfl;refine aa rfl fun K HK=>?_;clear HM;simp only[e1];go_simp;refine(gu R ad len cap 2 _ HR.out (by omega) (by omega)).mono ?_;rintro e w5 ⟨⟨x,rfl,hx⟩,WS,Xi⟩;have WR:=jU WS;have WF:=jU Xi;clear WS Xi;go_wp2_with fail;exact HK.out _ _ ⟨.int .i64 (x:Int),by simp[upd,e1],⟨WR.out,HO.out.trans WF.out⟩,⟨x,rfl,hx⟩,fun k u hu=>Tn.only WF.out _ hu⟩
  ·cases ho;obtain⟨g,e1,hS⟩:=HM.out ⟨0,.data⟩ (by simp) rfl;obtain⟨x,e2,hx⟩:=HM.out ⟨2,.data⟩ (by simp) rfl;replace e1:f 0=_:=e1;replace e2:f 2=_:=e2;have HS:=aD hS;clear hS;have hx0:=bC x;have hx1:(x:Int)<2:=by omega
   refine aa rfl fun K HK=>?_;clear HM;simp only[e1,e2];go_simp;exact HK.out _ _ ⟨.pointer (some ⟨g,x,none⟩),by simp[upd,e1,e2],⟨HR.out,HO.out⟩,⟨g,x,rfl,hx,HS.out⟩,fun k u hu=>hu⟩
  ·cases ho;obtain⟨g,x,e1,hx,hS⟩:=HM.out ⟨3,.data⟩ (by simp) rfl;replace e1:f 3=_:=e1;obtain⟨t,hcell,ht⟩:=hS.2.2 x hx;clear hS;refine aa rfl fun K HK=>?_;clear HM;simp only[e1];go_simp;exact HK.out _ _ ⟨.string t,by simp[upd,e1],⟨HR.out,HO.out⟩,⟨t,rfl,ht⟩,fun k u hu=>hu⟩
  ·cases ho;obtain⟨t,e1,ht⟩:=HM.out ⟨4,.data⟩ (by simp) rfl;replace e1:f 4=_:=e1;have hc0:(⟨#[116,121,112,101,32,100,111,99,10,98,97,110,110,101,100,32,61,32,116,104,105,115,40,117,115,101,114,41,10,101,100,105,116,111,114,32,61,32,116,104,105,115,40,117,115,101,114,41,32,124,32,111,119,110,101,114,10,111,119,110,101,114,32,61,32]⟩:ByteArray).size=65:=rfl;have hz:(9223372036854775807<65+t.size)=False:=by simp;omega
   refine aa rfl fun K HK=>?_;clear HM;simp only[e1];go_simp;exact HK.out _ _ ⟨.string ((⟨#[116,121,112,101,32,100,111,99,10,98,97,110,110,101,100,32,61,32,116,104,105,115,40,117,115,101,114,41,10,101,100,105,116,111,114,32,61,32,116,104,105,115,40,117,115,101,114,41,32,124,32,111,119,110,101,114,10,111,119,110,101,114,32,61,32]⟩:ByteArray)++t),by simp[upd,e1],⟨HR.out,HO.out⟩,⟨_,rfl,(FY (x:=100) (y:=111) (z:=99) (c:=98) (by rfl) (by decide) (by decide) (by decide) (by decide)).app t,by rw[Vv,hc0];omega⟩,fun k u hu=>hu⟩
  ·cases ho;obtain⟨t,e1,hp,ht⟩:=HM.out ⟨5,.data⟩ (by simp) rfl;replace e1:f 5=_:=e1;have ZL:=jU hp;have hc0:(⟨#[10,112,97,114,101,110,116,32,61,32,116,104,105,115,40,100,111,99,41,10,118,105,101,119,101,114,32,61,32]⟩:ByteArray).size=29:=rfl;have hz:(9223372036854775807<t.size+29)=False:=by simp;omega
   refine aa rfl fun K HK=>?_;clear HM hp;simp only[e1];go_simp;exact HK.out _ _ ⟨.string (t++(⟨#[10,112,97,114,101,110,116,32,61,32,116,104,105,115,40,100,111,99,41,10,118,105,101,119,101,114,32,61,32]⟩:ByteArray)),by simp[upd,e1],⟨HR.out,HO.out⟩,⟨_,rfl,ZL.out.app _,by rw[Vv,hc0];omega⟩,fun k u hu=>hu⟩
  ·cases ho;have K1:Hid (Only R w' (w'.alloc (.cells #[.string ⟨#[116,104,105,115,40,117,115,101,114,44,103,114,111,117,112,35,109,101,109,98,101,114,41,32,124,32,101,100,105,116,111,114,32,124,32,112,97,114,101,110,116,45,62,118,105,101,119,101,114]⟩,.string ⟨#[40,116,104,105,115,40,117,115,101,114,44,103,114,111,117,112,35,109,101,109,98,101,114,41,32,124,32,101,100,105,116,111,114,32,124,32,112,97,114,101,110,116,45,62,118,105,101,119,101,114,41,32,45,32,98,97,110,110,101,100]⟩,.string ⟨#[116,104,105,115,40,117,115,101,114,44,103,114,111,117,112,35,109,101,109,98,101,114,41,32,38,32,101,100,105,116,111,114]⟩] 9))):=(Only.refl R w').alloc _;refine aa rfl fun K HK=>?_;clear HM;dsimp only;go_simp;exact HK.out _ _ ⟨.slice (some ⟨w'.heap.size,0,none⟩) 3 3,by simp[upd],⟨HR.out.alloc _,HO.out.alloc _⟩,⟨_,rfl,mM w' R 70 hRl (xs:=[_,_,_]) (by decide)⟩,fun k u hu=>Tn.only K1.out _ hu⟩
  ·cases ho;refine aa rfl fun K HK=>?_;clear HM;dsimp only;go_simp;exact HK.out _ _ ⟨Value.pointer (some ⟨R,0,none⟩),by simp[upd],⟨HR.out,HO.out⟩,rfl,fun k u hu=>hu⟩
  ·cases ho;have e1:f 8=Value.pointer (some ⟨R,0,none⟩):=HM.out ⟨8,.data⟩ (by simp) rfl;refine aa rfl fun K HK=>?_;clear HM;simp only[e1];go_simp;refine(gu R ad len cap 3 _ HR.out (by omega) (by omega)).mono ?_;rintro e w5 ⟨⟨x,rfl,hx⟩,WS,Xi⟩;have WR:=jU WS;have WF:=jU Xi;clear WS Xi;go_wp2_with fail;exact HK.out _ _ ⟨.int .i64 (x:Int),by simp[upd,e1],⟨WR.out,HO.out.trans WF.out⟩,⟨x,rfl,hx⟩,fun k u hu=>Tn.only WF.out _ hu⟩
  ·cases ho;obtain⟨g,e1,hS⟩:=HM.out ⟨7,.data⟩ (by simp) rfl;obtain⟨x,e2,hx⟩:=HM.out ⟨9,.data⟩ (by simp) rfl;replace e1:f 7=_:=e1;replace e2:f 9=_:=e2;have HS:=aD hS;clear hS;have hx0:=bC x;have hx1:(x:Int)<3:=by omega
   refine aa rfl fun K HK=>?_;clear HM;simp only[e1,e2];go_simp;exact HK.out _ _ ⟨.pointer (some ⟨g,x,none⟩),by simp[upd,e1,e2],⟨HR.out,HO.out⟩,⟨g,x,rfl,hx,HS.out⟩,fun k u hu=>hu⟩
  ·cases ho;obtain⟨g,x,e1,hx,hS⟩:=HM.out ⟨10,.data⟩ (by simp) rfl;replace e1:f 10=_:=e1;obtain⟨t,hcell,ht⟩:=hS.2.2 x hx;clear hS;refine aa rfl fun K HK=>?_;clear HM;simp only[e1];go_simp;exact HK.out _ _ ⟨.string t,by simp[upd,e1],⟨HR.out,HO.out⟩,⟨t,rfl,ht⟩,fun k u hu=>hu⟩
  ·cases ho;obtain⟨t,e1,hp,ht⟩:=HM.out ⟨6,.data⟩ (by simp) rfl;obtain⟨u2,e2,hu2⟩:=HM.out ⟨11,.data⟩ (by simp) rfl;replace e1:f 6=_:=e1;replace e2:f 11=_:=e2;have ZL:=jU hp;have hz:(9223372036854775807<t.size+u2.size)=False:=by simp;omega
   refine aa rfl fun K HK=>?_;clear HM hp;simp only[e1,e2];go_simp;exact HK.out _ _ ⟨.string (t++u2),by simp[upd,e1,e2],⟨HR.out,HO.out⟩,⟨_,rfl,ZL.out.app _,by rw[Vv];omega⟩,fun k u hu=>hu⟩
  cases ho;obtain⟨t,e1,hp,ht⟩:=HM.out ⟨12,.data⟩ (by simp) rfl;replace e1:f 12=_:=e1;have ZL:=jU hp;have hc0:(⟨#[10,116,121,112,101,32,103,114,111,117,112,10,109,101,109,98,101,114,32,61,32,116,104,105,115,40,117,115,101,114,44,103,114,111,117,112,35,109,101,109,98,101,114,41,10,116,121,112,101,32,117,115,101,114,10]⟩:ByteArray).size=55:=rfl;have hz:(9223372036854775807<t.size+55)=False:=by simp;omega
  refine aa rfl fun K HK=>?_;clear HM hp;simp only[e1];go_simp;exact HK.out _ _ ⟨.string (t++(⟨#[10,116,121,112,101,32,103,114,111,117,112,10,109,101,109,98,101,114,32,61,32,116,104,105,115,40,117,115,101,114,44,103,114,111,117,112,35,109,101,109,98,101,114,41,10,116,121,112,101,32,117,115,101,114,10]⟩:ByteArray)),by simp[upd,e1],⟨HR.out,HO.out⟩,⟨_,rfl,ZL.out.app _,by rw[Vv,hc0];omega⟩,fun k u hu=>hu⟩
 case fin =>
  rintro o ho f w1 ⟨Xe,WQ⟩ hall;obtain⟨t1,e1,hp1,ht1⟩:=hall 13 (by omega);replace e1:f 13=_:=e1;have HR1:=jU Xe;have WK:=jU WQ;have HP1:=jU hp1;obtain rfl:=Option.some.inj ho;clear ho hall Xe WQ hp1;refine aa rfl fun K HK=>?_;simp only[e1];go_simp;refine HK.out _ _ ?_;clear HK;go_wp2_with fail;refine(jR R ad len cap 3 _ HR1.out (by omega) (by omega)).mono ?_;rintro e w2 ⟨⟨q1,rfl⟩,hR2,hO2⟩;have HR2:=jU hR2;have Wu:Hid (Only R w w2):=WK.out.trans hO2;clear hR2 hO2 HR1 WK
  go_upto_if 22 with fail
  go_cut [3] from 23 (fun s3 wc=>∃t:ByteArray,s3=.string t/\t.size<=1200/\Hid (Pre t)/\Hid (Rd wc R ad len cap)/\Hid (Only R w wc))
  case first =>
   cases q1;case false=>
    go_wp2_with fail
    go_meet
    exact⟨t1,rfl,by omega,HP1,HR2,Wu⟩
   go_wp2_with fail;refine(qU R ad len cap 0 _ (by omega) HR2.out).mono ?_;rintro e w3 ⟨⟨r0,rfl,hr0⟩,YG,hO3⟩;have HR3:=jU YG;have WO:Hid (Only R w w3):=Wu.out.trans hO3;clear YG hO3 HR2 Wu;go_wp2_with fail;refine(qU R ad len cap 1 _ (by omega) HR3.out).mono ?_;rintro e w4 ⟨⟨r1,rfl,hr1⟩,ZF,hO4⟩;have HR4:=jU ZF;have WG:Hid (Only R w w4):=WO.out.trans hO4;clear ZF hO4 HR3 WO;go_wp2_with fail;refine(qU R ad len cap 2 _ (by omega) HR4.out).mono ?_;rintro e w5 ⟨⟨r2,rfl,hr2⟩,WS,Xi⟩;have WR:=jU WS;have WF:Hid (Only R w w5):=WG.out.trans Xi;clear WS Xi HR4 WG;have k0:(⟨#[116,121,112,101,32,100,111,99,10,98,97,110,110,101,100,32,61,32]⟩:ByteArray).size=18:=rfl;have k1:(⟨#[10,101,100,105,116,111,114,32,61,32]⟩:ByteArray).size=10:=rfl;have k2:(⟨#[10,111,119,110,101,114,32,61,32,116,104,105,115,40,117,115,101,114,41,10,112,97,114,101,110,116,32,61,32,116,104,105,115,40,100,111,99,41,10,118,105,101,119,101,114,32,61,32]⟩:ByteArray).size=48:=rfl;have k3:(⟨#[10,116,121,112,101,32,103,114,111,117,112,10,109,101,109,98,101,114,32,61,32,116,104,105,115,40,117,115,101,114,44,103,114,111,117,112,35,109,101,109,98,101,114,41,10,116,121,112,101,32,117,115,101,114,10]⟩:ByteArray).size=55:=rfl;have ZR:Hid ((((((((⟨#[116,121,112,101,32,100,111,99,10,98,97,110,110,101,100,32,61,32]⟩:ByteArray)++r0)++(⟨#[10,101,100,105,116,111,114,32,61,32]⟩:ByteArray))++r1)++(⟨#[10,111,119,110,101,114,32,61,32,116,104,105,115,40,117,115,101,114,41,10,112,97,114,101,110,116,32,61,32,116,104,105,115,40,100,111,99,41,10,118,105,101,119,101,114,32,61,32]⟩:ByteArray))++r2)++(⟨#[10,116,121,112,101,32,103,114,111,117,112,10,109,101,109,98,101,114,32,61,32,116,104,105,115,40,117,115,101,114,44,103,114,111,117,112,35,109,101,109,98,101,114,41,10,116,121,112,101,32,117,115,101,114,10]⟩:ByteArray)).size<=1200):=by show _<=_;simp only[Vv,k0,k1,k2,k3];omega
   have HPX:Hid (Pre (((((((⟨#[116,121,112,101,32,100,111,99,10,98,97,110,110,101,100,32,61,32]⟩:ByteArray)++r0)++(⟨#[10,101,100,105,116,111,114,32,61,32]⟩:ByteArray))++r1)++(⟨#[10,111,119,110,101,114,32,61,32,116,104,105,115,40,117,115,101,114,41,10,112,97,114,101,110,116,32,61,32,116,104,105,115,40,100,111,99,41,10,118,105,101,119,101,114,32,61,32]⟩:ByteArray))++r2)++(⟨#[10,116,121,112,101,32,103,114,111,117,112,10,109,101,109,98,101,114,32,61,32,116,104,105,115,40,117,115,101,114,44,103,114,111,117,112,35,109,101,109,98,101,114,41,10,116,121,112,101,32,117,115,101,114,10]⟩:ByteArray))):=(((((((FY (x:=100) (y:=111) (z:=99) (c:=98) (by rfl) (by decide) (by decide) (by decide) (by decide):Pre (⟨#[116,121,112,101,32,100,111,99,10,98,97,110,110,101,100,32,61,32]⟩:ByteArray)).app r0).app _).app r1).app _).app r2).app _);clear k0 k1 k2 k3;go_wp2_with fail
   go_meet
   exact⟨_,rfl,ZR.out,HPX,WR,WF⟩
  obtain⟨t,rfl,hts,HP,HR,HO⟩:=hcut;clear HP1 HR2 Wu;go_wp2_with fail;refine(jR R ad len cap 4 _ HR.out (by omega) (by omega)).mono ?_;rintro e w6 ⟨⟨q2,rfl⟩,hR6,Z7⟩;have Yw:=jU hR6;have Xy:Hid (Only R w w6):=HO.out.trans Z7;clear hR6 Z7 HR HO
  go_upto_if 36 with fail
  go_cut [3,4] from 37 (fun s3 s4 wc=>∃t:ByteArray,s3=.string t/\t.size<=2000/\Hid (Pre t)/\Hid (Rd wc R ad len cap)/\Hid (Only R w wc))
  case first =>
   cases q2;case false=>
    go_wp2_with fail
    go_meet
    exact⟨t,rfl,by omega,HP,Yw,Xy⟩
   have ht10:10<=t.size:=QU HP.out;go_wp2_with fail;go_loopw[4] (fun i wr=>∃k:Nat,i=.int .i64 (k:Int)/\k+9<=t.size/\wr=w6) (fun i _=>t.size-(intOf i).toNat);case atStart=>exact⟨0,rfl,by omega,rfl⟩
   obtain⟨k,rfl,hk,rfl⟩:=hrel;have HD0:Hid ((⟨#[116,121,112,101,32,100,105,114,10,111,119,110,101,114,32,61,32,116,104,105,115,40,117,115,101,114,41,10,115,101,101,32,61,32,116,104,105,115,40,117,115,101,114,41,10]⟩:ByteArray).size=45):=rfl;have HD1:Hid ((⟨#[116,104,105,115,40,100,111,99,44,100,105,114,41]⟩:ByteArray).size=13):=rfl;have h3:(((k:Int)+9<(t.size:Int))/\((t.extract k (k+9)).toList==[116,104,105,115,40,100,111,99,41])=false)\/(((k:Int)+9<(t.size:Int))/\((t.extract k (k+9)).toList==[116,104,105,115,40,100,111,99,41])=true)\/¬((k:Int)+9<(t.size:Int)):=by
    by_cases h:(k:Int)+9<(t.size:Int)
    ·cases e:(t.extract k (k+9)).toList==[116,104,105,115,40,100,111,99,41]
     ·exact .inl ⟨h,rfl⟩
     exact .inr (.inl ⟨h,rfl⟩)
    exact .inr (.inr h)
   have hk0:=bC k;have hk1:(k:Int)<=(t.size:Int):=by omega
   have hk2:(0:Int)<=(k:Int)+9:=by omega
   have hk3:(k:Int)+9<=(t.size:Int):=by omega
   have he1:(t.extract 0 k).size<=1200:=by rw[ByteArray.size_extract];omega
   have he2:(t.extract (k+9) t.size).size<=1200:=by rw[ByteArray.size_extract];omega
   have hetot:(t.extract 0 k).size+(t.extract (k+9) t.size).size<=1200:=by rw[ByteArray.size_extract,ByteArray.size_extract];omega
   have ZR:Hid (((((⟨#[116,121,112,101,32,100,105,114,10,111,119,110,101,114,32,61,32,116,104,105,115,40,117,115,101,114,41,10,115,101,101,32,61,32,116,104,105,115,40,117,115,101,114,41,10]⟩:ByteArray)++t.extract 0 k)++(⟨#[116,104,105,115,40,100,111,99,44,100,105,114,41]⟩:ByteArray))++t.extract (k+9) t.size).size<=2000):=by show _<=_;simp only[Vv,HD0.out,HD1.out];omega
   have HPX:Hid (Pre ((((⟨#[116,121,112,101,32,100,105,114,10,111,119,110,101,114,32,61,32,116,104,105,115,40,117,115,101,114,41,10,115,101,101,32,61,32,116,104,105,115,40,117,115,101,114,41,10]⟩:ByteArray)++t.extract 0 k)++(⟨#[116,104,105,115,40,100,111,99,44,100,105,114,41]⟩:ByteArray))++t.extract (k+9) t.size)):=((((FY (x:=100) (y:=105) (z:=114) (c:=111) (by rfl) (by decide) (by decide) (by decide) (by decide):Pre (⟨#[116,121,112,101,32,100,105,114,10,111,119,110,101,114,32,61,32,116,104,105,115,40,117,115,101,114,41,10,115,101,101,32,61,32,116,104,105,115,40,117,115,101,114,41,10]⟩:ByteArray)).app _).app _).app _);have HRW:Hid (∀n,Rd (wr.drewN n) R ad len cap):=fun n=>Yw.out.below (below_drewN (Vb _ _) n);have HOW:Hid (∀n,Only R w (wr.drewN n)):=fun n=>Xy.out.drewN n;rcases h3 with⟨h,hm⟩|⟨h,hm⟩|h
   ·have hm2:(!(t.extract k (k+9)).toList==[116,104,105,115,40,100,111,99,41])=true:=by rw[hm];rfl
    go_wp2;go_roundw;case rel=>exact⟨k+1,by go_num,by omega,trivial⟩
    simp[intOf]<;>omega
   ·have hm2:(!(t.extract k (k+9)).toList==[116,104,105,115,40,100,111,99,41])=false:=by rw[hm];rfl
    go_wp2_with fail;go_quiet (fail);go_wp2_with fail
    go_meet
    exact⟨_,rfl,ZR.out,HPX,HRW.out _,HOW.out _⟩
   go_wp2_with fail;go_quiet (fail);go_wp2_with fail
   go_meet
   exact⟨_,rfl,ZR.out,HPX,HRW.out _,HOW.out _⟩
  obtain⟨t2,rfl,hts2,WB,HR,HO⟩:=hcut;clear HP Yw Xy hts;have hRc:R<wc.heap.size:=HR.out.lt;go_wp2_with fail;refine(rJ t2 _ (by omega)).mono ?_;rintro e w7 ⟨Z0,hcase⟩;have HR7:=jU (HR.out.below Z0);have Y8:=aD (HO.out.below Z0);have hw7:w.heap.size<=w7.heap.size:=Y8.out.size;have hwc:w.heap.size<=wc.heap.size:=HO.out.size;obtain⟨v0,b0,rfl,Z8⟩:∃(v0:Value) (b0:Bool),e=.returned (.tuple #[v0,.bool b0])/\Hid (b0=true->∃rs:List TR,IE w w7 v0 rs):=by
   rcases hcase with⟨-,e1⟩|⟨v,rs,hd,e1,hM,htx,hok⟩
   ·exact⟨_,_,e1,fun h=>by cases h⟩
   exact⟨_,_,e1,fun _=>⟨rs,hM.lower hwc,hd,by rw[htx];exact WB.out,hok,by rw[htx];omega⟩⟩
  clear Z0 hcase HR HO WB hts2 hwc hRc
  go_upto_if 68 with fail
  go_cut [5] from 69 (fun s5 wd=>(∃rs:List TR,IE w wd s5 rs)/\Hid (Rd wd R ad len cap)/\Hid (Only R w wd))
  case first =>
   cases b0;case true=>
    have HV:=jU (Z8.out rfl);go_wp2_with fail
    go_meet
    exact⟨HV.out,HR7,Y8⟩
   go_wp2_with fail;refine(rJ lastT _ (by decide)).mono ?_;rintro e w8 ⟨hb8,hcase⟩;have HR8:=jU (HR7.out.below hb8);have HO8:=aD (Y8.out.below hb8);rcases hcase with⟨hno,e1⟩|⟨v,rs,hd,e1,hM,htx,hok⟩
   ·exact absurd (hno H7 J8) (by rw[J9];decide)
   subst e1;have HV:Hid (∃rs:List TR,IE w w8 v rs):=⟨rs,hM.lower hw7,hd,by rw[htx];exact FY (x:=100) (y:=111) (z:=99) (c:=118) (by rfl) (by decide) (by decide) (by decide) (by decide),hok,by rw[htx];decide⟩;clear hb8 hd hM htx hok;go_wp2_with fail
   go_meet
   exact⟨HV.out,HR8,HO8⟩
  obtain⟨⟨rs,hSR⟩,HR,HO⟩:=hcut;have HSR:=jU hSR;clear hSR Z8 HR7 Y8 hw7;go_wp2_with fail;refine(gu R ad len cap 40 _ HR.out (by omega) (by omega)).mono ?_;rintro e w9 ⟨⟨x,rfl,hx⟩,hR9,hO9⟩;have HR9:=jU hR9;have Zp:Hid (Only R w w9):=HO.out.trans hO9;have HS9:=jU (HSR.out.only YU hO9);clear hR9 hO9 HR HO HSR;obtain⟨t,ts,q,qs,y,ys,hrs,hq,hy⟩:=Ng HS9.out.2.1 HS9.out.2.2.1;subst hrs;obtain⟨b,cp,hu5⟩:∃b cp,u5=.slice (some ⟨b,0,none⟩) (ts.length+1) cp:=fM HS9.out.1.own;subst hu5;have HM9:=jU HS9.out.1;have HG:=jU HS9.out.good.1;have HQ:=jU hq;have HYY:=jU hy;have hbw:w.heap.size<=b:=(HM9.out.own.lt b rfl).1;have hbl:b<w9.heap.size:=(HM9.out.own.lt b rfl).2;have hts0:(0:Int)<(ts.length:Int)+1:=by omega
  have FAR:Hid (∀g,w.heap.size<=g->0<len->∀b off,ad=some ⟨b,off,none⟩->b≠g):=fun g hg h0 b off e=>by
   obtain⟨b',off',e',-,hb',-⟩:=H.out.bytes h0;rw[e]at e';injection e' with e';injection e' with e1 e2;omega
  have hc0:w9.cell? ⟨b,0,none⟩=some (.string t.name):=(HM9.out.own.cellAt 0 (by omega)).trans (by simp[TR.cells]);have hc1:w9.cell? ⟨b,1,none⟩=some (.slice t.ad t.rows.length t.cap):=(HM9.out.own.cellAt 1 (by omega)).trans (by simp[TR.cells,TR.vs]);have hf0:w9.frozen? ⟨b,0,none⟩=false:=HM9.out.own.frozenAt 0;clear HS9 hq hy;by_cases h39:x=39
  ·have h39b:((x:Int)==39)=true:=by simp;omega
   have Xc:Hid (Un R ad len cap w (.returned (.slice (some ⟨b,0,none⟩) (ts.length+1) cp)) (w9.setCell ⟨b,0,none⟩ (.string ⟨#[122,111,111]⟩))):=⟨_,_,rfl,iZ.named ⟨#[122,111,111]⟩ HM9.out rfl,KH HG.out,HR9.out.setFar (by omega) (FAR.out b hbw),Zp.out.setNew hbw⟩;go_wp2;go_ret;exact Xc.out
  have h39b:((x:Int)==39)=false:=by simp;omega
  by_cases h38:x=38
  ·have h38b:((x:Int)==38)=true:=by simp;omega
   subst h38;have hkt:=HM9.out.kid t (by simp);have hR9:Cx w9 w.heap.size t.vs (q::qs):=by have:=hkt;unfold kT at this;rwa [HQ.out]at this
   obtain⟨b1,c1,ht1⟩:∃b1 c1,t.vs=.slice (some ⟨b1,0,none⟩) (qs.length+1) c1:=fM hR9.own;have hkq:=hR9.kid q (by simp);have hN9:NodM w9 w.heap.size q.vs (y::ys):=by have:=hkq;unfold kR at this;rwa [HYY.out]at this
   obtain⟨b2,c2,hq2⟩:∃b2 c2,q.vs=.slice (some ⟨b2,0,none⟩) (ys.length+1) c2:=fM hN9.own;have hqad:q.ad=some ⟨b2,0,none⟩:=by unfold RR.vs at hq2;injection hq2
   rw[ht1]at hR9;rw[hq2]at hN9;have hv1:Value.slice t.ad t.rows.length t.cap=.slice (some ⟨b1,0,none⟩) (qs.length+1) c1:=ht1;rw[hv1]at hc1;have hd1:w9.cell? ⟨b1,1,none⟩=some (.slice (some ⟨b2,0,none⟩) (ys.length+1) c2):=(hR9.own.cellAt 1 (by omega)).trans (by simp[RR.cells,hq2]);have hk0:w9.cell? ⟨b2,0,none⟩=some (.int .i64 y.e.kind):=(hN9.own.cellAt 0 (by omega)).trans (by simp[jW,ER.row]);have hk1:w9.frozen? ⟨b2,0,none⟩=false:=hN9.own.frozenAt 0;have l1:=hR9.own.lt b1 rfl;have l2:=hN9.own.lt b2 rfl;have hqs0:(0:Int)<(qs.length:Int)+1:=by omega
   have hys0:(0:Int)<(ys.length:Int)+1:=by omega
   have HQAD:=jU hqad;clear hkt hkq hR9 hN9 ht1 hq2 hqad hv1 hc0 hf0;go_wp2_with fail;refine mG 11 (fun n=>(u82::u83::u84::u85::u86::u87::u88::u89::u90::u91::u92::u93::[]).getD n undef) (fun fq=>{ tmps:=List.toArray (Value.pointer (some ⟨R,0,none⟩)::undef::.slice none 0 0::.string t2::u4::.slice (some ⟨b,0,none⟩) (ts.length+1) cp::.bool b0::f 0::f 1::f 2::f 3::f 4::f 5::f 6::f 7::f 8::f 9::f 10::f 11::f 12::.string t1::.pointer (some ⟨R,0,none⟩)::.bool q1::u23::u24::u25::u26::u27::u28::u29::u30::u31::u32::u33::u34::.pointer (some ⟨R,0,none⟩)::.bool q2::u37::u38::u39::u40::u41::u42::u43::u44::u45::u46::u47::u48::u49::u50::u51::u52::u53::u54::u55::u56::u57::u58::u59::u60::u61::.tuple #[v0,.bool b0]::.string t2::.tuple #[v0,.bool b0]::v0::.bool b0::.bool b0::(Value.bool (!b0))::u69::u70::u71::u72::.pointer (some ⟨R,0,none⟩)::.int .i64 38::.bool false::.bool false::u77::u78::u79::.bool true::.bool true::fq 0::fq 1::fq 2::fq 3::fq 4::fq 5::fq 6::fq 7::fq 8::fq 9::fq 10::u93::[]),defers:=[] }) (fun k v _=>(k=8->∃z:Int,v=.int .i64 z)/\(k≠8->v=(Value.slice (some ⟨b,0,none⟩) (ts.length+1) cp::.pointer (some ⟨b,0,none⟩)::.pointer (some ⟨b,1,none⟩)::.slice (some ⟨b1,0,none⟩) (qs.length+1) c1::.pointer (some ⟨b1,0,none⟩)::.pointer (some ⟨b1,1,none⟩)::.slice (some ⟨b2,0,none⟩) (ys.length+1) c2::.pointer (some ⟨R,0,none⟩)::undef::.pointer (some ⟨b2,0,none⟩)::.pointer (some ⟨b2,0,none⟩)::[]).getD k undef)) (fun _ w'=>Rd w' R ad len cap/\Only R w9 w') (by kernel_rfl) rfl (by kernel_rfl) (by kernel_rfl) rfl ⟨HR9.out.below ((Vb _ _).drew),(Only.refl R w9).drewN 1⟩ ?stepK ?finK;case stepK =>
    rintro i hi o ho listed fq w' - - ⟨hR',Xa⟩ hpre;have HRr:=aD hR';have HOo:=aD Xa;replace hc1:=(Xa.cell hbl (by omega)).trans hc1;replace hd1:=(Xa.cell l1.2 (by omega)).trans hd1;have HM:Hid (∀e∈o.after,Region.binds .any e=true->_):=hpre;clear hR' Xa hpre;have hc:=N9 (i:=i) (by omega);clear hi
    repeat' rcases hc with rfl|hc
    ·cases ho;refine aa rfl fun K HK=>?_;clear HM;dsimp only;go_simp;exact HK.out _ _ ⟨Value.slice (some ⟨b,0,none⟩) (ts.length+1) cp,by simp[upd],⟨HRr.out,HOo.out⟩,⟨fun h=>absurd h (by decide),fun _=>rfl⟩,fun k u _ hu=>hu⟩
    ·cases ho;have e0:fq 0=.slice (some ⟨b,0,none⟩) (ts.length+1) cp:=(HM.out ⟨0,.data⟩ (by simp) rfl).2 (by decide);refine aa rfl fun K HK=>?_;clear HM;simp only[e0];go_simp;exact HK.out _ _ ⟨Value.pointer (some ⟨b,0,none⟩),by simp[upd,e0],⟨HRr.out,HOo.out⟩,⟨fun h=>absurd h (by decide),fun _=>rfl⟩,fun k u _ hu=>hu⟩
    ·cases ho;have e1:fq 1=.pointer (some ⟨b,0,none⟩):=(HM.out ⟨1,.data⟩ (by simp) rfl).2 (by decide);refine aa rfl fun K HK=>?_;clear HM;simp only[e1];go_simp;exact HK.out _ _ ⟨Value.pointer (some ⟨b,1,none⟩),by simp[upd,e1],⟨HRr.out,HOo.out⟩,⟨fun h=>absurd h (by decide),fun _=>rfl⟩,fun k u _ hu=>hu⟩
    ·cases ho;have e2:fq 2=.pointer (some ⟨b,1,none⟩):=(HM.out ⟨2,.data⟩ (by simp) rfl).2 (by decide);refine aa rfl fun K HK=>?_;clear HM;simp only[e2];go_simp;exact HK.out _ _ ⟨Value.slice (some ⟨b1,0,none⟩) (qs.length+1) c1,by simp[upd,e2],⟨HRr.out,HOo.out⟩,⟨fun h=>absurd h (by decide),fun _=>rfl⟩,fun k u _ hu=>hu⟩
    ·cases ho;have e3:fq 3=.slice (some ⟨b1,0,none⟩) (qs.length+1) c1:=(HM.out ⟨3,.data⟩ (by simp) rfl).2 (by decide);refine aa rfl fun K HK=>?_;clear HM;simp only[e3];go_simp;exact HK.out _ _ ⟨Value.pointer (some ⟨b1,0,none⟩),by simp[upd,e3],⟨HRr.out,HOo.out⟩,⟨fun h=>absurd h (by decide),fun _=>rfl⟩,fun k u _ hu=>hu⟩
    ·cases ho;have e4:fq 4=.pointer (some ⟨b1,0,none⟩):=(HM.out ⟨4,.data⟩ (by simp) rfl).2 (by decide);refine aa rfl fun K HK=>?_;clear HM;simp only[e4];go_simp;exact HK.out _ _ ⟨Value.pointer (some ⟨b1,1,none⟩),by simp[upd,e4],⟨HRr.out,HOo.out⟩,⟨fun h=>absurd h (by decide),fun _=>rfl⟩,fun k u _ hu=>hu⟩
    ·cases ho;have e5:fq 5=.pointer (some ⟨b1,1,none⟩):=(HM.out ⟨5,.data⟩ (by simp) rfl).2 (by decide);refine aa rfl fun K HK=>?_;clear HM;simp only[e5];go_simp;exact HK.out _ _ ⟨Value.slice (some ⟨b2,0,none⟩) (ys.length+1) c2,by simp[upd,e5],⟨HRr.out,HOo.out⟩,⟨fun h=>absurd h (by decide),fun _=>rfl⟩,fun k u _ hu=>hu⟩
    ·cases ho;refine aa rfl fun K HK=>?_;clear HM;dsimp only;go_simp;exact HK.out _ _ ⟨Value.pointer (some ⟨R,0,none⟩),by simp[upd],⟨HRr.out,HOo.out⟩,⟨fun h=>absurd h (by decide),fun _=>rfl⟩,fun k u _ hu=>hu⟩
    ·cases ho;have e7:fq 7=.pointer (some ⟨R,0,none⟩):=(HM.out ⟨7,.data⟩ (by simp) rfl).2 (by decide);refine aa rfl fun K HK=>?_;clear HM;simp only[e7];go_simp;refine(Ry R ad len cap _ HRr.out).mono ?_;rintro e w10 ⟨⟨z,rfl⟩,hR10,Y0⟩;have HR10:=jU hR10;have Y3:=jU Y0;clear hR10 Y0;go_wp2_with fail;exact HK.out _ _ ⟨.int .i64 z,by simp[upd,e7],⟨HR10.out,HOo.out.trans Y3.out⟩,⟨fun _=>⟨z,rfl⟩,fun h=>absurd rfl h⟩,fun k u _ hu=>hu⟩
    ·cases ho;have e6:fq 6=.slice (some ⟨b2,0,none⟩) (ys.length+1) c2:=(HM.out ⟨6,.data⟩ (by simp) rfl).2 (by decide);refine aa rfl fun K HK=>?_;clear HM;simp only[e6];go_simp;exact HK.out _ _ ⟨Value.pointer (some ⟨b2,0,none⟩),by simp[upd,e6],⟨HRr.out,HOo.out⟩,⟨fun h=>absurd h (by decide),fun _=>rfl⟩,fun k u _ hu=>hu⟩
    cases ho;have e9:fq 9=.pointer (some ⟨b2,0,none⟩):=(HM.out ⟨9,.data⟩ (by simp) rfl).2 (by decide);refine aa rfl fun K HK=>?_;clear HM;simp only[e9];go_simp;exact HK.out _ _ ⟨Value.pointer (some ⟨b2,0,none⟩),by simp[upd,e9],⟨HRr.out,HOo.out⟩,⟨fun h=>absurd h (by decide),fun _=>rfl⟩,fun k u _ hu=>hu⟩
   case finK =>
    rintro o ho listed fq w' ⟨hR',Xa⟩ hall;have HRr:=aD hR';have HOo:Hid (Only R w w'):=Zp.out.trans Xa;obtain⟨z,ez⟩:=(hall 8 (by omega)).1 rfl;replace ez:fq 8=_:=ez;have e10:fq 10=.pointer (some ⟨b2,0,none⟩):=(hall 10 (by omega)).2 (by omega);replace hk0:=(Xa.cell l2.2 (by omega)).trans hk0;replace hk1:=(Xa.frozen (o:=0) l2.2 (by omega)).trans hk1;have hM':iZ w' w.heap.size (.slice (some ⟨b,0,none⟩) (ts.length+1) cp) (t::ts):=HM9.out.heap nk Xa.size fun g hg=>Xa.block g (HM9.out.lt nk hg).2 (fun e=>by injection e with e;have:=(HM9.out.lt nk hg).1;omega);have Xc:Hid (Un R ad len cap w (.returned (.slice (some ⟨b,0,none⟩) (ts.length+1) cp)) (w'.setCell ⟨b2,0,none⟩ (.int .i64 z))):=⟨_,_,rfl,iZ.kind z hM' HQ.out HYY.out HQAD.out,NP z HG.out HQ.out HYY.out,HRr.out.setFar (by omega) (FAR.out b2 l2.1),HOo.out.setNew l2.1⟩;cases ho;clear hall hR' Xa hM';refine aa rfl fun K HK=>?_;simp only[ez,e10];go_simp;refine HK.out _ _ ?_;clear HK;go_wp2;go_ret;exact Xc.out
  have h38b:((x:Int)==38)=false:=by simp;omega
  go_wp2;go_ret;exact⟨_,_,rfl,HM9.out,HG.out,HR9.out,Zp.out⟩
open Maps Go.Shelf Go.Sort
theorem rM(f:Fc)(w:af):
  Calls prog 107 #[.agg #[.string f.a,.string f.b,.string f.r,.string f.c,.string f.d]] w fun e w'=>e=.returned (.agg #[.string f.a,.string f.b,.string f.r,.string f.c,.string f.d,.string ⟨#[]⟩])/\BelowD w.heap.size w w':=by
 go_enter func107,ntmps107;go_wp2;exact bodyPost_ret (v:=.agg #[.string f.a,.string f.b,.string f.r,.string f.c,.string f.d,.string ⟨#[]⟩]) (by simp[results,Tryz.results107,go_sem, *]) rfl ⟨rfl,⟨by
  repeat(first|exact Vb _ _|refine Below.setCell ?_ (by first|(simp;done)|(simp;omega)) _|refine Below.alloc ?_ (by first|(simp;done)|(simp;omega)) _),Va _⟩⟩
def SE(x y:Fc):Int:=Je x.a x.b x.r x.c x.d ⟨#[]⟩ y.a y.b y.r y.c y.d ⟨#[]⟩
theorem SF{w W w':af}{n m:Nat}{x0 x1 x2 x3 x4 y0 y1 y2 y3 y4:Value}(h:W.cell? ⟨n,0,none⟩=some x0/\W.cell? ⟨n,1,none⟩=some x1/\W.cell? ⟨n,2,none⟩=some x2/\W.cell? ⟨n,3,none⟩=some x3/\W.cell? ⟨n,4,none⟩=some x4/\W.cell? ⟨m,0,none⟩=some y0/\W.cell? ⟨m,1,none⟩=some y1/\W.cell? ⟨m,2,none⟩=some y2/\W.cell? ⟨m,3,none⟩=some y3/\W.cell? ⟨m,4,none⟩=some y4/\BelowD w.heap.size w W)(hb:BelowD W.heap.size W w'):w'.cell? ⟨n,0,none⟩=some x0/\w'.cell? ⟨n,1,none⟩=some x1/\w'.cell? ⟨n,2,none⟩=some x2/\w'.cell? ⟨n,3,none⟩=some x3/\w'.cell? ⟨n,4,none⟩=some x4/\w'.cell? ⟨m,0,none⟩=some y0/\w'.cell? ⟨m,1,none⟩=some y1/\w'.cell? ⟨m,2,none⟩=some y2/\w'.cell? ⟨m,3,none⟩=some y3/\w'.cell? ⟨m,4,none⟩=some y4/\BelowD w.heap.size w w':=by
 obtain⟨h0,h1,h2,h3,h4,g0,g1,g2,g3,g4,hB⟩:=h;exact⟨aI hb.b (aC h0) h0,aI hb.b (aC h1) h1,aI hb.b (aC h2) h2,aI hb.b (aC h3) h3,aI hb.b (aC h4) h4,aI hb.b (aC g0) g0,aI hb.b (aC g1) g1,aI hb.b (aC g2) g2,aI hb.b (aC g3) g3,aI hb.b (aC g4) g4,hB.trans (hb.mono hB.size)⟩
theorem xZ(x y:Fc)(w:af)(hx:x.fits)(hy:y.fits):
  Calls prog 61 #[.agg #[.string x.a,.string x.b,.string x.r,.string x.c,.string x.d],.agg #[.string y.a,.string y.b,.string y.r,.string y.c,.string y.d]] w fun e w'=>e=.returned (.int .i64 (SE x y))/\BelowD w.heap.size w w':=by
 have he0:(⟨#[]⟩:ByteArray).size<=maxLen:=by decide
 obtain⟨x0,x1,x2,x3,x4⟩:=hx;obtain⟨y0,y1,y2,y3,y4⟩:=hy;obtain⟨W0,hW0⟩:∃W0,W0=(w.alloc (.cells #[.string x.a,.string x.b,.string x.r,.string x.c,.string x.d] 29)).alloc (.cells #[.string y.a,.string y.b,.string y.r,.string y.c,.string y.d] 29):=⟨_,rfl⟩;have HB0:BelowD w.heap.size w W0:=by rw[hW0];exact Ll _ _ _
 have c0:W0.cell? ⟨w.heap.size,0,none⟩=some (.string x.a):=by rw[hW0];simp
 have c1:W0.cell? ⟨w.heap.size,1,none⟩=some (.string x.b):=by rw[hW0];simp
 have c2:W0.cell? ⟨w.heap.size,2,none⟩=some (.string x.r):=by rw[hW0];simp
 have c3:W0.cell? ⟨w.heap.size,3,none⟩=some (.string x.c):=by rw[hW0];simp
 have c4:W0.cell? ⟨w.heap.size,4,none⟩=some (.string x.d):=by rw[hW0];simp
 have e0:W0.cell? ⟨w.heap.size+1,0,none⟩=some (.string y.a):=by rw[hW0];simp
 have e1:W0.cell? ⟨w.heap.size+1,1,none⟩=some (.string y.b):=by rw[hW0];simp
 have e2:W0.cell? ⟨w.heap.size+1,2,none⟩=some (.string y.r):=by rw[hW0];simp
 have e3:W0.cell? ⟨w.heap.size+1,3,none⟩=some (.string y.c):=by rw[hW0];simp
 have e4:W0.cell? ⟨w.heap.size+1,4,none⟩=some (.string y.d):=by rw[hW0];simp
 unfold SE;go_enter func61,ntmps61;go_wp2_with fail;rw[<-hW0];clear hW0
 go_region_held3 (fun w'=>w'.cell? ⟨w.heap.size,0,none⟩=some (.string x.a)/\w'.cell? ⟨w.heap.size,1,none⟩=some (.string x.b)/\w'.cell? ⟨w.heap.size,2,none⟩=some (.string x.r)/\w'.cell? ⟨w.heap.size,3,none⟩=some (.string x.c)/\w'.cell? ⟨w.heap.size,4,none⟩=some (.string x.d)/\w'.cell? ⟨w.heap.size+1,0,none⟩=some (.string y.a)/\w'.cell? ⟨w.heap.size+1,1,none⟩=some (.string y.b)/\w'.cell? ⟨w.heap.size+1,2,none⟩=some (.string y.r)/\w'.cell? ⟨w.heap.size+1,3,none⟩=some (.string y.c)/\w'.cell? ⟨w.heap.size+1,4,none⟩=some (.string y.d)/\BelowD w.heap.size w w')
  (first|assumption|exact SF (by assumption) hbx|exact⟨c0,c1,c2,c3,c4,e0,e1,e2,e3,e4,HB0.drew⟩)
  (first|(go_at_call_of 107 (Value.agg #[.string x.a,.string x.b,.string x.r,.string x.c,.string x.d]);refine(rM x _).mono ?_;rintro e w' ⟨rfl,hbx⟩)|(go_at_call_of 107 (Value.agg #[.string y.a,.string y.b,.string y.r,.string y.c,.string y.d]);refine(rM y _).mono ?_;rintro e w' ⟨rfl,hbx⟩)|(go_at_call 106;refine(uF x.a x.b x.r x.c x.d ⟨#[]⟩ y.a y.b y.r y.c y.d ⟨#[]⟩ _ x0 x1 x2 x3 x4 he0 y0 y1 y2 y3 y4 he0).mono ?_;rintro e w' ⟨rfl,hbx⟩))
 all_goals(rename_i hJ;obtain⟨-,-,-,-,-,-,-,-,-,-,gB⟩:=hJ;clear c0 c1 c2 c3 c4 e0 e1 e2 e3 e4;go_wp2;go_ret;exact⟨rfl,gB⟩)
abbrev LA:={ f:Fc // f.fits }
def oN(x:LA):List Value:=x.1.row
def U3(x y:LA):Int:=SE x.1 y.1
def SG(x:Fc):List UInt8:=(bi x.a x.b x.r x.c x.d ⟨#[]⟩).toList
def Tq(x y:LA):Bool:=Op.bytesLess (SG x.1) (SG y.1)
theorem QW:ltOf U3=Tq:=by
 funext x y
 unfold ltOf U3 Tq SE Je SG;rw[vG,Go.ByteArray.toList_eq,Go.ByteArray.toList_eq]
theorem SH:Go.Sort.SWO Tq where
 irrefl x:=Ls.lt_irrefl _
 trans x y z h k:=Ls.lt_trans _ _ _ h k
 ntrans x y z h k:=by
  cases e:Tq x z;case false=>rfl
  by_cases e1:SG y.1=SG x.1
  ·unfold Tq at *;rw[e1]at k;rw[k]at e;cases e
  rcases Ls.lt_total _ _ e1 with h1|h1
  ·have:Tq y z=true:=Ls.lt_trans _ _ _ h1 e;rw[k]at this;cases this
  have h:Tq x y=false:=h;have h1:Tq x y=true:=h1;rw[h]at h1;cases h1
theorem QX[Inhabited LA](blk off size:Nat)(w:af):CmpLays prog 61 #[] oN 5 U3 blk off size w:=fun m os dk _ x y =>
 (xZ x.1 y.1 _ x.2 y.2).mono fun e w' ⟨he,hb⟩=>⟨he,hb.grew⟩
def lH(xs:List LA):List Fc:=xs.map (·.1)
theorem ma(xs:List LA):(lH xs).length=xs.length:=by simp[lH]
theorem NQ[Inhabited LA](w:af)(blk off n:Nat)(d:Array LA)(os:Array Obj):Chg (fun g=>g=blk) w (sortWorldK oN 5 w blk off n d os):=by
 refine⟨⟨rfl,rfl,rfl,?_,fun k hk=>absurd hk (V5 _)⟩,fun k hk hne=>?_,fun g hg hf j=>?_⟩
 ·simp[sortWorldK,grow,putRowK,Sort.ahead]
 ·simp only[sortWorldK,putRowK];rw[heap_grow_old _ _ (by simpa[Sort.ahead] using hk)];have hne:blk≠k:=fun e=>hne e.symm;simp[putRow,mapBlock,Sort.ahead,Array.getElem?_modify,hne]
 simp only[sortWorldK,putRowK];rw[frozen?_grow _ _ _ (by simpa[Sort.ahead] using hg),frozen?_putRow,frozen?_ahead];exact hf j
theorem LB[Inhabited LA]{w:af}{base g cap:Nat}{xs:List LA}(h:w.ownsRow base 29 5 (.slice (some ⟨g,0,none⟩) xs.length cap) xs.length (av (lH xs))):HoldsK oN 5 w g 0 xs.toArray:=by
 intro t ht;rw[size_flatK]at ht;have ht':t<xs.length*5:=by simpa using ht
 have hi:t / 5<xs.length:=by omega
 have hr:t%5<5:=Nat.mod_lt _ (by omega);refine⟨?_,by rw[VC];exact h.frozenAt t⟩;rw[VC,h.cellAt t ht',get_flatK _ _ _ _ ht];have e:t=t / 5*5+t%5:=by omega
 have h1:=ry (lH xs) (t / 5) (by rw[ma];exact hi) (t%5) hr;rw[<-e]at h1;rw[h1];have h2:(xs.toArray)[t / 5]! = xs[t / 5]:=by rw[getElem!_pos xs.toArray _ (by simpa using hi)];simp
 rw[h2];have h3:(lH xs)[t / 5]'(by rw[ma];exact hi)=xs[t / 5].1:=by simp[lH]
 rw[h3];have hl:t%5<(Fc.row xs[t / 5].1).length:=hr;show _=some ((Fc.row xs[t / 5].1)[t%5]!);rw[Vg hl,getElem!_pos (Fc.row xs[t / 5].1) (t%5) hl]
theorem UX[Inhabited LA]{w:af}{base g n cap:Nat}{xs ys:List LA}(h0:w.ownsRow base 29 5 (.slice (some ⟨g,0,none⟩) n cap) n (av (lH xs)))(hx:xs.length=n)(hl:ys.length=n)(m:Nat)(os:Array Obj):(sortWorldK oN 5 w g 0 m ys.toArray os).ownsRow base 29 5 (.slice (some ⟨g,0,none⟩) n cap) n (av (lH ys)):=by
 subst hx;have hg:=(h0.lt g rfl).2;have hH:=holdsK_sortWorldK_c oN 5 w g 0 xs.toArray ys.toArray m os (LB h0) hg (by simpa using hl);have hlen:(av (lH ys)).length=xs.length*5:=by rw[jB,ma,hl]
 refine⟨hlen,.inr ?_⟩;rcases h0.2 with⟨e,-⟩|⟨g',cap',cur,e,h1,h2,h3,h4,h5,-⟩
 ·cases e
 injection e with e1 e2 e3;injection e1 with e1;injection e1 with e1;subst e1;subst e3;have hb:(sortWorldK oN 5 w g 0 m ys.toArray os).heap[g]?=some (.cells (putCells id 0 (flatK oN 5 ys.toArray) cur) 29 (0,0)):=by
  simp only[sortWorldK,putRowK];rw[heap_grow_old _ _ (by simpa[Sort.ahead] using hg)];simp[putRow,mapBlock,Sort.ahead,Array.getElem?_modify,h2,onCells]
 refine⟨g,cap,_,rfl,h1,hb,h3,h4,by simp only[putCells,Array.size_mapIdx];exact h5,?_⟩;refine List.ext_getElem? fun j=>?_;by_cases hj:j<xs.length*5
 ·rw[List.getElem?_take_of_lt hj];have hi:j / 5<ys.length:=by omega
  have h6:=(hH j (by rw[size_flatK];simpa[hl] using hj)).1;rw[VC,get_flatK _ _ _ _ (by simpa[hl] using hj)]at h6;replace h6:(sortWorldK oN 5 w g 0 m ys.toArray os).cell? ⟨g,j,none⟩=some ((oN (ys.toArray)[j / 5]!)[j%5]!):=h6;have h7:(putCells id 0 (flatK oN 5 ys.toArray) cur).toList[j]?=some ((oN (ys.toArray)[j / 5]!)[j%5]!):=by
   rw[<-h6];simp[World.cell?,hb]
  rw[h7];have e:j=j / 5*5+j%5:=by omega
  have h8:=ry (lH ys) (j / 5) (by rw[ma];exact hi) (j%5) (Nat.mod_lt _ (by omega));rw[<-e]at h8;rw[h8];have h9:(ys.toArray)[j / 5]! = ys[j / 5]:=by rw[getElem!_pos ys.toArray _ (by simpa using hi)];simp
  have h10:(lH ys)[j / 5]'(by rw[ma];exact hi)=ys[j / 5].1:=by simp[lH]
  rw[h9,h10];have hl2:j%5<(Fc.row ys[j / 5].1).length:=Nat.mod_lt _ (by omega);show some ((Fc.row ys[j / 5].1)[j%5]!)=_;rw[Vg hl2,getElem!_pos (Fc.row ys[j / 5].1) (j%5) hl2]
 rw[List.getElem?_eq_none (by rw[Vz];omega),List.getElem?_eq_none (by omega)]
theorem NR(base g cap:Nat)(fs:Q04)(w:af)(hf:∀f∈fs,f.fits)(hR:w.ownsRow base 29 5 (.slice (some ⟨g,0,none⟩) fs.length cap) fs.length (av fs))(hne:fs≠[])(h6:fs.length<=200000):
  Calls prog 60 #[.slice (some ⟨g,0,none⟩) fs.length cap,.func (.func 61) #[] #[]] w fun e w'=>e=.returned (.tuple #[])/\∃ys:List Fc,ys.Perm fs/\ys.Pairwise (fun x y=>Op.bytesLess (SG y) (SG x)=false)/\w'.ownsRow base 29 5 (.slice (some ⟨g,0,none⟩) fs.length cap) fs.length (av ys)/\Chg (fun k=>k=g) w w':=by
 obtain⟨xs,hxs⟩:∃xs:List LA,lH xs=fs:=⟨fs.attach.map fun x=>⟨x.1,hf x.1 x.2⟩,by unfold lH;rw[List.map_map];simp[Function.comp_def]⟩;subst hxs;rw[ma]at hR h6 ⊢;cases xs with
 | nil=>exact absurd rfl hne
 | cons x0 xs0 =>
  letI:Inhabited LA:=⟨x0⟩
  have hg:=hR.lt g rfl;have eg:∀args w,(callFunc 61 args).run prog w=.ok (.enter 61 args) w:=enters_of func61 (by kernel_rfl) rfl;have hs:=AnyQ.slices_SortFunc Tryz.sortF 5 Tryz.isAgg29 Tryz.sizeOf29 oN (fun _=>rfl) (fun x v hv=>by simp[oN,Fc.row]at hv;rcases hv with rfl|rfl|rfl|rfl|rfl<;>rfl) U3 (by rw[QW];exact SH) 61 #[] g 0 cap (x0::xs0).toArray w eg (QX g 0 _ w) (LB hR) hg.2 (by simp at h6⊢;omega)
  change Calls prog 60 _ _ _ at hs
  rw[QW]at hs;refine hs.mono fun e w' ⟨he,d',n,os,hp,hso,hw⟩=>⟨he,lH d'.toList,?_,?_,?_,?_⟩
  ·have:=hp.2.2;have h2:d'.toList.Perm (x0::xs0):=by simpa[Array.extract_eq_self_of_le,hp.1] using this
   exact h2.map _
  ·have hz:d'.size=xs0.length+1:=by simpa using hp.1
   unfold lH;rw[List.pairwise_map,List.pairwise_iff_getElem];intro i j hi hj hij;have hi2:i<d'.size:=by simpa using hi
   have hj2:j<d'.size:=by simpa using hj
   have hlt:=hso i j (Vf _) hij (by rw[hz]at hj2;simpa using hj2);rw[getElem!_pos d' j hj2,getElem!_pos d' i hi2]at hlt;exact hlt
  ·rw[hw];have hz:d'.toList.length=(x0::xs0).length:=by simpa using hp.1
   have:=UX hR rfl hz n os;simpa using this
  rw[hw];exact NQ w g 0 n d' os
theorem IG(p:Q02)(cap:Nat)(fv:Value)(w:af):
  Calls prog 149 #[.slice p 0 cap,.int .i64 0,.int .i64 0,fv] w fun e w'=>e=.returned (.tuple #[])/\w'=w:=by
 go_enter func149,ntmps149;go_wp2_with fail;go_loopw[8] (fun i wr=>i=.int .i64 1/\wr=w) (fun _ _=>0);case atStart=>exact⟨rfl,rfl⟩
 obtain⟨rfl,rfl⟩:=hrel;go_wp2
 go_end0
 exact⟨rfl,rfl⟩
theorem QY(p:Q02)(cap:Nat)(lim:Int)(fv:Value)(w:af):
  Calls prog 104 #[.slice p 0 cap,.int .i64 0,.int .i64 0,.int .i64 lim,fv] w fun e w'=>e=.returned (.tuple #[])/\w'=w:=by
 go_enter func104,ntmps104;go_wp2_with fail;go_loopw[1,2] (fun a b wr=>a=.int .i64 0/\b=.int .i64 0/\wr=w) (fun _ _ _=>0);case atStart=>exact⟨rfl,rfl,rfl⟩
 obtain⟨rfl,rfl,rfl⟩:=hrel;go_wp2_with fail;refine(IG p cap fv _).mono ?_;rintro e w1 ⟨rfl,rfl⟩;go_wp2;refine bodyPost_ret (results_none rfl _ _ _) rfl ?_;exact⟨rfl,rfl⟩
theorem NS(p:Q02)(cap:Nat)(fv:Value)(w:af):
  Calls prog 60 #[.slice p 0 cap,fv] w fun e w'=>e=.returned (.tuple #[])/\w'=w:=by
 go_enter func60,ntmps60;go_wp2_with fail;refine(Tryz.bits_Len 0 _ (by omega) (by omega)).mono ?_;rintro e w1 ⟨rfl,rfl⟩;go_wp2_with fail;refine(QY p cap _ fv _).mono ?_;rintro e w1 ⟨rfl,rfl⟩;go_wp2
 go_end0
 exact⟨rfl,rfl⟩
theorem gG{w w':af}{base:Nat}{e:TypeId}{size:Nat}{v:Value}{n:Nat}{xs:Q03}(h:w.ownsRow base e size v n xs)(hh:∀g,v.ownBlock=some g->w'.heap[g]?=w.heap[g]?):w'.ownsRow base e size v n xs:=by
 refine⟨h.1,?_⟩;rcases h.2 with hl|⟨g,cap,cur,rfl,h1,h2,h3⟩
 ·exact .inl hl
 exact .inr ⟨g,cap,cur,rfl,h1,(hh g rfl).trans h2,h3⟩
theorem p8{w:af}{base size n:Nat}{e:TypeId}{v:Value}{xs:Q03}(h:w.ownsRow base e size v n xs):∃ad cap,v=.slice ad n cap:=by
 rcases h.2 with⟨rfl,h0⟩|⟨g,cap,cur,rfl,-⟩
 ·exact⟨none,0,by rw[h0]⟩
 exact⟨_,_,rfl⟩
theorem sM{w:af}{base size n cap:Nat}{e:TypeId}{ad:Q02}{xs:Q03}(h:w.ownsRow base e size (.slice ad n cap) n xs)(hn:n≠0):∃g,ad=some ⟨g,0,none⟩/\(Value.slice ad n cap).ownBlock=some g:=by
 rcases h.2 with⟨-,h0⟩|⟨g,cap',cur,e1,-⟩
 ·exact absurd h0 hn
 injection e1 with e1;exact⟨g,e1,by rw[e1];rfl⟩
theorem mg{w:af}{base base' size n:Nat}{e:TypeId}{v:Value}{xs:Q03}(h:w.ownsRow base e size v n xs)(hb:base'<=base):w.ownsRow base' e size v n xs:=by
 refine⟨h.1,?_⟩;rcases h.2 with hl|⟨g,cap,cur,e,h1,h2⟩
 ·exact .inl hl
 exact .inr ⟨g,cap,cur,e,Vj hb h1,h2⟩
theorem sN{w:af}{base size n cap:Nat}{e:TypeId}{ad:Q02}{xs:Q03}(h:w.ownsRow base e size (.slice ad n cap) n xs):n<=cap:=by
 rcases h.2 with⟨e1,h0⟩|⟨g,cap',cur,e1,-,-,hnc,-⟩
 ·injection e1 with _ e2 e3;omega
 injection e1 with _ e2 e3;omega
theorem KJ(xs:Q04):∀p,av (xs.take p)=(av xs).take (p*5):=by
 induction xs with
 | nil=>intro p;simp[av]
 | cons x xs ih =>
  intro p;cases p with
  | zero=>simp[av]
  | succ p =>
   have ih:=ih p;unfold av at ih⊢;rw[List.take_succ_cons,VJ,VJ,ih,show(p+1)*5=p*5+1+1+1+1+1 by omega];simp[Fc.row]
theorem KM(xs:Q04):∀p,av (xs.drop p)=(av xs).drop (p*5):=by
 induction xs with
 | nil=>intro p;simp[av]
 | cons x xs ih =>
  intro p;cases p with
  | zero=>simp[av]
  | succ p =>
   have ih:=ih p;unfold av at ih⊢;rw[List.drop_succ_cons,VJ,ih,show(p+1)*5=p*5+1+1+1+1+1 by omega];simp[Fc.row]
theorem uL{w:af}{base g n cap:Nat}{xs:Q04}(h:w.ownsRow base 29 5 (.slice (some ⟨g,0,none⟩) n cap) n (av xs))(p:Nat)(hp:p<=n):∀j u,(av (xs.take p))[j]?=some u->w.cell? ((⟨g,0,none⟩:Addr).add j)=some u:=fun j u hu=>by
 rw[KJ,List.getElem?_take]at hu;split at hu
 ·rename_i hj;have:=h.cellAt j (by omega);rw[hu]at this;have e:(⟨g,0,none⟩:Addr).add j=⟨g,j,none⟩:=by unfold Addr.add;split<;>simp_all
  rw[e];exact this
 cases hu
theorem Ck{w:af}{base g n cap:Nat}{xs:Q04}(h:w.ownsRow base 29 5 (.slice (some ⟨g,0,none⟩) n cap) n (av xs))(p:Nat)(hp:p<=n):∀j u,(av (xs.drop p))[j]?=some u->w.cell? ((⟨g,p*5,none⟩:Addr).add j)=some u:=fun j u hu=>by
 rw[KM,List.getElem?_drop]at hu;have hl:=h.1;have hj:p*5+j<n*5:=by
  rw[<-hl];exact(List.getElem?_eq_some_iff.1 hu).1
 have:=h.cellAt (p*5+j) hj;rw[hu]at this;have e:(⟨g,p*5,none⟩:Addr).add j=⟨g,p*5+j,none⟩:=by unfold Addr.add;split<;>simp_all
 rw[e];exact this
theorem oO(xs:Q04):∀u∈av xs,u.oneCell'=true:=fun u hu=>by
 obtain⟨q,-,h⟩:=Vp.1 hu;simp only[Fc.row,Vq,List.not_mem_nil,or_false]at h;rcases h with rfl|rfl|rfl|rfl|rfl<;>rfl
theorem KN{w:af}{a:Addr}{xs:Q04}(h:xs=[]):∀j u,(av xs)[j]?=some u->w.cell? (a.add j)=some u:=fun j u hu=>by
 rw[h]at hu;simp[av]at hu
def sW(x y:Fc):Bool:=gM x.a x.b x.r x.c x.d ⟨#[]⟩ y.a y.b y.r y.c y.d ⟨#[]⟩
theorem LC{w W w':af}{n m i0 i1 i2 i3 i4 j0 j1 j2 j3 j4:Nat}{x0 x1 x2 x3 x4 y0 y1 y2 y3 y4:Value}(h:W.cell? ⟨n,i0,none⟩=some x0/\W.cell? ⟨n,i1,none⟩=some x1/\W.cell? ⟨n,i2,none⟩=some x2/\W.cell? ⟨n,i3,none⟩=some x3/\W.cell? ⟨n,i4,none⟩=some x4/\W.cell? ⟨m,j0,none⟩=some y0/\W.cell? ⟨m,j1,none⟩=some y1/\W.cell? ⟨m,j2,none⟩=some y2/\W.cell? ⟨m,j3,none⟩=some y3/\W.cell? ⟨m,j4,none⟩=some y4/\ae w W)(hb:ae W w'):w'.cell? ⟨n,i0,none⟩=some x0/\w'.cell? ⟨n,i1,none⟩=some x1/\w'.cell? ⟨n,i2,none⟩=some x2/\w'.cell? ⟨n,i3,none⟩=some x3/\w'.cell? ⟨n,i4,none⟩=some x4/\w'.cell? ⟨m,j0,none⟩=some y0/\w'.cell? ⟨m,j1,none⟩=some y1/\w'.cell? ⟨m,j2,none⟩=some y2/\w'.cell? ⟨m,j3,none⟩=some y3/\w'.cell? ⟨m,j4,none⟩=some y4/\ae w w':=by
 obtain⟨h0,h1,h2,h3,h4,k0,k1,k2,k3,k4,hB⟩:=h;exact⟨aI hb (aC h0) h0,aI hb (aC h1) h1,aI hb (aC h2) h2,aI hb (aC h3) h3,aI hb (aC h4) h4,aI hb (aC k0) k0,aI hb (aC k1) k1,aI hb (aC k2) k2,aI hb (aC k3) k3,aI hb (aC k4) k4,hB.trans (hb.mono hB.size)⟩
theorem KO(ad:Q02)(cap:Nat)(rows:Q04)(w:af)(hlen:rows.length<=1048576)(hs:kw w ad rows)(hfit:∀x∈rows,x.fits):
  Calls prog 89 #[.slice ad rows.length cap] w fun e w'=>(∃v:Value,e=.returned v/\w'.ownsRow w.heap.size 29 5 v rows.length (av (nH sW rows)))/\ae w w':=by
 obtain⟨iR,hiR,zR0,zR1,zR2⟩:=pQ;have Xb:Hid (prog.info? 29=some iR/\iR.zero=some (.agg #[.string ⟨#[]⟩,.string ⟨#[]⟩,.string ⟨#[]⟩,.string ⟨#[]⟩,.string ⟨#[]⟩])/\iR.size=5/\iR.bytes=80):=⟨hiR,zR0,zR1,zR2⟩;have HS:=ai hs;have WE:=ai hfit;clear hs hfit hiR zR0 zR1 zR2;obtain⟨W0,hW0⟩:∃W0,W0=w.alloc (.cells #[] 29):=⟨_,rfl⟩;have HB0:=mi hW0;have XO:Hid (W0.ownsRow w.heap.size 29 5 (.slice (some ⟨w.heap.size,0,none⟩) 0 0) 0 []):=by
  show World.ownsRow _ _ _ _ _ _ _;rw[hW0];exact World.ownsRow_lit w #[] 0 (Va _) (by unfold maxLen;omega) (by simp)
 go_enter func89,ntmps89;go_wp2_with fail;rw[<-hW0];clear hW0;go_loopw[3,4] (fun v i wr=>∃(k g c:Nat),k<=rows.length/\i=.int .i64 k/\v=.slice (some ⟨g,0,none⟩) k c/\Hid (wr.ownsRow w.heap.size 29 5 (.slice (some ⟨g,0,none⟩) k c) k (av (nH sW (rows.take k))))/\Hid (ae w wr)) (fun _ i _=>rows.length-(intOf i).toNat);case atStart=>exact⟨0,w.heap.size,0,Vf _,rfl,rfl,XO,HB0⟩
 clear XO HB0;obtain⟨k,g,c,hk,rfl,rfl,HO,HB⟩:=hrel;by_cases hlt:k<rows.length
 ·obtain⟨acc,hacc⟩:∃acc,acc=nH sW (rows.take k):=⟨_,rfl⟩;obtain⟨b,off,Wt,hrow,hbl⟩:∃b off,ad=some ⟨b,off,none⟩/\xI w b (off+k*5) rows[k]/\b<w.heap.size:=by
   rcases HS.out with h|⟨b',off',e,hb,hr⟩
   ·rw[h]at hlt;simp at hlt
   exact⟨b',off',e,hr k hlt,hb⟩
  obtain⟨x,hx⟩:∃x,rows[k]=x:=⟨_,rfl⟩;have HNX:Hid (nH sW (rows.take (k+1))=xK sW x acc):=by show _=_;rw[Ve hlt,JE,hacc,hx]
  have hal:acc.length=k:=by rw[hacc,(mP _).length_eq,Vz];omega
  have XP:Hid x.fits:=by show Fc.fits x;rw[<-hx];exact WE.out _ (U8 hlt)
  have HAF:Hid (∀z∈acc,z.fits):=fun z hz=>by
   rw[hacc]at hz;exact WE.out z (List.mem_of_mem_take ((mP _).mem_iff.1 hz))
  rw[<-hacc]at HO;rw[hx]at hrow;have WM:=ai hal;have hkc:k<=c:=sN HO.out;have hk1:=bC k;have hk2:(k:Int)<(rows.length:Int):=by omega
  have Xt:=ai hrow;have HBL:=ai hbl;obtain⟨wo,hwo⟩:∃wo,wo=wr:=⟨_,rfl⟩;subst hwo;subst Wt;clear hacc hal hrow hbl hx;go_wp2_with fail;go_loopw[5] (fun i wr=>∃p:Nat,p<=k/\i=.int .i64 p/\Hid (∀(i:Nat) (h:i<acc.length),i<p->sW acc[i] x=true)/\Hid (ae wo wr)) (fun i _=>k-(intOf i).toNat);case atStart=>exact⟨0,Vf _,rfl,fun i h hi=>absurd hi (V5 _),Vb _ _⟩
  obtain⟨p,hp,rfl,HU,HBP⟩:=hrel;have HOP:Hid (wr.ownsRow w.heap.size 29 5 (.slice (some ⟨g,0,none⟩) k c) k (av acc)):=gG HO.out fun z hz=>HBP.out.block z (HO.out.lt z hz).2;have HBWP:Hid (ae w wr):=HB.out.trans (HBP.out.mono HB.out.size);obtain⟨y0,y1,y2,y3,y4⟩:=Xt.out.same (fun o=>HBWP.out.cell (p:=⟨b,o,none⟩) HBL.out);have hbr:b<wr.heap.size:=U9 HBL.out HBWP.out.size;have hgr:g<wr.heap.size:=(HOP.out.lt g rfl).2;have hp1:=bC p;by_cases hpk:p<k
  ·have hp2:(p:Int)<(k:Int):=by omega
   have hd:decide ((p:Int)<(k:Int))=true:=by simp;omega
   have hpa:p<acc.length:=by rw[WM.out];exact hpk
   obtain⟨y,hy⟩:∃y,acc[p]=y:=⟨_,rfl⟩;have hc5:∀c,c<5->wr.cell? ⟨g,p*5+c,none⟩=y.row[c]?:=fun c hc=>by
    rw[HOP.out.cellAt (p*5+c) (by omega),ry acc p hpa c hc,hy]
   have s0:wr.cell? ⟨g,p*5,none⟩=some (.string y.a):=hc5 0 (by omega);have s1:wr.cell? ⟨g,p*5+1,none⟩=some (.string y.b):=hc5 1 (by omega);have s2:wr.cell? ⟨g,p*5+2,none⟩=some (.string y.r):=hc5 2 (by omega);have s3:wr.cell? ⟨g,p*5+3,none⟩=some (.string y.c):=hc5 3 (by omega);have s4:wr.cell? ⟨g,p*5+4,none⟩=some (.string y.d):=hc5 4 (by omega);have hyf:y.fits:=by rw[<-hy];exact HAF.out _ (U8 hpa)
   have HC:Hid (∀W':World,Calls prog 130 #[.agg #[.string y.a,.string y.b,.string y.r,.string y.c,.string y.d],.agg #[.string x.a,.string x.b,.string x.r,.string x.c,.string x.d]] W' fun e w'=>e=.returned (.bool (sW y x))/\ae W' w'):=fun W'=>wu _ _ _ _ _ _ _ _ _ _ W' hyf.1 hyf.2.1 hyf.2.2.1 hyf.2.2.2.1 hyf.2.2.2.2 XP.out.1 XP.out.2.1 XP.out.2.2.1 XP.out.2.2.2.1 XP.out.2.2.2.2;clear hc5 hyf;have HYE:=ai hy;clear hy;have hbp:=HBP.out;cases hq:sW y x;case true=>
    have Z6:Hid (∀(i:Nat) (h:i<acc.length),i<p+1->sW acc[i] x=true):=fun i h hi=>by
     by_cases e:i=p
     ·subst e;rw[HYE.out];exact hq
     exact HU.out i h (by omega)
    rw[hq]at HC;clear hq;go_wp2_with fail
    go_region_held3 (fun w'=>w'.cell? ⟨g,p*5,none⟩=some (.string y.a)/\w'.cell? ⟨g,p*5+1,none⟩=some (.string y.b)/\w'.cell? ⟨g,p*5+2,none⟩=some (.string y.r)/\w'.cell? ⟨g,p*5+3,none⟩=some (.string y.c)/\w'.cell? ⟨g,p*5+4,none⟩=some (.string y.d)/\w'.cell? ⟨b,off+k*5,none⟩=some (.string x.a)/\w'.cell? ⟨b,off+k*5+1,none⟩=some (.string x.b)/\w'.cell? ⟨b,off+k*5+2,none⟩=some (.string x.r)/\w'.cell? ⟨b,off+k*5+3,none⟩=some (.string x.c)/\w'.cell? ⟨b,off+k*5+4,none⟩=some (.string x.d)/\ae wo w')
     (first|assumption|exact LC (by assumption) hbx|exact⟨s0,s1,s2,s3,s4,y0,y1,y2,y3,y4,hbp.drew⟩)
     (first|(go_at_call 130;refine(HC.out _).mono ?_;rintro e w' ⟨rfl,hbx⟩))
    rename_i hJ;have HJB:=ai hJ.2.2.2.2.2.2.2.2.2.2;have ZR:Hid (wr.heap.size<=w'.heap.size):=by show _<=_;exact Vj (by first|exact Va _|simp) hbx.size
    clear hJ s0 s1 s2 s3 s4 y0 y1 y2 y3 y4 hd;go_wp2;go_roundw;case rel=>exact⟨p+1,by omega,by go_num,Z6,HJB⟩
    simp[intOf]<;>omega
   have HPT:Hid (xK sW x acc=acc.take p++x::acc.drop p):=E8 (by rw[WM.out];exact hp) HU.out (fun _=>by rw[HYE.out];exact hq);rw[hq]at HC;clear hq;go_wp2_with fail
   go_region_held3 (fun w'=>w'.cell? ⟨g,p*5,none⟩=some (.string y.a)/\w'.cell? ⟨g,p*5+1,none⟩=some (.string y.b)/\w'.cell? ⟨g,p*5+2,none⟩=some (.string y.r)/\w'.cell? ⟨g,p*5+3,none⟩=some (.string y.c)/\w'.cell? ⟨g,p*5+4,none⟩=some (.string y.d)/\w'.cell? ⟨b,off+k*5,none⟩=some (.string x.a)/\w'.cell? ⟨b,off+k*5+1,none⟩=some (.string x.b)/\w'.cell? ⟨b,off+k*5+2,none⟩=some (.string x.r)/\w'.cell? ⟨b,off+k*5+3,none⟩=some (.string x.c)/\w'.cell? ⟨b,off+k*5+4,none⟩=some (.string x.d)/\ae wo w')
    (first|assumption|exact LC (by assumption) hbx|exact⟨s0,s1,s2,s3,s4,y0,y1,y2,y3,y4,hbp.drew⟩)
    (first|(go_at_call 130;refine(HC.out _).mono ?_;rintro e w' ⟨rfl,hbx⟩))
   rename_i hJ;have HJB:=ai hJ.2.2.2.2.2.2.2.2.2.2;have ZR:Hid (wr.heap.size<=w'.heap.size):=by show _<=_;exact Vj (by first|exact Va _|simp) hbx.size
   obtain⟨X,hX⟩:∃X,w'=X:=⟨_,rfl⟩;subst hX;have WT:=aD HJB;have HSX:Hid (wr.heap.size<=w'.heap.size):=by show _<=_;exact ZR.out
   clear hJ s0 s1 s2 s3 s4 hd HC HYE hbp HJB ZR;clear y0 y1 y2 y3 y4 hbr HOP HBWP HBP HU;obtain⟨W1,hW1⟩:∃W1,W1=w'.alloc (.cells #[] 29):=⟨_,rfl⟩;have WU:Hid (W1.ownsRow w'.heap.size 29 5 (.slice (some ⟨w'.heap.size,0,none⟩) 0 0) 0 []):=by
    show World.ownsRow _ _ _ _ _ _ _;rw[hW1];exact World.ownsRow_lit w' #[] 0 (Va _) (by unfold maxLen;omega) (by simp)
   have HB1:=mi hW1;have HBO1:Hid (ae wo W1):=WT.out.trans (HB1.out.mono WT.out.size);have HR1:Hid (W1.ownsRow w.heap.size 29 5 (.slice (some ⟨g,0,none⟩) k c) k (av acc)):=gG HO.out fun z hz=>HBO1.out.block z (HO.out.lt z hz).2;have hz1:w'.heap.size<=W1.heap.size:=HB1.out.size;have hgX:g<w'.heap.size:=U9 (HO.out.lt g rfl).2 WT.out.size;have hpc:p<=c:=by omega
   go_wp2_with(at_builtin;go_must (rw[<-hW1];clear hW1;refine wpList_append_own_at _ rfl _ _ 40 rfl w'.heap.size 29 iR (.agg #[.string ⟨#[]⟩,.string ⟨#[]⟩,.string ⟨#[]⟩,.string ⟨#[]⟩,.string ⟨#[]⟩]) 5 80 underlying40 Xb.out.1 Xb.out.2.1 Xb.out.2.2.1 Xb.out.2.2.2 rfl (by decide) _ 0 [] rfl WU.out ⟨g,0,none⟩ p c (av (acc.take p)) rfl (by rw[jB,Vz];congr 1;have:=WM.out;omega) (uL HR1.out p hp) (oO _) (by unfold maxLen;omega) (by omega) hz1 ?_));intro v2 w2 hown2 Xj _ _;have Wu:Hid (w2.ownsRow w'.heap.size 29 5 v2 p (av (acc.take p))):=by
    show World.ownsRow _ _ _ _ _ _ _
    first|exact hown2|(rw[VC,Wh]at hown2;exact hown2)|simpa using hown2
   have HB2:Hid (ae w' w2):=HB1.out.grown Xj HB1.out.size (fun z hz=>by simp[Value.ownBlock]at hz;omega);have hz2:w'.heap.size<=w2.heap.size:=HB2.out.size;have Zn:Hid (ae w w2):=(HB.out.trans (WT.out.mono HB.out.size)).trans (HB2.out.mono (Vj HB.out.size WT.out.size));obtain⟨y0,y1,y2,y3,y4⟩:=Xt.out.same (fun o=>Zn.out.cell (p:=⟨b,o,none⟩) HBL.out);have hbr:b<w2.heap.size:=U9 HBL.out Zn.out.size;obtain⟨W3,hW3⟩:∃W3,W3=w2.alloc (.cells #[.string x.a,.string x.b,.string x.r,.string x.c,.string x.d] 29):=⟨_,rfl⟩;have WO:Hid (W3.ownsRow w'.heap.size 29 5 v2 p (av (acc.take p))):=by show World.ownsRow _ _ _ _ _ _ _;rw[hW3];exact Wu.out.alloc _
   have Yd:Hid (∀j u,x.row[j]?=some u->W3.cell? ((⟨w2.heap.size,0,none⟩:Addr).add j)=some u):=by show ∀j u,_;rw[hW3];exact wM w2 x
   have HB3:Hid (ae w' W3):=by show Below _ _ _;rw[hW3];exact HB2.out.alloc HB2.out.size _
   have hz3:w'.heap.size<=W3.heap.size:=HB3.out.size;clear hown2 Xj WU HB1 HBO1 HR1 hz1;go_wp2_with(at_builtin;go_must (rw[<-hW3];clear hW3;refine wpList_append_own_at _ rfl _ _ 40 rfl w'.heap.size 29 iR (.agg #[.string ⟨#[]⟩,.string ⟨#[]⟩,.string ⟨#[]⟩,.string ⟨#[]⟩,.string ⟨#[]⟩]) 5 80 underlying40 Xb.out.1 Xb.out.2.1 Xb.out.2.2.1 Xb.out.2.2.2 rfl (by decide) v2 p (av (acc.take p)) rfl WO.out ⟨w2.heap.size,0,none⟩ 1 1 x.row rfl rfl Yd.out (by simp[Fc.row,Value.oneCell']) (by unfold maxLen;omega) (by omega) hz3 ?_));intro v4 w4 Xo XX _ _;have WG:=aD Xo;have Xu:Hid (ae w' w4):=HB3.out.grown XX HB3.out.size (fun z hz=>(Wu.out.lt z hz).1);have YH:w'.heap.size<=w4.heap.size:=Xu.out.size;have HBO4:Hid (ae wo w4):=WT.out.trans (Xu.out.mono WT.out.size);have HR4:Hid (w4.ownsRow w.heap.size 29 5 (.slice (some ⟨g,0,none⟩) k c) k (av acc)):=gG HO.out fun z hz=>HBO4.out.block z (HO.out.lt z hz).2;clear Xo XX WO Wu Yd HB3 hz3 HB2 hz2 Zn y0 y1 y2 y3 y4 hbr;go_wp2_with(at_builtin;go_must (refine wpList_append_own_at _ rfl _ _ 40 rfl w'.heap.size 29 iR (.agg #[.string ⟨#[]⟩,.string ⟨#[]⟩,.string ⟨#[]⟩,.string ⟨#[]⟩,.string ⟨#[]⟩]) 5 80 underlying40 Xb.out.1 Xb.out.2.1 Xb.out.2.2.1 Xb.out.2.2.2 rfl (by decide) v4 (p+1) (av (acc.take p)++x.row) rfl WG.out ⟨g,p*5,none⟩ (k-p) (c-p) (av (acc.drop p)) rfl (by rw[jB,Wd];have:=WM.out;congr 1;omega) (Ck HR4.out p hp) (oO _) (by unfold maxLen;omega) (by omega) YH ?_));intro v5 w5 hown5 hgr5 _ _;have hn5:p+1+(k-p)=k+1:=by omega
   have XH:Hid (ae w' w5):=Xu.out.grown hgr5 Xu.out.size (fun z hz=>(WG.out.lt z hz).1);have hown6:w5.ownsRow w'.heap.size 29 5 v5 (k+1) (av (nH sW (rows.take (k+1)))):=by
    rw[HNX.out,HPT.out,av,VU,VJ,<-hn5];exact hown5
   obtain⟨ad5,c5,rfl⟩:=p8 hown6;obtain⟨g5,rfl,-⟩:=sM hown6 (Nat.succ_ne_zero _);have Xy:=ai (mg hown6 (Vj HB.out.size WT.out.size));have Ye:Hid (ae w w5):=(HB.out.trans (WT.out.mono HB.out.size)).trans (XH.out.mono (Vj HB.out.size WT.out.size));clear hown5 hown6 hgr5 hn5;go_wp2;go_roundw;case rel=>exact⟨k+1,g5,c5,by omega,by go_num,by first|rfl|simp,Xy,Ye⟩
   simp[intOf]<;>omega
  have hd:decide ((p:Int)<(k:Int))=false:=by simp;omega
  have hpe:¬(p:Int)<(k:Int):=by omega
  have HPT:Hid (xK sW x acc=acc.take p++x::acc.drop p):=E8 (by rw[WM.out];exact hp) HU.out (fun h=>absurd (by rw[WM.out]at h;exact h) hpk);go_wp2_with fail;go_quiet (fail);clear hd hpe;obtain⟨X,hX⟩:∃X,wr.drewN nq=X:=⟨_,rfl⟩;have WT:Hid (ae wo X):=by show Below _ _ _;rw[<-hX];exact below_drewN HBP.out _
  have HSX:Hid (wr.heap.size<=X.heap.size):=by show _<=_;rw[<-hX];exact Va _
  rw[hX];clear hX y0 y1 y2 y3 y4 hbr HOP HBWP HBP HU;obtain⟨W1,hW1⟩:∃W1,W1=X.alloc (.cells #[] 29):=⟨_,rfl⟩;have WU:Hid (W1.ownsRow X.heap.size 29 5 (.slice (some ⟨X.heap.size,0,none⟩) 0 0) 0 []):=by
   show World.ownsRow _ _ _ _ _ _ _;rw[hW1];exact World.ownsRow_lit X #[] 0 (Va _) (by unfold maxLen;omega) (by simp)
  have HB1:=mi hW1;have HBO1:Hid (ae wo W1):=WT.out.trans (HB1.out.mono WT.out.size);have HR1:Hid (W1.ownsRow w.heap.size 29 5 (.slice (some ⟨g,0,none⟩) k c) k (av acc)):=gG HO.out fun z hz=>HBO1.out.block z (HO.out.lt z hz).2;have hz1:X.heap.size<=W1.heap.size:=HB1.out.size;have hgX:g<X.heap.size:=U9 (HO.out.lt g rfl).2 WT.out.size;have hpc:p<=c:=by omega
  go_wp2_with(at_builtin;go_must (rw[<-hW1];clear hW1;refine wpList_append_own_at _ rfl _ _ 40 rfl X.heap.size 29 iR (.agg #[.string ⟨#[]⟩,.string ⟨#[]⟩,.string ⟨#[]⟩,.string ⟨#[]⟩,.string ⟨#[]⟩]) 5 80 underlying40 Xb.out.1 Xb.out.2.1 Xb.out.2.2.1 Xb.out.2.2.2 rfl (by decide) _ 0 [] rfl WU.out ⟨g,0,none⟩ p c (av (acc.take p)) rfl (by rw[jB,Vz];congr 1;have:=WM.out;omega) (uL HR1.out p hp) (oO _) (by unfold maxLen;omega) (by omega) hz1 ?_));intro v2 w2 hown2 Xj _ _;have Wu:Hid (w2.ownsRow X.heap.size 29 5 v2 p (av (acc.take p))):=by
   show World.ownsRow _ _ _ _ _ _ _
   first|exact hown2|(rw[VC,Wh]at hown2;exact hown2)|simpa using hown2
  have HB2:Hid (ae X w2):=HB1.out.grown Xj HB1.out.size (fun z hz=>by simp[Value.ownBlock]at hz;omega);have hz2:X.heap.size<=w2.heap.size:=HB2.out.size;have Zn:Hid (ae w w2):=(HB.out.trans (WT.out.mono HB.out.size)).trans (HB2.out.mono (Vj HB.out.size WT.out.size));obtain⟨y0,y1,y2,y3,y4⟩:=Xt.out.same (fun o=>Zn.out.cell (p:=⟨b,o,none⟩) HBL.out);have hbr:b<w2.heap.size:=U9 HBL.out Zn.out.size;obtain⟨W3,hW3⟩:∃W3,W3=w2.alloc (.cells #[.string x.a,.string x.b,.string x.r,.string x.c,.string x.d] 29):=⟨_,rfl⟩;have WO:Hid (W3.ownsRow X.heap.size 29 5 v2 p (av (acc.take p))):=by show World.ownsRow _ _ _ _ _ _ _;rw[hW3];exact Wu.out.alloc _
  have Yd:Hid (∀j u,x.row[j]?=some u->W3.cell? ((⟨w2.heap.size,0,none⟩:Addr).add j)=some u):=by show ∀j u,_;rw[hW3];exact wM w2 x
  have HB3:Hid (ae X W3):=by show Below _ _ _;rw[hW3];exact HB2.out.alloc HB2.out.size _
  have hz3:X.heap.size<=W3.heap.size:=HB3.out.size;clear hown2 Xj WU HB1 HBO1 HR1 hz1;go_wp2_with(at_builtin;go_must (rw[<-hW3];clear hW3;refine wpList_append_own_at _ rfl _ _ 40 rfl X.heap.size 29 iR (.agg #[.string ⟨#[]⟩,.string ⟨#[]⟩,.string ⟨#[]⟩,.string ⟨#[]⟩,.string ⟨#[]⟩]) 5 80 underlying40 Xb.out.1 Xb.out.2.1 Xb.out.2.2.1 Xb.out.2.2.2 rfl (by decide) v2 p (av (acc.take p)) rfl WO.out ⟨w2.heap.size,0,none⟩ 1 1 x.row rfl rfl Yd.out (by simp[Fc.row,Value.oneCell']) (by unfold maxLen;omega) (by omega) hz3 ?_));intro v4 w4 Xo XX _ _;have WG:=aD Xo;have Xu:Hid (ae X w4):=HB3.out.grown XX HB3.out.size (fun z hz=>(Wu.out.lt z hz).1);have YH:X.heap.size<=w4.heap.size:=Xu.out.size;have HBO4:Hid (ae wo w4):=WT.out.trans (Xu.out.mono WT.out.size);have HR4:Hid (w4.ownsRow w.heap.size 29 5 (.slice (some ⟨g,0,none⟩) k c) k (av acc)):=gG HO.out fun z hz=>HBO4.out.block z (HO.out.lt z hz).2;clear Xo XX WO Wu Yd HB3 hz3 HB2 hz2 Zn y0 y1 y2 y3 y4 hbr;obtain rfl:p=k:=by omega
  have HDN:Hid (acc.drop p=[]):=Vt (by rw[WM.out];exact Va _);by_cases hce:c=p
  all_goals
   go_wp2_with(at_builtin;go_must (refine wpList_append_own_at _ rfl _ _ 40 rfl X.heap.size 29 iR (.agg #[.string ⟨#[]⟩,.string ⟨#[]⟩,.string ⟨#[]⟩,.string ⟨#[]⟩,.string ⟨#[]⟩]) 5 80 underlying40 Xb.out.1 Xb.out.2.1 Xb.out.2.2.1 Xb.out.2.2.2 rfl (by decide) v4 (p+1) (av (acc.take p)++x.row) rfl WG.out _ 0 _ (av (acc.drop p)) rfl (by rw[HDN.out];rfl) (KN HDN.out) (oO _) (by unfold maxLen;omega) (by omega) YH ?_));intro v5 w5 hown5 hgr5 _ _;have hn5:p+1+0=p+1:=rfl;have XH:Hid (ae X w5):=Xu.out.grown hgr5 Xu.out.size (fun z hz=>(WG.out.lt z hz).1);have hown6:w5.ownsRow X.heap.size 29 5 v5 (p+1) (av (nH sW (rows.take (p+1)))):=by
    rw[HNX.out,HPT.out,av,VU,VJ,<-hn5];exact hown5
   obtain⟨ad5,c5,rfl⟩:=p8 hown6;obtain⟨g5,rfl,-⟩:=sM hown6 (Nat.succ_ne_zero _);have Xy:=ai (mg hown6 (Vj HB.out.size WT.out.size));have Ye:Hid (ae w w5):=(HB.out.trans (WT.out.mono HB.out.size)).trans (XH.out.mono (Vj HB.out.size WT.out.size));clear hown5 hown6 hgr5 hn5;go_wp2;go_roundw;case rel=>exact⟨p+1,g5,c5,by omega,by go_num,by first|rfl|simp,Xy,Ye⟩
   simp[intOf]<;>omega
 obtain rfl:k=rows.length:=by omega
 have HE:Hid (wr.ownsRow w.heap.size 29 5 (.slice (some ⟨g,0,none⟩) rows.length c) rows.length (av (nH sW rows))):=by have h:=HO.out;rw[Vs]at h;exact h
 go_wp2;go_ret;exact⟨⟨_,rfl,HE.out⟩,HB.out⟩
def QZ(G:Ru)(qs:Q04):Prop:=∀K K':Fc->Bool,(∀x∈qs,K x=K' x)->G K=G K'
theorem QZ.more{G:Ru}{qs bs:Q04}(h:QZ G qs)(hs:∀x∈qs,x∈bs):QZ G bs:=fun K K' hk=>h K K' fun x hx=>hk x (hs x hx)
def UY(R:Fc->Ru)(L:Q04):Prop:=∀(i:Nat) (h:i<L.length),R L[i] (bB (L.take i))=true
theorem NT{α:Type}(A B:List α)(j:Nat):(A++B).take (A.length+j)=A++B.take j:=by
 rw[List.take_append,VE (by omega),Nat.add_sub_cancel_left]
theorem Q0{α:Type}(A B:List α)(j:Nat)(h:A.length+j<(A++B).length)(hj:j<B.length):(A++B)[A.length+j]=B[j]:=by
 rw[VM (by omega)];simp
theorem UY.from{R:Fc->Ru}{A B:Q04}(h:UY R (A++B)){j:Nat}(hj:j<B.length):R B[j] (bB (A++B.take j))=true:=by
 have:=h (A.length+j) (by rw[Vh];omega);rw[Q0 A B j _ hj,NT]at this;exact this
theorem UY.left{R:Fc->Ru}{A B:Q04}(h:UY R (A++B)):UY R A:=fun i hi=>by
 have:=h i (by rw[Vh];omega);rw[Vw hi,List.take_append_of_le_length (by omega)]at this;exact this
def lI(test:Nat->List Fc->Bool)(L:Q04):Nat->List Fc->List Fc
 | 0,kept=>kept
 | i+1,kept=>match L[i]? with
  | none=>kept
  | some f=>if test i kept then lI test L i kept else lI test L i (f::kept)
theorem NU{test:Nat->List Fc->Bool}{L kept:Q04}{i:Nat}(hi:i<L.length)(h:test i kept=true):lI test L (i+1) kept=lI test L i kept:=by
 unfold lI;rw[Vg hi];simp[h];cases i<;>rfl
theorem Q3{test:Nat->List Fc->Bool}{L kept:Q04}{i:Nat}(hi:i<L.length)(h:test i kept=false):lI test L (i+1) kept=lI test L i (L[i]::kept):=by
 conv=>lhs;unfold lI
 rw[Vg hi];simp[h]
end Go.Proofs.YtajkkeikihhejaaGreat
