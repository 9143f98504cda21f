/- The contract of the drawing of a tuple: six short strings; nothing but the reader's place has changed. -/
import Derived.Test.YtcgdckphpjfmhaaGreatDoorSq
import Derived.Test.YtcgdckphpjfmhaaGreatDoorJ7
import Derived.Test.YtcgdckphpjfmhaaGreatDoorJ4
open Go.Proofs.Tryz
set_option maxHeartbeats 80000000
namespace Go.Proofs.YtcgdckphpjfmhaaGreatDoor
open ChangeShapes WideShapes ChangeAt RowKit
open Pl
theorem Fe{w a:ae}{R:Nat}{ad:Q02}{len cap:Nat}{v0 v1 v2 v3 v4 v5:Value}(h:Rd w R ad len cap)(ho:Only R a w)(hn:a.heap.size≠R)(hf:∀g,a.heap.size<=g->0<len->∀b off,ad=some ⟨b,off,none⟩->b≠g):
  Rd ((((((w.setCell ⟨a.heap.size,0,none⟩ v0).setCell ⟨a.heap.size,1,none⟩ v1).setCell ⟨a.heap.size,2,none⟩ v2).setCell ⟨a.heap.size,3,none⟩ v3).setCell ⟨a.heap.size,4,none⟩ v4).setCell ⟨a.heap.size,5,none⟩ v5) R ad len cap/\Only R a ((((((w.setCell ⟨a.heap.size,0,none⟩ v0).setCell ⟨a.heap.size,1,none⟩ v1).setCell ⟨a.heap.size,2,none⟩ v2).setCell ⟨a.heap.size,3,none⟩ v3).setCell ⟨a.heap.size,4,none⟩ v4).setCell ⟨a.heap.size,5,none⟩ v5):=by
 have F:=hf _ (V4 _);have N:=V4 a.heap.size;exact⟨(((((h.setFar hn F).setFar hn F).setFar hn F).setFar hn F).setFar hn F).setFar hn F,(((((ho.setNew N).setNew N).setNew N).setNew N).setNew N).setNew N⟩
theorem xw{p:Prop}(h:p):Hid p:=h
set_option maxRecDepth 4000 in
theorem Dz(R:Nat)(ad:Q02)(len cap:Nat)(w:ae)(h:Rd w R ad len cap):
    Calls prog 106 #[.pointer (some ⟨R,0,none⟩)] w fun e w'=>(∃a b r c d s:ByteArray,e=.returned (.agg #[.string a,.string b,.string r,.string c,.string d,.string s])/\a.size<=20/\b.size<=20/\r.size<=20/\c.size<=20/\d.size<=20/\s.size<=20)/\Rd w' R ad len cap/\Only R w w':=by
  have H:=aC h;have Z5:=h.lt;have FAR:Hid (∀g,w.heap.size<=g->0<len->∀b off,ad=some ⟨b,off,none⟩->b≠g):=fun g hg h0 b off e=>by
    obtain⟨b',off',e',-,hb',-⟩:=h.bytes h0;rw[e]at e';injection e' with e';injection e' with e1 e2;omega
  clear h;go_enter func106,ntmps106;go_wp2_with fail;refine(dA R ad len cap 3 _ ((H.out.alloc _).alloc _) (by omega) (by omega)).mono ?_;rintro e w1 ⟨⟨x,rfl,hx0,hx1⟩,XV,XT⟩;obtain⟨y,rfl⟩:∃y:Nat,x=(y:Int):=⟨x.toNat,by omega⟩;have hSt:=(iZ (w.alloc _) R (by simp;omega) (t:=9) (xs:=[⟨#[97]⟩,⟨#[98]⟩,⟨#[99]⟩]) (by decide)).only XT;obtain⟨t1,ht1,hc1⟩:=hSt.2.2 y (by simp;omega);simp only[World.size_alloc]at hc1;have XD:Hid (Only R w w1):=(((Only.refl R w).alloc _).alloc _).trans XT;have HN1:Hid (Uq w1 R w.heap.size):=((R5 Z5 _).only ((Only.refl R _).alloc _)).only XT;have HR1:=aC XV;have hl1:=XV.lt;clear XV XT hSt;go_wp2_with fail;refine(dA R ad len cap 3 _ (HR1.out.alloc _) (by omega) (by omega)).mono ?_;rintro e w2 ⟨⟨x,rfl,hx2,hx3⟩,hR2,hO2⟩;obtain⟨y2,rfl⟩:∃y:Nat,x=(y:Int):=⟨x.toNat,by omega⟩;have hSt:=(iZ w1 R hl1 (t:=9) (xs:=[⟨#[120]⟩,⟨#[121]⟩,⟨#[122]⟩]) (by decide)).only hO2;obtain⟨t2,ht2,hc2⟩:=hSt.2.2 y2 (by simp;omega);have Xv:Hid (Only R w w2):=(XD.out.alloc _).trans hO2;have ZF:Hid (Uq w2 R w.heap.size):=(HN1.out.only ((Only.refl R _).alloc _)).only hO2;have HR2:=aC hR2;have hl2:=hR2.lt;clear hR2 hO2 hSt hc1 XD HN1 HR1;go_wp2_with fail;refine(dA R ad len cap 2 _ ((HR2.out.alloc _).alloc _) (by omega) (by omega)).mono ?_;rintro e w3 ⟨⟨x,rfl,hx4,hx5⟩,Y3,hO3⟩;obtain⟨y3,rfl⟩:∃y:Nat,x=(y:Int):=⟨x.toNat,by omega⟩;have hSt:=(iZ (w2.alloc _) R (by simp;omega) (t:=9) (xs:=[⟨#[103]⟩,⟨#[104]⟩]) (by decide)).only hO3;obtain⟨t3,ht3,hc3⟩:=hSt.2.2 y3 (by simp;omega);simp only[World.size_alloc]at hc3;have XG:Hid (Only R w w3):=((Xv.out.alloc _).alloc _).trans hO3;have HN3:Hid (Uq w3 R w.heap.size):=(ZF.out.only (((Only.refl R _).alloc _).alloc _)).only hO3;have HU3:Hid (Ob w3 R w2.heap.size ⟨#[117,115,101,114]⟩ t2):=((E5 hl2 27 _ _).alloc _).only hO3;have HR3:=aC Y3;have hl3:=Y3.lt;clear Y3 hO3 hSt hc2 Xv ZF HR2;go_wp2_with fail;refine(dA R ad len cap 11 _ (((HR3.out.alloc _).alloc _).alloc _) (by omega) (by omega)).mono ?_;rintro e w4 ⟨⟨x,rfl,hx6,hx7⟩,ZM,hO4⟩;obtain⟨y4,rfl⟩:∃y:Nat,x=(y:Int):=⟨x.toNat,by omega⟩;have XE:Hid (Only R w w4):=(((XG.out.alloc _).alloc _).alloc _).trans hO4;have HR4:=aC ZM;obtain⟨hnR,hnl,hnf,hnc⟩:=(HN3.out.only ((((Only.refl R _).alloc _).alloc _).alloc _)).only hO4;obtain⟨huR,hul,hu0,hu1⟩:=(((HU3.out.alloc _).alloc _).alloc _).only hO4;obtain⟨hgR,hgl,hg0,hg1⟩:=(((E5 hl3 27 ⟨#[103,114,111,117,112]⟩ t3).alloc _).alloc _).only hO4;obtain⟨hdR,hdl,hd0,hd1⟩:=((E5 (w:=w3.alloc _) (R:=R) (by simp;omega) 27 ⟨#[100,111,99]⟩ t1).alloc _).only hO4;obtain⟨hiR,hil,hi0,hi1⟩:=(E5 (w:=(w3.alloc _).alloc _) (R:=R) (by simp;omega) 27 ⟨#[100,105,114]⟩ ⟨#[100]⟩).only hO4;simp only[World.size_alloc]at hdR hdl hd0 hd1 hiR hil hi0 hi1;have n0:=hnc 0 (by omega);have n1:=hnc 1 (by omega);have n2:=hnc 2 (by omega);have n3:=hnc 3 (by omega);have n4:=hnc 4 (by omega);have n5:=hnc 5 (by omega);clear hnc ZM hO4 hc3 XG HN3 HR3 HU3 hx0 hx1 hx2 hx3 hx4 hx5 hx6;have hy:(y4=1\/y4=2\/y4=8)\/y4=0\/y4=3\/y4=4\/y4=5\/y4=6\/y4=7\/y4=9\/y4=10:=by omega
  clear hx7;rcases hy with hy|rfl|rfl|rfl|rfl|rfl|rfl|rfl|rfl
  · rcases hy with rfl|rfl|rfl
    case' inl =>
      have HA:=And.intro hgR (And.intro hgl (And.intro hg0 hg1));have HB:=xw (fun w h=>dA R ad len cap 2 w h (by omega) (by omega));have HN:=xw (fun w h=>iZ w R h (t:=9) (xs:=[⟨#[103]⟩,⟨#[104]⟩]) (by decide));have m1:=trivial;go_wp2_with fail;refine d9 8 _ _ (fun k v w'=>Kd.ok R w' v (MP [.eq (Value.agg #[.string ⟨#[103,114,111,117,112]⟩,.string t3]),.strs 2,.eq (Value.pointer (some ⟨R,0,none⟩)),.idx 2,.elt 2,.str,.obj,.tup] k)) (fun w'=>Rd w' R ad len cap/\Only R w w'/\Only R w4 w') (by kernel_rfl) rfl (by kernel_rfl) (by kernel_rfl) (Ck [(52,[0,1,2,3,4,5,6,7])]) ⟨HR4.out.below (V5 _ _).drew,XE.out.drewN 1,(Only.refl _ _).drewN 1⟩ ?_ ?_<;>dsimp only[zo]
    case' inr.inl =>
      have HA:=And.intro hdR (And.intro hdl (And.intro hd0 hd1));have HB:=xw (fun w h=>dA R ad len cap 3 w h (by omega) (by omega));have HN:=xw (fun w h=>iZ w R h (t:=9) (xs:=[⟨#[97]⟩,⟨#[98]⟩,⟨#[99]⟩]) (by decide));have m2:=trivial;go_wp2_with fail;refine d9 8 _ _ (fun k v w'=>Kd.ok R w' v (MP [.eq (Value.agg #[.string ⟨#[100,111,99]⟩,.string t1]),.strs 3,.eq (Value.pointer (some ⟨R,0,none⟩)),.idx 3,.elt 3,.str,.obj,.tup] k)) (fun w'=>Rd w' R ad len cap/\Only R w w'/\Only R w4 w') (by kernel_rfl) rfl (by kernel_rfl) (by kernel_rfl) (Ck [(62,[0,1,2,3,4,5,6,7])]) ⟨HR4.out.below (V5 _ _).drew,XE.out.drewN 1,(Only.refl _ _).drewN 1⟩ ?_ ?_<;>dsimp only[zo]
    case' inr.inr =>
      have HA:=And.intro hiR (And.intro hil (And.intro hi0 hi1));have HB:=xw (fun w h=>dA R ad len cap 2 w h (by omega) (by omega));have HN:=xw (fun w h=>iZ w R h (t:=9) (xs:=[⟨#[115,101,101]⟩,⟨#[111,119,110,101,114]⟩]) (by decide));have m8:=trivial;go_wp2_with fail;refine d9 8 _ _ (fun k v w'=>Kd.ok R w' v (MP [.eq (Value.agg #[.string ⟨#[100,105,114]⟩,.string ⟨#[100]⟩]),.strs 2,.eq (Value.pointer (some ⟨R,0,none⟩)),.idx 2,.elt 2,.str,.eq (Value.agg #[.string ⟨#[117,115,101,114]⟩,.string t2]),.tup] k)) (fun w'=>Rd w' R ad len cap/\Only R w w'/\Only R w4 w') (by kernel_rfl) rfl (by kernel_rfl) (by kernel_rfl) (Ck [(37,[0,1,2,3,4,5,6,7])]) ⟨HR4.out.below (V5 _ _).drew,XE.out.drewN 1,(Only.refl _ _).drewN 1⟩ ?_ ?_<;>dsimp only[zo]
    iterate 3
      · rintro i hi o ho f w' ⟨hR',YE,XX⟩ hpre;have HR:=aC hR';have HO:=aC YE;have HP:=aC XX;have hRl:R<w'.heap.size:=hR'.lt;have HM:Hid (∀e∈o.after,Region.binds .any e=true->_):=hpre;clear hR' YE XX hpre n0 n1 n2 n3 n4 n5 hnf;obtain⟨haR,hal,ha0,ha1⟩:=HA;have KAL:Hid (∀ob:Obj,Only R w' (w'.alloc ob)):=fun ob=>(Only.refl R w').alloc ob;have hc:=VO (i:=i) (by omega);clear hi
        repeat' rcases hc with rfl|hc
        · cases ho;have c0:=(HP.out.cell (o:=0) hal haR).trans ha0;have c1:=(HP.out.cell (o:=1) hal haR).trans ha1;refine aa rfl fun K HK=>?_;clear HM;dsimp only;go_simp;exact HK.out _ _ ⟨_,by simp[upd],⟨HR.out,HO.out,HP.out⟩,rfl,fun k u hu=>hu⟩
        · cases ho;refine aa rfl fun K HK=>?_;clear HM;dsimp only;go_simp;exact HK.out _ _ ⟨_,by simp[upd],⟨HR.out.alloc _,HO.out.alloc _,HP.out.alloc _⟩,⟨_,rfl,HN.out w' hRl⟩,fun k u hu=>Kd.only (KAL.out _) _ hu⟩
        · cases ho;refine aa rfl fun K HK=>?_;clear HM;dsimp only;go_simp;exact HK.out _ _ ⟨Value.pointer (some ⟨R,0,none⟩),by simp[upd],⟨HR.out,HO.out,HP.out⟩,rfl,fun k u hu=>hu⟩
        · cases ho;have e1:f 2=Value.pointer (some ⟨R,0,none⟩):=HM.out ⟨2,.data⟩ (by simp) rfl;refine aa rfl fun K HK=>?_;clear HM;simp only[e1];go_simp;refine(HB.out _ HR.out).mono ?_;rintro e w5 ⟨⟨x,rfl,hx0,hx1⟩,X9,XW⟩;obtain⟨x,rfl⟩:∃y:Nat,x=(y:Int):=⟨x.toNat,by omega⟩;have XY:=aC X9;have XH:=aC XW;clear X9 XW;go_wp2_with fail;exact HK.out _ _ ⟨.int .i64 (x:Int),by simp[upd,e1],⟨XY.out,HO.out.trans XH.out,HP.out.trans XH.out⟩,⟨x,rfl,by omega⟩,fun k u hu=>Kd.only XH.out _ hu⟩
        · cases ho;obtain⟨g,e1,hS⟩:=HM.out ⟨1,.data⟩ (by simp) rfl;obtain⟨x,e2,hx⟩:=HM.out ⟨3,.data⟩ (by simp) rfl;replace e1:f 1=_:=e1;replace e2:f 3=_:=e2;have HS:Hid _:=hS;clear hS;have hx0:=bC x
          first|have hx1:(x:Int)<2:=by omega|have hx1:(x:Int)<3:=by omega
          refine aa rfl fun K HK=>?_;clear HM;simp only[e1,e2];go_simp;exact HK.out _ _ ⟨.pointer (some ⟨g,x,none⟩),by simp[upd,e1,e2],⟨HR.out,HO.out,HP.out⟩,⟨g,x,rfl,hx,HS.out⟩,fun k u hu=>hu⟩
        · cases ho;obtain⟨g,x,e1,hx,hS⟩:=HM.out ⟨4,.data⟩ (by simp) rfl;replace e1:f 4=_:=e1;obtain⟨t,ht,hcell⟩:=hS.2.2 x hx;clear hS;refine aa rfl fun K HK=>?_;clear HM;simp only[e1];go_simp;exact HK.out _ _ ⟨.string t,by simp[upd,e1],⟨HR.out,HO.out,HP.out⟩,⟨t,rfl,ht⟩,fun k u hu=>hu⟩
        · cases ho
          first
            | (clear m8
               have c0:=(HP.out.cell (o:=0) hul huR).trans hu0;have c1:=(HP.out.cell (o:=1) hul huR).trans hu1;refine aa rfl fun K HK=>?_;clear HM;dsimp only;go_simp;exact HK.out _ _ ⟨Value.agg #[.string ⟨#[117,115,101,114]⟩,.string t2],by simp[upd],⟨HR.out,HO.out,HP.out⟩,rfl,fun k u hu=>hu⟩)
            | (obtain ⟨t,e1,ht⟩:=HM.out ⟨5,.data⟩ (by simp) rfl
               replace e1:f 5=_:=e1;refine aa rfl fun K HK=>?_;clear HM;simp only[e1];go_simp
               first
                 | clear m1;exact HK.out _ _ ⟨.agg #[.string ⟨#[103,114,111,117,112]⟩,.string t],by simp[upd,e1],⟨HR.out,HO.out,HP.out⟩,⟨_,_,rfl,by decide,ht⟩,fun k u hu=>hu⟩
                 | exact HK.out _ _ ⟨.agg #[.string ⟨#[100,111,99]⟩,.string t],by simp[upd,e1],⟨HR.out,HO.out,HP.out⟩,⟨_,_,rfl,by decide,ht⟩,fun k u hu=>hu⟩)
        · cases ho
          first
            | (clear m1
               have ep:f 0=Value.agg #[.string ⟨#[103,114,111,117,112]⟩,.string t3]:=HM.out ⟨0,.data⟩ (by simp) rfl;obtain⟨qa,qb,eq,hqa,hqb⟩:=HM.out ⟨6,.data⟩ (by simp) rfl;replace eq:f 6=_:=eq;refine aa rfl fun K HK=>?_;clear HM;simp only[ep,eq];go_simp;exact HK.out _ _ ⟨.agg #[.string ⟨#[103,114,111,117,112]⟩,.string t3,.string ⟨#[109,101,109,98,101,114]⟩,.string qa,.string qb,.string ⟨#[109,101,109,98,101,114]⟩],by simp[upd,ep,eq],⟨HR.out,HO.out,HP.out⟩,⟨_,_,_,_,_,_,rfl,by decide,ht3,by decide,hqa,hqb,by decide⟩,fun k u hu=>hu⟩)
            | (clear m2
               have ep:f 0=Value.agg #[.string ⟨#[100,111,99]⟩,.string t1]:=HM.out ⟨0,.data⟩ (by simp) rfl;obtain⟨qa,qb,eq,hqa,hqb⟩:=HM.out ⟨6,.data⟩ (by simp) rfl;replace eq:f 6=_:=eq;refine aa rfl fun K HK=>?_;clear HM;simp only[ep,eq];go_simp;exact HK.out _ _ ⟨.agg #[.string ⟨#[100,111,99]⟩,.string t1,.string ⟨#[112,97,114,101,110,116]⟩,.string qa,.string qb,.string ⟨#[]⟩],by simp[upd,ep,eq],⟨HR.out,HO.out,HP.out⟩,⟨_,_,_,_,_,_,rfl,by decide,ht1,by decide,hqa,hqb,by decide⟩,fun k u hu=>hu⟩)
            | (clear m8
               have ep:f 0=Value.agg #[.string ⟨#[100,105,114]⟩,.string ⟨#[100]⟩]:=HM.out ⟨0,.data⟩ (by simp) rfl;obtain⟨t,e1,ht⟩:=HM.out ⟨5,.data⟩ (by simp) rfl;replace e1:f 5=_:=e1;have eq:f 6=Value.agg #[.string ⟨#[117,115,101,114]⟩,.string t2]:=HM.out ⟨6,.data⟩ (by simp) rfl;refine aa rfl fun K HK=>?_;clear HM;simp only[ep,e1,eq];go_simp;exact HK.out _ _ ⟨.agg #[.string ⟨#[100,105,114]⟩,.string ⟨#[100]⟩,.string t,.string ⟨#[117,115,101,114]⟩,.string t2,.string ⟨#[]⟩],by simp[upd,ep,e1,eq],⟨HR.out,HO.out,HP.out⟩,⟨_,_,_,_,_,_,rfl,by decide,by decide,ht,by decide,ht2,by decide⟩,fun k u hu=>hu⟩)
      · rintro o ho f w' ⟨hR',YE,XX⟩ hall;have HR:=aC hR';have HO:=aC YE;obtain⟨pa,pb,pr,pc,pd,ps,e1,ha,hb,hr,hc,hd,hs⟩:=hall 7 (by omega);replace e1:f 7=_:=e1;replace n0:=(XX.cell (o:=0) hnl hnR).trans n0;replace n1:=(XX.cell (o:=1) hnl hnR).trans n1;replace n2:=(XX.cell (o:=2) hnl hnR).trans n2;replace n3:=(XX.cell (o:=3) hnl hnR).trans n3;replace n4:=(XX.cell (o:=4) hnl hnR).trans n4;replace n5:=(XX.cell (o:=5) hnl hnR).trans n5;replace hnf:=fun o=>(XX.frozen (o:=o) hnl hnR).trans (hnf o);clear hR' YE XX hall hu0 hu1 hg0 hg1 hd0 hd1 hi0 hi1;cases ho;refine wpOp_step rfl (fun K hK=>?_);have HK:Hid (∀a w,_->K a w):=hK;clear hK;simp only[e1];go_simp;refine HK.out _ _ ?_;clear HK;go_wp2;exact bodyPost_ret (v:=.agg #[.string pa,.string pb,.string pr,.string pc,.string pd,.string ps]) (by simp[results,Tryz.results106,go_sem, *]) rfl ⟨⟨_,_,_,_,_,_,rfl,ha,hb,hr,hc,hd,hs⟩,Fe HR.out HO.out hnR FAR.out⟩
  · go_wp2;exact bodyPost_ret (v:=.agg #[.string ⟨#[103,114,111,117,112]⟩,.string t3,.string ⟨#[109,101,109,98,101,114]⟩,.string ⟨#[117,115,101,114]⟩,.string t2,.string ⟨#[]⟩]) (by simp[results,Tryz.results106,go_sem, *]) rfl ⟨⟨_,_,_,_,_,_,rfl,by decide,ht3,by decide,by decide,ht2,by decide⟩,Fe HR4.out XE.out hnR FAR.out⟩
  · go_wp2;exact bodyPost_ret (v:=.agg #[.string ⟨#[100,111,99]⟩,.string t1,.string ⟨#[101,100,105,116,111,114]⟩,.string ⟨#[117,115,101,114]⟩,.string t2,.string ⟨#[]⟩]) (by simp[results,Tryz.results106,go_sem, *]) rfl ⟨⟨_,_,_,_,_,_,rfl,by decide,ht1,by decide,by decide,ht2,by decide⟩,Fe HR4.out XE.out hnR FAR.out⟩
  · go_wp2;exact bodyPost_ret (v:=.agg #[.string ⟨#[100,111,99]⟩,.string t1,.string ⟨#[118,105,101,119,101,114]⟩,.string ⟨#[103,114,111,117,112]⟩,.string t3,.string ⟨#[109,101,109,98,101,114]⟩]) (by simp[results,Tryz.results106,go_sem, *]) rfl ⟨⟨_,_,_,_,_,_,rfl,by decide,ht1,by decide,by decide,ht3,by decide⟩,Fe HR4.out XE.out hnR FAR.out⟩
  · go_wp2;exact bodyPost_ret (v:=.agg #[.string ⟨#[100,111,99]⟩,.string t1,.string ⟨#[98,97,110,110,101,100]⟩,.string ⟨#[117,115,101,114]⟩,.string t2,.string ⟨#[]⟩]) (by simp[results,Tryz.results106,go_sem, *]) rfl ⟨⟨_,_,_,_,_,_,rfl,by decide,ht1,by decide,by decide,ht2,by decide⟩,Fe HR4.out XE.out hnR FAR.out⟩
  · go_wp2_with fail;refine d9 10 _ _ (fun k v w'=>Kd.ok R w' v (MP [.eq (Value.pointer (some ⟨R,0,none⟩)),.obj,.strs 3,.eq (Value.pointer (some ⟨R,0,none⟩)),.idx 3,.elt 3,.str,.eq (Value.pointer (some ⟨R,0,none⟩)),.obj,.tup] k)) (fun w'=>Rd w' R ad len cap/\Only R w w'/\Only R w4 w') (by kernel_rfl) rfl (by kernel_rfl) (by kernel_rfl) (Ck [(87,[0,1,2,3,4,5,6,7,8,9])]) ⟨HR4.out.below (V5 _ _).drew,XE.out.drewN 1,(Only.refl _ _).drewN 1⟩ ?step ?fin<;>dsimp only[zo];case step =>
      rintro i hi o ho f w' ⟨hR',YE,XX⟩ hpre;have HR:=aC hR';have HO:=aC YE;have HP:=aC XX;have hRl:R<w'.heap.size:=hR'.lt;have HM:Hid (∀e∈o.after,Region.binds .any e=true->_):=hpre;clear hR' YE XX hpre n0 n1 n2 n3 n4 n5 hnf;have hc:=KZ (i:=i) (by omega);clear hi
      repeat' rcases hc with rfl|hc
      · cases ho;refine aa rfl fun K HK=>?_;clear HM;dsimp only;go_simp;exact HK.out _ _ ⟨Value.pointer (some ⟨R,0,none⟩),by simp[upd],⟨HR.out,HO.out,HP.out⟩,rfl,fun k u hu=>hu⟩
      · cases ho;have e1:f 0=Value.pointer (some ⟨R,0,none⟩):=HM.out ⟨0,.data⟩ (by simp) rfl;refine aa rfl fun K HK=>?_;clear HM;simp only[e1];go_simp;refine(AR R ad len cap _ HR.out).mono ?_;rintro e w5 ⟨⟨xa,xb,rfl,hxa,hxb⟩,X9,XW⟩;have XY:=aC X9;have XH:=aC XW;clear X9 XW;go_wp2_with fail;exact HK.out _ _ ⟨.agg #[.string xa,.string xb],by simp[upd,e1],⟨XY.out,HO.out.trans XH.out,HP.out.trans XH.out⟩,⟨xa,xb,rfl,hxa,hxb⟩,fun k u hu=>Kd.only XH.out _ hu⟩
      · cases ho;have k1:Only R w' (w'.alloc (.cells #[.string ⟨#[118,105,101,119,101,114]⟩,.string ⟨#[109,101,109,98,101,114]⟩,.string ⟨#[112,97,114,101,110,116]⟩] 9)):=(Only.refl R w').alloc _;have K1:=aC k1;clear k1;refine aa rfl fun K HK=>?_;clear HM;dsimp only;go_simp;exact HK.out _ _ ⟨.slice (some ⟨w'.heap.size,0,none⟩) 3 3,by simp[upd],⟨HR.out.alloc _,HO.out.alloc _,HP.out.alloc _⟩,⟨_,rfl,iZ w' R hRl (xs:=[_,_,_]) (by decide)⟩,fun k u hu=>Kd.only K1.out _ hu⟩
      · cases ho;refine aa rfl fun K HK=>?_;clear HM;dsimp only;go_simp;exact HK.out _ _ ⟨Value.pointer (some ⟨R,0,none⟩),by simp[upd],⟨HR.out,HO.out,HP.out⟩,rfl,fun k u hu=>hu⟩
      · cases ho;have e1:f 3=Value.pointer (some ⟨R,0,none⟩):=HM.out ⟨3,.data⟩ (by simp) rfl;refine aa rfl fun K HK=>?_;clear HM;simp only[e1];go_simp;refine(dA R ad len cap 3 _ HR.out (by omega) (by omega)).mono ?_;rintro e w5 ⟨⟨x,rfl,hx0,hx1⟩,X9,XW⟩;obtain⟨x,rfl⟩:∃y:Nat,x=(y:Int):=⟨x.toNat,by omega⟩;have XY:=aC X9;have XH:=aC XW;clear X9 XW;go_wp2_with fail;exact HK.out _ _ ⟨.int .i64 (x:Int),by simp[upd,e1],⟨XY.out,HO.out.trans XH.out,HP.out.trans XH.out⟩,⟨x,rfl,by omega⟩,fun k u hu=>Kd.only XH.out _ hu⟩
      · cases ho;obtain⟨g,e1,hS⟩:=HM.out ⟨2,.data⟩ (by simp) rfl;obtain⟨x,e2,hx⟩:=HM.out ⟨4,.data⟩ (by simp) rfl;replace e1:f 2=_:=e1;replace e2:f 4=_:=e2;have HS:=aC hS;clear hS;have hx0:=bC x;have hx1:(x:Int)<3:=by omega
        refine aa rfl fun K HK=>?_;clear HM;simp only[e1,e2];go_simp;exact HK.out _ _ ⟨.pointer (some ⟨g,x,none⟩),by simp[upd,e1,e2],⟨HR.out,HO.out,HP.out⟩,⟨g,x,rfl,hx,HS.out⟩,fun k u hu=>hu⟩
      · cases ho;obtain⟨g,x,e1,hx,hS⟩:=HM.out ⟨5,.data⟩ (by simp) rfl;replace e1:f 5=_:=e1;obtain⟨t,ht,hcell⟩:=hS.2.2 x hx;clear hS;refine aa rfl fun K HK=>?_;clear HM;simp only[e1];go_simp;exact HK.out _ _ ⟨.string t,by simp[upd,e1],⟨HR.out,HO.out,HP.out⟩,⟨t,rfl,ht⟩,fun k u hu=>hu⟩
      · cases ho;refine aa rfl fun K HK=>?_;clear HM;dsimp only;go_simp;exact HK.out _ _ ⟨Value.pointer (some ⟨R,0,none⟩),by simp[upd],⟨HR.out,HO.out,HP.out⟩,rfl,fun k u hu=>hu⟩
      · cases ho;have e1:f 7=Value.pointer (some ⟨R,0,none⟩):=HM.out ⟨7,.data⟩ (by simp) rfl;refine aa rfl fun K HK=>?_;clear HM;simp only[e1];go_simp;refine(AR R ad len cap _ HR.out).mono ?_;rintro e w5 ⟨⟨xa,xb,rfl,hxa,hxb⟩,X9,XW⟩;have XY:=aC X9;have XH:=aC XW;clear X9 XW;go_wp2_with fail;exact HK.out _ _ ⟨.agg #[.string xa,.string xb],by simp[upd,e1],⟨XY.out,HO.out.trans XH.out,HP.out.trans XH.out⟩,⟨xa,xb,rfl,hxa,hxb⟩,fun k u hu=>Kd.only XH.out _ hu⟩
      · cases ho;obtain⟨pa,pb,ep,hpa,hpb⟩:=HM.out ⟨1,.data⟩ (by simp) rfl;replace ep:f 1=_:=ep;obtain⟨t,e1,ht⟩:=HM.out ⟨6,.data⟩ (by simp) rfl;replace e1:f 6=_:=e1;obtain⟨qa,qb,eq,hqa,hqb⟩:=HM.out ⟨8,.data⟩ (by simp) rfl;replace eq:f 8=_:=eq;refine aa rfl fun K HK=>?_;clear HM;simp only[ep,e1,eq];go_simp;exact HK.out _ _ ⟨.agg #[.string pa,.string pb,.string t,.string qa,.string qb,.string ⟨#[]⟩],by simp[upd,ep,e1,eq],⟨HR.out,HO.out,HP.out⟩,⟨_,_,_,_,_,_,rfl,hpa,hpb,ht,hqa,hqb,by decide⟩,fun k u hu=>hu⟩
    case fin =>
      rintro o ho f w' ⟨hR',YE,XX⟩ hall;have HR:=aC hR';have HO:=aC YE;obtain⟨pa,pb,pr,pc,pd,ps,e1,ha,hb,hr,hc,hd,hs⟩:=hall 9 (by omega);replace e1:f 9=_:=e1;replace n0:=(XX.cell (o:=0) hnl hnR).trans n0;replace n1:=(XX.cell (o:=1) hnl hnR).trans n1;replace n2:=(XX.cell (o:=2) hnl hnR).trans n2;replace n3:=(XX.cell (o:=3) hnl hnR).trans n3;replace n4:=(XX.cell (o:=4) hnl hnR).trans n4;replace n5:=(XX.cell (o:=5) hnl hnR).trans n5;replace hnf:=fun o=>(XX.frozen (o:=o) hnl hnR).trans (hnf o);clear hR' YE XX hall hu0 hu1 hg0 hg1 hd0 hd1 hi0 hi1;cases ho;refine wpOp_step rfl (fun K hK=>?_);have HK:Hid (∀a w,_->K a w):=hK;clear hK;simp only[e1];go_simp;refine HK.out _ _ ?_;clear HK;go_wp2;exact bodyPost_ret (v:=.agg #[.string pa,.string pb,.string pr,.string pc,.string pd,.string ps]) (by simp[results,Tryz.results106,go_sem, *]) rfl ⟨⟨_,_,_,_,_,_,rfl,ha,hb,hr,hc,hd,hs⟩,Fe HR.out HO.out hnR FAR.out⟩
  · go_wp2;exact bodyPost_ret (v:=.agg #[.string ⟨#[100,111,99]⟩,.string t1,.string ⟨#[112,97,114,101,110,116]⟩,.string ⟨#[100,105,114]⟩,.string ⟨#[100]⟩,.string ⟨#[]⟩]) (by simp[results,Tryz.results106,go_sem, *]) rfl ⟨⟨_,_,_,_,_,_,rfl,by decide,ht1,by decide,by decide,by decide,by decide⟩,Fe HR4.out XE.out hnR FAR.out⟩
  · go_wp2;exact bodyPost_ret (v:=.agg #[.string ⟨#[100,111,99]⟩,.string t1,.string ⟨#[118,105,101,119,101,114]⟩,.string ⟨#[117,115,101,114]⟩,.string t2,.string ⟨#[]⟩]) (by simp[results,Tryz.results106,go_sem, *]) rfl ⟨⟨_,_,_,_,_,_,rfl,by decide,ht1,by decide,by decide,ht2,by decide⟩,Fe HR4.out XE.out hnR FAR.out⟩
  · go_wp2;exact bodyPost_ret (v:=.agg #[.string ⟨#[100,111,99]⟩,.string t1,.string ⟨#[118,105,101,119,101,114]⟩,.string ⟨#[117,115,101,114]⟩,.string t2,.string ⟨#[]⟩]) (by simp[results,Tryz.results106,go_sem, *]) rfl ⟨⟨_,_,_,_,_,_,rfl,by decide,ht1,by decide,by decide,ht2,by decide⟩,Fe HR4.out XE.out hnR FAR.out⟩
open Go.Sort
set_option maxRecDepth 100000
theorem GK(ad:Q02)(cap:Nat)(xs:Q0a)(w:ae)(hlen:xs.length<=1048576)(hcap:xs.length<=cap)(hf:∀a∈xs,a.fits)(hs:lK w ad xs):
  Calls prog 247 #[.slice ad xs.length cap] w fun e w'=>e=.returned (.bool (ed xs))/\af w w':=by
 have HS:=aC hs;have HF:=aC hf;clear hs hf;by_cases hl:1<=xs.length/\xs.length<=6
 ·obtain⟨hl1,hl2⟩:=hl;go_enter func247,ntmps247;go_wp2_with fail;go_loopw[15] (fun i wr=>∃k:Nat,k<=xs.length/\i=.int .i64 k/\Hid (Ey xs k=true)/\af w wr) (fun i _=>xs.length-(intOf i).toNat);case atStart=>exact⟨0,Wd _,rfl,rfl,V5 _ _⟩
  obtain⟨k,hk,rfl,HU,hB⟩:=hrel;by_cases hlt:k<xs.length
  ·rcases HS.out.below hB with rfl|⟨b,off,rfl,hb,hr⟩
   ·simp at hlt
   obtain⟨t0,t1⟩:=hr k hlt;obtain⟨z0,z1⟩:=HF.out xs[k] (VZ hlt);have hk1:=bC k;have hk2:(k:Int)<=(cap:Int):=by omega
   obtain⟨W1,hW1⟩:∃W1,W1=wr.alloc (.cells #[.string xs[k].t,.string xs[k].s] 223):=⟨_,rfl⟩;have hal:af wr W1:=by rw[hW1];exact(V5 _ _).alloc (V4 _) _
   have hBW1:Below w.heap.size wr W1:=hal.mono hB.size;have hWs:w.heap.size<=W1.heap.size:=Wh hB.size hal.size;have hgl:wr.heap.size<W1.heap.size:=by rw[hW1];simp
   have g0:W1.cell? ⟨wr.heap.size,0,none⟩=some (.string xs[k].t):=by rw[hW1];simp
   have g1:W1.cell? ⟨wr.heap.size,1,none⟩=some (.string xs[k].s):=by rw[hW1];simp
   have HS1:Hid (lK W1 (some ⟨b,off,none⟩) xs):=(HS.out.below hB).below hal;clear hr;go_wp2_with fail;rw[<-hW1];clear hW1 t0 t1 hal;have p0:=cell_regrown g0;have p1:=cell_regrown g1;have Yb:Hid (∀d os,af w (grow (redrawn W1 d) os)):=fun d os=>hB.trans (hBW1.trans ((below_regrown W1 d os).mono hWs));have Yh:=ol (jV (W:=W1) (fun W'=>aO xs[k].t W' z0));have HCS:=ol (jV (W:=W1) (fun W'=>IZ xs[k].s W' z1))
   have HCC:Hid (∀d os,Calls prog 130 #[.slice (some ⟨b,off,none⟩) k cap,.agg #[.string xs[k].t,.string xs[k].s]] (grow (redrawn W1 d) os) fun e w''=>e=.returned (.bool (dR xs k xs[k]))/\∃p:Regrown,w''=grow (redrawn W1 p.d) p.os) :=
    bq fun W' hb=>vG (some ⟨b,off,none⟩) k cap xs xs[k] _ hk hlen (HS1.out.below hb)
   cases hn:aR xs[k].t;case false=>
    have HN:Hid (Ey xs xs.length=false):=pI xs k hlt (by simp[F4,hn]) _ hlt;rw[hn]at Yh;refine wp_region_quiet_below (by kernel_rfl) (by kernel_rfl) ?_
    repeat(go_big_quiet_step (exact Yh.out _ _))
    refine wpQuiet_nil ?_;rintro _ ⟨⟨dq,osq⟩,rfl⟩;go_wp2;go_ret;exact⟨ah (by simp[ed,HN.out]),Yb.out dq osq⟩
   rw[hn]at Yh;cases hsb:uT xs[k].s;case false=>
    have HN:Hid (Ey xs xs.length=false):=pI xs k hlt (by simp[F4,hn,hsb]) _ hlt;rw[hsb]at HCS;refine wp_region_quiet_below (by kernel_rfl) (by kernel_rfl) ?_
    repeat(go_big_quiet_step (first|exact Yh.out _ _|exact HCS.out _ _))
    refine wpQuiet_nil ?_;rintro _ ⟨⟨dq,osq⟩,rfl⟩;go_wp2;go_ret;exact⟨ah (by simp[ed,HN.out]),Yb.out dq osq⟩
   rw[hsb]at HCS;obtain⟨p,hp⟩:∃p,dR xs k xs[k]=p:=⟨_,rfl⟩;rw[hp]at HCC;refine wp_region_quiet_below (by kernel_rfl) (by kernel_rfl) ?_
   repeat(go_big_quiet_step (first|exact Yh.out _ _|exact HCS.out _ _|exact HCC.out _ _))
   refine wpQuiet_nil ?_;rintro _ ⟨⟨dq,osq⟩,rfl⟩;cases p;case true=>
    have HN:Hid (Ey xs xs.length=false):=pI xs k hlt (by simp[hp]) _ hlt;go_wp2;go_ret;exact⟨ah (by simp[ed,HN.out]),Yb.out dq osq⟩
   have HU2:Hid (Ey xs (k+1)=true):=by show _=_;rw[zH _ _ hlt,HU.out];simp[F4,hn,hsb,hp]
   go_wp2;go_roundw;case rel=>exact⟨k+1,by omega,by go_num,HU2,Yb.out dq osq⟩
   simp[intOf]<;>omega
  obtain rfl:k=xs.length:=by omega
  have HAW:Hid (ed xs=true):=by show _=_;simp[ed,hl1,hl2,HU.out]
  go_wp2;go_ret;exact⟨by rw[HAW.out];rfl,hB⟩
 have HAW:Hid (ed xs=false):=by
  show _=_;unfold ed;by_cases h1:1<=xs.length
  ·have h2:¬xs.length<=6:=fun h2=>hl ⟨h1,h2⟩;simp[h2]
  simp[h1]
 go_enter func247,ntmps247;go_wp2_with fail
 all_goals go_ret
 all_goals exact⟨by rw[HAW.out];rfl,V5 _ _⟩
set_option maxRecDepth 8000 in
theorem GL(r:ER)(w:ae)(hf:r.e.fits)(hl:r.e.light)(hok:r.ok w)(hcap:r.e.allow.length<=r.capA)(h1:r.e.kind=1):
  Calls prog 229 #[r.val] w fun e w'=>e=.returned (.bool (ay r.e))/\af w w':=by
 obtain⟨⟨kind,allow,over,name,kids⟩,adA,capA,adK,capK⟩:=r;obtain⟨f1,f2,f3,f4,f5⟩:=hf;obtain⟨hA,hK⟩:=hok;obtain⟨l1,l2⟩:=hl;simp only at f1 f2 f3 f4 f5 h1 hA hK hcap l1 l2;subst h1;simp only[ER.val];unfold maxLen at f4 f5;have HB0:Hid (∀n,af w ((w.alloc (.cells #[.int .i64 1,.slice adA allow.length capA,.string over,.string name,.slice adK kids.length capK] 188)).drewN n)):=fun n=>below_drewN ((V5 w.heap.size w).alloc (V4 _) _) n;have HA:=aC hA;have Yc:=aC f1;have HCAP:Hid (allow.length<=capA):=hcap;clear hA hK f1 hcap;go_enter func229,ntmps229;go_wp2_with fail;go_quiet (fail);go_wp2_with fail;refine(GK adA capA allow _ l1 HCAP.out Yc.out (HA.out.below (HB0.out _))).mono ?_;rintro e w1 ⟨rfl,hb1⟩;have c2:w1.cell? ⟨w.heap.size,2,none⟩=some (.string over):=by rw[hb1.cell (p:=⟨w.heap.size,2,none⟩) (by show _<(w.alloc _).heap.size;simp)];show(w.alloc _).cell? _=_;simp
 have c3:w1.cell? ⟨w.heap.size,3,none⟩=some (.string name):=by rw[hb1.cell (p:=⟨w.heap.size,3,none⟩) (by show _<(w.alloc _).heap.size;simp)];show(w.alloc _).cell? _=_;simp
 have HB1:Hid (af w w1):=(HB0.out _).trans (hb1.mono (HB0.out _).size);clear hb1 HB0;go_wp2
 all_goals go_ret
 all_goals exact⟨ah (by first|(simp[ay, *];done)|(simp[ay, *];omega)|(simp[ay, *];rw[Wy];simp;done)|(simp[ay, *];rw[Wy];simp;omega)),HB1.out⟩
theorem JJ(r:ER)(w:ae)(hf:r.e.fits)(hl:r.e.light)(hok:r.ok w)(hcap:r.e.allow.length<=r.capA):
  Calls prog 229 #[r.val] w fun e w'=>e=.returned (.bool (ay r.e))/\af w w':=by
 by_cases h:r.e.kind=1
 ·exact GL r w hf hl hok hcap h
 exact EN r w hf h
structure Arr(es:Q09)(w:World)(g k:Nat):Prop where
 lt:g<w.heap.size
 told:∀j,j<k->w.cell? ⟨g,j,none⟩=some (.int .i64 (aI es j))
 rest:∀j,k<=j->j<15->w.cell? ⟨g,j,none⟩=some (.int .i64 0)
 free:∀o,w.frozen? ⟨g,o,none⟩=false
theorem Arr.later{es:Q09}{w w':ae}{g k:Nat}(h:Arr es w g k)(hb:af w w'):Arr es w' g k where
 lt:=VY h.lt hb.size
 told j hj:=kept hb h.lt (h.told j hj)
 rest j h1 h2:=kept hb h.lt (h.rest j h1 h2)
 free o:=Vg hb h.lt (h.free o)
theorem Arr.put{es:Q09}{w:ae}{g k:Nat}(h:Arr es w g k)(hk:k<15):Arr es (w.setCell ⟨g,k,none⟩ (.int .i64 (aI es k))) g (k+1) where
 lt:=by simpa using h.lt
 told j hj:=by
  by_cases e:j=k
  ·subst e;exact zF (h.rest j (V4 _) hk)
  rw[qI (Ne.symm e)];exact h.told j (by omega)
 rest j h1 h2:=by rw[qI (by omega)];exact h.rest j (by omega) h2
 free o:=by simpa using h.free o
def vQ(es:Q09):Bool:=jy es&&decide (aI es (es.length-1)=0)
theorem DC{es:Q09}(k:Nat)(h:k<es.length)(hb:aI es k<0):vQ es=false:=by
 have:jy es=false:=by
  rw[Bool.eq_false_iff];intro h2;unfold jy at h2;rw[Wq]at h2;have:=h2 k (by simpa using h);simp at this;omega
 simp[vQ,this]
theorem yY(b off cap:Nat)(rs:Q08)(w:ae)(hn1:1<=rs.length)(hn2:rs.length<=15)(hl:∀r∈rs,r.e.light)(hb:b<w.heap.size)(hr:∀(i:Nat) (h:i<rs.length),yQ w b (off+i*5) rs[i])(hok:∀r∈rs,r.ok w):
  Calls prog 230 #[.slice (some ⟨b,off,none⟩) rs.length cap] w fun e w'=>e=.returned (.bool (vQ (aj rs)))/\af w w':=by
 have Y5:Hid ((aj rs).length=rs.length):=bf rs;have HL:=aC hl;have HR:Hid (∀(i:Nat) (h:i<rs.length),yQ w b (off+i*5) rs[i]):=hr;have HO:=aC hok;clear hl hr hok;go_enter func230,ntmps230;go_wp2_with fail;go_loopw[10] (fun i wr=>∃k:Nat,k<=rs.length/\i=.int .i64 k/\Hid (OB (aj rs) k)/\Hid (Arr (aj rs) wr w.heap.size k)/\af w wr) (fun i _=>rs.length-(intOf i).toNat);case atStart =>
  refine⟨0,Wd _,rfl,(fun j hj=>absurd hj (Xg _)),⟨by simp,(fun j hj=>absurd hj (Xg _)),fun j _ hj=>?_,fun o=>by simp⟩,(V5 _ _).alloc (V4 _) _⟩;have h15:j=0\/j=1\/j=2\/j=3\/j=4\/j=5\/j=6\/j=7\/j=8\/j=9\/j=10\/j=11\/j=12\/j=13\/j=14:=by omega
  rcases h15 with rfl|rfl|rfl|rfl|rfl|rfl|rfl|rfl|rfl|rfl|rfl|rfl|rfl|rfl|rfl<;>simp
 obtain⟨k,hk,rfl,HGU,HAR,hB⟩:=hrel;by_cases hlt:k<rs.length
 ·have Ze:k<(aj rs).length:=by rw[Y5.out];exact hlt
  obtain⟨t0,t1,t2,t3,t4⟩:=(HR.out k hlt).later hb hB;have hk1:=bC k;have hk2:(k:Int)<(rs.length:Int):=by omega
  have hk3:(k:Int)<15:=by omega
  obtain⟨-,lk⟩:=HL.out rs[k] (VZ hlt);obtain⟨W1,hW1⟩:∃W1,W1=wr.alloc (.cells #[.int .i64 rs[k].e.kind,.slice rs[k].adA rs[k].e.allow.length rs[k].capA,.string rs[k].e.over,.string rs[k].e.name,.slice rs[k].adK rs[k].e.kids.length rs[k].capK] 188):=⟨_,rfl⟩;have hal:af wr W1:=by rw[hW1];exact(V5 _ _).alloc (V4 _) _
  have hB1:af w W1:=hB.trans (hal.mono hB.size);have HAR1:Hid (Arr (aj rs) W1 w.heap.size k):=HAR.out.later hal;have s4:W1.cell? ⟨wr.heap.size,4,none⟩=some (.slice rs[k].adK rs[k].e.kids.length rs[k].capK):=by rw[hW1];simp
  have HT:Hid (dC (dS (aj rs) k) (rs[k].e.kids.take rs[k].e.kids.length).reverse ((k:Int)-1)=aI (aj rs) k):=by
   show _=_;rw[Wo,jU (aj rs) k,pU rs k hlt]
  clear HAR;go_wp2_with fail;rw[<-hW1];clear hW1 t0 t1 t2 t3 t4 hal;go_loopw[6,7] (fun x i w2=>∃(j:Nat) (y:Int),j<=rs[k].e.kids.length/\i=.int .i64 ((j:Int)-1)/\x=.int .i64 y/\0<=y/\y<=k/\Hid (dC (dS (aj rs) k) (rs[k].e.kids.take j).reverse (y-1)=aI (aj rs) k)/\w2=W1) (fun _ i _=>(intOf i+1).toNat);case atStart=>exact⟨rs[k].e.kids.length,(k:Int),V4 _,rfl,rfl,by omega,by omega,HT,rfl⟩
  obtain⟨j,y,hj,rfl,rfl,hy0,hy1,HG,rfl⟩:=hrel;by_cases hj0:0<j
  ·obtain⟨j,rfl⟩:∃i,j=i+1:=⟨j-1,by omega⟩;have hjl:j<rs[k].e.kids.length:=by omega
   rcases (HO.out rs[k] (VZ hlt)).2.below hB1 with hnil|⟨bk,offk,aab,hbk,hrk⟩
   ·rw[hnil]at hjl;simp at hjl
   have s4':=s4;rw[aab]at s4';have k0:=hrk j hjl;have hji:((j+1:Nat):Int)-1=(j:Int):=by omega
   have hj1:=bC j;have hj2:(j:Int)<(rs[k].e.kids.length:Int):=by omega
   have HG2:Hid ((if y-1<0\/rs[k].e.kids[j]≠y-1 then -1 else if dS (aj rs) k (y-1)<0 then -1 else dC (dS (aj rs) k) (rs[k].e.kids.take j).reverse (dS (aj rs) k (y-1)-1))=aI (aj rs) k):=by
    have:=HG.out;rw[V8 hjl,List.reverse_append]at this;exact this
   rw[hji];clear HG hrk aab s4;by_cases hy:y=0
   ·have HN:Hid (vQ (aj rs)=false):=DC k Ze (by rw[<-HG2.out,if_pos (Or.inl (by omega))];omega);subst hy;go_wp2;go_ret;exact⟨by rw[HN.out];rfl,hB1⟩
   obtain⟨m,rfl⟩:∃m:Nat,y=(m:Int)+1:=⟨(y-1).toNat,by omega⟩;have em:(m:Int)+1-1=(m:Int):=by omega
   by_cases hkx:rs[k].e.kids[j]=(m:Int)
   ·have hF:dS (aj rs) k ((m:Int)+1-1)=aI (aj rs) m:=by rw[em];unfold dS;rw[if_pos ⟨by omega,by simp;omega⟩];simp
    have HF:Hid (dS (aj rs) k ((m:Int)+1-1)=aI (aj rs) m):=hF;have hle:=oF (aj rs) m;have hge:0<=aI (aj rs) m:=HGU.out m (by omega);have a0:=HAR1.out.told m (by omega);have hm1:=bC m;have hm2:(m:Int)<15:=by omega
    have HG3:Hid (dC (dS (aj rs) k) (rs[k].e.kids.take j).reverse (aI (aj rs) m-1)=aI (aj rs) k):=by
     show _=_;rw[<-HG2.out,if_neg (by omega),HF.out,if_neg (by omega)]
    clear hF HG2;go_wp2;go_roundw;case rel=>exact⟨j,aI (aj rs) m,by omega,by go_num,rfl,hge,by omega,HG3,by first|rfl|trivial⟩
    simp[intOf]<;>omega
   have HN:Hid (vQ (aj rs)=false):=DC k Ze (by rw[<-HG2.out,if_pos (Or.inr (by rw[em];exact hkx))];omega);have hq:(rs[k].e.kids[j] != (m:Int))=true:=by simpa using hkx
   have hq0:((m:Int)+1==0)=false:=by simp;omega
   go_wp2;go_ret;exact⟨by rw[HN.out];rfl,hB1⟩
  obtain rfl:j=0:=by omega
  have hX:aI (aj rs) k=y:=by have:=HG.out;simp[dC]at this;omega
  have HGU2:Hid (OB (aj rs) (k+1)):=by
   intro m hm;by_cases e:m=k
   ·subst e;omega
   exact HGU.out m (by omega)
  have q0:=HAR1.out.rest k (V4 _) (by omega);have qf:=HAR1.out.free;have HA2:=HAR1.out.put (k:=k) (by omega);rw[hX]at HA2;have HA3:Hid (Arr (aj rs) _ w.heap.size (k+1)):=HA2;have hB2:=hB1.setCell (p:=⟨w.heap.size,k,none⟩) (V4 _) (.int .i64 y);clear HG HA2 hX;go_wp2;go_roundw;case rel=>exact⟨k+1,by omega,by go_num,HGU2,HA3,hB2⟩
  simp[intOf]<;>omega
 obtain rfl:k=rs.length:=by omega
 have a0:=HAR.out.told (rs.length-1) (by omega);have HKB:Hid (vQ (aj rs)=decide (aI (aj rs) (rs.length-1)=0)):=by
  show _=_;have:jy (aj rs)=true:=by
   unfold jy;rw[Wq];intro j hj;have hj':j<rs.length:=by simpa[Y5.out] using hj
   simpa using HGU.out j hj'
  unfold vQ;rw[this,Y5.out,Bool.true_and]
 have hcast:((rs.length:Int)-1)=((rs.length-1:Nat):Int):=by omega
 have h15:((rs.length-1:Nat):Int)<15:=by omega
 have h00:(0:Int)<=((rs.length-1:Nat):Int):=by omega
 go_wp2;go_ret;exact⟨by rw[HKB.out];exact ah (by rw[Wy];simp),hB⟩
theorem MQ{es:Q09}(h:¬(1<=es.length/\es.length<=15)):lF es=false:=by rw[<-wU];exact Dh h
theorem JK{es:Q09}(k:Nat)(h:k<es.length)(hb:ay es[k]=false):lF es=false:=by simp[lF,CU es k h hb]
theorem A8(b off cap:Nat)(rs:Q08)(w:ae)(hlen:rs.length<=1048576)(hl:∀r∈rs,r.e.light)(hf:∀r∈rs,r.e.fits)(hcp:∀r∈rs,r.e.allow.length<=r.capA)(hb:b<w.heap.size)(hr:∀(i:Nat) (h:i<rs.length),yQ w b (off+i*5) rs[i])(hok:∀r∈rs,r.ok w):
  Calls prog 210 #[.slice (some ⟨b,off,none⟩) rs.length cap] w fun e w'=>e=.returned (.bool (lF (aj rs)))/\af w w':=by
 have Y5:Hid ((aj rs).length=rs.length):=bf rs;have HL:=aC hl;have HF:=aC hf;have HCP:Hid (∀r∈rs,r.e.allow.length<=r.capA):=hcp;have HR:Hid (∀(i:Nat) (h:i<rs.length),yQ w b (off+i*5) rs[i]):=hr;have HO:=aC hok;clear hl hf hr hok hcp;by_cases hn:1<=rs.length/\rs.length<=15
 ·obtain⟨hn1,hn2⟩:=hn;go_enter func210,ntmps210;go_wp2_with fail;go_loopw[3,16] (fun o i wr=>∃k:Nat,k<=rs.length/\i=.int .i64 k/\o=.int .i64 (gG (aj rs) k:Nat)/\Hid (jw (aj rs) k=true)/\af w wr) (fun _ i _=>rs.length-(intOf i).toNat);case atStart=>exact⟨0,Wd _,rfl,rfl,(by show _=_;simp[jw]),V5 _ _⟩
  obtain⟨k,hk,rfl,rfl,HU,hB⟩:=hrel;by_cases hlt:k<rs.length
  ·have Ze:k<(aj rs).length:=by rw[Y5.out];exact hlt
   have HEK:Hid ((aj rs)[k]=rs[k].e):=by show _=_;simp[aj]
   obtain⟨t0,t1,t2,t3,t4⟩:=(HR.out k hlt).later hb hB;have hk1:=bC k;have hk2:(k:Int)<(rs.length:Int):=by omega
   have hol:=uV (aj rs) k;have hal:af w (wr.alloc (.cells #[.int .i64 rs[k].e.kind,.slice rs[k].adA rs[k].e.allow.length rs[k].capA,.string rs[k].e.over,.string rs[k].e.name,.slice rs[k].adK rs[k].e.kids.length rs[k].capK] 188)):=hB.alloc hB.size _;have XJ:=aC hal;clear hal;go_wp2_with fail;refine(JJ rs[k] _ (HF.out _ (VZ hlt)) (HL.out _ (VZ hlt)) ((HO.out _ (VZ hlt)).below XJ.out) (HCP.out _ (VZ hlt))).mono ?_;rintro e w1 ⟨rfl,hb1⟩;have hB1:af w w1:=XJ.out.trans (hb1.mono XJ.out.size);have g0:w1.cell? ⟨wr.heap.size,0,none⟩=some (.int .i64 rs[k].e.kind):=by rw[hb1.cell (p:=⟨wr.heap.size,0,none⟩) (by simp)];simp
   clear hb1 t0 t1 t2 t3 t4 XJ;cases Xu:ay rs[k].e;case false=>
    have HN:Hid (lF (aj rs)=false):=JK k Ze (by rw[HEK.out];exact Xu);go_wp2;go_ret;exact⟨by rw[HN.out];rfl,hB1⟩
   have HU2:Hid (jw (aj rs) (k+1)=true):=by show _=_;rw[uW _ _ Ze,HU.out,HEK.out,Xu];rfl
   have HOW:Hid (gG (aj rs) (k+1)=gG (aj rs) k+(if rs[k].e.kind=1 then 1 else 0)):=by show _=_;rw[zI _ _ Ze,HEK.out]
   by_cases hk1':rs[k].e.kind=1
   ·have HOW2:Hid (gG (aj rs) (k+1)=gG (aj rs) k+1):=by show _=_;rw[HOW.out,if_pos hk1']
    clear HOW;go_wp2;go_roundw;case rel=>exact⟨k+1,by omega,by go_num,by rw[HOW2.out];go_num,HU2,hB1⟩
    simp[intOf]<;>omega
   have HOW2:Hid (gG (aj rs) (k+1)=gG (aj rs) k):=by show _=_;rw[HOW.out,if_neg hk1'];rfl
   clear HOW;go_wp2;go_roundw;case rel=>exact⟨k+1,by omega,by go_num,by rw[HOW2.out],HU2,hB1⟩
   simp[intOf]<;>omega
  obtain rfl:k=rs.length:=by omega
  have HN:Hid ((aj rs).all ay=true):=by
   have:=HU.out;unfold jw at this;rwa [<-Y5.out,Wo]at this
  have HOW:Hid (gG (aj rs) rs.length=own (aj rs)):=by show _=_;unfold gG;rw[<-Y5.out,Wo]
  have hol:=uV (aj rs) rs.length;by_cases ho:gG (aj rs) rs.length<=1
  ·have HS:Hid (lF (aj rs)=vQ (aj rs)):=by
    show _=_;have h1:own (aj rs)<=1:=by rw[<-HOW.out];exact ho
    have e1:=Y5.out;unfold lF vQ;rw[e1,HN.out];simp[h1,hn1,hn2]
   go_wp2_with fail;refine(yY b off cap rs _ hn1 hn2 HL.out (VY hb hB.size) (fun i hi=>(HR.out i hi).later hb hB) (fun r hr=>(HO.out r hr).below hB)).mono ?_;rintro e w1 ⟨rfl,hb1⟩;go_wp2;go_ret;exact⟨by rw[HS.out];rfl,hB.trans (hb1.mono hB.size)⟩
  have HS:Hid (lF (aj rs)=false):=by
   show _=_;have h1:¬own (aj rs)<=1:=by rw[<-HOW.out];exact ho
   simp[lF,h1]
  go_wp2;go_ret;exact⟨by rw[HS.out];rfl,hB⟩
 have HN:Hid (lF (aj rs)=false):=MQ (by rw[Y5.out];exact hn);go_enter func210,ntmps210;go_wp2_with fail
 all_goals go_ret
 all_goals exact⟨by rw[HN.out];rfl,V5 _ _⟩
theorem A9(ad:Q02)(cap:Nat)(rs:Q08)(w:ae)(hlen:rs.length<=1048576)(hl:∀r∈rs,r.e.light)(hf:∀r∈rs,r.e.fits)(hcp:∀r∈rs,r.e.allow.length<=r.capA)(hs:jv w ad rs):
  Calls prog 210 #[.slice ad rs.length cap] w fun e w'=>e=.returned (.bool (lF (aj rs)))/\af w w':=by
 rcases hs with rfl|⟨b,off,rfl,hb,hr,hok⟩
 ·go_enter func210,ntmps210;go_wp2_with fail;go_ret;exact⟨rfl,V5 _ _⟩
 exact A8 b off cap rs w hlen hl hf hcp hb hr hok
end Go.Proofs.YtcgdckphpjfmhaaGreatDoor
