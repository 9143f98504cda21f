/- Contract of the program's function that tells whether a tuple fits a schema. -/
import Derived.Test.YtojjoblnpldniaaGreatSq
import Derived.Test.YtojjoblnpldniaaGreatImplSchema
import Derived.Test.YtojjoblnpldniaaGreatFits0
open Go.Proofs.Tryz
set_option maxHeartbeats 80000000
namespace Go.Proofs.YtojjoblnpldniaaGreat
open ChangeShapes WideShapes ChangeAt RowKit Maps
open Pl
def VV(rs:Q06)(l:Q03)(n:Nat)(v:Value)(w:World):Prop:=(n=8->∃b,v=.map (some b)/\aJ dU prog 146 w b 36 (qd rs))/\(n≠8->v=l.getD n undef)
theorem VV.same{rs:Q06}{l:Q03}{w:ae}:∀k u,VV rs l k u w->VV rs l k u w:=fun _ _ h=>h
theorem VV.later{rs:Q06}{l:Q03}{w w':ae}(hb:ag w w'):∀k u,VV rs l k u w->VV rs l k u w':=fun k u h=>⟨fun e=>by
 obtain⟨b,e1,e2⟩:=h.1 e;exact⟨b,e1,e2.below hb⟩,h.2⟩
set_option maxRecDepth 100000 in
theorem FH(ad:Q02)(cap:Nat)(rs:Q06)(oa ob r c d s:bQ)(w:ae)(hlen:rs.length<=1048576)(hs:mP w ad rs)(hl:∀r∈rs,r.light)(hf:∀r∈rs,r.fits)(hcp:∀r∈rs,r.caps)(ha:oa.size<=maxLen)(hb:ob.size<=maxLen)(hr:r.size<=maxLen)(hc:c.size<=maxLen)(hd:d.size<=maxLen)(hz:s.size<=maxLen):
  Calls prog 14 #[.slice ad rs.length cap,.agg #[.string oa,.string ob,.string r,.string c,.string d,.string s]] w fun e w'=>e=.returned (.bool (lh (af rs) oa ob r c d s))/\ag w w':=by
 have HS:=aC hs;have HL:=aC hl;have WR:=aC hf;have HCP:=aC hcp;clear hs hl hf hcp;obtain⟨W0,hW0⟩:∃W0,W0=w.alloc (.cells #[.string oa,.string ob,.string r,.string c,.string d,.string s] 29):=⟨_,rfl⟩;have hal:ag w W0:=by rw[hW0];exact(Vs _ _).alloc (Vr _) _
 have HB0:=aC hal;have hw0:w.heap.size<W0.heap.size:=by rw[hW0];simp
 have c0:W0.cell? ⟨w.heap.size,0,none⟩=some (.string oa):=by rw[hW0];simp
 have c1:W0.cell? ⟨w.heap.size,1,none⟩=some (.string ob):=by rw[hW0];simp
 have c2:W0.cell? ⟨w.heap.size,2,none⟩=some (.string r):=by rw[hW0];simp
 have c3:W0.cell? ⟨w.heap.size,3,none⟩=some (.string c):=by rw[hW0];simp
 have c4:W0.cell? ⟨w.heap.size,4,none⟩=some (.string d):=by rw[hW0];simp
 have c5:W0.cell? ⟨w.heap.size,5,none⟩=some (.string s):=by rw[hW0];simp
 clear hal;go_enter func14,ntmps14;go_wp2_with fail;rw[<-hW0];clear hW0;cases hd5:aN (af rs);case false=>
  have HN:Hid (lh (af rs) oa ob r c d s=false):=by show _=_;unfold lh;rw[hd5];rfl
  refine bR 12 (fun n=>(undef::undef::undef::undef::undef::undef::undef::undef::undef::undef::undef::undef::[]).getD n undef) (fun fq=>{ tmps:=List.toArray (Value.slice ad rs.length cap::.agg #[.string oa,.string ob,.string r,.string c,.string d,.string s]::undef::.pointer (some ⟨w.heap.size,0,none⟩)::.bool false::fq 0::fq 1::fq 2::fq 3::fq 4::fq 5::fq 6::fq 7::fq 8::fq 9::fq 10::fq 11::[]),defers:=[] }) (fun n v _=>v=(Value.slice ad rs.length cap::.bool false::.bool false::undef::undef::.bool false::.bool false::undef::undef::undef::undef::.bool false::[]).getD n undef) (fun w'=>ag W0 w') (by kernel_rfl) rfl (by kernel_rfl) (by kernel_rfl) rfl (Vs _ _).drew ?stepA ?finA;case stepA =>
   rintro i hi o ho fq w' hG hpre;have HG:Hid (ag W0 w'):=hG;replace c0:=aA hG hw0 c0;replace c1:=aA hG hw0 c1;replace c2:=aA hG hw0 c2;replace c3:=aA hG hw0 c3;replace c4:=aA hG hw0 c4;replace c5:=aA hG hw0 c5;have HM:Hid (∀e∈o.after,Region.binds .any e=true->_):=hpre;clear hG hpre;have hc:=KX (i:=i) (by omega);clear hi
   repeat' rcases hc with rfl|hc
   ·cases ho;refine aa rfl fun K HK=>?_;clear HM;dsimp only;go_simp;exact HK.out _ _ ⟨Value.slice ad rs.length cap,by simp[upd],HG.out,rfl,fun k u hu=>hu⟩
   ·cases ho;have e0:fq 0=.slice ad rs.length cap:=HM.out ⟨0,.data⟩ (by simp) rfl;refine aa rfl fun K HK=>?_;clear HM;simp only[e0];go_simp;refine(jY ad cap rs _ hlen (HS.out.below (HB0.out.trans (HG.out.mono HB0.out.size))) HL.out WR.out HCP.out).mono ?_;rintro e w5 ⟨rfl,hb5⟩;have XD:=aC hb5;have YU:=iJ HG hb5;rw[hd5];clear hb5;go_wp2_with fail;exact HK.out _ _ ⟨Value.bool false,by simp[upd,e0],YU.out,rfl,fun k u hu=>hu⟩
   iterate 10
    ·cases ho;have hm:=HM.out
     try simp[Region.binds]at hm
     refine aa rfl fun K HK=>?_;clear HM
     try simp only[hm]
     go_simp;exact HK.out _ _ ⟨_,by simp[upd, *],HG.out,rfl,fun k u hu=>hu⟩
  case finA =>
   rintro o ho fq w' hG hall;have e11:fq 11=.bool false:=hall 11 (by omega);have HG:=iJ HB0 hG;clear hG hall;cases ho;refine wpOp_step rfl (fun K hK=>?_);have HK:Hid (∀a w,_->K a w):=hK;clear hK;simp only[e11];go_simp;refine HK.out _ _ ?_;clear HK;go_wp2;go_ret;exact⟨by rw[HN.out];rfl,HG.out⟩
 have hSP:=bu.1 hd5;obtain⟨h6,Yt,-⟩:=bq hSP.1;have Ym:Hid (∀r∈rs,r.rows.length<=6):=Yt;have HTAB:Hid (Tab rs (qd rs)):=wX hSP.1;obtain⟨fi,hfi⟩:∃fi,fi=sW (af rs) oa r ⟨c,s⟩:=⟨_,rfl⟩;have HFI:Hid (fi=sW (af rs) oa r ⟨c,s⟩):=hfi;have HSM:Hid (fi=dG (aQ (az (af rs) oa r)) (aQ (az (af rs) oa r)).length ⟨c,s⟩):=by show _=_;rw[hfi];exact BF _ (LG hSP _ _)
 have HDT:Hid (aN (af rs)=true):=hd5;clear Yt hSP hfi;cases ht5:bz oa ob r c d s;case false=>
  have HN:Hid (lh (af rs) oa ob r c d s=false):=by show _=_;unfold lh pY;rw[ht5];simp
  refine bR 12 (fun n=>(undef::undef::undef::undef::undef::undef::undef::undef::undef::undef::undef::undef::[]).getD n undef) (fun fq=>{ tmps:=List.toArray (Value.slice ad rs.length cap::.agg #[.string oa,.string ob,.string r,.string c,.string d,.string s]::undef::.pointer (some ⟨w.heap.size,0,none⟩)::.bool false::fq 0::fq 1::fq 2::fq 3::fq 4::fq 5::fq 6::fq 7::fq 8::fq 9::fq 10::fq 11::[]),defers:=[] }) (fun n v _=>v=(Value.slice ad rs.length cap::.bool true::.bool true::.agg #[.string oa,.string ob,.string r,.string c,.string d,.string s]::.bool false::.bool false::.bool false::undef::undef::undef::undef::.bool false::[]).getD n undef) (fun w'=>ag W0 w') (by kernel_rfl) rfl (by kernel_rfl) (by kernel_rfl) rfl (Vs _ _).drew ?yu ?finB;case yu =>
   rintro i hi o ho fq w' hG hpre;have HG:Hid (ag W0 w'):=hG;replace c0:=aA hG hw0 c0;replace c1:=aA hG hw0 c1;replace c2:=aA hG hw0 c2;replace c3:=aA hG hw0 c3;replace c4:=aA hG hw0 c4;replace c5:=aA hG hw0 c5;have HM:Hid (∀e∈o.after,Region.binds .any e=true->_):=hpre;clear hG hpre;have hc:=KX (i:=i) (by omega);clear hi
   repeat' rcases hc with rfl|hc
   ·cases ho;refine aa rfl fun K HK=>?_;clear HM;dsimp only;go_simp;exact HK.out _ _ ⟨Value.slice ad rs.length cap,by simp[upd],HG.out,rfl,fun k u hu=>hu⟩
   ·cases ho;have e0:fq 0=.slice ad rs.length cap:=HM.out ⟨0,.data⟩ (by simp) rfl;refine aa rfl fun K HK=>?_;clear HM;simp only[e0];go_simp;refine(jY ad cap rs _ hlen (HS.out.below (HB0.out.trans (HG.out.mono HB0.out.size))) HL.out WR.out HCP.out).mono ?_;rintro e w5 ⟨rfl,hb5⟩;have XD:=aC hb5;have YU:=iJ HG hb5;rw[hd5];clear hb5;go_wp2_with fail;exact HK.out _ _ ⟨Value.bool true,by simp[upd,e0],YU.out,rfl,fun k u hu=>hu⟩
   iterate 2
    ·cases ho;have hm:=HM.out
     try simp[Region.binds]at hm
     refine aa rfl fun K HK=>?_;clear HM
     try simp only[hm]
     go_simp;exact HK.out _ _ ⟨_,by simp[upd, *],HG.out,rfl,fun k u hu=>hu⟩
   ·cases ho;have e3:fq 3=.agg #[.string oa,.string ob,.string r,.string c,.string d,.string s]:=HM.out ⟨3,.data⟩ (by simp) rfl;have e2:fq 2=.bool true:=HM.out ⟨2,.guard⟩ (by simp) rfl;refine aa rfl fun K HK=>?_;clear HM;simp only[e3,e2];go_simp;refine(dI oa ob r c d s _ ha hb hr hc hd hz).mono ?_;rintro e w5 ⟨rfl,hb5⟩;have XD:=aC hb5;have YU:=iJ HG hb5;rw[ht5];clear hb5;go_wp2_with fail;exact HK.out _ _ ⟨Value.bool false,by simp[upd,e3,e2],YU.out,rfl,fun k u hu=>hu⟩
   iterate 7
    ·cases ho;have hm:=HM.out
     try simp[Region.binds]at hm
     refine aa rfl fun K HK=>?_;clear HM
     try simp only[hm]
     go_simp;exact HK.out _ _ ⟨_,by simp[upd, *],HG.out,rfl,fun k u hu=>hu⟩
  case finB =>
   rintro o ho fq w' hG hall;have e11:fq 11=.bool false:=hall 11 (by omega);have HG:=iJ HB0 hG;clear hG hall;cases ho;refine wpOp_step rfl (fun K hK=>?_);have HK:Hid (∀a w,_->K a w):=hK;clear hK;simp only[e11];go_simp;refine HK.out _ _ ?_;clear HK;go_wp2;go_ret;exact⟨by rw[HN.out];rfl,HG.out⟩
 have HN:Hid (lh (af rs) oa ob r c d s=fi):=by show _=_;unfold lh pY;rw[ht5,HDT.out,HSM.out];simp
 refine bR 12 (fun n=>(undef::undef::undef::undef::undef::undef::undef::undef::undef::undef::undef::undef::[]).getD n undef) (fun fq=>{ tmps:=List.toArray (Value.slice ad rs.length cap::.agg #[.string oa,.string ob,.string r,.string c,.string d,.string s]::undef::.pointer (some ⟨w.heap.size,0,none⟩)::.bool false::fq 0::fq 1::fq 2::fq 3::fq 4::fq 5::fq 6::fq 7::fq 8::fq 9::fq 10::fq 11::[]),defers:=[] }) (VV rs (Value.slice ad rs.length cap::.bool true::.bool true::.agg #[.string oa,.string ob,.string r,.string c,.string d,.string s]::.bool true::.bool true::.bool true::.slice ad rs.length cap::undef::.agg #[.string oa,.string ob,.string r,.string c,.string d,.string s]::.bool fi::.bool fi::[])) (fun w'=>ag W0 w') (by kernel_rfl) rfl (by kernel_rfl) (by kernel_rfl) rfl (Vs _ _).drew ?stepC ?finC;case stepC =>
  rintro i hi o ho fq w' hG hpre;have HG:Hid (ag W0 w'):=hG;replace c0:=aA hG hw0 c0;replace c1:=aA hG hw0 c1;replace c2:=aA hG hw0 c2;replace c3:=aA hG hw0 c3;replace c4:=aA hG hw0 c4;replace c5:=aA hG hw0 c5;have HM:Hid (∀e∈o.after,Region.binds .any e=true->_):=hpre;clear hG hpre;have hc:=KX (i:=i) (by omega);clear hi
  repeat' rcases hc with rfl|hc
  ·cases ho;refine aa rfl fun K HK=>?_;clear HM;dsimp only;go_simp;exact HK.out _ _ ⟨Value.slice ad rs.length cap,by simp[upd],HG.out,⟨fun h=>absurd h (by decide),fun _=>rfl⟩,VV.same⟩
  ·cases ho;have e0:fq 0=.slice ad rs.length cap:=(HM.out ⟨0,.data⟩ (by simp) rfl).2 (by decide);refine aa rfl fun K HK=>?_;clear HM;simp only[e0];go_simp;refine(jY ad cap rs _ hlen (HS.out.below (HB0.out.trans (HG.out.mono HB0.out.size))) HL.out WR.out HCP.out).mono ?_;rintro e w5 ⟨rfl,hb5⟩;have XD:=aC hb5;have YU:=iJ HG hb5;rw[hd5];clear hb5;go_wp2_with fail;exact HK.out _ _ ⟨Value.bool true,by simp[upd,e0],YU.out,⟨fun h=>absurd h (by decide),fun _=>rfl⟩,VV.later XD.out⟩
  ·cases ho;have e1:fq 1=.bool true:=(HM.out ⟨1,.data⟩ (by simp) rfl).2 (by decide);refine aa rfl fun K HK=>?_;clear HM;simp only[e1];go_simp;exact HK.out _ _ ⟨Value.bool true,by simp[upd,e1],HG.out,⟨fun h=>absurd h (by decide),fun _=>rfl⟩,VV.same⟩
  ·cases ho;have e2:fq 2=.bool true:=(HM.out ⟨2,.guard⟩ (by simp) rfl).2 (by decide);refine aa rfl fun K HK=>?_;clear HM;simp only[e2];go_simp;exact HK.out _ _ ⟨Value.agg #[.string oa,.string ob,.string r,.string c,.string d,.string s],by simp[upd,e2],HG.out,⟨fun h=>absurd h (by decide),fun _=>rfl⟩,VV.same⟩
  ·cases ho;have e3:fq 3=.agg #[.string oa,.string ob,.string r,.string c,.string d,.string s]:=(HM.out ⟨3,.data⟩ (by simp) rfl).2 (by decide);have e2:fq 2=.bool true:=(HM.out ⟨2,.guard⟩ (by simp) rfl).2 (by decide);refine aa rfl fun K HK=>?_;clear HM;simp only[e3,e2];go_simp;refine(dI oa ob r c d s _ ha hb hr hc hd hz).mono ?_;rintro e w5 ⟨rfl,hb5⟩;have XD:=aC hb5;have YU:=iJ HG hb5;rw[ht5];clear hb5;go_wp2_with fail;exact HK.out _ _ ⟨Value.bool true,by simp[upd,e3,e2],YU.out,⟨fun h=>absurd h (by decide),fun _=>rfl⟩,VV.later XD.out⟩
  ·cases ho;have e2:fq 2=.bool true:=(HM.out ⟨2,.data⟩ (by simp) rfl).2 (by decide);have e4:fq 4=.bool true:=(HM.out ⟨4,.data⟩ (by simp) rfl).2 (by decide);refine aa rfl fun K HK=>?_;clear HM;simp only[e2,e4];go_simp;exact HK.out _ _ ⟨Value.bool true,by simp[upd,e2,e4],HG.out,⟨fun h=>absurd h (by decide),fun _=>rfl⟩,VV.same⟩
  ·cases ho;have e5:fq 5=.bool true:=(HM.out ⟨5,.data⟩ (by simp) rfl).2 (by decide);refine aa rfl fun K HK=>?_;clear HM;simp only[e5];go_simp;exact HK.out _ _ ⟨Value.bool true,by simp[upd,e5],HG.out,⟨fun h=>absurd h (by decide),fun _=>rfl⟩,VV.same⟩
  ·cases ho;have e6:fq 6=.bool true:=(HM.out ⟨6,.guard⟩ (by simp) rfl).2 (by decide);refine aa rfl fun K HK=>?_;clear HM;simp only[e6];go_simp;exact HK.out _ _ ⟨Value.slice ad rs.length cap,by simp[upd,e6],HG.out,⟨fun h=>absurd h (by decide),fun _=>rfl⟩,VV.same⟩
  ·cases ho;have e7:fq 7=.slice ad rs.length cap:=(HM.out ⟨7,.data⟩ (by simp) rfl).2 (by decide);have e6:fq 6=.bool true:=(HM.out ⟨6,.guard⟩ (by simp) rfl).2 (by decide);refine aa rfl fun K HK=>?_;clear HM;simp only[e7,e6];go_simp;refine(qN ad cap rs _ h6 (HS.out.below (HB0.out.trans (HG.out.mono HB0.out.size))) Ym.out WR.out).mono ?_;rintro e w5 ⟨rfl,hmv5,hb5⟩;have XD:=aC hb5;have YU:=iJ HG hb5;have HMV5:=aC hmv5;clear hmv5;clear hb5;go_wp2_with fail;exact HK.out _ _ ⟨Value.map (some w'.heap.size),by simp[upd,e7,e6],YU.out,⟨fun _=>⟨_,rfl,HMV5.out⟩,fun h=>absurd rfl h⟩,VV.later XD.out⟩
  ·cases ho;have e6:fq 6=.bool true:=(HM.out ⟨6,.guard⟩ (by simp) rfl).2 (by decide);refine aa rfl fun K HK=>?_;clear HM;simp only[e6];go_simp;exact HK.out _ _ ⟨Value.agg #[.string oa,.string ob,.string r,.string c,.string d,.string s],by simp[upd,e6],HG.out,⟨fun h=>absurd h (by decide),fun _=>rfl⟩,VV.same⟩
  ·cases ho;obtain⟨bm,e8,hmv⟩:=(HM.out ⟨8,.data⟩ (by simp) rfl).1 rfl;have e9:fq 9=.agg #[.string oa,.string ob,.string r,.string c,.string d,.string s]:=(HM.out ⟨9,.data⟩ (by simp) rfl).2 (by decide);have e6:fq 6=.bool true:=(HM.out ⟨6,.guard⟩ (by simp) rfl).2 (by decide);refine aa rfl fun K HK=>?_;clear HM;simp only[e8,e9,e6];go_simp;refine(Hq bm 36 rs ad (qd rs) oa ob r c d s _ hmv HTAB.out (HS.out.below (HB0.out.trans (HG.out.mono HB0.out.size))) HL.out ha hr).mono ?_;rintro e w5 ⟨rfl,hb5⟩;have XD:=aC hb5;have YU:=iJ HG hb5;rw[<-HFI.out];clear hb5;go_wp2_with fail;exact HK.out _ _ ⟨Value.bool fi,by simp[upd,e8,e9,e6],YU.out,⟨fun h=>absurd h (by decide),fun _=>rfl⟩,VV.later XD.out⟩
  cases ho;have e6:fq 6=.bool true:=(HM.out ⟨6,.data⟩ (by simp) rfl).2 (by decide);have e10:fq 10=.bool fi:=(HM.out ⟨10,.data⟩ (by simp) rfl).2 (by decide);refine aa rfl fun K HK=>?_;clear HM;simp only[e6,e10];go_simp;exact HK.out _ _ ⟨Value.bool fi,by simp[upd,e6,e10],HG.out,⟨fun h=>absurd h (by decide),fun _=>rfl⟩,VV.same⟩
 case finC =>
  rintro o ho fq w' hG hall;have e11:fq 11=.bool fi:=(hall 11 (by omega)).2 (by decide);have HG:=iJ HB0 hG;clear hG hall;cases ho;refine wpOp_step rfl (fun K hK=>?_);have HK:Hid (∀a w,_->K a w):=hK;clear hK;simp only[e11];go_simp;refine HK.out _ _ ?_;clear HK;go_wp2;go_ret;exact⟨by rw[HN.out];rfl,HG.out⟩
end Go.Proofs.YtojjoblnpldniaaGreat
