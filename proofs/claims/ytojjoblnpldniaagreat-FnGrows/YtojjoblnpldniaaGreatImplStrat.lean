/- Contract of the program's function on strata. -/
import Derived.Test.YtojjoblnpldniaaGreatSq
import Derived.Test.YtojjoblnpldniaaGreatJ21
import Derived.Test.YtojjoblnpldniaaGreatImplTypes
open Go.Proofs.Tryz
set_option maxHeartbeats 80000000
namespace Go.Proofs.YtojjoblnpldniaaGreat
open ChangeShapes WideShapes ChangeAt RowKit Maps
open Pl
def H5(ts:Q0b)(w:World)(e:Ending)(w':World):Prop :=
 ((∃(b n:Nat) (σ:Ky->Option Int),e=.returned (.tuple #[.map (some b),.bool true])/\bP ts/\aJ dU prog 146 w' b n (iW σ)/\Least ts (fun k=>(σ k).getD 0)/\∀k,(∃x,σ k=some x)↔k∈ak ts)\/(e=.returned (.tuple #[.map none,.bool false])/\¬bP ts))/\ag w w'
set_option maxRecDepth 100000 in
theorem wC(ad:Q02)(cap:Nat)(rs:Q06)(w:ae)(hlen:rs.length<=1048576)(hs:mP w ad rs)(hl:∀r∈rs,r.light)(hf:∀r∈rs,r.fits)(hcp:∀r∈rs,r.caps):
  Calls prog 112 #[.slice ad rs.length cap] w (H5 (af rs) w):=by
 have HS:=aC hs;have HL:=aC hl;have WR:=aC hf;have Y3:=aC hcp;clear hs hl hf hcp;go_enter func112,ntmps112;go_wp2_with fail;refine(Hz ad cap rs _ hlen HS.out HL.out WR.out Y3.out).mono ?_;rintro e w1 ⟨rfl,hb1⟩;have HB1:=aC hb1;clear hb1;cases hsh:aY (af rs);case false=>
  have HP:Hid (H5 (af rs) w (.returned (.tuple #[.map none,.bool false])) w1):=⟨.inr ⟨rfl,fun h=>by rw[h.1]at hsh;cases hsh⟩,HB1.out⟩;go_wp2;refine bodyPost_ret (v:=.tuple #[.map none,.bool false]) ?_ rfl HP.out;simp[results,Tryz.results112,go_sem]
 have HSH:Hid (aY (af rs)=true):=hsh;obtain⟨h6,Yt,hex⟩:=bq hsh;have Ym:Hid (∀r∈rs,r.rows.length<=6):=Yt;have HEX:Hid (∀r∈rs,∀q∈r.rows,aK (aj q.rows)=true/\q.rows.length<=15/\∀e∈q.rows,eT q.rows.length e.e.kids):=hex;have HT:Hid (Tab rs (qd rs)):=wX hsh;clear hsh Yt hex;go_wp2_with fail;refine(qN ad cap rs _ h6 (HS.out.below HB1.out) Ym.out WR.out).mono ?_;rintro e w2 ⟨rfl,hV2,hb2⟩;have HB2:=iJ HB1 hb2;obtain⟨bT,hbT⟩:∃bT,bT=w1.heap.size:=⟨_,rfl⟩;rw[<-hbT]at hV2 ⊢;have HV2:Hid (aJ dU prog 146 w2 bT 36 (qd rs)):=hV2;clear hV2 hb2 hbT HB1;go_wp2_with fail;go_loopw[16] (fun i wr=>∃k:Nat,k<=rs.length/\i=.int .i64 k/\Hid (((af rs).take k).all (qL (af rs))=true)/\Hid (ag w wr)/\Hid (aJ dU prog 146 wr bT 36 (qd rs))) (fun i _=>rs.length-(intOf i).toNat);case atStart=>exact⟨0,Vv _,rfl,(by show _=_;simp),HB2,HV2⟩
 clear HB2 HV2;obtain⟨k,hk,rfl,HP,HB,HV⟩:=hrel;by_cases hlt:k<rs.length
 ·rcases HS.out.below HB.out with rfl|⟨b,off,rfl,hb,hr,-⟩
  ·simp at hlt
  obtain⟨t0,t1⟩:=hr k hlt;have hk1:=bC k;have hk2:(k:Int)<(rs.length:Int):=by omega
  have h66:=Ym.out _ (Vp hlt);have z0:rs[k].name.size<=maxLen:=(WR.out _ (Vp hlt)).1;obtain⟨W1,hW1⟩:∃W1,W1=wr.alloc (.cells #[.string rs[k].name,.slice rs[k].ad rs[k].rows.length rs[k].cap] 36):=⟨_,rfl⟩;have hal:ag wr W1:=by rw[hW1];exact(Vs _ _).alloc (Vr _) _
  obtain⟨g6,ZR⟩:∃g6,g6=wr.heap.size:=⟨_,rfl⟩;have XC:Hid (W1.cell? ⟨g6,0,none⟩=some (.string rs[k].name)/\g6<W1.heap.size):=⟨by rw[hW1,ZR];simp,by rw[hW1,ZR];simp⟩;have HB1:=iJ HB hal;have HV1:=aC (HV.out.below hal);clear hr hal HB HV;go_wp2_with fail;rw[<-hW1,<-ZR];clear hW1 t0 t1 ZR;go_loopw[23] (fun i w3=>∃j:Nat,j<=rs[k].rows.length/\i=.int .i64 j/\Hid (((eQ rs[k].rows).take j).all (fun r=>aR (af rs) rs[k].name r.expr)=true)/\Hid (ag w w3)/\Hid (aJ dU prog 146 w3 bT 36 (qd rs))/\Hid (w3.cell? ⟨g6,0,none⟩=some (.string rs[k].name)/\g6<w3.heap.size)) (fun i _=>rs[k].rows.length-(intOf i).toNat);case atStart=>exact⟨0,Vv _,rfl,(by show _=_;simp),HB1,HV1,XC⟩
  clear HB1 HV1 XC;obtain⟨j,hj,rfl,HR,HB,HV,HC⟩:=hrel;by_cases hjl:j<rs[k].rows.length
  ·rcases HS.out.below HB.out with hnil|⟨b',off',he,hb2,hr,hok⟩
   ·rw[hnil]at hlt;simp at hlt
   injection he with he;injection he with he1 he2;subst he1;subst he2;have ok:=hok rs[k] (Vp hlt);rcases ok with hnil|⟨b2,Xd,had,hbb,hr2,hok2⟩
   ·rw[hnil]at hjl;simp at hjl
   obtain⟨q0,q1⟩:=hr2 j hjl;have Y5:Hid (jw wr rs[k].rows[j].ad rs[k].rows[j].rows):=hok2 _ (Vp hjl);have Y4:Hid (rs[k].rows[j].light):=(HL.out _ (Vp hlt)).2 _ (Vp hjl);have YO:Hid (rs[k].rows[j].fits):=(WR.out _ (Vp hlt)).2.2 _ (Vp hjl);have HNB:Hid (∀q∈rs[k].rows[j].rows,av q.e=true):=fun q hq=>jr (HEX.out _ (Vp hlt) _ (Vp hjl)).1 q.e (by unfold aj;exact VY hq);have hj1:=bC j;have hj2:(j:Int)<(rs[k].rows.length:Int):=by omega
   obtain⟨x0,x1⟩:=HC.out;obtain⟨W3,hW3⟩:∃W3,W3=wr.alloc (.cells #[.string rs[k].rows[j].name,.slice rs[k].rows[j].ad rs[k].rows[j].rows.length rs[k].rows[j].cap] 39):=⟨_,rfl⟩;have hal:ag wr W3:=by rw[hW3];exact(Vs _ _).alloc (Vr _) _
   have HB3:=iJ HB hal;have HV3:=aC (HV.out.below hal);have WX:=aC hal;have ZF:Hid (W3.cell? ⟨g6,0,none⟩=some (.string rs[k].name)/\g6<W3.heap.size):=⟨aA hal x1 x0,Vq x1 hal.size⟩;have HTS:Hid ((eQ rs[k].rows).take (j+1)=(eQ rs[k].rows).take j++[rs[k].rows[j].p]):=Ha rs[k].rows j hjl;rw[had];clear hr hok hr2 hok2 hal HB HV HC;go_wp2_with fail;rw[<-hW3];clear hW3 q0 q1 x0 x1;refine(Bw (some ⟨b,off,none⟩) rs[k].rows[j].ad cap rs[k].rows[j].cap rs bT 36 (qd rs) rs[k].name rs[k].rows[j].rows _ hlen (HS.out.below HB3.out) HL.out WR.out HV3.out HT.out z0 Y4.out.1 (Y5.out.below WX.out) Y4.out.2 YO.out.2.2 HNB.out).mono ?_;rintro e w5 ⟨rfl,hb5⟩;have XD:=iJ HB3 hb5;have HV5:=aC (HV3.out.below hb5);have HC5:Hid (w5.cell? ⟨g6,0,none⟩=some (.string rs[k].name)/\g6<w5.heap.size):=⟨aA hb5 ZF.out.2 ZF.out.1,Vq ZF.out.2 hb5.size⟩;clear hb5;cases hrf:aR (af rs) rs[k].name (aj rs[k].rows[j].rows);case false=>
    have HPO:Hid (H5 (af rs) w (.returned (.tuple #[.map none,.bool false])) w5):=by
     refine⟨.inr ⟨rfl,fun hs=>?_⟩,XD.out⟩;have h1:=hs.2.1;unfold iq at h1;rw[VC]at h1;have h2:=h1 rs[k].p (by unfold af;exact VY (Vp hlt));unfold qL at h2;rw[VC]at h2;have h3:=h2 rs[k].rows[j].p (by show _∈eQ rs[k].rows;unfold eQ;exact VY (Vp hjl));have h4:aR (af rs) rs[k].name (aj rs[k].rows[j].rows)=true:=h3;rw[hrf]at h4;cases h4
    go_wp2;refine bodyPost_ret (v:=.tuple #[.map none,.bool false]) ?_ rfl HPO.out;simp[results,Tryz.results112,go_sem]
   have Yk:Hid (((eQ rs[k].rows).take (j+1)).all (fun r=>aR (af rs) rs[k].name r.expr)=true):=by
    show _=_;rw[HTS.out,WC,HR.out];have:aR (af rs) rs[k].name rs[k].rows[j].p.expr=true:=hrf;simp[this]
   go_wp2;go_roundw;case rel=>exact⟨j+1,by omega,by go_num,Yk,XD,HV5,HC5⟩
   simp[intOf]<;>omega
  obtain rfl:j=rs[k].rows.length:=by omega
  have HPN:Hid (((af rs).take (k+1)).all (qL (af rs))=true):=by
   show _=_;rw[G9 rs k hlt,WC,HP.out];have h1:=HR.out;rw[<-rM,VI]at h1;have:qL (af rs) rs[k].p=true:=h1;simp[this]
  go_wp2;go_roundw;case rel=>exact⟨k+1,by omega,by go_num,HPN,HB,HV⟩
  simp[intOf]<;>omega
 obtain rfl:k=rs.length:=by omega
 have Zd:Hid (iq (af rs)=true):=by
  have h1:=HP.out;rw[<-lw,VI]at h1;exact h1
 go_wp2_with fail;refine(Cu ad cap rs bT 36 (qd rs) _ h6 (HS.out.below HB.out) HL.out WR.out Ym.out (fun r hr q hq=>(HEX.out r hr q hq).2) (QI HSH.out) HV.out HT.out).mono ?_;rintro e w5 ⟨rfl,⟨nL,ML,hG5⟩,hb5⟩;have XD:=iJ HB hb5;have YU:Hid (Grp w5 wr.heap.size nL ML (jo (af rs) rs)):=hG5;clear hG5 hb5;go_wp2_with fail;refine(yG ad cap rs wr.heap.size nL ML (jo (af rs) rs) _ h6 (HS.out.below XD.out) WR.out Ym.out YU.out (Si HSH.out Zd.out) (kG Zd.out) (NE rs Ym.out HEX.out (QI HSH.out))).mono ?_;rintro e w6 ⟨hL,hb6⟩;have Ze:=iJ XD hb6;clear hb6;rcases hL with⟨bS,nS,σ,rfl,hM,YV,hk⟩|⟨rfl,hno⟩
 ·have HPO:Hid (H5 (af rs) w (.returned (.tuple #[.map (some bS),.bool true])) w6):=⟨.inl ⟨bS,nS,σ,rfl,⟨HSH.out,Zd.out,_,YV.sol⟩,hM,YV,hk⟩,Ze.out⟩;clear hM YV hk;go_wp2;refine bodyPost_ret (v:=.tuple #[.map (some bS),.bool true]) ?_ rfl HPO.out;simp[results,Tryz.results112,go_sem]
 have HPO:Hid (H5 (af rs) w (.returned (.tuple #[.map none,.bool false])) w6):=⟨.inr ⟨rfl,fun h=>hno h.2.2⟩,Ze.out⟩;clear hno;go_wp2;refine bodyPost_ret (v:=.tuple #[.map none,.bool false]) ?_ rfl HPO.out;simp[results,Tryz.results112,go_sem]
end Go.Proofs.YtojjoblnpldniaaGreat
