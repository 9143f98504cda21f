/- Contract of the document's function on schemas. -/
import Derived.Test.YtojjoblnpldniaaGreatSq
import Derived.Test.YtojjoblnpldniaaGreatSpecSchema10
import Derived.Test.YtojjoblnpldniaaGreatJ15
open Go.Proofs.Tryz
set_option maxHeartbeats 80000000
namespace Go.Proofs.YtojjoblnpldniaaGreat
open Go.Sort
open ChangeShapes WideShapes ChangeAt RowKit
open Pl
def vW(ts:Q0b)(n:ByteArray):Nat->Bool
 | 0=>true
 | i+1=>(ts[i]?.map fun p=>ji p.name n).getD true
def yo(ts:List Rl)(n:ByteArray):Nat->Bool
 | 0=>true
 | i+1=>(ts[i]?.map fun p=>ji p.name n).getD true
theorem DN{rs:Q06}{k:Nat}(h:k<rs.length):kF (af rs) k=(aP rs[k].name&&vW (af rs) rs[k].name k&&decide (rs[k].rows.length<=6)&&dJ (eQ rs[k].rows) rs[k].rows.length):=by
 unfold kF;have e:(af rs)[k]?=some rs[k].p:=by simp[af,h]
 rw[e];have e2:rs[k].p.rels.length=rs[k].rows.length:=by simp[TR.p,eQ]
 simp only[e2];cases k<;>rfl
theorem DR{rs:Q07}{k:Nat}(h:k<rs.length):mg (eQ rs) k=(aP rs[k].name&&yo (eQ rs) rs[k].name k&&aK (aj rs[k].rows)):=by
 unfold mg;have e:(eQ rs)[k]?=some rs[k].p:=by simp[eQ,h]
 rw[e];cases k<;>rfl
theorem Bf{rs:Q06}{n:ByteArray}{k m:Nat}(hk:k=m+1)(h0:m<rs.length):vW (af rs) n k=ji rs[m].name n:=by
 subst hk;have e:(af rs)[m]?=some rs[m].p:=by simp[af,h0]
 simp only[vW,e];rfl
theorem Bg{rs:Q07}{n:ByteArray}{k m:Nat}(hk:k=m+1)(h0:m<rs.length):yo (eQ rs) n k=ji rs[m].name n:=by
 subst hk;have e:(eQ rs)[m]?=some rs[m].p:=by simp[eQ,h0]
 simp only[yo,e];rfl
theorem Bh{ts:Q0b}{n:ByteArray}{k:Nat}(hk:k=0):vW ts n k=true:=by subst hk;rfl
theorem Bi{ts:List Rl}{n:ByteArray}{k:Nat}(hk:k=0):yo ts n k=true:=by subst hk;rfl
theorem R9{P:Program}{c:Code}{Q:Exit->Act->World->Prop}{a:Act}{w:ae}(H:(Act->World->Prop)->Prop)(hc:H (Q .normal))(hr:H (Q .normal)->c.wp P Q a w):c.wp P Q a w:=hr hc
theorem G9(rs:Q06)(k:Nat)(h:k<rs.length):(af rs).take (k+1)=(af rs).take k++[rs[k].p]:=by
 rw[Vu (by rw[lw];exact h)];simp[af]
theorem Ha(rs:Q07)(k:Nat)(h:k<rs.length):(eQ rs).take (k+1)=(eQ rs).take k++[rs[k].p]:=by
 rw[Vu (by rw[rM];exact h)];simp[eQ]
theorem keepR{wr W w':ae}{b b2 o1 o2 o3:Nat}{x y z:Value}(h:W.cell? ⟨b,o1,none⟩=some x/\W.cell? ⟨b,o2,none⟩=some y/\W.cell? ⟨b2,o3,none⟩=some z/\b<W.heap.size/\b2<W.heap.size/\ag wr W)(hb:ag W w'):
  w'.cell? ⟨b,o1,none⟩=some x/\w'.cell? ⟨b,o2,none⟩=some y/\w'.cell? ⟨b2,o3,none⟩=some z/\b<w'.heap.size/\b2<w'.heap.size/\ag wr w' :=
 ⟨aA hb h.2.2.2.1 h.1,aA hb h.2.2.2.1 h.2.1,aA hb h.2.2.2.2.1 h.2.2.1,Vq h.2.2.2.1 hb.size,Vq h.2.2.2.2.1 hb.size,h.2.2.2.2.2.trans (hb.mono h.2.2.2.2.2.size)⟩
theorem J3{rs:Q06}{k:Nat}(hk:k<rs.length)(h:kF (af rs) k=false):¬bP (af rs):=fun hs=>by
 have h1:=hs.1;simp only[aY,Vt]at h1;rw[ul _ k h _ (by rw[lw];exact hk)]at h1;cases h1.2
set_option maxRecDepth 100000 in
theorem jX(ad:Q02)(cap:Nat)(rs:Q06)(w:ae)(hlen:rs.length<=1048576)(hs:mP w ad rs)(hl:∀r∈rs,r.light)(hf:∀r∈rs,r.fits):
  Calls prog 100 #[.slice ad rs.length cap] w fun e w'=>e=.returned (.bool (aN (af rs)))/\ag w w':=by
 have HS:=aC hs;have HL:=aC hl;have WR:=aC hf;clear hs hl hf;by_cases h6:6<rs.length
 ·have HN:Hid (¬bP (af rs)):=fun h=>by have:=(bq h.1).1;omega
  go_enter func100,ntmps100;go_wp2;go_ret;exact⟨ah (dP HN.out).symm,Vs _ _⟩
 go_enter func100,ntmps100;go_wp2;go_loopw[3] (fun i wr=>∃k:Nat,k<=rs.length/\i=.int .i64 k/\Hid (iD (af rs) k=true)/\Hid (ag w wr)) (fun i _=>rs.length-(intOf i).toNat);case atStart=>exact⟨0,Vv _,rfl,rfl,Vs _ _⟩
 obtain⟨k,hk,rfl,HP,HB⟩:=hrel;by_cases hlt:k<rs.length
 ·rcases HS.out.below HB.out with rfl|⟨b,off,rfl,hb,hr,hok⟩
  ·simp at hlt
  obtain⟨t0,t1⟩:=hr k hlt;have XN:Hid (rs[k].ok wr):=hok rs[k] (Vp hlt);have HSW:=aC (HS.out.below HB.out);have z0:rs[k].name.size<=maxLen:=(WR.out _ (Vp hlt)).1;have hk1:=bC k;have hk2:(k:Int)<(rs.length:Int):=by omega
  have HTP:Hid (∀(m:Nat) (h:m<rs.length),wr.cell? ⟨b,off+m*2,none⟩=some (.string rs[m].name)):=fun m h=>(hr m h).1;have HTA:=DN hlt;have HTH:Hid (kF (af rs) k=_):=HTA;have HBAD:Hid (kF (af rs) k=false->¬bP (af rs)):=J3 hlt;clear hr hok HTA;go_wp2_with fail;refine R9 (fun K=>∀(v0 v1 v2 v3 v4 v5 v6 v7 v8 v9 v10 v11 v12 v13 v14 v15 v16 v17 v18 v19 v20 v21 v22 v23 v24 v25 v26 v27 v28 v29 v30 v31 v32:Value) (w':World),ag wr w'->kF (af rs) k=dJ (eQ rs[k].rows) rs[k].rows.length->K { tmps:=List.toArray (Value.slice (some ⟨b,off,none⟩) rs.length cap::undef::u2::.int .i64 k::u4::u5::undef::undef::undef::undef::.slice (some ⟨b,off,none⟩) rs.length cap::.int .i64 rs.length::.bool (decide (6<(rs.length:Int)))::.int .i64 k::.slice (some ⟨b,off,none⟩) rs.length cap::.int .i64 rs.length::.bool true::u17::u18::v0::v1::v2::v3::v4::v5::v6::v7::v8::v9::v10::v11::v12::v13::v14::v15::v16::v17::v18::v19::v20::v21::v22::v23::v24::v25::v26::v27::v28::v29::v30::v31::v32::.bool false::u53::u54::u55::u56::u57::u58::u59::u60::u61::u62::u63::u64::u65::u66::u67::u68::u69::u70::u71::u72::u73::u74::u75::u76::u77::u78::u79::u80::u81::u82::u83::u84::u85::u86::u87::u88::u89::u90::u91::u92::u93::u94::u95::u96::u97::u98::u99::undef::undef::undef::undef::undef::undef::undef::undef::undef::undef::undef::undef::undef::undef::undef::undef::undef::undef::undef::undef::undef::undef::undef::undef::undef::undef::undef::undef::undef::undef::undef::undef::undef::undef::undef::undef::undef::undef::undef::[]),defers:=[] } w') ?cont6 ?reg6;case cont6 =>
   intro v0 v1 v2 v3 v4 v5 v6 v7 v8 v9 v10 v11 v12 v13 v14 v15 v16 v17 v18 v19 v20 v21 v22 v23 v24 v25 v26 v27 v28 v29 v30 v31 v32 w' hG hpre;have HG:Hid (ag wr w'):=hG;have ZC:Hid (kF (af rs) k=dJ (eQ rs[k].rows) rs[k].rows.length):=hpre;clear hG hpre;obtain⟨wo,hwo⟩:∃wo,wo=wr:=⟨_,rfl⟩;subst hwo;have HB1:Hid (ag w w'):=HB.out.trans (HG.out.mono HB.out.size);have lgT:=(HL.out _ (Vp hlt)).1;have HLT:Hid (∀q∈rs[k].rows,q.light):=(HL.out _ (Vp hlt)).2;have YQ:Hid (∀q∈rs[k].rows,q.fits):=(WR.out _ (Vp hlt)).2.2;have HBAD2:Hid (∀j,j<rs[k].rows.length->mg (eQ rs[k].rows) j=false->¬bP (af rs)):=fun j hj h=>HBAD.out (by rw[ZC.out];exact uk _ j h _ hj);clear t0 t1 HTP HSW XN;go_wp2_with fail;go_loopw[4] (fun i w2=>∃j:Nat,j<=rs[k].rows.length/\i=.int .i64 j/\Hid (dJ (eQ rs[k].rows) j=true)/\Hid (ag w w2)) (fun i _=>rs[k].rows.length-(intOf i).toNat);case atStart=>exact⟨0,Vv _,rfl,rfl,HB1⟩
   clear HB1 HG HB;obtain⟨j,hj,rfl,HRU,HB⟩:=hrel;rcases HS.out.below HB.out with rfl|⟨b',off',he,hb2,hr,hok⟩
   ·simp at hlt
   injection he with he;injection he with he1 he2;subst he1;subst he2;obtain⟨t0,t1⟩:=hr k hlt;have XN:Hid (rs[k].ok wr):=hok rs[k] (Vp hlt);clear hr hok;by_cases hjl:j<rs[k].rows.length
   ·rcases XN.out with hnil|⟨b2,Xd,had,hbb,hr2,hok2⟩
    ·rw[hnil]at hjl;simp at hjl
    rw[had]at t1;obtain⟨q0,q1⟩:=hr2 j hjl;have HQ:Hid (∀(m:Nat) (h:m<rs[k].rows.length),wr.cell? ⟨b2,Xd+m*2,none⟩=some (.string rs[k].rows[m].name)):=fun m h=>(hr2 m h).1;have Y5:Hid (jw wr rs[k].rows[j].ad rs[k].rows[j].rows):=hok2 _ (Vp hjl);have z1:rs[k].rows[j].name.size<=maxLen:=(YQ.out _ (Vp hjl)).1;have Y4:Hid (rs[k].rows[j].light):=HLT.out _ (Vp hjl);have YO:Hid (rs[k].rows[j].fits):=YQ.out _ (Vp hjl);have hj1:=bC j;have hj2:(j:Int)<(rs[k].rows.length:Int):=by omega
    have HRG:Hid (mg (eQ rs[k].rows) j=_):=DR hjl;obtain⟨W1,hW1⟩:∃W1,W1=wr.alloc (.cells #[.string rs[k].rows[j].name,.slice rs[k].rows[j].ad rs[k].rows[j].rows.length rs[k].rows[j].cap] 39):=⟨_,rfl⟩;have hal:ag wr W1:=by rw[hW1];exact(Vs _ _).alloc (Vr _) _
    have WX:=aC hal;have hgl:wr.heap.size<W1.heap.size:=by rw[hW1];simp
    have g0:W1.cell? ⟨wr.heap.size,0,none⟩=some (.string rs[k].rows[j].name):=by rw[hW1];simp
    have g1:W1.cell? ⟨wr.heap.size,1,none⟩=some (.slice rs[k].rows[j].ad rs[k].rows[j].rows.length rs[k].rows[j].cap):=by rw[hW1];simp
    have d1:=aA hal hb2 t1;have hb3:b<W1.heap.size:=Nat.lt_trans hb2 hgl;have hb4:b2<W1.heap.size:=Nat.lt_trans hbb hgl;clear hr2 hok2;go_wp2_with fail;rw[<-hW1];clear hW1 t0 q0 q1 hal t1;have p0:=cell_regrown g0;have p1:=cell_regrown g1;have p2:=cell_regrown d1;have Xy:Hid (∀d os,Calls prog 126 #[.string rs[k].rows[j].name] (grow (redrawn W1 d) os) fun e w''=>e=.returned (.bool (aP rs[k].rows[j].name))/\∃p:Regrown,w''=grow (redrawn W1 p.d) p.os):=by
     refine jT fun W'=>?_;exact aS _ _ z1
    have HCE:Hid (∀d os,Calls prog 174 #[.slice rs[k].rows[j].ad rs[k].rows[j].rows.length rs[k].rows[j].cap] (grow (redrawn W1 d) os) fun e w''=>e=.returned (.bool (aK (aj rs[k].rows[j].rows)))/\∃p:Regrown,w''=grow (redrawn W1 p.d) p.os):=by
     refine dm fun W' hb=>?_;exact mr _ _ rs[k].rows[j].rows _ Y4.out.1 Y4.out.2 YO.out.2.2 (Y5.out.below (WX.out.trans (hb.mono WX.out.size)))
    have Xq:Hid (∀d os,ag w (grow (redrawn W1 d) os)):=fun d os=>HB.out.trans ((WX.out.mono HB.out.size).trans ((below_regrown W1 d os).mono (Vz HB.out.size WX.out.size)));cases hnm:aP rs[k].rows[j].name;case false=>
     rw[hnm]at Xy;have HN:Hid (¬bP (af rs)):=HBAD2.out j hjl (by rw[HRG.out];simp[hnm]);refine wp_region_quiet_below (by kernel_rfl) (by kernel_rfl) ?_
     repeat(go_big_quiet_step (exact Xy.out _ _))
     refine wpQuiet_nil ?_;rintro _ ⟨⟨dq,osq⟩,rfl⟩;go_wp2;go_ret;exact⟨ah (dP HN.out).symm,Xq.out dq osq⟩
    rw[hnm]at Xy;obtain⟨ex,hex⟩:∃ex,ex=aK (aj rs[k].rows[j].rows):=⟨_,rfl⟩;have fin:Hid (∀pv,yo (eQ rs[k].rows) rs[k].rows[j].name j=pv->mg (eQ rs[k].rows) j=(pv&&ex)):=fun pv h=>by rw[HRG.out,hnm,h,hex];simp
    rw[<-hex]at HCE;clear hex HRG hnm;by_cases hpos:j=0
    ·have hk0:¬(0:Int)<(j:Int):=by omega
     have hk9:decide (0<j)=false:=by simp;omega
     have Yg:=nE (fin.out _ (Bi hpos));replace hpos:Hid (j=0):=hpos;refine wp_region_quiet_below (by kernel_rfl) (by kernel_rfl) ?_
     repeat(go_big_quiet_step (first|exact Xy.out _ _|exact HCE.out _ _))
     refine wpQuiet_nil ?_;rintro _ ⟨⟨dq,osq⟩,rfl⟩;cases ex;case false=>
      have HN:Hid (¬bP (af rs)):=HBAD2.out j hjl (by rw[Yg.out];rfl);go_wp2;go_ret;exact⟨ah (dP HN.out).symm,Xq.out dq osq⟩
     have Yk:Hid (dJ (eQ rs[k].rows) (j+1)=true):=by show _=_;simp only[dJ];rw[HRU.out,Yg.out];rfl
     go_wp2;go_roundw;case rel=>exact⟨j+1,by omega,by go_num,Yk,Xq.out dq osq⟩
     simp[intOf]<;>omega
    obtain⟨m,hm⟩:∃m,j=m+1:=⟨j-1,by omega⟩;have Xa:m<rs[k].rows.length:=by omega
    have hk0:(0:Int)<(j:Int):=by omega
    have hk9:decide (0<j)=true:=by simp;omega
    have hkm:(j:Int)-1=(m:Int):=by omega
    have hwm:IntKind.i64.wrap (m:Int)=(m:Int):=by rw[IntKind.wrap_i64];omega
    have hm1:=bC m;have hm2:(m:Int)<(rs[k].rows.length:Int):=by omega
    have qm:=cell_regrown (aA WX.out hbb (HQ.out m Xa));have Yg:=nE (fin.out _ (Bg hm Xa));replace hm:Hid (j=m+1):=hm;cases hless:Op.bytesLess rs[k].rows[m].name.toList rs[k].rows[j].name.toList;case false=>
     have HN:Hid (¬bP (af rs)):=HBAD2.out j hjl (by rw[Yg.out];simp[ji,hless]);refine wp_region_quiet_below (by kernel_rfl) (by kernel_rfl) ?_
     repeat(go_big_quiet_step (exact Xy.out _ _))
     refine wpQuiet_nil ?_;rintro _ ⟨⟨dq,osq⟩,rfl⟩;go_wp2;go_ret;exact⟨ah (dP HN.out).symm,Xq.out dq osq⟩
    refine wp_region_quiet_below (by kernel_rfl) (by kernel_rfl) ?_
    repeat(go_big_quiet_step (first|exact Xy.out _ _|exact HCE.out _ _))
    refine wpQuiet_nil ?_;rintro _ ⟨⟨dq,osq⟩,rfl⟩;cases ex;case false=>
     have HN:Hid (¬bP (af rs)):=HBAD2.out j hjl (by rw[Yg.out];simp);go_wp2;go_ret;exact⟨ah (dP HN.out).symm,Xq.out dq osq⟩
    have Yk:Hid (dJ (eQ rs[k].rows) (j+1)=true):=by show _=_;simp only[dJ];rw[HRU.out,Yg.out];simp[ji,hless]
    go_wp2;go_roundw;case rel=>exact⟨j+1,by omega,by go_num,Yk,Xq.out dq osq⟩
    simp[intOf]<;>omega
   obtain rfl:j=rs[k].rows.length:=by omega
   have HTU:Hid (iD (af rs) (k+1)=true):=by show _=_;simp only[iD];rw[HP.out,ZC.out,HRU.out];rfl
   go_wp2;go_roundw;case rel=>exact⟨k+1,by omega,by go_num,HTU,HB⟩
   simp[intOf]<;>omega
  intro hC;have HC:=nE hC;clear hC;have p0:=cell_regrown t0;have p1:=cell_regrown t1;have Xy:Hid (∀d os,Calls prog 126 #[.string rs[k].name] (grow (redrawn wr d) os) fun e w''=>e=.returned (.bool (aP rs[k].name))/\∃p:Regrown,w''=grow (redrawn wr p.d) p.os):=by
   refine jT fun W'=>?_;exact aS _ _ z0
  have Xq:Hid (∀d os,ag w (grow (redrawn wr d) os)):=fun d os=>HB.out.trans ((below_regrown wr d os).mono HB.out.size);cases hnm:aP rs[k].name;case false=>
   rw[hnm]at Xy;have HN:Hid (¬bP (af rs)):=HBAD.out (by rw[HTH.out];simp[hnm]);refine wp_region_quiet_below (by kernel_rfl) (by kernel_rfl) ?_
   repeat(go_big_quiet_step (exact Xy.out _ _))
   refine wpQuiet_nil ?_;rintro _ ⟨⟨dq,osq⟩,rfl⟩;go_wp2;go_ret;exact⟨ah (dP HN.out).symm,Xq.out dq osq⟩
  rw[hnm]at Xy;obtain⟨gt,hgt⟩:∃gt,gt=decide (6<(rs[k].rows.length:Int)):=⟨_,rfl⟩;have HGT:Hid (decide (rs[k].rows.length<=6)=!gt):=by show _=_;rw[hgt];by_cases h:rs[k].rows.length<=6<;>simp[h]<;>omega
  have hgn:decide (6<rs[k].rows.length)=gt:=by rw[hgt];by_cases h:6<rs[k].rows.length<;>simp[h]<;>omega
  replace hgt:=hgt.symm;by_cases hpos:k=0
  ·have hk0:¬(0:Int)<(k:Int):=by omega
   have hk9:decide (0<k)=false:=by simp;omega
   have Yg:Hid (vW (af rs) rs[k].name k=true):=Bh hpos;replace hpos:Hid (k=0):=hpos;refine wp_region_quiet_below (by kernel_rfl) (by kernel_rfl) ?_
   repeat(go_big_quiet_step (exact Xy.out _ _))
   refine wpQuiet_nil ?_;rintro _ ⟨⟨dq,osq⟩,rfl⟩;clear hgt hgn;cases gt;case true=>
    have HN:Hid (¬bP (af rs)):=HBAD.out (by rw[HTH.out,Yg.out];simp[HGT.out]);go_wp2;go_ret;exact⟨ah (dP HN.out).symm,Xq.out dq osq⟩
   exact HC.out _ _ _ _ _ _ _ _ _ _ _ _ _ _ _ _ _ _ _ _ _ _ _ _ _ _ _ _ _ _ _ _ _ _ (below_regrown wr dq osq) (by rw[HTH.out,Yg.out];simp[HGT.out, *])
  obtain⟨m,hm⟩:∃m,k=m+1:=⟨k-1,by omega⟩;have Xa:m<rs.length:=by omega
  have hk0:(0:Int)<(k:Int):=by omega
  have hk9:decide (0<k)=true:=by simp;omega
  have hkm:(k:Int)-1=(m:Int):=by omega
  have hwm:IntKind.i64.wrap (m:Int)=(m:Int):=by rw[IntKind.wrap_i64];omega
  have hm1:=bC m;have hm2:(m:Int)<(rs.length:Int):=by omega
  have qm:=cell_regrown (HTP.out m Xa);have Yg:Hid (vW (af rs) rs[k].name k=ji rs[m].name rs[k].name):=Bf hm Xa;replace hm:Hid (k=m+1):=hm;cases hless:Op.bytesLess rs[m].name.toList rs[k].name.toList;case false=>
   have HN:Hid (¬bP (af rs)):=HBAD.out (by rw[HTH.out,Yg.out];simp[ji,hless]);refine wp_region_quiet_below (by kernel_rfl) (by kernel_rfl) ?_
   repeat(go_big_quiet_step (exact Xy.out _ _))
   refine wpQuiet_nil ?_;rintro _ ⟨⟨dq,osq⟩,rfl⟩;go_wp2;go_ret;exact⟨ah (dP HN.out).symm,Xq.out dq osq⟩
  refine wp_region_quiet_below (by kernel_rfl) (by kernel_rfl) ?_
  repeat(go_big_quiet_step (exact Xy.out _ _))
  refine wpQuiet_nil ?_;rintro _ ⟨⟨dq,osq⟩,rfl⟩;clear hgt hgn;cases gt;case true=>
   have HN:Hid (¬bP (af rs)):=HBAD.out (by rw[HTH.out,Yg.out];simp[HGT.out]);go_wp2;go_ret;exact⟨ah (dP HN.out).symm,Xq.out dq osq⟩
  exact HC.out _ _ _ _ _ _ _ _ _ _ _ _ _ _ _ _ _ _ _ _ _ _ _ _ _ _ _ _ _ _ _ _ _ _ (below_regrown wr dq osq) (by rw[HTH.out,Yg.out];simp[ji,HGT.out, *])
 obtain rfl:k=rs.length:=by omega
 have HSH:Hid (aY (af rs)=true):=by
  show _=_;unfold aY;rw[lw,HP.out];simp;omega
 have HSF:Hid (rs.length<=6/\(∀r∈rs,r.rows.length<=6)/\∀r∈rs,∀q∈r.rows,aK (aj q.rows)=true/\q.rows.length<=15/\∀e∈q.rows,eT q.rows.length e.e.kids):=bq HSH.out;clear HP;go_wp2_with fail;go_loopw[6] (fun i wr=>∃k:Nat,k<=rs.length/\i=.int .i64 k/\Hid (((af rs).take k).all (qL (af rs))=true)/\Hid (ag w wr)) (fun i _=>rs.length-(intOf i).toNat);case atStart=>exact⟨0,Vv _,rfl,(by show _=_;simp),HB⟩
 clear HB;obtain⟨k,hk,rfl,HP,HB⟩:=hrel;by_cases hlt:k<rs.length
 ·have hk1:=bC k;have hk2:(k:Int)<(rs.length:Int):=by omega
  have lgT:=(HL.out _ (Vp hlt)).1;have HLT:Hid (∀q∈rs[k].rows,q.light):=(HL.out _ (Vp hlt)).2;go_wp2_with fail;go_loopw[7] (fun i w2=>∃j:Nat,j<=rs[k].rows.length/\i=.int .i64 j/\Hid (((eQ rs[k].rows).take j).all (fun r=>aR (af rs) rs[k].name r.expr)=true)/\Hid (ag w w2)) (fun i _=>rs[k].rows.length-(intOf i).toNat);case atStart=>exact⟨0,Vv _,rfl,(by show _=_;simp),HB⟩
  clear HB;obtain⟨j,hj,rfl,HR,HB⟩:=hrel;have HSW:=aC (HS.out.below HB.out);rcases HSW.out with rfl|⟨b,off,rfl,hb,hr,hok⟩
  ·simp at hlt
  obtain⟨t0,t1⟩:=hr k hlt;have XN:Hid (rs[k].ok wr):=hok rs[k] (Vp hlt);clear hr hok;by_cases hjl:j<rs[k].rows.length
  ·rcases XN.out with hnil|⟨b2,Xd,had,hbb,hr2,hok2⟩
   ·rw[hnil]at hjl;simp at hjl
   rw[had]at t1;obtain⟨q0,q1⟩:=hr2 j hjl;have Y5:Hid (jw wr rs[k].rows[j].ad rs[k].rows[j].rows):=hok2 _ (Vp hjl);have Y4:Hid (rs[k].rows[j].light):=HLT.out _ (Vp hjl);have hj1:=bC j;have hj2:(j:Int)<(rs[k].rows.length:Int):=by omega
   have c3:wr.drew.cell? ⟨b,off+k*2,none⟩=some (.string rs[k].name)/\wr.drew.cell? ⟨b,off+k*2+1,none⟩=some (.slice (some ⟨b2,Xd,none⟩) rs[k].rows.length rs[k].cap)/\wr.drew.cell? ⟨b2,Xd+j*2+1,none⟩=some (.slice rs[k].rows[j].ad rs[k].rows[j].rows.length rs[k].rows[j].cap)/\b<wr.drew.heap.size/\b2<wr.drew.heap.size/\ag wr wr.drew:=⟨t0,t1,q1,hb,hbb,(Vs _ _).drew⟩;clear hr2 hok2 q0 had;go_wp2_with fail
   go_region_held3 (fun w'=>w'.cell? ⟨b,off+k*2,none⟩=some (.string rs[k].name)/\w'.cell? ⟨b,off+k*2+1,none⟩=some (.slice (some ⟨b2,Xd,none⟩) rs[k].rows.length rs[k].cap)/\w'.cell? ⟨b2,Xd+j*2+1,none⟩=some (.slice rs[k].rows[j].ad rs[k].rows[j].rows.length rs[k].rows[j].cap)/\b<w'.heap.size/\b2<w'.heap.size/\ag wr w')
    (first|exact c3|assumption|exact keepR (by first|exact c3|assumption) hbx)
    (first|(go_at_call 175;refine(Jc (some ⟨b,off,none⟩) rs[k].rows[j].ad cap rs[k].rows[j].cap rs _ rs[k].rows[j].rows _ (by omega) (HSW.out.below ((Vs _ _).drew)) HL.out Y4.out.1 (Y5.out.below ((Vs _ _).drew)) Y4.out.2).mono ?_;rintro e w' ⟨rfl,hbx⟩))
   rename_i hHeld;have HBN:Hid (ag w w'):=HB.out.trans (hHeld.2.2.2.2.2.mono HB.out.size);clear hHeld c3 t0 t1 q1 hbx;have HTS:=Ha rs[k].rows j hjl;cases hrf:aR (af rs) rs[k].name (aj rs[k].rows[j].rows);case false=>
    have HN:Hid (¬bP (af rs)):=fun hs=>by
     have h1:=hs.2.1;unfold iq at h1;rw[VC]at h1;have h2:=h1 rs[k].p (by unfold af;exact VY (Vp hlt));unfold qL at h2;rw[VC]at h2;have h3:=h2 rs[k].rows[j].p (by show _∈eQ rs[k].rows;unfold eQ;exact VY (Vp hjl));have h4:aR (af rs) rs[k].name (aj rs[k].rows[j].rows)=true:=h3;rw[hrf]at h4;cases h4
    go_wp2;go_ret;exact⟨ah (dP HN.out).symm,HBN.out⟩
   have Yk:Hid (((eQ rs[k].rows).take (j+1)).all (fun r=>aR (af rs) rs[k].name r.expr)=true):=by
    show _=_;rw[HTS,WC,HR.out];have:aR (af rs) rs[k].name rs[k].rows[j].p.expr=true:=hrf;simp[this]
   clear HTS;go_wp2;go_roundw;case rel=>exact⟨j+1,by omega,by go_num,Yk,HBN⟩
   simp[intOf]<;>omega
  obtain rfl:j=rs[k].rows.length:=by omega
  have HPN:Hid (((af rs).take (k+1)).all (qL (af rs))=true):=by
   show _=_;rw[G9 rs k hlt,WC,HP.out];have h1:=HR.out;rw[<-rM,VI]at h1;have:qL (af rs) rs[k].p=true:=h1;simp[this]
  go_wp2;go_roundw;case rel=>exact⟨k+1,by omega,by go_num,HPN,HB⟩
  simp[intOf]<;>omega
 obtain rfl:k=rs.length:=by omega
 have Zd:Hid (iq (af rs)=true):=by
  have h1:=HP.out;rw[<-lw,VI]at h1;exact h1
 go_wp2_with fail;refine(vz ad cap rs _ HSF.out.1 (HS.out.below HB.out) HL.out HSF.out.2.1 (fun r hr q hq=>(HSF.out.2.2 r hr q hq).2) (kG Zd.out)).mono ?_;rintro e w' ⟨⟨WS,cap',out,rfl,-,-,YV⟩|⟨rfl,hno⟩,hbx⟩
 ·have HY:Hid (bP (af rs)):=⟨HSH.out,Zd.out,_,YV.sol⟩;have HBN:=iJ HB hbx;clear YV hbx;go_wp2;go_ret;exact⟨ah (xV HY.out).symm,HBN.out⟩
 have HY:Hid (¬bP (af rs)):=fun h=>hno h.2.2;have HBN:=iJ HB hbx;clear hno hbx;go_wp2;go_ret;exact⟨ah (dP HY.out).symm,HBN.out⟩
end Go.Proofs.YtojjoblnpldniaaGreat
