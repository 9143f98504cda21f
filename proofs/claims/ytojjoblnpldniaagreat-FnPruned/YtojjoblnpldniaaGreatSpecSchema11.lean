/- Contract of the document's function on schemas. -/
import Derived.Test.YtojjoblnpldniaaGreatSq
import Derived.Test.YtojjoblnpldniaaGreatJ5
import Derived.Test.YtojjoblnpldniaaGreatJ10
open Go.Proofs.Tryz
set_option maxHeartbeats 80000000
namespace Go.Proofs.YtojjoblnpldniaaGreat
open Go.Sort
open ChangeShapes WideShapes ChangeAt RowKit
open Pl
def wE(ts:Q0b)(n:ByteArray):Nat->Bool
 | 0=>true
 | i+1=>(ts[i]?.map fun p=>jB p.name n).getD true
def yO(ts:List Rl)(n:ByteArray):Nat->Bool
 | 0=>true
 | i+1=>(ts[i]?.map fun p=>jB p.name n).getD true
theorem DY{rs:Q06}{k:Nat}(h:k<rs.length):kI (ae rs) k=(aP rs[k].name&&wE (ae rs) rs[k].name k&&decide (rs[k].rows.length<=6)&&dE (bQ rs[k].rows) rs[k].rows.length):=by
 unfold kI;have e:(ae rs)[k]?=some rs[k].p:=by simp[ae,h]
 rw[e];have e2:rs[k].p.rels.length=rs[k].rows.length:=by simp[TR.p,bQ]
 simp only[e2];cases k<;>rfl
theorem DZ{rs:Q07}{k:Nat}(h:k<rs.length):mG (bQ rs) k=(aP rs[k].name&&yO (bQ rs) rs[k].name k&&aI (ai rs[k].rows)):=by
 unfold mG;have e:(bQ rs)[k]?=some rs[k].p:=by simp[bQ,h]
 rw[e];cases k<;>rfl
theorem Bi{rs:Q06}{n:ByteArray}{k m:Nat}(hk:k=m+1)(h0:m<rs.length):wE (ae rs) n k=jB rs[m].name n:=by
 subst hk;have e:(ae rs)[m]?=some rs[m].p:=by simp[ae,h0]
 simp only[wE,e];rfl
theorem Bj{rs:Q07}{n:ByteArray}{k m:Nat}(hk:k=m+1)(h0:m<rs.length):yO (bQ rs) n k=jB rs[m].name n:=by
 subst hk;have e:(bQ rs)[m]?=some rs[m].p:=by simp[bQ,h0]
 simp only[yO,e];rfl
theorem Bl{ts:Q0b}{n:ByteArray}{k:Nat}(hk:k=0):wE ts n k=true:=by subst hk;rfl
theorem Bn{ts:List Rl}{n:ByteArray}{k:Nat}(hk:k=0):yO ts n k=true:=by subst hk;rfl
theorem Sc{P:Program}{c:Code}{Q:Exit->Act->World->Prop}{a:Act}{w:af}(H:(Act->World->Prop)->Prop)(hc:H (Q .normal))(hr:H (Q .normal)->c.wp P Q a w):c.wp P Q a w:=hr hc
theorem Hm(rs:Q06)(k:Nat)(h:k<rs.length):(ae rs).take (k+1)=(ae rs).take k++[rs[k].p]:=by
 rw[Vx (by rw[df];exact h)];simp[ae]
theorem Ho(rs:Q07)(k:Nat)(h:k<rs.length):(bQ rs).take (k+1)=(bQ rs).take k++[rs[k].p]:=by
 rw[Vx (by rw[dz];exact h)];simp[bQ]
theorem keepR{wr W w':af}{b b2 o1 o2 o3:Nat}{x y z:Value}(h:W.cell? ⟨b,o1,none⟩=some x/\W.cell? ⟨b,o2,none⟩=some y/\W.cell? ⟨b2,o3,none⟩=some z/\b<W.heap.size/\b2<W.heap.size/\ag wr W)(hb:ag W w'):
  w'.cell? ⟨b,o1,none⟩=some x/\w'.cell? ⟨b,o2,none⟩=some y/\w'.cell? ⟨b2,o3,none⟩=some z/\b<w'.heap.size/\b2<w'.heap.size/\ag wr w' :=
 ⟨aC hb h.2.2.2.1 h.1,aC hb h.2.2.2.1 h.2.1,aC hb h.2.2.2.2.1 h.2.2.1,Vt h.2.2.2.1 hb.size,Vt h.2.2.2.2.1 hb.size,h.2.2.2.2.2.trans (hb.mono h.2.2.2.2.2.size)⟩
theorem Kl{rs:Q06}{k:Nat}(hk:k<rs.length)(h:kI (ae rs) k=false):¬bN (ae rs):=fun hs=>by
 have h1:=hs.1;simp only[aZ,Vw]at h1;rw[uu _ k h _ (by rw[df];exact hk)]at h1;cases h1.2
set_option maxRecDepth 100000 in
theorem fV(ad:Q02)(cap:Nat)(rs:Q06)(w:af)(hlen:rs.length<=1048576)(hs:jK w ad rs)(hl:∀r∈rs,r.light)(hf:∀r∈rs,r.fits):
  Calls prog 100 #[.slice ad rs.length cap] w fun e w'=>e=.returned (.bool (aD (ae rs)))/\ag w w':=by
 have HS:=az hs;have HL:=az hl;have WT:=az hf;clear hs hl hf;by_cases h6:6<rs.length
 ·have HN:Hid (¬bN (ae rs)):=fun h=>by have:=(aW h.1).1;omega
  go_enter func100,ntmps100;go_wp2;go_ret;exact⟨ah (dS HN.out).symm,Vv _ _⟩
 go_enter func100,ntmps100;go_wp2;go_loopw[3] (fun i wr=>∃k:Nat,k<=rs.length/\i=.int .i64 k/\Hid (jb (ae rs) k=true)/\Hid (ag w wr)) (fun i _=>rs.length-(intOf i).toNat);case atStart=>exact⟨0,Vy _,rfl,rfl,Vv _ _⟩
 obtain⟨k,hk,rfl,HP,HB⟩:=hrel;by_cases hlt:k<rs.length
 ·rcases HS.out.below HB.out with rfl|⟨b,off,rfl,hb,hr,hok⟩
  ·simp at hlt
  obtain⟨t0,t1⟩:=hr k hlt;have Xc:Hid (rs[k].ok wr):=hok rs[k] (Vs hlt);have HSW:=az (HS.out.below HB.out);have z0:rs[k].name.size<=maxLen:=(WT.out _ (Vs hlt)).1;have hk1:=bI k;have hk2:(k:Int)<(rs.length:Int):=by omega
  have HTP:Hid (∀(m:Nat) (h:m<rs.length),wr.cell? ⟨b,off+m*2,none⟩=some (.string rs[m].name)):=fun m h=>(hr m h).1;have HTA:=DY hlt;have HTH:Hid (kI (ae rs) k=_):=HTA;have HBAD:Hid (kI (ae rs) k=false->¬bN (ae rs)):=Kl hlt;clear hr hok HTA;go_wp2_with fail;refine Sc (fun K=>∀(v0 v1 v2 v3 v4 v5 v6 v7 v8 v9 v10 v11 v12 v13 v14 v15 v16 v17 v18 v19 v20 v21 v22 v23 v24 v25 v26 v27 v28 v29 v30 v31 v32:Value) (w':World),ag wr w'->kI (ae rs) k=dE (bQ rs[k].rows) rs[k].rows.length->K { tmps:=List.toArray (Value.slice (some ⟨b,off,none⟩) rs.length cap::undef::u2::.int .i64 k::u4::u5::undef::undef::undef::undef::.slice (some ⟨b,off,none⟩) rs.length cap::.int .i64 rs.length::.bool (decide (6<(rs.length:Int)))::.int .i64 k::.slice (some ⟨b,off,none⟩) rs.length cap::.int .i64 rs.length::.bool true::u17::u18::v0::v1::v2::v3::v4::v5::v6::v7::v8::v9::v10::v11::v12::v13::v14::v15::v16::v17::v18::v19::v20::v21::v22::v23::v24::v25::v26::v27::v28::v29::v30::v31::v32::.bool false::u53::u54::u55::u56::u57::u58::u59::u60::u61::u62::u63::u64::u65::u66::u67::u68::u69::u70::u71::u72::u73::u74::u75::u76::u77::u78::u79::u80::u81::u82::u83::u84::u85::u86::u87::u88::u89::u90::u91::u92::u93::u94::u95::u96::u97::u98::u99::undef::undef::undef::undef::undef::undef::undef::undef::undef::undef::undef::undef::undef::undef::undef::undef::undef::undef::undef::undef::undef::undef::undef::undef::undef::undef::undef::undef::undef::undef::undef::undef::undef::undef::undef::undef::undef::undef::undef::[]),defers:=[] } w') ?cont6 ?reg6;case cont6 =>
   intro v0 v1 v2 v3 v4 v5 v6 v7 v8 v9 v10 v11 v12 v13 v14 v15 v16 v17 v18 v19 v20 v21 v22 v23 v24 v25 v26 v27 v28 v29 v30 v31 v32 w' hG hpre;have HG:Hid (ag wr w'):=hG;have HPRE:Hid (kI (ae rs) k=dE (bQ rs[k].rows) rs[k].rows.length):=hpre;clear hG hpre;obtain⟨wo,hwo⟩:=eQx wr;subst hwo;have HB1:Hid (ag w w'):=HB.out.trans (HG.out.mono HB.out.size);have lgT:=(HL.out _ (Vs hlt)).1;have HLT:Hid (∀q∈rs[k].rows,q.light):=(HL.out _ (Vs hlt)).2;have ZK:Hid (∀q∈rs[k].rows,q.fits):=(WT.out _ (Vs hlt)).2.2;have HBAD2:Hid (∀j,j<rs[k].rows.length->mG (bQ rs[k].rows) j=false->¬bN (ae rs)):=fun j hj h=>HBAD.out (by rw[HPRE.out];exact ut _ j h _ hj);clear t0 t1 HTP HSW Xc;go_wp2_with fail;go_loopw[4] (fun i w2=>∃j:Nat,j<=rs[k].rows.length/\i=.int .i64 j/\Hid (dE (bQ rs[k].rows) j=true)/\Hid (ag w w2)) (fun i _=>rs[k].rows.length-(intOf i).toNat);case atStart=>exact⟨0,Vy _,rfl,rfl,HB1⟩
   clear HB1 HG HB;obtain⟨j,hj,rfl,HRU,HB⟩:=hrel;rcases HS.out.below HB.out with rfl|⟨b',off',he,hb2,hr,hok⟩
   ·simp at hlt
   injection he with he;injection he with he1 he2;subst he1;subst he2;obtain⟨t0,t1⟩:=hr k hlt;have Xc:Hid (rs[k].ok wr):=hok rs[k] (Vs hlt);clear hr hok;by_cases hjl:j<rs[k].rows.length
   ·rcases Xc.out with hnil|⟨b2,WV,had,hbb,hr2,hok2⟩
    ·rw[hnil]at hjl;simp at hjl
    rw[had]at t1;obtain⟨q0,q1⟩:=hr2 j hjl;have HQ:Hid (∀(m:Nat) (h:m<rs[k].rows.length),wr.cell? ⟨b2,WV+m*2,none⟩=some (.string rs[k].rows[m].name)):=fun m h=>(hr2 m h).1;have HSE:Hid (jo wr rs[k].rows[j].ad rs[k].rows[j].rows):=hok2 _ (Vs hjl);have z1:rs[k].rows[j].name.size<=maxLen:=(ZK.out _ (Vs hjl)).1;have YT:Hid (rs[k].rows[j].light):=HLT.out _ (Vs hjl);have YB:Hid (rs[k].rows[j].fits):=ZK.out _ (Vs hjl);have hj1:=bI j;have hj2:(j:Int)<(rs[k].rows.length:Int):=by omega
    have HRG:Hid (mG (bQ rs[k].rows) j=_):=DZ hjl;obtain⟨W1,hW1⟩:=eQx (wr.alloc (.cells #[.string rs[k].rows[j].name,.slice rs[k].rows[j].ad rs[k].rows[j].rows.length rs[k].rows[j].cap] 39));have hal:ag wr W1:=by rw[hW1];exact(Vv _ _).alloc (Vu _) _
    have Xd:=az hal;have hgl:wr.heap.size<W1.heap.size:=by rw[hW1];simp
    have g0:W1.cell? ⟨wr.heap.size,0,none⟩=some (.string rs[k].rows[j].name):=by rw[hW1];simp
    have g1:W1.cell? ⟨wr.heap.size,1,none⟩=some (.slice rs[k].rows[j].ad rs[k].rows[j].rows.length rs[k].rows[j].cap):=by rw[hW1];simp
    have d1:=aC hal hb2 t1;have hb3:b<W1.heap.size:=Nat.lt_trans hb2 hgl;have hb4:b2<W1.heap.size:=Nat.lt_trans hbb hgl;clear hr2 hok2;go_wp2_with fail;rw[<-hW1];clear hW1 t0 q0 q1 hal t1;have p0:=cell_regrown g0;have p1:=cell_regrown g1;have p2:=cell_regrown d1;have Xy:Hid (∀d os,Calls prog 126 #[.string rs[k].rows[j].name] (grow (redrawn W1 d) os) fun e w''=>e=.returned (.bool (aP rs[k].rows[j].name))/\∃p:Regrown,w''=grow (redrawn W1 p.d) p.os):=by
     refine j4 fun W'=>?_;exact aR _ _ z1
    have HCE:Hid (∀d os,Calls prog 174 #[.slice rs[k].rows[j].ad rs[k].rows[j].rows.length rs[k].rows[j].cap] (grow (redrawn W1 d) os) fun e w''=>e=.returned (.bool (aI (ai rs[k].rows[j].rows)))/\∃p:Regrown,w''=grow (redrawn W1 p.d) p.os):=by
     refine fO fun W' hb=>?_;exact mV _ _ rs[k].rows[j].rows _ YT.out.1 YT.out.2 YB.out.2.2 (HSE.out.below (Xd.out.trans (hb.mono Xd.out.size)))
    have Xm:Hid (∀d os,ag w (grow (redrawn W1 d) os)):=fun d os=>HB.out.trans ((Xd.out.mono HB.out.size).trans ((below_regrown W1 d os).mono (Vz HB.out.size Xd.out.size)));cases hnm:aP rs[k].rows[j].name;case false=>
     rw[hnm]at Xy;have HN:Hid (¬bN (ae rs)):=HBAD2.out j hjl (by rw[HRG.out];simp[hnm]);refine wp_region_quiet_below (by kernel_rfl) (by kernel_rfl) ?_
     repeat(go_big_quiet_step (exact Xy.out _ _))
     refine wpQuiet_nil ?_;rintro _ ⟨⟨dq,osq⟩,rfl⟩;go_wp2;go_ret;exact⟨ah (dS HN.out).symm,Xm.out dq osq⟩
    rw[hnm]at Xy;obtain⟨ex,hex⟩:=eQx (aI (ai rs[k].rows[j].rows));have fin:Hid (∀pv,yO (bQ rs[k].rows) rs[k].rows[j].name j=pv->mG (bQ rs[k].rows) j=(pv&&ex)):=fun pv h=>by rw[HRG.out,hnm,h,hex];simp
    rw[<-hex]at HCE;clear hex HRG hnm;by_cases hpos:j=0
    ·have hk0:¬(0:Int)<(j:Int):=by omega
     have hk9:decide (0<j)=false:=by simp;omega
     have Yq:=qD (fin.out _ (Bn hpos));replace hpos:Hid (j=0):=hpos;refine wp_region_quiet_below (by kernel_rfl) (by kernel_rfl) ?_
     repeat(go_big_quiet_step (first|exact Xy.out _ _|exact HCE.out _ _))
     refine wpQuiet_nil ?_;rintro _ ⟨⟨dq,osq⟩,rfl⟩;cases ex;case false=>
      have HN:Hid (¬bN (ae rs)):=HBAD2.out j hjl (by rw[Yq.out];rfl);go_wp2;go_ret;exact⟨ah (dS HN.out).symm,Xm.out dq osq⟩
     have Yu:Hid (dE (bQ rs[k].rows) (j+1)=true):=by show _=_;simp only[dE];rw[HRU.out,Yq.out];rfl
     go_wp2;go_roundw;case rel=>exact⟨j+1,by omega,by go_num,Yu,Xm.out dq osq⟩
     simp[intOf]<;>omega
    obtain⟨m,hm⟩:∃m,j=m+1:=⟨j-1,by omega⟩;have Xh:m<rs[k].rows.length:=by omega
    have hk0:(0:Int)<(j:Int):=by omega
    have hk9:decide (0<j)=true:=by simp;omega
    have hkm:(j:Int)-1=(m:Int):=by omega
    have hwm:IntKind.i64.wrap (m:Int)=(m:Int):=by rw[IntKind.wrap_i64];omega
    have hm1:=bI m;have hm2:(m:Int)<(rs[k].rows.length:Int):=by omega
    have qm:=cell_regrown (aC Xd.out hbb (HQ.out m Xh));have Yq:=qD (fin.out _ (Bj hm Xh));replace hm:Hid (j=m+1):=hm;cases hless:Op.bytesLess rs[k].rows[m].name.toList rs[k].rows[j].name.toList;case false=>
     have HN:Hid (¬bN (ae rs)):=HBAD2.out j hjl (by rw[Yq.out];simp[jB,hless]);refine wp_region_quiet_below (by kernel_rfl) (by kernel_rfl) ?_
     repeat(go_big_quiet_step (exact Xy.out _ _))
     refine wpQuiet_nil ?_;rintro _ ⟨⟨dq,osq⟩,rfl⟩;go_wp2;go_ret;exact⟨ah (dS HN.out).symm,Xm.out dq osq⟩
    refine wp_region_quiet_below (by kernel_rfl) (by kernel_rfl) ?_
    repeat(go_big_quiet_step (first|exact Xy.out _ _|exact HCE.out _ _))
    refine wpQuiet_nil ?_;rintro _ ⟨⟨dq,osq⟩,rfl⟩;cases ex;case false=>
     have HN:Hid (¬bN (ae rs)):=HBAD2.out j hjl (by rw[Yq.out];simp);go_wp2;go_ret;exact⟨ah (dS HN.out).symm,Xm.out dq osq⟩
    have Yu:Hid (dE (bQ rs[k].rows) (j+1)=true):=by show _=_;simp only[dE];rw[HRU.out,Yq.out];simp[jB,hless]
    go_wp2;go_roundw;case rel=>exact⟨j+1,by omega,by go_num,Yu,Xm.out dq osq⟩
    simp[intOf]<;>omega
   obtain rfl:j=rs[k].rows.length:=by omega
   have HTU:Hid (jb (ae rs) (k+1)=true):=by show _=_;simp only[jb];rw[HP.out,HPRE.out,HRU.out];rfl
   go_wp2;go_roundw;case rel=>exact⟨k+1,by omega,by go_num,HTU,HB⟩
   simp[intOf]<;>omega
  intro hC;have HC:=qD hC;clear hC;have p0:=cell_regrown t0;have p1:=cell_regrown t1;have Xy:Hid (∀d os,Calls prog 126 #[.string rs[k].name] (grow (redrawn wr d) os) fun e w''=>e=.returned (.bool (aP rs[k].name))/\∃p:Regrown,w''=grow (redrawn wr p.d) p.os):=by
   refine j4 fun W'=>?_;exact aR _ _ z0
  have Xm:Hid (∀d os,ag w (grow (redrawn wr d) os)):=fun d os=>HB.out.trans ((below_regrown wr d os).mono HB.out.size);cases hnm:aP rs[k].name;case false=>
   rw[hnm]at Xy;have HN:Hid (¬bN (ae rs)):=HBAD.out (by rw[HTH.out];simp[hnm]);refine wp_region_quiet_below (by kernel_rfl) (by kernel_rfl) ?_
   repeat(go_big_quiet_step (exact Xy.out _ _))
   refine wpQuiet_nil ?_;rintro _ ⟨⟨dq,osq⟩,rfl⟩;go_wp2;go_ret;exact⟨ah (dS HN.out).symm,Xm.out dq osq⟩
  rw[hnm]at Xy;obtain⟨gt,hgt⟩:=eQx (decide (6<(rs[k].rows.length:Int)));have HGT:Hid (decide (rs[k].rows.length<=6)=!gt):=by show _=_;rw[hgt];by_cases h:rs[k].rows.length<=6<;>simp[h]<;>omega
  have hgn:decide (6<rs[k].rows.length)=gt:=by rw[hgt];by_cases h:6<rs[k].rows.length<;>simp[h]<;>omega
  replace hgt:=hgt.symm;by_cases hpos:k=0
  ·have hk0:¬(0:Int)<(k:Int):=by omega
   have hk9:decide (0<k)=false:=by simp;omega
   have Yq:Hid (wE (ae rs) rs[k].name k=true):=Bl hpos;replace hpos:Hid (k=0):=hpos;refine wp_region_quiet_below (by kernel_rfl) (by kernel_rfl) ?_
   repeat(go_big_quiet_step (exact Xy.out _ _))
   refine wpQuiet_nil ?_;rintro _ ⟨⟨dq,osq⟩,rfl⟩;clear hgt hgn;cases gt;case true=>
    have HN:Hid (¬bN (ae rs)):=HBAD.out (by rw[HTH.out,Yq.out];simp[HGT.out]);go_wp2;go_ret;exact⟨ah (dS HN.out).symm,Xm.out dq osq⟩
   exact HC.out _ _ _ _ _ _ _ _ _ _ _ _ _ _ _ _ _ _ _ _ _ _ _ _ _ _ _ _ _ _ _ _ _ _ (below_regrown wr dq osq) (by rw[HTH.out,Yq.out];simp[HGT.out, *])
  obtain⟨m,hm⟩:∃m,k=m+1:=⟨k-1,by omega⟩;have Xh:m<rs.length:=by omega
  have hk0:(0:Int)<(k:Int):=by omega
  have hk9:decide (0<k)=true:=by simp;omega
  have hkm:(k:Int)-1=(m:Int):=by omega
  have hwm:IntKind.i64.wrap (m:Int)=(m:Int):=by rw[IntKind.wrap_i64];omega
  have hm1:=bI m;have hm2:(m:Int)<(rs.length:Int):=by omega
  have qm:=cell_regrown (HTP.out m Xh);have Yq:Hid (wE (ae rs) rs[k].name k=jB rs[m].name rs[k].name):=Bi hm Xh;replace hm:Hid (k=m+1):=hm;cases hless:Op.bytesLess rs[m].name.toList rs[k].name.toList;case false=>
   have HN:Hid (¬bN (ae rs)):=HBAD.out (by rw[HTH.out,Yq.out];simp[jB,hless]);refine wp_region_quiet_below (by kernel_rfl) (by kernel_rfl) ?_
   repeat(go_big_quiet_step (exact Xy.out _ _))
   refine wpQuiet_nil ?_;rintro _ ⟨⟨dq,osq⟩,rfl⟩;go_wp2;go_ret;exact⟨ah (dS HN.out).symm,Xm.out dq osq⟩
  refine wp_region_quiet_below (by kernel_rfl) (by kernel_rfl) ?_
  repeat(go_big_quiet_step (exact Xy.out _ _))
  refine wpQuiet_nil ?_;rintro _ ⟨⟨dq,osq⟩,rfl⟩;clear hgt hgn;cases gt;case true=>
   have HN:Hid (¬bN (ae rs)):=HBAD.out (by rw[HTH.out,Yq.out];simp[HGT.out]);go_wp2;go_ret;exact⟨ah (dS HN.out).symm,Xm.out dq osq⟩
  exact HC.out _ _ _ _ _ _ _ _ _ _ _ _ _ _ _ _ _ _ _ _ _ _ _ _ _ _ _ _ _ _ _ _ _ _ (below_regrown wr dq osq) (by rw[HTH.out,Yq.out];simp[jB,HGT.out, *])
 obtain rfl:k=rs.length:=by omega
 have HSH:Hid (aZ (ae rs)=true):=by
  show _=_;unfold aZ;rw[df,HP.out];simp;omega
 have HSF:Hid (rs.length<=6/\(∀r∈rs,r.rows.length<=6)/\∀r∈rs,∀q∈r.rows,aI (ai q.rows)=true/\q.rows.length<=15/\∀e∈q.rows,fo q.rows.length e.e.kids):=aW HSH.out;clear HP;go_wp2_with fail;go_loopw[6] (fun i wr=>∃k:Nat,k<=rs.length/\i=.int .i64 k/\Hid (((ae rs).take k).all (qA (ae rs))=true)/\Hid (ag w wr)) (fun i _=>rs.length-(intOf i).toNat);case atStart=>exact⟨0,Vy _,rfl,(by show _=_;simp),HB⟩
 clear HB;obtain⟨k,hk,rfl,HP,HB⟩:=hrel;by_cases hlt:k<rs.length
 ·have hk1:=bI k;have hk2:(k:Int)<(rs.length:Int):=by omega
  have lgT:=(HL.out _ (Vs hlt)).1;have HLT:Hid (∀q∈rs[k].rows,q.light):=(HL.out _ (Vs hlt)).2;go_wp2_with fail;go_loopw[7] (fun i w2=>∃j:Nat,j<=rs[k].rows.length/\i=.int .i64 j/\Hid (((bQ rs[k].rows).take j).all (fun r=>aQ (ae rs) rs[k].name r.expr)=true)/\Hid (ag w w2)) (fun i _=>rs[k].rows.length-(intOf i).toNat);case atStart=>exact⟨0,Vy _,rfl,(by show _=_;simp),HB⟩
  clear HB;obtain⟨j,hj,rfl,HR,HB⟩:=hrel;have HSW:=az (HS.out.below HB.out);rcases HSW.out with rfl|⟨b,off,rfl,hb,hr,hok⟩
  ·simp at hlt
  obtain⟨t0,t1⟩:=hr k hlt;have Xc:Hid (rs[k].ok wr):=hok rs[k] (Vs hlt);clear hr hok;by_cases hjl:j<rs[k].rows.length
  ·rcases Xc.out with hnil|⟨b2,WV,had,hbb,hr2,hok2⟩
   ·rw[hnil]at hjl;simp at hjl
   rw[had]at t1;obtain⟨q0,q1⟩:=hr2 j hjl;have HSE:Hid (jo wr rs[k].rows[j].ad rs[k].rows[j].rows):=hok2 _ (Vs hjl);have YT:Hid (rs[k].rows[j].light):=HLT.out _ (Vs hjl);have hj1:=bI j;have hj2:(j:Int)<(rs[k].rows.length:Int):=by omega
   have c3:wr.drew.cell? ⟨b,off+k*2,none⟩=some (.string rs[k].name)/\wr.drew.cell? ⟨b,off+k*2+1,none⟩=some (.slice (some ⟨b2,WV,none⟩) rs[k].rows.length rs[k].cap)/\wr.drew.cell? ⟨b2,WV+j*2+1,none⟩=some (.slice rs[k].rows[j].ad rs[k].rows[j].rows.length rs[k].rows[j].cap)/\b<wr.drew.heap.size/\b2<wr.drew.heap.size/\ag wr wr.drew:=⟨t0,t1,q1,hb,hbb,(Vv _ _).drew⟩;clear hr2 hok2 q0 had;go_wp2_with fail
   go_region_held3 (fun w'=>w'.cell? ⟨b,off+k*2,none⟩=some (.string rs[k].name)/\w'.cell? ⟨b,off+k*2+1,none⟩=some (.slice (some ⟨b2,WV,none⟩) rs[k].rows.length rs[k].cap)/\w'.cell? ⟨b2,WV+j*2+1,none⟩=some (.slice rs[k].rows[j].ad rs[k].rows[j].rows.length rs[k].rows[j].cap)/\b<w'.heap.size/\b2<w'.heap.size/\ag wr w')
    (first|exact c3|assumption|exact keepR (by first|exact c3|assumption) hbx)
    (first|(go_at_call 175;refine(Jp (some ⟨b,off,none⟩) rs[k].rows[j].ad cap rs[k].rows[j].cap rs _ rs[k].rows[j].rows _ (by omega) (HSW.out.below ((Vv _ _).drew)) HL.out YT.out.1 (HSE.out.below ((Vv _ _).drew)) YT.out.2).mono ?_;rintro e w' ⟨rfl,hbx⟩))
   rename_i hHeld;have HBN:Hid (ag w w'):=HB.out.trans (hHeld.2.2.2.2.2.mono HB.out.size);clear hHeld c3 t0 t1 q1 hbx;have HTS:=Ho rs[k].rows j hjl;cases hrf:aQ (ae rs) rs[k].name (ai rs[k].rows[j].rows);case false=>
    have HN:Hid (¬bN (ae rs)):=fun hs=>by
     have h1:=hs.2.1;unfold gI at h1;rw[VF]at h1;have h2:=h1 rs[k].p (by unfold ae;exact VS (Vs hlt));unfold qA at h2;rw[VF]at h2;have h3:=h2 rs[k].rows[j].p (by show _∈bQ rs[k].rows;unfold bQ;exact VS (Vs hjl));have h4:aQ (ae rs) rs[k].name (ai rs[k].rows[j].rows)=true:=h3;rw[hrf]at h4;cases h4
    go_wp2;go_ret;exact⟨ah (dS HN.out).symm,HBN.out⟩
   have Yu:Hid (((bQ rs[k].rows).take (j+1)).all (fun r=>aQ (ae rs) rs[k].name r.expr)=true):=by
    show _=_;rw[HTS,WH,HR.out];have:aQ (ae rs) rs[k].name rs[k].rows[j].p.expr=true:=hrf;simp[this]
   clear HTS;go_wp2;go_roundw;case rel=>exact⟨j+1,by omega,by go_num,Yu,HBN⟩
   simp[intOf]<;>omega
  obtain rfl:j=rs[k].rows.length:=by omega
  have HPN:Hid (((ae rs).take (k+1)).all (qA (ae rs))=true):=by
   show _=_;rw[Hm rs k hlt,WH,HP.out];have h1:=HR.out;rw[<-dz,VI]at h1;have:qA (ae rs) rs[k].p=true:=h1;simp[this]
  go_wp2;go_roundw;case rel=>exact⟨k+1,by omega,by go_num,HPN,HB⟩
  simp[intOf]<;>omega
 obtain rfl:k=rs.length:=by omega
 have ZF:Hid (gI (ae rs)=true):=by
  have h1:=HP.out;rw[<-df,VI]at h1;exact h1
 go_wp2_with fail;refine(EM ad cap rs _ HSF.out.1 (HS.out.below HB.out) HL.out HSF.out.2.1 (fun r hr q hq=>(HSF.out.2.2 r hr q hq).2) (kJ ZF.out)).mono ?_;rintro e w' ⟨⟨Xe,cap',out,rfl,-,-,Zm⟩|⟨rfl,hno⟩,hbx⟩
 ·have HY:Hid (bN (ae rs)):=⟨HSH.out,ZF.out,_,Zm.sol⟩;have HBN:=iX HB hbx;clear Zm hbx;go_wp2;go_ret;exact⟨ah (yF HY.out).symm,HBN.out⟩
 have HY:Hid (¬bN (ae rs)):=fun h=>hno h.2.2;have HBN:=iX HB hbx;clear hno hbx;go_wp2;go_ret;exact⟨ah (dS HY.out).symm,HBN.out⟩
end Go.Proofs.YtojjoblnpldniaaGreat
