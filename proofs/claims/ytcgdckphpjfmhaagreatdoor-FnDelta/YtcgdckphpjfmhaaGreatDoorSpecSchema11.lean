/- Contract of the document's function on schemas. -/
import Derived.Test.YtcgdckphpjfmhaaGreatDoorSq
import Derived.Test.YtcgdckphpjfmhaaGreatDoorJ19
open Go.Proofs.Tryz
set_option maxHeartbeats 80000000
namespace Go.Proofs.YtcgdckphpjfmhaaGreatDoor
open Go.Sort
open ChangeShapes WideShapes ChangeAt RowKit
open Pl
def wL(ts:Q0b)(n:ByteArray):Nat->Bool
 | 0=>true
 | i+1=>(ts[i]?.map fun p=>jk p.name n).getD true
def yK(ts:List Rl)(n:ByteArray):Nat->Bool
 | 0=>true
 | i+1=>(ts[i]?.map fun p=>jk p.name n).getD true
theorem Em{rs:Q06}{k:Nat}(h:k<rs.length):kP (ag rs) k=(aR rs[k].name&&wL (ag rs) rs[k].name k&&decide (rs[k].rows.length<=6)&&dE (eG rs[k].rows) rs[k].rows.length):=by
 unfold kP;have e:(ag rs)[k]?=some rs[k].p:=by simp[ag,h]
 rw[e];have e2:rs[k].p.rels.length=rs[k].rows.length:=by simp[TR.p,eG]
 simp only[e2];cases k<;>rfl
theorem En{rs:Q07}{k:Nat}(h:k<rs.length):mP (eG rs) k=(aR rs[k].name&&yK (eG rs) rs[k].name k&&aP (aj rs[k].rows)):=by
 unfold mP;have e:(eG rs)[k]?=some rs[k].p:=by simp[eG,h]
 rw[e];cases k<;>rfl
theorem BV{rs:Q06}{n:ByteArray}{k m:Nat}(hk:k=m+1)(h0:m<rs.length):wL (ag rs) n k=jk rs[m].name n:=by
 subst hk;have e:(ag rs)[m]?=some rs[m].p:=by simp[ag,h0]
 simp only[wL,e];rfl
theorem BX{rs:Q07}{n:ByteArray}{k m:Nat}(hk:k=m+1)(h0:m<rs.length):yK (eG rs) n k=jk rs[m].name n:=by
 subst hk;have e:(eG rs)[m]?=some rs[m].p:=by simp[eG,h0]
 simp only[yK,e];rfl
theorem BZ{ts:Q0b}{n:ByteArray}{k:Nat}(hk:k=0):wL ts n k=true:=by subst hk;rfl
theorem Ca{ts:List Rl}{n:ByteArray}{k:Nat}(hk:k=0):yK ts n k=true:=by subst hk;rfl
theorem SH{P:Program}{c:Code}{Q:Exit->Act->World->Prop}{a:Act}{w:ae}(H:(Act->World->Prop)->Prop)(hc:H (Q .normal))(hr:H (Q .normal)->c.wp P Q a w):c.wp P Q a w:=hr hc
theorem Il(rs:Q06)(k:Nat)(h:k<rs.length):(ag rs).take (k+1)=(ag rs).take k++[rs[k].p]:=by
 rw[V8 (by rw[lN];exact h)];simp[ag]
theorem Im(rs:Q07)(k:Nat)(h:k<rs.length):(eG rs).take (k+1)=(eG rs).take k++[rs[k].p]:=by
 rw[V8 (by rw[rZ];exact h)];simp[eG]
theorem keepR{wr W w':ae}{b b2 o1 o2 o3:Nat}{x y z:Value}(h:W.cell? ⟨b,o1,none⟩=some x/\W.cell? ⟨b,o2,none⟩=some y/\W.cell? ⟨b2,o3,none⟩=some z/\b<W.heap.size/\b2<W.heap.size/\af wr W)(hb:af W w'):
  w'.cell? ⟨b,o1,none⟩=some x/\w'.cell? ⟨b,o2,none⟩=some y/\w'.cell? ⟨b2,o3,none⟩=some z/\b<w'.heap.size/\b2<w'.heap.size/\af wr w' :=
 ⟨aJ hb h.2.2.2.1 h.1,aJ hb h.2.2.2.1 h.2.1,aJ hb h.2.2.2.2.1 h.2.2.1,VY h.2.2.2.1 hb.size,VY h.2.2.2.2.1 hb.size,h.2.2.2.2.2.trans (hb.mono h.2.2.2.2.2.size)⟩
theorem KJ{rs:Q06}{k:Nat}(hk:k<rs.length)(h:kP (ag rs) k=false):¬bQ (ag rs):=fun hs=>by
 have h1:=hs.1;simp only[bF,V9]at h1;rw[uE _ k h _ (by rw[lN];exact hk)]at h1;cases h1.2
set_option maxRecDepth 100000 in
theorem iJ(ad:Q02)(cap:Nat)(rs:Q06)(w:ae)(hlen:rs.length<=1048576)(hs:lc w ad rs)(hl:∀r∈rs,r.light)(hf:∀r∈rs,r.fits):
  Calls prog 91 #[.slice ad rs.length cap] w fun e w'=>e=.returned (.bool (aD (ag rs)))/\af w w':=by
 have HS:=aC hs;have HL:=aC hl;have XC:=aC hf;clear hs hl hf;by_cases h6:6<rs.length
 ·have HN:Hid (¬bQ (ag rs)):=fun h=>by have:=(bR h.1).1;omega
  go_enter func91,ntmps91;go_wp2;go_ret;exact⟨ah (eB HN.out).symm,V5 _ _⟩
 go_enter func91,ntmps91;go_wp2;go_loopw[3] (fun i wr=>∃k:Nat,k<=rs.length/\i=.int .i64 k/\Hid (iN (ag rs) k=true)/\Hid (af w wr)) (fun i _=>rs.length-(intOf i).toNat);case atStart=>exact⟨0,Wd _,rfl,rfl,V5 _ _⟩
 obtain⟨k,hk,rfl,HP,HB⟩:=hrel;by_cases hlt:k<rs.length
 ·rcases HS.out.below HB.out with rfl|⟨b,off,rfl,hb,hr,hok⟩
  ·simp at hlt
  obtain⟨t0,t1⟩:=hr k hlt;have Yk:Hid (rs[k].ok wr):=hok rs[k] (VZ hlt);have HSW:=aC (HS.out.below HB.out);have z0:rs[k].name.size<=maxLen:=(XC.out _ (VZ hlt)).1;have hk1:=bC k;have hk2:(k:Int)<(rs.length:Int):=by omega
  have HTP:Hid (∀(m:Nat) (h:m<rs.length),wr.cell? ⟨b,off+m*2,none⟩=some (.string rs[m].name)):=fun m h=>(hr m h).1;have HTA:=Em hlt;have HTH:Hid (kP (ag rs) k=_):=HTA;have HBAD:Hid (kP (ag rs) k=false->¬bQ (ag rs)):=KJ hlt;clear hr hok HTA;go_wp2_with fail;refine SH (fun K=>∀(v0 v1 v2 v3 v4 v5 v6 v7 v8 v9 v10 v11 v12 v13 v14 v15 v16 v17 v18 v19 v20 v21 v22 v23 v24 v25 v26 v27 v28 v29 v30 v31 v32:Value) (w':World),af wr w'->kP (ag rs) k=dE (eG rs[k].rows) rs[k].rows.length->K { tmps:=List.toArray (Value.slice (some ⟨b,off,none⟩) rs.length cap::undef::u2::.int .i64 k::u4::u5::undef::undef::undef::undef::.slice (some ⟨b,off,none⟩) rs.length cap::.int .i64 rs.length::.bool (decide (6<(rs.length:Int)))::.int .i64 k::.slice (some ⟨b,off,none⟩) rs.length cap::.int .i64 rs.length::.bool true::u17::u18::v0::v1::v2::v3::v4::v5::v6::v7::v8::v9::v10::v11::v12::v13::v14::v15::v16::v17::v18::v19::v20::v21::v22::v23::v24::v25::v26::v27::v28::v29::v30::v31::v32::.bool false::u53::u54::u55::u56::u57::u58::u59::u60::u61::u62::u63::u64::u65::u66::u67::u68::u69::u70::u71::u72::u73::u74::u75::u76::u77::u78::u79::u80::u81::u82::u83::u84::u85::u86::u87::u88::u89::u90::u91::u92::u93::u94::u95::u96::u97::u98::u99::undef::undef::undef::undef::undef::undef::undef::undef::undef::undef::undef::undef::undef::undef::undef::undef::undef::undef::undef::undef::undef::undef::undef::undef::undef::undef::undef::undef::undef::undef::undef::undef::undef::undef::undef::undef::undef::undef::undef::[]),defers:=[] } w') ?cont6 ?reg6;case cont6 =>
   intro v0 v1 v2 v3 v4 v5 v6 v7 v8 v9 v10 v11 v12 v13 v14 v15 v16 v17 v18 v19 v20 v21 v22 v23 v24 v25 v26 v27 v28 v29 v30 v31 v32 w' hG hpre;have HG:Hid (af wr w'):=hG;have HPRE:Hid (kP (ag rs) k=dE (eG rs[k].rows) rs[k].rows.length):=hpre;clear hG hpre;obtain⟨wo,hwo⟩:∃wo,wo=wr:=⟨_,rfl⟩;subst hwo;have HB1:Hid (af w w'):=HB.out.trans (HG.out.mono HB.out.size);have lgT:=(HL.out _ (VZ hlt)).1;have HLT:Hid (∀q∈rs[k].rows,q.light):=(HL.out _ (VZ hlt)).2;have Zq:Hid (∀q∈rs[k].rows,q.fits):=(XC.out _ (VZ hlt)).2.2;have HBAD2:Hid (∀j,j<rs[k].rows.length->mP (eG rs[k].rows) j=false->¬bQ (ag rs)):=fun j hj h=>HBAD.out (by rw[HPRE.out];exact uD _ j h _ hj);clear t0 t1 HTP HSW Yk;go_wp2_with fail;go_loopw[4] (fun i w2=>∃j:Nat,j<=rs[k].rows.length/\i=.int .i64 j/\Hid (dE (eG rs[k].rows) j=true)/\Hid (af w w2)) (fun i _=>rs[k].rows.length-(intOf i).toNat);case atStart=>exact⟨0,Wd _,rfl,rfl,HB1⟩
   clear HB1 HG HB;obtain⟨j,hj,rfl,HRU,HB⟩:=hrel;rcases HS.out.below HB.out with rfl|⟨b',off',he,hb2,hr,hok⟩
   ·simp at hlt
   injection he with he;injection he with he1 he2;subst he1;subst he2;obtain⟨t0,t1⟩:=hr k hlt;have Yk:Hid (rs[k].ok wr):=hok rs[k] (VZ hlt);clear hr hok;by_cases hjl:j<rs[k].rows.length
   ·rcases Yk.out with hnil|⟨b2,XR,had,hbb,hr2,hok2⟩
    ·rw[hnil]at hjl;simp at hjl
    rw[had]at t1;obtain⟨q0,q1⟩:=hr2 j hjl;have HQ:Hid (∀(m:Nat) (h:m<rs[k].rows.length),wr.cell? ⟨b2,XR+m*2,none⟩=some (.string rs[k].rows[m].name)):=fun m h=>(hr2 m h).1;have ZL:Hid (jv wr rs[k].rows[j].ad rs[k].rows[j].rows):=hok2 _ (VZ hjl);have z1:rs[k].rows[j].name.size<=maxLen:=(Zq.out _ (VZ hjl)).1;have ZO:Hid (rs[k].rows[j].light):=HLT.out _ (VZ hjl);have ZC:Hid (rs[k].rows[j].fits):=Zq.out _ (VZ hjl);have hj1:=bC j;have hj2:(j:Int)<(rs[k].rows.length:Int):=by omega
    have HRG:Hid (mP (eG rs[k].rows) j=_):=En hjl;obtain⟨W1,hW1⟩:∃W1,W1=wr.alloc (.cells #[.string rs[k].rows[j].name,.slice rs[k].rows[j].ad rs[k].rows[j].rows.length rs[k].rows[j].cap] 149):=⟨_,rfl⟩;have hal:af wr W1:=by rw[hW1];exact(V5 _ _).alloc (V4 _) _
    have XJ:=aC hal;have hgl:wr.heap.size<W1.heap.size:=by rw[hW1];simp
    have g0:W1.cell? ⟨wr.heap.size,0,none⟩=some (.string rs[k].rows[j].name):=by rw[hW1];simp
    have g1:W1.cell? ⟨wr.heap.size,1,none⟩=some (.slice rs[k].rows[j].ad rs[k].rows[j].rows.length rs[k].rows[j].cap):=by rw[hW1];simp
    have d1:=aJ hal hb2 t1;have hb3:b<W1.heap.size:=Nat.lt_trans hb2 hgl;have hb4:b2<W1.heap.size:=Nat.lt_trans hbb hgl;clear hr2 hok2;go_wp2_with fail;rw[<-hW1];clear hW1 t0 q0 q1 hal t1;have p0:=cell_regrown g0;have p1:=cell_regrown g1;have p2:=cell_regrown d1;have Yh:Hid (∀d os,Calls prog 151 #[.string rs[k].rows[j].name] (grow (redrawn W1 d) os) fun e w''=>e=.returned (.bool (aR rs[k].rows[j].name))/\∃p:Regrown,w''=grow (redrawn W1 p.d) p.os):=by
     refine jV fun W'=>?_;exact aT _ _ z1
    have Z9:Hid (∀d os,Calls prog 152 #[.slice rs[k].rows[j].ad rs[k].rows[j].rows.length rs[k].rows[j].cap] (grow (redrawn W1 d) os) fun e w''=>e=.returned (.bool (aP (aj rs[k].rows[j].rows)))/\∃p:Regrown,w''=grow (redrawn W1 p.d) p.os):=by
     refine bq fun W' hb=>?_;exact mM _ _ rs[k].rows[j].rows _ ZO.out.1 ZO.out.2 ZC.out.2.2 (ZL.out.below (XJ.out.trans (hb.mono XJ.out.size)))
    have Yb:Hid (∀d os,af w (grow (redrawn W1 d) os)):=fun d os=>HB.out.trans ((XJ.out.mono HB.out.size).trans ((below_regrown W1 d os).mono (Wh HB.out.size XJ.out.size)));cases hnm:aR rs[k].rows[j].name;case false=>
     rw[hnm]at Yh;have HN:Hid (¬bQ (ag rs)):=HBAD2.out j hjl (by rw[HRG.out];simp[hnm]);refine wp_region_quiet_below (by kernel_rfl) (by kernel_rfl) ?_
     repeat(go_big_quiet_step (exact Yh.out _ _))
     refine wpQuiet_nil ?_;rintro _ ⟨⟨dq,osq⟩,rfl⟩;go_wp2;go_ret;exact⟨ah (eB HN.out).symm,Yb.out dq osq⟩
    rw[hnm]at Yh;obtain⟨ex,hex⟩:∃ex,ex=aP (aj rs[k].rows[j].rows):=⟨_,rfl⟩;have fin:Hid (∀pv,yK (eG rs[k].rows) rs[k].rows[j].name j=pv->mP (eG rs[k].rows) j=(pv&&ex)):=fun pv h=>by rw[HRG.out,hnm,h,hex];simp
    rw[<-hex]at Z9;clear hex HRG hnm;by_cases hpos:j=0
    ·have hk0:¬(0:Int)<(j:Int):=by omega
     have hk9:decide (0<j)=false:=by simp;omega
     have YX:=ol (fin.out _ (Ca hpos));replace hpos:Hid (j=0):=hpos;refine wp_region_quiet_below (by kernel_rfl) (by kernel_rfl) ?_
     repeat(go_big_quiet_step (first|exact Yh.out _ _|exact Z9.out _ _))
     refine wpQuiet_nil ?_;rintro _ ⟨⟨dq,osq⟩,rfl⟩;cases ex;case false=>
      have HN:Hid (¬bQ (ag rs)):=HBAD2.out j hjl (by rw[YX.out];rfl);go_wp2;go_ret;exact⟨ah (eB HN.out).symm,Yb.out dq osq⟩
     have Y0:Hid (dE (eG rs[k].rows) (j+1)=true):=by show _=_;simp only[dE];rw[HRU.out,YX.out];rfl
     go_wp2;go_roundw;case rel=>exact⟨j+1,by omega,by go_num,Y0,Yb.out dq osq⟩
     simp[intOf]<;>omega
    obtain⟨m,hm⟩:∃m,j=m+1:=⟨j-1,by omega⟩;have XQ:m<rs[k].rows.length:=by omega
    have hk0:(0:Int)<(j:Int):=by omega
    have hk9:decide (0<j)=true:=by simp;omega
    have hkm:(j:Int)-1=(m:Int):=by omega
    have hwm:IntKind.i64.wrap (m:Int)=(m:Int):=by rw[IntKind.wrap_i64];omega
    have hm1:=bC m;have hm2:(m:Int)<(rs[k].rows.length:Int):=by omega
    have qm:=cell_regrown (aJ XJ.out hbb (HQ.out m XQ));have YX:=ol (fin.out _ (BX hm XQ));replace hm:Hid (j=m+1):=hm;cases hless:Op.bytesLess rs[k].rows[m].name.toList rs[k].rows[j].name.toList;case false=>
     have HN:Hid (¬bQ (ag rs)):=HBAD2.out j hjl (by rw[YX.out];simp[jk,hless]);refine wp_region_quiet_below (by kernel_rfl) (by kernel_rfl) ?_
     repeat(go_big_quiet_step (exact Yh.out _ _))
     refine wpQuiet_nil ?_;rintro _ ⟨⟨dq,osq⟩,rfl⟩;go_wp2;go_ret;exact⟨ah (eB HN.out).symm,Yb.out dq osq⟩
    refine wp_region_quiet_below (by kernel_rfl) (by kernel_rfl) ?_
    repeat(go_big_quiet_step (first|exact Yh.out _ _|exact Z9.out _ _))
    refine wpQuiet_nil ?_;rintro _ ⟨⟨dq,osq⟩,rfl⟩;cases ex;case false=>
     have HN:Hid (¬bQ (ag rs)):=HBAD2.out j hjl (by rw[YX.out];simp);go_wp2;go_ret;exact⟨ah (eB HN.out).symm,Yb.out dq osq⟩
    have Y0:Hid (dE (eG rs[k].rows) (j+1)=true):=by show _=_;simp only[dE];rw[HRU.out,YX.out];simp[jk,hless]
    go_wp2;go_roundw;case rel=>exact⟨j+1,by omega,by go_num,Y0,Yb.out dq osq⟩
    simp[intOf]<;>omega
   obtain rfl:j=rs[k].rows.length:=by omega
   have HTU:Hid (iN (ag rs) (k+1)=true):=by show _=_;simp only[iN];rw[HP.out,HPRE.out,HRU.out];rfl
   go_wp2;go_roundw;case rel=>exact⟨k+1,by omega,by go_num,HTU,HB⟩
   simp[intOf]<;>omega
  intro hC;have HC:=ol hC;clear hC;have p0:=cell_regrown t0;have p1:=cell_regrown t1;have Yh:Hid (∀d os,Calls prog 151 #[.string rs[k].name] (grow (redrawn wr d) os) fun e w''=>e=.returned (.bool (aR rs[k].name))/\∃p:Regrown,w''=grow (redrawn wr p.d) p.os):=by
   refine jV fun W'=>?_;exact aT _ _ z0
  have Yb:Hid (∀d os,af w (grow (redrawn wr d) os)):=fun d os=>HB.out.trans ((below_regrown wr d os).mono HB.out.size);cases hnm:aR rs[k].name;case false=>
   rw[hnm]at Yh;have HN:Hid (¬bQ (ag rs)):=HBAD.out (by rw[HTH.out];simp[hnm]);refine wp_region_quiet_below (by kernel_rfl) (by kernel_rfl) ?_
   repeat(go_big_quiet_step (exact Yh.out _ _))
   refine wpQuiet_nil ?_;rintro _ ⟨⟨dq,osq⟩,rfl⟩;go_wp2;go_ret;exact⟨ah (eB HN.out).symm,Yb.out dq osq⟩
  rw[hnm]at Yh;obtain⟨gt,hgt⟩:∃gt,gt=decide (6<(rs[k].rows.length:Int)):=⟨_,rfl⟩;have HGT:Hid (decide (rs[k].rows.length<=6)=!gt):=by show _=_;rw[hgt];by_cases h:rs[k].rows.length<=6<;>simp[h]<;>omega
  have hgn:decide (6<rs[k].rows.length)=gt:=by rw[hgt];by_cases h:6<rs[k].rows.length<;>simp[h]<;>omega
  replace hgt:=hgt.symm;by_cases hpos:k=0
  ·have hk0:¬(0:Int)<(k:Int):=by omega
   have hk9:decide (0<k)=false:=by simp;omega
   have YX:Hid (wL (ag rs) rs[k].name k=true):=BZ hpos;replace hpos:Hid (k=0):=hpos;refine wp_region_quiet_below (by kernel_rfl) (by kernel_rfl) ?_
   repeat(go_big_quiet_step (exact Yh.out _ _))
   refine wpQuiet_nil ?_;rintro _ ⟨⟨dq,osq⟩,rfl⟩;clear hgt hgn;cases gt;case true=>
    have HN:Hid (¬bQ (ag rs)):=HBAD.out (by rw[HTH.out,YX.out];simp[HGT.out]);go_wp2;go_ret;exact⟨ah (eB HN.out).symm,Yb.out dq osq⟩
   exact HC.out _ _ _ _ _ _ _ _ _ _ _ _ _ _ _ _ _ _ _ _ _ _ _ _ _ _ _ _ _ _ _ _ _ _ (below_regrown wr dq osq) (by rw[HTH.out,YX.out];simp[HGT.out, *])
  obtain⟨m,hm⟩:∃m,k=m+1:=⟨k-1,by omega⟩;have XQ:m<rs.length:=by omega
  have hk0:(0:Int)<(k:Int):=by omega
  have hk9:decide (0<k)=true:=by simp;omega
  have hkm:(k:Int)-1=(m:Int):=by omega
  have hwm:IntKind.i64.wrap (m:Int)=(m:Int):=by rw[IntKind.wrap_i64];omega
  have hm1:=bC m;have hm2:(m:Int)<(rs.length:Int):=by omega
  have qm:=cell_regrown (HTP.out m XQ);have YX:Hid (wL (ag rs) rs[k].name k=jk rs[m].name rs[k].name):=BV hm XQ;replace hm:Hid (k=m+1):=hm;cases hless:Op.bytesLess rs[m].name.toList rs[k].name.toList;case false=>
   have HN:Hid (¬bQ (ag rs)):=HBAD.out (by rw[HTH.out,YX.out];simp[jk,hless]);refine wp_region_quiet_below (by kernel_rfl) (by kernel_rfl) ?_
   repeat(go_big_quiet_step (exact Yh.out _ _))
   refine wpQuiet_nil ?_;rintro _ ⟨⟨dq,osq⟩,rfl⟩;go_wp2;go_ret;exact⟨ah (eB HN.out).symm,Yb.out dq osq⟩
  refine wp_region_quiet_below (by kernel_rfl) (by kernel_rfl) ?_
  repeat(go_big_quiet_step (exact Yh.out _ _))
  refine wpQuiet_nil ?_;rintro _ ⟨⟨dq,osq⟩,rfl⟩;clear hgt hgn;cases gt;case true=>
   have HN:Hid (¬bQ (ag rs)):=HBAD.out (by rw[HTH.out,YX.out];simp[HGT.out]);go_wp2;go_ret;exact⟨ah (eB HN.out).symm,Yb.out dq osq⟩
  exact HC.out _ _ _ _ _ _ _ _ _ _ _ _ _ _ _ _ _ _ _ _ _ _ _ _ _ _ _ _ _ _ _ _ _ _ (below_regrown wr dq osq) (by rw[HTH.out,YX.out];simp[jk,HGT.out, *])
 obtain rfl:k=rs.length:=by omega
 have HSH:Hid (bF (ag rs)=true):=by
  show _=_;unfold bF;rw[lN,HP.out];simp;omega
 have HSF:Hid (rs.length<=6/\(∀r∈rs,r.rows.length<=6)/\∀r∈rs,∀q∈r.rows,aP (aj q.rows)=true/\q.rows.length<=15/\∀e∈q.rows,eH q.rows.length e.e.kids):=bR HSH.out;clear HP;go_wp2_with fail;go_loopw[6] (fun i wr=>∃k:Nat,k<=rs.length/\i=.int .i64 k/\Hid (((ag rs).take k).all (rf (ag rs))=true)/\Hid (af w wr)) (fun i _=>rs.length-(intOf i).toNat);case atStart=>exact⟨0,Wd _,rfl,(by show _=_;simp),HB⟩
 clear HB;obtain⟨k,hk,rfl,HP,HB⟩:=hrel;by_cases hlt:k<rs.length
 ·have hk1:=bC k;have hk2:(k:Int)<(rs.length:Int):=by omega
  have lgT:=(HL.out _ (VZ hlt)).1;have HLT:Hid (∀q∈rs[k].rows,q.light):=(HL.out _ (VZ hlt)).2;go_wp2_with fail;go_loopw[7] (fun i w2=>∃j:Nat,j<=rs[k].rows.length/\i=.int .i64 j/\Hid (((eG rs[k].rows).take j).all (fun r=>aV (ag rs) rs[k].name r.expr)=true)/\Hid (af w w2)) (fun i _=>rs[k].rows.length-(intOf i).toNat);case atStart=>exact⟨0,Wd _,rfl,(by show _=_;simp),HB⟩
  clear HB;obtain⟨j,hj,rfl,HR,HB⟩:=hrel;have HSW:=aC (HS.out.below HB.out);rcases HSW.out with rfl|⟨b,off,rfl,hb,hr,hok⟩
  ·simp at hlt
  obtain⟨t0,t1⟩:=hr k hlt;have Yk:Hid (rs[k].ok wr):=hok rs[k] (VZ hlt);clear hr hok;by_cases hjl:j<rs[k].rows.length
  ·rcases Yk.out with hnil|⟨b2,XR,had,hbb,hr2,hok2⟩
   ·rw[hnil]at hjl;simp at hjl
   rw[had]at t1;obtain⟨q0,q1⟩:=hr2 j hjl;have ZL:Hid (jv wr rs[k].rows[j].ad rs[k].rows[j].rows):=hok2 _ (VZ hjl);have ZO:Hid (rs[k].rows[j].light):=HLT.out _ (VZ hjl);have hj1:=bC j;have hj2:(j:Int)<(rs[k].rows.length:Int):=by omega
   have c3:wr.drew.cell? ⟨b,off+k*2,none⟩=some (.string rs[k].name)/\wr.drew.cell? ⟨b,off+k*2+1,none⟩=some (.slice (some ⟨b2,XR,none⟩) rs[k].rows.length rs[k].cap)/\wr.drew.cell? ⟨b2,XR+j*2+1,none⟩=some (.slice rs[k].rows[j].ad rs[k].rows[j].rows.length rs[k].rows[j].cap)/\b<wr.drew.heap.size/\b2<wr.drew.heap.size/\af wr wr.drew:=⟨t0,t1,q1,hb,hbb,(V5 _ _).drew⟩;clear hr2 hok2 q0 had;go_wp2_with fail
   go_region_held3 (fun w'=>w'.cell? ⟨b,off+k*2,none⟩=some (.string rs[k].name)/\w'.cell? ⟨b,off+k*2+1,none⟩=some (.slice (some ⟨b2,XR,none⟩) rs[k].rows.length rs[k].cap)/\w'.cell? ⟨b2,XR+j*2+1,none⟩=some (.slice rs[k].rows[j].ad rs[k].rows[j].rows.length rs[k].rows[j].cap)/\b<w'.heap.size/\b2<w'.heap.size/\af wr w')
    (first|exact c3|assumption|exact keepR (by first|exact c3|assumption) hbx)
    (first|(go_at_call 153;refine(Jl (some ⟨b,off,none⟩) rs[k].rows[j].ad cap rs[k].rows[j].cap rs _ rs[k].rows[j].rows _ (by omega) (HSW.out.below ((V5 _ _).drew)) HL.out ZO.out.1 (ZL.out.below ((V5 _ _).drew)) ZO.out.2).mono ?_;rintro e w' ⟨rfl,hbx⟩))
   rename_i hHeld;have HBN:Hid (af w w'):=HB.out.trans (hHeld.2.2.2.2.2.mono HB.out.size);clear hHeld c3 t0 t1 q1 hbx;have HTS:=Im rs[k].rows j hjl;cases hrf:aV (ag rs) rs[k].name (aj rs[k].rows[j].rows);case false=>
    have HN:Hid (¬bQ (ag rs)):=fun hs=>by
     have h1:=hs.2.1;unfold kC at h1;rw[Wq]at h1;have h2:=h1 rs[k].p (by unfold ag;exact WG (VZ hlt));unfold rf at h2;rw[Wq]at h2;have h3:=h2 rs[k].rows[j].p (by show _∈eG rs[k].rows;unfold eG;exact WG (VZ hjl));have h4:aV (ag rs) rs[k].name (aj rs[k].rows[j].rows)=true:=h3;rw[hrf]at h4;cases h4
    go_wp2;go_ret;exact⟨ah (eB HN.out).symm,HBN.out⟩
   have Y0:Hid (((eG rs[k].rows).take (j+1)).all (fun r=>aV (ag rs) rs[k].name r.expr)=true):=by
    show _=_;rw[HTS,Xj,HR.out];have:aV (ag rs) rs[k].name rs[k].rows[j].p.expr=true:=hrf;simp[this]
   clear HTS;go_wp2;go_roundw;case rel=>exact⟨j+1,by omega,by go_num,Y0,HBN⟩
   simp[intOf]<;>omega
  obtain rfl:j=rs[k].rows.length:=by omega
  have HPN:Hid (((ag rs).take (k+1)).all (rf (ag rs))=true):=by
   show _=_;rw[Il rs k hlt,Xj,HP.out];have h1:=HR.out;rw[<-rZ,Wo]at h1;have:rf (ag rs) rs[k].p=true:=h1;simp[this]
  go_wp2;go_roundw;case rel=>exact⟨k+1,by omega,by go_num,HPN,HB⟩
  simp[intOf]<;>omega
 obtain rfl:k=rs.length:=by omega
 have Z0:Hid (kC (ag rs)=true):=by
  have h1:=HP.out;rw[<-lN,Wo]at h1;exact h1
 go_wp2_with fail;refine(wK ad cap rs _ HSF.out.1 (HS.out.below HB.out) HL.out HSF.out.2.1 (fun r hr q hq=>(HSF.out.2.2 r hr q hq).2) (mQ Z0.out)).mono ?_;rintro e w' ⟨⟨XB,cap',out,rfl,-,-,hLe⟩|⟨rfl,hno⟩,hbx⟩
 ·have HY:Hid (bQ (ag rs)):=⟨HSH.out,Z0.out,_,hLe.sol⟩;have HBN:=kv HB hbx;clear hLe hbx;go_wp2;go_ret;exact⟨ah (Gm HY.out).symm,HBN.out⟩
 have HY:Hid (¬bQ (ag rs)):=fun h=>hno h.2.2;have HBN:=kv HB hbx;clear hno hbx;go_wp2;go_ret;exact⟨ah (eB HY.out).symm,HBN.out⟩
end Go.Proofs.YtcgdckphpjfmhaaGreatDoor
