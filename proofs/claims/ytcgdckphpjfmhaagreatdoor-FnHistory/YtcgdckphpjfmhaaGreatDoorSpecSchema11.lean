/- Contract of the document's function on schemas. -/
import Derived.Test.YtcgdckphpjfmhaaGreatDoorSq
import Derived.Test.YtcgdckphpjfmhaaGreatDoorJ10
import Derived.Test.YtcgdckphpjfmhaaGreatDoorJ9
open Go.Proofs.Tryz
set_option maxHeartbeats 80000000
namespace Go.Proofs.YtcgdckphpjfmhaaGreatDoor
open Go.Sort
open ChangeShapes WideShapes ChangeAt RowKit
open Pl
def vJ(ts:Q0b)(n:ByteArray):Nat->Bool
 | 0=>true
 | i+1=>(ts[i]?.map fun p=>jg p.name n).getD true
def xZ(ts:List Rl)(n:ByteArray):Nat->Bool
 | 0=>true
 | i+1=>(ts[i]?.map fun p=>jg p.name n).getD true
theorem Dj{rs:Q06}{k:Nat}(h:k<rs.length):kX (ag rs) k=(aS rs[k].name&&vJ (ag rs) rs[k].name k&&decide (rs[k].rows.length<=6)&&dC (eu rs[k].rows) rs[k].rows.length):=by
 unfold kX;have e:(ag rs)[k]?=some rs[k].p:=by simp[ag,h]
 rw[e];have e2:rs[k].p.rels.length=rs[k].rows.length:=by simp[TR.p,eu]
 simp only[e2];cases k<;>rfl
theorem Dk{rs:Q07}{k:Nat}(h:k<rs.length):nA (eu rs) k=(aS rs[k].name&&xZ (eu rs) rs[k].name k&&aP (aj rs[k].rows)):=by
 unfold nA;have e:(eu rs)[k]?=some rs[k].p:=by simp[eu,h]
 rw[e];cases k<;>rfl
theorem AV{rs:Q06}{n:ByteArray}{k m:Nat}(hk:k=m+1)(h0:m<rs.length):vJ (ag rs) n k=jg rs[m].name n:=by
 subst hk;have e:(ag rs)[m]?=some rs[m].p:=by simp[ag,h0]
 simp only[vJ,e];rfl
theorem AX{rs:Q07}{n:ByteArray}{k m:Nat}(hk:k=m+1)(h0:m<rs.length):xZ (eu rs) n k=jg rs[m].name n:=by
 subst hk;have e:(eu rs)[m]?=some rs[m].p:=by simp[eu,h0]
 simp only[xZ,e];rfl
theorem AY{ts:Q0b}{n:ByteArray}{k:Nat}(hk:k=0):vJ ts n k=true:=by subst hk;rfl
theorem AZ{ts:List Rl}{n:ByteArray}{k:Nat}(hk:k=0):xZ ts n k=true:=by subst hk;rfl
theorem RF{P:Program}{c:Code}{Q:Exit->Act->World->Prop}{a:Act}{w:ae}(H:(Act->World->Prop)->Prop)(hc:H (Q .normal))(hr:H (Q .normal)->c.wp P Q a w):c.wp P Q a w:=hr hc
theorem Gx(rs:Q06)(k:Nat)(h:k<rs.length):(ag rs).take (k+1)=(ag rs).take k++[rs[k].p]:=by
 rw[VE (by rw[lm];exact h)];simp[ag]
theorem Gy(rs:Q07)(k:Nat)(h:k<rs.length):(eu rs).take (k+1)=(eu rs).take k++[rs[k].p]:=by
 rw[VE (by rw[rJ];exact h)];simp[eu]
theorem keepR{wr W w':ae}{b b2 o1 o2 o3:Nat}{x y z:Value}(h:W.cell? ⟨b,o1,none⟩=some x/\W.cell? ⟨b,o2,none⟩=some y/\W.cell? ⟨b2,o3,none⟩=some z/\b<W.heap.size/\b2<W.heap.size/\af wr W)(hb:af W w'):
  w'.cell? ⟨b,o1,none⟩=some x/\w'.cell? ⟨b,o2,none⟩=some y/\w'.cell? ⟨b2,o3,none⟩=some z/\b<w'.heap.size/\b2<w'.heap.size/\af wr w' :=
 ⟨aI hb h.2.2.2.1 h.1,aI hb h.2.2.2.1 h.2.1,aI hb h.2.2.2.2.1 h.2.2.1,Vy h.2.2.2.1 hb.size,Vy h.2.2.2.2.1 hb.size,h.2.2.2.2.2.trans (hb.mono h.2.2.2.2.2.size)⟩
theorem JB{rs:Q06}{k:Nat}(hk:k<rs.length)(h:kX (ag rs) k=false):¬bI (ag rs):=fun hs=>by
 have h1:=hs.1;simp only[bQ,VF]at h1;rw[uf _ k h _ (by rw[lm];exact hk)]at h1;cases h1.2
set_option maxRecDepth 100000 in
theorem iD(ad:Q02)(cap:Nat)(rs:Q06)(w:ae)(hlen:rs.length<=1048576)(hs:jP w ad rs)(hl:∀r∈rs,r.light)(hf:∀r∈rs,r.fits):
  Calls prog 91 #[.slice ad rs.length cap] w fun e w'=>e=.returned (.bool (ak (ag rs)))/\af w w':=by
 have HS:=aC hs;have HL:=aC hl;have Xd:=aC hf;clear hs hl hf;by_cases h6:6<rs.length
 ·have HN:Hid (¬bI (ag rs)):=fun h=>by have:=(bu h.1).1;omega
  go_enter func91,ntmps91;go_wp2;go_ret;exact⟨ah (dK HN.out).symm,VD _ _⟩
 go_enter func91,ntmps91;go_wp2;go_loopw[3] (fun i wr=>∃k:Nat,k<=rs.length/\i=.int .i64 k/\Hid (iM (ag rs) k=true)/\Hid (af w wr)) (fun i _=>rs.length-(intOf i).toNat);case atStart=>exact⟨0,VG _,rfl,rfl,VD _ _⟩
 obtain⟨k,hk,rfl,HP,HB⟩:=hrel;by_cases hlt:k<rs.length
 ·rcases HS.out.below HB.out with rfl|⟨b,off,rfl,hb,hr,hok⟩
  ·simp at hlt
  obtain⟨t0,t1⟩:=hr k hlt;have XK:Hid (rs[k].ok wr):=hok rs[k] (Vz hlt);have HSW:=aC (HS.out.below HB.out);have z0:rs[k].name.size<=maxLen:=(Xd.out _ (Vz hlt)).1;have hk1:=bq k;have hk2:(k:Int)<(rs.length:Int):=by omega
  have HTP:Hid (∀(m:Nat) (h:m<rs.length),wr.cell? ⟨b,off+m*2,none⟩=some (.string rs[m].name)):=fun m h=>(hr m h).1;have HTA:=Dj hlt;have HTH:Hid (kX (ag rs) k=_):=HTA;have HBAD:Hid (kX (ag rs) k=false->¬bI (ag rs)):=JB hlt;clear hr hok HTA;go_wp2_with fail;refine RF (fun K=>∀(v0 v1 v2 v3 v4 v5 v6 v7 v8 v9 v10 v11 v12 v13 v14 v15 v16 v17 v18 v19 v20 v21 v22 v23 v24 v25 v26 v27 v28 v29 v30 v31 v32:Value) (w':World),af wr w'->kX (ag rs) k=dC (eu rs[k].rows) rs[k].rows.length->K { tmps:=List.toArray (Value.slice (some ⟨b,off,none⟩) rs.length cap::undef::u2::.int .i64 k::u4::u5::undef::undef::undef::undef::.slice (some ⟨b,off,none⟩) rs.length cap::.int .i64 rs.length::.bool (decide (6<(rs.length:Int)))::.int .i64 k::.slice (some ⟨b,off,none⟩) rs.length cap::.int .i64 rs.length::.bool true::u17::u18::v0::v1::v2::v3::v4::v5::v6::v7::v8::v9::v10::v11::v12::v13::v14::v15::v16::v17::v18::v19::v20::v21::v22::v23::v24::v25::v26::v27::v28::v29::v30::v31::v32::.bool false::u53::u54::u55::u56::u57::u58::u59::u60::u61::u62::u63::u64::u65::u66::u67::u68::u69::u70::u71::u72::u73::u74::u75::u76::u77::u78::u79::u80::u81::u82::u83::u84::u85::u86::u87::u88::u89::u90::u91::u92::u93::u94::u95::u96::u97::u98::u99::undef::undef::undef::undef::undef::undef::undef::undef::undef::undef::undef::undef::undef::undef::undef::undef::undef::undef::undef::undef::undef::undef::undef::undef::undef::undef::undef::undef::undef::undef::undef::undef::undef::undef::undef::undef::undef::undef::undef::[]),defers:=[] } w') ?cont6 ?reg6;case cont6 =>
   intro v0 v1 v2 v3 v4 v5 v6 v7 v8 v9 v10 v11 v12 v13 v14 v15 v16 v17 v18 v19 v20 v21 v22 v23 v24 v25 v26 v27 v28 v29 v30 v31 v32 w' hG hpre;have HG:Hid (af wr w'):=hG;have ZV:Hid (kX (ag rs) k=dC (eu rs[k].rows) rs[k].rows.length):=hpre;clear hG hpre;obtain⟨wo,hwo⟩:∃wo,wo=wr:=⟨_,rfl⟩;subst hwo;have HB1:Hid (af w w'):=HB.out.trans (HG.out.mono HB.out.size);have lgT:=(HL.out _ (Vz hlt)).1;have HLT:Hid (∀q∈rs[k].rows,q.light):=(HL.out _ (Vz hlt)).2;have YJ:Hid (∀q∈rs[k].rows,q.fits):=(Xd.out _ (Vz hlt)).2.2;have HBAD2:Hid (∀j,j<rs[k].rows.length->nA (eu rs[k].rows) j=false->¬bI (ag rs)):=fun j hj h=>HBAD.out (by rw[ZV.out];exact tZ _ j h _ hj);clear t0 t1 HTP HSW XK;go_wp2_with fail;go_loopw[4] (fun i w2=>∃j:Nat,j<=rs[k].rows.length/\i=.int .i64 j/\Hid (dC (eu rs[k].rows) j=true)/\Hid (af w w2)) (fun i _=>rs[k].rows.length-(intOf i).toNat);case atStart=>exact⟨0,VG _,rfl,rfl,HB1⟩
   clear HB1 HG HB;obtain⟨j,hj,rfl,HRU,HB⟩:=hrel;rcases HS.out.below HB.out with rfl|⟨b',off',he,hb2,hr,hok⟩
   ·simp at hlt
   injection he with he;injection he with he1 he2;subst he1;subst he2;obtain⟨t0,t1⟩:=hr k hlt;have XK:Hid (rs[k].ok wr):=hok rs[k] (Vz hlt);clear hr hok;by_cases hjl:j<rs[k].rows.length
   ·rcases XK.out with hnil|⟨b2,Xr,had,hbb,hr2,hok2⟩
    ·rw[hnil]at hjl;simp at hjl
    rw[had]at t1;obtain⟨q0,q1⟩:=hr2 j hjl;have HQ:Hid (∀(m:Nat) (h:m<rs[k].rows.length),wr.cell? ⟨b2,Xr+m*2,none⟩=some (.string rs[k].rows[m].name)):=fun m h=>(hr2 m h).1;have Zo:Hid (jq wr rs[k].rows[j].ad rs[k].rows[j].rows):=hok2 _ (Vz hjl);have z1:rs[k].rows[j].name.size<=maxLen:=(YJ.out _ (Vz hjl)).1;have Yx:Hid (rs[k].rows[j].light):=HLT.out _ (Vz hjl);have Zf:Hid (rs[k].rows[j].fits):=YJ.out _ (Vz hjl);have hj1:=bq j;have hj2:(j:Int)<(rs[k].rows.length:Int):=by omega
    have HRG:Hid (nA (eu rs[k].rows) j=_):=Dk hjl;obtain⟨W1,hW1⟩:∃W1,W1=wr.alloc (.cells #[.string rs[k].rows[j].name,.slice rs[k].rows[j].ad rs[k].rows[j].rows.length rs[k].rows[j].cap] 149):=⟨_,rfl⟩;have hal:af wr W1:=by rw[hW1];exact(VD _ _).alloc (VC _) _
    have Xl:=aC hal;have hgl:wr.heap.size<W1.heap.size:=by rw[hW1];simp
    have g0:W1.cell? ⟨wr.heap.size,0,none⟩=some (.string rs[k].rows[j].name):=by rw[hW1];simp
    have g1:W1.cell? ⟨wr.heap.size,1,none⟩=some (.slice rs[k].rows[j].ad rs[k].rows[j].rows.length rs[k].rows[j].cap):=by rw[hW1];simp
    have d1:=aI hal hb2 t1;have hb3:b<W1.heap.size:=Nat.lt_trans hb2 hgl;have hb4:b2<W1.heap.size:=Nat.lt_trans hbb hgl;clear hr2 hok2;go_wp2_with fail;rw[<-hW1];clear hW1 t0 q0 q1 hal t1;have p0:=cell_regrown g0;have p1:=cell_regrown g1;have p2:=cell_regrown d1;have XJ:Hid (∀d os,Calls prog 151 #[.string rs[k].rows[j].name] (grow (redrawn W1 d) os) fun e w''=>e=.returned (.bool (aS rs[k].rows[j].name))/\∃p:Regrown,w''=grow (redrawn W1 p.d) p.os):=by
     refine jQ fun W'=>?_;exact aT _ _ z1
    have ZA:Hid (∀d os,Calls prog 152 #[.slice rs[k].rows[j].ad rs[k].rows[j].rows.length rs[k].rows[j].cap] (grow (redrawn W1 d) os) fun e w''=>e=.returned (.bool (aP (aj rs[k].rows[j].rows)))/\∃p:Regrown,w''=grow (redrawn W1 p.d) p.os):=by
     refine cu fun W' hb=>?_;exact mD _ _ rs[k].rows[j].rows _ Yx.out.1 Yx.out.2 Zf.out.2.2 (Zo.out.below (Xl.out.trans (hb.mono Xl.out.size)))
    have XI:Hid (∀d os,af w (grow (redrawn W1 d) os)):=fun d os=>HB.out.trans ((Xl.out.mono HB.out.size).trans ((below_regrown W1 d os).mono (VJ HB.out.size Xl.out.size)));cases hnm:aS rs[k].rows[j].name;case false=>
     rw[hnm]at XJ;have HN:Hid (¬bI (ag rs)):=HBAD2.out j hjl (by rw[HRG.out];simp[hnm]);refine wp_region_quiet_below (by kernel_rfl) (by kernel_rfl) ?_
     repeat(go_big_quiet_step (exact XJ.out _ _))
     refine wpQuiet_nil ?_;rintro _ ⟨⟨dq,osq⟩,rfl⟩;go_wp2;go_ret;exact⟨ah (dK HN.out).symm,XI.out dq osq⟩
    rw[hnm]at XJ;obtain⟨ex,hex⟩:∃ex,ex=aP (aj rs[k].rows[j].rows):=⟨_,rfl⟩;have fin:Hid (∀pv,xZ (eu rs[k].rows) rs[k].rows[j].name j=pv->nA (eu rs[k].rows) j=(pv&&ex)):=fun pv h=>by rw[HRG.out,hnm,h,hex];simp
    rw[<-hex]at ZA;clear hex HRG hnm;by_cases hpos:j=0
    ·have hk0:¬(0:Int)<(j:Int):=by omega
     have hk9:decide (0<j)=false:=by simp;omega
     have XV:=qp (fin.out _ (AZ hpos));replace hpos:Hid (j=0):=hpos;refine wp_region_quiet_below (by kernel_rfl) (by kernel_rfl) ?_
     repeat(go_big_quiet_step (first|exact XJ.out _ _|exact ZA.out _ _))
     refine wpQuiet_nil ?_;rintro _ ⟨⟨dq,osq⟩,rfl⟩;cases ex;case false=>
      have HN:Hid (¬bI (ag rs)):=HBAD2.out j hjl (by rw[XV.out];rfl);go_wp2;go_ret;exact⟨ah (dK HN.out).symm,XI.out dq osq⟩
     have YA:Hid (dC (eu rs[k].rows) (j+1)=true):=by show _=_;simp only[dC];rw[HRU.out,XV.out];rfl
     go_wp2;go_roundw;case rel=>exact⟨j+1,by omega,by go_num,YA,XI.out dq osq⟩
     simp[intOf]<;>omega
    obtain⟨m,hm⟩:∃m,j=m+1:=⟨j-1,by omega⟩;have Xu:m<rs[k].rows.length:=by omega
    have hk0:(0:Int)<(j:Int):=by omega
    have hk9:decide (0<j)=true:=by simp;omega
    have hkm:(j:Int)-1=(m:Int):=by omega
    have hwm:IntKind.i64.wrap (m:Int)=(m:Int):=by rw[IntKind.wrap_i64];omega
    have hm1:=bq m;have hm2:(m:Int)<(rs[k].rows.length:Int):=by omega
    have qm:=cell_regrown (aI Xl.out hbb (HQ.out m Xu));have XV:=qp (fin.out _ (AX hm Xu));replace hm:Hid (j=m+1):=hm;cases hless:Op.bytesLess rs[k].rows[m].name.toList rs[k].rows[j].name.toList;case false=>
     have HN:Hid (¬bI (ag rs)):=HBAD2.out j hjl (by rw[XV.out];simp[jg,hless]);refine wp_region_quiet_below (by kernel_rfl) (by kernel_rfl) ?_
     repeat(go_big_quiet_step (exact XJ.out _ _))
     refine wpQuiet_nil ?_;rintro _ ⟨⟨dq,osq⟩,rfl⟩;go_wp2;go_ret;exact⟨ah (dK HN.out).symm,XI.out dq osq⟩
    refine wp_region_quiet_below (by kernel_rfl) (by kernel_rfl) ?_
    repeat(go_big_quiet_step (first|exact XJ.out _ _|exact ZA.out _ _))
    refine wpQuiet_nil ?_;rintro _ ⟨⟨dq,osq⟩,rfl⟩;cases ex;case false=>
     have HN:Hid (¬bI (ag rs)):=HBAD2.out j hjl (by rw[XV.out];simp);go_wp2;go_ret;exact⟨ah (dK HN.out).symm,XI.out dq osq⟩
    have YA:Hid (dC (eu rs[k].rows) (j+1)=true):=by show _=_;simp only[dC];rw[HRU.out,XV.out];simp[jg,hless]
    go_wp2;go_roundw;case rel=>exact⟨j+1,by omega,by go_num,YA,XI.out dq osq⟩
    simp[intOf]<;>omega
   obtain rfl:j=rs[k].rows.length:=by omega
   have HTU:Hid (iM (ag rs) (k+1)=true):=by show _=_;simp only[iM];rw[HP.out,ZV.out,HRU.out];rfl
   go_wp2;go_roundw;case rel=>exact⟨k+1,by omega,by go_num,HTU,HB⟩
   simp[intOf]<;>omega
  intro hC;have HC:=qp hC;clear hC;have p0:=cell_regrown t0;have p1:=cell_regrown t1;have XJ:Hid (∀d os,Calls prog 151 #[.string rs[k].name] (grow (redrawn wr d) os) fun e w''=>e=.returned (.bool (aS rs[k].name))/\∃p:Regrown,w''=grow (redrawn wr p.d) p.os):=by
   refine jQ fun W'=>?_;exact aT _ _ z0
  have XI:Hid (∀d os,af w (grow (redrawn wr d) os)):=fun d os=>HB.out.trans ((below_regrown wr d os).mono HB.out.size);cases hnm:aS rs[k].name;case false=>
   rw[hnm]at XJ;have HN:Hid (¬bI (ag rs)):=HBAD.out (by rw[HTH.out];simp[hnm]);refine wp_region_quiet_below (by kernel_rfl) (by kernel_rfl) ?_
   repeat(go_big_quiet_step (exact XJ.out _ _))
   refine wpQuiet_nil ?_;rintro _ ⟨⟨dq,osq⟩,rfl⟩;go_wp2;go_ret;exact⟨ah (dK HN.out).symm,XI.out dq osq⟩
  rw[hnm]at XJ;obtain⟨gt,hgt⟩:∃gt,gt=decide (6<(rs[k].rows.length:Int)):=⟨_,rfl⟩;have HGT:Hid (decide (rs[k].rows.length<=6)=!gt):=by show _=_;rw[hgt];by_cases h:rs[k].rows.length<=6<;>simp[h]<;>omega
  have hgn:decide (6<rs[k].rows.length)=gt:=by rw[hgt];by_cases h:6<rs[k].rows.length<;>simp[h]<;>omega
  replace hgt:=hgt.symm;by_cases hpos:k=0
  ·have hk0:¬(0:Int)<(k:Int):=by omega
   have hk9:decide (0<k)=false:=by simp;omega
   have XV:Hid (vJ (ag rs) rs[k].name k=true):=AY hpos;replace hpos:Hid (k=0):=hpos;refine wp_region_quiet_below (by kernel_rfl) (by kernel_rfl) ?_
   repeat(go_big_quiet_step (exact XJ.out _ _))
   refine wpQuiet_nil ?_;rintro _ ⟨⟨dq,osq⟩,rfl⟩;clear hgt hgn;cases gt;case true=>
    have HN:Hid (¬bI (ag rs)):=HBAD.out (by rw[HTH.out,XV.out];simp[HGT.out]);go_wp2;go_ret;exact⟨ah (dK HN.out).symm,XI.out dq osq⟩
   exact HC.out _ _ _ _ _ _ _ _ _ _ _ _ _ _ _ _ _ _ _ _ _ _ _ _ _ _ _ _ _ _ _ _ _ _ (below_regrown wr dq osq) (by rw[HTH.out,XV.out];simp[HGT.out, *])
  obtain⟨m,hm⟩:∃m,k=m+1:=⟨k-1,by omega⟩;have Xu:m<rs.length:=by omega
  have hk0:(0:Int)<(k:Int):=by omega
  have hk9:decide (0<k)=true:=by simp;omega
  have hkm:(k:Int)-1=(m:Int):=by omega
  have hwm:IntKind.i64.wrap (m:Int)=(m:Int):=by rw[IntKind.wrap_i64];omega
  have hm1:=bq m;have hm2:(m:Int)<(rs.length:Int):=by omega
  have qm:=cell_regrown (HTP.out m Xu);have XV:Hid (vJ (ag rs) rs[k].name k=jg rs[m].name rs[k].name):=AV hm Xu;replace hm:Hid (k=m+1):=hm;cases hless:Op.bytesLess rs[m].name.toList rs[k].name.toList;case false=>
   have HN:Hid (¬bI (ag rs)):=HBAD.out (by rw[HTH.out,XV.out];simp[jg,hless]);refine wp_region_quiet_below (by kernel_rfl) (by kernel_rfl) ?_
   repeat(go_big_quiet_step (exact XJ.out _ _))
   refine wpQuiet_nil ?_;rintro _ ⟨⟨dq,osq⟩,rfl⟩;go_wp2;go_ret;exact⟨ah (dK HN.out).symm,XI.out dq osq⟩
  refine wp_region_quiet_below (by kernel_rfl) (by kernel_rfl) ?_
  repeat(go_big_quiet_step (exact XJ.out _ _))
  refine wpQuiet_nil ?_;rintro _ ⟨⟨dq,osq⟩,rfl⟩;clear hgt hgn;cases gt;case true=>
   have HN:Hid (¬bI (ag rs)):=HBAD.out (by rw[HTH.out,XV.out];simp[HGT.out]);go_wp2;go_ret;exact⟨ah (dK HN.out).symm,XI.out dq osq⟩
  exact HC.out _ _ _ _ _ _ _ _ _ _ _ _ _ _ _ _ _ _ _ _ _ _ _ _ _ _ _ _ _ _ _ _ _ _ (below_regrown wr dq osq) (by rw[HTH.out,XV.out];simp[jg,HGT.out, *])
 obtain rfl:k=rs.length:=by omega
 have HSH:Hid (bQ (ag rs)=true):=by
  show _=_;unfold bQ;rw[lm,HP.out];simp;omega
 have HSF:Hid (rs.length<=6/\(∀r∈rs,r.rows.length<=6)/\∀r∈rs,∀q∈r.rows,aP (aj q.rows)=true/\q.rows.length<=15/\∀e∈q.rows,eB q.rows.length e.e.kids):=bu HSH.out;clear HP;go_wp2_with fail;go_loopw[6] (fun i wr=>∃k:Nat,k<=rs.length/\i=.int .i64 k/\Hid (((ag rs).take k).all (qM (ag rs))=true)/\Hid (af w wr)) (fun i _=>rs.length-(intOf i).toNat);case atStart=>exact⟨0,VG _,rfl,(by show _=_;simp),HB⟩
 clear HB;obtain⟨k,hk,rfl,HP,HB⟩:=hrel;by_cases hlt:k<rs.length
 ·have hk1:=bq k;have hk2:(k:Int)<(rs.length:Int):=by omega
  have lgT:=(HL.out _ (Vz hlt)).1;have HLT:Hid (∀q∈rs[k].rows,q.light):=(HL.out _ (Vz hlt)).2;go_wp2_with fail;go_loopw[7] (fun i w2=>∃j:Nat,j<=rs[k].rows.length/\i=.int .i64 j/\Hid (((eu rs[k].rows).take j).all (fun r=>aU (ag rs) rs[k].name r.expr)=true)/\Hid (af w w2)) (fun i _=>rs[k].rows.length-(intOf i).toNat);case atStart=>exact⟨0,VG _,rfl,(by show _=_;simp),HB⟩
  clear HB;obtain⟨j,hj,rfl,HR,HB⟩:=hrel;have HSW:=aC (HS.out.below HB.out);rcases HSW.out with rfl|⟨b,off,rfl,hb,hr,hok⟩
  ·simp at hlt
  obtain⟨t0,t1⟩:=hr k hlt;have XK:Hid (rs[k].ok wr):=hok rs[k] (Vz hlt);clear hr hok;by_cases hjl:j<rs[k].rows.length
  ·rcases XK.out with hnil|⟨b2,Xr,had,hbb,hr2,hok2⟩
   ·rw[hnil]at hjl;simp at hjl
   rw[had]at t1;obtain⟨q0,q1⟩:=hr2 j hjl;have Zo:Hid (jq wr rs[k].rows[j].ad rs[k].rows[j].rows):=hok2 _ (Vz hjl);have Yx:Hid (rs[k].rows[j].light):=HLT.out _ (Vz hjl);have hj1:=bq j;have hj2:(j:Int)<(rs[k].rows.length:Int):=by omega
   have c3:wr.drew.cell? ⟨b,off+k*2,none⟩=some (.string rs[k].name)/\wr.drew.cell? ⟨b,off+k*2+1,none⟩=some (.slice (some ⟨b2,Xr,none⟩) rs[k].rows.length rs[k].cap)/\wr.drew.cell? ⟨b2,Xr+j*2+1,none⟩=some (.slice rs[k].rows[j].ad rs[k].rows[j].rows.length rs[k].rows[j].cap)/\b<wr.drew.heap.size/\b2<wr.drew.heap.size/\af wr wr.drew:=⟨t0,t1,q1,hb,hbb,(VD _ _).drew⟩;clear hr2 hok2 q0 had;go_wp2_with fail
   go_region_held3 (fun w'=>w'.cell? ⟨b,off+k*2,none⟩=some (.string rs[k].name)/\w'.cell? ⟨b,off+k*2+1,none⟩=some (.slice (some ⟨b2,Xr,none⟩) rs[k].rows.length rs[k].cap)/\w'.cell? ⟨b2,Xr+j*2+1,none⟩=some (.slice rs[k].rows[j].ad rs[k].rows[j].rows.length rs[k].rows[j].cap)/\b<w'.heap.size/\b2<w'.heap.size/\af wr w')
    (first|exact c3|assumption|exact keepR (by first|exact c3|assumption) hbx)
    (first|(go_at_call 153;refine(IQ (some ⟨b,off,none⟩) rs[k].rows[j].ad cap rs[k].rows[j].cap rs _ rs[k].rows[j].rows _ (by omega) (HSW.out.below ((VD _ _).drew)) HL.out Yx.out.1 (Zo.out.below ((VD _ _).drew)) Yx.out.2).mono ?_;rintro e w' ⟨rfl,hbx⟩))
   rename_i hHeld;have HBN:Hid (af w w'):=HB.out.trans (hHeld.2.2.2.2.2.mono HB.out.size);clear hHeld c3 t0 t1 q1 hbx;have HTS:=Gy rs[k].rows j hjl;cases hrf:aU (ag rs) rs[k].name (aj rs[k].rows[j].rows);case false=>
    have HN:Hid (¬bI (ag rs)):=fun hs=>by
     have h1:=hs.2.1;unfold j5 at h1;rw[VN]at h1;have h2:=h1 rs[k].p (by unfold ag;exact Wd (Vz hlt));unfold qM at h2;rw[VN]at h2;have h3:=h2 rs[k].rows[j].p (by show _∈eu rs[k].rows;unfold eu;exact Wd (Vz hjl));have h4:aU (ag rs) rs[k].name (aj rs[k].rows[j].rows)=true:=h3;rw[hrf]at h4;cases h4
    go_wp2;go_ret;exact⟨ah (dK HN.out).symm,HBN.out⟩
   have YA:Hid (((eu rs[k].rows).take (j+1)).all (fun r=>aU (ag rs) rs[k].name r.expr)=true):=by
    show _=_;rw[HTS,WK,HR.out];have:aU (ag rs) rs[k].name rs[k].rows[j].p.expr=true:=hrf;simp[this]
   clear HTS;go_wp2;go_roundw;case rel=>exact⟨j+1,by omega,by go_num,YA,HBN⟩
   simp[intOf]<;>omega
  obtain rfl:j=rs[k].rows.length:=by omega
  have HPN:Hid (((ag rs).take (k+1)).all (qM (ag rs))=true):=by
   show _=_;rw[Gx rs k hlt,WK,HP.out];have h1:=HR.out;rw[<-rJ,VP]at h1;have:qM (ag rs) rs[k].p=true:=h1;simp[this]
  go_wp2;go_roundw;case rel=>exact⟨k+1,by omega,by go_num,HPN,HB⟩
  simp[intOf]<;>omega
 obtain rfl:k=rs.length:=by omega
 have Zx:Hid (j5 (ag rs)=true):=by
  have h1:=HP.out;rw[<-lm,VP]at h1;exact h1
 go_wp2_with fail;refine(vG ad cap rs _ HSF.out.1 (HS.out.below HB.out) HL.out HSF.out.2.1 (fun r hr q hq=>(HSF.out.2.2 r hr q hq).2) (mi Zx.out)).mono ?_;rintro e w' ⟨⟨WY,cap',out,rfl,-,-,Zp⟩|⟨rfl,hno⟩,hbx⟩
 ·have HY:Hid (bI (ag rs)):=⟨HSH.out,Zx.out,_,Zp.sol⟩;have HBN:=kL HB hbx;clear Zp hbx;go_wp2;go_ret;exact⟨ah (xP HY.out).symm,HBN.out⟩
 have HY:Hid (¬bI (ag rs)):=fun h=>hno h.2.2;have HBN:=kL HB hbx;clear hno hbx;go_wp2;go_ret;exact⟨ah (dK HY.out).symm,HBN.out⟩
end Go.Proofs.YtcgdckphpjfmhaaGreatDoor
