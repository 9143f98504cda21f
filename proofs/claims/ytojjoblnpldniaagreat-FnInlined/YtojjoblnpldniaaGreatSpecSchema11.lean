/- Contract of the document's function on schemas. -/
import Derived.Test.YtojjoblnpldniaaGreatSq
import Derived.Test.YtojjoblnpldniaaGreatJ5
open Go.Proofs.Tryz
set_option maxHeartbeats 80000000
set_option linter.defProp false
namespace Go.Proofs.YtojjoblnpldniaaGreat
open Go.Sort
open ChangeShapes WideShapes ChangeAt RowKit
open Pl
def wV(ts:Q0b)(n:ByteArray):Nat->Bool
 | 0=>true
 | i+1=>(ts[i]?.map fun p=>jN p.name n).getD true
def zw(ts:List Rl)(n:ByteArray):Nat->Bool
 | 0=>true
 | i+1=>(ts[i]?.map fun p=>jN p.name n).getD true
def EH{rs:Q06}{k:Nat}(h:k<rs.length):ll (ae rs) k=(aS rs[k].name&&wV (ae rs) rs[k].name k&&decide (rs[k].rows.length<=6)&&dN (df rs[k].rows) rs[k].rows.length):=by
 unfold ll;have e:(ae rs)[k]?=some rs[k].p:=by simp[ae,h]
 rw[e];have e2:rs[k].p.rels.length=rs[k].rows.length:=by simp[TR.p,df]
 simp only[e2];cases k<;>rfl
def EJ{rs:Q07}{k:Nat}(h:k<rs.length):mR (df rs) k=(aS rs[k].name&&zw (df rs) rs[k].name k&&aK (ai rs[k].rows)):=by
 unfold mR;have e:(df rs)[k]?=some rs[k].p:=by simp[df,h]
 rw[e];cases k<;>rfl
def BQ{rs:Q06}{n:ByteArray}{k m:Nat}(hk:k=m+1)(h0:m<rs.length):wV (ae rs) n k=jN rs[m].name n:=by
 subst hk;have e:(ae rs)[m]?=some rs[m].p:=by simp[ae,h0]
 simp only[wV,e];rfl
def BR{rs:Q07}{n:ByteArray}{k m:Nat}(hk:k=m+1)(h0:m<rs.length):zw (df rs) n k=jN rs[m].name n:=by
 subst hk;have e:(df rs)[m]?=some rs[m].p:=by simp[df,h0]
 simp only[zw,e];rfl
def BS{ts:Q0b}{n:ByteArray}{k:Nat}(hk:k=0):wV ts n k=true:=by subst hk;rfl
def BU{ts:List Rl}{n:ByteArray}{k:Nat}(hk:k=0):zw ts n k=true:=by subst hk;rfl
def TG{P:Program}{c:Code}{Q:Exit->Act->World->Prop}{a:Act}{w:af}(H:(Act->World->Prop)->Prop)(hc:H<|Q .normal)(hr:H (Q .normal)->c.wp P Q a w):c.wp P Q a w:=hr hc
def IA(rs:Q06)(k:Nat)(h:k<rs.length):(ae rs).take (k+1)=(ae rs).take k++[rs[k].p]:=by
 rw[WN (by rw[bz];exact h)];simp[ae]
def IB(rs:Q07)(k:Nat)(h:k<rs.length):(df rs).take (k+1)=(df rs).take k++[rs[k].p]:=by
 rw[WN (by rw[dP];exact h)];simp[df]
def keepR{wr W w':af}{b b2 o1 o2 o3:Nat}{x y z:Value}(h:W.cell? (aq b o1)=some x/\W.cell? (aq b o2)=some y/\W.cell? (aq b2 o3)=some z/\b<W.heap.size/\b2<W.heap.size/\ag wr W)(hb:ag W w'):
  w'.cell? (aq b o1)=some x/\w'.cell? (aq b o2)=some y/\w'.cell? (aq b2 o3)=some z/\b<w'.heap.size/\b2<w'.heap.size/\ag wr w' :=
 ⟨aD hb h.2.2.2.1 h.1,aD hb h.2.2.2.1 h.2.1,aD hb h.2.2.2.2.1 h.2.2.1,WJ h.2.2.2.1 hb.size,WJ h.2.2.2.2.1 hb.size,h.2.2.2.2.2.trans<|hb.mono h.2.2.2.2.2.size⟩
def Lb{rs:Q06}{k:Nat}(hk:k<rs.length)(h:ll (ae rs) k=false):¬bZ (ae rs):=fun hs=>by
 have h1:=hs.1;simp only[bB,WM]at h1;rw[uO _ k h _ (by rw[bz];exact hk)]at h1;cases h1.2
set_option maxRecDepth 100000 in
def gI(ad:Q02)(cap:Nat)(rs:Q06)(w:af)(hlen:rs.length<=1048576)(hs:jX w ad rs)(hl:∀r∈rs,r.light)(hf:∀r∈rs,r.fits):
  Calls prog 100 #[.slice ad rs.length cap] w fun e w'=>e=.returned (.bool<|aG<|ae rs)/\ag w w':=by
 have HS:=aB hs;have HL:=aB hl;have Yc:=aB hf;clear hs hl hf;by_cases h6:6<rs.length
 ·have HN:O (¬bZ (ae rs)):=fun h=>by have:=(aW h.1).1;omega
  go_enter func100,ntmps100;go_wp2;go_ret;exact⟨ah (ed HN).symm,WL _ _⟩
 go_enter func100,ntmps100;go_wp2;go_loopw[3] (fun i wr=>∃k:Nat,k<=rs.length/\i=.int .i64 k/\O (jm (ae rs) k=true)/\O (ag w wr)) (fun i _=>rs.length-(intOf i).toNat);case atStart=>exact⟨0,WO _,rfl,rfl,WL _ _⟩
 obtain⟨k,hk,rfl,HP,HB⟩:=hrel;by_cases hlt:k<rs.length
 ·rcases HS.out.below HB.out with rfl|⟨b,off,rfl,hb,hr,hok⟩
  ·simp at hlt
  obtain⟨t0,t1⟩:=hr k hlt;have Yn:O (rs[k].ok wr):=hok rs[k]<|WH hlt;have HSW:=aB<|HS.below HB;have z0:rs[k].name.size<=maxLen:=(Yc _<|WH hlt).1;have hk1:=bY k;have hk2:(k:Int)<(rs.length:Int):=cq;have HTP:O (∀(m:Nat) (h:m<rs.length),wr.cell? ⟨b,off+m*2,none⟩=some (.string rs[m].name)):=fun m h=>(hr m h).1;have HTA:=EH hlt;have HTH:O (ll (ae rs) k=_):=HTA;have HBAD:O (ll (ae rs) k=false->¬bZ (ae rs)):=Lb hlt;clear hr hok HTA;go_wp2_with fail;refine TG (fun K=>∀(v0 v1 v2 v3 v4 v5 v6 v7 v8 v9 v10 v11 v12 v13 v14 v15 v16 v17 v18 v19 v20 v21 v22 v23 v24 v25 v26 v27 v28 v29 v30 v31 v32:Value) (w':World),ag wr w'->ll (ae rs) k=dN (df rs[k].rows) rs[k].rows.length->K { tmps:=List.toArray (Value.slice (some ⟨b,off,none⟩) rs.length cap::undef::u2::.int .i64 k::u4::u5::undef::undef::undef::undef::.slice (some ⟨b,off,none⟩) rs.length cap::.int .i64 rs.length::.bool (decide (6<(rs.length:Int)))::.int .i64 k::.slice (some ⟨b,off,none⟩) rs.length cap::.int .i64 rs.length::.bool true::u17::u18::v0::v1::v2::v3::v4::v5::v6::v7::v8::v9::v10::v11::v12::v13::v14::v15::v16::v17::v18::v19::v20::v21::v22::v23::v24::v25::v26::v27::v28::v29::v30::v31::v32::.bool false::u53::u54::u55::u56::u57::u58::u59::u60::u61::u62::u63::u64::u65::u66::u67::u68::u69::u70::u71::u72::u73::u74::u75::u76::u77::u78::u79::u80::u81::u82::u83::u84::u85::u86::u87::u88::u89::u90::u91::u92::u93::u94::u95::u96::u97::u98::u99::undef::undef::undef::undef::undef::undef::undef::undef::undef::undef::undef::undef::undef::undef::undef::undef::undef::undef::undef::undef::undef::undef::undef::undef::undef::undef::undef::undef::undef::undef::undef::undef::undef::undef::undef::undef::undef::undef::undef::[]),defers:=[] } w') ?cont6 ?reg6;case cont6 =>
   intro v0 v1 v2 v3 v4 v5 v6 v7 v8 v9 v10 v11 v12 v13 v14 v15 v16 v17 v18 v19 v20 v21 v22 v23 v24 v25 v26 v27 v28 v29 v30 v31 v32 w' hG hpre;have HG:O (ag wr w'):=hG;have HPRE:O (ll (ae rs) k=dN (df rs[k].rows) rs[k].rows.length):=hpre;clear hG hpre;obtain⟨wo,hwo⟩:=eQx wr;subst hwo;have HB1:O (ag w w'):=HB.trans<|HG.mono HB.size;have lgT:=(HL _<|WH hlt).1;have HLT:O (∀q∈rs[k].rows,q.light):=(HL _<|WH hlt).2;have ZJ:O (∀q∈rs[k].rows,q.fits):=(Yc _<|WH hlt).2.2;have HBAD2:O (∀j,j<rs[k].rows.length->mR (df rs[k].rows) j=false->¬bZ (ae rs)):=fun j hj h=>HBAD (by rw[HPRE];exact uN _ j h _ hj);clear t0 t1 HTP HSW Yn;go_wp2_with fail;go_loopw[4] (fun i w2=>∃j:Nat,j<=rs[k].rows.length/\i=.int .i64 j/\O (dN (df rs[k].rows) j=true)/\O (ag w w2)) (fun i _=>rs[k].rows.length-(intOf i).toNat);case atStart=>exact⟨0,WO _,rfl,rfl,HB1⟩
   clear HB1 HG HB;obtain⟨j,hj,rfl,HRU,HB⟩:=hrel;rcases HS.out.below HB.out with rfl|⟨b',off',he,hb2,hr,hok⟩
   ·simp at hlt
   injection he with he;injection he with he1 he2;subst he1;subst he2;obtain⟨t0,t1⟩:=hr k hlt;have Yn:O (rs[k].ok wr):=hok rs[k]<|WH hlt;clear hr hok;by_cases hjl:j<rs[k].rows.length
   ·rcases Yn.out with hnil|⟨b2,X7,had,hbb,hr2,hok2⟩
    ·rw[hnil]at hjl;simp at hjl
    rw[had]at t1;obtain⟨q0,q1⟩:=hr2 j hjl;have HQ:O (∀(m:Nat) (h:m<rs[k].rows.length),wr.cell? ⟨b2,X7+m*2,none⟩=some (.string rs[k].rows[m].name)):=fun m h=>(hr2 m h).1;have HSE:O (iw wr rs[k].rows[j].ad rs[k].rows[j].rows):=hok2 _<|WH hjl;have z1:rs[k].rows[j].name.size<=maxLen:=(ZJ _<|WH hjl).1;have Z6:O (rs[k].rows[j].light):=HLT _<|WH hjl;have ZN:O (rs[k].rows[j].fits):=ZJ _<|WH hjl;have hj1:=bY j;have hj2:(j:Int)<(rs[k].rows.length:Int):=cq
    have HRG:O (mR (df rs[k].rows) j=_):=EJ hjl;obtain⟨W1,hW1⟩:=eQx<|wr.alloc<|.cells #[.string rs[k].rows[j].name,.slice rs[k].rows[j].ad rs[k].rows[j].rows.length rs[k].rows[j].cap] 39;have hal:ag wr W1:=by rw[hW1];exact(WL _ _).alloc (WK _) _
    have Yq:=aB hal;have hgl:wr.heap.size<W1.heap.size:=by rw[hW1];simp
    have g0:W1.cell? ⟨wr.heap.size,0,none⟩=some (.string rs[k].rows[j].name):=by rw[hW1];simp
    have g1:W1.cell? ⟨wr.heap.size,1,none⟩=some (.slice rs[k].rows[j].ad rs[k].rows[j].rows.length rs[k].rows[j].cap):=by rw[hW1];simp
    have d1:=aD hal hb2 t1;have hb3:b<W1.heap.size:=Nat.lt_trans hb2 hgl;have hb4:b2<W1.heap.size:=Nat.lt_trans hbb hgl;clear hr2 hok2;go_wp2_with fail;rw[<-hW1];clear hW1 t0 q0 q1 hal t1;have p0:=cell_regrown g0;have p1:=cell_regrown g1;have p2:=cell_regrown d1;have YO:O (∀d os,Calls prog 126 #[.string rs[k].rows[j].name] (grow (redrawn W1 d) os) fun e w''=>e=.returned (.bool<|aS rs[k].rows[j].name)/\∃p:Regrown,w''=grow (redrawn W1 p.d) p.os):=by
     refine kJ fun W'=>?_;exact aU _ _ z1
    have HCE:O (∀d os,Calls prog 174 #[.slice rs[k].rows[j].ad rs[k].rows[j].rows.length rs[k].rows[j].cap] (grow (redrawn W1 d) os) fun e w''=>e=.returned (.bool<|aK<|ai rs[k].rows[j].rows)/\∃p:Regrown,w''=grow (redrawn W1 p.d) p.os):=by
     refine gm fun W' hb=>?_;exact ni _ _ rs[k].rows[j].rows _ Z6.1 Z6.2 ZN.2.2<|HSE.below<|Yq.trans<|hb.mono Yq.size
    have YE:O (∀d os,ag w<|grow (redrawn W1 d) os):=fun d os=>HB.trans<|(Yq.mono HB.size).trans<|(below_regrown W1 d os).mono<|WR HB.size Yq.size;cases hnm:aS rs[k].rows[j].name;case false=>
     rw[hnm]at YO;have HN:O (¬bZ (ae rs)):=HBAD2 j hjl (by rw[HRG];simp[hnm]);refine wp_region_quiet_below cw cw ?_
     repeat(go_big_quiet_step (exact YO _ _))
     refine wpQuiet_nil ?_;rintro _ ⟨⟨dq,osq⟩,rfl⟩;go_wp2;go_ret;exact⟨ah (ed HN).symm,YE dq osq⟩
    rw[hnm]at YO;obtain⟨ex,hex⟩:=eQx<|aK<|ai rs[k].rows[j].rows;have fin:O (∀pv,zw (df rs[k].rows) rs[k].rows[j].name j=pv->mR (df rs[k].rows) j=(pv&&ex)):=fun pv h=>by rw[HRG,hnm,h,hex];simp
    rw[<-hex]at HCE;clear hex HRG hnm;by_cases hpos:j=0
    ·have hk0:¬(0:Int)<(j:Int):=cq;have hk9:decide (0<j)=false:=by simp;omega
     have Zx:=oP<|fin _<|BU hpos;replace hpos:O (j=0):=hpos;refine wp_region_quiet_below cw cw ?_
     repeat(go_big_quiet_step (first|exact YO _ _|exact HCE _ _))
     refine wpQuiet_nil ?_;rintro _ ⟨⟨dq,osq⟩,rfl⟩;cases ex;case false=>
      have HN:O (¬bZ (ae rs)):=HBAD2 j hjl (by rw[Zx];rfl);go_wp2;go_ret;exact⟨ah (ed HN).symm,YE dq osq⟩
     have ZB:O (dN (df rs[k].rows) (j+1)=true):=by show _=_;simp only[dN];rw[HRU,Zx];rfl
     go_wp2;go_roundw;case rel=>exact⟨j+1,cq,cx,ZB,YE dq osq⟩
     simp[intOf]<;>omega
    obtain⟨m,hm⟩:∃m,j=m+1:=⟨j-1,cq⟩;have Yv:m<rs[k].rows.length:=cq;have hk0:(0:Int)<(j:Int):=cq;have hk9:decide (0<j)=true:=by simp;omega
    have hkm:(j:Int)-1=(m:Int):=cq;have hwm:IntKind.i64.wrap (m:Int)=(m:Int):=by rw[IntKind.wrap_i64];omega
    have hm1:=bY m;have hm2:(m:Int)<(rs[k].rows.length:Int):=cq;have qm:=cell_regrown<|aD Yq hbb<|HQ m Yv;have Zx:=oP<|fin _<|BR hm Yv;replace hm:O (j=m+1):=hm;cases hless:Op.bytesLess rs[k].rows[m].name.toList rs[k].rows[j].name.toList;case false=>
     have HN:O (¬bZ (ae rs)):=HBAD2 j hjl (by rw[Zx];simp[jN,hless]);refine wp_region_quiet_below cw cw ?_
     repeat(go_big_quiet_step (exact YO _ _))
     refine wpQuiet_nil ?_;rintro _ ⟨⟨dq,osq⟩,rfl⟩;go_wp2;go_ret;exact⟨ah (ed HN).symm,YE dq osq⟩
    refine wp_region_quiet_below cw cw ?_
    repeat(go_big_quiet_step (first|exact YO _ _|exact HCE _ _))
    refine wpQuiet_nil ?_;rintro _ ⟨⟨dq,osq⟩,rfl⟩;cases ex;case false=>
     have HN:O (¬bZ (ae rs)):=HBAD2 j hjl (by rw[Zx];simp);go_wp2;go_ret;exact⟨ah (ed HN).symm,YE dq osq⟩
    have ZB:O (dN (df rs[k].rows) (j+1)=true):=by show _=_;simp only[dN];rw[HRU,Zx];simp[jN,hless]
    go_wp2;go_roundw;case rel=>exact⟨j+1,cq,cx,ZB,YE dq osq⟩
    simp[intOf]<;>omega
   obtain rfl:j=rs[k].rows.length:=cq;have HTU:O (jm (ae rs) (k+1)=true):=by show _=_;simp only[jm];rw[HP,HPRE,HRU];rfl
   go_wp2;go_roundw;case rel=>exact⟨k+1,cq,cx,HTU,HB⟩
   simp[intOf]<;>omega
  intro hC;have HC:=oP hC;clear hC;have p0:=cell_regrown t0;have p1:=cell_regrown t1;have YO:O (∀d os,Calls prog 126 #[.string rs[k].name] (grow (redrawn wr d) os) fun e w''=>e=.returned (.bool<|aS rs[k].name)/\∃p:Regrown,w''=grow (redrawn wr p.d) p.os):=by
   refine kJ fun W'=>?_;exact aU _ _ z0
  have YE:O (∀d os,ag w<|grow (redrawn wr d) os):=fun d os=>HB.trans<|(below_regrown wr d os).mono HB.size;cases hnm:aS rs[k].name;case false=>
   rw[hnm]at YO;have HN:O (¬bZ (ae rs)):=HBAD (by rw[HTH];simp[hnm]);refine wp_region_quiet_below cw cw ?_
   repeat(go_big_quiet_step (exact YO _ _))
   refine wpQuiet_nil ?_;rintro _ ⟨⟨dq,osq⟩,rfl⟩;go_wp2;go_ret;exact⟨ah (ed HN).symm,YE dq osq⟩
  rw[hnm]at YO;obtain⟨gt,hgt⟩:=eQx<|decide (6<(rs[k].rows.length:Int));have HGT:O (decide (rs[k].rows.length<=6)=!gt):=by show _=_;rw[hgt];by_cases h:rs[k].rows.length<=6<;>simp[h]<;>omega
  have hgn:decide (6<rs[k].rows.length)=gt:=by rw[hgt];by_cases h:6<rs[k].rows.length<;>simp[h]<;>omega
  replace hgt:=hgt.symm;by_cases hpos:k=0
  ·have hk0:¬(0:Int)<(k:Int):=cq;have hk9:decide (0<k)=false:=by simp;omega
   have Zx:O (wV (ae rs) rs[k].name k=true):=BS hpos;replace hpos:O (k=0):=hpos;refine wp_region_quiet_below cw cw ?_
   repeat(go_big_quiet_step (exact YO _ _))
   refine wpQuiet_nil ?_;rintro _ ⟨⟨dq,osq⟩,rfl⟩;clear hgt hgn;cases gt;case true=>
    have HN:O (¬bZ (ae rs)):=HBAD (by rw[HTH,Zx];simp[HGT.out]);go_wp2;go_ret;exact⟨ah (ed HN).symm,YE dq osq⟩
   exact HC _ _ _ _ _ _ _ _ _ _ _ _ _ _ _ _ _ _ _ _ _ _ _ _ _ _ _ _ _ _ _ _ _ _ (below_regrown wr dq osq) (by rw[HTH,Zx];simp[HGT.out, *])
  obtain⟨m,hm⟩:∃m,k=m+1:=⟨k-1,cq⟩;have Yv:m<rs.length:=cq;have hk0:(0:Int)<(k:Int):=cq;have hk9:decide (0<k)=true:=by simp;omega
  have hkm:(k:Int)-1=(m:Int):=cq;have hwm:IntKind.i64.wrap (m:Int)=(m:Int):=by rw[IntKind.wrap_i64];omega
  have hm1:=bY m;have hm2:(m:Int)<(rs.length:Int):=cq;have qm:=cell_regrown<|HTP m Yv;have Zx:O (wV (ae rs) rs[k].name k=jN rs[m].name rs[k].name):=BQ hm Yv;replace hm:O (k=m+1):=hm;cases hless:Op.bytesLess rs[m].name.toList rs[k].name.toList;case false=>
   have HN:O (¬bZ (ae rs)):=HBAD (by rw[HTH,Zx];simp[jN,hless]);refine wp_region_quiet_below cw cw ?_
   repeat(go_big_quiet_step (exact YO _ _))
   refine wpQuiet_nil ?_;rintro _ ⟨⟨dq,osq⟩,rfl⟩;go_wp2;go_ret;exact⟨ah (ed HN).symm,YE dq osq⟩
  refine wp_region_quiet_below cw cw ?_
  repeat(go_big_quiet_step (exact YO _ _))
  refine wpQuiet_nil ?_;rintro _ ⟨⟨dq,osq⟩,rfl⟩;clear hgt hgn;cases gt;case true=>
   have HN:O (¬bZ (ae rs)):=HBAD (by rw[HTH,Zx];simp[HGT.out]);go_wp2;go_ret;exact⟨ah (ed HN).symm,YE dq osq⟩
  exact HC _ _ _ _ _ _ _ _ _ _ _ _ _ _ _ _ _ _ _ _ _ _ _ _ _ _ _ _ _ _ _ _ _ _ (below_regrown wr dq osq) (by rw[HTH,Zx];simp[jN,HGT.out, *])
 obtain rfl:k=rs.length:=cq;have HSH:O (bB (ae rs)=true):=by
  show _=_;unfold bB;rw[bz,HP];simp;omega
 have HSF:O (rs.length<=6/\(∀r∈rs,r.rows.length<=6)/\∀r∈rs,∀q∈r.rows,aK (ai q.rows)=true/\q.rows.length<=15/\∀e∈q.rows,fF q.rows.length e.e.kids):=aW HSH;clear HP;go_wp2_with fail;go_loopw[6] (fun i wr=>∃k:Nat,k<=rs.length/\i=.int .i64 k/\O (((ae rs).take k).all (rz<|ae rs)=true)/\O (ag w wr)) (fun i _=>rs.length-(intOf i).toNat);case atStart=>exact⟨0,WO _,rfl,(by show _=_;simp),HB⟩
 clear HB;obtain⟨k,hk,rfl,HP,HB⟩:=hrel;by_cases hlt:k<rs.length
 ·have hk1:=bY k;have hk2:(k:Int)<(rs.length:Int):=cq;have lgT:=(HL _<|WH hlt).1;have HLT:O (∀q∈rs[k].rows,q.light):=(HL _<|WH hlt).2;go_wp2_with fail;go_loopw[7] (fun i w2=>∃j:Nat,j<=rs[k].rows.length/\i=.int .i64 j/\O (((df rs[k].rows).take j).all (fun r=>aT (ae rs) rs[k].name r.expr)=true)/\O (ag w w2)) (fun i _=>rs[k].rows.length-(intOf i).toNat);case atStart=>exact⟨0,WO _,rfl,(by show _=_;simp),HB⟩
  clear HB;obtain⟨j,hj,rfl,HR,HB⟩:=hrel;have HSW:=aB<|HS.below HB;rcases HSW.out with rfl|⟨b,off,rfl,hb,hr,hok⟩
  ·simp at hlt
  obtain⟨t0,t1⟩:=hr k hlt;have Yn:O (rs[k].ok wr):=hok rs[k]<|WH hlt;clear hr hok;by_cases hjl:j<rs[k].rows.length
  ·rcases Yn.out with hnil|⟨b2,X7,had,hbb,hr2,hok2⟩
   ·rw[hnil]at hjl;simp at hjl
   rw[had]at t1;obtain⟨q0,q1⟩:=hr2 j hjl;have HSE:O (iw wr rs[k].rows[j].ad rs[k].rows[j].rows):=hok2 _<|WH hjl;have Z6:O (rs[k].rows[j].light):=HLT _<|WH hjl;have hj1:=bY j;have hj2:(j:Int)<(rs[k].rows.length:Int):=cq;have c3:wr.drew.cell? ⟨b,off+k*2,none⟩=some (.string rs[k].name)/\wr.drew.cell? ⟨b,off+k*2+1,none⟩=some (.slice (some ⟨b2,X7,none⟩) rs[k].rows.length rs[k].cap)/\wr.drew.cell? ⟨b2,X7+j*2+1,none⟩=some (.slice rs[k].rows[j].ad rs[k].rows[j].rows.length rs[k].rows[j].cap)/\b<wr.drew.heap.size/\b2<wr.drew.heap.size/\ag wr wr.drew:=⟨t0,t1,q1,hb,hbb,(WL _ _).drew⟩;clear hr2 hok2 q0 had;go_wp2_with fail
   go_region_held3 (fun w'=>w'.cell? ⟨b,off+k*2,none⟩=some (.string rs[k].name)/\w'.cell? ⟨b,off+k*2+1,none⟩=some (.slice (some ⟨b2,X7,none⟩) rs[k].rows.length rs[k].cap)/\w'.cell? ⟨b2,X7+j*2+1,none⟩=some (.slice rs[k].rows[j].ad rs[k].rows[j].rows.length rs[k].rows[j].cap)/\b<w'.heap.size/\b2<w'.heap.size/\ag wr w')
    (first|exact c3|assumption|exact keepR (by first|exact c3|assumption) hbx)
    (first|(go_at_call 175;refine(J7 (some ⟨b,off,none⟩) rs[k].rows[j].ad cap rs[k].rows[j].cap rs _ rs[k].rows[j].rows _ cq (HSW.below<|(WL _ _).drew) HL Z6.1 (HSE.below<|(WL _ _).drew) Z6.2).mono ?_;rintro e w' ⟨rfl,hbx⟩))
   rename_i hHeld;have HBN:O (ag w w'):=HB.trans<|hHeld.2.2.2.2.2.mono HB.size;clear hHeld c3 t0 t1 q1 hbx;have HTS:=IB rs[k].rows j hjl;cases hrf:aT (ae rs) rs[k].name (ai rs[k].rows[j].rows);case false=>
    have HN:O (¬bZ (ae rs)):=fun hs=>by
     have h1:=hs.2.1;unfold iG at h1;rw[WT]at h1;have h2:=h1 rs[k].p (by unfold ae;exact Xk<|WH hlt);unfold rz at h2;rw[WT]at h2;have h3:=h2 rs[k].rows[j].p (by show _∈df rs[k].rows;unfold df;exact Xk<|WH hjl);have h4:aT (ae rs) rs[k].name (ai rs[k].rows[j].rows)=true:=h3;rw[hrf]at h4;cases h4
    go_wp2;go_ret;exact⟨ah (ed HN).symm,HBN⟩
   have ZB:O (((df rs[k].rows).take<|j+1).all (fun r=>aT (ae rs) rs[k].name r.expr)=true):=by
    show _=_;rw[HTS,XU,HR];have:aT (ae rs) rs[k].name rs[k].rows[j].p.expr=true:=hrf;simp[this]
   clear HTS;go_wp2;go_roundw;case rel=>exact⟨j+1,cq,cx,ZB,HBN⟩
   simp[intOf]<;>omega
  obtain rfl:j=rs[k].rows.length:=cq;have HPN:O (((ae rs).take<|k+1).all (rz<|ae rs)=true):=by
   show _=_;rw[IA rs k hlt,XU,HP];have h1:=HR.out;rw[<-dP,Xa]at h1;have:rz (ae rs) rs[k].p=true:=h1;simp[this]
  go_wp2;go_roundw;case rel=>exact⟨k+1,cq,cx,HPN,HB⟩
  simp[intOf]<;>omega
 obtain rfl:k=rs.length:=cq;have HRA:O (iG (ae rs)=true):=by
  have h1:=HP.out;rw[<-bz,Xa]at h1;exact h1
 go_wp2_with fail;refine(Ga ad cap rs _ HSF.1 (HS.below HB) HL HSF.2.1 (fun r hr q hq=>(HSF.2.2 r hr q hq).2) (mU HRA)).mono ?_;rintro e w' ⟨⟨Yh,cap',out,rfl,-,-,hLe⟩|⟨rfl,hno⟩,hbx⟩
 ·have HY:O (bZ<|ae rs):=⟨HSH,HRA,_,hLe.sol⟩;have HBN:=iD HB hbx;clear hLe hbx;go_wp2;go_ret;exact⟨ah (zl HY).symm,HBN⟩
 have HY:O (¬bZ (ae rs)):=fun h=>hno h.2.2;have HBN:=iD HB hbx;clear hno hbx;go_wp2;go_ret;exact⟨ah (ed HY).symm,HBN⟩
end Go.Proofs.YtojjoblnpldniaaGreat
