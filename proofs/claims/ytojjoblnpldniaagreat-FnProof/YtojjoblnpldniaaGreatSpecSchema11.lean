/- Contract of the document's function on schemas. -/
import Derived.Test.YtojjoblnpldniaaGreatSq
import Derived.Test.YtojjoblnpldniaaGreatJ11
open Go.Proofs.Tryz
set_option maxHeartbeats 80000000
set_option linter.defProp false
namespace Go.Proofs.YtojjoblnpldniaaGreat
open Go.Sort
open ChangeShapes WideShapes ChangeAt RowKit
open Pl
def xK(ts:Q0b)(n:ByteArray):Nat->Bool
 | 0=>true
 | i+1=>(ts[i]?.map fun p=>jO p.name n).getD true
def zJ(ts:List Rl)(n:ByteArray):Nat->Bool
 | 0=>true
 | i+1=>(ts[i]?.map fun p=>jO p.name n).getD true
def FH{rs:Q06}{k:Nat}(h:k<rs.length):lJ (ai rs) k=(aW rs[k].name&&xK (ai rs) rs[k].name k&&decide (rs[k].rows.length<=6)&&dS (fD rs[k].rows) rs[k].rows.length):=by
 unfold lJ;have e:(ai rs)[k]?=some rs[k].p:=by simp[ai,h]
 rw[e];have e2:rs[k].p.rels.length=rs[k].rows.length:=by simp[TR.p,fD]
 simp only[e2];cases k<;>rfl
def FI{rs:Q07}{k:Nat}(h:k<rs.length):nE (fD rs) k=(aW rs[k].name&&zJ (fD rs) rs[k].name k&&aS (au rs[k].rows)):=by
 unfold nE;have e:(fD rs)[k]?=some rs[k].p:=by simp[fD,h]
 rw[e];cases k<;>rfl
def CG{rs:Q06}{n:ByteArray}{k m:Nat}(hk:k=m+1)(h0:m<rs.length):xK (ai rs) n k=jO rs[m].name n:=by
 subst hk;have e:(ai rs)[m]?=some rs[m].p:=by simp[ai,h0]
 simp only[xK,e];rfl
def CJ{rs:Q07}{n:ByteArray}{k m:Nat}(hk:k=m+1)(h0:m<rs.length):zJ (fD rs) n k=jO rs[m].name n:=by
 subst hk;have e:(fD rs)[m]?=some rs[m].p:=by simp[fD,h0]
 simp only[zJ,e];rfl
def CK{ts:Q0b}{n:ByteArray}{k:Nat}(hk:k=0):xK ts n k=true:=by subst hk;rfl
def CL{ts:List Rl}{n:ByteArray}{k:Nat}(hk:k=0):zJ ts n k=true:=by subst hk;rfl
def Uv{P:Program}{c:Code}{Q:Exit->Act->World->Prop}{a:Act}{w:ag}(H:(Act->World->Prop)->Prop)(hc:H<|Q .normal)(hr:H (Q .normal)->c.wp P Q a w):c.wp P Q a w:=hr hc
def Jo(rs:Q06)(k:Nat)(h:k<rs.length):(ai rs).take (k+1)=(ai rs).take k++[rs[k].p]:=by
 rw[XM (by rw[mD];exact h)];simp[ai]
def Jp(rs:Q07)(k:Nat)(h:k<rs.length):(fD rs).take (k+1)=(fD rs).take k++[rs[k].p]:=by
 rw[XM (by rw[tF];exact h)];simp[fD]
def keepR{wr W w':ag}{b b2 o1 o2 o3:Nat}{x y z:Value}(h:W.cell? (ap b o1)=some x/\W.cell? (ap b o2)=some y/\W.cell? (ap b2 o3)=some z/\b<W.heap.size/\b2<W.heap.size/\ae wr W)(hb:ae W w'):
  w'.cell? (ap b o1)=some x/\w'.cell? (ap b o2)=some y/\w'.cell? (ap b2 o3)=some z/\b<w'.heap.size/\b2<w'.heap.size/\ae wr w' :=
 ⟨aM hb h.2.2.2.1 h.1,aM hb h.2.2.2.1 h.2.1,aM hb h.2.2.2.2.1 h.2.2.1,XJ h.2.2.2.1 hb.size,XJ h.2.2.2.2.1 hb.size,h.2.2.2.2.2.trans<|hb.mono h.2.2.2.2.2.size⟩
def LY{rs:Q06}{k:Nat}(hk:k<rs.length)(h:lJ (ai rs) k=false):¬cz (ai rs):=fun hs=>by
 have h1:=hs.1;simp only[bz,XN]at h1;rw[vF _ k h _ (by rw[mD];exact hk)]at h1;cases h1.2
set_option maxRecDepth 100000 in
def kZ(ad:Q02)(cap:Nat)(rs:Q06)(w:ag)(hlen:rs.length<=1048576)(hs:kI w ad rs)(hl:∀r∈rs,r.light)(hf:∀r∈rs,r.fits):
  Calls prog 100 #[.slice ad rs.length cap] w fun e w'=>e=.returned (.bool<|aN<|ai rs)/\ae w w':=by
 have HS:=aK hs;have HL:=aK hl;have Zd:=aK hf;clear hs hl hf;by_cases h6:6<rs.length
 ·have HN:O (¬cz (ai rs)):=fun h=>by have:=(bI h.1).1;omega
  go_enter func100,ntmps100;go_wp2;go_ret;exact⟨aj (fw HN).symm,XL _ _⟩
 go_enter func100,ntmps100;go_wp2;go_loopw[3] (fun i wr=>∃k:Nat,k<=rs.length/\i=.int .i64 k/\O (jl (ai rs) k=true)/\O (ae w wr)) (fun i _=>rs.length-(intOf i).toNat);case atStart=>exact⟨0,XP _,rfl,rfl,XL _ _⟩
 obtain⟨k,hk,rfl,HP,HB⟩:=hrel;by_cases hlt:k<rs.length
 ·rcases HS.out.below HB.out with rfl|⟨b,off,rfl,hb,hr,hok⟩
  ·simp at hlt
  obtain⟨t0,t1⟩:=hr k hlt;have HOK:O (rs[k].ok wr):=hok rs[k]<|XI hlt;have HSW:=aK<|HS.below HB;have z0:rs[k].name.size<=maxLen:=(Zd _<|XI hlt).1;have hk1:=bG k;have hk2:(k:Int)<(rs.length:Int):=cq;have HTP:O (∀(m:Nat) (h:m<rs.length),wr.cell? ⟨b,off+m*2,none⟩=some (.string rs[m].name)):=fun m h=>(hr m h).1;have HTA:=FH hlt;have HTH:O (lJ (ai rs) k=_):=HTA;have HBAD:O (lJ (ai rs) k=false->¬cz (ai rs)):=LY hlt;clear hr hok HTA;go_wp2_with fail;refine Uv (fun K=>∀(v0 v1 v2 v3 v4 v5 v6 v7 v8 v9 v10 v11 v12 v13 v14 v15 v16 v17 v18 v19 v20 v21 v22 v23 v24 v25 v26 v27 v28 v29 v30 v31 v32:Value) (w':World),ae wr w'->lJ (ai rs) k=dS (fD rs[k].rows) rs[k].rows.length->K { tmps:=List.toArray (Value.slice (some ⟨b,off,none⟩) rs.length cap::undef::u2::.int .i64 k::u4::u5::undef::undef::undef::undef::.slice (some ⟨b,off,none⟩) rs.length cap::.int .i64 rs.length::.bool (decide (6<(rs.length:Int)))::.int .i64 k::.slice (some ⟨b,off,none⟩) rs.length cap::.int .i64 rs.length::.bool true::u17::u18::v0::v1::v2::v3::v4::v5::v6::v7::v8::v9::v10::v11::v12::v13::v14::v15::v16::v17::v18::v19::v20::v21::v22::v23::v24::v25::v26::v27::v28::v29::v30::v31::v32::.bool false::u53::u54::u55::u56::u57::u58::u59::u60::u61::u62::u63::u64::u65::u66::u67::u68::u69::u70::u71::u72::u73::u74::u75::u76::u77::u78::u79::u80::u81::u82::u83::u84::u85::u86::u87::u88::u89::u90::u91::u92::u93::u94::u95::u96::u97::u98::u99::undef::undef::undef::undef::undef::undef::undef::undef::undef::undef::undef::undef::undef::undef::undef::undef::undef::undef::undef::undef::undef::undef::undef::undef::undef::undef::undef::undef::undef::undef::undef::undef::undef::undef::undef::undef::undef::undef::undef::[]),defers:=[] } w') ?cont6 ?reg6;case cont6 =>
   intro v0 v1 v2 v3 v4 v5 v6 v7 v8 v9 v10 v11 v12 v13 v14 v15 v16 v17 v18 v19 v20 v21 v22 v23 v24 v25 v26 v27 v28 v29 v30 v31 v32 w' hG hpre;have HG:O (ae wr w'):=hG;have HPRE:O (lJ (ai rs) k=dS (fD rs[k].rows) rs[k].rows.length):=hpre;clear hG hpre;obtain⟨wo,hwo⟩:=eQx wr;subst hwo;have HB1:O (ae w w'):=HB.trans<|HG.mono HB.size;have lgT:=(HL _<|XI hlt).1;have HLT:O (∀q∈rs[k].rows,q.light):=(HL _<|XI hlt).2;have HFR:O (∀q∈rs[k].rows,q.fits):=(Zd _<|XI hlt).2.2;have HBAD2:O (∀j,j<rs[k].rows.length->nE (fD rs[k].rows) j=false->¬cz (ai rs)):=fun j hj h=>HBAD (by rw[HPRE];exact vD _ j h _ hj);clear t0 t1 HTP HSW HOK;go_wp2_with fail;go_loopw[4] (fun i w2=>∃j:Nat,j<=rs[k].rows.length/\i=.int .i64 j/\O (dS (fD rs[k].rows) j=true)/\O (ae w w2)) (fun i _=>rs[k].rows.length-(intOf i).toNat);case atStart=>exact⟨0,XP _,rfl,rfl,HB1⟩
   clear HB1 HG HB;obtain⟨j,hj,rfl,HRU,HB⟩:=hrel;rcases HS.out.below HB.out with rfl|⟨b',off',he,hb2,hr,hok⟩
   ·simp at hlt
   injection he with he;injection he with he1 he2;subst he1;subst he2;obtain⟨t0,t1⟩:=hr k hlt;have HOK:O (rs[k].ok wr):=hok rs[k]<|XI hlt;clear hr hok;by_cases hjl:j<rs[k].rows.length
   ·rcases HOK.out with hnil|⟨b2,ZR,had,hbb,hr2,hok2⟩
    ·rw[hnil]at hjl;simp at hjl
    rw[had]at t1;obtain⟨q0,q1⟩:=hr2 j hjl;have HQ:O (∀(m:Nat) (h:m<rs[k].rows.length),wr.cell? ⟨b2,ZR+m*2,none⟩=some (.string rs[k].rows[m].name)):=fun m h=>(hr2 m h).1;have HSE:O (iE wr rs[k].rows[j].ad rs[k].rows[j].rows):=hok2 _<|XI hjl;have z1:rs[k].rows[j].name.size<=maxLen:=(HFR _<|XI hjl).1;have HLG:O (rs[k].rows[j].light):=HLT _<|XI hjl;have HFE:O (rs[k].rows[j].fits):=HFR _<|XI hjl;have hj1:=bG j;have hj2:(j:Int)<(rs[k].rows.length:Int):=cq
    have HRG:O (nE (fD rs[k].rows) j=_):=FI hjl;obtain⟨W1,hW1⟩:=eQx<|wr.alloc<|.cells #[.string rs[k].rows[j].name,.slice rs[k].rows[j].ad rs[k].rows[j].rows.length rs[k].rows[j].cap] 39;have hal:ae wr W1:=by rw[hW1];exact(XL _ _).alloc (XK _) _
    have Zl:=aK hal;have hgl:wr.heap.size<W1.heap.size:=by rw[hW1];simp
    have g0:W1.cell? ⟨wr.heap.size,0,none⟩=some (.string rs[k].rows[j].name):=by rw[hW1];simp
    have g1:W1.cell? ⟨wr.heap.size,1,none⟩=some (.slice rs[k].rows[j].ad rs[k].rows[j].rows.length rs[k].rows[j].cap):=by rw[hW1];simp
    have d1:=aM hal hb2 t1;have hb3:b<W1.heap.size:=Nat.lt_trans hb2 hgl;have hb4:b2<W1.heap.size:=Nat.lt_trans hbb hgl;clear hr2 hok2;go_wp2_with fail;rw[<-hW1];clear hW1 t0 q0 q1 hal t1;have p0:=cell_regrown g0;have p1:=cell_regrown g1;have p2:=cell_regrown d1;have Z9:O (∀d os,Calls prog 126 #[.string rs[k].rows[j].name] (grow (redrawn W1 d) os) fun e w''=>e=.returned (.bool<|aW rs[k].rows[j].name)/\∃p:Regrown,w''=grow (redrawn W1 p.d) p.os):=by
     refine kP fun W'=>?_;exact aZ _ _ z1
    have HCE:O (∀d os,Calls prog 174 #[.slice rs[k].rows[j].ad rs[k].rows[j].rows.length rs[k].rows[j].cap] (grow (redrawn W1 d) os) fun e w''=>e=.returned (.bool<|aS<|au rs[k].rows[j].rows)/\∃p:Regrown,w''=grow (redrawn W1 p.d) p.os):=by
     refine dz fun W' hb=>?_;exact mZ _ _ rs[k].rows[j].rows _ HLG.1 HLG.2 HFE.2.2<|HSE.below<|Zl.trans<|hb.mono Zl.size
    have Z5:O (∀d os,ae w<|grow (redrawn W1 d) os):=fun d os=>HB.trans<|(Zl.mono HB.size).trans<|(below_regrown W1 d os).mono<|XR HB.size Zl.size;cases hnm:aW rs[k].rows[j].name;case false=>
     rw[hnm]at Z9;have HN:O (¬cz (ai rs)):=HBAD2 j hjl (by rw[HRG];simp[hnm]);refine wp_region_quiet_below cw cw ?_
     repeat(go_big_quiet_step (exact Z9 _ _))
     refine wpQuiet_nil ?_;rintro _ ⟨⟨dq,osq⟩,rfl⟩;go_wp2;go_ret;exact⟨aj (fw HN).symm,Z5 dq osq⟩
    rw[hnm]at Z9;obtain⟨ex,hex⟩:=eQx<|aS<|au rs[k].rows[j].rows;have fin:O (∀pv,zJ (fD rs[k].rows) rs[k].rows[j].name j=pv->nE (fD rs[k].rows) j=(pv&&ex)):=fun pv h=>by rw[HRG,hnm,h,hex];simp
    rw[<-hex]at HCE;clear hex HRG hnm;by_cases hpos:j=0
    ·have hk0:¬(0:Int)<(j:Int):=cq;have hk9:decide (0<j)=false:=by simp;omega
     have HPV:=o7<|fin _<|CL hpos;replace hpos:O (j=0):=hpos;refine wp_region_quiet_below cw cw ?_
     repeat(go_big_quiet_step (first|exact Z9 _ _|exact HCE _ _))
     refine wpQuiet_nil ?_;rintro _ ⟨⟨dq,osq⟩,rfl⟩;cases ex;case false=>
      have HN:O (¬cz (ai rs)):=HBAD2 j hjl (by rw[HPV];rfl);go_wp2;go_ret;exact⟨aj (fw HN).symm,Z5 dq osq⟩
     have HRN:O (dS (fD rs[k].rows) (j+1)=true):=by show _=_;simp only[dS];rw[HRU,HPV];rfl
     go_wp2;go_roundw;case rel=>exact⟨j+1,cq,cx,HRN,Z5 dq osq⟩
     simp[intOf]<;>omega
    obtain⟨m,hm⟩:∃m,j=m+1:=⟨j-1,cq⟩;have ZA:m<rs[k].rows.length:=cq;have hk0:(0:Int)<(j:Int):=cq;have hk9:decide (0<j)=true:=by simp;omega
    have hkm:(j:Int)-1=(m:Int):=cq;have hwm:IntKind.i64.wrap (m:Int)=(m:Int):=by rw[IntKind.wrap_i64];omega
    have hm1:=bG m;have hm2:(m:Int)<(rs[k].rows.length:Int):=cq;have qm:=cell_regrown<|aM Zl hbb<|HQ m ZA;have HPV:=o7<|fin _<|CJ hm ZA;replace hm:O (j=m+1):=hm;cases hless:Op.bytesLess rs[k].rows[m].name.toList rs[k].rows[j].name.toList;case false=>
     have HN:O (¬cz (ai rs)):=HBAD2 j hjl (by rw[HPV];simp[jO,hless]);refine wp_region_quiet_below cw cw ?_
     repeat(go_big_quiet_step (exact Z9 _ _))
     refine wpQuiet_nil ?_;rintro _ ⟨⟨dq,osq⟩,rfl⟩;go_wp2;go_ret;exact⟨aj (fw HN).symm,Z5 dq osq⟩
    refine wp_region_quiet_below cw cw ?_
    repeat(go_big_quiet_step (first|exact Z9 _ _|exact HCE _ _))
    refine wpQuiet_nil ?_;rintro _ ⟨⟨dq,osq⟩,rfl⟩;cases ex;case false=>
     have HN:O (¬cz (ai rs)):=HBAD2 j hjl (by rw[HPV];simp);go_wp2;go_ret;exact⟨aj (fw HN).symm,Z5 dq osq⟩
    have HRN:O (dS (fD rs[k].rows) (j+1)=true):=by show _=_;simp only[dS];rw[HRU,HPV];simp[jO,hless]
    go_wp2;go_roundw;case rel=>exact⟨j+1,cq,cx,HRN,Z5 dq osq⟩
    simp[intOf]<;>omega
   obtain rfl:j=rs[k].rows.length:=cq;have HTU:O (jl (ai rs) (k+1)=true):=by show _=_;simp only[jl];rw[HP,HPRE,HRU];rfl
   go_wp2;go_roundw;case rel=>exact⟨k+1,cq,cx,HTU,HB⟩
   simp[intOf]<;>omega
  intro hC;have HC:=o7 hC;clear hC;have p0:=cell_regrown t0;have p1:=cell_regrown t1;have Z9:O (∀d os,Calls prog 126 #[.string rs[k].name] (grow (redrawn wr d) os) fun e w''=>e=.returned (.bool<|aW rs[k].name)/\∃p:Regrown,w''=grow (redrawn wr p.d) p.os):=by
   refine kP fun W'=>?_;exact aZ _ _ z0
  have Z5:O (∀d os,ae w<|grow (redrawn wr d) os):=fun d os=>HB.trans<|(below_regrown wr d os).mono HB.size;cases hnm:aW rs[k].name;case false=>
   rw[hnm]at Z9;have HN:O (¬cz (ai rs)):=HBAD (by rw[HTH];simp[hnm]);refine wp_region_quiet_below cw cw ?_
   repeat(go_big_quiet_step (exact Z9 _ _))
   refine wpQuiet_nil ?_;rintro _ ⟨⟨dq,osq⟩,rfl⟩;go_wp2;go_ret;exact⟨aj (fw HN).symm,Z5 dq osq⟩
  rw[hnm]at Z9;obtain⟨gt,hgt⟩:=eQx<|decide (6<(rs[k].rows.length:Int));have HGT:O (decide (rs[k].rows.length<=6)=!gt):=by show _=_;rw[hgt];by_cases h:rs[k].rows.length<=6<;>simp[h]<;>omega
  have hgn:decide (6<rs[k].rows.length)=gt:=by rw[hgt];by_cases h:6<rs[k].rows.length<;>simp[h]<;>omega
  replace hgt:=hgt.symm;by_cases hpos:k=0
  ·have hk0:¬(0:Int)<(k:Int):=cq;have hk9:decide (0<k)=false:=by simp;omega
   have HPV:O (xK (ai rs) rs[k].name k=true):=CK hpos;replace hpos:O (k=0):=hpos;refine wp_region_quiet_below cw cw ?_
   repeat(go_big_quiet_step (exact Z9 _ _))
   refine wpQuiet_nil ?_;rintro _ ⟨⟨dq,osq⟩,rfl⟩;clear hgt hgn;cases gt;case true=>
    have HN:O (¬cz (ai rs)):=HBAD (by rw[HTH,HPV];simp[HGT.out]);go_wp2;go_ret;exact⟨aj (fw HN).symm,Z5 dq osq⟩
   exact HC _ _ _ _ _ _ _ _ _ _ _ _ _ _ _ _ _ _ _ _ _ _ _ _ _ _ _ _ _ _ _ _ _ _ (below_regrown wr dq osq) (by rw[HTH,HPV];simp[HGT.out, *])
  obtain⟨m,hm⟩:∃m,k=m+1:=⟨k-1,cq⟩;have ZA:m<rs.length:=cq;have hk0:(0:Int)<(k:Int):=cq;have hk9:decide (0<k)=true:=by simp;omega
  have hkm:(k:Int)-1=(m:Int):=cq;have hwm:IntKind.i64.wrap (m:Int)=(m:Int):=by rw[IntKind.wrap_i64];omega
  have hm1:=bG m;have hm2:(m:Int)<(rs.length:Int):=cq;have qm:=cell_regrown<|HTP m ZA;have HPV:O (xK (ai rs) rs[k].name k=jO rs[m].name rs[k].name):=CG hm ZA;replace hm:O (k=m+1):=hm;cases hless:Op.bytesLess rs[m].name.toList rs[k].name.toList;case false=>
   have HN:O (¬cz (ai rs)):=HBAD (by rw[HTH,HPV];simp[jO,hless]);refine wp_region_quiet_below cw cw ?_
   repeat(go_big_quiet_step (exact Z9 _ _))
   refine wpQuiet_nil ?_;rintro _ ⟨⟨dq,osq⟩,rfl⟩;go_wp2;go_ret;exact⟨aj (fw HN).symm,Z5 dq osq⟩
  refine wp_region_quiet_below cw cw ?_
  repeat(go_big_quiet_step (exact Z9 _ _))
  refine wpQuiet_nil ?_;rintro _ ⟨⟨dq,osq⟩,rfl⟩;clear hgt hgn;cases gt;case true=>
   have HN:O (¬cz (ai rs)):=HBAD (by rw[HTH,HPV];simp[HGT.out]);go_wp2;go_ret;exact⟨aj (fw HN).symm,Z5 dq osq⟩
  exact HC _ _ _ _ _ _ _ _ _ _ _ _ _ _ _ _ _ _ _ _ _ _ _ _ _ _ _ _ _ _ _ _ _ _ (below_regrown wr dq osq) (by rw[HTH,HPV];simp[jO,HGT.out, *])
 obtain rfl:k=rs.length:=cq;have HSH:O (bz (ai rs)=true):=by
  show _=_;unfold bz;rw[mD,HP];simp;omega
 have HSF:O (rs.length<=6/\(∀r∈rs,r.rows.length<=6)/\∀r∈rs,∀q∈r.rows,aS (au q.rows)=true/\q.rows.length<=15/\∀e∈q.rows,fE q.rows.length e.e.kids):=bI HSH;clear HP;go_wp2_with fail;go_loopw[6] (fun i wr=>∃k:Nat,k<=rs.length/\i=.int .i64 k/\O (((ai rs).take k).all (rU<|ai rs)=true)/\O (ae w wr)) (fun i _=>rs.length-(intOf i).toNat);case atStart=>exact⟨0,XP _,rfl,(by show _=_;simp),HB⟩
 clear HB;obtain⟨k,hk,rfl,HP,HB⟩:=hrel;by_cases hlt:k<rs.length
 ·have hk1:=bG k;have hk2:(k:Int)<(rs.length:Int):=cq;have lgT:=(HL _<|XI hlt).1;have HLT:O (∀q∈rs[k].rows,q.light):=(HL _<|XI hlt).2;go_wp2_with fail;go_loopw[7] (fun i w2=>∃j:Nat,j<=rs[k].rows.length/\i=.int .i64 j/\O (((fD rs[k].rows).take j).all (fun r=>bi (ai rs) rs[k].name r.expr)=true)/\O (ae w w2)) (fun i _=>rs[k].rows.length-(intOf i).toNat);case atStart=>exact⟨0,XP _,rfl,(by show _=_;simp),HB⟩
  clear HB;obtain⟨j,hj,rfl,HR,HB⟩:=hrel;have HSW:=aK<|HS.below HB;rcases HSW.out with rfl|⟨b,off,rfl,hb,hr,hok⟩
  ·simp at hlt
  obtain⟨t0,t1⟩:=hr k hlt;have HOK:O (rs[k].ok wr):=hok rs[k]<|XI hlt;clear hr hok;by_cases hjl:j<rs[k].rows.length
  ·rcases HOK.out with hnil|⟨b2,ZR,had,hbb,hr2,hok2⟩
   ·rw[hnil]at hjl;simp at hjl
   rw[had]at t1;obtain⟨q0,q1⟩:=hr2 j hjl;have HSE:O (iE wr rs[k].rows[j].ad rs[k].rows[j].rows):=hok2 _<|XI hjl;have HLG:O (rs[k].rows[j].light):=HLT _<|XI hjl;have hj1:=bG j;have hj2:(j:Int)<(rs[k].rows.length:Int):=cq;have c3:wr.drew.cell? ⟨b,off+k*2,none⟩=some (.string rs[k].name)/\wr.drew.cell? ⟨b,off+k*2+1,none⟩=some (.slice (some ⟨b2,ZR,none⟩) rs[k].rows.length rs[k].cap)/\wr.drew.cell? ⟨b2,ZR+j*2+1,none⟩=some (.slice rs[k].rows[j].ad rs[k].rows[j].rows.length rs[k].rows[j].cap)/\b<wr.drew.heap.size/\b2<wr.drew.heap.size/\ae wr wr.drew:=⟨t0,t1,q1,hb,hbb,(XL _ _).drew⟩;clear hr2 hok2 q0 had;go_wp2_with fail
   go_region_held3 (fun w'=>w'.cell? ⟨b,off+k*2,none⟩=some (.string rs[k].name)/\w'.cell? ⟨b,off+k*2+1,none⟩=some (.slice (some ⟨b2,ZR,none⟩) rs[k].rows.length rs[k].cap)/\w'.cell? ⟨b2,ZR+j*2+1,none⟩=some (.slice rs[k].rows[j].ad rs[k].rows[j].rows.length rs[k].rows[j].cap)/\b<w'.heap.size/\b2<w'.heap.size/\ae wr w')
    (first|exact c3|assumption|exact keepR (by first|exact c3|assumption) hbx)
    (first|(go_at_call 175;refine(Kj (some ⟨b,off,none⟩) rs[k].rows[j].ad cap rs[k].rows[j].cap rs _ rs[k].rows[j].rows _ cq (HSW.below<|(XL _ _).drew) HL HLG.1 (HSE.below<|(XL _ _).drew) HLG.2).mono ?_;rintro e w' ⟨rfl,hbx⟩))
   rename_i hHeld;have HBN:O (ae w w'):=HB.trans<|hHeld.2.2.2.2.2.mono HB.size;clear hHeld c3 t0 t1 q1 hbx;have HTS:=Jp rs[k].rows j hjl;cases hrf:bi (ai rs) rs[k].name (au rs[k].rows[j].rows);case false=>
    have HN:O (¬cz (ai rs)):=fun hs=>by
     have h1:=hs.2.1;unfold jd at h1;rw[XY]at h1;have h2:=h1 rs[k].p (by unfold ai;exact Yn<|XI hlt);unfold rU at h2;rw[XY]at h2;have h3:=h2 rs[k].rows[j].p (by show _∈fD rs[k].rows;unfold fD;exact Yn<|XI hjl);have h4:bi (ai rs) rs[k].name (au rs[k].rows[j].rows)=true:=h3;rw[hrf]at h4;cases h4
    go_wp2;go_ret;exact⟨aj (fw HN).symm,HBN⟩
   have HRN:O (((fD rs[k].rows).take<|j+1).all (fun r=>bi (ai rs) rs[k].name r.expr)=true):=by
    show _=_;rw[HTS,YQ,HR];have:bi (ai rs) rs[k].name rs[k].rows[j].p.expr=true:=hrf;simp[this]
   clear HTS;go_wp2;go_roundw;case rel=>exact⟨j+1,cq,cx,HRN,HBN⟩
   simp[intOf]<;>omega
  obtain rfl:j=rs[k].rows.length:=cq;have HPN:O (((ai rs).take<|k+1).all (rU<|ai rs)=true):=by
   show _=_;rw[Jo rs k hlt,YQ,HP];have h1:=HR.out;rw[<-tF,X8]at h1;have:rU (ai rs) rs[k].p=true:=h1;simp[this]
  go_wp2;go_roundw;case rel=>exact⟨k+1,cq,cx,HPN,HB⟩
  simp[intOf]<;>omega
 obtain rfl:k=rs.length:=cq;have HRA:O (jd (ai rs)=true):=by
  have h1:=HP.out;rw[<-mD,X8]at h1;exact h1
 go_wp2_with fail;refine(xJ ad cap rs _ HSF.1 (HS.below HB) HL HSF.2.1 (fun r hr q hq=>(HSF.2.2 r hr q hq).2) (lK HRA)).mono ?_;rintro e w' ⟨⟨Y8,cap',out,rfl,-,-,hLe⟩|⟨rfl,hno⟩,hbx⟩
 ·have HY:O (cz<|ai rs):=⟨HSH,HRA,_,hLe.sol⟩;have HBN:=jr HB hbx;clear hLe hbx;go_wp2;go_ret;exact⟨aj (IG HY).symm,HBN⟩
 have HY:O (¬cz (ai rs)):=fun h=>hno h.2.2;have HBN:=jr HB hbx;clear hno hbx;go_wp2;go_ret;exact⟨aj (fw HY).symm,HBN⟩
end Go.Proofs.YtojjoblnpldniaaGreat
