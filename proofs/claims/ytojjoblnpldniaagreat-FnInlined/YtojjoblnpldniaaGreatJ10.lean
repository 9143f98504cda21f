/- Contracts of the program's looks at a schema's shape. -/
import Derived.Test.YtojjoblnpldniaaGreatSq
import Derived.Test.YtojjoblnpldniaaGreatSpecSchema11
import Derived.Test.YtojjoblnpldniaaGreatJ9
import Derived.Test.YtojjoblnpldniaaGreatJ7
open Go.Proofs.Tryz
set_option maxHeartbeats 80000000
set_option linter.defProp false
namespace Go.Proofs.YtojjoblnpldniaaGreat
open ChangeShapes WideShapes ChangeAt RowKit
open Pl
open Go.Sort
def iJ(rs:Q07):Bool:=decide (rs.length<=6)&&dN (df rs) rs.length
def Lv{rs:Q07}{k:Nat}(h:k<rs.length):mR (df rs) k=(aS rs[k].name&&zw (df rs) rs[k].name k&&aK (ai rs[k].rows)):=EJ h
def Lx{rs:Q06}{k:Nat}(h:k<rs.length):ll (ae rs) k=(aS rs[k].name&&wV (ae rs) rs[k].name k&&iJ rs[k].rows):=by
 rw[EH h];unfold iJ;rw[Bool.and_assoc]
set_option maxRecDepth 100000 in
def zU(ad:Q02)(cap:Nat)(rs:Q07)(w:af)(hlen:bh rs)(hs:Df w ad rs)(hl:∀r∈rs,r.light)(hf:∀r∈rs,r.fits)(hcp:∀r∈rs,r.caps):
  Calls prog 257 #[.slice ad rs.length cap] w (bj w<|.bool<|iJ rs):=by
 have HS:=aB hs;have HL:=aB hl;have Yc:=aB hf;have HCT:=aB hcp;clear hs hl hf hcp;have HALL:O (iJ rs=(decide (rs.length<=6)&&dN (df rs) rs.length)):=by show _=_;rfl
 by_cases h6:6<rs.length
 ·have HN:O (iJ rs=false):=by show _=_;rw[HALL];simp;omega
  go_enter func257,ntmps257;go_wp2;go_ret;exact⟨ah HN.symm,WL _ _⟩
 go_enter func257,ntmps257;go_wp2;go_loopw[10] (fun i wr=>∃k:Nat,k<=rs.length/\i=.int .i64 k/\O (dN (df rs) k=true)/\O (ag w wr)) (fun i _=>rs.length-(intOf i).toNat);case atStart=>exact⟨0,WO _,rfl,rfl,WL _ _⟩
 obtain⟨k,hk,rfl,HP,HB⟩:=hrel;by_cases hlt:k<rs.length
 ·rcases HS.out.below HB.out with rfl|⟨b,off,rfl,hb,hr,hok⟩
  ·simp at hlt
  obtain⟨t0,t1⟩:=hr k hlt;have HSE:O (rs[k].ok wr):=hok rs[k]<|WH hlt;have z1:rs[k].name.size<=maxLen:=(Yc _<|WH hlt).1;have Z6:O (rs[k].light):=HL _<|WH hlt;have ZN:O (rs[k].fits):=Yc _<|WH hlt;have HCP:O (rs[k].caps):=HCT _<|WH hlt;have hk1:=bY k;have hk2:(k:Int)<(rs.length:Int):=cq;have HTP:O (∀(m:Nat) (h:m<rs.length),ac wr b (off+m*2)<|.string rs[m].name):=fun m h=>(hr m h).1;have HRG:O (mR (df rs) k=(aS rs[k].name&&zw (df rs) rs[k].name k&&aK (ai rs[k].rows))):=Lv hlt;have HBAD:O (mR (df rs) k=false->iJ rs=false):=fun h=>by rw[HALL,uN _ k h _ hlt];simp
  obtain⟨W1,hW1⟩:=eQx<|wr.alloc<|.cells (ck rs[k]) 39;have hal:ag wr W1:=by rw[hW1];exact(WL _ _).alloc (WK _) _
  have Yq:=aB hal;have hgl:wr.heap.size<W1.heap.size:=by rw[hW1];simp
  have g0:W1.cell? (a7 wr)=some (.string rs[k].name):=by rw[hW1];simp
  have g1:W1.cell? (a8 wr 1)=some (.slice rs[k].ad rs[k].rows.length rs[k].cap):=by rw[hW1];simp
  have hb4:cU b W1:=Nat.lt_trans hb hgl;clear hr hok;go_wp2_with fail;rw[<-hW1];clear hW1 t0 t1 hal;have q0:=cell_regrown g0;have q1:=cell_regrown g1;have YO:=oP<|kJ (W:=W1) fun W'=>aP rs[k].name W' z1;have HCE:O (∀d os,Calls prog 178 #[.slice rs[k].ad rs[k].rows.length rs[k].cap] (grow (redrawn W1 d) os) fun e w''=>e=.returned (.bool<|aK<|ai rs[k].rows)/\∃p:Regrown,w''=grow (redrawn W1 p.d) p.os):=by
   show ∀d os,Calls prog 178 #[.slice rs[k].ad rs[k].rows.length rs[k].cap] (grow (redrawn W1 d) os) fun e w''=>e=.returned (.bool<|aK<|ai rs[k].rows)/\∃p:Regrown,w''=grow (redrawn W1 p.d) p.os;rw[oU];refine gm fun W' hb=>?_;exact rY _ _ rs[k].rows _ Z6.1 Z6.2 ZN.2.2 HCP.2<|HSE.below<|Yq.trans<|hb.mono Yq.size
  have YE:O (∀d os,ag w<|grow (redrawn W1 d) os):=fun d os=>HB.trans<|(Yq.mono HB.size).trans<|(below_regrown W1 d os).mono<|WR HB.size Yq.size;cases hnm:aS rs[k].name;case false=>
   rw[hnm]at YO;have HN:O (iJ rs=false):=HBAD (by rw[HRG];simp[hnm]);refine wp_region_quiet_below cw cw ?_
   repeat(go_big_quiet_step (exact YO _ _))
   refine wpQuiet_nil ?_;rintro _ ⟨⟨dq,osq⟩,rfl⟩;go_wp2;go_ret;exact⟨ah HN.symm,YE dq osq⟩
  rw[hnm]at YO;obtain⟨ex,hex⟩:=eQx<|aK<|ai rs[k].rows;rw[<-hex]at HCE HRG;have fin:O (∀pv,zw (df rs) rs[k].name k=pv->mR (df rs) k=(pv&&ex)):=fun pv h=>by rw[HRG,hnm,h];simp
  clear hex HRG hnm;by_cases hpos:k=0
  ·have hk0:¬(0:Int)<(k:Int):=cq;have hk9:decide (0<k)=false:=by simp;omega
   have Zx:=oP<|fin _<|BU hpos;replace hpos:O (k=0):=hpos;refine wp_region_quiet_below cw cw ?_
   repeat(go_big_quiet_step (first|exact YO _ _|exact HCE _ _))
   refine wpQuiet_nil ?_;rintro _ ⟨⟨dq,osq⟩,rfl⟩;cases ex;case false=>
    have HN:O (iJ rs=false):=HBAD (by rw[Zx];rfl);go_wp2;go_ret;exact⟨ah HN.symm,YE dq osq⟩
   have ZB:O (dN (df rs) (k+1)=true):=by show _=_;simp only[dN];rw[HP,Zx];rfl
   go_wp2;go_roundw;case rel=>exact⟨k+1,cq,cx,ZB,YE dq osq⟩
   simp[intOf]<;>omega
  obtain⟨m,hm⟩:∃m,k=m+1:=⟨k-1,cq⟩;have Yv:m<rs.length:=cq;have hk0:(0:Int)<(k:Int):=cq;have hk9:decide (0<k)=true:=by simp;omega
  have hkm:(k:Int)-1=(m:Int):=cq;have hwm:IntKind.i64.wrap (m:Int)=(m:Int):=by rw[IntKind.wrap_i64];omega
  have hm1:=bY m;have hm2:(m:Int)<(rs.length:Int):=cq;have qm:=cell_regrown<|aD Yq hb<|HTP m Yv;have Zx:=oP<|fin _<|BR hm Yv;replace hm:O (k=m+1):=hm;cases hless:Op.bytesLess rs[m].name.toList rs[k].name.toList;case false=>
   have HN:O (iJ rs=false):=HBAD (by rw[Zx];simp[jN,hless]);refine wp_region_quiet_below cw cw ?_
   repeat(go_big_quiet_step (first|exact YO _ _|exact HCE _ _))
   refine wpQuiet_nil ?_;rintro _ ⟨⟨dq,osq⟩,rfl⟩;go_wp2;go_ret;exact⟨ah HN.symm,YE dq osq⟩
  refine wp_region_quiet_below cw cw ?_
  repeat(go_big_quiet_step (first|exact YO _ _|exact HCE _ _))
  refine wpQuiet_nil ?_;rintro _ ⟨⟨dq,osq⟩,rfl⟩;cases ex;case false=>
   have HN:O (iJ rs=false):=HBAD (by rw[Zx];simp);go_wp2;go_ret;exact⟨ah HN.symm,YE dq osq⟩
  have ZB:O (dN (df rs) (k+1)=true):=by show _=_;simp only[dN];rw[HP,Zx];simp[jN,hless]
  go_wp2;go_roundw;case rel=>exact⟨k+1,cq,cx,ZB,YE dq osq⟩
  simp[intOf]<;>omega
 obtain rfl:k=rs.length:=cq;have HY:O (iJ rs=true):=by show _=_;rw[HALL,HP];simp;omega
 go_wp2;go_ret;exact⟨ah HY.symm,HB⟩
set_option maxRecDepth 100000 in
def IX(ad:Q02)(cap:Nat)(rs:Q06)(w:af)(hlen:bh rs)(hs:jX w ad rs)(hl:∀r∈rs,r.light)(hf:∀r∈rs,r.fits)(hcp:∀r∈rs,r.caps):
  Calls prog 184 #[.slice ad rs.length cap] w (bj w<|.bool<|bB<|ae rs):=by
 have HS:=aB hs;have HL:=aB hl;have Yc:=aB hf;have HCT:=aB hcp;clear hs hl hf hcp;have HALL:O (bB (ae rs)=(decide (rs.length<=6)&&jm (ae rs) rs.length)):=by show _=_;unfold bB;rw[bz]
 by_cases h6:6<rs.length
 ·have HN:O (bB (ae rs)=false):=by show _=_;rw[HALL];simp;omega
  go_enter func184,ntmps184;go_wp2;go_ret;exact⟨ah HN.symm,WL _ _⟩
 go_enter func184,ntmps184;go_wp2;go_loopw[10] (fun i wr=>∃k:Nat,k<=rs.length/\i=.int .i64 k/\O (jm (ae rs) k=true)/\O (ag w wr)) (fun i _=>rs.length-(intOf i).toNat);case atStart=>exact⟨0,WO _,rfl,rfl,WL _ _⟩
 obtain⟨k,hk,rfl,HP,HB⟩:=hrel;by_cases hlt:k<rs.length
 ·rcases HS.out.below HB.out with rfl|⟨b,off,rfl,hb,hr,hok⟩
  ·simp at hlt
  obtain⟨t0,t1⟩:=hr k hlt;have HSE:O (rs[k].ok wr):=hok rs[k]<|WH hlt;have z1:rs[k].name.size<=maxLen:=(Yc _<|WH hlt).1;have Z6:O (rs[k].light):=HL _<|WH hlt;have ZN:O (rs[k].fits):=Yc _<|WH hlt;have HCP:O (rs[k].caps):=HCT _<|WH hlt;have hk1:=bY k;have hk2:(k:Int)<(rs.length:Int):=cq;have HTP:O (∀(m:Nat) (h:m<rs.length),ac wr b (off+m*2)<|.string rs[m].name):=fun m h=>(hr m h).1;have HRG:O (ll (ae rs) k=(aS rs[k].name&&wV (ae rs) rs[k].name k&&iJ rs[k].rows)):=Lx hlt;have HBAD:O (ll (ae rs) k=false->bB (ae rs)=false):=fun h=>by rw[HALL,uO _ k h _ hlt];simp
  obtain⟨W1,hW1⟩:=eQx<|wr.alloc<|.cells (cm rs[k]) 36;have hal:ag wr W1:=by rw[hW1];exact(WL _ _).alloc (WK _) _
  have Yq:=aB hal;have hgl:wr.heap.size<W1.heap.size:=by rw[hW1];simp
  have g0:W1.cell? (a7 wr)=some (.string rs[k].name):=by rw[hW1];simp
  have g1:W1.cell? (a8 wr 1)=some (.slice rs[k].ad rs[k].rows.length rs[k].cap):=by rw[hW1];simp
  have hb4:cU b W1:=Nat.lt_trans hb hgl;clear hr hok;go_wp2_with fail;rw[<-hW1];clear hW1 t0 t1 hal;have q0:=cell_regrown g0;have q1:=cell_regrown g1;have YO:=oP<|kJ (W:=W1) fun W'=>aP rs[k].name W' z1;have HCE:O (∀d os,Calls prog 257 #[.slice rs[k].ad rs[k].rows.length rs[k].cap] (grow (redrawn W1 d) os) fun e w''=>e=.returned (.bool<|iJ rs[k].rows)/\∃p:Regrown,w''=grow (redrawn W1 p.d) p.os):=by
   refine gm fun W' hb=>?_;exact zU _ _ rs[k].rows _ Z6.1 (HSE.below<|Yq.trans<|hb.mono Yq.size) Z6.2 ZN.2.2 HCP.2
  have YE:O (∀d os,ag w<|grow (redrawn W1 d) os):=fun d os=>HB.trans<|(Yq.mono HB.size).trans<|(below_regrown W1 d os).mono<|WR HB.size Yq.size;cases hnm:aS rs[k].name;case false=>
   rw[hnm]at YO;have HN:O (bB (ae rs)=false):=HBAD (by rw[HRG];simp[hnm]);refine wp_region_quiet_below cw cw ?_
   repeat(go_big_quiet_step (exact YO _ _))
   refine wpQuiet_nil ?_;rintro _ ⟨⟨dq,osq⟩,rfl⟩;go_wp2;go_ret;exact⟨ah HN.symm,YE dq osq⟩
  rw[hnm]at YO;obtain⟨ex,hex⟩:=eQx<|iJ rs[k].rows;rw[<-hex]at HCE HRG;have fin:O (∀pv,wV (ae rs) rs[k].name k=pv->ll (ae rs) k=(pv&&ex)):=fun pv h=>by rw[HRG,hnm,h];simp
  clear hex HRG hnm;by_cases hpos:k=0
  ·have hk0:¬(0:Int)<(k:Int):=cq;have hk9:decide (0<k)=false:=by simp;omega
   have Zx:=oP<|fin _<|BS hpos;replace hpos:O (k=0):=hpos;refine wp_region_quiet_below cw cw ?_
   repeat(go_big_quiet_step (first|exact YO _ _|exact HCE _ _))
   refine wpQuiet_nil ?_;rintro _ ⟨⟨dq,osq⟩,rfl⟩;cases ex;case false=>
    have HN:O (bB (ae rs)=false):=HBAD (by rw[Zx];rfl);go_wp2;go_ret;exact⟨ah HN.symm,YE dq osq⟩
   have ZB:O (jm (ae rs) (k+1)=true):=by show _=_;simp only[jm];rw[HP,Zx];rfl
   go_wp2;go_roundw;case rel=>exact⟨k+1,cq,cx,ZB,YE dq osq⟩
   simp[intOf]<;>omega
  obtain⟨m,hm⟩:∃m,k=m+1:=⟨k-1,cq⟩;have Yv:m<rs.length:=cq;have hk0:(0:Int)<(k:Int):=cq;have hk9:decide (0<k)=true:=by simp;omega
  have hkm:(k:Int)-1=(m:Int):=cq;have hwm:IntKind.i64.wrap (m:Int)=(m:Int):=by rw[IntKind.wrap_i64];omega
  have hm1:=bY m;have hm2:(m:Int)<(rs.length:Int):=cq;have qm:=cell_regrown<|aD Yq hb<|HTP m Yv;have Zx:=oP<|fin _<|BQ hm Yv;replace hm:O (k=m+1):=hm;cases hless:Op.bytesLess rs[m].name.toList rs[k].name.toList;case false=>
   have HN:O (bB (ae rs)=false):=HBAD (by rw[Zx];simp[jN,hless]);refine wp_region_quiet_below cw cw ?_
   repeat(go_big_quiet_step (first|exact YO _ _|exact HCE _ _))
   refine wpQuiet_nil ?_;rintro _ ⟨⟨dq,osq⟩,rfl⟩;go_wp2;go_ret;exact⟨ah HN.symm,YE dq osq⟩
  refine wp_region_quiet_below cw cw ?_
  repeat(go_big_quiet_step (first|exact YO _ _|exact HCE _ _))
  refine wpQuiet_nil ?_;rintro _ ⟨⟨dq,osq⟩,rfl⟩;cases ex;case false=>
   have HN:O (bB (ae rs)=false):=HBAD (by rw[Zx];simp);go_wp2;go_ret;exact⟨ah HN.symm,YE dq osq⟩
  have ZB:O (jm (ae rs) (k+1)=true):=by show _=_;simp only[jm];rw[HP,Zx];simp[jN,hless]
  go_wp2;go_roundw;case rel=>exact⟨k+1,cq,cx,ZB,YE dq osq⟩
  simp[intOf]<;>omega
 obtain rfl:k=rs.length:=cq;have HY:O (bB (ae rs)=true):=by show _=_;rw[HALL,HP];simp;omega
 go_wp2;go_ret;exact⟨ah HY.symm,HB⟩
open Maps
set_option linter.unusedVariables false
set_option maxRecDepth 100000
end Go.Proofs.YtojjoblnpldniaaGreat
