/- What the document's reader leaves is an expression in memory. -/
import Derived.Test.YtojjoblnpldniaaGreatSq
import Derived.Test.YtojjoblnpldniaaGreatJ13
import Derived.Test.YtojjoblnpldniaaGreatSpecSchema11
import Derived.Test.YtojjoblnpldniaaGreatJ12
import Derived.Maps.OwnIn
open Go.Proofs.Tryz
set_option maxHeartbeats 80000000
set_option linter.defProp false
namespace Go.Proofs.YtojjoblnpldniaaGreat
set_option maxRecDepth 100000
open ChangeShapes WideShapes ChangeAt RowKit
open Pl
def RdF.nod{w:ag}{R:Nat}{s:ByteArray}{st:RS}{base:Nat}{v:Value}{qs:Q08}(h:RdF w R s st base v qs):NodM w base v qs:=⟨h.own,h.zA,h.zK,h.ok,h.lie,h.one,h.two,h.cA⟩
open Go.Sort
def iK(rs:Q07):Bool:=decide (rs.length<=6)&&dS (fD rs) rs.length
def Mk{rs:Q07}{k:Nat}(h:k<rs.length):nE (fD rs) k=(aW rs[k].name&&zJ (fD rs) rs[k].name k&&aS (au rs[k].rows)):=FI h
def Ml{rs:Q06}{k:Nat}(h:k<rs.length):lJ (ai rs) k=(aW rs[k].name&&xK (ai rs) rs[k].name k&&iK rs[k].rows):=by
 rw[FH h];unfold iK;rw[Bool.and_assoc]
set_option maxRecDepth 100000 in
def Am(ad:Q02)(cap:Nat)(rs:Q07)(w:ag)(hlen:a7 rs)(hs:Qb w ad rs)(hl:∀r∈rs,r.light)(hf:∀r∈rs,r.fits)(hcp:∀r∈rs,r.caps):
  Calls prog 257 #[.slice ad rs.length cap] w (a8 w<|.bool<|iK rs):=by
 have HS:=aK hs;have HL:=aK hl;have Zd:=aK hf;have HCT:=aK hcp;clear hs hl hf hcp;have HALL:O (iK rs=(decide (rs.length<=6)&&dS (fD rs) rs.length)):=by show _=_;rfl
 by_cases h6:6<rs.length
 ·have HN:O (iK rs=false):=by show _=_;rw[HALL];simp;omega
  go_enter func257,ntmps257;go_wp2;go_ret;exact⟨aj HN.symm,XL _ _⟩
 go_enter func257,ntmps257;go_wp2;go_loopw[10] (fun i wr=>∃k:Nat,k<=rs.length/\i=.int .i64 k/\O (dS (fD rs) k=true)/\O (ae w wr)) (fun i _=>rs.length-(intOf i).toNat);case atStart=>exact⟨0,XP _,rfl,rfl,XL _ _⟩
 obtain⟨k,hk,rfl,HP,HB⟩:=hrel;by_cases hlt:k<rs.length
 ·rcases HS.out.below HB.out with rfl|⟨b,off,rfl,hb,hr,hok⟩
  ·simp at hlt
  obtain⟨t0,t1⟩:=hr k hlt;have HSE:O (rs[k].ok wr):=hok rs[k]<|XI hlt;have z1:rs[k].name.size<=maxLen:=(Zd _<|XI hlt).1;have HLG:O (rs[k].light):=HL _<|XI hlt;have HFE:O (rs[k].fits):=Zd _<|XI hlt;have HCP:O (rs[k].caps):=HCT _<|XI hlt;have hk1:=bG k;have hk2:(k:Int)<(rs.length:Int):=cq;have HTP:O (∀(m:Nat) (h:m<rs.length),ac wr b (off+m*2)<|.string rs[m].name):=fun m h=>(hr m h).1;have HRG:O (nE (fD rs) k=(aW rs[k].name&&zJ (fD rs) rs[k].name k&&aS (au rs[k].rows))):=Mk hlt;have HBAD:O (nE (fD rs) k=false->iK rs=false):=fun h=>by rw[HALL,vD _ k h _ hlt];simp
  obtain⟨W1,hW1⟩:=eQx<|wr.alloc<|.cells (ck rs[k]) 39;have hal:ae wr W1:=by rw[hW1];exact(XL _ _).alloc (XK _) _
  have Zl:=aK hal;have hgl:wr.heap.size<W1.heap.size:=by rw[hW1];simp
  have g0:W1.cell? (aE wr)=some (.string rs[k].name):=by rw[hW1];simp
  have g1:W1.cell? (a6 wr 1)=some (.slice rs[k].ad rs[k].rows.length rs[k].cap):=by rw[hW1];simp
  have hb4:cW b W1:=Nat.lt_trans hb hgl;clear hr hok;go_wp2_with fail;rw[<-hW1];clear hW1 t0 t1 hal;have q0:=cell_regrown g0;have q1:=cell_regrown g1;have Z9:=o7<|kP (W:=W1) fun W'=>aT rs[k].name W' z1;have HCE:O (∀d os,Calls prog 178 #[.slice rs[k].ad rs[k].rows.length rs[k].cap] (grow (redrawn W1 d) os) fun e w''=>e=.returned (.bool<|aS<|au rs[k].rows)/\∃p:Regrown,w''=grow (redrawn W1 p.d) p.os):=by
   show ∀d os,Calls prog 178 #[.slice rs[k].ad rs[k].rows.length rs[k].cap] (grow (redrawn W1 d) os) fun e w''=>e=.returned (.bool<|aS<|au rs[k].rows)/\∃p:Regrown,w''=grow (redrawn W1 p.d) p.os;rw[tH];refine dz fun W' hb=>?_;exact BC _ _ rs[k].rows _ HLG.1 HLG.2 HFE.2.2 HCP.2<|HSE.below<|Zl.trans<|hb.mono Zl.size
  have Z5:O (∀d os,ae w<|grow (redrawn W1 d) os):=fun d os=>HB.trans<|(Zl.mono HB.size).trans<|(below_regrown W1 d os).mono<|XR HB.size Zl.size;cases hnm:aW rs[k].name;case false=>
   rw[hnm]at Z9;have HN:O (iK rs=false):=HBAD (by rw[HRG];simp[hnm]);refine wp_region_quiet_below cw cw ?_
   repeat(go_big_quiet_step (exact Z9 _ _))
   refine wpQuiet_nil ?_;rintro _ ⟨⟨dq,osq⟩,rfl⟩;go_wp2;go_ret;exact⟨aj HN.symm,Z5 dq osq⟩
  rw[hnm]at Z9;obtain⟨ex,hex⟩:=eQx<|aS<|au rs[k].rows;rw[<-hex]at HCE HRG;have fin:O (∀pv,zJ (fD rs) rs[k].name k=pv->nE (fD rs) k=(pv&&ex)):=fun pv h=>by rw[HRG,hnm,h];simp
  clear hex HRG hnm;by_cases hpos:k=0
  ·have hk0:¬(0:Int)<(k:Int):=cq;have hk9:decide (0<k)=false:=by simp;omega
   have HPV:=o7<|fin _<|CL hpos;replace hpos:O (k=0):=hpos;refine wp_region_quiet_below cw cw ?_
   repeat(go_big_quiet_step (first|exact Z9 _ _|exact HCE _ _))
   refine wpQuiet_nil ?_;rintro _ ⟨⟨dq,osq⟩,rfl⟩;cases ex;case false=>
    have HN:O (iK rs=false):=HBAD (by rw[HPV];rfl);go_wp2;go_ret;exact⟨aj HN.symm,Z5 dq osq⟩
   have HRN:O (dS (fD rs) (k+1)=true):=by show _=_;simp only[dS];rw[HP,HPV];rfl
   go_wp2;go_roundw;case rel=>exact⟨k+1,cq,cx,HRN,Z5 dq osq⟩
   simp[intOf]<;>omega
  obtain⟨m,hm⟩:∃m,k=m+1:=⟨k-1,cq⟩;have ZA:m<rs.length:=cq;have hk0:(0:Int)<(k:Int):=cq;have hk9:decide (0<k)=true:=by simp;omega
  have hkm:(k:Int)-1=(m:Int):=cq;have hwm:IntKind.i64.wrap (m:Int)=(m:Int):=by rw[IntKind.wrap_i64];omega
  have hm1:=bG m;have hm2:(m:Int)<(rs.length:Int):=cq;have qm:=cell_regrown<|aM Zl hb<|HTP m ZA;have HPV:=o7<|fin _<|CJ hm ZA;replace hm:O (k=m+1):=hm;cases hless:Op.bytesLess rs[m].name.toList rs[k].name.toList;case false=>
   have HN:O (iK rs=false):=HBAD (by rw[HPV];simp[jO,hless]);refine wp_region_quiet_below cw cw ?_
   repeat(go_big_quiet_step (first|exact Z9 _ _|exact HCE _ _))
   refine wpQuiet_nil ?_;rintro _ ⟨⟨dq,osq⟩,rfl⟩;go_wp2;go_ret;exact⟨aj HN.symm,Z5 dq osq⟩
  refine wp_region_quiet_below cw cw ?_
  repeat(go_big_quiet_step (first|exact Z9 _ _|exact HCE _ _))
  refine wpQuiet_nil ?_;rintro _ ⟨⟨dq,osq⟩,rfl⟩;cases ex;case false=>
   have HN:O (iK rs=false):=HBAD (by rw[HPV];simp);go_wp2;go_ret;exact⟨aj HN.symm,Z5 dq osq⟩
  have HRN:O (dS (fD rs) (k+1)=true):=by show _=_;simp only[dS];rw[HP,HPV];simp[jO,hless]
  go_wp2;go_roundw;case rel=>exact⟨k+1,cq,cx,HRN,Z5 dq osq⟩
  simp[intOf]<;>omega
 obtain rfl:k=rs.length:=cq;have HY:O (iK rs=true):=by show _=_;rw[HALL,HP];simp;omega
 go_wp2;go_ret;exact⟨aj HY.symm,HB⟩
set_option maxRecDepth 100000 in
def JC(ad:Q02)(cap:Nat)(rs:Q06)(w:ag)(hlen:a7 rs)(hs:kI w ad rs)(hl:∀r∈rs,r.light)(hf:∀r∈rs,r.fits)(hcp:∀r∈rs,r.caps):
  Calls prog 184 #[.slice ad rs.length cap] w (a8 w<|.bool<|bz<|ai rs):=by
 have HS:=aK hs;have HL:=aK hl;have Zd:=aK hf;have HCT:=aK hcp;clear hs hl hf hcp;have HALL:O (bz (ai rs)=(decide (rs.length<=6)&&jl (ai rs) rs.length)):=by show _=_;unfold bz;rw[mD]
 by_cases h6:6<rs.length
 ·have HN:O (bz (ai rs)=false):=by show _=_;rw[HALL];simp;omega
  go_enter func184,ntmps184;go_wp2;go_ret;exact⟨aj HN.symm,XL _ _⟩
 go_enter func184,ntmps184;go_wp2;go_loopw[10] (fun i wr=>∃k:Nat,k<=rs.length/\i=.int .i64 k/\O (jl (ai rs) k=true)/\O (ae w wr)) (fun i _=>rs.length-(intOf i).toNat);case atStart=>exact⟨0,XP _,rfl,rfl,XL _ _⟩
 obtain⟨k,hk,rfl,HP,HB⟩:=hrel;by_cases hlt:k<rs.length
 ·rcases HS.out.below HB.out with rfl|⟨b,off,rfl,hb,hr,hok⟩
  ·simp at hlt
  obtain⟨t0,t1⟩:=hr k hlt;have HSE:O (rs[k].ok wr):=hok rs[k]<|XI hlt;have z1:rs[k].name.size<=maxLen:=(Zd _<|XI hlt).1;have HLG:O (rs[k].light):=HL _<|XI hlt;have HFE:O (rs[k].fits):=Zd _<|XI hlt;have HCP:O (rs[k].caps):=HCT _<|XI hlt;have hk1:=bG k;have hk2:(k:Int)<(rs.length:Int):=cq;have HTP:O (∀(m:Nat) (h:m<rs.length),ac wr b (off+m*2)<|.string rs[m].name):=fun m h=>(hr m h).1;have HRG:O (lJ (ai rs) k=(aW rs[k].name&&xK (ai rs) rs[k].name k&&iK rs[k].rows)):=Ml hlt;have HBAD:O (lJ (ai rs) k=false->bz (ai rs)=false):=fun h=>by rw[HALL,vF _ k h _ hlt];simp
  obtain⟨W1,hW1⟩:=eQx<|wr.alloc<|.cells (cm rs[k]) 36;have hal:ae wr W1:=by rw[hW1];exact(XL _ _).alloc (XK _) _
  have Zl:=aK hal;have hgl:wr.heap.size<W1.heap.size:=by rw[hW1];simp
  have g0:W1.cell? (aE wr)=some (.string rs[k].name):=by rw[hW1];simp
  have g1:W1.cell? (a6 wr 1)=some (.slice rs[k].ad rs[k].rows.length rs[k].cap):=by rw[hW1];simp
  have hb4:cW b W1:=Nat.lt_trans hb hgl;clear hr hok;go_wp2_with fail;rw[<-hW1];clear hW1 t0 t1 hal;have q0:=cell_regrown g0;have q1:=cell_regrown g1;have Z9:=o7<|kP (W:=W1) fun W'=>aT rs[k].name W' z1;have HCE:O (∀d os,Calls prog 257 #[.slice rs[k].ad rs[k].rows.length rs[k].cap] (grow (redrawn W1 d) os) fun e w''=>e=.returned (.bool<|iK rs[k].rows)/\∃p:Regrown,w''=grow (redrawn W1 p.d) p.os):=by
   refine dz fun W' hb=>?_;exact Am _ _ rs[k].rows _ HLG.1 (HSE.below<|Zl.trans<|hb.mono Zl.size) HLG.2 HFE.2.2 HCP.2
  have Z5:O (∀d os,ae w<|grow (redrawn W1 d) os):=fun d os=>HB.trans<|(Zl.mono HB.size).trans<|(below_regrown W1 d os).mono<|XR HB.size Zl.size;cases hnm:aW rs[k].name;case false=>
   rw[hnm]at Z9;have HN:O (bz (ai rs)=false):=HBAD (by rw[HRG];simp[hnm]);refine wp_region_quiet_below cw cw ?_
   repeat(go_big_quiet_step (exact Z9 _ _))
   refine wpQuiet_nil ?_;rintro _ ⟨⟨dq,osq⟩,rfl⟩;go_wp2;go_ret;exact⟨aj HN.symm,Z5 dq osq⟩
  rw[hnm]at Z9;obtain⟨ex,hex⟩:=eQx<|iK rs[k].rows;rw[<-hex]at HCE HRG;have fin:O (∀pv,xK (ai rs) rs[k].name k=pv->lJ (ai rs) k=(pv&&ex)):=fun pv h=>by rw[HRG,hnm,h];simp
  clear hex HRG hnm;by_cases hpos:k=0
  ·have hk0:¬(0:Int)<(k:Int):=cq;have hk9:decide (0<k)=false:=by simp;omega
   have HPV:=o7<|fin _<|CK hpos;replace hpos:O (k=0):=hpos;refine wp_region_quiet_below cw cw ?_
   repeat(go_big_quiet_step (first|exact Z9 _ _|exact HCE _ _))
   refine wpQuiet_nil ?_;rintro _ ⟨⟨dq,osq⟩,rfl⟩;cases ex;case false=>
    have HN:O (bz (ai rs)=false):=HBAD (by rw[HPV];rfl);go_wp2;go_ret;exact⟨aj HN.symm,Z5 dq osq⟩
   have HRN:O (jl (ai rs) (k+1)=true):=by show _=_;simp only[jl];rw[HP,HPV];rfl
   go_wp2;go_roundw;case rel=>exact⟨k+1,cq,cx,HRN,Z5 dq osq⟩
   simp[intOf]<;>omega
  obtain⟨m,hm⟩:∃m,k=m+1:=⟨k-1,cq⟩;have ZA:m<rs.length:=cq;have hk0:(0:Int)<(k:Int):=cq;have hk9:decide (0<k)=true:=by simp;omega
  have hkm:(k:Int)-1=(m:Int):=cq;have hwm:IntKind.i64.wrap (m:Int)=(m:Int):=by rw[IntKind.wrap_i64];omega
  have hm1:=bG m;have hm2:(m:Int)<(rs.length:Int):=cq;have qm:=cell_regrown<|aM Zl hb<|HTP m ZA;have HPV:=o7<|fin _<|CG hm ZA;replace hm:O (k=m+1):=hm;cases hless:Op.bytesLess rs[m].name.toList rs[k].name.toList;case false=>
   have HN:O (bz (ai rs)=false):=HBAD (by rw[HPV];simp[jO,hless]);refine wp_region_quiet_below cw cw ?_
   repeat(go_big_quiet_step (first|exact Z9 _ _|exact HCE _ _))
   refine wpQuiet_nil ?_;rintro _ ⟨⟨dq,osq⟩,rfl⟩;go_wp2;go_ret;exact⟨aj HN.symm,Z5 dq osq⟩
  refine wp_region_quiet_below cw cw ?_
  repeat(go_big_quiet_step (first|exact Z9 _ _|exact HCE _ _))
  refine wpQuiet_nil ?_;rintro _ ⟨⟨dq,osq⟩,rfl⟩;cases ex;case false=>
   have HN:O (bz (ai rs)=false):=HBAD (by rw[HPV];simp);go_wp2;go_ret;exact⟨aj HN.symm,Z5 dq osq⟩
  have HRN:O (jl (ai rs) (k+1)=true):=by show _=_;simp only[jl];rw[HP,HPV];simp[jO,hless]
  go_wp2;go_roundw;case rel=>exact⟨k+1,cq,cx,HRN,Z5 dq osq⟩
  simp[intOf]<;>omega
 obtain rfl:k=rs.length:=cq;have HY:O (bz (ai rs)=true):=by show _=_;rw[HALL,HP];simp;omega
 go_wp2;go_ret;exact⟨aj HY.symm,HB⟩
open Maps
def JD(ts:Q0b)(w:World)(e:Ending)(w':World):Prop :=
 ((∃(b n:Nat) (σ:Ky->Option Int),e=.returned (.tuple #[.map (some b),.bool true])/\cz ts/\aL eD prog 146 w' b n (jD σ)/\Least ts (fun k=>(σ k).getD 0)/\∀k,(∃x,σ k=some x)↔k∈ay ts)\/(e=.returned (.tuple #[.map none,.bool false])/\¬cz ts))/\ae w w'
set_option maxRecDepth 100000 in
def xR(ad:Q02)(cap:Nat)(rs:Q06)(w:ag)(hlen:rs.length<=1048576)(hs:kI w ad rs)(hl:∀r∈rs,r.light)(hf:∀r∈rs,r.fits)(hcp:∀r∈rs,r.caps):
  Calls prog 112 #[.slice ad rs.length cap] w (JD (ai rs) w):=by
 have HS:=aK hs;have HL:=aK hl;have Zd:=aK hf;have HCT:=aK hcp;clear hs hl hf hcp;go_enter func112,ntmps112;go_wp2_with fail;refine(JC ad cap rs _ hlen HS HL Zd HCT).mono ?_;rintro e w1 ⟨rfl,hb1⟩;have HB1:=aK hb1;clear hb1;cases hsh:bz (ai rs);case false=>
  have HP:O (JD (ai rs) w (.returned<|.tuple #[.map none,.bool false]) w1):=⟨.inr ⟨rfl,fun h=>by rw[h.1]at hsh;cases hsh⟩,HB1⟩;go_wp2;refine bodyPost_ret (v:=.tuple #[.map none,.bool false]) ?_ rfl HP;simp[results,Tryz.results112,go_sem]
 have HSH:O (bz (ai rs)=true):=hsh;obtain⟨h6,hr6,hex⟩:=bI hsh;have HR6:O (∀r∈rs,r.rows.length<=6):=hr6;have HEX:O (∀r∈rs,∀q∈r.rows,aS (au q.rows)=true/\q.rows.length<=15/\∀e∈q.rows,fE q.rows.length e.e.kids):=hex;have HT:O (Tab rs<|qD rs):=qE hsh;clear hsh hr6 hex;go_wp2_with fail;refine(zy ad cap rs _ h6 (HS.below HB1) HR6 Zd).mono ?_;rintro e w2 ⟨rfl,hV2,hb2⟩;have HB2:=jr HB1 hb2;obtain⟨bT,hbT⟩:=eQx w1.heap.size;rw[<-hbT]at hV2 ⊢;have HV2:O (aL eD prog 146 w2 bT 36<|qD rs):=hV2;clear hV2 hb2 hbT HB1;go_wp2_with fail;go_loopw[16] (fun i wr=>∃k:Nat,k<=rs.length/\i=.int .i64 k/\O (((ai rs).take k).all (rU<|ai rs)=true)/\O (ae w wr)/\O (aL eD prog 146 wr bT 36<|qD rs)) (fun i _=>rs.length-(intOf i).toNat);case atStart=>exact⟨0,XP _,rfl,(by show _=_;simp),HB2,HV2⟩
 clear HB2 HV2;obtain⟨k,hk,rfl,HP,HB,HV⟩:=hrel;by_cases hlt:k<rs.length
 ·rcases HS.out.below HB.out with rfl|⟨b,off,rfl,hb,hr,-⟩
  ·simp at hlt
  obtain⟨t0,t1⟩:=hr k hlt;have hk1:=bG k;have hk2:(k:Int)<(rs.length:Int):=cq;have h66:=HR6 _<|XI hlt;have z0:rs[k].name.size<=maxLen:=(Zd _<|XI hlt).1;obtain⟨W1,hW1⟩:=eQx<|wr.alloc<|.cells #[.string rs[k].name,.slice rs[k].ad rs[k].rows.length rs[k].cap] 36;have hal:ae wr W1:=by rw[hW1];exact(XL _ _).alloc (XK _) _
  obtain⟨g6,hg6⟩:=eQx wr.heap.size;have HC1:O (W1.cell? ⟨g6,0,none⟩=some (.string rs[k].name)/\g6<W1.heap.size):=⟨by rw[hW1,hg6];simp,by rw[hW1,hg6];simp⟩;have HB1:=jr HB hal;have HV1:=aK<|HV.below hal;clear hr hal HB HV;go_wp2_with fail;rw[<-hW1,<-hg6];clear hW1 t0 t1 hg6;go_loopw[23] (fun i w3=>∃j:Nat,j<=rs[k].rows.length/\i=.int .i64 j/\O (((fD rs[k].rows).take j).all (fun r=>bi (ai rs) rs[k].name r.expr)=true)/\O (ae w w3)/\O (aL eD prog 146 w3 bT 36<|qD rs)/\O (w3.cell? ⟨g6,0,none⟩=some (.string rs[k].name)/\g6<w3.heap.size)) (fun i _=>rs[k].rows.length-(intOf i).toNat);case atStart=>exact⟨0,XP _,rfl,(by show _=_;simp),HB1,HV1,HC1⟩
  clear HB1 HV1 HC1;obtain⟨j,hj,rfl,HR,HB,HV,HC⟩:=hrel;by_cases hjl:j<rs[k].rows.length
  ·rcases HS.out.below HB.out with hnil|⟨b',off',he,hb2,hr,hok⟩
   ·rw[hnil]at hlt;simp at hlt
   injection he with he;injection he with he1 he2;subst he1;subst he2;have ok:=hok rs[k]<|XI hlt;rcases ok with hnil|⟨b2,ZR,had,hbb,hr2,hok2⟩
   ·rw[hnil]at hjl;simp at hjl
   obtain⟨q0,q1⟩:=hr2 j hjl;have HSE:O (iE wr rs[k].rows[j].ad rs[k].rows[j].rows):=hok2 _<|XI hjl;have HLG:O (rs[k].rows[j].light):=(HL _<|XI hlt).2 _<|XI hjl;have HFE:O (rs[k].rows[j].fits):=(Zd _<|XI hlt).2.2 _<|XI hjl;have HNB:O (∀q∈rs[k].rows[j].rows,aD q.e=true):=fun q hq=>iY (HEX _ (XI hlt) _<|XI hjl).1 q.e (by unfold au;exact Yn hq);have hj1:=bG j;have hj2:(j:Int)<(rs[k].rows.length:Int):=cq
   obtain⟨x0,x1⟩:=HC.out;obtain⟨W3,hW3⟩:=eQx<|wr.alloc<|.cells #[.string rs[k].rows[j].name,.slice rs[k].rows[j].ad rs[k].rows[j].rows.length rs[k].rows[j].cap] 39;have hal:ae wr W3:=by rw[hW3];exact(XL _ _).alloc (XK _) _
   have HB3:=jr HB hal;have HV3:=aK<|HV.below hal;have Zl:=aK hal;have HC3:O (W3.cell? ⟨g6,0,none⟩=some (.string rs[k].name)/\g6<W3.heap.size):=⟨aM hal x1 x0,XJ x1 hal.size⟩;have HTS:O ((fD rs[k].rows).take (j+1)=(fD rs[k].rows).take j++[rs[k].rows[j].p]):=Jp rs[k].rows j hjl;rw[had];clear hr hok hr2 hok2 hal HB HV HC;go_wp2_with fail;rw[<-hW3];clear hW3 q0 q1 x0 x1;refine(Cw (some ⟨b,off,none⟩) rs[k].rows[j].ad cap rs[k].rows[j].cap rs bT 36 (qD rs) rs[k].name rs[k].rows[j].rows _ hlen (HS.below HB3) HL Zd HV3 HT z0 HLG.1 (HSE.below Zl) HLG.2 HFE.2.2 HNB).mono ?_;rintro e w5 ⟨rfl,hb5⟩;have HB5:=jr HB3 hb5;have HV5:=aK<|HV3.below hb5;have HC5:O (w5.cell? ⟨g6,0,none⟩=some (.string rs[k].name)/\g6<w5.heap.size):=⟨aM hb5 HC3.2 HC3.1,XJ HC3.2 hb5.size⟩;clear hb5;cases hrf:bi (ai rs) rs[k].name (au rs[k].rows[j].rows);case false=>
    have HPO:O (JD (ai rs) w (.returned<|.tuple #[.map none,.bool false]) w5):=by
     refine⟨.inr ⟨rfl,fun hs=>?_⟩,HB5⟩;have h1:=hs.2.1;unfold jd at h1;rw[XY]at h1;have h2:=h1 rs[k].p (by unfold ai;exact Yn<|XI hlt);unfold rU at h2;rw[XY]at h2;have h3:=h2 rs[k].rows[j].p (by show _∈fD rs[k].rows;unfold fD;exact Yn<|XI hjl);have h4:bi (ai rs) rs[k].name (au rs[k].rows[j].rows)=true:=h3;rw[hrf]at h4;cases h4
    go_wp2;refine bodyPost_ret (v:=.tuple #[.map none,.bool false]) ?_ rfl HPO;simp[results,Tryz.results112,go_sem]
   have HRN:O (((fD rs[k].rows).take<|j+1).all (fun r=>bi (ai rs) rs[k].name r.expr)=true):=by
    show _=_;rw[HTS,YQ,HR];have:bi (ai rs) rs[k].name rs[k].rows[j].p.expr=true:=hrf;simp[this]
   go_wp2;go_roundw;case rel=>exact⟨j+1,cq,cx,HRN,HB5,HV5,HC5⟩
   simp[intOf]<;>omega
  obtain rfl:j=rs[k].rows.length:=cq;have HPN:O (((ai rs).take<|k+1).all (rU<|ai rs)=true):=by
   show _=_;rw[Jo rs k hlt,YQ,HP];have h1:=HR.out;rw[<-tF,X8]at h1;have:rU (ai rs) rs[k].p=true:=h1;simp[this]
  go_wp2;go_roundw;case rel=>exact⟨k+1,cq,cx,HPN,HB,HV⟩
  simp[intOf]<;>omega
 obtain rfl:k=rs.length:=cq;have HRA:O (jd (ai rs)=true):=by
  have h1:=HP.out;rw[<-mD,X8]at h1;exact h1
 go_wp2_with fail;refine(Ea ad cap rs bT 36 (qD rs) _ h6 (HS.below HB) HL Zd HR6 (fun r hr q hq=>(HEX r hr q hq).2) (Rt HSH) HV HT).mono ?_;rintro e w5 ⟨rfl,⟨nL,ML,hG5⟩,hb5⟩;have HB5:=jr HB hb5;have HG5:O (Grp w5 wr.heap.size nL ML<|jT (ai rs) rs):=hG5;clear hG5 hb5;go_wp2_with fail;refine(Ai ad cap rs wr.heap.size nL ML (jT (ai rs) rs) _ h6 (HS.below HB5) Zd HR6 HG5 (Uo HSH HRA) (lK HRA)<|OH rs HR6 HEX<|Rt HSH).mono ?_;rintro e w6 ⟨hL,hb6⟩;have HB6:=jr HB5 hb6;clear hb6;rcases hL with⟨bS,nS,σ,rfl,hM,hLe,hk⟩|⟨rfl,hno⟩
 ·have HPO:O (JD (ai rs) w (.returned<|.tuple #[.map (some bS),.bool true]) w6):=⟨.inl ⟨bS,nS,σ,rfl,⟨HSH,HRA,_,hLe.sol⟩,hM,hLe,hk⟩,HB6⟩;clear hM hLe hk;go_wp2;refine bodyPost_ret (v:=.tuple #[.map (some bS),.bool true]) ?_ rfl HPO;simp[results,Tryz.results112,go_sem]
 have HPO:O (JD (ai rs) w (.returned<|.tuple #[.map none,.bool false]) w6):=⟨.inr ⟨rfl,fun h=>hno h.2.2⟩,HB6⟩;clear hno;go_wp2;refine bodyPost_ret (v:=.tuple #[.map none,.bool false]) ?_ rfl HPO;simp[results,Tryz.results112,go_sem]
def uR(ts:Q0b)(oa ob r c d s:ByteArray):Bool:=dR (bn<|aH ts oa r) (bn<|aH ts oa r).length ⟨c,s⟩&&cZ oa ob r c d s
def JE:∀{es:Q09} (a:Al),own es=0->es.any (oN a)=false
 | [],_,_=>rfl
 | e::es,a,h=>by
  by_cases h1:e.kind=1
  ·simp[own,h1]at h
  rw[YP,JE a<|by simpa[own,h1] using h];simp[oN,h1]
def JF:∀{es:Q09} (a:Al),own es<=1->es.any (oN a)=dR (bn es) (bn es).length a
 | [],_,_=>rfl
 | e::es,a,h=>by
  by_cases h1:e.kind=1
  ·rw[YP,JE a<|by simp[own,h1]at h;simpa[own] using h];simp[oN,h1,bn]
  rw[YP,JF a<|by simpa[own,h1] using h];simp[oN,h1,bn]
def Pp{xs:Q0a}{a:Al}{k:Nat}(h:k<xs.length)(hk:kN xs[k] a=true):dR xs xs.length a=true:=by
 unfold dR;rw[X8,Yq];exact⟨_,XI h,hk⟩
def FU(ts:Q0b)(oa ob r c d s:ByteArray):Bool:=aN ts&&uR ts oa ob r c d s
def Wn{es:Q09}(h:aS es=true):own es<=1:=by
 unfold aS at h;simp at h;omega
def UL{rs:Q06}(h:cz<|ai rs)(ty n:dw):own (aH (ai rs) ty n)<=1:=by
 unfold aH;cases e:fI (ai rs) ty n with
 | none=>simp[own]
 | some es =>
  obtain⟨t,ht,q,hq,-,-,rfl⟩:=rX e;exact Wn ((bI h.1).2.2 t ht q hq).1
set_option maxRecDepth 100000 in
def De(ad:Q02)(cap:Nat)(rs:Q06)(oa ob r c d s:dw)(w:ag)(hlen:a7 rs)(hs:kI w ad rs)(hl:∀r∈rs,r.light)(ha:oa.size<=maxLen)(hb:ob.size<=maxLen)(hr:r.size<=maxLen)(hc:c.size<=maxLen)(hd:d.size<=maxLen)(hz:s.size<=maxLen):
  Calls prog 141 #[.slice ad rs.length cap,.agg #[.string oa,.string ob,.string r,.string c,.string d,.string s]] w (a8 w<|.bool<|uR (ai rs) oa ob r c d s):=by
 have HS:=aK hs;have HL:=aK hl;clear hs hl;obtain⟨W0,hW0⟩:=eQx<|w.alloc<|.cells (b9 oa ob r c d s) 29;have hal:ae w W0:=by rw[hW0];exact(XL _ _).alloc (XK _) _
 have HB0:=aK hal;have HC0:O (W0.cell? (aE w)=some (.string oa)/\W0.cell? (a6 w 1)=some (.string ob)/\W0.cell? (a6 w 2)=some (.string r)/\W0.cell? (a6 w 3)=some (.string c)/\W0.cell? (a6 w 4)=some (.string d)/\W0.cell? (a6 w 5)=some (.string s)/\w.heap.size<W0.heap.size):=by
  show _/\_;rw[hW0];refine⟨?_,?_,?_,?_,?_,?_,?_⟩<;>simp
 clear hal;go_enter func141,ntmps141;go_wp2_with fail;rw[<-hW0];clear hW0;refine(jb ad cap rs oa r _ hlen (HS.below HB0) HL).mono ?_;rintro e w1 ⟨⟨rows,YY,capE,rfl,hex,hse,hfr⟩,hw1⟩;replace hw1:=hw1.symm;subst hw1;have HX:O (au rows=aH (ai rs) oa r):=hex;have HSE:=aK hse;have ZH:=hfr.light HL;have hrl:a7 rows:=ZH.1;have HLG:O (∀q∈rows,q.e.light):=ZH.2;clear hex hse hfr ZH;go_wp2_with fail;refine(zm YY capE rows _ hrl HSE).mono ?_;rintro e w1 ⟨⟨adA,capA,rfl,hsa,hfa⟩,hw1⟩;replace hw1:=hw1.symm;subst hw1;obtain⟨xs,hxs⟩:=eQx<|bn<|au rows;rw[<-hxs]at hsa hfa ⊢;have HXS:O (xs=bn (aH (ai rs) oa r)):=by rw[<-HX];exact hxs
 have HSA:=aK hsa;have hxl:a7 xs:=by
  rcases hfa with h|⟨q,hq,h,-⟩
  ·rw[h];simp
  rw[h];exact(HLG q hq).1
 clear hxs hsa hfa HLG HSE HX;go_wp2;go_loopw[6] (fun i wr=>∃k:Nat,k<=xs.length/\i=.int .i64 k/\O (dR xs k ⟨c,s⟩=false)/\O (ae W0 wr)) (fun i _=>xs.length-(intOf i).toNat);case atStart=>exact⟨0,XP _,rfl,uY _ _,XL _ _⟩
 obtain⟨k,hk,rfl,HP,HB⟩:=hrel;have Y9:O (ae w wr):=HB0.trans<|HB.mono HB0.size;by_cases hlt:k<xs.length
 ·rcases HSA.out.below HB.out with hnil|⟨b,off,rfl,hb5,hr5⟩
  ·rw[hnil]at hlt;simp at hlt
  obtain⟨t0,t1⟩:=hr5 k hlt;have hk1:=bG k;have hk2:(k:Int)<(xs.length:Int):=cq;have hwl:cX w wr:=XJ HC0.2.2.2.2.2.2 HB.size;have c0:=aM HB HC0.2.2.2.2.2.2 HC0.1;have c1:=aM HB HC0.2.2.2.2.2.2 HC0.2.1;have c2:=aM HB HC0.2.2.2.2.2.2 HC0.2.2.1;have c3:=aM HB HC0.2.2.2.2.2.2 HC0.2.2.2.1;have c4:=aM HB HC0.2.2.2.2.2.2 HC0.2.2.2.2.1;have c5:=aM HB HC0.2.2.2.2.2.2 HC0.2.2.2.2.2.1;have HSU:O (dR xs (k+1) ⟨c,s⟩=kN xs[k] ⟨c,s⟩):=by show _=_;rw[uX _ _ _ hlt,HP];rfl
  clear hr5;go_wp2_with fail;cases h1:(xs[k].t.toList==c.toList);case false=>
   refine ll 19 _ _ (fun n v _=>v=(Value.slice (some<|ap b off) xs.length capA::.int .i64 k::.pointer (some<|ap b<|off+k*2)::.pointer (some<|ap b<|off+k*2)::.string xs[k].t::.pointer (some<|a6 w 3)::.pointer (some<|a6 w 3)::.string c::.bool false::.bool false::undef::undef::undef::undef::undef::undef::undef::undef::.bool false::[]).getD n undef) (fun w'=>ae wr w') cw rfl cw (H7 [(21,[0,1,2,3,4,5,6,7,8,9,10,11,12,13,14,15,16,17,18])]) (XL _ _).drew ?stepA ?finA<;>dsimp only[Et];case stepA =>
    rintro i hi o ho fq w' hG hpre;have HG:O (ae wr w'):=hG;replace t0:=aM hG hb5 t0;replace t1:=aM hG hb5 t1;replace c3:=aM hG hwl c3;replace c5:=aM hG hwl c5;have HM:O (∀e∈o.after,Region.binds .any e=true->_):=hpre;clear hG hpre;have hc:=MU (i:=i) cq;clear hi
    repeat' rcases hc with rfl|hc
    iterate 19
     ·cases ho;have hm:=HM.out
      try simp[Region.binds]at hm
      refine af rfl fun K HK=>?_;clear HM
      try simp only[hm]
      go_simp;exact HK _ _ ⟨_,by simp[upd, *],HG,rfl,fun k u hu=>hu⟩
   case finA =>
    rintro fq w' hG hall;have e18:fq 18=.bool false:=hall 18 cq;have HG:O (ae wr w'):=hG;clear hall;clear hG;have HB2:O (ae W0 w'):=HB.trans<|HG.mono HB.size;have Zc:O (dR xs (k+1) ⟨c,s⟩=false):=by show _=_;rw[HSU];simp[kN,h1]
    rw[e18];go_wp2;go_roundw;case rel=>exact⟨k+1,cq,cx,Zc,HB2⟩
    simp[intOf]<;>omega
  cases h2:(xs[k].s.toList==s.toList);case false=>
   refine ll 19 _ _ (fun n v _=>v=(Value.slice (some<|ap b off) xs.length capA::.int .i64 k::.pointer (some<|ap b<|off+k*2)::.pointer (some<|ap b<|off+k*2)::.string xs[k].t::.pointer (some<|a6 w 3)::.pointer (some<|a6 w 3)::.string c::.bool true::.bool true::.slice (some<|ap b off) xs.length capA::.int .i64 k::.pointer (some<|ap b<|off+k*2)::.pointer (some<|ap b<|off+k*2+1)::.string xs[k].s::.pointer (some<|a6 w 5)::.string s::.bool false::.bool false::[]).getD n undef) (fun w'=>ae wr w') cw rfl cw (H7 [(21,[0,1,2,3,4,5,6,7,8,9,10,11,12,13,14,15,16,17,18])]) (XL _ _).drew ?zI ?finB<;>dsimp only[Et];case zI =>
    rintro i hi o ho fq w' hG hpre;have HG:O (ae wr w'):=hG;replace t0:=aM hG hb5 t0;replace t1:=aM hG hb5 t1;replace c3:=aM hG hwl c3;replace c5:=aM hG hwl c5;have HM:O (∀e∈o.after,Region.binds .any e=true->_):=hpre;clear hG hpre;have hc:=MU (i:=i) cq;clear hi
    repeat' rcases hc with rfl|hc
    iterate 19
     ·cases ho;have hm:=HM.out
      try simp[Region.binds]at hm
      refine af rfl fun K HK=>?_;clear HM
      try simp only[hm]
      go_simp;exact HK _ _ ⟨_,by simp[upd, *],HG,rfl,fun k u hu=>hu⟩
   case finB =>
    rintro fq w' hG hall;have e18:fq 18=.bool false:=hall 18 cq;have HG:O (ae wr w'):=hG;clear hall;clear hG;have HB2:O (ae W0 w'):=HB.trans<|HG.mono HB.size;have Zc:O (dR xs (k+1) ⟨c,s⟩=false):=by show _=_;rw[HSU];simp[kN,h1,h2]
    rw[e18];go_wp2;go_roundw;case rel=>exact⟨k+1,cq,cx,Zc,HB2⟩
    simp[intOf]<;>omega
  refine ll 19 _ _ (fun n v _=>v=(Value.slice (some<|ap b off) xs.length capA::.int .i64 k::.pointer (some<|ap b<|off+k*2)::.pointer (some<|ap b<|off+k*2)::.string xs[k].t::.pointer (some<|a6 w 3)::.pointer (some<|a6 w 3)::.string c::.bool true::.bool true::.slice (some<|ap b off) xs.length capA::.int .i64 k::.pointer (some<|ap b<|off+k*2)::.pointer (some<|ap b<|off+k*2+1)::.string xs[k].s::.pointer (some<|a6 w 5)::.string s::.bool true::.bool true::[]).getD n undef) (fun w'=>ae wr w') cw rfl cw (H7 [(21,[0,1,2,3,4,5,6,7,8,9,10,11,12,13,14,15,16,17,18])]) (XL _ _).drew ?stepC ?finC<;>dsimp only[Et];case stepC =>
   rintro i hi o ho fq w' hG hpre;have HG:O (ae wr w'):=hG;replace t0:=aM hG hb5 t0;replace t1:=aM hG hb5 t1;replace c3:=aM hG hwl c3;replace c5:=aM hG hwl c5;have HM:O (∀e∈o.after,Region.binds .any e=true->_):=hpre;clear hG hpre;have hc:=MU (i:=i) cq;clear hi
   repeat' rcases hc with rfl|hc
   iterate 19
    ·cases ho;have hm:=HM.out
     try simp[Region.binds]at hm
     refine af rfl fun K HK=>?_;clear HM
     try simp only[hm]
     go_simp;exact HK _ _ ⟨_,by simp[upd, *],HG,rfl,fun k u hu=>hu⟩
  case finC =>
   rintro fq w' hG hall;have e18:fq 18=.bool true:=hall 18 cq;have HG:O (ae wr w'):=hG;clear hall;replace c0:=aM hG hwl c0;replace c1:=aM hG hwl c1;replace c2:=aM hG hwl c2;replace c3:=aM hG hwl c3;replace c4:=aM hG hwl c4;replace c5:=aM hG hwl c5;clear hG;rw[e18];have HN:O (uR (ai rs) oa ob r c d s=cZ oa ob r c d s):=by show _=_;unfold uR;rw[<-HXS,Pp hlt<|by simp[kN,h1,h2]];rfl
   go_wp2_with fail;refine(eH oa ob r c d s _ ha hb hr hc hd hz).mono ?_;rintro e w2 ⟨rfl,hb2⟩;have HB2:O (ae w w2):=Y9.trans<|(HG.mono Y9.size).trans<|hb2.mono<|XR Y9.size HG.size;clear hb2;go_wp2;go_ret;exact⟨by rw[HN];rfl,HB2⟩
 obtain rfl:k=xs.length:=cq;have HN:O (uR (ai rs) oa ob r c d s=false):=by show _=_;unfold uR;rw[<-HXS,HP];rfl
 go_wp2;go_ret;exact⟨by rw[HN];rfl,Y9⟩
end Go.Proofs.YtojjoblnpldniaaGreat
namespace Go.Proofs.YtojjoblnpldniaaGreat
set_option linter.unusedVariables false
set_option maxRecDepth 100000
open ChangeShapes WideShapes ChangeAt RowKit Maps Go.Shelf
open Pl
attribute [local go_sem] Oper.semAt_some
def Mm{n m:Nat}{P:Program}{l:Nat}{f:FuncId}{tmps:Array Value}{assign body:Code}{w:ag}{R:Ending->World->Prop}(h:RoundIn Fence.wide n P l f tmps assign body w R):RoundIn Fence.wide m P l f tmps assign body w R :=
 ⟨h.1,fun c cs _=>h.2 c cs<|room_wide _⟩
def Df(D:Nat)(sn:Int)(Z6:Q02)(nU Zh:Nat)(w:ag):
  Calls prog 202 #[.pointer (some<|am D),.int .i64 sn,.slice Z6 nU Zh] w fun e w'=>e=.returned (.func (.func 269) #[] #[.pointer (some<|am w.heap.size),.pointer<|some<|am<|w.heap.size+1,.pointer<|some<|am<|w.heap.size+1+1])/\w'=((w.alloc<|.cells #[.pointer (some<|am D)] 92).alloc<|.cells #[.int .i64 sn] 2).alloc (.cells #[.slice Z6 nU Zh] 192):=by
 go_enter func202,ntmps202;go_wp2;go_ret;exact⟨rfl,rfl⟩
def Hd(D:Nat)(sn:Int)(Z6:Q02)(nU Zh:Nat)(bK:Nat)(w:ag):
  Calls prog 135 #[.pointer (some<|am D),.int .i64 sn,.slice Z6 nU Zh,.map<|some bK] w fun e w'=>e=.returned (.func (.func 201) #[] #[.pointer (some<|am w.heap.size),.pointer<|some<|am<|w.heap.size+1,.pointer<|some<|am<|w.heap.size+1+1,.pointer<|some<|am<|w.heap.size+1+1+1])/\w'=(((w.alloc<|.cells #[.pointer (some<|am D)] 92).alloc<|.cells #[.int .i64 sn] 2).alloc<|.cells #[.slice Z6 nU Zh] 192).alloc (.cells #[.map (some bK)] 115):=by
 go_enter func135,ntmps135;go_wp2;go_ret;exact⟨rfl,rfl⟩
structure NewM(W:World)(rs:Q06)(Zp:Q02)(D br bp bt:Nat)(n1:Int)(nr:Nat)(Mr:KL->Option Value)(Er:List<|KL×RR)(ts:Q05)(xo xu:Q0a)(np:Nat)(Mp:K3->Option Value)(vo vu:Value)(bK:Nat)(out:Q04)(hD hS hU hK:Nat)(sn:Int)(Z6:Q02)(Zh:Nat)(us:Q0a):Prop where
 dat:DatA W rs D br bp bt n1 nr Mr Er (bB ts) xo xu np Mp vo vu
 sch:kI W Zp rs
 map:∃nK,aL dM prog 52 W bK nK (vV out)
 bD:W.cell? ⟨hD,0,none⟩=some (.pointer<|some ⟨D,0,none⟩)
 bS:W.cell? ⟨hS,0,none⟩=some (.int .i64 sn)
 bU:W.cell? ⟨hU,0,none⟩=some (.slice Z6 us.length Zh)
 bM:W.cell? ⟨hK,0,none⟩=some (.map<|some bK)
 users:mJ W Z6 us
def Wo(l:Nat):Value:=.func (.yield l) #[] #[]
def dE(W:World)(g:Nat)(v:Value)(T:TypeId):Prop:=W.heap[g]?=some (.cells #[v] T (0,0))
def dE.c{W:ag}{g:Nat}{v:Value}{T:TypeId}(h:dE W g v T):W.cell? (am g)=some v:=by
 unfold dE at h;simp[World.cell?,h]
def dE.kp{b l:Nat}{W W':ag}{g:Nat}{v:Value}{T:TypeId}(h:dE W g v T)(hk:KpO b l W W')(h1:T≠52)(h2:T≠44):dE W' g v T:=hk.cells g _ _ _ h h1 h2
def dE.bel{W W':ag}{g:Nat}{v:Value}{T:TypeId}(h:dE W g v T)(hb:ae W W'):dE W' g v T:=(hb.block g (XO.1 h).1).trans h
structure NBx(W:World)(B l D:Nat)(sn:Int)(vU:Value):Prop where
 y:dE W B (Wo l) 119
 d:dE W (B+1) (.pointer<|some ⟨D,0,none⟩) 92
 s:dE W (B+1+1) (.int .i64 sn) 2
 u:dE W (B+1+1+1) vU 192
def NBx.kp{b l0:Nat}{W W':ag}{B l D:Nat}{sn:Int}{vU:Value}(h:NBx W B l D sn vU)(hk:KpO b l0 W W'):NBx W' B l D sn vU :=
 ⟨h.y.kp hk cv cv,h.d.kp hk cv cv,h.s.kp hk cv cv,h.u.kp hk cv cv⟩
def NBx.bel{W W':ag}{B l D:Nat}{sn:Int}{vU:Value}(h:NBx W B l D sn vU)(hb:ae W W'):NBx W' B l D sn vU:=⟨h.y.bel hb,h.d.bel hb,h.s.bel hb,h.u.bel hb⟩
def UM{β:Type}{B0 B l D:Nat}{sn:Int}{vU:Value}(hB:B+1+1+1<B0):OwnFrom B0 (fun(_:β) W=>NBx W B l D sn vU):=fun s X Y row hs hg hr=>by
 have key:∀g v T,g<B0->dE X g v T->dE Y g v T:=fun g v T hl h=>(hg.block g (XO.1 h).1 fun e=>by have:=(hr g e.symm).1;omega).trans h;exact⟨key _ _ _ cq hs.y,key _ _ _ cq hs.d,key _ _ _ cq hs.s,key _ _ _ cq hs.u⟩
def kC(W:World)(g:Nat)(x:Fc):Prop:=W.heap[g]?=some (.cells #[.string x.a,.string x.b,.string x.r,.string x.c,.string x.d] 52 (0,0))
def kC.c{W:ag}{g:Nat}{x:Fc}(h:kC W g x):W.cell? (am g)=some (.string x.a)/\W.cell? (ap g 1)=some (.string x.b)/\W.cell? (ap g 2)=some (.string x.r)/\W.cell? (ap g 3)=some (.string x.c)/\W.cell? (ap g 4)=some (.string x.d)/\g<W.heap.size:=by
 have hl:=(XO.1 h).1;unfold kC at h;exact⟨by simp[World.cell?,h],by simp[World.cell?,h],by simp[World.cell?,h],by simp[World.cell?,h],by simp[World.cell?,h],hl⟩
def kC.bel{W W':ag}{g:Nat}{x:Fc}(h:kC W g x)(hb:ae W W'):kC W' g x:=(hb.block g (XO.1 h).1).trans h
def Dg{B0 g:Nat}{x:Fc}:OwnFrom B0 (fun(_:Unit) W=>kC W g x):=fun s X Y row hs hg hr=>by
 refine(hg.block g (XO.1 hs).1 fun e=>?_).trans hs;obtain⟨-,o,ho,hc⟩:=hr g e.symm;rw[show X.heap[g]?=_ from hs]at ho;cases ho;cases hc
def Sz{l' m:Nat}{P:Program}{f:FuncId}{args:Array Value}{w:ag}{R:Ending->World->Prop}(h:Calls P f args w R):CallsIn (Fence.wide.inRound l') m P f args w R:=(callsIn_wide (n:=m)).2 h
def Wp{l' n m:Nat}{P:Program}{l:Nat}{f:FuncId}{tmps:Array Value}{assign body:Code}{w:ag}{R:Ending->World->Prop}(h:RoundIn Fence.wide n P l f tmps assign body w R):RoundIn (Fence.wide.inRound l') m P l f tmps assign body w R:=Mm (m:=m) h
def zQ{B:Nat}{W W':ag}(h:ae W W'):KeepsFrom B W W':=⟨h.size,fun k o _ hk _=>(h.block k (XO.1 hk).1).trans hk⟩
def SA{B b l:Nat}{W W':ag}(h:KpO b l W W')(hl:l<B)(hb:b<B):KeepsFrom B W W':=⟨h.size,fun k o hB hk hc=>h.other k o hk hc cq cq⟩
def JG{rs:Q06}{st:Q00}{xo us:Q0a}{sn:Int}{x:Fc}(hof:∀o∈xo,o.t.size<=maxLen/\o.s.size<=maxLen)(huf:∀o∈us,o.t.size<=maxLen/\o.s.size<=maxLen)(hrf:∀k∈ay (ai rs),k.2.size<=maxLen)(h:x∈di (ai rs) st xo us sn):(x.a,x.r)∈ay (ai rs)/\x.fits:=by
 unfold di yN at h;obtain⟨o,ho,h⟩:=XZ.1 h;obtain⟨k,hk,h⟩:=XZ.1 h;obtain⟨u,hu,rfl⟩:=XW.1 h;obtain⟨h1,h2⟩:=YL.1 hk;rw[XN,fT]at h2;have e:(o.t,k.2)=k:=Prod.ext h2.1.symm rfl;refine⟨?_,(hof o ho).1,(hof o ho).2,hrf k h1,(huf u hu).1,(huf u hu).2⟩;show(o.t,k.2)∈_;rw[e];exact h1
def Pq[DecidableEq Fc](n:Nat)(hn:4<=n)(rs:Q06)(Zp:Q02)(D br bp bt:Nat)(n1:Int)(nr:Nat)(Mr:KL->Option Value)(st:Q00)(ts:Q05)(adO:Q02)(capO:Nat)(xo xu:Q0a)(np:Nat)(Mp:K3->Option Value)(vu:Value)(bK:Nat)(out0:Q04)(hD hS hU hK:Nat)(sn:Int)(Z6:Q02)(Zh:Nat)(us:Q0a)(w0:ag)(hs0:0<=sn)(hs1:sn<=1000)(hol:xo.length<=1000)(hul:us.length<=1000)(hrl:∀k,(G.lookL (dP st rs) k).length<=1000)(hsh:bz (ai rs)=true)(hts:∀t∈ts,t.fits)(htl:ts.length<=1000)(hof:∀o∈xo,o.t.size<=maxLen/\o.s.size<=maxLen)(huf:∀o∈us,o.t.size<=maxLen/\o.s.size<=maxLen)(hrf:∀k∈ay (ai rs),k.2.size<=maxLen):
  AO Fence.wide n prog 201 #[.pointer (some<|am hD),.pointer<|some<|am hS,.pointer<|some<|am hU,.pointer<|some<|am hK] FJ (KpO bK) (fun pre W=>NewM W rs Zp D br bp bt n1 nr Mr (dP st rs) ts xo xu np Mp (.slice adO xo.length capO) vu bK (out0++pre) hD hS hU hK sn Z6 Zh us) (fun pre x=>x∈di (ai rs) st xo us sn/\x ∉ out0++pre) (fun xs=>dh (iC (ai rs) ts) (di (ai rs) st xo us sn) out0=out0++xs) w0:=by
 intro l J W _ hlW _ hJ hT hY h0;have hM:=hT _ _ h0;obtain⟨nK0,hmap0⟩:=hM.map;have hbK:=hmap0.lt;have bD:=hM.bD;have bS:=hM.bS;have bU:=hM.bU;have lD:=ax bD;have lS:=ax bS;have lU:=ax bU;obtain⟨W1,hW1⟩:=eQx<|W.alloc<|.cells #[.func (.yield l) #[] #[]] 119;have hB1:ae W W1:=by rw[hW1];exact(XL _ _).alloc (XK _) _
 have s1:W1.heap.size=W.heap.size+1:=by rw[hW1,World.size_alloc]
 have y1:dE W1 W.heap.size (Wo l) 119:=by rw[hW1];exact World.alloc_heap_new W _
 have bD1:=az hB1 lD bD;have bS1:=az hB1 lS bS;have bU1:=az hB1 lU bU;clear hM hmap0;refine callsIn_of_wp_marks func201 rfl trivial ?_ rfl;simp only[ntmps201,List.size_toArray,Yh,YO,Nat.reduceAdd,Nat.reduceSub,Array.replicate_succ,Array.replicate_zero,List.push_toArray,List.append_toArray,YI,Yz]
 gi_wp2_with fail
 rw[<-hW1];clear hW1;refine⟨trivial,fun _=>cq,(callsIn_wide.2<|Df D sn Z6 us.length Zh W1).mono ?_⟩;rintro e W2 ⟨rfl,hW2⟩;have hB2:ae W1 W2:=by rw[hW2];exact(((XL _ _).alloc (XK _) _).alloc ct _).alloc (by simp;omega) _
 have s2:W2.heap.size=W.heap.size+1+1+1+1:=by rw[hW2,World.size_alloc,World.size_alloc,World.size_alloc,s1]
 have NB:NBx W2 W.heap.size l D sn (.slice Z6 us.length Zh):=by
  obtain⟨V1,e1⟩:∃V,V=W1.alloc (.cells #[.pointer (some<|am D)] 92):=⟨_,rfl⟩;obtain⟨V2,e2⟩:∃V,V=V1.alloc (.cells #[.int .i64 sn] 2):=⟨_,rfl⟩;rw[<-e1,<-e2]at hW2;have t1:V1.heap.size=W.heap.size+1+1:=by rw[e1,World.size_alloc,s1]
  have t2:V2.heap.size=W.heap.size+1+1+1:=by rw[e2,World.size_alloc,t1]
  have f1:ae W1 V1:=by rw[e1];exact(XL _ _).alloc (XK _) _
  have f2:ae V1 V2:=by rw[e2];exact(XL _ _).alloc (XK _) _
  have f3:ae V2 W2:=by rw[hW2];exact(XL _ _).alloc (XK _) _
  have g1:dE V1 (W.heap.size+1) (.pointer<|some<|am D) 92:=by rw[e1,<-s1];exact World.alloc_heap_new W1 _
  have g2:dE V2 (W.heap.size+1+1) (.int .i64 sn) 2:=by rw[e2,<-t1];exact World.alloc_heap_new V1 _
  have g3:dE W2 (W.heap.size+1+1+1) (.slice Z6 us.length Zh) 192:=by rw[hW2,<-t2];exact World.alloc_heap_new V2 _
  exact⟨((y1.bel f1).bel f2).bel f3,(g1.bel f2).bel f3,g2.bel f3,g3⟩
 have hB02:ae W W2:=hB1.trans<|hB2.mono hB1.size;have J2:=oC hJ h0 hB02;rw[s1];clear hW2 y1 bD bS bU bD1 bS1 bU1 hB1 hB2 lD lS lU;gi_wp2
 refine nG (α:=Fc) rfl cq (gf:=269) (lb:=#[.pointer (some<|am<|W.heap.size+1),.pointer<|some<|am<|W.heap.size+1+1,.pointer<|some<|am<|W.heap.size+1+1+1]) rfl trivial (enters_of func269 cw rfl)
  (RJ (n-1) cq D br nr Mr st rs adO capO xo (W.heap.size+1) (W.heap.size+1+1) (W.heap.size+1+1+1) sn Z6 Zh us W2 hs0 hs1 hol hul hrl fun o ho=>(hof o ho).1) (XL _ _) (fun _=>rfl) (fun h k=>h.trans k) (fun X lx o o' h1 h2=>KpI.put h1 h2)
  (fun pre X=>(∃xs,dh (iC (ai rs) ts) pre out0=out0++xs/\J xs X)/\NBx X W.heap.size l D sn (.slice Z6 us.length Zh))
  ?own ?tell ⟨⟨[],by rw[YB];rfl,J2⟩,NB⟩
  (fun x a' X=>∃Bx,kC X Bx x/\a'={ tmps:=#[.func (.yield l) #[] #[],.pointer<|some<|am hD,.pointer<|some<|am hS,.pointer<|some<|am hU,.pointer<|some<|am hK,.pointer<|some<|aE W,.pointer<|some<|am Bx,.pointer<|some<|am D,.int .i64 sn,.slice Z6 us.length Zh,.func (.func 269) #[] #[.pointer (some<|am<|W.heap.size+1),.pointer<|some<|am<|W.heap.size+1+1,.pointer<|some<|am<|W.heap.size+1+1+1],.agg<|cf x,undef,undef,undef,undef,undef,undef,undef,undef,undef,undef,undef,undef,undef,undef,undef,undef],defers:=[] })
  (fun x a' s X Y row hs hg hr=>by obtain⟨Bx,h,e⟩:=hs;exact⟨Bx,Dg (B0:=W2.heap.size) (g:=Bx) (x:=x) () X Y row h hg hr,e⟩) ?assign ?body ?done
 case own =>
  refine OwnFrom.and (fun pre X Y row hs hg hr=>?_) (UM cq);obtain⟨xs,h1,h2⟩:=hs;exact⟨xs,h1,hJ xs X Y row h2 hg fun r e=>⟨by have:=(hr r e).1;have:=hB02.size;omega,(hr r e).2⟩⟩
 case tell =>
  rintro pre X ⟨⟨xs,h1,h2⟩,hb⟩;have hm:=hT _ _ h2;obtain⟨Y8,cap',e,hso⟩:=nI hm.dat.dat.objs;injection e with ea eb ec;exact⟨hm.dat.dat.c2,hm.dat.dat.c4,by rw[ea];exact hso,hm.dat.rel,hb.d.c,hb.s.c,hb.u.c,hm.users⟩
 case assign =>
  rintro l' pre x X K ⟨⟨xs,h1,h2⟩,hb⟩ hKK;unfold FJ;gi_wp2;have hbl:ae X (X.alloc<|.cells (cf x) 52):=(XL _ _).alloc (XK _) _;exact hKK _ _ ((KeepsOthers.alloc _ _).from _) (KpI.below hbl) ⟨⟨xs,h1,oC hJ h2 hbl⟩,hb.bel hbl⟩ ⟨X.heap.size,World.alloc_heap_new X _,rfl⟩
 case body =>
  rintro l' pre x a' X hl hEx ⟨⟨xs,hrun,hJx⟩,NBX⟩ ⟨Bx,bX,rfl⟩;have hm:=hT _ _ hJx;obtain⟨nK,hmap⟩:=hm.map;obtain⟨c0,c1,c2,c3,c4,cl⟩:=bX.c;have bM:=hm.bM;have lM:=ax bM;obtain⟨hkey,hxf⟩:=JG hof huf hrf hEx
  gi_wp2_with fail
  refine⟨trivial,fun _=>cq,(Sz<|sw bK nK (out0++xs) x X hxf hmap).mono ?_⟩;rintro e X2 ⟨rfl,hb2⟩;have J2':=oC hJ hJx hb2;have NB2:=NBX.bel hb2;cases hh:aR (out0++xs) x;case true=>
   have hr2:dh (iC (ai rs) ts) (pre++[x]) out0=out0++xs:=by rw[ug,hrun,xI<|.inl hh]
   clear c0 c1 c2 c3 c4 cl bM lM hm;gi_wp2;refine⟨trivial,?_⟩;gi_wp2;refine⟨fun f h=>(by cases h),?_⟩;gi_wp2;exact⟨zQ hb2,KpI.below hb2,⟨xs,hr2,J2'⟩,NB2⟩
  have bX2:=bX.bel hb2;have hm2:=hT _ _ J2';obtain⟨nK2,hmap2⟩:=hm2.map;have bM2:=hm2.bM;have bD2:=hm2.bD;obtain⟨d0,d1,d2,d3,d4,dl⟩:=bX2.c;clear c0 c1 c2 c3 c4 cl bM lM hm
  gi_wp2_with fail
  refine⟨trivial,fun _=>cq,(Sz<|OX hm2.dat hmap2 hxf hts htl hsh hkey hm2.sch).mono ?_⟩;rintro e X3 ⟨rfl,hb3⟩;have hb23:ae X X3:=hb2.trans<|hb3.mono hb2.size;have J3':=oC hJ J2' hb3;have NB3:=NB2.bel hb3;clear hm2;cases hv:iC (ai rs) ts (out0++xs) x;case false=>
   have hr2:dh (iC (ai rs) ts) (pre++[x]) out0=out0++xs:=by rw[ug,hrun,xI<|.inr hv]
   clear d0 d1 d2 d3 d4 dl bM2 bD2;gi_wp2;refine⟨fun f h=>(by cases h),?_⟩;gi_wp2;exact⟨zQ hb23,KpI.below hb23,⟨xs,hr2,J3'⟩,NB3⟩
  have hr2:dh (iC (ai rs) ts) (pre++[x]) out0=out0++(xs++[x]):=by rw[ug,hrun,FE hh hv,Ye]
  obtain⟨fn,tmps,assign,body,hy,hR⟩:=hY xs x X3 J3' ⟨hEx,fun hm=>by rw[aU.2 hm]at hh;cases hh⟩;unfold FJ at hy;obtain⟨f0,f1,f2,f3,f4,fl⟩:=(bX2.bel hb3).c;have yc:=NB3.y.c;have yl:=ax yc;unfold Wo at yc;clear d0 d1 d2 d3 d4 dl bM2 bD2;gi_wp2;refine⟨fun _=>cq,(Wp hR).mono ?_⟩;rintro e X4 ⟨rfl,hJ4,hK4⟩;have hk24:KpO bK l X X4:=(KpO.below hb23).trans hK4;have NB4:=NB3.kp hK4;clear f0 f1 f2 f3 f4 fl yc yl hy;gi_wp2;exact⟨SA hk24 cq cq,hk24.toI,⟨xs++[x],hr2,hJ4⟩,NB4⟩
 case done =>
  rintro Dd ys X hDd hS ⟨⟨xs,h1,h2⟩,-⟩ hKd;rw[hS]at h1;gi_wp2;refine⟨ct,.inl ⟨_,_,rfl,run_takeDeferred hKd,?_⟩⟩;exact⟨_,results_none rfl _ _ _,⟨_,rfl⟩,xs,h1,hJ.putObj _ h2 (by have:=hB02.size;omega) hKd rfl⟩
end Go.Proofs.YtojjoblnpldniaaGreat
namespace Go.Proofs.YtojjoblnpldniaaGreat
set_option linter.unusedVariables false
set_option maxRecDepth 100000
open ChangeShapes WideShapes ChangeAt RowKit Maps Go.Shelf
open Pl
def l8{K:Type}{enc:K->Value}{P:Program}{F:Fence}{nF:Nat}(w:ag){ops:Array Oper}{rest:List Oper}{o:Oper}{a:Act}{Q:Exit->Act->World->Prop}[DecidableEq K](hg:o.guard=none)(m x v:Operand)(t:TypeId)(hop:o.op=Op.mapUpdate t m x v)(k e:TypeId)(L:Keyed P k)(hinj:∀x y,enc x=enc y->x=y)(ht:P.underlying t=some (.map k e))(b n:Nat)(M:K->Option Value)
  (hm:a.eval m=.map (some b)) (hV:aL enc P k w b n M) (hn:n<maxLen) (y:K) (kl:Lit) (hx:a.eval x=enc y) (hkey:keyOf P k (enc y)=some kl) (u:Value) (hv:a.eval v=u)
  (hK:∀w',aL enc P k w' b (n+1) (iw M y<|some u)->w.grownBy w' (some b)->wpListIn F nF P ops Q rest (a.put o.dst undef) w'):wpListIn F nF P ops Q (o::rest) a w:=by
 refine wpListIn_plain hg fun K' hK'=>?_;obtain⟨w',hrun,r1,r2⟩:=hV.store L hinj ht hn hkey u;unfold Oper.wpIn;refine⟨by simp[Oper.about,hop],?_⟩;rw[Oper.semAt_plain F _ _ (by rw[hop];intro c hc';cases hc')];simp[execOp,hop,hm,hx,hv,hrun,Result.andThen];exact hK' _ _<|hK w' r1 r2
def He[DecidableEq Fc](out:Q04)(f:Fc):iw (vV out) f (some<|.agg #[])=vV (out++[f]):=by
 funext y
 by_cases e:y=f
 ·subst e;rw[dH];unfold vV;rw[if_pos (aU.2 ct)]
 rw[bP e];unfold vV;have:aR (out++[f]) y=aR out y:=by
  rw[X9,aU,aU];simp[e]
 rw[this]
def marks(rl:List Nat):List Deferred:=rl.map fun r=>{ target:=.collected r,args:=#[] }
def jF(W:World)(rl:List Nat):Prop:=rl.Nodup/\∀r∈rl,W.heap[r]?=some (.deferred<|some [])
def jF.kp{b l:Nat}{W W':ag}{rl:List Nat}(h:jF W rl)(hk:KpO b l W W')(hl:l ∉ rl)(hb:b ∉ rl):jF W' rl :=
 ⟨h.1,fun r hr=>hk.other r _ (h.2 r hr) rfl (fun e=>hl<|e ▸ hr) (fun e=>hb<|e ▸ hr)⟩
def jF.bel{W W':ag}{rl:List Nat}(h:jF W rl)(hb:ae W W'):jF W' rl :=
 ⟨h.1,fun r hr=>(hb.block r (XO.1<|h.2 r hr).1).trans<|h.2 r hr⟩
def jF.lt{W:ag}{rl:List Nat}(h:jF W rl){r:Nat}(hr:r∈rl):r<W.heap.size:=(XO.1<|h.2 r hr).1
def qP{n:Nat}{P:Program}{fn:Func}{tmps:Array Value}{R:Ending->World->Prop}(B:Nat)(Inv:World->Prop)(hinv:∀W r,B<r->Inv W->W.heap[r]?=some (.deferred<|some [])->Inv (W.putObj r<|.deferred none))(hend:∀W,Inv W->LeavesIn Fence.wide n P fn tmps R [] .returning W):∀(rl:List Nat) (W:ag),jF W rl->(∀r∈rl,B<r)->Inv W->LeavesInM Fence.wide n P fn tmps R (marks rl) .returning W
 | [],W,_,_,hI=>hend W hI
 | r::rl,W,hm,hB,hI=>by
  have hr:=hm.2 r ct;obtain⟨h1,h2⟩:=List.nodup_cons.1 hm.1;refine⟨ct,.inl ⟨r,_,rfl,run_takeDeferred hr,qP B Inv hinv hend rl _ ⟨h2,fun q hq=>?_⟩ (fun q hq=>hB q<|by simp[hq]) (hinv W r (hB r ct) hI hr)⟩⟩;have hne:q≠r:=fun e=>h1<|e ▸ hq;rw[mP hne];exact hm.2 q (by simp[hq])
def Nt{b l:Nat}{W W':ag}{base size n:Nat}{T:TypeId}{v:Value}{xs:Q03}(h:W.ownsRow base T size v n xs)(hk:KpO b l W W')(h1:T≠52)(h2:T≠44):W'.ownsRow base T size v n xs :=
 bY h fun g hg=>by
  obtain⟨cur,e⟩:=fG h hg;rw[hk.cells g _ _ _ e h1 h2,e]
structure FBx(W:World)(B D:Nat)(sn:Int)(vU:Value)(bK:Nat):Prop where
 d:dE W B (.pointer<|some ⟨D,0,none⟩) 92
 s:dE W (B+1) (.int .i64 sn) 2
 u:dE W (B+1+1) vU 192
 k:dE W (B+1+1+1) (.map<|some bK) 115
def FBx.kp{b l0:Nat}{W W':ag}{B D:Nat}{sn:Int}{vU:Value}{bK:Nat}(h:FBx W B D sn vU bK)(hk:KpO b l0 W W'):FBx W' B D sn vU bK :=
 ⟨h.d.kp hk cv cv,h.s.kp hk cv cv,h.u.kp hk cv cv,h.k.kp hk cv cv⟩
def UN(w:ag)(D:Nat)(sn:Int)(vU:Value)(bK:Nat){W:ag}(hW:W=(((w.alloc<|.cells #[.pointer (some<|am D)] 92).alloc<|.cells #[.int .i64 sn] 2).alloc<|.cells #[vU] 192).alloc (.cells #[.map (some bK)] 115)):FBx W w.heap.size D sn vU bK/\ae w W/\W.heap.size=w.heap.size+1+1+1+1:=by
 obtain⟨V1,e1⟩:∃V,V=w.alloc (.cells #[.pointer (some<|am D)] 92):=⟨_,rfl⟩;obtain⟨V2,e2⟩:∃V,V=V1.alloc (.cells #[.int .i64 sn] 2):=⟨_,rfl⟩;obtain⟨V3,e3⟩:∃V,V=V2.alloc (.cells #[vU] 192):=⟨_,rfl⟩;rw[<-e1,<-e2,<-e3]at hW;have t1:V1.heap.size=w.heap.size+1:=by rw[e1,World.size_alloc]
 have t2:V2.heap.size=w.heap.size+1+1:=by rw[e2,World.size_alloc,t1]
 have t3:V3.heap.size=w.heap.size+1+1+1:=by rw[e3,World.size_alloc,t2]
 have f1:ae w V1:=by rw[e1];exact(XL _ _).alloc (XK _) _
 have f2:ae V1 V2:=by rw[e2];exact(XL _ _).alloc (XK _) _
 have f3:ae V2 V3:=by rw[e3];exact(XL _ _).alloc (XK _) _
 have f4:ae V3 W:=by rw[hW];exact(XL _ _).alloc (XK _) _
 have g1:dE V1 w.heap.size (.pointer<|some<|am D) 92:=by rw[e1];exact World.alloc_heap_new w _
 have g2:dE V2 (w.heap.size+1) (.int .i64 sn) 2:=by rw[e2,<-t1];exact World.alloc_heap_new V1 _
 have g3:dE V3 (w.heap.size+1+1) vU 192:=by rw[e3,<-t2];exact World.alloc_heap_new V2 _
 have g4:dE W (w.heap.size+1+1+1) (.map<|some bK) 115:=by rw[hW,<-t3];exact World.alloc_heap_new V3 _
 have f12:=f1.trans<|f2.mono f1.size;have f13:=f12.trans<|f3.mono f12.size;exact⟨⟨((g1.bel f2).bel f3).bel f4,(g2.bel f3).bel f4,g3.bel f4,g4⟩,f13.trans<|f4.mono f13.size,by rw[hW,World.size_alloc,t3]⟩
def UO{β:Type}{b l:Nat}{X:ag}:OwnFrom X.heap.size (fun(_:β) Y=>KpO b l X Y):=fun s Y Z row hs hg hr=>by
 have key:∀ (g:Nat) (o:Obj),X.heap[g]?=some o->Y.heap[g]?=some o->Z.heap[g]?=some o:=fun g o h1 h2=>(hg.block g (XO.1 h2).1 fun e=>by
  have h3:=(hr g e.symm).1;have h4:=(XO.1 h1).1;omega).trans h2
 exact⟨XR hs.size hg.size,fun g cs T m h h1 h2=>key g _ h<|hs.cells g cs T m h h1 h2,fun g o h hc n1 n2=>key g _ h<|hs.other g o h hc n1 n2⟩
structure FoW(w X:World)(v:Value)(out:Q04):Prop where
 bel:ae w X
 box:dE X w.heap.size v 44
 row:X.ownsRow (w.heap.size+1) 52 5 v out.length (av out)
 map:aL dM prog 52 X (w.heap.size+1) out.length (vV out)
def FoW.below{w X X':ag}{v:Value}{out:Q04}(h:FoW w X v out)(hb:ae X X'):FoW w X' v out :=
 ⟨h.bel.trans<|hb.mono h.bel.size,h.box.bel hb,aP h.row hb,h.map.below hb⟩
def FoW.kept{w X X':ag}{v:Value}{out:Q04}(h:FoW w X v out){row:Option Nat}(hg:X.grownBy X' row)(hr:∀r,row=some r->w.heap.size+1<r/\(∃o,X.heap[r]?=some o/\o.isCells=false)):FoW w X' v out where
 bel:=h.bel.grown hg h.bel.size (fun g e=>by have:=(hr g e).1;omega)
 box:=(hg.block _ (XO.1 h.box).1 fun e=>by have:=(hr _ e.symm).1;omega).trans h.box
 row:=bY h.row fun g hg2=>hg.block g (h.row.lt g hg2).2 fun e=>by
  obtain⟨-,o,ho,hc⟩:=hr g e.symm;obtain⟨cur,e2⟩:=fG h.row hg2;rw[e2]at ho;cases ho;cases hc
 map:=h.map.kept hg (fun e=>by have:=(hr _ e.symm).1;omega)
def FoW.step{w X Y V:ag}{v v':Value}{out:Q04}{f:Fc}[DecidableEq Fc](h:FoW w X v out)(hM:aL dM prog 52 Y (w.heap.size+1) (out.length+1)<|iw (vV out) f<|some<|.agg #[])(hg1:X.grownBy Y<|some<|w.heap.size+1)
  {Y':World} (hY':ae Y Y') (hown:V.ownsRow (w.heap.size+1) 52 5 v' (out.length+1)<|av out++f.row) (hg2:Y'.grownBy V v.ownBlock) (hat:v'.ownBlock=v.ownBlock\/v'.ownBlock=some Y'.heap.size) (l:Nat) :
  FoW w (V.setCell (am w.heap.size) v') v' (out++[f])/\KpO (w.heap.size+1) l X (V.setCell (am w.heap.size) v')/\KeepsFrom (w.heap.size+1+1) X (V.setCell (am w.heap.size) v'):=by
 obtain⟨es,c,hmb⟩:=fC h.map;have hlB:cX w X:=(XO.1 h.box).1;have hvB:v.ownBlock≠some w.heap.size:=fun e=>by have:=(h.row.lt _ e).1;omega
 have hvM:v.ownBlock≠some (w.heap.size+1):=fun e=>GJ h.row e hmb;have key:∀(g:Nat) (o:Obj),X.heap[g]?=some o->g≠w.heap.size+1->g≠w.heap.size->v.ownBlock≠some g->(V.setCell (aE w) v').heap[g]?=some o:=fun g o hg n1 n2 n3=>by
  have hl:=(XO.1 hg).1;have y1:Y.heap[g]?=some o:=(hg1.block g hl fun e=>n1<|by injection e).trans hg;have hl1:=(XO.1 y1).1;have y2:Y'.heap[g]?=some o:=(hY'.block g hl1).trans y1;have hl2:=(XO.1 y2).1;have y3:V.heap[g]?=some o:=(hg2.block g hl2 fun e=>n3 e.symm).trans y2;exact(heap_setCell_other V ⟨w.heap.size,0,none⟩ g v' n2).trans y3
 have hVB:V.heap[w.heap.size]?=some (.cells #[v] 44 (0,0)):=by
  have y1:Y.heap[w.heap.size]?=_:=(hg1.block _ hlB fun e=>by injection e with e;omega).trans h.box;have y2:Y'.heap[w.heap.size]?=_:=(hY'.block _ (XO.1 y1).1).trans y1;exact(hg2.block _ (XO.1 y2).1 fun e=>hvB e.symm).trans y2
 have b1:ae w Y:=h.bel.grown hg1 h.bel.size (fun g e=>by injection e with e;omega);have b2:ae w Y':=b1.trans<|hY'.mono b1.size;have b3:ae w V:=b2.grown hg2 b2.size (fun g e=>by have:=(h.row.lt g e).1;omega);have sz:X.heap.size<=(V.setCell (aE w) v').heap.size:=by
  have e1:=hg1.size;have e2:=hY'.size;have e3:=hg2.size;simp;omega
 refine⟨⟨b3.setCell (XK _) _,?_,?_,?_⟩,⟨sz,fun g cs T m hg h1 h2=>?_,fun g o hg hc n1 n2=>?_⟩,⟨sz,fun g o hB hg hc=>?_⟩⟩
 ·have:=heap_setCell_same V w.heap.size 0 #[v] _ v' hVB;unfold dE;simpa using this
 ·rw[kX,XT];exact bY hown fun g hg=>heap_setCell_other V ⟨w.heap.size,0,none⟩ g v' (fun(e:g=w.heap.size)=>by have:=(hown.lt g hg).1;omega)
 ·rw[XT,<-He];exact((hM.below hY').kept hg2 fun e=>hvM e.symm).setCell (by show w.heap.size+1≠w.heap.size;omega) _
 ·refine key g _ hg (fun e=>?_) (fun e=>?_) (fun e=>?_)
  ·rw[e,hmb]at hg;cases hg
  ·rw[e,h.box]at hg;injection hg with hg;injection hg with _ hT;exact h2 hT.symm
  obtain⟨cur,e2⟩:=fG h.row e;rw[e2]at hg;injection hg with hg;injection hg with _ hT;exact h1 hT.symm
 ·refine key g _ hg n2 (fun e=>?_) (fun e=>?_)
  ·rw[e,h.box]at hg;injection hg with hg;subst hg;cases hc
  obtain⟨cur,e2⟩:=fG h.row e;rw[e2]at hg;injection hg with hg;subst hg;cases hc
 refine key g _ hg cq cq fun e=>?_;obtain⟨cur,e2⟩:=fG h.row e;rw[e2]at hg;injection hg with hg;subst hg;cases hc
def jX.dropF{w:ag}{ad:Q02}{fs:Q04}(h:jX w ad fs)(k:Nat):jX w (Option.map (fun x=>Addr.add x<|k*5) ad) (fs.drop k):=by
 rcases h with h|⟨b,off,e,hb,hr⟩
 ·exact .inl (by rw[h];simp)
 have ea:Option.map (fun x=>Addr.add x<|k*5) ad=some (ap b<|off+k*5):=by
  rw[e];simp[Addr.add]
 refine .inr ⟨b,off+k*5,ea,hb,fun i hi=>?_⟩;have hi2:k+i<fs.length:=by rw[YD]at hi;omega
 have h1:=hr (k+i) hi2;have e2:(fs.drop k)[i]=fs[k+i]:=ct;rw[e2];have e3:off+k*5+i*5=off+(k+i)*5:=cq;rw[e3];exact h1
def Nu{w:ag}{base size n cap:Nat}{T:TypeId}{ad:Q02}{xs:Q03}(h:w.ownsRow base T size (.slice ad n cap) n xs):n<=cap:=by
 rcases h.2 with⟨e,h0⟩|⟨g,cap',cur,e,h1,h2,h3,h4,h5,-⟩
 ·omega
 injection e with _ _ e3;omega
def SB{Y Y1 Y2 V:ag}{B:Nat}{v:Value}{T:TypeId}(h:dE Y B v T)(hg1:Y.grownBy Y1<|some<|B+1)(hY2:ae Y1 Y2)(hg2:Y2.grownBy V v.ownBlock)(hv:v.ownBlock≠some B):dE V B v T:=by
 have y1:Y1.heap[B]?=_:=(hg1.block _ (XO.1 h).1 fun e=>by injection e with e;omega).trans h;have y2:Y2.heap[B]?=_:=(hY2.block _ (XO.1 y1).1).trans y1;exact(hg2.block _ (XO.1 y2).1 fun e=>hv e.symm).trans y2
def SC{B B':Nat}{W W':ag}(h:KeepsFrom B W W')(hB:B<=B'):KeepsFrom B' W W':=⟨h.size,fun k o hk h1 h2=>h.same k o (XR hB hk) h1 h2⟩
def KpO.after{b l l':Nat}{X Y Z:ag}(h:KpO b l X Y)(k:KpO b l' Y Z)(hl:X.heap.size<=l'):KpO b l X Z :=
 ⟨XR h.size k.size,fun g cs T m hg h1 h2=>k.cells g cs T m (h.cells g cs T m hg h1 h2) h1 h2,fun g o hg hc h1 h2=>k.other g o (h.other g o hg hc h1 h2) hc (fun e=>by have:=(XO.1 hg).1;omega) h2⟩
end Go.Proofs.YtojjoblnpldniaaGreat
namespace Go.Proofs.YtojjoblnpldniaaGreat
set_option linter.unusedVariables false
set_option maxRecDepth 100000
open ChangeShapes WideShapes ChangeAt RowKit Maps Go.Shelf
open Pl
attribute [local go_sem] Oper.semAt_some
def Hf(X:World)(B:Nat):Nat:=match X.cell? ⟨B,0,none⟩ with
 | some x=>VV x
 | none=>0
def Hg{X:ag}{B n c:Nat}{ad:Q02}{T:TypeId}(h:dE X B (.slice ad n c) T):Hf X B=n:=by
 unfold Hf;rw[h.c];rfl
section
variable  [DecidableEq Fc]
def FV(w:ag)(rs:Q06)(Zp:Q02)(D br bp bt:Nat)(N:Nat)(nr:Nat)(Mr:KL->Option Value)(st:Q00)(ts:Q05)(xo xu:Q0a)(np:Nat)(Mp:K3->Option Value)(vo vu:Value)(hD:DatA w rs D br bp bt (N:Int) nr Mr (dP st rs) (bB ts) xo xu np Mp vo vu)(hs:kI w Zp rs)(hN:N<=1000)(hol:xo.length<=80)(hul:xu.length<=40)(hE:(ay<|ai rs).length<=36)(hrl:∀k,(G.lookL (dP st rs) k).length<=1000)(hsh:bz (ai rs)=true)(hts:∀t∈ts,t.fits)(htl:ts.length<=1000)(hof:∀o∈xo,o.t.size<=maxLen/\o.s.size<=maxLen)(huf:∀o∈xu,o.t.size<=maxLen/\o.s.size<=maxLen)(hrf:∀k∈ay (ai rs),k.2.size<=maxLen):
  Calls prog 56 #[.pointer (some<|am D)] w fun e w'=>(∃v,e=.returned v/\bj w w' 52 5 v (iV (ai rs) ts st xo xu N).length (av<|iV (ai rs) ts st xo xu N))/\ae w w':=by
 obtain⟨iF,z0,z1,z2,z3⟩:=mI;obtain⟨W0,hW0⟩:=eQx<|((w.alloc<|.cells #[.slice none 0 0] 44).alloc<|.map #[] 0).alloc<|.cells #[.map (some<|w.heap.size+1)] 115;obtain⟨adO,capO,rfl,-⟩:=nI hD.dat.objs;have hlD:=hD.dat.lt;have d1:=hD.dat.c1;have h00:FoW w W0 (.slice none 0 0) []/\dE W0 (w.heap.size+1+1) (.map<|some<|w.heap.size+1) 115:=by
  obtain⟨V1,e1⟩:∃V,V=w.alloc (.cells #[.slice none 0 0] 44):=⟨_,rfl⟩;obtain⟨V2,e2⟩:∃V,V=V1.alloc (.map #[] 0):=⟨_,rfl⟩;rw[<-e1,<-e2]at hW0;have t1:V1.heap.size=w.heap.size+1:=by rw[e1,World.size_alloc]
  have t2:V2.heap.size=w.heap.size+1+1:=by rw[e2,World.size_alloc,t1]
  have f1:ae w V1:=by rw[e1];exact(XL _ _).alloc (XK _) _
  have f2:ae V1 V2:=by rw[e2];exact(XL _ _).alloc (XK _) _
  have f3:ae V2 W0:=by rw[hW0];exact(XL _ _).alloc (XK _) _
  have f12:ae w V2:=f1.trans<|f2.mono f1.size;have g1:dE V1 w.heap.size (.slice none 0 0) 44:=by rw[e1];exact World.alloc_heap_new w _
  have g2:aL dM prog 52 V2 (w.heap.size+1) 0 (fun _=>none):=by
   have:=jL dM prog 52 V1;rw[<-e2,t1]at this;exact this
  have g3:dE W0 (w.heap.size+1+1) (.map<|some<|w.heap.size+1) 115:=by rw[hW0,<-t2];exact World.alloc_heap_new V2 _
  have ek:vV []=fun _=>none:=rfl;exact⟨⟨f12.trans<|f3.mono f12.size,(g1.bel f2).bel f3,World.ownsRow_nil _ _ _ _,by rw[ek];exact g2.below f3⟩,g3⟩
 have hmm:=@run_makeMap prog;have hl1:D<w.heap.size+1:=cq;have hl2:D<w.heap.size+1+1:=cq;refine(callsIn_wide (n:=12)).1 ?_;refine callsIn_of_wp_marks func56 rfl trivial ?_ rfl;simp only[ntmps56,List.size_toArray,Yh,YO,Nat.reduceAdd,Nat.reduceSub,Array.replicate_succ,Array.replicate_zero,List.push_toArray,List.append_toArray,YI,Yz];gi_wp2;rw[<-hW0];clear hW0 hmm;obtain⟨H,hH⟩:=eQx<|iC (ai rs) ts;obtain⟨A,hA⟩:∃A:Nat->List Fc,A=iV (ai rs) ts st xo xu:=⟨_,rfl⟩;obtain⟨Q,hQ⟩:∃Q:Nat->List Fc,Q=fun(n:Nat)=>di (ai rs) st xo xu (n:Int):=⟨_,rfl⟩;have hA1:∀n,A (n+1)=oK H (Q n) (A n):=fun n=>by rw[hA,hH,hQ];exact jQ _ _ _ _ _ _
 have hAG:∀n,GoodO (ai rs) xo xu (A n):=fun n=>by rw[hA];exact kw _ _ _ _ _ n
 have hA0:A 0=[]:=by rw[hA];rfl
 have hAN:iV (ai rs) ts st xo xu N=A N:=by rw[hA]
 refine wpIn_loop (fun a' X=>∃(q:Nat) (rl:List Nat) (v:Value) (u5 u6 u7 u8 u15 u16 u17 u18 u19 u20 u21 u22 u23 u24 u25 u26 u27 u28 u29 u30 u31 u32 u33 u34 u35 u36 u37 u38 u39 u40 u41 u42 u43 u44:Value),a'={ tmps:=List.toArray (.pointer (some<|am D)::undef::.slice none 0 0::.pointer (some<|aE w)::.pointer (some<|am<|w.heap.size+1+1)::u5::u6::u7::u8::.map (some<|w.heap.size+1)::.pointer (some<|am D)::.pointer (some<|am D)::.pointer (some<|ap D 1)::.int .i64 (N:Int)::.int .i64 (q:Int)::u15::u16::u17::u18::u19::u20::u21::u22::u23::u24::u25::u26::u27::u28::u29::u30::u31::u32::u33::u34::u35::u36::u37::u38::u39::u40::u41::u42::u43::u44::undef::[]),defers:=marks rl }/\q<=N/\FoW w X v (A q)/\dE X (w.heap.size+1+1) (.map<|some<|w.heap.size+1) 115/\jF X rl/\(∀r∈rl,w.heap.size+1+1<r)) (fun a' _=>N-(intOf<|a'.tmps.getD 14 undef).toNat) ⟨0,[],.slice none 0 0,_,_,_,_,_,_,_,_,_,_,_,_,_,_,_,_,_,_,_,_,_,_,_,_,_,_,_,_,_,_,_,_,_,_,rfl,XP _,by rw[hA0];exact h00.1,h00.2,⟨List.nodup_nil,fun r hr=>by cases hr⟩,fun r hr=>by cases hr⟩ ?_;rintro a1 X ⟨q,rl,v,u5,u6,u7,u8,u15,u16,u17,u18,u19,u20,u21,u22,u23,u24,u25,u26,u27,u28,u29,u30,u31,u32,u33,u34,u35,u36,u37,u38,u39,u40,u41,u42,u43,u44,rfl,hq,hF,hB,hMk,hMn⟩;clear h00;by_cases hlq:q<N
 ·have hDX:=hD.below hF.bel;have d5:=hDX.dat.c5;have d5l:=hDX.dat.lt;obtain⟨adV,capV,rfl,-⟩:=nI hDX.dat.users;gi_wp2;refine wpIn_loop (fun a' X=>∃(us:Q0a) (Z6:Q02) (Zh:Nat) (out:Q04) (rl:List Nat) (v:Value) (base:Nat) (u7 u8 u21 u22 u23 u24 u25 u26 u27 u28 u29 u30 u31 u32 u33 u34 u35 u36 u37 u38 u39 u40 u41 u42 u43 u44:Value),a'={ tmps:=List.toArray (.pointer (some<|am D)::undef::.slice none 0 0::.pointer (some<|aE w)::.pointer (some<|am<|w.heap.size+1+1)::.int .i64 (q:Int)::.slice Z6 us.length Zh::u7::u8::.map (some<|w.heap.size+1)::.pointer (some<|am D)::.pointer (some<|am D)::.pointer (some<|ap D 1)::.int .i64 (N:Int)::.int .i64 (q:Int)::.bool true::.int .i64 (q:Int)::.pointer (some<|am D)::.pointer (some<|am D)::.pointer (some<|ap D 5)::.slice adV xu.length capV::u21::u22::u23::u24::u25::u26::u27::u28::u29::u30::u31::u32::u33::u34::u35::u36::u37::u38::u39::u40::u41::u42::u43::u44::undef::[]),defers:=marks rl }/\FewA (ai rs) ts st xo xu (q:Int) us out/\oK H (Q q) out=A (q+1)/\GoodO (ai rs) xo xu out/\FoW w X v out/\dE X (w.heap.size+1+1) (.map<|some<|w.heap.size+1) 115/\jF X rl/\(∀r∈rl,w.heap.size+1+1<r)/\X.ownsRow base 27 2 (.slice Z6 us.length Zh) us.length (pairs us)/\us.length<=40/\∀o∈us,o.t.size<=maxLen/\o.s.size<=maxLen) (fun a' Y=>2*(200000-Hf Y w.heap.size)+min 1 (VV<|a'.tmps.getD 6 undef)) ⟨xu,adV,capV,A q,rl,v,bp+1,_,_,_,_,_,_,_,_,_,_,_,_,_,_,_,_,_,_,_,_,_,_,_,_,_,_,rfl,FewA.start _,(hA1 q).symm,hAG q,hF,hB,hMk,hMn,hDX.dat.users,hul,huf⟩ ?_;clear hDX d5 d5l hF hB hMk hMn;rintro a2 X2 ⟨us,Z6,Zh,out,rl2,v2,base,u7,u8,u21,u22,u23,u24,u25,u26,u27,u28,u29,u30,u31,u32,u33,u34,u35,u36,u37,u38,u39,u40,u41,u42,u43,u44,rfl,hFew,hLim,hG,hF2,hB2,hMk2,hMn2,hU,hul2,huf2⟩;obtain⟨ZG,Za,rfl,-⟩:=gV hF2.row;have hmu:=Hg hF2.box;have hout:=hG.len hol hE hul;by_cases hne:us=[]
  ·subst hne;have hAq:A (q+1)=out:=by rw[<-hLim,hH,hQ];exact hFew.done
   have hF3:FoW w X2 (.slice ZG out.length Za) (A<|q+1):=by rw[hAq];exact hF2
   gi_wp2;exact⟨⟨q+1,rl2,_,_,_,_,_,_,_,_,_,_,_,_,_,_,_,_,_,_,_,_,_,_,_,_,_,_,_,_,_,_,_,_,_,_,_,rfl,cq,hF3,hB2,hMk2,hMn2⟩,by simp[intOf];omega⟩
  have hpos:0<us.length:=by cases us with|nil=>exact absurd rfl hne|cons a l=>simp
  have hposI:(0:Int)<(us.length:Int):=cq;have bc:=hF2.box.c;have kc:=hB2.c
  gi_wp2_with fail
  refine⟨trivial,(callsIn_wide.2<|Hd D (q:Int) Z6 us.length Zh (w.heap.size+1) X2).mono ?_⟩;rintro e X3 ⟨rfl,hX3⟩;obtain⟨hBX,hb23,hs3⟩:=UN X2 D (q:Int) (.slice Z6 us.length Zh) (w.heap.size+1) hX3;have hF3:=hF2.below hb23;have hU3:=aP hU hb23;have hB3:=hB2.bel hb23;have hMk3:=hMk2.bel hb23;have hsB:w.heap.size+1+1<X2.heap.size:=(XO.1 hB2).1;clear hX3 bc kc;gi_wp2
  refine nG (α:=Fc) rfl cq (gf:=201) (lb:=#[.pointer (some<|aE X2),.pointer<|some<|am<|X2.heap.size+1,.pointer<|some<|am<|X2.heap.size+1+1,.pointer<|some<|am<|X2.heap.size+1+1+1]) rfl trivial (enters_of func201 cw rfl)
   (Pq 11 cq rs Zp D br bp bt (N:Int) nr Mr st ts adO capO xo xu np Mp (.slice adV xu.length capV) (w.heap.size+1) out X2.heap.size (X2.heap.size+1) (X2.heap.size+1+1) (X2.heap.size+1+1+1) (q:Int) Z6 Zh us X3 cq cq cq cq hrl hsh hts htl hof huf2 hrf) (XL _ _) (fun _=>rfl) (fun h k=>h.trans k) (fun Y lx o o' h1 h2=>KpO.put h1 h2)
   (fun pre Y=>∃v',FoW w Y v' (out++pre)/\KpO (w.heap.size+1) X3.heap.size X3 Y/\GoodO (ai rs) xo xu (out++pre))
   ?own ?tell ⟨_,by rw[YB];exact hF3,KpO.below<|XL _ _,by rw[YB];exact hG⟩
   (fun x a' Y=>∃Bx,kC Y Bx x/\a'={ tmps:=List.toArray (.pointer (some<|am D)::undef::.slice none 0 0::.pointer (some<|aE w)::.pointer (some<|am<|w.heap.size+1+1)::.int .i64 (q:Int)::.slice Z6 us.length Zh::.int .i64 (out.length:Int)::.pointer (some<|am Bx)::.map (some<|w.heap.size+1)::.pointer (some<|am D)::.pointer (some<|am D)::.pointer (some<|ap D 1)::.int .i64 (N:Int)::.int .i64 (q:Int)::.bool true::.int .i64 (q:Int)::.pointer (some<|am D)::.pointer (some<|am D)::.pointer (some<|ap D 5)::.slice adV xu.length capV::.slice Z6 us.length Zh::.int .i64 (us.length:Int)::.bool true::.slice ZG out.length Za::.int .i64 (out.length:Int)::.pointer (some<|am D)::.int .i64 (q:Int)::.slice Z6 us.length Zh::.map (some<|w.heap.size+1)::.func (.func 201) #[] #[.pointer (some<|aE X2),.pointer<|some<|am<|X2.heap.size+1,.pointer<|some<|am<|X2.heap.size+1+1,.pointer<|some<|am<|X2.heap.size+1+1+1]::.agg (cf x)::u32::u33::u34::u35::u36::u37::u38::u39::u40::u41::u42::u43::u44::undef::[]),defers:=[] })
   (fun x a' s Y Z row hs hg hr=>by obtain⟨Bx,h,e⟩:=hs;exact⟨Bx,Dg (B0:=X3.heap.size) (g:=Bx) (x:=x) () Y Z row h hg hr,e⟩) ?assign ?body ?done
  case own =>
   intro pre Y Z row hs hg hr;obtain⟨v',h1,h2,h3⟩:=hs;exact⟨v',h1.kept hg fun r e=>⟨by have:=(hr r e).1;omega,(hr r e).2⟩,UO (β:=Unit) () Y Z row h2 hg hr,h3⟩
  case tell =>
   rintro pre Y ⟨v',h1,h2,h3⟩;have hb:=hBX.kp h2;obtain⟨ad2,cap2,e,hsa⟩:=nI<|Nt hU3 h2 cv cv;injection e with ea eb ec;exact⟨hD.below h1.bel,hs.below h1.bel,⟨_,h1.map⟩,hb.d.c,hb.s.c,hb.u.c,hb.k.c,by rw[ea];exact hsa⟩
  case assign =>
   rintro l' pre x Y K ⟨v',h1,h2,h3⟩ hKK;unfold FJ;gi_wp2;have hbl:ae Y (Y.alloc<|.cells (cf x) 52):=(XL _ _).alloc (XK _) _;exact hKK _ _ ((KeepsOthers.alloc _ _).from _) (KpO.below hbl) ⟨v',h1.below hbl,h2.trans<|KpO.below hbl,h3⟩ ⟨Y.heap.size,World.alloc_heap_new Y _,rfl⟩
  case body =>
   rintro l' pre x a' Y hl ⟨hEx,hnew⟩ ⟨v',hFY,hKY,hGY⟩ ⟨Bx,bX,rfl⟩;obtain⟨hkey,hxf⟩:=JG hof huf2 hrf hEx;obtain⟨kl,hkl⟩:=lN x hxf;obtain⟨c0,c1,c2,c3,c4,cl⟩:=bX.c;have hGX:GoodO (ai rs) xo xu (out++(pre++[x])):=by
    refine⟨?_,fun g hg=>?_⟩
    ·rw[<-Ye];exact List.nodup_append.2 ⟨hGY.once,ct,fun a ha b hb e=>by
      rw[XX]at hb;rw[<-hb,<-e]at hnew;exact hnew ha⟩
    rw[<-Ye]at hg;rcases XV.1 hg with hg|hg
    ·exact hGY.sub g hg
    rw[XX]at hg;subst hg;unfold di yN at hEx;obtain⟨o,ho,h1⟩:=XZ.1 hEx;obtain⟨k,hk,h1⟩:=XZ.1 h1;obtain⟨u,hu,e⟩:=XW.1 h1;have hux:u∈xu:=by rw[hFew.sub]at hu;exact(YL.1 hu).1
    exact XZ.2 ⟨o,ho,XZ.2 ⟨k,(YL.1 hk).1,XW.2 ⟨u,hux,e⟩⟩⟩
   have hlen:=hGX.len hol hE hul;rw[<-Ye,XT,Yr]at hlen;obtain⟨os,hos⟩:=eQx<|out++pre;rw[<-hos]at hFY hlen;have HOS:=ah hos;clear hos;have kc:=(hB3.kp hKY cv cv).c;have kl2:=ax kc;obtain⟨adY,capY,rfl,-⟩:=gV hFY.row;have hmap:=hFY.map;have bcY:=hFY.box.c;have hbxl:=ax bcY;have hblk:=hFY.box;obtain⟨es,cc,hmb⟩:=fC hFY.map;have hne1:Bx≠w.heap.size+1:=fun e=>by
    have h:=bX;unfold kC at h;rw[e,hmb]at h;cases h
   have hrow:=hFY.row;have hvB:(Value.slice adY os.length capY).ownBlock≠some w.heap.size:=fun e=>by have:=(hrow.lt _ e).1;omega
   have hvM:(Value.slice adY os.length capY).ownBlock≠some (w.heap.size+1):=fun e=>GJ hrow e hmb;have hbYs:=hFY.bel.size
   gi_wp2_with (first
    | (gi_at_mapUpdate;refine l8 _ rfl _ _ _ 115 rfl 52 107 oO nM underlying115 (w.heap.size+1) _ _ rfl hmap cy x kl rfl hkl (.agg #[]) rfl ?_;intro Y1 hM1 hg1;have q0:=(kM hg1 ⟨cl,hne1⟩ 0).trans c0;have q1:=(kM hg1 ⟨cl,hne1⟩ 1).trans c1;have q2:=(kM hg1 ⟨cl,hne1⟩ 2).trans c2;have q3:=(kM hg1 ⟨cl,hne1⟩ 3).trans c3;have q4:=(kM hg1 ⟨cl,hne1⟩ 4).trans c4;have qb:=(kM hg1 ⟨hbxl,Nat.ne_of_lt<|Nat.lt_succ_self _⟩ 0).trans bcY;have ql:=ax q0;have qbl:=ax qb;have hrow1:=hrow.kept hg1<|.inr hvM;have hYs1:=hg1.size)
    | (gi_at_builtin;refine wpListIn_append_own_at _ rfl _ _ 44 rfl (w.heap.size+1) 52 iF (.agg ar) 5 80 underlying44 z0 z1 z2 z3 rfl cv _ os.length (av os) rfl (hrow1.alloc _) ⟨Y1.heap.size,0,none⟩ 1 1 x.row rfl rfl (xm Y1 x) (by simp[Fc.row,Value.oneCell']) cy cq (by simp;omega) ?_;intro v2 V hown hgr _ hat;obtain⟨g2,cap2,rfl⟩:=ownsRow_succ hown;have HAT:=ah hat;clear hat;have hY2:ae Y1 (Y1.alloc<|.cells (cf x) 52):=(XL _ _).alloc (XK _) _;have hVb:=SB hblk hg1 hY2 hgr hvB;have vc:=hVb.c;have vf:=jE hVb 0;have vl:=ax vc)
    | gi_in)
   obtain⟨r1,r2,r3⟩:=FoW.step hFY hM1 hg1 hY2 hown hgr HAT l';have eos:out++(pre++[x])=os++[x]:=by rw[HOS,Ye]
   exact⟨SC r3 cq,r2,_,by rw[eos];exact r1,hKY.after r2 hl,hGX⟩
  case done =>
   rintro Dd xs X5 hDd hS ⟨v5,hF5,hK5,hG5⟩ hKd;have hl5:=hG5.len hol hE hul;have hlx:(out++xs).length=out.length+xs.length:=XT;have hxs:(out++xs).drop out.length=xs:=List.drop_left;obtain⟨o5,ho5⟩:=eQx<|out++xs;rw[<-ho5]at hF5 hG5 hl5 hlx hxs;have Ze:=ah ho5;have HXS:=ah hxs;have hFew5:=hFew.next (by rw[<-hH]at hS ⊢;exact hS);have hLim5:oK H (Q q) o5=A (q+1):=by
    rw[<-hLim,<-EJ (H:=H) (Q q) out];congr 1;rw[ho5,<-hS,<-hH,hQ,hH];exact hFew.round
   rw[<-ho5]at hFew5;obtain⟨adP,capP,rfl,hsF5⟩:=gV hF5.row;have bc5:=hF5.box.c;have bl5:=ax bc5;have i1:(0:Int)<=(out.length:Int):=cq;have i2:(out.length:Int)<=(o5.length:Int):=cq;have hcap5:o5.length<=capP:=Nu hF5.row;have hU5:=Nt hU3 hK5 cv cv;obtain⟨ad2,cap2,eU,hsU5⟩:=nI hU5;injection eU with ea eb ec;rw[<-ea]at hsU5;have hMk5:jF X5 (Dd::rl2):=by
    have h1:=hMk3.kp hK5 (fun hm=>by have:=hMk3.lt hm;omega) (fun hm=>by have:=hMn2 _ hm;omega);refine⟨List.nodup_cons.2 ⟨fun hm=>by have:=hMk3.lt hm;omega,h1.1⟩,fun r hr=>?_⟩;rcases X7.1 hr with rfl|hr
    ·exact hKd
    exact h1.2 r hr
   have hMn5:∀r∈Dd::rl2,w.heap.size+1+1<r:=fun r hr=>by
    rcases X7.1 hr with rfl|hr
    ·omega
    exact hMn2 r hr
   have hkl:(fP us xs).length<=us.length:=FK us xs;have hkz:xs.length=0->(fP us xs).length=0:=fun h=>by rw[X0.1 h,LQ];rfl
   have hsx:∀ad3,ad3=Option.map (fun x=>Addr.add x<|out.length*5) adP->jX X5 ad3 xs:=fun ad3 e=>by
    rw[e,<-HXS];exact jX.dropF hsF5 out.length
   clear ho5 hxs ea eb ec hS
   gi_wp2_with fail
   ·refine⟨trivial,(callsIn_wide.2<|sG Z6 Zh us adP 0 xs X5 cq cq hsU5<|.inl<|X0.1 cq).mono ?_⟩;rintro e X6 ⟨⟨v6,rfl,hO6⟩,hb6⟩;have ZA:Hf X6 w.heap.size=o5.length:=Hg (hF5.below hb6).box;have hF6:=hF5.below hb6;have hB6:=(hB3.kp hK5 cv cv).bel hb6;obtain⟨ad6,cap6,rfl,-⟩:=nI hO6;gi_wp2;exact⟨⟨fP us xs,ad6,cap6,o5,Dd::rl2,_,X5.heap.size,_,_,_,_,_,_,_,_,_,_,_,_,_,_,_,_,_,_,_,_,_,_,_,_,_,_,rfl,hFew5,hLim5,hG5,hF6,hB6,hMk5.bel hb6,hMn5,hO6,cq,fun o ho=>huf2 o (YL.1 ho).1⟩,by
     show 2*(200000-Hf X6 w.heap.size)+min 1 (fP us xs).length<2*(200000-Hf X2 w.heap.size)+min 1 us.length;rw[ZA,hmu];omega⟩
   refine⟨trivial,(callsIn_wide.2<|sG Z6 Zh us _ _ xs X5 cq cq hsU5<|hsx _ rfl).mono ?_⟩;rintro e X6 ⟨⟨v6,rfl,hO6⟩,hb6⟩;have ZA:Hf X6 w.heap.size=o5.length:=Hg (hF5.below hb6).box;have hF6:=hF5.below hb6;have hB6:=(hB3.kp hK5 cv cv).bel hb6;obtain⟨ad6,cap6,rfl,-⟩:=nI hO6;gi_wp2;exact⟨⟨fP us xs,ad6,cap6,o5,Dd::rl2,_,X5.heap.size,_,_,_,_,_,_,_,_,_,_,_,_,_,_,_,_,_,_,_,_,_,_,_,_,_,_,rfl,hFew5,hLim5,hG5,hF6,hB6,hMk5.bel hb6,hMn5,hO6,cq,fun o ho=>huf2 o (YL.1 ho).1⟩,by
    show 2*(200000-Hf X6 w.heap.size)+min 1 (fP us xs).length<2*(200000-Hf X2 w.heap.size)+min 1 us.length;rw[ZA,hmu];omega⟩
 have hqN:q=N:=cq;subst hqN;obtain⟨ZG,Za,rfl,-⟩:=gV hF.row;have bc:=hF.box.c;have hR:X.ownsRow (w.heap.size+1) 52 5 (.slice ZG (A q).length Za) (iV (ai rs) ts st xo xu q).length (av<|iV (ai rs) ts st xo xu q):=by rw[hAN];exact hF.row
 have hBl:=hF.bel;have hsz:cX w X:=ax bc;clear hF hB hD;gi_wp2;refine qP (w.heap.size+1+1) (fun Y=>bj w Y 52 5 (.slice ZG (A q).length Za) (iV (ai rs) ts st xo xu q).length (av<|iV (ai rs) ts st xo xu q)/\ae w Y) (fun Y r hr hY hd=>⟨bY hY.1 fun g hg=>mP fun e=>?_,?_⟩) (fun Y hY=>⟨_,results_tmp rfl _ _ _,⟨_,rfl,hY.1⟩,hY.2⟩) rl X hMk hMn ⟨bW hR<|Nat.le_succ _,hBl⟩
 ·obtain⟨cur,e2⟩:=fG hY.1 hg;rw[e,hd]at e2;cases e2
 exact hY.2.grown (grownBy_putObj' Y r _) hY.2.size (fun g e=>by injection e with e;omega)
end
end Go.Proofs.YtojjoblnpldniaaGreat
namespace Go.Proofs.YtojjoblnpldniaaGreat
set_option linter.unusedVariables false
set_option maxRecDepth 100000
open ChangeShapes WideShapes ChangeAt RowKit Maps
open Pl
def fU(rs:Q06)(t:Tp):Bool:=uR (ai rs) t.a t.b t.r t.c t.d t.s
def yZ{rs:Q06}{t:Tp}(h:aN (ai rs)=true)(ht:t.ok=true):zF (ai rs) t.a t.r ⟨t.c,t.s⟩=fU rs t:=by
 have hSP:=bf.1 h;have h1:zF (ai rs) t.a t.r ⟨t.c,t.s⟩=dR (bn<|aH (ai rs) t.a t.r) (bn<|aH (ai rs) t.a t.r).length ⟨t.c,t.s⟩:=JF _<|UL hSP _ _;have h2:cZ t.a t.b t.r t.c t.d t.s=true:=ht;rw[h1];unfold fU uR;rw[h2,Bool.and_true]
def SE{p:Tp->Bool}{ts:Q05}{k:Nat}(h:k<ts.length):(ts.drop k).all p=(p ts[k]&&(ts.drop<|k+1).all p):=by rw[Yi h];rfl
def zR(ad:Q02)(cap:Nat)(rs:Q06)(Y8:Q02)(cap':Nat)(ts:Q05)(w:ag)(hlen:a7 rs)(hs:kI w ad rs)(hl:∀r∈rs,r.light)(hfr:∀r∈rs,r.fits)(hlt:a7 ts)(hst:Sl w Y8 ts)(hft:∀x∈ts,x.fits):
  Calls prog 59 #[.slice ad rs.length cap,.slice Y8 ts.length cap'] w (a8 w<|.bool<|aQ (fU rs) rs ts):=by
 have HS:=ah hs;have HL:=ah hl;have HFR:=ah hfr;have HST:=ah hst;have Zd:=ah hft;have ZA:ts.length<=maxLen:=cy;clear hs hl hfr hst hft;go_enter func59,ntmps59;go_wp2_with fail;refine(kZ ad cap rs _ hlen HS HL HFR).mono ?_;rintro e w1 ⟨he,hb1⟩;have HB1:=ah hb1;clear hb1;cases h1:aN (ai rs);case false=>
  rw[h1]at he;subst he;have HN:O (aQ (fU rs) rs ts=false):=by show _=_;unfold aQ;rw[h1];rfl
  clear h1;go_wp2;go_ret;exact⟨by rw[HN];rfl,HB1⟩
 rw[h1]at he;subst he;have H1:=ah h1;clear h1;go_wp2_with fail;refine(pG Y8 cap' ts _ ZA (HST.below HB1) Zd).mono ?_;rintro e w2 ⟨he,hb2⟩;have HB2:=ah<|HB1.trans<|hb2.mono HB1.size;clear hb2 HB1;cases h2:dW ts;case false=>
  rw[h2]at he;subst he;have HN:O (aQ (fU rs) rs ts=false):=by show _=_;unfold aQ;rw[h2,Bool.and_false];rfl
  clear h2;go_wp2;go_ret;exact⟨by rw[HN];rfl,HB2⟩
 rw[h2]at he;subst he;have HN:O (aQ (fU rs) rs ts=ts.all (fU rs)):=by show _=_;unfold aQ;rw[H1,h2];rfl
 clear h2 H1;go_wp2;go_loopw[5] (fun i wr=>∃k:Nat,k<=ts.length/\i=.int .i64 k/\O ((ts.drop k).all (fU rs)=ts.all (fU rs))/\O (ae w wr)) (fun i _=>ts.length-(intOf i).toNat);case atStart=>exact⟨0,XP _,rfl,rfl,HB2⟩
 clear HB2;obtain⟨k,hk,rfl,HP,HB⟩:=hrel;by_cases hlt2:k<ts.length
 ·obtain⟨b,off,YW,⟨t0,t1,t2,t3,t4,t5⟩,hb⟩:=Sl.at0 (HST.below HB) hlt2;have hk1:=bG k;have hk2:(k:Int)<(ts.length:Int):=cq;obtain⟨f0,f1,f2,f3,f4,f5⟩:=Zd _<|XI hlt2;have HD:O (ts.all (fU rs)=(fU rs ts[k]&&(ts.drop<|k+1).all (fU rs))):=by show _=_;rw[<-HP];exact SE hlt2
  obtain⟨x,hx⟩:=eQx<|ts[k];rw[<-hx]at t0 t1 t2 t3 t4 t5 f0 f1 f2 f3 f4 f5 HD;have HLF:=ah<|De ad cap rs x.a x.b x.r x.c x.d x.s wr hlen (HS.below HB) HL f0 f1 f2 f3 f4 f5;subst YW;clear hx;go_wp2_with fail;refine HLF.mono ?_;rintro e w3 ⟨he,hb3⟩;have HB3:=ah<|HB.trans<|hb3.mono HB.size;clear hb3 HLF t0 t1 t2 t3 t4 t5;cases h5:uR (ai rs) x.a x.b x.r x.c x.d x.s;case true=>
   rw[h5]at he;subst he;have Zc:O ((ts.drop<|k+1).all (fU rs)=ts.all (fU rs)):=by show _=_;rw[HD];unfold fU at *;rw[h5];rfl
   clear h5;go_wp2;go_roundw;case rel=>exact⟨k+1,cq,cx,Zc,HB3⟩
   simp[intOf]<;>omega
  rw[h5]at he;subst he;have HN2:O (aQ (fU rs) rs ts=false):=by show _=_;rw[HN,HD];unfold fU at *;rw[h5];rfl
  clear h5;go_wp2;go_ret;exact⟨by rw[HN2];rfl,HB3⟩
 have HN2:O (aQ (fU rs) rs ts=true):=by show _=_;rw[HN,<-HP,Ya cq];rfl
 go_wp2;go_ret;exact⟨by rw[HN2];rfl,HB⟩
set_option linter.unusedSectionVars false
def za{xs:Q0a}{o x:Al}(h:x∈fM xs o):x∈xs\/x=o:=by
 unfold fM at h;split at h
 ·exact .inl h
 rcases XV.1 h with h|h
 ·exact .inl h
 exact .inr (by simpa using h)
def Dh:∀(ts:Q05) (xs:Q0a) (o:Al),o∈ts.foldl je xs->o∈xs \/ ∃t∈ts,o=⟨t.a,t.b⟩\/o=⟨t.c,t.d⟩
 | [],xs,o,h=>.inl h
 | t::ts,xs,o,h=>by
  rcases Dh ts (je xs t) o h with h|⟨u,hu,h⟩
  ·unfold je at h;rcases za h with h|h
   ·rcases za h with h|h
    ·exact .inl h
    exact .inr ⟨t,ct,.inl h⟩
   exact .inr ⟨t,ct,.inr h⟩
  exact .inr ⟨u,by simp[hu],h⟩
def Di:∀(ts:Q05) (xs:Q0a) (o:Al),o∈ts.foldl dQ xs->o∈xs \/ ∃t∈ts,o=⟨t.a,t.b⟩\/o=⟨t.c,t.d⟩
 | [],xs,o,h=>.inl h
 | t::ts,xs,o,h=>by
  rcases Di ts (dQ xs t) o h with h|⟨u,hu,h⟩
  ·unfold dQ at h;split at h
   ·rcases za h with h|h
    ·exact .inl h
    exact .inr ⟨t,ct,.inr h⟩
   exact .inl h
  exact .inr ⟨u,by simp[hu],h⟩
def Nv{ts:Q05}(hf:∀t∈ts,t.fits){o:Al}(h:∃t∈ts,o=⟨t.a,t.b⟩\/o=⟨t.c,t.d⟩):o.t.size<=maxLen/\o.s.size<=maxLen:=by
 obtain⟨t,ht,h⟩:=h;obtain⟨h0,h1,h2,h3,h4,h5⟩:=hf t ht;rcases h with rfl|rfl
 ·exact⟨h0,h1⟩
 exact⟨h3,h4⟩
def ik{ts:Q05}(hf:∀t∈ts,t.fits):∀o∈fA ts,o.t.size<=maxLen/\o.s.size<=maxLen:=fun o ho=>by
 rcases Dh ts [] o ho with h|h
 ·cases h
 exact Nv hf h
def gy{ts:Q05}(hf:∀t∈ts,t.fits):∀o∈dA ts,o.t.size<=maxLen/\o.s.size<=maxLen:=fun o ho=>by
 rcases Di ts [] o ho with h|h
 ·cases h
 exact Nv hf h
def xS:∀(E:List<|KL×RR) (m:Int),m<=E.foldl (fun m x=>max m<|x.1.2+1) m/\∀x∈E,x.1.2+1<=E.foldl (fun m x=>max m<|x.1.2+1) m
 | [],m=>⟨Int.le_refl _,fun x hx=>by cases hx⟩
 | y::E,m=>by
  obtain⟨h1,h2⟩:=xS E<|max m<|y.1.2+1;simp only[List.foldl_cons];refine⟨cq,fun x hx=>?_⟩;rcases X7.1 hx with rfl|hx
  ·omega
  exact h2 x hx
def Hl:∀(E:List<|KL×RR) (m B:Int),m<=B->(∀x∈E,x.1.2+1<=B)->E.foldl (fun m x=>max m<|x.1.2+1) m<=B
 | [],m,B,h,_=>h
 | y::E,m,B,h,hx=>Hl E _ B (Int.max_le.2 ⟨h,hx y ct⟩) fun x h2=>hx x (by simp[h2])
def Nw{f:Q00}{rs:Q06}{k:Q01}(hk:k∈ay (ai rs)):∃x∈dP f rs,x.1.2=f k:=by
 unfold ay at hk;obtain⟨T,hT,hk⟩:=XZ.1 hk;obtain⟨t,ht,rfl⟩:=XW.1 hT;unfold jN at hk;obtain⟨r,hr,rfl⟩:=XW.1 hk;obtain⟨q,hq,rfl⟩:=XW.1 hr;exact⟨((t.name,f (t.name,q.name)),q),XZ.2 ⟨t,ht,XW.2 ⟨q,hq,rfl⟩⟩,rfl⟩
def SF{f:Q00}{rs:Q06}{x:KL×RR}(hx:x∈dP f rs):∃k∈ay (ai rs),x.1.2=f k/\∃t∈rs,∃q∈t.rows,k=(t.name,q.name):=by
 unfold dP at hx;obtain⟨t,ht,hx⟩:=XZ.1 hx;obtain⟨q,hq,rfl⟩:=XW.1 hx;refine⟨(t.name,q.name),?_,rfl,t,ht,q,hq,rfl⟩;unfold ay jN;exact XZ.2 ⟨t.p,XW.2 ⟨t,ht,rfl⟩,XW.2 ⟨q.p,XW.2 ⟨q,hq,rfl⟩,rfl⟩⟩
def mU{rs:Q06}(hf:∀r∈rs,r.fits):∀k∈ay (ai rs),k.2.size<=maxLen:=fun k hk=>by
 unfold ay at hk;obtain⟨T,hT,hk⟩:=XZ.1 hk;obtain⟨t,ht,rfl⟩:=XW.1 hT;unfold jN at hk;obtain⟨r,hr,rfl⟩:=XW.1 hk;obtain⟨q,hq,rfl⟩:=XW.1 hr;exact((hf t ht).2.2 q hq).1
def Ny(f:Q00)(rs:Q06):(dP f rs).length=(ay<|ai rs).length:=by
 induction rs with
 | nil=>rfl
 | cons t rs ih =>
  have e1:ay (ai (t::rs))=jN t.p++ay (ai rs):=by simp[ay,ai]
  have e2:dP f (t::rs)=(t.rows.map fun r=>((t.name,f (t.name,r.name)),r))++dP f rs:=rfl;have e3:(jN t.p).length=t.rows.length:=by unfold jN;rw[Yp];exact tF _
  rw[e1,e2,XT,XT,ih,e3,Yp]
def vY{w W w':ag}{n:Nat}{x0 x1 x2 x3 x4:Value}(h:W.cell? (am n)=some x0/\W.cell? (ap n 1)=some x1/\W.cell? (ap n 2)=some x2/\W.cell? (ap n 3)=some x3/\W.cell? (ap n 4)=some x4/\ae w W)(hb:ae W w'):w'.cell? (am n)=some x0/\w'.cell? (ap n 1)=some x1/\w'.cell? (ap n 2)=some x2/\w'.cell? (ap n 3)=some x3/\w'.cell? (ap n 4)=some x4/\ae w w':=by
 obtain⟨h0,h1,h2,h3,h4,hB⟩:=h;exact⟨az hb (ax h0) h0,az hb (ax h1) h1,az hb (ax h2) h2,az hb (ax h3) h3,az hb (ax h4) h4,hB.trans<|hb.mono hB.size⟩
section
variable  [DecidableEq Fc]
def aA(st:Q00)(rs:Q06)(ts:Q05):List Fc:=if aQ (fU rs) rs ts then qL st rs ts else []
def dZ{st:Q00}{rs:Q06}{ts:Q05}(h:aQ (fU rs) rs ts=true):aA st rs ts=qL st rs ts:=by unfold aA;rw[if_pos h]
def fV{st:Q00}{rs:Q06}{ts:Q05}(h:aQ (fU rs) rs ts=false):aA st rs ts=[]:=by unfold aA;rw[if_neg (by rw[h];decide)]
def jJ(st:Q00){rs:Q06}{ts:Q05}:(aA st rs ts).length<=115200:=by
 cases hr:aQ (fU rs) rs ts;case false=>rw[fV hr];simp
 rw[dZ hr];have hsd:aN (ai rs)=true/\ts.length<=40:=by
  unfold aQ dW at hr;simp only[XN,XU]at hr;exact⟨hr.1.1,hr.1.2.1⟩
 obtain⟨h6,hr6,-⟩:=bI (bf.1 hsd.1).1;exact(kw st rs ts (fA ts) (dA ts) _).len (by have:=kY ts;omega) (xB h6 hr6) (by have:=jI ts;omega)
end
def Dj{es:Q09}:∀(ks:List Int) (a b j:Nat),q9 es ks a b->a<=j->j<b->∃k∈ks,aC es k.toNat<=(j:Int)/\j<=k.toNat/\(a:Int)<=aC es k.toNat
 | [],a,b,j,h,h1,h2=>by
  have:a=b:=h;omega
 | x::ks,a,b,j,h,h1,h2=>by
  obtain⟨h3,h4,h5⟩:=h;by_cases hj:j<=x.toNat
  ·exact⟨x,ct,cq,hj,cq⟩
  obtain⟨k,hk,e1,e2,e3⟩:=Dj ks _ b j h5 cq h2;have:=gJ es x.toNat;exact⟨k,by simp[hk],e1,e2,cq⟩
def Dk{es:Q09}:∀(ks:List Int) (a b:Nat),q9 es ks a b->∀k∈ks,a<=k.toNat
 | [],_,_,_,k,hk=>by cases hk
 | x::ks,a,b,h,k,hk=>by
  obtain⟨h3,h4,h5⟩:=h;have:=gJ es x.toNat;rcases X7.1 hk with rfl|hk
  ·omega
  have:=Dk ks _ b h5 k hk;omega
def sO{es:Q09}:∀(ks:List Int) (a b:Nat),q9 es ks a b->∀(p:Nat) (hp:p<ks.length),q9 es (ks.drop<|p+1) (ks[p].toNat+1) b/\0<=ks[p]
 | [],_,_,_,p,hp=>by simp at hp
 | x::ks,a,b,h,0,_=>⟨h.2.2,h.1⟩
 | x::ks,a,b,h,p+1,hp=>by
  have:=sO ks _ b h.2.2 p (by simpa using hp);simpa using this
def Ps{es:Q09}(ht:∀j,j<es.length->0<=aC es j):∀(n:Nat),n<es.length->∀j:Nat,aC es n<=(j:Int)->j<=n->aC es n<=aC es j:=by
 intro n
 induction n using Nat.strongRecOn with
 | _ n ih =>
  intro hn j h1 h2;by_cases e:j=n
  ·rw[e];exact Int.le_refl _
  have hc:=nH<|ht n hn;obtain⟨k,hk,e1,e2,e3⟩:=Dj _ _ _ j hc (by have:=ht n hn;omega) cq;have hlt:=(pu _ _ _ hc).2 k hk;have:=ih k.toNat hlt.2 cq j e1 e2;have:=ht n hn;omega
def Mo{es:Q09}(ht:∀j,j<es.length->0<=aC es j){i j:Nat}(hi:i<es.length)(hj:j<i){x y:Int}(hx:x∈dx es i)(hy:y∈dx es j):x.toNat≠y.toNat:=by
 intro e;have ci:=nH<|ht i hi;have cj:=nH<|ht j cq;obtain⟨p,hp,rfl⟩:=Yk hx;obtain⟨h1,h2⟩:=sO _ _ _ ci p hp;have hyj:=(pu _ _ _ cj).2 y hy;have hyg:=Dk _ _ _ cj y hy;obtain⟨k,hk,e1,e2,e3⟩:=Dj _ _ _ j h1 cq hj;have hk2:=(pu _ _ _ ci).2 k<|List.mem_of_mem_drop hk;have:=Ps ht k.toNat cq j e1 e2;have:=ht j cq;omega
def Mq{es:Q09}{i:Nat}(h:0<=aC es i)(p q:Nat)(hp:p<(dx es i).length)(hq:q<(dx es i).length)(hpq:p<q):(dx es i)[p].toNat<(dx es i)[q].toNat:=by
 have h1:=(sO _ _ _ (nH h) p hp).1;refine Dk _ _ _ h1 _ ?_;rw[List.mem_drop_iff_getElem];exact⟨q-(p+1),cq,by congr 1;omega⟩
def lu(i:Nat)(kind:Int):∀(xs:List Int) (k:Nat) (out:List Bool) (z:Nat),(∀x∈xs,x.toNat≠z)->(bH i kind xs k out).getD z false=out.getD z false
 | [],_,_,_,_=>rfl
 | x::xs,k,out,z,h=>by
  rw[bH,lu i kind xs (k+1) _ z fun y hy=>h y<|Yt _ hy];simp only[Yl,List.getElem?_set_ne<|h x<|Yx ..]
def Dl(i:Nat)(kind:Int):∀(xs:List Int) (k:Nat) (out:List Bool),(∀(p q:Nat) (hp:p<xs.length) (hq:q<xs.length),p<q->xs[p].toNat≠xs[q].toNat)->(∀x∈xs,x.toNat≠i)->(∀x∈xs,x.toNat<out.length)->∀(p:Nat) (hp:p<xs.length),(bH i kind xs k out).getD xs[p].toNat false=(out.getD i false || (kind==6&&(k+p)==1))
 | [],_,_,_,_,_,p,hp=>by simp at hp
 | x::xs,k,out,hd,hi,hl,p,hp=>by
  have hxi:=hi x<|Yx ..;have hxl:=hl x<|Yx ..;have hgi:(out.set x.toNat<|out.getD i false || (kind==6&&k==1)).getD i false=out.getD i false:=by
   rw[Yl,Yl,List.getElem?_set_ne hxi]
  rw[bH];cases p with
  | zero =>
   rw[List.getElem_cons_zero,lu i kind xs (k+1) _ x.toNat fun y hy=>?_]
   ·rw[Yl,List.getElem?_set_self hxl];rfl
   obtain⟨q,hq,rfl⟩:=Yk hy;exact(hd 0 (q+1) ct (by simpa using hq) cq).symm
  | succ p =>
   have:=Dl i kind xs (k+1) (out.set x.toNat<|out.getD i false || (kind==6&&k==1)) (fun a b ha hb hab=>hd (a+1) (b+1) (by simpa using ha) (by simpa using hb) cq) (fun y hy=>hi y<|Yt _ hy) (fun y hy=>by rw[List.length_set];exact hl y<|Yt _ hy) p (by simpa using hp);rw[List.getElem_cons_succ,this,hgi,show k+1+p=k+(p+1) by omega]
def qQ(es:Q09):∀(m:Nat) (out:List Bool) (z:Nat),(∀j,j<m->∀x∈dx es j,x.toNat≠z)->(eF es m out).getD z false=out.getD z false
 | 0,_,_,_=>rfl
 | m+1,out,z,h=>by
  rw[eF,qQ es m _ z fun j hj=>h j cq];cases e:es[m]? with
  | none=>rfl
  | some x=>exact lu m x.kind x.kids 0 out z fun y hy=>h m cq y (by unfold dx;rw[e];exact hy)
def xU(es:Q09)(i:Nat):∀(d:Nat) (out:List Bool),∃out':List Bool,out'.length=out.length/\eF es (i+d) out=eF es i out'
 | 0,out=>⟨out,rfl,rfl⟩
 | d+1,out=>by
  obtain⟨o',h1,h2⟩:=xU es i d (match es[i+d]? with|none=>out|some e=>bH (i+d) e.kind e.kids 0 out);refine⟨o',?_,h2⟩;rw[h1];cases es[i+d]? with
  | none=>rfl
  | some e=>exact zt _ _ _ _ _
def Nz{es:Q09}(ht:∀j,j<es.length->0<=aC es j){i:Nat}(hi:i<es.length)(p:Nat)(hp:p<es[i].kids.length):(dK es).getD es[i].kids[p].toNat false=((dK es).getD i false || (es[i].kind==6&&p==1)):=by
 have hk:dx es i=es[i].kids:=by unfold dx;rw[XQ hi];rfl
 have hlow:∀j,j<es.length->∀x∈dx es j,x.toNat<j:=fun j hj x hx=>((pu _ _ _<|nH<|ht j hj).2 x hx).2;obtain⟨o',h1,h2⟩:=xU es (i+1) (es.length-(i+1))<|List.replicate es.length false;rw[show i+1+(es.length-(i+1))=es.length by omega]at h2;have hN:dK es=eF es i (bH i es[i].kind es[i].kids 0 o'):=by
  unfold dK;rw[h2,eF,XQ hi]
 have hmem:es[i].kids[p]∈dx es i:=by rw[hk];exact XI hp
 have hA:(dK es).getD es[i].kids[p].toNat false=(bH i es[i].kind es[i].kids 0 o').getD es[i].kids[p].toNat false:=by
  rw[hN];exact qQ es i _ _ fun j hj x hx e=>Mo ht hi hj hmem hx e.symm
 have hB:(dK es).getD i false=o'.getD i false:=by
  rw[hN,qQ es i _ i fun j hj x hx=>by have:=hlow j cq x hx;omega];exact lu i _ _ 0 o' i fun x hx=>by have:=hlow i hi x (by rw[hk];exact hx);omega
 rw [hA,hB,Dl i es[i].kind es[i].kids 0 o' (fun a b ha hb hab=>by
   have:=Mq (ht i hi) a b (by rw[hk];exact ha) (by rw[hk];exact hb) hab;simp only[hk]at this;omega) (fun x hx=>by have:=hlow i hi x (by rw[hk];exact hx);omega) (fun x hx=>by have:=hlow i hi x (by rw[hk];exact hx);rw[h1];simp;omega) p hp,Yg]
def Ao(es:Q09)(i:Nat):Int:=if (dK es).getD i false then 1 else 0
structure NodeR(l:Q05)(rk:Fc->Int)(es:Q09)(f:Fc):Prop where
 ht:∀j,j<es.length->0<=aC es j
 q1:∀i (hi:i<es.length),es[i].kind=1->∀t∈l,(t.a.toList==f.a.toList&&t.b.toList==f.b.toList&&t.r.toList==f.r.toList)=true->t.s.toList.isEmpty=false->rk ⟨t.c,t.d,t.s,f.c,f.d⟩+Ao es i<=rk f
 q2:∀i (hi:i<es.length),es[i].kind=2->rk ⟨f.a,f.b,es[i].name,f.c,f.d⟩+Ao es i<=rk f
 q3:∀i (hi:i<es.length),es[i].kind=3->∀t∈l,(t.a.toList==f.a.toList&&t.b.toList==f.b.toList&&t.r.toList==es[i].over.toList)=true->rk ⟨t.c,t.d,es[i].name,f.c,f.d⟩+Ao es i<=rk f
 k6:∀i (hi:i<es.length),es[i].kind=6->es[i].kids.length=2
section
variable  {l:Q05}{rk:Fc->Int}{es:Q09}{f:Fc}
def JH(rk:Fc->Int)(r:Int)(a b:Q04):Prop:=∀g:Fc,rk g<r->(g∈a↔g∈b)
def Vt(rk:Fc->Int)(r:Int)(a b:Q04):Prop:=∀g:Fc,rk g<=r->g∈a->g∈b
def vZ{a b:Q04}{r:Int}(h:JH rk r a b){g:Fc}(hg:rk g<r):aR a g=aR b g:=by
 rw[X9,aU,aU];exact h g hg
def wh{a b:Q04}{r:Int}(h:Vt rk r a b){g:Fc}(hg:rk g<=r)(hh:aR a g=true):aR b g=true:=aU.2<|h g hg<|aU.1 hh
def Hm{α:Type}{p q:α->Bool}{xs:List α}(h:∀x∈xs,p x=q x):xs.any p=xs.any q:=by
 rw[X9,Yq,Yq];exact⟨fun⟨x,hx,e⟩=>⟨x,hx,by rw[<-h x hx];exact e⟩,fun⟨x,hx,e⟩=>⟨x,hx,by rw[h x hx];exact e⟩⟩
def UQ{α:Type}{p q:α->Bool}{xs:List α}(h:∀x∈xs,p x=q x):xs.all p=xs.all q:=by
 rw[X9,XY,XY];exact⟨fun e x hx=>by rw[<-h x hx];exact e x hx,fun e x hx=>by rw[h x hx];exact e x hx⟩
def NodeR.kid(h:NodeR l rk es f){i:Nat}(hi:i<es.length){p:Nat}(hp:p<es[i].kids.length):es[i].kids[p].toNat<es.length:=by
 have hk:dx es i=es[i].kids:=by unfold dx;rw[XQ hi];rfl
 have:=((pu _ _ _<|nH<|h.ht i hi).2 es[i].kids[p]<|by rw[hk];exact XI hp).2;omega
def NodeR.same(h:NodeR l rk es f){ta tb:Q04}(hT:JH rk (rk f) ta tb):∀(k:Nat) (a b:Q04) (i:Nat),JH rk (rk f) a b->i<es.length->(dK es).getD i false=true->dC l es ta f k a i=dC l es tb f k b i
 | 0,_,_,_,_,_,_=>rfl
 | k+1,a,b,i,hS,hi,hg=>by
  have hng:Ao es i=1:=by unfold Ao;rw[hg];rfl
  have ZL:∀x∈es[i].kids,∀a b,JH rk (rk f) a b->dC l es ta f k a x.toNat=dC l es tb f k b x.toNat:=fun x hx a b hS=>by
   obtain⟨p,hp,rfl⟩:=Yk hx;exact h.same hT k a b _ hS (h.kid hi hp) (by rw[Nz h.ht hi p hp,hg];rfl)
  unfold dC;rw[XQ hi];simp only;by_cases e1:es[i].kind=1
  ·rw[if_pos e1,if_pos e1];refine Hm fun t ht=>?_;cases hm:(t.a.toList==f.a.toList&&t.b.toList==f.b.toList&&t.r.toList==f.r.toList);case false=>rfl
   cases hs:t.s.toList.isEmpty;case true=>rfl
   have:=h.q1 i hi e1 t ht hm hs;simp only[Bool.false_eq_true,if_false];rw[vZ hS (g:=⟨t.c,t.d,t.s,f.c,f.d⟩) cq]
  rw[if_neg e1,if_neg e1];by_cases e2:es[i].kind=2
  ·rw[if_pos e2,if_pos e2];have:=h.q2 i hi e2;exact vZ hS cq
  rw[if_neg e2,if_neg e2];by_cases e3:es[i].kind=3
  ·rw[if_pos e3,if_pos e3];refine Hm fun t ht=>?_;cases hm:(t.a.toList==f.a.toList&&t.b.toList==f.b.toList&&t.r.toList==es[i].over.toList);case false=>rfl
   have:=h.q3 i hi e3 t ht hm;rw[vZ hS (g:=⟨t.c,t.d,es[i].name,f.c,f.d⟩) cq]
  rw[if_neg e3,if_neg e3];by_cases e4:es[i].kind=4
  ·rw[if_pos e4,if_pos e4];exact Hm fun x hx=>ZL x hx a b hS
  rw[if_neg e4,if_neg e4];by_cases e5:es[i].kind=5
  ·rw[if_pos e5,if_pos e5];exact UQ fun x hx=>ZL x hx a b hS
  rw[if_neg e5,if_neg e5];by_cases e6:es[i].kind=6
  ·rw[if_pos e6,if_pos e6];have hl:=h.k6 i hi e6;have hx:∀q,q<2->es[i].kids.getD q 0∈es[i].kids:=fun q hq=>by
    rw[Yl,XQ cq];exact XI _
   rw[ZL _ (hx 0 cq) a b hS,ZL _ (hx 1 cq) ta tb hT]
  rw[if_neg e6,if_neg e6]
def NodeR.more(h:NodeR l rk es f){ta tb:Q04}(hT:JH rk (rk f) ta tb):∀(k:Nat) (a b:Q04) (i:Nat),Vt rk (rk f) a b->i<es.length->dC l es ta f k a i=true->dC l es tb f k b i=true
 | 0,_,_,_,_,_,hh=>by cases hh
 | k+1,a,b,i,hM,hi,hh=>by
  have hng:0<=Ao es i:=by unfold Ao;split<;>omega
  have ZL:∀x∈es[i].kids,dC l es ta f k a x.toNat=true->dC l es tb f k b x.toNat=true:=fun x hx=>by
   obtain⟨p,hp,rfl⟩:=Yk hx;exact h.more hT k a b _ hM<|h.kid hi hp
  unfold dC at hh⊢;rw[XQ hi]at hh⊢;simp only at hh⊢;by_cases e1:es[i].kind=1
  ·rw[if_pos e1]at hh ⊢;obtain⟨t,ht,e⟩:=Yq.1 hh;refine Yq.2 ⟨t,ht,?_⟩;rw[XN]at e ⊢;refine⟨e.1,?_⟩;cases hs:t.s.toList.isEmpty;case true=>have:=e.2;rw[hs]at this;exact this
   have h2:=e.2;rw[hs]at h2;simp only[Bool.false_eq_true,if_false]at h2 ⊢;have:=h.q1 i hi e1 t ht e.1 hs;exact wh hM cq h2
  rw[if_neg e1]at hh ⊢;by_cases e2:es[i].kind=2
  ·rw[if_pos e2]at hh ⊢;have:=h.q2 i hi e2;exact wh hM cq hh
  rw[if_neg e2]at hh ⊢;by_cases e3:es[i].kind=3
  ·rw[if_pos e3]at hh ⊢;obtain⟨t,ht,e⟩:=Yq.1 hh;refine Yq.2 ⟨t,ht,?_⟩;rw[XN]at e ⊢;have:=h.q3 i hi e3 t ht e.1;exact⟨e.1,wh hM cq e.2⟩
  rw[if_neg e3]at hh ⊢;by_cases e4:es[i].kind=4
  ·rw[if_pos e4]at hh ⊢;obtain⟨x,hx,e⟩:=Yq.1 hh;exact Yq.2 ⟨x,hx,ZL x hx e⟩
  rw[if_neg e4]at hh ⊢;by_cases e5:es[i].kind=5
  ·rw[if_pos e5]at hh ⊢;exact XY.2 fun x hx=>ZL x hx<|XY.1 hh x hx
  rw[if_neg e5]at hh ⊢;by_cases e6:es[i].kind=6
  ·rw[if_pos e6]at hh ⊢;have hl:=h.k6 i hi e6;have hx:∀q (hq:q<2),es[i].kids.getD q 0=es[i].kids[q]'cq:=fun q hq=>by
    rw[Yl,XQ cq];rfl
   rw[XN]at hh ⊢;refine⟨?_,?_⟩
   ·have h0:=hh.1;rw[hx 0 cq]at h0 ⊢;exact ZL _ (XI _) h0
   have h1:=hh.2;rw[hx 1 cq]at h1 ⊢;have hf:(dK es).getD (es[i].kids[1]'cq).toNat false=true:=by
    rw[Nz h.ht hi 1 cq,e6];simp
   rw[<-h.same hT k ta tb _ hT (h.kid hi cq) hf];exact h1
  rw[if_neg e6]at hh;cases hh
end
def UR(ts:Q0b)(st:Q00)(g:Fc):Int:=if hasB ts g.a g.r then st (g.a,g.r) else -1
def UT(ts:Q0b)(t:Tp):Bool:=(aH ts t.a t.r).any fun e=>decide (e.kind=1)&&dR e.allow e.allow.length ⟨t.c,t.s⟩
def JI{ts:Q0b}{a r:ByteArray}:hasB ts a r=true↔aH ts a r≠[]:=by
 unfold hasB;cases aH ts a r<;>simp
def Dm{ts:Q0b}{typ:ByteArray}{es:Q09}{i:Nat}{d:Dp}(h:d∈iN ts typ es i):∀k,i<k->d∈aY ts typ es k
 | 0,hi=>absurd hi<|YG _
 | k+1,hi=>by
  unfold aY;by_cases e:i=k
  ·subst e;exact List.mem_append_right _ h
  exact YN _<|Dm h k cq
def Dn{ng:Bool}{a:Al}:∀{xs:Q0a},a∈xs->a.s.toList.isEmpty=false->(⟨a.t,a.s,ng⟩:Dp)∈dB ng xs
 | [],h,_=>by cases h
 | x::xs,h,hs=>by
  unfold dB;rcases X7.1 h with rfl|h
  ·rw[if_neg (by rw[hs];decide)];exact Yx ..
  split
  ·exact Dn h hs
  exact Yt _<|Dn h hs
def SG{ts:Q0b}{rel:ByteArray}{a:Al}:∀{xs:Q0a},a∈xs->hasB ts a.t rel=true->a.t∈gl ts rel xs
 | [],h,_=>by cases h
 | x::xs,h,hs=>by
  unfold gl;rcases X7.1 h with rfl|h
  ·rw[if_neg (by unfold hasB at hs;simpa using hs)];exact Yx ..
  split
  ·exact SG h hs
  exact Yt _<|SG h hs
def FW{xs:Q0a}{c s:ByteArray}(h:dR xs xs.length ⟨c,s⟩=true):(⟨c,s⟩:Al)∈xs:=by
 unfold dR at h;rw[X8]at h;obtain⟨a,ha,e⟩:=Yq.1 h;unfold kN at e;rw[XN,beq_iff_eq,beq_iff_eq]at e;have:a=⟨c,s⟩:=by
  cases a;simp only at e;rw[kV e.1,kV e.2]
 rw[<-this];exact ha
def UU{es:Q09}(h:own es<=1){i j:Nat}(hi:i<es.length)(hj:j<es.length)(ki:es[i].kind=1)(kj:es[j].kind=1):i=j:=by
 have key:∀(es:Q09) (i j:Nat) (hi:i<es.length) (hj:j<es.length),es[i].kind=1->es[j].kind=1->i<j->2<=own es:=by
  intro es
  induction es with
  | nil=>intro i j hi;simp at hi
  | cons e es ih =>
   intro i j hi hj ki kj hij;unfold own;rw[YS];cases j with
   | zero=>omega
   | succ j =>
    have kj':(es[j]'(by simpa using hj)).kind=1:=by simpa using kj
    cases i with
    | zero =>
     have ki':e.kind=1:=by simpa using ki
     have:0<(es.filter fun e=>decide (e.kind=1)).length:=List.length_pos_of_mem (a:=es[j]'(by simpa using hj)) (YL.2 ⟨XI _,by simpa using kj'⟩);simp[ki'];omega
    | succ i =>
     have:=ih i j (by simpa using hi) (by simpa using hj) (by simpa using ki) kj' cq;unfold own at this;split
     ·simp;omega
     exact this
 rcases Nat.lt_trichotomy i j with h1|h1|h1
 ·have:=key es i j hi hj ki kj h1;omega
 ·exact h1
 have:=key es j i hj hi kj ki h1;omega
def SH{ts:Q0b}{l:Q05}{st:Q00}(hS:Sol ts st)(hsh:bz ts=true)(hrf:jd ts=true)(hfit:∀t∈l,UT ts t=true){f:Fc}(hf:aH ts f.a f.r≠[]):NodeR l (UR ts st) (aH ts f.a f.r) f:=by
 obtain⟨es,hes⟩:=eQx<|aH ts f.a f.r;have hp:fI ts f.a f.r=some es:=by
  rw[hes];cases e:fI ts f.a f.r with
  | none=>unfold aH at hf;rw[e]at hf;exact absurd rfl hf
  | some x=>unfold aH;rw[e];rfl
 obtain⟨t0,ht0,r0,hr0,en,er,ee⟩:=wT hp;have hspec:=(Lc hsh ht0 hr0).2;rw[ee]at hspec;have hk:(f.a,f.r)∈ay ts:=by
  unfold ay jN;exact XZ.2 ⟨t0,ht0,XW.2 ⟨r0,hr0,by rw[en,er]⟩⟩
 have hrk:UR ts st f=st (f.a,f.r):=by unfold UR;rw[if_pos (JI.2 hf)]
 have hup:∀i,i<es.length->∀d∈iN ts f.a es i,st (d.typ,d.rel)+stepOf d<=st (f.a,f.r):=fun i hi d hd=>hS.up _ hk d (by show d∈q8 ts f.a (aH ts f.a f.r);rw[<-hes];exact Dm hd _ hi);have hpos:=hS.pos (f.a,f.r);have hng:∀i,0<=Ao es i/\Ao es i<=1:=fun i=>by unfold Ao;split<;>omega
 -- whatever a node asks by a name that it leans on
 have ask:∀i (hi:i<es.length) (g:Fc),(hasB ts g.a g.r=true->(⟨g.a,g.r,(dK es).getD i false⟩:Dp)∈iN ts f.a es i)->UR ts st g+Ao es i<=UR ts st f:=fun i hi g h=>by
  rw[hrk];have h1:=hng i;unfold UR;split
  ·rename_i hb;have h2:=hup i hi _<|h hb;unfold stepOf at h2;unfold Ao;exact h2
  omega
 rw[<-hes];have hdA:∀i (hi:i<es.length),iN ts f.a es i=dB ((dK es).getD i false) es[i].allow++mh ts f.a ((dK es).getD i false) es[i]:=fun i hi=>by unfold iN;rw[XQ hi]
 have hspec2:=hspec;unfold aS at hspec2;simp only[XN,XU]at hspec2;obtain⟨⟨⟨⟨⟨-,-⟩,hnb⟩,hku⟩,hown⟩,htr⟩:=hspec2;refine⟨fun j hj=>?_,fun i hi k1 t ht hm hs=>?_,fun i hi k2=>?_,fun i hi k3 t ht hm=>?_,fun i hi k6=>?_⟩
 ·exact oJ es (es.length-1) (by rw[htr];exact Int.le_refl _) j (by rw[htr];omega) cq
 ·refine ask i hi _ fun hb=>?_;rw[XN,XN,beq_iff_eq,beq_iff_eq,beq_iff_eq]at hm;have h1:=hfit t ht;unfold UT at h1;rw[kV hm.1.1,kV hm.2,<-hes]at h1;obtain⟨e,he,h2⟩:=Yq.1 h1;rw[XN,XU]at h2;obtain⟨j,hj,rfl⟩:=Yk he;have:=UU hown hi hj k1 h2.1;subst this;rw[hdA i hi];exact YN _<|Dn (FW h2.2) hs
 ·refine ask i hi _ fun hb=>?_;rw[hdA i hi];refine List.mem_append_right _ ?_;unfold mh;rw[if_pos k2];exact XX.2 rfl
 ·refine ask i hi _ fun hb=>?_;rw[XN,XN,beq_iff_eq,beq_iff_eq,beq_iff_eq]at hm;have hrn:=(Ug hrf ht0 hr0 (e:=es[i])<|by rw[ee];exact XI hi).2;unfold mF at hrn;rw[if_neg (by rw[k3];decide),if_pos k3]at hrn;simp only[XN]at hrn;have hdir:=hrn.1;rw[en]at hdir;have h1:=hfit t ht;unfold UT at h1;rw[kV hm.1.1,kV hm.2]at h1;have hmem:(⟨t.c,t.s⟩:Al)∈bn (aH ts f.a es[i].over):=by
   rcases hre:aH ts f.a es[i].over with _|⟨e,_|⟨e2,rest⟩⟩
   ·rw[hre]at hdir;simp[bQ]at hdir
   ·rw[hre]at hdir h1;simp only[bQ,XN,XU]at hdir;obtain⟨e',he',h2⟩:=Yq.1 h1;rw[XX]at he';subst he';rw[XN]at h2;simp only[bn,if_pos hdir.1];exact FW h2.2
   rw[hre]at hdir;simp[bQ]at hdir
  rw[hdA i hi];refine List.mem_append_right _ ?_;unfold mh;rw[if_neg (by rw[k3];decide),if_pos k3];exact XW.2 ⟨t.c,SG (a:=⟨t.c,t.s⟩) hmem hb,rfl⟩
 have h:=XY.1 hnb _<|XI hi;unfold aD at h;simp[k6]at h;exact h.1.1.1
def Ms{ts:Q0b}{st:Q00}{xo xu:Q0a}{n:Int}(hen:∀k∈ay ts,hasB ts k.1 k.2=true){f:Fc}(h:f∈di ts st xo xu n):UR ts st f=n:=by
 unfold di yN jH DZ at h;obtain⟨o,-,h⟩:=XZ.1 h;obtain⟨k,hk,h⟩:=XZ.1 h;obtain⟨u,-,rfl⟩:=XW.1 h;obtain⟨hk1,hk2⟩:=YL.1 hk;rw[XN,beq_iff_eq,XU]at hk2;have e1:k.1=o.t:=kV hk2.1;have hb:hasB ts o.t k.2=true:=by
  rw[<-e1];exact hen k hk1
 unfold UR;rw[if_pos hb];show st (o.t,k.2)=n;rw[<-e1];exact hk2.2
section
variable  [DecidableEq Fc]
end
end Go.Proofs.YtojjoblnpldniaaGreat
