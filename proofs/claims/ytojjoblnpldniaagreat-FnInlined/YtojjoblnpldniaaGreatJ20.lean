/- Contract of the document's Inlined. -/
import Derived.Test.YtojjoblnpldniaaGreatSq
import Derived.Test.YtojjoblnpldniaaGreatJ17
import Derived.Test.YtojjoblnpldniaaGreatJ18
import Derived.Test.YtojjoblnpldniaaGreatJ19
import Derived.Test.YtojjoblnpldniaaGreatJ16
import Derived.OpenShut
import Derived.ShutString
import Derived.HandedShaped
open Go.Proofs.Tryz
set_option maxHeartbeats 80000000
set_option linter.defProp false
namespace Go.Proofs.YtojjoblnpldniaaGreat
set_option maxRecDepth 100000
set_option linter.unusedVariables false
open ChangeShapes WideShapes ChangeAt RowKit Maps
open Pl
theorem Ab(ad:Q02)(cap:Nat)(rs:Q06)(typ rel:bN)(w:af)(hlen:rs.length<=1048576)(hs:jX w ad rs)(hl:∀r∈rs,r.light)(hf:∀r∈rs,r.fits):
  Calls prog 46 #[.slice ad rs.length cap,.string typ,.string rel] w (Vu w<|kP (ae rs) typ rel):=by
 have HS:=aF hs;have HL:=aF hl;have Yc:=aF hf;clear hs hl hf;go_enter func46,ntmps46;go_wp2_with fail;refine(jM ad cap rs typ rel _ hlen HS.out HL.out).mono ?_;rintro e w0 ⟨⟨Yd,X9,capE,rfl,hex0,hse0,hfr0⟩,hw0⟩;replace hw0:=hw0.symm;subst hw0;have HX0:O (ai Yd=aj (ae rs) typ rel):=hex0;have HSE0:=aF hse0;have HFR0:=aF hfr0;clear hex0 hse0 hfr0;go_wp2_with fail;refine(gI ad cap rs _ hlen HS.out HL.out Yc.out).mono ?_;rintro e w1 ⟨rfl,hb1⟩;have HB1:=aB hb1;clear hb1;cases hd:aG (ae rs);case false=>
  have HN:O (kP (ae rs) typ rel=none):=by show _=_;unfold kP;rw[hd];rfl
  clear hd;go_wp2;refine bodyPost_ret (v:=.tuple #[.slice none 0 0,.bool false]) ?_ rfl (jh HN.out HB1.out);simp[results,Tryz.results46,go_sem]
 have HD:=aF hd;have hSP:=aM.1 hd;obtain⟨h6,YN,hex⟩:=aW hSP.1;have Za:=aF YN;have ZH:=aF hex;have HSHP:=aF hSP.1;have hrl:Yd.length<=15:=by
  rcases HFR0.out with h|⟨t,ht,q,hq,h,-⟩
  ·rw[h];simp
  rw[h];exact(hex t ht q hq).2.1
 clear hd hSP YN hex;by_cases hz0:Yd=[]
 ·have HN:O (kP (ae rs) typ rel=none):=by
   have e:aj (ae rs) typ rel=[]:=by rw[<-HX0.out,hz0];rfl
   show _=_;unfold kP;rw[e];simp
  have hlz:(Yd.length:Int)=0:=by rw[hz0];rfl
  clear hz0;go_wp2;refine bodyPost_ret (v:=.tuple #[.slice none 0 0,.bool false]) ?_ rfl (jh HN.out HB1.out);simp[results,Tryz.results46,go_sem]
 have hlz:¬(Yd.length:Int)=0:=fun h=>hz0<|Xb.1 cq;have hlz2:((Yd.length:Int)==0)=false:=by simpa using hlz
 have HNZ:=aF hz0;have HNE:O ((!(aj (ae rs) typ rel).isEmpty)=true):=by
  show _=_;rw[<-HX0.out];cases Yd with
  | nil=>exact absurd rfl hz0
  | cons a b=>rfl
 have HBODY:O (∃t∈rs,∃q∈t.rows,Yd=q.rows):=by
  rcases HFR0.out with h|⟨t,ht,q,hq,h,-⟩
  ·exact absurd h hz0
  exact⟨t,ht,q,hq,h⟩
 clear hz0;go_wp2_with fail;refine(JC X9 capE Yd rel _ cq<|HSE0.out.below HB1.out).mono ?_;rintro e w2 ⟨rfl,hw2⟩;replace hw2:=hw2.symm;subst hw2;rw[HX0.out,VD];cases hnm:((aj (ae rs) typ rel).any (eX rel) || (aj (ae rs) typ rel).any kz);case true=>
  have HN:O (kP (ae rs) typ rel=none):=by
   show _=_;unfold kP;refine if_neg fun h=>?_;simp only[WM,Bool.not_eq_true']at h;rw[h.1.1.2,h.1.2]at hnm;cases hnm
  clear hnm;go_wp2;refine bodyPost_ret (v:=.tuple #[.slice none 0 0,.bool false]) ?_ rfl (jh HN.out HB1.out);simp[results,Tryz.results46,go_sem]
 rw[Bool.or_eq_false_iff]at hnm;have HNM:=aF hnm.1;obtain⟨F,hF⟩:=eQx<|eF typ rel<|aj (ae rs) typ rel;have HF:=aF hF;have HPD:O (kP (ae rs) typ rel=if aG (jE F<|ae rs)=true then some (jE F<|ae rs) else none):=by
  show _=_;unfold kP;rw[HD.out,HNE.out,hnm.1,hnm.2,hF];simp
 clear hnm hF;go_wp2_with fail;refine(R7 ad cap rs w1 h6 Za.out (fun t ht q hq=>(ZH.out t ht q hq).2.1) (HS.out.below HB1.out) HL.out).mono ?_;rintro e w3 ⟨vO,qs0,rfl,htm,htq,hb3⟩;have HB3:=iD HB1 hb3;have htm2:=dA.mono htm HB1.out.size;have hl0:qs0.length=rs.length:=by rw[<-bz,htq,bz]
 have hpos:qs0.length≠0:=by
  obtain⟨t,ht,-⟩:=HBODY.out;rw[hl0];intro h;rw[Xb.1 h]at ht;cases ht
 obtain⟨Zn,Yp,rfl,-,-⟩:=dA.read htm2;obtain⟨bO,rfl,-⟩:=Iq htm2.own hpos;have HT3:O (dA w3 w.heap.size (.slice (some ⟨bO,0,none⟩) rs.length Yp) qs0/\ae qs0=ae rs):=by rw[<-hl0];exact⟨htm2,htq⟩
 rw[hl0];clear htm htq hb3 htm2 hl0 hpos;go_wp2_with fail;go_loopw[10] (fun i wr=>∃(k:Nat) (qs:Q06),k<=rs.length/\i=.int .i64 k/\O (dA wr w.heap.size (.slice (some ⟨bO,0,none⟩) rs.length Yp) qs)/\O (ae qs=qY F (ae rs) k)/\O (ag w wr)) (fun i _=>rs.length-(intOf i).toNat);case atStart=>exact⟨0,qs0,WO _,rfl,HT3.out.1,by show _=_;rw[Pt];exact HT3.out.2,HB3⟩
 clear HT3;obtain⟨k,qs,hk,rfl,HX,HQ,HB⟩:=hrel;obtain⟨wo,hwo⟩:=eQx wr;subst hwo;by_cases hlt:k<rs.length
 ·have HTM:O (rs[k]∈rs):=WH hlt;have hk1:=bY k;have hk2:(k:Int)<(rs.length:Int):=cq;have YN:rs[k].rows.length<=6:=Za.out _<|WH hlt;have htl:k<(ae rs).length:=by rw[bz];exact hlt
  have HTK:O ((ae rs)[k]=rs[k].p):=by show _=_;simp[ae]
  go_wp2_with fail;go_loopw[11] (fun i wr=>∃(j:Nat) (qs:Q06),j<=rs[k].rows.length/\i=.int .i64 j/\O (dA wr w.heap.size (.slice (some ⟨bO,0,none⟩) rs.length Yp) qs)/\O (ae qs=(qY F (ae rs) k).set k (pR F rs[k].p j))/\O (ag w wr)) (fun i _=>rs[k].rows.length-(intOf i).toNat);case atStart=>exact⟨0,qs,WO _,rfl,HX,by show _=_;rw[Ps,HQ.out,<-HTK.out];exact Uk F (ae rs) k htl,HB⟩
  clear HX HQ HB;obtain⟨j,qs,hj,rfl,HX,HQ,HB⟩:=hrel;have hql:qs.length=rs.length:=by rw[<-bz,HQ.out,List.length_set,Sr,bz]
  have hkq:k<qs.length:=cq;have HQK:O (qs[k].p=pR F rs[k].p j):=by
   have e:(ae qs)[k]'(by rw[bz];exact hkq)=qs[k].p:=by simp[ae]
   show _=_;rw[<-e];simp only[HQ.out];rw[List.getElem_set_self]
  have hnmq:qs[k].name=rs[k].name:=congrArg Ty.name HQK.out;have HRQ:O (df qs[k].rows=(pR F rs[k].p j).rels):=congrArg Ty.rels HQK.out;have hrlq:qs[k].rows.length=rs[k].rows.length:=by rw[<-dP,HRQ.out,JD];exact dP _
  have hrd:=HX.out.own;have HAT:O (PS wr bO (k*2) qs[k]/\bO<wr.heap.size):=by
   obtain⟨a,c,e,h,-⟩:=dA.read HX.out;injection e with e1 e2 e3;subst e1;have:=jX.row h hkq;rwa [Xl]at this
  obtain⟨⟨t0,t1⟩,tb⟩:=HAT.out;rw[hnmq]at t0;rw[hrlq]at t1;have HRL:=aF hrlq;clear hrd hnmq hql hrlq;cases htn:(rs[k].name.toList==typ.toList);case false=>
   have hst:∀r∈rs[k].p.rels,xe F rs[k].p.name r=r:=fun r hr=>by
    obtain⟨q,hq,rfl⟩:=WV.1 hr;unfold xe;rw[HF.out];show Rl.mk _ (dB (eF typ rel (aj (ae rs) typ rel) rs[k].name)<|ai q.rows)=_;rw[tV (ZH.out _ HTM.out q hq).1 (.inl htn)];rfl
   have hmx:pR F rs[k].p j=Du F rs[k].p:=by
    unfold pR Du;have e1:∀xs:List Rl,(∀r∈xs,xe F rs[k].p.name r=r)->xs.map (xe F rs[k].p.name)=xs:=fun xs h=>by
     conv=>rhs;rw[<-List.map_id xs]
     exact List.map_congr_left h
    rw[e1 _ hst,e1 _ fun r hr=>hst r<|List.mem_of_mem_take hr,List.take_append_drop]
   have HQ2:O (ae qs=qY F (ae rs) (k+1)):=by show _=_;rw[HQ.out,hmx,<-HTK.out];exact Fu F (ae rs) k htl
   clear hst hmx;go_wp2;go_roundw;case rel=>exact⟨k+1,qs,cq,cx,HX,HQ2,HB⟩
   simp[intOf]<;>omega
  by_cases hjt:j<rs[k].rows.length
  ·have HJL:O (j<rs[k].p.rels.length):=by show j<(df rs[k].rows).length;rw[dP];exact hjt
   have hjq:j<qs[k].rows.length:=by rw[HRL.out];exact hjt
   have HRJ:O (qs[k].rows[j].p=rs[k].rows[j].p):=by
    have e:(df qs[k].rows)[j]'(by rw[dP];exact hjq)=qs[k].rows[j].p:=by simp[df]
    show _=_;rw[<-e];simp only[HRQ.out];rw[Nf F rs[k].p j HJL.out];show(df rs[k].rows)[j]=_;simp[df]
   have HQM:O (rs[k].rows[j]∈rs[k].rows):=WH hjt;have hsq:Df wr qs[k].ad qs[k].rows:=QQ<|HX.out.kid _<|WH hkq;obtain⟨b2,X7,Y5,hrow2,Zz⟩:=Df.row hsq hjq;obtain⟨s0,s1⟩:=hrow2;have hnr:qs[k].rows[j].name=rs[k].rows[j].name:=congrArg Rl.name HRJ.out;rw[hnr]at s0;rw[Y5]at t1;have hj1:=bY j;have hj2:(j:Int)<(rs[k].rows.length:Int):=cq;have HAD:=aF Y5;clear hnr hsq Y5;cases hre:(rs[k].rows[j].name.toList==rel.toList);case true=>
    have hst:xe F rs[k].p.name rs[k].rows[j].p=rs[k].rows[j].p:=by
     unfold xe;have h1:=nu HSHP.out HTM.out HQM.out;rw[Jr htn,Jr hre]at h1;have h2:aj (ae rs) typ rel=ai rs[k].rows[j].rows:=by unfold aj;rw[h1];rfl
     rw[HF.out];show Rl.mk _ (dB _<|ai rs[k].rows[j].rows)=_;rw[tV (ZH.out _ HTM.out _ HQM.out).1 (.inr<|by rw[<-h2];exact HNM.out)];rfl
    have HQ2:O (ae qs=(qY F (ae rs) k).set k (pR F rs[k].p<|j+1)):=by
     show _=_;rw[HQ.out,Fv F rs[k].p j HJL.out];congr 1;have e:rs[k].p.rels[j]'HJL.out=rs[k].rows[j].p:=by show(df rs[k].rows)[j]=_;simp[df]
     rw[e,hst];have e2:(pR F rs[k].p j).rels.set j rs[k].rows[j].p=(pR F rs[k].p j).rels:=by
      have e3:=Nf F rs[k].p j HJL.out;rw[e]at e3;rw[<-e3];exact List.set_getElem_self _
     rw[e2];rfl
    clear hst;go_wp2;go_roundw;case rel=>exact⟨j+1,qs,cq,cx,HX,HQ2,HB⟩
    simp[intOf]<;>omega
   have HTR:=aF<|HS.out.mem<|WH hlt;obtain⟨bs,offs,hads,hrows,hbls⟩:=Df.row HTR.out hjt;rcases HS.out with hnil|⟨b,off,Yb,hb0,hrT,-⟩
   ·rw[hnil]at hlt;simp at hlt
   subst Yb;obtain⟨z0,z1⟩:=(hrT k hlt).later hb0 HB.out;obtain⟨y0,y1⟩:=hrows.later hbls HB.out;rw[hads]at z1;clear hrT hrows hads;have hoff:b2<wr.heap.size/\X7=0/\(∀y,wr.frozen? ⟨b2,y,none⟩=false)/\w.heap.size<=b2:=by
    have hown:=(HX.out.kid _<|WH hkq).own;unfold TR.vs at hown;obtain⟨g,e1,e2⟩:=Iq hown cq;have e3:=HAD.out;rw[e1]at e3;injection e3 with e3;injection e3 with e4 e5;subst e4;exact⟨Zz,e5.symm,QU hown e2,(hown.lt g e2).1⟩
   have HOFF:O (X7+j*2+1=j*2+1):=by show _=_;rw[hoff.2.1];omega
   have HAD0:O (qs[k].ad=some ⟨b2,0,none⟩):=by show _=_;rw[HAD.out,hoff.2.1]
   have HFZ:=aF hoff.2.2.1;have HB2W:O (w.heap.size<=b2):=hoff.2.2.2;have hs1:=(ZH.out _ HTM.out _ HQM.out).1;have hsl:=(ZH.out _ HTM.out _ HQM.out).2.1;have hfew1:=kL hs1;rw[au]at hfew1;have hl1:(1:Int)<=(rs[k].rows[j].rows.length:Int):=cq;have hl2:(rs[k].rows[j].rows.length:Int)<=15:=cq;have hwrap:IntKind.i64.wrap ((rs[k].rows[j].rows.length:Int)-1)=(rs[k].rows[j].rows.length:Int)-1:=by rw[IntKind.wrap_i64];omega
   have HOE:O (iw w rs[k].rows[j].ad rs[k].rows[j].rows):=Df.mem HTR.out<|WH hjt;have HPUT:O (∀w1:World,ag wr w1->Calls prog 121 #[.slice rs[k].rows[j].ad rs[k].rows[j].rows.length rs[k].rows[j].cap,.int .i64<|(rs[k].rows[j].rows.length:Int)-1,.string rel,.slice X9 Yd.length capE,.slice none 0 0] w1 (Pq w1 w1.heap.size (.slice none 0 0) []<|dB (F rs[k].name)<|ai rs[k].rows[j].rows)):=fun w1 hb1=>by
    have hbw:ag w w1:=HB.out.trans<|hb1.mono HB.out.size;obtain⟨tb,htb,qb,hqb,hrb⟩:=HBODY.out;have hsb:=(ZH.out tb htb qb hqb).1;have hlb:=((HL.out tb htb).2 qb hqb).2;rw[<-hrb]at hsb hlb;have hb0:=kL hsb;rw[au]at hb0;have hfixB:Fixd w X9 Yd:=⟨HSE0.out,hlb,iY hsb,hrl⟩;have hfixE:Fixd w rs[k].rows[j].ad rs[k].rows[j].rows:=⟨HOE.out,((HL.out _ HTM.out).2 _ HQM.out).2,iY hs1,hsl⟩;have hnmB:∀r∈Yd,eX rel r.e=true->r.e.kids=[]:=fun r hr h=>xO (dR hsb r.e<|Xk hr) h;have hnmE:∀r∈rs[k].rows[j].rows,eX rel r.e=true->r.e.kids=[]:=fun r hr h=>xO (dR hs1 r.e<|Xk hr) h;have hsub0:pQ rel (ai ([]:Q08))=fun _=>none:=by funext e;unfold pQ;simp[ai]
    have hbody:Yd≠[]->∀(w2:World) (v:Value) (qs:Q08),ag w w2->w1.heap.size<=w2.heap.size->NodM w2 w1.heap.size v qs->qs.length+Yd.length<=1000->Calls prog 121 #[.slice X9 Yd.length capE,.int .i64<|(Yd.length:Int)-1,.string rel,.slice none 0 0,v] w2 (Pq w2 w1.heap.size v qs<|(ai Yd).map<|eT fun k=>(qs.length:Int)+k):=fun _ w2 v qs h1 h2 h3 h4=>by
     have h5:=yP w w1.heap.size hbw.size rel X9 none capE 0 Yd [] hfixB ct hnmB (fun h=>absurd rfl h) Yd.length (Yd.length-1) cq cq w2 v qs h1 h2 h3 (by rw[hsub0,<-au Yd,Jm hsb,Xv,au];exact h4);rw[hsub0]at h5;have e2:=Jm hsb qs.length;rw[au]at e2;rw[e2]at h5;have e3:((Yd.length-1:Nat):Int)=(Yd.length:Int)-1:=cq
     rw[e3]at h5;exact h5
    have hput:=Uj (typ:=typ) (rel:=rel) (tn:=rs[k].name) (body:=ai Yd) htn hs1 (fun h=>HNZ.out<|by rw[<-Xb,<-au,h];rfl);rw[au,HX0.out,<-HF.out]at hput;have hfewE:(dB (F rs[k].name)<|ai rs[k].rows[j].rows).length<=225:=by
     have h1:=pI (F rs[k].name) (ai rs[k].rows[j].rows) 15 cq (fun e he=>by
      rw[HF.out];unfold eF;split
      ·rw[<-HX0.out,au];exact hrl
      simp) _ (WK _)
     unfold dB;rw[au]at h1 ⊢;omega
    have h5:=yP w w1.heap.size hbw.size rel rs[k].rows[j].ad X9 rs[k].rows[j].cap capE rs[k].rows[j].rows Yd hfixE hrl hnmE hbody rs[k].rows[j].rows.length (rs[k].rows[j].rows.length-1) cq cq w1 (.slice none 0 0) [] hbw (WK _) (KJ.nod<|mY _ _) (by rw[HX0.out];show 0+(jg _ _ _ _ 0).length<=_;rw[hput];omega);have e3:((rs[k].rows[j].rows.length-1:Nat):Int)=(rs[k].rows[j].rows.length:Int)-1:=cq
    rw[e3,HX0.out]at h5;have e4:jg (pQ rel<|aj (ae rs) typ rel) (ai rs[k].rows[j].rows) rs[k].rows[j].rows.length (rs[k].rows[j].rows.length-1) ([]:Q08).length=dB (F rs[k].name) (ai rs[k].rows[j].rows):=hput;rw[e4]at h5;exact h5
   clear hoff hfew1;go_wp2_with fail;clear z0 z1 y0 y1;obtain⟨wi,hwi⟩:=eQx wr;subst hwi;obtain⟨CV,hCV⟩:∃C:Nat->Value,C=fun n=>((Value.slice (some ⟨bO,0,none⟩) rs.length Yp)::(Value.int .i64 k)::(Value.pointer<|some ⟨bO,k*2,none⟩)::(Value.pointer<|some ⟨bO,k*2+1,none⟩)::(Value.slice (some ⟨b2,X7,none⟩) rs[k].rows.length qs[k].cap)::(Value.int .i64 j)::(Value.slice rs[k].rows[j].ad rs[k].rows[j].rows.length rs[k].rows[j].cap)::(Value.slice rs[k].rows[j].ad rs[k].rows[j].rows.length rs[k].rows[j].cap)::(Value.int .i64 rs[k].rows[j].rows.length)::(Value.int .i64<|(rs[k].rows[j].rows.length:Int)-1)::(Value.string rel)::(Value.slice X9 Yd.length capE)::(undef)::(Value.pointer<|some ⟨b2,X7+j*2,none⟩)::(Value.pointer<|some ⟨b2,X7+j*2+1,none⟩)::[]).getD n undef:=⟨_,rfl⟩;have Ya:O (CV 0=Value.slice (some ⟨bO,0,none⟩) rs.length Yp/\CV 1=Value.int .i64 k/\CV 2=Value.pointer (some ⟨bO,k*2,none⟩)/\CV 3=Value.pointer (some ⟨bO,k*2+1,none⟩)/\CV 4=Value.slice (some ⟨b2,X7,none⟩) rs[k].rows.length qs[k].cap/\CV 5=Value.int .i64 j/\CV 6=Value.slice rs[k].rows[j].ad rs[k].rows[j].rows.length rs[k].rows[j].cap/\CV 7=Value.slice rs[k].rows[j].ad rs[k].rows[j].rows.length rs[k].rows[j].cap/\CV 8=Value.int .i64 rs[k].rows[j].rows.length/\CV 9=Value.int .i64 ((rs[k].rows[j].rows.length:Int)-1)/\CV 10=Value.string rel/\CV 11=Value.slice X9 Yd.length capE/\CV 12=undef/\CV 13=Value.pointer (some ⟨b2,X7+j*2,none⟩)/\CV 14=Value.pointer (some ⟨b2,X7+j*2+1,none⟩)):=by show _/\_;rw[hCV];exact⟨rfl,rfl,rfl,rfl,rfl,rfl,rfl,rfl,rfl,rfl,rfl,rfl,rfl,rfl,rfl⟩
   clear hCV;refine dK 15 _ _ (CL 12 14 13 CV wi<|C1 wi<|dB (F rs[k].name)<|ai rs[k].rows[j].rows) cw rfl cw (fun o ho l fq w' hI hp=>?IQ) (vQ [(77,[0,1,2,3,4,5,6,7,8,9,10,11,12,13,14])]) ⟨fun _ _ h=>(by cases h),(WL _ _).drew,fun h=>(by cases h),fun h=>(by cases h)⟩ ?stepR ?finR<;>try dsimp only[uI]
   case IQ =>
    cases ho;intro k hk;have hc:=UF (i:=k) cq
    repeat' rcases hc with rfl|hc
    ·exact hp ⟨0,.phase⟩ ct rfl
    ·exact hp ⟨1,.phase⟩ ct rfl
    ·exact hp ⟨2,.phase⟩ ct rfl
    ·exact hp ⟨3,.phase⟩ ct rfl
    ·exact hp ⟨4,.phase⟩ ct rfl
    ·exact hp ⟨5,.phase⟩ ct rfl
    ·exact hp ⟨6,.phase⟩ ct rfl
    ·exact hp ⟨7,.phase⟩ ct rfl
    ·exact hp ⟨8,.phase⟩ ct rfl
    ·exact hp ⟨9,.phase⟩ ct rfl
    ·exact hp ⟨10,.phase⟩ ct rfl
    ·exact hp ⟨11,.phase⟩ ct rfl
    ·exact hp ⟨12,.phase⟩ ct rfl
    ·exact hI.dep<|hp ⟨14,.data⟩ ct rfl
    exact hp ⟨14,.data⟩ ct rfl
   case stepR =>
    rintro i hi o ho l fq w' Yx hI hpre;have HI:=aB hI;have XZ:O (∀e∈o.after,Region.binds .any e=true->l e.on=true):=hpre;clear hI hpre;have hc:=UF (i:=i) cq;clear hi
    repeat' rcases hc with rfl|hc
    ·cases ho;have HP:=aF<|HI.out.put (i:=0) cv (fun h=>absurd h cv) Ya.out.1.symm;refine aa rfl fun K HK=>?_;clear XZ HI;dsimp only;go_simp;exact HK.out _ _ ⟨_,by simp[upd],HP.out⟩
    ·cases ho;have HP:=aF<|HI.out.put (i:=1) cv (fun h=>absurd h cv) Ya.out.2.1.symm;refine aa rfl fun K HK=>?_;clear XZ HI;dsimp only;go_simp;exact HK.out _ _ ⟨_,by simp[upd],HP.out⟩
    ·cases ho;have e0:fq 0=.slice (some ⟨bO,0,none⟩) rs.length Yp:=(HI.out.val 0 cv<|XZ.out ⟨0,.data⟩ ct rfl).trans Ya.out.1;have e1:fq 1=.int .i64 k:=(HI.out.val 1 cv<|XZ.out ⟨1,.data⟩ ct rfl).trans Ya.out.2.1;have HP:=aF<|HI.out.put (i:=2) cv (fun h=>absurd h cv) Ya.out.2.2.1.symm;refine aa rfl fun K HK=>?_;clear XZ HI;simp only[e0,e1];go_simp;exact HK.out _ _ ⟨_,by simp[upd,e0,e1],HP.out⟩
    ·cases ho;have e2:fq 2=.pointer (some ⟨bO,k*2,none⟩):=(HI.out.val 2 cv<|XZ.out ⟨2,.data⟩ ct rfl).trans Ya.out.2.2.1;have HP:=aF<|HI.out.put (i:=3) cv (fun h=>absurd h cv) Ya.out.2.2.2.1.symm;refine aa rfl fun K HK=>?_;clear XZ HI;simp only[e2];go_simp;exact HK.out _ _ ⟨_,by simp[upd,e2],HP.out⟩
    ·cases ho;have e3:fq 3=.pointer (some ⟨bO,k*2+1,none⟩):=(HI.out.val 3 cv<|XZ.out ⟨3,.data⟩ ct rfl).trans Ya.out.2.2.2.1;have x1:=kept HI.out.bel HAT.out.2 t1;have HP:=aF<|HI.out.put (i:=4) cv (fun h=>absurd h cv) Ya.out.2.2.2.2.1.symm;refine aa rfl fun K HK=>?_;clear XZ HI;simp only[e3];go_simp;exact HK.out _ _ ⟨_,by simp[upd,e3],HP.out⟩
    ·cases ho;have HP:=aF<|HI.out.put (i:=5) cv (fun h=>absurd h cv) Ya.out.2.2.2.2.2.1.symm;refine aa rfl fun K HK=>?_;clear XZ HI;dsimp only;go_simp;exact HK.out _ _ ⟨_,by simp[upd],HP.out⟩
    ·cases ho;have HP:=aF<|HI.out.put (i:=6) cv (fun h=>absurd h cv) Ya.out.2.2.2.2.2.2.1.symm;refine aa rfl fun K HK=>?_;clear XZ HI;dsimp only;go_simp;exact HK.out _ _ ⟨_,by simp[upd],HP.out⟩
    ·cases ho;have HP:=aF<|HI.out.put (i:=7) cv (fun h=>absurd h cv) Ya.out.2.2.2.2.2.2.2.1.symm;refine aa rfl fun K HK=>?_;clear XZ HI;dsimp only;go_simp;exact HK.out _ _ ⟨_,by simp[upd],HP.out⟩
    ·cases ho;have e7:fq 7=.slice rs[k].rows[j].ad rs[k].rows[j].rows.length rs[k].rows[j].cap:=(HI.out.val 7 cv<|XZ.out ⟨7,.data⟩ ct rfl).trans Ya.out.2.2.2.2.2.2.2.1;have HP:=aF<|HI.out.put (i:=8) cv (fun h=>absurd h cv) Ya.out.2.2.2.2.2.2.2.2.1.symm;refine aa rfl fun K HK=>?_;clear XZ HI;simp only[e7];go_simp;exact HK.out _ _ ⟨_,by simp[upd,e7],HP.out⟩
    ·cases ho;have e8:fq 8=.int .i64 rs[k].rows[j].rows.length:=(HI.out.val 8 cv<|XZ.out ⟨8,.data⟩ ct rfl).trans Ya.out.2.2.2.2.2.2.2.2.1;have HP:=aF<|HI.out.put (i:=9) cv (fun h=>absurd h cv) Ya.out.2.2.2.2.2.2.2.2.2.1.symm;refine aa rfl fun K HK=>?_;clear XZ HI;simp only[e8];go_simp;exact HK.out _ _ ⟨_,by simp[upd,e8],HP.out⟩
    ·cases ho;have HP:=aF<|HI.out.put (i:=10) cv (fun h=>absurd h cv) Ya.out.2.2.2.2.2.2.2.2.2.2.1.symm;refine aa rfl fun K HK=>?_;clear XZ HI;dsimp only;go_simp;exact HK.out _ _ ⟨_,by simp[upd],HP.out⟩
    ·cases ho;have HP:=aF<|HI.out.put (i:=11) cv (fun h=>absurd h cv) Ya.out.2.2.2.2.2.2.2.2.2.2.2.1.symm;refine aa rfl fun K HK=>?_;clear XZ HI;dsimp only;go_simp;exact HK.out _ _ ⟨_,by simp[upd],HP.out⟩
    ·cases ho;have e6:fq 6=.slice rs[k].rows[j].ad rs[k].rows[j].rows.length rs[k].rows[j].cap:=(HI.out.val 6 cv<|XZ.out ⟨6,.data⟩ ct rfl).trans Ya.out.2.2.2.2.2.2.1;have e9:fq 9=.int .i64 ((rs[k].rows[j].rows.length:Int)-1):=(HI.out.val 9 cv<|XZ.out ⟨9,.data⟩ ct rfl).trans Ya.out.2.2.2.2.2.2.2.2.2.1;have e10:fq 10=.string rel:=(HI.out.val 10 cv<|XZ.out ⟨10,.data⟩ ct rfl).trans Ya.out.2.2.2.2.2.2.2.2.2.2.1;have e11:fq 11=.slice X9 Yd.length capE:=(HI.out.val 11 cv<|XZ.out ⟨11,.data⟩ ct rfl).trans Ya.out.2.2.2.2.2.2.2.2.2.2.2.1;have HB':=aF HI.out.bel;refine aa rfl fun K HK=>?_;clear XZ;simp only[e6,e9,e10,e11];go_simp;refine(HPUT.out w' HB'.out).mono ?_;rintro e w9 ⟨v9,qs9,rfl,h1,h2,h3,-⟩;rw[XR]at h1;obtain⟨ad9,YP,rfl⟩:=jT h1.own;have Y6:ag w' w9:=h3.below (WK _) (fun g hg=>by simp[Value.ownBlock]at hg);have HP:=aF<|HI.out.call cv (v:=.slice ad9 qs9.length YP) (HB'.out.trans<|Y6.mono HB'.out.size) (show C1 wi (dB (F rs[k].name)<|ai rs[k].rows[j].rows) (.slice ad9 qs9.length YP) w9 from ⟨ad9,YP,qs9,rfl,NodM.mono h1 HB'.out.size,h2,HB'.out.trans<|Y6.mono HB'.out.size⟩);clear h1 h2 h3 Y6 HI;go_wp2_with fail;exact HK.out _ _ ⟨_,by simp[upd,e6,e9,e10,e11],HP.out⟩
    ·cases ho;have e4:fq 4=.slice (some ⟨b2,X7,none⟩) rs[k].rows.length qs[k].cap:=(HI.out.val 4 cv<|XZ.out ⟨4,.data⟩ ct rfl).trans Ya.out.2.2.2.2.1;have e5:fq 5=.int .i64 j:=(HI.out.val 5 cv<|XZ.out ⟨5,.data⟩ ct rfl).trans Ya.out.2.2.2.2.2.1;have HP:=aF<|HI.out.put (i:=13) cv (fun h=>absurd h cv) Ya.out.2.2.2.2.2.2.2.2.2.2.2.2.2.1.symm;refine aa rfl fun K HK=>?_;clear XZ HI;simp only[e4,e5];go_simp;exact HK.out _ _ ⟨_,by simp[upd,e4,e5],HP.out⟩
    cases ho;have e13:fq 13=.pointer (some ⟨b2,X7+j*2,none⟩):=(HI.out.val 13 cv<|XZ.out ⟨13,.data⟩ ct rfl).trans Ya.out.2.2.2.2.2.2.2.2.2.2.2.2.2.1;have HP:=aF<|HI.out.put (i:=14) cv (fun _=>XZ.out ⟨13,.data⟩ ct rfl) Ya.out.2.2.2.2.2.2.2.2.2.2.2.2.2.2.symm;refine aa rfl fun K HK=>?_;clear XZ HI;simp only[e13];go_simp;exact HK.out _ _ ⟨_,by simp[upd,e13],HP.out⟩
   case finR =>
    rintro o ho l fq w' hall hI;obtain rfl:=Option.some.inj ho;obtain⟨ad9,YP,qs9,e12,hn9,he9,Y6⟩:=hI.mid<|hall 12 cq;rw[e12]at hn9;have e14:fq 14=.pointer (some ⟨b2,X7+j*2+1,none⟩):=(hI.val 14 cv<|hall 14 cq).trans Ya.out.2.2.2.2.2.2.2.2.2.2.2.2.2.2;have x1:=kept Y6 Zz s1;have x2:w'.frozen? ⟨b2,X7+j*2+1,none⟩=false:=q8 Y6 Zz<|HFZ.out _;have HT2:=aF<|dA.reput HX.out Y6 hkq hjq HAD0.out HB.out.size hn9;rw[<-HOFF.out]at HT2;have HE9:=aF he9;have YY:O (ag w<|w'.setCell ⟨b2,X7+j*2+1,none⟩<|.slice ad9 qs9.length YP):=(HB.out.trans<|Y6.mono HB.out.size).setCell HB2W.out _;clear hn9 he9 Y6 hall;refine aa rfl fun K HK=>?_;simp only[e12,e14];go_simp;refine HK.out _ _ ?_;clear ho HK K hI Ya e12 e14;obtain⟨y0,hy0⟩:∃y,y=fq 0:=⟨_,rfl⟩;rw[<-hy0];obtain⟨y1,hy1⟩:∃y,y=fq 1:=⟨_,rfl⟩;rw[<-hy1];obtain⟨y2,hy2⟩:∃y,y=fq 2:=⟨_,rfl⟩;rw[<-hy2];obtain⟨y3,hy3⟩:∃y,y=fq 3:=⟨_,rfl⟩;rw[<-hy3];obtain⟨y4,hy4⟩:∃y,y=fq 4:=⟨_,rfl⟩;rw[<-hy4];obtain⟨y5,hy5⟩:∃y,y=fq 5:=⟨_,rfl⟩;rw[<-hy5];obtain⟨y6,hy6⟩:∃y,y=fq 6:=⟨_,rfl⟩;rw[<-hy6];obtain⟨y7,hy7⟩:∃y,y=fq 7:=⟨_,rfl⟩;rw[<-hy7];obtain⟨y8,hy8⟩:∃y,y=fq 8:=⟨_,rfl⟩;rw[<-hy8];obtain⟨y9,hy9⟩:∃y,y=fq 9:=⟨_,rfl⟩;rw[<-hy9];obtain⟨y10,hy10⟩:∃y,y=fq 10:=⟨_,rfl⟩;rw[<-hy10];obtain⟨y11,hy11⟩:∃y,y=fq 11:=⟨_,rfl⟩;rw[<-hy11];obtain⟨y13,hy13⟩:∃y,y=fq 13:=⟨_,rfl⟩;rw[<-hy13];clear hy0 hy1 hy2 hy3 hy4 hy5 hy6 hy7 hy8 hy9 hy10 hy11 hy13 fq l CV;have HQ2:O (ae (qs.set k { qs[k] with rows:=qs[k].rows.set j ⟨qs[k].rows[j].name,qs9,ad9,YP⟩ })=(qY F (ae rs) k).set k (pR F rs[k].p<|j+1)):=by
     show _=_;have e1:ae (qs.set k { qs[k] with rows:=qs[k].rows.set j ⟨qs[k].rows[j].name,qs9,ad9,YP⟩ })=(ae qs).set k ⟨qs[k].name,(df qs[k].rows).set j ⟨qs[k].rows[j].name,ai qs9⟩⟩:=by simp[ae,TR.p,df,RR.p,List.map_set]
     rw[e1,HQ.out,List.set_set,Fv F rs[k].p j HJL.out];congr 1;have e2:qs[k].name=rs[k].p.name:=congrArg Ty.name HQK.out;have e3:qs[k].rows[j].name=rs[k].rows[j].name:=congrArg Rl.name HRJ.out;have e4:rs[k].p.rels[j]'HJL.out=rs[k].rows[j].p:=by show(df rs[k].rows)[j]=_;simp[df]
     rw[HRQ.out,e2,e3,HE9.out,e4];rfl
    clear x1 x2;go_wp2_with fail;go_roundw;case rel=>exact⟨j+1,_,cq,cx,HT2,HQ2,YY⟩
    simp[intOf]<;>omega
  have e1:j=rs[k].p.rels.length:=by show j=(df rs[k].rows).length;rw[dP];omega
  have HQ2:O (ae qs=qY F (ae rs) (k+1)):=by
   show _=_;rw[HQ.out,e1,Sn,<-HTK.out];exact Fu F (ae rs) k htl
  clear e1;go_wp2;go_roundw;case rel=>exact⟨k+1,qs,cq,cx,HX,HQ2,HB⟩
  simp[intOf]<;>omega
 obtain rfl:k=rs.length:=cq;have HTQ:O (ae qs=jE F (ae rs)):=by show _=_;rw[HQ.out,<-bz rs,Sq]
 have hbod:(aj (ae rs) typ rel).length<=15/\∀m∈aj (ae rs) typ rel,m.light/\m.fits:=by
  rw[<-HX0.out];refine⟨by rw[au];exact hrl,fun m hm=>?_⟩;obtain⟨x,hx,rfl⟩:=WV.1 hm;obtain⟨t,ht,q,hq,h⟩:=HBODY.out;rw[h]at hx;exact⟨((HL.out t ht).2 q hq).2 x hx,((Yc.out t ht).2.2 q hq).2.2 x hx⟩
 have hlf:∀t∈rs,∀q∈t.rows,∀x∈q.rows,(F t.name x.e).length<=15/\∀m∈F t.name x.e,m.light/\m.fits:=fun t ht q hq x hx=>by
  rw[HF.out];unfold eF;split
  ·exact hbod
  refine⟨ct,fun m hm=>?_⟩;rw[WZ]at hm;subst hm;exact⟨((HL.out t ht).2 q hq).2 x hx,((Yc.out t ht).2.2 q hq).2.2 x hx⟩
 have Zd:=yO HTQ.out (fun e=>e.light/\e.fits) (fun e g h=>⟨⟨h.1.1,by simpa[eT] using h.1.2⟩,by simpa[eT,Ex.fits] using h.2⟩) (fun t ht q hq x hx=>⟨⟨((HL.out t ht).2 q hq).2 x hx,((Yc.out t ht).2.2 q hq).2.2 x hx⟩,(hlf t ht q hq x hx).2⟩);have hfew:∀t∈rs,∀q∈t.rows,(dB (F t.name)<|ai q.rows).length<=225:=fun t ht q hq=>by
  have h1:=pI (F t.name) (ai q.rows) 15 cq (fun e he=>by
   obtain⟨x,hx,rfl⟩:=WV.1 he;exact(hlf t ht q hq x hx).1) _ (WK _)
  have h2:=(ZH.out t ht q hq).2.1;unfold dB;rw[au]at h1 ⊢;omega
 have HLO:O (∀r∈qs,r.light):=fun t ht=>by
  obtain⟨s,hs,e1,e2,e3⟩:=Zd t ht;refine⟨by have:=Za.out s hs;omega,fun q hq=>?_⟩;obtain⟨q',hq',e4,e5,e6⟩:=e3 q hq;have:=hfew s hs q' hq';exact⟨cq,fun x hx=>(e6 x hx).1⟩
 have HFO:O (∀r∈qs,r.fits):=fun t ht=>by
  obtain⟨s,hs,e1,e2,e3⟩:=Zd t ht;refine⟨by rw[e1];exact(Yc.out s hs).1,by have:=Za.out s hs;unfold maxLen;omega,fun q hq=>?_⟩;obtain⟨q',hq',e4,e5,e6⟩:=e3 q hq;have:=hfew s hs q' hq';exact⟨by rw[e4];exact((Yc.out s hs).2.2 q' hq').1,cy,fun x hx=>(e6 x hx).2⟩
 have hqn:qs.length=rs.length:=by rw[<-bz,HTQ.out];simp[jE,bz]
 have HSO:O (jX wo (some ⟨bO,0,none⟩) qs):=by
  obtain⟨a,c,e,h,-⟩:=dA.read HX.out;injection e with e1 _ _;rw[e1];exact h
 have HSOK:=aF<|gI (some ⟨bO,0,none⟩) Yp qs wo cq HSO.out HLO.out HFO.out;rw[hqn]at HSOK;clear hbod hlf Zd hfew hqn;go_wp2_with fail;refine HSOK.out.mono ?_;rintro e wD ⟨rfl,hbD⟩;have ZW:=iD HB hbD;have HTD:O (dA wD w.heap.size (.slice (some ⟨bO,0,none⟩) rs.length Yp) qs):=X8.below jW HX.out hbD;clear hbD;cases hd2:aG (ae qs);case false=>
  have HN:O (kP (ae rs) typ rel=none):=by show _=_;rw[HPD.out,<-HTQ.out,hd2];rfl
  clear hd2;go_wp2;refine bodyPost_ret (v:=.tuple #[.slice none 0 0,.bool false]) ?_ rfl (jh HN.out ZW.out);simp[results,Tryz.results46,go_sem]
 have HN:O (kP (ae rs) typ rel=some (ae qs)):=by show _=_;rw[HPD.out,<-HTQ.out,hd2];rfl
 clear hd2;go_wp2;refine bodyPost_ret (v:=.tuple #[.slice (some ⟨bO,0,none⟩) rs.length Yp,.bool true]) ?_ rfl ⟨.slice (some ⟨bO,0,none⟩) rs.length Yp,qs,by rw[HN.out];rfl,by rw[HN.out];rfl,HTD.out,ZW.out⟩;simp[results,Tryz.results46,go_sem]
def SF(o n e:bN):(((o++n)++⟨#[32,61,32]⟩)++e)++⟨#[10]⟩=o++(((n++⟨#[32,61,32]⟩)++e)++⟨#[10]⟩):=by
 simp only[Xo]
def U0(o n:bN):((o++⟨#[116,121,112,101,32]⟩)++n)++⟨#[10]⟩=o++gZ n:=by
 unfold gZ;simp only[Xo]
structure Small(rs:Q06):Prop where
 six:rs.length<=6
 rels:∀r∈rs,r.rows.length<=6
 name:∀r∈rs,r.name.size<=12
 names:∀r∈rs,∀q∈r.rows,q.name.size<=12
def Small.of{rs:Q06}(h:bZ<|ae rs):Small rs:=by
 obtain⟨h6,YN,-⟩:=aW h.1;have hn:∀r∈rs,aS r.name=true/\dN (df r.rows) r.rows.length=true:=by
  intro r hr;obtain⟨k,hk,rfl⟩:=Xt hr;exact⟨(mq h.1 k hk).1,(mq h.1 k hk).2.2⟩
 refine⟨h6,YN,fun r hr=>aV (hn r hr).1,fun r hr q hq=>?_⟩;obtain⟨k,hk,rfl⟩:=Xt hq;exact aV (Eh (hn r hr).2 k hk hk).1
set_option maxRecDepth 100000 in
def JI(ad:Q02)(cap:Nat)(rs:Q06)(w:af)(hm:Small rs)(hs:jX w ad rs)(hl:∀r∈rs,r.light)(hf:∀r∈rs,r.fits):
  Calls prog 108 #[.slice ad rs.length cap] w (bj w<|.string<|bP<|ae rs):=by
 have HS:=aB hs;have HL:=aB hl;have Yc:=aB hf;have HM:=aB hm;have h6:=hm.six;clear hs hl hf hm;go_enter func108,ntmps108;go_wp2;go_loopw[3,4] (fun o i wr=>∃(k:Nat) (out:ByteArray),k<=rs.length/\o=.string out/\i=.int .i64 k/\O (out=bP (ae<|rs.take k))/\out.size<=k*23000/\O (ag w wr)) (fun _ i _=>rs.length-(intOf i).toNat);case atStart=>exact⟨0,⟨#[]⟩,WO _,rfl,rfl,rfl,WO _,WL _ _⟩
 case round =>
  obtain⟨k,out,hk,rfl,rfl,HP,hz,HB⟩:=hrel;obtain⟨wo,rfl⟩:∃x,x=wr:=⟨_,rfl⟩;by_cases hlt:k<rs.length
  ·rcases HS.out.below HB.out with rfl|⟨b,off,rfl,hb,hr,hok⟩
   ·simp at hlt
   obtain⟨t0,t1⟩:=hr k hlt;have Yn:O (rs[k].ok wo):=hok rs[k]<|WH hlt;have hn12:=HM.name rs[k]<|WH hlt;have YN:=HM.rels rs[k]<|WH hlt;have HN12:O (∀q∈rs[k].rows,q.name.size<=12):=HM.names rs[k]<|WH hlt;have Z6:O (rs[k].light):=HL _<|WH hlt;have ZN:O (rs[k].fits):=Yc _<|WH hlt;have hk1:=bY k;have hk2:(k:Int)<(rs.length:Int):=cq;have hrl:(rs[k].rows.length:Int)<=6:=cq;clear hr hok;go_wp2;go_loopw[3,5] (fun o i wr=>∃(j:Nat) (o2:ByteArray),j<=rs[k].rows.length/\o=.string o2/\i=.int .i64 j/\O (o2=(out++gZ rs[k].name)++di (df<|rs[k].rows.take j))/\o2.size<=k*23000+18+j*3770/\O (ag wo wr)) (fun _ i _=>rs[k].rows.length-(intOf i).toNat);case atStart=>exact⟨0,_,WO _,rfl,rfl,by show _=_;rw[U0,List.take_zero,show df []=[] from rfl];simp only[di,qG],by rw[U0,WY,lG];omega,WL _ _⟩
   case round =>
    obtain⟨j,o2,hj,rfl,rfl,HI,hz2,HB2⟩:=hrel;replace t0:=aD HB2 hb t0;replace t1:=aD HB2 hb t1;have hbw:cU b wr:=WJ hb HB2.size;by_cases hjl:j<rs[k].rows.length
    ·rcases Yn.out.below HB2.out with hnil|⟨b2,X7,had,hb2,hr2,hok2⟩
     ·rw[hnil]at hjl;simp at hjl
     rw[had]at t1;obtain⟨u0,u1⟩:=hr2 j hjl;have HOQ:O (rs[k].rows[j].ok wr):=hok2 rs[k].rows[j]<|WH hjl;have hj1:=bY j;have hj2:(j:Int)<(rs[k].rows.length:Int):=cq;have hq12:=HN12 _<|WH hjl;have HQL:O (rs[k].rows[j].light):=Z6.2 _<|WH hjl;have HQF:O (rs[k].rows[j].fits):=ZN.2.2 _<|WH hjl;obtain⟨ex,hex⟩:=eQx<|dS<|ai rs[k].rows[j].rows;have ZH:O (ex=dS (ai rs[k].rows[j].rows)):=hex;have hxs:ex.size<=3750:=by rw[hex];exact qF _
     have q1:(9223372036854775807<o2.size+rs[k].rows[j].name.size)=False:=by simp;omega
     have q2:(9223372036854775807<o2.size+rs[k].rows[j].name.size+3)=False:=by simp;omega
     have q3:(9223372036854775807<o2.size+rs[k].rows[j].name.size+3+ex.size)=False:=by simp;omega
     have q4:(9223372036854775807<o2.size+rs[k].rows[j].name.size+3+ex.size+1)=False:=by simp;omega
     have HI2:O ((((o2++rs[k].rows[j].name)++⟨#[32,61,32]⟩)++ex)++⟨#[10]⟩=(out++gZ rs[k].name)++di (df<|rs[k].rows.take<|j+1)):=by
      show _=_;rw[SF,yH _ _ hjl,lF,HI,hex];simp only[Xo,Co]
     have hz3:((((o2++rs[k].rows[j].name)++⟨#[32,61,32]⟩)++ex)++⟨#[10]⟩:ByteArray).size<=k*23000+18+(j+1)*3770:=by
      have e1:(⟨#[32,61,32]⟩:ByteArray).size=3:=rfl;have e2:(⟨#[10]⟩:ByteArray).size=1:=rfl;simp only[WY];omega
     have HZ3:O (((((o2++rs[k].rows[j].name)++⟨#[32,61,32]⟩)++ex)++⟨#[10]⟩:ByteArray).size<=k*23000+18+(j+1)*3770):=hz3;clear hr2 hok2 had hex hz3;go_wp2_with fail;refine bC 24 _ _ (fun n v _=>v=(Value.string o2::.slice (some<|aq b off) rs.length cap::.int .i64 k::.pointer (some<|aq b<|off+k*2)::.pointer (some<|aq b<|off+k*2+1)::.slice (some<|aq b2 X7) rs[k].rows.length rs[k].cap::.int .i64 j::.pointer (some<|aq b2<|X7+j*2)::.pointer (some<|aq b2<|X7+j*2)::.string rs[k].rows[j].name::.string (o2++rs[k].rows[j].name)::.string ((o2++rs[k].rows[j].name)++⟨#[32,61,32]⟩)::.slice (some<|aq b off) rs.length cap::.int .i64 k::.pointer (some<|aq b<|off+k*2)::.pointer (some<|aq b<|off+k*2+1)::.slice (some<|aq b2 X7) rs[k].rows.length rs[k].cap::.int .i64 j::.pointer (some<|aq b2<|X7+j*2)::.pointer (some<|aq b2<|X7+j*2+1)::.slice rs[k].rows[j].ad rs[k].rows[j].rows.length rs[k].rows[j].cap::.string ex::.string (((o2++rs[k].rows[j].name)++⟨#[32,61,32]⟩)++ex)::.string ((((o2++rs[k].rows[j].name)++⟨#[32,61,32]⟩)++ex)++⟨#[10]⟩)::[]).getD n undef) (fun w'=>ag wr w') cw rfl cw cw (vQ [(31,[0,1,2,3,4,5,6,7,8,9,10,11,12,13,14,15,16,17,18,19,20,21,22,23])]) (WL _ _).drew ?stepS ?finS<;>dsimp only[uI];case stepS =>
      rintro i hi o ho fq w' hG hpre;have HG:O (ag wr w'):=hG;replace t1:=aD hG hbw t1;replace u0:=aD hG hb2 u0;replace u1:=aD hG hb2 u1;have HM:O (∀e∈o.after,Region.binds .any e=true->_):=hpre;clear hG hpre;have hc:=UG (i:=i) cq;clear hi
      repeat' rcases hc with rfl|hc
      iterate 21
       ·cases ho;have hm:=HM.out
        try simp[Region.binds]at hm
        refine aa rfl fun K HK=>?_;clear HM
        try simp only[hm]
        go_simp;exact HK _ _ ⟨_,by simp[upd, *],HG,rfl,fun k u hu=>hu⟩
      ·cases ho;have e20:fq 20=.slice rs[k].rows[j].ad rs[k].rows[j].rows.length rs[k].rows[j].cap:=HM ⟨20,.data⟩ ct rfl;refine aa rfl fun K HK=>?_;clear HM;simp only[e20];go_simp;refine(kN _ _ rs[k].rows[j].rows _ HQL.1 HQL.2 HQF.2.2<|HOQ.below HG).mono ?_;rintro e w5 ⟨rfl,hb5⟩;have ZF:=iD HG hb5;rw[<-ZH];clear hb5;go_wp2_with fail;exact HK _ _ ⟨Value.string ex,by simp[upd,e20],ZF,rfl,fun k u hu=>hu⟩
      iterate 2
       ·cases ho;have hm:=HM.out
        try simp[Region.binds]at hm
        refine aa rfl fun K HK=>?_;clear HM
        try simp only[hm]
        go_simp;exact HK _ _ ⟨_,by simp[upd, *],HG,rfl,fun k u hu=>hu⟩
     case finS =>
      rintro o ho fq w' hG hall;have e23:fq 23=.string ((((o2++rs[k].rows[j].name)++⟨#[32,61,32]⟩)++ex)++⟨#[10]⟩):=hall 23 cq;have HG:O (ag wr w'):=hG;clear hG hall;obtain rfl:=Option.some.inj ho;clear ho;refine wpOp_step rfl (fun K hK=>?_);have HK:O (∀a w,_->K a w):=hK;clear hK;simp only[e23];go_simp;refine HK _ _ ?_;clear HK;have HB3:O (ag wo w'):=HB2.trans<|HG.mono HB2.size;go_wp2;go_roundw;case rel=>exact⟨j+1,_,cq,rfl,cx,HI2,HZ3,HB3⟩
      case measure=>simp[intOf]<;>omega
    ·obtain rfl:j=rs[k].rows.length:=cq;have Ye:O (o2=bP (ae<|rs.take<|k+1)):=by
      show _=_;rw[HI,yI _ _ hlt,jK,HP,Xa,Xo]
     have hz4:o2.size<=(k+1)*23000:=cq;have HB3:O (ag w wr):=HB.trans<|HB2.mono HB.size;go_wp2;go_roundw;case rel=>exact⟨k+1,o2,cq,rfl,cx,Ye,hz4,HB3⟩
     case measure=>simp[intOf]<;>omega
  ·obtain rfl:k=rs.length:=cq;have HN:O (out=bP (ae rs)):=by show _=_;rw[HP,Xa]
   go_wp2;go_ret;exact⟨by rw[HN];rfl,HB⟩
set_option maxRecDepth 100000 in
def vJ(ad:Q02)(cap:Nat)(rs:Q06)(w:af)(hlen:bh rs)(hs:jX w ad rs)(hl:∀r∈rs,r.light)(hf:∀r∈rs,r.fits):
  Calls prog 39 #[.slice ad rs.length cap] w (bj w<|.string<|jb<|ae rs):=by
 have HS:=aB hs;have HL:=aB hl;have Yc:=aB hf;clear hs hl hf;go_enter func39,ntmps39;go_wp2_with fail;refine(gI ad cap rs _ hlen HS HL Yc).mono ?_;rintro e w1 ⟨rfl,hb1⟩;have HB1:=aB hb1;clear hb1;cases hd:aG (ae rs);case false=>
  have HN:O (jb (ae rs)=⟨#[]⟩):=by show _=_;unfold jb;rw[hd];rfl
  go_wp2;go_ret;exact⟨by rw[HN];rfl,HB1⟩
 have HN:O (jb (ae rs)=bP (ae rs)):=by show _=_;unfold jb;rw[hd];rfl
 have HM:O (Small rs):=Small.of<|aM.1 hd;clear hd;go_wp2_with fail;refine(JI ad cap rs _ HM (HS.below HB1) HL Yc).mono ?_;rintro e w2 ⟨rfl,hb2⟩;have HB2:=iD HB1 hb2;clear hb2;go_wp2;go_ret;exact⟨by rw[HN];rfl,HB2⟩
def Tryz.lays166j:Go.Proofs.Lays.n166 prog Tryz.lays156_ren:={
 mixed:=Tryz.lays156.mixed
 f166:=Tryz.lays156.f166
 f240:=Tryz.lays156.f240
 f276:=Tryz.lays156.f276
 t0:=Tryz.lays156.t0
 a0:=Tryz.lays156.a0
 z0:=Tryz.lays156.z0
 v0:=Tryz.lays156.v0
 t3:=Tryz.lays156.t3
 a3:=Tryz.lays156.a3
 z3:=Tryz.lays156.z3
 v3:=Tryz.lays156.v3
 t4:=Tryz.lays156.t4
 a4:=Tryz.lays156.a4
 z4:=Tryz.lays156.z4
 v4:=Tryz.lays156.v4
 t9:=Tryz.lays156.t9
 a9:=Tryz.lays156.a9
 z9:=Tryz.lays156.z9
 v9:=Tryz.lays156.v9
 t20:=Tryz.lays156.t20
 a20:=Tryz.lays156.a20
 z20:=Tryz.lays156.z20
 v20:=Tryz.lays156.v20
 t37:=Tryz.lays156.t37
 a37:=Tryz.lays156.a37
 z37:=Tryz.lays156.z37
 v37:=Tryz.lays156.v37
 t70:=Tryz.lays156.t70
 a70:=Tryz.lays156.a70
 z70:=Tryz.lays156.z70
 v70:=Tryz.lays156.v70
 t72:=Tryz.lays156.t72
 a72:=Tryz.lays156.a72
 z72:=Tryz.lays156.z72
 v72:=Tryz.lays156.v72
 t75:=Tryz.lays156.t75
 a75:=Tryz.lays156.a75
 z75:=Tryz.lays156.z75
 v75:=Tryz.lays156.v75
 t164:=Tryz.lays156.t164
 a164:=Tryz.lays156.a164
 z164:=Tryz.lays156.z164
 v164:=Tryz.lays156.v164 }
abbrev C8 (b:Nat)(o:ByteArray)(w:World):Prop:=Lib.IsBuilderF 161 5 b b (Lib.byteCells o.data.toList) w
def oJ{T e:TypeId}{B b:Nat}{bs:Q03}{w w':af}(h:Lib.IsBuilderF T e B b bs w)(hb:ag w w'):Lib.IsBuilderF T e B b bs w':=by
 have one:∀p,Lib.BuilderAtF T e B b p bs w->Lib.BuilderAtF T e B b p bs w':=by
  rintro p ⟨h1,v,h2,h3,h4⟩;have hlt:=Lib.BuilderAtF.lt ⟨h1,v,h2,h3,h4⟩;refine⟨h1,v,(hb.block b hlt).trans h2,⟨h3.1,?_⟩,h4⟩;rcases h3.2 with hn|⟨g,cap,cur,fz,rfl,hg1,hg2,hg3⟩
  ·exact .inl hn
  have hgl:cU g w:=by
   rcases Nat.lt_or_ge g w.heap.size with h'|h'
   ·exact h'
   simp[Array.getElem?_eq_none h']at hg2
  exact .inr ⟨g,cap,cur,fz,rfl,hg1,(hb.block g hgl).trans hg2,hg3⟩
 rcases h with h|h
 ·exact .inl<|one _ h
 exact .inr<|one _ h
def PE(a b:bN):Lib.byteCells a.data.toList++Lib.strCells b=Lib.byteCells (a++b).data.toList:=by
 rw[Lib.strCells_eq,<-Lib.byteCells_append];congr 1
def PG(a:bN):(Lib.byteCells a.data.toList).length=a.size:=by rw[Lib.byteCells_length,Array.length_toList];rfl
def qW(b:Nat)(o s:bN)(w:af)(h:C8 b o w)(hl:o.size+s.size<=1000000)(hbw:cd b w):
  Calls prog 105 #[.pointer (some<|am b),.string s] w fun e w'=>e=.returned (.tuple #[.int .i64 s.size,.nilIface])/\C8 b (o++s) w'/\Below b w w'/\Lib.OthersKept 5 (some b) w w':=by
 refine(Any.Builder_WriteString_k Tryz.lays166j Tryz.Builder_Extra_156 b b _ s w h (by rw[PG];omega) hbw).mono ?_;rintro e w' ⟨rfl,h1,h2,h3⟩;rw[PE]at h1;exact⟨rfl,.inr h1,h2,h3⟩
def JJ(b:Nat)(o:bN)(w:af)(h:C8 b o w)(hbw:cd b w):
  Calls prog 107 #[.pointer (some<|am b)] w fun e w'=>e=.returned (.string o)/\Below b w w':=by
 refine(Any.Builder_String_any_k Tryz.lays169 Tryz.Builder_Extra_169 b b o.data.toList w h hbw).mono ?_;rintro e w' ⟨rfl,-,h2,-⟩;exact⟨rfl,h2⟩
def Fw{b g:Nat}{cs:Array Value}{T:TypeId}{fz:Nat×Nat}{w w':af}(h:w.heap[g]?=some (.cells cs T fz))(hk:Lib.OthersKept 5 (some b) w w')(hg:g≠b)(hT:T≠5):w'.heap[g]?=some (.cells cs T fz) :=
 hk g _ h (fun e=>hg<|Option.some.inj e) (fun c f2 e=>hT<|by injection e)
def PH{g:Nat}{o:Obj}{w w':af}(h:w.heap[g]?=some o)(hb:ag w w'):w'.heap[g]?=some o:=by
 have hgl:cU g w:=by
  rcases Nat.lt_or_ge g w.heap.size with h'|h'
  ·exact h'
  simp[Array.getElem?_eq_none h']at h
 exact(hb.block g hgl).trans h
def BG(w1:World)(g:Nat)(cs:Array Value)(o2 o3:ByteArray)(l:Array Bool)(w:World):Prop:=ag w1 w/\C8 w1.heap.size (if l.getD 8 false=true then o3 else o2) w/\w.heap[g]?=some (.cells cs 39 (0,0))
def BG.next{w1:af}{g i:Nat}{cs:Array Value}{o2 o3:ByteArray}{l:Array Bool}{w w':af}(h:BG w1 g cs o2 o3 l w)(hi:8≠i)(hs:8<l.size)(hb:ag w w'):BG w1 g cs o2 o3 (l.setIfInBounds i true) w':=by
 refine⟨h.1.trans<|hb.mono h.1.size,?_,PH h.2.2 hb⟩;have e:(l.setIfInBounds i true).getD 8 false=l.getD 8 false:=by simp[Array.getD,hs,Ne.symm hi]
 rw[e];exact oJ h.2.1 hb
def BG.line{w1:af}{g:Nat}{cs:Array Value}{o2 o3:ByteArray}{l:Array Bool}{w:af}(h:BG w1 g cs o2 o3 l w)(hs:8<l.size)(hl:l.getD 8 true=false):C8 w1.heap.size o2 w:=by
 have e:l.getD 8 false=false:=by simp[Array.getD,hs]at hl ⊢;exact hl
 have:=h.2.1;rw[e]at this;exact this
def BG.done{w1:af}{g:Nat}{cs:Array Value}{o2 o3:ByteArray}{l:Array Bool}{w w':af}(h:BG w1 g cs o2 o3 l w)(hs:8<l.size)(hb:Below w1.heap.size w w')(hk:Lib.OthersKept 5 (some w1.heap.size) w w')(hg:g≠w1.heap.size)(hB:C8 w1.heap.size o3 w'):BG w1 g cs o2 o3 (l.setIfInBounds 8 true) w':=by
 refine⟨h.1.trans hb,?_,Fw h.2.2 hk hg cv⟩;have e:(l.setIfInBounds 8 true).getD 8 false=true:=by simp[Array.getD,hs]
 rw[e,if_pos rfl];exact hB
set_option maxRecDepth 100000 in
def vL(ad:Q02)(cap:Nat)(rs:Q06)(w:af)(hlen:rs.length<=1048576)(hs:jX w ad rs)(hl:∀r∈rs,r.light)(hf:∀r∈rs,r.fits)(hcp:∀r∈rs,r.caps):
  Calls prog 38 #[.slice ad rs.length cap] w fun e w'=>e=.returned (.string<|jb<|ae rs)/\ag w w':=by
 have HS:=aB hs;have HL:=aB hl;have Yc:=aB hf;have HCP:=aB hcp;clear hs hl hf hcp;go_enter func38,ntmps38;go_wp2_with fail;refine(dz ad cap rs _ hlen HS HL Yc HCP).mono ?_;rintro e w1 ⟨rfl,hb1⟩;have HB1:=aB hb1;clear hb1;cases hd:aG (ae rs);case false=>
  have HN:O (jb (ae rs)=⟨#[]⟩):=by show _=_;unfold jb;rw[hd];rfl
  go_wp2;go_ret;exact⟨by rw[HN];rfl,HB1⟩
 have HN:O (jb (ae rs)=bP (ae rs)):=by show _=_;unfold jb;rw[hd];rfl
 have hm:=Small.of<|aM.1 hd;have HM:=aB hm;have h6:=hm.six;clear hd hm;obtain⟨W1,hW1⟩:=eQx<|w1.alloc<|.cells #[.pointer none,.slice none 0 0] 161;have HA1:=tZ hW1
 have ZW:O (C8 w1.heap.size ⟨#[]⟩ W1) :=
  .inl ⟨WK _,.slice none 0 0,by rw[hW1];exact(Go.MapKept.heap_alloc w1 _).1,⟨by simp[Lib.byteCells],.inl ⟨rfl,by simp[Lib.byteCells]⟩⟩,by simp[Value.ownBlock]⟩
 go_wp2_with fail;go_wp2;rw[<-hW1];clear hW1;go_loopw[13] (fun i wr=>∃(k:Nat) (out:ByteArray),k<=rs.length/\i=.int .i64 k/\O (out=bP (ae<|rs.take k))/\out.size<=k*23000/\O (ag w1 wr)/\O (C8 w1.heap.size out wr)) (fun i _=>rs.length-(intOf i).toNat);case atStart=>exact⟨0,⟨#[]⟩,WO _,rfl,rfl,WO _,HA1,ZW⟩
 clear ZW HA1;obtain⟨k,out,hk,rfl,HP,hz,HB,ZW⟩:=hrel;have Yg:O (ag w wr):=HB1.trans<|HB.mono HB1.size;by_cases hlt:k<rs.length
 ·rcases HS.out.below Yg.out with hnil|⟨b,off,Yb,hb,hr,hok⟩
  ·rw[hnil]at hlt;simp at hlt
  obtain⟨t0,t1⟩:=hr k hlt;have Yn:O (rs[k].ok wr):=hok rs[k]<|WH hlt;have hn12:=HM.name rs[k]<|WH hlt;have YN:=HM.rels rs[k]<|WH hlt;have HN12:O (∀q∈rs[k].rows,q.name.size<=12):=HM.names rs[k]<|WH hlt;have Z6:O (rs[k].light):=HL _<|WH hlt;have ZN:O (rs[k].fits):=Yc _<|WH hlt;have HCE:O (rs[k].caps):=HCP _<|WH hlt;have hk1:=bY k;have hk2:(k:Int)<(rs.length:Int):=cq;have hrl:(rs[k].rows.length:Int)<=6:=cq;obtain⟨W2,hW2⟩:=eQx<|wr.alloc<|.cells #[.string rs[k].name,.slice rs[k].ad rs[k].rows.length rs[k].cap] 36;have hal:ag wr W2:=by rw[hW2];exact(WL _ _).alloc (WK _) _
  have Yq:=aB hal;have g0:W2.cell? ⟨wr.heap.size,0,none⟩=some (.string rs[k].name):=by rw[hW2];simp
  have g1:W2.cell? ⟨wr.heap.size,1,none⟩=some (.slice rs[k].ad rs[k].rows.length rs[k].cap):=by rw[hW2];simp
  have HW2:O (W2.heap[wr.heap.size]?=some (.cells #[.string rs[k].name,.slice rs[k].ad rs[k].rows.length rs[k].cap] 36 (0,0))):=by show _=_;rw[hW2];exact(Go.MapKept.heap_alloc wr _).1
  clear hr hok hal;rw[Yb];go_wp2_with fail;rw[<-hW2];clear hW2;have HBD2:O (C8 w1.heap.size out W2):=oJ ZW Yq;have hgw:w1.heap.size<=W2.heap.size:=WR HB.size Yq.size;have HGT:O (w1.heap.size<wr.heap.size):=by
   rcases ZW.out with h|h
   ·exact h.lt
   exact h.lt
  refine (qW w1.heap.size out _ _ HBD2 (by
   have:=lG rs[k].name;unfold gZ at this;rw[this];omega) hgw).mono ?_
  rintro e w3 ⟨rfl,hbd3,hb3,hk3⟩;have HBD3:=aB hbd3;have HB3:O (ag w1 w3):=(HB.trans<|Yq.mono HB.size).trans hb3;have hx:=Fw HW2 hk3 (Nat.ne_of_gt HGT) cv;replace g0:w3.cell? ⟨wr.heap.size,0,none⟩=some (.string rs[k].name):=by rw[Lib.cell_of_heap hx];rfl
  replace g1:w3.cell? ⟨wr.heap.size,1,none⟩=some (.slice rs[k].ad rs[k].rows.length rs[k].cap):=by rw[Lib.cell_of_heap hx];rfl
  have HOK3:O (rs[k].ok w3):=(HS.below<|HB1.trans<|HB3.mono HB1.size).mem<|WH hlt;clear hbd3 hb3 hk3 hx HW2 HBD2 ZW Yq hgw t0 t1 Yn;obtain⟨wo,rfl⟩:∃x,x=wr:=⟨_,rfl⟩;go_wp2;go_loopw[25] (fun i wr=>∃(j:Nat) (o2:ByteArray),j<=rs[k].rows.length/\i=.int .i64 j/\O (o2=(out++gZ rs[k].name)++di (df<|rs[k].rows.take j))/\o2.size<=k*23000+18+j*3770/\O (ag w1 wr)/\O (C8 w1.heap.size o2 wr)) (fun i _=>rs[k].rows.length-(intOf i).toNat);case atStart=>exact⟨0,out++gZ rs[k].name,WO _,rfl,by show _=_;rw[List.take_zero,show df []=[] from rfl];simp only[di,qG],by rw[WY,lG];omega,HB3,HBD3⟩
  clear HB3 HBD3 HOK3 g0 g1;obtain⟨j,o2,hj,rfl,HI,hz2,HB3,HBD3⟩:=hrel;have HBW3:O (ag w wr):=HB1.trans<|HB3.mono HB1.size;by_cases hjl:j<rs[k].rows.length
  ·have hok3:rs[k].ok wr:=(HS.below HBW3).mem<|WH hlt;rcases hok3 with hnil|⟨b2,X7,had,hb2,hr2,hok2⟩
   ·rw[hnil]at hjl;simp at hjl
   obtain⟨u0,u1⟩:=hr2 j hjl;have hj1:=bY j;have hj2:(j:Int)<(rs[k].rows.length:Int):=cq;have hq12:=HN12 _<|WH hjl;have HQL:O (rs[k].rows[j].light):=Z6.2 _<|WH hjl;have HQF:O (rs[k].rows[j].fits):=ZN.2.2 _<|WH hjl;have HQC:O (rs[k].rows[j].caps):=HCE.2 _<|WH hjl;obtain⟨ex,hex⟩:=eQx<|dS<|ai rs[k].rows[j].rows;have ZH:O (ex=dS (ai rs[k].rows[j].rows)):=hex;have hxs:ex.size<=3750:=by rw[hex];exact qF _
   have q2:(9223372036854775807<rs[k].rows[j].name.size+3)=False:=by simp;omega
   have q3:(9223372036854775807<rs[k].rows[j].name.size+3+ex.size)=False:=by simp;omega
   have q4:(9223372036854775807<rs[k].rows[j].name.size+3+ex.size+1)=False:=by simp;omega
   have hls:((((rs[k].rows[j].name)++⟨#[32,61,32]⟩)++ex)++⟨#[10]⟩:ByteArray).size<=3770:=by
    have e1:(⟨#[32,61,32]⟩:ByteArray).size=3:=rfl;have e2:(⟨#[10]⟩:ByteArray).size=1:=rfl;simp only[WY];omega
   have HLS:O (((((rs[k].rows[j].name)++⟨#[32,61,32]⟩)++ex)++⟨#[10]⟩:ByteArray).size<=3770):=hls;have HI2:O (o2++((((rs[k].rows[j].name)++⟨#[32,61,32]⟩)++ex)++⟨#[10]⟩)=(out++gZ rs[k].name)++di (df<|rs[k].rows.take<|j+1)):=by
    show _=_;rw[yH _ _ hjl,lF,HI,hex];simp only[Xo,Co]
   have HZ3:O ((o2++((((rs[k].rows[j].name)++⟨#[32,61,32]⟩)++ex)++⟨#[10]⟩)).size<=k*23000+18+(j+1)*3770):=by
    show _<=_;rw[WY];omega
   have HGT3:O (w1.heap.size<wr.heap.size):=by
    rcases HBD3.out with h|h
    ·exact h.lt
    exact h.lt
   obtain⟨W5,Zh⟩:=eQx<|wr.alloc<|.cells #[.string rs[k].rows[j].name,.slice rs[k].rows[j].ad rs[k].rows[j].rows.length rs[k].rows[j].cap] 39;have hal5:ag wr W5:=by rw[Zh];exact(WL _ _).alloc (WK _) _
   have HG0:O (BG w1 wr.heap.size #[.string rs[k].rows[j].name,.slice rs[k].rows[j].ad rs[k].rows[j].rows.length rs[k].rows[j].cap] o2 (o2++((((rs[k].rows[j].name)++⟨#[32,61,32]⟩)++ex)++⟨#[10]⟩)) (Array.replicate 9 false) W5.drew):=by
    have hd:ag wr W5.drew:=hal5.drew;refine⟨HB3.trans<|hd.mono HB3.size,?_,?_⟩
    ·exact oJ HBD3 hd
    show W5.heap[wr.heap.size]?=_;rw[Zh];exact(Go.MapKept.heap_alloc wr _).1
   clear hr2 hok2 hex hls hal5;rw[had];go_wp2_with fail;rw[<-Zh];clear Zh;refine Bu 9 (fun n=>(u29::u30::u31::u32::u33::u34::u35::u36::u37::[]).getD n undef) (fun fq=>{ tmps:=List.toArray (Value.slice (some ⟨b,off,none⟩) rs.length cap::undef::.string { data:=#[] }::.pointer (some ⟨w1.heap.size,0,none⟩)::undef::.pointer (some ⟨wo.heap.size,0,none⟩)::undef::.pointer (some ⟨wr.heap.size,0,none⟩)::.slice (some ⟨b,off,none⟩) rs.length cap::.bool true::.bool false::.slice (some ⟨b,off,none⟩) rs.length cap::.int .i64 rs.length::.int .i64 k::.bool true::.pointer (some ⟨b,off+k*2,none⟩)::.agg #[.string rs[k].name,.slice (some ⟨b2,X7,none⟩) rs[k].rows.length rs[k].cap]::.pointer (some ⟨wo.heap.size,0,none⟩)::.string rs[k].name::.string ({ data:=#[116,121,112,101,32] }++rs[k].name)::.string ({ data:=#[116,121,112,101,32] }++rs[k].name++{ data:=#[10] })::.tuple #[.int .i64 (5+(rs[k].name.size:Int)+1),Value.nilIface]::.pointer (some ⟨wo.heap.size,1,none⟩)::.slice (some ⟨b2,X7,none⟩) rs[k].rows.length rs[k].cap::.int .i64 rs[k].rows.length::.int .i64 j::.bool true::.pointer (some ⟨b2,X7+j*2,none⟩)::.agg #[.string rs[k].rows[j].name,.slice rs[k].rows[j].ad rs[k].rows[j].rows.length rs[k].rows[j].cap]::fq 0::fq 1::fq 2::fq 3::fq 4::fq 5::fq 6::fq 7::fq 8::u38::u39::undef::[]),defers:=[] }) (fun n v _=>v=(Value.pointer (some ⟨wr.heap.size,0,none⟩)::.string rs[k].rows[j].name::.string (rs[k].rows[j].name++⟨#[32,61,32]⟩)::.pointer (some ⟨wr.heap.size,1,none⟩)::.slice rs[k].rows[j].ad rs[k].rows[j].rows.length rs[k].rows[j].cap::.string ex::.string ((rs[k].rows[j].name++⟨#[32,61,32]⟩)++ex)::.string (((rs[k].rows[j].name++⟨#[32,61,32]⟩)++ex)++⟨#[10]⟩)::.tuple #[.int .i64 ((rs[k].rows[j].name.size:Int)+3+(ex.size:Int)+1),Value.nilIface]::[]).getD n undef) (fun listed w'=>BG w1 wr.heap.size #[.string rs[k].rows[j].name,.slice rs[k].rows[j].ad rs[k].rows[j].rows.length rs[k].rows[j].cap] o2 (o2++(((rs[k].rows[j].name++⟨#[32,61,32]⟩)++ex)++⟨#[10]⟩)) listed w') cw rfl cw rfl HG0 ?stepI ?finI;case stepI =>
    rintro i hi o ho listed fq w' hsz Yx hG hpre;have HG:O (BG w1 wr.heap.size #[.string rs[k].rows[j].name,.slice rs[k].rows[j].ad rs[k].rows[j].rows.length rs[k].rows[j].cap] o2 (o2++(((rs[k].rows[j].name++⟨#[32,61,32]⟩)++ex)++⟨#[10]⟩)) listed w'):=hG;have HLI:O (listed.getD i true=false):=Yx;have g0:w'.cell? ⟨wr.heap.size,0,none⟩=some (.string rs[k].rows[j].name):=by rw[Lib.cell_of_heap hG.2.2];rfl
    have g1:w'.cell? ⟨wr.heap.size,1,none⟩=some (.slice rs[k].rows[j].ad rs[k].rows[j].rows.length rs[k].rows[j].cap):=by rw[Lib.cell_of_heap hG.2.2];rfl
    have HM:O (∀e∈o.after,Region.binds .any e=true->_):=hpre;clear hG hpre Yx;have hc:=SV (i:=i) cq;clear hi
    repeat' rcases hc with rfl|hc
    ·cases ho;refine aa rfl fun K HK=>?_;clear HM;dsimp only;go_simp;exact HK _ _ ⟨Value.pointer<|some ⟨wr.heap.size,0,none⟩,by simp[upd],HG.next cv cq<|WL _ _,rfl,fun k u hu=>hu⟩
    ·cases ho;have e0:fq 0=.pointer (some ⟨wr.heap.size,0,none⟩):=HM ⟨0,.data⟩ ct rfl;refine aa rfl fun K HK=>?_;clear HM;simp only[e0];go_simp;exact HK _ _ ⟨Value.string rs[k].rows[j].name,by simp[upd,e0],HG.next cv cq<|WL _ _,rfl,fun k u hu=>hu⟩
    ·cases ho;have e1:fq 1=.string rs[k].rows[j].name:=HM ⟨1,.data⟩ ct rfl;refine aa rfl fun K HK=>?_;clear HM;simp only[e1];go_simp;exact HK _ _ ⟨Value.string<|rs[k].rows[j].name++⟨#[32,61,32]⟩,by simp[upd,e1],HG.next cv cq<|WL _ _,rfl,fun k u hu=>hu⟩
    ·cases ho;refine aa rfl fun K HK=>?_;clear HM;dsimp only;go_simp;exact HK _ _ ⟨Value.pointer<|some ⟨wr.heap.size,1,none⟩,by simp[upd],HG.next cv cq<|WL _ _,rfl,fun k u hu=>hu⟩
    ·cases ho;have e3:fq 3=.pointer (some ⟨wr.heap.size,1,none⟩):=HM ⟨3,.data⟩ ct rfl;refine aa rfl fun K HK=>?_;clear HM;simp only[e3];go_simp;exact HK _ _ ⟨Value.slice rs[k].rows[j].ad rs[k].rows[j].rows.length rs[k].rows[j].cap,by simp[upd,e3],HG.next cv cq<|WL _ _,rfl,fun k u hu=>hu⟩
    ·cases ho;have e4:fq 4=.slice rs[k].rows[j].ad rs[k].rows[j].rows.length rs[k].rows[j].cap:=HM ⟨4,.data⟩ ct rfl;refine aa rfl fun K HK=>?_;clear HM;simp only[e4];go_simp;refine(yN _ _ rs[k].rows[j].rows _ HQL.1 HQL.2 HQF.2.2 HQC.2<|Df.mem (jX.mem (HS.below<|HB1.trans<|HG.1.mono HB1.size)<|WH hlt)<|WH hjl).mono ?_;rintro e w5 ⟨rfl,hb5⟩;have ZF:O (BG w1 wr.heap.size #[.string rs[k].rows[j].name,.slice rs[k].rows[j].ad rs[k].rows[j].rows.length rs[k].rows[j].cap] o2 (o2++(((rs[k].rows[j].name++⟨#[32,61,32]⟩)++ex)++⟨#[10]⟩)) (listed.setIfInBounds 5 true) w5):=HG.next (i:=5) cv cq hb5;rw[<-ZH];clear hb5;go_wp2_with fail;exact HK _ _ ⟨Value.string ex,by simp[upd,e4],ZF,rfl,fun k u hu=>hu⟩
    ·cases ho;have e2:fq 2=.string (rs[k].rows[j].name++⟨#[32,61,32]⟩):=HM ⟨2,.data⟩ ct rfl;have e5:fq 5=.string ex:=HM ⟨5,.data⟩ ct rfl;refine aa rfl fun K HK=>?_;clear HM;simp only[e2,e5];go_simp;exact HK _ _ ⟨Value.string<|(rs[k].rows[j].name++⟨#[32,61,32]⟩)++ex,by simp[upd,e2,e5],HG.next cv cq<|WL _ _,rfl,fun k u hu=>hu⟩
    ·cases ho;have e6:fq 6=.string ((rs[k].rows[j].name++⟨#[32,61,32]⟩)++ex):=HM ⟨6,.data⟩ ct rfl;refine aa rfl fun K HK=>?_;clear HM;simp only[e6];go_simp;exact HK _ _ ⟨Value.string<|((rs[k].rows[j].name++⟨#[32,61,32]⟩)++ex)++⟨#[10]⟩,by simp[upd,e6],HG.next cv cq<|WL _ _,rfl,fun k u hu=>hu⟩
    cases ho;have e7:fq 7=.string (((rs[k].rows[j].name++⟨#[32,61,32]⟩)++ex)++⟨#[10]⟩):=HM ⟨7,.data⟩ ct rfl;refine aa rfl fun K HK=>?_;clear HM;simp only[e7];go_simp;refine(qW w1.heap.size o2 _ _ (HG.line cq HLI) (by have:=HLS.out;omega) HG.1.size).mono ?_;rintro e w5 ⟨rfl,hbd5,hb5,hk5⟩;have ZF:O (BG w1 wr.heap.size #[.string rs[k].rows[j].name,.slice rs[k].rows[j].ad rs[k].rows[j].rows.length rs[k].rows[j].cap] o2 (o2++(((rs[k].rows[j].name++⟨#[32,61,32]⟩)++ex)++⟨#[10]⟩)) (listed.setIfInBounds 8 true) w5):=HG.done cq hb5 hk5 (Nat.ne_of_gt HGT3) hbd5;clear hbd5 hb5 hk5;go_wp2_with fail;exact HK _ _ ⟨Value.tuple #[.int .i64 ((rs[k].rows[j].name.size:Int)+3+(ex.size:Int)+1),Value.nilIface],by simp[upd,e7],ZF,rfl,fun k u hu=>hu⟩
   case finI =>
    rintro listed fq w' hll hG hall;have e8:=hll 8 cq;have HBD4:O (C8 w1.heap.size (o2++(((rs[k].rows[j].name++⟨#[32,61,32]⟩)++ex)++⟨#[10]⟩)) w'):=by have:=hG.2.1;rw[e8,if_pos rfl]at this;exact this
    have YF:O (ag w1 w'):=hG.1;clear hG hall hll e8;go_wp2;go_roundw;case rel=>exact⟨j+1,_,cq,cx,HI2,HZ3,YF,HBD4⟩
    simp[intOf]<;>omega
  obtain rfl:j=rs[k].rows.length:=cq;have Ye:O (o2=bP (ae<|rs.take<|k+1)):=by
   show _=_;rw[HI,yI _ _ hlt,jK,HP,Xa,Xo]
  have hz4:o2.size<=(k+1)*23000:=cq;go_wp2;go_roundw;case rel=>exact⟨k+1,o2,cq,cx,Ye,hz4,HB3,HBD3⟩
  simp[intOf]<;>omega
 obtain rfl:k=rs.length:=cq;have HN2:O (out=bP (ae rs)):=by show _=_;rw[HP,Xa]
 go_wp2_with fail;refine(JJ w1.heap.size out _ ZW HB.size).mono ?_;rintro e w3 ⟨rfl,hb3⟩;have HB3:O (ag w w3):=Yg.trans<|hb3.mono HB1.size;clear hb3;go_wp2;go_ret;exact⟨by rw[HN,<-HN2];rfl,HB3⟩
def sF(rs:Q06)(t:Tp):Bool:=pO (ae rs) t.a t.b t.r t.c t.d t.s
def mG{rs:Q06}{t:Tp}(h:aG (ae rs)=true)(ht:t.ok=true):nA (ae rs) t.a t.r ⟨t.c,t.s⟩=sF rs t:=by
 have hSP:=aM.1 h;have h1:nA (ae rs) t.a t.r ⟨t.c,t.s⟩=dG (aQ<|aj (ae rs) t.a t.r) (aQ<|aj (ae rs) t.a t.r).length ⟨t.c,t.s⟩:=xI _<|Gw hSP _ _;have h2:bW t.a t.b t.r t.c t.d t.s=true:=ht;rw[h1];unfold sF pO;rw[h2,Bool.and_true]
set_option linter.unusedSectionVars false
def yT{xs:Q0a}{o x:Al}(h:x∈il xs o):x∈xs\/x=o:=by
 unfold il at h;split at h
 ·exact .inl h
 rcases WU.1 h with h|h
 ·exact .inl h
 exact .inr (by simpa using h)
def C9:∀(ts:Q05) (xs:Q0a) (o:Al),o∈ts.foldl jf xs->o∈xs \/ ∃t∈ts,o=⟨t.a,t.b⟩\/o=⟨t.c,t.d⟩
 | [],xs,o,h=>.inl h
 | t::ts,xs,o,h=>by
  rcases C9 ts (jf xs t) o h with h|⟨u,hu,h⟩
  ·unfold jf at h;rcases yT h with h|h
   ·rcases yT h with h|h
    ·exact .inl h
    exact .inr ⟨t,ct,.inl h⟩
   exact .inr ⟨t,ct,.inr h⟩
  exact .inr ⟨u,by simp[hu],h⟩
def Da:∀(ts:Q05) (xs:Q0a) (o:Al),o∈ts.foldl fH xs->o∈xs \/ ∃t∈ts,o=⟨t.a,t.b⟩\/o=⟨t.c,t.d⟩
 | [],xs,o,h=>.inl h
 | t::ts,xs,o,h=>by
  rcases Da ts (fH xs t) o h with h|⟨u,hu,h⟩
  ·unfold fH at h;split at h
   ·rcases yT h with h|h
    ·exact .inl h
    exact .inr ⟨t,ct,.inr h⟩
   exact .inl h
  exact .inr ⟨u,by simp[hu],h⟩
def Nk{ts:Q05}(hf:∀t∈ts,t.fits){o:Al}(h:∃t∈ts,o=⟨t.a,t.b⟩\/o=⟨t.c,t.d⟩):o.t.size<=maxLen/\o.s.size<=maxLen:=by
 obtain⟨t,ht,h⟩:=h;obtain⟨h0,h1,h2,h3,h4,h5⟩:=hf t ht;rcases h with rfl|rfl
 ·exact⟨h0,h1⟩
 exact⟨h3,h4⟩
def vM{ts:Q05}(hf:∀t∈ts,t.fits):∀o∈fP ts,o.t.size<=maxLen/\o.s.size<=maxLen:=fun o ho=>by
 rcases C9 ts [] o ho with h|h
 ·cases h
 exact Nk hf h
def sG{ts:Q05}(hf:∀t∈ts,t.fits):∀o∈dC ts,o.t.size<=maxLen/\o.s.size<=maxLen:=fun o ho=>by
 rcases Da ts [] o ho with h|h
 ·cases h
 exact Nk hf h
def GQ:∀(E:List<|KL×RR) (m:Int),m<=E.foldl (fun m x=>max m<|x.1.2+1) m/\∀x∈E,x.1.2+1<=E.foldl (fun m x=>max m<|x.1.2+1) m
 | [],m=>⟨Int.le_refl _,fun x hx=>by cases hx⟩
 | y::E,m=>by
  obtain⟨h1,h2⟩:=GQ E<|max m<|y.1.2+1;simp only[List.foldl_cons];refine⟨cq,fun x hx=>?_⟩;rcases Xc.1 hx with rfl|hx
  ·omega
  exact h2 x hx
def Nl:∀(E:List<|KL×RR) (m B:Int),m<=B->(∀x∈E,x.1.2+1<=B)->E.foldl (fun m x=>max m<|x.1.2+1) m<=B
 | [],m,B,h,_=>h
 | y::E,m,B,h,hx=>Nl E _ B (Int.max_le.2 ⟨h,hx y ct⟩) fun x h2=>hx x (by simp[h2])
def Uv{f:Q00}{rs:Q06}{k:Q01}(hk:k∈ay (ae rs)):∃x∈fK f rs,x.1.2=f k:=by
 unfold ay at hk;obtain⟨T,hT,hk⟩:=Xd.1 hk;obtain⟨t,ht,rfl⟩:=WV.1 hT;unfold kH at hk;obtain⟨r,hr,rfl⟩:=WV.1 hk;obtain⟨q,hq,rfl⟩:=WV.1 hr;exact⟨((t.name,f (t.name,q.name)),q),Xd.2 ⟨t,ht,WV.2 ⟨q,hq,rfl⟩⟩,rfl⟩
def VK{f:Q00}{rs:Q06}{x:KL×RR}(hx:x∈fK f rs):∃k∈ay (ae rs),x.1.2=f k/\∃t∈rs,∃q∈t.rows,k=(t.name,q.name):=by
 unfold fK at hx;obtain⟨t,ht,hx⟩:=Xd.1 hx;obtain⟨q,hq,rfl⟩:=WV.1 hx;refine⟨(t.name,q.name),?_,rfl,t,ht,q,hq,rfl⟩;unfold ay kH;exact Xd.2 ⟨t.p,WV.2 ⟨t,ht,rfl⟩,WV.2 ⟨q.p,WV.2 ⟨q,hq,rfl⟩,rfl⟩⟩
def Fx{rs:Q06}(hf:∀r∈rs,r.fits):∀k∈ay (ae rs),k.2.size<=maxLen:=fun k hk=>by
 unfold ay at hk;obtain⟨T,hT,hk⟩:=Xd.1 hk;obtain⟨t,ht,rfl⟩:=WV.1 hT;unfold kH at hk;obtain⟨r,hr,rfl⟩:=WV.1 hk;obtain⟨q,hq,rfl⟩:=WV.1 hr;exact((hf t ht).2.2 q hq).1
def Uw(f:Q00)(rs:Q06):(fK f rs).length=(ay<|ae rs).length:=by
 induction rs with
 | nil=>rfl
 | cons t rs ih =>
  have e1:ay (ae (t::rs))=kH t.p++ay (ae rs):=by simp[ay,ae]
  have e2:fK f (t::rs)=(t.rows.map fun r=>((t.name,f (t.name,r.name)),r))++fK f rs:=rfl;have e3:(kH t.p).length=t.rows.length:=by unfold kH;rw[Xv];exact dP _
  rw[e1,e2,WP,WP,ih,e3,Xv]
section
variable  [DecidableEq Fc]
def dO(st:Q00)(rs:Q06)(ts:Q05):List Fc:=if dm (sF rs) rs ts then Mg st rs ts else []
def jL{st:Q00}{rs:Q06}{ts:Q05}(h:dm (sF rs) rs ts=true):dO st rs ts=Mg st rs ts:=by unfold dO;rw[if_pos h]
def kS{st:Q00}{rs:Q06}{ts:Q05}(h:dm (sF rs) rs ts=false):dO st rs ts=[]:=by unfold dO;rw[if_neg (by rw[h];decide)]
def Ml(st:Q00){rs:Q06}{ts:Q05}:(dO st rs ts).length<=115200:=by
 cases hr:dm (sF rs) rs ts;case false=>rw[kS hr];simp
 rw[jL hr];have hsd:aG (ae rs)=true/\ts.length<=40:=by
  unfold dm dX at hr;simp only[WM,WW]at hr;exact⟨hr.1.1,hr.1.2.1⟩
 obtain⟨h6,YN,-⟩:=aW (aM.1 hsd.1).1;exact(nI st rs ts (fP ts) (dC ts) _).len (by have:=tN ts;omega) (Gu h6 YN) (by have:=qH ts;omega)
end
def yU{xs:Q0a}{o x:Al}:x∈il xs o↔x∈xs\/x=o:=by
 unfold il;split
 ·rename_i h;exact⟨.inl,fun h'=>h'.elim id fun e=>e ▸ Rc.1 h⟩
 simp
def GR:∀(ts:Q05) (xs:Q0a) (o:Al),(o∈xs \/ ∃t∈ts,o=⟨t.a,t.b⟩\/o=⟨t.c,t.d⟩)->o∈ts.foldl jf xs
 | [],xs,o,h=>h.elim id fun⟨t,ht,_⟩=>by cases ht
 | t::ts,xs,o,h=>by
  refine GR ts (jf xs t) o ?_;unfold jf;simp only[yU];rcases h with h|⟨u,hu,h⟩
  ·exact .inl<|.inl<|.inl h
  rcases Xc.1 hu with rfl|hu
  ·rcases h with h|h
   ·exact .inl<|.inl<|.inr h
   exact .inl<|.inr h
  exact .inr ⟨u,hu,h⟩
def Nn:∀(ts:Q05) (xs:Q0a) (o:Al),(o∈xs \/ ∃t∈ts,t.s.toList.isEmpty=true/\o=⟨t.c,t.d⟩)->o∈ts.foldl fH xs
 | [],xs,o,h=>h.elim id fun⟨t,ht,_⟩=>by cases ht
 | t::ts,xs,o,h=>by
  refine Nn ts (fH xs t) o ?_;rcases h with h|⟨u,hu,hs,h⟩
  ·refine .inl ?_;unfold fH;split
   ·exact yU.2<|.inl h
   exact h
  rcases Xc.1 hu with rfl|hu
  ·refine .inl ?_;unfold fH;rw[if_pos (by simpa using hs)];exact yU.2<|.inr h
  exact .inr ⟨u,hu,hs,h⟩
def qL{l:Q05}{es:Q09}{truth known:Q04}{f:Fc}(h5:∀e∈es,e.kind=5->e.kids≠[])(hkn:∀g∈known,(⟨g.a,g.b⟩:Al)∈fP l/\(⟨g.c,g.d⟩:Al)∈dC l):∀(k n:Nat),aJ l es truth f k known n=true->(⟨f.a,f.b⟩:Al)∈fP l/\(⟨f.c,f.d⟩:Al)∈dC l
 | 0,n,h=>by cases h
 | k+1,n,h=>by
  unfold aJ at h;cases e:es[n]? with
  | none=>rw[e]at h;cases h
  | some x =>
   rw[e]at h;simp only at h;by_cases k1:x.kind=1
   ·rw[if_pos k1]at h;unfold pJ at h;obtain⟨t,ht,h⟩:=Xj.1 h;simp only[WM,beq_iff_eq]at h;obtain⟨⟨⟨h1,h2⟩,h3⟩,h4⟩:=h;refine⟨GR _ _ _<|.inr ⟨t,ht,.inl<|by rw[fU h1,fU h2]⟩,?_⟩;split at h4
    ·rename_i hs;simp only[WM,beq_iff_eq]at h4;exact Nn _ _ _ (.inr ⟨t,ht,hs,by rw[fU h4.1,fU h4.2]⟩)
    exact(hkn _<|bf.1 h4).2
   rw[if_neg k1]at h;by_cases k2:x.kind=2
   ·rw[if_pos k2]at h;have h2:=hkn _<|bf.1 h;exact h2
   rw[if_neg k2]at h;by_cases k3:x.kind=3
   ·rw[if_pos k3]at h;unfold ny at h;obtain⟨t,ht,h⟩:=Xj.1 h;simp only[WM,beq_iff_eq]at h;obtain⟨⟨⟨h1,h2⟩,h3⟩,h4⟩:=h;exact⟨GR _ _ _<|.inr ⟨t,ht,.inl<|by rw[fU h1,fU h2]⟩,(hkn _<|bf.1 h4).2⟩
   rw[if_neg k3]at h;by_cases k4:x.kind=4
   ·rw[if_pos k4]at h;obtain⟨i,-,h⟩:=Xj.1 h;exact qL h5 hkn k _ h
   rw[if_neg k4]at h;by_cases k5:x.kind=5
   ·rw[if_pos k5]at h;obtain⟨i,hi⟩:=List.exists_mem_of_ne_nil _<|h5 x (XO e) k5;exact qL h5 hkn k _<|WT.1 h i hi
   rw[if_neg k5]at h;by_cases k6:x.kind=6
   ·rw[if_pos k6]at h;exact qL h5 hkn k _ (Bool.and_eq_true_iff.1 h).1
   rw[if_neg k6]at h;cases h
def sH{ts:Q05}(h:dX ts=true):∀t∈ts,t.ok=true:=fun t ht=>by
 unfold dX at h;simp only[WM]at h;obtain⟨i,hi,rfl⟩:=Xt ht;have h1:=h.2;unfold ve at h1;have h2:=WT.1 h1 i (by simpa using hi);unfold wW at h2;rw[WS hi]at h2;exact(Bool.and_eq_true_iff.1 h2).1
section
variable  [DecidableEq Fc]
def JK(ts:Q0b)(l:Q05)(st:Q00)(xo xu:Q0a):∀N,ja ts l st xo xu N=sP (eH ts l) (fun n=>cu ts st xo xu (n:Int)) N
 | 0=>rfl
 | N+1=>by rw[jU,JK ts l st xo xu N];rfl
def PK{rs:Q06}(hsh:bB (ae rs)=true)(a r:bN):∀e∈aj (ae rs) a r,e.kind=5->e.kids≠[]:=by
 intro e he k5;cases hp:fB (ae rs) a r with
 | none=>unfold aj at he;rw[hp]at he;cases he
 | some es =>
  unfold aj at he;rw[hp]at he;obtain⟨t0,ht0,r0,hr0,en,er,ee⟩:=oW hp;have hspec:=(vv hsh ht0 hr0).2;rw[ee]at hspec;have h4:es.all ax=true:=by simp only[aK,WM]at hspec;exact hspec.1.1.1.2
  have:=WT.1 h4 e he;unfold ax at this;rw[if_neg cq,if_neg cq,if_neg cq,if_pos<|.inr k5]at this;simp only[WM,WW]at this;intro h0;rw[h0]at this;simp at this
def qM{st:Q00}{rs:Q06}{ts:Q05}(hle:aG (ae rs)=true->Least (ae rs) st)(hr:dm (sF rs) rs ts=true)(f:Fc):gJ (dO st rs ts) f=eH (ae rs) ts (dO st rs ts) f:=by
 have hr2:=hr;unfold dm at hr2;simp only[WM]at hr2;have hSP:=aM.1 hr2.1.1;have hLe:=hle hr2.1.1;have hfit:∀t∈ts,Jv (ae rs) t=true:=fun t ht=>by
  have h1:=WT.1 hr2.2 t ht;rw[<-mG hr2.1.1 (sH hr2.1.2 t ht)]at h1;exact h1
 have hL:=Gz hLe.sol hSP.1 hSP.2.1 hfit;have hen:∀k∈ay (ae rs),hasB (ae rs) k.1 k.2=true:=fun k hk=>by
  obtain⟨es,h1,h2⟩:=CX hSP.1 hk;rw[xM];unfold aj;rw[h1];intro e;have e2:es=[]:=e;rw[e2]at h2;simp[aK]at h2
 have hq:∀n:Nat,∀g∈cu (ae rs) st (fP ts) (dC ts) (n:Int),Ph (ae rs) st g=(n:Int):=fun n g hg=>CW hen hg;have hsub:∀g∈dO st rs ts,(⟨g.a,g.b⟩:Al)∈fP ts/\(⟨g.c,g.d⟩:Al)∈dC ts:=fun g hg=>by
  rw[jL hr]at hg;have h1:=(nI st rs ts (fP ts) (dC ts) _).sub g hg;unfold LM at h1;obtain⟨o,ho,h1⟩:=Xd.1 h1;obtain⟨k,hk,h1⟩:=Xd.1 h1;unfold ui at h1;obtain⟨u,hu,rfl⟩:=WV.1 h1;exact⟨ho,hu⟩
 rw[Xe,bf];have e:dO st rs ts=sP (eH (ae rs) ts) (fun n=>cu (ae rs) st (fP ts) (dC ts) (n:Int)) ((ay<|ae rs).length+1):=by
  rw[jL hr];exact JK _ _ _ _ _ _
 constructor
 ·intro h;rw[e]at h ⊢;exact NU hL hq h
 intro h;obtain⟨ho,hu⟩:=qL (PK hSP.1 f.a f.r) hsub _ _ h;have hne:aj (ae rs) f.a f.r≠[]:=fun h0=>by
  unfold eH at h;rw[h0]at h;cases h
 have hk:(f.a,f.r)∈ay (ae rs):=oZ (by simpa using hne);have hp:=hLe.sol.pos (f.a,f.r);have hlt:st (f.a,f.r)<((ay<|ae rs).length:Int):=by
  refine Classical.byContradiction fun hc=>?_;exact absurd ⟨st,hLe.sol⟩<|Kc (mU hSP.2.1) hk (hLe.low _ hk) cq
 rw[e]at h ⊢;refine QK hL hq (n:=(st (f.a,f.r)).toNat) cq ?_ h;unfold cu yE Gh ui;refine Xd.2 ⟨_,ho,Xd.2 ⟨(f.a,f.r),XM.2 ⟨hk,?_⟩,WV.2 ⟨_,hu,rfl⟩⟩⟩;simp only[BEq.rfl,Bool.true_and,WW];omega
end
structure Sys(l:Q05)(D:Fc->Prop)(E:Fc->List Ex)(A:Q04):Prop where
 seq:∀(i:Nat) (hi:i<A.length),D A[i]->aJ l (E A[i]) A A[i] (E A[i]).length (A.take i) ((E A[i]).length-1)=true
 all:∀f,D f->aJ l (E f) A f (E f).length A ((E f).length-1)=true->f∈A
def JL{l:Q05}{D:Fc->Prop}{E:Fc->List Ex}{A B:Q04}{rk:Fc->Int}(hA:Sys l D E A)(hB:Sys l D E B)
  (hN:∀f,D f->f∈A->NodeR l rk (E f) f/\(E f).length-1<(E f).length) (hD:∀f g,D f->f∈A->rk g<=rk f->D g) {m:Int} (hm:∀g,D g->rk g<m->(g∈A↔g∈B)):∀(i:Nat) (hi:i<A.length),D A[i]->rk A[i]=m->A[i]∈B:=by
 intro i
 induction i using Nat.strongRecOn with
 | ind i ih =>
  intro hi hd hr;have hf:A[i]∈A:=WH hi;obtain⟨hn,hl⟩:=hN _ hd hf;refine hB.all _ hd<|hn.more (ta:=A) (fun g hg=>?_) _ (A.take i) B _ (fun g hg hx=>?_) hl (hA.seq i hi hd)
  ·exact hm g (hD _ g hd hf cq) cq
  have hdg:=hD _ g hd hf hg;by_cases e:rk g=m
  ·obtain⟨j,hj,rfl⟩:=List.mem_take_iff_getElem.1 hx;exact ih j cq cq hdg e
  exact(hm g hdg cq).1<|List.mem_of_mem_take hx
def SG{l:Q05}{D:Fc->Prop}{E:Fc->List Ex}{A B:Q04}{rk:Fc->Int}(hA:Sys l D E A)(hB:Sys l D E B)
  (hN:∀f,D f->(f∈A\/f∈B)->NodeR l rk (E f) f/\(E f).length-1<(E f).length) (hD:∀f g,D f->(f∈A\/f∈B)->rk g<=rk f->D g) (hp:∀f,D f->(f∈A\/f∈B)->0<=rk f):∀f,D f->(f∈A↔f∈B):=by
 have key:∀m:Nat,∀f,D f->rk f<(m:Int)->(f∈A↔f∈B):=by
  intro m
  induction m with
  | zero =>
   intro f hd hr;exact⟨fun h=>by have:=hp f hd<|.inl h;omega,fun h=>by have:=hp f hd<|.inr h;omega⟩
  | succ m ih =>
   intro f hd hr;by_cases e:rk f=(m:Int)
   ·constructor
    ·intro h;obtain⟨i,hi,rfl⟩:=Xt h;exact JL hA hB (fun f h1 h2=>hN f h1<|.inl h2) (fun f g h1 h2=>hD f g h1<|.inl h2) ih i hi hd e
    intro h;obtain⟨i,hi,rfl⟩:=Xt h;exact JL hB hA (fun f h1 h2=>hN f h1<|.inr h2) (fun f g h1 h2=>hD f g h1<|.inr h2) (fun g h1 h2=>(ih g h1 h2).symm) i hi hd e
   exact ih f hd cq
 intro f hd;exact key (rk f+1).toNat f hd cq
section
variable  [DecidableEq Fc]
def Fy{st:Q00}{rs:Q06}{ts:Q05}(hle:aG (ae rs)=true->Least (ae rs) st)(hr:dm (sF rs) rs ts=true){D:Fc->Prop}{E:Fc->List Ex}(hE:∀f,D f->aj (ae rs) f.a f.r=E f):Sys ts D E (dO st rs ts) where
 seq i hi hd:=by
  have hr2:=hr;unfold dm at hr2;simp only[WM]at hr2;have hSP:=aM.1 hr2.1.1;have hen:∀k∈ay (ae rs),hasB (ae rs) k.1 k.2=true:=fun k hk=>by
   obtain⟨es,h1,h2⟩:=CX hSP.1 hk;rw[xM];unfold aj;rw[h1];intro e;have e2:es=[]:=e;rw[e2]at h2;simp[aK]at h2
  have hfit:∀t∈ts,Jv (ae rs) t=true:=fun t ht=>by
   have h1:=WT.1 hr2.2 t ht;rw[<-mG hr2.1.1 (sH hr2.1.2 t ht)]at h1;exact h1
  have e:dO st rs ts=ja (ae rs) ts st (fP ts) (dC ts) ((ay<|ae rs).length+1):=by rw[jL hr];rfl
  have h:=Jz (hle hr2.1.1).sol hSP.1 hSP.2.1 hfit hen ((ay<|ae rs).length+1) (xo:=fP ts) (xu:=dC ts) (i:=i) (by rw[<-e];exact hi);simp only[<-e]at h;rw[hE _ hd]at h;exact h
 all f hd h:=by
  refine bf.1 ?_;rw[qM hle hr];unfold eH;rw[hE f hd];exact h
end
section
variable  [DecidableEq Fc]
end
section
variable  {rs:Q06}{P D br bp bt bK nK:Nat}{n1:Int}{nr:Nat}{Mr:KL->Option Value}{Er:List (KL×RR)}{ts:Q05}{xo xu:Q0a}{np:Nat}{Mp:K3->Option Value}{vo vu:Value}{out:Q04}{f:Fc}{adF:Q02}{YJ:Nat}
end
open Go.Sort
section
variable  [DecidableEq Fc]
end
def yV{x y:Q04}{f:Fc}(h:∀g∈x,g∈y)(hf:gJ x f=true):gJ y f=true:=bf.2<|h f<|bf.1 hf
def sI{α:Type}{p q:α->Bool}{xs:List α}(h:∀x,p x=true->q x=true)(ha:xs.any p=true):xs.any q=true:=by
 obtain⟨x,hx,hp⟩:=Xj.1 ha;exact Xj.2 ⟨x,hx,h x hp⟩
def kU{l:Q05}{es:Q09}{truth:Q04}{f:Fc}:∀(k:Nat) (x y:Q04) (n:Nat),(∀g∈x,g∈y)->aJ l es truth f k x n=true->aJ l es truth f k y n=true
 | 0,_,_,_,_,h=>by cases h
 | k+1,x,y,n,hs,h=>by
  unfold aJ at h⊢;cases e:es[n]? with
  | none=>rw[e]at h;cases h
  | some q =>
   rw[e]at h;simp only at h⊢;by_cases k1:q.kind=1
   ·rw[if_pos k1]at h⊢;unfold pJ at h⊢;refine sI (fun t ht=>?_) h;simp only[WM]at ht⊢;refine⟨ht.1,?_⟩;have h2:=ht.2;split at h2
    ·rename_i he;rw[if_pos he];exact h2
    rename_i he;rw[if_neg he];exact yV hs h2
   rw[if_neg k1]at h ⊢;by_cases k2:q.kind=2
   ·rw[if_pos k2]at h ⊢;exact yV hs h
   rw[if_neg k2]at h ⊢;by_cases k3:q.kind=3
   ·rw[if_pos k3]at h⊢;unfold ny at h⊢;refine sI (fun t ht=>?_) h;simp only[WM]at ht⊢;exact⟨ht.1,yV hs ht.2⟩
   rw[if_neg k3]at h ⊢;by_cases k4:q.kind=4
   ·rw[if_pos k4]at h ⊢;exact sI (fun i hi=>kU k x y _ hs hi) h
   rw[if_neg k4]at h ⊢;by_cases k5:q.kind=5
   ·rw[if_pos k5]at h ⊢;rw[WT]at h ⊢;exact fun i hi=>kU k x y _ hs<|h i hi
   rw[if_neg k5]at h ⊢;by_cases k6:q.kind=6
   ·rw[if_pos k6]at h ⊢;simp only[WM]at h ⊢;exact⟨kU k x y _ hs h.1,h.2⟩
   rw[if_neg k6]at h;cases h
section
variable  [DecidableEq Fc]
end
def Db(f:Ex->List Ex)(es:Q09)(n:Nat):Nat:=(aI f es<|n+1).1.length-1
section
variable  {f:Ex->List Ex}{es:Q09}
def ow{n:Nat}(h:n<es.length)(hk:es[n].kids=[]):(aI f es<|n+1).1=(aI f es n).1++(f es[n]).map (eT fun x=>((aI f es n).1.length:Int)+x):=by
 rw[fD f es n h];unfold gY;rw[if_pos (by rw[hk];rfl)]
def qN{n:Nat}(h:n<es.length)(hk:es[n].kids≠[]):(aI f es<|n+1).1=(aI f es n).1++[eT (fun x=>(aI f es n).2.getD x.toNat 0) es[n]]:=by
 rw[fD f es n h];unfold gY;rw[if_neg (by cases h2:es[n].kids with|nil=>exact absurd h2 hk|cons a b=>simp)]
def Ux{n:Nat}(h:n<es.length):∃zs,(aI f es<|n+1).1=(aI f es n).1++zs:=by
 by_cases hk:es[n].kids=[]
 ·exact⟨_,ow h hk⟩
 exact⟨_,qN h hk⟩
def GU:∀(d k:Nat),k+d<=es.length->∃zs,(aI f es<|k+d).1=(aI f es k).1++zs
 | 0,k,_=>⟨[],ct⟩
 | d+1,k,h=>by
  obtain⟨zs,e⟩:=GU d k cq;obtain⟨ys,e2⟩:=Ux (f:=f) (es:=es) (n:=k+d) cq;exact⟨zs++ys,by rw[<-Nat.add_assoc,e2,e,Xg]⟩
def SH{n j:Nat}(h:n<es.length)(hj:j<(aI f es<|n+1).1.length):(dB f es)[j]?=(aI f es<|n+1).1[j]?:=by
 obtain⟨zs,e⟩:=GU (f:=f) (es:=es) (es.length-(n+1)) (n+1) cq;rw[show n+1+(es.length-(n+1))=es.length by omega]at e;unfold dB;rw[e,XD hj]
def Np{n j:Nat}(h:n<es.length)(hk:es[n].kids=[])(hj:j<(f es[n]).length):(dB f es)[(aI f es n).1.length+j]?=some (eT (fun x=>((aI f es n).1.length:Int)+x) (f es[n])[j]):=by
 rw[SH h (by rw[ow h hk];simp;omega),ow h hk,Xx cq];simp[hj]
def Nq{n:Nat}(h:n<es.length)(hl:jF es)(hs:f es[n]=[es[n]]\/es[n].kids≠[]):∃φ:Int->Int,(dB f es)[Db f es n]?=some (eT φ es[n])/\∀x∈es[n].kids,(φ x).toNat=Db f es x.toNat:=by
 by_cases hk:es[n].kids=[]
 ·have hf:f es[n]=[es[n]]:=hs.resolve_right fun g=>g hk;have hp:Db f es n=(aI f es n).1.length+0:=by unfold Db;rw[ow h hk,hf];simp
  have:=Np (f:=f) (j:=0) h hk (by rw[hf];exact Nat.zero_lt_one);rw[hp];simp only[hf]at this;exact⟨_,this,fun x hx=>by rw[hk]at hx;cases hx⟩
 have hp:Db f es n=(aI f es n).1.length:=by unfold Db;rw[qN h hk];simp
 refine⟨fun x=>(aI f es n).2.getD x.toNat 0,by rw[hp,SH h<|by rw[qN h hk];simp,qN h hk,Xx<|WK _,Nat.sub_self];rfl,fun x hx=>?_⟩;have hx2:=hl n h x hx;show((aI f es n).2.getD x.toNat 0).toNat=_;rw[CB f es n cq x.toNat cq];unfold Db;omega
def SI(hf:∀e∈es,f e≠[]){n i:Nat}(h:n<es.length)(hi:i<n):Db f es i<Db f es n:=by
 have hpos:∀k,k<es.length->(aI f es k).1.length<(aI f es<|k+1).1.length:=fun k hk=>by
  by_cases hkk:es[k].kids=[]
  ·rw[ow hk hkk];have:=List.length_pos_iff.2<|hf es[k]<|WH hk;simp only[WP,Xv];omega
  rw[qN hk hkk];simp
 obtain⟨zs,e⟩:=GU (f:=f) (es:=es) (n-(i+1)) (i+1) cq;rw[show i+1+(n-(i+1))=n by omega]at e;have h1:=hpos n h;have h2:=hpos i cq;have h3:(aI f es<|i+1).1.length<=(aI f es n).1.length:=by rw[e];simp
 unfold Db;omega
def Uy(hf:∀e∈es,f e≠[])(h:es≠[]):dB f es≠[]:=by
 have h0:0<es.length:=List.length_pos_iff.2 h;obtain⟨zs,e⟩:=GU (f:=f) (es:=es) (es.length-1) 1 cq;rw[show 1+(es.length-1)=es.length by omega]at e;unfold dB;rw[e];intro e2;have e3:=(List.append_eq_nil_iff.1 e2).1;by_cases hk:es[0].kids=[]
 ·rw[ow h0 hk]at e3;exact hf _ (WH h0)<|List.map_eq_nil_iff.1 (List.append_eq_nil_iff.1 e3).2
 rw[qN h0 hk]at e3;simp at e3
def Uz{p:Ex->Bool}(hmv:∀e φ,p (eT φ e)=p e)(hf:∀e∈es,(f e).any p=p e):(dB f es).any p=es.any p:=by
 have key:∀k,k<=es.length->(aI f es k).1.any p=(es.take k).any p:=by
  intro k
  induction k with
  | zero=>intro _;rw[iZ];simp
  | succ k ih =>
   intro hk;rw[WN cq,List.any_append,<-ih cq];by_cases hkk:es[k].kids=[]
   ·rw[ow cq hkk,List.any_append,List.any_map];have:(f es[k]).any (p ∘ eT fun x=>((aI f es k).1.length:Int)+x)=(f es[k]).any p:=by congr 1;funext e;exact hmv e _
    rw[this,hf _<|WH _];simp
   rw[qN cq hkk,List.any_append];simp[hmv]
 have:=key es.length<|WK _;rw[Xa]at this;exact this
end
def tX{xs:List Int}{φ:Int->Int}{i:Nat}(h:i<xs.length):(xs.map φ).getD i 0=φ (xs.getD i 0):=by simp[List.getD_eq_getElem?_getD,h]
def xR{xs:List Int}{i:Nat}(h:i<xs.length):xs.getD i 0∈xs:=by
 rw[Xh,WS h];exact WH h
def SK(es:Q09):Prop:=∀e∈es,e.kind=6->2<=e.kids.length
section
variable  {l:Q05}{T:Q04}{g:Fc}
def JM{es bs:Q09}{n m k k2:Nat}{K:Q04}(hn:n<bs.length){φ:Int->Int}(he:es[m]?=some (eT φ bs[n]))(h6:SK bs)
  (ih:∀x∈bs[n].kids,∀K',K'=K\/K'=T->aJ l es T g k K' (φ x).toNat=aJ l bs T g k2 K' x.toNat):aJ l es T g (k+1) K m=aJ l bs T g (k2+1) K n:=by
 obtain⟨y,hy,yk,yn,yo,yc⟩:∃y,es[m]?=some y/\y.kind=bs[n].kind/\y.name=bs[n].name/\y.over=bs[n].over/\y.kids=bs[n].kids.map φ:=⟨_,he,rfl,rfl,rfl,rfl⟩;unfold aJ;rw[hy,WS hn];simp only;rw[yk,yn,yo,yc];by_cases e1:bs[n].kind=1
 ·rw[if_pos e1,if_pos e1]
 rw[if_neg e1,if_neg e1];by_cases e2:bs[n].kind=2
 ·rw[if_pos e2,if_pos e2]
 rw[if_neg e2,if_neg e2];by_cases e3:bs[n].kind=3
 ·rw[if_pos e3,if_pos e3]
 rw[if_neg e3,if_neg e3];by_cases e4:bs[n].kind=4
 ·rw[if_pos e4,if_pos e4,List.any_map];exact Ar fun x hx=>ih x hx K<|.inl rfl
 rw[if_neg e4,if_neg e4];by_cases e5:bs[n].kind=5
 ·rw[if_pos e5,if_pos e5,List.all_map];exact Gy fun x hx=>ih x hx K<|.inl rfl
 rw[if_neg e5,if_neg e5];by_cases e6:bs[n].kind=6
 ·have h2:=h6 _ (WH hn) e6;rw[if_pos e6,if_pos e6,tX cq,tX cq,ih _ (xR cq) K<|.inl rfl,ih _ (xR cq) T<|.inr rfl]
 rw[if_neg e6,if_neg e6]
def Dc{es bs:Q09}{b:Nat}(hb:∀j (h:j<bs.length),es[b+j]?=some (eT (fun x=>(b:Int)+x) bs[j]))(hk:jF bs)(h6:SK bs):∀(k:Nat) (K:Q04) (j:Nat),j<bs.length->aJ l es T g k K (b+j)=aJ l bs T g k K j
 | 0,_,_,_=>rfl
 | k+1,K,j,h=>JM h (hb j h) h6 fun x hx K' _=>by
   have:=hk j h x hx;rw[show((b:Int)+x).toNat=b+x.toNat by omega];exact Dc hb hk h6 k K' x.toNat cq
structure PutIn(f:Ex->List Ex)(rel:ByteArray)(body es:Q09):Prop where
 low:jF es
 six:SK es
 lowB:jF body
 sixB:SK body
 pos:0<body.length
 leaf:∀e∈es,f e=[e]\/(f e=body/\e.kids=[]/\e.kind=2/\e.name=rel)
def PutIn.ne{f:Ex->List Ex}{rel:ByteArray}{body es:Q09}(h:PutIn f rel body es):∀e∈es,f e≠[]:=fun e he e0=>by
 rcases h.leaf e he with h1|⟨h1,-⟩
 ·rw[h1]at e0;cases e0
 rw[h1]at e0;have:=h.pos;rw[e0]at this;cases this
def PutIn.here{f:Ex->List Ex}{rel:ByteArray}{body es:Q09}(h:PutIn f rel body es){n:Nat}(hn:n<es.length)(h1:f es[n]=body)(hk:es[n].kids=[]){k:Nat}{K:Q04}(hp:Db f es n<k):
  aJ l (dB f es) T g k K (Db f es n)=aJ l body T g body.length K (body.length-1):=by
 have hs:=h.pos;have hpl:Db f es n=(aI f es n).1.length+(body.length-1):=by unfold Db;rw[ow hn hk,h1];simp;omega
 have hb:∀j (hj:j<body.length),(dB f es)[(aI f es n).1.length+j]?=some (eT (fun x=>((aI f es n).1.length:Int)+x) body[j]):=fun j hj=>by
  have:=Np (f:=f) (j:=j) hn hk (by rw[h1];exact hj);simp only[h1]at this;exact this
 rw[hpl,Dc hb h.lowB h.sixB k K _ cq];exact Cb h.lowB h.sixB _ _ _ _ cq cq
def Fz{es:Q09}{k n:Nat}{K:Q04}(hn:n<es.length)(hk:es[n].kind=2):aJ l es T g (k+1) K n=gJ K ⟨g.a,g.b,es[n].name,g.c,g.d⟩:=by
 unfold aJ;rw[WS hn];simp only[hk];rw[if_neg cv,if_pos trivial]
def JN{f:Ex->List Ex}{rel:ByteArray}{body es:Q09}(h:PutIn f rel body es)(hT:aJ l body T g body.length T (body.length-1)=gJ T ⟨g.a,g.b,rel,g.c,g.d⟩):∀(n k k2:Nat),n<es.length->Db f es n<k->n<k2->aJ l (dB f es) T g k T (Db f es n)=aJ l es T g k2 T n:=by
 intro n
 induction n using Nat.strongRecOn with
 | ind n ih =>
  intro k k2 hn h1 h2;obtain⟨k,rfl⟩:∃m,k=m+1:=⟨k-1,cq⟩;obtain⟨k2,rfl⟩:∃m,k2=m+1:=⟨k2-1,cq⟩;have stay:f es[n]=[es[n]]->aJ l (dB f es) T g (k+1) T (Db f es n)=aJ l es T g (k2+1) T n:=fun hf=>by
   obtain⟨φ,e,hφ⟩:=Nq hn h.low<|.inl hf;refine JM hn e h.six fun x hx K' hK=>?_;have hlow:=h.low n hn x hx;have hlt:=SI h.ne hn (i:=x.toNat) cq;obtain rfl:K'=T:=by rcases hK with h|h<;>exact h
   rw[hφ x hx];exact ih x.toNat cq k k2 cq cq cq
  rcases h.leaf _ (WH hn) with hf|⟨hf,hk,h2',hnm⟩
  ·exact stay hf
  rw[h.here hn hf hk h1,hT,Fz hn h2',hnm]
def JO{f:Ex->List Ex}{rel:ByteArray}{body es:Q09}(h:PutIn f rel body es)(hT:aJ l body T g body.length T (body.length-1)=gJ T ⟨g.a,g.b,rel,g.c,g.d⟩){K K2:Q04}(hK:∀x∈K,x∈K2)
  (hb:aJ l body T g body.length K (body.length-1)=true->gJ K2 ⟨g.a,g.b,rel,g.c,g.d⟩=true):∀(n k k2:Nat),n<es.length->Db f es n<k->n<k2->aJ l (dB f es) T g k K (Db f es n)=true->aJ l es T g k2 K2 n=true:=by
 intro n
 induction n using Nat.strongRecOn with
 | ind n ih =>
  intro k k2 hn h1 h2 hh;obtain⟨k,rfl⟩:∃m,k=m+1:=⟨k-1,cq⟩;obtain⟨k2,rfl⟩:∃m,k2=m+1:=⟨k2-1,cq⟩;rcases h.leaf _ (WH hn) with hf|⟨hf,hk,h2',hnm⟩
  ·obtain⟨φ,e,hφ⟩:=Nq hn h.low<|.inl hf;have kid:∀x∈es[n].kids,aJ l (dB f es) T g k K (φ x).toNat=true->aJ l es T g k2 K2 x.toNat=true:=fun x hx hy=>by
    have hlow:=h.low n hn x hx;have hlt:=SI h.ne hn (i:=x.toNat) cq;rw[hφ x hx]at hy;exact ih x.toNat cq k k2 cq cq cq hy
   have jW:∀x∈es[n].kids,aJ l (dB f es) T g k T (φ x).toNat=aJ l es T g k2 T x.toNat:=fun x hx=>by
    have hlow:=h.low n hn x hx;have hlt:=SI h.ne hn (i:=x.toNat) cq;rw[hφ x hx];exact JN h hT x.toNat k k2 cq cq cq
   obtain⟨y,hy,yk,yn,yo,yc⟩:∃y,(dB f es)[Db f es n]?=some y/\y.kind=es[n].kind/\y.name=es[n].name/\y.over=es[n].over/\y.kids=es[n].kids.map φ:=⟨_,e,rfl,rfl,rfl,rfl⟩;unfold aJ at hh⊢;rw[hy]at hh;rw[WS hn];simp only at hh⊢;rw[yk,yn,yo,yc]at hh;have hasM:∀q,gJ K q=true->gJ K2 q=true:=fun q hq=>bf.2<|hK q<|bf.1 hq;by_cases e1:es[n].kind=1
   ·rw[if_pos e1]at hh⊢;unfold pJ at hh⊢;refine sI (fun t ht=>?_) hh;rw[WM]at ht⊢;refine⟨ht.1,?_⟩;have h3:=ht.2;split at h3
    ·rename_i hc;rw[if_pos hc];exact h3
    rename_i hc;rw[if_neg hc];exact hasM _ h3
   rw[if_neg e1]at hh ⊢;by_cases e2:es[n].kind=2
   ·rw[if_pos e2]at hh ⊢;exact hasM _ hh
   rw[if_neg e2]at hh ⊢;by_cases e3:es[n].kind=3
   ·rw[if_pos e3]at hh⊢;unfold ny at hh⊢;refine sI (fun t ht=>?_) hh;rw[WM]at ht⊢;exact⟨ht.1,hasM _ ht.2⟩
   rw[if_neg e3]at hh ⊢;by_cases e4:es[n].kind=4
   ·rw[if_pos e4,List.any_map]at hh;rw[if_pos e4];obtain⟨x,hx,hy⟩:=Xj.1 hh;exact Xj.2 ⟨x,hx,kid x hx hy⟩
   rw[if_neg e4]at hh ⊢;by_cases e5:es[n].kind=5
   ·rw[if_pos e5,List.all_map]at hh;rw[if_pos e5];exact WT.2 fun x hx=>kid x hx<|WT.1 hh x hx
   rw[if_neg e5]at hh ⊢;by_cases e6:es[n].kind=6
   ·have h2:=h.six _ (WH hn) e6;rw[if_pos e6,tX cq,tX cq,WM,jW _<|xR cq]at hh;rw[if_pos e6,WM];exact⟨kid _ (xR cq) hh.1,hh.2⟩
   rw[if_neg e6]at hh;cases hh
  rw[h.here hn hf hk h1]at hh;rw[Fz hn h2',hnm];exact hb hh
def tY{es:Q09}(hn:∀e∈es,e.kind≠1){g2:Fc}(h1:g2.a=g.a)(h2:g2.b=g.b)(h3:g2.c=g.c)(h4:g2.d=g.d):∀(k:Nat) (K:Q04) (n:Nat),aJ l es T g k K n=aJ l es T g2 k K n
 | 0,_,_=>rfl
 | k+1,K,n=>by
  unfold aJ;cases e:es[n]? with
  | none=>rfl
  | some x =>
   have hx:x∈es:=XO e;simp only;rw[if_neg (hn x hx),if_neg<|hn x hx];have ho:ny l K x.over x.name g=ny l K x.over x.name g2:=by unfold ny;rw[h1,h2,h3,h4]
   simp only[h1,h2,h3,h4,ho,tY hn h1 h2 h3 h4 k K,tY hn h1 h2 h3 h4 k T]
end
def FB(F:ByteArray->Ex->List Ex)(tn n:bN):∀rs:List Rl,iM (rs.map<|xe F tn) n=(iM rs n).map (dB<|F tn)
 | []=>rfl
 | r::rs=>by
  simp only[XN,iM,FB F tn n rs];show(if (r.name.toList==n.toList)=true then some (dB (F tn) r.expr) else _)=_;split<;>rfl
def JP(F:ByteArray->Ex->List Ex)(a n:bN):∀ts:List Ty,fB (jE F ts) a n=(fB ts a n).map (dB<|F a)
 | []=>rfl
 | t::ts=>by
  have ih:=JP F a n ts;show fB (Du F t::jE F ts) a n=_;simp only[fB,ih];show(if (t.name.toList==a.toList)=true then (iM (t.rels.map<|xe F t.name) n).or _ else _)=_;rw[FB];by_cases e:(t.name.toList==a.toList)=true
  ·rw[if_pos e,if_pos e,show t.name=a from fU (by simpa using e)];cases iM t.rels n<;>rfl
  rw[if_neg e,if_neg e]
def FD(F:ByteArray->Ex->List Ex)(a n:bN)(ts:Q0b):aj (jE F ts) a n=dB (F a) (aj ts a n):=by
 unfold aj;rw[JP];cases fB ts a n<;>rfl
def nN{rs:Q06}(h:bB (ae rs)=true){a n:ByteArray}(hne:aj (ae rs) a n≠[]):aK (aj (ae rs) a n)=true:=by
 have hm:(a,n)∈ay (ae rs):=oZ (by cases h2:aj (ae rs) a n with|nil=>exact absurd h2 hne|cons x xs=>rfl);obtain⟨es,h1,h2⟩:=CX h hm;have:aj (ae rs) a n=es:=by unfold aj;rw[h1];rfl
 rw[this];exact h2
def Nr{es:Q09}(h:aK es=true):SK es:=fun e he h6=>(vC<|dR h e he).2 h6
def Mm{typ rel:ByteArray}{body es:Q09}(h:aK es=true)(hb:aK body=true):PutIn (eF typ rel body typ) rel body es where
 low:=iY h
 six:=Nr h
 lowB:=iY hb
 sixB:=Nr hb
 pos:=(zG hb).2.2
 leaf e he:=by
  unfold eF;rw[show(typ.toList==typ.toList)=true by simp,Bool.true_and];cases hn:eX rel e;case false=>exact .inl rfl
  refine .inr ⟨rfl,xO (dR h e he) hn,?_⟩;unfold eX at hn;rw[WM,WW]at hn;exact⟨hn.1,fU<|by simpa using hn.2⟩
def PM{ts:Q0b}{typ rel:ByteArray}(hnt:(aj ts typ rel).any kz=false)(a n:bN)(x:Al):nA (jE (eF typ rel<|aj ts typ rel) ts) a n x=nA ts a n x:=by
 unfold nA;rw[FD];refine Uz (fun e φ=>rfl) fun e he=>?_;unfold eF;split
 ·rename_i hc;have h2:mh x e=false:=by
   unfold mh;rw[WM]at hc;have h3:=hc.2;unfold eX at h3;rw[WM,WW]at h3;rw[decide_eq_false cq];rfl
  rw[h2,List.any_eq_false];intro y hy;rw[List.any_eq_false]at hnt;have h3:=hnt y hy;unfold mh;unfold kz at h3;rw[show decide (y.kind=1)=false by simpa using h3];simp
 simp
def JQ{l:Q05}{T:Q04}{E:Fc->List Ex}{S:Q04}{x:Fc}(h:∀(j:Nat) (hj:j<S.length),aJ l (E S[j]) T S[j] (E S[j]).length (S.take j) ((E S[j]).length-1)=true)(hx:aJ l (E x) T x (E x).length S ((E x).length-1)=true):
  ∀(j:Nat) (hj:j<(S++[x]).length),aJ l (E (S++[x])[j]) T (S++[x])[j] (E (S++[x])[j]).length ((S++[x]).take j) ((E (S++[x])[j]).length-1)=true:=by
 intro j hj;by_cases hl:j<S.length
 ·rw[Xp hl,List.take_append_of_le_length<|XW hl];exact h j hl
 obtain rfl:j=S.length:=by rw[WP]at hj;simp at hj;omega
 rw[XG (WK _),List.take_append_of_le_length<|WK _,Xa];simpa using hx
section
variable  [DecidableEq Fc]
def PN{st st2:Q00}{rs qs:Q06}{ts:Q05}{typ rel:ByteArray}(hle:aG (ae rs)=true->Least (ae rs) st)(hle2:aG (ae qs)=true->Least (ae qs) st2)(hq:ae qs=jE (eF typ rel<|aj (ae rs) typ rel) (ae rs))(hbn:aj (ae rs) typ rel≠[])(hnn:(aj (ae rs) typ rel).any (eX rel)=false)(hnt:(aj (ae rs) typ rel).any kz=false)(hr:dm (sF rs) rs ts=true)(hr2:dm (sF qs) qs ts=true):
  ∀f,f∈dO st rs ts↔f∈dO st2 qs ts:=by
 have hrA:=hr;unfold dm at hrA;simp only[WM]at hrA;have hSP:=aM.1 hrA.1.1;have hL:=(hle hrA.1.1).sol;have hfit:∀t∈ts,Jv (ae rs) t=true:=fun t ht=>by
  have h1:=WT.1 hrA.2 t ht;rw[<-mG hrA.1.1 (sH hrA.1.2 t ht)]at h1;exact h1
 obtain⟨body,hbody⟩:∃b,b=aj (ae rs) typ rel:=⟨_,rfl⟩;rw[<-hbody]at hq hbn hnn hnt;have hbS:aK body=true:=by rw[hbody];exact nN hSP.1 (by rw[<-hbody];exact hbn)
 have hfree:∀e∈body,e.kind≠1:=fun e he e1=>by
  rw[List.any_eq_false]at hnt;have:=hnt e he;unfold kz at this;exact this<|decide_eq_true e1
 let E:Fc->List Ex:=fun f=>aj (ae rs) f.a f.r
 have hE2:∀f:Fc,aj (ae qs) f.a f.r=dB (eF typ rel body f.a) (E f):=fun f=>by rw[hq,FD]
 obtain⟨B,hB⟩:=eQx<|dO st2 qs ts;have hwh:∀f,gJ B f=aJ ts (dB (eF typ rel body f.a)<|E f) B f (dB (eF typ rel body f.a)<|E f).length B ((dB (eF typ rel body f.a)<|E f).length-1):=fun f=>by
  have:=qM hle2 hr2 f;rw[<-hB]at this;rw[this];unfold eH;rw[hE2]
 have hoth:∀f:Fc,f.a≠typ->dB (eF typ rel body f.a) (E f)=E f:=fun f hf=>by
  by_cases he:E f=[]
  ·rw[he];rfl
  exact tV (nN hSP.1 he) (.inl (by
   cases h:(f.a.toList==typ.toList);case false=>rfl
   exact absurd (fU<|by simpa using h) hf))
 -- the relation itself,of any object and user
 have hself:∀f:Fc,f.a=typ->aJ ts body B f body.length B (body.length-1)=gJ B ⟨f.a,f.b,rel,f.c,f.d⟩:=fun f hf=>by
  rw[hwh];have e1:E ⟨f.a,f.b,rel,f.c,f.d⟩=body:=by show aj _ f.a rel=_;rw[hf,<-hbody]
  rw[e1,tV hbS<|.inr hnn];exact tY (g:=f) (g2:=⟨f.a,f.b,rel,f.c,f.d⟩) hfree rfl rfl rfl rfl _ _ _
 have hend:∀f:Fc,E f≠[]->Db (eF typ rel body f.a) (E f) ((E f).length-1)=(dB (eF typ rel body f.a)<|E f).length-1:=fun f he=>by
  have:0<(E f).length:=List.length_pos_iff.2 he;unfold Db dB;rw[show(E f).length-1+1=(E f).length by omega]
 have hpos:∀f:Fc,E f≠[]->dB (eF typ rel body f.a) (E f)≠[]:=fun f he e0=>by
  by_cases hf:f.a=typ
  ·rw[hf]at e0;exact Uy (Mm (typ:=typ) (rel:=rel) (es:=E f) (nN hSP.1 he) hbS).ne he e0
  rw[hoth f hf]at e0;exact he e0
 -- by all that is true both say the same
 have hsame:∀f:Fc,E f≠[]->aJ ts (E f) B f (E f).length B ((E f).length-1)=gJ B f:=fun f he=>by
  have h0:0<(E f).length:=List.length_pos_iff.2 he;rw[hwh];by_cases hf:f.a=typ
  ·have h1:=List.length_pos_iff.2<|hpos f he;rw[<-hend f he,hf];rw[hf]at h1;have h2:=hend f he;rw[hf]at h2;exact(JN (Mm (es:=E f) (nN hSP.1 he) hbS) (hself f hf) _ _ _ cq (by rw[h2];omega) cq).symm
  rw[hoth f hf]
 have hnone:∀f:Fc,E f=[]->gJ B f=false:=fun f he=>by rw[hwh,he];rfl
 have hseq:=(Fy hle2 hr2 (D:=fun _=>True) (E:=fun f=>dB (eF typ rel body f.a)<|E f) fun f _=>hE2 f).seq;rw[<-hB]at hseq
 -- B in an order of its own
 have key:∀i,i<=B.length->∃S:List Fc,(∀x∈B.take i,x∈S)/\(∀x∈S,x∈B)/\∀(j:Nat) (hj:j<S.length),aJ ts (E S[j]) B S[j] (E S[j]).length (S.take j) ((E S[j]).length-1)=true:=by
  intro i
  induction i with
  | zero=>intro _;exact⟨[],ct,(fun x hx=>by cases hx),fun j hj=>absurd hj<|XE _⟩
  | succ i ih =>
   intro hi;obtain⟨S,h1,h2,h3⟩:=ih cq;have hf:=hseq i cq trivial;have hBm:B[i]∈B:=WH _;obtain⟨f,hfe⟩:=eQx<|B[i];rw[<-hfe]at hf hBm;have hex:E f≠[]:=fun he=>by have:=hnone f he;rw[bf.2 hBm]at this;cases this
   have h0:0<(E f).length:=List.length_pos_iff.2 hex
   have fin:∀S':List Fc,(∀x∈S,x∈S')->(∀x∈S',x∈B)->(∀(j:Nat) (hj:j<S'.length),aJ ts (E S'[j]) B S'[j] (E S'[j]).length (S'.take j) ((E S'[j]).length-1)=true)->aJ ts (E f) B f (E f).length S' ((E f).length-1)=true ->
     ∃S:List Fc,(∀x∈B.take (i+1),x∈S)/\(∀x∈S,x∈B)/\∀(j:Nat) (hj:j<S.length),aJ ts (E S[j]) B S[j] (E S[j]).length (S.take j) ((E S[j]).length-1)=true:=fun S' g1 g2 g3 g4=>by
    refine⟨S'++[f],fun x hx=>?_,fun x hx=>?_,JQ g3 g4⟩
    ·rw[WN cq,<-hfe]at hx;rcases WU.1 hx with hx|hx
     ·exact WU.2<|.inl<|g1 x<|h1 x hx
     exact WU.2<|.inr hx
    rcases WU.1 hx with hx|hx
    ·exact g2 x hx
    rw[WZ.1 hx];exact hBm
   by_cases hft:f.a=typ
   ·have hp:=Mm (typ:=typ) (rel:=rel) (es:=E f) (nN hSP.1 hex) hbS;have h4:=hend f hex;have h5:=List.length_pos_iff.2<|hpos f hex;rw[hft]at hf h4 h5;rw[<-h4]at hf;have hlen:Db (eF typ rel body typ) (E f) ((E f).length-1)<(dB (eF typ rel body typ)<|E f).length:=by rw[h4];omega
    by_cases hb:aJ ts body B f body.length (B.take i) (body.length-1)=true
    ·have e1:E ⟨f.a,f.b,rel,f.c,f.d⟩=body:=by show aj _ f.a rel=_;rw[hft,<-hbody]
     have hgB:(⟨f.a,f.b,rel,f.c,f.d⟩:Fc)∈B:=by
      refine bf.1 ?_;rw[<-hself f hft];exact kU _ _ _ _ (fun g hg=>List.mem_of_mem_take hg) hb
     have hgS:aJ ts (E ⟨f.a,f.b,rel,f.c,f.d⟩) B ⟨f.a,f.b,rel,f.c,f.d⟩ (E ⟨f.a,f.b,rel,f.c,f.d⟩).length S ((E ⟨f.a,f.b,rel,f.c,f.d⟩).length-1)=true:=by
      rw[e1,<-tY (g:=f) (g2:=⟨f.a,f.b,rel,f.c,f.d⟩) hfree rfl rfl rfl rfl];exact kU _ _ _ _ h1 hb
     refine fin (S++[⟨f.a,f.b,rel,f.c,f.d⟩]) (fun x hx=>WU.2<|.inl hx) (fun x hx=>?_) (JQ h3 hgS) ?_
     ·rcases WU.1 hx with hx|hx
      ·exact h2 x hx
      rw[WZ.1 hx];exact hgB
     exact JO hp (hself f hft) (K:=B.take i) (fun x hx=>WU.2<|.inl<|h1 x hx) (fun _=>bf.2<|WU.2<|.inr<|WZ.2 rfl) _ _ _ cq hlen cq hf
    exact fin S (fun x hx=>hx) h2 h3 (JO hp (hself f hft) (K:=B.take i) h1 (fun h=>absurd h hb) _ _ _ cq hlen cq hf)
   rw[hoth f hft]at hf;exact fin S (fun x hx=>hx) h2 h3 (kU _ _ _ _ h1 hf)
 obtain⟨S,h1,h2,h3⟩:=key B.length<|WK _;rw[Xa]at h1;have hmem:∀x,x∈S↔x∈B:=fun x=>⟨h2 x,h1 x⟩;have hSB:∀u,EM u B S:=fun u x _=>(hmem x).symm;have hsys:Sys ts (fun _=>True) E S:=by
  refine⟨fun j hj _=>?_,fun f _ hh=>?_⟩
  ·rw[<-h3 j hj];exact nz (fun x _=>hmem x) _ _ _ _ fun x _=>Iff.rfl
  by_cases he:E f=[]
  ·rw[he]at hh;cases hh
  rw[nz (t2:=B) (fun x _=>hmem x) _ _ B _ (fun x _=>hmem x),hsame f he]at hh;exact h1 _<|bf.1 hh
 intro f;rw[<-hB,<-hmem f];refine SG (rk:=Ph (ae rs) st) (Fy hle hr (D:=fun _=>True) (E:=E) fun f _=>rfl) hsys (fun f _ hm=>?_) (fun _ _ _ _ _=>trivial) (fun f _ hm=>?_) f trivial
 all_goals
  have hex:E f≠[]:=fun e=>by
   rcases hm with h|h
   ·have h4:=bf.2 h;rw[qM hle hr]at h4;unfold eH at h4;rw[show aj (ae rs) f.a f.r=[] from e]at h4;cases h4
   have:=hnone f e;rw[bf.2 (h2 f h)]at this;cases this
 ·have:(E f).length≠0:=fun e=>hex<|Xb.1 e;exact⟨CU hL hSP.1 hSP.2.1 hfit hex,cq⟩
 unfold Ph;rw[if_pos (xM.2 hex)];exact hL.pos _
end
section
variable  [DecidableEq Fc]
def JR(L0:Q04)(w:World)(e:Ending)(w':World):Prop:=(∃(L:Q04) (v:Value),e=.returned v/\L.Perm L0/\L.Pairwise (fun x y=>Op.bytesLess (GX y) (GX x)=false)/\w'.ownsRow w.heap.size 52 5 v L.length (iK L))/\ag w w'
def uG(st:Q00)(ad:Q02)(cap:Nat)(rs:Q06)(Yh:Q02)(cap':Nat)(ts:Q05)(w:af)(hlen:bh rs)(hs:jX w ad rs)(hl:∀r∈rs,r.light)(hfr:∀r∈rs,r.fits)(hcp:∀r∈rs,r.caps)(hlt:bh ts)(hst:Sl w Yh ts)(hft:∀x∈ts,x.fits)(hle:aG (ae rs)=true->Least (ae rs) st):
  Calls prog 11 #[.slice ad rs.length cap,.slice Yh ts.length cap'] w (JR (dO st rs ts) w):=by
 have HC:=bu<|LG (sF rs) ad cap rs Yh cap' ts w hlen hs hl hfr (xH ad cap rs w hlen hs hl hfr hcp) (fun h t ht=>mG h ht) hlt hst hft;have HS:=bu hs;have Yc:=bu hft;have ZJ:=bu hfr;have Zp:=bu hle;clear hs hl hfr hcp hst hft hle;go_enter func11,ntmps11;go_wp2_with fail;refine HC.mono ?_;rintro e w1 ⟨hb1,⟨hr,rfl⟩|⟨hr,D,br,bp,bt,nr,np,Mr,Mp,vo,vu,f,rfl,hbt,hLf,ZG⟩⟩
 ·have HP:O (JR (dO st rs ts) w (.returned<|.slice none 0 0) w1):=⟨⟨[],_,rfl,by rw[kS hr],List.Pairwise.nil,World.ownsRow_nil _ _ _ _⟩,hb1⟩;clear hb1 HC hr;go_wp2;go_ret;exact HP
 have hsd:aG (ae rs)=true/\ts.length<=40:=by
  unfold dm dX at hr;simp only[WM,WW]at hr;exact⟨hr.1.1,hr.1.2.1⟩
 obtain⟨hsd,ht40⟩:=hsd;have hSP:=aM.1 hsd;obtain⟨h6,YN,-⟩:=aW hSP.1;have hE36:=Gu h6 YN;have hfk:∀k∈ay (ae rs),f k+1<=(ay<|ae rs).length:=fun k hk=>by
  obtain⟨g,hg,hb⟩:=hLf.sol.few<|mU hSP.2.1;have h1:=hLf.low k hk g hg;have h2:=hb k hk;omega
 have hc0:0<=kw (fK f rs):=(GQ (fK f rs) 0).1;have hcl:kw (fK f rs)<=(ay<|ae rs).length:=Nl _ _ _ cq fun x hx=>by
  obtain⟨k,hk,e,-⟩:=VK hx;rw[e];exact hfk k hk
 obtain⟨N,hN⟩:∃N:Nat,kw (fK f rs)=N:=⟨(kw<|fK f rs).toNat,cq⟩;have hkN:∀k∈ay (ae rs),f k<(N:Int):=fun k hk=>by
  obtain⟨x,hx,e⟩:=Uv (f:=f) hk;have h2:=(GQ (fK f rs) 0).2 x hx;have h3:x.1.2+1<=kw (fK f rs):=h2;rw[e,hN]at h3;omega
 have hLs:ja (ae rs) ts f (fP ts) (dC ts) N=dO st rs ts:=by
  rw[jL hr];unfold Mg;rw[<-E9 (fun k hk=>hLf.same (Zp hsd) k hk)];exact(Ov hkN _ cq).symm
 rw [hN]at ZG;have Zf:=bu (Pw w1 rs ad D br bp bt N nr Mr f ts (fP ts) (dC ts) np Mp vo vu ZG (HS.below hb1) cq (by have:=tN ts;omega) (by have:=qH ts;omega) hE36 (fun k=>by
  have:(G.lookL (fK f rs) k).length<=(fK f rs).length:=XV _ _;rw[Uw]at this;omega) hSP.1 Yc cq (vM Yc) (sG Yc) (Fx ZJ))
 rw[hLs]at Zf;have hGO:=nI f rs ts (fP ts) (dC ts) N;rw[hLs]at hGO;have HB1:=bu hb1;have hll:=hGO.len (by have:=tN ts;omega) hE36 (by have:=qH ts;omega);have HFF:O (∀x∈dO st rs ts,x.fits):=fun x hx=>by
  have h1:=hGO.sub x hx;unfold LM at h1;obtain⟨o,ho,h1⟩:=Xd.1 h1;obtain⟨k,hk,h1⟩:=Xd.1 h1;obtain⟨u,hu,rfl⟩:=WV.1 h1;exact⟨(vM Yc o ho).1,(vM Yc o ho).2,Fx ZJ k hk,(sG Yc u hu).1,(sG Yc u hu).2⟩
 obtain⟨L0,hL0⟩:=eQx<|dO st rs ts;rw[<-hL0]at Zf hll HFF;have HL0:=bu hL0;clear HC hb1 ZG hLf hfk hc0 hcl hN hkN hLs hGO hSP hsd h6 YN hE36 hr hbt hL0;go_wp2_with fail;refine Zf.mono ?_;rintro e w2 ⟨⟨v,rfl,hown⟩,hb2⟩;have HB2:=bu<|HB1.trans<|hb2.mono HB1.size;have Yk:=bu<|fV hown HB1.size;clear Zf hown hb2 HB1;cases L0 with
 | nil =>
  obtain⟨adF,YJ,rfl,-⟩:=Cu Yk;have HSN:=bu<|Pz adF YJ (.func (.func 58) #[] #[]) w2;have HP:O (JR [] w (.returned<|.slice adF 0 YJ) w2):=⟨⟨[],_,rfl,List.Perm.refl _,List.Pairwise.nil,Yk⟩,HB2⟩;clear Yk HB2;go_wp2_with fail;refine HSN.mono ?_;rintro e w3 ⟨rfl,rfl⟩;go_wp2;go_ret;rw[<-HL0];exact HP
 | cons x0 xs0 =>
  obtain⟨L1,hL1⟩:=eQx (x0::xs0);obtain⟨g,YJ,rfl⟩:=ownsRow_succ (k:=xs0.length) Yk;have hgl:=(Yk.lt g rfl).1;have HSF:=bu<|Py w.heap.size g YJ (x0::xs0) w2 HFF Yk ct cq;rw[<-hL1]at HSF;have hlL:xs0.length+1=L1.length:=by rw[hL1];rfl
  rw[<-hL1]at HL0;rw[hlL];clear Yk HFF hll hL1 hlL;go_wp2_with fail;refine HSF.mono ?_;rintro e w3 ⟨rfl,ys,hp,hso,hrow,hcg⟩;have HP:O (JR L1 w (.returned<|.slice (some<|am g) L1.length YJ) w3):=⟨⟨ys,_,rfl,hp,hso,by rw[hp.length_eq];exact hrow⟩,HB2.trans<|hcg.below (fun k hk=>by rw[hk];exact hgl) HB2.size⟩;clear hp hso hrow hcg HB2 HSF;go_wp2;go_ret;rw[<-HL0];exact HP
end
def okF(x:Fc):Prop:=bW x.a x.b x.r x.c x.d ⟨#[]⟩=true
def UA{a b:ByteArray}(h:a.toList=b.toList):a=b:=by
 rw[Go.ByteArray.toList_eq,Go.ByteArray.toList_eq]at h;cases a;cases b;congr;exact Array.toList_inj.1 h
def oz{x y:Fc}(hx:okF x)(hy:okF y):SC x y=Op.bytesLess (GX x) (GX y):=by
 unfold okF at hx hy;unfold SC gW GX;rw[hx,hy];rfl
def Ns{x y:Fc}(hx:okF x)(hy:okF y)(h:GX x=GX y):x=y:=by
 obtain⟨h1,h2,h3,h4,h5,-⟩:=zn hx hy<|UA h;cases x;cases y;simp only at h1 h2 h3 h4 h5;subst h1 h2 h3 h4 h5;rfl
def VL{L:Q04}(h:∀x∈L,okF x):OrdO SC L where
 trans x hx y hy z hz h1 h2:=by
  rw[oz (h x hx) (h y hy)]at h1;rw[oz (h y hy) (h z hz)]at h2;rw[oz (h x hx) (h z hz)];exact Ls.lt_trans _ _ _ h1 h2
 asymm x hx y hy h1:=by
  rw[oz (h x hx) (h y hy)]at h1;rw[oz (h y hy) (h x hx)];exact Ls.lt_asymm _ _ h1
 total x hx y hy hne:=by
  rw[oz (h x hx) (h y hy),oz (h y hy)<|h x hx];exact Ls.lt_total _ _ fun e=>hne<|Ns (h x hx) (h y hy) e
def UB{L L0:Q04}(hp:L.Perm L0)(hn:L0.Nodup)(hok:∀x∈L0,okF x)(hs:L.Pairwise fun x y=>Op.bytesLess (GX y) (GX x)=false):L=Et SC L0:=by
 refine(Ii (VL hok) hn ?_ hp).symm;have hd:L.Nodup:=hp.nodup_iff.2 hn;refine(List.Pairwise.and hd hs).imp_of_mem fun {x y} hx hy h=>?_;have ox:=hok x<|hp.mem_iff.1 hx;have oy:=hok y<|hp.mem_iff.1 hy;rw[oz ox oy];rcases Ls.lt_total (GX x) (GX y) (fun e=>h.1<|Ns ox oy e) with h1|h1
 ·exact h1
 rw[h.2]at h1;cases h1
def UC{ts:Q05}(h:dX ts=true):∀t∈ts,t.ok=true:=fun t ht=>by
 unfold dX at h;have h:=(Bool.and_eq_true_iff.1 h).2;unfold ve at h;rw[WT]at h;obtain⟨i,hi,rfl⟩:=XA.1 ht;have h1:=h i<|List.mem_range.2 hi;unfold wW at h1;rw[WS hi]at h1;exact(Bool.and_eq_true_iff.1 h1).1
def U1{ts:Q05}(hf:∀t∈ts,t.ok=true){o:Al}(h:∃t∈ts,o=⟨t.a,t.b⟩\/o=⟨t.c,t.d⟩):fJ o.t o.s=true:=by
 obtain⟨t,ht,h⟩:=h;have h1:=hf t ht;unfold Tp.ok bW at h1;simp only[WM]at h1;rcases h with rfl|rfl
 ·exact h1.1.1.1
 exact h1.1.2
def UD{rs:Q06}(hs:bB (ae rs)=true){k:Q01}(hk:k∈ay (ae rs)):aS k.2=true:=by
 unfold ay at hk;obtain⟨T,hT,hk⟩:=Xd.1 hk;unfold kH at hk;obtain⟨r,hr,rfl⟩:=WV.1 hk;exact(vv hs hT hr).1
section
variable  [DecidableEq Fc]
def Mo{st:Q00}{rs:Q06}{ts:Q05}{x:Fc}(hx:x∈dO st rs ts):∃o∈fP ts,∃k∈ay (ae rs),∃u∈dC ts,x=⟨o.t,o.s,k.2,u.t,u.s⟩:=by
 cases hr:dm (sF rs) rs ts;case false=>rw[kS hr]at hx;cases hx
 rw[jL hr]at hx;have h1:=(nI st rs ts (fP ts) (dC ts) _).sub x hx;unfold LM at h1;obtain⟨o,ho,h1⟩:=Xd.1 h1;obtain⟨k,hk,h1⟩:=Xd.1 h1;unfold ui at h1;obtain⟨u,hu,rfl⟩:=WV.1 h1;exact⟨o,ho,k,hk,u,hu,rfl⟩
def lH{st:Q00}{rs:Q06}{ts:Q05}:(dO st rs ts).Nodup:=by
 cases hr:dm (sF rs) rs ts;case false=>rw[kS hr];exact List.nodup_nil
 rw[jL hr];exact(nI st rs ts (fP ts) (dC ts) _).once
def yX{st:Q00}{rs:Q06}{ts:Q05}:∀x∈dO st rs ts,okF x:=fun x hx=>by
 cases hr:dm (sF rs) rs ts;case false=>rw[kS hr]at hx;cases hx
 obtain⟨o,ho,k,hk,u,hu,rfl⟩:=Mo hx;unfold dm at hr;simp only[WM]at hr;have hts:=UC hr.1.2;have ho1:fJ o.t o.s=true:=by
  rcases C9 ts [] o ho with h|h
  ·cases h
  exact U1 hts h
 have hu1:fJ u.t u.s=true:=by
  rcases Da ts [] u hu with h|h
  ·cases h
  exact U1 hts h
 have hn:=UD (aM.1 hr.1.1).1 hk;show bW o.t o.s k.2 u.t u.s ⟨#[]⟩=true;unfold bW;rw[ho1,hu1,hn];unfold wE;rw[Go.ByteArray.toList_eq];rfl
def nO(st:Q00)(rs:Q06)(ts:Q05):List Fc:=Et SC<|dO st rs ts
def Mq(st:Q00)(rs:Q06)(ts:Q05):(nO st rs ts).length=(dO st rs ts).length:=(qp _).length_eq
def uH{st:Q00}{rs:Q06}{ts:Q05}{w:af}{e:Ending}{w':af}(h:JR (dO st rs ts) w e w'):(∃v,e=.returned v/\cD w w' 52 5 v (nO st rs ts).length (iK<|nO st rs ts))/\ag w w':=by
 obtain⟨⟨L,v,he,hp,hs,hown⟩,hb⟩:=h;obtain rfl:=UB hp lH yX hs;exact⟨⟨v,he,hown⟩,hb⟩
end
def kC(ts:Q0b)(t:Tp):Bool:=!pO ts t.a t.b t.r t.c t.d t.s
def sJ{w w':af}{base size n:Nat}{e:TypeId}{v:Value}{xs:Q03}(h:w.ownsRow base e size v n xs)(hb:ag w w'):w'.ownsRow base e size v n xs:=by
 refine⟨h.1,?_⟩;rcases h.2 with hl|⟨g,cap,cur,rfl,h1,h2,h3⟩
 ·exact .inl hl
 exact .inr ⟨g,cap,cur,rfl,h1,(hb.block g (h.lt g rfl).2).trans h2,h3⟩
def SN{K:Type}{enc:K->Value}{P:Program}{kt:TypeId}{w:af}{b n:Nat}{M:K->Option Value}{base size m:Nat}{e:TypeId}{v:Value}{xs:Q03}(h:aN enc P kt w b n M)(ho:w.ownsRow base e size v m xs)(hv:v.ownBlock=some b):False:=by
 obtain⟨D,⟨entries,ix,hb,-⟩,-⟩:=h;rcases ho.2 with⟨rfl,-⟩|⟨g,cap,cur,rfl,-,hg,-⟩
 ·simp[Value.ownBlock]at hv
 have e1:g=b:=by simpa[Value.ownBlock] using hv
 rw[e1,hb]at hg;cases hg
def UE{w:af}{base n:Nat}{v:Value}{ts:Q05}(h:w.ownsRow base 29 6 v n<|bn ts)(hn:n=ts.length):∃ad cap,v=.slice ad ts.length cap/\PD base w ad ts:=by
 obtain⟨ad,cap,hv,hsl,hg⟩:=Ip h hn;refine⟨ad,cap,hv,hsl,fun hne=>?_⟩;rcases h.2 with⟨rfl,h0⟩|⟨g,cap',cur,rfl,hbg,-⟩
 ·rw[hn]at h0;exact absurd (Xb.1 h0) hne
 injection hv with e1 e2 e3;exact⟨g,e1.symm,hbg,(hg g e1.symm).2.2⟩
def PO{rs:Q06}{t:Tp}(h:aG (ae rs)=true)(ht:t.ok=true):nA (ae rs) t.a t.r ⟨t.c,t.s⟩=!kC (ae rs) t:=by
 have hSP:=aM.1 h;have h1:nA (ae rs) t.a t.r ⟨t.c,t.s⟩=dG (aQ<|aj (ae rs) t.a t.r) (aQ<|aj (ae rs) t.a t.r).length ⟨t.c,t.s⟩:=xI _<|Gw hSP _ _;have h2:bW t.a t.b t.r t.c t.d t.s=true:=ht;rw[h1];unfold kC pO;rw[h2];simp
def PP(ty:Q0b)(ts:Q05):Bool:=aG ty&&dX ts
def DJ(ty:Q0b)(ts:Q05):List Tp:=if PP ty ts then ts.filter (kC ty) else []
def SQ{ty:Q0b}{ts:Q05}(h:PP ty ts=true):DJ ty ts=ts.filter (kC ty):=by simp[DJ,h]
def Nt{ty:Q0b}{ts:Q05}(h:PP ty ts=false):DJ ty ts=[]:=by simp[DJ,h]
def JS{p:Tp->Bool}{ts:Q05}{k:Nat}(h:k<ts.length):(ts.take<|k+1).filter p=(ts.take k).filter p++(if p ts[k] then [ts[k]] else []):=by
 rw[WN h,List.filter_append];cases e:p ts[k]<;>simp[e]
def Ms(p:Tp->Bool)(ts:Q05)(k:Nat):((ts.take k).filter p).length<=k:=WR (List.length_filter_le _ _) (by simp;omega)
def DK(ad Yh:Q02)(cap cap':Nat)(rs:Q06)(ts:Q05)(w:af)(hlen:bh rs)(hs:jX w ad rs)(hl:∀r∈rs,r.light)(hfr:∀r∈rs,r.fits)(hcp:∀r∈rs,r.caps)(hlt:bh ts)(hst:Sl w Yh ts)(hft:∀x∈ts,x.fits):
  Calls prog 47 #[.slice ad rs.length cap,.slice Yh ts.length cap'] w fun e w'=>∃(ad'':Q02) (cap'':Nat),e=.returned (.slice ad'' (DJ (ae rs) ts).length cap'')/\PD w.heap.size w' ad'' (DJ (ae rs) ts)/\ag w w':=by
 obtain⟨iT,hiT,zT0,zT1,zT2⟩:=info_parts (P:=prog) (e:=29) (z:=.agg ar) (size:=6) (bytes:=96) cw;have HIT:O (prog.info? 29=some iT/\iT.zero=some (.agg ar)/\iT.size=6/\iT.bytes=96):=⟨hiT,zT0,zT1,zT2⟩;have HS:=cZ hs;have HL:=cZ hl;have ZJ:=cZ hfr;have HCP:=cZ hcp;have HST:=cZ hst;have Yc:=cZ hft;have Yv:ts.length<=maxLen:=cy;clear hs hl hfr hst hft hcp hiT zT0 zT1 zT2;go_enter func47,ntmps47;go_wp2_with fail;refine(dz ad cap rs _ hlen HS HL ZJ HCP).mono ?_;rintro e w1 ⟨he,hb1⟩;have HB1:=cZ hb1;clear hb1;cases h1:aG (ae rs);case false=>
  rw[h1]at he;subst he;have HN:O (DJ (ae rs) ts=[]):=Nt (by simp[PP,h1]);clear h1;go_wp2;go_ret;exact⟨none,0,by rw[HN];rfl,JH HN,HB1⟩
 rw[h1]at he;subst he;have H1:=cZ h1;clear h1;go_wp2_with fail;refine(pG Yh cap' ts _ Yv (HST.below HB1) Yc).mono ?_;rintro e w2 ⟨he,hb2⟩;have HB2:=iD HB1 hb2;clear hb2 HB1;cases h2:dX ts;case false=>
  rw[h2]at he;subst he;have HN:O (DJ (ae rs) ts=[]):=Nt (by simp[PP,h2]);clear h2;go_wp2;go_ret;exact⟨none,0,by rw[HN];rfl,JH HN,HB2⟩
 rw[h2]at he;subst he;have HN:O (DJ (ae rs) ts=ts.filter (kC<|ae rs)):=SQ (by simp[PP,h2,H1.out]);have Yn:=cZ (Q7 h2).2.1;have hSP:=aM.1 H1;obtain⟨h6,YN,-⟩:=aW hSP.1;have HTAB:=cZ<|rM hSP.1;have HTBL:=cZ<|lq ad cap rs w2 h6 (HS.below HB2) YN ZJ;clear h2 hSP YN h6;go_wp2_with fail;refine HTBL.mono ?_;rintro e w3 ⟨rfl,hV3,hb3⟩;have HB3:=iD HB2 hb3;have HV3:=cZ hV3;obtain⟨bm,hbm⟩:=eQx w2.heap.size;rw[<-hbm]at HV3 ⊢;clear hb3 hV3 HTBL hbm;go_wp2;go_loopw[6,21] (fun v i wr=>∃k:Nat,k<=ts.length/\i=.int .i64 k/\O (cD w wr 29 6 v ((ts.take k).filter<|kC<|ae rs).length<|bn<|(ts.take k).filter<|kC<|ae rs)/\O (ag w wr)/\O (aN dE prog 146 wr bm 36<|lN rs)) (fun _ i _=>ts.length-(intOf i).toNat);case atStart=>exact⟨0,WO _,rfl,World.ownsRow_nil _ _ _ _,HB3,HV3⟩
 clear HB3 HV3 HB2;obtain⟨k,hk,rfl,HOW,Yg,HMV⟩:=hrel;by_cases hlt2:k<ts.length
 ·rcases HST.out.below Yg.out with hnil|⟨b,off,rfl,hb,hr⟩
  ·rw[hnil]at hlt2;simp at hlt2
  obtain⟨t0,t1,t2,t3,t4,t5⟩:=hr k hlt2;have hk1:=bY k;have hk2:(k:Int)<(ts.length:Int):=cq;have hdl:=Ms (kC<|ae rs) ts k;have HDT:=cZ<|JS (p:=kC<|ae rs) hlt2;obtain⟨f0,f1,f2,f3,f4,f5⟩:=Yc _<|WH hlt2;have HFB:=cZ<|PO H1<|Yn _<|WH hlt2;obtain⟨x,hx⟩:=eQx<|ts[k];rw[<-hx]at t0 t1 t2 t3 t4 t5 f0 f1 f2 f3 f4 f5 HDT HFB;obtain⟨W4,YR⟩:=eQx<|wr.alloc<|.cells (cg x) 29;have YF:O (ag wr W4):=by rw[YR];exact(WL _ _).alloc (WK _) _
  have HX4:O (wZ W4 wr.heap.size x):=by rw[YR];exact Am wr x _
  have HBW4:O (ag w W4):=Yg.trans<|YF.mono Yg.size;have HLF:=cZ<|Ce bm 36 rs ad (lN rs) x.a x.b x.r x.c x.d x.s W4 (HMV.below YF) HTAB (HS.below HBW4) HL f0 f2;clear hx hr f0 f1 f2 f3 f4 f5;go_wp2_with fail;rw[<-YR];clear YR;refine HLF.mono ?_;rintro e w5 ⟨he,hb5⟩;rw[HFB]at he;have Yo:=iD HBW4 hb5;have Yi:=cZ<|sJ (sJ HOW YF) hb5;have HMV5:=cZ<|(HMV.below YF).below hb5;have HX5:=cZ<|HX4.below hb5;clear hb5 HLF HOW Yg HMV HX4 YF HBW4 t0 t1 t2 t3 t4 t5;cases h5:kC (ae rs) x;case false=>
   rw[h5]at he;subst he;have HE:O ((ts.take<|k+1).filter (kC<|ae rs)=(ts.take k).filter (kC<|ae rs)):=by show _=_;rw[HDT];simp[h5]
   clear h5;go_wp2;go_roundw;case rel=>exact⟨k+1,cq,cx,by rw[HE];exact Yi,Yo,HMV5⟩
   simp[intOf]<;>omega
  rw[h5]at he;subst he;have HE:O ((ts.take<|k+1).filter (kC<|ae rs)=(ts.take k).filter (kC<|ae rs)++[x]):=by show _=_;rw[HDT];simp[h5]
  obtain⟨t0,t1,t2,t3,t4,t5,tl⟩:=HX5.out;clear h5;obtain⟨W6,Zo⟩:=eQx<|w5.alloc<|.cells (cg x) 29;have Zt:O (cD w W6 29 6 u6 ((ts.take k).filter<|kC<|ae rs).length<|bn<|(ts.take k).filter<|kC<|ae rs):=by rw[Zo];exact Yi.alloc _
  have YX:O (∀j u,x.row[j]?=some u->W6.cell? ((⟨w5.heap.size,0,none⟩:Addr).add j)=some u):=by rw[Zo];exact sU w5 x
  have HB6:O (ag w5 W6):=by rw[Zo];exact(WL _ _).alloc (WK _) _
  have HBD6:O (ag w W6):=Yo.trans<|HB6.mono Yo.size;have HMV6:=cZ<|HMV5.below HB6;have HBM:=cZ HMV5.lt;go_wp2_with(at_builtin;rw[<-Zo];clear Zo;refine wpList_append_own_at _ rfl _ _ 25 rfl w.heap.size 29 iT (.agg ar) 6 96 underlying25 HIT.1 HIT.2.1 HIT.2.2.1 HIT.2.2.2 rfl cv u6 _ (bn<|(ts.take k).filter<|kC<|ae rs) rfl Zt ⟨w5.heap.size,0,none⟩ 1 1 x.row rfl rfl YX (rU _) cy cq HBD6.size ?_);intro v7 w7 YV hgr7 _ _;have HB7:O (ag w w7):=HBD6.grown hgr7 HBD6.size fun g hg=>(Yi.lt g hg).1;have HMV7:=cZ<|HMV6.kept hgr7 fun e=>SN HMV6 Zt e.symm;have HO7:O (cD w w7 29 6 v7 ((ts.take<|k+1).filter<|kC<|ae rs).length<|bn<|(ts.take<|k+1).filter<|kC<|ae rs):=by
   show World.ownsRow _ _ _ _ _ _ _;rw[HE,qy,WP];exact YV
  clear YV hgr7 t0 t1 t2 t3 t4 t5 tl;go_wp2;go_roundw;case rel=>exact⟨k+1,cq,cx,HO7,HB7,HMV7⟩
  simp[intOf]<;>omega
 obtain rfl:k=ts.length:=cq;have hown:=HOW.out;rw[Xa]at hown;obtain⟨ad'',cap'',hv,hO⟩:=UE hown rfl;subst hv;have HO:=cZ hO;clear hown hO;go_wp2;go_ret;exact⟨ad'',cap'',by rw[HN];rfl,by rw[HN];exact HO,Yg⟩
def VV(rs:Q06)(l:Q03)(n:Nat)(v:Value)(w:World):Prop:=(n=8->∃b,v=.map (some b)/\aN dE prog 146 w b 36 (lN rs))/\(n≠8->v=l.getD n undef)
def VV.same{rs:Q06}{l:Q03}{w:af}:∀k u,VV rs l k u w->VV rs l k u w:=fun _ _ h=>h
def VV.later{rs:Q06}{l:Q03}{w w':af}(hb:ag w w'):∀k u,VV rs l k u w->VV rs l k u w':=fun k u h=>⟨fun e=>by
 obtain⟨b,e1,e2⟩:=h.1 e;exact⟨b,e1,e2.below hb⟩,h.2⟩
set_option maxRecDepth 100000 in
def GV(ad:Q02)(cap:Nat)(rs:Q06)(oa ob r c d s:bN)(w:af)(hlen:bh rs)(hs:jX w ad rs)(hl:∀r∈rs,r.light)(hf:∀r∈rs,r.fits)(hcp:∀r∈rs,r.caps)(ha:oa.size<=maxLen)(hb:ob.size<=maxLen)(hr:r.size<=maxLen)(hc:c.size<=maxLen)(hd:d.size<=maxLen)(hz:s.size<=maxLen):
  Calls prog 14 #[.slice ad rs.length cap,.agg #[.string oa,.string ob,.string r,.string c,.string d,.string s]] w (bj w<|.bool<|oq (ae rs) oa ob r c d s):=by
 have HS:=aB hs;have HL:=aB hl;have Yc:=aB hf;have HCP:=aB hcp;clear hs hl hf hcp;obtain⟨W0,hW0⟩:=eQx<|w.alloc<|.cells (cX oa ob r c d s) 29;have hal:ag w W0:=by rw[hW0];exact(WL _ _).alloc (WK _) _
 have HB0:=aB hal;have hw0:w.heap.size<W0.heap.size:=by rw[hW0];simp
 have c0:W0.cell? (a7 w)=some (.string oa):=by rw[hW0];simp
 have c1:W0.cell? (a8 w 1)=some (.string ob):=by rw[hW0];simp
 have c2:W0.cell? (a8 w 2)=some (.string r):=by rw[hW0];simp
 have c3:W0.cell? (a8 w 3)=some (.string c):=by rw[hW0];simp
 have c4:W0.cell? (a8 w 4)=some (.string d):=by rw[hW0];simp
 have c5:W0.cell? (a8 w 5)=some (.string s):=by rw[hW0];simp
 clear hal;go_enter func14,ntmps14;go_wp2_with fail;rw[<-hW0];clear hW0;cases hd5:aG (ae rs);case false=>
  have HN:O (oq (ae rs) oa ob r c d s=false):=by show _=_;unfold oq;rw[hd5];rfl
  refine bC 12 _ _ (fun n v _=>v=(Value.slice ad rs.length cap::.bool false::.bool false::undef::undef::.bool false::.bool false::undef::undef::undef::undef::.bool false::[]).getD n undef) (fun w'=>ag W0 w') cw rfl cw cw (vQ [(5,[0,1,2,3,4,5,6,7,8,9,10,11])]) (WL _ _).drew ?stepA ?finA<;>dsimp only[uI];case stepA =>
   rintro i hi o ho fq w' hG hpre;have HG:O (ag W0 w'):=hG;replace c0:=aD hG hw0 c0;replace c1:=aD hG hw0 c1;replace c2:=aD hG hw0 c2;replace c3:=aD hG hw0 c3;replace c4:=aD hG hw0 c4;replace c5:=aD hG hw0 c5;have HM:O (∀e∈o.after,Region.binds .any e=true->_):=hpre;clear hG hpre;have hc:=Mw (i:=i) cq;clear hi
   repeat' rcases hc with rfl|hc
   ·cases ho;refine aa rfl fun K HK=>?_;clear HM;dsimp only;go_simp;exact HK _ _ ⟨Value.slice ad rs.length cap,by simp[upd],HG,rfl,fun k u hu=>hu⟩
   ·cases ho;have e0:fq 0=.slice ad rs.length cap:=HM ⟨0,.data⟩ ct rfl;refine aa rfl fun K HK=>?_;clear HM;simp only[e0];go_simp;refine(dz ad cap rs _ hlen (HS.below<|HB0.trans<|HG.mono HB0.size) HL Yc HCP).mono ?_;rintro e w5 ⟨rfl,hb5⟩;have Yo:=aB hb5;have ZF:=iD HG hb5;rw[hd5];clear hb5;go_wp2_with fail;exact HK _ _ ⟨Value.bool false,by simp[upd,e0],ZF,rfl,fun k u hu=>hu⟩
   iterate 10
    ·cases ho;have hm:=HM.out
     try simp[Region.binds]at hm
     refine aa rfl fun K HK=>?_;clear HM
     try simp only[hm]
     go_simp;exact HK _ _ ⟨_,by simp[upd, *],HG,rfl,fun k u hu=>hu⟩
  case finA =>
   rintro o ho fq w' hG hall;have e11:fq 11=.bool false:=hall 11 cq;have HG:=iD HB0 hG;clear hG hall;cases ho;refine wpOp_step rfl (fun K hK=>?_);have HK:O (∀a w,_->K a w):=hK;clear hK;simp only[e11];go_simp;refine HK _ _ ?_;clear HK;go_wp2;go_ret;exact⟨by rw[HN];rfl,HG⟩
 have hSP:=aM.1 hd5;obtain⟨h6,YN,-⟩:=aW hSP.1;have Za:O (∀r∈rs,r.rows.length<=6):=YN;have HTAB:O (Tab rs<|lN rs):=rM hSP.1;obtain⟨fi,hfi⟩:=eQx<|nA (ae rs) oa r ⟨c,s⟩;have HFI:O (fi=nA (ae rs) oa r ⟨c,s⟩):=hfi;have HSM:O (fi=dG (aQ<|aj (ae rs) oa r) (aQ<|aj (ae rs) oa r).length ⟨c,s⟩):=by show _=_;rw[hfi];exact xI _<|Gw hSP _ _
 have HDT:O (aG (ae rs)=true):=hd5;clear YN hSP hfi;cases ht5:bW oa ob r c d s;case false=>
  have HN:O (oq (ae rs) oa ob r c d s=false):=by show _=_;unfold oq pO;rw[ht5];simp
  refine bC 12 _ _ (fun n v _=>v=(Value.slice ad rs.length cap::.bool true::.bool true::.agg (cX oa ob r c d s)::.bool false::.bool false::.bool false::undef::undef::undef::undef::.bool false::[]).getD n undef) (fun w'=>ag W0 w') cw rfl cw cw (vQ [(5,[0,1,2,3,4,5,6,7,8,9,10,11])]) (WL _ _).drew ?zu ?finB<;>dsimp only[uI];case zu =>
   rintro i hi o ho fq w' hG hpre;have HG:O (ag W0 w'):=hG;replace c0:=aD hG hw0 c0;replace c1:=aD hG hw0 c1;replace c2:=aD hG hw0 c2;replace c3:=aD hG hw0 c3;replace c4:=aD hG hw0 c4;replace c5:=aD hG hw0 c5;have HM:O (∀e∈o.after,Region.binds .any e=true->_):=hpre;clear hG hpre;have hc:=Mw (i:=i) cq;clear hi
   repeat' rcases hc with rfl|hc
   ·cases ho;refine aa rfl fun K HK=>?_;clear HM;dsimp only;go_simp;exact HK _ _ ⟨Value.slice ad rs.length cap,by simp[upd],HG,rfl,fun k u hu=>hu⟩
   ·cases ho;have e0:fq 0=.slice ad rs.length cap:=HM ⟨0,.data⟩ ct rfl;refine aa rfl fun K HK=>?_;clear HM;simp only[e0];go_simp;refine(dz ad cap rs _ hlen (HS.below<|HB0.trans<|HG.mono HB0.size) HL Yc HCP).mono ?_;rintro e w5 ⟨rfl,hb5⟩;have Yo:=aB hb5;have ZF:=iD HG hb5;rw[hd5];clear hb5;go_wp2_with fail;exact HK _ _ ⟨Value.bool true,by simp[upd,e0],ZF,rfl,fun k u hu=>hu⟩
   iterate 2
    ·cases ho;have hm:=HM.out
     try simp[Region.binds]at hm
     refine aa rfl fun K HK=>?_;clear HM
     try simp only[hm]
     go_simp;exact HK _ _ ⟨_,by simp[upd, *],HG,rfl,fun k u hu=>hu⟩
   ·cases ho;have e3:fq 3=.agg (cX oa ob r c d s):=HM ⟨3,.data⟩ ct rfl;have e2:fq 2=.bool true:=HM ⟨2,.guard⟩ ct rfl;refine aa rfl fun K HK=>?_;clear HM;simp only[e3,e2];go_simp;refine(fo oa ob r c d s _ ha hb hr hc hd hz).mono ?_;rintro e w5 ⟨rfl,hb5⟩;have Yo:=aB hb5;have ZF:=iD HG hb5;rw[ht5];clear hb5;go_wp2_with fail;exact HK _ _ ⟨Value.bool false,by simp[upd,e3,e2],ZF,rfl,fun k u hu=>hu⟩
   iterate 7
    ·cases ho;have hm:=HM.out
     try simp[Region.binds]at hm
     refine aa rfl fun K HK=>?_;clear HM
     try simp only[hm]
     go_simp;exact HK _ _ ⟨_,by simp[upd, *],HG,rfl,fun k u hu=>hu⟩
  case finB =>
   rintro o ho fq w' hG hall;have e11:fq 11=.bool false:=hall 11 cq;have HG:=iD HB0 hG;clear hG hall;cases ho;refine wpOp_step rfl (fun K hK=>?_);have HK:O (∀a w,_->K a w):=hK;clear hK;simp only[e11];go_simp;refine HK _ _ ?_;clear HK;go_wp2;go_ret;exact⟨by rw[HN];rfl,HG⟩
 have HN:O (oq (ae rs) oa ob r c d s=fi):=by show _=_;unfold oq pO;rw[ht5,HDT,HSM];simp
 refine bC 12 _ _ (VV rs (Value.slice ad rs.length cap::.bool true::.bool true::.agg (cX oa ob r c d s)::.bool true::.bool true::.bool true::.slice ad rs.length cap::undef::.agg (cX oa ob r c d s)::.bool fi::.bool fi::[])) (fun w'=>ag W0 w') cw rfl cw cw (vQ [(5,[0,1,2,3,4,5,6,7,8,9,10,11])]) (WL _ _).drew ?stepC ?finC<;>dsimp only[uI];case stepC =>
  rintro i hi o ho fq w' hG hpre;have HG:O (ag W0 w'):=hG;replace c0:=aD hG hw0 c0;replace c1:=aD hG hw0 c1;replace c2:=aD hG hw0 c2;replace c3:=aD hG hw0 c3;replace c4:=aD hG hw0 c4;replace c5:=aD hG hw0 c5;have HM:O (∀e∈o.after,Region.binds .any e=true->_):=hpre;clear hG hpre;have hc:=Mw (i:=i) cq;clear hi
  repeat' rcases hc with rfl|hc
  ·cases ho;refine aa rfl fun K HK=>?_;clear HM;dsimp only;go_simp;exact HK _ _ ⟨Value.slice ad rs.length cap,by simp[upd],HG,⟨fun h=>absurd h cv,fun _=>rfl⟩,VV.same⟩
  ·cases ho;have e0:fq 0=.slice ad rs.length cap:=(HM ⟨0,.data⟩ ct rfl).2 cv;refine aa rfl fun K HK=>?_;clear HM;simp only[e0];go_simp;refine(dz ad cap rs _ hlen (HS.below<|HB0.trans<|HG.mono HB0.size) HL Yc HCP).mono ?_;rintro e w5 ⟨rfl,hb5⟩;have Yo:=aB hb5;have ZF:=iD HG hb5;rw[hd5];clear hb5;go_wp2_with fail;exact HK _ _ ⟨Value.bool true,by simp[upd,e0],ZF,⟨fun h=>absurd h cv,fun _=>rfl⟩,VV.later Yo⟩
  ·cases ho;have e1:fq 1=.bool true:=(HM ⟨1,.data⟩ ct rfl).2 cv;refine aa rfl fun K HK=>?_;clear HM;simp only[e1];go_simp;exact HK _ _ ⟨Value.bool true,by simp[upd,e1],HG,⟨fun h=>absurd h cv,fun _=>rfl⟩,VV.same⟩
  ·cases ho;have e2:fq 2=.bool true:=(HM ⟨2,.guard⟩ ct rfl).2 cv;refine aa rfl fun K HK=>?_;clear HM;simp only[e2];go_simp;exact HK _ _ ⟨Value.agg<|cX oa ob r c d s,by simp[upd,e2],HG,⟨fun h=>absurd h cv,fun _=>rfl⟩,VV.same⟩
  ·cases ho;have e3:fq 3=.agg (cX oa ob r c d s):=(HM ⟨3,.data⟩ ct rfl).2 cv;have e2:fq 2=.bool true:=(HM ⟨2,.guard⟩ ct rfl).2 cv;refine aa rfl fun K HK=>?_;clear HM;simp only[e3,e2];go_simp;refine(fo oa ob r c d s _ ha hb hr hc hd hz).mono ?_;rintro e w5 ⟨rfl,hb5⟩;have Yo:=aB hb5;have ZF:=iD HG hb5;rw[ht5];clear hb5;go_wp2_with fail;exact HK _ _ ⟨Value.bool true,by simp[upd,e3,e2],ZF,⟨fun h=>absurd h cv,fun _=>rfl⟩,VV.later Yo⟩
  ·cases ho;have e2:fq 2=.bool true:=(HM ⟨2,.data⟩ ct rfl).2 cv;have e4:fq 4=.bool true:=(HM ⟨4,.data⟩ ct rfl).2 cv;refine aa rfl fun K HK=>?_;clear HM;simp only[e2,e4];go_simp;exact HK _ _ ⟨Value.bool true,by simp[upd,e2,e4],HG,⟨fun h=>absurd h cv,fun _=>rfl⟩,VV.same⟩
  ·cases ho;have e5:fq 5=.bool true:=(HM ⟨5,.data⟩ ct rfl).2 cv;refine aa rfl fun K HK=>?_;clear HM;simp only[e5];go_simp;exact HK _ _ ⟨Value.bool true,by simp[upd,e5],HG,⟨fun h=>absurd h cv,fun _=>rfl⟩,VV.same⟩
  ·cases ho;have e6:fq 6=.bool true:=(HM ⟨6,.guard⟩ ct rfl).2 cv;refine aa rfl fun K HK=>?_;clear HM;simp only[e6];go_simp;exact HK _ _ ⟨Value.slice ad rs.length cap,by simp[upd,e6],HG,⟨fun h=>absurd h cv,fun _=>rfl⟩,VV.same⟩
  ·cases ho;have e7:fq 7=.slice ad rs.length cap:=(HM ⟨7,.data⟩ ct rfl).2 cv;have e6:fq 6=.bool true:=(HM ⟨6,.guard⟩ ct rfl).2 cv;refine aa rfl fun K HK=>?_;clear HM;simp only[e7,e6];go_simp;refine(lq ad cap rs _ h6 (HS.below<|HB0.trans<|HG.mono HB0.size) Za Yc).mono ?_;rintro e w5 ⟨rfl,hmv5,hb5⟩;have Yo:=aB hb5;have ZF:=iD HG hb5;have HMV5:=aB hmv5;clear hmv5;clear hb5;go_wp2_with fail;exact HK _ _ ⟨Value.map<|some w'.heap.size,by simp[upd,e7,e6],ZF,⟨fun _=>⟨_,rfl,HMV5⟩,fun h=>absurd rfl h⟩,VV.later Yo⟩
  ·cases ho;have e6:fq 6=.bool true:=(HM ⟨6,.guard⟩ ct rfl).2 cv;refine aa rfl fun K HK=>?_;clear HM;simp only[e6];go_simp;exact HK _ _ ⟨Value.agg<|cX oa ob r c d s,by simp[upd,e6],HG,⟨fun h=>absurd h cv,fun _=>rfl⟩,VV.same⟩
  ·cases ho;obtain⟨bm,e8,hmv⟩:=(HM ⟨8,.data⟩ ct rfl).1 rfl;have e9:fq 9=.agg (cX oa ob r c d s):=(HM ⟨9,.data⟩ ct rfl).2 cv;have e6:fq 6=.bool true:=(HM ⟨6,.guard⟩ ct rfl).2 cv;refine aa rfl fun K HK=>?_;clear HM;simp only[e8,e9,e6];go_simp;refine(Ce bm 36 rs ad (lN rs) oa ob r c d s _ hmv HTAB (HS.below<|HB0.trans<|HG.mono HB0.size) HL ha hr).mono ?_;rintro e w5 ⟨rfl,hb5⟩;have Yo:=aB hb5;have ZF:=iD HG hb5;rw[<-HFI];clear hb5;go_wp2_with fail;exact HK _ _ ⟨Value.bool fi,by simp[upd,e8,e9,e6],ZF,⟨fun h=>absurd h cv,fun _=>rfl⟩,VV.later Yo⟩
  cases ho;have e6:fq 6=.bool true:=(HM ⟨6,.data⟩ ct rfl).2 cv;have e10:fq 10=.bool fi:=(HM ⟨10,.data⟩ ct rfl).2 cv;refine aa rfl fun K HK=>?_;clear HM;simp only[e6,e10];go_simp;exact HK _ _ ⟨Value.bool fi,by simp[upd,e6,e10],HG,⟨fun h=>absurd h cv,fun _=>rfl⟩,VV.same⟩
 case finC =>
  rintro o ho fq w' hG hall;have e11:fq 11=.bool fi:=(hall 11 cq).2 cv;have HG:=iD HB0 hG;clear hG hall;cases ho;refine wpOp_step rfl (fun K hK=>?_);have HK:O (∀a w,_->K a w):=hK;clear hK;simp only[e11];go_simp;refine HK _ _ ?_;clear HK;go_wp2;go_ret;exact⟨by rw[HN];rfl,HG⟩
end Go.Proofs.YtojjoblnpldniaaGreat
namespace Go.Proofs.YtojjoblnpldniaaGreat.fnInlined
open Go.Sort
open ChangeShapes WideShapes ChangeAt RowKit
open Pl
set_option linter.unusedVariables false
def FE{ts:Q0b}{typ rel:ByteArray}{D:Option<|List Ty}(hD:D=kP ts typ rel)(h:true=D.isSome):D=some (jE (eF typ rel<|aj ts typ rel) ts)/\aj ts typ rel≠[]/\(aj ts typ rel).any (eX rel)=false/\(aj ts typ rel).any kz=false/\aG ts=true/\aG (jE (eF typ rel<|aj ts typ rel) ts)=true:=by
 rw[hD]at h⊢;unfold kP at h⊢;split at h
 ·rename_i hc;rw[if_pos hc];simp only[WM,Bool.not_eq_true']at hc;obtain⟨⟨⟨⟨h1,h2⟩,h3⟩,h4⟩,h5⟩:=hc;exact⟨rfl,(fun e=>by rw[e]at h2;cases h2),h3,h4,h1,h5⟩
 cases h
def SS{rs:Q06}{typ rel:ByteArray}{P:Ex->Prop}(h:∀t∈rs,∀q∈t.rows,∀x∈q.rows,P x.e):∀e∈aj (ae rs) typ rel,P e:=by
 intro e he;cases hp:fB (ae rs) typ rel with
 | none=>unfold aj at he;rw[hp]at he;cases he
 | some es =>
  have h2:aj (ae rs) typ rel=es:=by unfold aj;rw[hp];rfl
  rw[h2]at he;obtain⟨t0,ht0,r0,hr0,-,-,n3⟩:=oW hp;obtain⟨t,ht,rfl⟩:=WV.1 ht0;obtain⟨q,hq,rfl⟩:=WV.1 hr0;have n3':ai q.rows=es:=n3;rw[<-n3']at he;obtain⟨x,hx,rfl⟩:=WV.1 he;exact h t ht q hq x hx
def PQ{rs zs:Q06}{typ rel:ByteArray}(hq:ae zs=jE (eF typ rel<|aj (ae rs) typ rel) (ae rs))(hd:aG (ae zs)=true)(hl:∀r∈rs,r.light)(hf:∀r∈rs,r.fits):zs.length<=1048576/\(∀r∈zs,r.light)/\∀r∈zs,r.fits:=by
 obtain ⟨h6,YN,hex⟩:=aW (aM.1 hd).1;have hP:∀ t∈rs,∀ q∈t.rows,∀ x∈q.rows,x.e.light/\x.e.fits:=fun t ht q hqm x hx=>⟨((hl t ht).2 q hqm).2 x hx,((hf t ht).2.2 q hqm).2.2 x hx⟩;have hbd:=SS (typ:=typ) (rel:=rel) (P:=fun e=>e.light/\e.fits) hP;have Zd:=yO hq (fun e=>e.light/\e.fits) (fun e g h=>⟨⟨h.1.1,by simpa [eT] using h.1.2⟩,by simpa [eT,Ex.fits] using h.2⟩) (fun t ht q hqm x hx=>⟨hP t ht q hqm x hx,fun m hm=>by
  unfold eF at hm;split at hm
  ·exact hbd m hm
  rw[WZ.1 hm];exact hP t ht q hqm x hx⟩)
 refine⟨cq,fun t ht=>?_,fun t ht=>?_⟩
 ·obtain⟨s,hs,e1,e2,e3⟩:=Zd t ht;refine⟨by have:=YN t ht;omega,fun q hqm=>⟨by have:=(hex t ht q hqm).2.1;omega,fun x hx=>?_⟩⟩;obtain⟨q',hq',e4,e5,e6⟩:=e3 q hqm;exact(e6 x hx).1
 obtain⟨s,hs,e1,e2,e3⟩:=Zd t ht;refine⟨by rw[e1];exact(hf s hs).1,by have:=YN t ht;unfold maxLen;omega,fun q hqm=>?_⟩;obtain⟨q',hq',e4,e5,e6⟩:=e3 q hqm;exact⟨by rw[e4];exact((hf s hs).2.2 q' hq').1,by have:=(hex t ht q hqm).2.1;unfold maxLen;omega,fun x hx=>(e6 x hx).2⟩
def PR{w w':af}{base n:Nat}{v:Value}{xs:Q03}(h:w.ownsRow base 29 6 v n xs)(hb:ag w w'):w'.ownsRow base 29 6 v n xs :=
 h.kept (row:=none) ⟨hb.os,hb.tape,hb.output,hb.size,fun i hi _=>hb.block i hi⟩ (by
  cases h:v.ownBlock with
  | none=>exact .inl rfl
  | some g=>exact .inr ct)
structure St(w:World)(Zk adN:Q02)(rs qs:Q06)(W:World):Prop where
 bel:ag w W
 sl:jX W Zk rs
 sn:jX W adN qs
def St.later{w W W':af}{Zk adN:Q02}{rs qs:Q06}(h:St w Zk adN rs qs W)(hb:ag W W'):St w Zk adN rs qs W' :=
 ⟨h.bel.trans<|hb.mono h.bel.size,h.sl.below hb,h.sn.below hb⟩
def Mt[DecidableEq Fc]{st st2:Q00}{rs qs:Q06}{ts:Q05}{typ rel:ByteArray}(hle:aG (ae rs)=true->Least (ae rs) st)(hle2:aG (ae qs)=true->Least (ae qs) st2)(hd:aG (ae rs)=true)(hd2:aG (ae qs)=true)(hq:ae qs=jE (eF typ rel<|aj (ae rs) typ rel) (ae rs))(hbn:aj (ae rs) typ rel≠[])(hnn:(aj (ae rs) typ rel).any (eX rel)=false)(hnt:(aj (ae rs) typ rel).any kz=false):
  nO st2 qs ts=nO st rs ts:=by
 have hright:dm (sF qs) qs ts=dm (sF rs) rs ts:=by
  unfold dm;rw[hd,hd2,Bool.true_and];cases ht:dX ts;case false=>rfl
  rw[Bool.true_and,Bool.true_and];refine Gy fun t hm=>?_;rw[<-mG hd (sH ht t hm),<-mG hd2 (sH ht t hm),hq,PM hnt]
 cases hr:dm (sF rs) rs ts;case false=>unfold nO;rw[kS hr,kS<|hright.trans hr]
 have hm:=PN hle hle2 hq hbn hnn hnt hr<|hright.trans hr;have hp:(dO st2 qs ts).Perm (dO st rs ts):=(List.perm_ext_iff_of_nodup lH lH).2 fun x=>(hm x).symm;unfold nO;exact Ii (VL yX) lH (Ih (VL yX) lH)<|(qp _).trans hp.symm
set_option maxRecDepth 100000 in
def walk[DecidableEq Fc](ad:Q02)(len cap:Nat)(w:af)(h:Bytes w ad len):
  Calls prog 7 #[.slice ad len cap] w (bj w<|.bool true):=by
 obtain⟨iT,hiT,zT0,zT1,zT2⟩:=info_parts (P:=prog) (e:=29) (z:=.agg ar) (size:=6) (bytes:=96) cw;have HIT:O (prog.info? 29=some iT/\iT.zero=some (.agg ar)/\iT.size=6/\iT.bytes=96):=⟨hiT,zT0,zT1,zT2⟩;have H:=cZ h;clear h hiT zT0 zT1 zT2;go_enter func7,ntmps7;go_wp2_with fail;refine(Tw ad len cap w).mono ?_;rintro e w0 ⟨rfl,rfl⟩;by_cases hbig:(1048576:Int)<(len:Int)
 ·go_wp2;go_ret;exact⟨rfl,WL _ _⟩
 go_wp2_with fail;refine(zY ad len cap _ H).mono ?_;rintro e w1 ⟨v,rs,typ,rel,rfl,hT,⟨hG1,hG2,hG3⟩,ht20,hr20,hb1⟩;obtain⟨Zk,ZA,rfl,hs1,hcp⟩:=hT.read;have HB1:=cZ hb1;have HS1:=cZ hs1;have hlen:bh rs:=cq;have hrm:rel.size<=maxLen:=cy;have htm:typ.size<=maxLen:=cy;have HL:=cZ hG2;have HF:=cZ hG3;have HC:=cZ hcp;obtain⟨D,hD⟩:=eQx<|kP (ae rs) typ rel;have HDD:=cZ hD;clear hT hG2 hG3 hcp hb1 hs1 hbig hr20 ht20 hD;go_wp2_with fail;refine(zZ Zk ZA rs typ rel _ hlen HS1 HL HF HC htm hrm).mono ?_;rintro e w2 ⟨vn,qs,rfl,hqs,hTn,hb2⟩;rw[<-HDD]at hqs ⊢;obtain⟨adN,capN,rfl,hsn,hcn⟩:=hTn.read;have K2:O (St w0 Zk adN rs qs w2):=⟨HB1.trans<|hb2.mono HB1.size,HS1.below hb2,hsn⟩;have YO:=cZ hcn;have HQS:=cZ hqs;clear hTn hsn hcn hqs hb2 HB1 HS1;go_wp2_with fail;refine(Ab Zk ZA rs typ rel _ hlen K2.sl HL HF).mono ?_;rintro e w3 ⟨vm,ms,rfl,hms,hTm,hb3⟩;rw[<-HDD]at hms ⊢;obtain⟨adM,capM,rfl,hsm,-⟩:=hTm.read;have K3:=cZ<|K2.later hb3;have HSM:=cZ hsm;have HQM:O (ae qs=ae ms):=HQS.trans hms.symm;have HLQ:O (ms.length=qs.length):=by show _=_;rw[<-bz ms,<-bz qs,HQM]
 obtain⟨b,hbD⟩:=eQx D.isSome;have ZW:=cZ hbD
 -- both answers are light and fit
 have hgood:∀zs:List TR,ae zs=D.getD []->zs.length<=1048576/\(∀r∈zs,r.light)/\∀r∈zs,r.fits:=by
  intro zs hz;cases b;case false=>
   have:D=none:=by cases hD:D with
    | none=>rfl
    | some x=>rw[hD]at hbD;cases hbD
   rw[this]at hz;have hz0:zs=[]:=Xb.1 (by rw[<-bz zs,hz];rfl);subst hz0;exact⟨WO _,(fun r hr=>by cases hr),(fun r hr=>by cases hr)⟩
  obtain⟨h1,-,-,-,-,h2⟩:=FE HDD hbD;rw[h1]at hz;have hz':ae zs=jE (eF typ rel<|aj (ae rs) typ rel) (ae rs):=hz;exact PQ hz' (by rw[hz'];exact h2) HL HF
 obtain⟨hnl,hn1,hn2⟩:=hgood qs HQS;obtain⟨Yv,hm1,hm2⟩:=hgood ms hms;have HNL:=cZ hn1;have HNF:=cZ hn2;have HML:=cZ hm1;have HMF:=cZ hm2;rw[<-hbD];clear hTm hsm hms hb3 K2 hbD hgood hn1 hn2 hm1 hm2;have hbb:(b != b)=false:=ct;go_wp2_with fail;refine(vL adN capN qs _ hnl K3.sn HNL HNF YO).mono ?_;rintro e w4 ⟨rfl,hb4⟩;have K4:=cZ<|K3.later hb4;have HSM4:=cZ<|HSM.below hb4;clear hb4 K3 HSM;go_wp2_with fail;refine(vJ adM capM ms _ Yv HSM4 HML HMF).mono ?_;rintro e w5 ⟨rfl,hb5⟩;have K5:=cZ<|K4.later hb5;clear hb5 K4 HSM4;rw[<-HQM];obtain⟨X,hX⟩:=eQx<|jb<|ae qs;rw[<-hX];clear hX;have hxx:(X.toList != X.toList)=false:=ct;cases b;case false=>
  have HBe:=cZ K5.bel;rw[HLQ];go_wp2;go_ret;exact⟨ct,HBe⟩
 obtain⟨hD1,hin,hnn,hnt,hsd,hsd2⟩:=FE HDD ZW;have HCUT:O (ae qs=jE (eF typ rel<|aj (ae rs) typ rel) (ae rs)):=by show _=_;rw[HQS,hD1];rfl
 have HSD2:O (aG (ae qs)=true):=by show _=_;rw[HCUT];exact hsd2
 obtain⟨st,hst⟩:=UZ<|ae rs;obtain⟨st2,hst2⟩:=UZ<|ae qs;have HST:=cZ hst;have HST2:=cZ hst2;have HSAME:O (∀ts:List Tp,nO st2 qs ts=nO st rs ts):=fun ts=>Mt hst hst2 hsd HSD2 HCUT hin hnn hnt;clear hD1 hin hnn hnt hsd hsd2 hst hst2;go_wp2_with fail;refine(DD ad len cap _<|H.below K5.bel).mono ?_;rintro e w6 ⟨v',rs',g,c,ts,rfl,-,-,hl12,hsh,hown,hb6⟩;obtain⟨hrow,hg,hgc,-⟩:=qJ hown rfl;have HTU:O (Sl w6 (some<|am g) ts):=.inr ⟨g,0,rfl,hg,hrow⟩;have K6:=cZ<|K5.later hb6;have Yc:=cZ hsh.fits;clear hsh hown hb6 hrow hg K5;go_wp2_with fail;refine(DK Zk (some<|am g) ZA c rs ts _ hlen K6.sl HL HF HC cq HTU Yc).mono ?_;rintro e w7 ⟨YT,Yj,rfl,-,hb7⟩;have K7:=cZ<|K6.later hb7;have HT7:=cZ<|HTU.below hb7;obtain⟨n,hn⟩:∃n:Nat,n=(DJ (ae rs) ts).length:=⟨_,rfl⟩;rw[<-hn];clear hb7 K6 HTU hn
 go_upto_if 69 with fail
 obtain⟨bq,hbq⟩:=eQx<|decide (0<n);rw[<-hbq];clear hbq
 go_cut [11,12,13] from 70 (fun s11 s12 s13 wc=>∃(ad7:Q02) (cap7:Nat) (ks:Q05),s11=.slice ad7 ks.length cap7/\ks.length<=12/\O (Sl wc ad7 ks)/\O (∀t∈ks,t.fits)/\O (St w0 Zk adN rs qs wc))
 case first =>
  cases bq;case false=>
   go_wp2_with fail
   go_meet
   exact⟨_,_,ts,rfl,hl12,HT7,Yc,K7⟩
  obtain⟨W8,ZZ⟩:=eQx<|w7.alloc<|.cells #[] 29;have hb8:ag w7 W8:=by rw[ZZ];exact(WL _ _).alloc (WK _) _
  have HB8:=cZ hb8;have HOW:O (cD w7 W8 29 6 (.slice (some<|a7 w7) 0 0) 0<|bn []):=by
   show World.ownsRow _ _ _ _ _ _ _;rw[ZZ];exact World.ownsRow_lit w7 #[] 0 (WK _) cy ct
  clear hb8;go_wp2_with fail;rw[<-ZZ];clear ZZ;go_loopw[12,13] (fun v i wr=>∃(k:Nat) (ks:Q05),k<=ts.length/\i=.int .i64 k/\ks.length<=k/\O (∀t∈ks,t∈ts)/\O (cD w7 wr 29 6 v ks.length<|bn ks)/\O (ag w7 wr)) (fun _ i _=>ts.length-(intOf i).toNat);case atStart=>exact⟨0,[],WO _,rfl,WK _,(fun t ht=>by cases ht),HOW,HB8⟩
  clear HOW HB8;obtain⟨k,ks,hk,rfl,hkl0,HKS,HO,HB⟩:=hrel;have hk1:=bY k;by_cases hkl:k<ts.length
  ·have hk2:(k:Int)<(ts.length:Int):=cq;rcases HT7.out.below HB.out with hnil|⟨b,off,Yb,hb,hr⟩
   ·rw[hnil]at hkl;simp at hkl
   injection Yb with Yb;injection Yb with e1 e2;subst e1;subst e2;obtain⟨t0,t1,t2,t3,t4,t5⟩:=hr k hkl;simp only[Xl]at t0 t1 t2 t3 t4 t5;obtain⟨f0,f1,f2,f3,f4,f5⟩:=Yc _<|WH hkl;have hxm:=WH hkl;obtain⟨x,hx⟩:=eQx<|ts[k];rw[<-hx]at t0 t1 t2 t3 t4 t5 f0 f1 f2 f3 f4 f5 hxm;have HXM:=cZ hxm;have K8:=cZ<|K7.later HB;clear hr hx hxm;go_wp2_with fail;refine(GV Zk ZA rs x.a x.b x.r x.c x.d x.s _ hlen K8.sl HL HF HC f0 f1 f2 f3 f4 f5).mono ?_;rintro e w8 ⟨rfl,hb8⟩;have HB8:=iD HB hb8;have HO8:=cZ<|PR HO hb8;have hg8:cU g w8:=WJ hb hb8.size;replace t0:=(hb8.cell (p:=⟨g,_,none⟩) hb).trans t0;replace t1:=(hb8.cell (p:=⟨g,_,none⟩) hb).trans t1;replace t2:=(hb8.cell (p:=⟨g,_,none⟩) hb).trans t2;replace t3:=(hb8.cell (p:=⟨g,_,none⟩) hb).trans t3;replace t4:=(hb8.cell (p:=⟨g,_,none⟩) hb).trans t4;replace t5:=(hb8.cell (p:=⟨g,_,none⟩) hb).trans t5;clear hb8 HB HO K8 hb;cases h1:oq (ae rs) x.a x.b x.r x.c x.d x.s;case false=>
    clear h1;go_wp2;go_roundw;case rel=>exact⟨k+1,ks,cq,cx,cq,HKS,HO8,HB8⟩
    simp[intOf]<;>omega
   clear h1;obtain⟨W6,Zo⟩:=eQx<|w8.alloc<|.cells (cg x) 29;have Zt:O (cD w7 W6 29 6 u12 ks.length<|bn ks):=by show World.ownsRow _ _ _ _ _ _ _;rw[Zo];exact HO8.alloc _
   have YX:O (∀j u,x.row[j]?=some u->W6.cell? ((⟨w8.heap.size,0,none⟩:Addr).add j)=some u):=by rw[Zo];exact sU w8 x
   have HB6:O (ag w8 W6):=by rw[Zo];exact(WL _ _).alloc (WK _) _
   have HBD6:O (ag w7 W6):=HB8.trans<|HB6.mono HB8.size;have HSZ:O (w7.heap.size<=W6.heap.size):=HBD6.size;go_wp2_with(at_builtin;rw[<-Zo];clear Zo;refine wpList_append_own_at _ rfl _ _ 25 rfl w7.heap.size 29 iT (.agg ar) 6 96 underlying25 HIT.1 HIT.2.1 HIT.2.2.1 HIT.2.2.2 rfl cv u12 _ (bn ks) rfl Zt ⟨w8.heap.size,0,none⟩ 1 1 x.row rfl rfl YX (rU _) cy cq HSZ ?_);intro v9 w9 hown9 hgr9 _ _;have HB9:O (ag w7 w9):=HBD6.grown hgr9 HBD6.size fun j hj=>(Zt.lt j hj).1;have HO9:O (cD w7 w9 29 6 v9 (ks++[x]).length<|bn<|ks++[x]):=by
    show World.ownsRow _ _ _ _ _ _ _;rw[qy,WP];exact hown9
   have HK9:O (∀t∈ks++[x],t∈ts):=fun t ht=>by
    rcases WU.1 ht with h|h
    ·exact HKS t h
    rw[WZ.1 h];exact HXM
   clear hown9 hgr9 t0 t1 t2 t3 t4 t5;go_wp2;go_roundw;case rel=>exact⟨k+1,ks++[x],cq,cx,by simp;omega,HK9,HO9,HB9⟩
   simp[intOf]<;>omega
  obtain rfl:k=ts.length:=cq;obtain⟨ad7,cap7,hv,hsl,-⟩:=Ip HO rfl;subst hv;have HSL:=cZ hsl;have K8:=cZ<|K7.later HB;have HKT:O (∀t∈ks,t.fits):=fun t ht=>Yc t<|HKS t ht;clear hsl HO HB hk1;go_wp2_with fail
  go_meet
  exact⟨ad7,cap7,ks,rfl,cq,HSL,HKT,K8⟩
 obtain⟨ad7,cap7,ks,rfl,hk12,HSL,HKT,K8⟩:=hcut;clear K7 HT7 Yc hl12;go_wp2_with fail;refine(dz adN capN qs _ hnl K8.sn HNL HNF YO).mono ?_;rintro e w9 ⟨rfl,Y6⟩;rw[HSD2];have K9:=cZ<|K8.later Y6;have HSL9:=cZ<|HSL.below Y6;have hlA:(nO st rs ks).length<=115200:=by rw[Mq];exact Ml st
 clear Y6 K8 HSL;go_wp2_with fail;refine(uG st2 adN capN qs ad7 cap7 ks _ hnl K9.sn HNL HNF YO cq HSL9 HKT HST2).mono ?_;intro e w10 hp10;obtain⟨⟨v10,rfl,ho10⟩,hb10⟩:=uH hp10;rw[HSAME ks]at ho10;obtain⟨adA,capA,rfl,hsA⟩:=Cu ho10;have K10:=cZ<|K9.later hb10;have HSL10:=cZ<|HSL9.below hb10;have HSA:=cZ hsA;clear hb10 hp10 ho10 hsA K9 HSL9;go_wp2_with fail;refine(uG st Zk ZA rs ad7 cap7 ks _ hlen K10.sl HL HF HC cq HSL10 HKT HST).mono ?_;intro e w11 hp11;obtain⟨⟨v11,rfl,ho11⟩,hb11⟩:=uH hp11;obtain⟨adB,capB,rfl,hsB⟩:=Cu ho11;have K11:=cZ<|K10.later hb11;have HSA11:=cZ<|HSA.below hb11;have HSB:=cZ hsB;clear hb11 hp11 ho11 hsB K10 HSL10 HSA;go_wp2_with fail;refine(DI adA adB capA capB (nO st rs ks) _ cq HSA11 HSB).mono ?_;rintro e w12 ⟨rfl,hb12⟩;have HBe:=cZ (K11.later hb12).bel;clear hb12 K11;go_wp2;go_ret;exact⟨ct,HBe⟩
end Go.Proofs.YtojjoblnpldniaaGreat.fnInlined
