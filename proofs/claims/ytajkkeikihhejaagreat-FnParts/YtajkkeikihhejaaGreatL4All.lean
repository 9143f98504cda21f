/- All facts, as the document finds them: stratum by stratum, round by round. -/
import Derived.Test.YtajkkeikihhejaaGreatSq
import Derived.Test.YtajkkeikihhejaaGreatJ29
import Derived.Test.YtajkkeikihhejaaGreatJ22
import Derived.Test.YtajkkeikihhejaaGreatSpecSchema10
open Go.Proofs.Tryz
set_option maxHeartbeats 80000000
namespace Go.Proofs.YtajkkeikihhejaaGreat
set_option linter.unusedVariables false
set_option linter.unusedSectionVars false
set_option maxRecDepth 100000
open Go.ChangeShapes Go.WideShapes Go.ChangeAt Go.RowKit Go.Maps
open Pl
theorem Ha {rs:List TR}(h:bi (ae rs)=true){k:ByteArray×ByteArray}(hk:k∈ak (ae rs)):∃ es,fH (ae rs) k.1 k.2=some es/\aK es=true:=by
 unfold ak at hk;obtain ⟨T,hT,hk⟩:=Ut.1 hk;obtain ⟨t,ht,rfl⟩:=Ur.1 hT;unfold jH at hk;obtain ⟨r,hr,rfl⟩:=Ur.1 hk;obtain ⟨q,hq,rfl⟩:=Ur.1 hr;exact ⟨aj q.rows,pJ h ht hq,((bu h).2.2 t ht q hq).1⟩
theorem Ta {wr W w':af}{b o1 o2:Nat}{x y:Value}(h:W.cell? ⟨b,o1,none⟩=some x/\W.cell? ⟨b,o2,none⟩=some y/\ag wr W)(hb:ag W w'):w'.cell? ⟨b,o1,none⟩=some x/\w'.cell? ⟨b,o2,none⟩=some y/\ag wr w' :=
 ⟨bC hb (aG h.1) h.1,bC hb (aG h.2.1) h.2.1,h.2.2.trans (hb.mono h.2.2.size)⟩
def qY [DecidableEq Fc](st:ByteArray×ByteArray->Int)(rs:List TR)(ts:List Tp):List Fc:=mg (ae rs) ts st (eD ts) (dh ts) ((ak (ae rs)).length+1)
section
variable  [DecidableEq Fc]
theorem kG (st:ByteArray×ByteArray->Int)(rs:List TR)(ts:List Tp)(xo xu:List Al):∀ N,GoodO (ae rs) xo xu (mg (ae rs) ts st xo xu N)
 | 0=>⟨List.nodup_nil,fun g hg=>by cases hg⟩
 | N+1=>by
  refine ⟨CZ _ _ _ _ _ _,fun g hg=>?_⟩;rw [jh]at hg;obtain ⟨new,e,hn⟩:=wH (H:=fe (ae rs) ts) (bZ (ae rs) st xo xu (N:Int)) (lZ (bZ (ae rs) st xo xu (N:Int)) (mg (ae rs) ts st xo xu N)+1) (mg (ae rs) ts st xo xu N);unfold ku at hg;rw [e]at hg;rcases Uq.1 hg with hg|hg
  ·exact (kG st rs ts xo xu N).sub g hg
  exact Dy (hn g hg)
theorem DK (st:ByteArray×ByteArray->Int)(ad:Option Addr)(cap:Nat)(rs:List TR)(UX:Option Addr)(cap':Nat)(ts:List Tp)(w:af)(hsp:bW (ae rs))(hle:Least (ae rs) st)(hs:kX w ad rs)(hl:∀ r∈rs,r.light)(hlt:ts.length<=40)(hst:Sl w UX ts) :
  Calls prog 57 #[.slice ad rs.length cap,.slice UX ts.length cap'] w fun e w'=>(∃ v,e=.returned v/\w'.ownsRow w.heap.size 29 5 v (qY st rs ts).length (aI (qY st rs ts)))/\ag w w':=by
 obtain ⟨iF,z0,z1,z2,z3⟩:=EH;have HIF:=aF (And.intro z0 (And.intro z1 (And.intro z2 z3)));obtain ⟨h6,Ww,hsf⟩:=bu hsp.1;have HSP:=aF hsp;have Vs:=aF hle;have HS:=aF hs;have HL:=aF hl;have HST:=aF hst;have Zi:=aF hsf;have Wt:=aF Ww;have HND:=aF (JL hsp.1);have YA:(ak (ae rs)).length<=36:=yP h6 Ww;have htl:ts.length<=1048576:=by omega
 obtain ⟨W0,hW0⟩:∃ W0,W0=w.alloc (.cells #[] 29):=⟨_,rfl⟩;have HB0:=rV hW0;have Vv:Hid (W0.ownsRow w.heap.size 29 5 (.slice (some ⟨w.heap.size,0,none⟩) 0 0) 0 (aI [])):=by
  show World.ownsRow _ _ _ _ _ _ _;rw [hW0];exact World.ownsRow_lit w #[] 0 (Ue _) (by unfold maxLen;omega) (by simp)
 have HNC:Hid ((∀ o,W0.cell? ⟨w.heap.size,o,none⟩=none)/\w.heap.size<W0.heap.size):=by
  show _/\_;rw [hW0];exact ⟨fun o=>by simp,by simp⟩
 clear hsp hle hs hl hst hsf Ww z0 z1 z2 z3;go_enter func57,ntmps57;go_wp2_with fail;rw [<-hW0];clear hW0;refine (sF UX cap' ts false _ hlt (HST.out.below HB0.out)).mono ?_;rintro e w1 ⟨⟨vo,rfl,hvo⟩,hb1⟩;have HB1:=aF (HB0.out.trans (hb1.mono HB0.out.size));have HR1:=aF (df Vv.out hb1);have HN1:Hid ((∀ o,w1.cell? ⟨w.heap.size,o,none⟩=none)/\w.heap.size<w1.heap.size):=⟨fun o=>(hb1.cell (p:=⟨w.heap.size,o,none⟩) HNC.out.2).trans (HNC.out.1 o),Uc HNC.out.2 hb1.size⟩;obtain ⟨Wv,Wh,rfl,hsO⟩:=kC hvo;have HSO:=aF hsO;clear hvo hb1 hsO HB0 Vv HNC;go_wp2_with fail;refine (sF UX cap' ts true _ hlt (HST.out.below HB1.out)).mono ?_;rintro e w2 ⟨⟨vu,rfl,hvu⟩,hb2⟩;have HB2:=aF (HB1.out.trans (hb2.mono HB1.out.size));have HR2:=aF (df HR1.out hb2);have Wq:Hid ((∀ o,w2.cell? ⟨w.heap.size,o,none⟩=none)/\w.heap.size<w2.heap.size):=⟨fun o=>(hb2.cell (p:=⟨w.heap.size,o,none⟩) HN1.out.2).trans (HN1.out.1 o),Uc HN1.out.2 hb2.size⟩;have HSO2:=aF (HSO.out.below hb2);obtain ⟨VH,U0,rfl,hsU⟩:=kC hvu;have ZH:=aF hsU;clear hvu hb2 hsU HB1 HR1 HN1 HSO;go_wp2_with fail;refine (uT ad cap rs _ h6 (HS.out.below HB2.out) HL.out Wt.out (fun r hr q hq=>(Zi.out r hr q hq).2) (kz HSP.out.2.1)).mono ?_;rintro e W ⟨hres,hb3⟩;rcases hres with ⟨adN,capN,sts,rfl,hsN,hkN,hlN⟩|⟨-,hno⟩;rotate_left
 ·exact absurd HSP.out.2.2 hno
 have HK:=aF hkN;have WY:=aF hlN;have HB3:=aF (HB2.out.trans (hb3.mono HB2.out.size));have HSN:=aF hsN;have HSO3:=aF (HSO2.out.below hb3);have HSU3:=aF (ZH.out.below hb3);have hsl:sts.length=(ak (ae rs)).length:=by rw [<-hkN,iJ,UK]
 have hs36:sts.length<=36:=by omega
 have HSLE:=aF hsl;obtain ⟨xo,hxo⟩:∃ xo,xo=eD ts:=⟨_,rfl⟩;obtain ⟨xu,hxu⟩:∃ xu,xu=dh ts:=⟨_,rfl⟩;have n0:fJ false ts=xo:=by rw [hxo];rfl
 have n1:fJ true ts=xu:=by rw [hxu];rfl
 rw [n0]at HSO3;rw [n1]at HSU3;rw [n0,n1];have hol:xo.length<=80:=by have:=oD ts;rw [hxo];omega
 have Yo:xu.length<=40:=by have:=mG ts;rw [hxu];omega
 have HXO:=aF hxo;have HXU:=aF hxu;have Yx:Hid (OutI w W W (.slice (some ⟨w.heap.size,0,none⟩) 0 0) []):=⟨df HR2.out hb3,fun _ _ _ h=>h,Ue _,HB3.out,fun g hg o=>by
  have e:g=w.heap.size:=by simpa [Value.ownBlock] using hg.symm
  rw [e];exact (hb3.cell (p:=⟨w.heap.size,o,none⟩) Wq.out.2).trans (Wq.out.1 o)⟩
 clear hsN hkN hlN hb3 HB2 HR2 Wq HSO2 ZH n0 n1 hxo hxu hsl Wt;obtain ⟨H,hH⟩:∃ H,H=fe (ae rs) ts:=⟨_,rfl⟩;obtain ⟨A,hA⟩:∃ A:Nat->List Fc,A=mg (ae rs) ts (fM sts) xo xu:=⟨_,rfl⟩;obtain ⟨Q,hQ⟩:∃ Q:Nat->List Fc,Q=fun (n:Nat)=>bZ (ae rs) (fM sts) xo xu (n:Int):=⟨_,rfl⟩;have HA1:Hid (∀ n,A (n+1)=ku H (Q n) (A n)):=fun n=>by rw [hA,hH,hQ];exact jh _ _ _ _ _ _
 have HAG:Hid (∀ n,GoodO (ae rs) xo xu (A n)):=fun n=>by rw [hA];exact kG _ _ _ _ _ n
 have HQS:Hid (∀ n,∀ g∈Q n,g∈BP (ae rs) xo xu):=fun n g hg=>by rw [hQ]at hg;exact Dy hg
 have HQI:Hid (∀ n:Nat,rZ sts xo xu (n:Int) xo.length=Q n):=fun n=>by rw [hQ];exact PR HK.out HND.out xo xu n
 have Vm:Hid (A (sts.length+1)=qY st rs ts):=by
  show _=_;rw [hA,HSLE.out,HXO.out,HXU.out];exact xk (fun k hk=>WY.out.same Vs.out k hk) _
 have HA0:Hid (A 0=[]):=by show _=_;rw [hA];rfl
 have HH:=aF hH;clear hH hA hQ;go_wp2;go_loopw [5,10] (fun v i wr=>∃ (n:Nat),n<=sts.length+1/\i=.int .i64 n/\Hid (OutI w W wr v (A n))) (fun _ i _=>sts.length+1-(intOf i).toNat);case atStart=>exact ⟨0,Ui _,rfl,by rw [HA0.out];exact Yx⟩
 clear Yx;obtain ⟨n,hn,rfl,HO⟩:=hrel;by_cases hlt1:n<=sts.length
 ·go_wp2;go_loopw [5,11] (fun v m wr=>∃ (bb:Bool) (out:List Fc),m=.bool bb/\Hid (ku H (Q n) out=A (n+1))/\Hid (bb=false->bG H (Q n) out=out)/\Hid (OutI w W wr v out)/\Hid (GoodO (ae rs) xo xu out)) (fun v m _=>2*(200000-SG v)+TV m);case atStart=>exact ⟨true,A n,rfl,(HA1.out n).symm,(fun h=>by cases h),HO,HAG.out n⟩
  clear HO;obtain ⟨bb,out,rfl,HLM,Y8,HO,HG⟩:=hrel;have hout:=HG.out.len hol YA Yo;obtain ⟨Yj,VI,rfl,-⟩:=ni HO.out.row;cases bb;case false=>
   have UN:Hid (OutI w W wr (.slice Yj out.length VI) (A (n+1))):=by
    show OutI _ _ _ _ _;rw [<-HLM.out,wG (Y8.out rfl)];exact HO.out
   go_wp2;go_roundw;case rel=>exact ⟨n+1,by omega,by go_num,UN⟩
   simp [intOf] <;> omega
  go_wp2;go_loopw [5,11,12] (fun v m i wr=>∃ (q:Nat) (bb:Bool) (UR:List Fc),q<=xo.length/\m=.bool bb/\i=.int .i64 q/\Hid (UR=bG H (rZ sts xo xu (n:Int) q) out)/\Hid (bb=decide (out.length<UR.length))/\Hid (OutI w W wr v UR)/\Hid (GoodO (ae rs) xo xu UR)) (fun _ _ i _=>xo.length-(intOf i).toNat);case atStart=>exact ⟨0,false,out,Ui _,rfl,rfl,rfl,(decide_eq_false (Nat.lt_irrefl _)).symm,HO,HG⟩
  clear HO;obtain ⟨q,bb,UR,hq,rfl,rfl,HR,Wm,UN,HG2⟩:=hrel;by_cases hlq:q<xo.length
  ·have HSU4:=aF (MI (sts:=sts) (xu:=xu) (n:=(n:Int)) hlq);obtain ⟨o,ho⟩:∃ o,o=xo[q]:=⟨_,rfl⟩;rw [<-ho]at HSU4;have HOQ:=aF ho;clear ho;go_wp2;go_loopw [5,11,13] (fun v m i wr=>∃ (p:Nat) (bb:Bool) (Wz:List Fc),p<=sts.length/\m=.bool bb/\i=.int .i64 p/\Hid (Wz=bG H (rZ sts xo xu (n:Int) q++kF sts xu (n:Int) o p) out)/\Hid (bb=decide (out.length<Wz.length))/\Hid (OutI w W wr v Wz)/\Hid (GoodO (ae rs) xo xu Wz)) (fun _ _ i _=>sts.length-(intOf i).toNat);case atStart=>exact ⟨0,bb,UR,Ui _,rfl,rfl,by show _=_;rw [MH,List.append_nil];exact HR.out,Wm,UN,HG2⟩
   clear UN HR Wm HG2;obtain ⟨p,bb,Wz,hp,rfl,rfl,HR,Wm,UN,HG2⟩:=hrel;by_cases hlp:p<sts.length
   ·obtain ⟨bN,offN,hadN,⟨s0,s1,s2⟩,hbN⟩:=IA.at0 (HSN.out.keepC UN.out.size UN.out.keep) hlp;obtain ⟨bO,Vp,XX,⟨o0,o1⟩,hbO⟩:=jM.at0 (HSO3.out.keepC UN.out.size UN.out.keep) hlq;rw [<-HOQ.out]at o0 o1;obtain ⟨s,hsp⟩:∃ s,s=sts[p]:=⟨_,rfl⟩;have Z5:Hid ((s.typ.toList==o.t.toList&&decide (s.n=(n:Int)))=false->kF sts xu (n:Int) o (p+1)=kF sts xu (n:Int) o p):=fun h=>Q8 hlp (by rw [<-hsp];exact h);have HKY:Hid ((s.typ.toList==o.t.toList&&decide (s.n=(n:Int)))=true->kF sts xu (n:Int) o (p+1)=kF sts xu (n:Int) o p++jc o s.rel xu):=fun h=>by rw [PQ hlp (by rw [<-hsp];exact h),<-hsp]
    rw [<-hsp]at s0 s1 s2;have Z0:Hid (s.key∈ak (ae rs)):=by show _∈_;rw [<-HK.out,hsp];exact List.mem_map_of_mem (Ud hlp)
    have WU:=aF hsp;have hq1:=bF q;have hq2:(q:Int)<(xo.length:Int):=by omega
    have hp1:=bF p;have hp2:(p:Int)<(sts.length:Int):=by omega
    subst hadN;subst XX;clear hsp;cases ht:(s.typ.toList==o.t.toList);case false=>
     have Zg:Hid (kF sts xu (n:Int) o (p+1)=kF sts xu (n:Int) o p):=Z5.out (by rw [ht];rfl);have U9:∀ nq,Hid (OutI w W (wr.drewN nq) u5 Wz):=fun nq=>UN.out.below (below_drewN (Uf _ _) nq);go_wp2_with fail;go_quiet (fail);go_wp2;go_roundw;case rel=>exact ⟨p+1,bb,Wz,by omega,rfl,by go_num,by rw [Zg.out];exact HR,Wm,U9 _,HG2⟩
     simp [intOf] <;> omega
    by_cases hn2:s.n=(n:Int)
    ·have hb1:(s.n==(n:Int))=true:=by simpa using hn2
     have Zg:=aF (HKY.out (by rw [ht,hn2];simp));have HTO:Hid (s.typ=o.t):=fw.1 ht;have hb2:decide (s.n=(n:Int))=true:=decide_eq_true hn2;replace hn2:Hid (s.n=(n:Int)):=hn2;have HREL:Hid (∀ W':World,(W'.cell? ⟨bN,offN+p*3,none⟩=some (.string s.typ)/\W'.cell? ⟨bN,offN+p*3+1,none⟩=some (.string s.rel)/\ag wr W')->Calls prog 97 #[.slice ad rs.length cap,.string s.typ,.string s.rel] W' fun e w'=>(∃ (rows:List ER) (UO:Option Addr) (capE:Nat),e=.returned (.slice UO rows.length capE)/\aj rows=aB (ae rs) s.typ s.rel/\pV rs UO rows)/\ag W' w'):=fun W' h=>by
      refine (je ad cap rs s.typ s.rel W' (by omega) (HS.out.below (UN.out.bel.trans (h.2.2.mono UN.out.bel.size))) HL.out).mono ?_;rintro e w' ⟨⟨rows,UO,capE,he,hx,-,hf⟩,rfl⟩;exact ⟨⟨rows,UO,capE,he,hx,hf⟩,Uf _ _⟩
     go_wp2_with fail;go_quiet (fail);go_wp2_with fail
     go_region_held3 (fun w'=>w'.cell? ⟨bN,offN+p*3,none⟩=some (.string s.typ)/\w'.cell? ⟨bN,offN+p*3+1,none⟩=some (.string s.rel)/\ag wr w')
      (first|assumption|exact Ta (by assumption) hbx|exact ⟨s0,s1,Below.drew (below_drewN (Uf _ _) _)⟩)
      (first|(go_at_call 97;refine (HREL.out _ (by assumption)).mono ?_;rintro e w' ⟨⟨rows,UO,capE,rfl,hrx,hrf⟩,hbx⟩))
     rename_i hH;have U4:=aF (UN.out.below hH.2.2);have ZJ:Hid (aj rows=aB (ae rs) o.t s.rel):=by show _=_;rw [hrx,HTO.out]
     obtain ⟨Wo,hr1⟩:Hid (Xg rows)/\1<=rows.length:=by
      obtain ⟨es,e1,e2⟩:=Ha HSP.out.1 Z0.out;have e3:aj rows=es:=by
       rw [hrx];unfold aB;show (fH (ae rs) s.key.1 s.key.2).getD []=es;rw [e1];rfl
      rw [<-e3]at e2;exact EW e2
     have HRF:=aF hrf;have hr1000:=Wo.out.len;clear hH hbx hrx hrf HREL s0 s1 s2 o0 o1 hb1 hb2 UN HTO hbN hbO;go_wp2;go_loopw [5,11,15] (fun v m i wr=>∃ (j:Nat) (bb:Bool) (U3:List Fc),j<=xu.length/\m=.bool bb/\i=.int .i64 j/\Hid (U3=bG H (rZ sts xo xu (n:Int) q++kF sts xu (n:Int) o p++jc o s.rel (xu.take j)) out)/\Hid (bb=decide (out.length<U3.length))/\Hid (OutI w W wr v U3)/\Hid (GoodO (ae rs) xo xu U3)) (fun _ _ i _=>xu.length-(intOf i).toNat);case atStart=>exact ⟨0,bb,Wz,Ui _,rfl,rfl,by show _=_;rw [List.take_zero];show _=bG H (_++[]) out;rw [List.append_nil];exact HR.out,Wm,U4,HG2⟩
     clear U4 HR Wm HG2;obtain ⟨j,bb,U3,hj,rfl,rfl,HR,Wm,UN,HG2⟩:=hrel;by_cases hlj:j<xu.length
     ·obtain ⟨bU,offU,hadU,⟨y0,y1⟩,hbU⟩:=jM.at0 (HSU3.out.keepC UN.out.size UN.out.keep) hlj;obtain ⟨bN',offN',ZR,⟨s0,s1,s2⟩,hbN⟩:=IA.at0 (HSN.out.keepC UN.out.size UN.out.keep) hlp;obtain ⟨bO',offO',ZT,⟨o0,o1⟩,hbO⟩:=jM.at0 (HSO3.out.keepC UN.out.size UN.out.keep) hlq;injection ZR with ZR;injection ZR with e1 e2;subst e1;subst e2;injection ZT with ZT;injection ZT with e1 e2;subst e1;subst e2;rw [<-HOQ.out]at o0 o1;rw [<-WU.out]at s0 s1 s2;obtain ⟨f,hf⟩:∃ f:Fc,f=⟨o.t,o.s,s.rel,xu[j].t,xu[j].s⟩:=⟨_,rfl⟩;have HAT:Hid (jc o s.rel (xu.take (j+1))=jc o s.rel (xu.take j)++[f]):=by show _=_;rw [hf];exact MJ o s.rel hlj
      have HFQ:Hid (f∈BP (ae rs) xo xu):=by
       show _∈_;rw [hf];unfold BP jc;refine Ut.2 ⟨o,by rw [HOQ.out];exact Ud hlq,Ut.2 ⟨s.key,Z0.out,Ur.2 ⟨xu[j],Ud hlj,rfl⟩⟩⟩
      have hout4:=HG2.out.len hol YA Yo;obtain ⟨adF4,YN,rfl,hsF⟩:=ni UN.out.row;have HSF4:=aF hsF;have f0:o.t=f.a:=by rw [hf]
      have f1:o.s=f.b:=by rw [hf]
      have f2:s.rel=f.r:=by rw [hf]
      have f3:xu[j].t=f.c:=by rw [hf]
      have f4:xu[j].s=f.d:=by rw [hf]
      have HEF:Hid (aj rows=aB (ae rs) f.a f.r):=by show _=_;rw [hf];exact ZJ.out
      rw [f3]at y0;rw [f4]at y1;rw [f0]at o0;rw [f1]at o1;rw [f2]at s1;have hj1:=bF j;have hj2:(j:Int)<(xu.length:Int):=by omega
      subst hadU;clear hsF hf f0 f1 f2 f3 f4 s0 s2;obtain ⟨W5,Vr⟩:∃ W5,W5=(wr.alloc (.cells #[.string f.a,.string f.b,.string f.r,.string f.c,.string f.d] 29)).drew:=⟨_,rfl⟩;have V4:Hid (ag wr W5):=by show Below _ _ _;rw [Vr];exact ((Uf _ _).alloc (Ue _) _).drew
      have g0:W5.cell? ⟨wr.heap.size,0,none⟩=some (.string f.a):=by rw [Vr];simp
      have g1:W5.cell? ⟨wr.heap.size,1,none⟩=some (.string f.b):=by rw [Vr];simp
      have g2:W5.cell? ⟨wr.heap.size,2,none⟩=some (.string f.r):=by rw [Vr];simp
      have g3:W5.cell? ⟨wr.heap.size,3,none⟩=some (.string f.c):=by rw [Vr];simp
      have g4:W5.cell? ⟨wr.heap.size,4,none⟩=some (.string f.d):=by rw [Vr];simp
      have gl:wr.heap.size<W5.heap.size:=aG g0;have UZ:=aF (UN.out.below V4.out);go_wp2_with fail
      go_region
      rw [<-Vr];clear Vr y0 y1 o0 o1 s1 hbU hbN hbO;go_wp2_with fail;refine (ol adF4 YN U3 f W5 (by omega) (HSF4.out.below V4.out)).mono ?_;rintro e w6 ⟨rfl,hb6⟩;have Xa:=aF (V4.out.trans (hb6.mono V4.out.size));have Vw:=aF (UZ.out.below hb6);replace g0:=bC hb6 gl g0;replace g1:=bC hb6 gl g1;replace g2:=bC hb6 gl g2;replace g3:=bC hb6 gl g3;replace g4:=bC hb6 gl g4;replace gl:=Uc gl hb6.size;have HHF:Hid (H U3 f=dz ts (aj rows) U3 f rows.length U3 (rows.length-1)):=by show _=_;rw [HH.out];unfold fe;rw [<-HEF.out,aN]
      have HRS:Hid (bG H (rZ sts xo xu (n:Int) q++kF sts xu (n:Int) o p++jc o s.rel (xu.take (j+1))) out=dU H U3 f):=by show _=_;rw [HAT.out,<-List.append_assoc,rR,<-HR.out]
      clear hb6 V4 UZ;cases hh:bn U3 f;case true=>
       have HR2:Hid (U3=bG H (rZ sts xo xu (n:Int) q++kF sts xu (n:Int) o p++jc o s.rel (xu.take (j+1))) out):=by show _=_;rw [HRS.out,vX (.inl hh)]
       go_wp2;go_roundw;case rel=>exact ⟨j+1,bb,U3,by omega,rfl,by go_num,HR2,Wm,Vw,HG2⟩
       simp [intOf] <;> omega
      have HHH:=aF hh;have hwr:IntKind.i64.wrap ((rows.length:Int)-1)=((rows.length-1:Nat):Int):=by rw [IntKind.wrap_i64];omega
      have VU:=aF (yf (.slice ad rs.length cap) UX cap' ts UO capE rows adF4 YN U3 f htl Wo.out (by omega) rows.length (rows.length-1) adF4 YN U3 w6 (by omega) (by omega) (by omega) ⟨HST.out.below Vw.out.bel,HRF.out.sl (HS.out.below Vw.out.bel),HSF4.out.below Xa.out,HSF4.out.below Xa.out⟩);clear hh;go_wp2_with fail;refine VU.out.mono ?_;rintro e w7 ⟨he7,Zn⟩;rw [<-HHF.out]at he7;subst he7;have Xc:=aF (Vw.out.below Zn);replace g0:=bC Zn gl g0;replace g1:=bC Zn gl g1;replace g2:=bC Zn gl g2;replace g3:=bC Zn gl g3;replace g4:=bC Zn gl g4;replace gl:=Uc gl Zn.size;clear Zn VU Vw Xa hwr;cases hv:H U3 f;case false=>
       have HR2:Hid (U3=bG H (rZ sts xo xu (n:Int) q++kF sts xu (n:Int) o p++jc o s.rel (xu.take (j+1))) out):=by show _=_;rw [HRS.out,vX (.inr hv)]
       go_wp2;go_roundw;case rel=>exact ⟨j+1,bb,U3,by omega,rfl,by go_num,HR2,Wm,Xc,HG2⟩
       simp [intOf] <;> omega
      have HST2:Hid (dU H U3 f=U3++[f]):=DC HHH.out hv;have HR2:Hid (U3++[f]=bG H (rZ sts xo xu (n:Int) q++kF sts xu (n:Int) o p++jc o s.rel (xu.take (j+1))) out):=by show _=_;rw [HRS.out,HST2.out]
      have XK:Hid (GoodO (ae rs) xo xu (U3++[f])):=by
       have h1:=HG2.out.run (H:=H) (qs:=[f]) (fun g hg=>by
        rw [Uo]at hg;subst hg;exact HFQ.out)
       rw [show bG H [f] U3=dU H U3 f from rfl,HST2.out]at h1;exact h1
      have Yw:Hid (true=decide (out.length<(U3++[f]).length)):=by
       show _=_;have h1:=GV H (rZ sts xo xu (n:Int) q++kF sts xu (n:Int) o p++jc o s.rel (xu.take j)) out;rw [<-HR.out]at h1;rw [Ul];exact (decide_eq_true (by simp;omega)).symm
      obtain ⟨W8,WL⟩:∃ W8,W8=w7.alloc (.cells #[.string f.a,.string f.b,.string f.r,.string f.c,.string f.d] 29):=⟨_,rfl⟩;have HO8:Hid (OutI w W W8 (.slice adF4 U3.length YN) U3):=by show OutI _ _ _ _ _;rw [WL];exact Xc.out.below ((Uf _ _).alloc (Ue _) _)
      have HN8:Hid (∀ j u,f.row[j]?=some u->W8.cell? ((⟨w7.heap.size,0,none⟩:Addr).add j)=some u):=by rw [WL];exact Kz w7 f
      have hsz8:w.heap.size<=W8.heap.size:=HO8.out.bel.size;clear hv;go_wp2_with (at_builtin;rw [<-WL];clear WL;refine wpList_append_own_at _ rfl _ _ 40 rfl w.heap.size 29 iF (.agg #[.string ⟨#[]⟩,.string ⟨#[]⟩,.string ⟨#[]⟩,.string ⟨#[]⟩,.string ⟨#[]⟩]) 5 80 underlying40 HIF.out.1 HIF.out.2.1 HIF.out.2.2.1 HIF.out.2.2.2 rfl (by decide) _ U3.length (aI U3) rfl HO8.out.row ⟨w7.heap.size,0,none⟩ 1 1 f.row rfl rfl HN8.out (by simp [Fc.row,Value.oneCell']) (by unfold maxLen;omega) (by omega) hsz8 ?_);intro v' w9 hown hgr _ hat;have HO9:=aF (HO8.out.app hown hgr hat);clear hown hgr hat g0 g1 g2 g3 g4 gl;go_wp2;go_roundw;case rel=>exact ⟨j+1,true,U3++[f],by omega,rfl,by go_num,HR2,Yw,HO9,XK⟩
      simp [intOf] <;> omega
     have HR3:Hid (U3=bG H (rZ sts xo xu (n:Int) q++kF sts xu (n:Int) o (p+1)) out):=by show _=_;rw [Zg.out,HR.out,show j=xu.length by omega,Us,List.append_assoc]
     go_wp2;go_roundw;case rel=>exact ⟨p+1,bb,U3,by omega,rfl,by go_num,HR3,Wm,UN,HG2⟩
     simp [intOf] <;> omega
    have hb1:(s.n==(n:Int))=false:=by simpa using hn2
    have hb2:decide (s.n=(n:Int))=false:=decide_eq_false hn2;have Zg:Hid (kF sts xu (n:Int) o (p+1)=kF sts xu (n:Int) o p):=Z5.out (by rw [hb2,Bool.and_false]);have U9:∀ nq,Hid (OutI w W (wr.drewN nq) u5 Wz):=fun nq=>UN.out.below (below_drewN (Uf _ _) nq);go_wp2_with fail;go_quiet (fail);go_wp2;go_roundw;case rel=>exact ⟨p+1,bb,Wz,by omega,rfl,by go_num,by rw [Zg.out];exact HR,Wm,U9 _,HG2⟩
    simp [intOf] <;> omega
   have HR3:Hid (Wz=bG H (rZ sts xo xu (n:Int) (q+1)) out):=by show _=_;rw [HSU4.out,HR.out,show p=sts.length by omega]
   go_wp2;go_roundw;case rel=>exact ⟨q+1,bb,Wz,by omega,rfl,by go_num,HR3,Wm,UN,HG2⟩
   simp [intOf] <;> omega
  have hout2:=HG2.out.len hol YA Yo;have HRQ:Hid (UR=bG H (Q n) out):=by show _=_;rw [HR.out,<-HQI.out n,show q=xo.length by omega]
  obtain ⟨ad2,cap2,rfl,-⟩:=ni UN.out.row;have HLM2:Hid (ku H (Q n) UR=A (n+1)):=by show _=_;rw [HRQ.out,Cu];exact HLM.out
  have hbl:=GV H (Q n) out;have HDN2:Hid (bb=false->bG H (Q n) UR=UR):=fun hb=>by
   have e:UR=out:=by
    rw [HRQ.out];refine JP ?_;rw [<-HRQ.out,<-Wm.out];exact hb
   rw [e];rw [HRQ.out]at e;exact e
  have hm:2*(200000-UR.length)+TV (.bool bb)<2*(200000-out.length)+1:=by
   have h1:=Wm.out;rw [<-HRQ.out]at hbl;cases bb;case true=>have:=of_decide_eq_true h1.symm;simp only [TV];omega
   have:=of_decide_eq_false h1.symm;simp only [TV];omega
  have HM:=aF hm;clear hm hbl;go_wp2;go_roundw;case rel=>exact ⟨bb,UR,rfl,HLM2,HDN2,UN,HG2⟩
  exact HM.out
 have hne:n=sts.length+1:=by omega
 have UN:Hid (wr.ownsRow w.heap.size 29 5 u5 (qY st rs ts).length (aI (qY st rs ts))):=by
  show World.ownsRow _ _ _ _ _ _ _;rw [<-Vm.out,<-hne];exact HO.out.row
 have HBE:=aF HO.out.bel;clear HO;go_wp2;go_ret;exact ⟨⟨_,rfl,UN.out⟩,HBE.out⟩
end
end Go.Proofs.YtajkkeikihhejaaGreat
