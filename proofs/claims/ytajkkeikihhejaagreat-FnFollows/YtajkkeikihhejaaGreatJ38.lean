/- The program's prover: right data, the facts that were found, the set of them; a set of facts; is a fact right; the rule of a fact. -/
import Derived.Test.YtajkkeikihhejaaGreatSq
import Derived.Test.YtajkkeikihhejaaGreatJ34
import Derived.Test.YtajkkeikihhejaaGreatJ37
import Derived.Test.YtajkkeikihhejaaGreatJ35
open Go.Proofs.Tryz
set_option maxHeartbeats 80000000
namespace Go.Proofs.YtajkkeikihhejaaGreat
set_option maxRecDepth 100000
set_option linter.unusedVariables false
set_option linter.unusedSectionVars false
open ChangeShapes WideShapes ChangeAt RowKit Maps
open Pl
section
variable  [DecidableEq Fc]
end
def okB(f:Fc):Bool:=cO f.a f.b f.r f.c f.d ⟨#[]⟩
theorem Iu(f:Fc)(w:af):
  Calls prog 107 #[.agg #[.string f.a,.string f.b,.string f.r,.string f.c,.string f.d]] w fun e w'=>e=.returned (.agg #[.string f.a,.string f.b,.string f.r,.string f.c,.string f.d,.string ⟨#[]⟩])/\ae w w':=by
 go_enter func107,ntmps107;go_wp2;exact bodyPost_ret (v:=.agg #[.string f.a,.string f.b,.string f.r,.string f.c,.string f.d,.string ⟨#[]⟩]) (by simp[results,Tryz.results107,go_sem, *]) rfl ⟨rfl,by
  repeat(first|exact UV _ _|refine Below.setCell ?_ (by first|(simp;done)|(simp;omega)) _|refine Below.alloc ?_ (by first|(simp;done)|(simp;omega)) _)⟩
theorem KD(f:Fc)(w:af)(hf:f.fits):
  Calls prog 63 #[.agg #[.string f.a,.string f.b,.string f.r,.string f.c,.string f.d]] w fun e w'=>e=.returned (.bool (okB f))/\ae w w':=by
 obtain⟨W0,hW0⟩:∃W0,W0=w.alloc (.cells #[.string f.a,.string f.b,.string f.r,.string f.c,.string f.d] 29):=⟨_,rfl⟩;have HB0:=mI hW0;have HC:=aj (Iu f W0);have HF:=aj hf;clear hf;go_enter func63,ntmps63;go_wp2_with fail;rw[<-hW0];clear hW0;refine HC.out.mono ?_;rintro e w1 ⟨rfl,hb1⟩;have HB1:=aj (HB0.out.trans (hb1.mono HB0.out.size));clear hb1;go_wp2_with fail;refine(fG f.a f.b f.r f.c f.d ⟨#[]⟩ _ HF.out.1 HF.out.2.1 HF.out.2.2.1 HF.out.2.2.2.1 HF.out.2.2.2.2 (by decide)).mono ?_;rintro e w2 ⟨rfl,hb2⟩;have HB2:=aj (HB1.out.trans (hb2.mono HB1.out.size));clear hb2;go_wp2;go_ret;exact⟨rfl,HB2.out⟩
def Cb(rs:Q06)(ts:Q05)(out:Q04)(f:Fc):Ru:=gN ts (aB (ag rs) f.a f.r) out f (aB (ag rs) f.a f.r).length ((aB (ag rs) f.a f.r).length-1)
section
variable  {rs:Q06}{P D br bp bt bK nK:Nat}{n1:Int}{nr:Nat}{Mr:KL->Option Value}{Er:List (KL×RR)}{ts:Q05}{xo xu:Q0a}{np:Nat}{Mp:K3->Option Value}{vo vu:Value}{out:Q04}{f:Fc}{WX:Q02}{Wi:Nat}
theorem KE{w:af}{ad:Q02}(hP:PrM w P D WX Wi out bK nK)(hD:DatA w rs D br bp bt n1 nr Mr Er (bn ts) xo xu np Mp vo vu)(hf:f.fits)(hts:∀t∈ts,t.fits)(htl:ts.length<=40)(hsh:bu (ag rs)=true)(hs:kU w ad rs):
  Calls prog 64 #[.pointer (some ⟨P,0,none⟩),.agg #[.string f.a,.string f.b,.string f.r,.string f.c,.string f.d]] w fun e w'=>(∃v n,e=.returned v/\aN w' (jB w.heap.size) n v (Cb rs ts out f)/\n<=8)/\ae w w':=by
 obtain⟨kl,hkl⟩:=jE (f.a,f.r) hf.1 hf.2.2.1;obtain⟨W0,hW0⟩:∃W0,W0=w.alloc (.cells #[.string f.a,.string f.b,.string f.r,.string f.c,.string f.d] 29):=⟨_,rfl⟩;have HB0:=mI hW0;have c0:W0.cell? ⟨w.heap.size,0,none⟩=some (.string f.a):=by rw[hW0];simp
 have c1:W0.cell? ⟨w.heap.size,1,none⟩=some (.string f.b):=by rw[hW0];simp
 have c2:W0.cell? ⟨w.heap.size,2,none⟩=some (.string f.r):=by rw[hW0];simp
 have c3:W0.cell? ⟨w.heap.size,3,none⟩=some (.string f.c):=by rw[hW0];simp
 have c4:W0.cell? ⟨w.heap.size,4,none⟩=some (.string f.d):=by rw[hW0];simp
 have d0:=HB0.out.cell (p:=⟨D,0,none⟩) hD.dat.lt |>.trans hD.dat.c0;have p0:=aJ HB0.out hP.lt hP.c0;have hlk0:∀m,(Instr.lookup 91 (.map (some bt)) (.agg #[.string f.a,.string f.r]) true).run prog (W0.drewN m)=.ok (.tuple #[(oZ rs (f.a,f.r)).getD (.slice none 0 0),.bool (oZ rs (f.a,f.r)).isSome]) (W0.drewN m):=fun m =>
  ((hD.tab.below HB0.out).below (below_drewN (UV _ _) m)).look_ok (t:=91) (e:=33) iU underlying91 (nX _) (x:=(f.a,f.r)) hkl
 cases htab:oZ rs (f.a,f.r) with
 | none =>
  have hrel:eG (ag rs) f.a f.r=none:=(o6 hsh).no _ htab;have HG:Hid (Cb rs ts out f=fun _=>false):=by show _=_;unfold Cb aB;rw[hrel];rfl
  have hlk:=hlk0;rw[htab]at hlk;simp only[Option.getD_none,Option.isSome_none]at hlk;clear hlk0 hD hP hs hkl htab hrel hf;go_enter func64,ntmps64;go_wp2_with fail;rw[<-hW0];clear hW0;go_quiet (fail);clear d0 p0 hlk c0 c1 c2 c3 c4;go_wp2;go_ret;exact⟨⟨_,1,rfl,pG false HG.out,by omega⟩,below_drewN HB0.out _⟩
 | some v0 =>
  obtain⟨t,htm,q,hq,-,hv0,hrelp,-⟩:=(o6 hsh).yes _ v0 htab;have hsp:aL (ak q.rows)=true:=((bF hsh).2.2 t htm q hq).1;have hrx:ak q.rows=aB (ag rs) f.a f.r:=by unfold aB;rw[show eG (ag rs) f.a f.r=some (ak q.rows) from hrelp];rfl
  obtain⟨hN,hr1⟩:=zn hsp;have hnb:=iE hsp;have htr:=Mq hsp;have hr15:q.rows.length<=15:=by
   have h:=hsp;unfold aL at h;simp only[UW,U3]at h;have:=h.1.1.1.1.2;rw[aQ]at this;exact this
  have XP:nQ rs q.ad q.rows:=.inr ⟨t,htm,q,hq,rfl,rfl⟩;obtain⟨V5,Yn⟩:∃a,a=q.ad:=⟨_,rfl⟩;obtain⟨capE,ZA⟩:∃a,a=q.cap:=⟨_,rfl⟩;obtain⟨rows,hrows⟩:∃a,a=q.rows:=⟨_,rfl⟩;have hsl:v0=.slice V5 rows.length capE:=by rw[hv0,Yn,ZA,hrows];rfl
  rw[<-hrows]at hN hnb hr1 hrx hr15 htr;rw[<-hrows,<-Yn]at XP;have hlk:=hlk0;rw[htab,hsl]at hlk;simp only[Vw,Option.isSome_some]at hlk;have ZX:=hN.len;have hwr:IntKind.i64.wrap ((rows.length:Int)-1)=((rows.length-1:Nat):Int):=by rw[IntKind.wrap_i64];omega
  have HC:Hid (∀nq,Calls prog 109 #[.pointer (some ⟨P,0,none⟩),.slice V5 rows.length capE,.int .i64 ((rows.length-1:Nat):Int),.agg #[.string f.a,.string f.b,.string f.r,.string f.c,.string f.d]] (W0.drewN nq) fun e w'=>(∃v,e=.returned v/\aN w' (jB w.heap.size) 8 v (Cb rs ts out f))/\Below (W0.drewN nq).heap.size (W0.drewN nq) w'):=fun nq=>by
   have hb:ae w (W0.drewN nq):=below_drewN HB0.out nq;have h:=wT (capE:=capE) hN hnb hf hts htl htr rows.length 8 (rows.length-1) (W0.drewN nq) (by omega) (by omega) (by have:=htr (rows.length-1) (by rw[aQ];omega);omega) (hP.below hb) (hD.below hb) (XP.sl (hs.below hb));unfold Cb;rw[<-hrx,aQ];exact h.mono fun e w' ⟨⟨v,he,hr⟩,hb2⟩=>⟨⟨v,he,hr.old hb.size (UU _)⟩,hb2⟩
  clear hlk0 hD hP hs hsp hkl htab hsl hN hnb htr hf Yn ZA hrows XP hrx hv0 hrelp;go_enter func64,ntmps64;go_wp2_with fail;rw[<-hW0];clear hW0;go_quiet (fail);clear d0 p0 hlk;go_wp2_with fail;refine(HC.out _).mono ?_;rintro e w1 ⟨⟨v,rfl,hr⟩,hb1⟩;have HB1:=aj ((below_drewN HB0.out _).trans (hb1.mono HB0.out.size));have HR:=aj hr;clear hb1 hr c0 c1 c2 c3 c4;go_wp2;go_ret;exact⟨⟨v,_,rfl,HR.out,UU _⟩,HB1.out⟩
end
open Go.Sort
theorem Ub(f:Fc):okB f=((fw f.a f.b&&aT f.r)&&fw f.c f.d):=by
 unfold okB cO;have:tO ⟨#[]⟩=true:=by unfold tO;rw[Go.ByteArray.toList_eq];rfl
 rw[this,Bool.and_true]
theorem KF(f:Fc)(w:af)(hf:f.fits):
  Calls prog 68 #[.agg #[.string f.a,.string f.b,.string f.r,.string f.c,.string f.d]] w fun e w'=>e=.returned (.bool (okB f))/\ae w w':=by
 rw[Ub];obtain⟨W0,hW0⟩:∃W0,W0=w.alloc (.cells #[.string f.a,.string f.b,.string f.r,.string f.c,.string f.d] 29):=⟨_,rfl⟩;have HB0:=mI hW0;have HK0:=aj (show W0.cell? ⟨w.heap.size,0,none⟩=some (.string f.a)/\W0.cell? ⟨w.heap.size,1,none⟩=some (.string f.b)/\W0.cell? ⟨w.heap.size,2,none⟩=some (.string f.r)/\W0.cell? ⟨w.heap.size,3,none⟩=some (.string f.c)/\W0.cell? ⟨w.heap.size,4,none⟩=some (.string f.d)/\ae w W0 from by refine⟨?_,?_,?_,?_,?_,HB0.out⟩<;>rw[hW0]<;>simp);have HF:=aj hf;clear hf;go_enter func68,ntmps68;go_wp2_with fail;rw[<-hW0];clear hW0 HB0;refine(dZ f.a f.b _ HF.out.1 HF.out.2.1).mono ?_;rintro e w1 ⟨rfl,hb1⟩;have HK1:=aj (uC HK0.out hb1);clear hb1 HK0;cases h1:fw f.a f.b;case false=>
  go_wp2;go_ret;exact⟨by simp[h1],HK1.out.2.2.2.2.2⟩
 obtain⟨c0,c1,c2,c3,c4,-⟩:=HK1.out;go_wp2_with fail;refine(aS f.r _ HF.out.2.2.1).mono ?_;rintro e w2 ⟨rfl,rfl⟩;cases h2:aT f.r;case false=>
  clear c0 c1 c2 c3 c4;go_wp2;go_ret;exact⟨by simp[h1,h2],HK1.out.2.2.2.2.2⟩
 go_wp2_with fail;refine(dZ f.c f.d _ HF.out.2.2.2.1 HF.out.2.2.2.2).mono ?_;rintro e w3 ⟨rfl,hb3⟩;have HK3:=aj (uC HK1.out hb3);clear hb3 c0 c1 c2 c3 c4;go_wp2;go_ret;exact⟨by simp[h1,h2],HK3.out.2.2.2.2.2⟩
def uD(rs:Q06)(ts:Q05)(truth known:Q04)(f:Fc):Bool:=di ts (aB (ag rs) f.a f.r) truth f (aB (ag rs) f.a f.r).length known ((aB (ag rs) f.a f.r).length-1)
theorem NL(rs:Q06)(ts:Q05)(truth known:Q04)(f:Fc):Cb rs ts truth f (bB known)=uD rs ts truth known f:=Qq _ _ _ _ _ _ _
theorem Cy(ad:Q02)(cap:Nat)(rs:Q06)(We:Q02)(cap':Nat)(ts:Q05)(adK:Q02)(capK:Nat)(known:Q04)(Xl:Q02)(WO:Nat)(truth:Q04)(f:Fc)(w:af)(hlen:rs.length<=1048576)(hs:kU w ad rs)(hl:∀r∈rs,r.light)(hsh:bu (ag rs)=true)(hlt:ts.length<=1048576)(hst:Sl w We ts)(hkl:known.length<=1048576)(hk:o8 w adK known)(htl:truth.length<=1048576)(htr:o8 w Xl truth):
  Calls prog 69 #[.slice ad rs.length cap,.slice We ts.length cap',.slice adK known.length capK,.slice Xl truth.length WO,.agg #[.string f.a,.string f.b,.string f.r,.string f.c,.string f.d]] w fun e w'=>e=.returned (.bool (uD rs ts truth known f))/\ae w w':=by
 obtain⟨W0,hW0⟩:∃W0,W0=w.alloc (.cells #[.string f.a,.string f.b,.string f.r,.string f.c,.string f.d] 29):=⟨_,rfl⟩;have HB0:=mI hW0;have c0:W0.cell? ⟨w.heap.size,0,none⟩=some (.string f.a):=by rw[hW0];simp
 have c1:W0.cell? ⟨w.heap.size,1,none⟩=some (.string f.b):=by rw[hW0];simp
 have c2:W0.cell? ⟨w.heap.size,2,none⟩=some (.string f.r):=by rw[hW0];simp
 have c3:W0.cell? ⟨w.heap.size,3,none⟩=some (.string f.c):=by rw[hW0];simp
 have c4:W0.cell? ⟨w.heap.size,4,none⟩=some (.string f.d):=by rw[hW0];simp
 have HR:=aj (iK ad cap rs f.a f.r W0 hlen (hs.below HB0.out) hl);have HS:=aj (hs.below HB0.out);have HHW:Hid (∀V5 rows,gZ W0 V5 rows->HW W0 We ts V5 rows adK known Xl truth):=fun V5 rows h=>⟨hst.below HB0.out,h,hk.below HB0.out,htr.below HB0.out⟩;clear hs hst hk htr;go_enter func69,ntmps69;go_wp2_with fail;rw[<-hW0];clear hW0;refine HR.out.mono ?_;rintro e w1 ⟨⟨rows,V5,capE,rfl,hrx,hsE,-⟩,rfl⟩;have Yx:Hid (ak rows=aB (ag rs) f.a f.r):=hrx;have Yv:=aj hsE;clear hrx hsE HR;by_cases hz:rows.length=0
 ·have HN:Hid (uD rs ts truth known f=false):=by
   show _=_;unfold uD;rw[<-Yx.out,aQ,hz];rfl
  obtain rfl:rows=[]:=Vb.1 hz;clear hz Yx;go_wp2;go_ret;exact⟨by rw[HN.out];rfl,HB0.out⟩
 obtain⟨Xu,hr1⟩:Hid (XZ rows)/\1<=rows.length:=by
  have h0:(eG (ag rs) f.a f.r)≠none:=fun h=>by
   have h1:=Yx.out;unfold aB at h1;rw[h]at h1;have:=congrArg List.length h1;rw[aQ]at this;exact hz this
  cases hp:eG (ag rs) f.a f.r with
  | none=>exact absurd hp h0
  | some es =>
   have hk:(f.a,f.r)∈au (ag rs):=by
    cases ht:oZ rs (f.a,f.r) with
    | none=>have:=(o6 hsh).no _ ht;rw[show eG (ag rs) f.a f.r=none from this]at hp;cases hp
    | some v =>
     obtain⟨t,htm,q,hq,e1,-,-,-⟩:=(o6 hsh).yes _ v ht;rw[e1];unfold au jL;exact U8.2 ⟨t.p,U7.2 ⟨t,htm,rfl⟩,U7.2 ⟨q.p,U7.2 ⟨q,hq,rfl⟩,rfl⟩⟩
   obtain⟨t,htm,q,hq,-,h2,h3⟩:=Le hsh hk;have e3:ak rows=ak q.rows:=by rw[Yx.out,h2]
   rw[<-e3]at h3;exact zn h3
 have ZX:=Xu.out.len;have hz2:decide ((0:Int)<(rows.length:Int))=true:=by simp;omega
 have hz3:(0:Int)<(rows.length:Int):=by omega
 have hwr:IntKind.i64.wrap ((rows.length:Int)-1)=((rows.length-1:Nat):Int):=by rw[IntKind.wrap_i64];omega
 have HC:Hid (Calls prog 98 #[.slice ad rs.length cap,.slice We ts.length cap',.slice V5 rows.length capE,.int .i64 ((rows.length-1:Nat):Int),.slice adK known.length capK,.slice Xl truth.length WO,.agg #[.string f.a,.string f.b,.string f.r,.string f.c,.string f.d]] w1 fun e w'=>e=.returned (.bool (uD rs ts truth known f))/\ae w1 w'):=by
  have h:=qZ (.slice ad rs.length cap) We cap' ts V5 capE rows Xl WO truth f hlt Xu.out htl rows.length (rows.length-1) adK capK known w1 (by omega) (by omega) hkl (HHW.out _ _ Yv.out);have e:uD rs ts truth known f=di ts (ak rows) truth f rows.length known (rows.length-1):=by unfold uD;rw[<-Yx.out,aQ]
  rw[e];exact h
 clear hz Yx Yv HHW;go_wp2_with fail;refine HC.out.mono ?_;rintro e w2 ⟨rfl,hb2⟩;have HB2:=aj (HB0.out.trans (hb2.mono HB0.out.size));clear hb2 c0 c1 c2 c3 c4;go_wp2;go_ret;exact⟨by simp,HB2.out⟩
section
variable  [DecidableEq Fc]
def mQ(st:Q00)(rs:Q06)(ts:Q05)(known:Q04)(f:Fc):Bool:=((aV (gM rs) rs ts&&okB f)&&decide (known.length<=200))&&uD rs ts (aO st rs ts) known f
theorem pX(st:Q00)(ad:Q02)(cap:Nat)(rs:Q06)(We:Q02)(cap':Nat)(ts:Q05)(adK:Q02)(capK:Nat)(known:Q04)(f:Fc)(w:af)(hlen:rs.length<=1048576)(hs:kU w ad rs)(hl:∀r∈rs,r.light)(hfr:∀r∈rs,r.fits)(hlt:ts.length<=1048576)(hst:Sl w We ts)(hft:∀x∈ts,x.fits)(hkl:known.length<=1048576)(hk:o8 w adK known)(hf:f.fits)(hle:aM (ag rs)=true->Least (ag rs) st):
  Calls prog 28 #[.slice ad rs.length cap,.slice We ts.length cap',.slice adK known.length capK,.agg #[.string f.a,.string f.b,.string f.r,.string f.c,.string f.d]] w fun e w'=>e=.returned (.bool (mQ st rs ts known f))/\ae w w':=by
 obtain⟨W0,hW0⟩:∃W0,W0=w.alloc (.cells #[.string f.a,.string f.b,.string f.r,.string f.c,.string f.d] 29):=⟨_,rfl⟩;have HB0:=mI hW0;have Wx:Hid (W0.cell? ⟨w.heap.size,0,none⟩=some (.string f.a)/\W0.cell? ⟨w.heap.size,1,none⟩=some (.string f.b)/\W0.cell? ⟨w.heap.size,2,none⟩=some (.string f.r)/\W0.cell? ⟨w.heap.size,3,none⟩=some (.string f.c)/\W0.cell? ⟨w.heap.size,4,none⟩=some (.string f.d)/\w.heap.size<W0.heap.size):=by
  show _/\_;rw[hW0];refine⟨?_,?_,?_,?_,?_,?_⟩<;>simp
 have hLl:=pJ st (rs:=rs) (ts:=ts);have HRC:Hid (∀W':World,ae W0 W'->Calls prog 55 #[.slice ad rs.length cap,.slice We ts.length cap'] W' fun e w'=>e=.returned (.bool (aV (gM rs) rs ts))/\ae W' w'):=fun W' h=>by
  have hb:=HB0.out.trans (h.mono HB0.out.size);exact yH ad cap rs We cap' ts W' hlen (hs.below hb) hl hfr hlt (hst.below hb) hft
 have HFC:Hid (∀W':World,Calls prog 68 #[.agg #[.string f.a,.string f.b,.string f.r,.string f.c,.string f.d]] W' fun e w'=>e=.returned (.bool (okB f))/\ae W' w'):=fun W'=>KF f W' hf
 have HAC:Hid (aV (gM rs) rs ts=true->(∀ W':World,ae W0 W'->Calls prog 57 #[.slice ad rs.length cap,.slice We ts.length cap'] W' fun e w'=>(∃ v,e=.returned v/\w'.ownsRow W'.heap.size 29 5 v (aO st rs ts).length (aA (aO st rs ts)))/\ae W' w') /\
   (∀(W':World) (Xl:Q02) (WO:Nat),ae W0 W'->o8 W' Xl (aO st rs ts)->Calls prog 69 #[.slice ad rs.length cap,.slice We ts.length cap',.slice adK known.length capK,.slice Xl (aO st rs ts).length WO,.agg #[.string f.a,.string f.b,.string f.r,.string f.c,.string f.d]] W' fun e w'=>e=.returned (.bool (uD rs ts (aO st rs ts) known f))/\ae W' w')):=fun hr=>by
  have hsd:aM (ag rs)=true/\ts.length<=40:=by
   unfold aV dO at hr;simp only[UW,U3]at hr;exact⟨hr.1.1,hr.1.2.1⟩
  refine⟨fun W' h=>?_,fun W' Xl WO h hsR=>?_⟩
  ·have hb:=HB0.out.trans (h.mono HB0.out.size);have:=Eg st ad cap rs We cap' ts W' (bq.1 hsd.1) (hle hsd.1) (hs.below hb) hl hsd.2 (hst.below hb);rw[<-iH hr]at this;exact this
  have hb:=HB0.out.trans (h.mono HB0.out.size);exact Cy ad cap rs We cap' ts adK capK known Xl WO (aO st rs ts) f W' hlen (hs.below hb) hl (bq.1 hsd.1).1 hlt (hst.below hb) hkl (hk.below hb) (by omega) hsR
 clear hs hl hfr hst hft hle hk hf;go_enter func28,ntmps28;go_wp2_with fail;rw[<-hW0];clear hW0;by_cases hgo:aV (gM rs) rs ts=true/\okB f=true/\known.length<=200
 ·obtain⟨hr,hq,h2⟩:=hgo;have HA:=aj (HAC.out hr).1;have HL5:=aj (HAC.out hr).2;rw[hr]at HRC;rw[hq]at HFC;obtain⟨L,XH⟩:∃L,L=aO st rs ts:=⟨_,rfl⟩;have HE:Hid (mQ st rs ts known f=uD rs ts L known f):=by show _=_;unfold mQ;rw[hr,hq,decide_eq_true h2,XH];rfl
  rw[<-XH]at HA HL5 hLl;have hd2:(known.length:Int)<=200:=by omega
  obtain⟨c0,c1,c2,c3,c4,cl⟩:=Wx.out;clear HAC hr XH hq h2
  go_region_held3 (fun w'=>w'.cell? ⟨w.heap.size,0,none⟩=some (.string f.a)/\w'.cell? ⟨w.heap.size,1,none⟩=some (.string f.b)/\w'.cell? ⟨w.heap.size,2,none⟩=some (.string f.r)/\w'.cell? ⟨w.heap.size,3,none⟩=some (.string f.c)/\w'.cell? ⟨w.heap.size,4,none⟩=some (.string f.d)/\ae W0 w')
   (first|assumption|exact uC (by assumption) hbx|exact⟨c0,c1,c2,c3,c4,(UV _ _).drew⟩)
   (first|(go_at_call 55;refine(HRC.out _ (And.right (And.right (And.right (And.right (And.right (by assumption))))))).mono ?_;rintro e w1 ⟨rfl,hbx⟩)|(go_at_call 68;refine(HFC.out _).mono ?_;rintro e w2 ⟨rfl,hbx⟩)|(go_at_call 57;refine(HA.out _ (And.right (And.right (And.right (And.right (And.right (by assumption))))))).mono ?_;rintro e w3 ⟨⟨v,rfl,hown⟩,hbx⟩;obtain⟨adL,Yb,rfl,hsl⟩:=iP hown)|(go_at_call 69;refine(HL5.out _ _ _ (And.right (And.right (And.right (And.right (And.right (by assumption)))))) (by first|exact hsl|exact hsl.below (UV _ _))).mono ?_;rintro e w4 ⟨rfl,hbx⟩))
  rename_i hJ;have HG:=aj (HB0.out.trans (hJ.2.2.2.2.2.mono HB0.out.size));clear hJ hown hsl c0 c1 c2 c3 c4 HB0;go_wp2;go_ret;exact⟨by rw[HE.out];rfl,HG.out⟩
 have HN:Hid (mQ st rs ts known f=false):=by
  refine Bool.eq_false_iff.2 fun h=>hgo ?_;unfold mQ at h;simp only[UW,U3]at h;exact⟨h.1.1.1,h.1.1.2,h.1.2⟩
 obtain⟨R,hR⟩:∃R,aV (gM rs) rs ts=R:=⟨_,rfl⟩;obtain⟨F,hF⟩:∃F,okB f=F:=⟨_,rfl⟩;rw[hR]at HRC hgo;rw[hF]at HFC hgo;have HCR:Hid (∀d os,Calls prog 55 #[.slice ad rs.length cap,.slice We ts.length cap'] (grow (redrawn W0 d) os) fun e w2=>e=.returned (.bool R)/\∃p:Regrown,w2=grow (redrawn W0 p.d) p.os):=bY fun W' hb=>HRC.out W' hb;have HCF:Hid (∀d os,Calls prog 68 #[.agg #[.string f.a,.string f.b,.string f.r,.string f.c,.string f.d]] (grow (redrawn W0 d) os) fun e w2=>e=.returned (.bool F)/\∃p:Regrown,w2=grow (redrawn W0 p.d) p.os):=bY fun W' hb=>HFC.out W';obtain⟨c0,c1,c2,c3,c4,-⟩:=Wx.out;replace c0:=cell_regrown c0;replace c1:=cell_regrown c1;replace c2:=cell_regrown c2;replace c3:=cell_regrown c3;replace c4:=cell_regrown c4;have hcs:R=false\/(R=true/\F=false)\/(R=true/\F=true/\200<known.length):=by
  cases R<;>cases F<;>simp at hgo⊢;exact hgo
 clear hgo HAC hR hF HRC HFC;rcases hcs with rfl|⟨rfl,rfl⟩|⟨rfl,rfl,h3⟩
 case' inr.inr =>
  have hd2:decide ((known.length:Int)<=200)=false:=by simp;omega
  have hd3:¬((known.length:Int)<=200):=by omega
 all_goals
  refine wp_region_quiet_below (by kernel_rfl) (by kernel_rfl) ?_
  repeat(go_big_quiet_step (first|exact HCR.out _ _|exact HCF.out _ _))
  refine wpQuiet_nil ?_;rintro _ ⟨⟨dq,osq⟩,rfl⟩;go_wp2;go_ret;exact⟨by rw[HN.out];rfl,HB0.out.trans ((below_regrown W0 dq osq).mono HB0.out.size)⟩
end
section
variable  [DecidableEq Fc]
def UI(st:Q00)(rs:Q06)(ts:Q05)(w:World)(e:Ending)(w':World):Prop :=
 ae w w'/\((aV (gM rs) rs ts=false/\e=.returned (.tuple #[.pointer none,.bool false])) \/
  (aV (gM rs) rs ts=true/\∃ (P D br bp bt nr np:Nat) (n1:Int) (Mr:KL->Option Value) (Er:List (KL×RR)) (Mp:K3->Option Value) (vo vu:Value) (WX:Q02) (Wi bK nK:Nat),e=.returned (.tuple #[.pointer (some ⟨P,0,none⟩),.bool true])/\PrM w' P D WX Wi (aO st rs ts) bK nK /\
   DatA w' rs D br bp bt n1 nr Mr Er (bn ts) (dM ts) (bP ts) np Mp vo vu))
def KG(st:Q00)(rs:Q06)(ts:Q05)(w:World)(e:Ending)(w':World):Prop :=
 ae w w'/\((aV (gM rs) rs ts=false/\e=.returned (.tuple #[.pointer none,.bool false])) \/
  (aV (gM rs) rs ts=true/\∃ (P D br bp bt nr np:Nat) (n1:Int) (Mr:KL->Option Value) (Er:List (KL×RR)) (Mp:K3->Option Value) (vo vu:Value) (WX:Q02) (Wi bK nK:Nat),e=.returned (.tuple #[.pointer (some ⟨P,0,none⟩),.bool true])/\PrM w' P D WX Wi (aO st rs ts) bK nK /\
   DatA w' rs D br bp bt n1 nr Mr Er (bn ts) (dM ts) (bP ts) np Mp vo vu/\(aO st rs ts).length<=Wi))
theorem FN(st:Q00)(ad:Q02)(cap:Nat)(rs:Q06)(We:Q02)(cap':Nat)(ts:Q05)(w:af)(hlen:rs.length<=1048576)(hs:kU w ad rs)(hl:∀r∈rs,r.light)(hfr:∀r∈rs,r.fits)(hcp:∀r∈rs,r.caps)(hlt:ts.length<=1048576)(hst:Sl w We ts)(hft:∀x∈ts,x.fits)(hle:aM (ag rs)=true->Least (ag rs) st):
  Calls prog 62 #[.slice ad rs.length cap,.slice We ts.length cap'] w (KG st rs ts w):=by
 have HC:=aj (BJ (gM rs) ad cap rs We cap' ts w hlen hs hl hfr (wK ad cap rs w hlen hs hl hfr hcp) (fun h t ht=>xN h ht) hlt hst hft);have HS:=aj hs;have Wl:=aj hft;have XP:=aj hfr;have WR:=aj hle;clear hs hl hfr hcp hst hft hle;go_enter func62,ntmps62;go_wp2_with fail;refine HC.out.mono ?_;rintro e w1 ⟨hb1,⟨hr,rfl⟩|⟨hr,D,br,bp,bt,nr,np,Mr,Mp,vo,vu,f,rfl,hbt,hLf,XC⟩⟩
 ·have HP:Hid (KG st rs ts w (.returned (.tuple #[.pointer none,.bool false])) w1):=⟨hb1,.inl ⟨hr,rfl⟩⟩;clear hb1 HC hr;go_wp2;exact bodyPost_ret (v:=.tuple #[.pointer none,.bool false]) (by simp[results,Tryz.results62,go_sem]) rfl HP.out
 have hsd:aM (ag rs)=true/\ts.length<=40:=by
  unfold aV dO at hr;simp only[UW,U3]at hr;exact⟨hr.1.1,hr.1.2.1⟩
 obtain⟨hsd,ht40⟩:=hsd;have hSP:=bq.1 hsd;obtain⟨h6,X9,-⟩:=bF hSP.1;have Yt:=wH h6 X9;have hfk:∀k∈au (ag rs),f k+1<=(au (ag rs)).length:=fun k hk=>by
  obtain⟨g,hg,hb⟩:=hLf.sol.few (jM hSP.2.1);have h1:=hLf.low k hk g hg;have h2:=hb k hk;omega
 have hc0:0<=gJ (dH f rs):=(wS (dH f rs) 0).1;have hcl:gJ (dH f rs)<=(au (ag rs)).length:=FH _ _ _ (by omega) fun x hx=>by
  obtain⟨k,hk,e,-⟩:=QI hx;rw[e];exact hfk k hk
 obtain⟨N,hN⟩:∃N:Nat,gJ (dH f rs)=N:=⟨(gJ (dH f rs)).toNat,by omega⟩;have hkN:∀k∈au (ag rs),f k<(N:Int):=fun k hk=>by
  obtain⟨x,hx,e⟩:=Lt (f:=f) hk;have h2:=(wS (dH f rs) 0).2 x hx;have h3:x.1.2+1<=gJ (dH f rs):=h2;rw[e,hN]at h3;omega
 have hLs:lJ (ag rs) ts f (dM ts) (bP ts) N=aO st rs ts:=by
  rw[iH hr];unfold pI;rw[<-si (fun k hk=>hLf.same (WR.out hsd) k hk)];exact(Dx hkN _ (by omega)).symm
 rw [hN]at XC;have Xk:=aj (Ei w1 rs ad D br bp bt N nr Mr f ts (dM ts) (bP ts) np Mp vo vu XC (HS.out.below hb1) (by omega) (by have:=kr ts;omega) (by have:=jh ts;omega) Yt (fun k=>by
  have:(G.lookL (dH f rs) k).length<=(dH f rs).length:=VS _ _;rw[Lu]at this;omega) hSP.1 Wl.out (by omega) (ji Wl.out) (iG Wl.out) (oD XP.out))
 rw[hLs]at Xk;have hGO:=kN f rs ts (dM ts) (bP ts) N;rw[hLs]at hGO;have HB1:=aj hb1;have hll:=hGO.len (by have:=kr ts;omega) Yt (by have:=jh ts;omega);have Yy:Hid (∀x∈aO st rs ts,x.fits):=fun x hx=>by
  have h1:=hGO.sub x hx;unfold BM at h1;obtain⟨o,ho,h1⟩:=U8.1 h1;obtain⟨k,hk,h1⟩:=U8.1 h1;obtain⟨u,hu,rfl⟩:=U7.1 h1;exact⟨(ji Wl.out o ho).1,(ji Wl.out o ho).2,oD XP.out k hk,(iG Wl.out u hu).1,(iG Wl.out u hu).2⟩
 obtain⟨L0,hL0⟩:∃L0,L0=aO st rs ts:=⟨_,rfl⟩;rw[<-hL0]at Xk hll Yy;have HL0:=aj hL0;have YU:=aj XC;have HRI:=aj hr;clear HC hb1 XC hLf hfk hc0 hcl hN hkN hLs hGO hSP hsd h6 X9 Yt hr hbt hL0;go_wp2_with fail;refine Xk.out.mono ?_;rintro e w2 ⟨⟨v,rfl,hown⟩,hb2⟩;have HB2:=aj (HB1.out.trans (hb2.mono HB1.out.size));have HD2:=aj (YU.out.below hb2);obtain⟨WX,Wi,rfl,hsF⟩:=iP hown;have hcp:=Lj hown;have Ze:=aj hsF;clear Xk hown hb2 HB1 YU hsF;go_wp2_with fail;refine(tF WX Wi L0 _ (by omega) Ze.out Yy.out).mono ?_;rintro e w3 ⟨⟨bK,nK,rfl,hV⟩,hb3⟩;obtain⟨W4,WE⟩:∃W4,W4=w3.alloc (.cells #[.pointer (some ⟨D,0,none⟩),.slice WX L0.length Wi,.map (some bK)] 133):=⟨_,rfl⟩;have hb4:ae w3 W4:=by rw[WE];exact(UV _ _).alloc (UU _) _
 have hb34:ae w2 W4:=hb3.trans (hb4.mono hb3.size);have HP:Hid (KG st rs ts w (.returned (.tuple #[.pointer (some ⟨w3.heap.size,0,none⟩),.bool true])) W4):=by
  refine⟨HB2.out.trans (hb34.mono HB2.out.size),.inr ⟨HRI.out,w3.heap.size,D,br,bp,bt,nr,np,_,Mr,_,Mp,vo,vu,WX,Wi,bK,nK,rfl,?_,HD2.out.below hb34,by rw[<-HL0.out];exact hcp⟩⟩;rw[<-HL0.out];exact⟨by rw[WE];simp,by rw[WE];simp,by rw[WE];simp,by rw[WE];simp,Ze.out.below hb34,hV.below hb4⟩
 clear hb3 hb4 hb34 hV;go_wp2;rw[<-WE];exact bodyPost_ret (v:=.tuple #[.pointer (some ⟨w3.heap.size,0,none⟩),.bool true]) (by simp[results,Tryz.results62,go_sem]) rfl HP.out
theorem FO(st:Q00)(ad:Q02)(cap:Nat)(rs:Q06)(We:Q02)(cap':Nat)(ts:Q05)(w:af)(hlen:rs.length<=1048576)(hs:kU w ad rs)(hl:∀r∈rs,r.light)(hfr:∀r∈rs,r.fits)(hcp:∀r∈rs,r.caps)(hlt:ts.length<=1048576)(hst:Sl w We ts)(hft:∀x∈ts,x.fits)(hle:aM (ag rs)=true->Least (ag rs) st):
  Calls prog 62 #[.slice ad rs.length cap,.slice We ts.length cap'] w (UI st rs ts w) :=
 (FN st ad cap rs We cap' ts w hlen hs hl hfr hcp hlt hst hft hle).mono fun e w' ⟨hb,h⟩=>⟨hb,h.imp id fun⟨hr,P,D,br,bp,bt,nr,np,n1,Mr,Er,Mp,vo,vu,WX,Wi,bK,nK,he,h1,h2,_⟩=>⟨hr,P,D,br,bp,bt,nr,np,n1,Mr,Er,Mp,vo,vu,WX,Wi,bK,nK,he,h1,h2⟩⟩
theorem aN.kind{w:af}{S:Nat->Prop}{n:Nat}{v:Value}{G:Ru}(h:aN w S n v G):∃T a,v=.iface T a/\SV T a:=by
 match n,h with
 | 0,h=>exact h.elim
 | n+1,h =>
  rcases h with⟨b,e,-⟩|⟨ad,cap,fs,e,-⟩|⟨ad,cap,Gs,e,-⟩|⟨ad,cap,Gs,e,-⟩
  ·exact⟨_,_,e,.inl ⟨rfl,_,rfl⟩⟩
  ·exact⟨_,_,e,.inr ⟨.inl rfl,_,_,_,rfl⟩⟩
  ·exact⟨_,_,e,.inr ⟨.inr (.inl rfl),_,_,_,rfl⟩⟩
  exact⟨_,_,e,.inr ⟨.inr (.inr rfl),_,_,_,rfl⟩⟩
theorem Sn(xs:Array Value)(u:af):(callFunc 65 xs).run prog u=.ok (.enter 65 xs) u:=by kernel_rfl
theorem Sq{w:af}{b n:Nat}{fs:Q04}(h:aK jO prog 29 w b n (wL fs)):KnF w 65 #[.map (some b)] #[] (bB fs) :=
 ⟨Sn,fun x hx w1 hb=>by simpa using rq b n fs x w1 hx (h.below hb)⟩
theorem QR{w:af}{T:TypeId}{a:Value}{S:Nat->Prop}{n:Nat}{G:Ru}{FC:Nat}{rc cp:Array Value}{K:Fc->Bool}(hr:aN w S n (.iface T a) G)(hK:KnF w FC rc cp K):Calls prog (Kz T) #[a,.func (Fn.func FC) rc cp] w fun e w'=>e=.returned (.bool (G K))/\ae w w':=by
 obtain⟨T',a',e,-,hc⟩:=Iq n w _ G hK hr;injection e with e1 e2;subst e1 e2;exact hc w (UV _ _)
end
section
variable  [DecidableEq Fc]
theorem pY(st:Q00)(ad:Q02)(cap:Nat)(rs:Q06)(We:Q02)(cap':Nat)(ts:Q05)(adK:Q02)(capK:Nat)(known:Q04)(f:Fc)(w:af)(hlen:rs.length<=1048576)(hs:kU w ad rs)(hl:∀r∈rs,r.light)(hfr:∀r∈rs,r.fits)(hcp:∀r∈rs,r.caps)(hlt:ts.length<=1048576)(hst:Sl w We ts)(hft:∀x∈ts,x.fits)(hkl:known.length<=1048576)(hk:o8 w adK known)(hkf:∀x∈known,x.fits)(hf:f.fits)(hle:aM (ag rs)=true->Least (ag rs) st):
    Calls prog 27 #[.slice ad rs.length cap,.slice We ts.length cap',.slice adK known.length capK,.agg #[.string f.a,.string f.b,.string f.r,.string f.c,.string f.d]] w fun e w'=>e=.returned (.bool (mQ st rs ts known f))/\ae w w':=by
  obtain⟨W0,hW0⟩:∃W0,W0=w.alloc (.cells #[.string f.a,.string f.b,.string f.r,.string f.c,.string f.d] 29):=⟨_,rfl⟩;have HB0:=mI hW0;have Wx:Hid (W0.cell? ⟨w.heap.size,0,none⟩=some (.string f.a)/\W0.cell? ⟨w.heap.size,1,none⟩=some (.string f.b)/\W0.cell? ⟨w.heap.size,2,none⟩=some (.string f.r)/\W0.cell? ⟨w.heap.size,3,none⟩=some (.string f.c)/\W0.cell? ⟨w.heap.size,4,none⟩=some (.string f.d)/\ae w W0):=by
    refine⟨?_,?_,?_,?_,?_,HB0.out⟩<;>rw[hW0]<;>simp
  have HPC:=aj (FO st ad cap rs We cap' ts W0 hlen (hs.below HB0.out) hl hfr hcp hlt (hst.below HB0.out) hft hle);have HS:=aj (hs.below HB0.out);have HKN:=aj (hk.below HB0.out);have ZG:=aj hkf;have Wl:=aj hft;have HF:=aj hf;clear hs hl hfr hcp hst hft hle hk hkf hf;go_enter func27,ntmps27;go_wp2_with fail;rw[<-hW0];clear hW0;refine HPC.out.mono ?_;rintro e w1 ⟨hb1,⟨hr,rfl⟩|⟨hr,P,D,br,bp,bt,nr,np,n1,Mr,Er,Mp,vo,vu,WX,Wi,bK,nK,rfl,hP,hD⟩⟩
  · have HN:Hid (mQ st rs ts known f=false):=by show _=_;unfold mQ;rw[hr];rfl
    have HB1:=aj (HB0.out.trans (hb1.mono HB0.out.size));clear hb1 hr HPC;go_wp2;go_ret;exact⟨by rw[HN.out];rfl,HB1.out⟩
  · have HK1:=aj (uC Wx.out hb1);have HB1:=aj (HB0.out.trans (hb1.mono HB0.out.size));have HS1:=aj (HS.out.below hb1);have HKN1:=aj (HKN.out.below hb1);have HP:=aj hP;have HD:=aj hD;have hsd:aM (ag rs)=true/\ts.length<=40:=by
      have hr2:=hr;unfold aV dO at hr2;simp only[UW,U3]at hr2;exact⟨hr2.1.1,hr2.1.2.1⟩
    have HSH:=aj (bq.1 hsd.1).1;have ht40:=hsd.2;have HR1:=aj hr;obtain⟨k0,k1,k2,k3,k4,-⟩:=HK1.out;clear hb1 hr HPC hP hD hsd HS HKN Wx;go_wp2_with fail;refine(KD f _ HF.out).mono ?_;rintro e w2 ⟨rfl,hb2⟩;have HK2:=aj (uC HK1.out hb2);have HB2:=aj hb2;clear hb2 k0 k1 k2 k3 k4;cases hq:okB f;case false=>
      have HN:Hid (mQ st rs ts known f=false):=by show _=_;unfold mQ;rw[hq];simp
      go_wp2;go_ret;exact⟨by rw[HN.out];rfl,HK2.out.2.2.2.2.2⟩
    by_cases h2:known.length<=200
    · have hd2:¬((200:Int)<(known.length:Int)):=by omega
      have HE:Hid (mQ st rs ts known f=uD rs ts (aO st rs ts) known f):=by show _=_;unfold mQ;rw[HR1.out,hq,decide_eq_true h2];rfl
      have HRU:Hid (∀W',ae w1 W'->Calls prog 64 #[.pointer (some ⟨P,0,none⟩),.agg #[.string f.a,.string f.b,.string f.r,.string f.c,.string f.d]] W' fun e w'=>(∃v n,e=.returned v/\aN w' (jB W'.heap.size) n v (Cb rs ts (aO st rs ts) f)/\n<=8)/\ae W' w'):=fun W' hb=>KE (HP.out.below hb) (HD.out.below hb) HF.out Wl.out (by omega) HSH.out (HS1.out.below hb);have HFS:Hid (∀W',ae w1 W'->Calls prog 67 #[.slice adK known.length capK] W' fun e w'=>(∃b n,e=.returned (.map (some b))/\aK jO prog 29 w' b n (wL known))/\ae W' w'):=fun W' hb=>tF adK capK known W' hkl (HKN1.out.below hb) ZG.out;obtain⟨k0,k1,k2,k3,k4,-⟩:=HK2.out;clear hq h2;go_wp2_with fail
      go_region_held3 (fun w'=>w'.cell? ⟨w.heap.size,0,none⟩=some (.string f.a)/\w'.cell? ⟨w.heap.size,1,none⟩=some (.string f.b)/\w'.cell? ⟨w.heap.size,2,none⟩=some (.string f.r)/\w'.cell? ⟨w.heap.size,3,none⟩=some (.string f.c)/\w'.cell? ⟨w.heap.size,4,none⟩=some (.string f.d)/\ae w1 w')
        (first|assumption|exact uC (by assumption) hbx|exact⟨k0,k1,k2,k3,k4,HB2.out.drew⟩)
        (first
         | (go_at_call 64;refine(HRU.out _ (And.right (And.right (And.right (And.right (And.right (by assumption))))))).mono ?_;rintro e w3 ⟨⟨v,n,rfl,hru,-⟩,hbx⟩;obtain⟨T,a,rfl,hkd⟩:=hru.kind;have hm:=Ca hkd;have hna:=QJ hkd;have hrf:=FL hkd)
         | (go_at_call 67;refine(HFS.out _ (And.right (And.right (And.right (And.right (And.right (by assumption))))))).mono ?_;rintro e w4 ⟨⟨b2,n2,rfl,hV⟩,hbx⟩;have hru4:=hru.below hbx)
         | (refine(QR hru4 (Sq hV)).mono ?_;rintro e w5 ⟨rfl,hbx⟩))
      all_goals
        (try go_wp2)
        go_ret;exact⟨by rw[HE.out,<-NL];rfl,HB1.out.trans ((And.right (And.right (And.right (And.right (And.right (by assumption))))):ae w1 _).mono HB1.out.size)⟩
    · have hd2:(200:Int)<(known.length:Int):=by omega
      have HN:Hid (mQ st rs ts known f=false):=by show _=_;unfold mQ;rw[decide_eq_false h2];simp
      go_wp2;go_ret;exact⟨by rw[HN.out];rfl,HK2.out.2.2.2.2.2⟩
end
theorem xR{xs:Q0a}{o x:Al}:x∈bz xs o↔x∈xs\/x=o:=by
 unfold bz;split
 ·rename_i h;exact⟨.inl,fun h'=>h'.elim id fun e=>e ▸ Px.1 h⟩
 simp
theorem FP:∀(ts:Q05) (xs:Q0a) (o:Al),(o∈xs \/ ∃t∈ts,o=⟨t.a,t.b⟩\/o=⟨t.c,t.d⟩)->o∈ts.foldl fU xs
 | [],xs,o,h=>h.elim id fun⟨t,ht,_⟩=>by cases ht
 | t::ts,xs,o,h=>by
  refine FP ts (fU xs t) o ?_;unfold fU;simp only[xR];rcases h with h|⟨u,hu,h⟩
  ·exact .inl (.inl (.inl h))
  rcases U9.1 hu with rfl|hu
  ·rcases h with h|h
   ·exact .inl (.inl (.inr h))
   exact .inl (.inr h)
  exact .inr ⟨u,hu,h⟩
theorem Lv:∀(ts:Q05) (xs:Q0a) (o:Al),(o∈xs \/ ∃t∈ts,t.s.toList.isEmpty=true/\o=⟨t.c,t.d⟩)->o∈ts.foldl dh xs
 | [],xs,o,h=>h.elim id fun⟨t,ht,_⟩=>by cases ht
 | t::ts,xs,o,h=>by
  refine Lv ts (dh xs t) o ?_;rcases h with h|⟨u,hu,hs,h⟩
  ·refine .inl ?_;unfold dh;split
   ·exact xR.2 (.inl h)
   exact h
  rcases U9.1 hu with rfl|hu
  ·refine .inl ?_;unfold dh;rw[if_pos (by simpa using hs)];exact xR.2 (.inr h)
  exact .inr ⟨u,hu,hs,h⟩
theorem pK{l:Q05}{es:Q09}{truth known:Q04}{f:Fc}(h5:∀e∈es,e.kind=5->e.kids≠[])(hkn:∀g∈known,(⟨g.a,g.b⟩:Al)∈dM l/\(⟨g.c,g.d⟩:Al)∈bP l):∀(k n:Nat),di l es truth f k known n=true->(⟨f.a,f.b⟩:Al)∈dM l/\(⟨f.c,f.d⟩:Al)∈bP l
 | 0,n,h=>by cases h
 | k+1,n,h=>by
  unfold di at h;cases e:es[n]? with
  | none=>rw[e]at h;cases h
  | some x =>
   rw[e]at h;simp only at h;by_cases k1:x.kind=1
   ·rw[if_pos k1]at h;unfold eY at h;obtain⟨t,ht,h⟩:=Vk.1 h;simp only[UW,beq_iff_eq]at h;obtain⟨⟨⟨h1,h2⟩,h3⟩,h4⟩:=h;refine⟨FP _ _ _ (.inr ⟨t,ht,.inl (by rw[gG h1,gG h2])⟩),?_⟩;split at h4
    ·rename_i hs;simp only[UW,beq_iff_eq]at h4;exact Lv _ _ _ (.inr ⟨t,ht,hs,by rw[gG h4.1,gG h4.2]⟩)
    exact(hkn _ (cZ.1 h4)).2
   rw[if_neg k1]at h;by_cases k2:x.kind=2
   ·rw[if_pos k2]at h;have h2:=hkn _ (cZ.1 h);exact h2
   rw[if_neg k2]at h;by_cases k3:x.kind=3
   ·rw[if_pos k3]at h;unfold gm at h;obtain⟨t,ht,h⟩:=Vk.1 h;simp only[UW,beq_iff_eq]at h;obtain⟨⟨⟨h1,h2⟩,h3⟩,h4⟩:=h;exact⟨FP _ _ _ (.inr ⟨t,ht,.inl (by rw[gG h1,gG h2])⟩),(hkn _ (cZ.1 h4)).2⟩
   rw[if_neg k3]at h;by_cases k4:x.kind=4
   ·rw[if_pos k4]at h;obtain⟨i,-,h⟩:=Vk.1 h;exact pK h5 hkn k _ h
   rw[if_neg k4]at h;by_cases k5:x.kind=5
   ·rw[if_pos k5]at h;obtain⟨i,hi⟩:=List.exists_mem_of_ne_nil _ (h5 x (VQ e) k5);exact pK h5 hkn k _ (U5.1 h i hi)
   rw[if_neg k5]at h;by_cases k6:x.kind=6
   ·rw[if_pos k6]at h;exact pK h5 hkn k _ (Bool.and_eq_true_iff.1 h).1
   rw[if_neg k6]at h;cases h
theorem QS{ts:Q05}(h:dO ts=true):∀t∈ts,t.ok=true:=fun t ht=>by
 unfold dO at h;simp only[UW]at h;obtain⟨i,hi,rfl⟩:=VI ht;have h1:=h.2;unfold vF at h1;have h2:=U5.1 h1 i (by simpa using hi);unfold xq at h2;rw[U1 hi]at h2;exact(Bool.and_eq_true_iff.1 h2).1
section
variable  [DecidableEq Fc]
theorem Iw(ts:Q0b)(l:Q05)(st:Q00)(xo xu:Q0a):∀N,lJ ts l st xo xu N=vW (fT ts l) (fun n=>df ts st xo xu (n:Int)) N
 | 0=>rfl
 | N+1=>by rw[jy,Iw ts l st xo xu N];rfl
theorem NM{rs:Q06}(hsh:bu (ag rs)=true)(a r:bQ):∀e∈aB (ag rs) a r,e.kind=5->e.kids≠[]:=by
 intro e he k5;cases hp:eG (ag rs) a r with
 | none=>unfold aB at he;rw[hp]at he;cases he
 | some es =>
  unfold aB at he;rw[hp]at he;obtain⟨t0,ht0,r0,hr0,en,er,ee⟩:=qG hp;have hspec:=(AQ hsh ht0 hr0).2;rw[ee]at hspec;have h4:es.all ax=true:=by simp only[aL,UW]at hspec;exact hspec.1.1.1.2
  have:=U5.1 h4 e he;unfold ax at this;rw[if_neg (by omega),if_neg (by omega),if_neg (by omega),if_pos (.inr k5)]at this;simp only[UW,U3]at this;intro h0;rw[h0]at this;simp at this
theorem FQ{st:Q00}{rs:Q06}{ts:Q05}(hle:aM (ag rs)=true->Least (ag rs) st)(hr:aV (gM rs) rs ts=true)(f:Fc):bB (aO st rs ts) f=fT (ag rs) ts (aO st rs ts) f:=by
 have hr2:=hr;unfold aV at hr2;simp only[UW]at hr2;have hSP:=bq.1 hr2.1.1;have XH:=hle hr2.1.1;have hfit:∀t∈ts,Pi (ag rs) t=true:=fun t ht=>by
  have h1:=U5.1 hr2.2 t ht;rw[<-xN hr2.1.1 (QS hr2.1.2 t ht)]at h1;exact h1
 have hL:=E9 XH.sol hSP.1 hSP.2.1 hfit;have hen:∀k∈au (ag rs),hasB (ag rs) k.1 k.2=true:=fun k hk=>by
  obtain⟨es,h1,h2⟩:=Ii hSP.1 hk;rw[GU];unfold aB;rw[h1];intro e;have e2:es=[]:=e;rw[e2]at h2;simp[aL]at h2
 have hq:∀n:Nat,∀g∈df (ag rs) st (dM ts) (bP ts) (n:Int),QU (ag rs) st g=(n:Int):=fun n g hg=>JI hen hg;have hsub:∀g∈aO st rs ts,(⟨g.a,g.b⟩:Al)∈dM ts/\(⟨g.c,g.d⟩:Al)∈bP ts:=fun g hg=>by
  rw[iH hr]at hg;have h1:=(kN st rs ts (dM ts) (bP ts) _).sub g hg;unfold BM at h1;obtain⟨o,ho,h1⟩:=U8.1 h1;obtain⟨k,hk,h1⟩:=U8.1 h1;unfold jg at h1;obtain⟨u,hu,rfl⟩:=U7.1 h1;exact⟨ho,hu⟩
 rw[Vd,cZ];have e:aO st rs ts=vW (fT (ag rs) ts) (fun n=>df (ag rs) st (dM ts) (bP ts) (n:Int)) ((au (ag rs)).length+1):=by
  rw[iH hr];exact Iw _ _ _ _ _ _
 constructor
 ·intro h;rw[e]at h ⊢;exact Ms hL hq h
 intro h;obtain⟨ho,hu⟩:=pK (NM hSP.1 f.a f.r) hsub _ _ h;have hne:aB (ag rs) f.a f.r≠[]:=fun h0=>by
  unfold fT at h;rw[h0]at h;cases h
 have hk:(f.a,f.r)∈au (ag rs):=rJ (by simpa using hne);have hp:=XH.sol.pos (f.a,f.r);have hlt:st (f.a,f.r)<((au (ag rs)).length:Int):=by
  refine Classical.byContradiction fun hc=>?_;exact absurd ⟨st,XH.sol⟩ (I7 (jM hSP.2.1) hk (XH.low _ hk) (by omega))
 rw[e]at h ⊢;refine Ph hL hq (n:=(st (f.a,f.r)).toNat) (by omega) ?_ h;unfold df vQ AU jg;refine U8.2 ⟨_,ho,U8.2 ⟨(f.a,f.r),VM.2 ⟨hk,?_⟩,U7.2 ⟨_,hu,rfl⟩⟩⟩;simp only[BEq.rfl,Bool.true_and,U3];omega
end
theorem xS{x y:Q04}{f:Fc}(h:∀g∈x,g∈y)(hf:bB x f=true):bB y f=true:=cZ.2 (h f (cZ.1 hf))
theorem Cc{α:Type}{p q:α->Bool}{xs:List α}(h:∀x,p x=true->q x=true)(ha:xs.any p=true):xs.any q=true:=by
 obtain⟨x,hx,hp⟩:=Vk.1 ha;exact Vk.2 ⟨x,hx,h x hp⟩
theorem pM{l:Q05}{es:Q09}{truth:Q04}{f:Fc}:∀(k:Nat) (x y:Q04) (n:Nat),(∀g∈x,g∈y)->di l es truth f k x n=true->di l es truth f k y n=true
 | 0,_,_,_,_,h=>by cases h
 | k+1,x,y,n,hs,h=>by
  unfold di at h⊢;cases e:es[n]? with
  | none=>rw[e]at h;cases h
  | some q =>
   rw[e]at h;simp only at h⊢;by_cases k1:q.kind=1
   ·rw[if_pos k1]at h⊢;unfold eY at h⊢;refine Cc (fun t ht=>?_) h;simp only[UW]at ht⊢;refine⟨ht.1,?_⟩;have h2:=ht.2;split at h2
    ·rename_i he;rw[if_pos he];exact h2
    rename_i he;rw[if_neg he];exact xS hs h2
   rw[if_neg k1]at h ⊢;by_cases k2:q.kind=2
   ·rw[if_pos k2]at h ⊢;exact xS hs h
   rw[if_neg k2]at h ⊢;by_cases k3:q.kind=3
   ·rw[if_pos k3]at h⊢;unfold gm at h⊢;refine Cc (fun t ht=>?_) h;simp only[UW]at ht⊢;exact⟨ht.1,xS hs ht.2⟩
   rw[if_neg k3]at h ⊢;by_cases k4:q.kind=4
   ·rw[if_pos k4]at h ⊢;exact Cc (fun i hi=>pM k x y _ hs hi) h
   rw[if_neg k4]at h ⊢;by_cases k5:q.kind=5
   ·rw[if_pos k5]at h ⊢;rw[U5]at h ⊢;exact fun i hi=>pM k x y _ hs (h i hi)
   rw[if_neg k5]at h ⊢;by_cases k6:q.kind=6
   ·rw[if_pos k6]at h ⊢;simp only[UW]at h ⊢;exact⟨pM k x y _ hs h.1,h.2⟩
   rw[if_neg k6]at h;cases h
theorem Em{rs:Q06}{ts:Q05}{truth x y:Q04}{f:Fc}(hs:∀g∈x,g∈y)(h:uD rs ts truth x f=true):uD rs ts truth y f=true:=pM _ _ _ _ hs h
section
variable  [DecidableEq Fc]
theorem pO{st:Q00}{rs:Q06}{ts:Q05}{known:Q04}{f:Fc}(h:mQ st rs ts known f=true):aV (gM rs) rs ts=true/\okB f=true/\known.length<=200/\uD rs ts (aO st rs ts) known f=true:=by
 unfold mQ at h;simp only[UW,U3]at h;exact⟨h.1.1.1,h.1.1.2,h.1.2,h.2⟩
theorem NN{st:Q00}{rs:Q06}{ts:Q05}{known more:Q04}{f:Fc}(h:mQ st rs ts known f=true)(hs:∀g∈known,g∈more)(hl:more.length<=200):mQ st rs ts more f=true:=by
 obtain⟨h1,h2,-,h4⟩:=pO h;unfold mQ;rw[h1,h2,Em hs h4];simpa using hl
theorem FR{st:Q00}{rs:Q06}{ts:Q05}{known:Q04}{f:Fc}(hle:aM (ag rs)=true->Least (ag rs) st)(hr:aV (gM rs) rs ts=true)(h:uD rs ts (aO st rs ts) known f=true)(hk:∀g∈known,bB (aO st rs ts) g=true):bB (aO st rs ts) f=true:=by
 rw[FQ hle hr];exact Em (fun g hg=>cZ.1 (hk g hg)) h
theorem KH{st:Q00}{rs:Q06}{ts:Q05}{known:Q04}{f:Fc}(hle:aM (ag rs)=true->Least (ag rs) st)(h:mQ st rs ts known f=true)(hk:∀g∈known,bB (aO st rs ts) g=true):bB (aO st rs ts) f=true :=
 FR hle (pO h).1 (pO h).2.2.2 hk
end
end Go.Proofs.YtajkkeikihhejaaGreat
