/- Contract of the program's function on the least strata. -/
import Derived.Test.YtojjoblnpldniaaGreatSq
import Derived.Test.YtojjoblnpldniaaGreatJ9
import Derived.Laws.EntriesVeiled
import Derived.Test.YtojjoblnpldniaaGreatJ7
open Go.Proofs.Tryz
set_option maxHeartbeats 80000000
set_option linter.defProp false
namespace Go.Proofs.YtojjoblnpldniaaGreat
open ChangeShapes WideShapes ChangeAt RowKit Maps
open Pl
def Rq(ts:Q0b)(w:World)(e:Ending)(w':World):Prop :=
 ((∃(b n:Nat) (σ:Ky->Option Int),e=.returned (.tuple #[.map (some b),.bool true])/\aL eD prog 146 w' b n (jD σ)/\Least ts (fun k=>(σ k).getD 0)/\∀k,(∃x,σ k=some x)↔k∈ay ts)\/(e=.returned (.tuple #[.map none,.bool false])/\¬ ∃f,Sol ts f))/\ae w w'
def Rs(N:Nat)(ks:List Ky):pQ N (fun _=>none) ks=N*ks.length:=by
 induction ks with
 | nil=>simp[pQ]
 | cons k ks ih=>simp only[pQ,ih,yS,Yh];push_cast;rw[Int.mul_add];omega
def OE{rs:Q06}(hf:∀r∈rs,r.fits):∀k∈ay (ai rs),k.1.size<=maxLen/\k.2.size<=maxLen:=by
 intro k hk;obtain⟨t,ht,r,hr,rfl⟩:=rV.1 hk;obtain⟨t',ht',rfl⟩:=XW.1 ht;obtain⟨q,hq,rfl⟩:=XW.1 hr;exact⟨(hf t' ht').1,((hf t' ht').2.2 q hq).1⟩
set_option maxRecDepth 100000 in
theorem Ai(ad:Q02)(cap:Nat)(rs:Q06)(bL nL:Nat)(ML:Ky->Option Value)(E:List (Ky×St))(w:ag)(hlen:rs.length<=6)(hs:kI w ad rs)(hf:∀r∈rs,r.fits)(hrl:∀r∈rs,r.rows.length<=6)(hG:Grp w bL nL ML E)(hE:Edge (ai rs) E)(hF:Found (ai rs))(hEl:E.length<=100000):
  Calls prog 186 #[.slice ad rs.length cap,.map (some bL)] w (Rq (ai rs) w):=by
 have HS:=aK hs;have Zd:=aK hf;have HRL:O (∀r∈rs,r.rows.length<=6):=hrl;have HG:O (Grp w bL nL ML E):=hG;have HE:=aK hE;have HF:=aK hF;have HBL:O (bL<w.heap.size):=hG.map.lt;clear hs hf hrl hG hE hF;have hmm:=@run_makeMap prog;go_enter func186,ntmps186;have HB0:O (ae w ((w.alloc (.cells #[.map (some bL)] 261)).alloc (.cells #[.int .i64 0] 2))):=((XL _ _).alloc (XK _) _).alloc (by simp) _;have HC0:O (((w.alloc (.cells #[.map (some bL)] 261)).alloc (.cells #[.int .i64 0] 2)).cell? ⟨w.heap.size,0,none⟩=some (.map (some bL))/\((w.alloc (.cells #[.map (some bL)] 261)).alloc (.cells #[.int .i64 0] 2)).cell? ⟨w.heap.size+1,0,none⟩=some (.int .i64 0)/\((w.alloc (.cells #[.map (some bL)] 261)).alloc (.cells #[.int .i64 0] 2)).frozen? ⟨w.heap.size+1,0,none⟩=false/\w.heap.size+1<((w.alloc (.cells #[.map (some bL)] 261)).alloc (.cells #[.int .i64 0] 2)).heap.size):=⟨by simp,by simp,by simp,by simp⟩;go_wp2_with fail;go_loopw[17] (fun i wr=>∃k:Nat,k<=rs.length/\i=.int .i64 k/\O (ae w wr)/\O (wr.cell? ⟨w.heap.size,0,none⟩=some (.map (some bL))/\wr.cell? ⟨w.heap.size+1,0,none⟩=some (.int .i64 ((dL rs k).length:Int))/\wr.frozen? ⟨w.heap.size+1,0,none⟩=false/\w.heap.size+1<wr.heap.size)) (fun i _=>rs.length-(intOf i).toNat);case atStart=>exact⟨0,XP _,rfl,HB0,HC0⟩
 clear HB0 HC0;obtain⟨k,hk,rfl,HB,HC⟩:=hrel;obtain⟨c0,c1,c2,c3⟩:=HC.out;have hu:=yF rs HRL.out k;by_cases hlt:k<rs.length
 ·rcases HS.out.below HB.out with rfl|⟨b,off,rfl,hb,hr,-⟩
  ·simp at hlt
  obtain⟨t0,t1⟩:=hr k hlt;have hk1:=bG k;have hk2:(k:Int)<(rs.length:Int):=by omega
  have h6:=HRL.out _ (XI hlt);have Z9:O ((dL rs (k+1)).length=(dL rs k).length+rs[k].rows.length):=by show _=_;rw[qC _ _ hlt,XT];simp[jC]
  obtain⟨cn,hcn⟩:=eQx ((dL rs k).length);rw[<-hcn]at c1 hu Z9;have HB1:O (ae w ((wr.setCell ⟨w.heap.size+1,0,none⟩ (.int .i64 ((cn:Int)+(rs[k].rows.length:Int)))).alloc (.cells #[.string rs[k].name,.slice rs[k].ad rs[k].rows.length rs[k].cap] 36))):=(HB.out.setCell (p:=⟨w.heap.size+1,0,none⟩) (by simp) _).alloc (by simpa using HB.out.size) _;have HC1:O (((wr.setCell ⟨w.heap.size+1,0,none⟩ (.int .i64 ((cn:Int)+(rs[k].rows.length:Int)))).alloc (.cells #[.string rs[k].name,.slice rs[k].ad rs[k].rows.length rs[k].cap] 36)).cell? ⟨w.heap.size,0,none⟩=some (.map (some bL))/\((wr.setCell ⟨w.heap.size+1,0,none⟩ (.int .i64 ((cn:Int)+(rs[k].rows.length:Int)))).alloc (.cells #[.string rs[k].name,.slice rs[k].ad rs[k].rows.length rs[k].cap] 36)).cell? ⟨w.heap.size+1,0,none⟩=some (.int .i64 ((dL rs (k+1)).length:Int))/\((wr.setCell ⟨w.heap.size+1,0,none⟩ (.int .i64 ((cn:Int)+(rs[k].rows.length:Int)))).alloc (.cells #[.string rs[k].name,.slice rs[k].ad rs[k].rows.length rs[k].cap] 36)).frozen? ⟨w.heap.size+1,0,none⟩=false/\w.heap.size+1<((wr.setCell ⟨w.heap.size+1,0,none⟩ (.int .i64 ((cn:Int)+(rs[k].rows.length:Int)))).alloc (.cells #[.string rs[k].name,.slice rs[k].ad rs[k].rows.length rs[k].cap] 36)).heap.size):=by
   obtain⟨X,hX⟩:=eQx (wr.setCell ⟨w.heap.size+1,0,none⟩ (.int .i64 ((cn:Int)+(rs[k].rows.length:Int))));have hXs:X.heap.size=wr.heap.size:=by rw[hX];simp
   have hB:ae X (X.alloc (.cells #[.string rs[k].name,.slice rs[k].ad rs[k].rows.length rs[k].cap] 36)):=(XL _ _).alloc (XK _) _;rw[<-hX];refine⟨aM hB (by omega) (by rw[hX,zl (by omega)];exact c0),aM hB (by omega) (by rw[hX,Z9.out];push_cast;exact AZ c1),?_,by simp;omega⟩;rw[hB.frozen (p:=⟨w.heap.size+1,0,none⟩) (by simp;omega),hX];simpa using c2
  clear hr hcn HC;go_wp2;go_roundw;case rel=>exact⟨k+1,by omega,by go_num,HB1,HC1⟩
  simp[intOf]<;>omega
 obtain rfl:k=rs.length:=by omega
 have hEN:dL rs rs.length=ay (ai rs):=by unfold dL;rw[X8]
 rw[hEN]at c1 hu;obtain⟨N,hN⟩:=eQx ((ay (ai rs)).length);rw[<-hN]at c1 hu;have HNN:O (N=(ay (ai rs)).length):=hN;have HEN:O (dL rs rs.length=ay (ai rs)):=hEN;have hN36:N<=36:=by omega
 have hbl:=HBL.out;have hwr:w.heap.size<=wr.heap.size:=HB.out.size;obtain⟨W0,hW0⟩:=eQx ((((wr.alloc (.map #[] 0)).alloc (.cells #[.map (some wr.heap.size)] 169)).alloc (.cells #[(.func (Fn.func 259) #[] #[.pointer (some ⟨wr.heap.size+1,0,none⟩),.pointer (some ⟨w.heap.size+1,0,none⟩),.pointer (some ⟨w.heap.size,0,none⟩),.pointer (some ⟨wr.heap.size+1+1,0,none⟩)])] 333)));have hal:ae wr W0:=by
  rw[hW0]
  repeat(first|exact XL _ _|refine Below.alloc ?_ (by first|(simp;done)|(simp;omega)) _)
 have hs0:W0.heap.size=wr.heap.size+3:=by rw[hW0];simp
 have HRW:O (Rw W0 (wr.heap.size+1) (w.heap.size+1) w.heap.size (wr.heap.size+1+1) wr.heap.size bL N 0 nL ML E (fun _=>none)):=by
  have hGr:Grp wr bL nL ML E:=HG.out.below HB.out;have hMV:aL eD prog 146 W0 wr.heap.size 0 (jD (fun _=>none)):=by
   have h1:=jL eD prog 146 wr;have e1:jD (fun _=>none)=fun _=>none:=by funext k;rfl
   rw[e1];refine h1.below ?_;rw[hW0]
   repeat(first|exact XL _ _|refine Below.alloc ?_ (by first|(simp;done)|(simp;omega)) _)
  have hcS:W0.cell? ⟨wr.heap.size+1,0,none⟩=some (.map (some wr.heap.size)):=by
   rw[hW0];exact aM ((XL _ _).alloc (XK _) _) (by simp) (Qa wr _ _ _ 0 rfl)
  have hcR:W0.cell? ⟨wr.heap.size+1+1,0,none⟩=some (GV (wr.heap.size+1) (w.heap.size+1) w.heap.size (wr.heap.size+1+1)):=by
   rw[hW0];exact Vz _ _ _ _ _ _ rfl
  exact⟨hcS,aM hal (by omega) c1,aM hal (by omega) c0,hcR,by omega,by omega,by omega,by omega,hMV,hGr.below hal,by omega,hGr.fresh (XK _)⟩
 have HB0:=jr HB hal;clear hu hEN hN hal HC;go_wp2_with fail;rw[<-hW0];clear hW0 c0 c1 c2 c3 HB;obtain⟨bS,hbS⟩:=eQx wr.heap.size;obtain⟨gS,hgS⟩:=eQx (wr.heap.size+1);obtain⟨gR,hgR⟩:=eQx (wr.heap.size+1+1);obtain⟨gC,hgC⟩:=eQx (w.heap.size+1);obtain⟨gL,hgL⟩:=eQx w.heap.size;have hb1:w.heap.size<=bS:=by omega
 have HRW2:O (Rw W0 gS gC gL gR bS bL N 0 nL ML E (fun _=>none)):=by rw[hbS,hgS,hgR,hgC,hgL];exact HRW
 have HI0:O (∃(σ:Ky->Option Int) (n:Nat),Rw W0 gS gC gL gR bS bL N n nL ML E σ/\Rz (ai rs) N σ/\(n:Int)+pQ N σ (ay (ai rs))<=2000/\Raised E (fun _=>none) σ/\∀key∈dL rs 0,∃x,σ key=some x):=by
  refine⟨fun _=>none,0,HRW2.out,⟨fun k x h=>by cases h⟩,?_,Raised.refl _ _,fun k hk=>by simp[dL,ai,ay]at hk⟩;rw[Rs,<-HNN.out];have h1:(N:Int)*N<=36*36:=Int.mul_le_mul (by omega) (by omega) (by omega) (by omega)
  push_cast;omega
 rw[<-hgR,<-hgS,<-hbS,<-hgC,<-hgL];clear HRW HRW2 hs0 hmm hgR hgS hbS hgC hgL;go_loopw[31] (fun i w2=>∃k:Nat,k<=rs.length/\i=.int .i64 k/\O (ae w w2)/\O (∃(σ:Ky->Option Int) (n:Nat),Rw w2 gS gC gL gR bS bL N n nL ML E σ/\Rz (ai rs) N σ/\(n:Int)+pQ N σ (ay (ai rs))<=2000/\Raised E (fun _=>none) σ/\∀key∈dL rs k,∃x,σ key=some x)) (fun i _=>rs.length-(intOf i).toNat);case atStart=>exact⟨0,XP _,rfl,HB0,HI0⟩
 clear HB0 HI0;obtain⟨k,hk,rfl,HB,HI⟩:=hrel;by_cases hlt:k<rs.length
 ·rcases HS.out.below HB.out with rfl|⟨b,off,rfl,hb,hr,-⟩
  ·simp at hlt
  obtain⟨t0,t1⟩:=hr k hlt;have hk1:=bG k;have hk2:(k:Int)<(rs.length:Int):=by omega
  have h6:=HRL.out _ (XI hlt);obtain⟨W1,hW1⟩:=eQx (wr.alloc (.cells #[.string rs[k].name,.slice rs[k].ad rs[k].rows.length rs[k].cap] 36));have hal:ae wr W1:=by rw[hW1];exact(XL _ _).alloc (XK _) _
  obtain⟨g12,hg12⟩:=eQx wr.heap.size;have hbw:bS<wr.heap.size:=by obtain⟨σ,n,hR,-⟩:=HI.out;exact hR.map.lt
  have HC12:O (W1.cell? ⟨g12,0,none⟩=some (.string rs[k].name)/\g12<W1.heap.size/\g12≠bS):=⟨by rw[hW1,hg12];simp,by rw[hW1,hg12];simp,by omega⟩;have HB1:=jr HB hal;have HI1:O (∃(σ:Ky->Option Int) (n:Nat),Rw W1 gS gC gL gR bS bL N n nL ML E σ/\Rz (ai rs) N σ/\(n:Int)+pQ N σ (ay (ai rs))<=2000/\Raised E (fun _=>none) σ/\∀key∈dL rs k,∃x,σ key=some x):=by
   obtain⟨σ,n,hR,h2⟩:=HI.out;exact⟨σ,n,hR.below hal,h2⟩
  clear hr hal HI HB;go_wp2_with fail;rw[<-hW1,<-hg12];clear hW1 t0 t1 hg12;go_loopw[38] (fun i w3=>∃j:Nat,j<=rs[k].rows.length/\i=.int .i64 j/\O (ae w w3)/\O (w3.cell? ⟨g12,0,none⟩=some (.string rs[k].name)/\g12<w3.heap.size/\g12≠bS)/\O (∃(σ:Ky->Option Int) (n:Nat),Rw w3 gS gC gL gR bS bL N n nL ML E σ/\Rz (ai rs) N σ/\(n:Int)+pQ N σ (ay (ai rs))<=2000/\Raised E (fun _=>none) σ/\∀key∈dL rs k++jC rs[k] j,∃x,σ key=some x)) (fun i _=>rs[k].rows.length-(intOf i).toNat);case atStart=>exact⟨0,XP _,rfl,HB1,HC12,by simpa[jC] using HI1⟩
  clear HB1 HC12 HI1;obtain⟨j,hj,rfl,HB,HC,HI⟩:=hrel;by_cases hjl:j<rs[k].rows.length
  ·rcases HS.out.below HB.out with hnil|⟨b',off',he,hb2,hr,hok⟩
   ·rw[hnil]at hlt;simp at hlt
   injection he with he;injection he with he1 he2;subst he1;subst he2;have ok:=hok rs[k] (XI hlt);rcases ok with hnil|⟨b2,ZR,had,hbb,hr2,-⟩
   ·rw[hnil]at hjl;simp at hjl
   obtain⟨q0,q1⟩:=hr2 j hjl;have hj1:=bG j;have hj2:(j:Int)<(rs[k].rows.length:Int):=by omega
   obtain⟨σ,n,hR,hZ,hn,hRa,hall⟩:=HI.out;obtain⟨x0,x1,x2⟩:=HC.out;have cR:=hR.cR;unfold GV at cR;have lR:=hR.lR.1;obtain⟨W3,hW3⟩:=eQx (wr.alloc (.cells #[.string rs[k].rows[j].name,.slice rs[k].rows[j].ad rs[k].rows[j].rows.length rs[k].rows[j].cap] 39));have hal:ae wr W3:=by rw[hW3];exact(XL _ _).alloc (XK _) _
   have HR3:=aK (hR.below hal);have HZ3:=aK hZ;have HB3:=jr HB hal;have HC3:O (W3.cell? ⟨g12,0,none⟩=some (.string rs[k].name)/\g12<W3.heap.size/\g12≠bS):=⟨aM hal x1 x0,XJ x1 hal.size,x2⟩;have HRA:O (Raised E (fun _=>none) σ):=hRa;have Zl:O (∀key∈dL rs k++jC rs[k] j,∃x,σ key=some x):=hall;have hmp:=hZ.mu_pos (ay (ai rs));have HKM:O ((rs[k].name,rs[k].rows[j].name)∈ay (ai rs)):=rV.2 ⟨rs[k].p,Yn (XI hlt),rs[k].rows[j].p,Yn (XI hjl),rfl⟩;rw[had];clear hr hok hr2 hal hR hZ hRa hall HI HB HC;go_wp2_with fail;rw[<-hW3];clear hW3 q0 q1 cR x0;refine(OD (ai rs) gS gC gL gR bS bL N nL ML E HE.out HF.out HNN.out hN36 (OE Zd.out) hEl (pQ N σ (ay (ai rs))).toNat _ σ n (rs[k].name,rs[k].rows[j].name) 0 HR3.out HZ3.out (by omega) (by omega) HKM.out (by omega) (by omega) (rR.zero _ _)).mono ?_;rintro e w5 ⟨ok,σ5,n5,rfl,hg5,ZB,hZ5,hn5,hm5,hf5,ht5⟩;have HB5:O (ae w w5):=HB3.out.grown hg5 HB3.out.size (fun i hi=>by injection hi with hi;omega);cases ok;case false=>
    have HP:O (Rq (ai rs) w (.returned (.tuple #[.map none,.bool false])) w5):=⟨.inr ⟨rfl,hf5 rfl⟩,HB5.out⟩;clear hg5 ZB hZ5 hn5 hm5 hf5 ht5;go_wp2;refine bodyPost_ret (v:=.tuple #[.map none,.bool false]) ?_ rfl HP.out;simp[results,Tryz.results186,go_sem]
   have HI5:O (∃(σ:Ky->Option Int) (n:Nat),Rw w5 gS gC gL gR bS bL N n nL ML E σ/\Rz (ai rs) N σ/\(n:Int)+pQ N σ (ay (ai rs))<=2000/\Raised E (fun _=>none) σ/\∀key∈dL rs k++jC rs[k] (j+1),∃x,σ key=some x):=by
    obtain⟨hRa,y,hy,-⟩:=ht5 rfl;refine⟨σ5,n5,ZB,hZ5,by omega,HRA.out.trans hRa,fun key hk=>?_⟩;rw[vM _ _ hjl,<-Ye]at hk;rcases XV.1 hk with hk|hk
    ·obtain⟨x,hx⟩:=Zl.out key hk;obtain⟨z,hz,-⟩:=hRa.mono key x hx;exact⟨z,hz⟩
    simp at hk;subst hk;exact⟨y,hy⟩
   have HC5:O (w5.cell? ⟨g12,0,none⟩=some (.string rs[k].name)/\g12<w5.heap.size/\g12≠bS):=⟨(kM hg5 HC3.out.2 0).trans HC3.out.1,XJ HC3.out.2.1 hg5.size,HC3.out.2.2⟩;clear hg5 ZB hZ5 hn5 hm5 hf5 ht5;go_wp2;go_roundw;case rel=>exact⟨j+1,by omega,by go_num,HB5,HC5,HI5⟩
   simp[intOf]<;>omega
  obtain rfl:j=rs[k].rows.length:=by omega
  have HI5:O (∃(σ:Ky->Option Int) (n:Nat),Rw wr gS gC gL gR bS bL N n nL ML E σ/\Rz (ai rs) N σ/\(n:Int)+pQ N σ (ay (ai rs))<=2000/\Raised E (fun _=>none) σ/\∀key∈dL rs (k+1),∃x,σ key=some x):=by rw[qC _ _ hlt];exact HI
  clear HI;go_wp2;go_roundw;case rel=>exact⟨k+1,by omega,by go_num,HB,HI5⟩
  simp[intOf]<;>omega
 obtain rfl:k=rs.length:=by omega
 obtain⟨σ,n,hR,hZ,hn,hRa,hall⟩:=HI.out;have cS:=hR.cS;have HP:O (Rq (ai rs) w (.returned (.tuple #[.map (some bS),.bool true])) wr):=by
  rw[HEN.out]at hall;refine⟨.inl ⟨bS,n,σ,rfl,hR.map,GU HE.out HF.out hZ hall (fun k=>hRa.done k (.inl (fun x h=>by cases h))),fun k=>⟨fun⟨x,hx⟩=>(hZ.there k x hx).1,hall k⟩⟩,HB.out⟩
 clear hR hZ hn hRa hall HI;go_wp2;refine bodyPost_ret (v:=.tuple #[.map (some bS),.bool true]) ?_ rfl HP.out;simp[results,Tryz.results186,go_sem]
def OG(ng:Bool)(xs:Q0a):dB ng xs=(dV xs).map fun a=>(⟨a.t,a.s,ng⟩:Dp):=by
 induction xs with
 | nil=>rfl
 | cons a xs ih=>simp only[dB,dV];split<;>simp[ih]
def Fw(ts:Q0b)(typ:dw)(ng:Bool)(e:Ex)(hn:aD e=true)(hd:e.kind=3->bQ (aH ts typ e.over)=true):dB ng e.allow++mh ts typ ng e=(jR ts typ e).map fun a=>(⟨a.t,a.s,ng⟩:Dp):=by
 by_cases h1:e.kind=1
 ·unfold mh jR;rw[if_neg cq,if_neg cq,if_pos h1,YB,OG]
 rw[vS hn h1];unfold mh jR;rw[if_neg h1];by_cases h2:e.kind=2
 ·rw[if_pos h2,if_pos h2];rfl
 rw[if_neg h2,if_neg h2];by_cases h3:e.kind=3
 ·rw[if_pos h3,if_pos h3];unfold ic;rw[if_pos (hd h3),List.map_map];rfl
 rw[if_neg h3,if_neg h3];rfl
def Fx{ts:Q0b}{typ:ByteArray}{es:Q09}{d:Dp}{i:Nat}(hd:d∈iN ts typ es i):∀{k:Nat},i<k->d∈aY ts typ es k
 | 0,h=>cq
 | k+1,h=>by
  simp only[aY];by_cases e:i=k
  ·subst e;exact XV.2<|.inr hd
  exact XV.2<|.inl<|Fx hd cq
def Cz{ts:Q0b}{t r:ByteArray}{es:Q09}{x:Ky×St}:∀{k:Nat},x∈relE ts t r es k ↔ ∃i,i<k/\∃e,es[i]?=some e/\x∈Cy ts t r ((dK es).getD i false) e
 | 0=>by simp[relE]
 | k+1=>by
  simp only[relE,XV];rw[Cz];constructor
  ·rintro(⟨i,hi,h⟩|h)
   ·exact⟨i,cq,h⟩
   cases e:es[k]? with
   | none=>rw[e]at h;cases h
   | some y=>rw[e]at h;exact⟨k,cq,y,e,h⟩
  rintro⟨i,hi,e,he,h⟩;by_cases ek:i=k
  ·subst ek;right;rw[he];exact h
  exact .inl ⟨i,cq,e,he,h⟩
def qI{rs:Q06}(h:bz (ai rs)=true){t:TR}(ht:t∈rs){q:RR}(hq:q∈t.rows):fI (ai rs) t.name q.name=some (au q.rows):=by
 have hT:=qE h;have hs:=uJ (M:=fun _=>none) (rs:=rs) (k:=(t.name,q.name)) (.inr ⟨t,ht,q,hq,rfl⟩);obtain⟨v,hv⟩:=Option.isSome_iff_exists.1 hs;obtain⟨t',ht',q',hq',e,-,e2,-⟩:=hT.yes _ v hv;injection e with e3 e4;have h1:t=t':=IX h ht ht' e3;subst h1;obtain⟨i,hi,rfl⟩:=Yu.1 ht;have h2:q=q':=IY (kW h i hi).2.2 hq hq' e4;subst h2;exact e2
def iY{es:Q09}(h:aS es=true):∀e∈es,aD e=true:=by
 simp only[aS,XN]at h;exact XY.1 h.1.1.1.2
def Ji(t r:dw)(ng:Bool):stepOf ⟨t,r,ng⟩=zI ng:=by cases ng<;>rfl
def Uo{rs:Q06}(h:bz (ai rs)=true)(hr:jd (ai rs)=true):Edge (ai rs) (jT (ai rs) rs):=by
 have YX:∀t∈rs,∀q∈t.rows,∀e∈au q.rows,aD e=true/\(e.kind=3->bQ (aH (ai rs) t.name e.over)=true):=by
  intro t ht q hq e he;have h1:=((bI h).2.2 t ht q hq).1;refine⟨iY h1 e he,fun h3=>?_⟩;unfold jd at hr;rw[XY]at hr;have h2:=hr t.p<|Yn ht;unfold rU at h2;rw[XY]at h2;have h4:bi (ai rs) t.name (au q.rows)=true:=h2 q.p<|Yn hq;have h5:=(EY h4 e he).2;unfold mF at h5;rw[if_neg cq,if_pos h3,XN]at h5;exact h5.1
 intro on t0 r0 s;constructor
 ·intro hm;unfold jT jS at hm;rw[XZ]at hm;obtain⟨t,ht,hm⟩:=hm;rw[XZ]at hm;obtain⟨q,hq,hm⟩:=hm;obtain⟨i,hi,e,he,hm⟩:=Cz.1 hm;unfold Cy at hm;obtain⟨a,ha,e1⟩:=XW.1 hm;injection e1 with e2 e3;injection e3 with e4 e5 e6;subst e4;subst e5;refine⟨rV.2 ⟨t.p,Yn ht,q.p,Yn hq,rfl⟩,⟨a.t,a.s,(dK<|au q.rows).getD i false⟩,?_,e2,by rw[Ji];exact e6⟩;unfold iP q8;have ero:aH (ai rs) t.name q.name=au q.rows:=by unfold aH;rw[qI h ht hq];rfl
  simp only[ero];have hi2:i<(au q.rows).length:=(List.getElem?_eq_some_iff.1 he).1;refine Fx (i:=i) ?_ hi2;unfold iN;rw[he];obtain⟨n1,n2⟩:=YX t ht q hq e<|YR he;simp only;rw[Fw _ _ _ _ n1 n2];exact Yn (f:=fun a:Al=>(⟨a.t,a.s,(dK<|au q.rows).getD i false⟩:Dp)) ha
 rintro⟨hk,d,hd,e1,e2⟩;obtain⟨t',ht',r',hr',e3⟩:=rV.1 hk;obtain⟨t,ht,rfl⟩:=XW.1 ht';obtain⟨q,hq,rfl⟩:=XW.1 hr';injection e3 with e4 e5;subst e4;subst e5;unfold iP q8 at hd;have ero:aH (ai rs) t.p.name q.p.name=au q.rows:=by
  have:=qI h ht hq;show aH (ai rs) t.name q.name=_;unfold aH;rw[this];rfl
 simp only[ero]at hd;obtain⟨i,hi,hd⟩:=vG hd;unfold iN at hd;split at hd
 ·cases hd
 rename_i e he;obtain⟨n1,n2⟩:=YX t ht q hq e<|YR he;have hdn:dB ((dK<|au q.rows).getD i false) e.allow++mh (ai rs) t.p.name ((dK<|au q.rows).getD i false) e=_:=Fw (ai rs) t.name _ e n1 n2;rw[hdn]at hd;obtain⟨a,ha,rfl⟩:=XW.1 hd;unfold jT jS;rw[XZ];refine⟨t,ht,?_⟩;rw[XZ];refine⟨q,hq,Cz.2 ⟨i,by rw[aX]at hi;exact hi,e,he,?_⟩⟩;unfold Cy;rw[XW];refine⟨a,ha,?_⟩;rw[<-e1,<-e2,Ji];rfl
def Rt{rs:Q06}(h:bz (ai rs)=true):∀r∈rs,∀q∈r.rows,∀e∈q.rows,e.e.allow.length<=6:=by
 intro r hr q hq e he;have h1:=iY ((bI h).2.2 r hr q hq).1 e.e (by unfold au;exact Yn he);by_cases h2:e.e.kind=1
 ·unfold aD at h1;rw[if_pos h2]at h1;simp only[XN,fo,XU]at h1;exact h1.1.1.1.1.2
 rw[vS h1 h2];simp
def sj{α β:Type}(f:α->List β)(B:Nat):∀(xs:List α),(∀x∈xs,(f x).length<=B)->(xs.flatMap f).length<=xs.length*B
 | [],_=>ct
 | x::xs,h=>by
  rw[Ym,XT,Yh,Nat.succ_mul];have h1:=h x ct;have h2:=sj f B xs fun q hq=>h q (by simp[hq]);omega
def OH(rs:Q06)(h6:∀r∈rs,r.rows.length<=6)(hex:∀r∈rs,∀q∈r.rows,aS (au q.rows)=true/\q.rows.length<=15/\∀e∈q.rows,fE q.rows.length e.e.kids)(h66:∀r∈rs,∀q∈r.rows,∀e∈q.rows,e.e.allow.length<=6)(hl:rs.length<=6:=by omega):(jT (ai rs) rs).length<=100000:=by
 have h1:∀t∈rs,(jS (ai rs) t.name t.rows).length<=540:=by
  intro t ht;have h2:∀q∈t.rows,(relE (ai rs) t.name q.name (au q.rows) q.rows.length).length<=90:=by
   intro q hq;have h3:∀k,k<=q.rows.length->(relE (ai rs) t.name q.name (au q.rows) k).length<=k*6:=by
    intro k
    induction k with
    | zero=>intro _;simp[relE]
    | succ k ih =>
     intro hk;rw[Fs _ _ _ _ _ cq _ rfl,XT];have h4:=ih cq;have h5:(Cy (ai rs) t.name q.name ((dK<|au q.rows).getD k false) q.rows[k].e).length<=6:=by
      unfold Cy;rw[Yp];exact Fu rs h66 _ _<|h66 t ht q hq _<|XI cq
     omega
   have h4:=h3 q.rows.length<|XK _;have h5:=(hex t ht q hq).2.1;omega
  have h3:=sj (fun q:RR=>relE (ai rs) t.name q.name (au q.rows) q.rows.length) 90 t.rows h2;have h4:=h6 t ht;unfold jS;omega
 have h2:=sj (fun t:TR=>jS (ai rs) t.name t.rows) 540 rs h1;unfold jT;omega
set_option linter.unusedVariables false
set_option maxRecDepth 100000
def VW(ts:Q0b)(w:World)(e:Ending)(w':World):Prop :=
 ((∃(b n:Nat) (σ:Ky->Option Int),e=.returned (.tuple #[.map (some b),.bool true])/\cz ts/\aL eD prog 146 w' b n (jD σ)/\Least ts (fun k=>(σ k).getD 0)/\∀k,(∃x,σ k=some x)↔k∈ay ts)\/(e=.returned (.tuple #[.map none,.bool false])/\¬cz ts))/\ae w w'
def kY:∀ts:List Tp,(fA ts).length<=2*ts.length:=by
 have key:∀(ts:Q05) (xs:Q0a),(ts.foldl je xs).length<=xs.length+2*ts.length:=by
  intro ts
  induction ts with
  | nil=>intro xs;simp
  | cons t ts ih =>
   intro xs;have h1:=ih<|je xs t;have h2:=rY xs t;simp only[List.foldl_cons,Yh];omega
 intro ts;have:=key ts [];simpa[fA] using this
def jI:∀ts:List Tp,(dA ts).length<=ts.length:=by
 have key:∀(ts:Q05) (xs:Q0a),(ts.foldl dQ xs).length<=xs.length+ts.length:=by
  intro ts
  induction ts with
  | nil=>intro xs;simp
  | cons t ts ih =>
   intro xs;have h1:=ih<|dQ xs t;have h2:=rZ xs t;simp only[List.foldl_cons,Yh];omega
 intro ts;have:=key ts [];simpa[dA] using this
def aQ(fit:Tp->Bool)(rs:Q06)(ts:Q05):Bool:=aN (ai rs)&&dW ts&&ts.all fit
def dP(f:Q00)(rs:Q06):List (KL×RR):=rs.flatMap fun t=>t.rows.map fun r=>((t.name,f (t.name,r.name)),r)
def ig(E:List<|KL×RR):Int:=E.foldl (fun m x=>max m<|x.1.2+1) 0
def Xf(fit:Tp->Bool)(rs:Q06)(ts:Q05)(w:World)(e:Ending)(w':World):Prop :=
 ae w w'/\((aQ fit rs ts=false/\e=.returned (.tuple #[.pointer none,.bool false])) \/
  (aQ fit rs ts=true/\∃ (D br bp bt nr np:Nat) (Mr:KL->Option Value) (Mp:K3->Option Value) (vo vu:Value) (f:Q00),e=.returned (.tuple #[.pointer (some ⟨D,0,none⟩),.bool true])/\w.heap.size<=bt/\Least (ai rs) f /\
   DatA w' rs D br bp bt (ig<|dP f rs) nr Mr (dP f rs) (bB ts) (fA ts) (dA ts) np Mp vo vu))
def Rv{w:ag}{rs:Q06}{bt:Nat}(ht:aL eD prog 146 w bt 36<|qD rs)(hl:cW bt w):
  DatA (((w.alloc<|.map #[] 0).alloc<|.map #[] 0).alloc<|.cells #[.map (some bt),.int .i64 0,.map<|some w.heap.size,.map<|some<|w.heap.size+1,.slice none 0 0,.slice none 0 0] 194) rs (w.heap.size+2) w.heap.size (w.heap.size+1) bt 0 0 (fun _=>none) [] [] [] [] 0 (fun _=>none) (.slice none 0 0) (.slice none 0 0):=by
 obtain⟨w1,h1⟩:=eQx<|w.alloc<|.map #[] 0;obtain⟨w2,h2⟩:=eQx<|w1.alloc<|.map #[] 0;have s1:w1.heap.size=w.heap.size+1:=by rw[h1];simp
 have s2:w2.heap.size=w.heap.size+2:=by rw[h2];simp;omega
 rw[<-h1,<-h2];have b1:ae w w1:=by rw[h1];exact(XL _ _).alloc (XK _) _
 have b2:ae w1 w2:=by rw[h2];exact(XL _ _).alloc (XK _) _
 have b3:∀o,ae w2 (w2.alloc o):=fun o=>(XL _ _).alloc (XK _) _;have g1:GK w1 w.heap.size 0 (fun _=>none) []:=by rw[h1];exact G.grp_made w
 have g2:G.Grp rJ prog 273 29 6 Tp.row w2 (w.heap.size+1) 0 (fun _=>none) []:=by
  have:=G.grp_made (enc:=rJ) (P:=prog) (kt:=273) (et:=29) (sz:=6) (cl:=Tp.row) w1;rw[s1]at this;rw[h2];exact this
 rw[<-s2];refine⟨⟨cq,ct,⟨_,heap_alloc_new w2 _⟩,ct,ct,ct,ct,ct,ct,g2.below<|b3 _,World.ownsRow_nil _ _ _ _,World.ownsRow_nil _ _ _ _,fun g e=>by simp[Value.ownBlock]at e⟩,((ht.below b1).below b2).below<|b3 _,(g1.below b2).below<|b3 _,hl,cq⟩
def Rx{p:Tp->Bool}{ts:Q05}{k:Nat}(h:k<ts.length):(ts.take<|k+1).all p=((ts.take k).all p&&p ts[k]):=by
 rw[XM h,YQ];simp
def Uq{p:Tp->Bool}{ts:Q05}{k:Nat}(h:k<ts.length)(hp:p ts[k]=false):ts.all p=false:=by
 rw[List.all_eq_false];exact⟨_,XI h,by rw[hp];decide⟩
def xB{rs:Q06}(h6:rs.length<=6)(hr:∀r∈rs,r.rows.length<=6):(ay<|ai rs).length<=36:=by
 have key:∀l:List TR,(∀r∈l,r.rows.length<=6)->(ay<|ai l).length<=6*l.length:=by
  intro l
  induction l with
  | nil=>intro _;simp[ay,ai]
  | cons r l ih =>
   intro h;have h1:=ih fun q hq=>h q<|Yt _ hq;have h2:=h r ct;have e:ay (ai (r::l))=jN r.p++ay (ai l):=by simp[ay,ai]
   have e2:(jN r.p).length=r.rows.length:=by unfold jN;rw[Yp];exact tF _
   rw[e,XT,e2,Yh];omega
 have:=key rs hr;omega
def Ry{rs:Q06}{σ:Ky->Option Int}(hS:cz<|ai rs)(h6:rs.length<=6)(hr:∀r∈rs,r.rows.length<=6)(hL:Least (ai rs) fun k=>(σ k).getD 0)(hk:∀k,(∃x,σ k=some x)↔k∈ay (ai rs))(y:Ky):0<=(σ y).getD 0/\(σ y).getD 0<=36:=by
 refine⟨hL.sol.pos y,?_⟩;cases e:σ y with
 | none=>simp
 | some x =>
  have hy:y∈ay (ai rs):=(hk y).1 ⟨x,e⟩;obtain⟨g,hg,hb⟩:=hL.sol.few<|lK hS.2.1;have h1:=hL.low y hy g hg;have h2:=hb y hy;have h3:=xB h6 hr;simp only[e]at h1;omega
def yT(f:Ky->Int)(n:ByteArray)(r:RR):KL×RR:=((n,f (n,r.name)),r)
def OI(f:Ky->Int){rs:Q06}{k:Nat}(h:k<rs.length):dP f (rs.take<|k+1)=dP f (rs.take k)++rs[k].rows.map (yT f rs[k].name):=by
 unfold dP;rw[XM h,YE];simp[yT]
def Jj(E:List<|KL×RR)(x:KL×RR):ig (E++[x])=max (ig E) (x.1.2+1):=by simp[ig]
def RA:∃i,prog.info? 39=some i/\i.zero=some (.agg #[.string ⟨#[]⟩,.slice none 0 0])/\i.size=2/\i.bytes=40 :=
 info_parts (P:=prog) (e:=39) (z:=.agg #[.string ⟨#[]⟩,.slice none 0 0]) (size:=2) (bytes:=40) cw
def RB(u:ag):(zeroValue 34).run prog u=.ok (.slice none 0 0) u:=cw
def Ur(u:ag):(zeroValue 2).run prog u=.ok (.int .i64 0) u:=cw
def Fy{w:ag}{br nr:Nat}{Mr:KL->Option Value}{E:List<|KL×RR}(h:GK w br nr Mr E)(k:KL):w.ownsRow (br+1) 39 2 ((Mr k).getD<|.slice none 0 0) (G.lookL E k).length (G.flatG Uf<|G.lookL E k):=by
 rcases h.row k with⟨e,e2⟩|⟨v,e,ho⟩
 ·rw[e,e2];exact World.ownsRow_nil _ _ _ _
 rw[e];exact ho
def RD{w W w':ag}{D g:Nat}{y x0 x1 x2 x3 x4 x5:Value}(h:W.cell? (am D)=some y/\W.cell? (am g)=some x0/\W.cell? (ap g 1)=some x1/\W.cell? (ap g 2)=some x2/\W.cell? (ap g 3)=some x3/\W.cell? (ap g 4)=some x4/\W.cell? (ap g 5)=some x5/\D<W.heap.size/\g<W.heap.size/\ae w W)(hb:ae W w'):w'.cell? (am D)=some y/\w'.cell? (am g)=some x0/\w'.cell? (ap g 1)=some x1/\w'.cell? (ap g 2)=some x2/\w'.cell? (ap g 3)=some x3/\w'.cell? (ap g 4)=some x4/\w'.cell? (ap g 5)=some x5/\D<w'.heap.size/\g<w'.heap.size/\ae w w':=by
 obtain⟨h0,g0,g1,g2,g3,g4,g5,hn,hm,hB⟩:=h;have hc:∀o,w'.cell? (ap D o)=W.cell? (ap D o):=fun o=>hb.cell (p:=⟨D,o,none⟩) hn;have hd:∀o,w'.cell? (ap g o)=W.cell? (ap g o):=fun o=>hb.cell (p:=⟨g,o,none⟩) hm;exact⟨(hc _).trans h0,(hd _).trans g0,(hd _).trans g1,(hd _).trans g2,(hd _).trans g3,(hd _).trans g4,(hd _).trans g5,XJ hn hb.size,XJ hm hb.size,hB.trans<|hb.mono hB.size⟩
def CB(fit:Tp->Bool)(ad:Q02)(cap:Nat)(rs:Q06)(Y8:Q02)(cap':Nat)(ts:Q05)(w:ag)(hlen:rs.length<=1048576)(hs:kI w ad rs)(hl:∀r∈rs,r.light)(hfr:∀r∈rs,r.fits)(hC:Calls prog 112 #[.slice ad rs.length cap] w<|VW (ai rs) w)(hfb:aN (ai rs)=true->∀t:Tp,t.ok=true->zF (ai rs) t.a t.r ⟨t.c,t.s⟩=fit t)(hlt:ts.length<=1048576)(hst:Sl w Y8 ts)(hft:∀x∈ts,x.fits):
  Calls prog 55 #[.slice ad rs.length cap,.slice Y8 ts.length cap'] w (Xf fit rs ts w):=by
 have HS:=aJ hs;have HL:=aJ hl;have HFR:=aJ hfr;have HST:=aJ hst;have Zd:=aJ hft;have HC:=aJ hC;have HFB:=aJ hfb;obtain⟨iR,i0,i1,i2,i3⟩:=RA;have Zk:=aJ<|And.intro i0<|And.intro i1<|And.intro i2 i3;clear i0 i1 i2 i3;have ZA:ts.length<=maxLen:=cy;clear hs hl hfr hC hfb hst hft;go_enter func55,ntmps55;go_wp2_with fail;refine HC.mono ?_;rintro e w1 ⟨hL,hb1⟩;have HB1:=aJ hb1;clear HC hb1;rcases hL with⟨bS,nS,σ,rfl,hS,hM,hLe,hk⟩|⟨rfl,hno⟩
 ·have HSD:O (aN (ai rs)=true):=bf.2 hS;have HM:=aJ hM;have ZH:=aJ hLe;have HKE:=aJ hk;have hSP:=hS;obtain⟨h6,hr6,-⟩:=bI hSP.1;have HTAB:=aJ<|qE hSP.1;have HR6:=aJ hr6;clear hM hLe hk hS hSP hr6;go_wp2_with fail;refine(yL Y8 cap' ts _ ZA (HST.below HB1) Zd).mono ?_;rintro e w2 ⟨he,hb2⟩;have HB2:=aJ<|HB1.trans<|hb2.mono HB1.size;have ZT:=aJ<|HM.below hb2;clear hb2 HM;cases h2:dW ts;case false=>
   rw[h2]at he;subst he;have HN:O (aQ fit rs ts=false):=by show _=_;unfold aQ;rw[h2];simp
   clear h2;go_wp2;exact bodyPost_ret (v:=.tuple #[.pointer none,.bool false]) (by simp[results,Tryz.results55,go_sem]) rfl ⟨HB2,.inl ⟨HN,rfl⟩⟩
  rw[h2]at he;subst he;have HTU:=aJ<|Ng h2;have HRB:O (aQ fit rs ts=ts.all (fit)):=by show _=_;unfold aQ;rw[h2,HSD];simp
  have h40:ts.length<=40:=HTU.2.2;have HTBL:=aJ<|zy ad cap rs w2 h6 (HS.below HB2) HR6 HFR;clear h2;go_wp2_with fail;refine HTBL.mono ?_;rintro e w3 ⟨rfl,hV3,hb3⟩;have HB3:=aJ<|HB2.trans<|hb3.mono HB2.size;have hbt:w2.heap.size<w3.heap.size:=hV3.lt;have hw2:w.heap.size<=w2.heap.size:=HB2.size;have HM3:=aJ<|ZT.below hb3;have HDN:=aJ<|Rv hV3 hbt;obtain⟨bt,hbte⟩:∃b,b=w2.heap.size:=⟨_,rfl⟩;obtain⟨br,hbre⟩:∃b,b=w3.heap.size:=⟨_,rfl⟩;rw[<-hbte]at HDN hbt hw2 ⊢;obtain⟨W,hW⟩:=eQx<|((w3.alloc<|.map #[] 0).alloc<|.map #[] 0).alloc<|.cells #[.map (some bt),.int .i64 0,.map<|some w3.heap.size,.map<|some<|w3.heap.size+1,.slice none 0 0,.slice none 0 0] 194;rw[<-hW]at HDN;have hmm:=@run_makeMap prog;have HBW0:O (ae w3 W):=by
   show Below _ _ _;rw[hW];exact(((XL _ _).alloc (XK _) _).alloc ct _).alloc (by simp;omega) _
  have HMW:=aJ<|HM3.below HBW0;have Y9:=aJ<|HB3.trans<|HBW0.mono HB3.size;have hbS:bS<br:=by rw[hbre];exact HM3.lt
  clear hb3 hV3 HTBL hbte;obtain⟨D,hDe⟩:∃b,b=br+2:=⟨_,rfl⟩;obtain⟨bp,hbpe⟩:∃b,b=br+1:=⟨_,rfl⟩;rw[<-hbre]at HDN;rw[<-hDe,<-hbpe]at HDN;have hDW:D<W.heap.size:=HDN.dat.lt;go_wp2_with fail;rw[<-hW,show w3.heap.size+1+1=D by omega,show w3.heap.size+1=bp by omega,<-hbre];have hwbr:w.heap.size<=br:=by rw[hbre];exact HB3.size
  have hbtr:bt<br:=by rw[hbre];exact hbt
  clear hbt;clear hbre hDe hbpe hW hmm HBW0;go_loopw[37] (fun i wr=>∃k:Nat,k<=ts.length/\i=.int .i64 (k:Int)/\O ((ts.take k).all (fit)=true)/\O (∃Mp vo vu,DatA wr rs D br bp bt 0 0 (fun _=>none) [] (bB<|ts.take k) (fA<|ts.take k) (dA<|ts.take k) k Mp vo vu)/\O (Below br W wr)) (fun i _=>ts.length-(intOf i).toNat);case atStart=>exact⟨0,XP _,rfl,rfl,⟨_,_,_,by simpa[bB,fA,dA] using HDN.out⟩,XL _ _⟩
  obtain⟨k,hk,rfl,Zl,HDA,HB⟩:=hrel;have HBwr:O (ae w wr):=Y9.trans<|HB.mono hwbr;by_cases hkl:k<ts.length
  ·rcases HST.out.below HBwr.out with hnil|⟨b,off,rfl,hb,hr⟩
   ·rw[hnil]at hkl;simp at hkl
   obtain⟨t0,t1,t2,t3,t4,t5⟩:=hr k hkl;have hk1:=bG k;have hk2:(k:Int)<(ts.length:Int):=cq;have HAT:=aJ<|Rx (p:=fit) hkl;have HAH:=aJ<|Uq (p:=fit) hkl;have HXF:=aJ<|Zd _<|XI hkl;have HXO:=aJ<|HTU.2.1 _<|XI hkl;have HTK:O (ts.take (k+1)=ts.take k++[ts[k]]):=XM hkl;obtain⟨x,hx⟩:=eQx<|ts[k];rw[<-hx]at t0 t1 t2 t3 t4 t5 HAT HAH HXF HXO HTK;obtain⟨W4,Zw⟩:=eQx<|wr.alloc<|.cells #[.string x.a,.string x.b,.string x.r,.string x.c,.string x.d,.string x.s] 29;have hb4:ae wr W4:=by rw[Zw];exact(XL _ _).alloc (XK _) _
   have hx4:yg W4 wr.heap.size x:=by rw[Zw];exact Gy wr x _
   obtain⟨Mp,vo,vu,hDA⟩:=HDA.out;have HD4:=aJ<|hDA.below hb4;have HX4:=aJ hx4;have HBw4:=aJ<|HBwr.trans<|hb4.mono HBwr.size;have ZX:=aJ (HB.trans<|hb4.mono (by have:=HB.size;have:=HDN.ord;have:=HDN.dat.gt;omega));have HLF:O (∀W',(fun w'=>w'.cell? ⟨D,0,none⟩=some (.map<|some bt)/\w'.cell? ⟨wr.heap.size,0,none⟩=some (.string x.a)/\w'.cell? ⟨wr.heap.size,1,none⟩=some (.string x.b)/\w'.cell? ⟨wr.heap.size,2,none⟩=some (.string x.r)/\w'.cell? ⟨wr.heap.size,3,none⟩=some (.string x.c)/\w'.cell? ⟨wr.heap.size,4,none⟩=some (.string x.d)/\w'.cell? ⟨wr.heap.size,5,none⟩=some (.string x.s)/\D<w'.heap.size/\wr.heap.size<w'.heap.size/\ae W4 w') W'->Calls prog 64 #[.map (some bt),.agg #[.string x.a,.string x.b,.string x.r,.string x.c,.string x.d,.string x.s]] W' fun e w'=>e=.returned (.bool<|fit x)/\ae W' w'):=fun W' hS'=>by
    have hb':=hS'.2.2.2.2.2.2.2.2.2;refine(Q4 bt 36 rs ad (qD rs) x.a x.b x.r x.c x.d x.s W' ((HD4.tab).below hb') HTAB (HS.below<|HBw4.trans<|hb'.mono HBw4.size) HL HXF.1 HXF.2.2.1).mono ?_;rintro e w6 ⟨rfl,hb6⟩;exact⟨by rw[HFB HSD x HXO],hb6⟩
   have H0:O ((fun w'=>w'.cell? ⟨D,0,none⟩=some (.map<|some bt)/\w'.cell? ⟨wr.heap.size,0,none⟩=some (.string x.a)/\w'.cell? ⟨wr.heap.size,1,none⟩=some (.string x.b)/\w'.cell? ⟨wr.heap.size,2,none⟩=some (.string x.r)/\w'.cell? ⟨wr.heap.size,3,none⟩=some (.string x.c)/\w'.cell? ⟨wr.heap.size,4,none⟩=some (.string x.d)/\w'.cell? ⟨wr.heap.size,5,none⟩=some (.string x.s)/\D<w'.heap.size/\wr.heap.size<w'.heap.size/\ae W4 w') W4.drew):=⟨HD4.dat.c0,hx4.1,hx4.2.1,hx4.2.2.1,hx4.2.2.2.1,hx4.2.2.2.2.1,hx4.2.2.2.2.2.1,HD4.dat.lt,hx4.2.2.2.2.2.2,(XL _ _).drew⟩;have ho40:=kY<|ts.take k;have hu40:=jI<|ts.take k;have hte:(bB<|ts.take k).length<=40:=by unfold bB;simp;omega
   have htl:(ts.take k).length<=40:=by rw[Yc];omega
   have HALK:=Zl;clear hr hx hx4 hDA hb4 HDA HB Zl;cases hfx:fit x;case false=>
    rw[hfx]at HLF;go_wp2_with fail;rw[<-Zw];clear Zw
    go_region_held3 (fun w'=>w'.cell? ⟨D,0,none⟩=some (.map<|some bt)/\w'.cell? ⟨wr.heap.size,0,none⟩=some (.string x.a)/\w'.cell? ⟨wr.heap.size,1,none⟩=some (.string x.b)/\w'.cell? ⟨wr.heap.size,2,none⟩=some (.string x.r)/\w'.cell? ⟨wr.heap.size,3,none⟩=some (.string x.c)/\w'.cell? ⟨wr.heap.size,4,none⟩=some (.string x.d)/\w'.cell? ⟨wr.heap.size,5,none⟩=some (.string x.s)/\D<w'.heap.size/\wr.heap.size<w'.heap.size/\ae W4 w')
     (first|assumption|exact RD cE hbx|exact H0)
     (first|(go_at_call 64;refine(HLF _ cE).mono ?_;rintro e w' ⟨rfl,hbx⟩))
    rename_i hH;have HBE:O (ae w _):=HBw4.trans<|hH.2.2.2.2.2.2.2.2.2.mono HBw4.size;have HN:O (aQ fit rs ts=false):=HRB.trans<|HAH hfx;clear hH;go_wp2;exact bodyPost_ret (v:=.tuple #[.pointer none,.bool false]) (by simp[results,Tryz.results55,go_sem]) rfl ⟨HBE,.inl ⟨HN,rfl⟩⟩
   rw[hfx]at HLF;go_wp2_with fail;rw[<-Zw];clear Zw
   go_region_held3 (fun w'=>w'.cell? ⟨D,0,none⟩=some (.map<|some bt)/\w'.cell? ⟨wr.heap.size,0,none⟩=some (.string x.a)/\w'.cell? ⟨wr.heap.size,1,none⟩=some (.string x.b)/\w'.cell? ⟨wr.heap.size,2,none⟩=some (.string x.r)/\w'.cell? ⟨wr.heap.size,3,none⟩=some (.string x.c)/\w'.cell? ⟨wr.heap.size,4,none⟩=some (.string x.d)/\w'.cell? ⟨wr.heap.size,5,none⟩=some (.string x.s)/\D<w'.heap.size/\wr.heap.size<w'.heap.size/\ae W4 w')
    (first|assumption|exact RD cE hbx|exact H0)
    (first|(go_at_call 64;refine(HLF _ cE).mono ?_;rintro e w' ⟨rfl,hbx⟩))
   rename_i hH;obtain⟨-,y0,y1,y2,y3,y4,y5,-,yl,hbH⟩:=hH;rename_i w5;have HD5:=aJ<|HD4.below hbH;have HBw5:=aJ<|HBw4.trans<|hbH.mono HBw4.size;have HBW5:=aJ (ZX.trans<|hbH.mono (by have:=HD4.ord;have:=HD4.dat.gt;have:=HD4.dat.lt;omega));have HALN:O ((ts.take<|k+1).all fit=true):=by show _=_;rw[HAT,HALK,hfx];rfl
   clear hbH;go_wp2_with fail;refine(Q9 D br bp _ 0 _ _ _ k Mp vo vu x _ HD5.dat cq cq cq cq HXF).mono ?_;rintro e w6 ⟨rfl,⟨Mp',vo',vu',hd6⟩,hb6⟩;have HDN6:O (∃Mp vo vu,DatA w6 rs D br bp bt 0 0 (fun _=>none) [] (bB<|ts.take<|k+1) (fA<|ts.take<|k+1) (dA<|ts.take<|k+1) (k+1) Mp vo vu):=by
    rw[HTK,La,Ck,zG];exact⟨Mp',vo',vu',HD5.tell hd6 hb6⟩
   have HBW6:O (Below br W w6):=HBW5.trans (hb6.mono (by have:=HD4.ord;omega));clear hd6 hb6;go_wp2;go_roundw;case rel=>exact⟨k+1,cq,cx,HALN,HDN6,HBW6⟩
   simp[intOf]<;>omega
  obtain rfl:k=ts.length:=cq;rw[X8]at Zl HDA;have HRT:O (aQ fit rs ts=true):=HRB.trans Zl;obtain⟨Mp,vo,vu,hDA⟩:=HDA.out;have HD0:=aJ hDA;obtain⟨f,hf⟩:∃f:Ky->Int,f=fun k=>(σ k).getD 0:=⟨_,rfl⟩;have HF:=aJ hf;have HLS:O (Least (ai rs) f):=by rw[hf];exact ZH
  have HF36:O (∀y,0<=f y/\f y<=36):=by rw[hf];exact Ry (bf.1 HSD) h6 HR6 ZH HKE
  obtain⟨wz,hwz⟩:=eQx wr;subst hwz;have hkk:decide ((ts.length:Int)<(ts.length:Int))=false:=ct;clear hDA HDA Zl hf ZH HTU HRB;go_wp2_with fail;go_loopw[54] (fun i wr=>∃k:Nat,k<=rs.length/\i=.int .i64 (k:Int)/\O ((dP f<|rs.take k).length<=6*k)/\O (∃nr Mr,nr<=6*k/\DatA wr rs D br bp bt (ig<|dP f<|rs.take k) nr Mr (dP f<|rs.take k) (bB ts) (fA ts) (dA ts) ts.length Mp vo vu)/\O (Below br W wr)) (fun i _=>rs.length-(intOf i).toNat);case atStart=>exact⟨0,XP _,rfl,XP _,⟨0,_,XP _,HD0⟩,HB⟩
  clear HD0 HB HBwr;obtain⟨k,hk,rfl,HEL,HDA,HB⟩:=hrel;have HBwr:O (ae w wr):=Y9.trans<|HB.mono hwbr;by_cases hkl:k<rs.length
  ·rcases HS.out.below HBwr.out with hnil|⟨b,off,rfl,hb,hr,hok⟩
   ·rw[hnil]at hkl;simp at hkl
   obtain⟨t0,t1⟩:=hr k hkl;have hk1:=bG k;have hk2:(k:Int)<(rs.length:Int):=cq;have h6k:rs[k].rows.length<=6:=HR6 _<|XI hkl;have z0:rs[k].name.size<=maxLen:=(HFR _<|XI hkl).1;have HFRk:O (∀q∈rs[k].rows,q.fits):=(HFR _<|XI hkl).2.2;have HSU:=aJ<|OI f hkl;obtain⟨W1,hW1⟩:=eQx<|wr.alloc<|.cells #[.string rs[k].name,.slice rs[k].ad rs[k].rows.length rs[k].cap] 36;have hal:ae wr W1:=by rw[hW1];exact(XL _ _).alloc (XK _) _
   obtain⟨nr,Mr,hnr,hDA⟩:=HDA.out;have HD1:=aJ<|hDA.below hal;have hbrz:br<wr.heap.size:=by have:=hDA.ord;have:=hDA.dat.gt;have:=hDA.dat.lt;omega
   have HB1:O (Below br W W1):=HB.trans<|hal.mono cq;have HT1:O (W1.heap[wr.heap.size]?=some (.cells #[.string rs[k].name,.slice rs[k].ad rs[k].rows.length rs[k].cap] 36 (0,0))):=by rw[hW1];exact heap_alloc_new wr _
   have a1:W1.cell? ⟨wr.heap.size,1,none⟩=some (.slice rs[k].ad rs[k].rows.length rs[k].cap):=by rw[hW1];simp
   clear hr hok hal hDA HDA;go_wp2_with fail;rw[<-hW1];clear hW1 t0 t1 a1 HB;obtain⟨wo,hwo⟩:=eQx wr;subst hwo;go_loopw[61] (fun i w2=>∃j:Nat,j<=rs[k].rows.length/\i=.int .i64 (j:Int)/\O (∃nr Mr,nr<=6*k+j/\DatA w2 rs D br bp bt (ig<|dP f (rs.take k)++(rs[k].rows.take j).map (yT f rs[k].name)) nr Mr (dP f (rs.take k)++(rs[k].rows.take j).map (yT f rs[k].name)) (bB ts) (fA ts) (dA ts) ts.length Mp vo vu)/\O (w2.heap[wo.heap.size]?=some (.cells #[.string rs[k].name,.slice rs[k].ad rs[k].rows.length rs[k].cap] 36 (0,0)))/\O (Below br W w2)) (fun i _=>rs[k].rows.length-(intOf i).toNat);case atStart=>exact⟨0,XP _,rfl,⟨nr,Mr,cq,by simpa using HD1.out⟩,HT1,HB1⟩
   clear HD1 HT1 HB1 HBwr;obtain⟨j,hj,rfl,HDA,HT,HB⟩:=hrel;have HBwr:O (ae w wr):=Y9.trans<|HB.mono hwbr;by_cases hjl:j<rs[k].rows.length
   ·rcases HS.out.below HBwr.out with hnil|⟨b',off',he,hb2,hr,hok⟩
    ·rw[hnil]at hkl;simp at hkl
    injection he with he;injection he with he1 he2;subst he1;subst he2;have ok:=hok rs[k]<|XI hkl;rcases ok with hnil|⟨b2,ZR,had,hbb,hr2,-⟩
    ·rw[hnil]at hjl;simp at hjl
    obtain⟨q0,q1⟩:=hr2 j hjl;have z1:rs[k].rows[j].name.size<=maxLen:=(HFRk _<|XI hjl).1;have hj1:=bG j;have hj2:(j:Int)<(rs[k].rows.length:Int):=cq;obtain⟨kl,hkl'⟩:=j5 (rs[k].name,rs[k].rows[j].name) z0 z1;have ZY:=aJ hkl';obtain⟨nr,Mr,hnr,hDA⟩:=HDA.out;have HTKE:O ((rs[k].rows.take<|j+1).map (yT f rs[k].name)=(rs[k].rows.take j).map (yT f rs[k].name)++[yT f rs[k].name rs[k].rows[j]]):=by show _=_;rw[XM hjl,YF];rfl
    have hEl:((rs[k].rows.take j).map<|yT f rs[k].name).length=j:=by rw[Yp,Yc];omega
    obtain⟨E0,hE0⟩:=eQx<|dP f (rs.take k)++(rs[k].rows.take j).map (yT f rs[k].name);have hE0l:E0.length<=36:=by rw[hE0,XT,hEl];have:=HEL.out;omega
    rw[<-hE0]at hDA;have HE0:=aJ hE0;obtain⟨fv,hfv⟩:=eQx<|f (rs[k].name,rs[k].rows[j].name);have hfv36:=HF36 (rs[k].name,rs[k].rows[j].name);rw[<-hfv]at hfv36;obtain⟨hfv0,hfv1⟩:=hfv36;have HFV:=aJ hfv;have HLK:O ((jD σ (rs[k].name,rs[k].rows[j].name)).getD (.int .i64 0)=.int .i64 fv):=by
     show _=_;rw[hfv,HF];unfold jD;cases h:σ (rs[k].name,rs[k].rows[j].name)<;>simp[h]
    obtain⟨W2,hW2⟩:=eQx<|wr.alloc<|.cells #[.string rs[k].rows[j].name,.slice rs[k].rows[j].ad rs[k].rows[j].rows.length rs[k].rows[j].cap] 39;obtain⟨W3,hW3⟩:=eQx<|W2.alloc<|.cells #[.string rs[k].name,.int .i64 fv] 197;have hs2:W2.heap.size=wr.heap.size+1:=by rw[hW2];simp
    have hs3:W3.heap.size=wr.heap.size+2:=by rw[hW3];simp;omega
    have hal2:ae wr W2:=by rw[hW2];exact(XL _ _).alloc (XK _) _
    have hal3:ae W2 W3:=by rw[hW3];exact(XL _ _).alloc (XK _) _
    have hwol:wo.heap.size<wr.heap.size:=by
     rcases Nat.lt_or_ge wo.heap.size wr.heap.size with h|h
     ·exact h
     have:=HT.out;rw[Array.getElem?_eq_none h]at this;cases this
    have HFRB:O (G.FreeB Mr wr.heap.size):=hDA.rel.fresh<|XK _;have ZT:O (aL eD prog 146 W2 bS nS<|jD σ):=HMW.of_block (by rw[hal2.block bS cq,HB.block bS hbS]);have HD3:=aJ<|(hDA.below hal2).below hal3;have HB3':O (Below br W W3):=(HB.trans<|hal2.mono cq).trans<|hal3.mono cq;have HT3:O (W3.heap[wo.heap.size]?=some (.cells #[.string rs[k].name,.slice rs[k].ad rs[k].rows.length rs[k].cap] 36 (0,0))):=by show _=_;rw[hal3.block _ cq,hal2.block _ cq];exact HT
    have c0:wr.cell? ⟨wo.heap.size,0,none⟩=some (.string rs[k].name):=by simp[World.cell?,HT.out]
    have c0b:W2.cell? ⟨wo.heap.size,0,none⟩=some (.string rs[k].name):=(hal2.cell (p:=⟨wo.heap.size,0,none⟩)<|by show wo.heap.size<_;omega).trans c0;have g0:W2.cell? ⟨wr.heap.size,0,none⟩=some (.string rs[k].rows[j].name):=by rw[hW2];simp
    have HR2:O (W3.cell? ⟨wr.heap.size,0,none⟩=some (.string rs[k].rows[j].name)/\W3.cell? ⟨wr.heap.size,1,none⟩=some (.slice rs[k].rows[j].ad rs[k].rows[j].rows.length rs[k].rows[j].cap)/\W3.cell? ⟨wr.heap.size+1,0,none⟩=some (.string rs[k].name)/\W3.cell? ⟨wr.heap.size+1,1,none⟩=some (.int .i64 fv)):=by
     show _/\_;rw[hW3,hW2];refine⟨?_,?_,?_,?_⟩<;>simp
    rw[had];clear hr hok hr2 hkl' hDA HDA hal2 hal3 HT HB hE0 hfv hEl;go_wp2_with(first|(at_lookup;rw[<-hW2];refine jZ _ rfl _ _ 169 rfl 146 2 ji underlying169 (Ur _) bS nS (jD σ) rfl ZT (rs[k].name,rs[k].rows[j].name) kl rfl ZY ?_;rw[HLK]));rw[<-hW2,<-hW3];clear hW2 hW3 g0 c0b c0 q0 q1 HLK ZT;obtain⟨row0,hr0⟩:∃r,r=(Mr (rs[k].name,fv)).getD (.slice none 0 0):=⟨_,rfl⟩;obtain⟨nn,hnn⟩:∃n,n=(G.lookL E0 (rs[k].name,fv)).length:=⟨_,rfl⟩;obtain⟨xs,hxs⟩:∃x,x=G.flatG Uf (G.lookL E0 (rs[k].name,fv)):=⟨_,rfl⟩;have HR0:=aJ hr0;have HNN:=aJ hnn;have HXS:=aJ hxs;have hnl:nn<=36:=by rw[hnn];exact XR (YM _ _) hE0l
    have Z0:O (∀W0:World,ae W3 W0->W0.ownsRow (br+1) 39 2 row0 nn xs):=fun W0 hb=>by rw[hr0,hnn,hxs];exact Fy (HD3.rel.below hb) _
    have HKEY:O (∃kl,keyOf prog 197 (Io (rs[k].name,fv))=some kl):=M8 _ z0 hfv0 (by show fv<=1000000;omega);have hDl:D<W3.heap.size:=HD3.dat.lt;have hbrD:br<D:=by have:=HD3.ord;have:=HD3.dat.gt;omega
    clear hr0 hnn hxs;obtain⟨C2,hC2⟩:∃C:Nat->Value,C=fun n=>(Value.pointer (some ⟨D,0,none⟩)::.pointer (some ⟨D,0,none⟩)::.pointer (some ⟨D,2,none⟩)::.map (some br)::.agg #[.string rs[k].name,.int .i64 fv]::.agg #[.string rs[k].rows[j].name,.slice rs[k].rows[j].ad rs[k].rows[j].rows.length rs[k].rows[j].cap]::[]).getD n undef:=⟨_,rfl⟩;have ZM:O (C2 0=Value.pointer (some ⟨D,0,none⟩)/\C2 1=Value.pointer (some ⟨D,0,none⟩)/\C2 2=Value.pointer (some ⟨D,2,none⟩)/\C2 3=Value.map (some br)/\C2 4=Value.agg #[.string rs[k].name,.int .i64 fv]/\C2 5=Value.agg #[.string rs[k].rows[j].name,.slice rs[k].rows[j].ad rs[k].rows[j].rows.length rs[k].rows[j].cap]):=by show _/\_;rw[hC2];exact⟨rfl,rfl,rfl,rfl,rfl,rfl⟩
    clear hC2;refine qY 11 _ _ (G.EI C2 #[.string rs[k].rows[j].name,.slice rs[k].rows[j].ad rs[k].rows[j].rows.length rs[k].rows[j].cap] 39 2 W3 br row0 nn xs<|G.Back Io prog 197 190 br nr Mr (rs[k].name,fv)) cw rfl cw cw (H7 [(76,[0,1,2,3,4,8,5,6,7,9,10])]) (G.ei_start W3) ?stepA ?finA<;>dsimp only[Et];case stepA =>
     rintro i hi o ho l fq w' hli hI hpre;have HI:=aK hI;have Zf:O (∀e∈o.after,Region.binds .any e=true->l e.on=true):=hpre;clear hI hpre;have hc:=P9 (i:=i) cq;clear hi
     repeat' rcases hc with rfl|hc
     ·cases ho;have hA:=HI.early (i:=0) cq hli;clear Zf HI;refine af rfl fun K HK=>?_;go_simp;exact HK _ _ ⟨Value.pointer<|some ⟨D,0,none⟩,by simp[upd, *],hA.put cq ZM.1.symm⟩
     ·cases ho;have hA:=HI.early (i:=1) cq hli;have e0:=(hA.val 0 cq<|Zf ⟨0,.data⟩ ct rfl).trans ZM.1;clear Zf HI;refine af rfl fun K HK=>?_;simp only[e0];go_simp;exact HK _ _ ⟨Value.pointer<|some ⟨D,0,none⟩,by simp[upd, *],hA.put cq ZM.2.1.symm⟩
     ·cases ho;have hA:=HI.early (i:=2) cq hli;have e1:=(hA.val 1 cq<|Zf ⟨1,.data⟩ ct rfl).trans ZM.2.1;clear Zf HI;refine af rfl fun K HK=>?_;simp only[e1];go_simp;exact HK _ _ ⟨Value.pointer<|some ⟨D,2,none⟩,by simp[upd, *],hA.put cq ZM.2.2.1.symm⟩
     ·cases ho;have hA:=HI.early (i:=3) cq hli;have e2:=(hA.val 2 cq<|Zf ⟨2,.data⟩ ct rfl).trans ZM.2.2.1;have hb':=hA.bel;have d2:=(hb'.cell (p:=⟨D,2,none⟩) hDl).trans HD3.dat.c2;clear Zf HI;refine af rfl fun K HK=>?_;simp only[e2];go_simp;exact HK _ _ ⟨Value.map<|some br,by simp[upd, *],hA.put cq ZM.2.2.2.1.symm⟩
     ·cases ho;have hA:=HI.early (i:=4) cq hli;have hb':=hA.bel;have k0:=(hb'.cell (p:=⟨wr.heap.size+1,0,none⟩)<|by show wr.heap.size+1<_;omega).trans HR2.2.2.1;have k1:=(hb'.cell (p:=⟨wr.heap.size+1,1,none⟩)<|by show wr.heap.size+1<_;omega).trans HR2.2.2.2;clear Zf HI;refine af rfl fun K HK=>?_;go_simp;exact HK _ _ ⟨Value.agg #[.string rs[k].name,.int .i64 fv],by simp[upd, *],hA.put cq ZM.2.2.2.2.1.symm⟩
     ·cases ho;have hA:=HI.early (i:=5) cq hli;have hb':=hA.bel;have k0:=(hb'.cell (p:=⟨wr.heap.size,0,none⟩)<|by show wr.heap.size<_;omega).trans HR2.1;have k1:=(hb'.cell (p:=⟨wr.heap.size,1,none⟩)<|by show wr.heap.size<_;omega).trans HR2.2.1;clear Zf HI;refine af rfl fun K HK=>?_;go_simp;exact HK _ _ ⟨Value.agg #[.string rs[k].rows[j].name,.slice rs[k].rows[j].ad rs[k].rows[j].rows.length rs[k].rows[j].cap],by simp[upd, *],hA.put cq ZM.2.2.2.2.2.symm⟩
     ·cases ho;have hA:=HI.early (i:=6) cq hli;have e5:=(hA.val 5 cq<|Zf ⟨5,.data⟩ ct rfl).trans ZM.2.2.2.2.2;clear Zf HI;refine af rfl fun K HK=>?_;simp only[e5];go_simp;exact HK _ _ ⟨_,by simp[upd,e5],hA.lay⟩
     ·cases ho;have hA:=HI.early (i:=7) cq hli;have e3:=(hA.val 3 cq<|Zf ⟨3,.data⟩ ct rfl).trans ZM.2.2.2.1;have e4:=(hA.val 4 cq<|Zf ⟨4,.data⟩ ct rfl).trans ZM.2.2.2.2.1;have hall:∀k,k<=6->l k=true:=fun k hk=>by
       have hc:=WL (i:=k) cq
       repeat' rcases hc with rfl|hc
       ·exact Zf ⟨0,.phase⟩ ct rfl
       ·exact Zf ⟨1,.phase⟩ ct rfl
       ·exact Zf ⟨2,.phase⟩ ct rfl
       ·exact Zf ⟨3,.phase⟩ ct rfl
       ·exact Zf ⟨4,.phase⟩ ct rfl
       ·exact Zf ⟨5,.phase⟩ ct rfl
       exact Zf ⟨6,.phase⟩ ct rfl
      have hD':=HD3.below hA.bel;obtain⟨kl2,hkl2⟩:=HKEY.out;obtain⟨st,w1',hrun,hg,hback⟩:=hD'.rel.map.entry QD QC underlying190 RB cy hkl2;rw[<-HR0]at hrun;have hrun':(Instr.mapEntry 190 (.map<|some br)<|Value.agg #[.string rs[k].name,.int .i64 fv]).run prog w'=.ok (.tuple #[row0,goInt st]) w1':=hrun;clear Zf HI;refine af rfl fun K HK=>?_;simp only[e3,e4];go_simp;exact HK _ _ ⟨_,by simp[upd,e3,e4,goInt],hA.took hall hg hback⟩
     ·cases ho;have h7:=Zf ⟨7,.data⟩ ct rfl;have hB:=HI.midB h7 (i:=8) cq hli;obtain⟨st,e7⟩:=HI.seven h7;clear Zf HI;refine af rfl fun K HK=>?_;simp only[e7];go_simp;exact HK _ _ ⟨_,by simp[upd,e7,goInt],hB.first⟩
     ·cases ho;have h7:=Zf ⟨7,.chain⟩ ct rfl;have h8:=Zf ⟨8,.data⟩ ct rfl;have hB:=HI.midB h7 (i:=9) cq hli;obtain ⟨W0,st,g,hm1,hm2,hm3,hm4,hm5,e7,hm7,hm8,hm9⟩:=hB.mid;have e8:=hm8 h8;have hown:=(Z0 W0 hm1).kept hm5 (by
       rcases h:row0.ownBlock with _|g'
       ·exact .inl rfl
       right;intro e;injection e with e;have:=((Z0 W0 hm1).lt g' h).1;omega)
      have hnew:w'.heap[g]?=some (.cells #[.string rs[k].rows[j].name,.slice rs[k].rows[j].ad rs[k].rows[j].rows.length rs[k].rows[j].cap] 39 (0,0)):=by
       have hgl:g<W0.heap.size:=by
        rcases Nat.lt_or_ge g W0.heap.size with h|h
        ·exact h
        rw[Array.getElem?_eq_none h]at hm4;cases hm4
       rw[hm5.block g hgl (fun e=>by injection e with e;omega)];exact hm4
      clear Zf HI;refine lZ w' rfl rfl _ _ 34 rfl (br+1) 39 iR _ 2 40 underlying34 Zk.1 Zk.2.1 Zk.2.2.1 Zk.2.2.2 rfl cv row0 nn xs (by simp[Act.eval,e8]) hown ⟨g,0,none⟩ 1 1 [Value.string rs[k].rows[j].name,.slice rs[k].rows[j].ad rs[k].rows[j].rows.length rs[k].rows[j].cap] (by simp[Act.eval,hm2]) rfl (fun j u hu=>news_of_block hnew j u hu) (by simp[Value.oneCell']) cy cq (by have:=hm5.size;have:=hm1.size;omega) ?_;intro v' w2' hown2 ZP hloc2;exact⟨v',by simp[upd,Act.put],hB.app h8 ZP hown2 hloc2⟩
     cases ho;have h7:=Zf ⟨7,.data⟩ ct rfl;obtain⟨st,e7⟩:=HI.seven h7;have HI2:=HI.second h7 e7;clear Zf HI;refine af rfl fun K HK=>?_;simp only[e7];go_simp;exact HK _ _ ⟨_,by simp[upd,e7,goInt],HI2⟩
    case finA =>
     rintro o ho l fq w' hall hI;obtain rfl:=Option.some.inj ho;have hC:=hI.last hall;obtain⟨W0,w1',st,hm1,hm2,hm3,hm4,hm5,hm6,-,hm8⟩:=hC.mid;have e10:=hm8<|hall 10 cq;have e3:=(hC.val 3 cq).trans ZM.2.2.2.1;obtain⟨w7,hrun,hM3,hg3⟩:=hm6 w' (fq 9) (hm3.block br (by have:=hm2.size;have:=hm1.size;omega) (fun e=>by have:=(Z0 W0 hm1).lt br e.symm;omega));have hst:=(HD3.rel.below hm1).step (y:=(rs[k].name,fv)) (s:=rs[k].rows[j]) hm2 (by rw[<-HNN,<-HXS];exact hm4) (by rw[<-HR0];exact hm3) (by rw[<-HR0];exact hm5) hg3 hM3;have HD7:=aJ<|(HD3.below hm1).list hst.1 hst.2;have HB7:O (Below br W w7):=by
      have b0:Below br W W0:=HB3'.trans<|hm1.mono cq;have b1:Below br W w1':=b0.grown hm2 (by have:=hm1.size;omega) (fun i hi=>by injection hi with hi;omega);have b2:Below br W w':=b1.grown hm3 (by have:=hm2.size;have:=hm1.size;omega) (fun i hi=>by have:=((Z0 W0 hm1).lt i hi).1;omega);exact b2.grown hg3 (by have:=hm3.size;have:=hm2.size;have:=hm1.size;omega) (fun i hi=>by injection hi with hi;omega)
     have HT7:O (w7.heap[wo.heap.size]?=some (.cells #[.string rs[k].name,.slice rs[k].ad rs[k].rows.length rs[k].cap] 36 (0,0))):=by
      show _=_;have h0:W0.heap[wo.heap.size]?=_:=(hm1.block wo.heap.size cq).trans HT3;rw[hst.2.block wo.heap.size (by have:=hm1.size;omega) cq (tV (HD3.rel.below hm1) h0 cv)];exact h0
     have hrun2:(Instr.entryStore 190 (.map<|some br) (.int .i64 st)<|fq 9).run prog w'=.ok () w7:=hrun;obtain⟨Mn,hMn⟩:∃M,M=iw Mr (rs[k].name,fv) (some<|fq 9):=⟨_,rfl⟩;rw[<-hMn]at HD7;refine af rfl fun K HK=>?_;simp only[e3,e10];go_simp;refine HK _ _ ?_;obtain⟨n0,hn0⟩:∃n,n=ig E0:=⟨_,rfl⟩;have HN0:=aJ hn0;rw[<-hn0]at HD7;have d1:=HD7.dat.c1;have fz:=fun o=>jE HD7.dat.kind.choose_spec o;have hDw:=HD7.dat.lt;clear hst hrun hrun2 hM3 hg3 hm1 hm2 hm3 hm4 hm5 hm6 hm8 hC hI hall ho HK K e3 e10 HD3 HT3 HB3' Z0 ZM HKEY hMn HR0 HNN HXS HR2 HFRB hn0 hDl hbrD;obtain⟨w8,hw8⟩:∃x,x=w7.setCell ⟨D,1,none⟩ (Value.int .i64<|max n0<|fv+1):=⟨_,rfl⟩;have HEQ:O (dP f (rs.take k)++(rs[k].rows.take<|j+1).map (yT f rs[k].name)=E0++[((rs[k].name,fv),rs[k].rows[j])]):=by show _=_;rw[HTKE,<-Ye,<-HE0];unfold yT;rw[<-HFV]
     have HD8:O (∃nr Mr,nr<=6*k+(j+1)/\DatA w8 rs D br bp bt (ig<|dP f (rs.take k)++(rs[k].rows.take<|j+1).map (yT f rs[k].name)) nr Mr (dP f (rs.take k)++(rs[k].rows.take<|j+1).map (yT f rs[k].name)) (bB ts) (fA ts) (dA ts) ts.length Mp vo vu):=by
      rw[HEQ,Jj,<-HN0,hw8];exact⟨nr+1,Mn,cq,HD7.count<|max n0<|fv+1⟩
     have HT8:O (w8.heap[wo.heap.size]?=some (.cells #[.string rs[k].name,.slice rs[k].ad rs[k].rows.length rs[k].cap] 36 (0,0))):=by
      show _=_;rw [hw8,heap_setCell_other w7 ⟨D,1,none⟩ wo.heap.size _ (fun e=>by
       have e':wo.heap.size=D:=e;have h1:=HT7.out;obtain⟨cur,h2⟩:=HD7.dat.kind;rw[e',h2]at h1;injection h1 with h1;injection h1 with _ h3;exact absurd h3 cv)]
      exact HT7
     have HB8:O (Below br W w8):=by show Below _ _ _;rw[hw8];exact HB7.setCell (by show br<=D;have:=HD7.ord;have:=HD7.dat.gt;omega) _
     rw[had]at HT8;clear HD7 HT7 HB7;go_wp2;rw[<-hw8];go_roundw;case rel=>exact⟨j+1,cq,cx,HD8,HT8,HB8⟩
     simp[intOf]<;>omega
   obtain rfl:j=rs[k].rows.length:=cq;have HDN2:O (∃nr Mr,nr<=6*(k+1)/\DatA wr rs D br bp bt (ig<|dP f<|rs.take<|k+1) nr Mr (dP f<|rs.take<|k+1) (bB ts) (fA ts) (dA ts) ts.length Mp vo vu):=by
    obtain⟨nr,Mr,hnr,hDA⟩:=HDA.out;rw[X8]at hDA;rw[HSU];exact⟨nr,Mr,cq,hDA⟩
   have HEL2:O ((dP f<|rs.take<|k+1).length<=6*(k+1)):=by
    show _<=_;rw[HSU,XT,Yp];have:=HEL.out;omega
   clear HDA HT;go_wp2;go_roundw;case rel=>exact⟨k+1,cq,cx,HEL2,HDN2,HB⟩
   simp[intOf]<;>omega
  obtain rfl:k=rs.length:=cq;rw[X8]at HDA;obtain⟨nr,Mr,-,hDA⟩:=HDA.out;have HDE:=aJ hDA;clear hDA HDA;go_wp2;exact bodyPost_ret (v:=.tuple #[.pointer (some ⟨D,0,none⟩),.bool true]) (by simp[results,Tryz.results55,go_sem]) rfl ⟨HBwr,.inr ⟨HRT,D,br,bp,bt,nr,ts.length,Mr,Mp,vo,vu,f,rfl,hw2,HLS,HDE⟩⟩
 have HN:O (aQ fit rs ts=false):=by
  show _=_;unfold aQ;cases hh:aN (ai rs);case false=>simp
  exact absurd (bf.1 hh) hno
 clear hno;go_wp2;exact bodyPost_ret (v:=.tuple #[.pointer none,.bool false]) (by simp[results,Tryz.results55,go_sem]) rfl ⟨HB1,.inl ⟨HN,rfl⟩⟩
def oF(known:Q04)(f:Fc)(t:Tp):Bool:=if t.s.toList.isEmpty then t.c.toList==f.c.toList&&t.d.toList==f.d.toList else aR known ⟨t.c,t.d,t.s,f.c,f.d⟩
def xC(known:Q04)(name:ByteArray)(f:Fc)(t:Tp):Bool:=aR known ⟨t.c,t.d,name,f.c,f.d⟩
def su(l:Q05)(k:K3)(p:Tp->Bool):(G.lookL (bB l) k).any p=l.any fun t=>(t.a.toList==k.1.toList&&t.b.toList==k.2.1.toList&&t.r.toList==k.2.2.toList)&&p t:=by
 induction l with
 | nil=>rfl
 | cons t l ih =>
  have e:bB (t::l)=[(Ot t,t)]++bB l:=rfl;rw[e,G.lookL_append,List.any_append,ih,YP];congr 1;unfold G.lookL Ot;by_cases h:(t.a,t.b,t.r)=k
  ·subst h;simp
  have h2:(t.a.toList==k.1.toList&&t.b.toList==k.2.1.toList&&t.r.toList==k.2.2.toList)=false:=by
   cases hb:(t.a.toList==k.1.toList&&t.b.toList==k.2.1.toList&&t.r.toList==k.2.2.toList);case false=>rfl
   rw[XN,XN,fT,fT,fT]at hb;exact absurd (Prod.ext hb.1.1<|Prod.ext hb.1.2 hb.2) h
  simp[h,h2]
def LJ(l:Q05)(known:Q04)(f:Fc):fO l known f=(G.lookL (bB l) (f.a,f.b,f.r)).any (oF known f):=by rw[su];rfl
def LM(l:Q05)(known:Q04)(over name:dw)(f:Fc):gY l known over name f=(G.lookL (bB l) (f.a,f.b,over)).any (xC known name f):=by rw[su];rfl
def OJ(st:Q00)(n:Int)(o:Al)(tn:dw)(rows:Q07):((rows.map fun r=>(tn,r.name)).filter fun k=>k.1.toList==o.t.toList&&decide (st k=n))=(G.lookL (rows.map fun r=>((tn,st (tn,r.name)),r)) (o.t,n)).map fun r=>(o.t,r.name):=by
 induction rows with
 | nil=>rfl
 | cons r rows ih =>
  have e:((r::rows).map fun r=>((tn,st (tn,r.name)),r))=[((tn,st (tn,r.name)),r)]++rows.map fun r=>((tn,st (tn,r.name)),r):=rfl;rw[e,G.lookL_append,YF,<-ih,YT,YS];unfold G.lookL;by_cases h:tn=o.t/\st (tn,r.name)=n
  ·obtain⟨rfl,rfl⟩:=h;simp
  have h1:(tn.toList==o.t.toList&&decide (st (tn,r.name)=n))=false:=by
   cases hb:(tn.toList==o.t.toList&&decide (st (tn,r.name)=n));case false=>rfl
   rw[XN,fT,XU]at hb;exact absurd hb h
  have h2:¬((tn,st (tn,r.name))=(o.t,n)):=fun e=>h ⟨congrArg Prod.fst e,congrArg Prod.snd e⟩;simp[h1,h2]
def Jk(st:Q00)(n:Int)(o:Al)(rs:Q06):DZ (ai rs) st n o=(G.lookL (dP st rs) (o.t,n)).map fun r=>(o.t,r.name):=by
 unfold DZ
 induction rs with
 | nil=>rfl
 | cons t rs ih =>
  have e1:ay (ai (t::rs))=(t.rows.map fun r=>(t.name,r.name))++ay (ai rs):=by
   have:jN t.p=t.rows.map fun r=>(t.name,r.name):=by unfold jN;show List.map _ (fD t.rows)=_;unfold fD;rw[List.map_map];rfl
   simp[ay,ai,this]
  have e2:dP st (t::rs)=(t.rows.map fun r=>((t.name,st (t.name,r.name)),r))++dP st rs:=rfl;rw[e1,e2,G.lookL_append,YU,YF,ih,OJ]
def CE{s:St}:∀{sts:List St},(jg sts).Nodup->s∈sts->gI sts s.key=s.n
 | [],_,h=>by cases h
 | x::xs,hd,h=>by
  have hd2:x.key ∉ jg xs/\(jg xs).Nodup:=List.nodup_cons.1 hd;unfold gI;by_cases e:BO x s.key.1 s.key.2=true
  ·rw[if_pos e];have ek:=rT.1 e;rcases X7.1 h with rfl|h
   ·rfl
   exact absurd (by rw[ek];exact Yn h) hd2.1
  rw[if_neg e];rcases X7.1 h with rfl|h
  ·exact absurd (rT.2 rfl) e
  exact CE hd2.2 h
def Xg(sts:List St)(n:Int)(o:Al):List St:=sts.filter fun s=>s.typ.toList==o.t.toList&&decide (s.n=n)
def Us{ts:Q0b}{sts:List St}(hk:jg sts=ay ts)(hn:(ay ts).Nodup)(n:Int)(o:Al):DZ ts (gI sts) n o=(Xg sts n o).map St.key:=by
 unfold DZ Xg;rw[<-hk];rw[<-hk]at hn;unfold jg;rw[List.filter_map];congr 1;refine List.filter_congr fun s hs=>?_;show(s.key.1.toList==o.t.toList&&decide (gI sts s.key=n))=_;rw[CE hn hs];rfl
def LP{rs:Q06}(h:bz (ai rs)=true):(ay<|ai rs).Nodup:=by
 have e:ay (ai rs)=rs.flatMap fun t=>t.rows.map fun r=>(t.name,r.name):=by
  unfold ay ai;rw[List.flatMap_map];congr 1
  funext t
  unfold jN;show List.map _ (fD t.rows)=_;unfold fD;rw[List.map_map];rfl
 rw[e,List.Nodup,List.pairwise_flatMap];constructor
 ·intro t ht;obtain ⟨i,hi,rfl⟩:=Yu.1 ht;have hu:=(kW h i hi).2.2;rw [List.pairwise_map,List.pairwise_iff_getElem];intro a b ha hb hab e;have hne:=tT (f:=fun k=>(rs[i].rows[k]?.map RR.name).getD ByteArray.empty) (n:=rs[i].rows.length) (fun k hk=>by
   have h0:k<rs[i].rows.length:=cq;simp only[XQ hk,XQ h0,Option.map_some,Yv];exact(yG hu (k+1) hk hk).2.1 k h0 rfl)
  have:=hne a b hab hb;simp[ha,hb]at this;exact this<|congrArg Prod.snd e
 rw [List.pairwise_iff_getElem];intro a b ha hb hab x hx y hy e;obtain ⟨r,hr,rfl⟩:=XW.1 hx;obtain ⟨q,hq,rfl⟩:=XW.1 hy;have hne:=tT (f:=fun k=>(rs[k]?.map TR.name).getD ByteArray.empty) (n:=rs.length) (fun k hk=>by
  have h0:k<rs.length:=cq;simp only[XQ hk,XQ h0,Option.map_some,Yv];exact(kW h (k+1) hk).2.1 k h0 rfl)
 have:=hne a b hab hb;simp[ha,hb]at this;exact this<|congrArg Prod.fst e
def Jl{α:Type}[DecidableEq α]:∀{a b:List α},a.Nodup->(∀x∈a,x∈b)->a.length<=b.length
 | [],_,_,_=>XP _
 | x::a,b,hd,hs=>by
  obtain⟨h1,h2⟩:=List.nodup_cons.1 hd;have hx:=hs x ct;have:=Jl (a:=a) (b:=b.erase x) h2 fun y hy=>(List.mem_erase_of_ne (fun e:y=x=>h1<|by rw[<-e];exact hy)).2 (hs y<|by simp[hy]);rw[List.length_erase_of_mem hx]at this;have hp:0<b.length:=List.length_pos_of_mem hx;simp only[Yh];omega
def Aj(ts:Q0b)(xo xu:Q0a):List Fc:=xo.flatMap fun o=>(ay ts).flatMap fun k=>jH o k.2 xu
def Fz{ts:Q0b}{st:Q00}{xo xu:Q0a}{n:Int}{f:Fc}(h:f∈di ts st xo xu n):f∈Aj ts xo xu:=by
 unfold di yN at h;obtain⟨o,ho,h⟩:=XZ.1 h;obtain⟨k,hk,h⟩:=XZ.1 h;exact XZ.2 ⟨o,ho,XZ.2 ⟨k,(YL.1 hk).1,h⟩⟩
def CF{α β:Type}(f:α->List β)(m:Nat)(hf:∀a,(f a).length<=m):∀l:List α,(l.flatMap f).length<=l.length*m
 | []=>ct
 | a::l=>by
  have h1:=CF f m hf l;have h2:=hf a;simp only[Ym,XT,Yh,Nat.add_mul];omega
def RF(ts:Q0b)(xo xu:Q0a):(Aj ts xo xu).length<=xo.length*((ay ts).length*xu.length) :=
 CF _ _ (fun o=>CF _ _ (fun k=>by unfold jH;rw[Yp];exact XK _) _) _
structure GoodO(ts:Q0b)(xo xu:Q0a)(out:Q04):Prop where
 once:out.Nodup
 sub:∀g∈out,g∈Aj ts xo xu
def WH(us:Q0a):List (ByteArray×ByteArray):=us.map fun u=>(u.t,u.s)
def WJ(us:Q0a)(x:Q01):Bool:=us.any fun u=>u.t.toList==x.1.toList&&u.s.toList==x.2.toList
def AR{us:Q0a}{x:Q01}:WJ us x=true↔x∈WH us:=by
 unfold WJ WH;rw[Yq,XW];constructor
 ·rintro⟨u,hu,h⟩;rw[XN,fT,fT]at h;exact⟨u,hu,Prod.ext h.1 h.2⟩
 rintro⟨u,hu,rfl⟩;exact⟨u,hu,ct⟩
def fP(us:Q0a)(new:Q04):List Al:=us.filter fun u=>new.any fun g=>g.c.toList==u.t.toList&&g.d.toList==u.s.toList
def FB{us:Q0a}{new:Q04}{x:Q01}:x∈WH (fP us new)↔x∈WH us/\∃g∈new,g.u=x:=by
 unfold WH fP;constructor
 ·intro h;obtain⟨u,hu,rfl⟩:=XW.1 h;obtain⟨h1,h2⟩:=YL.1 hu;obtain⟨g,hg,h3⟩:=Yq.1 h2;rw[XN,fT,fT]at h3;exact⟨Yn (f:=fun u:Al=>(u.t,u.s)) h1,g,hg,Prod.ext h3.1 h3.2⟩
 rintro⟨h,g,hg,hx⟩;obtain⟨u,hu,rfl⟩:=XW.1 h;refine XW.2 ⟨u,YL.2 ⟨hu,Yq.2 ⟨g,hg,?_⟩⟩,rfl⟩;rw[XN,fT,fT];exact⟨congrArg Prod.fst hx,congrArg Prod.snd hx⟩
def LQ(us:Q0a):fP us []=[]:=by unfold fP;rw[List.filter_eq_nil_iff];simp
def LU{ts:Q0b}{xo xu:Q0a}{n:Int}{st st':Q00}(h:∀k∈ay ts,st k=st' k):di ts st xo xu n=di ts st' xo xu n:=by
 unfold di yN;congr 1
 funext o
 have:DZ ts st n o=DZ ts st' n o:=List.filter_congr fun k hk=>by rw[h k hk]
 rw[this]
set_option linter.unusedSectionVars false
section
variable  [DecidableEq Fc]
def GoodO.run{ts:Q0b}{xo xu:Q0a}{out:Q04}(h:GoodO ts xo xu out){H:List Fc->Fc->Bool}{qs:Q04}(hq:∀g∈qs,g∈Aj ts xo xu):GoodO ts xo xu (dh H qs out):=by
 refine⟨yo qs h.once,fun g hg=>?_⟩;obtain⟨n,e,hn⟩:=lG (H:=H) qs out;rw[e]at hg;rcases XV.1 hg with hg|hg
 ·exact h.sub g hg
 exact hq g (hn g hg).1
def GoodO.len{ts:Q0b}{xo xu:Q0a}{out:Q04}(h:GoodO ts xo xu out)(h1:xo.length<=80)(h2:(ay ts).length<=36)(h3:xu.length<=40):out.length<=115200:=by
 have a1:=Jl h.once h.sub;have a2:=RF ts xo xu;have a3:(ay ts).length*xu.length<=36*40:=Nat.mul_le_mul h2 h3;have a4:xo.length*((ay ts).length*xu.length)<=80*(36*40):=Nat.mul_le_mul h1 a3;omega
structure FewA(ts:Q0b)(l:Q05)(st:Q00)(xo xu:Q0a)(n:Int)(us:Q0a)(out:Q04):Prop where
 sub:us=xu.filter fun u:Al=>WJ us (u.t,u.s)
 few:Few Fc.u (iC ts l) (di ts st xo xu n) (WH us) out
variable  {ts:Q0b}{l:Q05}{st:Q00}{xo xu:Q0a}{n:Int}
def FewA.start(out:Q04):FewA ts l st xo xu n xu out:=by
 refine⟨(List.filter_eq_self.2 fun u hu=>AR.2<|Yn (f:=fun u:Al=>(u.t,u.s)) hu).symm,Few.start fun f hf=>Lf hf⟩
def LV{φ υ:Type}[DecidableEq φ]{us:φ->υ}{H:List φ->φ->Bool}(hL:Loc us H){qs:List φ}{users:List υ}{out:List φ}(h:Few us H qs users out)(P:υ->Bool)(hP:∀u,P u=true↔u∈users):dh H (qs.filter fun f=>P<|us f) out=dh H qs out :=
 (om hL P qs out fun f hf hp=>h.set f hf fun hm=>by rw[(hP _).2 hm]at hp;cases hp).symm
def FewA.round{us:Q0a}{out:Q04}(h:FewA ts l st xo xu n us out):dh (iC ts l) (di ts st xo us n) out=dh (iC ts l) (di ts st xo xu n) out:=by
 have h2:=I9 ts st xo xu n<|WJ us;rw[<-h.sub]at h2;rw[<-h2];exact LV (Ff ts l) h.few (WJ us) fun u=>AR
def FewA.next{us:Q0a}{out new:Q04}(h:FewA ts l st xo xu n us out)(hn:dh (iC ts l) (di ts st xo us n) out=out++new):FewA ts l st xo xu n (fP us new) (out++new):=by
 refine⟨?_,h.few.next (Ff ts l) (h.round.symm.trans hn) fun u=>FB⟩;have h1:fP us new=(xu.filter fun u:Al=>WJ us (u.t,u.s)).filter fun u=>new.any fun g=>g.c.toList==u.t.toList&&g.d.toList==u.s.toList:=by rw[<-h.sub];rfl
 rw[List.filter_filter]at h1;refine h1.trans<|List.filter_congr fun u hu=>?_;rw[X9,AR,FB,XN,AR,Yq,and_comm];refine and_congr Iff.rfl ⟨fun⟨g,hg,h3⟩=>⟨g,hg,?_⟩,fun⟨g,hg,h3⟩=>⟨g,hg,?_⟩⟩
 ·rw[XN,fT,fT]at h3;exact Prod.ext h3.1 h3.2
 rw[XN,fT,fT];exact⟨congrArg Prod.fst h3,congrArg Prod.snd h3⟩
def FewA.done{out:Q04}(h:FewA ts l st xo xu n [] out):oK (iC ts l) (di ts st xo xu n) out=out:=h.few.done
def uf{st st':Q00}(h:∀k∈ay ts,st k=st' k):∀N,iV ts l st xo xu N=iV ts l st' xo xu N
 | 0=>rfl
 | N+1=>by rw[jQ,jQ,uf h N,LU h]
end
def vV(out:Q04)(f:Fc):Option Value:=if aR out f then some (.agg #[]) else none
def RG(out:Q04)(f:Fc):(vV out f).isSome=aR out f:=by unfold vV;cases aR out f<;>rfl
def Ut(out:Q04)(f:Fc):∀v,vV out f=some v->v=.agg #[]:=fun v h=>by
 unfold vV at h;split at h
 ·injection h with h;exact h.symm
 cases h
def sw(b n:Nat)(out:Q04)(f:Fc)(w:ag)(hf:f.fits)(hV:aL dM prog 52 w b n<|vV out):
  Calls prog 76 #[.map (some b),.agg<|cf f] w (a8 w<|.bool<|aR out f):=by
 have h:=Jb b n (vV out) f w hf hV<|Ut out f;rw[RG]at h;exact h
def xD{w:ag}{bp np:Nat}{Mp:K3->Option Value}{E:List<|K3×Tp}(h:G.Grp rJ prog 273 29 6 Tp.row w bp np Mp E)(k:K3):∃ad cap,(Mp k).getD (.slice none 0 0)=.slice ad (G.lookL E k).length cap/\Sl w ad (G.lookL E k):=by
 obtain⟨ad,cap,e,hs,-⟩:=QT (ts:=G.lookL E k) (Fe h k) rfl;exact⟨ad,cap,e,hs⟩
def FD(p:Tp->Bool){ts:Q05}{k:Nat}(h:k<ts.length):(ts.drop k).any p=(p ts[k] || (ts.drop<|k+1).any p):=by rw[Yi h];rfl
def xE{ts:Q05}{k:K3}{t:Tp}(h:t∈G.lookL (bB ts) k):t∈ts:=by
 have:=G.mem_lookL.1 h;unfold bB at this;obtain⟨x,hx,e⟩:=XW.1 this;injection e with e1 e2;rw[<-e2];exact hx
def xG(ts:Q05)(k:K3):(G.lookL (bB ts) k).length<=ts.length:=by
 unfold G.lookL bB;exact XR (YM _ _) ct
section
variable  {w:World}{rs:Q06}{D br bp bt bK nK:Nat}{n1:Int}{nr:Nat}{Mr:KL->Option Value}{Er:List (KL×RR)}{ts:Q05}{xo xu:Q0a}{np:Nat}{Mp:K3->Option Value}{vo vu:Value}{out:Q04}{f:Fc}
def Eb(hD:DatA w rs D br bp bt n1 nr Mr Er (bB ts) xo xu np Mp vo vu)(hK:aL dM prog 52 w bK nK<|vV out)(hf:f.fits)(hts:∀t∈ts,t.fits)(htl:ts.length<=1000):
  Calls prog 284 #[.pointer (some<|am D),.agg<|cf f,.map<|some bK] w (a8 w<|.bool<|fO ts out f):=by
 obtain⟨kl,hkl⟩:=wI (f.a,f.b,f.r) hf.1 hf.2.1 hf.2.2.1;obtain⟨Zo,Y0,hgd,hsl⟩:=xD hD.dat.told (f.a,f.b,f.r);have HL:=ah<|LJ ts out f;have hll:=xG ts (f.a,f.b,f.r);have HFL:O (∀t∈G.lookL (bB ts) (f.a,f.b,f.r),t.fits):=fun t ht=>hts t<|xE ht;obtain⟨L,hLe⟩:=eQx<|G.lookL (bB ts) (f.a,f.b,f.r);rw[<-hLe]at hgd hsl HL hll HFL;obtain⟨W0,hW0⟩:=eQx<|w.alloc<|.cells (cf f) 52;have HB0:=lX hW0;have c0:W0.cell? (aE w)=some (.string f.a):=by rw[hW0];simp
 have c1:W0.cell? (a6 w 1)=some (.string f.b):=by rw[hW0];simp
 have c2:W0.cell? (a6 w 2)=some (.string f.r):=by rw[hW0];simp
 have c3:W0.cell? (a6 w 3)=some (.string f.c):=by rw[hW0];simp
 have c4:W0.cell? (a6 w 4)=some (.string f.d):=by rw[hW0];simp
 have d3:=HB0.cell (p:=⟨D,3,none⟩) hD.dat.lt |>.trans hD.dat.c3;have hlk:∀m,(Instr.lookup 191 (.map<|some bp) (.agg #[.string f.a,.string f.b,.string f.r]) false).run prog (W0.drewN m)=.ok (.slice Zo L.length Y0) (W0.drewN m):=fun m=>by
  have h:=((hD.dat.told.map.below HB0).below<|below_drewN (XL _ _) m).look (t:=191) (e:=25) M4 underlying191 (Cm _) (x:=(f.a,f.b,f.r)) hkl;rw[hgd]at h;exact h
 have HSL:=ah hsl;have HKN:=ah hK;have HF:=ah hf;have HC0:O (ac W0 w.heap.size 3 (.string f.c)/\ac W0 w.heap.size 4 (.string f.d)/\w.heap.size<W0.heap.size):=⟨c3,c4,by rw[hW0];simp⟩;clear hsl hK hf hLe hgd hkl;go_enter func284,ntmps284;go_wp2_with fail;rw[<-hW0];clear hW0;go_quiet (fail);clear c0 c1 c2 c3 c4 d3 hlk;go_wp2;go_loopw[20] (fun i wr=>∃k:Nat,k<=L.length/\i=.int .i64 k/\O ((L.drop k).any (oF out f)=L.any (oF out f))/\O (ae w wr)/\O (wr.cell? (a6 w 3)=some (.string f.c)/\wr.cell? (a6 w 4)=some (.string f.d)/\w.heap.size<wr.heap.size)) (fun i _=>L.length-(intOf i).toNat);case atStart=>exact⟨0,XP _,rfl,rfl,below_drewN HB0 _,HC0⟩
 clear HC0 HB0;obtain⟨k,hk,rfl,HP,HB,HC⟩:=hrel;by_cases hlt:k<L.length
 ·obtain⟨bT,offT,hadT,⟨a0,a1,a2,a3,a4,a5⟩,hbT⟩:=Sl.at0 (HSL.below HB) hlt;obtain⟨c3,c4,cl⟩:=HC.out;have hi1:=bG k;have hi2:(k:Int)<(L.length:Int):=cq;have HTF:=ah<|HFL _<|XI hlt;have HD2:O (L.any (oF out f)=(oF out f L[k] || (L.drop<|k+1).any (oF out f))):=by show _=_;rw[<-HP];exact FD _ hlt
  obtain⟨t,ht⟩:=eQx<|L[k];rw[<-ht]at a0 a1 a2 a3 a4 a5 HTF HD2;clear ht;obtain⟨W1,hW1⟩:=eQx<|wr.alloc<|.cells (cg t) 29;have ZF:=lX hW1;have HB1:=ah<|HB.trans<|ZF.mono HB.size;have HC1:O (ac W1 w.heap.size 3 (.string f.c)/\ac W1 w.heap.size 4 (.string f.d)/\w.heap.size<W1.heap.size):=⟨mK ZF cl c3,mK ZF cl c4,XJ cl ZF.size⟩;subst hadT;cases hs:t.s.toList.isEmpty;case true=>
   have hs2:(t.s.toList==[])=true:=by rw[oz];exact hs
   have HTT:O (oF out f t=zH t.c t.d f.c f.d):=by show _=_;unfold oF;rw[if_pos hs];rfl
   cases hu:zH t.c t.d f.c f.d;case true=>
    have heq:=iW _ _ _ _ hu;have HN:O (fO ts out f=true):=by show _=_;rw[HL,HD2,HTT,hu];rfl
    clear hu hs;go_wp2;rw[<-hW1];go_ret;exact⟨by rw[HN];rfl,HB1⟩
   have heq:=iW _ _ _ _ hu;have Zc:O ((L.drop<|k+1).any (oF out f)=L.any (oF out f)):=by show _=_;rw[HD2,HTT,hu];rfl
   clear hu hs;go_wp2;rw[<-hW1];clear hW1;go_roundw;case rel=>exact⟨k+1,cq,cx,Zc,HB1,HC1⟩
   simp[intOf]<;>omega
  have hs2:(t.s.toList==[])=false:=by rw[oz];exact hs
  have HTT:O (oF out f t=aR out ⟨t.c,t.d,t.s,f.c,f.d⟩):=by show _=_;unfold oF;rw[if_neg (by rw[hs];decide)]
  clear hs;go_wp2_with fail;rw[<-hW1];clear hW1;refine(sw bK nK out ⟨t.c,t.d,t.s,f.c,f.d⟩ W1 ⟨HTF.2.2.2.1,HTF.2.2.2.2.1,HTF.2.2.2.2.2,HF.2.2.2.1,HF.2.2.2.2⟩<|HKN.below HB1).mono ?_;rintro e w2 ⟨rfl,hb2⟩;have HB2:=ah<|HB1.trans<|hb2.mono HB1.size;have ZM:O (ac w2 w.heap.size 3 (.string f.c)/\ac w2 w.heap.size 4 (.string f.d)/\w.heap.size<w2.heap.size):=⟨mK hb2 HC1.2.2 HC1.1,mK hb2 HC1.2.2 HC1.2.1,XJ HC1.2.2 hb2.size⟩;clear hb2;cases hh:aR out ⟨t.c,t.d,t.s,f.c,f.d⟩;case true=>
   have HN:O (fO ts out f=true):=by show _=_;rw[HL,HD2,HTT,hh];rfl
   go_wp2;go_ret;exact⟨by rw[HN];rfl,HB2⟩
  have Zc:O ((L.drop<|k+1).any (oF out f)=L.any (oF out f)):=by show _=_;rw[HD2,HTT,hh];rfl
  go_wp2;go_roundw;case rel=>exact⟨k+1,cq,cx,Zc,HB2,ZM⟩
  simp[intOf]<;>omega
 have HN:O (fO ts out f=false):=by show _=_;rw[HL,<-HP,Ya cq];rfl
 go_wp2;go_ret;exact⟨by rw[HN];rfl,HB⟩
def Ec(hD:DatA w rs D br bp bt n1 nr Mr Er (bB ts) xo xu np Mp vo vu)(hK:aL dM prog 52 w bK nK<|vV out)(x:ER)(hxf:x.e.over.size<=maxLen/\x.e.name.size<=maxLen)(hf:f.fits)(hts:∀t∈ts,t.fits)(htl:ts.length<=1000):
  Calls prog 285 #[.pointer (some<|am D),.agg<|cU x,.agg<|cf f,.map<|some bK] w (a8 w<|.bool<|gY ts out x.e.over x.e.name f):=by
 obtain⟨kl,hkl⟩:=wI (f.a,f.b,x.e.over) hf.1 hf.2.1 hxf.1;obtain⟨Zo,Y0,hgd,hsl⟩:=xD hD.dat.told (f.a,f.b,x.e.over);have HL:=ah<|LM ts out x.e.over x.e.name f;have hll:=xG ts (f.a,f.b,x.e.over);have HFL:O (∀t∈G.lookL (bB ts) (f.a,f.b,x.e.over),t.fits):=fun t ht=>hts t<|xE ht;obtain⟨L,hLe⟩:=eQx<|G.lookL (bB ts) (f.a,f.b,x.e.over);rw[<-hLe]at hgd hsl HL hll HFL;obtain⟨W0,hW0⟩:=eQx<|(w.alloc<|.cells (cU x) 43).alloc<|.cells (cf f) 52;have HB0:O (ae w W0):=by show Below _ _ _;rw[hW0];exact((XL _ _).alloc (XK _) _).alloc ct _
 have c0:W0.cell? (am<|w.heap.size+1)=some (.string f.a):=by rw[hW0];simp
 have c1:W0.cell? (ap (w.heap.size+1) 1)=some (.string f.b):=by rw[hW0];simp
 have c2:W0.cell? (ap (w.heap.size+1) 2)=some (.string f.r):=by rw[hW0];simp
 have c3:W0.cell? (ap (w.heap.size+1) 3)=some (.string f.c):=by rw[hW0];simp
 have c4:W0.cell? (ap (w.heap.size+1) 4)=some (.string f.d):=by rw[hW0];simp
 have x2:W0.cell? (a6 w 2)=some (.string x.e.over):=by rw[hW0];simp
 have x3:W0.cell? (a6 w 3)=some (.string x.e.name):=by rw[hW0];simp
 have d3:=HB0.cell (p:=⟨D,3,none⟩) hD.dat.lt |>.trans hD.dat.c3;have hlk:∀m,(Instr.lookup 191 (.map<|some bp) (.agg #[.string f.a,.string f.b,.string x.e.over]) false).run prog (W0.drewN m)=.ok (.slice Zo L.length Y0) (W0.drewN m):=fun m=>by
  have h:=((hD.dat.told.map.below HB0).below<|below_drewN (XL _ _) m).look (t:=191) (e:=25) M4 underlying191 (Cm _) (x:=(f.a,f.b,x.e.over)) hkl;rw[hgd]at h;exact h
 have HSL:=ah hsl;have HKN:=ah hK;have HF:=ah hf;have HXF:=ah hxf;have HC0:O (ac W0 (w.heap.size+1) 3 (.string f.c)/\ac W0 (w.heap.size+1) 4 (.string f.d)/\ac W0 w.heap.size 3 (.string x.e.name)/\w.heap.size+1<W0.heap.size):=⟨c3,c4,x3,by rw[hW0];simp⟩;clear hsl hK hf hLe hgd hkl;go_enter func285,ntmps285;go_wp2_with fail;rw[<-hW0];clear hW0;go_quiet (fail);clear c0 c1 c2 c3 c4 d3 x2 x3 hlk;go_wp2;go_loopw[22] (fun i wr=>∃k:Nat,k<=L.length/\i=.int .i64 k/\O ((L.drop k).any (xC out x.e.name f)=L.any (xC out x.e.name f))/\O (ae w wr)/\O (wr.cell? (ap (w.heap.size+1) 3)=some (.string f.c)/\wr.cell? (ap (w.heap.size+1) 4)=some (.string f.d)/\wr.cell? (a6 w 3)=some (.string x.e.name)/\w.heap.size+1<wr.heap.size)) (fun i _=>L.length-(intOf i).toNat);case atStart=>exact⟨0,XP _,rfl,rfl,below_drewN HB0 _,HC0⟩
 clear HC0 HB0;obtain⟨k,hk,rfl,HP,HB,HC⟩:=hrel;by_cases hlt:k<L.length
 ·obtain⟨bT,offT,hadT,⟨a0,a1,a2,a3,a4,a5⟩,hbT⟩:=Sl.at0 (HSL.below HB) hlt;obtain⟨c3,c4,x3,cl⟩:=HC.out;have cl0:cX w wr:=cq;have hi1:=bG k;have hi2:(k:Int)<(L.length:Int):=cq;have HTF:=ah<|HFL _<|XI hlt;have HD2:O (L.any (xC out x.e.name f)=(xC out x.e.name f L[k] || (L.drop<|k+1).any (xC out x.e.name f))):=by show _=_;rw[<-HP];exact FD _ hlt
  obtain⟨t,ht⟩:=eQx<|L[k];rw[<-ht]at a0 a1 a2 a3 a4 a5 HTF HD2;clear ht;obtain⟨W1,hW1⟩:=eQx<|wr.alloc<|.cells (cg t) 29;have ZF:=lX hW1;have HB1:=ah<|HB.trans<|ZF.mono HB.size;have HC1:O (ac W1 (w.heap.size+1) 3 (.string f.c)/\ac W1 (w.heap.size+1) 4 (.string f.d)/\ac W1 w.heap.size 3 (.string x.e.name)/\w.heap.size+1<W1.heap.size):=⟨mK ZF cl c3,mK ZF cl c4,mK ZF cl0 x3,XJ cl ZF.size⟩;subst hadT;have HTT:O (xC out x.e.name f t=aR out ⟨t.c,t.d,x.e.name,f.c,f.d⟩):=rfl;go_wp2_with fail;rw[<-hW1];clear hW1;refine(sw bK nK out ⟨t.c,t.d,x.e.name,f.c,f.d⟩ W1 ⟨HTF.2.2.2.1,HTF.2.2.2.2.1,HXF.2,HF.2.2.2.1,HF.2.2.2.2⟩<|HKN.below HB1).mono ?_;rintro e w2 ⟨rfl,hb2⟩;have HB2:=ah<|HB1.trans<|hb2.mono HB1.size;have ZM:O (ac w2 (w.heap.size+1) 3 (.string f.c)/\ac w2 (w.heap.size+1) 4 (.string f.d)/\ac w2 w.heap.size 3 (.string x.e.name)/\w.heap.size+1<w2.heap.size):=⟨mK hb2 HC1.2.2.2 HC1.1,mK hb2 HC1.2.2.2 HC1.2.1,mK hb2 (by have:=HC1.2.2.2;omega) HC1.2.2.1,XJ HC1.2.2.2 hb2.size⟩;clear hb2;cases hh:aR out ⟨t.c,t.d,x.e.name,f.c,f.d⟩;case true=>
   have HN:O (gY ts out x.e.over x.e.name f=true):=by show _=_;rw[HL,HD2,HTT,hh];rfl
   go_wp2;go_ret;exact⟨by rw[HN];rfl,HB2⟩
  have Zc:O ((L.drop<|k+1).any (xC out x.e.name f)=L.any (xC out x.e.name f)):=by show _=_;rw[HD2,HTT,hh];rfl
  go_wp2;go_roundw;case rel=>exact⟨k+1,cq,cx,Zc,HB2,ZM⟩
  simp[intOf]<;>omega
 have HN:O (gY ts out x.e.over x.e.name f=false):=by show _=_;rw[HL,<-HP,Ya cq];rfl
 go_wp2;go_ret;exact⟨by rw[HN];rfl,HB⟩
end
structure NodOk(rows:Q08):Prop where
 len:rows.length<=1000
 kids:∀q∈rows,q.e.kids.length<=1000
 low:Nl (au rows)
 two:∀e∈au rows,e.kind=6->2<=e.kids.length
def NodOk.kid{rows:Q08}(h:NodOk rows){n:Nat}(hn:n<rows.length){i:Int}(hi:i∈rows[n].e.kids):0<=i/\i<(n:Int):=by
 have:=h.low n (by rw[aX];exact hn) i;have e:(au rows)[n]'(by rw[aX];exact hn)=rows[n].e:=by simp[au]
 rw[e]at this;exact this hi
def sD(v0:Value)(adT:Q02)(capT:Nat)(ts:Q05)(YY:Q02)(capE:Nat)(rows:Q08)(ZV:Q02)(Zn:Nat)(truth:Q04)(f:Fc)(htl:a7 ts)(hN:NodOk rows)(htr:a7 truth):
  ∀(k n:Nat) (adK:Q02) (capK:Nat) (known:Q04) (w:World),n<k->n<rows.length->known.length<=1048576->HW w adT ts YY rows adK known ZV truth ->
  Calls prog 146 #[v0,.slice adT ts.length capT,.slice YY rows.length capE,.int .i64 (n:Int),.slice adK known.length capK,.slice ZV truth.length Zn,.agg<|cf f] w fun e w'=>e=.returned (.bool<|dC ts (au rows) truth f k known n)/\ae w w'
 | 0,_,_,_,_,_,h,_,_,_=>absurd h<|YG _
 | k+1,n,adK,capK,known,w,hk,hn,hkn,hW=>by
  have e:(au rows)[n]?=some rows[n].e:=by simp[au,hn]
  have ZL:∀(adK':Q02) (capK':Nat) (known':Q04),known'.length<=1048576->HW w adT ts YY rows adK' known' ZV truth->∀i∈rows[n].e.kids,Rc v0 (.slice adT ts.length capT) (.slice YY rows.length capE) (.slice adK' known'.length capK') (.slice ZV truth.length Zn) f w i (dC ts (au rows) truth f k known' i.toNat):=fun adK' capK' known' hl hW' i hi w1 hb1=>by
   have h1:=hN.kid hn hi;have h2:=sD v0 adT capT ts YY capE rows ZV Zn truth f htl hN htr k i.toNat adK' capK' known' w1 cq cq hl<|hW'.below hb1;have e2:((i.toNat:Nat):Int)=i:=cq;rw[e2]at h2;exact h2
  unfold dC;rw[e];have hm:rows[n]∈rows:=XI hn;have hme:rows[n].e∈au rows:=XW.2 ⟨_,hm,rfl⟩;by_cases k1:rows[n].e.kind=1
  ·simp only[if_pos k1];exact GL v0 adT capT ts YY capE rows n adK capK known ZV Zn truth f w hW hn hN.len hkn htl k1
  by_cases k2:rows[n].e.kind=2
  ·simp only[if_neg k1,if_pos k2];exact Jd v0 adT capT ts YY capE rows n adK capK known ZV Zn truth f w hW hn hN.len hkn k2
  by_cases k3:rows[n].e.kind=3
  ·simp only[if_neg k1,if_neg k2,if_pos k3];exact GM v0 adT capT ts YY capE rows n adK capK known ZV Zn truth f w hW hn hN.len hkn htl k3
  by_cases k4:rows[n].e.kind=4
  ·simp only[if_neg k1,if_neg k2,if_neg k3,if_pos k4];exact D6 (fun i=>dC ts (au rows) truth f k known i.toNat) v0 _ YY capE rows n _ _ f w hW.ex hn hN.len (hN.kids _ hm) k4 (ZL adK capK known hkn hW)
  by_cases k5:rows[n].e.kind=5
  ·simp only[if_neg k1,if_neg k2,if_neg k3,if_neg k4,if_pos k5];exact GN (fun i=>dC ts (au rows) truth f k known i.toNat) v0 _ YY capE rows n _ _ f w hW.ex hn hN.len (hN.kids _ hm) k5 (ZL adK capK known hkn hW)
  by_cases k6:rows[n].e.kind=6
  ·simp only[if_neg k1,if_neg k2,if_neg k3,if_neg k4,if_neg k5,if_pos k6];have h2:=hN.two _ hme k6;have hg:∀q,q<2->rows[n].e.kids.getD q 0∈rows[n].e.kids:=fun q hq=>by
    rw[Yl,XQ cq];exact XI _
   exact Je _ _ v0 _ YY capE rows n _ _ f w hW.ex hn hN.len (hN.kids _ hm) h2 k6 (ZL adK capK known hkn hW _<|hg 0 cq)<|ZL ZV Zn truth htr ⟨hW.tup,hW.ex,hW.tr,hW.tr⟩ _<|hg 1 cq
  simp only[if_neg k1,if_neg k2,if_neg k3,if_neg k4,if_neg k5,if_neg k6];exact Ll v0 adT capT ts YY capE rows n _ _ f w hW.ex hn hN.len k1 k2 k3 k4 k5 k6
def Ak(B:Nat):Value:=.func (Fn.func 282) #[] #[.pointer (some ⟨B,0,none⟩),.pointer<|some ⟨B+1,0,none⟩,.pointer<|some ⟨B+1+1,0,none⟩,.pointer<|some ⟨B+1+1+1,0,none⟩]
def Ka(w:World)(D:Nat)(vE:Value)(f:Fc)(bK:Nat)(x:ER):World :=
 (((((w.alloc<|.cells #[.pointer (some ⟨D,0,none⟩)] 92).alloc<|.cells #[vE] 37).alloc<|.cells #[.string f.a,.string f.b,.string f.r,.string f.c,.string f.d] 52).alloc<|.cells #[.map (some bK)] 115).alloc<|.cells #[.int .i64 x.e.kind,.slice x.adA x.e.allow.length x.capA,.string x.e.over,.string x.e.name,.slice x.adK x.e.kids.length x.capK] 43).alloc (.cells #[Ak w.heap.size] 358)
structure NdB(w:World)(B D:Nat)(vE:Value)(f:Fc)(bK:Nat)(x:ER):Prop where
 lt:B+1+1+1+1+1<w.heap.size
 d:w.cell? ⟨B,0,none⟩=some (.pointer<|some ⟨D,0,none⟩)
 e:w.cell? ⟨B+1,0,none⟩=some vE
 f0:w.cell? ⟨B+1+1,0,none⟩=some (.string f.a)
 f1:w.cell? ⟨B+1+1,1,none⟩=some (.string f.b)
 f2:w.cell? ⟨B+1+1,2,none⟩=some (.string f.r)
 f3:w.cell? ⟨B+1+1,3,none⟩=some (.string f.c)
 f4:w.cell? ⟨B+1+1,4,none⟩=some (.string f.d)
 k:w.cell? ⟨B+1+1+1,0,none⟩=some (.map<|some bK)
 x0:w.cell? ⟨B+1+1+1+1,0,none⟩=some (.int .i64 x.e.kind)
 x1:w.cell? ⟨B+1+1+1+1,1,none⟩=some (.slice x.adA x.e.allow.length x.capA)
 x2:w.cell? ⟨B+1+1+1+1,2,none⟩=some (.string x.e.over)
 x3:w.cell? ⟨B+1+1+1+1,3,none⟩=some (.string x.e.name)
 x4:w.cell? ⟨B+1+1+1+1,4,none⟩=some (.slice x.adK x.e.kids.length x.capK)
 v:w.cell? ⟨B+1+1+1+1+1,0,none⟩=some (Ak B)
def NdB.below{w w':ag}{B D:Nat}{vE:Value}{f:Fc}{bK:Nat}{x:ER}(h:NdB w B D vE f bK x)(hB:ae w w'):NdB w' B D vE f bK x:=by
 have hl:=h.lt;have c:∀i o,i<=5->w'.cell? (ap (B+i) o)=w.cell? (ap (B+i) o):=fun i o hi=>hB.cell (p:=⟨B+i,o,none⟩) (show B+i<_ by omega);have c0:∀o,w'.cell? (ap B o)=w.cell? (ap B o):=fun o=>hB.cell (p:=⟨B,o,none⟩) (show B<_ by omega);exact⟨XJ hl hB.size,(c0 _).trans h.d,(c 1 _ cq).trans h.e,(c 2 _ cq).trans h.f0,(c 2 _ cq).trans h.f1,(c 2 _ cq).trans h.f2,(c 2 _ cq).trans h.f3,(c 2 _ cq).trans h.f4,(c 3 _ cq).trans h.k,(c 4 _ cq).trans h.x0,(c 4 _ cq).trans h.x1,(c 4 _ cq).trans h.x2,(c 4 _ cq).trans h.x3,(c 4 _ cq).trans h.x4,(c 5 _ cq).trans h.v⟩
def mQ(w:ag)(D:Nat)(vE:Value)(f:Fc)(bK:Nat)(x:ER):ae w (Ka w D vE f bK x):=by
 unfold Ka;exact((((((XL _ _).alloc (XK _) _).alloc ct _).alloc (by simp;omega) _).alloc (by simp;omega) _).alloc (by simp;omega) _).alloc (by simp;omega) _
def pU(w:ag)(cs:Array Value)(T:TypeId)(o:Nat):(w.alloc<|.cells cs T).cell? (ap w.heap.size o)=cs[o]?:=World.cell?_alloc_mark w cs T (0,0) o
def mR(w:ag)(D:Nat)(vE:Value)(f:Fc)(bK:Nat)(x:ER):NdB (Ka w D vE f bK x) w.heap.size D vE f bK x:=by
 unfold Ka;obtain⟨w1,h1⟩:∃u,u=w.alloc (.cells #[.pointer (some<|am D)] 92):=⟨_,rfl⟩;have s1:w1.heap.size=w.heap.size+1:=by rw[h1,World.size_alloc]
 have b1:ae w w1:=by rw[h1];exact(XL _ _).alloc (XK _) _
 obtain⟨w2,h2⟩:∃u,u=w1.alloc (.cells #[vE] 37):=⟨_,rfl⟩;have s2:w2.heap.size=w.heap.size+1+1:=by rw[h2,World.size_alloc,s1]
 have b2:ae w1 w2:=by rw[h2];exact(XL _ _).alloc (XK _) _
 obtain⟨w3,h3⟩:∃u,u=w2.alloc (.cells (cf f) 52):=⟨_,rfl⟩;have s3:w3.heap.size=w.heap.size+1+1+1:=by rw[h3,World.size_alloc,s2]
 have b3:ae w2 w3:=by rw[h3];exact(XL _ _).alloc (XK _) _
 obtain⟨w4,h4⟩:∃u,u=w3.alloc (.cells #[.map (some bK)] 115):=⟨_,rfl⟩;have s4:w4.heap.size=w.heap.size+1+1+1+1:=by rw[h4,World.size_alloc,s3]
 have b4:ae w3 w4:=by rw[h4];exact(XL _ _).alloc (XK _) _
 obtain⟨w5,h5⟩:∃u,u=w4.alloc (.cells (cU x) 43):=⟨_,rfl⟩;have s5:w5.heap.size=w.heap.size+1+1+1+1+1:=by rw[h5,World.size_alloc,s4]
 have b5:ae w4 w5:=by rw[h5];exact(XL _ _).alloc (XK _) _
 obtain⟨w6,h6⟩:∃u,u=w5.alloc (.cells #[Ak w.heap.size] 358):=⟨_,rfl⟩;have s6:w6.heap.size=w.heap.size+1+1+1+1+1+1:=by rw[h6,World.size_alloc,s5]
 have b6:ae w5 w6:=by rw[h6];exact(XL _ _).alloc (XK _) _
 rw[<-h1,<-h2,<-h3,<-h4,<-h5,<-h6];have c0:∀o,w6.cell? (a6 w o)=(#[.pointer (some<|am D)]:Array Value)[o]?:=fun o=>by
  have e:w1.cell? (a6 w o)=(#[.pointer (some<|am D)]:Array Value)[o]?:=by rw[h1];exact pU _ _ _ o
  rw[b6.cell (p:=⟨w.heap.size,o,none⟩) (show w.heap.size<_ by omega),b5.cell (p:=⟨w.heap.size,o,none⟩) (show w.heap.size<_ by omega),b4.cell (p:=⟨w.heap.size,o,none⟩) (show w.heap.size<_ by omega),b3.cell (p:=⟨w.heap.size,o,none⟩) (show w.heap.size<_ by omega),b2.cell (p:=⟨w.heap.size,o,none⟩) (show w.heap.size<_ by omega)];exact e
 have c1:∀o,w6.cell? (ap (w.heap.size+1) o)=(#[vE]:Array Value)[o]?:=fun o=>by
  have e:w2.cell? (ap (w.heap.size+1) o)=(#[vE]:Array Value)[o]?:=by rw[h2,<-s1];exact pU _ _ _ o
  rw[b6.cell (p:=⟨w.heap.size+1,o,none⟩) (show w.heap.size+1<_ by omega),b5.cell (p:=⟨w.heap.size+1,o,none⟩) (show w.heap.size+1<_ by omega),b4.cell (p:=⟨w.heap.size+1,o,none⟩) (show w.heap.size+1<_ by omega),b3.cell (p:=⟨w.heap.size+1,o,none⟩) (show w.heap.size+1<_ by omega)];exact e
 have c2:∀o,w6.cell? (ap (w.heap.size+1+1) o)=((cf f):Array Value)[o]?:=fun o=>by
  have e:w3.cell? (ap (w.heap.size+1+1) o)=((cf f):Array Value)[o]?:=by rw[h3,<-s2];exact pU _ _ _ o
  rw[b6.cell (p:=⟨w.heap.size+1+1,o,none⟩) (show w.heap.size+1+1<_ by omega),b5.cell (p:=⟨w.heap.size+1+1,o,none⟩) (show w.heap.size+1+1<_ by omega),b4.cell (p:=⟨w.heap.size+1+1,o,none⟩) (show w.heap.size+1+1<_ by omega)];exact e
 have c3:∀o,w6.cell? (ap (w.heap.size+1+1+1) o)=(#[.map (some bK)]:Array Value)[o]?:=fun o=>by
  have e:w4.cell? (ap (w.heap.size+1+1+1) o)=(#[.map (some bK)]:Array Value)[o]?:=by rw[h4,<-s3];exact pU _ _ _ o
  rw[b6.cell (p:=⟨w.heap.size+1+1+1,o,none⟩) (show w.heap.size+1+1+1<_ by omega),b5.cell (p:=⟨w.heap.size+1+1+1,o,none⟩) (show w.heap.size+1+1+1<_ by omega)];exact e
 have c4:∀o,w6.cell? (ap (w.heap.size+1+1+1+1) o)=((cU x):Array Value)[o]?:=fun o=>by
  have e:w5.cell? (ap (w.heap.size+1+1+1+1) o)=((cU x):Array Value)[o]?:=by rw[h5,<-s4];exact pU _ _ _ o
  rw[b6.cell (p:=⟨w.heap.size+1+1+1+1,o,none⟩) (show w.heap.size+1+1+1+1<_ by omega)];exact e
 have c5:∀o,w6.cell? (ap (w.heap.size+1+1+1+1+1) o)=(#[Ak w.heap.size]:Array Value)[o]?:=fun o=>by
  have e:w6.cell? (ap (w.heap.size+1+1+1+1+1) o)=(#[Ak w.heap.size]:Array Value)[o]?:=by rw[h6,<-s5];exact pU _ _ _ o
  exact e
 exact⟨cq,c0 0,c1 0,c2 0,c2 1,c2 2,c2 3,c2 4,c3 0,c4 0,c4 1,c4 2,c4 3,c4 4,c5 0⟩
def GX(D:Nat)(vE:Value)(f:Fc)(bK:Nat)(w:World)(i:Int)(b:Bool):Prop:=∀w1:World,ae w w1->Calls prog 232 #[.pointer (some ⟨D,0,none⟩),vE,.int .i64 i,.agg #[.string f.a,.string f.b,.string f.r,.string f.c,.string f.d],.map<|some bK] w1 fun e w'=>e=.returned (.bool b)/\ae w1 w'
def qJ{w w1:ag}{B D:Nat}{vE:Value}{f:Fc}{bK:Nat}{x:ER}{i:Int}{b:Bool}(hK:GX D vE f bK w i b)(hb:ae w w1)(hB:NdB w1 B D vE f bK x):
  Calls prog 282 #[.int .i64 i,.pointer<|some<|am B,.pointer<|some<|am<|B+1,.pointer<|some<|am<|B+1+1,.pointer<|some<|am<|B+1+1+1] w1 (a8 w1<|.bool b):=by
 have HC:=ah<|hK w1 hb;obtain⟨-,d,e,f0,f1,f2,f3,f4,k,-⟩:=hB;clear hK;go_enter func282,ntmps282;go_wp2_with fail;refine HC.mono ?_;rintro e w2 ⟨rfl,hb2⟩;have HB:=ah hb2;clear hb2;go_wp2;go_ret;exact⟨rfl,HB⟩
def xH{w w1:ag}{B D:Nat}{vE:Value}{f:Fc}{bK:Nat}{x:ER}{i:Int}{b:Bool}(hK:GX D vE f bK w i b)(hb:ae w w1)(hB:NdB w1 B D vE f bK x):
  Calls prog 283 #[.int .i64 i,.pointer<|some<|am<|B+1+1+1+1+1] w1 (a8 w1<|.bool<|!b):=by
 have HC:=ah<|qJ hK hb hB;have hv:=hB.v;unfold Ak at hv;clear hK hB;go_enter func283,ntmps283;go_wp2_with fail;refine HC.mono ?_;rintro e w2 ⟨rfl,hb2⟩;have HB:=ah hb2;clear hb2;go_wp2;go_ret;exact⟨rfl,HB⟩
def VX(xs:Array Value)(u:ag):(callFunc 282 xs).run prog u=.ok (.enter 282 xs) u:=cw
def VY(xs:Array Value)(u:ag):(callFunc 283 xs).run prog u=.ok (.enter 283 xs) u:=cw
def OL(p:Int->Bool){zs:List Int}{k:Nat}(h:k<zs.length):(zs.drop k).any p=(p zs[k] || (zs.drop<|k+1).any p):=by rw[Yi h];rfl
def LW(FC:Nat)(rc cp:Array Value)(p:Int->Bool)(ad:Q02)(cap:Nat)(xs:List Int)(w:ag)(hlen:a7 xs)(hs:uW w ad xs)
  (hrun:∀(ys:Array Value) (u:World),(callFunc FC ys).run prog u=.ok (.enter FC ys) u) (hp:∀x∈xs,∀w1:World,ae w w1->Calls prog FC (rc.push (.int .i64 x)++cp) w1 (a8 w1<|.bool<|p x)) :
  Calls prog 318 #[.slice ad xs.length cap,.func (Fn.func FC) rc cp] w fun e w'=>(∃r:Int,e=.returned (.int .i64 r)/\decide (0<=r)=xs.any p)/\ae w w':=by
 have HS:=ah hs;have HRUN:=ah hrun;have HP:=ah hp;clear hs hrun hp;have HD:O (∀k (h:k<xs.length),(xs.drop k).any p=(p xs[k] || (xs.drop<|k+1).any p)):=fun k h=>OL p h;go_enter func318,ntmps318;go_wp2_with fail;go_loopw[8] (fun i wr=>∃k:Nat,k<=xs.length/\i=.int .i64 k/\O ((xs.drop k).any p=xs.any p)/\O (ae w wr)) (fun i _=>xs.length-(intOf i).toNat);case atStart=>exact⟨0,XP _,rfl,rfl,XL _ _⟩
 obtain⟨k,hk,rfl,HQ,HB⟩:=hrel;by_cases hlt:k<xs.length
 ·obtain⟨b,off,YW,t0,hbl⟩:=uW.at0 (HS.below HB) hlt;have HM:O (xs[k]∈xs):=XI hlt;have hk1:=bG k;have hk2:(k:Int)<(xs.length:Int):=cq;have HD2:=ah<|HD k hlt;subst YW;go_wp2_with fail;rw[HRUN.out,Oper.upon_enter];refine(HP _ HM _ HB).mono ?_;rintro e w1 ⟨rfl,hb1⟩;have HB1:=jr HB hb1;clear hb1 t0;cases he:p xs[k];case true=>
   have HN:O (xs.any p=true):=by show _=_;rw[<-HQ,HD2,he];rfl
   go_wp2;go_ret;exact⟨⟨k,rfl,by rw[HN];simp⟩,HB1⟩
  have HQ2:O ((xs.drop<|k+1).any p=xs.any p):=by show _=_;rw[<-HQ,HD2,he];rfl
  go_wp2;go_roundw;case rel=>exact⟨k+1,cq,cx,HQ2,HB1⟩
  simp[intOf]<;>omega
 have HN:O (xs.any p=false):=by show _=_;rw[<-HQ,Ya cq];rfl
 go_wp2;go_ret;exact⟨⟨-1,rfl,by rw[HN];simp⟩,HB⟩
def uL(FC:Nat)(rc cp:Array Value)(p:Int->Bool)(ad:Q02)(cap:Nat)(xs:List Int)(w:ag)(hlen:a7 xs)(hs:uW w ad xs)
  (hrun:∀(ys:Array Value) (u:World),(callFunc FC ys).run prog u=.ok (.enter FC ys) u) (hp:∀x∈xs,∀w1:World,ae w w1->Calls prog FC (rc.push (.int .i64 x)++cp) w1 (a8 w1<|.bool<|p x)) :
  Calls prog 286 #[.slice ad xs.length cap,.func (Fn.func FC) rc cp] w (a8 w<|.bool<|xs.any p):=by
 have HC:=ah<|LW FC rc cp p ad cap xs w hlen hs hrun hp;clear hs hrun hp;go_enter func286,ntmps286;go_wp2_with fail;refine HC.mono ?_;rintro e w' ⟨⟨r,rfl,hr⟩,hbx⟩;have HR:=ah hr;clear hr;go_wp2;go_ret;exact⟨by rw[<-HR];rfl,hbx⟩
set_option linter.unusedSectionVars false
def lT(sts:List St)(xu:Q0a)(n:Int)(o:Al)(k:Nat):List Fc:=((sts.take k).filter fun s=>s.typ.toList==o.t.toList&&decide (s.n=n)).flatMap fun s=>jH o s.rel xu
def VZ(sts:List St)(xu:Q0a)(n:Int)(o:Al):List Fc:=lT sts xu n o sts.length
def uA(sts:List St)(xo xu:Q0a)(n:Int)(i:Nat):List Fc:=(xo.take i).flatMap<|VZ sts xu n
theorem OM(sts:List St)(xu:Q0a)(n:Int)(o:Al):lT sts xu n o 0=[]:=rfl
def Uu{sts:List St}{xu:Q0a}{n:Int}{o:Al}{k:Nat}(h:k<sts.length)(hc:(sts[k].typ.toList==o.t.toList&&decide (sts[k].n=n))=false):lT sts xu n o (k+1)=lT sts xu n o k:=by
 unfold lT;rw[XM h,YU,YE];simp[hc]
def RH{sts:List St}{xu:Q0a}{n:Int}{o:Al}{k:Nat}(h:k<sts.length)(hc:(sts[k].typ.toList==o.t.toList&&decide (sts[k].n=n))=true):lT sts xu n o (k+1)=lT sts xu n o k++jH o sts[k].rel xu:=by
 unfold lT;rw[XM h,YU,YE];simp[hc]
def OO{sts:List St}{xo xu:Q0a}{n:Int}{i:Nat}(h:i<xo.length):uA sts xo xu n (i+1)=uA sts xo xu n i++lT sts xu n xo[i] sts.length:=by
 unfold uA;rw[XM h,YE];simp[VZ]
def RI{ts:Q0b}{sts:List St}(hk:jg sts=ay ts)(hn:(ay ts).Nodup)(xo xu:Q0a)(n:Int):uA sts xo xu n xo.length=di ts (gI sts) xo xu n:=by
 unfold uA di;rw[X8];congr 1
 funext o
 unfold VZ lT yN;rw[X8,Us hk hn,List.flatMap_map];rfl
def OP(o:Al)(rel:dw){xu:Q0a}{j:Nat}(h:j<xu.length):jH o rel (xu.take<|j+1)=jH o rel (xu.take j)++[⟨o.t,o.s,rel,xu[j].t,xu[j].s⟩]:=by
 unfold jH;rw[XM h,YF];rfl
def qK{e:Ex}(h:aD e=true):e.kids.length<=5/\(e.kind=6->2<=e.kids.length):=by
 unfold aD at h;by_cases k1:e.kind=1
 ·rw[if_pos k1]at h;simp only[XN,XU]at h;exact⟨cq,fun h6=>cq⟩
 by_cases k2:e.kind=2
 ·rw[if_neg k1,if_pos k2]at h;simp only[XN,XU]at h;exact⟨cq,fun h6=>cq⟩
 by_cases k3:e.kind=3
 ·rw[if_neg k1,if_neg k2,if_pos k3]at h;simp only[XN,XU]at h;exact⟨cq,fun h6=>cq⟩
 by_cases k4:e.kind=4\/e.kind=5
 ·rw[if_neg k1,if_neg k2,if_neg k3,if_pos k4]at h;simp only[XN,XU]at h;exact⟨cq,fun h6=>cq⟩
 by_cases k6:e.kind=6
 ·rw[if_neg k1,if_neg k2,if_neg k3,if_neg k4,if_pos k6]at h;simp only[XN,XU]at h;exact⟨cq,fun h6=>cq⟩
 rw[if_neg k1,if_neg k2,if_neg k3,if_neg k4,if_neg k6]at h;cases h
def AU{rows:Q08}(h:aS (au rows)=true):NodOk rows/\1<=rows.length:=by
 have hl:1<=rows.length/\rows.length<=15:=by
  unfold aS at h;simp only[XN,XU,aX]at h;exact⟨h.1.1.1.1.1,h.1.1.1.1.2⟩
 have hlow:=Lb h;have hkl:∀q∈rows,q.e.kids.length<=1000:=fun q hq=>by
  have:=(qK<|iY h q.e<|XW.2 ⟨q,hq,rfl⟩).1;omega
 refine⟨⟨cq,hkl,hlow,fun e he h6=>?_⟩,hl.1⟩;exact(qK<|iY h e he).2 h6
section
variable  [DecidableEq Fc]
def ug(H:List Fc->Fc->Bool)(qs:Q04)(f:Fc)(out:Q04):dh H (qs++[f]) out=fJ H (dh H qs out) f:=by rw[Im];rfl
def xI{H:List Fc->Fc->Bool}{out:Q04}{f:Fc}(h:aR out f=true\/H out f=false):fJ H out f=out:=by
 unfold fJ;rw[if_pos];rcases h with h|h
 ·exact .inl<|aU.1 h
 exact .inr h
def FE{H:List Fc->Fc->Bool}{out:Q04}{f:Fc}(h1:aR out f=false)(h2:H out f=true):fJ H out f=out++[f]:=by
 unfold fJ;rw[if_neg];rintro(h|h)
 ·rw[aU.2 h]at h1;cases h1
 rw[h2]at h;cases h
def Jm(H:List Fc->Fc->Bool)(qs out:Q04):out.length<=(dh H qs out).length:=by
 obtain⟨n,e,-⟩:=lG (H:=H) qs out;rw[e,XT];omega
def LX{H:List Fc->Fc->Bool}{qs out:Q04}(h:decide (out.length<(dh H qs out).length)=false):dh H qs out=out:=by
 obtain⟨n,e,-⟩:=lG (H:=H) qs out;rw[e,XT,decide_eq_false_iff_not]at h;have:n=[]:=X0.1 cq;rw[e,this,YB]
end
end Go.Proofs.YtojjoblnpldniaaGreat
