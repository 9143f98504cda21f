/- Contract of the program's function on the least strata. -/
import Derived.Test.YtajkkeikihhejaaGreatSq
import Derived.Laws.EntriesVeiled
import Derived.Test.YtajkkeikihhejaaGreatJ27
open Go.Proofs.Tryz
set_option maxHeartbeats 80000000
namespace Go.Proofs.YtajkkeikihhejaaGreat
open ChangeShapes WideShapes ChangeAt RowKit Maps
open Pl
def Ql(ts:Q0b)(w:World)(e:Ending)(w':World):Prop :=
 ((∃(b n:Nat) (σ:Ky->Option Int),e=.returned (.tuple #[.map (some b),.bool true])/\aK dV prog 94 w' b n (jd σ)/\Least ts (fun k=>(σ k).getD 0)/\∀k,(∃x,σ k=some x)↔k∈au ts)\/(e=.returned (.tuple #[.map none,.bool false])/\¬ ∃f,Sol ts f))/\ae w w'
theorem Qm(N:Nat)(ks:List Ky):nY N (fun _=>none) ks=N*ks.length:=by
 induction ks with
 | nil=>simp[nY]
 | cons k ks ih=>simp only[nY,ih,xz,Vq];push_cast;rw[Int.mul_add];omega
theorem Nl{rs:Q06}(hf:∀r∈rs,r.fits):∀k∈au (ag rs),k.1.size<=maxLen/\k.2.size<=maxLen:=by
 intro k hk;obtain⟨t,ht,r,hr,rfl⟩:=qH.1 hk;obtain⟨t',ht',rfl⟩:=U7.1 ht;obtain⟨q,hq,rfl⟩:=U7.1 hr;exact⟨(hf t' ht').1,((hf t' ht').2.2 q hq).1⟩
set_option maxRecDepth 100000 in
theorem yU(ad:Q02)(cap:Nat)(rs:Q06)(bL nL:Nat)(ML:Ky->Option Value)(E:List (Ky×St))(w:af)(hlen:rs.length<=6)(hs:kU w ad rs)(hf:∀r∈rs,r.fits)(hrl:∀r∈rs,r.rows.length<=6)(hG:Grp w bL nL ML E)(hE:Edge (ag rs) E)(hF:Found (ag rs))(hEl:E.length<=100000):
  Calls prog 133 #[.slice ad rs.length cap,.map (some bL)] w (Ql (ag rs) w):=by
 have HS:=aC hs;have Wl:=aC hf;have HRL:Hid (∀r∈rs,r.rows.length<=6):=hrl;have HG:Hid (Grp w bL nL ML E):=hG;have HE:=aC hE;have HF:=aC hF;have HBL:Hid (bL<w.heap.size):=hG.map.lt;clear hs hf hrl hG hE hF;have hmm:=@run_makeMap prog;go_enter func133,ntmps133;have HB0:Hid (ae w ((w.alloc (.cells #[.map (some bL)] 211)).alloc (.cells #[.int .i64 0] 2))):=((UV _ _).alloc (UU _) _).alloc (by simp) _;have Xg:Hid (((w.alloc (.cells #[.map (some bL)] 211)).alloc (.cells #[.int .i64 0] 2)).cell? ⟨w.heap.size,0,none⟩=some (.map (some bL))/\((w.alloc (.cells #[.map (some bL)] 211)).alloc (.cells #[.int .i64 0] 2)).cell? ⟨w.heap.size+1,0,none⟩=some (.int .i64 0)/\((w.alloc (.cells #[.map (some bL)] 211)).alloc (.cells #[.int .i64 0] 2)).frozen? ⟨w.heap.size+1,0,none⟩=false/\w.heap.size+1<((w.alloc (.cells #[.map (some bL)] 211)).alloc (.cells #[.int .i64 0] 2)).heap.size):=⟨by simp,by simp,by simp,by simp⟩;go_wp2_with fail;go_loopw[17] (fun i wr=>∃k:Nat,k<=rs.length/\i=.int .i64 k/\Hid (ae w wr)/\Hid (wr.cell? ⟨w.heap.size,0,none⟩=some (.map (some bL))/\wr.cell? ⟨w.heap.size+1,0,none⟩=some (.int .i64 ((dE rs k).length:Int))/\wr.frozen? ⟨w.heap.size+1,0,none⟩=false/\w.heap.size+1<wr.heap.size)) (fun i _=>rs.length-(intOf i).toNat);case atStart=>exact⟨0,UY _,rfl,HB0,Xg⟩
 clear HB0 Xg;obtain⟨k,hk,rfl,HB,HC⟩:=hrel;obtain⟨c0,c1,c2,c3⟩:=HC.out;have hu:=xh rs HRL.out k;by_cases hlt:k<rs.length
 ·rcases HS.out.below HB.out with rfl|⟨b,off,rfl,hb,hr,-⟩
  ·simp at hlt
  obtain⟨t0,t1⟩:=hr k hlt;have hk1:=bG k;have hk2:(k:Int)<(rs.length:Int):=by omega
  have h6:=HRL.out _ (UR hlt);have Xd:Hid ((dE rs (k+1)).length=(dE rs k).length+rs[k].rows.length):=by show _=_;rw[oV _ _ hlt,U2];simp[jc]
  obtain⟨cn,hcn⟩:∃cn,cn=(dE rs k).length:=⟨_,rfl⟩;rw[<-hcn]at c1 hu Xd;have HB1:Hid (ae w ((wr.setCell ⟨w.heap.size+1,0,none⟩ (.int .i64 ((cn:Int)+(rs[k].rows.length:Int)))).alloc (.cells #[.string rs[k].name,.slice rs[k].ad rs[k].rows.length rs[k].cap] 127))):=(HB.out.setCell (p:=⟨w.heap.size+1,0,none⟩) (by simp) _).alloc (by simpa using HB.out.size) _;have Xr:Hid (((wr.setCell ⟨w.heap.size+1,0,none⟩ (.int .i64 ((cn:Int)+(rs[k].rows.length:Int)))).alloc (.cells #[.string rs[k].name,.slice rs[k].ad rs[k].rows.length rs[k].cap] 127)).cell? ⟨w.heap.size,0,none⟩=some (.map (some bL))/\((wr.setCell ⟨w.heap.size+1,0,none⟩ (.int .i64 ((cn:Int)+(rs[k].rows.length:Int)))).alloc (.cells #[.string rs[k].name,.slice rs[k].ad rs[k].rows.length rs[k].cap] 127)).cell? ⟨w.heap.size+1,0,none⟩=some (.int .i64 ((dE rs (k+1)).length:Int))/\((wr.setCell ⟨w.heap.size+1,0,none⟩ (.int .i64 ((cn:Int)+(rs[k].rows.length:Int)))).alloc (.cells #[.string rs[k].name,.slice rs[k].ad rs[k].rows.length rs[k].cap] 127)).frozen? ⟨w.heap.size+1,0,none⟩=false/\w.heap.size+1<((wr.setCell ⟨w.heap.size+1,0,none⟩ (.int .i64 ((cn:Int)+(rs[k].rows.length:Int)))).alloc (.cells #[.string rs[k].name,.slice rs[k].ad rs[k].rows.length rs[k].cap] 127)).heap.size):=by
   obtain⟨X,hX⟩:∃X,X=wr.setCell ⟨w.heap.size+1,0,none⟩ (.int .i64 ((cn:Int)+(rs[k].rows.length:Int))):=⟨_,rfl⟩;have hXs:X.heap.size=wr.heap.size:=by rw[hX];simp
   have hB:ae X (X.alloc (.cells #[.string rs[k].name,.slice rs[k].ad rs[k].rows.length rs[k].cap] 127)):=(UV _ _).alloc (UU _) _;rw[<-hX];refine⟨aH hB (by omega) (by rw[hX,xX (by omega)];exact c0),aH hB (by omega) (by rw[hX,Xd.out];push_cast;exact zy c1),?_,by simp;omega⟩;rw[hB.frozen (p:=⟨w.heap.size+1,0,none⟩) (by simp;omega),hX];simpa using c2
  clear hr hcn HC;go_wp2;go_roundw;case rel=>exact⟨k+1,by omega,by go_num,HB1,Xr⟩
  simp[intOf]<;>omega
 obtain rfl:k=rs.length:=by omega
 have hEN:dE rs rs.length=au (ag rs):=by unfold dE;rw[Va]
 rw[hEN]at c1 hu;obtain⟨N,hN⟩:∃N,N=(au (ag rs)).length:=⟨_,rfl⟩;rw[<-hN]at c1 hu;have XV:Hid (N=(au (ag rs)).length):=hN;have HEN:Hid (dE rs rs.length=au (ag rs)):=hEN;have hN36:N<=36:=by omega
 have hbl:=HBL.out;have hwr:w.heap.size<=wr.heap.size:=HB.out.size;obtain⟨W0,hW0⟩:∃W0,W0=(((wr.alloc (.map #[] 0)).alloc (.cells #[.map (some wr.heap.size)] 153)).alloc (.cells #[(.func (Fn.func 186) #[] #[.pointer (some ⟨wr.heap.size+1,0,none⟩),.pointer (some ⟨w.heap.size+1,0,none⟩),.pointer (some ⟨w.heap.size,0,none⟩),.pointer (some ⟨wr.heap.size+1+1,0,none⟩)])] 270)):=⟨_,rfl⟩;have hal:ae wr W0:=by
  rw[hW0]
  repeat(first|exact UV _ _|refine Below.alloc ?_ (by first|(simp;done)|(simp;omega)) _)
 have hs0:W0.heap.size=wr.heap.size+3:=by rw[hW0];simp
 have HRW:Hid (Rw W0 (wr.heap.size+1) (w.heap.size+1) w.heap.size (wr.heap.size+1+1) wr.heap.size bL N 0 nL ML E (fun _=>none)):=by
  have hGr:Grp wr bL nL ML E:=HG.out.below HB.out;have hMV:aK dV prog 94 W0 wr.heap.size 0 (jd (fun _=>none)):=by
   have h1:=lK dV prog 94 wr;have e1:jd (fun _=>none)=fun _=>none:=by funext k;rfl
   rw[e1];refine h1.below ?_;rw[hW0]
   repeat(first|exact UV _ _|refine Below.alloc ?_ (by first|(simp;done)|(simp;omega)) _)
  have hcS:W0.cell? ⟨wr.heap.size+1,0,none⟩=some (.map (some wr.heap.size)):=by
   rw[hW0];exact aH ((UV _ _).alloc (UU _) _) (by simp) (NV wr _ _ _ 0 rfl)
  have hcR:W0.cell? ⟨wr.heap.size+1+1,0,none⟩=some (ES (wr.heap.size+1) (w.heap.size+1) w.heap.size (wr.heap.size+1+1)):=by
   rw[hW0];exact Ta _ _ _ _ _ _ rfl
  exact⟨hcS,aH hal (by omega) c1,aH hal (by omega) c0,hcR,by omega,by omega,by omega,by omega,hMV,hGr.below hal,by omega,hGr.fresh (UU _)⟩
 have HB0:=jR HB hal;clear hu hEN hN hal HC;go_wp2_with fail;rw[<-hW0];clear hW0 c0 c1 c2 c3 HB;obtain⟨bS,hbS⟩:∃bS,bS=wr.heap.size:=⟨_,rfl⟩;obtain⟨gS,hgS⟩:∃gS,gS=wr.heap.size+1:=⟨_,rfl⟩;obtain⟨gR,hgR⟩:∃gR,gR=wr.heap.size+1+1:=⟨_,rfl⟩;obtain⟨gC,hgC⟩:∃gC,gC=w.heap.size+1:=⟨_,rfl⟩;obtain⟨gL,hgL⟩:∃gL,gL=w.heap.size:=⟨_,rfl⟩;have hb1:w.heap.size<=bS:=by omega
 have HRW2:Hid (Rw W0 gS gC gL gR bS bL N 0 nL ML E (fun _=>none)):=by rw[hbS,hgS,hgR,hgC,hgL];exact HRW
 have HI0:Hid (∃(σ:Ky->Option Int) (n:Nat),Rw W0 gS gC gL gR bS bL N n nL ML E σ/\Rz (ag rs) N σ/\(n:Int)+nY N σ (au (ag rs))<=2000/\Raised E (fun _=>none) σ/\∀key∈dE rs 0,∃x,σ key=some x):=by
  refine⟨fun _=>none,0,HRW2.out,⟨fun k x h=>by cases h⟩,?_,Raised.refl _ _,fun k hk=>by simp[dE,ag,au]at hk⟩;rw[Qm,<-XV.out];have h1:(N:Int)*N<=36*36:=Int.mul_le_mul (by omega) (by omega) (by omega) (by omega)
  push_cast;omega
 rw[<-hgR,<-hgS,<-hbS,<-hgC,<-hgL];clear HRW HRW2 hs0 hmm hgR hgS hbS hgC hgL;go_loopw[31] (fun i w2=>∃k:Nat,k<=rs.length/\i=.int .i64 k/\Hid (ae w w2)/\Hid (∃(σ:Ky->Option Int) (n:Nat),Rw w2 gS gC gL gR bS bL N n nL ML E σ/\Rz (ag rs) N σ/\(n:Int)+nY N σ (au (ag rs))<=2000/\Raised E (fun _=>none) σ/\∀key∈dE rs k,∃x,σ key=some x)) (fun i _=>rs.length-(intOf i).toNat);case atStart=>exact⟨0,UY _,rfl,HB0,HI0⟩
 clear HB0 HI0;obtain⟨k,hk,rfl,HB,HI⟩:=hrel;by_cases hlt:k<rs.length
 ·rcases HS.out.below HB.out with rfl|⟨b,off,rfl,hb,hr,-⟩
  ·simp at hlt
  obtain⟨t0,t1⟩:=hr k hlt;have hk1:=bG k;have hk2:(k:Int)<(rs.length:Int):=by omega
  have h6:=HRL.out _ (UR hlt);obtain⟨W1,hW1⟩:∃W1,W1=wr.alloc (.cells #[.string rs[k].name,.slice rs[k].ad rs[k].rows.length rs[k].cap] 127):=⟨_,rfl⟩;have hal:ae wr W1:=by rw[hW1];exact(UV _ _).alloc (UU _) _
  obtain⟨g12,YP⟩:∃g12,g12=wr.heap.size:=⟨_,rfl⟩;have hbw:bS<wr.heap.size:=by obtain⟨σ,n,hR,-⟩:=HI.out;exact hR.map.lt
  have HC12:Hid (W1.cell? ⟨g12,0,none⟩=some (.string rs[k].name)/\g12<W1.heap.size/\g12≠bS):=⟨by rw[hW1,YP];simp,by rw[hW1,YP];simp,by omega⟩;have HB1:=jR HB hal;have HI1:Hid (∃(σ:Ky->Option Int) (n:Nat),Rw W1 gS gC gL gR bS bL N n nL ML E σ/\Rz (ag rs) N σ/\(n:Int)+nY N σ (au (ag rs))<=2000/\Raised E (fun _=>none) σ/\∀key∈dE rs k,∃x,σ key=some x):=by
   obtain⟨σ,n,hR,h2⟩:=HI.out;exact⟨σ,n,hR.below hal,h2⟩
  clear hr hal HI HB;go_wp2_with fail;rw[<-hW1,<-YP];clear hW1 t0 t1 YP;go_loopw[38] (fun i w3=>∃j:Nat,j<=rs[k].rows.length/\i=.int .i64 j/\Hid (ae w w3)/\Hid (w3.cell? ⟨g12,0,none⟩=some (.string rs[k].name)/\g12<w3.heap.size/\g12≠bS)/\Hid (∃(σ:Ky->Option Int) (n:Nat),Rw w3 gS gC gL gR bS bL N n nL ML E σ/\Rz (ag rs) N σ/\(n:Int)+nY N σ (au (ag rs))<=2000/\Raised E (fun _=>none) σ/\∀key∈dE rs k++jc rs[k] j,∃x,σ key=some x)) (fun i _=>rs[k].rows.length-(intOf i).toNat);case atStart=>exact⟨0,UY _,rfl,HB1,HC12,by simpa[jc] using HI1⟩
  clear HB1 HC12 HI1;obtain⟨j,hj,rfl,HB,HC,HI⟩:=hrel;by_cases hjl:j<rs[k].rows.length
  ·rcases HS.out.below HB.out with hnil|⟨b',off',he,hb2,hr,hok⟩
   ·rw[hnil]at hlt;simp at hlt
   injection he with he;injection he with he1 he2;subst he1;subst he2;have ok:=hok rs[k] (UR hlt);rcases ok with hnil|⟨b2,Wz,had,hbb,hr2,-⟩
   ·rw[hnil]at hjl;simp at hjl
   obtain⟨q0,q1⟩:=hr2 j hjl;have hj1:=bG j;have hj2:(j:Int)<(rs[k].rows.length:Int):=by omega
   obtain⟨σ,n,hR,hZ,hn,hRa,hall⟩:=HI.out;obtain⟨x0,x1,x2⟩:=HC.out;have cR:=hR.cR;unfold ES at cR;have lR:=hR.lR.1;obtain⟨W3,hW3⟩:∃W3,W3=wr.alloc (.cells #[.string rs[k].rows[j].name,.slice rs[k].rows[j].ad rs[k].rows[j].rows.length rs[k].rows[j].cap] 147):=⟨_,rfl⟩;have hal:ae wr W3:=by rw[hW3];exact(UV _ _).alloc (UU _) _
   have HR3:=aC (hR.below hal);have HZ3:=aC hZ;have HB3:=jR HB hal;have Z9:Hid (W3.cell? ⟨g12,0,none⟩=some (.string rs[k].name)/\g12<W3.heap.size/\g12≠bS):=⟨aH hal x1 x0,UT x1 hal.size,x2⟩;have YX:Hid (Raised E (fun _=>none) σ):=hRa;have Ws:Hid (∀key∈dE rs k++jc rs[k] j,∃x,σ key=some x):=hall;have hmp:=hZ.mu_pos (au (ag rs));have HKM:Hid ((rs[k].name,rs[k].rows[j].name)∈au (ag rs)):=qH.2 ⟨rs[k].p,Vp (UR hlt),rs[k].rows[j].p,Vp (UR hjl),rfl⟩;rw[had];clear hr hok hr2 hal hR hZ hRa hall HI HB HC;go_wp2_with fail;rw[<-hW3];clear hW3 q0 q1 cR x0;refine(Ml (ag rs) gS gC gL gR bS bL N nL ML E HE.out HF.out XV.out hN36 (Nl Wl.out) hEl (nY N σ (au (ag rs))).toNat _ σ n (rs[k].name,rs[k].rows[j].name) 0 HR3.out HZ3.out (by omega) (by omega) HKM.out (by omega) (by omega) (qD.zero _ _)).mono ?_;rintro e w5 ⟨ok,σ5,n5,rfl,hg5,Wy,hZ5,hn5,YN,hf5,ht5⟩;have Xt:Hid (ae w w5):=HB3.out.grown hg5 HB3.out.size (fun i hi=>by injection hi with hi;omega);cases ok;case false=>
    have HP:Hid (Ql (ag rs) w (.returned (.tuple #[.map none,.bool false])) w5):=⟨.inr ⟨rfl,hf5 rfl⟩,Xt.out⟩;clear hg5 Wy hZ5 hn5 YN hf5 ht5;go_wp2;refine bodyPost_ret (v:=.tuple #[.map none,.bool false]) ?_ rfl HP.out;simp[results,Tryz.results133,go_sem]
   have HI5:Hid (∃(σ:Ky->Option Int) (n:Nat),Rw w5 gS gC gL gR bS bL N n nL ML E σ/\Rz (ag rs) N σ/\(n:Int)+nY N σ (au (ag rs))<=2000/\Raised E (fun _=>none) σ/\∀key∈dE rs k++jc rs[k] (j+1),∃x,σ key=some x):=by
    obtain⟨hRa,y,hy,-⟩:=ht5 rfl;refine⟨σ5,n5,Wy,hZ5,by omega,YX.out.trans hRa,fun key hk=>?_⟩;rw[ui _ _ hjl,<-Vm]at hk;rcases U6.1 hk with hk|hk
    ·obtain⟨x,hx⟩:=Ws.out key hk;obtain⟨z,hz,-⟩:=hRa.mono key x hx;exact⟨z,hz⟩
    simp at hk;subst hk;exact⟨y,hy⟩
   have HC5:Hid (w5.cell? ⟨g12,0,none⟩=some (.string rs[k].name)/\g12<w5.heap.size/\g12≠bS):=⟨(kJ hg5 Z9.out.2 0).trans Z9.out.1,UT Z9.out.2.1 hg5.size,Z9.out.2.2⟩;clear hg5 Wy hZ5 hn5 YN hf5 ht5;go_wp2;go_roundw;case rel=>exact⟨j+1,by omega,by go_num,Xt,HC5,HI5⟩
   simp[intOf]<;>omega
  obtain rfl:j=rs[k].rows.length:=by omega
  have HI5:Hid (∃(σ:Ky->Option Int) (n:Nat),Rw wr gS gC gL gR bS bL N n nL ML E σ/\Rz (ag rs) N σ/\(n:Int)+nY N σ (au (ag rs))<=2000/\Raised E (fun _=>none) σ/\∀key∈dE rs (k+1),∃x,σ key=some x):=by rw[oV _ _ hlt];exact HI
  clear HI;go_wp2;go_roundw;case rel=>exact⟨k+1,by omega,by go_num,HB,HI5⟩
  simp[intOf]<;>omega
 obtain rfl:k=rs.length:=by omega
 obtain⟨σ,n,hR,hZ,hn,hRa,hall⟩:=HI.out;have cS:=hR.cS;have HP:Hid (Ql (ag rs) w (.returned (.tuple #[.map (some bS),.bool true])) wr):=by
  rw[HEN.out]at hall;refine⟨.inl ⟨bS,n,σ,rfl,hR.map,EP HE.out HF.out hZ hall (fun k=>hRa.done k (.inl (fun x h=>by cases h))),fun k=>⟨fun⟨x,hx⟩=>(hZ.there k x hx).1,hall k⟩⟩,HB.out⟩
 clear hR hZ hn hRa hall HI;go_wp2;refine bodyPost_ret (v:=.tuple #[.map (some bS),.bool true]) ?_ rfl HP.out;simp[results,Tryz.results133,go_sem]
theorem Nn(ng:Bool)(xs:Q0a):dz ng xs=(dL xs).map fun a=>(⟨a.t,a.s,ng⟩:Dp):=by
 induction xs with
 | nil=>rfl
 | cons a xs ih=>simp only[dz,dL];split<;>simp[ih]
theorem D8(ts:Q0b)(typ:bQ)(ng:Bool)(e:Ex)(hn:ax e=true)(hd:e.kind=3->bH (aB ts typ e.over)=true):dz ng e.allow++kZ ts typ ng e=(jq ts typ e).map fun a=>(⟨a.t,a.s,ng⟩:Dp):=by
 by_cases h1:e.kind=1
 ·unfold kZ jq;rw[if_neg (by omega),if_neg (by omega),if_pos h1,VK,Nn]
 rw[uq hn h1];unfold kZ jq;rw[if_neg h1];by_cases h2:e.kind=2
 ·rw[if_pos h2,if_pos h2];rfl
 rw[if_neg h2,if_neg h2];by_cases h3:e.kind=3
 ·rw[if_pos h3,if_pos h3];unfold gI;rw[if_pos (hd h3),List.map_map];rfl
 rw[if_neg h3,if_neg h3];rfl
theorem D9{ts:Q0b}{typ:ByteArray}{es:Q09}{d:Dp}{i:Nat}(hd:d∈iy ts typ es i):∀{k:Nat},i<k->d∈aR ts typ es k
 | 0,h=>by omega
 | k+1,h=>by
  simp only[aR];by_cases e:i=k
  ·subst e;exact U6.2 (.inr hd)
  exact U6.2 (.inl (D9 hd (by omega)))
theorem BO{ts:Q0b}{t r:ByteArray}{es:Q09}{x:Ky×St}:∀{k:Nat},x∈relE ts t r es k ↔ ∃i,i<k/\∃e,es[i]?=some e/\x∈AP ts t r ((dD es).getD i false) e
 | 0=>by simp[relE]
 | k+1=>by
  simp only[relE,U6];rw[BO];constructor
  ·rintro(⟨i,hi,h⟩|h)
   ·exact⟨i,by omega,h⟩
   cases e:es[k]? with
   | none=>rw[e]at h;cases h
   | some y=>rw[e]at h;exact⟨k,by omega,y,e,h⟩
  rintro⟨i,hi,e,he,h⟩;by_cases ek:i=k
  ·subst ek;right;rw[he];exact h
  exact .inl ⟨i,by omega,e,he,h⟩
theorem pz{rs:Q06}(h:bu (ag rs)=true){t:TR}(ht:t∈rs){q:RR}(hq:q∈t.rows):eG (ag rs) t.name q.name=some (ak q.rows):=by
 have hT:=o6 h;have hs:=sO (M:=fun _=>none) (rs:=rs) (k:=(t.name,q.name)) (.inr ⟨t,ht,q,hq,rfl⟩);obtain⟨v,hv⟩:=Option.isSome_iff_exists.1 hs;obtain⟨t',ht',q',hq',e,-,e2,-⟩:=hT.yes _ v hv;injection e with e3 e4;have h1:t=t':=Gr h ht ht' e3;subst h1;obtain⟨i,hi,rfl⟩:=Vx.1 ht;have h2:q=q':=Gt (lQ h i hi).2.2 hq hq' e4;subst h2;exact e2
theorem iE{es:Q09}(h:aL es=true):∀e∈es,ax e=true:=by
 simp only[aL,UW]at h;exact U5.1 h.1.1.1.2
theorem H6(t r:bQ)(ng:Bool):stepOf ⟨t,r,ng⟩=yu ng:=by cases ng<;>rfl
theorem RQ{rs:Q06}(h:bu (ag rs)=true)(hr:iL (ag rs)=true):Edge (ag rs) (jv (ag rs) rs):=by
 have V4:∀t∈rs,∀q∈t.rows,∀e∈ak q.rows,ax e=true/\(e.kind=3->bH (aB (ag rs) t.name e.over)=true):=by
  intro t ht q hq e he;have h1:=((bF h).2.2 t ht q hq).1;refine⟨iE h1 e he,fun h3=>?_⟩;unfold iL at hr;rw[U5]at hr;have h2:=hr t.p (Vp ht);unfold qF at h2;rw[U5]at h2;have h4:aW (ag rs) t.name (ak q.rows)=true:=h2 q.p (Vp hq);have h5:=(Dc h4 e he).2;unfold lI at h5;rw[if_neg (by omega),if_pos h3,UW]at h5;exact h5.1
 intro on t0 r0 s;constructor
 ·intro hm;unfold jv jr at hm;rw[U8]at hm;obtain⟨t,ht,hm⟩:=hm;rw[U8]at hm;obtain⟨q,hq,hm⟩:=hm;obtain⟨i,hi,e,he,hm⟩:=BO.1 hm;unfold AP at hm;obtain⟨a,ha,e1⟩:=U7.1 hm;injection e1 with e2 e3;injection e3 with e4 e5 e6;subst e4;subst e5;refine⟨qH.2 ⟨t.p,Vp ht,q.p,Vp hq,rfl⟩,⟨a.t,a.s,(dD (ak q.rows)).getD i false⟩,?_,e2,by rw[H6];exact e6⟩;unfold iB pV;have ero:aB (ag rs) t.name q.name=ak q.rows:=by unfold aB;rw[pz h ht hq];rfl
  simp only[ero];have hi2:i<(ak q.rows).length:=(List.getElem?_eq_some_iff.1 he).1;refine D9 (i:=i) ?_ hi2;unfold iy;rw[he];obtain⟨n1,n2⟩:=V4 t ht q hq e (VQ he);simp only;rw[D8 _ _ _ _ n1 n2];exact Vp (f:=fun a:Al=>(⟨a.t,a.s,(dD (ak q.rows)).getD i false⟩:Dp)) ha
 rintro⟨hk,d,hd,e1,e2⟩;obtain⟨t',ht',r',hr',e3⟩:=qH.1 hk;obtain⟨t,ht,rfl⟩:=U7.1 ht';obtain⟨q,hq,rfl⟩:=U7.1 hr';injection e3 with e4 e5;subst e4;subst e5;unfold iB pV at hd;have ero:aB (ag rs) t.p.name q.p.name=ak q.rows:=by
  have:=pz h ht hq;show aB (ag rs) t.name q.name=_;unfold aB;rw[this];rfl
 simp only[ero]at hd;obtain⟨i,hi,hd⟩:=uh hd;unfold iy at hd;split at hd
 ·cases hd
 rename_i e he;obtain⟨n1,n2⟩:=V4 t ht q hq e (VQ he);have hdn:dz ((dD (ak q.rows)).getD i false) e.allow++kZ (ag rs) t.p.name ((dD (ak q.rows)).getD i false) e=_:=D8 (ag rs) t.name _ e n1 n2;rw[hdn]at hd;obtain⟨a,ha,rfl⟩:=U7.1 hd;unfold jv jr;rw[U8];refine⟨t,ht,?_⟩;rw[U8];refine⟨q,hq,BO.2 ⟨i,by rw[aQ]at hi;exact hi,e,he,?_⟩⟩;unfold AP;rw[U7];refine⟨a,ha,?_⟩;rw[<-e1,<-e2,H6];rfl
theorem Qn{rs:Q06}(h:bu (ag rs)=true):∀r∈rs,∀q∈r.rows,∀e∈q.rows,e.e.allow.length<=6:=by
 intro r hr q hq e he;have h1:=iE ((bF h).2.2 r hr q hq).1 e.e (by unfold ak;exact Vp he);by_cases h2:e.e.kind=1
 ·unfold ax at h1;rw[if_pos h2]at h1;simp only[UW,eD,U3]at h1;exact h1.1.1.1.1.2
 rw[uq h1 h2];simp
theorem q9{α β:Type}(f:α->List β)(B:Nat):∀(xs:List α),(∀x∈xs,(f x).length<=B)->(xs.flatMap f).length<=xs.length*B
 | [],_=>by simp
 | x::xs,h=>by
  rw[Vo,U2,Vq,Nat.succ_mul];have h1:=h x (by simp);have h2:=q9 f B xs fun q hq=>h q (by simp[hq]);omega
theorem Np(rs:Q06)(h6:∀r∈rs,r.rows.length<=6)(hex:∀r∈rs,∀q∈r.rows,aL (ak q.rows)=true/\q.rows.length<=15/\∀e∈q.rows,fe q.rows.length e.e.kids)(h66:∀r∈rs,∀q∈r.rows,∀e∈q.rows,e.e.allow.length<=6)(hl:rs.length<=6:=by omega):(jv (ag rs) rs).length<=100000:=by
 have h1:∀t∈rs,(jr (ag rs) t.name t.rows).length<=540:=by
  intro t ht;have h2:∀q∈t.rows,(relE (ag rs) t.name q.name (ak q.rows) q.rows.length).length<=90:=by
   intro q hq;have h3:∀k,k<=q.rows.length->(relE (ag rs) t.name q.name (ak q.rows) k).length<=k*6:=by
    intro k
    induction k with
    | zero=>intro _;simp[relE]
    | succ k ih =>
     intro hk;rw[Dt _ _ _ _ _ (by omega) _ rfl,U2];have h4:=ih (by omega);have h5:(AP (ag rs) t.name q.name ((dD (ak q.rows)).getD k false) q.rows[k].e).length<=6:=by
      unfold AP;rw[Vt];exact Du rs h66 _ _ (h66 t ht q hq _ (UR (by omega)))
     omega
   have h4:=h3 q.rows.length (UU _);have h5:=(hex t ht q hq).2.1;omega
  have h3:=q9 (fun q:RR=>relE (ag rs) t.name q.name (ak q.rows) q.rows.length) 90 t.rows h2;have h4:=h6 t ht;unfold jr;omega
 have h2:=q9 (fun t:TR=>jr (ag rs) t.name t.rows) 540 rs h1;unfold jv;omega
set_option linter.unusedSectionVars false
set_option linter.unusedVariables false
def kM(sts:List St)(xu:Q0a)(n:Int)(o:Al)(k:Nat):List Fc:=((sts.take k).filter fun s=>s.typ.toList==o.t.toList&&decide (s.n=n)).flatMap fun s=>jg o s.rel xu
def TL(sts:List St)(xu:Q0a)(n:Int)(o:Al):List Fc:=kM sts xu n o sts.length
def sI(sts:List St)(xo xu:Q0a)(n:Int)(i:Nat):List Fc:=(xo.take i).flatMap (TL sts xu n)
theorem Nq(sts:List St)(xu:Q0a)(n:Int)(o:Al):kM sts xu n o 0=[]:=rfl
theorem RU{sts:List St}{xu:Q0a}{n:Int}{o:Al}{k:Nat}(h:k<sts.length)(hc:(sts[k].typ.toList==o.t.toList&&decide (sts[k].n=n))=false):kM sts xu n o (k+1)=kM sts xu n o k:=by
 unfold kM;rw[UX h,VZ,VE];simp[hc]
theorem Qo{sts:List St}{xu:Q0a}{n:Int}{o:Al}{k:Nat}(h:k<sts.length)(hc:(sts[k].typ.toList==o.t.toList&&decide (sts[k].n=n))=true):kM sts xu n o (k+1)=kM sts xu n o k++jg o sts[k].rel xu:=by
 unfold kM;rw[UX h,VZ,VE];simp[hc]
theorem Nr{sts:List St}{xo xu:Q0a}{n:Int}{i:Nat}(h:i<xo.length):sI sts xo xu n (i+1)=sI sts xo xu n i++kM sts xu n xo[i] sts.length:=by
 unfold sI;rw[UX h,VE];simp[TL]
theorem Qp{ts:Q0b}{sts:List St}(hk:iM sts=au ts)(hn:(au ts).Nodup)(xo xu:Q0a)(n:Int):sI sts xo xu n xo.length=df ts (fQ sts) xo xu n:=by
 unfold sI df;rw[Va];congr 1
 funext o
 unfold TL kM vQ;rw[Va,RP hk hn,List.flatMap_map];rfl
theorem Ns(o:Al)(rel:bQ){xu:Q0a}{j:Nat}(h:j<xu.length):jg o rel (xu.take (j+1))=jg o rel (xu.take j)++[⟨o.t,o.s,rel,xu[j].t,xu[j].s⟩]:=by
 unfold jg;rw[UX h,VG];rfl
theorem pE{e:Ex}(h:ax e=true):e.kids.length<=5/\(e.kind=6->2<=e.kids.length):=by
 unfold ax at h;by_cases k1:e.kind=1
 ·rw[if_pos k1]at h;simp only[UW,U3]at h;exact⟨by omega,fun h6=>by omega⟩
 by_cases k2:e.kind=2
 ·rw[if_neg k1,if_pos k2]at h;simp only[UW,U3]at h;exact⟨by omega,fun h6=>by omega⟩
 by_cases k3:e.kind=3
 ·rw[if_neg k1,if_neg k2,if_pos k3]at h;simp only[UW,U3]at h;exact⟨by omega,fun h6=>by omega⟩
 by_cases k4:e.kind=4\/e.kind=5
 ·rw[if_neg k1,if_neg k2,if_neg k3,if_pos k4]at h;simp only[UW,U3]at h;exact⟨by omega,fun h6=>by omega⟩
 by_cases k6:e.kind=6
 ·rw[if_neg k1,if_neg k2,if_neg k3,if_neg k4,if_pos k6]at h;simp only[UW,U3]at h;exact⟨by omega,fun h6=>by omega⟩
 rw[if_neg k1,if_neg k2,if_neg k3,if_neg k4,if_neg k6]at h;cases h
theorem zn{rows:Q08}(h:aL (ak rows)=true):XZ rows/\1<=rows.length:=by
 have hl:1<=rows.length/\rows.length<=15:=by
  unfold aL at h;simp only[UW,U3,aQ]at h;exact⟨h.1.1.1.1.1,h.1.1.1.1.2⟩
 have hlow:=Jv h;have hkl:∀q∈rows,q.e.kids.length<=1000:=fun q hq=>by
  have:=(pE (iE h q.e (U7.2 ⟨q,hq,rfl⟩))).1;omega
 refine⟨⟨by omega,hkl,hlow,fun e he h6=>?_⟩,hl.1⟩;exact(pE (iE h e he)).2 h6
section
variable  [DecidableEq Fc]
theorem sj(H:List Fc->Fc->Bool)(qs:Q04)(f:Fc)(out:Q04):bR H (qs++[f]) out=eF H (bR H qs out) f:=by rw[F8];rfl
theorem wJ{H:List Fc->Fc->Bool}{out:Q04}{f:Fc}(h:bB out f=true\/H out f=false):eF H out f=out:=by
 unfold eF;rw[if_pos];rcases h with h|h
 ·exact .inl (cZ.1 h)
 exact .inr h
theorem Ea{H:List Fc->Fc->Bool}{out:Q04}{f:Fc}(h1:bB out f=false)(h2:H out f=true):eF H out f=out++[f]:=by
 unfold eF;rw[if_neg];rintro(h|h)
 ·rw[cZ.2 h]at h1;cases h1
 rw[h2]at h;cases h
theorem H7(H:List Fc->Fc->Bool)(qs out:Q04):out.length<=(bR H qs out).length:=by
 obtain⟨n,e,-⟩:=jH (H:=H) qs out;rw[e,U2];omega
theorem Ki{H:List Fc->Fc->Bool}{qs out:Q04}(h:decide (out.length<(bR H qs out).length)=false):bR H qs out=out:=by
 obtain⟨n,e,-⟩:=jH (H:=H) qs out;rw[e,U2,decide_eq_false_iff_not]at h;have:n=[]:=Vb.1 (by omega);rw[e,this,VK]
end
def H8(K:Fc->Bool)(f:Fc)(t:Tp):Bool:=if t.s.toList.isEmpty then t.c.toList==f.c.toList&&t.d.toList==f.d.toList else K ⟨t.c,t.d,t.s,f.c,f.d⟩
abbrev Ru:=(Fc->Bool)->Bool
def rf(l:Q05)(f:Fc):Ru:=fun K=>l.any fun t=>(t.a.toList==f.a.toList&&t.b.toList==f.b.toList&&t.r.toList==f.r.toList)&&H8 K f t
def Eb(l:Q05)(over name:ByteArray)(f:Fc):Ru:=fun K=>l.any fun t=>(t.a.toList==f.a.toList&&t.b.toList==f.b.toList&&t.r.toList==over.toList)&&K ⟨t.c,t.d,name,f.c,f.d⟩
def gN(l:Q05)(es:Q09)(truth:Q04)(f:Fc):Nat->Nat->Ru
 | 0,_=>fun _=>false
 | k+1,n=>match es[n]? with
  | none=>fun _=>false
  | some x =>
   if x.kind=1 then rf l f
   else if x.kind=2 then fun K=>K ⟨f.a,f.b,x.name,f.c,f.d⟩
   else if x.kind=3 then Eb l x.over x.name f
   else if x.kind=4 then fun K=>x.kids.any fun i=>gN l es truth f k i.toNat K
   else if x.kind=5 then fun K=>x.kids.all fun i=>gN l es truth f k i.toNat K
   else if x.kind=6 then if di l es truth f k truth (x.kids.getD 1 0).toNat then fun _=>false else gN l es truth f k (x.kids.getD 0 0).toNat
   else fun _=>false
theorem Qq(l:Q05)(es:Q09)(truth known:Q04)(f:Fc):∀k n,gN l es truth f k n (bB known)=di l es truth f k known n
 | 0,_=>rfl
 | k+1,n=>by
  unfold gN
  conv=>rhs;unfold di
  cases es[n]? with
  | none=>rfl
  | some x =>
   dsimp only;by_cases k1:x.kind=1
   ·rw[if_pos k1,if_pos k1];rfl
   rw[if_neg k1,if_neg k1];by_cases k2:x.kind=2
   ·rw[if_pos k2,if_pos k2]
   rw[if_neg k2,if_neg k2];by_cases k3:x.kind=3
   ·rw[if_pos k3,if_pos k3];rfl
   rw[if_neg k3,if_neg k3];have key:∀i:Int,gN l es truth f k i.toNat (bB known)=di l es truth f k known i.toNat:=fun i=>Qq l es truth known f k i.toNat;by_cases k4:x.kind=4
   ·rw[if_pos k4,if_pos k4];exact congrArg (fun p=>x.kids.any p) (funext key)
   rw[if_neg k4,if_neg k4];by_cases k5:x.kind=5
   ·rw[if_pos k5,if_pos k5];exact congrArg (fun p=>x.kids.all p) (funext key)
   rw[if_neg k5,if_neg k5];by_cases k6:x.kind=6
   ·rw[if_pos k6,if_pos k6];cases h:di l es truth f k truth (x.kids.getD 1 0).toNat;case true=>rw[if_pos rfl];simp
    rw[if_neg (by decide),key];simp
   rw[if_neg k6,if_neg k6]
end Go.Proofs.YtajkkeikihhejaaGreat
