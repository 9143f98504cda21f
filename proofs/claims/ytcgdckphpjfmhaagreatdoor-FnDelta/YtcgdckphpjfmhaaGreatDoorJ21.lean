/- The text of the drawing's last resort can be read, and says a right schema. -/
import Derived.Test.YtcgdckphpjfmhaaGreatDoorSq
import Derived.Test.YtcgdckphpjfmhaaGreatDoorJ11
import Derived.Laws.EntriesVeiled
import Derived.Test.YtcgdckphpjfmhaaGreatDoorImplTypes
import Derived.Test.YtcgdckphpjfmhaaGreatDoorShelfS
open Go.Proofs.Tryz
set_option maxHeartbeats 80000000
namespace Go.Proofs.YtcgdckphpjfmhaaGreatDoor
open Pl
def lastT:ByteArray:=⟨#[116,121,112,101,32,100,111,99,10,118,105,101,119,101,114,32,61,32,116,104,105,115,40,117,115,101,114,41,10,116,121,112,101,32,117,115,101,114,10]⟩
def Iy:List Ty:=[⟨⟨#[100,111,99]⟩,[⟨⟨#[118,105,101,119,101,114]⟩,[⟨1,[⟨⟨#[117,115,101,114]⟩,⟨#[]⟩⟩],⟨#[]⟩,⟨#[]⟩,[]⟩]⟩]⟩,⟨⟨#[117,115,101,114]⟩,[]⟩]
theorem KS:dP (lastT.size+1) lastT []=some Iy:=by kernel_rfl
theorem KT:aD Iy=true:=by
 refine bG.2 ⟨by kernel_rfl,by kernel_rfl,fun _=>0,⟨fun _=>Int.le_refl _,fun k hk d hd=>?_⟩⟩;have h:((au Iy).all fun k=>(iw Iy k).isEmpty)=true:=by kernel_rfl
 have h2:=Wq.1 h k hk;rw[List.isEmpty_iff.1 h2]at hd;cases hd
def Pre(t:ByteArray):Prop:=∃x y z c tl,t.data.toList=116::121::112::101::32::x::y::z::10::c::tl/\x≠10/\y≠10/\z≠10/\c≠116
theorem Pre.app{t:ByteArray}(h:Pre t)(u:bZ):Pre (t++u):=by
 obtain⟨x,y,z,c,tl,e,h1⟩:=h;exact⟨x,y,z,c,tl++u.data.toList,by rw[WZ,Array.toList_append,e];rfl,h1⟩
theorem Rb{n:ByteArray}(h:aR n=true):∀b∈n.data.toList,b≠10:=by
 intro b hb e;unfold aR dK sZ at h;simp only[V9]at h;have:=Wq.1 h.1.2 b hb;rw[e]at this
 revert this
 decide
theorem N7{rs:Q06}(hd:aD (ag rs)=true)(h:Pre (dh (ag rs))):∃t ts q qs x xs,rs=t::ts/\t.rows=q::qs/\q.rows=x::xs:=by
 have hS:=bG.1 hd;obtain⟨x,y,z,c,tl,e,hx,hy,hz,hc⟩:=h;cases rs with
 | nil=>simp[ag,dh]at e
 | cons t ts =>
  have hn:=Rb (lZ hS.1 0 (by simp)).1;simp only[List.getElem_cons_zero]at hn;have e2:(116::121::112::101::32::(t.name.data.toList++10::((dO (eG t.rows)).data.toList++(dh (ag ts)).data.toList)))=116::121::112::101::32::x::y::z::10::c::tl:=by
   rw[<-e];show _=(dh (⟨t.name,eG t.rows⟩::ag ts)).data.toList;simp[dh,mZ,ByteArray.data_append]
  simp only[List.cons.injEq,true_and]at e2;have key:(dO (eG t.rows)).data.toList++(dh (ag ts)).data.toList=c::tl:=by
   generalize (dO (eG t.rows)).data.toList++(dh (ag ts)).data.toList=rest at e2;generalize t.name.data.toList=nm at e2 hn
   match nm,e2,hn with
   | [],e2,_=>simp at e2;exact absurd e2.1.symm hx
   | [a],e2,_=>simp at e2;exact absurd e2.2.1.symm hy
   | [a,b],e2,_=>simp at e2;exact absurd e2.2.2.1.symm hz
   | [a,b,d],e2,_=>simp at e2;exact e2.2.2.2
   | a::b::d::f::nm,e2,hn=>simp at e2;exact absurd e2.2.2.2.1 (hn f (by simp))
  cases hr:t.rows with
  | nil =>
   rw[hr]at key;cases ts with
   | nil=>simp[eG,dO,ag,dh]at key
   | cons u us =>
    have:(dh (ag (u::us))).data.toList.head?=some 116:=by
     show(dh (⟨u.name,eG u.rows⟩::ag us)).data.toList.head?=_;simp[dh,mZ,ByteArray.data_append]
    simp only[eG,List.map_nil,dO]at key;rw[show((⟨#[]⟩:ByteArray).data.toList++(dh (ag (u::us))).data.toList)=(dh (ag (u::us))).data.toList from rfl]at key;rw[key]at this;simp at this;exact absurd this hc
  | cons q qs =>
   obtain⟨h1,-⟩:=(bR hS.1).2.2 t (by simp) q (by rw[hr];simp);have h2:=(oN h1).1;rw[bf]at h2;cases hq:q.rows with
   | nil=>rw[hq]at h2;simp at h2
   | cons x xs=>exact⟨t,ts,q,qs,x,xs,rfl,hr,hq⟩
open ChangeAt ChangeShapes Maps RowKit WideShapes
def Rc(ts:Q0b)(w:World)(e:Ending)(w':World):Prop :=
 ((∃(b n:Nat) (σ:Ky->Option Int),e=.returned (.tuple #[.map (some b),.bool true])/\aN dU prog 151 w' b n (jb σ)/\Least ts (fun k=>(σ k).getD 0)/\∀k,(∃x,σ k=some x)↔k∈au ts)\/(e=.returned (.tuple #[.map none,.bool false])/\¬ ∃f,Sol ts f))/\af w w'
theorem Re(N:Nat)(ks:List Ky):oZ N (fun _=>none) ks=N*ks.length:=by
 induction ks with
 | nil=>simp[oZ]
 | cons k ks ih=>simp only[oZ,ih,xN,WH];push_cast;rw[Int.mul_add];omega
theorem N8{rs:Q06}(hf:∀r∈rs,r.fits):∀k∈au (ag rs),k.1.size<=maxLen/\k.2.size<=maxLen:=by
 intro k hk;obtain⟨t,ht,r,hr,rfl⟩:=rq.1 hk;obtain⟨t',ht',rfl⟩:=Wp.1 ht;obtain⟨q,hq,rfl⟩:=Wp.1 hr;exact⟨(hf t' ht').1,((hf t' ht').2.2 q hq).1⟩
set_option maxRecDepth 100000 in
theorem zf(ad:Q02)(cap:Nat)(rs:Q06)(bL nL:Nat)(ML:Ky->Option Value)(E:List (Ky×St))(w:ae)(hlen:rs.length<=6)(hs:lc w ad rs)(hf:∀r∈rs,r.fits)(hrl:∀r∈rs,r.rows.length<=6)(hG:Grp w bL nL ML E)(hE:Edge (ag rs) E)(hF:Found (ag rs))(hEl:E.length<=100000):
  Calls prog 126 #[.slice ad rs.length cap,.map (some bL)] w (Rc (ag rs) w):=by
 have HS:=aC hs;have XC:=aC hf;have HRL:Hid (∀r∈rs,r.rows.length<=6):=hrl;have HG:Hid (Grp w bL nL ML E):=hG;have HE:=aC hE;have HF:=aC hF;have HBL:Hid (bL<w.heap.size):=hG.map.lt;clear hs hf hrl hG hE hF;have hmm:=@run_makeMap prog;go_enter func126,ntmps126;have HB0:Hid (af w ((w.alloc (.cells #[.map (some bL)] 220)).alloc (.cells #[.int .i64 0] 2))):=((V5 _ _).alloc (V4 _) _).alloc (by simp) _;have YG:Hid (((w.alloc (.cells #[.map (some bL)] 220)).alloc (.cells #[.int .i64 0] 2)).cell? ⟨w.heap.size,0,none⟩=some (.map (some bL))/\((w.alloc (.cells #[.map (some bL)] 220)).alloc (.cells #[.int .i64 0] 2)).cell? ⟨w.heap.size+1,0,none⟩=some (.int .i64 0)/\((w.alloc (.cells #[.map (some bL)] 220)).alloc (.cells #[.int .i64 0] 2)).frozen? ⟨w.heap.size+1,0,none⟩=false/\w.heap.size+1<((w.alloc (.cells #[.map (some bL)] 220)).alloc (.cells #[.int .i64 0] 2)).heap.size):=⟨by simp,by simp,by simp,by simp⟩;go_wp2_with fail;go_loopw[17] (fun i wr=>∃k:Nat,k<=rs.length/\i=.int .i64 k/\Hid (af w wr)/\Hid (wr.cell? ⟨w.heap.size,0,none⟩=some (.map (some bL))/\wr.cell? ⟨w.heap.size+1,0,none⟩=some (.int .i64 ((di rs k).length:Int))/\wr.frozen? ⟨w.heap.size+1,0,none⟩=false/\w.heap.size+1<wr.heap.size)) (fun i _=>rs.length-(intOf i).toNat);case atStart=>exact⟨0,Wd _,rfl,HB0,YG⟩
 clear HB0 YG;obtain⟨k,hk,rfl,HB,HC⟩:=hrel;obtain⟨c0,c1,c2,c3⟩:=HC.out;have hu:=xh rs HRL.out k;by_cases hlt:k<rs.length
 ·rcases HS.out.below HB.out with rfl|⟨b,off,rfl,hb,hr,-⟩
  ·simp at hlt
  obtain⟨t0,t1⟩:=hr k hlt;have hk1:=bC k;have hk2:(k:Int)<(rs.length:Int):=by omega
  have h6:=HRL.out _ (VZ hlt);have Yh:Hid ((di rs (k+1)).length=(di rs k).length+rs[k].rows.length):=by show _=_;rw[p9 _ _ hlt,Wi];simp[iX]
  obtain⟨cn,hcn⟩:∃cn,cn=(di rs k).length:=⟨_,rfl⟩;rw[<-hcn]at c1 hu Yh;have HB1:Hid (af w ((wr.setCell ⟨w.heap.size+1,0,none⟩ (.int .i64 ((cn:Int)+(rs[k].rows.length:Int)))).alloc (.cells #[.string rs[k].name,.slice rs[k].ad rs[k].rows.length rs[k].cap] 105))):=(HB.out.setCell (p:=⟨w.heap.size+1,0,none⟩) (by simp) _).alloc (by simpa using HB.out.size) _;have Yl:Hid (((wr.setCell ⟨w.heap.size+1,0,none⟩ (.int .i64 ((cn:Int)+(rs[k].rows.length:Int)))).alloc (.cells #[.string rs[k].name,.slice rs[k].ad rs[k].rows.length rs[k].cap] 105)).cell? ⟨w.heap.size,0,none⟩=some (.map (some bL))/\((wr.setCell ⟨w.heap.size+1,0,none⟩ (.int .i64 ((cn:Int)+(rs[k].rows.length:Int)))).alloc (.cells #[.string rs[k].name,.slice rs[k].ad rs[k].rows.length rs[k].cap] 105)).cell? ⟨w.heap.size+1,0,none⟩=some (.int .i64 ((di rs (k+1)).length:Int))/\((wr.setCell ⟨w.heap.size+1,0,none⟩ (.int .i64 ((cn:Int)+(rs[k].rows.length:Int)))).alloc (.cells #[.string rs[k].name,.slice rs[k].ad rs[k].rows.length rs[k].cap] 105)).frozen? ⟨w.heap.size+1,0,none⟩=false/\w.heap.size+1<((wr.setCell ⟨w.heap.size+1,0,none⟩ (.int .i64 ((cn:Int)+(rs[k].rows.length:Int)))).alloc (.cells #[.string rs[k].name,.slice rs[k].ad rs[k].rows.length rs[k].cap] 105)).heap.size):=by
   obtain⟨X,hX⟩:∃X,X=wr.setCell ⟨w.heap.size+1,0,none⟩ (.int .i64 ((cn:Int)+(rs[k].rows.length:Int))):=⟨_,rfl⟩;have hXs:X.heap.size=wr.heap.size:=by rw[hX];simp
   have hB:af X (X.alloc (.cells #[.string rs[k].name,.slice rs[k].ad rs[k].rows.length rs[k].cap] 105)):=(V5 _ _).alloc (V4 _) _;rw[<-hX];refine⟨aJ hB (by omega) (by rw[hX,xW (by omega)];exact c0),aJ hB (by omega) (by rw[hX,Yh.out];push_cast;exact zF c1),?_,by simp;omega⟩;rw[hB.frozen (p:=⟨w.heap.size+1,0,none⟩) (by simp;omega),hX];simpa using c2
  clear hr hcn HC;go_wp2;go_roundw;case rel=>exact⟨k+1,by omega,by go_num,HB1,Yl⟩
  simp[intOf]<;>omega
 obtain rfl:k=rs.length:=by omega
 have hEN:di rs rs.length=au (ag rs):=by unfold di;rw[Wo]
 rw[hEN]at c1 hu;obtain⟨N,hN⟩:∃N,N=(au (ag rs)).length:=⟨_,rfl⟩;rw[<-hN]at c1 hu;have Zu:Hid (N=(au (ag rs)).length):=hN;have HEN:Hid (di rs rs.length=au (ag rs)):=hEN;have hN36:N<=36:=by omega
 have hbl:=HBL.out;have hwr:w.heap.size<=wr.heap.size:=HB.out.size;obtain⟨W0,hW0⟩:∃W0,W0=(((wr.alloc (.map #[] 0)).alloc (.cells #[.map (some wr.heap.size)] 141)).alloc (.cells #[(.func (Fn.func 175) #[] #[.pointer (some ⟨wr.heap.size+1,0,none⟩),.pointer (some ⟨w.heap.size+1,0,none⟩),.pointer (some ⟨w.heap.size,0,none⟩),.pointer (some ⟨wr.heap.size+1+1,0,none⟩)])] 274)):=⟨_,rfl⟩;have hal:af wr W0:=by
  rw[hW0]
  repeat(first|exact V5 _ _|refine Below.alloc ?_ (by first|(simp;done)|(simp;omega)) _)
 have hs0:W0.heap.size=wr.heap.size+3:=by rw[hW0];simp
 have HRW:Hid (Rw W0 (wr.heap.size+1) (w.heap.size+1) w.heap.size (wr.heap.size+1+1) wr.heap.size bL N 0 nL ML E (fun _=>none)):=by
  have hGr:Grp wr bL nL ML E:=HG.out.below HB.out;have hMV:aN dU prog 151 W0 wr.heap.size 0 (jb (fun _=>none)):=by
   have h1:=lX dU prog 151 wr;have e1:jb (fun _=>none)=fun _=>none:=by funext k;rfl
   rw[e1];refine h1.below ?_;rw[hW0]
   repeat(first|exact V5 _ _|refine Below.alloc ?_ (by first|(simp;done)|(simp;omega)) _)
  have hcS:W0.cell? ⟨wr.heap.size+1,0,none⟩=some (.map (some wr.heap.size)):=by
   rw[hW0];exact aJ ((V5 _ _).alloc (V4 _) _) (by simp) (Oy wr _ _ _ 0 rfl)
  have hcR:W0.cell? ⟨wr.heap.size+1+1,0,none⟩=some (FB (wr.heap.size+1) (w.heap.size+1) w.heap.size (wr.heap.size+1+1)):=by
   rw[hW0];exact Ub _ _ _ _ _ _ rfl
  exact⟨hcS,aJ hal (by omega) c1,aJ hal (by omega) c0,hcR,by omega,by omega,by omega,by omega,hMV,hGr.below hal,by omega,hGr.fresh (V4 _)⟩
 have HB0:=kv HB hal;clear hu hEN hN hal HC;go_wp2_with fail;rw[<-hW0];clear hW0 c0 c1 c2 c3 HB;obtain⟨bS,hbS⟩:∃bS,bS=wr.heap.size:=⟨_,rfl⟩;obtain⟨gS,hgS⟩:∃gS,gS=wr.heap.size+1:=⟨_,rfl⟩;obtain⟨gR,hgR⟩:∃gR,gR=wr.heap.size+1+1:=⟨_,rfl⟩;obtain⟨gC,hgC⟩:∃gC,gC=w.heap.size+1:=⟨_,rfl⟩;obtain⟨gL,hgL⟩:∃gL,gL=w.heap.size:=⟨_,rfl⟩;have hb1:w.heap.size<=bS:=by omega
 have HRW2:Hid (Rw W0 gS gC gL gR bS bL N 0 nL ML E (fun _=>none)):=by rw[hbS,hgS,hgR,hgC,hgL];exact HRW
 have HI0:Hid (∃(σ:Ky->Option Int) (n:Nat),Rw W0 gS gC gL gR bS bL N n nL ML E σ/\Rz (ag rs) N σ/\(n:Int)+oZ N σ (au (ag rs))<=2000/\Raised E (fun _=>none) σ/\∀key∈di rs 0,∃x,σ key=some x):=by
  refine⟨fun _=>none,0,HRW2.out,⟨fun k x h=>by cases h⟩,?_,Raised.refl _ _,fun k hk=>by simp[di,ag,au]at hk⟩;rw[Re,<-Zu.out];have h1:(N:Int)*N<=36*36:=Int.mul_le_mul (by omega) (by omega) (by omega) (by omega)
  push_cast;omega
 rw[<-hgR,<-hgS,<-hbS,<-hgC,<-hgL];clear HRW HRW2 hs0 hmm hgR hgS hbS hgC hgL;go_loopw[31] (fun i w2=>∃k:Nat,k<=rs.length/\i=.int .i64 k/\Hid (af w w2)/\Hid (∃(σ:Ky->Option Int) (n:Nat),Rw w2 gS gC gL gR bS bL N n nL ML E σ/\Rz (ag rs) N σ/\(n:Int)+oZ N σ (au (ag rs))<=2000/\Raised E (fun _=>none) σ/\∀key∈di rs k,∃x,σ key=some x)) (fun i _=>rs.length-(intOf i).toNat);case atStart=>exact⟨0,Wd _,rfl,HB0,HI0⟩
 clear HB0 HI0;obtain⟨k,hk,rfl,HB,HI⟩:=hrel;by_cases hlt:k<rs.length
 ·rcases HS.out.below HB.out with rfl|⟨b,off,rfl,hb,hr,-⟩
  ·simp at hlt
  obtain⟨t0,t1⟩:=hr k hlt;have hk1:=bC k;have hk2:(k:Int)<(rs.length:Int):=by omega
  have h6:=HRL.out _ (VZ hlt);obtain⟨W1,hW1⟩:∃W1,W1=wr.alloc (.cells #[.string rs[k].name,.slice rs[k].ad rs[k].rows.length rs[k].cap] 105):=⟨_,rfl⟩;have hal:af wr W1:=by rw[hW1];exact(V5 _ _).alloc (V4 _) _
  obtain⟨g12,ZK⟩:∃g12,g12=wr.heap.size:=⟨_,rfl⟩;have hbw:bS<wr.heap.size:=by obtain⟨σ,n,hR,-⟩:=HI.out;exact hR.map.lt
  have HC12:Hid (W1.cell? ⟨g12,0,none⟩=some (.string rs[k].name)/\g12<W1.heap.size/\g12≠bS):=⟨by rw[hW1,ZK];simp,by rw[hW1,ZK];simp,by omega⟩;have HB1:=kv HB hal;have HI1:Hid (∃(σ:Ky->Option Int) (n:Nat),Rw W1 gS gC gL gR bS bL N n nL ML E σ/\Rz (ag rs) N σ/\(n:Int)+oZ N σ (au (ag rs))<=2000/\Raised E (fun _=>none) σ/\∀key∈di rs k,∃x,σ key=some x):=by
   obtain⟨σ,n,hR,h2⟩:=HI.out;exact⟨σ,n,hR.below hal,h2⟩
  clear hr hal HI HB;go_wp2_with fail;rw[<-hW1,<-ZK];clear hW1 t0 t1 ZK;go_loopw[38] (fun i w3=>∃j:Nat,j<=rs[k].rows.length/\i=.int .i64 j/\Hid (af w w3)/\Hid (w3.cell? ⟨g12,0,none⟩=some (.string rs[k].name)/\g12<w3.heap.size/\g12≠bS)/\Hid (∃(σ:Ky->Option Int) (n:Nat),Rw w3 gS gC gL gR bS bL N n nL ML E σ/\Rz (ag rs) N σ/\(n:Int)+oZ N σ (au (ag rs))<=2000/\Raised E (fun _=>none) σ/\∀key∈di rs k++iX rs[k] j,∃x,σ key=some x)) (fun i _=>rs[k].rows.length-(intOf i).toNat);case atStart=>exact⟨0,Wd _,rfl,HB1,HC12,by simpa[iX] using HI1⟩
  clear HB1 HC12 HI1;obtain⟨j,hj,rfl,HB,HC,HI⟩:=hrel;by_cases hjl:j<rs[k].rows.length
  ·rcases HS.out.below HB.out with hnil|⟨b',off',he,hb2,hr,hok⟩
   ·rw[hnil]at hlt;simp at hlt
   injection he with he;injection he with he1 he2;subst he1;subst he2;have ok:=hok rs[k] (VZ hlt);rcases ok with hnil|⟨b2,XR,had,hbb,hr2,-⟩
   ·rw[hnil]at hjl;simp at hjl
   obtain⟨q0,q1⟩:=hr2 j hjl;have hj1:=bC j;have hj2:(j:Int)<(rs[k].rows.length:Int):=by omega
   obtain⟨σ,n,hR,hZ,hn,hRa,hall⟩:=HI.out;obtain⟨x0,x1,x2⟩:=HC.out;have cR:=hR.cR;unfold FB at cR;have lR:=hR.lR.1;obtain⟨W3,hW3⟩:∃W3,W3=wr.alloc (.cells #[.string rs[k].rows[j].name,.slice rs[k].rows[j].ad rs[k].rows[j].rows.length rs[k].rows[j].cap] 149):=⟨_,rfl⟩;have hal:af wr W3:=by rw[hW3];exact(V5 _ _).alloc (V4 _) _
   have HR3:=aC (hR.below hal);have HZ3:=aC hZ;have HB3:=kv HB hal;have HC3:Hid (W3.cell? ⟨g12,0,none⟩=some (.string rs[k].name)/\g12<W3.heap.size/\g12≠bS):=⟨aJ hal x1 x0,VY x1 hal.size,x2⟩;have Z0:Hid (Raised E (fun _=>none) σ):=hRa;have XJ:Hid (∀key∈di rs k++iX rs[k] j,∃x,σ key=some x):=hall;have hmp:=hZ.mu_pos (au (ag rs));have HKM:Hid ((rs[k].name,rs[k].rows[j].name)∈au (ag rs)):=rq.2 ⟨rs[k].p,WG (VZ hlt),rs[k].rows[j].p,WG (VZ hjl),rfl⟩;rw[had];clear hr hok hr2 hal hR hZ hRa hall HI HB HC;go_wp2_with fail;rw[<-hW3];clear hW3 q0 q1 cR x0;refine(Ns (ag rs) gS gC gL gR bS bL N nL ML E HE.out HF.out Zu.out hN36 (N8 XC.out) hEl (oZ N σ (au (ag rs))).toNat _ σ n (rs[k].name,rs[k].rows[j].name) 0 HR3.out HZ3.out (by omega) (by omega) HKM.out (by omega) (by omega) (qY.zero _ _)).mono ?_;rintro e w5 ⟨ok,σ5,n5,rfl,hg5,X9,hZ5,hn5,ZT,hf5,ht5⟩;have Yi:Hid (af w w5):=HB3.out.grown hg5 HB3.out.size (fun i hi=>by injection hi with hi;omega);cases ok;case false=>
    have HP:Hid (Rc (ag rs) w (.returned (.tuple #[.map none,.bool false])) w5):=⟨.inr ⟨rfl,hf5 rfl⟩,Yi.out⟩;clear hg5 X9 hZ5 hn5 ZT hf5 ht5;go_wp2;refine bodyPost_ret (v:=.tuple #[.map none,.bool false]) ?_ rfl HP.out;simp[results,Tryz.results126,go_sem]
   have HI5:Hid (∃(σ:Ky->Option Int) (n:Nat),Rw w5 gS gC gL gR bS bL N n nL ML E σ/\Rz (ag rs) N σ/\(n:Int)+oZ N σ (au (ag rs))<=2000/\Raised E (fun _=>none) σ/\∀key∈di rs k++iX rs[k] (j+1),∃x,σ key=some x):=by
    obtain⟨hRa,y,hy,-⟩:=ht5 rfl;refine⟨σ5,n5,X9,hZ5,by omega,Z0.out.trans hRa,fun key hk=>?_⟩;rw[uG _ _ hjl,<-WE]at hk;rcases Wj.1 hk with hk|hk
    ·obtain⟨x,hx⟩:=XJ.out key hk;obtain⟨z,hz,-⟩:=hRa.mono key x hx;exact⟨z,hz⟩
    simp at hk;subst hk;exact⟨y,hy⟩
   have HC5:Hid (w5.cell? ⟨g12,0,none⟩=some (.string rs[k].name)/\g12<w5.heap.size/\g12≠bS):=⟨(kW hg5 HC3.out.2 0).trans HC3.out.1,VY HC3.out.2.1 hg5.size,HC3.out.2.2⟩;clear hg5 X9 hZ5 hn5 ZT hf5 ht5;go_wp2;go_roundw;case rel=>exact⟨j+1,by omega,by go_num,Yi,HC5,HI5⟩
   simp[intOf]<;>omega
  obtain rfl:j=rs[k].rows.length:=by omega
  have HI5:Hid (∃(σ:Ky->Option Int) (n:Nat),Rw wr gS gC gL gR bS bL N n nL ML E σ/\Rz (ag rs) N σ/\(n:Int)+oZ N σ (au (ag rs))<=2000/\Raised E (fun _=>none) σ/\∀key∈di rs (k+1),∃x,σ key=some x):=by rw[p9 _ _ hlt];exact HI
  clear HI;go_wp2;go_roundw;case rel=>exact⟨k+1,by omega,by go_num,HB,HI5⟩
  simp[intOf]<;>omega
 obtain rfl:k=rs.length:=by omega
 obtain⟨σ,n,hR,hZ,hn,hRa,hall⟩:=HI.out;have cS:=hR.cS;have HP:Hid (Rc (ag rs) w (.returned (.tuple #[.map (some bS),.bool true])) wr):=by
  rw[HEN.out]at hall;refine⟨.inl ⟨bS,n,σ,rfl,hR.map,Fz HE.out HF.out hZ hall (fun k=>hRa.done k (.inl (fun x h=>by cases h))),fun k=>⟨fun⟨x,hx⟩=>(hZ.there k x hx).1,hall k⟩⟩,HB.out⟩
 clear hR hZ hn hRa hall HI;go_wp2;refine bodyPost_ret (v:=.tuple #[.map (some bS),.bool true]) ?_ rfl HP.out;simp[results,Tryz.results126,go_sem]
def Iz(ts:Q0b)(w:World)(e:Ending)(w':World):Prop :=
 ((∃(b n:Nat) (σ:Ky->Option Int),e=.returned (.tuple #[.map (some b),.bool true])/\bQ ts/\aN dU prog 151 w' b n (jb σ)/\Least ts (fun k=>(σ k).getD 0)/\∀k,(∃x,σ k=some x)↔k∈au ts)\/(e=.returned (.tuple #[.map none,.bool false])/\¬bQ ts))/\af w w'
set_option maxRecDepth 100000 in
theorem wN(ad:Q02)(cap:Nat)(rs:Q06)(w:ae)(hlen:rs.length<=1048576)(hs:lc w ad rs)(hl:∀r∈rs,r.light)(hf:∀r∈rs,r.fits)(hcp:∀r∈rs,r.caps):
  Calls prog 78 #[.slice ad rs.length cap] w (Iz (ag rs) w):=by
 have HS:=aC hs;have HL:=aC hl;have XC:=aC hf;have ZN:=aC hcp;clear hs hl hf hcp;go_enter func78,ntmps78;go_wp2_with fail;refine(Io ad cap rs _ hlen HS.out HL.out XC.out ZN.out).mono ?_;rintro e w1 ⟨rfl,hb1⟩;have HB1:=aC hb1;clear hb1;cases hsh:bF (ag rs);case false=>
  have HP:Hid (Iz (ag rs) w (.returned (.tuple #[.map none,.bool false])) w1):=⟨.inr ⟨rfl,fun h=>by rw[h.1]at hsh;cases hsh⟩,HB1.out⟩;go_wp2;refine bodyPost_ret (v:=.tuple #[.map none,.bool false]) ?_ rfl HP.out;simp[results,Tryz.results78,go_sem]
 have HSH:Hid (bF (ag rs)=true):=hsh;obtain⟨h6,Zo,hex⟩:=bR hsh;have Zk:Hid (∀r∈rs,r.rows.length<=6):=Zo;have HEX:Hid (∀r∈rs,∀q∈r.rows,aP (aj q.rows)=true/\q.rows.length<=15/\∀e∈q.rows,eH q.rows.length e.e.kids):=hex;have HT:Hid (Tab rs (tC rs)):=xk hsh;clear hsh Zo hex;go_wp2_with fail;refine(yn ad cap rs _ h6 (HS.out.below HB1.out) Zk.out XC.out).mono ?_;rintro e w2 ⟨rfl,hV2,hb2⟩;have HB2:=kv HB1 hb2;obtain⟨bT,hbT⟩:∃bT,bT=w1.heap.size:=⟨_,rfl⟩;rw[<-hbT]at hV2 ⊢;have HV2:Hid (aN dU prog 151 w2 bT 36 (tC rs)):=hV2;clear hV2 hb2 hbT HB1;go_wp2_with fail;go_loopw[16] (fun i wr=>∃k:Nat,k<=rs.length/\i=.int .i64 k/\Hid (((ag rs).take k).all (rf (ag rs))=true)/\Hid (af w wr)/\Hid (aN dU prog 151 wr bT 36 (tC rs))) (fun i _=>rs.length-(intOf i).toNat);case atStart=>exact⟨0,Wd _,rfl,(by show _=_;simp),HB2,HV2⟩
 clear HB2 HV2;obtain⟨k,hk,rfl,HP,HB,HV⟩:=hrel;by_cases hlt:k<rs.length
 ·rcases HS.out.below HB.out with rfl|⟨b,off,rfl,hb,hr,-⟩
  ·simp at hlt
  obtain⟨t0,t1⟩:=hr k hlt;have hk1:=bC k;have hk2:(k:Int)<(rs.length:Int):=by omega
  have h66:=Zk.out _ (VZ hlt);have z0:rs[k].name.size<=maxLen:=(XC.out _ (VZ hlt)).1;obtain⟨W1,hW1⟩:∃W1,W1=wr.alloc (.cells #[.string rs[k].name,.slice rs[k].ad rs[k].rows.length rs[k].cap] 105):=⟨_,rfl⟩;have hal:af wr W1:=by rw[hW1];exact(V5 _ _).alloc (V4 _) _
  obtain⟨g6,Zn⟩:∃g6,g6=wr.heap.size:=⟨_,rfl⟩;have Yl:Hid (W1.cell? ⟨g6,0,none⟩=some (.string rs[k].name)/\g6<W1.heap.size):=⟨by rw[hW1,Zn];simp,by rw[hW1,Zn];simp⟩;have HB1:=kv HB hal;have HV1:=aC (HV.out.below hal);clear hr hal HB HV;go_wp2_with fail;rw[<-hW1,<-Zn];clear hW1 t0 t1 Zn;go_loopw[23] (fun i w3=>∃j:Nat,j<=rs[k].rows.length/\i=.int .i64 j/\Hid (((eG rs[k].rows).take j).all (fun r=>aV (ag rs) rs[k].name r.expr)=true)/\Hid (af w w3)/\Hid (aN dU prog 151 w3 bT 36 (tC rs))/\Hid (w3.cell? ⟨g6,0,none⟩=some (.string rs[k].name)/\g6<w3.heap.size)) (fun i _=>rs[k].rows.length-(intOf i).toNat);case atStart=>exact⟨0,Wd _,rfl,(by show _=_;simp),HB1,HV1,Yl⟩
  clear HB1 HV1 Yl;obtain⟨j,hj,rfl,HR,HB,HV,HC⟩:=hrel;by_cases hjl:j<rs[k].rows.length
  ·rcases HS.out.below HB.out with hnil|⟨b',off',he,hb2,hr,hok⟩
   ·rw[hnil]at hlt;simp at hlt
   injection he with he;injection he with he1 he2;subst he1;subst he2;have ok:=hok rs[k] (VZ hlt);rcases ok with hnil|⟨b2,XR,had,hbb,hr2,hok2⟩
   ·rw[hnil]at hjl;simp at hjl
   obtain⟨q0,q1⟩:=hr2 j hjl;have ZL:Hid (jv wr rs[k].rows[j].ad rs[k].rows[j].rows):=hok2 _ (VZ hjl);have ZO:Hid (rs[k].rows[j].light):=(HL.out _ (VZ hlt)).2 _ (VZ hjl);have ZC:Hid (rs[k].rows[j].fits):=(XC.out _ (VZ hlt)).2.2 _ (VZ hjl);have HNB:Hid (∀q∈rs[k].rows[j].rows,ay q.e=true):=fun q hq=>jr (HEX.out _ (VZ hlt) _ (VZ hjl)).1 q.e (by unfold aj;exact WG hq);have hj1:=bC j;have hj2:(j:Int)<(rs[k].rows.length:Int):=by omega
   obtain⟨x0,x1⟩:=HC.out;obtain⟨W3,hW3⟩:∃W3,W3=wr.alloc (.cells #[.string rs[k].rows[j].name,.slice rs[k].rows[j].ad rs[k].rows[j].rows.length rs[k].rows[j].cap] 149):=⟨_,rfl⟩;have hal:af wr W3:=by rw[hW3];exact(V5 _ _).alloc (V4 _) _
   have HB3:=kv HB hal;have HV3:=aC (HV.out.below hal);have XJ:=aC hal;have HC3:Hid (W3.cell? ⟨g6,0,none⟩=some (.string rs[k].name)/\g6<W3.heap.size):=⟨aJ hal x1 x0,VY x1 hal.size⟩;have HTS:Hid ((eG rs[k].rows).take (j+1)=(eG rs[k].rows).take j++[rs[k].rows[j].p]):=Im rs[k].rows j hjl;rw[had];clear hr hok hr2 hok2 hal HB HV HC;go_wp2_with fail;rw[<-hW3];clear hW3 q0 q1 x0 x1;refine(AO (some ⟨b,off,none⟩) rs[k].rows[j].ad cap rs[k].rows[j].cap rs bT 36 (tC rs) rs[k].name rs[k].rows[j].rows _ hlen (HS.out.below HB3.out) HL.out XC.out HV3.out HT.out z0 ZO.out.1 (ZL.out.below XJ.out) ZO.out.2 ZC.out.2.2 HNB.out).mono ?_;rintro e w5 ⟨rfl,hb5⟩;have Yi:=kv HB3 hb5;have HV5:=aC (HV3.out.below hb5);have HC5:Hid (w5.cell? ⟨g6,0,none⟩=some (.string rs[k].name)/\g6<w5.heap.size):=⟨aJ hb5 HC3.out.2 HC3.out.1,VY HC3.out.2 hb5.size⟩;clear hb5;cases hrf:aV (ag rs) rs[k].name (aj rs[k].rows[j].rows);case false=>
    have HPO:Hid (Iz (ag rs) w (.returned (.tuple #[.map none,.bool false])) w5):=by
     refine⟨.inr ⟨rfl,fun hs=>?_⟩,Yi.out⟩;have h1:=hs.2.1;unfold kC at h1;rw[Wq]at h1;have h2:=h1 rs[k].p (by unfold ag;exact WG (VZ hlt));unfold rf at h2;rw[Wq]at h2;have h3:=h2 rs[k].rows[j].p (by show _∈eG rs[k].rows;unfold eG;exact WG (VZ hjl));have h4:aV (ag rs) rs[k].name (aj rs[k].rows[j].rows)=true:=h3;rw[hrf]at h4;cases h4
    go_wp2;refine bodyPost_ret (v:=.tuple #[.map none,.bool false]) ?_ rfl HPO.out;simp[results,Tryz.results78,go_sem]
   have Y0:Hid (((eG rs[k].rows).take (j+1)).all (fun r=>aV (ag rs) rs[k].name r.expr)=true):=by
    show _=_;rw[HTS.out,Xj,HR.out];have:aV (ag rs) rs[k].name rs[k].rows[j].p.expr=true:=hrf;simp[this]
   go_wp2;go_roundw;case rel=>exact⟨j+1,by omega,by go_num,Y0,Yi,HV5,HC5⟩
   simp[intOf]<;>omega
  obtain rfl:j=rs[k].rows.length:=by omega
  have HPN:Hid (((ag rs).take (k+1)).all (rf (ag rs))=true):=by
   show _=_;rw[Il rs k hlt,Xj,HP.out];have h1:=HR.out;rw[<-rZ,Wo]at h1;have:rf (ag rs) rs[k].p=true:=h1;simp[this]
  go_wp2;go_roundw;case rel=>exact⟨k+1,by omega,by go_num,HPN,HB,HV⟩
  simp[intOf]<;>omega
 obtain rfl:k=rs.length:=by omega
 have Z0:Hid (kC (ag rs)=true):=by
  have h1:=HP.out;rw[<-lN,Wo]at h1;exact h1
 go_wp2_with fail;refine(Cw ad cap rs bT 36 (tC rs) _ h6 (HS.out.below HB.out) HL.out XC.out Zk.out (fun r hr q hq=>(HEX.out r hr q hq).2) (QD HSH.out) HV.out HT.out).mono ?_;rintro e w5 ⟨rfl,⟨nL,ML,hG5⟩,hb5⟩;have Yi:=kv HB hb5;have HG5:Hid (Grp w5 wr.heap.size nL ML (jo (ag rs) rs)):=hG5;clear hG5 hb5;go_wp2_with fail;refine(zf ad cap rs wr.heap.size nL ML (jo (ag rs) rs) _ h6 (HS.out.below Yi.out) XC.out Zk.out HG5.out (SA HSH.out Z0.out) (mQ Z0.out) (NK rs Zk.out HEX.out (QD HSH.out))).mono ?_;rintro e w6 ⟨hL,hb6⟩;have YB:=kv Yi hb6;clear hb6;rcases hL with⟨bS,nS,σ,rfl,hM,hLe,hk⟩|⟨rfl,hno⟩
 ·have HPO:Hid (Iz (ag rs) w (.returned (.tuple #[.map (some bS),.bool true])) w6):=⟨.inl ⟨bS,nS,σ,rfl,⟨HSH.out,Z0.out,_,hLe.sol⟩,hM,hLe,hk⟩,YB.out⟩;clear hM hLe hk;go_wp2;refine bodyPost_ret (v:=.tuple #[.map (some bS),.bool true]) ?_ rfl HPO.out;simp[results,Tryz.results78,go_sem]
 have HPO:Hid (Iz (ag rs) w (.returned (.tuple #[.map none,.bool false])) w6):=⟨.inr ⟨rfl,fun h=>hno h.2.2⟩,YB.out⟩;clear hno;go_wp2;refine bodyPost_ret (v:=.tuple #[.map none,.bool false]) ?_ rfl HPO.out;simp[results,Tryz.results78,go_sem]
def pF(ts:Q0b)(oa ob r c d s:ByteArray):Bool:=dR (aW (aM ts oa r)) (aW (aM ts oa r)).length ⟨c,s⟩&&bz oa ob r c d s
theorem IA:∀{es:Q09} (a:Al),own es=0->es.any (oz a)=false
 | [],_,_=>rfl
 | e::es,a,h=>by
  by_cases h1:e.kind=1
  ·simp[own,h1]at h
  rw[Xt,IA a (by simpa[own,h1] using h)];simp[oz,h1]
theorem Ce:∀{es:Q09} (a:Al),own es<=1->es.any (oz a)=dR (aW es) (aW es).length a
 | [],_,_=>rfl
 | e::es,a,h=>by
  by_cases h1:e.kind=1
  ·rw[Xt,IA a (by simp[own,h1]at h;simpa[own] using h)];simp[oz,h1,aW]
  rw[Xt,Ce a (by simpa[own,h1] using h)];simp[oz,h1,aW]
theorem N9{xs:Q0a}{a:Al}{k:Nat}(h:k<xs.length)(hk:kI xs[k] a=true):dR xs xs.length a=true:=by
 unfold dR;rw[Wo,Xe];exact⟨_,VZ h,hk⟩
def Es(ts:Q0b)(oa ob r c d s:ByteArray):Bool:=aD ts&&pF ts oa ob r c d s
theorem UW{es:Q09}(h:aP es=true):own es<=1:=by
 unfold aP at h;simp at h;omega
theorem LM{rs:Q06}(h:bQ (ag rs))(ty n:bZ):own (aM (ag rs) ty n)<=1:=by
 unfold aM;cases e:gu (ag rs) ty n with
 | none=>simp[own]
 | some es =>
  obtain⟨t,ht,q,hq,-,-,rfl⟩:=rz e;exact UW ((bR h.1).2.2 t ht q hq).1
set_option maxRecDepth 100000 in
theorem uO(ad:Q02)(cap:Nat)(rs:Q06)(oa ob r c d s:bZ)(w:ae)(hlen:rs.length<=1048576)(hs:lc w ad rs)(hl:∀r∈rs,r.light)(ha:oa.size<=maxLen)(hb:ob.size<=maxLen)(hr:r.size<=maxLen)(hc:c.size<=maxLen)(hd:d.size<=maxLen)(hz:s.size<=maxLen):
  Calls prog 110 #[.slice ad rs.length cap,.agg #[.string oa,.string ob,.string r,.string c,.string d,.string s]] w fun e w'=>e=.returned (.bool (pF (ag rs) oa ob r c d s))/\af w w':=by
 have HS:=aC hs;have HL:=aC hl;clear hs hl;obtain⟨W0,hW0⟩:∃W0,W0=w.alloc (.cells #[.string oa,.string ob,.string r,.string c,.string d,.string s] 29):=⟨_,rfl⟩;have hal:af w W0:=by rw[hW0];exact(V5 _ _).alloc (V4 _) _
 have HB0:=aC hal;have YG:Hid (W0.cell? ⟨w.heap.size,0,none⟩=some (.string oa)/\W0.cell? ⟨w.heap.size,1,none⟩=some (.string ob)/\W0.cell? ⟨w.heap.size,2,none⟩=some (.string r)/\W0.cell? ⟨w.heap.size,3,none⟩=some (.string c)/\W0.cell? ⟨w.heap.size,4,none⟩=some (.string d)/\W0.cell? ⟨w.heap.size,5,none⟩=some (.string s)/\w.heap.size<W0.heap.size):=by
  show _/\_;rw[hW0];refine⟨?_,?_,?_,?_,?_,?_,?_⟩<;>simp
 clear hal;go_enter func110,ntmps110;go_wp2_with fail;rw[<-hW0];clear hW0;refine(ji ad cap rs oa r _ hlen (HS.out.below HB0.out) HL.out).mono ?_;rintro e w1 ⟨⟨rows,Xw,capE,rfl,hex,hse,hfr⟩,hw1⟩;replace hw1:=hw1.symm;subst hw1;have HX:Hid (aj rows=aM (ag rs) oa r):=hex;have ZL:=aC hse;have Yv:=hfr.light HL.out;have hrl:rows.length<=1048576:=Yv.1;have ZO:Hid (∀q∈rows,q.e.light):=Yv.2;clear hex hse hfr Yv;go_wp2_with fail;refine(xZ Xw capE rows _ hrl ZL.out).mono ?_;rintro e w1 ⟨⟨adA,capA,rfl,hsa,hfa⟩,hw1⟩;replace hw1:=hw1.symm;subst hw1;obtain⟨xs,hxs⟩:∃xs,xs=aW (aj rows):=⟨_,rfl⟩;rw[<-hxs]at hsa hfa ⊢;have HXS:Hid (xs=aW (aM (ag rs) oa r)):=by rw[<-HX.out];exact hxs
 have HSA:=aC hsa;have hxl:xs.length<=1048576:=by
  rcases hfa with h|⟨q,hq,h,-⟩
  ·rw[h];simp
  rw[h];exact(ZO.out q hq).1
 clear hxs hsa hfa ZO ZL HX;go_wp2;go_loopw[6] (fun i wr=>∃k:Nat,k<=xs.length/\i=.int .i64 k/\Hid (dR xs k ⟨c,s⟩=false)/\Hid (af W0 wr)) (fun i _=>xs.length-(intOf i).toNat);case atStart=>exact⟨0,Wd _,rfl,uq _ _,V5 _ _⟩
 obtain⟨k,hk,rfl,HP,HB⟩:=hrel;have Xz:Hid (af w wr):=HB0.out.trans (HB.out.mono HB0.out.size);by_cases hlt:k<xs.length
 ·rcases HSA.out.below HB.out with hnil|⟨b,off,rfl,hb5,hr5⟩
  ·rw[hnil]at hlt;simp at hlt
  obtain⟨t0,t1⟩:=hr5 k hlt;have hk1:=bC k;have hk2:(k:Int)<(xs.length:Int):=by omega
  have hwl:w.heap.size<wr.heap.size:=VY YG.out.2.2.2.2.2.2 HB.out.size;have c0:=aJ HB.out YG.out.2.2.2.2.2.2 YG.out.1;have c1:=aJ HB.out YG.out.2.2.2.2.2.2 YG.out.2.1;have c2:=aJ HB.out YG.out.2.2.2.2.2.2 YG.out.2.2.1;have c3:=aJ HB.out YG.out.2.2.2.2.2.2 YG.out.2.2.2.1;have c4:=aJ HB.out YG.out.2.2.2.2.2.2 YG.out.2.2.2.2.1;have c5:=aJ HB.out YG.out.2.2.2.2.2.2 YG.out.2.2.2.2.2.1;have HSU:Hid (dR xs (k+1) ⟨c,s⟩=kI xs[k] ⟨c,s⟩):=by show _=_;rw[ul _ _ _ hlt,HP.out];rfl
  clear hr5;go_wp2_with fail;cases h1:(xs[k].t.toList==c.toList);case false=>
   refine dW 19 _ _ (fun n v _=>v=(Value.slice (some ⟨b,off,none⟩) xs.length capA::.int .i64 k::.pointer (some ⟨b,off+k*2,none⟩)::.pointer (some ⟨b,off+k*2,none⟩)::.string xs[k].t::.pointer (some ⟨w.heap.size,3,none⟩)::.pointer (some ⟨w.heap.size,3,none⟩)::.string c::.bool false::.bool false::undef::undef::undef::undef::undef::undef::undef::undef::.bool false::[]).getD n undef) (fun w'=>af wr w') (by kernel_rfl) rfl (by kernel_rfl) (Ck [(21,[0,1,2,3,4,5,6,7,8,9,10,11,12,13,14,15,16,17,18])]) (V5 _ _).drew ?stepA ?finA<;>dsimp only[zo];case stepA =>
    rintro i hi o ho fq w' hG hpre;have HG:Hid (af wr w'):=hG;replace t0:=aJ hG hb5 t0;replace t1:=aJ hG hb5 t1;replace c3:=aJ hG hwl c3;replace c5:=aJ hG hwl c5;have HM:Hid (∀e∈o.after,Region.binds .any e=true->_):=hpre;clear hG hpre;have hc:=Ow (i:=i) (by omega);clear hi
    repeat' rcases hc with rfl|hc
    iterate 19
     ·cases ho;have hm:=HM.out
      try simp[Region.binds]at hm
      refine aa rfl fun K HK=>?_;clear HM
      try simp only[hm]
      go_simp;exact HK.out _ _ ⟨_,by simp[upd, *],HG.out,rfl,fun k u hu=>hu⟩
   case finA =>
    rintro fq w' hG hall;have e18:fq 18=.bool false:=hall 18 (by omega);have HG:Hid (af wr w'):=hG;clear hall;clear hG;have HB2:Hid (af W0 w'):=HB.out.trans (HG.out.mono HB.out.size);have XA:Hid (dR xs (k+1) ⟨c,s⟩=false):=by show _=_;rw[HSU.out];simp[kI,h1]
    rw[e18];go_wp2;go_roundw;case rel=>exact⟨k+1,by omega,by go_num,XA,HB2⟩
    simp[intOf]<;>omega
  cases h2:(xs[k].s.toList==s.toList);case false=>
   refine dW 19 _ _ (fun n v _=>v=(Value.slice (some ⟨b,off,none⟩) xs.length capA::.int .i64 k::.pointer (some ⟨b,off+k*2,none⟩)::.pointer (some ⟨b,off+k*2,none⟩)::.string xs[k].t::.pointer (some ⟨w.heap.size,3,none⟩)::.pointer (some ⟨w.heap.size,3,none⟩)::.string c::.bool true::.bool true::.slice (some ⟨b,off,none⟩) xs.length capA::.int .i64 k::.pointer (some ⟨b,off+k*2,none⟩)::.pointer (some ⟨b,off+k*2+1,none⟩)::.string xs[k].s::.pointer (some ⟨w.heap.size,5,none⟩)::.string s::.bool false::.bool false::[]).getD n undef) (fun w'=>af wr w') (by kernel_rfl) rfl (by kernel_rfl) (Ck [(21,[0,1,2,3,4,5,6,7,8,9,10,11,12,13,14,15,16,17,18])]) (V5 _ _).drew ?DZ ?finB<;>dsimp only[zo];case DZ =>
    rintro i hi o ho fq w' hG hpre;have HG:Hid (af wr w'):=hG;replace t0:=aJ hG hb5 t0;replace t1:=aJ hG hb5 t1;replace c3:=aJ hG hwl c3;replace c5:=aJ hG hwl c5;have HM:Hid (∀e∈o.after,Region.binds .any e=true->_):=hpre;clear hG hpre;have hc:=Ow (i:=i) (by omega);clear hi
    repeat' rcases hc with rfl|hc
    iterate 19
     ·cases ho;have hm:=HM.out
      try simp[Region.binds]at hm
      refine aa rfl fun K HK=>?_;clear HM
      try simp only[hm]
      go_simp;exact HK.out _ _ ⟨_,by simp[upd, *],HG.out,rfl,fun k u hu=>hu⟩
   case finB =>
    rintro fq w' hG hall;have e18:fq 18=.bool false:=hall 18 (by omega);have HG:Hid (af wr w'):=hG;clear hall;clear hG;have HB2:Hid (af W0 w'):=HB.out.trans (HG.out.mono HB.out.size);have XA:Hid (dR xs (k+1) ⟨c,s⟩=false):=by show _=_;rw[HSU.out];simp[kI,h1,h2]
    rw[e18];go_wp2;go_roundw;case rel=>exact⟨k+1,by omega,by go_num,XA,HB2⟩
    simp[intOf]<;>omega
  refine dW 19 _ _ (fun n v _=>v=(Value.slice (some ⟨b,off,none⟩) xs.length capA::.int .i64 k::.pointer (some ⟨b,off+k*2,none⟩)::.pointer (some ⟨b,off+k*2,none⟩)::.string xs[k].t::.pointer (some ⟨w.heap.size,3,none⟩)::.pointer (some ⟨w.heap.size,3,none⟩)::.string c::.bool true::.bool true::.slice (some ⟨b,off,none⟩) xs.length capA::.int .i64 k::.pointer (some ⟨b,off+k*2,none⟩)::.pointer (some ⟨b,off+k*2+1,none⟩)::.string xs[k].s::.pointer (some ⟨w.heap.size,5,none⟩)::.string s::.bool true::.bool true::[]).getD n undef) (fun w'=>af wr w') (by kernel_rfl) rfl (by kernel_rfl) (Ck [(21,[0,1,2,3,4,5,6,7,8,9,10,11,12,13,14,15,16,17,18])]) (V5 _ _).drew ?stepC ?finC<;>dsimp only[zo];case stepC =>
   rintro i hi o ho fq w' hG hpre;have HG:Hid (af wr w'):=hG;replace t0:=aJ hG hb5 t0;replace t1:=aJ hG hb5 t1;replace c3:=aJ hG hwl c3;replace c5:=aJ hG hwl c5;have HM:Hid (∀e∈o.after,Region.binds .any e=true->_):=hpre;clear hG hpre;have hc:=Ow (i:=i) (by omega);clear hi
   repeat' rcases hc with rfl|hc
   iterate 19
    ·cases ho;have hm:=HM.out
     try simp[Region.binds]at hm
     refine aa rfl fun K HK=>?_;clear HM
     try simp only[hm]
     go_simp;exact HK.out _ _ ⟨_,by simp[upd, *],HG.out,rfl,fun k u hu=>hu⟩
  case finC =>
   rintro fq w' hG hall;have e18:fq 18=.bool true:=hall 18 (by omega);have HG:Hid (af wr w'):=hG;clear hall;replace c0:=aJ hG hwl c0;replace c1:=aJ hG hwl c1;replace c2:=aJ hG hwl c2;replace c3:=aJ hG hwl c3;replace c4:=aJ hG hwl c4;replace c5:=aJ hG hwl c5;clear hG;rw[e18];have HN:Hid (pF (ag rs) oa ob r c d s=bz oa ob r c d s):=by show _=_;unfold pF;rw[<-HXS.out,N9 hlt (by simp[kI,h1,h2])];rfl
   go_wp2_with fail;refine(dD oa ob r c d s _ ha hb hr hc hd hz).mono ?_;rintro e w2 ⟨rfl,hb2⟩;have HB2:Hid (af w w2):=Xz.out.trans ((HG.out.mono Xz.out.size).trans (hb2.mono (Wh Xz.out.size HG.out.size)));clear hb2;go_wp2;go_ret;exact⟨by rw[HN.out];rfl,HB2.out⟩
 obtain rfl:k=xs.length:=by omega
 have HN:Hid (pF (ag rs) oa ob r c d s=false):=by show _=_;unfold pF;rw[<-HXS.out,HP.out];rfl
 go_wp2;go_ret;exact⟨by rw[HN.out];rfl,Xz.out⟩
open Go.Shelf Go.Sort
set_option linter.unusedVariables false
set_option maxRecDepth 100000
theorem rV(f:Fc)(w:ae):
  Calls prog 87 #[.agg #[.string f.a,.string f.b,.string f.r,.string f.c,.string f.d]] w fun e w'=>e=.returned (.agg #[.string f.a,.string f.b,.string f.r,.string f.c,.string f.d,.string ⟨#[]⟩])/\BelowD w.heap.size w w':=by
 go_enter func87,ntmps87;go_wp2;exact bodyPost_ret (v:=.agg #[.string f.a,.string f.b,.string f.r,.string f.c,.string f.d,.string ⟨#[]⟩]) (by simp[results,Tryz.results87,go_sem, *]) rfl ⟨rfl,⟨by
  repeat(first|exact V5 _ _|refine Below.setCell ?_ (by first|(simp;done)|(simp;omega)) _|refine Below.alloc ?_ (by first|(simp;done)|(simp;omega)) _),V4 _⟩⟩
def SX(x y:Fc):Int:=GI x.a x.b x.r x.c x.d ⟨#[]⟩ y.a y.b y.r y.c y.d ⟨#[]⟩
theorem SY{w W w':ae}{n m:Nat}{x0 x1 x2 x3 x4 y0 y1 y2 y3 y4:Value}(h:W.cell? ⟨n,0,none⟩=some x0/\W.cell? ⟨n,1,none⟩=some x1/\W.cell? ⟨n,2,none⟩=some x2/\W.cell? ⟨n,3,none⟩=some x3/\W.cell? ⟨n,4,none⟩=some x4/\W.cell? ⟨m,0,none⟩=some y0/\W.cell? ⟨m,1,none⟩=some y1/\W.cell? ⟨m,2,none⟩=some y2/\W.cell? ⟨m,3,none⟩=some y3/\W.cell? ⟨m,4,none⟩=some y4/\BelowD w.heap.size w W)(hb:BelowD W.heap.size W w'):w'.cell? ⟨n,0,none⟩=some x0/\w'.cell? ⟨n,1,none⟩=some x1/\w'.cell? ⟨n,2,none⟩=some x2/\w'.cell? ⟨n,3,none⟩=some x3/\w'.cell? ⟨n,4,none⟩=some x4/\w'.cell? ⟨m,0,none⟩=some y0/\w'.cell? ⟨m,1,none⟩=some y1/\w'.cell? ⟨m,2,none⟩=some y2/\w'.cell? ⟨m,3,none⟩=some y3/\w'.cell? ⟨m,4,none⟩=some y4/\BelowD w.heap.size w w':=by
 obtain⟨h0,h1,h2,h3,h4,g0,g1,g2,g3,g4,hB⟩:=h;exact⟨aU hb.b (aL h0) h0,aU hb.b (aL h1) h1,aU hb.b (aL h2) h2,aU hb.b (aL h3) h3,aU hb.b (aL h4) h4,aU hb.b (aL g0) g0,aU hb.b (aL g1) g1,aU hb.b (aL g2) g2,aU hb.b (aL g3) g3,aU hb.b (aL g4) g4,hB.trans (hb.mono hB.size)⟩
theorem xS(x y:Fc)(w:ae)(hx:x.fits)(hy:y.fits):
  Calls prog 44 #[.agg #[.string x.a,.string x.b,.string x.r,.string x.c,.string x.d],.agg #[.string y.a,.string y.b,.string y.r,.string y.c,.string y.d]] w fun e w'=>e=.returned (.int .i64 (SX x y))/\BelowD w.heap.size w w':=by
 have he0:(⟨#[]⟩:ByteArray).size<=maxLen:=by decide
 obtain⟨x0,x1,x2,x3,x4⟩:=hx;obtain⟨y0,y1,y2,y3,y4⟩:=hy;obtain⟨W0,hW0⟩:∃W0,W0=(w.alloc (.cells #[.string x.a,.string x.b,.string x.r,.string x.c,.string x.d] 43)).alloc (.cells #[.string y.a,.string y.b,.string y.r,.string y.c,.string y.d] 43):=⟨_,rfl⟩;have HB0:BelowD w.heap.size w W0:=by rw[hW0];exact LB _ _ _
 have c0:W0.cell? ⟨w.heap.size,0,none⟩=some (.string x.a):=by rw[hW0];simp
 have c1:W0.cell? ⟨w.heap.size,1,none⟩=some (.string x.b):=by rw[hW0];simp
 have c2:W0.cell? ⟨w.heap.size,2,none⟩=some (.string x.r):=by rw[hW0];simp
 have c3:W0.cell? ⟨w.heap.size,3,none⟩=some (.string x.c):=by rw[hW0];simp
 have c4:W0.cell? ⟨w.heap.size,4,none⟩=some (.string x.d):=by rw[hW0];simp
 have e0:W0.cell? ⟨w.heap.size+1,0,none⟩=some (.string y.a):=by rw[hW0];simp
 have e1:W0.cell? ⟨w.heap.size+1,1,none⟩=some (.string y.b):=by rw[hW0];simp
 have e2:W0.cell? ⟨w.heap.size+1,2,none⟩=some (.string y.r):=by rw[hW0];simp
 have e3:W0.cell? ⟨w.heap.size+1,3,none⟩=some (.string y.c):=by rw[hW0];simp
 have e4:W0.cell? ⟨w.heap.size+1,4,none⟩=some (.string y.d):=by rw[hW0];simp
 unfold SX;go_enter func44,ntmps44;go_wp2_with fail;rw[<-hW0];clear hW0
 go_region_held3 (fun w'=>w'.cell? ⟨w.heap.size,0,none⟩=some (.string x.a)/\w'.cell? ⟨w.heap.size,1,none⟩=some (.string x.b)/\w'.cell? ⟨w.heap.size,2,none⟩=some (.string x.r)/\w'.cell? ⟨w.heap.size,3,none⟩=some (.string x.c)/\w'.cell? ⟨w.heap.size,4,none⟩=some (.string x.d)/\w'.cell? ⟨w.heap.size+1,0,none⟩=some (.string y.a)/\w'.cell? ⟨w.heap.size+1,1,none⟩=some (.string y.b)/\w'.cell? ⟨w.heap.size+1,2,none⟩=some (.string y.r)/\w'.cell? ⟨w.heap.size+1,3,none⟩=some (.string y.c)/\w'.cell? ⟨w.heap.size+1,4,none⟩=some (.string y.d)/\BelowD w.heap.size w w')
  (first|assumption|exact SY (by assumption) hbx|exact⟨c0,c1,c2,c3,c4,e0,e1,e2,e3,e4,HB0.drew⟩)
  (first|(go_at_call_of 87 (Value.agg #[.string x.a,.string x.b,.string x.r,.string x.c,.string x.d]);refine(rV x _).mono ?_;rintro e w' ⟨rfl,hbx⟩)|(go_at_call_of 87 (Value.agg #[.string y.a,.string y.b,.string y.r,.string y.c,.string y.d]);refine(rV y _).mono ?_;rintro e w' ⟨rfl,hbx⟩)|(go_at_call 86;refine(uM x.a x.b x.r x.c x.d ⟨#[]⟩ y.a y.b y.r y.c y.d ⟨#[]⟩ _ x0 x1 x2 x3 x4 he0 y0 y1 y2 y3 y4 he0).mono ?_;rintro e w' ⟨rfl,hbx⟩))
 all_goals(rename_i hJ;obtain⟨-,-,-,-,-,-,-,-,-,-,gB⟩:=hJ;clear c0 c1 c2 c3 c4 e0 e1 e2 e3 e4;go_wp2;go_ret;exact⟨rfl,gB⟩)
abbrev LP:={ f:Fc // f.fits }
def pG(x:LP):List Value:=x.1.row
def VN(x y:LP):Int:=SX x.1 y.1
def FX(x:Fc):List UInt8:=(aZ x.a x.b x.r x.c x.d ⟨#[]⟩).toList
def TY(x y:LP):Bool:=Op.bytesLess (FX x.1) (FX y.1)
theorem Rf:ltOf VN=TY:=by
 funext x y
 unfold ltOf VN TY SX GI FX;rw[vP,Go.ByteArray.toList_eq,Go.ByteArray.toList_eq]
theorem S9:Go.Sort.SWO TY where
 irrefl x:=Ls.lt_irrefl _
 trans x y z h k:=Ls.lt_trans _ _ _ h k
 ntrans x y z h k:=by
  cases e:TY x z;case false=>rfl
  by_cases e1:FX y.1=FX x.1
  ·unfold TY at *;rw[e1]at k;rw[k]at e;cases e
  rcases Ls.lt_total _ _ e1 with h1|h1
  ·have:TY y z=true:=Ls.lt_trans _ _ _ h1 e;rw[k]at this;cases this
  have h:TY x y=false:=h;have h1:TY x y=true:=h1;rw[h]at h1;cases h1
theorem Rh[Inhabited LP](blk off size:Nat)(w:ae):CmpLays prog 44 #[] pG 5 VN blk off size w:=fun m os dk _ x y =>
 (xS x.1 y.1 _ x.2 y.2).mono fun e w' ⟨he,hb⟩=>⟨he,hb.grew⟩
def lI(xs:List LP):List Fc:=xs.map (·.1)
theorem mi(xs:List LP):(lI xs).length=xs.length:=by simp[lI]
theorem Oa[Inhabited LP](w:ae)(blk off n:Nat)(d:Array LP)(os:Array Obj):Chg (fun g=>g=blk) w (sortWorldK pG 5 w blk off n d os):=by
 refine⟨⟨rfl,rfl,rfl,?_,fun k hk=>absurd hk (Xg _)⟩,fun k hk hne=>?_,fun g hg hf j=>?_⟩
 ·simp[sortWorldK,grow,putRowK,Sort.ahead]
 ·simp only[sortWorldK,putRowK];rw[heap_grow_old _ _ (by simpa[Sort.ahead] using hk)];have hne:blk≠k:=fun e=>hne e.symm;simp[putRow,mapBlock,Sort.ahead,Array.getElem?_modify,hne]
 simp only[sortWorldK,putRowK];rw[frozen?_grow _ _ _ (by simpa[Sort.ahead] using hg),frozen?_putRow,frozen?_ahead];exact hf j
theorem LQ[Inhabited LP]{w:ae}{base g cap:Nat}{xs:List LP}(h:w.ownsRow base 43 5 (.slice (some ⟨g,0,none⟩) xs.length cap) xs.length (aA (lI xs))):HoldsK pG 5 w g 0 xs.toArray:=by
 intro t ht;rw[size_flatK]at ht;have ht':t<xs.length*5:=by simpa using ht
 have hi:t / 5<xs.length:=by omega
 have hr:t%5<5:=Nat.mod_lt _ (by omega);refine⟨?_,by rw[WB];exact h.frozenAt t⟩;rw[WB,h.cellAt t ht',get_flatK _ _ _ _ ht];have e:t=t / 5*5+t%5:=by omega
 have h1:=rP (lI xs) (t / 5) (by rw[mi];exact hi) (t%5) hr;rw[<-e]at h1;rw[h1];have h2:(xs.toArray)[t / 5]! = xs[t / 5]:=by rw[getElem!_pos xs.toArray _ (by simpa using hi)];simp
 rw[h2];have h3:(lI xs)[t / 5]'(by rw[mi];exact hi)=xs[t / 5].1:=by simp[lI]
 rw[h3];have hl:t%5<(Fc.row xs[t / 5].1).length:=hr;show _=some ((Fc.row xs[t / 5].1)[t%5]!);rw[Wm hl,getElem!_pos (Fc.row xs[t / 5].1) (t%5) hl]
theorem VJ[Inhabited LP]{w:ae}{base g n cap:Nat}{xs ys:List LP}(h0:w.ownsRow base 43 5 (.slice (some ⟨g,0,none⟩) n cap) n (aA (lI xs)))(hx:xs.length=n)(hl:ys.length=n)(m:Nat)(os:Array Obj):(sortWorldK pG 5 w g 0 m ys.toArray os).ownsRow base 43 5 (.slice (some ⟨g,0,none⟩) n cap) n (aA (lI ys)):=by
 subst hx;have hg:=(h0.lt g rfl).2;have hH:=holdsK_sortWorldK_c pG 5 w g 0 xs.toArray ys.toArray m os (LQ h0) hg (by simpa using hl);have hlen:(aA (lI ys)).length=xs.length*5:=by rw[l8,mi,hl]
 refine⟨hlen,.inr ?_⟩;rcases h0.2 with⟨e,-⟩|⟨g',cap',cur,e,h1,h2,h3,h4,h5,-⟩
 ·cases e
 injection e with e1 e2 e3;injection e1 with e1;injection e1 with e1;subst e1;subst e3;have hb:(sortWorldK pG 5 w g 0 m ys.toArray os).heap[g]?=some (.cells (putCells id 0 (flatK pG 5 ys.toArray) cur) 43 (0,0)):=by
  simp only[sortWorldK,putRowK];rw[heap_grow_old _ _ (by simpa[Sort.ahead] using hg)];simp[putRow,mapBlock,Sort.ahead,Array.getElem?_modify,h2,onCells]
 refine⟨g,cap,_,rfl,h1,hb,h3,h4,by simp only[putCells,Array.size_mapIdx];exact h5,?_⟩;refine List.ext_getElem? fun j=>?_;by_cases hj:j<xs.length*5
 ·rw[List.getElem?_take_of_lt hj];have hi:j / 5<ys.length:=by omega
  have h6:=(hH j (by rw[size_flatK];simpa[hl] using hj)).1;rw[WB,get_flatK _ _ _ _ (by simpa[hl] using hj)]at h6;replace h6:(sortWorldK pG 5 w g 0 m ys.toArray os).cell? ⟨g,j,none⟩=some ((pG (ys.toArray)[j / 5]!)[j%5]!):=h6;have h7:(putCells id 0 (flatK pG 5 ys.toArray) cur).toList[j]?=some ((pG (ys.toArray)[j / 5]!)[j%5]!):=by
   rw[<-h6];simp[World.cell?,hb]
  rw[h7];have e:j=j / 5*5+j%5:=by omega
  have h8:=rP (lI ys) (j / 5) (by rw[mi];exact hi) (j%5) (Nat.mod_lt _ (by omega));rw[<-e]at h8;rw[h8];have h9:(ys.toArray)[j / 5]! = ys[j / 5]:=by rw[getElem!_pos ys.toArray _ (by simpa using hi)];simp
  have h10:(lI ys)[j / 5]'(by rw[mi];exact hi)=ys[j / 5].1:=by simp[lI]
  rw[h9,h10];have hl2:j%5<(Fc.row ys[j / 5].1).length:=Nat.mod_lt _ (by omega);show some ((Fc.row ys[j / 5].1)[j%5]!)=_;rw[Wm hl2,getElem!_pos (Fc.row ys[j / 5].1) (j%5) hl2]
 rw[List.getElem?_eq_none (by rw[WK];omega),List.getElem?_eq_none (by omega)]
theorem Oc(base g cap:Nat)(fs:Q04)(w:ae)(hf:∀f∈fs,f.fits)(hR:w.ownsRow base 43 5 (.slice (some ⟨g,0,none⟩) fs.length cap) fs.length (aA fs))(hne:fs≠[])(h6:fs.length<=200000):
  Calls prog 43 #[.slice (some ⟨g,0,none⟩) fs.length cap,.func (.func 44) #[] #[]] w fun e w'=>e=.returned (.tuple #[])/\∃ys:List Fc,ys.Perm fs/\ys.Pairwise (fun x y=>Op.bytesLess (FX y) (FX x)=false)/\w'.ownsRow base 43 5 (.slice (some ⟨g,0,none⟩) fs.length cap) fs.length (aA ys)/\Chg (fun k=>k=g) w w':=by
 obtain⟨xs,hxs⟩:∃xs:List LP,lI xs=fs:=⟨fs.attach.map fun x=>⟨x.1,hf x.1 x.2⟩,by unfold lI;rw[List.map_map];simp[Function.comp_def]⟩;subst hxs;rw[mi]at hR h6 ⊢;cases xs with
 | nil=>exact absurd rfl hne
 | cons x0 xs0 =>
  letI:Inhabited LP:=⟨x0⟩
  have hg:=hR.lt g rfl;have eg:∀args w,(callFunc 44 args).run prog w=.ok (.enter 44 args) w:=enters_of func44 (by kernel_rfl) rfl;have hs:=AnyQ.slices_SortFunc Tryz.sortF 5 Tryz.isAgg43 Tryz.sizeOf43 pG (fun _=>rfl) (fun x v hv=>by simp[pG,Fc.row]at hv;rcases hv with rfl|rfl|rfl|rfl|rfl<;>rfl) VN (by rw[Rf];exact S9) 44 #[] g 0 cap (x0::xs0).toArray w eg (Rh g 0 _ w) (LQ hR) hg.2 (by simp at h6⊢;omega)
  change Calls prog 43 _ _ _ at hs
  rw[Rf]at hs;refine hs.mono fun e w' ⟨he,d',n,os,hp,hso,hw⟩=>⟨he,lI d'.toList,?_,?_,?_,?_⟩
  ·have:=hp.2.2;have h2:d'.toList.Perm (x0::xs0):=by simpa[Array.extract_eq_self_of_le,hp.1] using this
   exact h2.map _
  ·have hz:d'.size=xs0.length+1:=by simpa using hp.1
   unfold lI;rw[List.pairwise_map,List.pairwise_iff_getElem];intro i j hi hj hij;have hi2:i<d'.size:=by simpa using hi
   have hj2:j<d'.size:=by simpa using hj
   have hlt:=hso i j (Wd _) hij (by rw[hz]at hj2;simpa using hj2);rw[getElem!_pos d' j hj2,getElem!_pos d' i hi2]at hlt;exact hlt
  ·rw[hw];have hz:d'.toList.length=(x0::xs0).length:=by simpa using hp.1
   have:=VJ hR rfl hz n os;simpa using this
  rw[hw];exact Oa w g 0 n d' os
theorem IB(p:Q02)(cap:Nat)(fv:Value)(w:ae):
  Calls prog 137 #[.slice p 0 cap,.int .i64 0,.int .i64 0,fv] w fun e w'=>e=.returned (.tuple #[])/\w'=w:=by
 go_enter func137,ntmps137;go_wp2_with fail;go_loopw[8] (fun i wr=>i=.int .i64 1/\wr=w) (fun _ _=>0);case atStart=>exact⟨rfl,rfl⟩
 obtain⟨rfl,rfl⟩:=hrel;go_wp2
 go_end0
 exact⟨rfl,rfl⟩
theorem Ri(p:Q02)(cap:Nat)(lim:Int)(fv:Value)(w:ae):
  Calls prog 84 #[.slice p 0 cap,.int .i64 0,.int .i64 0,.int .i64 lim,fv] w fun e w'=>e=.returned (.tuple #[])/\w'=w:=by
 go_enter func84,ntmps84;go_wp2_with fail;go_loopw[1,2] (fun a b wr=>a=.int .i64 0/\b=.int .i64 0/\wr=w) (fun _ _ _=>0);case atStart=>exact⟨rfl,rfl,rfl⟩
 obtain⟨rfl,rfl,rfl⟩:=hrel;go_wp2_with fail;refine(IB p cap fv _).mono ?_;rintro e w1 ⟨rfl,rfl⟩;go_wp2;refine bodyPost_ret (results_none rfl _ _ _) rfl ?_;exact⟨rfl,rfl⟩
theorem Od(p:Q02)(cap:Nat)(fv:Value)(w:ae):
  Calls prog 43 #[.slice p 0 cap,fv] w fun e w'=>e=.returned (.tuple #[])/\w'=w:=by
 go_enter func43,ntmps43;go_wp2_with fail;refine(Tryz.bits_Len 0 _ (by omega) (by omega)).mono ?_;rintro e w1 ⟨rfl,rfl⟩;go_wp2_with fail;refine(Ri p cap _ fv _).mono ?_;rintro e w1 ⟨rfl,rfl⟩;go_wp2
 go_end0
 exact⟨rfl,rfl⟩
end Go.Proofs.YtcgdckphpjfmhaaGreatDoor
