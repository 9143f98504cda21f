/- What the document's reader leaves is an expression in memory. -/
import Derived.Test.YtojjoblnpldniaaGreatSq
import Derived.Test.YtojjoblnpldniaaGreatJ11
import Derived.Laws.EntriesVeiled
import Derived.Test.YtojjoblnpldniaaGreatSpecSchema11
import Derived.Test.YtojjoblnpldniaaGreatJ12
import Derived.Test.YtojjoblnpldniaaGreatJ7
open Go.Proofs.Tryz
set_option maxHeartbeats 80000000
namespace Go.Proofs.YtojjoblnpldniaaGreat
set_option maxRecDepth 100000
open ChangeShapes WideShapes ChangeAt RowKit
open Pl
theorem RdF.nod{w:af}{R:Nat}{s:ByteArray}{st:RS}{base:Nat}{v:Value}{qs:Q08}(h:RdF w R s st base v qs):NodM w base v qs:=⟨h.own,h.zA,h.zK,h.ok,h.lie,h.one,h.two,h.cA⟩
open Maps
def Qn(ts:Q0b)(w:World)(e:Ending)(w':World):Prop :=
 ((∃(b n:Nat) (σ:Ky->Option Int),e=.returned (.tuple #[.map (some b),.bool true])/\aJ dw prog 146 w' b n (jl σ)/\Least ts (fun k=>(σ k).getD 0)/\∀k,(∃x,σ k=some x)↔k∈au ts)\/(e=.returned (.tuple #[.map none,.bool false])/\¬ ∃f,Sol ts f))/\ag w w'
theorem Qo(N:Nat)(ks:List Ky):oP N (fun _=>none) ks=N*ks.length:=by
 induction ks with
 | nil=>simp[oP]
 | cons k ks ih=>simp only[oP,ih,xV,V8];push_cast;rw[Int.mul_add];omega
theorem Nw{rs:Q06}(hf:∀r∈rs,r.fits):∀k∈au (ae rs),k.1.size<=maxLen/\k.2.size<=maxLen:=by
 intro k hk;obtain⟨t,ht,r,hr,rfl⟩:=oJ.1 hk;obtain⟨t',ht',rfl⟩:=VE.1 ht;obtain⟨q,hq,rfl⟩:=VE.1 hr;exact⟨(hf t' ht').1,((hf t' ht').2.2 q hq).1⟩
set_option maxRecDepth 100000 in
theorem zh(ad:Q02)(cap:Nat)(rs:Q06)(bL nL:Nat)(ML:Ky->Option Value)(E:List (Ky×St))(w:af)(hlen:rs.length<=6)(hs:jK w ad rs)(hf:∀r∈rs,r.fits)(hrl:∀r∈rs,r.rows.length<=6)(hG:Grp w bL nL ML E)(hE:Edge (ae rs) E)(hF:Found (ae rs))(hEl:E.length<=100000):
  Calls prog 186 #[.slice ad rs.length cap,.map (some bL)] w (Qn (ae rs) w):=by
 have HS:=az hs;have WT:=az hf;have Zo:Hid (∀r∈rs,r.rows.length<=6):=hrl;have HG:Hid (Grp w bL nL ML E):=hG;have HE:=az hE;have HF:=az hF;have HBL:Hid (bL<w.heap.size):=hG.map.lt;clear hs hf hrl hG hE hF;have hmm:=@run_makeMap prog;go_enter func186,ntmps186;have HB0:Hid (ag w ((w.alloc (.cells #[.map (some bL)] 261)).alloc (.cells #[.int .i64 0] 2))):=((Vv _ _).alloc (Vu _) _).alloc (by simp) _;have X9:Hid (((w.alloc (.cells #[.map (some bL)] 261)).alloc (.cells #[.int .i64 0] 2)).cell? ⟨w.heap.size,0,none⟩=some (.map (some bL))/\((w.alloc (.cells #[.map (some bL)] 261)).alloc (.cells #[.int .i64 0] 2)).cell? ⟨w.heap.size+1,0,none⟩=some (.int .i64 0)/\((w.alloc (.cells #[.map (some bL)] 261)).alloc (.cells #[.int .i64 0] 2)).frozen? ⟨w.heap.size+1,0,none⟩=false/\w.heap.size+1<((w.alloc (.cells #[.map (some bL)] 261)).alloc (.cells #[.int .i64 0] 2)).heap.size):=⟨by simp,by simp,by simp,by simp⟩;go_wp2_with fail;go_loopw[17] (fun i wr=>∃k:Nat,k<=rs.length/\i=.int .i64 k/\Hid (ag w wr)/\Hid (wr.cell? ⟨w.heap.size,0,none⟩=some (.map (some bL))/\wr.cell? ⟨w.heap.size+1,0,none⟩=some (.int .i64 ((dC rs k).length:Int))/\wr.frozen? ⟨w.heap.size+1,0,none⟩=false/\w.heap.size+1<wr.heap.size)) (fun i _=>rs.length-(intOf i).toNat);case atStart=>exact⟨0,Vy _,rfl,HB0,X9⟩
 clear HB0 X9;obtain⟨k,hk,rfl,HB,HC⟩:=hrel;obtain⟨c0,c1,c2,c3⟩:=HC.out;have hu:=xA rs Zo.out k;by_cases hlt:k<rs.length
 ·rcases HS.out.below HB.out with rfl|⟨b,off,rfl,hb,hr,-⟩
  ·simp at hlt
  obtain⟨t0,t1⟩:=hr k hlt;have hk1:=bI k;have hk2:(k:Int)<(rs.length:Int):=by omega
  have h6:=Zo.out _ (Vs hlt);have Xy:Hid ((dC rs (k+1)).length=(dC rs k).length+rs[k].rows.length):=by show _=_;rw[pM _ _ hlt,VD];simp[jg]
  obtain⟨cn,hcn⟩:=eQx ((dC rs k).length);rw[<-hcn]at c1 hu Xy;have HB1:Hid (ag w ((wr.setCell ⟨w.heap.size+1,0,none⟩ (.int .i64 ((cn:Int)+(rs[k].rows.length:Int)))).alloc (.cells #[.string rs[k].name,.slice rs[k].ad rs[k].rows.length rs[k].cap] 36))):=(HB.out.setCell (p:=⟨w.heap.size+1,0,none⟩) (by simp) _).alloc (by simpa using HB.out.size) _;have Xu:Hid (((wr.setCell ⟨w.heap.size+1,0,none⟩ (.int .i64 ((cn:Int)+(rs[k].rows.length:Int)))).alloc (.cells #[.string rs[k].name,.slice rs[k].ad rs[k].rows.length rs[k].cap] 36)).cell? ⟨w.heap.size,0,none⟩=some (.map (some bL))/\((wr.setCell ⟨w.heap.size+1,0,none⟩ (.int .i64 ((cn:Int)+(rs[k].rows.length:Int)))).alloc (.cells #[.string rs[k].name,.slice rs[k].ad rs[k].rows.length rs[k].cap] 36)).cell? ⟨w.heap.size+1,0,none⟩=some (.int .i64 ((dC rs (k+1)).length:Int))/\((wr.setCell ⟨w.heap.size+1,0,none⟩ (.int .i64 ((cn:Int)+(rs[k].rows.length:Int)))).alloc (.cells #[.string rs[k].name,.slice rs[k].ad rs[k].rows.length rs[k].cap] 36)).frozen? ⟨w.heap.size+1,0,none⟩=false/\w.heap.size+1<((wr.setCell ⟨w.heap.size+1,0,none⟩ (.int .i64 ((cn:Int)+(rs[k].rows.length:Int)))).alloc (.cells #[.string rs[k].name,.slice rs[k].ad rs[k].rows.length rs[k].cap] 36)).heap.size):=by
   obtain⟨X,hX⟩:=eQx (wr.setCell ⟨w.heap.size+1,0,none⟩ (.int .i64 ((cn:Int)+(rs[k].rows.length:Int))));have hXs:X.heap.size=wr.heap.size:=by rw[hX];simp
   have hB:ag X (X.alloc (.cells #[.string rs[k].name,.slice rs[k].ad rs[k].rows.length rs[k].cap] 36)):=(Vv _ _).alloc (Vu _) _;rw[<-hX];refine⟨aC hB (by omega) (by rw[hX,yx (by omega)];exact c0),aC hB (by omega) (by rw[hX,Xy.out];push_cast;exact mD c1),?_,by simp;omega⟩;rw[hB.frozen (p:=⟨w.heap.size+1,0,none⟩) (by simp;omega),hX];simpa using c2
  clear hr hcn HC;go_wp2;go_roundw;case rel=>exact⟨k+1,by omega,by go_num,HB1,Xu⟩
  simp[intOf]<;>omega
 obtain rfl:k=rs.length:=by omega
 have hEN:dC rs rs.length=au (ae rs):=by unfold dC;rw[VI]
 rw[hEN]at c1 hu;obtain⟨N,hN⟩:=eQx ((au (ae rs)).length);rw[<-hN]at c1 hu;have Ze:Hid (N=(au (ae rs)).length):=hN;have HEN:Hid (dC rs rs.length=au (ae rs)):=hEN;have hN36:N<=36:=by omega
 have hbl:=HBL.out;have hwr:w.heap.size<=wr.heap.size:=HB.out.size;obtain⟨W0,hW0⟩:=eQx ((((wr.alloc (.map #[] 0)).alloc (.cells #[.map (some wr.heap.size)] 169)).alloc (.cells #[(.func (Fn.func 259) #[] #[.pointer (some ⟨wr.heap.size+1,0,none⟩),.pointer (some ⟨w.heap.size+1,0,none⟩),.pointer (some ⟨w.heap.size,0,none⟩),.pointer (some ⟨wr.heap.size+1+1,0,none⟩)])] 333)));have hal:ag wr W0:=by
  rw[hW0]
  repeat(first|exact Vv _ _|refine Below.alloc ?_ (by first|(simp;done)|(simp;omega)) _)
 have hs0:W0.heap.size=wr.heap.size+3:=by rw[hW0];simp
 have HRW:Hid (Rw W0 (wr.heap.size+1) (w.heap.size+1) w.heap.size (wr.heap.size+1+1) wr.heap.size bL N 0 nL ML E (fun _=>none)):=by
  have hGr:Grp wr bL nL ML E:=HG.out.below HB.out;have hMV:aJ dw prog 146 W0 wr.heap.size 0 (jl (fun _=>none)):=by
   have h1:=oq dw prog 146 wr;have e1:jl (fun _=>none)=fun _=>none:=by funext k;rfl
   rw[e1];refine h1.below ?_;rw[hW0]
   repeat(first|exact Vv _ _|refine Below.alloc ?_ (by first|(simp;done)|(simp;omega)) _)
  have hcS:W0.cell? ⟨wr.heap.size+1,0,none⟩=some (.map (some wr.heap.size)):=by
   rw[hW0];exact aC ((Vv _ _).alloc (Vu _) _) (by simp) (Pd wr _ _ _ 0 rfl)
  have hcR:W0.cell? ⟨wr.heap.size+1+1,0,none⟩=some (Fx (wr.heap.size+1) (w.heap.size+1) w.heap.size (wr.heap.size+1+1)):=by
   rw[hW0];exact TY _ _ _ _ _ _ rfl
  exact⟨hcS,aC hal (by omega) c1,aC hal (by omega) c0,hcR,by omega,by omega,by omega,by omega,hMV,hGr.below hal,by omega,hGr.fresh (Vu _)⟩
 have HB0:=iX HB hal;clear hu hEN hN hal HC;go_wp2_with fail;rw[<-hW0];clear hW0 c0 c1 c2 c3 HB;obtain⟨bS,hbS⟩:=eQx wr.heap.size;obtain⟨gS,hgS⟩:=eQx (wr.heap.size+1);obtain⟨gR,hgR⟩:=eQx (wr.heap.size+1+1);obtain⟨gC,hgC⟩:=eQx (w.heap.size+1);obtain⟨gL,hgL⟩:=eQx w.heap.size;have hb1:w.heap.size<=bS:=by omega
 have HRW2:Hid (Rw W0 gS gC gL gR bS bL N 0 nL ML E (fun _=>none)):=by rw[hbS,hgS,hgR,hgC,hgL];exact HRW
 have HI0:Hid (∃(σ:Ky->Option Int) (n:Nat),Rw W0 gS gC gL gR bS bL N n nL ML E σ/\Rz (ae rs) N σ/\(n:Int)+oP N σ (au (ae rs))<=2000/\Raised E (fun _=>none) σ/\∀key∈dC rs 0,∃x,σ key=some x):=by
  refine⟨fun _=>none,0,HRW2.out,⟨fun k x h=>by cases h⟩,?_,Raised.refl _ _,fun k hk=>by simp[dC,ae,au]at hk⟩;rw[Qo,<-Ze.out];have h1:(N:Int)*N<=36*36:=Int.mul_le_mul (by omega) (by omega) (by omega) (by omega)
  push_cast;omega
 rw[<-hgR,<-hgS,<-hbS,<-hgC,<-hgL];clear HRW HRW2 hs0 hmm hgR hgS hbS hgC hgL;go_loopw[31] (fun i w2=>∃k:Nat,k<=rs.length/\i=.int .i64 k/\Hid (ag w w2)/\Hid (∃(σ:Ky->Option Int) (n:Nat),Rw w2 gS gC gL gR bS bL N n nL ML E σ/\Rz (ae rs) N σ/\(n:Int)+oP N σ (au (ae rs))<=2000/\Raised E (fun _=>none) σ/\∀key∈dC rs k,∃x,σ key=some x)) (fun i _=>rs.length-(intOf i).toNat);case atStart=>exact⟨0,Vy _,rfl,HB0,HI0⟩
 clear HB0 HI0;obtain⟨k,hk,rfl,HB,HI⟩:=hrel;by_cases hlt:k<rs.length
 ·rcases HS.out.below HB.out with rfl|⟨b,off,rfl,hb,hr,-⟩
  ·simp at hlt
  obtain⟨t0,t1⟩:=hr k hlt;have hk1:=bI k;have hk2:(k:Int)<(rs.length:Int):=by omega
  have h6:=Zo.out _ (Vs hlt);obtain⟨W1,hW1⟩:=eQx (wr.alloc (.cells #[.string rs[k].name,.slice rs[k].ad rs[k].rows.length rs[k].cap] 36));have hal:ag wr W1:=by rw[hW1];exact(Vv _ _).alloc (Vu _) _
  obtain⟨g12,Zw⟩:=eQx wr.heap.size;have hbw:bS<wr.heap.size:=by obtain⟨σ,n,hR,-⟩:=HI.out;exact hR.map.lt
  have HC12:Hid (W1.cell? ⟨g12,0,none⟩=some (.string rs[k].name)/\g12<W1.heap.size/\g12≠bS):=⟨by rw[hW1,Zw];simp,by rw[hW1,Zw];simp,by omega⟩;have HB1:=iX HB hal;have HI1:Hid (∃(σ:Ky->Option Int) (n:Nat),Rw W1 gS gC gL gR bS bL N n nL ML E σ/\Rz (ae rs) N σ/\(n:Int)+oP N σ (au (ae rs))<=2000/\Raised E (fun _=>none) σ/\∀key∈dC rs k,∃x,σ key=some x):=by
   obtain⟨σ,n,hR,h2⟩:=HI.out;exact⟨σ,n,hR.below hal,h2⟩
  clear hr hal HI HB;go_wp2_with fail;rw[<-hW1,<-Zw];clear hW1 t0 t1 Zw;go_loopw[38] (fun i w3=>∃j:Nat,j<=rs[k].rows.length/\i=.int .i64 j/\Hid (ag w w3)/\Hid (w3.cell? ⟨g12,0,none⟩=some (.string rs[k].name)/\g12<w3.heap.size/\g12≠bS)/\Hid (∃(σ:Ky->Option Int) (n:Nat),Rw w3 gS gC gL gR bS bL N n nL ML E σ/\Rz (ae rs) N σ/\(n:Int)+oP N σ (au (ae rs))<=2000/\Raised E (fun _=>none) σ/\∀key∈dC rs k++jg rs[k] j,∃x,σ key=some x)) (fun i _=>rs[k].rows.length-(intOf i).toNat);case atStart=>exact⟨0,Vy _,rfl,HB1,HC12,by simpa[jg] using HI1⟩
  clear HB1 HC12 HI1;obtain⟨j,hj,rfl,HB,HC,HI⟩:=hrel;by_cases hjl:j<rs[k].rows.length
  ·rcases HS.out.below HB.out with hnil|⟨b',off',he,hb2,hr,hok⟩
   ·rw[hnil]at hlt;simp at hlt
   injection he with he;injection he with he1 he2;subst he1;subst he2;have ok:=hok rs[k] (Vs hlt);rcases ok with hnil|⟨b2,WV,had,hbb,hr2,-⟩
   ·rw[hnil]at hjl;simp at hjl
   obtain⟨q0,q1⟩:=hr2 j hjl;have hj1:=bI j;have hj2:(j:Int)<(rs[k].rows.length:Int):=by omega
   obtain⟨σ,n,hR,hZ,hn,hRa,hall⟩:=HI.out;obtain⟨x0,x1,x2⟩:=HC.out;have cR:=hR.cR;unfold Fx at cR;have lR:=hR.lR.1;obtain⟨W3,hW3⟩:=eQx (wr.alloc (.cells #[.string rs[k].rows[j].name,.slice rs[k].rows[j].ad rs[k].rows[j].rows.length rs[k].rows[j].cap] 39));have hal:ag wr W3:=by rw[hW3];exact(Vv _ _).alloc (Vu _) _
   have HR3:=az (hR.below hal);have HZ3:=az hZ;have HB3:=iX HB hal;have Zr:Hid (W3.cell? ⟨g12,0,none⟩=some (.string rs[k].name)/\g12<W3.heap.size/\g12≠bS):=⟨aC hal x1 x0,Vt x1 hal.size,x2⟩;have ZF:Hid (Raised E (fun _=>none) σ):=hRa;have Xd:Hid (∀key∈dC rs k++jg rs[k] j,∃x,σ key=some x):=hall;have hmp:=hZ.mu_pos (au (ae rs));have HKM:Hid ((rs[k].name,rs[k].rows[j].name)∈au (ae rs)):=oJ.2 ⟨rs[k].p,VS (Vs hlt),rs[k].rows[j].p,VS (Vs hjl),rfl⟩;rw[had];clear hr hok hr2 hal hR hZ hRa hall HI HB HC;go_wp2_with fail;rw[<-hW3];clear hW3 q0 q1 cR x0;refine(Nu (ae rs) gS gC gL gR bS bL N nL ML E HE.out HF.out Ze.out hN36 (Nw WT.out) hEl (oP N σ (au (ae rs))).toNat _ σ n (rs[k].name,rs[k].rows[j].name) 0 HR3.out HZ3.out (by omega) (by omega) HKM.out (by omega) (by omega) (qQ.zero _ _)).mono ?_;rintro e w5 ⟨ok,σ5,n5,rfl,hg5,Xz,hZ5,hn5,ZA,hf5,ht5⟩;have Xg:Hid (ag w w5):=HB3.out.grown hg5 HB3.out.size (fun i hi=>by injection hi with hi;omega);cases ok;case false=>
    have HP:Hid (Qn (ae rs) w (.returned (.tuple #[.map none,.bool false])) w5):=⟨.inr ⟨rfl,hf5 rfl⟩,Xg.out⟩;clear hg5 Xz hZ5 hn5 ZA hf5 ht5;go_wp2;refine bodyPost_ret (v:=.tuple #[.map none,.bool false]) ?_ rfl HP.out;simp[results,Tryz.results186,go_sem]
   have HI5:Hid (∃(σ:Ky->Option Int) (n:Nat),Rw w5 gS gC gL gR bS bL N n nL ML E σ/\Rz (ae rs) N σ/\(n:Int)+oP N σ (au (ae rs))<=2000/\Raised E (fun _=>none) σ/\∀key∈dC rs k++jg rs[k] (j+1),∃x,σ key=some x):=by
    obtain⟨hRa,y,hy,-⟩:=ht5 rfl;refine⟨σ5,n5,Xz,hZ5,by omega,ZF.out.trans hRa,fun key hk=>?_⟩;rw[uw _ _ hjl,<-VY]at hk;rcases VJ.1 hk with hk|hk
    ·obtain⟨x,hx⟩:=Xd.out key hk;obtain⟨z,hz,-⟩:=hRa.mono key x hx;exact⟨z,hz⟩
    simp at hk;subst hk;exact⟨y,hy⟩
   have HC5:Hid (w5.cell? ⟨g12,0,none⟩=some (.string rs[k].name)/\g12<w5.heap.size/\g12≠bS):=⟨(kU hg5 Zr.out.2 0).trans Zr.out.1,Vt Zr.out.2.1 hg5.size,Zr.out.2.2⟩;clear hg5 Xz hZ5 hn5 ZA hf5 ht5;go_wp2;go_roundw;case rel=>exact⟨j+1,by omega,by go_num,Xg,HC5,HI5⟩
   simp[intOf]<;>omega
  obtain rfl:j=rs[k].rows.length:=by omega
  have HI5:Hid (∃(σ:Ky->Option Int) (n:Nat),Rw wr gS gC gL gR bS bL N n nL ML E σ/\Rz (ae rs) N σ/\(n:Int)+oP N σ (au (ae rs))<=2000/\Raised E (fun _=>none) σ/\∀key∈dC rs (k+1),∃x,σ key=some x):=by rw[pM _ _ hlt];exact HI
  clear HI;go_wp2;go_roundw;case rel=>exact⟨k+1,by omega,by go_num,HB,HI5⟩
  simp[intOf]<;>omega
 obtain rfl:k=rs.length:=by omega
 obtain⟨σ,n,hR,hZ,hn,hRa,hall⟩:=HI.out;have cS:=hR.cS;have HP:Hid (Qn (ae rs) w (.returned (.tuple #[.map (some bS),.bool true])) wr):=by
  rw[HEN.out]at hall;refine⟨.inl ⟨bS,n,σ,rfl,hR.map,Fw HE.out HF.out hZ hall (fun k=>hRa.done k (.inl (fun x h=>by cases h))),fun k=>⟨fun⟨x,hx⟩=>(hZ.there k x hx).1,hall k⟩⟩,HB.out⟩
 clear hR hZ hn hRa hall HI;go_wp2;refine bodyPost_ret (v:=.tuple #[.map (some bS),.bool true]) ?_ rfl HP.out;simp[results,Tryz.results186,go_sem]
theorem Ny(ng:Bool)(xs:Q0a):cO ng xs=(dL xs).map fun a=>(⟨a.t,a.s,ng⟩:Dp):=by
 induction xs with
 | nil=>rfl
 | cons a xs ih=>simp only[cO,dL];split<;>simp[ih]
theorem D6(ts:Q0b)(typ:bi)(ng:Bool)(e:Ex)(hn:av e=true)(hd:e.kind=3->bn (ak ts typ e.over)=true):cO ng e.allow++kH ts typ ng e=(jE ts typ e).map fun a=>(⟨a.t,a.s,ng⟩:Dp):=by
 by_cases h1:e.kind=1
 ·unfold kH jE;rw[if_neg (by omega),if_neg (by omega),if_pos h1,Wt,Ny]
 rw[uK hn h1];unfold kH jE;rw[if_neg h1];by_cases h2:e.kind=2
 ·rw[if_pos h2,if_pos h2];rfl
 rw[if_neg h2,if_neg h2];by_cases h3:e.kind=3
 ·rw[if_pos h3,if_pos h3];unfold dU;rw[if_pos (hd h3),List.map_map];rfl
 rw[if_neg h3,if_neg h3];rfl
theorem D7{ts:Q0b}{typ:ByteArray}{es:Q09}{d:Dp}{i:Nat}(hd:d∈gG ts typ es i):∀{k:Nat},i<k->d∈aO ts typ es k
 | 0,h=>by omega
 | k+1,h=>by
  simp only[aO];by_cases e:i=k
  ·subst e;exact VJ.2 (.inr hd)
  exact VJ.2 (.inl (D7 hd (by omega)))
theorem Bo{ts:Q0b}{t r:ByteArray}{es:Q09}{x:Ky×St}:∀{k:Nat},x∈relE ts t r es k ↔ ∃i,i<k/\∃e,es[i]?=some e/\x∈Bh ts t r ((dB es).getD i false) e
 | 0=>by simp[relE]
 | k+1=>by
  simp only[relE,VJ];rw[Bo];constructor
  ·rintro(⟨i,hi,h⟩|h)
   ·exact⟨i,by omega,h⟩
   cases e:es[k]? with
   | none=>rw[e]at h;cases h
   | some y=>rw[e]at h;exact⟨k,by omega,y,e,h⟩
  rintro⟨i,hi,e,he,h⟩;by_cases ek:i=k
  ·subst ek;right;rw[he];exact h
  exact .inl ⟨i,by omega,e,he,h⟩
theorem qc{rs:Q06}(h:aZ (ae rs)=true){t:TR}(ht:t∈rs){q:RR}(hq:q∈t.rows):dZ (ae rs) t.name q.name=some (ai q.rows):=by
 have hT:=ry h;have hs:=tJ (M:=fun _=>none) (rs:=rs) (k:=(t.name,q.name)) (.inr ⟨t,ht,q,hq,rfl⟩);obtain⟨v,hv⟩:=Option.isSome_iff_exists.1 hs;obtain⟨t',ht',q',hq',e,-,e2,-⟩:=hT.yes _ v hv;injection e with e3 e4;have h1:t=t':=He h ht ht' e3;subst h1;obtain⟨i,hi,rfl⟩:=Wj.1 ht;have h2:q=q':=Hf (l7 h i hi).2.2 hq hq' e4;subst h2;exact e2
theorem jI{es:Q09}(h:aI es=true):∀e∈es,av e=true:=by
 simp only[aI,Vw]at h;exact VF.1 h.1.1.1.2
theorem Ht(t r:bi)(ng:Bool):stepOf ⟨t,r,ng⟩=yN ng:=by cases ng<;>rfl
theorem Sd{rs:Q06}(h:aZ (ae rs)=true)(hr:gI (ae rs)=true):Edge (ae rs) (jG (ae rs) rs):=by
 have WN:∀t∈rs,∀q∈t.rows,∀e∈ai q.rows,av e=true/\(e.kind=3->bn (ak (ae rs) t.name e.over)=true):=by
  intro t ht q hq e he;have h1:=((aW h).2.2 t ht q hq).1;refine⟨jI h1 e he,fun h3=>?_⟩;unfold gI at hr;rw[VF]at hr;have h2:=hr t.p (VS ht);unfold qA at h2;rw[VF]at h2;have h4:aQ (ae rs) t.name (ai q.rows)=true:=h2 q.p (VS hq);have h5:=(xy h4 e he).2;unfold kZ at h5;rw[if_neg (by omega),if_pos h3,Vw]at h5;exact h5.1
 intro on t0 r0 s;constructor
 ·intro hm;unfold jG jF at hm;rw[VP]at hm;obtain⟨t,ht,hm⟩:=hm;rw[VP]at hm;obtain⟨q,hq,hm⟩:=hm;obtain⟨i,hi,e,he,hm⟩:=Bo.1 hm;unfold Bh at hm;obtain⟨a,ha,e1⟩:=VE.1 hm;injection e1 with e2 e3;injection e3 with e4 e5 e6;subst e4;subst e5;refine⟨oJ.2 ⟨t.p,VS ht,q.p,VS hq,rfl⟩,⟨a.t,a.s,(dB (ai q.rows)).getD i false⟩,?_,e2,by rw[Ht];exact e6⟩;unfold fZ oH;have ero:ak (ae rs) t.name q.name=ai q.rows:=by unfold ak;rw[qc h ht hq];rfl
  simp only[ero];have hi2:i<(ai q.rows).length:=(List.getElem?_eq_some_iff.1 he).1;refine D7 (i:=i) ?_ hi2;unfold gG;rw[he];obtain⟨n1,n2⟩:=WN t ht q hq e (WB he);simp only;rw[D6 _ _ _ _ n1 n2];exact VS (f:=fun a:Al=>(⟨a.t,a.s,(dB (ai q.rows)).getD i false⟩:Dp)) ha
 rintro⟨hk,d,hd,e1,e2⟩;obtain⟨t',ht',r',hr',e3⟩:=oJ.1 hk;obtain⟨t,ht,rfl⟩:=VE.1 ht';obtain⟨q,hq,rfl⟩:=VE.1 hr';injection e3 with e4 e5;subst e4;subst e5;unfold fZ oH at hd;have ero:ak (ae rs) t.p.name q.p.name=ai q.rows:=by
  have:=qc h ht hq;show ak (ae rs) t.name q.name=_;unfold ak;rw[this];rfl
 simp only[ero]at hd;obtain⟨i,hi,hd⟩:=pK hd;unfold gG at hd;split at hd
 ·cases hd
 rename_i e he;obtain⟨n1,n2⟩:=WN t ht q hq e (WB he);have hdn:cO ((dB (ai q.rows)).getD i false) e.allow++kH (ae rs) t.p.name ((dB (ai q.rows)).getD i false) e=_:=D6 (ae rs) t.name _ e n1 n2;rw[hdn]at hd;obtain⟨a,ha,rfl⟩:=VE.1 hd;unfold jG jF;rw[VP];refine⟨t,ht,?_⟩;rw[VP];refine⟨q,hq,Bo.2 ⟨i,by rw[ay]at hi;exact hi,e,he,?_⟩⟩;unfold Bh;rw[VE];refine⟨a,ha,?_⟩;rw[<-e1,<-e2,Ht];rfl
theorem Qp{rs:Q06}(h:aZ (ae rs)=true):∀r∈rs,∀q∈r.rows,∀e∈q.rows,e.e.allow.length<=6:=by
 intro r hr q hq e he;have h1:=jI ((aW h).2.2 r hr q hq).1 e.e (by unfold ai;exact VS he);by_cases h2:e.e.kind=1
 ·unfold av at h1;rw[if_pos h2]at h1;simp only[Vw,dx,VH]at h1;exact h1.1.1.1.1.2
 rw[uK h1 h2];simp
theorem rC{α β:Type}(f:α->List β)(B:Nat):∀(xs:List α),(∀x∈xs,(f x).length<=B)->(xs.flatMap f).length<=xs.length*B
 | [],_=>by simp
 | x::xs,h=>by
  rw[V6,VD,V8,Nat.succ_mul];have h1:=h x (by simp);have h2:=rC f B xs fun q hq=>h q (by simp[hq]);omega
theorem Nz(rs:Q06)(h6:∀r∈rs,r.rows.length<=6)(hex:∀r∈rs,∀q∈r.rows,aI (ai q.rows)=true/\q.rows.length<=15/\∀e∈q.rows,fo q.rows.length e.e.kids)(h66:∀r∈rs,∀q∈r.rows,∀e∈q.rows,e.e.allow.length<=6)(hl:rs.length<=6:=by omega):(jG (ae rs) rs).length<=100000:=by
 have h1:∀t∈rs,(jF (ae rs) t.name t.rows).length<=540:=by
  intro t ht;have h2:∀q∈t.rows,(relE (ae rs) t.name q.name (ai q.rows) q.rows.length).length<=90:=by
   intro q hq;have h3:∀k,k<=q.rows.length->(relE (ae rs) t.name q.name (ai q.rows) k).length<=k*6:=by
    intro k
    induction k with
    | zero=>intro _;simp[relE]
    | succ k ih =>
     intro hk;rw[DV _ _ _ _ _ (by omega) _ rfl,VD];have h4:=ih (by omega);have h5:(Bh (ae rs) t.name q.name ((dB (ai q.rows)).getD k false) q.rows[k].e).length<=6:=by
      unfold Bh;rw[Wp];exact DW rs h66 _ _ (h66 t ht q hq _ (Vs (by omega)))
     omega
   have h4:=h3 q.rows.length (Vu _);have h5:=(hex t ht q hq).2.1;omega
  have h3:=rC (fun q:RR=>relE (ae rs) t.name q.name (ai q.rows) q.rows.length) 90 t.rows h2;have h4:=h6 t ht;unfold jF;omega
 have h2:=rC (fun t:TR=>jF (ae rs) t.name t.rows) 540 rs h1;unfold jG;omega
open Go.Sort
def iB(rs:Q07):Bool:=decide (rs.length<=6)&&dE (bQ rs) rs.length
theorem Ko{rs:Q07}{k:Nat}(h:k<rs.length):mG (bQ rs) k=(aP rs[k].name&&yO (bQ rs) rs[k].name k&&aI (ai rs[k].rows)):=DZ h
theorem Kq{rs:Q06}{k:Nat}(h:k<rs.length):kI (ae rs) k=(aP rs[k].name&&wE (ae rs) rs[k].name k&&iB rs[k].rows):=by
 rw[DY h];unfold iB;rw[Bool.and_assoc]
set_option maxRecDepth 100000 in
theorem zi(ad:Q02)(cap:Nat)(rs:Q07)(w:af)(hlen:rs.length<=1048576)(hs:F5 w ad rs)(hl:∀r∈rs,r.light)(hf:∀r∈rs,r.fits)(hcp:∀r∈rs,r.caps):
  Calls prog 257 #[.slice ad rs.length cap] w fun e w'=>e=.returned (.bool (iB rs))/\ag w w':=by
 have HS:=az hs;have HL:=az hl;have WT:=az hf;have Zq:=az hcp;clear hs hl hf hcp;have HALL:Hid (iB rs=(decide (rs.length<=6)&&dE (bQ rs) rs.length)):=by show _=_;rfl
 by_cases h6:6<rs.length
 ·have HN:Hid (iB rs=false):=by show _=_;rw[HALL.out];simp;omega
  go_enter func257,ntmps257;go_wp2;go_ret;exact⟨ah HN.out.symm,Vv _ _⟩
 go_enter func257,ntmps257;go_wp2;go_loopw[10] (fun i wr=>∃k:Nat,k<=rs.length/\i=.int .i64 k/\Hid (dE (bQ rs) k=true)/\Hid (ag w wr)) (fun i _=>rs.length-(intOf i).toNat);case atStart=>exact⟨0,Vy _,rfl,rfl,Vv _ _⟩
 obtain⟨k,hk,rfl,HP,HB⟩:=hrel;by_cases hlt:k<rs.length
 ·rcases HS.out.below HB.out with rfl|⟨b,off,rfl,hb,hr,hok⟩
  ·simp at hlt
  obtain⟨t0,t1⟩:=hr k hlt;have HSE:Hid (rs[k].ok wr):=hok rs[k] (Vs hlt);have z1:rs[k].name.size<=maxLen:=(WT.out _ (Vs hlt)).1;have YT:Hid (rs[k].light):=HL.out _ (Vs hlt);have YB:Hid (rs[k].fits):=WT.out _ (Vs hlt);have HCP:Hid (rs[k].caps):=Zq.out _ (Vs hlt);have hk1:=bI k;have hk2:(k:Int)<(rs.length:Int):=by omega
  have HTP:Hid (∀(m:Nat) (h:m<rs.length),wr.cell? ⟨b,off+m*2,none⟩=some (.string rs[m].name)):=fun m h=>(hr m h).1;have HRG:Hid (mG (bQ rs) k=(aP rs[k].name&&yO (bQ rs) rs[k].name k&&aI (ai rs[k].rows))):=Ko hlt;have HBAD:Hid (mG (bQ rs) k=false->iB rs=false):=fun h=>by rw[HALL.out,ut _ k h _ hlt];simp
  obtain⟨W1,hW1⟩:=eQx (wr.alloc (.cells #[.string rs[k].name,.slice rs[k].ad rs[k].rows.length rs[k].cap] 39));have hal:ag wr W1:=by rw[hW1];exact(Vv _ _).alloc (Vu _) _
  have Xd:=az hal;have hgl:wr.heap.size<W1.heap.size:=by rw[hW1];simp
  have g0:W1.cell? ⟨wr.heap.size,0,none⟩=some (.string rs[k].name):=by rw[hW1];simp
  have g1:W1.cell? ⟨wr.heap.size,1,none⟩=some (.slice rs[k].ad rs[k].rows.length rs[k].cap):=by rw[hW1];simp
  have hb4:b<W1.heap.size:=Nat.lt_trans hb hgl;clear hr hok;go_wp2_with fail;rw[<-hW1];clear hW1 t0 t1 hal;have q0:=cell_regrown g0;have q1:=cell_regrown g1;have Xy:=qD (j4 (W:=W1) (fun W'=>aL rs[k].name W' z1));have HCE:Hid (∀d os,Calls prog 178 #[.slice rs[k].ad rs[k].rows.length rs[k].cap] (grow (redrawn W1 d) os) fun e w''=>e=.returned (.bool (aI (ai rs[k].rows)))/\∃p:Regrown,w''=grow (redrawn W1 p.d) p.os):=by
   show ∀d os,Calls prog 178 #[.slice rs[k].ad rs[k].rows.length rs[k].cap] (grow (redrawn W1 d) os) fun e w''=>e=.returned (.bool (aI (ai rs[k].rows)))/\∃p:Regrown,w''=grow (redrawn W1 p.d) p.os;rw[rV];refine fO fun W' hb=>?_;exact rA _ _ rs[k].rows _ YT.out.1 YT.out.2 YB.out.2.2 HCP.out.2 (HSE.out.below (Xd.out.trans (hb.mono Xd.out.size)))
  have Xm:Hid (∀d os,ag w (grow (redrawn W1 d) os)):=fun d os=>HB.out.trans ((Xd.out.mono HB.out.size).trans ((below_regrown W1 d os).mono (Vz HB.out.size Xd.out.size)));cases hnm:aP rs[k].name;case false=>
   rw[hnm]at Xy;have HN:Hid (iB rs=false):=HBAD.out (by rw[HRG.out];simp[hnm]);refine wp_region_quiet_below (by kernel_rfl) (by kernel_rfl) ?_
   repeat(go_big_quiet_step (exact Xy.out _ _))
   refine wpQuiet_nil ?_;rintro _ ⟨⟨dq,osq⟩,rfl⟩;go_wp2;go_ret;exact⟨ah HN.out.symm,Xm.out dq osq⟩
  rw[hnm]at Xy;obtain⟨ex,hex⟩:=eQx (aI (ai rs[k].rows));rw[<-hex]at HCE HRG;have fin:Hid (∀pv,yO (bQ rs) rs[k].name k=pv->mG (bQ rs) k=(pv&&ex)):=fun pv h=>by rw[HRG.out,hnm,h];simp
  clear hex HRG hnm;by_cases hpos:k=0
  ·have hk0:¬(0:Int)<(k:Int):=by omega
   have hk9:decide (0<k)=false:=by simp;omega
   have Yq:=qD (fin.out _ (Bn hpos));replace hpos:Hid (k=0):=hpos;refine wp_region_quiet_below (by kernel_rfl) (by kernel_rfl) ?_
   repeat(go_big_quiet_step (first|exact Xy.out _ _|exact HCE.out _ _))
   refine wpQuiet_nil ?_;rintro _ ⟨⟨dq,osq⟩,rfl⟩;cases ex;case false=>
    have HN:Hid (iB rs=false):=HBAD.out (by rw[Yq.out];rfl);go_wp2;go_ret;exact⟨ah HN.out.symm,Xm.out dq osq⟩
   have Yu:Hid (dE (bQ rs) (k+1)=true):=by show _=_;simp only[dE];rw[HP.out,Yq.out];rfl
   go_wp2;go_roundw;case rel=>exact⟨k+1,by omega,by go_num,Yu,Xm.out dq osq⟩
   simp[intOf]<;>omega
  obtain⟨m,hm⟩:∃m,k=m+1:=⟨k-1,by omega⟩;have Xh:m<rs.length:=by omega
  have hk0:(0:Int)<(k:Int):=by omega
  have hk9:decide (0<k)=true:=by simp;omega
  have hkm:(k:Int)-1=(m:Int):=by omega
  have hwm:IntKind.i64.wrap (m:Int)=(m:Int):=by rw[IntKind.wrap_i64];omega
  have hm1:=bI m;have hm2:(m:Int)<(rs.length:Int):=by omega
  have qm:=cell_regrown (aC Xd.out hb (HTP.out m Xh));have Yq:=qD (fin.out _ (Bj hm Xh));replace hm:Hid (k=m+1):=hm;cases hless:Op.bytesLess rs[m].name.toList rs[k].name.toList;case false=>
   have HN:Hid (iB rs=false):=HBAD.out (by rw[Yq.out];simp[jB,hless]);refine wp_region_quiet_below (by kernel_rfl) (by kernel_rfl) ?_
   repeat(go_big_quiet_step (first|exact Xy.out _ _|exact HCE.out _ _))
   refine wpQuiet_nil ?_;rintro _ ⟨⟨dq,osq⟩,rfl⟩;go_wp2;go_ret;exact⟨ah HN.out.symm,Xm.out dq osq⟩
  refine wp_region_quiet_below (by kernel_rfl) (by kernel_rfl) ?_
  repeat(go_big_quiet_step (first|exact Xy.out _ _|exact HCE.out _ _))
  refine wpQuiet_nil ?_;rintro _ ⟨⟨dq,osq⟩,rfl⟩;cases ex;case false=>
   have HN:Hid (iB rs=false):=HBAD.out (by rw[Yq.out];simp);go_wp2;go_ret;exact⟨ah HN.out.symm,Xm.out dq osq⟩
  have Yu:Hid (dE (bQ rs) (k+1)=true):=by show _=_;simp only[dE];rw[HP.out,Yq.out];simp[jB,hless]
  go_wp2;go_roundw;case rel=>exact⟨k+1,by omega,by go_num,Yu,Xm.out dq osq⟩
  simp[intOf]<;>omega
 obtain rfl:k=rs.length:=by omega
 have HY:Hid (iB rs=true):=by show _=_;rw[HALL.out,HP.out];simp;omega
 go_wp2;go_ret;exact⟨ah HY.out.symm,HB.out⟩
set_option maxRecDepth 100000 in
theorem Hu(ad:Q02)(cap:Nat)(rs:Q06)(w:af)(hlen:rs.length<=1048576)(hs:jK w ad rs)(hl:∀r∈rs,r.light)(hf:∀r∈rs,r.fits)(hcp:∀r∈rs,r.caps):
  Calls prog 184 #[.slice ad rs.length cap] w fun e w'=>e=.returned (.bool (aZ (ae rs)))/\ag w w':=by
 have HS:=az hs;have HL:=az hl;have WT:=az hf;have Zq:=az hcp;clear hs hl hf hcp;have HALL:Hid (aZ (ae rs)=(decide (rs.length<=6)&&jb (ae rs) rs.length)):=by show _=_;unfold aZ;rw[df]
 by_cases h6:6<rs.length
 ·have HN:Hid (aZ (ae rs)=false):=by show _=_;rw[HALL.out];simp;omega
  go_enter func184,ntmps184;go_wp2;go_ret;exact⟨ah HN.out.symm,Vv _ _⟩
 go_enter func184,ntmps184;go_wp2;go_loopw[10] (fun i wr=>∃k:Nat,k<=rs.length/\i=.int .i64 k/\Hid (jb (ae rs) k=true)/\Hid (ag w wr)) (fun i _=>rs.length-(intOf i).toNat);case atStart=>exact⟨0,Vy _,rfl,rfl,Vv _ _⟩
 obtain⟨k,hk,rfl,HP,HB⟩:=hrel;by_cases hlt:k<rs.length
 ·rcases HS.out.below HB.out with rfl|⟨b,off,rfl,hb,hr,hok⟩
  ·simp at hlt
  obtain⟨t0,t1⟩:=hr k hlt;have HSE:Hid (rs[k].ok wr):=hok rs[k] (Vs hlt);have z1:rs[k].name.size<=maxLen:=(WT.out _ (Vs hlt)).1;have YT:Hid (rs[k].light):=HL.out _ (Vs hlt);have YB:Hid (rs[k].fits):=WT.out _ (Vs hlt);have HCP:Hid (rs[k].caps):=Zq.out _ (Vs hlt);have hk1:=bI k;have hk2:(k:Int)<(rs.length:Int):=by omega
  have HTP:Hid (∀(m:Nat) (h:m<rs.length),wr.cell? ⟨b,off+m*2,none⟩=some (.string rs[m].name)):=fun m h=>(hr m h).1;have HRG:Hid (kI (ae rs) k=(aP rs[k].name&&wE (ae rs) rs[k].name k&&iB rs[k].rows)):=Kq hlt;have HBAD:Hid (kI (ae rs) k=false->aZ (ae rs)=false):=fun h=>by rw[HALL.out,uu _ k h _ hlt];simp
  obtain⟨W1,hW1⟩:=eQx (wr.alloc (.cells #[.string rs[k].name,.slice rs[k].ad rs[k].rows.length rs[k].cap] 36));have hal:ag wr W1:=by rw[hW1];exact(Vv _ _).alloc (Vu _) _
  have Xd:=az hal;have hgl:wr.heap.size<W1.heap.size:=by rw[hW1];simp
  have g0:W1.cell? ⟨wr.heap.size,0,none⟩=some (.string rs[k].name):=by rw[hW1];simp
  have g1:W1.cell? ⟨wr.heap.size,1,none⟩=some (.slice rs[k].ad rs[k].rows.length rs[k].cap):=by rw[hW1];simp
  have hb4:b<W1.heap.size:=Nat.lt_trans hb hgl;clear hr hok;go_wp2_with fail;rw[<-hW1];clear hW1 t0 t1 hal;have q0:=cell_regrown g0;have q1:=cell_regrown g1;have Xy:=qD (j4 (W:=W1) (fun W'=>aL rs[k].name W' z1));have HCE:Hid (∀d os,Calls prog 257 #[.slice rs[k].ad rs[k].rows.length rs[k].cap] (grow (redrawn W1 d) os) fun e w''=>e=.returned (.bool (iB rs[k].rows))/\∃p:Regrown,w''=grow (redrawn W1 p.d) p.os):=by
   refine fO fun W' hb=>?_;exact zi _ _ rs[k].rows _ YT.out.1 (HSE.out.below (Xd.out.trans (hb.mono Xd.out.size))) YT.out.2 YB.out.2.2 HCP.out.2
  have Xm:Hid (∀d os,ag w (grow (redrawn W1 d) os)):=fun d os=>HB.out.trans ((Xd.out.mono HB.out.size).trans ((below_regrown W1 d os).mono (Vz HB.out.size Xd.out.size)));cases hnm:aP rs[k].name;case false=>
   rw[hnm]at Xy;have HN:Hid (aZ (ae rs)=false):=HBAD.out (by rw[HRG.out];simp[hnm]);refine wp_region_quiet_below (by kernel_rfl) (by kernel_rfl) ?_
   repeat(go_big_quiet_step (exact Xy.out _ _))
   refine wpQuiet_nil ?_;rintro _ ⟨⟨dq,osq⟩,rfl⟩;go_wp2;go_ret;exact⟨ah HN.out.symm,Xm.out dq osq⟩
  rw[hnm]at Xy;obtain⟨ex,hex⟩:=eQx (iB rs[k].rows);rw[<-hex]at HCE HRG;have fin:Hid (∀pv,wE (ae rs) rs[k].name k=pv->kI (ae rs) k=(pv&&ex)):=fun pv h=>by rw[HRG.out,hnm,h];simp
  clear hex HRG hnm;by_cases hpos:k=0
  ·have hk0:¬(0:Int)<(k:Int):=by omega
   have hk9:decide (0<k)=false:=by simp;omega
   have Yq:=qD (fin.out _ (Bl hpos));replace hpos:Hid (k=0):=hpos;refine wp_region_quiet_below (by kernel_rfl) (by kernel_rfl) ?_
   repeat(go_big_quiet_step (first|exact Xy.out _ _|exact HCE.out _ _))
   refine wpQuiet_nil ?_;rintro _ ⟨⟨dq,osq⟩,rfl⟩;cases ex;case false=>
    have HN:Hid (aZ (ae rs)=false):=HBAD.out (by rw[Yq.out];rfl);go_wp2;go_ret;exact⟨ah HN.out.symm,Xm.out dq osq⟩
   have Yu:Hid (jb (ae rs) (k+1)=true):=by show _=_;simp only[jb];rw[HP.out,Yq.out];rfl
   go_wp2;go_roundw;case rel=>exact⟨k+1,by omega,by go_num,Yu,Xm.out dq osq⟩
   simp[intOf]<;>omega
  obtain⟨m,hm⟩:∃m,k=m+1:=⟨k-1,by omega⟩;have Xh:m<rs.length:=by omega
  have hk0:(0:Int)<(k:Int):=by omega
  have hk9:decide (0<k)=true:=by simp;omega
  have hkm:(k:Int)-1=(m:Int):=by omega
  have hwm:IntKind.i64.wrap (m:Int)=(m:Int):=by rw[IntKind.wrap_i64];omega
  have hm1:=bI m;have hm2:(m:Int)<(rs.length:Int):=by omega
  have qm:=cell_regrown (aC Xd.out hb (HTP.out m Xh));have Yq:=qD (fin.out _ (Bi hm Xh));replace hm:Hid (k=m+1):=hm;cases hless:Op.bytesLess rs[m].name.toList rs[k].name.toList;case false=>
   have HN:Hid (aZ (ae rs)=false):=HBAD.out (by rw[Yq.out];simp[jB,hless]);refine wp_region_quiet_below (by kernel_rfl) (by kernel_rfl) ?_
   repeat(go_big_quiet_step (first|exact Xy.out _ _|exact HCE.out _ _))
   refine wpQuiet_nil ?_;rintro _ ⟨⟨dq,osq⟩,rfl⟩;go_wp2;go_ret;exact⟨ah HN.out.symm,Xm.out dq osq⟩
  refine wp_region_quiet_below (by kernel_rfl) (by kernel_rfl) ?_
  repeat(go_big_quiet_step (first|exact Xy.out _ _|exact HCE.out _ _))
  refine wpQuiet_nil ?_;rintro _ ⟨⟨dq,osq⟩,rfl⟩;cases ex;case false=>
   have HN:Hid (aZ (ae rs)=false):=HBAD.out (by rw[Yq.out];simp);go_wp2;go_ret;exact⟨ah HN.out.symm,Xm.out dq osq⟩
  have Yu:Hid (jb (ae rs) (k+1)=true):=by show _=_;simp only[jb];rw[HP.out,Yq.out];simp[jB,hless]
  go_wp2;go_roundw;case rel=>exact⟨k+1,by omega,by go_num,Yu,Xm.out dq osq⟩
  simp[intOf]<;>omega
 obtain rfl:k=rs.length:=by omega
 have HY:Hid (aZ (ae rs)=true):=by show _=_;rw[HALL.out,HP.out];simp;omega
 go_wp2;go_ret;exact⟨ah HY.out.symm,HB.out⟩
def Hw(ts:Q0b)(w:World)(e:Ending)(w':World):Prop :=
 ((∃(b n:Nat) (σ:Ky->Option Int),e=.returned (.tuple #[.map (some b),.bool true])/\bN ts/\aJ dw prog 146 w' b n (jl σ)/\Least ts (fun k=>(σ k).getD 0)/\∀k,(∃x,σ k=some x)↔k∈au ts)\/(e=.returned (.tuple #[.map none,.bool false])/\¬bN ts))/\ag w w'
set_option maxRecDepth 100000 in
theorem wG(ad:Q02)(cap:Nat)(rs:Q06)(w:af)(hlen:rs.length<=1048576)(hs:jK w ad rs)(hl:∀r∈rs,r.light)(hf:∀r∈rs,r.fits)(hcp:∀r∈rs,r.caps):
  Calls prog 112 #[.slice ad rs.length cap] w (Hw (ae rs) w):=by
 have HS:=az hs;have HL:=az hl;have WT:=az hf;have Zq:=az hcp;clear hs hl hf hcp;go_enter func112,ntmps112;go_wp2_with fail;refine(Hu ad cap rs _ hlen HS.out HL.out WT.out Zq.out).mono ?_;rintro e w1 ⟨rfl,hb1⟩;have HB1:=az hb1;clear hb1;cases hsh:aZ (ae rs);case false=>
  have HP:Hid (Hw (ae rs) w (.returned (.tuple #[.map none,.bool false])) w1):=⟨.inr ⟨rfl,fun h=>by rw[h.1]at hsh;cases hsh⟩,HB1.out⟩;go_wp2;refine bodyPost_ret (v:=.tuple #[.map none,.bool false]) ?_ rfl HP.out;simp[results,Tryz.results112,go_sem]
 have HSH:Hid (aZ (ae rs)=true):=hsh;obtain⟨h6,XA,hex⟩:=aW hsh;have X0:Hid (∀r∈rs,r.rows.length<=6):=XA;have HEX:Hid (∀r∈rs,∀q∈r.rows,aI (ai q.rows)=true/\q.rows.length<=15/\∀e∈q.rows,fo q.rows.length e.e.kids):=hex;have HT:Hid (Tab rs (jY rs)):=ry hsh;clear hsh XA hex;go_wp2_with fail;refine(kS ad cap rs _ h6 (HS.out.below HB1.out) X0.out WT.out).mono ?_;rintro e w2 ⟨rfl,hV2,hb2⟩;have HB2:=iX HB1 hb2;obtain⟨bT,hbT⟩:=eQx w1.heap.size;rw[<-hbT]at hV2 ⊢;have HV2:Hid (aJ dw prog 146 w2 bT 36 (jY rs)):=hV2;clear hV2 hb2 hbT HB1;go_wp2_with fail;go_loopw[16] (fun i wr=>∃k:Nat,k<=rs.length/\i=.int .i64 k/\Hid (((ae rs).take k).all (qA (ae rs))=true)/\Hid (ag w wr)/\Hid (aJ dw prog 146 wr bT 36 (jY rs))) (fun i _=>rs.length-(intOf i).toNat);case atStart=>exact⟨0,Vy _,rfl,(by show _=_;simp),HB2,HV2⟩
 clear HB2 HV2;obtain⟨k,hk,rfl,HP,HB,HV⟩:=hrel;by_cases hlt:k<rs.length
 ·rcases HS.out.below HB.out with rfl|⟨b,off,rfl,hb,hr,-⟩
  ·simp at hlt
  obtain⟨t0,t1⟩:=hr k hlt;have hk1:=bI k;have hk2:(k:Int)<(rs.length:Int):=by omega
  have h66:=X0.out _ (Vs hlt);have z0:rs[k].name.size<=maxLen:=(WT.out _ (Vs hlt)).1;obtain⟨W1,hW1⟩:=eQx (wr.alloc (.cells #[.string rs[k].name,.slice rs[k].ad rs[k].rows.length rs[k].cap] 36));have hal:ag wr W1:=by rw[hW1];exact(Vv _ _).alloc (Vu _) _
  obtain⟨g6,Y3⟩:=eQx wr.heap.size;have Xu:Hid (W1.cell? ⟨g6,0,none⟩=some (.string rs[k].name)/\g6<W1.heap.size):=⟨by rw[hW1,Y3];simp,by rw[hW1,Y3];simp⟩;have HB1:=iX HB hal;have HV1:=az (HV.out.below hal);clear hr hal HB HV;go_wp2_with fail;rw[<-hW1,<-Y3];clear hW1 t0 t1 Y3;go_loopw[23] (fun i w3=>∃j:Nat,j<=rs[k].rows.length/\i=.int .i64 j/\Hid (((bQ rs[k].rows).take j).all (fun r=>aQ (ae rs) rs[k].name r.expr)=true)/\Hid (ag w w3)/\Hid (aJ dw prog 146 w3 bT 36 (jY rs))/\Hid (w3.cell? ⟨g6,0,none⟩=some (.string rs[k].name)/\g6<w3.heap.size)) (fun i _=>rs[k].rows.length-(intOf i).toNat);case atStart=>exact⟨0,Vy _,rfl,(by show _=_;simp),HB1,HV1,Xu⟩
  clear HB1 HV1 Xu;obtain⟨j,hj,rfl,HR,HB,HV,HC⟩:=hrel;by_cases hjl:j<rs[k].rows.length
  ·rcases HS.out.below HB.out with hnil|⟨b',off',he,hb2,hr,hok⟩
   ·rw[hnil]at hlt;simp at hlt
   injection he with he;injection he with he1 he2;subst he1;subst he2;have ok:=hok rs[k] (Vs hlt);rcases ok with hnil|⟨b2,WV,had,hbb,hr2,hok2⟩
   ·rw[hnil]at hjl;simp at hjl
   obtain⟨q0,q1⟩:=hr2 j hjl;have HSE:Hid (jo wr rs[k].rows[j].ad rs[k].rows[j].rows):=hok2 _ (Vs hjl);have YT:Hid (rs[k].rows[j].light):=(HL.out _ (Vs hlt)).2 _ (Vs hjl);have YB:Hid (rs[k].rows[j].fits):=(WT.out _ (Vs hlt)).2.2 _ (Vs hjl);have HNB:Hid (∀q∈rs[k].rows[j].rows,av q.e=true):=fun q hq=>jI (HEX.out _ (Vs hlt) _ (Vs hjl)).1 q.e (by unfold ai;exact VS hq);have hj1:=bI j;have hj2:(j:Int)<(rs[k].rows.length:Int):=by omega
   obtain⟨x0,x1⟩:=HC.out;obtain⟨W3,hW3⟩:=eQx (wr.alloc (.cells #[.string rs[k].rows[j].name,.slice rs[k].rows[j].ad rs[k].rows[j].rows.length rs[k].rows[j].cap] 39));have hal:ag wr W3:=by rw[hW3];exact(Vv _ _).alloc (Vu _) _
   have HB3:=iX HB hal;have HV3:=az (HV.out.below hal);have Xd:=az hal;have Zr:Hid (W3.cell? ⟨g6,0,none⟩=some (.string rs[k].name)/\g6<W3.heap.size):=⟨aC hal x1 x0,Vt x1 hal.size⟩;have HTS:Hid ((bQ rs[k].rows).take (j+1)=(bQ rs[k].rows).take j++[rs[k].rows[j].p]):=Ho rs[k].rows j hjl;rw[had];clear hr hok hr2 hok2 hal HB HV HC;go_wp2_with fail;rw[<-hW3];clear hW3 q0 q1 x0 x1;refine(Bf (some ⟨b,off,none⟩) rs[k].rows[j].ad cap rs[k].rows[j].cap rs bT 36 (jY rs) rs[k].name rs[k].rows[j].rows _ hlen (HS.out.below HB3.out) HL.out WT.out HV3.out HT.out z0 YT.out.1 (HSE.out.below Xd.out) YT.out.2 YB.out.2.2 HNB.out).mono ?_;rintro e w5 ⟨rfl,hb5⟩;have Xg:=iX HB3 hb5;have HV5:=az (HV3.out.below hb5);have HC5:Hid (w5.cell? ⟨g6,0,none⟩=some (.string rs[k].name)/\g6<w5.heap.size):=⟨aC hb5 Zr.out.2 Zr.out.1,Vt Zr.out.2 hb5.size⟩;clear hb5;cases hrf:aQ (ae rs) rs[k].name (ai rs[k].rows[j].rows);case false=>
    have HPO:Hid (Hw (ae rs) w (.returned (.tuple #[.map none,.bool false])) w5):=by
     refine⟨.inr ⟨rfl,fun hs=>?_⟩,Xg.out⟩;have h1:=hs.2.1;unfold gI at h1;rw[VF]at h1;have h2:=h1 rs[k].p (by unfold ae;exact VS (Vs hlt));unfold qA at h2;rw[VF]at h2;have h3:=h2 rs[k].rows[j].p (by show _∈bQ rs[k].rows;unfold bQ;exact VS (Vs hjl));have h4:aQ (ae rs) rs[k].name (ai rs[k].rows[j].rows)=true:=h3;rw[hrf]at h4;cases h4
    go_wp2;refine bodyPost_ret (v:=.tuple #[.map none,.bool false]) ?_ rfl HPO.out;simp[results,Tryz.results112,go_sem]
   have Yu:Hid (((bQ rs[k].rows).take (j+1)).all (fun r=>aQ (ae rs) rs[k].name r.expr)=true):=by
    show _=_;rw[HTS.out,WH,HR.out];have:aQ (ae rs) rs[k].name rs[k].rows[j].p.expr=true:=hrf;simp[this]
   go_wp2;go_roundw;case rel=>exact⟨j+1,by omega,by go_num,Yu,Xg,HV5,HC5⟩
   simp[intOf]<;>omega
  obtain rfl:j=rs[k].rows.length:=by omega
  have HPN:Hid (((ae rs).take (k+1)).all (qA (ae rs))=true):=by
   show _=_;rw[Hm rs k hlt,WH,HP.out];have h1:=HR.out;rw[<-dz,VI]at h1;have:qA (ae rs) rs[k].p=true:=h1;simp[this]
  go_wp2;go_roundw;case rel=>exact⟨k+1,by omega,by go_num,HPN,HB,HV⟩
  simp[intOf]<;>omega
 obtain rfl:k=rs.length:=by omega
 have ZF:Hid (gI (ae rs)=true):=by
  have h1:=HP.out;rw[<-df,VI]at h1;exact h1
 go_wp2_with fail;refine(Cy ad cap rs bT 36 (jY rs) _ h6 (HS.out.below HB.out) HL.out WT.out X0.out (fun r hr q hq=>(HEX.out r hr q hq).2) (Qp HSH.out) HV.out HT.out).mono ?_;rintro e w5 ⟨rfl,⟨nL,ML,hG5⟩,hb5⟩;have Xg:=iX HB hb5;have Yv:Hid (Grp w5 wr.heap.size nL ML (jG (ae rs) rs)):=hG5;clear hG5 hb5;go_wp2_with fail;refine(zh ad cap rs wr.heap.size nL ML (jG (ae rs) rs) _ h6 (HS.out.below Xg.out) WT.out X0.out Yv.out (Sd HSH.out ZF.out) (kJ ZF.out) (Nz rs X0.out HEX.out (Qp HSH.out))).mono ?_;rintro e w6 ⟨hL,hb6⟩;have ZR:=iX Xg hb6;clear hb6;rcases hL with⟨bS,nS,σ,rfl,hM,Zm,hk⟩|⟨rfl,hno⟩
 ·have HPO:Hid (Hw (ae rs) w (.returned (.tuple #[.map (some bS),.bool true])) w6):=⟨.inl ⟨bS,nS,σ,rfl,⟨HSH.out,ZF.out,_,Zm.sol⟩,hM,Zm,hk⟩,ZR.out⟩;clear hM Zm hk;go_wp2;refine bodyPost_ret (v:=.tuple #[.map (some bS),.bool true]) ?_ rfl HPO.out;simp[results,Tryz.results112,go_sem]
 have HPO:Hid (Hw (ae rs) w (.returned (.tuple #[.map none,.bool false])) w6):=⟨.inr ⟨rfl,fun h=>hno h.2.2⟩,ZR.out⟩;clear hno;go_wp2;refine bodyPost_ret (v:=.tuple #[.map none,.bool false]) ?_ rfl HPO.out;simp[results,Tryz.results112,go_sem]
theorem cZ(ad:Q02)(cap:Nat)(rs:Q06)(w:af)(hlen:rs.length<=1048576)(hs:jK w ad rs)(hl:∀r∈rs,r.light)(hf:∀r∈rs,r.fits)(hcp:∀r∈rs,r.caps):
  Calls prog 43 #[.slice ad rs.length cap] w fun e w'=>e=.returned (.bool (aD (ae rs)))/\ag w w':=by
 have HC:=wG ad cap rs w hlen hs hl hf hcp;clear hs hl hf hcp;go_enter func43,ntmps43;go_wp2_with fail;refine HC.mono ?_;rintro e w6 ⟨hL,hb6⟩;rcases hL with⟨bS,nS,σ,rfl,hS,-⟩|⟨rfl,hno⟩
 ·have HY:=yF hS;have HY2:Hid (aD (ae rs)=true):=HY;clear HY hS HC;go_wp2;go_ret;exact⟨ah HY2.out.symm,hb6⟩
 have HY2:Hid (aD (ae rs)=false):=dS hno;clear hno HC;go_wp2;go_ret;exact⟨ah HY2.out.symm,hb6⟩
set_option maxRecDepth 8000 in
theorem nQ{ops:Array Oper}{rest:List Oper}{o:Oper}{a:Act}{Q:Exit->Act->World->Prop}(w:af)(hgd:o.guard=none)(s x:Operand)(t:TypeId)
  (ho:o.op=.call { callee:=.builtin .append,args:=#[s,x],argTypes:=#[t,t] })
  (base:Nat) (e:TypeId) (i:TypeInfo) (z:Value) (size bytes:Nat) (ht:prog.underlying t=some (.slice e)) (hi:prog.info? e=some i) (hz:i.zero=some z)
  (hsize:i.size=size) (hby:i.bytes=bytes) (hzs:z.cells.size=size) (hsz:0<size)
  (v:Value) (n:Nat) (xs:Q03) (hs:a.eval s=v) (hown:w.ownsRow base e size v n xs)
  (ad:Q02) (m c:Nat) (news:Q03) (hx:a.eval x=.slice ad m c) (hl:news.length=m*size) (hn0:ad=none->m=0) (hnews:∀A,ad=some A->∀j u,news[j]?=some u->w.cell? (A.add j)=some u) (h1:∀u∈news,u.oneCell'=true)
  (h63:n+m<=maxLen) (hbytes:(n+m)*bytes<=140737488355328) (hbase:base<=w.heap.size)
  (h:∀v' w',w'.ownsRow base e size v' (n+m) (xs++news)->w.grownBy w' v.ownBlock->(v'=.slice none 0 0↔v=.slice none 0 0/\m=0)->wpList prog ops Q rest (a.put o.dst v') w'):wpList prog ops Q (o::rest) a w:=by
 cases ad;case some A=>exact wpList_append_own w hgd s x t ho base e i z size bytes ht hi hz hsize hby hzs hsz v n xs hs hown A m c news hx hl (hnews A rfl) h1 h63 hbytes hbase h
 obtain rfl:=hn0 rfl;have hn:news=[]:=List.eq_nil_of_length_eq_zero (by simpa using hl);subst hn;refine wpList_plain hgd fun K hK=>?_;have hg:w.grownBy w v.ownBlock:=⟨rfl,rfl,rfl,Vu _,fun _ _ _=>rfl⟩;have hr:(Builtin.append_ #[t,t] o.type #[v,.slice none 0 c]).run prog w=.ok v w:=by
  rcases hown.2 with⟨rfl,-⟩|⟨g,cap,cur,rfl,-,-,hnc,-⟩
  ·simp[Builtin.append_,run_underlying ht,sizeOf,typeInfo,hi,Builtin.lenOf,Builtin.firstCells]
  have hnc':n<=cap:=hnc;simp[Builtin.append_,run_underlying ht,sizeOf,typeInfo,hi,Builtin.lenOf,Builtin.firstCells,hnc',storeCells]
 unfold Oper.wp execOp;simp only[ho,resolve,invoke,builtin,Sem.run_bind,Sem.run_pure,Result.andThen_ok,List.map_toArray,WC,List.map_nil,hs,hx,hr];exact hK _ _ (h _ w (by simpa using hown) hg (by simp))
set_option maxRecDepth 8000 in
theorem Fy(ad:Q02)(cap:Nat)(rs:Q08)(w:af)(hlen:rs.length<=15)(hs:jo w ad rs)(hl:∀r∈rs,r.e.light):
  Calls prog 104 #[.slice ad rs.length cap] w fun e w'=>∃(v:Value) (rs':Q08),e=.returned v/\NodM w' w.heap.size v rs'/\ai rs'=ai rs/\ag w w':=by
 obtain⟨iE,hiE,zE0,zE1,zE2⟩:=info_parts (P:=prog) (e:=43) (z:=.agg #[.int .i64 0,.slice none 0 0,.string ⟨#[]⟩,.string ⟨#[]⟩,.slice none 0 0]) (size:=5) (bytes:=88) (by kernel_rfl);obtain⟨iA,hiA,zA0,zA1,zA2⟩:=info_parts (P:=prog) (e:=216) (z:=.agg #[.string ⟨#[]⟩,.string ⟨#[]⟩]) (size:=2) (bytes:=32) (by kernel_rfl);obtain⟨iI,hiI,zI0,zI1,zI2⟩:=info_parts (P:=prog) (e:=2) (z:=.int .i64 0) (size:=1) (bytes:=8) (by kernel_rfl);have Y4:=az hs;have ZM:=az hl;have ZH:Hid (prog.info? 216=some iA/\iA.zero=some (.agg #[.string ⟨#[]⟩,.string ⟨#[]⟩])/\iA.size=2/\iA.bytes=32):=⟨hiA,zA0,zA1,zA2⟩;have YP:Hid (prog.info? 2=some iI/\iI.zero=some (.int .i64 0)/\iI.size=1/\iI.bytes=8):=⟨hiI,zI0,zI1,zI2⟩;have HIE:Hid (prog.info? 43=some iE/\iE.zero=some (.agg #[.int .i64 0,.slice none 0 0,.string ⟨#[]⟩,.string ⟨#[]⟩,.slice none 0 0])/\iE.size=5/\iE.bytes=88):=⟨hiE,zE0,zE1,zE2⟩;clear hs hl hiA zA0 zA1 zA2 hiI zI0 zI1 zI2 hiE zE0 zE1 zE2;go_enter func104,ntmps104;go_wp2;go_loopw[3,4] (fun v i wr=>∃(k:Nat) (qs:Q08),k<=rs.length/\i=.int .i64 k/\Hid (qs.length=k/\ai qs=(ai rs).take k/\NodM wr w.heap.size v qs)/\Hid (wr.ownsRow w.heap.size 43 5 v k (eD qs))/\Hid (ag w wr)) (fun _ i _=>rs.length-(intOf i).toNat);case atStart=>exact⟨0,[],Vy _,rfl,⟨rfl,by simp[ai],⟨World.ownsRow_lit w #[] 0 (Vu _) (by unfold maxLen;omega) (by simp),fun q hq=>(by cases hq),fun q hq=>(by cases hq),fun q hq=>(by cases hq),fun q hq=>(by cases hq),fun q hq=>(by cases hq),fun x y hx=>absurd hx (by simp),fun q hq=>(by cases hq)⟩⟩,World.ownsRow_lit w #[] 0 (Vu _) (by unfold maxLen;omega) (by simp),(Vv _ _).alloc (Vu _) _⟩
 obtain⟨k,qs,hk,rfl,HQ,HOW,HB⟩:=hrel;by_cases hlt:k<rs.length
 ·rcases Y4.out.below HB.out with hnil|⟨b,off,WR,hb,hr,hok⟩
  ·rw[hnil]at hlt;simp at hlt
  obtain⟨t0,t1,t2,t3,t4⟩:=hr k hlt;have Xc:Hid (rs[k].ok wr):=hok rs[k] (Vs hlt);have hlg:=ZM.out rs[k] (Vs hlt);have lA:rs[k].e.allow.length<=1048576:=hlg.1;have lK:rs[k].e.kids.length<=1048576:=hlg.2;have hk1:=bI k;have hk2:(k:Int)<(rs.length:Int):=by omega
  obtain⟨W1,hW1⟩:=eQx (wr.alloc (.cells #[.int .i64 rs[k].e.kind,.slice rs[k].adA rs[k].e.allow.length rs[k].capA,.string rs[k].e.over,.string rs[k].e.name,.slice rs[k].adK rs[k].e.kids.length rs[k].capK] 43));have HB1:=qC hW1;have hgl:wr.heap.size<W1.heap.size:=by rw[hW1];simp
  have HSZ1:Hid (W1.heap.size=wr.heap.size+1):=by show _=_;rw[hW1];simp
  have HLIT1:Hid ((W1.alloc (.cells #[] 216)).ownsRow W1.heap.size 216 2 (.slice (some ⟨wr.heap.size+1,0,none⟩) 0 0) 0 []):=by
   show World.ownsRow _ _ _ _ _ _ _;rw[<-HSZ1.out];exact World.ownsRow_lit W1 #[] 0 (Vu _) (by unfold maxLen;omega) (by simp)
  have HSA1:Hid (kD W1 rs[k].adA rs[k].e.allow):=Xc.out.1.below HB1.out;have p0:W1.cell? ⟨wr.heap.size,0,none⟩=some (.int .i64 rs[k].e.kind):=by rw[hW1];simp
  have p1:W1.cell? ⟨wr.heap.size,1,none⟩=some (.slice rs[k].adA rs[k].e.allow.length rs[k].capA):=by rw[hW1];simp
  have p2:W1.cell? ⟨wr.heap.size,2,none⟩=some (.string rs[k].e.over):=by rw[hW1];simp
  have p3:W1.cell? ⟨wr.heap.size,3,none⟩=some (.string rs[k].e.name):=by rw[hW1];simp
  have p4:W1.cell? ⟨wr.heap.size,4,none⟩=some (.slice rs[k].adK rs[k].e.kids.length rs[k].capK):=by rw[hW1];simp
  have fp:∀y,W1.frozen? ⟨wr.heap.size,y,none⟩=false:=fun y=>by rw[hW1];simp
  have YE:Hid (W1.cell? ⟨wr.heap.size,0,none⟩=some (.int .i64 rs[k].e.kind)/\W1.cell? ⟨wr.heap.size,1,none⟩=some (.slice rs[k].adA rs[k].e.allow.length rs[k].capA)/\W1.cell? ⟨wr.heap.size,2,none⟩=some (.string rs[k].e.over)/\W1.cell? ⟨wr.heap.size,3,none⟩=some (.string rs[k].e.name)/\W1.cell? ⟨wr.heap.size,4,none⟩=some (.slice rs[k].adK rs[k].e.kids.length rs[k].capK)/\∀y,W1.frozen? ⟨wr.heap.size,y,none⟩=false):=⟨p0,p1,p2,p3,p4,fp⟩;clear p0 p1 p2 p3 p4 fp;rw[WR];clear hr hok hlg;go_wp2_with(at_builtin;rw[<-hW1];clear hW1;refine nQ _ rfl _ _ 40 rfl W1.heap.size 216 iA (.agg #[.string ⟨#[]⟩,.string ⟨#[]⟩]) 2 32 underlying40 ZH.out.1 ZH.out.2.1 ZH.out.2.2.1 ZH.out.2.2.2 rfl (by decide) _ 0 [] rfl HLIT1.out rs[k].adA rs[k].e.allow.length rs[k].capA (pairs rs[k].e.allow) rfl (lW _) HSA1.out.none0 (PT (HSA1.out.below ((Vv _ _).alloc (Vu _) _))) (GQ _) (by unfold maxLen;omega) (by omega) (by simp) ?_);intro v2 w2 hown2 WZ _;have HB2:Hid (ag W1 w2):=((Vv W1.heap.size W1).alloc (Vu _) (.cells #[] 216)).grown WZ (by simp) (fun k hk=>by simp[Value.ownBlock]at hk;have:=HSZ1.out;omega);obtain⟨adA,cpA,rfl,hsA,hzA,hoA⟩:=PS (by simpa using hown2) (by simp);have ZX:Hid (rs[k].e.allow.length<=cpA):=GX hown2;have HSA2:=az hsA;have HZA:Hid (rs[k].e.allow≠[]->∃g,adA=some ⟨g,0,none⟩):=hzA;have HOA:Hid (∀g,rs[k].e.allow≠[]->adA=some ⟨g,0,none⟩->W1.heap.size<=g/\g<w2.heap.size/\j6 w2 g):=hoA;have x0:w2.cell? ⟨wr.heap.size,0,none⟩=some (.int .i64 rs[k].e.kind):=kept HB2.out hgl YE.out.1;have x1:w2.cell? ⟨wr.heap.size,1,none⟩=some (.slice rs[k].adA rs[k].e.allow.length rs[k].capA):=kept HB2.out hgl YE.out.2.1;have x2:w2.cell? ⟨wr.heap.size,2,none⟩=some (.string rs[k].e.over):=kept HB2.out hgl YE.out.2.2.1;have x3:w2.cell? ⟨wr.heap.size,3,none⟩=some (.string rs[k].e.name):=kept HB2.out hgl YE.out.2.2.2.1;have x4:w2.cell? ⟨wr.heap.size,4,none⟩=some (.slice rs[k].adK rs[k].e.kids.length rs[k].capK):=kept HB2.out hgl YE.out.2.2.2.2.1;have fx:∀y,w2.frozen? ⟨wr.heap.size,y,none⟩=false:=fun y=>qM HB2.out hgl (YE.out.2.2.2.2.2 y);clear hown2 WZ hsA hzA hoA;obtain⟨W3,hW3⟩:=eQx (w2.setCell ⟨wr.heap.size,1,none⟩ (.slice adA rs[k].e.allow.length cpA));have HB3:Hid (ag wr W3):=by
   show Below _ _ _;rw[hW3];exact(HB1.out.trans (HB2.out.mono (Nat.le_of_lt hgl))).setCell (Vu _) _
  have Zr:Hid (Chg (fun g=>g=wr.heap.size) w2 W3):=by rw[hW3];exact Chg.set _ rfl
  have HSK3:Hid (rU W3 rs[k].adK rs[k].e.kids):=Xc.out.2.below HB3.out;have hgl3:wr.heap.size<W3.heap.size:=by rw[hW3];simp only[World.size_setCell];exact Vt hgl HB2.out.size
  have hx2:wr.heap.size<w2.heap.size:=Vt hgl HB2.out.size;have hx3:(wr.heap.size=w2.heap.size)=False:=by simp;omega
  have HSZ3:Hid (W3.heap.size=w2.heap.size):=by show _=_;rw[hW3];simp
  have HLIT3:Hid ((W3.alloc (.cells #[] 2)).ownsRow W3.heap.size 2 1 (.slice (some ⟨w2.heap.size,0,none⟩) 0 0) 0 []):=by
   show World.ownsRow _ _ _ _ _ _ _;rw[<-HSZ3.out];exact World.ownsRow_lit W3 #[] 0 (Vu _) (by unfold maxLen;omega) (by simp)
  have YC:Hid (W3.cell? ⟨wr.heap.size,0,none⟩=some (.int .i64 rs[k].e.kind)/\W3.cell? ⟨wr.heap.size,1,none⟩=some (.slice adA rs[k].e.allow.length cpA)/\W3.cell? ⟨wr.heap.size,2,none⟩=some (.string rs[k].e.over)/\W3.cell? ⟨wr.heap.size,3,none⟩=some (.string rs[k].e.name)/\W3.cell? ⟨wr.heap.size,4,none⟩=some (.slice rs[k].adK rs[k].e.kids.length rs[k].capK)/\∀y,W3.frozen? ⟨wr.heap.size,y,none⟩=false):=by
   rw[hW3];exact⟨by rw[gV (by omega)];exact x0,mD x1,by rw[gV (by omega)];exact x2,by rw[gV (by omega)];exact x3,by rw[gV (by omega)];exact x4,fun y=>by simpa using fx y⟩
  go_wp2_with(at_builtin;rw[<-hW3];clear hW3;refine nQ _ rfl _ _ 41 rfl W3.heap.size 2 iI (.int .i64 0) 1 8 underlying41 YP.out.1 YP.out.2.1 YP.out.2.2.1 YP.out.2.2.2 rfl (by decide) _ 0 [] rfl HLIT3.out rs[k].adK rs[k].e.kids.length rs[k].capK (ints rs[k].e.kids) rfl (by simp[ints]) HSK3.out.none0 (Ug (HSK3.out.below ((Vv _ _).alloc (Vu _) _))) (RY _) (by unfold maxLen;omega) (by omega) (by simp) ?_);intro v4 w4 Xj Xx _;have XJ:Hid (ag W3 w4):=((Vv W3.heap.size W3).alloc (Vu _) (.cells #[] 2)).grown Xx (by simp) (fun k hk=>by simp[Value.ownBlock]at hk;have:=HSZ3.out;omega);obtain⟨adK,cpK,rfl,hsK,hzK,hoK⟩:=LQ (by simpa using Xj) (by simp);have HSK4:=az hsK;have HZK:Hid (rs[k].e.kids≠[]->∃g,adK=some ⟨g,0,none⟩):=hzK;have HOKK:Hid (∀g,rs[k].e.kids≠[]->adK=some ⟨g,0,none⟩->W3.heap.size<=g/\g<w4.heap.size/\j6 w4 g):=hoK;have y0:w4.cell? ⟨wr.heap.size,0,none⟩=some (.int .i64 rs[k].e.kind):=kept XJ.out hgl3 YC.out.1;have y1:w4.cell? ⟨wr.heap.size,1,none⟩=some (.slice adA rs[k].e.allow.length cpA):=kept XJ.out hgl3 YC.out.2.1;have y2:w4.cell? ⟨wr.heap.size,2,none⟩=some (.string rs[k].e.over):=kept XJ.out hgl3 YC.out.2.2.1;have y3:w4.cell? ⟨wr.heap.size,3,none⟩=some (.string rs[k].e.name):=kept XJ.out hgl3 YC.out.2.2.2.1;have y4:w4.cell? ⟨wr.heap.size,4,none⟩=some (.slice rs[k].adK rs[k].e.kids.length rs[k].capK):=kept XJ.out hgl3 YC.out.2.2.2.2.1;have fy:∀y,w4.frozen? ⟨wr.heap.size,y,none⟩=false:=fun y=>qM XJ.out hgl3 (YC.out.2.2.2.2.2 y);clear Xj Xx hsK hzK hoK x0 x1 x2 x3 x4 fx t0 t1 t2 t3 t4;obtain⟨W5,YG⟩:=eQx (w4.setCell ⟨wr.heap.size,4,none⟩ (.slice adK rs[k].e.kids.length cpK));have Xg:Hid (ag wr W5):=by
   show Below _ _ _;rw[YG];exact(HB3.out.trans (XJ.out.mono HB3.out.size)).setCell (Vu _) _
  have HC5:Hid (Chg (fun g=>g=wr.heap.size) w4 W5):=by rw[YG];exact Chg.set _ rfl
  obtain⟨q,hq⟩:∃q:ER,q=⟨rs[k].e,adA,cpA,adK,cpK⟩:=⟨_,rfl⟩;have HCA5:Hid (Chg (fun g=>g=wr.heap.size) w2 W5):=Zr.out.trans ((Chg.of XJ.out).trans HC5.out);have HBQ:Hid (NewQ wr.heap.size W5 q):=by
   rw[hq];have hz2:W1.heap.size=wr.heap.size+1:=HSZ1.out;refine⟨HZA.out,HZK.out,⟨HSA2.out.chg HCA5.out fun g o hne e=>?_,HSK4.out.chg HC5.out fun g o hne e=>?_⟩,?_,?_,ZX.out⟩
   ·obtain⟨g0,e0⟩:=HZA.out hne;rw[e0]at e;injection e with e;injection e with e1 e2;have:=(HOA.out g0 hne e0).1;omega
   ·obtain⟨g0,e0⟩:=HZK.out hne;rw[e0]at e;injection e with e;injection e with e1 e2;have:=(HOKK.out g0 hne e0).1;omega
   ·rintro g (⟨hne,e⟩|⟨hne,e⟩)
    ·obtain⟨a1,a2,a3⟩:=HOA.out g hne e;exact⟨by omega,Vt a2 HCA5.out.size,HCA5.out.free g a2 a3⟩
    obtain⟨a1,a2,a3⟩:=HOKK.out g hne e;exact⟨by omega,Vt a2 HC5.out.size,HC5.out.free g a2 a3⟩
   rintro g ⟨hne,e⟩ ⟨hne2,e2⟩;obtain⟨a1,a2,a3⟩:=HOA.out g hne e;obtain⟨b1,b2,b3⟩:=HOKK.out g hne2 e2;have:=HSZ3.out;omega
  have HOW5:Hid (W5.ownsRow w.heap.size 43 5 u3 k (eD qs)):=HOW.out.kept (row:=none) ⟨Xg.out.os,Xg.out.tape,Xg.out.output,Xg.out.size,fun k hk _=>Xg.out.block k hk⟩ (by
   cases h:u3.ownBlock with
   | none=>exact .inl rfl
   | some g=>exact .inr (by simp))
  obtain⟨W6,YH⟩:=eQx (W5.alloc (.cells #[.int .i64 q.e.kind,.slice q.adA q.e.allow.length q.capA,.string q.e.over,.string q.e.name,.slice q.adK q.e.kids.length q.capK] 43));have HW6:Hid (W6=(w4.setCell ⟨wr.heap.size,4,none⟩ (.slice adK rs[k].e.kids.length cpK)).alloc (.cells #[.int .i64 rs[k].e.kind,.slice adA rs[k].e.allow.length cpA,.string rs[k].e.over,.string rs[k].e.name,.slice adK rs[k].e.kids.length cpK] 43)):=by show _=_;rw[YH,hq,YG]
  have HOW6:Hid (W6.ownsRow w.heap.size 43 5 u3 k (eD qs)):=by rw[YH];exact HOW5.out.alloc _
  have ZR:Hid (ag wr W6):=by rw[YH];exact Xg.out.alloc Xg.out.size _
  have XM:Hid (∀j u,q.row[j]?=some u->W6.cell? ((⟨W5.heap.size,0,none⟩:Addr).add j)=some u):=by rw[YH];exact xN W5 q
  have HBQ6:Hid (NewQ wr.heap.size W6 q):=by
   rw[YH];have hA:ag W5 (W5.alloc (.cells #[.int .i64 q.e.kind,.slice q.adA q.e.allow.length q.capA,.string q.e.over,.string q.e.name,.slice q.adK q.e.kids.length q.capK] 43)):=(Vv _ _).alloc (Vu _) _;exact GV.heap W5 _ _ q HBQ.out hA.size fun g hg=>hA.block g (HBQ.out.lie g hg).2.1
  have HS5:Hid (W5.heap.size=(w4.setCell ⟨wr.heap.size,4,none⟩ (.slice adK rs[k].e.kids.length cpK)).heap.size):=by show _=_;rw[YG]
  have HQE:Hid (q.e=rs[k].e):=by show _=_;rw[hq]
  have hsw:w4.heap.size=W5.heap.size:=by rw[YG];simp
  clear YG YH hq;go_wp2_with(at_builtin;rw[<-HW6.out];refine wpList_append_own_at _ rfl _ _ 37 rfl w.heap.size 43 iE (.agg #[.int .i64 0,.slice none 0 0,.string ⟨#[]⟩,.string ⟨#[]⟩,.slice none 0 0]) 5 88 underlying37 HIE.out.1 HIE.out.2.1 HIE.out.2.2.1 HIE.out.2.2.2 rfl (by decide) u3 k (eD qs) rfl HOW6.out ⟨W5.heap.size,0,none⟩ 1 1 q.row rfl rfl XM.out (vM q) (by unfold maxLen;omega) (by omega) (Vz HB.out.size ZR.out.size) ?_);intro v7 w7 XK Zu _ hv7;have HB7:Hid (ag w w7):=(HB.out.trans (ZR.out.mono HB.out.size)).grown Zu (Vz HB.out.size ZR.out.size) (fun g hg=>(HOW.out.lt g hg).1);have HOW7:Hid (w7.ownsRow w.heap.size 43 5 v7 (k+1) (eD (qs++[q]))):=by
   have e:eD (qs++[q])=eD qs++q.row:=by simp[eD]
   rw[e];exact XK
  have HQ7:Hid ((qs++[q]).length=k+1/\ai (qs++[q])=(ai rs).take (k+1)/\NodM w7 w.heap.size v7 (qs++[q])):=by
   obtain⟨h1,h2,h3⟩:=HQ.out;refine⟨by simp[h1],?_,?_⟩
   ·rw[Vx (by rw[ay];exact hlt),<-h2];simp[ai,HQE.out]
   exact h3.add ZR.out HBQ6.out HB.out.size (by rw[h1];exact XK) Zu (hv7.imp id fun e=>⟨_,e,Vu _⟩)
  clear XK Zu hv7;go_wp2;go_roundw;case rel=>exact⟨k+1,qs++[q],by omega,by go_num,HQ7,HOW7,HB7⟩
  simp[intOf];omega
 obtain rfl:k=rs.length:=by omega
 obtain⟨h1,h2,h3⟩:=HQ.out;have HE3:Hid (ai qs=ai rs):=by rw[<-ay rs,VI]at h2;exact h2
 have HN3:=aM h3;clear h1 h2 h3;go_wp2;go_ret;exact⟨_,qs,rfl,HN3.out,HE3.out,HB.out⟩
set_option linter.unusedVariables false
structure KpO(b l:Nat)(W W':World):Prop where
 size:W.heap.size<=W'.heap.size
 cells:∀(g:Nat) (cs:Array Value) (T:TypeId) (m:Nat×Nat),W.heap[g]?=some (.cells cs T m)->T≠52->T≠44->W'.heap[g]?=some (.cells cs T m)
 other:∀(g:Nat) (o:Obj),W.heap[g]?=some o->o.isCells=false->g≠l->g≠b->W'.heap[g]?=some o
structure KpI(W W':World):Prop where
 size:W.heap.size<=W'.heap.size
 cells:∀(g:Nat) (cs:Array Value) (T:TypeId) (m:Nat×Nat),W.heap[g]?=some (.cells cs T m)->T=27\/T=39->W'.heap[g]?=some (.cells cs T m)
theorem KpO.trans{b l:Nat}{X Y Z:af}(h:KpO b l X Y)(k:KpO b l Y Z):KpO b l X Z :=
 ⟨Vz h.size k.size,fun g cs T m hg h1 h2=>k.cells g cs T m (h.cells g cs T m hg h1 h2) h1 h2,fun g o hg hc h1 h2=>k.other g o (h.other g o hg hc h1 h2) hc h1 h2⟩
theorem KpI.trans{X Y Z:af}(h:KpI X Y)(k:KpI Y Z):KpI X Z :=
 ⟨Vz h.size k.size,fun g cs T m hg h1=>k.cells g cs T m (h.cells g cs T m hg h1) h1⟩
theorem oU{W:af}{l g:Nat}{o':Obj}(h:g≠l):(W.putObj l o').heap[g]?=W.heap[g]?:=World.putObj_heap_other h
theorem KpO.put{b l:Nat}{W:af}{o o':Obj}(h:W.heap[l]?=some o)(hc:o.isCells=false):KpO b l W (W.putObj l o') where
 size:=by simp
 cells g cs T m hg _ _:=by
  have:g≠l:=fun e=>by subst e;rw[h]at hg;injection hg with hg;subst hg;cases hc
  rw[oU this];exact hg
 other g x hg _ h1 _:=by rw[oU h1];exact hg
theorem KpI.put{l:Nat}{W:af}{o o':Obj}(h:W.heap[l]?=some o)(hc:o.isCells=false):KpI W (W.putObj l o') where
 size:=by simp
 cells g cs T m hg _:=by
  have:g≠l:=fun e=>by subst e;rw[h]at hg;injection hg with hg;subst hg;cases hc
  rw[oU this];exact hg
theorem KpO.below{b l:Nat}{W W':af}(h:ag W W'):KpO b l W W' :=
 ⟨h.size,fun g cs T m hg _ _=>(h.block g (VC.1 hg).1).trans hg,fun g o hg _ _ _=>(h.block g (VC.1 hg).1).trans hg⟩
theorem KpI.below{W W':af}(h:ag W W'):KpI W W' :=
 ⟨h.size,fun g cs T m hg _=>(h.block g (VC.1 hg).1).trans hg⟩
theorem KpO.toI{b l:Nat}{W W':af}(h:KpO b l W W'):KpI W W' :=
 ⟨h.size,fun g cs T m hg hT=>h.cells g cs T m hg (by rcases hT with e|e<;>(rw[e];decide)) (by rcases hT with e|e<;>(rw[e];decide))⟩
theorem Bp{W W':af}(h:ag W W'):W.grownBy W' none:=⟨h.os,h.tape,h.output,h.size,fun k hk _=>h.block k hk⟩
theorem nR{β:Type}{B:Nat}{I:β->World->Prop}(h:OwnFrom B I){s:β}{W W':af}(hs:I s W)(hb:ag W W'):I s W':=h s W W' none hs (Bp hb) (fun r e=>by cases e)
structure NodOk(rows:Q08):Prop where
 len:rows.length<=1000
 kids:∀q∈rows,q.e.kids.length<=1000
 low:pR (ai rows)
 two:∀e∈ai rows,e.kind=6->2<=e.kids.length
theorem NodOk.kid{rows:Q08}(h:NodOk rows){n:Nat}(hn:n<rows.length){i:Int}(hi:i∈rows[n].e.kids):0<=i/\i<(n:Int):=by
 have:=h.low n (by rw[ay];exact hn) i;have e:(ai rows)[n]'(by rw[ay];exact hn)=rows[n].e:=by simp[ai]
 rw[e]at this;exact this hi
end Go.Proofs.YtojjoblnpldniaaGreat
