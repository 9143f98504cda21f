/- Contract of the program's function on the least strata. -/
import Derived.Test.YtajkkeikihhejaaGreatSq
import Derived.Laws.EntriesVeiled
import Derived.Test.YtajkkeikihhejaaGreatJ22
import Derived.Test.YtajkkeikihhejaaGreatJ29
open Go.Proofs.Tryz
set_option maxHeartbeats 80000000
namespace Go.Proofs.YtajkkeikihhejaaGreat
open Go.ChangeShapes Go.WideShapes Go.ChangeAt Go.RowKit Go.Maps
open Pl
def PS (ts:List Ty)(w:World)(e:Ending)(w':World):Prop :=
 ((∃ (b n:Nat) (σ:Ky->Option Int),e=.returned (.tuple #[.map (some b),.bool true])/\aO dS prog 94 w' b n (iY σ)/\Least ts (fun k=>(σ k).getD 0)/\∀ k,(∃ x,σ k=some x) ↔ k∈ak ts)\/(e=.returned (.tuple #[.map none,.bool false])/\¬ ∃ f,Sol ts f))/\ag w w'
theorem PT (N:Nat)(ks:List Ky):oz N (fun _=>none) ks=N*ks.length:=by
 induction ks with
 | nil=>simp [oz]
 | cons k ks ih=>simp only [oz,ih,xe,List.length_cons];push_cast;rw [Int.mul_add];omega
theorem MK {rs:List TR}(hf:∀ r∈rs,r.fits):∀ k∈ak (ae rs),k.1.size<=maxLen/\k.2.size<=maxLen:=by
 intro k hk;obtain ⟨t,ht,r,hr,rfl⟩:=qJ.1 hk;obtain ⟨t',ht',rfl⟩:=Ur.1 ht;obtain ⟨q,hq,rfl⟩:=Ur.1 hr;exact ⟨(hf t' ht').1,((hf t' ht').2.2 q hq).1⟩
set_option maxRecDepth 100000 in
theorem yC (ad:Option Addr)(cap:Nat)(rs:List TR)(bL nL:Nat)(ML:Ky->Option Value)(E:List (Ky×St))(w:af)(hlen:rs.length<=6)(hs:kX w ad rs)(hf:∀ r∈rs,r.fits)(hrl:∀ r∈rs,r.rows.length<=6)(hG:Grp w bL nL ML E)(hE:Edge (ae rs) E)(hF:Found (ae rs))(hEl:E.length<=100000) :
  Calls prog 133 #[.slice ad rs.length cap,.map (some bL)] w (PS (ae rs) w):=by
 have HS:=aA hs;have UY:=aA hf;have YS:Hid (∀ r∈rs,r.rows.length<=6):=hrl;have HG:Hid (Grp w bL nL ML E):=hG;have HE:=aA hE;have HF:=aA hF;have YG:Hid (bL<w.heap.size):=hG.map.lt;clear hs hf hrl hG hE hF;have hmm:=@run_makeMap prog;go_enter func133,ntmps133;have HB0:Hid (ag w ((w.alloc (.cells #[.map (some bL)] 211)).alloc (.cells #[.int .i64 0] 2))):=((Uf _ _).alloc (Ue _) _).alloc (by simp) _;have VR:Hid (((w.alloc (.cells #[.map (some bL)] 211)).alloc (.cells #[.int .i64 0] 2)).cell? ⟨w.heap.size,0,none⟩=some (.map (some bL))/\((w.alloc (.cells #[.map (some bL)] 211)).alloc (.cells #[.int .i64 0] 2)).cell? ⟨w.heap.size+1,0,none⟩=some (.int .i64 0)/\((w.alloc (.cells #[.map (some bL)] 211)).alloc (.cells #[.int .i64 0] 2)).frozen? ⟨w.heap.size+1,0,none⟩=false/\w.heap.size+1<((w.alloc (.cells #[.map (some bL)] 211)).alloc (.cells #[.int .i64 0] 2)).heap.size):=⟨by simp,by simp,by simp,by simp⟩;go_wp2_with fail;go_loopw [17] (fun i wr=>∃ k:Nat,k<=rs.length/\i=.int .i64 k/\Hid (ag w wr)/\Hid (wr.cell? ⟨w.heap.size,0,none⟩=some (.map (some bL))/\wr.cell? ⟨w.heap.size+1,0,none⟩=some (.int .i64 ((dD rs k).length:Int))/\wr.frozen? ⟨w.heap.size+1,0,none⟩=false/\w.heap.size+1<wr.heap.size)) (fun i _=>rs.length-(intOf i).toNat);case atStart=>exact ⟨0,Ui _,rfl,HB0,VR⟩
 clear HB0 VR;obtain ⟨k,hk,rfl,HB,HC⟩:=hrel;obtain ⟨c0,c1,c2,c3⟩:=HC.out;have hu:=wJ rs YS.out k;by_cases hlt:k<rs.length
 ·rcases HS.out.below HB.out with rfl|⟨b,off,rfl,hb,hr,-⟩
  ·simp at hlt
  obtain ⟨t0,t1⟩:=hr k hlt;have hk1:=bF k;have hk2:(k:Int)<(rs.length:Int):=by omega
  have h6:=YS.out _ (Ud hlt);have Vo:Hid ((dD rs (k+1)).length=(dD rs k).length+rs[k].rows.length):=by show _=_;rw [pq _ _ hlt,Ul];simp [iX]
  obtain ⟨cn,hcn⟩:∃ cn,cn=(dD rs k).length:=⟨_,rfl⟩;rw [<-hcn]at c1 hu Vo;have HB1:Hid (ag w ((wr.setCell ⟨w.heap.size+1,0,none⟩ (.int .i64 ((cn:Int)+(rs[k].rows.length:Int)))).alloc (.cells #[.string rs[k].name,.slice rs[k].ad rs[k].rows.length rs[k].cap] 127))):=(HB.out.setCell (p:=⟨w.heap.size+1,0,none⟩) (by simp) _).alloc (by simpa using HB.out.size) _;have VS:Hid (((wr.setCell ⟨w.heap.size+1,0,none⟩ (.int .i64 ((cn:Int)+(rs[k].rows.length:Int)))).alloc (.cells #[.string rs[k].name,.slice rs[k].ad rs[k].rows.length rs[k].cap] 127)).cell? ⟨w.heap.size,0,none⟩=some (.map (some bL))/\((wr.setCell ⟨w.heap.size+1,0,none⟩ (.int .i64 ((cn:Int)+(rs[k].rows.length:Int)))).alloc (.cells #[.string rs[k].name,.slice rs[k].ad rs[k].rows.length rs[k].cap] 127)).cell? ⟨w.heap.size+1,0,none⟩=some (.int .i64 ((dD rs (k+1)).length:Int))/\((wr.setCell ⟨w.heap.size+1,0,none⟩ (.int .i64 ((cn:Int)+(rs[k].rows.length:Int)))).alloc (.cells #[.string rs[k].name,.slice rs[k].ad rs[k].rows.length rs[k].cap] 127)).frozen? ⟨w.heap.size+1,0,none⟩=false/\w.heap.size+1<((wr.setCell ⟨w.heap.size+1,0,none⟩ (.int .i64 ((cn:Int)+(rs[k].rows.length:Int)))).alloc (.cells #[.string rs[k].name,.slice rs[k].ad rs[k].rows.length rs[k].cap] 127)).heap.size):=by
   obtain ⟨X,hX⟩:∃ X,X=wr.setCell ⟨w.heap.size+1,0,none⟩ (.int .i64 ((cn:Int)+(rs[k].rows.length:Int))):=⟨_,rfl⟩;have hXs:X.heap.size=wr.heap.size:=by rw [hX];simp
   have hB:ag X (X.alloc (.cells #[.string rs[k].name,.slice rs[k].ad rs[k].rows.length rs[k].cap] 127)):=(Uf _ _).alloc (Ue _) _;rw [<-hX];refine ⟨aH hB (by omega) (by rw [hX,xB (by omega)];exact c0),aH hB (by omega) (by rw [hX,Vo.out];push_cast;exact xA c1),?_,by simp;omega⟩;rw [hB.frozen (p:=⟨w.heap.size+1,0,none⟩) (by simp;omega),hX];simpa using c2
  clear hr hcn HC;go_wp2;go_roundw;case rel=>exact ⟨k+1,by omega,by go_num,HB1,VS⟩
  simp [intOf] <;> omega
 obtain rfl:k=rs.length:=by omega
 have hEN:dD rs rs.length=ak (ae rs):=by unfold dD;rw [Us]
 rw [hEN]at c1 hu;obtain ⟨N,hN⟩:∃ N,N=(ak (ae rs)).length:=⟨_,rfl⟩;rw [<-hN]at c1 hu;have WQ:Hid (N=(ak (ae rs)).length):=hN;have HEN:Hid (dD rs rs.length=ak (ae rs)):=hEN;have hN36:N<=36:=by omega
 have hbl:=YG.out;have hwr:w.heap.size<=wr.heap.size:=HB.out.size;obtain ⟨W0,hW0⟩:∃ W0,W0=(((wr.alloc (.map #[] 0)).alloc (.cells #[.map (some wr.heap.size)] 153)).alloc (.cells #[(.func (Fn.func 186) #[] #[.pointer (some ⟨wr.heap.size+1,0,none⟩),.pointer (some ⟨w.heap.size+1,0,none⟩),.pointer (some ⟨w.heap.size,0,none⟩),.pointer (some ⟨wr.heap.size+1+1,0,none⟩)])] 270)):=⟨_,rfl⟩;have hal:ag wr W0:=by
  rw [hW0]
  repeat (first|exact Uf _ _|refine Below.alloc ?_ (by first|(simp;done)|(simp;omega)) _)
 have hs0:W0.heap.size=wr.heap.size+3:=by rw [hW0];simp
 have HRW:Hid (Rw W0 (wr.heap.size+1) (w.heap.size+1) w.heap.size (wr.heap.size+1+1) wr.heap.size bL N 0 nL ML E (fun _=>none)):=by
  have hGr:Grp wr bL nL ML E:=HG.out.below HB.out;have hMV:aO dS prog 94 W0 wr.heap.size 0 (iY (fun _=>none)):=by
   have h1:=nN dS prog 94 wr;have e1:iY (fun _=>none)=fun _=>none:=by funext k;rfl
   rw [e1];refine h1.below ?_;rw [hW0]
   repeat (first|exact Uf _ _|refine Below.alloc ?_ (by first|(simp;done)|(simp;omega)) _)
  have hcS:W0.cell? ⟨wr.heap.size+1,0,none⟩=some (.map (some wr.heap.size)):=by
   rw [hW0];exact aH ((Uf _ _).alloc (Ue _) _) (by simp) (Np wr _ _ _ 0 rfl)
  have hcR:W0.cell? ⟨wr.heap.size+1+1,0,none⟩=some (EN (wr.heap.size+1) (w.heap.size+1) w.heap.size (wr.heap.size+1+1)):=by
   rw [hW0];exact Sa _ _ _ _ _ _ rfl
  exact ⟨hcS,aH hal (by omega) c1,aH hal (by omega) c0,hcR,by omega,by omega,by omega,by omega,hMV,hGr.below hal,by omega,hGr.fresh (Ue _)⟩
 have HB0:=jP HB hal;clear hu hEN hN hal HC;go_wp2_with fail;rw [<-hW0];clear hW0 c0 c1 c2 c3 HB;obtain ⟨bS,hbS⟩:∃ bS,bS=wr.heap.size:=⟨_,rfl⟩;obtain ⟨gS,hgS⟩:∃ gS,gS=wr.heap.size+1:=⟨_,rfl⟩;obtain ⟨gR,hgR⟩:∃ gR,gR=wr.heap.size+1+1:=⟨_,rfl⟩;obtain ⟨gC,hgC⟩:∃ gC,gC=w.heap.size+1:=⟨_,rfl⟩;obtain ⟨gL,hgL⟩:∃ gL,gL=w.heap.size:=⟨_,rfl⟩;have hb1:w.heap.size<=bS:=by omega
 have HRW2:Hid (Rw W0 gS gC gL gR bS bL N 0 nL ML E (fun _=>none)):=by rw [hbS,hgS,hgR,hgC,hgL];exact HRW
 have HI0:Hid (∃ (σ:Ky->Option Int) (n:Nat),Rw W0 gS gC gL gR bS bL N n nL ML E σ/\Rz (ae rs) N σ/\(n:Int)+oz N σ (ak (ae rs))<=2000/\Raised E (fun _=>none) σ/\∀ key∈dD rs 0,∃ x,σ key=some x):=by
  refine ⟨fun _=>none,0,HRW2.out,⟨fun k x h=>by cases h⟩,?_,Raised.refl _ _,fun k hk=>by simp [dD,ae,ak]at hk⟩;rw [PT,<-WQ.out];have h1:(N:Int)*N<=36*36:=Int.mul_le_mul (by omega) (by omega) (by omega) (by omega)
  push_cast;omega
 rw [<-hgR,<-hgS,<-hbS,<-hgC,<-hgL];clear HRW HRW2 hs0 hmm hgR hgS hbS hgC hgL;go_loopw [31] (fun i w2=>∃ k:Nat,k<=rs.length/\i=.int .i64 k/\Hid (ag w w2)/\Hid (∃ (σ:Ky->Option Int) (n:Nat),Rw w2 gS gC gL gR bS bL N n nL ML E σ/\Rz (ae rs) N σ/\(n:Int)+oz N σ (ak (ae rs))<=2000/\Raised E (fun _=>none) σ/\∀ key∈dD rs k,∃ x,σ key=some x)) (fun i _=>rs.length-(intOf i).toNat);case atStart=>exact ⟨0,Ui _,rfl,HB0,HI0⟩
 clear HB0 HI0;obtain ⟨k,hk,rfl,HB,HI⟩:=hrel;by_cases hlt:k<rs.length
 ·rcases HS.out.below HB.out with rfl|⟨b,off,rfl,hb,hr,-⟩
  ·simp at hlt
  obtain ⟨t0,t1⟩:=hr k hlt;have hk1:=bF k;have hk2:(k:Int)<(rs.length:Int):=by omega
  have h6:=YS.out _ (Ud hlt);obtain ⟨W1,hW1⟩:∃ W1,W1=wr.alloc (.cells #[.string rs[k].name,.slice rs[k].ad rs[k].rows.length rs[k].cap] 127):=⟨_,rfl⟩;have hal:ag wr W1:=by rw [hW1];exact (Uf _ _).alloc (Ue _) _
  obtain ⟨g12,Xn⟩:∃ g12,g12=wr.heap.size:=⟨_,rfl⟩;have hbw:bS<wr.heap.size:=by obtain ⟨σ,n,hR,-⟩:=HI.out;exact hR.map.lt
  have HC12:Hid (W1.cell? ⟨g12,0,none⟩=some (.string rs[k].name)/\g12<W1.heap.size/\g12≠bS):=⟨by rw [hW1,Xn];simp,by rw [hW1,Xn];simp,by omega⟩;have HB1:=jP HB hal;have HI1:Hid (∃ (σ:Ky->Option Int) (n:Nat),Rw W1 gS gC gL gR bS bL N n nL ML E σ/\Rz (ae rs) N σ/\(n:Int)+oz N σ (ak (ae rs))<=2000/\Raised E (fun _=>none) σ/\∀ key∈dD rs k,∃ x,σ key=some x):=by
   obtain ⟨σ,n,hR,h2⟩:=HI.out;exact ⟨σ,n,hR.below hal,h2⟩
  clear hr hal HI HB;go_wp2_with fail;rw [<-hW1,<-Xn];clear hW1 t0 t1 Xn;go_loopw [38] (fun i w3=>∃ j:Nat,j<=rs[k].rows.length/\i=.int .i64 j/\Hid (ag w w3)/\Hid (w3.cell? ⟨g12,0,none⟩=some (.string rs[k].name)/\g12<w3.heap.size/\g12≠bS)/\Hid (∃ (σ:Ky->Option Int) (n:Nat),Rw w3 gS gC gL gR bS bL N n nL ML E σ/\Rz (ae rs) N σ/\(n:Int)+oz N σ (ak (ae rs))<=2000/\Raised E (fun _=>none) σ/\∀ key∈dD rs k++iX rs[k] j,∃ x,σ key=some x)) (fun i _=>rs[k].rows.length-(intOf i).toNat);case atStart=>exact ⟨0,Ui _,rfl,HB1,HC12,by simpa [iX] using HI1⟩
  clear HB1 HC12 HI1;obtain ⟨j,hj,rfl,HB,HC,HI⟩:=hrel;by_cases hjl:j<rs[k].rows.length
  ·rcases HS.out.below HB.out with hnil|⟨b',off',he,hb2,hr,hok⟩
   ·rw [hnil]at hlt;simp at hlt
   injection he with he;injection he with he1 he2;subst he1;subst he2;have ok:=hok rs[k] (Ud hlt);rcases ok with hnil|⟨b2,Vb,had,hbb,hr2,-⟩
   ·rw [hnil]at hjl;simp at hjl
   obtain ⟨q0,q1⟩:=hr2 j hjl;have hj1:=bF j;have hj2:(j:Int)<(rs[k].rows.length:Int):=by omega
   obtain ⟨σ,n,hR,hZ,hn,hRa,hall⟩:=HI.out;obtain ⟨x0,x1,x2⟩:=HC.out;have cR:=hR.cR;unfold EN at cR;have lR:=hR.lR.1;obtain ⟨W3,hW3⟩:∃ W3,W3=wr.alloc (.cells #[.string rs[k].rows[j].name,.slice rs[k].rows[j].ad rs[k].rows[j].rows.length rs[k].rows[j].cap] 147):=⟨_,rfl⟩;have hal:ag wr W3:=by rw [hW3];exact (Uf _ _).alloc (Ue _) _
   have HR3:=aA (hR.below hal);have HZ3:=aA hZ;have HB3:=jP HB hal;have XT:Hid (W3.cell? ⟨g12,0,none⟩=some (.string rs[k].name)/\g12<W3.heap.size/\g12≠bS):=⟨aH hal x1 x0,Uc x1 hal.size,x2⟩;have Xz:Hid (Raised E (fun _=>none) σ):=hRa;have U2:Hid (∀ key∈dD rs k++iX rs[k] j,∃ x,σ key=some x):=hall;have hmp:=hZ.mu_pos (ak (ae rs));have HKM:Hid ((rs[k].name,rs[k].rows[j].name)∈ak (ae rs)):=qJ.2 ⟨rs[k].p,List.mem_map_of_mem (Ud hlt),rs[k].rows[j].p,List.mem_map_of_mem (Ud hjl),rfl⟩;rw [had];clear hr hok hr2 hal hR hZ hRa hall HI HB HC;go_wp2_with fail;rw [<-hW3];clear hW3 q0 q1 cR x0;refine (Mo (ae rs) gS gC gL gR bS bL N nL ML E HE.out HF.out WQ.out hN36 (MK UY.out) hEl (oz N σ (ak (ae rs))).toNat _ σ n (rs[k].name,rs[k].rows[j].name) 0 HR3.out HZ3.out (by omega) (by omega) HKM.out (by omega) (by omega) (qF.zero _ _)).mono ?_;rintro e w5 ⟨ok,σ5,n5,rfl,hg5,U6,hZ5,Zm,Xp,hf5,ht5⟩;have V9:Hid (ag w w5):=HB3.out.grown hg5 HB3.out.size (fun i hi=>by injection hi with hi;omega);cases ok;case false=>
    have HP:Hid (PS (ae rs) w (.returned (.tuple #[.map none,.bool false])) w5):=⟨.inr ⟨rfl,hf5 rfl⟩,V9.out⟩;clear hg5 U6 hZ5 Zm Xp hf5 ht5;go_wp2;refine bodyPost_ret (v:=.tuple #[.map none,.bool false]) ?_ rfl HP.out;simp [results,Tryz.results133,go_sem]
   have HI5:Hid (∃ (σ:Ky->Option Int) (n:Nat),Rw w5 gS gC gL gR bS bL N n nL ML E σ/\Rz (ae rs) N σ/\(n:Int)+oz N σ (ak (ae rs))<=2000/\Raised E (fun _=>none) σ/\∀ key∈dD rs k++iX rs[k] (j+1),∃ x,σ key=some x):=by
    obtain ⟨hRa,y,hy,-⟩:=ht5 rfl;refine ⟨σ5,n5,U6,hZ5,by omega,Xz.out.trans hRa,fun key hk=>?_⟩;rw [tL _ _ hjl,<-List.append_assoc]at hk;rcases Uq.1 hk with hk|hk
    ·obtain ⟨x,hx⟩:=U2.out key hk;obtain ⟨z,hz,-⟩:=hRa.mono key x hx;exact ⟨z,hz⟩
    simp at hk;subst hk;exact ⟨y,hy⟩
   have Xl:Hid (w5.cell? ⟨g12,0,none⟩=some (.string rs[k].name)/\g12<w5.heap.size/\g12≠bS):=⟨(kE hg5 XT.out.2 0).trans XT.out.1,Uc XT.out.2.1 hg5.size,XT.out.2.2⟩;clear hg5 U6 hZ5 Zm Xp hf5 ht5;go_wp2;go_roundw;case rel=>exact ⟨j+1,by omega,by go_num,V9,Xl,HI5⟩
   simp [intOf] <;> omega
  obtain rfl:j=rs[k].rows.length:=by omega
  have HI5:Hid (∃ (σ:Ky->Option Int) (n:Nat),Rw wr gS gC gL gR bS bL N n nL ML E σ/\Rz (ae rs) N σ/\(n:Int)+oz N σ (ak (ae rs))<=2000/\Raised E (fun _=>none) σ/\∀ key∈dD rs (k+1),∃ x,σ key=some x):=by rw [pq _ _ hlt];exact HI
  clear HI;go_wp2;go_roundw;case rel=>exact ⟨k+1,by omega,by go_num,HB,HI5⟩
  simp [intOf] <;> omega
 obtain rfl:k=rs.length:=by omega
 obtain ⟨σ,n,hR,hZ,hn,hRa,hall⟩:=HI.out;have cS:=hR.cS;have HP:Hid (PS (ae rs) w (.returned (.tuple #[.map (some bS),.bool true])) wr):=by
  rw [HEN.out]at hall;refine ⟨.inl ⟨bS,n,σ,rfl,hR.map,EM HE.out HF.out hZ hall (fun k=>hRa.done k (.inl (fun x h=>by cases h))),fun k=>⟨fun ⟨x,hx⟩=>(hZ.there k x hx).1,hall k⟩⟩,HB.out⟩
 clear hR hZ hn hRa hall HI;go_wp2;refine bodyPost_ret (v:=.tuple #[.map (some bS),.bool true]) ?_ rfl HP.out;simp [results,Tryz.results133,go_sem]
set_option linter.unusedVariables false
set_option maxRecDepth 100000
def Q9 (u:Al)(g:Fc):Bool:=uk g.c g.d u.t u.s
theorem MM (p:Fc->Bool){zs:List Fc}{k:Nat}(h:k<zs.length):(zs.drop k).any p=(p zs[k] || (zs.drop (k+1)).any p):=by rw [UB h];rfl
theorem BA.at0 {w:af}{ad:Option Addr}{fs:List Fc}(h:BA w ad fs){k:Nat}(hk:k<fs.length):∃ b off,ad=some ⟨b,off,none⟩/\wX w b (off+k*5) fs[k]/\b<w.heap.size:=by
 rcases h with h|⟨b',off',e,hb,hr⟩
 ·rw [h]at hk;simp at hk
 exact ⟨b',off',e,hr k hk,hb⟩
theorem Ra (g:Nat)(u:Al)(f:Fc)(w:af)(hg:g<w.heap.size)(h0:w.cell? ⟨g,0,none⟩=some (.string u.t))(h1:w.cell? ⟨g,1,none⟩=some (.string u.s)) :
  Calls prog 148 #[.agg #[.string f.a,.string f.b,.string f.r,.string f.c,.string f.d],.pointer (some ⟨g,0,none⟩)] w fun e w'=>e=.returned (.bool (Q9 u f))/\ag w w':=by
 have HB:Hid (ag w (w.alloc (.cells #[.string f.a,.string f.b,.string f.r,.string f.c,.string f.d] 29))):=(Uf _ _).alloc (Ue _) _;have heq:=iq f.c f.d u.t u.s rfl;go_enter func148,ntmps148;go_wp2;go_ret;exact ⟨rfl,HB.out⟩
theorem SV (xs:Array Value)(u:af):(callFunc 148 xs).run prog u=.ok (.enter 148 xs) u:=by kernel_rfl
theorem GX (FC:Nat)(rc cp:Array Value)(p:Fc->Bool)(ad:Option Addr)(cap:Nat)(xs:List Fc)(w:af)(hlen:xs.length<=1048576)(hs:BA w ad xs)
  (hrun:∀ (ys:Array Value) (u:World),(callFunc FC ys).run prog u=.ok (.enter FC ys) u) (hp:∀ x∈xs,∀ w1:World,ag w w1->Calls prog FC (rc.push (.agg #[.string x.a,.string x.b,.string x.r,.string x.c,.string x.d])++cp) w1 fun e w'=>e=.returned (.bool (p x))/\ag w1 w') :
  Calls prog 200 #[.slice ad xs.length cap,.func (Fn.func FC) rc cp] w fun e w'=>(∃ r:Int,e=.returned (.int .i64 r)/\decide (0<=r)=xs.any p)/\ag w w':=by
 have HS:=aD hs;have HRUN:=aD hrun;have HP:=aD hp;clear hs hrun hp;have HD:Hid (∀ k (h:k<xs.length),(xs.drop k).any p=(p xs[k] || (xs.drop (k+1)).any p)):=fun k h=>MM p h;go_enter func200,ntmps200;go_wp2_with fail;go_loopw [8] (fun i wr=>∃ k:Nat,k<=xs.length/\i=.int .i64 k/\Hid ((xs.drop k).any p=xs.any p)/\Hid (ag w wr)) (fun i _=>xs.length-(intOf i).toNat);case atStart=>exact ⟨0,Ui _,rfl,rfl,Uf _ _⟩
 obtain ⟨k,hk,rfl,HQ,HB⟩:=hrel;by_cases hlt:k<xs.length
 ·obtain ⟨b,off,UT,⟨t0,t1,t2,t3,t4⟩,hbl⟩:=BA.at0 (HS.out.below HB.out) hlt;have HM:Hid (xs[k]∈xs):=Ud hlt;have hk1:=bF k;have hk2:(k:Int)<(xs.length:Int):=by omega
  have HD2:=aD (HD.out k hlt);subst UT;go_wp2_with fail;rw [HRUN.out,Oper.upon_enter];refine (HP.out _ HM.out _ HB.out).mono ?_;rintro e w1 ⟨rfl,hb1⟩;have HB1:=jP HB hb1;clear hb1 t0 t1 t2 t3 t4;cases he:p xs[k];case true=>
   have HN:Hid (xs.any p=true):=by show _=_;rw [<-HQ.out,HD2.out,he];rfl
   go_wp2;go_ret;exact ⟨⟨k,rfl,by rw [HN.out];simp⟩,HB1.out⟩
  have HQ2:Hid ((xs.drop (k+1)).any p=xs.any p):=by show _=_;rw [<-HQ.out,HD2.out,he];rfl
  go_wp2;go_roundw;case rel=>exact ⟨k+1,by omega,by go_num,HQ2,HB1⟩
  simp [intOf] <;> omega
 have HN:Hid (xs.any p=false):=by show _=_;rw [<-HQ.out,List.drop_of_length_le (by omega)];rfl
 go_wp2;go_ret;exact ⟨⟨-1,rfl,by rw [HN.out];simp⟩,HB.out⟩
theorem Bn (FC:Nat)(rc cp:Array Value)(p:Fc->Bool)(ad:Option Addr)(cap:Nat)(xs:List Fc)(w:af)(hlen:xs.length<=1048576)(hs:BA w ad xs)
  (hrun:∀ (ys:Array Value) (u:World),(callFunc FC ys).run prog u=.ok (.enter FC ys) u) (hp:∀ x∈xs,∀ w1:World,ag w w1->Calls prog FC (rc.push (.agg #[.string x.a,.string x.b,.string x.r,.string x.c,.string x.d])++cp) w1 fun e w'=>e=.returned (.bool (p x))/\ag w1 w') :
  Calls prog 147 #[.slice ad xs.length cap,.func (Fn.func FC) rc cp] w fun e w'=>e=.returned (.bool (xs.any p))/\ag w w':=by
 have HC:=aD (GX FC rc cp p ad cap xs w hlen hs hrun hp);clear hs hrun hp;go_enter func147,ntmps147;go_wp2_with fail;refine HC.out.mono ?_;rintro e w' ⟨⟨r,rfl,hr⟩,hbx⟩;have HR:=aD hr;clear hr;go_wp2;go_ret;exact ⟨by rw [<-HR.out];rfl,hbx⟩
theorem JQ {us:List Al}{new:List Fc}{k:Nat}(h:k<us.length):fo (us.take (k+1)) new=fo (us.take k) new++(if new.any (Q9 us[k]) then [us[k]] else []):=by
 unfold fo;rw [Uh h,UL];congr 1;rw [List.filter_cons];rfl
theorem DD (us:List Al)(new:List Fc):(fo us new).length<=us.length:=List.length_filter_le _ _
theorem qX (VH:Option Addr)(U0:Nat)(us:List Al)(Yj:Option Addr)(VI:Nat)(new:List Fc)(w:af)(Yo:us.length<=1000)(hnl:new.length<=1048576)(hu:jM w VH us)(hf:BA w Yj new) :
  Calls prog 103 #[.slice VH us.length U0,.slice Yj new.length VI] w fun e w'=>(∃ v,e=.returned v/\w'.ownsRow w.heap.size 27 2 v (fo us new).length (pairs (fo us new)))/\ag w w':=by
 obtain ⟨iO,h0,h1,h2,h3⟩:=AA;have YI:=aF (And.intro h0 (And.intro h1 (And.intro h2 h3)));have HU:=aF hu;have HF:=aF hf;have Wn:Hid (w.ownsRow w.heap.size 27 2 (.slice none 0 0) (fo (us.take 0) new).length (pairs (fo (us.take 0) new))):=World.ownsRow_nil _ _ _ _;clear hu hf h0 h1 h2 h3;go_enter func103,ntmps103;go_wp2_with fail;go_loopw [5,10] (fun v i wr=>∃ k:Nat,k<=us.length/\i=.int .i64 k/\Hid (wr.ownsRow w.heap.size 27 2 v (fo (us.take k) new).length (pairs (fo (us.take k) new)))/\Hid (ag w wr)) (fun _ i _=>us.length-(intOf i).toNat);case atStart=>exact ⟨0,Ui _,rfl,Wn,Uf _ _⟩
 clear Wn;obtain ⟨k,hk,rfl,HO,HB⟩:=hrel;by_cases hlt:k<us.length
 ·obtain ⟨b,off,UT,⟨t0,t1⟩,hbl⟩:=jM.at0 (HU.out.below HB.out) hlt;have hi1:=bF k;have hi2:(k:Int)<(us.length:Int):=by omega
  have HKT:=aF (JQ (new:=new) hlt);have hkl:=DD (us.take k) new;rw [UF]at hkl;obtain ⟨u,hu⟩:∃ u,u=us[k]:=⟨_,rfl⟩;rw [<-hu]at t0 t1 HKT;clear hu;obtain ⟨W1,hW1⟩:∃ W1,W1=wr.alloc (.cells #[.string u.t,.string u.s] 27):=⟨_,rfl⟩;have V4:=rV hW1;have HB1:=aF (HB.out.trans (V4.out.mono HB.out.size));have d0:W1.cell? ⟨wr.heap.size,0,none⟩=some (.string u.t):=by rw [hW1];simp
  have d1:W1.cell? ⟨wr.heap.size,1,none⟩=some (.string u.s):=by rw [hW1];simp
  have dl:wr.heap.size<W1.heap.size:=aG d0;have U7:=aF (df HO.out V4.out);obtain ⟨ys,hys⟩:∃ ys,ys=fo (us.take k) new:=⟨_,rfl⟩;rw [<-hys]at U7 HKT hkl;obtain ⟨adV,Yz,rfl,-⟩:=kC U7.out;have Vo:=aF (Bn 148 #[] #[.pointer (some ⟨wr.heap.size,0,none⟩)] (Q9 u) Yj VI new W1 hnl (HF.out.below HB1.out) SV (fun x hx w1 hb=>Ra wr.heap.size u x w1 (Uc dl hb.size) (bC hb dl d0) (bC hb dl d1)));subst UT;clear hys HO;go_wp2_with fail;rw [<-hW1];clear hW1 t0 t1;refine Vo.out.mono ?_;rintro e w2 ⟨rfl,hb2⟩;have HB2:=aF (HB1.out.trans (hb2.mono HB1.out.size));have UN:=aF (df U7.out hb2);replace d0:=bC hb2 dl d0;replace d1:=bC hb2 dl d1;replace dl:=Uc dl hb2.size;clear hb2 Vo U7 V4;cases hh:new.any (Q9 u);case false=>
   have HR:Hid (w2.ownsRow w.heap.size 27 2 (.slice adV ys.length Yz) (fo (us.take (k+1)) new).length (pairs (fo (us.take (k+1)) new))):=by
    show World.ownsRow _ _ _ _ _ _ _;rw [HKT.out,hh];simp only [Bool.false_eq_true,if_false,List.append_nil];exact UN.out
   go_wp2;go_roundw;case rel=>exact ⟨k+1,by omega,by go_num,HR,HB2⟩
   simp [intOf] <;> omega
  have HWE:Hid (fo (us.take (k+1)) new=ys++[u]):=by show _=_;rw [HKT.out,hh];rfl
  obtain ⟨W4,Wi⟩:∃ W4,W4=w2.alloc (.cells #[.string u.t,.string u.s] 27):=⟨_,rfl⟩;have U4:Hid (W4.ownsRow w.heap.size 27 2 (.slice adV ys.length Yz) ys.length (pairs ys)):=by show World.ownsRow _ _ _ _ _ _ _;rw [Wi];exact UN.out.alloc _
  have HN4:Hid (∀ j x,[Value.string u.t,.string u.s][j]?=some x->W4.cell? ((⟨w2.heap.size,0,none⟩:Addr).add j)=some x):=by rw [Wi];exact RX w2 u
  have Xt:Hid (ag w W4):=by show Below _ _ _;rw [Wi];exact HB2.out.alloc HB2.out.size _
  have hsz4:w.heap.size<=W4.heap.size:=Xt.out.size;clear hh;go_wp2_with (at_builtin;rw [<-Wi];clear Wi;refine wpList_append_own_at _ rfl _ _ 49 rfl w.heap.size 27 iO (.agg #[.string ⟨#[]⟩,.string ⟨#[]⟩]) 2 32 underlying49 YI.out.1 YI.out.2.1 YI.out.2.2.1 YI.out.2.2.2 rfl (by decide) _ ys.length (pairs ys) rfl U4.out ⟨w2.heap.size,0,none⟩ 1 1 [.string u.t,.string u.s] rfl rfl HN4.out (by simp [Value.oneCell']) (by unfold maxLen;omega) (by omega) hsz4 ?_);intro v' w5 hown hgr _ _;have HR:Hid (w5.ownsRow w.heap.size 27 2 v' (fo (us.take (k+1)) new).length (pairs (fo (us.take (k+1)) new))):=by
   show World.ownsRow _ _ _ _ _ _ _;rw [HWE.out,Ul];have:pairs (ys++[u])=pairs ys++[.string u.t,.string u.s]:=by simp [pairs]
   rw [this];exact hown
  have VZ:Hid (ag w w5):=Xt.out.grown hgr Xt.out.size (fun g hg=>(U4.out.lt g hg).1);clear hown hgr d0 d1 dl;go_wp2;go_roundw;case rel=>exact ⟨k+1,by omega,by go_num,HR,VZ⟩
  simp [intOf] <;> omega
 have HE:Hid (wr.ownsRow w.heap.size 27 2 u5 (fo us new).length (pairs (fo us new))):=by
  have h:=HO.out;rw [List.take_of_length_le (by omega)]at h;exact h
 clear HO;go_wp2;go_ret;exact ⟨⟨_,rfl,HE.out⟩,HB.out⟩
end Go.Proofs.YtajkkeikihhejaaGreat
