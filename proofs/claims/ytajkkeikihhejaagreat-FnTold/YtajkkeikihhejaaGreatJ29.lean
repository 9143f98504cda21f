/- Contract of the program's function on the least strata. -/
import Derived.Test.YtajkkeikihhejaaGreatSq
import Derived.Laws.EntriesVeiled
import Derived.Test.YtajkkeikihhejaaGreatJ22
import Derived.Test.YtajkkeikihhejaaGreatJ25
import Derived.Test.YtajkkeikihhejaaGreatJ21
open Go.Proofs.Tryz
set_option maxHeartbeats 80000000
namespace Go.Proofs.YtajkkeikihhejaaGreat
open Go.ChangeShapes Go.WideShapes Go.ChangeAt Go.RowKit Go.Maps
open Pl
def PM (ts:List Ty) (w:World) (e:Ending) (w':World):Prop :=
 ((∃ (b n:Nat) (σ:Ky→Option Int),e=.returned (.tuple #[.map (some b),.bool true])∧aM dQ prog 94 w' b n (iW σ)∧Least ts (fun k=>(σ k).getD 0)∧∀ k,(∃ x,σ k=some x) ↔ k ∈ ak ts) ∨ (e=.returned (.tuple #[.map none,.bool false])∧¬ ∃ f,Sol ts f))∧ag w w'
theorem PN (N:Nat) (ks:List Ky):nZ N (fun _=>none) ks=N * ks.length:=by
 induction ks with
 | nil=>simp [nZ]
 | cons k ks ih=>simp only [nZ,ih,wI,List.length_cons]; push_cast; rw [Int.mul_add]; omega
theorem MH {rs:List TR} (hf:∀ r ∈ rs,r.fits):∀ k ∈ ak (ae rs),k.1.size≤maxLen∧k.2.size≤maxLen:=by
 intro k hk;obtain ⟨t,ht,r,hr,rfl⟩:=qF.1 hk;obtain ⟨t',ht',rfl⟩:=Ue.1 ht;obtain ⟨q,hq,rfl⟩:=Ue.1 hr;exact ⟨(hf t' ht').1,((hf t' ht').2.2 q hq).1⟩
set_option maxRecDepth 100000 in
theorem yt (ad:Option Addr) (cap:Nat) (rs:List TR) (bL nL:Nat) (ML:Ky→Option Value) (E:List (Ky × St)) (w:af) (hlen:rs.length≤6) (hs:kW w ad rs) (hf:∀ r ∈ rs,r.fits) (hrl:∀ r ∈ rs,r.rows.length≤6) (hG:Grp w bL nL ML E) (hE:Edge (ae rs) E) (hF:Found (ae rs)) (hEl:E.length≤100000) :
  Calls prog 133 #[.slice ad rs.length cap,.map (some bL)] w (PM (ae rs) w):=by
 have HS:=az hs;have UL:=az hf;have Yz:Hid (∀ r ∈ rs,r.rows.length≤6):=hrl;have HG:Hid (Grp w bL nL ML E):=hG;have HE:=az hE;have HF:=az hF;have Yp:Hid (bL < w.heap.size):=hG.map.lt;clear hs hf hrl hG hE hF;have hmm:=@run_makeMap prog;go_enter func133,ntmps133;have HB0:Hid (ag w ((w.alloc (.cells #[.map (some bL)] 211)).alloc (.cells #[.int .i64 0] 2))):=((TT _ _).alloc (TS _) _).alloc (by simp) _;have VD:Hid (((w.alloc (.cells #[.map (some bL)] 211)).alloc (.cells #[.int .i64 0] 2)).cell? ⟨w.heap.size,0,none⟩=some (.map (some bL))∧((w.alloc (.cells #[.map (some bL)] 211)).alloc (.cells #[.int .i64 0] 2)).cell? ⟨w.heap.size + 1,0,none⟩=some (.int .i64 0)∧((w.alloc (.cells #[.map (some bL)] 211)).alloc (.cells #[.int .i64 0] 2)).frozen? ⟨w.heap.size + 1,0,none⟩=false∧w.heap.size + 1 < ((w.alloc (.cells #[.map (some bL)] 211)).alloc (.cells #[.int .i64 0] 2)).heap.size):=⟨by simp,by simp,by simp,by simp⟩;go_wp2_with fail;go_loopw [17] (fun i wr=>∃ k:Nat,k≤rs.length∧i=.int .i64 k∧Hid (ag w wr)∧Hid (wr.cell? ⟨w.heap.size,0,none⟩=some (.map (some bL))∧wr.cell? ⟨w.heap.size + 1,0,none⟩=some (.int .i64 ((dA rs k).length:Int))∧wr.frozen? ⟨w.heap.size + 1,0,none⟩=false∧w.heap.size + 1 < wr.heap.size)) (fun i _=>rs.length - (intOf i).toNat);case atStart=>exact ⟨0,TW _,rfl,HB0,VD⟩
 clear HB0 VD;obtain ⟨k,hk,rfl,HB,HC⟩:=hrel;obtain ⟨c0,c1,c2,c3⟩:=HC.out;have hu:=wE rs Yz.out k;by_cases hlt:k < rs.length
 ·rcases HS.out.below HB.out with rfl | ⟨b,off,rfl,hb,hr,-⟩
  ·simp at hlt
  obtain ⟨t0,t1⟩:=hr k hlt;have hk1:=bB k;have hk2:(k:Int) < (rs.length:Int):=by omega
  have h6:=Yz.out _ (TQ hlt);have Vk:Hid ((dA rs (k + 1)).length=(dA rs k).length + rs[k].rows.length):=by show _=_; rw [o7 _ _ hlt,T9]; simp [iV]
  obtain ⟨cn,hcn⟩:∃ cn,cn=(dA rs k).length:=⟨_,rfl⟩;rw [← hcn] at c1 hu Vk;have HB1:Hid (ag w ((wr.setCell ⟨w.heap.size + 1,0,none⟩ (.int .i64 ((cn:Int) + (rs[k].rows.length:Int)))).alloc (.cells #[.string rs[k].name,.slice rs[k].ad rs[k].rows.length rs[k].cap] 127))):=(HB.out.setCell (p:=⟨w.heap.size + 1,0,none⟩) (by simp) _).alloc (by simpa using HB.out.size) _;have VE:Hid (((wr.setCell ⟨w.heap.size + 1,0,none⟩ (.int .i64 ((cn:Int) + (rs[k].rows.length:Int)))).alloc (.cells #[.string rs[k].name,.slice rs[k].ad rs[k].rows.length rs[k].cap] 127)).cell? ⟨w.heap.size,0,none⟩=some (.map (some bL))∧((wr.setCell ⟨w.heap.size + 1,0,none⟩ (.int .i64 ((cn:Int) + (rs[k].rows.length:Int)))).alloc (.cells #[.string rs[k].name,.slice rs[k].ad rs[k].rows.length rs[k].cap] 127)).cell? ⟨w.heap.size + 1,0,none⟩=some (.int .i64 ((dA rs (k + 1)).length:Int))∧((wr.setCell ⟨w.heap.size + 1,0,none⟩ (.int .i64 ((cn:Int) + (rs[k].rows.length:Int)))).alloc (.cells #[.string rs[k].name,.slice rs[k].ad rs[k].rows.length rs[k].cap] 127)).frozen? ⟨w.heap.size + 1,0,none⟩=false∧w.heap.size + 1 < ((wr.setCell ⟨w.heap.size + 1,0,none⟩ (.int .i64 ((cn:Int) + (rs[k].rows.length:Int)))).alloc (.cells #[.string rs[k].name,.slice rs[k].ad rs[k].rows.length rs[k].cap] 127)).heap.size):=by
   obtain ⟨X,hX⟩:∃ X,X=wr.setCell ⟨w.heap.size + 1,0,none⟩ (.int .i64 ((cn:Int) + (rs[k].rows.length:Int))):=⟨_,rfl⟩;have hXs:X.heap.size=wr.heap.size:=by rw [hX]; simp
   have hB:ag X (X.alloc (.cells #[.string rs[k].name,.slice rs[k].ad rs[k].rows.length rs[k].cap] 127)):=(TT _ _).alloc (TS _) _;rw [← hX];refine ⟨aG hB (by omega) (by rw [hX,xq (by omega)]; exact c0),aG hB (by omega) (by rw [hX,Vk.out]; push_cast; exact xm c1),?_,by simp; omega⟩;rw [hB.frozen (p:=⟨w.heap.size + 1,0,none⟩) (by simp; omega),hX];simpa using c2
  clear hr hcn HC;go_wp2;go_roundw;case rel=>exact ⟨k + 1,by omega,by go_num,HB1,VE⟩
  simp [intOf] <;> omega
 obtain rfl:k=rs.length:=by omega
 have hEN:dA rs rs.length=ak (ae rs):=by unfold dA; rw [Ug]
 rw [hEN] at c1 hu;obtain ⟨N,hN⟩:∃ N,N=(ak (ae rs)).length:=⟨_,rfl⟩;rw [← hN] at c1 hu;have Wx:Hid (N=(ak (ae rs)).length):=hN;have HEN:Hid (dA rs rs.length=ak (ae rs)):=hEN;have hN36:N≤36:=by omega
 have hbl:=Yp.out;have hwr:w.heap.size≤wr.heap.size:=HB.out.size;obtain ⟨W0,hW0⟩:∃ W0,W0=(((wr.alloc (.map #[] 0)).alloc (.cells #[.map (some wr.heap.size)] 153)).alloc (.cells #[(.func (Fn.func 186) #[] #[.pointer (some ⟨wr.heap.size + 1,0,none⟩),.pointer (some ⟨w.heap.size + 1,0,none⟩),.pointer (some ⟨w.heap.size,0,none⟩),.pointer (some ⟨wr.heap.size + 1 + 1,0,none⟩)])] 270)):=⟨_,rfl⟩;have hal:ag wr W0:=by
  rw [hW0]
  repeat (first | exact TT _ _ | refine Below.alloc ?_ (by first | (simp; done) | (simp; omega)) _)
 have hs0:W0.heap.size=wr.heap.size + 3:=by rw [hW0]; simp
 have HRW:Hid (Rw W0 (wr.heap.size + 1) (w.heap.size + 1) w.heap.size (wr.heap.size + 1 + 1) wr.heap.size bL N 0 nL ML E (fun _=>none)):=by
  have hGr:Grp wr bL nL ML E:=HG.out.below HB.out;have hMV:aM dQ prog 94 W0 wr.heap.size 0 (iW (fun _=>none)):=by
   have h1:=nJ dQ prog 94 wr;have e1:iW (fun _=>none)=fun _=>none:=by funext k; rfl
   rw [e1];refine h1.below ?_;rw [hW0]
   repeat (first | exact TT _ _ | refine Below.alloc ?_ (by first | (simp; done) | (simp; omega)) _)
  have hcS:W0.cell? ⟨wr.heap.size + 1,0,none⟩=some (.map (some wr.heap.size)):=by
   rw [hW0];exact aG ((TT _ _).alloc (TS _) _) (by simp) (Nf wr _ _ _ 0 rfl)
  have hcR:W0.cell? ⟨wr.heap.size + 1 + 1,0,none⟩=some (Ep (wr.heap.size + 1) (w.heap.size + 1) w.heap.size (wr.heap.size + 1 + 1)):=by
   rw [hW0];exact RV _ _ _ _ _ _ rfl
  exact ⟨hcS,aG hal (by omega) c1,aG hal (by omega) c0,hcR,by omega,by omega,by omega,by omega,hMV,hGr.below hal,by omega,hGr.fresh (TS _)⟩
 have HB0:=jP HB hal;clear hu hEN hN hal HC;go_wp2_with fail;rw [← hW0];clear hW0 c0 c1 c2 c3 HB;obtain ⟨bS,hbS⟩:∃ bS,bS=wr.heap.size:=⟨_,rfl⟩;obtain ⟨gS,hgS⟩:∃ gS,gS=wr.heap.size + 1:=⟨_,rfl⟩;obtain ⟨gR,hgR⟩:∃ gR,gR=wr.heap.size + 1 + 1:=⟨_,rfl⟩;obtain ⟨gC,hgC⟩:∃ gC,gC=w.heap.size + 1:=⟨_,rfl⟩;obtain ⟨gL,hgL⟩:∃ gL,gL=w.heap.size:=⟨_,rfl⟩;have hb1:w.heap.size≤bS:=by omega
 have HRW2:Hid (Rw W0 gS gC gL gR bS bL N 0 nL ML E (fun _=>none)):=by rw [hbS,hgS,hgR,hgC,hgL]; exact HRW
 have HI0:Hid (∃ (σ:Ky→Option Int) (n:Nat),Rw W0 gS gC gL gR bS bL N n nL ML E σ∧Rz (ae rs) N σ∧(n:Int) + nZ N σ (ak (ae rs))≤2000∧Raised E (fun _=>none) σ∧∀ key ∈ dA rs 0,∃ x,σ key=some x):=by
  refine ⟨fun _=>none,0,HRW2.out,⟨fun k x h=>by cases h⟩,?_,Raised.refl _ _,fun k hk=>by simp [dA,ae,ak] at hk⟩;rw [PN,← Wx.out];have h1:(N:Int) * N≤36 * 36:=Int.mul_le_mul (by omega) (by omega) (by omega) (by omega)
  push_cast; omega
 rw [← hgR,← hgS,← hbS,← hgC,← hgL];clear HRW HRW2 hs0 hmm hgR hgS hbS hgC hgL;go_loopw [31] (fun i w2=>∃ k:Nat,k≤rs.length∧i=.int .i64 k∧Hid (ag w w2)∧Hid (∃ (σ:Ky→Option Int) (n:Nat),Rw w2 gS gC gL gR bS bL N n nL ML E σ∧Rz (ae rs) N σ∧(n:Int) + nZ N σ (ak (ae rs))≤2000∧Raised E (fun _=>none) σ∧∀ key ∈ dA rs k,∃ x,σ key=some x)) (fun i _=>rs.length - (intOf i).toNat);case atStart=>exact ⟨0,TW _,rfl,HB0,HI0⟩
 clear HB0 HI0;obtain ⟨k,hk,rfl,HB,HI⟩:=hrel;by_cases hlt:k < rs.length
 ·rcases HS.out.below HB.out with rfl | ⟨b,off,rfl,hb,hr,-⟩
  ·simp at hlt
  obtain ⟨t0,t1⟩:=hr k hlt;have hk1:=bB k;have hk2:(k:Int) < (rs.length:Int):=by omega
  have h6:=Yz.out _ (TQ hlt);obtain ⟨W1,hW1⟩:∃ W1,W1=wr.alloc (.cells #[.string rs[k].name,.slice rs[k].ad rs[k].rows.length rs[k].cap] 127):=⟨_,rfl⟩;have hal:ag wr W1:=by rw [hW1]; exact (TT _ _).alloc (TS _) _
  obtain ⟨g12,WZ⟩:∃ g12,g12=wr.heap.size:=⟨_,rfl⟩;have hbw:bS < wr.heap.size:=by obtain ⟨σ,n,hR,-⟩:=HI.out; exact hR.map.lt
  have HC12:Hid (W1.cell? ⟨g12,0,none⟩=some (.string rs[k].name)∧g12 < W1.heap.size∧g12 ≠ bS):=⟨by rw [hW1,WZ]; simp,by rw [hW1,WZ]; simp,by omega⟩;have HB1:=jP HB hal;have HI1:Hid (∃ (σ:Ky→Option Int) (n:Nat),Rw W1 gS gC gL gR bS bL N n nL ML E σ∧Rz (ae rs) N σ∧(n:Int) + nZ N σ (ak (ae rs))≤2000∧Raised E (fun _=>none) σ∧∀ key ∈ dA rs k,∃ x,σ key=some x):=by
   obtain ⟨σ,n,hR,h2⟩:=HI.out;exact ⟨σ,n,hR.below hal,h2⟩
  clear hr hal HI HB;go_wp2_with fail;rw [← hW1,← WZ];clear hW1 t0 t1 WZ;go_loopw [38] (fun i w3=>∃ j:Nat,j≤rs[k].rows.length∧i=.int .i64 j∧Hid (ag w w3)∧Hid (w3.cell? ⟨g12,0,none⟩=some (.string rs[k].name)∧g12 < w3.heap.size∧g12 ≠ bS)∧Hid (∃ (σ:Ky→Option Int) (n:Nat),Rw w3 gS gC gL gR bS bL N n nL ML E σ∧Rz (ae rs) N σ∧(n:Int) + nZ N σ (ak (ae rs))≤2000∧Raised E (fun _=>none) σ∧∀ key ∈ dA rs k ++ iV rs[k] j,∃ x,σ key=some x)) (fun i _=>rs[k].rows.length - (intOf i).toNat);case atStart=>exact ⟨0,TW _,rfl,HB1,HC12,by simpa [iV] using HI1⟩
  clear HB1 HC12 HI1;obtain ⟨j,hj,rfl,HB,HC,HI⟩:=hrel;by_cases hjl:j < rs[k].rows.length
  ·rcases HS.out.below HB.out with hnil | ⟨b',off',he,hb2,hr,hok⟩
   ·rw [hnil] at hlt; simp at hlt
   injection he with he; injection he with he1 he2; subst he1; subst he2;have ok:=hok rs[k] (TQ hlt);rcases ok with hnil | ⟨b2,UZ,had,hbb,hr2,-⟩
   ·rw [hnil] at hjl; simp at hjl
   obtain ⟨q0,q1⟩:=hr2 j hjl;have hj1:=bB j;have hj2:(j:Int) < (rs[k].rows.length:Int):=by omega
   obtain ⟨σ,n,hR,hZ,hn,ZR,hall⟩:=HI.out;obtain ⟨x0,x1,x2⟩:=HC.out;have cR:=hR.cR;unfold Ep at cR;have lR:=hR.lR.1;obtain ⟨W3,hW3⟩:∃ W3,W3=wr.alloc (.cells #[.string rs[k].rows[j].name,.slice rs[k].rows[j].ad rs[k].rows[j].rows.length rs[k].rows[j].cap] 147):=⟨_,rfl⟩;have hal:ag wr W3:=by rw [hW3]; exact (TT _ _).alloc (TS _) _
   have HR3:=az (hR.below hal);have HZ3:=az hZ;have HB3:=jP HB hal;have Xu:Hid (W3.cell? ⟨g12,0,none⟩=some (.string rs[k].name)∧g12 < W3.heap.size∧g12 ≠ bS):=⟨aG hal x1 x0,TP x1 hal.size,x2⟩;have Xg:Hid (Raised E (fun _=>none) σ):=ZR;have UN:Hid (∀ key ∈ dA rs k ++ iV rs[k] j,∃ x,σ key=some x):=hall;have hmp:=hZ.mu_pos (ak (ae rs));have HKM:Hid ((rs[k].name,rs[k].rows[j].name) ∈ ak (ae rs)):=qF.2 ⟨rs[k].p,List.mem_map_of_mem (TQ hlt),rs[k].rows[j].p,List.mem_map_of_mem (TQ hjl),rfl⟩;rw [had];clear hr hok hr2 hal hR hZ ZR hall HI HB HC;go_wp2_with fail;rw [← hW3];clear hW3 q0 q1 cR x0;refine (Lx (ae rs) gS gC gL gR bS bL N nL ML E HE.out HF.out Wx.out hN36 (MH UL.out) hEl (nZ N σ (ak (ae rs))).toNat _ σ n (rs[k].name,rs[k].rows[j].name) 0 HR3.out HZ3.out (by omega) (by omega) HKM.out (by omega) (by omega) (qB.zero _ _)).mono ?_;rintro e w5 ⟨ok,σ5,n5,rfl,hg5,UU,hZ5,Y3,WV,hf5,ht5⟩;have VQ:Hid (ag w w5):=HB3.out.grown hg5 HB3.out.size (fun i hi=>by injection hi with hi; omega);cases ok;case false=>
    have HP:Hid (PM (ae rs) w (.returned (.tuple #[.map none,.bool false])) w5):=⟨.inr ⟨rfl,hf5 rfl⟩,VQ.out⟩;clear hg5 UU hZ5 Y3 WV hf5 ht5;go_wp2;refine bodyPost_ret (v:=.tuple #[.map none,.bool false]) ?_ rfl HP.out;simp [results,Tryz.results133,go_sem]
   have HI5:Hid (∃ (σ:Ky→Option Int) (n:Nat),Rw w5 gS gC gL gR bS bL N n nL ML E σ∧Rz (ae rs) N σ∧(n:Int) + nZ N σ (ak (ae rs))≤2000∧Raised E (fun _=>none) σ∧∀ key ∈ dA rs k ++ iV rs[k] (j + 1),∃ x,σ key=some x):=by
    obtain ⟨ZR,y,hy,-⟩:=ht5 rfl;refine ⟨σ5,n5,UU,hZ5,by omega,Xg.out.trans ZR,fun key hk=>?_⟩;rw [tL _ _ hjl,← List.append_assoc] at hk;rcases Uc.1 hk with hk | hk
    ·obtain ⟨x,hx⟩:=UN.out key hk;obtain ⟨z,hz,-⟩:=ZR.mono key x hx;exact ⟨z,hz⟩
    simp at hk; subst hk; exact ⟨y,hy⟩
   have Wy:Hid (w5.cell? ⟨g12,0,none⟩=some (.string rs[k].name)∧g12 < w5.heap.size∧g12 ≠ bS):=⟨(kz hg5 Xu.out.2 0).trans Xu.out.1,TP Xu.out.2.1 hg5.size,Xu.out.2.2⟩;clear hg5 UU hZ5 Y3 WV hf5 ht5;go_wp2;go_roundw;case rel=>exact ⟨j + 1,by omega,by go_num,VQ,Wy,HI5⟩
   simp [intOf] <;> omega
  obtain rfl:j=rs[k].rows.length:=by omega
  have HI5:Hid (∃ (σ:Ky→Option Int) (n:Nat),Rw wr gS gC gL gR bS bL N n nL ML E σ∧Rz (ae rs) N σ∧(n:Int) + nZ N σ (ak (ae rs))≤2000∧Raised E (fun _=>none) σ∧∀ key ∈ dA rs (k + 1),∃ x,σ key=some x):=by rw [o7 _ _ hlt]; exact HI
  clear HI;go_wp2;go_roundw;case rel=>exact ⟨k + 1,by omega,by go_num,HB,HI5⟩
  simp [intOf] <;> omega
 obtain rfl:k=rs.length:=by omega
 obtain ⟨σ,n,hR,hZ,hn,ZR,hall⟩:=HI.out;have cS:=hR.cS;have HP:Hid (PM (ae rs) w (.returned (.tuple #[.map (some bS),.bool true])) wr):=by
  rw [HEN.out] at hall;refine ⟨.inl ⟨bS,n,σ,rfl,hR.map,Eo HE.out HF.out hZ hall (fun k=>ZR.done k (.inl (fun x h=>by cases h))),fun k=>⟨fun ⟨x,hx⟩=>(hZ.there k x hx).1,hall k⟩⟩,HB.out⟩
 clear hR hZ hn ZR hall HI;go_wp2;refine bodyPost_ret (v:=.tuple #[.map (some bS),.bool true]) ?_ rfl HP.out;simp [results,Tryz.results133,go_sem]
theorem MI (ng:Bool) (xs:List Al):dh ng xs=(dH xs).map fun a=>(⟨a.t,a.s,ng⟩:Dp):=by
 induction xs with
 | nil=>rfl
 | cons a xs ih=>simp only [dh,dH]; split <;> simp [ih]
theorem Dw (ts:List Ty) (typ:bH) (ng:Bool) (e:Ex) (hn:av e=true) (hd:e.kind=3→bu (aA ts typ e.over)=true):dh ng e.allow ++ kM ts typ ng e=(jg ts typ e).map fun a=>(⟨a.t,a.s,ng⟩:Dp):=by
 by_cases h1:e.kind=1
 ·unfold kM jg;rw [if_neg (by omega),if_neg (by omega),if_pos h1,List.append_nil,MI]
 rw [tN hn h1];unfold kM jg;rw [if_neg h1];by_cases h2:e.kind=2
 ·rw [if_pos h2,if_pos h2]; rfl
 rw [if_neg h2,if_neg h2];by_cases h3:e.kind=3
 ·rw [if_pos h3,if_pos h3];unfold gy;rw [if_pos (hd h3),List.map_map];rfl
 rw [if_neg h3,if_neg h3]; rfl
theorem Dx {ts:List Ty} {typ:ByteArray} {es:List Ex} {d:Dp} {i:Nat} (hd:d ∈ ik ts typ es i):∀ {k:Nat},i < k→d ∈ aN ts typ es k
 | 0,h=>by omega
 | k + 1,h=>by
  simp only [aN];by_cases e:i=k
  ·subst e; exact Uc.2 (.inr hd)
  exact Uc.2 (.inl (Dx hd (by omega)))
theorem Bg {ts:List Ty} {t r:ByteArray} {es:List Ex} {x:Ky × St}:∀ {k:Nat},x ∈ relE ts t r es k ↔ ∃ i,i < k∧∃ e,es[i]?=some e∧x ∈ Ad ts t r ((dz es).getD i false) e
 | 0=>by simp [relE]
 | k + 1=>by
  simp only [relE,Uc];rw [Bg];constructor
  ·rintro (⟨i,hi,h⟩ | h)
   ·exact ⟨i,by omega,h⟩
   cases e:es[k]? with
   | none=>rw [e] at h; cases h
   | some y=>rw [e] at h; exact ⟨k,by omega,y,e,h⟩
  rintro ⟨i,hi,e,he,h⟩;by_cases ek:i=k
  ·subst ek; right; rw [he]; exact h
  exact .inl ⟨i,by omega,e,he,h⟩
theorem pE {rs:List TR} (h:bi (ae rs)=true) {t:TR} (ht:t ∈ rs) {q:RR} (hq:q ∈ t.rows):fI (ae rs) t.name q.name=some (aj q.rows):=by
 have hT:=wG h;have hs:=si (M:=fun _=>none) (rs:=rs) (k:=(t.name,q.name)) (.inr ⟨t,ht,q,hq,rfl⟩);obtain ⟨v,hv⟩:=Option.isSome_iff_exists.1 hs;obtain ⟨t',ht',q',hq',e,-,e2,-⟩:=hT.yes _ v hv;injection e with e3 e4;have h1:t=t':=FZ h ht ht' e3;subst h1;obtain ⟨i,hi,rfl⟩:=List.mem_iff_getElem.1 ht;have h2:q=q':=F3 (lw h i hi).2.2 hq hq' e4;subst h2;exact e2
theorem jm {es:List Ex} (h:aK es=true):∀ e ∈ es,av e=true:=by
 simp only [aK,TU] at h;exact Ub.1 h.1.1.1.2
theorem GU (t r:bH) (ng:Bool):stepOf ⟨t,r,ng⟩=xK ng:=by cases ng <;> rfl
theorem QX {rs:List TR} (h:bi (ae rs)=true) (hr:iD (ae rs)=true):Edge (ae rs) (ji (ae rs) rs):=by
 have UA:∀ t ∈ rs,∀ q ∈ t.rows,∀ e ∈ aj q.rows,av e=true∧(e.kind=3→bu (aA (ae rs) t.name e.over)=true):=by
  intro t ht q hq e he;have h1:=((bq h).2.2 t ht q hq).1;refine ⟨jm h1 e he,fun h3=>?_⟩;unfold iD at hr;rw [Ub] at hr;have h2:=hr t.p (List.mem_map_of_mem ht);unfold qD at h2;rw [Ub] at h2;have h4:aR (ae rs) t.name (aj q.rows)=true:=h2 q.p (List.mem_map_of_mem hq);have h5:=(CG h4 e he).2;unfold lh at h5;rw [if_neg (by omega),if_pos h3,TU] at h5;exact h5.1
 intro on t0 r0 s;constructor
 ·intro hm;unfold ji jh at hm;rw [Uf] at hm;obtain ⟨t,ht,hm⟩:=hm;rw [Uf] at hm;obtain ⟨q,hq,hm⟩:=hm;obtain ⟨i,hi,e,he,hm⟩:=Bg.1 hm;unfold Ad at hm;obtain ⟨a,ha,e1⟩:=Ue.1 hm;injection e1 with e2 e3;injection e3 with e4 e5 e6;subst e4; subst e5;refine ⟨qF.2 ⟨t.p,List.mem_map_of_mem ht,q.p,List.mem_map_of_mem hq,rfl⟩,⟨a.t,a.s,(dz (aj q.rows)).getD i false⟩,?_,e2,by rw [GU]; exact e6⟩;unfold il pR;have ero:aA (ae rs) t.name q.name=aj q.rows:=by unfold aA; rw [pE h ht hq]; rfl
  simp only [ero];have hi2:i < (aj q.rows).length:=(List.getElem?_eq_some_iff.1 he).1;refine Dx (i:=i) ?_ hi2;unfold ik;rw [he];obtain ⟨n1,n2⟩:=UA t ht q hq e (List.mem_of_getElem? he);simp only;rw [Dw _ _ _ _ n1 n2];exact List.mem_map_of_mem (f:=fun a:Al=>(⟨a.t,a.s,(dz (aj q.rows)).getD i false⟩:Dp)) ha
 rintro ⟨hk,d,hd,e1,e2⟩;obtain ⟨t',ht',r',hr',e3⟩:=qF.1 hk;obtain ⟨t,ht,rfl⟩:=Ue.1 ht';obtain ⟨q,hq,rfl⟩:=Ue.1 hr';injection e3 with e4 e5;subst e4; subst e5;unfold il pR at hd;have ero:aA (ae rs) t.p.name q.p.name=aj q.rows:=by
  have:=pE h ht hq;show aA (ae rs) t.name q.name=_;unfold aA; rw [this]; rfl
 simp only [ero] at hd;obtain ⟨i,hi,hd⟩:=tF hd;unfold ik at hd;split at hd
 ·cases hd
 rename_i e he;obtain ⟨n1,n2⟩:=UA t ht q hq e (List.mem_of_getElem? he);have hdn:dh ((dz (aj q.rows)).getD i false) e.allow ++ kM (ae rs) t.p.name ((dz (aj q.rows)).getD i false) e=_:=Dw (ae rs) t.name _ e n1 n2;rw [hdn] at hd;obtain ⟨a,ha,rfl⟩:=Ue.1 hd;unfold ji jh;rw [Uf];refine ⟨t,ht,?_⟩;rw [Uf];refine ⟨q,hq,Bg.2 ⟨i,by rw [aT] at hi; exact hi,e,he,?_⟩⟩;unfold Ad;rw [Ue];refine ⟨a,ha,?_⟩;rw [← e1,← e2,GU];rfl
theorem PO {rs:List TR} (h:bi (ae rs)=true):∀ r ∈ rs,∀ q ∈ r.rows,∀ e ∈ q.rows,e.e.allow.length≤6:=by
 intro r hr q hq e he;have h1:=jm ((bq h).2.2 r hr q hq).1 e.e (by unfold aj; exact List.mem_map_of_mem he);by_cases h2:e.e.kind=1
 ·unfold av at h1;rw [if_pos h2] at h1;simp only [TU,ed,Ud] at h1;exact h1.1.1.1.1.2
 rw [tN h1 h2]; simp
theorem qV {α β:Type} (f:α→List β) (B:Nat):∀ (xs:List α),(∀ x ∈ xs,(f x).length≤B)→(xs.flatMap f).length≤xs.length * B
 | [],_=>by simp
 | x::xs,h=>by
  rw [List.flatMap_cons,T9,List.length_cons,Nat.succ_mul];have h1:=h x (by simp);have h2:=qV f B xs fun q hq=>h q (by simp [hq]);omega
theorem MJ (rs:List TR) (h6:∀ r ∈ rs,r.rows.length≤6) (hex:∀ r ∈ rs,∀ q ∈ r.rows,aK (aj q.rows)=true∧q.rows.length≤15∧∀ e ∈ q.rows,dV q.rows.length e.e.kids) (h66:∀ r ∈ rs,∀ q ∈ r.rows,∀ e ∈ q.rows,e.e.allow.length≤6) (hl:rs.length≤6:=by omega):(ji (ae rs) rs).length≤100000:=by
 have h1:∀ t ∈ rs,(jh (ae rs) t.name t.rows).length≤540:=by
  intro t ht;have h2:∀ q ∈ t.rows,(relE (ae rs) t.name q.name (aj q.rows) q.rows.length).length≤90:=by
   intro q hq;have h3:∀ k,k≤q.rows.length→(relE (ae rs) t.name q.name (aj q.rows) k).length≤k * 6:=by
    intro k
    induction k with
    | zero=>intro _; simp [relE]
    | succ k ih =>
     intro hk;rw [CU _ _ _ _ _ (by omega) _ rfl,T9];have h4:=ih (by omega);have h5:(Ad (ae rs) t.name q.name ((dz (aj q.rows)).getD k false) q.rows[k].e).length≤6:=by
      unfold Ad;rw [Uy];exact CV rs h66 _ _ (h66 t ht q hq _ (TQ (by omega)))
     omega
   have h4:=h3 q.rows.length (TS _);have h5:=(hex t ht q hq).2.1;omega
  have h3:=qV (fun q:RR=>relE (ae rs) t.name q.name (aj q.rows) q.rows.length) 90 t.rows h2;have h4:=h6 t ht;unfold jh;omega
 have h2:=qV (fun t:TR=>jh (ae rs) t.name t.rows) 540 rs h1;unfold ji;omega
set_option linter.unusedSectionVars false
set_option linter.unusedVariables false
def kE (sts:List St) (xu:List Al) (n:Int) (o:Al) (k:Nat):List Fc:=((sts.take k).filter fun s=>s.typ.toList == o.t.toList && decide (s.n=n)).flatMap fun s=>ja o s.rel xu
def SF (sts:List St) (xu:List Al) (n:Int) (o:Al):List Fc:=kE sts xu n o sts.length
def rW (sts:List St) (xo xu:List Al) (n:Int) (i:Nat):List Fc:=(xo.take i).flatMap (SF sts xu n)
theorem MK (sts:List St) (xu:List Al) (n:Int) (o:Al):kE sts xu n o 0=[]:=rfl
theorem QY {sts:List St} {xu:List Al} {n:Int} {o:Al} {k:Nat} (h:k < sts.length) (hc:(sts[k].typ.toList == o.t.toList && decide (sts[k].n=n))=false):kE sts xu n o (k + 1)=kE sts xu n o k:=by
 unfold kE;rw [TV h,Uz,List.flatMap_append];simp [hc]
theorem PP {sts:List St} {xu:List Al} {n:Int} {o:Al} {k:Nat} (h:k < sts.length) (hc:(sts[k].typ.toList == o.t.toList && decide (sts[k].n=n))=true):kE sts xu n o (k + 1)=kE sts xu n o k ++ ja o sts[k].rel xu:=by
 unfold kE;rw [TV h,Uz,List.flatMap_append];simp [hc]
theorem MM {sts:List St} {xo xu:List Al} {n:Int} {i:Nat} (h:i < xo.length):rW sts xo xu n (i + 1)=rW sts xo xu n i ++ kE sts xu n xo[i] sts.length:=by
 unfold rW;rw [TV h,List.flatMap_append];simp [SF]
theorem PQ {ts:List Ty} {sts:List St} (hk:iE sts=ak ts) (hn:(ak ts).Nodup) (xo xu:List Al) (n:Int):rW sts xo xu n xo.length=bY ts (fO sts) xo xu n:=by
 unfold rW bY;rw [Ug];congr 1
 funext o
 unfold SF kE uZ;rw [Ug,QL hk hn,List.flatMap_map];rfl
theorem MN (o:Al) (rel:bH) {xu:List Al} {j:Nat} (h:j < xu.length):ja o rel (xu.take (j + 1))=ja o rel (xu.take j) ++ [⟨o.t,o.s,rel,xu[j].t,xu[j].s⟩]:=by
 unfold ja;rw [TV h,List.map_append]; rfl
theorem Bh {e:Ex} (h:av e=true):e.kids.length≤5∧(e.kind=6→2≤e.kids.length):=by
 unfold av at h;by_cases k1:e.kind=1
 ·rw [if_pos k1] at h; simp only [TU,Ud] at h; exact ⟨by omega,fun h6=>by omega⟩
 by_cases k2:e.kind=2
 ·rw [if_neg k1,if_pos k2] at h; simp only [TU,Ud] at h; exact ⟨by omega,fun h6=>by omega⟩
 by_cases k3:e.kind=3
 ·rw [if_neg k1,if_neg k2,if_pos k3] at h; simp only [TU,Ud] at h; exact ⟨by omega,fun h6=>by omega⟩
 by_cases k4:e.kind=4 ∨ e.kind=5
 ·rw [if_neg k1,if_neg k2,if_neg k3,if_pos k4] at h; simp only [TU,Ud] at h; exact ⟨by omega,fun h6=>by omega⟩
 by_cases k6:e.kind=6
 ·rw [if_neg k1,if_neg k2,if_neg k3,if_neg k4,if_pos k6] at h; simp only [TU,Ud] at h; exact ⟨by omega,fun h6=>by omega⟩
 rw [if_neg k1,if_neg k2,if_neg k3,if_neg k4,if_neg k6] at h; cases h
theorem KF {rows:List ER} (h:aK (aj rows)=true):WP rows∧1≤rows.length:=by
 have hl:1≤rows.length∧rows.length≤15:=by
  unfold aK at h;simp only [TU,Ud,aT] at h;exact ⟨h.1.1.1.1.1,h.1.1.1.1.2⟩
 have hlow:=I1 h;have hkl:∀ q ∈ rows,q.e.kids.length≤1000:=fun q hq=>by
  have:=(Bh (jm h q.e (Ue.2 ⟨q,hq,rfl⟩))).1;omega
 refine ⟨⟨by omega,hkl,hlow,fun e he h6=>?_⟩,hl.1⟩;exact (Bh (jm h e he)).2 h6
section
variable [DecidableEq Fc]
theorem rQ (H:List Fc→Fc→Bool) (qs:List Fc) (f:Fc) (out:List Fc):bF H (qs ++ [f]) out=dR H (bF H qs out) f:=by rw [Fy]; rfl
theorem vP {H:List Fc→Fc→Bool} {out:List Fc} {f:Fc} (h:bP out f=true ∨ H out f=false):dR H out f=out:=by
 unfold dR;rw [if_pos];rcases h with h | h
 ·exact .inl (dB.1 h)
 exact .inr h
theorem Dy {H:List Fc→Fc→Bool} {out:List Fc} {f:Fc} (h1:bP out f=false) (h2:H out f=true):dR H out f=out ++ [f]:=by
 unfold dR;rw [if_neg];rintro (h | h)
 ·rw [dB.2 h] at h1; cases h1
 rw [h2] at h; cases h
theorem GV (H:List Fc→Fc→Bool) (qs out:List Fc):out.length≤(bF H qs out).length:=by
 obtain ⟨n,e,-⟩:=jC (H:=H) qs out;rw [e,T9]; omega
theorem JQ {H:List Fc→Fc→Bool} {qs out:List Fc} (h:decide (out.length < (bF H qs out).length)=false):bF H qs out=out:=by
 obtain ⟨n,e,-⟩:=jC (H:=H) qs out;rw [e,T9,decide_eq_false_iff_not] at h;have:n=[]:=Ui.1 (by omega);rw [e,this,List.append_nil]
end
set_option maxRecDepth 100000
def QZ (u:Al) (g:Fc):Bool:=Ak g.c g.d u.t u.s
theorem MO (p:Fc→Bool) {zs:List Fc} {k:Nat} (h:k < zs.length):(zs.drop k).any p=(p zs[k] || (zs.drop (k + 1)).any p):=by rw [Un h]; rfl
theorem Bu.at0 {w:af} {ad:Option Addr} {fs:List Fc} (h:Bu w ad fs) {k:Nat} (hk:k < fs.length):∃ b off,ad=some ⟨b,off,none⟩∧wL w b (off + k * 5) fs[k]∧b < w.heap.size:=by
 rcases h with h | ⟨b',off',e,hb,hr⟩
 ·rw [h] at hk; simp at hk
 exact ⟨b',off',e,hr k hk,hb⟩
theorem Q0 (g:Nat) (u:Al) (f:Fc) (w:af) (hg:g < w.heap.size) (h0:w.cell? ⟨g,0,none⟩=some (.string u.t)) (h1:w.cell? ⟨g,1,none⟩=some (.string u.s)) :
  Calls prog 148 #[.agg #[.string f.a,.string f.b,.string f.r,.string f.c,.string f.d],.pointer (some ⟨g,0,none⟩)] w fun e w'=>e=.returned (.bool (QZ u f))∧ag w w':=by
 have HB:Hid (ag w (w.alloc (.cells #[.string f.a,.string f.b,.string f.r,.string f.c,.string f.d] 29))):=(TT _ _).alloc (TS _) _;have heq:=jI f.c f.d u.t u.s rfl;go_enter func148,ntmps148;go_wp2;go_ret;exact ⟨rfl,HB.out⟩
theorem SG (xs:Array Value) (u:af):(callFunc 148 xs).run prog u=.ok (.enter 148 xs) u:=by kernel_rfl
theorem GX (FC:Nat) (rc cp:Array Value) (p:Fc→Bool) (ad:Option Addr) (cap:Nat) (xs:List Fc) (w:af) (hlen:xs.length≤1048576) (hs:Bu w ad xs)
  (hrun:∀ (ys:Array Value) (u:World),(callFunc FC ys).run prog u=.ok (.enter FC ys) u) (hp:∀ x ∈ xs,∀ w1:World,ag w w1→Calls prog FC (rc.push (.agg #[.string x.a,.string x.b,.string x.r,.string x.c,.string x.d]) ++ cp) w1 fun e w'=>e=.returned (.bool (p x))∧ag w1 w') :
  Calls prog 200 #[.slice ad xs.length cap,.func (Fn.func FC) rc cp] w fun e w'=>(∃ r:Int,e=.returned (.int .i64 r)∧decide (0≤r)=xs.any p)∧ag w w':=by
 have HS:=aC hs;have HRUN:=aC hrun;have HP:=aC hp;clear hs hrun hp;have HD:Hid (∀ k (h:k < xs.length),(xs.drop k).any p=(p xs[k] || (xs.drop (k + 1)).any p)):=fun k h=>MO p h;go_enter func200,ntmps200;go_wp2_with fail;go_loopw [8] (fun i wr=>∃ k:Nat,k≤xs.length∧i=.int .i64 k∧Hid ((xs.drop k).any p=xs.any p)∧Hid (ag w wr)) (fun i _=>xs.length - (intOf i).toNat);case atStart=>exact ⟨0,TW _,rfl,rfl,TT _ _⟩
 obtain ⟨k,hk,rfl,HQ,HB⟩:=hrel;by_cases hlt:k < xs.length
 ·obtain ⟨b,off,UF,⟨t0,t1,t2,t3,t4⟩,hbl⟩:=Bu.at0 (HS.out.below HB.out) hlt;have HM:Hid (xs[k] ∈ xs):=TQ hlt;have hk1:=bB k;have hk2:(k:Int) < (xs.length:Int):=by omega
  have HD2:=aC (HD.out k hlt);subst UF;go_wp2_with fail;rw [HRUN.out,Oper.upon_enter];refine (HP.out _ HM.out _ HB.out).mono ?_;rintro e w1 ⟨rfl,hb1⟩;have HB1:=jP HB hb1;clear hb1 t0 t1 t2 t3 t4;cases he:p xs[k];case true=>
   have HN:Hid (xs.any p=true):=by show _=_; rw [← HQ.out,HD2.out,he]; rfl
   go_wp2;go_ret;exact ⟨⟨k,rfl,by rw [HN.out]; simp⟩,HB1.out⟩
  have HQ2:Hid ((xs.drop (k + 1)).any p=xs.any p):=by show _=_; rw [← HQ.out,HD2.out,he]; rfl
  go_wp2;go_roundw;case rel=>exact ⟨k + 1,by omega,by go_num,HQ2,HB1⟩
  simp [intOf] <;> omega
 have HN:Hid (xs.any p=false):=by show _=_; rw [← HQ.out,List.drop_of_length_le (by omega)]; rfl
 go_wp2;go_ret;exact ⟨⟨-1,rfl,by rw [HN.out]; simp⟩,HB.out⟩
theorem Bi (FC:Nat) (rc cp:Array Value) (p:Fc→Bool) (ad:Option Addr) (cap:Nat) (xs:List Fc) (w:af) (hlen:xs.length≤1048576) (hs:Bu w ad xs)
  (hrun:∀ (ys:Array Value) (u:World),(callFunc FC ys).run prog u=.ok (.enter FC ys) u) (hp:∀ x ∈ xs,∀ w1:World,ag w w1→Calls prog FC (rc.push (.agg #[.string x.a,.string x.b,.string x.r,.string x.c,.string x.d]) ++ cp) w1 fun e w'=>e=.returned (.bool (p x))∧ag w1 w') :
  Calls prog 147 #[.slice ad xs.length cap,.func (Fn.func FC) rc cp] w fun e w'=>e=.returned (.bool (xs.any p))∧ag w w':=by
 have HC:=aC (GX FC rc cp p ad cap xs w hlen hs hrun hp);clear hs hrun hp;go_enter func147,ntmps147;go_wp2_with fail;refine HC.out.mono ?_;rintro e w' ⟨⟨r,rfl,hr⟩,hbx⟩;have HR:=aC hr;clear hr;go_wp2;go_ret;exact ⟨by rw [← HR.out]; rfl,hbx⟩
theorem JR {us:List Al} {new:List Fc} {k:Nat} (h:k < us.length):eZ (us.take (k + 1)) new=eZ (us.take k) new ++ (if new.any (QZ us[k]) then [us[k]] else []):=by
 unfold eZ;rw [TV h,Uz];congr 1;rw [List.filter_cons];rfl
theorem Dz (us:List Al) (new:List Fc):(eZ us new).length≤us.length:=List.length_filter_le _ _
theorem qW (Vq:Option Addr) (UM:Nat) (us:List Al) (XU:Option Addr) (Vr:Nat) (new:List Fc) (w:af) (XX:us.length≤1000) (hnl:new.length≤1048576) (hu:jN w Vq us) (hf:Bu w XU new) :
  Calls prog 103 #[.slice Vq us.length UM,.slice XU new.length Vr] w fun e w'=>(∃ v,e=.returned v∧w'.ownsRow w.heap.size 27 2 v (eZ us new).length (pairs (eZ us new)))∧ag w w':=by
 obtain ⟨iO,h0,h1,h2,h3⟩:=Ah;have Yo:=aD (And.intro h0 (And.intro h1 (And.intro h2 h3)));have HU:=aD hu;have HF:=aD hf;have VX:Hid (w.ownsRow w.heap.size 27 2 (.slice none 0 0) (eZ (us.take 0) new).length (pairs (eZ (us.take 0) new))):=World.ownsRow_nil _ _ _ _;clear hu hf h0 h1 h2 h3;go_enter func103,ntmps103;go_wp2_with fail;go_loopw [5,10] (fun v i wr=>∃ k:Nat,k≤us.length∧i=.int .i64 k∧Hid (wr.ownsRow w.heap.size 27 2 v (eZ (us.take k) new).length (pairs (eZ (us.take k) new)))∧Hid (ag w wr)) (fun _ i _=>us.length - (intOf i).toNat);case atStart=>exact ⟨0,TW _,rfl,VX,TT _ _⟩
 clear VX;obtain ⟨k,hk,rfl,HO,HB⟩:=hrel;by_cases hlt:k < us.length
 ·obtain ⟨b,off,UF,⟨t0,t1⟩,hbl⟩:=jN.at0 (HU.out.below HB.out) hlt;have hi1:=bB k;have hi2:(k:Int) < (us.length:Int):=by omega
  have HKT:=aD (JR (new:=new) hlt);have hkl:=Dz (us.take k) new;rw [Ut] at hkl;obtain ⟨u,hu⟩:∃ u,u=us[k]:=⟨_,rfl⟩;rw [← hu] at t0 t1 HKT;clear hu;obtain ⟨W1,hW1⟩:∃ W1,W1=wr.alloc (.cells #[.string u.t,.string u.s] 27):=⟨_,rfl⟩;have VM:=qY hW1;have HB1:=aD (HB.out.trans (VM.out.mono HB.out.size));have d0:W1.cell? ⟨wr.heap.size,0,none⟩=some (.string u.t):=by rw [hW1]; simp
  have d1:W1.cell? ⟨wr.heap.size,1,none⟩=some (.string u.s):=by rw [hW1]; simp
  have dl:wr.heap.size < W1.heap.size:=aF d0;have UV:=aD (cO HO.out VM.out);obtain ⟨ys,hys⟩:∃ ys,ys=eZ (us.take k) new:=⟨_,rfl⟩;rw [← hys] at UV HKT hkl;obtain ⟨adV,Yg,rfl,-⟩:=kC UV.out;have Vk:=aD (Bi 148 #[] #[.pointer (some ⟨wr.heap.size,0,none⟩)] (QZ u) XU Vr new W1 hnl (HF.out.below HB1.out) SG (fun x hx w1 hb=>Q0 wr.heap.size u x w1 (TP dl hb.size) (bf hb dl d0) (bf hb dl d1)));subst UF;clear hys HO;go_wp2_with fail;rw [← hW1];clear hW1 t0 t1;refine Vk.out.mono ?_;rintro e w2 ⟨rfl,hb2⟩;have HB2:=aD (HB1.out.trans (hb2.mono HB1.out.size));have UB:=aD (cO UV.out hb2);replace d0:=bf hb2 dl d0;replace d1:=bf hb2 dl d1;replace dl:=TP dl hb2.size;clear hb2 Vk UV VM;cases hh:new.any (QZ u);case false=>
   have HR:Hid (w2.ownsRow w.heap.size 27 2 (.slice adV ys.length Yg) (eZ (us.take (k + 1)) new).length (pairs (eZ (us.take (k + 1)) new))):=by
    show World.ownsRow _ _ _ _ _ _ _;rw [HKT.out,hh]; simp only [Bool.false_eq_true,if_false,List.append_nil]; exact UB.out
   go_wp2;go_roundw;case rel=>exact ⟨k + 1,by omega,by go_num,HR,HB2⟩
   simp [intOf] <;> omega
  have HWE:Hid (eZ (us.take (k + 1)) new=ys ++ [u]):=by show _=_; rw [HKT.out,hh]; rfl
  obtain ⟨W4,VU⟩:∃ W4,W4=w2.alloc (.cells #[.string u.t,.string u.s] 27):=⟨_,rfl⟩;have UR:Hid (W4.ownsRow w.heap.size 27 2 (.slice adV ys.length Yg) ys.length (pairs ys)):=by show World.ownsRow _ _ _ _ _ _ _; rw [VU]; exact UB.out.alloc _
  have HN4:Hid (∀ j x,[Value.string u.t,.string u.s][j]?=some x→W4.cell? ((⟨w2.heap.size,0,none⟩:Addr).add j)=some x):=by rw [VU]; exact RG w2 u
  have Xa:Hid (ag w W4):=by show Below _ _ _; rw [VU]; exact HB2.out.alloc HB2.out.size _
  have hsz4:w.heap.size≤W4.heap.size:=Xa.out.size;clear hh;go_wp2_with (at_builtin; rw [← VU]; clear VU; refine wpList_append_own_at _ rfl _ _ 49 rfl w.heap.size 27 iO (.agg #[.string ⟨#[]⟩,.string ⟨#[]⟩]) 2 32 underlying49 Yo.out.1 Yo.out.2.1 Yo.out.2.2.1 Yo.out.2.2.2 rfl (by decide) _ ys.length (pairs ys) rfl UR.out ⟨w2.heap.size,0,none⟩ 1 1 [.string u.t,.string u.s] rfl rfl HN4.out (by simp [Value.oneCell']) (by unfold maxLen; omega) (by omega) hsz4 ?_);intro v' w5 hown hgr _ _;have HR:Hid (w5.ownsRow w.heap.size 27 2 v' (eZ (us.take (k + 1)) new).length (pairs (eZ (us.take (k + 1)) new))):=by
   show World.ownsRow _ _ _ _ _ _ _;rw [HWE.out,T9];have:pairs (ys ++ [u])=pairs ys ++ [.string u.t,.string u.s]:=by simp [pairs]
   rw [this]; exact hown
  have Yd:Hid (ag w w5):=Xa.out.grown hgr Xa.out.size (fun g hg=>(UR.out.lt g hg).1);clear hown hgr d0 d1 dl;go_wp2;go_roundw;case rel=>exact ⟨k + 1,by omega,by go_num,HR,Yd⟩
  simp [intOf] <;> omega
 have HE:Hid (wr.ownsRow w.heap.size 27 2 u5 (eZ us new).length (pairs (eZ us new))):=by
  have h:=HO.out;rw [List.take_of_length_le (by omega)] at h;exact h
 clear HO;go_wp2;go_ret;exact ⟨⟨_,rfl,HE.out⟩,HB.out⟩
end Go.Proofs.YtajkkeikihhejaaGreat
