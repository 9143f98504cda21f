/- Contract of the program's function on the least strata. -/
import Derived.Test.YtajkkeikihhejaaGreatSq
import Derived.Laws.EntriesVeiled
import Derived.Test.YtajkkeikihhejaaGreatJ30
open Go.Proofs.Tryz
set_option maxHeartbeats 80000000
namespace Go.Proofs.YtajkkeikihhejaaGreat
open Go.ChangeShapes Go.WideShapes Go.ChangeAt Go.RowKit Go.Maps
open Pl
def Po (ts:List Ty) (w:World) (e:Ending) (w':World):Prop :=
 ((∃ (b n:Nat) (σ:Ky→Option Int),e=.returned (.tuple #[.map (some b),.bool true])∧aM dQ prog 94 w' b n (iW σ)∧Least ts (fun k=>(σ k).getD 0)∧∀ k,(∃ x,σ k=some x) ↔ k ∈ ak ts) ∨ (e=.returned (.tuple #[.map none,.bool false])∧¬ ∃ f,Sol ts f))∧ag w w'
theorem Pp (N:Nat) (ks:List Ky):oz N (fun _=>none) ks=N * ks.length:=by
 induction ks with
 | nil=>simp [oz]
 | cons k ks ih=>simp only [oz,ih,wS,List.length_cons]; push_cast; rw [Int.mul_add]; omega
theorem MB {rs:List TR} (hf:∀ r ∈ rs,r.fits):∀ k ∈ ak (ae rs),k.1.size≤maxLen∧k.2.size≤maxLen:=by
 intro k hk;obtain ⟨t,ht,r,hr,rfl⟩:=qD.1 hk;obtain ⟨t',ht',rfl⟩:=Ue.1 ht;obtain ⟨q,hq,rfl⟩:=Ue.1 hr;exact ⟨(hf t' ht').1,((hf t' ht').2.2 q hq).1⟩
set_option maxRecDepth 100000 in
theorem yt (ad:Option Addr) (cap:Nat) (rs:List TR) (bL nL:Nat) (ML:Ky→Option Value) (E:List (Ky × St)) (w:af) (hlen:rs.length≤6) (hs:kW w ad rs) (hf:∀ r ∈ rs,r.fits) (hrl:∀ r ∈ rs,r.rows.length≤6) (hG:Grp w bL nL ML E) (hE:Edge (ae rs) E) (hF:Found (ae rs)) (hEl:E.length≤100000) :
  Calls prog 133 #[.slice ad rs.length cap,.map (some bL)] w (Po (ae rs) w):=by
 have HS:=az hs;have UL:=az hf;have Yx:Hid (∀ r ∈ rs,r.rows.length≤6):=hrl;have HG:Hid (Grp w bL nL ML E):=hG;have HE:=az hE;have HF:=az hF;have Yq:Hid (bL < w.heap.size):=hG.map.lt;clear hs hf hrl hG hE hF;have hmm:=@run_makeMap prog;go_enter func133,ntmps133;have HB0:Hid (ag w ((w.alloc (.cells #[.map (some bL)] 211)).alloc (.cells #[.int .i64 0] 2))):=((TT _ _).alloc (TS _) _).alloc (by simp) _;have VD:Hid (((w.alloc (.cells #[.map (some bL)] 211)).alloc (.cells #[.int .i64 0] 2)).cell? ⟨w.heap.size,0,none⟩=some (.map (some bL))∧((w.alloc (.cells #[.map (some bL)] 211)).alloc (.cells #[.int .i64 0] 2)).cell? ⟨w.heap.size + 1,0,none⟩=some (.int .i64 0)∧((w.alloc (.cells #[.map (some bL)] 211)).alloc (.cells #[.int .i64 0] 2)).frozen? ⟨w.heap.size + 1,0,none⟩=false∧w.heap.size + 1 < ((w.alloc (.cells #[.map (some bL)] 211)).alloc (.cells #[.int .i64 0] 2)).heap.size):=⟨by simp,by simp,by simp,by simp⟩;go_wp2_with fail;go_loopw [17] (fun i wr=>∃ k:Nat,k≤rs.length∧i=.int .i64 k∧Hid (ag w wr)∧Hid (wr.cell? ⟨w.heap.size,0,none⟩=some (.map (some bL))∧wr.cell? ⟨w.heap.size + 1,0,none⟩=some (.int .i64 ((dA rs k).length:Int))∧wr.frozen? ⟨w.heap.size + 1,0,none⟩=false∧w.heap.size + 1 < wr.heap.size)) (fun i _=>rs.length - (intOf i).toNat);case atStart=>exact ⟨0,TW _,rfl,HB0,VD⟩
 clear HB0 VD;obtain ⟨k,hk,rfl,HB,HC⟩:=hrel;obtain ⟨c0,c1,c2,c3⟩:=HC.out;have hu:=wC rs Yx.out k;by_cases hlt:k < rs.length
 ·rcases HS.out.below HB.out with rfl | ⟨b,off,rfl,hb,hr,-⟩
  ·simp at hlt
  obtain ⟨t0,t1⟩:=hr k hlt;have hk1:=bB k;have hk2:(k:Int) < (rs.length:Int):=by omega
  have h6:=Yx.out _ (TQ hlt);have Vk:Hid ((dA rs (k + 1)).length=(dA rs k).length + rs[k].rows.length):=by show _=_; rw [o6 _ _ hlt,T9]; simp [iV]
  obtain ⟨cn,hcn⟩:∃ cn,cn=(dA rs k).length:=⟨_,rfl⟩;rw [← hcn] at c1 hu Vk;have HB1:Hid (ag w ((wr.setCell ⟨w.heap.size + 1,0,none⟩ (.int .i64 ((cn:Int) + (rs[k].rows.length:Int)))).alloc (.cells #[.string rs[k].name,.slice rs[k].ad rs[k].rows.length rs[k].cap] 127))):=(HB.out.setCell (p:=⟨w.heap.size + 1,0,none⟩) (by simp) _).alloc (by simpa using HB.out.size) _;have VE:Hid (((wr.setCell ⟨w.heap.size + 1,0,none⟩ (.int .i64 ((cn:Int) + (rs[k].rows.length:Int)))).alloc (.cells #[.string rs[k].name,.slice rs[k].ad rs[k].rows.length rs[k].cap] 127)).cell? ⟨w.heap.size,0,none⟩=some (.map (some bL))∧((wr.setCell ⟨w.heap.size + 1,0,none⟩ (.int .i64 ((cn:Int) + (rs[k].rows.length:Int)))).alloc (.cells #[.string rs[k].name,.slice rs[k].ad rs[k].rows.length rs[k].cap] 127)).cell? ⟨w.heap.size + 1,0,none⟩=some (.int .i64 ((dA rs (k + 1)).length:Int))∧((wr.setCell ⟨w.heap.size + 1,0,none⟩ (.int .i64 ((cn:Int) + (rs[k].rows.length:Int)))).alloc (.cells #[.string rs[k].name,.slice rs[k].ad rs[k].rows.length rs[k].cap] 127)).frozen? ⟨w.heap.size + 1,0,none⟩=false∧w.heap.size + 1 < ((wr.setCell ⟨w.heap.size + 1,0,none⟩ (.int .i64 ((cn:Int) + (rs[k].rows.length:Int)))).alloc (.cells #[.string rs[k].name,.slice rs[k].ad rs[k].rows.length rs[k].cap] 127)).heap.size):=by
   obtain ⟨X,hX⟩:∃ X,X=wr.setCell ⟨w.heap.size + 1,0,none⟩ (.int .i64 ((cn:Int) + (rs[k].rows.length:Int))):=⟨_,rfl⟩;have hXs:X.heap.size=wr.heap.size:=by rw [hX]; simp
   have hB:ag X (X.alloc (.cells #[.string rs[k].name,.slice rs[k].ad rs[k].rows.length rs[k].cap] 127)):=(TT _ _).alloc (TS _) _;rw [← hX];refine ⟨aG hB (by omega) (by rw [hX,xw (by omega)]; exact c0),aG hB (by omega) (by rw [hX,Vk.out]; push_cast; exact xq c1),?_,by simp; omega⟩;rw [hB.frozen (p:=⟨w.heap.size + 1,0,none⟩) (by simp; omega),hX];simpa using c2
  clear hr hcn HC;go_wp2;go_roundw;case rel=>exact ⟨k + 1,by omega,by go_num,HB1,VE⟩
  simp [intOf] <;> omega
 obtain rfl:k=rs.length:=by omega
 have hEN:dA rs rs.length=ak (ae rs):=by unfold dA; rw [Ug]
 rw [hEN] at c1 hu;obtain ⟨N,hN⟩:∃ N,N=(ak (ae rs)).length:=⟨_,rfl⟩;rw [← hN] at c1 hu;have Wx:Hid (N=(ak (ae rs)).length):=hN;have HEN:Hid (dA rs rs.length=ak (ae rs)):=hEN;have hN36:N≤36:=by omega
 have hbl:=Yq.out;have hwr:w.heap.size≤wr.heap.size:=HB.out.size;obtain ⟨W0,hW0⟩:∃ W0,W0=(((wr.alloc (.map #[] 0)).alloc (.cells #[.map (some wr.heap.size)] 153)).alloc (.cells #[(.func (Fn.func 186) #[] #[.pointer (some ⟨wr.heap.size + 1,0,none⟩),.pointer (some ⟨w.heap.size + 1,0,none⟩),.pointer (some ⟨w.heap.size,0,none⟩),.pointer (some ⟨wr.heap.size + 1 + 1,0,none⟩)])] 270)):=⟨_,rfl⟩;have hal:ag wr W0:=by
  rw [hW0]
  repeat (first | exact TT _ _ | refine Below.alloc ?_ (by first | (simp; done) | (simp; omega)) _)
 have hs0:W0.heap.size=wr.heap.size + 3:=by rw [hW0]; simp
 have HRW:Hid (Rw W0 (wr.heap.size + 1) (w.heap.size + 1) w.heap.size (wr.heap.size + 1 + 1) wr.heap.size bL N 0 nL ML E (fun _=>none)):=by
  have hGr:Grp wr bL nL ML E:=HG.out.below HB.out;have hMV:aM dQ prog 94 W0 wr.heap.size 0 (iW (fun _=>none)):=by
   have h1:=nM dQ prog 94 wr;have e1:iW (fun _=>none)=fun _=>none:=by funext k; rfl
   rw [e1];refine h1.below ?_;rw [hW0]
   repeat (first | exact TT _ _ | refine Below.alloc ?_ (by first | (simp; done) | (simp; omega)) _)
  have hcS:W0.cell? ⟨wr.heap.size + 1,0,none⟩=some (.map (some wr.heap.size)):=by
   rw [hW0];exact aG ((TT _ _).alloc (TS _) _) (by simp) (Nr wr _ _ _ 0 rfl)
  have hcR:W0.cell? ⟨wr.heap.size + 1 + 1,0,none⟩=some (ES (wr.heap.size + 1) (w.heap.size + 1) w.heap.size (wr.heap.size + 1 + 1)):=by
   rw [hW0];exact RY _ _ _ _ _ _ rfl
  exact ⟨hcS,aG hal (by omega) c1,aG hal (by omega) c0,hcR,by omega,by omega,by omega,by omega,hMV,hGr.below hal,by omega,hGr.fresh (TS _)⟩
 have HB0:=jP HB hal;clear hu hEN hN hal HC;go_wp2_with fail;rw [← hW0];clear hW0 c0 c1 c2 c3 HB;obtain ⟨bS,hbS⟩:∃ bS,bS=wr.heap.size:=⟨_,rfl⟩;obtain ⟨gS,hgS⟩:∃ gS,gS=wr.heap.size + 1:=⟨_,rfl⟩;obtain ⟨gR,hgR⟩:∃ gR,gR=wr.heap.size + 1 + 1:=⟨_,rfl⟩;obtain ⟨gC,hgC⟩:∃ gC,gC=w.heap.size + 1:=⟨_,rfl⟩;obtain ⟨gL,hgL⟩:∃ gL,gL=w.heap.size:=⟨_,rfl⟩;have hb1:w.heap.size≤bS:=by omega
 have HRW2:Hid (Rw W0 gS gC gL gR bS bL N 0 nL ML E (fun _=>none)):=by rw [hbS,hgS,hgR,hgC,hgL]; exact HRW
 have HI0:Hid (∃ (σ:Ky→Option Int) (n:Nat),Rw W0 gS gC gL gR bS bL N n nL ML E σ∧Rz (ae rs) N σ∧(n:Int) + oz N σ (ak (ae rs))≤2000∧Raised E (fun _=>none) σ∧∀ key ∈ dA rs 0,∃ x,σ key=some x):=by
  refine ⟨fun _=>none,0,HRW2.out,⟨fun k x h=>by cases h⟩,?_,Raised.refl _ _,fun k hk=>by simp [dA,ae,ak] at hk⟩;rw [Pp,← Wx.out];have h1:(N:Int) * N≤36 * 36:=Int.mul_le_mul (by omega) (by omega) (by omega) (by omega)
  push_cast; omega
 rw [← hgR,← hgS,← hbS,← hgC,← hgL];clear HRW HRW2 hs0 hmm hgR hgS hbS hgC hgL;go_loopw [31] (fun i w2=>∃ k:Nat,k≤rs.length∧i=.int .i64 k∧Hid (ag w w2)∧Hid (∃ (σ:Ky→Option Int) (n:Nat),Rw w2 gS gC gL gR bS bL N n nL ML E σ∧Rz (ae rs) N σ∧(n:Int) + oz N σ (ak (ae rs))≤2000∧Raised E (fun _=>none) σ∧∀ key ∈ dA rs k,∃ x,σ key=some x)) (fun i _=>rs.length - (intOf i).toNat);case atStart=>exact ⟨0,TW _,rfl,HB0,HI0⟩
 clear HB0 HI0;obtain ⟨k,hk,rfl,HB,HI⟩:=hrel;by_cases hlt:k < rs.length
 ·rcases HS.out.below HB.out with rfl | ⟨b,off,rfl,hb,hr,-⟩
  ·simp at hlt
  obtain ⟨t0,t1⟩:=hr k hlt;have hk1:=bB k;have hk2:(k:Int) < (rs.length:Int):=by omega
  have h6:=Yx.out _ (TQ hlt);obtain ⟨W1,hW1⟩:∃ W1,W1=wr.alloc (.cells #[.string rs[k].name,.slice rs[k].ad rs[k].rows.length rs[k].cap] 127):=⟨_,rfl⟩;have hal:ag wr W1:=by rw [hW1]; exact (TT _ _).alloc (TS _) _
  obtain ⟨g12,Xb⟩:∃ g12,g12=wr.heap.size:=⟨_,rfl⟩;have hbw:bS < wr.heap.size:=by obtain ⟨σ,n,hR,-⟩:=HI.out; exact hR.map.lt
  have HC12:Hid (W1.cell? ⟨g12,0,none⟩=some (.string rs[k].name)∧g12 < W1.heap.size∧g12 ≠ bS):=⟨by rw [hW1,Xb]; simp,by rw [hW1,Xb]; simp,by omega⟩;have HB1:=jP HB hal;have HI1:Hid (∃ (σ:Ky→Option Int) (n:Nat),Rw W1 gS gC gL gR bS bL N n nL ML E σ∧Rz (ae rs) N σ∧(n:Int) + oz N σ (ak (ae rs))≤2000∧Raised E (fun _=>none) σ∧∀ key ∈ dA rs k,∃ x,σ key=some x):=by
   obtain ⟨σ,n,hR,h2⟩:=HI.out;exact ⟨σ,n,hR.below hal,h2⟩
  clear hr hal HI HB;go_wp2_with fail;rw [← hW1,← Xb];clear hW1 t0 t1 Xb;go_loopw [38] (fun i w3=>∃ j:Nat,j≤rs[k].rows.length∧i=.int .i64 j∧Hid (ag w w3)∧Hid (w3.cell? ⟨g12,0,none⟩=some (.string rs[k].name)∧g12 < w3.heap.size∧g12 ≠ bS)∧Hid (∃ (σ:Ky→Option Int) (n:Nat),Rw w3 gS gC gL gR bS bL N n nL ML E σ∧Rz (ae rs) N σ∧(n:Int) + oz N σ (ak (ae rs))≤2000∧Raised E (fun _=>none) σ∧∀ key ∈ dA rs k ++ iV rs[k] j,∃ x,σ key=some x)) (fun i _=>rs[k].rows.length - (intOf i).toNat);case atStart=>exact ⟨0,TW _,rfl,HB1,HC12,by simpa [iV] using HI1⟩
  clear HB1 HC12 HI1;obtain ⟨j,hj,rfl,HB,HC,HI⟩:=hrel;by_cases hjl:j < rs[k].rows.length
  ·rcases HS.out.below HB.out with hnil | ⟨b',off',he,hb2,hr,hok⟩
   ·rw [hnil] at hlt; simp at hlt
   injection he with he; injection he with he1 he2; subst he1; subst he2;have ok:=hok rs[k] (TQ hlt);rcases ok with hnil | ⟨b2,UZ,had,hbb,hr2,-⟩
   ·rw [hnil] at hjl; simp at hjl
   obtain ⟨q0,q1⟩:=hr2 j hjl;have hj1:=bB j;have hj2:(j:Int) < (rs[k].rows.length:Int):=by omega
   obtain ⟨σ,n,hR,hZ,hn,ZX,hall⟩:=HI.out;obtain ⟨x0,x1,x2⟩:=HC.out;have cR:=hR.cR;unfold ES at cR;have lR:=hR.lR.1;obtain ⟨W3,hW3⟩:∃ W3,W3=wr.alloc (.cells #[.string rs[k].rows[j].name,.slice rs[k].rows[j].ad rs[k].rows[j].rows.length rs[k].rows[j].cap] 147):=⟨_,rfl⟩;have hal:ag wr W3:=by rw [hW3]; exact (TT _ _).alloc (TS _) _
   have HR3:=az (hR.below hal);have HZ3:=az hZ;have HB3:=jP HB hal;have Xv:Hid (W3.cell? ⟨g12,0,none⟩=some (.string rs[k].name)∧g12 < W3.heap.size∧g12 ≠ bS):=⟨aG hal x1 x0,TP x1 hal.size,x2⟩;have Xg:Hid (Raised E (fun _=>none) σ):=ZX;have UN:Hid (∀ key ∈ dA rs k ++ iV rs[k] j,∃ x,σ key=some x):=hall;have hmp:=hZ.mu_pos (ak (ae rs));have HKM:Hid ((rs[k].name,rs[k].rows[j].name) ∈ ak (ae rs)):=qD.2 ⟨rs[k].p,List.mem_map_of_mem (TQ hlt),rs[k].rows[j].p,List.mem_map_of_mem (TQ hjl),rfl⟩;rw [had];clear hr hok hr2 hal hR hZ ZX hall HI HB HC;go_wp2_with fail;rw [← hW3];clear hW3 q0 q1 cR x0;refine (Mv (ae rs) gS gC gL gR bS bL N nL ML E HE.out HF.out Wx.out hN36 (MB UL.out) hEl (oz N σ (ak (ae rs))).toNat _ σ n (rs[k].name,rs[k].rows[j].name) 0 HR3.out HZ3.out (by omega) (by omega) HKM.out (by omega) (by omega) (qz.zero _ _)).mono ?_;rintro e w5 ⟨ok,σ5,n5,rfl,hg5,UU,hZ5,Y8,WV,hf5,ht5⟩;have VQ:Hid (ag w w5):=HB3.out.grown hg5 HB3.out.size (fun i hi=>by injection hi with hi; omega);cases ok;case false=>
    have HP:Hid (Po (ae rs) w (.returned (.tuple #[.map none,.bool false])) w5):=⟨.inr ⟨rfl,hf5 rfl⟩,VQ.out⟩;clear hg5 UU hZ5 Y8 WV hf5 ht5;go_wp2;refine bodyPost_ret (v:=.tuple #[.map none,.bool false]) ?_ rfl HP.out;simp [results,Tryz.results133,go_sem]
   have HI5:Hid (∃ (σ:Ky→Option Int) (n:Nat),Rw w5 gS gC gL gR bS bL N n nL ML E σ∧Rz (ae rs) N σ∧(n:Int) + oz N σ (ak (ae rs))≤2000∧Raised E (fun _=>none) σ∧∀ key ∈ dA rs k ++ iV rs[k] (j + 1),∃ x,σ key=some x):=by
    obtain ⟨ZX,y,hy,-⟩:=ht5 rfl;refine ⟨σ5,n5,UU,hZ5,by omega,Xg.out.trans ZX,fun key hk=>?_⟩;rw [tC _ _ hjl,← List.append_assoc] at hk;rcases Uc.1 hk with hk | hk
    ·obtain ⟨x,hx⟩:=UN.out key hk;obtain ⟨z,hz,-⟩:=ZX.mono key x hx;exact ⟨z,hz⟩
    simp at hk; subst hk; exact ⟨y,hy⟩
   have Wy:Hid (w5.cell? ⟨g12,0,none⟩=some (.string rs[k].name)∧g12 < w5.heap.size∧g12 ≠ bS):=⟨(kD hg5 Xv.out.2 0).trans Xv.out.1,TP Xv.out.2.1 hg5.size,Xv.out.2.2⟩;clear hg5 UU hZ5 Y8 WV hf5 ht5;go_wp2;go_roundw;case rel=>exact ⟨j + 1,by omega,by go_num,VQ,Wy,HI5⟩
   simp [intOf] <;> omega
  obtain rfl:j=rs[k].rows.length:=by omega
  have HI5:Hid (∃ (σ:Ky→Option Int) (n:Nat),Rw wr gS gC gL gR bS bL N n nL ML E σ∧Rz (ae rs) N σ∧(n:Int) + oz N σ (ak (ae rs))≤2000∧Raised E (fun _=>none) σ∧∀ key ∈ dA rs (k + 1),∃ x,σ key=some x):=by rw [o6 _ _ hlt]; exact HI
  clear HI;go_wp2;go_roundw;case rel=>exact ⟨k + 1,by omega,by go_num,HB,HI5⟩
  simp [intOf] <;> omega
 obtain rfl:k=rs.length:=by omega
 obtain ⟨σ,n,hR,hZ,hn,ZX,hall⟩:=HI.out;have cS:=hR.cS;have HP:Hid (Po (ae rs) w (.returned (.tuple #[.map (some bS),.bool true])) wr):=by
  rw [HEN.out] at hall;refine ⟨.inl ⟨bS,n,σ,rfl,hR.map,EP HE.out HF.out hZ hall (fun k=>ZX.done k (.inl (fun x h=>by cases h))),fun k=>⟨fun ⟨x,hx⟩=>(hZ.there k x hx).1,hall k⟩⟩,HB.out⟩
 clear hR hZ hn ZX hall HI;go_wp2;refine bodyPost_ret (v:=.tuple #[.map (some bS),.bool true]) ?_ rfl HP.out;simp [results,Tryz.results133,go_sem]
def GM (ts:List Ty) (w:World) (e:Ending) (w':World):Prop :=
 ((∃ (b n:Nat) (σ:Ky→Option Int),e=.returned (.tuple #[.map (some b),.bool true])∧bR ts∧aM dQ prog 94 w' b n (iW σ)∧Least ts (fun k=>(σ k).getD 0)∧∀ k,(∃ x,σ k=some x) ↔ k ∈ ak ts) ∨ (e=.returned (.tuple #[.map none,.bool false])∧¬ bR ts))∧ag w w'
set_option maxRecDepth 100000 in
theorem vL (ad:Option Addr) (cap:Nat) (rs:List TR) (w:af) (hlen:rs.length≤1048576) (hs:kW w ad rs) (hl:∀ r ∈ rs,r.light) (hf:∀ r ∈ rs,r.fits) (hcp:∀ r ∈ rs,r.caps) :
  Calls prog 91 #[.slice ad rs.length cap] w (GM (ae rs) w):=by
 have HS:=az hs;have HL:=az hl;have UL:=az hf;have WS:=az hcp;clear hs hl hf hcp;go_enter func91,ntmps91;go_wp2_with fail;refine (GL ad cap rs _ hlen HS.out HL.out UL.out WS.out).mono ?_;rintro e w1 ⟨rfl,hb1⟩;have HB1:=az hb1;clear hb1;cases hsh:bf (ae rs);case false=>
  have HP:Hid (GM (ae rs) w (.returned (.tuple #[.map none,.bool false])) w1):=⟨.inr ⟨rfl,fun h=>by rw [h.1] at hsh; cases hsh⟩,HB1.out⟩;go_wp2;refine bodyPost_ret (v:=.tuple #[.map none,.bool false]) ?_ rfl HP.out;simp [results,Tryz.results91,go_sem]
 have HSH:Hid (bf (ae rs)=true):=hsh;obtain ⟨h6,We,hex⟩:=bq hsh;have V5:Hid (∀ r ∈ rs,r.rows.length≤6):=We;have Zu:Hid (∀ r ∈ rs,∀ q ∈ r.rows,aK (aj q.rows)=true∧q.rows.length≤15∧∀ e ∈ q.rows,dV q.rows.length e.e.kids):=hex;have HT:Hid (Tab rs (nW rs)):=wD hsh;clear hsh We hex;go_wp2_with fail;refine (qF ad cap rs _ h6 (HS.out.below HB1.out) V5.out UL.out).mono ?_;rintro e w2 ⟨rfl,hV2,hb2⟩;have HB2:=jP HB1 hb2;obtain ⟨bT,hbT⟩:∃ bT,bT=w1.heap.size:=⟨_,rfl⟩;rw [← hbT] at hV2 ⊢;have YZ:Hid (aM dQ prog 94 w2 bT 36 (nW rs)):=hV2;clear hV2 hb2 hbT HB1;go_wp2_with fail;go_loopw [16] (fun i wr=>∃ k:Nat,k≤rs.length∧i=.int .i64 k∧Hid (((ae rs).take k).all (qB (ae rs))=true)∧Hid (ag w wr)∧Hid (aM dQ prog 94 wr bT 36 (nW rs))) (fun i _=>rs.length - (intOf i).toNat);case atStart=>exact ⟨0,TW _,rfl,(by show _=_; simp),HB2,YZ⟩
 clear HB2 YZ;obtain ⟨k,hk,rfl,HP,HB,HV⟩:=hrel;by_cases hlt:k < rs.length
 ·rcases HS.out.below HB.out with rfl | ⟨b,off,rfl,hb,hr,-⟩
  ·simp at hlt
  obtain ⟨t0,t1⟩:=hr k hlt;have hk1:=bB k;have hk2:(k:Int) < (rs.length:Int):=by omega
  have h66:=V5.out _ (TQ hlt);have z0:rs[k].name.size≤maxLen:=(UL.out _ (TQ hlt)).1;obtain ⟨W1,hW1⟩:∃ W1,W1=wr.alloc (.cells #[.string rs[k].name,.slice rs[k].ad rs[k].rows.length rs[k].cap] 127):=⟨_,rfl⟩;have hal:ag wr W1:=by rw [hW1]; exact (TT _ _).alloc (TS _) _
  obtain ⟨g6,XV⟩:∃ g6,g6=wr.heap.size:=⟨_,rfl⟩;have VE:Hid (W1.cell? ⟨g6,0,none⟩=some (.string rs[k].name)∧g6 < W1.heap.size):=⟨by rw [hW1,XV]; simp,by rw [hW1,XV]; simp⟩;have HB1:=jP HB hal;have HV1:=az (HV.out.below hal);clear hr hal HB HV;go_wp2_with fail;rw [← hW1,← XV];clear hW1 t0 t1 XV;go_loopw [23] (fun i w3=>∃ j:Nat,j≤rs[k].rows.length∧i=.int .i64 j∧Hid (((eD rs[k].rows).take j).all (fun r=>aR (ae rs) rs[k].name r.expr)=true)∧Hid (ag w w3)∧Hid (aM dQ prog 94 w3 bT 36 (nW rs))∧Hid (w3.cell? ⟨g6,0,none⟩=some (.string rs[k].name)∧g6 < w3.heap.size)) (fun i _=>rs[k].rows.length - (intOf i).toNat);case atStart=>exact ⟨0,TW _,rfl,(by show _=_; simp),HB1,HV1,VE⟩
  clear HB1 HV1 VE;obtain ⟨j,hj,rfl,HR,HB,HV,HC⟩:=hrel;by_cases hjl:j < rs[k].rows.length
  ·rcases HS.out.below HB.out with hnil | ⟨b',off',he,hb2,hr,hok⟩
   ·rw [hnil] at hlt; simp at hlt
   injection he with he; injection he with he1 he2; subst he1; subst he2;have ok:=hok rs[k] (TQ hlt);rcases ok with hnil | ⟨b2,UZ,had,hbb,hr2,hok2⟩
   ·rw [hnil] at hjl; simp at hjl
   obtain ⟨q0,q1⟩:=hr2 j hjl;have WA:Hid (iH wr rs[k].rows[j].ad rs[k].rows[j].rows):=hok2 _ (TQ hjl);have WE:Hid (rs[k].rows[j].light):=(HL.out _ (TQ hlt)).2 _ (TQ hjl);have WH:Hid (rs[k].rows[j].fits):=(UL.out _ (TQ hlt)).2.2 _ (TQ hjl);have HNB:Hid (∀ q ∈ rs[k].rows[j].rows,av q.e=true):=fun q hq=>jm (Zu.out _ (TQ hlt) _ (TQ hjl)).1 q.e (by unfold aj; exact List.mem_map_of_mem hq);have hj1:=bB j;have hj2:(j:Int) < (rs[k].rows.length:Int):=by omega
   obtain ⟨x0,x1⟩:=HC.out;obtain ⟨W3,hW3⟩:∃ W3,W3=wr.alloc (.cells #[.string rs[k].rows[j].name,.slice rs[k].rows[j].ad rs[k].rows[j].rows.length rs[k].rows[j].cap] 147):=⟨_,rfl⟩;have hal:ag wr W3:=by rw [hW3]; exact (TT _ _).alloc (TS _) _
   have HB3:=jP HB hal;have HV3:=az (HV.out.below hal);have UN:=az hal;have Xv:Hid (W3.cell? ⟨g6,0,none⟩=some (.string rs[k].name)∧g6 < W3.heap.size):=⟨aG hal x1 x0,TP x1 hal.size⟩;have HTS:Hid ((eD rs[k].rows).take (j + 1)=(eD rs[k].rows).take j ++ [rs[k].rows[j].p]):=GH rs[k].rows j hjl;rw [had];clear hr hok hr2 hok2 hal HB HV HC;go_wp2_with fail;rw [← hW3];clear hW3 q0 q1 x0 x1;refine (Ad (some ⟨b,off,none⟩) rs[k].rows[j].ad cap rs[k].rows[j].cap rs bT 36 (nW rs) rs[k].name rs[k].rows[j].rows _ hlen (HS.out.below HB3.out) HL.out UL.out HV3.out HT.out z0 WE.out.1 (WA.out.below UN.out) WE.out.2 WH.out.2.2 HNB.out).mono ?_;rintro e w5 ⟨rfl,hb5⟩;have VQ:=jP HB3 hb5;have HV5:=az (HV3.out.below hb5);have Wy:Hid (w5.cell? ⟨g6,0,none⟩=some (.string rs[k].name)∧g6 < w5.heap.size):=⟨aG hb5 Xv.out.2 Xv.out.1,TP Xv.out.2 hb5.size⟩;clear hb5;cases hrf:aR (ae rs) rs[k].name (aj rs[k].rows[j].rows);case false=>
    have HPO:Hid (GM (ae rs) w (.returned (.tuple #[.map none,.bool false])) w5):=by
     refine ⟨.inr ⟨rfl,fun hs=>?_⟩,VQ.out⟩;have h1:=hs.2.1;unfold iD at h1;rw [Ub] at h1;have h2:=h1 rs[k].p (by unfold ae; exact List.mem_map_of_mem (TQ hlt));unfold qB at h2;rw [Ub] at h2;have h3:=h2 rs[k].rows[j].p (by show _ ∈ eD rs[k].rows; unfold eD; exact List.mem_map_of_mem (TQ hjl));have h4:aR (ae rs) rs[k].name (aj rs[k].rows[j].rows)=true:=h3;rw [hrf] at h4; cases h4
    go_wp2;refine bodyPost_ret (v:=.tuple #[.map none,.bool false]) ?_ rfl HPO.out;simp [results,Tryz.results91,go_sem]
   have VZ:Hid (((eD rs[k].rows).take (j + 1)).all (fun r=>aR (ae rs) rs[k].name r.expr)=true):=by
    show _=_;rw [HTS.out,List.all_append,HR.out];have:aR (ae rs) rs[k].name rs[k].rows[j].p.expr=true:=hrf;simp [this]
   go_wp2;go_roundw;case rel=>exact ⟨j + 1,by omega,by go_num,VZ,VQ,HV5,Wy⟩
   simp [intOf] <;> omega
  obtain rfl:j=rs[k].rows.length:=by omega
  have HPN:Hid (((ae rs).take (k + 1)).all (qB (ae rs))=true):=by
   show _=_;rw [GG rs k hlt,List.all_append,HP.out];have h1:=HR.out;rw [← q9,Ug] at h1;have:qB (ae rs) rs[k].p=true:=h1;simp [this]
  go_wp2;go_roundw;case rel=>exact ⟨k + 1,by omega,by go_num,HPN,HB,HV⟩
  simp [intOf] <;> omega
 obtain rfl:k=rs.length:=by omega
 have Xg:Hid (iD (ae rs)=true):=by
  have h1:=HP.out;rw [← kX,Ug] at h1;exact h1
 go_wp2_with fail;refine (BL ad cap rs bT 36 (nW rs) _ h6 (HS.out.below HB.out) HL.out UL.out V5.out (fun r hr q hq=>(Zu.out r hr q hq).2) (Pn HSH.out) HV.out HT.out).mono ?_;rintro e w5 ⟨rfl,⟨nL,ML,hG5⟩,hb5⟩;have VQ:=jP HB hb5;have HG5:Hid (Grp w5 wr.heap.size nL ML (jk (ae rs) rs)):=hG5;clear hG5 hb5;go_wp2_with fail;refine (yt ad cap rs wr.heap.size nL ML (jk (ae rs) rs) _ h6 (HS.out.below VQ.out) UL.out V5.out HG5.out (QN HSH.out Xg.out) (kw Xg.out) (Mx rs V5.out Zu.out (Pn HSH.out))).mono ?_;rintro e w6 ⟨hL,hb6⟩;have WJ:=jP VQ hb6;clear hb6;rcases hL with ⟨bS,nS,σ,rfl,hM,Wl,hk⟩ | ⟨rfl,hno⟩
 ·have HPO:Hid (GM (ae rs) w (.returned (.tuple #[.map (some bS),.bool true])) w6):=⟨.inl ⟨bS,nS,σ,rfl,⟨HSH.out,Xg.out,_,Wl.sol⟩,hM,Wl,hk⟩,WJ.out⟩;clear hM Wl hk;go_wp2;refine bodyPost_ret (v:=.tuple #[.map (some bS),.bool true]) ?_ rfl HPO.out;simp [results,Tryz.results91,go_sem]
 have HPO:Hid (GM (ae rs) w (.returned (.tuple #[.map none,.bool false])) w6):=⟨.inr ⟨rfl,fun h=>hno h.2.2⟩,WJ.out⟩;clear hno;go_wp2;refine bodyPost_ret (v:=.tuple #[.map none,.bool false]) ?_ rfl HPO.out;simp [results,Tryz.results91,go_sem]
def sF (ts:List Ty) (oa ob r c d s:ByteArray):Bool:=dF (aU (aA ts oa r)) (aU (aA ts oa r)).length ⟨c,s⟩ && bI oa ob r c d s
theorem GN:∀ {es:List Ex} (a:Al),own es=0→es.any (nE a)=false
 | [],_,_=>rfl
 | e::es,a,h=>by
  by_cases h1:e.kind=1
  ·simp [own,h1] at h
  rw [List.any_cons,GN a (by simpa [own,h1] using h)];simp [nE,h1]
theorem GQ:∀ {es:List Ex} (a:Al),own es≤1→es.any (nE a)=dF (aU es) (aU es).length a
 | [],_,_=>rfl
 | e::es,a,h=>by
  by_cases h1:e.kind=1
  ·rw [List.any_cons,GN a (by simp [own,h1] at h; simpa [own] using h)];simp [nE,h1,aU]
  rw [List.any_cons,GQ a (by simpa [own,h1] using h)];simp [nE,h1,aU]
theorem MC {xs:List Al} {a:Al} {k:Nat} (h:k < xs.length) (hk:jS xs[k] a=true):dF xs xs.length a=true:=by
 unfold dF;rw [Ug,Uo];exact ⟨_,TQ h,hk⟩
def Dt (ts:List Ty) (oa ob r c d s:ByteArray):Bool:=aJ ts && sF ts oa ob r c d s
theorem SB {es:List Ex} (h:aK es=true):own es≤1:=by
 unfold aK at h; simp at h; omega
theorem QO {rs:List TR} (h:bR (ae rs)) (ty n:bF):own (aA (ae rs) ty n)≤1:=by
 unfold aA;cases e:fH (ae rs) ty n with
 | none=>simp [own]
 | some es =>
  obtain ⟨t,ht,q,hq,-,-,rfl⟩:=nX e;exact SB ((bq h.1).2.2 t ht q hq).1
set_option maxRecDepth 100000 in
theorem A8 (ad:Option Addr) (cap:Nat) (rs:List TR) (oa ob r c d s:bF) (w:af) (hlen:rs.length≤1048576) (hs:kW w ad rs) (hl:∀ r ∈ rs,r.light) (ha:oa.size≤maxLen) (hb:ob.size≤maxLen) (hr:r.size≤maxLen) (hc:c.size≤maxLen) (hd:d.size≤maxLen) (hz:s.size≤maxLen) :
  Calls prog 94 #[.slice ad rs.length cap,.agg #[.string oa,.string ob,.string r,.string c,.string d,.string s]] w fun e w'=>e=.returned (.bool (sF (ae rs) oa ob r c d s))∧ag w w':=by
 have HS:=az hs;have HL:=az hl;clear hs hl;obtain ⟨W0,hW0⟩:∃ W0,W0=w.alloc (.cells #[.string oa,.string ob,.string r,.string c,.string d,.string s] 46):=⟨_,rfl⟩;have hal:ag w W0:=by rw [hW0]; exact (TT _ _).alloc (TS _) _
 have HB0:=az hal;have VD:Hid (W0.cell? ⟨w.heap.size,0,none⟩=some (.string oa)∧W0.cell? ⟨w.heap.size,1,none⟩=some (.string ob)∧W0.cell? ⟨w.heap.size,2,none⟩=some (.string r)∧W0.cell? ⟨w.heap.size,3,none⟩=some (.string c)∧W0.cell? ⟨w.heap.size,4,none⟩=some (.string d)∧W0.cell? ⟨w.heap.size,5,none⟩=some (.string s)∧w.heap.size < W0.heap.size):=by
  show _∧_;rw [hW0]; refine ⟨?_,?_,?_,?_,?_,?_,?_⟩ <;> simp
 clear hal;go_enter func94,ntmps94;go_wp2_with fail;rw [← hW0];clear hW0;refine (jd ad cap rs oa r _ hlen (HS.out.below HB0.out) HL.out).mono ?_;rintro e w1 ⟨⟨rows,UC,capE,rfl,hex,hse,hfr⟩,hw1⟩;replace hw1:=hw1.symm;subst hw1;have HX:Hid (aj rows=aA (ae rs) oa r):=hex;have WA:=az hse;have Vj:=hfr.light HL.out;have hrl:rows.length≤1048576:=Vj.1;have WE:Hid (∀ q ∈ rows,q.e.light):=Vj.2;clear hex hse hfr Vj;go_wp2_with fail;refine (xy UC capE rows _ hrl WA.out).mono ?_;rintro e w1 ⟨⟨adA,capA,rfl,hsa,hfa⟩,hw1⟩;replace hw1:=hw1.symm;subst hw1;obtain ⟨xs,hxs⟩:∃ xs,xs=aU (aj rows):=⟨_,rfl⟩;rw [← hxs] at hsa hfa ⊢;have Wj:Hid (xs=aU (aA (ae rs) oa r)):=by rw [← HX.out]; exact hxs
 have HSA:=az hsa;have hxl:xs.length≤1048576:=by
  rcases hfa with h | ⟨q,hq,h,-⟩
  ·rw [h]; simp
  rw [h]; exact (WE.out q hq).1
 clear hxs hsa hfa WE WA HX;go_wp2;go_loopw [6] (fun i wr=>∃ k:Nat,k≤xs.length∧i=.int .i64 k∧Hid (dF xs k ⟨c,s⟩=false)∧Hid (ag W0 wr)) (fun i _=>xs.length - (intOf i).toNat);case atStart=>exact ⟨0,TW _,rfl,sQ _ _,TT _ _⟩
 obtain ⟨k,hk,rfl,HP,HB⟩:=hrel;have UG:Hid (ag w wr):=HB0.out.trans (HB.out.mono HB0.out.size);by_cases hlt:k < xs.length
 ·rcases HSA.out.below HB.out with hnil | ⟨b,off,rfl,hb5,Y3⟩
  ·rw [hnil] at hlt; simp at hlt
  obtain ⟨t0,t1⟩:=Y3 k hlt;have hk1:=bB k;have hk2:(k:Int) < (xs.length:Int):=by omega
  have hwl:w.heap.size < wr.heap.size:=TP VD.out.2.2.2.2.2.2 HB.out.size;have c0:=aG HB.out VD.out.2.2.2.2.2.2 VD.out.1;have c1:=aG HB.out VD.out.2.2.2.2.2.2 VD.out.2.1;have c2:=aG HB.out VD.out.2.2.2.2.2.2 VD.out.2.2.1;have c3:=aG HB.out VD.out.2.2.2.2.2.2 VD.out.2.2.2.1;have c4:=aG HB.out VD.out.2.2.2.2.2.2 VD.out.2.2.2.2.1;have c5:=aG HB.out VD.out.2.2.2.2.2.2 VD.out.2.2.2.2.2.1;have Zm:Hid (dF xs (k + 1) ⟨c,s⟩=jS xs[k] ⟨c,s⟩):=by show _=_; rw [sP _ _ _ hlt,HP.out]; rfl
  clear Y3;go_wp2_with fail;cases h1:(xs[k].t.toList == c.toList);case false=>
   refine nz 19 (fun n=>(u21::u22::u23::u24::u25::u26::u27::u28::u29::u30::u31::u32::u33::u34::u35::u36::u37::u38::u39::[]).getD n undef) (fun fq=>{ tmps:=List.toArray (Value.slice ad rs.length cap::.agg #[.string oa,.string ob,.string r,.string c,.string d,.string s]::undef::.pointer (some ⟨w.heap.size,0,none⟩)::u4::.slice (some ⟨b,off,none⟩) xs.length capA::.int .i64 k::.slice ad rs.length cap::.pointer (some ⟨w.heap.size,0,none⟩)::.pointer (some ⟨w.heap.size,0,none⟩)::.string oa::.pointer (some ⟨w.heap.size,2,none⟩)::.string r::.slice UC rows.length capE::.slice (some ⟨b,off,none⟩) xs.length capA::.int .i64 k::.slice (some ⟨b,off,none⟩) xs.length capA::.int .i64 xs.length::.bool true::u19::u20::fq 0::fq 1::fq 2::fq 3::fq 4::fq 5::fq 6::fq 7::fq 8::fq 9::fq 10::fq 11::fq 12::fq 13::fq 14::fq 15::fq 16::fq 17::fq 18::u40::u41::[]),defers:=[] }) (fun n v _=>v=(Value.slice (some ⟨b,off,none⟩) xs.length capA::.int .i64 k::.pointer (some ⟨b,off + k * 2,none⟩)::.pointer (some ⟨b,off + k * 2,none⟩)::.string xs[k].t::.pointer (some ⟨w.heap.size,3,none⟩)::.pointer (some ⟨w.heap.size,3,none⟩)::.string c::.bool false::.bool false::undef::undef::undef::undef::undef::undef::undef::undef::.bool false::[]).getD n undef) (fun w'=>ag wr w') (by kernel_rfl) rfl (by kernel_rfl) rfl (TT _ _).drew ?stepA ?finA;case stepA =>
    rintro i hi o ho fq w' hG hpre;have HG:Hid (ag wr w'):=hG;replace t0:=aG hG hb5 t0;replace t1:=aG hG hb5 t1;replace c3:=aG hG hwl c3;replace c5:=aG hG hwl c5;have HM:Hid (∀ e ∈ o.after,Region.binds .any e=true→_):=hpre;clear hG hpre;have hc:=J4 (i:=i) (by omega);clear hi
    repeat' rcases hc with rfl | hc
    iterate 19
     ·cases ho;have hm:=HM.out
      try simp [Region.binds] at hm
      refine aa rfl fun K HK=>?_;clear HM
      try simp only [hm]
      go_simp;exact HK.out _ _ ⟨_,by simp [upd, *],HG.out,rfl,fun k u hu=>hu⟩
   case finA =>
    rintro fq w' hG hall;have e18:fq 18=.bool false:=hall 18 (by omega);have HG:Hid (ag wr w'):=hG;clear hall;clear hG;have HB2:Hid (ag W0 w'):=HB.out.trans (HG.out.mono HB.out.size);have UI:Hid (dF xs (k + 1) ⟨c,s⟩=false):=by show _=_; rw [Zm.out]; simp [jS,h1]
    rw [e18];go_wp2;go_roundw;case rel=>exact ⟨k + 1,by omega,by go_num,UI,HB2⟩
    simp [intOf] <;> omega
  cases h2:(xs[k].s.toList == s.toList);case false=>
   refine nz 19 (fun n=>(u21::u22::u23::u24::u25::u26::u27::u28::u29::u30::u31::u32::u33::u34::u35::u36::u37::u38::u39::[]).getD n undef) (fun fq=>{ tmps:=List.toArray (Value.slice ad rs.length cap::.agg #[.string oa,.string ob,.string r,.string c,.string d,.string s]::undef::.pointer (some ⟨w.heap.size,0,none⟩)::u4::.slice (some ⟨b,off,none⟩) xs.length capA::.int .i64 k::.slice ad rs.length cap::.pointer (some ⟨w.heap.size,0,none⟩)::.pointer (some ⟨w.heap.size,0,none⟩)::.string oa::.pointer (some ⟨w.heap.size,2,none⟩)::.string r::.slice UC rows.length capE::.slice (some ⟨b,off,none⟩) xs.length capA::.int .i64 k::.slice (some ⟨b,off,none⟩) xs.length capA::.int .i64 xs.length::.bool true::u19::u20::fq 0::fq 1::fq 2::fq 3::fq 4::fq 5::fq 6::fq 7::fq 8::fq 9::fq 10::fq 11::fq 12::fq 13::fq 14::fq 15::fq 16::fq 17::fq 18::u40::u41::[]),defers:=[] }) (fun n v _=>v=(Value.slice (some ⟨b,off,none⟩) xs.length capA::.int .i64 k::.pointer (some ⟨b,off + k * 2,none⟩)::.pointer (some ⟨b,off + k * 2,none⟩)::.string xs[k].t::.pointer (some ⟨w.heap.size,3,none⟩)::.pointer (some ⟨w.heap.size,3,none⟩)::.string c::.bool true::.bool true::.slice (some ⟨b,off,none⟩) xs.length capA::.int .i64 k::.pointer (some ⟨b,off + k * 2,none⟩)::.pointer (some ⟨b,off + k * 2 + 1,none⟩)::.string xs[k].s::.pointer (some ⟨w.heap.size,5,none⟩)::.string s::.bool false::.bool false::[]).getD n undef) (fun w'=>ag wr w') (by kernel_rfl) rfl (by kernel_rfl) rfl (TT _ _).drew ?xW ?finB;case xW =>
    rintro i hi o ho fq w' hG hpre;have HG:Hid (ag wr w'):=hG;replace t0:=aG hG hb5 t0;replace t1:=aG hG hb5 t1;replace c3:=aG hG hwl c3;replace c5:=aG hG hwl c5;have HM:Hid (∀ e ∈ o.after,Region.binds .any e=true→_):=hpre;clear hG hpre;have hc:=J4 (i:=i) (by omega);clear hi
    repeat' rcases hc with rfl | hc
    iterate 19
     ·cases ho;have hm:=HM.out
      try simp [Region.binds] at hm
      refine aa rfl fun K HK=>?_;clear HM
      try simp only [hm]
      go_simp;exact HK.out _ _ ⟨_,by simp [upd, *],HG.out,rfl,fun k u hu=>hu⟩
   case finB =>
    rintro fq w' hG hall;have e18:fq 18=.bool false:=hall 18 (by omega);have HG:Hid (ag wr w'):=hG;clear hall;clear hG;have HB2:Hid (ag W0 w'):=HB.out.trans (HG.out.mono HB.out.size);have UI:Hid (dF xs (k + 1) ⟨c,s⟩=false):=by show _=_; rw [Zm.out]; simp [jS,h1,h2]
    rw [e18];go_wp2;go_roundw;case rel=>exact ⟨k + 1,by omega,by go_num,UI,HB2⟩
    simp [intOf] <;> omega
  refine nz 19 (fun n=>(u21::u22::u23::u24::u25::u26::u27::u28::u29::u30::u31::u32::u33::u34::u35::u36::u37::u38::u39::[]).getD n undef) (fun fq=>{ tmps:=List.toArray (Value.slice ad rs.length cap::.agg #[.string oa,.string ob,.string r,.string c,.string d,.string s]::undef::.pointer (some ⟨w.heap.size,0,none⟩)::u4::.slice (some ⟨b,off,none⟩) xs.length capA::.int .i64 k::.slice ad rs.length cap::.pointer (some ⟨w.heap.size,0,none⟩)::.pointer (some ⟨w.heap.size,0,none⟩)::.string oa::.pointer (some ⟨w.heap.size,2,none⟩)::.string r::.slice UC rows.length capE::.slice (some ⟨b,off,none⟩) xs.length capA::.int .i64 k::.slice (some ⟨b,off,none⟩) xs.length capA::.int .i64 xs.length::.bool true::u19::u20::fq 0::fq 1::fq 2::fq 3::fq 4::fq 5::fq 6::fq 7::fq 8::fq 9::fq 10::fq 11::fq 12::fq 13::fq 14::fq 15::fq 16::fq 17::fq 18::u40::u41::[]),defers:=[] }) (fun n v _=>v=(Value.slice (some ⟨b,off,none⟩) xs.length capA::.int .i64 k::.pointer (some ⟨b,off + k * 2,none⟩)::.pointer (some ⟨b,off + k * 2,none⟩)::.string xs[k].t::.pointer (some ⟨w.heap.size,3,none⟩)::.pointer (some ⟨w.heap.size,3,none⟩)::.string c::.bool true::.bool true::.slice (some ⟨b,off,none⟩) xs.length capA::.int .i64 k::.pointer (some ⟨b,off + k * 2,none⟩)::.pointer (some ⟨b,off + k * 2 + 1,none⟩)::.string xs[k].s::.pointer (some ⟨w.heap.size,5,none⟩)::.string s::.bool true::.bool true::[]).getD n undef) (fun w'=>ag wr w') (by kernel_rfl) rfl (by kernel_rfl) rfl (TT _ _).drew ?stepC ?finC;case stepC =>
   rintro i hi o ho fq w' hG hpre;have HG:Hid (ag wr w'):=hG;replace t0:=aG hG hb5 t0;replace t1:=aG hG hb5 t1;replace c3:=aG hG hwl c3;replace c5:=aG hG hwl c5;have HM:Hid (∀ e ∈ o.after,Region.binds .any e=true→_):=hpre;clear hG hpre;have hc:=J4 (i:=i) (by omega);clear hi
   repeat' rcases hc with rfl | hc
   iterate 19
    ·cases ho;have hm:=HM.out
     try simp [Region.binds] at hm
     refine aa rfl fun K HK=>?_;clear HM
     try simp only [hm]
     go_simp;exact HK.out _ _ ⟨_,by simp [upd, *],HG.out,rfl,fun k u hu=>hu⟩
  case finC =>
   rintro fq w' hG hall;have e18:fq 18=.bool true:=hall 18 (by omega);have HG:Hid (ag wr w'):=hG;clear hall;replace c0:=aG hG hwl c0;replace c1:=aG hG hwl c1;replace c2:=aG hG hwl c2;replace c3:=aG hG hwl c3;replace c4:=aG hG hwl c4;replace c5:=aG hG hwl c5;clear hG;rw [e18];have HN:Hid (sF (ae rs) oa ob r c d s=bI oa ob r c d s):=by show _=_; unfold sF; rw [← Wj.out,MC hlt (by simp [jS,h1,h2])]; rfl
   go_wp2_with fail;refine (dX oa ob r c d s _ ha hb hr hc hd hz).mono ?_;rintro e w2 ⟨rfl,hb2⟩;have HB2:Hid (ag w w2):=UG.out.trans ((HG.out.mono UG.out.size).trans (hb2.mono (TZ UG.out.size HG.out.size)));clear hb2;go_wp2;go_ret;exact ⟨by rw [HN.out]; rfl,HB2.out⟩
 obtain rfl:k=xs.length:=by omega
 have HN:Hid (sF (ae rs) oa ob r c d s=false):=by show _=_; unfold sF; rw [← Wj.out,HP.out]; rfl
 go_wp2;go_ret;exact ⟨by rw [HN.out]; rfl,UG.out⟩
end Go.Proofs.YtajkkeikihhejaaGreat
