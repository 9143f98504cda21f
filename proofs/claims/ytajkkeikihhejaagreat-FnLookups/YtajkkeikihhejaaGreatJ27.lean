/- Contract of the program's function on the least strata. -/
import Derived.Test.YtajkkeikihhejaaGreatSq
import Derived.Test.YtajkkeikihhejaaGreatJ26
import Derived.Laws.EntriesVeiled
open Go.Proofs.Tryz
set_option maxHeartbeats 80000000
namespace Go.Proofs.YtajkkeikihhejaaGreat
open Go.ChangeShapes Go.WideShapes Go.ChangeAt Go.RowKit Go.Maps
open Pl
def NY (ts:List Ty) (w:World) (e:Ending) (w':World):Prop :=
 ((∃ (b n:Nat) (σ:Ky→Option Int),e=.returned (.tuple #[.map (some b),.bool true])∧aO dU prog 94 w' b n (iW σ)∧Least ts (fun k=>(σ k).getD 0)∧∀ k,(∃ x,σ k=some x) ↔ k ∈ au ts) ∨ (e=.returned (.tuple #[.map none,.bool false])∧¬ ∃ f,Sol ts f))∧af w w'
theorem NZ (N:Nat) (ks:List Ky):ku N (fun _=>none) ks=N * ks.length:=by
 induction ks with
 | nil=>simp [ku]
 | cons k ks ih=>simp only [ku,ih,wC,List.length_cons]; push_cast; rw [Int.mul_add]; omega
theorem La {rs:List TR} (hf:∀ r ∈ rs,r.fits):∀ k ∈ au (ah rs),k.1.size≤maxLen∧k.2.size≤maxLen:=by
 intro k hk;obtain ⟨t,ht,r,hr,rfl⟩:=qj.1 hk;obtain ⟨t',ht',rfl⟩:=SK.1 ht;obtain ⟨q,hq,rfl⟩:=SK.1 hr;exact ⟨(hf t' ht').1,((hf t' ht').2.2 q hq).1⟩
set_option maxRecDepth 100000 in
theorem xY (ad:Option Addr) (cap:Nat) (rs:List TR) (bL nL:Nat) (ML:Ky→Option Value) (E:List (Ky × St)) (w:ae) (hlen:rs.length≤6) (hs:mD w ad rs) (hf:∀ r ∈ rs,r.fits) (hrl:∀ r ∈ rs,r.rows.length≤6) (hG:Grp w bL nL ML E) (hE:Edge (ah rs) E) (hF:Found (ah rs)) (hEl:E.length≤100000) :
  Calls prog 133 #[.slice ad rs.length cap,.map (some bL)] w (NY (ah rs) w):=by
 have HS:=az hs;have TP:=az hf;have XP:Hid (∀ r ∈ rs,r.rows.length≤6):=hrl;have HG:Hid (Grp w bL nL ML E):=hG;have HE:=az hE;have HF:=az hF;have Xy:Hid (bL < w.heap.size):=hG.map.lt;clear hs hf hrl hG hE hF;have hmm:=@run_makeMap prog;go_enter func133,ntmps133;have HB0:Hid (af w ((w.alloc (.cells #[.map (some bL)] 211)).alloc (.cells #[.int .i64 0] 2))):=((Sz _ _).alloc (Sy _) _).alloc (by simp) _;have UT:Hid (((w.alloc (.cells #[.map (some bL)] 211)).alloc (.cells #[.int .i64 0] 2)).cell? ⟨w.heap.size,0,none⟩=some (.map (some bL))∧((w.alloc (.cells #[.map (some bL)] 211)).alloc (.cells #[.int .i64 0] 2)).cell? ⟨w.heap.size + 1,0,none⟩=some (.int .i64 0)∧((w.alloc (.cells #[.map (some bL)] 211)).alloc (.cells #[.int .i64 0] 2)).frozen? ⟨w.heap.size + 1,0,none⟩=false∧w.heap.size + 1 < ((w.alloc (.cells #[.map (some bL)] 211)).alloc (.cells #[.int .i64 0] 2)).heap.size):=⟨by simp,by simp,by simp,by simp⟩;go_wp2_with fail;go_loopw [17] (fun i wr=>∃ k:Nat,k≤rs.length∧i=.int .i64 k∧Hid (af w wr)∧Hid (wr.cell? ⟨w.heap.size,0,none⟩=some (.map (some bL))∧wr.cell? ⟨w.heap.size + 1,0,none⟩=some (.int .i64 ((dw rs k).length:Int))∧wr.frozen? ⟨w.heap.size + 1,0,none⟩=false∧w.heap.size + 1 < wr.heap.size)) (fun i _=>rs.length - (intOf i).toNat);case atStart=>exact ⟨0,SC _,rfl,HB0,UT⟩
 clear HB0 UT;obtain ⟨k,hk,rfl,HB,HC⟩:=hrel;obtain ⟨c0,c1,c2,c3⟩:=HC.out;have hu:=vV rs XP.out k;by_cases hlt:k < rs.length
 ·rcases HS.out.below HB.out with rfl | ⟨b,off,rfl,hb,hr,-⟩
  ·simp at hlt
  obtain ⟨t0,t1⟩:=hr k hlt;have hk1:=bq k;have hk2:(k:Int) < (rs.length:Int):=by omega
  have h6:=XP.out _ (Sw hlt);have Um:Hid ((dw rs (k + 1)).length=(dw rs k).length + rs[k].rows.length):=by show _=_; rw [oQ _ _ hlt,SE]; simp [iP]
  obtain ⟨cn,hcn⟩:∃ cn,cn=(dw rs k).length:=⟨_,rfl⟩;rw [← hcn] at c1 hu Um;have HB1:Hid (af w ((wr.setCell ⟨w.heap.size + 1,0,none⟩ (.int .i64 ((cn:Int) + (rs[k].rows.length:Int)))).alloc (.cells #[.string rs[k].name,.slice rs[k].ad rs[k].rows.length rs[k].cap] 127))):=(HB.out.setCell (p:=⟨w.heap.size + 1,0,none⟩) (by simp) _).alloc (by simpa using HB.out.size) _;have UV:Hid (((wr.setCell ⟨w.heap.size + 1,0,none⟩ (.int .i64 ((cn:Int) + (rs[k].rows.length:Int)))).alloc (.cells #[.string rs[k].name,.slice rs[k].ad rs[k].rows.length rs[k].cap] 127)).cell? ⟨w.heap.size,0,none⟩=some (.map (some bL))∧((wr.setCell ⟨w.heap.size + 1,0,none⟩ (.int .i64 ((cn:Int) + (rs[k].rows.length:Int)))).alloc (.cells #[.string rs[k].name,.slice rs[k].ad rs[k].rows.length rs[k].cap] 127)).cell? ⟨w.heap.size + 1,0,none⟩=some (.int .i64 ((dw rs (k + 1)).length:Int))∧((wr.setCell ⟨w.heap.size + 1,0,none⟩ (.int .i64 ((cn:Int) + (rs[k].rows.length:Int)))).alloc (.cells #[.string rs[k].name,.slice rs[k].ad rs[k].rows.length rs[k].cap] 127)).frozen? ⟨w.heap.size + 1,0,none⟩=false∧w.heap.size + 1 < ((wr.setCell ⟨w.heap.size + 1,0,none⟩ (.int .i64 ((cn:Int) + (rs[k].rows.length:Int)))).alloc (.cells #[.string rs[k].name,.slice rs[k].ad rs[k].rows.length rs[k].cap] 127)).heap.size):=by
   obtain ⟨X,hX⟩:∃ X,X=wr.setCell ⟨w.heap.size + 1,0,none⟩ (.int .i64 ((cn:Int) + (rs[k].rows.length:Int))):=⟨_,rfl⟩;have hXs:X.heap.size=wr.heap.size:=by rw [hX]; simp
   have hB:af X (X.alloc (.cells #[.string rs[k].name,.slice rs[k].ad rs[k].rows.length rs[k].cap] 127)):=(Sz _ _).alloc (Sy _) _;rw [← hX];refine ⟨aI hB (by omega) (by rw [hX,wU (by omega)]; exact c0),aI hB (by omega) (by rw [hX,Um.out]; push_cast; exact yG c1),?_,by simp; omega⟩;rw [hB.frozen (p:=⟨w.heap.size + 1,0,none⟩) (by simp; omega),hX];simpa using c2
  clear hr hcn HC;go_wp2;go_roundw;case rel=>exact ⟨k + 1,by omega,by go_num,HB1,UV⟩
  simp [intOf] <;> omega
 obtain rfl:k=rs.length:=by omega
 have hEN:dw rs rs.length=au (ah rs):=by unfold dw; rw [SS]
 rw [hEN] at c1 hu;obtain ⟨N,hN⟩:∃ N,N=(au (ah rs)).length:=⟨_,rfl⟩;rw [← hN] at c1 hu;have VN:Hid (N=(au (ah rs)).length):=hN;have HEN:Hid (dw rs rs.length=au (ah rs)):=hEN;have hN36:N≤36:=by omega
 have hbl:=Xy.out;have hwr:w.heap.size≤wr.heap.size:=HB.out.size;obtain ⟨W0,hW0⟩:∃ W0,W0=(((wr.alloc (.map #[] 0)).alloc (.cells #[.map (some wr.heap.size)] 153)).alloc (.cells #[(.func (Fn.func 186) #[] #[.pointer (some ⟨wr.heap.size + 1,0,none⟩),.pointer (some ⟨w.heap.size + 1,0,none⟩),.pointer (some ⟨w.heap.size,0,none⟩),.pointer (some ⟨wr.heap.size + 1 + 1,0,none⟩)])] 270)):=⟨_,rfl⟩;have hal:af wr W0:=by
  rw [hW0]
  repeat (first | exact Sz _ _ | refine Below.alloc ?_ (by first | (simp; done) | (simp; omega)) _)
 have hs0:W0.heap.size=wr.heap.size + 3:=by rw [hW0]; simp
 have HRW:Hid (Rw W0 (wr.heap.size + 1) (w.heap.size + 1) w.heap.size (wr.heap.size + 1 + 1) wr.heap.size bL N 0 nL ML E (fun _=>none)):=by
  have hGr:Grp wr bL nL ML E:=HG.out.below HB.out;have hMV:aO dU prog 94 W0 wr.heap.size 0 (iW (fun _=>none)):=by
   have h1:=nH dU prog 94 wr;have e1:iW (fun _=>none)=fun _=>none:=by funext k; rfl
   rw [e1];refine h1.below ?_;rw [hW0]
   repeat (first | exact Sz _ _ | refine Below.alloc ?_ (by first | (simp; done) | (simp; omega)) _)
  have hcS:W0.cell? ⟨wr.heap.size + 1,0,none⟩=some (.map (some wr.heap.size)):=by
   rw [hW0];exact aI ((Sz _ _).alloc (Sy _) _) (by simp) (Mi wr _ _ _ 0 rfl)
  have hcR:W0.cell? ⟨wr.heap.size + 1 + 1,0,none⟩=some (Am (wr.heap.size + 1) (w.heap.size + 1) w.heap.size (wr.heap.size + 1 + 1)):=by
   rw [hW0];exact QL _ _ _ _ _ _ rfl
  exact ⟨hcS,aI hal (by omega) c1,aI hal (by omega) c0,hcR,by omega,by omega,by omega,by omega,hMV,hGr.below hal,by omega,hGr.fresh (Sy _)⟩
 have HB0:=jI HB hal;clear hu hEN hN hal HC;go_wp2_with fail;rw [← hW0];clear hW0 c0 c1 c2 c3 HB;obtain ⟨bS,hbS⟩:∃ bS,bS=wr.heap.size:=⟨_,rfl⟩;obtain ⟨gS,hgS⟩:∃ gS,gS=wr.heap.size + 1:=⟨_,rfl⟩;obtain ⟨gR,hgR⟩:∃ gR,gR=wr.heap.size + 1 + 1:=⟨_,rfl⟩;obtain ⟨gC,hgC⟩:∃ gC,gC=w.heap.size + 1:=⟨_,rfl⟩;obtain ⟨gL,hgL⟩:∃ gL,gL=w.heap.size:=⟨_,rfl⟩;have hb1:w.heap.size≤bS:=by omega
 have HRW2:Hid (Rw W0 gS gC gL gR bS bL N 0 nL ML E (fun _=>none)):=by rw [hbS,hgS,hgR,hgC,hgL]; exact HRW
 have HI0:Hid (∃ (σ:Ky→Option Int) (n:Nat),Rw W0 gS gC gL gR bS bL N n nL ML E σ∧Rz (ah rs) N σ∧(n:Int) + ku N σ (au (ah rs))≤2000∧Raised E (fun _=>none) σ∧∀ key ∈ dw rs 0,∃ x,σ key=some x):=by
  refine ⟨fun _=>none,0,HRW2.out,⟨fun k x h=>by cases h⟩,?_,Raised.refl _ _,fun k hk=>by simp [dw,ah,au] at hk⟩;rw [NZ,← VN.out];have h1:(N:Int) * N≤36 * 36:=Int.mul_le_mul (by omega) (by omega) (by omega) (by omega)
  push_cast; omega
 rw [← hgR,← hgS,← hbS,← hgC,← hgL];clear HRW HRW2 hs0 hmm hgR hgS hbS hgC hgL;go_loopw [31] (fun i w2=>∃ k:Nat,k≤rs.length∧i=.int .i64 k∧Hid (af w w2)∧Hid (∃ (σ:Ky→Option Int) (n:Nat),Rw w2 gS gC gL gR bS bL N n nL ML E σ∧Rz (ah rs) N σ∧(n:Int) + ku N σ (au (ah rs))≤2000∧Raised E (fun _=>none) σ∧∀ key ∈ dw rs k,∃ x,σ key=some x)) (fun i _=>rs.length - (intOf i).toNat);case atStart=>exact ⟨0,SC _,rfl,HB0,HI0⟩
 clear HB0 HI0;obtain ⟨k,hk,rfl,HB,HI⟩:=hrel;by_cases hlt:k < rs.length
 ·rcases HS.out.below HB.out with rfl | ⟨b,off,rfl,hb,hr,-⟩
  ·simp at hlt
  obtain ⟨t0,t1⟩:=hr k hlt;have hk1:=bq k;have hk2:(k:Int) < (rs.length:Int):=by omega
  have h6:=XP.out _ (Sw hlt);obtain ⟨W1,hW1⟩:∃ W1,W1=wr.alloc (.cells #[.string rs[k].name,.slice rs[k].ad rs[k].rows.length rs[k].cap] 127):=⟨_,rfl⟩;have hal:af wr W1:=by rw [hW1]; exact (Sz _ _).alloc (Sy _) _
  obtain ⟨g12,Va⟩:∃ g12,g12=wr.heap.size:=⟨_,rfl⟩;have hbw:bS < wr.heap.size:=by obtain ⟨σ,n,hR,-⟩:=HI.out; exact hR.map.lt
  have HC12:Hid (W1.cell? ⟨g12,0,none⟩=some (.string rs[k].name)∧g12 < W1.heap.size∧g12 ≠ bS):=⟨by rw [hW1,Va]; simp,by rw [hW1,Va]; simp,by omega⟩;have HB1:=jI HB hal;have HI1:Hid (∃ (σ:Ky→Option Int) (n:Nat),Rw W1 gS gC gL gR bS bL N n nL ML E σ∧Rz (ah rs) N σ∧(n:Int) + ku N σ (au (ah rs))≤2000∧Raised E (fun _=>none) σ∧∀ key ∈ dw rs k,∃ x,σ key=some x):=by
   obtain ⟨σ,n,hR,h2⟩:=HI.out;exact ⟨σ,n,hR.below hal,h2⟩
  clear hr hal HI HB;go_wp2_with fail;rw [← hW1,← Va];clear hW1 t0 t1 Va;go_loopw [38] (fun i w3=>∃ j:Nat,j≤rs[k].rows.length∧i=.int .i64 j∧Hid (af w w3)∧Hid (w3.cell? ⟨g12,0,none⟩=some (.string rs[k].name)∧g12 < w3.heap.size∧g12 ≠ bS)∧Hid (∃ (σ:Ky→Option Int) (n:Nat),Rw w3 gS gC gL gR bS bL N n nL ML E σ∧Rz (ah rs) N σ∧(n:Int) + ku N σ (au (ah rs))≤2000∧Raised E (fun _=>none) σ∧∀ key ∈ dw rs k ++ iP rs[k] j,∃ x,σ key=some x)) (fun i _=>rs[k].rows.length - (intOf i).toNat);case atStart=>exact ⟨0,SC _,rfl,HB1,HC12,by simpa [iP] using HI1⟩
  clear HB1 HC12 HI1;obtain ⟨j,hj,rfl,HB,HC,HI⟩:=hrel;by_cases hjl:j < rs[k].rows.length
  ·rcases HS.out.below HB.out with hnil | ⟨b',off',he,hb2,hr,hok⟩
   ·rw [hnil] at hlt; simp at hlt
   injection he with he; injection he with he1 he2; subst he1; subst he2;have ok:=hok rs[k] (Sw hlt);rcases ok with hnil | ⟨b2,Uc,had,hbb,hr2,-⟩
   ·rw [hnil] at hjl; simp at hjl
   obtain ⟨q0,q1⟩:=hr2 j hjl;have hj1:=bq j;have hj2:(j:Int) < (rs[k].rows.length:Int):=by omega
   obtain ⟨σ,n,hR,hZ,hn,Yn,hall⟩:=HI.out;obtain ⟨x0,x1,x2⟩:=HC.out;have cR:=hR.cR;unfold Am at cR;have lR:=hR.lR.1;obtain ⟨W3,hW3⟩:∃ W3,W3=wr.alloc (.cells #[.string rs[k].rows[j].name,.slice rs[k].rows[j].ad rs[k].rows[j].rows.length rs[k].rows[j].cap] 147):=⟨_,rfl⟩;have hal:af wr W3:=by rw [hW3]; exact (Sz _ _).alloc (Sy _) _
   have HR3:=az (hR.below hal);have HZ3:=az hZ;have HB3:=jI HB hal;have XE:Hid (W3.cell? ⟨g12,0,none⟩=some (.string rs[k].name)∧g12 < W3.heap.size∧g12 ≠ bS):=⟨aI hal x1 x0,Sv x1 hal.size,x2⟩;have Wu:Hid (Raised E (fun _=>none) σ):=Yn;have TL:Hid (∀ key ∈ dw rs k ++ iP rs[k] j,∃ x,σ key=some x):=hall;have hmp:=hZ.mu_pos (au (ah rs));have HKM:Hid ((rs[k].name,rs[k].rows[j].name) ∈ au (ah rs)):=qj.2 ⟨rs[k].p,List.mem_map_of_mem (Sw hlt),rs[k].rows[j].p,List.mem_map_of_mem (Sw hjl),rfl⟩;rw [had];clear hr hok hr2 hal hR hZ Yn hall HI HB HC;go_wp2_with fail;rw [← hW3];clear hW3 q0 q1 cR x0;refine (KZ (ah rs) gS gC gL gR bS bL N nL ML E HE.out HF.out VN.out hN36 (La TP.out) hEl (ku N σ (au (ah rs))).toNat _ σ n (rs[k].name,rs[k].rows[j].name) 0 HR3.out HZ3.out (by omega) (by omega) HKM.out (by omega) (by omega) (qg.zero _ _)).mono ?_;rintro e w5 ⟨ok,σ5,n5,rfl,hg5,TW,XZ,Xq,VO,YJ,YK⟩;have Vk:Hid (af w w5):=HB3.out.grown hg5 HB3.out.size (fun i hi=>by injection hi with hi; omega);cases ok;case false=>
    have HP:Hid (NY (ah rs) w (.returned (.tuple #[.map none,.bool false])) w5):=⟨.inr ⟨rfl,YJ rfl⟩,Vk.out⟩;clear hg5 TW XZ Xq VO YJ YK;go_wp2;refine bodyPost_ret (v:=.tuple #[.map none,.bool false]) ?_ rfl HP.out;simp [results,Tryz.results133,go_sem]
   have HI5:Hid (∃ (σ:Ky→Option Int) (n:Nat),Rw w5 gS gC gL gR bS bL N n nL ML E σ∧Rz (ah rs) N σ∧(n:Int) + ku N σ (au (ah rs))≤2000∧Raised E (fun _=>none) σ∧∀ key ∈ dw rs k ++ iP rs[k] (j + 1),∃ x,σ key=some x):=by
    obtain ⟨Yn,y,hy,-⟩:=YK rfl;refine ⟨σ5,n5,TW,XZ,by omega,Wu.out.trans Yn,fun key hk=>?_⟩;rw [sQ _ _ hjl,← List.append_assoc] at hk;rcases SI.1 hk with hk | hk
    ·obtain ⟨x,hx⟩:=TL.out key hk;obtain ⟨z,hz,-⟩:=Yn.mono key x hx;exact ⟨z,hz⟩
    simp at hk; subst hk; exact ⟨y,hy⟩
   have Wx:Hid (w5.cell? ⟨g12,0,none⟩=some (.string rs[k].name)∧g12 < w5.heap.size∧g12 ≠ bS):=⟨(kH hg5 XE.out.2 0).trans XE.out.1,Sv XE.out.2.1 hg5.size,XE.out.2.2⟩;clear hg5 TW XZ Xq VO YJ YK;go_wp2;go_roundw;case rel=>exact ⟨j + 1,by omega,by go_num,Vk,Wx,HI5⟩
   simp [intOf] <;> omega
  obtain rfl:j=rs[k].rows.length:=by omega
  have HI5:Hid (∃ (σ:Ky→Option Int) (n:Nat),Rw wr gS gC gL gR bS bL N n nL ML E σ∧Rz (ah rs) N σ∧(n:Int) + ku N σ (au (ah rs))≤2000∧Raised E (fun _=>none) σ∧∀ key ∈ dw rs (k + 1),∃ x,σ key=some x):=by rw [oQ _ _ hlt]; exact HI
  clear HI;go_wp2;go_roundw;case rel=>exact ⟨k + 1,by omega,by go_num,HB,HI5⟩
  simp [intOf] <;> omega
 obtain rfl:k=rs.length:=by omega
 obtain ⟨σ,n,hR,hZ,hn,Yn,hall⟩:=HI.out;have cS:=hR.cS;have HP:Hid (NY (ah rs) w (.returned (.tuple #[.map (some bS),.bool true])) wr):=by
  rw [HEN.out] at hall;refine ⟨.inl ⟨bS,n,σ,rfl,hR.map,D5 HE.out HF.out hZ hall (fun k=>Yn.done k (.inl (fun x h=>by cases h))),fun k=>⟨fun ⟨x,hx⟩=>(hZ.there k x hx).1,hall k⟩⟩,HB.out⟩
 clear hR hZ hn Yn hall HI;go_wp2;refine bodyPost_ret (v:=.tuple #[.map (some bS),.bool true]) ?_ rfl HP.out;simp [results,Tryz.results133,go_sem]
theorem Lb (ng:Bool) (xs:List Al):di ng xs=(dG xs).map fun a=>(⟨a.t,a.s,ng⟩:Dp):=by
 induction xs with
 | nil=>rfl
 | cons a xs ih=>simp only [di,dG]; split <;> simp [ih]
theorem CF (ts:List Ty) (typ:aD) (ng:Bool) (e:Ex) (hn:ay e=true) (hd:e.kind=3→bH (aL ts typ e.over)=true):di ng e.allow ++ nO ts typ ng e=(jf ts typ e).map fun a=>(⟨a.t,a.s,ng⟩:Dp):=by
 by_cases h1:e.kind=1
 ·unfold nO jf;rw [if_neg (by omega),if_neg (by omega),if_pos h1,List.append_nil,Lb]
 rw [tH hn h1];unfold nO jf;rw [if_neg h1];by_cases h2:e.kind=2
 ·rw [if_pos h2,if_pos h2]; rfl
 rw [if_neg h2,if_neg h2];by_cases h3:e.kind=3
 ·rw [if_pos h3,if_pos h3];unfold gu;rw [if_pos (hd h3),List.map_map];rfl
 rw [if_neg h3,if_neg h3]; rfl
theorem CG {ts:List Ty} {typ:ByteArray} {es:List Ex} {d:Dp} {i:Nat} (hd:d ∈ kS ts typ es i):∀ {k:Nat},i < k→d ∈ aR ts typ es k
 | 0,h=>by omega
 | k + 1,h=>by
  simp only [aR];by_cases e:i=k
  ·subst e; exact SI.2 (.inr hd)
  exact SI.2 (.inl (CG hd (by omega)))
theorem Ap {ts:List Ty} {t r:ByteArray} {es:List Ex} {x:Ky × St}:∀ {k:Nat},x ∈ relE ts t r es k ↔ ∃ i,i < k∧∃ e,es[i]?=some e∧x ∈ Ak ts t r ((fw es).getD i false) e
 | 0=>by simp [relE]
 | k + 1=>by
  simp only [relE,SI];rw [Ap];constructor
  ·rintro (⟨i,hi,h⟩ | h)
   ·exact ⟨i,by omega,h⟩
   cases e:es[k]? with
   | none=>rw [e] at h; cases h
   | some y=>rw [e] at h; exact ⟨k,by omega,y,e,h⟩
  rintro ⟨i,hi,e,he,h⟩;by_cases ek:i=k
  ·subst ek; right; rw [he]; exact h
  exact .inl ⟨i,by omega,e,he,h⟩
theorem o6 {rs:List TR} (h:bz (ah rs)=true) {t:TR} (ht:t ∈ rs) {q:RR} (hq:q ∈ t.rows):gm (ah rs) t.name q.name=some (ak q.rows):=by
 have hT:=zu h;have hs:=rW (M:=fun _=>none) (rs:=rs) (k:=(t.name,q.name)) (.inr ⟨t,ht,q,hq,rfl⟩);obtain ⟨v,hv⟩:=Option.isSome_iff_exists.1 hs;obtain ⟨t',ht',q',hq',e,-,e2,-⟩:=hT.yes _ v hv;injection e with e3 e4;have h1:t=t':=E5 h ht ht' e3;subst h1;obtain ⟨i,hi,rfl⟩:=List.mem_iff_getElem.1 ht;have h2:q=q':=E8 (lw h i hi).2.2 hq hq' e4;subst h2;exact e2
theorem ji {es:List Ex} (h:aN es=true):∀ e ∈ es,ay e=true:=by
 simp only [aN,SB] at h;exact SQ.1 h.1.1.1.2
theorem FH (t r:aD) (ng:Bool):stepOf ⟨t,r,ng⟩=xK ng:=by cases ng <;> rfl
theorem PK {rs:List TR} (h:bz (ah rs)=true) (hr:ko (ah rs)=true):Edge (ah rs) (jh (ah rs) rs):=by
 have Tw:∀ t ∈ rs,∀ q ∈ t.rows,∀ e ∈ ak q.rows,ay e=true∧(e.kind=3→bH (aL (ah rs) t.name e.over)=true):=by
  intro t ht q hq e he;have h1:=((bP h).2.2 t ht q hq).1;refine ⟨ji h1 e he,fun h3=>?_⟩;unfold ko at hr;rw [SQ] at hr;have h2:=hr t.p (List.mem_map_of_mem ht);unfold qi at h2;rw [SQ] at h2;have h4:aT (ah rs) t.name (ak q.rows)=true:=h2 q.p (List.mem_map_of_mem hq);have h5:=(BZ h4 e he).2;unfold nu at h5;rw [if_neg (by omega),if_pos h3,SB] at h5;exact h5.1
 intro on t0 r0 s;constructor
 ·intro hm;unfold jh jg at hm;rw [SY] at hm;obtain ⟨t,ht,hm⟩:=hm;rw [SY] at hm;obtain ⟨q,hq,hm⟩:=hm;obtain ⟨i,hi,e,he,hm⟩:=Ap.1 hm;unfold Ak at hm;obtain ⟨a,ha,e1⟩:=SK.1 hm;injection e1 with e2 e3;injection e3 with e4 e5 e6;subst e4; subst e5;refine ⟨qj.2 ⟨t.p,List.mem_map_of_mem ht,q.p,List.mem_map_of_mem hq,rfl⟩,⟨a.t,a.s,(fw (ak q.rows)).getD i false⟩,?_,e2,by rw [FH]; exact e6⟩;unfold iq qd;have ero:aL (ah rs) t.name q.name=ak q.rows:=by unfold aL; rw [o6 h ht hq]; rfl
  simp only [ero];have hi2:i < (ak q.rows).length:=(List.getElem?_eq_some_iff.1 he).1;refine CG (i:=i) ?_ hi2;unfold kS;rw [he];obtain ⟨n1,n2⟩:=Tw t ht q hq e (List.mem_of_getElem? he);simp only;rw [CF _ _ _ _ n1 n2];exact List.mem_map_of_mem (f:=fun a:Al=>(⟨a.t,a.s,(fw (ak q.rows)).getD i false⟩:Dp)) ha
 rintro ⟨hk,d,hd,e1,e2⟩;obtain ⟨t',ht',r',hr',e3⟩:=qj.1 hk;obtain ⟨t,ht,rfl⟩:=SK.1 ht';obtain ⟨q,hq,rfl⟩:=SK.1 hr';injection e3 with e4 e5;subst e4; subst e5;unfold iq qd at hd;have ero:aL (ah rs) t.p.name q.p.name=ak q.rows:=by
  have:=o6 h ht hq;show aL (ah rs) t.name q.name=_;unfold aL; rw [this]; rfl
 simp only [ero] at hd;obtain ⟨i,hi,hd⟩:=sP hd;unfold kS at hd;split at hd
 ·cases hd
 rename_i e he;obtain ⟨n1,n2⟩:=Tw t ht q hq e (List.mem_of_getElem? he);have hdn:di ((fw (ak q.rows)).getD i false) e.allow ++ nO (ah rs) t.p.name ((fw (ak q.rows)).getD i false) e=_:=CF (ah rs) t.name _ e n1 n2;rw [hdn] at hd;obtain ⟨a,ha,rfl⟩:=SK.1 hd;unfold jh jg;rw [SY];refine ⟨t,ht,?_⟩;rw [SY];refine ⟨q,hq,Ap.2 ⟨i,by rw [bi] at hi; exact hi,e,he,?_⟩⟩;unfold Ak;rw [SK];refine ⟨a,ha,?_⟩;rw [← e1,← e2,FH];rfl
theorem N7 {rs:List TR} (h:bz (ah rs)=true):∀ r ∈ rs,∀ q ∈ r.rows,∀ e ∈ q.rows,e.e.allow.length≤6:=by
 intro r hr q hq e he;have h1:=ji ((bP h).2.2 r hr q hq).1 e.e (by unfold ak; exact List.mem_map_of_mem he);by_cases h2:e.e.kind=1
 ·unfold ay at h1;rw [if_pos h2] at h1;simp only [SB,dR,SN] at h1;exact h1.1.1.1.1.2
 rw [tH h1 h2]; simp
theorem qD {α β:Type} (f:α→List β) (B:Nat):∀ (xs:List α),(∀ x ∈ xs,(f x).length≤B)→(xs.flatMap f).length≤xs.length * B
 | [],_=>by simp
 | x::xs,h=>by
  rw [List.flatMap_cons,SE,List.length_cons,Nat.succ_mul];have h1:=h x (by simp);have h2:=qD f B xs fun q hq=>h q (by simp [hq]);omega
theorem Lc (rs:List TR) (h6:∀ r ∈ rs,r.rows.length≤6) (hex:∀ r ∈ rs,∀ q ∈ r.rows,aN (ak q.rows)=true∧q.rows.length≤15∧∀ e ∈ q.rows,eB q.rows.length e.e.kids) (h66:∀ r ∈ rs,∀ q ∈ r.rows,∀ e ∈ q.rows,e.e.allow.length≤6) (hl:rs.length≤6:=by omega):(jh (ah rs) rs).length≤100000:=by
 have h1:∀ t ∈ rs,(jg (ah rs) t.name t.rows).length≤540:=by
  intro t ht;have h2:∀ q ∈ t.rows,(relE (ah rs) t.name q.name (ak q.rows) q.rows.length).length≤90:=by
   intro q hq;have h3:∀ k,k≤q.rows.length→(relE (ah rs) t.name q.name (ak q.rows) k).length≤k * 6:=by
    intro k
    induction k with
    | zero=>intro _; simp [relE]
    | succ k ih =>
     intro hk;rw [Cy _ _ _ _ _ (by omega) _ rfl,SE];have h4:=ih (by omega);have h5:(Ak (ah rs) t.name q.name ((fw (ak q.rows)).getD k false) q.rows[k].e).length≤6:=by
      unfold Ak;rw [Tk];exact Cz rs h66 _ _ (h66 t ht q hq _ (Sw (by omega)))
     omega
   have h4:=h3 q.rows.length (Sy _);have h5:=(hex t ht q hq).2.1;omega
  have h3:=qD (fun q:RR=>relE (ah rs) t.name q.name (ak q.rows) q.rows.length) 90 t.rows h2;have h4:=h6 t ht;unfold jg;omega
 have h2:=qD (fun t:TR=>jg (ah rs) t.name t.rows) 540 rs h1;unfold jh;omega
open Go.Sort
set_option maxRecDepth 100000
theorem FI (ad:Option Addr) (cap:Nat) (xs:List Al) (w:ae) (hlen:xs.length≤1048576) (hcap:xs.length≤cap) (hf:∀ a ∈ xs,a.fits) (hs:kw w ad xs) :
  Calls prog 252 #[.slice ad xs.length cap] w fun e w'=>e=.returned (.bool (dR xs))∧af w w':=by
 have HS:=az hs;have HF:=az hf;clear hs hf;by_cases hl:1≤xs.length∧xs.length≤6
 ·obtain ⟨hl1,hl2⟩:=hl;go_enter func252,ntmps252;go_wp2_with fail;go_loopw [15] (fun i wr=>∃ k:Nat,k≤xs.length∧i=.int .i64 k∧Hid (Be xs k=true)∧af w wr) (fun i _=>xs.length - (intOf i).toNat);case atStart=>exact ⟨0,SC _,rfl,rfl,Sz _ _⟩
  obtain ⟨k,hk,rfl,HU,hB⟩:=hrel;by_cases hlt:k < xs.length
  ·rcases HS.out.below hB with rfl | ⟨b,off,rfl,hb,hr⟩
   ·simp at hlt
   obtain ⟨t0,t1⟩:=hr k hlt;obtain ⟨z0,z1⟩:=HF.out xs[k] (Sw hlt);have hk1:=bq k;have hk2:(k:Int)≤(cap:Int):=by omega
   obtain ⟨W1,hW1⟩:∃ W1,W1=wr.alloc (.cells #[.string xs[k].t,.string xs[k].s] 43):=⟨_,rfl⟩;have hal:af wr W1:=by rw [hW1]; exact (Sz _ _).alloc (Sy _) _
   have hBW1:Below w.heap.size wr W1:=hal.mono hB.size;have hWs:w.heap.size≤W1.heap.size:=SF hB.size hal.size;have hgl:wr.heap.size < W1.heap.size:=by rw [hW1]; simp
   have g0:W1.cell? ⟨wr.heap.size,0,none⟩=some (.string xs[k].t):=by rw [hW1]; simp
   have g1:W1.cell? ⟨wr.heap.size,1,none⟩=some (.string xs[k].s):=by rw [hW1]; simp
   have HS1:Hid (kw W1 (some ⟨b,off,none⟩) xs):=(HS.out.below hB).below hal;clear hr;go_wp2_with fail;rw [← hW1];clear hW1 t0 t1 hal;have p0:=cell_regrown g0;have p1:=cell_regrown g1;have Uy:Hid (∀ d os,af w (grow (redrawn W1 d) os)):=fun d os=>hB.trans (hBW1.trans ((below_regrown W1 d os).mono hWs));have Um:=oM (jS (W:=W1) (fun W'=>aM xs[k].t W' z0));have HCS:=oM (jS (W:=W1) (fun W'=>Gx xs[k].s W' z1))
   have UW:Hid (∀ d os,Calls prog 142 #[.slice (some ⟨b,off,none⟩) k cap,.agg #[.string xs[k].t,.string xs[k].s]] (grow (redrawn W1 d) os) fun e w''=>e=.returned (.bool (dI xs k xs[k]))∧∃ p:Regrown,w''=grow (redrawn W1 p.d) p.os) :=
    bC fun W' hb=>uR (some ⟨b,off,none⟩) k cap xs xs[k] _ hk hlen (HS1.out.below hb)
   cases hn:aQ xs[k].t;case false=>
    have HN:Hid (Be xs xs.length=false):=mH xs k hlt (by simp [EG,hn]) _ hlt;rw [hn] at Um;refine wp_region_quiet_below (by kernel_rfl) (by kernel_rfl) ?_
    repeat (go_big_quiet_step (exact Um.out _ _))
    refine wpQuiet_nil ?_;rintro _ ⟨⟨dq,osq⟩,rfl⟩;go_wp2;go_ret;exact ⟨ag (by simp [dR,HN.out]),Uy.out dq osq⟩
   rw [hn] at Um;cases hsb:tY xs[k].s;case false=>
    have HN:Hid (Be xs xs.length=false):=mH xs k hlt (by simp [EG,hn,hsb]) _ hlt;rw [hsb] at HCS;refine wp_region_quiet_below (by kernel_rfl) (by kernel_rfl) ?_
    repeat (go_big_quiet_step (first | exact Um.out _ _ | exact HCS.out _ _))
    refine wpQuiet_nil ?_;rintro _ ⟨⟨dq,osq⟩,rfl⟩;go_wp2;go_ret;exact ⟨ag (by simp [dR,HN.out]),Uy.out dq osq⟩
   rw [hsb] at HCS;obtain ⟨p,hp⟩:∃ p,dI xs k xs[k]=p:=⟨_,rfl⟩;rw [hp] at UW;refine wp_region_quiet_below (by kernel_rfl) (by kernel_rfl) ?_
   repeat (go_big_quiet_step (first | exact Um.out _ _ | exact HCS.out _ _ | exact UW.out _ _))
   refine wpQuiet_nil ?_;rintro _ ⟨⟨dq,osq⟩,rfl⟩;cases p;case true=>
    have HN:Hid (Be xs xs.length=false):=mH xs k hlt (by simp [hp]) _ hlt;go_wp2;go_ret;exact ⟨ag (by simp [dR,HN.out]),Uy.out dq osq⟩
   have Wt:Hid (Be xs (k + 1)=true):=by show _=_; rw [uf _ _ hlt,HU.out]; simp [EG,hn,hsb,hp]
   go_wp2;go_roundw;case rel=>exact ⟨k + 1,by omega,by go_num,Wt,Uy.out dq osq⟩
   simp [intOf] <;> omega
  obtain rfl:k=xs.length:=by omega
  have Y7:Hid (dR xs=true):=by show _=_; simp [dR,hl1,hl2,HU.out]
  go_wp2;go_ret;exact ⟨by rw [Y7.out]; rfl,hB⟩
 have Y7:Hid (dR xs=false):=by
  show _=_;unfold dR;by_cases h1:1≤xs.length
  ·have h2:¬ xs.length≤6:=fun h2=>hl ⟨h1,h2⟩;simp [h2]
  simp [h1]
 go_enter func252,ntmps252;go_wp2_with fail
 all_goals go_ret
 all_goals exact ⟨by rw [Y7.out]; rfl,Sz _ _⟩
end Go.Proofs.YtajkkeikihhejaaGreat
