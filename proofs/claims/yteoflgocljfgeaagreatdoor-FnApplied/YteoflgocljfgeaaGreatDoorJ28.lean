/- Contract of the program's function on the least strata. -/
import Derived.Test.YteoflgocljfgeaaGreatDoorJ27
import Derived.Laws.EntriesVeiled
open Go.Proofs.Tryz
set_option maxHeartbeats 80000000
namespace Go.Proofs.YteoflgocljfgeaaGreatDoor
open Go.ChangeShapes Go.WideShapes Go.ChangeAt Go.RowKit Go.Maps
open Pl
def Jw (ts:List Ty) (w:World) (e:Ending) (w':World):Prop :=
 ((∃ (b n:Nat) (σ:Ky→Option Int),e=.returned (.tuple #[.map (some b),.bool true])∧aJ bI prog 147 w' b n (gF σ)∧Least ts (fun k=>(σ k).getD 0)∧∀ k,(∃ x,σ k=some x) ↔ k ∈ az ts) ∨ (e=.returned (.tuple #[.map none,.bool false])∧¬ ∃ f,Sol ts f))∧Below w.heap.size w w'
theorem Jy (N:Nat) (ks:List Ky):jg N (fun _=>none) ks=N * ks.length:=by
 induction ks with
 | nil=>simp [jg]
 | cons k ks ih=>simp only [jg,ih,tH,List.length_cons]; push_cast; rw [Int.mul_add]; omega
theorem GJ {rs:List TR} (hf:∀ r ∈ rs,r.fits):∀ k ∈ az (ah rs),k.1.size≤maxLen∧k.2.size≤maxLen:=by
 intro k hk;obtain ⟨t,ht,r,hr,rfl⟩:=nP.1 hk;obtain ⟨t',ht',rfl⟩:=List.mem_map.1 ht;obtain ⟨q,hq,rfl⟩:=List.mem_map.1 hr;exact ⟨(hf t' ht').1,((hf t' ht').2.2 q hq).1⟩
set_option maxRecDepth 100000 in
theorem uQ (ad:Option Addr) (cap:Nat) (rs:List TR) (bL nL:Nat) (ML:Ky→Option Value) (E:List (Ky × St)) (w:World) (hlen:rs.length≤6) (hs:gp w ad rs) (hf:∀ r ∈ rs,r.fits) (hrl:∀ r ∈ rs,r.rows.length≤6) (hG:Grp w bL nL ML E) (hE:Edge (ah rs) E) (hF:Found (ah rs)) (hEl:E.length≤100000) :
  Calls prog 106 #[.slice ad rs.length cap,.map (some bL)] w (Jw (ah rs) w):=by
 have HS:Hid (gp w ad rs):=hs;have HFT:Hid (∀ r ∈ rs,r.fits):=hf;have HRL:Hid (∀ r ∈ rs,r.rows.length≤6):=hrl;have HG:Hid (Grp w bL nL ML E):=hG;have HE:Hid (Edge (ah rs) E):=hE;have HF:Hid (Found (ah rs)):=hF;have HBL:Hid (bL < w.heap.size):=hG.map.lt;clear hs hf hrl hG hE hF;have hmm:=@run_makeMap prog;go_enter func106,ntmps106;have HB0:Hid (Below w.heap.size w ((w.alloc (.cells #[.map (some bL)] 196)).alloc (.cells #[.int .i64 0] 2))):=((Below.refl _ _).alloc (Nat.le_refl _) _).alloc (by simp) _;have HC0:Hid (((w.alloc (.cells #[.map (some bL)] 196)).alloc (.cells #[.int .i64 0] 2)).cell? ⟨w.heap.size,0,none⟩=some (.map (some bL))∧((w.alloc (.cells #[.map (some bL)] 196)).alloc (.cells #[.int .i64 0] 2)).cell? ⟨w.heap.size + 1,0,none⟩=some (.int .i64 0)∧((w.alloc (.cells #[.map (some bL)] 196)).alloc (.cells #[.int .i64 0] 2)).frozen? ⟨w.heap.size + 1,0,none⟩=false∧w.heap.size + 1 < ((w.alloc (.cells #[.map (some bL)] 196)).alloc (.cells #[.int .i64 0] 2)).heap.size):=⟨by simp,by simp,by simp,by simp⟩;go_wp2_with fail;go_loopw [17] (fun i wr=>∃ k:Nat,k≤rs.length∧i=.int .i64 k∧Hid (Below w.heap.size w wr)∧Hid (wr.cell? ⟨w.heap.size,0,none⟩=some (.map (some bL))∧wr.cell? ⟨w.heap.size + 1,0,none⟩=some (.int .i64 ((bP rs k).length:Int))∧wr.frozen? ⟨w.heap.size + 1,0,none⟩=false∧w.heap.size + 1 < wr.heap.size)) (fun i _=>rs.length - (intOf i).toNat);case atStart=>exact ⟨0,Nat.zero_le _,rfl,HB0,HC0⟩
 case round =>
  clear HB0 HC0;obtain ⟨k,hk,rfl,HB,HC⟩:=hrel;obtain ⟨c0,c1,c2,c3⟩:=HC.out;have hu:=sN rs HRL.out k;by_cases hlt:k < rs.length
  ·rcases HS.out.below HB.out with rfl | ⟨b,off,rfl,hb,hr,-⟩
   ·simp at hlt
   obtain ⟨t0,t1⟩:=hr k hlt;have hk1:=bR k;have hk2:(k:Int) < (rs.length:Int):=by omega
   have h6:=HRL.out _ (List.getElem_mem hlt);have HCN:Hid ((bP rs (k + 1)).length=(bP rs k).length + rs[k].rows.length):=by show _=_; rw [mq _ _ hlt,List.length_append]; simp [gy]
   obtain ⟨cn,hcn⟩:∃ cn,cn=(bP rs k).length:=⟨_,rfl⟩;rw [← hcn] at c1 hu HCN;have HB1:Hid (Below w.heap.size w ((wr.setCell ⟨w.heap.size + 1,0,none⟩ (.int .i64 ((cn:Int) + (rs[k].rows.length:Int)))).alloc (.cells #[.string rs[k].name,.slice rs[k].ad rs[k].rows.length rs[k].cap] 63))):=(HB.out.setCell (p:=⟨w.heap.size + 1,0,none⟩) (by simp) _).alloc (by simpa using HB.out.size) _;have HC1:Hid (((wr.setCell ⟨w.heap.size + 1,0,none⟩ (.int .i64 ((cn:Int) + (rs[k].rows.length:Int)))).alloc (.cells #[.string rs[k].name,.slice rs[k].ad rs[k].rows.length rs[k].cap] 63)).cell? ⟨w.heap.size,0,none⟩=some (.map (some bL))∧((wr.setCell ⟨w.heap.size + 1,0,none⟩ (.int .i64 ((cn:Int) + (rs[k].rows.length:Int)))).alloc (.cells #[.string rs[k].name,.slice rs[k].ad rs[k].rows.length rs[k].cap] 63)).cell? ⟨w.heap.size + 1,0,none⟩=some (.int .i64 ((bP rs (k + 1)).length:Int))∧((wr.setCell ⟨w.heap.size + 1,0,none⟩ (.int .i64 ((cn:Int) + (rs[k].rows.length:Int)))).alloc (.cells #[.string rs[k].name,.slice rs[k].ad rs[k].rows.length rs[k].cap] 63)).frozen? ⟨w.heap.size + 1,0,none⟩=false∧w.heap.size + 1 < ((wr.setCell ⟨w.heap.size + 1,0,none⟩ (.int .i64 ((cn:Int) + (rs[k].rows.length:Int)))).alloc (.cells #[.string rs[k].name,.slice rs[k].ad rs[k].rows.length rs[k].cap] 63)).heap.size):=by
    obtain ⟨X,hX⟩:∃ X,X=wr.setCell ⟨w.heap.size + 1,0,none⟩ (.int .i64 ((cn:Int) + (rs[k].rows.length:Int))):=⟨_,rfl⟩;have hXs:X.heap.size=wr.heap.size:=by rw [hX]; simp
    have hB:Below X.heap.size X (X.alloc (.cells #[.string rs[k].name,.slice rs[k].ad rs[k].rows.length rs[k].cap] 63)):=(Below.refl _ _).alloc (Nat.le_refl _) _;rw [← hX];refine ⟨ak hB (by omega) (by rw [hX,tV (by omega)]; exact c0),ak hB (by omega) (by rw [hX,HCN.out]; push_cast; exact vI c1),?_,by simp; omega⟩;rw [hB.frozen (p:=⟨w.heap.size + 1,0,none⟩) (by simp; omega),hX];simpa using c2
   clear hr hcn HC;go_wp2;go_roundw;case rel=>exact ⟨k + 1,by omega,by go_num,HB1,HC1⟩
   case measure=>simp [intOf] <;> omega
  ·obtain rfl:k=rs.length:=by omega
   have hEN:bP rs rs.length=az (ah rs):=by unfold bP; rw [List.take_length]
   rw [hEN] at c1 hu;obtain ⟨N,hN⟩:∃ N,N=(az (ah rs)).length:=⟨_,rfl⟩;rw [← hN] at c1 hu;have HNN:Hid (N=(az (ah rs)).length):=hN;have HEN:Hid (bP rs rs.length=az (ah rs)):=hEN;have hN36:N≤36:=by omega
   have hbl:=HBL.out;have hwr:w.heap.size≤wr.heap.size:=HB.out.size;obtain ⟨W0,hW0⟩:∃ W0,W0=(((wr.alloc (.map #[] 0)).alloc (.cells #[.map (some wr.heap.size)] 143)).alloc (.cells #[(.func (Fn.func 137) #[] #[.pointer (some ⟨wr.heap.size + 1,0,none⟩),.pointer (some ⟨w.heap.size + 1,0,none⟩),.pointer (some ⟨w.heap.size,0,none⟩),.pointer (some ⟨wr.heap.size + 1 + 1,0,none⟩)])] 235)):=⟨_,rfl⟩;have hal:Below wr.heap.size wr W0:=by
    rw [hW0]
    repeat (first | exact Below.refl _ _ | refine Below.alloc ?_ (by first | (simp; done) | (simp; omega)) _)
   have hs0:W0.heap.size=wr.heap.size + 3:=by rw [hW0]; simp
   have HRW:Hid (Rw W0 (wr.heap.size + 1) (w.heap.size + 1) w.heap.size (wr.heap.size + 1 + 1) wr.heap.size bL N 0 nL ML E (fun _=>none)):=by
    have hGr:Grp wr bL nL ML E:=HG.out.below HB.out;have hMV:aJ bI prog 147 W0 wr.heap.size 0 (gF (fun _=>none)):=by
     have h1:=oQ bI prog 147 wr;have e1:gF (fun _=>none)=fun _=>none:=by funext k; rfl
     rw [e1];refine h1.below ?_;rw [hW0]
     repeat (first | exact Below.refl _ _ | refine Below.alloc ?_ (by first | (simp; done) | (simp; omega)) _)
    have hcS:W0.cell? ⟨wr.heap.size + 1,0,none⟩=some (.map (some wr.heap.size)):=by
     rw [hW0];exact ak ((Below.refl _ _).alloc (Nat.le_refl _) _) (by simp) (Hw wr _ _ _ 0 rfl)
    have hcR:W0.cell? ⟨wr.heap.size + 1 + 1,0,none⟩=some (xR (wr.heap.size + 1) (w.heap.size + 1) w.heap.size (wr.heap.size + 1 + 1)):=by
     rw [hW0];exact Mc _ _ _ _ _ _ rfl
    exact ⟨hcS,ak hal (by omega) c1,ak hal (by omega) c0,hcR,by omega,by omega,by omega,by omega,hMV,hGr.below hal,by omega,hGr.fresh (Nat.le_refl _)⟩
   have HB0:=gW HB hal;clear hu hEN hN hal HC;go_wp2_with fail;rw [← hW0];clear hW0 c0 c1 c2 c3 HB;obtain ⟨bS,hbS⟩:∃ bS,bS=wr.heap.size:=⟨_,rfl⟩;obtain ⟨gS,hgS⟩:∃ gS,gS=wr.heap.size + 1:=⟨_,rfl⟩;obtain ⟨gR,hgR⟩:∃ gR,gR=wr.heap.size + 1 + 1:=⟨_,rfl⟩;obtain ⟨gC,hgC⟩:∃ gC,gC=w.heap.size + 1:=⟨_,rfl⟩;obtain ⟨gL,hgL⟩:∃ gL,gL=w.heap.size:=⟨_,rfl⟩;have hb1:w.heap.size≤bS:=by omega
   have HRW2:Hid (Rw W0 gS gC gL gR bS bL N 0 nL ML E (fun _=>none)):=by rw [hbS,hgS,hgR,hgC,hgL]; exact HRW
   have HI0:Hid (∃ (σ:Ky→Option Int) (n:Nat),Rw W0 gS gC gL gR bS bL N n nL ML E σ∧Rz (ah rs) N σ∧(n:Int) + jg N σ (az (ah rs))≤2000∧Raised E (fun _=>none) σ∧∀ key ∈ bP rs 0,∃ x,σ key=some x):=by
    refine ⟨fun _=>none,0,HRW2.out,⟨fun k x h=>by cases h⟩,?_,Raised.refl _ _,fun k hk=>by simp [bP,ah,az] at hk⟩;rw [Jy,← HNN.out];have h1:(N:Int) * N≤36 * 36:=Int.mul_le_mul (by omega) (by omega) (by omega) (by omega)
    push_cast; omega
   rw [← hgR,← hgS,← hbS,← hgC,← hgL];clear HRW HRW2 hs0 hmm hgR hgS hbS hgC hgL;go_loopw [31] (fun i w2=>∃ k:Nat,k≤rs.length∧i=.int .i64 k∧Hid (Below w.heap.size w w2)∧Hid (∃ (σ:Ky→Option Int) (n:Nat),Rw w2 gS gC gL gR bS bL N n nL ML E σ∧Rz (ah rs) N σ∧(n:Int) + jg N σ (az (ah rs))≤2000∧Raised E (fun _=>none) σ∧∀ key ∈ bP rs k,∃ x,σ key=some x)) (fun i _=>rs.length - (intOf i).toNat);case atStart=>exact ⟨0,Nat.zero_le _,rfl,HB0,HI0⟩
   case round =>
    clear HB0 HI0;obtain ⟨k,hk,rfl,HB,HI⟩:=hrel;by_cases hlt:k < rs.length
    ·rcases HS.out.below HB.out with rfl | ⟨b,off,rfl,hb,hr,-⟩
     ·simp at hlt
     obtain ⟨t0,t1⟩:=hr k hlt;have hk1:=bR k;have hk2:(k:Int) < (rs.length:Int):=by omega
     have h6:=HRL.out _ (List.getElem_mem hlt);obtain ⟨W1,hW1⟩:∃ W1,W1=wr.alloc (.cells #[.string rs[k].name,.slice rs[k].ad rs[k].rows.length rs[k].cap] 63):=⟨_,rfl⟩;have hal:Below wr.heap.size wr W1:=by rw [hW1]; exact (Below.refl _ _).alloc (Nat.le_refl _) _
     obtain ⟨g12,hg12⟩:∃ g12,g12=wr.heap.size:=⟨_,rfl⟩;have hbw:bS < wr.heap.size:=by obtain ⟨σ,n,hR,-⟩:=HI.out; exact hR.map.lt
     have HC12:Hid (W1.cell? ⟨g12,0,none⟩=some (.string rs[k].name)∧g12 < W1.heap.size∧g12 ≠ bS):=⟨by rw [hW1,hg12]; simp,by rw [hW1,hg12]; simp,by omega⟩;have HB1:=gW HB hal;have HI1:Hid (∃ (σ:Ky→Option Int) (n:Nat),Rw W1 gS gC gL gR bS bL N n nL ML E σ∧Rz (ah rs) N σ∧(n:Int) + jg N σ (az (ah rs))≤2000∧Raised E (fun _=>none) σ∧∀ key ∈ bP rs k,∃ x,σ key=some x):=by
      obtain ⟨σ,n,hR,h2⟩:=HI.out;exact ⟨σ,n,hR.below hal,h2⟩
     clear hr hal HI HB;go_wp2_with fail;rw [← hW1,← hg12];clear hW1 t0 t1 hg12;go_loopw [38] (fun i w3=>∃ j:Nat,j≤rs[k].rows.length∧i=.int .i64 j∧Hid (Below w.heap.size w w3)∧Hid (w3.cell? ⟨g12,0,none⟩=some (.string rs[k].name)∧g12 < w3.heap.size∧g12 ≠ bS)∧Hid (∃ (σ:Ky→Option Int) (n:Nat),Rw w3 gS gC gL gR bS bL N n nL ML E σ∧Rz (ah rs) N σ∧(n:Int) + jg N σ (az (ah rs))≤2000∧Raised E (fun _=>none) σ∧∀ key ∈ bP rs k ++ gy rs[k] j,∃ x,σ key=some x)) (fun i _=>rs[k].rows.length - (intOf i).toNat);case atStart=>exact ⟨0,Nat.zero_le _,rfl,HB1,HC12,by simpa [gy] using HI1⟩
     case round =>
      clear HB1 HC12 HI1;obtain ⟨j,hj,rfl,HB,HC,HI⟩:=hrel;by_cases hjl:j < rs[k].rows.length
      ·rcases HS.out.below HB.out with hnil | ⟨b',off',he,hb2,hr,hok⟩
       ·rw [hnil] at hlt; simp at hlt
       injection he with he; injection he with he1 he2; subst he1; subst he2;have ok:=hok rs[k] (List.getElem_mem hlt);rcases ok with hnil | ⟨b2,off2,had,hbb,hr2,-⟩
       ·rw [hnil] at hjl; simp at hjl
       obtain ⟨q0,q1⟩:=hr2 j hjl;have hj1:=bR j;have hj2:(j:Int) < (rs[k].rows.length:Int):=by omega
       obtain ⟨σ,n,hR,hZ,hn,hRa,hall⟩:=HI.out;obtain ⟨x0,x1,x2⟩:=HC.out;have cR:=hR.cR;unfold xR at cR;have lR:=hR.lR.1;obtain ⟨W3,hW3⟩:∃ W3,W3=wr.alloc (.cells #[.string rs[k].rows[j].name,.slice rs[k].rows[j].ad rs[k].rows[j].rows.length rs[k].rows[j].cap] 126):=⟨_,rfl⟩;have hal:Below wr.heap.size wr W3:=by rw [hW3]; exact (Below.refl _ _).alloc (Nat.le_refl _) _
       have HR3:Hid (Rw W3 gS gC gL gR bS bL N n nL ML E σ):=hR.below hal;have HZ3:Hid (Rz (ah rs) N σ):=hZ;have HB3:=gW HB hal;have HC3:Hid (W3.cell? ⟨g12,0,none⟩=some (.string rs[k].name)∧g12 < W3.heap.size∧g12 ≠ bS):=⟨ak hal x1 x0,Nat.lt_of_lt_of_le x1 hal.size,x2⟩;have HRA:Hid (Raised E (fun _=>none) σ):=hRa;have HAL:Hid (∀ key ∈ bP rs k ++ gy rs[k] j,∃ x,σ key=some x):=hall;have hmp:=hZ.mu_pos (az (ah rs));have HKM:Hid ((rs[k].name,rs[k].rows[j].name) ∈ az (ah rs)):=nP.2 ⟨rs[k].p,List.mem_map_of_mem (List.getElem_mem hlt),rs[k].rows[j].p,List.mem_map_of_mem (List.getElem_mem hjl),rfl⟩;rw [had];clear hr hok hr2 hal hR hZ hRa hall HI HB HC;go_wp2_with fail;rw [← hW3];clear hW3 q0 q1 cR x0;refine (GI (ah rs) gS gC gL gR bS bL N nL ML E HE.out HF.out HNN.out hN36 (GJ HFT.out) hEl (jg N σ (az (ah rs))).toNat _ σ n (rs[k].name,rs[k].rows[j].name) 0 HR3.out HZ3.out (by omega) (by omega) HKM.out (by omega) (by omega) (lu.zero _ _)).mono ?_;rintro e w5 ⟨ok,σ5,n5,rfl,hg5,hR5,hZ5,hn5,hm5,hf5,ht5⟩;have HB5:Hid (Below w.heap.size w w5):=HB3.out.grown hg5 HB3.out.size (fun i hi=>by injection hi with hi; omega);cases ok with
       | false =>
        have HP:Hid (Jw (ah rs) w (.returned (.tuple #[.map none,.bool false])) w5):=⟨.inr ⟨rfl,hf5 rfl⟩,HB5.out⟩;clear hg5 hR5 hZ5 hn5 hm5 hf5 ht5;go_wp2;refine bodyPost_ret (v:=.tuple #[.map none,.bool false]) ?_ rfl HP.out;simp [results,Tryz.results106,go_sem]
       | true =>
        have HI5:Hid (∃ (σ:Ky→Option Int) (n:Nat),Rw w5 gS gC gL gR bS bL N n nL ML E σ∧Rz (ah rs) N σ∧(n:Int) + jg N σ (az (ah rs))≤2000∧Raised E (fun _=>none) σ∧∀ key ∈ bP rs k ++ gy rs[k] (j + 1),∃ x,σ key=some x):=by
         obtain ⟨hRa,y,hy,-⟩:=ht5 rfl;refine ⟨σ5,n5,hR5,hZ5,by omega,HRA.out.trans hRa,fun key hk=>?_⟩;rw [qD _ _ hjl,← List.append_assoc] at hk;rcases List.mem_append.1 hk with hk | hk
         ·obtain ⟨x,hx⟩:=HAL.out key hk;obtain ⟨z,hz,-⟩:=hRa.mono key x hx;exact ⟨z,hz⟩
         ·simp at hk; subst hk; exact ⟨y,hy⟩
        have HC5:Hid (w5.cell? ⟨g12,0,none⟩=some (.string rs[k].name)∧g12 < w5.heap.size∧g12 ≠ bS):=⟨(oC hg5 HC3.out.2 0).trans HC3.out.1,Nat.lt_of_lt_of_le HC3.out.2.1 hg5.size,HC3.out.2.2⟩;clear hg5 hR5 hZ5 hn5 hm5 hf5 ht5;go_wp2;go_roundw;case rel=>exact ⟨j + 1,by omega,by go_num,HB5,HC5,HI5⟩
        case measure=>simp [intOf] <;> omega
      ·obtain rfl:j=rs[k].rows.length:=by omega
       have HI5:Hid (∃ (σ:Ky→Option Int) (n:Nat),Rw wr gS gC gL gR bS bL N n nL ML E σ∧Rz (ah rs) N σ∧(n:Int) + jg N σ (az (ah rs))≤2000∧Raised E (fun _=>none) σ∧∀ key ∈ bP rs (k + 1),∃ x,σ key=some x):=by rw [mq _ _ hlt]; exact HI
       clear HI;go_wp2;go_roundw;case rel=>exact ⟨k + 1,by omega,by go_num,HB,HI5⟩
       case measure=>simp [intOf] <;> omega
    ·obtain rfl:k=rs.length:=by omega
     obtain ⟨σ,n,hR,hZ,hn,hRa,hall⟩:=HI.out;have cS:=hR.cS;have HP:Hid (Jw (ah rs) w (.returned (.tuple #[.map (some bS),.bool true])) wr):=by
      rw [HEN.out] at hall;refine ⟨.inl ⟨bS,n,σ,rfl,hR.map,AX HE.out HF.out hZ hall (fun k=>hRa.done k (.inl (fun x h=>by cases h))),fun k=>⟨fun ⟨x,hx⟩=>(hZ.there k x hx).1,hall k⟩⟩,HB.out⟩
     clear hR hZ hn hRa hall HI;go_wp2;refine bodyPost_ret (v:=.tuple #[.map (some bS),.bool true]) ?_ rfl HP.out;simp [results,Tryz.results106,go_sem]
theorem GK (ng:Bool) (xs:List Al):bM ng xs=(bW xs).map fun a=>(⟨a.t,a.s,ng⟩:Dp):=by
 induction xs with
 | nil=>rfl
 | cons a xs ih=>simp only [bM,bW]; split <;> simp [ih]
theorem zI (ts:List Ty) (typ:ByteArray) (ng:Bool) (e:Ex) (hn:ay e=true) (hd:e.kind=3→bv (aN ts typ e.over)=true):bM ng e.allow ++ lq ts typ ng e=(fU ts typ e).map fun a=>(⟨a.t,a.s,ng⟩:Dp):=by
 by_cases h1:e.kind=1
 ·unfold lq fU;rw [if_neg (by omega),if_neg (by omega),if_pos h1,List.append_nil,GK]
 ·rw [qG hn h1];unfold lq fU;rw [if_neg h1];by_cases h2:e.kind=2
  ·rw [if_pos h2,if_pos h2]; rfl
  ·rw [if_neg h2,if_neg h2];by_cases h3:e.kind=3
   ·rw [if_pos h3,if_pos h3];unfold eG;rw [if_pos (hd h3),List.map_map];rfl
   ·rw [if_neg h3,if_neg h3]; rfl
theorem zJ {ts:List Ty} {typ:ByteArray} {es:List Ex} {d:Dp} {i:Nat} (hd:d ∈ jD ts typ es i):∀ {k:Nat},i < k→d ∈ aK ts typ es k
 | 0,h=>by omega
 | k + 1,h=>by
  simp only [aK];by_cases e:i=k
  ·subst e; exact List.mem_append.2 (.inr hd)
  ·exact List.mem_append.2 (.inl (zJ hd (by omega)))
theorem xU {ts:List Ty} {t r:ByteArray} {es:List Ex} {x:Ky × St}:∀ {k:Nat},x ∈ relE ts t r es k ↔ ∃ i,i < k∧∃ e,es[i]?=some e∧x ∈ xP ts t r ((dD es).getD i false) e
 | 0=>by simp [relE]
 | k + 1=>by
  simp only [relE,List.mem_append];rw [xU];constructor
  ·rintro (⟨i,hi,h⟩ | h)
   ·exact ⟨i,by omega,h⟩
   ·cases e:es[k]? with
    | none=>rw [e] at h; cases h
    | some y=>rw [e] at h; exact ⟨k,by omega,y,e,h⟩
  ·rintro ⟨i,hi,e,he,h⟩;by_cases ek:i=k
   ·subst ek; right; rw [he]; exact h
   ·exact .inl ⟨i,by omega,e,he,h⟩
theorem xV {rs:List TR} (h:cu (ah rs)=true) {t:TR} (ht:t ∈ rs) {q:RR} (hq:q ∈ t.rows):fE (ah rs) t.name q.name=some (au q.rows):=by
 have hT:=wN h;have hs:=pW (M:=fun _=>none) (rs:=rs) (k:=(t.name,q.name)) (.inr ⟨t,ht,q,hq,rfl⟩);obtain ⟨v,hv⟩:=Option.isSome_iff_exists.1 hs;obtain ⟨t',ht',q',hq',e,-,e2,-⟩:=hT.yes _ v hv;injection e with e3 e4;have h1:t=t':=BI h ht ht' e3;subst h1;obtain ⟨i,hi,rfl⟩:=List.mem_iff_getElem.1 ht;have h2:q=q':=BJ (oU h i hi).2.2 hq hq' e4;subst h2;exact e2
theorem oD {es:List Ex} (h:aS es=true):∀ e ∈ es,ay e=true:=by
 simp only [aS,Bool.and_eq_true] at h;exact List.all_eq_true.1 h.1.1.1.2
theorem Ck (t r:ByteArray) (ng:Bool):stepOf ⟨t,r,ng⟩=jI ng:=by cases ng <;> rfl
theorem KZ {rs:List TR} (h:cu (ah rs)=true) (hr:je (ah rs)=true):Edge (ah rs) (gU (ah rs) rs):=by
 have hnode:∀ t ∈ rs,∀ q ∈ t.rows,∀ e ∈ au q.rows,ay e=true∧(e.kind=3→bv (aN (ah rs) t.name e.over)=true):=by
  intro t ht q hq e he;have h1:=((dF h).2.2 t ht q hq).1;refine ⟨oD h1 e he,fun h3=>?_⟩;unfold je at hr;rw [List.all_eq_true] at hr;have h2:=hr t.p (List.mem_map_of_mem ht);unfold nO at h2;rw [List.all_eq_true] at h2;have h4:aO (ah rs) t.name (au q.rows)=true:=h2 q.p (List.mem_map_of_mem hq);have h5:=(zf h4 e he).2;unfold kS at h5;rw [if_neg (by omega),if_pos h3,Bool.and_eq_true] at h5;exact h5.1
 intro on t0 r0 s;constructor
 ·intro hm;unfold gU gQ at hm;rw [List.mem_flatMap] at hm;obtain ⟨t,ht,hm⟩:=hm;rw [List.mem_flatMap] at hm;obtain ⟨q,hq,hm⟩:=hm;obtain ⟨i,hi,e,he,hm⟩:=xU.1 hm;unfold xP at hm;obtain ⟨a,ha,e1⟩:=List.mem_map.1 hm;injection e1 with e2 e3;injection e3 with e4 e5 e6;subst e4; subst e5;refine ⟨nP.2 ⟨t.p,List.mem_map_of_mem ht,q.p,List.mem_map_of_mem hq,rfl⟩,⟨a.t,a.s,(dD (au q.rows)).getD i false⟩,?_,e2,by rw [Ck]; exact e6⟩;unfold fI nN;have ero:aN (ah rs) t.name q.name=au q.rows:=by unfold aN; rw [xV h ht hq]; rfl
  simp only [ero];have hi2:i < (au q.rows).length:=(List.getElem?_eq_some_iff.1 he).1;refine zJ (i:=i) ?_ hi2;unfold jD;rw [he];obtain ⟨n1,n2⟩:=hnode t ht q hq e (List.mem_of_getElem? he);simp only;rw [zI _ _ _ _ n1 n2];exact List.mem_map_of_mem (f:=fun a:Al=>(⟨a.t,a.s,(dD (au q.rows)).getD i false⟩:Dp)) ha
 ·rintro ⟨hk,d,hd,e1,e2⟩;obtain ⟨t',ht',r',hr',e3⟩:=nP.1 hk;obtain ⟨t,ht,rfl⟩:=List.mem_map.1 ht';obtain ⟨q,hq,rfl⟩:=List.mem_map.1 hr';injection e3 with e4 e5;subst e4; subst e5;unfold fI nN at hd;have ero:aN (ah rs) t.p.name q.p.name=au q.rows:=by
   have:=xV h ht hq;show aN (ah rs) t.name q.name=_;unfold aN; rw [this]; rfl
  simp only [ero] at hd;obtain ⟨i,hi,hd⟩:=qC hd;unfold jD at hd;split at hd
  ·cases hd
  ·rename_i e he;obtain ⟨n1,n2⟩:=hnode t ht q hq e (List.mem_of_getElem? he);have hdn:bM ((dD (au q.rows)).getD i false) e.allow ++ lq (ah rs) t.p.name ((dD (au q.rows)).getD i false) e=_:=zI (ah rs) t.name _ e n1 n2;rw [hdn] at hd;obtain ⟨a,ha,rfl⟩:=List.mem_map.1 hd;unfold gU gQ;rw [List.mem_flatMap];refine ⟨t,ht,?_⟩;rw [List.mem_flatMap];refine ⟨q,hq,xU.2 ⟨i,by rw [bq] at hi; exact hi,e,he,?_⟩⟩;unfold xP;rw [List.mem_map];refine ⟨a,ha,?_⟩;rw [← e1,← e2,Ck];rfl
theorem Jz {rs:List TR} (h:cu (ah rs)=true):∀ r ∈ rs,∀ q ∈ r.rows,∀ e ∈ q.rows,e.e.allow.length≤6:=by
 intro r hr q hq e he;have h1:=oD ((dF h).2.2 r hr q hq).1 e.e (by unfold au; exact List.mem_map_of_mem he);by_cases h2:e.e.kind=1
 ·unfold ay at h1;rw [if_pos h2] at h1;simp only [Bool.and_eq_true,dB,decide_eq_true_eq] at h1;exact h1.1.1.1.1.2
 ·rw [qG h1 h2]; simp
theorem oF {α β:Type} (f:α→List β) (B:Nat):∀ (xs:List α),(∀ x ∈ xs,(f x).length≤B)→(xs.flatMap f).length≤xs.length * B
 | [],_=>by simp
 | x::xs,h=>by
  rw [List.flatMap_cons,List.length_append,List.length_cons,Nat.succ_mul];have h1:=h x (by simp);have h2:=oF f B xs fun q hq=>h q (by simp [hq]);omega
theorem GL (rs:List TR) (h6:∀ r ∈ rs,r.rows.length≤6) (hex:∀ r ∈ rs,∀ q ∈ r.rows,aS (au q.rows)=true∧q.rows.length≤15∧∀ e ∈ q.rows,bY q.rows.length e.e.kids) (h66:∀ r ∈ rs,∀ q ∈ r.rows,∀ e ∈ q.rows,e.e.allow.length≤6) (hl:rs.length≤6:=by omega):(gU (ah rs) rs).length≤100000:=by
 have h1:∀ t ∈ rs,(gQ (ah rs) t.name t.rows).length≤540:=by
  intro t ht;have h2:∀ q ∈ t.rows,(relE (ah rs) t.name q.name (au q.rows) q.rows.length).length≤90:=by
   intro q hq;have h3:∀ k,k≤q.rows.length→(relE (ah rs) t.name q.name (au q.rows) k).length≤k * 6:=by
    intro k
    induction k with
    | zero=>intro _; simp [relE]
    | succ k ih =>
     intro hk;rw [tq _ _ _ _ _ (by omega) _ rfl,List.length_append];have h4:=ih (by omega);have h5:(xP (ah rs) t.name q.name ((dD (au q.rows)).getD k false) q.rows[k].e).length≤6:=by
      unfold xP;rw [List.length_map];exact tC rs h66 _ _ (h66 t ht q hq _ (List.getElem_mem (by omega)))
     omega
   have h4:=h3 q.rows.length (Nat.le_refl _);have h5:=(hex t ht q hq).2.1;omega
  have h3:=oF (fun q:RR=>relE (ah rs) t.name q.name (au q.rows) q.rows.length) 90 t.rows h2;have h4:=h6 t ht;unfold gQ;omega
 have h2:=oF (fun t:TR=>gQ (ah rs) t.name t.rows) 540 rs h1;unfold gU;omega
end Go.Proofs.YteoflgocljfgeaaGreatDoor
