/- Contract of the program's function on the least strata. -/
import Derived.Test.YtdaoiceeidoehaaGreatJ17
import Derived.Laws.EntriesVeiled
open Go.Proofs.Tryz
set_option maxHeartbeats 80000000
namespace Go.Proofs.YtdaoiceeidoehaaGreat
open Go.ChangeShapes Go.WideShapes Go.ChangeAt Go.RowKit Go.Maps
open Pl
def Jf (ts:List Ty) (w:World) (e:Ending) (w':World):Prop :=
 ((∃ (b n:Nat) (σ:Ky→Option Int),e=.returned (.tuple #[.map (some b),.bool true])∧aB bn prog 130 w' b n (gF σ)∧Least ts (fun k=>(σ k).getD 0)∧∀ k,(∃ x,σ k=some x) ↔ k ∈ aj ts) ∨ (e=.returned (.tuple #[.map none,.bool false])∧¬ ∃ f,Sol ts f))∧Below w.heap.size w w'
theorem Jg (N:Nat) (ks:List Ky):iH N (fun _=>none) ks=N * ks.length:=by
 induction ks with
 | nil=>simp [iH]
 | cons k ks ih=>simp only [iH,ih,qX,List.length_cons]; push_cast; rw [Int.mul_add]; omega
theorem Gw {rs:List TR} (hf:∀ r ∈ rs,r.fits):∀ k ∈ aj (ae rs),k.1.size≤maxLen∧k.2.size≤maxLen:=by
 intro k hk;obtain ⟨t,ht,r,hr,rfl⟩:=lN.1 hk;obtain ⟨t',ht',rfl⟩:=List.mem_map.1 ht;obtain ⟨q,hq,rfl⟩:=List.mem_map.1 hr;exact ⟨(hf t' ht').1,((hf t' ht').2.2 q hq).1⟩
set_option maxRecDepth 100000 in
theorem sK (ad:Option Addr) (cap:Nat) (rs:List TR) (bL nL:Nat) (ML:Ky→Option Value) (E:List (Ky × St)) (w:World) (hlen:rs.length≤6) (hs:eY w ad rs) (hf:∀ r ∈ rs,r.fits) (hrl:∀ r ∈ rs,r.rows.length≤6) (hG:Grp w bL nL ML E) (hE:Edge (ae rs) E) (hF:Found (ae rs)) (hEl:E.length≤100000) :
  Calls prog 119 #[.slice ad rs.length cap,.map (some bL)] w (Jf (ae rs) w):=by
 have HS:Hid (eY w ad rs):=hs;have HFT:Hid (∀ r ∈ rs,r.fits):=hf;have HRL:Hid (∀ r ∈ rs,r.rows.length≤6):=hrl;have HG:Hid (Grp w bL nL ML E):=hG;have HE:Hid (Edge (ae rs) E):=hE;have HF:Hid (Found (ae rs)):=hF;have HBL:Hid (bL < w.heap.size):=hG.map.lt;clear hs hf hrl hG hE hF;have hmm:=@run_makeMap prog;go_enter func119,ntmps119;have HB0:Hid (Below w.heap.size w ((w.alloc (.cells #[.map (some bL)] 212)).alloc (.cells #[.int .i64 0] 2))):=((Below.refl _ _).alloc (Nat.le_refl _) _).alloc (by simp) _;have HC0:Hid (((w.alloc (.cells #[.map (some bL)] 212)).alloc (.cells #[.int .i64 0] 2)).cell? ⟨w.heap.size,0,none⟩=some (.map (some bL))∧((w.alloc (.cells #[.map (some bL)] 212)).alloc (.cells #[.int .i64 0] 2)).cell? ⟨w.heap.size + 1,0,none⟩=some (.int .i64 0)∧((w.alloc (.cells #[.map (some bL)] 212)).alloc (.cells #[.int .i64 0] 2)).frozen? ⟨w.heap.size + 1,0,none⟩=false∧w.heap.size + 1 < ((w.alloc (.cells #[.map (some bL)] 212)).alloc (.cells #[.int .i64 0] 2)).heap.size):=⟨by simp,by simp,by simp,by simp⟩;go_wp2_with fail;go_loopw [17] (fun i wr=>∃ k:Nat,k≤rs.length∧i=.int .i64 k∧Hid (Below w.heap.size w wr)∧Hid (wr.cell? ⟨w.heap.size,0,none⟩=some (.map (some bL))∧wr.cell? ⟨w.heap.size + 1,0,none⟩=some (.int .i64 ((bG rs k).length:Int))∧wr.frozen? ⟨w.heap.size + 1,0,none⟩=false∧w.heap.size + 1 < wr.heap.size)) (fun i _=>rs.length - (intOf i).toNat);case atStart=>exact ⟨0,Nat.zero_le _,rfl,HB0,HC0⟩
 case round =>
  clear HB0 HC0;obtain ⟨k,hk,rfl,HB,HC⟩:=hrel;obtain ⟨c0,c1,c2,c3⟩:=HC.out;have hu:=qQ rs HRL.out k;by_cases hlt:k < rs.length
  ·rcases HS.out.below HB.out with rfl | ⟨b,off,rfl,hb,hr,-⟩
   ·simp at hlt
   obtain ⟨t0,t1⟩:=hr k hlt;have hk1:=aY k;have hk2:(k:Int) < (rs.length:Int):=by omega
   have h6:=HRL.out _ (List.getElem_mem hlt);have HCN:Hid ((bG rs (k + 1)).length=(bG rs k).length + rs[k].rows.length):=by show _=_; rw [kF _ _ hlt,List.length_append]; simp [gy]
   obtain ⟨cn,hcn⟩:∃ cn,cn=(bG rs k).length:=⟨_,rfl⟩;rw [← hcn] at c1 hu HCN;have HB1:Hid (Below w.heap.size w ((wr.setCell ⟨w.heap.size + 1,0,none⟩ (.int .i64 ((cn:Int) + (rs[k].rows.length:Int)))).alloc (.cells #[.string rs[k].name,.slice rs[k].ad rs[k].rows.length rs[k].cap] 70))):=(HB.out.setCell (p:=⟨w.heap.size + 1,0,none⟩) (by simp) _).alloc (by simpa using HB.out.size) _;have HC1:Hid (((wr.setCell ⟨w.heap.size + 1,0,none⟩ (.int .i64 ((cn:Int) + (rs[k].rows.length:Int)))).alloc (.cells #[.string rs[k].name,.slice rs[k].ad rs[k].rows.length rs[k].cap] 70)).cell? ⟨w.heap.size,0,none⟩=some (.map (some bL))∧((wr.setCell ⟨w.heap.size + 1,0,none⟩ (.int .i64 ((cn:Int) + (rs[k].rows.length:Int)))).alloc (.cells #[.string rs[k].name,.slice rs[k].ad rs[k].rows.length rs[k].cap] 70)).cell? ⟨w.heap.size + 1,0,none⟩=some (.int .i64 ((bG rs (k + 1)).length:Int))∧((wr.setCell ⟨w.heap.size + 1,0,none⟩ (.int .i64 ((cn:Int) + (rs[k].rows.length:Int)))).alloc (.cells #[.string rs[k].name,.slice rs[k].ad rs[k].rows.length rs[k].cap] 70)).frozen? ⟨w.heap.size + 1,0,none⟩=false∧w.heap.size + 1 < ((wr.setCell ⟨w.heap.size + 1,0,none⟩ (.int .i64 ((cn:Int) + (rs[k].rows.length:Int)))).alloc (.cells #[.string rs[k].name,.slice rs[k].ad rs[k].rows.length rs[k].cap] 70)).heap.size):=by
    obtain ⟨X,hX⟩:∃ X,X=wr.setCell ⟨w.heap.size + 1,0,none⟩ (.int .i64 ((cn:Int) + (rs[k].rows.length:Int))):=⟨_,rfl⟩;have hXs:X.heap.size=wr.heap.size:=by rw [hX]; simp
    have hB:Below X.heap.size X (X.alloc (.cells #[.string rs[k].name,.slice rs[k].ad rs[k].rows.length rs[k].cap] 70)):=(Below.refl _ _).alloc (Nat.le_refl _) _;rw [← hX];refine ⟨ai hB (by omega) (by rw [hX,dZ (by omega)]; exact c0),ai hB (by omega) (by rw [hX,HCN.out]; push_cast; exact nC c1),?_,by simp; omega⟩;rw [hB.frozen (p:=⟨w.heap.size + 1,0,none⟩) (by simp; omega),hX];simpa using c2
   clear hr hcn HC;go_wp2;go_roundw;case rel=>exact ⟨k + 1,by omega,by go_num,HB1,HC1⟩
   case measure=>simp [intOf] <;> omega
  ·obtain rfl:k=rs.length:=by omega
   have hEN:bG rs rs.length=aj (ae rs):=by unfold bG; rw [List.take_length]
   rw [hEN] at c1 hu;obtain ⟨N,hN⟩:∃ N,N=(aj (ae rs)).length:=⟨_,rfl⟩;rw [← hN] at c1 hu;have HNN:Hid (N=(aj (ae rs)).length):=hN;have HEN:Hid (bG rs rs.length=aj (ae rs)):=hEN;have hN36:N≤36:=by omega
   have hbl:=HBL.out;have hwr:w.heap.size≤wr.heap.size:=HB.out.size;obtain ⟨W0,hW0⟩:∃ W0,W0=(((wr.alloc (.map #[] 0)).alloc (.cells #[.map (some wr.heap.size)] 173)).alloc (.cells #[(.func (Fn.func 145) #[] #[.pointer (some ⟨wr.heap.size + 1,0,none⟩),.pointer (some ⟨w.heap.size + 1,0,none⟩),.pointer (some ⟨w.heap.size,0,none⟩),.pointer (some ⟨wr.heap.size + 1 + 1,0,none⟩)])] 237)):=⟨_,rfl⟩;have hal:Below wr.heap.size wr W0:=by
    rw [hW0]
    repeat (first | exact Below.refl _ _ | refine Below.alloc ?_ (by first | (simp; done) | (simp; omega)) _)
   have hs0:W0.heap.size=wr.heap.size + 3:=by rw [hW0]; simp
   have HRW:Hid (Rw W0 (wr.heap.size + 1) (w.heap.size + 1) w.heap.size (wr.heap.size + 1 + 1) wr.heap.size bL N 0 nL ML E (fun _=>none)):=by
    have hGr:Grp wr bL nL ML E:=HG.out.below HB.out;have hMV:aB bn prog 130 W0 wr.heap.size 0 (gF (fun _=>none)):=by
     have h1:=iA bn prog 130 wr;have e1:gF (fun _=>none)=fun _=>none:=by funext k; rfl
     rw [e1];refine h1.below ?_;rw [hW0]
     repeat (first | exact Below.refl _ _ | refine Below.alloc ?_ (by first | (simp; done) | (simp; omega)) _)
    have hcS:W0.cell? ⟨wr.heap.size + 1,0,none⟩=some (.map (some wr.heap.size)):=by
     rw [hW0];exact ai ((Below.refl _ _).alloc (Nat.le_refl _) _) (by simp) (gT wr _ _ _ 0 rfl)
    have hcR:W0.cell? ⟨wr.heap.size + 1 + 1,0,none⟩=some (vC (wr.heap.size + 1) (w.heap.size + 1) w.heap.size (wr.heap.size + 1 + 1)):=by
     rw [hW0];exact jJ _ _ _ _ _ _ rfl
    exact ⟨hcS,ai hal (by omega) c1,ai hal (by omega) c0,hcR,by omega,by omega,by omega,by omega,hMV,hGr.below hal,by omega,hGr.fresh (Nat.le_refl _)⟩
   have HB0:=fK HB hal;clear hu hEN hN hal HC;go_wp2_with fail;rw [← hW0];clear hW0 c0 c1 c2 c3 HB;obtain ⟨bS,hbS⟩:∃ bS,bS=wr.heap.size:=⟨_,rfl⟩;obtain ⟨gS,hgS⟩:∃ gS,gS=wr.heap.size + 1:=⟨_,rfl⟩;obtain ⟨gR,hgR⟩:∃ gR,gR=wr.heap.size + 1 + 1:=⟨_,rfl⟩;obtain ⟨gC,hgC⟩:∃ gC,gC=w.heap.size + 1:=⟨_,rfl⟩;obtain ⟨gL,hgL⟩:∃ gL,gL=w.heap.size:=⟨_,rfl⟩;have hb1:w.heap.size≤bS:=by omega
   have HRW2:Hid (Rw W0 gS gC gL gR bS bL N 0 nL ML E (fun _=>none)):=by rw [hbS,hgS,hgR,hgC,hgL]; exact HRW
   have HI0:Hid (∃ (σ:Ky→Option Int) (n:Nat),Rw W0 gS gC gL gR bS bL N n nL ML E σ∧Rz (ae rs) N σ∧(n:Int) + iH N σ (aj (ae rs))≤2000∧Raised E (fun _=>none) σ∧∀ key ∈ bG rs 0,∃ x,σ key=some x):=by
    refine ⟨fun _=>none,0,HRW2.out,⟨fun k x h=>by cases h⟩,?_,Raised.refl _ _,fun k hk=>by simp [bG,ae,aj] at hk⟩;rw [Jg,← HNN.out];have h1:(N:Int) * N≤36 * 36:=Int.mul_le_mul (by omega) (by omega) (by omega) (by omega)
    push_cast; omega
   rw [← hgR,← hgS,← hbS,← hgC,← hgL];clear HRW HRW2 hs0 hmm hgR hgS hbS hgC hgL;go_loopw [31] (fun i w2=>∃ k:Nat,k≤rs.length∧i=.int .i64 k∧Hid (Below w.heap.size w w2)∧Hid (∃ (σ:Ky→Option Int) (n:Nat),Rw w2 gS gC gL gR bS bL N n nL ML E σ∧Rz (ae rs) N σ∧(n:Int) + iH N σ (aj (ae rs))≤2000∧Raised E (fun _=>none) σ∧∀ key ∈ bG rs k,∃ x,σ key=some x)) (fun i _=>rs.length - (intOf i).toNat);case atStart=>exact ⟨0,Nat.zero_le _,rfl,HB0,HI0⟩
   case round =>
    clear HB0 HI0;obtain ⟨k,hk,rfl,HB,HI⟩:=hrel;by_cases hlt:k < rs.length
    ·rcases HS.out.below HB.out with rfl | ⟨b,off,rfl,hb,hr,-⟩
     ·simp at hlt
     obtain ⟨t0,t1⟩:=hr k hlt;have hk1:=aY k;have hk2:(k:Int) < (rs.length:Int):=by omega
     have h6:=HRL.out _ (List.getElem_mem hlt);obtain ⟨W1,hW1⟩:∃ W1,W1=wr.alloc (.cells #[.string rs[k].name,.slice rs[k].ad rs[k].rows.length rs[k].cap] 70):=⟨_,rfl⟩;have hal:Below wr.heap.size wr W1:=by rw [hW1]; exact (Below.refl _ _).alloc (Nat.le_refl _) _
     obtain ⟨g12,hg12⟩:∃ g12,g12=wr.heap.size:=⟨_,rfl⟩;have hbw:bS < wr.heap.size:=by obtain ⟨σ,n,hR,-⟩:=HI.out; exact hR.map.lt
     have HC12:Hid (W1.cell? ⟨g12,0,none⟩=some (.string rs[k].name)∧g12 < W1.heap.size∧g12 ≠ bS):=⟨by rw [hW1,hg12]; simp,by rw [hW1,hg12]; simp,by omega⟩;have HB1:=fK HB hal;have HI1:Hid (∃ (σ:Ky→Option Int) (n:Nat),Rw W1 gS gC gL gR bS bL N n nL ML E σ∧Rz (ae rs) N σ∧(n:Int) + iH N σ (aj (ae rs))≤2000∧Raised E (fun _=>none) σ∧∀ key ∈ bG rs k,∃ x,σ key=some x):=by
      obtain ⟨σ,n,hR,h2⟩:=HI.out;exact ⟨σ,n,hR.below hal,h2⟩
     clear hr hal HI HB;go_wp2_with fail;rw [← hW1,← hg12];clear hW1 t0 t1 hg12;go_loopw [38] (fun i w3=>∃ j:Nat,j≤rs[k].rows.length∧i=.int .i64 j∧Hid (Below w.heap.size w w3)∧Hid (w3.cell? ⟨g12,0,none⟩=some (.string rs[k].name)∧g12 < w3.heap.size∧g12 ≠ bS)∧Hid (∃ (σ:Ky→Option Int) (n:Nat),Rw w3 gS gC gL gR bS bL N n nL ML E σ∧Rz (ae rs) N σ∧(n:Int) + iH N σ (aj (ae rs))≤2000∧Raised E (fun _=>none) σ∧∀ key ∈ bG rs k ++ gy rs[k] j,∃ x,σ key=some x)) (fun i _=>rs[k].rows.length - (intOf i).toNat);case atStart=>exact ⟨0,Nat.zero_le _,rfl,HB1,HC12,by simpa [gy] using HI1⟩
     case round =>
      clear HB1 HC12 HI1;obtain ⟨j,hj,rfl,HB,HC,HI⟩:=hrel;by_cases hjl:j < rs[k].rows.length
      ·rcases HS.out.below HB.out with hnil | ⟨b',off',he,hb2,hr,hok⟩
       ·rw [hnil] at hlt; simp at hlt
       injection he with he; injection he with he1 he2; subst he1; subst he2;have ok:=hok rs[k] (List.getElem_mem hlt);rcases ok with hnil | ⟨b2,off2,had,hbb,hr2,-⟩
       ·rw [hnil] at hjl; simp at hjl
       obtain ⟨q0,q1⟩:=hr2 j hjl;have hj1:=aY j;have hj2:(j:Int) < (rs[k].rows.length:Int):=by omega
       obtain ⟨σ,n,hR,hZ,hn,hRa,hall⟩:=HI.out;obtain ⟨x0,x1,x2⟩:=HC.out;have cR:=hR.cR;unfold vC at cR;have lR:=hR.lR.1;obtain ⟨W3,hW3⟩:∃ W3,W3=wr.alloc (.cells #[.string rs[k].rows[j].name,.slice rs[k].rows[j].ad rs[k].rows[j].rows.length rs[k].rows[j].cap] 152):=⟨_,rfl⟩;have hal:Below wr.heap.size wr W3:=by rw [hW3]; exact (Below.refl _ _).alloc (Nat.le_refl _) _
       have HR3:Hid (Rw W3 gS gC gL gR bS bL N n nL ML E σ):=hR.below hal;have HZ3:Hid (Rz (ae rs) N σ):=hZ;have HB3:=fK HB hal;have HC3:Hid (W3.cell? ⟨g12,0,none⟩=some (.string rs[k].name)∧g12 < W3.heap.size∧g12 ≠ bS):=⟨ai hal x1 x0,Nat.lt_of_lt_of_le x1 hal.size,x2⟩;have HRA:Hid (Raised E (fun _=>none) σ):=hRa;have HAL:Hid (∀ key ∈ bG rs k ++ gy rs[k] j,∃ x,σ key=some x):=hall;have hmp:=hZ.mu_pos (aj (ae rs));have HKM:Hid ((rs[k].name,rs[k].rows[j].name) ∈ aj (ae rs)):=lN.2 ⟨rs[k].p,List.mem_map_of_mem (List.getElem_mem hlt),rs[k].rows[j].p,List.mem_map_of_mem (List.getElem_mem hjl),rfl⟩;rw [had];clear hr hok hr2 hal hR hZ hRa hall HI HB HC;go_wp2_with fail;rw [← hW3];clear hW3 q0 q1 cR x0;refine (F6 (ae rs) gS gC gL gR bS bL N nL ML E HE.out HF.out HNN.out hN36 (Gw HFT.out) hEl (iH N σ (aj (ae rs))).toNat _ σ n (rs[k].name,rs[k].rows[j].name) 0 HR3.out HZ3.out (by omega) (by omega) HKM.out (by omega) (by omega) (jS.zero _ _)).mono ?_;rintro e w5 ⟨ok,σ5,n5,rfl,hg5,hR5,hZ5,hn5,hm5,hf5,ht5⟩;have HB5:Hid (Below w.heap.size w w5):=HB3.out.grown hg5 HB3.out.size (fun i hi=>by injection hi with hi; omega);cases ok with
       | false =>
        have HP:Hid (Jf (ae rs) w (.returned (.tuple #[.map none,.bool false])) w5):=⟨.inr ⟨rfl,hf5 rfl⟩,HB5.out⟩;clear hg5 hR5 hZ5 hn5 hm5 hf5 ht5;go_wp2;refine bodyPost_ret (v:=.tuple #[.map none,.bool false]) ?_ rfl HP.out;simp [results,Tryz.results119,go_sem]
       | true =>
        have HI5:Hid (∃ (σ:Ky→Option Int) (n:Nat),Rw w5 gS gC gL gR bS bL N n nL ML E σ∧Rz (ae rs) N σ∧(n:Int) + iH N σ (aj (ae rs))≤2000∧Raised E (fun _=>none) σ∧∀ key ∈ bG rs k ++ gy rs[k] (j + 1),∃ x,σ key=some x):=by
         obtain ⟨hRa,y,hy,-⟩:=ht5 rfl;refine ⟨σ5,n5,hR5,hZ5,by omega,HRA.out.trans hRa,fun key hk=>?_⟩;rw [oD _ _ hjl,← List.append_assoc] at hk;rcases List.mem_append.1 hk with hk | hk
         ·obtain ⟨x,hx⟩:=HAL.out key hk;obtain ⟨z,hz,-⟩:=hRa.mono key x hx;exact ⟨z,hz⟩
         ·simp at hk; subst hk; exact ⟨y,hy⟩
        have HC5:Hid (w5.cell? ⟨g12,0,none⟩=some (.string rs[k].name)∧g12 < w5.heap.size∧g12 ≠ bS):=⟨(iM hg5 HC3.out.2 0).trans HC3.out.1,Nat.lt_of_lt_of_le HC3.out.2.1 hg5.size,HC3.out.2.2⟩;clear hg5 hR5 hZ5 hn5 hm5 hf5 ht5;go_wp2;go_roundw;case rel=>exact ⟨j + 1,by omega,by go_num,HB5,HC5,HI5⟩
        case measure=>simp [intOf] <;> omega
      ·obtain rfl:j=rs[k].rows.length:=by omega
       have HI5:Hid (∃ (σ:Ky→Option Int) (n:Nat),Rw wr gS gC gL gR bS bL N n nL ML E σ∧Rz (ae rs) N σ∧(n:Int) + iH N σ (aj (ae rs))≤2000∧Raised E (fun _=>none) σ∧∀ key ∈ bG rs (k + 1),∃ x,σ key=some x):=by rw [kF _ _ hlt]; exact HI
       clear HI;go_wp2;go_roundw;case rel=>exact ⟨k + 1,by omega,by go_num,HB,HI5⟩
       case measure=>simp [intOf] <;> omega
    ·obtain rfl:k=rs.length:=by omega
     obtain ⟨σ,n,hR,hZ,hn,hRa,hall⟩:=HI.out;have cS:=hR.cS;have HP:Hid (Jf (ae rs) w (.returned (.tuple #[.map (some bS),.bool true])) wr):=by
      rw [HEN.out] at hall;refine ⟨.inl ⟨bS,n,σ,rfl,hR.map,zB HE.out HF.out hZ hall (fun k=>hRa.done k (.inl (fun x h=>by cases h))),fun k=>⟨fun ⟨x,hx⟩=>(hZ.there k x hx).1,hall k⟩⟩,HB.out⟩
     clear hR hZ hn hRa hall HI;go_wp2;refine bodyPost_ret (v:=.tuple #[.map (some bS),.bool true]) ?_ rfl HP.out;simp [results,Tryz.results119,go_sem]
theorem BJ (ad:Option Addr) (cap:Nat) (xs:List Al) (w:World) (hlen:xs.length≤1048576) (hcap:xs.length≤cap) (hf:∀ a ∈ xs,a.fits) (hs:fV w ad xs) :
  Calls prog 179 #[.slice ad xs.length cap] w fun e w'=>e=.returned (.bool (fB xs))∧Below w.heap.size w w':=by
 have HS:Hid (fV w ad xs):=hs;have HF:Hid (∀ a ∈ xs,a.fits):=hf;clear hs hf;by_cases hl:1≤xs.length∧xs.length≤6
 ·obtain ⟨hl1,hl2⟩:=hl;go_enter func179,ntmps179;go_wp2_with fail;go_loopw [15] (fun i wr=>∃ k:Nat,k≤xs.length∧i=.int .i64 k∧Hid (yO xs k=true)∧Below w.heap.size w wr) (fun i _=>xs.length - (intOf i).toNat);case atStart=>exact ⟨0,Nat.zero_le _,rfl,rfl,Below.refl _ _⟩
  case round =>
   obtain ⟨k,hk,rfl,HU,hB⟩:=hrel;by_cases hlt:k < xs.length
   ·rcases HS.out.below hB with rfl | ⟨b,off,rfl,hb,hr⟩
    ·simp at hlt
    obtain ⟨t0,t1⟩:=hr k hlt;obtain ⟨z0,z1⟩:=HF.out xs[k] (List.getElem_mem hlt);have hk1:=aY k;have hk2:(k:Int)≤(cap:Int):=by omega
    obtain ⟨W1,hW1⟩:∃ W1,W1=wr.alloc (.cells #[.string xs[k].t,.string xs[k].s] 163):=⟨_,rfl⟩;have hal:Below wr.heap.size wr W1:=by rw [hW1]; exact (Below.refl _ _).alloc (Nat.le_refl _) _
    have hBW1:Below w.heap.size wr W1:=hal.mono hB.size;have hWs:w.heap.size≤W1.heap.size:=Nat.le_trans hB.size hal.size;have hgl:wr.heap.size < W1.heap.size:=by rw [hW1]; simp
    have g0:W1.cell? ⟨wr.heap.size,0,none⟩=some (.string xs[k].t):=by rw [hW1]; simp
    have g1:W1.cell? ⟨wr.heap.size,1,none⟩=some (.string xs[k].s):=by rw [hW1]; simp
    have HS1:Hid (fV W1 (some ⟨b,off,none⟩) xs):=(HS.out.below hB).below hal;clear hr;go_wp2_with fail;rw [← hW1];clear hW1 t0 t1 hal;cases hn:aO xs[k].t with
    | false =>
     have HN:Hid (yO xs xs.length=false):=jD xs k hlt (by simp [GY,hn]) _ hlt;refine au 17 (fun n=>[u20,u21,u22,u23,u24,u25,u26,u27,u28,u29,u30,u31,u32,u33,u34,u35,u36].getD n undef) (fun f=>{ tmps:=#[.slice (some ⟨b,off,none⟩) xs.length cap,undef,u2,.int .i64 (k:Int),.pointer (some ⟨wr.heap.size,0,none⟩),.slice (some ⟨b,off,none⟩) xs.length cap,.int .i64 (xs.length:Int),.bool (decide ((xs.length:Int) < 1)),.bool (decide ((xs.length:Int) < 1)),.slice (some ⟨b,off,none⟩) xs.length cap,.int .i64 (xs.length:Int),.bool (decide (6 < (xs.length:Int))),.bool (decide ((xs.length:Int) < 1) || decide (6 < (xs.length:Int))),.slice (some ⟨b,off,none⟩) xs.length cap,.int .i64 (xs.length:Int),.int .i64 (k:Int),.bool true,.int .i64 (k:Int),.pointer (some ⟨b,off + k * 2,none⟩),.agg #[.string xs[k].t,.string xs[k].s],f 0,f 1,f 2,f 3,f 4,f 5,f 6,f 7,f 8,f 9,f 10,f 11,f 12,f 13,f 14,f 15,f 16,u37],defers:=[] }) (fun n v _=>v=[Value.pointer (some ⟨wr.heap.size,0,none⟩),.string xs[k].t,.bool false,.bool true,.bool true,undef,undef,undef,undef,.bool true,.bool true,undef,undef,undef,undef,undef,.bool true].getD n undef) (fun w'=>Below W1.heap.size W1 w') (by kernel_rfl) rfl (by kernel_rfl) rfl (Below.refl _ _).drew ?step1 ?fin1;case step1 =>
      rintro i hi o ho f w' hG hpre;have HG:Hid (Below W1.heap.size W1 w'):=hG;have p0:=kept hG hgl g0;have p1:=kept hG hgl g1;have HM:Hid (∀ e ∈ o.after,Region.binds .any e=true→_):=hpre;clear hG hpre;have hc:=GZ (i:=i) (by omega);clear hi
      repeat' rcases hc with rfl | hc
      iterate 2
       ·obtain rfl:=Option.some.inj ho;have hm:=HM.out
        try simp [Region.binds] at hm
        refine aa rfl fun K HK=>?_;clear ho HM
        try simp only [hm]
        go_simp;exact HK.out _ _ ⟨_,by simp [upd, *],HG.out,rfl,fun k u hu=>hu⟩
      ·obtain rfl:=Option.some.inj ho;have e1:f 1=Value.string xs[k].t:=HM.out ⟨1,.data⟩ (by simp) rfl;refine aa rfl fun K HK=>?_;clear ho HM;simp only [e1];go_simp;refine (az _ _ z0).mono ?_;rintro e w5 ⟨rfl,rfl⟩;rw [hn];go_wp2_with fail;exact HK.out _ _ ⟨Value.bool false,by simp [upd,e1],HG.out,rfl,fun k u hu=>hu⟩
      iterate 14
       ·obtain rfl:=Option.some.inj ho;have hm:=HM.out
        try simp [Region.binds] at hm
        refine aa rfl fun K HK=>?_;clear ho HM
        try simp only [hm]
        go_simp;exact HK.out _ _ ⟨_,by simp [upd, *],HG.out,rfl,fun k u hu=>hu⟩
     case fin1 =>
      rintro f w' hG hall;have e16:f 16=Value.bool true:=hall 16 (by omega);have HG:Hid (Below W1.heap.size W1 w'):=hG;clear hG hall;dsimp only;rw [e16];go_wp2;go_ret;exact ⟨af (by simp [fB,HN.out]),hB.trans (hBW1.trans (HG.out.mono hWs))⟩
    | true =>
     cases hsb:tV xs[k].s with
     | false =>
      have HN:Hid (yO xs xs.length=false):=jD xs k hlt (by simp [GY,hn,hsb]) _ hlt;refine au 17 (fun n=>[u20,u21,u22,u23,u24,u25,u26,u27,u28,u29,u30,u31,u32,u33,u34,u35,u36].getD n undef) (fun f=>{ tmps:=#[.slice (some ⟨b,off,none⟩) xs.length cap,undef,u2,.int .i64 (k:Int),.pointer (some ⟨wr.heap.size,0,none⟩),.slice (some ⟨b,off,none⟩) xs.length cap,.int .i64 (xs.length:Int),.bool (decide ((xs.length:Int) < 1)),.bool (decide ((xs.length:Int) < 1)),.slice (some ⟨b,off,none⟩) xs.length cap,.int .i64 (xs.length:Int),.bool (decide (6 < (xs.length:Int))),.bool (decide ((xs.length:Int) < 1) || decide (6 < (xs.length:Int))),.slice (some ⟨b,off,none⟩) xs.length cap,.int .i64 (xs.length:Int),.int .i64 (k:Int),.bool true,.int .i64 (k:Int),.pointer (some ⟨b,off + k * 2,none⟩),.agg #[.string xs[k].t,.string xs[k].s],f 0,f 1,f 2,f 3,f 4,f 5,f 6,f 7,f 8,f 9,f 10,f 11,f 12,f 13,f 14,f 15,f 16,u37],defers:=[] }) (fun n v _=>v=[Value.pointer (some ⟨wr.heap.size,0,none⟩),.string xs[k].t,.bool true,.bool false,.bool false,.pointer (some ⟨wr.heap.size,1,none⟩),.string xs[k].s,.bool false,.bool true,.bool true,.bool true,undef,undef,undef,undef,undef,.bool true].getD n undef) (fun w'=>Below W1.heap.size W1 w') (by kernel_rfl) rfl (by kernel_rfl) rfl (Below.refl _ _).drew ?step2 ?fin2;case step2 =>
       rintro i hi o ho f w' hG hpre;have HG:Hid (Below W1.heap.size W1 w'):=hG;have p0:=kept hG hgl g0;have p1:=kept hG hgl g1;have HM:Hid (∀ e ∈ o.after,Region.binds .any e=true→_):=hpre;clear hG hpre;have hc:=GZ (i:=i) (by omega);clear hi
       repeat' rcases hc with rfl | hc
       iterate 2
        ·obtain rfl:=Option.some.inj ho;have hm:=HM.out
         try simp [Region.binds] at hm
         refine aa rfl fun K HK=>?_;clear ho HM
         try simp only [hm]
         go_simp;exact HK.out _ _ ⟨_,by simp [upd, *],HG.out,rfl,fun k u hu=>hu⟩
       ·obtain rfl:=Option.some.inj ho;have e1:f 1=Value.string xs[k].t:=HM.out ⟨1,.data⟩ (by simp) rfl;refine aa rfl fun K HK=>?_;clear ho HM;simp only [e1];go_simp;refine (az _ _ z0).mono ?_;rintro e w5 ⟨rfl,rfl⟩;rw [hn];go_wp2_with fail;exact HK.out _ _ ⟨Value.bool true,by simp [upd,e1],HG.out,rfl,fun k u hu=>hu⟩
       iterate 4
        ·obtain rfl:=Option.some.inj ho;have hm:=HM.out
         try simp [Region.binds] at hm
         refine aa rfl fun K HK=>?_;clear ho HM
         try simp only [hm]
         go_simp;exact HK.out _ _ ⟨_,by simp [upd, *],HG.out,rfl,fun k u hu=>hu⟩
       ·obtain rfl:=Option.some.inj ho;have e6:f 6=Value.string xs[k].s:=HM.out ⟨6,.data⟩ (by simp) rfl;have e4:f 4=Value.bool false:=HM.out ⟨4,.guard⟩ (by simp) rfl;refine aa rfl fun K HK=>?_;clear ho HM;simp only [e6,e4];go_simp;refine (tX _ _ z1).mono ?_;rintro e w5 ⟨rfl,rfl⟩;rw [hsb];go_wp2_with fail;exact HK.out _ _ ⟨Value.bool false,by simp [upd,e6,e4],HG.out,rfl,fun k u hu=>hu⟩
       iterate 9
        ·obtain rfl:=Option.some.inj ho;have hm:=HM.out
         try simp [Region.binds] at hm
         refine aa rfl fun K HK=>?_;clear ho HM
         try simp only [hm]
         go_simp;exact HK.out _ _ ⟨_,by simp [upd, *],HG.out,rfl,fun k u hu=>hu⟩
      case fin2 =>
       rintro f w' hG hall;have e16:f 16=Value.bool true:=hall 16 (by omega);have HG:Hid (Below W1.heap.size W1 w'):=hG;clear hG hall;dsimp only;rw [e16];go_wp2;go_ret;exact ⟨af (by simp [fB,HN.out]),hB.trans (hBW1.trans (HG.out.mono hWs))⟩
     | true =>
      obtain ⟨p,hp⟩:∃ p,cz xs k xs[k]=p:=⟨_,rfl⟩;refine au 17 (fun n=>[u20,u21,u22,u23,u24,u25,u26,u27,u28,u29,u30,u31,u32,u33,u34,u35,u36].getD n undef) (fun f=>{ tmps:=#[.slice (some ⟨b,off,none⟩) xs.length cap,undef,u2,.int .i64 (k:Int),.pointer (some ⟨wr.heap.size,0,none⟩),.slice (some ⟨b,off,none⟩) xs.length cap,.int .i64 (xs.length:Int),.bool (decide ((xs.length:Int) < 1)),.bool (decide ((xs.length:Int) < 1)),.slice (some ⟨b,off,none⟩) xs.length cap,.int .i64 (xs.length:Int),.bool (decide (6 < (xs.length:Int))),.bool (decide ((xs.length:Int) < 1) || decide (6 < (xs.length:Int))),.slice (some ⟨b,off,none⟩) xs.length cap,.int .i64 (xs.length:Int),.int .i64 (k:Int),.bool true,.int .i64 (k:Int),.pointer (some ⟨b,off + k * 2,none⟩),.agg #[.string xs[k].t,.string xs[k].s],f 0,f 1,f 2,f 3,f 4,f 5,f 6,f 7,f 8,f 9,f 10,f 11,f 12,f 13,f 14,f 15,f 16,u37],defers:=[] }) (fun n v _=>v=[Value.pointer (some ⟨wr.heap.size,0,none⟩),.string xs[k].t,.bool true,.bool false,.bool false,.pointer (some ⟨wr.heap.size,1,none⟩),.string xs[k].s,.bool true,.bool false,.bool false,.bool false,.slice (some ⟨b,off,none⟩) xs.length cap,.int .i64 (k:Int),.slice (some ⟨b,off,none⟩) k cap,.agg #[.string xs[k].t,.string xs[k].s],.bool p,.bool p].getD n undef) (fun w'=>Below W1.heap.size W1 w') (by kernel_rfl) rfl (by kernel_rfl) rfl (Below.refl _ _).drew ?step3 ?fin3;case step3 =>
       rintro i hi o ho f w' hG hpre;have HG:Hid (Below W1.heap.size W1 w'):=hG;have p0:=kept hG hgl g0;have p1:=kept hG hgl g1;have HM:Hid (∀ e ∈ o.after,Region.binds .any e=true→_):=hpre;clear hG hpre;have hc:=GZ (i:=i) (by omega);clear hi
       repeat' rcases hc with rfl | hc
       iterate 2
        ·obtain rfl:=Option.some.inj ho;have hm:=HM.out
         try simp [Region.binds] at hm
         refine aa rfl fun K HK=>?_;clear ho HM
         try simp only [hm]
         go_simp;exact HK.out _ _ ⟨_,by simp [upd, *],HG.out,rfl,fun k u hu=>hu⟩
       ·obtain rfl:=Option.some.inj ho;have e1:f 1=Value.string xs[k].t:=HM.out ⟨1,.data⟩ (by simp) rfl;refine aa rfl fun K HK=>?_;clear ho HM;simp only [e1];go_simp;refine (az _ _ z0).mono ?_;rintro e w5 ⟨rfl,rfl⟩;rw [hn];go_wp2_with fail;exact HK.out _ _ ⟨Value.bool true,by simp [upd,e1],HG.out,rfl,fun k u hu=>hu⟩
       iterate 4
        ·obtain rfl:=Option.some.inj ho;have hm:=HM.out
         try simp [Region.binds] at hm
         refine aa rfl fun K HK=>?_;clear ho HM
         try simp only [hm]
         go_simp;exact HK.out _ _ ⟨_,by simp [upd, *],HG.out,rfl,fun k u hu=>hu⟩
       ·obtain rfl:=Option.some.inj ho;have e6:f 6=Value.string xs[k].s:=HM.out ⟨6,.data⟩ (by simp) rfl;have e4:f 4=Value.bool false:=HM.out ⟨4,.guard⟩ (by simp) rfl;refine aa rfl fun K HK=>?_;clear ho HM;simp only [e6,e4];go_simp;refine (tX _ _ z1).mono ?_;rintro e w5 ⟨rfl,rfl⟩;rw [hsb];go_wp2_with fail;exact HK.out _ _ ⟨Value.bool true,by simp [upd,e6,e4],HG.out,rfl,fun k u hu=>hu⟩
       iterate 5
        ·obtain rfl:=Option.some.inj ho;have hm:=HM.out
         try simp [Region.binds] at hm
         refine aa rfl fun K HK=>?_;clear ho HM
         try simp only [hm]
         go_simp;exact HK.out _ _ ⟨_,by simp [upd, *],HG.out,rfl,fun k u hu=>hu⟩
       ·obtain rfl:=Option.some.inj ho;have e11:f 11=Value.slice (some ⟨b,off,none⟩) xs.length cap:=HM.out ⟨11,.data⟩ (by simp) rfl;have e12:f 12=Value.int .i64 (k:Int):=HM.out ⟨12,.data⟩ (by simp) rfl;have e10:f 10=Value.bool false:=HM.out ⟨10,.guard⟩ (by simp) rfl;refine aa rfl fun K HK=>?_;clear ho HM;simp only [e11,e12,e10];go_simp;go_wp2_with fail;exact HK.out _ _ ⟨Value.slice (some ⟨b,off,none⟩) k cap,by simp [upd,e11,e12,e10],HG.out,rfl,fun k u hu=>hu⟩
       ·obtain rfl:=Option.some.inj ho;have e10:f 10=Value.bool false:=HM.out ⟨10,.guard⟩ (by simp) rfl;refine aa rfl fun K HK=>?_;clear ho HM;simp only [e10];go_simp;exact HK.out _ _ ⟨Value.agg #[.string xs[k].t,.string xs[k].s],by simp [upd,e10],HG.out,rfl,fun k u hu=>hu⟩
       ·obtain rfl:=Option.some.inj ho;have e13:f 13=Value.slice (some ⟨b,off,none⟩) k cap:=HM.out ⟨13,.data⟩ (by simp) rfl;have e14:f 14=Value.agg #[.string xs[k].t,.string xs[k].s]:=HM.out ⟨14,.data⟩ (by simp) rfl;have e10:f 10=Value.bool false:=HM.out ⟨10,.guard⟩ (by simp) rfl;refine aa rfl fun K HK=>?_;clear ho HM;simp only [e13,e14,e10];go_simp;refine (pU (some ⟨b,off,none⟩) k cap xs xs[k] _ hk hlen (HS1.out.below HG.out)).mono ?_;rintro e w5 ⟨he,hb5⟩;rw [hp] at he;subst he;have HG5:=fK HG hb5;clear hb5;go_wp2_with fail;exact HK.out _ _ ⟨Value.bool p,by simp [upd,e13,e14,e10],HG5.out,rfl,fun k u hu=>hu⟩
       ·obtain rfl:=Option.some.inj ho;have e10:f 10=Value.bool false:=HM.out ⟨10,.data⟩ (by simp) rfl;have e15:f 15=Value.bool p:=HM.out ⟨15,.data⟩ (by simp) rfl;refine aa rfl fun K HK=>?_;clear ho HM;simp only [e10,e15];go_simp;exact HK.out _ _ ⟨Value.bool p,by simp [upd,e10,e15],HG.out,rfl,fun k u hu=>hu⟩
      case fin3 =>
       rintro f w' hG hall;have e16:f 16=Value.bool p:=hall 16 (by omega);have HG:Hid (Below W1.heap.size W1 w'):=hG;clear hG hall;dsimp only;rw [e16];cases p with
       | true =>
        have HN:Hid (yO xs xs.length=false):=jD xs k hlt (by simp [hp]) _ hlt;go_wp2;go_ret;exact ⟨af (by simp [fB,HN.out]),hB.trans (hBW1.trans (HG.out.mono hWs))⟩
       | false =>
        have HU2:Hid (yO xs (k + 1)=true):=by show _=_; rw [oZ _ _ hlt,HU.out]; simp [GY,hn,hsb,hp]
        go_wp2;go_roundw;case rel=>exact ⟨k + 1,by omega,by go_num,HU2,hB.trans (hBW1.trans (HG.out.mono hWs))⟩
        case measure=>simp [intOf] <;> omega
   ·obtain rfl:k=xs.length:=by omega
    have HAW:Hid (fB xs=true):=by show _=_; simp [fB,hl1,hl2,HU.out]
    go_wp2;go_ret;exact ⟨by rw [HAW.out]; rfl,hB⟩
 ·have HAW:Hid (fB xs=false):=by
   show _=_;unfold fB;by_cases h1:1≤xs.length
   ·have h2:¬ xs.length≤6:=fun h2=>hl ⟨h1,h2⟩;simp [h2]
   ·simp [h1]
  go_enter func179,ntmps179;go_wp2_with fail
  all_goals go_ret
  all_goals exact ⟨by rw [HAW.out]; rfl,Below.refl _ _⟩
end Go.Proofs.YtdaoiceeidoehaaGreat
