/- Contract of the program's function on the least strata. -/
import Derived.Test.YtdaoiceeidoehaaGreatJ27
open Go.Proofs.Tryz
set_option maxHeartbeats 80000000
namespace Go.Proofs.YtdaoiceeidoehaaGreat
open Go.ChangeShapes Go.WideShapes Go.ChangeAt Go.RowKit Go.Maps
open Pl
def Nv (ts:List Ty) (w:World) (e:Ending) (w':World):Prop :=
 ((∃ (b n:Nat) (σ:Ky→Option Int),e=.returned (.tuple #[.map (some b),.bool true])∧aD dJ prog 130 w' b n (iw σ)∧Least ts (fun k=>(σ k).getD 0)∧∀ k,(∃ x,σ k=some x) ↔ k ∈ ai ts) ∨ (e=.returned (.tuple #[.map none,.bool false])∧¬ ∃ f,Sol ts f))∧Below w.heap.size w w'
theorem Nw (N:Nat) (ks:List Ky):jC N (fun _=>none) ks=N * ks.length:=by
 induction ks with
 | nil=>simp [jC]
 | cons k ks ih=>simp only [jC,ih,uf,List.length_cons]; push_cast; rw [Int.mul_add]; omega
theorem KJ {rs:List TR} (hf:∀ r ∈ rs,r.fits):∀ k ∈ ai (ae rs),k.1.size≤maxLen∧k.2.size≤maxLen:=by
 intro k hk;obtain ⟨t,ht,r,hr,rfl⟩:=oo.1 hk;obtain ⟨t',ht',rfl⟩:=Sa.1 ht;obtain ⟨q,hq,rfl⟩:=Sa.1 hr;exact ⟨(hf t' ht').1,((hf t' ht').2.2 q hq).1⟩
set_option maxRecDepth 100000 in
theorem ww (ad:Option Addr) (cap:Nat) (rs:List TR) (bL nL:Nat) (ML:Ky→Option Value) (E:List (Ky × St)) (w:World) (hlen:rs.length≤6) (hs:jd w ad rs) (hf:∀ r ∈ rs,r.fits) (hrl:∀ r ∈ rs,r.rows.length≤6) (hG:Grp w bL nL ML E) (hE:Edge (ae rs) E) (hF:Found (ae rs)) (hEl:E.length≤100000) :
  Calls prog 119 #[.slice ad rs.length cap,.map (some bL)] w (Nv (ae rs) w):=by
 have HS:=aC hs;have Tj:=aC hf;have XG:Hid (∀ r ∈ rs,r.rows.length≤6):=hrl;have HG:Hid (Grp w bL nL ML E):=hG;have HE:=aC hE;have HF:=aC hF;have HBL:Hid (bL < w.heap.size):=hG.map.lt;clear hs hf hrl hG hE hF;have hmm:=@run_makeMap prog;go_enter func119,ntmps119;have HB0:Hid (Below w.heap.size w ((w.alloc (.cells #[.map (some bL)] 212)).alloc (.cells #[.int .i64 0] 2))):=((R3 _ _).alloc (R4 _) _).alloc (by simp) _;have Uk:Hid (((w.alloc (.cells #[.map (some bL)] 212)).alloc (.cells #[.int .i64 0] 2)).cell? ⟨w.heap.size,0,none⟩=some (.map (some bL))∧((w.alloc (.cells #[.map (some bL)] 212)).alloc (.cells #[.int .i64 0] 2)).cell? ⟨w.heap.size + 1,0,none⟩=some (.int .i64 0)∧((w.alloc (.cells #[.map (some bL)] 212)).alloc (.cells #[.int .i64 0] 2)).frozen? ⟨w.heap.size + 1,0,none⟩=false∧w.heap.size + 1 < ((w.alloc (.cells #[.map (some bL)] 212)).alloc (.cells #[.int .i64 0] 2)).heap.size):=⟨by simp,by simp,by simp,by simp⟩;go_wp2_with fail;go_loopw [17] (fun i wr=>∃ k:Nat,k≤rs.length∧i=.int .i64 k∧Hid (Below w.heap.size w wr)∧Hid (wr.cell? ⟨w.heap.size,0,none⟩=some (.map (some bL))∧wr.cell? ⟨w.heap.size + 1,0,none⟩=some (.int .i64 ((di rs k).length:Int))∧wr.frozen? ⟨w.heap.size + 1,0,none⟩=false∧w.heap.size + 1 < wr.heap.size)) (fun i _=>rs.length - (intOf i).toNat);case atStart=>exact ⟨0,R6 _,rfl,HB0,Uk⟩
 case round =>
  clear HB0 Uk;obtain ⟨k,hk,rfl,HB,HC⟩:=hrel;obtain ⟨c0,c1,c2,c3⟩:=HC.out;have hu:=tQ rs XG.out k;by_cases hlt:k < rs.length
  ·rcases HS.out.below HB.out with rfl | ⟨b,off,rfl,hb,hr,-⟩
   ·simp at hlt
   obtain ⟨t0,t1⟩:=hr k hlt;have hk1:=bn k;have hk2:(k:Int) < (rs.length:Int):=by omega
   have h6:=XG.out _ (RY hlt);have Tx:Hid ((di rs (k + 1)).length=(di rs k).length + rs[k].rows.length):=by show _=_; rw [mI _ _ hlt,R9]; simp [iq]
   obtain ⟨cn,hcn⟩:∃ cn,cn=(di rs k).length:=⟨_,rfl⟩;rw [← hcn] at c1 hu Tx;have HB1:Hid (Below w.heap.size w ((wr.setCell ⟨w.heap.size + 1,0,none⟩ (.int .i64 ((cn:Int) + (rs[k].rows.length:Int)))).alloc (.cells #[.string rs[k].name,.slice rs[k].ad rs[k].rows.length rs[k].cap] 70))):=(HB.out.setCell (p:=⟨w.heap.size + 1,0,none⟩) (by simp) _).alloc (by simpa using HB.out.size) _;have TY:Hid (((wr.setCell ⟨w.heap.size + 1,0,none⟩ (.int .i64 ((cn:Int) + (rs[k].rows.length:Int)))).alloc (.cells #[.string rs[k].name,.slice rs[k].ad rs[k].rows.length rs[k].cap] 70)).cell? ⟨w.heap.size,0,none⟩=some (.map (some bL))∧((wr.setCell ⟨w.heap.size + 1,0,none⟩ (.int .i64 ((cn:Int) + (rs[k].rows.length:Int)))).alloc (.cells #[.string rs[k].name,.slice rs[k].ad rs[k].rows.length rs[k].cap] 70)).cell? ⟨w.heap.size + 1,0,none⟩=some (.int .i64 ((di rs (k + 1)).length:Int))∧((wr.setCell ⟨w.heap.size + 1,0,none⟩ (.int .i64 ((cn:Int) + (rs[k].rows.length:Int)))).alloc (.cells #[.string rs[k].name,.slice rs[k].ad rs[k].rows.length rs[k].cap] 70)).frozen? ⟨w.heap.size + 1,0,none⟩=false∧w.heap.size + 1 < ((wr.setCell ⟨w.heap.size + 1,0,none⟩ (.int .i64 ((cn:Int) + (rs[k].rows.length:Int)))).alloc (.cells #[.string rs[k].name,.slice rs[k].ad rs[k].rows.length rs[k].cap] 70)).heap.size):=by
    obtain ⟨X,hX⟩:∃ X,X=wr.setCell ⟨w.heap.size + 1,0,none⟩ (.int .i64 ((cn:Int) + (rs[k].rows.length:Int))):=⟨_,rfl⟩;have hXs:X.heap.size=wr.heap.size:=by rw [hX]; simp
    have hB:Below X.heap.size X (X.alloc (.cells #[.string rs[k].name,.slice rs[k].ad rs[k].rows.length rs[k].cap] 70)):=(R3 _ _).alloc (R4 _) _;rw [← hX];refine ⟨aH hB (by omega) (by rw [hX,eY (by omega)]; exact c0),aH hB (by omega) (by rw [hX,Tx.out]; push_cast; exact jO c1),?_,by simp; omega⟩;rw [hB.frozen (p:=⟨w.heap.size + 1,0,none⟩) (by simp; omega),hX];simpa using c2
   clear hr hcn HC;go_wp2;go_roundw;case rel=>exact ⟨k + 1,by omega,by go_num,HB1,TY⟩
   case measure=>simp [intOf] <;> omega
  ·obtain rfl:k=rs.length:=by omega
   have hEN:di rs rs.length=ai (ae rs):=by unfold di; rw [Sc]
   rw [hEN] at c1 hu;obtain ⟨N,hN⟩:∃ N,N=(ai (ae rs)).length:=⟨_,rfl⟩;rw [← hN] at c1 hu;have UD:Hid (N=(ai (ae rs)).length):=hN;have HEN:Hid (di rs rs.length=ai (ae rs)):=hEN;have hN36:N≤36:=by omega
   have hbl:=HBL.out;have hwr:w.heap.size≤wr.heap.size:=HB.out.size;obtain ⟨W0,hW0⟩:∃ W0,W0=(((wr.alloc (.map #[] 0)).alloc (.cells #[.map (some wr.heap.size)] 173)).alloc (.cells #[(.func (Fn.func 145) #[] #[.pointer (some ⟨wr.heap.size + 1,0,none⟩),.pointer (some ⟨w.heap.size + 1,0,none⟩),.pointer (some ⟨w.heap.size,0,none⟩),.pointer (some ⟨wr.heap.size + 1 + 1,0,none⟩)])] 237)):=⟨_,rfl⟩;have hal:Below wr.heap.size wr W0:=by
    rw [hW0]
    repeat (first | exact R3 _ _ | refine Below.alloc ?_ (by first | (simp; done) | (simp; omega)) _)
   have hs0:W0.heap.size=wr.heap.size + 3:=by rw [hW0]; simp
   have HRW:Hid (Rw W0 (wr.heap.size + 1) (w.heap.size + 1) w.heap.size (wr.heap.size + 1 + 1) wr.heap.size bL N 0 nL ML E (fun _=>none)):=by
    have hGr:Grp wr bL nL ML E:=HG.out.below HB.out;have hMV:aD dJ prog 130 W0 wr.heap.size 0 (iw (fun _=>none)):=by
     have h1:=jl dJ prog 130 wr;have e1:iw (fun _=>none)=fun _=>none:=by funext k; rfl
     rw [e1];refine h1.below ?_;rw [hW0]
     repeat (first | exact R3 _ _ | refine Below.alloc ?_ (by first | (simp; done) | (simp; omega)) _)
    have hcS:W0.cell? ⟨wr.heap.size + 1,0,none⟩=some (.map (some wr.heap.size)):=by
     rw [hW0];exact aH ((R3 _ _).alloc (R4 _) _) (by simp) (iP wr _ _ _ 0 rfl)
    have hcR:W0.cell? ⟨wr.heap.size + 1 + 1,0,none⟩=some (yH (wr.heap.size + 1) (w.heap.size + 1) w.heap.size (wr.heap.size + 1 + 1)):=by
     rw [hW0];exact lc _ _ _ _ _ _ rfl
    exact ⟨hcS,aH hal (by omega) c1,aH hal (by omega) c0,hcR,by omega,by omega,by omega,by omega,hMV,hGr.below hal,by omega,hGr.fresh (R4 _)⟩
   have HB0:=gY HB hal;clear hu hEN hN hal HC;go_wp2_with fail;rw [← hW0];clear hW0 c0 c1 c2 c3 HB;obtain ⟨bS,hbS⟩:∃ bS,bS=wr.heap.size:=⟨_,rfl⟩;obtain ⟨gS,hgS⟩:∃ gS,gS=wr.heap.size + 1:=⟨_,rfl⟩;obtain ⟨gR,hgR⟩:∃ gR,gR=wr.heap.size + 1 + 1:=⟨_,rfl⟩;obtain ⟨gC,hgC⟩:∃ gC,gC=w.heap.size + 1:=⟨_,rfl⟩;obtain ⟨gL,hgL⟩:∃ gL,gL=w.heap.size:=⟨_,rfl⟩;have hb1:w.heap.size≤bS:=by omega
   have HRW2:Hid (Rw W0 gS gC gL gR bS bL N 0 nL ML E (fun _=>none)):=by rw [hbS,hgS,hgR,hgC,hgL]; exact HRW
   have HI0:Hid (∃ (σ:Ky→Option Int) (n:Nat),Rw W0 gS gC gL gR bS bL N n nL ML E σ∧Rz (ae rs) N σ∧(n:Int) + jC N σ (ai (ae rs))≤2000∧Raised E (fun _=>none) σ∧∀ key ∈ di rs 0,∃ x,σ key=some x):=by
    refine ⟨fun _=>none,0,HRW2.out,⟨fun k x h=>by cases h⟩,?_,Raised.refl _ _,fun k hk=>by simp [di,ae,ai] at hk⟩;rw [Nw,← UD.out];have h1:(N:Int) * N≤36 * 36:=Int.mul_le_mul (by omega) (by omega) (by omega) (by omega)
    push_cast; omega
   rw [← hgR,← hgS,← hbS,← hgC,← hgL];clear HRW HRW2 hs0 hmm hgR hgS hbS hgC hgL;go_loopw [31] (fun i w2=>∃ k:Nat,k≤rs.length∧i=.int .i64 k∧Hid (Below w.heap.size w w2)∧Hid (∃ (σ:Ky→Option Int) (n:Nat),Rw w2 gS gC gL gR bS bL N n nL ML E σ∧Rz (ae rs) N σ∧(n:Int) + jC N σ (ai (ae rs))≤2000∧Raised E (fun _=>none) σ∧∀ key ∈ di rs k,∃ x,σ key=some x)) (fun i _=>rs.length - (intOf i).toNat);case atStart=>exact ⟨0,R6 _,rfl,HB0,HI0⟩
   case round =>
    clear HB0 HI0;obtain ⟨k,hk,rfl,HB,HI⟩:=hrel;by_cases hlt:k < rs.length
    ·rcases HS.out.below HB.out with rfl | ⟨b,off,rfl,hb,hr,-⟩
     ·simp at hlt
     obtain ⟨t0,t1⟩:=hr k hlt;have hk1:=bn k;have hk2:(k:Int) < (rs.length:Int):=by omega
     have h6:=XG.out _ (RY hlt);obtain ⟨W1,hW1⟩:∃ W1,W1=wr.alloc (.cells #[.string rs[k].name,.slice rs[k].ad rs[k].rows.length rs[k].cap] 70):=⟨_,rfl⟩;have hal:Below wr.heap.size wr W1:=by rw [hW1]; exact (R3 _ _).alloc (R4 _) _
     obtain ⟨g12,hg12⟩:∃ g12,g12=wr.heap.size:=⟨_,rfl⟩;have hbw:bS < wr.heap.size:=by obtain ⟨σ,n,hR,-⟩:=HI.out; exact hR.map.lt
     have HC12:Hid (W1.cell? ⟨g12,0,none⟩=some (.string rs[k].name)∧g12 < W1.heap.size∧g12 ≠ bS):=⟨by rw [hW1,hg12]; simp,by rw [hW1,hg12]; simp,by omega⟩;have HB1:=gY HB hal;have HI1:Hid (∃ (σ:Ky→Option Int) (n:Nat),Rw W1 gS gC gL gR bS bL N n nL ML E σ∧Rz (ae rs) N σ∧(n:Int) + jC N σ (ai (ae rs))≤2000∧Raised E (fun _=>none) σ∧∀ key ∈ di rs k,∃ x,σ key=some x):=by
      obtain ⟨σ,n,hR,h2⟩:=HI.out;exact ⟨σ,n,hR.below hal,h2⟩
     clear hr hal HI HB;go_wp2_with fail;rw [← hW1,← hg12];clear hW1 t0 t1 hg12;go_loopw [38] (fun i w3=>∃ j:Nat,j≤rs[k].rows.length∧i=.int .i64 j∧Hid (Below w.heap.size w w3)∧Hid (w3.cell? ⟨g12,0,none⟩=some (.string rs[k].name)∧g12 < w3.heap.size∧g12 ≠ bS)∧Hid (∃ (σ:Ky→Option Int) (n:Nat),Rw w3 gS gC gL gR bS bL N n nL ML E σ∧Rz (ae rs) N σ∧(n:Int) + jC N σ (ai (ae rs))≤2000∧Raised E (fun _=>none) σ∧∀ key ∈ di rs k ++ iq rs[k] j,∃ x,σ key=some x)) (fun i _=>rs[k].rows.length - (intOf i).toNat);case atStart=>exact ⟨0,R6 _,rfl,HB1,HC12,by simpa [iq] using HI1⟩
     case round =>
      clear HB1 HC12 HI1;obtain ⟨j,hj,rfl,HB,HC,HI⟩:=hrel;by_cases hjl:j < rs[k].rows.length
      ·rcases HS.out.below HB.out with hnil | ⟨b',off',he,hb2,hr,hok⟩
       ·rw [hnil] at hlt; simp at hlt
       injection he with he; injection he with he1 he2; subst he1; subst he2;have ok:=hok rs[k] (RY hlt);rcases ok with hnil | ⟨b2,TQ,had,hbb,hr2,-⟩
       ·rw [hnil] at hjl; simp at hjl
       obtain ⟨q0,q1⟩:=hr2 j hjl;have hj1:=bn j;have hj2:(j:Int) < (rs[k].rows.length:Int):=by omega
       obtain ⟨σ,n,hR,hZ,hn,Yf,hall⟩:=HI.out;obtain ⟨x0,x1,x2⟩:=HC.out;have cR:=hR.cR;unfold yH at cR;have lR:=hR.lR.1;obtain ⟨W3,hW3⟩:∃ W3,W3=wr.alloc (.cells #[.string rs[k].rows[j].name,.slice rs[k].rows[j].ad rs[k].rows[j].rows.length rs[k].rows[j].cap] 152):=⟨_,rfl⟩;have hal:Below wr.heap.size wr W3:=by rw [hW3]; exact (R3 _ _).alloc (R4 _) _
       have HR3:=aC (hR.below hal);have HZ3:=aC hZ;have HB3:=gY HB hal;have UY:Hid (W3.cell? ⟨g12,0,none⟩=some (.string rs[k].name)∧g12 < W3.heap.size∧g12 ≠ bS):=⟨aH hal x1 x0,RZ x1 hal.size,x2⟩;have VY:Hid (Raised E (fun _=>none) σ):=Yf;have Tm:Hid (∀ key ∈ di rs k ++ iq rs[k] j,∃ x,σ key=some x):=hall;have hmp:=hZ.mu_pos (ai (ae rs));have HKM:Hid ((rs[k].name,rs[k].rows[j].name) ∈ ai (ae rs)):=oo.2 ⟨rs[k].p,List.mem_map_of_mem (RY hlt),rs[k].rows[j].p,List.mem_map_of_mem (RY hjl),rfl⟩;rw [had];clear hr hok hr2 hal hR hZ Yf hall HI HB HC;go_wp2_with fail;rw [← hW3];clear hW3 q0 q1 cR x0;refine (Kc (ae rs) gS gC gL gR bS bL N nL ML E HE.out HF.out UD.out hN36 (KJ Tj.out) hEl (jC N σ (ai (ae rs))).toNat _ σ n (rs[k].name,rs[k].rows[j].name) 0 HR3.out HZ3.out (by omega) (by omega) HKM.out (by omega) (by omega) (oh.zero _ _)).mono ?_;rintro e w5 ⟨ok,σ5,n5,rfl,hg5,XK,XL,hn5,Vh,YI,YJ⟩;have TK:Hid (Below w.heap.size w w5):=HB3.out.grown hg5 HB3.out.size (fun i hi=>by injection hi with hi; omega);cases ok with
       | false =>
        have HP:Hid (Nv (ae rs) w (.returned (.tuple #[.map none,.bool false])) w5):=⟨.inr ⟨rfl,YI rfl⟩,TK.out⟩;clear hg5 XK XL hn5 Vh YI YJ;go_wp2;refine bodyPost_ret (v:=.tuple #[.map none,.bool false]) ?_ rfl HP.out;simp [results,Tryz.results119,go_sem]
       | true =>
        have HI5:Hid (∃ (σ:Ky→Option Int) (n:Nat),Rw w5 gS gC gL gR bS bL N n nL ML E σ∧Rz (ae rs) N σ∧(n:Int) + jC N σ (ai (ae rs))≤2000∧Raised E (fun _=>none) σ∧∀ key ∈ di rs k ++ iq rs[k] (j + 1),∃ x,σ key=some x):=by
         obtain ⟨Yf,y,hy,-⟩:=YJ rfl;refine ⟨σ5,n5,XK,XL,by omega,VY.out.trans Yf,fun key hk=>?_⟩;rw [qK _ _ hjl,← List.append_assoc] at hk;rcases Sd.1 hk with hk | hk
         ·obtain ⟨x,hx⟩:=Tm.out key hk;obtain ⟨z,hz,-⟩:=Yf.mono key x hx;exact ⟨z,hz⟩
         ·simp at hk; subst hk; exact ⟨y,hy⟩
        have VH:Hid (w5.cell? ⟨g12,0,none⟩=some (.string rs[k].name)∧g12 < w5.heap.size∧g12 ≠ bS):=⟨(jg hg5 UY.out.2 0).trans UY.out.1,RZ UY.out.2.1 hg5.size,UY.out.2.2⟩;clear hg5 XK XL hn5 Vh YI YJ;go_wp2;go_roundw;case rel=>exact ⟨j + 1,by omega,by go_num,TK,VH,HI5⟩
        case measure=>simp [intOf] <;> omega
      ·obtain rfl:j=rs[k].rows.length:=by omega
       have HI5:Hid (∃ (σ:Ky→Option Int) (n:Nat),Rw wr gS gC gL gR bS bL N n nL ML E σ∧Rz (ae rs) N σ∧(n:Int) + jC N σ (ai (ae rs))≤2000∧Raised E (fun _=>none) σ∧∀ key ∈ di rs (k + 1),∃ x,σ key=some x):=by rw [mI _ _ hlt]; exact HI
       clear HI;go_wp2;go_roundw;case rel=>exact ⟨k + 1,by omega,by go_num,HB,HI5⟩
       case measure=>simp [intOf] <;> omega
    ·obtain rfl:k=rs.length:=by omega
     obtain ⟨σ,n,hR,hZ,hn,Yf,hall⟩:=HI.out;have cS:=hR.cS;have HP:Hid (Nv (ae rs) w (.returned (.tuple #[.map (some bS),.bool true])) wr):=by
      rw [HEN.out] at hall;refine ⟨.inl ⟨bS,n,σ,rfl,hR.map,CP HE.out HF.out hZ hall (fun k=>Yf.done k (.inl (fun x h=>by cases h))),fun k=>⟨fun ⟨x,hx⟩=>(hZ.there k x hx).1,hall k⟩⟩,HB.out⟩
     clear hR hZ hn Yf hall HI;go_wp2;refine bodyPost_ret (v:=.tuple #[.map (some bS),.bool true]) ?_ rfl HP.out;simp [results,Tryz.results119,go_sem]
open Go.Sort
set_option maxRecDepth 100000
theorem Fq (ad:Option Addr) (cap:Nat) (xs:List Al) (w:World) (hlen:xs.length≤1048576) (hcap:xs.length≤cap) (hf:∀ a ∈ xs,a.fits) (hs:iy w ad xs) :
  Calls prog 179 #[.slice ad xs.length cap] w fun e w'=>e=.returned (.bool (fV xs))∧Below w.heap.size w w':=by
 have HS:=aC hs;have HF:=aC hf;clear hs hf;by_cases hl:1≤xs.length∧xs.length≤6
 ·obtain ⟨hl1,hl2⟩:=hl;go_enter func179,ntmps179;go_wp2_with fail;go_loopw [15] (fun i wr=>∃ k:Nat,k≤xs.length∧i=.int .i64 k∧Hid (Ce xs k=true)∧Below w.heap.size w wr) (fun i _=>xs.length - (intOf i).toNat);case atStart=>exact ⟨0,R6 _,rfl,rfl,R3 _ _⟩
  case round =>
   obtain ⟨k,hk,rfl,HU,hB⟩:=hrel;by_cases hlt:k < xs.length
   ·rcases HS.out.below hB with rfl | ⟨b,off,rfl,hb,hr⟩
    ·simp at hlt
    obtain ⟨t0,t1⟩:=hr k hlt;obtain ⟨z0,z1⟩:=HF.out xs[k] (RY hlt);have hk1:=bn k;have hk2:(k:Int)≤(cap:Int):=by omega
    obtain ⟨W1,hW1⟩:∃ W1,W1=wr.alloc (.cells #[.string xs[k].t,.string xs[k].s] 163):=⟨_,rfl⟩;have hal:Below wr.heap.size wr W1:=by rw [hW1]; exact (R3 _ _).alloc (R4 _) _
    have hBW1:Below w.heap.size wr W1:=hal.mono hB.size;have hWs:w.heap.size≤W1.heap.size:=Sb hB.size hal.size;have hgl:wr.heap.size < W1.heap.size:=by rw [hW1]; simp
    have g0:W1.cell? ⟨wr.heap.size,0,none⟩=some (.string xs[k].t):=by rw [hW1]; simp
    have g1:W1.cell? ⟨wr.heap.size,1,none⟩=some (.string xs[k].s):=by rw [hW1]; simp
    have HS1:Hid (iy W1 (some ⟨b,off,none⟩) xs):=(HS.out.below hB).below hal;clear hr;go_wp2_with fail;rw [← hW1];clear hW1 t0 t1 hal;have p0:=cell_regrown g0;have p1:=cell_regrown g1;have TH:Hid (∀ d os,Below w.heap.size w (grow (redrawn W1 d) os)):=fun d os=>hB.trans (hBW1.trans ((below_regrown W1 d os).mono hWs));have Tx:=nZ (ji (W:=W1) (fun W'=>aY xs[k].t W' z0));have HCS:=nZ (ji (W:=W1) (fun W'=>F9 xs[k].s W' z1))
    have TJ:Hid (∀ d os,Calls prog 122 #[.slice (some ⟨b,off,none⟩) k cap,.agg #[.string xs[k].t,.string xs[k].s]] (grow (redrawn W1 d) os) fun e w''=>e=.returned (.bool (dh xs k xs[k]))∧∃ p:Regrown,w''=grow (redrawn W1 p.d) p.os) :=
     cz fun W' hb=>rJ (some ⟨b,off,none⟩) k cap xs xs[k] _ hk hlen (HS1.out.below hb)
    cases hn:aR xs[k].t with
    | false =>
     have HN:Hid (Ce xs xs.length=false):=kU xs k hlt (by simp [Lr,hn]) _ hlt;rw [hn] at Tx;refine wp_region_quiet_below (by kernel_rfl) (by kernel_rfl) ?_
     repeat (go_big_quiet_step (exact Tx.out _ _))
     refine wpQuiet_nil ?_;rintro _ ⟨⟨dq,osq⟩,rfl⟩;go_wp2;go_ret;exact ⟨af (by simp [fV,HN.out]),TH.out dq osq⟩
    | true =>
     rw [hn] at Tx;cases hsb:xx xs[k].s with
     | false =>
      have HN:Hid (Ce xs xs.length=false):=kU xs k hlt (by simp [Lr,hn,hsb]) _ hlt;rw [hsb] at HCS;refine wp_region_quiet_below (by kernel_rfl) (by kernel_rfl) ?_
      repeat (go_big_quiet_step (first | exact Tx.out _ _ | exact HCS.out _ _))
      refine wpQuiet_nil ?_;rintro _ ⟨⟨dq,osq⟩,rfl⟩;go_wp2;go_ret;exact ⟨af (by simp [fV,HN.out]),TH.out dq osq⟩
     | true =>
      rw [hsb] at HCS;obtain ⟨p,hp⟩:∃ p,dh xs k xs[k]=p:=⟨_,rfl⟩;rw [hp] at TJ;refine wp_region_quiet_below (by kernel_rfl) (by kernel_rfl) ?_
      repeat (go_big_quiet_step (first | exact Tx.out _ _ | exact HCS.out _ _ | exact TJ.out _ _))
      refine wpQuiet_nil ?_;rintro _ ⟨⟨dq,osq⟩,rfl⟩;cases p with
      | true =>
       have HN:Hid (Ce xs xs.length=false):=kU xs k hlt (by simp [hp]) _ hlt;go_wp2;go_ret;exact ⟨af (by simp [fV,HN.out]),TH.out dq osq⟩
      | false =>
       have Xh:Hid (Ce xs (k + 1)=true):=by show _=_; rw [qX _ _ hlt,HU.out]; simp [Lr,hn,hsb,hp]
       go_wp2;go_roundw;case rel=>exact ⟨k + 1,by omega,by go_num,Xh,TH.out dq osq⟩
       case measure=>simp [intOf] <;> omega
   ·obtain rfl:k=xs.length:=by omega
    have ZU:Hid (fV xs=true):=by show _=_; simp [fV,hl1,hl2,HU.out]
    go_wp2;go_ret;exact ⟨by rw [ZU.out]; rfl,hB⟩
 ·have ZU:Hid (fV xs=false):=by
   show _=_;unfold fV;by_cases h1:1≤xs.length
   ·have h2:¬ xs.length≤6:=fun h2=>hl ⟨h1,h2⟩;simp [h2]
   ·simp [h1]
  go_enter func179,ntmps179;go_wp2_with fail
  all_goals go_ret
  all_goals exact ⟨by rw [ZU.out]; rfl,R3 _ _⟩
set_option maxRecDepth 8000 in
theorem Fs (r:ER) (w:World) (hf:r.e.fits) (hl:r.e.light) (hok:r.ok w) (hcap:r.e.allow.length≤r.capA) (h1:r.e.kind=1) :
  Calls prog 171 #[r.val] w fun e w'=>e=.returned (.bool (az r.e))∧Below w.heap.size w w':=by
 obtain ⟨⟨kind,allow,over,name,kids⟩,adA,capA,adK,capK⟩:=r;obtain ⟨f1,f2,f3,f4,f5⟩:=hf;obtain ⟨hA,hK⟩:=hok;obtain ⟨l1,l2⟩:=hl;simp only at f1 f2 f3 f4 f5 h1 hA hK hcap l1 l2;subst h1;simp only [ER.val];unfold maxLen at f4 f5;have HB0:Hid (∀ n,Below w.heap.size w ((w.alloc (.cells #[.int .i64 1,.slice adA allow.length capA,.string over,.string name,.slice adK kids.length capK] 166)).drewN n)):=fun n=>below_drewN ((R3 w.heap.size w).alloc (R4 _) _) n;have HA:=aC hA;have HF1:=aC f1;have HCAP:Hid (allow.length≤capA):=hcap;clear hA hK f1 hcap;go_enter func171,ntmps171;go_wp2_with fail;go_quiet (fail);go_wp2_with fail;refine (Fq adA capA allow _ l1 HCAP.out HF1.out (HA.out.below (HB0.out _))).mono ?_;rintro e w1 ⟨rfl,hb1⟩;have c2:w1.cell? ⟨w.heap.size,2,none⟩=some (.string over):=by rw [hb1.cell (p:=⟨w.heap.size,2,none⟩) (by show _ < (w.alloc _).heap.size; simp)]; show (w.alloc _).cell? _=_; simp
 have c3:w1.cell? ⟨w.heap.size,3,none⟩=some (.string name):=by rw [hb1.cell (p:=⟨w.heap.size,3,none⟩) (by show _ < (w.alloc _).heap.size; simp)]; show (w.alloc _).cell? _=_; simp
 have HB1:Hid (Below w.heap.size w w1):=(HB0.out _).trans (hb1.mono (HB0.out _).size);clear hb1 HB0;go_wp2
 all_goals go_ret
 all_goals exact ⟨af (by first | (simp [az, *]; done) | (simp [az, *]; omega) | (simp [az, *]; rw [Bool.eq_iff_iff]; simp; done) | (simp [az, *]; rw [Bool.eq_iff_iff]; simp; omega)),HB1.out⟩
theorem Ig (r:ER) (w:World) (hf:r.e.fits) (hl:r.e.light) (hok:r.ok w) (hcap:r.e.allow.length≤r.capA) :
  Calls prog 171 #[r.val] w fun e w'=>e=.returned (.bool (az r.e))∧Below w.heap.size w w':=by
 by_cases h:r.e.kind=1
 ·exact Fs r w hf hl hok hcap h
 ·exact CG r w hf h
structure Arr (es:List Ex) (w:World) (g k:Nat):Prop where
 lt:g < w.heap.size
 told:∀ j,j < k→w.cell? ⟨g,j,none⟩=some (.int .i64 (ak es j))
 rest:∀ j,k≤j→j < 15→w.cell? ⟨g,j,none⟩=some (.int .i64 0)
 free:∀ o,w.frozen? ⟨g,o,none⟩=false
theorem Arr.later {es:List Ex} {w w':World} {g k:Nat} (h:Arr es w g k) (hb:Below w.heap.size w w'):Arr es w' g k where
 lt:=RZ h.lt hb.size
 told j hj:=kept hb h.lt (h.told j hj)
 rest j h1 h2:=kept hb h.lt (h.rest j h1 h2)
 free o:=iN hb h.lt (h.free o)
theorem Arr.put {es:List Ex} {w:World} {g k:Nat} (h:Arr es w g k) (hk:k < 15):Arr es (w.setCell ⟨g,k,none⟩ (.int .i64 (ak es k))) g (k + 1) where
 lt:=by simpa using h.lt
 told j hj:=by
  by_cases e:j=k
  ·subst e; exact jO (h.rest j (R4 _) hk)
  ·rw [dF (Ne.symm e)]; exact h.told j (by omega)
 rest j h1 h2:=by rw [dF (by omega)]; exact h.rest j (by omega) h2
 free o:=by simpa using h.free o
def sj (es:List Ex):Bool:=iX es && decide (ak es (es.length - 1)=0)
theorem BC {es:List Ex} (k:Nat) (h:k < es.length) (hb:ak es k < 0):sj es=false:=by
 have:iX es=false:=by
  rw [Bool.eq_false_iff]; intro h2; unfold iX at h2; rw [Sg] at h2; have:=h2 k (by simpa using h); simp at this; omega
 simp [sj,this]
theorem wy (b off cap:Nat) (rs:List ER) (w:World) (hn1:1≤rs.length) (hn2:rs.length≤15) (hl:∀ r ∈ rs,r.e.light) (hb:b < w.heap.size) (hr:∀ (i:Nat) (h:i < rs.length),sP w b (off + i * 5) rs[i]) (hok:∀ r ∈ rs,r.ok w) :
  Calls prog 172 #[.slice (some ⟨b,off,none⟩) rs.length cap] w fun e w'=>e=.returned (.bool (sj (ah rs)))∧Below w.heap.size w w':=by
 have UO:Hid ((ah rs).length=rs.length):=aJ rs;have HL:=aC hl;have HR:Hid (∀ (i:Nat) (h:i < rs.length),sP w b (off + i * 5) rs[i]):=hr;have HO:=aC hok;clear hl hr hok;go_enter func172,ntmps172;go_wp2_with fail;go_loopw [10] (fun i wr=>∃ k:Nat,k≤rs.length∧i=.int .i64 k∧Hid (LY (ah rs) k)∧Hid (Arr (ah rs) wr w.heap.size k)∧Below w.heap.size w wr) (fun i _=>rs.length - (intOf i).toNat);case atStart =>
  refine ⟨0,R6 _,rfl,(fun j hj=>absurd hj (SE _)),⟨by simp,(fun j hj=>absurd hj (SE _)),fun j _ hj=>?_,fun o=>by simp⟩,(R3 _ _).alloc (R4 _) _⟩;have h15:j=0 ∨ j=1 ∨ j=2 ∨ j=3 ∨ j=4 ∨ j=5 ∨ j=6 ∨ j=7 ∨ j=8 ∨ j=9 ∨ j=10 ∨ j=11 ∨ j=12 ∨ j=13 ∨ j=14:=by omega
  rcases h15 with rfl | rfl | rfl | rfl | rfl | rfl | rfl | rfl | rfl | rfl | rfl | rfl | rfl | rfl | rfl <;> simp
 case round =>
  obtain ⟨k,hk,rfl,HGU,HAR,hB⟩:=hrel;by_cases hlt:k < rs.length
  ·have Vd:k < (ah rs).length:=by rw [UO.out]; exact hlt
   obtain ⟨t0,t1,t2,t3,t4⟩:=(HR.out k hlt).later hb hB;have hk1:=bn k;have hk2:(k:Int) < (rs.length:Int):=by omega
   have hk3:(k:Int) < 15:=by omega
   obtain ⟨-,lk⟩:=HL.out rs[k] (RY hlt);obtain ⟨W1,hW1⟩:∃ W1,W1=wr.alloc (.cells #[.int .i64 rs[k].e.kind,.slice rs[k].adA rs[k].e.allow.length rs[k].capA,.string rs[k].e.over,.string rs[k].e.name,.slice rs[k].adK rs[k].e.kids.length rs[k].capK] 166):=⟨_,rfl⟩;have hal:Below wr.heap.size wr W1:=by rw [hW1]; exact (R3 _ _).alloc (R4 _) _
   have hB1:Below w.heap.size w W1:=hB.trans (hal.mono hB.size);have HAR1:Hid (Arr (ah rs) W1 w.heap.size k):=HAR.out.later hal;have s4:W1.cell? ⟨wr.heap.size,4,none⟩=some (.slice rs[k].adK rs[k].e.kids.length rs[k].capK):=by rw [hW1]; simp
   have HT:Hid (dA (dI (ah rs) k) (rs[k].e.kids.take rs[k].e.kids.length).reverse ((k:Int) - 1)=ak (ah rs) k):=by
    show _=_;rw [Sc,j5 (ah rs) k,mZ rs k hlt]
   clear HAR;go_wp2_with fail;rw [← hW1];clear hW1 t0 t1 t2 t3 t4 hal;go_loopw [6,7] (fun x i w2=>∃ (j:Nat) (y:Int),j≤rs[k].e.kids.length∧i=.int .i64 ((j:Int) - 1)∧x=.int .i64 y∧0≤y∧y≤k∧Hid (dA (dI (ah rs) k) (rs[k].e.kids.take j).reverse (y - 1)=ak (ah rs) k)∧w2=W1) (fun _ i _=>(intOf i + 1).toNat);case atStart=>exact ⟨rs[k].e.kids.length,(k:Int),R4 _,rfl,rfl,by omega,by omega,HT,rfl⟩
   case round =>
    obtain ⟨j,y,hj,rfl,rfl,hy0,hy1,HG,rfl⟩:=hrel;by_cases hj0:0 < j
    ·obtain ⟨j,rfl⟩:∃ i,j=i + 1:=⟨j - 1,by omega⟩;have hjl:j < rs[k].e.kids.length:=by omega
     rcases (HO.out rs[k] (RY hlt)).2.below hB1 with hnil | ⟨bk,offk,Wz,hbk,Xg⟩
     ·rw [hnil] at hjl; simp at hjl
     have s4':=s4;rw [Wz] at s4';have k0:=Xg j hjl;have hji:((j + 1:Nat):Int) - 1=(j:Int):=by omega
     have hj1:=bn j;have hj2:(j:Int) < (rs[k].e.kids.length:Int):=by omega
     have HG2:Hid ((if y - 1 < 0 ∨ rs[k].e.kids[j] ≠ y - 1 then -1 else if dI (ah rs) k (y - 1) < 0 then -1 else dA (dI (ah rs) k) (rs[k].e.kids.take j).reverse (dI (ah rs) k (y - 1) - 1))=ak (ah rs) k):=by
      have:=HG.out;rw [R5 hjl,List.reverse_append] at this;exact this
     rw [hji];clear HG Xg Wz s4;by_cases hy:y=0
     ·have HN:Hid (sj (ah rs)=false):=BC k Vd (by rw [← HG2.out,if_pos (Or.inl (by omega))]; omega);subst hy;go_wp2;go_ret;exact ⟨by rw [HN.out]; rfl,hB1⟩
     obtain ⟨m,rfl⟩:∃ m:Nat,y=(m:Int) + 1:=⟨(y - 1).toNat,by omega⟩;have em:(m:Int) + 1 - 1=(m:Int):=by omega
     by_cases hkx:rs[k].e.kids[j]=(m:Int)
     ·have hF:dI (ah rs) k ((m:Int) + 1 - 1)=ak (ah rs) m:=by rw [em]; unfold dI; rw [if_pos ⟨by omega,by simp; omega⟩]; simp
      have HF:Hid (dI (ah rs) k ((m:Int) + 1 - 1)=ak (ah rs) m):=hF;have hle:=fJ (ah rs) m;have hge:0≤ak (ah rs) m:=HGU.out m (by omega);have a0:=HAR1.out.told m (by omega);have hm1:=bn m;have hm2:(m:Int) < 15:=by omega
      have UZ:Hid (dA (dI (ah rs) k) (rs[k].e.kids.take j).reverse (ak (ah rs) m - 1)=ak (ah rs) k):=by
       show _=_;rw [← HG2.out,if_neg (by omega),HF.out,if_neg (by omega)]
      clear hF HG2;go_wp2;go_roundw;case rel=>exact ⟨j,ak (ah rs) m,by omega,by go_num,rfl,hge,by omega,UZ,by first | rfl | trivial⟩
      case measure=>simp [intOf] <;> omega
     ·have HN:Hid (sj (ah rs)=false):=BC k Vd (by rw [← HG2.out,if_pos (Or.inr (by rw [em]; exact hkx))]; omega);have hq:(rs[k].e.kids[j] != (m:Int))=true:=by simpa using hkx
      have hq0:((m:Int) + 1 == 0)=false:=by simp; omega
      go_wp2;go_ret;exact ⟨by rw [HN.out]; rfl,hB1⟩
    ·obtain rfl:j=0:=by omega
     have hX:ak (ah rs) k=y:=by have:=HG.out; simp [dA] at this; omega
     have HGU2:Hid (LY (ah rs) (k + 1)):=by
      intro m hm;by_cases e:m=k
      ·subst e; omega
      ·exact HGU.out m (by omega)
     have q0:=HAR1.out.rest k (R4 _) (by omega);have qf:=HAR1.out.free;have HA2:=HAR1.out.put (k:=k) (by omega);rw [hX] at HA2;have HA3:Hid (Arr (ah rs) _ w.heap.size (k + 1)):=HA2;have hB2:=hB1.setCell (p:=⟨w.heap.size,k,none⟩) (R4 _) (.int .i64 y);clear HG HA2 hX;go_wp2;go_roundw;case rel=>exact ⟨k + 1,by omega,by go_num,HGU2,HA3,hB2⟩
     case measure=>simp [intOf] <;> omega
  ·obtain rfl:k=rs.length:=by omega
   have a0:=HAR.out.told (rs.length - 1) (by omega);have HKB:Hid (sj (ah rs)=decide (ak (ah rs) (rs.length - 1)=0)):=by
    show _=_;have:iX (ah rs)=true:=by
     unfold iX;rw [Sg];intro j hj;have hj':j < rs.length:=by simpa [UO.out] using hj
     simpa using HGU.out j hj'
    unfold sj;rw [this,UO.out,Bool.true_and]
   have hcast:((rs.length:Int) - 1)=((rs.length - 1:Nat):Int):=by omega
   have h15:((rs.length - 1:Nat):Int) < 15:=by omega
   have h00:(0:Int)≤((rs.length - 1:Nat):Int):=by omega
   go_wp2;go_ret;exact ⟨by rw [HKB.out]; exact af (by rw [Bool.eq_iff_iff]; simp),hB⟩
theorem KM {es:List Ex} (h:¬ (1≤es.length∧es.length≤15)):jQ es=false:=by rw [← sS]; exact Bz h
theorem Ih {es:List Ex} (k:Nat) (h:k < es.length) (hb:az es[k]=false):jQ es=false:=by simp [jQ,Az es k h hb]
theorem ze (b off cap:Nat) (rs:List ER) (w:World) (hlen:rs.length≤1048576) (hl:∀ r ∈ rs,r.e.light) (hf:∀ r ∈ rs,r.e.fits) (hcp:∀ r ∈ rs,r.e.allow.length≤r.capA) (hb:b < w.heap.size) (hr:∀ (i:Nat) (h:i < rs.length),sP w b (off + i * 5) rs[i]) (hok:∀ r ∈ rs,r.ok w) :
  Calls prog 160 #[.slice (some ⟨b,off,none⟩) rs.length cap] w fun e w'=>e=.returned (.bool (jQ (ah rs)))∧Below w.heap.size w w':=by
 have UO:Hid ((ah rs).length=rs.length):=aJ rs;have HL:=aC hl;have HF:=aC hf;have HCP:Hid (∀ r ∈ rs,r.e.allow.length≤r.capA):=hcp;have HR:Hid (∀ (i:Nat) (h:i < rs.length),sP w b (off + i * 5) rs[i]):=hr;have HO:=aC hok;clear hl hf hr hok hcp;by_cases hn:1≤rs.length∧rs.length≤15
 ·obtain ⟨hn1,hn2⟩:=hn;go_enter func160,ntmps160;go_wp2_with fail;go_loopw [3,16] (fun o i wr=>∃ k:Nat,k≤rs.length∧i=.int .i64 k∧o=.int .i64 (fF (ah rs) k:Nat)∧Hid (iV (ah rs) k=true)∧Below w.heap.size w wr) (fun _ i _=>rs.length - (intOf i).toNat);case atStart=>exact ⟨0,R6 _,rfl,rfl,(by show _=_; simp [iV]),R3 _ _⟩
  case round =>
   obtain ⟨k,hk,rfl,rfl,HU,hB⟩:=hrel;by_cases hlt:k < rs.length
   ·have Vd:k < (ah rs).length:=by rw [UO.out]; exact hlt
    have HEK:Hid ((ah rs)[k]=rs[k].e):=by show _=_; simp [ah]
    obtain ⟨t0,t1,t2,t3,t4⟩:=(HR.out k hlt).later hb hB;have hk1:=bn k;have hk2:(k:Int) < (rs.length:Int):=by omega
    have hol:=qY (ah rs) k;have hal:Below w.heap.size w (wr.alloc (.cells #[.int .i64 rs[k].e.kind,.slice rs[k].adA rs[k].e.allow.length rs[k].capA,.string rs[k].e.over,.string rs[k].e.name,.slice rs[k].adK rs[k].e.kids.length rs[k].capK] 166)):=hB.alloc hB.size _;have Tm:=aC hal;clear hal;go_wp2_with fail;refine (Ig rs[k] _ (HF.out _ (RY hlt)) (HL.out _ (RY hlt)) ((HO.out _ (RY hlt)).below Tm.out) (HCP.out _ (RY hlt))).mono ?_;rintro e w1 ⟨rfl,hb1⟩;have hB1:Below w.heap.size w w1:=Tm.out.trans (hb1.mono Tm.out.size);have g0:w1.cell? ⟨wr.heap.size,0,none⟩=some (.int .i64 rs[k].e.kind):=by rw [hb1.cell (p:=⟨wr.heap.size,0,none⟩) (by simp)]; simp
    clear hb1 t0 t1 t2 t3 t4 Tm;cases UN:az rs[k].e with
    | false =>
     have HN:Hid (jQ (ah rs)=false):=Ih k Vd (by rw [HEK.out]; exact UN);go_wp2;go_ret;exact ⟨by rw [HN.out]; rfl,hB1⟩
    | true =>
     have Xh:Hid (iV (ah rs) (k + 1)=true):=by show _=_; rw [qZ _ _ Vd,HU.out,HEK.out,UN]; rfl
     have HOW:Hid (fF (ah rs) (k + 1)=fF (ah rs) k + (if rs[k].e.kind=1 then 1 else 0)):=by show _=_; rw [xJ _ _ Vd,HEK.out]
     by_cases YU:rs[k].e.kind=1
     ·have WU:Hid (fF (ah rs) (k + 1)=fF (ah rs) k + 1):=by show _=_; rw [HOW.out,if_pos YU]
      clear HOW;go_wp2;go_roundw;case rel=>exact ⟨k + 1,by omega,by go_num,by rw [WU.out]; go_num,Xh,hB1⟩
      case measure=>simp [intOf] <;> omega
     ·have WU:Hid (fF (ah rs) (k + 1)=fF (ah rs) k):=by show _=_; rw [HOW.out,if_neg YU]; rfl
      clear HOW;go_wp2;go_roundw;case rel=>exact ⟨k + 1,by omega,by go_num,by rw [WU.out],Xh,hB1⟩
      case measure=>simp [intOf] <;> omega
   ·obtain rfl:k=rs.length:=by omega
    have HN:Hid ((ah rs).all az=true):=by
     have:=HU.out;unfold iV at this;rwa [← UO.out,Sc] at this
    have HOW:Hid (fF (ah rs) rs.length=own (ah rs)):=by show _=_; unfold fF; rw [← UO.out,Sc]
    have hol:=qY (ah rs) rs.length;by_cases ho:fF (ah rs) rs.length≤1
    ·have HS:Hid (jQ (ah rs)=sj (ah rs)):=by
      show _=_;have h1:own (ah rs)≤1:=by rw [← HOW.out]; exact ho
      have e1:=UO.out;unfold jQ sj;rw [e1,HN.out];simp [h1,hn1,hn2]
     go_wp2_with fail;refine (wy b off cap rs _ hn1 hn2 HL.out (RZ hb hB.size) (fun i hi=>(HR.out i hi).later hb hB) (fun r hr=>(HO.out r hr).below hB)).mono ?_;rintro e w1 ⟨rfl,hb1⟩;go_wp2;go_ret;exact ⟨by rw [HS.out]; rfl,hB.trans (hb1.mono hB.size)⟩
    ·have HS:Hid (jQ (ah rs)=false):=by
      show _=_;have h1:¬ own (ah rs)≤1:=by rw [← HOW.out]; exact ho
      simp [jQ,h1]
     go_wp2;go_ret;exact ⟨by rw [HS.out]; rfl,hB⟩
 ·have HN:Hid (jQ (ah rs)=false):=KM (by rw [UO.out]; exact hn);go_enter func160,ntmps160;go_wp2_with fail
  all_goals go_ret
  all_goals exact ⟨by rw [HN.out]; rfl,R3 _ _⟩
theorem zf (ad:Option Addr) (cap:Nat) (rs:List ER) (w:World) (hlen:rs.length≤1048576) (hl:∀ r ∈ rs,r.e.light) (hf:∀ r ∈ rs,r.e.fits) (hcp:∀ r ∈ rs,r.e.allow.length≤r.capA) (hs:eX w ad rs) :
  Calls prog 160 #[.slice ad rs.length cap] w fun e w'=>e=.returned (.bool (jQ (ah rs)))∧Below w.heap.size w w':=by
 rcases hs with rfl | ⟨b,off,rfl,hb,hr,hok⟩
 ·go_enter func160,ntmps160;go_wp2_with fail;go_ret;exact ⟨rfl,R3 _ _⟩
 ·exact ze b off cap rs w hlen hl hf hcp hb hr hok
end Go.Proofs.YtdaoiceeidoehaaGreat
