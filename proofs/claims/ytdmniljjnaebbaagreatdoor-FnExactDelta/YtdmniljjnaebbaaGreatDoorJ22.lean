/- Contract of the program's function on the least strata. -/
import Derived.Test.YtdmniljjnaebbaaGreatDoorSq
import Derived.Laws.EntriesVeiled
import Derived.Test.YtdmniljjnaebbaaGreatDoorL4Obj
import Derived.Test.YtdmniljjnaebbaaGreatDoorJ17
import Derived.Test.YtdmniljjnaebbaaGreatDoorJ18
open Go.Proofs.Tryz
set_option maxHeartbeats 80000000
namespace Go.Proofs.YtdmniljjnaebbaaGreatDoor
open Go.ChangeShapes Go.WideShapes Go.ChangeAt Go.RowKit Go.Maps
open Pl
def Ny (ts:List Ty) (w:World) (e:Ending) (w':World):Prop :=
 ((∃ (b n:Nat) (σ:Ky→Option Int),e=.returned (.tuple #[.map (some b),.bool true])∧aJ dE prog 172 w' b n (gZ σ)∧Least ts (fun k=>(σ k).getD 0)∧∀ k,(∃ x,σ k=some x) ↔ k ∈ ak ts) ∨ (e=.returned (.tuple #[.map none,.bool false])∧¬ ∃ f,Sol ts f))∧aa w w'
theorem Nz (N:Nat) (ks:List Ky):mq N (fun _=>none) ks=N * ks.length:=by
 induction ks with
 | nil=>simp [mq]
 | cons k ks ih=>simp only [mq,ih,uw,List.length_cons]; push_cast; rw [Int.mul_add]; omega
theorem KH {rs:List TR} (hf:∀ r ∈ rs,r.fits):∀ k ∈ ak (ag rs),k.1.size≤maxLen∧k.2.size≤maxLen:=by
 intro k hk;obtain ⟨t,ht,r,hr,rfl⟩:=o9.1 hk;obtain ⟨t',ht',rfl⟩:=Sy.1 ht;obtain ⟨q,hq,rfl⟩:=Sy.1 hr;exact ⟨(hf t' ht').1,((hf t' ht').2.2 q hq).1⟩
set_option maxRecDepth 100000 in
theorem wL (ad:Option Addr) (cap:Nat) (rs:List TR) (bL nL:Nat) (ML:Ky→Option Value) (E:List (Ky × St)) (w:af) (hlen:rs.length≤6) (hs:iN w ad rs) (hf:∀ r ∈ rs,r.fits) (hrl:∀ r ∈ rs,r.rows.length≤6) (hG:Grp w bL nL ML E) (hE:Edge (ag rs) E) (hF:Found (ag rs)) (hEl:E.length≤100000) :
  Calls prog 126 #[.slice ad rs.length cap,.map (some bL)] w (Ny (ag rs) w):=by
 have HS:=ay hs;have Tv:=ay hf;have Xp:Hid (∀ r ∈ rs,r.rows.length≤6):=hrl;have HG:Hid (Grp w bL nL ML E):=hG;have HE:=ay hE;have HF:=ay hF;have Zg:Hid (bL < w.heap.size):=hG.map.lt;clear hs hf hrl hG hE hF;have hmm:=@run_makeMap prog;go_enter func126,ntmps126;have HB0:Hid (aa w ((w.alloc (.cells #[.map (some bL)] 229)).alloc (.cells #[.int .i64 0] 2))):=((Si _ _).alloc (Sj _) _).alloc (by simp) _;have U0:Hid (((w.alloc (.cells #[.map (some bL)] 229)).alloc (.cells #[.int .i64 0] 2)).cell? ⟨w.heap.size,0,none⟩=some (.map (some bL))∧((w.alloc (.cells #[.map (some bL)] 229)).alloc (.cells #[.int .i64 0] 2)).cell? ⟨w.heap.size + 1,0,none⟩=some (.int .i64 0)∧((w.alloc (.cells #[.map (some bL)] 229)).alloc (.cells #[.int .i64 0] 2)).frozen? ⟨w.heap.size + 1,0,none⟩=false∧w.heap.size + 1 < ((w.alloc (.cells #[.map (some bL)] 229)).alloc (.cells #[.int .i64 0] 2)).heap.size):=⟨by simp,by simp,by simp,by simp⟩;go_wp2_with fail;go_loopw [17] (fun i wr=>∃ k:Nat,k≤rs.length∧i=.int .i64 k∧Hid (aa w wr)∧Hid (wr.cell? ⟨w.heap.size,0,none⟩=some (.map (some bL))∧wr.cell? ⟨w.heap.size + 1,0,none⟩=some (.int .i64 ((cz rs k).length:Int))∧wr.frozen? ⟨w.heap.size + 1,0,none⟩=false∧w.heap.size + 1 < wr.heap.size)) (fun i _=>rs.length - (intOf i).toNat);case atStart=>exact ⟨0,Sm _,rfl,HB0,U0⟩
 clear HB0 U0;obtain ⟨k,hk,rfl,HB,HC⟩:=hrel;obtain ⟨c0,c1,c2,c3⟩:=HC.out;have hu:=ul rs Xp.out k;by_cases hlt:k < rs.length
 ·rcases HS.out.below HB.out with rfl | ⟨b,off,rfl,hb,hr,-⟩
  ·simp at hlt
  obtain ⟨t0,t1⟩:=hr k hlt;have hk1:=bH k;have hk2:(k:Int) < (rs.length:Int):=by omega
  have h6:=Xp.out _ (Sd hlt);have TE:Hid ((cz rs (k + 1)).length=(cz rs k).length + rs[k].rows.length):=by show _=_; rw [nN _ _ hlt,Sr]; simp [gY]
  obtain ⟨cn,hcn⟩:∃ cn,cn=(cz rs k).length:=⟨_,rfl⟩;rw [← hcn] at c1 hu TE;have HB1:Hid (aa w ((wr.setCell ⟨w.heap.size + 1,0,none⟩ (.int .i64 ((cn:Int) + (rs[k].rows.length:Int)))).alloc (.cells #[.string rs[k].name,.slice rs[k].ad rs[k].rows.length rs[k].cap] 78))):=(HB.out.setCell (p:=⟨w.heap.size + 1,0,none⟩) (by simp) _).alloc (by simpa using HB.out.size) _;have TW:Hid (((wr.setCell ⟨w.heap.size + 1,0,none⟩ (.int .i64 ((cn:Int) + (rs[k].rows.length:Int)))).alloc (.cells #[.string rs[k].name,.slice rs[k].ad rs[k].rows.length rs[k].cap] 78)).cell? ⟨w.heap.size,0,none⟩=some (.map (some bL))∧((wr.setCell ⟨w.heap.size + 1,0,none⟩ (.int .i64 ((cn:Int) + (rs[k].rows.length:Int)))).alloc (.cells #[.string rs[k].name,.slice rs[k].ad rs[k].rows.length rs[k].cap] 78)).cell? ⟨w.heap.size + 1,0,none⟩=some (.int .i64 ((cz rs (k + 1)).length:Int))∧((wr.setCell ⟨w.heap.size + 1,0,none⟩ (.int .i64 ((cn:Int) + (rs[k].rows.length:Int)))).alloc (.cells #[.string rs[k].name,.slice rs[k].ad rs[k].rows.length rs[k].cap] 78)).frozen? ⟨w.heap.size + 1,0,none⟩=false∧w.heap.size + 1 < ((wr.setCell ⟨w.heap.size + 1,0,none⟩ (.int .i64 ((cn:Int) + (rs[k].rows.length:Int)))).alloc (.cells #[.string rs[k].name,.slice rs[k].ad rs[k].rows.length rs[k].cap] 78)).heap.size):=by
   obtain ⟨X,hX⟩:∃ X,X=wr.setCell ⟨w.heap.size + 1,0,none⟩ (.int .i64 ((cn:Int) + (rs[k].rows.length:Int))):=⟨_,rfl⟩;have hXs:X.heap.size=wr.heap.size:=by rw [hX]; simp
   have hB:aa X (X.alloc (.cells #[.string rs[k].name,.slice rs[k].ad rs[k].rows.length rs[k].cap] 78)):=(Si _ _).alloc (Sj _) _;rw [← hX];refine ⟨aK hB (by omega) (by rw [hX,bz (by omega)]; exact c0),aK hB (by omega) (by rw [hX,TE.out]; push_cast; exact iM c1),?_,by simp; omega⟩;rw [hB.frozen (p:=⟨w.heap.size + 1,0,none⟩) (by simp; omega),hX];simpa using c2
  clear hr hcn HC;go_wp2;go_roundw;case rel=>exact ⟨k + 1,by omega,by go_num,HB1,TW⟩
  simp [intOf] <;> omega
 obtain rfl:k=rs.length:=by omega
 have hEN:cz rs rs.length=ak (ag rs):=by unfold cz; rw [Su]
 rw [hEN] at c1 hu;obtain ⟨N,hN⟩:∃ N,N=(ak (ag rs)).length:=⟨_,rfl⟩;rw [← hN] at c1 hu;have Vh:Hid (N=(ak (ag rs)).length):=hN;have HEN:Hid (cz rs rs.length=ak (ag rs)):=hEN;have hN36:N≤36:=by omega
 have hbl:=Zg.out;have hwr:w.heap.size≤wr.heap.size:=HB.out.size;obtain ⟨W0,hW0⟩:∃ W0,W0=(((wr.alloc (.map #[] 0)).alloc (.cells #[.map (some wr.heap.size)] 167)).alloc (.cells #[(.func (Fn.func 167) #[] #[.pointer (some ⟨wr.heap.size + 1,0,none⟩),.pointer (some ⟨w.heap.size + 1,0,none⟩),.pointer (some ⟨w.heap.size,0,none⟩),.pointer (some ⟨wr.heap.size + 1 + 1,0,none⟩)])] 273)):=⟨_,rfl⟩;have hal:aa wr W0:=by
  rw [hW0]
  repeat (first | exact Si _ _ | refine Below.alloc ?_ (by first | (simp; done) | (simp; omega)) _)
 have hs0:W0.heap.size=wr.heap.size + 3:=by rw [hW0]; simp
 have HRW:Hid (Rw W0 (wr.heap.size + 1) (w.heap.size + 1) w.heap.size (wr.heap.size + 1 + 1) wr.heap.size bL N 0 nL ML E (fun _=>none)):=by
  have hGr:Grp wr bL nL ML E:=HG.out.below HB.out;have hMV:aJ dE prog 172 W0 wr.heap.size 0 (gZ (fun _=>none)):=by
   have h1:=j6 dE prog 172 wr;have e1:gZ (fun _=>none)=fun _=>none:=by funext k; rfl
   rw [e1];refine h1.below ?_;rw [hW0]
   repeat (first | exact Si _ _ | refine Below.alloc ?_ (by first | (simp; done) | (simp; omega)) _)
  have hcS:W0.cell? ⟨wr.heap.size + 1,0,none⟩=some (.map (some wr.heap.size)):=by
   rw [hW0];exact aK ((Si _ _).alloc (Sj _) _) (by simp) (dM wr _ _ _ 0 rfl)
  have hcR:W0.cell? ⟨wr.heap.size + 1 + 1,0,none⟩=some (CW (wr.heap.size + 1) (w.heap.size + 1) w.heap.size (wr.heap.size + 1 + 1)):=by
   rw [hW0];exact fw _ _ _ _ _ _ rfl
  exact ⟨hcS,aK hal (by omega) c1,aK hal (by omega) c0,hcR,by omega,by omega,by omega,by omega,hMV,hGr.below hal,by omega,hGr.fresh (Sj _)⟩
 have HB0:=jb HB hal;clear hu hEN hN hal HC;go_wp2_with fail;rw [← hW0];clear hW0 c0 c1 c2 c3 HB;obtain ⟨bS,hbS⟩:∃ bS,bS=wr.heap.size:=⟨_,rfl⟩;obtain ⟨gS,hgS⟩:∃ gS,gS=wr.heap.size + 1:=⟨_,rfl⟩;obtain ⟨gR,hgR⟩:∃ gR,gR=wr.heap.size + 1 + 1:=⟨_,rfl⟩;obtain ⟨gC,ZP⟩:∃ gC,gC=w.heap.size + 1:=⟨_,rfl⟩;obtain ⟨gL,hgL⟩:∃ gL,gL=w.heap.size:=⟨_,rfl⟩;have hb1:w.heap.size≤bS:=by omega
 have HRW2:Hid (Rw W0 gS gC gL gR bS bL N 0 nL ML E (fun _=>none)):=by rw [hbS,hgS,hgR,ZP,hgL]; exact HRW
 have HI0:Hid (∃ (σ:Ky→Option Int) (n:Nat),Rw W0 gS gC gL gR bS bL N n nL ML E σ∧Rz (ag rs) N σ∧(n:Int) + mq N σ (ak (ag rs))≤2000∧Raised E (fun _=>none) σ∧∀ key ∈ cz rs 0,∃ x,σ key=some x):=by
  refine ⟨fun _=>none,0,HRW2.out,⟨fun k x h=>by cases h⟩,?_,Raised.refl _ _,fun k hk=>by simp [cz,ag,ak] at hk⟩;rw [Nz,← Vh.out];have h1:(N:Int) * N≤36 * 36:=Int.mul_le_mul (by omega) (by omega) (by omega) (by omega)
  push_cast; omega
 rw [← hgR,← hgS,← hbS,← ZP,← hgL];clear HRW HRW2 hs0 hmm hgR hgS hbS ZP hgL;go_loopw [31] (fun i w2=>∃ k:Nat,k≤rs.length∧i=.int .i64 k∧Hid (aa w w2)∧Hid (∃ (σ:Ky→Option Int) (n:Nat),Rw w2 gS gC gL gR bS bL N n nL ML E σ∧Rz (ag rs) N σ∧(n:Int) + mq N σ (ak (ag rs))≤2000∧Raised E (fun _=>none) σ∧∀ key ∈ cz rs k,∃ x,σ key=some x)) (fun i _=>rs.length - (intOf i).toNat);case atStart=>exact ⟨0,Sm _,rfl,HB0,HI0⟩
 clear HB0 HI0;obtain ⟨k,hk,rfl,HB,HI⟩:=hrel;by_cases hlt:k < rs.length
 ·rcases HS.out.below HB.out with rfl | ⟨b,off,rfl,hb,hr,-⟩
  ·simp at hlt
  obtain ⟨t0,t1⟩:=hr k hlt;have hk1:=bH k;have hk2:(k:Int) < (rs.length:Int):=by omega
  have h6:=Xp.out _ (Sd hlt);obtain ⟨W1,hW1⟩:∃ W1,W1=wr.alloc (.cells #[.string rs[k].name,.slice rs[k].ad rs[k].rows.length rs[k].cap] 78):=⟨_,rfl⟩;have hal:aa wr W1:=by rw [hW1]; exact (Si _ _).alloc (Sj _) _
  obtain ⟨g12,ZQ⟩:∃ g12,g12=wr.heap.size:=⟨_,rfl⟩;have hbw:bS < wr.heap.size:=by obtain ⟨σ,n,hR,-⟩:=HI.out; exact hR.map.lt
  have HC12:Hid (W1.cell? ⟨g12,0,none⟩=some (.string rs[k].name)∧g12 < W1.heap.size∧g12 ≠ bS):=⟨by rw [hW1,ZQ]; simp,by rw [hW1,ZQ]; simp,by omega⟩;have HB1:=jb HB hal;have HI1:Hid (∃ (σ:Ky→Option Int) (n:Nat),Rw W1 gS gC gL gR bS bL N n nL ML E σ∧Rz (ag rs) N σ∧(n:Int) + mq N σ (ak (ag rs))≤2000∧Raised E (fun _=>none) σ∧∀ key ∈ cz rs k,∃ x,σ key=some x):=by
   obtain ⟨σ,n,hR,h2⟩:=HI.out;exact ⟨σ,n,hR.below hal,h2⟩
  clear hr hal HI HB;go_wp2_with fail;rw [← hW1,← ZQ];clear hW1 t0 t1 ZQ;go_loopw [38] (fun i w3=>∃ j:Nat,j≤rs[k].rows.length∧i=.int .i64 j∧Hid (aa w w3)∧Hid (w3.cell? ⟨g12,0,none⟩=some (.string rs[k].name)∧g12 < w3.heap.size∧g12 ≠ bS)∧Hid (∃ (σ:Ky→Option Int) (n:Nat),Rw w3 gS gC gL gR bS bL N n nL ML E σ∧Rz (ag rs) N σ∧(n:Int) + mq N σ (ak (ag rs))≤2000∧Raised E (fun _=>none) σ∧∀ key ∈ cz rs k ++ gY rs[k] j,∃ x,σ key=some x)) (fun i _=>rs[k].rows.length - (intOf i).toNat);case atStart=>exact ⟨0,Sm _,rfl,HB1,HC12,by simpa [gY] using HI1⟩
  clear HB1 HC12 HI1;obtain ⟨j,hj,rfl,HB,HC,HI⟩:=hrel;by_cases hjl:j < rs[k].rows.length
  ·rcases HS.out.below HB.out with hnil | ⟨b',off',he,hb2,hr,hok⟩
   ·rw [hnil] at hlt; simp at hlt
   injection he with he; injection he with he1 he2; subst he1; subst he2;have ok:=hok rs[k] (Sd hlt);rcases ok with hnil | ⟨b2,TY,had,hbb,hr2,-⟩
   ·rw [hnil] at hjl; simp at hjl
   obtain ⟨q0,q1⟩:=hr2 j hjl;have hj1:=bH j;have hj2:(j:Int) < (rs[k].rows.length:Int):=by omega
   obtain ⟨σ,n,hR,hZ,hn,Zk,hall⟩:=HI.out;obtain ⟨x0,x1,x2⟩:=HC.out;have cR:=hR.cR;unfold CW at cR;have lR:=hR.lR.1;obtain ⟨W3,hW3⟩:∃ W3,W3=wr.alloc (.cells #[.string rs[k].rows[j].name,.slice rs[k].rows[j].ad rs[k].rows[j].rows.length rs[k].rows[j].cap] 122):=⟨_,rfl⟩;have hal:aa wr W3:=by rw [hW3]; exact (Si _ _).alloc (Sj _) _
   have HR3:=ay (hR.below hal);have HZ3:=ay hZ;have HB3:=jb HB hal;have Uy:Hid (W3.cell? ⟨g12,0,none⟩=some (.string rs[k].name)∧g12 < W3.heap.size∧g12 ≠ bS):=⟨aK hal x1 x0,Sg x1 hal.size,x2⟩;have VU:Hid (Raised E (fun _=>none) σ):=Zk;have TB:Hid (∀ key ∈ cz rs k ++ gY rs[k] j,∃ x,σ key=some x):=hall;have hmp:=hZ.mu_pos (ak (ag rs));have HKM:Hid ((rs[k].name,rs[k].rows[j].name) ∈ ak (ag rs)):=o9.2 ⟨rs[k].p,List.mem_map_of_mem (Sd hlt),rs[k].rows[j].p,List.mem_map_of_mem (Sd hjl),rfl⟩;rw [had];clear hr hok hr2 hal hR hZ Zk hall HI HB HC;go_wp2_with fail;rw [← hW3];clear hW3 q0 q1 cR x0;refine (Ki (ag rs) gS gC gL gR bS bL N nL ML E HE.out HF.out Vh.out hN36 (KH Tv.out) hEl (mq N σ (ak (ag rs))).toNat _ σ n (rs[k].name,rs[k].rows[j].name) 0 HR3.out HZ3.out (by omega) (by omega) HKM.out (by omega) (by omega) (o6.zero _ _)).mono ?_;rintro e w5 ⟨ok,σ5,n5,rfl,hg5,hR5,hZ5,Yj,VB,hf5,ZI⟩;have TI:Hid (aa w w5):=HB3.out.grown hg5 HB3.out.size (fun i hi=>by injection hi with hi; omega);cases ok;case false=>
    have HP:Hid (Ny (ag rs) w (.returned (.tuple #[.map none,.bool false])) w5):=⟨.inr ⟨rfl,hf5 rfl⟩,TI.out⟩;clear hg5 hR5 hZ5 Yj VB hf5 ZI;go_wp2;refine bodyPost_ret (v:=.tuple #[.map none,.bool false]) ?_ rfl HP.out;simp [results,Tryz.results126,go_sem]
   have HI5:Hid (∃ (σ:Ky→Option Int) (n:Nat),Rw w5 gS gC gL gR bS bL N n nL ML E σ∧Rz (ag rs) N σ∧(n:Int) + mq N σ (ak (ag rs))≤2000∧Raised E (fun _=>none) σ∧∀ key ∈ cz rs k ++ gY rs[k] (j + 1),∃ x,σ key=some x):=by
    obtain ⟨Zk,y,hy,-⟩:=ZI rfl;refine ⟨σ5,n5,hR5,hZ5,by omega,VU.out.trans Zk,fun key hk=>?_⟩;rw [qZ _ _ hjl,← List.append_assoc] at hk;rcases Sz.1 hk with hk | hk
    ·obtain ⟨x,hx⟩:=TB.out key hk;obtain ⟨z,hz,-⟩:=Zk.mono key x hx;exact ⟨z,hz⟩
    simp at hk; subst hk; exact ⟨y,hy⟩
   have HC5:Hid (w5.cell? ⟨g12,0,none⟩=some (.string rs[k].name)∧g12 < w5.heap.size∧g12 ≠ bS):=⟨(jH hg5 Uy.out.2 0).trans Uy.out.1,Sg Uy.out.2.1 hg5.size,Uy.out.2.2⟩;clear hg5 hR5 hZ5 Yj VB hf5 ZI;go_wp2;go_roundw;case rel=>exact ⟨j + 1,by omega,by go_num,TI,HC5,HI5⟩
   simp [intOf] <;> omega
  obtain rfl:j=rs[k].rows.length:=by omega
  have HI5:Hid (∃ (σ:Ky→Option Int) (n:Nat),Rw wr gS gC gL gR bS bL N n nL ML E σ∧Rz (ag rs) N σ∧(n:Int) + mq N σ (ak (ag rs))≤2000∧Raised E (fun _=>none) σ∧∀ key ∈ cz rs (k + 1),∃ x,σ key=some x):=by rw [nN _ _ hlt]; exact HI
  clear HI;go_wp2;go_roundw;case rel=>exact ⟨k + 1,by omega,by go_num,HB,HI5⟩
  simp [intOf] <;> omega
 obtain rfl:k=rs.length:=by omega
 obtain ⟨σ,n,hR,hZ,hn,Zk,hall⟩:=HI.out;have cS:=hR.cS;have HP:Hid (Ny (ag rs) w (.returned (.tuple #[.map (some bS),.bool true])) wr):=by
  rw [HEN.out] at hall;refine ⟨.inl ⟨bS,n,σ,rfl,hR.map,CV HE.out HF.out hZ hall (fun k=>Zk.done k (.inl (fun x h=>by cases h))),fun k=>⟨fun ⟨x,hx⟩=>(hZ.there k x hx).1,hall k⟩⟩,HB.out⟩
 clear hR hZ hn Zk hall HI;go_wp2;refine bodyPost_ret (v:=.tuple #[.map (some bS),.bool true]) ?_ rfl HP.out;simp [results,Tryz.results126,go_sem]
set_option linter.unusedVariables false
set_option maxRecDepth 100000
def Pk (u:Al) (g:Fc):Bool:=yR g.c g.d u.t u.s
theorem KI (p:Fc→Bool) {zs:List Fc} {k:Nat} (h:k < zs.length):(zs.drop k).any p=(p zs[k] || (zs.drop (k + 1)).any p):=by rw [SH h]; rfl
theorem jP.at0 {w:af} {ad:Option Addr} {fs:List Fc} (h:jP w ad fs) {k:Nat} (hk:k < fs.length):∃ b off,ad=some ⟨b,off,none⟩∧EJ w b (off + k * 5) fs[k]∧b < w.heap.size:=by
 rcases h with h | ⟨b',off',e,hb,hr⟩
 ·rw [h] at hk; simp at hk
 exact ⟨b',off',e,hr k hk,hb⟩
theorem Pm (g:Nat) (u:Al) (f:Fc) (w:af) (hg:g < w.heap.size) (h0:w.cell? ⟨g,0,none⟩=some (.string u.t)) (h1:w.cell? ⟨g,1,none⟩=some (.string u.s)) :
  Calls prog 136 #[.agg #[.string f.a,.string f.b,.string f.r,.string f.c,.string f.d],.pointer (some ⟨g,0,none⟩)] w fun e w'=>e=.returned (.bool (Pk u f))∧aa w w':=by
 have HB:Hid (aa w (w.alloc (.cells #[.string f.a,.string f.b,.string f.r,.string f.c,.string f.d] 63))):=(Si _ _).alloc (Sj _) _;have heq:=iY f.c f.d u.t u.s rfl;go_enter func136,ntmps136;go_wp2;go_ret;exact ⟨rfl,HB.out⟩
theorem QO (xs:Array Value) (u:af):(callFunc 136 xs).run prog u=.ok (.enter 136 xs) u:=by kernel_rfl
theorem Fy (FC:Nat) (rc cp:Array Value) (p:Fc→Bool) (ad:Option Addr) (cap:Nat) (xs:List Fc) (w:af) (hlen:xs.length≤1048576) (hs:jP w ad xs)
  (hrun:∀ (ys:Array Value) (u:World),(callFunc FC ys).run prog u=.ok (.enter FC ys) u) (hp:∀ x ∈ xs,∀ w1:World,aa w w1→Calls prog FC (rc.push (.agg #[.string x.a,.string x.b,.string x.r,.string x.c,.string x.d]) ++ cp) w1 fun e w'=>e=.returned (.bool (p x))∧aa w1 w') :
  Calls prog 176 #[.slice ad xs.length cap,.func (Fn.func FC) rc cp] w fun e w'=>(∃ r:Int,e=.returned (.int .i64 r)∧decide (0≤r)=xs.any p)∧aa w w':=by
 have HS:=aj hs;have HRUN:=aj hrun;have HP:=aj hp;clear hs hrun hp;have HD:Hid (∀ k (h:k < xs.length),(xs.drop k).any p=(p xs[k] || (xs.drop (k + 1)).any p)):=fun k h=>KI p h;go_enter func176,ntmps176;go_wp2_with fail;go_loopw [8] (fun i wr=>∃ k:Nat,k≤xs.length∧i=.int .i64 k∧Hid ((xs.drop k).any p=xs.any p)∧Hid (aa w wr)) (fun i _=>xs.length - (intOf i).toNat);case atStart=>exact ⟨0,Sm _,rfl,rfl,Si _ _⟩
 obtain ⟨k,hk,rfl,HQ,HB⟩:=hrel;by_cases hlt:k < xs.length
 ·obtain ⟨b,off,Tq,⟨t0,t1,t2,t3,t4⟩,hbl⟩:=jP.at0 (HS.out.below HB.out) hlt;have HM:Hid (xs[k] ∈ xs):=Sd hlt;have hk1:=bH k;have hk2:(k:Int) < (xs.length:Int):=by omega
  have HD2:=aj (HD.out k hlt);subst Tq;go_wp2_with fail;rw [HRUN.out,Oper.upon_enter];refine (HP.out _ HM.out _ HB.out).mono ?_;rintro e w1 ⟨rfl,hb1⟩;have HB1:=jb HB hb1;clear hb1 t0 t1 t2 t3 t4;cases he:p xs[k];case true=>
   have HN:Hid (xs.any p=true):=by show _=_; rw [← HQ.out,HD2.out,he]; rfl
   go_wp2;go_ret;exact ⟨⟨k,rfl,by rw [HN.out]; simp⟩,HB1.out⟩
  have WF:Hid ((xs.drop (k + 1)).any p=xs.any p):=by show _=_; rw [← HQ.out,HD2.out,he]; rfl
  go_wp2;go_roundw;case rel=>exact ⟨k + 1,by omega,by go_num,WF,HB1⟩
  simp [intOf] <;> omega
 have HN:Hid (xs.any p=false):=by show _=_; rw [← HQ.out,List.drop_of_length_le (by omega)]; rfl
 go_wp2;go_ret;exact ⟨⟨-1,rfl,by rw [HN.out]; simp⟩,HB.out⟩
theorem zw (FC:Nat) (rc cp:Array Value) (p:Fc→Bool) (ad:Option Addr) (cap:Nat) (xs:List Fc) (w:af) (hlen:xs.length≤1048576) (hs:jP w ad xs)
  (hrun:∀ (ys:Array Value) (u:World),(callFunc FC ys).run prog u=.ok (.enter FC ys) u) (hp:∀ x ∈ xs,∀ w1:World,aa w w1→Calls prog FC (rc.push (.agg #[.string x.a,.string x.b,.string x.r,.string x.c,.string x.d]) ++ cp) w1 fun e w'=>e=.returned (.bool (p x))∧aa w1 w') :
  Calls prog 135 #[.slice ad xs.length cap,.func (Fn.func FC) rc cp] w fun e w'=>e=.returned (.bool (xs.any p))∧aa w w':=by
 have HC:=aj (Fy FC rc cp p ad cap xs w hlen hs hrun hp);clear hs hrun hp;go_enter func135,ntmps135;go_wp2_with fail;refine HC.out.mono ?_;rintro e w' ⟨⟨r,rfl,hr⟩,hbx⟩;have HR:=aj hr;clear hr;go_wp2;go_ret;exact ⟨by rw [← HR.out]; rfl,hbx⟩
theorem Io {us:List Al} {new:List Fc} {k:Nat} (h:k < us.length):dW (us.take (k + 1)) new=dW (us.take k) new ++ (if new.any (Pk us[k]) then [us[k]] else []):=by
 unfold dW;rw [Sk h,Te];congr 1;rw [List.filter_cons];rfl
theorem BQ (us:List Al) (new:List Fc):(dW us new).length≤us.length:=List.length_filter_le _ _
theorem pF (Ua:Option Addr) (Tw:Nat) (us:List Al) (Xj:Option Addr) (Un:Nat) (new:List Fc) (w:af) (XV:us.length≤1000) (hnl:new.length≤1048576) (hu:gP w Ua us) (hf:jP w Xj new) :
  Calls prog 97 #[.slice Ua us.length Tw,.slice Xj new.length Un] w fun e w'=>(∃ v,e=.returned v∧w'.ownsRow w.heap.size 40 2 v (dW us new).length (pairs (dW us new)))∧aa w w':=by
 obtain ⟨iO,h0,h1,h2,h3⟩:=yM;have Xd:=au (And.intro h0 (And.intro h1 (And.intro h2 h3)));have HU:=au hu;have HF:=au hf;have XF:Hid (w.ownsRow w.heap.size 40 2 (.slice none 0 0) (dW (us.take 0) new).length (pairs (dW (us.take 0) new))):=World.ownsRow_nil _ _ _ _;clear hu hf h0 h1 h2 h3;go_enter func97,ntmps97;go_wp2_with fail;go_loopw [5,10] (fun v i wr=>∃ k:Nat,k≤us.length∧i=.int .i64 k∧Hid (wr.ownsRow w.heap.size 40 2 v (dW (us.take k) new).length (pairs (dW (us.take k) new)))∧Hid (aa w wr)) (fun _ i _=>us.length - (intOf i).toNat);case atStart=>exact ⟨0,Sm _,rfl,XF,Si _ _⟩
 clear XF;obtain ⟨k,hk,rfl,HO,HB⟩:=hrel;by_cases hlt:k < us.length
 ·obtain ⟨b,off,Tq,⟨t0,t1⟩,hbl⟩:=gP.at0 (HU.out.below HB.out) hlt;have hi1:=bH k;have hi2:(k:Int) < (us.length:Int):=by omega
  have WE:=au (Io (new:=new) hlt);have hkl:=BQ (us.take k) new;rw [SL] at hkl;obtain ⟨u,hu⟩:∃ u,u=us[k]:=⟨_,rfl⟩;rw [← hu] at t0 t1 WE;clear hu;obtain ⟨W1,hW1⟩:∃ W1,W1=wr.alloc (.cells #[.string u.t,.string u.s] 40):=⟨_,rfl⟩;have TT:=mY hW1;have HB1:=au (HB.out.trans (TT.out.mono HB.out.size));have d0:W1.cell? ⟨wr.heap.size,0,none⟩=some (.string u.t):=by rw [hW1]; simp
  have d1:W1.cell? ⟨wr.heap.size,1,none⟩=some (.string u.s):=by rw [hW1]; simp
  have dl:wr.heap.size < W1.heap.size:=aC d0;have TM:=au (aB HO.out TT.out);obtain ⟨ys,hys⟩:∃ ys,ys=dW (us.take k) new:=⟨_,rfl⟩;rw [← hys] at TM WE hkl;obtain ⟨XI,UM,rfl,-⟩:=jG TM.out;have TE:=au (zw 136 #[] #[.pointer (some ⟨wr.heap.size,0,none⟩)] (Pk u) Xj Un new W1 hnl (HF.out.below HB1.out) QO (fun x hx w1 hb=>Pm wr.heap.size u x w1 (Sg dl hb.size) (aO hb dl d0) (aO hb dl d1)));subst Tq;clear hys HO;go_wp2_with fail;rw [← hW1];clear hW1 t0 t1;refine TE.out.mono ?_;rintro e w2 ⟨rfl,hb2⟩;have HB2:=au (HB1.out.trans (hb2.mono HB1.out.size));have Tj:=au (aB TM.out hb2);replace d0:=aO hb2 dl d0;replace d1:=aO hb2 dl d1;replace dl:=Sg dl hb2.size;clear hb2 TE TM TT;cases hh:new.any (Pk u);case false=>
   have HR:Hid (w2.ownsRow w.heap.size 40 2 (.slice XI ys.length UM) (dW (us.take (k + 1)) new).length (pairs (dW (us.take (k + 1)) new))):=by
    show World.ownsRow _ _ _ _ _ _ _;rw [WE.out,hh]; simp only [Bool.false_eq_true,if_false,List.append_nil]; exact Tj.out
   go_wp2;go_roundw;case rel=>exact ⟨k + 1,by omega,by go_num,HR,HB2⟩
   simp [intOf] <;> omega
  have HWE:Hid (dW (us.take (k + 1)) new=ys ++ [u]):=by show _=_; rw [WE.out,hh]; rfl
  obtain ⟨W4,TV⟩:∃ W4,W4=w2.alloc (.cells #[.string u.t,.string u.s] 40):=⟨_,rfl⟩;have TJ:Hid (W4.ownsRow w.heap.size 40 2 (.slice XI ys.length UM) ys.length (pairs ys)):=by show World.ownsRow _ _ _ _ _ _ _; rw [TV]; exact Tj.out.alloc _
  have HN4:Hid (∀ j x,[Value.string u.t,.string u.s][j]?=some x→W4.cell? ((⟨w2.heap.size,0,none⟩:Addr).add j)=some x):=by rw [TV]; exact Qe w2 u
  have Uh:Hid (aa w W4):=by show Below _ _ _; rw [TV]; exact HB2.out.alloc HB2.out.size _
  have WS:w.heap.size≤W4.heap.size:=Uh.out.size;clear hh;go_wp2_with (at_builtin; rw [← TV]; clear TV; refine wpList_append_own_at _ rfl _ _ 139 rfl w.heap.size 40 iO (.agg #[.string ⟨#[]⟩,.string ⟨#[]⟩]) 2 32 underlying139 Xd.out.1 Xd.out.2.1 Xd.out.2.2.1 Xd.out.2.2.2 rfl (by decide) _ ys.length (pairs ys) rfl TJ.out ⟨w2.heap.size,0,none⟩ 1 1 [.string u.t,.string u.s] rfl rfl HN4.out (by simp [Value.oneCell']) (by unfold maxLen; omega) (by omega) WS ?_);intro v' w5 hown hgr _ _;have HR:Hid (w5.ownsRow w.heap.size 40 2 v' (dW (us.take (k + 1)) new).length (pairs (dW (us.take (k + 1)) new))):=by
   show World.ownsRow _ _ _ _ _ _ _;rw [HWE.out,Sr];have:pairs (ys ++ [u])=pairs ys ++ [.string u.t,.string u.s]:=by simp [pairs]
   rw [this]; exact hown
  have VI:Hid (aa w w5):=Uh.out.grown hgr Uh.out.size (fun g hg=>(TJ.out.lt g hg).1);clear hown hgr d0 d1 dl;go_wp2;go_roundw;case rel=>exact ⟨k + 1,by omega,by go_num,HR,VI⟩
  simp [intOf] <;> omega
 have HE:Hid (wr.ownsRow w.heap.size 40 2 u5 (dW us new).length (pairs (dW us new))):=by
  have h:=HO.out;rw [List.take_of_length_le (by omega)] at h;exact h
 clear HO;go_wp2;go_ret;exact ⟨⟨_,rfl,HE.out⟩,HB.out⟩
end Go.Proofs.YtdmniljjnaebbaaGreatDoor
