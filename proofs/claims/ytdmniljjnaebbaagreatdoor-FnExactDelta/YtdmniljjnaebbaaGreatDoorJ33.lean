/- The program's set of facts out of a list of them. -/
import Derived.Test.YtdmniljjnaebbaaGreatDoorSq
import Derived.Test.YtdmniljjnaebbaaGreatDoorJ28
import Derived.Test.YtdmniljjnaebbaaGreatDoorJ31
open Go.Proofs.Tryz
set_option maxHeartbeats 80000000
namespace Go.Proofs.YtdmniljjnaebbaaGreatDoor
set_option maxRecDepth 100000
set_option linter.unusedVariables false
open Go.ChangeShapes Go.WideShapes Go.ChangeAt Go.RowKit Go.Maps
open Pl
section
variable [DecidableEq Fc]
theorem Au (ad:Option Addr) (cap:Nat) (fs:List Fc) (w:af) (hl:fs.length≤1048576) (hs:jP w ad fs) (hf:∀ x ∈ fs,x.fits) :
  Calls prog 63 #[.slice ad fs.length cap] w fun e w'=>(∃ b n,e=.returned (.map (some b))∧aJ jJ prog 63 w' b n (vS fs))∧aa w w':=by
 have hmm:=@run_makeMap prog;obtain ⟨W0,hW0⟩:∃ W0,W0=w.alloc (.map #[] 0):=⟨_,rfl⟩;have HB0:=mY hW0;have Ww:Hid (aJ jJ prog 63 W0 w.heap.size 0 (vS (fs.take 0))):=by
  have h:=j6 jJ prog 63 w;show aJ _ _ _ _ _ _ _;rw [hW0]; exact h
 have hz0:w.heap.size < W0.heap.size:=by rw [hW0]; simp
 have HS:=aj hs;have HF:=aj hf;clear hs hf;go_enter func63,ntmps63;go_wp2_with fail;rw [← hW0];clear hW0 hmm;go_loopw [9] (fun i wr=>∃ k:Nat,k≤fs.length∧i=.int .i64 k∧Hid (aJ jJ prog 63 wr w.heap.size k (vS (fs.take k)))∧Hid (aa w wr)∧Hid (w.heap.size < wr.heap.size)) (fun i _=>fs.length - (intOf i).toNat);case atStart=>exact ⟨0,Sm _,rfl,Ww,HB0,hz0⟩
 clear Ww HB0 hz0;obtain ⟨k,hk,rfl,HV,HB,HZ⟩:=hrel;by_cases hlt:k < fs.length
 ·obtain ⟨b,off,Tq,⟨t0,t1,t2,t3,t4⟩,hbl⟩:=jP.at0 (HS.out.below HB.out) hlt;have hi1:=bH k;have hi2:(k:Int) < (fs.length:Int):=by omega
  have HT:Hid (fs.take (k + 1)=fs.take k ++ [fs[k]]):=Sk hlt;obtain ⟨kl,hkl⟩:=yQ fs[k] (HF.out _ (Sd hlt));obtain ⟨x,hx⟩:∃ x,x=fs[k]:=⟨_,rfl⟩;rw [← hx] at t0 t1 t2 t3 t4 HT hkl;have UY:=aj hkl;clear hx hkl;obtain ⟨W1,hW1⟩:∃ W1,W1=wr.alloc (.cells #[.string x.a,.string x.b,.string x.r,.string x.c,.string x.d] 63):=⟨_,rfl⟩;have TT:=mY hW1;have UQ:=aj (HV.out.below TT.out);have HB1:=aj (HB.out.trans (TT.out.mono HB.out.size));have hz1:w.heap.size < W1.heap.size:=Sg HZ.out TT.out.size;subst Tq;clear HV HB TT;go_wp2_with (at_mapUpdate; rw [← hW1]; clear hW1; refine jr _ rfl _ _ _ 114 rfl 63 178 Hq EK underlying114 w.heap.size k _ rfl UQ.out (by unfold maxLen; omega) x kl rfl UY.out (.agg #[]) rfl ?_);intro w2 hM2 hg2;have UR:Hid (aJ jJ prog 63 w2 w.heap.size (k + 1) (vS (fs.take (k + 1)))):=by show aJ _ _ _ _ _ _ _; rw [HT.out,← Js]; exact hM2
  have HB2:Hid (aa w w2):=HB1.out.grown hg2 HB1.out.size (fun g hg=>by injection hg with hg; omega);have HZ2:Hid (w.heap.size < w2.heap.size):=Sg hz1 hg2.size;clear hM2 hg2 t0 t1 t2 t3 t4;go_wp2;go_roundw;case rel=>exact ⟨k + 1,by omega,by go_num,UR,HB2,HZ2⟩
  simp [intOf] <;> omega
 have HVE:Hid (aJ jJ prog 63 wr w.heap.size k (vS fs)):=by
  have h:=HV.out;rw [List.take_of_length_le (by omega)] at h;exact h
 go_wp2;go_ret;exact ⟨⟨_,_,rfl,HVE.out⟩,HB.out⟩
end
def eX (L R:List Fc):List Fc:=L.filter fun x=>!dG R x
theorem Cb {L R:List Fc} {k:Nat} (hk:k < L.length):eX (L.take (k + 1)) R=eX (L.take k) R ++ (if dG R L[k] then [] else [L[k]]):=by
 unfold eX;rw [Sk hk,Te];congr 1;rw [List.filter_cons];cases dG R L[k] <;> rfl
theorem tC (L R:List Fc):(eX L R).length≤L.length:=List.length_filter_le _ _
def RQ (w:World) (B:List Fc) (e:Ending) (w':World):Prop:=(∃ v,e=.returned v∧w'.ownsRow w.heap.size 63 5 v B.length (av B))∧aa w w'
theorem vY [DecidableEq Fc] (ad:Option Addr) (cap:Nat) (L:List Fc) (Ti:Option Addr) (cap':Nat) (R:List Fc) (w:af) (ZY:L.length≤115200) (hRl:R.length≤115200) (hs:jP w ad L) (hs':jP w Ti R) (hf:∀ x ∈ L,x.fits) (hf':∀ x ∈ R,x.fits) :
  Calls prog 36 #[.slice ad L.length cap,.slice Ti R.length cap'] w (RQ w (eX L R)):=by
 obtain ⟨iF,h0,h1,h2,h3⟩:=sI;have Xk:=aj (And.intro h0 (And.intro h1 (And.intro h2 h3)));have WQ:=aj hs;have Zz:=aj hf;have HFS:=aj (Au Ti cap' R w (by omega) hs' hf');clear h0 h1 h2 h3 hs hs' hf hf';go_enter func36,ntmps36;go_wp2_with fail;refine HFS.out.mono ?_;rintro e w1 ⟨⟨bK,nK,rfl,hV⟩,hb1⟩;have HV:=aj hV;have HB1:=aj hb1;clear hV hb1 HFS;have XF:Hid (w1.ownsRow w1.heap.size 63 5 (.slice none 0 0) (eX (L.take 0) R).length (av (eX (L.take 0) R))):=World.ownsRow_nil _ _ _ _;go_wp2_with fail;go_loopw [5,13] (fun v i wr=>∃ k:Nat,k≤L.length∧i=.int .i64 k∧Hid (wr.ownsRow w1.heap.size 63 5 v (eX (L.take k) R).length (av (eX (L.take k) R)))∧Hid (aa w1 wr)) (fun _ i _=>L.length - (intOf i).toNat);case atStart=>exact ⟨0,Sm _,rfl,XF,Si _ _⟩
 clear XF;obtain ⟨k,hk,rfl,HO,HB⟩:=hrel;by_cases hlk:k < L.length
 ·obtain ⟨b,off,Tq,⟨t0,t1,t2,t3,t4⟩,hbl⟩:=jP.at0 ((WQ.out.below HB1.out).below HB.out) hlk;have hi1:=bH k;have hi2:(k:Int) < (L.length:Int):=by omega
  have WE:=aj (Cb (R:=R) hlk);have hkl:=tC (L.take k) R;rw [SL] at hkl;have Vi:=aj (Zz.out L[k] (Sd hlk));obtain ⟨x,hx⟩:∃ x,x=L[k]:=⟨_,rfl⟩;rw [← hx] at t0 t1 t2 t3 t4 WE Vi;clear hx;obtain ⟨W1,hW1⟩:∃ W1,W1=wr.alloc (.cells #[.string x.a,.string x.b,.string x.r,.string x.c,.string x.d] 63):=⟨_,rfl⟩;have TT:=mY hW1;have hn8:W1.cell? ⟨wr.heap.size,0,none⟩=some (.string x.a)∧W1.cell? ⟨wr.heap.size,1,none⟩=some (.string x.b)∧W1.cell? ⟨wr.heap.size,2,none⟩=some (.string x.r)∧W1.cell? ⟨wr.heap.size,3,none⟩=some (.string x.c)∧W1.cell? ⟨wr.heap.size,4,none⟩=some (.string x.d):=by
   rw [hW1]; refine ⟨?_,?_,?_,?_,?_⟩ <;> simp
  have HN8:=aj hn8;have Tt:=aj (HB.out.trans (TT.out.mono HB.out.size));have TM:=aj (aB HO.out TT.out);obtain ⟨n8,hn8'⟩:∃ n8,n8=wr.heap.size:=⟨_,rfl⟩;have hl8:n8 < W1.heap.size:=by rw [hW1,hn8']; simp
  obtain ⟨ys,hys⟩:∃ ys,ys=eX (L.take k) R:=⟨_,rfl⟩;rw [← hys] at TM WE hkl;obtain ⟨XI,UM,rfl,-⟩:=iD TM.out;subst Tq;clear hys HO TT hn8;have HHS:=aj (pE bK nK R x W1 Vi.out (HV.out.below Tt.out));go_wp2_with fail;rw [← hW1];rw [← hn8'] at HN8 ⊢;clear hW1 hn8' t0 t1 t2 t3 t4;refine HHS.out.mono ?_;rintro e w2 ⟨rfl,hb2⟩;have HB2:=aj (Tt.out.trans (hb2.mono Tt.out.size));have Tj:=aj (aB TM.out hb2);obtain ⟨y0,y1,y2,y3,y4⟩:=HN8.out;replace y0:=aO hb2 hl8 y0;replace y1:=aO hb2 hl8 y1;replace y2:=aO hb2 hl8 y2;replace y3:=aO hb2 hl8 y3;replace y4:=aO hb2 hl8 y4;replace hl8:=Sg hl8 hb2.size;clear HHS HN8 TM Tt hb2;obtain ⟨q,hq⟩:∃ q,dG R x=q:=⟨_,rfl⟩;rw [hq] at WE ⊢;clear hq;cases q;case true=>
   have HR:Hid (w2.ownsRow w1.heap.size 63 5 (.slice XI ys.length UM) (eX (L.take (k + 1)) R).length (av (eX (L.take (k + 1)) R))):=by
    show World.ownsRow _ _ _ _ _ _ _;rw [WE.out]; simp only [if_true,List.append_nil]; exact Tj.out
   clear y0 y1 y2 y3 y4;go_wp2;go_roundw;case rel=>exact ⟨k + 1,by omega,by go_num,HR,HB2⟩
   simp [intOf] <;> omega
  have HWE:Hid (eX (L.take (k + 1)) R=ys ++ [x]):=by show _=_; rw [WE.out]; simp
  obtain ⟨W4,TV⟩:∃ W4,W4=w2.alloc (.cells #[.string x.a,.string x.b,.string x.r,.string x.c,.string x.d] 63):=⟨_,rfl⟩;have TJ:Hid (W4.ownsRow w1.heap.size 63 5 (.slice XI ys.length UM) ys.length (av ys)):=by show World.ownsRow _ _ _ _ _ _ _; rw [TV]; exact Tj.out.alloc _
  have HN4:Hid (∀ j u,x.row[j]?=some u→W4.cell? ((⟨w2.heap.size,0,none⟩:Addr).add j)=some u):=by rw [TV]; exact BD w2 x
  have Uh:Hid (aa w1 W4):=by show Below _ _ _; rw [TV]; exact HB2.out.alloc HB2.out.size _
  have WS:w1.heap.size≤W4.heap.size:=Uh.out.size;go_wp2_with (at_builtin; rw [← TV]; clear TV; refine wpList_append_own_at _ rfl _ _ 33 rfl w1.heap.size 63 iF (.agg #[.string ⟨#[]⟩,.string ⟨#[]⟩,.string ⟨#[]⟩,.string ⟨#[]⟩,.string ⟨#[]⟩]) 5 80 underlying33 Xk.out.1 Xk.out.2.1 Xk.out.2.2.1 Xk.out.2.2.2 rfl (by decide) _ ys.length (av ys) rfl TJ.out ⟨w2.heap.size,0,none⟩ 1 1 x.row rfl rfl HN4.out (by simp [Fc.row,Value.oneCell']) (by unfold maxLen; omega) (by omega) WS ?_);intro v' w5 hown hgr _ _;have HR:Hid (w5.ownsRow w1.heap.size 63 5 v' (eX (L.take (k + 1)) R).length (av (eX (L.take (k + 1)) R))):=by
   show World.ownsRow _ _ _ _ _ _ _;rw [HWE.out,Sr,nR]; exact hown
  have VI:Hid (aa w1 w5):=Uh.out.grown hgr Uh.out.size (fun g hg=>(TJ.out.lt g hg).1);clear hown hgr y0 y1 y2 y3 y4;go_wp2;go_roundw;case rel=>exact ⟨k + 1,by omega,by go_num,HR,VI⟩
  simp [intOf] <;> omega
 have HE:Hid (wr.ownsRow w.heap.size 63 5 u5 (eX L R).length (av (eX L R))):=by
  have h:=HO.out;rw [List.take_of_length_le (by omega)] at h;exact kD h HB1.out.size
 have Va:Hid (aa w wr):=HB1.out.trans (HB.out.mono HB1.out.size);clear HO;go_wp2;go_ret;exact ⟨⟨_,rfl,HE.out⟩,Va.out⟩
theorem tF (ad:Option Addr) (cap:Nat) (L:List Fc) (Ti:Option Addr) (cap':Nat) (R:List Fc) (w:af) (ZY:L.length≤115200) (hRl:R.length≤115200) (hs:jP w ad L) (hs':jP w Ti R) :
  Calls prog 31 #[.slice ad L.length cap,.slice Ti R.length cap'] w (RQ w (eX L R)):=by
 obtain ⟨iF,h0,h1,h2,h3⟩:=sI;have Xk:=aj (And.intro h0 (And.intro h1 (And.intro h2 h3)));have WQ:=aj hs;have HSR:=aj hs';clear h0 h1 h2 h3 hs hs';obtain ⟨W2,hW2⟩:∃ W2,W2=w.alloc (.cells #[] 63):=⟨_,rfl⟩;have XF:Hid (W2.ownsRow w.heap.size 63 5 (.slice (some ⟨w.heap.size,0,none⟩) 0 0) (eX (L.take 0) R).length (av (eX (L.take 0) R))):=by
  show World.ownsRow _ _ _ _ _ _ _;rw [hW2];exact World.ownsRow_lit w #[] 0 (Sj _) (by unfold maxLen; omega) (by simp)
 have HB2:=mY hW2;go_enter func31,ntmps31;go_wp2_with fail;rw [← hW2];clear hW2;go_loopw [5,6] (fun v i wr=>∃ k:Nat,k≤L.length∧i=.int .i64 k∧Hid (wr.ownsRow w.heap.size 63 5 v (eX (L.take k) R).length (av (eX (L.take k) R)))∧Hid (aa w wr)) (fun _ i _=>L.length - (intOf i).toNat);case atStart=>exact ⟨0,Sm _,rfl,XF,HB2.out⟩
 clear XF HB2;obtain ⟨k,hk,rfl,HO,HB⟩:=hrel;by_cases hlk:k < L.length
 ·obtain ⟨b,off,Tq,⟨t0,t1,t2,t3,t4⟩,hbl⟩:=jP.at0 (WQ.out.below HB.out) hlk;have hi1:=bH k;have hi2:(k:Int) < (L.length:Int):=by omega
  have WE:=aj (Cb (R:=R) hlk);have hkl:=tC (L.take k) R;rw [SL] at hkl;obtain ⟨x,hx⟩:∃ x,x=L[k]:=⟨_,rfl⟩;rw [← hx] at t0 t1 t2 t3 t4 WE;clear hx;have TM:=HO;obtain ⟨ys,hys⟩:∃ ys,ys=eX (L.take k) R:=⟨_,rfl⟩;rw [← hys] at TM WE hkl;obtain ⟨XI,UM,rfl,-⟩:=iD TM.out;subst Tq;clear hys HO;have HHS:=aj (mE Ti cap' R x wr (by omega) (HSR.out.below HB.out));go_wp2_with fail;refine HHS.out.mono ?_;rintro e w2 ⟨rfl,hb2⟩;have HB2:=aj (HB.out.trans (hb2.mono HB.out.size));have Tj:=aj (aB TM.out hb2);replace t0:=aO hb2 hbl t0;replace t1:=aO hb2 hbl t1;replace t2:=aO hb2 hbl t2;replace t3:=aO hb2 hbl t3;replace t4:=aO hb2 hbl t4;clear HHS TM hb2;obtain ⟨q,hq⟩:∃ q,dG R x=q:=⟨_,rfl⟩;rw [hq] at WE ⊢;clear hq;cases q;case true=>
   have HR:Hid (w2.ownsRow w.heap.size 63 5 (.slice XI ys.length UM) (eX (L.take (k + 1)) R).length (av (eX (L.take (k + 1)) R))):=by
    show World.ownsRow _ _ _ _ _ _ _;rw [WE.out]; simp only [if_true,List.append_nil]; exact Tj.out
   clear t0 t1 t2 t3 t4;go_wp2;go_roundw;case rel=>exact ⟨k + 1,by omega,by go_num,HR,HB2⟩
   simp [intOf] <;> omega
  have HWE:Hid (eX (L.take (k + 1)) R=ys ++ [x]):=by show _=_; rw [WE.out]; simp
  obtain ⟨W4,TV⟩:∃ W4,W4=w2.alloc (.cells #[.string x.a,.string x.b,.string x.r,.string x.c,.string x.d] 63):=⟨_,rfl⟩;have TJ:Hid (W4.ownsRow w.heap.size 63 5 (.slice XI ys.length UM) ys.length (av ys)):=by show World.ownsRow _ _ _ _ _ _ _; rw [TV]; exact Tj.out.alloc _
  have HN4:Hid (∀ j u,x.row[j]?=some u→W4.cell? ((⟨w2.heap.size,0,none⟩:Addr).add j)=some u):=by rw [TV]; exact BD w2 x
  have Uh:Hid (aa w W4):=by show Below _ _ _; rw [TV]; exact HB2.out.alloc HB2.out.size _
  have WS:w.heap.size≤W4.heap.size:=Uh.out.size;go_wp2_with (at_builtin; rw [← TV]; clear TV; refine wpList_append_own_at _ rfl _ _ 33 rfl w.heap.size 63 iF (.agg #[.string ⟨#[]⟩,.string ⟨#[]⟩,.string ⟨#[]⟩,.string ⟨#[]⟩,.string ⟨#[]⟩]) 5 80 underlying33 Xk.out.1 Xk.out.2.1 Xk.out.2.2.1 Xk.out.2.2.2 rfl (by decide) _ ys.length (av ys) rfl TJ.out ⟨w2.heap.size,0,none⟩ 1 1 x.row rfl rfl HN4.out (by simp [Fc.row,Value.oneCell']) (by unfold maxLen; omega) (by omega) WS ?_);intro v' w5 hown hgr _ _;have HR:Hid (w5.ownsRow w.heap.size 63 5 v' (eX (L.take (k + 1)) R).length (av (eX (L.take (k + 1)) R))):=by
   show World.ownsRow _ _ _ _ _ _ _;rw [HWE.out,Sr,nR]; exact hown
  have VI:Hid (aa w w5):=Uh.out.grown hgr Uh.out.size (fun g hg=>(TJ.out.lt g hg).1);clear hown hgr t0 t1 t2 t3 t4;go_wp2;go_roundw;case rel=>exact ⟨k + 1,by omega,by go_num,HR,VI⟩
  simp [intOf] <;> omega
 have HE:Hid (wr.ownsRow w.heap.size 63 5 u5 (eX L R).length (av (eX L R))):=by
  have h:=HO.out;rw [List.take_of_length_le (by omega)] at h;exact h
 clear HO;go_wp2;go_ret;exact ⟨⟨_,rfl,HE.out⟩,HB.out⟩
end Go.Proofs.YtdmniljjnaebbaaGreatDoor
