/- Contract of the document's l4Sort: facts by their order, in a new row. -/
import Derived.Test.YtajkkeikihhejaaGreatSq
import Derived.Test.YtajkkeikihhejaaGreatJ41
open Go.Proofs.Tryz
set_option maxHeartbeats 80000000
namespace Go.Proofs.YtajkkeikihhejaaGreat
set_option maxRecDepth 100000
set_option linter.unusedVariables false
open Go.ChangeShapes Go.WideShapes Go.ChangeAt Go.RowKit Go.Maps
open Pl
def oG (x y:Fc):Bool:=fU x.a x.b x.r x.c x.d ⟨#[]⟩ y.a y.b y.r y.c y.d ⟨#[]⟩
theorem KI {w W w':af} {n m i0 i1 i2 i3 i4 j0 j1 j2 j3 j4:Nat} {x0 x1 x2 x3 x4 y0 y1 y2 y3 y4:Value} (h:W.cell? ⟨n,i0,none⟩=some x0∧W.cell? ⟨n,i1,none⟩=some x1∧W.cell? ⟨n,i2,none⟩=some x2∧W.cell? ⟨n,i3,none⟩=some x3∧W.cell? ⟨n,i4,none⟩=some x4∧W.cell? ⟨m,j0,none⟩=some y0∧W.cell? ⟨m,j1,none⟩=some y1∧W.cell? ⟨m,j2,none⟩=some y2∧W.cell? ⟨m,j3,none⟩=some y3∧W.cell? ⟨m,j4,none⟩=some y4∧ag w W) (hb:ag W w'):w'.cell? ⟨n,i0,none⟩=some x0∧w'.cell? ⟨n,i1,none⟩=some x1∧w'.cell? ⟨n,i2,none⟩=some x2∧w'.cell? ⟨n,i3,none⟩=some x3∧w'.cell? ⟨n,i4,none⟩=some x4∧w'.cell? ⟨m,j0,none⟩=some y0∧w'.cell? ⟨m,j1,none⟩=some y1∧w'.cell? ⟨m,j2,none⟩=some y2∧w'.cell? ⟨m,j3,none⟩=some y3∧w'.cell? ⟨m,j4,none⟩=some y4∧ag w w':=by
 obtain ⟨h0,h1,h2,h3,h4,k0,k1,k2,k3,k4,hB⟩:=h;exact ⟨bi hb (aF h0) h0,bi hb (aF h1) h1,bi hb (aF h2) h2,bi hb (aF h3) h3,bi hb (aF h4) h4,bi hb (aF k0) k0,bi hb (aF k1) k1,bi hb (aF k2) k2,bi hb (aF k3) k3,bi hb (aF k4) k4,hB.trans (hb.mono hB.size)⟩
theorem JY (ad:Option Addr) (cap:Nat) (rows:List Fc) (w:af) (hlen:rows.length≤1048576) (hs:BA w ad rows) (hfit:∀ x ∈ rows,x.fits) :
  Calls prog 89 #[.slice ad rows.length cap] w fun e w'=>(∃ v:Value,e=.returned v∧w'.ownsRow w.heap.size 29 5 v rows.length (aH (kH oG rows)))∧ag w w':=by
 obtain ⟨iR,Y8,zR0,zR1,zR2⟩:=EN;have VC:Hid (prog.info? 29=some iR∧iR.zero=some (.agg #[.string ⟨#[]⟩,.string ⟨#[]⟩,.string ⟨#[]⟩,.string ⟨#[]⟩,.string ⟨#[]⟩])∧iR.size=5∧iR.bytes=80):=⟨Y8,zR0,zR1,zR2⟩;have HS:=aC hs;have UL:=aC hfit;clear hs hfit Y8 zR0 zR1 zR2;obtain ⟨W0,hW0⟩:∃ W0,W0=w.alloc (.cells #[] 29):=⟨_,rfl⟩;have HB0:=qZ hW0;have V7:Hid (W0.ownsRow w.heap.size 29 5 (.slice (some ⟨w.heap.size,0,none⟩) 0 0) 0 []):=by
  show World.ownsRow _ _ _ _ _ _ _;rw [hW0];exact World.ownsRow_lit w #[] 0 (TS _) (by unfold maxLen; omega) (by simp)
 go_enter func89,ntmps89;go_wp2_with fail;rw [← hW0];clear hW0;go_loopw [3,4] (fun v i wr=>∃ (k g c:Nat),k≤rows.length∧i=.int .i64 k∧v=.slice (some ⟨g,0,none⟩) k c∧Hid (wr.ownsRow w.heap.size 29 5 (.slice (some ⟨g,0,none⟩) k c) k (aH (kH oG (rows.take k))))∧Hid (ag w wr)) (fun _ i _=>rows.length - (intOf i).toNat);case atStart=>exact ⟨0,w.heap.size,0,TW _,rfl,rfl,V7,HB0⟩
 clear V7 HB0;obtain ⟨k,g,c,hk,rfl,rfl,HO,HB⟩:=hrel;by_cases hlt:k < rows.length
 ·obtain ⟨acc,hacc⟩:∃ acc,acc=kH oG (rows.take k):=⟨_,rfl⟩;obtain ⟨b,off,UF,hrow,hbl⟩:∃ b off,ad=some ⟨b,off,none⟩∧wS w b (off + k * 5) rows[k]∧b < w.heap.size:=by
   rcases HS.out with h | ⟨b',off',e,hb,hr⟩
   ·rw [h] at hlt; simp at hlt
   exact ⟨b',off',e,hr k hlt,hb⟩
  obtain ⟨x,hx⟩:∃ x,rows[k]=x:=⟨_,rfl⟩;have HNX:Hid (kH oG (rows.take (k + 1))=qW oG x acc):=by show _=_; rw [TV hlt,JX,hacc,hx]
  have hal:acc.length=k:=by rw [hacc,(ja _).length_eq,Ut]; omega
  have Xn:Hid x.fits:=by show Fc.fits x; rw [← hx]; exact UL.out _ (TQ hlt)
  have HAF:Hid (∀ z ∈ acc,z.fits):=fun z hz=>by
   rw [hacc] at hz;exact UL.out z (List.mem_of_mem_take ((ja _).mem_iff.1 hz))
  rw [← hacc] at HO;rw [hx] at hrow;have UO:=aC hal;have hkc:k≤c:=Ra HO.out;have hk1:=bB k;have hk2:(k:Int) < (rows.length:Int):=by omega
  have Vp:=aC hrow;have Yo:=aC hbl;obtain ⟨wo,hwo⟩:∃ wo,wo=wr:=⟨_,rfl⟩;subst hwo;subst UF;clear hacc hal hrow hbl hx;go_wp2_with fail;go_loopw [5] (fun i wr=>∃ p:Nat,p≤k∧i=.int .i64 p∧Hid (∀ (i:Nat) (h:i < acc.length),i < p→oG acc[i] x=true)∧Hid (ag wo wr)) (fun i _=>k - (intOf i).toNat);case atStart=>exact ⟨0,TW _,rfl,fun i h hi=>absurd hi (Uw _),TT _ _⟩
  obtain ⟨p,hp,rfl,HU,HBP⟩:=hrel;have HOP:Hid (wr.ownsRow w.heap.size 29 5 (.slice (some ⟨g,0,none⟩) k c) k (aH acc)):=oF HO.out fun z hz=>HBP.out.block z (HO.out.lt z hz).2;have HBWP:Hid (ag w wr):=HB.out.trans (HBP.out.mono HB.out.size);obtain ⟨y0,y1,y2,y3,y4⟩:=Vp.out.same (fun o=>HBWP.out.cell (p:=⟨b,o,none⟩) Yo.out);have hbr:b < wr.heap.size:=TP Yo.out HBWP.out.size;have hgr:g < wr.heap.size:=(HOP.out.lt g rfl).2;have hp1:=bB p;by_cases hpk:p < k
  ·have hp2:(p:Int) < (k:Int):=by omega
   have hd:decide ((p:Int) < (k:Int))=true:=by simp; omega
   have hpa:p < acc.length:=by rw [UO.out]; exact hpk
   obtain ⟨y,hy⟩:∃ y,acc[p]=y:=⟨_,rfl⟩;have hc5:∀ c,c < 5→wr.cell? ⟨g,p * 5 + c,none⟩=y.row[c]?:=fun c hc=>by
    rw [HOP.out.cellAt (p * 5 + c) (by omega),qN acc p hpa c hc,hy]
   have s0:wr.cell? ⟨g,p * 5,none⟩=some (.string y.a):=hc5 0 (by omega);have s1:wr.cell? ⟨g,p * 5 + 1,none⟩=some (.string y.b):=hc5 1 (by omega);have s2:wr.cell? ⟨g,p * 5 + 2,none⟩=some (.string y.r):=hc5 2 (by omega);have s3:wr.cell? ⟨g,p * 5 + 3,none⟩=some (.string y.c):=hc5 3 (by omega);have s4:wr.cell? ⟨g,p * 5 + 4,none⟩=some (.string y.d):=hc5 4 (by omega);have hyf:y.fits:=by rw [← hy]; exact HAF.out _ (TQ hpa)
   have HC:Hid (∀ W':World,Calls prog 130 #[.agg #[.string y.a,.string y.b,.string y.r,.string y.c,.string y.d],.agg #[.string x.a,.string x.b,.string x.r,.string x.c,.string x.d]] W' fun e w'=>e=.returned (.bool (oG y x))∧ag W' w'):=fun W'=>vV _ _ _ _ _ _ _ _ _ _ W' hyf.1 hyf.2.1 hyf.2.2.1 hyf.2.2.2.1 hyf.2.2.2.2 Xn.out.1 Xn.out.2.1 Xn.out.2.2.1 Xn.out.2.2.2.1 Xn.out.2.2.2.2;clear hc5 hyf;have HYE:=aC hy;clear hy;have hbp:=HBP.out;cases hq:oG y x;case true=>
    have YB:Hid (∀ (i:Nat) (h:i < acc.length),i < p + 1→oG acc[i] x=true):=fun i h hi=>by
     by_cases e:i=p
     ·subst e; rw [HYE.out]; exact hq
     exact HU.out i h (by omega)
    rw [hq] at HC;clear hq;go_wp2_with fail
    go_region_held3 (fun w'=>w'.cell? ⟨g,p * 5,none⟩=some (.string y.a)∧w'.cell? ⟨g,p * 5 + 1,none⟩=some (.string y.b)∧w'.cell? ⟨g,p * 5 + 2,none⟩=some (.string y.r)∧w'.cell? ⟨g,p * 5 + 3,none⟩=some (.string y.c)∧w'.cell? ⟨g,p * 5 + 4,none⟩=some (.string y.d)∧w'.cell? ⟨b,off + k * 5,none⟩=some (.string x.a)∧w'.cell? ⟨b,off + k * 5 + 1,none⟩=some (.string x.b)∧w'.cell? ⟨b,off + k * 5 + 2,none⟩=some (.string x.r)∧w'.cell? ⟨b,off + k * 5 + 3,none⟩=some (.string x.c)∧w'.cell? ⟨b,off + k * 5 + 4,none⟩=some (.string x.d)∧ag wo w')
     (first | assumption | exact KI (by assumption) hbx | exact ⟨s0,s1,s2,s3,s4,y0,y1,y2,y3,y4,hbp.drew⟩)
     (first | (go_at_call 130; refine (HC.out _).mono ?_; rintro e w' ⟨rfl,hbx⟩))
    rename_i hJ;have HJB:=aC hJ.2.2.2.2.2.2.2.2.2.2;have Xt:Hid (wr.heap.size≤w'.heap.size):=by show _≤_; exact TZ (by first | exact TS _ | simp) hbx.size
    clear hJ s0 s1 s2 s3 s4 y0 y1 y2 y3 y4 hd;go_wp2;go_roundw;case rel=>exact ⟨p + 1,by omega,by go_num,YB,HJB⟩
    simp [intOf] <;> omega
   have HPT:Hid (qW oG x acc=acc.take p ++ x::acc.drop p):=E9 (by rw [UO.out]; exact hp) HU.out (fun _=>by rw [HYE.out]; exact hq);rw [hq] at HC;clear hq;go_wp2_with fail
   go_region_held3 (fun w'=>w'.cell? ⟨g,p * 5,none⟩=some (.string y.a)∧w'.cell? ⟨g,p * 5 + 1,none⟩=some (.string y.b)∧w'.cell? ⟨g,p * 5 + 2,none⟩=some (.string y.r)∧w'.cell? ⟨g,p * 5 + 3,none⟩=some (.string y.c)∧w'.cell? ⟨g,p * 5 + 4,none⟩=some (.string y.d)∧w'.cell? ⟨b,off + k * 5,none⟩=some (.string x.a)∧w'.cell? ⟨b,off + k * 5 + 1,none⟩=some (.string x.b)∧w'.cell? ⟨b,off + k * 5 + 2,none⟩=some (.string x.r)∧w'.cell? ⟨b,off + k * 5 + 3,none⟩=some (.string x.c)∧w'.cell? ⟨b,off + k * 5 + 4,none⟩=some (.string x.d)∧ag wo w')
    (first | assumption | exact KI (by assumption) hbx | exact ⟨s0,s1,s2,s3,s4,y0,y1,y2,y3,y4,hbp.drew⟩)
    (first | (go_at_call 130; refine (HC.out _).mono ?_; rintro e w' ⟨rfl,hbx⟩))
   rename_i hJ;have HJB:=aC hJ.2.2.2.2.2.2.2.2.2.2;have Xt:Hid (wr.heap.size≤w'.heap.size):=by show _≤_; exact TZ (by first | exact TS _ | simp) hbx.size
   obtain ⟨X,hX⟩:∃ X,w'=X:=⟨_,rfl⟩;subst hX;have U4:=az HJB;have HSX:Hid (wr.heap.size≤w'.heap.size):=by show _≤_; exact Xt.out
   clear hJ s0 s1 s2 s3 s4 hd HC HYE hbp HJB Xt;clear y0 y1 y2 y3 y4 hbr HOP HBWP HBP HU;obtain ⟨W1,hW1⟩:∃ W1,W1=w'.alloc (.cells #[] 29):=⟨_,rfl⟩;have Vi:Hid (W1.ownsRow w'.heap.size 29 5 (.slice (some ⟨w'.heap.size,0,none⟩) 0 0) 0 []):=by
    show World.ownsRow _ _ _ _ _ _ _;rw [hW1];exact World.ownsRow_lit w' #[] 0 (TS _) (by unfold maxLen; omega) (by simp)
   have HB1:=qZ hW1;have ZM:Hid (ag wo W1):=U4.out.trans (HB1.out.mono U4.out.size);have HR1:Hid (W1.ownsRow w.heap.size 29 5 (.slice (some ⟨g,0,none⟩) k c) k (aH acc)):=oF HO.out fun z hz=>ZM.out.block z (HO.out.lt z hz).2;have hz1:w'.heap.size≤W1.heap.size:=HB1.out.size;have hgX:g < w'.heap.size:=TP (HO.out.lt g rfl).2 U4.out.size;have hpc:p≤c:=by omega
   go_wp2_with (at_builtin; go_must (rw [← hW1]; clear hW1; refine wpList_append_own_at _ rfl _ _ 40 rfl w'.heap.size 29 iR (.agg #[.string ⟨#[]⟩,.string ⟨#[]⟩,.string ⟨#[]⟩,.string ⟨#[]⟩,.string ⟨#[]⟩]) 5 80 underlying40 VC.out.1 VC.out.2.1 VC.out.2.2.1 VC.out.2.2.2 rfl (by decide) _ 0 [] rfl Vi.out ⟨g,0,none⟩ p c (aH (acc.take p)) rfl (by rw [lH,Ut]; congr 1; have:=UO.out; omega) (Bi HR1.out p hp) (vS _) (by unfold maxLen; omega) (by omega) hz1 ?_));intro v2 w2 hown2 U1 _ _;have UB:Hid (w2.ownsRow w'.heap.size 29 5 v2 p (aH (acc.take p))):=by
    show World.ownsRow _ _ _ _ _ _ _
    first | exact hown2 | (rw [Um,List.nil_append] at hown2; exact hown2) | simpa using hown2
   have HB2:Hid (ag w' w2):=HB1.out.grown U1 HB1.out.size (fun z hz=>by simp [Value.ownBlock] at hz; omega);have hz2:w'.heap.size≤w2.heap.size:=HB2.out.size;have Xi:Hid (ag w w2):=(HB.out.trans (U4.out.mono HB.out.size)).trans (HB2.out.mono (TZ HB.out.size U4.out.size));obtain ⟨y0,y1,y2,y3,y4⟩:=Vp.out.same (fun o=>Xi.out.cell (p:=⟨b,o,none⟩) Yo.out);have hbr:b < w2.heap.size:=TP Yo.out Xi.out.size;obtain ⟨W3,hW3⟩:∃ W3,W3=w2.alloc (.cells #[.string x.a,.string x.b,.string x.r,.string x.c,.string x.d] 29):=⟨_,rfl⟩;have UY:Hid (W3.ownsRow w'.heap.size 29 5 v2 p (aH (acc.take p))):=by show World.ownsRow _ _ _ _ _ _ _; rw [hW3]; exact UB.out.alloc _
   have Wp:Hid (∀ j u,x.row[j]?=some u→W3.cell? ((⟨w2.heap.size,0,none⟩:Addr).add j)=some u):=by show ∀ j u,_; rw [hW3]; exact Kq w2 x
   have HB3:Hid (ag w' W3):=by show Below _ _ _; rw [hW3]; exact HB2.out.alloc HB2.out.size _
   have hz3:w'.heap.size≤W3.heap.size:=HB3.out.size;clear hown2 U1 Vi HB1 ZM HR1 hz1;go_wp2_with (at_builtin; go_must (rw [← hW3]; clear hW3; refine wpList_append_own_at _ rfl _ _ 40 rfl w'.heap.size 29 iR (.agg #[.string ⟨#[]⟩,.string ⟨#[]⟩,.string ⟨#[]⟩,.string ⟨#[]⟩,.string ⟨#[]⟩]) 5 80 underlying40 VC.out.1 VC.out.2.1 VC.out.2.2.1 VC.out.2.2.2 rfl (by decide) v2 p (aH (acc.take p)) rfl UY.out ⟨w2.heap.size,0,none⟩ 1 1 x.row rfl rfl Wp.out (by simp [Fc.row,Value.oneCell']) (by unfold maxLen; omega) (by omega) hz3 ?_));intro v4 w4 U2 Vr _ _;have UT:=az U2;have Vk:Hid (ag w' w4):=HB3.out.grown Vr HB3.out.size (fun z hz=>(UB.out.lt z hz).1);have Xl:w'.heap.size≤w4.heap.size:=Vk.out.size;have HBO4:Hid (ag wo w4):=U4.out.trans (Vk.out.mono U4.out.size);have HR4:Hid (w4.ownsRow w.heap.size 29 5 (.slice (some ⟨g,0,none⟩) k c) k (aH acc)):=oF HO.out fun z hz=>HBO4.out.block z (HO.out.lt z hz).2;clear U2 Vr UY UB Wp HB3 hz3 HB2 hz2 Xi y0 y1 y2 y3 y4 hbr;go_wp2_with (at_builtin; go_must (refine wpList_append_own_at _ rfl _ _ 40 rfl w'.heap.size 29 iR (.agg #[.string ⟨#[]⟩,.string ⟨#[]⟩,.string ⟨#[]⟩,.string ⟨#[]⟩,.string ⟨#[]⟩]) 5 80 underlying40 VC.out.1 VC.out.2.1 VC.out.2.2.1 VC.out.2.2.2 rfl (by decide) v4 (p + 1) (aH (acc.take p) ++ x.row) rfl UT.out ⟨g,p * 5,none⟩ (k - p) (c - p) (aH (acc.drop p)) rfl (by rw [lH,List.length_drop]; have:=UO.out; congr 1; omega) (JV HR4.out p hp) (vS _) (by unfold maxLen; omega) (by omega) Xl ?_));intro v5 w5 hown5 hgr5 _ _;have Zb:p + 1 + (k - p)=k + 1:=by omega
   have VS:Hid (ag w' w5):=Vk.out.grown hgr5 Vk.out.size (fun z hz=>(UT.out.lt z hz).1);have hown6:w5.ownsRow w'.heap.size 29 5 v5 (k + 1) (aH (kH oG (rows.take (k + 1)))):=by
    rw [HNX.out,HPT.out,aH,List.flatMap_append,List.flatMap_cons,← Zb];exact hown5
   obtain ⟨ad5,c5,rfl⟩:=Bh hown6;obtain ⟨g5,rfl,-⟩:=DN hown6 (Nat.succ_ne_zero _);have Vj:=aC (xg hown6 (TZ HB.out.size U4.out.size));have WS:Hid (ag w w5):=(HB.out.trans (U4.out.mono HB.out.size)).trans (VS.out.mono (TZ HB.out.size U4.out.size));clear hown5 hown6 hgr5 Zb;go_wp2;go_roundw;case rel=>exact ⟨k + 1,g5,c5,by omega,by go_num,by first | rfl | simp,Vj,WS⟩
   simp [intOf] <;> omega
  have hd:decide ((p:Int) < (k:Int))=false:=by simp; omega
  have hpe:¬ (p:Int) < (k:Int):=by omega
  have HPT:Hid (qW oG x acc=acc.take p ++ x::acc.drop p):=E9 (by rw [UO.out]; exact hp) HU.out (fun h=>absurd (by rw [UO.out] at h; exact h) hpk);go_wp2_with fail;go_quiet (fail);clear hd hpe;obtain ⟨X,hX⟩:∃ X,wr.drewN nq=X:=⟨_,rfl⟩;have U4:Hid (ag wo X):=by show Below _ _ _; rw [← hX]; exact below_drewN HBP.out _
  have HSX:Hid (wr.heap.size≤X.heap.size):=by show _≤_; rw [← hX]; exact TS _
  rw [hX];clear hX y0 y1 y2 y3 y4 hbr HOP HBWP HBP HU;obtain ⟨W1,hW1⟩:∃ W1,W1=X.alloc (.cells #[] 29):=⟨_,rfl⟩;have Vi:Hid (W1.ownsRow X.heap.size 29 5 (.slice (some ⟨X.heap.size,0,none⟩) 0 0) 0 []):=by
   show World.ownsRow _ _ _ _ _ _ _;rw [hW1];exact World.ownsRow_lit X #[] 0 (TS _) (by unfold maxLen; omega) (by simp)
  have HB1:=qZ hW1;have ZM:Hid (ag wo W1):=U4.out.trans (HB1.out.mono U4.out.size);have HR1:Hid (W1.ownsRow w.heap.size 29 5 (.slice (some ⟨g,0,none⟩) k c) k (aH acc)):=oF HO.out fun z hz=>ZM.out.block z (HO.out.lt z hz).2;have hz1:X.heap.size≤W1.heap.size:=HB1.out.size;have hgX:g < X.heap.size:=TP (HO.out.lt g rfl).2 U4.out.size;have hpc:p≤c:=by omega
  go_wp2_with (at_builtin; go_must (rw [← hW1]; clear hW1; refine wpList_append_own_at _ rfl _ _ 40 rfl X.heap.size 29 iR (.agg #[.string ⟨#[]⟩,.string ⟨#[]⟩,.string ⟨#[]⟩,.string ⟨#[]⟩,.string ⟨#[]⟩]) 5 80 underlying40 VC.out.1 VC.out.2.1 VC.out.2.2.1 VC.out.2.2.2 rfl (by decide) _ 0 [] rfl Vi.out ⟨g,0,none⟩ p c (aH (acc.take p)) rfl (by rw [lH,Ut]; congr 1; have:=UO.out; omega) (Bi HR1.out p hp) (vS _) (by unfold maxLen; omega) (by omega) hz1 ?_));intro v2 w2 hown2 U1 _ _;have UB:Hid (w2.ownsRow X.heap.size 29 5 v2 p (aH (acc.take p))):=by
   show World.ownsRow _ _ _ _ _ _ _
   first | exact hown2 | (rw [Um,List.nil_append] at hown2; exact hown2) | simpa using hown2
  have HB2:Hid (ag X w2):=HB1.out.grown U1 HB1.out.size (fun z hz=>by simp [Value.ownBlock] at hz; omega);have hz2:X.heap.size≤w2.heap.size:=HB2.out.size;have Xi:Hid (ag w w2):=(HB.out.trans (U4.out.mono HB.out.size)).trans (HB2.out.mono (TZ HB.out.size U4.out.size));obtain ⟨y0,y1,y2,y3,y4⟩:=Vp.out.same (fun o=>Xi.out.cell (p:=⟨b,o,none⟩) Yo.out);have hbr:b < w2.heap.size:=TP Yo.out Xi.out.size;obtain ⟨W3,hW3⟩:∃ W3,W3=w2.alloc (.cells #[.string x.a,.string x.b,.string x.r,.string x.c,.string x.d] 29):=⟨_,rfl⟩;have UY:Hid (W3.ownsRow X.heap.size 29 5 v2 p (aH (acc.take p))):=by show World.ownsRow _ _ _ _ _ _ _; rw [hW3]; exact UB.out.alloc _
  have Wp:Hid (∀ j u,x.row[j]?=some u→W3.cell? ((⟨w2.heap.size,0,none⟩:Addr).add j)=some u):=by show ∀ j u,_; rw [hW3]; exact Kq w2 x
  have HB3:Hid (ag X W3):=by show Below _ _ _; rw [hW3]; exact HB2.out.alloc HB2.out.size _
  have hz3:X.heap.size≤W3.heap.size:=HB3.out.size;clear hown2 U1 Vi HB1 ZM HR1 hz1;go_wp2_with (at_builtin; go_must (rw [← hW3]; clear hW3; refine wpList_append_own_at _ rfl _ _ 40 rfl X.heap.size 29 iR (.agg #[.string ⟨#[]⟩,.string ⟨#[]⟩,.string ⟨#[]⟩,.string ⟨#[]⟩,.string ⟨#[]⟩]) 5 80 underlying40 VC.out.1 VC.out.2.1 VC.out.2.2.1 VC.out.2.2.2 rfl (by decide) v2 p (aH (acc.take p)) rfl UY.out ⟨w2.heap.size,0,none⟩ 1 1 x.row rfl rfl Wp.out (by simp [Fc.row,Value.oneCell']) (by unfold maxLen; omega) (by omega) hz3 ?_));intro v4 w4 U2 Vr _ _;have UT:=az U2;have Vk:Hid (ag X w4):=HB3.out.grown Vr HB3.out.size (fun z hz=>(UB.out.lt z hz).1);have Xl:X.heap.size≤w4.heap.size:=Vk.out.size;have HBO4:Hid (ag wo w4):=U4.out.trans (Vk.out.mono U4.out.size);have HR4:Hid (w4.ownsRow w.heap.size 29 5 (.slice (some ⟨g,0,none⟩) k c) k (aH acc)):=oF HO.out fun z hz=>HBO4.out.block z (HO.out.lt z hz).2;clear U2 Vr UY UB Wp HB3 hz3 HB2 hz2 Xi y0 y1 y2 y3 y4 hbr;obtain rfl:p=k:=by omega
  have YU:Hid (acc.drop p=[]):=List.drop_of_length_le (by rw [UO.out]; exact TS _);by_cases hce:c=p
  all_goals
   go_wp2_with (at_builtin; go_must (refine wpList_append_own_at _ rfl _ _ 40 rfl X.heap.size 29 iR (.agg #[.string ⟨#[]⟩,.string ⟨#[]⟩,.string ⟨#[]⟩,.string ⟨#[]⟩,.string ⟨#[]⟩]) 5 80 underlying40 VC.out.1 VC.out.2.1 VC.out.2.2.1 VC.out.2.2.2 rfl (by decide) v4 (p + 1) (aH (acc.take p) ++ x.row) rfl UT.out _ 0 _ (aH (acc.drop p)) rfl (by rw [YU.out]; rfl) (JW YU.out) (vS _) (by unfold maxLen; omega) (by omega) Xl ?_));intro v5 w5 hown5 hgr5 _ _;have Zb:p + 1 + 0=p + 1:=rfl;have VS:Hid (ag X w5):=Vk.out.grown hgr5 Vk.out.size (fun z hz=>(UT.out.lt z hz).1);have hown6:w5.ownsRow X.heap.size 29 5 v5 (p + 1) (aH (kH oG (rows.take (p + 1)))):=by
    rw [HNX.out,HPT.out,aH,List.flatMap_append,List.flatMap_cons,← Zb];exact hown5
   obtain ⟨ad5,c5,rfl⟩:=Bh hown6;obtain ⟨g5,rfl,-⟩:=DN hown6 (Nat.succ_ne_zero _);have Vj:=aC (xg hown6 (TZ HB.out.size U4.out.size));have WS:Hid (ag w w5):=(HB.out.trans (U4.out.mono HB.out.size)).trans (VS.out.mono (TZ HB.out.size U4.out.size));clear hown5 hown6 hgr5 Zb;go_wp2;go_roundw;case rel=>exact ⟨p + 1,g5,c5,by omega,by go_num,by first | rfl | simp,Vj,WS⟩
   simp [intOf] <;> omega
 obtain rfl:k=rows.length:=by omega
 have HE:Hid (wr.ownsRow w.heap.size 29 5 (.slice (some ⟨g,0,none⟩) rows.length c) rows.length (aH (kH oG rows))):=by have h:=HO.out; rw [Ug] at h; exact h
 go_wp2;go_ret;exact ⟨⟨_,rfl,HE.out⟩,HB.out⟩
set_option linter.unusedSectionVars false
def okF (x:Fc):Prop:=bI x.a x.b x.r x.c x.d ⟨#[]⟩=true
theorem Rc {a b:ByteArray} (h:a.toList=b.toList):a=b:=by
 rw [Go.ByteArray.toList_eq,Go.ByteArray.toList_eq] at h;cases a; cases b; congr; exact Array.toList_inj.1 h
theorem ny {x y:Fc} (hx:okF x) (hy:okF y):oG x y=Op.bytesLess (Fj x) (Fj y):=by
 unfold okF at hx hy;unfold oG fU Fj;rw [hx,hy];rfl
theorem KJ {x y:Fc} (hx:okF x) (hy:okF y) (h:Fj x=Fj y):x=y:=by
 obtain ⟨h1,h2,h3,h4,h5,-⟩:=xU hx hy (Rc h);cases x; cases y;simp only at h1 h2 h3 h4 h5;subst h1 h2 h3 h4 h5;rfl
theorem TM {L:List Fc} (h:∀ x ∈ L,okF x):OrdO oG L where
 trans x hx y hy z hz h1 h2:=by
  rw [ny (h x hx) (h y hy)] at h1;rw [ny (h y hy) (h z hz)] at h2;rw [ny (h x hx) (h z hz)];exact Ls.lt_trans _ _ _ h1 h2
 asymm x hx y hy h1:=by
  rw [ny (h x hx) (h y hy)] at h1;rw [ny (h y hy) (h x hx)];exact Ls.lt_asymm _ _ h1
 total x hx y hy hne:=by
  rw [ny (h x hx) (h y hy),ny (h y hy) (h x hx)];exact Ls.lt_total _ _ fun e=>hne (KJ (h x hx) (h y hy) e)
theorem Re {L L0:List Fc} (hp:L.Perm L0) (hn:L0.Nodup) (hok:∀ x ∈ L0,okF x) (hs:L.Pairwise (fun x y=>Op.bytesLess (Fj y) (Fj x)=false)):L=kH oG L0:=by
 refine (PX (TM hok) hn ?_ hp).symm;have hd:L.Nodup:=hp.nodup_iff.2 hn;refine (List.Pairwise.and hd hs).imp_of_mem fun {x y} hx hy h=>?_;have ox:=hok x (hp.mem_iff.1 hx);have oy:=hok y (hp.mem_iff.1 hy);rw [ny ox oy];rcases Ls.lt_total (Fj x) (Fj y) (fun e=>h.1 (KJ ox oy e)) with h1 | h1
 ·exact h1
 rw [h.2] at h1; cases h1
theorem Rf {ts:List Tp} (h:dJ ts=true):∀ t ∈ ts,t.ok=true:=fun t ht=>by
 unfold dJ at h;have h:=(Bool.and_eq_true_iff.1 h).2;unfold tH at h;rw [Ub] at h;obtain ⟨i,hi,rfl⟩:=List.mem_iff_getElem.1 ht;have h1:=h i (List.mem_range.2 hi);unfold uR at h1;rw [TY hi] at h1;exact (Bool.and_eq_true_iff.1 h1).1
theorem RL {ts:List Tp} (hf:∀ t ∈ ts,t.ok=true) {o:Al} (h:∃ t ∈ ts,o=⟨t.a,t.b⟩ ∨ o=⟨t.c,t.d⟩):eT o.t o.s=true:=by
 obtain ⟨t,ht,h⟩:=h;have h1:=hf t ht;unfold Tp.ok bI at h1;simp only [TU] at h1;rcases h with rfl | rfl
 ·exact h1.1.1.1
 exact h1.1.2
theorem Rh {rs:List TR} (hs:bf (ae rs)=true) {k:ByteArray × ByteArray} (hk:k ∈ au (ae rs)):aP k.2=true:=by
 unfold au at hk;obtain ⟨T,hT,hk⟩:=Uf.1 hk;unfold jE at hk;obtain ⟨r,hr,rfl⟩:=Ue.1 hk;exact (tT hs hT hr).1
section
variable [DecidableEq Fc]
theorem Bn {st:ByteArray × ByteArray→Int} {rs:List TR} {ts:List Tp} {x:Fc} (hx:x ∈ bC st rs ts):∃ o ∈ eD ts,∃ k ∈ au (ae rs),∃ u ∈ cZ ts,x=⟨o.t,o.s,k.2,u.t,u.s⟩:=by
 cases hr:aQ (gW rs) rs ts;case false=>rw [jo hr] at hx; cases hx
 rw [iw hr] at hx;have h1:=(kG st rs ts (eD ts) (cZ ts) _).sub x hx;unfold BQ at h1;obtain ⟨o,ho,h1⟩:=Uf.1 h1;obtain ⟨k,hk,h1⟩:=Uf.1 h1;unfold iZ at h1;obtain ⟨u,hu,rfl⟩:=Ue.1 h1;exact ⟨o,ho,k,hk,u,hu,rfl⟩
theorem He {st:ByteArray × ByteArray→Int} {rs:List TR} {ts:List Tp}:(bC st rs ts).Nodup:=by
 cases hr:aQ (gW rs) rs ts;case false=>rw [jo hr]; exact List.nodup_nil
 rw [iw hr]; exact (kG st rs ts (eD ts) (cZ ts) _).once
theorem MX {st:ByteArray × ByteArray→Int} {rs:List TR} {ts:List Tp}:∀ x ∈ bC st rs ts,okF x:=fun x hx=>by
 cases hr:aQ (gW rs) rs ts;case false=>rw [jo hr] at hx; cases hx
 obtain ⟨o,ho,k,hk,u,hu,rfl⟩:=Bn hx;unfold aQ at hr;simp only [TU] at hr;have hts:=Rf hr.1.2;have ho1:eT o.t o.s=true:=by
  rcases Bf ts [] o ho with h | h
  ·cases h
  exact RL hts h
 have hu1:eT u.t u.s=true:=by
  rcases Bg ts [] u hu with h | h
  ·cases h
  exact RL hts h
 have hn:=Rh (aY.1 hr.1.1).1 hk;show bI o.t o.s k.2 u.t u.s ⟨#[]⟩=true;unfold bI;rw [ho1,hu1,hn];unfold uK;rw [Go.ByteArray.toList_eq];rfl
theorem yg {st:ByteArray × ByteArray→Int} {rs:List TR} {ts:List Tp} (hfr:∀ r ∈ rs,r.fits) (hft:∀ x ∈ ts,x.fits):∀ x ∈ bC st rs ts,x.fits:=fun x hx=>by
 obtain ⟨o,ho,k,hk,u,hu,rfl⟩:=Bn hx;have h1:=pG hft o ho;have h2:=nu hft u hu;exact ⟨h1.1,h1.2,wX hfr k hk,h2.1,h2.2⟩
def iy (st:ByteArray × ByteArray→Int) (rs:List TR) (ts:List Tp):List Fc:=kH oG (bC st rs ts)
theorem Bo (st:ByteArray × ByteArray→Int) (rs:List TR) (ts:List Tp):(iy st rs ts).length=(bC st rs ts).length:=(ja _).length_eq
theorem BX {st:ByteArray × ByteArray→Int} {rs:List TR} {ts:List Tp} {w:af} {e:Ending} {w':af} (h:DL (bC st rs ts) w e w'):(∃ v,e=.returned v∧w'.ownsRow w.heap.size 29 5 v (iy st rs ts).length (aH (iy st rs ts)))∧ag w w':=by
 obtain ⟨⟨L,v,he,hp,hs,hown⟩,hb⟩:=h;obtain rfl:=Re hp He MX hs;exact ⟨⟨v,he,hown⟩,hb⟩
end
section
variable [DecidableEq Fc]
theorem sK (st:ByteArray × ByteArray→Int) (ad:Option Addr) (cap:Nat) (rs:List TR) (UJ:Option Addr) (cap':Nat) (ts:List Tp) (f:Fc) (w:af) (hlen:rs.length≤1048576) (hs:kX w ad rs) (hl:∀ r ∈ rs,r.light) (hfr:∀ r ∈ rs,r.fits) (hlt:ts.length≤1048576) (hst:Sl w UJ ts) (hft:∀ x ∈ ts,x.fits) (hle:aJ (ae rs)=true→Least (ae rs) st) :
  Calls prog 13 #[.slice ad rs.length cap,.slice UJ ts.length cap',.agg #[.string f.a,.string f.b,.string f.r,.string f.c,.string f.d]] w fun e w'=>e=.returned (.bool (bP (bC st rs ts) f))∧ag w w':=by
 obtain ⟨W0,hW0⟩:∃ W0,W0=w.alloc (.cells #[.string f.a,.string f.b,.string f.r,.string f.c,.string f.d] 29):=⟨_,rfl⟩;have HB0:=qZ hW0;have hbx:vO W0 w.heap.size f:=by rw [hW0]; exact World.alloc_heap_new w _
 have U4:=aC hbx;have hLl:=pI st (rs:=rs) (ts:=ts);have HRC:Hid (∀ W':World,ag W0 W'→Calls prog 55 #[.slice ad rs.length cap,.slice UJ ts.length cap'] W' fun e w'=>e=.returned (.bool (aQ (gW rs) rs ts))∧ag W' w'):=fun W' h=>by
  have hb:=HB0.out.trans (h.mono HB0.out.size);exact yf ad cap rs UJ cap' ts W' hlen (hs.below hb) hl hfr hlt (hst.below hb) hft
 have HAC:Hid (aQ (gW rs) rs ts=true→∀ W':World,ag W0 W'→Calls prog 57 #[.slice ad rs.length cap,.slice UJ ts.length cap'] W' fun e w'=>(∃ v,e=.returned v∧w'.ownsRow W'.heap.size 29 5 v (bC st rs ts).length (aH (bC st rs ts)))∧ag W' w'):=fun hr W' h=>by
  have hb:=HB0.out.trans (h.mono HB0.out.size);have hsd:aJ (ae rs)=true∧ts.length≤40:=by
   unfold aQ dJ at hr;simp only [TU,Ud] at hr;exact ⟨hr.1.1,hr.1.2.1⟩
  have:=DK st ad cap rs UJ cap' ts W' (aY.1 hsd.1) (hle hsd.1) (hs.below hb) hl hsd.2 (hst.below hb);rw [← iw hr] at this;exact this
 clear hs hl hfr hst hft hle hbx;go_enter func13,ntmps13;go_wp2_with fail;rw [← hW0];clear hW0;cases hr:aQ (gW rs) rs ts;case true=>
  have HA:=aC (HAC.out hr);rw [hr] at HRC;obtain ⟨c0,c1,c2,c3,c4,cl⟩:=U4.out.c;obtain ⟨L,Ws⟩:∃ L,L=bC st rs ts:=⟨_,rfl⟩;rw [← Ws] at HA hLl;have Vl:=aC Ws;clear HAC hr Ws
  go_region_held3 (fun w'=>w'.cell? ⟨w.heap.size,0,none⟩=some (.string f.a)∧w'.cell? ⟨w.heap.size,1,none⟩=some (.string f.b)∧w'.cell? ⟨w.heap.size,2,none⟩=some (.string f.r)∧w'.cell? ⟨w.heap.size,3,none⟩=some (.string f.c)∧w'.cell? ⟨w.heap.size,4,none⟩=some (.string f.d)∧ag W0 w')
   (first | assumption | exact PS (by assumption) hbx | exact ⟨c0,c1,c2,c3,c4,(TT _ _).drew⟩)
   (first | (go_at_call 55; refine (HRC.out _ (And.right (And.right (And.right (And.right (And.right (by assumption))))))).mono ?_; rintro e w' ⟨rfl,hbx⟩) | (go_at_call 57; refine (HA.out _ (And.right (And.right (And.right (And.right (And.right (by assumption))))))).mono ?_; rintro e w' ⟨⟨v,rfl,hown⟩,hbx⟩; obtain ⟨Zv,Xg,rfl,hsl⟩:=mZ hown) | (go_at_call 56; refine (ow Zv Xg L f _ (by omega) (by first | exact hsl | exact hsl.below (TT _ _))).mono ?_; rintro e w'' ⟨rfl,hbx⟩))
  rename_i hJ;have HG:=aC (HB0.out.trans (hJ.2.2.2.2.2.mono HB0.out.size));clear hJ hown hsl c0 c1 c2 c3 c4 HB0;go_wp2;go_ret;exact ⟨by rw [Vl.out]; rfl,HG.out⟩
 rw [hr] at HRC;have HN:Hid (bP (bC st rs ts) f=false):=by show _=_; rw [jo hr]; rfl
 clear HAC hr;refine lQ 10 (fun n=>(undef::undef::undef::undef::undef::undef::undef::undef::undef::undef::[]).getD n undef) (fun fq=>{ tmps:=List.toArray (Value.slice ad rs.length cap::.slice UJ ts.length cap'::.agg #[.string f.a,.string f.b,.string f.r,.string f.c,.string f.d]::undef::undef::.pointer (some ⟨w.heap.size,0,none⟩)::.bool false::fq 0::fq 1::fq 2::fq 3::fq 4::fq 5::fq 6::fq 7::fq 8::fq 9::[]),defers:=[] }) (fun n v _=>v=(Value.slice ad rs.length cap::.slice UJ ts.length cap'::.bool false::.bool false::undef::undef::undef::undef::undef::.bool false::[]).getD n undef) (fun w'=>ag W0 w') (by kernel_rfl) rfl (by kernel_rfl) (by kernel_rfl) rfl (TT _ _).drew ?dR ?finF;case dR =>
  rintro i hi o ho fq w' hG hpre;have HG:Hid (ag W0 w'):=hG;have HM:Hid (∀ e ∈ o.after,Region.binds .any e=true→_):=hpre;clear hG hpre;have hc:=uh (i:=i) (by omega);clear hi
  repeat' rcases hc with rfl | hc
  iterate 2
   ·cases ho;have hm:=HM.out
    try simp [Region.binds] at hm
    clear HM;refine wpOp_step rfl (fun K hK=>?_);have HK:Hid (∀ a w,_→K a w):=hK;clear hK;go_simp;exact HK.out _ _ ⟨_,by simp [upd, *],HG.out,rfl,fun k u hu=>hu⟩
  ·cases ho;have e0:fq 0=.slice ad rs.length cap:=HM.out ⟨0,.data⟩ (by simp) rfl;have e1:fq 1=.slice UJ ts.length cap':=HM.out ⟨1,.data⟩ (by simp) rfl;clear HM;refine wpOp_step rfl (fun K hK=>?_);have HK:Hid (∀ a w,_→K a w):=hK;clear hK;simp only [e0,e1];go_simp;refine (HRC.out _ HG.out).mono ?_;rintro e w9 ⟨rfl,hb9⟩;have HG9:=jP HG hb9;clear hb9;go_wp2_with fail;exact HK.out _ _ ⟨Value.bool false,by simp [upd,e0,e1],HG9.out,rfl,fun k u hu=>hu⟩
  iterate 7
   ·cases ho;have hm:=HM.out
    try simp [Region.binds] at hm
    clear HM;refine wpOp_step rfl (fun K hK=>?_);have HK:Hid (∀ a w,_→K a w):=hK;clear hK
    try simp only [hm]
    go_simp;exact HK.out _ _ ⟨_,by simp [upd, *],HG.out,rfl,fun k u hu=>hu⟩
 case finF =>
  rintro o ho fq w' hG hall;have e9:fq 9=.bool false:=hall 9 (by omega);have HG:Hid (ag W0 w'):=hG;clear hG hall;cases ho;refine wpOp_step rfl (fun K hK=>?_);have HK:Hid (∀ a w,_→K a w):=hK;clear hK;simp only [e9];go_simp;refine HK.out _ _ ?_;clear HK;go_wp2;go_ret;exact ⟨by rw [HN.out]; rfl,HB0.out.trans (HG.out.mono HB0.out.size)⟩
end
theorem DR (x y:Fc):wQ x y=wQ y x:=by rw [Bool.eq_iff_iff,vC,vC]; exact ⟨Eq.symm,Eq.symm⟩
theorem MZ {x y:List Fc} (h:x.Perm y) (f:Fc):bP x f=bP y f:=by rw [Bool.eq_iff_iff,dB,dB]; exact h.mem_iff
theorem Hf (ad:Option Addr) (cap:Nat) (ts:List Fc) (t:Fc) (w:af) (hlen:ts.length≤1048576) (hs:BA w ad ts) :
  Calls prog 76 #[.slice ad ts.length cap,.agg #[.string t.a,.string t.b,.string t.r,.string t.c,.string t.d]] w fun e w'=>(∃ r:Int,e=.returned (.int .i64 r)∧decide (0≤r)=bP ts t)∧ag w w':=by
 have HS:=aC hs;clear hs;obtain ⟨W0,hW0⟩:∃ W0,W0=w.alloc (.cells #[.string t.a,.string t.b,.string t.r,.string t.c,.string t.d] 29):=⟨_,rfl⟩;have HB0:=qZ hW0;have HX0:Hid (vO W0 w.heap.size t):=by show vO _ _ _; rw [hW0]; exact World.alloc_heap_new w _
 go_enter func76,ntmps76;go_wp2_with fail;rw [← hW0];clear hW0;go_loopw [8] (fun i wr=>∃ k:Nat,k≤ts.length∧i=.int .i64 k∧Hid (bP (ts.drop k) t=bP ts t)∧Hid (ag W0 wr)) (fun i _=>ts.length - (intOf i).toNat);case atStart=>exact ⟨0,TW _,rfl,rfl,TT _ _⟩
 obtain ⟨k,hk,rfl,HP,HB⟩:=hrel;have UG:Hid (ag w wr):=HB0.out.trans (HB.out.mono HB0.out.size);by_cases hlt:k < ts.length
 ·obtain ⟨b,off,UF,⟨t0,t1,t2,t3,t4⟩,hb⟩:=BA.at0 (HS.out.below UG.out) hlt;obtain ⟨x0,x1,x2,x3,x4,xl⟩:=(HX0.out.bel HB.out).c;have hk1:=bB k;have hk2:(k:Int) < (ts.length:Int):=by omega
  have HD:Hid (bP ts t=(wQ ts[k] t || bP (ts.drop (k + 1)) t)):=by show _=_; rw [← HP.out]; exact Du hlt
  subst UF;cases hq:wQ ts[k] t;case true=>
   have heq:=EL t ts[k] (v:=true) (by rw [DR]; exact hq);have HN:Hid (bP ts t=true):=by show _=_; rw [HD.out,hq]; rfl
   clear hq;go_wp2_with fail;go_quiet (fail);clear t0 t1 t2 t3 t4 x0 x1 x2 x3 x4 heq;go_wp2;go_ret;exact ⟨⟨k,rfl,by rw [HN.out]; simp⟩,below_drewN UG.out _⟩
  have heq:=EL t ts[k] (v:=false) (by rw [DR]; exact hq);have UI:Hid (bP (ts.drop (k + 1)) t=bP ts t):=by show _=_; rw [HD.out,hq]; rfl
  clear hq;go_wp2_with fail;go_quiet (fail);clear t0 t1 t2 t3 t4 x0 x1 x2 x3 x4 heq;go_wp2;go_roundw;case rel=>exact ⟨k + 1,by omega,by go_num,UI,below_drewN HB.out _⟩
  simp [intOf] <;> omega
 have HN:Hid (bP ts t=false):=by show _=_; rw [← HP.out,List.drop_of_length_le (by omega)]; rfl
 go_wp2;go_ret;exact ⟨⟨-1,rfl,by rw [HN.out]; simp⟩,UG.out⟩
theorem Bp (ad:Option Addr) (cap:Nat) (ts:List Fc) (t:Fc) (w:af) (hlen:ts.length≤1048576) (hs:BA w ad ts) :
  Calls prog 51 #[.slice ad ts.length cap,.agg #[.string t.a,.string t.b,.string t.r,.string t.c,.string t.d]] w fun e w'=>e=.returned (.bool (bP ts t))∧ag w w':=by
 obtain ⟨W0,hW0⟩:∃ W0,W0=w.alloc (.cells #[.string t.a,.string t.b,.string t.r,.string t.c,.string t.d] 29):=⟨_,rfl⟩;have HB0:=qZ hW0;have HC:=aC (Hf ad cap ts t W0 hlen (hs.below HB0.out));clear hs;go_enter func51,ntmps51;go_wp2_with fail;rw [← hW0];clear hW0;refine HC.out.mono ?_;rintro e w' ⟨⟨r,rfl,hr⟩,hbx⟩;have HR:=aC hr;have U4:=aC (HB0.out.trans (hbx.mono HB0.out.size));clear hr hbx;go_wp2;go_ret;exact ⟨by rw [← HR.out]; rfl,U4.out⟩
section
variable [DecidableEq Fc]
theorem BZ (st:ByteArray × ByteArray→Int) (ad:Option Addr) (cap:Nat) (rs:List TR) (UJ:Option Addr) (cap':Nat) (ts:List Tp) (f:Fc) (w:af) (hlen:rs.length≤1048576) (hs:kX w ad rs) (hl:∀ r ∈ rs,r.light) (hfr:∀ r ∈ rs,r.fits) (hcp:∀ r ∈ rs,r.caps) (hlt:ts.length≤1048576) (hst:Sl w UJ ts) (hft:∀ x ∈ ts,x.fits) (hle:aJ (ae rs)=true→Least (ae rs) st) :
  Calls prog 11 #[.slice ad rs.length cap,.slice UJ ts.length cap',.agg #[.string f.a,.string f.b,.string f.r,.string f.c,.string f.d]] w fun e w'=>e=.returned (.bool (bP (bC st rs ts) f))∧ag w w':=by
 obtain ⟨W0,hW0⟩:∃ W0,W0=w.alloc (.cells #[.string f.a,.string f.b,.string f.r,.string f.c,.string f.d] 29):=⟨_,rfl⟩;have HB0:ag w W0:=by rw [hW0]; exact (TT _ _).alloc (TS _) _
 have hbx:vO W0 w.heap.size f:=by rw [hW0]; exact World.alloc_heap_new w _
 obtain ⟨c0,c1,c2,c3,c4,cl⟩:=hbx.c;have VH:Hid (∀ W':World,(W'.cell? ⟨w.heap.size,0,none⟩=some (.string f.a)∧W'.cell? ⟨w.heap.size,1,none⟩=some (.string f.b)∧W'.cell? ⟨w.heap.size,2,none⟩=some (.string f.r)∧W'.cell? ⟨w.heap.size,3,none⟩=some (.string f.c)∧W'.cell? ⟨w.heap.size,4,none⟩=some (.string f.d)∧ag w W')→Calls prog 14 #[.slice ad rs.length cap,.slice UJ ts.length cap'] W' (DL (bC st rs ts) W')):=fun W' h=>sJ st ad cap rs UJ cap' ts W' hlen (hs.below h.2.2.2.2.2) hl hfr hcp hlt (hst.below h.2.2.2.2.2) hft hle;have hLl:=pI st (rs:=rs) (ts:=ts);clear hs hl hfr hcp hst hft hle hbx;go_enter func11,ntmps11;go_wp2_with fail;rw [← hW0];clear hW0
 go_region_held3 (fun w'=>w'.cell? ⟨w.heap.size,0,none⟩=some (.string f.a)∧w'.cell? ⟨w.heap.size,1,none⟩=some (.string f.b)∧w'.cell? ⟨w.heap.size,2,none⟩=some (.string f.r)∧w'.cell? ⟨w.heap.size,3,none⟩=some (.string f.c)∧w'.cell? ⟨w.heap.size,4,none⟩=some (.string f.d)∧ag w w')
  (first | assumption | exact PS (by assumption) hbx | exact ⟨c0,c1,c2,c3,c4,HB0.drew⟩)
  (first | (go_at_call 14; refine (VH.out _ (by assumption)).mono ?_; rintro e w' ⟨⟨L,v,rfl,hp,-,hown⟩,hbx⟩; obtain ⟨Zv,Xg,rfl,hsl⟩:=mZ hown; have HLL:Hid (L.length≤1048576):=(by show _≤_; rw [hp.length_eq]; exact TZ hLl (by decide))) | (go_at_call 51; refine (Bp Zv Xg L f _ HLL.out (by first | exact hsl | exact hsl.below (TT _ _))).mono ?_; rintro e w'' ⟨rfl,hbx⟩))
 rename_i hJ;have HG:=aC hJ.2.2.2.2.2;have HE:=aC (MZ hp f);clear hJ hown hsl hp c0 c1 c2 c3 c4;go_wp2;go_ret;exact ⟨by rw [HE.out]; rfl,HG.out⟩
end
section
variable [DecidableEq Fc]
theorem Ca (st:ByteArray × ByteArray→Int) (ad:Option Addr) (cap:Nat) (rs:List TR) (UJ:Option Addr) (cap':Nat) (ts:List Tp) (w:af) (hlen:rs.length≤1048576) (hs:kX w ad rs) (hl:∀ r ∈ rs,r.light) (hfr:∀ r ∈ rs,r.fits) (hlt:ts.length≤1048576) (hst:Sl w UJ ts) (hft:∀ x ∈ ts,x.fits) (hle:aJ (ae rs)=true→Least (ae rs) st) :
  Calls prog 47 #[.slice ad rs.length cap,.slice UJ ts.length cap'] w fun e w'=>(∃ v,e=.returned v∧w'.ownsRow w.heap.size 29 5 v (iy st rs ts).length (aH (iy st rs ts)))∧ag w w':=by
 have hLl:=pI st (rs:=rs) (ts:=ts);have HFQ:=aC (yg (st:=st) hfr hft);have HRC:=aC (yf ad cap rs UJ cap' ts w hlen hs hl hfr hlt hst hft);have HAC:Hid (aQ (gW rs) rs ts=true→∀ W':World,ag w W'→Calls prog 57 #[.slice ad rs.length cap,.slice UJ ts.length cap'] W' fun e w'=>(∃ v,e=.returned v∧w'.ownsRow W'.heap.size 29 5 v (bC st rs ts).length (aH (bC st rs ts)))∧ag W' w'):=fun hr W' hb=>by
  have hsd:aJ (ae rs)=true∧ts.length≤40:=by
   unfold aQ dJ at hr;simp only [TU,Ud] at hr;exact ⟨hr.1.1,hr.1.2.1⟩
  have:=DK st ad cap rs UJ cap' ts W' (aY.1 hsd.1) (hle hsd.1) (hs.below hb) hl hsd.2 (hst.below hb);rw [← iw hr] at this;exact this
 clear hs hl hfr hst hft hle;go_enter func47,ntmps47;go_wp2_with fail;refine HRC.out.mono ?_;rintro e w1 ⟨rfl,hb1⟩;have HB1:=aC hb1;clear hb1 HRC;cases hr:aQ (gW rs) rs ts;case false=>
  have HN:Hid (iy st rs ts=[]):=by show _=_; unfold iy; rw [jo hr]; rfl
  clear hr HAC;obtain ⟨W2,hW2⟩:∃ W2,W2=w1.alloc (.cells #[] 29):=⟨_,rfl⟩;have UB:Hid (W2.ownsRow w.heap.size 29 5 (.slice (some ⟨w1.heap.size,0,none⟩) 0 0) 0 []):=by
   show World.ownsRow _ _ _ _ _ _ _;rw [hW2];exact World.ownsRow_lit w1 #[] 0 HB1.out.size (by unfold maxLen; omega) (by simp)
  have HB2:Hid (ag w W2):=by show Below _ _ _; rw [hW2]; exact HB1.out.alloc HB1.out.size _
  go_wp2;rw [← hW2];go_ret;exact ⟨⟨_,rfl,by rw [HN.out]; exact UB.out⟩,HB2.out⟩
 have HA:=aC (HAC.out hr);clear HAC hr;obtain ⟨L,hL⟩:∃ L,bC st rs ts=L:=⟨_,rfl⟩;have WQ:Hid (iy st rs ts=kH oG L):=by show _=_; unfold iy; rw [hL]
 rw [hL] at HA HFQ hLl;clear hL;go_wp2_with fail;refine (HA.out _ HB1.out).mono ?_;rintro e w2 ⟨⟨v,rfl,hown⟩,hb2⟩;obtain ⟨Zv,Xg,rfl,hsl⟩:=mZ hown;have Y9:=aC hsl;have HB2:=jP HB1 hb2;clear hown hsl hb2 HB1 HA;have HLL:Hid (L.length≤1048576):=TZ hLl (by decide);clear hLl;go_wp2_with fail;refine (JY Zv Xg L _ HLL.out Y9.out HFQ.out).mono ?_;rintro e w3 ⟨⟨v,rfl,hown⟩,hb3⟩;have HB3:=jP HB2 hb3;have UY:Hid (w3.ownsRow w.heap.size 29 5 v (iy st rs ts).length (aH (iy st rs ts))):=by
  show World.ownsRow _ _ _ _ _ _ _;rw [WQ.out,(ja L).length_eq];exact xg hown HB2.out.size
 clear hown hb3;go_wp2;go_ret;exact ⟨⟨v,rfl,UY.out⟩,HB3.out⟩
end
theorem SS {P:Nat→Prop} (h:∃ n,P n):∃ n,P n∧∀ m,P m→n≤m:=by
 obtain ⟨n,hn⟩:=h
 induction n using Nat.strongRecOn with
 | ind n ih =>
  by_cases hx:∃ m,m < n∧P m
  ·obtain ⟨m,hm,hp⟩:=hx;exact ih m hm hp
  exact ⟨n,hn,fun m hm=>Nat.le_of_not_lt fun hlt=>hx ⟨m,hlt,hm⟩⟩
theorem PY {ts:List Ty} (h:∃ f,Sol ts f):∃ f,Least ts f:=by
 have key:∀ k,∃ n:Nat,(∃ g,Sol ts g∧g k=(n:Int))∧∀ m:Nat,(∃ g,Sol ts g∧g k=(m:Int))→n≤m:=fun k=>SS (by
  obtain ⟨f,hf⟩:=h;exact ⟨(f k).toNat,f,hf,by have:=hf.pos k; omega⟩)
 have low:∀ k g,Sol ts g→(((key k).choose:Nat):Int)≤g k:=fun k g hg=>by
  have h1:=(key k).choose_spec.2 (g k).toNat ⟨g,hg,by have:=hg.pos k; omega⟩;have:=hg.pos k;omega
 refine ⟨fun k=>(((key k).choose:Nat):Int),⟨fun k=>Int.natCast_nonneg _,fun k hk d hd=>?_⟩,fun k hk g hg=>low k g hg⟩;obtain ⟨g,hg,e⟩:=(key k).choose_spec.1;have h1:=low (d.typ,d.rel) g hg;have h2:=hg.up k hk d hd;show (((key (d.typ,d.rel)).choose:Nat):Int) + stepOf d≤(((key k).choose:Nat):Int);rw [← e];exact Int.le_trans (Int.add_le_add_right h1 _) h2
theorem RN (ts:List Ty):∃ st,aJ ts=true→Least ts st:=by
 by_cases h:aJ ts=true
 ·obtain ⟨st,hst⟩:=PY (aY.1 h).2.2;exact ⟨st,fun _=>hst⟩
 exact ⟨fun _=>0,fun h2=>absurd h2 h⟩
theorem SV {P:Program} {ops:Array Oper} {Q:Exit→Act→World→Prop} {md:Region.Mode} {S:World→Prop} {i:Nat} {oi:Oper} {v:Value} {fuel:Nat} {listed:Array Bool} {a:Act} {w:af} (d:Nat) (hi:ops[i]?=some oi) (hd:oi.dst=some d)
  (hs:Region.noSelect ops=true) (hf:Region.free md ops listed i=true) (hr:(Region.ready md ops listed).contains i=true)
  (hQ:∀ c a w,Q (.panic c) (a.put oi.dst v) w→Q (.panic c) a w) (hy:YieldsIf P ops S oi v a) (hS:S w)
  (h:wpAnyH P md ops Q S fuel (listed.setIfInBounds i true) (a.put (some d) v) w):wpAnyH P md ops Q S (fuel + 1) listed a w :=
 wpAnyH_take hi hs hf hr hQ hy hS (by rw [hd]; exact h)
theorem tk {P:Program} {ops:Array Oper} {Q:Exit→Act→World→Prop} {md:Region.Mode} {S:World→Prop} {oi:Oper} {v:Value} {fuel:Nat} {listed:Array Bool} {a:Act} {w:af} (i d:Nat)
  (h:wpAnyH P md ops Q S fuel (listed.setIfInBounds i true) (a.put (some d) v) w) (hi:ops[i]?=some oi:=by rfl) (hd:oi.dst=some d:=by rfl) (hs:Region.noSelect ops=true:=by kernel_rfl) (hf:Region.free md ops listed i=true:=by kernel_rfl) (hr:(Region.ready md ops listed).contains i=true:=by kernel_rfl)
  (hQ:∀ c a w,Q (.panic c) (a.put oi.dst v) w→Q (.panic c) a w:=by exact fun _ _ _ h=>h) (hy:YieldsIf P ops S oi v a:=by refine Or.inl ⟨by rfl,?_⟩; intro w hSw; (try dsimp only at hSw); go_simp <;> with_reducible rfl) (hS:S w:=by assumption):wpAnyH P md ops Q S (fuel + 1) listed a w :=
 SV d hi hd hs hf hr hQ hy hS h
end Go.Proofs.YtajkkeikihhejaaGreat
