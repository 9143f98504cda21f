/- Contract of the document's l4Sort: facts by their order, in a new row. -/
import Derived.Test.YtajkkeikihhejaaGreatSq
import Derived.Test.YtajkkeikihhejaaGreatJ41
open Go.Proofs.Tryz
set_option maxHeartbeats 80000000
namespace Go.Proofs.YtajkkeikihhejaaGreat
set_option maxRecDepth 100000
set_option linter.unusedVariables false
open Go.ChangeShapes Go.WideShapes Go.ChangeAt Go.RowKit Go.Maps
open Pl
def oq (x y:Fc):Bool:=fM x.a x.b x.r x.c x.d ⟨#[]⟩ y.a y.b y.r y.c y.d ⟨#[]⟩
theorem JO {w W w':ae} {n m i0 i1 i2 i3 i4 j0 j1 j2 j3 j4:Nat} {x0 x1 x2 x3 x4 y0 y1 y2 y3 y4:Value} (h:W.cell? ⟨n,i0,none⟩=some x0∧W.cell? ⟨n,i1,none⟩=some x1∧W.cell? ⟨n,i2,none⟩=some x2∧W.cell? ⟨n,i3,none⟩=some x3∧W.cell? ⟨n,i4,none⟩=some x4∧W.cell? ⟨m,j0,none⟩=some y0∧W.cell? ⟨m,j1,none⟩=some y1∧W.cell? ⟨m,j2,none⟩=some y2∧W.cell? ⟨m,j3,none⟩=some y3∧W.cell? ⟨m,j4,none⟩=some y4∧af w W) (hb:af W w'):w'.cell? ⟨n,i0,none⟩=some x0∧w'.cell? ⟨n,i1,none⟩=some x1∧w'.cell? ⟨n,i2,none⟩=some x2∧w'.cell? ⟨n,i3,none⟩=some x3∧w'.cell? ⟨n,i4,none⟩=some x4∧w'.cell? ⟨m,j0,none⟩=some y0∧w'.cell? ⟨m,j1,none⟩=some y1∧w'.cell? ⟨m,j2,none⟩=some y2∧w'.cell? ⟨m,j3,none⟩=some y3∧w'.cell? ⟨m,j4,none⟩=some y4∧af w w':=by
 obtain ⟨h0,h1,h2,h3,h4,k0,k1,k2,k3,k4,hB⟩:=h;exact ⟨aG hb (aB h0) h0,aG hb (aB h1) h1,aG hb (aB h2) h2,aG hb (aB h3) h3,aG hb (aB h4) h4,aG hb (aB k0) k0,aG hb (aB k1) k1,aG hb (aB k2) k2,aG hb (aB k3) k3,aG hb (aB k4) k4,hB.trans (hb.mono hB.size)⟩
theorem Jf (ad:Option Addr) (cap:Nat) (rows:List Fc) (w:ae) (hlen:rows.length≤1048576) (hs:wK w ad rows) (hfit:∀ x ∈ rows,x.fits) :
  Calls prog 89 #[.slice ad rows.length cap] w fun e w'=>(∃ v:Value,e=.returned v∧w'.ownsRow w.heap.size 29 5 v rows.length (aF (kL oq rows)))∧af w w':=by
 obtain ⟨iR,Ym,zR0,zR1,zR2⟩:=Ec;have UM:Hid (prog.info? 29=some iR∧iR.zero=some (.agg #[.string ⟨#[]⟩,.string ⟨#[]⟩,.string ⟨#[]⟩,.string ⟨#[]⟩,.string ⟨#[]⟩])∧iR.size=5∧iR.bytes=80):=⟨Ym,zR0,zR1,zR2⟩;have HS:=aC hs;have TP:=aC hfit;clear hs hfit Ym zR0 zR1 zR2;obtain ⟨W0,hW0⟩:∃ W0,W0=w.alloc (.cells #[] 29):=⟨_,rfl⟩;have HB0:=nA hW0;have UC:Hid (W0.ownsRow w.heap.size 29 5 (.slice (some ⟨w.heap.size,0,none⟩) 0 0) 0 []):=by
  show World.ownsRow _ _ _ _ _ _ _;rw [hW0];exact World.ownsRow_lit w #[] 0 (Sy _) (by unfold maxLen; omega) (by simp)
 go_enter func89,ntmps89;go_wp2_with fail;rw [← hW0];clear hW0;go_loopw [3,4] (fun v i wr=>∃ (k g c:Nat),k≤rows.length∧i=.int .i64 k∧v=.slice (some ⟨g,0,none⟩) k c∧Hid (wr.ownsRow w.heap.size 29 5 (.slice (some ⟨g,0,none⟩) k c) k (aF (kL oq (rows.take k))))∧Hid (af w wr)) (fun _ i _=>rows.length - (intOf i).toNat);case atStart=>exact ⟨0,w.heap.size,0,SC _,rfl,rfl,UC,HB0⟩
 clear UC HB0;obtain ⟨k,g,c,hk,rfl,rfl,HO,HB⟩:=hrel;by_cases hlt:k < rows.length
 ·obtain ⟨acc,hacc⟩:∃ acc,acc=kL oq (rows.take k):=⟨_,rfl⟩;obtain ⟨b,off,TC,hrow,hbl⟩:∃ b off,ad=some ⟨b,off,none⟩∧wJ w b (off + k * 5) rows[k]∧b < w.heap.size:=by
   rcases HS.out with h | ⟨b',off',e,hb,hr⟩
   ·rw [h] at hlt; simp at hlt
   exact ⟨b',off',e,hr k hlt,hb⟩
  obtain ⟨x,hx⟩:∃ x,rows[k]=x:=⟨_,rfl⟩;have HNX:Hid (kL oq (rows.take (k + 1))=qN oq x acc):=by show _=_; rw [SA hlt,Je,hacc,hx]
  have hal:acc.length=k:=by rw [hacc,(iy _).length_eq,Tg]; omega
  have Wy:Hid x.fits:=by show Fc.fits x; rw [← hx]; exact TP.out _ (Sw hlt)
  have HAF:Hid (∀ z ∈ acc,z.fits):=fun z hz=>by
   rw [hacc] at hz;exact TP.out z (List.mem_of_mem_take ((iy _).mem_iff.1 hz))
  rw [← hacc] at HO;rw [hx] at hrow;have TL:=aC hal;have hkc:k≤c:=Qj HO.out;have hk1:=bq k;have hk2:(k:Int) < (rows.length:Int):=by omega
  have UE:=aC hrow;have Xy:=aC hbl;obtain ⟨wo,hwo⟩:∃ wo,wo=wr:=⟨_,rfl⟩;subst hwo;subst TC;clear hacc hal hrow hbl hx;go_wp2_with fail;go_loopw [5] (fun i wr=>∃ p:Nat,p≤k∧i=.int .i64 p∧Hid (∀ (i:Nat) (h:i < acc.length),i < p→oq acc[i] x=true)∧Hid (af wo wr)) (fun i _=>k - (intOf i).toNat);case atStart=>exact ⟨0,SC _,rfl,fun i h hi=>absurd hi (Tn _),Sz _ _⟩
  obtain ⟨p,hp,rfl,HU,HBP⟩:=hrel;have HOP:Hid (wr.ownsRow w.heap.size 29 5 (.slice (some ⟨g,0,none⟩) k c) k (aF acc)):=oo HO.out fun z hz=>HBP.out.block z (HO.out.lt z hz).2;have Z7:Hid (af w wr):=HB.out.trans (HBP.out.mono HB.out.size);obtain ⟨y0,y1,y2,y3,y4⟩:=UE.out.same (fun o=>Z7.out.cell (p:=⟨b,o,none⟩) Xy.out);have hbr:b < wr.heap.size:=Sv Xy.out Z7.out.size;have hgr:g < wr.heap.size:=(HOP.out.lt g rfl).2;have hp1:=bq p;by_cases hpk:p < k
  ·have hp2:(p:Int) < (k:Int):=by omega
   have hd:decide ((p:Int) < (k:Int))=true:=by simp; omega
   have hpa:p < acc.length:=by rw [TL.out]; exact hpk
   obtain ⟨y,hy⟩:∃ y,acc[p]=y:=⟨_,rfl⟩;have ZF:∀ c,c < 5→wr.cell? ⟨g,p * 5 + c,none⟩=y.row[c]?:=fun c hc=>by
    rw [HOP.out.cellAt (p * 5 + c) (by omega),qG acc p hpa c hc,hy]
   have s0:wr.cell? ⟨g,p * 5,none⟩=some (.string y.a):=ZF 0 (by omega);have s1:wr.cell? ⟨g,p * 5 + 1,none⟩=some (.string y.b):=ZF 1 (by omega);have s2:wr.cell? ⟨g,p * 5 + 2,none⟩=some (.string y.r):=ZF 2 (by omega);have s3:wr.cell? ⟨g,p * 5 + 3,none⟩=some (.string y.c):=ZF 3 (by omega);have s4:wr.cell? ⟨g,p * 5 + 4,none⟩=some (.string y.d):=ZF 4 (by omega);have hyf:y.fits:=by rw [← hy]; exact HAF.out _ (Sw hpa)
   have HC:Hid (∀ W':World,Calls prog 130 #[.agg #[.string y.a,.string y.b,.string y.r,.string y.c,.string y.d],.agg #[.string x.a,.string x.b,.string x.r,.string x.c,.string x.d]] W' fun e w'=>e=.returned (.bool (oq y x))∧af W' w'):=fun W'=>vF _ _ _ _ _ _ _ _ _ _ W' hyf.1 hyf.2.1 hyf.2.2.1 hyf.2.2.2.1 hyf.2.2.2.2 Wy.out.1 Wy.out.2.1 Wy.out.2.2.1 Wy.out.2.2.2.1 Wy.out.2.2.2.2;clear ZF hyf;have HYE:=aC hy;clear hy;have hbp:=HBP.out;cases hq:oq y x;case true=>
    have Wt:Hid (∀ (i:Nat) (h:i < acc.length),i < p + 1→oq acc[i] x=true):=fun i h hi=>by
     by_cases e:i=p
     ·subst e; rw [HYE.out]; exact hq
     exact HU.out i h (by omega)
    rw [hq] at HC;clear hq;go_wp2_with fail
    go_region_held3 (fun w'=>w'.cell? ⟨g,p * 5,none⟩=some (.string y.a)∧w'.cell? ⟨g,p * 5 + 1,none⟩=some (.string y.b)∧w'.cell? ⟨g,p * 5 + 2,none⟩=some (.string y.r)∧w'.cell? ⟨g,p * 5 + 3,none⟩=some (.string y.c)∧w'.cell? ⟨g,p * 5 + 4,none⟩=some (.string y.d)∧w'.cell? ⟨b,off + k * 5,none⟩=some (.string x.a)∧w'.cell? ⟨b,off + k * 5 + 1,none⟩=some (.string x.b)∧w'.cell? ⟨b,off + k * 5 + 2,none⟩=some (.string x.r)∧w'.cell? ⟨b,off + k * 5 + 3,none⟩=some (.string x.c)∧w'.cell? ⟨b,off + k * 5 + 4,none⟩=some (.string x.d)∧af wo w')
     (first | assumption | exact JO (by assumption) hbx | exact ⟨s0,s1,s2,s3,s4,y0,y1,y2,y3,y4,hbp.drew⟩)
     (first | (go_at_call 130; refine (HC.out _).mono ?_; rintro e w' ⟨rfl,hbx⟩))
    rename_i hJ;have HJB:=aC hJ.2.2.2.2.2.2.2.2.2.2;have WF:Hid (wr.heap.size≤w'.heap.size):=by show _≤_; exact SF (by first | exact Sy _ | simp) hbx.size
    clear hJ s0 s1 s2 s3 s4 y0 y1 y2 y3 y4 hd;go_wp2;go_roundw;case rel=>exact ⟨p + 1,by omega,by go_num,Wt,HJB⟩
    simp [intOf] <;> omega
   have HPT:Hid (qN oq x acc=acc.take p ++ x::acc.drop p):=Es (by rw [TL.out]; exact hp) HU.out (fun _=>by rw [HYE.out]; exact hq);rw [hq] at HC;clear hq;go_wp2_with fail
   go_region_held3 (fun w'=>w'.cell? ⟨g,p * 5,none⟩=some (.string y.a)∧w'.cell? ⟨g,p * 5 + 1,none⟩=some (.string y.b)∧w'.cell? ⟨g,p * 5 + 2,none⟩=some (.string y.r)∧w'.cell? ⟨g,p * 5 + 3,none⟩=some (.string y.c)∧w'.cell? ⟨g,p * 5 + 4,none⟩=some (.string y.d)∧w'.cell? ⟨b,off + k * 5,none⟩=some (.string x.a)∧w'.cell? ⟨b,off + k * 5 + 1,none⟩=some (.string x.b)∧w'.cell? ⟨b,off + k * 5 + 2,none⟩=some (.string x.r)∧w'.cell? ⟨b,off + k * 5 + 3,none⟩=some (.string x.c)∧w'.cell? ⟨b,off + k * 5 + 4,none⟩=some (.string x.d)∧af wo w')
    (first | assumption | exact JO (by assumption) hbx | exact ⟨s0,s1,s2,s3,s4,y0,y1,y2,y3,y4,hbp.drew⟩)
    (first | (go_at_call 130; refine (HC.out _).mono ?_; rintro e w' ⟨rfl,hbx⟩))
   rename_i hJ;have HJB:=aC hJ.2.2.2.2.2.2.2.2.2.2;have WF:Hid (wr.heap.size≤w'.heap.size):=by show _≤_; exact SF (by first | exact Sy _ | simp) hbx.size
   obtain ⟨X,hX⟩:∃ X,w'=X:=⟨_,rfl⟩;subst hX;have Uh:=az HJB;have HSX:Hid (wr.heap.size≤w'.heap.size):=by show _≤_; exact WF.out
   clear hJ s0 s1 s2 s3 s4 hd HC HYE hbp HJB WF;clear y0 y1 y2 y3 y4 hbr HOP Z7 HBP HU;obtain ⟨W1,hW1⟩:∃ W1,W1=w'.alloc (.cells #[] 29):=⟨_,rfl⟩;have Uw:Hid (W1.ownsRow w'.heap.size 29 5 (.slice (some ⟨w'.heap.size,0,none⟩) 0 0) 0 []):=by
    show World.ownsRow _ _ _ _ _ _ _;rw [hW1];exact World.ownsRow_lit w' #[] 0 (Sy _) (by unfold maxLen; omega) (by simp)
   have HB1:=nA hW1;have Y5:Hid (af wo W1):=Uh.out.trans (HB1.out.mono Uh.out.size);have HR1:Hid (W1.ownsRow w.heap.size 29 5 (.slice (some ⟨g,0,none⟩) k c) k (aF acc)):=oo HO.out fun z hz=>Y5.out.block z (HO.out.lt z hz).2;have hz1:w'.heap.size≤W1.heap.size:=HB1.out.size;have hgX:g < w'.heap.size:=Sv (HO.out.lt g rfl).2 Uh.out.size;have hpc:p≤c:=by omega
   go_wp2_with (at_builtin; go_must (rw [← hW1]; clear hW1; refine wpList_append_own_at _ rfl _ _ 40 rfl w'.heap.size 29 iR (.agg #[.string ⟨#[]⟩,.string ⟨#[]⟩,.string ⟨#[]⟩,.string ⟨#[]⟩,.string ⟨#[]⟩]) 5 80 underlying40 UM.out.1 UM.out.2.1 UM.out.2.2.1 UM.out.2.2.2 rfl (by decide) _ 0 [] rfl Uw.out ⟨g,0,none⟩ p c (aF (acc.take p)) rfl (by rw [lF,Tg]; congr 1; have:=TL.out; omega) (AZ HR1.out p hp) (vD _) (by unfold maxLen; omega) (by omega) hz1 ?_));intro v2 w2 hown2 Ug _ _;have Tx:Hid (w2.ownsRow w'.heap.size 29 5 v2 p (aF (acc.take p))):=by
    show World.ownsRow _ _ _ _ _ _ _
    first | exact hown2 | (rw [Td,List.nil_append] at hown2; exact hown2) | simpa using hown2
   have HB2:Hid (af w' w2):=HB1.out.grown Ug HB1.out.size (fun z hz=>by simp [Value.ownBlock] at hz; omega);have hz2:w'.heap.size≤w2.heap.size:=HB2.out.size;have Ws:Hid (af w w2):=(HB.out.trans (Uh.out.mono HB.out.size)).trans (HB2.out.mono (SF HB.out.size Uh.out.size));obtain ⟨y0,y1,y2,y3,y4⟩:=UE.out.same (fun o=>Ws.out.cell (p:=⟨b,o,none⟩) Xy.out);have hbr:b < w2.heap.size:=Sv Xy.out Ws.out.size;obtain ⟨W3,hW3⟩:∃ W3,W3=w2.alloc (.cells #[.string x.a,.string x.b,.string x.r,.string x.c,.string x.d] 29):=⟨_,rfl⟩;have Ub:Hid (W3.ownsRow w'.heap.size 29 5 v2 p (aF (acc.take p))):=by show World.ownsRow _ _ _ _ _ _ _; rw [hW3]; exact Tx.out.alloc _
   have Vu:Hid (∀ j u,x.row[j]?=some u→W3.cell? ((⟨w2.heap.size,0,none⟩:Addr).add j)=some u):=by show ∀ j u,_; rw [hW3]; exact JB w2 x
   have HB3:Hid (af w' W3):=by show Below _ _ _; rw [hW3]; exact HB2.out.alloc HB2.out.size _
   have hz3:w'.heap.size≤W3.heap.size:=HB3.out.size;clear hown2 Ug Uw HB1 Y5 HR1 hz1;go_wp2_with (at_builtin; go_must (rw [← hW3]; clear hW3; refine wpList_append_own_at _ rfl _ _ 40 rfl w'.heap.size 29 iR (.agg #[.string ⟨#[]⟩,.string ⟨#[]⟩,.string ⟨#[]⟩,.string ⟨#[]⟩,.string ⟨#[]⟩]) 5 80 underlying40 UM.out.1 UM.out.2.1 UM.out.2.2.1 UM.out.2.2.2 rfl (by decide) v2 p (aF (acc.take p)) rfl Ub.out ⟨w2.heap.size,0,none⟩ 1 1 x.row rfl rfl Vu.out (by simp [Fc.row,Value.oneCell']) (by unfold maxLen; omega) (by omega) hz3 ?_));intro v4 w4 Uo U1 _ _;have TI:=az Uo;have U7:Hid (af w' w4):=HB3.out.grown U1 HB3.out.size (fun z hz=>(Tx.out.lt z hz).1);have Ww:w'.heap.size≤w4.heap.size:=U7.out.size;have HBO4:Hid (af wo w4):=Uh.out.trans (U7.out.mono Uh.out.size);have HR4:Hid (w4.ownsRow w.heap.size 29 5 (.slice (some ⟨g,0,none⟩) k c) k (aF acc)):=oo HO.out fun z hz=>HBO4.out.block z (HO.out.lt z hz).2;clear Uo U1 Ub Tx Vu HB3 hz3 HB2 hz2 Ws y0 y1 y2 y3 y4 hbr;go_wp2_with (at_builtin; go_must (refine wpList_append_own_at _ rfl _ _ 40 rfl w'.heap.size 29 iR (.agg #[.string ⟨#[]⟩,.string ⟨#[]⟩,.string ⟨#[]⟩,.string ⟨#[]⟩,.string ⟨#[]⟩]) 5 80 underlying40 UM.out.1 UM.out.2.1 UM.out.2.2.1 UM.out.2.2.2 rfl (by decide) v4 (p + 1) (aF (acc.take p) ++ x.row) rfl TI.out ⟨g,p * 5,none⟩ (k - p) (c - p) (aF (acc.drop p)) rfl (by rw [lF,List.length_drop]; have:=TL.out; congr 1; omega) (Jc HR4.out p hp) (vD _) (by unfold maxLen; omega) (by omega) Ww ?_));intro v5 w5 hown5 hgr5 _ _;have Xq:p + 1 + (k - p)=k + 1:=by omega
   have Vk:Hid (af w' w5):=U7.out.grown hgr5 U7.out.size (fun z hz=>(TI.out.lt z hz).1);have hown6:w5.ownsRow w'.heap.size 29 5 v5 (k + 1) (aF (kL oq (rows.take (k + 1)))):=by
    rw [HNX.out,HPT.out,aF,List.flatMap_append,List.flatMap_cons,← Xq];exact hown5
   obtain ⟨ad5,c5,rfl⟩:=AY hown6;obtain ⟨g5,rfl,-⟩:=Dg hown6 (Nat.succ_ne_zero _);have Uq:=aC (jZ hown6 (SF HB.out.size Uh.out.size));have V4:Hid (af w w5):=(HB.out.trans (Uh.out.mono HB.out.size)).trans (Vk.out.mono (SF HB.out.size Uh.out.size));clear hown5 hown6 hgr5 Xq;go_wp2;go_roundw;case rel=>exact ⟨k + 1,g5,c5,by omega,by go_num,by first | rfl | simp,Uq,V4⟩
   simp [intOf] <;> omega
  have hd:decide ((p:Int) < (k:Int))=false:=by simp; omega
  have hpe:¬ (p:Int) < (k:Int):=by omega
  have HPT:Hid (qN oq x acc=acc.take p ++ x::acc.drop p):=Es (by rw [TL.out]; exact hp) HU.out (fun h=>absurd (by rw [TL.out] at h; exact h) hpk);go_wp2_with fail;go_quiet (fail);clear hd hpe;obtain ⟨X,hX⟩:∃ X,wr.drewN nq=X:=⟨_,rfl⟩;have Uh:Hid (af wo X):=by show Below _ _ _; rw [← hX]; exact below_drewN HBP.out _
  have HSX:Hid (wr.heap.size≤X.heap.size):=by show _≤_; rw [← hX]; exact Sy _
  rw [hX];clear hX y0 y1 y2 y3 y4 hbr HOP Z7 HBP HU;obtain ⟨W1,hW1⟩:∃ W1,W1=X.alloc (.cells #[] 29):=⟨_,rfl⟩;have Uw:Hid (W1.ownsRow X.heap.size 29 5 (.slice (some ⟨X.heap.size,0,none⟩) 0 0) 0 []):=by
   show World.ownsRow _ _ _ _ _ _ _;rw [hW1];exact World.ownsRow_lit X #[] 0 (Sy _) (by unfold maxLen; omega) (by simp)
  have HB1:=nA hW1;have Y5:Hid (af wo W1):=Uh.out.trans (HB1.out.mono Uh.out.size);have HR1:Hid (W1.ownsRow w.heap.size 29 5 (.slice (some ⟨g,0,none⟩) k c) k (aF acc)):=oo HO.out fun z hz=>Y5.out.block z (HO.out.lt z hz).2;have hz1:X.heap.size≤W1.heap.size:=HB1.out.size;have hgX:g < X.heap.size:=Sv (HO.out.lt g rfl).2 Uh.out.size;have hpc:p≤c:=by omega
  go_wp2_with (at_builtin; go_must (rw [← hW1]; clear hW1; refine wpList_append_own_at _ rfl _ _ 40 rfl X.heap.size 29 iR (.agg #[.string ⟨#[]⟩,.string ⟨#[]⟩,.string ⟨#[]⟩,.string ⟨#[]⟩,.string ⟨#[]⟩]) 5 80 underlying40 UM.out.1 UM.out.2.1 UM.out.2.2.1 UM.out.2.2.2 rfl (by decide) _ 0 [] rfl Uw.out ⟨g,0,none⟩ p c (aF (acc.take p)) rfl (by rw [lF,Tg]; congr 1; have:=TL.out; omega) (AZ HR1.out p hp) (vD _) (by unfold maxLen; omega) (by omega) hz1 ?_));intro v2 w2 hown2 Ug _ _;have Tx:Hid (w2.ownsRow X.heap.size 29 5 v2 p (aF (acc.take p))):=by
   show World.ownsRow _ _ _ _ _ _ _
   first | exact hown2 | (rw [Td,List.nil_append] at hown2; exact hown2) | simpa using hown2
  have HB2:Hid (af X w2):=HB1.out.grown Ug HB1.out.size (fun z hz=>by simp [Value.ownBlock] at hz; omega);have hz2:X.heap.size≤w2.heap.size:=HB2.out.size;have Ws:Hid (af w w2):=(HB.out.trans (Uh.out.mono HB.out.size)).trans (HB2.out.mono (SF HB.out.size Uh.out.size));obtain ⟨y0,y1,y2,y3,y4⟩:=UE.out.same (fun o=>Ws.out.cell (p:=⟨b,o,none⟩) Xy.out);have hbr:b < w2.heap.size:=Sv Xy.out Ws.out.size;obtain ⟨W3,hW3⟩:∃ W3,W3=w2.alloc (.cells #[.string x.a,.string x.b,.string x.r,.string x.c,.string x.d] 29):=⟨_,rfl⟩;have Ub:Hid (W3.ownsRow X.heap.size 29 5 v2 p (aF (acc.take p))):=by show World.ownsRow _ _ _ _ _ _ _; rw [hW3]; exact Tx.out.alloc _
  have Vu:Hid (∀ j u,x.row[j]?=some u→W3.cell? ((⟨w2.heap.size,0,none⟩:Addr).add j)=some u):=by show ∀ j u,_; rw [hW3]; exact JB w2 x
  have HB3:Hid (af X W3):=by show Below _ _ _; rw [hW3]; exact HB2.out.alloc HB2.out.size _
  have hz3:X.heap.size≤W3.heap.size:=HB3.out.size;clear hown2 Ug Uw HB1 Y5 HR1 hz1;go_wp2_with (at_builtin; go_must (rw [← hW3]; clear hW3; refine wpList_append_own_at _ rfl _ _ 40 rfl X.heap.size 29 iR (.agg #[.string ⟨#[]⟩,.string ⟨#[]⟩,.string ⟨#[]⟩,.string ⟨#[]⟩,.string ⟨#[]⟩]) 5 80 underlying40 UM.out.1 UM.out.2.1 UM.out.2.2.1 UM.out.2.2.2 rfl (by decide) v2 p (aF (acc.take p)) rfl Ub.out ⟨w2.heap.size,0,none⟩ 1 1 x.row rfl rfl Vu.out (by simp [Fc.row,Value.oneCell']) (by unfold maxLen; omega) (by omega) hz3 ?_));intro v4 w4 Uo U1 _ _;have TI:=az Uo;have U7:Hid (af X w4):=HB3.out.grown U1 HB3.out.size (fun z hz=>(Tx.out.lt z hz).1);have Ww:X.heap.size≤w4.heap.size:=U7.out.size;have HBO4:Hid (af wo w4):=Uh.out.trans (U7.out.mono Uh.out.size);have HR4:Hid (w4.ownsRow w.heap.size 29 5 (.slice (some ⟨g,0,none⟩) k c) k (aF acc)):=oo HO.out fun z hz=>HBO4.out.block z (HO.out.lt z hz).2;clear Uo U1 Ub Tx Vu HB3 hz3 HB2 hz2 Ws y0 y1 y2 y3 y4 hbr;obtain rfl:p=k:=by omega
  have Ya:Hid (acc.drop p=[]):=List.drop_of_length_le (by rw [TL.out]; exact Sy _);by_cases hce:c=p
  all_goals
   go_wp2_with (at_builtin; go_must (refine wpList_append_own_at _ rfl _ _ 40 rfl X.heap.size 29 iR (.agg #[.string ⟨#[]⟩,.string ⟨#[]⟩,.string ⟨#[]⟩,.string ⟨#[]⟩,.string ⟨#[]⟩]) 5 80 underlying40 UM.out.1 UM.out.2.1 UM.out.2.2.1 UM.out.2.2.2 rfl (by decide) v4 (p + 1) (aF (acc.take p) ++ x.row) rfl TI.out _ 0 _ (aF (acc.drop p)) rfl (by rw [Ya.out]; rfl) (Jd Ya.out) (vD _) (by unfold maxLen; omega) (by omega) Ww ?_));intro v5 w5 hown5 hgr5 _ _;have Xq:p + 1 + 0=p + 1:=rfl;have Vk:Hid (af X w5):=U7.out.grown hgr5 U7.out.size (fun z hz=>(TI.out.lt z hz).1);have hown6:w5.ownsRow X.heap.size 29 5 v5 (p + 1) (aF (kL oq (rows.take (p + 1)))):=by
    rw [HNX.out,HPT.out,aF,List.flatMap_append,List.flatMap_cons,← Xq];exact hown5
   obtain ⟨ad5,c5,rfl⟩:=AY hown6;obtain ⟨g5,rfl,-⟩:=Dg hown6 (Nat.succ_ne_zero _);have Uq:=aC (jZ hown6 (SF HB.out.size Uh.out.size));have V4:Hid (af w w5):=(HB.out.trans (Uh.out.mono HB.out.size)).trans (Vk.out.mono (SF HB.out.size Uh.out.size));clear hown5 hown6 hgr5 Xq;go_wp2;go_roundw;case rel=>exact ⟨p + 1,g5,c5,by omega,by go_num,by first | rfl | simp,Uq,V4⟩
   simp [intOf] <;> omega
 obtain rfl:k=rows.length:=by omega
 have HE:Hid (wr.ownsRow w.heap.size 29 5 (.slice (some ⟨g,0,none⟩) rows.length c) rows.length (aF (kL oq rows))):=by have h:=HO.out; rw [SS] at h; exact h
 go_wp2;go_ret;exact ⟨⟨_,rfl,HE.out⟩,HB.out⟩
set_option linter.unusedSectionVars false
def okF (x:Fc):Prop:=bF x.a x.b x.r x.c x.d ⟨#[]⟩=true
theorem Ql {a b:ByteArray} (h:a.toList=b.toList):a=b:=by
 rw [Go.ByteArray.toList_eq,Go.ByteArray.toList_eq] at h;cases a; cases b; congr; exact Array.toList_inj.1 h
theorem mZ {x y:Fc} (hx:okF x) (hy:okF y):oq x y=Op.bytesLess (Eu x) (Eu y):=by
 unfold okF at hx hy;unfold oq fM Eu;rw [hx,hy];rfl
theorem JP {x y:Fc} (hx:okF x) (hy:okF y) (h:Eu x=Eu y):x=y:=by
 obtain ⟨h1,h2,h3,h4,h5,-⟩:=xG hx hy (Ql h);cases x; cases y;simp only at h1 h2 h3 h4 h5;subst h1 h2 h3 h4 h5;rfl
theorem Sr {L:List Fc} (h:∀ x ∈ L,okF x):OrdO oq L where
 trans x hx y hy z hz h1 h2:=by
  rw [mZ (h x hx) (h y hy)] at h1;rw [mZ (h y hy) (h z hz)] at h2;rw [mZ (h x hx) (h z hz)];exact Ls.lt_trans _ _ _ h1 h2
 asymm x hx y hy h1:=by
  rw [mZ (h x hx) (h y hy)] at h1;rw [mZ (h y hy) (h x hx)];exact Ls.lt_asymm _ _ h1
 total x hx y hy hne:=by
  rw [mZ (h x hx) (h y hy),mZ (h y hy) (h x hx)];exact Ls.lt_total _ _ fun e=>hne (JP (h x hx) (h y hy) e)
theorem Qm {L L0:List Fc} (hp:L.Perm L0) (hn:L0.Nodup) (hok:∀ x ∈ L0,okF x) (hs:L.Pairwise (fun x y=>Op.bytesLess (Eu y) (Eu x)=false)):L=kL oq L0:=by
 refine (O6 (Sr hok) hn ?_ hp).symm;have hd:L.Nodup:=hp.nodup_iff.2 hn;refine (List.Pairwise.and hd hs).imp_of_mem fun {x y} hx hy h=>?_;have ox:=hok x (hp.mem_iff.1 hx);have oy:=hok y (hp.mem_iff.1 hy);rw [mZ ox oy];rcases Ls.lt_total (Eu x) (Eu y) (fun e=>h.1 (JP ox oy e)) with h1 | h1
 ·exact h1
 rw [h.2] at h1; cases h1
theorem Qn {ts:List Tp} (h:ed ts=true):∀ t ∈ ts,t.ok=true:=fun t ht=>by
 unfold ed at h;have h:=(Bool.and_eq_true_iff.1 h).2;unfold uL at h;rw [SQ] at h;obtain ⟨i,hi,rfl⟩:=List.mem_iff_getElem.1 ht;have h1:=h i (List.mem_range.2 hi);unfold vW at h1;rw [SH hi] at h1;exact (Bool.and_eq_true_iff.1 h1).1
theorem QG {ts:List Tp} (hf:∀ t ∈ ts,t.ok=true) {o:Al} (h:∃ t ∈ ts,o=⟨t.a,t.b⟩ ∨ o=⟨t.c,t.d⟩):eG o.t o.s=true:=by
 obtain ⟨t,ht,h⟩:=h;have h1:=hf t ht;unfold Tp.ok bF at h1;simp only [SB] at h1;rcases h with rfl | rfl
 ·exact h1.1.1.1
 exact h1.1.2
theorem Qo {rs:List TR} (hs:bz (ah rs)=true) {k:ByteArray × ByteArray} (hk:k ∈ au (ah rs)):aQ k.2=true:=by
 unfold au at hk;obtain ⟨T,hT,hk⟩:=SY.1 hk;unfold jL at hk;obtain ⟨r,hr,rfl⟩:=SK.1 hk;exact (Iw hs hT hr).1
section
variable [DecidableEq Fc]
theorem A9 {st:ByteArray × ByteArray→Int} {rs:List TR} {ts:List Tp} {x:Fc} (hx:x ∈ dB st rs ts):∃ o ∈ gQ ts,∃ k ∈ au (ah rs),∃ u ∈ dP ts,x=⟨o.t,o.s,k.2,u.t,u.s⟩:=by
 cases hr:bR (jH rs) rs ts;case false=>rw [lI hr] at hx; cases hx
 rw [mq hr] at hx;have h1:=(mo st rs ts (gQ ts) (dP ts) _).sub x hx;unfold Eg at h1;obtain ⟨o,ho,h1⟩:=SY.1 h1;obtain ⟨k,hk,h1⟩:=SY.1 h1;unfold jG at h1;obtain ⟨u,hu,rfl⟩:=SK.1 h1;exact ⟨o,ho,k,hk,u,hu,rfl⟩
theorem Gp {st:ByteArray × ByteArray→Int} {rs:List TR} {ts:List Tp}:(dB st rs ts).Nodup:=by
 cases hr:bR (jH rs) rs ts;case false=>rw [lI hr]; exact List.nodup_nil
 rw [mq hr]; exact (mo st rs ts (gQ ts) (dP ts) _).once
theorem Ma {st:ByteArray × ByteArray→Int} {rs:List TR} {ts:List Tp}:∀ x ∈ dB st rs ts,okF x:=fun x hx=>by
 cases hr:bR (jH rs) rs ts;case false=>rw [lI hr] at hx; cases hx
 obtain ⟨o,ho,k,hk,u,hu,rfl⟩:=A9 hx;unfold bR at hr;simp only [SB] at hr;have hts:=Qn hr.1.2;have ho1:eG o.t o.s=true:=by
  rcases AV ts [] o ho with h | h
  ·cases h
  exact QG hts h
 have hu1:eG u.t u.s=true:=by
  rcases AX ts [] u hu with h | h
  ·cases h
  exact QG hts h
 have hn:=Qo (cz.1 hr.1.1).1 hk;show bF o.t o.s k.2 u.t u.s ⟨#[]⟩=true;unfold bF;rw [ho1,hu1,hn];unfold uE;rw [Go.ByteArray.toList_eq];rfl
theorem xP {st:ByteArray × ByteArray→Int} {rs:List TR} {ts:List Tp} (hfr:∀ r ∈ rs,r.fits) (hft:∀ x ∈ ts,x.fits):∀ x ∈ dB st rs ts,x.fits:=fun x hx=>by
 obtain ⟨o,ho,k,hk,u,hu,rfl⟩:=A9 hx;have h1:=pg hft o ho;have h2:=mY hft u hu;exact ⟨h1.1,h1.2,wP hfr k hk,h2.1,h2.2⟩
def gy (st:ByteArray × ByteArray→Int) (rs:List TR) (ts:List Tp):List Fc:=kL oq (dB st rs ts)
theorem Ba (st:ByteArray × ByteArray→Int) (rs:List TR) (ts:List Tp):(gy st rs ts).length=(dB st rs ts).length:=(iy _).length_eq
theorem Bz {st:ByteArray × ByteArray→Int} {rs:List TR} {ts:List Tp} {w:ae} {e:Ending} {w':ae} (h:Df (dB st rs ts) w e w'):(∃ v,e=.returned v∧w'.ownsRow w.heap.size 29 5 v (gy st rs ts).length (aF (gy st rs ts)))∧af w w':=by
 obtain ⟨⟨L,v,he,hp,hs,hown⟩,hb⟩:=h;obtain rfl:=Qm hp Gp Ma hs;exact ⟨⟨v,he,hown⟩,hb⟩
end
section
variable [DecidableEq Fc]
end
theorem Dh (x y:Fc):wH x y=wH y x:=by rw [Bool.eq_iff_iff,uY,uY]; exact ⟨Eq.symm,Eq.symm⟩
theorem Mc {x y:List Fc} (h:x.Perm y) (f:Fc):cZ x f=cZ y f:=by rw [Bool.eq_iff_iff,gJ,gJ]; exact h.mem_iff
theorem Gq (ad:Option Addr) (cap:Nat) (ts:List Fc) (t:Fc) (w:ae) (hlen:ts.length≤1048576) (hs:wK w ad ts) :
  Calls prog 76 #[.slice ad ts.length cap,.agg #[.string t.a,.string t.b,.string t.r,.string t.c,.string t.d]] w fun e w'=>(∃ r:Int,e=.returned (.int .i64 r)∧decide (0≤r)=cZ ts t)∧af w w':=by
 have HS:=aC hs;clear hs;obtain ⟨W0,hW0⟩:∃ W0,W0=w.alloc (.cells #[.string t.a,.string t.b,.string t.r,.string t.c,.string t.d] 29):=⟨_,rfl⟩;have HB0:=nA hW0;have HX0:Hid (wN W0 w.heap.size t):=by show wN _ _ _; rw [hW0]; exact World.alloc_heap_new w _
 go_enter func76,ntmps76;go_wp2_with fail;rw [← hW0];clear hW0;go_loopw [8] (fun i wr=>∃ k:Nat,k≤ts.length∧i=.int .i64 k∧Hid (cZ (ts.drop k) t=cZ ts t)∧Hid (af W0 wr)) (fun i _=>ts.length - (intOf i).toNat);case atStart=>exact ⟨0,SC _,rfl,rfl,Sz _ _⟩
 obtain ⟨k,hk,rfl,HP,HB⟩:=hrel;have TB:Hid (af w wr):=HB0.out.trans (HB.out.mono HB0.out.size);by_cases hlt:k < ts.length
 ·obtain ⟨b,off,TC,⟨t0,t1,t2,t3,t4⟩,hb⟩:=wK.at0 (HS.out.below TB.out) hlt;obtain ⟨x0,x1,x2,x3,x4,xl⟩:=(HX0.out.bel HB.out).c;have hk1:=bq k;have hk2:(k:Int) < (ts.length:Int):=by omega
  have HD:Hid (cZ ts t=(wH ts[k] t || cZ (ts.drop (k + 1)) t)):=by show _=_; rw [← HP.out]; exact CS hlt
  subst TC;cases hq:wH ts[k] t;case true=>
   have heq:=Ea t ts[k] (v:=true) (by rw [Dh]; exact hq);have HN:Hid (cZ ts t=true):=by show _=_; rw [HD.out,hq]; rfl
   clear hq;go_wp2_with fail;go_quiet (fail);clear t0 t1 t2 t3 t4 x0 x1 x2 x3 x4 heq;go_wp2;go_ret;exact ⟨⟨k,rfl,by rw [HN.out]; simp⟩,below_drewN TB.out _⟩
  have heq:=Ea t ts[k] (v:=false) (by rw [Dh]; exact hq);have TG:Hid (cZ (ts.drop (k + 1)) t=cZ ts t):=by show _=_; rw [HD.out,hq]; rfl
  clear hq;go_wp2_with fail;go_quiet (fail);clear t0 t1 t2 t3 t4 x0 x1 x2 x3 x4 heq;go_wp2;go_roundw;case rel=>exact ⟨k + 1,by omega,by go_num,TG,below_drewN HB.out _⟩
  simp [intOf] <;> omega
 have HN:Hid (cZ ts t=false):=by show _=_; rw [← HP.out,List.drop_of_length_le (by omega)]; rfl
 go_wp2;go_ret;exact ⟨⟨-1,rfl,by rw [HN.out]; simp⟩,TB.out⟩
theorem Bb (ad:Option Addr) (cap:Nat) (ts:List Fc) (t:Fc) (w:ae) (hlen:ts.length≤1048576) (hs:wK w ad ts) :
  Calls prog 51 #[.slice ad ts.length cap,.agg #[.string t.a,.string t.b,.string t.r,.string t.c,.string t.d]] w fun e w'=>e=.returned (.bool (cZ ts t))∧af w w':=by
 obtain ⟨W0,hW0⟩:∃ W0,W0=w.alloc (.cells #[.string t.a,.string t.b,.string t.r,.string t.c,.string t.d] 29):=⟨_,rfl⟩;have HB0:=nA hW0;have HC:=aC (Gq ad cap ts t W0 hlen (hs.below HB0.out));clear hs;go_enter func51,ntmps51;go_wp2_with fail;rw [← hW0];clear hW0;refine HC.out.mono ?_;rintro e w' ⟨⟨r,rfl,hr⟩,hbx⟩;have HR:=aC hr;have Uh:=aC (HB0.out.trans (hbx.mono HB0.out.size));clear hr hbx;go_wp2;go_ret;exact ⟨by rw [← HR.out]; rfl,Uh.out⟩
section
variable [DecidableEq Fc]
theorem sF (st:ByteArray × ByteArray→Int) (ad:Option Addr) (cap:Nat) (rs:List TR) (TH:Option Addr) (cap':Nat) (ts:List Tp) (f:Fc) (w:ae) (hlen:rs.length≤1048576) (hs:mD w ad rs) (hl:∀ r ∈ rs,r.light) (hfr:∀ r ∈ rs,r.fits) (hcp:∀ r ∈ rs,r.caps) (hlt:ts.length≤1048576) (hst:Sl w TH ts) (hft:∀ x ∈ ts,x.fits) (hle:bn (ah rs)=true→Least (ah rs) st) :
  Calls prog 11 #[.slice ad rs.length cap,.slice TH ts.length cap',.agg #[.string f.a,.string f.b,.string f.r,.string f.c,.string f.d]] w fun e w'=>e=.returned (.bool (cZ (dB st rs ts) f))∧af w w':=by
 obtain ⟨W0,hW0⟩:∃ W0,W0=w.alloc (.cells #[.string f.a,.string f.b,.string f.r,.string f.c,.string f.d] 29):=⟨_,rfl⟩;have HB0:af w W0:=by rw [hW0]; exact (Sz _ _).alloc (Sy _) _
 have hbx:wN W0 w.heap.size f:=by rw [hW0]; exact World.alloc_heap_new w _
 obtain ⟨c0,c1,c2,c3,c4,cl⟩:=hbx.c;have UU:Hid (∀ W':World,(W'.cell? ⟨w.heap.size,0,none⟩=some (.string f.a)∧W'.cell? ⟨w.heap.size,1,none⟩=some (.string f.b)∧W'.cell? ⟨w.heap.size,2,none⟩=some (.string f.r)∧W'.cell? ⟨w.heap.size,3,none⟩=some (.string f.c)∧W'.cell? ⟨w.heap.size,4,none⟩=some (.string f.d)∧af w W')→Calls prog 14 #[.slice ad rs.length cap,.slice TH ts.length cap'] W' (Df (dB st rs ts) W')):=fun W' h=>sD st ad cap rs TH cap' ts W' hlen (hs.below h.2.2.2.2.2) hl hfr hcp hlt (hst.below h.2.2.2.2.2) hft hle;have Wz:=pq st (rs:=rs) (ts:=ts);clear hs hl hfr hcp hst hft hle hbx;go_enter func11,ntmps11;go_wp2_with fail;rw [← hW0];clear hW0
 go_region_held3 (fun w'=>w'.cell? ⟨w.heap.size,0,none⟩=some (.string f.a)∧w'.cell? ⟨w.heap.size,1,none⟩=some (.string f.b)∧w'.cell? ⟨w.heap.size,2,none⟩=some (.string f.r)∧w'.cell? ⟨w.heap.size,3,none⟩=some (.string f.c)∧w'.cell? ⟨w.heap.size,4,none⟩=some (.string f.d)∧af w w')
  (first | assumption | exact Rp (by assumption) hbx | exact ⟨c0,c1,c2,c3,c4,HB0.drew⟩)
  (first | (go_at_call 14; refine (UU.out _ (by assumption)).mono ?_; rintro e w' ⟨⟨L,v,rfl,hp,-,hown⟩,hbx⟩; obtain ⟨XY,VK,rfl,hsl⟩:=kJ hown; have Zm:Hid (L.length≤1048576):=(by show _≤_; rw [hp.length_eq]; exact SF Wz (by decide))) | (go_at_call 51; refine (Bb XY VK L f _ Zm.out (by first | exact hsl | exact hsl.below (Sz _ _))).mono ?_; rintro e w'' ⟨rfl,hbx⟩))
 rename_i hJ;have HG:=aC hJ.2.2.2.2.2;have HE:=aC (Mc hp f);clear hJ hown hsl hp c0 c1 c2 c3 c4;go_wp2;go_ret;exact ⟨by rw [HE.out]; rfl,HG.out⟩
end
section
variable [DecidableEq Fc]
theorem sG (st:ByteArray × ByteArray→Int) (ad:Option Addr) (cap:Nat) (rs:List TR) (TH:Option Addr) (cap':Nat) (ts:List Tp) (w:ae) (hlen:rs.length≤1048576) (hs:mD w ad rs) (hl:∀ r ∈ rs,r.light) (hfr:∀ r ∈ rs,r.fits) (hlt:ts.length≤1048576) (hst:Sl w TH ts) (hft:∀ x ∈ ts,x.fits) (hle:bn (ah rs)=true→Least (ah rs) st) :
  Calls prog 47 #[.slice ad rs.length cap,.slice TH ts.length cap'] w fun e w'=>(∃ v,e=.returned v∧w'.ownsRow w.heap.size 29 5 v (gy st rs ts).length (aF (gy st rs ts)))∧af w w':=by
 have Wz:=pq st (rs:=rs) (ts:=ts);have HFQ:=aC (xP (st:=st) hfr hft);have HRC:=aC (Gl ad cap rs TH cap' ts w hlen hs hl hfr hlt hst hft);have HAC:Hid (bR (jH rs) rs ts=true→∀ W':World,af w W'→Calls prog 57 #[.slice ad rs.length cap,.slice TH ts.length cap'] W' fun e w'=>(∃ v,e=.returned v∧w'.ownsRow W'.heap.size 29 5 v (dB st rs ts).length (aF (dB st rs ts)))∧af W' w'):=fun hr W' hb=>by
  have hsd:bn (ah rs)=true∧ts.length≤40:=by
   unfold bR ed at hr;simp only [SB,SN] at hr;exact ⟨hr.1.1,hr.1.2.1⟩
  have:=LW st ad cap rs TH cap' ts W' (cz.1 hsd.1) (hle hsd.1) (hs.below hb) hl hsd.2 (hst.below hb);rw [← mq hr] at this;exact this
 clear hs hl hfr hst hft hle;go_enter func47,ntmps47;go_wp2_with fail;refine HRC.out.mono ?_;rintro e w1 ⟨rfl,hb1⟩;have HB1:=aC hb1;clear hb1 HRC;cases hr:bR (jH rs) rs ts;case false=>
  have HN:Hid (gy st rs ts=[]):=by show _=_; unfold gy; rw [lI hr]; rfl
  clear hr HAC;obtain ⟨W2,hW2⟩:∃ W2,W2=w1.alloc (.cells #[] 29):=⟨_,rfl⟩;have Tx:Hid (W2.ownsRow w.heap.size 29 5 (.slice (some ⟨w1.heap.size,0,none⟩) 0 0) 0 []):=by
   show World.ownsRow _ _ _ _ _ _ _;rw [hW2];exact World.ownsRow_lit w1 #[] 0 HB1.out.size (by unfold maxLen; omega) (by simp)
  have HB2:Hid (af w W2):=by show Below _ _ _; rw [hW2]; exact HB1.out.alloc HB1.out.size _
  go_wp2;rw [← hW2];go_ret;exact ⟨⟨_,rfl,by rw [HN.out]; exact Tx.out⟩,HB2.out⟩
 have HA:=aC (HAC.out hr);clear HAC hr;obtain ⟨L,hL⟩:∃ L,dB st rs ts=L:=⟨_,rfl⟩;have VM:Hid (gy st rs ts=kL oq L):=by show _=_; unfold gy; rw [hL]
 rw [hL] at HA HFQ Wz;clear hL;go_wp2_with fail;refine (HA.out _ HB1.out).mono ?_;rintro e w2 ⟨⟨v,rfl,hown⟩,hb2⟩;obtain ⟨XY,VK,rfl,hsl⟩:=kJ hown;have VI:=aC hsl;have HB2:=jI HB1 hb2;clear hown hsl hb2 HB1 HA;have Zm:Hid (L.length≤1048576):=SF Wz (by decide);clear Wz;go_wp2_with fail;refine (Jf XY VK L _ Zm.out VI.out HFQ.out).mono ?_;rintro e w3 ⟨⟨v,rfl,hown⟩,hb3⟩;have HB3:=jI HB2 hb3;have Ub:Hid (w3.ownsRow w.heap.size 29 5 v (gy st rs ts).length (aF (gy st rs ts))):=by
  show World.ownsRow _ _ _ _ _ _ _;rw [VM.out,(iy L).length_eq];exact jZ hown HB2.out.size
 clear hown hb3;go_wp2;go_ret;exact ⟨⟨v,rfl,Ub.out⟩,HB3.out⟩
end
theorem Rs {P:Nat→Prop} (h:∃ n,P n):∃ n,P n∧∀ m,P m→n≤m:=by
 obtain ⟨n,hn⟩:=h
 induction n using Nat.strongRecOn with
 | ind n ih =>
  by_cases hx:∃ m,m < n∧P m
  ·obtain ⟨m,hm,hp⟩:=hx;exact ih m hm hp
  exact ⟨n,hn,fun m hm=>Nat.le_of_not_lt fun hlt=>hx ⟨m,hlt,hm⟩⟩
theorem O7 {ts:List Ty} (h:∃ f,Sol ts f):∃ f,Least ts f:=by
 have key:∀ k,∃ n:Nat,(∃ g,Sol ts g∧g k=(n:Int))∧∀ m:Nat,(∃ g,Sol ts g∧g k=(m:Int))→n≤m:=fun k=>Rs (by
  obtain ⟨f,hf⟩:=h;exact ⟨(f k).toNat,f,hf,by have:=hf.pos k; omega⟩)
 have low:∀ k g,Sol ts g→(((key k).choose:Nat):Int)≤g k:=fun k g hg=>by
  have h1:=(key k).choose_spec.2 (g k).toNat ⟨g,hg,by have:=hg.pos k; omega⟩;have:=hg.pos k;omega
 refine ⟨fun k=>(((key k).choose:Nat):Int),⟨fun k=>Int.natCast_nonneg _,fun k hk d hd=>?_⟩,fun k hk g hg=>low k g hg⟩;obtain ⟨g,hg,e⟩:=(key k).choose_spec.1;have h1:=low (d.typ,d.rel) g hg;have h2:=hg.up k hk d hd;show (((key (d.typ,d.rel)).choose:Nat):Int) + stepOf d≤(((key k).choose:Nat):Int);rw [← e];exact Int.le_trans (Int.add_le_add_right h1 _) h2
theorem QH (ts:List Ty):∃ st,bn ts=true→Least ts st:=by
 by_cases h:bn ts=true
 ·obtain ⟨st,hst⟩:=O7 (cz.1 h).2.2;exact ⟨st,fun _=>hst⟩
 exact ⟨fun _=>0,fun h2=>absurd h2 h⟩
theorem Rt {P:Program} {ops:Array Oper} {Q:Exit→Act→World→Prop} {md:Region.Mode} {S:World→Prop} {i:Nat} {oi:Oper} {v:Value} {fuel:Nat} {listed:Array Bool} {a:Act} {w:ae} (d:Nat) (hi:ops[i]?=some oi) (hd:oi.dst=some d)
  (hs:Region.noSelect ops=true) (hf:Region.free md ops listed i=true) (hr:(Region.ready md ops listed).contains i=true)
  (hQ:∀ c a w,Q (.panic c) (a.put oi.dst v) w→Q (.panic c) a w) (hy:YieldsIf P ops S oi v a) (hS:S w)
  (h:wpAnyH P md ops Q S fuel (listed.setIfInBounds i true) (a.put (some d) v) w):wpAnyH P md ops Q S (fuel + 1) listed a w :=
 wpAnyH_take hi hs hf hr hQ hy hS (by rw [hd]; exact h)
theorem tk {P:Program} {ops:Array Oper} {Q:Exit→Act→World→Prop} {md:Region.Mode} {S:World→Prop} {oi:Oper} {v:Value} {fuel:Nat} {listed:Array Bool} {a:Act} {w:ae} (i d:Nat)
  (h:wpAnyH P md ops Q S fuel (listed.setIfInBounds i true) (a.put (some d) v) w) (hi:ops[i]?=some oi:=by rfl) (hd:oi.dst=some d:=by rfl) (hs:Region.noSelect ops=true:=by kernel_rfl) (hf:Region.free md ops listed i=true:=by kernel_rfl) (hr:(Region.ready md ops listed).contains i=true:=by kernel_rfl)
  (hQ:∀ c a w,Q (.panic c) (a.put oi.dst v) w→Q (.panic c) a w:=by exact fun _ _ _ h=>h) (hy:YieldsIf P ops S oi v a:=by refine Or.inl ⟨by rfl,?_⟩; intro w hSw; (try dsimp only at hSw); go_simp <;> with_reducible rfl) (hS:S w:=by assumption):wpAnyH P md ops Q S (fuel + 1) listed a w :=
 Rt d hi hd hs hf hr hQ hy hS h
end Go.Proofs.YtajkkeikihhejaaGreat
