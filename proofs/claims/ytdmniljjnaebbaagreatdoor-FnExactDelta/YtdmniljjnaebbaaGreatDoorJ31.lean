/- Rows of facts that are owned: what stays of them, and the cells of a beginning or an end of one. -/
import Derived.Test.YtdmniljjnaebbaaGreatDoorSq
import Derived.Test.YtdmniljjnaebbaaGreatDoorJ21
import Derived.OpenShut
import Derived.ShutString
import Derived.ChangeOld
import Derived.Lib.SmallJoins
import Derived.ChangeSlices
import Derived.Deep.Slices
open Go.Proofs.Tryz
set_option maxHeartbeats 80000000
namespace Go.Proofs.YtdmniljjnaebbaaGreatDoor
set_option maxRecDepth 100000
set_option linter.unusedVariables false
open Go.ChangeShapes Go.WideShapes Go.ChangeAt Go.RowKit Go.Maps
open Pl
theorem mR {w w':af} {base:Nat} {e:TypeId} {size:Nat} {v:Value} {n:Nat} {xs:List Value} (h:w.ownsRow base e size v n xs) (hh:∀ g,v.ownBlock=some g→w'.heap[g]?=w.heap[g]?):w'.ownsRow base e size v n xs:=by
 refine ⟨h.1,?_⟩;rcases h.2 with hl | ⟨g,cap,cur,rfl,h1,h2,h3⟩
 ·exact .inl hl
 exact .inr ⟨g,cap,cur,rfl,h1,(hh g rfl).trans h2,h3⟩
theorem zI {w:af} {base size n:Nat} {e:TypeId} {v:Value} {xs:List Value} (h:w.ownsRow base e size v n xs):∃ ad cap,v=.slice ad n cap:=by
 rcases h.2 with ⟨rfl,h0⟩ | ⟨g,cap,cur,rfl,-⟩
 ·exact ⟨none,0,by rw [h0]⟩
 exact ⟨_,_,rfl⟩
theorem uW {w:af} {base size n cap:Nat} {e:TypeId} {ad:Option Addr} {xs:List Value} (h:w.ownsRow base e size (.slice ad n cap) n xs) (hn:n ≠ 0):∃ g,ad=some ⟨g,0,none⟩∧(Value.slice ad n cap).ownBlock=some g:=by
 rcases h.2 with ⟨-,h0⟩ | ⟨g,cap',cur,e1,-⟩
 ·exact absurd h0 hn
 injection e1 with e1;exact ⟨g,e1,by rw [e1]; rfl⟩
theorem kD {w:af} {base base' size n:Nat} {e:TypeId} {v:Value} {xs:List Value} (h:w.ownsRow base e size v n xs) (hb:base'≤base):w.ownsRow base' e size v n xs:=by
 refine ⟨h.1,?_⟩;rcases h.2 with hl | ⟨g,cap,cur,e,h1,h2⟩
 ·exact .inl hl
 exact .inr ⟨g,cap,cur,e,Sq hb h1,h2⟩
theorem PM {w:af} {base size n cap:Nat} {e:TypeId} {ad:Option Addr} {xs:List Value} (h:w.ownsRow base e size (.slice ad n cap) n xs):n≤cap:=by
 rcases h.2 with ⟨e1,h0⟩ | ⟨g,cap',cur,e1,-,-,hnc,-⟩
 ·injection e1 with _ e2 e3; omega
 injection e1 with _ e2 e3; omega
theorem II (xs:List Fc):∀ p,av (xs.take p)=(av xs).take (p * 5):=by
 induction xs with
 | nil=>intro p; simp [av]
 | cons x xs ih =>
  intro p;cases p with
  | zero=>simp [av]
  | succ p =>
   have ih:=ih p;unfold av at ih ⊢;rw [List.take_succ_cons,List.flatMap_cons,List.flatMap_cons,ih,show (p + 1) * 5=p * 5 + 1 + 1 + 1 + 1 + 1 by omega];simp [Fc.row]
theorem IJ (xs:List Fc):∀ p,av (xs.drop p)=(av xs).drop (p * 5):=by
 induction xs with
 | nil=>intro p; simp [av]
 | cons x xs ih =>
  intro p;cases p with
  | zero=>simp [av]
  | succ p =>
   have ih:=ih p;unfold av at ih ⊢;rw [List.drop_succ_cons,List.flatMap_cons,ih,show (p + 1) * 5=p * 5 + 1 + 1 + 1 + 1 + 1 by omega];simp [Fc.row]
theorem zJ {w:af} {base g n cap:Nat} {xs:List Fc} (h:w.ownsRow base 63 5 (.slice (some ⟨g,0,none⟩) n cap) n (av xs)) (p:Nat) (hp:p≤n):∀ j u,(av (xs.take p))[j]?=some u→w.cell? ((⟨g,0,none⟩:Addr).add j)=some u:=fun j u hu=>by
 rw [II,List.getElem?_take] at hu;split at hu
 ·rename_i hj;have:=h.cellAt j (by omega);rw [hu] at this;have e:(⟨g,0,none⟩:Addr).add j=⟨g,j,none⟩:=by unfold Addr.add; split <;> simp_all
  rw [e]; exact this
 cases hu
theorem IK {w:af} {base g n cap:Nat} {xs:List Fc} (h:w.ownsRow base 63 5 (.slice (some ⟨g,0,none⟩) n cap) n (av xs)) (p:Nat) (hp:p≤n):∀ j u,(av (xs.drop p))[j]?=some u→w.cell? ((⟨g,p * 5,none⟩:Addr).add j)=some u:=fun j u hu=>by
 rw [IJ,List.getElem?_drop] at hu;have hl:=h.1;have hj:p * 5 + j < n * 5:=by
  rw [← hl]; exact (List.getElem?_eq_some_iff.1 hu).1
 have:=h.cellAt (p * 5 + j) hj;rw [hu] at this;have e:(⟨g,p * 5,none⟩:Addr).add j=⟨g,p * 5 + j,none⟩:=by unfold Addr.add; split <;> simp_all
 rw [e]; exact this
theorem tu (xs:List Fc):∀ u ∈ av xs,u.oneCell'=true:=fun u hu=>by
 obtain ⟨q,-,h⟩:=SB.1 hu;simp only [Fc.row,List.mem_cons,List.not_mem_nil,or_false] at h;rcases h with rfl | rfl | rfl | rfl | rfl <;> rfl
theorem IL {w:af} {a:Addr} {xs:List Fc} (h:xs=[]):∀ j u,(av xs)[j]?=some u→w.cell? (a.add j)=some u:=fun j u hu=>by
 rw [h] at hu; simp [av] at hu
def mU (x y:Fc):Bool:=eQ x.a x.b x.r x.c x.d ⟨#[]⟩ y.a y.b y.r y.c y.d ⟨#[]⟩
theorem Dv {w W w':af} {n m i0 i1 i2 i3 i4 j0 j1 j2 j3 j4:Nat} {x0 x1 x2 x3 x4 y0 y1 y2 y3 y4:Value} (h:W.cell? ⟨n,i0,none⟩=some x0∧W.cell? ⟨n,i1,none⟩=some x1∧W.cell? ⟨n,i2,none⟩=some x2∧W.cell? ⟨n,i3,none⟩=some x3∧W.cell? ⟨n,i4,none⟩=some x4∧W.cell? ⟨m,j0,none⟩=some y0∧W.cell? ⟨m,j1,none⟩=some y1∧W.cell? ⟨m,j2,none⟩=some y2∧W.cell? ⟨m,j3,none⟩=some y3∧W.cell? ⟨m,j4,none⟩=some y4∧aa w W) (hb:aa W w'):w'.cell? ⟨n,i0,none⟩=some x0∧w'.cell? ⟨n,i1,none⟩=some x1∧w'.cell? ⟨n,i2,none⟩=some x2∧w'.cell? ⟨n,i3,none⟩=some x3∧w'.cell? ⟨n,i4,none⟩=some x4∧w'.cell? ⟨m,j0,none⟩=some y0∧w'.cell? ⟨m,j1,none⟩=some y1∧w'.cell? ⟨m,j2,none⟩=some y2∧w'.cell? ⟨m,j3,none⟩=some y3∧w'.cell? ⟨m,j4,none⟩=some y4∧aa w w':=by
 obtain ⟨h0,h1,h2,h3,h4,k0,k1,k2,k3,k4,hB⟩:=h;exact ⟨aO hb (aC h0) h0,aO hb (aC h1) h1,aO hb (aC h2) h2,aO hb (aC h3) h3,aO hb (aC h4) h4,aO hb (aC k0) k0,aO hb (aC k1) k1,aO hb (aC k2) k2,aO hb (aC k3) k3,aO hb (aC k4) k4,hB.trans (hb.mono hB.size)⟩
theorem IM (ad:Option Addr) (cap:Nat) (rows:List Fc) (w:af) (hlen:rows.length≤1048576) (hs:jP w ad rows) (hfit:∀ x ∈ rows,x.fits) :
  Calls prog 52 #[.slice ad rows.length cap] w fun e w'=>(∃ v:Value,e=.returned v∧w'.ownsRow w.heap.size 63 5 v rows.length (av (jD mU rows)))∧aa w w':=by
 obtain ⟨iR,hiR,zR0,zR1,zR2⟩:=sI;have UE:Hid (prog.info? 63=some iR∧iR.zero=some (.agg #[.string ⟨#[]⟩,.string ⟨#[]⟩,.string ⟨#[]⟩,.string ⟨#[]⟩,.string ⟨#[]⟩])∧iR.size=5∧iR.bytes=80):=⟨hiR,zR0,zR1,zR2⟩;have HS:=aj hs;have Tv:=aj hfit;clear hs hfit hiR zR0 zR1 zR2;obtain ⟨W0,hW0⟩:∃ W0,W0=w.alloc (.cells #[] 63):=⟨_,rfl⟩;have HB0:=mY hW0;have XF:Hid (W0.ownsRow w.heap.size 63 5 (.slice (some ⟨w.heap.size,0,none⟩) 0 0) 0 []):=by
  show World.ownsRow _ _ _ _ _ _ _;rw [hW0];exact World.ownsRow_lit w #[] 0 (Sj _) (by unfold maxLen; omega) (by simp)
 go_enter func52,ntmps52;go_wp2_with fail;rw [← hW0];clear hW0;go_loopw [3,4] (fun v i wr=>∃ (k g c:Nat),k≤rows.length∧i=.int .i64 k∧v=.slice (some ⟨g,0,none⟩) k c∧Hid (wr.ownsRow w.heap.size 63 5 (.slice (some ⟨g,0,none⟩) k c) k (av (jD mU (rows.take k))))∧Hid (aa w wr)) (fun _ i _=>rows.length - (intOf i).toNat);case atStart=>exact ⟨0,w.heap.size,0,Sm _,rfl,rfl,XF,HB0⟩
 clear XF HB0;obtain ⟨k,g,c,hk,rfl,rfl,HO,HB⟩:=hrel;by_cases hlt:k < rows.length
 ·obtain ⟨acc,hacc⟩:∃ acc,acc=jD mU (rows.take k):=⟨_,rfl⟩;obtain ⟨b,off,Tq,hrow,hbl⟩:∃ b off,ad=some ⟨b,off,none⟩∧EJ w b (off + k * 5) rows[k]∧b < w.heap.size:=by
   rcases HS.out with h | ⟨b',off',e,hb,hr⟩
   ·rw [h] at hlt; simp at hlt
   exact ⟨b',off',e,hr k hlt,hb⟩
  obtain ⟨x,hx⟩:∃ x,rows[k]=x:=⟨_,rfl⟩;have Vn:Hid (jD mU (rows.take (k + 1))=oP mU x acc):=by show _=_; rw [Sk hlt,Gp,hacc,hx]
  have hal:acc.length=k:=by rw [hacc,(ik _).length_eq,SL]; omega
  have Vi:Hid x.fits:=by show Fc.fits x; rw [← hx]; exact Tv.out _ (Sd hlt)
  have HAF:Hid (∀ z ∈ acc,z.fits):=fun z hz=>by
   rw [hacc] at hz;exact Tv.out z (List.mem_of_mem_take ((ik _).mem_iff.1 hz))
  rw [← hacc] at HO;rw [hx] at hrow;have TB:=aj hal;have hkc:k≤c:=PM HO.out;have hk1:=bH k;have hk2:(k:Int) < (rows.length:Int):=by omega
  have Ur:=aj hrow;have Zg:=aj hbl;obtain ⟨wo,hwo⟩:∃ wo,wo=wr:=⟨_,rfl⟩;subst hwo;subst Tq;clear hacc hal hrow hbl hx;go_wp2_with fail;go_loopw [5] (fun i wr=>∃ p:Nat,p≤k∧i=.int .i64 p∧Hid (∀ (i:Nat) (h:i < acc.length),i < p→mU acc[i] x=true)∧Hid (aa wo wr)) (fun i _=>k - (intOf i).toNat);case atStart=>exact ⟨0,Sm _,rfl,fun i h hi=>absurd hi (SV _),Si _ _⟩
  obtain ⟨p,hp,rfl,HU,HBP⟩:=hrel;have HOP:Hid (wr.ownsRow w.heap.size 63 5 (.slice (some ⟨g,0,none⟩) k c) k (av acc)):=mR HO.out fun z hz=>HBP.out.block z (HO.out.lt z hz).2;have ZX:Hid (aa w wr):=HB.out.trans (HBP.out.mono HB.out.size);obtain ⟨y0,y1,y2,y3,y4⟩:=Ur.out.same (fun o=>ZX.out.cell (p:=⟨b,o,none⟩) Zg.out);have hbr:b < wr.heap.size:=Sg Zg.out ZX.out.size;have hgr:g < wr.heap.size:=(HOP.out.lt g rfl).2;have hp1:=bH p;by_cases hpk:p < k
  ·have hp2:(p:Int) < (k:Int):=by omega
   have hd:decide ((p:Int) < (k:Int))=true:=by simp; omega
   have hpa:p < acc.length:=by rw [TB.out]; exact hpk
   obtain ⟨y,hy⟩:∃ y,acc[p]=y:=⟨_,rfl⟩;have hc5:∀ c,c < 5→wr.cell? ⟨g,p * 5 + c,none⟩=y.row[c]?:=fun c hc=>by
    rw [HOP.out.cellAt (p * 5 + c) (by omega),pz acc p hpa c hc,hy]
   have s0:wr.cell? ⟨g,p * 5,none⟩=some (.string y.a):=hc5 0 (by omega);have s1:wr.cell? ⟨g,p * 5 + 1,none⟩=some (.string y.b):=hc5 1 (by omega);have s2:wr.cell? ⟨g,p * 5 + 2,none⟩=some (.string y.r):=hc5 2 (by omega);have s3:wr.cell? ⟨g,p * 5 + 3,none⟩=some (.string y.c):=hc5 3 (by omega);have s4:wr.cell? ⟨g,p * 5 + 4,none⟩=some (.string y.d):=hc5 4 (by omega);have hyf:y.fits:=by rw [← hy]; exact HAF.out _ (Sd hpa)
   have HC:Hid (∀ W':World,Calls prog 81 #[.agg #[.string y.a,.string y.b,.string y.r,.string y.c,.string y.d],.agg #[.string x.a,.string x.b,.string x.r,.string x.c,.string x.d]] W' fun e w'=>e=.returned (.bool (mU y x))∧aa W' w'):=fun W'=>sQ _ _ _ _ _ _ _ _ _ _ W' hyf.1 hyf.2.1 hyf.2.2.1 hyf.2.2.2.1 hyf.2.2.2.2 Vi.out.1 Vi.out.2.1 Vi.out.2.2.1 Vi.out.2.2.2.1 Vi.out.2.2.2.2;clear hc5 hyf;have HYE:=aj hy;clear hy;have hbp:=HBP.out;cases hq:mU y x;case true=>
    have Xo:Hid (∀ (i:Nat) (h:i < acc.length),i < p + 1→mU acc[i] x=true):=fun i h hi=>by
     by_cases e:i=p
     ·subst e; rw [HYE.out]; exact hq
     exact HU.out i h (by omega)
    rw [hq] at HC;clear hq;go_wp2_with fail
    go_region_held3 (fun w'=>w'.cell? ⟨g,p * 5,none⟩=some (.string y.a)∧w'.cell? ⟨g,p * 5 + 1,none⟩=some (.string y.b)∧w'.cell? ⟨g,p * 5 + 2,none⟩=some (.string y.r)∧w'.cell? ⟨g,p * 5 + 3,none⟩=some (.string y.c)∧w'.cell? ⟨g,p * 5 + 4,none⟩=some (.string y.d)∧w'.cell? ⟨b,off + k * 5,none⟩=some (.string x.a)∧w'.cell? ⟨b,off + k * 5 + 1,none⟩=some (.string x.b)∧w'.cell? ⟨b,off + k * 5 + 2,none⟩=some (.string x.r)∧w'.cell? ⟨b,off + k * 5 + 3,none⟩=some (.string x.c)∧w'.cell? ⟨b,off + k * 5 + 4,none⟩=some (.string x.d)∧aa wo w')
     (first | assumption | exact Dv (by assumption) hbx | exact ⟨s0,s1,s2,s3,s4,y0,y1,y2,y3,y4,hbp.drew⟩)
     (first | (go_at_call 81; refine (HC.out _).mono ?_; rintro e w' ⟨rfl,hbx⟩))
    rename_i hJ;have HJB:=aj hJ.2.2.2.2.2.2.2.2.2.2;have Wy:Hid (wr.heap.size≤w'.heap.size):=by show _≤_; exact Sq (by first | exact Sj _ | simp) hbx.size
    clear hJ s0 s1 s2 s3 s4 y0 y1 y2 y3 y4 hd;go_wp2;go_roundw;case rel=>exact ⟨p + 1,by omega,by go_num,Xo,HJB⟩
    simp [intOf] <;> omega
   have HPT:Hid (oP mU x acc=acc.take p ++ x::acc.drop p):=Ck (by rw [TB.out]; exact hp) HU.out (fun _=>by rw [HYE.out]; exact hq);rw [hq] at HC;clear hq;go_wp2_with fail
   go_region_held3 (fun w'=>w'.cell? ⟨g,p * 5,none⟩=some (.string y.a)∧w'.cell? ⟨g,p * 5 + 1,none⟩=some (.string y.b)∧w'.cell? ⟨g,p * 5 + 2,none⟩=some (.string y.r)∧w'.cell? ⟨g,p * 5 + 3,none⟩=some (.string y.c)∧w'.cell? ⟨g,p * 5 + 4,none⟩=some (.string y.d)∧w'.cell? ⟨b,off + k * 5,none⟩=some (.string x.a)∧w'.cell? ⟨b,off + k * 5 + 1,none⟩=some (.string x.b)∧w'.cell? ⟨b,off + k * 5 + 2,none⟩=some (.string x.r)∧w'.cell? ⟨b,off + k * 5 + 3,none⟩=some (.string x.c)∧w'.cell? ⟨b,off + k * 5 + 4,none⟩=some (.string x.d)∧aa wo w')
    (first | assumption | exact Dv (by assumption) hbx | exact ⟨s0,s1,s2,s3,s4,y0,y1,y2,y3,y4,hbp.drew⟩)
    (first | (go_at_call 81; refine (HC.out _).mono ?_; rintro e w' ⟨rfl,hbx⟩))
   rename_i hJ;have HJB:=aj hJ.2.2.2.2.2.2.2.2.2.2;have Wy:Hid (wr.heap.size≤w'.heap.size):=by show _≤_; exact Sq (by first | exact Sj _ | simp) hbx.size
   obtain ⟨X,hX⟩:∃ X,w'=X:=⟨_,rfl⟩;subst hX;have TH:=ay HJB;have HSX:Hid (wr.heap.size≤w'.heap.size):=by show _≤_; exact Wy.out
   clear hJ s0 s1 s2 s3 s4 hd HC HYE hbp HJB Wy;clear y0 y1 y2 y3 y4 hbr HOP ZX HBP HU;obtain ⟨W1,hW1⟩:∃ W1,W1=w'.alloc (.cells #[] 63):=⟨_,rfl⟩;have TG:Hid (W1.ownsRow w'.heap.size 63 5 (.slice (some ⟨w'.heap.size,0,none⟩) 0 0) 0 []):=by
    show World.ownsRow _ _ _ _ _ _ _;rw [hW1];exact World.ownsRow_lit w' #[] 0 (Sj _) (by unfold maxLen; omega) (by simp)
   have HB1:=mY hW1;have Y0:Hid (aa wo W1):=TH.out.trans (HB1.out.mono TH.out.size);have HR1:Hid (W1.ownsRow w.heap.size 63 5 (.slice (some ⟨g,0,none⟩) k c) k (av acc)):=mR HO.out fun z hz=>Y0.out.block z (HO.out.lt z hz).2;have hz1:w'.heap.size≤W1.heap.size:=HB1.out.size;have hgX:g < w'.heap.size:=Sg (HO.out.lt g rfl).2 TH.out.size;have hpc:p≤c:=by omega
   go_wp2_with (at_builtin; go_must (rw [← hW1]; clear hW1; refine wpList_append_own_at _ rfl _ _ 33 rfl w'.heap.size 63 iR (.agg #[.string ⟨#[]⟩,.string ⟨#[]⟩,.string ⟨#[]⟩,.string ⟨#[]⟩,.string ⟨#[]⟩]) 5 80 underlying33 UE.out.1 UE.out.2.1 UE.out.2.2.1 UE.out.2.2.2 rfl (by decide) _ 0 [] rfl TG.out ⟨g,0,none⟩ p c (av (acc.take p)) rfl (by rw [kr,SL]; congr 1; have:=TB.out; omega) (zJ HR1.out p hp) (tu _) (by unfold maxLen; omega) (by omega) hz1 ?_));intro v2 w2 hown2 TC _ _;have Tj:Hid (w2.ownsRow w'.heap.size 63 5 v2 p (av (acc.take p))):=by
    show World.ownsRow _ _ _ _ _ _ _
    first | exact hown2 | (rw [SG,List.nil_append] at hown2; exact hown2) | simpa using hown2
   have HB2:Hid (aa w' w2):=HB1.out.grown TC HB1.out.size (fun z hz=>by simp [Value.ownBlock] at hz; omega);have hz2:w'.heap.size≤w2.heap.size:=HB2.out.size;have VJ:Hid (aa w w2):=(HB.out.trans (TH.out.mono HB.out.size)).trans (HB2.out.mono (Sq HB.out.size TH.out.size));obtain ⟨y0,y1,y2,y3,y4⟩:=Ur.out.same (fun o=>VJ.out.cell (p:=⟨b,o,none⟩) Zg.out);have hbr:b < w2.heap.size:=Sg Zg.out VJ.out.size;obtain ⟨W3,hW3⟩:∃ W3,W3=w2.alloc (.cells #[.string x.a,.string x.b,.string x.r,.string x.c,.string x.d] 63):=⟨_,rfl⟩;have TD:Hid (W3.ownsRow w'.heap.size 63 5 v2 p (av (acc.take p))):=by show World.ownsRow _ _ _ _ _ _ _; rw [hW3]; exact Tj.out.alloc _
   have WG:Hid (∀ j u,x.row[j]?=some u→W3.cell? ((⟨w2.heap.size,0,none⟩:Addr).add j)=some u):=by show ∀ j u,_; rw [hW3]; exact BD w2 x
   have HB3:Hid (aa w' W3):=by show Below _ _ _; rw [hW3]; exact HB2.out.alloc HB2.out.size _
   have hz3:w'.heap.size≤W3.heap.size:=HB3.out.size;clear hown2 TC TG HB1 Y0 HR1 hz1;go_wp2_with (at_builtin; go_must (rw [← hW3]; clear hW3; refine wpList_append_own_at _ rfl _ _ 33 rfl w'.heap.size 63 iR (.agg #[.string ⟨#[]⟩,.string ⟨#[]⟩,.string ⟨#[]⟩,.string ⟨#[]⟩,.string ⟨#[]⟩]) 5 80 underlying33 UE.out.1 UE.out.2.1 UE.out.2.2.1 UE.out.2.2.2 rfl (by decide) v2 p (av (acc.take p)) rfl TD.out ⟨w2.heap.size,0,none⟩ 1 1 x.row rfl rfl WG.out (by simp [Fc.row,Value.oneCell']) (by unfold maxLen; omega) (by omega) hz3 ?_));intro v4 w4 TN Us _ _;have TJ:=ay TN;have TA:Hid (aa w' w4):=HB3.out.grown Us HB3.out.size (fun z hz=>(Tj.out.lt z hz).1);have Wx:w'.heap.size≤w4.heap.size:=TA.out.size;have HBO4:Hid (aa wo w4):=TH.out.trans (TA.out.mono TH.out.size);have HR4:Hid (w4.ownsRow w.heap.size 63 5 (.slice (some ⟨g,0,none⟩) k c) k (av acc)):=mR HO.out fun z hz=>HBO4.out.block z (HO.out.lt z hz).2;clear TN Us TD Tj WG HB3 hz3 HB2 hz2 VJ y0 y1 y2 y3 y4 hbr;go_wp2_with (at_builtin; go_must (refine wpList_append_own_at _ rfl _ _ 33 rfl w'.heap.size 63 iR (.agg #[.string ⟨#[]⟩,.string ⟨#[]⟩,.string ⟨#[]⟩,.string ⟨#[]⟩,.string ⟨#[]⟩]) 5 80 underlying33 UE.out.1 UE.out.2.1 UE.out.2.2.1 UE.out.2.2.2 rfl (by decide) v4 (p + 1) (av (acc.take p) ++ x.row) rfl TJ.out ⟨g,p * 5,none⟩ (k - p) (c - p) (av (acc.drop p)) rfl (by rw [kr,List.length_drop]; have:=TB.out; congr 1; omega) (IK HR4.out p hp) (tu _) (by unfold maxLen; omega) (by omega) Wx ?_));intro v5 w5 hown5 hgr5 _ _;have Yj:p + 1 + (k - p)=k + 1:=by omega
   have TI:Hid (aa w' w5):=TA.out.grown hgr5 TA.out.size (fun z hz=>(TJ.out.lt z hz).1);have hown6:w5.ownsRow w'.heap.size 63 5 v5 (k + 1) (av (jD mU (rows.take (k + 1)))):=by
    rw [Vn.out,HPT.out,av,List.flatMap_append,List.flatMap_cons,← Yj];exact hown5
   obtain ⟨VY,c5,rfl⟩:=zI hown6;obtain ⟨g5,rfl,-⟩:=uW hown6 (Nat.succ_ne_zero _);have Ub:=aj (kD hown6 (Sq HB.out.size TH.out.size));have TZ:Hid (aa w w5):=(HB.out.trans (TH.out.mono HB.out.size)).trans (TI.out.mono (Sq HB.out.size TH.out.size));clear hown5 hown6 hgr5 Yj;go_wp2;go_roundw;case rel=>exact ⟨k + 1,g5,c5,by omega,by go_num,by first | rfl | simp,Ub,TZ⟩
   simp [intOf] <;> omega
  have hd:decide ((p:Int) < (k:Int))=false:=by simp; omega
  have hpe:¬ (p:Int) < (k:Int):=by omega
  have HPT:Hid (oP mU x acc=acc.take p ++ x::acc.drop p):=Ck (by rw [TB.out]; exact hp) HU.out (fun h=>absurd (by rw [TB.out] at h; exact h) hpk);go_wp2_with fail;go_quiet (fail);clear hd hpe;obtain ⟨X,hX⟩:∃ X,wr.drewN nq=X:=⟨_,rfl⟩;have TH:Hid (aa wo X):=by show Below _ _ _; rw [← hX]; exact below_drewN HBP.out _
  have HSX:Hid (wr.heap.size≤X.heap.size):=by show _≤_; rw [← hX]; exact Sj _
  rw [hX];clear hX y0 y1 y2 y3 y4 hbr HOP ZX HBP HU;obtain ⟨W1,hW1⟩:∃ W1,W1=X.alloc (.cells #[] 63):=⟨_,rfl⟩;have TG:Hid (W1.ownsRow X.heap.size 63 5 (.slice (some ⟨X.heap.size,0,none⟩) 0 0) 0 []):=by
   show World.ownsRow _ _ _ _ _ _ _;rw [hW1];exact World.ownsRow_lit X #[] 0 (Sj _) (by unfold maxLen; omega) (by simp)
  have HB1:=mY hW1;have Y0:Hid (aa wo W1):=TH.out.trans (HB1.out.mono TH.out.size);have HR1:Hid (W1.ownsRow w.heap.size 63 5 (.slice (some ⟨g,0,none⟩) k c) k (av acc)):=mR HO.out fun z hz=>Y0.out.block z (HO.out.lt z hz).2;have hz1:X.heap.size≤W1.heap.size:=HB1.out.size;have hgX:g < X.heap.size:=Sg (HO.out.lt g rfl).2 TH.out.size;have hpc:p≤c:=by omega
  go_wp2_with (at_builtin; go_must (rw [← hW1]; clear hW1; refine wpList_append_own_at _ rfl _ _ 33 rfl X.heap.size 63 iR (.agg #[.string ⟨#[]⟩,.string ⟨#[]⟩,.string ⟨#[]⟩,.string ⟨#[]⟩,.string ⟨#[]⟩]) 5 80 underlying33 UE.out.1 UE.out.2.1 UE.out.2.2.1 UE.out.2.2.2 rfl (by decide) _ 0 [] rfl TG.out ⟨g,0,none⟩ p c (av (acc.take p)) rfl (by rw [kr,SL]; congr 1; have:=TB.out; omega) (zJ HR1.out p hp) (tu _) (by unfold maxLen; omega) (by omega) hz1 ?_));intro v2 w2 hown2 TC _ _;have Tj:Hid (w2.ownsRow X.heap.size 63 5 v2 p (av (acc.take p))):=by
   show World.ownsRow _ _ _ _ _ _ _
   first | exact hown2 | (rw [SG,List.nil_append] at hown2; exact hown2) | simpa using hown2
  have HB2:Hid (aa X w2):=HB1.out.grown TC HB1.out.size (fun z hz=>by simp [Value.ownBlock] at hz; omega);have hz2:X.heap.size≤w2.heap.size:=HB2.out.size;have VJ:Hid (aa w w2):=(HB.out.trans (TH.out.mono HB.out.size)).trans (HB2.out.mono (Sq HB.out.size TH.out.size));obtain ⟨y0,y1,y2,y3,y4⟩:=Ur.out.same (fun o=>VJ.out.cell (p:=⟨b,o,none⟩) Zg.out);have hbr:b < w2.heap.size:=Sg Zg.out VJ.out.size;obtain ⟨W3,hW3⟩:∃ W3,W3=w2.alloc (.cells #[.string x.a,.string x.b,.string x.r,.string x.c,.string x.d] 63):=⟨_,rfl⟩;have TD:Hid (W3.ownsRow X.heap.size 63 5 v2 p (av (acc.take p))):=by show World.ownsRow _ _ _ _ _ _ _; rw [hW3]; exact Tj.out.alloc _
  have WG:Hid (∀ j u,x.row[j]?=some u→W3.cell? ((⟨w2.heap.size,0,none⟩:Addr).add j)=some u):=by show ∀ j u,_; rw [hW3]; exact BD w2 x
  have HB3:Hid (aa X W3):=by show Below _ _ _; rw [hW3]; exact HB2.out.alloc HB2.out.size _
  have hz3:X.heap.size≤W3.heap.size:=HB3.out.size;clear hown2 TC TG HB1 Y0 HR1 hz1;go_wp2_with (at_builtin; go_must (rw [← hW3]; clear hW3; refine wpList_append_own_at _ rfl _ _ 33 rfl X.heap.size 63 iR (.agg #[.string ⟨#[]⟩,.string ⟨#[]⟩,.string ⟨#[]⟩,.string ⟨#[]⟩,.string ⟨#[]⟩]) 5 80 underlying33 UE.out.1 UE.out.2.1 UE.out.2.2.1 UE.out.2.2.2 rfl (by decide) v2 p (av (acc.take p)) rfl TD.out ⟨w2.heap.size,0,none⟩ 1 1 x.row rfl rfl WG.out (by simp [Fc.row,Value.oneCell']) (by unfold maxLen; omega) (by omega) hz3 ?_));intro v4 w4 TN Us _ _;have TJ:=ay TN;have TA:Hid (aa X w4):=HB3.out.grown Us HB3.out.size (fun z hz=>(Tj.out.lt z hz).1);have Wx:X.heap.size≤w4.heap.size:=TA.out.size;have HBO4:Hid (aa wo w4):=TH.out.trans (TA.out.mono TH.out.size);have HR4:Hid (w4.ownsRow w.heap.size 63 5 (.slice (some ⟨g,0,none⟩) k c) k (av acc)):=mR HO.out fun z hz=>HBO4.out.block z (HO.out.lt z hz).2;clear TN Us TD Tj WG HB3 hz3 HB2 hz2 VJ y0 y1 y2 y3 y4 hbr;obtain rfl:p=k:=by omega
  have XA:Hid (acc.drop p=[]):=List.drop_of_length_le (by rw [TB.out]; exact Sj _);by_cases hce:c=p
  all_goals
   go_wp2_with (at_builtin; go_must (refine wpList_append_own_at _ rfl _ _ 33 rfl X.heap.size 63 iR (.agg #[.string ⟨#[]⟩,.string ⟨#[]⟩,.string ⟨#[]⟩,.string ⟨#[]⟩,.string ⟨#[]⟩]) 5 80 underlying33 UE.out.1 UE.out.2.1 UE.out.2.2.1 UE.out.2.2.2 rfl (by decide) v4 (p + 1) (av (acc.take p) ++ x.row) rfl TJ.out _ 0 _ (av (acc.drop p)) rfl (by rw [XA.out]; rfl) (IL XA.out) (tu _) (by unfold maxLen; omega) (by omega) Wx ?_));intro v5 w5 hown5 hgr5 _ _;have Yj:p + 1 + 0=p + 1:=rfl;have TI:Hid (aa X w5):=TA.out.grown hgr5 TA.out.size (fun z hz=>(TJ.out.lt z hz).1);have hown6:w5.ownsRow X.heap.size 63 5 v5 (p + 1) (av (jD mU (rows.take (p + 1)))):=by
    rw [Vn.out,HPT.out,av,List.flatMap_append,List.flatMap_cons,← Yj];exact hown5
   obtain ⟨VY,c5,rfl⟩:=zI hown6;obtain ⟨g5,rfl,-⟩:=uW hown6 (Nat.succ_ne_zero _);have Ub:=aj (kD hown6 (Sq HB.out.size TH.out.size));have TZ:Hid (aa w w5):=(HB.out.trans (TH.out.mono HB.out.size)).trans (TI.out.mono (Sq HB.out.size TH.out.size));clear hown5 hown6 hgr5 Yj;go_wp2;go_roundw;case rel=>exact ⟨p + 1,g5,c5,by omega,by go_num,by first | rfl | simp,Ub,TZ⟩
   simp [intOf] <;> omega
 obtain rfl:k=rows.length:=by omega
 have HE:Hid (wr.ownsRow w.heap.size 63 5 (.slice (some ⟨g,0,none⟩) rows.length c) rows.length (av (jD mU rows))):=by have h:=HO.out; rw [Su] at h; exact h
 go_wp2;go_ret;exact ⟨⟨_,rfl,HE.out⟩,HB.out⟩
def LB (k:Nat) (xs:List Fc):List Fc:=(List.range xs.length).map fun i=>⟨aT (k + 5 * i),aT (k + 5 * i + 1),aT (k + 5 * i + 2),aT (k + 5 * i + 3),aT (k + 5 * i + 4)⟩
theorem Dw (k:Nat) (xs:List Fc):(LB k xs).length=xs.length:=by simp [LB]
theorem Oi (k:Nat) (xs:List Fc) (i:Nat) (h:i < (LB k xs).length):(LB k xs)[i]=⟨aT (k + 5 * i),aT (k + 5 * i + 1),aT (k + 5 * i + 2),aT (k + 5 * i + 3),aT (k + 5 * i + 4)⟩:=by simp [LB]
theorem JB {k:Nat} {xs:List Fc}:LB k xs=[] ↔ xs=[]:=by
 constructor
 ·intro h; have:=congrArg List.length h; rw [Dw] at this; exact SA.1 this
 rintro rfl; rfl
theorem jP.chg {S:Nat→Prop} {w w':af} {ad:Option Addr} {xs:List Fc} (h:jP w ad xs) (hc:Chg S w w') (hn:∀ g o,xs ≠ []→ad=some ⟨g,o,none⟩→¬ S g):jP w' ad xs:=by
 rcases h with h | ⟨b,off,e,hb,hr⟩
 ·exact .inl h
 by_cases hx:xs=[]
 ·exact .inl hx
 exact .inr ⟨b,off,e,Sg hb hc.size,fun i hi=>(hr i hi).same fun o=>hc.cell hb (hn b off hx e)⟩
set_option maxRecDepth 8000 in
theorem qF (ad:Option Addr) (cap:Nat) (xs:List Fc) (k:Nat) (w:af) (hs:jP w ad xs) (hg:xs ≠ []→∃ g,ad=some ⟨g,0,none⟩∧dD w g) (h0:0 < k) (h1:k + 5 * xs.length≤1000000000) :
  Calls prog 18 #[.slice ad xs.length cap,.int .i64 (k:Int)] w fun e w'=>e=.returned (.int .i64 ((k + 5 * xs.length:Nat):Int))∧jP w' ad (LB k xs)∧Chg (fun g=>xs ≠ []∧ad=some ⟨g,0,none⟩) w w':=by
 by_cases hz:xs=[]
 ·subst hz;go_enter func18,ntmps18;go_wp2;go_loopw [1,5] (fun kv i wr=>kv=.int .i64 (k:Int)∧i=.int .i64 0∧wr=w) (fun _ _ _=>0);case atStart=>exact ⟨rfl,rfl,rfl⟩
  obtain ⟨rfl,rfl,rfl⟩:=hrel;go_wp2;go_ret;exact ⟨rfl,.inl rfl,Chg.refl _ _⟩
 obtain ⟨g,rfl,hfree⟩:=hg hz;rcases hs with h | ⟨b,off,Vw,hb,hr⟩
 ·exact absurd h hz
 obtain ⟨rfl,rfl⟩:g=b∧0=off:=by injection Vw with e; injection e with e1 e2; exact ⟨e1,e2⟩
 have HZ:=ay hz;clear hz Vw hg;go_enter func18,ntmps18;go_wp2;go_loopw [1,5] (fun kv i wr=>∃ j:Nat,j≤xs.length∧kv=.int .i64 ((k + 5 * j:Nat):Int)∧i=.int .i64 (j:Int)∧Hid (∀ (x:Nat) (hx:x < xs.length),EJ wr g (x * 5) (if x < j then ⟨aT (k + 5 * x),aT (k + 5 * x + 1),aT (k + 5 * x + 2),aT (k + 5 * x + 3),aT (k + 5 * x + 4)⟩ else xs[x]))∧Hid (dD wr g)∧Hid (Chg (fun y=>xs ≠ []∧(some ⟨g,0,none⟩:Option Addr)=some ⟨y,0,none⟩) w wr)) (fun _ i _=>xs.length - (intOf i).toNat);case atStart=>exact ⟨0,Sm _,rfl,rfl,fun x hx=>by have:=hr x hx; simpa using this,hfree,Chg.refl _ _⟩
 clear hr;obtain ⟨j,hj,rfl,rfl,HC,TP,Um⟩:=hrel;by_cases hlt:j < xs.length
 ·obtain ⟨c0,c1,c2,c3,c4⟩:=HC.out j hlt;rw [if_neg (by omega)] at c0 c1 c2 c3 c4;have hgl:g < wr.heap.size:=Sg hb Um.out.size;have hj1:=bH j;have hj2:(j:Int) < (xs.length:Int):=by omega
  have hjb:k + 5 * j + 5≤1000000000:=by omega
  have Ww:Hid (Chg (fun y=>y=g) wr wr):=Chg.refl _ _;have XF:Hid (∀ o,(∀ c,c < 0→o ≠ j * 5 + c)→wr.cell? ⟨g,o,none⟩=wr.cell? ⟨g,o,none⟩):=fun o _=>rfl;go_wp2_with fail;refine (aI _ (k + 5 * j) _ (by omega) (by omega) (by omega)).mono ?_;rintro e u0 ⟨rfl,hb0⟩;have HB0:=ay hb0;have Yn:u0.cell? ⟨g,j * 5,none⟩=some (.string xs[j].a):=mK hb0 hgl c0;have Yo:u0.cell? ⟨g,j * 5 + 1,none⟩=some (.string xs[j].b):=mK hb0 hgl c1;have Yp:u0.cell? ⟨g,j * 5 + 2,none⟩=some (.string xs[j].r):=mK hb0 hgl c2;have Yq:u0.cell? ⟨g,j * 5 + 3,none⟩=some (.string xs[j].c):=mK hb0 hgl c3;have Yr:u0.cell? ⟨g,j * 5 + 4,none⟩=some (.string xs[j].d):=mK hb0 hgl c4;have fz0:∀ y,u0.frozen? ⟨g,y,none⟩=false:=fun y=>mF hb0 hgl (Ww.out.free g hgl TP.out y);obtain ⟨v1,hV1⟩:∃ v,v=u0.setCell ⟨g,j * 5,none⟩ (.string (aT (k + 5 * j))):=⟨_,rfl⟩;have UQ:Hid (Chg (fun y=>y=g) wr v1):=Ww.out.trans ((Chg.of HB0.out).trans (by rw [hV1]; exact Chg.set _ rfl));have hg1:g < v1.heap.size:=Sg hgl UQ.out.size;have TM:Hid (∀ o,(∀ c,c < 1→o ≠ j * 5 + c)→v1.cell? ⟨g,o,none⟩=wr.cell? ⟨g,o,none⟩):=fun o ho=>by rw [hV1,mO (by have:=ho 0 (by omega); omega),HB0.out.cell (p:=⟨g,o,none⟩) hgl]
  have Yt:Hid (v1.cell? ⟨g,j * 5,none⟩=some (.string (aT (k + 5 * j)))):=by show _=_; rw [hV1]; exact mS Yn
  replace c1:v1.cell? ⟨g,j * 5 + 1,none⟩=some (.string xs[j].b):=by rw [hV1,mO (by omega)]; exact Yo
  replace c2:v1.cell? ⟨g,j * 5 + 2,none⟩=some (.string xs[j].r):=by rw [hV1,mO (by omega)]; exact Yp
  replace c3:v1.cell? ⟨g,j * 5 + 3,none⟩=some (.string xs[j].c):=by rw [hV1,mO (by omega)]; exact Yq
  replace c4:v1.cell? ⟨g,j * 5 + 4,none⟩=some (.string xs[j].d):=by rw [hV1,mO (by omega)]; exact Yr
  clear hb0 c0;go_wp2_with fail;rw [← hV1];refine (aI _ (k + 5 * j + 1) _ (by omega) (by omega) (by omega)).mono ?_;rintro e u1 ⟨rfl,hb1⟩;have HB1:=ay hb1;have Yu:u1.cell? ⟨g,j * 5 + 1,none⟩=some (.string xs[j].b):=mK hb1 hg1 c1;have Yv:u1.cell? ⟨g,j * 5 + 2,none⟩=some (.string xs[j].r):=mK hb1 hg1 c2;have Yw:u1.cell? ⟨g,j * 5 + 3,none⟩=some (.string xs[j].c):=mK hb1 hg1 c3;have Yx:u1.cell? ⟨g,j * 5 + 4,none⟩=some (.string xs[j].d):=mK hb1 hg1 c4;have fz1:∀ y,u1.frozen? ⟨g,y,none⟩=false:=fun y=>mF hb1 hg1 (UQ.out.free g hgl TP.out y);obtain ⟨v2,hV2⟩:∃ v,v=u1.setCell ⟨g,j * 5 + 1,none⟩ (.string (aT (k + 5 * j + 1))):=⟨_,rfl⟩;have UR:Hid (Chg (fun y=>y=g) wr v2):=UQ.out.trans ((Chg.of HB1.out).trans (by rw [hV2]; exact Chg.set _ rfl));have hg2:g < v2.heap.size:=Sg hgl UR.out.size;have Tj:Hid (∀ o,(∀ c,c < 2→o ≠ j * 5 + c)→v2.cell? ⟨g,o,none⟩=wr.cell? ⟨g,o,none⟩):=fun o ho=>by rw [hV2,mO (by have:=ho 1 (by omega); omega),HB1.out.cell (p:=⟨g,o,none⟩) hg1]; exact TM.out o fun c hc=>ho c (by omega)
  have Yy:Hid (v2.cell? ⟨g,j * 5 + 1,none⟩=some (.string (aT (k + 5 * j + 1)))):=by show _=_; rw [hV2]; exact mS Yu
  have Yz:Hid (v2.cell? ⟨g,j * 5,none⟩=some (.string (aT (k + 5 * j)))):=by show _=_; rw [hV2,mO (by omega),HB1.out.cell (p:=⟨g,j * 5,none⟩) hg1]; exact Yt.out
  replace c2:v2.cell? ⟨g,j * 5 + 2,none⟩=some (.string xs[j].r):=by rw [hV2,mO (by omega)]; exact Yv
  replace c3:v2.cell? ⟨g,j * 5 + 3,none⟩=some (.string xs[j].c):=by rw [hV2,mO (by omega)]; exact Yw
  replace c4:v2.cell? ⟨g,j * 5 + 4,none⟩=some (.string xs[j].d):=by rw [hV2,mO (by omega)]; exact Yx
  clear hb1 hV1 fz0 Yn Yo Yp Yq Yr c1;go_wp2_with fail;rw [← hV2];refine (aI _ (k + 5 * j + 2) _ (by omega) (by omega) (by omega)).mono ?_;rintro e u2 ⟨rfl,hb2⟩;have HB2:=ay hb2;have YA:u2.cell? ⟨g,j * 5 + 2,none⟩=some (.string xs[j].r):=mK hb2 hg2 c2;have YB:u2.cell? ⟨g,j * 5 + 3,none⟩=some (.string xs[j].c):=mK hb2 hg2 c3;have YC:u2.cell? ⟨g,j * 5 + 4,none⟩=some (.string xs[j].d):=mK hb2 hg2 c4;have fz2:∀ y,u2.frozen? ⟨g,y,none⟩=false:=fun y=>mF hb2 hg2 (UR.out.free g hgl TP.out y);obtain ⟨v3,UH⟩:∃ v,v=u2.setCell ⟨g,j * 5 + 2,none⟩ (.string (aT (k + 5 * j + 2))):=⟨_,rfl⟩;have WA:Hid (Chg (fun y=>y=g) wr v3):=UR.out.trans ((Chg.of HB2.out).trans (by rw [UH]; exact Chg.set _ rfl));have hg3:g < v3.heap.size:=Sg hgl WA.out.size;have TD:Hid (∀ o,(∀ c,c < 3→o ≠ j * 5 + c)→v3.cell? ⟨g,o,none⟩=wr.cell? ⟨g,o,none⟩):=fun o ho=>by rw [UH,mO (by have:=ho 2 (by omega); omega),HB2.out.cell (p:=⟨g,o,none⟩) hg2]; exact Tj.out o fun c hc=>ho c (by omega)
  have YD:Hid (v3.cell? ⟨g,j * 5 + 2,none⟩=some (.string (aT (k + 5 * j + 2)))):=by show _=_; rw [UH]; exact mS YA
  have YE:Hid (v3.cell? ⟨g,j * 5,none⟩=some (.string (aT (k + 5 * j)))):=by show _=_; rw [UH,mO (by omega),HB2.out.cell (p:=⟨g,j * 5,none⟩) hg2]; exact Yz.out
  have YF:Hid (v3.cell? ⟨g,j * 5 + 1,none⟩=some (.string (aT (k + 5 * j + 1)))):=by show _=_; rw [UH,mO (by omega),HB2.out.cell (p:=⟨g,j * 5 + 1,none⟩) hg2]; exact Yy.out
  replace c3:v3.cell? ⟨g,j * 5 + 3,none⟩=some (.string xs[j].c):=by rw [UH,mO (by omega)]; exact YB
  replace c4:v3.cell? ⟨g,j * 5 + 4,none⟩=some (.string xs[j].d):=by rw [UH,mO (by omega)]; exact YC
  clear hb2 hV2 fz1 Yu Yv Yw Yx c2;go_wp2_with fail;rw [← UH];refine (aI _ (k + 5 * j + 3) _ (by omega) (by omega) (by omega)).mono ?_;rintro e u3 ⟨rfl,hb3⟩;have HB3:=ay hb3;have YG:u3.cell? ⟨g,j * 5 + 3,none⟩=some (.string xs[j].c):=mK hb3 hg3 c3;have YH:u3.cell? ⟨g,j * 5 + 4,none⟩=some (.string xs[j].d):=mK hb3 hg3 c4;have fz3:∀ y,u3.frozen? ⟨g,y,none⟩=false:=fun y=>mF hb3 hg3 (WA.out.free g hgl TP.out y);obtain ⟨v4,Vq⟩:∃ v,v=u3.setCell ⟨g,j * 5 + 3,none⟩ (.string (aT (k + 5 * j + 3))):=⟨_,rfl⟩;have HV4:Hid (Chg (fun y=>y=g) wr v4):=WA.out.trans ((Chg.of HB3.out).trans (by rw [Vq]; exact Chg.set _ rfl));have hg4:g < v4.heap.size:=Sg hgl HV4.out.size;have TJ:Hid (∀ o,(∀ c,c < 4→o ≠ j * 5 + c)→v4.cell? ⟨g,o,none⟩=wr.cell? ⟨g,o,none⟩):=fun o ho=>by rw [Vq,mO (by have:=ho 3 (by omega); omega),HB3.out.cell (p:=⟨g,o,none⟩) hg3]; exact TD.out o fun c hc=>ho c (by omega)
  have YI:Hid (v4.cell? ⟨g,j * 5 + 3,none⟩=some (.string (aT (k + 5 * j + 3)))):=by show _=_; rw [Vq]; exact mS YG
  have YJ:Hid (v4.cell? ⟨g,j * 5,none⟩=some (.string (aT (k + 5 * j)))):=by show _=_; rw [Vq,mO (by omega),HB3.out.cell (p:=⟨g,j * 5,none⟩) hg3]; exact YE.out
  have YK:Hid (v4.cell? ⟨g,j * 5 + 1,none⟩=some (.string (aT (k + 5 * j + 1)))):=by show _=_; rw [Vq,mO (by omega),HB3.out.cell (p:=⟨g,j * 5 + 1,none⟩) hg3]; exact YF.out
  have YL:Hid (v4.cell? ⟨g,j * 5 + 2,none⟩=some (.string (aT (k + 5 * j + 2)))):=by show _=_; rw [Vq,mO (by omega),HB3.out.cell (p:=⟨g,j * 5 + 2,none⟩) hg3]; exact YD.out
  replace c4:v4.cell? ⟨g,j * 5 + 4,none⟩=some (.string xs[j].d):=by rw [Vq,mO (by omega)]; exact YH
  clear hb3 UH fz2 YA YB YC c3;go_wp2_with fail;rw [← Vq];refine (aI _ (k + 5 * j + 4) _ (by omega) (by omega) (by omega)).mono ?_;rintro e u4 ⟨rfl,hb4⟩;have TA:=ay hb4;have ZO:u4.cell? ⟨g,j * 5 + 4,none⟩=some (.string xs[j].d):=mK hb4 hg4 c4;have fz4:∀ y,u4.frozen? ⟨g,y,none⟩=false:=fun y=>mF hb4 hg4 (HV4.out.free g hgl TP.out y);obtain ⟨v5,Vr⟩:∃ v,v=u4.setCell ⟨g,j * 5 + 4,none⟩ (.string (aT (k + 5 * j + 4))):=⟨_,rfl⟩;have HV5:Hid (Chg (fun y=>y=g) wr v5):=HV4.out.trans ((Chg.of TA.out).trans (by rw [Vr]; exact Chg.set _ rfl));have hg5:g < v5.heap.size:=Sg hgl HV5.out.size;have Uc:Hid (∀ o,(∀ c,c < 5→o ≠ j * 5 + c)→v5.cell? ⟨g,o,none⟩=wr.cell? ⟨g,o,none⟩):=fun o ho=>by rw [Vr,mO (by have:=ho 4 (by omega); omega),TA.out.cell (p:=⟨g,o,none⟩) hg4]; exact TJ.out o fun c hc=>ho c (by omega)
  have YM:Hid (v5.cell? ⟨g,j * 5 + 4,none⟩=some (.string (aT (k + 5 * j + 4)))):=by show _=_; rw [Vr]; exact mS ZO
  have YN:Hid (v5.cell? ⟨g,j * 5,none⟩=some (.string (aT (k + 5 * j)))):=by show _=_; rw [Vr,mO (by omega),TA.out.cell (p:=⟨g,j * 5,none⟩) hg4]; exact YJ.out
  have YO:Hid (v5.cell? ⟨g,j * 5 + 1,none⟩=some (.string (aT (k + 5 * j + 1)))):=by show _=_; rw [Vr,mO (by omega),TA.out.cell (p:=⟨g,j * 5 + 1,none⟩) hg4]; exact YK.out
  have YP:Hid (v5.cell? ⟨g,j * 5 + 2,none⟩=some (.string (aT (k + 5 * j + 2)))):=by show _=_; rw [Vr,mO (by omega),TA.out.cell (p:=⟨g,j * 5 + 2,none⟩) hg4]; exact YL.out
  have YQ:Hid (v5.cell? ⟨g,j * 5 + 3,none⟩=some (.string (aT (k + 5 * j + 3)))):=by show _=_; rw [Vr,mO (by omega),TA.out.cell (p:=⟨g,j * 5 + 3,none⟩) hg4]; exact YI.out
  clear hb4 Vq fz3 YG YH c4;have TE:Hid (∀ (x:Nat) (hx:x < xs.length),EJ v5 g (x * 5) (if x < j + 1 then ⟨aT (k + 5 * x),aT (k + 5 * x + 1),aT (k + 5 * x + 2),aT (k + 5 * x + 3),aT (k + 5 * x + 4)⟩ else xs[x])):=by
   intro x hx;by_cases e:x=j
   ·subst e;rw [if_pos (by omega)];exact ⟨YN.out,YO.out,YP.out,YQ.out,YM.out⟩
   have hx2:=HC.out x hx;have e2:(if x < j + 1 then (⟨aT (k + 5 * x),aT (k + 5 * x + 1),aT (k + 5 * x + 2),aT (k + 5 * x + 3),aT (k + 5 * x + 4)⟩:Fc) else xs[x])=(if x < j then ⟨aT (k + 5 * x),aT (k + 5 * x + 1),aT (k + 5 * x + 2),aT (k + 5 * x + 3),aT (k + 5 * x + 4)⟩ else xs[x]):=by
    by_cases h2:x < j
    ·rw [if_pos h2,if_pos (by omega)]
    rw [if_neg h2,if_neg (by omega)]
   rw [e2];obtain ⟨p0,p1,p2,p3,p4⟩:=hx2;exact ⟨by rw [Uc.out _ (fun c hc=>by omega)]; exact p0,by rw [Uc.out _ (fun c hc=>by omega)]; exact p1,by rw [Uc.out _ (fun c hc=>by omega)]; exact p2,by rw [Uc.out _ (fun c hc=>by omega)]; exact p3,by rw [Uc.out _ (fun c hc=>by omega)]; exact p4⟩
  have VF:Hid (Chg (fun y=>xs ≠ []∧(some ⟨g,0,none⟩:Option Addr)=some ⟨y,0,none⟩) w v5):=Um.out.trans (HV5.out.mono fun y hy=>⟨HZ.out,by rw [hy]⟩);have HFN:Hid (dD v5 g):=HV5.out.free g hgl TP.out;have HVE:Hid (v5=_):=Vr;clear Vr;go_wp2;rw [← HVE.out];go_roundw;case rel=>exact ⟨j + 1,by omega,by go_num,by go_num,TE,HFN,VF⟩
  simp [intOf] <;> omega
 obtain rfl:j=xs.length:=by omega
 have UN:Hid (jP wr (some ⟨g,0,none⟩) (LB k xs)):=.inr ⟨g,0,rfl,Sg hb Um.out.size,fun i hi=>by
  have h2:i < xs.length:=by rw [Dw] at hi; exact hi
  have:=HC.out i h2;rw [if_pos h2] at this;rw [SG,Oi]; exact this⟩
 go_wp2;go_ret;exact ⟨by go_num,UN.out,Um.out⟩
theorem mV {w w1 w2:af} {b o:Nat} {z0 z1 z2 z3 z4:Value} (h:w1.cell? ⟨b,o,none⟩=some z0∧w1.cell? ⟨b,o + 1,none⟩=some z1∧w1.cell? ⟨b,o + 2,none⟩=some z2∧w1.cell? ⟨b,o + 3,none⟩=some z3∧w1.cell? ⟨b,o + 4,none⟩=some z4∧b < w1.heap.size∧aa w w1) (hb:aa w1 w2):w2.cell? ⟨b,o,none⟩=some z0∧w2.cell? ⟨b,o + 1,none⟩=some z1∧w2.cell? ⟨b,o + 2,none⟩=some z2∧w2.cell? ⟨b,o + 3,none⟩=some z3∧w2.cell? ⟨b,o + 4,none⟩=some z4∧b < w2.heap.size∧aa w w2:=by
 obtain ⟨a0,a1,a2,a3,a4,h1,h2⟩:=h;exact ⟨mK hb h1 a0,mK hb h1 a1,mK hb h1 a2,mK hb h1 a3,mK hb h1 a4,Sg h1 hb.size,h2.trans (hb.mono h2.size)⟩
set_option maxRecDepth 8000 in
theorem jw (ad:Option Addr) (cap:Nat) (xs:List Fc) (k:Nat) (w:af) (hs:jP w ad (LB k xs)) (h0:0 < k) (h1:k + 5 * xs.length≤1000000000) :
  Calls prog 19 #[.slice ad xs.length cap,.int .i64 (k:Int)] w fun e w'=>e=.returned (.int .i64 ((k + 5 * xs.length:Nat):Int))∧aa w w':=by
 have HS:=ay hs;clear hs;go_enter func19,ntmps19;go_wp2;go_loopw [1,5] (fun kv i wr=>∃ j:Nat,j≤xs.length∧kv=.int .i64 ((k + 5 * j:Nat):Int)∧i=.int .i64 (j:Int)∧Hid (aa w wr)) (fun _ i _=>xs.length - (intOf i).toNat);case atStart=>exact ⟨0,Sm _,rfl,rfl,Si _ _⟩
 obtain ⟨j,hj,rfl,rfl,HB⟩:=hrel;by_cases hlt:j < xs.length
 ·rcases HS.out.below HB.out with h | ⟨b,off,rfl,hb,hr⟩
  ·rw [JB] at h; rw [h] at hlt; simp at hlt
  obtain ⟨c0,c1,c2,c3,c4⟩:=hr j (by rw [Dw]; exact hlt);rw [Oi] at c0 c1 c2 c3 c4;have hj1:=bH j;have hj2:(j:Int) < (xs.length:Int):=by omega
  have hjb:k + 5 * j + 5≤1000000000:=by omega
  clear hr;go_wp2_with fail
  go_region_held3 (fun w'=>w'.cell? ⟨b,off + j * 5,none⟩=some (.string (aT (k + 5 * j)))∧w'.cell? ⟨b,off + j * 5 + 1,none⟩=some (.string (aT (k + 5 * j + 1)))∧w'.cell? ⟨b,off + j * 5 + 2,none⟩=some (.string (aT (k + 5 * j + 2)))∧w'.cell? ⟨b,off + j * 5 + 3,none⟩=some (.string (aT (k + 5 * j + 3)))∧w'.cell? ⟨b,off + j * 5 + 4,none⟩=some (.string (aT (k + 5 * j + 4)))∧b < w'.heap.size∧aa w w')
   (first | assumption | exact mV (by assumption) hbx | exact ⟨c0,c1,c2,c3,c4,hb,HB.out.drew⟩)
   (first | (go_at_call 40; refine (aI _ (k + 5 * j) _ (by omega) (by omega) (by omega)).mono ?_; rintro e w' ⟨rfl,hbx⟩))
  rename_i hH;clear c0 c1 c2 c3 c4 hb HB;obtain ⟨c0,c1,c2,c3,c4,hb,hB⟩:=hH;have HB:Hid (aa w _):=hB;clear hB;go_wp2_with fail
  go_region_held3 (fun w'=>w'.cell? ⟨b,off + j * 5,none⟩=some (.string (aT (k + 5 * j)))∧w'.cell? ⟨b,off + j * 5 + 1,none⟩=some (.string (aT (k + 5 * j + 1)))∧w'.cell? ⟨b,off + j * 5 + 2,none⟩=some (.string (aT (k + 5 * j + 2)))∧w'.cell? ⟨b,off + j * 5 + 3,none⟩=some (.string (aT (k + 5 * j + 3)))∧w'.cell? ⟨b,off + j * 5 + 4,none⟩=some (.string (aT (k + 5 * j + 4)))∧b < w'.heap.size∧aa w w')
   (first | assumption | exact mV (by assumption) hbx | exact ⟨c0,c1,c2,c3,c4,hb,HB.out.drew⟩)
   (first | (go_at_call 40; refine (aI _ (k + 5 * j + 1) _ (by omega) (by omega) (by omega)).mono ?_; rintro e w' ⟨rfl,hbx⟩))
  rename_i hH;clear c0 c1 c2 c3 c4 hb HB;obtain ⟨c0,c1,c2,c3,c4,hb,hB⟩:=hH;have HB:Hid (aa w _):=hB;clear hB;go_wp2_with fail
  go_region_held3 (fun w'=>w'.cell? ⟨b,off + j * 5,none⟩=some (.string (aT (k + 5 * j)))∧w'.cell? ⟨b,off + j * 5 + 1,none⟩=some (.string (aT (k + 5 * j + 1)))∧w'.cell? ⟨b,off + j * 5 + 2,none⟩=some (.string (aT (k + 5 * j + 2)))∧w'.cell? ⟨b,off + j * 5 + 3,none⟩=some (.string (aT (k + 5 * j + 3)))∧w'.cell? ⟨b,off + j * 5 + 4,none⟩=some (.string (aT (k + 5 * j + 4)))∧b < w'.heap.size∧aa w w')
   (first | assumption | exact mV (by assumption) hbx | exact ⟨c0,c1,c2,c3,c4,hb,HB.out.drew⟩)
   (first | (go_at_call 40; refine (aI _ (k + 5 * j + 2) _ (by omega) (by omega) (by omega)).mono ?_; rintro e w' ⟨rfl,hbx⟩))
  rename_i hH;clear c0 c1 c2 c3 c4 hb HB;obtain ⟨c0,c1,c2,c3,c4,hb,hB⟩:=hH;have HB:Hid (aa w _):=hB;clear hB;go_wp2_with fail
  go_region_held3 (fun w'=>w'.cell? ⟨b,off + j * 5,none⟩=some (.string (aT (k + 5 * j)))∧w'.cell? ⟨b,off + j * 5 + 1,none⟩=some (.string (aT (k + 5 * j + 1)))∧w'.cell? ⟨b,off + j * 5 + 2,none⟩=some (.string (aT (k + 5 * j + 2)))∧w'.cell? ⟨b,off + j * 5 + 3,none⟩=some (.string (aT (k + 5 * j + 3)))∧w'.cell? ⟨b,off + j * 5 + 4,none⟩=some (.string (aT (k + 5 * j + 4)))∧b < w'.heap.size∧aa w w')
   (first | assumption | exact mV (by assumption) hbx | exact ⟨c0,c1,c2,c3,c4,hb,HB.out.drew⟩)
   (first | (go_at_call 40; refine (aI _ (k + 5 * j + 3) _ (by omega) (by omega) (by omega)).mono ?_; rintro e w' ⟨rfl,hbx⟩))
  rename_i hH;clear c0 c1 c2 c3 c4 hb HB;obtain ⟨c0,c1,c2,c3,c4,hb,hB⟩:=hH;have HB:Hid (aa w _):=hB;clear hB;go_wp2_with fail
  go_region_held3 (fun w'=>w'.cell? ⟨b,off + j * 5,none⟩=some (.string (aT (k + 5 * j)))∧w'.cell? ⟨b,off + j * 5 + 1,none⟩=some (.string (aT (k + 5 * j + 1)))∧w'.cell? ⟨b,off + j * 5 + 2,none⟩=some (.string (aT (k + 5 * j + 2)))∧w'.cell? ⟨b,off + j * 5 + 3,none⟩=some (.string (aT (k + 5 * j + 3)))∧w'.cell? ⟨b,off + j * 5 + 4,none⟩=some (.string (aT (k + 5 * j + 4)))∧b < w'.heap.size∧aa w w')
   (first | assumption | exact mV (by assumption) hbx | exact ⟨c0,c1,c2,c3,c4,hb,HB.out.drew⟩)
   (first | (go_at_call 40; refine (aI _ (k + 5 * j + 4) _ (by omega) (by omega) (by omega)).mono ?_; rintro e w' ⟨rfl,hbx⟩))
  rename_i hH;clear c0 c1 c2 c3 c4 hb HB;obtain ⟨c0,c1,c2,c3,c4,hb,hB⟩:=hH;have HB:Hid (aa w _):=hB;clear hB;clear c0 c1 c2 c3 c4 hb;go_wp2;go_roundw;case rel=>exact ⟨j + 1,by omega,by go_num,by go_num,HB⟩
  simp [intOf] <;> omega
 obtain rfl:j=xs.length:=by omega
 go_wp2;go_ret;exact ⟨by go_num,HB.out⟩
set_option linter.unusedSectionVars false
theorem Le {w:af} {base size n:Nat} {e:TypeId} {v:Value} {xs:List Value} (h:w.ownsRow base e size v n xs) {g:Nat} (hg:v.ownBlock=some g):dD w g:=fun j=>by
 rcases h.2 with ⟨rfl,-⟩ | ⟨g',cap,cur,rfl,-,h2,-⟩
 ·simp [Value.ownBlock] at hg
 have e:g'=g:=by simpa [Value.ownBlock] using hg
 subst e;simp [World.frozen?,h2]
def lq (B:Nat) (w:World) (ad:Option Addr) (L:List Fc):Prop:=jP w ad L∧(L ≠ []→∃ g,ad=some ⟨g,0,none⟩∧B≤g∧dD w g)
theorem lQ {w:af} {ad:Option Addr} {L:List Fc} (h:jP w ad L) (hne:L ≠ []) {g o:Nat} (e:ad=some ⟨g,o,none⟩):g < w.heap.size:=by
 rcases h with h | ⟨b,off,e2,hb,-⟩
 ·exact absurd h hne
 rw [e] at e2; injection e2 with e2; injection e2 with e2 e3; omega
theorem lq.later {B:Nat} {w w':af} {ad:Option Addr} {L:List Fc} (h:lq B w ad L) (hb:aa w w'):lq B w' ad L:=⟨h.1.below hb,fun hne=>by
 obtain ⟨g,e,h1,h2⟩:=h.2 hne;exact ⟨g,e,h1,fun j=>mF hb (lQ h.1 hne e) (h2 j)⟩⟩
theorem lq.chg {B:Nat} {S:Nat→Prop} {w w':af} {ad:Option Addr} {L:List Fc} (h:lq B w ad L) (hc:Chg S w w') (hn:∀ g,B≤g→¬ S g):lq B w' ad L:=⟨h.1.chg hc (fun g o hne e=>by
  obtain ⟨g',e',h1,-⟩:=h.2 hne;rw [e] at e'; injection e' with e'; injection e' with e' e3;exact hn g (by omega)),fun hne=>by
 obtain ⟨g,e,h1,h2⟩:=h.2 hne;exact ⟨g,e,h1,hc.free g (lQ h.1 hne e) h2⟩⟩
theorem FV {w:af} {base:Nat} {v:Value} {fs:List Fc} (h:w.ownsRow base 63 5 v fs.length (av fs)):∃ ad cap,v=.slice ad fs.length cap∧lq base w ad fs:=by
 obtain ⟨ad,cap,e,hs⟩:=iD h;subst e;refine ⟨ad,cap,rfl,hs,fun hne=>?_⟩;obtain ⟨g,e1,e2⟩:=uW h (fun e=>hne (SA.1 e));exact ⟨g,e1,(h.lt g e2).1,Le h e2⟩
theorem FW (a b r c d:dB) (w:af) :
  Calls prog 37 #[.agg #[.string a,.string b,.string r,.string c,.string d],.agg #[.string a,.string b,.string r,.string c,.string d]] w fun e w'=>e=.returned (.bool true)∧aa w w':=by
 go_enter func37,ntmps37;go_wp2_with fail;refine (iW _ _ _).mono ?_;rintro e w1 ⟨rfl,hb1⟩;obtain ⟨hc1,hf1⟩:=eO hb1;have hz1:w.heap.size + 1 < w1.heap.size:=by have:=hb1.size; simp at this; omega
 have hy1:w.heap.size < w1.heap.size:=by omega
 have HB1:aa w w1:=(((Si _ _).alloc (Sj _) _).alloc (by simp) _).trans (hb1.mono (by simp; omega));go_wp2_with fail;refine (iW _ _ _).mono ?_;rintro e w2 ⟨rfl,hb2⟩;obtain ⟨hc2,hf2⟩:=eO hb2;have hz2:w.heap.size + 1 < w2.heap.size:=by have:=hb2.size; omega
 have hy2:w.heap.size < w2.heap.size:=by omega
 go_wp2;go_ret;exact ⟨rfl,HB1.trans (hb2.mono (by omega))⟩
theorem Dx (ad Ti:Option Addr) (cap cap':Nat) (w:af) :
  Calls prog 13 #[.slice ad 0 cap,.slice Ti 0 cap'] w fun e w'=>e=.returned (.bool true)∧aa w w':=by
 go_enter func13,ntmps13;go_wp2;refine wp_loop_rounds 1 ?_;rw [rounds_succ];go_wp2;go_ret;exact ⟨rfl,Si _ _⟩
theorem Dy (b b' off off' cap cap':Nat) (ts:List Fc) (w:af) (hlen:ts.length≤maxLen) (hr:QE w b off ts) (hb:b < w.heap.size) (hr':QE w b' off' ts) (hb':b' < w.heap.size) :
  Calls prog 13 #[.slice (some ⟨b,off,none⟩) ts.length cap,.slice (some ⟨b',off',none⟩) ts.length cap'] w fun e w'=>e=.returned (.bool true)∧aa w w':=by
 unfold maxLen at hlen;have HR:=aj hr;have HR':=aj hr';clear hr hr';go_enter func13,ntmps13;go_wp2;go_loopw [5] (fun i wr=>∃ k:Nat,k≤ts.length∧i=.int .i64 k∧Hid (aa w wr)) (fun i _=>ts.length - (intOf i).toNat);case atStart=>exact ⟨0,Sm _,rfl,Si _ _⟩
 obtain ⟨k,hk,rfl,HB⟩:=hrel;by_cases hlt:k < ts.length
 ·have h1:=(HR.out k hlt).same (fun o=>HB.out.cell (p:=⟨b,o,none⟩) hb);have h2:=(HR'.out k hlt).same (fun o=>HB.out.cell (p:=⟨b',o,none⟩) hb');obtain ⟨x,hx⟩:∃ x,ts[k]=x:=⟨_,rfl⟩;rw [hx] at h1 h2;obtain ⟨s0,s1,s2,s3,s4⟩:=h1;obtain ⟨y0,y1,y2,y3,y4⟩:=h2;clear hx;have hk1:=bH k;have hk2:(k:Int) < (ts.length:Int):=by omega
  have hbp:=HB.out;have hbr:b < wr.heap.size:=aC s0;have hbr':b' < wr.heap.size:=aC y0;go_wp2_with fail
  go_region_held3 (fun w'=>w'.cell? ⟨b,off + k * 5,none⟩=some (.string x.a)∧w'.cell? ⟨b,off + k * 5 + 1,none⟩=some (.string x.b)∧w'.cell? ⟨b,off + k * 5 + 2,none⟩=some (.string x.r)∧w'.cell? ⟨b,off + k * 5 + 3,none⟩=some (.string x.c)∧w'.cell? ⟨b,off + k * 5 + 4,none⟩=some (.string x.d)∧w'.cell? ⟨b',off' + k * 5,none⟩=some (.string x.a)∧w'.cell? ⟨b',off' + k * 5 + 1,none⟩=some (.string x.b)∧w'.cell? ⟨b',off' + k * 5 + 2,none⟩=some (.string x.r)∧w'.cell? ⟨b',off' + k * 5 + 3,none⟩=some (.string x.c)∧w'.cell? ⟨b',off' + k * 5 + 4,none⟩=some (.string x.d)∧aa w w')
   (first | assumption | exact Dv (by assumption) hbx | exact ⟨s0,s1,s2,s3,s4,y0,y1,y2,y3,y4,hbp.drew⟩)
   (first | (go_at_call 37; refine (FW _ _ _ _ _ _).mono ?_; rintro e w' ⟨rfl,hbx⟩))
  rename_i hJ;have HJB:=aj hJ.2.2.2.2.2.2.2.2.2.2;clear hJ s0 s1 s2 s3 s4 y0 y1 y2 y3 y4;go_wp2;go_roundw;case rel=>exact ⟨k + 1,by omega,by go_num,HJB⟩
  simp [intOf] <;> omega
 go_wp2;go_ret;exact ⟨rfl,HB.out⟩
theorem iG (ad Ti:Option Addr) (cap cap':Nat) (ts:List Fc) (w:af) (hlen:ts.length≤maxLen) (hs:jP w ad ts) (hs':jP w Ti ts) :
  Calls prog 13 #[.slice ad ts.length cap,.slice Ti ts.length cap'] w fun e w'=>e=.returned (.bool true)∧aa w w':=by
 by_cases h:ts=[]
 ·subst h; exact Dx ad Ti cap cap' w
 rcases hs with h1 | ⟨b,off,rfl,hb,hr⟩
 ·exact absurd h1 h
 rcases hs' with h1 | ⟨b',off',rfl,hb',hr'⟩
 ·exact absurd h1 h
 exact Dy b b' off off' cap cap' ts w hlen hr hb hr' hb'
theorem Ra {P:Nat→Prop} (h:∃ n,P n):∃ n,P n∧∀ m,P m→n≤m:=by
 obtain ⟨n,hn⟩:=h
 induction n using Nat.strongRecOn with
 | ind n ih =>
  by_cases hx:∃ m,m < n∧P m
  ·obtain ⟨m,hm,hp⟩:=hx;exact ih m hm hp
  exact ⟨n,hn,fun m hm=>Nat.le_of_not_lt fun hlt=>hx ⟨m,hlt,hm⟩⟩
theorem Oj {ts:List Ty} (h:∃ f,Sol ts f):∃ f,Least ts f:=by
 have key:∀ k,∃ n:Nat,(∃ g,Sol ts g∧g k=(n:Int))∧∀ m:Nat,(∃ g,Sol ts g∧g k=(m:Int))→n≤m:=fun k=>Ra (by
  obtain ⟨f,hf⟩:=h;exact ⟨(f k).toNat,f,hf,by have:=hf.pos k; omega⟩)
 have low:∀ k g,Sol ts g→(((key k).choose:Nat):Int)≤g k:=fun k g hg=>by
  have h1:=(key k).choose_spec.2 (g k).toNat ⟨g,hg,by have:=hg.pos k; omega⟩;have:=hg.pos k;omega
 refine ⟨fun k=>(((key k).choose:Nat):Int),⟨fun k=>Int.natCast_nonneg _,fun k hk d hd=>?_⟩,fun k hk g hg=>low k g hg⟩;obtain ⟨g,hg,e⟩:=(key k).choose_spec.1;have h1:=low (d.typ,d.rel) g hg;have h2:=hg.up k hk d hd;show (((key (d.typ,d.rel)).choose:Nat):Int) + stepOf d≤(((key k).choose:Nat):Int);rw [← e];exact Int.le_trans (Int.add_le_add_right h1 _) h2
theorem RL (ts:List Ty):∃ st,aF ts=true→Least ts st:=by
 by_cases h:aF ts=true
 ·obtain ⟨st,hst⟩:=Oj (bW.1 h).2.2;exact ⟨st,fun _=>hst⟩
 exact ⟨fun _=>0,fun h2=>absurd h2 h⟩
def cX (e:Ex):Nat:=e.allow.length + e.kids.length
def sX:List ER→Nat
 | []=>0
 | r::rs=>cX r.e + sX rs
def sR:List RR→Nat
 | []=>0
 | r::rs=>(r.rows.length + sX r.rows) + sR rs
def sT:List TR→Nat
 | []=>0
 | r::rs=>(r.rows.length + sR r.rows) + sT rs
theorem BX:∀ xs ys:List ER,sX (xs ++ ys)=sX xs + sX ys
 | [],ys=>by simp [sX]
 | x::xs,ys=>by rw [List.cons_append]; simp only [sX]; rw [BX xs ys]; omega
theorem PN (rs:List ER) (j:Nat) (h:j < rs.length):sX (rs.take (j + 1))=sX (rs.take j) + cX rs[j].e:=by
 rw [Sk h,BX]; simp [sX]
theorem BZ:∀ xs ys:List RR,sR (xs ++ ys)=sR xs + sR ys
 | [],ys=>by simp [sR]
 | x::xs,ys=>by rw [List.cons_append]; simp only [sR]; rw [BZ xs ys]; omega
theorem PO (rs:List RR) (j:Nat) (h:j < rs.length):sR (rs.take (j + 1))=sR (rs.take j) + (rs[j].rows.length + sX rs[j].rows):=by
 rw [Sk h,BZ]; simp [sR]
theorem Ca:∀ xs ys:List TR,sT (xs ++ ys)=sT xs + sT ys
 | [],ys=>by simp [sT]
 | x::xs,ys=>by rw [List.cons_append]; simp only [sT]; rw [Ca xs ys]; omega
theorem PP (rs:List TR) (j:Nat) (h:j < rs.length):sT (rs.take (j + 1))=sT (rs.take j) + (rs[j].rows.length + sR rs[j].rows):=by
 rw [Sk h,Ca]; simp [sT]
theorem Qo:∀ rs:List ER,wE rs≤3 * (rs.length + sX rs)
 | []=>by simp [wE]
 | r::rs=>by
  have:=Qo rs;simp only [wE,sX,wX,cX,List.length_cons]; omega
theorem Qp:∀ rs:List RR,wR rs≤rs.length + 3 * sR rs
 | []=>by simp [wR]
 | r::rs=>by
  have h1:=Qp rs;have h2:=Qo r.rows;simp only [wR,sR,List.length_cons]; omega
theorem Qq:∀ rs:List TR,wT rs≤rs.length + 3 * (sT rs)
 | []=>by simp [wT]
 | r::rs=>by
  have h1:=Qq rs;have h2:=Qp r.rows;simp only [wT,sT,List.length_cons]; omega
theorem IP (ad:Option Addr) (len cap:Nat) (left:Int) (w:af) (hl:len≤maxLen) (h0:0≤left) (h1:left≤1048576) :
  Calls prog 187 #[.slice ad len cap,.int .i64 left] w fun e w'=>(∃ n:Int,e=.returned (.int .i64 n)∧(n=-1 ∨ 0≤n∧n + len≤left∧(len:Int)≤left))∧w'=w:=by
 unfold maxLen at hl;by_cases hneg:left - len < 0
 ·go_enter func187,ntmps187;go_wp2;go_ret;exact ⟨⟨-1,rfl,.inl rfl⟩,rfl⟩
 go_enter func187,ntmps187;go_wp2;go_ret;exact ⟨⟨_,rfl,.inr ⟨by omega,by omega,by omega⟩⟩,rfl⟩
theorem Dz (ad:Option Addr) (cap:Nat) (xs:List Al) (left:Int) (w:af) (hlen:xs.length≤maxLen) (hs:gP w ad xs) (hf:∀ a ∈ xs,a.fits) (h0:0≤left) (h1:left≤1048576) :
  Calls prog 186 #[.slice ad xs.length cap,.int .i64 left] w fun e w'=>(∃ n:Int,e=.returned (.int .i64 n)∧(n=-1 ∨ 0≤n∧n + xs.length≤left∧(xs.length:Int)≤left))∧aa w w':=by
 unfold maxLen at hlen;by_cases hneg:left - xs.length < 0
 ·go_enter func186,ntmps186;go_wp2;go_ret;exact ⟨⟨-1,rfl,.inl rfl⟩,Si _ _⟩
 go_enter func186,ntmps186;go_wp2;go_loopw [1,5] (fun l i wr=>∃ (k:Nat) (x:Int),k≤xs.length∧i=.int .i64 k∧l=.int .i64 x∧0≤x∧x + xs.length≤left∧aa w wr) (fun _ i _=>xs.length - (intOf i).toNat);case atStart=>exact ⟨0,_,Sm _,rfl,rfl,by omega,by omega,Si _ _⟩
 obtain ⟨k,x,hk,rfl,rfl,hx0,hx1,hB⟩:=hrel;by_cases hlt:k < xs.length
 ·rcases hs.below hB with rfl | ⟨b,off,rfl,hb,hr⟩
  ·simp at hlt
  obtain ⟨t0,t1⟩:=hr k hlt;obtain ⟨f0,f1⟩:=hf xs[k] (Sd hlt);clear hr hs;go_wp2_with fail;refine (zQ _ _ _ _ f0 f1 hx0 (by omega)).mono ?_;rintro e w1 ⟨⟨n,rfl,hn⟩,hb1⟩;rcases hn with rfl | ⟨hn0,hn1⟩
  ·go_wp2;go_ret;exact ⟨⟨-1,rfl,.inl rfl⟩,hB.trans (hb1.mono hB.size)⟩
  go_wp2;go_roundw;case rel=>exact ⟨k + 1,_,by omega,by go_num,rfl,by omega,by omega,hB.trans (hb1.mono hB.size)⟩
  simp [intOf]; omega
 go_wp2;go_ret;exact ⟨⟨x,rfl,.inr ⟨hx0,hx1,by omega⟩⟩,hB⟩
theorem Ol (r:ER) (left:Int) (w:af) (hr:r.ok w) (hf:r.e.fits) (h0:0≤left) (h1:left≤1048576) :
  Calls prog 157 #[r.val,.int .i64 left] w fun e w'=>(∃ n:Int,e=.returned (.int .i64 n)∧(n=-1 ∨ 0≤n∧n + (cX r.e:Nat)≤left∧r.e.light))∧aa w w':=by
 obtain ⟨⟨kind,allow,over,name,kids⟩,adA,capA,adK,capK⟩:=r;obtain ⟨hA,hK⟩:=hr;obtain ⟨f1,f2,f3,f4,f5⟩:=hf;simp only at hA hK f1 f2 f3 f4 f5;have g2:=f2;have g3:=f3;unfold maxLen at g2 g3;simp only [ER.val,Ex.light,cX];have HB:Hid (aa w (w.alloc (.cells #[.int .i64 kind,.slice adA allow.length capA,.string over,.string name,.slice adK kids.length capK] 262))):=(Si w.heap.size w).alloc (Sj _) _;go_enter func157,ntmps157;go_wp2_with fail;refine (Dz adA capA allow left _ f4 (hA.below HB.out) f1 h0 h1).mono ?_;rintro e w1 ⟨⟨n,rfl,hn⟩,hb1⟩;have HB1:=jb HB hb1;have c2:w1.cell? ⟨w.heap.size,2,none⟩=some (.string over):=by rw [hb1.cell (p:=⟨w.heap.size,2,none⟩) (by simp)]; simp
 have c3:w1.cell? ⟨w.heap.size,3,none⟩=some (.string name):=by rw [hb1.cell (p:=⟨w.heap.size,3,none⟩) (by simp)]; simp
 have c4:w1.cell? ⟨w.heap.size,4,none⟩=some (.slice adK kids.length capK):=by rw [hb1.cell (p:=⟨w.heap.size,4,none⟩) (by simp)]; simp
 clear hb1 HB;rcases hn with rfl | ⟨hn0,hn1,hn2⟩
 ·go_wp2;go_ret;exact ⟨⟨-1,rfl,.inl rfl⟩,HB1.out⟩
 by_cases h3:n - over.size < 0
 ·go_wp2;go_ret;exact ⟨⟨-1,rfl,.inl rfl⟩,HB1.out⟩
 by_cases h4:n - over.size - name.size < 0
 ·go_wp2;go_ret;exact ⟨⟨-1,rfl,.inl rfl⟩,HB1.out⟩
 go_wp2_with fail;refine (IP adK kids.length capK _ _ f5 (by omega) (by omega)).mono ?_;rintro e w2 ⟨⟨n2,rfl,hm⟩,rfl⟩;rcases hm with rfl | ⟨hm0,hm1,hm2⟩
 ·go_wp2;go_ret;exact ⟨⟨-1,rfl,.inl rfl⟩,HB1.out⟩
 go_wp2;go_ret;exact ⟨⟨n2,rfl,.inr ⟨hm0,by omega,by omega,by omega⟩⟩,HB1.out⟩
theorem Lf (ad:Option Addr) (cap:Nat) (rs:List ER) (left:Int) (w:af) (hlen:rs.length≤maxLen) (hs:fQ w ad rs) (hf:∀ r ∈ rs,r.e.fits) (h0:0≤left) (h1:left≤1048576) :
  Calls prog 112 #[.slice ad rs.length cap,.int .i64 left] w fun e w'=>(∃ n:Int,e=.returned (.int .i64 n)∧(n=-1 ∨ 0≤n∧n + (rs.length + sX rs:Nat)≤left∧(rs.length:Int)≤left∧∀ r ∈ rs,r.e.light))∧aa w w':=by
 unfold maxLen at hlen;by_cases hneg:left - rs.length < 0
 ·go_enter func112,ntmps112;go_wp2;go_ret;exact ⟨⟨-1,rfl,.inl rfl⟩,Si _ _⟩
 go_enter func112,ntmps112;go_wp2;go_loopw [1,5] (fun l i wr=>∃ (k:Nat) (x:Int),k≤rs.length∧i=.int .i64 k∧l=.int .i64 x∧0≤x∧x + (rs.length + sX (rs.take k):Nat)≤left∧Hid (∀ r ∈ rs.take k,r.e.light)∧aa w wr) (fun _ i _=>rs.length - (intOf i).toNat);case atStart=>exact ⟨0,_,Sm _,rfl,rfl,by omega,by simp only [List.take_zero,sX]; omega,(by intro r hr; simp at hr),Si _ _⟩
 obtain ⟨k,x,hk,rfl,rfl,hx0,hx1,HL,hB⟩:=hrel;by_cases hlt:k < rs.length
 ·rcases hs.below hB with rfl | ⟨b,off,rfl,hb,hr,hok⟩
  ·simp at hlt
  obtain ⟨t0,t1,t2,t3,t4⟩:=hr k hlt;have ok:=hok rs[k] (Sd hlt);have ft:=hf rs[k] (Sd hlt);clear hr hs hok;go_wp2_with fail;refine (Ol rs[k] x _ ok ft hx0 (by omega)).mono ?_;rintro e w1 ⟨⟨n,rfl,hn⟩,hb1⟩;have HST:Hid (sX (rs.take (k + 1))=_):=PN rs k hlt;rcases hn with rfl | ⟨hn0,hn1,hn2⟩
  ·go_wp2;go_ret;exact ⟨⟨-1,rfl,.inl rfl⟩,hB.trans (hb1.mono hB.size)⟩
  have HL2:Hid (∀ r ∈ rs.take (k + 1),r.e.light):=by
   intro r hr;rw [Sk hlt,Sz,SF] at hr;rcases hr with hr | rfl
   ·exact HL.out r hr
   exact hn2
  clear hn2 ok ft;go_wp2;go_roundw;case rel=>exact ⟨k + 1,_,by omega,by go_num,rfl,by omega,by rw [HST.out]; omega,HL2,hB.trans (hb1.mono hB.size)⟩
  simp [intOf]; omega
 have UA:Hid (x + (rs.length + sX rs:Nat)≤left):=by have:=hx1; rw [List.take_of_length_le (by omega)] at this; exact this
 have HL2:Hid (∀ r ∈ rs,r.e.light):=fun r hr=>HL.out r (by rw [List.take_of_length_le (by omega)]; exact hr);go_wp2;go_ret;exact ⟨⟨x,rfl,.inr ⟨hx0,UA.out,by omega,HL2.out⟩⟩,hB⟩
theorem DC (r:RR) (left:Int) (w:af) (hr:r.ok w) (hf:r.fits) (h0:0≤left) (h1:left≤1048576) :
  Calls prog 74 #[r.val,.int .i64 left] w fun e w'=>(∃ n:Int,e=.returned (.int .i64 n)∧(n=-1 ∨ 0≤n∧n + (r.rows.length + sX r.rows:Nat)≤left∧r.light))∧aa w w':=by
 obtain ⟨name,rows,ad,cap⟩:=r;obtain ⟨f1,f2,f3⟩:=hf;have HO:=ay hr;have HF:=ay f3;simp only at f1 f2;have g1:=f1;unfold maxLen at g1;simp only [RR.val,RR.light];clear hr f3;have HB:Hid (aa w (w.alloc (.cells #[.string name,.slice ad rows.length cap] 133))):=(Si w.heap.size w).alloc (Sj _) _;by_cases h3:left - name.size < 0
 ·go_enter func74,ntmps74;go_wp2;go_ret;exact ⟨⟨-1,rfl,.inl rfl⟩,HB.out⟩
 go_enter func74,ntmps74;go_wp2_with fail;refine (Lf ad cap rows _ _ f2 (fQ.below HO.out HB.out) HF.out (by omega) (by omega)).mono ?_;rintro e w1 ⟨⟨n,rfl,hn⟩,hb1⟩;have HB1:=jb HB hb1;clear hb1 HB;rcases hn with rfl | ⟨hn0,hn1,hn2,WL⟩
 ·go_wp2;go_ret;exact ⟨⟨-1,rfl,.inl rfl⟩,HB1.out⟩
 have HL:=ay WL;clear WL;go_wp2;go_ret;exact ⟨⟨n,rfl,.inr ⟨hn0,by omega,by omega,HL.out⟩⟩,HB1.out⟩
theorem Ar (ad:Option Addr) (cap:Nat) (rs:List RR) (left:Int) (w:af) (hlen:rs.length≤maxLen) (hs:vv w ad rs) (hf:∀ r ∈ rs,r.fits) (h0:0≤left) (h1:left≤1048576) :
  Calls prog 49 #[.slice ad rs.length cap,.int .i64 left] w fun e w'=>(∃ n:Int,e=.returned (.int .i64 n)∧(n=-1 ∨ 0≤n∧n + (rs.length + sR rs:Nat)≤left∧(rs.length:Int)≤left∧∀ r ∈ rs,r.light))∧aa w w':=by
 unfold maxLen at hlen;by_cases hneg:left - rs.length < 0
 ·go_enter func49,ntmps49;go_wp2;go_ret;exact ⟨⟨-1,rfl,.inl rfl⟩,Si _ _⟩
 go_enter func49,ntmps49;go_wp2;go_loopw [1,5] (fun l i wr=>∃ (k:Nat) (x:Int),k≤rs.length∧i=.int .i64 k∧l=.int .i64 x∧0≤x∧x + (rs.length + sR (rs.take k):Nat)≤left∧Hid (∀ r ∈ rs.take k,r.light)∧aa w wr) (fun _ i _=>rs.length - (intOf i).toNat);case atStart=>exact ⟨0,_,Sm _,rfl,rfl,by omega,by simp only [List.take_zero,sR]; omega,(by intro r hr; simp at hr),Si _ _⟩
 obtain ⟨k,x,hk,rfl,rfl,hx0,hx1,HL,hB⟩:=hrel;by_cases hlt:k < rs.length
 ·rcases hs.below hB with rfl | ⟨b,off,rfl,hb,hr,hok⟩
  ·simp at hlt
  obtain ⟨t0,t1⟩:=hr k hlt;have ok:=hok rs[k] (Sd hlt);have ft:=hf rs[k] (Sd hlt);clear hr hs hok;go_wp2_with fail;refine (DC rs[k] x _ ok ft hx0 (by omega)).mono ?_;rintro e w1 ⟨⟨n,rfl,hn⟩,hb1⟩;have HST:Hid (sR (rs.take (k + 1))=_):=PO rs k hlt;rcases hn with rfl | ⟨hn0,hn1,hn2⟩
  ·go_wp2;go_ret;exact ⟨⟨-1,rfl,.inl rfl⟩,hB.trans (hb1.mono hB.size)⟩
  have HL2:Hid (∀ r ∈ rs.take (k + 1),r.light):=by
   intro r hr;rw [Sk hlt,Sz,SF] at hr;rcases hr with hr | rfl
   ·exact HL.out r hr
   exact hn2
  clear hn2 ok ft;go_wp2;go_roundw;case rel=>exact ⟨k + 1,_,by omega,by go_num,rfl,by omega,by rw [HST.out]; omega,HL2,hB.trans (hb1.mono hB.size)⟩
  simp [intOf]; omega
 have UA:Hid (x + (rs.length + sR rs:Nat)≤left):=by have:=hx1; rw [List.take_of_length_le (by omega)] at this; exact this
 have HL2:Hid (∀ r ∈ rs,r.light):=fun r hr=>HL.out r (by rw [List.take_of_length_le (by omega)]; exact hr);go_wp2;go_ret;exact ⟨⟨x,rfl,.inr ⟨hx0,UA.out,by omega,HL2.out⟩⟩,hB⟩
theorem Om (r:TR) (left:Int) (w:af) (hr:r.ok w) (hf:r.fits) (h0:0≤left) (h1:left≤1048576) :
  Calls prog 27 #[r.val,.int .i64 left] w fun e w'=>(∃ n:Int,e=.returned (.int .i64 n)∧(n=-1 ∨ 0≤n∧n + (r.rows.length + sR r.rows:Nat)≤left∧r.light))∧aa w w':=by
 obtain ⟨name,rows,ad,cap⟩:=r;obtain ⟨f1,f2,f3⟩:=hf;have HO:=ay hr;have HF:=ay f3;simp only at f1 f2;have g1:=f1;unfold maxLen at g1;simp only [TR.val,TR.light];clear hr f3;have HB:Hid (aa w (w.alloc (.cells #[.string name,.slice ad rows.length cap] 70))):=(Si w.heap.size w).alloc (Sj _) _;by_cases h3:left - name.size < 0
 ·go_enter func27,ntmps27;go_wp2;go_ret;exact ⟨⟨-1,rfl,.inl rfl⟩,HB.out⟩
 go_enter func27,ntmps27;go_wp2_with fail;refine (Ar ad cap rows _ _ f2 (vv.below HO.out HB.out) HF.out (by omega) (by omega)).mono ?_;rintro e w1 ⟨⟨n,rfl,hn⟩,hb1⟩;have HB1:=jb HB hb1;clear hb1 HB;rcases hn with rfl | ⟨hn0,hn1,hn2,WL⟩
 ·go_wp2;go_ret;exact ⟨⟨-1,rfl,.inl rfl⟩,HB1.out⟩
 have HL:=ay WL;clear WL;go_wp2;go_ret;exact ⟨⟨n,rfl,.inr ⟨hn0,by omega,by omega,HL.out⟩⟩,HB1.out⟩
theorem Lg (ad:Option Addr) (cap:Nat) (rs:List TR) (left:Int) (w:af) (hlen:rs.length≤maxLen) (hs:iN w ad rs) (hf:∀ r ∈ rs,r.fits) (h0:0≤left) (h1:left≤1048576) :
  Calls prog 5 #[.slice ad rs.length cap,.int .i64 left] w fun e w'=>(∃ n:Int,e=.returned (.int .i64 n)∧(n=-1 ∨ 0≤n∧n + (rs.length + sT rs:Nat)≤left∧(rs.length:Int)≤left∧∀ r ∈ rs,r.light))∧aa w w':=by
 unfold maxLen at hlen;by_cases hneg:left - rs.length < 0
 ·go_enter func5,ntmps5;go_wp2;go_ret;exact ⟨⟨-1,rfl,.inl rfl⟩,Si _ _⟩
 go_enter func5,ntmps5;go_wp2;go_loopw [1,5] (fun l i wr=>∃ (k:Nat) (x:Int),k≤rs.length∧i=.int .i64 k∧l=.int .i64 x∧0≤x∧x + (rs.length + sT (rs.take k):Nat)≤left∧Hid (∀ r ∈ rs.take k,r.light)∧aa w wr) (fun _ i _=>rs.length - (intOf i).toNat);case atStart=>exact ⟨0,_,Sm _,rfl,rfl,by omega,by simp only [List.take_zero,sT]; omega,(by intro r hr; simp at hr),Si _ _⟩
 obtain ⟨k,x,hk,rfl,rfl,hx0,hx1,HL,hB⟩:=hrel;by_cases hlt:k < rs.length
 ·rcases hs.below hB with rfl | ⟨b,off,rfl,hb,hr,hok⟩
  ·simp at hlt
  obtain ⟨t0,t1⟩:=hr k hlt;have ok:=hok rs[k] (Sd hlt);have ft:=hf rs[k] (Sd hlt);clear hr hs hok;go_wp2_with fail;refine (Om rs[k] x _ ok ft hx0 (by omega)).mono ?_;rintro e w1 ⟨⟨n,rfl,hn⟩,hb1⟩;have HST:Hid (sT (rs.take (k + 1))=_):=PP rs k hlt;rcases hn with rfl | ⟨hn0,hn1,hn2⟩
  ·go_wp2;go_ret;exact ⟨⟨-1,rfl,.inl rfl⟩,hB.trans (hb1.mono hB.size)⟩
  have HL2:Hid (∀ r ∈ rs.take (k + 1),r.light):=by
   intro r hr;rw [Sk hlt,Sz,SF] at hr;rcases hr with hr | rfl
   ·exact HL.out r hr
   exact hn2
  clear hn2 ok ft;go_wp2;go_roundw;case rel=>exact ⟨k + 1,_,by omega,by go_num,rfl,by omega,by rw [HST.out]; omega,HL2,hB.trans (hb1.mono hB.size)⟩
  simp [intOf]; omega
 have UA:Hid (x + (rs.length + sT rs:Nat)≤left):=by have:=hx1; rw [List.take_of_length_le (by omega)] at this; exact this
 have HL2:Hid (∀ r ∈ rs,r.light):=fun r hr=>HL.out r (by rw [List.take_of_length_le (by omega)]; exact hr);go_wp2;go_ret;exact ⟨⟨x,rfl,.inr ⟨hx0,UA.out,by omega,HL2.out⟩⟩,hB⟩
def IQ (m:Nat) (w:World) (ad:Option Addr) (qs:List ER):Prop:=qs ≠ []→∃ b,ad=some ⟨b,0,none⟩∧m≤b∧b < w.heap.size∧uQ b w qs∧dD w b
theorem IQ.chg {S:Nat→Prop} {m:Nat} {w w':af} {ad:Option Addr} {qs:List ER} (h:IQ m w ad qs) (hc:Chg S w w'):IQ m w' ad qs:=fun hne=>by
 obtain ⟨b,e,h1,h2,h3,h4⟩:=h hne;exact ⟨b,e,h1,Sg h2 hc.size,h3.chg hc,hc.free b h2 h4⟩
theorem Oo:∀ {xs ys:List ER},ai xs=ai ys→wE xs=wE ys
 | [],[],_=>rfl
 | [],y::ys,h=>by simp [ai] at h
 | x::xs,[],h=>by simp [ai] at h
 | x::xs,y::ys,h=>by
  simp only [ai,List.map_cons,List.cons.injEq] at h;simp only [wE];rw [h.1,Oo (xs:=xs) (ys:=ys) h.2]
theorem Oq:∀ {xs ys:List RR},bZ xs=bZ ys→wR xs=wR ys
 | [],[],_=>rfl
 | [],y::ys,h=>by simp [bZ] at h
 | x::xs,[],h=>by simp [bZ] at h
 | x::xs,y::ys,h=>by
  simp only [bZ,List.map_cons,List.cons.injEq] at h;simp only [wR];have e:ai x.rows=ai y.rows:=by have:=h.1; simp only [RR.p,Rl.mk.injEq] at this; exact this.2
  rw [Oo e,Oq (xs:=xs) (ys:=ys) h.2]
theorem IR:∀ {xs ys:List TR},ag xs=ag ys→wT xs=wT ys
 | [],[],_=>rfl
 | [],y::ys,h=>by simp [ag] at h
 | x::xs,[],h=>by simp [ag] at h
 | x::xs,y::ys,h=>by
  simp only [ag,List.map_cons,List.cons.injEq] at h;simp only [wT];have e:bZ x.rows=bZ y.rows:=by have:=h.1; simp only [TR.p,Ty.mk.injEq] at this; exact this.2
  rw [Oq e,IR (xs:=xs) (ys:=ys) h.2]
theorem PQ (b cap:Nat) (rs:List TR) (w:af) (hs:iN w (some ⟨b,0,none⟩) rs) (hb:b < w.heap.size) (ho:uR b w rs) (hf:dD w b) (hl:∀ r ∈ rs,r.light) (hlen:rs.length≤1048576) (h1:1 + wT rs≤1000000000) :
  Calls prog 16 #[.slice (some ⟨b,0,none⟩) rs.length cap,.int .i64 1] w fun e w'=>e=.returned (.int .i64 ((1 + wT rs:Nat):Int))∧Chg (Ij b rs) w w':=by
 by_cases hz:rs=[]
 ·subst hz;refine (Ai 1 _ cap w).mono ?_;rintro e w' ⟨rfl,rfl⟩;exact ⟨rfl,Chg.refl _ _⟩
 rcases hs with h | ⟨b',off,e',hb',hr,hk⟩
 ·exact absurd h hz
 injection e' with e'; injection e' with e1 e2;subst e1; subst e2;exact Aj b cap rs 1 w hb (fun x hx=>⟨by have:=hr x hx; rwa [SG] at this,hk _ (Sd hx)⟩) ho.1 (fun g hg=>by
  rcases hg with rfl | ⟨q,hq,h2⟩
  ·exact ⟨hb,hf⟩
  exact (ho.2 q hq g h2).2) hl hlen (by omega) h1
open Go.Deep Go.Joins
theorem mW (b off x:Nat):(⟨b,off,none⟩:Addr).add x=⟨b,off + x,none⟩:=by
 unfold Addr.add;by_cases h:x=0
 ·subst h; simp
 simp [h]
theorem qi:prog.cellsOf 9=1:=by kernel_rfl
theorem FX:prog.cellsOf 2=1:=by kernel_rfl
theorem JC:prog.cellsOf 311=2:=by kernel_rfl
theorem Ot:prog.cellsOf 260=1:=by kernel_rfl
theorem Ou:prog.cellsOf 188=1:=by kernel_rfl
theorem JD:prog.cellsOf 262=5:=by kernel_rfl
section
variable {H:Type} {enc:TypeId × Value→H} {W:World} {base:Nat} {sp:Nat→Bool} {held:Bool}
theorem DD {P:Program} {w:af} {t:TypeId} {f0 f1 f2 f3 f4:Field} {fuel:Nat} {cs:List Value} {x:DataW H × List MemPlace} (ht:P.underlying t=some (.struct #[f0,f1,f2,f3,f4])) (h:DataW.trod enc P w base sp held fuel t cs=some x) :
  ∃ (y0 y1 y2 y3 y4:DataW H × List MemPlace) (n:Nat),cs.length=P.cellsOf t ∧
   DataW.trod enc P w base sp held n f0.type ((cs.drop f0.offset).take (P.cellsOf f0.type))=some y0 ∧
   DataW.trod enc P w base sp held n f1.type ((cs.drop f1.offset).take (P.cellsOf f1.type))=some y1 ∧
   DataW.trod enc P w base sp held n f2.type ((cs.drop f2.offset).take (P.cellsOf f2.type))=some y2 ∧
   DataW.trod enc P w base sp held n f3.type ((cs.drop f3.offset).take (P.cellsOf f3.type))=some y3 ∧
   DataW.trod enc P w base sp held n f4.type ((cs.drop f4.offset).take (P.cellsOf f4.type))=some y4:=by
 obtain ⟨xs,n,_,rfl,hl,hlen,hf⟩:=DataW.trod_struct ht h
 match xs,hlen with
 | [y0,y1,y2,y3,y4],_=>exact ⟨y0,y1,y2,y3,y4,n,hl,by simpa using hf 0 f0 rfl,by simpa using hf 1 f1 rfl,by simpa using hf 2 f2 rfl,by simpa using hf 3 f3 rfl,by simpa using hf 4 f4 rfl⟩
set_option maxRecDepth 100000 in
theorem PR {fuel:Nat} {cs:List Value} {x:DataW H × List MemPlace} (h:DataW.trod enc prog W base sp held fuel 311 cs=some x):∃ a:Al,cs=[.string a.t,.string a.s]∧a.fits:=by
 obtain ⟨y0,y1,n,-,hl,h0,h1⟩:=trod_struct2 underlying311 h;rw [JC] at hl
 match cs,hl with
 | [c0,c1],_ =>
  simp only [qi,List.drop_zero,List.drop_succ_cons,List.take_succ_cons,List.take_zero] at h0 h1;obtain ⟨a,e0,-,wa⟩:=DataW.trod_string underlying9 h0;obtain ⟨b,e1,-,wb⟩:=DataW.trod_string underlying9 h1;simp at e0 e1;subst e0 e1;exact ⟨⟨a,b⟩,rfl,wa,wb⟩
theorem Ov {fuel:Nat} {cs:List Value} {x:DataW H × List MemPlace} (h:DataW.trod enc prog W base sp held fuel 260 cs=some x) :
  ∃ (ad:Option Addr) (cap:Nat) (xs:List Al),cs=[.slice ad xs.length cap]∧gP W ad xs∧(∀ a ∈ xs,a.fits)∧xs.length≤maxLen:=by
 rcases open_slice underlying260 h with ⟨hcs,-⟩ | ⟨a,len,cap,m,n,D,Pl,hcs,-,hlc,hcm,hm,-,hel⟩
 ·exact ⟨none,0,[],hcs,.inl rfl,(fun a ha=>by cases ha),by unfold maxLen; simp⟩
 have hle:len≤m:=by rw [hm]; split <;> omega
 by_cases h0:len=0
 ·subst h0;exact ⟨some a,cap,[],hcs,.inl rfl,(fun a ha=>by cases ha),by unfold maxLen; simp⟩
 have key:∀ i,i < len→∃ t:Al,(∀ j,j < 2→W.cell? ((a.add (i * 2)).add j)=[Value.string t.t,.string t.s][j]?)∧t.fits:=by
  intro i hi;obtain ⟨cs',hc,hd⟩:=hel i (by omega);rw [JC] at hc;obtain ⟨t,rfl,hh⟩:=PR hd;exact ⟨t,fun j hj=>(World.cells?_some hc).2.2 j hj,hh⟩
 have hspot:a.spot=none:=by
  obtain ⟨t,ht,-⟩:=key 0 (by omega);have:=ht 0 (by omega);have e:(a.add (0 * 2)).add 0=a:=by simp [Addr.add]
  rw [e] at this;exact World.cell?_spot this
 obtain ⟨b,off,spot⟩:=a;simp only at hspot;subst hspot;obtain ⟨f,hf⟩:=@choose_lt Al ⟨⟨⟨#[]⟩,⟨#[]⟩⟩⟩ len _ key;have at2:∀ i,i < len→OD W b (off + i * 2) (f i):=by
  intro i hi;obtain ⟨hc,-⟩:=hf i hi;simp only [mW] at hc;exact ⟨hc 0 (by omega),hc 1 (by omega)⟩
 refine ⟨some ⟨b,off,none⟩,cap,(List.range len).map f,by simpa using hcs,.inr ⟨b,off,rfl,?_,?_⟩,?_,by simp; omega⟩
 ·exact World.block_lt_of_cell? W ⟨b,off + 0 * 2,none⟩ (at2 0 (by omega)).1
 ·intro i hi;have hi':i < len:=by simpa using hi
  simpa using at2 i hi'
 intro t ht;simp only [Sy,List.mem_range] at ht;obtain ⟨i,hi,rfl⟩:=ht;exact (hf i hi).2
theorem Lh {fuel:Nat} {cs:List Value} {x:DataW H × List MemPlace} (h:DataW.trod enc prog W base sp held fuel 188 cs=some x) :
  ∃ (ad:Option Addr) (cap:Nat) (zs:List Int),cs=[.slice ad zs.length cap]∧mZ W ad zs∧zs.length≤maxLen:=by
 rcases open_ints underlying188 underlying2 FX h with ⟨hcs,-⟩ | ⟨a,len,cap,zs,hcs,-,hlc,hcm,hm,-,hel,-⟩
 ·exact ⟨none,0,[],hcs,.inl rfl,by unfold maxLen; simp⟩
 have hle:len≤zs.length:=by rw [hm]; split <;> omega
 by_cases h0:len=0
 ·subst h0;exact ⟨some a,cap,[],hcs,.inl rfl,by unfold maxLen; simp⟩
 have hspot:a.spot=none:=by
  have:=hel 0 (by omega);have e:a.add 0=a:=by simp [Addr.add]
  rw [e] at this;exact World.cell?_spot this
 obtain ⟨b,off,spot⟩:=a;simp only at hspot;subst hspot;simp only [mW] at hel;have hl:(zs.take len).length=len:=by simp; omega
 refine ⟨some ⟨b,off,none⟩,cap,zs.take len,by rw [hl]; exact hcs,.inr ⟨b,off,rfl,?_,?_⟩,by omega⟩
 ·exact World.block_lt_of_cell? W ⟨b,off + 0,none⟩ (hel 0 (by omega))
 intro i hi;have hi':i < zs.length:=by omega
 rw [hel i hi',List.getElem_take];simp [hi']
set_option maxRecDepth 100000 in
theorem PS {fuel:Nat} {cs:List Value} {x:DataW H × List MemPlace} (h:DataW.trod enc prog W base sp held fuel 262 cs=some x) :
  ∃ r:ER,cs=[.int .i64 r.e.kind,.slice r.adA r.e.allow.length r.capA,.string r.e.over,.string r.e.name,.slice r.adK r.e.kids.length r.capK]∧r.ok W∧r.e.fits:=by
 obtain ⟨y0,y1,y2,y3,y4,n,hl,h0,h1,h2,h3,h4⟩:=DD underlying262 h;rw [JD] at hl
 match cs,hl with
 | [c0,c1,c2,c3,c4],_ =>
  simp only [qi,FX,Ot,Ou,List.drop_zero,List.drop_succ_cons,List.take_succ_cons,List.take_zero] at h0 h1 h2 h3 h4;obtain ⟨k,e0,-,-⟩:=DataW.trod_int underlying2 h0;obtain ⟨adA,capA,xs,e1,hA,fA,lA⟩:=Ov h1;obtain ⟨o,e2,-,wo⟩:=DataW.trod_string underlying9 h2;obtain ⟨nm,e3,-,wn⟩:=DataW.trod_string underlying9 h3;obtain ⟨adK,capK,zs,e4,hK,lK⟩:=Lh h4;simp at e0 e1 e2 e3 e4;subst e0 e1 e2 e3 e4;exact ⟨⟨⟨k,xs,o,nm,zs⟩,adA,capA,adK,capK⟩,rfl,⟨hA,hK⟩,fA,wo,wn,lA,lK⟩
theorem IU {fuel:Nat} {ad:Option Addr} {len cap:Nat} {x:DataW H × List MemPlace} (h:DataW.trod enc prog W base sp held fuel 131 [.slice ad len cap]=some x) :
  ∃ rs:List ER,rs.length=len∧fQ W ad rs∧(∀ r ∈ rs,r.e.fits)∧len≤maxLen:=by
 rcases open_slice underlying131 h with ⟨hcs,-⟩ | ⟨a,l,c,m,n,D,Pl,hcs,-,hlc,hcm,hm,-,hel⟩
 ·simp at hcs;obtain ⟨rfl,rfl,rfl⟩:=hcs;exact ⟨[],rfl,.inl rfl,(fun t ht=>by cases ht),by unfold maxLen; omega⟩
 simp at hcs;obtain ⟨rfl,rfl,rfl⟩:=hcs;have hle:len≤m:=by rw [hm]; split <;> omega
 by_cases h0:len=0
 ·subst h0;exact ⟨[],rfl,.inl rfl,(fun t ht=>by cases ht),by omega⟩
 have key:∀ i,i < len→∃ r:ER,(∀ j,j < 5→W.cell? ((a.add (i * 5)).add j)=[Value.int .i64 r.e.kind,.slice r.adA r.e.allow.length r.capA,.string r.e.over,.string r.e.name,.slice r.adK r.e.kids.length r.capK][j]?)∧r.ok W∧r.e.fits:=by
  intro i hi;obtain ⟨cs',hc,hd⟩:=hel i (by omega);rw [JD] at hc;obtain ⟨r,rfl,hh⟩:=PS hd;exact ⟨r,fun j hj=>(World.cells?_some hc).2.2 j hj,hh⟩
 have hspot:a.spot=none:=by
  obtain ⟨t,ht,-⟩:=key 0 (by omega);have:=ht 0 (by omega);have e:(a.add (0 * 5)).add 0=a:=by simp [Addr.add]
  rw [e] at this;exact World.cell?_spot this
 obtain ⟨b,off,spot⟩:=a;simp only at hspot;subst hspot;obtain ⟨f,hf⟩:=@choose_lt ER ⟨⟨⟨0,[],⟨#[]⟩,⟨#[]⟩,[]⟩,none,0,none,0⟩⟩ len _ key;have at5:∀ i,i < len→tK W b (off + i * 5) (f i):=by
  intro i hi;obtain ⟨hc,-⟩:=hf i hi;simp only [mW] at hc;exact ⟨hc 0 (by omega),hc 1 (by omega),hc 2 (by omega),hc 3 (by omega),hc 4 (by omega)⟩
 refine ⟨(List.range len).map f,by simp,.inr ⟨b,off,rfl,?_,?_,?_⟩,?_,by omega⟩
 ·exact World.block_lt_of_cell? W ⟨b,off + 0 * 5,none⟩ (at5 0 (by omega)).1
 ·intro i hi;have hi':i < len:=by simpa using hi
  simpa using at5 i hi'
 ·intro t ht;simp only [Sy,List.mem_range] at ht;obtain ⟨i,hi,rfl⟩:=ht;exact (hf i hi).2.1
 intro t ht;simp only [Sy,List.mem_range] at ht;obtain ⟨i,hi,rfl⟩:=ht;exact (hf i hi).2.2
end
section
variable {H:Type} {enc:TypeId × Value→H} {W:World} {base:Nat} {sp:Nat→Bool} {held:Bool}
theorem JE:prog.cellsOf 133=2:=by kernel_rfl
theorem Li:prog.cellsOf 131=1:=by kernel_rfl
set_option maxRecDepth 100000 in
theorem Rb {fuel:Nat} {cs:List Value} {x:DataW H × List MemPlace} (h:DataW.trod enc prog W base sp held fuel 133 cs=some x) :
  ∃ r:RR,cs=[.string r.name,.slice r.ad r.rows.length r.cap]∧r.ok W∧r.fits:=by
 obtain ⟨y0,y1,n,-,hl,h0,h1⟩:=trod_struct2 underlying133 h;rw [JE] at hl
 match cs,hl with
 | [c0,c1],_ =>
  simp only [qi,Li,List.drop_zero,List.drop_succ_cons,List.take_succ_cons,List.take_zero] at h0 h1;obtain ⟨a,e0,-,wa⟩:=DataW.trod_string underlying9 h0;obtain ⟨ad,len,cap,e1⟩:∃ ad len cap,c1=.slice ad len cap:=by
   rcases open_slice underlying131 h1 with ⟨hcs,-⟩ | ⟨a,l,c,m,n,D,Pl,hcs,-⟩
   ·simp at hcs; exact ⟨_,_,_,hcs⟩
   simp at hcs; exact ⟨_,_,_,hcs⟩
  simp at e0;subst e0 e1;obtain ⟨rs,rfl,hs,hf,hm⟩:=IU h1;exact ⟨⟨a,rs,ad,cap⟩,rfl,hs,wa,hm,hf⟩
theorem Lj {fuel:Nat} {ad:Option Addr} {len cap:Nat} {x:DataW H × List MemPlace} (h:DataW.trod enc prog W base sp held fuel 68 [.slice ad len cap]=some x) :
  ∃ rs:List RR,rs.length=len∧vv W ad rs∧(∀ r ∈ rs,r.fits)∧len≤maxLen:=by
 rcases open_slice underlying68 h with ⟨hcs,-⟩ | ⟨a,l,c,m,n,D,Pl,hcs,-,hlc,hcm,hm,-,hel⟩
 ·simp at hcs;obtain ⟨rfl,rfl,rfl⟩:=hcs;exact ⟨[],rfl,.inl rfl,(fun t ht=>by cases ht),by unfold maxLen; omega⟩
 simp at hcs;obtain ⟨rfl,rfl,rfl⟩:=hcs;have hle:len≤m:=by rw [hm]; split <;> omega
 by_cases h0:len=0
 ·subst h0;exact ⟨[],rfl,.inl rfl,(fun t ht=>by cases ht),by omega⟩
 have key:∀ i,i < len→∃ r:RR,(∀ j,j < 2→W.cell? ((a.add (i * 2)).add j)=[Value.string r.name,.slice r.ad r.rows.length r.cap][j]?)∧r.ok W∧r.fits:=by
  intro i hi;obtain ⟨cs',hc,hd⟩:=hel i (by omega);rw [JE] at hc;obtain ⟨r,rfl,hh⟩:=Rb hd;exact ⟨r,fun j hj=>(World.cells?_some hc).2.2 j hj,hh⟩
 have hspot:a.spot=none:=by
  obtain ⟨t,ht,-⟩:=key 0 (by omega);have:=ht 0 (by omega);have e:(a.add (0 * 2)).add 0=a:=by simp [Addr.add]
  rw [e] at this;exact World.cell?_spot this
 obtain ⟨b,off,spot⟩:=a;simp only at hspot;subst hspot;obtain ⟨f,hf⟩:=@choose_lt RR ⟨⟨⟨#[]⟩,[],none,0⟩⟩ len _ key;have at2:∀ i,i < len→AtR W b (off + i * 2) (f i):=by
  intro i hi;obtain ⟨hc,-⟩:=hf i hi;simp only [mW] at hc;exact ⟨hc 0 (by omega),hc 1 (by omega)⟩
 refine ⟨(List.range len).map f,by simp,.inr ⟨b,off,rfl,?_,?_,?_⟩,?_,by omega⟩
 ·exact World.block_lt_of_cell? W ⟨b,off + 0 * 2,none⟩ (at2 0 (by omega)).1
 ·intro i hi;have hi':i < len:=by simpa using hi
  simpa using at2 i hi'
 ·intro t ht;simp only [Sy,List.mem_range] at ht;obtain ⟨i,hi,rfl⟩:=ht;exact (hf i hi).2.1
 intro t ht;simp only [Sy,List.mem_range] at ht;obtain ⟨i,hi,rfl⟩:=ht;exact (hf i hi).2.2
theorem JF:prog.cellsOf 70=2:=by kernel_rfl
theorem Ll:prog.cellsOf 68=1:=by kernel_rfl
set_option maxRecDepth 100000 in
theorem Rc {fuel:Nat} {cs:List Value} {x:DataW H × List MemPlace} (h:DataW.trod enc prog W base sp held fuel 70 cs=some x) :
  ∃ r:TR,cs=[.string r.name,.slice r.ad r.rows.length r.cap]∧r.ok W∧r.fits:=by
 obtain ⟨y0,y1,n,-,hl,h0,h1⟩:=trod_struct2 underlying70 h;rw [JF] at hl
 match cs,hl with
 | [c0,c1],_ =>
  simp only [qi,Ll,List.drop_zero,List.drop_succ_cons,List.take_succ_cons,List.take_zero] at h0 h1;obtain ⟨a,e0,-,wa⟩:=DataW.trod_string underlying9 h0;obtain ⟨ad,len,cap,e1⟩:∃ ad len cap,c1=.slice ad len cap:=by
   rcases open_slice underlying68 h1 with ⟨hcs,-⟩ | ⟨a,l,c,m,n,D,Pl,hcs,-⟩
   ·simp at hcs; exact ⟨_,_,_,hcs⟩
   simp at hcs; exact ⟨_,_,_,hcs⟩
  simp at e0;subst e0 e1;obtain ⟨rs,rfl,hs,hf,hm⟩:=Lj h1;exact ⟨⟨a,rs,ad,cap⟩,rfl,hs,wa,hm,hf⟩
theorem IV {fuel:Nat} {ad:Option Addr} {len cap:Nat} {x:DataW H × List MemPlace} (h:DataW.trod enc prog W base sp held fuel 22 [.slice ad len cap]=some x) :
  ∃ rs:List TR,rs.length=len∧iN W ad rs∧(∀ r ∈ rs,r.fits)∧len≤maxLen:=by
 rcases open_slice underlying22 h with ⟨hcs,-⟩ | ⟨a,l,c,m,n,D,Pl,hcs,-,hlc,hcm,hm,-,hel⟩
 ·simp at hcs;obtain ⟨rfl,rfl,rfl⟩:=hcs;exact ⟨[],rfl,.inl rfl,(fun t ht=>by cases ht),by unfold maxLen; omega⟩
 simp at hcs;obtain ⟨rfl,rfl,rfl⟩:=hcs;have hle:len≤m:=by rw [hm]; split <;> omega
 by_cases h0:len=0
 ·subst h0;exact ⟨[],rfl,.inl rfl,(fun t ht=>by cases ht),by omega⟩
 have key:∀ i,i < len→∃ r:TR,(∀ j,j < 2→W.cell? ((a.add (i * 2)).add j)=[Value.string r.name,.slice r.ad r.rows.length r.cap][j]?)∧r.ok W∧r.fits:=by
  intro i hi;obtain ⟨cs',hc,hd⟩:=hel i (by omega);rw [JF] at hc;obtain ⟨r,rfl,hh⟩:=Rc hd;exact ⟨r,fun j hj=>(World.cells?_some hc).2.2 j hj,hh⟩
 have hspot:a.spot=none:=by
  obtain ⟨t,ht,-⟩:=key 0 (by omega);have:=ht 0 (by omega);have e:(a.add (0 * 2)).add 0=a:=by simp [Addr.add]
  rw [e] at this;exact World.cell?_spot this
 obtain ⟨b,off,spot⟩:=a;simp only at hspot;subst hspot;obtain ⟨f,hf⟩:=@choose_lt TR ⟨⟨⟨#[]⟩,[],none,0⟩⟩ len _ key;have at2:∀ i,i < len→Mt W b (off + i * 2) (f i):=by
  intro i hi;obtain ⟨hc,-⟩:=hf i hi;simp only [mW] at hc;exact ⟨hc 0 (by omega),hc 1 (by omega)⟩
 refine ⟨(List.range len).map f,by simp,.inr ⟨b,off,rfl,?_,?_,?_⟩,?_,by omega⟩
 ·exact World.block_lt_of_cell? W ⟨b,off + 0 * 2,none⟩ (at2 0 (by omega)).1
 ·intro i hi;have hi':i < len:=by simpa using hi
  simpa using at2 i hi'
 ·intro t ht;simp only [Sy,List.mem_range] at ht;obtain ⟨i,hi,rfl⟩:=ht;exact (hf i hi).2.1
 intro t ht;simp only [Sy,List.mem_range] at ht;obtain ⟨i,hi,rfl⟩:=ht;exact (hf i hi).2.2
end
theorem RN {α:Type} {l:List α} (h:l.length=2):∃ a b,l=[a,b]:=by
 match l,h with
 | [a,b],_=>exact ⟨a,b,rfl⟩
theorem RO {α:Type} {l:List α} (h:l.length=6):∃ a b c d e f,l=[a,b,c,d,e,f]:=by
 match l,h with
 | [a,b,c,d,e,f],_=>exact ⟨a,b,c,d,e,f,rfl⟩
theorem FY:prog.cellsOf 25=2:=by kernel_rfl
theorem zK:prog.cellsOf 27=6:=by kernel_rfl
theorem FZ:prog.cellsOf 9=1:=by kernel_rfl
theorem F3 {H:Type} {enc:TypeId × Value→H} {w:af} {base:Nat} {sp:Nat→Bool} {held:Bool} {fuel:Nat} {cs:List Value} {x:DataW H × List MemPlace}
  (h:DataW.trod enc prog w base sp held fuel 25 cs=some x):∃ a b:ByteArray,cs=[.string a,.string b]∧a.size≤maxLen∧b.size≤maxLen:=by
 obtain ⟨y0,y1,n,-,hl,h0,h1⟩:=trod_struct2 underlying25 h;rw [FY] at hl;obtain ⟨c0,c1,rfl⟩:=RN hl;simp only [FZ,List.drop_zero,List.drop_succ_cons,List.take_succ_cons,List.take_zero] at h0 h1;obtain ⟨a,e0,-,wa⟩:=DataW.trod_string underlying9 h0;obtain ⟨b,e1,-,wb⟩:=DataW.trod_string underlying9 h1;simp at e0 e1;subst e0 e1;exact ⟨a,b,rfl,wa,wb⟩
theorem F5 {H:Type} {enc:TypeId × Value→H} {w:af} {base:Nat} {sp:Nat→Bool} {held:Bool} {fuel:Nat} {cs:List Value} {x:DataW H × List MemPlace}
  (h:DataW.trod enc prog w base sp held fuel 27 cs=some x):∃ a b r c d s:ByteArray,cs=[.string a,.string b,.string r,.string c,.string d,.string s] ∧
   a.size≤maxLen∧b.size≤maxLen∧r.size≤maxLen∧c.size≤maxLen∧d.size≤maxLen∧s.size≤maxLen:=by
 obtain ⟨y0,y1,y2,y3,n,-,hl,h0,h1,h2,h3⟩:=trod_struct4 underlying27 h;rw [zK] at hl;obtain ⟨c0,c1,c2,c3,c4,c5,rfl⟩:=RO hl;simp only [FZ,FY,List.drop_zero,List.drop_succ_cons,List.take_succ_cons,List.take_zero] at h0 h1 h2 h3;obtain ⟨a,b,e0,wa,wb⟩:=F3 h0;obtain ⟨r,e1,-,wr⟩:=DataW.trod_string underlying9 h1;obtain ⟨c,d,e2,wc,wd⟩:=F3 h2;obtain ⟨s,e3,-,ws⟩:=DataW.trod_string underlying9 h3;simp at e0 e1 e2 e3;obtain ⟨rfl,rfl⟩:=e0;obtain ⟨rfl,rfl⟩:=e2;subst e1 e3;exact ⟨a,b,r,c,d,s,rfl,wa,wb,wr,wc,wd,ws⟩
theorem Lm (b off x:Nat):(⟨b,off,none⟩:Addr).add x=⟨b,off + x,none⟩:=by
 unfold Addr.add;by_cases h:x=0
 ·subst h; simp
 simp [h]
theorem Lp {H:Type} {enc:TypeId × Value→H} {W:af} {base:Nat} {sp:Nat→Bool} {held:Bool} {fuel:Nat} {ad:Option Addr} {len cap:Nat} {x:DataW H × List MemPlace}
  (h:DataW.trod enc prog W base sp held fuel 23 [.slice ad len cap]=some x):∃ ts:List Tp,ts.length=len∧Sl W ad ts∧(∀ t ∈ ts,t.fits)∧len≤maxLen:=by
 rcases open_slice underlying23 h with ⟨hcs,-⟩ | ⟨a,l,c,m,n,D,Pl,hcs,-,hlc,hcm,hm,-,hel⟩
 ·simp at hcs;obtain ⟨rfl,rfl,rfl⟩:=hcs;exact ⟨[],rfl,.inl rfl,(fun t ht=>by cases ht),by unfold maxLen; omega⟩
 simp at hcs;obtain ⟨rfl,rfl,rfl⟩:=hcs;have hle:len≤m:=by rw [hm]; split <;> omega
 by_cases h0:len=0
 ·subst h0;exact ⟨[],rfl,.inl rfl,(fun t ht=>by cases ht),by omega⟩
 have key:∀ i,i < len→∃ t:Tp,(∀ j,j < 6→W.cell? ((a.add (i * 6)).add j)=[Value.string t.a,.string t.b,.string t.r,.string t.c,.string t.d,.string t.s][j]?)∧t.fits:=by
  intro i hi;obtain ⟨cs',hc,hd⟩:=hel i (by omega);rw [zK] at hc;obtain ⟨ta,tb,tr,tc,td,ts,rfl,hh⟩:=F5 hd;exact ⟨⟨ta,tb,tr,tc,td,ts⟩,fun j hj=>(World.cells?_some hc).2.2 j hj,hh⟩
 have hspot:a.spot=none:=by
  obtain ⟨t,ht,-⟩:=key 0 (by omega);have:=ht 0 (by omega);have e:(a.add (0 * 6)).add 0=a:=by simp [Addr.add]
  rw [e] at this;exact World.cell?_spot this
 obtain ⟨b,off,spot⟩:=a;simp only at hspot;subst hspot;obtain ⟨f,hf⟩:=@choose_lt Tp ⟨⟨⟨#[]⟩,⟨#[]⟩,⟨#[]⟩,⟨#[]⟩,⟨#[]⟩,⟨#[]⟩⟩⟩ len _ key;have at6:∀ i,i < len→Mm W b (off + i * 6) (f i):=by
  intro i hi;obtain ⟨hc,-⟩:=hf i hi;simp only [Lm] at hc;exact ⟨hc 0 (by omega),hc 1 (by omega),hc 2 (by omega),hc 3 (by omega),hc 4 (by omega),hc 5 (by omega)⟩
 refine ⟨(List.range len).map f,by simp,.inr ⟨b,off,rfl,?_,?_⟩,?_,by omega⟩
 ·exact World.block_lt_of_cell? W ⟨b,off + 0 * 6,none⟩ (at6 0 (by omega)).1
 ·intro i hi;have hi':i < len:=by simpa using hi
  simpa using at6 i hi'
 intro t ht;simp only [Sy,List.mem_range] at ht;obtain ⟨i,hi,rfl⟩:=ht;exact (hf i hi).2
theorem RP {α:Type} {l:List α} (h:l.length=7):∃ x a b c d e f,l=[x,a,b,c,d,e,f]:=by
 match l,h with
 | [x,a,b,c,d,e,f],_=>exact ⟨x,a,b,c,d,e,f,rfl⟩
theorem Ow:prog.cellsOf 29=7:=by kernel_rfl
theorem Lr:prog.cellsOf 2=1:=by kernel_rfl
theorem Ox {H:Type} {enc:TypeId × Value→H} {w:af} {base:Nat} {sp:Nat→Bool} {held:Bool} {fuel:Nat} {cs:List Value} {x:DataW H × List MemPlace}
  (h:DataW.trod enc prog w base sp held fuel 29 cs=some x):∃ (k:Int) (a b r c d s:ByteArray),cs=[.int .i64 k,.string a,.string b,.string r,.string c,.string d,.string s] ∧
   a.size≤maxLen∧b.size≤maxLen∧r.size≤maxLen∧c.size≤maxLen∧d.size≤maxLen∧s.size≤maxLen:=by
 obtain ⟨y0,y1,n,-,hl,h0,h1⟩:=trod_struct2 underlying29 h;rw [Ow] at hl;obtain ⟨c0,c1,c2,c3,c4,c5,c6,rfl⟩:=RP hl;simp only [Lr,zK,List.drop_zero,List.drop_succ_cons,List.take_succ_cons,List.take_zero] at h0 h1;obtain ⟨k,e0,-,-⟩:=DataW.trod_int underlying2 h0;obtain ⟨a,b,r,c,d,s,e1,hh⟩:=F5 h1;simp at e0 e1;subst e0;obtain ⟨rfl,rfl,rfl,rfl,rfl,rfl⟩:=e1;exact ⟨k,a,b,r,c,d,s,rfl,hh⟩
set_option maxRecDepth 100000 in
theorem Oy {H:Type} {enc:TypeId × Value→H} {W w:af} {r0:Reach} {b0 base:Nat} {sp:Nat→Bool} {held:Bool} {v:Value} {d0:DataW H} {p:List MemPlace}
  (hv:Value.okWide prog W r0 b0 29 v) (h:DataW.Trod enc prog w base sp held 29 v d0 p):∃ (k:Int) (a b r c d s:ByteArray),v=.agg #[.int .i64 k,.string a,.string b,.string r,.string c,.string d,.string s] ∧
   a.size≤maxLen∧b.size≤maxLen∧r.size≤maxLen∧c.size≤maxLen∧d.size≤maxLen∧s.size≤maxLen:=by
 obtain ⟨cs,rfl,hsz⟩:=okWide_struct underlying29 hv;obtain ⟨fuel,hf⟩:=h;obtain ⟨k,a,b,r,c,d,s,e,hh⟩:=Ox hf;refine ⟨k,a,b,r,c,d,s,?_,hh⟩;simp only [Value.cells] at e;rw [← Array.toArray_toList (xs:=cs),e]
end Go.Proofs.YtdmniljjnaebbaaGreatDoor
