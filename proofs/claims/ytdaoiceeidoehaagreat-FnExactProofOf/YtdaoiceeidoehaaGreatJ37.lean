/- Contract of slices.Index over facts: the first place. -/
import Derived.Test.YtdaoiceeidoehaaGreatJ36
open Go.Proofs.Tryz
set_option maxHeartbeats 80000000
namespace Go.Proofs.YtdaoiceeidoehaaGreat
set_option maxRecDepth 100000
set_option linter.unusedVariables false
open Go.ChangeShapes Go.WideShapes Go.ChangeAt Go.RowKit Go.Maps
open Pl
theorem BJ (x y:Fc):rq x y=rq y x:=by rw [Bool.eq_iff_iff,jF,jF]; exact ⟨Eq.symm,Eq.symm⟩
theorem FM (ad:Option Addr) (cap:Nat) (ts:List Fc) (t:Fc) (w:World) (hlen:ts.length≤1048576) (hs:gX w ad ts) :
  Calls prog 47 #[.slice ad ts.length cap,.agg #[.string t.a,.string t.b,.string t.r,.string t.c,.string t.d]] w fun e w'=>(∃ r:Int,e=.returned (.int .i64 r)∧(r=-1∧aO ts t=false ∨ ∃ k:Nat,r=(k:Int)∧∃ h:k < ts.length,ts[k]=t∧t ∉ ts.take k))∧Below w.heap.size w w':=by
 have HS:=ag hs;clear hs;obtain ⟨W0,hW0⟩:∃ W0,W0=w.alloc (.cells #[.string t.a,.string t.b,.string t.r,.string t.c,.string t.d] 42):=⟨_,rfl⟩;have HB0:=pu hW0;have HX0:Hid (jI W0 w.heap.size t):=by show jI _ _ _; rw [hW0]; exact World.alloc_heap_new w _
 go_enter func47,ntmps47;go_wp2_with fail;rw [← hW0];clear hW0;go_loopw [8] (fun i wr=>∃ k:Nat,k≤ts.length∧i=.int .i64 k∧Hid (aO (ts.drop k) t=aO ts t)∧Hid (t ∉ ts.take k)∧Hid (Below W0.heap.size W0 wr)) (fun i _=>ts.length - (intOf i).toNat);case atStart=>exact ⟨0,R6 _,rfl,rfl,by show t ∉ ts.take 0; simp,R3 _ _⟩
 case round =>
  obtain ⟨k,hk,rfl,HP,UK,HB⟩:=hrel;have S9:Hid (Below w.heap.size w wr):=HB0.out.trans (HB.out.mono HB0.out.size);by_cases hlt:k < ts.length
  ·obtain ⟨b,off,SL,⟨t0,t1,t2,t3,t4⟩,hb⟩:=gX.at0 (HS.out.below S9.out) hlt;obtain ⟨x0,x1,x2,x3,x4,xl⟩:=(HX0.out.bel HB.out).c;have hk1:=bn k;have hk2:(k:Int) < (ts.length:Int):=by omega
   have HD:Hid (aO ts t=(rq ts[k] t || aO (ts.drop (k + 1)) t)):=by show _=_; rw [← HP.out]; exact Bn hlt
   subst SL;cases hq:rq ts[k] t with
   | true =>
    have heq:=ut t ts[k] (v:=true) (by rw [BJ]; exact hq);have U9:Hid (ts[k]=t):=jF.1 hq;clear hq;go_wp2_with fail;go_quiet (fail);clear t0 t1 t2 t3 t4 x0 x1 x2 x3 x4 heq;go_wp2;go_ret;exact ⟨⟨k,rfl,.inr ⟨k,rfl,hlt,U9.out,UK.out⟩⟩,below_drewN S9.out _⟩
   | false =>
    have heq:=ut t ts[k] (v:=false) (by rw [BJ]; exact hq);have Td:Hid (aO (ts.drop (k + 1)) t=aO ts t):=by show _=_; rw [HD.out,hq]; rfl
    have HNO2:Hid (t ∉ ts.take (k + 1)):=fun hm=>by
     rw [R5 hlt] at hm;rcases Sd.1 hm with hm | hm
     ·exact UK.out hm
     ·rw [← Sm.1 hm,jF.2 rfl] at hq; cases hq
    clear hq;go_wp2_with fail;go_quiet (fail);clear t0 t1 t2 t3 t4 x0 x1 x2 x3 x4 heq;go_wp2;go_roundw;case rel=>exact ⟨k + 1,by omega,by go_num,Td,HNO2,below_drewN HB.out _⟩
    case measure=>simp [intOf] <;> omega
  ·have HN:Hid (aO ts t=false):=by show _=_; rw [← HP.out,List.drop_of_length_le (by omega)]; rfl
   go_wp2;go_ret;exact ⟨⟨-1,rfl,.inl ⟨rfl,HN.out⟩⟩,S9.out⟩
set_option linter.unusedSectionVars false
section
variable [DecidableEq Fc]
def sF (st:ByteArray × ByteArray→Int) (rs:List TR) (ts:List Tp) (f:Fc):Bool:=aO (aI st rs ts) f
def nQ (st:ByteArray × ByteArray→Int) (rs:List TR) (ts:List Tp) (f:Fc):List Fc:=if aO (aI st rs ts) f then jh rs ts (aI st rs ts) f (idx (aI st rs ts) f) else []
theorem uG {st:ByteArray × ByteArray→Int} {rs:List TR} {ts:List Tp} {f:Fc} (h:aO (aI st rs ts) f=false):sF st rs ts f=false∧nQ st rs ts f=[]:=by
 unfold sF nQ;rw [h]; exact ⟨rfl,rfl⟩
theorem xh {st:ByteArray × ByteArray→Int} {rs:List TR} {ts:List Tp} {f:Fc} {k:Nat} (hk:k < (aI st rs ts).length) (h:(aI st rs ts)[k]=f):sF st rs ts f=true∧nQ st rs ts f=jh rs ts (aI st rs ts) f k:=by
 have h1:aO (aI st rs ts) f=true:=aX.2 (h ▸ RY hk);have h2:idx (aI st rs ts) f=k:=by rw [← h]; exact gP _ vO k hk
 unfold sF nQ;rw [h1,h2]; exact ⟨rfl,rfl⟩
theorem uH (test:Nat→List Fc→Bool) (L:List Fc):∀ (n:Nat) (kept:List Fc),(jS test L n kept).length≤n + kept.length
 | 0,kept=>by unfold jS; omega
 | n + 1,kept=>by
  unfold jS;split
  ·omega
  ·rename_i f _;split
   ·have:=uH test L n kept; omega
   ·have:=uH test L n (f::kept);rw [List.length_cons] at this;omega
theorem Oa {st:ByteArray × ByteArray→Int} {rs:List TR} {ts:List Tp} {f:Fc}:(nQ st rs ts f).length≤115201:=by
 cases h:aO (aI st rs ts) f with
 | false=>rw [(uG h).2]; simp
 | true =>
  obtain ⟨k,hk,e⟩:=Sz (aX.1 h);rw [(xh hk e).2];have h1:=uH (gy rs ts (aI st rs ts)) (aI st rs ts) k [f];have h2:=nk st (rs:=rs) (ts:=ts);unfold jh;simp only [List.length_singleton] at h1;omega
theorem j4 {st:ByteArray × ByteArray→Int} {rs rs':List TR} (h:ae rs'=ae rs) (ts:List Tp) (f:Fc):sF st rs' ts f=sF st rs ts f∧nQ st rs' ts f=nQ st rs ts f:=by
 have e:fC rs'=fC rs:=by funext t; unfold fC; rw [h]
 have e2:aI st rs' ts=aI st rs ts:=by unfold aI aP mY; rw [e,h]
 have e3:∀ Q f k,jh rs' ts Q f k=jh rs ts Q f k:=fun Q f k=>by
  have e4:gy rs' ts Q=gy rs ts Q:=by
   funext i kept
   unfold gy p8 qN;rw [h]
  unfold jh;rw [e4]
 unfold sF nQ;rw [e2,e3]; exact ⟨rfl,rfl⟩
theorem FN (st:ByteArray × ByteArray→Int) (ad:Option Addr) (cap:Nat) (rs:List TR) (SQ:Option Addr) (cap':Nat) (ts:List Tp) (f:Fc) (w:World) (hlen:rs.length≤1048576) (hs:jd w ad rs) (hl:∀ r ∈ rs,r.light) (hfr:∀ r ∈ rs,r.fits) (hlt:ts.length≤1048576) (hst:Sl w SQ ts) (hft:∀ x ∈ ts,x.fits) (hle:bI (ae rs)=true→Least (ae rs) st) :
  Calls prog 21 #[.slice ad rs.length cap,.slice SQ ts.length cap',.agg #[.string f.a,.string f.b,.string f.r,.string f.c,.string f.d]] w fun e w'=>∃ WG cap5,e=.returned (.tuple #[.slice WG (nQ st rs ts f).length cap5,.bool (sF st rs ts f)])∧gX w' WG (nQ st rs ts f)∧Below w.heap.size w w' :=
 (wC st ad cap rs SQ cap' ts f w hlen hs hl hfr hlt hst hft (sD hfr hft) hle).mono fun e w' ⟨h,hb⟩=>by
  rcases h with ⟨h,he⟩ | ⟨k,hk,adP,YT,h1,h2,he,h3⟩
  ·rw [(uG h).1,(uG h).2];exact ⟨none,0,he,.inl rfl,hb⟩
  ·rw [(xh hk h1).1,(xh hk h1).2];exact ⟨adP,YT,he,h3,hb⟩
def RQ (st:ByteArray × ByteArray→Int) (rs:List TR) (ts:List Tp) (f:Fc) (w:World) (e:Ending) (w':World):Prop:=(∃ v,e=.returned (.tuple #[v,.bool (sF st rs ts f)])∧w'.ownsRow w.heap.size 42 5 v (nQ st rs ts f).length (au (nQ st rs ts f)))∧Below w.heap.size w w'
theorem wH (st:ByteArray × ByteArray→Int) (ad:Option Addr) (cap:Nat) (rs:List TR) (SQ:Option Addr) (cap':Nat) (ts:List Tp) (f:Fc) (w:World) (hlen:rs.length≤1048576) (hs:jd w ad rs) (hl:∀ r ∈ rs,r.light) (hfr:∀ r ∈ rs,r.fits) (hcp:∀ r ∈ rs,r.caps) (hlt:ts.length≤1048576) (hst:Sl w SQ ts) (hft:∀ x ∈ ts,x.fits) (hle:bI (ae rs)=true→Least (ae rs) st) :
  Calls prog 22 #[.slice ad rs.length cap,.slice SQ ts.length cap',.agg #[.string f.a,.string f.b,.string f.r,.string f.c,.string f.d]] w (RQ st rs ts f w):=by
 have hQl:=nk st (rs:=rs) (ts:=ts);have HQF:=ag (sD (st:=st) hfr hft);have SS:=ag (Iw (st:=st) (ts:=ts) hle);obtain ⟨W0,hW0⟩:∃ W0,W0=w.alloc (.cells #[.string f.a,.string f.b,.string f.r,.string f.c,.string f.d] 42):=⟨_,rfl⟩;have hB0:Below w.heap.size w W0:=by rw [hW0]; exact (R3 _ _).alloc (R4 _) _
 have T9:Hid (jI W0 w.heap.size f):=by show jI _ _ _; rw [hW0]; exact World.alloc_heap_new w _
 have HC:=ag (Dg st ad cap rs SQ cap' ts W0 hlen (hs.below hB0) hl hfr hcp hlt (hst.below hB0) hft hle);have HS:=ag (hs.below hB0);have Tj:=ag hft;have HB0:=ag hB0;have UK:Hid (aP (fC rs) rs ts=false→aI st rs ts=[]):=fun h=>iI h;clear hs hl hfr hcp hst hft hle hB0;go_enter func22,ntmps22;go_wp2_with fail;rw [← hW0];clear hW0;refine HC.out.mono ?_;rintro e w1 ⟨hb1,⟨hr,rfl⟩ | ⟨hr,P,D,br,bp,bt,nr,np,n1,Mr,Er,Mp,vo,vu,TF,Te,bK,nK,rfl,hPM,Us,hcap⟩⟩
 ·have HB1:=ag (HB0.out.trans (hb1.mono HB0.out.size));have HR:Hid (RQ st rs ts f w (.returned (.tuple #[.slice none 0 0,.bool false])) w1):=by
   have h0:aO (aI st rs ts) f=false:=by rw [UK.out hr]; rfl
   refine ⟨⟨.slice none 0 0,by rw [(uG h0).1],?_⟩,HB1.out⟩;rw [(uG h0).2]; exact World.ownsRow_nil _ _ _ _
  clear hb1 hr HC;go_wp2;exact bodyPost_ret (v:=.tuple #[.slice none 0 0,.bool false]) (by simp [results,Tryz.results22,go_sem]) rfl HR.out
 ·have hsd:bI (ae rs)=true∧ts.length≤40:=by
   unfold aP eQ at hr;simp only [R7,Sj] at hr;exact ⟨hr.1.1,hr.1.2.1⟩
  have HSH:=ag (bq.1 hsd.1).1;have ht40:=hsd.2;obtain ⟨Q,hQ⟩:∃ Q,Q=aI st rs ts:=⟨_,rfl⟩;have HQN:Hid Q.Nodup:=by show Q.Nodup; rw [hQ]; exact vO
  have Ub:Hid (∀ x ∈ Q,okB x=true):=by show ∀ x ∈ Q,okB x=true; rw [hQ]; exact KW
  have HYES:Hid (∀ k (hk:k < Q.length),Q[k]=f→sF st rs ts f=true∧nQ st rs ts f=jh rs ts Q f k):=by
   show ∀ k (hk:k < Q.length),Q[k]=f→sF st rs ts f=true∧nQ st rs ts f=jh rs ts Q f k;rw [hQ]; exact fun k hk h=>xh hk h
  have HNON:Hid (aO Q f=false→sF st rs ts f=false∧nQ st rs ts f=[]):=by
   show aO Q f=false→_;rw [hQ]; exact fun h=>uG h
  rw [← hQ] at hQl HQF SS hPM hcap;obtain ⟨k0,k1,k2,k3,k4,kl⟩:=T9.out.c;have g0:=aA hb1 kl k0;have g1:=aA hb1 kl k1;have g2:=aA hb1 kl k2;have g3:=aA hb1 kl k3;have g4:=aA hb1 kl k4;have HB1:=ag (HB0.out.trans (hb1.mono HB0.out.size));have HS1:=ag (HS.out.below hb1);have HPM:=ag hPM;have Vn:=ag Us;have hPl:=hPM.lt;have c1:=hPM.c1;have HIX:Hid (∀ W',Below w1.heap.size w1 W'→Calls prog 47 #[.slice TF Q.length Te,.agg #[.string f.a,.string f.b,.string f.r,.string f.c,.string f.d]] W' fun e w'=>(∃ r:Int,e=.returned (.int .i64 r)∧(r=-1∧aO Q f=false ∨ ∃ k:Nat,r=(k:Int)∧∃ h:k < Q.length,Q[k]=f∧f ∉ Q.take k))∧Below W'.heap.size W' w'):=fun W' hb=>FM TF Te Q f W' (by omega) (HPM.out.found.below hb);have HSA:Hid (∀ w',Below w1.heap.size w1 w'→w'.cell? ⟨P,1,none⟩=some (.slice TF Q.length Te)∧w'.cell? ⟨w.heap.size,0,none⟩=some (.string f.a)∧w'.cell? ⟨w.heap.size,1,none⟩=some (.string f.b)∧w'.cell? ⟨w.heap.size,2,none⟩=some (.string f.r)∧w'.cell? ⟨w.heap.size,3,none⟩=some (.string f.c)∧w'.cell? ⟨w.heap.size,4,none⟩=some (.string f.d)∧Below w1.heap.size w1 w'):=fun w' h =>
   ⟨aA h hPl c1,aA h (ay g0) g0,aA h (ay g1) g1,aA h (ay g2) g2,aA h (ay g3) g3,aA h (ay g4) g4,h⟩
  clear hr hsd hb1 hPM Us hQ k0 k1 k2 k3 k4 kl HC UK g0 g1 g2 g3 g4 c1;go_wp2_with fail
  go_region_held3 (fun w'=>w'.cell? ⟨P,1,none⟩=some (.slice TF Q.length Te)∧w'.cell? ⟨w.heap.size,0,none⟩=some (.string f.a)∧w'.cell? ⟨w.heap.size,1,none⟩=some (.string f.b)∧w'.cell? ⟨w.heap.size,2,none⟩=some (.string f.r)∧w'.cell? ⟨w.heap.size,3,none⟩=some (.string f.c)∧w'.cell? ⟨w.heap.size,4,none⟩=some (.string f.d)∧Below w1.heap.size w1 w')
   (first | assumption | exact HSA.out _ (QF (And.right (And.right (And.right (And.right (And.right (And.right (by assumption))))))) hbx) | exact HSA.out _ (R3 _ _).drew)
   (first | (go_at_call 47; refine (HIX.out _ (And.right (And.right (And.right (And.right (And.right (And.right (by assumption)))))))).mono ?_; rintro e w2 ⟨⟨r,rfl,hr⟩,hbx⟩))
  rename_i hJ;have HB2:=ag hJ.2.2.2.2.2.2;have c1:=hJ.1;clear hJ hbx;rcases hr with ⟨rfl,h0⟩ | ⟨k,rfl,hk,hkf,-⟩
  ·have HR:Hid (RQ st rs ts f w (.returned (.tuple #[.slice none 0 0,.bool false])) w2):=by
    obtain ⟨e1,e2⟩:=HNON.out h0;refine ⟨⟨.slice none 0 0,by rw [e1],?_⟩,HB1.out.trans (HB2.out.mono HB1.out.size)⟩;rw [e2]; exact World.ownsRow_nil _ _ _ _
   clear h0;go_wp2;exact bodyPost_ret (v:=.tuple #[.slice none 0 0,.bool false]) (by simp [results,Tryz.results22,go_sem]) rfl HR.out
  ·have hln:(Q.take (k + 1)).length=k + 1:=by rw [Sq]; omega
   have Yj:=ag (IJ w2 rs ts Q ad P D br bp bt bK nK n1 nr Mr Er _ _ np Mp vo vu TF Te TF Te k (HPM.out.below HB2.out) (Vn.out.below HB2.out) Tj.out ht40 HSH.out (HS1.out.below HB2.out) HQF.out HQN.out hQl Ub.out SS.out hk ((HPM.out.found.below HB2.out).takeF (k + 1)) (by omega));rw [hln,hkf] at Yj;have HYE:=ag (HYES.out k hk hkf);have n1:(0:Int)≤(k:Int) + 1:=by omega
   have n2:(k:Int) + 1≤(Te:Int):=by omega
   have n3:¬ (k:Int) < 0:=by omega
   have hw3:IntKind.i64.wrap ((k:Int) + 1)=((k + 1:Nat):Int):=by rw [IntKind.wrap_i64]; omega
   have hP2:P < w2.heap.size:=RZ hPl HB2.out.size;clear hln hkf;go_wp2_with fail;refine Yj.out.mono ?_;rintro e w3 ⟨⟨v,rfl,hown⟩,hb3⟩;have HR:Hid (RQ st rs ts f w (.returned (.tuple #[v,.bool true])) w3):=by
    have hs2:w.heap.size≤w2.heap.size:=Sb HB1.out.size HB2.out.size;refine ⟨⟨v,by rw [HYE.out.1],?_⟩,(HB1.out.trans (HB2.out.mono HB1.out.size)).trans (hb3.mono hs2)⟩;rw [HYE.out.2]; exact iZ hown hs2
   clear hown hb3 Yj;go_wp2;exact bodyPost_ret (v:=.tuple #[v,.bool true]) (by simp [results,Tryz.results22,go_sem]) rfl HR.out
end
def OC (k:Nat) (xs:List Fc):List Fc:=(List.range xs.length).map fun i=>⟨aT (k + 5 * i),aT (k + 5 * i + 1),aT (k + 5 * i + 2),aT (k + 5 * i + 3),aT (k + 5 * i + 4)⟩
theorem Dl (k:Nat) (xs:List Fc):(OC k xs).length=xs.length:=by simp [OC]
theorem Ob (k:Nat) (xs:List Fc) (i:Nat) (h:i < (OC k xs).length):(OC k xs)[i]=⟨aT (k + 5 * i),aT (k + 5 * i + 1),aT (k + 5 * i + 2),aT (k + 5 * i + 3),aT (k + 5 * i + 4)⟩:=by simp [OC]
theorem PP {k:Nat} {xs:List Fc}:OC k xs=[] ↔ xs=[]:=by
 constructor
 ·intro h; have:=congrArg List.length h; rw [Dl] at this; exact Si.1 this
 ·rintro rfl; rfl
theorem gX.chg {S:Nat→Prop} {w w':World} {ad:Option Addr} {xs:List Fc} (h:gX w ad xs) (hc:Chg S w w') (hn:∀ g o,xs ≠ []→ad=some ⟨g,o,none⟩→¬ S g):gX w' ad xs:=by
 rcases h with h | ⟨b,off,e,hb,hr⟩
 ·exact .inl h
 ·by_cases hx:xs=[]
  ·exact .inl hx
  ·exact .inr ⟨b,off,e,RZ hb hc.size,fun i hi=>(hr i hi).same fun o=>hc.cell hb (hn b off hx e)⟩
set_option maxRecDepth 8000 in
theorem Aa (ad:Option Addr) (cap:Nat) (xs:List Fc) (k:Nat) (w:World) (hs:gX w ad xs) (hg:xs ≠ []→∃ g,ad=some ⟨g,0,none⟩∧dL w g) (h0:0 < k) (h1:k + 5 * xs.length≤1000000000) :
  Calls prog 25 #[.slice ad xs.length cap,.int .i64 (k:Int)] w fun e w'=>e=.returned (.int .i64 ((k + 5 * xs.length:Nat):Int))∧gX w' ad (OC k xs)∧Chg (fun g=>xs ≠ []∧ad=some ⟨g,0,none⟩) w w':=by
 by_cases hz:xs=[]
 ·subst hz;go_enter func25,ntmps25;go_wp2;go_loopw [1,5] (fun kv i wr=>kv=.int .i64 (k:Int)∧i=.int .i64 0∧wr=w) (fun _ _ _=>0);case atStart=>exact ⟨rfl,rfl,rfl⟩
  case round =>
   obtain ⟨rfl,rfl,rfl⟩:=hrel;go_wp2;go_ret;exact ⟨rfl,.inl rfl,Chg.refl _ _⟩
 obtain ⟨g,rfl,hfree⟩:=hg hz;rcases hs with h | ⟨b,off,VC,hb,hr⟩
 ·exact absurd h hz
 obtain ⟨rfl,rfl⟩:g=b∧0=off:=by injection VC with e; injection e with e1 e2; exact ⟨e1,e2⟩
 have HZ:=aC hz;clear hz VC hg;go_enter func25,ntmps25;go_wp2;go_loopw [1,5] (fun kv i wr=>∃ j:Nat,j≤xs.length∧kv=.int .i64 ((k + 5 * j:Nat):Int)∧i=.int .i64 (j:Int)∧Hid (∀ (x:Nat) (hx:x < xs.length),Hg wr g (x * 5) (if x < j then ⟨aT (k + 5 * x),aT (k + 5 * x + 1),aT (k + 5 * x + 2),aT (k + 5 * x + 3),aT (k + 5 * x + 4)⟩ else xs[x]))∧Hid (dL wr g)∧Hid (Chg (fun y=>xs ≠ []∧(some ⟨g,0,none⟩:Option Addr)=some ⟨y,0,none⟩) w wr)) (fun _ i _=>xs.length - (intOf i).toNat);case atStart=>exact ⟨0,R6 _,rfl,rfl,fun x hx=>by have:=hr x hx; simpa using this,hfree,Chg.refl _ _⟩
 case round =>
  clear hr;obtain ⟨j,hj,rfl,rfl,HC,TD,Uf⟩:=hrel;by_cases hlt:j < xs.length
  ·obtain ⟨c0,c1,c2,c3,c4⟩:=HC.out j hlt;rw [if_neg (by omega)] at c0 c1 c2 c3 c4;have hgl:g < wr.heap.size:=RZ hb Uf.out.size;have hj1:=bn j;have hj2:(j:Int) < (xs.length:Int):=by omega
   have hjb:k + 5 * j + 5≤1000000000:=by omega
   have WF:Hid (Chg (fun y=>y=g) wr wr):=Chg.refl _ _;have Z5:Hid (∀ o,(∀ c,c < 0→o ≠ j * 5 + c)→wr.cell? ⟨g,o,none⟩=wr.cell? ⟨g,o,none⟩):=fun o _=>rfl;go_wp2_with fail;refine (aG _ (k + 5 * j) _ (by omega) (by omega) (by omega)).mono ?_;rintro e u0 ⟨rfl,hb0⟩;have HB0:=aC hb0;have Y0:u0.cell? ⟨g,j * 5,none⟩=some (.string xs[j].a):=mK hb0 hgl c0;have Y8:u0.cell? ⟨g,j * 5 + 1,none⟩=some (.string xs[j].b):=mK hb0 hgl c1;have Y9:u0.cell? ⟨g,j * 5 + 2,none⟩=some (.string xs[j].r):=mK hb0 hgl c2;have Za:u0.cell? ⟨g,j * 5 + 3,none⟩=some (.string xs[j].c):=mK hb0 hgl c3;have Zb:u0.cell? ⟨g,j * 5 + 4,none⟩=some (.string xs[j].d):=mK hb0 hgl c4;have fz0:∀ y,u0.frozen? ⟨g,y,none⟩=false:=fun y=>mF hb0 hgl (WF.out.free g hgl TD.out y);obtain ⟨v1,hV1⟩:∃ v,v=u0.setCell ⟨g,j * 5,none⟩ (.string (aT (k + 5 * j))):=⟨_,rfl⟩;have WC:Hid (Chg (fun y=>y=g) wr v1):=WF.out.trans ((Chg.of HB0.out).trans (by rw [hV1]; exact Chg.set _ rfl));have hg1:g < v1.heap.size:=RZ hgl WC.out.size;have Ug:Hid (∀ o,(∀ c,c < 1→o ≠ j * 5 + c)→v1.cell? ⟨g,o,none⟩=wr.cell? ⟨g,o,none⟩):=fun o ho=>by rw [hV1,mO (by have:=ho 0 (by omega); omega),HB0.out.cell (p:=⟨g,o,none⟩) hgl]
   have Zc:Hid (v1.cell? ⟨g,j * 5,none⟩=some (.string (aT (k + 5 * j)))):=by show _=_; rw [hV1]; exact mS Y0
   replace c1:v1.cell? ⟨g,j * 5 + 1,none⟩=some (.string xs[j].b):=by rw [hV1,mO (by omega)]; exact Y8
   replace c2:v1.cell? ⟨g,j * 5 + 2,none⟩=some (.string xs[j].r):=by rw [hV1,mO (by omega)]; exact Y9
   replace c3:v1.cell? ⟨g,j * 5 + 3,none⟩=some (.string xs[j].c):=by rw [hV1,mO (by omega)]; exact Za
   replace c4:v1.cell? ⟨g,j * 5 + 4,none⟩=some (.string xs[j].d):=by rw [hV1,mO (by omega)]; exact Zb
   clear hb0 c0;go_wp2_with fail;rw [← hV1];refine (aG _ (k + 5 * j + 1) _ (by omega) (by omega) (by omega)).mono ?_;rintro e u1 ⟨rfl,hb1⟩;have HB1:=aC hb1;have Zd:u1.cell? ⟨g,j * 5 + 1,none⟩=some (.string xs[j].b):=mK hb1 hg1 c1;have Ze:u1.cell? ⟨g,j * 5 + 2,none⟩=some (.string xs[j].r):=mK hb1 hg1 c2;have Zf:u1.cell? ⟨g,j * 5 + 3,none⟩=some (.string xs[j].c):=mK hb1 hg1 c3;have Zg:u1.cell? ⟨g,j * 5 + 4,none⟩=some (.string xs[j].d):=mK hb1 hg1 c4;have fz1:∀ y,u1.frozen? ⟨g,y,none⟩=false:=fun y=>mF hb1 hg1 (WC.out.free g hgl TD.out y);obtain ⟨v2,hV2⟩:∃ v,v=u1.setCell ⟨g,j * 5 + 1,none⟩ (.string (aT (k + 5 * j + 1))):=⟨_,rfl⟩;have Vf:Hid (Chg (fun y=>y=g) wr v2):=WC.out.trans ((Chg.of HB1.out).trans (by rw [hV2]; exact Chg.set _ rfl));have hg2:g < v2.heap.size:=RZ hgl Vf.out.size;have Ta:Hid (∀ o,(∀ c,c < 2→o ≠ j * 5 + c)→v2.cell? ⟨g,o,none⟩=wr.cell? ⟨g,o,none⟩):=fun o ho=>by rw [hV2,mO (by have:=ho 1 (by omega); omega),HB1.out.cell (p:=⟨g,o,none⟩) hg1]; exact Ug.out o fun c hc=>ho c (by omega)
   have Zh:Hid (v2.cell? ⟨g,j * 5 + 1,none⟩=some (.string (aT (k + 5 * j + 1)))):=by show _=_; rw [hV2]; exact mS Zd
   have Zi:Hid (v2.cell? ⟨g,j * 5,none⟩=some (.string (aT (k + 5 * j)))):=by show _=_; rw [hV2,mO (by omega),HB1.out.cell (p:=⟨g,j * 5,none⟩) hg1]; exact Zc.out
   replace c2:v2.cell? ⟨g,j * 5 + 2,none⟩=some (.string xs[j].r):=by rw [hV2,mO (by omega)]; exact Ze
   replace c3:v2.cell? ⟨g,j * 5 + 3,none⟩=some (.string xs[j].c):=by rw [hV2,mO (by omega)]; exact Zf
   replace c4:v2.cell? ⟨g,j * 5 + 4,none⟩=some (.string xs[j].d):=by rw [hV2,mO (by omega)]; exact Zg
   clear hb1 hV1 fz0 Y0 Y8 Y9 Za Zb c1;go_wp2_with fail;rw [← hV2];refine (aG _ (k + 5 * j + 2) _ (by omega) (by omega) (by omega)).mono ?_;rintro e u2 ⟨rfl,hb2⟩;have HB2:=aC hb2;have Zj:u2.cell? ⟨g,j * 5 + 2,none⟩=some (.string xs[j].r):=mK hb2 hg2 c2;have Zk:u2.cell? ⟨g,j * 5 + 3,none⟩=some (.string xs[j].c):=mK hb2 hg2 c3;have Zl:u2.cell? ⟨g,j * 5 + 4,none⟩=some (.string xs[j].d):=mK hb2 hg2 c4;have fz2:∀ y,u2.frozen? ⟨g,y,none⟩=false:=fun y=>mF hb2 hg2 (Vf.out.free g hgl TD.out y);obtain ⟨v3,UG⟩:∃ v,v=u2.setCell ⟨g,j * 5 + 2,none⟩ (.string (aT (k + 5 * j + 2))):=⟨_,rfl⟩;have Z7:Hid (Chg (fun y=>y=g) wr v3):=Vf.out.trans ((Chg.of HB2.out).trans (by rw [UG]; exact Chg.set _ rfl));have hg3:g < v3.heap.size:=RZ hgl Z7.out.size;have Ui:Hid (∀ o,(∀ c,c < 3→o ≠ j * 5 + c)→v3.cell? ⟨g,o,none⟩=wr.cell? ⟨g,o,none⟩):=fun o ho=>by rw [UG,mO (by have:=ho 2 (by omega); omega),HB2.out.cell (p:=⟨g,o,none⟩) hg2]; exact Ta.out o fun c hc=>ho c (by omega)
   have Zm:Hid (v3.cell? ⟨g,j * 5 + 2,none⟩=some (.string (aT (k + 5 * j + 2)))):=by show _=_; rw [UG]; exact mS Zj
   have Zn:Hid (v3.cell? ⟨g,j * 5,none⟩=some (.string (aT (k + 5 * j)))):=by show _=_; rw [UG,mO (by omega),HB2.out.cell (p:=⟨g,j * 5,none⟩) hg2]; exact Zi.out
   have Zo:Hid (v3.cell? ⟨g,j * 5 + 1,none⟩=some (.string (aT (k + 5 * j + 1)))):=by show _=_; rw [UG,mO (by omega),HB2.out.cell (p:=⟨g,j * 5 + 1,none⟩) hg2]; exact Zh.out
   replace c3:v3.cell? ⟨g,j * 5 + 3,none⟩=some (.string xs[j].c):=by rw [UG,mO (by omega)]; exact Zk
   replace c4:v3.cell? ⟨g,j * 5 + 4,none⟩=some (.string xs[j].d):=by rw [UG,mO (by omega)]; exact Zl
   clear hb2 hV2 fz1 Zd Ze Zf Zg c2;go_wp2_with fail;rw [← UG];refine (aG _ (k + 5 * j + 3) _ (by omega) (by omega) (by omega)).mono ?_;rintro e u3 ⟨rfl,hb3⟩;have HB3:=aC hb3;have Zp:u3.cell? ⟨g,j * 5 + 3,none⟩=some (.string xs[j].c):=mK hb3 hg3 c3;have Zq:u3.cell? ⟨g,j * 5 + 4,none⟩=some (.string xs[j].d):=mK hb3 hg3 c4;have fz3:∀ y,u3.frozen? ⟨g,y,none⟩=false:=fun y=>mF hb3 hg3 (Z7.out.free g hgl TD.out y);obtain ⟨v4,Vx⟩:∃ v,v=u3.setCell ⟨g,j * 5 + 3,none⟩ (.string (aT (k + 5 * j + 3))):=⟨_,rfl⟩;have HV4:Hid (Chg (fun y=>y=g) wr v4):=Z7.out.trans ((Chg.of HB3.out).trans (by rw [Vx]; exact Chg.set _ rfl));have hg4:g < v4.heap.size:=RZ hgl HV4.out.size;have TU:Hid (∀ o,(∀ c,c < 4→o ≠ j * 5 + c)→v4.cell? ⟨g,o,none⟩=wr.cell? ⟨g,o,none⟩):=fun o ho=>by rw [Vx,mO (by have:=ho 3 (by omega); omega),HB3.out.cell (p:=⟨g,o,none⟩) hg3]; exact Ui.out o fun c hc=>ho c (by omega)
   have Zr:Hid (v4.cell? ⟨g,j * 5 + 3,none⟩=some (.string (aT (k + 5 * j + 3)))):=by show _=_; rw [Vx]; exact mS Zp
   have Zt:Hid (v4.cell? ⟨g,j * 5,none⟩=some (.string (aT (k + 5 * j)))):=by show _=_; rw [Vx,mO (by omega),HB3.out.cell (p:=⟨g,j * 5,none⟩) hg3]; exact Zn.out
   have Zu:Hid (v4.cell? ⟨g,j * 5 + 1,none⟩=some (.string (aT (k + 5 * j + 1)))):=by show _=_; rw [Vx,mO (by omega),HB3.out.cell (p:=⟨g,j * 5 + 1,none⟩) hg3]; exact Zo.out
   have Zv:Hid (v4.cell? ⟨g,j * 5 + 2,none⟩=some (.string (aT (k + 5 * j + 2)))):=by show _=_; rw [Vx,mO (by omega),HB3.out.cell (p:=⟨g,j * 5 + 2,none⟩) hg3]; exact Zm.out
   replace c4:v4.cell? ⟨g,j * 5 + 4,none⟩=some (.string xs[j].d):=by rw [Vx,mO (by omega)]; exact Zq
   clear hb3 UG fz2 Zj Zk Zl c3;go_wp2_with fail;rw [← Vx];refine (aG _ (k + 5 * j + 4) _ (by omega) (by omega) (by omega)).mono ?_;rintro e u4 ⟨rfl,hb4⟩;have Uo:=aC hb4;have e4_4:u4.cell? ⟨g,j * 5 + 4,none⟩=some (.string xs[j].d):=mK hb4 hg4 c4;have fz4:∀ y,u4.frozen? ⟨g,y,none⟩=false:=fun y=>mF hb4 hg4 (HV4.out.free g hgl TD.out y);obtain ⟨v5,Vy⟩:∃ v,v=u4.setCell ⟨g,j * 5 + 4,none⟩ (.string (aT (k + 5 * j + 4))):=⟨_,rfl⟩;have HV5:Hid (Chg (fun y=>y=g) wr v5):=HV4.out.trans ((Chg.of Uo.out).trans (by rw [Vy]; exact Chg.set _ rfl));have hg5:g < v5.heap.size:=RZ hgl HV5.out.size;have TA:Hid (∀ o,(∀ c,c < 5→o ≠ j * 5 + c)→v5.cell? ⟨g,o,none⟩=wr.cell? ⟨g,o,none⟩):=fun o ho=>by rw [Vy,mO (by have:=ho 4 (by omega); omega),Uo.out.cell (p:=⟨g,o,none⟩) hg4]; exact TU.out o fun c hc=>ho c (by omega)
   have Zw:Hid (v5.cell? ⟨g,j * 5 + 4,none⟩=some (.string (aT (k + 5 * j + 4)))):=by show _=_; rw [Vy]; exact mS e4_4
   have Zx:Hid (v5.cell? ⟨g,j * 5,none⟩=some (.string (aT (k + 5 * j)))):=by show _=_; rw [Vy,mO (by omega),Uo.out.cell (p:=⟨g,j * 5,none⟩) hg4]; exact Zt.out
   have Zy:Hid (v5.cell? ⟨g,j * 5 + 1,none⟩=some (.string (aT (k + 5 * j + 1)))):=by show _=_; rw [Vy,mO (by omega),Uo.out.cell (p:=⟨g,j * 5 + 1,none⟩) hg4]; exact Zu.out
   have Zz:Hid (v5.cell? ⟨g,j * 5 + 2,none⟩=some (.string (aT (k + 5 * j + 2)))):=by show _=_; rw [Vy,mO (by omega),Uo.out.cell (p:=⟨g,j * 5 + 2,none⟩) hg4]; exact Zv.out
   have ZA:Hid (v5.cell? ⟨g,j * 5 + 3,none⟩=some (.string (aT (k + 5 * j + 3)))):=by show _=_; rw [Vy,mO (by omega),Uo.out.cell (p:=⟨g,j * 5 + 3,none⟩) hg4]; exact Zr.out
   clear hb4 Vx fz3 Zp Zq c4;have Tx:Hid (∀ (x:Nat) (hx:x < xs.length),Hg v5 g (x * 5) (if x < j + 1 then ⟨aT (k + 5 * x),aT (k + 5 * x + 1),aT (k + 5 * x + 2),aT (k + 5 * x + 3),aT (k + 5 * x + 4)⟩ else xs[x])):=by
    intro x hx;by_cases e:x=j
    ·subst e;rw [if_pos (by omega)];exact ⟨Zx.out,Zy.out,Zz.out,ZA.out,Zw.out⟩
    ·have hx2:=HC.out x hx;have e2:(if x < j + 1 then (⟨aT (k + 5 * x),aT (k + 5 * x + 1),aT (k + 5 * x + 2),aT (k + 5 * x + 3),aT (k + 5 * x + 4)⟩:Fc) else xs[x])=(if x < j then ⟨aT (k + 5 * x),aT (k + 5 * x + 1),aT (k + 5 * x + 2),aT (k + 5 * x + 3),aT (k + 5 * x + 4)⟩ else xs[x]):=by
      by_cases h2:x < j
      ·rw [if_pos h2,if_pos (by omega)]
      ·rw [if_neg h2,if_neg (by omega)]
     rw [e2];obtain ⟨p0,p1,p2,p3,p4⟩:=hx2;exact ⟨by rw [TA.out _ (fun c hc=>by omega)]; exact p0,by rw [TA.out _ (fun c hc=>by omega)]; exact p1,by rw [TA.out _ (fun c hc=>by omega)]; exact p2,by rw [TA.out _ (fun c hc=>by omega)]; exact p3,by rw [TA.out _ (fun c hc=>by omega)]; exact p4⟩
   have VL:Hid (Chg (fun y=>xs ≠ []∧(some ⟨g,0,none⟩:Option Addr)=some ⟨y,0,none⟩) w v5):=Uf.out.trans (HV5.out.mono fun y hy=>⟨HZ.out,by rw [hy]⟩);have HFN:Hid (dL v5 g):=HV5.out.free g hgl TD.out;have HVE:Hid (v5=_):=Vy;clear Vy;go_wp2;rw [← HVE.out];go_roundw;case rel=>exact ⟨j + 1,by omega,by go_num,by go_num,Tx,HFN,VL⟩
   case measure=>simp [intOf] <;> omega
  ·obtain rfl:j=xs.length:=by omega
   have V7:Hid (gX wr (some ⟨g,0,none⟩) (OC k xs)):=.inr ⟨g,0,rfl,RZ hb Uf.out.size,fun i hi=>by
    have h2:i < xs.length:=by rw [Dl] at hi; exact hi
    have:=HC.out i h2;rw [if_pos h2] at this;rw [Su,Ob]; exact this⟩
   go_wp2;go_ret;exact ⟨by go_num,V7.out,Uf.out⟩
theorem l6 {w w1 w2:World} {b o:Nat} {z0 z1 z2 z3 z4:Value} (h:w1.cell? ⟨b,o,none⟩=some z0∧w1.cell? ⟨b,o + 1,none⟩=some z1∧w1.cell? ⟨b,o + 2,none⟩=some z2∧w1.cell? ⟨b,o + 3,none⟩=some z3∧w1.cell? ⟨b,o + 4,none⟩=some z4∧b < w1.heap.size∧Below w.heap.size w w1) (hb:Below w1.heap.size w1 w2):w2.cell? ⟨b,o,none⟩=some z0∧w2.cell? ⟨b,o + 1,none⟩=some z1∧w2.cell? ⟨b,o + 2,none⟩=some z2∧w2.cell? ⟨b,o + 3,none⟩=some z3∧w2.cell? ⟨b,o + 4,none⟩=some z4∧b < w2.heap.size∧Below w.heap.size w w2:=by
 obtain ⟨a0,a1,a2,a3,a4,h1,h2⟩:=h;exact ⟨mK hb h1 a0,mK hb h1 a1,mK hb h1 a2,mK hb h1 a3,mK hb h1 a4,RZ h1 hb.size,h2.trans (hb.mono h2.size)⟩
set_option maxRecDepth 8000 in
theorem qx (ad:Option Addr) (cap:Nat) (xs:List Fc) (k:Nat) (w:World) (hs:gX w ad (OC k xs)) (h0:0 < k) (h1:k + 5 * xs.length≤1000000000) :
  Calls prog 26 #[.slice ad xs.length cap,.int .i64 (k:Int)] w fun e w'=>e=.returned (.int .i64 ((k + 5 * xs.length:Nat):Int))∧Below w.heap.size w w':=by
 have HS:=aC hs;clear hs;go_enter func26,ntmps26;go_wp2;go_loopw [1,5] (fun kv i wr=>∃ j:Nat,j≤xs.length∧kv=.int .i64 ((k + 5 * j:Nat):Int)∧i=.int .i64 (j:Int)∧Hid (Below w.heap.size w wr)) (fun _ i _=>xs.length - (intOf i).toNat);case atStart=>exact ⟨0,R6 _,rfl,rfl,R3 _ _⟩
 case round =>
  obtain ⟨j,hj,rfl,rfl,HB⟩:=hrel;by_cases hlt:j < xs.length
  ·rcases HS.out.below HB.out with h | ⟨b,off,rfl,hb,hr⟩
   ·rw [PP] at h; rw [h] at hlt; simp at hlt
   obtain ⟨c0,c1,c2,c3,c4⟩:=hr j (by rw [Dl]; exact hlt);rw [Ob] at c0 c1 c2 c3 c4;have hj1:=bn j;have hj2:(j:Int) < (xs.length:Int):=by omega
   have hjb:k + 5 * j + 5≤1000000000:=by omega
   clear hr;go_wp2_with fail
   go_region_held3 (fun w'=>w'.cell? ⟨b,off + j * 5,none⟩=some (.string (aT (k + 5 * j)))∧w'.cell? ⟨b,off + j * 5 + 1,none⟩=some (.string (aT (k + 5 * j + 1)))∧w'.cell? ⟨b,off + j * 5 + 2,none⟩=some (.string (aT (k + 5 * j + 2)))∧w'.cell? ⟨b,off + j * 5 + 3,none⟩=some (.string (aT (k + 5 * j + 3)))∧w'.cell? ⟨b,off + j * 5 + 4,none⟩=some (.string (aT (k + 5 * j + 4)))∧b < w'.heap.size∧Below w.heap.size w w')
    (first | assumption | exact l6 (by assumption) hbx | exact ⟨c0,c1,c2,c3,c4,hb,HB.out.drew⟩)
    (first | (go_at_call 49; refine (aG _ (k + 5 * j) _ (by omega) (by omega) (by omega)).mono ?_; rintro e w' ⟨rfl,hbx⟩))
   rename_i hH;clear c0 c1 c2 c3 c4 hb HB;obtain ⟨c0,c1,c2,c3,c4,hb,hB⟩:=hH;have HB:Hid (Below w.heap.size w _):=hB;clear hB;go_wp2_with fail
   go_region_held3 (fun w'=>w'.cell? ⟨b,off + j * 5,none⟩=some (.string (aT (k + 5 * j)))∧w'.cell? ⟨b,off + j * 5 + 1,none⟩=some (.string (aT (k + 5 * j + 1)))∧w'.cell? ⟨b,off + j * 5 + 2,none⟩=some (.string (aT (k + 5 * j + 2)))∧w'.cell? ⟨b,off + j * 5 + 3,none⟩=some (.string (aT (k + 5 * j + 3)))∧w'.cell? ⟨b,off + j * 5 + 4,none⟩=some (.string (aT (k + 5 * j + 4)))∧b < w'.heap.size∧Below w.heap.size w w')
    (first | assumption | exact l6 (by assumption) hbx | exact ⟨c0,c1,c2,c3,c4,hb,HB.out.drew⟩)
    (first | (go_at_call 49; refine (aG _ (k + 5 * j + 1) _ (by omega) (by omega) (by omega)).mono ?_; rintro e w' ⟨rfl,hbx⟩))
   rename_i hH;clear c0 c1 c2 c3 c4 hb HB;obtain ⟨c0,c1,c2,c3,c4,hb,hB⟩:=hH;have HB:Hid (Below w.heap.size w _):=hB;clear hB;go_wp2_with fail
   go_region_held3 (fun w'=>w'.cell? ⟨b,off + j * 5,none⟩=some (.string (aT (k + 5 * j)))∧w'.cell? ⟨b,off + j * 5 + 1,none⟩=some (.string (aT (k + 5 * j + 1)))∧w'.cell? ⟨b,off + j * 5 + 2,none⟩=some (.string (aT (k + 5 * j + 2)))∧w'.cell? ⟨b,off + j * 5 + 3,none⟩=some (.string (aT (k + 5 * j + 3)))∧w'.cell? ⟨b,off + j * 5 + 4,none⟩=some (.string (aT (k + 5 * j + 4)))∧b < w'.heap.size∧Below w.heap.size w w')
    (first | assumption | exact l6 (by assumption) hbx | exact ⟨c0,c1,c2,c3,c4,hb,HB.out.drew⟩)
    (first | (go_at_call 49; refine (aG _ (k + 5 * j + 2) _ (by omega) (by omega) (by omega)).mono ?_; rintro e w' ⟨rfl,hbx⟩))
   rename_i hH;clear c0 c1 c2 c3 c4 hb HB;obtain ⟨c0,c1,c2,c3,c4,hb,hB⟩:=hH;have HB:Hid (Below w.heap.size w _):=hB;clear hB;go_wp2_with fail
   go_region_held3 (fun w'=>w'.cell? ⟨b,off + j * 5,none⟩=some (.string (aT (k + 5 * j)))∧w'.cell? ⟨b,off + j * 5 + 1,none⟩=some (.string (aT (k + 5 * j + 1)))∧w'.cell? ⟨b,off + j * 5 + 2,none⟩=some (.string (aT (k + 5 * j + 2)))∧w'.cell? ⟨b,off + j * 5 + 3,none⟩=some (.string (aT (k + 5 * j + 3)))∧w'.cell? ⟨b,off + j * 5 + 4,none⟩=some (.string (aT (k + 5 * j + 4)))∧b < w'.heap.size∧Below w.heap.size w w')
    (first | assumption | exact l6 (by assumption) hbx | exact ⟨c0,c1,c2,c3,c4,hb,HB.out.drew⟩)
    (first | (go_at_call 49; refine (aG _ (k + 5 * j + 3) _ (by omega) (by omega) (by omega)).mono ?_; rintro e w' ⟨rfl,hbx⟩))
   rename_i hH;clear c0 c1 c2 c3 c4 hb HB;obtain ⟨c0,c1,c2,c3,c4,hb,hB⟩:=hH;have HB:Hid (Below w.heap.size w _):=hB;clear hB;go_wp2_with fail
   go_region_held3 (fun w'=>w'.cell? ⟨b,off + j * 5,none⟩=some (.string (aT (k + 5 * j)))∧w'.cell? ⟨b,off + j * 5 + 1,none⟩=some (.string (aT (k + 5 * j + 1)))∧w'.cell? ⟨b,off + j * 5 + 2,none⟩=some (.string (aT (k + 5 * j + 2)))∧w'.cell? ⟨b,off + j * 5 + 3,none⟩=some (.string (aT (k + 5 * j + 3)))∧w'.cell? ⟨b,off + j * 5 + 4,none⟩=some (.string (aT (k + 5 * j + 4)))∧b < w'.heap.size∧Below w.heap.size w w')
    (first | assumption | exact l6 (by assumption) hbx | exact ⟨c0,c1,c2,c3,c4,hb,HB.out.drew⟩)
    (first | (go_at_call 49; refine (aG _ (k + 5 * j + 4) _ (by omega) (by omega) (by omega)).mono ?_; rintro e w' ⟨rfl,hbx⟩))
   rename_i hH;clear c0 c1 c2 c3 c4 hb HB;obtain ⟨c0,c1,c2,c3,c4,hb,hB⟩:=hH;have HB:Hid (Below w.heap.size w _):=hB;clear hB;clear c0 c1 c2 c3 c4 hb;go_wp2;go_roundw;case rel=>exact ⟨j + 1,by omega,by go_num,by go_num,HB⟩
   case measure=>simp [intOf] <;> omega
  ·obtain rfl:j=xs.length:=by omega
   go_wp2;go_ret;exact ⟨by go_num,HB.out⟩
end Go.Proofs.YtdaoiceeidoehaaGreat
