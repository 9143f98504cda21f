/- Lists of tuples in memory of their own; two lists of tuples that are the same are told so. -/
import Derived.Test.YtdmniljjnaebbaaGreatDoorJ23
import Derived.Test.YtdmniljjnaebbaaGreatDoorChanged
import Derived.RangeFuncNested
open Go.Proofs.Tryz
set_option maxHeartbeats 80000000
namespace Go.Proofs.YtdmniljjnaebbaaGreatDoor
set_option maxRecDepth 100000
open Go.ChangeShapes Go.WideShapes Go.ChangeAt Go.RowKit
open Pl
open Go.Maps in
theorem implSchemaOk_any (ad : Option Addr) (cap : Nat) (rs : List TR) (w : World) (hlen : rs.length ≤ 1048576) (hs : fo w ad rs) (hl : ∀ r ∈ rs, r.light) (hf : ∀ r ∈ rs, r.fits) (hcp : ∀ r ∈ rs, r.caps) :
    Calls Tryz.prog 70 #[.slice ad rs.length cap] w fun e w' => e = .returned (.bool (aI (af rs))) ∧ Below w.heap.size w w' := by
  have HC := Be ad cap rs w hlen hs hl hf hcp
  clear hs hl hf hcp
  go_enter Tryz.func70, Tryz.ntmps70
  go_wp2_with fail
  refine HC.mono ?_
  rintro e w6 ⟨hL, hb6⟩
  rcases hL with ⟨bS, nS, σ, rfl, hS, -⟩ | ⟨rfl, hno⟩
  · have HY := Cu hS
    have HY2 : Hid (aI (af rs) = true) := HY
    clear HY hS HC
    go_wp2
    go_ret
    exact ⟨ae HY2.out.symm, hb6⟩
  · have HY2 : Hid (aI (af rs) = false) := dE hno
    clear hno HC
    go_wp2
    go_ret
    exact ⟨ae HY2.out.symm, hb6⟩
def Bf (B:Nat) (w:World) (ad:Option Addr) (L:List Tp):Prop:=Sl w ad L∧(L ≠ []→∃ g,ad=some ⟨g,0,none⟩∧B≤g∧BR w g)
theorem J3 {B:Nat} {w:World} {ad:Option Addr} {L:List Tp} (h:L=[]):Bf B w ad L:=⟨.inl h,fun k=>absurd h k⟩
theorem Bf.mono {B B':Nat} {w:World} {ad:Option Addr} {L:List Tp} (h:Bf B w ad L) (hB:B'≤B):Bf B' w ad L:=⟨h.1,fun k=>by obtain ⟨g,e,h1,h2⟩:=h.2 k; exact ⟨g,e,Nat.le_trans hB h1,h2⟩⟩
theorem NK {w:World} {ad:Option Addr} {L:List Tp} (h:Sl w ad L) (hne:L ≠ []) {g o:Nat} (e:ad=some ⟨g,o,none⟩):g < w.heap.size:=by
 rcases h with h | ⟨b,off,e2,hb,-⟩
 ·exact absurd h hne
 ·rw [e] at e2; injection e2 with e2; injection e2 with e2 e3; omega
theorem Bf.later {B:Nat} {w w':World} {ad:Option Addr} {L:List Tp} (h:Bf B w ad L) (hb:Below w.heap.size w w'):Bf B w' ad L:=⟨h.1.below hb,fun hne=>by
 obtain ⟨g,e,h1,h2⟩:=h.2 hne;exact ⟨g,e,h1,fun j=>mF hb (NK h.1 hne e) (h2 j)⟩⟩
open Go.Maps
def J4 (ts:List Ty) (t:Tp):Bool:=!nz ts t.a t.b t.r t.c t.d t.s
theorem LC {w:World} {base n:Nat} {v:Value} {ts:List Tp} (h:w.ownsRow base 42 6 v n (aB ts)) (hn:n=ts.length):∃ ad cap,v=.slice ad ts.length cap∧Bf base w ad ts:=by
 obtain ⟨ad,cap,hv,hsl,hg⟩:=Jl h hn;refine ⟨ad,cap,hv,hsl,fun hne=>?_⟩;rcases h.2 with ⟨rfl,h0⟩ | ⟨g,cap',cur,rfl,hbg,-⟩
 ·rw [hn] at h0; exact absurd (List.length_eq_zero_iff.1 h0) hne
 ·injection hv with e1 e2 e3;exact ⟨g,e1.symm,hbg,(hg g e1.symm).2.2⟩
theorem Ib {rs:List TR} {t:Tp} (h:aI (af rs)=true) (ht:t.ok=true):mY (af rs) t.a t.r ⟨t.c,t.s⟩=!J4 (af rs) t:=by
 have hSP:=bI.1 h;have h1:mY (af rs) t.a t.r ⟨t.c,t.s⟩=cz (aL (aG (af rs) t.a t.r)) (aL (aG (af rs) t.a t.r)).length ⟨t.c,t.s⟩:=xD _ (Gf hSP _ _);have h2:aT t.a t.b t.r t.c t.d t.s=true:=ht;rw [h1];unfold J4 nz;rw [h2];simp
set_option linter.unusedVariables false
def jl (rs:List TR) (t:Tp):Bool:=nz (af rs) t.a t.b t.r t.c t.d t.s
theorem Ic {rs:List TR} {t:Tp} (h:aI (af rs)=true) (ht:t.ok=true):mY (af rs) t.a t.r ⟨t.c,t.s⟩=jl rs t:=by
 rw [Ib h ht]; unfold J4 jl; simp
def NL (w:World) (r:Option (List Tp)) (e:Ending) (w':World):Prop :=
 Below w.heap.size w w'∧((r=none∧e=.returned (.tuple #[.slice none 0 0,.bool false])) ∨ ∃ L v,r=some L∧e=.returned (.tuple #[v,.bool true])∧w'.ownsRow w.heap.size 42 6 v L.length (aB L))
theorem MX {w:World} {base:Nat} {v:Value} {ts:List Tp} (h:w.ownsRow base 42 6 v ts.length (aB ts)):∃ ad cap,v=.slice ad ts.length cap∧Sv w ad cap ts:=by
 have h':=h;rcases h.2 with ⟨rfl,h0⟩ | ⟨g,cap,cur,rfl,hb,hg,hc,-⟩
 ·exact ⟨none,0,by rw [h0],.inl ⟨rfl,rfl,List.length_eq_zero_iff.1 h0⟩⟩
 ·obtain ⟨hrow,hl,hle⟩:=wG h';exact ⟨_,cap,rfl,.inr ⟨g,0,rfl,hl,hle,hrow⟩⟩
theorem sM (ad:Option Addr) (cap:Nat) (rs:List TR) (b off cap':Nat) (cs:List (Int × Tp)) (n:Int) (w:World) (hE:yw w) (hlen:rs.length≤1048576) (hs:fo w ad rs) (hl:∀ r ∈ rs,r.light) (hfr:∀ r ∈ rs,r.fits) (hcp:∀ r ∈ rs,r.caps) (hlc:cs.length≤1048576) (hcap:cs.length≤cap') (hb:b < w.heap.size) (hr:AO w b off cs) (hf:∀ c ∈ cs,c.2.fits) :
  Calls prog 46 #[.slice ad rs.length cap,.slice (some ⟨b,off,none⟩) cs.length cap',.int .i64 n] w (NL w (qi (jl rs) (aI (af rs)) cs n)):=by
 have HE:=aC hE;have HS:=aC hs;have HL:=aC hl;have HFR:=aC hfr;have HCP:=aC hcp;have HR:=aC hr;have HF:=aC hf;clear hE hs hl hfr hcp hr hf;go_enter func46,ntmps46;go_wp2_with fail;refine (implSchemaOk_any ad cap rs _ hlen HS.out HL.out HFR.out HCP.out).mono ?_;rintro e w1 ⟨he,hb1⟩;have HB1:=aC hb1;clear hb1;cases h1:aI (af rs) with
 | false =>
  rw [h1] at he; subst he;have HN:Hid (qi (jl rs) (aI (af rs)) cs n=none):=by show _=_; rw [h1]; unfold qi; rw [if_neg (by simp)]
  clear h1;go_wp2;exact bodyPost_ret (v:=.tuple #[.slice none 0 0,.bool false]) (by simp [results,Tryz.results46,go_sem]) rfl ⟨HB1.out,.inl ⟨HN.out,rfl⟩⟩
 | true =>
  rw [h1] at he; subst he;have H1:=aC h1;clear h1;by_cases h60:60 < cs.length
  ·have hd:decide ((60:Int) < (cs.length:Int))=true:=by simp; omega
   have HN:Hid (qi (jl rs) (aI (af rs)) cs n=none):=by show _=_; rw [H1.out]; unfold qi; rw [if_neg (by omega)]
   go_wp2;exact bodyPost_ret (v:=.tuple #[.slice none 0 0,.bool false]) (by simp [results,Tryz.results46,go_sem]) rfl ⟨HB1.out,.inl ⟨HN.out,rfl⟩⟩
  have hd:decide ((60:Int) < (cs.length:Int))=false:=by simp; omega
  by_cases hn0:n < 0
  ·have HN:Hid (qi (jl rs) (aI (af rs)) cs n=none):=by show _=_; rw [H1.out]; unfold qi; rw [if_neg (by omega)]
   go_wp2;exact bodyPost_ret (v:=.tuple #[.slice none 0 0,.bool false]) (by simp [results,Tryz.results46,go_sem]) rfl ⟨HB1.out,.inl ⟨HN.out,rfl⟩⟩
  have hd0:decide (n < 0)=false:=by simp; omega
  by_cases hn1:(cs.length:Int) < n
  ·have HN:Hid (qi (jl rs) (aI (af rs)) cs n=none):=by show _=_; rw [H1.out]; unfold qi; rw [if_neg (by omega)]
   go_wp2;exact bodyPost_ret (v:=.tuple #[.slice none 0 0,.bool false]) (by simp [results,Tryz.results46,go_sem]) rfl ⟨HB1.out,.inl ⟨HN.out,rfl⟩⟩
  have hd1:decide ((cs.length:Int) < n)=false:=by simp; omega
  obtain ⟨N,rfl⟩:∃ N:Nat,n=(N:Int):=⟨n.toNat,by omega⟩;have hNc:N≤cs.length:=by omega
  have HN:Hid (qi (jl rs) (aI (af rs)) cs N=kH (jl rs) [] (cs.take N)):=by show _=_; rw [H1.out]; unfold qi; rw [if_pos (by refine ⟨rfl,?_,?_,?_⟩ <;> omega)]; simp
  have hSP:=bI.1 H1.out;obtain ⟨h6,hr6,-⟩:=aX hSP.1;have HTAB:=aC (sG hSP.1);have HTBL:=aC (mW ad cap rs w1 h6 (HS.out.below HB1.out) hr6 HFR.out);clear hSP hr6 h6 h60 hn0 hn1;go_wp2_with fail;refine HTBL.out.mono ?_;rintro e w2 ⟨rfl,hV2,hb2⟩;have HB2:=aC (HB1.out.trans (hb2.mono HB1.out.size));have HV2:=aC hV2;obtain ⟨bm,hbm⟩:∃ bm,bm=w1.heap.size:=⟨_,rfl⟩;rw [← hbm] at HV2 ⊢;clear hb2 hV2 HTBL hbm;have hNcap:(N:Int)≤(cap':Int):=by omega
  go_wp2;go_loopw [9,38] (fun v i wr=>∃ (m:Nat) (ts:List Tp) (adv:Option Addr) (cv:Nat),m≤N∧i=.int .i64 m∧v=.slice adv ts.length cv∧Hid (kH (jl rs) ts ((cs.take N).drop m)=kH (jl rs) [] (cs.take N))∧Hid (wr.ownsRow w.heap.size 42 6 (.slice adv ts.length cv) ts.length (aB ts))∧Hid (Below w.heap.size w wr)∧Hid (aD bz prog 172 wr bm 36 (kP rs))∧Hid (Sv wr adv cv ts)∧Hid (Up ts∧(∀ x ∈ ts,x.ok=true)∧ts.length≤40∧∀ x ∈ ts,x.fits)) (fun _ i _=>N - (intOf i).toNat);case atStart=>exact ⟨0,[],none,0,Nat.zero_le _,rfl,rfl,rfl,World.ownsRow_nil _ _ _ _,HB2,HV2,.inl ⟨rfl,rfl,rfl⟩,List.Pairwise.nil,by simp,by simp,by simp⟩
  case round =>
   clear HB2 HV2 HB1;obtain ⟨m,ts,adv,cv,hm,rfl,rfl,HLG,HO,HB,HMV,HSV,HU⟩:=hrel;by_cases hlt:m < N
   ·have hd2:decide ((m:Int) < (N:Int))=true:=by simp; omega
    have hmc:m < cs.length:=by omega
    obtain ⟨c0,c1,c2,c3,c4,c5,c6⟩:=HR.out.below HB.out hb m hmc;have hm0:=bq m;have hm1:(m:Int) < (N:Int):=by omega
    have HST:=aC (BX (fit:=jl rs) (ts:=ts) hmc hlt);have HCF:=aC (HF.out _ (List.getElem_mem hmc));obtain ⟨c,hc⟩:∃ c,c=cs[m]:=⟨_,rfl⟩;rw [← hc] at c0 c1 c2 c3 c4 c5 c6 HST HCF;obtain ⟨W4,hW4⟩:∃ W4,W4=wr.alloc (.cells #[.int .i64 c.1,.string c.2.a,.string c.2.b,.string c.2.r,.string c.2.c,.string c.2.d,.string c.2.s] 44):=⟨_,rfl⟩;have HB4:=mq hW4;have HX4:Hid (oD W4 wr.heap.size c.1 c.2):=by show oD _ _ _ _; rw [hW4]; refine ⟨?_,?_,?_,?_,?_,?_,?_,?_⟩ <;> simp
    have HBW4:Hid (Below w.heap.size w W4):=HB.out.trans (HB4.out.mono HB.out.size);have HCALL:=aC (Cn (.map (some bm)) (jl rs) adv cv ts c.1 c.2 W4 (HE.out.below HBW4.out) (fun w5 hok hb5=>by
     have hB5:Below w.heap.size w w5:=HBW4.out.trans (hb5.mono HBW4.out.size);refine (CJ bm 36 rs ad (kP rs) c.2.a c.2.b c.2.r c.2.c c.2.d c.2.s w5 ((HMV.out.below HB4.out).below hb5) HTAB.out (HS.out.below hB5) HL.out HCF.out.1 HCF.out.2.2.1).mono ?_;rintro e w6 ⟨rfl,hb6⟩;exact ⟨by rw [Ic H1.out hok],hb6⟩) HU.out.2.2.1 (HSV.out.below HB4.out) HU.out.2.2.2 HU.out.1 HU.out.2.1 HCF.out)
    clear hc;go_wp2_with fail;rw [← hW4];clear hW4 c0 c1 c2 c3 c4 c5 c6;refine HCALL.out.mono ?_;rintro e w5 ⟨hb5,hor⟩;have HB5:=aC (HBW4.out.trans (hb5.mono HBW4.out.size));have HMV5:=aC ((HMV.out.below HB4.out).below hb5);rcases hor with ⟨hz,v,rfl,hown⟩ | ⟨hz,g,T,u,v,rfl,-⟩
    ·have HR2:=aC (pJ HU.out.1 HU.out.2.1 HU.out.2.2.1 hz);have HF2:=aC (wH (k:=c.1) HU.out.2.2.2 HCF.out);have HL2:Hid (kH (jl rs) (dC ts c.1 c.2) ((cs.take N).drop (m + 1))=kH (jl rs) [] (cs.take N)):=by show _=_; rw [← HLG.out,HST.out,if_pos hz]
     have hown2:=iw hown HBW4.out.size;obtain ⟨adn,cn,rfl,hsv⟩:=MX hown2;have HO2:=aC hown2;have HSV2:=aC hsv;clear hown hown2 hsv hb5 HCALL hz;go_wp2;go_roundw;case rel=>exact ⟨m + 1,dC ts c.1 c.2,adn,cn,by omega,by go_num,rfl,HL2,HO2,HB5,HMV5,HSV2,HR2.out.1,HR2.out.2.1,HR2.out.2.2,HF2.out⟩
     case measure=>simp [intOf] <;> omega
    ·have HN2:Hid (qi (jl rs) (aI (af rs)) cs N=none):=by show _=_; rw [HN.out,← HLG.out,HST.out,if_neg hz]
     clear hb5 HCALL hz;go_wp2;exact bodyPost_ret (v:=.tuple #[.slice none 0 0,.bool false]) (by simp [results,Tryz.results46,go_sem]) rfl ⟨HB5.out,.inl ⟨HN2.out,rfl⟩⟩
   ·have hd2:decide ((m:Int) < (N:Int))=false:=by simp; omega
    obtain rfl:m=N:=by omega
    have HN2:Hid (qi (jl rs) (aI (af rs)) cs m=some ts):=by show _=_; rw [HN.out,← HLG.out,List.drop_eq_nil_of_le (by rw [List.length_take]; omega)]; rfl
    go_wp2;exact bodyPost_ret (v:=.tuple #[.slice adv ts.length cv,.bool true]) (by simp [results,Tryz.results46,go_sem]) rfl ⟨HB.out,.inr ⟨ts,_,HN2.out,rfl,HO.out⟩⟩
end Go.Proofs.YtdmniljjnaebbaaGreatDoor
namespace Go.Proofs.YtdmniljjnaebbaaGreatDoor
set_option maxRecDepth 100000
set_option linter.unusedVariables false
open Go.ChangeShapes Go.WideShapes Go.ChangeAt Go.RowKit
open Pl
attribute [local go_sem ↓] Go.wp_at_zero Go.wp_at_succ
theorem MZ {w W w':World} {n m p q:Nat} {x0 x1 x2 x3 x4 x5 x6 y0 y1 y2 y3 y4 y5 y6:Value} (h:W.cell? ⟨n,p,none⟩=some x0∧W.cell? ⟨n,p + 1,none⟩=some x1∧W.cell? ⟨n,p + 2,none⟩=some x2∧W.cell? ⟨n,p + 3,none⟩=some x3∧W.cell? ⟨n,p + 4,none⟩=some x4∧W.cell? ⟨n,p + 5,none⟩=some x5∧W.cell? ⟨n,p + 6,none⟩=some x6∧W.cell? ⟨m,q,none⟩=some y0∧W.cell? ⟨m,q + 1,none⟩=some y1∧W.cell? ⟨m,q + 2,none⟩=some y2∧W.cell? ⟨m,q + 3,none⟩=some y3∧W.cell? ⟨m,q + 4,none⟩=some y4∧W.cell? ⟨m,q + 5,none⟩=some y5∧W.cell? ⟨m,q + 6,none⟩=some y6∧n < W.heap.size∧m < W.heap.size∧Below w.heap.size w W) (hb:Below W.heap.size W w'):w'.cell? ⟨n,p,none⟩=some x0∧w'.cell? ⟨n,p + 1,none⟩=some x1∧w'.cell? ⟨n,p + 2,none⟩=some x2∧w'.cell? ⟨n,p + 3,none⟩=some x3∧w'.cell? ⟨n,p + 4,none⟩=some x4∧w'.cell? ⟨n,p + 5,none⟩=some x5∧w'.cell? ⟨n,p + 6,none⟩=some x6∧w'.cell? ⟨m,q,none⟩=some y0∧w'.cell? ⟨m,q + 1,none⟩=some y1∧w'.cell? ⟨m,q + 2,none⟩=some y2∧w'.cell? ⟨m,q + 3,none⟩=some y3∧w'.cell? ⟨m,q + 4,none⟩=some y4∧w'.cell? ⟨m,q + 5,none⟩=some y5∧w'.cell? ⟨m,q + 6,none⟩=some y6∧n < w'.heap.size∧m < w'.heap.size∧Below w.heap.size w w':=by
 obtain ⟨h0,h1,h2,h3,h4,h5,h6,g0,g1,g2,g3,g4,g5,g6,hn,hm,hB⟩:=h;have hc:∀ o,w'.cell? ⟨n,o,none⟩=W.cell? ⟨n,o,none⟩:=fun o=>hb.cell (p:=⟨n,o,none⟩) hn;have hd:∀ o,w'.cell? ⟨m,o,none⟩=W.cell? ⟨m,o,none⟩:=fun o=>hb.cell (p:=⟨m,o,none⟩) hm;exact ⟨(hc _).trans h0,(hc _).trans h1,(hc _).trans h2,(hc _).trans h3,(hc _).trans h4,(hc _).trans h5,(hc _).trans h6,(hd _).trans g0,(hd _).trans g1,(hd _).trans g2,(hd _).trans g3,(hd _).trans g4,(hd _).trans g5,(hd _).trans g6,Nat.lt_of_lt_of_le hn hb.size,Nat.lt_of_lt_of_le hm hb.size,hB.trans (hb.mono hB.size)⟩
theorem yF (b b' off off' cap cap':Nat) (cs:List (Int × Tp)) (w:World) (hlen:cs.length≤maxLen) (hr:AO w b off cs) (hb:b < w.heap.size) (hr':AO w b' off' cs) (hb':b' < w.heap.size) :
  Calls prog 26 #[.slice (some ⟨b,off,none⟩) cs.length cap,.slice (some ⟨b',off',none⟩) cs.length cap'] w fun e w'=>e=.returned (.bool true)∧Below w.heap.size w w':=by
 unfold maxLen at hlen;go_enter func26,ntmps26;go_wp2;go_loopw [5] (fun i wr=>∃ k:Nat,k≤cs.length∧i=.int .i64 k∧Below w.heap.size w wr) (fun i _=>cs.length - (intOf i).toNat);case atStart=>exact ⟨0,Nat.zero_le _,rfl,Below.refl _ _⟩
 case round =>
  obtain ⟨k,hk,rfl,hB⟩:=hrel;by_cases hlt:k < cs.length
  ·obtain ⟨c0,c1,c2,c3,c4,c5,c6⟩:=(hr.below hB hb) k hlt;obtain ⟨q0,q1,q2,q3,q4,q5,q6⟩:=(hr'.below hB hb') k hlt;have hk1:=bq k;have hk2:(k:Int) < (cs.length:Int):=by omega
   have H0:Hid ((fun w'=>w'.cell? ⟨b,off + k * 7,none⟩=some (.int .i64 cs[k].1)∧w'.cell? ⟨b,off + k * 7 + 1,none⟩=some (.string cs[k].2.a)∧w'.cell? ⟨b,off + k * 7 + 2,none⟩=some (.string cs[k].2.b)∧w'.cell? ⟨b,off + k * 7 + 3,none⟩=some (.string cs[k].2.r)∧w'.cell? ⟨b,off + k * 7 + 4,none⟩=some (.string cs[k].2.c)∧w'.cell? ⟨b,off + k * 7 + 5,none⟩=some (.string cs[k].2.d)∧w'.cell? ⟨b,off + k * 7 + 6,none⟩=some (.string cs[k].2.s)∧w'.cell? ⟨b',off' + k * 7,none⟩=some (.int .i64 cs[k].1)∧w'.cell? ⟨b',off' + k * 7 + 1,none⟩=some (.string cs[k].2.a)∧w'.cell? ⟨b',off' + k * 7 + 2,none⟩=some (.string cs[k].2.b)∧w'.cell? ⟨b',off' + k * 7 + 3,none⟩=some (.string cs[k].2.r)∧w'.cell? ⟨b',off' + k * 7 + 4,none⟩=some (.string cs[k].2.c)∧w'.cell? ⟨b',off' + k * 7 + 5,none⟩=some (.string cs[k].2.d)∧w'.cell? ⟨b',off' + k * 7 + 6,none⟩=some (.string cs[k].2.s)∧b < w'.heap.size∧b' < w'.heap.size∧Below w.heap.size w w') wr.drew):=⟨c0,c1,c2,c3,c4,c5,c6,q0,q1,q2,q3,q4,q5,q6,by have:=hB.size; simp; omega,by have:=hB.size; simp; omega,hB.drew⟩;clear hr hr' c0 c1 c2 c3 c4 c5 c6 q0 q1 q2 q3 q4 q5 q6;go_wp2_with fail
   go_region_held3 (fun w'=>w'.cell? ⟨b,off + k * 7,none⟩=some (.int .i64 cs[k].1)∧w'.cell? ⟨b,off + k * 7 + 1,none⟩=some (.string cs[k].2.a)∧w'.cell? ⟨b,off + k * 7 + 2,none⟩=some (.string cs[k].2.b)∧w'.cell? ⟨b,off + k * 7 + 3,none⟩=some (.string cs[k].2.r)∧w'.cell? ⟨b,off + k * 7 + 4,none⟩=some (.string cs[k].2.c)∧w'.cell? ⟨b,off + k * 7 + 5,none⟩=some (.string cs[k].2.d)∧w'.cell? ⟨b,off + k * 7 + 6,none⟩=some (.string cs[k].2.s)∧w'.cell? ⟨b',off' + k * 7,none⟩=some (.int .i64 cs[k].1)∧w'.cell? ⟨b',off' + k * 7 + 1,none⟩=some (.string cs[k].2.a)∧w'.cell? ⟨b',off' + k * 7 + 2,none⟩=some (.string cs[k].2.b)∧w'.cell? ⟨b',off' + k * 7 + 3,none⟩=some (.string cs[k].2.r)∧w'.cell? ⟨b',off' + k * 7 + 4,none⟩=some (.string cs[k].2.c)∧w'.cell? ⟨b',off' + k * 7 + 5,none⟩=some (.string cs[k].2.d)∧w'.cell? ⟨b',off' + k * 7 + 6,none⟩=some (.string cs[k].2.s)∧b < w'.heap.size∧b' < w'.heap.size∧Below w.heap.size w w')
    (first | assumption | exact MZ (by assumption) hbx | exact H0.out)
    (first | (go_at_call 48; refine (yA _ _ _ _ _ _ _ _).mono ?_; rintro e w' ⟨rfl,hbx⟩))
   rename_i hH;obtain ⟨-,-,-,-,-,-,-,-,-,-,-,-,-,-,-,-,gB⟩:=hH;go_wp2;go_roundw;case rel=>exact ⟨k + 1,by omega,by go_num,gB⟩
   case measure=>simp [intOf]; omega
  ·go_wp2;go_ret;exact ⟨rfl,hB⟩
end Go.Proofs.YtdmniljjnaebbaaGreatDoor
namespace Go.Proofs.YtdmniljjnaebbaaGreatDoor
set_option linter.unusedVariables false
open Go.ChangeShapes Go.WideShapes Go.ChangeAt Go.RowKit Go.Maps
open Pl
theorem Gg {fit:Tp→Bool}:∀ (cs:List (Int × Tp)) (ts L:List Tp),Up ts→(∀ x ∈ ts,x.ok=true)→ts.length≤40→kH fit ts cs=some L→L.length≤40
 | [],ts,L,_,_,hl,h=>by
  unfold kH at h;injection h with h;rw [← h]; exact hl
 | c::cs,ts,L,hu,hok,hl,h=>by
  unfold kH at h;split at h
  ·rename_i hz;obtain ⟨h1,h2,h3⟩:=pJ hu hok hl hz;exact Gg cs _ _ h1 h2 h3 h
  ·cases h
def gX (rs:List TR) (cs:List (Int × Tp)) (n:Int):List Tp:=(qi (jl rs) (aI (af rs)) cs n).getD []
def p8 (rs:List TR) (cs:List (Int × Tp)) (n:Int):Bool:=(qi (jl rs) (aI (af rs)) cs n).isSome
theorem CX (rs:List TR) (cs:List (Int × Tp)) (n:Int):(gX rs cs n).length≤40:=by
 unfold gX;cases h:qi (jl rs) (aI (af rs)) cs n with
 | none=>simp
 | some L =>
  unfold qi at h;split at h
  ·exact Gg _ [] L List.Pairwise.nil (by simp) (by simp) h
  ·cases h
theorem J5 {rs rs':List TR} (h:af rs'=af rs):jl rs'=jl rs:=by
 funext t; unfold jl; rw [h]
theorem ve {rs rs':List TR} (h:af rs'=af rs) (cs:List (Int × Tp)) (n:Int):gX rs' cs n=gX rs cs n∧p8 rs' cs n=p8 rs cs n:=by
 unfold gX p8; rw [J5 h,h]; exact ⟨rfl,rfl⟩
theorem CY (ad:Option Addr) (cap:Nat) (rs:List TR) (ad':Option Addr) (cap':Nat) (cs:List (Int × Tp)) (n:Int) (w:World) (hlen:rs.length≤1048576) (hs:fo w ad rs) (hl:∀ r ∈ rs,r.light) (hfr:∀ r ∈ rs,r.fits) (hlc:cs.length≤1048576) (hsc:JC w ad' cs) (hf:∀ c ∈ cs,c.2.fits) :
  Calls prog 43 #[.slice ad rs.length cap,.slice ad' cs.length cap',.int .i64 n] w fun e w'=>∃ (ad5:Option Addr) (cap5:Nat),e=.returned (.tuple #[.slice ad5 (gX rs cs n).length cap5,.bool (p8 rs cs n)])∧Sl w' ad5 (gX rs cs n)∧Below w.heap.size w w':=by
 refine (rW (.slice ad rs.length cap) (jl rs) (aI (af rs)) ad' cap' cs n w hlc hsc hf (fun w1 hb=>kT ad cap rs w1 hlen (hs.below hb) hl hfr)
  (fun t w1 ht hb=>xE ad cap rs t.a t.b t.r t.c t.d t.s w1 hlen (hs.below hb) hl ht.1 ht.2.1 ht.2.2.1 ht.2.2.2.1 ht.2.2.2.2.1 ht.2.2.2.2.2)).mono ?_
 rintro e w' ⟨hb,⟨hr,rfl⟩ | ⟨L,g,c,hr,rfl,ho⟩⟩
 ·refine ⟨none,0,?_,?_,hb⟩
  ·unfold gX p8; rw [hr]; rfl
  ·unfold gX; rw [hr]; exact .inl rfl
 ·obtain ⟨hrow,hlt,-⟩:=wG ho;refine ⟨some ⟨g,0,none⟩,c,?_,?_,hb⟩
  ·unfold gX p8; rw [hr]; rfl
  ·unfold gX; rw [hr]; exact .inr ⟨g,0,rfl,hlt,hrow⟩
theorem CZ (ad:Option Addr) (cap:Nat) (rs:List TR) (b off cap':Nat) (cs:List (Int × Tp)) (n:Int) (w:World) (hE:yw w) (hlen:rs.length≤1048576) (hs:fo w ad rs) (hl:∀ r ∈ rs,r.light) (hfr:∀ r ∈ rs,r.fits) (hcp:∀ r ∈ rs,r.caps) (hlc:cs.length≤1048576) (hcap:cs.length≤cap') (hb:b < w.heap.size) (hr:AO w b off cs) (hf:∀ c ∈ cs,c.2.fits) :
  Calls prog 46 #[.slice ad rs.length cap,.slice (some ⟨b,off,none⟩) cs.length cap',.int .i64 n] w fun e w'=>∃ (ad8:Option Addr) (cap8:Nat),e=.returned (.tuple #[.slice ad8 (gX rs cs n).length cap8,.bool (p8 rs cs n)])∧Bf w.heap.size w' ad8 (gX rs cs n)∧Below w.heap.size w w':=by
 refine (sM ad cap rs b off cap' cs n w hE hlen hs hl hfr hcp hlc hcap hb hr hf).mono ?_;rintro e w' ⟨hb,⟨hr,rfl⟩ | ⟨L,v,hr,rfl,ho⟩⟩
 ·refine ⟨none,0,?_,?_,hb⟩
  ·unfold gX p8; rw [hr]; rfl
  ·unfold gX; rw [hr]; exact J3 rfl
 ·obtain ⟨ad8,cap8,rfl,hO⟩:=LC ho rfl;refine ⟨ad8,cap8,?_,?_,hb⟩
  ·unfold gX p8; rw [hr]; rfl
  ·unfold gX; rw [hr]; exact hO
theorem FillC.row {w w':World} {g:Nat} {ts:List (Int × Tp)} (h:FillC w w' g ts ts.length):AO w' g 0 ts:=fun i hi=>h.done i hi hi
def Bg {α:Type} (F:Fence) (n:Nat) (P:Program) (g:Nat) (lb:Array Value) (encs:α→Array Value) (Kp:Nat→World→World→Prop) (Q:List α→World→Prop) (E:List α→α→Prop) (S:List α→Prop) (w:World):Prop :=
 ∀ (l:Nat) (J:List α→World→Prop) (W:World),Below w.heap.size w W→l < W.heap.size→w.heap.size≤l→OwnFrom W.heap.size J→(∀ pre W1,J pre W1→Q pre W1) →
  (∀ pre x W1,J pre W1→E pre x→YieldAt F (n - 1) P l (encs x) W1 fun e W'=>e=.returned (.bool true)∧J (pre ++ [x]) W'∧Kp l W1 W') →
  J [] W →
  CallsIn F n P g (#[.func (.yield l) #[] #[]] ++ lb) W fun e W'=>(∃ v,e=.returned v)∧∃ xs,S xs∧J xs W'
def J6 (B:Nat) (R:World→Prop) (W:World):Exit→Act→World→Prop
 | .normal,_,W'=>KeepsFrom B W W'∧R W'
 | _,_,_=>False
theorem Gh {β:Type} {B k:Nat} {o:Obj} (hk:k < B):OwnFrom B (fun (_:β) W=>W.heap[k]?=some o):=fun _ X Y row hs hg hr=>(hg.block k (Array.getElem?_eq_some_iff.1 hs).1 fun e=>by have:=(hr k e.symm).1; omega).trans hs
theorem M0 {β:Type} {B B':Nat} {I:β→World→Prop} (h:OwnFrom B I) (hB:B≤B'):OwnFrom B' I:=fun s X Y row hs hg hr=>h s X Y row hs hg fun r e=>⟨Nat.le_trans hB (hr r e).1,(hr r e).2⟩
theorem nA {α:Type} {F:Fence} {n:Nat} {P:Program} {g:Operand} {ps:Array Tmp} {assign body:Code} {Q:Exit→Act→World→Prop} {a:Act} {w:World} (hro:F.round=none) (h1:1≤n) {gf:Nat} {lb:Array Value} (hg:a.eval g=.func (.func gf) #[] lb) (hFg:F.fn gf) (eg:∀ args w,(callFunc gf args).run P w=.ok (.enter gf args) w)
  {encs:α→Array Value} {Kp:Nat→World→World→Prop} {Tell:List α→World→Prop} {E:List α→α→Prop} {S:List α→Prop} {w0:World} (hseq:Bg F (n - 1) P gf lb encs Kp Tell E S w0) (hb0:Below w0.heap.size w0 w) (hps:∀ x,(encs x).size=ps.size)
  (hKt:∀ {l:Nat} {X Y Z:World},Kp l X Y→Kp l Y Z→Kp l X Z) (hKb:∀ (W:World) (l:Nat) (o o':Obj),W.heap[l]?=some o→o.isCells=false→Kp l W (W.putObj l o'))
  (I:List α→World→Prop) (hI:OwnFrom w.heap.size I) (hT:∀ pre W,I pre W→Tell pre W) (h0:I [] w)
  (Ax:α→Act→World→Prop) (hAx:∀ x a',OwnFrom w.heap.size (fun (_:Unit) W=>Ax x a' W))
  (hassign:∀ (l:Nat) (pre:List α) (x:α) (W:World) (K:Act→World→Prop),I pre W→(∀ a' W',KeepsFrom w.heap.size W W'→Kp l W W'→I pre W'→Ax x a' W'→K a' W') →
   assign.wpIn (F.inRound l) (n - 1 - 1) P (Exit.then K (fun _ _ _=>False)) { tmps:=(ps.zip (encs x)).foldl (fun t (p,v)=>t.setIfInBounds p v) a.tmps,defers:=[] } W)
  (hbody:∀ (l:Nat) (pre:List α) (x:α) (a':Act) (W:World),w.heap.size≤l→E pre x→I pre W→Ax x a' W→body.wpIn (F.inRound l) (n - 1 - 1) P (J6 w.heap.size (fun W'=>Kp l W W'∧I (pre ++ [x]) W') W) a' W)
  (hdone:∀ (D:Nat) (xs:List α) (W:World),w.heap.size≤D→S xs→I xs W→W.heap[D]?=some (.deferred (some []))→Q .normal { a with defers:={ target:=.collected D,args:=#[] }::a.defers } W) :
  (Code.rangeFunc g ps assign body).wpIn F n P Q a w:=by
 refine wpIn_rangeFunc fun fn hfn=>?_;rw [hro];obtain ⟨rc,hrc⟩:∃ rc:LoopState→Loop,rc=fun st=>{ state:=st,pending:=none,fn,tmps:=a.tmps,params:=ps,assign,body,defers:=w.heap.size }:=⟨_,rfl⟩;obtain ⟨W0,hW0⟩:∃ W0,W0=w.alloc (.deferred (some [])):=⟨_,rfl⟩;have s0:W0.heap.size=w.heap.size + 1:=by rw [hW0]; simp
 obtain ⟨W1,hW1⟩:∃ W1,W1=W0.alloc (.loop (rc .ready)):=⟨_,rfl⟩;have s1:W1.heap.size=w.heap.size + 2:=by rw [hW1]; simp; omega
 have k0:W0.heap[w.heap.size]?=some (.deferred (some [])):=by rw [hW0]; exact World.alloc_heap_new w _
 have k1:W1.heap[w.heap.size]?=some (.deferred (some [])):=by rw [hW1]; exact (Below.heap_alloc _ _ _ (by omega)).trans k0
 have r1:W1.heap[w.heap.size + 1]?=some (.loop (rc .ready)):=by rw [hW1,← s0]; exact World.alloc_heap_new W0 _
 have i1:I [] W1:=by rw [hW1,hW0]; exact hI.alloc _ (hI.alloc _ h0)
 have b1:Below w.heap.size w W1:=by rw [hW1,hW0]; exact ((Below.refl _ w).alloc (Nat.le_refl _) _).alloc (by simp) _
 have bb:Below w0.heap.size w0 W1:=hb0.trans (b1.mono hb0.size);refine ⟨w.heap.size + 1,[{ target:=.collected w.heap.size,args:=#[] }],W1,{ target:=.fn (.func gf) lb,args:=#[.func (.yield (w.heap.size + 1)) #[] #[]] },W1,gf,#[.func (.yield (w.heap.size + 1)) #[] #[]] ++ lb,W1,?_,?_,?_,?_,fun _=>h1,?_⟩
 ·rw [hW1,hW0,hrc]; exact run_enterLoop_outer _ _ _ _ _
 ·simp only [resolve,hg];simp [go_sem]
 ·intro f hf; simp [Target.leads] at hf; subst hf; exact hFg
 ·simp [invoke,go_sem,eg]
 have hJ:OwnFrom W1.heap.size (fun pre W=>I pre W∧W.heap[w.heap.size + 1]?=some (.loop (rc .ready))∧W.heap[w.heap.size]?=some (.deferred (some []))) :=
  (M0 hI (by omega)).and ((Gh (by omega)).and (Gh (by omega)))
 refine (hseq (w.heap.size + 1) _ W1 bb (by omega) (by have:=hb0.size; omega) hJ (fun pre W h=>hT pre W h.1) ?_ ⟨i1,r1,k1⟩).mono ?_
 ·rintro pre x W ⟨hi,hl,hk⟩ hEx;have hy:=run_yield (P:=P) (args:=encs x) hl (by rw [hrc]; exact hps x);rw [hrc] at hy;refine ⟨fn,_,assign,body,hy,roundIn_of_wpIn hfn (hassign _ pre x W _ hi ?_)⟩;clear hy;intro a' Wa hka hkp hia hax;have hla:=hka.same _ _ (by omega) hl rfl;have hda:=hka.same _ _ (Nat.le_refl _) hk rfl;have hlt:w.heap.size + 1 < Wa.heap.size:=(Array.getElem?_eq_some_iff.1 hla).1;refine ⟨_,run_beginRound hla (by rw [hrc]),?_⟩;obtain ⟨Wb,hWb⟩:∃ Wb,Wb=Wa.putObj (w.heap.size + 1) (.loop { rc .ready with state:=.busy }):=⟨_,rfl⟩;rw [← hWb];have lb2:Wb.heap[w.heap.size + 1]?=some (.loop { rc .ready with state:=.busy }):=by rw [hWb]; exact World.putObj_heap_same hlt
  have db2:Wb.heap[w.heap.size]?=some (.deferred (some [])):=by rw [hWb]; exact (World.putObj_heap_other (by omega)).trans hda
  have kb2:Kp (w.heap.size + 1) Wa Wb:=by rw [hWb]; exact hKb _ _ _ _ hla rfl
  have ib2:I pre Wb:=by rw [hWb]; exact hI.putObj _ hia (by omega) hla rfl
  have ab2:Ax x a' Wb:=by rw [hWb]; exact (hAx x a').putObj (s:=()) _ hax (by omega) hla rfl
  refine wpIn_mono (hbody _ pre x a' _ (by omega) hEx ib2 ab2) ?_;intro e a3 W3 hp;cases e with
  | normal =>
   obtain ⟨hk3,hkp3,hi3⟩:=hp;have hl3:=hk3.same _ _ (by omega) lb2 rfl;have hd3:=hk3.same _ _ (Nat.le_refl _) db2 rfl;have hend:=run_endRound (P:=P) none hl3;rw [hrc] at hend;refine ⟨_,_,hend,rfl,⟨hI.putObj _ hi3 (by omega) hl3 rfl,?_,(World.putObj_heap_other (by omega)).trans hd3⟩,hKt hkp (hKt (hKt kb2 hkp3) (hKb _ _ _ _ hl3 rfl))⟩;rw [hrc];exact World.putObj_heap_same (Array.getElem?_eq_some_iff.1 hl3).1
  | ret=>exact hp.elim
  | exit id=>exact hp.elim
  | goto t=>exact hp.elim
  | panic ch=>exact hp.elim
  | outgrown=>exact hp.elim
 ·rintro e W2 ⟨⟨v,rfl⟩,xs,hS,hi,hl,hk⟩;have hend:=run_endLoop (P:=P) hl (by rw [hrc]; simp);rw [hrc] at hend;exact ⟨none,_,hend,hdone _ xs _ (Nat.le_refl _) hS (hI.putObj _ hi (by omega) hl rfl) ((World.putObj_heap_other (by omega)).trans hk)⟩
end Go.Proofs.YtdmniljjnaebbaaGreatDoor
