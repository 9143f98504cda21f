/- Lists of tuples in memory of their own; two lists of tuples that are the same are told so. -/
import Derived.Test.YteoflgocljfgeaaGreatDoorJ36
import Derived.OpenShut
import Derived.ShutString
import Derived.HandedShaped
import Derived.LaidMore
import Derived.Test.YteoflgocljfgeaaGreatDoorCards
import Derived.Test.YteoflgocljfgeaaGreatDoorTie
import Derived.Lay
import Derived.LaidHandle
import Derived.Stop.Joined
import Derived.ChangeVars
open Go.Proofs.Tryz
set_option maxHeartbeats 80000000
namespace Go.Proofs.YteoflgocljfgeaaGreatDoor
set_option maxRecDepth 100000
open Go.ChangeShapes Go.WideShapes Go.ChangeAt Go.RowKit
open Pl
def Ba (B:Nat) (w:World) (ad:Option Addr) (L:List Tp):Prop:=Sl w ad L∧(L ≠ []→∃ g,ad=some ⟨g,0,none⟩∧B≤g∧iG w g)
theorem CU {B:Nat} {w:World} {ad:Option Addr} {L:List Tp} (h:L=[]):Ba B w ad L:=⟨.inl h,fun k=>absurd h k⟩
theorem Ba.mono {B B':Nat} {w:World} {ad:Option Addr} {L:List Tp} (h:Ba B w ad L) (hB:B'≤B):Ba B' w ad L:=⟨h.1,fun k=>by obtain ⟨g,e,h1,h2⟩:=h.2 k; exact ⟨g,e,Nat.le_trans hB h1,h2⟩⟩
theorem NA {w:World} {ad:Option Addr} {L:List Tp} (h:Sl w ad L) (hne:L ≠ []) {g o:Nat} (e:ad=some ⟨g,o,none⟩):g < w.heap.size:=by
 rcases h with h | ⟨b,off,e2,hb,-⟩
 ·exact absurd h hne
 ·rw [e] at e2; injection e2 with e2; injection e2 with e2 e3; omega
theorem Ba.later {B:Nat} {w w':World} {ad:Option Addr} {L:List Tp} (h:Ba B w ad L) (hb:Below w.heap.size w w'):Ba B w' ad L:=⟨h.1.below hb,fun hne=>by
 obtain ⟨g,e,h1,h2⟩:=h.2 hne;exact ⟨g,e,h1,fun j=>mF hb (NA h.1 hne e) (h2 j)⟩⟩
open Go.Maps
def gG (ts:List Ty) (t:Tp):Bool:=!ql ts t.a t.b t.r t.c t.d t.s
theorem oJ {w w':World} {base size n:Nat} {e:TypeId} {v:Value} {xs:List Value} (h:w.ownsRow base e size v n xs) (hb:Below w.heap.size w w'):w'.ownsRow base e size v n xs:=by
 refine ⟨h.1,?_⟩;rcases h.2 with hl | ⟨g,cap,cur,rfl,h1,h2,h3⟩
 ·exact .inl hl
 ·exact .inr ⟨g,cap,cur,rfl,h1,(hb.block g (h.lt g rfl).2).trans h2,h3⟩
theorem Kg {K:Type} {enc:K→Value} {P:Program} {kt:TypeId} {w:World} {b n:Nat} {M:K→Option Value} {base size m:Nat} {e:TypeId} {v:Value} {xs:List Value} (h:aJ enc P kt w b n M) (ho:w.ownsRow base e size v m xs) (hv:v.ownBlock=some b):False:=by
 obtain ⟨D,⟨entries,ix,hb,-⟩,-⟩:=h;rcases ho.2 with ⟨rfl,-⟩ | ⟨g,cap,cur,rfl,-,hg,-⟩
 ·simp [Value.ownBlock] at hv
 ·have e1:g=b:=by simpa [Value.ownBlock] using hv
  rw [e1,hb] at hg;cases hg
theorem Fw {w:World} {base n:Nat} {v:Value} {ts:List Tp} (h:w.ownsRow base 41 6 v n (aB ts)) (hn:n=ts.length):∃ ad cap,v=.slice ad ts.length cap∧Ba base w ad ts:=by
 obtain ⟨ad,cap,hv,hsl,hg⟩:=Ff h hn;refine ⟨ad,cap,hv,hsl,fun hne=>?_⟩;rcases h.2 with ⟨rfl,h0⟩ | ⟨g,cap',cur,rfl,hbg,-⟩
 ·rw [hn] at h0; exact absurd (List.length_eq_zero_iff.1 h0) hne
 ·injection hv with e1 e2 e3;exact ⟨g,e1.symm,hbg,(hg g e1.symm).2.2⟩
theorem zS {rs:List TR} {t:Tp} (h:aA (ah rs)=true) (ht:t.ok=true):ou (ah rs) t.a t.r ⟨t.c,t.s⟩=!gG (ah rs) t:=by
 have hSP:=dG.1 h;have h1:ou (ah rs) t.a t.r ⟨t.c,t.s⟩=dz (aT (aN (ah rs) t.a t.r)) (aT (aN (ah rs) t.a t.r)).length ⟨t.c,t.s⟩:=Cs _ (K8 hSP _ _);have h2:bB t.a t.b t.r t.c t.d t.s=true:=ht;rw [h1];unfold gG ql;rw [h2];simp
set_option linter.unusedVariables false
theorem yn {w:World} {base g n c:Nat} {ts:List Tp} (h:w.ownsRow base 41 6 (.slice (some ⟨g,0,none⟩) n c) n (aB ts)) (hn:n=ts.length):dL w g 0 ts∧g < w.heap.size∧n≤c∧base≤g:=by
 have hlt:=h.lt g rfl;refine ⟨?_,hlt.2,?_,hlt.1⟩
 ·subst hn;intro i hi;have key:∀ j,j < 6→w.cell? ⟨g,0 + i * 6 + j,none⟩=(ts[i]).row[j]?:=fun j hj=>by
   rw [h.cellAt (0 + i * 6 + j) (by have:=dR ts; omega),← om ts i hi j hj,Nat.zero_add]
  exact ⟨key 0 (by omega),key 1 (by omega),key 2 (by omega),key 3 (by omega),key 4 (by omega),key 5 (by omega)⟩
 ·rcases h.2 with ⟨e,-⟩ | ⟨g',cap',cur,e,-,-,hle,-⟩
  ·cases e
  ·injection e with e1 e2 e3; omega
theorem Kh {w:World} {base g c:Nat} {ts:List Tp} (h:w.ownsRow base 41 6 (.slice (some ⟨g,0,none⟩) ts.length c) ts.length (aB ts)):dL w g 0 ts∧g < w.heap.size∧ts.length≤c:=⟨(yn h rfl).1,(yn h rfl).2.1,(yn h rfl).2.2.1⟩
def lV (rs:List TR) (t:Tp):Bool:=ql (ah rs) t.a t.b t.r t.c t.d t.s
theorem He {rs:List TR} {t:Tp} (h:aA (ah rs)=true) (ht:t.ok=true):ou (ah rs) t.a t.r ⟨t.c,t.s⟩=lV rs t:=by
 rw [zS h ht]; unfold gG lV; simp
theorem Ki {w:World} {base:Nat} {v:Value} {ts:List Tp} (h:w.ownsRow base 41 6 v ts.length (aB ts)):∃ ad cap,v=.slice ad ts.length cap∧Sv w ad cap ts:=by
 have h':=h;rcases h.2 with ⟨rfl,h0⟩ | ⟨g,cap,cur,rfl,hb,hg,hc,-⟩
 ·exact ⟨none,0,by rw [h0],.inl ⟨rfl,rfl,List.length_eq_zero_iff.1 h0⟩⟩
 ·obtain ⟨hrow,hl,hle⟩:=Kh h';exact ⟨_,cap,rfl,.inr ⟨g,0,rfl,hl,hle,hrow⟩⟩
theorem Li {fit:Tp→Bool} {rs:List TR} {ts:List Tp} {k:Int} {t:Tp} (h:gJ fit rs ts=false):qJ fit (aA (ah rs)) ts k t=1∧mU fit (aA (ah rs)) ts k t=[]:=by
 have h':cZ fit (aA (ah rs)) ts=false:=h;unfold qJ mU; rw [h']; exact ⟨rfl,rfl⟩
theorem CV {fit:Tp→Bool} {rs:List TR} {ts:List Tp} {k:Int} {t:Tp} (h:gJ fit rs ts=true):qJ fit (aA (ah rs)) ts k t=aP fit ts k t∧mU fit (aA (ah rs)) ts k t=jJ fit ts k t:=by
 have h':cZ fit (aA (ah rs)) ts=true:=h;unfold qJ mU; rw [h']; exact ⟨rfl,rfl⟩
theorem uV (fit:Tp→Bool) (a:Nat→Addr) (ad:Option Addr) (cap:Nat) (rs:List TR) (ad':Option Addr) (cap':Nat) (ts:List Tp) (k:Int) (t:Tp) (w:World) (hE:ErrsD w a) (hlen:rs.length≤1048576) (hs:gp w ad rs) (hl:∀ r ∈ rs,r.light) (hfr:∀ r ∈ rs,r.fits) (hC:∀ w1:World,Below w.heap.size w w1→Calls prog 73 #[.slice ad rs.length cap] w1 (EJ (ah rs) w1)) (hfb:aA (ah rs)=true→∀ t:Tp,t.ok=true→ou (ah rs) t.a t.r ⟨t.c,t.s⟩=fit t) (hlt:ts.length≤1048576) (hst:Sv w ad' cap' ts) (hft:∀ x ∈ ts,x.fits) (ht:t.fits) :
  Calls prog 12 #[.slice ad rs.length cap,.slice ad' ts.length cap',.agg #[.int .i64 k,.string t.a,.string t.b,.string t.r,.string t.c,.string t.d,.string t.s]] w fun e w'=>∃ v,e=.returned (.tuple #[v,.int .i64 (qJ fit (aA (ah rs)) ts k t)])∧w'.ownsRow w.heap.size 41 6 v (mU fit (aA (ah rs)) ts k t).length (aB (mU fit (aA (ah rs)) ts k t))∧Below w.heap.size w w':=by
 obtain ⟨W0,hW0⟩:∃ W0,W0=w.alloc (.cells #[.int .i64 k,.string t.a,.string t.b,.string t.r,.string t.c,.string t.d,.string t.s] 43):=⟨_,rfl⟩;have HX0:Hid (lN W0 w.heap.size k t):=by show lN _ _ _ _; rw [hW0]; refine ⟨?_,?_,?_,?_,?_,?_,?_,?_⟩ <;> simp
 have HB0:=Be hW0;have HE:=aC hE;have HCALL:=aC (CS fit a ad cap rs ad' cap' ts k t W0 (hE.below HB0.out) hlen (hs.below HB0.out) hl hfr (fun w1 h=>hC w1 (HB0.out.trans (h.mono HB0.out.size))) hfb hlt (hst.below HB0.out) hft ht);obtain ⟨x0,x1,x2,x3,x4,x5,x6,xl⟩:=HX0.out;clear hE hs hl hfr hC hfb hst hft ht;go_enter func12,ntmps12;go_wp2_with fail;rw [← hW0];clear hW0;refine HCALL.out.mono ?_;rintro e w1 ⟨hb1,hor⟩;have HB1:=aC (HB0.out.trans (hb1.mono HB0.out.size));obtain ⟨W2,hW2⟩:∃ W2,W2=w1.alloc (.cells #[.pointer none] 70):=⟨_,rfl⟩;have hb2:Below w1.heap.size w1 W2:=by rw [hW2]; exact (Below.refl _ _).alloc (Nat.le_refl _) _
 have HB2:=aC (HB1.out.trans (hb2.mono HB1.out.size));have HE2:=aC (HE.out.below HB2.out);have hwz:w.heap.size≤W0.heap.size:=HB0.out.size;have ht0:W2.cell? ⟨w1.heap.size,0,none⟩=some (.pointer none):=by rw [hW2]; simp
 have hf0:W2.frozen? ⟨w1.heap.size,0,none⟩=false:=by rw [hW2]; simp
 have hs2:W2.heap.size=w1.heap.size + 1:=by rw [hW2]; simp
 clear x0 x1 x2 x3 x4 x5 x6 xl HCALL hb1;rcases hor with ⟨hr,rfl⟩ | ⟨hr,hz,v,rfl,hown⟩ | ⟨hr,g,p,v,hgc,hg2,hg6,rfl,hpl,hc0,hc1,hown⟩
 ·have HA:=aC (Li (k:=k) (t:=t) hr);clear hr;go_wp2_with fail;rw [← hW2];clear hW2;refine (Lb (a 0) ⟨w1.heap.size,0,none⟩ W2 HE2.out.typ.2).mono ?_;rintro e w3 ⟨rfl,hb3⟩;have HB3:=aC (HB2.out.trans (hb3.mono HB2.out.size));clear hb3;go_wp2_with fail;refine (A8 a _ (HE.out.below HB3.out)).mono ?_;rintro e w4 ⟨rfl,rfl⟩;go_wp2;exact bodyPost_ret (v:=.tuple #[.slice none 0 0,.int .i64 1]) (by simp [results,Tryz.results12,go_sem]) rfl ⟨_,by rw [HA.out.1],by rw [HA.out.2]; exact World.ownsRow_nil _ _ _ _,HB3.out⟩
 ·have HA:=aC (CV (k:=k) (t:=t) hr);have HL:Hid (qJ fit (aA (ah rs)) ts k t=0∧mU fit (aA (ah rs)) ts k t=bX ts k t):=⟨HA.out.1.trans hz,HA.out.2.trans (lQ hz)⟩;have HO2:=aC (bi (eY hown hwz) hb2);clear hr hz hown;go_wp2_with fail;rw [← hW2];clear hW2;refine (MG _ W2).mono ?_;rintro e w3 ⟨rfl,rfl⟩;go_wp2_with fail;refine (Ew a _ HE2.out).mono ?_;rintro e w4 ⟨rfl,rfl⟩;go_wp2;exact bodyPost_ret (v:=.tuple #[v,.int .i64 0]) (by simp [results,Tryz.results12,go_sem]) rfl ⟨_,by rw [HL.out.1],by rw [HL.out.2]; exact HO2.out,HB2.out⟩
 ·have HA:=aC (CV (k:=k) (t:=t) hr);have HL:Hid (qJ fit (aA (ah rs)) ts k t=g∧mU fit (aA (ah rs)) ts k t=ts):=⟨HA.out.1.trans hgc,HA.out.2.trans (kM hgc (by omega))⟩;have hpw:p < w1.heap.size:=World.block_lt_of_cell? w1 ⟨p,0,none⟩ hc0;obtain ⟨adv,cv,rfl,-⟩:=Ki hown;have HO2:=aC (bi (eY hown hwz) hb2);have HOL:=aC hown;have c0:W2.cell? ⟨p,0,none⟩=_:=(hb2.cell (p:=⟨p,0,none⟩) hpw).trans hc0;have c1:W2.cell? ⟨p,1,none⟩=_:=(hb2.cell (p:=⟨p,1,none⟩) hpw).trans hc1;have HC01:=aC (And.intro c0 c1);clear hr hown hc0 hc1 c0 c1;go_wp2_with fail;rw [← hW2];clear hW2;refine (MK ⟨p,0,none⟩ ⟨w1.heap.size,0,none⟩ (.pointer none) W2 HE2.out.typ.2 ht0 hf0).mono ?_;rintro e w3 ⟨rfl,W3,hb3,rfl⟩;obtain ⟨w4,hw4⟩:∃ x,x=W3.setCell ⟨w1.heap.size,0,none⟩ (.pointer (some ⟨p,0,none⟩)):=⟨_,rfl⟩;have hne:∀ g',g' ≠ w1.heap.size→w4.heap[g']?=W3.heap[g']?:=fun g' e=>by rw [hw4]; exact heap_setCell_other W3 ⟨w1.heap.size,0,none⟩ g' _ e
  have HB4:Hid (Below w.heap.size w w4):=by show Below _ _ _; rw [hw4]; exact (HB2.out.trans (hb3.mono HB2.out.size)).setCell (by show w.heap.size≤w1.heap.size; exact HB1.out.size) _
  have d0:w4.cell? ⟨w1.heap.size,0,none⟩=some (.pointer (some ⟨p,0,none⟩)):=by rw [hw4]; exact Gq ((hb3.cell (p:=⟨w1.heap.size,0,none⟩) (by show w1.heap.size < _; omega)).trans ht0)
  have hp4:∀ o,w4.cell? ⟨p,o,none⟩=W2.cell? ⟨p,o,none⟩:=fun o=>(World.cell?_of_block (w:=W3) (a:=⟨p,o,none⟩) (hne p (by omega))).trans (hb3.cell (p:=⟨p,o,none⟩) (by show p < _; omega));have d1:=(hp4 0).trans HC01.out.1;have d2:=(hp4 1).trans HC01.out.2;have HO4:Hid (w4.ownsRow w.heap.size 41 6 (.slice adv ts.length cv) ts.length (aB ts)):=fo (bi HO2.out hb3) fun g' hg'=>hne g' (by have:=(HOL.out.lt g' hg').2; omega);have HE4:=aC (HE.out.below HB4.out);rw [← hw4];clear hw4 hb3 hne hp4;go_wp2_with fail;refine (Ey a p g _ HE4.out hg2 hg6 d1).mono ?_;rintro e w5 ⟨rfl,rfl⟩;go_wp2;exact bodyPost_ret (v:=.tuple #[.slice adv ts.length cv,.int .i64 (g:Int)]) (by simp [results,Tryz.results12,go_sem]) rfl ⟨_,by rw [HL.out.1],by rw [HL.out.2]; exact HO4.out,HB4.out⟩
theorem Kj (fit:Tp→Bool) (sok:Bool) (ts:List Tp) (k:Int) (t:Tp):(mU fit sok ts k t).length≤41:=by
 unfold mU;cases h:cZ fit sok ts with
 | false=>simp
 | true =>
  obtain ⟨-,h2,-⟩:=su h;obtain ⟨hu,hok,hl⟩:=xG h2;simp only [if_true];unfold jJ;split
  ·rename_i hz; have:=(xZ hu hok hl hz).2.2; omega
  ·omega
def Bd (rs:List TR) (ts:List Tp) (k:Int) (t:Tp):List Tp:=mU (lV rs) (aA (ah rs)) ts k t
def Hf (rs:List TR) (ts:List Tp) (k:Int) (t:Tp):Int:=qJ (lV rs) (aA (ah rs)) ts k t
theorem Lj (rs:List TR) (ts:List Tp) (k:Int) (t:Tp):(Bd rs ts k t).length≤41:=Kj _ _ _ _ _
theorem CW (ad:Option Addr) (cap:Nat) (rs:List TR) (b cap':Nat) (ts:List Tp) (k:Int) (t:Tp) (w:World) (hlen:rs.length≤1048576) (hs:gp w ad rs) (hl:∀ r ∈ rs,r.light) (hfr:∀ r ∈ rs,r.fits) (hlt:ts.length≤1048576) (hcp:ts.length≤cap') (hb:b < w.heap.size) (hr:dL w b 0 ts) (hf:∀ x ∈ ts,x.fits) (ht:t.fits) :
  Calls prog 8 #[.slice ad rs.length cap,.slice (some ⟨b,0,none⟩) ts.length cap',.agg #[.int .i64 k,.string t.a,.string t.b,.string t.r,.string t.c,.string t.d,.string t.s]] w fun e w'=>∃ (ad5:Option Addr) (cap5:Nat),e=.returned (.tuple #[.slice ad5 (Bd rs ts k t).length cap5,.int .i64 (Hf rs ts k t)])∧Sl w' ad5 (Bd rs ts k t)∧Below w.heap.size w w':=by
 refine (uU (.slice ad rs.length cap) (lV rs) (aA (ah rs)) b 0 cap' ts k t w hlt hcp hb hr hf ht (fun w1 hb=>iU ad cap rs w1 hlen (hs.below hb) hl hfr)
  (fun t w1 ht hb=>xX ad cap rs t.a t.b t.r t.c t.d t.s w1 hlen (hs.below hb) hl ht.1 ht.2.1 ht.2.2.1 ht.2.2.2.1 ht.2.2.2.2.1 ht.2.2.2.2.2)).mono ?_
 rintro e w' ⟨v,rfl,ho,hb⟩;obtain ⟨ad5,cap5,rfl,hO⟩:=Fw ho rfl;exact ⟨ad5,cap5,rfl,hO.1,hb⟩
theorem Kk {ts:List Tp} (hu:Up ts) (hok:∀ t ∈ ts,t.ok=true) (hl:ts.length≤40):dH ts=true:=by
 unfold dH rH;simp only [Bool.and_eq_true,decide_eq_true_eq];refine ⟨hl,List.all_eq_true.2 fun i hi=>?_⟩;have hi':i < ts.length:=List.mem_range.1 hi;cases i with
 | zero=>rw [oZ hi']; exact hok _ (List.getElem_mem _)
 | succ j =>
  rw [lD hi'];simp only [Bool.and_eq_true];exact ⟨hok _ (List.getElem_mem _),List.pairwise_iff_getElem.1 hu j (j + 1) (by omega) hi' (by omega)⟩
theorem EN {ts:List Tp} {t:Tp} (h:t ∈ ts):(bQ ts t).length < ts.length:=by
 unfold bQ;refine List.length_filter_lt_length_iff_exists.2 ⟨t,h,?_⟩;rw [jr.2 rfl]; simp
theorem Ll {ts:List Tp} {t:Tp} (h:t ∉ ts):fC ts t=false:=by
 cases e:fC ts t with
 | false=>rfl
 | true=>exact absurd (rO.1 e) h
def EO (ty:List Ty) (ts:List Tp):Bool:=aA ty && dH ts
def yo (ty:List Ty) (ts:List Tp):List Tp:=if EO ty ts then ts.filter (gG ty) else []
theorem CX {ty:List Ty} {ts:List Tp} (h:EO ty ts=true):yo ty ts=ts.filter (gG ty):=by simp [yo,h]
theorem Fx {ty:List Ty} {ts:List Tp} (h:EO ty ts=false):yo ty ts=[]:=by simp [yo,h]
theorem CY {p:Tp→Bool} {ts:List Tp} {k:Nat} (h:k < ts.length):(ts.take (k + 1)).filter p=(ts.take k).filter p ++ (if p ts[k] then [ts[k]] else []):=by
 rw [List.take_succ_eq_append_getElem h,List.filter_append];cases e:p ts[k] <;> simp [e]
theorem EP (p:Tp→Bool) (ts:List Tp) (k:Nat):((ts.take k).filter p).length≤k:=Nat.le_trans (List.length_filter_le _ _) (by simp; omega)
theorem yJ (ad ad':Option Addr) (cap cap':Nat) (rs:List TR) (ts:List Tp) (w:World) (hlen:rs.length≤1048576) (hs:gp w ad rs) (hl:∀ r ∈ rs,r.light) (hfr:∀ r ∈ rs,r.fits) (hcp:∀ r ∈ rs,r.caps) (hlt:ts.length≤1048576) (hst:Sl w ad' ts) (hft:∀ x ∈ ts,x.fits) :
  Calls prog 21 #[.slice ad rs.length cap,.slice ad' ts.length cap'] w fun e w'=>∃ (ad'':Option Addr) (cap'':Nat),e=.returned (.slice ad'' (yo (ah rs) ts).length cap'')∧Ba w.heap.size w' ad'' (yo (ah rs) ts)∧Below w.heap.size w w':=by
 obtain ⟨iT,hiT,zT0,zT1,zT2⟩:=info_parts (P:=prog) (e:=41) (z:=.agg #[.string ⟨#[]⟩,.string ⟨#[]⟩,.string ⟨#[]⟩,.string ⟨#[]⟩,.string ⟨#[]⟩,.string ⟨#[]⟩]) (size:=6) (bytes:=96) (by kernel_rfl);have HIT:Hid (prog.info? 41=some iT∧iT.zero=some (.agg #[.string ⟨#[]⟩,.string ⟨#[]⟩,.string ⟨#[]⟩,.string ⟨#[]⟩,.string ⟨#[]⟩,.string ⟨#[]⟩])∧iT.size=6∧iT.bytes=96):=⟨hiT,zT0,zT1,zT2⟩;have HS:=bG hs;have HL:=bG hl;have HFR:=bG hfr;have HCP:=bG hcp;have HST:=bG hst;have HFT:=bG hft;have hml:ts.length≤maxLen:=by unfold maxLen; omega
 clear hs hl hfr hst hft hcp hiT zT0 zT1 zT2;go_enter func21,ntmps21;go_wp2_with fail;refine (tO ad cap rs _ hlen HS.out HL.out HFR.out HCP.out).mono ?_;rintro e w1 ⟨he,hb1⟩;have HB1:=bG hb1;clear hb1;cases h1:aA (ah rs) with
 | false =>
  rw [h1] at he; subst he;have HN:Hid (yo (ah rs) ts=[]):=Fx (by simp [EO,h1]);clear h1;go_wp2;go_ret;exact ⟨none,0,by rw [HN.out]; rfl,CU HN.out,HB1.out⟩
 | true =>
  rw [h1] at he; subst he;have H1:=bG h1;clear h1;go_wp2_with fail;refine (lG ad' cap' ts _ hml (HST.out.below HB1.out) HFT.out).mono ?_;rintro e w2 ⟨he,hb2⟩;have HB2:=gW HB1 hb2;clear hb2 HB1;cases h2:dH ts with
  | false =>
   rw [h2] at he; subst he;have HN:Hid (yo (ah rs) ts=[]):=Fx (by simp [EO,h2]);clear h2;go_wp2;go_ret;exact ⟨none,0,by rw [HN.out]; rfl,CU HN.out,HB2.out⟩
  | true =>
   rw [h2] at he; subst he;have HN:Hid (yo (ah rs) ts=ts.filter (gG (ah rs))):=CX (by simp [EO,h2,H1.out]);have HOK:=bG (xG h2).2.1;have hSP:=dG.1 H1.out;obtain ⟨h6,hr6,-⟩:=dF hSP.1;have HTAB:=bG (wN hSP.1);have HTBL:=bG (nU ad cap rs w2 h6 (HS.out.below HB2.out) hr6 HFR.out);clear h2 hSP hr6 h6;go_wp2_with fail;refine HTBL.out.mono ?_;rintro e w3 ⟨rfl,hV3,hb3⟩;have HB3:=gW HB2 hb3;have HV3:=bG hV3;obtain ⟨bm,hbm⟩:∃ bm,bm=w2.heap.size:=⟨_,rfl⟩;rw [← hbm] at HV3 ⊢;clear hb3 hV3 HTBL hbm;go_wp2;go_loopw [6,21] (fun v i wr=>∃ k:Nat,k≤ts.length∧i=.int .i64 k∧Hid (wr.ownsRow w.heap.size 41 6 v ((ts.take k).filter (gG (ah rs))).length (aB ((ts.take k).filter (gG (ah rs)))))∧Hid (Below w.heap.size w wr)∧Hid (aJ bI prog 147 wr bm 36 (mr rs))) (fun _ i _=>ts.length - (intOf i).toNat);case atStart=>exact ⟨0,Nat.zero_le _,rfl,World.ownsRow_nil _ _ _ _,HB3,HV3⟩
   case round =>
    clear HB3 HV3 HB2;obtain ⟨k,hk,rfl,HOW,HBW,HMV⟩:=hrel;by_cases hlt2:k < ts.length
    ·rcases HST.out.below HBW.out with hnil | ⟨b,off,rfl,hb,hr⟩
     ·rw [hnil] at hlt2; simp at hlt2
     obtain ⟨t0,t1,t2,t3,t4,t5⟩:=hr k hlt2;have hk1:=bR k;have hk2:(k:Int) < (ts.length:Int):=by omega
     have hdl:=EP (gG (ah rs)) ts k;have HDT:=bG (CY (p:=gG (ah rs)) hlt2);obtain ⟨f0,f1,f2,f3,f4,f5⟩:=HFT.out _ (List.getElem_mem hlt2);have HFB:=bG (zS H1.out (HOK.out _ (List.getElem_mem hlt2)));obtain ⟨x,hx⟩:∃ x,x=ts[k]:=⟨_,rfl⟩;rw [← hx] at t0 t1 t2 t3 t4 t5 f0 f1 f2 f3 f4 f5 HDT HFB;obtain ⟨W4,hW4⟩:∃ W4,W4=wr.alloc (.cells #[.string x.a,.string x.b,.string x.r,.string x.c,.string x.d,.string x.s] 41):=⟨_,rfl⟩;have HB4:Hid (Below wr.heap.size wr W4):=by rw [hW4]; exact (Below.refl _ _).alloc (Nat.le_refl _) _
     have HX4:Hid (mZ W4 wr.heap.size x):=by rw [hW4]; exact rP wr x _
     have HBW4:Hid (Below w.heap.size w W4):=HBW.out.trans (HB4.out.mono HBW.out.size);have HLF:=bG (xJ bm 36 rs ad (mr rs) x.a x.b x.r x.c x.d x.s W4 (HMV.out.below HB4.out) HTAB.out (HS.out.below HBW4.out) HL.out f0 f2);clear hx hr f0 f1 f2 f3 f4 f5;go_wp2_with fail;rw [← hW4]; clear hW4;refine HLF.out.mono ?_;rintro e w5 ⟨he,hb5⟩;rw [HFB.out] at he;have HB5:=gW HBW4 hb5;have HO5:=bG (oJ (oJ HOW.out HB4.out) hb5);have HMV5:=bG ((HMV.out.below HB4.out).below hb5);have HX5:=bG (HX4.out.below hb5);clear hb5 HLF HOW HBW HMV HX4 HB4 HBW4 t0 t1 t2 t3 t4 t5;cases h5:gG (ah rs) x with
     | false =>
      rw [h5] at he; subst he;have HE:Hid ((ts.take (k + 1)).filter (gG (ah rs))=(ts.take k).filter (gG (ah rs))):=by show _=_; rw [HDT.out]; simp [h5]
      clear h5;go_wp2;go_roundw;case rel=>exact ⟨k + 1,by omega,by go_num,by rw [HE.out]; exact HO5,HB5,HMV5⟩
      case measure=>simp [intOf] <;> omega
     | true =>
      rw [h5] at he; subst he;have HE:Hid ((ts.take (k + 1)).filter (gG (ah rs))=(ts.take k).filter (gG (ah rs)) ++ [x]):=by show _=_; rw [HDT.out]; simp [h5]
      obtain ⟨t0,t1,t2,t3,t4,t5,tl⟩:=HX5.out;clear h5;obtain ⟨W6,hW6⟩:∃ W6,W6=w5.alloc (.cells #[.string x.a,.string x.b,.string x.r,.string x.c,.string x.d,.string x.s] 41):=⟨_,rfl⟩;have HO6:Hid (W6.ownsRow w.heap.size 41 6 u6 ((ts.take k).filter (gG (ah rs))).length (aB ((ts.take k).filter (gG (ah rs))))):=by rw [hW6]; exact HO5.out.alloc _
      have HNW:Hid (∀ j u,x.row[j]?=some u→W6.cell? ((⟨w5.heap.size,0,none⟩:Addr).add j)=some u):=by rw [hW6]; exact pg w5 x
      have HB6:Hid (Below w5.heap.size w5 W6):=by rw [hW6]; exact (Below.refl _ _).alloc (Nat.le_refl _) _
      have HBD6:Hid (Below w.heap.size w W6):=HB5.out.trans (HB6.out.mono HB5.out.size);have HMV6:=bG (HMV5.out.below HB6.out);have HBM:=bG HMV5.out.lt;go_wp2_with (at_builtin; rw [← hW6]; clear hW6; refine wpList_append_own_at _ rfl _ _ 33 rfl w.heap.size 41 iT (.agg #[.string ⟨#[]⟩,.string ⟨#[]⟩,.string ⟨#[]⟩,.string ⟨#[]⟩,.string ⟨#[]⟩,.string ⟨#[]⟩]) 6 96 underlying33 HIT.out.1 HIT.out.2.1 HIT.out.2.2.1 HIT.out.2.2.2 rfl (by decide) u6 _ (aB ((ts.take k).filter (gG (ah rs)))) rfl HO6.out ⟨w5.heap.size,0,none⟩ 1 1 x.row rfl rfl HNW.out (oo _) (by unfold maxLen; omega) (by omega) HBD6.out.size ?_);intro v7 w7 hown7 hgr7 _ _;have HB7:Hid (Below w.heap.size w w7):=HBD6.out.grown hgr7 HBD6.out.size (fun g hg=>(HO5.out.lt g hg).1);have HMV7:=bG (HMV6.out.kept hgr7 (fun e=>Kg HMV6.out HO6.out e.symm));have HO7:Hid (w7.ownsRow w.heap.size 41 6 v7 ((ts.take (k + 1)).filter (gG (ah rs))).length (aB ((ts.take (k + 1)).filter (gG (ah rs))))):=by
       show World.ownsRow _ _ _ _ _ _ _;rw [HE.out,mH,List.length_append]; exact hown7
      clear hown7 hgr7 t0 t1 t2 t3 t4 t5 tl;go_wp2;go_roundw;case rel=>exact ⟨k + 1,by omega,by go_num,HO7,HB7,HMV7⟩
      case measure=>simp [intOf] <;> omega
    ·obtain rfl:k=ts.length:=by omega
     have hown:=HOW.out;rw [List.take_length] at hown;obtain ⟨ad'',cap'',hv,hO⟩:=Fw hown rfl;subst hv;have HO:=bG hO;clear hown hO;go_wp2;go_ret;exact ⟨ad'',cap'',by rw [HN.out]; rfl,by rw [HN.out]; exact HO.out,HBW.out⟩
theorem Kl (fit:Tp→Bool) (ts:List Tp) (k:Int) (t:Tp):aP fit ts k t ≠ 1:=by
 unfold aP
 repeat' split
 all_goals decide
theorem CZ {rs:List TR} {ts:List Tp} {k:Int} {t:Tp} (h:cZ (lV rs) (aA (ah rs)) ts=false):Hf rs ts k t=1∧Bd rs ts k t=[]:=by
 unfold Hf qJ Bd mU; rw [h]; exact ⟨rfl,rfl⟩
theorem mV {rs:List TR} {ts:List Tp} {k:Int} {t:Tp} (h:cZ (lV rs) (aA (ah rs)) ts=true):Hf rs ts k t=aP (lV rs) ts k t∧Bd rs ts k t=jJ (lV rs) ts k t:=by
 unfold Hf qJ Bd mU; rw [h]; exact ⟨rfl,rfl⟩
theorem Km {rs:List TR} {ts:List Tp} {k:Int} {t:Tp} (h:Hf rs ts k t=1):Bd rs ts k t=[]:=by
 cases hr:cZ (lV rs) (aA (ah rs)) ts with
 | false=>exact (CZ hr).2
 | true=>rw [(mV hr).1] at h; exact absurd h (Kl _ _ _ _)
theorem Lm {rs:List TR} {ts:List Tp} {k:Int} {t:Tp} (h0:Hf rs ts k t ≠ 0) (h1:Hf rs ts k t ≠ 1):Bd rs ts k t=ts:=by
 cases hr:cZ (lV rs) (aA (ah rs)) ts with
 | false=>exact absurd (CZ hr).1 h1
 | true=>rw [(mV hr).1] at h0; rw [(mV hr).2]; exact kM rfl h0
theorem Lp {rs:List TR} {ts:List Tp} {k:Int} {t:Tp} (h:∀ x ∈ ts,x.fits) (ht:t.fits):∀ x ∈ Bd rs ts k t,x.fits:=by
 cases hr:cZ (lV rs) (aA (ah rs)) ts with
 | false=>rw [(CZ hr).2]; intro x hx; cases hx
 | true =>
  rw [(mV hr).2]; unfold jJ bX;intro x hx;split at hx
  ·split at hx
   ·exact h x ((iW ts t x).1 hx).1
   ·rcases (jw ts t x).1 hx with rfl | k
    ·exact ht
    ·exact h x k
  ·exact h x hx
theorem Lr {rs:List TR} {ts:List Tp} {k:Int} {t:Tp} (h:Hf rs ts k t=0):k=1 ∨ k=2:=by
 cases hr:cZ (lV rs) (aA (ah rs)) ts with
 | false=>rw [(CZ hr).1] at h; cases h
 | true =>
  rw [(mV hr).1] at h;obtain ⟨-,⟨h,-⟩ | ⟨h,-⟩⟩:=lM h
  ·exact .inr h
  ·exact .inl h
theorem Ls {rs:List TR} {ts:List Tp} {k:Int} {t:Tp} (h:Hf rs ts k t=0) :
  Hf rs (Bd rs ts k t) (3 - k) t=0∧Bd rs (Bd rs ts k t) (3 - k) t=ts∧yo (ah rs) (Bd rs ts k t)=[]:=by
 cases hr:cZ (lV rs) (aA (ah rs)) ts with
 | false=>rw [(CZ hr).1] at h; cases h
 | true =>
  rw [(mV hr).1] at h;obtain ⟨hs,h2,h3⟩:=su hr;obtain ⟨hu,hok,hl⟩:=xG h2;have hfit:∀ x ∈ ts,lV rs x=true:=List.all_eq_true.1 h3;obtain ⟨n1,n2,n3⟩:=xZ hu hok hl h;have nf:=GQ hfit h;have eL:Bd rs ts k t=bX ts k t:=by rw [(mV hr).2]; exact lQ h
  have hB:=Kk n1 n2 n3;have hR:cZ (lV rs) (aA (ah rs)) (bX ts k t)=true:=by
   unfold cZ; rw [hs,hB,List.all_eq_true.2 nf]; rfl
  rw [eL,(mV hR).1,(mV hR).2];have hU:yo (ah rs) (bX ts k t)=[]:=by
   rw [CX (by unfold EO; rw [hs,hB]; rfl)];refine List.filter_eq_nil_iff.2 fun x hx=>?_;have:=nf x hx;unfold lV at this; unfold gG; rw [this]; decide
  obtain ⟨ht,⟨rfl,hm⟩ | ⟨rfl,hf,hn,hlt⟩⟩:=lM h
  ·have e:bX ts 2 t=bQ ts t:=by unfold bX; rw [if_pos rfl]
   rw [e] at n1 n2 hU ⊢;have hnm:t ∉ bQ ts t:=fun k=>((iW ts t t).1 k).2 rfl;have hls:=EN hm;have hc:aP (lV rs) (bQ ts t) (3 - 2) t=0:=by
    show aP _ _ 1 _=0;rw [kv ht,if_pos (hfit t hm),Ll hnm,if_neg (by decide),if_neg (by omega)]
   refine ⟨hc,?_,hU⟩;rw [lQ hc];show eF _ _=_;refine Ed (Fg n1 n2 ht hnm) hu fun x=>?_;rw [jw,iW];by_cases e:x=t
   ·subst e; simp [hm]
   ·simp [e]
  ·have e:bX ts 1 t=eF ts t:=by unfold bX; rw [if_neg (by decide)]
   rw [e] at n1 n2 hU ⊢;have hc:aP (lV rs) (eF ts t) (3 - 1) t=0:=by
    show aP _ _ 2 _=0;rw [lK ht,if_pos (rO.2 ((jw ts t t).2 (.inl rfl)))]
   refine ⟨hc,?_,hU⟩;rw [lQ hc];show bQ _ _=_;refine Ed (xH t n1) hu fun x=>?_;rw [iW,jw];by_cases e:x=t
   ·subst e; simp [hn]
   ·simp [e]
theorem iE (ad ad':Option Addr) (cap cap':Nat) (ts:List Tp) (w:World) (hlen:ts.length≤1048576) (hs:Sl w ad ts) (hs':Sl w ad' ts) :
  Calls prog 20 #[.slice ad ts.length cap,.slice ad' ts.length cap'] w fun e w'=>e=.returned (.bool true)∧Below w.heap.size w w':=by
 have HS:=bG hs;have HS':=bG hs';clear hs hs';have hnn:((ts.length:Int) != (ts.length:Int))=false:=by simp
 go_enter func20,ntmps20;go_wp2;go_loopw [5] (fun i wr=>∃ k:Nat,k≤ts.length∧i=.int .i64 k∧Hid (Below w.heap.size w wr)) (fun i _=>ts.length - (intOf i).toNat);case atStart=>exact ⟨0,Nat.zero_le _,rfl,Below.refl _ _⟩
 case round =>
  obtain ⟨k,hk,rfl,HB⟩:=hrel;have hk1:=bR k;by_cases hlt:k < ts.length
  ·have hk2:(k:Int) < (ts.length:Int):=by omega
   rcases HS.out.below HB.out with hnil | ⟨b,off,rfl,hb,hr⟩
   ·rw [hnil] at hlt; simp at hlt
   rcases HS'.out.below HB.out with hnil | ⟨b',off',rfl,hb',hr'⟩
   ·rw [hnil] at hlt; simp at hlt
   obtain ⟨t0,t1,t2,t3,t4,t5⟩:=hr k hlt;obtain ⟨u0,u1,u2,u3,u4,u5⟩:=hr' k hlt;have heq:=Eb ts[k] ts[k] (v:=false) (by rw [jr.2 rfl]; rfl);clear hr hr';go_wp2_with fail;go_quiet (fail);have HB2:Hid (Below w.heap.size w (wr.drewN nq)):=⟨HB.out.os,HB.out.tape,HB.out.output,HB.out.size,HB.out.block⟩;clear t0 t1 t2 t3 t4 t5 u0 u1 u2 u3 u4 u5 heq;go_wp2;go_roundw;case rel=>exact ⟨k + 1,by omega,by go_num,HB2⟩
   case measure=>simp [intOf] <;> omega
  ·go_wp2;go_ret;exact ⟨rfl,HB.out⟩
end Go.Proofs.YteoflgocljfgeaaGreatDoor
namespace Go.Proofs.YteoflgocljfgeaaGreatDoor.fnApplied
open Go.ChangeShapes Go.WideShapes Go.ChangeAt Go.RowKit
open Pl
set_option linter.unusedVariables false
theorem yt (a:Nat→Addr) (ad:Option Addr) (cap:Nat) (rs:List TR) (ad':Option Addr) (cap':Nat) (ts:List Tp) (k:Int) (t:Tp) (w:World) (hE:ErrsD w a) (hlen:rs.length≤1048576) (hs:gp w ad rs) (hl:∀ r ∈ rs,r.light) (hfr:∀ r ∈ rs,r.fits) (hcpT:∀ r ∈ rs,r.caps) (hlt:ts.length≤1048576) (hst:Sv w ad' cap' ts) (hf:∀ x ∈ ts,x.fits) (ht:t.fits) :
  Calls prog 12 #[.slice ad rs.length cap,.slice ad' ts.length cap',.agg #[.int .i64 k,.string t.a,.string t.b,.string t.r,.string t.c,.string t.d,.string t.s]] w fun e w'=>∃ (ad8:Option Addr) (cap8:Nat),e=.returned (.tuple #[.slice ad8 (Bd rs ts k t).length cap8,.int .i64 (Hf rs ts k t)])∧Sv w' ad8 cap8 (Bd rs ts k t)∧Below w.heap.size w w':=by
 refine (uV (lV rs) a ad cap rs ad' cap' ts k t w hE hlen hs hl hfr (fun w1 hb=>rY ad cap rs w1 hlen (hs.below hb) hl hfr hcpT) (fun h t ht=>He h ht) hlt hst hf ht).mono ?_;rintro e w' ⟨v,rfl,ho,hb⟩;obtain ⟨ad8,cap8,rfl,hO⟩:=Ki ho;exact ⟨ad8,cap8,rfl,hO,hb⟩
structure St (w:World) (a:Nat→Addr) (adS:Option Addr) (g c n:Nat) (rs:List TR) (ts:List Tp) (k:Int) (t:Tp) (W:World):Prop where
 bel:Below w.heap.size w W
 sl:gp W adS rs
 tu:Sv W (some ⟨g,0,none⟩) c ts
 err:ErrsD W a
 lt:n < W.heap.size
 bx:W.cell? ⟨n,0,none⟩=some (.int .i64 k)∧W.cell? ⟨n,1,none⟩=some (.string t.a)∧W.cell? ⟨n,2,none⟩=some (.string t.b)∧W.cell? ⟨n,3,none⟩=some (.string t.r)∧W.cell? ⟨n,4,none⟩=some (.string t.c)∧W.cell? ⟨n,5,none⟩=some (.string t.d)∧W.cell? ⟨n,6,none⟩=some (.string t.s)
theorem St.later {w W W':World} {a:Nat→Addr} {adS:Option Addr} {g c n:Nat} {rs:List TR} {ts:List Tp} {k:Int} {t:Tp} (h:St w a adS g c n rs ts k t W) (hb:Below W.heap.size W W'):St w a adS g c n rs ts k t W' :=
 ⟨h.bel.trans (hb.mono h.bel.size),h.sl.below hb,h.tu.below hb,h.err.below hb,Nat.lt_of_lt_of_le h.lt hb.size,by
  obtain ⟨c0,c1,c2,c3,c4,c5,c6⟩:=h.bx;have hk:=fun o=>hb.cell (p:=⟨n,o,none⟩) h.lt;exact ⟨(hk _).trans c0,(hk _).trans c1,(hk _).trans c2,(hk _).trans c3,(hk _).trans c4,(hk _).trans c5,(hk _).trans c6⟩⟩
set_option maxRecDepth 100000 in
theorem walk (ad:Option Addr) (len cap:Nat) (a:Nat→Addr) (w:World) (hE:ErrsD w a) (h:Bytes w ad len) :
  Calls prog 4 #[.slice ad len cap] w fun e w'=>e=.returned (.bool true)∧Below w.heap.size w w':=by
 have H:=bG h;have HE:=bG hE;clear h hE;go_enter func4,ntmps4;go_wp2_with fail;refine (KW ad len cap w).mono ?_;rintro e w0 ⟨rfl,rfl⟩;by_cases hbig:(1048576:Int) < (len:Int)
 ·go_wp2;go_ret;exact ⟨rfl,Below.refl _ _⟩
 go_wp2_with fail;refine (uS ad len cap _ H.out).mono ?_;rintro e w1 ⟨v,rs,g,c,ts,k,t,rfl,hT,⟨hG1,hG2,hG3⟩,hl9,hsh,hts,hown,hb1⟩;obtain ⟨adS,capS,rfl,hs1,hcp⟩:=hT.read;obtain ⟨hrow,hg,hgc,-⟩:=kL hown rfl;obtain ⟨W1,hW1⟩:∃ W1,W1=w1.alloc (.cells #[.int .i64 k,.string t.a,.string t.b,.string t.r,.string t.c,.string t.d,.string t.s] 43):=⟨_,rfl⟩;have hba:Below w1.heap.size w1 W1:=by rw [hW1]; exact (Below.refl _ _).alloc (Nat.le_refl _) _
 have K1:Hid (St w0 a adS g c w1.heap.size rs ts k t W1):=by
  refine ⟨hb1.trans (hba.mono hb1.size),hs1.below hba,Sv.below (.inr ⟨g,0,rfl,hg,hgc,hrow⟩) hba,(HE.out.below hb1).below hba,by rw [hW1]; simp,?_⟩;refine ⟨?_,?_,?_,?_,?_,?_,?_⟩ <;> (rw [hW1]; simp)
 have hlen:rs.length≤1048576:=by omega
 have hlt:ts.length≤1048576:=by omega
 have HL:=bG hG2;have HF:=bG hG3;have HC:=bG hcp;have HFT:=bG hsh.fits;have HTF:=bG hts.fits;obtain ⟨L,hL⟩:∃ L,Bd rs ts k t=L:=⟨_,rfl⟩;obtain ⟨q,hQ⟩:∃ q,Hf rs ts k t=q:=⟨_,rfl⟩;have hLl:L.length≤1048576:=by rw [← hL]; exact Nat.le_trans (Lj _ _ _ _) (by omega)
 have HLL:=bG hL;have HQQ:=bG hQ;clear hT hG2 hG3 hcp hb1 hs1 hbig hown hsh hts hrow hg hgc hba hL hQ H HE;obtain ⟨x0,x1,x2,x3,x4,x5,x6⟩:=K1.out.bx;go_wp2_with fail;rw [← hW1];clear hW1;refine (yt a adS capS rs _ c ts k t _ K1.out.err hlen K1.out.sl HL.out HF.out HC.out hlt K1.out.tu HFT.out HTF.out).mono ?_;rintro e w2 ⟨adU,capU,rfl,hU,hb2⟩;rw [HLL.out] at hU;rw [HLL.out,HQQ.out];have K2:=bG (K1.out.later hb2);have HU:=bG hU;clear hU hb2 K1 x0 x1 x2 x3 x4 x5 x6;obtain ⟨x0,x1,x2,x3,x4,x5,x6⟩:=K2.out.bx;have HSP:Hid (∀ (g':Nat),g'=g→True):=fun _ _=>trivial;have HSA:Hid (dL w2 g 0 ts∧g < w2.heap.size∧ts.length≤c):=by
  rcases K2.out.tu with ⟨h,-⟩ | ⟨b,off,e,hb,hcc,hr⟩
  ·cases h
  ·injection e with e; injection e with e1 e2; subst e1 e2; exact ⟨hr,hb,hcc⟩
 go_wp2_with fail;refine (CW adS capS rs g c ts k t _ hlen K2.out.sl HL.out HF.out hlt HSA.out.2.2 HSA.out.2.1 HSA.out.1 HFT.out HTF.out).mono ?_;rintro e w3 ⟨adV,capV,rfl,hV,hb3⟩;rw [HLL.out] at hV;rw [HLL.out,HQQ.out];have K3:=bG (K2.out.later hb3);have HU3:=bG (HU.out.below hb3);have HV:=bG hV;clear hV hb3 K2 HU HSA HSP x0 x1 x2 x3 x4 x5 x6;have hqq:(q == q)=true:=by simp
 go_wp2_with fail;refine (iE adU adV capU capV L _ hLl HU3.out.sl HV.out).mono ?_;rintro e w4 ⟨rfl,hb4⟩;have K4:=bG (K3.out.later hb4);have HU4:=bG (HU3.out.below hb4);have HV4:=bG (HV.out.below hb4);clear hb4 K3 HU3 HV;by_cases h1:q=1
 ·subst h1;have HN:Hid (L=[]):=by show _=_; rw [← HLL.out]; exact Km HQQ.out
  go_wp2_with fail;refine (iE adU adV capU capV L _ hLl HU4.out.sl HV4.out).mono ?_;rintro e w5 ⟨rfl,hb5⟩;have HBe:=bG (K4.out.later hb5).bel;have hn0:L.length=0:=by rw [HN.out]; rfl
  clear hb5 K4 HU4 HV4;go_wp2;go_ret;exact ⟨rfl,HBe.out⟩
 ·have h1b:(q == 1)=false:=by simpa using h1
  by_cases h0:q=0
  ·subst h0;obtain ⟨hB1,hB2,hB3⟩:=Ls HQQ.out;have HTL:=bG (Lp (rs:=rs) (k:=k) HFT.out HTF.out);rw [HLL.out] at hB1 hB2 hB3 HTL;have HB1:=bG hB1;have HB2:=bG hB2;have HB3:=bG hB3;obtain ⟨x0,x1,x2,x3,x4,x5,x6⟩:=K4.out.bx;clear hB1 hB2 hB3 HV4 h1;obtain ⟨k2,hk2⟩:∃ k2,k2=3 - k:=⟨_,rfl⟩;rw [← hk2] at HB1 HB2;have hkr:1≤k∧k≤2:=by rcases Lr HQQ.out with h | h <;> omega
   obtain ⟨W5,hW5⟩:∃ W5,W5=w4.alloc (.cells #[.int .i64 k2,.string t.a,.string t.b,.string t.r,.string t.c,.string t.d,.string t.s] 43):=⟨_,rfl⟩;have hba:Below w4.heap.size w4 W5:=by rw [hW5]; exact (Below.refl _ _).alloc (Nat.le_refl _) _
   have K5:=bG (K4.out.later hba);have HU5:=bG (HU4.out.below hba);have hy:W5.cell? ⟨w4.heap.size,0,none⟩=some (.int .i64 k2)∧W5.cell? ⟨w4.heap.size,1,none⟩=some (.string t.a)∧W5.cell? ⟨w4.heap.size,2,none⟩=some (.string t.b)∧W5.cell? ⟨w4.heap.size,3,none⟩=some (.string t.r)∧W5.cell? ⟨w4.heap.size,4,none⟩=some (.string t.c)∧W5.cell? ⟨w4.heap.size,5,none⟩=some (.string t.d)∧W5.cell? ⟨w4.heap.size,6,none⟩=some (.string t.s):=by
    refine ⟨?_,?_,?_,?_,?_,?_,?_⟩ <;> (rw [hW5]; simp)
   obtain ⟨y0,y1,y2,y3,y4,y5,y6⟩:=hy;clear hba K4 HU4;go_wp2_with fail;rw [← hk2,← hW5];clear hW5 hkr;refine (yt a adS capS rs adU capU L k2 t _ K5.out.err hlen K5.out.sl HL.out HF.out HC.out hLl HU5.out HTL.out HTF.out).mono ?_;rintro e w6 ⟨adB,capB,rfl,hBk,hb6⟩;rw [HB2.out] at hBk;rw [HB1.out,HB2.out];have K6:=bG (K5.out.later hb6);have HU6:=bG (HU5.out.below hb6);have HBK:=bG hBk;clear hBk hb6 K5 HU5 x0 x1 x2 x3 x4 x5 x6 y0 y1 y2 y3 y4 y5 y6;go_wp2_with fail;refine (iE adB _ capB c ts _ hlt HBK.out.sl K6.out.tu.sl).mono ?_;rintro e w7 ⟨rfl,hb7⟩;have K7:=bG (K6.out.later hb7);have HU7:=bG (HU6.out.below hb7);clear hb7 K6 HU6 HBK;go_wp2_with fail;refine (yJ adS adU capS capU rs L _ hlen K7.out.sl HL.out HF.out HC.out hLl HU7.out.sl HTL.out).mono ?_;rintro e w8 ⟨adX,capX,rfl,hX,hb8⟩;rw [HB3.out];have HBe:=bG (K7.out.later hb8).bel;clear hX hb8 K7 HU7;go_wp2;go_ret;exact ⟨rfl,HBe.out⟩
  ·have h0b:(q == 0)=false:=by simpa using h0
   have e:ts=L:=by
    rw [← HLL.out];exact (Lm (by rw [HQQ.out]; exact h0) (by rw [HQQ.out]; exact h1)).symm
   subst e;clear HV4;go_wp2_with fail;refine (iE adU _ capU c ts _ hlt HU4.out.sl K4.out.tu.sl).mono ?_;rintro e w5 ⟨rfl,hb5⟩;have HBe:=bG (K4.out.later hb5).bel;clear hb5 K4 HU4;go_wp2;go_ret;exact ⟨rfl,HBe.out⟩
theorem own:ownKnob prog.godebug=none:=by kernel_rfl
theorem laidOut:laidOutB prog=true:=by kernel_rfl
abbrev nm (i:Nat):String:=(Rows.fnAppliedSpec.vars[i]?).getD default
theorem n0:prog.globalNamed (nm 0)=some 0:=by kernel_rfl
theorem n2:prog.globalNamed (nm 1)=some 2:=by kernel_rfl
theorem n3:prog.globalNamed (nm 3)=some 3:=by kernel_rfl
theorem n4:prog.globalNamed (nm 4)=some 4:=by kernel_rfl
theorem n5:prog.globalNamed (nm 2)=some 5:=by kernel_rfl
theorem n6:prog.globalNamed (nm 5)=some 6:=by kernel_rfl
theorem n1 : Tryz.prog.globalNamed "errors.errorType" = some 1 := by kernel_rfl
theorem t0:(prog.globals[0]?).map (·.type)=some 67:=by kernel_rfl
theorem t2:(prog.globals[2]?).map (·.type)=some 67:=by kernel_rfl
theorem t3:(prog.globals[3]?).map (·.type)=some 67:=by kernel_rfl
theorem t4:(prog.globals[4]?).map (·.type)=some 67:=by kernel_rfl
theorem t5:(prog.globals[5]?).map (·.type)=some 67:=by kernel_rfl
theorem t6:(prog.globals[6]?).map (·.type)=some 67:=by kernel_rfl
theorem star : "*" ++ "errors.errorString" = "*errors.errorString" := by decide
theorem Hg (u : TypeId) (h : Tryz.prog.typeName? 3 u = some "*errors.errorString") : u = 283 :=
 typeName_ptr_named (nm := "errors.errorString") (by rw [star]; kernel_rfl) (by kernel_rfl) (by decide) u (by rw [star]; exact h)
theorem cellsE:prog.cellsOf 304=1:=by kernel_rfl
theorem cellsS:prog.cellsOf 9=1:=by kernel_rfl
theorem rt : (Tryz.prog.cutTypes.find? (·.1 == "internal/reflectlite.rtype")).map (·.2) = some 174 := by kernel_rfl
theorem MW:((List.range prog.types.size).filter fun t=>prog.rowNamed t [101,114,114,111,114])=[67]:=by kernel_rfl
theorem hnd:typeHandle prog 67=.pointer (some ⟨8,67,none⟩):=by kernel_rfl
theorem parts {W : World} (h : laidMetH Tryz.prog Rows.fnAppliedRow.laid W) : laidMet Tryz.prog (Rows.fnAppliedRow.laid.drop 1) W ∧ handlesMet Tryz.prog [("errors.errorType", Rows.laid_errors_errorType)] W := h
theorem MX {W:World} (h:laidMetH prog Rows.fnAppliedRow.laid W):1 < W.heap.size∧W.cell? ⟨1,0,none⟩=some (.iface 174 (.agg #[.pointer (some ⟨8,67,none⟩)])):=by
 obtain ⟨name,u,ty,e1,e2,e3,e4,e5⟩:=(parts h).2 _ (List.mem_singleton.2 rfl);have en:name=[101,114,114,111,114]:=(Option.some.inj e1).symm;subst en;obtain rfl:=Option.some.inj (rt.symm.trans e2);have hm:ty ∈ (List.range prog.types.size).filter fun t=>prog.rowNamed t [101,114,114,111,114]:=List.mem_filter.2 ⟨List.mem_range.2 e3,e4⟩;rw [MW] at hm;obtain rfl:=List.mem_singleton.1 hm;rw [hnd] at e5;have hc:W.cell? ⟨1,0,none⟩=some (.iface 174 (.agg #[.pointer (some ⟨8,67,none⟩)])):=by simpa using World.var?_cell n1 e5 0
 exact ⟨World.block_lt_of_cell? W ⟨1,0,none⟩ hc,hc⟩
set_option maxRecDepth 100000 in
theorem Lt {W:World} (h:laidMetH prog Rows.fnAppliedRow.laid W) :
  ∃ a0 a2 a3 a4 a5 a6:Addr,[a0,a2,a3,a4,a5,a6].Nodup∧W.var? prog (nm 0)=some #[.iface 283 (.pointer (some a0))]∧W.var? prog (nm 1)=some #[.iface 283 (.pointer (some a2))]∧W.var? prog (nm 3)=some #[.iface 283 (.pointer (some a3))]∧W.var? prog (nm 4)=some #[.iface 283 (.pointer (some a4))]∧W.var? prog (nm 2)=some #[.iface 283 (.pointer (some a5))]∧W.var? prog (nm 5)=some #[.iface 283 (.pointer (some a6))]∧(∃ c T,W.heap[a0.block]?=some (.cells c T (0,0)))∧(∃ c T,W.heap[a2.block]?=some (.cells c T (0,0)))∧(∃ c T,W.heap[a3.block]?=some (.cells c T (0,0)))∧(∃ c T,W.heap[a4.block]?=some (.cells c T (0,0)))∧(∃ c T,W.heap[a5.block]?=some (.cells c T (0,0)))∧(∃ c T,W.heap[a6.block]?=some (.cells c T (0,0))):=by
 obtain ⟨ps,⟨g0,k0,cs0,f0,p0,q0,hg0,ht0,hv0,hd0,⟨g2,k2,cs2,f2,p2,q2,hg2,ht2,hv2,hd2,⟨g3,k3,cs3,f3,p3,q3,hg3,ht3,hv3,hd3,⟨g4,k4,cs4,f4,p4,q4,hg4,ht4,hv4,hd4,⟨g5,k5,cs5,f5,p5,q5,hg5,ht5,hv5,hd5,⟨g6,k6,cs6,f6,p6,q6,hg6,ht6,hv6,hd6,hq6,e6⟩,e5⟩,e4⟩,e3⟩,e2⟩,e0⟩,hnd,hrows⟩:=(parts h).1;obtain rfl:=Option.some.inj (n0.symm.trans hg0);obtain rfl:=Option.some.inj (n2.symm.trans hg2);obtain rfl:=Option.some.inj (n3.symm.trans hg3);obtain rfl:=Option.some.inj (n4.symm.trans hg4);obtain rfl:=Option.some.inj (n5.symm.trans hg5);obtain rfl:=Option.some.inj (n6.symm.trans hg6);obtain rfl:=Option.some.inj (t0.symm.trans ht0);obtain rfl:=Option.some.inj (t2.symm.trans ht2);obtain rfl:=Option.some.inj (t3.symm.trans ht3);obtain rfl:=Option.some.inj (t4.symm.trans ht4);obtain rfl:=Option.some.inj (t5.symm.trans ht5);obtain rfl:=Option.some.inj (t6.symm.trans ht6);have hq6':q6=[]:=hq6;subst hq6';subst e6;subst e5;subst e4;subst e3;subst e2;subst e0;obtain ⟨l0⟩:=cs0;obtain ⟨l2⟩:=cs2;obtain ⟨l3⟩:=cs3;obtain ⟨l4⟩:=cs4;obtain ⟨l5⟩:=cs5;obtain ⟨l6⟩:=cs6;have ok0:∀ u v,l0=[.iface u v]→Value.okWide prog W .any 0 u v:=fun u v e=>by
  subst e;exact (hrows 0 0 (by simp [MemPlace.row])).2 u v (by simpa using World.var?_cell hg0 hv0 0)
 have ok2:∀ u v,l2=[.iface u v]→Value.okWide prog W .any 0 u v:=fun u v e=>by
  subst e;exact (hrows 2 0 (by simp [MemPlace.row])).2 u v (by simpa using World.var?_cell hg2 hv2 0)
 have ok3:∀ u v,l3=[.iface u v]→Value.okWide prog W .any 0 u v:=fun u v e=>by
  subst e;exact (hrows 3 0 (by simp [MemPlace.row])).2 u v (by simpa using World.var?_cell hg3 hv3 0)
 have ok4:∀ u v,l4=[.iface u v]→Value.okWide prog W .any 0 u v:=fun u v e=>by
  subst e;exact (hrows 4 0 (by simp [MemPlace.row])).2 u v (by simpa using World.var?_cell hg4 hv4 0)
 have ok5:∀ u v,l5=[.iface u v]→Value.okWide prog W .any 0 u v:=fun u v e=>by
  subst e;exact (hrows 5 0 (by simp [MemPlace.row])).2 u v (by simpa using World.var?_cell hg5 hv5 0)
 have ok6:∀ u v,l6=[.iface u v]→Value.okWide prog W .any 0 u v:=fun u v e=>by
  subst e;exact (hrows 6 0 (by simp [MemPlace.row])).2 u v (by simpa using World.var?_cell hg6 hv6 0)
 obtain ⟨a0,s0,rfl,-,-,-,rfl⟩:=errorString_of_trod underlying67 Hg underlying283 underlying304 rfl rfl underlying9 cellsE cellsS hd0 ok0;obtain ⟨a2,s2,rfl,-,-,-,rfl⟩:=errorString_of_trod underlying67 Hg underlying283 underlying304 rfl rfl underlying9 cellsE cellsS hd2 ok2;obtain ⟨a3,s3,rfl,-,-,-,rfl⟩:=errorString_of_trod underlying67 Hg underlying283 underlying304 rfl rfl underlying9 cellsE cellsS hd3 ok3;obtain ⟨a4,s4,rfl,-,-,-,rfl⟩:=errorString_of_trod underlying67 Hg underlying283 underlying304 rfl rfl underlying9 cellsE cellsS hd4 ok4;obtain ⟨a5,s5,rfl,-,-,-,rfl⟩:=errorString_of_trod underlying67 Hg underlying283 underlying304 rfl rfl underlying9 cellsE cellsS hd5 ok5;obtain ⟨a6,s6,rfl,-,-,-,rfl⟩:=errorString_of_trod underlying67 Hg underlying283 underlying304 rfl rfl underlying9 cellsE cellsS hd6 ok6;have b0:=(hrows a0.block a0.off (by simp [MemPlace.row])).1;have b2:=(hrows a2.block a2.off (by simp [MemPlace.row])).1;have b3:=(hrows a3.block a3.off (by simp [MemPlace.row])).1;have b4:=(hrows a4.block a4.off (by simp [MemPlace.row])).1;have b5:=(hrows a5.block a5.off (by simp [MemPlace.row])).1;have b6:=(hrows a6.block a6.off (by simp [MemPlace.row])).1;refine ⟨a0,a2,a3,a4,a5,a6,?_,hv0,hv2,hv3,hv4,hv5,hv6,b0,b2,b3,b4,b5,b6⟩;have x02:a0 ≠ a2:=by rintro rfl; simp [MemPlace.row] at hnd
 have x03:a0 ≠ a3:=by rintro rfl; simp [MemPlace.row] at hnd
 have x04:a0 ≠ a4:=by rintro rfl; simp [MemPlace.row] at hnd
 have x05:a0 ≠ a5:=by rintro rfl; simp [MemPlace.row] at hnd
 have x06:a0 ≠ a6:=by rintro rfl; simp [MemPlace.row] at hnd
 have x23:a2 ≠ a3:=by rintro rfl; simp [MemPlace.row] at hnd
 have x24:a2 ≠ a4:=by rintro rfl; simp [MemPlace.row] at hnd
 have x25:a2 ≠ a5:=by rintro rfl; simp [MemPlace.row] at hnd
 have x26:a2 ≠ a6:=by rintro rfl; simp [MemPlace.row] at hnd
 have x34:a3 ≠ a4:=by rintro rfl; simp [MemPlace.row] at hnd
 have x35:a3 ≠ a5:=by rintro rfl; simp [MemPlace.row] at hnd
 have x36:a3 ≠ a6:=by rintro rfl; simp [MemPlace.row] at hnd
 have x45:a4 ≠ a5:=by rintro rfl; simp [MemPlace.row] at hnd
 have x46:a4 ≠ a6:=by rintro rfl; simp [MemPlace.row] at hnd
 have x56:a5 ≠ a6:=by rintro rfl; simp [MemPlace.row] at hnd
 simp [x02,x03,x04,x05,x06,x23,x24,x25,x26,x34,x35,x36,x45,x46,x56]
def pick (a0 a2 a3 a4 a5 a6:Addr) (g:Nat):Addr:=if g=0 then a0 else if g=2 then a2 else if g=3 then a3 else if g=4 then a4 else if g=5 then a5 else a6
end Go.Proofs.YteoflgocljfgeaaGreatDoor.fnApplied
