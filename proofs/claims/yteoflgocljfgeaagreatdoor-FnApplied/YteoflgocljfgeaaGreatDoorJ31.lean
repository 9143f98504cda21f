/- What the drawing of a schema, tuples and a change answers: all in memory of their own; nothing that was there is touched. -/
import Derived.Test.YteoflgocljfgeaaGreatDoorJ30
open Go.Proofs.Tryz
set_option maxHeartbeats 80000000
namespace Go.Proofs.YteoflgocljfgeaaGreatDoor
set_option maxRecDepth 100000
set_option linter.unusedVariables false
open Go.ChangeShapes Go.WideShapes Go.ChangeAt Go.RowKit
open Pl
def Nr (w:World) (e:Ending) (w':World):Prop:=∃ (v:Value) (rs:List TR) (g c:Nat) (ts:List Tp) (k:Int) (t:Tp),e=.returned (.tuple #[v,.slice (some ⟨g,0,none⟩) ts.length c,.agg #[.int .i64 k,.string t.a,.string t.b,.string t.r,.string t.c,.string t.d,.string t.s]])∧fM w' w.heap.size v rs∧GoodS rs∧ts.length≤10∧lH ts∧t.short∧w'.ownsRow w.heap.size 41 6 (.slice (some ⟨g,0,none⟩) ts.length c) ts.length (aB ts)∧Below w.heap.size w w'
theorem Es (n:Nat) (w:World) (v0 v1 v2 v3 v4 v5 v6:Value):Only n w (((((((w.setCell ⟨n,0,none⟩ v0).setCell ⟨n,1,none⟩ v1).setCell ⟨n,2,none⟩ v2).setCell ⟨n,3,none⟩ v3).setCell ⟨n,4,none⟩ v4).setCell ⟨n,5,none⟩ v5).setCell ⟨n,6,none⟩ v6) :=
 (((((((Only.refl n w).set 0 v0).set 1 v1).set 2 v2).set 3 v3).set 4 v4).set 5 v5).set 6 v6
theorem uS (ad:Option Addr) (len cap:Nat) (w:World) (h:Bytes w ad len) :
  Calls prog 19 #[.slice ad len cap] w (Nr w):=by
 have H:Hid (Bytes w ad len):=h;clear h;obtain ⟨W0,hW0⟩:∃ W0,W0=w.alloc (.cells #[.int .i64 0,.string ⟨#[]⟩,.string ⟨#[]⟩,.string ⟨#[]⟩,.string ⟨#[]⟩,.string ⟨#[]⟩,.string ⟨#[]⟩] 43):=⟨_,rfl⟩;have HB0:=Be hW0;have HZ0:Hid (W0.heap.size=w.heap.size + 1):=by show _=_; rw [hW0]; simp
 have HS0:Hid (tK W0 (w.heap.size + 1) w.heap.size 0 ⟨#[]⟩ ⟨#[]⟩ ⟨#[]⟩ ⟨#[]⟩ ⟨#[]⟩ ⟨#[]⟩):=by
  show tK _ _ _ _ _ _ _ _ _ _;rw [hW0];refine ⟨by omega,by simp,fun o=>by simp,?_,?_,?_,?_,?_,?_,?_⟩ <;> simp
 go_enter func19,ntmps19;go_wp2_with fail;rw [← hW0];clear hW0;refine (Jk ad len cap _ (H.out.below HB0.out)).mono ?_;rintro e w1 ⟨rfl,hR1,hb1⟩;rw [HZ0.out] at hR1 ⊢;obtain ⟨R,hRR⟩:∃ R,R=w.heap.size + 1:=⟨_,rfl⟩;rw [← hRR] at hR1 HS0 ⊢;have HB1:=gW HB0 hb1;have HR1:Hid (Rd w1 R ad len cap):=hR1;have HS1:=bG (HS0.out.only (Only.of_below hb1));have hRn:w.heap.size < R:=by omega
 clear hR1 hb1 HS0 HB0 HZ0 hRR;go_wp2_with fail;refine (DY R ad len cap _ HR1.out).mono ?_;rintro e w2 ⟨v,rs,rfl,hT2,hG,hR2,hO2⟩;have hb:=HR1.out.lt;obtain ⟨adS,capS,rfl,-,-⟩:=hT2.read;have HR2:Hid (Rd w2 R ad len cap):=hR2;have HB2:Hid (Below w.heap.size w w2):=Only.toBelow HB1.out hO2 HB1.out.size (by omega);have HT2:Hid (fM w2 w1.heap.size (.slice adS rs.length capS) rs):=hT2;have HG:Hid (GoodS rs):=hG;have HS2:=bG (HS1.out.only hO2);clear hT2 hG hR2 hO2 HB1 HR1 HS1;go_wp2_with fail;refine (Ct R ad len cap adS capS w1.heap.size rs _ HR2.out hb HT2.out HG.out).mono ?_;rintro e w3 ⟨⟨g,c,ts,rfl,hl9,hsh,hown⟩,hR3,hO3⟩;have HB3:Hid (Below w.heap.size w w3):=Only.toBelow HB2.out hO3 HB2.out.size (by omega);have HT3:Hid (fM w3 w1.heap.size (.slice adS rs.length capS) rs):=HT2.out.only hb hO3;have hw:w.heap.size≤w1.heap.size:=by omega
 have hs2:R < w2.heap.size:=HR2.out.lt;obtain ⟨hrow,hg,-,hbg⟩:=kL hown rfl;have HO:Hid (w3.ownsRow w2.heap.size 41 6 (.slice (some ⟨g,0,none⟩) ts.length c) ts.length (aB ts)):=hown;have HC:=bG (Ep R ad len cap g c ts w3 hR3 (by omega) hsh hrow hg (by omega));have HSH:=bG hsh;have HS3:=bG (HS2.out.only hO3);clear hR3 hO3 HR2 HB2 HT2 HS2 hown hrow hg hbg hsh;go_wp2_with fail;refine HC.out.mono ?_;rintro e w4 ⟨⟨k,a,b,r,c2,d,s,rfl,ht⟩,hR4,hO4⟩;have HB4:Hid (Below w.heap.size w w4):=Only.toBelow HB3.out hO4 HB3.out.size (by omega);have HT4:Hid (fM w4 w1.heap.size (.slice adS rs.length capS) rs):=HT3.out.only hb hO4;have HO4:Hid (w4.ownsRow w2.heap.size 41 6 (.slice (some ⟨g,0,none⟩) ts.length c) ts.length (aB ts)):=oq HO.out hs2 hO4;have HTS:Hid (Tp.short ⟨a,b,r,c2,d,s⟩):=ht;have hS4:=HS3.out.only hO4;have hn1:w.heap.size < w1.heap.size:=by omega
 have hn2:w.heap.size < w2.heap.size:=by omega
 obtain ⟨W5,hW5⟩:∃ W5,W5=(((((((w4.setCell ⟨w.heap.size,0,none⟩ (.int .i64 k)).setCell ⟨w.heap.size,1,none⟩ (.string a)).setCell ⟨w.heap.size,2,none⟩ (.string b)).setCell ⟨w.heap.size,3,none⟩ (.string r)).setCell ⟨w.heap.size,4,none⟩ (.string c2)).setCell ⟨w.heap.size,5,none⟩ (.string d)).setCell ⟨w.heap.size,6,none⟩ (.string s)):=⟨_,rfl⟩;have hO5:Only w.heap.size w4 W5:=by rw [hW5]; exact Es _ _ _ _ _ _ _ _ _
 have HS5:Hid (tK W5 R w.heap.size k a b r c2 d s):=by show tK _ _ _ _ _ _ _ _ _ _; rw [hW5]; exact hS4.set
 have HR5:Hid (Nr w (.returned (.tuple #[.slice adS rs.length capS,.slice (some ⟨g,0,none⟩) ts.length c,.agg #[.int .i64 k,.string a,.string b,.string r,.string c2,.string d,.string s]])) W5) :=
  ⟨_,rs,g,c,ts,k,⟨a,b,r,c2,d,s⟩,rfl,LotM.lower (HT4.out.only hn1 hO5) hw,HG.out,hl9,HSH.out,HTS.out,fQ (oq HO4.out hn2 hO5) (Nat.le_of_lt hn2),Only.toBelow HB4.out hO5 HB4.out.size (Nat.le_refl _)⟩
 obtain ⟨s1,s2,s3,d0,d1,d2,d3,d4,d5,d6⟩:=hS4;clear ht hR4 hO4 hO5 HB3 HT3 HO HC HS3 HB4 HT4 HO4 HTS HSH HG;go_wp2;rw [← hW5];clear hW5 d0 d1 d2 d3 d4 d5 d6 s2 s3;obtain ⟨-,s2,s3,d0,d1,d2,d3,d4,d5,d6⟩:=HS5.out;exact bodyPost_ret (v:=.tuple #[.slice adS rs.length capS,.slice (some ⟨g,0,none⟩) ts.length c,.agg #[.int .i64 k,.string a,.string b,.string r,.string c2,.string d,.string s]]) (by simp [results,Tryz.results19,go_sem, *]) rfl HR5.out
def aP (fit:Tp→Bool) (ts:List Tp) (k:Int) (t:Tp):Int :=
  if (k=1 ∨ k=2)∧t.ok=true then
    (if k=2 then (if fC ts t then 0 else 5)
     else if fit t then (if fC ts t then 4 else if 40≤ts.length then 6 else 0) else 3)
  else 2
def bX (ts:List Tp) (k:Int) (t:Tp):List Tp:=if k=2 then bQ ts t else eF ts t
theorem jP {fit:Tp→Bool} {ts:List Tp} {k:Int} {t:Tp} (h:¬ ((k=1 ∨ k=2)∧t.ok=true)):aP fit ts k t=2:=by unfold aP; rw [if_neg h]
theorem lK {fit:Tp→Bool} {ts:List Tp} {t:Tp} (ht:t.ok=true):aP fit ts 2 t=if fC ts t then 0 else 5:=by unfold aP; rw [if_pos ⟨.inr rfl,ht⟩,if_pos rfl]
theorem kv {fit:Tp→Bool} {ts:List Tp} {t:Tp} (ht:t.ok=true):aP fit ts 1 t=if fit t then (if fC ts t then 4 else if 40≤ts.length then 6 else 0) else 3:=by unfold aP; rw [if_pos ⟨.inl rfl,ht⟩,if_neg (by decide)]
theorem lM {fit:Tp→Bool} {ts:List Tp} {k:Int} {t:Tp} (h:aP fit ts k t=0):t.ok=true∧((k=2∧t ∈ ts) ∨ (k=1∧fit t=true∧t ∉ ts∧ts.length < 40)):=by
 by_cases hf:(k=1 ∨ k=2)∧t.ok=true
 ·refine ⟨hf.2,?_⟩;rcases hf.1 with rfl | rfl
  ·rw [kv hf.2] at h;cases h1:fit t with
   | false=>rw [h1] at h; simp at h
   | true =>
    rw [h1] at h;cases h2:fC ts t with
    | true=>rw [h2] at h; simp at h
    | false =>
     rw [h2] at h;by_cases h3:40≤ts.length
     ·rw [if_pos h3] at h; simp at h
     ·exact .inr ⟨rfl,rfl,fun hm=>absurd (rO.2 hm) (by rw [h2]; decide),by omega⟩
  ·rw [lK hf.2] at h;cases h2:fC ts t with
   | true=>exact .inl ⟨rfl,rO.1 h2⟩
   | false=>rw [h2] at h; simp at h
 ·rw [jP hf] at h; cases h
theorem xY (ts:List Tp) (t:Tp):(eF ts t).length=ts.length + 1:=by
 induction ts with
 | nil=>rfl
 | cons x xs ih =>
  unfold eF;cases x.ahead t with
  | true=>simp only [if_true,List.length_cons,ih]
  | false=>simp
theorem xZ {fit:Tp→Bool} {ts:List Tp} {k:Int} {t:Tp} (hu:Up ts) (hok:∀ x ∈ ts,x.ok=true) (hl:ts.length≤40) (h:aP fit ts k t=0) :
  Up (bX ts k t)∧(∀ x ∈ bX ts k t,x.ok=true)∧(bX ts k t).length≤40:=by
 obtain ⟨ht,⟨rfl,hm⟩ | ⟨rfl,hf,hn,hlt⟩⟩:=lM h
 ·unfold bX; rw [if_pos rfl];exact ⟨xH t hu,fun x hx=>hok x ((iW ts t x).1 hx).1,Nat.le_trans (List.length_filter_le _ _) hl⟩
 ·unfold bX; rw [if_neg (by decide)];refine ⟨Fg hu hok ht hn,fun x hx=>?_,by rw [xY]; omega⟩;rcases (jw ts t x).1 hx with rfl | h1
  ·exact ht
  ·exact hok x h1
theorem GQ {fit:Tp→Bool} {ts:List Tp} {k:Int} {t:Tp} (hf:∀ x ∈ ts,fit x=true) (h:aP fit ts k t=0):∀ x ∈ bX ts k t,fit x=true:=by
 obtain ⟨ht,⟨rfl,hm⟩ | ⟨rfl,hft,hn,hlt⟩⟩:=lM h
 ·unfold bX; rw [if_pos rfl];exact fun x hx=>hf x ((iW ts t x).1 hx).1
 ·unfold bX; rw [if_neg (by decide)];intro x hx;rcases (jw ts t x).1 hx with rfl | h1
  ·exact hft
  ·exact hf x h1
structure LowT (ts:List Tp) (t:Tp) (n:Nat):Prop where
 le:n≤ts.length
 low:∀ i (h:i < ts.length),i < n→ts[i].ahead t=true
 high:∀ i (h:i < ts.length),n≤i→ts[i].ahead t=false
theorem JB {ts:List Tp} (hu:Up ts) {i j:Nat} (hi:i < ts.length) (hj:j < ts.length) (hij:i < j):ts[i].ahead ts[j]=true:=(List.pairwise_iff_getElem.1 hu) i j hi hj hij
theorem JC {ts:List Tp} {t:Tp} (hu:Up ts) {m:Nat} (hm:m < ts.length) (h:ts[m].ahead t=true):∀ i (hi:i < ts.length),i < m + 1→ts[i].ahead t=true:=fun i hi him=>by
 by_cases e:i=m
 ·subst e; exact h
 ·exact jv (JB hu hi hm (by omega)) h
theorem GR {ts:List Tp} {t:Tp} (hu:Up ts) {m:Nat} (hm:m < ts.length) (h:ts[m].ahead t=false):∀ i (hi:i < ts.length),m≤i→ts[i].ahead t=false:=fun i hi him=>by
 by_cases e:i=m
 ·subst e; exact h
 ·cases hc:ts[i].ahead t with
  | false=>rfl
  | true=>rw [jv (JB hu hm hi (by omega)) hc] at h; cases h
theorem K9 {ts:List Tp} {t:Tp} {n:Nat} (h:LowT ts t n):eF ts t=ts.take n ++ t::ts.drop n :=
 AO ts t n h.le h.low fun hn=>h.high n hn (Nat.le_refl _)
theorem JD {ts:List Tp} {t:Tp} {n:Nat} (h:LowT ts t n) (hu:Up ts) (hm:t ∈ ts):∃ hn:n < ts.length,ts[n]=t:=by
 obtain ⟨i,hi,e⟩:=List.getElem_of_mem hm;have h1:¬ i < n:=fun hl=>by
  have:=h.low i hi hl;rw [e,iB] at this; cases this
 refine ⟨by omega,?_⟩;by_cases e2:n=i
 ·subst e2; exact e
 ·have h2:=JB hu (i:=n) (j:=i) (by omega) hi (by omega);rw [e,h.high n (by omega) (Nat.le_refl _)] at h2; cases h2
theorem JE {ts:List Tp} {t:Tp} {n:Nat} (h:LowT ts t n) (hu:Up ts) (hm:t ∈ ts):bQ ts t=ts.take n ++ ts.drop (n + 1):=by
 obtain ⟨hn,e⟩:=JD h hu hm;refine Ed (xH t hu) ?_ fun x=>?_
 ·have:(ts.take n ++ ts.drop (n + 1)).Sublist ts:=by
   conv=>rhs; rw [← List.take_append_drop n ts]
   exact (List.Sublist.refl _).append (List.drop_sublist_drop_left ts (by omega))
  exact List.Pairwise.sublist this hu
 ·rw [iW];have hsp:ts=ts.take n ++ t::ts.drop (n + 1):=by rw [← e,← List.drop_eq_getElem_cons hn,List.take_append_drop]
  have hnd:t ∉ ts.take n∧t ∉ ts.drop (n + 1):=by
   have hu2:=hu;rw [hsp] at hu2;have hp:=List.pairwise_append.1 hu2;have hp2:=List.pairwise_cons.1 hp.2.1;refine ⟨fun hx=>?_,fun hx=>?_⟩
   ·have:=hp.2.2 t hx t (by simp);rw [iB] at this; cases this
   ·have:=hp2.1 t hx;rw [iB] at this; cases this
  constructor
  ·rintro ⟨h1,h2⟩;rw [hsp] at h1;rcases List.mem_append.1 h1 with h3 | h3
   ·exact List.mem_append.2 (.inl h3)
   ·rcases List.mem_cons.1 h3 with h4 | h4
    ·exact absurd h4 h2
    ·exact List.mem_append.2 (.inr h4)
  ·intro h1;rcases List.mem_append.1 h1 with h3 | h3
   ·exact ⟨List.mem_of_mem_take h3,fun e=>hnd.1 (e ▸ h3)⟩
   ·exact ⟨List.mem_of_mem_drop h3,fun e=>hnd.2 (e ▸ h3)⟩
theorem qm {B:Nat} {w w':World} (hB:Below B w w') {n o:Nat} {v:Value} (hn:n < B) (h:w.cell? ⟨n,o,none⟩=some v):w'.cell? ⟨n,o,none⟩=some v:=(hB.cell (p:=⟨n,o,none⟩) hn).trans h
theorem aM {p:Prop} (h:p):Hid p:=h
theorem bi {w w':World} {base:Nat} {e:TypeId} {size:Nat} {v:Value} {n:Nat} {xs:List Value} (h:w.ownsRow base e size v n xs) (hb:Below w.heap.size w w'):w'.ownsRow base e size v n xs:=by
 have hl:=fun g hg=>(h.lt g hg).2;refine ⟨h.1,?_⟩;rcases h.2 with h0 | ⟨g,cap,cur,rfl,h1,h2,h3⟩
 ·exact .inl h0
 ·exact .inr ⟨g,cap,cur,rfl,h1,(hb.block g (hl g rfl)).trans h2,h3⟩
theorem zP (x y:Tp):kV x y=kV y x:=by
 rw [Bool.eq_iff_iff,jr,jr];exact ⟨Eq.symm,Eq.symm⟩
theorem GU {ts:List Tp} {t:Tp} {k:Nat} (h:k < ts.length):fC (ts.take (k + 1)) t=(fC (ts.take k) t || kV ts[k] t):=by
 rw [List.take_succ_eq_append_getElem h];unfold fC;rw [List.any_append];simp only [List.any_cons,List.any_nil,Bool.or_false]
theorem JF {ts:List Tp} {t:Tp} {k:Nat} (h:k < ts.length) (he:kV ts[k] t=true):fC ts t=true:=List.any_eq_true.2 ⟨ts[k],List.getElem_mem h,he⟩
theorem Et (ad:Option Addr) (cap:Nat) (ts:List Tp) (t:Tp) (w:World) (hlen:ts.length≤1048576) (hs:Sl w ad ts) :
  Calls prog 148 #[.slice ad ts.length cap,.agg #[.string t.a,.string t.b,.string t.r,.string t.c,.string t.d,.string t.s]] w fun e w'=>(∃ r:Int,e=.returned (.int .i64 r)∧decide (0≤r)=fC ts t)∧Below w.heap.size w w':=by
 obtain ⟨W,hW⟩:∃ W,W=w.alloc (.cells #[.string t.a,.string t.b,.string t.r,.string t.c,.string t.d,.string t.s] 41):=⟨_,rfl⟩;have HB0:Hid (Below w.heap.size w W):=by show Below _ _ _; rw [hW]; exact (Below.refl w.heap.size w).alloc (Nat.le_refl _) _
 have hz:w.heap.size < W.heap.size:=by rw [hW]; simp
 have b0:W.cell? ⟨w.heap.size,0,none⟩=some (.string t.a):=by rw [hW]; simp
 have b1:W.cell? ⟨w.heap.size,1,none⟩=some (.string t.b):=by rw [hW]; simp
 have b2:W.cell? ⟨w.heap.size,2,none⟩=some (.string t.r):=by rw [hW]; simp
 have b3:W.cell? ⟨w.heap.size,3,none⟩=some (.string t.c):=by rw [hW]; simp
 have b4:W.cell? ⟨w.heap.size,4,none⟩=some (.string t.d):=by rw [hW]; simp
 have b5:W.cell? ⟨w.heap.size,5,none⟩=some (.string t.s):=by rw [hW]; simp
 have HS:Hid (Sl W ad ts):=hs.below HB0.out;clear hs;go_enter func148,ntmps148;go_wp2_with fail;rw [← hW];clear hW;go_loopw [8] (fun i wr=>∃ k:Nat,k≤ts.length∧i=.int .i64 k∧Hid (fC (ts.take k) t=false)∧Below W.heap.size W wr) (fun i _=>ts.length - (intOf i).toNat);case atStart=>exact ⟨0,Nat.zero_le _,rfl,rfl,Below.refl _ _⟩
 case round =>
  obtain ⟨k,hk,rfl,HP,hB⟩:=hrel;have a0:=qm hB hz b0;have a1:=qm hB hz b1;have a2:=qm hB hz b2;have a3:=qm hB hz b3;have a4:=qm hB hz b4;have a5:=qm hB hz b5;by_cases hlt:k < ts.length
  ·rcases HS.out.below hB with hnil | ⟨b,off,rfl,hb,hr⟩
   ·rw [hnil] at hlt; simp at hlt
   obtain ⟨t0,t1,t2,t3,t4,t5⟩:=hr k hlt;have hk1:=bR k;have hk2:(k:Int) < (ts.length:Int):=by omega
   clear hr;cases hq:kV t ts[k] with
   | true =>
    have HE:=AL t ts[k] hq;have HN:Hid (fC ts t=true):=JF hlt (by rw [zP]; exact hq);go_wp2_with fail;go_quiet (fail);go_wp2;go_ret;exact ⟨⟨_,rfl,by rw [HN.out]; simp⟩,HB0.out.trans (below_drewN (hB.mono HB0.out.size) _)⟩
   | false =>
    have HE:=AL t ts[k] hq;have HP2:Hid (fC (ts.take (k + 1)) t=false):=by show _=_; rw [GU hlt,HP.out,zP,hq]; rfl
    go_wp2_with fail;go_quiet (fail);go_wp2;go_roundw;case rel=>exact ⟨k + 1,by omega,by go_num,HP2,below_drewN hB _⟩
    case measure=>simp [intOf] <;> omega
  ·obtain rfl:k=ts.length:=by omega
   have HN:Hid (fC ts t=false):=by have:=HP.out; rw [List.take_length] at this; exact this
   go_wp2;go_ret;exact ⟨⟨-1,rfl,by rw [HN.out]; rfl⟩,HB0.out.trans (hB.mono HB0.out.size)⟩
theorem yG (ad:Option Addr) (cap:Nat) (ts:List Tp) (t:Tp) (w:World) (hlen:ts.length≤1048576) (hs:Sl w ad ts) :
  Calls prog 124 #[.slice ad ts.length cap,.agg #[.string t.a,.string t.b,.string t.r,.string t.c,.string t.d,.string t.s]] w fun e w'=>e=.returned (.bool (fC ts t))∧Below w.heap.size w w':=by
 have HB0:Hid (Below w.heap.size w (w.alloc (.cells #[.string t.a,.string t.b,.string t.r,.string t.c,.string t.d,.string t.s] 41))):=(Below.refl w.heap.size w).alloc (Nat.le_refl _) _;have HS:=aM hs;clear hs;go_enter func124,ntmps124;go_wp2_with fail;refine (Et ad cap ts t _ hlen (HS.out.below HB0.out)).mono ?_;rintro e w1 ⟨⟨r,rfl,hr⟩,hb1⟩;have HR:=aM hr;have HB1:=aM (HB0.out.trans (hb1.mono HB0.out.size));clear hr hb1;go_wp2;go_ret;exact ⟨ag HR.out,HB1.out⟩
def Fq (x t:Tp):Int:=Jl x.a x.b x.r x.c x.d x.s t.a t.b t.r t.c t.d t.s
theorem GV {x t:Tp} (hx:x.ok=true) (ht:t.ok=true):x.ahead t=decide (Fq x t < 0):=xA hx ht
theorem zQ (x t:Tp) (w:World) (hx:x.fits) (ht:t.fits) :
  Calls prog 90 #[.agg #[.string x.a,.string x.b,.string x.r,.string x.c,.string x.d,.string x.s],.agg #[.string t.a,.string t.b,.string t.r,.string t.c,.string t.d,.string t.s]] w fun e w'=>e=.returned (.int .i64 (Fq x t))∧Below w.heap.size w w':=by
 obtain ⟨f0,f1,f2,f3,f4,f5⟩:=hx;obtain ⟨g0,g1,g2,g3,g4,g5⟩:=ht;exact kK _ _ _ _ _ _ _ _ _ _ _ _ w f0 f1 f2 f3 f4 f5 g0 g1 g2 g3 g4 g5
theorem A7 {w W w':World} {n m p:Nat} {x0 x1 x2 x3 x4 x5 y0 y1 y2 y3 y4 y5:Value} (h:W.cell? ⟨n,p,none⟩=some x0∧W.cell? ⟨n,p + 1,none⟩=some x1∧W.cell? ⟨n,p + 2,none⟩=some x2∧W.cell? ⟨n,p + 3,none⟩=some x3∧W.cell? ⟨n,p + 4,none⟩=some x4∧W.cell? ⟨n,p + 5,none⟩=some x5∧W.cell? ⟨m,0,none⟩=some y0∧W.cell? ⟨m,1,none⟩=some y1∧W.cell? ⟨m,2,none⟩=some y2∧W.cell? ⟨m,3,none⟩=some y3∧W.cell? ⟨m,4,none⟩=some y4∧W.cell? ⟨m,5,none⟩=some y5∧n < W.heap.size∧m < W.heap.size∧Below w.heap.size w W) (hb:Below W.heap.size W w'):w'.cell? ⟨n,p,none⟩=some x0∧w'.cell? ⟨n,p + 1,none⟩=some x1∧w'.cell? ⟨n,p + 2,none⟩=some x2∧w'.cell? ⟨n,p + 3,none⟩=some x3∧w'.cell? ⟨n,p + 4,none⟩=some x4∧w'.cell? ⟨n,p + 5,none⟩=some x5∧w'.cell? ⟨m,0,none⟩=some y0∧w'.cell? ⟨m,1,none⟩=some y1∧w'.cell? ⟨m,2,none⟩=some y2∧w'.cell? ⟨m,3,none⟩=some y3∧w'.cell? ⟨m,4,none⟩=some y4∧w'.cell? ⟨m,5,none⟩=some y5∧n < w'.heap.size∧m < w'.heap.size∧Below w.heap.size w w':=by
 obtain ⟨h0,h1,h2,h3,h4,h5,g0,g1,g2,g3,g4,g5,hn,hm,hB⟩:=h;have hc:∀ o,w'.cell? ⟨n,o,none⟩=W.cell? ⟨n,o,none⟩:=fun o=>hb.cell (p:=⟨n,o,none⟩) hn;have hd:∀ o,w'.cell? ⟨m,o,none⟩=W.cell? ⟨m,o,none⟩:=fun o=>hb.cell (p:=⟨m,o,none⟩) hm;exact ⟨(hc _).trans h0,(hc _).trans h1,(hc _).trans h2,(hc _).trans h3,(hc _).trans h4,(hc _).trans h5,(hd _).trans g0,(hd _).trans g1,(hd _).trans g2,(hd _).trans g3,(hd _).trans g4,(hd _).trans g5,Nat.lt_of_lt_of_le hn hb.size,Nat.lt_of_lt_of_le hm hb.size,hB.trans (hb.mono hB.size)⟩
theorem Cu (ad:Option Addr) (cap:Nat) (ts:List Tp) (t:Tp) (w:World) (hlen:ts.length≤1048576) (hs:Sl w ad ts) (hf:∀ x ∈ ts,x.fits) (htf:t.fits) (hu:Up ts) (hok:∀ x ∈ ts,x.ok=true) (ht:t.ok=true) :
  Calls prog 89 #[.slice ad ts.length cap,.agg #[.string t.a,.string t.b,.string t.r,.string t.c,.string t.d,.string t.s],.func (.func 90) #[] #[]] w fun e w'=>(∃ (n:Nat) (q:Bool),e=.returned (.tuple #[.int .i64 n,.bool q])∧LowT ts t n)∧Below w.heap.size w w':=by
 have HS:=aM hs;have HF:=aM hf;have HU:=aM hu;have HOK:=aM hok;clear hs hf hu hok;obtain ⟨W,hW⟩:∃ W,W=w.alloc (.cells #[.string t.a,.string t.b,.string t.r,.string t.c,.string t.d,.string t.s] 41):=⟨_,rfl⟩;have HB0:Hid (Below w.heap.size w W):=by show Below _ _ _; rw [hW]; exact (Below.refl w.heap.size w).alloc (Nat.le_refl _) _
 have HX0:Hid (mZ W w.heap.size t):=by show mZ _ _ _; rw [hW]; exact rP w t _
 go_enter func89,ntmps89;go_wp2_with fail;rw [← hW];clear hW;go_loopw [9,10] (fun a b wr=>∃ lo hi:Nat,a=.int .i64 lo∧b=.int .i64 hi∧lo≤hi∧hi≤ts.length∧Hid (Below W.heap.size W wr)∧Hid ((∀ i (h:i < ts.length),i < lo→ts[i].ahead t=true)∧∀ i (h:i < ts.length),hi≤i→ts[i].ahead t=false)) (fun a b _=>(intOf b).toNat - (intOf a).toNat);case atStart=>exact ⟨0,ts.length,rfl,rfl,Nat.zero_le _,Nat.le_refl _,Below.refl _ _,fun i h hl=>absurd hl (Nat.not_lt_zero _),fun i h hl=>by omega⟩
 case round =>
  obtain ⟨lo,hi,rfl,rfl,hlh,hin,HB,HI⟩:=hrel;have HBW:=aM (HB0.out.trans (HB.out.mono HB0.out.size));obtain ⟨a0,a1,a2,a3,a4,a5,al⟩:=HX0.out.below HB.out;by_cases hlt:lo < hi
  ·have hm:(lo + hi) / 2 < ts.length:=by omega
   rcases HS.out.below HBW.out with hnil | ⟨b,off,rfl,hb,hr⟩
   ·rw [hnil] at hm; simp at hm
   obtain ⟨m,hmm⟩:∃ m,m=(lo + hi) / 2:=⟨_,rfl⟩;rw [← hmm] at hm;obtain ⟨t0,t1,t2,t3,t4,t5⟩:=hr m hm;have HC:=fun W=>aM (zQ ts[m] t W (HF.out _ (List.getElem_mem hm)) htf);have HA:=aM (GV (HOK.out _ (List.getElem_mem hm)) ht);have hm0:=bR m;have hm1:(m:Int) < (ts.length:Int):=by omega
   have hmi:((lo:Int) + (hi:Int)) / 2=(m:Int):=by omega
   have hlm:lo≤m∧m < hi:=by omega
   clear hr hmm;have H0:Hid ((fun w'=>w'.cell? ⟨b,off + m * 6,none⟩=some (.string ts[m].a)∧w'.cell? ⟨b,off + m * 6 + 1,none⟩=some (.string ts[m].b)∧w'.cell? ⟨b,off + m * 6 + 2,none⟩=some (.string ts[m].r)∧w'.cell? ⟨b,off + m * 6 + 3,none⟩=some (.string ts[m].c)∧w'.cell? ⟨b,off + m * 6 + 4,none⟩=some (.string ts[m].d)∧w'.cell? ⟨b,off + m * 6 + 5,none⟩=some (.string ts[m].s)∧w'.cell? ⟨w.heap.size,0,none⟩=some (.string t.a)∧w'.cell? ⟨w.heap.size,1,none⟩=some (.string t.b)∧w'.cell? ⟨w.heap.size,2,none⟩=some (.string t.r)∧w'.cell? ⟨w.heap.size,3,none⟩=some (.string t.c)∧w'.cell? ⟨w.heap.size,4,none⟩=some (.string t.d)∧w'.cell? ⟨w.heap.size,5,none⟩=some (.string t.s)∧b < w'.heap.size∧w.heap.size < w'.heap.size∧Below W.heap.size W w') wr.drew):=⟨t0,t1,t2,t3,t4,t5,a0,a1,a2,a3,a4,a5,hb,al,HB.out.drew⟩;clear t0 t1 t2 t3 t4 t5 a0 a1 a2 a3 a4 a5 al;by_cases hc:Fq ts[m] t < 0
   ·go_wp2_with fail
    go_region_held3 (fun w'=>w'.cell? ⟨b,off + m * 6,none⟩=some (.string ts[m].a)∧w'.cell? ⟨b,off + m * 6 + 1,none⟩=some (.string ts[m].b)∧w'.cell? ⟨b,off + m * 6 + 2,none⟩=some (.string ts[m].r)∧w'.cell? ⟨b,off + m * 6 + 3,none⟩=some (.string ts[m].c)∧w'.cell? ⟨b,off + m * 6 + 4,none⟩=some (.string ts[m].d)∧w'.cell? ⟨b,off + m * 6 + 5,none⟩=some (.string ts[m].s)∧w'.cell? ⟨w.heap.size,0,none⟩=some (.string t.a)∧w'.cell? ⟨w.heap.size,1,none⟩=some (.string t.b)∧w'.cell? ⟨w.heap.size,2,none⟩=some (.string t.r)∧w'.cell? ⟨w.heap.size,3,none⟩=some (.string t.c)∧w'.cell? ⟨w.heap.size,4,none⟩=some (.string t.d)∧w'.cell? ⟨w.heap.size,5,none⟩=some (.string t.s)∧b < w'.heap.size∧w.heap.size < w'.heap.size∧Below W.heap.size W w')
     (first | assumption | exact A7 (by assumption) hbx | exact H0.out)
     (first | (go_at_call 90; refine (HC _).out.mono ?_; rintro e w' ⟨rfl,hbx⟩))
    rename_i hH;have HBN:=aM hH.2.2.2.2.2.2.2.2.2.2.2.2.2.2;have HIN:Hid ((∀ i (h:i < ts.length),i < m + 1→ts[i].ahead t=true)∧∀ i (h:i < ts.length),hi≤i→ts[i].ahead t=false):=⟨JC HU.out hm (by rw [HA.out]; exact decide_eq_true hc),HI.out.2⟩;clear hH;go_wp2;go_roundw;case rel=>exact ⟨m + 1,hi,by go_num,rfl,by omega,hin,HBN,HIN⟩
    case measure=>simp [intOf]; omega
   ·go_wp2_with fail
    go_region_held3 (fun w'=>w'.cell? ⟨b,off + m * 6,none⟩=some (.string ts[m].a)∧w'.cell? ⟨b,off + m * 6 + 1,none⟩=some (.string ts[m].b)∧w'.cell? ⟨b,off + m * 6 + 2,none⟩=some (.string ts[m].r)∧w'.cell? ⟨b,off + m * 6 + 3,none⟩=some (.string ts[m].c)∧w'.cell? ⟨b,off + m * 6 + 4,none⟩=some (.string ts[m].d)∧w'.cell? ⟨b,off + m * 6 + 5,none⟩=some (.string ts[m].s)∧w'.cell? ⟨w.heap.size,0,none⟩=some (.string t.a)∧w'.cell? ⟨w.heap.size,1,none⟩=some (.string t.b)∧w'.cell? ⟨w.heap.size,2,none⟩=some (.string t.r)∧w'.cell? ⟨w.heap.size,3,none⟩=some (.string t.c)∧w'.cell? ⟨w.heap.size,4,none⟩=some (.string t.d)∧w'.cell? ⟨w.heap.size,5,none⟩=some (.string t.s)∧b < w'.heap.size∧w.heap.size < w'.heap.size∧Below W.heap.size W w')
     (first | assumption | exact A7 (by assumption) hbx | exact H0.out)
     (first | (go_at_call 90; refine (HC _).out.mono ?_; rintro e w' ⟨rfl,hbx⟩))
    rename_i hH;have HBN:=aM hH.2.2.2.2.2.2.2.2.2.2.2.2.2.2;have HIN:Hid ((∀ i (h:i < ts.length),i < lo→ts[i].ahead t=true)∧∀ i (h:i < ts.length),m≤i→ts[i].ahead t=false):=⟨HI.out.1,GR HU.out hm (by rw [HA.out]; exact decide_eq_false (by omega))⟩;clear hH;go_wp2;go_roundw;case rel=>exact ⟨lo,m,rfl,by go_num,by omega,by omega,HBN,HIN⟩
    case measure=>simp [intOf]; omega
  ·obtain rfl:hi=lo:=by omega
   have HLOW:Hid (LowT ts t hi):=⟨hin,HI.out.1,HI.out.2⟩;by_cases hlt2:hi < ts.length
   ·rcases HS.out.below HBW.out with hnil | ⟨b,off,rfl,hb,hr⟩
    ·rw [hnil] at hlt2; simp at hlt2
    obtain ⟨t0,t1,t2,t3,t4,t5⟩:=hr hi hlt2;have HC:=fun W=>aM (zQ ts[hi] t W (HF.out _ (List.getElem_mem hlt2)) htf);have hm0:=bR hi;have hm1:(hi:Int) < (ts.length:Int):=by omega
    have hd:decide ((hi:Int) < (ts.length:Int))=true:=decide_eq_true hm1;have hdh:decide ((hi:Int) < (hi:Int))=false:=by simp
    clear hr;have H0:Hid ((fun w'=>w'.cell? ⟨b,off + hi * 6,none⟩=some (.string ts[hi].a)∧w'.cell? ⟨b,off + hi * 6 + 1,none⟩=some (.string ts[hi].b)∧w'.cell? ⟨b,off + hi * 6 + 2,none⟩=some (.string ts[hi].r)∧w'.cell? ⟨b,off + hi * 6 + 3,none⟩=some (.string ts[hi].c)∧w'.cell? ⟨b,off + hi * 6 + 4,none⟩=some (.string ts[hi].d)∧w'.cell? ⟨b,off + hi * 6 + 5,none⟩=some (.string ts[hi].s)∧w'.cell? ⟨w.heap.size,0,none⟩=some (.string t.a)∧w'.cell? ⟨w.heap.size,1,none⟩=some (.string t.b)∧w'.cell? ⟨w.heap.size,2,none⟩=some (.string t.r)∧w'.cell? ⟨w.heap.size,3,none⟩=some (.string t.c)∧w'.cell? ⟨w.heap.size,4,none⟩=some (.string t.d)∧w'.cell? ⟨w.heap.size,5,none⟩=some (.string t.s)∧b < w'.heap.size∧w.heap.size < w'.heap.size∧Below W.heap.size W w') wr.drew):=⟨t0,t1,t2,t3,t4,t5,a0,a1,a2,a3,a4,a5,hb,al,HB.out.drew⟩;clear t0 t1 t2 t3 t4 t5 a0 a1 a2 a3 a4 a5 al;go_wp2_with fail
    go_region_held3 (fun w'=>w'.cell? ⟨b,off + hi * 6,none⟩=some (.string ts[hi].a)∧w'.cell? ⟨b,off + hi * 6 + 1,none⟩=some (.string ts[hi].b)∧w'.cell? ⟨b,off + hi * 6 + 2,none⟩=some (.string ts[hi].r)∧w'.cell? ⟨b,off + hi * 6 + 3,none⟩=some (.string ts[hi].c)∧w'.cell? ⟨b,off + hi * 6 + 4,none⟩=some (.string ts[hi].d)∧w'.cell? ⟨b,off + hi * 6 + 5,none⟩=some (.string ts[hi].s)∧w'.cell? ⟨w.heap.size,0,none⟩=some (.string t.a)∧w'.cell? ⟨w.heap.size,1,none⟩=some (.string t.b)∧w'.cell? ⟨w.heap.size,2,none⟩=some (.string t.r)∧w'.cell? ⟨w.heap.size,3,none⟩=some (.string t.c)∧w'.cell? ⟨w.heap.size,4,none⟩=some (.string t.d)∧w'.cell? ⟨w.heap.size,5,none⟩=some (.string t.s)∧b < w'.heap.size∧w.heap.size < w'.heap.size∧Below W.heap.size W w')
     (first | assumption | exact A7 (by assumption) hbx | exact H0.out)
     (first | (go_at_call 90; refine (HC _).out.mono ?_; rintro e w' ⟨rfl,hbx⟩))
    rename_i hH;have HBN:=aM hH.2.2.2.2.2.2.2.2.2.2.2.2.2.2;go_wp2;exact bodyPost_ret (v:=.tuple #[.int .i64 hi,.bool (Fq ts[hi] t == 0)]) (by simp [results,Tryz.results89,go_sem]) rfl ⟨⟨hi,_,rfl,HLOW.out⟩,HB0.out.trans (HBN.out.mono HB0.out.size)⟩
   ·have hd:decide ((hi:Int) < (ts.length:Int))=false:=by simp; omega
    have hdh:decide ((hi:Int) < (hi:Int))=false:=by simp
    go_wp2_with fail;go_quiet (fail);go_wp2;exact bodyPost_ret (v:=.tuple #[.int .i64 hi,.bool false]) (by simp [results,Tryz.results89,go_sem]) rfl ⟨⟨hi,_,rfl,HLOW.out⟩,HB0.out.trans (below_drewN (HB.out.mono HB0.out.size) _)⟩
open Go.Maps
theorem JG {p:Prop} (h:p):Hid p:=h
set_option maxRecDepth 8000 in
theorem Eu (ad:Option Addr) (cap:Nat) (ts:List Tp) (t:Tp) (w:World) (hlen:ts.length≤1048576) (hs:Sl w ad ts) :
  Calls prog 51 #[.slice ad ts.length cap,.agg #[.string t.a,.string t.b,.string t.r,.string t.c,.string t.d,.string t.s]] w fun e w'=>∃ (g c:Nat),e=.returned (.slice (some ⟨g,0,none⟩) (bQ ts t).length c)∧w'.ownsRow (w.heap.size + 1) 41 6 (.slice (some ⟨g,0,none⟩) (bQ ts t).length c) (bQ ts t).length (aB (bQ ts t))∧Below w.heap.size w w':=by
 obtain ⟨iT,hiT,zT0,zT1,zT2⟩:=info_parts (P:=prog) (e:=41) (z:=.agg #[.string ⟨#[]⟩,.string ⟨#[]⟩,.string ⟨#[]⟩,.string ⟨#[]⟩,.string ⟨#[]⟩,.string ⟨#[]⟩]) (size:=6) (bytes:=96) (by kernel_rfl);have HIT:Hid (prog.info? 41=some iT∧iT.zero=some (.agg #[.string ⟨#[]⟩,.string ⟨#[]⟩,.string ⟨#[]⟩,.string ⟨#[]⟩,.string ⟨#[]⟩,.string ⟨#[]⟩])∧iT.size=6∧iT.bytes=96):=⟨hiT,zT0,zT1,zT2⟩;have HS:Hid (Sl w ad ts):=hs;clear hs hiT zT0 zT1 zT2;obtain ⟨W0,hW0⟩:∃ W0,W0=w.alloc (.cells #[.string t.a,.string t.b,.string t.r,.string t.c,.string t.d,.string t.s] 41):=⟨_,rfl⟩;have HB0:=Be hW0;have HX0:Hid (W0.cell? ⟨w.heap.size,0,none⟩=some (.string t.a)∧W0.cell? ⟨w.heap.size,1,none⟩=some (.string t.b)∧W0.cell? ⟨w.heap.size,2,none⟩=some (.string t.r)∧W0.cell? ⟨w.heap.size,3,none⟩=some (.string t.c)∧W0.cell? ⟨w.heap.size,4,none⟩=some (.string t.d)∧W0.cell? ⟨w.heap.size,5,none⟩=some (.string t.s)∧w.heap.size < W0.heap.size):=by show _∧_; rw [hW0]; refine ⟨?_,?_,?_,?_,?_,?_,?_⟩ <;> simp
 have HS0:Hid (W0.heap.size=w.heap.size + 1):=by show _=_; rw [hW0]; simp
 have HLIT:Hid ((W0.alloc (.cells #[] 41)).ownsRow (w.heap.size + 1) 41 6 (.slice (some ⟨w.heap.size + 1,0,none⟩) 0 0) 0 (aB (bQ (ts.take 0) t))):=by
  show World.ownsRow _ _ _ _ _ _ _;rw [← HS0.out];exact World.ownsRow_lit W0 #[] 0 (Nat.le_refl _) (by unfold maxLen; omega) (by simp)
 have HB1:Hid (Below W0.heap.size W0 (W0.alloc (.cells #[] 41))):=(Below.refl _ _).alloc (Nat.le_refl _) _;go_enter func51,ntmps51;go_wp2;rw [← hW0];clear hW0;go_loopw [5,6] (fun v i wr=>∃ k:Nat,k≤ts.length∧i=.int .i64 k∧Hid (wr.ownsRow (w.heap.size + 1) 41 6 v (bQ (ts.take k) t).length (aB (bQ (ts.take k) t)))∧Hid (Below w.heap.size w wr)∧Hid (wr.cell? ⟨w.heap.size,0,none⟩=some (.string t.a)∧wr.cell? ⟨w.heap.size,1,none⟩=some (.string t.b)∧wr.cell? ⟨w.heap.size,2,none⟩=some (.string t.r)∧wr.cell? ⟨w.heap.size,3,none⟩=some (.string t.c)∧wr.cell? ⟨w.heap.size,4,none⟩=some (.string t.d)∧wr.cell? ⟨w.heap.size,5,none⟩=some (.string t.s)∧w.heap.size < wr.heap.size)∧Hid (∃ g c m,v=.slice (some ⟨g,0,none⟩) m c)) (fun _ i _=>ts.length - (intOf i).toNat);case atStart=>exact ⟨0,Nat.zero_le _,rfl,HLIT,HB0.out.trans (HB1.out.mono HB0.out.size),⟨mK HB1.out HX0.out.2.2.2.2.2.2 HX0.out.1,mK HB1.out HX0.out.2.2.2.2.2.2 HX0.out.2.1,mK HB1.out HX0.out.2.2.2.2.2.2 HX0.out.2.2.1,mK HB1.out HX0.out.2.2.2.2.2.2 HX0.out.2.2.2.1,mK HB1.out HX0.out.2.2.2.2.2.2 HX0.out.2.2.2.2.1,mK HB1.out HX0.out.2.2.2.2.2.2 HX0.out.2.2.2.2.2.1,Nat.lt_of_lt_of_le HX0.out.2.2.2.2.2.2 HB1.out.size⟩,⟨_,_,_,rfl⟩⟩
 case round =>
  clear HLIT HB1;obtain ⟨k,hk,rfl,HOW,HBW,HXB,HSV⟩:=hrel;by_cases hlt:k < ts.length
  ·rcases HS.out.below HBW.out with hnil | ⟨b,off,rfl,hb,hr⟩
   ·rw [hnil] at hlt; simp at hlt
   obtain ⟨t0,t1,t2,t3,t4,t5⟩:=hr k hlt;obtain ⟨x0,x1,x2,x3,x4,x5,xl⟩:=HXB.out;have hk1:=bR k;have hk2:(k:Int) < (ts.length:Int):=by omega
   have hdl:=Gt ts t k;have HDT:=Ec (t:=t) hlt;clear hr;cases hq:kV ts[k] t with
   | true =>
    have heq:=Eb ts[k] t (v:=false) (by rw [hq]; rfl);have HE:Hid (bQ (ts.take (k + 1)) t=bQ (ts.take k) t):=by show _=_; rw [HDT,hq]; simp
    clear hq HDT;go_wp2_with fail;go_region_held3 (fun w'=>w'.cell? ⟨b,off + k * 6,none⟩=some (.string ts[k].a)∧w'.cell? ⟨b,off + k * 6 + 1,none⟩=some (.string ts[k].b)∧w'.cell? ⟨b,off + k * 6 + 2,none⟩=some (.string ts[k].r)∧w'.cell? ⟨b,off + k * 6 + 3,none⟩=some (.string ts[k].c)∧w'.cell? ⟨b,off + k * 6 + 4,none⟩=some (.string ts[k].d)∧w'.cell? ⟨b,off + k * 6 + 5,none⟩=some (.string ts[k].s)∧w'.cell? ⟨w.heap.size,0,none⟩=some (.string t.a)∧w'.cell? ⟨w.heap.size,1,none⟩=some (.string t.b)∧w'.cell? ⟨w.heap.size,2,none⟩=some (.string t.r)∧w'.cell? ⟨w.heap.size,3,none⟩=some (.string t.c)∧w'.cell? ⟨w.heap.size,4,none⟩=some (.string t.d)∧w'.cell? ⟨w.heap.size,5,none⟩=some (.string t.s)∧Below wr.heap.size wr w') (first | assumption | exact ⟨t0,t1,t2,t3,t4,t5,x0,x1,x2,x3,x4,x5,(Below.refl _ _).drew⟩) (fail);clear t0 t1 t2 t3 t4 t5 heq;have HO2:Hid (wr.drew.ownsRow (w.heap.size + 1) 41 6 u5 (bQ (ts.take (k + 1)) t).length (aB (bQ (ts.take (k + 1)) t))):=by
     show World.ownsRow _ _ _ _ _ _ _;rw [HE.out]; exact HOW.out.drew
    have HB2:Hid (Below w.heap.size w wr.drew):=HBW.out.drew;have HX2:Hid (wr.drew.cell? ⟨w.heap.size,0,none⟩=some (.string t.a)∧wr.drew.cell? ⟨w.heap.size,1,none⟩=some (.string t.b)∧wr.drew.cell? ⟨w.heap.size,2,none⟩=some (.string t.r)∧wr.drew.cell? ⟨w.heap.size,3,none⟩=some (.string t.c)∧wr.drew.cell? ⟨w.heap.size,4,none⟩=some (.string t.d)∧wr.drew.cell? ⟨w.heap.size,5,none⟩=some (.string t.s)∧w.heap.size < wr.drew.heap.size):=HXB.out;rename_i hH;clear hH x0 x1 x2 x3 x4 x5;go_wp2;go_roundw;case rel=>exact ⟨k + 1,by omega,by go_num,HO2,HB2,HX2,HSV⟩
    case measure=>simp [intOf] <;> omega
   | false =>
    have heq:=Eb ts[k] t (v:=true) (by rw [hq]; rfl);have HE:Hid (bQ (ts.take (k + 1)) t=bQ (ts.take k) t ++ [ts[k]]):=by show _=_; rw [HDT,hq]; simp
    clear hq HDT;go_wp2_with fail;go_region_held3 (fun w'=>w'.cell? ⟨b,off + k * 6,none⟩=some (.string ts[k].a)∧w'.cell? ⟨b,off + k * 6 + 1,none⟩=some (.string ts[k].b)∧w'.cell? ⟨b,off + k * 6 + 2,none⟩=some (.string ts[k].r)∧w'.cell? ⟨b,off + k * 6 + 3,none⟩=some (.string ts[k].c)∧w'.cell? ⟨b,off + k * 6 + 4,none⟩=some (.string ts[k].d)∧w'.cell? ⟨b,off + k * 6 + 5,none⟩=some (.string ts[k].s)∧w'.cell? ⟨w.heap.size,0,none⟩=some (.string t.a)∧w'.cell? ⟨w.heap.size,1,none⟩=some (.string t.b)∧w'.cell? ⟨w.heap.size,2,none⟩=some (.string t.r)∧w'.cell? ⟨w.heap.size,3,none⟩=some (.string t.c)∧w'.cell? ⟨w.heap.size,4,none⟩=some (.string t.d)∧w'.cell? ⟨w.heap.size,5,none⟩=some (.string t.s)∧Below wr.heap.size wr w') (first | assumption | exact ⟨t0,t1,t2,t3,t4,t5,x0,x1,x2,x3,x4,x5,(Below.refl _ _).drew⟩) (fail);clear heq x0 x1 x2 x3 x4 x5;rename_i hH;clear hH;obtain ⟨wd,hwd⟩:∃ wd,wd=wr.drew:=⟨_,rfl⟩;have HOD:Hid (wd.ownsRow (w.heap.size + 1) 41 6 u5 (bQ (ts.take k) t).length (aB (bQ (ts.take k) t))):=by rw [hwd]; exact HOW.out.drew
    have HBD:Hid (Below w.heap.size w wd):=by rw [hwd]; exact HBW.out.drew
    have HXD:Hid (wd.cell? ⟨w.heap.size,0,none⟩=some (.string t.a)∧wd.cell? ⟨w.heap.size,1,none⟩=some (.string t.b)∧wd.cell? ⟨w.heap.size,2,none⟩=some (.string t.r)∧wd.cell? ⟨w.heap.size,3,none⟩=some (.string t.c)∧wd.cell? ⟨w.heap.size,4,none⟩=some (.string t.d)∧wd.cell? ⟨w.heap.size,5,none⟩=some (.string t.s)∧w.heap.size < wd.heap.size):=by rw [hwd]; exact HXB.out
    have HTD:Hid (wd.cell? ⟨b,off + k * 6,none⟩=some (.string ts[k].a)∧wd.cell? ⟨b,off + k * 6 + 1,none⟩=some (.string ts[k].b)∧wd.cell? ⟨b,off + k * 6 + 2,none⟩=some (.string ts[k].r)∧wd.cell? ⟨b,off + k * 6 + 3,none⟩=some (.string ts[k].c)∧wd.cell? ⟨b,off + k * 6 + 4,none⟩=some (.string ts[k].d)∧wd.cell? ⟨b,off + k * 6 + 5,none⟩=some (.string ts[k].s)):=by rw [hwd]; exact ⟨t0,t1,t2,t3,t4,t5⟩
    rw [← hwd];clear hwd t0 t1 t2 t3 t4 t5;obtain ⟨t0,t1,t2,t3,t4,t5⟩:=HTD.out;obtain ⟨W6,hW6⟩:∃ W6,W6=wd.alloc (.cells #[.string ts[k].a,.string ts[k].b,.string ts[k].r,.string ts[k].c,.string ts[k].d,.string ts[k].s] 41):=⟨_,rfl⟩;have HO6:Hid (W6.ownsRow (w.heap.size + 1) 41 6 u5 (bQ (ts.take k) t).length (aB (bQ (ts.take k) t))):=by rw [hW6]; exact HOD.out.alloc _
    have HNW:Hid (∀ j u,ts[k].row[j]?=some u→W6.cell? ((⟨wd.heap.size,0,none⟩:Addr).add j)=some u):=by rw [hW6]; exact pg wd ts[k]
    have HB6:Hid (Below wd.heap.size wd W6):=by rw [hW6]; exact (Below.refl _ _).alloc (Nat.le_refl _) _
    have HBD6:Hid (Below w.heap.size w W6):=HBD.out.trans (HB6.out.mono HBD.out.size);go_wp2_with (at_builtin; rw [← hW6]; clear hW6; refine wpList_append_own_at _ rfl _ _ 33 rfl (w.heap.size + 1) 41 iT (.agg #[.string ⟨#[]⟩,.string ⟨#[]⟩,.string ⟨#[]⟩,.string ⟨#[]⟩,.string ⟨#[]⟩,.string ⟨#[]⟩]) 6 96 underlying33 HIT.out.1 HIT.out.2.1 HIT.out.2.2.1 HIT.out.2.2.2 rfl (by decide) u5 _ (aB (bQ (ts.take k) t)) rfl HO6.out ⟨wd.heap.size,0,none⟩ 1 1 ts[k].row rfl rfl HNW.out (oo _) (by unfold maxLen; omega) (by omega) (Nat.le_trans (Nat.succ_le_of_lt HXD.out.2.2.2.2.2.2) HB6.out.size) ?_);intro v7 w7 hown7 hgr7 _ _;have HSV7:Hid (∃ g c m,v7=.slice (some ⟨g,0,none⟩) m c):=by
     rcases hown7.2 with ⟨-,h0⟩ | ⟨g,cp,cur,e,-⟩
     ·omega
     ·exact ⟨g,cp,_,e⟩
    have hne:some w.heap.size ≠ u5.ownBlock:=fun e=>by have:=(HOD.out.lt w.heap.size e.symm).1; omega
    have HB7:Hid (Below w.heap.size w w7):=HBD6.out.grown hgr7 HBD6.out.size (fun g hg=>by have:=(HOD.out.lt g hg).1; omega);have HO7:Hid (w7.ownsRow (w.heap.size + 1) 41 6 v7 (bQ (ts.take (k + 1)) t).length (aB (bQ (ts.take (k + 1)) t))):=by
     show World.ownsRow _ _ _ _ _ _ _;rw [HE.out,mH,List.length_append]; exact hown7
    have HX7:Hid (w7.cell? ⟨w.heap.size,0,none⟩=some (.string t.a)∧w7.cell? ⟨w.heap.size,1,none⟩=some (.string t.b)∧w7.cell? ⟨w.heap.size,2,none⟩=some (.string t.r)∧w7.cell? ⟨w.heap.size,3,none⟩=some (.string t.c)∧w7.cell? ⟨w.heap.size,4,none⟩=some (.string t.d)∧w7.cell? ⟨w.heap.size,5,none⟩=some (.string t.s)∧w.heap.size < w7.heap.size):=⟨hgr7.cell (mK HB6.out HXD.out.2.2.2.2.2.2 HXD.out.1) hne,hgr7.cell (mK HB6.out HXD.out.2.2.2.2.2.2 HXD.out.2.1) hne,hgr7.cell (mK HB6.out HXD.out.2.2.2.2.2.2 HXD.out.2.2.1) hne,hgr7.cell (mK HB6.out HXD.out.2.2.2.2.2.2 HXD.out.2.2.2.1) hne,hgr7.cell (mK HB6.out HXD.out.2.2.2.2.2.2 HXD.out.2.2.2.2.1) hne,hgr7.cell (mK HB6.out HXD.out.2.2.2.2.2.2 HXD.out.2.2.2.2.2.1) hne,Nat.lt_of_lt_of_le HXD.out.2.2.2.2.2.2 (Nat.le_trans HB6.out.size hgr7.size)⟩;clear hown7 hgr7 t0 t1 t2 t3 t4 t5;go_wp2;go_roundw;case rel=>exact ⟨k + 1,by omega,by go_num,HO7,HB7,HX7,HSV7⟩
    case measure=>simp [intOf] <;> omega
  ·obtain rfl:k=ts.length:=by omega
   have HE:Hid (ts.take ts.length=ts):=by show _=_; rw [List.take_length]
   have hown:=HOW.out;rw [HE.out] at hown;obtain ⟨g,c,m,hv⟩:=HSV.out;obtain ⟨ad',cap',hv2,-,-⟩:=Ff hown rfl;rw [hv] at hv2;injection hv2 with _ em _;subst em;subst hv;have HOF:=JG hown;clear hown;go_wp2;go_ret;exact ⟨g,c,rfl,HOF.out,HBW.out⟩
end Go.Proofs.YteoflgocljfgeaaGreatDoor
