/- Contract of the document's function on strata. -/
import Derived.Test.YtdmniljjnaebbaaGreatDoorSpecSchema8
open Go.Proofs.Tryz
set_option maxHeartbeats 80000000
namespace Go.Proofs.YtdmniljjnaebbaaGreatDoor
open Go.ChangeShapes Go.WideShapes Go.ChangeAt Go.RowKit
open Pl
def St.cells (s:St):List Value:=[.string s.typ,.string s.rel,.int .i64 s.n]
def fU:List St→List Value
 | []=>[]
 | s::xs=>s.cells ++ fU xs
theorem AU (xs ys:List St):fU (xs ++ ys)=fU xs ++ fU ys:=by
 induction xs with
 | nil=>rfl
 | cons d ds ih=>simp [fU,ih]
theorem wS (xs:List St) (d:St):fU (xs ++ [d])=fU xs ++ d.cells:=by rw [AU]; simp [fU]
theorem fO (xs:List St) (i:Nat) (h:i < xs.length) (o:Nat) (ho:o < 3):(fU xs)[i * 3 + o]?=(xs[i].cells)[o]?:=by
 induction xs generalizing i with
 | nil=>simp at h
 | cons s xs ih =>
  cases i with
  | zero =>
   simp only [fU,Nat.zero_mul,Nat.zero_add,List.getElem_cons_zero];rw [List.getElem?_append_left (by simp [St.cells]; omega)]
  | succ i =>
   simp only [fU,List.getElem_cons_succ];rw [List.getElem?_append_right (by simp [St.cells]; omega)];have e:(i + 1) * 3 + o - s.cells.length=i * 3 + o:=by simp [St.cells]; omega
   rw [e];exact ih i (by simpa using h)
theorem sw (xs:List Dp) (i:Nat) (h:i < xs.length) (o:Nat) (ho:o < 3):(dD xs)[i * 3 + o]?=(xs[i].cells)[o]?:=by
 induction xs generalizing i with
 | nil=>simp at h
 | cons s xs ih =>
  cases i with
  | zero =>
   simp only [dD,Nat.zero_mul,Nat.zero_add,List.getElem_cons_zero];rw [List.getElem?_append_left (by simp [Dp.cells]; omega)]
  | succ i =>
   simp only [dD,List.getElem_cons_succ];rw [List.getElem?_append_right (by simp [Dp.cells]; omega)];have e:(i + 1) * 3 + o - s.cells.length=i * 3 + o:=by simp [Dp.cells]; omega
   rw [e];exact ih i (by simpa using h)
theorem Cy (g j:Nat):(⟨g,0,none⟩:Addr).add j=⟨g,j,none⟩:=by
 unfold Addr.add;by_cases hj:j=0
 ·subst hj; simp
 ·simp [hj]
theorem JO {w:World} {base:Nat} {t:TypeId} {v:Value} {n:Nat} {xs:List Value} (h:w.ownsRow base t 3 v n xs):∃ ad cp,v=.slice ad n cp∧(n=0 ∨ ∃ g,ad=some ⟨g,0,none⟩∧base≤g∧g < w.heap.size∧∀ (j:Nat) (u:Value),xs[j]?=some u→w.cell? ⟨g,j,none⟩=some u):=by
 have h2:=h;rcases h.2 with ⟨rfl,h0⟩ | ⟨g,cp,cur,rfl,hbg,hg,hnc,-⟩
 ·exact ⟨none,0,by rw [h0],.inl h0⟩
 ·have hlt:=h2.lt g rfl;refine ⟨_,cp,rfl,.inr ⟨g,rfl,hlt.1,hlt.2,fun j u hu=>?_⟩⟩;have:=h2.cells (g:=g) rfl j u hu;rwa [Cy] at this
def AtD (w:World) (b off:Nat) (d:Dp):Prop:=w.cell? ⟨b,off,none⟩=some (.string d.typ)∧w.cell? ⟨b,off + 1,none⟩=some (.string d.rel)∧w.cell? ⟨b,off + 2,none⟩=some (.bool d.neg)
def Lt (w:World) (lo:Nat) (ad:Option Addr) (xs:List Dp):Prop:=xs=[] ∨ ∃ b,ad=some ⟨b,0,none⟩∧lo≤b∧b < w.heap.size∧∀ (i:Nat) (h:i < xs.length),AtD w b (i * 3) xs[i]
theorem NH {w:World} {base:Nat} {v:Value} {xs:List Dp} (h:w.ownsRow base 210 3 v xs.length (dD xs)):∃ ad cp,v=.slice ad xs.length cp∧Lt w base ad xs:=by
 obtain ⟨ad,cp,e,h0⟩:=JO h;refine ⟨ad,cp,e,?_⟩;rcases h0 with h0 | ⟨g,e1,hb,hg,hc⟩
 ·exact .inl (List.length_eq_zero_iff.1 h0)
 ·refine .inr ⟨g,e1,hb,hg,fun i hi=>⟨?_,?_,?_⟩⟩
  ·exact hc _ _ (by have:=sw xs i hi 0 (by omega); simpa [Dp.cells] using this)
  ·exact hc _ _ (by have:=sw xs i hi 1 (by omega); simpa [Dp.cells] using this)
  ·exact hc _ _ (by have:=sw xs i hi 2 (by omega); simpa [Dp.cells] using this)
def Oe (w:World) (g:Nat) (xs:List St):Prop:=∀ (i:Nat) (h:i < xs.length),Nz w g (i * 3) xs[i]
theorem NI {w:World} {base:Nat} {v:Value} {xs:List St} (h:w.ownsRow base 145 3 v xs.length (fU xs)):∃ ad cp,v=.slice ad xs.length cp∧(xs.length=0 ∨ ∃ g,ad=some ⟨g,0,none⟩∧base≤g∧g < w.heap.size∧Oe w g xs):=by
 obtain ⟨ad,cp,e,h0⟩:=JO h;refine ⟨ad,cp,e,?_⟩;rcases h0 with h0 | ⟨g,e1,hb,hg,hc⟩
 ·exact .inl h0
 ·refine .inr ⟨g,e1,hb,hg,fun i hi=>⟨?_,?_,?_⟩⟩
  ·exact hc _ _ (by have:=fO xs i hi 0 (by omega); simpa [St.cells] using this)
  ·exact hc _ _ (by have:=fO xs i hi 1 (by omega); simpa [St.cells] using this)
  ·exact hc _ _ (by have:=fO xs i hi 2 (by omega); simpa [St.cells] using this)
theorem Lu:(prog.info? 145).map (fun i=>(i.zero,i.size,i.bytes))=some (some (.agg #[.string ⟨#[]⟩,.string ⟨#[]⟩,.int .i64 0]),3,40):=by kernel_rfl
def BH (ks:List (ByteArray × ByteArray)):List St:=ks.map fun k=>⟨k.1,k.2,0⟩
theorem AV (ks:List (ByteArray × ByteArray)):(BH ks).length=ks.length:=by simp [BH]
theorem JP (ks:List (ByteArray × ByteArray)) (k:ByteArray × ByteArray):BH (ks ++ [k])=BH ks ++ [⟨k.1,k.2,0⟩]:=by simp [BH]
def bP (rs:List TR) (k:Nat):List (ByteArray × ByteArray):=ai (af (rs.take k))
def gF (t:TR) (j:Nat):List (ByteArray × ByteArray):=(t.rows.take j).map fun q=>(t.name,q.name)
theorem lJ (rs:List TR) (k:Nat) (h:k < rs.length):bP rs (k + 1)=bP rs k ++ gF rs[k] rs[k].rows.length:=by
 unfold bP gF;rw [List.take_succ_eq_append_getElem h,List.take_length];unfold af ai;rw [List.map_append,List.flatMap_append,List.map_singleton,List.flatMap_singleton];congr 1;simp [jd,TR.p,di,RR.p]
theorem pW (t:TR) (j:Nat) (h:j < t.rows.length):gF t (j + 1)=gF t j ++ [(t.name,t.rows[j].name)]:=by
 unfold gF;rw [List.take_succ_eq_append_getElem h,List.map_append]; rfl
theorem zo (t:TR) (j:Nat):(gF t j).length≤t.rows.length:=by unfold gF; simp; omega
theorem sD (rs:List TR) (hr:∀ r ∈ rs,r.rows.length≤6) (k:Nat):(bP rs k).length≤k * 6:=by
 induction k with
 | zero=>simp [bP,af,ai]
 | succ k ih =>
  by_cases h:k < rs.length
  ·rw [lJ _ _ h,List.length_append];have h1:=zo rs[k] rs[k].rows.length;have h2:=hr rs[k] (List.getElem_mem h);omega
  ·have e:rs.take (k + 1)=rs.take k:=by rw [List.take_of_length_le (by omega),List.take_of_length_le (by omega)]
   unfold bP at ih ⊢;rw [e]; omega
open Go.Maps
def RR.sl (q:RR):Value:=.slice q.ad q.rows.length q.cap
def jq (t:ByteArray) (M:ByteArray × ByteArray→Option Value):List RR→ByteArray × ByteArray→Option Value
 | []=>M
 | q::qs=>jq t (ji M (t,q.name) (some q.sl)) qs
def dF (M:ByteArray × ByteArray→Option Value):List TR→ByteArray × ByteArray→Option Value
 | []=>M
 | t::ts=>dF (jq t.name M t.rows) ts
def kP (rs:List TR):ByteArray × ByteArray→Option Value:=dF (fun _=>none) rs
theorem AX (t:ByteArray) (M:ByteArray × ByteArray→Option Value) (xs ys:List RR):jq t M (xs ++ ys)=jq t (jq t M xs) ys:=by
 induction xs generalizing M with
 | nil=>rfl
 | cons q qs ih=>simp only [List.cons_append,jq]; exact ih _
theorem wT (M:ByteArray × ByteArray→Option Value) (xs ys:List TR):dF M (xs ++ ys)=dF (dF M xs) ys:=by
 induction xs generalizing M with
 | nil=>rfl
 | cons q qs ih=>simp only [List.cons_append,dF]; exact ih _
theorem Ey (t:ByteArray) (M:ByteArray × ByteArray→Option Value) (qs:List RR) (j:Nat) (h:j < qs.length):jq t M (qs.take (j + 1))=ji (jq t M (qs.take j)) (t,qs[j].name) (some qs[j].sl):=by
 rw [List.take_succ_eq_append_getElem h,AX]; rfl
theorem AY (M:ByteArray × ByteArray→Option Value) (rs:List TR) (k:Nat) (h:k < rs.length):dF M (rs.take (k + 1))=jq rs[k].name (dF M (rs.take k)) rs[k].rows:=by
 rw [List.take_succ_eq_append_getElem h,wT]; rfl
set_option maxRecDepth 100000 in
theorem mW (ad:Option Addr) (cap:Nat) (rs:List TR) (w:World) (hlen:rs.length≤6) (hs:fo w ad rs) (hrl:∀ r ∈ rs,r.rows.length≤6) (hf:∀ r ∈ rs,r.fits) :
  Calls prog 71 #[.slice ad rs.length cap] w fun e w'=>e=.returned (.map (some w.heap.size))∧aD bz prog 172 w' w.heap.size 36 (kP rs)∧Below w.heap.size w w':=by
 have HS:Hid (fo w ad rs):=hs;have HRL:Hid (∀ r ∈ rs,r.rows.length≤6):=hrl;have HFT:Hid (∀ r ∈ rs,r.fits):=hf;have HM0:Hid (aD bz prog 172 (w.alloc (.map #[] 0)) w.heap.size 0 (fun _=>none)):=kJ _ _ _ w;have HB0:Hid (Below w.heap.size w (w.alloc (.map #[] 0))):=(Below.refl _ _).alloc (Nat.le_refl _) _;clear hs hrl hf;have hmm:=@run_makeMap prog;go_enter func71,ntmps71;go_wp2_with fail;go_loopw [11] (fun i wr=>∃ k:Nat,k≤rs.length∧i=.int .i64 k∧Hid (aD bz prog 172 wr w.heap.size (k * 6) (dF (fun _=>none) (rs.take k)))∧Hid (Below w.heap.size w wr)) (fun i _=>rs.length - (intOf i).toNat);case atStart=>exact ⟨0,Nat.zero_le _,rfl,HM0,HB0⟩
 case round =>
  clear HM0 HB0 hmm;obtain ⟨k,hk,rfl,HM,HB⟩:=hrel;by_cases hlt:k < rs.length
  ·rcases HS.out.below HB.out with rfl | ⟨b,off,rfl,hb,hr,hok⟩
   ·simp at hlt
   obtain ⟨t0,t1⟩:=hr k hlt;have hk1:=bq k;have hk2:(k:Int) < (rs.length:Int):=by omega
   have h6:rs[k].rows.length≤6:=HRL.out _ (List.getElem_mem hlt);have z0:rs[k].name.size≤maxLen:=(HFT.out _ (List.getElem_mem hlt)).1;have HFR:Hid (∀ q ∈ rs[k].rows,q.fits):=(HFT.out _ (List.getElem_mem hlt)).2.2;clear hr hok;obtain ⟨W1,hW1⟩:∃ W1,W1=wr.alloc (.cells #[.string rs[k].name,.slice rs[k].ad rs[k].rows.length rs[k].cap] 78):=⟨_,rfl⟩;have hal:Below wr.heap.size wr W1:=by rw [hW1]; exact (Below.refl _ _).alloc (Nat.le_refl _) _
   have HM1:Hid (aD bz prog 172 W1 w.heap.size (k * 6) (dF (fun _=>none) (rs.take k))):=HM.out.below hal;have HB1:=fD HB hal;have HC1:Hid (wr.heap.size < W1.heap.size∧W1.cell? ⟨wr.heap.size,0,none⟩=some (.string rs[k].name)):=⟨by rw [hW1]; simp,by rw [hW1]; simp⟩;have hgw:w.heap.size < wr.heap.size:=HM.out.lt;clear HM hal;go_wp2_with fail;rw [← hW1];clear hW1 t0 t1 HB;obtain ⟨wo,hwo⟩:∃ wo,wo=wr:=⟨_,rfl⟩;subst hwo;go_loopw [18] (fun i w2=>∃ j:Nat,j≤rs[k].rows.length∧i=.int .i64 j∧Hid (aD bz prog 172 w2 w.heap.size (k * 6 + j) (jq rs[k].name (dF (fun _=>none) (rs.take k)) (rs[k].rows.take j)))∧Hid (Below w.heap.size w w2)∧Hid (wo.heap.size < w2.heap.size∧w2.cell? ⟨wo.heap.size,0,none⟩=some (.string rs[k].name))) (fun i _=>rs[k].rows.length - (intOf i).toNat);case atStart=>exact ⟨0,Nat.zero_le _,rfl,HM1,HB1,HC1⟩
   case round =>
    clear HM1 HB1 HC1;obtain ⟨j,hj,rfl,HM,HB,HC⟩:=hrel;by_cases hjl:j < rs[k].rows.length
    ·rcases HS.out.below HB.out with hnil | ⟨b',off',he,hb2,hr,hok⟩
     ·rw [hnil] at hlt; simp at hlt
     injection he with he; injection he with he1 he2; subst he1; subst he2;have ok:=hok rs[k] (List.getElem_mem hlt);rcases ok with hnil | ⟨b2,off2,had,hbb,hr2,-⟩
     ·rw [hnil] at hjl; simp at hjl
     obtain ⟨q0,q1⟩:=hr2 j hjl;have z1:rs[k].rows[j].name.size≤maxLen:=(HFR.out _ (List.getElem_mem hjl)).1;have hj1:=bq j;have hj2:(j:Int) < (rs[k].rows.length:Int):=by omega
     obtain ⟨kl,hkl⟩:=iA (rs[k].name,rs[k].rows[j].name) z0 z1;have HKL:Hid (keyOf prog 172 (bz (rs[k].name,rs[k].rows[j].name))=some kl):=hkl;obtain ⟨W2,hW2⟩:∃ W2,W2=wr.alloc (.cells #[.string rs[k].rows[j].name,.slice rs[k].rows[j].ad rs[k].rows[j].rows.length rs[k].rows[j].cap] 122):=⟨_,rfl⟩;have hal:Below wr.heap.size wr W2:=by rw [hW2]; exact (Below.refl _ _).alloc (Nat.le_refl _) _
     have HM2:Hid (aD bz prog 172 W2 w.heap.size (k * 6 + j) (jq rs[k].name (dF (fun _=>none) (rs.take k)) (rs[k].rows.take j))):=HM.out.below hal;have HB2:=fD HB hal;have hc1:=ah hal HC.out.1 HC.out.2;have HC2:Hid (wo.heap.size < W2.heap.size∧W2.cell? ⟨wo.heap.size,0,none⟩=some (.string rs[k].name)):=⟨Nat.lt_of_lt_of_le HC.out.1 hal.size,hc1⟩;have g0:W2.cell? ⟨wr.heap.size,0,none⟩=some (.string rs[k].rows[j].name):=by rw [hW2]; simp
     have g1:W2.cell? ⟨wr.heap.size,1,none⟩=some (.slice rs[k].rows[j].ad rs[k].rows[j].rows.length rs[k].rows[j].cap):=by rw [hW2]; simp
     have hsz:wo.heap.size < wr.heap.size:=HC.out.1;have hc0:=HC.out.2;rw [had];clear hr hok hr2 hkl HM hal HC;go_wp2_with (first | (at_mapUpdate; rw [← hW2]; refine kw _ rfl _ _ _ 127 rfl 172 120 gM mI underlying127 w.heap.size (k * 6 + j) _ rfl HM2.out (by unfold maxLen; omega) (rs[k].name,rs[k].rows[j].name) kl rfl HKL.out _ rfl ?_; intro w3 hV3 hg3) | go_in);have HM4:Hid (aD bz prog 172 w3 w.heap.size (k * 6 + (j + 1)) (jq rs[k].name (dF (fun _=>none) (rs.take k)) (rs[k].rows.take (j + 1)))):=by
      show aD _ _ _ _ _ _ _;rw [Ey _ _ _ _ hjl]; exact hV3
     have HB4:Hid (Below w.heap.size w w3):=HB2.out.grown hg3 HB2.out.size (fun i hi=>by injection hi with hi; omega);have HC4:Hid (wo.heap.size < w3.heap.size∧w3.cell? ⟨wo.heap.size,0,none⟩=some (.string rs[k].name)):=⟨Nat.lt_of_lt_of_le HC2.out.1 hg3.size,by rw [hg3.cell_far _ HC2.out.1 (by simp; omega)]; exact HC2.out.2⟩;clear hV3 hg3 hW2 HM2 HB2 HC2 g0 g1 q0 q1 hc0 hc1;go_wp2;go_roundw;case rel=>exact ⟨j + 1,by omega,by go_num,HM4,HB4,HC4⟩
     case measure=>simp [intOf] <;> omega
    ·obtain rfl:j=rs[k].rows.length:=by omega
     have HM4:Hid (aD bz prog 172 wr w.heap.size ((k + 1) * 6) (dF (fun _=>none) (rs.take (k + 1)))):=by
      show aD _ _ _ _ _ _ _;have:=HM.out;rw [List.take_length] at this;rw [AY _ _ _ hlt]; exact this.mono (by omega)
     clear HM;go_wp2;go_roundw;case rel=>exact ⟨k + 1,by omega,by go_num,HM4,HB⟩
     case measure=>simp [intOf] <;> omega
  ·obtain rfl:k=rs.length:=by omega
   have HM4:Hid (aD bz prog 172 wr w.heap.size 36 (kP rs)):=by
    show aD _ _ _ _ _ _ _;have:=HM.out;rw [List.take_length] at this;exact this.mono (by omega)
   go_wp2;go_ret;exact ⟨rfl,HM4.out,HB.out⟩
theorem nY (w:World):(zeroValue 120).run prog w=.ok (.slice none 0 0) w:=by kernel_rfl
theorem uX (b n:Nat) (M:ByteArray × ByteArray→Option Value) (t r:ByteArray) (w:World) (ht:t.size≤maxLen) (hr:r.size≤maxLen) (hV:aD bz prog 172 w b n M) :
  Calls prog 165 #[.map (some b),.string t,.string r] w fun e w'=>e=.returned (.bool (M (t,r)).isSome)∧w'=w:=by
 obtain ⟨kl,hkl⟩:=iA (t,r) ht hr;have HV:Hid (aD bz prog 172 w b n M):=hV;have HKL:Hid (keyOf prog 172 (bz (t,r))=some kl):=hkl;clear hkl hV;go_enter func165,ntmps165;go_wp2_with (first | (at_lookup; refine df _ rfl _ _ 127 rfl 172 120 gM underlying127 (nY _) b n M rfl HV.out (t,r) kl rfl HKL.out ?_) | go_in);go_ret;exact ⟨rfl,rfl⟩
theorem zq (a:Al) (w:World) :
  Calls prog 214 #[.agg #[.string a.t,.string a.s]] w fun e w'=>e=.returned (.bool (!a.s.toList.isEmpty))∧Below w.heap.size w w':=by
 cases h:a.s.toList.isEmpty with
 | true =>
  go_enter func214,ntmps214;go_wp2;go_ret;exact ⟨rfl,(Below.refl _ _).alloc (Nat.le_refl _) _⟩
 | false =>
  go_enter func214,ntmps214;go_wp2;go_ret;exact ⟨rfl,(Below.refl _ _).alloc (Nat.le_refl _) _⟩
theorem ug (xs:List Al) (k:Nat) (h:k < xs.length):(xs.drop k).any (fun a=>!a.s.toList.isEmpty)=((!xs[k].s.toList.isEmpty) || (xs.drop (k + 1)).any (fun a=>!a.s.toList.isEmpty)):=by
 rw [List.drop_eq_getElem_cons h]; rfl
theorem yB (ad:Option Addr) (cap:Nat) (xs:List Al) (w:World) (hlen:xs.length≤1048576) (hs:gu w ad xs) :
  Calls prog 219 #[.slice ad xs.length cap,.func (Fn.func 214) #[] #[]] w fun e w'=>(∃ r:Int,e=.returned (.int .i64 r)∧decide (0≤r)=xs.any (fun a=>!a.s.toList.isEmpty))∧Below w.heap.size w w':=by
 have HS:Hid (gu w ad xs):=hs;clear hs;go_enter func219,ntmps219;go_wp2_with fail;go_loopw [8] (fun i wr=>∃ k:Nat,k≤xs.length∧i=.int .i64 k∧Hid ((xs.drop k).any (fun a=>!a.s.toList.isEmpty)=xs.any (fun a=>!a.s.toList.isEmpty))∧Hid (Below w.heap.size w wr)) (fun i _=>xs.length - (intOf i).toNat);case atStart=>exact ⟨0,Nat.zero_le _,rfl,rfl,Below.refl _ _⟩
 case round =>
  obtain ⟨k,hk,rfl,HP,HB⟩:=hrel;by_cases hlt:k < xs.length
  ·rcases HS.out.below HB.out with rfl | ⟨b,off,rfl,hb,hr⟩
   ·simp at hlt
   obtain ⟨t0,t1⟩:=hr k hlt;have hk1:=bq k;have hk2:(k:Int) < (xs.length:Int):=by omega
   clear hr;cases he:xs[k].s.toList.isEmpty with
   | false =>
    have HN:Hid (xs.any (fun a=>!a.s.toList.isEmpty)=true):=by show _=_; rw [← HP.out,ug _ _ hlt,he]; rfl
    go_wp2_with (go_at_call 214; refine (zq xs[k] _).mono ?_; rintro e w' ⟨he2,hbx⟩; rw [he] at he2; subst he2);go_ret;exact ⟨⟨k,rfl,by rw [HN.out]; simp⟩,HB.out.trans (hbx.mono HB.out.size)⟩
   | true =>
    have HP2:Hid ((xs.drop (k + 1)).any (fun a=>!a.s.toList.isEmpty)=xs.any (fun a=>!a.s.toList.isEmpty)):=by show _=_; rw [← HP.out,ug _ _ hlt,he]; rfl
    go_wp2_with (go_at_call 214; refine (zq xs[k] _).mono ?_; rintro e w' ⟨he2,hbx⟩; rw [he] at he2; subst he2);go_roundw;case rel=>exact ⟨k + 1,by omega,by go_num,HP2,HB.out.trans (hbx.mono HB.out.size)⟩
    case measure=>simp [intOf] <;> omega
  ·have HN:Hid (xs.any (fun a=>!a.s.toList.isEmpty)=false):=by show _=_; rw [← HP.out,List.drop_of_length_le (by omega)]; rfl
   go_wp2;go_ret;exact ⟨⟨-1,rfl,by rw [HN.out]; simp⟩,HB.out⟩
theorem sF (ad:Option Addr) (cap:Nat) (xs:List Al) (w:World) (hlen:xs.length≤1048576) (hs:gu w ad xs) :
  Calls prog 213 #[.slice ad xs.length cap,.func (Fn.func 214) #[] #[]] w fun e w'=>e=.returned (.bool (xs.any (fun a=>!a.s.toList.isEmpty)))∧Below w.heap.size w w':=by
 go_enter func213,ntmps213;go_wp2_with fail;refine (yB ad cap xs _ hlen hs).mono ?_;rintro e w' ⟨⟨r,rfl,hr⟩,hbx⟩;have HR:Hid (decide (0≤r)=xs.any (fun a=>!a.s.toList.isEmpty)):=hr;clear hr hs;go_wp2;go_ret;exact ⟨by rw [← HR.out]; rfl,hbx⟩
theorem JQ (xs:List Al):(!xs.any fun a=>!a.s.toList.isEmpty)=xs.all fun a=>a.s.toList.isEmpty:=by
 induction xs with
 | nil=>rfl
 | cons a xs ih=>simp only [List.any_cons,List.all_cons,Bool.not_or,Bool.not_not,ih]
set_option maxRecDepth 100000 in
theorem qO (ad:Option Addr) (cap:Nat) (rs:List ER) (w:World) (hlen:rs.length≤1048576) (hs:dZ w ad rs) (hl:∀ r ∈ rs,r.e.light) :
  Calls prog 196 #[.slice ad rs.length cap] w fun e w'=>e=.returned (.bool (aV (ag rs)))∧Below w.heap.size w w':=by
 by_cases h1:rs.length=1
 ·obtain ⟨r,rfl⟩:∃ r,rs=[r]:=List.length_eq_one_iff.1 h1;rcases hs with h | ⟨b,off,rfl,hb,hr,hok⟩
  ·cases h
  obtain ⟨t0,t1,t2,t3,t4⟩:=hr 0 (by simp);simp only [Nat.zero_mul,Nat.add_zero,List.getElem_cons_zero] at t0 t1 t2 t3 t4;have HOK:Hid (r.ok w):=hok r (by simp);obtain ⟨lg,-⟩:=hl r (by simp);clear hr hok h1;simp only [List.length_cons,List.length_nil,Nat.zero_add];by_cases hq:r.e.kind=1
  ·have HD:Hid (aV (ag [r])=!r.e.allow.any fun a=>!a.s.toList.isEmpty):=by show _=_; rw [JQ]; simp [aV,ag,hq]
   have hqb:(r.e.kind == 1)=true:=by simpa using hq
   go_enter func196,ntmps196;go_wp2_with (go_at_call 213; refine (sF _ _ r.e.allow _ lg (HOK.out.1.below ((Below.refl _ _)))).mono ?_; rintro e w' ⟨rfl,hbx⟩);go_ret;exact ⟨by rw [HD.out]; rfl,hbx⟩
  ·have HD:Hid (aV (ag [r])=false):=by show _=_; simp [aV,ag,hq]
   have hqb:(r.e.kind == 1)=false:=by simpa using hq
   go_enter func196,ntmps196;go_wp2;go_ret;exact ⟨by rw [HD.out]; rfl,Below.refl _ _⟩
 ·have HD:Hid (aV (ag rs)=false):=by
   show _=_;rcases rs with _ | ⟨r,_ | ⟨r2,rs⟩⟩
   ·rfl
   ·simp at h1
   ·rfl
  have h2:((rs.length:Int) == 1)=false:=by
   have:¬ ((rs.length:Int)=1):=by omega
   simpa using this
  clear hs;go_enter func196,ntmps196;go_wp2;go_ret;exact ⟨by rw [HD.out]; rfl,Below.refl _ _⟩
theorem MI:∀ x:List UInt8,Op.bytesLess x x=false
 | []=>rfl
 | a::x=>by simp [Op.bytesLess,MI x]
theorem MJ:∀ x y z:List UInt8,Op.bytesLess x y=true→Op.bytesLess y z=true→Op.bytesLess x z=true
 | [],_,[],h,k=>by cases ‹List UInt8› <;> simp [Op.bytesLess] at h k
 | [],_,_::_,_,_=>rfl
 | _::_,[],_,h,_=>by simp [Op.bytesLess] at h
 | _::_,_::_,[],_,k=>by simp [Op.bytesLess] at k
 | a::x,b::y,c::z,h,k=>by
  simp only [Op.bytesLess,Bool.or_eq_true,Bool.and_eq_true,decide_eq_true_eq,beq_iff_eq] at h k ⊢;rcases h with h | ⟨h,h'⟩
  ·rcases k with k | ⟨k,k'⟩
   ·exact .inl (UInt8.lt_trans h k)
   ·exact .inl (k ▸ h)
  ·rcases k with k | ⟨k,k'⟩
   ·exact .inl (h ▸ k)
   ·exact .inr ⟨h.trans k,MJ x y z h' k'⟩
theorem nZ {f:Nat→ByteArray} {n:Nat} (h:∀ i,i + 1 < n→fC (f i) (f (i + 1))=true):∀ i j,i < j→j < n→f i ≠ f j:=by
 have h2:∀ d i,i + d + 1 < n→fC (f i) (f (i + d + 1))=true:=by
  intro d
  induction d with
  | zero=>intro i hi; exact h i (by omega)
  | succ d ih =>
   intro i hi;have h3:=ih i (by omega);have h4:=h (i + d + 1) (by omega);exact MJ _ _ _ h3 h4
 intro i j hij hj e;have h5:=h2 (j - i - 1) i (by omega);have e2:i + (j - i - 1) + 1=j:=by omega
 rw [e2,e] at h5;unfold fC at h5;rw [MI] at h5;cases h5
theorem kR {rs:List TR} (h:aY (af rs)=true) (k:Nat) (hk:k < rs.length):aO rs[k].name=true∧(∀ i (hi:i < rs.length),k=i + 1→fC rs[i].name rs[k].name=true)∧dK (di rs[k].rows) rs[k].rows.length=true:=by
 simp only [aY,Bool.and_eq_true,decide_eq_true_eq] at h;rw [fB] at h;have h1:=pU h.2 k hk;unfold jo at h1;have e:(af rs)[k]?=some rs[k].p:=by simp [af,hk]
 rw [e] at h1;simp only [Bool.and_eq_true,decide_eq_true_eq] at h1;have e2:rs[k].p.rels.length=rs[k].rows.length:=by simp [TR.p,di]
 rw [e2] at h1;refine ⟨h1.1.1.1,fun i hi hki=>?_,h1.2⟩;subst hki;have h2:=h1.1.1.2;have e3:(af rs)[i]?=some rs[i].p:=by simp [af,hi]
 simp only [e3,Option.map_some,Option.getD_some] at h2;exact h2
theorem zt {rs:List RR} {n:Nat} (h:dK (di rs) n=true) (k:Nat) (hk:k < rs.length) (hn:k < n):aO rs[k].name=true∧(∀ i (hi:i < rs.length),k=i + 1→fC rs[i].name rs[k].name=true)∧aS (ag rs[k].rows)=true:=by
 have h1:=pR h k hn;unfold jX at h1;have e:(di rs)[k]?=some rs[k].p:=by simp [di,hk]
 rw [e] at h1;simp only [Bool.and_eq_true] at h1;refine ⟨h1.1.1,fun i hi hki=>?_,h1.2⟩;subst hki;have h2:=h1.1.2;have e3:(di rs)[i]?=some rs[i].p:=by simp [di,hi]
 simp only [e3,Option.map_some,Option.getD_some] at h2;exact h2
theorem Cz {rs:List TR} (h:aY (af rs)=true) {t t':TR} (ht:t ∈ rs) (ht':t' ∈ rs) (e:t.name=t'.name):t=t':=by
 obtain ⟨i,hi,rfl⟩:=List.mem_iff_getElem.1 ht;obtain ⟨j,hj,rfl⟩:=List.mem_iff_getElem.1 ht';have hne:=nZ (f:=fun k=>(rs[k]?.map TR.name).getD ByteArray.empty) (n:=rs.length) (fun k hk=>by
  have h0:k < rs.length:=by omega
  simp only [List.getElem?_eq_getElem hk,List.getElem?_eq_getElem h0,Option.map_some,Option.getD_some];exact (kR h (k + 1) hk).2.1 k h0 rfl)
 by_cases hij:i=j
 ·subst hij; rfl
 ·exfalso;rcases Nat.lt_or_gt_of_ne hij with hl | hl
  ·have:=hne i j hl hj; simp [hi,hj] at this; exact this e
  ·have:=hne j i hl hi; simp [hi,hj] at this; exact this e.symm
theorem CE {rs:List RR} (h:dK (di rs) rs.length=true) {t t':RR} (ht:t ∈ rs) (ht':t' ∈ rs) (e:t.name=t'.name):t=t':=by
 obtain ⟨i,hi,rfl⟩:=List.mem_iff_getElem.1 ht;obtain ⟨j,hj,rfl⟩:=List.mem_iff_getElem.1 ht';have hne:=nZ (f:=fun k=>(rs[k]?.map RR.name).getD ByteArray.empty) (n:=rs.length) (fun k hk=>by
  have h0:k < rs.length:=by omega
  simp only [List.getElem?_eq_getElem hk,List.getElem?_eq_getElem h0,Option.map_some,Option.getD_some];exact (zt h (k + 1) hk hk).2.1 k h0 rfl)
 by_cases hij:i=j
 ·subst hij; rfl
 ·exfalso;rcases Nat.lt_or_gt_of_ne hij with hl | hl
  ·have:=hne i j hl hj; simp [hi,hj] at this; exact this e
  ·have:=hne j i hl hi; simp [hi,hj] at this; exact this e.symm
theorem Ez {t:ByteArray} {M:ByteArray × ByteArray→Option Value} {qs:List RR} {k:ByteArray × ByteArray} {v:Value} (h:jq t M qs k=some v):M k=some v ∨ ∃ q ∈ qs,k=(t,q.name)∧v=q.sl:=by
 induction qs generalizing M with
 | nil=>exact .inl h
 | cons q qs ih =>
  simp only [jq] at h;rcases ih h with h | ⟨q',hq,e⟩
  ·by_cases e:k=(t,q.name)
   ·rw [e,dx] at h; injection h with h; exact .inr ⟨q,by simp,e,h.symm⟩
   ·rw [bn e] at h; exact .inl h
  ·exact .inr ⟨q',by simp [hq],e⟩
theorem uh {t:ByteArray} {M:ByteArray × ByteArray→Option Value} {qs:List RR} {k:ByteArray × ByteArray} (h:(M k).isSome=true ∨ ∃ q ∈ qs,k=(t,q.name)):(jq t M qs k).isSome=true:=by
 induction qs generalizing M with
 | nil=>rcases h with h | ⟨q,hq,-⟩; exact h; cases hq
 | cons q qs ih =>
  simp only [jq];refine ih ?_;by_cases e:k=(t,q.name)
  ·left; rw [e,dx]; rfl
  ·rcases h with h | ⟨q',hq,e'⟩
   ·left; rw [bn e]; exact h
   ·rcases List.mem_cons.1 hq with rfl | hq
    ·exact absurd e' e
    ·exact .inr ⟨q',hq,e'⟩
theorem AZ {M:ByteArray × ByteArray→Option Value} {rs:List TR} {k:ByteArray × ByteArray} {v:Value} (h:dF M rs k=some v):M k=some v ∨ ∃ t ∈ rs,∃ q ∈ t.rows,k=(t.name,q.name)∧v=q.sl:=by
 induction rs generalizing M with
 | nil=>exact .inl h
 | cons t rs ih =>
  simp only [dF] at h;rcases ih h with h | ⟨t',ht,e⟩
  ·rcases Ez h with h | ⟨q,hq,e⟩
   ·exact .inl h
   ·exact .inr ⟨t,by simp,q,hq,e⟩
  ·exact .inr ⟨t',by simp [ht],e⟩
theorem oP {M:ByteArray × ByteArray→Option Value} {rs:List TR} {k:ByteArray × ByteArray} (h:(M k).isSome=true ∨ ∃ t ∈ rs,∃ q ∈ t.rows,k=(t.name,q.name)):(dF M rs k).isSome=true:=by
 induction rs generalizing M with
 | nil=>rcases h with h | ⟨q,hq,-⟩; exact h; cases hq
 | cons t rs ih =>
  simp only [dF];refine ih ?_;rcases h with h | ⟨t',ht,q,hq,e⟩
  ·exact .inl (uh (.inl h))
  ·rcases List.mem_cons.1 ht with rfl | ht
   ·exact .inl (uh (.inr ⟨q,hq,e⟩))
   ·exact .inr ⟨t',ht,q,hq,e⟩
theorem ED {rs:List Rl} {n:ByteArray} (h:iH rs n=none):∀ r ∈ rs,r.name ≠ n:=by
 induction rs with
 | nil=>intro r hr; cases hr
 | cons r rs ih =>
  simp only [iH] at h;split at h
  ·cases h
  ·rename_i hn;intro q hq;rcases List.mem_cons.1 hq with rfl | hq
   ·exact fun e=>hn (dJ.2 e)
   ·exact ih h q hq
theorem Hu {ts:List Ty} {ty n:ByteArray} (h:eO ts ty n=none):∀ t ∈ ts,t.name=ty→∀ r ∈ t.rels,r.name ≠ n:=by
 induction ts with
 | nil=>intro t ht; cases ht
 | cons t ts ih =>
  simp only [eO] at h;intro q hq e;split at h
  ·rw [Option.or_eq_none_iff] at h;rcases List.mem_cons.1 hq with rfl | hq
   ·exact ED h.1
   ·exact ih h.2 q hq e
  ·rename_i hn;rcases List.mem_cons.1 hq with rfl | hq
   ·exact absurd (dJ.2 e) hn
   ·exact ih h q hq e
theorem mX {rs:List TR} {ty n:ByteArray} {es:List Ex} (h:eO (af rs) ty n=some es):∃ t ∈ rs,∃ q ∈ t.rows,t.name=ty∧q.name=n∧ag q.rows=es:=by
 obtain ⟨t,ht,r,hr,e1,e2,e3⟩:=wQ h;obtain ⟨t',ht',rfl⟩:=List.mem_map.1 ht;obtain ⟨q,hq,rfl⟩:=List.mem_map.1 hr;exact ⟨t',ht',q,hq,e1,e2,e3⟩
structure Tab (rs:List TR) (M:ByteArray × ByteArray→Option Value):Prop where
 no:∀ k,M k=none→eO (af rs) k.1 k.2=none
 yes:∀ k v,M k=some v→∃ t ∈ rs,∃ q ∈ t.rows,k=(t.name,q.name)∧v=q.sl∧eO (af rs) k.1 k.2=some (ag q.rows)∧aS (ag q.rows)=true
theorem sG {rs:List TR} (h:aY (af rs)=true):Tab rs (kP rs) where
 no k hk:=by
  cases e:eO (af rs) k.1 k.2 with
  | none=>rfl
  | some es =>
   obtain ⟨t,ht,q,hq,e1,e2,-⟩:=mX e;have:=oP (M:=fun _=>none) (rs:=rs) (k:=k) (.inr ⟨t,ht,q,hq,by rw [e1,e2]⟩);unfold kP at hk;rw [hk] at this; cases this
 yes k v hk:=by
  rcases AZ hk with h0 | ⟨t,ht,q,hq,e,ev⟩
  ·cases h0
  have hSF:=aX h;refine ⟨t,ht,q,hq,e,ev,?_,(hSF.2.2 t ht q hq).1⟩;cases e2:eO (af rs) k.1 k.2 with
  | none=>exact (Hu e2 t.p (List.mem_map_of_mem ht) (by rw [e]; rfl) q.p (List.mem_map_of_mem hq) (by rw [e]; rfl)).elim
  | some es =>
   obtain ⟨t',ht',q',hq',e3,e4,e5⟩:=mX e2;have h1:t'=t:=Cz h ht' ht (by rw [e3,e]);subst h1;obtain ⟨i,hi,rfl⟩:=List.mem_iff_getElem.1 ht;have h2:q'=q:=CE (kR h i hi).2.2 hq' hq (by rw [e4,e]);subst h2;rw [e5]
theorem Tab.some_iff {rs:List TR} {M:ByteArray × ByteArray→Option Value} (h:Tab rs M) (k:ByteArray × ByteArray):(M k).isSome=!(aG (af rs) k.1 k.2).isEmpty:=by
 unfold aG;cases e:M k with
 | none=>rw [h.no k e]; rfl
 | some v =>
  obtain ⟨t,ht,q,hq,-,-,e1,e2⟩:=h.yes k v e;rw [e1];have:=zn e2;cases e3:ag q.rows with
  | nil=>rw [e3] at this; simp at this
  | cons x xs=>rfl
end Go.Proofs.YtdmniljjnaebbaaGreatDoor
