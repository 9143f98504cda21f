/- Contract of the document's function on strata. -/
import Derived.Test.YtajkkeikihhejaaGreatSq
import Derived.Test.YtajkkeikihhejaaGreatSpecSchema8
import Derived.Test.YtajkkeikihhejaaGreatJ13
open Go.Proofs.Tryz
set_option maxHeartbeats 80000000
namespace Go.Proofs.YtajkkeikihhejaaGreat
open Go.ChangeShapes Go.WideShapes Go.ChangeAt Go.RowKit
open Pl
def St.cells (s:St):List Value:=[.string s.typ,.string s.rel,.int .i64 s.n]
def iG:List St→List Value
 | []=>[]
 | s::xs=>s.cells ++ iG xs
theorem Eg (xs ys:List St):iG (xs ++ ys)=iG xs ++ iG ys:=by
 induction xs with
 | nil=>rfl
 | cons d ds ih=>simp [iG,ih]
theorem zU (xs:List St) (d:St):iG (xs ++ [d])=iG xs ++ d.cells:=by rw [Eg]; simp [iG]
theorem lq (xs:List St) (i:Nat) (h:i < xs.length) (o:Nat) (ho:o < 3):(iG xs)[i * 3 + o]?=(xs[i].cells)[o]?:=by
 induction xs generalizing i with
 | nil=>simp at h
 | cons s xs ih =>
  cases i with
  | zero =>
   simp only [iG,Nat.zero_mul,Um,List.getElem_cons_zero];rw [List.getElem?_append_left (by simp [St.cells]; omega)]
  | succ i =>
   simp only [iG,List.getElem_cons_succ];rw [List.getElem?_append_right (by simp [St.cells]; omega)];have e:(i + 1) * 3 + o - s.cells.length=i * 3 + o:=by simp [St.cells]; omega
   rw [e];exact ih i (by simpa using h)
theorem wD (xs:List Dp) (i:Nat) (h:i < xs.length) (o:Nat) (ho:o < 3):(eu xs)[i * 3 + o]?=(xs[i].cells)[o]?:=by
 induction xs generalizing i with
 | nil=>simp at h
 | cons s xs ih =>
  cases i with
  | zero =>
   simp only [eu,Nat.zero_mul,Um,List.getElem_cons_zero];rw [List.getElem?_append_left (by simp [Dp.cells]; omega)]
  | succ i =>
   simp only [eu,List.getElem_cons_succ];rw [List.getElem?_append_right (by simp [Dp.cells]; omega)];have e:(i + 1) * 3 + o - s.cells.length=i * 3 + o:=by simp [Dp.cells]; omega
   rw [e];exact ih i (by simpa using h)
theorem FX (g j:Nat):(⟨g,0,none⟩:Addr).add j=⟨g,j,none⟩:=by
 unfold Addr.add;by_cases hj:j=0
 ·subst hj; simp
 simp [hj]
theorem Qs {w:af} {base:Nat} {t:TypeId} {v:Value} {n:Nat} {xs:List Value} (h:w.ownsRow base t 3 v n xs):∃ ad cp,v=.slice ad n cp∧(n=0 ∨ ∃ g,ad=some ⟨g,0,none⟩∧base≤g∧g < w.heap.size∧∀ (j:Nat) (u:Value),xs[j]?=some u→w.cell? ⟨g,j,none⟩=some u):=by
 have h2:=h;rcases h.2 with ⟨rfl,h0⟩ | ⟨g,cp,cur,rfl,hbg,hg,hnc,-⟩
 ·exact ⟨none,0,by rw [h0],.inl h0⟩
 have hlt:=h2.lt g rfl;refine ⟨_,cp,rfl,.inr ⟨g,rfl,hlt.1,hlt.2,fun j u hu=>?_⟩⟩;have:=h2.cells (g:=g) rfl j u hu;rwa [FX] at this
def AtD (w:World) (b off:Nat) (d:Dp):Prop:=w.cell? ⟨b,off,none⟩=some (.string d.typ)∧w.cell? ⟨b,off + 1,none⟩=some (.string d.rel)∧w.cell? ⟨b,off + 2,none⟩=some (.bool d.neg)
def RB (w:World) (lo:Nat) (ad:Option Addr) (xs:List Dp):Prop:=xs=[] ∨ ∃ b,ad=some ⟨b,0,none⟩∧lo≤b∧b < w.heap.size∧∀ (i:Nat) (h:i < xs.length),AtD w b (i * 3) xs[i]
theorem Tn {w:af} {base:Nat} {v:Value} {xs:List Dp} (h:w.ownsRow base 220 3 v xs.length (eu xs)):∃ ad cp,v=.slice ad xs.length cp∧RB w base ad xs:=by
 obtain ⟨ad,cp,e,h0⟩:=Qs h;refine ⟨ad,cp,e,?_⟩;rcases h0 with h0 | ⟨g,e1,hb,hg,hc⟩
 ·exact .inl (Ui.1 h0)
 refine .inr ⟨g,e1,hb,hg,fun i hi=>⟨?_,?_,?_⟩⟩
 ·exact hc _ _ (by have:=wD xs i hi 0 (by omega); simpa [Dp.cells] using this)
 ·exact hc _ _ (by have:=wD xs i hi 1 (by omega); simpa [Dp.cells] using this)
 exact hc _ _ (by have:=wD xs i hi 2 (by omega); simpa [Dp.cells] using this)
def TF (w:World) (g:Nat) (xs:List St):Prop:=∀ (i:Nat) (h:i < xs.length),S9 w g (i * 3) xs[i]
theorem Tq {w:af} {base:Nat} {v:Value} {xs:List St} (h:w.ownsRow base 162 3 v xs.length (iG xs)):∃ ad cp,v=.slice ad xs.length cp∧(xs.length=0 ∨ ∃ g,ad=some ⟨g,0,none⟩∧base≤g∧g < w.heap.size∧TF w g xs):=by
 obtain ⟨ad,cp,e,h0⟩:=Qs h;refine ⟨ad,cp,e,?_⟩;rcases h0 with h0 | ⟨g,e1,hb,hg,hc⟩
 ·exact .inl h0
 refine .inr ⟨g,e1,hb,hg,fun i hi=>⟨?_,?_,?_⟩⟩
 ·exact hc _ _ (by have:=lq xs i hi 0 (by omega); simpa [St.cells] using this)
 ·exact hc _ _ (by have:=lq xs i hi 1 (by omega); simpa [St.cells] using this)
 exact hc _ _ (by have:=lq xs i hi 2 (by omega); simpa [St.cells] using this)
theorem Qt:(prog.info? 162).map (fun i=>(i.zero,i.size,i.bytes))=some (some (.agg #[.string ⟨#[]⟩,.string ⟨#[]⟩,.int .i64 0]),3,40):=by kernel_rfl
def FY (ks:List (ByteArray × ByteArray)):List St:=ks.map fun k=>⟨k.1,k.2,0⟩
theorem Eh (ks:List (ByteArray × ByteArray)):(FY ks).length=ks.length:=by simp [FY]
theorem Oo (ks:List (ByteArray × ByteArray)) (k:ByteArray × ByteArray):FY (ks ++ [k])=FY ks ++ [⟨k.1,k.2,0⟩]:=by simp [FY]
def dA (rs:List TR) (k:Nat):List (ByteArray × ByteArray):=ak (ae (rs.take k))
def iV (t:TR) (j:Nat):List (ByteArray × ByteArray):=(t.rows.take j).map fun q=>(t.name,q.name)
theorem o7 (rs:List TR) (k:Nat) (h:k < rs.length):dA rs (k + 1)=dA rs k ++ iV rs[k] rs[k].rows.length:=by
 unfold dA iV;rw [TV h,Ug];unfold ae ak;rw [List.map_append,List.flatMap_append,List.map_singleton,List.flatMap_singleton];congr 1;simp [jG,TR.p,eD,RR.p]
theorem tL (t:TR) (j:Nat) (h:j < t.rows.length):iV t (j + 1)=iV t j ++ [(t.name,t.rows[j].name)]:=by
 unfold iV;rw [TV h,List.map_append]; rfl
theorem CK (t:TR) (j:Nat):(iV t j).length≤t.rows.length:=by unfold iV; simp; omega
theorem wE (rs:List TR) (hr:∀ r ∈ rs,r.rows.length≤6) (k:Nat):(dA rs k).length≤k * 6:=by
 induction k with
 | zero=>simp [dA,ae,ak]
 | succ k ih =>
  by_cases h:k < rs.length
  ·rw [o7 _ _ h,T9];have h1:=CK rs[k] rs[k].rows.length;have h2:=hr rs[k] (TQ h);omega
  have e:rs.take (k + 1)=rs.take k:=by rw [List.take_of_length_le (by omega),List.take_of_length_le (by omega)]
  unfold dA at ih ⊢;rw [e]; omega
open Go.Maps
def RR.sl (q:RR):Value:=.slice q.ad q.rows.length q.cap
def kN (t:ByteArray) (M:ByteArray × ByteArray→Option Value):List RR→ByteArray × ByteArray→Option Value
 | []=>M
 | q::qs=>kN t (kZ M (t,q.name) (some q.sl)) qs
def eF (M:ByteArray × ByteArray→Option Value):List TR→ByteArray × ByteArray→Option Value
 | []=>M
 | t::ts=>eF (kN t.name M t.rows) ts
def nX (rs:List TR):ByteArray × ByteArray→Option Value:=eF (fun _=>none) rs
theorem Ei (t:bH) (M:ByteArray × ByteArray→Option Value) (xs ys:List RR):kN t M (xs ++ ys)=kN t (kN t M xs) ys:=by
 induction xs generalizing M with
 | nil=>rfl
 | cons q qs ih=>simp only [List.cons_append,kN]; exact ih _
theorem zV (M:ByteArray × ByteArray→Option Value) (xs ys:List TR):eF M (xs ++ ys)=eF (eF M xs) ys:=by
 induction xs generalizing M with
 | nil=>rfl
 | cons q qs ih=>simp only [List.cons_append,eF]; exact ih _
theorem IE (t:bH) (M:ByteArray × ByteArray→Option Value) (qs:List RR) (j:Nat) (h:j < qs.length):kN t M (qs.take (j + 1))=kZ (kN t M (qs.take j)) (t,qs[j].name) (some qs[j].sl):=by
 rw [TV h,Ei]; rfl
theorem Ej (M:ByteArray × ByteArray→Option Value) (rs:List TR) (k:Nat) (h:k < rs.length):eF M (rs.take (k + 1))=kN rs[k].name (eF M (rs.take k)) rs[k].rows:=by
 rw [TV h,zV]; rfl
set_option maxRecDepth 100000 in
theorem qG (ad:Option Addr) (cap:Nat) (rs:List TR) (w:af) (hlen:rs.length≤6) (hs:kW w ad rs) (hrl:∀ r ∈ rs,r.rows.length≤6) (hf:∀ r ∈ rs,r.fits) :
  Calls prog 53 #[.slice ad rs.length cap] w fun e w'=>e=.returned (.map (some w.heap.size))∧aM dQ prog 94 w' w.heap.size 36 (nX rs)∧ag w w':=by
 have HS:=az hs;have Yz:Hid (∀ r ∈ rs,r.rows.length≤6):=hrl;have UL:=az hf;have HM0:Hid (aM dQ prog 94 (w.alloc (.map #[] 0)) w.heap.size 0 (fun _=>none)):=nJ _ _ _ w;have HB0:Hid (ag w (w.alloc (.map #[] 0))):=(TT _ _).alloc (TS _) _;clear hs hrl hf;have hmm:=@run_makeMap prog;go_enter func53,ntmps53;go_wp2_with fail;go_loopw [11] (fun i wr=>∃ k:Nat,k≤rs.length∧i=.int .i64 k∧Hid (aM dQ prog 94 wr w.heap.size (k * 6) (eF (fun _=>none) (rs.take k)))∧Hid (ag w wr)) (fun i _=>rs.length - (intOf i).toNat);case atStart=>exact ⟨0,TW _,rfl,HM0,HB0⟩
 clear HM0 HB0 hmm;obtain ⟨k,hk,rfl,HM,HB⟩:=hrel;by_cases hlt:k < rs.length
 ·rcases HS.out.below HB.out with rfl | ⟨b,off,rfl,hb,hr,hok⟩
  ·simp at hlt
  obtain ⟨t0,t1⟩:=hr k hlt;have hk1:=bB k;have hk2:(k:Int) < (rs.length:Int):=by omega
  have h6:rs[k].rows.length≤6:=Yz.out _ (TQ hlt);have z0:rs[k].name.size≤maxLen:=(UL.out _ (TQ hlt)).1;have WK:Hid (∀ q ∈ rs[k].rows,q.fits):=(UL.out _ (TQ hlt)).2.2;clear hr hok;obtain ⟨W1,hW1⟩:∃ W1,W1=wr.alloc (.cells #[.string rs[k].name,.slice rs[k].ad rs[k].rows.length rs[k].cap] 127):=⟨_,rfl⟩;have hal:ag wr W1:=by rw [hW1]; exact (TT _ _).alloc (TS _) _
  have Xt:Hid (aM dQ prog 94 W1 w.heap.size (k * 6) (eF (fun _=>none) (rs.take k))):=HM.out.below hal;have HB1:=jP HB hal;have VE:Hid (wr.heap.size < W1.heap.size∧W1.cell? ⟨wr.heap.size,0,none⟩=some (.string rs[k].name)):=⟨by rw [hW1]; simp,by rw [hW1]; simp⟩;have hgw:w.heap.size < wr.heap.size:=HM.out.lt;clear HM hal;go_wp2_with fail;rw [← hW1];clear hW1 t0 t1 HB;obtain ⟨wo,hwo⟩:∃ wo,wo=wr:=⟨_,rfl⟩;subst hwo;go_loopw [18] (fun i w2=>∃ j:Nat,j≤rs[k].rows.length∧i=.int .i64 j∧Hid (aM dQ prog 94 w2 w.heap.size (k * 6 + j) (kN rs[k].name (eF (fun _=>none) (rs.take k)) (rs[k].rows.take j)))∧Hid (ag w w2)∧Hid (wo.heap.size < w2.heap.size∧w2.cell? ⟨wo.heap.size,0,none⟩=some (.string rs[k].name))) (fun i _=>rs[k].rows.length - (intOf i).toNat);case atStart=>exact ⟨0,TW _,rfl,Xt,HB1,VE⟩
  clear Xt HB1 VE;obtain ⟨j,hj,rfl,HM,HB,HC⟩:=hrel;by_cases hjl:j < rs[k].rows.length
  ·rcases HS.out.below HB.out with hnil | ⟨b',off',he,hb2,hr,hok⟩
   ·rw [hnil] at hlt; simp at hlt
   injection he with he; injection he with he1 he2; subst he1; subst he2;have ok:=hok rs[k] (TQ hlt);rcases ok with hnil | ⟨b2,UZ,had,hbb,hr2,-⟩
   ·rw [hnil] at hjl; simp at hjl
   obtain ⟨q0,q1⟩:=hr2 j hjl;have z1:rs[k].rows[j].name.size≤maxLen:=(WK.out _ (TQ hjl)).1;have hj1:=bB j;have hj2:(j:Int) < (rs[k].rows.length:Int):=by omega
   obtain ⟨kl,hkl⟩:=jB (rs[k].name,rs[k].rows[j].name) z0 z1;have Vm:Hid (keyOf prog 94 (dQ (rs[k].name,rs[k].rows[j].name))=some kl):=hkl;obtain ⟨W2,hW2⟩:∃ W2,W2=wr.alloc (.cells #[.string rs[k].rows[j].name,.slice rs[k].rows[j].ad rs[k].rows[j].rows.length rs[k].rows[j].cap] 147):=⟨_,rfl⟩;have hal:ag wr W2:=by rw [hW2]; exact (TT _ _).alloc (TS _) _
   have Vd:Hid (aM dQ prog 94 W2 w.heap.size (k * 6 + j) (kN rs[k].name (eF (fun _=>none) (rs.take k)) (rs[k].rows.take j))):=HM.out.below hal;have HB2:=jP HB hal;have hc1:=aG hal HC.out.1 HC.out.2;have Va:Hid (wo.heap.size < W2.heap.size∧W2.cell? ⟨wo.heap.size,0,none⟩=some (.string rs[k].name)):=⟨TP HC.out.1 hal.size,hc1⟩;have g0:W2.cell? ⟨wr.heap.size,0,none⟩=some (.string rs[k].rows[j].name):=by rw [hW2]; simp
   have g1:W2.cell? ⟨wr.heap.size,1,none⟩=some (.slice rs[k].rows[j].ad rs[k].rows[j].rows.length rs[k].rows[j].cap):=by rw [hW2]; simp
   have hsz:wo.heap.size < wr.heap.size:=HC.out.1;have hc0:=HC.out.2;rw [had];clear hr hok hr2 hkl HM hal HC;go_wp2_with (first | (at_mapUpdate; rw [← hW2]; refine nC _ rfl _ _ _ 91 rfl 94 33 ic uA underlying91 w.heap.size (k * 6 + j) _ rfl Vd.out (by unfold maxLen; omega) (rs[k].name,rs[k].rows[j].name) kl rfl Vm.out _ rfl ?_; intro w3 hV3 hg3) | go_in);have HM4:Hid (aM dQ prog 94 w3 w.heap.size (k * 6 + (j + 1)) (kN rs[k].name (eF (fun _=>none) (rs.take k)) (rs[k].rows.take (j + 1)))):=by
    show aM _ _ _ _ _ _ _;rw [IE _ _ _ _ hjl]; exact hV3
   have Vi:Hid (ag w w3):=HB2.out.grown hg3 HB2.out.size (fun i hi=>by injection hi with hi; omega);have HC4:Hid (wo.heap.size < w3.heap.size∧w3.cell? ⟨wo.heap.size,0,none⟩=some (.string rs[k].name)):=⟨TP Va.out.1 hg3.size,by rw [hg3.cell_far _ Va.out.1 (by simp; omega)]; exact Va.out.2⟩;clear hV3 hg3 hW2 Vd HB2 Va g0 g1 q0 q1 hc0 hc1;go_wp2;go_roundw;case rel=>exact ⟨j + 1,by omega,by go_num,HM4,Vi,HC4⟩
   simp [intOf] <;> omega
  obtain rfl:j=rs[k].rows.length:=by omega
  have HM4:Hid (aM dQ prog 94 wr w.heap.size ((k + 1) * 6) (eF (fun _=>none) (rs.take (k + 1)))):=by
   show aM _ _ _ _ _ _ _;have:=HM.out;rw [Ug] at this;rw [Ej _ _ _ hlt]; exact this.mono (by omega)
  clear HM;go_wp2;go_roundw;case rel=>exact ⟨k + 1,by omega,by go_num,HM4,HB⟩
  simp [intOf] <;> omega
 obtain rfl:k=rs.length:=by omega
 have HM4:Hid (aM dQ prog 94 wr w.heap.size 36 (nX rs)):=by
  show aM _ _ _ _ _ _ _;have:=HM.out;rw [Ug] at this;exact this.mono (by omega)
 go_wp2;go_ret;exact ⟨rfl,HM4.out,HB.out⟩
theorem lu (w:af):(zeroValue 33).run prog w=.ok (.slice none 0 0) w:=by kernel_rfl
theorem yH (b n:Nat) (M:ByteArray × ByteArray→Option Value) (t r:bH) (w:af) (ht:t.size≤maxLen) (hr:r.size≤maxLen) (hV:aM dQ prog 94 w b n M) :
  Calls prog 184 #[.map (some b),.string t,.string r] w fun e w'=>e=.returned (.bool (M (t,r)).isSome)∧w'=w:=by
 obtain ⟨kl,hkl⟩:=jB (t,r) ht hr;have HV:Hid (aM dQ prog 94 w b n M):=hV;have Vm:Hid (keyOf prog 94 (dQ (t,r))=some kl):=hkl;clear hkl hV;go_enter func184,ntmps184;go_wp2_with (first | (at_lookup; refine bZ _ rfl _ _ 91 rfl 94 33 ic underlying91 (lu _) b n M rfl HV.out (t,r) kl rfl Vm.out ?_) | go_in);go_ret;exact ⟨rfl,rfl⟩
theorem CL (a:Al) (w:af) :
  Calls prog 243 #[.agg #[.string a.t,.string a.s]] w fun e w'=>e=.returned (.bool (!a.s.toList.isEmpty))∧ag w w':=by
 cases h:a.s.toList.isEmpty;case true=>
  go_enter func243,ntmps243;go_wp2;go_ret;exact ⟨rfl,(TT _ _).alloc (TS _) _⟩
 go_enter func243,ntmps243;go_wp2;go_ret;exact ⟨rfl,(TT _ _).alloc (TS _) _⟩
theorem xG (xs:List Al) (k:Nat) (h:k < xs.length):(xs.drop k).any (fun a=>!a.s.toList.isEmpty)=((!xs[k].s.toList.isEmpty) || (xs.drop (k + 1)).any (fun a=>!a.s.toList.isEmpty)):=by
 rw [Un h]; rfl
theorem BD (ad:Option Addr) (cap:Nat) (xs:List Al) (w:af) (hlen:xs.length≤1048576) (hs:jN w ad xs) :
  Calls prog 253 #[.slice ad xs.length cap,.func (Fn.func 243) #[] #[]] w fun e w'=>(∃ r:Int,e=.returned (.int .i64 r)∧decide (0≤r)=xs.any (fun a=>!a.s.toList.isEmpty))∧ag w w':=by
 have HS:=az hs;clear hs;go_enter func253,ntmps253;go_wp2_with fail;go_loopw [8] (fun i wr=>∃ k:Nat,k≤xs.length∧i=.int .i64 k∧Hid ((xs.drop k).any (fun a=>!a.s.toList.isEmpty)=xs.any (fun a=>!a.s.toList.isEmpty))∧Hid (ag w wr)) (fun i _=>xs.length - (intOf i).toNat);case atStart=>exact ⟨0,TW _,rfl,rfl,TT _ _⟩
 obtain ⟨k,hk,rfl,HP,HB⟩:=hrel;by_cases hlt:k < xs.length
 ·rcases HS.out.below HB.out with rfl | ⟨b,off,rfl,hb,hr⟩
  ·simp at hlt
  obtain ⟨t0,t1⟩:=hr k hlt;have hk1:=bB k;have hk2:(k:Int) < (xs.length:Int):=by omega
  clear hr;cases he:xs[k].s.toList.isEmpty;case false=>
   have HN:Hid (xs.any (fun a=>!a.s.toList.isEmpty)=true):=by show _=_; rw [← HP.out,xG _ _ hlt,he]; rfl
   go_wp2_with (go_at_call 243; refine (CL xs[k] _).mono ?_; rintro e w' ⟨he2,hbx⟩; rw [he] at he2; subst he2);go_ret;exact ⟨⟨k,rfl,by rw [HN.out]; simp⟩,HB.out.trans (hbx.mono HB.out.size)⟩
  have UI:Hid ((xs.drop (k + 1)).any (fun a=>!a.s.toList.isEmpty)=xs.any (fun a=>!a.s.toList.isEmpty)):=by show _=_; rw [← HP.out,xG _ _ hlt,he]; rfl
  go_wp2_with (go_at_call 243; refine (CL xs[k] _).mono ?_; rintro e w' ⟨he2,hbx⟩; rw [he] at he2; subst he2);go_roundw;case rel=>exact ⟨k + 1,by omega,by go_num,UI,HB.out.trans (hbx.mono HB.out.size)⟩
  simp [intOf] <;> omega
 have HN:Hid (xs.any (fun a=>!a.s.toList.isEmpty)=false):=by show _=_; rw [← HP.out,List.drop_of_length_le (by omega)]; rfl
 go_wp2;go_ret;exact ⟨⟨-1,rfl,by rw [HN.out]; simp⟩,HB.out⟩
theorem wF (ad:Option Addr) (cap:Nat) (xs:List Al) (w:af) (hlen:xs.length≤1048576) (hs:jN w ad xs) :
  Calls prog 242 #[.slice ad xs.length cap,.func (Fn.func 243) #[] #[]] w fun e w'=>e=.returned (.bool (xs.any (fun a=>!a.s.toList.isEmpty)))∧ag w w':=by
 go_enter func242,ntmps242;go_wp2_with fail;refine (BD ad cap xs _ hlen hs).mono ?_;rintro e w' ⟨⟨r,rfl,hr⟩,hbx⟩;have HR:Hid (decide (0≤r)=xs.any (fun a=>!a.s.toList.isEmpty)):=hr;clear hr hs;go_wp2;go_ret;exact ⟨by rw [← HR.out]; rfl,hbx⟩
theorem Oq (xs:List Al):(!xs.any fun a=>!a.s.toList.isEmpty)=xs.all fun a=>a.s.toList.isEmpty:=by
 induction xs with
 | nil=>rfl
 | cons a xs ih=>simp only [List.any_cons,List.all_cons,Bool.not_or,Bool.not_not,ih]
set_option maxRecDepth 100000 in
theorem uR (ad:Option Addr) (cap:Nat) (rs:List ER) (w:af) (hlen:rs.length≤1048576) (hs:iH w ad rs) (hl:∀ r ∈ rs,r.e.light) :
  Calls prog 224 #[.slice ad rs.length cap] w fun e w'=>e=.returned (.bool (bu (aj rs)))∧ag w w':=by
 by_cases h1:rs.length=1
 ·obtain ⟨r,rfl⟩:∃ r,rs=[r]:=List.length_eq_one_iff.1 h1;rcases hs with h | ⟨b,off,rfl,hb,hr,hok⟩
  ·cases h
  obtain ⟨t0,t1,t2,t3,t4⟩:=hr 0 (by simp);simp only [Nat.zero_mul,Nat.add_zero,List.getElem_cons_zero] at t0 t1 t2 t3 t4;have Vz:Hid (r.ok w):=hok r (by simp);obtain ⟨lg,-⟩:=hl r (by simp);clear hr hok h1;simp only [List.length_cons,List.length_nil,Um];by_cases hq:r.e.kind=1
  ·have HD:Hid (bu (aj [r])=!r.e.allow.any fun a=>!a.s.toList.isEmpty):=by show _=_; rw [Oq]; simp [bu,aj,hq]
   have YX:(r.e.kind == 1)=true:=by simpa using hq
   go_enter func224,ntmps224;go_wp2_with (go_at_call 242; refine (wF _ _ r.e.allow _ lg (Vz.out.1.below ((TT _ _)))).mono ?_; rintro e w' ⟨rfl,hbx⟩);go_ret;exact ⟨by rw [HD.out]; rfl,hbx⟩
  have HD:Hid (bu (aj [r])=false):=by show _=_; simp [bu,aj,hq]
  have YX:(r.e.kind == 1)=false:=by simpa using hq
  go_enter func224,ntmps224;go_wp2;go_ret;exact ⟨by rw [HD.out]; rfl,TT _ _⟩
 have HD:Hid (bu (aj rs)=false):=by
  show _=_;rcases rs with _ | ⟨r,_ | ⟨r2,rs⟩⟩
  ·rfl
  ·simp at h1
  rfl
 have h2:((rs.length:Int) == 1)=false:=by
  have:¬ ((rs.length:Int)=1):=by omega
  simpa using this
 clear hs;go_enter func224,ntmps224;go_wp2;go_ret;exact ⟨by rw [HD.out]; rfl,TT _ _⟩
end Go.Proofs.YtajkkeikihhejaaGreat
