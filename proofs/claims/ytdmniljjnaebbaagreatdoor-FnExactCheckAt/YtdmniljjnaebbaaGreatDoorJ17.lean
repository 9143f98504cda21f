/- Contract of the program's look whether a tuple fits its table. -/
import Derived.Test.YtdmniljjnaebbaaGreatDoorJ16
import Derived.WideKeyEntry
open Go.Proofs.Tryz
set_option maxHeartbeats 80000000
namespace Go.Proofs.YtdmniljjnaebbaaGreatDoor
open Go.ChangeShapes Go.WideShapes Go.ChangeAt Go.RowKit Go.Maps
open Pl
def kC (a:Al) (e:Ex):Bool:=decide (e.kind=1) && cz e.allow e.allow.length a
def mY (ts:List Ty) (ty rel:ByteArray) (a:Al):Bool:=(aG ts ty rel).any (kC a)
theorem fit_drop (a:Al) (rows:List ER) (k:Nat) (h:k < rows.length):(ag (rows.drop k)).any (kC a)=(kC a rows[k].e || (ag (rows.drop (k + 1))).any (kC a)):=by
 rw [eX _ _ h]; rfl
set_option maxRecDepth 100000 in
theorem CJ (b n:Nat) (rs:List TR) (ad:Option Addr) (M:ByteArray × ByteArray→Option Value) (oa ob r c d s:ByteArray) (w:World) (hV:aD bz prog 172 w b n M) (hT:Tab rs M) (hs:fo w ad rs) (hl:∀ r ∈ rs,r.light) (ho:oa.size≤maxLen) (hr:r.size≤maxLen) :
  Calls prog 94 #[.map (some b),.agg #[.string oa,.string ob,.string r,.string c,.string d,.string s]] w fun e w'=>e=.returned (.bool (mY (af rs) oa r ⟨c,s⟩))∧Below w.heap.size w w':=by
 have HT:Hid (Tab rs M):=hT;have HS:Hid (fo w ad rs):=hs;have HL:Hid (∀ r ∈ rs,r.light):=hl;obtain ⟨kl,hkl⟩:=iA (oa,r) ho hr;have HKL:Hid (keyOf prog 172 (bz (oa,r))=some kl):=hkl;obtain ⟨W0,hW0⟩:∃ W0,W0=(w.alloc (.cells #[.string oa,.string ob,.string r,.string c,.string d,.string s] 42)).alloc (.cells #[.string c,.string s] 204):=⟨_,rfl⟩;have hal:Below w.heap.size w W0:=by
  rw [hW0]
  repeat (first | exact Below.refl _ _ | refine Below.alloc ?_ (by first | (simp; done) | (simp; omega)) _)
 have HB0:Hid (Below w.heap.size w W0):=hal;have HV0:Hid (aD bz prog 172 W0 b n M):=hV.below hal;have HC0:Hid (W0.cell? ⟨w.heap.size + 1,0,none⟩=some (.string c)∧W0.cell? ⟨w.heap.size + 1,1,none⟩=some (.string s)∧w.heap.size + 1 < W0.heap.size):=⟨by rw [hW0]; simp,by rw [hW0]; simp,by rw [hW0]; simp⟩;obtain ⟨rows,adE,capE,HM,HE,HF⟩:∃ (rows:List ER) (adE:Option Addr) (capE:Nat),Hid ((M (oa,r)).getD (.slice none 0 0)=.slice adE rows.length capE)∧Hid (ag rows=aG (af rs) oa r)∧Hid (l8 rs adE rows):=by
  cases e:M (oa,r) with
  | none=>exact ⟨[],none,0,rfl,by show _=_; unfold aG; rw [HT.out.no _ e]; rfl,.inl rfl⟩
  | some v =>
   obtain ⟨t,htm,q,hq,-,rfl,e1,-⟩:=HT.out.yes _ v e;exact ⟨q.rows,q.ad,q.cap,rfl,by show _=_; unfold aG; rw [e1]; rfl,.inr ⟨t,htm,q,hq,rfl,rfl⟩⟩
 have HLE:=HF.out.light HL.out;have HLE1:rows.length≤1048576:=HLE.1;have HLE2:Hid (∀ q ∈ rows,q.e.light):=HLE.2;have HSE:Hid (dZ w adE rows):=HF.out.sl HS.out;clear hV hT hs hl hkl hal HLE;go_enter func94,ntmps94;go_wp2_with (at_lookup; rw [← hW0]; refine iy _ rfl _ _ 127 rfl 172 120 gM underlying127 (nY _) b n M rfl HV0.out (oa,r) kl rfl HKL.out ?_; rw [HM.out]; clear hW0);go_loopw [23] (fun i wr=>∃ k:Nat,k≤rows.length∧i=.int .i64 k∧Hid ((ag (rows.drop k)).any (kC ⟨c,s⟩)=(ag rows).any (kC ⟨c,s⟩))∧Hid (Below w.heap.size w wr)∧Hid (wr.cell? ⟨w.heap.size + 1,0,none⟩=some (.string c)∧wr.cell? ⟨w.heap.size + 1,1,none⟩=some (.string s)∧w.heap.size + 1 < wr.heap.size)) (fun i _=>rows.length - (intOf i).toNat);case atStart=>exact ⟨0,Nat.zero_le _,rfl,rfl,HB0,HC0⟩
 case round =>
  clear HB0 HC0 HV0;obtain ⟨k,hk,rfl,HP,HB,HC⟩:=hrel;by_cases hlt:k < rows.length
  ·rcases HSE.out.below HB.out with hnil | ⟨bE,offE,hadE,hbE,hrE,hok⟩
   ·rw [hnil] at hlt; simp at hlt
   obtain ⟨t0,t1,t2,t3,t4⟩:=hrE k hlt;have HOK:Hid (rows[k].ok wr):=hok _ (List.getElem_mem hlt);have lgA:rows[k].e.allow.length≤1048576:=(HLE2.out _ (List.getElem_mem hlt)).1;have hk1:=bq k;have hk2:(k:Int) < (rows.length:Int):=by omega
   obtain ⟨x0,x1,x2⟩:=HC.out;have HD:Hid ((ag rows).any (kC ⟨c,s⟩)=(kC ⟨c,s⟩ rows[k].e || (ag (rows.drop (k + 1))).any (kC ⟨c,s⟩))):=by show _=_; rw [← HP.out]; exact fit_drop _ _ _ hlt
   obtain ⟨W1,hW1⟩:∃ W1,W1=wr.alloc (.cells #[.int .i64 rows[k].e.kind,.slice rows[k].adA rows[k].e.allow.length rows[k].capA,.string rows[k].e.over,.string rows[k].e.name,.slice rows[k].adK rows[k].e.kids.length rows[k].capK] 190):=⟨_,rfl⟩;have hal:Below wr.heap.size wr W1:=by rw [hW1]; exact (Below.refl _ _).alloc (Nat.le_refl _) _
   have HB1:=fD HB hal;have HC1:Hid (W1.cell? ⟨w.heap.size + 1,0,none⟩=some (.string c)∧W1.cell? ⟨w.heap.size + 1,1,none⟩=some (.string s)∧w.heap.size + 1 < W1.heap.size):=⟨ah hal x2 x0,ah hal x2 x1,Nat.lt_of_lt_of_le x2 hal.size⟩;have HA1:Hid (gu W1 rows[k].adA rows[k].e.allow):=HOK.out.1.below hal;rw [hadE];clear hrE hok hal HC;by_cases h1:rows[k].e.kind=1
   ·have hq1:(rows[k].e.kind == 1)=true:=by simpa using h1
    have HFE:Hid (kC ⟨c,s⟩ rows[k].e=cz rows[k].e.allow rows[k].e.allow.length ⟨c,s⟩):=by show _=_; unfold kC; simp [h1]
    replace h1:Hid (rows[k].e.kind=1):=h1;go_wp2_with fail;rw [← hW1];refine (qP rows[k].adA rows[k].e.allow.length rows[k].capA rows[k].e.allow ⟨c,s⟩ _ (Nat.le_refl _) lgA HA1.out).mono ?_;rintro e w2 ⟨rfl,hb2⟩;have HB2:=fD HB1 hb2;have HC2:Hid (w2.cell? ⟨w.heap.size + 1,0,none⟩=some (.string c)∧w2.cell? ⟨w.heap.size + 1,1,none⟩=some (.string s)∧w.heap.size + 1 < w2.heap.size):=⟨ah hb2 HC1.out.2.2 HC1.out.1,ah hb2 HC1.out.2.2 HC1.out.2.1,Nat.lt_of_lt_of_le HC1.out.2.2 hb2.size⟩;clear hb2 hW1 t0 t1 t2 t3 t4 x0 x1;cases hz:cz rows[k].e.allow rows[k].e.allow.length ⟨c,s⟩ with
    | true =>
     have HN:Hid (mY (af rs) oa r ⟨c,s⟩=true):=by show _=_; unfold mY; rw [← HE.out,HD.out,HFE.out,hz]; rfl
     go_wp2;go_ret;exact ⟨by rw [HN.out]; rfl,HB2.out⟩
    | false =>
     have HP2:Hid ((ag (rows.drop (k + 1))).any (kC ⟨c,s⟩)=(ag rows).any (kC ⟨c,s⟩)):=by show _=_; rw [HD.out,HFE.out,hz]; rfl
     go_wp2;go_roundw;case rel=>exact ⟨k + 1,by omega,by go_num,HP2,HB2,HC2⟩
     case measure=>simp [intOf] <;> omega
   ·have hq1:(rows[k].e.kind == 1)=false:=by simpa using h1
    have HP2:Hid ((ag (rows.drop (k + 1))).any (kC ⟨c,s⟩)=(ag rows).any (kC ⟨c,s⟩)):=by show _=_; rw [HD.out]; simp [kC,h1]
    have HBX:Hid (Below w.heap.size w (wr.alloc (.cells #[.int .i64 rows[k].e.kind,.slice rows[k].adA rows[k].e.allow.length rows[k].capA,.string rows[k].e.over,.string rows[k].e.name,.slice rows[k].adK rows[k].e.kids.length rows[k].capK] 190))):=by rw [← hW1]; exact HB1
    have HCX:Hid ((wr.alloc (.cells #[.int .i64 rows[k].e.kind,.slice rows[k].adA rows[k].e.allow.length rows[k].capA,.string rows[k].e.over,.string rows[k].e.name,.slice rows[k].adK rows[k].e.kids.length rows[k].capK] 190)).cell? ⟨w.heap.size + 1,0,none⟩=some (.string c)∧(wr.alloc (.cells #[.int .i64 rows[k].e.kind,.slice rows[k].adA rows[k].e.allow.length rows[k].capA,.string rows[k].e.over,.string rows[k].e.name,.slice rows[k].adK rows[k].e.kids.length rows[k].capK] 190)).cell? ⟨w.heap.size + 1,1,none⟩=some (.string s)∧w.heap.size + 1 < (wr.alloc (.cells #[.int .i64 rows[k].e.kind,.slice rows[k].adA rows[k].e.allow.length rows[k].capA,.string rows[k].e.over,.string rows[k].e.name,.slice rows[k].adK rows[k].e.kids.length rows[k].capK] 190)).heap.size):=by rw [← hW1]; exact HC1
    clear hW1;go_wp2;go_roundw;case rel=>exact ⟨k + 1,by omega,by go_num,HP2,HBX,HCX⟩
    case measure=>simp [intOf] <;> omega
  ·have HN:Hid (mY (af rs) oa r ⟨c,s⟩=false):=by show _=_; unfold mY; rw [← HE.out,← HP.out,List.drop_of_length_le (by omega)]; rfl
   go_wp2;go_ret;exact ⟨by rw [HN.out]; rfl,HB.out⟩
open Go.ChangeMaps (setBlock heap_setBlock_same heap_setBlock_other)
section
variable {K:Type} {enc:K→Value} {P:Program} {k:TypeId} {w:World} {b n:Nat} {M:K→Option Value}
theorem aD.of_block {w':World} (h:aD enc P k w b n M) (e:w'.heap[b]?=w.heap[b]?):aD enc P k w' b n M:=by
 obtain ⟨D,⟨es,clock,hb,r⟩,h2⟩:=h;exact ⟨D,⟨es,clock,e.trans hb,r⟩,h2⟩
theorem mZ {w:World} {b:Nat} {es es':Array MapEntry} {c c':Nat} (hb:w.heap[b]?=some (.map es c)):w.grownBy (setBlock w b (.map es' c')) (some b) :=
 ⟨rfl,rfl,rfl,by simp [setBlock],fun i _ hi=>heap_setBlock_other hb _ (fun e=>hi (by rw [e]))⟩
theorem aD.entry [DecidableEq K] {t e:TypeId} (h:aD enc P k w b n M) (L:WideMaps.KeyLaw P k) (hinj:∀ x y,enc x=enc y→x=y) (ht:P.underlying t=some (.map k e)) {z:Value} (hz:∀ u:World,(zeroValue e).run P u=.ok z u) (hn:n < maxLen) {x:K} {kl:Lit} (hkey:keyOf P k (enc x)=some kl) :
  ∃ (st:Nat) (w1:World),(Instr.mapEntry t (.map (some b)) (enc x)).run P w=.ok (.tuple #[(M x).getD z,goInt st]) w1∧w.grownBy w1 (some b) ∧
   ∀ (w2:World) (val:Value),w2.heap[b]?=w1.heap[b]?→∃ w3,(Instr.entryStore t (.map (some b)) (goInt st) val).run P w2=.ok () w3∧aD enc P k w3 b (n + 1) (ji M x (some val))∧w2.grownBy w3 (some b):=by
 have LK:=Keyed.of_law L;have hlook:=h.look LK ht (hz w) hkey;have hst:=fun v=>h.store LK hinj ht hn hkey v;obtain ⟨D,⟨es,clock,hb,F,hs,hD⟩,h2⟩:=h;obtain ⟨v0,st,es1,clock1,hrun,hv0,hback⟩:=WideElems.entry_then_store L ht hz hb F hkey;have hb1:(setBlock w b (.map es1 clock1)).heap[b]?=some (.map es1 clock1):=heap_setBlock_same hb _;have ev:v0=(M x).getD z:=by
  have hl:=hlook;rcases Maps.fit_look false LK ht (hz w) hb F hkey with ⟨hrun2,hno,-⟩ | ⟨e0,y,hmem,hek,hrun2,-,-,-⟩
  ·rw [hl] at hrun2;injection hrun2 with e1;rcases hv0 with ⟨e0,hm,hk0,-⟩ | ⟨-,hz0⟩
   ·exact absurd hk0 (hno e0 hm)
   ·rw [hz0,e1]; rfl
  ·rw [hl] at hrun2;injection hrun2 with e1;rcases hv0 with ⟨e1',hm,hk0,hv⟩ | ⟨hno,-⟩
   ·have hnd:=F.stamped.2.2;have:e1'=e0:=by
     have h3:e1'.key=e0.key:=by rw [hk0,hek]
     obtain ⟨i,hi,hie⟩:=List.mem_iff_getElem.1 hm;obtain ⟨j,hj,hje⟩:=List.mem_iff_getElem.1 hmem;have h4:(es.toList.map (·.key))[i]'(by simpa using hi)=(es.toList.map (·.key))[j]'(by simpa using hj):=by simp only [List.getElem_map,hie,hje]; exact h3
     have h6:=List.pairwise_iff_getElem.1 hnd;have h5:i=j:=by
      rcases Nat.lt_trichotomy i j with hl | hl | hl
      ·exact absurd h4 (h6 i j _ _ hl)
      ·exact hl
      ·exact absurd h4.symm (h6 j i _ _ hl)
     subst h5;rw [← hie,← hje]
    rw [hv,this,e1]; rfl
   ·exact absurd hek (hno e0 hmem)
 refine ⟨st,_,by rw [hrun,ev],mZ hb,fun w2 val hw2=>?_⟩;have hw2':w2.heap[b]?=some (.map es1 clock1):=hw2.trans hb1;obtain ⟨es',clock',hr1,hr2⟩:=hback w2 val hw2';obtain ⟨w',hr3,hM',-⟩:=hst val;rw [hr2] at hr3;injection hr3 with _ e3;refine ⟨_,hr1,hM'.of_block ?_,mZ hw2'⟩;rw [← e3,heap_setBlock_same hb,heap_setBlock_same hw2']
end
section
variable {K:Type} {enc:K→Value} {P:Program} (w:World) {ops:Array Oper} {rest:List Oper} {o:Oper} {a:Act} {Q:Exit→Act→World→Prop}
theorem oQ [DecidableEq K] (hg:o.guard=none) (m x:Operand) (t:TypeId) (hop:o.op=Op.mapEntry t m x) (k e:TypeId) (L:WideMaps.KeyLaw P k) (hinj:∀ x y,enc x=enc y→x=y) (ht:P.underlying t=some (.map k e)) {z:Value} (hz:∀ u:World,(zeroValue e).run P u=.ok z u) (b n:Nat) (M:K→Option Value)
  (hm:a.eval m=.map (some b)) (hV:aD enc P k w b n M) (hn:n < maxLen) (y:K) (kl:Lit) (hx:a.eval x=enc y) (hkey:keyOf P k (enc y)=some kl)
  (hK:∀ (st:Nat) (w1:World),w.grownBy w1 (some b)→(∀ (w2:World) (val:Value),w2.heap[b]?=w1.heap[b]?→∃ w3,(Instr.entryStore t (.map (some b)) (goInt st) val).run P w2=.ok () w3∧aD enc P k w3 b (n + 1) (ji M y (some val))∧w2.grownBy w3 (some b)) →
   wpList P ops Q rest (a.put o.dst (.tuple #[(M y).getD z,goInt st])) w1):wpList P ops Q (o::rest) a w:=by
 refine wpList_plain hg fun K' hK'=>?_;obtain ⟨st,w1,hrun,h1,h2⟩:=hV.entry L hinj ht hz hn hkey;unfold Oper.wp;simp [execOp,hop,hm,hx,hrun,Result.andThen];exact hK' _ _ (hK st w1 h1 h2)
theorem jK (hg:o.guard=none) (m s v:Operand) (t:TypeId) (hop:o.op=Op.entryStore t m s v) (b st:Nat) (hm:a.eval m=.map (some b)) (hs:a.eval s=goInt st) (u:Value) (hv:a.eval v=u) (k:TypeId) (n:Nat) (M:K→Option Value)
  (hback:∃ w3,(Instr.entryStore t (.map (some b)) (goInt st) u).run P w=.ok () w3∧aD enc P k w3 b n M∧w.grownBy w3 (some b))
  (hK:∀ w',aD enc P k w' b n M→w.grownBy w' (some b)→wpList P ops Q rest (a.put o.dst undef) w'):wpList P ops Q (o::rest) a w:=by
 refine wpList_plain hg fun K' hK'=>?_;obtain ⟨w3,hrun,h1,h2⟩:=hback;unfold Oper.wp;simp [execOp,hop,hm,hs,hv,hrun,Result.andThen];exact hK' _ _ (hK w3 h1 h2)
end
theorem wX (t:TR) (g:Nat) (nm:ByteArray) (w:World) (hg:g < w.heap.size) (hc:w.cell? ⟨g,0,none⟩=some (.string nm)) :
  Calls prog 195 #[.agg #[.string t.name,.slice t.ad t.rows.length t.cap],.pointer (some ⟨g,0,none⟩)] w fun e w'=>e=.returned (.bool (t.name.toList == nm.toList))∧Below w.heap.size w w':=by
 go_enter func195,ntmps195;go_wp2;go_ret;exact ⟨rfl,(Below.refl _ _).alloc (Nat.le_refl _) _⟩
theorem zx (rs:List TR) (k:Nat) (h:k < rs.length) (nm:ByteArray):jC (af (rs.drop k)) nm=((rs[k].name.toList == nm.toList) || jC (af (rs.drop (k + 1))) nm):=by
 rw [kK _ _ h]; rfl
theorem wY (ad:Option Addr) (cap:Nat) (rs:List TR) (g:Nat) (nm:ByteArray) (w:World) (hlen:rs.length≤1048576) (hs:fo w ad rs) (hg:g < w.heap.size) (hc:w.cell? ⟨g,0,none⟩=some (.string nm)) :
  Calls prog 212 #[.slice ad rs.length cap,.func (Fn.func 195) #[] #[.pointer (some ⟨g,0,none⟩)]] w fun e w'=>(∃ r:Int,e=.returned (.int .i64 r)∧decide (0≤r)=jC (af rs) nm)∧Below w.heap.size w w':=by
 have HS:Hid (fo w ad rs):=hs;have HC:Hid (w.cell? ⟨g,0,none⟩=some (.string nm)):=hc;clear hs hc;go_enter func212,ntmps212;go_wp2_with fail;go_loopw [8] (fun i wr=>∃ k:Nat,k≤rs.length∧i=.int .i64 k∧Hid (jC (af (rs.drop k)) nm=jC (af rs) nm)∧Hid (Below w.heap.size w wr)) (fun i _=>rs.length - (intOf i).toNat);case atStart=>exact ⟨0,Nat.zero_le _,rfl,rfl,Below.refl _ _⟩
 case round =>
  obtain ⟨k,hk,rfl,HP,HB⟩:=hrel;by_cases hlt:k < rs.length
  ·rcases HS.out.below HB.out with rfl | ⟨b,off,rfl,hb,hr,-⟩
   ·simp at hlt
   obtain ⟨t0,t1⟩:=hr k hlt;have hk1:=bq k;have hk2:(k:Int) < (rs.length:Int):=by omega
   have HCW:Hid (wr.cell? ⟨g,0,none⟩=some (.string nm)):=ah HB.out hg HC.out;have HGW:Hid (g < wr.heap.size):=Nat.lt_of_lt_of_le hg HB.out.size;clear hr;cases he:(rs[k].name.toList == nm.toList) with
   | true =>
    have HN:Hid (jC (af rs) nm=true):=by show _=_; rw [← HP.out,zx _ _ hlt,he]; rfl
    go_wp2_with (go_at_call 195; refine (wX rs[k] g nm _ HGW.out HCW.out).mono ?_; rintro e w' ⟨he2,hbx⟩; rw [he] at he2; subst he2);go_ret;exact ⟨⟨k,rfl,by rw [HN.out]; simp⟩,HB.out.trans (hbx.mono HB.out.size)⟩
   | false =>
    have HP2:Hid (jC (af (rs.drop (k + 1))) nm=jC (af rs) nm):=by show _=_; rw [← HP.out,zx _ _ hlt,he]; rfl
    go_wp2_with (go_at_call 195; refine (wX rs[k] g nm _ HGW.out HCW.out).mono ?_; rintro e w' ⟨he2,hbx⟩; rw [he] at he2; subst he2);go_roundw;case rel=>exact ⟨k + 1,by omega,by go_num,HP2,HB.out.trans (hbx.mono HB.out.size)⟩
    case measure=>simp [intOf] <;> omega
  ·have HN:Hid (jC (af rs) nm=false):=by show _=_; rw [← HP.out,List.drop_of_length_le (by omega)]; rfl
   go_wp2;go_ret;exact ⟨⟨-1,rfl,by rw [HN.out]; simp⟩,HB.out⟩
theorem qQ (ad:Option Addr) (cap:Nat) (rs:List TR) (g:Nat) (nm:ByteArray) (w:World) (hlen:rs.length≤1048576) (hs:fo w ad rs) (hg:g < w.heap.size) (hc:w.cell? ⟨g,0,none⟩=some (.string nm)) :
  Calls prog 194 #[.slice ad rs.length cap,.func (Fn.func 195) #[] #[.pointer (some ⟨g,0,none⟩)]] w fun e w'=>e=.returned (.bool (jC (af rs) nm))∧Below w.heap.size w w':=by
 go_enter func194,ntmps194;go_wp2_with fail;refine (wY ad cap rs g nm _ hlen hs hg hc).mono ?_;rintro e w' ⟨⟨r,rfl,hr⟩,hbx⟩;have HR:Hid (decide (0≤r)=jC (af rs) nm):=hr;clear hr hs hc;go_wp2;go_ret;exact ⟨by rw [← HR.out]; rfl,hbx⟩
set_option maxRecDepth 100000 in
theorem wZ (ad adA:Option Addr) (cap capA:Nat) (rs:List TR) (b n:Nat) (M:ByteArray × ByteArray→Option Value) (xs:List Al) (w:World) (hlen:rs.length≤1048576) (hs:fo w ad rs) (hV:aD bz prog 172 w b n M) (hT:Tab rs M) (hla:xs.length≤1048576) (hsa:gu w adA xs) (hfa:∀ a ∈ xs,a.fits) :
  Calls prog 164 #[.slice ad rs.length cap,.map (some b),.slice adA xs.length capA] w fun e w'=>e=.returned (.bool (mM (af rs) xs))∧Below w.heap.size w w':=by
 have HS:Hid (fo w ad rs):=hs;have HV:Hid (aD bz prog 172 w b n M):=hV;have HT:Hid (Tab rs M):=hT;have HA:Hid (gu w adA xs):=hsa;have HFA:Hid (∀ a ∈ xs,a.fits):=hfa;clear hs hV hT hsa hfa;go_enter func164,ntmps164;go_wp2_with fail;go_loopw [11] (fun i wr=>∃ k:Nat,k≤xs.length∧i=.int .i64 k∧Hid (kL (af rs) xs k=true)∧Hid (Below w.heap.size w wr)) (fun i _=>xs.length - (intOf i).toNat);case atStart=>exact ⟨0,Nat.zero_le _,rfl,wM _ _,Below.refl _ _⟩
 case round =>
  obtain ⟨k,hk,rfl,HP,HB⟩:=hrel;by_cases hlt:k < xs.length
  ·rcases HA.out.below HB.out with rfl | ⟨ba,offa,rfl,hba,hra⟩
   ·simp at hlt
   obtain ⟨t0,t1⟩:=hra k hlt;have hk1:=bq k;have hk2:(k:Int) < (xs.length:Int):=by omega
   have zA:=HFA.out _ (List.getElem_mem hlt);have z1:xs[k].t.size≤maxLen:=zA.1;have z2:xs[k].s.size≤maxLen:=zA.2;have HI:Hid ((M (xs[k].t,xs[k].s)).isSome=!(aG (af rs) xs[k].t xs[k].s).isEmpty):=HT.out.some_iff (xs[k].t,xs[k].s);obtain ⟨W1,hW1⟩:∃ W1,W1=wr.alloc (.cells #[.string xs[k].t,.string xs[k].s] 204):=⟨_,rfl⟩;have hal:Below wr.heap.size wr W1:=by rw [hW1]; exact (Below.refl _ _).alloc (Nat.le_refl _) _
   have HBW:=fD HB hal;have g0:W1.cell? ⟨wr.heap.size,0,none⟩=some (.string xs[k].t):=by rw [hW1]; simp
   have g1:W1.cell? ⟨wr.heap.size,1,none⟩=some (.string xs[k].s):=by rw [hW1]; simp
   have hgl:wr.heap.size < W1.heap.size:=by rw [hW1]; simp
   clear hra hal zA;go_wp2_with fail;rw [← hW1];clear hW1 t0 t1;refine (qQ ad cap rs wr.heap.size xs[k].t _ hlen (HS.out.below HBW.out) hgl g0).mono ?_;rintro e w2 ⟨rfl,hb2⟩;have HB2:=fD HBW hb2;replace g0:=ah hb2 hgl g0;replace g1:=ah hb2 hgl g1;have HV2:Hid (aD bz prog 172 w2 b n M):=HV.out.below HB2.out;clear hb2 hgl;cases ht:jC (af rs) xs[k].t with
   | false =>
    have HN:Hid (mM (af rs) xs=false):=qM _ _ k hlt (by simp [ma,ht]);go_wp2;go_ret;exact ⟨by rw [HN.out]; rfl,HB2.out⟩
   | true =>
    cases he:xs[k].s.toList.isEmpty with
    | true =>
     have HP2:Hid (kL (af rs) xs (k + 1)=true):=by show _=_; rw [lH _ _ _ hlt,HP.out]; simp [ma,ht,he]
     go_wp2;go_roundw;case rel=>exact ⟨k + 1,by omega,by go_num,HP2,HB2⟩
     case measure=>simp [intOf] <;> omega
    | false =>
     cases hz:(M (xs[k].t,xs[k].s)).isSome with
     | false =>
      have HN:Hid (mM (af rs) xs=false):=qM _ _ k hlt (by have:=HI.out; rw [hz] at this; simp [ma,ht,he]; simpa using this.symm);go_wp2_with (go_at_call 165; refine (uX b n M xs[k].t xs[k].s _ z1 z2 HV2.out).mono ?_; rintro e w' ⟨he2,rfl⟩; rw [hz] at he2; subst he2);go_ret;exact ⟨by rw [HN.out]; rfl,HB2.out⟩
     | true =>
      have HP2:Hid (kL (af rs) xs (k + 1)=true):=by show _=_; rw [lH _ _ _ hlt,HP.out]; have:=HI.out; rw [hz] at this; simp [ma,ht,he]; simpa using this.symm
      go_wp2_with (go_at_call 165; refine (uX b n M xs[k].t xs[k].s _ z1 z2 HV2.out).mono ?_; rintro e w' ⟨he2,rfl⟩; rw [hz] at he2; subst he2);go_roundw;case rel=>exact ⟨k + 1,by omega,by go_num,HP2,HB2⟩
      case measure=>simp [intOf] <;> omega
  ·have HN:Hid (mM (af rs) xs=true):=by
    have:=HP.out;obtain rfl:k=xs.length:=by omega
    unfold kL at this;rw [List.take_length] at this;exact this
   go_wp2;go_ret;exact ⟨by rw [HN.out]; rfl,HB.out⟩
theorem pX {e:Ex} (h:ax e=true) (h1:e.kind ≠ 1):e.allow=[]:=by
 unfold ax at h;rw [if_neg h1] at h;split at h
 ·simp only [Bool.and_eq_true,decide_eq_true_eq] at h; exact List.length_eq_zero_iff.1 h.1.1.2
 split at h
 ·simp only [Bool.and_eq_true,decide_eq_true_eq] at h; exact List.length_eq_zero_iff.1 h.1.2
 split at h
 ·simp only [Bool.and_eq_true,decide_eq_true_eq] at h; exact List.length_eq_zero_iff.1 h.1.1.2
 split at h
 ·simp only [Bool.and_eq_true,decide_eq_true_eq] at h; exact List.length_eq_zero_iff.1 h.1.1.2
 ·cases h
theorem EM (ts:List Ty) (typ:ByteArray) (rows:List ER) (k:Nat) (h:k < rows.length):aK ts typ (ag (rows.drop k))=if mM ts rows[k].e.allow && kz ts typ rows[k].e then aK ts typ (ag (rows.drop (k + 1))) else false:=by
 rw [eX _ _ h]; rfl
theorem CK (ts:List Ty) (typ:ByteArray) (e:Ex) (h:e.kind=3):kz ts typ e=!(eP ts typ e.over e.name).isEmpty:=by
 unfold kz eP;rw [if_neg (by omega),if_pos h];cases aV (aG ts typ e.over) <;> simp
set_option maxRecDepth 100000 in
theorem xe (ad adE:Option Addr) (cap capE:Nat) (rs:List TR) (b n:Nat) (M:ByteArray × ByteArray→Option Value) (typ:ByteArray) (rows:List ER) (w:World) (hlen:rs.length≤1048576) (hs:fo w ad rs) (hl:∀ r ∈ rs,r.light) (hf:∀ r ∈ rs,r.fits) (hV:aD bz prog 172 w b n M) (hT:Tab rs M) (ht:typ.size≤maxLen) (hle:rows.length≤1048576) (hse:dZ w adE rows) (hlE:∀ q ∈ rows,q.e.light) (hfE:∀ q ∈ rows,q.e.fits) (hnb:∀ q ∈ rows,ax q.e=true) :
  Calls prog 125 #[.slice ad rs.length cap,.map (some b),.string typ,.slice adE rows.length capE] w fun e w'=>e=.returned (.bool (aK (af rs) typ (ag rows)))∧Below w.heap.size w w':=by
 have HS:Hid (fo w ad rs):=hs;have HL:Hid (∀ r ∈ rs,r.light):=hl;have HFT:Hid (∀ r ∈ rs,r.fits):=hf;have HV:Hid (aD bz prog 172 w b n M):=hV;have HT:Hid (Tab rs M):=hT;have HE:Hid (dZ w adE rows):=hse;have HLE:Hid (∀ q ∈ rows,q.e.light):=hlE;have HFE:Hid (∀ q ∈ rows,q.e.fits):=hfE;have HNB:Hid (∀ q ∈ rows,ax q.e=true):=hnb;clear hs hl hf hV hT hse hlE hfE hnb;go_enter func125,ntmps125;go_wp2_with fail;go_loopw [13] (fun i wr=>∃ k:Nat,k≤rows.length∧i=.int .i64 k∧Hid (aK (af rs) typ (ag (rows.drop k))=aK (af rs) typ (ag rows))∧Hid (Below w.heap.size w wr)) (fun i _=>rows.length - (intOf i).toNat);case atStart=>exact ⟨0,Nat.zero_le _,rfl,rfl,Below.refl _ _⟩
 case round =>
  obtain ⟨k,hk,rfl,HP,HB⟩:=hrel;by_cases hlt:k < rows.length
  ·rcases HE.out.below HB.out with rfl | ⟨bE,offE,rfl,hbE,hrE,hokE⟩
   ·simp at hlt
   obtain ⟨t0,t1,t2,t3,t4⟩:=hrE k hlt;have HOKW:Hid (rows[k].ok w):=HE.out.mem (List.getElem_mem hlt);have hk1:=bq k;have hk2:(k:Int) < (rows.length:Int):=by omega
   have lgA:rows[k].e.allow.length≤1048576:=(HLE.out _ (List.getElem_mem hlt)).1;have HFK:Hid (rows[k].e.fits):=HFE.out _ (List.getElem_mem hlt);have HNK:Hid (ax rows[k].e=true):=HNB.out _ (List.getElem_mem hlt);have HDR:=EM (af rs) typ rows k hlt;have HD:Hid (aK (af rs) typ (ag rows)=if mM (af rs) rows[k].e.allow && kz (af rs) typ rows[k].e then aK (af rs) typ (ag (rows.drop (k + 1))) else false):=by show _=_; rw [← HP.out]; exact HDR
   obtain ⟨W1,hW1⟩:∃ W1,W1=wr.alloc (.cells #[.int .i64 rows[k].e.kind,.slice rows[k].adA rows[k].e.allow.length rows[k].capA,.string rows[k].e.over,.string rows[k].e.name,.slice rows[k].adK rows[k].e.kids.length rows[k].capK] 190):=⟨_,rfl⟩;have hal:Below wr.heap.size wr W1:=by rw [hW1]; exact (Below.refl _ _).alloc (Nat.le_refl _) _
   have HBW:=fD HB hal;have HVW:Hid (aD bz prog 172 W1 b n M):=HV.out.below HBW.out;have zO:rows[k].e.over.size≤maxLen:=HFK.out.2.1;have zN:rows[k].e.name.size≤maxLen:=HFK.out.2.2.1;clear hrE hokE hal HDR;by_cases h1:rows[k].e.kind=1
   ·have HRN:Hid (kz (af rs) typ rows[k].e=true):=by show _=_; unfold kz; rw [if_neg (by omega),if_neg (by omega)]
    have hq1:(rows[k].e.kind == 1)=true:=by simpa using h1
    replace h1:Hid (rows[k].e.kind=1):=h1;go_wp2_with fail;rw [← hW1];refine (wZ ad rows[k].adA cap rows[k].capA rs b n M rows[k].e.allow _ hlen (HS.out.below HBW.out) HVW.out HT.out lgA (HOKW.out.1.below HBW.out) HFK.out.1).mono ?_;rintro e w2 ⟨rfl,hb2⟩;have HB2:=fD HBW hb2;clear hb2 hW1 t0 t1 t2 t3 t4;cases hz:mM (af rs) rows[k].e.allow with
    | false =>
     have HN:Hid (aK (af rs) typ (ag rows)=false):=by show _=_; rw [HD.out,hz]; rfl
     go_wp2;go_ret;exact ⟨by rw [HN.out]; rfl,HB2.out⟩
    | true =>
     have HP2:Hid (aK (af rs) typ (ag (rows.drop (k + 1)))=aK (af rs) typ (ag rows)):=by show _=_; rw [HD.out,hz,HRN.out]; rfl
     go_wp2;go_roundw;case rel=>exact ⟨k + 1,by omega,by go_num,HP2,HB2⟩
     case measure=>simp [intOf] <;> omega
   have hq1:(rows[k].e.kind == 1)=false:=by simpa using h1
   have HRA:Hid (mM (af rs) rows[k].e.allow=true):=by show _=_; rw [pX HNK.out h1]; rfl
   by_cases h2:rows[k].e.kind=2
   ·have hq2:(rows[k].e.kind == 2)=true:=by simpa using h2
    have HI:=HT.out.some_iff (typ,rows[k].e.name);have HRN:Hid (kz (af rs) typ rows[k].e=(M (typ,rows[k].e.name)).isSome):=by show _=_; unfold kz; rw [if_pos h2,HI]
    clear HI;replace h2:Hid (rows[k].e.kind=2):=h2;go_wp2_with fail;rw [← hW1];refine (uX b n M typ rows[k].e.name _ ht zN HVW.out).mono ?_;rintro e w2 ⟨rfl,hw2⟩;rw [hw2];clear hw2 w2 hW1 t0 t1 t2 t3 t4;cases hz:(M (typ,rows[k].e.name)).isSome with
    | false =>
     have HN:Hid (aK (af rs) typ (ag rows)=false):=by show _=_; rw [HD.out,HRN.out,hz,HRA.out]; rfl
     go_wp2;go_ret;exact ⟨by rw [HN.out]; rfl,HBW.out⟩
    | true =>
     have HP2:Hid (aK (af rs) typ (ag (rows.drop (k + 1)))=aK (af rs) typ (ag rows)):=by show _=_; rw [HD.out,HRN.out,hz,HRA.out]; rfl
     go_wp2;go_roundw;case rel=>exact ⟨k + 1,by omega,by go_num,HP2,HBW⟩
     case measure=>simp [intOf] <;> omega
   have hq2:(rows[k].e.kind == 2)=false:=by simpa using h2
   by_cases h3:rows[k].e.kind=3
   ·have hq3:(rows[k].e.kind == 3)=true:=by simpa using h3
    have HRN:Hid (kz (af rs) typ rows[k].e=!(eP (af rs) typ rows[k].e.over rows[k].e.name).isEmpty):=CK _ _ _ h3;replace h3:Hid (rows[k].e.kind=3):=h3;go_wp2_with fail;rw [← hW1];refine (uj b n rs ad M typ rows[k] _ HVW.out HT.out (HS.out.below HBW.out) HL.out HFT.out ht zO zN).mono ?_;rintro e w2 ⟨⟨ad',cap',rfl,-,-⟩,hb2⟩;have HB2:=fD HBW hb2;clear hb2 hW1 t0 t1 t2 t3 t4;generalize eP (af rs) typ rows[k].e.over rows[k].e.name=gs at HRN ⊢;cases gs with
    | nil =>
     have HN:Hid (aK (af rs) typ (ag rows)=false):=by show _=_; rw [HD.out,HRN.out,HRA.out]; rfl
     go_wp2;go_ret;exact ⟨by rw [HN.out]; rfl,HB2.out⟩
    | cons g gs =>
     have HP2:Hid (aK (af rs) typ (ag (rows.drop (k + 1)))=aK (af rs) typ (ag rows)):=by show _=_; rw [HD.out,HRN.out,HRA.out]; rfl
     have hlz:(((g::gs).length:Int) == 0)=false:=by
      have:¬ (((g::gs).length:Int)=0):=by simp; omega
      simpa using this
     obtain ⟨ln,hln⟩:∃ ln,ln=(g::gs).length:=⟨_,rfl⟩;rw [← hln] at hlz ⊢;clear hln;go_wp2;go_roundw;case rel=>exact ⟨k + 1,by omega,by go_num,HP2,HB2⟩
     case measure=>simp [intOf] <;> omega
   ·have hq3:(rows[k].e.kind == 3)=false:=by simpa using h3
    have HRN:Hid (kz (af rs) typ rows[k].e=true):=by show _=_; unfold kz; rw [if_neg h2,if_neg h3]
    have HP2:Hid (aK (af rs) typ (ag (rows.drop (k + 1)))=aK (af rs) typ (ag rows)):=by show _=_; rw [HD.out,HRN.out,HRA.out]; rfl
    have HBX:Hid (Below w.heap.size w (wr.alloc (.cells #[.int .i64 rows[k].e.kind,.slice rows[k].adA rows[k].e.allow.length rows[k].capA,.string rows[k].e.over,.string rows[k].e.name,.slice rows[k].adK rows[k].e.kids.length rows[k].capK] 190))):=by rw [← hW1]; exact HBW
    clear hW1;go_wp2;go_roundw;case rel=>exact ⟨k + 1,by omega,by go_num,HP2,HBX⟩
    case measure=>simp [intOf] <;> omega
  ·have HN:Hid (aK (af rs) typ (ag rows)=true):=by show _=_; rw [← HP.out,List.drop_of_length_le (by omega)]; rfl
   go_wp2;go_ret;exact ⟨by rw [HN.out]; rfl,HB.out⟩
end Go.Proofs.YtdmniljjnaebbaaGreatDoor
