/- Contract of the program's look whether a tuple fits its table. -/
import Derived.Test.YteoflgocljfgeaaGreatDoorJ24
import Derived.WideKeyEntry
open Go.Proofs.Tryz
set_option maxHeartbeats 80000000
namespace Go.Proofs.YteoflgocljfgeaaGreatDoor
open Go.ChangeShapes Go.WideShapes Go.ChangeAt Go.RowKit Go.Maps
open Pl
def kW (a:Al) (e:Ex):Bool:=decide (e.kind=1) && dz e.allow e.allow.length a
def ou (ts:List Ty) (ty rel:ByteArray) (a:Al):Bool:=(aN ts ty rel).any (kW a)
theorem fit_drop (a:Al) (rows:List ER) (k:Nat) (h:k < rows.length):(au (rows.drop k)).any (kW a)=(kW a rows[k].e || (au (rows.drop (k + 1))).any (kW a)):=by
 rw [eU _ _ h]; rfl
set_option maxRecDepth 100000 in
theorem xJ (b n:Nat) (rs:List TR) (ad:Option Addr) (M:ByteArray × ByteArray→Option Value) (oa ob r c d s:ByteArray) (w:World) (hV:aJ bI prog 147 w b n M) (hT:Tab rs M) (hs:gp w ad rs) (hl:∀ r ∈ rs,r.light) (ho:oa.size≤maxLen) (hr:r.size≤maxLen) :
  Calls prog 42 #[.map (some b),.agg #[.string oa,.string ob,.string r,.string c,.string d,.string s]] w fun e w'=>e=.returned (.bool (ou (ah rs) oa r ⟨c,s⟩))∧Below w.heap.size w w':=by
 have HT:Hid (Tab rs M):=hT;have HS:Hid (gp w ad rs):=hs;have HL:Hid (∀ r ∈ rs,r.light):=hl;obtain ⟨kl,hkl⟩:=jo (oa,r) ho hr;have HKL:Hid (keyOf prog 147 (bI (oa,r))=some kl):=hkl;obtain ⟨W0,hW0⟩:∃ W0,W0=(w.alloc (.cells #[.string oa,.string ob,.string r,.string c,.string d,.string s] 41)).alloc (.cells #[.string c,.string s] 149):=⟨_,rfl⟩;have hal:Below w.heap.size w W0:=by
  rw [hW0]
  repeat (first | exact Below.refl _ _ | refine Below.alloc ?_ (by first | (simp; done) | (simp; omega)) _)
 have HB0:Hid (Below w.heap.size w W0):=hal;have HV0:Hid (aJ bI prog 147 W0 b n M):=hV.below hal;have HC0:Hid (W0.cell? ⟨w.heap.size + 1,0,none⟩=some (.string c)∧W0.cell? ⟨w.heap.size + 1,1,none⟩=some (.string s)∧w.heap.size + 1 < W0.heap.size):=⟨by rw [hW0]; simp,by rw [hW0]; simp,by rw [hW0]; simp⟩;obtain ⟨rows,adE,capE,HM,HE,HF⟩:∃ (rows:List ER) (adE:Option Addr) (capE:Nat),Hid ((M (oa,r)).getD (.slice none 0 0)=.slice adE rows.length capE)∧Hid (au rows=aN (ah rs) oa r)∧Hid (pV rs adE rows):=by
  cases e:M (oa,r) with
  | none=>exact ⟨[],none,0,rfl,by show _=_; unfold aN; rw [HT.out.no _ e]; rfl,.inl rfl⟩
  | some v =>
   obtain ⟨t,htm,q,hq,-,rfl,e1,-⟩:=HT.out.yes _ v e;exact ⟨q.rows,q.ad,q.cap,rfl,by show _=_; unfold aN; rw [e1]; rfl,.inr ⟨t,htm,q,hq,rfl,rfl⟩⟩
 have HLE:=HF.out.light HL.out;have HLE1:rows.length≤1048576:=HLE.1;have HLE2:Hid (∀ q ∈ rows,q.e.light):=HLE.2;have HSE:Hid (kX w adE rows):=HF.out.sl HS.out;clear hV hT hs hl hkl hal HLE;go_enter func42,ntmps42;go_wp2_with (at_lookup; rw [← hW0]; refine il _ rfl _ _ 88 rfl 147 124 iq underlying88 (sV _) b n M rfl HV0.out (oa,r) kl rfl HKL.out ?_; rw [HM.out]; clear hW0);go_loopw [23] (fun i wr=>∃ k:Nat,k≤rows.length∧i=.int .i64 k∧Hid ((au (rows.drop k)).any (kW ⟨c,s⟩)=(au rows).any (kW ⟨c,s⟩))∧Hid (Below w.heap.size w wr)∧Hid (wr.cell? ⟨w.heap.size + 1,0,none⟩=some (.string c)∧wr.cell? ⟨w.heap.size + 1,1,none⟩=some (.string s)∧w.heap.size + 1 < wr.heap.size)) (fun i _=>rows.length - (intOf i).toNat);case atStart=>exact ⟨0,Nat.zero_le _,rfl,rfl,HB0,HC0⟩
 case round =>
  clear HB0 HC0 HV0;obtain ⟨k,hk,rfl,HP,HB,HC⟩:=hrel;by_cases hlt:k < rows.length
  ·rcases HSE.out.below HB.out with hnil | ⟨bE,offE,hadE,hbE,hrE,hok⟩
   ·rw [hnil] at hlt; simp at hlt
   obtain ⟨t0,t1,t2,t3,t4⟩:=hrE k hlt;have HOK:Hid (rows[k].ok wr):=hok _ (List.getElem_mem hlt);have lgA:rows[k].e.allow.length≤1048576:=(HLE2.out _ (List.getElem_mem hlt)).1;have hk1:=bR k;have hk2:(k:Int) < (rows.length:Int):=by omega
   obtain ⟨x0,x1,x2⟩:=HC.out;have HD:Hid ((au rows).any (kW ⟨c,s⟩)=(kW ⟨c,s⟩ rows[k].e || (au (rows.drop (k + 1))).any (kW ⟨c,s⟩))):=by show _=_; rw [← HP.out]; exact fit_drop _ _ _ hlt
   obtain ⟨W1,hW1⟩:∃ W1,W1=wr.alloc (.cells #[.int .i64 rows[k].e.kind,.slice rows[k].adA rows[k].e.allow.length rows[k].capA,.string rows[k].e.over,.string rows[k].e.name,.slice rows[k].adK rows[k].e.kids.length rows[k].capK] 139):=⟨_,rfl⟩;have hal:Below wr.heap.size wr W1:=by rw [hW1]; exact (Below.refl _ _).alloc (Nat.le_refl _) _
   have HB1:=gW HB hal;have HC1:Hid (W1.cell? ⟨w.heap.size + 1,0,none⟩=some (.string c)∧W1.cell? ⟨w.heap.size + 1,1,none⟩=some (.string s)∧w.heap.size + 1 < W1.heap.size):=⟨ak hal x2 x0,ak hal x2 x1,Nat.lt_of_lt_of_le x2 hal.size⟩;have HA1:Hid (kF W1 rows[k].adA rows[k].e.allow):=HOK.out.1.below hal;rw [hadE];clear hrE hok hal HC;by_cases h1:rows[k].e.kind=1
   ·have hq1:(rows[k].e.kind == 1)=true:=by simpa using h1
    have HFE:Hid (kW ⟨c,s⟩ rows[k].e=dz rows[k].e.allow rows[k].e.allow.length ⟨c,s⟩):=by show _=_; unfold kW; simp [h1]
    replace h1:Hid (rows[k].e.kind=1):=h1;go_wp2_with fail;rw [← hW1];refine (rR rows[k].adA rows[k].e.allow.length rows[k].capA rows[k].e.allow ⟨c,s⟩ _ (Nat.le_refl _) lgA HA1.out).mono ?_;rintro e w2 ⟨rfl,hb2⟩;have HB2:=gW HB1 hb2;have HC2:Hid (w2.cell? ⟨w.heap.size + 1,0,none⟩=some (.string c)∧w2.cell? ⟨w.heap.size + 1,1,none⟩=some (.string s)∧w.heap.size + 1 < w2.heap.size):=⟨ak hb2 HC1.out.2.2 HC1.out.1,ak hb2 HC1.out.2.2 HC1.out.2.1,Nat.lt_of_lt_of_le HC1.out.2.2 hb2.size⟩;clear hb2 hW1 t0 t1 t2 t3 t4 x0 x1;cases hz:dz rows[k].e.allow rows[k].e.allow.length ⟨c,s⟩ with
    | true =>
     have HN:Hid (ou (ah rs) oa r ⟨c,s⟩=true):=by show _=_; unfold ou; rw [← HE.out,HD.out,HFE.out,hz]; rfl
     go_wp2;go_ret;exact ⟨by rw [HN.out]; rfl,HB2.out⟩
    | false =>
     have HP2:Hid ((au (rows.drop (k + 1))).any (kW ⟨c,s⟩)=(au rows).any (kW ⟨c,s⟩)):=by show _=_; rw [HD.out,HFE.out,hz]; rfl
     go_wp2;go_roundw;case rel=>exact ⟨k + 1,by omega,by go_num,HP2,HB2,HC2⟩
     case measure=>simp [intOf] <;> omega
   ·have hq1:(rows[k].e.kind == 1)=false:=by simpa using h1
    have HP2:Hid ((au (rows.drop (k + 1))).any (kW ⟨c,s⟩)=(au rows).any (kW ⟨c,s⟩)):=by show _=_; rw [HD.out]; simp [kW,h1]
    have HBX:Hid (Below w.heap.size w (wr.alloc (.cells #[.int .i64 rows[k].e.kind,.slice rows[k].adA rows[k].e.allow.length rows[k].capA,.string rows[k].e.over,.string rows[k].e.name,.slice rows[k].adK rows[k].e.kids.length rows[k].capK] 139))):=by rw [← hW1]; exact HB1
    have HCX:Hid ((wr.alloc (.cells #[.int .i64 rows[k].e.kind,.slice rows[k].adA rows[k].e.allow.length rows[k].capA,.string rows[k].e.over,.string rows[k].e.name,.slice rows[k].adK rows[k].e.kids.length rows[k].capK] 139)).cell? ⟨w.heap.size + 1,0,none⟩=some (.string c)∧(wr.alloc (.cells #[.int .i64 rows[k].e.kind,.slice rows[k].adA rows[k].e.allow.length rows[k].capA,.string rows[k].e.over,.string rows[k].e.name,.slice rows[k].adK rows[k].e.kids.length rows[k].capK] 139)).cell? ⟨w.heap.size + 1,1,none⟩=some (.string s)∧w.heap.size + 1 < (wr.alloc (.cells #[.int .i64 rows[k].e.kind,.slice rows[k].adA rows[k].e.allow.length rows[k].capA,.string rows[k].e.over,.string rows[k].e.name,.slice rows[k].adK rows[k].e.kids.length rows[k].capK] 139)).heap.size):=by rw [← hW1]; exact HC1
    clear hW1;go_wp2;go_roundw;case rel=>exact ⟨k + 1,by omega,by go_num,HP2,HBX,HCX⟩
    case measure=>simp [intOf] <;> omega
  ·have HN:Hid (ou (ah rs) oa r ⟨c,s⟩=false):=by show _=_; unfold ou; rw [← HE.out,← HP.out,List.drop_of_length_le (by omega)]; rfl
   go_wp2;go_ret;exact ⟨by rw [HN.out]; rfl,HB.out⟩
open Go.ChangeMaps (setBlock heap_setBlock_same heap_setBlock_other)
section
variable {K:Type} {enc:K→Value} {P:Program} {k:TypeId} {w:World} {b n:Nat} {M:K→Option Value}
theorem aJ.of_block {w':World} (h:aJ enc P k w b n M) (e:w'.heap[b]?=w.heap[b]?):aJ enc P k w' b n M:=by
 obtain ⟨D,⟨es,clock,hb,r⟩,h2⟩:=h;exact ⟨D,⟨es,clock,e.trans hb,r⟩,h2⟩
theorem ow {w:World} {b:Nat} {es es':Array MapEntry} {c c':Nat} (hb:w.heap[b]?=some (.map es c)):w.grownBy (setBlock w b (.map es' c')) (some b) :=
 ⟨rfl,rfl,rfl,by simp [setBlock],fun i _ hi=>heap_setBlock_other hb _ (fun e=>hi (by rw [e]))⟩
theorem aJ.entry [DecidableEq K] {t e:TypeId} (h:aJ enc P k w b n M) (L:WideMaps.KeyLaw P k) (hinj:∀ x y,enc x=enc y→x=y) (ht:P.underlying t=some (.map k e)) {z:Value} (hz:∀ u:World,(zeroValue e).run P u=.ok z u) (hn:n < maxLen) {x:K} {kl:Lit} (hkey:keyOf P k (enc x)=some kl) :
  ∃ (st:Nat) (w1:World),(Instr.mapEntry t (.map (some b)) (enc x)).run P w=.ok (.tuple #[(M x).getD z,goInt st]) w1∧w.grownBy w1 (some b) ∧
   ∀ (w2:World) (val:Value),w2.heap[b]?=w1.heap[b]?→∃ w3,(Instr.entryStore t (.map (some b)) (goInt st) val).run P w2=.ok () w3∧aJ enc P k w3 b (n + 1) (kD M x (some val))∧w2.grownBy w3 (some b):=by
 have LK:=Keyed.of_law L;have hlook:=h.look LK ht (hz w) hkey;have hst:=fun v=>h.store LK hinj ht hn hkey v;obtain ⟨D,⟨es,clock,hb,F,hs,hD⟩,h2⟩:=h;obtain ⟨v0,st,es1,clock1,hrun,hv0,hback⟩:=WideElems.entry_then_store L ht hz hb F hkey;have hb1:(setBlock w b (.map es1 clock1)).heap[b]?=some (.map es1 clock1):=heap_setBlock_same hb _;have ev:v0=(M x).getD z:=by
  have hl:=hlook;rcases Maps.fit_look false LK ht (hz w) hb F hkey with ⟨hrun2,hno,-⟩ | ⟨e0,y,hmem,hek,hrun2,-,-,-⟩
  ·rw [hl] at hrun2;injection hrun2 with e1;rcases hv0 with ⟨e0,hm,hk0,-⟩ | ⟨-,hz0⟩
   ·exact absurd hk0 (hno e0 hm)
   ·rw [hz0,e1]; rfl
  ·rw [hl] at hrun2;injection hrun2 with e1;rcases hv0 with ⟨e1',hm,hk0,hv⟩ | ⟨hno,-⟩
   ·have hnd:=F.stamped.2.2;have:e1'=e0:=by
     have h3:e1'.key=e0.key:=by rw [hk0,hek]
     obtain ⟨i,hi,hie⟩:=List.mem_iff_getElem.1 hm;obtain ⟨j,hj,hje⟩:=List.mem_iff_getElem.1 hmem;have h4:(es.toList.map (·.key))[i]'(by simpa using hi)=(es.toList.map (·.key))[j]'(by simpa using hj):=by simp only [List.getElem_map,hie,hje]; exact h3
     have h6:=List.pairwise_iff_getElem.1 hnd;have h5:i=j:=by
      rcases Nat.lt_trichotomy i j with hl | hl | hl
      ·exact absurd h4 (h6 i j _ _ hl)
      ·exact hl
      ·exact absurd h4.symm (h6 j i _ _ hl)
     subst h5;rw [← hie,← hje]
    rw [hv,this,e1]; rfl
   ·exact absurd hek (hno e0 hmem)
 refine ⟨st,_,by rw [hrun,ev],ow hb,fun w2 val hw2=>?_⟩;have hw2':w2.heap[b]?=some (.map es1 clock1):=hw2.trans hb1;obtain ⟨es',clock',hr1,hr2⟩:=hback w2 val hw2';obtain ⟨w',hr3,hM',-⟩:=hst val;rw [hr2] at hr3;injection hr3 with _ e3;refine ⟨_,hr1,hM'.of_block ?_,ow hw2'⟩;rw [← e3,heap_setBlock_same hb,heap_setBlock_same hw2']
end
section
variable {K:Type} {enc:K→Value} {P:Program} (w:World) {ops:Array Oper} {rest:List Oper} {o:Oper} {a:Act} {Q:Exit→Act→World→Prop}
theorem qj [DecidableEq K] (hg:o.guard=none) (m x:Operand) (t:TypeId) (hop:o.op=Op.mapEntry t m x) (k e:TypeId) (L:WideMaps.KeyLaw P k) (hinj:∀ x y,enc x=enc y→x=y) (ht:P.underlying t=some (.map k e)) {z:Value} (hz:∀ u:World,(zeroValue e).run P u=.ok z u) (b n:Nat) (M:K→Option Value)
  (hm:a.eval m=.map (some b)) (hV:aJ enc P k w b n M) (hn:n < maxLen) (y:K) (kl:Lit) (hx:a.eval x=enc y) (hkey:keyOf P k (enc y)=some kl)
  (hK:∀ (st:Nat) (w1:World),w.grownBy w1 (some b)→(∀ (w2:World) (val:Value),w2.heap[b]?=w1.heap[b]?→∃ w3,(Instr.entryStore t (.map (some b)) (goInt st) val).run P w2=.ok () w3∧aJ enc P k w3 b (n + 1) (kD M y (some val))∧w2.grownBy w3 (some b)) →
   wpList P ops Q rest (a.put o.dst (.tuple #[(M y).getD z,goInt st])) w1):wpList P ops Q (o::rest) a w:=by
 refine wpList_plain hg fun K' hK'=>?_;obtain ⟨st,w1,hrun,h1,h2⟩:=hV.entry L hinj ht hz hn hkey;unfold Oper.wp;simp [execOp,hop,hm,hx,hrun,Result.andThen];exact hK' _ _ (hK st w1 h1 h2)
theorem kr (hg:o.guard=none) (m s v:Operand) (t:TypeId) (hop:o.op=Op.entryStore t m s v) (b st:Nat) (hm:a.eval m=.map (some b)) (hs:a.eval s=goInt st) (u:Value) (hv:a.eval v=u) (k:TypeId) (n:Nat) (M:K→Option Value)
  (hback:∃ w3,(Instr.entryStore t (.map (some b)) (goInt st) u).run P w=.ok () w3∧aJ enc P k w3 b n M∧w.grownBy w3 (some b))
  (hK:∀ w',aJ enc P k w' b n M→w.grownBy w' (some b)→wpList P ops Q rest (a.put o.dst undef) w'):wpList P ops Q (o::rest) a w:=by
 refine wpList_plain hg fun K' hK'=>?_;obtain ⟨w3,hrun,h1,h2⟩:=hback;unfold Oper.wp;simp [execOp,hop,hm,hs,hv,hrun,Result.andThen];exact hK' _ _ (hK w3 h1 h2)
end
theorem xK (t:TR) (g:Nat) (nm:ByteArray) (w:World) (hg:g < w.heap.size) (hc:w.cell? ⟨g,0,none⟩=some (.string nm)) :
  Calls prog 156 #[.agg #[.string t.name,.slice t.ad t.rows.length t.cap],.pointer (some ⟨g,0,none⟩)] w fun e w'=>e=.returned (.bool (t.name.toList == nm.toList))∧Below w.heap.size w w':=by
 go_enter func156,ntmps156;go_wp2;go_ret;exact ⟨rfl,(Below.refl _ _).alloc (Nat.le_refl _) _⟩
theorem zF (rs:List TR) (k:Nat) (h:k < rs.length) (nm:ByteArray):jN (ah (rs.drop k)) nm=((rs[k].name.toList == nm.toList) || jN (ah (rs.drop (k + 1))) nm):=by
 rw [ll _ _ h]; rfl
theorem xL (ad:Option Addr) (cap:Nat) (rs:List TR) (g:Nat) (nm:ByteArray) (w:World) (hlen:rs.length≤1048576) (hs:gp w ad rs) (hg:g < w.heap.size) (hc:w.cell? ⟨g,0,none⟩=some (.string nm)) :
  Calls prog 174 #[.slice ad rs.length cap,.func (Fn.func 156) #[] #[.pointer (some ⟨g,0,none⟩)]] w fun e w'=>(∃ r:Int,e=.returned (.int .i64 r)∧decide (0≤r)=jN (ah rs) nm)∧Below w.heap.size w w':=by
 have HS:Hid (gp w ad rs):=hs;have HC:Hid (w.cell? ⟨g,0,none⟩=some (.string nm)):=hc;clear hs hc;go_enter func174,ntmps174;go_wp2_with fail;go_loopw [8] (fun i wr=>∃ k:Nat,k≤rs.length∧i=.int .i64 k∧Hid (jN (ah (rs.drop k)) nm=jN (ah rs) nm)∧Hid (Below w.heap.size w wr)) (fun i _=>rs.length - (intOf i).toNat);case atStart=>exact ⟨0,Nat.zero_le _,rfl,rfl,Below.refl _ _⟩
 case round =>
  obtain ⟨k,hk,rfl,HP,HB⟩:=hrel;by_cases hlt:k < rs.length
  ·rcases HS.out.below HB.out with rfl | ⟨b,off,rfl,hb,hr,-⟩
   ·simp at hlt
   obtain ⟨t0,t1⟩:=hr k hlt;have hk1:=bR k;have hk2:(k:Int) < (rs.length:Int):=by omega
   have HCW:Hid (wr.cell? ⟨g,0,none⟩=some (.string nm)):=ak HB.out hg HC.out;have HGW:Hid (g < wr.heap.size):=Nat.lt_of_lt_of_le hg HB.out.size;clear hr;cases he:(rs[k].name.toList == nm.toList) with
   | true =>
    have HN:Hid (jN (ah rs) nm=true):=by show _=_; rw [← HP.out,zF _ _ hlt,he]; rfl
    go_wp2_with (go_at_call 156; refine (xK rs[k] g nm _ HGW.out HCW.out).mono ?_; rintro e w' ⟨he2,hbx⟩; rw [he] at he2; subst he2);go_ret;exact ⟨⟨k,rfl,by rw [HN.out]; simp⟩,HB.out.trans (hbx.mono HB.out.size)⟩
   | false =>
    have HP2:Hid (jN (ah (rs.drop (k + 1))) nm=jN (ah rs) nm):=by show _=_; rw [← HP.out,zF _ _ hlt,he]; rfl
    go_wp2_with (go_at_call 156; refine (xK rs[k] g nm _ HGW.out HCW.out).mono ?_; rintro e w' ⟨he2,hbx⟩; rw [he] at he2; subst he2);go_roundw;case rel=>exact ⟨k + 1,by omega,by go_num,HP2,HB.out.trans (hbx.mono HB.out.size)⟩
    case measure=>simp [intOf] <;> omega
  ·have HN:Hid (jN (ah rs) nm=false):=by show _=_; rw [← HP.out,List.drop_of_length_le (by omega)]; rfl
   go_wp2;go_ret;exact ⟨⟨-1,rfl,by rw [HN.out]; simp⟩,HB.out⟩
theorem rT (ad:Option Addr) (cap:Nat) (rs:List TR) (g:Nat) (nm:ByteArray) (w:World) (hlen:rs.length≤1048576) (hs:gp w ad rs) (hg:g < w.heap.size) (hc:w.cell? ⟨g,0,none⟩=some (.string nm)) :
  Calls prog 155 #[.slice ad rs.length cap,.func (Fn.func 156) #[] #[.pointer (some ⟨g,0,none⟩)]] w fun e w'=>e=.returned (.bool (jN (ah rs) nm))∧Below w.heap.size w w':=by
 go_enter func155,ntmps155;go_wp2_with fail;refine (xL ad cap rs g nm _ hlen hs hg hc).mono ?_;rintro e w' ⟨⟨r,rfl,hr⟩,hbx⟩;have HR:Hid (decide (0≤r)=jN (ah rs) nm):=hr;clear hr hs hc;go_wp2;go_ret;exact ⟨by rw [← HR.out]; rfl,hbx⟩
set_option maxRecDepth 100000 in
theorem xM (ad adA:Option Addr) (cap capA:Nat) (rs:List TR) (b n:Nat) (M:ByteArray × ByteArray→Option Value) (xs:List Al) (w:World) (hlen:rs.length≤1048576) (hs:gp w ad rs) (hV:aJ bI prog 147 w b n M) (hT:Tab rs M) (hla:xs.length≤1048576) (hsa:kF w adA xs) (hfa:∀ a ∈ xs,a.fits) :
  Calls prog 134 #[.slice ad rs.length cap,.map (some b),.slice adA xs.length capA] w fun e w'=>e=.returned (.bool (nK (ah rs) xs))∧Below w.heap.size w w':=by
 have HS:Hid (gp w ad rs):=hs;have HV:Hid (aJ bI prog 147 w b n M):=hV;have HT:Hid (Tab rs M):=hT;have HA:Hid (kF w adA xs):=hsa;have HFA:Hid (∀ a ∈ xs,a.fits):=hfa;clear hs hV hT hsa hfa;go_enter func134,ntmps134;go_wp2_with fail;go_loopw [11] (fun i wr=>∃ k:Nat,k≤xs.length∧i=.int .i64 k∧Hid (lm (ah rs) xs k=true)∧Hid (Below w.heap.size w wr)) (fun i _=>xs.length - (intOf i).toNat);case atStart=>exact ⟨0,Nat.zero_le _,rfl,wF _ _,Below.refl _ _⟩
 case round =>
  obtain ⟨k,hk,rfl,HP,HB⟩:=hrel;by_cases hlt:k < xs.length
  ·rcases HA.out.below HB.out with rfl | ⟨ba,offa,rfl,hba,hra⟩
   ·simp at hlt
   obtain ⟨t0,t1⟩:=hra k hlt;have hk1:=bR k;have hk2:(k:Int) < (xs.length:Int):=by omega
   have zA:=HFA.out _ (List.getElem_mem hlt);have z1:xs[k].t.size≤maxLen:=zA.1;have z2:xs[k].s.size≤maxLen:=zA.2;have HI:Hid ((M (xs[k].t,xs[k].s)).isSome=!(aN (ah rs) xs[k].t xs[k].s).isEmpty):=HT.out.some_iff (xs[k].t,xs[k].s);obtain ⟨W1,hW1⟩:∃ W1,W1=wr.alloc (.cells #[.string xs[k].t,.string xs[k].s] 149):=⟨_,rfl⟩;have hal:Below wr.heap.size wr W1:=by rw [hW1]; exact (Below.refl _ _).alloc (Nat.le_refl _) _
   have HBW:=gW HB hal;have g0:W1.cell? ⟨wr.heap.size,0,none⟩=some (.string xs[k].t):=by rw [hW1]; simp
   have g1:W1.cell? ⟨wr.heap.size,1,none⟩=some (.string xs[k].s):=by rw [hW1]; simp
   have hgl:wr.heap.size < W1.heap.size:=by rw [hW1]; simp
   clear hra hal zA;go_wp2_with fail;rw [← hW1];clear hW1 t0 t1;refine (rT ad cap rs wr.heap.size xs[k].t _ hlen (HS.out.below HBW.out) hgl g0).mono ?_;rintro e w2 ⟨rfl,hb2⟩;have HB2:=gW HBW hb2;replace g0:=ak hb2 hgl g0;replace g1:=ak hb2 hgl g1;have HV2:Hid (aJ bI prog 147 w2 b n M):=HV.out.below HB2.out;clear hb2 hgl;cases ht:jN (ah rs) xs[k].t with
   | false =>
    have HN:Hid (nK (ah rs) xs=false):=rz _ _ k hlt (by simp [mY,ht]);go_wp2;go_ret;exact ⟨by rw [HN.out]; rfl,HB2.out⟩
   | true =>
    cases he:xs[k].s.toList.isEmpty with
    | true =>
     have HP2:Hid (lm (ah rs) xs (k + 1)=true):=by show _=_; rw [mi _ _ _ hlt,HP.out]; simp [mY,ht,he]
     go_wp2;go_roundw;case rel=>exact ⟨k + 1,by omega,by go_num,HP2,HB2⟩
     case measure=>simp [intOf] <;> omega
    | false =>
     cases hz:(M (xs[k].t,xs[k].s)).isSome with
     | false =>
      have HN:Hid (nK (ah rs) xs=false):=rz _ _ k hlt (by have:=HI.out; rw [hz] at this; simp [mY,ht,he]; simpa using this.symm);go_wp2_with (go_at_call 135; refine (vC b n M xs[k].t xs[k].s _ z1 z2 HV2.out).mono ?_; rintro e w' ⟨he2,rfl⟩; rw [hz] at he2; subst he2);go_ret;exact ⟨by rw [HN.out]; rfl,HB2.out⟩
     | true =>
      have HP2:Hid (lm (ah rs) xs (k + 1)=true):=by show _=_; rw [mi _ _ _ hlt,HP.out]; have:=HI.out; rw [hz] at this; simp [mY,ht,he]; simpa using this.symm
      go_wp2_with (go_at_call 135; refine (vC b n M xs[k].t xs[k].s _ z1 z2 HV2.out).mono ?_; rintro e w' ⟨he2,rfl⟩; rw [hz] at he2; subst he2);go_roundw;case rel=>exact ⟨k + 1,by omega,by go_num,HP2,HB2⟩
      case measure=>simp [intOf] <;> omega
  ·have HN:Hid (nK (ah rs) xs=true):=by
    have:=HP.out;obtain rfl:k=xs.length:=by omega
    unfold lm at this;rw [List.take_length] at this;exact this
   go_wp2;go_ret;exact ⟨by rw [HN.out]; rfl,HB.out⟩
theorem qG {e:Ex} (h:ay e=true) (h1:e.kind ≠ 1):e.allow=[]:=by
 unfold ay at h;rw [if_neg h1] at h;split at h
 ·simp only [Bool.and_eq_true,decide_eq_true_eq] at h; exact List.length_eq_zero_iff.1 h.1.1.2
 split at h
 ·simp only [Bool.and_eq_true,decide_eq_true_eq] at h; exact List.length_eq_zero_iff.1 h.1.2
 split at h
 ·simp only [Bool.and_eq_true,decide_eq_true_eq] at h; exact List.length_eq_zero_iff.1 h.1.1.2
 split at h
 ·simp only [Bool.and_eq_true,decide_eq_true_eq] at h; exact List.length_eq_zero_iff.1 h.1.1.2
 ·cases h
theorem Eg (ts:List Ty) (typ:ByteArray) (rows:List ER) (k:Nat) (h:k < rows.length):aO ts typ (au (rows.drop k))=if nK ts rows[k].e.allow && kS ts typ rows[k].e then aO ts typ (au (rows.drop (k + 1))) else false:=by
 rw [eU _ _ h]; rfl
theorem Cj (ts:List Ty) (typ:ByteArray) (e:Ex) (h:e.kind=3):kS ts typ e=!(eG ts typ e.over e.name).isEmpty:=by
 unfold kS eG;rw [if_neg (by omega),if_pos h];cases bv (aN ts typ e.over) <;> simp
set_option maxRecDepth 100000 in
theorem xN (ad adE:Option Addr) (cap capE:Nat) (rs:List TR) (b n:Nat) (M:ByteArray × ByteArray→Option Value) (typ:ByteArray) (rows:List ER) (w:World) (hlen:rs.length≤1048576) (hs:gp w ad rs) (hl:∀ r ∈ rs,r.light) (hf:∀ r ∈ rs,r.fits) (hV:aJ bI prog 147 w b n M) (hT:Tab rs M) (ht:typ.size≤maxLen) (hle:rows.length≤1048576) (hse:kX w adE rows) (hlE:∀ q ∈ rows,q.e.light) (hfE:∀ q ∈ rows,q.e.fits) (hnb:∀ q ∈ rows,ay q.e=true) :
  Calls prog 105 #[.slice ad rs.length cap,.map (some b),.string typ,.slice adE rows.length capE] w fun e w'=>e=.returned (.bool (aO (ah rs) typ (au rows)))∧Below w.heap.size w w':=by
 have HS:Hid (gp w ad rs):=hs;have HL:Hid (∀ r ∈ rs,r.light):=hl;have HFT:Hid (∀ r ∈ rs,r.fits):=hf;have HV:Hid (aJ bI prog 147 w b n M):=hV;have HT:Hid (Tab rs M):=hT;have HE:Hid (kX w adE rows):=hse;have HLE:Hid (∀ q ∈ rows,q.e.light):=hlE;have HFE:Hid (∀ q ∈ rows,q.e.fits):=hfE;have HNB:Hid (∀ q ∈ rows,ay q.e=true):=hnb;clear hs hl hf hV hT hse hlE hfE hnb;go_enter func105,ntmps105;go_wp2_with fail;go_loopw [13] (fun i wr=>∃ k:Nat,k≤rows.length∧i=.int .i64 k∧Hid (aO (ah rs) typ (au (rows.drop k))=aO (ah rs) typ (au rows))∧Hid (Below w.heap.size w wr)) (fun i _=>rows.length - (intOf i).toNat);case atStart=>exact ⟨0,Nat.zero_le _,rfl,rfl,Below.refl _ _⟩
 case round =>
  obtain ⟨k,hk,rfl,HP,HB⟩:=hrel;by_cases hlt:k < rows.length
  ·rcases HE.out.below HB.out with rfl | ⟨bE,offE,rfl,hbE,hrE,hokE⟩
   ·simp at hlt
   obtain ⟨t0,t1,t2,t3,t4⟩:=hrE k hlt;have HOKW:Hid (rows[k].ok w):=HE.out.mem (List.getElem_mem hlt);have hk1:=bR k;have hk2:(k:Int) < (rows.length:Int):=by omega
   have lgA:rows[k].e.allow.length≤1048576:=(HLE.out _ (List.getElem_mem hlt)).1;have HFK:Hid (rows[k].e.fits):=HFE.out _ (List.getElem_mem hlt);have HNK:Hid (ay rows[k].e=true):=HNB.out _ (List.getElem_mem hlt);have HDR:=Eg (ah rs) typ rows k hlt;have HD:Hid (aO (ah rs) typ (au rows)=if nK (ah rs) rows[k].e.allow && kS (ah rs) typ rows[k].e then aO (ah rs) typ (au (rows.drop (k + 1))) else false):=by show _=_; rw [← HP.out]; exact HDR
   obtain ⟨W1,hW1⟩:∃ W1,W1=wr.alloc (.cells #[.int .i64 rows[k].e.kind,.slice rows[k].adA rows[k].e.allow.length rows[k].capA,.string rows[k].e.over,.string rows[k].e.name,.slice rows[k].adK rows[k].e.kids.length rows[k].capK] 139):=⟨_,rfl⟩;have hal:Below wr.heap.size wr W1:=by rw [hW1]; exact (Below.refl _ _).alloc (Nat.le_refl _) _
   have HBW:=gW HB hal;have HVW:Hid (aJ bI prog 147 W1 b n M):=HV.out.below HBW.out;have zO:rows[k].e.over.size≤maxLen:=HFK.out.2.1;have zN:rows[k].e.name.size≤maxLen:=HFK.out.2.2.1;clear hrE hokE hal HDR;by_cases h1:rows[k].e.kind=1
   ·have HRN:Hid (kS (ah rs) typ rows[k].e=true):=by show _=_; unfold kS; rw [if_neg (by omega),if_neg (by omega)]
    have hq1:(rows[k].e.kind == 1)=true:=by simpa using h1
    replace h1:Hid (rows[k].e.kind=1):=h1;go_wp2_with fail;rw [← hW1];refine (xM ad rows[k].adA cap rows[k].capA rs b n M rows[k].e.allow _ hlen (HS.out.below HBW.out) HVW.out HT.out lgA (HOKW.out.1.below HBW.out) HFK.out.1).mono ?_;rintro e w2 ⟨rfl,hb2⟩;have HB2:=gW HBW hb2;clear hb2 hW1 t0 t1 t2 t3 t4;cases hz:nK (ah rs) rows[k].e.allow with
    | false =>
     have HN:Hid (aO (ah rs) typ (au rows)=false):=by show _=_; rw [HD.out,hz]; rfl
     go_wp2;go_ret;exact ⟨by rw [HN.out]; rfl,HB2.out⟩
    | true =>
     have HP2:Hid (aO (ah rs) typ (au (rows.drop (k + 1)))=aO (ah rs) typ (au rows)):=by show _=_; rw [HD.out,hz,HRN.out]; rfl
     go_wp2;go_roundw;case rel=>exact ⟨k + 1,by omega,by go_num,HP2,HB2⟩
     case measure=>simp [intOf] <;> omega
   have hq1:(rows[k].e.kind == 1)=false:=by simpa using h1
   have HRA:Hid (nK (ah rs) rows[k].e.allow=true):=by show _=_; rw [qG HNK.out h1]; rfl
   by_cases h2:rows[k].e.kind=2
   ·have hq2:(rows[k].e.kind == 2)=true:=by simpa using h2
    have HI:=HT.out.some_iff (typ,rows[k].e.name);have HRN:Hid (kS (ah rs) typ rows[k].e=(M (typ,rows[k].e.name)).isSome):=by show _=_; unfold kS; rw [if_pos h2,HI]
    clear HI;replace h2:Hid (rows[k].e.kind=2):=h2;go_wp2_with fail;rw [← hW1];refine (vC b n M typ rows[k].e.name _ ht zN HVW.out).mono ?_;rintro e w2 ⟨rfl,hw2⟩;rw [hw2];clear hw2 w2 hW1 t0 t1 t2 t3 t4;cases hz:(M (typ,rows[k].e.name)).isSome with
    | false =>
     have HN:Hid (aO (ah rs) typ (au rows)=false):=by show _=_; rw [HD.out,HRN.out,hz,HRA.out]; rfl
     go_wp2;go_ret;exact ⟨by rw [HN.out]; rfl,HBW.out⟩
    | true =>
     have HP2:Hid (aO (ah rs) typ (au (rows.drop (k + 1)))=aO (ah rs) typ (au rows)):=by show _=_; rw [HD.out,HRN.out,hz,HRA.out]; rfl
     go_wp2;go_roundw;case rel=>exact ⟨k + 1,by omega,by go_num,HP2,HBW⟩
     case measure=>simp [intOf] <;> omega
   have hq2:(rows[k].e.kind == 2)=false:=by simpa using h2
   by_cases h3:rows[k].e.kind=3
   ·have hq3:(rows[k].e.kind == 3)=true:=by simpa using h3
    have HRN:Hid (kS (ah rs) typ rows[k].e=!(eG (ah rs) typ rows[k].e.over rows[k].e.name).isEmpty):=Cj _ _ _ h3;replace h3:Hid (rows[k].e.kind=3):=h3;go_wp2_with fail;rw [← hW1];refine (uG b n rs ad M typ rows[k] _ HVW.out HT.out (HS.out.below HBW.out) HL.out HFT.out ht zO zN).mono ?_;rintro e w2 ⟨⟨ad',cap',rfl,-,-⟩,hb2⟩;have HB2:=gW HBW hb2;clear hb2 hW1 t0 t1 t2 t3 t4;generalize eG (ah rs) typ rows[k].e.over rows[k].e.name=gs at HRN ⊢;cases gs with
    | nil =>
     have HN:Hid (aO (ah rs) typ (au rows)=false):=by show _=_; rw [HD.out,HRN.out,HRA.out]; rfl
     go_wp2;go_ret;exact ⟨by rw [HN.out]; rfl,HB2.out⟩
    | cons g gs =>
     have HP2:Hid (aO (ah rs) typ (au (rows.drop (k + 1)))=aO (ah rs) typ (au rows)):=by show _=_; rw [HD.out,HRN.out,HRA.out]; rfl
     have hlz:(((g::gs).length:Int) == 0)=false:=by
      have:¬ (((g::gs).length:Int)=0):=by simp; omega
      simpa using this
     obtain ⟨ln,hln⟩:∃ ln,ln=(g::gs).length:=⟨_,rfl⟩;rw [← hln] at hlz ⊢;clear hln;go_wp2;go_roundw;case rel=>exact ⟨k + 1,by omega,by go_num,HP2,HB2⟩
     case measure=>simp [intOf] <;> omega
   ·have hq3:(rows[k].e.kind == 3)=false:=by simpa using h3
    have HRN:Hid (kS (ah rs) typ rows[k].e=true):=by show _=_; unfold kS; rw [if_neg h2,if_neg h3]
    have HP2:Hid (aO (ah rs) typ (au (rows.drop (k + 1)))=aO (ah rs) typ (au rows)):=by show _=_; rw [HD.out,HRN.out,HRA.out]; rfl
    have HBX:Hid (Below w.heap.size w (wr.alloc (.cells #[.int .i64 rows[k].e.kind,.slice rows[k].adA rows[k].e.allow.length rows[k].capA,.string rows[k].e.over,.string rows[k].e.name,.slice rows[k].adK rows[k].e.kids.length rows[k].capK] 139))):=by rw [← hW1]; exact HBW
    clear hW1;go_wp2;go_roundw;case rel=>exact ⟨k + 1,by omega,by go_num,HP2,HBX⟩
    case measure=>simp [intOf] <;> omega
  ·have HN:Hid (aO (ah rs) typ (au rows)=true):=by show _=_; rw [← HP.out,List.drop_of_length_le (by omega)]; rfl
   go_wp2;go_ret;exact ⟨by rw [HN.out]; rfl,HB.out⟩
end Go.Proofs.YteoflgocljfgeaaGreatDoor
