/- Contract of the program's look whether a tuple fits its table. -/
import Derived.Test.YtajkkeikihhejaaGreatSq
import Derived.Test.YtajkkeikihhejaaGreatJ23
import Derived.WideKeyEntry
open Go.Proofs.Tryz
set_option maxHeartbeats 80000000
namespace Go.Proofs.YtajkkeikihhejaaGreat
open Go.ChangeShapes Go.WideShapes Go.ChangeAt Go.RowKit Go.Maps
open Pl
def nz (a:Al) (e:Ex):Bool:=decide (e.kind=1) && dI e.allow e.allow.length a
def xJ (ts:List Ty) (ty rel:ByteArray) (a:Al):Bool:=(aL ts ty rel).any (nz a)
theorem fit_drop (a:Al) (rows:List ER) (k:Nat) (h:k < rows.length):(ak (rows.drop k)).any (nz a)=(nz a rows[k].e || (ak (rows.drop (k + 1))).any (nz a)):=by
 rw [gH _ _ h]; rfl
set_option maxRecDepth 100000 in
theorem NS (b n:Nat) (rs:List TR) (ad:Option Addr) (M:ByteArray × ByteArray→Option Value) (oa ob r c d s:aD) (w:ae) (hV:aO dU prog 94 w b n M) (hT:Tab rs M) (hs:mD w ad rs) (hl:∀ r ∈ rs,r.light) (ho:oa.size≤maxLen) (hr:r.size≤maxLen) :
  Calls prog 100 #[.map (some b),.agg #[.string oa,.string ob,.string r,.string c,.string d,.string s]] w fun e w'=>e=.returned (.bool (xJ (ah rs) oa r ⟨c,s⟩))∧af w w':=by
 have HT:=az hT;have HS:=az hs;have HL:=az hl;obtain ⟨kl,hkl⟩:=kE (oa,r) ho hr;have UJ:Hid (keyOf prog 94 (dU (oa,r))=some kl):=hkl;obtain ⟨W0,hW0⟩:∃ W0,W0=(w.alloc (.cells #[.string oa,.string ob,.string r,.string c,.string d,.string s] 46)).alloc (.cells #[.string c,.string s] 43):=⟨_,rfl⟩;have hal:af w W0:=by
  rw [hW0]
  repeat (first | exact Sz _ _ | refine Below.alloc ?_ (by first | (simp; done) | (simp; omega)) _)
 have HB0:=az hal;have Zf:=az (hV.below hal);have UT:Hid (W0.cell? ⟨w.heap.size + 1,0,none⟩=some (.string c)∧W0.cell? ⟨w.heap.size + 1,1,none⟩=some (.string s)∧w.heap.size + 1 < W0.heap.size):=⟨by rw [hW0]; simp,by rw [hW0]; simp,by rw [hW0]; simp⟩;obtain ⟨rows,TA,capE,HM,HE,HF⟩:∃ (rows:List ER) (TA:Option Addr) (capE:Nat),Hid ((M (oa,r)).getD (.slice none 0 0)=.slice TA rows.length capE)∧Hid (ak rows=aL (ah rs) oa r)∧Hid (pz rs TA rows):=by
  cases e:M (oa,r) with
  | none=>exact ⟨[],none,0,rfl,by show _=_; unfold aL; rw [HT.out.no _ e]; rfl,.inl rfl⟩
  | some v =>
   obtain ⟨t,htm,q,hq,-,rfl,e1,-⟩:=HT.out.yes _ v e;exact ⟨q.rows,q.ad,q.cap,rfl,by show _=_; unfold aL; rw [e1]; rfl,.inr ⟨t,htm,q,hq,rfl,rfl⟩⟩
 have UH:=HF.out.light HL.out;have HLE1:rows.length≤1048576:=UH.1;have ZN:Hid (∀ q ∈ rows,q.e.light):=UH.2;have Wj:Hid (jk w TA rows):=HF.out.sl HS.out;clear hV hT hs hl hkl hal UH;go_enter func100,ntmps100;go_wp2_with (at_lookup; rw [← hW0]; refine jy _ rfl _ _ 91 rfl 94 33 ja underlying91 (ru _) b n M rfl Zf.out (oa,r) kl rfl UJ.out ?_; rw [HM.out]; clear hW0);go_loopw [23] (fun i wr=>∃ k:Nat,k≤rows.length∧i=.int .i64 k∧Hid ((ak (rows.drop k)).any (nz ⟨c,s⟩)=(ak rows).any (nz ⟨c,s⟩))∧Hid (af w wr)∧Hid (wr.cell? ⟨w.heap.size + 1,0,none⟩=some (.string c)∧wr.cell? ⟨w.heap.size + 1,1,none⟩=some (.string s)∧w.heap.size + 1 < wr.heap.size)) (fun i _=>rows.length - (intOf i).toNat);case atStart=>exact ⟨0,SC _,rfl,rfl,HB0,UT⟩
 clear HB0 UT Zf;obtain ⟨k,hk,rfl,HP,HB,HC⟩:=hrel;by_cases hlt:k < rows.length
 ·rcases Wj.out.below HB.out with hnil | ⟨bE,ZP,Xo,hbE,Zh,hok⟩
  ·rw [hnil] at hlt; simp at hlt
  obtain ⟨t0,t1,t2,t3,t4⟩:=Zh k hlt;have U6:Hid (rows[k].ok wr):=hok _ (Sw hlt);have lgA:rows[k].e.allow.length≤1048576:=(ZN.out _ (Sw hlt)).1;have hk1:=bq k;have hk2:(k:Int) < (rows.length:Int):=by omega
  obtain ⟨x0,x1,x2⟩:=HC.out;have HD:Hid ((ak rows).any (nz ⟨c,s⟩)=(nz ⟨c,s⟩ rows[k].e || (ak (rows.drop (k + 1))).any (nz ⟨c,s⟩))):=by show _=_; rw [← HP.out]; exact fit_drop _ _ _ hlt
  obtain ⟨W1,hW1⟩:∃ W1,W1=wr.alloc (.cells #[.int .i64 rows[k].e.kind,.slice rows[k].adA rows[k].e.allow.length rows[k].capA,.string rows[k].e.over,.string rows[k].e.name,.slice rows[k].adK rows[k].e.kids.length rows[k].capK] 39):=⟨_,rfl⟩;have hal:af wr W1:=by rw [hW1]; exact (Sz _ _).alloc (Sy _) _
  have HB1:=jI HB hal;have UV:Hid (W1.cell? ⟨w.heap.size + 1,0,none⟩=some (.string c)∧W1.cell? ⟨w.heap.size + 1,1,none⟩=some (.string s)∧w.heap.size + 1 < W1.heap.size):=⟨aI hal x2 x0,aI hal x2 x1,Sv x2 hal.size⟩;have HA1:Hid (kw W1 rows[k].adA rows[k].e.allow):=U6.out.1.below hal;rw [Xo];clear Zh hok hal HC;by_cases h1:rows[k].e.kind=1
  ·have hq1:(rows[k].e.kind == 1)=true:=by simpa using h1
   have VZ:Hid (nz ⟨c,s⟩ rows[k].e=dI rows[k].e.allow rows[k].e.allow.length ⟨c,s⟩):=by show _=_; unfold nz; simp [h1]
   replace h1:Hid (rows[k].e.kind=1):=h1;go_wp2_with fail;rw [← hW1];refine (uR rows[k].adA rows[k].e.allow.length rows[k].capA rows[k].e.allow ⟨c,s⟩ _ (Sy _) lgA HA1.out).mono ?_;rintro e w2 ⟨rfl,hb2⟩;have HB2:=jI HB1 hb2;have Us:Hid (w2.cell? ⟨w.heap.size + 1,0,none⟩=some (.string c)∧w2.cell? ⟨w.heap.size + 1,1,none⟩=some (.string s)∧w.heap.size + 1 < w2.heap.size):=⟨aI hb2 UV.out.2.2 UV.out.1,aI hb2 UV.out.2.2 UV.out.2.1,Sv UV.out.2.2 hb2.size⟩;clear hb2 hW1 t0 t1 t2 t3 t4 x0 x1;cases hz:dI rows[k].e.allow rows[k].e.allow.length ⟨c,s⟩;case true=>
    have HN:Hid (xJ (ah rs) oa r ⟨c,s⟩=true):=by show _=_; unfold xJ; rw [← HE.out,HD.out,VZ.out,hz]; rfl
    go_wp2;go_ret;exact ⟨by rw [HN.out]; rfl,HB2.out⟩
   have TG:Hid ((ak (rows.drop (k + 1))).any (nz ⟨c,s⟩)=(ak rows).any (nz ⟨c,s⟩)):=by show _=_; rw [HD.out,VZ.out,hz]; rfl
   go_wp2;go_roundw;case rel=>exact ⟨k + 1,by omega,by go_num,TG,HB2,Us⟩
   simp [intOf] <;> omega
  have hq1:(rows[k].e.kind == 1)=false:=by simpa using h1
  have TG:Hid ((ak (rows.drop (k + 1))).any (nz ⟨c,s⟩)=(ak rows).any (nz ⟨c,s⟩)):=by show _=_; rw [HD.out]; simp [nz,h1]
  have Uh:Hid (af w (wr.alloc (.cells #[.int .i64 rows[k].e.kind,.slice rows[k].adA rows[k].e.allow.length rows[k].capA,.string rows[k].e.over,.string rows[k].e.name,.slice rows[k].adK rows[k].e.kids.length rows[k].capK] 39))):=by rw [← hW1]; exact HB1
  have HCX:Hid ((wr.alloc (.cells #[.int .i64 rows[k].e.kind,.slice rows[k].adA rows[k].e.allow.length rows[k].capA,.string rows[k].e.over,.string rows[k].e.name,.slice rows[k].adK rows[k].e.kids.length rows[k].capK] 39)).cell? ⟨w.heap.size + 1,0,none⟩=some (.string c)∧(wr.alloc (.cells #[.int .i64 rows[k].e.kind,.slice rows[k].adA rows[k].e.allow.length rows[k].capA,.string rows[k].e.over,.string rows[k].e.name,.slice rows[k].adK rows[k].e.kids.length rows[k].capK] 39)).cell? ⟨w.heap.size + 1,1,none⟩=some (.string s)∧w.heap.size + 1 < (wr.alloc (.cells #[.int .i64 rows[k].e.kind,.slice rows[k].adA rows[k].e.allow.length rows[k].capA,.string rows[k].e.over,.string rows[k].e.name,.slice rows[k].adK rows[k].e.kids.length rows[k].capK] 39)).heap.size):=by rw [← hW1]; exact UV
  clear hW1;go_wp2;go_roundw;case rel=>exact ⟨k + 1,by omega,by go_num,TG,Uh,HCX⟩
  simp [intOf] <;> omega
 have HN:Hid (xJ (ah rs) oa r ⟨c,s⟩=false):=by show _=_; unfold xJ; rw [← HE.out,← HP.out,List.drop_of_length_le (by omega)]; rfl
 go_wp2;go_ret;exact ⟨by rw [HN.out]; rfl,HB.out⟩
open Go.ChangeMaps (setBlock heap_setBlock_same heap_setBlock_other)
section
variable {K:Type} {enc:K→Value} {P:Program} {k:TypeId} {w:World} {b n:Nat} {M:K→Option Value}
theorem aO.of_block {w':ae} (h:aO enc P k w b n M) (e:w'.heap[b]?=w.heap[b]?):aO enc P k w' b n M:=by
 obtain ⟨D,⟨es,clock,hb,r⟩,h2⟩:=h;exact ⟨D,⟨es,clock,e.trans hb,r⟩,h2⟩
theorem qA {w:ae} {b:Nat} {es es':Array MapEntry} {c c':Nat} (hb:w.heap[b]?=some (.map es c)):w.grownBy (setBlock w b (.map es' c')) (some b) :=
 ⟨rfl,rfl,rfl,by simp [setBlock],fun i _ hi=>heap_setBlock_other hb _ (fun e=>hi (by rw [e]))⟩
theorem aO.entry [DecidableEq K] {t e:TypeId} (h:aO enc P k w b n M) (L:WideMaps.KeyLaw P k) (hinj:∀ x y,enc x=enc y→x=y) (ht:P.underlying t=some (.map k e)) {z:Value} (hz:∀ u:ae,(zeroValue e).run P u=.ok z u) (hn:n < maxLen) {x:K} {kl:Lit} (hkey:keyOf P k (enc x)=some kl) :
  ∃ (st:Nat) (w1:World),(Instr.mapEntry t (.map (some b)) (enc x)).run P w=.ok (.tuple #[(M x).getD z,goInt st]) w1∧w.grownBy w1 (some b) ∧
   ∀ (w2:World) (val:Value),w2.heap[b]?=w1.heap[b]?→∃ w3,(Instr.entryStore t (.map (some b)) (goInt st) val).run P w2=.ok () w3∧aO enc P k w3 b (n + 1) (lm M x (some val))∧w2.grownBy w3 (some b):=by
 have LK:=Keyed.of_law L;have hlook:=h.look LK ht (hz w) hkey;have hst:=fun v=>h.store LK hinj ht hn hkey v;obtain ⟨D,⟨es,clock,hb,F,hs,hD⟩,h2⟩:=h;obtain ⟨v0,st,es1,clock1,hrun,hv0,hback⟩:=WideElems.entry_then_store L ht hz hb F hkey;have hb1:(setBlock w b (.map es1 clock1)).heap[b]?=some (.map es1 clock1):=heap_setBlock_same hb _;have ev:v0=(M x).getD z:=by
  have hl:=hlook;rcases Maps.fit_look false LK ht (hz w) hb F hkey with ⟨Vb,hno,-⟩ | ⟨e0,y,hmem,hek,Vb,-,-,-⟩
  ·rw [hl] at Vb;injection Vb with e1;rcases hv0 with ⟨e0,hm,hk0,-⟩ | ⟨-,hz0⟩
   ·exact absurd hk0 (hno e0 hm)
   rw [hz0,e1]; rfl
  rw [hl] at Vb;injection Vb with e1;rcases hv0 with ⟨e1',hm,hk0,hv⟩ | ⟨hno,-⟩
  ·have hnd:=F.stamped.2.2;have:e1'=e0:=by
    have h3:e1'.key=e0.key:=by rw [hk0,hek]
    obtain ⟨i,hi,hie⟩:=List.mem_iff_getElem.1 hm;obtain ⟨j,hj,hje⟩:=List.mem_iff_getElem.1 hmem;have h4:(es.toList.map (·.key))[i]'(by simpa using hi)=(es.toList.map (·.key))[j]'(by simpa using hj):=by simp only [List.getElem_map,hie,hje]; exact h3
    have h6:=List.pairwise_iff_getElem.1 hnd;have h5:i=j:=by
     rcases Nat.lt_trichotomy i j with hl | hl | hl
     ·exact absurd h4 (h6 i j _ _ hl)
     ·exact hl
     exact absurd h4.symm (h6 j i _ _ hl)
    subst h5;rw [← hie,← hje]
   rw [hv,this,e1]; rfl
  exact absurd hek (hno e0 hmem)
 refine ⟨st,_,by rw [hrun,ev],qA hb,fun w2 val hw2=>?_⟩;have hw2':w2.heap[b]?=some (.map es1 clock1):=hw2.trans hb1;obtain ⟨es',clock',hr1,hr2⟩:=hback w2 val hw2';obtain ⟨w',hr3,hM',-⟩:=hst val;rw [hr2] at hr3;injection hr3 with _ e3;refine ⟨_,hr1,hM'.of_block ?_,qA hw2'⟩;rw [← e3,heap_setBlock_same hb,heap_setBlock_same hw2']
end
section
variable {K:Type} {enc:K→Value} {P:Program} (w:World) {ops:Array Oper} {rest:List Oper} {o:Oper} {a:Act} {Q:Exit→Act→World→Prop}
theorem Bn [DecidableEq K] (hg:o.guard=none) (m x:Operand) (t:TypeId) (hop:o.op=Op.mapEntry t m x) (k e:TypeId) (L:WideMaps.KeyLaw P k) (hinj:∀ x y,enc x=enc y→x=y) (ht:P.underlying t=some (.map k e)) {z:Value} (hz:∀ u:ae,(zeroValue e).run P u=.ok z u) (b n:Nat) (M:K→Option Value)
  (hm:a.eval m=.map (some b)) (hV:aO enc P k w b n M) (hn:n < maxLen) (y:K) (kl:Lit) (hx:a.eval x=enc y) (hkey:keyOf P k (enc y)=some kl)
  (hK:∀ (st:Nat) (w1:World),w.grownBy w1 (some b)→(∀ (w2:World) (val:Value),w2.heap[b]?=w1.heap[b]?→∃ w3,(Instr.entryStore t (.map (some b)) (goInt st) val).run P w2=.ok () w3∧aO enc P k w3 b (n + 1) (lm M y (some val))∧w2.grownBy w3 (some b)) →
   wpList P ops Q rest (a.put o.dst (.tuple #[(M y).getD z,goInt st])) w1):wpList P ops Q (o::rest) a w:=by
 refine wpList_plain hg fun K' hK'=>?_;obtain ⟨st,w1,hrun,h1,h2⟩:=hV.entry L hinj ht hz hn hkey;unfold Oper.wp;simp [execOp,hop,hm,hx,hrun,Result.andThen];exact hK' _ _ (hK st w1 h1 h2)
theorem tF (hg:o.guard=none) (m s v:Operand) (t:TypeId) (hop:o.op=Op.entryStore t m s v) (b st:Nat) (hm:a.eval m=.map (some b)) (hs:a.eval s=goInt st) (u:Value) (hv:a.eval v=u) (k:TypeId) (n:Nat) (M:K→Option Value)
  (hback:∃ w3,(Instr.entryStore t (.map (some b)) (goInt st) u).run P w=.ok () w3∧aO enc P k w3 b n M∧w.grownBy w3 (some b))
  (hK:∀ w',aO enc P k w' b n M→w.grownBy w' (some b)→wpList P ops Q rest (a.put o.dst undef) w'):wpList P ops Q (o::rest) a w:=by
 refine wpList_plain hg fun K' hK'=>?_;obtain ⟨w3,hrun,h1,h2⟩:=hback;unfold Oper.wp;simp [execOp,hop,hm,hs,hv,hrun,Result.andThen];exact hK' _ _ (hK w3 h1 h2)
end
theorem Af (t:TR) (g:Nat) (nm:aD) (w:ae) (hg:g < w.heap.size) (hc:w.cell? ⟨g,0,none⟩=some (.string nm)) :
  Calls prog 223 #[.agg #[.string t.name,.slice t.ad t.rows.length t.cap],.pointer (some ⟨g,0,none⟩)] w fun e w'=>e=.returned (.bool (t.name.toList == nm.toList))∧af w w':=by
 go_enter func223,ntmps223;go_wp2;go_ret;exact ⟨rfl,(Sz _ _).alloc (Sy _) _⟩
theorem Cv (rs:List TR) (k:Nat) (h:k < rs.length) (nm:aD):lq (ah (rs.drop k)) nm=((rs[k].name.toList == nm.toList) || lq (ah (rs.drop (k + 1))) nm):=by
 rw [nI _ _ h]; rfl
theorem Ag (ad:Option Addr) (cap:Nat) (rs:List TR) (g:Nat) (nm:aD) (w:ae) (hlen:rs.length≤1048576) (hs:mD w ad rs) (hg:g < w.heap.size) (hc:w.cell? ⟨g,0,none⟩=some (.string nm)) :
  Calls prog 241 #[.slice ad rs.length cap,.func (Fn.func 223) #[] #[.pointer (some ⟨g,0,none⟩)]] w fun e w'=>(∃ r:Int,e=.returned (.int .i64 r)∧decide (0≤r)=lq (ah rs) nm)∧af w w':=by
 have HS:=az hs;have HC:Hid (w.cell? ⟨g,0,none⟩=some (.string nm)):=hc;clear hs hc;go_enter func241,ntmps241;go_wp2_with fail;go_loopw [8] (fun i wr=>∃ k:Nat,k≤rs.length∧i=.int .i64 k∧Hid (lq (ah (rs.drop k)) nm=lq (ah rs) nm)∧Hid (af w wr)) (fun i _=>rs.length - (intOf i).toNat);case atStart=>exact ⟨0,SC _,rfl,rfl,Sz _ _⟩
 obtain ⟨k,hk,rfl,HP,HB⟩:=hrel;by_cases hlt:k < rs.length
 ·rcases HS.out.below HB.out with rfl | ⟨b,off,rfl,hb,hr,-⟩
  ·simp at hlt
  obtain ⟨t0,t1⟩:=hr k hlt;have hk1:=bq k;have hk2:(k:Int) < (rs.length:Int):=by omega
  have HCW:Hid (wr.cell? ⟨g,0,none⟩=some (.string nm)):=aI HB.out hg HC.out;have HGW:Hid (g < wr.heap.size):=Sv hg HB.out.size;clear hr;cases he:(rs[k].name.toList == nm.toList);case true=>
   have HN:Hid (lq (ah rs) nm=true):=by show _=_; rw [← HP.out,Cv _ _ hlt,he]; rfl
   go_wp2_with (go_at_call 223; refine (Af rs[k] g nm _ HGW.out HCW.out).mono ?_; rintro e w' ⟨he2,hbx⟩; rw [he] at he2; subst he2);go_ret;exact ⟨⟨k,rfl,by rw [HN.out]; simp⟩,HB.out.trans (hbx.mono HB.out.size)⟩
  have TG:Hid (lq (ah (rs.drop (k + 1))) nm=lq (ah rs) nm):=by show _=_; rw [← HP.out,Cv _ _ hlt,he]; rfl
  go_wp2_with (go_at_call 223; refine (Af rs[k] g nm _ HGW.out HCW.out).mono ?_; rintro e w' ⟨he2,hbx⟩; rw [he] at he2; subst he2);go_roundw;case rel=>exact ⟨k + 1,by omega,by go_num,TG,HB.out.trans (hbx.mono HB.out.size)⟩
  simp [intOf] <;> omega
 have HN:Hid (lq (ah rs) nm=false):=by show _=_; rw [← HP.out,List.drop_of_length_le (by omega)]; rfl
 go_wp2;go_ret;exact ⟨⟨-1,rfl,by rw [HN.out]; simp⟩,HB.out⟩
theorem uS (ad:Option Addr) (cap:Nat) (rs:List TR) (g:Nat) (nm:aD) (w:ae) (hlen:rs.length≤1048576) (hs:mD w ad rs) (hg:g < w.heap.size) (hc:w.cell? ⟨g,0,none⟩=some (.string nm)) :
  Calls prog 222 #[.slice ad rs.length cap,.func (Fn.func 223) #[] #[.pointer (some ⟨g,0,none⟩)]] w fun e w'=>e=.returned (.bool (lq (ah rs) nm))∧af w w':=by
 go_enter func222,ntmps222;go_wp2_with fail;refine (Ag ad cap rs g nm _ hlen hs hg hc).mono ?_;rintro e w' ⟨⟨r,rfl,hr⟩,hbx⟩;have HR:Hid (decide (0≤r)=lq (ah rs) nm):=hr;clear hr hs hc;go_wp2;go_ret;exact ⟨by rw [← HR.out]; rfl,hbx⟩
set_option maxRecDepth 100000 in
theorem Ah (ad adA:Option Addr) (cap capA:Nat) (rs:List TR) (b n:Nat) (M:ByteArray × ByteArray→Option Value) (xs:List Al) (w:ae) (hlen:rs.length≤1048576) (hs:mD w ad rs) (hV:aO dU prog 94 w b n M) (hT:Tab rs M) (hla:xs.length≤1048576) (hsa:kw w adA xs) (hfa:∀ a ∈ xs,a.fits) :
  Calls prog 183 #[.slice ad rs.length cap,.map (some b),.slice adA xs.length capA] w fun e w'=>e=.returned (.bool (p9 (ah rs) xs))∧af w w':=by
 have HS:=az hs;have HV:Hid (aO dU prog 94 w b n M):=hV;have HT:=az hT;have HA:=az hsa;have HFA:=az hfa;clear hs hV hT hsa hfa;go_enter func183,ntmps183;go_wp2_with fail;go_loopw [11] (fun i wr=>∃ k:Nat,k≤xs.length∧i=.int .i64 k∧Hid (nJ (ah rs) xs k=true)∧Hid (af w wr)) (fun i _=>xs.length - (intOf i).toNat);case atStart=>exact ⟨0,SC _,rfl,zi _ _,Sz _ _⟩
 obtain ⟨k,hk,rfl,HP,HB⟩:=hrel;by_cases hlt:k < xs.length
 ·rcases HA.out.below HB.out with rfl | ⟨ba,VC,rfl,VE,hra⟩
  ·simp at hlt
  obtain ⟨t0,t1⟩:=hra k hlt;have hk1:=bq k;have hk2:(k:Int) < (xs.length:Int):=by omega
  have zA:=HFA.out _ (Sw hlt);have z1:xs[k].t.size≤maxLen:=zA.1;have z2:xs[k].s.size≤maxLen:=zA.2;have HI:Hid ((M (xs[k].t,xs[k].s)).isSome=!(aL (ah rs) xs[k].t xs[k].s).isEmpty):=HT.out.some_iff (xs[k].t,xs[k].s);obtain ⟨W1,hW1⟩:∃ W1,W1=wr.alloc (.cells #[.string xs[k].t,.string xs[k].s] 43):=⟨_,rfl⟩;have hal:af wr W1:=by rw [hW1]; exact (Sz _ _).alloc (Sy _) _
  have TB:=jI HB hal;have g0:W1.cell? ⟨wr.heap.size,0,none⟩=some (.string xs[k].t):=by rw [hW1]; simp
  have g1:W1.cell? ⟨wr.heap.size,1,none⟩=some (.string xs[k].s):=by rw [hW1]; simp
  have hgl:wr.heap.size < W1.heap.size:=by rw [hW1]; simp
  clear hra hal zA;go_wp2_with fail;rw [← hW1];clear hW1 t0 t1;refine (uS ad cap rs wr.heap.size xs[k].t _ hlen (HS.out.below TB.out) hgl g0).mono ?_;rintro e w2 ⟨rfl,hb2⟩;have HB2:=jI TB hb2;replace g0:=aI hb2 hgl g0;replace g1:=aI hb2 hgl g1;have Yl:=az (HV.out.below HB2.out);clear hb2 hgl;cases ht:lq (ah rs) xs[k].t;case false=>
   have HN:Hid (p9 (ah rs) xs=false):=uz _ _ k hlt (by simp [pE,ht]);go_wp2;go_ret;exact ⟨by rw [HN.out]; rfl,HB2.out⟩
  cases he:xs[k].s.toList.isEmpty;case true=>
   have TG:Hid (nJ (ah rs) xs (k + 1)=true):=by show _=_; rw [oL _ _ _ hlt,HP.out]; simp [pE,ht,he]
   go_wp2;go_roundw;case rel=>exact ⟨k + 1,by omega,by go_num,TG,HB2⟩
   simp [intOf] <;> omega
  cases hz:(M (xs[k].t,xs[k].s)).isSome;case false=>
   have HN:Hid (p9 (ah rs) xs=false):=uz _ _ k hlt (by have:=HI.out; rw [hz] at this; simp [pE,ht,he]; simpa using this.symm);go_wp2_with (go_at_call 184; refine (yz b n M xs[k].t xs[k].s _ z1 z2 Yl.out).mono ?_; rintro e w' ⟨he2,rfl⟩; rw [hz] at he2; subst he2);go_ret;exact ⟨by rw [HN.out]; rfl,HB2.out⟩
  have TG:Hid (nJ (ah rs) xs (k + 1)=true):=by show _=_; rw [oL _ _ _ hlt,HP.out]; have:=HI.out; rw [hz] at this; simp [pE,ht,he]; simpa using this.symm
  go_wp2_with (go_at_call 184; refine (yz b n M xs[k].t xs[k].s _ z1 z2 Yl.out).mono ?_; rintro e w' ⟨he2,rfl⟩; rw [hz] at he2; subst he2);go_roundw;case rel=>exact ⟨k + 1,by omega,by go_num,TG,HB2⟩
  simp [intOf] <;> omega
 have HN:Hid (p9 (ah rs) xs=true):=by
  have:=HP.out;obtain rfl:k=xs.length:=by omega
  unfold nJ at this;rw [SS] at this;exact this
 go_wp2;go_ret;exact ⟨by rw [HN.out]; rfl,HB.out⟩
theorem tH {e:Ex} (h:ay e=true) (h1:e.kind ≠ 1):e.allow=[]:=by
 unfold ay at h;rw [if_neg h1] at h;split at h
 ·simp only [SB,SN] at h; exact SX.1 h.1.1.2
 split at h
 ·simp only [SB,SN] at h; exact SX.1 h.1.2
 split at h
 ·simp only [SB,SN] at h; exact SX.1 h.1.1.2
 split at h
 ·simp only [SB,SN] at h; exact SX.1 h.1.1.2
 cases h
theorem Ig (ts:List Ty) (typ:aD) (rows:List ER) (k:Nat) (h:k < rows.length):aT ts typ (ak (rows.drop k))=if p9 ts rows[k].e.allow && nu ts typ rows[k].e then aT ts typ (ak (rows.drop (k + 1))) else false:=by
 rw [gH _ _ h]; rfl
theorem FD (ts:List Ty) (typ:aD) (e:Ex) (h:e.kind=3):nu ts typ e=!(gu ts typ e.over e.name).isEmpty:=by
 unfold nu gu;rw [if_neg (by omega),if_pos h];cases bH (aL ts typ e.over) <;> simp
set_option maxRecDepth 100000 in
theorem Ai (ad TA:Option Addr) (cap capE:Nat) (rs:List TR) (b n:Nat) (M:ByteArray × ByteArray→Option Value) (typ:aD) (rows:List ER) (w:ae) (hlen:rs.length≤1048576) (hs:mD w ad rs) (hl:∀ r ∈ rs,r.light) (hf:∀ r ∈ rs,r.fits) (hV:aO dU prog 94 w b n M) (hT:Tab rs M) (ht:typ.size≤maxLen) (hle:rows.length≤1048576) (hse:jk w TA rows) (Ze:∀ q ∈ rows,q.e.light) (hfE:∀ q ∈ rows,q.e.fits) (hnb:∀ q ∈ rows,ay q.e=true) :
  Calls prog 132 #[.slice ad rs.length cap,.map (some b),.string typ,.slice TA rows.length capE] w fun e w'=>e=.returned (.bool (aT (ah rs) typ (ak rows)))∧af w w':=by
 have HS:=az hs;have HL:=az hl;have TP:=az hf;have HV:Hid (aO dU prog 94 w b n M):=hV;have HT:=az hT;have HE:=az hse;have UH:=az Ze;have VZ:=az hfE;have HNB:Hid (∀ q ∈ rows,ay q.e=true):=hnb;clear hs hl hf hV hT hse Ze hfE hnb;go_enter func132,ntmps132;go_wp2_with fail;go_loopw [13] (fun i wr=>∃ k:Nat,k≤rows.length∧i=.int .i64 k∧Hid (aT (ah rs) typ (ak (rows.drop k))=aT (ah rs) typ (ak rows))∧Hid (af w wr)) (fun i _=>rows.length - (intOf i).toNat);case atStart=>exact ⟨0,SC _,rfl,rfl,Sz _ _⟩
 obtain ⟨k,hk,rfl,HP,HB⟩:=hrel;by_cases hlt:k < rows.length
 ·rcases HE.out.below HB.out with rfl | ⟨bE,ZP,rfl,hbE,Zh,hokE⟩
  ·simp at hlt
  obtain ⟨t0,t1,t2,t3,t4⟩:=Zh k hlt;have HOKW:Hid (rows[k].ok w):=HE.out.mem (Sw hlt);have hk1:=bq k;have hk2:(k:Int) < (rows.length:Int):=by omega
  have lgA:rows[k].e.allow.length≤1048576:=(UH.out _ (Sw hlt)).1;have HFK:Hid (rows[k].e.fits):=VZ.out _ (Sw hlt);have HNK:Hid (ay rows[k].e=true):=HNB.out _ (Sw hlt);have HDR:=Ig (ah rs) typ rows k hlt;have HD:Hid (aT (ah rs) typ (ak rows)=if p9 (ah rs) rows[k].e.allow && nu (ah rs) typ rows[k].e then aT (ah rs) typ (ak (rows.drop (k + 1))) else false):=by show _=_; rw [← HP.out]; exact HDR
  obtain ⟨W1,hW1⟩:∃ W1,W1=wr.alloc (.cells #[.int .i64 rows[k].e.kind,.slice rows[k].adA rows[k].e.allow.length rows[k].capA,.string rows[k].e.over,.string rows[k].e.name,.slice rows[k].adK rows[k].e.kids.length rows[k].capK] 39):=⟨_,rfl⟩;have hal:af wr W1:=by rw [hW1]; exact (Sz _ _).alloc (Sy _) _
  have TB:=jI HB hal;have HVW:=az (HV.out.below TB.out);have zO:rows[k].e.over.size≤maxLen:=HFK.out.2.1;have zN:rows[k].e.name.size≤maxLen:=HFK.out.2.2.1;clear Zh hokE hal HDR;by_cases h1:rows[k].e.kind=1
  ·have Vl:Hid (nu (ah rs) typ rows[k].e=true):=by show _=_; unfold nu; rw [if_neg (by omega),if_neg (by omega)]
   have hq1:(rows[k].e.kind == 1)=true:=by simpa using h1
   replace h1:Hid (rows[k].e.kind=1):=h1;go_wp2_with fail;rw [← hW1];refine (Ah ad rows[k].adA cap rows[k].capA rs b n M rows[k].e.allow _ hlen (HS.out.below TB.out) HVW.out HT.out lgA (HOKW.out.1.below TB.out) HFK.out.1).mono ?_;rintro e w2 ⟨rfl,hb2⟩;have HB2:=jI TB hb2;clear hb2 hW1 t0 t1 t2 t3 t4;cases hz:p9 (ah rs) rows[k].e.allow;case false=>
    have HN:Hid (aT (ah rs) typ (ak rows)=false):=by show _=_; rw [HD.out,hz]; rfl
    go_wp2;go_ret;exact ⟨by rw [HN.out]; rfl,HB2.out⟩
   have TG:Hid (aT (ah rs) typ (ak (rows.drop (k + 1)))=aT (ah rs) typ (ak rows)):=by show _=_; rw [HD.out,hz,Vl.out]; rfl
   go_wp2;go_roundw;case rel=>exact ⟨k + 1,by omega,by go_num,TG,HB2⟩
   simp [intOf] <;> omega
  have hq1:(rows[k].e.kind == 1)=false:=by simpa using h1
  have Wu:Hid (p9 (ah rs) rows[k].e.allow=true):=by show _=_; rw [tH HNK.out h1]; rfl
  by_cases h2:rows[k].e.kind=2
  ·have hq2:(rows[k].e.kind == 2)=true:=by simpa using h2
   have HI:=HT.out.some_iff (typ,rows[k].e.name);have Vl:Hid (nu (ah rs) typ rows[k].e=(M (typ,rows[k].e.name)).isSome):=by show _=_; unfold nu; rw [if_pos h2,HI]
   clear HI;replace h2:Hid (rows[k].e.kind=2):=h2;go_wp2_with fail;rw [← hW1];refine (yz b n M typ rows[k].e.name _ ht zN HVW.out).mono ?_;rintro e w2 ⟨rfl,hw2⟩;rw [hw2];clear hw2 w2 hW1 t0 t1 t2 t3 t4;cases hz:(M (typ,rows[k].e.name)).isSome;case false=>
    have HN:Hid (aT (ah rs) typ (ak rows)=false):=by show _=_; rw [HD.out,Vl.out,hz,Wu.out]; rfl
    go_wp2;go_ret;exact ⟨by rw [HN.out]; rfl,TB.out⟩
   have TG:Hid (aT (ah rs) typ (ak (rows.drop (k + 1)))=aT (ah rs) typ (ak rows)):=by show _=_; rw [HD.out,Vl.out,hz,Wu.out]; rfl
   go_wp2;go_roundw;case rel=>exact ⟨k + 1,by omega,by go_num,TG,TB⟩
   simp [intOf] <;> omega
  have hq2:(rows[k].e.kind == 2)=false:=by simpa using h2
  by_cases h3:rows[k].e.kind=3
  ·have hq3:(rows[k].e.kind == 3)=true:=by simpa using h3
   have Vl:Hid (nu (ah rs) typ rows[k].e=!(gu (ah rs) typ rows[k].e.over rows[k].e.name).isEmpty):=FD _ _ _ h3;replace h3:Hid (rows[k].e.kind=3):=h3;go_wp2_with fail;rw [← hW1];refine (xI b n rs ad M typ rows[k] _ HVW.out HT.out (HS.out.below TB.out) HL.out TP.out ht zO zN).mono ?_;rintro e w2 ⟨⟨TH,cap',rfl,-,-⟩,hb2⟩;have HB2:=jI TB hb2;clear hb2 hW1 t0 t1 t2 t3 t4;generalize gu (ah rs) typ rows[k].e.over rows[k].e.name=gs at Vl ⊢;cases gs with
   | nil =>
    have HN:Hid (aT (ah rs) typ (ak rows)=false):=by show _=_; rw [HD.out,Vl.out,Wu.out]; rfl
    go_wp2;go_ret;exact ⟨by rw [HN.out]; rfl,HB2.out⟩
   | cons g gs =>
    have TG:Hid (aT (ah rs) typ (ak (rows.drop (k + 1)))=aT (ah rs) typ (ak rows)):=by show _=_; rw [HD.out,Vl.out,Wu.out]; rfl
    have hlz:(((g::gs).length:Int) == 0)=false:=by
     have:¬ (((g::gs).length:Int)=0):=by simp; omega
     simpa using this
    obtain ⟨ln,hln⟩:∃ ln,ln=(g::gs).length:=⟨_,rfl⟩;rw [← hln] at hlz ⊢;clear hln;go_wp2;go_roundw;case rel=>exact ⟨k + 1,by omega,by go_num,TG,HB2⟩
    simp [intOf] <;> omega
  have hq3:(rows[k].e.kind == 3)=false:=by simpa using h3
  have Vl:Hid (nu (ah rs) typ rows[k].e=true):=by show _=_; unfold nu; rw [if_neg h2,if_neg h3]
  have TG:Hid (aT (ah rs) typ (ak (rows.drop (k + 1)))=aT (ah rs) typ (ak rows)):=by show _=_; rw [HD.out,Vl.out,Wu.out]; rfl
  have Uh:Hid (af w (wr.alloc (.cells #[.int .i64 rows[k].e.kind,.slice rows[k].adA rows[k].e.allow.length rows[k].capA,.string rows[k].e.over,.string rows[k].e.name,.slice rows[k].adK rows[k].e.kids.length rows[k].capK] 39))):=by rw [← hW1]; exact TB
  clear hW1;go_wp2;go_roundw;case rel=>exact ⟨k + 1,by omega,by go_num,TG,Uh⟩
  simp [intOf] <;> omega
 have HN:Hid (aT (ah rs) typ (ak rows)=true):=by show _=_; rw [← HP.out,List.drop_of_length_le (by omega)]; rfl
 go_wp2;go_ret;exact ⟨by rw [HN.out]; rfl,HB.out⟩
end Go.Proofs.YtajkkeikihhejaaGreat
