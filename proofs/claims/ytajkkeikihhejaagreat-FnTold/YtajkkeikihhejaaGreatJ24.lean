/- Contract of the program's look whether a tuple fits its table. -/
import Derived.Test.YtajkkeikihhejaaGreatSq
import Derived.Test.YtajkkeikihhejaaGreatJ23
import Derived.WideKeyEntry
open Go.Proofs.Tryz
set_option maxHeartbeats 80000000
namespace Go.Proofs.YtajkkeikihhejaaGreat
open Go.ChangeShapes Go.WideShapes Go.ChangeAt Go.RowKit Go.Maps
open Pl
def nE (a:Al) (e:Ex):Bool:=decide (e.kind=1) && dF e.allow e.allow.length a
def xX (ts:List Ty) (ty rel:ByteArray) (a:Al):Bool:=(aA ts ty rel).any (nE a)
theorem fit_drop (a:Al) (rows:List ER) (k:Nat) (h:k < rows.length):(ak (rows.drop k)).any (nE a)=(nE a rows[k].e || (ak (rows.drop (k + 1))).any (nE a)):=by
 rw [gH _ _ h]; rfl
set_option maxRecDepth 100000 in
theorem OM (b n:Nat) (rs:List TR) (ad:Option Addr) (M:ByteArray × ByteArray→Option Value) (oa ob r c d s:bH) (w:af) (hV:aM dQ prog 94 w b n M) (hT:Tab rs M) (hs:kX w ad rs) (hl:∀ r ∈ rs,r.light) (ho:oa.size≤maxLen) (hr:r.size≤maxLen) :
  Calls prog 100 #[.map (some b),.agg #[.string oa,.string ob,.string r,.string c,.string d,.string s]] w fun e w'=>e=.returned (.bool (xX (ae rs) oa r ⟨c,s⟩))∧ag w w':=by
 have HT:=az hT;have HS:=az hs;have HL:=az hl;obtain ⟨kl,hkl⟩:=jC (oa,r) ho hr;have Vo:Hid (keyOf prog 94 (dQ (oa,r))=some kl):=hkl;obtain ⟨W0,hW0⟩:∃ W0,W0=(w.alloc (.cells #[.string oa,.string ob,.string r,.string c,.string d,.string s] 46)).alloc (.cells #[.string c,.string s] 43):=⟨_,rfl⟩;have hal:ag w W0:=by
  rw [hW0]
  repeat (first | exact TT _ _ | refine Below.alloc ?_ (by first | (simp; done) | (simp; omega)) _)
 have HB0:=az hal;have ZY:=az (hV.below hal);have VG:Hid (W0.cell? ⟨w.heap.size + 1,0,none⟩=some (.string c)∧W0.cell? ⟨w.heap.size + 1,1,none⟩=some (.string s)∧w.heap.size + 1 < W0.heap.size):=⟨by rw [hW0]; simp,by rw [hW0]; simp,by rw [hW0]; simp⟩;obtain ⟨rows,UD,capE,HM,HE,HF⟩:∃ (rows:List ER) (UD:Option Addr) (capE:Nat),Hid ((M (oa,r)).getD (.slice none 0 0)=.slice UD rows.length capE)∧Hid (ak rows=aA (ae rs) oa r)∧Hid (pO rs UD rows):=by
  cases e:M (oa,r) with
  | none=>exact ⟨[],none,0,rfl,by show _=_; unfold aA; rw [HT.out.no _ e]; rfl,.inl rfl⟩
  | some v =>
   obtain ⟨t,ZZ,q,hq,-,rfl,e1,-⟩:=HT.out.yes _ v e;exact ⟨q.rows,q.ad,q.cap,rfl,by show _=_; unfold aA; rw [e1]; rfl,.inr ⟨t,ZZ,q,hq,rfl,rfl⟩⟩
 have Vl:=HF.out.light HL.out;have HLE1:rows.length≤1048576:=Vl.1;have HLE2:Hid (∀ q ∈ rows,q.e.light):=Vl.2;have WK:Hid (iH w UD rows):=HF.out.sl HS.out;clear hV hT hs hl hkl hal Vl;go_enter func100,ntmps100;go_wp2_with (at_lookup; rw [← hW0]; refine jB _ rfl _ _ 91 rfl 94 33 ic underlying91 (lG _) b n M rfl ZY.out (oa,r) kl rfl Vo.out ?_; rw [HM.out]; clear hW0);go_loopw [23] (fun i wr=>∃ k:Nat,k≤rows.length∧i=.int .i64 k∧Hid ((ak (rows.drop k)).any (nE ⟨c,s⟩)=(ak rows).any (nE ⟨c,s⟩))∧Hid (ag w wr)∧Hid (wr.cell? ⟨w.heap.size + 1,0,none⟩=some (.string c)∧wr.cell? ⟨w.heap.size + 1,1,none⟩=some (.string s)∧w.heap.size + 1 < wr.heap.size)) (fun i _=>rows.length - (intOf i).toNat);case atStart=>exact ⟨0,TW _,rfl,rfl,HB0,VG⟩
 clear HB0 VG ZY;obtain ⟨k,hk,rfl,HP,HB,HC⟩:=hrel;by_cases hlt:k < rows.length
 ·rcases WK.out.below HB.out with hnil | ⟨bE,offE,Ye,hbE,Z0,hok⟩
  ·rw [hnil] at hlt; simp at hlt
  obtain ⟨t0,t1,t2,t3,t4⟩:=Z0 k hlt;have VF:Hid (rows[k].ok wr):=hok _ (TQ hlt);have lgA:rows[k].e.allow.length≤1048576:=(HLE2.out _ (TQ hlt)).1;have hk1:=bB k;have hk2:(k:Int) < (rows.length:Int):=by omega
  obtain ⟨x0,x1,x2⟩:=HC.out;have HD:Hid ((ak rows).any (nE ⟨c,s⟩)=(nE ⟨c,s⟩ rows[k].e || (ak (rows.drop (k + 1))).any (nE ⟨c,s⟩))):=by show _=_; rw [← HP.out]; exact fit_drop _ _ _ hlt
  obtain ⟨W1,hW1⟩:∃ W1,W1=wr.alloc (.cells #[.int .i64 rows[k].e.kind,.slice rows[k].adA rows[k].e.allow.length rows[k].capA,.string rows[k].e.over,.string rows[k].e.name,.slice rows[k].adK rows[k].e.kids.length rows[k].capK] 39):=⟨_,rfl⟩;have hal:ag wr W1:=by rw [hW1]; exact (TT _ _).alloc (TS _) _
  have HB1:=jP HB hal;have VI:Hid (W1.cell? ⟨w.heap.size + 1,0,none⟩=some (.string c)∧W1.cell? ⟨w.heap.size + 1,1,none⟩=some (.string s)∧w.heap.size + 1 < W1.heap.size):=⟨aG hal x2 x0,aG hal x2 x1,TP x2 hal.size⟩;have HA1:Hid (jM W1 rows[k].adA rows[k].e.allow):=VF.out.1.below hal;rw [Ye];clear Z0 hok hal HC;by_cases h1:rows[k].e.kind=1
  ·have hq1:(rows[k].e.kind == 1)=true:=by simpa using h1
   have WR:Hid (nE ⟨c,s⟩ rows[k].e=dF rows[k].e.allow rows[k].e.allow.length ⟨c,s⟩):=by show _=_; unfold nE; simp [h1]
   replace h1:Hid (rows[k].e.kind=1):=h1;go_wp2_with fail;rw [← hW1];refine (uX rows[k].adA rows[k].e.allow.length rows[k].capA rows[k].e.allow ⟨c,s⟩ _ (TS _) lgA HA1.out).mono ?_;rintro e w2 ⟨rfl,hb2⟩;have HB2:=jP HB1 hb2;have Vd:Hid (w2.cell? ⟨w.heap.size + 1,0,none⟩=some (.string c)∧w2.cell? ⟨w.heap.size + 1,1,none⟩=some (.string s)∧w.heap.size + 1 < w2.heap.size):=⟨aG hb2 VI.out.2.2 VI.out.1,aG hb2 VI.out.2.2 VI.out.2.1,TP VI.out.2.2 hb2.size⟩;clear hb2 hW1 t0 t1 t2 t3 t4 x0 x1;cases hz:dF rows[k].e.allow rows[k].e.allow.length ⟨c,s⟩;case true=>
    have HN:Hid (xX (ae rs) oa r ⟨c,s⟩=true):=by show _=_; unfold xX; rw [← HE.out,HD.out,WR.out,hz]; rfl
    go_wp2;go_ret;exact ⟨by rw [HN.out]; rfl,HB2.out⟩
   have UI:Hid ((ak (rows.drop (k + 1))).any (nE ⟨c,s⟩)=(ak rows).any (nE ⟨c,s⟩)):=by show _=_; rw [HD.out,WR.out,hz]; rfl
   go_wp2;go_roundw;case rel=>exact ⟨k + 1,by omega,by go_num,UI,HB2,Vd⟩
   simp [intOf] <;> omega
  have hq1:(rows[k].e.kind == 1)=false:=by simpa using h1
  have UI:Hid ((ak (rows.drop (k + 1))).any (nE ⟨c,s⟩)=(ak rows).any (nE ⟨c,s⟩)):=by show _=_; rw [HD.out]; simp [nE,h1]
  have U4:Hid (ag w (wr.alloc (.cells #[.int .i64 rows[k].e.kind,.slice rows[k].adA rows[k].e.allow.length rows[k].capA,.string rows[k].e.over,.string rows[k].e.name,.slice rows[k].adK rows[k].e.kids.length rows[k].capK] 39))):=by rw [← hW1]; exact HB1
  have HCX:Hid ((wr.alloc (.cells #[.int .i64 rows[k].e.kind,.slice rows[k].adA rows[k].e.allow.length rows[k].capA,.string rows[k].e.over,.string rows[k].e.name,.slice rows[k].adK rows[k].e.kids.length rows[k].capK] 39)).cell? ⟨w.heap.size + 1,0,none⟩=some (.string c)∧(wr.alloc (.cells #[.int .i64 rows[k].e.kind,.slice rows[k].adA rows[k].e.allow.length rows[k].capA,.string rows[k].e.over,.string rows[k].e.name,.slice rows[k].adK rows[k].e.kids.length rows[k].capK] 39)).cell? ⟨w.heap.size + 1,1,none⟩=some (.string s)∧w.heap.size + 1 < (wr.alloc (.cells #[.int .i64 rows[k].e.kind,.slice rows[k].adA rows[k].e.allow.length rows[k].capA,.string rows[k].e.over,.string rows[k].e.name,.slice rows[k].adK rows[k].e.kids.length rows[k].capK] 39)).heap.size):=by rw [← hW1]; exact VI
  clear hW1;go_wp2;go_roundw;case rel=>exact ⟨k + 1,by omega,by go_num,UI,U4,HCX⟩
  simp [intOf] <;> omega
 have HN:Hid (xX (ae rs) oa r ⟨c,s⟩=false):=by show _=_; unfold xX; rw [← HE.out,← HP.out,List.drop_of_length_le (by omega)]; rfl
 go_wp2;go_ret;exact ⟨by rw [HN.out]; rfl,HB.out⟩
open Go.ChangeMaps (setBlock heap_setBlock_same heap_setBlock_other)
section
variable {K:Type} {enc:K→Value} {P:Program} {k:TypeId} {w:World} {b n:Nat} {M:K→Option Value}
theorem aM.of_block {w':af} (h:aM enc P k w b n M) (e:w'.heap[b]?=w.heap[b]?):aM enc P k w' b n M:=by
 obtain ⟨D,⟨es,clock,hb,r⟩,h2⟩:=h;exact ⟨D,⟨es,clock,e.trans hb,r⟩,h2⟩
theorem qI {w:af} {b:Nat} {es es':Array MapEntry} {c c':Nat} (hb:w.heap[b]?=some (.map es c)):w.grownBy (setBlock w b (.map es' c')) (some b) :=
 ⟨rfl,rfl,rfl,by simp [setBlock],fun i _ hi=>heap_setBlock_other hb _ (fun e=>hi (by rw [e]))⟩
theorem aM.entry [DecidableEq K] {t e:TypeId} (h:aM enc P k w b n M) (L:WideMaps.KeyLaw P k) (hinj:∀ x y,enc x=enc y→x=y) (ht:P.underlying t=some (.map k e)) {z:Value} (hz:∀ u:World,(zeroValue e).run P u=.ok z u) (hn:n < maxLen) {x:K} {kl:Lit} (hkey:keyOf P k (enc x)=some kl) :
  ∃ (st:Nat) (w1:World),(Instr.mapEntry t (.map (some b)) (enc x)).run P w=.ok (.tuple #[(M x).getD z,goInt st]) w1∧w.grownBy w1 (some b) ∧
   ∀ (w2:World) (val:Value),w2.heap[b]?=w1.heap[b]?→∃ w3,(Instr.entryStore t (.map (some b)) (goInt st) val).run P w2=.ok () w3∧aM enc P k w3 b (n + 1) (lc M x (some val))∧w2.grownBy w3 (some b):=by
 have LK:=Keyed.of_law L;have hlook:=h.look LK ht (hz w) hkey;have hst:=fun v=>h.store LK hinj ht hn hkey v;obtain ⟨D,⟨es,clock,hb,F,hs,hD⟩,h2⟩:=h;obtain ⟨v0,st,es1,clock1,hrun,hv0,hback⟩:=WideElems.entry_then_store L ht hz hb F hkey;have hb1:(setBlock w b (.map es1 clock1)).heap[b]?=some (.map es1 clock1):=heap_setBlock_same hb _;have ev:v0=(M x).getD z:=by
  have hl:=hlook;rcases Maps.fit_look false LK ht (hz w) hb F hkey with ⟨VV,hno,-⟩ | ⟨e0,y,hmem,hek,VV,-,-,-⟩
  ·rw [hl] at VV;injection VV with e1;rcases hv0 with ⟨e0,hm,hk0,-⟩ | ⟨-,hz0⟩
   ·exact absurd hk0 (hno e0 hm)
   rw [hz0,e1]; rfl
  rw [hl] at VV;injection VV with e1;rcases hv0 with ⟨e1',hm,hk0,hv⟩ | ⟨hno,-⟩
  ·have hnd:=F.stamped.2.2;have:e1'=e0:=by
    have h3:e1'.key=e0.key:=by rw [hk0,hek]
    obtain ⟨i,hi,hie⟩:=List.mem_iff_getElem.1 hm;obtain ⟨j,hj,hje⟩:=List.mem_iff_getElem.1 hmem;have h4:(es.toList.map (·.key))[i]'(by simpa using hi)=(es.toList.map (·.key))[j]'(by simpa using hj):=by simp only [List.getElem_map,hie,hje]; exact h3
    have h6:=List.pairwise_iff_getElem.1 hnd;have h5:i=j:=by
     rcases Nat.lt_trichotomy i j with hl | hl | hl
     ·exact absurd h4 (h6 i j _ _ hl)
     ·exact hl
     exact absurd h4.symm (h6 j i _ _ hl)
    subst h5;rw [← hie,← hje]
   rw [hv,this,e1]; rfl
  exact absurd hek (hno e0 hmem)
 refine ⟨st,_,by rw [hrun,ev],qI hb,fun w2 val hw2=>?_⟩;have hw2':w2.heap[b]?=some (.map es1 clock1):=hw2.trans hb1;obtain ⟨es',clock',hr1,hr2⟩:=hback w2 val hw2';obtain ⟨w',hr3,hM',-⟩:=hst val;rw [hr2] at hr3;injection hr3 with _ e3;refine ⟨_,hr1,hM'.of_block ?_,qI hw2'⟩;rw [← e3,heap_setBlock_same hb,heap_setBlock_same hw2']
end
section
variable {K:Type} {enc:K→Value} {P:Program} (w:World) {ops:Array Oper} {rest:List Oper} {o:Oper} {a:Act} {Q:Exit→Act→World→Prop}
theorem BJ [DecidableEq K] (hg:o.guard=none) (m x:Operand) (t:TypeId) (hop:o.op=Op.mapEntry t m x) (k e:TypeId) (L:WideMaps.KeyLaw P k) (hinj:∀ x y,enc x=enc y→x=y) (ht:P.underlying t=some (.map k e)) {z:Value} (hz:∀ u:World,(zeroValue e).run P u=.ok z u) (b n:Nat) (M:K→Option Value)
  (hm:a.eval m=.map (some b)) (hV:aM enc P k w b n M) (hn:n < maxLen) (y:K) (kl:Lit) (hx:a.eval x=enc y) (hkey:keyOf P k (enc y)=some kl)
  (hK:∀ (st:Nat) (w1:World),w.grownBy w1 (some b)→(∀ (w2:World) (val:Value),w2.heap[b]?=w1.heap[b]?→∃ w3,(Instr.entryStore t (.map (some b)) (goInt st) val).run P w2=.ok () w3∧aM enc P k w3 b (n + 1) (lc M y (some val))∧w2.grownBy w3 (some b)) →
   wpList P ops Q rest (a.put o.dst (.tuple #[(M y).getD z,goInt st])) w1):wpList P ops Q (o::rest) a w:=by
 refine wpList_plain hg fun K' hK'=>?_;obtain ⟨st,w1,hrun,h1,h2⟩:=hV.entry L hinj ht hz hn hkey;unfold Oper.wp;simp [execOp,hop,hm,hx,hrun,Result.andThen];exact hK' _ _ (hK st w1 h1 h2)
theorem tN (hg:o.guard=none) (m s v:Operand) (t:TypeId) (hop:o.op=Op.entryStore t m s v) (b st:Nat) (hm:a.eval m=.map (some b)) (hs:a.eval s=goInt st) (u:Value) (hv:a.eval v=u) (k:TypeId) (n:Nat) (M:K→Option Value)
  (hback:∃ w3,(Instr.entryStore t (.map (some b)) (goInt st) u).run P w=.ok () w3∧aM enc P k w3 b n M∧w.grownBy w3 (some b))
  (hK:∀ w',aM enc P k w' b n M→w.grownBy w' (some b)→wpList P ops Q rest (a.put o.dst undef) w'):wpList P ops Q (o::rest) a w:=by
 refine wpList_plain hg fun K' hK'=>?_;obtain ⟨w3,hrun,h1,h2⟩:=hback;unfold Oper.wp;simp [execOp,hop,hm,hs,hv,hrun,Result.andThen];exact hK' _ _ (hK w3 h1 h2)
end
theorem Au (t:TR) (g:Nat) (nm:bH) (w:af) (hg:g < w.heap.size) (hc:w.cell? ⟨g,0,none⟩=some (.string nm)) :
  Calls prog 223 #[.agg #[.string t.name,.slice t.ad t.rows.length t.cap],.pointer (some ⟨g,0,none⟩)] w fun e w'=>e=.returned (.bool (t.name.toList == nm.toList))∧ag w w':=by
 go_enter func223,ntmps223;go_wp2;go_ret;exact ⟨rfl,(TT _ _).alloc (TS _) _⟩
theorem Dc (rs:List TR) (k:Nat) (h:k < rs.length) (nm:bH):lh (ae (rs.drop k)) nm=((rs[k].name.toList == nm.toList) || lh (ae (rs.drop (k + 1))) nm):=by
 rw [nN _ _ h]; rfl
theorem Av (ad:Option Addr) (cap:Nat) (rs:List TR) (g:Nat) (nm:bH) (w:af) (hlen:rs.length≤1048576) (hs:kX w ad rs) (hg:g < w.heap.size) (hc:w.cell? ⟨g,0,none⟩=some (.string nm)) :
  Calls prog 241 #[.slice ad rs.length cap,.func (Fn.func 223) #[] #[.pointer (some ⟨g,0,none⟩)]] w fun e w'=>(∃ r:Int,e=.returned (.int .i64 r)∧decide (0≤r)=lh (ae rs) nm)∧ag w w':=by
 have HS:=az hs;have HC:Hid (w.cell? ⟨g,0,none⟩=some (.string nm)):=hc;clear hs hc;go_enter func241,ntmps241;go_wp2_with fail;go_loopw [8] (fun i wr=>∃ k:Nat,k≤rs.length∧i=.int .i64 k∧Hid (lh (ae (rs.drop k)) nm=lh (ae rs) nm)∧Hid (ag w wr)) (fun i _=>rs.length - (intOf i).toNat);case atStart=>exact ⟨0,TW _,rfl,rfl,TT _ _⟩
 obtain ⟨k,hk,rfl,HP,HB⟩:=hrel;by_cases hlt:k < rs.length
 ·rcases HS.out.below HB.out with rfl | ⟨b,off,rfl,hb,hr,-⟩
  ·simp at hlt
  obtain ⟨t0,t1⟩:=hr k hlt;have hk1:=bB k;have hk2:(k:Int) < (rs.length:Int):=by omega
  have HCW:Hid (wr.cell? ⟨g,0,none⟩=some (.string nm)):=aG HB.out hg HC.out;have HGW:Hid (g < wr.heap.size):=TP hg HB.out.size;clear hr;cases he:(rs[k].name.toList == nm.toList);case true=>
   have HN:Hid (lh (ae rs) nm=true):=by show _=_; rw [← HP.out,Dc _ _ hlt,he]; rfl
   go_wp2_with (go_at_call 223; refine (Au rs[k] g nm _ HGW.out HCW.out).mono ?_; rintro e w' ⟨he2,hbx⟩; rw [he] at he2; subst he2);go_ret;exact ⟨⟨k,rfl,by rw [HN.out]; simp⟩,HB.out.trans (hbx.mono HB.out.size)⟩
  have UI:Hid (lh (ae (rs.drop (k + 1))) nm=lh (ae rs) nm):=by show _=_; rw [← HP.out,Dc _ _ hlt,he]; rfl
  go_wp2_with (go_at_call 223; refine (Au rs[k] g nm _ HGW.out HCW.out).mono ?_; rintro e w' ⟨he2,hbx⟩; rw [he] at he2; subst he2);go_roundw;case rel=>exact ⟨k + 1,by omega,by go_num,UI,HB.out.trans (hbx.mono HB.out.size)⟩
  simp [intOf] <;> omega
 have HN:Hid (lh (ae rs) nm=false):=by show _=_; rw [← HP.out,List.drop_of_length_le (by omega)]; rfl
 go_wp2;go_ret;exact ⟨⟨-1,rfl,by rw [HN.out]; simp⟩,HB.out⟩
theorem uY (ad:Option Addr) (cap:Nat) (rs:List TR) (g:Nat) (nm:bH) (w:af) (hlen:rs.length≤1048576) (hs:kX w ad rs) (hg:g < w.heap.size) (hc:w.cell? ⟨g,0,none⟩=some (.string nm)) :
  Calls prog 222 #[.slice ad rs.length cap,.func (Fn.func 223) #[] #[.pointer (some ⟨g,0,none⟩)]] w fun e w'=>e=.returned (.bool (lh (ae rs) nm))∧ag w w':=by
 go_enter func222,ntmps222;go_wp2_with fail;refine (Av ad cap rs g nm _ hlen hs hg hc).mono ?_;rintro e w' ⟨⟨r,rfl,hr⟩,hbx⟩;have HR:Hid (decide (0≤r)=lh (ae rs) nm):=hr;clear hr hs hc;go_wp2;go_ret;exact ⟨by rw [← HR.out]; rfl,hbx⟩
set_option maxRecDepth 100000 in
theorem Aw (ad adA:Option Addr) (cap capA:Nat) (rs:List TR) (b n:Nat) (M:ByteArray × ByteArray→Option Value) (xs:List Al) (w:af) (hlen:rs.length≤1048576) (hs:kX w ad rs) (hV:aM dQ prog 94 w b n M) (hT:Tab rs M) (hla:xs.length≤1048576) (hsa:jM w adA xs) (hfa:∀ a ∈ xs,a.fits) :
  Calls prog 183 #[.slice ad rs.length cap,.map (some b),.slice adA xs.length capA] w fun e w'=>e=.returned (.bool (oV (ae rs) xs))∧ag w w':=by
 have HS:=az hs;have HV:Hid (aM dQ prog 94 w b n M):=hV;have HT:=az hT;have HA:=az hsa;have HFA:=az hfa;clear hs hV hT hsa hfa;go_enter func183,ntmps183;go_wp2_with fail;go_loopw [11] (fun i wr=>∃ k:Nat,k≤xs.length∧i=.int .i64 k∧Hid (nO (ae rs) xs k=true)∧Hid (ag w wr)) (fun i _=>xs.length - (intOf i).toNat);case atStart=>exact ⟨0,TW _,rfl,zB _ _,TT _ _⟩
 obtain ⟨k,hk,rfl,HP,HB⟩:=hrel;by_cases hlt:k < xs.length
 ·rcases HA.out.below HB.out with rfl | ⟨ba,Wx,rfl,Yq,hra⟩
  ·simp at hlt
  obtain ⟨t0,t1⟩:=hra k hlt;have hk1:=bB k;have hk2:(k:Int) < (xs.length:Int):=by omega
  have zA:=HFA.out _ (TQ hlt);have z1:xs[k].t.size≤maxLen:=zA.1;have z2:xs[k].s.size≤maxLen:=zA.2;have HI:Hid ((M (xs[k].t,xs[k].s)).isSome=!(aA (ae rs) xs[k].t xs[k].s).isEmpty):=HT.out.some_iff (xs[k].t,xs[k].s);obtain ⟨W1,hW1⟩:∃ W1,W1=wr.alloc (.cells #[.string xs[k].t,.string xs[k].s] 43):=⟨_,rfl⟩;have hal:ag wr W1:=by rw [hW1]; exact (TT _ _).alloc (TS _) _
  have UG:=jP HB hal;have g0:W1.cell? ⟨wr.heap.size,0,none⟩=some (.string xs[k].t):=by rw [hW1]; simp
  have g1:W1.cell? ⟨wr.heap.size,1,none⟩=some (.string xs[k].s):=by rw [hW1]; simp
  have hgl:wr.heap.size < W1.heap.size:=by rw [hW1]; simp
  clear hra hal zA;go_wp2_with fail;rw [← hW1];clear hW1 t0 t1;refine (uY ad cap rs wr.heap.size xs[k].t _ hlen (HS.out.below UG.out) hgl g0).mono ?_;rintro e w2 ⟨rfl,hb2⟩;have HB2:=jP UG hb2;replace g0:=aG hb2 hgl g0;replace g1:=aG hb2 hgl g1;have Y7:=az (HV.out.below HB2.out);clear hb2 hgl;cases ht:lh (ae rs) xs[k].t;case false=>
   have HN:Hid (oV (ae rs) xs=false):=uG _ _ k hlt (by simp [pQ,ht]);go_wp2;go_ret;exact ⟨by rw [HN.out]; rfl,HB2.out⟩
  cases he:xs[k].s.toList.isEmpty;case true=>
   have UI:Hid (nO (ae rs) xs (k + 1)=true):=by show _=_; rw [oW _ _ _ hlt,HP.out]; simp [pQ,ht,he]
   go_wp2;go_roundw;case rel=>exact ⟨k + 1,by omega,by go_num,UI,HB2⟩
   simp [intOf] <;> omega
  cases hz:(M (xs[k].t,xs[k].s)).isSome;case false=>
   have HN:Hid (oV (ae rs) xs=false):=uG _ _ k hlt (by have:=HI.out; rw [hz] at this; simp [pQ,ht,he]; simpa using this.symm);go_wp2_with (go_at_call 184; refine (yL b n M xs[k].t xs[k].s _ z1 z2 Y7.out).mono ?_; rintro e w' ⟨he2,rfl⟩; rw [hz] at he2; subst he2);go_ret;exact ⟨by rw [HN.out]; rfl,HB2.out⟩
  have UI:Hid (nO (ae rs) xs (k + 1)=true):=by show _=_; rw [oW _ _ _ hlt,HP.out]; have:=HI.out; rw [hz] at this; simp [pQ,ht,he]; simpa using this.symm
  go_wp2_with (go_at_call 184; refine (yL b n M xs[k].t xs[k].s _ z1 z2 Y7.out).mono ?_; rintro e w' ⟨he2,rfl⟩; rw [hz] at he2; subst he2);go_roundw;case rel=>exact ⟨k + 1,by omega,by go_num,UI,HB2⟩
  simp [intOf] <;> omega
 have HN:Hid (oV (ae rs) xs=true):=by
  have:=HP.out;obtain rfl:k=xs.length:=by omega
  unfold nO at this;rw [Ug] at this;exact this
 go_wp2;go_ret;exact ⟨by rw [HN.out]; rfl,HB.out⟩
theorem tO {e:Ex} (h:ax e=true) (h1:e.kind ≠ 1):e.allow=[]:=by
 unfold ax at h;rw [if_neg h1] at h;split at h
 ·simp only [TU,Ud] at h; exact Ui.1 h.1.1.2
 split at h
 ·simp only [TU,Ud] at h; exact Ui.1 h.1.2
 split at h
 ·simp only [TU,Ud] at h; exact Ui.1 h.1.1.2
 split at h
 ·simp only [TU,Ud] at h; exact Ui.1 h.1.1.2
 cases h
theorem Jb (ts:List Ty) (typ:bH) (rows:List ER) (k:Nat) (h:k < rows.length):aR ts typ (ak (rows.drop k))=if oV ts rows[k].e.allow && ll ts typ rows[k].e then aR ts typ (ak (rows.drop (k + 1))) else false:=by
 rw [gH _ _ h]; rfl
theorem Gh (ts:List Ty) (typ:bH) (e:Ex) (h:e.kind=3):ll ts typ e=!(gy ts typ e.over e.name).isEmpty:=by
 unfold ll gy;rw [if_neg (by omega),if_pos h];cases bu (aA ts typ e.over) <;> simp
set_option maxRecDepth 100000 in
theorem Ay (ad UD:Option Addr) (cap capE:Nat) (rs:List TR) (b n:Nat) (M:ByteArray × ByteArray→Option Value) (typ:bH) (rows:List ER) (w:af) (hlen:rs.length≤1048576) (hs:kX w ad rs) (hl:∀ r ∈ rs,r.light) (hf:∀ r ∈ rs,r.fits) (hV:aM dQ prog 94 w b n M) (hT:Tab rs M) (ht:typ.size≤maxLen) (hle:rows.length≤1048576) (hse:iH w UD rows) (ZU:∀ q ∈ rows,q.e.light) (hfE:∀ q ∈ rows,q.e.fits) (hnb:∀ q ∈ rows,ax q.e=true) :
  Calls prog 132 #[.slice ad rs.length cap,.map (some b),.string typ,.slice UD rows.length capE] w fun e w'=>e=.returned (.bool (aR (ae rs) typ (ak rows)))∧ag w w':=by
 have HS:=az hs;have HL:=az hl;have UL:=az hf;have HV:Hid (aM dQ prog 94 w b n M):=hV;have HT:=az hT;have HE:=az hse;have Vl:=az ZU;have WR:=az hfE;have HNB:Hid (∀ q ∈ rows,ax q.e=true):=hnb;clear hs hl hf hV hT hse ZU hfE hnb;go_enter func132,ntmps132;go_wp2_with fail;go_loopw [13] (fun i wr=>∃ k:Nat,k≤rows.length∧i=.int .i64 k∧Hid (aR (ae rs) typ (ak (rows.drop k))=aR (ae rs) typ (ak rows))∧Hid (ag w wr)) (fun i _=>rows.length - (intOf i).toNat);case atStart=>exact ⟨0,TW _,rfl,rfl,TT _ _⟩
 obtain ⟨k,hk,rfl,HP,HB⟩:=hrel;by_cases hlt:k < rows.length
 ·rcases HE.out.below HB.out with rfl | ⟨bE,offE,rfl,hbE,Z0,hokE⟩
  ·simp at hlt
  obtain ⟨t0,t1,t2,t3,t4⟩:=Z0 k hlt;have HOKW:Hid (rows[k].ok w):=HE.out.mem (TQ hlt);have hk1:=bB k;have hk2:(k:Int) < (rows.length:Int):=by omega
  have lgA:rows[k].e.allow.length≤1048576:=(Vl.out _ (TQ hlt)).1;have HFK:Hid (rows[k].e.fits):=WR.out _ (TQ hlt);have HNK:Hid (ax rows[k].e=true):=HNB.out _ (TQ hlt);have HDR:=Jb (ae rs) typ rows k hlt;have HD:Hid (aR (ae rs) typ (ak rows)=if oV (ae rs) rows[k].e.allow && ll (ae rs) typ rows[k].e then aR (ae rs) typ (ak (rows.drop (k + 1))) else false):=by show _=_; rw [← HP.out]; exact HDR
  obtain ⟨W1,hW1⟩:∃ W1,W1=wr.alloc (.cells #[.int .i64 rows[k].e.kind,.slice rows[k].adA rows[k].e.allow.length rows[k].capA,.string rows[k].e.over,.string rows[k].e.name,.slice rows[k].adK rows[k].e.kids.length rows[k].capK] 39):=⟨_,rfl⟩;have hal:ag wr W1:=by rw [hW1]; exact (TT _ _).alloc (TS _) _
  have UG:=jP HB hal;have HVW:=az (HV.out.below UG.out);have zO:rows[k].e.over.size≤maxLen:=HFK.out.2.1;have zN:rows[k].e.name.size≤maxLen:=HFK.out.2.2.1;clear Z0 hokE hal HDR;by_cases h1:rows[k].e.kind=1
  ·have V8:Hid (ll (ae rs) typ rows[k].e=true):=by show _=_; unfold ll; rw [if_neg (by omega),if_neg (by omega)]
   have hq1:(rows[k].e.kind == 1)=true:=by simpa using h1
   replace h1:Hid (rows[k].e.kind=1):=h1;go_wp2_with fail;rw [← hW1];refine (Aw ad rows[k].adA cap rows[k].capA rs b n M rows[k].e.allow _ hlen (HS.out.below UG.out) HVW.out HT.out lgA (HOKW.out.1.below UG.out) HFK.out.1).mono ?_;rintro e w2 ⟨rfl,hb2⟩;have HB2:=jP UG hb2;clear hb2 hW1 t0 t1 t2 t3 t4;cases hz:oV (ae rs) rows[k].e.allow;case false=>
    have HN:Hid (aR (ae rs) typ (ak rows)=false):=by show _=_; rw [HD.out,hz]; rfl
    go_wp2;go_ret;exact ⟨by rw [HN.out]; rfl,HB2.out⟩
   have UI:Hid (aR (ae rs) typ (ak (rows.drop (k + 1)))=aR (ae rs) typ (ak rows)):=by show _=_; rw [HD.out,hz,V8.out]; rfl
   go_wp2;go_roundw;case rel=>exact ⟨k + 1,by omega,by go_num,UI,HB2⟩
   simp [intOf] <;> omega
  have hq1:(rows[k].e.kind == 1)=false:=by simpa using h1
  have Xk:Hid (oV (ae rs) rows[k].e.allow=true):=by show _=_; rw [tO HNK.out h1]; rfl
  by_cases h2:rows[k].e.kind=2
  ·have hq2:(rows[k].e.kind == 2)=true:=by simpa using h2
   have HI:=HT.out.some_iff (typ,rows[k].e.name);have V8:Hid (ll (ae rs) typ rows[k].e=(M (typ,rows[k].e.name)).isSome):=by show _=_; unfold ll; rw [if_pos h2,HI]
   clear HI;replace h2:Hid (rows[k].e.kind=2):=h2;go_wp2_with fail;rw [← hW1];refine (yL b n M typ rows[k].e.name _ ht zN HVW.out).mono ?_;rintro e w2 ⟨rfl,hw2⟩;rw [hw2];clear hw2 w2 hW1 t0 t1 t2 t3 t4;cases hz:(M (typ,rows[k].e.name)).isSome;case false=>
    have HN:Hid (aR (ae rs) typ (ak rows)=false):=by show _=_; rw [HD.out,V8.out,hz,Xk.out]; rfl
    go_wp2;go_ret;exact ⟨by rw [HN.out]; rfl,UG.out⟩
   have UI:Hid (aR (ae rs) typ (ak (rows.drop (k + 1)))=aR (ae rs) typ (ak rows)):=by show _=_; rw [HD.out,V8.out,hz,Xk.out]; rfl
   go_wp2;go_roundw;case rel=>exact ⟨k + 1,by omega,by go_num,UI,UG⟩
   simp [intOf] <;> omega
  have hq2:(rows[k].e.kind == 2)=false:=by simpa using h2
  by_cases h3:rows[k].e.kind=3
  ·have hq3:(rows[k].e.kind == 3)=true:=by simpa using h3
   have V8:Hid (ll (ae rs) typ rows[k].e=!(gy (ae rs) typ rows[k].e.over rows[k].e.name).isEmpty):=Gh _ _ _ h3;replace h3:Hid (rows[k].e.kind=3):=h3;go_wp2_with fail;rw [← hW1];refine (xW b n rs ad M typ rows[k] _ HVW.out HT.out (HS.out.below UG.out) HL.out UL.out ht zO zN).mono ?_;rintro e w2 ⟨⟨UJ,cap',rfl,-,-⟩,hb2⟩;have HB2:=jP UG hb2;clear hb2 hW1 t0 t1 t2 t3 t4;generalize gy (ae rs) typ rows[k].e.over rows[k].e.name=gs at V8 ⊢;cases gs with
   | nil =>
    have HN:Hid (aR (ae rs) typ (ak rows)=false):=by show _=_; rw [HD.out,V8.out,Xk.out]; rfl
    go_wp2;go_ret;exact ⟨by rw [HN.out]; rfl,HB2.out⟩
   | cons g gs =>
    have UI:Hid (aR (ae rs) typ (ak (rows.drop (k + 1)))=aR (ae rs) typ (ak rows)):=by show _=_; rw [HD.out,V8.out,Xk.out]; rfl
    have hlz:(((g::gs).length:Int) == 0)=false:=by
     have:¬ (((g::gs).length:Int)=0):=by simp; omega
     simpa using this
    obtain ⟨ln,hln⟩:∃ ln,ln=(g::gs).length:=⟨_,rfl⟩;rw [← hln] at hlz ⊢;clear hln;go_wp2;go_roundw;case rel=>exact ⟨k + 1,by omega,by go_num,UI,HB2⟩
    simp [intOf] <;> omega
  have hq3:(rows[k].e.kind == 3)=false:=by simpa using h3
  have V8:Hid (ll (ae rs) typ rows[k].e=true):=by show _=_; unfold ll; rw [if_neg h2,if_neg h3]
  have UI:Hid (aR (ae rs) typ (ak (rows.drop (k + 1)))=aR (ae rs) typ (ak rows)):=by show _=_; rw [HD.out,V8.out,Xk.out]; rfl
  have U4:Hid (ag w (wr.alloc (.cells #[.int .i64 rows[k].e.kind,.slice rows[k].adA rows[k].e.allow.length rows[k].capA,.string rows[k].e.over,.string rows[k].e.name,.slice rows[k].adK rows[k].e.kids.length rows[k].capK] 39))):=by rw [← hW1]; exact UG
  clear hW1;go_wp2;go_roundw;case rel=>exact ⟨k + 1,by omega,by go_num,UI,U4⟩
  simp [intOf] <;> omega
 have HN:Hid (aR (ae rs) typ (ak rows)=true):=by show _=_; rw [← HP.out,List.drop_of_length_le (by omega)]; rfl
 go_wp2;go_ret;exact ⟨by rw [HN.out]; rfl,HB.out⟩
end Go.Proofs.YtajkkeikihhejaaGreat
