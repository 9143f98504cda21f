/- Contracts of the program's functions on whether what a schema names is there. -/
import Derived.Test.YtajkkeikihhejaaGreatSq
import Derived.Test.YtajkkeikihhejaaGreatImplGoals
open Go.Proofs.Tryz
set_option maxHeartbeats 80000000
namespace Go.Proofs.YtajkkeikihhejaaGreat
open Go.ChangeShapes Go.WideShapes Go.ChangeAt Go.RowKit Go.Maps
open Pl
theorem Aa (t:TR) (g:Nat) (nm:bF) (w:af) (hg:g < w.heap.size) (hc:w.cell? ⟨g,0,none⟩=some (.string nm)) :
  Calls prog 223 #[.agg #[.string t.name,.slice t.ad t.rows.length t.cap],.pointer (some ⟨g,0,none⟩)] w fun e w'=>e=.returned (.bool (t.name.toList == nm.toList))∧ag w w':=by
 go_enter func223,ntmps223;go_wp2;go_ret;exact ⟨rfl,(TT _ _).alloc (TS _) _⟩
theorem CQ (rs:List TR) (k:Nat) (h:k < rs.length) (nm:bF):lc (ae (rs.drop k)) nm=((rs[k].name.toList == nm.toList) || lc (ae (rs.drop (k + 1))) nm):=by
 rw [nQ _ _ h]; rfl
theorem Ab (ad:Option Addr) (cap:Nat) (rs:List TR) (g:Nat) (nm:bF) (w:af) (hlen:rs.length≤1048576) (hs:kW w ad rs) (hg:g < w.heap.size) (hc:w.cell? ⟨g,0,none⟩=some (.string nm)) :
  Calls prog 241 #[.slice ad rs.length cap,.func (Fn.func 223) #[] #[.pointer (some ⟨g,0,none⟩)]] w fun e w'=>(∃ r:Int,e=.returned (.int .i64 r)∧decide (0≤r)=lc (ae rs) nm)∧ag w w':=by
 have HS:=az hs;have HC:Hid (w.cell? ⟨g,0,none⟩=some (.string nm)):=hc;clear hs hc;go_enter func241,ntmps241;go_wp2_with fail;go_loopw [8] (fun i wr=>∃ k:Nat,k≤rs.length∧i=.int .i64 k∧Hid (lc (ae (rs.drop k)) nm=lc (ae rs) nm)∧Hid (ag w wr)) (fun i _=>rs.length - (intOf i).toNat);case atStart=>exact ⟨0,TW _,rfl,rfl,TT _ _⟩
 obtain ⟨k,hk,rfl,HP,HB⟩:=hrel;by_cases hlt:k < rs.length
 ·rcases HS.out.below HB.out with rfl | ⟨b,off,rfl,hb,hr,-⟩
  ·simp at hlt
  obtain ⟨t0,t1⟩:=hr k hlt;have hk1:=bB k;have hk2:(k:Int) < (rs.length:Int):=by omega
  have HCW:Hid (wr.cell? ⟨g,0,none⟩=some (.string nm)):=aG HB.out hg HC.out;have HGW:Hid (g < wr.heap.size):=TP hg HB.out.size;clear hr;cases he:(rs[k].name.toList == nm.toList);case true=>
   have HN:Hid (lc (ae rs) nm=true):=by show _=_; rw [← HP.out,CQ _ _ hlt,he]; rfl
   go_wp2_with (go_at_call 223; refine (Aa rs[k] g nm _ HGW.out HCW.out).mono ?_; rintro e w' ⟨he2,hbx⟩; rw [he] at he2; subst he2);go_ret;exact ⟨⟨k,rfl,by rw [HN.out]; simp⟩,HB.out.trans (hbx.mono HB.out.size)⟩
  have UI:Hid (lc (ae (rs.drop (k + 1))) nm=lc (ae rs) nm):=by show _=_; rw [← HP.out,CQ _ _ hlt,he]; rfl
  go_wp2_with (go_at_call 223; refine (Aa rs[k] g nm _ HGW.out HCW.out).mono ?_; rintro e w' ⟨he2,hbx⟩; rw [he] at he2; subst he2);go_roundw;case rel=>exact ⟨k + 1,by omega,by go_num,UI,HB.out.trans (hbx.mono HB.out.size)⟩
  simp [intOf] <;> omega
 have HN:Hid (lc (ae rs) nm=false):=by show _=_; rw [← HP.out,List.drop_of_length_le (by omega)]; rfl
 go_wp2;go_ret;exact ⟨⟨-1,rfl,by rw [HN.out]; simp⟩,HB.out⟩
theorem uU (ad:Option Addr) (cap:Nat) (rs:List TR) (g:Nat) (nm:bF) (w:af) (hlen:rs.length≤1048576) (hs:kW w ad rs) (hg:g < w.heap.size) (hc:w.cell? ⟨g,0,none⟩=some (.string nm)) :
  Calls prog 222 #[.slice ad rs.length cap,.func (Fn.func 223) #[] #[.pointer (some ⟨g,0,none⟩)]] w fun e w'=>e=.returned (.bool (lc (ae rs) nm))∧ag w w':=by
 go_enter func222,ntmps222;go_wp2_with fail;refine (Ab ad cap rs g nm _ hlen hs hg hc).mono ?_;rintro e w' ⟨⟨r,rfl,hr⟩,hbx⟩;have HR:Hid (decide (0≤r)=lc (ae rs) nm):=hr;clear hr hs hc;go_wp2;go_ret;exact ⟨by rw [← HR.out]; rfl,hbx⟩
set_option maxRecDepth 100000 in
theorem Ac (ad adA:Option Addr) (cap capA:Nat) (rs:List TR) (b n:Nat) (M:ByteArray × ByteArray→Option Value) (xs:List Al) (w:af) (hlen:rs.length≤1048576) (hs:kW w ad rs) (hV:aM dQ prog 94 w b n M) (hT:Tab rs M) (hla:xs.length≤1048576) (hsa:jM w adA xs) (hfa:∀ a ∈ xs,a.fits) :
  Calls prog 183 #[.slice ad rs.length cap,.map (some b),.slice adA xs.length capA] w fun e w'=>e=.returned (.bool (oQ (ae rs) xs))∧ag w w':=by
 have HS:=az hs;have HV:Hid (aM dQ prog 94 w b n M):=hV;have HT:=az hT;have HA:=az hsa;have HFA:=az hfa;clear hs hV hT hsa hfa;go_enter func183,ntmps183;go_wp2_with fail;go_loopw [11] (fun i wr=>∃ k:Nat,k≤xs.length∧i=.int .i64 k∧Hid (nR (ae rs) xs k=true)∧Hid (ag w wr)) (fun i _=>xs.length - (intOf i).toNat);case atStart=>exact ⟨0,TW _,rfl,zx _ _,TT _ _⟩
 obtain ⟨k,hk,rfl,HP,HB⟩:=hrel;by_cases hlt:k < xs.length
 ·rcases HA.out.below HB.out with rfl | ⟨ba,Wn,rfl,Yl,hra⟩
  ·simp at hlt
  obtain ⟨t0,t1⟩:=hra k hlt;have hk1:=bB k;have hk2:(k:Int) < (xs.length:Int):=by omega
  have zA:=HFA.out _ (TQ hlt);have z1:xs[k].t.size≤maxLen:=zA.1;have z2:xs[k].s.size≤maxLen:=zA.2;have HI:Hid ((M (xs[k].t,xs[k].s)).isSome=!(aA (ae rs) xs[k].t xs[k].s).isEmpty):=HT.out.some_iff (xs[k].t,xs[k].s);obtain ⟨W1,hW1⟩:∃ W1,W1=wr.alloc (.cells #[.string xs[k].t,.string xs[k].s] 43):=⟨_,rfl⟩;have hal:ag wr W1:=by rw [hW1]; exact (TT _ _).alloc (TS _) _
  have UG:=jP HB hal;have g0:W1.cell? ⟨wr.heap.size,0,none⟩=some (.string xs[k].t):=by rw [hW1]; simp
  have g1:W1.cell? ⟨wr.heap.size,1,none⟩=some (.string xs[k].s):=by rw [hW1]; simp
  have hgl:wr.heap.size < W1.heap.size:=by rw [hW1]; simp
  clear hra hal zA;go_wp2_with fail;rw [← hW1];clear hW1 t0 t1;refine (uU ad cap rs wr.heap.size xs[k].t _ hlen (HS.out.below UG.out) hgl g0).mono ?_;rintro e w2 ⟨rfl,hb2⟩;have HB2:=jP UG hb2;replace g0:=aG hb2 hgl g0;replace g1:=aG hb2 hgl g1;have YZ:=az (HV.out.below HB2.out);clear hb2 hgl;cases ht:lc (ae rs) xs[k].t;case false=>
   have HN:Hid (oQ (ae rs) xs=false):=uH _ _ k hlt (by simp [pQ,ht]);go_wp2;go_ret;exact ⟨by rw [HN.out]; rfl,HB2.out⟩
  cases he:xs[k].s.toList.isEmpty;case true=>
   have UI:Hid (nR (ae rs) xs (k + 1)=true):=by show _=_; rw [oU _ _ _ hlt,HP.out]; simp [pQ,ht,he]
   go_wp2;go_roundw;case rel=>exact ⟨k + 1,by omega,by go_num,UI,HB2⟩
   simp [intOf] <;> omega
  cases hz:(M (xs[k].t,xs[k].s)).isSome;case false=>
   have HN:Hid (oQ (ae rs) xs=false):=uH _ _ k hlt (by have:=HI.out; rw [hz] at this; simp [pQ,ht,he]; simpa using this.symm);go_wp2_with (go_at_call 184; refine (yH b n M xs[k].t xs[k].s _ z1 z2 YZ.out).mono ?_; rintro e w' ⟨he2,rfl⟩; rw [hz] at he2; subst he2);go_ret;exact ⟨by rw [HN.out]; rfl,HB2.out⟩
  have UI:Hid (nR (ae rs) xs (k + 1)=true):=by show _=_; rw [oU _ _ _ hlt,HP.out]; have:=HI.out; rw [hz] at this; simp [pQ,ht,he]; simpa using this.symm
  go_wp2_with (go_at_call 184; refine (yH b n M xs[k].t xs[k].s _ z1 z2 YZ.out).mono ?_; rintro e w' ⟨he2,rfl⟩; rw [hz] at he2; subst he2);go_roundw;case rel=>exact ⟨k + 1,by omega,by go_num,UI,HB2⟩
  simp [intOf] <;> omega
 have HN:Hid (oQ (ae rs) xs=true):=by
  have:=HP.out;obtain rfl:k=xs.length:=by omega
  unfold nR at this;rw [Ug] at this;exact this
 go_wp2;go_ret;exact ⟨by rw [HN.out]; rfl,HB.out⟩
theorem tQ {e:Ex} (h:av e=true) (h1:e.kind ≠ 1):e.allow=[]:=by
 unfold av at h;rw [if_neg h1] at h;split at h
 ·simp only [TU,Ud] at h; exact Ui.1 h.1.1.2
 split at h
 ·simp only [TU,Ud] at h; exact Ui.1 h.1.2
 split at h
 ·simp only [TU,Ud] at h; exact Ui.1 h.1.1.2
 split at h
 ·simp only [TU,Ud] at h; exact Ui.1 h.1.1.2
 cases h
theorem IV (ts:List Ty) (typ:bF) (rows:List ER) (k:Nat) (h:k < rows.length):aR ts typ (aj (rows.drop k))=if oQ ts rows[k].e.allow && lh ts typ rows[k].e then aR ts typ (aj (rows.drop (k + 1))) else false:=by
 rw [gI _ _ h]; rfl
theorem F9 (ts:List Ty) (typ:bF) (e:Ex) (h:e.kind=3):lh ts typ e=!(gy ts typ e.over e.name).isEmpty:=by
 unfold lh gy;rw [if_neg (by omega),if_pos h];cases bu (aA ts typ e.over) <;> simp
set_option maxRecDepth 100000 in
theorem Ad (ad UC:Option Addr) (cap capE:Nat) (rs:List TR) (b n:Nat) (M:ByteArray × ByteArray→Option Value) (typ:bF) (rows:List ER) (w:af) (hlen:rs.length≤1048576) (hs:kW w ad rs) (hl:∀ r ∈ rs,r.light) (hf:∀ r ∈ rs,r.fits) (hV:aM dQ prog 94 w b n M) (hT:Tab rs M) (ht:typ.size≤maxLen) (hle:rows.length≤1048576) (hse:iH w UC rows) (ZH:∀ q ∈ rows,q.e.light) (hfE:∀ q ∈ rows,q.e.fits) (hnb:∀ q ∈ rows,av q.e=true) :
  Calls prog 132 #[.slice ad rs.length cap,.map (some b),.string typ,.slice UC rows.length capE] w fun e w'=>e=.returned (.bool (aR (ae rs) typ (aj rows)))∧ag w w':=by
 have HS:=az hs;have HL:=az hl;have UL:=az hf;have HV:Hid (aM dQ prog 94 w b n M):=hV;have HT:=az hT;have HE:=az hse;have Vj:=az ZH;have WH:=az hfE;have HNB:Hid (∀ q ∈ rows,av q.e=true):=hnb;clear hs hl hf hV hT hse ZH hfE hnb;go_enter func132,ntmps132;go_wp2_with fail;go_loopw [13] (fun i wr=>∃ k:Nat,k≤rows.length∧i=.int .i64 k∧Hid (aR (ae rs) typ (aj (rows.drop k))=aR (ae rs) typ (aj rows))∧Hid (ag w wr)) (fun i _=>rows.length - (intOf i).toNat);case atStart=>exact ⟨0,TW _,rfl,rfl,TT _ _⟩
 obtain ⟨k,hk,rfl,HP,HB⟩:=hrel;by_cases hlt:k < rows.length
 ·rcases HE.out.below HB.out with rfl | ⟨bE,Z8,rfl,Z9,ZN,hokE⟩
  ·simp at hlt
  obtain ⟨t0,t1,t2,t3,t4⟩:=ZN k hlt;have HOKW:Hid (rows[k].ok w):=HE.out.mem (TQ hlt);have hk1:=bB k;have hk2:(k:Int) < (rows.length:Int):=by omega
  have lgA:rows[k].e.allow.length≤1048576:=(Vj.out _ (TQ hlt)).1;have HFK:Hid (rows[k].e.fits):=WH.out _ (TQ hlt);have HNK:Hid (av rows[k].e=true):=HNB.out _ (TQ hlt);have HDR:=IV (ae rs) typ rows k hlt;have HD:Hid (aR (ae rs) typ (aj rows)=if oQ (ae rs) rows[k].e.allow && lh (ae rs) typ rows[k].e then aR (ae rs) typ (aj (rows.drop (k + 1))) else false):=by show _=_; rw [← HP.out]; exact HDR
  obtain ⟨W1,hW1⟩:∃ W1,W1=wr.alloc (.cells #[.int .i64 rows[k].e.kind,.slice rows[k].adA rows[k].e.allow.length rows[k].capA,.string rows[k].e.over,.string rows[k].e.name,.slice rows[k].adK rows[k].e.kids.length rows[k].capK] 39):=⟨_,rfl⟩;have hal:ag wr W1:=by rw [hW1]; exact (TT _ _).alloc (TS _) _
  have UG:=jP HB hal;have HVW:=az (HV.out.below UG.out);have zO:rows[k].e.over.size≤maxLen:=HFK.out.2.1;have zN:rows[k].e.name.size≤maxLen:=HFK.out.2.2.1;clear ZN hokE hal HDR;by_cases h1:rows[k].e.kind=1
  ·have VZ:Hid (lh (ae rs) typ rows[k].e=true):=by show _=_; unfold lh; rw [if_neg (by omega),if_neg (by omega)]
   have hq1:(rows[k].e.kind == 1)=true:=by simpa using h1
   replace h1:Hid (rows[k].e.kind=1):=h1;go_wp2_with fail;rw [← hW1];refine (Ac ad rows[k].adA cap rows[k].capA rs b n M rows[k].e.allow _ hlen (HS.out.below UG.out) HVW.out HT.out lgA (HOKW.out.1.below UG.out) HFK.out.1).mono ?_;rintro e w2 ⟨rfl,hb2⟩;have HB2:=jP UG hb2;clear hb2 hW1 t0 t1 t2 t3 t4;cases hz:oQ (ae rs) rows[k].e.allow;case false=>
    have HN:Hid (aR (ae rs) typ (aj rows)=false):=by show _=_; rw [HD.out,hz]; rfl
    go_wp2;go_ret;exact ⟨by rw [HN.out]; rfl,HB2.out⟩
   have UI:Hid (aR (ae rs) typ (aj (rows.drop (k + 1)))=aR (ae rs) typ (aj rows)):=by show _=_; rw [HD.out,hz,VZ.out]; rfl
   go_wp2;go_roundw;case rel=>exact ⟨k + 1,by omega,by go_num,UI,HB2⟩
   simp [intOf] <;> omega
  have hq1:(rows[k].e.kind == 1)=false:=by simpa using h1
  have Xg:Hid (oQ (ae rs) rows[k].e.allow=true):=by show _=_; rw [tQ HNK.out h1]; rfl
  by_cases h2:rows[k].e.kind=2
  ·have hq2:(rows[k].e.kind == 2)=true:=by simpa using h2
   have HI:=HT.out.some_iff (typ,rows[k].e.name);have VZ:Hid (lh (ae rs) typ rows[k].e=(M (typ,rows[k].e.name)).isSome):=by show _=_; unfold lh; rw [if_pos h2,HI]
   clear HI;replace h2:Hid (rows[k].e.kind=2):=h2;go_wp2_with fail;rw [← hW1];refine (yH b n M typ rows[k].e.name _ ht zN HVW.out).mono ?_;rintro e w2 ⟨rfl,hw2⟩;rw [hw2];clear hw2 w2 hW1 t0 t1 t2 t3 t4;cases hz:(M (typ,rows[k].e.name)).isSome;case false=>
    have HN:Hid (aR (ae rs) typ (aj rows)=false):=by show _=_; rw [HD.out,VZ.out,hz,Xg.out]; rfl
    go_wp2;go_ret;exact ⟨by rw [HN.out]; rfl,UG.out⟩
   have UI:Hid (aR (ae rs) typ (aj (rows.drop (k + 1)))=aR (ae rs) typ (aj rows)):=by show _=_; rw [HD.out,VZ.out,hz,Xg.out]; rfl
   go_wp2;go_roundw;case rel=>exact ⟨k + 1,by omega,by go_num,UI,UG⟩
   simp [intOf] <;> omega
  have hq2:(rows[k].e.kind == 2)=false:=by simpa using h2
  by_cases h3:rows[k].e.kind=3
  ·have hq3:(rows[k].e.kind == 3)=true:=by simpa using h3
   have VZ:Hid (lh (ae rs) typ rows[k].e=!(gy (ae rs) typ rows[k].e.over rows[k].e.name).isEmpty):=F9 _ _ _ h3;replace h3:Hid (rows[k].e.kind=3):=h3;go_wp2_with fail;rw [← hW1];refine (xJ b n rs ad M typ rows[k] _ HVW.out HT.out (HS.out.below UG.out) HL.out UL.out ht zO zN).mono ?_;rintro e w2 ⟨⟨UJ,cap',rfl,-,-⟩,hb2⟩;have HB2:=jP UG hb2;clear hb2 hW1 t0 t1 t2 t3 t4;generalize gy (ae rs) typ rows[k].e.over rows[k].e.name=gs at VZ ⊢;cases gs with
   | nil =>
    have HN:Hid (aR (ae rs) typ (aj rows)=false):=by show _=_; rw [HD.out,VZ.out,Xg.out]; rfl
    go_wp2;go_ret;exact ⟨by rw [HN.out]; rfl,HB2.out⟩
   | cons g gs =>
    have UI:Hid (aR (ae rs) typ (aj (rows.drop (k + 1)))=aR (ae rs) typ (aj rows)):=by show _=_; rw [HD.out,VZ.out,Xg.out]; rfl
    have hlz:(((g::gs).length:Int) == 0)=false:=by
     have:¬ (((g::gs).length:Int)=0):=by simp; omega
     simpa using this
    obtain ⟨ln,hln⟩:∃ ln,ln=(g::gs).length:=⟨_,rfl⟩;rw [← hln] at hlz ⊢;clear hln;go_wp2;go_roundw;case rel=>exact ⟨k + 1,by omega,by go_num,UI,HB2⟩
    simp [intOf] <;> omega
  have hq3:(rows[k].e.kind == 3)=false:=by simpa using h3
  have VZ:Hid (lh (ae rs) typ rows[k].e=true):=by show _=_; unfold lh; rw [if_neg h2,if_neg h3]
  have UI:Hid (aR (ae rs) typ (aj (rows.drop (k + 1)))=aR (ae rs) typ (aj rows)):=by show _=_; rw [HD.out,VZ.out,Xg.out]; rfl
  have U3:Hid (ag w (wr.alloc (.cells #[.int .i64 rows[k].e.kind,.slice rows[k].adA rows[k].e.allow.length rows[k].capA,.string rows[k].e.over,.string rows[k].e.name,.slice rows[k].adK rows[k].e.kids.length rows[k].capK] 39))):=by rw [← hW1]; exact UG
  clear hW1;go_wp2;go_roundw;case rel=>exact ⟨k + 1,by omega,by go_num,UI,U3⟩
  simp [intOf] <;> omega
 have HN:Hid (aR (ae rs) typ (aj rows)=true):=by show _=_; rw [← HP.out,List.drop_of_length_le (by omega)]; rfl
 go_wp2;go_ret;exact ⟨by rw [HN.out]; rfl,HB.out⟩
def Al.cells (a:Al):List Value:=[.string a.t,.string a.s]
def iq:List Al→List Value
 | []=>[]
 | a::xs=>a.cells ++ iq xs
theorem Eo (xs ys:List Al):iq (xs ++ ys)=iq xs ++ iq ys:=by
 induction xs with
 | nil=>rfl
 | cons d ds ih=>simp [iq,ih]
theorem Ae (xs:List Al) (d:Al):iq (xs ++ [d])=iq xs ++ d.cells:=by rw [Eo]; simp [iq]
theorem CR (xs:List Al) (i:Nat) (h:i < xs.length) (o:Nat) (ho:o < 2):(iq xs)[i * 2 + o]?=(xs[i].cells)[o]?:=by
 induction xs generalizing i with
 | nil=>simp at h
 | cons s xs ih =>
  cases i with
  | zero =>
   simp only [iq,Nat.zero_mul,Um,List.getElem_cons_zero];rw [List.getElem?_append_left (by simp [Al.cells]; omega)]
  | succ i =>
   simp only [iq,List.getElem_cons_succ];rw [List.getElem?_append_right (by simp [Al.cells]; omega)];have e:(i + 1) * 2 + o - s.cells.length=i * 2 + o:=by simp [Al.cells]; omega
   rw [e];exact ih i (by simpa using h)
theorem Oy {w:af} {base:Nat} {v:Value} {xs:List Al} (h:w.ownsRow base 94 2 v xs.length (iq xs)):∃ ad cp,v=.slice ad xs.length cp∧jM w ad xs∧∀ p,ad=some p→base≤p.block:=by
 have h2:=h;rcases h.2 with ⟨rfl,h0⟩ | ⟨g,cp,cur,rfl,hbg,hg,hnc,-⟩
 ·exact ⟨none,0,by rw [h0],.inl (Ui.1 h0),fun p hp=>by cases hp⟩
 have hlt:=h2.lt g rfl;refine ⟨_,cp,rfl,.inr ⟨g,0,rfl,hlt.2,fun i hi=>?_⟩,fun p hp=>by injection hp with hp; rw [← hp]; exact hlt.1⟩;have h3:∀ (o:Nat) (u:Value),(iq xs)[i * 2 + o]?=some u→w.cell? ⟨g,0 + i * 2 + o,none⟩=some u:=fun o u hu=>by
  have:=h2.cells (g:=g) rfl (i * 2 + o) u hu;rw [FP] at this;rw [Um]; exact this
 exact ⟨h3 0 _ (by have:=CR xs i hi 0 (by omega); simpa [Al.cells] using this),h3 1 _ (by have:=CR xs i hi 1 (by omega); simpa [Al.cells] using this)⟩
def dH:List Al→List Al
 | []=>[]
 | a::xs=>if a.s.toList.isEmpty then dH xs else a::dH xs
theorem uV (xs ys:List Al):dH (xs ++ ys)=dH xs ++ dH ys:=by
 induction xs with
 | nil=>rfl
 | cons a xs ih=>simp only [List.cons_append,dH,ih]; split <;> simp
theorem Oz (xs:List Al) (k:Nat) (h:k < xs.length) (he:xs[k].s.toList.isEmpty=true):dH (xs.take (k + 1))=dH (xs.take k):=by
 rw [TV h,uV]; simp [dH] at he ⊢; simp [he]
theorem LC (xs:List Al) (k:Nat) (h:k < xs.length) (he:xs[k].s.toList.isEmpty=false):dH (xs.take (k + 1))=dH (xs.take k) ++ [xs[k]]:=by
 rw [TV h,uV]; simp [dH,he]
theorem CS (xs:List Al):(dH xs).length≤xs.length:=by
 induction xs with
 | nil=>simp [dH]
 | cons a xs ih=>simp only [dH]; split <;> simp <;> omega
def jg (ts:List Ty) (typ:ByteArray) (e:Ex):List Al :=
 if e.kind=1 then dH e.allow else if e.kind=2 then [⟨typ,e.name⟩] else if e.kind=3 then (gy ts typ e.over e.name).map fun g=>⟨g,e.name⟩ else []
theorem OA:(prog.info? 94).map (fun i=>(i.zero,i.size,i.bytes))=some (some (.agg #[.string ⟨#[]⟩,.string ⟨#[]⟩]),2,32):=by kernel_rfl
theorem Ep (rs:List TR) (hl:∀ r ∈ rs,r.light) (typ over rel:bF):(gy (ae rs) typ over rel).length≤1048576:=by
 unfold gy;split
 ·exact xI rs hl typ over rel
 simp
theorem wN (w:af) (o o':Obj):((w.alloc o).alloc o').heap[w.heap.size + 1]?=some o':=by
 have:=heap_alloc_new (w.alloc o) o';simpa using this
set_option maxRecDepth 100000 in
theorem Ga (b n:Nat) (rs:List TR) (ad:Option Addr) (M:ByteArray × ByteArray→Option Value) (typ:bF) (x:ER) (w:af) (hV:aM dQ prog 94 w b n M) (hT:Tab rs M) (hs:kW w ad rs) (hl:∀ r ∈ rs,r.light) (hf:∀ r ∈ rs,r.fits) (ht:typ.size≤maxLen) (YD:x.e.fits) (hxl:x.e.light) (hxo:x.ok w) :
  Calls prog 188 #[.map (some b),.string typ,x.val] w fun e w'=>(∃ (UJ:Option Addr) (cap':Nat),e=.returned (.slice UJ (jg (ae rs) typ x.e).length cap')∧jM w' UJ (jg (ae rs) typ x.e)∧∀ p,UJ=some p→w.heap.size≤p.block)∧ag w w':=by
 have HV:Hid (aM dQ prog 94 w b n M):=hV;have HT:=az hT;have HS:=az hs;have HL:=az hl;have UL:=az hf;have Xk:=az YD;have ZO:=az hxo;have lgA:x.e.allow.length≤1048576:=hxl.1;clear hV hT hs hl hf YD hxo hxl;obtain ⟨i0,hi,hz0,hz1,hz2⟩:=info_parts OA;obtain ⟨W0,hW0⟩:∃ W0,W0=w.alloc (.cells #[.int .i64 x.e.kind,.slice x.adA x.e.allow.length x.capA,.string x.e.over,.string x.e.name,.slice x.adK x.e.kids.length x.capK] 39):=⟨_,rfl⟩;have hal:ag w W0:=by rw [hW0]; exact (TT _ _).alloc (TS _) _
 have HB0:=az hal;have hg0:w.heap.size < W0.heap.size:=by rw [hW0]; simp
 have c0:W0.cell? ⟨w.heap.size,0,none⟩=some (.int .i64 x.e.kind):=by rw [hW0]; simp
 have c1:W0.cell? ⟨w.heap.size,1,none⟩=some (.slice x.adA x.e.allow.length x.capA):=by rw [hW0]; simp
 have c2:W0.cell? ⟨w.heap.size,2,none⟩=some (.string x.e.over):=by rw [hW0]; simp
 have c3:W0.cell? ⟨w.heap.size,3,none⟩=some (.string x.e.name):=by rw [hW0]; simp
 have c4:W0.cell? ⟨w.heap.size,4,none⟩=some (.slice x.adK x.e.kids.length x.capK):=by rw [hW0]; simp
 clear hal;unfold ER.val;by_cases h1:x.e.kind=1
 ·have XQ:Hid (jg (ae rs) typ x.e=dH x.e.allow):=by show _=_; unfold jg; rw [if_pos h1]
  have hq1:(x.e.kind == 1)=true:=by simpa using h1
  replace h1:Hid (x.e.kind=1):=h1;go_enter func188,ntmps188;go_wp2_with fail;rw [← hW0];clear hW0;go_loopw [7,19] (fun v i wr=>∃ k:Nat,k≤x.e.allow.length∧i=.int .i64 k∧Hid (wr.ownsRow w.heap.size 94 2 v (dH (x.e.allow.take k)).length (iq (dH (x.e.allow.take k))))∧Hid (ag w wr)) (fun _ i _=>x.e.allow.length - (intOf i).toNat);case atStart=>exact ⟨0,TW _,rfl,World.ownsRow_nil _ _ _ _,HB0⟩
  clear HB0 c0 c1 c2 c3 c4 hg0;obtain ⟨k,hk,rfl,HOW,HB⟩:=hrel;by_cases hlt:k < x.e.allow.length
  ·rcases (ZO.out.1).below HB.out with hnil | ⟨ba,Wn,had,Yl,hra⟩
   ·rw [hnil] at hlt; simp at hlt
   obtain ⟨t0,t1⟩:=hra k hlt;have hk1:=bB k;have hk2:(k:Int) < (x.e.allow.length:Int):=by omega
   obtain ⟨W1,hW1⟩:∃ W1,W1=wr.alloc (.cells #[.string x.e.allow[k].t,.string x.e.allow[k].s] 43):=⟨_,rfl⟩;have hal:ag wr W1:=by rw [hW1]; exact (TT _ _).alloc (TS _) _
   have UG:=jP HB hal;have Wz:Hid (W1.ownsRow w.heap.size 94 2 u7 (dH (x.e.allow.take k)).length (iq (dH (x.e.allow.take k)))):=own_below HOW.out hal;have g0:W1.cell? ⟨wr.heap.size,0,none⟩=some (.string x.e.allow[k].t):=by rw [hW1]; simp
   have g1:W1.cell? ⟨wr.heap.size,1,none⟩=some (.string x.e.allow[k].s):=by rw [hW1]; simp
   have hgl1:wr.heap.size < W1.heap.size:=by rw [hW1]; simp
   have hgl:=CS (x.e.allow.take k);rw [Ut] at hgl;have hwsz:w.heap.size≤W1.heap.size:=UG.out.size;rw [had];clear hra hal HOW;cases he:x.e.allow[k].s.toList.isEmpty;case true=>
    have HE:Hid (dH (x.e.allow.take (k + 1))=dH (x.e.allow.take k)):=Oz _ _ hlt he;have U3:Hid (ag w (wr.alloc (.cells #[.string x.e.allow[k].t,.string x.e.allow[k].s] 43))):=by rw [← hW1]; exact UG
    have HOX:Hid ((wr.alloc (.cells #[.string x.e.allow[k].t,.string x.e.allow[k].s] 43)).ownsRow w.heap.size 94 2 u7 (dH (x.e.allow.take (k + 1))).length (iq (dH (x.e.allow.take (k + 1))))):=by rw [← hW1,HE.out]; exact Wz
    clear hW1 g0 g1;go_wp2;go_roundw;case rel=>exact ⟨k + 1,by omega,by go_num,HOX,U3⟩
    simp [intOf] <;> omega
   have HX:Hid (dH (x.e.allow.take (k + 1))=dH (x.e.allow.take k) ++ [x.e.allow[k]]):=LC _ _ hlt he;have HOX:Hid ((wr.alloc (.cells #[.string x.e.allow[k].t,.string x.e.allow[k].s] 43)).ownsRow w.heap.size 94 2 u7 (dH (x.e.allow.take k)).length (iq (dH (x.e.allow.take k)))):=by rw [← hW1]; exact Wz
   have U3:Hid (ag w (wr.alloc (.cells #[.string x.e.allow[k].t,.string x.e.allow[k].s] 43))):=by rw [← hW1]; exact UG
   have hws:w.heap.size≤wr.heap.size:=HB.out.size;clear hW1 Wz UG g0 g1 hgl1 hwsz W1;go_wp2_with (at_builtin; refine wpList_append_own_at _ rfl _ _ 277 rfl w.heap.size 94 i0 _ 2 32 underlying277 hi hz0 hz1 hz2 rfl (by decide) _ _ _ rfl (HOX.out.alloc _) ⟨wr.heap.size + 1,0,none⟩ 1 1 [.string x.e.allow[k].t,.string x.e.allow[k].s] rfl rfl (World.news_of_block (cs:=#[.string x.e.allow[k].t,.string x.e.allow[k].s]) (t:=94) (fr:=(0,0)) (wN wr _ _)) (by simp [Value.oneCell']) (by unfold maxLen; omega) (by omega) (by simp; omega) ?_);intro v' w3 hown3 hgrow _ hloc;have HB3:Hid (ag w w3):=(U3.out.alloc U3.out.size _).grown hgrow (by simp; omega) (fun i hi=>(HOX.out.lt i hi).1);have UX:Hid (w3.ownsRow w.heap.size 94 2 v' (dH (x.e.allow.take (k + 1))).length (iq (dH (x.e.allow.take (k + 1))))):=by
    show World.ownsRow _ _ _ _ _ _ _;rw [HX.out,Ae,T9];exact hown3
   clear hown3 hgrow hloc HOX U3;go_wp2;go_roundw;case rel=>exact ⟨k + 1,by omega,by go_num,UX,HB3⟩
   simp [intOf] <;> omega
  obtain rfl:k=x.e.allow.length:=by omega
  have hown:=HOW.out;rw [Ug] at hown;obtain ⟨UJ,cp,rfl,hS',hN'⟩:=Oy hown;have HS2:=az hS';have VY:Hid (∀ p,UJ=some p→w.heap.size≤p.block):=hN';clear hown HOW hS' hN';go_wp2;go_ret;exact ⟨⟨UJ,cp,by rw [XQ.out]; rfl,by rw [XQ.out]; exact HS2.out,VY.out⟩,HB.out⟩
 have hq1:(x.e.kind == 1)=false:=by simpa using h1
 by_cases h2:x.e.kind=2
 ·have XQ:Hid (jg (ae rs) typ x.e=[⟨typ,x.e.name⟩]):=by show _=_; unfold jg; rw [if_neg h1,if_pos h2]
  have hq2:(x.e.kind == 2)=true:=by simpa using h2
  replace h2:Hid (x.e.kind=2):=h2;have HOX:Hid ((w.alloc (.cells #[.int .i64 x.e.kind,.slice x.adA x.e.allow.length x.capA,.string x.e.over,.string x.e.name,.slice x.adK x.e.kids.length x.capK] 39)).ownsRow w.heap.size 94 2 (.slice none 0 0) 0 []):=World.ownsRow_nil _ _ _ _;have U3:Hid (ag w (w.alloc (.cells #[.int .i64 x.e.kind,.slice x.adA x.e.allow.length x.capA,.string x.e.over,.string x.e.name,.slice x.adK x.e.kids.length x.capK] 39))):=by rw [← hW0]; exact HB0
  clear hW0 HB0 c0 c1 c2 c3 c4 hg0 W0;go_enter func188,ntmps188;go_wp2_with (at_builtin; refine wpList_append_own_at _ rfl _ _ 277 rfl w.heap.size 94 i0 _ 2 32 underlying277 hi hz0 hz1 hz2 rfl (by decide) _ _ _ rfl (HOX.out.alloc _) ⟨w.heap.size + 1,0,none⟩ 1 1 [.string typ,.string x.e.name] rfl rfl (World.news_of_block (cs:=#[.string typ,.string x.e.name]) (t:=94) (fr:=(0,0)) (wN w _ _)) (by simp [Value.oneCell']) (by unfold maxLen; omega) (by omega) (by simp; omega) ?_);intro v' w3 hown3 hgrow _ hloc;have HB3:Hid (ag w w3):=(U3.out.alloc U3.out.size _).grown hgrow (by simp; omega) (fun i hi=>(HOX.out.lt i hi).1);have U1:w3.ownsRow w.heap.size 94 2 v' ([⟨typ,x.e.name⟩]:List Al).length (iq [⟨typ,x.e.name⟩]):=hown3;obtain ⟨UJ,cp,rfl,hS',hN'⟩:=Oy U1;have HS2:=az hS';have VY:Hid (∀ p,UJ=some p→w.heap.size≤p.block):=hN';clear hown3 U1 hgrow hloc HOX U3 hS' hN';go_wp2;go_ret;exact ⟨⟨UJ,cp,by rw [XQ.out]; rfl,by rw [XQ.out]; exact HS2.out,VY.out⟩,HB3.out⟩
 have hq2:(x.e.kind == 2)=false:=by simpa using h2
 by_cases h3:x.e.kind=3
 ·have XQ:Hid (jg (ae rs) typ x.e=(gy (ae rs) typ x.e.over x.e.name).map fun g=>(⟨g,x.e.name⟩:Al)):=by show _=_; unfold jg; rw [if_neg h1,if_neg h2,if_pos h3]
  have hq3:(x.e.kind == 3)=true:=by simpa using h3
  replace h3:Hid (x.e.kind=3):=h3;have HGL:(gy (ae rs) typ x.e.over x.e.name).length≤1048576:=Ep rs HL.out _ _ _;have ZL:=az (HV.out.below HB0.out);go_enter func188,ntmps188;go_wp2_with fail;rw [← hW0];refine (xJ b n rs ad M typ x _ ZL.out HT.out (HS.out.below HB0.out) HL.out UL.out ht Xk.out.2.1 Xk.out.2.2.1).mono ?_;rintro e w1 ⟨⟨adG,cpG,rfl,hSG,hNG⟩,hb1⟩;generalize gy (ae rs) typ x.e.over x.e.name=gs at *
  have HB1:=jP HB0 hb1;have HSG:=az hSG;have HNG:Hid (∀ p,adG=some p→W0.heap.size≤p.block):=hNG;have VE:Hid (w1.cell? ⟨w.heap.size,3,none⟩=some (.string x.e.name)∧w.heap.size < w1.heap.size):=⟨aG hb1 hg0 c3,TP hg0 hb1.size⟩;clear hW0 hSG hNG hb1 c0 c1 c2 c3 c4 HB0 ZL hg0 HNG;go_wp2_with fail;go_loopw [7,51] (fun v i wr=>∃ m:Nat,m≤gs.length∧i=.int .i64 m∧Hid (wr.ownsRow w.heap.size 94 2 v m (iq ((gs.take m).map fun g=>(⟨g,x.e.name⟩:Al))))∧Hid (ag w wr)∧Hid (Aside w1 (.slice none 0 0) wr v)) (fun _ i _=>gs.length - (intOf i).toNat);case atStart=>exact ⟨0,TW _,rfl,World.ownsRow_nil _ _ _ _,HB1,Aside.refl _ _⟩
  clear HB1;obtain ⟨m,hm,rfl,HO,HB,HA⟩:=hrel;have x3:=qE HA.out VE.out.2 (by simp [Value.ownBlock]) VE.out.1;by_cases U5:m < gs.length
  ·rcases HSG.out with rfl | ⟨bg,offg,rfl,hbg,hrg⟩
   ·simp at U5
   have q0:=qE HA.out hbg (by simp [Value.ownBlock]) (hrg m U5);have hm1:=bB m;have hm2:(m:Int) < (gs.length:Int):=by omega
   have hws:w.heap.size≤wr.heap.size:=HB.out.size;have HFX:Hid (iq ((gs.take (m + 1)).map fun g=>(⟨g,x.e.name⟩:Al))=iq ((gs.take m).map fun g=>(⟨g,x.e.name⟩:Al)) ++ [.string gs[m],.string x.e.name]):=by
    show _=_;rw [TV U5,List.map_append,List.map_singleton,Ae]; rfl
   clear hrg;go_wp2_with (at_builtin; refine wpList_append_own_at _ rfl _ _ 277 rfl w.heap.size 94 i0 _ 2 32 underlying277 hi hz0 hz1 hz2 rfl (by decide) _ _ _ rfl (HO.out.alloc _) ⟨wr.heap.size,0,none⟩ 1 1 [.string gs[m],.string x.e.name] rfl rfl (World.news_of_block (cs:=#[.string gs[m],.string x.e.name]) (t:=94) (fr:=(0,0)) (heap_alloc_new wr _)) (by simp [Value.oneCell']) (by unfold maxLen; omega) (by omega) (by simp; omega) ?_);intro v' w3 hown3 hgrow _ hloc;have HB3:Hid (ag w w3):=(HB.out.alloc HB.out.size _).grown hgrow (by simp; omega) (fun i hi=>(HO.out.lt i hi).1);have UX:Hid (w3.ownsRow w.heap.size 94 2 v' (m + 1) (iq ((gs.take (m + 1)).map fun g=>(⟨g,x.e.name⟩:Al)))):=by
    show World.ownsRow _ _ _ _ _ _ _;rw [HFX.out]; simpa [List.map_take] using hown3
   have HA3:Hid (Aside w1 (.slice none 0 0) w3 v'):=HA.out.trans ((Aside.below ((TT _ _).alloc (TS _) _)).trans (Aside.app hgrow (by simpa using hloc)));clear hown3 hgrow hloc HO HA;go_wp2;go_roundw;case rel=>exact ⟨m + 1,by omega,by go_num,UX,HB3,HA3⟩
   simp [intOf] <;> omega
  obtain rfl:m=gs.length:=by omega
  have hown:=HO.out;rw [Ug] at hown;have e:gs.length=(gs.map fun g=>(⟨g,x.e.name⟩:Al)).length:=by simp
  rw [e] at hown;obtain ⟨UJ,cp,rfl,hS',hN'⟩:=Oy hown;have HS2:Hid (jM wr UJ (gs.map fun g=>(⟨g,x.e.name⟩:Al))):=hS';have VY:Hid (∀ p,UJ=some p→w.heap.size≤p.block):=hN';obtain ⟨ln,hln⟩:∃ ln,ln=(gs.map fun g=>(⟨g,x.e.name⟩:Al)).length:=⟨_,rfl⟩;rw [← hln];have HLN:Hid (ln=(gs.map fun g=>(⟨g,x.e.name⟩:Al)).length):=hln;clear hown HO hS' hN' e HA x3 hln;go_wp2;go_ret;exact ⟨⟨UJ,cp,by rw [XQ.out,← HLN.out]; rfl,by rw [XQ.out]; exact HS2.out,VY.out⟩,HB.out⟩
 have XQ:Hid (jg (ae rs) typ x.e=[]):=by show _=_; unfold jg; rw [if_neg h1,if_neg h2,if_neg h3]
 have hq3:(x.e.kind == 3)=false:=by simpa using h3
 have U3:Hid (ag w (w.alloc (.cells #[.int .i64 x.e.kind,.slice x.adA x.e.allow.length x.capA,.string x.e.over,.string x.e.name,.slice x.adK x.e.kids.length x.capK] 39))):=by rw [← hW0]; exact HB0
 clear hW0 HB0 c0 c1 c2 c3 c4 hg0;go_enter func188,ntmps188;go_wp2;go_ret;exact ⟨⟨none,0,by rw [XQ.out]; rfl,by rw [XQ.out]; exact .inl rfl,fun p hp=>by cases hp⟩,U3.out⟩
end Go.Proofs.YtajkkeikihhejaaGreat
