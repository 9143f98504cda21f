/- Contracts of the program's functions on whether what a schema names is there. -/
import Derived.Test.YtajkkeikihhejaaGreatSq
import Derived.Test.YtajkkeikihhejaaGreatJ15
open Go.Proofs.Tryz
set_option maxHeartbeats 80000000
namespace Go.Proofs.YtajkkeikihhejaaGreat
open Go.ChangeShapes Go.WideShapes Go.ChangeAt Go.RowKit Go.Maps
open Pl
theorem zZ (t:TR) (g:Nat) (nm:bH) (w:af) (hg:g < w.heap.size) (hc:w.cell? ⟨g,0,none⟩=some (.string nm)) :
  Calls prog 223 #[.agg #[.string t.name,.slice t.ad t.rows.length t.cap],.pointer (some ⟨g,0,none⟩)] w fun e w'=>e=.returned (.bool (t.name.toList == nm.toList))∧ag w w':=by
 go_enter func223,ntmps223;go_wp2;go_ret;exact ⟨rfl,(TT _ _).alloc (TS _) _⟩
theorem CQ (rs:List TR) (k:Nat) (h:k < rs.length) (nm:bH):lc (ae (rs.drop k)) nm=((rs[k].name.toList == nm.toList) || lc (ae (rs.drop (k + 1))) nm):=by
 rw [nR _ _ h]; rfl
theorem z8 (ad:Option Addr) (cap:Nat) (rs:List TR) (g:Nat) (nm:bH) (w:af) (hlen:rs.length≤1048576) (hs:kW w ad rs) (hg:g < w.heap.size) (hc:w.cell? ⟨g,0,none⟩=some (.string nm)) :
  Calls prog 241 #[.slice ad rs.length cap,.func (Fn.func 223) #[] #[.pointer (some ⟨g,0,none⟩)]] w fun e w'=>(∃ r:Int,e=.returned (.int .i64 r)∧decide (0≤r)=lc (ae rs) nm)∧ag w w':=by
 have HS:=az hs;have HC:Hid (w.cell? ⟨g,0,none⟩=some (.string nm)):=hc;clear hs hc;go_enter func241,ntmps241;go_wp2_with fail;go_loopw [8] (fun i wr=>∃ k:Nat,k≤rs.length∧i=.int .i64 k∧Hid (lc (ae (rs.drop k)) nm=lc (ae rs) nm)∧Hid (ag w wr)) (fun i _=>rs.length - (intOf i).toNat);case atStart=>exact ⟨0,TW _,rfl,rfl,TT _ _⟩
 obtain ⟨k,hk,rfl,HP,HB⟩:=hrel;by_cases hlt:k < rs.length
 ·rcases HS.out.below HB.out with rfl | ⟨b,off,rfl,hb,hr,-⟩
  ·simp at hlt
  obtain ⟨t0,t1⟩:=hr k hlt;have hk1:=bB k;have hk2:(k:Int) < (rs.length:Int):=by omega
  have HCW:Hid (wr.cell? ⟨g,0,none⟩=some (.string nm)):=aG HB.out hg HC.out;have HGW:Hid (g < wr.heap.size):=TP hg HB.out.size;clear hr;cases he:(rs[k].name.toList == nm.toList);case true=>
   have HN:Hid (lc (ae rs) nm=true):=by show _=_; rw [← HP.out,CQ _ _ hlt,he]; rfl
   go_wp2_with (go_at_call 223; refine (zZ rs[k] g nm _ HGW.out HCW.out).mono ?_; rintro e w' ⟨he2,hbx⟩; rw [he] at he2; subst he2);go_ret;exact ⟨⟨k,rfl,by rw [HN.out]; simp⟩,HB.out.trans (hbx.mono HB.out.size)⟩
  have UI:Hid (lc (ae (rs.drop (k + 1))) nm=lc (ae rs) nm):=by show _=_; rw [← HP.out,CQ _ _ hlt,he]; rfl
  go_wp2_with (go_at_call 223; refine (zZ rs[k] g nm _ HGW.out HCW.out).mono ?_; rintro e w' ⟨he2,hbx⟩; rw [he] at he2; subst he2);go_roundw;case rel=>exact ⟨k + 1,by omega,by go_num,UI,HB.out.trans (hbx.mono HB.out.size)⟩
  simp [intOf] <;> omega
 have HN:Hid (lc (ae rs) nm=false):=by show _=_; rw [← HP.out,List.drop_of_length_le (by omega)]; rfl
 go_wp2;go_ret;exact ⟨⟨-1,rfl,by rw [HN.out]; simp⟩,HB.out⟩
theorem uT (ad:Option Addr) (cap:Nat) (rs:List TR) (g:Nat) (nm:bH) (w:af) (hlen:rs.length≤1048576) (hs:kW w ad rs) (hg:g < w.heap.size) (hc:w.cell? ⟨g,0,none⟩=some (.string nm)) :
  Calls prog 222 #[.slice ad rs.length cap,.func (Fn.func 223) #[] #[.pointer (some ⟨g,0,none⟩)]] w fun e w'=>e=.returned (.bool (lc (ae rs) nm))∧ag w w':=by
 go_enter func222,ntmps222;go_wp2_with fail;refine (z8 ad cap rs g nm _ hlen hs hg hc).mono ?_;rintro e w' ⟨⟨r,rfl,hr⟩,hbx⟩;have HR:Hid (decide (0≤r)=lc (ae rs) nm):=hr;clear hr hs hc;go_wp2;go_ret;exact ⟨by rw [← HR.out]; rfl,hbx⟩
set_option maxRecDepth 100000 in
theorem Aa (ad adA:Option Addr) (cap capA:Nat) (rs:List TR) (b n:Nat) (M:ByteArray × ByteArray→Option Value) (xs:List Al) (w:af) (hlen:rs.length≤1048576) (hs:kW w ad rs) (hV:aM dQ prog 94 w b n M) (hT:Tab rs M) (hla:xs.length≤1048576) (hsa:jN w adA xs) (hfa:∀ a ∈ xs,a.fits) :
  Calls prog 183 #[.slice ad rs.length cap,.map (some b),.slice adA xs.length capA] w fun e w'=>e=.returned (.bool (oQ (ae rs) xs))∧ag w w':=by
 have HS:=az hs;have HV:Hid (aM dQ prog 94 w b n M):=hV;have HT:=az hT;have HA:=az hsa;have HFA:=az hfa;clear hs hV hT hsa hfa;go_enter func183,ntmps183;go_wp2_with fail;go_loopw [11] (fun i wr=>∃ k:Nat,k≤xs.length∧i=.int .i64 k∧Hid (nV (ae rs) xs k=true)∧Hid (ag w wr)) (fun i _=>xs.length - (intOf i).toNat);case atStart=>exact ⟨0,TW _,rfl,zC _ _,TT _ _⟩
 obtain ⟨k,hk,rfl,HP,HB⟩:=hrel;by_cases hlt:k < xs.length
 ·rcases HA.out.below HB.out with rfl | ⟨ba,Wp,rfl,Yl,hra⟩
  ·simp at hlt
  obtain ⟨t0,t1⟩:=hra k hlt;have hk1:=bB k;have hk2:(k:Int) < (xs.length:Int):=by omega
  have zA:=HFA.out _ (TQ hlt);have z1:xs[k].t.size≤maxLen:=zA.1;have z2:xs[k].s.size≤maxLen:=zA.2;have HI:Hid ((M (xs[k].t,xs[k].s)).isSome=!(aA (ae rs) xs[k].t xs[k].s).isEmpty):=HT.out.some_iff (xs[k].t,xs[k].s);obtain ⟨W1,hW1⟩:∃ W1,W1=wr.alloc (.cells #[.string xs[k].t,.string xs[k].s] 43):=⟨_,rfl⟩;have hal:ag wr W1:=by rw [hW1]; exact (TT _ _).alloc (TS _) _
  have UG:=jP HB hal;have g0:W1.cell? ⟨wr.heap.size,0,none⟩=some (.string xs[k].t):=by rw [hW1]; simp
  have g1:W1.cell? ⟨wr.heap.size,1,none⟩=some (.string xs[k].s):=by rw [hW1]; simp
  have hgl:wr.heap.size < W1.heap.size:=by rw [hW1]; simp
  clear hra hal zA;go_wp2_with fail;rw [← hW1];clear hW1 t0 t1;refine (uT ad cap rs wr.heap.size xs[k].t _ hlen (HS.out.below UG.out) hgl g0).mono ?_;rintro e w2 ⟨rfl,hb2⟩;have HB2:=jP UG hb2;replace g0:=aG hb2 hgl g0;replace g1:=aG hb2 hgl g1;have YZ:=az (HV.out.below HB2.out);clear hb2 hgl;cases ht:lc (ae rs) xs[k].t;case false=>
   have HN:Hid (oQ (ae rs) xs=false):=uJ _ _ k hlt (by simp [pQ,ht]);go_wp2;go_ret;exact ⟨by rw [HN.out]; rfl,HB2.out⟩
  cases he:xs[k].s.toList.isEmpty;case true=>
   have UI:Hid (nV (ae rs) xs (k + 1)=true):=by show _=_; rw [oU _ _ _ hlt,HP.out]; simp [pQ,ht,he]
   go_wp2;go_roundw;case rel=>exact ⟨k + 1,by omega,by go_num,UI,HB2⟩
   simp [intOf] <;> omega
  cases hz:(M (xs[k].t,xs[k].s)).isSome;case false=>
   have HN:Hid (oQ (ae rs) xs=false):=uJ _ _ k hlt (by have:=HI.out; rw [hz] at this; simp [pQ,ht,he]; simpa using this.symm);go_wp2_with (go_at_call 184; refine (yH b n M xs[k].t xs[k].s _ z1 z2 YZ.out).mono ?_; rintro e w' ⟨he2,rfl⟩; rw [hz] at he2; subst he2);go_ret;exact ⟨by rw [HN.out]; rfl,HB2.out⟩
  have UI:Hid (nV (ae rs) xs (k + 1)=true):=by show _=_; rw [oU _ _ _ hlt,HP.out]; have:=HI.out; rw [hz] at this; simp [pQ,ht,he]; simpa using this.symm
  go_wp2_with (go_at_call 184; refine (yH b n M xs[k].t xs[k].s _ z1 z2 YZ.out).mono ?_; rintro e w' ⟨he2,rfl⟩; rw [hz] at he2; subst he2);go_roundw;case rel=>exact ⟨k + 1,by omega,by go_num,UI,HB2⟩
  simp [intOf] <;> omega
 have HN:Hid (oQ (ae rs) xs=true):=by
  have:=HP.out;obtain rfl:k=xs.length:=by omega
  unfold nV at this;rw [Ug] at this;exact this
 go_wp2;go_ret;exact ⟨by rw [HN.out]; rfl,HB.out⟩
theorem tN {e:Ex} (h:av e=true) (h1:e.kind ≠ 1):e.allow=[]:=by
 unfold av at h;rw [if_neg h1] at h;split at h
 ·simp only [TU,Ud] at h; exact Ui.1 h.1.1.2
 split at h
 ·simp only [TU,Ud] at h; exact Ui.1 h.1.2
 split at h
 ·simp only [TU,Ud] at h; exact Ui.1 h.1.1.2
 split at h
 ·simp only [TU,Ud] at h; exact Ui.1 h.1.1.2
 cases h
theorem IU (ts:List Ty) (typ:bH) (rows:List ER) (k:Nat) (h:k < rows.length):aR ts typ (aj (rows.drop k))=if oQ ts rows[k].e.allow && lh ts typ rows[k].e then aR ts typ (aj (rows.drop (k + 1))) else false:=by
 rw [gI _ _ h]; rfl
theorem F7 (ts:List Ty) (typ:bH) (e:Ex) (h:e.kind=3):lh ts typ e=!(gy ts typ e.over e.name).isEmpty:=by
 unfold lh gy;rw [if_neg (by omega),if_pos h];cases bu (aA ts typ e.over) <;> simp
set_option maxRecDepth 100000 in
theorem Ab (ad UC:Option Addr) (cap capE:Nat) (rs:List TR) (b n:Nat) (M:ByteArray × ByteArray→Option Value) (typ:bH) (rows:List ER) (w:af) (hlen:rs.length≤1048576) (hs:kW w ad rs) (hl:∀ r ∈ rs,r.light) (hf:∀ r ∈ rs,r.fits) (hV:aM dQ prog 94 w b n M) (hT:Tab rs M) (ht:typ.size≤maxLen) (hle:rows.length≤1048576) (hse:iH w UC rows) (ZH:∀ q ∈ rows,q.e.light) (hfE:∀ q ∈ rows,q.e.fits) (hnb:∀ q ∈ rows,av q.e=true) :
  Calls prog 132 #[.slice ad rs.length cap,.map (some b),.string typ,.slice UC rows.length capE] w fun e w'=>e=.returned (.bool (aR (ae rs) typ (aj rows)))∧ag w w':=by
 have HS:=az hs;have HL:=az hl;have UL:=az hf;have HV:Hid (aM dQ prog 94 w b n M):=hV;have HT:=az hT;have HE:=az hse;have Vj:=az ZH;have WH:=az hfE;have HNB:Hid (∀ q ∈ rows,av q.e=true):=hnb;clear hs hl hf hV hT hse ZH hfE hnb;go_enter func132,ntmps132;go_wp2_with fail;go_loopw [13] (fun i wr=>∃ k:Nat,k≤rows.length∧i=.int .i64 k∧Hid (aR (ae rs) typ (aj (rows.drop k))=aR (ae rs) typ (aj rows))∧Hid (ag w wr)) (fun i _=>rows.length - (intOf i).toNat);case atStart=>exact ⟨0,TW _,rfl,rfl,TT _ _⟩
 obtain ⟨k,hk,rfl,HP,HB⟩:=hrel;by_cases hlt:k < rows.length
 ·rcases HE.out.below HB.out with rfl | ⟨bE,Z6,rfl,Z7,ZM,hokE⟩
  ·simp at hlt
  obtain ⟨t0,t1,t2,t3,t4⟩:=ZM k hlt;have HOKW:Hid (rows[k].ok w):=HE.out.mem (TQ hlt);have hk1:=bB k;have hk2:(k:Int) < (rows.length:Int):=by omega
  have lgA:rows[k].e.allow.length≤1048576:=(Vj.out _ (TQ hlt)).1;have HFK:Hid (rows[k].e.fits):=WH.out _ (TQ hlt);have HNK:Hid (av rows[k].e=true):=HNB.out _ (TQ hlt);have HDR:=IU (ae rs) typ rows k hlt;have HD:Hid (aR (ae rs) typ (aj rows)=if oQ (ae rs) rows[k].e.allow && lh (ae rs) typ rows[k].e then aR (ae rs) typ (aj (rows.drop (k + 1))) else false):=by show _=_; rw [← HP.out]; exact HDR
  obtain ⟨W1,hW1⟩:∃ W1,W1=wr.alloc (.cells #[.int .i64 rows[k].e.kind,.slice rows[k].adA rows[k].e.allow.length rows[k].capA,.string rows[k].e.over,.string rows[k].e.name,.slice rows[k].adK rows[k].e.kids.length rows[k].capK] 39):=⟨_,rfl⟩;have hal:ag wr W1:=by rw [hW1]; exact (TT _ _).alloc (TS _) _
  have UG:=jP HB hal;have HVW:=az (HV.out.below UG.out);have zO:rows[k].e.over.size≤maxLen:=HFK.out.2.1;have zN:rows[k].e.name.size≤maxLen:=HFK.out.2.2.1;clear ZM hokE hal HDR;by_cases h1:rows[k].e.kind=1
  ·have VZ:Hid (lh (ae rs) typ rows[k].e=true):=by show _=_; unfold lh; rw [if_neg (by omega),if_neg (by omega)]
   have hq1:(rows[k].e.kind == 1)=true:=by simpa using h1
   replace h1:Hid (rows[k].e.kind=1):=h1;go_wp2_with fail;rw [← hW1];refine (Aa ad rows[k].adA cap rows[k].capA rs b n M rows[k].e.allow _ hlen (HS.out.below UG.out) HVW.out HT.out lgA (HOKW.out.1.below UG.out) HFK.out.1).mono ?_;rintro e w2 ⟨rfl,hb2⟩;have HB2:=jP UG hb2;clear hb2 hW1 t0 t1 t2 t3 t4;cases hz:oQ (ae rs) rows[k].e.allow;case false=>
    have HN:Hid (aR (ae rs) typ (aj rows)=false):=by show _=_; rw [HD.out,hz]; rfl
    go_wp2;go_ret;exact ⟨by rw [HN.out]; rfl,HB2.out⟩
   have UI:Hid (aR (ae rs) typ (aj (rows.drop (k + 1)))=aR (ae rs) typ (aj rows)):=by show _=_; rw [HD.out,hz,VZ.out]; rfl
   go_wp2;go_roundw;case rel=>exact ⟨k + 1,by omega,by go_num,UI,HB2⟩
   simp [intOf] <;> omega
  have hq1:(rows[k].e.kind == 1)=false:=by simpa using h1
  have Xg:Hid (oQ (ae rs) rows[k].e.allow=true):=by show _=_; rw [tN HNK.out h1]; rfl
  by_cases h2:rows[k].e.kind=2
  ·have hq2:(rows[k].e.kind == 2)=true:=by simpa using h2
   have HI:=HT.out.some_iff (typ,rows[k].e.name);have VZ:Hid (lh (ae rs) typ rows[k].e=(M (typ,rows[k].e.name)).isSome):=by show _=_; unfold lh; rw [if_pos h2,HI]
   clear HI;replace h2:Hid (rows[k].e.kind=2):=h2;go_wp2_with fail;rw [← hW1];refine (yH b n M typ rows[k].e.name _ ht zN HVW.out).mono ?_;rintro e w2 ⟨rfl,hw2⟩;rw [hw2];clear hw2 w2 hW1 t0 t1 t2 t3 t4;cases hz:(M (typ,rows[k].e.name)).isSome;case false=>
    have HN:Hid (aR (ae rs) typ (aj rows)=false):=by show _=_; rw [HD.out,VZ.out,hz,Xg.out]; rfl
    go_wp2;go_ret;exact ⟨by rw [HN.out]; rfl,UG.out⟩
   have UI:Hid (aR (ae rs) typ (aj (rows.drop (k + 1)))=aR (ae rs) typ (aj rows)):=by show _=_; rw [HD.out,VZ.out,hz,Xg.out]; rfl
   go_wp2;go_roundw;case rel=>exact ⟨k + 1,by omega,by go_num,UI,UG⟩
   simp [intOf] <;> omega
  have hq2:(rows[k].e.kind == 2)=false:=by simpa using h2
  by_cases h3:rows[k].e.kind=3
  ·have hq3:(rows[k].e.kind == 3)=true:=by simpa using h3
   have VZ:Hid (lh (ae rs) typ rows[k].e=!(gy (ae rs) typ rows[k].e.over rows[k].e.name).isEmpty):=F7 _ _ _ h3;replace h3:Hid (rows[k].e.kind=3):=h3;go_wp2_with fail;rw [← hW1];refine (xJ b n rs ad M typ rows[k] _ HVW.out HT.out (HS.out.below UG.out) HL.out UL.out ht zO zN).mono ?_;rintro e w2 ⟨⟨UJ,cap',rfl,-,-⟩,hb2⟩;have HB2:=jP UG hb2;clear hb2 hW1 t0 t1 t2 t3 t4;generalize gy (ae rs) typ rows[k].e.over rows[k].e.name=gs at VZ ⊢;cases gs with
   | nil =>
    have HN:Hid (aR (ae rs) typ (aj rows)=false):=by show _=_; rw [HD.out,VZ.out,Xg.out]; rfl
    go_wp2;go_ret;exact ⟨by rw [HN.out]; rfl,HB2.out⟩
   | cons g gs =>
    have UI:Hid (aR (ae rs) typ (aj (rows.drop (k + 1)))=aR (ae rs) typ (aj rows)):=by show _=_; rw [HD.out,VZ.out,Xg.out]; rfl
    have hlz:(((g::gs).length:Int) == 0)=false:=by
     have:¬ (((g::gs).length:Int)=0):=by simp; omega
     simpa using this
    obtain ⟨ln,hln⟩:∃ ln,ln=(g::gs).length:=⟨_,rfl⟩;rw [← hln] at hlz ⊢;clear hln;go_wp2;go_roundw;case rel=>exact ⟨k + 1,by omega,by go_num,UI,HB2⟩
    simp [intOf] <;> omega
  have hq3:(rows[k].e.kind == 3)=false:=by simpa using h3
  have VZ:Hid (lh (ae rs) typ rows[k].e=true):=by show _=_; unfold lh; rw [if_neg h2,if_neg h3]
  have UI:Hid (aR (ae rs) typ (aj (rows.drop (k + 1)))=aR (ae rs) typ (aj rows)):=by show _=_; rw [HD.out,VZ.out,Xg.out]; rfl
  have U3:Hid (ag w (wr.alloc (.cells #[.int .i64 rows[k].e.kind,.slice rows[k].adA rows[k].e.allow.length rows[k].capA,.string rows[k].e.over,.string rows[k].e.name,.slice rows[k].adK rows[k].e.kids.length rows[k].capK] 39))):=by rw [← hW1]; exact UG
  clear hW1;go_wp2;go_roundw;case rel=>exact ⟨k + 1,by omega,by go_num,UI,U3⟩
  simp [intOf] <;> omega
 have HN:Hid (aR (ae rs) typ (aj rows)=true):=by show _=_; rw [← HP.out,List.drop_of_length_le (by omega)]; rfl
 go_wp2;go_ret;exact ⟨by rw [HN.out]; rfl,HB.out⟩
def Al.cells (a:Al):List Value:=[.string a.t,.string a.s]
def iq:List Al→List Value
 | []=>[]
 | a::xs=>a.cells ++ iq xs
theorem Em (xs ys:List Al):iq (xs ++ ys)=iq xs ++ iq ys:=by
 induction xs with
 | nil=>rfl
 | cons d ds ih=>simp [iq,ih]
theorem Ac (xs:List Al) (d:Al):iq (xs ++ [d])=iq xs ++ d.cells:=by rw [Em]; simp [iq]
theorem CR (xs:List Al) (i:Nat) (h:i < xs.length) (o:Nat) (ho:o < 2):(iq xs)[i * 2 + o]?=(xs[i].cells)[o]?:=by
 induction xs generalizing i with
 | nil=>simp at h
 | cons s xs ih =>
  cases i with
  | zero =>
   simp only [iq,Nat.zero_mul,Um,List.getElem_cons_zero];rw [List.getElem?_append_left (by simp [Al.cells]; omega)]
  | succ i =>
   simp only [iq,List.getElem_cons_succ];rw [List.getElem?_append_right (by simp [Al.cells]; omega)];have e:(i + 1) * 2 + o - s.cells.length=i * 2 + o:=by simp [Al.cells]; omega
   rw [e];exact ih i (by simpa using h)
theorem Ov {w:af} {base:Nat} {v:Value} {xs:List Al} (h:w.ownsRow base 94 2 v xs.length (iq xs)):∃ ad cp,v=.slice ad xs.length cp∧jN w ad xs∧∀ p,ad=some p→base≤p.block:=by
 have h2:=h;rcases h.2 with ⟨rfl,h0⟩ | ⟨g,cp,cur,rfl,hbg,hg,hnc,-⟩
 ·exact ⟨none,0,by rw [h0],.inl (Ui.1 h0),fun p hp=>by cases hp⟩
 have hlt:=h2.lt g rfl;refine ⟨_,cp,rfl,.inr ⟨g,0,rfl,hlt.2,fun i hi=>?_⟩,fun p hp=>by injection hp with hp; rw [← hp]; exact hlt.1⟩;have h3:∀ (o:Nat) (u:Value),(iq xs)[i * 2 + o]?=some u→w.cell? ⟨g,0 + i * 2 + o,none⟩=some u:=fun o u hu=>by
  have:=h2.cells (g:=g) rfl (i * 2 + o) u hu;rw [FX] at this;rw [Um]; exact this
 exact ⟨h3 0 _ (by have:=CR xs i hi 0 (by omega); simpa [Al.cells] using this),h3 1 _ (by have:=CR xs i hi 1 (by omega); simpa [Al.cells] using this)⟩
def dH:List Al→List Al
 | []=>[]
 | a::xs=>if a.s.toList.isEmpty then dH xs else a::dH xs
theorem uU (xs ys:List Al):dH (xs ++ ys)=dH xs ++ dH ys:=by
 induction xs with
 | nil=>rfl
 | cons a xs ih=>simp only [List.cons_append,dH,ih]; split <;> simp
theorem Ow (xs:List Al) (k:Nat) (h:k < xs.length) (he:xs[k].s.toList.isEmpty=true):dH (xs.take (k + 1))=dH (xs.take k):=by
 rw [TV h,uU]; simp [dH] at he ⊢; simp [he]
theorem Lv (xs:List Al) (k:Nat) (h:k < xs.length) (he:xs[k].s.toList.isEmpty=false):dH (xs.take (k + 1))=dH (xs.take k) ++ [xs[k]]:=by
 rw [TV h,uU]; simp [dH,he]
theorem CS (xs:List Al):(dH xs).length≤xs.length:=by
 induction xs with
 | nil=>simp [dH]
 | cons a xs ih=>simp only [dH]; split <;> simp <;> omega
def jg (ts:List Ty) (typ:ByteArray) (e:Ex):List Al :=
 if e.kind=1 then dH e.allow else if e.kind=2 then [⟨typ,e.name⟩] else if e.kind=3 then (gy ts typ e.over e.name).map fun g=>⟨g,e.name⟩ else []
theorem Ox:(prog.info? 94).map (fun i=>(i.zero,i.size,i.bytes))=some (some (.agg #[.string ⟨#[]⟩,.string ⟨#[]⟩]),2,32):=by kernel_rfl
theorem En (rs:List TR) (hl:∀ r ∈ rs,r.light) (typ over rel:bH):(gy (ae rs) typ over rel).length≤1048576:=by
 unfold gy;split
 ·exact xI rs hl typ over rel
 simp
theorem wH (w:af) (o o':Obj):((w.alloc o).alloc o').heap[w.heap.size + 1]?=some o':=by
 have:=heap_alloc_new (w.alloc o) o';simpa using this
set_option maxRecDepth 100000 in
theorem F8 (b n:Nat) (rs:List TR) (ad:Option Addr) (M:ByteArray × ByteArray→Option Value) (typ:bH) (x:ER) (w:af) (hV:aM dQ prog 94 w b n M) (hT:Tab rs M) (hs:kW w ad rs) (hl:∀ r ∈ rs,r.light) (hf:∀ r ∈ rs,r.fits) (ht:typ.size≤maxLen) (YA:x.e.fits) (hxl:x.e.light) (hxo:x.ok w) :
  Calls prog 188 #[.map (some b),.string typ,x.val] w fun e w'=>(∃ (UJ:Option Addr) (cap':Nat),e=.returned (.slice UJ (jg (ae rs) typ x.e).length cap')∧jN w' UJ (jg (ae rs) typ x.e)∧∀ p,UJ=some p→w.heap.size≤p.block)∧ag w w':=by
 have HV:Hid (aM dQ prog 94 w b n M):=hV;have HT:=az hT;have HS:=az hs;have HL:=az hl;have UL:=az hf;have Xi:=az YA;have ZO:=az hxo;have lgA:x.e.allow.length≤1048576:=hxl.1;clear hV hT hs hl hf YA hxo hxl;obtain ⟨i0,hi,hz0,hz1,hz2⟩:=info_parts Ox;obtain ⟨W0,hW0⟩:∃ W0,W0=w.alloc (.cells #[.int .i64 x.e.kind,.slice x.adA x.e.allow.length x.capA,.string x.e.over,.string x.e.name,.slice x.adK x.e.kids.length x.capK] 39):=⟨_,rfl⟩;have hal:ag w W0:=by rw [hW0]; exact (TT _ _).alloc (TS _) _
 have HB0:=az hal;have hg0:w.heap.size < W0.heap.size:=by rw [hW0]; simp
 have c0:W0.cell? ⟨w.heap.size,0,none⟩=some (.int .i64 x.e.kind):=by rw [hW0]; simp
 have c1:W0.cell? ⟨w.heap.size,1,none⟩=some (.slice x.adA x.e.allow.length x.capA):=by rw [hW0]; simp
 have c2:W0.cell? ⟨w.heap.size,2,none⟩=some (.string x.e.over):=by rw [hW0]; simp
 have c3:W0.cell? ⟨w.heap.size,3,none⟩=some (.string x.e.name):=by rw [hW0]; simp
 have c4:W0.cell? ⟨w.heap.size,4,none⟩=some (.slice x.adK x.e.kids.length x.capK):=by rw [hW0]; simp
 clear hal;unfold ER.val;by_cases h1:x.e.kind=1
 ·have XQ:Hid (jg (ae rs) typ x.e=dH x.e.allow):=by show _=_; unfold jg; rw [if_pos h1]
  have hq1:(x.e.kind == 1)=true:=by simpa using h1
  replace h1:Hid (x.e.kind=1):=h1;go_enter func188,ntmps188;go_wp2_with fail;rw [← hW0];clear hW0;go_loopw [7,19] (fun v i wr=>∃ k:Nat,k≤x.e.allow.length∧i=.int .i64 k∧Hid (wr.ownsRow w.heap.size 94 2 v (dH (x.e.allow.take k)).length (iq (dH (x.e.allow.take k))))∧Hid (ag w wr)) (fun _ i _=>x.e.allow.length - (intOf i).toNat);case atStart=>exact ⟨0,TW _,rfl,World.ownsRow_nil _ _ _ _,HB0⟩
  clear HB0 c0 c1 c2 c3 c4 hg0;obtain ⟨k,hk,rfl,HOW,HB⟩:=hrel;by_cases hlt:k < x.e.allow.length
  ·rcases (ZO.out.1).below HB.out with hnil | ⟨ba,Wp,had,Yl,hra⟩
   ·rw [hnil] at hlt; simp at hlt
   obtain ⟨t0,t1⟩:=hra k hlt;have hk1:=bB k;have hk2:(k:Int) < (x.e.allow.length:Int):=by omega
   obtain ⟨W1,hW1⟩:∃ W1,W1=wr.alloc (.cells #[.string x.e.allow[k].t,.string x.e.allow[k].s] 43):=⟨_,rfl⟩;have hal:ag wr W1:=by rw [hW1]; exact (TT _ _).alloc (TS _) _
   have UG:=jP HB hal;have Wz:Hid (W1.ownsRow w.heap.size 94 2 u7 (dH (x.e.allow.take k)).length (iq (dH (x.e.allow.take k)))):=own_below HOW.out hal;have g0:W1.cell? ⟨wr.heap.size,0,none⟩=some (.string x.e.allow[k].t):=by rw [hW1]; simp
   have g1:W1.cell? ⟨wr.heap.size,1,none⟩=some (.string x.e.allow[k].s):=by rw [hW1]; simp
   have hgl1:wr.heap.size < W1.heap.size:=by rw [hW1]; simp
   have hgl:=CS (x.e.allow.take k);rw [Ut] at hgl;have hwsz:w.heap.size≤W1.heap.size:=UG.out.size;rw [had];clear hra hal HOW;cases he:x.e.allow[k].s.toList.isEmpty;case true=>
    have HE:Hid (dH (x.e.allow.take (k + 1))=dH (x.e.allow.take k)):=Ow _ _ hlt he;have U3:Hid (ag w (wr.alloc (.cells #[.string x.e.allow[k].t,.string x.e.allow[k].s] 43))):=by rw [← hW1]; exact UG
    have Z8:Hid ((wr.alloc (.cells #[.string x.e.allow[k].t,.string x.e.allow[k].s] 43)).ownsRow w.heap.size 94 2 u7 (dH (x.e.allow.take (k + 1))).length (iq (dH (x.e.allow.take (k + 1))))):=by rw [← hW1,HE.out]; exact Wz
    clear hW1 g0 g1;go_wp2;go_roundw;case rel=>exact ⟨k + 1,by omega,by go_num,Z8,U3⟩
    simp [intOf] <;> omega
   have HX:Hid (dH (x.e.allow.take (k + 1))=dH (x.e.allow.take k) ++ [x.e.allow[k]]):=Lv _ _ hlt he;have Z8:Hid ((wr.alloc (.cells #[.string x.e.allow[k].t,.string x.e.allow[k].s] 43)).ownsRow w.heap.size 94 2 u7 (dH (x.e.allow.take k)).length (iq (dH (x.e.allow.take k)))):=by rw [← hW1]; exact Wz
   have U3:Hid (ag w (wr.alloc (.cells #[.string x.e.allow[k].t,.string x.e.allow[k].s] 43))):=by rw [← hW1]; exact UG
   have hws:w.heap.size≤wr.heap.size:=HB.out.size;clear hW1 Wz UG g0 g1 hgl1 hwsz W1;go_wp2_with (at_builtin; refine wpList_append_own_at _ rfl _ _ 277 rfl w.heap.size 94 i0 _ 2 32 underlying277 hi hz0 hz1 hz2 rfl (by decide) _ _ _ rfl (Z8.out.alloc _) ⟨wr.heap.size + 1,0,none⟩ 1 1 [.string x.e.allow[k].t,.string x.e.allow[k].s] rfl rfl (World.news_of_block (cs:=#[.string x.e.allow[k].t,.string x.e.allow[k].s]) (t:=94) (fr:=(0,0)) (wH wr _ _)) (by simp [Value.oneCell']) (by unfold maxLen; omega) (by omega) (by simp; omega) ?_);intro v' w3 hown3 hgrow _ hloc;have HB3:Hid (ag w w3):=(U3.out.alloc U3.out.size _).grown hgrow (by simp; omega) (fun i hi=>(Z8.out.lt i hi).1);have UX:Hid (w3.ownsRow w.heap.size 94 2 v' (dH (x.e.allow.take (k + 1))).length (iq (dH (x.e.allow.take (k + 1))))):=by
    show World.ownsRow _ _ _ _ _ _ _;rw [HX.out,Ac,T9];exact hown3
   clear hown3 hgrow hloc Z8 U3;go_wp2;go_roundw;case rel=>exact ⟨k + 1,by omega,by go_num,UX,HB3⟩
   simp [intOf] <;> omega
  obtain rfl:k=x.e.allow.length:=by omega
  have hown:=HOW.out;rw [Ug] at hown;obtain ⟨UJ,cp,rfl,hS',hN'⟩:=Ov hown;have HS2:=az hS';have VY:Hid (∀ p,UJ=some p→w.heap.size≤p.block):=hN';clear hown HOW hS' hN';go_wp2;go_ret;exact ⟨⟨UJ,cp,by rw [XQ.out]; rfl,by rw [XQ.out]; exact HS2.out,VY.out⟩,HB.out⟩
 have hq1:(x.e.kind == 1)=false:=by simpa using h1
 by_cases h2:x.e.kind=2
 ·have XQ:Hid (jg (ae rs) typ x.e=[⟨typ,x.e.name⟩]):=by show _=_; unfold jg; rw [if_neg h1,if_pos h2]
  have hq2:(x.e.kind == 2)=true:=by simpa using h2
  replace h2:Hid (x.e.kind=2):=h2;have Z8:Hid ((w.alloc (.cells #[.int .i64 x.e.kind,.slice x.adA x.e.allow.length x.capA,.string x.e.over,.string x.e.name,.slice x.adK x.e.kids.length x.capK] 39)).ownsRow w.heap.size 94 2 (.slice none 0 0) 0 []):=World.ownsRow_nil _ _ _ _;have U3:Hid (ag w (w.alloc (.cells #[.int .i64 x.e.kind,.slice x.adA x.e.allow.length x.capA,.string x.e.over,.string x.e.name,.slice x.adK x.e.kids.length x.capK] 39))):=by rw [← hW0]; exact HB0
  clear hW0 HB0 c0 c1 c2 c3 c4 hg0 W0;go_enter func188,ntmps188;go_wp2_with (at_builtin; refine wpList_append_own_at _ rfl _ _ 277 rfl w.heap.size 94 i0 _ 2 32 underlying277 hi hz0 hz1 hz2 rfl (by decide) _ _ _ rfl (Z8.out.alloc _) ⟨w.heap.size + 1,0,none⟩ 1 1 [.string typ,.string x.e.name] rfl rfl (World.news_of_block (cs:=#[.string typ,.string x.e.name]) (t:=94) (fr:=(0,0)) (wH w _ _)) (by simp [Value.oneCell']) (by unfold maxLen; omega) (by omega) (by simp; omega) ?_);intro v' w3 hown3 hgrow _ hloc;have HB3:Hid (ag w w3):=(U3.out.alloc U3.out.size _).grown hgrow (by simp; omega) (fun i hi=>(Z8.out.lt i hi).1);have U0:w3.ownsRow w.heap.size 94 2 v' ([⟨typ,x.e.name⟩]:List Al).length (iq [⟨typ,x.e.name⟩]):=hown3;obtain ⟨UJ,cp,rfl,hS',hN'⟩:=Ov U0;have HS2:=az hS';have VY:Hid (∀ p,UJ=some p→w.heap.size≤p.block):=hN';clear hown3 U0 hgrow hloc Z8 U3 hS' hN';go_wp2;go_ret;exact ⟨⟨UJ,cp,by rw [XQ.out]; rfl,by rw [XQ.out]; exact HS2.out,VY.out⟩,HB3.out⟩
 have hq2:(x.e.kind == 2)=false:=by simpa using h2
 by_cases h3:x.e.kind=3
 ·have XQ:Hid (jg (ae rs) typ x.e=(gy (ae rs) typ x.e.over x.e.name).map fun g=>(⟨g,x.e.name⟩:Al)):=by show _=_; unfold jg; rw [if_neg h1,if_neg h2,if_pos h3]
  have hq3:(x.e.kind == 3)=true:=by simpa using h3
  replace h3:Hid (x.e.kind=3):=h3;have HGL:(gy (ae rs) typ x.e.over x.e.name).length≤1048576:=En rs HL.out _ _ _;have ZK:=az (HV.out.below HB0.out);go_enter func188,ntmps188;go_wp2_with fail;rw [← hW0];refine (xJ b n rs ad M typ x _ ZK.out HT.out (HS.out.below HB0.out) HL.out UL.out ht Xi.out.2.1 Xi.out.2.2.1).mono ?_;rintro e w1 ⟨⟨adG,cpG,rfl,hSG,hNG⟩,hb1⟩;generalize gy (ae rs) typ x.e.over x.e.name=gs at *
  have HB1:=jP HB0 hb1;have HSG:=az hSG;have HNG:Hid (∀ p,adG=some p→W0.heap.size≤p.block):=hNG;have VE:Hid (w1.cell? ⟨w.heap.size,3,none⟩=some (.string x.e.name)∧w.heap.size < w1.heap.size):=⟨aG hb1 hg0 c3,TP hg0 hb1.size⟩;clear hW0 hSG hNG hb1 c0 c1 c2 c3 c4 HB0 ZK hg0 HNG;go_wp2_with fail;go_loopw [7,51] (fun v i wr=>∃ m:Nat,m≤gs.length∧i=.int .i64 m∧Hid (wr.ownsRow w.heap.size 94 2 v m (iq ((gs.take m).map fun g=>(⟨g,x.e.name⟩:Al))))∧Hid (ag w wr)∧Hid (Aside w1 (.slice none 0 0) wr v)) (fun _ i _=>gs.length - (intOf i).toNat);case atStart=>exact ⟨0,TW _,rfl,World.ownsRow_nil _ _ _ _,HB1,Aside.refl _ _⟩
  clear HB1;obtain ⟨m,hm,rfl,HO,HB,HA⟩:=hrel;have x3:=qA HA.out VE.out.2 (by simp [Value.ownBlock]) VE.out.1;by_cases U5:m < gs.length
  ·rcases HSG.out with rfl | ⟨bg,offg,rfl,hbg,hrg⟩
   ·simp at U5
   have q0:=qA HA.out hbg (by simp [Value.ownBlock]) (hrg m U5);have hm1:=bB m;have hm2:(m:Int) < (gs.length:Int):=by omega
   have hws:w.heap.size≤wr.heap.size:=HB.out.size;have HFX:Hid (iq ((gs.take (m + 1)).map fun g=>(⟨g,x.e.name⟩:Al))=iq ((gs.take m).map fun g=>(⟨g,x.e.name⟩:Al)) ++ [.string gs[m],.string x.e.name]):=by
    show _=_;rw [TV U5,List.map_append,List.map_singleton,Ac]; rfl
   clear hrg;go_wp2_with (at_builtin; refine wpList_append_own_at _ rfl _ _ 277 rfl w.heap.size 94 i0 _ 2 32 underlying277 hi hz0 hz1 hz2 rfl (by decide) _ _ _ rfl (HO.out.alloc _) ⟨wr.heap.size,0,none⟩ 1 1 [.string gs[m],.string x.e.name] rfl rfl (World.news_of_block (cs:=#[.string gs[m],.string x.e.name]) (t:=94) (fr:=(0,0)) (heap_alloc_new wr _)) (by simp [Value.oneCell']) (by unfold maxLen; omega) (by omega) (by simp; omega) ?_);intro v' w3 hown3 hgrow _ hloc;have HB3:Hid (ag w w3):=(HB.out.alloc HB.out.size _).grown hgrow (by simp; omega) (fun i hi=>(HO.out.lt i hi).1);have UX:Hid (w3.ownsRow w.heap.size 94 2 v' (m + 1) (iq ((gs.take (m + 1)).map fun g=>(⟨g,x.e.name⟩:Al)))):=by
    show World.ownsRow _ _ _ _ _ _ _;rw [HFX.out]; simpa [List.map_take] using hown3
   have HA3:Hid (Aside w1 (.slice none 0 0) w3 v'):=HA.out.trans ((Aside.below ((TT _ _).alloc (TS _) _)).trans (Aside.app hgrow (by simpa using hloc)));clear hown3 hgrow hloc HO HA;go_wp2;go_roundw;case rel=>exact ⟨m + 1,by omega,by go_num,UX,HB3,HA3⟩
   simp [intOf] <;> omega
  obtain rfl:m=gs.length:=by omega
  have hown:=HO.out;rw [Ug] at hown;have e:gs.length=(gs.map fun g=>(⟨g,x.e.name⟩:Al)).length:=by simp
  rw [e] at hown;obtain ⟨UJ,cp,rfl,hS',hN'⟩:=Ov hown;have HS2:Hid (jN wr UJ (gs.map fun g=>(⟨g,x.e.name⟩:Al))):=hS';have VY:Hid (∀ p,UJ=some p→w.heap.size≤p.block):=hN';obtain ⟨ln,hln⟩:∃ ln,ln=(gs.map fun g=>(⟨g,x.e.name⟩:Al)).length:=⟨_,rfl⟩;rw [← hln];have HLN:Hid (ln=(gs.map fun g=>(⟨g,x.e.name⟩:Al)).length):=hln;clear hown HO hS' hN' e HA x3 hln;go_wp2;go_ret;exact ⟨⟨UJ,cp,by rw [XQ.out,← HLN.out]; rfl,by rw [XQ.out]; exact HS2.out,VY.out⟩,HB.out⟩
 have XQ:Hid (jg (ae rs) typ x.e=[]):=by show _=_; unfold jg; rw [if_neg h1,if_neg h2,if_neg h3]
 have hq3:(x.e.kind == 3)=false:=by simpa using h3
 have U3:Hid (ag w (w.alloc (.cells #[.int .i64 x.e.kind,.slice x.adA x.e.allow.length x.capA,.string x.e.over,.string x.e.name,.slice x.adK x.e.kids.length x.capK] 39))):=by rw [← hW0]; exact HB0
 clear hW0 HB0 c0 c1 c2 c3 c4 hg0;go_enter func188,ntmps188;go_wp2;go_ret;exact ⟨⟨none,0,by rw [XQ.out]; rfl,by rw [XQ.out]; exact .inl rfl,fun p hp=>by cases hp⟩,U3.out⟩
abbrev Ky:=ByteArray × ByteArray
def lookL (E:List (Ky × St)) (k:Ky):List St:=E.filterMap fun p=>if p.1=k then some p.2 else none
theorem lookL_append (E F:List (Ky × St)) (k:Ky):lookL (E ++ F) k=lookL E k ++ lookL F k:=by unfold lookL; rw [List.filterMap_append]
theorem sU (E:List (Ky × St)) (k:Ky) (s:St):lookL (E ++ [(k,s)]) k=lookL E k ++ [s]:=by rw [lookL_append]; simp [lookL]
theorem qh (E:List (Ky × St)) {k y:Ky} (s:St) (h:k ≠ y):lookL (E ++ [(y,s)]) k=lookL E k:=by rw [lookL_append]; simp [lookL,Ne.symm h]
theorem mem_lookL {E:List (Ky × St)} {k:Ky} {s:St}:s ∈ lookL E k ↔ (k,s) ∈ E:=by
 unfold lookL;rw [List.mem_filterMap];constructor
 ·rintro ⟨⟨a,b⟩,h1,h2⟩;simp only at h2;split at h2
  ·rename_i e; injection h2 with h2; rw [← e,← h2]; exact h1
  cases h2
 intro h; exact ⟨(k,s),h,by simp⟩
def FreeB (M:Ky→Option Value) (g:Nat):Prop:=∀ k v,M k=some v→v.ownBlock ≠ some g
structure Grp (w:World) (bL n:Nat) (M:Ky→Option Value) (E:List (Ky × St)):Prop where
 map:aM dQ prog 94 w bL n M
 row:∀ k,(M k=none∧lookL E k=[]) ∨ ∃ v,M k=some v∧w.ownsRow (bL + 1) 274 3 v (lookL E k).length (iG (lookL E k))
 apart:∀ k k' v v',k ≠ k'→M k=some v→M k'=some v'→∀ g,v.ownBlock=some g→v'.ownBlock ≠ some g
theorem Grp.lt {w:af} {bL n:Nat} {M:Ky→Option Value} {E:List (Ky × St)} (h:Grp w bL n M E) {k:Ky} {v:Value} (hk:M k=some v) {g:Nat} (hg:v.ownBlock=some g):bL < g∧g < w.heap.size:=by
 rcases h.row k with ⟨e,-⟩ | ⟨v',e,ho⟩
 ·rw [e] at hk; cases hk
 rw [e] at hk; injection hk with hk; subst hk;have:=ho.lt g hg;exact ⟨by omega,this.2⟩
theorem Grp.fresh {w:af} {bL n:Nat} {M:Ky→Option Value} {E:List (Ky × St)} (h:Grp w bL n M E) {g:Nat} (hg:w.heap.size≤g):FreeB M g:=fun k v hk e=>by
 have:=(h.lt hk e).2; omega
theorem Grp.mono {w:af} {bL n n':Nat} {M:Ky→Option Value} {E:List (Ky × St)} (h:Grp w bL n M E) (hn:n≤n'):Grp w bL n' M E:=⟨h.map.mono hn,h.row,h.apart⟩
theorem Grp.below {w w':af} {bL n:Nat} {M:Ky→Option Value} {E:List (Ky × St)} (h:Grp w bL n M E) (hB:ag w w'):Grp w' bL n M E where
 map:=h.map.below hB
 row k:=by
  rcases h.row k with e | ⟨v,e,ho⟩
  ·exact .inl e
  exact .inr ⟨v,e,own_below ho hB⟩
 apart:=h.apart
theorem grp_made (w:af):Grp (w.alloc (.map #[] 0)) w.heap.size 0 (fun _=>none) [] where
 map:=nJ _ _ _ w
 row k:=.inl ⟨rfl,rfl⟩
 apart k k' v v' _ h:=by cases h
structure Stl (W:World) (M:Ky→Option Value) (w2:World) (M2:Ky→Option Value) (bL:Nat):Prop where
 size:W.heap.size≤w2.heap.size
 block:∀ g,g < W.heap.size→g ≠ bL→FreeB M g→w2.heap[g]?=W.heap[g]?
 free:∀ g,g < W.heap.size→FreeB M g→FreeB M2 g
theorem Stl.refl (W:af) (M:Ky→Option Value) (bL:Nat):Stl W M W M bL:=⟨TS _,fun _ _ _ _=>rfl,fun _ _ h=>h⟩
theorem Stl.trans {W w2 w3:af} {M M2 M3:Ky→Option Value} {bL:Nat} (h:Stl W M w2 M2 bL) (h2:Stl w2 M2 w3 M3 bL):Stl W M w3 M3 bL where
 size:=TZ h.size h2.size
 block g hg hb hf:=(h2.block g (TP hg h.size) hb (h.free g hg hf)).trans (h.block g hg hb hf)
 free g hg hf:=h2.free g (TP hg h.size) (h.free g hg hf)
theorem Stl.below {W w2:af} {M:Ky→Option Value} {bL:Nat} (hB:ag W w2):Stl W M w2 M bL:=⟨hB.size,fun g hg _ _=>hB.block g hg,fun _ _ h=>h⟩
structure Cel (w:World) (M:Ky→Option Value) (bL g o:Nat) (u:Value):Prop where
 cell:w.cell? ⟨g,o,none⟩=some u
 lt:g < w.heap.size
 free:FreeB M g
 ne:g ≠ bL
theorem Cel.stl {w w2:af} {M M2:Ky→Option Value} {bL g o:Nat} {u:Value} (h:Cel w M bL g o u) (hS:Stl w M w2 M2 bL):Cel w2 M2 bL g o u where
 cell:=(Ul (w:=w) (hS.block g h.lt h.ne h.free)).trans h.cell
 lt:=TP h.lt hS.size
 free:=hS.free g h.lt h.free
 ne:=h.ne
theorem Grp.step {W0 w1 w2 w3:af} {bL n:Nat} {M:Ky→Option Value} {E:List (Ky × St)} {y:Ky} {v':Value} {s:St} (h:Grp W0 bL n M E) (hg1:W0.grownBy w1 (some bL)) (hown:w2.ownsRow (bL + 1) 274 3 v' ((lookL E y).length + 1) (iG (lookL E y) ++ s.cells))
  (hg2:w1.grownBy w2 ((M y).getD (.slice none 0 0)).ownBlock) (hloc:v'.ownBlock=((M y).getD (.slice none 0 0)).ownBlock ∨ v'.ownBlock=some w1.heap.size) (hg3:w2.grownBy w3 (some bL)) (hM:aM dQ prog 94 w3 bL (n + 1) (kZ M y (some v'))) :
  Grp w3 bL (n + 1) (kZ M y (some v')) (E ++ [(y,s)])∧Stl W0 M w3 (kZ M y (some v')) bL:=by
 have hrow0:∀ k v,M k=some v→∃ xs m,W0.ownsRow (bL + 1) 274 3 v m xs:=fun k v hk=>by
  rcases h.row k with ⟨e,-⟩ | ⟨v1,e,ho⟩
  ·rw [e] at hk; cases hk
  rw [e] at hk; injection hk with hk; subst hk; exact ⟨_,_,ho⟩
 have hne2:∀ k v,k ≠ y→M k=some v→v.ownBlock=none ∨ v.ownBlock ≠ ((M y).getD (.slice none 0 0)).ownBlock:=fun k v Za hk=>by
  cases e:v.ownBlock with
  | none=>exact .inl rfl
  | some g =>
   right;cases ey:M y with
   | none=>simp [Value.ownBlock]
   | some vy=>intro e2; exact h.apart k y v vy Za hk ey g e (by simpa using e2.symm)
 have hnb:∀ v,(∃ k,M k=some v)→v.ownBlock=none ∨ v.ownBlock ≠ some bL:=fun v ⟨k,hk⟩=>by
  cases e:v.ownBlock with
  | none=>exact .inl rfl
  | some g=>right; have:=(h.lt hk e).1; intro e2; injection e2 with e2; omega
 have hnew:∀ g,v'.ownBlock=some g→bL < g:=fun g e=>by have:=(hown.lt g e).1; omega
 have hv'b:v'.ownBlock=none ∨ v'.ownBlock ≠ some bL:=by
  cases e:v'.ownBlock with
  | none=>exact .inl rfl
  | some g=>right; have:=hnew g e; intro e2; injection e2 with e2; omega
 constructor
 ·refine ⟨hM,fun k=>?_,fun k k' v u hkk hk hk' g e=>?_⟩
  ·by_cases ek:k=y
   ·subst ek;rw [dZ,sU];refine .inr ⟨v',rfl,?_⟩;rw [zU,T9];exact hown.kept hg3 hv'b
   rw [cz ek,qh _ _ ek];rcases h.row k with e | ⟨v,e,ho⟩
   ·exact .inl e
   exact .inr ⟨v,e,((ho.kept hg1 (hnb v ⟨k,e⟩)).kept hg2 (hne2 k v ek e)).kept hg3 (hnb v ⟨k,e⟩)⟩
  by_cases ek:k=y
  ·subst ek;rw [dZ] at hk; injection hk with hk; subst hk;rw [cz (Ne.symm hkk)] at hk';intro e2;rcases hloc with el | el
   ·rw [e] at el;cases ey:M k with
    | none=>rw [ey] at el; simp [Value.ownBlock] at el
    | some vy=>rw [ey] at el; exact h.apart k k' vy u hkk ey hk' g (by simpa using el.symm) e2
   rw [e] at el; injection el with el;have:=(h.lt hk' e2).2;have:=hg1.size;omega
  rw [cz ek] at hk;by_cases ek':k'=y
  ·subst ek';rw [dZ] at hk'; injection hk' with hk'; subst hk';intro e2;rcases hloc with el | el
   ·rw [e2] at el;cases ey:M k' with
    | none=>rw [ey] at el; simp [Value.ownBlock] at el
    | some vy=>rw [ey] at el; exact h.apart k k' v vy hkk hk ey g e (by simpa using el.symm)
   rw [e2] at el; injection el with el;have:=(h.lt hk e).2;have:=hg1.size;omega
  rw [cz ek'] at hk';exact h.apart k k' v u hkk hk hk' g e
 refine ⟨TZ hg1.size (TZ hg2.size hg3.size),fun g hg hb hf=>?_,fun g hg hf k v hk=>?_⟩
 ·have h1:=hg1.block g hg (fun e=>hb (by injection e));have h2:=hg2.block g (TP hg hg1.size) (fun e=>by
   cases ey:M y with
   | none=>rw [ey] at e; simp [Value.ownBlock] at e
   | some vy=>rw [ey] at e; exact hf y vy ey (by simpa using e.symm))
  have h3:=hg3.block g (TP hg (TZ hg1.size hg2.size)) (fun e=>hb (by injection e));rw [h3,h2,h1]
 by_cases ek:k=y
 ·subst ek;rw [dZ] at hk; injection hk with hk; subst hk;intro e2;rcases hloc with el | el
  ·rw [e2] at el;cases ey:M k with
   | none=>rw [ey] at el; simp [Value.ownBlock] at el
   | some vy=>rw [ey] at el; exact hf k vy ey (by simpa using el.symm)
  rw [e2] at el; injection el with el; have:=hg1.size; omega
 rw [cz ek] at hk;exact hf k v hk
def xK (b:Bool):Int:=if b then 1 else 0
def Ad (ts:List Ty) (t r:ByteArray) (ng:Bool) (e:Ex):List (Ky × St):=(jg ts t e).map fun a=>((a.t,a.s),⟨t,r,xK ng⟩)
def relE (ts:List Ty) (t r:ByteArray) (es:List Ex):Nat→List (Ky × St)
 | 0=>[]
 | i + 1=>relE ts t r es i ++ (match es[i]? with | none=>[] | some e=>Ad ts t r ((dz es).getD i false) e)
def jh (ts:List Ty) (t:ByteArray) (qs:List RR):List (Ky × St):=qs.flatMap fun q=>relE ts t q.name (aj q.rows) q.rows.length
def ji (ts:List Ty) (rs:List TR):List (Ky × St):=rs.flatMap fun t=>jh ts t.name t.rows
theorem IV (ts:List Ty) (t:bH) (qs:List RR) (j:Nat) (h:j < qs.length):jh ts t (qs.take (j + 1))=jh ts t (qs.take j) ++ relE ts t qs[j].name (aj qs[j].rows) qs[j].rows.length:=by
 unfold jh;rw [TV h,List.flatMap_append,List.flatMap_singleton]
theorem IW (ts:List Ty) (rs:List TR) (k:Nat) (h:k < rs.length):ji ts (rs.take (k + 1))=ji ts (rs.take k) ++ jh ts rs[k].name rs[k].rows:=by
 unfold ji;rw [TV h,List.flatMap_append,List.flatMap_singleton]
theorem CU (ts:List Ty) (t r:bH) (rows:List ER) (i:Nat) (h:i < rows.length) (ng:Bool) (hn:ng=(dz (aj rows)).getD i false):relE ts t r (aj rows) (i + 1)=relE ts t r (aj rows) i ++ Ad ts t r ng rows[i].e:=by
 have e:(aj rows)[i]?=some rows[i].e:=by simp [aj,h]
 simp only [relE,e,hn]
theorem CV (rs:List TR) (hl:∀ r ∈ rs,∀ q ∈ r.rows,∀ e ∈ q.rows,e.e.allow.length≤6) (typ:bH) (e:Ex) (he:e.allow.length≤6):(jg (ae rs) typ e).length≤6:=by
 unfold jg;split
 ·exact TZ (CS _) he
 split
 ·simp
 split
 ·rw [Uy];unfold gy;split
  ·refine TZ (zX _ _ _ _) ?_;unfold aA;cases h:fI (ae rs) typ e.over with
   | none=>simp [aU]
   | some es =>
    obtain ⟨t,ht,q,hq,-,-,rfl⟩:=nY h;have h1:=hl t ht q hq;have:∀ (xs:List ER),(∀ q ∈ xs,q.e.allow.length≤6)→(aU (aj xs)).length≤6:=by
     intro xs
     induction xs with
     | nil=>intro _; simp [aj,aU]
     | cons x xs ih =>
      intro h;have e4:aj (x::xs)=x.e::aj xs:=rfl;rw [e4];simp only [aU];split
      ·exact h x (by simp)
      exact ih (fun q hq=>h q (by simp [hq]))
    exact this q.rows h1
  simp
 simp
theorem IX (rs:List TR) (hf:∀ r ∈ rs,r.fits) (typ:bH) (ht:typ.size≤maxLen) (e:Ex) (he:e.fits):∀ a ∈ jg (ae rs) typ e,a.t.size≤maxLen∧a.s.size≤maxLen:=by
 have hA:∀ (xs:List Al),(∀ a ∈ xs,a.fits)→∀ a ∈ dH xs,a.t.size≤maxLen∧a.s.size≤maxLen:=by
  intro xs
  induction xs with
  | nil=>intro _ a ha; cases ha
  | cons b xs ih =>
   intro h a ha;simp only [dH] at ha;split at ha
   ·exact ih (fun q hq=>h q (by simp [hq])) a ha
   rcases List.mem_cons.1 ha with rfl | ha
   ·exact h a (by simp)
   exact ih (fun q hq=>h q (by simp [hq])) a ha
 have hG:∀ (xs:List Al) (rel:ByteArray),(∀ a ∈ xs,a.fits)→∀ g ∈ gl (ae rs) rel xs,g.size≤maxLen:=by
  intro xs rel
  induction xs with
  | nil=>intro _ a ha; cases ha
  | cons b xs ih =>
   intro h a ha;simp only [gl] at ha;split at ha
   ·exact ih (fun q hq=>h q (by simp [hq])) a ha
   rcases List.mem_cons.1 ha with rfl | ha
   ·exact (h b (by simp)).1
   exact ih (fun q hq=>h q (by simp [hq])) a ha
 unfold jg;split
 ·exact hA _ he.1
 split
 ·intro a ha; simp at ha; subst ha; exact ⟨ht,he.2.2.1⟩
 split
 ·intro a ha;obtain ⟨g,hg,rfl⟩:=Ue.1 ha;refine ⟨?_,he.2.2.1⟩;unfold gy at hg;split at hg
  ·unfold ig at hg;refine hG _ _ ?_ g hg;unfold aA;cases e3:fI (ae rs) typ e.over with
   | none=>intro a ha; simp [aU] at ha
   | some es =>
    obtain ⟨t,ht',q,hq,-,-,rfl⟩:=nY e3;have hq2:=((hf t ht').2.2 q hq).2.2;intro a ha;have:∀ (xs:List ER),(∀ q ∈ xs,q.e.fits)→∀ a ∈ aU (aj xs),a.fits:=by
     intro xs
     induction xs with
     | nil=>intro _ a ha; simp [aj,aU] at ha
     | cons x xs ih =>
      intro h a ha;have e4:aj (x::xs)=x.e::aj xs:=rfl;rw [e4] at ha;simp only [aU] at ha;split at ha
      ·exact (h x (by simp)).1 a ha
      exact ih (fun q hq=>h q (by simp [hq])) a ha
    exact this q.rows hq2 a ha
  cases hg
 intro a ha; cases ha
theorem Qw:(prog.info? 274).map (fun i=>(i.zero,i.size,i.bytes))=some (some (.agg #[.string ⟨#[]⟩,.string ⟨#[]⟩,.int .i64 0]),3,40):=by kernel_rfl
theorem IY (u:af):(zeroValue 272).run prog u=.ok (.slice none 0 0) u:=by kernel_rfl
theorem uV {w:af} {bL n:Nat} {M:Ky→Option Value} {E:List (Ky × St)} (h:Grp w bL n M E) (y:Ky):w.ownsRow (bL + 1) 274 3 ((M y).getD (.slice none 0 0)) (lookL E y).length (iG (lookL E y)):=by
 rcases h.row y with ⟨e,e2⟩ | ⟨v,e,ho⟩
 ·rw [e,e2]; exact World.ownsRow_nil _ _ _ _
 rw [e]; exact ho
theorem Oy {w:af} {bL n:Nat} {M:Ky→Option Value} {E:List (Ky × St)} (h:Grp w bL n M E) (y:Ky):some bL ≠ ((M y).getD (.slice none 0 0)).ownBlock:=by
 cases e:M y with
 | none=>simp [Value.ownBlock]
 | some v=>intro e2; have:=(h.lt e (g:=bL) (by simpa using e2.symm)).1; omega
theorem CW (E:List (Ky × St)) (y:Ky):(lookL E y).length≤E.length:=List.length_filterMap_le _ _
set_option maxRecDepth 100000 in
theorem BG (ad:Option Addr) (cap:Nat) (rs:List TR) (bT nT:Nat) (T:Ky→Option Value) (w:af) (hlen:rs.length≤6) (hs:kW w ad rs) (hl:∀ r ∈ rs,r.light) (hf:∀ r ∈ rs,r.fits) (hrl:∀ r ∈ rs,r.rows.length≤6) (hel:∀ r ∈ rs,∀ q ∈ r.rows,q.rows.length≤15∧∀ e ∈ q.rows,dV q.rows.length e.e.kids) (hal6:∀ r ∈ rs,∀ q ∈ r.rows,∀ e ∈ q.rows,e.e.allow.length≤6) (hV:aM dQ prog 94 w bT nT T) (hT:Tab rs T) :
  Calls prog 134 #[.slice ad rs.length cap,.map (some bT)] w fun e w'=>e=.returned (.map (some w.heap.size))∧(∃ n M,Grp w' w.heap.size n M (ji (ae rs) rs))∧ag w w':=by
 have HS:=az hs;have HL:=az hl;have UL:=az hf;have Yz:Hid (∀ r ∈ rs,r.rows.length≤6):=hrl;have V6:Hid (∀ r ∈ rs,∀ q ∈ r.rows,q.rows.length≤15∧∀ e ∈ q.rows,dV q.rows.length e.e.kids):=hel;have HV:Hid (aM dQ prog 94 w bT nT T):=hV;have HT:=az hT;have Yn:Hid (∀ r ∈ rs,∀ q ∈ r.rows,∀ e ∈ q.rows,e.e.allow.length≤6):=hal6;clear hs hl hf hrl hel hV hT hal6;obtain ⟨i0,hi,hz0,hz1,hz2⟩:=info_parts Qw;have HG0:Hid (Grp (w.alloc (.map #[] 0)) w.heap.size 0 (fun _=>none) []):=grp_made w;have HB0:Hid (ag w (w.alloc (.map #[] 0))):=(TT _ _).alloc (TS _) _;have hmm:=@run_makeMap prog;go_enter func134,ntmps134;go_wp2_with fail;go_loopw [19] (fun i wr=>∃ k:Nat,k≤rs.length∧i=.int .i64 k∧Hid (∃ n M,Grp wr w.heap.size n M (ji (ae rs) (rs.take k))∧n≤k * 540∧(ji (ae rs) (rs.take k)).length≤k * 540)∧Hid (ag w wr)) (fun i _=>rs.length - (intOf i).toNat);case atStart=>exact ⟨0,TW _,rfl,⟨0,_,HG0.out,by omega,by simp [ji]⟩,HB0⟩
 clear HG0 HB0 hmm;obtain ⟨k,hk,rfl,HG,HB⟩:=hrel;by_cases hlt:k < rs.length
 ·rcases HS.out.below HB.out with rfl | ⟨b,off,rfl,hb,hr,-⟩
  ·simp at hlt
  obtain ⟨t0,t1⟩:=hr k hlt;have hk1:=bB k;have hk2:(k:Int) < (rs.length:Int):=by omega
  have h6:rs[k].rows.length≤6:=Yz.out _ (TQ hlt);have z0:rs[k].name.size≤maxLen:=(UL.out _ (TQ hlt)).1;have WK:Hid (∀ q ∈ rs[k].rows,q.fits):=(UL.out _ (TQ hlt)).2.2;have HLR:Hid (∀ q ∈ rs[k].rows,q.light):=(HL.out _ (TQ hlt)).2;have HER:Hid (∀ q ∈ rs[k].rows,q.rows.length≤15∧∀ e ∈ q.rows,dV q.rows.length e.e.kids):=V6.out _ (TQ hlt);obtain ⟨n1,M1,hG1,hn1,hE1⟩:=HG.out;obtain ⟨E1,hE1d⟩:∃ E1,E1=ji (ae rs) (rs.take k):=⟨_,rfl⟩;rw [← hE1d] at hG1 hE1;have HE1D:Hid (E1=ji (ae rs) (rs.take k)):=hE1d;obtain ⟨W1,hW1⟩:∃ W1,W1=wr.alloc (.cells #[.string rs[k].name,.slice rs[k].ad rs[k].rows.length rs[k].cap] 127):=⟨_,rfl⟩;have hal:ag wr W1:=by rw [hW1]; exact (TT _ _).alloc (TS _) _
  have hbn:w.heap.size < wr.heap.size:=hG1.map.lt;have HC7:Hid (Cel W1 M1 w.heap.size wr.heap.size 0 (.string rs[k].name)):=⟨by rw [hW1]; simp,by rw [hW1]; simp,hG1.fresh (TS _),by omega⟩;have HG1:=az (hG1.below hal);have HB1:=jP HB hal;clear hr hal hG1 HG hE1d;go_wp2_with fail;rw [← hW1];clear hW1 t0 t1 HB;obtain ⟨g7,WL⟩:∃ g7,g7=wr.heap.size:=⟨_,rfl⟩;rw [← WL] at HC7 hbn ⊢;clear WL;go_loopw [26] (fun i w2=>∃ j:Nat,j≤rs[k].rows.length∧i=.int .i64 j∧Hid (∃ n M,Grp w2 w.heap.size n M (E1 ++ jh (ae rs) rs[k].name (rs[k].rows.take j))∧n≤k * 540 + j * 90∧(E1 ++ jh (ae rs) rs[k].name (rs[k].rows.take j)).length≤k * 540 + j * 90∧Cel w2 M w.heap.size g7 0 (.string rs[k].name))∧Hid (ag w w2)) (fun i _=>rs[k].rows.length - (intOf i).toNat);case atStart=>exact ⟨0,TW _,rfl,⟨n1,M1,by simpa [jh] using HG1.out,by omega,by have e:jh (ae rs) rs[k].name (rs[k].rows.take 0)=[]:=rfl; rw [e,List.append_nil]; omega,HC7.out⟩,HB1⟩
  clear HG1 HB1 HC7;obtain ⟨j,hj,rfl,HG,HB⟩:=hrel;by_cases hjl:j < rs[k].rows.length
  ·rcases HS.out.below HB.out with hnil | ⟨b',off',he,hb2,hr,hok⟩
   ·rw [hnil] at hlt; simp at hlt
   injection he with he; injection he with he1 he2; subst he1; subst he2;have ok:=hok rs[k] (TQ hlt);rcases ok with hnil | ⟨b2,UZ,had,hbb,hr2,-⟩
   ·rw [hnil] at hjl; simp at hjl
   obtain ⟨q0,q1⟩:=hr2 j hjl;have z1:rs[k].rows[j].name.size≤maxLen:=(WK.out _ (TQ hjl)).1;have WH:Hid (∀ q ∈ rs[k].rows[j].rows,q.e.fits):=(WK.out _ (TQ hjl)).2.2;have Vj:Hid (∀ q ∈ rs[k].rows[j].rows,q.e.light):=(HLR.out _ (TQ hjl)).2;have h15:rs[k].rows[j].rows.length≤15:=(HER.out _ (TQ hjl)).1;have HKR:Hid (∀ e ∈ rs[k].rows[j].rows,dV rs[k].rows[j].rows.length e.e.kids):=(HER.out _ (TQ hjl)).2;have Xq:Hid (iH w rs[k].rows[j].ad rs[k].rows[j].rows):=M8.mem (HS.out.mem (TQ hlt)) (TQ hjl);have hj1:=bB j;have hj2:(j:Int) < (rs[k].rows.length:Int):=by omega
   obtain ⟨n2,M2,hG2,hn2,hE2,Zh⟩:=HG.out;obtain ⟨E2,hE2d⟩:∃ E2,E2=E1 ++ jh (ae rs) rs[k].name (rs[k].rows.take j):=⟨_,rfl⟩;rw [← hE2d] at hG2 hE2;have HE2D:Hid (E2=E1 ++ jh (ae rs) rs[k].name (rs[k].rows.take j)):=hE2d;obtain ⟨W2,hW2⟩:∃ W2,W2=wr.alloc (.cells #[.string rs[k].rows[j].name,.slice rs[k].rows[j].ad rs[k].rows[j].rows.length rs[k].rows[j].cap] 147):=⟨_,rfl⟩;have hal:ag wr W2:=by rw [hW2]; exact (TT _ _).alloc (TS _) _
   have hbn2:w.heap.size < wr.heap.size:=hG2.map.lt;have Zi:Cel W2 M2 w.heap.size wr.heap.size 0 (.string rs[k].rows[j].name):=⟨by rw [hW2]; simp,by rw [hW2]; simp,hG2.fresh (TS _),by omega⟩;have hC9b:Cel W2 M2 w.heap.size wr.heap.size 1 (.slice rs[k].rows[j].ad rs[k].rows[j].rows.length rs[k].rows[j].cap):=⟨by rw [hW2]; simp,by rw [hW2]; simp,hG2.fresh (TS _),by omega⟩;have HC7:Hid (Cel W2 M2 w.heap.size g7 0 (.string rs[k].name)):=Zh.stl (Stl.below hal);have HC9:Hid (Cel W2 M2 w.heap.size wr.heap.size 0 (.string rs[k].rows[j].name)):=Zi;have HC9b:=az hC9b;have HG2:=az (hG2.below hal);have HB2:=jP HB hal;rw [had];clear hr hok hr2 hG2 Zh Zi hC9b hal HG HB hE2d;go_wp2_with fail;rw [← hW2];clear hW2 q0 q1;refine (BC rs[k].rows[j].ad rs[k].rows[j].cap rs[k].rows[j].rows _ (by omega) (Xq.out.below HB2.out) Vj.out HKR.out).mono ?_;rintro e w3 ⟨rfl,XW⟩;obtain ⟨g9,hg9⟩:∃ g9,g9=wr.heap.size:=⟨_,rfl⟩;rw [← hg9] at HC9 HC9b hbn2 ⊢;have HB3:Hid (ag w w3):=HB2.out.trans (XW.below.mono HB2.out.size);have Xv:=az (HG2.out.below XW.below);have VF:Hid (Cel w3 M2 w.heap.size g7 0 (.string rs[k].name)∧Cel w3 M2 w.heap.size g9 0 (.string rs[k].rows[j].name)∧∀ (i:Nat) (h:i < rs[k].rows[j].rows.length),Cel w3 M2 w.heap.size W2.heap.size i (.bool ((dz (aj rs[k].rows[j].rows)).getD i false))):=by
    refine ⟨HC7.out.stl (Stl.below XW.below),HC9.out.stl (Stl.below XW.below),fun i hi=>⟨?_,XW.lt,HG2.out.fresh (TS _),?_⟩⟩
    ·have hn:i < (dz (aj rs[k].rows[j].rows)).length:=by rw [FP,aT]; exact hi
     rw [XW.done i (by simpa [bools] using hn)];simp [bools,hn]
    have:=HG2.out.map.lt; omega
   have c9:=(HC9b.out.stl (Stl.below (bL:=w.heap.size) (M:=M2) XW.below)).cell;obtain ⟨gA,hgA⟩:∃ gA,gA=W2.heap.size:=⟨_,rfl⟩;rw [← hgA] at VF ⊢;clear XW HC7 HC9 HC9b HG2 HB2 hg9 hgA;go_wp2_with fail;clear c9;go_loopw [36] (fun i w4=>∃ m:Nat,m≤rs[k].rows[j].rows.length∧i=.int .i64 m∧Hid (∃ n M,Grp w4 w.heap.size n M (E2 ++ relE (ae rs) rs[k].name rs[k].rows[j].name (aj rs[k].rows[j].rows) m)∧n≤k * 540 + j * 90 + m * 6∧(E2 ++ relE (ae rs) rs[k].name rs[k].rows[j].name (aj rs[k].rows[j].rows) m).length≤k * 540 + j * 90 + m * 6∧(Cel w4 M w.heap.size g7 0 (.string rs[k].name)∧Cel w4 M w.heap.size g9 0 (.string rs[k].rows[j].name)∧∀ (i:Nat) (h:i < rs[k].rows[j].rows.length),Cel w4 M w.heap.size gA i (.bool ((dz (aj rs[k].rows[j].rows)).getD i false))))∧Hid (ag w w4)) (fun i _=>rs[k].rows[j].rows.length - (intOf i).toNat);case atStart=>exact ⟨0,TW _,rfl,⟨n2,M2,by simpa [relE] using Xv.out,by omega,by have e:relE (ae rs) rs[k].name rs[k].rows[j].name (aj rs[k].rows[j].rows) 0=[]:=rfl; rw [e,List.append_nil]; omega,VF.out⟩,HB3⟩
   clear Xv HB3 VF;obtain ⟨m,hm,rfl,HG,HB⟩:=hrel;by_cases U5:m < rs[k].rows[j].rows.length
   ·rcases Xq.out.below HB.out with hnil | ⟨bE,Z6,XZ,Z7,ZM,hok⟩
    ·rw [hnil] at U5; simp at U5
    obtain ⟨t0,t1,t2,t3,t4⟩:=ZM m U5;have hm1:=bB m;have hm2:(m:Int) < (rs[k].rows[j].rows.length:Int):=by omega
    have Xi:Hid (rs[k].rows[j].rows[m].e.fits):=WH.out _ (TQ U5);have HXL:Hid (rs[k].rows[j].rows[m].e.light):=Vj.out _ (TQ U5);obtain ⟨n3,M3,hG3,hn3,hE3,Zh,Zi,hCA⟩:=HG.out;obtain ⟨E3,hE3d⟩:∃ E3,E3=E2 ++ relE (ae rs) rs[k].name rs[k].rows[j].name (aj rs[k].rows[j].rows) m:=⟨_,rfl⟩;rw [← hE3d] at hG3 hE3;have HE3D:Hid (E3=E2 ++ relE (ae rs) rs[k].name rs[k].rows[j].name (aj rs[k].rows[j].rows) m):=hE3d;have hbn3:w.heap.size < wr.heap.size:=hG3.map.lt;obtain ⟨ng,ZJ⟩:∃ ng,ng=(dz (aj rs[k].rows[j].rows)).getD m false:=⟨_,rfl⟩;have HNG:Hid (ng=(dz (aj rs[k].rows[j].rows)).getD m false):=ZJ;rw [XZ];clear ZJ hE3d ZM;cases ng
    case' true =>
     obtain ⟨W3,hW3⟩:∃ W3,W3=((wr.alloc (.cells #[.int .i64 rs[k].rows[j].rows[m].e.kind,.slice rs[k].rows[j].rows[m].adA rs[k].rows[j].rows[m].e.allow.length rs[k].rows[j].rows[m].capA,.string rs[k].rows[j].rows[m].e.over,.string rs[k].rows[j].rows[m].e.name,.slice rs[k].rows[j].rows[m].adK rs[k].rows[j].rows[m].e.kids.length rs[k].rows[j].rows[m].capK] 39)).alloc (.cells #[.string rs[k].name,.string rs[k].rows[j].name,.int .i64 1] 274)):=⟨_,rfl⟩;have hal:ag wr W3:=by
      rw [hW3]
      repeat (first | exact TT _ _ | refine Below.setCell ?_ (by first | (simp; done) | (simp; omega)) _ | refine Below.alloc ?_ (by first | (simp; done) | (simp; omega)) _)
     have hsz3:W3.heap.size=wr.heap.size + 2:=by rw [hW3]; simp
     have HB3:=jP HB hal;have Xv:=az (hG3.below hal);have X0:Hid (Cel W3 M3 w.heap.size (wr.heap.size + 1) 0 (.string rs[k].name)∧Cel W3 M3 w.heap.size (wr.heap.size + 1) 1 (.string rs[k].rows[j].name)∧Cel W3 M3 w.heap.size (wr.heap.size + 1) 2 (.int .i64 1)):=by
      have hfr:FreeB M3 (wr.heap.size + 1):=hG3.fresh (by omega);refine ⟨⟨?_,by omega,hfr,by omega⟩,⟨?_,by omega,hfr,by omega⟩,⟨?_,by omega,hfr,by omega⟩⟩
      all_goals (rw [hW3]; simp)
     obtain ⟨dv,hdv⟩:∃ dv:Int,dv=1:=⟨_,rfl⟩;rw [← hdv] at X0;have HDE:Hid (dv=1):=hdv;clear hdv;have VF:Hid (Cel W3 M3 w.heap.size g7 0 (.string rs[k].name)∧Cel W3 M3 w.heap.size g9 0 (.string rs[k].rows[j].name)∧∀ (i:Nat) (h:i < rs[k].rows[j].rows.length),Cel W3 M3 w.heap.size gA i (.bool ((dz (aj rs[k].rows[j].rows)).getD i false))):=⟨Zh.stl (Stl.below hal),Zi.stl (Stl.below hal),fun i h=>(hCA i h).stl (Stl.below hal)⟩;have ZO:Hid (rs[k].rows[j].rows[m].ok W3):=(hok rs[k].rows[j].rows[m] (TQ U5)).below hal;have hc7:=Zh.cell;have hc9:=Zi.cell;have hl7:=Zh.lt;have hl9:=Zi.lt;have hcA:=(hCA m U5).cell;have hlA:=(hCA m U5).lt;rw [← HNG.out] at hcA;clear hG3 hal Zh Zi hCA hok HG;go_wp2_with fail;rw [← hW3];clear hW3 t0 t1 t2 t3 t4 hc7 hc9 hl7 hl9 hcA hlA
    case' false =>
     obtain ⟨W3,hW3⟩:∃ W3,W3=((wr.alloc (.cells #[.int .i64 rs[k].rows[j].rows[m].e.kind,.slice rs[k].rows[j].rows[m].adA rs[k].rows[j].rows[m].e.allow.length rs[k].rows[j].rows[m].capA,.string rs[k].rows[j].rows[m].e.over,.string rs[k].rows[j].rows[m].e.name,.slice rs[k].rows[j].rows[m].adK rs[k].rows[j].rows[m].e.kids.length rs[k].rows[j].rows[m].capK] 39)).alloc (.cells #[.string rs[k].name,.string rs[k].rows[j].name,.int .i64 0] 274)):=⟨_,rfl⟩;have hal:ag wr W3:=by
      rw [hW3]
      repeat (first | exact TT _ _ | refine Below.setCell ?_ (by first | (simp; done) | (simp; omega)) _ | refine Below.alloc ?_ (by first | (simp; done) | (simp; omega)) _)
     have hsz3:W3.heap.size=wr.heap.size + 2:=by rw [hW3]; simp
     have HB3:=jP HB hal;have Xv:=az (hG3.below hal);have X0:Hid (Cel W3 M3 w.heap.size (wr.heap.size + 1) 0 (.string rs[k].name)∧Cel W3 M3 w.heap.size (wr.heap.size + 1) 1 (.string rs[k].rows[j].name)∧Cel W3 M3 w.heap.size (wr.heap.size + 1) 2 (.int .i64 0)):=by
      have hfr:FreeB M3 (wr.heap.size + 1):=hG3.fresh (by omega);refine ⟨⟨?_,by omega,hfr,by omega⟩,⟨?_,by omega,hfr,by omega⟩,⟨?_,by omega,hfr,by omega⟩⟩
      all_goals (rw [hW3]; simp)
     obtain ⟨dv,hdv⟩:∃ dv:Int,dv=0:=⟨_,rfl⟩;rw [← hdv] at X0;have HDE:Hid (dv=0):=hdv;clear hdv;have VF:Hid (Cel W3 M3 w.heap.size g7 0 (.string rs[k].name)∧Cel W3 M3 w.heap.size g9 0 (.string rs[k].rows[j].name)∧∀ (i:Nat) (h:i < rs[k].rows[j].rows.length),Cel W3 M3 w.heap.size gA i (.bool ((dz (aj rs[k].rows[j].rows)).getD i false))):=⟨Zh.stl (Stl.below hal),Zi.stl (Stl.below hal),fun i h=>(hCA i h).stl (Stl.below hal)⟩;have ZO:Hid (rs[k].rows[j].rows[m].ok W3):=(hok rs[k].rows[j].rows[m] (TQ U5)).below hal;have hc7:=Zh.cell;have hc9:=Zi.cell;have hl7:=Zh.lt;have hl9:=Zi.lt;have hcA:=(hCA m U5).cell;have hlA:=(hCA m U5).lt;rw [← HNG.out] at hcA;clear hG3 hal Zh Zi hCA hok HG;go_wp2_with fail;rw [← hW3];clear hW3 t0 t1 t2 t3 t4 hc7 hc9 hl7 hl9 hcA hlA
    all_goals
     refine (F8 bT nT rs (some ⟨b,off,none⟩) T rs[k].name rs[k].rows[j].rows[m] _ (HV.out.below HB3.out) HT.out (HS.out.below HB3.out) HL.out UL.out z0 Xi.out HXL.out ZO.out).mono ?_;rintro e w5 ⟨⟨V7,cpO,rfl,hSO,hNO⟩,hb5⟩;obtain ⟨ks,hks⟩:∃ ks,ks=jg (ae rs) rs[k].name rs[k].rows[j].rows[m].e:=⟨_,rfl⟩;rw [← hks] at hSO ⊢;have HKS:Hid (ks=jg (ae rs) rs[k].name rs[k].rows[j].rows[m].e):=hks;have hkl6:ks.length≤6:=by rw [hks]; exact CV rs Yn.out _ _ (Yn.out _ (TQ hlt) _ (TQ hjl) _ (TQ U5))
     have HKF:Hid (∀ a ∈ ks,a.t.size≤maxLen∧a.s.size≤maxLen):=by show ∀ _,_; rw [hks]; exact IX rs UL.out _ z0 _ Xi.out
     obtain ⟨g13,Xw⟩:∃ g13,g13=wr.heap.size + 1:=⟨_,rfl⟩;have VQ:=jP HB3 hb5;have HG5:=az (Xv.out.below hb5);have hS5:Stl W3 M3 w5 M3 w.heap.size:=Stl.below hb5;have Wy:Hid (Cel w5 M3 w.heap.size g7 0 (.string rs[k].name)∧Cel w5 M3 w.heap.size g9 0 (.string rs[k].rows[j].name)∧∀ (i:Nat) (h:i < rs[k].rows[j].rows.length),Cel w5 M3 w.heap.size gA i (.bool ((dz (aj rs[k].rows[j].rows)).getD i false))):=⟨VF.out.1.stl hS5,VF.out.2.1.stl hS5,fun i h=>(VF.out.2.2 i h).stl hS5⟩;have HD5:Hid (Cel w5 M3 w.heap.size g13 0 (.string rs[k].name)∧Cel w5 M3 w.heap.size g13 1 (.string rs[k].rows[j].name)∧Cel w5 M3 w.heap.size g13 2 (.int .i64 dv)):=by rw [Xw]; exact ⟨X0.out.1.stl hS5,X0.out.2.1.stl hS5,X0.out.2.2.stl hS5⟩
     have UK:Hid (ks=[] ∨ ∃ gO U8,V7=some ⟨gO,U8,none⟩∧∀ (i:Nat) (h:i < ks.length),Cel w5 M3 w.heap.size gO (U8 + i * 2) (.string ks[i].t)∧Cel w5 M3 w.heap.size gO (U8 + i * 2 + 1) (.string ks[i].s)):=by
      rcases hSO with e | ⟨gO,U8,e,hgO,hcO⟩
      ·exact .inl e
      have hN:=hNO _ e;have YB:=Xv.out.map.lt;have hfr:FreeB M3 gO:=Xv.out.fresh hN;refine .inr ⟨gO,U8,e,fun i hi=>⟨⟨(hcO i hi).1,hgO,hfr,?_⟩,⟨(hcO i hi).2,hgO,hfr,?_⟩⟩⟩
      all_goals (simp only at hN; omega)
     rw [← Xw];clear hb5 hSO hNO hks hS5 X0 VF Xv HB3 ZO Xw;go_wp2_with fail;go_loopw [58] (fun i w6=>∃ q:Nat,q≤ks.length∧i=.int .i64 q∧Hid (∃ n M,Grp w6 w.heap.size n M (E3 ++ (ks.take q).map (fun a:Al=>(((a.t,a.s),⟨rs[k].name,rs[k].rows[j].name,dv⟩):Ky × St)))∧n≤k * 540 + j * 90 + m * 6 + q∧(E3 ++ (ks.take q).map (fun a:Al=>(((a.t,a.s),⟨rs[k].name,rs[k].rows[j].name,dv⟩):Ky × St))).length≤k * 540 + j * 90 + m * 6 + q∧(Cel w6 M w.heap.size g7 0 (.string rs[k].name)∧Cel w6 M w.heap.size g9 0 (.string rs[k].rows[j].name)∧∀ (i:Nat) (h:i < rs[k].rows[j].rows.length),Cel w6 M w.heap.size gA i (.bool ((dz (aj rs[k].rows[j].rows)).getD i false)))∧(Cel w6 M w.heap.size g13 0 (.string rs[k].name)∧Cel w6 M w.heap.size g13 1 (.string rs[k].rows[j].name)∧Cel w6 M w.heap.size g13 2 (.int .i64 dv))∧(ks=[] ∨ ∃ gO U8,V7=some ⟨gO,U8,none⟩∧∀ (i:Nat) (h:i < ks.length),Cel w6 M w.heap.size gO (U8 + i * 2) (.string ks[i].t)∧Cel w6 M w.heap.size gO (U8 + i * 2 + 1) (.string ks[i].s)))∧Hid (ag w w6)) (fun i _=>ks.length - (intOf i).toNat);case atStart=>exact ⟨0,TW _,rfl,⟨n3,M3,by simpa using HG5.out,by omega,by simpa using hE3,Wy.out,HD5.out,UK.out⟩,VQ⟩
     clear HG5 VQ Wy HD5 UK HB;obtain ⟨q,hq,rfl,HG,HB⟩:=hrel;by_cases X7:q < ks.length
     ·obtain ⟨n6,M6,hG6,hn6,hE6,hC6,hD6,WQ⟩:=HG.out;rcases WQ with hnil | ⟨gO,U8,Xx,hcO⟩
      ·rw [hnil] at X7; simp at X7
      have x0:=(hcO q X7).1.cell;have x1:=(hcO q X7).2.cell;have y0:=hD6.1.cell;have y1:=hD6.2.1.cell;have y2:=hD6.2.2.cell;have yl:=hD6.1.lt;have hq1:=bB q;have hq2:(q:Int) < (ks.length:Int):=by omega
      obtain ⟨E6,hE6d⟩:∃ E6,E6=E3 ++ (ks.take q).map (fun a:Al=>(((a.t,a.s),⟨rs[k].name,rs[k].rows[j].name,dv⟩):Ky × St)):=⟨_,rfl⟩;rw [← hE6d] at hG6 hE6;have HE6D:Hid (E6=E3 ++ (ks.take q).map (fun a:Al=>(((a.t,a.s),⟨rs[k].name,rs[k].rows[j].name,dv⟩):Ky × St))):=hE6d;obtain ⟨W6,Zj⟩:∃ W6,W6=((wr.alloc (.cells #[.string ks[q].t,.string ks[q].s] 94)).alloc (.cells #[.string rs[k].name,.string rs[k].rows[j].name,.int .i64 dv] 274)):=⟨_,rfl⟩;have hal:ag wr W6:=by
       rw [Zj]
       repeat (first | exact TT _ _ | refine Below.alloc ?_ (by first | (simp; done) | (simp; omega)) _)
      have hsz6:W6.heap.size=wr.heap.size + 2:=by rw [Zj]; simp
      have WJ:=jP HB hal;have HG6:=az (hG6.below hal);have HNB:Hid (W6.heap[wr.heap.size + 1]?=some (.cells #[.string rs[k].name,.string rs[k].rows[j].name,.int .i64 dv] 274)):=by show _=_; rw [Zj]; exact wH wr _ _
      have hbn6:w.heap.size < wr.heap.size:=hG6.map.lt;have HS6:Hid (Stl wr M6 W6 M6 w.heap.size):=Stl.below hal;have HCK:Hid ((Cel wr M6 w.heap.size g7 0 (.string rs[k].name)∧Cel wr M6 w.heap.size g9 0 (.string rs[k].rows[j].name)∧∀ (i:Nat) (h:i < rs[k].rows[j].rows.length),Cel wr M6 w.heap.size gA i (.bool ((dz (aj rs[k].rows[j].rows)).getD i false)))∧(Cel wr M6 w.heap.size g13 0 (.string rs[k].name)∧Cel wr M6 w.heap.size g13 1 (.string rs[k].rows[j].name)∧Cel wr M6 w.heap.size g13 2 (.int .i64 dv))∧(ks=[] ∨ ∃ gO U8,V7=some ⟨gO,U8,none⟩∧∀ (i:Nat) (h:i < ks.length),Cel wr M6 w.heap.size gO (U8 + i * 2) (.string ks[i].t)∧Cel wr M6 w.heap.size gO (U8 + i * 2 + 1) (.string ks[i].s))):=⟨hC6,hD6,.inr ⟨gO,U8,Xx,hcO⟩⟩;have hzz:=HKF.out _ (TQ X7);obtain ⟨kl,hkl⟩:=jB (ks[q].t,ks[q].s) hzz.1 hzz.2;have Vm:Hid (keyOf prog 94 (dQ (ks[q].t,ks[q].s))=some kl):=hkl;have hLL:=CW E6 (ks[q].t,ks[q].s);have hn6b:n6 < 100000:=by omega
      have hLb:(lookL E6 (ks[q].t,ks[q].s)).length < 100000:=by omega
      have Xy:Hid (W6.heap.size=wr.heap.size + 2):=hsz6;rw [Xx];clear hal hG6 hC6 hD6 hcO hkl HG hE6d hzz hLL hsz6
      go_wp2_with (first
       | (at_builtin; refine wpList_append_own_at _ rfl _ _ 272 rfl (w.heap.size + 1) 274 i0 _ 3 40 underlying272 hi hz0 hz1 hz2 rfl (by decide) _ _ _ rfl ((uV HG6.out (ks[q].t,ks[q].s)).kept WL (.inr (Ne.symm (Oy HG6.out (ks[q].t,ks[q].s))))) ⟨wr.heap.size + 1,0,none⟩ 1 1 [.string rs[k].name,.string rs[k].rows[j].name,.int .i64 dv] rfl rfl (World.news_of_block (cs:=#[.string rs[k].name,.string rs[k].rows[j].name,.int .i64 dv]) (t:=274) (fr:=(0,0)) ((WL.block (wr.heap.size + 1) (by rw [Xy.out]; omega) (by simp; omega)).trans HNB.out)) (by simp [Value.oneCell']) (by unfold maxLen; omega) (by omega) (by have h1:=WL.size; rw [Xy.out] at h1; omega) ?_; intro v' w8 Xz WU hnil8 hloc8)
       | (rw [← Zj]; refine Bv _ rfl _ _ 211 rfl 94 272 J7 uA underlying211 IY w.heap.size n6 M6 rfl HG6.out.map (by unfold maxLen; omega) (ks[q].t,ks[q].s) kl rfl Vm.out ?_; intro st7 w7 WL hback; clear Zj x0 x1 y0 y1 y2)
       | (refine sS _ rfl _ _ _ 211 rfl w.heap.size st7 rfl rfl v' rfl 94 (n6 + 1) (kZ M6 (ks[q].t,ks[q].s) (some v')) (hback w8 v' (WU.block w.heap.size (by have h1:=WL.size; rw [Xy.out] at h1; omega) (Oy HG6.out (ks[q].t,ks[q].s)))) ?_; intro w9 hM9 hg9))
      have hst:=HG6.out.step (s:=(⟨rs[k].name,rs[k].rows[j].name,dv⟩:St)) WL Xz WU hloc8 hg9 hM9;have HBN:Hid (ag w w9):=by
       have hs1:=WJ.out.size;have b7:ag w w7:=WJ.out.grown WL hs1 (fun i hi=>by injection hi with hi; omega);have b8:ag w w8:=b7.grown WU b7.size (fun i hi=>by have:=((uV HG6.out (ks[q].t,ks[q].s)).lt i hi).1; omega);exact b8.grown hg9 b8.size (fun i hi=>by injection hi with hi; omega)
      have ZP:Hid (∃ n M,Grp w9 w.heap.size n M (E3 ++ (ks.take (q + 1)).map (fun a:Al=>(((a.t,a.s),⟨rs[k].name,rs[k].rows[j].name,dv⟩):Ky × St)))∧n≤k * 540 + j * 90 + m * 6 + (q + 1)∧(E3 ++ (ks.take (q + 1)).map (fun a:Al=>(((a.t,a.s),⟨rs[k].name,rs[k].rows[j].name,dv⟩):Ky × St))).length≤k * 540 + j * 90 + m * 6 + (q + 1)∧(Cel w9 M w.heap.size g7 0 (.string rs[k].name)∧Cel w9 M w.heap.size g9 0 (.string rs[k].rows[j].name)∧∀ (i:Nat) (h:i < rs[k].rows[j].rows.length),Cel w9 M w.heap.size gA i (.bool ((dz (aj rs[k].rows[j].rows)).getD i false)))∧(Cel w9 M w.heap.size g13 0 (.string rs[k].name)∧Cel w9 M w.heap.size g13 1 (.string rs[k].rows[j].name)∧Cel w9 M w.heap.size g13 2 (.int .i64 dv))∧(ks=[] ∨ ∃ gO U8,V7=some ⟨gO,U8,none⟩∧∀ (i:Nat) (h:i < ks.length),Cel w9 M w.heap.size gO (U8 + i * 2) (.string ks[i].t)∧Cel w9 M w.heap.size gO (U8 + i * 2 + 1) (.string ks[i].s))):=by
       have hS9:=HS6.out.trans hst.2;have e:E3 ++ (ks.take (q + 1)).map (fun a:Al=>(((a.t,a.s),⟨rs[k].name,rs[k].rows[j].name,dv⟩):Ky × St))=E6 ++ [((ks[q].t,ks[q].s),(⟨rs[k].name,rs[k].rows[j].name,dv⟩:St))]:=by
        rw [TV X7,List.map_append,← List.append_assoc,← HE6D.out]; rfl
       obtain ⟨k1,k2,k3⟩:=HCK.out;refine ⟨n6 + 1,_,by rw [e]; exact hst.1,by omega,by rw [e,T9]; simp; omega,⟨k1.1.stl hS9,k1.2.1.stl hS9,fun i h=>(k1.2.2 i h).stl hS9⟩,⟨k2.1.stl hS9,k2.2.1.stl hS9,k2.2.2.stl hS9⟩,?_⟩;rcases k3 with hnil | ⟨gO',offO',e1,hc⟩
       ·exact .inl hnil
       exact .inr ⟨gO',offO',e1,fun i h=>⟨(hc i h).1.stl hS9,(hc i h).2.stl hS9⟩⟩
      clear hst WL hback Xz WU hnil8 hloc8 hg9 hM9;go_wp2;go_roundw;case rel=>exact ⟨q + 1,by omega,by go_num,(by rw [Xx] at ZP; exact ZP),HBN⟩
      simp [intOf] <;> omega
     obtain rfl:q=ks.length:=by omega
     have ZP:Hid (∃ n M,Grp wr w.heap.size n M (E2 ++ relE (ae rs) rs[k].name rs[k].rows[j].name (aj rs[k].rows[j].rows) (m + 1))∧n≤k * 540 + j * 90 + (m + 1) * 6∧(E2 ++ relE (ae rs) rs[k].name rs[k].rows[j].name (aj rs[k].rows[j].rows) (m + 1)).length≤k * 540 + j * 90 + (m + 1) * 6∧(Cel wr M w.heap.size g7 0 (.string rs[k].name)∧Cel wr M w.heap.size g9 0 (.string rs[k].rows[j].name)∧∀ (i:Nat) (h:i < rs[k].rows[j].rows.length),Cel wr M w.heap.size gA i (.bool ((dz (aj rs[k].rows[j].rows)).getD i false)))):=by
      obtain ⟨n,M,h1,hn,h2,h3,-,-⟩:=HG.out;rw [Ug] at h1 h2;have e:E2 ++ relE (ae rs) rs[k].name rs[k].rows[j].name (aj rs[k].rows[j].rows) (m + 1)=E3 ++ ks.map (fun a:Al=>(((a.t,a.s),⟨rs[k].name,rs[k].rows[j].name,dv⟩):Ky × St)):=by
       rw [CU _ _ _ _ _ U5 _ HNG.out,← List.append_assoc,← HE3D.out,HKS.out,HDE.out]; rfl
      refine ⟨n,M,by rw [e]; exact h1,by omega,by rw [e]; omega,h3⟩
     clear HG;go_wp2;go_roundw;case rel=>exact ⟨m + 1,by omega,by go_num,ZP,HB⟩
     simp [intOf] <;> omega
   obtain rfl:m=rs[k].rows[j].rows.length:=by omega
   have ZP:Hid (∃ n M,Grp wr w.heap.size n M (E1 ++ jh (ae rs) rs[k].name (rs[k].rows.take (j + 1)))∧n≤k * 540 + (j + 1) * 90∧(E1 ++ jh (ae rs) rs[k].name (rs[k].rows.take (j + 1))).length≤k * 540 + (j + 1) * 90∧Cel wr M w.heap.size g7 0 (.string rs[k].name)):=by
    obtain ⟨n,M,h1,hn,h2,h3⟩:=HG.out;have e:E1 ++ jh (ae rs) rs[k].name (rs[k].rows.take (j + 1))=E2 ++ relE (ae rs) rs[k].name rs[k].rows[j].name (aj rs[k].rows[j].rows) rs[k].rows[j].rows.length:=by
     rw [IV _ _ _ _ hjl,← List.append_assoc,← HE2D.out]
    refine ⟨n,M,?_,by omega,?_,h3.1⟩
    ·rw [e]; exact h1
    rw [e]; omega
   go_wp2;go_roundw;case rel=>exact ⟨j + 1,by omega,by go_num,ZP,HB⟩
   simp [intOf] <;> omega
  obtain rfl:j=rs[k].rows.length:=by omega
  have ZP:Hid (∃ n M,Grp wr w.heap.size n M (ji (ae rs) (rs.take (k + 1)))∧n≤(k + 1) * 540∧(ji (ae rs) (rs.take (k + 1))).length≤(k + 1) * 540):=by
   obtain ⟨n,M,h1,hn,h2,h3⟩:=HG.out;rw [Ug] at h1 h2;have e:ji (ae rs) (rs.take (k + 1))=E1 ++ jh (ae rs) rs[k].name rs[k].rows:=by rw [IW _ _ _ hlt,← HE1D.out]
   refine ⟨n,M,?_,by omega,?_⟩
   ·rw [e]; exact h1
   rw [e]; omega
  go_wp2;go_roundw;case rel=>exact ⟨k + 1,by omega,by go_num,ZP,HB⟩
  simp [intOf] <;> omega
 obtain rfl:k=rs.length:=by omega
 have ZP:Hid (∃ n M,Grp wr w.heap.size n M (ji (ae rs) rs)):=by
  obtain ⟨n,M,h1,-⟩:=HG.out;rw [Ug] at h1;exact ⟨n,M,h1⟩
 go_wp2;go_ret;exact ⟨rfl,ZP.out,HB.out⟩
def Edge (ts:List Ty) (E:List (Ky × St)):Prop:=∀ on t r s,(on,⟨t,r,s⟩) ∈ E ↔ (t,r) ∈ ak ts∧∃ d ∈ il ts (t,r),(d.typ,d.rel)=on∧stepOf d=s
def wI:Option Int→Int
 | none=>0
 | some x=>x + 1
def nZ (N:Nat) (σ:Ky→Option Int):List Ky→Int
 | []=>0
 | k::ks=>((N:Int) - wI (σ k)) + nZ N σ ks
structure Rz (ts:List Ty) (N:Nat) (σ:Ky→Option Int):Prop where
 there:∀ k x,σ k=some x→k ∈ ak ts∧0≤x∧x < N∧qB ts k x
def Hq (σ:Ky→Option Int) (k:Ky) (x:Int):Ky→Option Int:=fun y=>if y=k then some x else σ y
theorem og (σ:Ky→Option Int) (k:Ky) (x:Int):Hq σ k x k=some x:=by simp [Hq]
theorem rE {σ:Ky→Option Int} {k y:Ky} {x:Int} (h:y ≠ k):Hq σ k x y=σ y:=by simp [Hq,h]
theorem Rz.val {ts:List Ty} {N:Nat} {σ:Ky→Option Int} (h:Rz ts N σ) (k:Ky):0≤wI (σ k)∧wI (σ k)≤N:=by
 cases e:σ k with
 | none=>simp [wI]
 | some x=>have:=h.there k x e; simp only [wI]; omega
theorem Rz.mu_pos {ts:List Ty} {N:Nat} {σ:Ky→Option Int} (h:Rz ts N σ) (ks:List Ky):0≤nZ N σ ks:=by
 induction ks with
 | nil=>simp [nZ]
 | cons k ks ih=>have:=h.val k; simp only [nZ]; omega
theorem Rz.set {ts:List Ty} {N:Nat} {σ:Ky→Option Int} (h:Rz ts N σ) {k:Ky} {x:Int} (hk:k ∈ ak ts) (h0:0≤x) (hN:x < N) (hl:qB ts k x):Rz ts N (Hq σ k x):=⟨fun y z hz=>by
 by_cases e:y=k
 ·subst e; rw [og] at hz; injection hz with hz; subst hz; exact ⟨hk,h0,hN,hl⟩
 rw [rE e] at hz; exact h.there y z hz⟩
def uW (σ σ':Ky→Option Int):Prop:=∀ k x,σ k=some x→∃ y,σ' k=some y∧x≤y
theorem uW.refl (σ:Ky→Option Int):uW σ σ:=fun _ x h=>⟨x,h,Int.le_refl _⟩
theorem uW.trans {a b c:Ky→Option Int} (h:uW a b) (h2:uW b c):uW a c:=fun k x hx=>by
 obtain ⟨y,hy,h3⟩:=h k x hx;obtain ⟨z,hz,h4⟩:=h2 k y hy;exact ⟨z,hz,by omega⟩
theorem uW.val {σ σ':Ky→Option Int} {ts:List Ty} {N:Nat} (h:uW σ σ') (hR:Rz ts N σ') (k:Ky):wI (σ k)≤wI (σ' k):=by
 cases e:σ k with
 | none=>exact (hR.val k).1
 | some x=>obtain ⟨y,hy,h2⟩:=h k x e; rw [hy]; simp only [wI]; omega
theorem uW.mu {σ σ':Ky→Option Int} {ts:List Ty} {N:Nat} (h:uW σ σ') (hR:Rz ts N σ') (ks:List Ky):nZ N σ' ks≤nZ N σ ks:=by
 induction ks with
 | nil=>exact Int.le_refl _
 | cons k ks ih=>have:=h.val hR k; simp only [nZ]; omega
theorem yI {σ:Ky→Option Int} {k:Ky} {x:Int} (h:∀ y,σ k=some y→y < x):uW σ (Hq σ k x):=fun y z hz=>by
 by_cases e:y=k
 ·subst e; exact ⟨x,og _ _ _,by have:=h z hz; omega⟩
 exact ⟨z,by rw [rE e]; exact hz,Int.le_refl _⟩
theorem Tt {σ:Ky→Option Int} {ts:List Ty} {N:Nat} {k:Ky} {x:Int} (hR:Rz ts N (Hq σ k x)) (h:∀ y,σ k=some y→y < x) (h0:0≤x) (ks:List Ky) (hk:k ∈ ks):nZ N (Hq σ k x) ks + 1≤nZ N σ ks:=by
 induction ks with
 | nil=>cases hk
 | cons y ks ih =>
  simp only [nZ];have hm:=(yI h).mu hR ks;have hv:=(yI h).val hR y;rcases List.mem_cons.1 hk with rfl | hk
  ·have:wI (σ k) + 1≤wI (Hq σ k x k):=by
    rw [og];cases e:σ k with
    | none=>simp only [wI]; omega
    | some z=>have:=h z e; simp only [wI]; omega
   omega
  have:=ih hk; omega
def rF (E:List (Ky × St)) (σ:Ky→Option Int) (k:Ky):Prop:=∀ x,σ k=some x→∀ s ∈ lookL E k,∃ y,σ s.key=some y∧x + s.n≤y
structure Raised (E:List (Ky × St)) (σ σ':Ky→Option Int):Prop where
 mono:uW σ σ'
 done:∀ k,(rF E σ k ∨ σ' k ≠ σ k)→rF E σ' k
theorem Raised.refl (E:List (Ky × St)) (σ:Ky→Option Int):Raised E σ σ:=⟨uW.refl _,fun _ h=>h.elim id (fun e=>absurd rfl e)⟩
theorem Raised.trans {E:List (Ky × St)} {a b c:Ky→Option Int} (h:Raised E a b) (h2:Raised E b c):Raised E a c:=⟨h.mono.trans h2.mono,fun k hk=>by
 by_cases e:c k=b k
 ·by_cases e2:b k=a k
  ·rcases hk with hk | hk
   ·exact h2.done k (.inl (h.done k (.inl hk)))
   exact absurd (e.trans e2) hk
  exact h2.done k (.inl (h.done k (.inr e2)))
 exact h2.done k (.inr e)⟩
structure Half (E:List (Ky × St)) (σ:Ky→Option Int) (key:Ky) (x:Int) (j:Nat) (σ':Ky→Option Int):Prop where
 mono:uW σ σ'
 done:∀ k,k ≠ key→(rF E σ k ∨ σ' k ≠ σ k)→rF E σ' k
 own:rF E σ' key ∨ (σ' key=some x∧∀ s ∈ (lookL E key).take j,∃ y,σ' s.key=some y∧x + s.n≤y)
 at':∃ y,σ' key=some y∧x≤y
theorem Half.start {E:List (Ky × St)} {σ:Ky→Option Int} {key:Ky} {x:Int} (h:∀ y,σ key=some y→y < x):Half E σ key x 0 (Hq σ key x) where
 mono:=yI h
 done k hk hs:=by
  have e:Hq σ key x k=σ k:=rE hk;rcases hs with hs | hs
  ·intro z hz s hm;rw [e] at hz;obtain ⟨y,hy,hle⟩:=hs z hz s hm;obtain ⟨y',hy',h2⟩:=yI h _ y hy;exact ⟨y',hy',by omega⟩
  exact absurd e hs
 own:=.inr ⟨og _ _ _,fun s hs=>by simp at hs⟩
 at':=⟨x,og _ _ _,Int.le_refl _⟩
theorem Half.step {E:List (Ky × St)} {σ σ1 σ2:Ky→Option Int} {key:Ky} {x:Int} {j:Nat} (h:Half E σ key x j σ1) (hj:j < (lookL E key).length) (hR:Raised E σ1 σ2) (hy:∃ y,σ2 (lookL E key)[j].key=some y∧x + (lookL E key)[j].n≤y):Half E σ key x (j + 1) σ2 where
 mono:=h.mono.trans hR.mono
 done k hk hs:=by
  by_cases e:σ2 k=σ1 k
  ·by_cases e2:σ1 k=σ k
   ·rcases hs with hs | hs
    ·exact hR.done k (.inl (h.done k hk (.inl hs)))
    exact absurd (e.trans e2) hs
   exact hR.done k (.inl (h.done k hk (.inr e2)))
  exact hR.done k (.inr e)
 own:=by
  rcases h.own with ho | ⟨h1,h2⟩
  ·exact .inl (hR.done key (.inl ho))
  by_cases e:σ2 key=σ1 key
  ·refine .inr ⟨e.trans h1,fun s hs=>?_⟩;rw [TV hj] at hs;rcases Uc.1 hs with hs | hs
   ·obtain ⟨y,hy1,hy2⟩:=h2 s hs;obtain ⟨z,hz,h3⟩:=hR.mono _ y hy1;exact ⟨z,hz,by omega⟩
   simp at hs; subst hs; exact hy
  exact .inl (hR.done key (.inr e))
 at':=by
  obtain ⟨y,hy,h1⟩:=h.at';obtain ⟨z,hz,h2⟩:=hR.mono key y hy;exact ⟨z,hz,by omega⟩
theorem Half.full {E:List (Ky × St)} {σ σ':Ky→Option Int} {key:Ky} {x:Int} {j:Nat} (h:Half E σ key x j σ') (hj:(lookL E key).length≤j):Raised E σ σ' where
 mono:=h.mono
 done k hk:=by
  by_cases e:k=key
  ·subst e;rcases h.own with ho | ⟨h1,h2⟩
   ·exact ho
   intro z hz s hs;rw [h1] at hz; injection hz with hz; subst hz;exact h2 s (by rw [List.take_of_length_le hj]; exact hs)
  exact h.done k e hk
theorem Eo {ts:List Ty} {N:Nat} {E:List (Ky × St)} {σ:Ky→Option Int} (hE:Edge ts E) (hF:Found ts) (hR:Rz ts N σ) (hall:∀ k ∈ ak ts,∃ x,σ k=some x) (hs:∀ k,rF E σ k):Least ts (fun k=>(σ k).getD 0) where
 sol:=⟨fun k=>by
   cases e:σ k with
   | none=>exact Int.le_refl _
   | some x=>exact (hR.there k x e).2.1,fun k hk d hd=>by
   obtain ⟨x,hx⟩:=hall _ (hF k hk d hd);have hm:(⟨k.1,k.2,stepOf d⟩:St) ∈ lookL E (d.typ,d.rel):=mem_lookL.2 ((hE _ _ _ _).2 ⟨hk,d,hd,rfl,rfl⟩);obtain ⟨y,hy,h2⟩:=hs _ x hx _ hm;have hy':σ k=some y:=hy;simp only [hx,hy',Option.getD_some];exact h2⟩
 low k hk:=by
  obtain ⟨x,hx⟩:=hall k hk;simp only [hx,Option.getD_some];exact (hR.there k x hx).2.2.2
theorem Edge.low {ts:List Ty} {E:List (Ky × St)} (hE:Edge ts E) {k:Ky} {x:Int} (hl:qB ts k x) {s:St} (hs:s ∈ lookL E k):s.key ∈ ak ts∧qB ts s.key (x + s.n)∧0≤s.n∧s.n≤1:=by
 obtain ⟨h1,d,hd,e1,e2⟩:=(hE k s.typ s.rel s.n).1 (mem_lookL.1 hs);have:=zW d;refine ⟨h1,?_,by omega,by omega⟩;rw [← e2];exact qB.step h1 hd (by rw [e1]; exact hl)
def iW (σ:Ky→Option Int):Ky→Option Value:=fun k=>(σ k).map fun x=>Value.int .i64 x
theorem Qx (σ:Ky→Option Int) (k:Ky) (x:Int):kZ (iW σ) k (some (.int .i64 x))=iW (Hq σ k x):=by
 funext y
 unfold iW;by_cases e:y=k
 ·subst e; rw [dZ,og]; rfl
 rw [cz e,rE e]
theorem uX (u:af):(zeroValue 2).run prog u=.ok (.int .i64 0) u:=by kernel_rfl
def Ep (gS gC gL gR:Nat):Value:=.func (Fn.func 186) #[] #[.pointer (some ⟨gS,0,none⟩),.pointer (some ⟨gC,0,none⟩),.pointer (some ⟨gL,0,none⟩),.pointer (some ⟨gR,0,none⟩)]
structure Rw (w:World) (gS gC gL gR bS bL N n nL:Nat) (ML:Ky→Option Value) (E:List (Ky × St)) (σ:Ky→Option Int):Prop where
 cS:w.cell? ⟨gS,0,none⟩=some (.map (some bS))
 cC:w.cell? ⟨gC,0,none⟩=some (.int .i64 N)
 cL:w.cell? ⟨gL,0,none⟩=some (.map (some bL))
 cR:w.cell? ⟨gR,0,none⟩=some (Ep gS gC gL gR)
 lS:gS < w.heap.size∧gS ≠ bS
 lC:gC < w.heap.size∧gC ≠ bS
 lL:gL < w.heap.size∧gL ≠ bS
 lR:gR < w.heap.size∧gR ≠ bS
 map:aM dQ prog 94 w bS n (iW σ)
 lean:Grp w bL nL ML E
 bne:bL ≠ bS
 free:FreeB ML bS
theorem kz {w w':af} {b g:Nat} (hg:w.grownBy w' (some b)) (hl:g < w.heap.size∧g ≠ b) (o:Nat):w'.cell? ⟨g,o,none⟩=w.cell? ⟨g,o,none⟩:=Ul (w:=w) (hg.block g hl.1 (fun e=>hl.2 (by injection e)))
theorem Grp.kept {w w':af} {bL n b:Nat} {M:Ky→Option Value} {E:List (Ky × St)} (h:Grp w bL n M E) (hg:w.grownBy w' (some b)) (hb:bL ≠ b) (hf:FreeB M b):Grp w' bL n M E where
 map:=h.map.kept hg (by intro e; injection e with e; exact hb e)
 row k:=by
  rcases h.row k with e | ⟨v,e,ho⟩
  ·exact .inl e
  exact .inr ⟨v,e,ho.kept hg (.inr (hf k v e))⟩
 apart:=h.apart
theorem Rw.kept {w w':af} {gS gC gL gR bS bL N n n' nL:Nat} {ML:Ky→Option Value} {E:List (Ky × St)} {σ σ':Ky→Option Int} (h:Rw w gS gC gL gR bS bL N n nL ML E σ) (hg:w.grownBy w' (some bS)) (hM:aM dQ prog 94 w' bS n' (iW σ')):Rw w' gS gC gL gR bS bL N n' nL ML E σ' where
 cS:=(kz hg h.lS 0).trans h.cS
 cC:=(kz hg h.lC 0).trans h.cC
 cL:=(kz hg h.lL 0).trans h.cL
 cR:=(kz hg h.lR 0).trans h.cR
 lS:=⟨TP h.lS.1 hg.size,h.lS.2⟩
 lC:=⟨TP h.lC.1 hg.size,h.lC.2⟩
 lL:=⟨TP h.lL.1 hg.size,h.lL.2⟩
 lR:=⟨TP h.lR.1 hg.size,h.lR.2⟩
 map:=hM
 lean:=h.lean.kept hg h.bne h.free
 bne:=h.bne
 free:=h.free
theorem jk {w w':af} {b:Nat} (h:ag w w'):w.grownBy w' (some b):=⟨h.os,h.tape,h.output,h.size,fun k hk _=>h.block k hk⟩
theorem Rw.below {w w':af} {gS gC gL gR bS bL N n nL:Nat} {ML:Ky→Option Value} {E:List (Ky × St)} {σ:Ky→Option Int} (h:Rw w gS gC gL gR bS bL N n nL ML E σ) (hB:ag w w'):Rw w' gS gC gL gR bS bL N n nL ML E σ:=h.kept (jk hB) (h.map.below hB)
theorem mU {a b c:af} {r:Option Nat} (h:a.grownBy b r) (h2:b.grownBy c r):a.grownBy c r:=⟨h2.os.trans h.os,h2.tape.trans h.tape,h2.output.trans h.output,TZ h.size h2.size,fun k hk hr=>(h2.block k (TP hk h.size) hr).trans (h.block k hk hr)⟩
def IZ (ts:List Ty) (w:World) (gS gC gL gR bS bL N n nL:Nat) (ML:Ky→Option Value) (E:List (Ky × St)) (σ:Ky→Option Int) (key:Ky) (lv:Int) (e:Ending) (w':World):Prop :=
 ∃ (ok:Bool) (σ':Ky→Option Int) (n':Nat),e=.returned (.bool ok)∧w.grownBy w' (some bS)∧Rw w' gS gC gL gR bS bL N n' nL ML E σ'∧Rz ts N σ'∧(n':Int) + nZ N σ' (ak ts)≤n + nZ N σ (ak ts)∧nZ N σ' (ak ts)≤nZ N σ (ak ts) ∧
  (ok=false→¬ ∃ f,Sol ts f)∧(ok=true→Raised E σ σ'∧∃ x,σ' key=some x∧lv≤x)
set_option maxRecDepth 100000 in
theorem Lx (ts:List Ty) (gS gC gL gR bS bL N nL:Nat) (ML:Ky→Option Value) (E:List (Ky × St)) (hE:Edge ts E) (hF:Found ts) (hN:N=(ak ts).length) (hN36:N≤36) (hsz:∀ k ∈ ak ts,k.1.size≤maxLen∧k.2.size≤maxLen) (hEl:E.length≤100000) (f:Nat) :
  ∀ (w:World) (σ:Ky→Option Int) (n:Nat) (key:Ky) (lv:Int),Rw w gS gC gL gR bS bL N n nL ML E σ→Rz ts N σ→nZ N σ (ak ts)≤f→(n:Int) + nZ N σ (ak ts)≤100000→key ∈ ak ts→0≤lv→lv≤100→qB ts key lv →
  Calls prog 186 #[.agg #[.string key.1,.string key.2],.int .i64 lv,.pointer (some ⟨gS,0,none⟩),.pointer (some ⟨gC,0,none⟩),.pointer (some ⟨gL,0,none⟩),.pointer (some ⟨gR,0,none⟩)] w (IZ ts w gS gC gL gR bS bL N n nL ML E σ key lv):=by
 have HE:=az hE;have HF:=az hF;have Xy:Hid (∀ k ∈ ak ts,k.1.size≤maxLen∧k.2.size≤maxLen):=hsz;have Wx:Hid (N=(ak ts).length):=hN;clear hE hF hsz hN
 induction f using Nat.strongRecOn with
 | _ f ih =>
 intro w σ n key lv hR hZ hmu hnm hk h0 h1 hl;have HIH:Hid (∀ m < f,_):=ih;clear ih;obtain ⟨hz1,hz2⟩:=Xy.out key hk;obtain ⟨kl,hkl⟩:=jB key hz1 hz2;have Vm:Hid (keyOf prog 94 (dQ key)=some kl):=hkl;have HR:=az hR;have HZ:=az hZ;have HLK:=az hl;have HKM:=az hk;have hmp:=hZ.mu_pos (ak ts);have cS:=hR.cS;have cC:=hR.cC;have cL:=hR.cL;have lS:=hR.lS.1;have lC:=hR.lC.1;have lL:=hR.lL.1;have hbS:=hR.map.lt;have hal:ag w (w.alloc (.cells #[.string key.1,.string key.2] 94)):=(TT _ _).alloc (TS _) _;have UN:=az hal;have Xt:Hid (aM dQ prog 94 (w.alloc (.cells #[.string key.1,.string key.2] 94)) bS n (iW σ)):=hR.map.below hal;have HR1:=az (hR.below hal);clear hR hZ hl hkl hal hk;by_cases hd:∃ x,σ key=some x∧lv≤x
 ·obtain ⟨x,hx,hle⟩:=hd;obtain ⟨-,hx0,hxN,-⟩:=HZ.out.there key x hx;have hlk:iW σ key=some (.int .i64 x):=by unfold iW; rw [hx]; rfl
  have HX:Hid (σ key=some x):=hx;clear hx;go_enter func186,ntmps186;go_wp2_with (at_lookup; refine bZ _ rfl _ _ 153 rfl 94 2 ic underlying153 (uX _) bS n (iW σ) rfl Xt.out key kl rfl Vm.out ?_; simp only [hlk,Option.getD_some,Option.isSome_some]);go_ret;exact ⟨true,σ,n,rfl,jk UN.out,HR1.out,HZ.out,Int.le_refl _,Int.le_refl _,by simp,fun _=>⟨Raised.refl _ _,x,HX.out,hle⟩⟩
 have ZQ:Hid (∀ y,σ key=some y→y < lv):=fun y hy=>by
  by_cases h:lv≤y
  ·exact absurd ⟨y,hy,h⟩ hd
  omega
 clear hd;by_cases hNt:(N:Int)≤lv
 ·have Wt:Hid (¬ ∃ f,Sol ts f):=IC HF.out HKM.out HLK.out (by have:=Wx.out; omega);cases hs:σ key with
  | none =>
   have hlk:iW σ key=none:=by unfold iW; rw [hs]; rfl
   clear hs;go_enter func186,ntmps186;go_wp2_with (at_lookup; refine bZ _ rfl _ _ 153 rfl 94 2 ic underlying153 (uX _) bS n (iW σ) rfl Xt.out key kl rfl Vm.out ?_; simp only [hlk,Option.getD_none,Option.isSome_none]);go_ret;exact ⟨false,σ,n,rfl,jk UN.out,HR1.out,HZ.out,Int.le_refl _,Int.le_refl _,fun _=>Wt.out,by simp⟩
  | some x =>
   have hxt:x < lv:=ZQ.out x hs;obtain ⟨-,hx0,hxN,-⟩:=HZ.out.there key x hs;have hlk:iW σ key=some (.int .i64 x):=by unfold iW; rw [hs]; rfl
   clear hs;go_enter func186,ntmps186;go_wp2_with (at_lookup; refine bZ _ rfl _ _ 153 rfl 94 2 ic underlying153 (uX _) bS n (iW σ) rfl Xt.out key kl rfl Vm.out ?_; simp only [hlk,Option.getD_some,Option.isSome_some]);go_ret;exact ⟨false,σ,n,rfl,jk UN.out,HR1.out,HZ.out,Int.le_refl _,Int.le_refl _,fun _=>Wt.out,by simp⟩
 have hNt':lv < (N:Int):=by omega
 have HZ2:Hid (Rz ts N (Hq σ key lv)):=HZ.out.set HKM.out h0 hNt' HLK.out;have HMU:Hid (nZ N (Hq σ key lv) (ak ts) + 1≤nZ N σ (ak ts)):=Tt HZ2.out ZQ.out h0 _ HKM.out;obtain ⟨Zk,cpL,hvl,hrow⟩:=Qs (uV HR.out.lean key);have HVL:Hid ((ML key).getD (.slice none 0 0)=.slice Zk (lookL E key).length cpL):=hvl;have hll:(lookL E key).length≤100000:=TZ (CW _ _) hEl;clear hvl hrow;cases hs:σ key
 case' none =>
  have hlk:iW σ key=none:=by unfold iW; rw [hs]; rfl
  clear hs;go_enter func186,ntmps186
  go_wp2_with (first
   | (at_lookup; refine bZ _ rfl _ _ 153 rfl 94 2 ic underlying153 (uX _) bS n (iW σ) rfl Xt.out key kl rfl Vm.out ?_; simp only [hlk,Option.getD_none,Option.isSome_none])
   | (at_mapUpdate; refine nC _ rfl _ _ _ 153 rfl 94 2 ic uA underlying153 bS n (iW σ) rfl Xt.out (by unfold maxLen; omega) key kl rfl Vm.out (.int .i64 lv) rfl ?_; intro w2 hV2 hg2; have cL2:w2.cell? ⟨gL,0,none⟩=some (.map (some bL)):=(kz hg2 HR1.out.lL 0).trans HR1.out.cL; have k0:w2.cell? ⟨w.heap.size,0,none⟩=some (.string key.1):=(kz hg2 ⟨by simp,by omega⟩ 0).trans (by simp); have k1:w2.cell? ⟨w.heap.size,1,none⟩=some (.string key.2):=(kz hg2 ⟨by simp,by omega⟩ 1).trans (by simp))
   | (at_lookup; refine jA _ rfl _ _ 211 rfl 94 272 ic underlying211 (IY _) bL nL ML rfl ((HR1.out.lean.kept hg2 HR1.out.bne HR1.out.free).map) key kl rfl Vm.out ?_; rw [HVL.out]))
 case' some x =>
  have hxt:x < lv:=ZQ.out x hs;obtain ⟨-,hx0,hxN,-⟩:=HZ.out.there key x hs;have hlk:iW σ key=some (.int .i64 x):=by unfold iW; rw [hs]; rfl
  clear hs;go_enter func186,ntmps186
  go_wp2_with (first
   | (at_lookup; refine bZ _ rfl _ _ 153 rfl 94 2 ic underlying153 (uX _) bS n (iW σ) rfl Xt.out key kl rfl Vm.out ?_; simp only [hlk,Option.getD_some,Option.isSome_some])
   | (at_mapUpdate; refine nC _ rfl _ _ _ 153 rfl 94 2 ic uA underlying153 bS n (iW σ) rfl Xt.out (by unfold maxLen; omega) key kl rfl Vm.out (.int .i64 lv) rfl ?_; intro w2 hV2 hg2; have cL2:w2.cell? ⟨gL,0,none⟩=some (.map (some bL)):=(kz hg2 HR1.out.lL 0).trans HR1.out.cL; have k0:w2.cell? ⟨w.heap.size,0,none⟩=some (.string key.1):=(kz hg2 ⟨by simp,by omega⟩ 0).trans (by simp); have k1:w2.cell? ⟨w.heap.size,1,none⟩=some (.string key.2):=(kz hg2 ⟨by simp,by omega⟩ 1).trans (by simp))
   | (at_lookup; refine jA _ rfl _ _ 211 rfl 94 272 ic underlying211 (IY _) bL nL ML rfl ((HR1.out.lean.kept hg2 HR1.out.bne HR1.out.free).map) key kl rfl Vm.out ?_; rw [HVL.out]))
 all_goals
  have HR2:Hid (Rw w2 gS gC gL gR bS bL N (n + 1) nL ML E (Hq σ key lv)):=HR1.out.kept hg2 (by rw [← Qx]; exact hV2);have HG2:Hid (w.grownBy w2 (some bS)):=mU (jk UN.out) hg2;clear hV2 hg2 cL2 k0 k1;go_loopw [35] (fun i w3=>∃ j:Nat,j≤(lookL E key).length∧i=.int .i64 j∧Hid (∃ (σ3:Ky→Option Int) (n3:Nat),Half E σ key lv j σ3∧Rw w3 gS gC gL gR bS bL N n3 nL ML E σ3∧Rz ts N σ3∧(n3:Int) + nZ N σ3 (ak ts)≤n + nZ N σ (ak ts)∧nZ N σ3 (ak ts) + 1≤nZ N σ (ak ts)∧w.grownBy w3 (some bS))) (fun i _=>(lookL E key).length - (intOf i).toNat);case atStart=>exact ⟨0,TW _,rfl,⟨Hq σ key lv,n + 1,Half.start ZQ.out,HR2.out,HZ2.out,by have:=HMU.out; push_cast; omega,HMU.out,HG2.out⟩⟩
  clear HR2 HG2 HZ2 HMU;obtain ⟨j,hj,rfl,HI⟩:=hrel;by_cases hjl:j < (lookL E key).length
  ·obtain ⟨σ3,n3,hH3,Wm,hZ3,hn3,XA,hg3⟩:=HI.out;obtain ⟨UJ,cp',hv',hrow'⟩:=Qs (uV Wm.lean key);rw [HVL.out] at hv';injection hv' with e1 e2 e3;subst e1;rcases hrow' with h | ⟨gr,UF,hgr1,U1,hcr⟩
   ·omega
   obtain ⟨st,hst⟩:∃ st,st=(lookL E key)[j]:=⟨_,rfl⟩;have r0:wr.cell? ⟨gr,j * 3,none⟩=some (.string st.typ):=hcr _ _ (by have:=lq (lookL E key) j hjl 0 (by omega); rw [hst]; simpa [St.cells] using this);have r1:wr.cell? ⟨gr,j * 3 + 1,none⟩=some (.string st.rel):=hcr _ _ (by have:=lq (lookL E key) j hjl 1 (by omega); rw [hst]; simpa [St.cells] using this);have r2:wr.cell? ⟨gr,j * 3 + 2,none⟩=some (.int .i64 st.n):=hcr _ _ (by have:=lq (lookL E key) j hjl 2 (by omega); rw [hst]; simpa [St.cells] using this);have HST:Hid (st=(lookL E key)[j]):=hst;obtain ⟨hsk,hsl,hsn0,hsn1⟩:=HE.out.low HLK.out (s:=st) (by rw [hst]; exact TQ hjl);have HSK:=az hsk;have WG:=az hsl;have hj1:=bB j;have hj2:(j:Int) < ((lookL E key).length:Int):=by omega
   have cR3:=Wm.cR;unfold Ep at cR3;have lR3:=Wm.lR.1;obtain ⟨W3,hW3⟩:∃ W3,W3=wr.alloc (.cells #[.string st.typ,.string st.rel,.int .i64 st.n] 274):=⟨_,rfl⟩;have XB:ag wr W3:=by rw [hW3]; exact (TT _ _).alloc (TS _) _
   have HR3:=az (Wm.below XB);have Xv:Hid (w.grownBy W3 (some bS)):=mU hg3 (jk XB);have HH3:=az hH3;have HZ3:=az hZ3;have hm3p:=hZ3.mu_pos (ak ts);have HNM:Hid ((n3:Int) + nZ N σ3 (ak ts)≤n + nZ N σ (ak ts)∧nZ N σ3 (ak ts) + 1≤nZ N σ (ak ts)):=⟨hn3,XA⟩;rw [UF];clear hcr hgr1 U1 hsk hsl hst Wm XB hH3 hZ3 hg3 HI e2 e3;go_wp2_with fail;rw [← hW3];clear hW3 r0 r1 r2 cR3;refine (HIH.out (nZ N σ3 (ak ts)).toNat (by omega) _ σ3 n3 st.key (lv + st.n) HR3.out HZ3.out (by omega) (by omega) HSK.out (by omega) (by omega) WG.out).mono ?_;rintro e w5 ⟨ok,σ5,n5,rfl,hg5,UU,hZ5,Y3,WV,hf5,ht5⟩;cases ok;case false=>
    have HP:Hid (IZ ts w gS gC gL gR bS bL N n nL ML E σ key lv (.returned (.bool false)) w5):=by
     have h:=HNM.out;exact ⟨false,σ5,n5,rfl,mU Xv.out hg5,UU,hZ5,by omega,by omega,fun _=>hf5 rfl,by simp⟩
    clear hg5 UU hZ5 Y3 WV hf5 ht5;go_wp2;go_ret;exact HP.out
   have HI2:Hid (∃ (σ3:Ky→Option Int) (n3:Nat),Half E σ key lv (j + 1) σ3∧Rw w5 gS gC gL gR bS bL N n3 nL ML E σ3∧Rz ts N σ3∧(n3:Int) + nZ N σ3 (ak ts)≤n + nZ N σ (ak ts)∧nZ N σ3 (ak ts) + 1≤nZ N σ (ak ts)∧w.grownBy w5 (some bS)):=by
    have h:=HNM.out;obtain ⟨ZR,y,hy,hle⟩:=ht5 rfl;refine ⟨σ5,n5,HH3.out.step hjl ZR ⟨y,?_,?_⟩,UU,hZ5,by omega,by omega,mU Xv.out hg5⟩
    ·rw [← HST.out]; exact hy
    rw [← HST.out]; exact hle
   clear hg5 UU hZ5 Y3 WV hf5 ht5;go_wp2;go_roundw;case rel=>exact ⟨j + 1,by omega,by go_num,HI2⟩
   simp [intOf] <;> omega
  obtain rfl:j=(lookL E key).length:=by omega
  have HP:Hid (IZ ts w gS gC gL gR bS bL N n nL ML E σ key lv (.returned (.bool true)) wr):=by
   obtain ⟨σ3,n3,hH3,Wm,hZ3,hn3,XA,hg3⟩:=HI.out;exact ⟨true,σ3,n3,rfl,hg3,Wm,hZ3,hn3,by omega,by simp,fun _=>⟨hH3.full (TS _),hH3.at'⟩⟩
  clear HI;go_wp2;go_ret;exact HP.out
end Go.Proofs.YtajkkeikihhejaaGreat
