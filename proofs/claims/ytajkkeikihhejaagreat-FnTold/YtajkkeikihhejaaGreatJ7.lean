/- Contracts of the document's functions that look a type, a relation, and whom it allows up in a schema. -/
import Derived.Test.YtajkkeikihhejaaGreatSq
import Derived.Test.YtajkkeikihhejaaGreatJ3
import Derived.Test.YtajkkeikihhejaaGreatJ2
import Derived.Deep.AppendLies
open Go.Proofs.Tryz
set_option maxHeartbeats 80000000
namespace Go.Proofs.YtajkkeikihhejaaGreat
open Go.ChangeShapes Go.WideShapes Go.ChangeAt Go.RowKit
open Pl
def jN:List Rl→ByteArray→Option (List Ex)
 | [],_=>none
 | r::rs,n=>if r.name.toList == n.toList then some r.expr else jN rs n
def fH:List Ty→ByteArray→ByteArray→Option (List Ex)
 | [],_,_=>none
 | t::ts,ty,n=>if t.name.toList == ty.toList then (jN t.rels n).or (fH ts ty n) else fH ts ty n
def lc:List Ty→ByteArray→Bool
 | [],_=>false
 | t::ts,ty=>(t.name.toList == ty.toList) || lc ts ty
theorem nQ (rs:List TR) (k:Nat) (h:k < rs.length):ae (rs.drop k)=⟨rs[k].name,eD rs[k].rows⟩::ae (rs.drop (k + 1)):=by
 rw [Un h]; rfl
theorem FL (rs:List RR) (k:Nat) (h:k < rs.length):eD (rs.drop k)=⟨rs[k].name,aj rs[k].rows⟩::eD (rs.drop (k + 1)):=by
 rw [Un h]; rfl
theorem Ig (ad:Option Addr) (cap:Nat) (rs:List TR) (typ:bF) (w:af) (hlen:rs.length≤1048576) (hs:kW w ad rs) :
  Calls prog 192 #[.slice ad rs.length cap,.string typ] w fun e w'=>e=.returned (.bool (lc (ae rs) typ))∧w'=w:=by
 go_enter func192,ntmps192;go_wp2;go_loopw [5] (fun i wr=>∃ k:Nat,k≤rs.length∧i=.int .i64 k∧Hid (lc (ae (rs.drop k)) typ=lc (ae rs) typ)∧wr=w) (fun i _=>rs.length - (intOf i).toNat);case atStart=>exact ⟨0,TW _,rfl,rfl,rfl⟩
 obtain ⟨k,hk,rfl,HP,rfl⟩:=hrel;by_cases hlt:k < rs.length
 ·rcases hs with rfl | ⟨b,off,rfl,hb,hr,hok⟩
  ·simp at hlt
  obtain ⟨t0,t1⟩:=hr k hlt;have hk1:=bB k;have hk2:(k:Int) < (rs.length:Int):=by omega
  clear hr hok;cases hq:(rs[k].name.toList == typ.toList);case true=>
   have HN:Hid (lc (ae rs) typ=true):=by show _=_; rw [← HP.out,nQ _ _ hlt]; simp [lc,hq]
   go_wp2;go_ret;exact ⟨by rw [HN.out]; rfl,rfl⟩
  have UI:Hid (lc (ae (rs.drop (k + 1))) typ=lc (ae rs) typ):=by show _=_; rw [← HP.out,nQ _ _ hlt]; simp [lc,hq]
  go_wp2;go_roundw;case rel=>exact ⟨k + 1,by omega,by go_num,UI,by first | rfl | trivial⟩
  simp [intOf] <;> omega
 have HN:Hid (lc (ae rs) typ=false):=by show _=_; rw [← HP.out,List.drop_of_length_le (by omega)]; rfl
 go_wp2;go_ret;exact ⟨by rw [HN.out]; rfl,rfl⟩
def pO (rs:List TR) (ad:Option Addr) (rows:List ER):Prop:=rows=[] ∨ ∃ t ∈ rs,∃ q ∈ t.rows,rows=q.rows∧ad=q.ad
theorem M8.mem {w:af} {ad:Option Addr} {rs:List RR} (h:M8 w ad rs) {q:RR} (hq:q ∈ rs):q.ok w:=by
 rcases h with rfl | ⟨b,off,e,hb,hr,hk⟩
 ·cases hq
 exact hk q hq
theorem kW.mem {w:af} {ad:Option Addr} {rs:List TR} (h:kW w ad rs) {q:TR} (hq:q ∈ rs):q.ok w:=by
 rcases h with rfl | ⟨b,off,e,hb,hr,hk⟩
 ·cases hq
 exact hk q hq
theorem pO.sl {rs:List TR} {ad ad0:Option Addr} {rows:List ER} {w:af} (h:pO rs ad rows) (hs:kW w ad0 rs):iH w ad rows:=by
 rcases h with rfl | ⟨t,ht,q,hq,rfl,rfl⟩
 ·exact .inl rfl
 exact M8.mem (hs.mem ht) hq
theorem jd (ad:Option Addr) (cap:Nat) (rs:List TR) (typ rel:bF) (w:af) (hlen:rs.length≤1048576) (hs:kW w ad rs) (hl:∀ r ∈ rs,r.light) :
  Calls prog 97 #[.slice ad rs.length cap,.string typ,.string rel] w fun e w'=>(∃ (rows:List ER) (UJ:Option Addr) (cap':Nat),e=.returned (.slice UJ rows.length cap')∧aj rows=(fH (ae rs) typ rel).getD []∧iH w UJ rows∧pO rs UJ rows)∧w'=w:=by
 have HS:=az hs;have HL:=az hl;clear hs hl;go_enter func97,ntmps97;go_wp2;go_loopw [7] (fun i wr=>∃ k:Nat,k≤rs.length∧i=.int .i64 k∧Hid (fH (ae (rs.drop k)) typ rel=fH (ae rs) typ rel)∧wr=w) (fun i _=>rs.length - (intOf i).toNat);case atStart=>exact ⟨0,TW _,rfl,rfl,rfl⟩
 obtain ⟨k,hk,rfl,HP,rfl⟩:=hrel;by_cases hlt:k < rs.length
 ·rcases HS.out with rfl | ⟨b,off,rfl,hb,hr,hok⟩
  ·simp at hlt
  obtain ⟨t0,t1⟩:=hr k hlt;have ok:=hok rs[k] (TQ hlt);have lg:=(HL.out rs[k] (TQ hlt)).1;have Vz:=az ok;have hk1:=bB k;have hk2:(k:Int) < (rs.length:Int):=by omega
  clear hr hok ok;cases hq:(rs[k].name.toList == typ.toList);case false=>
   have UI:Hid (fH (ae (rs.drop (k + 1))) typ rel=fH (ae rs) typ rel):=by show _=_; rw [← HP.out,nQ _ _ hlt]; simp [fH,hq]
   go_wp2_with fail;go_loopw [8] (fun i w2=>i=.int .i64 0∧w2=wr) (fun i _=>(intOf i).toNat);case atStart=>exact ⟨rfl,rfl⟩
   obtain ⟨rfl,rfl⟩:=hrel;go_wp2;go_roundw;case rel=>exact ⟨k + 1,by omega,by go_num,UI,by first | rfl | trivial⟩
   simp [intOf] <;> omega
  go_wp2_with fail;go_loopw [8] (fun i w2=>∃ j:Nat,j≤rs[k].rows.length∧i=.int .i64 j∧Hid (jN (eD (rs[k].rows.drop j)) rel=jN (eD rs[k].rows) rel)∧w2=wr) (fun i _=>rs[k].rows.length - (intOf i).toNat);case atStart=>exact ⟨0,TW _,rfl,rfl,rfl⟩
  obtain ⟨j,hj,rfl,HI,rfl⟩:=hrel;by_cases hjl:j < rs[k].rows.length
  ·rcases Vz.out with hnil | ⟨b2,UZ,had,hb2,hr2,hok2⟩
   ·rw [hnil] at hjl; simp at hjl
   have t1':=t1;rw [had] at t1';obtain ⟨q0,q1⟩:=hr2 j hjl;have HOQ:Hid (rs[k].rows[j].ok _):=hok2 rs[k].rows[j] (TQ hjl);have hj1:=bB j;have hj2:(j:Int) < (rs[k].rows.length:Int):=by omega
   clear hr2 hok2 had t1;cases hn:(rs[k].rows[j].name.toList == rel.toList);case true=>
    have HN:Hid (aj rs[k].rows[j].rows=(fH (ae rs) typ rel).getD []):=by
     have h1:jN (eD rs[k].rows) rel=some (aj rs[k].rows[j].rows):=by rw [← HI.out,FL _ _ hjl]; simp [jN,hn]
     show _=_;rw [← HP.out,nQ _ _ hlt];simp [fH,hq,h1]
    have HFS:Hid (pO rs rs[k].rows[j].ad rs[k].rows[j].rows):=.inr ⟨rs[k],TQ hlt,rs[k].rows[j],TQ hjl,rfl,rfl⟩;go_wp2;go_ret;exact ⟨⟨rs[k].rows[j].rows,_,_,rfl,HN.out,HOQ.out,HFS.out⟩,rfl⟩
   have HI2:Hid (jN (eD (rs[k].rows.drop (j + 1))) rel=jN (eD rs[k].rows) rel):=by show _=_; rw [← HI.out,FL _ _ hjl]; simp [jN,hn]
   go_wp2;go_roundw;case rel=>exact ⟨j + 1,by omega,by go_num,HI2,by first | rfl | trivial⟩
   simp [intOf] <;> omega
  have UI:Hid (fH (ae (rs.drop (k + 1))) typ rel=fH (ae rs) typ rel):=by
   have h1:jN (eD rs[k].rows) rel=none:=by rw [← HI.out,List.drop_of_length_le (by omega)]; rfl
   show _=_;rw [← HP.out,nQ _ _ hlt];simp [fH,hq,h1]
  go_wp2;go_roundw;case rel=>exact ⟨k + 1,by omega,by go_num,UI,by first | rfl | trivial⟩
  simp [intOf] <;> omega
 have HN:Hid (aj []=(fH (ae rs) typ rel).getD []):=by show _=_; rw [← HP.out,List.drop_of_length_le (by omega)]; rfl
 go_wp2;go_ret;exact ⟨⟨[],none,0,rfl,HN.out,.inl rfl,.inl rfl⟩,rfl⟩
def aU:List Ex→List Al
 | []=>[]
 | e::es=>if e.kind=1 then e.allow else aU es
theorem gI (rs:List ER) (k:Nat) (h:k < rs.length):aj (rs.drop k)=rs[k].e::aj (rs.drop (k + 1)):=by
 rw [Un h]; rfl
def NT (rs:List ER) (ad:Option Addr) (xs:List Al):Prop:=xs=[] ∨ ∃ r ∈ rs,xs=r.e.allow∧ad=r.adA
theorem iH.mem {w:af} {ad:Option Addr} {rs:List ER} (h:iH w ad rs) {q:ER} (hq:q ∈ rs):q.ok w:=by
 rcases h with rfl | ⟨b,off,e,hb,hr,hk⟩
 ·cases hq
 exact hk q hq
theorem NT.sl {rs:List ER} {ad ad0:Option Addr} {xs:List Al} {w:af} (h:NT rs ad xs) (hs:iH w ad0 rs):jM w ad xs:=by
 rcases h with rfl | ⟨r,hr,rfl,rfl⟩
 ·exact .inl rfl
 exact (hs.mem hr).1
theorem xy (ad:Option Addr) (cap:Nat) (rs:List ER) (w:af) (hlen:rs.length≤1048576) (hs:iH w ad rs) :
  Calls prog 138 #[.slice ad rs.length cap] w fun e w'=>(∃ (UJ:Option Addr) (cap':Nat),e=.returned (.slice UJ (aU (aj rs)).length cap')∧jM w UJ (aU (aj rs))∧NT rs UJ (aU (aj rs)))∧w'=w:=by
 have HS:=az hs;clear hs;go_enter func138,ntmps138;go_wp2;go_loopw [3] (fun i wr=>∃ k:Nat,k≤rs.length∧i=.int .i64 k∧Hid (aU (aj (rs.drop k))=aU (aj rs))∧wr=w) (fun i _=>rs.length - (intOf i).toNat);case atStart=>exact ⟨0,TW _,rfl,rfl,rfl⟩
 obtain ⟨k,hk,rfl,HP,rfl⟩:=hrel;by_cases hlt:k < rs.length
 ·rcases HS.out with rfl | ⟨b,off,rfl,hb,hr,hok⟩
  ·simp at hlt
  obtain ⟨t0,t1,t2,t3,t4⟩:=hr k hlt;have Vz:Hid (rs[k].ok _):=hok rs[k] (TQ hlt);have hk1:=bB k;have hk2:(k:Int) < (rs.length:Int):=by omega
  clear hr hok;by_cases hq:rs[k].e.kind=1
  ·have HN:Hid (aU (aj rs)=rs[k].e.allow):=by show _=_; rw [← HP.out,gI _ _ hlt]; simp [aU,hq]
   go_wp2;go_ret;exact ⟨⟨rs[k].adA,rs[k].capA,by rw [HN.out]; rfl,by rw [HN.out]; exact Vz.out.1,.inr ⟨rs[k],TQ hlt,HN.out,rfl⟩⟩,rfl⟩
  have UI:Hid (aU (aj (rs.drop (k + 1)))=aU (aj rs)):=by show _=_; rw [← HP.out,gI _ _ hlt]; simp [aU,hq]
  have YX:(rs[k].e.kind == 1)=false:=by simpa using hq
  go_wp2;go_roundw;case rel=>exact ⟨k + 1,by omega,by go_num,UI,by first | rfl | trivial⟩
  simp [intOf] <;> omega
 have HN:Hid (aU (aj rs)=[]):=by show _=_; rw [← HP.out,List.drop_of_length_le (by omega)]; rfl
 go_wp2;go_ret;exact ⟨⟨none,0,by rw [HN.out]; rfl,by rw [HN.out]; exact .inl rfl,.inl HN.out⟩,rfl⟩
def bu:List Ex→Bool
 | [e]=>decide (e.kind=1) && e.allow.all fun a=>a.s.toList.isEmpty
 | _=>false
def zu (xs:List Al) (k:Nat):Bool:=(xs.take k).all fun a=>a.s.toList.isEmpty
theorem Ih (xs:List Al) (k:Nat) (h:k < xs.length):zu xs (k + 1)=(zu xs k && xs[k].s.toList.isEmpty):=by
 unfold zu; rw [TV h,List.all_append]; simp
theorem KY (xs:List Al) (k:Nat) (h:k < xs.length) (hb:xs[k].s.toList.isEmpty=false):(xs.all fun a=>a.s.toList.isEmpty)=false:=by
 rw [Bool.eq_false_iff]; intro h2; rw [Ub] at h2; have:=h2 xs[k] (TQ h); rw [hb] at this; cases this
theorem Ec (ad:Option Addr) (cap:Nat) (rs:List ER) (w:af) (hlen:rs.length≤1048576) (hs:iH w ad rs) (hl:∀ r ∈ rs,r.e.light) :
  Calls prog 193 #[.slice ad rs.length cap] w fun e w'=>e=.returned (.bool (bu (aj rs)))∧w'=w:=by
 by_cases h1:rs.length=1
 ·obtain ⟨r,rfl⟩:∃ r,rs=[r]:=List.length_eq_one_iff.1 h1;rcases hs with h | ⟨b,off,rfl,hb,hr,hok⟩
  ·cases h
  obtain ⟨t0,t1,t2,t3,t4⟩:=hr 0 (by simp);simp only [Nat.zero_mul,Nat.add_zero,List.getElem_cons_zero] at t0 t1 t2 t3 t4;have Vz:Hid (r.ok w):=hok r (by simp);obtain ⟨lg,-⟩:=hl r (by simp);clear hr hok h1;simp only [List.length_cons,List.length_nil,Um];by_cases hq:r.e.kind=1
  ·have HD:Hid (bu (aj [r])=r.e.allow.all fun a=>a.s.toList.isEmpty):=by show _=_; simp [bu,aj,hq]
   go_enter func193,ntmps193;go_wp2;go_loopw [3] (fun i wr=>∃ k:Nat,k≤r.e.allow.length∧i=.int .i64 k∧Hid (zu r.e.allow k=true)∧wr=w) (fun i _=>r.e.allow.length - (intOf i).toNat);case atStart=>exact ⟨0,TW _,rfl,(by show _=_; simp [zu]),rfl⟩
   obtain ⟨k,hk,rfl,HP,rfl⟩:=hrel;by_cases hlt:k < r.e.allow.length
   ·rcases Vz.out.1 with hnil | ⟨ba,Wn,Wo,Yl,hra⟩
    ·rw [hnil] at hlt; simp at hlt
    have t1':=t1;rw [Wo] at t1';obtain ⟨q0,q1⟩:=hra k hlt;have hk1:=bB k;have hk2:(k:Int) < (r.e.allow.length:Int):=by omega
    clear hra Wo t1;cases he:r.e.allow[k].s.toList.isEmpty;case true=>
     have UI:Hid (zu r.e.allow (k + 1)=true):=by show _=_; rw [Ih _ _ hlt,HP.out,he]; rfl
     go_wp2;go_roundw;case rel=>exact ⟨k + 1,by omega,by go_num,UI,by first | rfl | trivial⟩
     simp [intOf] <;> omega
    have HN:Hid (bu (aj [r])=false):=by show _=_; rw [HD.out]; exact KY _ k hlt he
    go_wp2;go_ret;exact ⟨by rw [HN.out]; rfl,rfl⟩
   have HN:Hid (bu (aj [r])=true):=by
    show _=_;rw [HD.out];have:=HP.out;unfold zu at this;rwa [List.take_of_length_le (by omega)] at this
   go_wp2;go_ret;exact ⟨by rw [HN.out]; rfl,rfl⟩
  have HN:Hid (bu (aj [r])=false):=by show _=_; simp [bu,aj,hq]
  have YX:(r.e.kind != 1)=true:=by simpa using hq
  go_enter func193,ntmps193;go_wp2;go_ret;exact ⟨by rw [HN.out]; rfl,rfl⟩
 have HN:Hid (bu (aj rs)=false):=by
  show _=_
  match rs,h1 with
  | [],_=>rfl
  | [r],h=>exact absurd rfl h
  | a::b::r,_=>rfl
 have h1':((rs.length:Int) != 1)=true:=by simp; omega
 go_enter func193,ntmps193;go_wp2;go_ret;exact ⟨by rw [HN.out]; rfl,rfl⟩
def aA (ts:List Ty) (ty n:ByteArray):List Ex:=(fH ts ty n).getD []
def gl (ts:List Ty) (rel:ByteArray):List Al→List ByteArray
 | []=>[]
 | a::xs=>if (aA ts a.t rel).isEmpty then gl ts rel xs else a.t::gl ts rel xs
def ig (ts:List Ty) (ty over rel:ByteArray):List ByteArray:=gl ts rel (aU (aA ts ty over))
theorem Cu (ts:List Ty) (rel:bF) (xs ys:List Al):gl ts rel (xs ++ ys)=gl ts rel xs ++ gl ts rel ys:=by
 induction xs with
 | nil=>rfl
 | cons a xs ih=>simp only [List.cons_append,gl,ih]; split <;> simp
theorem Rq (ts:List Ty) (rel:bF) (xs:List Al) (k:Nat) (h:k < xs.length) (he:aA ts xs[k].t rel=[]):gl ts rel (xs.take (k + 1))=gl ts rel (xs.take k):=by
 rw [TV h,Cu]; simp [gl,he]
theorem NU (ts:List Ty) (rel:bF) (xs:List Al) (k:Nat) (h:k < xs.length) (he:aA ts xs[k].t rel ≠ []):gl ts rel (xs.take (k + 1))=gl ts rel (xs.take k) ++ [xs[k].t]:=by
 rw [TV h,Cu]; simp [gl,he]
theorem Ii (ts:List Ty) (rel:bF) (xs:List Al):(gl ts rel xs).length≤xs.length:=by
 induction xs with
 | nil=>simp [gl]
 | cons a xs ih=>simp only [gl]; split <;> simp <;> omega
theorem KZ:(prog.info? 9).map (fun i=>(i.zero,i.size,i.bytes))=some (some (.string ⟨#[]⟩),1,16):=by kernel_rfl
def qx (xs:List ByteArray):List Value:=xs.map Value.string
def Sc (w:World) (ad:Option Addr) (xs:List ByteArray):Prop:=xs=[] ∨ ∃ b off,ad=some ⟨b,off,none⟩∧b < w.heap.size∧∀ (i:Nat) (h:i < xs.length),w.cell? ⟨b,off + i,none⟩=some (.string xs[i])
theorem Sc.below {w w':af} {ad:Option Addr} {xs:List ByteArray} (h:Sc w ad xs) (hB:ag w w'):Sc w' ad xs:=by
 rcases h with h | ⟨b,off,e,hb,hr⟩
 ·exact .inl h
 exact .inr ⟨b,off,e,TP hb hB.size,fun i hi=>(hB.cell (p:=⟨b,off + i,none⟩) hb).trans (hr i hi)⟩
theorem NV {w:af} {base k:Nat} {v:Value} {xs:List ByteArray} (h:w.ownsRow base 9 1 v k (qx xs)):∃ ad cp,v=.slice ad xs.length cp∧Sc w ad xs∧∀ p,ad=some p→base≤p.block:=by
 have hl:xs.length=k:=by have:=h.1; simpa [qx] using this
 have h2:=h;rcases h.2 with ⟨rfl,h0⟩ | ⟨g,cp,cur,rfl,hbg,hg,hnc,-⟩
 ·refine ⟨none,0,?_,.inl (Ui.1 (by omega)),fun p hp=>by cases hp⟩;rw [hl,h0]
 have hlt:=h2.lt g rfl;refine ⟨_,cp,by rw [hl],.inr ⟨g,0,rfl,hlt.2,fun j hj=>?_⟩,fun p hp=>by injection hp with hp; rw [← hp]; exact hlt.1⟩;have:=h2.cells (g:=g) rfl j (.string xs[j]) (by simp [qx,hj]);rw [Um];have e:(⟨g,0,none⟩:Addr).add j=⟨g,j,none⟩:=by
  unfold Addr.add;by_cases hj:j=0
  ·subst hj; simp
  simp [hj]
 rwa [e] at this
theorem pO.light {rs:List TR} {ad:Option Addr} {rows:List ER} (h:pO rs ad rows) (hl:∀ r ∈ rs,r.light):rows.length≤1048576∧∀ q ∈ rows,q.e.light:=by
 rcases h with rfl | ⟨t,ht,q,hq,rfl,-⟩
 ·exact ⟨by simp,by simp⟩
 exact (hl t ht).2 q hq
theorem zw (rows:List ER) (hl:∀ q ∈ rows,q.e.light):(aU (aj rows)).length≤1048576:=by
 induction rows with
 | nil=>simp [aj,aU]
 | cons r rows ih =>
  have e:aj (r::rows)=r.e::aj rows:=rfl;rw [e];simp only [aU];split
  ·exact (hl r (by simp)).1
  exact ih fun q hq=>hl q (by simp [hq])
set_option maxRecDepth 100000 in
theorem xz (ad:Option Addr) (cap:Nat) (rs:List TR) (typ over rel:bF) (w:af) (hlen:rs.length≤1048576) (hs:kW w ad rs) (hl:∀ r ∈ rs,r.light) :
  Calls prog 194 #[.slice ad rs.length cap,.string typ,.string over,.string rel] w fun e w'=>(∃ (UJ:Option Addr) (cap':Nat),e=.returned (.slice UJ (ig (ae rs) typ over rel).length cap')∧Sc w' UJ (ig (ae rs) typ over rel)∧∀ p,UJ=some p→w.heap.size≤p.block)∧ag w w':=by
 have HS:=az hs;have HL:=az hl;clear hs hl;obtain ⟨i0,hi,hz0,hz1,hz2⟩:=info_parts KZ;go_enter func194,ntmps194;go_wp2_with fail;have Zd:ag w (w.alloc (.cells #[] 9)):=(TT _ _).alloc (TS _) _;have hown1:(w.alloc (.cells #[] 9)).ownsRow w.heap.size 9 1 (.slice (some ⟨w.heap.size,0,none⟩) 0 0) 0 []:=World.ownsRow_made w #[] 0 (TS _) (by decide) rfl;refine (jd ad cap rs typ over _ hlen (HS.out.below Zd) HL.out).mono ?_;rintro e w1 ⟨⟨rows,ad1,cap1,rfl,hx1,hs1,hf1⟩,rfl⟩;have hl1:=hf1.light HL.out;have hal:=zw rows hl1.2;go_wp2_with fail;refine (xy ad1 cap1 rows _ hl1.1 hs1).mono ?_;rintro e w1 ⟨⟨ad2,cap2,rfl,-,hf2⟩,rfl⟩;have HG:Hid (ig (ae rs) typ over rel=gl (ae rs) rel (aU (aj rows))):=by show _=_; rw [hx1]; rfl
 have HA:Hid (jM w ad2 (aU (aj rows))):=hf2.sl (hf1.sl HS.out);generalize aU (aj rows)=xs at *
 clear hs1 hx1 hf1 hl1 hf2;have HBA:=az Zd;have UV:=az hown1;clear Zd hown1;obtain ⟨wA,hwA⟩:∃ wA,wA=w.alloc (.cells #[] 9):=⟨_,rfl⟩;rw [← hwA] at HBA UV ⊢;clear hwA;go_wp2_with fail;go_loopw [9,11] (fun v i wr=>∃ k:Nat,k≤xs.length∧i=.int .i64 k∧wr.ownsRow w.heap.size 9 1 v (gl (ae rs) rel (xs.take k)).length (qx (gl (ae rs) rel (xs.take k)))∧ag w wr) (fun _ i _=>xs.length - (intOf i).toNat);case atStart=>exact ⟨0,TW _,rfl,by simpa [qx,gl] using UV.out,HBA.out⟩
 obtain ⟨k,hk,rfl,hown,hB⟩:=hrel;by_cases hlt:k < xs.length
 ·have HST:Hid (kW _ ad rs):=HS.out.below hB;rcases HA.out.below hB with rfl | ⟨b,off,rfl,hb,hr⟩
  ·simp at hlt
  obtain ⟨t0,t1⟩:=hr k hlt;have hBs:=hB.size;have hgl:=Ii (ae rs) rel (xs.take k);rw [Ut] at hgl;have HBH:=az hB;have HOW:Hid (wr.ownsRow w.heap.size 9 1 _ _ _):=hown;clear hr hB hown;go_wp2_with fail;refine (jd ad cap rs xs[k].t rel _ hlen HST.out HL.out).mono ?_;rintro e w1 ⟨⟨Vt,ad3,ZZ,rfl,hx3,-,-⟩,rfl⟩;by_cases hz:Vt.length=0
  ·have HE:Hid (gl (ae rs) rel (xs.take (k + 1))=gl (ae rs) rel (xs.take k)):=by
    refine Rq _ _ _ _ hlt ?_;show _=_;unfold aA;rw [← hx3,Ui.1 hz]; rfl
   rw [hz];clear hx3;go_wp2;go_roundw;case rel=>exact ⟨k + 1,by omega,by go_num,by rw [HE.out]; exact HOW.out,HBH.out⟩
   simp [intOf] <;> omega
  have HX:Hid (gl (ae rs) rel (xs.take (k + 1))=gl (ae rs) rel (xs.take k) ++ [xs[k].t]):=by
   refine NU _ _ _ _ hlt ?_;show ¬ _=_;unfold aA;rw [← hx3];intro h2;apply hz;rw [← aT,h2]; rfl
  have hzz:(0:Int) < (Vt.length:Int):=by omega
  clear hx3;go_wp2_with (at_builtin; refine wpList_append_own _ rfl _ _ 142 rfl w.heap.size 9 i0 (.string ⟨#[]⟩) 1 16 underlying142 hi hz0 hz1 hz2 rfl (by decide) _ _ _ rfl (HOW.out.alloc _) ⟨w1.heap.size,0,none⟩ 1 1 [.string xs[k].t] rfl rfl (cell_one_new _ _ _) (by intro u hu; simp at hu; subst hu; rfl) (by unfold maxLen; omega) (by omega) (by simp; omega) ?_);intro v' w3 hown3 hgrow _;have hb3:ag w w3:=(HBH.out.alloc HBH.out.size _).grown hgrow (by simp; omega) (fun i hi=>(HOW.out.lt i hi).1);have UX:Hid (w3.ownsRow w.heap.size 9 1 v' (gl (ae rs) rel (xs.take (k + 1))).length (qx (gl (ae rs) rel (xs.take (k + 1))))):=by
   show World.ownsRow _ _ _ _ _ _ _;rw [HX.out];simpa [qx] using hown3
  clear hown3 hgrow HOW;go_wp2;go_roundw;case rel=>exact ⟨k + 1,by omega,by go_num,UX.out,hb3⟩
  simp [intOf] <;> omega
 obtain rfl:k=xs.length:=by omega
 have HE:Hid (xs.take xs.length=xs):=by show _=_; rw [Ug]
 rw [HE.out,← HG.out] at hown;obtain ⟨UJ,cp,rfl,hsl,hnew⟩:=NV hown;have Wi:Hid (∀ p,UJ=some p→w.heap.size≤p.block):=hnew;have WG:Hid (Sc _ UJ (ig (ae rs) typ over rel)):=hsl;have HBH:Hid (ag w _):=hB;clear hsl hB hown hnew;go_wp2;go_ret;exact ⟨⟨UJ,cp,rfl,WG.out,Wi.out⟩,HBH.out⟩
def pQ (ts:List Ty) (a:Al):Bool:=lc ts a.t && (a.s.toList.isEmpty || !(aA ts a.t a.s).isEmpty)
def oQ (ts:List Ty) (xs:List Al):Bool:=xs.all (pQ ts)
def lh (ts:List Ty) (typ:ByteArray) (e:Ex):Bool :=
 if e.kind=2 then !(aA ts typ e.name).isEmpty
 else if e.kind=3 then bu (aA ts typ e.over) && !(ig ts typ e.over e.name).isEmpty
 else true
def aR (ts:List Ty) (typ:ByteArray):List Ex→Bool
 | []=>true
 | e::es=>if oQ ts e.allow && lh ts typ e then aR ts typ es else false
def nR (ts:List Ty) (xs:List Al) (k:Nat):Bool:=oQ ts (xs.take k)
theorem zx (ts:List Ty) (xs:List Al):nR ts xs 0=true:=by simp [nR,oQ]
theorem oU (ts:List Ty) (xs:List Al) (k:Nat) (h:k < xs.length):nR ts xs (k + 1)=(nR ts xs k && pQ ts xs[k]):=by
 unfold nR oQ; rw [TV h,List.all_append]; simp
theorem uH (ts:List Ty) (xs:List Al) (k:Nat) (h:k < xs.length) (hb:pQ ts xs[k]=false):oQ ts xs=false:=by
 unfold oQ;rw [Bool.eq_false_iff]; intro h2; rw [Ub] at h2; have:=h2 xs[k] (TQ h); rw [hb] at this; cases this
theorem aG {w w':af} {g o:Nat} {v:Value} (hB:ag w w') (hg:g < w.heap.size) (h:w.cell? ⟨g,o,none⟩=some v):w'.cell? ⟨g,o,none⟩=some v:=(hB.cell (p:=⟨g,o,none⟩) hg).trans h
set_option maxRecDepth 8000 in
theorem Ij (ad UC:Option Addr) (cap capE:Nat) (rs:List TR) (typ:bF) (rows:List ER) (w:af) (hlen:rs.length≤1048576) (hs:kW w ad rs) (hl:∀ r ∈ rs,r.light) (hle:rows.length≤1048576) (hse:iH w UC rows) (ZH:∀ q ∈ rows,q.e.light) :
  Calls prog 136 #[.slice ad rs.length cap,.string typ,.slice UC rows.length capE] w fun e w'=>e=.returned (.bool (aR (ae rs) typ (aj rows)))∧ag w w':=by
 have HS:=az hs;have HL:=az hl;have HE:=az hse;have Vj:=az ZH;clear hs hl hse ZH;go_enter func136,ntmps136;go_wp2_with fail;go_loopw [7] (fun i wr=>∃ k:Nat,k≤rows.length∧i=.int .i64 k∧Hid (aR (ae rs) typ (aj (rows.drop k))=aR (ae rs) typ (aj rows))∧Hid (ag w wr)) (fun i _=>rows.length - (intOf i).toNat);case atStart=>exact ⟨0,TW _,rfl,rfl,TT _ _⟩
 obtain ⟨k,hk,rfl,HP,HB⟩:=hrel;by_cases hlt:k < rows.length
 ·have HS1:Hid (kW _ ad rs):=HS.out.below HB.out;rcases HE.out.below HB.out with rfl | ⟨b,off,rfl,hb,hr,hok⟩
  ·simp at hlt
  obtain ⟨t0,t1,t2,t3,t4⟩:=hr k hlt;have Vz:Hid (rows[k].ok wr):=hok rows[k] (TQ hlt);have lg:=(Vj.out rows[k] (TQ hlt)).1;have hk1:=bB k;have hk2:(k:Int) < (rows.length:Int):=by omega
  clear hr hok;obtain ⟨W1,hW1⟩:∃ W1,W1=wr.alloc (.cells #[.int .i64 rows[k].e.kind,.slice rows[k].adA rows[k].e.allow.length rows[k].capA,.string rows[k].e.over,.string rows[k].e.name,.slice rows[k].adK rows[k].e.kids.length rows[k].capK] 39):=⟨_,rfl⟩;have hal:ag wr W1:=by rw [hW1]; exact (TT _ _).alloc (TS _) _
  have UN:=az hal;have UG:=jP HB hal;have hgl:wr.heap.size < W1.heap.size:=by rw [hW1]; simp
  have g0:W1.cell? ⟨wr.heap.size,0,none⟩=some (.int .i64 rows[k].e.kind):=by rw [hW1]; simp
  have g1:W1.cell? ⟨wr.heap.size,1,none⟩=some (.slice rows[k].adA rows[k].e.allow.length rows[k].capA):=by rw [hW1]; simp
  have g2:W1.cell? ⟨wr.heap.size,2,none⟩=some (.string rows[k].e.over):=by rw [hW1]; simp
  have g3:W1.cell? ⟨wr.heap.size,3,none⟩=some (.string rows[k].e.name):=by rw [hW1]; simp
  clear hal;go_wp2_with fail;rw [← hW1];clear hW1;go_loopw [9] (fun i w2=>∃ j:Nat,j≤rows[k].e.allow.length∧i=.int .i64 j∧Hid (nR (ae rs) rows[k].e.allow j=true)∧Hid (ag W1 w2)) (fun i _=>rows[k].e.allow.length - (intOf i).toNat);case atStart=>exact ⟨0,TW _,rfl,zx _ _,TT _ _⟩
  obtain ⟨j,hj,rfl,HJ,HB2⟩:=hrel;have d0:=aG HB2.out hgl g0;have d1:=aG HB2.out hgl g1;have d2:=aG HB2.out hgl g2;have d3:=aG HB2.out hgl g3;clear g0 g1 g2 g3 t0 t1 t2 t3 t4;have Xo:Hid (ag w _):=UG.out.trans (HB2.out.mono UG.out.size);have HS2:Hid (kW _ ad rs):=HS.out.below Xo.out;by_cases hjl:j < rows[k].e.allow.length
  ·have hA2:jM _ rows[k].adA rows[k].e.allow:=((Vz.out.1).below UN.out).below HB2.out;rcases hA2 with hnil | ⟨ba,Wn,Wo,Yl,hra⟩
   ·rw [hnil] at hjl; simp at hjl
   rw [Wo] at d1;obtain ⟨q0,q1⟩:=hra j hjl;have hj1:=bB j;have hj2:(j:Int) < (rows[k].e.allow.length:Int):=by omega
   clear hra Wo;go_wp2_with fail;refine (Ig ad cap rs _ _ hlen (HS2.out.below ((TT _ _).alloc (TS _) _))).mono ?_;rintro e w3 ⟨rfl,rfl⟩;cases hty:lc (ae rs) rows[k].e.allow[j].t;case false=>
    have HN:Hid (aR (ae rs) typ (aj rows)=false):=by
     show _=_;rw [← HP.out,gI _ _ hlt];simp [aR,uH (ae rs) _ j hjl (by simp [pQ,hty])]
    go_wp2;go_ret;exact ⟨by rw [HN.out]; rfl,Xo.out.alloc Xo.out.size _⟩
   cases he:rows[k].e.allow[j].s.toList.isEmpty;case true=>
    have HJ2:Hid (nR (ae rs) rows[k].e.allow (j + 1)=true):=by show _=_; rw [oU _ _ _ hjl,HJ.out]; simp [pQ,hty,he]
    go_wp2;go_roundw;case rel=>exact ⟨j + 1,by omega,by go_num,HJ2,HB2.out.alloc HB2.out.size _⟩
    simp [intOf] <;> omega
   go_wp2_with fail;refine (jd ad cap rs _ _ _ hlen (HS2.out.below ((TT _ _).alloc (TS _) _)) HL.out).mono ?_;rintro e w3 ⟨⟨Vt,ad3,ZZ,rfl,hx3,-,-⟩,rfl⟩;by_cases hz:Vt.length=0
   ·have HN:Hid (aR (ae rs) typ (aj rows)=false):=by
     have h1:aA (ae rs) rows[k].e.allow[j].t rows[k].e.allow[j].s=[]:=by unfold aA; rw [← hx3,Ui.1 hz]; rfl
     show _=_;rw [← HP.out,gI _ _ hlt];simp [aR,uH (ae rs) _ j hjl (by simp [pQ,he,h1])]
    rw [hz];clear hx3;go_wp2;go_ret;exact ⟨by rw [HN.out]; rfl,Xo.out.alloc Xo.out.size _⟩
   have HJ2:Hid (nR (ae rs) rows[k].e.allow (j + 1)=true):=by
    have h1:aA (ae rs) rows[k].e.allow[j].t rows[k].e.allow[j].s ≠ []:=by
     unfold aA;rw [← hx3];intro h2;apply hz;rw [← aT,h2]; rfl
    show _=_;rw [oU _ _ _ hjl,HJ.out]; simp [pQ,hty,h1]
   have hzb:((Vt.length:Int) == 0)=false:=by simp; intro h; apply hz; rw [h]; rfl
   clear hx3;go_wp2;go_roundw;case rel=>exact ⟨j + 1,by omega,by go_num,HJ2,HB2.out.alloc HB2.out.size _⟩
   simp [intOf] <;> omega
  have Xg:Hid (oQ (ae rs) rows[k].e.allow=true):=by
   have:=HJ.out;unfold nR at this;rwa [List.take_of_length_le (by omega)] at this
  by_cases h2:rows[k].e.kind=2
  ·go_wp2_with fail;refine (jd ad cap rs _ _ _ hlen HS2.out HL.out).mono ?_;rintro e w3 ⟨⟨Vt,ad3,ZZ,rfl,hx3,-,-⟩,rfl⟩;by_cases hz:Vt.length=0
   ·have HN:Hid (aR (ae rs) typ (aj rows)=false):=by
     have h1:aA (ae rs) typ rows[k].e.name=[]:=by unfold aA; rw [← hx3,Ui.1 hz]; rfl
     show _=_;rw [← HP.out,gI _ _ hlt];simp [aR,lh,h2,h1]
    rw [hz];clear hx3;go_wp2;go_ret;exact ⟨by rw [HN.out]; rfl,Xo.out⟩
   have UI:Hid (aR (ae rs) typ (aj (rows.drop (k + 1)))=aR (ae rs) typ (aj rows)):=by
    have h1:aA (ae rs) typ rows[k].e.name ≠ []:=by
     unfold aA;rw [← hx3];intro h2;apply hz;rw [← aT,h2]; rfl
    show _=_;rw [← HP.out,gI _ _ hlt];simp [aR,lh,h2,h1,Xg.out]
   have hzb:((Vt.length:Int) == 0)=false:=by simp; intro h; apply hz; rw [h]; rfl
   clear hx3;go_wp2;go_roundw;case rel=>exact ⟨k + 1,by omega,by go_num,UI,Xo⟩
   simp [intOf] <;> omega
  by_cases h3:rows[k].e.kind=3
  ·go_wp2_with fail;refine (jd ad cap rs _ _ _ hlen HS2.out HL.out).mono ?_;rintro e w3 ⟨⟨Vt,ad3,ZZ,rfl,hx3,hs3,hf3⟩,rfl⟩;have hl3:=hf3.light HL.out;go_wp2_with fail;refine (Ec ad3 ZZ Vt _ hl3.1 hs3 hl3.2).mono ?_;rintro e w3 ⟨rfl,rfl⟩;have HX:Hid (aj Vt=aA (ae rs) typ rows[k].e.over):=hx3;clear hx3 hs3 hf3 hl3;rw [HX.out];cases hd:bu (aA (ae rs) typ rows[k].e.over);case false=>
    have HN:Hid (aR (ae rs) typ (aj rows)=false):=by
     show _=_;rw [← HP.out,gI _ _ hlt];simp [aR,lh,h3,hd]
    go_wp2;go_ret;exact ⟨by rw [HN.out]; rfl,Xo.out⟩
   go_wp2_with fail;refine (xz ad cap rs _ _ _ _ hlen HS2.out HL.out).mono ?_;rintro e w4 ⟨⟨ad4,cap4,rfl,-⟩,hb4⟩;have Vi:=jP Xo hb4;clear hb4;by_cases hz:(ig (ae rs) typ rows[k].e.over rows[k].e.name).length=0
   ·have HN:Hid (aR (ae rs) typ (aj rows)=false):=by
     show _=_;rw [← HP.out,gI _ _ hlt];simp [aR,lh,h3,Ui.1 hz]
    rw [hz];go_wp2;go_ret;exact ⟨by rw [HN.out]; rfl,Vi.out⟩
   have UI:Hid (aR (ae rs) typ (aj (rows.drop (k + 1)))=aR (ae rs) typ (aj rows)):=by
    have h1:ig (ae rs) typ rows[k].e.over rows[k].e.name ≠ []:=by intro h; apply hz; rw [h]; rfl
    show _=_;rw [← HP.out,gI _ _ hlt];simp [aR,lh,h3,h1,hd,Xg.out]
   have hzb:(((ig (ae rs) typ rows[k].e.over rows[k].e.name).length:Int) == 0)=false:=by simp; intro h; apply hz; rw [h]; rfl
   go_wp2;go_roundw;case rel=>exact ⟨k + 1,by omega,by go_num,UI,Vi⟩
   simp [intOf] <;> omega
  have UI:Hid (aR (ae rs) typ (aj (rows.drop (k + 1)))=aR (ae rs) typ (aj rows)):=by
   show _=_;rw [← HP.out,gI _ _ hlt];simp [aR,lh,h2,h3,Xg.out]
  have hb2:(rows[k].e.kind == 2)=false:=by simpa using h2
  have hb3:(rows[k].e.kind == 3)=false:=by simpa using h3
  go_wp2;go_roundw;case rel=>exact ⟨k + 1,by omega,by go_num,UI,Xo⟩
  simp [intOf] <;> omega
 have HN:Hid (aR (ae rs) typ (aj rows)=true):=by show _=_; rw [← HP.out,List.drop_of_length_le (by omega)]; rfl
 go_wp2;go_ret;exact ⟨by rw [HN.out]; rfl,HB.out⟩
open Go.Sort
def bn (i:Nat) (kind:Int):List Int→Nat→List Bool→List Bool
 | [],_,out=>out
 | x::xs,k,out=>bn i kind xs (k + 1) (out.set x.toNat (out.getD i false || (kind == 6 && k == 1)))
def dU (es:List Ex):Nat→List Bool→List Bool
 | 0,out=>out
 | i + 1,out=>dU es i (match es[i]? with | none=>out | some e=>bn i e.kind e.kids 0 out)
def dz (es:List Ex):List Bool:=dU es es.length (List.replicate es.length false)
theorem xA (i:Nat) (kind:Int) (xs:List Int) (k:Nat) (out:List Bool):(bn i kind xs k out).length=out.length:=by
 induction xs generalizing k out with
 | nil=>rfl
 | cons x xs ih=>simp [bn,ih]
def bools (xs:List Bool):List Value:=xs.map Value.bool
theorem Fil.set {w wr:af} {g n o:Nat} {xs:List Value} (h:Fil w wr g n xs) (v:Value) (ho:o < xs.length) (hn:o < n):Fil w (wr.setCell ⟨g,o,none⟩ v) g n (xs.set o v) where
 below:=h.below.setCell (p:=⟨g,o,none⟩) h.ge v
 ge:=h.ge
 lt:=by simpa using h.lt
 done j hj:=by
  by_cases e:j=o
  ·subst e;obtain ⟨u,hu⟩:=Option.isSome_iff_exists.mp (h.there j hn);rw [xq hu];simp
  have hj':j < xs.length:=by simpa using hj
  rw [lN (Ne.symm e),h.done j hj',List.getElem_set_ne (Ne.symm e)]
 there j hj:=by
  by_cases e:j=o
  ·subst e;obtain ⟨u,hu⟩:=Option.isSome_iff_exists.mp (h.there j hn);rw [xq hu]; rfl
  rw [lN (Ne.symm e)];exact h.there j hj
 free j:=by simpa using h.free j
theorem Fil.drew {w wr:af} {g n:Nat} {xs:List Value} (h:Fil w wr g n xs):Fil w wr.drew g n xs:=⟨h.below.drew,h.ge,h.lt,h.done,h.there,h.free⟩
theorem Cv {w w0:af} {n:Nat} {base:Nat} {e:TypeId} {v:Value} (h:w0.ownsRow base e 1 (.slice (some ⟨w.heap.size,0,none⟩) n n) n (madeCells #[v] (n * 1)).toList) (hg:w.grownBy w0 none):Fil w w0 w.heap.size n (List.replicate n v) where
 below:=(TT _ _).grown hg (TS _) (fun k hk=>by cases hk)
 ge:=TS _
 lt:=(h.lt w.heap.size rfl).2
 done j hj:=by
  have hj':j < n:=by simpa using hj
  rw [h.cellAt j (by omega),toList_madeCells_one];simp [hj']
 there j hj:=by
  rw [h.cellAt j (by omega),TY (by rw [h.1]; omega)]; rfl
 free j:=h.frozenAt j
theorem zy:(prog.info? 4).map (fun i=>(i.zero,i.size,i.bytes))=some (some (.bool false),1,1):=by kernel_rfl
theorem zz (es:List Ex) (m:Nat) (out:List Bool) (h:m < es.length):dU es (m + 1) out=dU es m (bn m es[m].kind es[m].kids 0 out):=by
 simp [dU,h]
theorem jE (i:Nat) (kind:Int) (ks:List Int) (j:Nat) (out:List Bool) (h:j < ks.length):bn i kind (ks.drop j) j out=bn i kind (ks.drop (j + 1)) (j + 1) (out.set ks[j].toNat (out.getD i false || (kind == 6 && j == 1))):=by
 rw [Un h]; rfl
theorem nV (out:List Bool) (o:Nat) (v:Bool):bools (out.set o v)=(bools out).set o (.bool v):=by simp [bools,List.map_set]
def dV (n:Nat) (ks:List Int):Prop:=∀ x ∈ ks,0≤x∧x < (n:Int)
theorem K7 (ad:Option Addr) (cap:Nat) (rs:List ER) (w:af) (hlen:rs.length≤1048576) (hs:iH w ad rs) (hl:∀ r ∈ rs,r.e.light) (hk:∀ r ∈ rs,dV rs.length r.e.kids) :
  Calls prog 196 #[.slice ad rs.length cap] w fun e w'=>e=.returned (.slice (some ⟨w.heap.size,0,none⟩) rs.length rs.length)∧Fil w w' w.heap.size rs.length (bools (dz (aj rs))):=by
 have HS:=az hs;have HL:=az hl;have HK:=az hk;clear hs hl hk;obtain ⟨inf,hi,hz0,hz1,hz2⟩:=info_parts zy;go_enter func196,ntmps196;go_wp2_with (at_make; refine wpList_make_full _ rfl _ _ 275 rfl w.heap.size 4 inf (.bool false) 1 underlying275 hi hz0 hz1 .i64 .i64 _ _ rs.length rfl rfl rfl rfl (by rw [hz2]; omega) (by unfold maxLen; omega) (TS _) ?_; intro w0 hown0 Vu);have HF0:Hid (Fil w w0 w.heap.size rs.length (bools (List.replicate rs.length false))):=by
  have:=Cv (v:=.bool false) hown0 Vu;show Fil _ _ _ _ _;simpa [bools] using this
 clear hown0 Vu hi hz0 hz1 hz2;go_loopw [4] (fun i wr=>∃ (m:Nat) (out:List Bool),m≤rs.length∧i=.int .i64 ((m:Int) - 1)∧out.length=rs.length∧Hid (dU (aj rs) m out=dz (aj rs))∧Hid (Fil w wr w.heap.size rs.length (bools out))) (fun i _=>(intOf i + 1).toNat);case atStart=>exact ⟨rs.length,List.replicate rs.length false,TS _,by go_num,by simp,(by show _=_; unfold dz; rw [aT]),HF0⟩
 obtain ⟨m,out,hm,rfl,hol,HN,HF⟩:=hrel;by_cases hm0:0 < m
 ·obtain ⟨m,rfl⟩:∃ m',m=m' + 1:=⟨m - 1,by omega⟩;have hmi:(((m + 1:Nat):Int) - 1)=(m:Int):=by omega
  rw [hmi];have hlt:m < rs.length:=by omega
  rcases HS.out.below HF.out.below with rfl | ⟨b,off,rfl,hb,hr,hok⟩
  ·simp at hlt
  obtain ⟨t0,t1,t2,t3,t4⟩:=hr m hlt;have Vz:Hid (rs[m].ok _):=hok rs[m] (TQ hlt);have lg:=(HL.out rs[m] (TQ hlt)).2;have HKI:Hid (dV rs.length rs[m].e.kids):=HK.out rs[m] (TQ hlt);have hk1:=bB m;have hk2:(m:Int) < (rs.length:Int):=by omega
  have hbw:b < w.heap.size:=by
   rcases HS.out with h | ⟨b',off',h1,h2,-⟩
   ·rw [h] at hlt; simp at hlt
   injection h1 with h1; injection h1 with h1; omega
  have HR:Hid (x8 wr b (off + m * 5) rs[m]):=hr m hlt;have HNX:Hid (dU (aj rs) m (bn m rs[m].e.kind rs[m].e.kids 0 out)=dz (aj rs)):=by
   show _=_;rw [← HN.out,zz _ _ _ (by rw [aT]; exact hlt)];simp [aj]
  clear hr hok t0 t1 t2 t3 t4;go_wp2_with fail;go_loopw [5] (fun i w2=>∃ (j:Nat) (UE:List Bool),j≤rs[m].e.kids.length∧i=.int .i64 j∧UE.length=rs.length∧Hid (bn m rs[m].e.kind (rs[m].e.kids.drop j) j UE=bn m rs[m].e.kind rs[m].e.kids 0 out)∧Hid (Fil w w2 w.heap.size rs.length (bools UE))) (fun i _=>rs[m].e.kids.length - (intOf i).toNat);case atStart=>exact ⟨0,out,TW _,rfl,hol,rfl,HF⟩
  obtain ⟨j,UE,hj,rfl,ho2,HJ,VI⟩:=hrel;have hE2:iH wr _ rs:=HS.out.below VI.out.below;have ht:x8 wr b (off + m * 5) rs[m]:=by
   rcases hE2 with h | ⟨b',off',h1,h2,h3,-⟩
   ·exact absurd hlt (by rw [h]; simp)
   injection h1 with h1; injection h1 with h1 h1'; subst h1; subst h1'; exact h3 m hlt
  obtain ⟨t0,t1,t2,t3,t4⟩:=ht;by_cases hjl:j < rs[m].e.kids.length
  ·have hK2:pW wr rs[m].adK rs[m].e.kids:=(hE2.mem (TQ hlt)).2;rcases hK2 with hnil | ⟨ba,Wn,U7,Yl,hra⟩
   ·rw [hnil] at hjl; simp at hjl
   rw [U7] at t4;have q0:=hra j hjl;have hj1:=bB j;have hj2:(j:Int) < (rs[m].e.kids.length:Int):=by omega
   obtain ⟨x0,x1⟩:=HKI.out _ (TQ hjl);obtain ⟨x,hx⟩:∃ x:Nat,rs[m].e.kids[j]=(x:Int):=⟨rs[m].e.kids[j].toNat,by omega⟩;rw [hx] at q0 x0 x1;have c0:=VI.out.done m (by simp [bools]; omega);have fz:=VI.out.free;obtain ⟨v0,u0⟩:=Option.isSome_iff_exists.mp (VI.out.there x (by omega));have hbr:b < wr.heap.size:=TP hbw VI.out.below.size;obtain ⟨bo,hbo⟩:∃ bo,bo=(bools UE)[m]'(by simp [bools]; omega):=⟨_,rfl⟩;rw [← hbo] at c0;clear hra U7 hE2 t1 t2 t3;have hm2:m < UE.length:=by omega
   have Ze:bo=.bool UE[m]:=by rw [hbo]; simp [bools]
   have Zf:UE[m]?.getD false=UE[m]:=by simp [hm2]
   rw [Ze] at c0;clear hbo Ze;have HJ3:Hid (∀ bv,(UE[m] || (rs[m].e.kind == 6 && j == 1))=bv→bn m rs[m].e.kind (rs[m].e.kids.drop (j + 1)) (j + 1) (UE.set x bv)=bn m rs[m].e.kind rs[m].e.kids 0 out):=by
    rintro _ rfl;rw [← HJ.out,jE _ _ _ _ _ hjl,hx];simp [Zf]
   have Wp:Hid (∀ bv d os,Fil w ((grow (redrawn wr d) os).setCell ⟨w.heap.size,x,none⟩ (.bool bv)) w.heap.size rs.length (bools (UE.set x bv))):=by
    intro bv d os;rw [nV];exact (VI.out.later (below_regrown wr d os)).set _ (by simp [bools]; omega) (by omega)
   go_wp2_with fail;replace fz:=fun d os=>(VI.out.later (below_regrown wr d os)).free;replace t0:=cell_regrown t0;replace t4:=cell_regrown t4;replace q0:=cell_regrown q0;replace c0:=cell_regrown c0;replace u0:=cell_regrown u0;clear Zf;cases hb0:UE[m] <;> cases hkb:(rs[m].e.kind == 6) <;> cases hjb:((j:Int) == 1)
   all_goals
    have hjn:(j == 1)=_:=(by rw [Bool.eq_iff_iff]; simp; omega:(j == 1)=((j:Int) == 1)).trans hjb;rw [hb0] at c0;have HJ4:=pU (HJ3.out _ (by rw [hb0,hkb,hjn]));refine pV 26 1 (by kernel_rfl) (by rfl) (by kernel_rfl) ?_;simp only [List.take_succ_cons,List.take_zero]
    repeat (go_big_quiet_step (fail))
    refine wpQuiet_nil ?_;rintro _ ⟨⟨dq,osq⟩,rfl⟩;refine wpOp_step rfl (fun K hK=>?_);replace hK:=pU hK;go_simp;refine hK.out _ _ ?_;clear hK;unfold nH;go_wp2;go_roundw;case rel=>exact ⟨j + 1,_,by omega,by go_num,by simp [ho2],HJ4,Wp.out _ _ _⟩
    simp [intOf] <;> omega
  have Xp:Hid (dU (aj rs) m UE=dz (aj rs)):=by
   show _=_;rw [← HNX.out,← HJ.out,List.drop_of_length_le (by omega)];rfl
  go_wp2;go_roundw;case rel=>exact ⟨m,UE,by omega,by go_num,ho2,Xp,VI⟩
  simp [intOf] <;> omega
 obtain rfl:m=0:=by omega
 have WH:Hid (Fil w wr w.heap.size rs.length (bools (dz (aj rs)))):=by
  show Fil _ _ _ _ _;rw [← HN.out];exact HF.out
 go_wp2;go_ret;exact ⟨rfl,WH.out⟩
structure St where
 typ:ByteArray
 rel:ByteArray
 n:Int
def S9 (w:World) (b off:Nat) (s:St):Prop:=w.cell? ⟨b,off,none⟩=some (.string s.typ)∧w.cell? ⟨b,off + 1,none⟩=some (.string s.rel)∧w.cell? ⟨b,off + 2,none⟩=some (.int .i64 s.n)
def Ik (w:World) (ad:Option Addr) (xs:List St):Prop:=xs=[] ∨ ∃ b off,ad=some ⟨b,off,none⟩∧b < w.heap.size∧∀ (i:Nat) (h:i < xs.length),S9 w b (off + i * 3) xs[i]
theorem Ik.below {w w':af} {ad:Option Addr} {xs:List St} (h:Ik w ad xs) (hB:ag w w'):Ik w' ad xs:=by
 rcases h with h | ⟨b,off,e,hb,hr⟩
 ·exact .inl h
 refine .inr ⟨b,off,e,TP hb hB.size,fun i hi=>?_⟩;obtain ⟨h0,h1,h2⟩:=hr i hi;exact ⟨aG hB hb h0,aG hB hb h1,aG hB hb h2⟩
def zB (s:St) (typ rel:ByteArray):Bool:=(s.typ.toList == typ.toList) && (s.rel.toList == rel.toList)
def gP (typ rel:ByteArray):List St→Nat→Int
 | [],_=>-1
 | s::xs,k=>if zB s typ rel then (k:Int) else gP typ rel xs (k + 1)
theorem qy (typ rel:bF) (xs:List St) (k:Nat) (h:k < xs.length):gP typ rel (xs.drop k) k=if zB xs[k] typ rel then (k:Int) else gP typ rel (xs.drop (k + 1)) (k + 1):=by
 rw [Un h]; rfl
theorem NW (ad:Option Addr) (cap:Nat) (xs:List St) (typ rel:bF) (w:af) (hlen:xs.length≤1048576) (hs:Ik w ad xs) :
  Calls prog 140 #[.slice ad xs.length cap,.string typ,.string rel] w fun e w'=>e=.returned (.int .i64 (gP typ rel xs 0))∧w'=w:=by
 go_enter func140,ntmps140;go_wp2;go_loopw [7] (fun i wr=>∃ k:Nat,k≤xs.length∧i=.int .i64 k∧Hid (gP typ rel (xs.drop k) k=gP typ rel xs 0)∧wr=w) (fun i _=>xs.length - (intOf i).toNat);case atStart=>exact ⟨0,TW _,rfl,rfl,rfl⟩
 obtain ⟨k,hk,rfl,HP,rfl⟩:=hrel;by_cases hlt:k < xs.length
 ·rcases hs with rfl | ⟨b,off,rfl,hb,hr⟩
  ·simp at hlt
  obtain ⟨t0,t1,t2⟩:=hr k hlt;have hk1:=bB k;have hk2:(k:Int) < (xs.length:Int):=by omega
  clear hr;cases hq:(xs[k].typ.toList == typ.toList);case true=>
   cases hp:(xs[k].rel.toList == rel.toList);case true=>
    have HN:Hid (gP typ rel xs 0=(k:Int)):=by show _=_; rw [← HP.out,qy _ _ _ _ hlt]; simp [zB,hq,hp]
    go_wp2;go_ret;exact ⟨by rw [HN.out]; rfl,rfl⟩
   have UI:Hid (gP typ rel (xs.drop (k + 1)) (k + 1)=gP typ rel xs 0):=by show _=_; rw [← HP.out,qy _ _ _ _ hlt]; simp [zB,hq,hp]
   go_wp2;go_roundw;case rel=>exact ⟨k + 1,by omega,by go_num,UI,by first | rfl | trivial⟩
   simp [intOf] <;> omega
  have UI:Hid (gP typ rel (xs.drop (k + 1)) (k + 1)=gP typ rel xs 0):=by show _=_; rw [← HP.out,qy _ _ _ _ hlt]; simp [zB,hq]
  go_wp2;go_roundw;case rel=>exact ⟨k + 1,by omega,by go_num,UI,by first | rfl | trivial⟩
  simp [intOf] <;> omega
 have HN:Hid (gP typ rel xs 0=-1):=by show _=_; rw [← HP.out,List.drop_of_length_le (by omega)]; rfl
 go_wp2;go_ret;exact ⟨by rw [HN.out]; rfl,rfl⟩
structure Dp where
 typ:ByteArray
 rel:ByteArray
 neg:Bool
def Dp.cells (d:Dp):List Value:=[.string d.typ,.string d.rel,.bool d.neg]
def eu:List Dp→List Value
 | []=>[]
 | d::ds=>d.cells ++ eu ds
theorem Ed (xs ys:List Dp):eu (xs ++ ys)=eu xs ++ eu ys:=by
 induction xs with
 | nil=>rfl
 | cons d ds ih=>simp [eu,ih]
theorem sV (xs:List Dp) (d:Dp):eu (xs ++ [d])=eu xs ++ d.cells:=by rw [Ed]; simp [eu]
def df (neg:Bool):List Al→List Dp
 | []=>[]
 | a::xs=>if a.s.toList.isEmpty then df neg xs else ⟨a.t,a.s,neg⟩::df neg xs
def kM (ts:List Ty) (typ:ByteArray) (neg:Bool) (e:Ex):List Dp :=
 if e.kind=2 then [⟨typ,e.name,neg⟩] else if e.kind=3 then (ig ts typ e.over e.name).map fun g=>⟨g,e.name,neg⟩ else []
def ik (ts:List Ty) (typ:ByteArray) (es:List Ex) (k:Nat):List Dp :=
 match es[k]? with
 | none=>[]
 | some e=>df ((dz es).getD k false) e.allow ++ kM ts typ ((dz es).getD k false) e
def aN (ts:List Ty) (typ:ByteArray) (es:List Ex):Nat→List Dp
 | 0=>[]
 | k + 1=>aN ts typ es k ++ ik ts typ es k
def pR (ts:List Ty) (typ:ByteArray) (es:List Ex):List Dp:=aN ts typ es es.length
theorem uI (neg:Bool) (xs ys:List Al):df neg (xs ++ ys)=df neg xs ++ df neg ys:=by
 induction xs with
 | nil=>rfl
 | cons a xs ih=>simp only [List.cons_append,df,ih]; split <;> simp
theorem NY (neg:Bool) (xs:List Al) (k:Nat) (h:k < xs.length) (he:xs[k].s.toList.isEmpty=true):df neg (xs.take (k + 1))=df neg (xs.take k):=by
 rw [TV h,uI]; simp [df] at he ⊢; simp [he]
theorem K8 (neg:Bool) (xs:List Al) (k:Nat) (h:k < xs.length) (he:xs[k].s.toList.isEmpty=false):df neg (xs.take (k + 1))=df neg (xs.take k) ++ [⟨xs[k].t,xs[k].s,neg⟩]:=by
 rw [TV h,uI]; simp [df,he]
theorem Cw (neg:Bool) (xs:List Al):(df neg xs).length≤xs.length:=by
 induction xs with
 | nil=>simp [df]
 | cons a xs ih=>simp only [df]; split <;> simp <;> omega
theorem NZ:(prog.info? 220).map (fun i=>(i.zero,i.size,i.bytes))=some (some (.agg #[.string ⟨#[]⟩,.string ⟨#[]⟩,.bool false]),3,40):=by kernel_rfl
end Go.Proofs.YtajkkeikihhejaaGreat
