/- Contracts of the document's functions that look a type, a relation, and whom it allows up in a schema. -/
import Derived.Test.YtajkkeikihhejaaGreatSq
import Derived.Test.YtajkkeikihhejaaGreatJ2
import Derived.OwnWalk
import Derived.Maps.AppendAt
open Go.Proofs.Tryz
set_option maxHeartbeats 80000000
namespace Go.Proofs.YtajkkeikihhejaaGreat
open Go.ChangeShapes Go.WideShapes Go.ChangeAt Go.RowKit
open Pl
def jO:List Rl→ByteArray→Option (List Ex)
 | [],_=>none
 | r::rs,n=>if r.name.toList == n.toList then some r.expr else jO rs n
def fI:List Ty→ByteArray→ByteArray→Option (List Ex)
 | [],_,_=>none
 | t::ts,ty,n=>if t.name.toList == ty.toList then (jO t.rels n).or (fI ts ty n) else fI ts ty n
def lc:List Ty→ByteArray→Bool
 | [],_=>false
 | t::ts,ty=>(t.name.toList == ty.toList) || lc ts ty
theorem nR (rs:List TR) (k:Nat) (h:k < rs.length):ae (rs.drop k)=⟨rs[k].name,eD rs[k].rows⟩::ae (rs.drop (k + 1)):=by
 rw [Un h]; rfl
theorem FN (rs:List RR) (k:Nat) (h:k < rs.length):eD (rs.drop k)=⟨rs[k].name,aj rs[k].rows⟩::eD (rs.drop (k + 1)):=by
 rw [Un h]; rfl
theorem Il (ad:Option Addr) (cap:Nat) (rs:List TR) (typ:bH) (w:af) (hlen:rs.length≤1048576) (hs:kW w ad rs) :
  Calls prog 192 #[.slice ad rs.length cap,.string typ] w fun e w'=>e=.returned (.bool (lc (ae rs) typ))∧w'=w:=by
 go_enter func192,ntmps192;go_wp2;go_loopw [5] (fun i wr=>∃ k:Nat,k≤rs.length∧i=.int .i64 k∧Hid (lc (ae (rs.drop k)) typ=lc (ae rs) typ)∧wr=w) (fun i _=>rs.length - (intOf i).toNat);case atStart=>exact ⟨0,TW _,rfl,rfl,rfl⟩
 obtain ⟨k,hk,rfl,HP,rfl⟩:=hrel;by_cases hlt:k < rs.length
 ·rcases hs with rfl | ⟨b,off,rfl,hb,hr,hok⟩
  ·simp at hlt
  obtain ⟨t0,t1⟩:=hr k hlt;have hk1:=bB k;have hk2:(k:Int) < (rs.length:Int):=by omega
  clear hr hok;cases hq:(rs[k].name.toList == typ.toList);case true=>
   have HN:Hid (lc (ae rs) typ=true):=by show _=_; rw [← HP.out,nR _ _ hlt]; simp [lc,hq]
   go_wp2;go_ret;exact ⟨by rw [HN.out]; rfl,rfl⟩
  have UI:Hid (lc (ae (rs.drop (k + 1))) typ=lc (ae rs) typ):=by show _=_; rw [← HP.out,nR _ _ hlt]; simp [lc,hq]
  go_wp2;go_roundw;case rel=>exact ⟨k + 1,by omega,by go_num,UI,by first | rfl | trivial⟩
  simp [intOf] <;> omega
 have HN:Hid (lc (ae rs) typ=false):=by show _=_; rw [← HP.out,List.drop_of_length_le (by omega)]; rfl
 go_wp2;go_ret;exact ⟨by rw [HN.out]; rfl,rfl⟩
def pO (rs:List TR) (ad:Option Addr) (rows:List ER):Prop:=rows=[] ∨ ∃ t ∈ rs,∃ q ∈ t.rows,rows=q.rows∧ad=q.ad
theorem M8.mem {w:af} {ad:Option Addr} {rs:List RR} (h:M8 w ad rs) {q:RR} (hq:q ∈ rs):q.ok w:=by
 rcases h with rfl | ⟨b,off,e,hb,hr,hk⟩
 ·cases hq
 exact hk q hq
theorem kW.mem {w:af} {ad:Option Addr} {rs:List TR} (h:kW w ad rs) {q:TR} (hq:q ∈ rs):q.ok w:=by
 rcases h with rfl | ⟨b,off,e,hb,hr,hk⟩
 ·cases hq
 exact hk q hq
theorem pO.sl {rs:List TR} {ad ad0:Option Addr} {rows:List ER} {w:af} (h:pO rs ad rows) (hs:kW w ad0 rs):iH w ad rows:=by
 rcases h with rfl | ⟨t,ht,q,hq,rfl,rfl⟩
 ·exact .inl rfl
 exact M8.mem (hs.mem ht) hq
theorem jd (ad:Option Addr) (cap:Nat) (rs:List TR) (typ rel:bH) (w:af) (hlen:rs.length≤1048576) (hs:kW w ad rs) (hl:∀ r ∈ rs,r.light) :
  Calls prog 97 #[.slice ad rs.length cap,.string typ,.string rel] w fun e w'=>(∃ (rows:List ER) (UJ:Option Addr) (cap':Nat),e=.returned (.slice UJ rows.length cap')∧aj rows=(fI (ae rs) typ rel).getD []∧iH w UJ rows∧pO rs UJ rows)∧w'=w:=by
 have HS:=az hs;have HL:=az hl;clear hs hl;go_enter func97,ntmps97;go_wp2;go_loopw [7] (fun i wr=>∃ k:Nat,k≤rs.length∧i=.int .i64 k∧Hid (fI (ae (rs.drop k)) typ rel=fI (ae rs) typ rel)∧wr=w) (fun i _=>rs.length - (intOf i).toNat);case atStart=>exact ⟨0,TW _,rfl,rfl,rfl⟩
 obtain ⟨k,hk,rfl,HP,rfl⟩:=hrel;by_cases hlt:k < rs.length
 ·rcases HS.out with rfl | ⟨b,off,rfl,hb,hr,hok⟩
  ·simp at hlt
  obtain ⟨t0,t1⟩:=hr k hlt;have ok:=hok rs[k] (TQ hlt);have lg:=(HL.out rs[k] (TQ hlt)).1;have Vz:=az ok;have hk1:=bB k;have hk2:(k:Int) < (rs.length:Int):=by omega
  clear hr hok ok;cases hq:(rs[k].name.toList == typ.toList);case false=>
   have UI:Hid (fI (ae (rs.drop (k + 1))) typ rel=fI (ae rs) typ rel):=by show _=_; rw [← HP.out,nR _ _ hlt]; simp [fI,hq]
   go_wp2_with fail;go_loopw [8] (fun i w2=>i=.int .i64 0∧w2=wr) (fun i _=>(intOf i).toNat);case atStart=>exact ⟨rfl,rfl⟩
   obtain ⟨rfl,rfl⟩:=hrel;go_wp2;go_roundw;case rel=>exact ⟨k + 1,by omega,by go_num,UI,by first | rfl | trivial⟩
   simp [intOf] <;> omega
  go_wp2_with fail;go_loopw [8] (fun i w2=>∃ j:Nat,j≤rs[k].rows.length∧i=.int .i64 j∧Hid (jO (eD (rs[k].rows.drop j)) rel=jO (eD rs[k].rows) rel)∧w2=wr) (fun i _=>rs[k].rows.length - (intOf i).toNat);case atStart=>exact ⟨0,TW _,rfl,rfl,rfl⟩
  obtain ⟨j,hj,rfl,HI,rfl⟩:=hrel;by_cases hjl:j < rs[k].rows.length
  ·rcases Vz.out with hnil | ⟨b2,UZ,had,hb2,hr2,hok2⟩
   ·rw [hnil] at hjl; simp at hjl
   have t1':=t1;rw [had] at t1';obtain ⟨q0,q1⟩:=hr2 j hjl;have HOQ:Hid (rs[k].rows[j].ok _):=hok2 rs[k].rows[j] (TQ hjl);have hj1:=bB j;have hj2:(j:Int) < (rs[k].rows.length:Int):=by omega
   clear hr2 hok2 had t1;cases hn:(rs[k].rows[j].name.toList == rel.toList);case true=>
    have HN:Hid (aj rs[k].rows[j].rows=(fI (ae rs) typ rel).getD []):=by
     have h1:jO (eD rs[k].rows) rel=some (aj rs[k].rows[j].rows):=by rw [← HI.out,FN _ _ hjl]; simp [jO,hn]
     show _=_;rw [← HP.out,nR _ _ hlt];simp [fI,hq,h1]
    have HFS:Hid (pO rs rs[k].rows[j].ad rs[k].rows[j].rows):=.inr ⟨rs[k],TQ hlt,rs[k].rows[j],TQ hjl,rfl,rfl⟩;go_wp2;go_ret;exact ⟨⟨rs[k].rows[j].rows,_,_,rfl,HN.out,HOQ.out,HFS.out⟩,rfl⟩
   have HI2:Hid (jO (eD (rs[k].rows.drop (j + 1))) rel=jO (eD rs[k].rows) rel):=by show _=_; rw [← HI.out,FN _ _ hjl]; simp [jO,hn]
   go_wp2;go_roundw;case rel=>exact ⟨j + 1,by omega,by go_num,HI2,by first | rfl | trivial⟩
   simp [intOf] <;> omega
  have UI:Hid (fI (ae (rs.drop (k + 1))) typ rel=fI (ae rs) typ rel):=by
   have h1:jO (eD rs[k].rows) rel=none:=by rw [← HI.out,List.drop_of_length_le (by omega)]; rfl
   show _=_;rw [← HP.out,nR _ _ hlt];simp [fI,hq,h1]
  go_wp2;go_roundw;case rel=>exact ⟨k + 1,by omega,by go_num,UI,by first | rfl | trivial⟩
  simp [intOf] <;> omega
 have HN:Hid (aj []=(fI (ae rs) typ rel).getD []):=by show _=_; rw [← HP.out,List.drop_of_length_le (by omega)]; rfl
 go_wp2;go_ret;exact ⟨⟨[],none,0,rfl,HN.out,.inl rfl,.inl rfl⟩,rfl⟩
def aU:List Ex→List Al
 | []=>[]
 | e::es=>if e.kind=1 then e.allow else aU es
theorem gI (rs:List ER) (k:Nat) (h:k < rs.length):aj (rs.drop k)=rs[k].e::aj (rs.drop (k + 1)):=by
 rw [Un h]; rfl
def N7 (rs:List ER) (ad:Option Addr) (xs:List Al):Prop:=xs=[] ∨ ∃ r ∈ rs,xs=r.e.allow∧ad=r.adA
theorem iH.mem {w:af} {ad:Option Addr} {rs:List ER} (h:iH w ad rs) {q:ER} (hq:q ∈ rs):q.ok w:=by
 rcases h with rfl | ⟨b,off,e,hb,hr,hk⟩
 ·cases hq
 exact hk q hq
theorem N7.sl {rs:List ER} {ad ad0:Option Addr} {xs:List Al} {w:af} (h:N7 rs ad xs) (hs:iH w ad0 rs):jN w ad xs:=by
 rcases h with rfl | ⟨r,hr,rfl,rfl⟩
 ·exact .inl rfl
 exact (hs.mem hr).1
theorem xy (ad:Option Addr) (cap:Nat) (rs:List ER) (w:af) (hlen:rs.length≤1048576) (hs:iH w ad rs) :
  Calls prog 138 #[.slice ad rs.length cap] w fun e w'=>(∃ (UJ:Option Addr) (cap':Nat),e=.returned (.slice UJ (aU (aj rs)).length cap')∧jN w UJ (aU (aj rs))∧N7 rs UJ (aU (aj rs)))∧w'=w:=by
 have HS:=az hs;clear hs;go_enter func138,ntmps138;go_wp2;go_loopw [3] (fun i wr=>∃ k:Nat,k≤rs.length∧i=.int .i64 k∧Hid (aU (aj (rs.drop k))=aU (aj rs))∧wr=w) (fun i _=>rs.length - (intOf i).toNat);case atStart=>exact ⟨0,TW _,rfl,rfl,rfl⟩
 obtain ⟨k,hk,rfl,HP,rfl⟩:=hrel;by_cases hlt:k < rs.length
 ·rcases HS.out with rfl | ⟨b,off,rfl,hb,hr,hok⟩
  ·simp at hlt
  obtain ⟨t0,t1,t2,t3,t4⟩:=hr k hlt;have Vz:Hid (rs[k].ok _):=hok rs[k] (TQ hlt);have hk1:=bB k;have hk2:(k:Int) < (rs.length:Int):=by omega
  clear hr hok;by_cases hq:rs[k].e.kind=1
  ·have HN:Hid (aU (aj rs)=rs[k].e.allow):=by show _=_; rw [← HP.out,gI _ _ hlt]; simp [aU,hq]
   go_wp2;go_ret;exact ⟨⟨rs[k].adA,rs[k].capA,by rw [HN.out]; rfl,by rw [HN.out]; exact Vz.out.1,.inr ⟨rs[k],TQ hlt,HN.out,rfl⟩⟩,rfl⟩
  have UI:Hid (aU (aj (rs.drop (k + 1)))=aU (aj rs)):=by show _=_; rw [← HP.out,gI _ _ hlt]; simp [aU,hq]
  have YX:(rs[k].e.kind == 1)=false:=by simpa using hq
  go_wp2;go_roundw;case rel=>exact ⟨k + 1,by omega,by go_num,UI,by first | rfl | trivial⟩
  simp [intOf] <;> omega
 have HN:Hid (aU (aj rs)=[]):=by show _=_; rw [← HP.out,List.drop_of_length_le (by omega)]; rfl
 go_wp2;go_ret;exact ⟨⟨none,0,by rw [HN.out]; rfl,by rw [HN.out]; exact .inl rfl,.inl HN.out⟩,rfl⟩
def bu:List Ex→Bool
 | [e]=>decide (e.kind=1) && e.allow.all fun a=>a.s.toList.isEmpty
 | _=>false
def zz (xs:List Al) (k:Nat):Bool:=(xs.take k).all fun a=>a.s.toList.isEmpty
theorem Im (xs:List Al) (k:Nat) (h:k < xs.length):zz xs (k + 1)=(zz xs k && xs[k].s.toList.isEmpty):=by
 unfold zz; rw [TV h,List.all_append]; simp
theorem K9 (xs:List Al) (k:Nat) (h:k < xs.length) (hb:xs[k].s.toList.isEmpty=false):(xs.all fun a=>a.s.toList.isEmpty)=false:=by
 rw [Bool.eq_false_iff]; intro h2; rw [Ub] at h2; have:=h2 xs[k] (TQ h); rw [hb] at this; cases this
theorem Ec (ad:Option Addr) (cap:Nat) (rs:List ER) (w:af) (hlen:rs.length≤1048576) (hs:iH w ad rs) (hl:∀ r ∈ rs,r.e.light) :
  Calls prog 193 #[.slice ad rs.length cap] w fun e w'=>e=.returned (.bool (bu (aj rs)))∧w'=w:=by
 by_cases h1:rs.length=1
 ·obtain ⟨r,rfl⟩:∃ r,rs=[r]:=List.length_eq_one_iff.1 h1;rcases hs with h | ⟨b,off,rfl,hb,hr,hok⟩
  ·cases h
  obtain ⟨t0,t1,t2,t3,t4⟩:=hr 0 (by simp);simp only [Nat.zero_mul,Nat.add_zero,List.getElem_cons_zero] at t0 t1 t2 t3 t4;have Vz:Hid (r.ok w):=hok r (by simp);obtain ⟨lg,-⟩:=hl r (by simp);clear hr hok h1;simp only [List.length_cons,List.length_nil,Um];by_cases hq:r.e.kind=1
  ·have HD:Hid (bu (aj [r])=r.e.allow.all fun a=>a.s.toList.isEmpty):=by show _=_; simp [bu,aj,hq]
   go_enter func193,ntmps193;go_wp2;go_loopw [3] (fun i wr=>∃ k:Nat,k≤r.e.allow.length∧i=.int .i64 k∧Hid (zz r.e.allow k=true)∧wr=w) (fun i _=>r.e.allow.length - (intOf i).toNat);case atStart=>exact ⟨0,TW _,rfl,(by show _=_; simp [zz]),rfl⟩
   obtain ⟨k,hk,rfl,HP,rfl⟩:=hrel;by_cases hlt:k < r.e.allow.length
   ·rcases Vz.out.1 with hnil | ⟨ba,Wp,Wq,Yl,hra⟩
    ·rw [hnil] at hlt; simp at hlt
    have t1':=t1;rw [Wq] at t1';obtain ⟨q0,q1⟩:=hra k hlt;have hk1:=bB k;have hk2:(k:Int) < (r.e.allow.length:Int):=by omega
    clear hra Wq t1;cases he:r.e.allow[k].s.toList.isEmpty;case true=>
     have UI:Hid (zz r.e.allow (k + 1)=true):=by show _=_; rw [Im _ _ hlt,HP.out,he]; rfl
     go_wp2;go_roundw;case rel=>exact ⟨k + 1,by omega,by go_num,UI,by first | rfl | trivial⟩
     simp [intOf] <;> omega
    have HN:Hid (bu (aj [r])=false):=by show _=_; rw [HD.out]; exact K9 _ k hlt he
    go_wp2;go_ret;exact ⟨by rw [HN.out]; rfl,rfl⟩
   have HN:Hid (bu (aj [r])=true):=by
    show _=_;rw [HD.out];have:=HP.out;unfold zz at this;rwa [List.take_of_length_le (by omega)] at this
   go_wp2;go_ret;exact ⟨by rw [HN.out]; rfl,rfl⟩
  have HN:Hid (bu (aj [r])=false):=by show _=_; simp [bu,aj,hq]
  have YX:(r.e.kind != 1)=true:=by simpa using hq
  go_enter func193,ntmps193;go_wp2;go_ret;exact ⟨by rw [HN.out]; rfl,rfl⟩
 have HN:Hid (bu (aj rs)=false):=by
  show _=_
  match rs,h1 with
  | [],_=>rfl
  | [r],h=>exact absurd rfl h
  | a::b::r,_=>rfl
 have h1':((rs.length:Int) != 1)=true:=by simp; omega
 go_enter func193,ntmps193;go_wp2;go_ret;exact ⟨by rw [HN.out]; rfl,rfl⟩
def aA (ts:List Ty) (ty n:ByteArray):List Ex:=(fI ts ty n).getD []
def gl (ts:List Ty) (rel:ByteArray):List Al→List ByteArray
 | []=>[]
 | a::xs=>if (aA ts a.t rel).isEmpty then gl ts rel xs else a.t::gl ts rel xs
def ig (ts:List Ty) (ty over rel:ByteArray):List ByteArray:=gl ts rel (aU (aA ts ty over))
theorem Cw (ts:List Ty) (rel:bH) (xs ys:List Al):gl ts rel (xs ++ ys)=gl ts rel xs ++ gl ts rel ys:=by
 induction xs with
 | nil=>rfl
 | cons a xs ih=>simp only [List.cons_append,gl,ih]; split <;> simp
theorem Ru (ts:List Ty) (rel:bH) (xs:List Al) (k:Nat) (h:k < xs.length) (he:aA ts xs[k].t rel=[]):gl ts rel (xs.take (k + 1))=gl ts rel (xs.take k):=by
 rw [TV h,Cw]; simp [gl,he]
theorem N8 (ts:List Ty) (rel:bH) (xs:List Al) (k:Nat) (h:k < xs.length) (he:aA ts xs[k].t rel ≠ []):gl ts rel (xs.take (k + 1))=gl ts rel (xs.take k) ++ [xs[k].t]:=by
 rw [TV h,Cw]; simp [gl,he]
theorem Io (ts:List Ty) (rel:bH) (xs:List Al):(gl ts rel xs).length≤xs.length:=by
 induction xs with
 | nil=>simp [gl]
 | cons a xs ih=>simp only [gl]; split <;> simp <;> omega
theorem La:(prog.info? 9).map (fun i=>(i.zero,i.size,i.bytes))=some (some (.string ⟨#[]⟩),1,16):=by kernel_rfl
def qy (xs:List ByteArray):List Value:=xs.map Value.string
def Sg (w:World) (ad:Option Addr) (xs:List ByteArray):Prop:=xs=[] ∨ ∃ b off,ad=some ⟨b,off,none⟩∧b < w.heap.size∧∀ (i:Nat) (h:i < xs.length),w.cell? ⟨b,off + i,none⟩=some (.string xs[i])
theorem Sg.below {w w':af} {ad:Option Addr} {xs:List ByteArray} (h:Sg w ad xs) (hB:ag w w'):Sg w' ad xs:=by
 rcases h with h | ⟨b,off,e,hb,hr⟩
 ·exact .inl h
 exact .inr ⟨b,off,e,TP hb hB.size,fun i hi=>(hB.cell (p:=⟨b,off + i,none⟩) hb).trans (hr i hi)⟩
theorem N9 {w:af} {base k:Nat} {v:Value} {xs:List ByteArray} (h:w.ownsRow base 9 1 v k (qy xs)):∃ ad cp,v=.slice ad xs.length cp∧Sg w ad xs∧∀ p,ad=some p→base≤p.block:=by
 have hl:xs.length=k:=by have:=h.1; simpa [qy] using this
 have h2:=h;rcases h.2 with ⟨rfl,h0⟩ | ⟨g,cp,cur,rfl,hbg,hg,hnc,-⟩
 ·refine ⟨none,0,?_,.inl (Ui.1 (by omega)),fun p hp=>by cases hp⟩;rw [hl,h0]
 have hlt:=h2.lt g rfl;refine ⟨_,cp,by rw [hl],.inr ⟨g,0,rfl,hlt.2,fun j hj=>?_⟩,fun p hp=>by injection hp with hp; rw [← hp]; exact hlt.1⟩;have:=h2.cells (g:=g) rfl j (.string xs[j]) (by simp [qy,hj]);rw [Um];have e:(⟨g,0,none⟩:Addr).add j=⟨g,j,none⟩:=by
  unfold Addr.add;by_cases hj:j=0
  ·subst hj; simp
  simp [hj]
 rwa [e] at this
theorem pO.light {rs:List TR} {ad:Option Addr} {rows:List ER} (h:pO rs ad rows) (hl:∀ r ∈ rs,r.light):rows.length≤1048576∧∀ q ∈ rows,q.e.light:=by
 rcases h with rfl | ⟨t,ht,q,hq,rfl,-⟩
 ·exact ⟨by simp,by simp⟩
 exact (hl t ht).2 q hq
theorem zB (rows:List ER) (hl:∀ q ∈ rows,q.e.light):(aU (aj rows)).length≤1048576:=by
 induction rows with
 | nil=>simp [aj,aU]
 | cons r rows ih =>
  have e:aj (r::rows)=r.e::aj rows:=rfl;rw [e];simp only [aU];split
  ·exact (hl r (by simp)).1
  exact ih fun q hq=>hl q (by simp [hq])
set_option maxRecDepth 100000 in
theorem xz (ad:Option Addr) (cap:Nat) (rs:List TR) (typ over rel:bH) (w:af) (hlen:rs.length≤1048576) (hs:kW w ad rs) (hl:∀ r ∈ rs,r.light) :
  Calls prog 194 #[.slice ad rs.length cap,.string typ,.string over,.string rel] w fun e w'=>(∃ (UJ:Option Addr) (cap':Nat),e=.returned (.slice UJ (ig (ae rs) typ over rel).length cap')∧Sg w' UJ (ig (ae rs) typ over rel)∧∀ p,UJ=some p→w.heap.size≤p.block)∧ag w w':=by
 have HS:=az hs;have HL:=az hl;clear hs hl;obtain ⟨i0,hi,hz0,hz1,hz2⟩:=info_parts La;go_enter func194,ntmps194;go_wp2_with fail;have Ze:ag w (w.alloc (.cells #[] 9)):=(TT _ _).alloc (TS _) _;have hown1:(w.alloc (.cells #[] 9)).ownsRow w.heap.size 9 1 (.slice (some ⟨w.heap.size,0,none⟩) 0 0) 0 []:=World.ownsRow_made w #[] 0 (TS _) (by decide) rfl;refine (jd ad cap rs typ over _ hlen (HS.out.below Ze) HL.out).mono ?_;rintro e w1 ⟨⟨rows,ad1,cap1,rfl,hx1,hs1,hf1⟩,rfl⟩;have hl1:=hf1.light HL.out;have hal:=zB rows hl1.2;go_wp2_with fail;refine (xy ad1 cap1 rows _ hl1.1 hs1).mono ?_;rintro e w1 ⟨⟨ad2,cap2,rfl,-,hf2⟩,rfl⟩;have HG:Hid (ig (ae rs) typ over rel=gl (ae rs) rel (aU (aj rows))):=by show _=_; rw [hx1]; rfl
 have HA:Hid (jN w ad2 (aU (aj rows))):=hf2.sl (hf1.sl HS.out);generalize aU (aj rows)=xs at *
 clear hs1 hx1 hf1 hl1 hf2;have HBA:=az Ze;have UV:=az hown1;clear Ze hown1;obtain ⟨wA,hwA⟩:∃ wA,wA=w.alloc (.cells #[] 9):=⟨_,rfl⟩;rw [← hwA] at HBA UV ⊢;clear hwA;go_wp2_with fail;go_loopw [9,11] (fun v i wr=>∃ k:Nat,k≤xs.length∧i=.int .i64 k∧wr.ownsRow w.heap.size 9 1 v (gl (ae rs) rel (xs.take k)).length (qy (gl (ae rs) rel (xs.take k)))∧ag w wr) (fun _ i _=>xs.length - (intOf i).toNat);case atStart=>exact ⟨0,TW _,rfl,by simpa [qy,gl] using UV.out,HBA.out⟩
 obtain ⟨k,hk,rfl,hown,hB⟩:=hrel;by_cases hlt:k < xs.length
 ·have HST:Hid (kW _ ad rs):=HS.out.below hB;rcases HA.out.below hB with rfl | ⟨b,off,rfl,hb,hr⟩
  ·simp at hlt
  obtain ⟨t0,t1⟩:=hr k hlt;have hBs:=hB.size;have hgl:=Io (ae rs) rel (xs.take k);rw [Ut] at hgl;have HBH:=az hB;have HOW:Hid (wr.ownsRow w.heap.size 9 1 _ _ _):=hown;clear hr hB hown;go_wp2_with fail;refine (jd ad cap rs xs[k].t rel _ hlen HST.out HL.out).mono ?_;rintro e w1 ⟨⟨Vt,ad3,ZZ,rfl,hx3,-,-⟩,rfl⟩;by_cases hz:Vt.length=0
  ·have HE:Hid (gl (ae rs) rel (xs.take (k + 1))=gl (ae rs) rel (xs.take k)):=by
    refine Ru _ _ _ _ hlt ?_;show _=_;unfold aA;rw [← hx3,Ui.1 hz]; rfl
   rw [hz];clear hx3;go_wp2;go_roundw;case rel=>exact ⟨k + 1,by omega,by go_num,by rw [HE.out]; exact HOW.out,HBH.out⟩
   simp [intOf] <;> omega
  have HX:Hid (gl (ae rs) rel (xs.take (k + 1))=gl (ae rs) rel (xs.take k) ++ [xs[k].t]):=by
   refine N8 _ _ _ _ hlt ?_;show ¬ _=_;unfold aA;rw [← hx3];intro h2;apply hz;rw [← aT,h2]; rfl
  have hzz:(0:Int) < (Vt.length:Int):=by omega
  clear hx3;go_wp2_with (at_builtin; refine wpList_append_own _ rfl _ _ 142 rfl w.heap.size 9 i0 (.string ⟨#[]⟩) 1 16 underlying142 hi hz0 hz1 hz2 rfl (by decide) _ _ _ rfl (HOW.out.alloc _) ⟨w1.heap.size,0,none⟩ 1 1 [.string xs[k].t] rfl rfl (cell_one_new _ _ _) (by intro u hu; simp at hu; subst hu; rfl) (by unfold maxLen; omega) (by omega) (by simp; omega) ?_);intro v' w3 hown3 hgrow _;have hb3:ag w w3:=(HBH.out.alloc HBH.out.size _).grown hgrow (by simp; omega) (fun i hi=>(HOW.out.lt i hi).1);have UX:Hid (w3.ownsRow w.heap.size 9 1 v' (gl (ae rs) rel (xs.take (k + 1))).length (qy (gl (ae rs) rel (xs.take (k + 1))))):=by
   show World.ownsRow _ _ _ _ _ _ _;rw [HX.out];simpa [qy] using hown3
  clear hown3 hgrow HOW;go_wp2;go_roundw;case rel=>exact ⟨k + 1,by omega,by go_num,UX.out,hb3⟩
  simp [intOf] <;> omega
 obtain rfl:k=xs.length:=by omega
 have HE:Hid (xs.take xs.length=xs):=by show _=_; rw [Ug]
 rw [HE.out,← HG.out] at hown;obtain ⟨UJ,cp,rfl,hsl,hnew⟩:=N9 hown;have Wi:Hid (∀ p,UJ=some p→w.heap.size≤p.block):=hnew;have WG:Hid (Sg _ UJ (ig (ae rs) typ over rel)):=hsl;have HBH:Hid (ag w _):=hB;clear hsl hB hown hnew;go_wp2;go_ret;exact ⟨⟨UJ,cp,rfl,WG.out,Wi.out⟩,HBH.out⟩
def pQ (ts:List Ty) (a:Al):Bool:=lc ts a.t && (a.s.toList.isEmpty || !(aA ts a.t a.s).isEmpty)
def oQ (ts:List Ty) (xs:List Al):Bool:=xs.all (pQ ts)
def lh (ts:List Ty) (typ:ByteArray) (e:Ex):Bool :=
 if e.kind=2 then !(aA ts typ e.name).isEmpty
 else if e.kind=3 then bu (aA ts typ e.over) && !(ig ts typ e.over e.name).isEmpty
 else true
def aR (ts:List Ty) (typ:ByteArray):List Ex→Bool
 | []=>true
 | e::es=>if oQ ts e.allow && lh ts typ e then aR ts typ es else false
def nV (ts:List Ty) (xs:List Al) (k:Nat):Bool:=oQ ts (xs.take k)
theorem zC (ts:List Ty) (xs:List Al):nV ts xs 0=true:=by simp [nV,oQ]
theorem oU (ts:List Ty) (xs:List Al) (k:Nat) (h:k < xs.length):nV ts xs (k + 1)=(nV ts xs k && pQ ts xs[k]):=by
 unfold nV oQ; rw [TV h,List.all_append]; simp
theorem uJ (ts:List Ty) (xs:List Al) (k:Nat) (h:k < xs.length) (hb:pQ ts xs[k]=false):oQ ts xs=false:=by
 unfold oQ;rw [Bool.eq_false_iff]; intro h2; rw [Ub] at h2; have:=h2 xs[k] (TQ h); rw [hb] at this; cases this
theorem aG {w w':af} {g o:Nat} {v:Value} (hB:ag w w') (hg:g < w.heap.size) (h:w.cell? ⟨g,o,none⟩=some v):w'.cell? ⟨g,o,none⟩=some v:=(hB.cell (p:=⟨g,o,none⟩) hg).trans h
set_option maxRecDepth 8000 in
theorem Ip (ad UC:Option Addr) (cap capE:Nat) (rs:List TR) (typ:bH) (rows:List ER) (w:af) (hlen:rs.length≤1048576) (hs:kW w ad rs) (hl:∀ r ∈ rs,r.light) (hle:rows.length≤1048576) (hse:iH w UC rows) (ZH:∀ q ∈ rows,q.e.light) :
  Calls prog 136 #[.slice ad rs.length cap,.string typ,.slice UC rows.length capE] w fun e w'=>e=.returned (.bool (aR (ae rs) typ (aj rows)))∧ag w w':=by
 have HS:=az hs;have HL:=az hl;have HE:=az hse;have Vj:=az ZH;clear hs hl hse ZH;go_enter func136,ntmps136;go_wp2_with fail;go_loopw [7] (fun i wr=>∃ k:Nat,k≤rows.length∧i=.int .i64 k∧Hid (aR (ae rs) typ (aj (rows.drop k))=aR (ae rs) typ (aj rows))∧Hid (ag w wr)) (fun i _=>rows.length - (intOf i).toNat);case atStart=>exact ⟨0,TW _,rfl,rfl,TT _ _⟩
 obtain ⟨k,hk,rfl,HP,HB⟩:=hrel;by_cases hlt:k < rows.length
 ·have HS1:Hid (kW _ ad rs):=HS.out.below HB.out;rcases HE.out.below HB.out with rfl | ⟨b,off,rfl,hb,hr,hok⟩
  ·simp at hlt
  obtain ⟨t0,t1,t2,t3,t4⟩:=hr k hlt;have Vz:Hid (rows[k].ok wr):=hok rows[k] (TQ hlt);have lg:=(Vj.out rows[k] (TQ hlt)).1;have hk1:=bB k;have hk2:(k:Int) < (rows.length:Int):=by omega
  clear hr hok;obtain ⟨W1,hW1⟩:∃ W1,W1=wr.alloc (.cells #[.int .i64 rows[k].e.kind,.slice rows[k].adA rows[k].e.allow.length rows[k].capA,.string rows[k].e.over,.string rows[k].e.name,.slice rows[k].adK rows[k].e.kids.length rows[k].capK] 39):=⟨_,rfl⟩;have hal:ag wr W1:=by rw [hW1]; exact (TT _ _).alloc (TS _) _
  have UN:=az hal;have UG:=jP HB hal;have hgl:wr.heap.size < W1.heap.size:=by rw [hW1]; simp
  have g0:W1.cell? ⟨wr.heap.size,0,none⟩=some (.int .i64 rows[k].e.kind):=by rw [hW1]; simp
  have g1:W1.cell? ⟨wr.heap.size,1,none⟩=some (.slice rows[k].adA rows[k].e.allow.length rows[k].capA):=by rw [hW1]; simp
  have g2:W1.cell? ⟨wr.heap.size,2,none⟩=some (.string rows[k].e.over):=by rw [hW1]; simp
  have g3:W1.cell? ⟨wr.heap.size,3,none⟩=some (.string rows[k].e.name):=by rw [hW1]; simp
  clear hal;go_wp2_with fail;rw [← hW1];clear hW1;go_loopw [9] (fun i w2=>∃ j:Nat,j≤rows[k].e.allow.length∧i=.int .i64 j∧Hid (nV (ae rs) rows[k].e.allow j=true)∧Hid (ag W1 w2)) (fun i _=>rows[k].e.allow.length - (intOf i).toNat);case atStart=>exact ⟨0,TW _,rfl,zC _ _,TT _ _⟩
  obtain ⟨j,hj,rfl,HJ,HB2⟩:=hrel;have d0:=aG HB2.out hgl g0;have d1:=aG HB2.out hgl g1;have d2:=aG HB2.out hgl g2;have d3:=aG HB2.out hgl g3;clear g0 g1 g2 g3 t0 t1 t2 t3 t4;have Xp:Hid (ag w _):=UG.out.trans (HB2.out.mono UG.out.size);have HS2:Hid (kW _ ad rs):=HS.out.below Xp.out;by_cases hjl:j < rows[k].e.allow.length
  ·have hA2:jN _ rows[k].adA rows[k].e.allow:=((Vz.out.1).below UN.out).below HB2.out;rcases hA2 with hnil | ⟨ba,Wp,Wq,Yl,hra⟩
   ·rw [hnil] at hjl; simp at hjl
   rw [Wq] at d1;obtain ⟨q0,q1⟩:=hra j hjl;have hj1:=bB j;have hj2:(j:Int) < (rows[k].e.allow.length:Int):=by omega
   clear hra Wq;go_wp2_with fail;refine (Il ad cap rs _ _ hlen (HS2.out.below ((TT _ _).alloc (TS _) _))).mono ?_;rintro e w3 ⟨rfl,rfl⟩;cases hty:lc (ae rs) rows[k].e.allow[j].t;case false=>
    have HN:Hid (aR (ae rs) typ (aj rows)=false):=by
     show _=_;rw [← HP.out,gI _ _ hlt];simp [aR,uJ (ae rs) _ j hjl (by simp [pQ,hty])]
    go_wp2;go_ret;exact ⟨by rw [HN.out]; rfl,Xp.out.alloc Xp.out.size _⟩
   cases he:rows[k].e.allow[j].s.toList.isEmpty;case true=>
    have HJ2:Hid (nV (ae rs) rows[k].e.allow (j + 1)=true):=by show _=_; rw [oU _ _ _ hjl,HJ.out]; simp [pQ,hty,he]
    go_wp2;go_roundw;case rel=>exact ⟨j + 1,by omega,by go_num,HJ2,HB2.out.alloc HB2.out.size _⟩
    simp [intOf] <;> omega
   go_wp2_with fail;refine (jd ad cap rs _ _ _ hlen (HS2.out.below ((TT _ _).alloc (TS _) _)) HL.out).mono ?_;rintro e w3 ⟨⟨Vt,ad3,ZZ,rfl,hx3,-,-⟩,rfl⟩;by_cases hz:Vt.length=0
   ·have HN:Hid (aR (ae rs) typ (aj rows)=false):=by
     have h1:aA (ae rs) rows[k].e.allow[j].t rows[k].e.allow[j].s=[]:=by unfold aA; rw [← hx3,Ui.1 hz]; rfl
     show _=_;rw [← HP.out,gI _ _ hlt];simp [aR,uJ (ae rs) _ j hjl (by simp [pQ,he,h1])]
    rw [hz];clear hx3;go_wp2;go_ret;exact ⟨by rw [HN.out]; rfl,Xp.out.alloc Xp.out.size _⟩
   have HJ2:Hid (nV (ae rs) rows[k].e.allow (j + 1)=true):=by
    have h1:aA (ae rs) rows[k].e.allow[j].t rows[k].e.allow[j].s ≠ []:=by
     unfold aA;rw [← hx3];intro h2;apply hz;rw [← aT,h2]; rfl
    show _=_;rw [oU _ _ _ hjl,HJ.out]; simp [pQ,hty,h1]
   have hzb:((Vt.length:Int) == 0)=false:=by simp; intro h; apply hz; rw [h]; rfl
   clear hx3;go_wp2;go_roundw;case rel=>exact ⟨j + 1,by omega,by go_num,HJ2,HB2.out.alloc HB2.out.size _⟩
   simp [intOf] <;> omega
  have Xg:Hid (oQ (ae rs) rows[k].e.allow=true):=by
   have:=HJ.out;unfold nV at this;rwa [List.take_of_length_le (by omega)] at this
  by_cases h2:rows[k].e.kind=2
  ·go_wp2_with fail;refine (jd ad cap rs _ _ _ hlen HS2.out HL.out).mono ?_;rintro e w3 ⟨⟨Vt,ad3,ZZ,rfl,hx3,-,-⟩,rfl⟩;by_cases hz:Vt.length=0
   ·have HN:Hid (aR (ae rs) typ (aj rows)=false):=by
     have h1:aA (ae rs) typ rows[k].e.name=[]:=by unfold aA; rw [← hx3,Ui.1 hz]; rfl
     show _=_;rw [← HP.out,gI _ _ hlt];simp [aR,lh,h2,h1]
    rw [hz];clear hx3;go_wp2;go_ret;exact ⟨by rw [HN.out]; rfl,Xp.out⟩
   have UI:Hid (aR (ae rs) typ (aj (rows.drop (k + 1)))=aR (ae rs) typ (aj rows)):=by
    have h1:aA (ae rs) typ rows[k].e.name ≠ []:=by
     unfold aA;rw [← hx3];intro h2;apply hz;rw [← aT,h2]; rfl
    show _=_;rw [← HP.out,gI _ _ hlt];simp [aR,lh,h2,h1,Xg.out]
   have hzb:((Vt.length:Int) == 0)=false:=by simp; intro h; apply hz; rw [h]; rfl
   clear hx3;go_wp2;go_roundw;case rel=>exact ⟨k + 1,by omega,by go_num,UI,Xp⟩
   simp [intOf] <;> omega
  by_cases h3:rows[k].e.kind=3
  ·go_wp2_with fail;refine (jd ad cap rs _ _ _ hlen HS2.out HL.out).mono ?_;rintro e w3 ⟨⟨Vt,ad3,ZZ,rfl,hx3,hs3,hf3⟩,rfl⟩;have hl3:=hf3.light HL.out;go_wp2_with fail;refine (Ec ad3 ZZ Vt _ hl3.1 hs3 hl3.2).mono ?_;rintro e w3 ⟨rfl,rfl⟩;have HX:Hid (aj Vt=aA (ae rs) typ rows[k].e.over):=hx3;clear hx3 hs3 hf3 hl3;rw [HX.out];cases hd:bu (aA (ae rs) typ rows[k].e.over);case false=>
    have HN:Hid (aR (ae rs) typ (aj rows)=false):=by
     show _=_;rw [← HP.out,gI _ _ hlt];simp [aR,lh,h3,hd]
    go_wp2;go_ret;exact ⟨by rw [HN.out]; rfl,Xp.out⟩
   go_wp2_with fail;refine (xz ad cap rs _ _ _ _ hlen HS2.out HL.out).mono ?_;rintro e w4 ⟨⟨ad4,cap4,rfl,-⟩,hb4⟩;have Vi:=jP Xp hb4;clear hb4;by_cases hz:(ig (ae rs) typ rows[k].e.over rows[k].e.name).length=0
   ·have HN:Hid (aR (ae rs) typ (aj rows)=false):=by
     show _=_;rw [← HP.out,gI _ _ hlt];simp [aR,lh,h3,Ui.1 hz]
    rw [hz];go_wp2;go_ret;exact ⟨by rw [HN.out]; rfl,Vi.out⟩
   have UI:Hid (aR (ae rs) typ (aj (rows.drop (k + 1)))=aR (ae rs) typ (aj rows)):=by
    have h1:ig (ae rs) typ rows[k].e.over rows[k].e.name ≠ []:=by intro h; apply hz; rw [h]; rfl
    show _=_;rw [← HP.out,gI _ _ hlt];simp [aR,lh,h3,h1,hd,Xg.out]
   have hzb:(((ig (ae rs) typ rows[k].e.over rows[k].e.name).length:Int) == 0)=false:=by simp; intro h; apply hz; rw [h]; rfl
   go_wp2;go_roundw;case rel=>exact ⟨k + 1,by omega,by go_num,UI,Vi⟩
   simp [intOf] <;> omega
  have UI:Hid (aR (ae rs) typ (aj (rows.drop (k + 1)))=aR (ae rs) typ (aj rows)):=by
   show _=_;rw [← HP.out,gI _ _ hlt];simp [aR,lh,h2,h3,Xg.out]
  have hb2:(rows[k].e.kind == 2)=false:=by simpa using h2
  have hb3:(rows[k].e.kind == 3)=false:=by simpa using h3
  go_wp2;go_roundw;case rel=>exact ⟨k + 1,by omega,by go_num,UI,Xp⟩
  simp [intOf] <;> omega
 have HN:Hid (aR (ae rs) typ (aj rows)=true):=by show _=_; rw [← HP.out,List.drop_of_length_le (by omega)]; rfl
 go_wp2;go_ret;exact ⟨by rw [HN.out]; rfl,HB.out⟩
end Go.Proofs.YtajkkeikihhejaaGreat
