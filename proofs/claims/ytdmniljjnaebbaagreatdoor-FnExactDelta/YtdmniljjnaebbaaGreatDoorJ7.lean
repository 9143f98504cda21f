/- Contracts of the document's functions that look a type, a relation, and whom it allows up in a schema. -/
import Derived.Test.YtdmniljjnaebbaaGreatDoorSq
import Derived.Test.YtdmniljjnaebbaaGreatDoorJ6
import Derived.OwnWalk
import Derived.Maps.AppendAt
open Go.Proofs.Tryz
set_option maxHeartbeats 80000000
namespace Go.Proofs.YtdmniljjnaebbaaGreatDoor
open Go.ChangeShapes Go.WideShapes Go.ChangeAt Go.RowKit
open Pl
def jc:List Rl→ByteArray→Option (List Ex)
 | [],_=>none
 | r::rs,n=>if r.name.toList == n.toList then some r.expr else jc rs n
def fC:List Ty→ByteArray→ByteArray→Option (List Ex)
 | [],_,_=>none
 | t::ts,ty,n=>if t.name.toList == ty.toList then (jc t.rels n).or (fC ts ty n) else fC ts ty n
def jY:List Ty→ByteArray→Bool
 | [],_=>false
 | t::ts,ty=>(t.name.toList == ty.toList) || jY ts ty
theorem l7 (rs:List TR) (k:Nat) (h:k < rs.length):ag (rs.drop k)=⟨rs[k].name,bZ rs[k].rows⟩::ag (rs.drop (k + 1)):=by
 rw [SH h]; rfl
theorem Eb (rs:List RR) (k:Nat) (h:k < rs.length):bZ (rs.drop k)=⟨rs[k].name,ai rs[k].rows⟩::bZ (rs.drop (k + 1)):=by
 rw [SH h]; rfl
theorem Gu (ad:Option Addr) (cap:Nat) (rs:List TR) (typ:dB) (w:af) (hlen:rs.length≤1048576) (hs:iN w ad rs) :
  Calls prog 152 #[.slice ad rs.length cap,.string typ] w fun e w'=>e=.returned (.bool (jY (ag rs) typ))∧w'=w:=by
 go_enter func152,ntmps152;go_wp2;go_loopw [5] (fun i wr=>∃ k:Nat,k≤rs.length∧i=.int .i64 k∧Hid (jY (ag (rs.drop k)) typ=jY (ag rs) typ)∧wr=w) (fun i _=>rs.length - (intOf i).toNat);case atStart=>exact ⟨0,Sm _,rfl,rfl,rfl⟩
 obtain ⟨k,hk,rfl,HP,rfl⟩:=hrel;by_cases hlt:k < rs.length
 ·rcases hs with rfl | ⟨b,off,rfl,hb,hr,hok⟩
  ·simp at hlt
  obtain ⟨t0,t1⟩:=hr k hlt;have hk1:=bH k;have hk2:(k:Int) < (rs.length:Int):=by omega
  clear hr hok;cases hq:(rs[k].name.toList == typ.toList);case true=>
   have HN:Hid (jY (ag rs) typ=true):=by show _=_; rw [← HP.out,l7 _ _ hlt]; simp [jY,hq]
   go_wp2;go_ret;exact ⟨by rw [HN.out]; rfl,rfl⟩
  have Tu:Hid (jY (ag (rs.drop (k + 1))) typ=jY (ag rs) typ):=by show _=_; rw [← HP.out,l7 _ _ hlt]; simp [jY,hq]
  go_wp2;go_roundw;case rel=>exact ⟨k + 1,by omega,by go_num,Tu,by first | rfl | trivial⟩
  simp [intOf] <;> omega
 have HN:Hid (jY (ag rs) typ=false):=by show _=_; rw [← HP.out,List.drop_of_length_le (by omega)]; rfl
 go_wp2;go_ret;exact ⟨by rw [HN.out]; rfl,rfl⟩
def oo (rs:List TR) (ad:Option Addr) (rows:List ER):Prop:=rows=[] ∨ ∃ t ∈ rs,∃ q ∈ t.rows,rows=q.rows∧ad=q.ad
theorem vv.mem {w:af} {ad:Option Addr} {rs:List RR} (h:vv w ad rs) {q:RR} (hq:q ∈ rs):q.ok w:=by
 rcases h with rfl | ⟨b,off,e,hb,hr,hk⟩
 ·cases hq
 exact hk q hq
theorem iN.mem {w:af} {ad:Option Addr} {rs:List TR} (h:iN w ad rs) {q:TR} (hq:q ∈ rs):q.ok w:=by
 rcases h with rfl | ⟨b,off,e,hb,hr,hk⟩
 ·cases hq
 exact hk q hq
theorem oo.sl {rs:List TR} {ad ad0:Option Addr} {rows:List ER} {w:af} (h:oo rs ad rows) (hs:iN w ad0 rs):fQ w ad rows:=by
 rcases h with rfl | ⟨t,ht,q,hq,rfl,rfl⟩
 ·exact .inl rfl
 exact vv.mem (hs.mem ht) hq
theorem iq (ad:Option Addr) (cap:Nat) (rs:List TR) (typ rel:dB) (w:af) (hlen:rs.length≤1048576) (hs:iN w ad rs) (hl:∀ r ∈ rs,r.light) :
  Calls prog 84 #[.slice ad rs.length cap,.string typ,.string rel] w fun e w'=>(∃ (rows:List ER) (Ti:Option Addr) (cap':Nat),e=.returned (.slice Ti rows.length cap')∧ai rows=(fC (ag rs) typ rel).getD []∧fQ w Ti rows∧oo rs Ti rows)∧w'=w:=by
 have HS:=ay hs;have HL:=ay hl;clear hs hl;go_enter func84,ntmps84;go_wp2;go_loopw [7] (fun i wr=>∃ k:Nat,k≤rs.length∧i=.int .i64 k∧Hid (fC (ag (rs.drop k)) typ rel=fC (ag rs) typ rel)∧wr=w) (fun i _=>rs.length - (intOf i).toNat);case atStart=>exact ⟨0,Sm _,rfl,rfl,rfl⟩
 obtain ⟨k,hk,rfl,HP,rfl⟩:=hrel;by_cases hlt:k < rs.length
 ·rcases HS.out with rfl | ⟨b,off,rfl,hb,hr,hok⟩
  ·simp at hlt
  obtain ⟨t0,t1⟩:=hr k hlt;have ok:=hok rs[k] (Sd hlt);have lg:=(HL.out rs[k] (Sd hlt)).1;have TS:=ay ok;have hk1:=bH k;have hk2:(k:Int) < (rs.length:Int):=by omega
  clear hr hok ok;cases hq:(rs[k].name.toList == typ.toList);case false=>
   have Tu:Hid (fC (ag (rs.drop (k + 1))) typ rel=fC (ag rs) typ rel):=by show _=_; rw [← HP.out,l7 _ _ hlt]; simp [fC,hq]
   go_wp2_with fail;go_loopw [8] (fun i w2=>i=.int .i64 0∧w2=wr) (fun i _=>(intOf i).toNat);case atStart=>exact ⟨rfl,rfl⟩
   obtain ⟨rfl,rfl⟩:=hrel;go_wp2;go_roundw;case rel=>exact ⟨k + 1,by omega,by go_num,Tu,by first | rfl | trivial⟩
   simp [intOf] <;> omega
  go_wp2_with fail;go_loopw [8] (fun i w2=>∃ j:Nat,j≤rs[k].rows.length∧i=.int .i64 j∧Hid (jc (bZ (rs[k].rows.drop j)) rel=jc (bZ rs[k].rows) rel)∧w2=wr) (fun i _=>rs[k].rows.length - (intOf i).toNat);case atStart=>exact ⟨0,Sm _,rfl,rfl,rfl⟩
  obtain ⟨j,hj,rfl,HI,rfl⟩:=hrel;by_cases hjl:j < rs[k].rows.length
  ·rcases TS.out with hnil | ⟨b2,TY,had,hb2,hr2,hok2⟩
   ·rw [hnil] at hjl; simp at hjl
   have t1':=t1;rw [had] at t1';obtain ⟨q0,q1⟩:=hr2 j hjl;have HOQ:Hid (rs[k].rows[j].ok _):=hok2 rs[k].rows[j] (Sd hjl);have hj1:=bH j;have hj2:(j:Int) < (rs[k].rows.length:Int):=by omega
   clear hr2 hok2 had t1;cases hn:(rs[k].rows[j].name.toList == rel.toList);case true=>
    have HN:Hid (ai rs[k].rows[j].rows=(fC (ag rs) typ rel).getD []):=by
     have h1:jc (bZ rs[k].rows) rel=some (ai rs[k].rows[j].rows):=by rw [← HI.out,Eb _ _ hjl]; simp [jc,hn]
     show _=_;rw [← HP.out,l7 _ _ hlt];simp [fC,hq,h1]
    have HFS:Hid (oo rs rs[k].rows[j].ad rs[k].rows[j].rows):=.inr ⟨rs[k],Sd hlt,rs[k].rows[j],Sd hjl,rfl,rfl⟩;go_wp2;go_ret;exact ⟨⟨rs[k].rows[j].rows,_,_,rfl,HN.out,HOQ.out,HFS.out⟩,rfl⟩
   have HI2:Hid (jc (bZ (rs[k].rows.drop (j + 1))) rel=jc (bZ rs[k].rows) rel):=by show _=_; rw [← HI.out,Eb _ _ hjl]; simp [jc,hn]
   go_wp2;go_roundw;case rel=>exact ⟨j + 1,by omega,by go_num,HI2,by first | rfl | trivial⟩
   simp [intOf] <;> omega
  have Tu:Hid (fC (ag (rs.drop (k + 1))) typ rel=fC (ag rs) typ rel):=by
   have h1:jc (bZ rs[k].rows) rel=none:=by rw [← HI.out,List.drop_of_length_le (by omega)]; rfl
   show _=_;rw [← HP.out,l7 _ _ hlt];simp [fC,hq,h1]
  go_wp2;go_roundw;case rel=>exact ⟨k + 1,by omega,by go_num,Tu,by first | rfl | trivial⟩
  simp [intOf] <;> omega
 have HN:Hid (ai []=(fC (ag rs) typ rel).getD []):=by show _=_; rw [← HP.out,List.drop_of_length_le (by omega)]; rfl
 go_wp2;go_ret;exact ⟨⟨[],none,0,rfl,HN.out,.inl rfl,.inl rfl⟩,rfl⟩
def aQ:List Ex→List Al
 | []=>[]
 | e::es=>if e.kind=1 then e.allow else aQ es
theorem fF (rs:List ER) (k:Nat) (h:k < rs.length):ai (rs.drop k)=rs[k].e::ai (rs.drop (k + 1)):=by
 rw [SH h]; rfl
def Mv (rs:List ER) (ad:Option Addr) (xs:List Al):Prop:=xs=[] ∨ ∃ r ∈ rs,xs=r.e.allow∧ad=r.adA
theorem fQ.mem {w:af} {ad:Option Addr} {rs:List ER} (h:fQ w ad rs) {q:ER} (hq:q ∈ rs):q.ok w:=by
 rcases h with rfl | ⟨b,off,e,hb,hr,hk⟩
 ·cases hq
 exact hk q hq
theorem Mv.sl {rs:List ER} {ad ad0:Option Addr} {xs:List Al} {w:af} (h:Mv rs ad xs) (hs:fQ w ad0 rs):gP w ad xs:=by
 rcases h with rfl | ⟨r,hr,rfl,rfl⟩
 ·exact .inl rfl
 exact (hs.mem hr).1
theorem vw (ad:Option Addr) (cap:Nat) (rs:List ER) (w:af) (hlen:rs.length≤1048576) (hs:fQ w ad rs) :
  Calls prog 114 #[.slice ad rs.length cap] w fun e w'=>(∃ (Ti:Option Addr) (cap':Nat),e=.returned (.slice Ti (aQ (ai rs)).length cap')∧gP w Ti (aQ (ai rs))∧Mv rs Ti (aQ (ai rs)))∧w'=w:=by
 have HS:=ay hs;clear hs;go_enter func114,ntmps114;go_wp2;go_loopw [3] (fun i wr=>∃ k:Nat,k≤rs.length∧i=.int .i64 k∧Hid (aQ (ai (rs.drop k))=aQ (ai rs))∧wr=w) (fun i _=>rs.length - (intOf i).toNat);case atStart=>exact ⟨0,Sm _,rfl,rfl,rfl⟩
 obtain ⟨k,hk,rfl,HP,rfl⟩:=hrel;by_cases hlt:k < rs.length
 ·rcases HS.out with rfl | ⟨b,off,rfl,hb,hr,hok⟩
  ·simp at hlt
  obtain ⟨t0,t1,t2,t3,t4⟩:=hr k hlt;have TS:Hid (rs[k].ok _):=hok rs[k] (Sd hlt);have hk1:=bH k;have hk2:(k:Int) < (rs.length:Int):=by omega
  clear hr hok;by_cases hq:rs[k].e.kind=1
  ·have HN:Hid (aQ (ai rs)=rs[k].e.allow):=by show _=_; rw [← HP.out,fF _ _ hlt]; simp [aQ,hq]
   go_wp2;go_ret;exact ⟨⟨rs[k].adA,rs[k].capA,by rw [HN.out]; rfl,by rw [HN.out]; exact TS.out.1,.inr ⟨rs[k],Sd hlt,HN.out,rfl⟩⟩,rfl⟩
  have Tu:Hid (aQ (ai (rs.drop (k + 1)))=aQ (ai rs)):=by show _=_; rw [← HP.out,fF _ _ hlt]; simp [aQ,hq]
  have hqb:(rs[k].e.kind == 1)=false:=by simpa using hq
  go_wp2;go_roundw;case rel=>exact ⟨k + 1,by omega,by go_num,Tu,by first | rfl | trivial⟩
  simp [intOf] <;> omega
 have HN:Hid (aQ (ai rs)=[]):=by show _=_; rw [← HP.out,List.drop_of_length_le (by omega)]; rfl
 go_wp2;go_ret;exact ⟨⟨none,0,by rw [HN.out]; rfl,by rw [HN.out]; exact .inl rfl,.inl HN.out⟩,rfl⟩
def bF:List Ex→Bool
 | [e]=>decide (e.kind=1) && e.allow.all fun a=>a.s.toList.isEmpty
 | _=>false
def yg (xs:List Al) (k:Nat):Bool:=(xs.take k).all fun a=>a.s.toList.isEmpty
theorem Gv (xs:List Al) (k:Nat) (h:k < xs.length):yg xs (k + 1)=(yg xs k && xs[k].s.toList.isEmpty):=by
 unfold yg; rw [Sk h,List.all_append]; simp
theorem JV (xs:List Al) (k:Nat) (h:k < xs.length) (hb:xs[k].s.toList.isEmpty=false):(xs.all fun a=>a.s.toList.isEmpty)=false:=by
 rw [Bool.eq_false_iff]; intro h2; rw [SC] at h2; have:=h2 xs[k] (Sd h); rw [hb] at this; cases this
theorem Cx (ad:Option Addr) (cap:Nat) (rs:List ER) (w:af) (hlen:rs.length≤1048576) (hs:fQ w ad rs) (hl:∀ r ∈ rs,r.e.light) :
  Calls prog 153 #[.slice ad rs.length cap] w fun e w'=>e=.returned (.bool (bF (ai rs)))∧w'=w:=by
 by_cases h1:rs.length=1
 ·obtain ⟨r,rfl⟩:∃ r,rs=[r]:=List.length_eq_one_iff.1 h1;rcases hs with h | ⟨b,off,rfl,hb,hr,hok⟩
  ·cases h
  obtain ⟨t0,t1,t2,t3,t4⟩:=hr 0 (by simp);simp only [Nat.zero_mul,Nat.add_zero,List.getElem_cons_zero] at t0 t1 t2 t3 t4;have TS:Hid (r.ok w):=hok r (by simp);obtain ⟨lg,-⟩:=hl r (by simp);clear hr hok h1;simp only [List.length_cons,List.length_nil,SG];by_cases hq:r.e.kind=1
  ·have HD:Hid (bF (ai [r])=r.e.allow.all fun a=>a.s.toList.isEmpty):=by show _=_; simp [bF,ai,hq]
   go_enter func153,ntmps153;go_wp2;go_loopw [3] (fun i wr=>∃ k:Nat,k≤r.e.allow.length∧i=.int .i64 k∧Hid (yg r.e.allow k=true)∧wr=w) (fun i _=>r.e.allow.length - (intOf i).toNat);case atStart=>exact ⟨0,Sm _,rfl,(by show _=_; simp [yg]),rfl⟩
   obtain ⟨k,hk,rfl,HP,rfl⟩:=hrel;by_cases hlt:k < r.e.allow.length
   ·rcases TS.out.1 with hnil | ⟨ba,Ve,V4,hba,hra⟩
    ·rw [hnil] at hlt; simp at hlt
    have t1':=t1;rw [V4] at t1';obtain ⟨q0,q1⟩:=hra k hlt;have hk1:=bH k;have hk2:(k:Int) < (r.e.allow.length:Int):=by omega
    clear hra V4 t1;cases he:r.e.allow[k].s.toList.isEmpty;case true=>
     have Tu:Hid (yg r.e.allow (k + 1)=true):=by show _=_; rw [Gv _ _ hlt,HP.out,he]; rfl
     go_wp2;go_roundw;case rel=>exact ⟨k + 1,by omega,by go_num,Tu,by first | rfl | trivial⟩
     simp [intOf] <;> omega
    have HN:Hid (bF (ai [r])=false):=by show _=_; rw [HD.out]; exact JV _ k hlt he
    go_wp2;go_ret;exact ⟨by rw [HN.out]; rfl,rfl⟩
   have HN:Hid (bF (ai [r])=true):=by
    show _=_;rw [HD.out];have:=HP.out;unfold yg at this;rwa [List.take_of_length_le (by omega)] at this
   go_wp2;go_ret;exact ⟨by rw [HN.out]; rfl,rfl⟩
  have HN:Hid (bF (ai [r])=false):=by show _=_; simp [bF,ai,hq]
  have hqb:(r.e.kind != 1)=true:=by simpa using hq
  go_enter func153,ntmps153;go_wp2;go_ret;exact ⟨by rw [HN.out]; rfl,rfl⟩
 have HN:Hid (bF (ai rs)=false):=by
  show _=_
  match rs,h1 with
  | [],_=>rfl
  | [r],h=>exact absurd rfl h
  | a::b::r,_=>rfl
 have h1':((rs.length:Int) != 1)=true:=by simp; omega
 go_enter func153,ntmps153;go_wp2;go_ret;exact ⟨by rw [HN.out]; rfl,rfl⟩
def aH (ts:List Ty) (ty n:ByteArray):List Ex:=(fC ts ty n).getD []
def gl (ts:List Ty) (rel:ByteArray):List Al→List ByteArray
 | []=>[]
 | a::xs=>if (aH ts a.t rel).isEmpty then gl ts rel xs else a.t::gl ts rel xs
def fT (ts:List Ty) (ty over rel:ByteArray):List ByteArray:=gl ts rel (aQ (aH ts ty over))
theorem AZ (ts:List Ty) (rel:dB) (xs ys:List Al):gl ts rel (xs ++ ys)=gl ts rel xs ++ gl ts rel ys:=by
 induction xs with
 | nil=>rfl
 | cons a xs ih=>simp only [List.cons_append,gl,ih]; split <;> simp
theorem P7 (ts:List Ty) (rel:dB) (xs:List Al) (k:Nat) (h:k < xs.length) (he:aH ts xs[k].t rel=[]):gl ts rel (xs.take (k + 1))=gl ts rel (xs.take k):=by
 rw [Sk h,AZ]; simp [gl,he]
theorem Mw (ts:List Ty) (rel:dB) (xs:List Al) (k:Nat) (h:k < xs.length) (he:aH ts xs[k].t rel ≠ []):gl ts rel (xs.take (k + 1))=gl ts rel (xs.take k) ++ [xs[k].t]:=by
 rw [Sk h,AZ]; simp [gl,he]
theorem Gw (ts:List Ty) (rel:dB) (xs:List Al):(gl ts rel xs).length≤xs.length:=by
 induction xs with
 | nil=>simp [gl]
 | cons a xs ih=>simp only [gl]; split <;> simp <;> omega
theorem JW:(prog.info? 9).map (fun i=>(i.zero,i.size,i.bytes))=some (some (.string ⟨#[]⟩),1,16):=by kernel_rfl
def oQ (xs:List ByteArray):List Value:=xs.map Value.string
def Qz (w:World) (ad:Option Addr) (xs:List ByteArray):Prop:=xs=[] ∨ ∃ b off,ad=some ⟨b,off,none⟩∧b < w.heap.size∧∀ (i:Nat) (h:i < xs.length),w.cell? ⟨b,off + i,none⟩=some (.string xs[i])
theorem Qz.below {w w':af} {ad:Option Addr} {xs:List ByteArray} (h:Qz w ad xs) (hB:aa w w'):Qz w' ad xs:=by
 rcases h with h | ⟨b,off,e,hb,hr⟩
 ·exact .inl h
 exact .inr ⟨b,off,e,Sg hb hB.size,fun i hi=>(hB.cell (p:=⟨b,off + i,none⟩) hb).trans (hr i hi)⟩
theorem Mx {w:af} {base k:Nat} {v:Value} {xs:List ByteArray} (h:w.ownsRow base 9 1 v k (oQ xs)):∃ ad cp,v=.slice ad xs.length cp∧Qz w ad xs∧∀ p,ad=some p→base≤p.block:=by
 have hl:xs.length=k:=by have:=h.1; simpa [oQ] using this
 have h2:=h;rcases h.2 with ⟨rfl,h0⟩ | ⟨g,cp,cur,rfl,hbg,hg,hnc,-⟩
 ·refine ⟨none,0,?_,.inl (SA.1 (by omega)),fun p hp=>by cases hp⟩;rw [hl,h0]
 have hlt:=h2.lt g rfl;refine ⟨_,cp,by rw [hl],.inr ⟨g,0,rfl,hlt.2,fun j hj=>?_⟩,fun p hp=>by injection hp with hp; rw [← hp]; exact hlt.1⟩;have:=h2.cells (g:=g) rfl j (.string xs[j]) (by simp [oQ,hj]);rw [SG];have e:(⟨g,0,none⟩:Addr).add j=⟨g,j,none⟩:=by
  unfold Addr.add;by_cases hj:j=0
  ·subst hj; simp
  simp [hj]
 rwa [e] at this
theorem oo.light {rs:List TR} {ad:Option Addr} {rows:List ER} (h:oo rs ad rows) (hl:∀ r ∈ rs,r.light):rows.length≤1048576∧∀ q ∈ rows,q.e.light:=by
 rcases h with rfl | ⟨t,ht,q,hq,rfl,-⟩
 ·exact ⟨by simp,by simp⟩
 exact (hl t ht).2 q hq
theorem yh (rows:List ER) (hl:∀ q ∈ rows,q.e.light):(aQ (ai rows)).length≤1048576:=by
 induction rows with
 | nil=>simp [ai,aQ]
 | cons r rows ih =>
  have e:ai (r::rows)=r.e::ai rows:=rfl;rw [e];simp only [aQ];split
  ·exact (hl r (by simp)).1
  exact ih fun q hq=>hl q (by simp [hq])
set_option maxRecDepth 100000 in
theorem vz (ad:Option Addr) (cap:Nat) (rs:List TR) (typ over rel:dB) (w:af) (hlen:rs.length≤1048576) (hs:iN w ad rs) (hl:∀ r ∈ rs,r.light) :
  Calls prog 154 #[.slice ad rs.length cap,.string typ,.string over,.string rel] w fun e w'=>(∃ (Ti:Option Addr) (cap':Nat),e=.returned (.slice Ti (fT (ag rs) typ over rel).length cap')∧Qz w' Ti (fT (ag rs) typ over rel)∧∀ p,Ti=some p→w.heap.size≤p.block)∧aa w w':=by
 have HS:=ay hs;have HL:=ay hl;clear hs hl;obtain ⟨i0,hi,hz0,hz1,hz2⟩:=info_parts JW;go_enter func154,ntmps154;go_wp2_with fail;have Zd:aa w (w.alloc (.cells #[] 9)):=(Si _ _).alloc (Sj _) _;have hown1:(w.alloc (.cells #[] 9)).ownsRow w.heap.size 9 1 (.slice (some ⟨w.heap.size,0,none⟩) 0 0) 0 []:=World.ownsRow_made w #[] 0 (Sj _) (by decide) rfl;refine (iq ad cap rs typ over _ hlen (HS.out.below Zd) HL.out).mono ?_;rintro e w1 ⟨⟨rows,ad1,cap1,rfl,hx1,hs1,hf1⟩,rfl⟩;have hl1:=hf1.light HL.out;have hal:=yh rows hl1.2;go_wp2_with fail;refine (vw ad1 cap1 rows _ hl1.1 hs1).mono ?_;rintro e w1 ⟨⟨ad2,cap2,rfl,-,hf2⟩,rfl⟩;have HG:Hid (fT (ag rs) typ over rel=gl (ag rs) rel (aQ (ai rows))):=by show _=_; rw [hx1]; rfl
 have HA:Hid (gP w ad2 (aQ (ai rows))):=hf2.sl (hf1.sl HS.out);generalize aQ (ai rows)=xs at *
 clear hs1 hx1 hf1 hl1 hf2;have HBA:=ay Zd;have TM:=ay hown1;clear Zd hown1;obtain ⟨wA,hwA⟩:∃ wA,wA=w.alloc (.cells #[] 9):=⟨_,rfl⟩;rw [← hwA] at HBA TM ⊢;clear hwA;go_wp2_with fail;go_loopw [9,11] (fun v i wr=>∃ k:Nat,k≤xs.length∧i=.int .i64 k∧wr.ownsRow w.heap.size 9 1 v (gl (ag rs) rel (xs.take k)).length (oQ (gl (ag rs) rel (xs.take k)))∧aa w wr) (fun _ i _=>xs.length - (intOf i).toNat);case atStart=>exact ⟨0,Sm _,rfl,by simpa [oQ,gl] using TM.out,HBA.out⟩
 obtain ⟨k,hk,rfl,hown,hB⟩:=hrel;by_cases hlt:k < xs.length
 ·have HST:Hid (iN _ ad rs):=HS.out.below hB;rcases HA.out.below hB with rfl | ⟨b,off,rfl,hb,hr⟩
  ·simp at hlt
  obtain ⟨t0,t1⟩:=hr k hlt;have hBs:=hB.size;have hgl:=Gw (ag rs) rel (xs.take k);rw [SL] at hgl;have HBH:=ay hB;have HOW:Hid (wr.ownsRow w.heap.size 9 1 _ _ _):=hown;clear hr hB hown;go_wp2_with fail;refine (iq ad cap rs xs[k].t rel _ hlen HST.out HL.out).mono ?_;rintro e w1 ⟨⟨Uf,ad3,Zt,rfl,hx3,-,-⟩,rfl⟩;by_cases hz:Uf.length=0
  ·have HE:Hid (gl (ag rs) rel (xs.take (k + 1))=gl (ag rs) rel (xs.take k)):=by
    refine P7 _ _ _ _ hlt ?_;show _=_;unfold aH;rw [← hx3,SA.1 hz]; rfl
   rw [hz];clear hx3;go_wp2;go_roundw;case rel=>exact ⟨k + 1,by omega,by go_num,by rw [HE.out]; exact HOW.out,HBH.out⟩
   simp [intOf] <;> omega
  have HX:Hid (gl (ag rs) rel (xs.take (k + 1))=gl (ag rs) rel (xs.take k) ++ [xs[k].t]):=by
   refine Mw _ _ _ _ hlt ?_;show ¬ _=_;unfold aH;rw [← hx3];intro h2;apply hz;rw [← aS,h2]; rfl
  have hzz:(0:Int) < (Uf.length:Int):=by omega
  clear hx3;go_wp2_with (at_builtin; refine wpList_append_own _ rfl _ _ 255 rfl w.heap.size 9 i0 (.string ⟨#[]⟩) 1 16 underlying255 hi hz0 hz1 hz2 rfl (by decide) _ _ _ rfl (HOW.out.alloc _) ⟨w1.heap.size,0,none⟩ 1 1 [.string xs[k].t] rfl rfl (cell_one_new _ _ _) (by intro u hu; simp at hu; subst hu; rfl) (by unfold maxLen; omega) (by omega) (by simp; omega) ?_);intro v' w3 hown3 hgrow _;have hb3:aa w w3:=(HBH.out.alloc HBH.out.size _).grown hgrow (by simp; omega) (fun i hi=>(HOW.out.lt i hi).1);have TD:Hid (w3.ownsRow w.heap.size 9 1 v' (gl (ag rs) rel (xs.take (k + 1))).length (oQ (gl (ag rs) rel (xs.take (k + 1))))):=by
   show World.ownsRow _ _ _ _ _ _ _;rw [HX.out];simpa [oQ] using hown3
  clear hown3 hgrow HOW;go_wp2;go_roundw;case rel=>exact ⟨k + 1,by omega,by go_num,TD.out,hb3⟩
  simp [intOf] <;> omega
 obtain rfl:k=xs.length:=by omega
 have HE:Hid (xs.take xs.length=xs):=by show _=_; rw [Su]
 rw [HE.out,← HG.out] at hown;obtain ⟨Ti,cp,rfl,hsl,hnew⟩:=Mx hown;have WG:Hid (∀ p,Ti=some p→w.heap.size≤p.block):=hnew;have Uj:Hid (Qz _ Ti (fT (ag rs) typ over rel)):=hsl;have HBH:Hid (aa w _):=hB;clear hsl hB hown hnew;go_wp2;go_ret;exact ⟨⟨Ti,cp,rfl,Uj.out,WG.out⟩,HBH.out⟩
def oq (ts:List Ty) (a:Al):Bool:=jY ts a.t && (a.s.toList.isEmpty || !(aH ts a.t a.s).isEmpty)
def oU (ts:List Ty) (xs:List Al):Bool:=xs.all (oq ts)
def lI (ts:List Ty) (typ:ByteArray) (e:Ex):Bool :=
 if e.kind=2 then !(aH ts typ e.name).isEmpty
 else if e.kind=3 then bF (aH ts typ e.over) && !(fT ts typ e.over e.name).isEmpty
 else true
def aP (ts:List Ty) (typ:ByteArray):List Ex→Bool
 | []=>true
 | e::es=>if oU ts e.allow && lI ts typ e then aP ts typ es else false
def l8 (ts:List Ty) (xs:List Al) (k:Nat):Bool:=oU ts (xs.take k)
theorem yj (ts:List Ty) (xs:List Al):l8 ts xs 0=true:=by simp [l8,oU]
theorem nC (ts:List Ty) (xs:List Al) (k:Nat) (h:k < xs.length):l8 ts xs (k + 1)=(l8 ts xs k && oq ts xs[k]):=by
 unfold l8 oU; rw [Sk h,List.all_append]; simp
theorem rW (ts:List Ty) (xs:List Al) (k:Nat) (h:k < xs.length) (hb:oq ts xs[k]=false):oU ts xs=false:=by
 unfold oU;rw [Bool.eq_false_iff]; intro h2; rw [SC] at h2; have:=h2 xs[k] (Sd h); rw [hb] at this; cases this
theorem aK {w w':af} {g o:Nat} {v:Value} (hB:aa w w') (hg:g < w.heap.size) (h:w.cell? ⟨g,o,none⟩=some v):w'.cell? ⟨g,o,none⟩=some v:=(hB.cell (p:=⟨g,o,none⟩) hg).trans h
set_option maxRecDepth 8000 in
theorem Gx (ad Tm:Option Addr) (cap capE:Nat) (rs:List TR) (typ:dB) (rows:List ER) (w:af) (hlen:rs.length≤1048576) (hs:iN w ad rs) (hl:∀ r ∈ rs,r.light) (hle:rows.length≤1048576) (hse:fQ w Tm rows) (Ze:∀ q ∈ rows,q.e.light) :
  Calls prog 107 #[.slice ad rs.length cap,.string typ,.slice Tm rows.length capE] w fun e w'=>e=.returned (.bool (aP (ag rs) typ (ai rows)))∧aa w w':=by
 have HS:=ay hs;have HL:=ay hl;have HE:=ay hse;have Uk:=ay Ze;clear hs hl hse Ze;go_enter func107,ntmps107;go_wp2_with fail;go_loopw [7] (fun i wr=>∃ k:Nat,k≤rows.length∧i=.int .i64 k∧Hid (aP (ag rs) typ (ai (rows.drop k))=aP (ag rs) typ (ai rows))∧Hid (aa w wr)) (fun i _=>rows.length - (intOf i).toNat);case atStart=>exact ⟨0,Sm _,rfl,rfl,Si _ _⟩
 obtain ⟨k,hk,rfl,HP,HB⟩:=hrel;by_cases hlt:k < rows.length
 ·have HS1:Hid (iN _ ad rs):=HS.out.below HB.out;rcases HE.out.below HB.out with rfl | ⟨b,off,rfl,hb,hr,hok⟩
  ·simp at hlt
  obtain ⟨t0,t1,t2,t3,t4⟩:=hr k hlt;have TS:Hid (rows[k].ok wr):=hok rows[k] (Sd hlt);have lg:=(Uk.out rows[k] (Sd hlt)).1;have hk1:=bH k;have hk2:(k:Int) < (rows.length:Int):=by omega
  clear hr hok;obtain ⟨W1,hW1⟩:∃ W1,W1=wr.alloc (.cells #[.int .i64 rows[k].e.kind,.slice rows[k].adA rows[k].e.allow.length rows[k].capA,.string rows[k].e.over,.string rows[k].e.name,.slice rows[k].adK rows[k].e.kids.length rows[k].capK] 190):=⟨_,rfl⟩;have hal:aa wr W1:=by rw [hW1]; exact (Si _ _).alloc (Sj _) _
  have TB:=ay hal;have Tt:=jb HB hal;have hgl:wr.heap.size < W1.heap.size:=by rw [hW1]; simp
  have g0:W1.cell? ⟨wr.heap.size,0,none⟩=some (.int .i64 rows[k].e.kind):=by rw [hW1]; simp
  have g1:W1.cell? ⟨wr.heap.size,1,none⟩=some (.slice rows[k].adA rows[k].e.allow.length rows[k].capA):=by rw [hW1]; simp
  have g2:W1.cell? ⟨wr.heap.size,2,none⟩=some (.string rows[k].e.over):=by rw [hW1]; simp
  have g3:W1.cell? ⟨wr.heap.size,3,none⟩=some (.string rows[k].e.name):=by rw [hW1]; simp
  clear hal;go_wp2_with fail;rw [← hW1];clear hW1;go_loopw [9] (fun i w2=>∃ j:Nat,j≤rows[k].e.allow.length∧i=.int .i64 j∧Hid (l8 (ag rs) rows[k].e.allow j=true)∧Hid (aa W1 w2)) (fun i _=>rows[k].e.allow.length - (intOf i).toNat);case atStart=>exact ⟨0,Sm _,rfl,yj _ _,Si _ _⟩
  obtain ⟨j,hj,rfl,HJ,HB2⟩:=hrel;have d0:=aK HB2.out hgl g0;have d1:=aK HB2.out hgl g1;have d2:=aK HB2.out hgl g2;have d3:=aK HB2.out hgl g3;clear g0 g1 g2 g3 t0 t1 t2 t3 t4;have V5:Hid (aa w _):=Tt.out.trans (HB2.out.mono Tt.out.size);have HS2:Hid (iN _ ad rs):=HS.out.below V5.out;by_cases hjl:j < rows[k].e.allow.length
  ·have hA2:gP _ rows[k].adA rows[k].e.allow:=((TS.out.1).below TB.out).below HB2.out;rcases hA2 with hnil | ⟨ba,Ve,V4,hba,hra⟩
   ·rw [hnil] at hjl; simp at hjl
   rw [V4] at d1;obtain ⟨q0,q1⟩:=hra j hjl;have hj1:=bH j;have hj2:(j:Int) < (rows[k].e.allow.length:Int):=by omega
   clear hra V4;go_wp2_with fail;refine (Gu ad cap rs _ _ hlen (HS2.out.below ((Si _ _).alloc (Sj _) _))).mono ?_;rintro e w3 ⟨rfl,rfl⟩;cases hty:jY (ag rs) rows[k].e.allow[j].t;case false=>
    have HN:Hid (aP (ag rs) typ (ai rows)=false):=by
     show _=_;rw [← HP.out,fF _ _ hlt];simp [aP,rW (ag rs) _ j hjl (by simp [oq,hty])]
    go_wp2;go_ret;exact ⟨by rw [HN.out]; rfl,V5.out.alloc V5.out.size _⟩
   cases he:rows[k].e.allow[j].s.toList.isEmpty;case true=>
    have HJ2:Hid (l8 (ag rs) rows[k].e.allow (j + 1)=true):=by show _=_; rw [nC _ _ _ hjl,HJ.out]; simp [oq,hty,he]
    go_wp2;go_roundw;case rel=>exact ⟨j + 1,by omega,by go_num,HJ2,HB2.out.alloc HB2.out.size _⟩
    simp [intOf] <;> omega
   go_wp2_with fail;refine (iq ad cap rs _ _ _ hlen (HS2.out.below ((Si _ _).alloc (Sj _) _)) HL.out).mono ?_;rintro e w3 ⟨⟨Uf,ad3,Zt,rfl,hx3,-,-⟩,rfl⟩;by_cases hz:Uf.length=0
   ·have HN:Hid (aP (ag rs) typ (ai rows)=false):=by
     have h1:aH (ag rs) rows[k].e.allow[j].t rows[k].e.allow[j].s=[]:=by unfold aH; rw [← hx3,SA.1 hz]; rfl
     show _=_;rw [← HP.out,fF _ _ hlt];simp [aP,rW (ag rs) _ j hjl (by simp [oq,he,h1])]
    rw [hz];clear hx3;go_wp2;go_ret;exact ⟨by rw [HN.out]; rfl,V5.out.alloc V5.out.size _⟩
   have HJ2:Hid (l8 (ag rs) rows[k].e.allow (j + 1)=true):=by
    have h1:aH (ag rs) rows[k].e.allow[j].t rows[k].e.allow[j].s ≠ []:=by
     unfold aH;rw [← hx3];intro h2;apply hz;rw [← aS,h2]; rfl
    show _=_;rw [nC _ _ _ hjl,HJ.out]; simp [oq,hty,h1]
   have hzb:((Uf.length:Int) == 0)=false:=by simp; intro h; apply hz; rw [h]; rfl
   clear hx3;go_wp2;go_roundw;case rel=>exact ⟨j + 1,by omega,by go_num,HJ2,HB2.out.alloc HB2.out.size _⟩
   simp [intOf] <;> omega
  have VU:Hid (oU (ag rs) rows[k].e.allow=true):=by
   have:=HJ.out;unfold l8 at this;rwa [List.take_of_length_le (by omega)] at this
  by_cases h2:rows[k].e.kind=2
  ·go_wp2_with fail;refine (iq ad cap rs _ _ _ hlen HS2.out HL.out).mono ?_;rintro e w3 ⟨⟨Uf,ad3,Zt,rfl,hx3,-,-⟩,rfl⟩;by_cases hz:Uf.length=0
   ·have HN:Hid (aP (ag rs) typ (ai rows)=false):=by
     have h1:aH (ag rs) typ rows[k].e.name=[]:=by unfold aH; rw [← hx3,SA.1 hz]; rfl
     show _=_;rw [← HP.out,fF _ _ hlt];simp [aP,lI,h2,h1]
    rw [hz];clear hx3;go_wp2;go_ret;exact ⟨by rw [HN.out]; rfl,V5.out⟩
   have Tu:Hid (aP (ag rs) typ (ai (rows.drop (k + 1)))=aP (ag rs) typ (ai rows)):=by
    have h1:aH (ag rs) typ rows[k].e.name ≠ []:=by
     unfold aH;rw [← hx3];intro h2;apply hz;rw [← aS,h2]; rfl
    show _=_;rw [← HP.out,fF _ _ hlt];simp [aP,lI,h2,h1,VU.out]
   have hzb:((Uf.length:Int) == 0)=false:=by simp; intro h; apply hz; rw [h]; rfl
   clear hx3;go_wp2;go_roundw;case rel=>exact ⟨k + 1,by omega,by go_num,Tu,V5⟩
   simp [intOf] <;> omega
  by_cases h3:rows[k].e.kind=3
  ·go_wp2_with fail;refine (iq ad cap rs _ _ _ hlen HS2.out HL.out).mono ?_;rintro e w3 ⟨⟨Uf,ad3,Zt,rfl,hx3,hs3,hf3⟩,rfl⟩;have hl3:=hf3.light HL.out;go_wp2_with fail;refine (Cx ad3 Zt Uf _ hl3.1 hs3 hl3.2).mono ?_;rintro e w3 ⟨rfl,rfl⟩;have HX:Hid (ai Uf=aH (ag rs) typ rows[k].e.over):=hx3;clear hx3 hs3 hf3 hl3;rw [HX.out];cases hd:bF (aH (ag rs) typ rows[k].e.over);case false=>
    have HN:Hid (aP (ag rs) typ (ai rows)=false):=by
     show _=_;rw [← HP.out,fF _ _ hlt];simp [aP,lI,h3,hd]
    go_wp2;go_ret;exact ⟨by rw [HN.out]; rfl,V5.out⟩
   go_wp2_with fail;refine (vz ad cap rs _ _ _ _ hlen HS2.out HL.out).mono ?_;rintro e w4 ⟨⟨ad4,cap4,rfl,-⟩,hb4⟩;have TA:=jb V5 hb4;clear hb4;by_cases hz:(fT (ag rs) typ rows[k].e.over rows[k].e.name).length=0
   ·have HN:Hid (aP (ag rs) typ (ai rows)=false):=by
     show _=_;rw [← HP.out,fF _ _ hlt];simp [aP,lI,h3,SA.1 hz]
    rw [hz];go_wp2;go_ret;exact ⟨by rw [HN.out]; rfl,TA.out⟩
   have Tu:Hid (aP (ag rs) typ (ai (rows.drop (k + 1)))=aP (ag rs) typ (ai rows)):=by
    have h1:fT (ag rs) typ rows[k].e.over rows[k].e.name ≠ []:=by intro h; apply hz; rw [h]; rfl
    show _=_;rw [← HP.out,fF _ _ hlt];simp [aP,lI,h3,h1,hd,VU.out]
   have hzb:(((fT (ag rs) typ rows[k].e.over rows[k].e.name).length:Int) == 0)=false:=by simp; intro h; apply hz; rw [h]; rfl
   go_wp2;go_roundw;case rel=>exact ⟨k + 1,by omega,by go_num,Tu,TA⟩
   simp [intOf] <;> omega
  have Tu:Hid (aP (ag rs) typ (ai (rows.drop (k + 1)))=aP (ag rs) typ (ai rows)):=by
   show _=_;rw [← HP.out,fF _ _ hlt];simp [aP,lI,h2,h3,VU.out]
  have hb2:(rows[k].e.kind == 2)=false:=by simpa using h2
  have hb3:(rows[k].e.kind == 3)=false:=by simpa using h3
  go_wp2;go_roundw;case rel=>exact ⟨k + 1,by omega,by go_num,Tu,V5⟩
  simp [intOf] <;> omega
 have HN:Hid (aP (ag rs) typ (ai rows)=true):=by show _=_; rw [← HP.out,List.drop_of_length_le (by omega)]; rfl
 go_wp2;go_ret;exact ⟨by rw [HN.out]; rfl,HB.out⟩
end Go.Proofs.YtdmniljjnaebbaaGreatDoor
