/- Contracts of the document's functions that look a type, a relation, and whom it allows up in a schema. -/
import Derived.Test.YteoflgocljfgeaaGreatDoorJ4
import Derived.OwnWalk
import Derived.Maps.AppendAt
open Go.Proofs.Tryz
set_option maxHeartbeats 80000000
namespace Go.Proofs.YteoflgocljfgeaaGreatDoor
open Go.ChangeShapes Go.WideShapes Go.ChangeAt Go.RowKit
open Pl
def iJ:List Rl→ByteArray→Option (List Ex)
 | [],_=>none
 | r::rs,n=>if r.name.toList == n.toList then some r.expr else iJ rs n
def fE:List Ty→ByteArray→ByteArray→Option (List Ex)
 | [],_,_=>none
 | t::ts,ty,n=>if t.name.toList == ty.toList then (iJ t.rels n).or (fE ts ty n) else fE ts ty n
def jN:List Ty→ByteArray→Bool
 | [],_=>false
 | t::ts,ty=>(t.name.toList == ty.toList) || jN ts ty
theorem ll (rs:List TR) (k:Nat) (h:k < rs.length):ah (rs.drop k)=⟨rs[k].name,dO rs[k].rows⟩::ah (rs.drop (k + 1)):=by
 rw [List.drop_eq_getElem_cons h]; rfl
theorem BB (rs:List RR) (k:Nat) (h:k < rs.length):dO (rs.drop k)=⟨rs[k].name,au rs[k].rows⟩::dO (rs.drop (k + 1)):=by
 rw [List.drop_eq_getElem_cons h]; rfl
theorem Dw (ad:Option Addr) (cap:Nat) (rs:List TR) (typ:ByteArray) (w:World) (hlen:rs.length≤1048576) (hs:gp w ad rs) :
  Calls prog 115 #[.slice ad rs.length cap,.string typ] w fun e w'=>e=.returned (.bool (jN (ah rs) typ))∧w'=w:=by
 go_enter func115,ntmps115;go_wp2;go_loopw [5] (fun i wr=>∃ k:Nat,k≤rs.length∧i=.int .i64 k∧Hid (jN (ah (rs.drop k)) typ=jN (ah rs) typ)∧wr=w) (fun i _=>rs.length - (intOf i).toNat);case atStart=>exact ⟨0,Nat.zero_le _,rfl,rfl,rfl⟩
 case round =>
  obtain ⟨k,hk,rfl,HP,rfl⟩:=hrel;by_cases hlt:k < rs.length
  ·rcases hs with rfl | ⟨b,off,rfl,hb,hr,hok⟩
   ·simp at hlt
   obtain ⟨t0,t1⟩:=hr k hlt;have hk1:=bR k;have hk2:(k:Int) < (rs.length:Int):=by omega
   clear hr hok;cases hq:(rs[k].name.toList == typ.toList) with
   | true =>
    have HN:Hid (jN (ah rs) typ=true):=by show _=_; rw [← HP.out,ll _ _ hlt]; simp [jN,hq]
    go_wp2;go_ret;exact ⟨by rw [HN.out]; rfl,rfl⟩
   | false =>
    have HP2:Hid (jN (ah (rs.drop (k + 1))) typ=jN (ah rs) typ):=by show _=_; rw [← HP.out,ll _ _ hlt]; simp [jN,hq]
    go_wp2;go_roundw;case rel=>exact ⟨k + 1,by omega,by go_num,HP2,by first | rfl | trivial⟩
    case measure=>simp [intOf] <;> omega
  ·have HN:Hid (jN (ah rs) typ=false):=by show _=_; rw [← HP.out,List.drop_of_length_le (by omega)]; rfl
   go_wp2;go_ret;exact ⟨by rw [HN.out]; rfl,rfl⟩
def pV (rs:List TR) (ad:Option Addr) (rows:List ER):Prop:=rows=[] ∨ ∃ t ∈ rs,∃ q ∈ t.rows,rows=q.rows∧ad=q.ad
theorem Hl.mem {w:World} {ad:Option Addr} {rs:List RR} (h:Hl w ad rs) {q:RR} (hq:q ∈ rs):q.ok w:=by
 rcases h with rfl | ⟨b,off,e,hb,hr,hk⟩
 ·cases hq
 ·exact hk q hq
theorem gp.mem {w:World} {ad:Option Addr} {rs:List TR} (h:gp w ad rs) {q:TR} (hq:q ∈ rs):q.ok w:=by
 rcases h with rfl | ⟨b,off,e,hb,hr,hk⟩
 ·cases hq
 ·exact hk q hq
theorem pV.sl {rs:List TR} {ad ad0:Option Addr} {rows:List ER} {w:World} (h:pV rs ad rows) (hs:gp w ad0 rs):kX w ad rows:=by
 rcases h with rfl | ⟨t,ht,q,hq,rfl,rfl⟩
 ·exact .inl rfl
 ·exact Hl.mem (hs.mem ht) hq
theorem iQ (ad:Option Addr) (cap:Nat) (rs:List TR) (typ rel:ByteArray) (w:World) (hlen:rs.length≤1048576) (hs:gp w ad rs) (hl:∀ r ∈ rs,r.light) :
  Calls prog 84 #[.slice ad rs.length cap,.string typ,.string rel] w fun e w'=>(∃ (rows:List ER) (ad':Option Addr) (cap':Nat),e=.returned (.slice ad' rows.length cap')∧au rows=(fE (ah rs) typ rel).getD []∧kX w ad' rows∧pV rs ad' rows)∧w'=w:=by
 have HS:Hid (gp w ad rs):=hs;have HL:Hid (∀ r ∈ rs,r.light):=hl;clear hs hl;go_enter func84,ntmps84;go_wp2;go_loopw [7] (fun i wr=>∃ k:Nat,k≤rs.length∧i=.int .i64 k∧Hid (fE (ah (rs.drop k)) typ rel=fE (ah rs) typ rel)∧wr=w) (fun i _=>rs.length - (intOf i).toNat);case atStart=>exact ⟨0,Nat.zero_le _,rfl,rfl,rfl⟩
 case round =>
  obtain ⟨k,hk,rfl,HP,rfl⟩:=hrel;by_cases hlt:k < rs.length
  ·rcases HS.out with rfl | ⟨b,off,rfl,hb,hr,hok⟩
   ·simp at hlt
   obtain ⟨t0,t1⟩:=hr k hlt;have ok:=hok rs[k] (List.getElem_mem hlt);have lg:=(HL.out rs[k] (List.getElem_mem hlt)).1;have HOK:Hid (rs[k].ok wr):=ok;have hk1:=bR k;have hk2:(k:Int) < (rs.length:Int):=by omega
   clear hr hok ok;cases hq:(rs[k].name.toList == typ.toList) with
   | false =>
    have HP2:Hid (fE (ah (rs.drop (k + 1))) typ rel=fE (ah rs) typ rel):=by show _=_; rw [← HP.out,ll _ _ hlt]; simp [fE,hq]
    go_wp2_with fail;go_loopw [8] (fun i w2=>i=.int .i64 0∧w2=wr) (fun i _=>(intOf i).toNat);case atStart=>exact ⟨rfl,rfl⟩
    case round =>
     obtain ⟨rfl,rfl⟩:=hrel;go_wp2;go_roundw;case rel=>exact ⟨k + 1,by omega,by go_num,HP2,by first | rfl | trivial⟩
     case measure=>simp [intOf] <;> omega
   | true =>
    go_wp2_with fail;go_loopw [8] (fun i w2=>∃ j:Nat,j≤rs[k].rows.length∧i=.int .i64 j∧Hid (iJ (dO (rs[k].rows.drop j)) rel=iJ (dO rs[k].rows) rel)∧w2=wr) (fun i _=>rs[k].rows.length - (intOf i).toNat);case atStart=>exact ⟨0,Nat.zero_le _,rfl,rfl,rfl⟩
    case round =>
     obtain ⟨j,hj,rfl,HI,rfl⟩:=hrel;by_cases hjl:j < rs[k].rows.length
     ·rcases HOK.out with hnil | ⟨b2,off2,had,hb2,hr2,hok2⟩
      ·rw [hnil] at hjl; simp at hjl
      have t1':=t1;rw [had] at t1';obtain ⟨q0,q1⟩:=hr2 j hjl;have HOQ:Hid (rs[k].rows[j].ok _):=hok2 rs[k].rows[j] (List.getElem_mem hjl);have hj1:=bR j;have hj2:(j:Int) < (rs[k].rows.length:Int):=by omega
      clear hr2 hok2 had t1;cases hn:(rs[k].rows[j].name.toList == rel.toList) with
      | true =>
       have HN:Hid (au rs[k].rows[j].rows=(fE (ah rs) typ rel).getD []):=by
        have h1:iJ (dO rs[k].rows) rel=some (au rs[k].rows[j].rows):=by rw [← HI.out,BB _ _ hjl]; simp [iJ,hn]
        show _=_;rw [← HP.out,ll _ _ hlt];simp [fE,hq,h1]
       have HFS:Hid (pV rs rs[k].rows[j].ad rs[k].rows[j].rows):=.inr ⟨rs[k],List.getElem_mem hlt,rs[k].rows[j],List.getElem_mem hjl,rfl,rfl⟩;go_wp2;go_ret;exact ⟨⟨rs[k].rows[j].rows,_,_,rfl,HN.out,HOQ.out,HFS.out⟩,rfl⟩
      | false =>
       have HI2:Hid (iJ (dO (rs[k].rows.drop (j + 1))) rel=iJ (dO rs[k].rows) rel):=by show _=_; rw [← HI.out,BB _ _ hjl]; simp [iJ,hn]
       go_wp2;go_roundw;case rel=>exact ⟨j + 1,by omega,by go_num,HI2,by first | rfl | trivial⟩
       case measure=>simp [intOf] <;> omega
     ·have HP2:Hid (fE (ah (rs.drop (k + 1))) typ rel=fE (ah rs) typ rel):=by
       have h1:iJ (dO rs[k].rows) rel=none:=by rw [← HI.out,List.drop_of_length_le (by omega)]; rfl
       show _=_;rw [← HP.out,ll _ _ hlt];simp [fE,hq,h1]
      go_wp2;go_roundw;case rel=>exact ⟨k + 1,by omega,by go_num,HP2,by first | rfl | trivial⟩
      case measure=>simp [intOf] <;> omega
  ·have HN:Hid (au []=(fE (ah rs) typ rel).getD []):=by show _=_; rw [← HP.out,List.drop_of_length_le (by omega)]; rfl
   go_wp2;go_ret;exact ⟨⟨[],none,0,rfl,HN.out,.inl rfl,.inl rfl⟩,rfl⟩
def aT:List Ex→List Al
 | []=>[]
 | e::es=>if e.kind=1 then e.allow else aT es
theorem eU (rs:List ER) (k:Nat) (h:k < rs.length):au (rs.drop k)=rs[k].e::au (rs.drop (k + 1)):=by
 rw [List.drop_eq_getElem_cons h]; rfl
def II (rs:List ER) (ad:Option Addr) (xs:List Al):Prop:=xs=[] ∨ ∃ r ∈ rs,xs=r.e.allow∧ad=r.adA
theorem kX.mem {w:World} {ad:Option Addr} {rs:List ER} (h:kX w ad rs) {q:ER} (hq:q ∈ rs):q.ok w:=by
 rcases h with rfl | ⟨b,off,e,hb,hr,hk⟩
 ·cases hq
 ·exact hk q hq
theorem II.sl {rs:List ER} {ad ad0:Option Addr} {xs:List Al} {w:World} (h:II rs ad xs) (hs:kX w ad0 rs):kF w ad xs:=by
 rcases h with rfl | ⟨r,hr,rfl,rfl⟩
 ·exact .inl rfl
 ·exact (hs.mem hr).1
theorem ui (ad:Option Addr) (cap:Nat) (rs:List ER) (w:World) (hlen:rs.length≤1048576) (hs:kX w ad rs) :
  Calls prog 83 #[.slice ad rs.length cap] w fun e w'=>(∃ (ad':Option Addr) (cap':Nat),e=.returned (.slice ad' (aT (au rs)).length cap')∧kF w ad' (aT (au rs))∧II rs ad' (aT (au rs)))∧w'=w:=by
 have HS:Hid (kX w ad rs):=hs;clear hs;go_enter func83,ntmps83;go_wp2;go_loopw [3] (fun i wr=>∃ k:Nat,k≤rs.length∧i=.int .i64 k∧Hid (aT (au (rs.drop k))=aT (au rs))∧wr=w) (fun i _=>rs.length - (intOf i).toNat);case atStart=>exact ⟨0,Nat.zero_le _,rfl,rfl,rfl⟩
 case round =>
  obtain ⟨k,hk,rfl,HP,rfl⟩:=hrel;by_cases hlt:k < rs.length
  ·rcases HS.out with rfl | ⟨b,off,rfl,hb,hr,hok⟩
   ·simp at hlt
   obtain ⟨t0,t1,t2,t3,t4⟩:=hr k hlt;have HOK:Hid (rs[k].ok _):=hok rs[k] (List.getElem_mem hlt);have hk1:=bR k;have hk2:(k:Int) < (rs.length:Int):=by omega
   clear hr hok;by_cases hq:rs[k].e.kind=1
   ·have HN:Hid (aT (au rs)=rs[k].e.allow):=by show _=_; rw [← HP.out,eU _ _ hlt]; simp [aT,hq]
    go_wp2;go_ret;exact ⟨⟨rs[k].adA,rs[k].capA,by rw [HN.out]; rfl,by rw [HN.out]; exact HOK.out.1,.inr ⟨rs[k],List.getElem_mem hlt,HN.out,rfl⟩⟩,rfl⟩
   ·have HP2:Hid (aT (au (rs.drop (k + 1)))=aT (au rs)):=by show _=_; rw [← HP.out,eU _ _ hlt]; simp [aT,hq]
    have hqb:(rs[k].e.kind == 1)=false:=by simpa using hq
    go_wp2;go_roundw;case rel=>exact ⟨k + 1,by omega,by go_num,HP2,by first | rfl | trivial⟩
    case measure=>simp [intOf] <;> omega
  ·have HN:Hid (aT (au rs)=[]):=by show _=_; rw [← HP.out,List.drop_of_length_le (by omega)]; rfl
   go_wp2;go_ret;exact ⟨⟨none,0,by rw [HN.out]; rfl,by rw [HN.out]; exact .inl rfl,.inl HN.out⟩,rfl⟩
def bv:List Ex→Bool
 | [e]=>decide (e.kind=1) && e.allow.all fun a=>a.s.toList.isEmpty
 | _=>false
def wD (xs:List Al) (k:Nat):Bool:=(xs.take k).all fun a=>a.s.toList.isEmpty
theorem Dx (xs:List Al) (k:Nat) (h:k < xs.length):wD xs (k + 1)=(wD xs k && xs[k].s.toList.isEmpty):=by
 unfold wD; rw [List.take_succ_eq_append_getElem h,List.all_append]; simp
theorem FW (xs:List Al) (k:Nat) (h:k < xs.length) (hb:xs[k].s.toList.isEmpty=false):(xs.all fun a=>a.s.toList.isEmpty)=false:=by
 rw [Bool.eq_false_iff]; intro h2; rw [List.all_eq_true] at h2; have:=h2 xs[k] (List.getElem_mem h); rw [hb] at this; cases this
theorem Ah (ad:Option Addr) (cap:Nat) (rs:List ER) (w:World) (hlen:rs.length≤1048576) (hs:kX w ad rs) (hl:∀ r ∈ rs,r.e.light) :
  Calls prog 116 #[.slice ad rs.length cap] w fun e w'=>e=.returned (.bool (bv (au rs)))∧w'=w:=by
 by_cases h1:rs.length=1
 ·obtain ⟨r,rfl⟩:∃ r,rs=[r]:=List.length_eq_one_iff.1 h1;rcases hs with h | ⟨b,off,rfl,hb,hr,hok⟩
  ·cases h
  obtain ⟨t0,t1,t2,t3,t4⟩:=hr 0 (by simp);simp only [Nat.zero_mul,Nat.add_zero,List.getElem_cons_zero] at t0 t1 t2 t3 t4;have HOK:Hid (r.ok w):=hok r (by simp);obtain ⟨lg,-⟩:=hl r (by simp);clear hr hok h1;simp only [List.length_cons,List.length_nil,Nat.zero_add];by_cases hq:r.e.kind=1
  ·have HD:Hid (bv (au [r])=r.e.allow.all fun a=>a.s.toList.isEmpty):=by show _=_; simp [bv,au,hq]
   go_enter func116,ntmps116;go_wp2;go_loopw [3] (fun i wr=>∃ k:Nat,k≤r.e.allow.length∧i=.int .i64 k∧Hid (wD r.e.allow k=true)∧wr=w) (fun i _=>r.e.allow.length - (intOf i).toNat);case atStart=>exact ⟨0,Nat.zero_le _,rfl,(by show _=_; simp [wD]),rfl⟩
   case round =>
    obtain ⟨k,hk,rfl,HP,rfl⟩:=hrel;by_cases hlt:k < r.e.allow.length
    ·rcases HOK.out.1 with hnil | ⟨ba,offa,hadA,hba,hra⟩
     ·rw [hnil] at hlt; simp at hlt
     have t1':=t1;rw [hadA] at t1';obtain ⟨q0,q1⟩:=hra k hlt;have hk1:=bR k;have hk2:(k:Int) < (r.e.allow.length:Int):=by omega
     clear hra hadA t1;cases he:r.e.allow[k].s.toList.isEmpty with
     | true =>
      have HP2:Hid (wD r.e.allow (k + 1)=true):=by show _=_; rw [Dx _ _ hlt,HP.out,he]; rfl
      go_wp2;go_roundw;case rel=>exact ⟨k + 1,by omega,by go_num,HP2,by first | rfl | trivial⟩
      case measure=>simp [intOf] <;> omega
     | false =>
      have HN:Hid (bv (au [r])=false):=by show _=_; rw [HD.out]; exact FW _ k hlt he
      go_wp2;go_ret;exact ⟨by rw [HN.out]; rfl,rfl⟩
    ·have HN:Hid (bv (au [r])=true):=by
      show _=_;rw [HD.out];have:=HP.out;unfold wD at this;rwa [List.take_of_length_le (by omega)] at this
     go_wp2;go_ret;exact ⟨by rw [HN.out]; rfl,rfl⟩
  ·have HN:Hid (bv (au [r])=false):=by show _=_; simp [bv,au,hq]
   have hqb:(r.e.kind != 1)=true:=by simpa using hq
   go_enter func116,ntmps116;go_wp2;go_ret;exact ⟨by rw [HN.out]; rfl,rfl⟩
 ·have HN:Hid (bv (au rs)=false):=by
   show _=_
   match rs,h1 with
   | [],_=>rfl
   | [r],h=>exact absurd rfl h
   | a::b::r,_=>rfl
  have h1':((rs.length:Int) != 1)=true:=by simp; omega
  go_enter func116,ntmps116;go_wp2;go_ret;exact ⟨by rw [HN.out]; rfl,rfl⟩
def aN (ts:List Ty) (ty n:ByteArray):List Ex:=(fE ts ty n).getD []
def gl (ts:List Ty) (rel:ByteArray):List Al→List ByteArray
 | []=>[]
 | a::xs=>if (aN ts a.t rel).isEmpty then gl ts rel xs else a.t::gl ts rel xs
def fH (ts:List Ty) (ty over rel:ByteArray):List ByteArray:=gl ts rel (aT (aN ts ty over))
theorem yY (ts:List Ty) (rel:ByteArray) (xs ys:List Al):gl ts rel (xs ++ ys)=gl ts rel xs ++ gl ts rel ys:=by
 induction xs with
 | nil=>rfl
 | cons a xs ih=>simp only [List.cons_append,gl,ih]; split <;> simp
theorem LA (ts:List Ty) (rel:ByteArray) (xs:List Al) (k:Nat) (h:k < xs.length) (he:aN ts xs[k].t rel=[]):gl ts rel (xs.take (k + 1))=gl ts rel (xs.take k):=by
 rw [List.take_succ_eq_append_getElem h,yY]; simp [gl,he]
theorem IJ (ts:List Ty) (rel:ByteArray) (xs:List Al) (k:Nat) (h:k < xs.length) (he:aN ts xs[k].t rel ≠ []):gl ts rel (xs.take (k + 1))=gl ts rel (xs.take k) ++ [xs[k].t]:=by
 rw [List.take_succ_eq_append_getElem h,yY]; simp [gl,he]
theorem Dy (ts:List Ty) (rel:ByteArray) (xs:List Al):(gl ts rel xs).length≤xs.length:=by
 induction xs with
 | nil=>simp [gl]
 | cons a xs ih=>simp only [gl]; split <;> simp <;> omega
theorem FX:(prog.info? 9).map (fun i=>(i.zero,i.size,i.bytes))=some (some (.string ⟨#[]⟩),1,16):=by kernel_rfl
def nJ (xs:List ByteArray):List Value:=xs.map Value.string
def Kq (w:World) (ad:Option Addr) (xs:List ByteArray):Prop:=xs=[] ∨ ∃ b off,ad=some ⟨b,off,none⟩∧b < w.heap.size∧∀ (i:Nat) (h:i < xs.length),w.cell? ⟨b,off + i,none⟩=some (.string xs[i])
theorem Kq.below {w w':World} {ad:Option Addr} {xs:List ByteArray} (h:Kq w ad xs) (hB:Below w.heap.size w w'):Kq w' ad xs:=by
 rcases h with h | ⟨b,off,e,hb,hr⟩
 ·exact .inl h
 ·exact .inr ⟨b,off,e,Nat.lt_of_lt_of_le hb hB.size,fun i hi=>(hB.cell (p:=⟨b,off + i,none⟩) hb).trans (hr i hi)⟩
theorem IK {w:World} {base k:Nat} {v:Value} {xs:List ByteArray} (h:w.ownsRow base 9 1 v k (nJ xs)):∃ ad cp,v=.slice ad xs.length cp∧Kq w ad xs∧∀ p,ad=some p→base≤p.block:=by
 have hl:xs.length=k:=by have:=h.1; simpa [nJ] using this
 have h2:=h;rcases h.2 with ⟨rfl,h0⟩ | ⟨g,cp,cur,rfl,hbg,hg,hnc,-⟩
 ·refine ⟨none,0,?_,.inl (List.length_eq_zero_iff.1 (by omega)),fun p hp=>by cases hp⟩;rw [hl,h0]
 ·have hlt:=h2.lt g rfl;refine ⟨_,cp,by rw [hl],.inr ⟨g,0,rfl,hlt.2,fun j hj=>?_⟩,fun p hp=>by injection hp with hp; rw [← hp]; exact hlt.1⟩;have:=h2.cells (g:=g) rfl j (.string xs[j]) (by simp [nJ,hj]);rw [Nat.zero_add];have e:(⟨g,0,none⟩:Addr).add j=⟨g,j,none⟩:=by
   unfold Addr.add;by_cases hj:j=0
   ·subst hj; simp
   ·simp [hj]
  rwa [e] at this
theorem pV.light {rs:List TR} {ad:Option Addr} {rows:List ER} (h:pV rs ad rows) (hl:∀ r ∈ rs,r.light):rows.length≤1048576∧∀ q ∈ rows,q.e.light:=by
 rcases h with rfl | ⟨t,ht,q,hq,rfl,-⟩
 ·exact ⟨by simp,by simp⟩
 ·exact (hl t ht).2 q hq
theorem wE (rows:List ER) (hl:∀ q ∈ rows,q.e.light):(aT (au rows)).length≤1048576:=by
 induction rows with
 | nil=>simp [au,aT]
 | cons r rows ih =>
  have e:au (r::rows)=r.e::au rows:=rfl;rw [e];simp only [aT];split
  ·exact (hl r (by simp)).1
  ·exact ih fun q hq=>hl q (by simp [hq])
set_option maxRecDepth 100000 in
theorem uj (ad:Option Addr) (cap:Nat) (rs:List TR) (typ over rel:ByteArray) (w:World) (hlen:rs.length≤1048576) (hs:gp w ad rs) (hl:∀ r ∈ rs,r.light) :
  Calls prog 117 #[.slice ad rs.length cap,.string typ,.string over,.string rel] w fun e w'=>(∃ (ad':Option Addr) (cap':Nat),e=.returned (.slice ad' (fH (ah rs) typ over rel).length cap')∧Kq w' ad' (fH (ah rs) typ over rel)∧∀ p,ad'=some p→w.heap.size≤p.block)∧Below w.heap.size w w':=by
 have HS:Hid (gp w ad rs):=hs;have HL:Hid (∀ r ∈ rs,r.light):=hl;clear hs hl;obtain ⟨i0,hi,hz0,hz1,hz2⟩:=info_parts FX;go_enter func117,ntmps117;go_wp2_with fail;have hbA:Below w.heap.size w (w.alloc (.cells #[] 9)):=(Below.refl _ _).alloc (Nat.le_refl _) _;have hown1:(w.alloc (.cells #[] 9)).ownsRow w.heap.size 9 1 (.slice (some ⟨w.heap.size,0,none⟩) 0 0) 0 []:=World.ownsRow_made w #[] 0 (Nat.le_refl _) (by decide) rfl;refine (iQ ad cap rs typ over _ hlen (HS.out.below hbA) HL.out).mono ?_;rintro e w1 ⟨⟨rows,ad1,cap1,rfl,hx1,hs1,hf1⟩,rfl⟩;have hl1:=hf1.light HL.out;have hal:=wE rows hl1.2;go_wp2_with fail;refine (ui ad1 cap1 rows _ hl1.1 hs1).mono ?_;rintro e w1 ⟨⟨ad2,cap2,rfl,-,hf2⟩,rfl⟩;have HG:Hid (fH (ah rs) typ over rel=gl (ah rs) rel (aT (au rows))):=by show _=_; rw [hx1]; rfl
 have HA:Hid (kF w ad2 (aT (au rows))):=hf2.sl (hf1.sl HS.out);generalize aT (au rows)=xs at *
 clear hs1 hx1 hf1 hl1 hf2;have HBA:Hid (Below w.heap.size w (w.alloc (.cells #[] 9))):=hbA;have HO1:Hid ((w.alloc (.cells #[] 9)).ownsRow w.heap.size 9 1 (.slice (some ⟨w.heap.size,0,none⟩) 0 0) 0 []):=hown1;clear hbA hown1;obtain ⟨wA,hwA⟩:∃ wA,wA=w.alloc (.cells #[] 9):=⟨_,rfl⟩;rw [← hwA] at HBA HO1 ⊢;clear hwA;go_wp2_with fail;go_loopw [9,11] (fun v i wr=>∃ k:Nat,k≤xs.length∧i=.int .i64 k∧wr.ownsRow w.heap.size 9 1 v (gl (ah rs) rel (xs.take k)).length (nJ (gl (ah rs) rel (xs.take k)))∧Below w.heap.size w wr) (fun _ i _=>xs.length - (intOf i).toNat);case atStart=>exact ⟨0,Nat.zero_le _,rfl,by simpa [nJ,gl] using HO1.out,HBA.out⟩
 case round =>
  obtain ⟨k,hk,rfl,hown,hB⟩:=hrel;by_cases hlt:k < xs.length
  ·have HST:Hid (gp _ ad rs):=HS.out.below hB;rcases HA.out.below hB with rfl | ⟨b,off,rfl,hb,hr⟩
   ·simp at hlt
   obtain ⟨t0,t1⟩:=hr k hlt;have hBs:=hB.size;have hgl:=Dy (ah rs) rel (xs.take k);rw [List.length_take] at hgl;have HBH:Hid (Below w.heap.size w wr):=hB;have HOW:Hid (wr.ownsRow w.heap.size 9 1 _ _ _):=hown;clear hr hB hown;go_wp2_with fail;refine (iQ ad cap rs xs[k].t rel _ hlen HST.out HL.out).mono ?_;rintro e w1 ⟨⟨rows2,ad3,cap3,rfl,hx3,-,-⟩,rfl⟩;by_cases hz:rows2.length=0
   ·have HE:Hid (gl (ah rs) rel (xs.take (k + 1))=gl (ah rs) rel (xs.take k)):=by
     refine LA _ _ _ _ hlt ?_;show _=_;unfold aN;rw [← hx3,List.length_eq_zero_iff.1 hz]; rfl
    rw [hz];clear hx3;go_wp2;go_roundw;case rel=>exact ⟨k + 1,by omega,by go_num,by rw [HE.out]; exact HOW.out,HBH.out⟩
    case measure=>simp [intOf] <;> omega
   ·have HX:Hid (gl (ah rs) rel (xs.take (k + 1))=gl (ah rs) rel (xs.take k) ++ [xs[k].t]):=by
     refine IJ _ _ _ _ hlt ?_;show ¬ _=_;unfold aN;rw [← hx3];intro h2;apply hz;rw [← bq,h2]; rfl
    have hzz:(0:Int) < (rows2.length:Int):=by omega
    clear hx3;go_wp2_with (at_builtin; refine wpList_append_own _ rfl _ _ 130 rfl w.heap.size 9 i0 (.string ⟨#[]⟩) 1 16 underlying130 hi hz0 hz1 hz2 rfl (by decide) _ _ _ rfl (HOW.out.alloc _) ⟨w1.heap.size,0,none⟩ 1 1 [.string xs[k].t] rfl rfl (cell_one_new _ _ _) (by intro u hu; simp at hu; subst hu; rfl) (by unfold maxLen; omega) (by omega) (by simp; omega) ?_);intro v' w3 hown3 hgrow _;have hb3:Below w.heap.size w w3:=(HBH.out.alloc HBH.out.size _).grown hgrow (by simp; omega) (fun i hi=>(HOW.out.lt i hi).1);have HO3:Hid (w3.ownsRow w.heap.size 9 1 v' (gl (ah rs) rel (xs.take (k + 1))).length (nJ (gl (ah rs) rel (xs.take (k + 1))))):=by
     show World.ownsRow _ _ _ _ _ _ _;rw [HX.out];simpa [nJ] using hown3
    clear hown3 hgrow HOW;go_wp2;go_roundw;case rel=>exact ⟨k + 1,by omega,by go_num,HO3.out,hb3⟩
    case measure=>simp [intOf] <;> omega
  ·obtain rfl:k=xs.length:=by omega
   have HE:Hid (xs.take xs.length=xs):=by show _=_; rw [List.take_length]
   rw [HE.out,← HG.out] at hown;obtain ⟨ad',cp,rfl,hsl,hnew⟩:=IK hown;have HNW:Hid (∀ p,ad'=some p→w.heap.size≤p.block):=hnew;have HSL:Hid (Kq _ ad' (fH (ah rs) typ over rel)):=hsl;have HBH:Hid (Below w.heap.size w _):=hB;clear hsl hB hown hnew;go_wp2;go_ret;exact ⟨⟨ad',cp,rfl,HSL.out,HNW.out⟩,HBH.out⟩
def mY (ts:List Ty) (a:Al):Bool:=jN ts a.t && (a.s.toList.isEmpty || !(aN ts a.t a.s).isEmpty)
def nK (ts:List Ty) (xs:List Al):Bool:=xs.all (mY ts)
def kS (ts:List Ty) (typ:ByteArray) (e:Ex):Bool :=
 if e.kind=2 then !(aN ts typ e.name).isEmpty
 else if e.kind=3 then bv (aN ts typ e.over) && !(fH ts typ e.over e.name).isEmpty
 else true
def aO (ts:List Ty) (typ:ByteArray):List Ex→Bool
 | []=>true
 | e::es=>if nK ts e.allow && kS ts typ e then aO ts typ es else false
def lm (ts:List Ty) (xs:List Al) (k:Nat):Bool:=nK ts (xs.take k)
theorem wF (ts:List Ty) (xs:List Al):lm ts xs 0=true:=by simp [lm,nK]
theorem mi (ts:List Ty) (xs:List Al) (k:Nat) (h:k < xs.length):lm ts xs (k + 1)=(lm ts xs k && mY ts xs[k]):=by
 unfold lm nK; rw [List.take_succ_eq_append_getElem h,List.all_append]; simp
theorem rz (ts:List Ty) (xs:List Al) (k:Nat) (h:k < xs.length) (hb:mY ts xs[k]=false):nK ts xs=false:=by
 unfold nK;rw [Bool.eq_false_iff]; intro h2; rw [List.all_eq_true] at h2; have:=h2 xs[k] (List.getElem_mem h); rw [hb] at this; cases this
theorem ak {w w':World} {g o:Nat} {v:Value} (hB:Below w.heap.size w w') (hg:g < w.heap.size) (h:w.cell? ⟨g,o,none⟩=some v):w'.cell? ⟨g,o,none⟩=some v:=(hB.cell (p:=⟨g,o,none⟩) hg).trans h
set_option maxRecDepth 8000 in
theorem Dz (ad adE:Option Addr) (cap capE:Nat) (rs:List TR) (typ:ByteArray) (rows:List ER) (w:World) (hlen:rs.length≤1048576) (hs:gp w ad rs) (hl:∀ r ∈ rs,r.light) (hle:rows.length≤1048576) (hse:kX w adE rows) (hlE:∀ q ∈ rows,q.e.light) :
  Calls prog 80 #[.slice ad rs.length cap,.string typ,.slice adE rows.length capE] w fun e w'=>e=.returned (.bool (aO (ah rs) typ (au rows)))∧Below w.heap.size w w':=by
 have HS:Hid (gp w ad rs):=hs;have HL:Hid (∀ r ∈ rs,r.light):=hl;have HE:Hid (kX w adE rows):=hse;have HLE:Hid (∀ q ∈ rows,q.e.light):=hlE;clear hs hl hse hlE;go_enter func80,ntmps80;go_wp2_with fail;go_loopw [7] (fun i wr=>∃ k:Nat,k≤rows.length∧i=.int .i64 k∧Hid (aO (ah rs) typ (au (rows.drop k))=aO (ah rs) typ (au rows))∧Hid (Below w.heap.size w wr)) (fun i _=>rows.length - (intOf i).toNat);case atStart=>exact ⟨0,Nat.zero_le _,rfl,rfl,Below.refl _ _⟩
 case round =>
  obtain ⟨k,hk,rfl,HP,HB⟩:=hrel;by_cases hlt:k < rows.length
  ·have HS1:Hid (gp _ ad rs):=HS.out.below HB.out;rcases HE.out.below HB.out with rfl | ⟨b,off,rfl,hb,hr,hok⟩
   ·simp at hlt
   obtain ⟨t0,t1,t2,t3,t4⟩:=hr k hlt;have HOK:Hid (rows[k].ok wr):=hok rows[k] (List.getElem_mem hlt);have lg:=(HLE.out rows[k] (List.getElem_mem hlt)).1;have hk1:=bR k;have hk2:(k:Int) < (rows.length:Int):=by omega
   clear hr hok;obtain ⟨W1,hW1⟩:∃ W1,W1=wr.alloc (.cells #[.int .i64 rows[k].e.kind,.slice rows[k].adA rows[k].e.allow.length rows[k].capA,.string rows[k].e.over,.string rows[k].e.name,.slice rows[k].adK rows[k].e.kids.length rows[k].capK] 139):=⟨_,rfl⟩;have hal:Below wr.heap.size wr W1:=by rw [hW1]; exact (Below.refl _ _).alloc (Nat.le_refl _) _
   have HAL:Hid (Below wr.heap.size wr W1):=hal;have HBW:=gW HB hal;have hgl:wr.heap.size < W1.heap.size:=by rw [hW1]; simp
   have g0:W1.cell? ⟨wr.heap.size,0,none⟩=some (.int .i64 rows[k].e.kind):=by rw [hW1]; simp
   have g1:W1.cell? ⟨wr.heap.size,1,none⟩=some (.slice rows[k].adA rows[k].e.allow.length rows[k].capA):=by rw [hW1]; simp
   have g2:W1.cell? ⟨wr.heap.size,2,none⟩=some (.string rows[k].e.over):=by rw [hW1]; simp
   have g3:W1.cell? ⟨wr.heap.size,3,none⟩=some (.string rows[k].e.name):=by rw [hW1]; simp
   clear hal;go_wp2_with fail;rw [← hW1];clear hW1;go_loopw [9] (fun i w2=>∃ j:Nat,j≤rows[k].e.allow.length∧i=.int .i64 j∧Hid (lm (ah rs) rows[k].e.allow j=true)∧Hid (Below W1.heap.size W1 w2)) (fun i _=>rows[k].e.allow.length - (intOf i).toNat);case atStart=>exact ⟨0,Nat.zero_le _,rfl,wF _ _,Below.refl _ _⟩
   case round =>
    obtain ⟨j,hj,rfl,HJ,HB2⟩:=hrel;have d0:=ak HB2.out hgl g0;have d1:=ak HB2.out hgl g1;have d2:=ak HB2.out hgl g2;have d3:=ak HB2.out hgl g3;clear g0 g1 g2 g3 t0 t1 t2 t3 t4;have HBO:Hid (Below w.heap.size w _):=HBW.out.trans (HB2.out.mono HBW.out.size);have HS2:Hid (gp _ ad rs):=HS.out.below HBO.out;by_cases hjl:j < rows[k].e.allow.length
    ·have hA2:kF _ rows[k].adA rows[k].e.allow:=((HOK.out.1).below HAL.out).below HB2.out;rcases hA2 with hnil | ⟨ba,offa,hadA,hba,hra⟩
     ·rw [hnil] at hjl; simp at hjl
     rw [hadA] at d1;obtain ⟨q0,q1⟩:=hra j hjl;have hj1:=bR j;have hj2:(j:Int) < (rows[k].e.allow.length:Int):=by omega
     clear hra hadA;go_wp2_with fail;refine (Dw ad cap rs _ _ hlen (HS2.out.below ((Below.refl _ _).alloc (Nat.le_refl _) _))).mono ?_;rintro e w3 ⟨rfl,rfl⟩;cases hty:jN (ah rs) rows[k].e.allow[j].t with
     | false =>
      have HN:Hid (aO (ah rs) typ (au rows)=false):=by
       show _=_;rw [← HP.out,eU _ _ hlt];simp [aO,rz (ah rs) _ j hjl (by simp [mY,hty])]
      go_wp2;go_ret;exact ⟨by rw [HN.out]; rfl,HBO.out.alloc HBO.out.size _⟩
     | true =>
      cases he:rows[k].e.allow[j].s.toList.isEmpty with
      | true =>
       have HJ2:Hid (lm (ah rs) rows[k].e.allow (j + 1)=true):=by show _=_; rw [mi _ _ _ hjl,HJ.out]; simp [mY,hty,he]
       go_wp2;go_roundw;case rel=>exact ⟨j + 1,by omega,by go_num,HJ2,HB2.out.alloc HB2.out.size _⟩
       case measure=>simp [intOf] <;> omega
      | false =>
       go_wp2_with fail;refine (iQ ad cap rs _ _ _ hlen (HS2.out.below ((Below.refl _ _).alloc (Nat.le_refl _) _)) HL.out).mono ?_;rintro e w3 ⟨⟨rows2,ad3,cap3,rfl,hx3,-,-⟩,rfl⟩;by_cases hz:rows2.length=0
       ·have HN:Hid (aO (ah rs) typ (au rows)=false):=by
         have h1:aN (ah rs) rows[k].e.allow[j].t rows[k].e.allow[j].s=[]:=by unfold aN; rw [← hx3,List.length_eq_zero_iff.1 hz]; rfl
         show _=_;rw [← HP.out,eU _ _ hlt];simp [aO,rz (ah rs) _ j hjl (by simp [mY,he,h1])]
        rw [hz];clear hx3;go_wp2;go_ret;exact ⟨by rw [HN.out]; rfl,HBO.out.alloc HBO.out.size _⟩
       ·have HJ2:Hid (lm (ah rs) rows[k].e.allow (j + 1)=true):=by
         have h1:aN (ah rs) rows[k].e.allow[j].t rows[k].e.allow[j].s ≠ []:=by
          unfold aN;rw [← hx3];intro h2;apply hz;rw [← bq,h2]; rfl
         show _=_;rw [mi _ _ _ hjl,HJ.out]; simp [mY,hty,h1]
        have hzb:((rows2.length:Int) == 0)=false:=by simp; intro h; apply hz; rw [h]; rfl
        clear hx3;go_wp2;go_roundw;case rel=>exact ⟨j + 1,by omega,by go_num,HJ2,HB2.out.alloc HB2.out.size _⟩
        case measure=>simp [intOf] <;> omega
    ·have HRA:Hid (nK (ah rs) rows[k].e.allow=true):=by
      have:=HJ.out;unfold lm at this;rwa [List.take_of_length_le (by omega)] at this
     by_cases h2:rows[k].e.kind=2
     ·go_wp2_with fail;refine (iQ ad cap rs _ _ _ hlen HS2.out HL.out).mono ?_;rintro e w3 ⟨⟨rows2,ad3,cap3,rfl,hx3,-,-⟩,rfl⟩;by_cases hz:rows2.length=0
      ·have HN:Hid (aO (ah rs) typ (au rows)=false):=by
        have h1:aN (ah rs) typ rows[k].e.name=[]:=by unfold aN; rw [← hx3,List.length_eq_zero_iff.1 hz]; rfl
        show _=_;rw [← HP.out,eU _ _ hlt];simp [aO,kS,h2,h1]
       rw [hz];clear hx3;go_wp2;go_ret;exact ⟨by rw [HN.out]; rfl,HBO.out⟩
      ·have HP2:Hid (aO (ah rs) typ (au (rows.drop (k + 1)))=aO (ah rs) typ (au rows)):=by
        have h1:aN (ah rs) typ rows[k].e.name ≠ []:=by
         unfold aN;rw [← hx3];intro h2;apply hz;rw [← bq,h2]; rfl
        show _=_;rw [← HP.out,eU _ _ hlt];simp [aO,kS,h2,h1,HRA.out]
       have hzb:((rows2.length:Int) == 0)=false:=by simp; intro h; apply hz; rw [h]; rfl
       clear hx3;go_wp2;go_roundw;case rel=>exact ⟨k + 1,by omega,by go_num,HP2,HBO⟩
       case measure=>simp [intOf] <;> omega
     by_cases h3:rows[k].e.kind=3
     ·go_wp2_with fail;refine (iQ ad cap rs _ _ _ hlen HS2.out HL.out).mono ?_;rintro e w3 ⟨⟨rows2,ad3,cap3,rfl,hx3,hs3,hf3⟩,rfl⟩;have hl3:=hf3.light HL.out;go_wp2_with fail;refine (Ah ad3 cap3 rows2 _ hl3.1 hs3 hl3.2).mono ?_;rintro e w3 ⟨rfl,rfl⟩;have HX:Hid (au rows2=aN (ah rs) typ rows[k].e.over):=hx3;clear hx3 hs3 hf3 hl3;rw [HX.out];cases hd:bv (aN (ah rs) typ rows[k].e.over) with
      | false =>
       have HN:Hid (aO (ah rs) typ (au rows)=false):=by
        show _=_;rw [← HP.out,eU _ _ hlt];simp [aO,kS,h3,hd]
       go_wp2;go_ret;exact ⟨by rw [HN.out]; rfl,HBO.out⟩
      | true =>
       go_wp2_with fail;refine (uj ad cap rs _ _ _ _ hlen HS2.out HL.out).mono ?_;rintro e w4 ⟨⟨ad4,cap4,rfl,-⟩,hb4⟩;have HB4:=gW HBO hb4;clear hb4;by_cases hz:(fH (ah rs) typ rows[k].e.over rows[k].e.name).length=0
       ·have HN:Hid (aO (ah rs) typ (au rows)=false):=by
         show _=_;rw [← HP.out,eU _ _ hlt];simp [aO,kS,h3,List.length_eq_zero_iff.1 hz]
        rw [hz];go_wp2;go_ret;exact ⟨by rw [HN.out]; rfl,HB4.out⟩
       ·have HP2:Hid (aO (ah rs) typ (au (rows.drop (k + 1)))=aO (ah rs) typ (au rows)):=by
         have h1:fH (ah rs) typ rows[k].e.over rows[k].e.name ≠ []:=by intro h; apply hz; rw [h]; rfl
         show _=_;rw [← HP.out,eU _ _ hlt];simp [aO,kS,h3,h1,hd,HRA.out]
        have hzb:(((fH (ah rs) typ rows[k].e.over rows[k].e.name).length:Int) == 0)=false:=by simp; intro h; apply hz; rw [h]; rfl
        go_wp2;go_roundw;case rel=>exact ⟨k + 1,by omega,by go_num,HP2,HB4⟩
        case measure=>simp [intOf] <;> omega
     ·have HP2:Hid (aO (ah rs) typ (au (rows.drop (k + 1)))=aO (ah rs) typ (au rows)):=by
       show _=_;rw [← HP.out,eU _ _ hlt];simp [aO,kS,h2,h3,HRA.out]
      have hb2:(rows[k].e.kind == 2)=false:=by simpa using h2
      have hb3:(rows[k].e.kind == 3)=false:=by simpa using h3
      go_wp2;go_roundw;case rel=>exact ⟨k + 1,by omega,by go_num,HP2,HBO⟩
      case measure=>simp [intOf] <;> omega
  ·have HN:Hid (aO (ah rs) typ (au rows)=true):=by show _=_; rw [← HP.out,List.drop_of_length_le (by omega)]; rfl
   go_wp2;go_ret;exact ⟨by rw [HN.out]; rfl,HB.out⟩
end Go.Proofs.YteoflgocljfgeaaGreatDoor
