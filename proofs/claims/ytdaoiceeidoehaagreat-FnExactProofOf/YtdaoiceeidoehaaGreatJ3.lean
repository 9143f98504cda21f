/- Contracts of the document's functions on whom a relation allows, on what is told by objects, and on goals. -/
import Derived.Test.YtdaoiceeidoehaaGreatJ2
import Derived.OwnWalk
import Derived.Maps.AppendAt
open Go.Proofs.Tryz
set_option maxHeartbeats 80000000
namespace Go.Proofs.YtdaoiceeidoehaaGreat
open Go.ChangeShapes Go.WideShapes Go.ChangeAt Go.RowKit
open Pl
def aQ:List Ex→List Al
 | []=>[]
 | e::es=>if e.kind=1 then e.allow else aQ es
theorem fE (rs:List ER) (k:Nat) (h:k < rs.length):ah (rs.drop k)=rs[k].e::ah (rs.drop (k + 1)):=by
 rw [Sr h]; rfl
def LF (rs:List ER) (ad:Option Addr) (xs:List Al):Prop:=xs=[] ∨ ∃ r ∈ rs,xs=r.e.allow∧ad=r.adA
theorem eX.mem {w:World} {ad:Option Addr} {rs:List ER} (h:eX w ad rs) {q:ER} (hq:q ∈ rs):q.ok w:=by
 rcases h with rfl | ⟨b,off,e,hb,hr,hk⟩
 ·cases hq
 ·exact hk q hq
theorem LF.sl {rs:List ER} {ad ad0:Option Addr} {xs:List Al} {w:World} (h:LF rs ad xs) (hs:eX w ad0 rs):iy w ad xs:=by
 rcases h with rfl | ⟨r,hr,rfl,rfl⟩
 ·exact .inl rfl
 ·exact (hs.mem hr).1
theorem uU (ad:Option Addr) (cap:Nat) (rs:List ER) (w:World) (hlen:rs.length≤1048576) (hs:eX w ad rs) :
  Calls prog 82 #[.slice ad rs.length cap] w fun e w'=>(∃ (SQ:Option Addr) (cap':Nat),e=.returned (.slice SQ (aQ (ah rs)).length cap')∧iy w SQ (aQ (ah rs))∧LF rs SQ (aQ (ah rs)))∧w'=w:=by
 have HS:=aC hs;clear hs;go_enter func82,ntmps82;go_wp2;go_loopw [3] (fun i wr=>∃ k:Nat,k≤rs.length∧i=.int .i64 k∧Hid (aQ (ah (rs.drop k))=aQ (ah rs))∧wr=w) (fun i _=>rs.length - (intOf i).toNat);case atStart=>exact ⟨0,R6 _,rfl,rfl,rfl⟩
 case round =>
  obtain ⟨k,hk,rfl,HP,rfl⟩:=hrel;by_cases hlt:k < rs.length
  ·rcases HS.out with rfl | ⟨b,off,rfl,hb,hr,hok⟩
   ·simp at hlt
   obtain ⟨t0,t1,t2,t3,t4⟩:=hr k hlt;have Ub:Hid (rs[k].ok _):=hok rs[k] (RY hlt);have hk1:=bn k;have hk2:(k:Int) < (rs.length:Int):=by omega
   clear hr hok;by_cases hq:rs[k].e.kind=1
   ·have HN:Hid (aQ (ah rs)=rs[k].e.allow):=by show _=_; rw [← HP.out,fE _ _ hlt]; simp [aQ,hq]
    go_wp2;go_ret;exact ⟨⟨rs[k].adA,rs[k].capA,by rw [HN.out]; rfl,by rw [HN.out]; exact Ub.out.1,.inr ⟨rs[k],RY hlt,HN.out,rfl⟩⟩,rfl⟩
   ·have Td:Hid (aQ (ah (rs.drop (k + 1)))=aQ (ah rs)):=by show _=_; rw [← HP.out,fE _ _ hlt]; simp [aQ,hq]
    have hqb:(rs[k].e.kind == 1)=false:=by simpa using hq
    go_wp2;go_roundw;case rel=>exact ⟨k + 1,by omega,by go_num,Td,by first | rfl | trivial⟩
    case measure=>simp [intOf] <;> omega
  ·have HN:Hid (aQ (ah rs)=[]):=by show _=_; rw [← HP.out,List.drop_of_length_le (by omega)]; rfl
   go_wp2;go_ret;exact ⟨⟨none,0,by rw [HN.out]; rfl,by rw [HN.out]; exact .inl rfl,.inl HN.out⟩,rfl⟩
def bi:List Ex→Bool
 | [e]=>decide (e.kind=1) && e.allow.all fun a=>a.s.toList.isEmpty
 | _=>false
def xB (xs:List Al) (k:Nat):Bool:=(xs.take k).all fun a=>a.s.toList.isEmpty
theorem Gc (xs:List Al) (k:Nat) (h:k < xs.length):xB xs (k + 1)=(xB xs k && xs[k].s.toList.isEmpty):=by
 unfold xB; rw [R5 h,List.all_append]; simp
theorem JK (xs:List Al) (k:Nat) (h:k < xs.length) (hb:xs[k].s.toList.isEmpty=false):(xs.all fun a=>a.s.toList.isEmpty)=false:=by
 rw [Bool.eq_false_iff]; intro h2; rw [Sg] at h2; have:=h2 xs[k] (RY h); rw [hb] at this; cases this
theorem Ca (ad:Option Addr) (cap:Nat) (rs:List ER) (w:World) (hlen:rs.length≤1048576) (hs:eX w ad rs) (hl:∀ r ∈ rs,r.e.light) :
  Calls prog 112 #[.slice ad rs.length cap] w fun e w'=>e=.returned (.bool (bi (ah rs)))∧w'=w:=by
 by_cases h1:rs.length=1
 ·obtain ⟨r,rfl⟩:∃ r,rs=[r]:=List.length_eq_one_iff.1 h1;rcases hs with h | ⟨b,off,rfl,hb,hr,hok⟩
  ·cases h
  obtain ⟨t0,t1,t2,t3,t4⟩:=hr 0 (by simp);simp only [Nat.zero_mul,Nat.add_zero,List.getElem_cons_zero] at t0 t1 t2 t3 t4;have Ub:Hid (r.ok w):=hok r (by simp);obtain ⟨lg,-⟩:=hl r (by simp);clear hr hok h1;simp only [List.length_cons,List.length_nil,Su];by_cases hq:r.e.kind=1
  ·have HD:Hid (bi (ah [r])=r.e.allow.all fun a=>a.s.toList.isEmpty):=by show _=_; simp [bi,ah,hq]
   go_enter func112,ntmps112;go_wp2;go_loopw [3] (fun i wr=>∃ k:Nat,k≤r.e.allow.length∧i=.int .i64 k∧Hid (xB r.e.allow k=true)∧wr=w) (fun i _=>r.e.allow.length - (intOf i).toNat);case atStart=>exact ⟨0,R6 _,rfl,(by show _=_; simp [xB]),rfl⟩
   case round =>
    obtain ⟨k,hk,rfl,HP,rfl⟩:=hrel;by_cases hlt:k < r.e.allow.length
    ·rcases Ub.out.1 with hnil | ⟨ba,Vk,V9,hba,hra⟩
     ·rw [hnil] at hlt; simp at hlt
     have t1':=t1;rw [V9] at t1';obtain ⟨q0,q1⟩:=hra k hlt;have hk1:=bn k;have hk2:(k:Int) < (r.e.allow.length:Int):=by omega
     clear hra V9 t1;cases he:r.e.allow[k].s.toList.isEmpty with
     | true =>
      have Td:Hid (xB r.e.allow (k + 1)=true):=by show _=_; rw [Gc _ _ hlt,HP.out,he]; rfl
      go_wp2;go_roundw;case rel=>exact ⟨k + 1,by omega,by go_num,Td,by first | rfl | trivial⟩
      case measure=>simp [intOf] <;> omega
     | false =>
      have HN:Hid (bi (ah [r])=false):=by show _=_; rw [HD.out]; exact JK _ k hlt he
      go_wp2;go_ret;exact ⟨by rw [HN.out]; rfl,rfl⟩
    ·have HN:Hid (bi (ah [r])=true):=by
      show _=_;rw [HD.out];have:=HP.out;unfold xB at this;rwa [List.take_of_length_le (by omega)] at this
     go_wp2;go_ret;exact ⟨by rw [HN.out]; rfl,rfl⟩
  ·have HN:Hid (bi (ah [r])=false):=by show _=_; simp [bi,ah,hq]
   have hqb:(r.e.kind != 1)=true:=by simpa using hq
   go_enter func112,ntmps112;go_wp2;go_ret;exact ⟨by rw [HN.out]; rfl,rfl⟩
 ·have HN:Hid (bi (ah rs)=false):=by
   show _=_
   match rs,h1 with
   | [],_=>rfl
   | [r],h=>exact absurd rfl h
   | a::b::r,_=>rfl
  have h1':((rs.length:Int) != 1)=true:=by simp; omega
  go_enter func112,ntmps112;go_wp2;go_ret;exact ⟨by rw [HN.out]; rfl,rfl⟩
def ax (ts:List Ty) (ty n:ByteArray):List Ex:=(dX ts ty n).getD []
def gl (ts:List Ty) (rel:ByteArray):List Al→List ByteArray
 | []=>[]
 | a::xs=>if (ax ts a.t rel).isEmpty then gl ts rel xs else a.t::gl ts rel xs
def fT (ts:List Ty) (ty over rel:ByteArray):List ByteArray:=gl ts rel (aQ (ax ts ty over))
theorem Am (ts:List Ty) (rel:ByteArray) (xs ys:List Al):gl ts rel (xs ++ ys)=gl ts rel xs ++ gl ts rel ys:=by
 induction xs with
 | nil=>rfl
 | cons a xs ih=>simp only [List.cons_append,gl,ih]; split <;> simp
theorem P6 (ts:List Ty) (rel:ByteArray) (xs:List Al) (k:Nat) (h:k < xs.length) (he:ax ts xs[k].t rel=[]):gl ts rel (xs.take (k + 1))=gl ts rel (xs.take k):=by
 rw [R5 h,Am]; simp [gl,he]
theorem LG (ts:List Ty) (rel:ByteArray) (xs:List Al) (k:Nat) (h:k < xs.length) (he:ax ts xs[k].t rel ≠ []):gl ts rel (xs.take (k + 1))=gl ts rel (xs.take k) ++ [xs[k].t]:=by
 rw [R5 h,Am]; simp [gl,he]
theorem Gd (ts:List Ty) (rel:ByteArray) (xs:List Al):(gl ts rel xs).length≤xs.length:=by
 induction xs with
 | nil=>simp [gl]
 | cons a xs ih=>simp only [gl]; split <;> simp <;> omega
theorem JL:(prog.info? 9).map (fun i=>(i.zero,i.size,i.bytes))=some (some (.string ⟨#[]⟩),1,16):=by kernel_rfl
def nY (xs:List ByteArray):List Value:=xs.map Value.string
def Qi (w:World) (ad:Option Addr) (xs:List ByteArray):Prop:=xs=[] ∨ ∃ b off,ad=some ⟨b,off,none⟩∧b < w.heap.size∧∀ (i:Nat) (h:i < xs.length),w.cell? ⟨b,off + i,none⟩=some (.string xs[i])
theorem Qi.below {w w':World} {ad:Option Addr} {xs:List ByteArray} (h:Qi w ad xs) (hB:Below w.heap.size w w'):Qi w' ad xs:=by
 rcases h with h | ⟨b,off,e,hb,hr⟩
 ·exact .inl h
 ·exact .inr ⟨b,off,e,RZ hb hB.size,fun i hi=>(hB.cell (p:=⟨b,off + i,none⟩) hb).trans (hr i hi)⟩
theorem LH {w:World} {base k:Nat} {v:Value} {xs:List ByteArray} (h:w.ownsRow base 9 1 v k (nY xs)):∃ ad cp,v=.slice ad xs.length cp∧Qi w ad xs∧∀ p,ad=some p→base≤p.block:=by
 have hl:xs.length=k:=by have:=h.1; simpa [nY] using this
 have h2:=h;rcases h.2 with ⟨rfl,h0⟩ | ⟨g,cp,cur,rfl,hbg,hg,hnc,-⟩
 ·refine ⟨none,0,?_,.inl (Si.1 (by omega)),fun p hp=>by cases hp⟩;rw [hl,h0]
 ·have hlt:=h2.lt g rfl;refine ⟨_,cp,by rw [hl],.inr ⟨g,0,rfl,hlt.2,fun j hj=>?_⟩,fun p hp=>by injection hp with hp; rw [← hp]; exact hlt.1⟩;have:=h2.cells (g:=g) rfl j (.string xs[j]) (by simp [nY,hj]);rw [Su];have e:(⟨g,0,none⟩:Addr).add j=⟨g,j,none⟩:=by
   unfold Addr.add;by_cases hj:j=0
   ·subst hj; simp
   ·simp [hj]
  rwa [e] at this
theorem lH.light {rs:List TR} {ad:Option Addr} {rows:List ER} (h:lH rs ad rows) (hl:∀ r ∈ rs,r.light):rows.length≤1048576∧∀ q ∈ rows,q.e.light:=by
 rcases h with rfl | ⟨t,ht,q,hq,rfl,-⟩
 ·exact ⟨by simp,by simp⟩
 ·exact (hl t ht).2 q hq
theorem xC (rows:List ER) (hl:∀ q ∈ rows,q.e.light):(aQ (ah rows)).length≤1048576:=by
 induction rows with
 | nil=>simp [ah,aQ]
 | cons r rows ih =>
  have e:ah (r::rows)=r.e::ah rows:=rfl;rw [e];simp only [aQ];split
  ·exact (hl r (by simp)).1
  ·exact ih fun q hq=>hl q (by simp [hq])
set_option maxRecDepth 100000 in
theorem uV (ad:Option Addr) (cap:Nat) (rs:List TR) (typ over rel:ByteArray) (w:World) (hlen:rs.length≤1048576) (hs:jd w ad rs) (hl:∀ r ∈ rs,r.light) :
  Calls prog 113 #[.slice ad rs.length cap,.string typ,.string over,.string rel] w fun e w'=>(∃ (SQ:Option Addr) (cap':Nat),e=.returned (.slice SQ (fT (ae rs) typ over rel).length cap')∧Qi w' SQ (fT (ae rs) typ over rel)∧∀ p,SQ=some p→w.heap.size≤p.block)∧Below w.heap.size w w':=by
 have HS:=aC hs;have HL:=aC hl;clear hs hl;obtain ⟨i0,hi,hz0,hz1,hz2⟩:=info_parts JL;go_enter func113,ntmps113;go_wp2_with fail;have ZR:Below w.heap.size w (w.alloc (.cells #[] 9)):=(R3 _ _).alloc (R4 _) _;have hown1:(w.alloc (.cells #[] 9)).ownsRow w.heap.size 9 1 (.slice (some ⟨w.heap.size,0,none⟩) 0 0) 0 []:=World.ownsRow_made w #[] 0 (R4 _) (by decide) rfl;refine (gG ad cap rs typ over _ hlen (HS.out.below ZR) HL.out).mono ?_;rintro e w1 ⟨⟨rows,ad1,VB,rfl,hx1,hs1,hf1⟩,rfl⟩;have hl1:=hf1.light HL.out;have hal:=xC rows hl1.2;go_wp2_with fail;refine (uU ad1 VB rows _ hl1.1 hs1).mono ?_;rintro e w1 ⟨⟨ad2,cap2,rfl,-,hf2⟩,rfl⟩;have HG:Hid (fT (ae rs) typ over rel=gl (ae rs) rel (aQ (ah rows))):=by show _=_; rw [hx1]; rfl
 have HA:Hid (iy w ad2 (aQ (ah rows))):=hf2.sl (hf1.sl HS.out);generalize aQ (ah rows)=xs at *
 clear hs1 hx1 hf1 hl1 hf2;have HBA:=aC ZR;have Ug:=aC hown1;clear ZR hown1;obtain ⟨wA,hwA⟩:∃ wA,wA=w.alloc (.cells #[] 9):=⟨_,rfl⟩;rw [← hwA] at HBA Ug ⊢;clear hwA;go_wp2_with fail;go_loopw [9,11] (fun v i wr=>∃ k:Nat,k≤xs.length∧i=.int .i64 k∧wr.ownsRow w.heap.size 9 1 v (gl (ae rs) rel (xs.take k)).length (nY (gl (ae rs) rel (xs.take k)))∧Below w.heap.size w wr) (fun _ i _=>xs.length - (intOf i).toNat);case atStart=>exact ⟨0,R6 _,rfl,by simpa [nY,gl] using Ug.out,HBA.out⟩
 case round =>
  obtain ⟨k,hk,rfl,hown,hB⟩:=hrel;by_cases hlt:k < xs.length
  ·have HST:Hid (jd _ ad rs):=HS.out.below hB;rcases HA.out.below hB with rfl | ⟨b,off,rfl,hb,hr⟩
   ·simp at hlt
   obtain ⟨t0,t1⟩:=hr k hlt;have hBs:=hB.size;have hgl:=Gd (ae rs) rel (xs.take k);rw [Sq] at hgl;have HBH:=aC hB;have HOW:Hid (wr.ownsRow w.heap.size 9 1 _ _ _):=hown;clear hr hB hown;go_wp2_with fail;refine (gG ad cap rs xs[k].t rel _ hlen HST.out HL.out).mono ?_;rintro e w1 ⟨⟨TZ,Xz,Wd,rfl,hx3,-,-⟩,rfl⟩;by_cases hz:TZ.length=0
   ·have HE:Hid (gl (ae rs) rel (xs.take (k + 1))=gl (ae rs) rel (xs.take k)):=by
     refine P6 _ _ _ _ hlt ?_;show _=_;unfold ax;rw [← hx3,Si.1 hz]; rfl
    rw [hz];clear hx3;go_wp2;go_roundw;case rel=>exact ⟨k + 1,by omega,by go_num,by rw [HE.out]; exact HOW.out,HBH.out⟩
    case measure=>simp [intOf] <;> omega
   ·have HX:Hid (gl (ae rs) rel (xs.take (k + 1))=gl (ae rs) rel (xs.take k) ++ [xs[k].t]):=by
     refine LG _ _ _ _ hlt ?_;show ¬ _=_;unfold ax;rw [← hx3];intro h2;apply hz;rw [← aJ,h2]; rfl
    have hzz:(0:Int) < (TZ.length:Int):=by omega
    clear hx3;go_wp2_with (at_builtin; refine wpList_append_own _ rfl _ _ 204 rfl w.heap.size 9 i0 (.string ⟨#[]⟩) 1 16 underlying204 hi hz0 hz1 hz2 rfl (by decide) _ _ _ rfl (HOW.out.alloc _) ⟨w1.heap.size,0,none⟩ 1 1 [.string xs[k].t] rfl rfl (cell_one_new _ _ _) (by intro u hu; simp at hu; subst hu; rfl) (by unfold maxLen; omega) (by omega) (by simp; omega) ?_);intro v' w3 hown3 hgrow _;have hb3:Below w.heap.size w w3:=(HBH.out.alloc HBH.out.size _).grown hgrow (by simp; omega) (fun i hi=>(HOW.out.lt i hi).1);have Ui:Hid (w3.ownsRow w.heap.size 9 1 v' (gl (ae rs) rel (xs.take (k + 1))).length (nY (gl (ae rs) rel (xs.take (k + 1))))):=by
     show World.ownsRow _ _ _ _ _ _ _;rw [HX.out];simpa [nY] using hown3
    clear hown3 hgrow HOW;go_wp2;go_roundw;case rel=>exact ⟨k + 1,by omega,by go_num,Ui.out,hb3⟩
    case measure=>simp [intOf] <;> omega
  ·obtain rfl:k=xs.length:=by omega
   have HE:Hid (xs.take xs.length=xs):=by show _=_; rw [Sc]
   rw [HE.out,← HG.out] at hown;obtain ⟨SQ,cp,rfl,hsl,hnew⟩:=LH hown;have HNW:Hid (∀ p,SQ=some p→w.heap.size≤p.block):=hnew;have Uh:Hid (Qi _ SQ (fT (ae rs) typ over rel)):=hsl;have HBH:Hid (Below w.heap.size w _):=hB;clear hsl hB hown hnew;go_wp2;go_ret;exact ⟨⟨SQ,cp,rfl,Uh.out,HNW.out⟩,HBH.out⟩
def nE (ts:List Ty) (a:Al):Bool:=jU ts a.t && (a.s.toList.isEmpty || !(ax ts a.t a.s).isEmpty)
def mg (ts:List Ty) (xs:List Al):Bool:=xs.all (nE ts)
def jV (ts:List Ty) (typ:ByteArray) (e:Ex):Bool :=
 if e.kind=2 then !(ax ts typ e.name).isEmpty
 else if e.kind=3 then bi (ax ts typ e.over) && !(fT ts typ e.over e.name).isEmpty
 else true
def aN (ts:List Ty) (typ:ByteArray):List Ex→Bool
 | []=>true
 | e::es=>if mg ts e.allow && jV ts typ e then aN ts typ es else false
def lI (ts:List Ty) (xs:List Al) (k:Nat):Bool:=mg ts (xs.take k)
theorem xD (ts:List Ty) (xs:List Al):lI ts xs 0=true:=by simp [lI,mg]
theorem mh (ts:List Ty) (xs:List Al) (k:Nat) (h:k < xs.length):lI ts xs (k + 1)=(lI ts xs k && nE ts xs[k]):=by
 unfold lI mg; rw [R5 h,List.all_append]; simp
theorem qV (ts:List Ty) (xs:List Al) (k:Nat) (h:k < xs.length) (hb:nE ts xs[k]=false):mg ts xs=false:=by
 unfold mg;rw [Bool.eq_false_iff]; intro h2; rw [Sg] at h2; have:=h2 xs[k] (RY h); rw [hb] at this; cases this
theorem aH {w w':World} {g o:Nat} {v:Value} (hB:Below w.heap.size w w') (hg:g < w.heap.size) (h:w.cell? ⟨g,o,none⟩=some v):w'.cell? ⟨g,o,none⟩=some v:=(hB.cell (p:=⟨g,o,none⟩) hg).trans h
set_option maxRecDepth 8000 in
theorem Gf (ad SN:Option Addr) (cap capE:Nat) (rs:List TR) (typ:ByteArray) (rows:List ER) (w:World) (hlen:rs.length≤1048576) (hs:jd w ad rs) (hl:∀ r ∈ rs,r.light) (hle:rows.length≤1048576) (hse:eX w SN rows) (ZT:∀ q ∈ rows,q.e.light) :
  Calls prog 79 #[.slice ad rs.length cap,.string typ,.slice SN rows.length capE] w fun e w'=>e=.returned (.bool (aN (ae rs) typ (ah rows)))∧Below w.heap.size w w':=by
 have HS:=aC hs;have HL:=aC hl;have HE:=aC hse;have TG:=aC ZT;clear hs hl hse ZT;go_enter func79,ntmps79;go_wp2_with fail;go_loopw [7] (fun i wr=>∃ k:Nat,k≤rows.length∧i=.int .i64 k∧Hid (aN (ae rs) typ (ah (rows.drop k))=aN (ae rs) typ (ah rows))∧Hid (Below w.heap.size w wr)) (fun i _=>rows.length - (intOf i).toNat);case atStart=>exact ⟨0,R6 _,rfl,rfl,R3 _ _⟩
 case round =>
  obtain ⟨k,hk,rfl,HP,HB⟩:=hrel;by_cases hlt:k < rows.length
  ·have HS1:Hid (jd _ ad rs):=HS.out.below HB.out;rcases HE.out.below HB.out with rfl | ⟨b,off,rfl,hb,hr,hok⟩
   ·simp at hlt
   obtain ⟨t0,t1,t2,t3,t4⟩:=hr k hlt;have Ub:Hid (rows[k].ok wr):=hok rows[k] (RY hlt);have lg:=(TG.out rows[k] (RY hlt)).1;have hk1:=bn k;have hk2:(k:Int) < (rows.length:Int):=by omega
   clear hr hok;obtain ⟨W1,hW1⟩:∃ W1,W1=wr.alloc (.cells #[.int .i64 rows[k].e.kind,.slice rows[k].adA rows[k].e.allow.length rows[k].capA,.string rows[k].e.over,.string rows[k].e.name,.slice rows[k].adK rows[k].e.kids.length rows[k].capK] 166):=⟨_,rfl⟩;have hal:Below wr.heap.size wr W1:=by rw [hW1]; exact (R3 _ _).alloc (R4 _) _
   have Tm:=aC hal;have S9:=gY HB hal;have hgl:wr.heap.size < W1.heap.size:=by rw [hW1]; simp
   have g0:W1.cell? ⟨wr.heap.size,0,none⟩=some (.int .i64 rows[k].e.kind):=by rw [hW1]; simp
   have g1:W1.cell? ⟨wr.heap.size,1,none⟩=some (.slice rows[k].adA rows[k].e.allow.length rows[k].capA):=by rw [hW1]; simp
   have g2:W1.cell? ⟨wr.heap.size,2,none⟩=some (.string rows[k].e.over):=by rw [hW1]; simp
   have g3:W1.cell? ⟨wr.heap.size,3,none⟩=some (.string rows[k].e.name):=by rw [hW1]; simp
   clear hal;go_wp2_with fail;rw [← hW1];clear hW1;go_loopw [9] (fun i w2=>∃ j:Nat,j≤rows[k].e.allow.length∧i=.int .i64 j∧Hid (lI (ae rs) rows[k].e.allow j=true)∧Hid (Below W1.heap.size W1 w2)) (fun i _=>rows[k].e.allow.length - (intOf i).toNat);case atStart=>exact ⟨0,R6 _,rfl,xD _ _,R3 _ _⟩
   case round =>
    obtain ⟨j,hj,rfl,HJ,HB2⟩:=hrel;have d0:=aH HB2.out hgl g0;have d1:=aH HB2.out hgl g1;have d2:=aH HB2.out hgl g2;have d3:=aH HB2.out hgl g3;clear g0 g1 g2 g3 t0 t1 t2 t3 t4;have We:Hid (Below w.heap.size w _):=S9.out.trans (HB2.out.mono S9.out.size);have HS2:Hid (jd _ ad rs):=HS.out.below We.out;by_cases hjl:j < rows[k].e.allow.length
    ·have hA2:iy _ rows[k].adA rows[k].e.allow:=((Ub.out.1).below Tm.out).below HB2.out;rcases hA2 with hnil | ⟨ba,Vk,V9,hba,hra⟩
     ·rw [hnil] at hjl; simp at hjl
     rw [V9] at d1;obtain ⟨q0,q1⟩:=hra j hjl;have hj1:=bn j;have hj2:(j:Int) < (rows[k].e.allow.length:Int):=by omega
     clear hra V9;go_wp2_with fail;refine (Gb ad cap rs _ _ hlen (HS2.out.below ((R3 _ _).alloc (R4 _) _))).mono ?_;rintro e w3 ⟨rfl,rfl⟩;cases hty:jU (ae rs) rows[k].e.allow[j].t with
     | false =>
      have HN:Hid (aN (ae rs) typ (ah rows)=false):=by
       show _=_;rw [← HP.out,fE _ _ hlt];simp [aN,qV (ae rs) _ j hjl (by simp [nE,hty])]
      go_wp2;go_ret;exact ⟨by rw [HN.out]; rfl,We.out.alloc We.out.size _⟩
     | true =>
      cases he:rows[k].e.allow[j].s.toList.isEmpty with
      | true =>
       have HJ2:Hid (lI (ae rs) rows[k].e.allow (j + 1)=true):=by show _=_; rw [mh _ _ _ hjl,HJ.out]; simp [nE,hty,he]
       go_wp2;go_roundw;case rel=>exact ⟨j + 1,by omega,by go_num,HJ2,HB2.out.alloc HB2.out.size _⟩
       case measure=>simp [intOf] <;> omega
      | false =>
       go_wp2_with fail;refine (gG ad cap rs _ _ _ hlen (HS2.out.below ((R3 _ _).alloc (R4 _) _)) HL.out).mono ?_;rintro e w3 ⟨⟨TZ,Xz,Wd,rfl,hx3,-,-⟩,rfl⟩;by_cases hz:TZ.length=0
       ·have HN:Hid (aN (ae rs) typ (ah rows)=false):=by
         have h1:ax (ae rs) rows[k].e.allow[j].t rows[k].e.allow[j].s=[]:=by unfold ax; rw [← hx3,Si.1 hz]; rfl
         show _=_;rw [← HP.out,fE _ _ hlt];simp [aN,qV (ae rs) _ j hjl (by simp [nE,he,h1])]
        rw [hz];clear hx3;go_wp2;go_ret;exact ⟨by rw [HN.out]; rfl,We.out.alloc We.out.size _⟩
       ·have HJ2:Hid (lI (ae rs) rows[k].e.allow (j + 1)=true):=by
         have h1:ax (ae rs) rows[k].e.allow[j].t rows[k].e.allow[j].s ≠ []:=by
          unfold ax;rw [← hx3];intro h2;apply hz;rw [← aJ,h2]; rfl
         show _=_;rw [mh _ _ _ hjl,HJ.out]; simp [nE,hty,h1]
        have hzb:((TZ.length:Int) == 0)=false:=by simp; intro h; apply hz; rw [h]; rfl
        clear hx3;go_wp2;go_roundw;case rel=>exact ⟨j + 1,by omega,by go_num,HJ2,HB2.out.alloc HB2.out.size _⟩
        case measure=>simp [intOf] <;> omega
    ·have VY:Hid (mg (ae rs) rows[k].e.allow=true):=by
      have:=HJ.out;unfold lI at this;rwa [List.take_of_length_le (by omega)] at this
     by_cases h2:rows[k].e.kind=2
     ·go_wp2_with fail;refine (gG ad cap rs _ _ _ hlen HS2.out HL.out).mono ?_;rintro e w3 ⟨⟨TZ,Xz,Wd,rfl,hx3,-,-⟩,rfl⟩;by_cases hz:TZ.length=0
      ·have HN:Hid (aN (ae rs) typ (ah rows)=false):=by
        have h1:ax (ae rs) typ rows[k].e.name=[]:=by unfold ax; rw [← hx3,Si.1 hz]; rfl
        show _=_;rw [← HP.out,fE _ _ hlt];simp [aN,jV,h2,h1]
       rw [hz];clear hx3;go_wp2;go_ret;exact ⟨by rw [HN.out]; rfl,We.out⟩
      ·have Td:Hid (aN (ae rs) typ (ah (rows.drop (k + 1)))=aN (ae rs) typ (ah rows)):=by
        have h1:ax (ae rs) typ rows[k].e.name ≠ []:=by
         unfold ax;rw [← hx3];intro h2;apply hz;rw [← aJ,h2]; rfl
        show _=_;rw [← HP.out,fE _ _ hlt];simp [aN,jV,h2,h1,VY.out]
       have hzb:((TZ.length:Int) == 0)=false:=by simp; intro h; apply hz; rw [h]; rfl
       clear hx3;go_wp2;go_roundw;case rel=>exact ⟨k + 1,by omega,by go_num,Td,We⟩
       case measure=>simp [intOf] <;> omega
     by_cases h3:rows[k].e.kind=3
     ·go_wp2_with fail;refine (gG ad cap rs _ _ _ hlen HS2.out HL.out).mono ?_;rintro e w3 ⟨⟨TZ,Xz,Wd,rfl,hx3,hs3,hf3⟩,rfl⟩;have hl3:=hf3.light HL.out;go_wp2_with fail;refine (Ca Xz Wd TZ _ hl3.1 hs3 hl3.2).mono ?_;rintro e w3 ⟨rfl,rfl⟩;have HX:Hid (ah TZ=ax (ae rs) typ rows[k].e.over):=hx3;clear hx3 hs3 hf3 hl3;rw [HX.out];cases hd:bi (ax (ae rs) typ rows[k].e.over) with
      | false =>
       have HN:Hid (aN (ae rs) typ (ah rows)=false):=by
        show _=_;rw [← HP.out,fE _ _ hlt];simp [aN,jV,h3,hd]
       go_wp2;go_ret;exact ⟨by rw [HN.out]; rfl,We.out⟩
      | true =>
       go_wp2_with fail;refine (uV ad cap rs _ _ _ _ hlen HS2.out HL.out).mono ?_;rintro e w4 ⟨⟨ad4,cap4,rfl,-⟩,hb4⟩;have Uo:=gY We hb4;clear hb4;by_cases hz:(fT (ae rs) typ rows[k].e.over rows[k].e.name).length=0
       ·have HN:Hid (aN (ae rs) typ (ah rows)=false):=by
         show _=_;rw [← HP.out,fE _ _ hlt];simp [aN,jV,h3,Si.1 hz]
        rw [hz];go_wp2;go_ret;exact ⟨by rw [HN.out]; rfl,Uo.out⟩
       ·have Td:Hid (aN (ae rs) typ (ah (rows.drop (k + 1)))=aN (ae rs) typ (ah rows)):=by
         have h1:fT (ae rs) typ rows[k].e.over rows[k].e.name ≠ []:=by intro h; apply hz; rw [h]; rfl
         show _=_;rw [← HP.out,fE _ _ hlt];simp [aN,jV,h3,h1,hd,VY.out]
        have hzb:(((fT (ae rs) typ rows[k].e.over rows[k].e.name).length:Int) == 0)=false:=by simp; intro h; apply hz; rw [h]; rfl
        go_wp2;go_roundw;case rel=>exact ⟨k + 1,by omega,by go_num,Td,Uo⟩
        case measure=>simp [intOf] <;> omega
     ·have Td:Hid (aN (ae rs) typ (ah (rows.drop (k + 1)))=aN (ae rs) typ (ah rows)):=by
       show _=_;rw [← HP.out,fE _ _ hlt];simp [aN,jV,h2,h3,VY.out]
      have hb2:(rows[k].e.kind == 2)=false:=by simpa using h2
      have hb3:(rows[k].e.kind == 3)=false:=by simpa using h3
      go_wp2;go_roundw;case rel=>exact ⟨k + 1,by omega,by go_num,Td,We⟩
      case measure=>simp [intOf] <;> omega
  ·have HN:Hid (aN (ae rs) typ (ah rows)=true):=by show _=_; rw [← HP.out,List.drop_of_length_le (by omega)]; rfl
   go_wp2;go_ret;exact ⟨by rw [HN.out]; rfl,HB.out⟩
end Go.Proofs.YtdaoiceeidoehaaGreat
