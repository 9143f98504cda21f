/- Plain functions on bytes that the contracts of this seat's texts are stated by: which names and ids are right. Nothing of the program is read here. -/
import Derived.Test.YtdmniljjnaebbaaGreatDoorSq
import Derived.WalkKit
import Derived.Test.YtdmniljjnaebbaaGreatDoorRows
import Derived.WalkLawsBesides
import Derived.ProofKit
open Go.Proofs.Tryz
namespace Go.Proofs.YtdmniljjnaebbaaGreatDoor.Pl
def iH (c:UInt8):Bool:=decide (97≤c.toNat) && decide (c.toNat≤122)
def wQ (c:UInt8):Bool:=iH c || (decide (48≤c.toNat) && decide (c.toNat≤57)) || decide (c.toNat=95)
def ni (s:ByteArray):Bool:=decide (1≤s.size) && decide (s.size≤12)
def qJ (p:UInt8→Bool) (s:ByteArray):Bool:=s.data.toList.all p
def dK (p:UInt8→Bool) (s:ByteArray):Bool:=ni s && qJ p s
def wS (s:ByteArray):Bool:=!(s.toList == [116,104,105,115])
def aR (s:ByteArray):Bool:=dK iH s && wS s
def og (s:ByteArray):Bool:=dK wQ s
theorem ah {a b:Bool} (h:a=b):Ending.returned (.bool a)=.returned (.bool b):=by rw [h]
theorem JH (s:dB) (k:Nat) (h:k < s.size):s.data.toList.take (k + 1)=s.data.toList.take k ++ [s[k]]:=by
 rw [Sk (by simpa using h)]; rfl
def Gd (p:UInt8→Bool) (s:ByteArray) (k:Nat):Bool:=(s.data.toList.take k).all p
theorem rA (p:UInt8→Bool) (s:dB):Gd p s 0=true:=by simp [Gd]
theorem rC (p:UInt8→Bool) (s:dB) (k:Nat) (h:k < s.size):Gd p s (k + 1)=(Gd p s k && p s[k]):=by
 unfold Gd; rw [JH s k h]; simp
theorem wU (p:UInt8→Bool) (s:dB) (k:Nat) (h:s.size≤k):Gd p s k=qJ p s:=by
 unfold Gd qJ; rw [List.take_of_length_le (by simpa using h)]
theorem wV (p:UInt8→Bool) (s:dB) (k:Nat) (h:k < s.size) (hb:p s[k]=false):qJ p s=false:=by
 unfold qJ;rw [List.all_eq_false];exact ⟨s[k],by simp [ByteArray.getElem_eq_getElem_data],by simp [hb]⟩
def dS (t i:ByteArray):Bool:=aR t && og i
end Go.Proofs.YtdmniljjnaebbaaGreatDoor.Pl
namespace Go.Proofs.YtdmniljjnaebbaaGreatDoor
open Go.ChangeShapes Go.WideShapes Go.ChangeAt Go.RowKit
open Pl
theorem jU (c:UInt8) (w:af) :
  Calls prog 192 #[.int .u8 c.toNat] w fun e w'=>e=.returned (.bool (iH c))∧w'=w:=by
 go_enter func192,ntmps192;go_wp2
 all_goals go_ret
 all_goals refine ⟨ah ?_,rfl⟩
 all_goals (rw [Bool.eq_iff_iff]; simp [iH]; omega)
theorem aN (s:dB) (w:af) (hs:s.size≤maxLen) :
  Calls prog 105 #[.string s] w fun e w'=>e=.returned (.bool (aR s))∧w'=w:=by
 unfold maxLen at hs;by_cases h1:1≤s.size∧s.size≤12
 ·obtain ⟨ha,hb⟩:=h1;go_enter func105,ntmps105;go_wp2
  go_loop [3] (fun i=>∃ k:Nat,k≤s.size∧i=.int .i64 k∧Hid (Gd iH s k=true)) (fun i=>s.size - (intOf i).toNat)
  case atStart=>exact ⟨0,Sm _,rfl,rA _ _⟩
  obtain ⟨k,hk,rfl,hu⟩:=hrel;by_cases hlt:k < s.size
  ·by_cases hc:iH s[k]=true
   ·have hc1:97≤s[k].toNat:=by simp [iH] at hc; omega
    have hc2:s[k].toNat≤122:=by simp [iH] at hc; omega
    have HU:Hid (Gd iH s (k + 1)=true):=by show _=_; rw [rC _ _ _ hlt,hc,hu.out]; rfl
    clear hc;go_wp2;go_round;case rel=>exact ⟨k + 1,by omega,by go_num,HU⟩
    simp [intOf]; omega
   have hc':iH s[k]=false:=by simpa using hc
   have HB:Hid (qJ iH s=false):=wV _ _ _ hlt hc';have hd:s[k].toNat < 97 ∨ 122 < s[k].toNat:=by simp [iH] at hc'; omega
   clear hc hc';rcases hd with hd | hd
   all_goals
    go_wp2;go_ret;exact ⟨ah (by simp [aR,dK,HB.out]),rfl⟩
  go_wp2;go_ret;refine ⟨ah ?_,rfl⟩;have hall:qJ iH s=true:=by rw [← wU iH s k (by omega)]; exact hu.out
  have hl:ni s=true:=by simp [ni]; omega
  simp [aR,dK,wS,hall,hl]
 have hn:ni s=false:=by simp [ni]; omega
 have HN:Hid (aR s=false):=by show _=_; simp [aR,dK,hn]
 clear hn;by_cases ha:1≤s.size
 ·have hb:12 < s.size:=by omega
  clear h1;go_enter func105,ntmps105;go_wp2;go_ret;exact ⟨ah HN.out.symm,rfl⟩
 have ha':s.size < 1:=by omega
 clear h1;go_enter func105,ntmps105;go_wp2;go_ret;exact ⟨ah HN.out.symm,rfl⟩
theorem xk (s:dB) (w:af) (hs:s.size≤maxLen) :
  Calls prog 191 #[.string s,.func (Fn.func 192) #[] #[]] w fun e w'=>e=.returned (.bool (dK iH s))∧w'=w:=by
 unfold maxLen at hs;by_cases h1:1≤s.size∧s.size≤12
 ·obtain ⟨ha,hb⟩:=h1;go_enter func191,ntmps191;go_wp2
  go_loop [16] (fun i=>∃ k:Nat,k≤s.size∧i=.int .i64 k∧Hid (Gd iH s k=true)) (fun i=>s.size - (intOf i).toNat)
  case atStart=>exact ⟨0,Sm _,rfl,rA _ _⟩
  obtain ⟨k,hk,rfl,hu⟩:=hrel;by_cases hlt:k < s.size
  ·by_cases hc:iH s[k]=true
   ·have HU:Hid (Gd iH s (k + 1)=true):=by show _=_; rw [rC _ _ _ hlt,hc,hu.out]; rfl
    go_wp2_with (go_at_call 192; refine (jU _ _).mono ?_; rintro e w' ⟨rfl,rfl⟩);go_round;case rel=>exact ⟨k + 1,by omega,by go_num,HU⟩
    simp [intOf]; omega
   have hc':iH s[k]=false:=by simpa using hc
   have HB:Hid (qJ iH s=false):=wV _ _ _ hlt hc';clear hc;go_wp2_with (go_at_call 192; refine (jU _ _).mono ?_; rintro e w' ⟨rfl,rfl⟩);go_ret;exact ⟨ah (by simp [dK,HB.out]),rfl⟩
  go_wp2;go_ret;refine ⟨ah ?_,rfl⟩;have hall:qJ iH s=true:=by rw [← wU iH s k (by omega)]; exact hu.out
  have hl:ni s=true:=by simp [ni]; omega
  simp [dK,hall,hl]
 have hn:ni s=false:=by simp [ni]; omega
 have HN:Hid (dK iH s=false):=by show _=_; simp [dK,hn]
 clear hn;by_cases ha:1≤s.size
 ·have hb:12 < s.size:=by omega
  clear h1;go_enter func191,ntmps191;go_wp2;go_ret;exact ⟨ah HN.out.symm,rfl⟩
 have ha':s.size < 1:=by omega
 clear h1;go_enter func191,ntmps191;go_wp2;go_ret;exact ⟨ah HN.out.symm,rfl⟩
theorem aL (s:dB) (w:af) (hs:s.size≤maxLen) :
  Calls prog 162 #[.string s] w fun e w'=>e=.returned (.bool (aR s))∧w'=w:=by
 by_cases h:s.toList=[116,104,105,115]
 ·have hb:(s.toList == [116,104,105,115])=true:=by simp [h]
  have HN:Hid (aR s=false):=by show _=_; simp [aR,wS,h]
  clear h;go_enter func162,ntmps162;go_wp2;go_ret;exact ⟨ah HN.out.symm,rfl⟩
 have hb:(s.toList == [116,104,105,115])=false:=by simp [h]
 have HN:Hid (aR s=dK iH s):=by show _=_; simp [aR,wS,h]
 clear h;go_enter func162,ntmps162;go_wp2_with (go_at_call 191; refine (xk _ _ hs).mono ?_; rintro e w' ⟨rfl,rfl⟩);go_ret;exact ⟨ah HN.out.symm,rfl⟩
structure Al where
 t:ByteArray
 s:ByteArray
def Al.fits (a:Al):Prop:=a.t.size≤maxLen∧a.s.size≤maxLen
def OD (w:World) (b off:Nat) (a:Al):Prop:=w.cell? ⟨b,off,none⟩=some (.string a.t)∧w.cell? ⟨b,off + 1,none⟩=some (.string a.s)
def gP (w:World) (ad:Option Addr) (xs:List Al):Prop:=xs=[] ∨ ∃ b off,ad=some ⟨b,off,none⟩∧b < w.heap.size∧∀ (i:Nat) (h:i < xs.length),OD w b (off + i * 2) xs[i]
def mZ (w:World) (ad:Option Addr) (zs:List Int):Prop:=zs=[] ∨ ∃ b off,ad=some ⟨b,off,none⟩∧b < w.heap.size∧∀ (i:Nat) (h:i < zs.length),w.cell? ⟨b,off + i,none⟩=some (.int .i64 zs[i])
theorem OD.same {w w':af} {b off:Nat} {a:Al} (h:OD w b off a) (hc:∀ o,w'.cell? ⟨b,o,none⟩=w.cell? ⟨b,o,none⟩):OD w' b off a:=⟨(hc _).trans h.1,(hc _).trans h.2⟩
theorem gP.below {w w':af} {ad:Option Addr} {xs:List Al} (h:gP w ad xs) (hB:aa w w'):gP w' ad xs:=by
 rcases h with h | ⟨b,off,e,hb,hr⟩
 ·exact .inl h
 exact .inr ⟨b,off,e,Sg hb hB.size,fun i hi=>(hr i hi).same fun o=>hB.cell (p:=⟨b,o,none⟩) hb⟩
theorem mZ.below {w w':af} {ad:Option Addr} {zs:List Int} (h:mZ w ad zs) (hB:aa w w'):mZ w' ad zs:=by
 rcases h with h | ⟨b,off,e,hb,hr⟩
 ·exact .inl h
 exact .inr ⟨b,off,e,Sg hb hB.size,fun i hi=>(hB.cell (p:=⟨b,off + i,none⟩) hb).trans (hr i hi)⟩
structure Ex where
 kind:Int
 allow:List Al
 over:ByteArray
 name:ByteArray
 kids:List Int
structure ER where
 e:Ex
 adA:Option Addr
 capA:Nat
 adK:Option Addr
 capK:Nat
def ER.val (r:ER):Value:=.agg #[.int .i64 r.e.kind,.slice r.adA r.e.allow.length r.capA,.string r.e.over,.string r.e.name,.slice r.adK r.e.kids.length r.capK]
def ER.ok (w:World) (r:ER):Prop:=gP w r.adA r.e.allow∧mZ w r.adK r.e.kids
def Ex.fits (e:Ex):Prop:=(∀ a ∈ e.allow,a.fits)∧e.over.size≤maxLen∧e.name.size≤maxLen∧e.allow.length≤maxLen∧e.kids.length≤maxLen
theorem ER.ok.below {w w':af} {r:ER} (h:r.ok w) (hB:aa w w'):r.ok w':=⟨h.1.below hB,h.2.below hB⟩
def tK (w:World) (b off:Nat) (r:ER):Prop :=
 w.cell? ⟨b,off,none⟩=some (.int .i64 r.e.kind)∧w.cell? ⟨b,off + 1,none⟩=some (.slice r.adA r.e.allow.length r.capA)∧w.cell? ⟨b,off + 2,none⟩=some (.string r.e.over) ∧
 w.cell? ⟨b,off + 3,none⟩=some (.string r.e.name)∧w.cell? ⟨b,off + 4,none⟩=some (.slice r.adK r.e.kids.length r.capK)
theorem tK.same {w w':af} {b off:Nat} {r:ER} (h:tK w b off r) (hc:∀ o,w'.cell? ⟨b,o,none⟩=w.cell? ⟨b,o,none⟩):tK w' b off r:=by
 obtain ⟨h0,h1,h2,h3,h4⟩:=h;exact ⟨(hc _).trans h0,(hc _).trans h1,(hc _).trans h2,(hc _).trans h3,(hc _).trans h4⟩
def fQ (w:World) (ad:Option Addr) (rs:List ER):Prop:=rs=[] ∨ ∃ b off,ad=some ⟨b,off,none⟩∧b < w.heap.size∧(∀ (i:Nat) (h:i < rs.length),tK w b (off + i * 5) rs[i])∧∀ r ∈ rs,r.ok w
theorem fQ.below {w w':af} {ad:Option Addr} {rs:List ER} (h:fQ w ad rs) (hB:aa w w'):fQ w' ad rs:=by
 rcases h with h | ⟨b,off,e,hb,hr,hk⟩
 ·exact .inl h
 exact .inr ⟨b,off,e,Sg hb hB.size,fun i hi=>(hr i hi).same fun o=>hB.cell (p:=⟨b,o,none⟩) hb,fun r hr=>(hk r hr).below hB⟩
def ai (rs:List ER):List Ex:=rs.map ER.e
theorem aS (rs:List ER):(ai rs).length=rs.length:=by simp [ai]
def xm (s:ByteArray):Bool:=s.toList.isEmpty || aR s
theorem Gf (s:dB) (w:af) (hs:s.size≤maxLen) :
  Calls prog 171 #[.string s] w fun e w'=>e=.returned (.bool (xm s))∧w'=w:=by
 go_enter func171,ntmps171;go_wp2_with (go_at_call 162; refine (aL _ _ hs).mono ?_; rintro e w' ⟨rfl,rfl⟩)
 all_goals go_ret
 all_goals exact ⟨ah (by simp [xm, *]),rfl⟩
theorem zQ (t s:dB) (left:Int) (w:af) (ht:t.size≤maxLen) (hs:s.size≤maxLen) (h0:0≤left) (h1:left≤1048576) :
  Calls prog 208 #[.agg #[.string t,.string s],.int .i64 left] w fun e w'=>(∃ n:Int,e=.returned (.int .i64 n)∧(n=-1 ∨ 0≤n∧n≤left))∧aa w w':=by
 unfold maxLen at ht hs;have hB:=(Si w.heap.size w).alloc (Sj _) (.cells #[.string t,.string s] 311);by_cases h2:left - t.size < 0
 ·go_enter func208,ntmps208;go_wp2;go_ret;exact ⟨⟨-1,rfl,.inl rfl⟩,hB⟩
 by_cases h3:left - t.size - s.size < 0
 ·go_enter func208,ntmps208;go_wp2;go_ret;exact ⟨⟨-1,rfl,.inl rfl⟩,hB⟩
 go_enter func208,ntmps208;go_wp2;go_ret;exact ⟨⟨_,rfl,.inr ⟨by omega,by omega⟩⟩,hB⟩
def Ex.light (e:Ex):Prop:=e.allow.length≤1048576∧e.kids.length≤1048576
end Go.Proofs.YtdmniljjnaebbaaGreatDoor
