/- Contracts of the functions that look at names and ids, the document's model beside the program's: each returns what the plain function says and leaves the world as it was. -/
import Derived.Test.YtajkkeikihhejaaGreatSq
import Derived.Test.YtajkkeikihhejaaGreatRows
import Derived.Test.YtajkkeikihhejaaGreatPlain
import Derived.WalkLawsBesides
import Derived.ProofKit
open Go.Proofs.Tryz
namespace Go.Proofs.YtajkkeikihhejaaGreat
open Go.ChangeShapes Go.WideShapes Go.ChangeAt Go.RowKit
open Pl
theorem kU (c:UInt8) (w:af) :
  Calls prog 210 #[.int .u8 c.toNat] w fun e w'=>e=.returned (.bool (eG c))∧w'=w:=by
 go_enter func210,ntmps210;go_wp2
 all_goals go_ret
 all_goals refine ⟨ah ?_,rfl⟩
 all_goals (rw [Bool.eq_iff_iff]; simp [eG]; omega)
theorem aS (s:bF) (w:af) (hs:s.size≤maxLen) :
  Calls prog 111 #[.string s] w fun e w'=>e=.returned (.bool (aP s))∧w'=w:=by
 unfold maxLen at hs;by_cases h1:1≤s.size∧s.size≤12
 ·obtain ⟨ha,hb⟩:=h1;go_enter func111,ntmps111;go_wp2
  go_loop [3] (fun i=>∃ k:Nat,k≤s.size∧i=.int .i64 k∧Hid (Hu eG s k=true)) (fun i=>s.size - (intOf i).toNat)
  case atStart=>exact ⟨0,TW _,rfl,ug _ _⟩
  obtain ⟨k,hk,rfl,hu⟩:=hrel;by_cases hlt:k < s.size
  ·by_cases hc:eG s[k]=true
   ·have hc1:97≤s[k].toNat:=by simp [eG] at hc; omega
    have hc2:s[k].toNat≤122:=by simp [eG] at hc; omega
    have HU:Hid (Hu eG s (k + 1)=true):=by show _=_; rw [uh _ _ _ hlt,hc,hu.out]; rfl
    clear hc;go_wp2;go_round;case rel=>exact ⟨k + 1,by omega,by go_num,HU⟩
    simp [intOf]; omega
   have hc':eG s[k]=false:=by simpa using hc
   have HB:Hid (rR eG s=false):=yC _ _ _ hlt hc';have hd:s[k].toNat < 97 ∨ 122 < s[k].toNat:=by simp [eG] at hc'; omega
   clear hc hc';rcases hd with hd | hd
   all_goals
    go_wp2;go_ret;exact ⟨ah (by simp [aP,dL,HB.out]),rfl⟩
  go_wp2;go_ret;refine ⟨ah ?_,rfl⟩;have hall:rR eG s=true:=by rw [← yB eG s k (by omega)]; exact hu.out
  have hl:nG s=true:=by simp [nG]; omega
  simp [aP,dL,yA,hall,hl]
 have hn:nG s=false:=by simp [nG]; omega
 have HN:Hid (aP s=false):=by show _=_; simp [aP,dL,hn]
 clear hn;by_cases ha:1≤s.size
 ·have hb:12 < s.size:=by omega
  clear h1;go_enter func111,ntmps111;go_wp2;go_ret;exact ⟨ah HN.out.symm,rfl⟩
 have ha':s.size < 1:=by omega
 clear h1;go_enter func111,ntmps111;go_wp2;go_ret;exact ⟨ah HN.out.symm,rfl⟩
theorem yM (s:bF) (w:af) (hs:s.size≤maxLen) :
  Calls prog 209 #[.string s,.func (Fn.func 210) #[] #[]] w fun e w'=>e=.returned (.bool (dL eG s))∧w'=w:=by
 unfold maxLen at hs;by_cases h1:1≤s.size∧s.size≤12
 ·obtain ⟨ha,hb⟩:=h1;go_enter func209,ntmps209;go_wp2
  go_loop [16] (fun i=>∃ k:Nat,k≤s.size∧i=.int .i64 k∧Hid (Hu eG s k=true)) (fun i=>s.size - (intOf i).toNat)
  case atStart=>exact ⟨0,TW _,rfl,ug _ _⟩
  obtain ⟨k,hk,rfl,hu⟩:=hrel;by_cases hlt:k < s.size
  ·by_cases hc:eG s[k]=true
   ·have HU:Hid (Hu eG s (k + 1)=true):=by show _=_; rw [uh _ _ _ hlt,hc,hu.out]; rfl
    go_wp2_with (go_at_call 210; refine (kU _ _).mono ?_; rintro e w' ⟨rfl,rfl⟩);go_round;case rel=>exact ⟨k + 1,by omega,by go_num,HU⟩
    simp [intOf]; omega
   have hc':eG s[k]=false:=by simpa using hc
   have HB:Hid (rR eG s=false):=yC _ _ _ hlt hc';clear hc;go_wp2_with (go_at_call 210; refine (kU _ _).mono ?_; rintro e w' ⟨rfl,rfl⟩);go_ret;exact ⟨ah (by simp [dL,HB.out]),rfl⟩
  go_wp2;go_ret;refine ⟨ah ?_,rfl⟩;have hall:rR eG s=true:=by rw [← yB eG s k (by omega)]; exact hu.out
  have hl:nG s=true:=by simp [nG]; omega
  simp [dL,hall,hl]
 have hn:nG s=false:=by simp [nG]; omega
 have HN:Hid (dL eG s=false):=by show _=_; simp [dL,hn]
 clear hn;by_cases ha:1≤s.size
 ·have hb:12 < s.size:=by omega
  clear h1;go_enter func209,ntmps209;go_wp2;go_ret;exact ⟨ah HN.out.symm,rfl⟩
 have ha':s.size < 1:=by omega
 clear h1;go_enter func209,ntmps209;go_wp2;go_ret;exact ⟨ah HN.out.symm,rfl⟩
theorem aL (s:bF) (w:af) (hs:s.size≤maxLen) :
  Calls prog 162 #[.string s] w fun e w'=>e=.returned (.bool (aP s))∧w'=w:=by
 by_cases h:s.toList=[116,104,105,115]
 ·have hb:(s.toList == [116,104,105,115])=true:=by simp [h]
  have HN:Hid (aP s=false):=by show _=_; simp [aP,yA,h]
  clear h;go_enter func162,ntmps162;go_wp2;go_ret;exact ⟨ah HN.out.symm,rfl⟩
 have hb:(s.toList == [116,104,105,115])=false:=by simp [h]
 have HN:Hid (aP s=dL eG s):=by show _=_; simp [aP,yA,h]
 clear h;go_enter func162,ntmps162;go_wp2_with (go_at_call 209; refine (yM _ _ hs).mono ?_; rintro e w' ⟨rfl,rfl⟩);go_ret;exact ⟨ah HN.out.symm,rfl⟩
structure Al where
 t:ByteArray
 s:ByteArray
def Al.fits (a:Al):Prop:=a.t.size≤maxLen∧a.s.size≤maxLen
def RQ (w:World) (b off:Nat) (a:Al):Prop:=w.cell? ⟨b,off,none⟩=some (.string a.t)∧w.cell? ⟨b,off + 1,none⟩=some (.string a.s)
def jM (w:World) (ad:Option Addr) (xs:List Al):Prop:=xs=[] ∨ ∃ b off,ad=some ⟨b,off,none⟩∧b < w.heap.size∧∀ (i:Nat) (h:i < xs.length),RQ w b (off + i * 2) xs[i]
def pW (w:World) (ad:Option Addr) (zs:List Int):Prop:=zs=[] ∨ ∃ b off,ad=some ⟨b,off,none⟩∧b < w.heap.size∧∀ (i:Nat) (h:i < zs.length),w.cell? ⟨b,off + i,none⟩=some (.int .i64 zs[i])
theorem RQ.same {w w':af} {b off:Nat} {a:Al} (h:RQ w b off a) (hc:∀ o,w'.cell? ⟨b,o,none⟩=w.cell? ⟨b,o,none⟩):RQ w' b off a:=⟨(hc _).trans h.1,(hc _).trans h.2⟩
theorem jM.below {w w':af} {ad:Option Addr} {xs:List Al} (h:jM w ad xs) (hB:ag w w'):jM w' ad xs:=by
 rcases h with h | ⟨b,off,e,hb,hr⟩
 ·exact .inl h
 exact .inr ⟨b,off,e,TP hb hB.size,fun i hi=>(hr i hi).same fun o=>hB.cell (p:=⟨b,o,none⟩) hb⟩
theorem pW.below {w w':af} {ad:Option Addr} {zs:List Int} (h:pW w ad zs) (hB:ag w w'):pW w' ad zs:=by
 rcases h with h | ⟨b,off,e,hb,hr⟩
 ·exact .inl h
 exact .inr ⟨b,off,e,TP hb hB.size,fun i hi=>(hB.cell (p:=⟨b,off + i,none⟩) hb).trans (hr i hi)⟩
structure Ex where
 kind:Int
 allow:List Al
 over:ByteArray
 name:ByteArray
 kids:List Int
structure ER where
 e:Ex
 adA:Option Addr
 capA:Nat
 adK:Option Addr
 capK:Nat
def ER.val (r:ER):Value:=.agg #[.int .i64 r.e.kind,.slice r.adA r.e.allow.length r.capA,.string r.e.over,.string r.e.name,.slice r.adK r.e.kids.length r.capK]
def ER.ok (w:World) (r:ER):Prop:=jM w r.adA r.e.allow∧pW w r.adK r.e.kids
def Ex.fits (e:Ex):Prop:=(∀ a ∈ e.allow,a.fits)∧e.over.size≤maxLen∧e.name.size≤maxLen∧e.allow.length≤maxLen∧e.kids.length≤maxLen
theorem ER.ok.below {w w':af} {r:ER} (h:r.ok w) (hB:ag w w'):r.ok w':=⟨h.1.below hB,h.2.below hB⟩
def x8 (w:World) (b off:Nat) (r:ER):Prop :=
 w.cell? ⟨b,off,none⟩=some (.int .i64 r.e.kind)∧w.cell? ⟨b,off + 1,none⟩=some (.slice r.adA r.e.allow.length r.capA)∧w.cell? ⟨b,off + 2,none⟩=some (.string r.e.over) ∧
 w.cell? ⟨b,off + 3,none⟩=some (.string r.e.name)∧w.cell? ⟨b,off + 4,none⟩=some (.slice r.adK r.e.kids.length r.capK)
theorem x8.same {w w':af} {b off:Nat} {r:ER} (h:x8 w b off r) (hc:∀ o,w'.cell? ⟨b,o,none⟩=w.cell? ⟨b,o,none⟩):x8 w' b off r:=by
 obtain ⟨h0,h1,h2,h3,h4⟩:=h;exact ⟨(hc _).trans h0,(hc _).trans h1,(hc _).trans h2,(hc _).trans h3,(hc _).trans h4⟩
def iH (w:World) (ad:Option Addr) (rs:List ER):Prop:=rs=[] ∨ ∃ b off,ad=some ⟨b,off,none⟩∧b < w.heap.size∧(∀ (i:Nat) (h:i < rs.length),x8 w b (off + i * 5) rs[i])∧∀ r ∈ rs,r.ok w
theorem iH.below {w w':af} {ad:Option Addr} {rs:List ER} (h:iH w ad rs) (hB:ag w w'):iH w' ad rs:=by
 rcases h with h | ⟨b,off,e,hb,hr,hk⟩
 ·exact .inl h
 exact .inr ⟨b,off,e,TP hb hB.size,fun i hi=>(hr i hi).same fun o=>hB.cell (p:=⟨b,o,none⟩) hb,fun r hr=>(hk r hr).below hB⟩
def aj (rs:List ER):List Ex:=rs.map ER.e
theorem aT (rs:List ER):(aj rs).length=rs.length:=by simp [aj]
def ui (s:ByteArray):Bool:=s.toList.isEmpty || aP s
theorem Hw (s:bF) (w:af) (hs:s.size≤maxLen) :
  Calls prog 163 #[.string s] w fun e w'=>e=.returned (.bool (ui s))∧w'=w:=by
 go_enter func163,ntmps163;go_wp2_with (go_at_call 162; refine (aL _ _ hs).mono ?_; rintro e w' ⟨rfl,rfl⟩)
 all_goals go_ret
 all_goals exact ⟨ah (by simp [ui, *]),rfl⟩
end Go.Proofs.YtajkkeikihhejaaGreat
