/- Expressions in memory: slices of allowed pairs, of whole numbers, of nodes; what a later world keeps of them. -/
import Derived.Test.YtajkkeikihhejaaGreatSq
import Derived.Test.YtajkkeikihhejaaGreatJ1
open Go.Proofs.Tryz
namespace Go.Proofs.YtajkkeikihhejaaGreat
open Go.ChangeShapes Go.WideShapes Go.ChangeAt Go.RowKit
open Pl
structure Al where
 t:ByteArray
 s:ByteArray
def Al.fits (a:Al):Prop:=a.t.size<=maxLen/\a.s.size<=maxLen
def R8 (w:World)(b off:Nat)(a:Al):Prop:=w.cell? ⟨b,off,none⟩=some (.string a.t)/\w.cell? ⟨b,off+1,none⟩=some (.string a.s)
def jM (w:World)(ad:Option Addr)(xs:List Al):Prop:=xs=[] \/ ∃ b off,ad=some ⟨b,off,none⟩/\b<w.heap.size/\∀ (i:Nat) (h:i<xs.length),R8 w b (off+i*2) xs[i]
def p8 (w:World)(ad:Option Addr)(zs:List Int):Prop:=zs=[] \/ ∃ b off,ad=some ⟨b,off,none⟩/\b<w.heap.size/\∀ (i:Nat) (h:i<zs.length),w.cell? ⟨b,off+i,none⟩=some (.int .i64 zs[i])
theorem R8.same {w w':af}{b off:Nat}{a:Al}(h:R8 w b off a)(hc:∀ o,w'.cell? ⟨b,o,none⟩=w.cell? ⟨b,o,none⟩):R8 w' b off a:=⟨(hc _).trans h.1,(hc _).trans h.2⟩
theorem jM.below {w w':af}{ad:Option Addr}{xs:List Al}(h:jM w ad xs)(hB:ag w w'):jM w' ad xs:=by
 rcases h with h|⟨b,off,e,hb,hr⟩
 ·exact .inl h
 exact .inr ⟨b,off,e,Uc hb hB.size,fun i hi=>(hr i hi).same fun o=>hB.cell (p:=⟨b,o,none⟩) hb⟩
theorem p8.below {w w':af}{ad:Option Addr}{zs:List Int}(h:p8 w ad zs)(hB:ag w w'):p8 w' ad zs:=by
 rcases h with h|⟨b,off,e,hb,hr⟩
 ·exact .inl h
 exact .inr ⟨b,off,e,Uc hb hB.size,fun i hi=>(hB.cell (p:=⟨b,off+i,none⟩) hb).trans (hr i hi)⟩
structure Ex where
 kind:Int
 allow:List Al
 over:ByteArray
 name:ByteArray
 kids:List Int
structure ER where
 e:Ex
 adA:Option Addr
 capA:Nat
 adK:Option Addr
 capK:Nat
def ER.val (r:ER):Value:=.agg #[.int .i64 r.e.kind,.slice r.adA r.e.allow.length r.capA,.string r.e.over,.string r.e.name,.slice r.adK r.e.kids.length r.capK]
def ER.ok (w:World)(r:ER):Prop:=jM w r.adA r.e.allow/\p8 w r.adK r.e.kids
def Ex.fits (e:Ex):Prop:=(∀ a∈e.allow,a.fits)/\e.over.size<=maxLen/\e.name.size<=maxLen/\e.allow.length<=maxLen/\e.kids.length<=maxLen
theorem ER.ok.below {w w':af}{r:ER}(h:r.ok w)(hB:ag w w'):r.ok w':=⟨h.1.below hB,h.2.below hB⟩
def ym (w:World)(b off:Nat)(r:ER):Prop :=
 w.cell? ⟨b,off,none⟩=some (.int .i64 r.e.kind)/\w.cell? ⟨b,off+1,none⟩=some (.slice r.adA r.e.allow.length r.capA)/\w.cell? ⟨b,off+2,none⟩=some (.string r.e.over) /\
 w.cell? ⟨b,off+3,none⟩=some (.string r.e.name)/\w.cell? ⟨b,off+4,none⟩=some (.slice r.adK r.e.kids.length r.capK)
theorem ym.same {w w':af}{b off:Nat}{r:ER}(h:ym w b off r)(hc:∀ o,w'.cell? ⟨b,o,none⟩=w.cell? ⟨b,o,none⟩):ym w' b off r:=by
 obtain ⟨h0,h1,h2,h3,h4⟩:=h;exact ⟨(hc _).trans h0,(hc _).trans h1,(hc _).trans h2,(hc _).trans h3,(hc _).trans h4⟩
def iC (w:World)(ad:Option Addr)(rs:List ER):Prop:=rs=[] \/ ∃ b off,ad=some ⟨b,off,none⟩/\b<w.heap.size/\(∀ (i:Nat) (h:i<rs.length),ym w b (off+i*5) rs[i])/\∀ r∈rs,r.ok w
theorem iC.below {w w':af}{ad:Option Addr}{rs:List ER}(h:iC w ad rs)(hB:ag w w'):iC w' ad rs:=by
 rcases h with h|⟨b,off,e,hb,hr,hk⟩
 ·exact .inl h
 exact .inr ⟨b,off,e,Uc hb hB.size,fun i hi=>(hr i hi).same fun o=>hB.cell (p:=⟨b,o,none⟩) hb,fun r hr=>(hk r hr).below hB⟩
def aj (rs:List ER):List Ex:=rs.map ER.e
theorem aN (rs:List ER):(aj rs).length=rs.length:=by simp [aj]
def uu (s:ByteArray):Bool:=s.toList.isEmpty || aR s
theorem H5 (s:bI)(w:af)(hs:s.size<=maxLen) :
  Calls prog 163 #[.string s] w fun e w'=>e=.returned (.bool (uu s))/\w'=w:=by
 go_enter func163,ntmps163;go_wp2_with (go_at_call 162;refine (aM _ _ hs).mono ?_;rintro e w' ⟨rfl,rfl⟩)
 all_goals go_ret
 all_goals exact ⟨ah (by simp [uu, *]),rfl⟩
end Go.Proofs.YtajkkeikihhejaaGreat
