/- Expressions in memory: slices of allowed pairs, of whole numbers, of nodes; what a later world keeps of them. -/
import Derived.Test.YtojjoblnpldniaaGreatSq
import Derived.Test.YtojjoblnpldniaaGreatNamesL
open Go.Proofs.Tryz
namespace Go.Proofs.YtojjoblnpldniaaGreat
open ChangeShapes WideShapes ChangeAt RowKit
open Pl
structure Al where
 t:ByteArray
 s:ByteArray
abbrev Q0a:=List Al
def Al.fits(a:Al):Prop:=a.t.size<=maxLen/\a.s.size<=maxLen
def TP(w:World)(b off:Nat)(a:Al):Prop:=w.cell? ⟨b,off,none⟩=some (.string a.t)/\w.cell? ⟨b,off+1,none⟩=some (.string a.s)
def lu(w:World)(ad:Q02)(xs:Q0a):Prop:=xs=[] \/ ∃b off,ad=some ⟨b,off,none⟩/\b<w.heap.size/\∀(i:Nat) (h:i<xs.length),TP w b (off+i*2) xs[i]
def wL(w:World)(ad:Q02)(zs:List Int):Prop:=zs=[] \/ ∃b off,ad=some ⟨b,off,none⟩/\b<w.heap.size/\∀(i:Nat) (h:i<zs.length),w.cell? ⟨b,off+i,none⟩=some (.int .i64 zs[i])
theorem TP.same{w w':ae}{b off:Nat}{a:Al}(h:TP w b off a)(hc:∀o,w'.cell? ⟨b,o,none⟩=w.cell? ⟨b,o,none⟩):TP w' b off a:=⟨(hc _).trans h.1,(hc _).trans h.2⟩
theorem lu.below{w w':ae}{ad:Q02}{xs:Q0a}(h:lu w ad xs)(hB:ag w w'):lu w' ad xs:=by
 rcases h with h|⟨b,off,e,hb,hr⟩
 ·exact .inl h
 exact .inr ⟨b,off,e,Vq hb hB.size,fun i hi=>(hr i hi).same fun o=>hB.cell (p:=⟨b,o,none⟩) hb⟩
theorem wL.below{w w':ae}{ad:Q02}{zs:List Int}(h:wL w ad zs)(hB:ag w w'):wL w' ad zs:=by
 rcases h with h|⟨b,off,e,hb,hr⟩
 ·exact .inl h
 exact .inr ⟨b,off,e,Vq hb hB.size,fun i hi=>(hB.cell (p:=⟨b,off+i,none⟩) hb).trans (hr i hi)⟩
structure Ex where
 kind:Int
 allow:List Al
 over:ByteArray
 name:ByteArray
 kids:List Int
abbrev Q09:=List Ex
structure ER where
 e:Ex
 adA:Option Addr
 capA:Nat
 adK:Option Addr
 capK:Nat
abbrev Q08:=List ER
def ER.val(r:ER):Value:=.agg #[.int .i64 r.e.kind,.slice r.adA r.e.allow.length r.capA,.string r.e.over,.string r.e.name,.slice r.adK r.e.kids.length r.capK]
def ER.ok(w:World)(r:ER):Prop:=lu w r.adA r.e.allow/\wL w r.adK r.e.kids
def Ex.fits(e:Ex):Prop:=(∀a∈e.allow,a.fits)/\e.over.size<=maxLen/\e.name.size<=maxLen/\e.allow.length<=maxLen/\e.kids.length<=maxLen
theorem ER.ok.below{w w':ae}{r:ER}(h:r.ok w)(hB:ag w w'):r.ok w':=⟨h.1.below hB,h.2.below hB⟩
def yz(w:World)(b off:Nat)(r:ER):Prop :=
 w.cell? ⟨b,off,none⟩=some (.int .i64 r.e.kind)/\w.cell? ⟨b,off+1,none⟩=some (.slice r.adA r.e.allow.length r.capA)/\w.cell? ⟨b,off+2,none⟩=some (.string r.e.over) /\
 w.cell? ⟨b,off+3,none⟩=some (.string r.e.name)/\w.cell? ⟨b,off+4,none⟩=some (.slice r.adK r.e.kids.length r.capK)
theorem yz.same{w w':ae}{b off:Nat}{r:ER}(h:yz w b off r)(hc:∀o,w'.cell? ⟨b,o,none⟩=w.cell? ⟨b,o,none⟩):yz w' b off r:=by
 obtain⟨h0,h1,h2,h3,h4⟩:=h;exact⟨(hc _).trans h0,(hc _).trans h1,(hc _).trans h2,(hc _).trans h3,(hc _).trans h4⟩
def jw(w:World)(ad:Q02)(rs:Q08):Prop:=rs=[] \/ ∃b off,ad=some ⟨b,off,none⟩/\b<w.heap.size/\(∀(i:Nat) (h:i<rs.length),yz w b (off+i*5) rs[i])/\∀r∈rs,r.ok w
theorem jw.below{w w':ae}{ad:Q02}{rs:Q08}(h:jw w ad rs)(hB:ag w w'):jw w' ad rs:=by
 rcases h with h|⟨b,off,e,hb,hr,hk⟩
 ·exact .inl h
 exact .inr ⟨b,off,e,Vq hb hB.size,fun i hi=>(hr i hi).same fun o=>hB.cell (p:=⟨b,o,none⟩) hb,fun r hr=>(hk r hr).below hB⟩
def aj(rs:Q08):List Ex:=rs.map ER.e
theorem aX(rs:Q08):(aj rs).length=rs.length:=by simp[aj]
def uO(s:ByteArray):Bool:=s.toList.isEmpty || aP s
theorem I8(s:bQ)(w:ae)(hs:s.size<=maxLen):
  Calls prog 148 #[.string s] w fun e w'=>e=.returned (.bool (uO s))/\w'=w:=by
 go_enter func148,ntmps148;go_wp2_with(go_at_call 122;refine(aL _ _ hs).mono ?_;rintro e w' ⟨rfl,rfl⟩)
 all_goals go_ret
 all_goals exact⟨ah (by simp[uO, *]),rfl⟩
def Ex.light(e:Ex):Prop:=e.allow.length<=1048576/\e.kids.length<=1048576
end Go.Proofs.YtojjoblnpldniaaGreat
