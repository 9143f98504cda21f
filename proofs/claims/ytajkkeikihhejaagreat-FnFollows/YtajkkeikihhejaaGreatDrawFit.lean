/- What the drawing of tuples that mostly fit answers: at most ten tuples of short strings, in a row of their own; nothing that was there is touched. -/
import Derived.Test.YtajkkeikihhejaaGreatSq
import Derived.Test.YtajkkeikihhejaaGreatDrawSch
import Derived.Test.YtajkkeikihhejaaGreatJ35
namespace Go.Proofs.YtajkkeikihhejaaGreat
set_option maxRecDepth 100000
set_option linter.unusedVariables false
open ChangeShapes WideShapes ChangeAt RowKit Maps
open Pl
theorem iX.only{wc wd:af}{R base:Nat}{v:Value}{rs:Q06}(h:iX wc base v rs)(hR:R<base)(ho:Only R wc wd):iX wd base v rs :=
 h.heap mM ho.size fun g hg=>ho.block g (h.lt mM hg).2 (fun e=>by injection e with e;have:=(h.lt mM hg).1;omega)
theorem iX.slT{w:af}{R base cap:Nat}{WQ:Q02}{rs:Q06}(h:iX w base (.slice WQ rs.length cap) rs)(hR:R<base):∀W,Only R w W->kU W WQ rs:=fun W hO=>by
 obtain⟨We,cap',e,hs,-⟩:=(h.only hR hO).read;injection e with e1 e2 e3;subst e1;exact hs
def QN(w:World)(n:Nat)(a b r c d s:ByteArray):Prop:=w.cell? ⟨n,0,none⟩=some (.string a)/\w.cell? ⟨n,1,none⟩=some (.string b)/\w.cell? ⟨n,2,none⟩=some (.string r)/\w.cell? ⟨n,3,none⟩=some (.string c)/\w.cell? ⟨n,4,none⟩=some (.string d)/\w.cell? ⟨n,5,none⟩=some (.string s)
theorem QN.same{w w':af}{n:Nat}{a b r c d s:ByteArray}(h:QN w n a b r c d s)(hk:∀o,w'.cell? ⟨n,o,none⟩=w.cell? ⟨n,o,none⟩):QN w' n a b r c d s :=
 ⟨(hk _).trans h.1,(hk _).trans h.2.1,(hk _).trans h.2.2.1,(hk _).trans h.2.2.2.1,(hk _).trans h.2.2.2.2.1,(hk _).trans h.2.2.2.2.2⟩
theorem FM{w w':af}{base g c n:Nat}{xs:Q03}(h:w.ownsRow base 46 6 (.slice (some ⟨g,0,none⟩) n c) n xs)(hb:ae w w'):w'.ownsRow base 46 6 (.slice (some ⟨g,0,none⟩) n c) n xs :=
 h.kept (row:=none) ⟨hb.os,hb.tape,hb.output,hb.size,fun i hi _=>hb.block i hi⟩ (.inr (by simp[Value.ownBlock]))
end Go.Proofs.YtajkkeikihhejaaGreat
