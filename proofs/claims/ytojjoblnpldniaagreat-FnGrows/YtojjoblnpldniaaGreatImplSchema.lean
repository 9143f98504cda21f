/- Contract of the program's function on right schemas. -/
import Derived.Test.YtojjoblnpldniaaGreatSq
import Derived.Test.YtojjoblnpldniaaGreatImplStrat
open Go.Proofs.Tryz
namespace Go.Proofs.YtojjoblnpldniaaGreat
open ChangeShapes WideShapes ChangeAt RowKit Maps
open Pl
theorem jY(ad:Q02)(cap:Nat)(rs:Q06)(w:ae)(hlen:rs.length<=1048576)(hs:mP w ad rs)(hl:∀r∈rs,r.light)(hf:∀r∈rs,r.fits)(hcp:∀r∈rs,r.caps):
  Calls prog 43 #[.slice ad rs.length cap] w fun e w'=>e=.returned (.bool (aN (af rs)))/\ag w w':=by
 have HC:=wC ad cap rs w hlen hs hl hf hcp;clear hs hl hf hcp;go_enter func43,ntmps43;go_wp2_with fail;refine HC.mono ?_;rintro e w6 ⟨hL,hb6⟩;rcases hL with⟨bS,nS,σ,rfl,hS,-⟩|⟨rfl,hno⟩
 ·have HY:=xV hS;have HY2:Hid (aN (af rs)=true):=HY;clear HY hS HC;go_wp2;go_ret;exact⟨ah HY2.out.symm,hb6⟩
 have HY2:Hid (aN (af rs)=false):=dP hno;clear hno HC;go_wp2;go_ret;exact⟨ah HY2.out.symm,hb6⟩
end Go.Proofs.YtojjoblnpldniaaGreat
