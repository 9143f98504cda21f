/- Schemas in memory: relations and types, each a name and a slice of what stands below it. -/
import Derived.Test.YtajkkeikihhejaaGreatSq
import Derived.Test.YtajkkeikihhejaaGreatJ3
namespace Go.Proofs.YtajkkeikihhejaaGreat
open Go.ChangeShapes Go.WideShapes Go.ChangeAt Go.RowKit
open Pl
theorem ER.new.mono {B B':Nat}{r:ER}(h:r.new B)(hB:B'<=B):r.new B':=by
 obtain ⟨gA,gK,e1,e2,h1,h2,h3⟩:=h;exact ⟨gA,gK,e1,e2,by omega,by omega,h3⟩
structure Rl where
 name:ByteArray
 expr:List Ex
structure RR where
 name:ByteArray
 rows:List ER
 ad:Option Addr
 cap:Nat
def RR.p (r:RR):Rl:=⟨r.name,aj r.rows⟩
def RR.val (r:RR):Value:=.agg #[.string r.name,.slice r.ad r.rows.length r.cap]
def RR.ok (w:World)(r:RR):Prop:=iC w r.ad r.rows
def RR.fits (r:RR):Prop:=r.name.size<=maxLen/\r.rows.length<=maxLen/\∀ q∈r.rows,q.e.fits
def RR.light (r:RR):Prop:=r.rows.length<=1048576/\∀ q∈r.rows,q.e.light
def RR.caps (r:RR):Prop:=r.rows.length<=r.cap/\∀ q∈r.rows,q.e.allow.length<=q.capA
def RR.new (B:Nat)(r:RR):Prop:=(∃ g:Nat,r.ad=some ⟨g,0,none⟩/\B<g)/\∀ q∈r.rows,q.new B
theorem RR.ok.below {w w':af}{r:RR}(h:r.ok w)(hB:ag w w'):r.ok w':=iC.below h hB
def AtR (w:World)(b off:Nat)(r:RR):Prop:=w.cell? ⟨b,off,none⟩=some (.string r.name)/\w.cell? ⟨b,off+1,none⟩=some (.slice r.ad r.rows.length r.cap)
theorem AtR.same {w w':af}{b off:Nat}{r:RR}(h:AtR w b off r)(hc:∀ o,w'.cell? ⟨b,o,none⟩=w.cell? ⟨b,o,none⟩):AtR w' b off r:=⟨(hc _).trans h.1,(hc _).trans h.2⟩
theorem AtR.later {w w':af}{b off:Nat}{r:RR}(h:AtR w b off r)(hb:b<w.heap.size)(hB:ag w w'):AtR w' b off r:=h.same fun o=>hB.cell (p:=⟨b,o,none⟩) hb
def Ni (w:World)(ad:Option Addr)(rs:List RR):Prop:=rs=[] \/ ∃ b off,ad=some ⟨b,off,none⟩/\b<w.heap.size/\(∀ (i:Nat) (h:i<rs.length),AtR w b (off+i*2) rs[i])/\∀ r∈rs,r.ok w
theorem Ni.below {w w':af}{ad:Option Addr}{rs:List RR}(h:Ni w ad rs)(hB:ag w w'):Ni w' ad rs:=by
 rcases h with h|⟨b,off,e,hb,hr,hk⟩
 ·exact .inl h
 exact .inr ⟨b,off,e,Uc hb hB.size,fun i hi=>(hr i hi).same fun o=>hB.cell (p:=⟨b,o,none⟩) hb,fun r hr=>(hk r hr).below hB⟩
def eF (rs:List RR):List Rl:=rs.map RR.p
theorem rq (rs:List RR):(eF rs).length=rs.length:=by simp [eF]
theorem RR.ok.set {w:af}{r:RR}{g o:Nat}{v:Value}(h:r.ok w)(hn:r.new g):r.ok (w.setCell ⟨g,o,none⟩ v):=by
 obtain ⟨⟨gE,e1,h1⟩,h2⟩:=hn;rcases h with h|⟨b,off,e,hb,hr,hk⟩
 ·exact .inl h
 refine .inr ⟨b,off,e,by simpa using hb,fun i hi=>(hr i hi).same fun o=>xB ?_,fun q hq=>(hk q hq).set (h2 q hq)⟩;rw [e1]at e;injection e with e;injection e with e3 e4;omega
theorem RR.new.mono {B B':Nat}{r:RR}(h:r.new B)(hB:B'<=B):r.new B':=by
 obtain ⟨⟨g,e,hg⟩,h2⟩:=h;exact ⟨⟨g,e,by omega⟩,fun q hq=>(h2 q hq).mono hB⟩
structure Ty where
 name:ByteArray
 rels:List Rl
structure TR where
 name:ByteArray
 rows:List RR
 ad:Option Addr
 cap:Nat
def TR.p (r:TR):Ty:=⟨r.name,eF r.rows⟩
def TR.val (r:TR):Value:=.agg #[.string r.name,.slice r.ad r.rows.length r.cap]
def TR.ok (w:World)(r:TR):Prop:=Ni w r.ad r.rows
def TR.fits (r:TR):Prop:=r.name.size<=maxLen/\r.rows.length<=maxLen/\∀ q∈r.rows,q.fits
def TR.light (r:TR):Prop:=r.rows.length<=1048576/\∀ q∈r.rows,q.light
def TR.caps (r:TR):Prop:=r.rows.length<=r.cap/\∀ q∈r.rows,q.caps
def TR.new (B:Nat)(r:TR):Prop:=(∃ g:Nat,r.ad=some ⟨g,0,none⟩/\B<g)/\∀ q∈r.rows,q.new B
theorem TR.ok.below {w w':af}{r:TR}(h:r.ok w)(hB:ag w w'):r.ok w':=Ni.below h hB
def Sb (w:World)(b off:Nat)(r:TR):Prop:=w.cell? ⟨b,off,none⟩=some (.string r.name)/\w.cell? ⟨b,off+1,none⟩=some (.slice r.ad r.rows.length r.cap)
theorem Sb.same {w w':af}{b off:Nat}{r:TR}(h:Sb w b off r)(hc:∀ o,w'.cell? ⟨b,o,none⟩=w.cell? ⟨b,o,none⟩):Sb w' b off r:=⟨(hc _).trans h.1,(hc _).trans h.2⟩
theorem Sb.later {w w':af}{b off:Nat}{r:TR}(h:Sb w b off r)(hb:b<w.heap.size)(hB:ag w w'):Sb w' b off r:=h.same fun o=>hB.cell (p:=⟨b,o,none⟩) hb
def kX (w:World)(ad:Option Addr)(rs:List TR):Prop:=rs=[] \/ ∃ b off,ad=some ⟨b,off,none⟩/\b<w.heap.size/\(∀ (i:Nat) (h:i<rs.length),Sb w b (off+i*2) rs[i])/\∀ r∈rs,r.ok w
theorem kX.below {w w':af}{ad:Option Addr}{rs:List TR}(h:kX w ad rs)(hB:ag w w'):kX w' ad rs:=by
 rcases h with h|⟨b,off,e,hb,hr,hk⟩
 ·exact .inl h
 exact .inr ⟨b,off,e,Uc hb hB.size,fun i hi=>(hr i hi).same fun o=>hB.cell (p:=⟨b,o,none⟩) hb,fun r hr=>(hk r hr).below hB⟩
def ae (rs:List TR):List Ty:=rs.map TR.p
theorem kY (rs:List TR):(ae rs).length=rs.length:=by simp [ae]
theorem TR.ok.set {w:af}{r:TR}{g o:Nat}{v:Value}(h:r.ok w)(hn:r.new g):r.ok (w.setCell ⟨g,o,none⟩ v):=by
 obtain ⟨⟨gE,e1,h1⟩,h2⟩:=hn;rcases h with h|⟨b,off,e,hb,hr,hk⟩
 ·exact .inl h
 refine .inr ⟨b,off,e,by simpa using hb,fun i hi=>(hr i hi).same fun o=>xB ?_,fun q hq=>(hk q hq).set (h2 q hq)⟩;rw [e1]at e;injection e with e;injection e with e3 e4;omega
theorem TR.new.mono {B B':Nat}{r:TR}(h:r.new B)(hB:B'<=B):r.new B':=by
 obtain ⟨⟨g,e,hg⟩,h2⟩:=h;exact ⟨⟨g,e,by omega⟩,fun q hq=>(h2 q hq).mono hB⟩
end Go.Proofs.YtajkkeikihhejaaGreat
