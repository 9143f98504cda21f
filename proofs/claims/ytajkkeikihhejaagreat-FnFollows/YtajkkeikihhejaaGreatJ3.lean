/- Contracts of the law's helpers that weigh an expression: what is left is no more than there was, and no list is longer than that. -/
import Derived.Test.YtajkkeikihhejaaGreatSq
import Derived.Test.YtajkkeikihhejaaGreatJ1
import Derived.Laws.IdiomStrings
import Derived.Deep.RegionHeld3
import Derived.Deep.QuietTactic
import Derived.BigQuiet
import Derived.WalkSmall
import Derived.WalkSpells
namespace Go.Proofs.YtajkkeikihhejaaGreat
open ChangeShapes WideShapes ChangeAt RowKit
open Pl
def Ex.light(e:Ex):Prop:=e.allow.length<=1048576/\e.kids.length<=1048576
structure Fil(w wr:World)(g n:Nat)(xs:Q03):Prop where
 below:ae w wr
 ge:w.heap.size<=g
 lt:g<wr.heap.size
 done:∀(j:Nat) (h:j<xs.length),wr.cell? ⟨g,j,none⟩=some xs[j]
 there:∀j,j<n->(wr.cell? ⟨g,j,none⟩).isSome=true
 free:∀j,wr.frozen? ⟨g,j,none⟩=false
theorem qi{w:af}{g i j:Nat}{v:Value}(h:i≠j):(w.setCell ⟨g,i,none⟩ v).cell? ⟨g,j,none⟩=w.cell? ⟨g,j,none⟩:=by
 apply World.cell?_setCell_other;intro e;exact h (congrArg Addr.off e)
theorem zy{w:af}{a:Addr}{v u:Value}(h:w.cell? a=some u):(w.setCell a v).cell? a=some v:=by
 apply World.cell?_setCell_same;exact h
theorem xX{w:af}{g h i j:Nat}{v:Value}(hn:g≠h):(w.setCell ⟨g,i,none⟩ v).cell? ⟨h,j,none⟩=w.cell? ⟨h,j,none⟩:=by
 apply World.cell?_setCell_other;intro e;exact hn (congrArg Addr.block e)
theorem Fil.later{w wr w1:af}{g n:Nat}{xs:Q03}(h:Fil w wr g n xs)(hb:ae wr w1):Fil w w1 g n xs where
 below:=h.below.trans (hb.mono h.below.size)
 ge:=h.ge
 lt:=UT h.lt hb.size
 done j hj:=by rw[hb.cell (p:=⟨g,j,none⟩) h.lt];exact h.done j hj
 there j hj:=by rw[hb.cell (p:=⟨g,j,none⟩) h.lt];exact h.there j hj
 free j:=by rw[hb.frozen (p:=⟨g,j,none⟩) h.lt];exact h.free j
theorem Fil.put{w wr:af}{g n o:Nat}{xs:Q03}(h:Fil w wr g n xs)(v:Value)(ho:o=xs.length)(hn:o<n):Fil w (wr.setCell ⟨g,o,none⟩ v) g n (xs++[v]) where
 below:=h.below.setCell (p:=⟨g,o,none⟩) h.ge v
 ge:=h.ge
 lt:=by simpa using h.lt
 done j hj:=by
  by_cases e:j=o
  ·subst e;obtain⟨u,hu⟩:=Option.isSome_iff_exists.mp (h.there j hn);rw[zy hu];simp[ho]
  have hj':j<xs.length:=by simp at hj;omega
  rw[qi (Ne.symm e),h.done j hj',Vg hj']
 there j hj:=by
  by_cases e:j=o
  ·subst e;obtain⟨u,hu⟩:=Option.isSome_iff_exists.mp (h.there j hn);rw[zy hu];rfl
  rw[qi (Ne.symm e)];exact h.there j hj
 free j:=by simpa using h.free j
def ints(zs:List Int):List Value:=zs.map (Value.int .i64)
theorem Fil.ints{w w':af}{g:Nat}{zs:List Int}(h:Fil w w' g zs.length (ints zs)):sK w' (some ⟨g,0,none⟩) zs :=
 .inr ⟨g,0,rfl,h.lt,fun i hi=>by rw[Vj,h.done i (by simpa[YtajkkeikihhejaaGreat.ints] using hi)];simp[YtajkkeikihhejaaGreat.ints]⟩
def pairs(xs:Q0a):List Value:=xs.flatMap fun a=>[.string a.t,.string a.s]
theorem rD:∀xs:List Al,(pairs xs).length=xs.length*2
 | []=>rfl
 | a::xs=>by have:=rD xs;simp only[pairs,Vo,U2,Vq,VT]at this ⊢;omega
theorem uM:∀(xs:Q0a) (i:Nat) (h:i<xs.length),(pairs xs)[i*2]?=some (.string xs[i].t)/\(pairs xs)[i*2+1]?=some (.string xs[i].s)
 | [],i,h=>by simp at h
 | a::xs,0,_=>by simp[pairs]
 | a::xs,i+1,h=>by
  have:=uM xs i (by simpa using h);simp only[pairs,Vo,VC,VU,List.getElem_cons_succ]at this ⊢;rw[show(i+1)*2=i*2+1+1 by omega,show i*2+1+1+1=(i*2+1)+1+1 by omega];simpa using this
theorem Fil.pairs{w w':af}{g:Nat}{xs:Q0a}(h:Fil w w' g (xs.length*2) (pairs xs)):lq w' (some ⟨g,0,none⟩) xs:=by
 refine .inr ⟨g,0,rfl,h.lt,fun i hi=>?_⟩;obtain⟨h1,h2⟩:=uM xs i hi;have hl:=rD xs;refine⟨?_,?_⟩
 ·rw[Vj,h.done (i*2) (by omega),<-h1,U1 (by omega)]
 rw[Vj,h.done (i*2+1) (by omega),<-h2,U1 (by omega)]
theorem lq.set{w:af}{ad:Q02}{xs:Q0a}{g o:Nat}{v:Value}(h:lq w ad xs)(hn:∀b off,ad=some ⟨b,off,none⟩->g≠b):lq (w.setCell ⟨g,o,none⟩ v) ad xs:=by
 rcases h with h|⟨b,off,e,hb,hr⟩
 ·exact .inl h
 exact .inr ⟨b,off,e,by simpa using hb,fun i hi=>(hr i hi).same fun o=>xX (hn b off e)⟩
theorem sK.set{w:af}{ad:Q02}{zs:List Int}{g o:Nat}{v:Value}(h:sK w ad zs)(hn:∀b off,ad=some ⟨b,off,none⟩->g≠b):sK (w.setCell ⟨g,o,none⟩ v) ad zs:=by
 rcases h with h|⟨b,off,e,hb,hr⟩
 ·exact .inl h
 exact .inr ⟨b,off,e,by simpa using hb,fun i hi=>by rw[xX (hn b off e)];exact hr i hi⟩
theorem kept{W w1:af}{n o:Nat}{v:Value}(hb:ae W w1)(hn:n<W.heap.size)(h:W.cell? ⟨n,o,none⟩=some v):w1.cell? ⟨n,o,none⟩=some v:=by
 rw[hb.cell (p:=⟨n,o,none⟩) hn];exact h
theorem Ul{W w1:af}{n o:Nat}(hb:ae W w1)(hn:n<W.heap.size)(h:W.frozen? ⟨n,o,none⟩=false):w1.frozen? ⟨n,o,none⟩=false:=by
 rw[hb.frozen (p:=⟨n,o,none⟩) hn];exact h
theorem NV(w:af)(x:Obj)(C:Array Value)(t:TypeId)(k:Nat){v:Value}(h:C[k]?=some v):((w.alloc x).alloc (.cells C t)).cell? ⟨w.heap.size+1,k,none⟩=some v:=by
 have:=World.cell?_alloc_mark (w.alloc x) C t (0,0) k;rw[World.size_alloc,h]at this;exact this
theorem Ta(w:af)(x y:Obj)(C:Array Value)(t:TypeId)(k:Nat){v:Value}(h:C[k]?=some v):(((w.alloc x).alloc y).alloc (.cells C t)).cell? ⟨w.heap.size+1+1,k,none⟩=some v:=by
 have:=NV (w.alloc x) y C t k h;rw[World.size_alloc]at this;exact this
def ER.row(r:ER):List Value:=[.int .i64 r.e.kind,.slice r.adA r.e.allow.length r.capA,.string r.e.over,.string r.e.name,.slice r.adK r.e.kids.length r.capK]
def jS(rs:Q08):List Value:=rs.flatMap ER.row
theorem wU:∀rs:List ER,(jS rs).length=rs.length*5
 | []=>rfl
 | r::rs=>by have:=wU rs;simp only[jS,ER.row,Vo,U2,Vq,VT]at this ⊢;omega
theorem zz:∀(rs:Q08) (i:Nat) (h:i<rs.length) (j:Nat),j<5->(jS rs)[i*5+j]?=(rs[i]).row[j]?
 | [],i,h,_,_=>by simp at h
 | r::rs,0,_,j,hj=>by
  simp only[jS,Vo,Nat.zero_mul,Vj,List.getElem_cons_zero];rw[VP (by simpa[ER.row] using hj)]
 | r::rs,i+1,h,j,hj=>by
  have:=zz rs i (by simpa using h) j hj;simp only[jS,Vo,List.getElem_cons_succ]at this ⊢;rw[VN (by simp[ER.row];omega),<-this];congr 1;simp[ER.row];omega
theorem Fil.rows{w w':af}{g:Nat}{rs:Q08}(h:Fil w w' g (rs.length*5) (jS rs))(hok:∀r∈rs,r.ok w'):gZ w' (some ⟨g,0,none⟩) rs:=by
 refine .inr ⟨g,0,rfl,h.lt,fun i hi=>?_,hok⟩;have hl:=wU rs;have key:∀j,j<5->w'.cell? ⟨g,0+i*5+j,none⟩=(rs[i]).row[j]?:=fun j hj=>by
  rw[Vj,h.done (i*5+j) (by omega),<-zz rs i hi j hj,U1 (by omega)]
 exact⟨key 0 (by omega),key 1 (by omega),key 2 (by omega),key 3 (by omega),key 4 (by omega)⟩
def ER.new(B:Nat)(r:ER):Prop:=∃gA gK:Nat,r.adA=some ⟨gA,0,none⟩/\r.adK=some ⟨gK,0,none⟩/\B<gA/\B<gK/\r.capA=r.e.allow.length
theorem ER.ok.set{w:af}{r:ER}{g o:Nat}{v:Value}(h:r.ok w)(hn:r.new g):r.ok (w.setCell ⟨g,o,none⟩ v):=by
 obtain⟨gA,gK,e1,e2,h1,h2,-⟩:=hn;refine⟨h.1.set fun b off e=>?_,h.2.set fun b off e=>?_⟩
 ·rw[e1]at e;injection e with e;injection e with e3 e4;omega
 rw[e2]at e;injection e with e;injection e with e3 e4;omega
theorem ER.new.mono{B B':Nat}{r:ER}(h:r.new B)(hB:B'<=B):r.new B':=by
 obtain⟨gA,gK,e1,e2,h1,h2,h3⟩:=h;exact⟨gA,gK,e1,e2,by omega,by omega,h3⟩
structure Rl where
 name:ByteArray
 expr:List Ex
structure RR where
 name:ByteArray
 rows:List ER
 ad:Option Addr
 cap:Nat
abbrev Q07:=List RR
def RR.p(r:RR):Rl:=⟨r.name,ak r.rows⟩
def RR.val(r:RR):Value:=.agg #[.string r.name,.slice r.ad r.rows.length r.cap]
def RR.ok(w:World)(r:RR):Prop:=gZ w r.ad r.rows
def RR.fits(r:RR):Prop:=r.name.size<=maxLen/\r.rows.length<=maxLen/\∀q∈r.rows,q.e.fits
def RR.light(r:RR):Prop:=r.rows.length<=1048576/\∀q∈r.rows,q.e.light
def RR.caps(r:RR):Prop:=r.rows.length<=r.cap/\∀q∈r.rows,q.e.allow.length<=q.capA
def RR.new(B:Nat)(r:RR):Prop:=(∃g:Nat,r.ad=some ⟨g,0,none⟩/\B<g)/\∀q∈r.rows,q.new B
theorem RR.ok.below{w w':af}{r:RR}(h:r.ok w)(hB:ae w w'):r.ok w':=gZ.below h hB
def AtR(w:World)(b off:Nat)(r:RR):Prop:=w.cell? ⟨b,off,none⟩=some (.string r.name)/\w.cell? ⟨b,off+1,none⟩=some (.slice r.ad r.rows.length r.cap)
theorem AtR.same{w w':af}{b off:Nat}{r:RR}(h:AtR w b off r)(hc:∀o,w'.cell? ⟨b,o,none⟩=w.cell? ⟨b,o,none⟩):AtR w' b off r:=⟨(hc _).trans h.1,(hc _).trans h.2⟩
theorem AtR.later{w w':af}{b off:Nat}{r:RR}(h:AtR w b off r)(hb:b<w.heap.size)(hB:ae w w'):AtR w' b off r:=h.same fun o=>hB.cell (p:=⟨b,o,none⟩) hb
def NW(w:World)(ad:Q02)(rs:Q07):Prop:=rs=[] \/ ∃b off,ad=some ⟨b,off,none⟩/\b<w.heap.size/\(∀(i:Nat) (h:i<rs.length),AtR w b (off+i*2) rs[i])/\∀r∈rs,r.ok w
theorem NW.below{w w':af}{ad:Q02}{rs:Q07}(h:NW w ad rs)(hB:ae w w'):NW w' ad rs:=by
 rcases h with h|⟨b,off,e,hb,hr,hk⟩
 ·exact .inl h
 exact .inr ⟨b,off,e,UT hb hB.size,fun i hi=>(hr i hi).same fun o=>hB.cell (p:=⟨b,o,none⟩) hb,fun r hr=>(hk r hr).below hB⟩
def eZ(rs:Q07):List Rl:=rs.map RR.p
theorem rE(rs:Q07):(eZ rs).length=rs.length:=by simp[eZ]
theorem RR.ok.set{w:af}{r:RR}{g o:Nat}{v:Value}(h:r.ok w)(hn:r.new g):r.ok (w.setCell ⟨g,o,none⟩ v):=by
 obtain⟨⟨gE,e1,h1⟩,h2⟩:=hn;rcases h with h|⟨b,off,e,hb,hr,hk⟩
 ·exact .inl h
 refine .inr ⟨b,off,e,by simpa using hb,fun i hi=>(hr i hi).same fun o=>xX ?_,fun q hq=>(hk q hq).set (h2 q hq)⟩;rw[e1]at e;injection e with e;injection e with e3 e4;omega
theorem RR.new.mono{B B':Nat}{r:RR}(h:r.new B)(hB:B'<=B):r.new B':=by
 obtain⟨⟨g,e,hg⟩,h2⟩:=h;exact⟨⟨g,e,by omega⟩,fun q hq=>(h2 q hq).mono hB⟩
structure Ty where
 name:ByteArray
 rels:List Rl
abbrev Q0b:=List Ty
structure TR where
 name:ByteArray
 rows:List RR
 ad:Option Addr
 cap:Nat
abbrev Q06:=List TR
def TR.p(r:TR):Ty:=⟨r.name,eZ r.rows⟩
def TR.val(r:TR):Value:=.agg #[.string r.name,.slice r.ad r.rows.length r.cap]
def TR.ok(w:World)(r:TR):Prop:=NW w r.ad r.rows
def TR.fits(r:TR):Prop:=r.name.size<=maxLen/\r.rows.length<=maxLen/\∀q∈r.rows,q.fits
def TR.light(r:TR):Prop:=r.rows.length<=1048576/\∀q∈r.rows,q.light
def TR.caps(r:TR):Prop:=r.rows.length<=r.cap/\∀q∈r.rows,q.caps
def TR.new(B:Nat)(r:TR):Prop:=(∃g:Nat,r.ad=some ⟨g,0,none⟩/\B<g)/\∀q∈r.rows,q.new B
theorem TR.ok.below{w w':af}{r:TR}(h:r.ok w)(hB:ae w w'):r.ok w':=NW.below h hB
def Tc(w:World)(b off:Nat)(r:TR):Prop:=w.cell? ⟨b,off,none⟩=some (.string r.name)/\w.cell? ⟨b,off+1,none⟩=some (.slice r.ad r.rows.length r.cap)
theorem Tc.same{w w':af}{b off:Nat}{r:TR}(h:Tc w b off r)(hc:∀o,w'.cell? ⟨b,o,none⟩=w.cell? ⟨b,o,none⟩):Tc w' b off r:=⟨(hc _).trans h.1,(hc _).trans h.2⟩
theorem Tc.later{w w':af}{b off:Nat}{r:TR}(h:Tc w b off r)(hb:b<w.heap.size)(hB:ae w w'):Tc w' b off r:=h.same fun o=>hB.cell (p:=⟨b,o,none⟩) hb
def kU(w:World)(ad:Q02)(rs:Q06):Prop:=rs=[] \/ ∃b off,ad=some ⟨b,off,none⟩/\b<w.heap.size/\(∀(i:Nat) (h:i<rs.length),Tc w b (off+i*2) rs[i])/\∀r∈rs,r.ok w
theorem kU.below{w w':af}{ad:Q02}{rs:Q06}(h:kU w ad rs)(hB:ae w w'):kU w' ad rs:=by
 rcases h with h|⟨b,off,e,hb,hr,hk⟩
 ·exact .inl h
 exact .inr ⟨b,off,e,UT hb hB.size,fun i hi=>(hr i hi).same fun o=>hB.cell (p:=⟨b,o,none⟩) hb,fun r hr=>(hk r hr).below hB⟩
def ag(rs:Q06):List Ty:=rs.map TR.p
theorem lF(rs:Q06):(ag rs).length=rs.length:=by simp[ag]
theorem TR.ok.set{w:af}{r:TR}{g o:Nat}{v:Value}(h:r.ok w)(hn:r.new g):r.ok (w.setCell ⟨g,o,none⟩ v):=by
 obtain⟨⟨gE,e1,h1⟩,h2⟩:=hn;rcases h with h|⟨b,off,e,hb,hr,hk⟩
 ·exact .inl h
 refine .inr ⟨b,off,e,by simpa using hb,fun i hi=>(hr i hi).same fun o=>xX ?_,fun q hq=>(hk q hq).set (h2 q hq)⟩;rw[e1]at e;injection e with e;injection e with e3 e4;omega
theorem TR.new.mono{B B':Nat}{r:TR}(h:r.new B)(hB:B'<=B):r.new B':=by
 obtain⟨⟨g,e,hg⟩,h2⟩:=h;exact⟨⟨g,e,by omega⟩,fun q hq=>(h2 q hq).mono hB⟩
end Go.Proofs.YtajkkeikihhejaaGreat
