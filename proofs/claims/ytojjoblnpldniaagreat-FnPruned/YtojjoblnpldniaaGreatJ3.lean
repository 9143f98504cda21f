/- Expressions in memory: slices of allowed pairs, of whole numbers, of nodes; what a later world keeps of them. -/
import Derived.Test.YtojjoblnpldniaaGreatSq
import Derived.Test.YtojjoblnpldniaaGreatJ1
import Derived.Laws.IdiomStrings
import Derived.Deep.RegionHeld3
import Derived.Deep.QuietTactic
import Derived.BigQuiet
import Derived.WalkSmall
import Derived.WalkSpells
import Derived.OwnWalk
import Derived.Maps.AppendAt
open Go.Proofs.Tryz
set_option maxHeartbeats 80000000
namespace Go.Proofs.YtojjoblnpldniaaGreat
open ChangeShapes WideShapes ChangeAt RowKit
open Pl
structure Al where
 t:ByteArray
 s:ByteArray
abbrev Q0a:=List Al
def Al.fits(a:Al):Prop:=a.t.size<=maxLen/\a.s.size<=maxLen
def TV(w:World)(b off:Nat)(a:Al):Prop:=w.cell? ⟨b,off,none⟩=some (.string a.t)/\w.cell? ⟨b,off+1,none⟩=some (.string a.s)
def kD(w:World)(ad:Q02)(xs:Q0a):Prop:=xs=[] \/ ∃b off,ad=some ⟨b,off,none⟩/\b<w.heap.size/\∀(i:Nat) (h:i<xs.length),TV w b (off+i*2) xs[i]
def rU(w:World)(ad:Q02)(zs:List Int):Prop:=zs=[] \/ ∃b off,ad=some ⟨b,off,none⟩/\b<w.heap.size/\∀(i:Nat) (h:i<zs.length),w.cell? ⟨b,off+i,none⟩=some (.int .i64 zs[i])
theorem TV.same{w w':af}{b off:Nat}{a:Al}(h:TV w b off a)(hc:∀o,w'.cell? ⟨b,o,none⟩=w.cell? ⟨b,o,none⟩):TV w' b off a:=⟨(hc _).trans h.1,(hc _).trans h.2⟩
theorem kD.below{w w':af}{ad:Q02}{xs:Q0a}(h:kD w ad xs)(hB:ag w w'):kD w' ad xs:=by
 rcases h with h|⟨b,off,e,hb,hr⟩
 ·exact .inl h
 exact .inr ⟨b,off,e,Vt hb hB.size,fun i hi=>(hr i hi).same fun o=>hB.cell (p:=⟨b,o,none⟩) hb⟩
theorem rU.below{w w':af}{ad:Q02}{zs:List Int}(h:rU w ad zs)(hB:ag w w'):rU w' ad zs:=by
 rcases h with h|⟨b,off,e,hb,hr⟩
 ·exact .inl h
 exact .inr ⟨b,off,e,Vt hb hB.size,fun i hi=>(hB.cell (p:=⟨b,off+i,none⟩) hb).trans (hr i hi)⟩
structure Ex where
 kind:Int
 allow:List Al
 over:ByteArray
 name:ByteArray
 kids:List Int
abbrev Q09:=List Ex
structure ER where
 e:Ex
 adA:Option Addr
 capA:Nat
 adK:Option Addr
 capK:Nat
abbrev Q08:=List ER
def ER.val(r:ER):Value:=.agg #[.int .i64 r.e.kind,.slice r.adA r.e.allow.length r.capA,.string r.e.over,.string r.e.name,.slice r.adK r.e.kids.length r.capK]
def ER.ok(w:World)(r:ER):Prop:=kD w r.adA r.e.allow/\rU w r.adK r.e.kids
def Ex.fits(e:Ex):Prop:=(∀a∈e.allow,a.fits)/\e.over.size<=maxLen/\e.name.size<=maxLen/\e.allow.length<=maxLen/\e.kids.length<=maxLen
theorem ER.ok.below{w w':af}{r:ER}(h:r.ok w)(hB:ag w w'):r.ok w':=⟨h.1.below hB,h.2.below hB⟩
def ve(w:World)(b off:Nat)(r:ER):Prop :=
 w.cell? ⟨b,off,none⟩=some (.int .i64 r.e.kind)/\w.cell? ⟨b,off+1,none⟩=some (.slice r.adA r.e.allow.length r.capA)/\w.cell? ⟨b,off+2,none⟩=some (.string r.e.over) /\
 w.cell? ⟨b,off+3,none⟩=some (.string r.e.name)/\w.cell? ⟨b,off+4,none⟩=some (.slice r.adK r.e.kids.length r.capK)
theorem ve.same{w w':af}{b off:Nat}{r:ER}(h:ve w b off r)(hc:∀o,w'.cell? ⟨b,o,none⟩=w.cell? ⟨b,o,none⟩):ve w' b off r:=by
 obtain⟨h0,h1,h2,h3,h4⟩:=h;exact⟨(hc _).trans h0,(hc _).trans h1,(hc _).trans h2,(hc _).trans h3,(hc _).trans h4⟩
def jo(w:World)(ad:Q02)(rs:Q08):Prop:=rs=[] \/ ∃b off,ad=some ⟨b,off,none⟩/\b<w.heap.size/\(∀(i:Nat) (h:i<rs.length),ve w b (off+i*5) rs[i])/\∀r∈rs,r.ok w
theorem jo.below{w w':af}{ad:Q02}{rs:Q08}(h:jo w ad rs)(hB:ag w w'):jo w' ad rs:=by
 rcases h with h|⟨b,off,e,hb,hr,hk⟩
 ·exact .inl h
 exact .inr ⟨b,off,e,Vt hb hB.size,fun i hi=>(hr i hi).same fun o=>hB.cell (p:=⟨b,o,none⟩) hb,fun r hr=>(hk r hr).below hB⟩
def ai(rs:Q08):List Ex:=rs.map ER.e
theorem ay(rs:Q08):(ai rs).length=rs.length:=by simp[ai]
def vg(s:ByteArray):Bool:=s.toList.isEmpty || aP s
theorem Jm(s:bi)(w:af)(hs:s.size<=maxLen):
  Calls prog 148 #[.string s] w fun e w'=>e=.returned (.bool (vg s))/\w'=w:=by
 go_enter func148,ntmps148;go_wp2_with(go_at_call 122;refine(aL _ _ hs).mono ?_;rintro e w' ⟨rfl,rfl⟩)
 all_goals go_ret
 all_goals exact⟨ah (by simp[vg, *]),rfl⟩
def Ex.light(e:Ex):Prop:=e.allow.length<=1048576/\e.kids.length<=1048576
structure Fil(w wr:World)(g n:Nat)(xs:Q03):Prop where
 below:ag w wr
 ge:w.heap.size<=g
 lt:g<wr.heap.size
 done:∀(j:Nat) (h:j<xs.length),wr.cell? ⟨g,j,none⟩=some xs[j]
 there:∀j,j<n->(wr.cell? ⟨g,j,none⟩).isSome=true
 free:∀j,wr.frozen? ⟨g,j,none⟩=false
theorem gV{w:af}{g i j:Nat}{v:Value}(h:i≠j):(w.setCell ⟨g,i,none⟩ v).cell? ⟨g,j,none⟩=w.cell? ⟨g,j,none⟩:=by
 apply World.cell?_setCell_other;intro e;exact h (congrArg Addr.off e)
theorem mD{w:af}{a:Addr}{v u:Value}(h:w.cell? a=some u):(w.setCell a v).cell? a=some v:=by
 apply World.cell?_setCell_same;exact h
theorem yx{w:af}{g h i j:Nat}{v:Value}(hn:g≠h):(w.setCell ⟨g,i,none⟩ v).cell? ⟨h,j,none⟩=w.cell? ⟨h,j,none⟩:=by
 apply World.cell?_setCell_other;intro e;exact hn (congrArg Addr.block e)
theorem Fil.later{w wr w1:af}{g n:Nat}{xs:Q03}(h:Fil w wr g n xs)(hb:ag wr w1):Fil w w1 g n xs where
 below:=h.below.trans (hb.mono h.below.size)
 ge:=h.ge
 lt:=Vt h.lt hb.size
 done j hj:=by rw[hb.cell (p:=⟨g,j,none⟩) h.lt];exact h.done j hj
 there j hj:=by rw[hb.cell (p:=⟨g,j,none⟩) h.lt];exact h.there j hj
 free j:=by rw[hb.frozen (p:=⟨g,j,none⟩) h.lt];exact h.free j
theorem Fil.put{w wr:af}{g n o:Nat}{xs:Q03}(h:Fil w wr g n xs)(v:Value)(ho:o=xs.length)(hn:o<n):Fil w (wr.setCell ⟨g,o,none⟩ v) g n (xs++[v]) where
 below:=h.below.setCell (p:=⟨g,o,none⟩) h.ge v
 ge:=h.ge
 lt:=by simpa using h.lt
 done j hj:=by
  by_cases e:j=o
  ·subst e;obtain⟨u,hu⟩:=Option.isSome_iff_exists.mp (h.there j hn);rw[mD hu];simp[ho]
  have hj':j<xs.length:=by simp at hj;omega
  rw[gV (Ne.symm e),h.done j hj',Wd hj']
 there j hj:=by
  by_cases e:j=o
  ·subst e;obtain⟨u,hu⟩:=Option.isSome_iff_exists.mp (h.there j hn);rw[mD hu];rfl
  rw[gV (Ne.symm e)];exact h.there j hj
 free j:=by simpa using h.free j
theorem Pb{w w0:af}{n k:Nat}{base:Nat}{e:TypeId}{xs:Q03}(h:w0.ownsRow base e k (.slice (some ⟨w.heap.size,0,none⟩) n n) n xs)(hg:w.grownBy w0 none):Fil w w0 w.heap.size (n*k) [] where
 below:=(Vv _ _).grown hg (Vu _) (fun k hk=>by cases hk)
 ge:=Vu _
 lt:=(h.lt w.heap.size rfl).2
 done j hj:=absurd hj (Wm _)
 there j hj:=by
  rw[h.cellAt j hj,VG (by rw[h.1];exact hj)];rfl
 free j:=h.frozenAt j
theorem TW{t:TypeId}{n b:Nat}(h:(prog.info? t).map (fun i=>(i.zero.isSome,i.size,i.bytes))=some (true,n,b)):∃i z,prog.info? t=some i/\i.zero=some z/\i.size=n/\i.bytes=b:=by
 cases hi:prog.info? t with
 | none=>rw[hi]at h;cases h
 | some i =>
  rw[hi]at h;simp at h;obtain⟨z,hz⟩:=Option.isSome_iff_exists.mp h.1;exact⟨i,z,rfl,hz,h.2.1,h.2.2⟩
def ints(zs:List Int):List Value:=zs.map (Value.int .i64)
def pairs(xs:Q0a):List Value:=xs.flatMap fun a=>[.string a.t,.string a.s]
theorem lW:∀xs:List Al,(pairs xs).length=xs.length*2
 | []=>rfl
 | a::xs=>by have:=lW xs;simp only[pairs,V6,VD,V8,WE]at this ⊢;omega
theorem qL:∀(xs:Q0a) (i:Nat) (h:i<xs.length),(pairs xs)[i*2]?=some (.string xs[i].t)/\(pairs xs)[i*2+1]?=some (.string xs[i].s)
 | [],i,h=>by simp at h
 | a::xs,0,_=>by simp[pairs]
 | a::xs,i+1,h=>by
  have:=qL xs i (by simpa using h);simp only[pairs,V6,Wq,WK,List.getElem_cons_succ]at this ⊢;rw[show(i+1)*2=i*2+1+1 by omega,show i*2+1+1+1=(i*2+1)+1+1 by omega];simpa using this
theorem kD.set{w:af}{ad:Q02}{xs:Q0a}{g o:Nat}{v:Value}(h:kD w ad xs)(hn:∀b off,ad=some ⟨b,off,none⟩->g≠b):kD (w.setCell ⟨g,o,none⟩ v) ad xs:=by
 rcases h with h|⟨b,off,e,hb,hr⟩
 ·exact .inl h
 exact .inr ⟨b,off,e,by simpa using hb,fun i hi=>(hr i hi).same fun o=>yx (hn b off e)⟩
theorem rU.set{w:af}{ad:Q02}{zs:List Int}{g o:Nat}{v:Value}(h:rU w ad zs)(hn:∀b off,ad=some ⟨b,off,none⟩->g≠b):rU (w.setCell ⟨g,o,none⟩ v) ad zs:=by
 rcases h with h|⟨b,off,e,hb,hr⟩
 ·exact .inl h
 exact .inr ⟨b,off,e,by simpa using hb,fun i hi=>by rw[yx (hn b off e)];exact hr i hi⟩
theorem kept{W w1:af}{n o:Nat}{v:Value}(hb:ag W w1)(hn:n<W.heap.size)(h:W.cell? ⟨n,o,none⟩=some v):w1.cell? ⟨n,o,none⟩=some v:=by
 rw[hb.cell (p:=⟨n,o,none⟩) hn];exact h
theorem qM{W w1:af}{n o:Nat}(hb:ag W w1)(hn:n<W.heap.size)(h:W.frozen? ⟨n,o,none⟩=false):w1.frozen? ⟨n,o,none⟩=false:=by
 rw[hb.frozen (p:=⟨n,o,none⟩) hn];exact h
theorem Pd(w:af)(x:Obj)(C:Array Value)(t:TypeId)(k:Nat){v:Value}(h:C[k]?=some v):((w.alloc x).alloc (.cells C t)).cell? ⟨w.heap.size+1,k,none⟩=some v:=by
 have:=World.cell?_alloc_mark (w.alloc x) C t (0,0) k;rw[World.size_alloc,h]at this;exact this
theorem TY(w:af)(x y:Obj)(C:Array Value)(t:TypeId)(k:Nat){v:Value}(h:C[k]?=some v):(((w.alloc x).alloc y).alloc (.cells C t)).cell? ⟨w.heap.size+1+1,k,none⟩=some v:=by
 have:=Pd (w.alloc x) y C t k h;rw[World.size_alloc]at this;exact this
def ER.row(r:ER):List Value:=[.int .i64 r.e.kind,.slice r.adA r.e.allow.length r.capA,.string r.e.over,.string r.e.name,.slice r.adK r.e.kids.length r.capK]
def eD(rs:Q08):List Value:=rs.flatMap ER.row
theorem xx:∀rs:List ER,(eD rs).length=rs.length*5
 | []=>rfl
 | r::rs=>by have:=xx rs;simp only[eD,ER.row,V6,VD,V8,WE]at this ⊢;omega
theorem zQ:∀(rs:Q08) (i:Nat) (h:i<rs.length) (j:Nat),j<5->(eD rs)[i*5+j]?=(rs[i]).row[j]?
 | [],i,h,_,_=>by simp at h
 | r::rs,0,_,j,hj=>by
  simp only[eD,V6,Nat.zero_mul,VW,List.getElem_cons_zero];rw[Wy (by simpa[ER.row] using hj)]
 | r::rs,i+1,h,j,hj=>by
  have:=zQ rs i (by simpa using h) j hj;simp only[eD,V6,List.getElem_cons_succ]at this ⊢;rw[Wx (by simp[ER.row];omega),<-this];congr 1;simp[ER.row];omega
theorem Fil.rows{w w':af}{g:Nat}{rs:Q08}(h:Fil w w' g (rs.length*5) (eD rs))(hok:∀r∈rs,r.ok w'):jo w' (some ⟨g,0,none⟩) rs:=by
 refine .inr ⟨g,0,rfl,h.lt,fun i hi=>?_,hok⟩;have hl:=xx rs;have key:∀j,j<5->w'.cell? ⟨g,0+i*5+j,none⟩=(rs[i]).row[j]?:=fun j hj=>by
  rw[VW,h.done (i*5+j) (by omega),<-zQ rs i hi j hj,VG (by omega)]
 exact⟨key 0 (by omega),key 1 (by omega),key 2 (by omega),key 3 (by omega),key 4 (by omega)⟩
def ER.new(B:Nat)(r:ER):Prop:=∃gA gK:Nat,r.adA=some ⟨gA,0,none⟩/\r.adK=some ⟨gK,0,none⟩/\B<gA/\B<gK/\r.capA=r.e.allow.length
theorem ER.ok.set{w:af}{r:ER}{g o:Nat}{v:Value}(h:r.ok w)(hn:r.new g):r.ok (w.setCell ⟨g,o,none⟩ v):=by
 obtain⟨gA,gK,e1,e2,h1,h2,-⟩:=hn;refine⟨h.1.set fun b off e=>?_,h.2.set fun b off e=>?_⟩
 ·rw[e1]at e;injection e with e;injection e with e3 e4;omega
 rw[e2]at e;injection e with e;injection e with e3 e4;omega
theorem ER.new.mono{B B':Nat}{r:ER}(h:r.new B)(hB:B'<=B):r.new B':=by
 obtain⟨gA,gK,e1,e2,h1,h2,h3⟩:=h;exact⟨gA,gK,e1,e2,by omega,by omega,h3⟩
structure Rl where
 name:ByteArray
 expr:List Ex
structure RR where
 name:ByteArray
 rows:List ER
 ad:Option Addr
 cap:Nat
abbrev Q07:=List RR
def RR.p(r:RR):Rl:=⟨r.name,ai r.rows⟩
def RR.val(r:RR):Value:=.agg #[.string r.name,.slice r.ad r.rows.length r.cap]
def RR.ok(w:World)(r:RR):Prop:=jo w r.ad r.rows
def RR.fits(r:RR):Prop:=r.name.size<=maxLen/\r.rows.length<=maxLen/\∀q∈r.rows,q.e.fits
def RR.light(r:RR):Prop:=r.rows.length<=1048576/\∀q∈r.rows,q.e.light
def RR.caps(r:RR):Prop:=r.rows.length<=r.cap/\∀q∈r.rows,q.e.allow.length<=q.capA
def RR.new(B:Nat)(r:RR):Prop:=(∃g:Nat,r.ad=some ⟨g,0,none⟩/\B<g)/\∀q∈r.rows,q.new B
theorem RR.ok.below{w w':af}{r:RR}(h:r.ok w)(hB:ag w w'):r.ok w':=jo.below h hB
def AtR(w:World)(b off:Nat)(r:RR):Prop:=w.cell? ⟨b,off,none⟩=some (.string r.name)/\w.cell? ⟨b,off+1,none⟩=some (.slice r.ad r.rows.length r.cap)
theorem AtR.same{w w':af}{b off:Nat}{r:RR}(h:AtR w b off r)(hc:∀o,w'.cell? ⟨b,o,none⟩=w.cell? ⟨b,o,none⟩):AtR w' b off r:=⟨(hc _).trans h.1,(hc _).trans h.2⟩
theorem AtR.later{w w':af}{b off:Nat}{r:RR}(h:AtR w b off r)(hb:b<w.heap.size)(hB:ag w w'):AtR w' b off r:=h.same fun o=>hB.cell (p:=⟨b,o,none⟩) hb
def F5(w:World)(ad:Q02)(rs:Q07):Prop:=rs=[] \/ ∃b off,ad=some ⟨b,off,none⟩/\b<w.heap.size/\(∀(i:Nat) (h:i<rs.length),AtR w b (off+i*2) rs[i])/\∀r∈rs,r.ok w
theorem F5.below{w w':af}{ad:Q02}{rs:Q07}(h:F5 w ad rs)(hB:ag w w'):F5 w' ad rs:=by
 rcases h with h|⟨b,off,e,hb,hr,hk⟩
 ·exact .inl h
 exact .inr ⟨b,off,e,Vt hb hB.size,fun i hi=>(hr i hi).same fun o=>hB.cell (p:=⟨b,o,none⟩) hb,fun r hr=>(hk r hr).below hB⟩
def bQ(rs:Q07):List Rl:=rs.map RR.p
theorem dz(rs:Q07):(bQ rs).length=rs.length:=by simp[bQ]
theorem RR.ok.set{w:af}{r:RR}{g o:Nat}{v:Value}(h:r.ok w)(hn:r.new g):r.ok (w.setCell ⟨g,o,none⟩ v):=by
 obtain⟨⟨gE,e1,h1⟩,h2⟩:=hn;rcases h with h|⟨b,off,e,hb,hr,hk⟩
 ·exact .inl h
 refine .inr ⟨b,off,e,by simpa using hb,fun i hi=>(hr i hi).same fun o=>yx ?_,fun q hq=>(hk q hq).set (h2 q hq)⟩;rw[e1]at e;injection e with e;injection e with e3 e4;omega
theorem RR.new.mono{B B':Nat}{r:RR}(h:r.new B)(hB:B'<=B):r.new B':=by
 obtain⟨⟨g,e,hg⟩,h2⟩:=h;exact⟨⟨g,e,by omega⟩,fun q hq=>(h2 q hq).mono hB⟩
structure Ty where
 name:ByteArray
 rels:List Rl
abbrev Q0b:=List Ty
structure TR where
 name:ByteArray
 rows:List RR
 ad:Option Addr
 cap:Nat
abbrev Q06:=List TR
def TR.p(r:TR):Ty:=⟨r.name,bQ r.rows⟩
def TR.val(r:TR):Value:=.agg #[.string r.name,.slice r.ad r.rows.length r.cap]
def TR.ok(w:World)(r:TR):Prop:=F5 w r.ad r.rows
def TR.fits(r:TR):Prop:=r.name.size<=maxLen/\r.rows.length<=maxLen/\∀q∈r.rows,q.fits
def TR.light(r:TR):Prop:=r.rows.length<=1048576/\∀q∈r.rows,q.light
def TR.caps(r:TR):Prop:=r.rows.length<=r.cap/\∀q∈r.rows,q.caps
def TR.new(B:Nat)(r:TR):Prop:=(∃g:Nat,r.ad=some ⟨g,0,none⟩/\B<g)/\∀q∈r.rows,q.new B
theorem TR.ok.below{w w':af}{r:TR}(h:r.ok w)(hB:ag w w'):r.ok w':=F5.below h hB
def Pe(w:World)(b off:Nat)(r:TR):Prop:=w.cell? ⟨b,off,none⟩=some (.string r.name)/\w.cell? ⟨b,off+1,none⟩=some (.slice r.ad r.rows.length r.cap)
theorem Pe.same{w w':af}{b off:Nat}{r:TR}(h:Pe w b off r)(hc:∀o,w'.cell? ⟨b,o,none⟩=w.cell? ⟨b,o,none⟩):Pe w' b off r:=⟨(hc _).trans h.1,(hc _).trans h.2⟩
theorem Pe.later{w w':af}{b off:Nat}{r:TR}(h:Pe w b off r)(hb:b<w.heap.size)(hB:ag w w'):Pe w' b off r:=h.same fun o=>hB.cell (p:=⟨b,o,none⟩) hb
def jK(w:World)(ad:Q02)(rs:Q06):Prop:=rs=[] \/ ∃b off,ad=some ⟨b,off,none⟩/\b<w.heap.size/\(∀(i:Nat) (h:i<rs.length),Pe w b (off+i*2) rs[i])/\∀r∈rs,r.ok w
theorem jK.below{w w':af}{ad:Q02}{rs:Q06}(h:jK w ad rs)(hB:ag w w'):jK w' ad rs:=by
 rcases h with h|⟨b,off,e,hb,hr,hk⟩
 ·exact .inl h
 exact .inr ⟨b,off,e,Vt hb hB.size,fun i hi=>(hr i hi).same fun o=>hB.cell (p:=⟨b,o,none⟩) hb,fun r hr=>(hk r hr).below hB⟩
def ae(rs:Q06):List Ty:=rs.map TR.p
theorem df(rs:Q06):(ae rs).length=rs.length:=by simp[ae]
theorem TR.ok.set{w:af}{r:TR}{g o:Nat}{v:Value}(h:r.ok w)(hn:r.new g):r.ok (w.setCell ⟨g,o,none⟩ v):=by
 obtain⟨⟨gE,e1,h1⟩,h2⟩:=hn;rcases h with h|⟨b,off,e,hb,hr,hk⟩
 ·exact .inl h
 refine .inr ⟨b,off,e,by simpa using hb,fun i hi=>(hr i hi).same fun o=>yx ?_,fun q hq=>(hk q hq).set (h2 q hq)⟩;rw[e1]at e;injection e with e;injection e with e3 e4;omega
theorem TR.new.mono{B B':Nat}{r:TR}(h:r.new B)(hB:B'<=B):r.new B':=by
 obtain⟨⟨g,e,hg⟩,h2⟩:=h;exact⟨⟨g,e,by omega⟩,fun q hq=>(h2 q hq).mono hB⟩
def iy:List Rl->ByteArray->Option (List Ex)
 | [],_=>none
 | r::rs,n=>if r.name.toList==n.toList then some r.expr else iy rs n
def dZ:List Ty->ByteArray->ByteArray->Option (List Ex)
 | [],_,_=>none
 | t::ts,ty,n=>if t.name.toList==ty.toList then (iy t.rels n).or (dZ ts ty n) else dZ ts ty n
def lN:List Ty->ByteArray->Bool
 | [],_=>false
 | t::ts,ty=>(t.name.toList==ty.toList) || lN ts ty
theorem oD(rs:Q06)(k:Nat)(h:k<rs.length):ae (rs.drop k)=⟨rs[k].name,bQ rs[k].rows⟩::ae (rs.drop (k+1)):=by
 rw[Wi h];rfl
theorem Gj(rs:Q07)(k:Nat)(h:k<rs.length):bQ (rs.drop k)=⟨rs[k].name,ai rs[k].rows⟩::bQ (rs.drop (k+1)):=by
 rw[Wi h];rfl
theorem Jn(ad:Q02)(cap:Nat)(rs:Q06)(typ:bi)(w:af)(hlen:rs.length<=1048576)(hs:jK w ad rs):
  Calls prog 247 #[.slice ad rs.length cap,.string typ] w fun e w'=>e=.returned (.bool (lN (ae rs) typ))/\w'=w:=by
 go_enter func247,ntmps247;go_wp2;go_loopw[5] (fun i wr=>∃k:Nat,k<=rs.length/\i=.int .i64 k/\Hid (lN (ae (rs.drop k)) typ=lN (ae rs) typ)/\wr=w) (fun i _=>rs.length-(intOf i).toNat);case atStart=>exact⟨0,Vy _,rfl,rfl,rfl⟩
 obtain⟨k,hk,rfl,HP,rfl⟩:=hrel;by_cases hlt:k<rs.length
 ·rcases hs with rfl|⟨b,off,rfl,hb,hr,hok⟩
  ·simp at hlt
  obtain⟨t0,t1⟩:=hr k hlt;have hk1:=bI k;have hk2:(k:Int)<(rs.length:Int):=by omega
  clear hr hok;cases hq:(rs[k].name.toList==typ.toList);case true=>
   have HN:Hid (lN (ae rs) typ=true):=by show _=_;rw[<-HP.out,oD _ _ hlt];simp[lN,hq]
   go_wp2;go_ret;exact⟨by rw[HN.out];rfl,rfl⟩
  have WQ:Hid (lN (ae (rs.drop (k+1))) typ=lN (ae rs) typ):=by show _=_;rw[<-HP.out,oD _ _ hlt];simp[lN,hq]
  go_wp2;go_roundw;case rel=>exact⟨k+1,by omega,by go_num,WQ,by first|rfl|trivial⟩
  simp[intOf]<;>omega
 have HN:Hid (lN (ae rs) typ=false):=by show _=_;rw[<-HP.out,VU (by omega)];rfl
 go_wp2;go_ret;exact⟨by rw[HN.out];rfl,rfl⟩
def qN(rs:Q06)(ad:Q02)(rows:Q08):Prop:=rows=[] \/ ∃t∈rs,∃q∈t.rows,rows=q.rows/\ad=q.ad
theorem F5.mem{w:af}{ad:Q02}{rs:Q07}(h:F5 w ad rs){q:RR}(hq:q∈rs):q.ok w:=by
 rcases h with rfl|⟨b,off,e,hb,hr,hk⟩
 ·cases hq
 exact hk q hq
theorem jK.mem{w:af}{ad:Q02}{rs:Q06}(h:jK w ad rs){q:TR}(hq:q∈rs):q.ok w:=by
 rcases h with rfl|⟨b,off,e,hb,hr,hk⟩
 ·cases hq
 exact hk q hq
theorem qN.sl{rs:Q06}{ad ad0:Q02}{rows:Q08}{w:af}(h:qN rs ad rows)(hs:jK w ad0 rs):jo w ad rows:=by
 rcases h with rfl|⟨t,ht,q,hq,rfl,rfl⟩
 ·exact .inl rfl
 exact F5.mem (hs.mem ht) hq
theorem jy(ad:Q02)(cap:Nat)(rs:Q06)(typ rel:bi)(w:af)(hlen:rs.length<=1048576)(hs:jK w ad rs)(hl:∀r∈rs,r.light):
  Calls prog 101 #[.slice ad rs.length cap,.string typ,.string rel] w fun e w'=>(∃(rows:Q08) (Xe:Q02) (cap':Nat),e=.returned (.slice Xe rows.length cap')/\ai rows=(dZ (ae rs) typ rel).getD []/\jo w Xe rows/\qN rs Xe rows)/\w'=w:=by
 have HS:=az hs;have HL:=az hl;clear hs hl;go_enter func101,ntmps101;go_wp2;go_loopw[7] (fun i wr=>∃k:Nat,k<=rs.length/\i=.int .i64 k/\Hid (dZ (ae (rs.drop k)) typ rel=dZ (ae rs) typ rel)/\wr=w) (fun i _=>rs.length-(intOf i).toNat);case atStart=>exact⟨0,Vy _,rfl,rfl,rfl⟩
 obtain⟨k,hk,rfl,HP,rfl⟩:=hrel;by_cases hlt:k<rs.length
 ·rcases HS.out with rfl|⟨b,off,rfl,hb,hr,hok⟩
  ·simp at hlt
  obtain⟨t0,t1⟩:=hr k hlt;have ok:=hok rs[k] (Vs hlt);have lg:=(HL.out rs[k] (Vs hlt)).1;have Xc:=az ok;have hk1:=bI k;have hk2:(k:Int)<(rs.length:Int):=by omega
  clear hr hok ok;cases hq:(rs[k].name.toList==typ.toList);case false=>
   have WQ:Hid (dZ (ae (rs.drop (k+1))) typ rel=dZ (ae rs) typ rel):=by show _=_;rw[<-HP.out,oD _ _ hlt];simp[dZ,hq]
   go_wp2_with fail;go_loopw[8] (fun i w2=>i=.int .i64 0/\w2=wr) (fun i _=>(intOf i).toNat);case atStart=>exact⟨rfl,rfl⟩
   obtain⟨rfl,rfl⟩:=hrel;go_wp2;go_roundw;case rel=>exact⟨k+1,by omega,by go_num,WQ,by first|rfl|trivial⟩
   simp[intOf]<;>omega
  go_wp2_with fail;go_loopw[8] (fun i w2=>∃j:Nat,j<=rs[k].rows.length/\i=.int .i64 j/\Hid (iy (bQ (rs[k].rows.drop j)) rel=iy (bQ rs[k].rows) rel)/\w2=wr) (fun i _=>rs[k].rows.length-(intOf i).toNat);case atStart=>exact⟨0,Vy _,rfl,rfl,rfl⟩
  obtain⟨j,hj,rfl,HI,rfl⟩:=hrel;by_cases hjl:j<rs[k].rows.length
  ·rcases Xc.out with hnil|⟨b2,WV,had,hb2,hr2,hok2⟩
   ·rw[hnil]at hjl;simp at hjl
   have t1':=t1;rw[had]at t1';obtain⟨q0,q1⟩:=hr2 j hjl;have HOQ:Hid (rs[k].rows[j].ok _):=hok2 rs[k].rows[j] (Vs hjl);have hj1:=bI j;have hj2:(j:Int)<(rs[k].rows.length:Int):=by omega
   clear hr2 hok2 had t1;cases hn:(rs[k].rows[j].name.toList==rel.toList);case true=>
    have HN:Hid (ai rs[k].rows[j].rows=(dZ (ae rs) typ rel).getD []):=by
     have h1:iy (bQ rs[k].rows) rel=some (ai rs[k].rows[j].rows):=by rw[<-HI.out,Gj _ _ hjl];simp[iy,hn]
     show _=_;rw[<-HP.out,oD _ _ hlt];simp[dZ,hq,h1]
    have HFS:Hid (qN rs rs[k].rows[j].ad rs[k].rows[j].rows):=.inr ⟨rs[k],Vs hlt,rs[k].rows[j],Vs hjl,rfl,rfl⟩;go_wp2;go_ret;exact⟨⟨rs[k].rows[j].rows,_,_,rfl,HN.out,HOQ.out,HFS.out⟩,rfl⟩
   have HI2:Hid (iy (bQ (rs[k].rows.drop (j+1))) rel=iy (bQ rs[k].rows) rel):=by show _=_;rw[<-HI.out,Gj _ _ hjl];simp[iy,hn]
   go_wp2;go_roundw;case rel=>exact⟨j+1,by omega,by go_num,HI2,by first|rfl|trivial⟩
   simp[intOf]<;>omega
  have WQ:Hid (dZ (ae (rs.drop (k+1))) typ rel=dZ (ae rs) typ rel):=by
   have h1:iy (bQ rs[k].rows) rel=none:=by rw[<-HI.out,VU (by omega)];rfl
   show _=_;rw[<-HP.out,oD _ _ hlt];simp[dZ,hq,h1]
  go_wp2;go_roundw;case rel=>exact⟨k+1,by omega,by go_num,WQ,by first|rfl|trivial⟩
  simp[intOf]<;>omega
 have HN:Hid (ai []=(dZ (ae rs) typ rel).getD []):=by show _=_;rw[<-HP.out,VU (by omega)];rfl
 go_wp2;go_ret;exact⟨⟨[],none,0,rfl,HN.out,.inl rfl,.inl rfl⟩,rfl⟩
def aN:List Ex->List Al
 | []=>[]
 | e::es=>if e.kind=1 then e.allow else aN es
theorem gW(rs:Q08)(k:Nat)(h:k<rs.length):ai (rs.drop k)=rs[k].e::ai (rs.drop (k+1)):=by
 rw[Wi h];rfl
def Pf(rs:Q08)(ad:Q02)(xs:Q0a):Prop:=xs=[] \/ ∃r∈rs,xs=r.e.allow/\ad=r.adA
theorem jo.mem{w:af}{ad:Q02}{rs:Q08}(h:jo w ad rs){q:ER}(hq:q∈rs):q.ok w:=by
 rcases h with rfl|⟨b,off,e,hb,hr,hk⟩
 ·cases hq
 exact hk q hq
theorem Pf.sl{rs:Q08}{ad ad0:Q02}{xs:Q0a}{w:af}(h:Pf rs ad xs)(hs:jo w ad0 rs):kD w ad xs:=by
 rcases h with rfl|⟨r,hr,rfl,rfl⟩
 ·exact .inl rfl
 exact(hs.mem hr).1
theorem yz(ad:Q02)(cap:Nat)(rs:Q08)(w:af)(hlen:rs.length<=1048576)(hs:jo w ad rs):
  Calls prog 176 #[.slice ad rs.length cap] w fun e w'=>(∃(Xe:Q02) (cap':Nat),e=.returned (.slice Xe (aN (ai rs)).length cap')/\kD w Xe (aN (ai rs))/\Pf rs Xe (aN (ai rs)))/\w'=w:=by
 have HS:=az hs;clear hs;go_enter func176,ntmps176;go_wp2;go_loopw[3] (fun i wr=>∃k:Nat,k<=rs.length/\i=.int .i64 k/\Hid (aN (ai (rs.drop k))=aN (ai rs))/\wr=w) (fun i _=>rs.length-(intOf i).toNat);case atStart=>exact⟨0,Vy _,rfl,rfl,rfl⟩
 obtain⟨k,hk,rfl,HP,rfl⟩:=hrel;by_cases hlt:k<rs.length
 ·rcases HS.out with rfl|⟨b,off,rfl,hb,hr,hok⟩
  ·simp at hlt
  obtain⟨t0,t1,t2,t3,t4⟩:=hr k hlt;have Xc:Hid (rs[k].ok _):=hok rs[k] (Vs hlt);have hk1:=bI k;have hk2:(k:Int)<(rs.length:Int):=by omega
  clear hr hok;by_cases hq:rs[k].e.kind=1
  ·have HN:Hid (aN (ai rs)=rs[k].e.allow):=by show _=_;rw[<-HP.out,gW _ _ hlt];simp[aN,hq]
   go_wp2;go_ret;exact⟨⟨rs[k].adA,rs[k].capA,by rw[HN.out];rfl,by rw[HN.out];exact Xc.out.1,.inr ⟨rs[k],Vs hlt,HN.out,rfl⟩⟩,rfl⟩
  have WQ:Hid (aN (ai (rs.drop (k+1)))=aN (ai rs)):=by show _=_;rw[<-HP.out,gW _ _ hlt];simp[aN,hq]
  have hqb:(rs[k].e.kind==1)=false:=by simpa using hq
  go_wp2;go_roundw;case rel=>exact⟨k+1,by omega,by go_num,WQ,by first|rfl|trivial⟩
  simp[intOf]<;>omega
 have HN:Hid (aN (ai rs)=[]):=by show _=_;rw[<-HP.out,VU (by omega)];rfl
 go_wp2;go_ret;exact⟨⟨none,0,by rw[HN.out];rfl,by rw[HN.out];exact .inl rfl,.inl HN.out⟩,rfl⟩
def bn:List Ex->Bool
 | [e]=>decide (e.kind=1)&&e.allow.all fun a=>a.s.toList.isEmpty
 | _=>false
def zR(xs:Q0a)(k:Nat):Bool:=(xs.take k).all fun a=>a.s.toList.isEmpty
theorem Jo(xs:Q0a)(k:Nat)(h:k<xs.length):zR xs (k+1)=(zR xs k&&xs[k].s.toList.isEmpty):=by
 unfold zR;rw[Vx h,WH];simp
theorem Mt(xs:Q0a)(k:Nat)(h:k<xs.length)(hb:xs[k].s.toList.isEmpty=false):(xs.all fun a=>a.s.toList.isEmpty)=false:=by
 rw[Bool.eq_false_iff];intro h2;rw[VF]at h2;have:=h2 xs[k] (Vs h);rw[hb]at this;cases this
theorem ED(ad:Q02)(cap:Nat)(rs:Q08)(w:af)(hlen:rs.length<=1048576)(hs:jo w ad rs)(hl:∀r∈rs,r.e.light):
  Calls prog 248 #[.slice ad rs.length cap] w fun e w'=>e=.returned (.bool (bn (ai rs)))/\w'=w:=by
 by_cases h1:rs.length=1
 ·obtain⟨r,rfl⟩:∃r,rs=[r]:=List.length_eq_one_iff.1 h1;rcases hs with h|⟨b,off,rfl,hb,hr,hok⟩
  ·cases h
  obtain⟨t0,t1,t2,t3,t4⟩:=hr 0 (by simp);simp only[Nat.zero_mul,Nat.add_zero,List.getElem_cons_zero]at t0 t1 t2 t3 t4;have Xc:Hid (r.ok w):=hok r (by simp);obtain⟨lg,-⟩:=hl r (by simp);clear hr hok h1;simp only[V8,WE,VW];by_cases hq:r.e.kind=1
  ·have HD:Hid (bn (ai [r])=r.e.allow.all fun a=>a.s.toList.isEmpty):=by show _=_;simp[bn,ai,hq]
   go_enter func248,ntmps248;go_wp2;go_loopw[3] (fun i wr=>∃k:Nat,k<=r.e.allow.length/\i=.int .i64 k/\Hid (zR r.e.allow k=true)/\wr=w) (fun i _=>r.e.allow.length-(intOf i).toNat);case atStart=>exact⟨0,Vy _,rfl,(by show _=_;simp[zR]),rfl⟩
   obtain⟨k,hk,rfl,HP,rfl⟩:=hrel;by_cases hlt:k<r.e.allow.length
   ·rcases Xc.out.1 with hnil|⟨ba,YI,YJ,hba,hra⟩
    ·rw[hnil]at hlt;simp at hlt
    have t1':=t1;rw[YJ]at t1';obtain⟨q0,q1⟩:=hra k hlt;have hk1:=bI k;have hk2:(k:Int)<(r.e.allow.length:Int):=by omega
    clear hra YJ t1;cases he:r.e.allow[k].s.toList.isEmpty;case true=>
     have WQ:Hid (zR r.e.allow (k+1)=true):=by show _=_;rw[Jo _ _ hlt,HP.out,he];rfl
     go_wp2;go_roundw;case rel=>exact⟨k+1,by omega,by go_num,WQ,by first|rfl|trivial⟩
     simp[intOf]<;>omega
    have HN:Hid (bn (ai [r])=false):=by show _=_;rw[HD.out];exact Mt _ k hlt he
    go_wp2;go_ret;exact⟨by rw[HN.out];rfl,rfl⟩
   have HN:Hid (bn (ai [r])=true):=by
    show _=_;rw[HD.out];have:=HP.out;unfold zR at this;rwa [VZ (by omega)]at this
   go_wp2;go_ret;exact⟨by rw[HN.out];rfl,rfl⟩
  have HN:Hid (bn (ai [r])=false):=by show _=_;simp[bn,ai,hq]
  have hqb:(r.e.kind != 1)=true:=by simpa using hq
  go_enter func248,ntmps248;go_wp2;go_ret;exact⟨by rw[HN.out];rfl,rfl⟩
 have HN:Hid (bn (ai rs)=false):=by
  show _=_
  match rs,h1 with
  | [],_=>rfl
  | [r],h=>exact absurd rfl h
  | a::b::r,_=>rfl
 have h1':((rs.length:Int) != 1)=true:=by simp;omega
 go_enter func248,ntmps248;go_wp2;go_ret;exact⟨by rw[HN.out];rfl,rfl⟩
def ak(ts:Q0b)(ty n:ByteArray):List Ex:=(dZ ts ty n).getD []
def gl(ts:Q0b)(rel:ByteArray):List Al->List ByteArray
 | []=>[]
 | a::xs=>if (ak ts a.t rel).isEmpty then gl ts rel xs else a.t::gl ts rel xs
def d9(ts:Q0b)(ty over rel:ByteArray):List ByteArray:=gl ts rel (aN (ak ts ty over))
theorem Dc(ts:Q0b)(rel:bi)(xs ys:Q0a):gl ts rel (xs++ys)=gl ts rel xs++gl ts rel ys:=by
 induction xs with
 | nil=>rfl
 | cons a xs ih=>simp only[Wq,gl,ih];split<;>simp
theorem Tm(ts:Q0b)(rel:bi)(xs:Q0a)(k:Nat)(h:k<xs.length)(he:ak ts xs[k].t rel=[]):gl ts rel (xs.take (k+1))=gl ts rel (xs.take k):=by
 rw[Vx h,Dc];simp[gl,he]
theorem Pg(ts:Q0b)(rel:bi)(xs:Q0a)(k:Nat)(h:k<xs.length)(he:ak ts xs[k].t rel≠[]):gl ts rel (xs.take (k+1))=gl ts rel (xs.take k)++[xs[k].t]:=by
 rw[Vx h,Dc];simp[gl,he]
theorem zS(ts:Q0b)(rel:bi)(xs:Q0a):(gl ts rel xs).length<=xs.length:=by
 induction xs with
 | nil=>simp[gl]
 | cons a xs ih=>simp only[gl];split<;>simp<;>omega
theorem Mv:(prog.info? 9).map (fun i=>(i.zero,i.size,i.bytes))=some (some (.string ⟨#[]⟩),1,16):=by kernel_rfl
def qO(xs:List ByteArray):List Value:=xs.map Value.string
def Rn(w:World)(ad:Q02)(xs:List ByteArray):Prop:=xs=[] \/ ∃b off,ad=some ⟨b,off,none⟩/\b<w.heap.size/\∀(i:Nat) (h:i<xs.length),w.cell? ⟨b,off+i,none⟩=some (.string xs[i])
theorem Rn.below{w w':af}{ad:Q02}{xs:List ByteArray}(h:Rn w ad xs)(hB:ag w w'):Rn w' ad xs:=by
 rcases h with h|⟨b,off,e,hb,hr⟩
 ·exact .inl h
 exact .inr ⟨b,off,e,Vt hb hB.size,fun i hi=>(hB.cell (p:=⟨b,off+i,none⟩) hb).trans (hr i hi)⟩
theorem Ph{w:af}{base k:Nat}{v:Value}{xs:List ByteArray}(h:w.ownsRow base 9 1 v k (qO xs)):∃ad cp,v=.slice ad xs.length cp/\Rn w ad xs/\∀p,ad=some p->base<=p.block:=by
 have hl:xs.length=k:=by have:=h.1;simpa[qO] using this
 have h2:=h;rcases h.2 with⟨rfl,h0⟩|⟨g,cp,cur,rfl,hbg,hg,hnc,-⟩
 ·refine⟨none,0,?_,.inl (VM.1 (by omega)),fun p hp=>by cases hp⟩;rw[hl,h0]
 have hlt:=h2.lt g rfl;refine⟨_,cp,by rw[hl],.inr ⟨g,0,rfl,hlt.2,fun j hj=>?_⟩,fun p hp=>by injection hp with hp;rw[<-hp];exact hlt.1⟩;have:=h2.cells (g:=g) rfl j (.string xs[j]) (by simp[qO,hj]);rw[VW];have e:(⟨g,0,none⟩:Addr).add j=⟨g,j,none⟩:=by
  unfold Addr.add;by_cases hj:j=0
  ·subst hj;simp
  simp[hj]
 rwa [e]at this
theorem qN.light{rs:Q06}{ad:Q02}{rows:Q08}(h:qN rs ad rows)(hl:∀r∈rs,r.light):rows.length<=1048576/\∀q∈rows,q.e.light:=by
 rcases h with rfl|⟨t,ht,q,hq,rfl,-⟩
 ·exact⟨by simp,by simp⟩
 exact(hl t ht).2 q hq
theorem pu(rows:Q08)(hl:∀q∈rows,q.e.light):(aN (ai rows)).length<=1048576:=by
 induction rows with
 | nil=>simp[ai,aN]
 | cons r rows ih =>
  have e:ai (r::rows)=r.e::ai rows:=rfl;rw[e];simp only[aN];split
  ·exact(hl r (by simp)).1
  exact ih fun q hq=>hl q (by simp[hq])
set_option maxRecDepth 100000 in
theorem nI(ad:Q02)(cap:Nat)(rs:Q06)(typ over rel:bi)(w:af)(hlen:rs.length<=1048576)(hs:jK w ad rs)(hl:∀r∈rs,r.light):
  Calls prog 103 #[.slice ad rs.length cap,.string typ,.string over,.string rel] w fun e w'=>(∃(Xe:Q02) (cap':Nat),e=.returned (.slice Xe (d9 (ae rs) typ over rel).length cap')/\Rn w' Xe (d9 (ae rs) typ over rel)/\∀p,Xe=some p->w.heap.size<=p.block)/\ag w w':=by
 have HS:=az hs;have HL:=az hl;clear hs hl;obtain⟨i0,hi,hz0,hz1,hz2⟩:=info_parts Mv;go_enter func103,ntmps103;go_wp2_with fail;have hbA:ag w (w.alloc (.cells #[] 9)):=(Vv _ _).alloc (Vu _) _;have hown1:(w.alloc (.cells #[] 9)).ownsRow w.heap.size 9 1 (.slice (some ⟨w.heap.size,0,none⟩) 0 0) 0 []:=World.ownsRow_made w #[] 0 (Vu _) (by decide) rfl;refine(jy ad cap rs typ over _ hlen (HS.out.below hbA) HL.out).mono ?_;rintro e w1 ⟨⟨rows,ad1,cap1,rfl,hx1,hs1,hf1⟩,rfl⟩;have hl1:=hf1.light HL.out;have hal:=pu rows hl1.2;go_wp2_with fail;refine(yz ad1 cap1 rows _ hl1.1 hs1).mono ?_;rintro e w1 ⟨⟨ZP,cap2,rfl,-,hf2⟩,rfl⟩;have HG:Hid (d9 (ae rs) typ over rel=gl (ae rs) rel (aN (ai rows))):=by show _=_;rw[hx1];rfl
 have HA:Hid (kD w ZP (aN (ai rows))):=hf2.sl (hf1.sl HS.out);generalize aN (ai rows)=xs at *
 clear hs1 hx1 hf1 hl1 hf2;have HBA:=az hbA;have Xf:=az hown1;clear hbA hown1;obtain⟨wA,hwA⟩:=eQx (w.alloc (.cells #[] 9));rw[<-hwA]at HBA Xf ⊢;clear hwA;go_wp2_with fail;go_loopw[9,11] (fun v i wr=>∃k:Nat,k<=xs.length/\i=.int .i64 k/\wr.ownsRow w.heap.size 9 1 v (gl (ae rs) rel (xs.take k)).length (qO (gl (ae rs) rel (xs.take k)))/\ag w wr) (fun _ i _=>xs.length-(intOf i).toNat);case atStart=>exact⟨0,Vy _,rfl,by simpa[qO,gl] using Xf.out,HBA.out⟩
 obtain⟨k,hk,rfl,hown,hB⟩:=hrel;by_cases hlt:k<xs.length
 ·have HST:Hid (jK _ ad rs):=HS.out.below hB;rcases HA.out.below hB with rfl|⟨b,off,rfl,hb,hr⟩
  ·simp at hlt
  obtain⟨t0,t1⟩:=hr k hlt;have hBs:=hB.size;have hgl:=zS (ae rs) rel (xs.take k);rw[V9]at hgl;have HBH:=az hB;have HOW:Hid (wr.ownsRow w.heap.size 9 1 _ _ _):=hown;clear hr hB hown;go_wp2_with fail;refine(jy ad cap rs xs[k].t rel _ hlen HST.out HL.out).mono ?_;rintro e w1 ⟨⟨XR,ad3,cap3,rfl,hx3,-,-⟩,rfl⟩;by_cases hz:XR.length=0
  ·have HE:Hid (gl (ae rs) rel (xs.take (k+1))=gl (ae rs) rel (xs.take k)):=by
    refine Tm _ _ _ _ hlt ?_;show _=_;unfold ak;rw[<-hx3,VM.1 hz];rfl
   rw[hz];clear hx3;go_wp2;go_roundw;case rel=>exact⟨k+1,by omega,by go_num,by rw[HE.out];exact HOW.out,HBH.out⟩
   simp[intOf]<;>omega
  have HX:Hid (gl (ae rs) rel (xs.take (k+1))=gl (ae rs) rel (xs.take k)++[xs[k].t]):=by
   refine Pg _ _ _ _ hlt ?_;show ¬_=_;unfold ak;rw[<-hx3];intro h2;apply hz;rw[<-ay,h2];rfl
  have hzz:(0:Int)<(XR.length:Int):=by omega
  clear hx3;go_wp2_with(at_builtin;refine wpList_append_own _ rfl _ _ 143 rfl w.heap.size 9 i0 (.string ⟨#[]⟩) 1 16 underlying143 hi hz0 hz1 hz2 rfl (by decide) _ _ _ rfl (HOW.out.alloc _) ⟨w1.heap.size,0,none⟩ 1 1 [.string xs[k].t] rfl rfl (cell_one_new _ _ _) (by intro u hu;simp at hu;subst hu;rfl) (by unfold maxLen;omega) (by omega) (by simp;omega) ?_);intro v' w3 hown3 hgrow _;have hb3:ag w w3:=(HBH.out.alloc HBH.out.size _).grown hgrow (by simp;omega) (fun i hi=>(HOW.out.lt i hi).1);have Xv:Hid (w3.ownsRow w.heap.size 9 1 v' (gl (ae rs) rel (xs.take (k+1))).length (qO (gl (ae rs) rel (xs.take (k+1))))):=by
   show World.ownsRow _ _ _ _ _ _ _;rw[HX.out];simpa[qO] using hown3
  clear hown3 hgrow HOW;go_wp2;go_roundw;case rel=>exact⟨k+1,by omega,by go_num,Xv.out,hb3⟩
  simp[intOf]<;>omega
 obtain rfl:k=xs.length:=by omega
 have HE:Hid (xs.take xs.length=xs):=by show _=_;rw[VI]
 rw[HE.out,<-HG.out]at hown;obtain⟨Xe,cp,rfl,hsl,hnew⟩:=Ph hown;have XM:Hid (∀p,Xe=some p->w.heap.size<=p.block):=hnew;have Y4:Hid (Rn _ Xe (d9 (ae rs) typ over rel)):=hsl;have HBH:Hid (ag w _):=hB;clear hsl hB hown hnew;go_wp2;go_ret;exact⟨⟨Xe,cp,rfl,Y4.out,XM.out⟩,HBH.out⟩
def qz(ts:Q0b)(a:Al):Bool:=lN ts a.t&&(a.s.toList.isEmpty || !(ak ts a.t a.s).isEmpty)
def pz(ts:Q0b)(xs:Q0a):Bool:=xs.all (qz ts)
def kZ(ts:Q0b)(typ:ByteArray)(e:Ex):Bool :=
 if e.kind=2 then !(ak ts typ e.name).isEmpty
 else if e.kind=3 then bn (ak ts typ e.over) && !(d9 ts typ e.over e.name).isEmpty
 else true
def aQ(ts:Q0b)(typ:ByteArray):List Ex->Bool
 | []=>true
 | e::es=>if pz ts e.allow&&kZ ts typ e then aQ ts typ es else false
def oF(ts:Q0b)(xs:Q0a)(k:Nat):Bool:=pz ts (xs.take k)
theorem zT(ts:Q0b)(xs:Q0a):oF ts xs 0=true:=by simp[oF,pz]
theorem pE(ts:Q0b)(xs:Q0a)(k:Nat)(h:k<xs.length):oF ts xs (k+1)=(oF ts xs k&&qz ts xs[k]):=by
 unfold oF pz;rw[Vx h,WH];simp
theorem vk(ts:Q0b)(xs:Q0a)(k:Nat)(h:k<xs.length)(hb:qz ts xs[k]=false):pz ts xs=false:=by
 unfold pz;rw[Bool.eq_false_iff];intro h2;rw[VF]at h2;have:=h2 xs[k] (Vs h);rw[hb]at this;cases this
theorem aC{w w':af}{g o:Nat}{v:Value}(hB:ag w w')(hg:g<w.heap.size)(h:w.cell? ⟨g,o,none⟩=some v):w'.cell? ⟨g,o,none⟩=some v:=(hB.cell (p:=⟨g,o,none⟩) hg).trans h
set_option maxRecDepth 8000 in
theorem Jp(ad WW:Q02)(cap capE:Nat)(rs:Q06)(typ:bi)(rows:Q08)(w:af)(hlen:rs.length<=1048576)(hs:jK w ad rs)(hl:∀r∈rs,r.light)(hle:rows.length<=1048576)(hse:jo w WW rows)(hlE:∀q∈rows,q.e.light):
  Calls prog 175 #[.slice ad rs.length cap,.string typ,.slice WW rows.length capE] w fun e w'=>e=.returned (.bool (aQ (ae rs) typ (ai rows)))/\ag w w':=by
 have HS:=az hs;have HL:=az hl;have HE:=az hse;have Yf:=az hlE;clear hs hl hse hlE;go_enter func175,ntmps175;go_wp2_with fail;go_loopw[7] (fun i wr=>∃k:Nat,k<=rows.length/\i=.int .i64 k/\Hid (aQ (ae rs) typ (ai (rows.drop k))=aQ (ae rs) typ (ai rows))/\Hid (ag w wr)) (fun i _=>rows.length-(intOf i).toNat);case atStart=>exact⟨0,Vy _,rfl,rfl,Vv _ _⟩
 obtain⟨k,hk,rfl,HP,HB⟩:=hrel;by_cases hlt:k<rows.length
 ·have HS1:Hid (jK _ ad rs):=HS.out.below HB.out;rcases HE.out.below HB.out with rfl|⟨b,off,rfl,hb,hr,hok⟩
  ·simp at hlt
  obtain⟨t0,t1,t2,t3,t4⟩:=hr k hlt;have Xc:Hid (rows[k].ok wr):=hok rows[k] (Vs hlt);have lg:=(Yf.out rows[k] (Vs hlt)).1;have hk1:=bI k;have hk2:(k:Int)<(rows.length:Int):=by omega
  clear hr hok;obtain⟨W1,hW1⟩:=eQx (wr.alloc (.cells #[.int .i64 rows[k].e.kind,.slice rows[k].adA rows[k].e.allow.length rows[k].capA,.string rows[k].e.over,.string rows[k].e.name,.slice rows[k].adK rows[k].e.kids.length rows[k].capK] 43));have hal:ag wr W1:=by rw[hW1];exact(Vv _ _).alloc (Vu _) _
  have Xd:=az hal;have WS:=iX HB hal;have hgl:wr.heap.size<W1.heap.size:=by rw[hW1];simp
  have g0:W1.cell? ⟨wr.heap.size,0,none⟩=some (.int .i64 rows[k].e.kind):=by rw[hW1];simp
  have g1:W1.cell? ⟨wr.heap.size,1,none⟩=some (.slice rows[k].adA rows[k].e.allow.length rows[k].capA):=by rw[hW1];simp
  have g2:W1.cell? ⟨wr.heap.size,2,none⟩=some (.string rows[k].e.over):=by rw[hW1];simp
  have g3:W1.cell? ⟨wr.heap.size,3,none⟩=some (.string rows[k].e.name):=by rw[hW1];simp
  clear hal;go_wp2_with fail;rw[<-hW1];clear hW1;go_loopw[9] (fun i w2=>∃j:Nat,j<=rows[k].e.allow.length/\i=.int .i64 j/\Hid (oF (ae rs) rows[k].e.allow j=true)/\Hid (ag W1 w2)) (fun i _=>rows[k].e.allow.length-(intOf i).toNat);case atStart=>exact⟨0,Vy _,rfl,zT _ _,Vv _ _⟩
  obtain⟨j,hj,rfl,HJ,HB2⟩:=hrel;have d0:=aC HB2.out hgl g0;have d1:=aC HB2.out hgl g1;have d2:=aC HB2.out hgl g2;have d3:=aC HB2.out hgl g3;clear g0 g1 g2 g3 t0 t1 t2 t3 t4;have XI:Hid (ag w _):=WS.out.trans (HB2.out.mono WS.out.size);have HS2:Hid (jK _ ad rs):=HS.out.below XI.out;by_cases hjl:j<rows[k].e.allow.length
  ·have hA2:kD _ rows[k].adA rows[k].e.allow:=((Xc.out.1).below Xd.out).below HB2.out;rcases hA2 with hnil|⟨ba,YI,YJ,hba,hra⟩
   ·rw[hnil]at hjl;simp at hjl
   rw[YJ]at d1;obtain⟨q0,q1⟩:=hra j hjl;have hj1:=bI j;have hj2:(j:Int)<(rows[k].e.allow.length:Int):=by omega
   clear hra YJ;go_wp2_with fail;refine(Jn ad cap rs _ _ hlen (HS2.out.below ((Vv _ _).alloc (Vu _) _))).mono ?_;rintro e w3 ⟨rfl,rfl⟩;cases hty:lN (ae rs) rows[k].e.allow[j].t;case false=>
    have HN:Hid (aQ (ae rs) typ (ai rows)=false):=by
     show _=_;rw[<-HP.out,gW _ _ hlt];simp[aQ,vk (ae rs) _ j hjl (by simp[qz,hty])]
    go_wp2;go_ret;exact⟨by rw[HN.out];rfl,XI.out.alloc XI.out.size _⟩
   cases he:rows[k].e.allow[j].s.toList.isEmpty;case true=>
    have HJ2:Hid (oF (ae rs) rows[k].e.allow (j+1)=true):=by show _=_;rw[pE _ _ _ hjl,HJ.out];simp[qz,hty,he]
    go_wp2;go_roundw;case rel=>exact⟨j+1,by omega,by go_num,HJ2,HB2.out.alloc HB2.out.size _⟩
    simp[intOf]<;>omega
   go_wp2_with fail;refine(jy ad cap rs _ _ _ hlen (HS2.out.below ((Vv _ _).alloc (Vu _) _)) HL.out).mono ?_;rintro e w3 ⟨⟨XR,ad3,cap3,rfl,hx3,-,-⟩,rfl⟩;by_cases hz:XR.length=0
   ·have HN:Hid (aQ (ae rs) typ (ai rows)=false):=by
     have h1:ak (ae rs) rows[k].e.allow[j].t rows[k].e.allow[j].s=[]:=by unfold ak;rw[<-hx3,VM.1 hz];rfl
     show _=_;rw[<-HP.out,gW _ _ hlt];simp[aQ,vk (ae rs) _ j hjl (by simp[qz,he,h1])]
    rw[hz];clear hx3;go_wp2;go_ret;exact⟨by rw[HN.out];rfl,XI.out.alloc XI.out.size _⟩
   have HJ2:Hid (oF (ae rs) rows[k].e.allow (j+1)=true):=by
    have h1:ak (ae rs) rows[k].e.allow[j].t rows[k].e.allow[j].s≠[]:=by
     unfold ak;rw[<-hx3];intro h2;apply hz;rw[<-ay,h2];rfl
    show _=_;rw[pE _ _ _ hjl,HJ.out];simp[qz,hty,h1]
   have hzb:((XR.length:Int)==0)=false:=by simp;intro h;apply hz;rw[h];rfl
   clear hx3;go_wp2;go_roundw;case rel=>exact⟨j+1,by omega,by go_num,HJ2,HB2.out.alloc HB2.out.size _⟩
   simp[intOf]<;>omega
  have ZF:Hid (pz (ae rs) rows[k].e.allow=true):=by
   have:=HJ.out;unfold oF at this;rwa [VZ (by omega)]at this
  by_cases h2:rows[k].e.kind=2
  ·go_wp2_with fail;refine(jy ad cap rs _ _ _ hlen HS2.out HL.out).mono ?_;rintro e w3 ⟨⟨XR,ad3,cap3,rfl,hx3,-,-⟩,rfl⟩;by_cases hz:XR.length=0
   ·have HN:Hid (aQ (ae rs) typ (ai rows)=false):=by
     have h1:ak (ae rs) typ rows[k].e.name=[]:=by unfold ak;rw[<-hx3,VM.1 hz];rfl
     show _=_;rw[<-HP.out,gW _ _ hlt];simp[aQ,kZ,h2,h1]
    rw[hz];clear hx3;go_wp2;go_ret;exact⟨by rw[HN.out];rfl,XI.out⟩
   have WQ:Hid (aQ (ae rs) typ (ai (rows.drop (k+1)))=aQ (ae rs) typ (ai rows)):=by
    have h1:ak (ae rs) typ rows[k].e.name≠[]:=by
     unfold ak;rw[<-hx3];intro h2;apply hz;rw[<-ay,h2];rfl
    show _=_;rw[<-HP.out,gW _ _ hlt];simp[aQ,kZ,h2,h1,ZF.out]
   have hzb:((XR.length:Int)==0)=false:=by simp;intro h;apply hz;rw[h];rfl
   clear hx3;go_wp2;go_roundw;case rel=>exact⟨k+1,by omega,by go_num,WQ,XI⟩
   simp[intOf]<;>omega
  by_cases h3:rows[k].e.kind=3
  ·go_wp2_with fail;refine(jy ad cap rs _ _ _ hlen HS2.out HL.out).mono ?_;rintro e w3 ⟨⟨XR,ad3,cap3,rfl,hx3,hs3,hf3⟩,rfl⟩;have hl3:=hf3.light HL.out;go_wp2_with fail;refine(ED ad3 cap3 XR _ hl3.1 hs3 hl3.2).mono ?_;rintro e w3 ⟨rfl,rfl⟩;have HX:Hid (ai XR=ak (ae rs) typ rows[k].e.over):=hx3;clear hx3 hs3 hf3 hl3;rw[HX.out];cases hd:bn (ak (ae rs) typ rows[k].e.over);case false=>
    have HN:Hid (aQ (ae rs) typ (ai rows)=false):=by
     show _=_;rw[<-HP.out,gW _ _ hlt];simp[aQ,kZ,h3,hd]
    go_wp2;go_ret;exact⟨by rw[HN.out];rfl,XI.out⟩
   go_wp2_with fail;refine(nI ad cap rs _ _ _ _ hlen HS2.out HL.out).mono ?_;rintro e w4 ⟨⟨YY,cap4,rfl,-⟩,hb4⟩;have XJ:=iX XI hb4;clear hb4;by_cases hz:(d9 (ae rs) typ rows[k].e.over rows[k].e.name).length=0
   ·have HN:Hid (aQ (ae rs) typ (ai rows)=false):=by
     show _=_;rw[<-HP.out,gW _ _ hlt];simp[aQ,kZ,h3,VM.1 hz]
    rw[hz];go_wp2;go_ret;exact⟨by rw[HN.out];rfl,XJ.out⟩
   have WQ:Hid (aQ (ae rs) typ (ai (rows.drop (k+1)))=aQ (ae rs) typ (ai rows)):=by
    have h1:d9 (ae rs) typ rows[k].e.over rows[k].e.name≠[]:=by intro h;apply hz;rw[h];rfl
    show _=_;rw[<-HP.out,gW _ _ hlt];simp[aQ,kZ,h3,h1,hd,ZF.out]
   have hzb:(((d9 (ae rs) typ rows[k].e.over rows[k].e.name).length:Int)==0)=false:=by simp;intro h;apply hz;rw[h];rfl
   go_wp2;go_roundw;case rel=>exact⟨k+1,by omega,by go_num,WQ,XJ⟩
   simp[intOf]<;>omega
  have WQ:Hid (aQ (ae rs) typ (ai (rows.drop (k+1)))=aQ (ae rs) typ (ai rows)):=by
   show _=_;rw[<-HP.out,gW _ _ hlt];simp[aQ,kZ,h2,h3,ZF.out]
  have hb2:(rows[k].e.kind==2)=false:=by simpa using h2
  have hb3:(rows[k].e.kind==3)=false:=by simpa using h3
  go_wp2;go_roundw;case rel=>exact⟨k+1,by omega,by go_num,WQ,XI⟩
  simp[intOf]<;>omega
 have HN:Hid (aQ (ae rs) typ (ai rows)=true):=by show _=_;rw[<-HP.out,VU (by omega)];rfl
 go_wp2;go_ret;exact⟨by rw[HN.out];rfl,HB.out⟩
end Go.Proofs.YtojjoblnpldniaaGreat
