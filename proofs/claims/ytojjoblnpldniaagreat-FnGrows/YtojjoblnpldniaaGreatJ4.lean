/- Contracts of the law's helpers that copy an expression into the program's types: new rows that hold the same. -/
import Derived.Test.YtojjoblnpldniaaGreatSq
import Derived.Test.YtojjoblnpldniaaGreatJ3
import Derived.Laws.IdiomStrings
import Derived.Deep.RegionHeld3
import Derived.Deep.QuietTactic
import Derived.BigQuiet
import Derived.WalkSmall
import Derived.WalkSpells
import Derived.OwnWalk
import Derived.Maps.AppendAt
open Go.Proofs.Tryz
set_option maxHeartbeats 80000000
namespace Go.Proofs.YtojjoblnpldniaaGreat
open ChangeShapes WideShapes ChangeAt RowKit
open Pl
structure Fil(w wr:World)(g n:Nat)(xs:Q03):Prop where
 below:ag w wr
 ge:w.heap.size<=g
 lt:g<wr.heap.size
 done:∀(j:Nat) (h:j<xs.length),wr.cell? ⟨g,j,none⟩=some xs[j]
 there:∀j,j<n->(wr.cell? ⟨g,j,none⟩).isSome=true
 free:∀j,wr.frozen? ⟨g,j,none⟩=false
theorem qz{w:ae}{g i j:Nat}{v:Value}(h:i≠j):(w.setCell ⟨g,i,none⟩ v).cell? ⟨g,j,none⟩=w.cell? ⟨g,j,none⟩:=by
 apply World.cell?_setCell_other;intro e;exact h (congrArg Addr.off e)
theorem zw{w:ae}{a:Addr}{v u:Value}(h:w.cell? a=some u):(w.setCell a v).cell? a=some v:=by
 apply World.cell?_setCell_same;exact h
theorem xM{w:ae}{g h i j:Nat}{v:Value}(hn:g≠h):(w.setCell ⟨g,i,none⟩ v).cell? ⟨h,j,none⟩=w.cell? ⟨h,j,none⟩:=by
 apply World.cell?_setCell_other;intro e;exact hn (congrArg Addr.block e)
theorem Fil.later{w wr w1:ae}{g n:Nat}{xs:Q03}(h:Fil w wr g n xs)(hb:ag wr w1):Fil w w1 g n xs where
 below:=h.below.trans (hb.mono h.below.size)
 ge:=h.ge
 lt:=Vq h.lt hb.size
 done j hj:=by rw[hb.cell (p:=⟨g,j,none⟩) h.lt];exact h.done j hj
 there j hj:=by rw[hb.cell (p:=⟨g,j,none⟩) h.lt];exact h.there j hj
 free j:=by rw[hb.frozen (p:=⟨g,j,none⟩) h.lt];exact h.free j
theorem Fil.put{w wr:ae}{g n o:Nat}{xs:Q03}(h:Fil w wr g n xs)(v:Value)(ho:o=xs.length)(hn:o<n):Fil w (wr.setCell ⟨g,o,none⟩ v) g n (xs++[v]) where
 below:=h.below.setCell (p:=⟨g,o,none⟩) h.ge v
 ge:=h.ge
 lt:=by simpa using h.lt
 done j hj:=by
  by_cases e:j=o
  ·subst e;obtain⟨u,hu⟩:=Option.isSome_iff_exists.mp (h.there j hn);rw[zw hu];simp[ho]
  have hj':j<xs.length:=by simp at hj;omega
  rw[qz (Ne.symm e),h.done j hj',VO hj']
 there j hj:=by
  by_cases e:j=o
  ·subst e;obtain⟨u,hu⟩:=Option.isSome_iff_exists.mp (h.there j hn);rw[zw hu];rfl
  rw[qz (Ne.symm e)];exact h.there j hj
 free j:=by simpa using h.free j
def ints(zs:List Int):List Value:=zs.map (Value.int .i64)
theorem Fil.ints{w w':ae}{g:Nat}{zs:List Int}(h:Fil w w' g zs.length (ints zs)):wL w' (some ⟨g,0,none⟩) zs :=
 .inr ⟨g,0,rfl,h.lt,fun i hi=>by rw[VQ,h.done i (by simpa[YtojjoblnpldniaaGreat.ints] using hi)];simp[YtojjoblnpldniaaGreat.ints]⟩
def pairs(xs:Q0a):List Value:=xs.flatMap fun a=>[.string a.t,.string a.s]
theorem rJ:∀xs:List Al,(pairs xs).length=xs.length*2
 | []=>rfl
 | a::xs=>by have:=rJ xs;simp only[pairs,VX,Vx,VS,Wv]at this ⊢;omega
theorem uP:∀(xs:Q0a) (i:Nat) (h:i<xs.length),(pairs xs)[i*2]?=some (.string xs[i].t)/\(pairs xs)[i*2+1]?=some (.string xs[i].s)
 | [],i,h=>by simp at h
 | a::xs,0,_=>by simp[pairs]
 | a::xs,i+1,h=>by
  have:=uP xs i (by simpa using h);simp only[pairs,VX,V9,Ww,List.getElem_cons_succ]at this ⊢;rw[show(i+1)*2=i*2+1+1 by omega,show i*2+1+1+1=(i*2+1)+1+1 by omega];simpa using this
theorem Fil.pairs{w w':ae}{g:Nat}{xs:Q0a}(h:Fil w w' g (xs.length*2) (pairs xs)):lu w' (some ⟨g,0,none⟩) xs:=by
 refine .inr ⟨g,0,rfl,h.lt,fun i hi=>?_⟩;obtain⟨h1,h2⟩:=uP xs i hi;have hl:=rJ xs;refine⟨?_,?_⟩
 ·rw[VQ,h.done (i*2) (by omega),<-h1,Vy (by omega)]
 rw[VQ,h.done (i*2+1) (by omega),<-h2,Vy (by omega)]
theorem lu.set{w:ae}{ad:Q02}{xs:Q0a}{g o:Nat}{v:Value}(h:lu w ad xs)(hn:∀b off,ad=some ⟨b,off,none⟩->g≠b):lu (w.setCell ⟨g,o,none⟩ v) ad xs:=by
 rcases h with h|⟨b,off,e,hb,hr⟩
 ·exact .inl h
 exact .inr ⟨b,off,e,by simpa using hb,fun i hi=>(hr i hi).same fun o=>xM (hn b off e)⟩
theorem wL.set{w:ae}{ad:Q02}{zs:List Int}{g o:Nat}{v:Value}(h:wL w ad zs)(hn:∀b off,ad=some ⟨b,off,none⟩->g≠b):wL (w.setCell ⟨g,o,none⟩ v) ad zs:=by
 rcases h with h|⟨b,off,e,hb,hr⟩
 ·exact .inl h
 exact .inr ⟨b,off,e,by simpa using hb,fun i hi=>by rw[xM (hn b off e)];exact hr i hi⟩
theorem kept{W w1:ae}{n o:Nat}{v:Value}(hb:ag W w1)(hn:n<W.heap.size)(h:W.cell? ⟨n,o,none⟩=some v):w1.cell? ⟨n,o,none⟩=some v:=by
 rw[hb.cell (p:=⟨n,o,none⟩) hn];exact h
theorem UQ{W w1:ae}{n o:Nat}(hb:ag W w1)(hn:n<W.heap.size)(h:W.frozen? ⟨n,o,none⟩=false):w1.frozen? ⟨n,o,none⟩=false:=by
 rw[hb.frozen (p:=⟨n,o,none⟩) hn];exact h
theorem O3(w:ae)(x:Obj)(C:Array Value)(t:TypeId)(k:Nat){v:Value}(h:C[k]?=some v):((w.alloc x).alloc (.cells C t)).cell? ⟨w.heap.size+1,k,none⟩=some v:=by
 have:=World.cell?_alloc_mark (w.alloc x) C t (0,0) k;rw[World.size_alloc,h]at this;exact this
theorem TQ(w:ae)(x y:Obj)(C:Array Value)(t:TypeId)(k:Nat){v:Value}(h:C[k]?=some v):(((w.alloc x).alloc y).alloc (.cells C t)).cell? ⟨w.heap.size+1+1,k,none⟩=some v:=by
 have:=O3 (w.alloc x) y C t k h;rw[World.size_alloc]at this;exact this
def ER.row(r:ER):List Value:=[.int .i64 r.e.kind,.slice r.adA r.e.allow.length r.capA,.string r.e.over,.string r.e.name,.slice r.adK r.e.kids.length r.capK]
def jQ(rs:Q08):List Value:=rs.flatMap ER.row
theorem wS:∀rs:List ER,(jQ rs).length=rs.length*5
 | []=>rfl
 | r::rs=>by have:=wS rs;simp only[jQ,ER.row,VX,Vx,VS,Wv]at this ⊢;omega
theorem zx:∀(rs:Q08) (i:Nat) (h:i<rs.length) (j:Nat),j<5->(jQ rs)[i*5+j]?=(rs[i]).row[j]?
 | [],i,h,_,_=>by simp at h
 | r::rs,0,_,j,hj=>by
  simp only[jQ,VX,Nat.zero_mul,VQ,List.getElem_cons_zero];rw[Wt (by simpa[ER.row] using hj)]
 | r::rs,i+1,h,j,hj=>by
  have:=zx rs i (by simpa using h) j hj;simp only[jQ,VX,List.getElem_cons_succ]at this ⊢;rw[Wq (by simp[ER.row];omega),<-this];congr 1;simp[ER.row];omega
theorem Fil.rows{w w':ae}{g:Nat}{rs:Q08}(h:Fil w w' g (rs.length*5) (jQ rs))(hok:∀r∈rs,r.ok w'):jw w' (some ⟨g,0,none⟩) rs:=by
 refine .inr ⟨g,0,rfl,h.lt,fun i hi=>?_,hok⟩;have hl:=wS rs;have key:∀j,j<5->w'.cell? ⟨g,0+i*5+j,none⟩=(rs[i]).row[j]?:=fun j hj=>by
  rw[VQ,h.done (i*5+j) (by omega),<-zx rs i hi j hj,Vy (by omega)]
 exact⟨key 0 (by omega),key 1 (by omega),key 2 (by omega),key 3 (by omega),key 4 (by omega)⟩
def ER.new(B:Nat)(r:ER):Prop:=∃gA gK:Nat,r.adA=some ⟨gA,0,none⟩/\r.adK=some ⟨gK,0,none⟩/\B<gA/\B<gK/\r.capA=r.e.allow.length
theorem ER.ok.set{w:ae}{r:ER}{g o:Nat}{v:Value}(h:r.ok w)(hn:r.new g):r.ok (w.setCell ⟨g,o,none⟩ v):=by
 obtain⟨gA,gK,e1,e2,h1,h2,-⟩:=hn;refine⟨h.1.set fun b off e=>?_,h.2.set fun b off e=>?_⟩
 ·rw[e1]at e;injection e with e;injection e with e3 e4;omega
 rw[e2]at e;injection e with e;injection e with e3 e4;omega
theorem ER.new.mono{B B':Nat}{r:ER}(h:r.new B)(hB:B'<=B):r.new B':=by
 obtain⟨gA,gK,e1,e2,h1,h2,h3⟩:=h;exact⟨gA,gK,e1,e2,by omega,by omega,h3⟩
structure Rl where
 name:ByteArray
 expr:List Ex
structure RR where
 name:ByteArray
 rows:List ER
 ad:Option Addr
 cap:Nat
abbrev Q07:=List RR
def RR.p(r:RR):Rl:=⟨r.name,aj r.rows⟩
def RR.val(r:RR):Value:=.agg #[.string r.name,.slice r.ad r.rows.length r.cap]
def RR.ok(w:World)(r:RR):Prop:=jw w r.ad r.rows
def RR.fits(r:RR):Prop:=r.name.size<=maxLen/\r.rows.length<=maxLen/\∀q∈r.rows,q.e.fits
def RR.light(r:RR):Prop:=r.rows.length<=1048576/\∀q∈r.rows,q.e.light
def RR.caps(r:RR):Prop:=r.rows.length<=r.cap/\∀q∈r.rows,q.e.allow.length<=q.capA
def RR.new(B:Nat)(r:RR):Prop:=(∃g:Nat,r.ad=some ⟨g,0,none⟩/\B<g)/\∀q∈r.rows,q.new B
theorem RR.ok.below{w w':ae}{r:RR}(h:r.ok w)(hB:ag w w'):r.ok w':=jw.below h hB
def AtR(w:World)(b off:Nat)(r:RR):Prop:=w.cell? ⟨b,off,none⟩=some (.string r.name)/\w.cell? ⟨b,off+1,none⟩=some (.slice r.ad r.rows.length r.cap)
theorem AtR.same{w w':ae}{b off:Nat}{r:RR}(h:AtR w b off r)(hc:∀o,w'.cell? ⟨b,o,none⟩=w.cell? ⟨b,o,none⟩):AtR w' b off r:=⟨(hc _).trans h.1,(hc _).trans h.2⟩
theorem AtR.later{w w':ae}{b off:Nat}{r:RR}(h:AtR w b off r)(hb:b<w.heap.size)(hB:ag w w'):AtR w' b off r:=h.same fun o=>hB.cell (p:=⟨b,o,none⟩) hb
def O4(w:World)(ad:Q02)(rs:Q07):Prop:=rs=[] \/ ∃b off,ad=some ⟨b,off,none⟩/\b<w.heap.size/\(∀(i:Nat) (h:i<rs.length),AtR w b (off+i*2) rs[i])/\∀r∈rs,r.ok w
theorem O4.below{w w':ae}{ad:Q02}{rs:Q07}(h:O4 w ad rs)(hB:ag w w'):O4 w' ad rs:=by
 rcases h with h|⟨b,off,e,hb,hr,hk⟩
 ·exact .inl h
 exact .inr ⟨b,off,e,Vq hb hB.size,fun i hi=>(hr i hi).same fun o=>hB.cell (p:=⟨b,o,none⟩) hb,fun r hr=>(hk r hr).below hB⟩
def eQ(rs:Q07):List Rl:=rs.map RR.p
theorem rM(rs:Q07):(eQ rs).length=rs.length:=by simp[eQ]
theorem RR.ok.set{w:ae}{r:RR}{g o:Nat}{v:Value}(h:r.ok w)(hn:r.new g):r.ok (w.setCell ⟨g,o,none⟩ v):=by
 obtain⟨⟨gE,e1,h1⟩,h2⟩:=hn;rcases h with h|⟨b,off,e,hb,hr,hk⟩
 ·exact .inl h
 refine .inr ⟨b,off,e,by simpa using hb,fun i hi=>(hr i hi).same fun o=>xM ?_,fun q hq=>(hk q hq).set (h2 q hq)⟩;rw[e1]at e;injection e with e;injection e with e3 e4;omega
theorem RR.new.mono{B B':Nat}{r:RR}(h:r.new B)(hB:B'<=B):r.new B':=by
 obtain⟨⟨g,e,hg⟩,h2⟩:=h;exact⟨⟨g,e,by omega⟩,fun q hq=>(h2 q hq).mono hB⟩
structure Ty where
 name:ByteArray
 rels:List Rl
abbrev Q0b:=List Ty
structure TR where
 name:ByteArray
 rows:List RR
 ad:Option Addr
 cap:Nat
abbrev Q06:=List TR
def TR.p(r:TR):Ty:=⟨r.name,eQ r.rows⟩
def TR.val(r:TR):Value:=.agg #[.string r.name,.slice r.ad r.rows.length r.cap]
def TR.ok(w:World)(r:TR):Prop:=O4 w r.ad r.rows
def TR.fits(r:TR):Prop:=r.name.size<=maxLen/\r.rows.length<=maxLen/\∀q∈r.rows,q.fits
def TR.light(r:TR):Prop:=r.rows.length<=1048576/\∀q∈r.rows,q.light
def TR.caps(r:TR):Prop:=r.rows.length<=r.cap/\∀q∈r.rows,q.caps
def TR.new(B:Nat)(r:TR):Prop:=(∃g:Nat,r.ad=some ⟨g,0,none⟩/\B<g)/\∀q∈r.rows,q.new B
theorem TR.ok.below{w w':ae}{r:TR}(h:r.ok w)(hB:ag w w'):r.ok w':=O4.below h hB
def TS(w:World)(b off:Nat)(r:TR):Prop:=w.cell? ⟨b,off,none⟩=some (.string r.name)/\w.cell? ⟨b,off+1,none⟩=some (.slice r.ad r.rows.length r.cap)
theorem TS.same{w w':ae}{b off:Nat}{r:TR}(h:TS w b off r)(hc:∀o,w'.cell? ⟨b,o,none⟩=w.cell? ⟨b,o,none⟩):TS w' b off r:=⟨(hc _).trans h.1,(hc _).trans h.2⟩
theorem TS.later{w w':ae}{b off:Nat}{r:TR}(h:TS w b off r)(hb:b<w.heap.size)(hB:ag w w'):TS w' b off r:=h.same fun o=>hB.cell (p:=⟨b,o,none⟩) hb
def mP(w:World)(ad:Q02)(rs:Q06):Prop:=rs=[] \/ ∃b off,ad=some ⟨b,off,none⟩/\b<w.heap.size/\(∀(i:Nat) (h:i<rs.length),TS w b (off+i*2) rs[i])/\∀r∈rs,r.ok w
theorem mP.below{w w':ae}{ad:Q02}{rs:Q06}(h:mP w ad rs)(hB:ag w w'):mP w' ad rs:=by
 rcases h with h|⟨b,off,e,hb,hr,hk⟩
 ·exact .inl h
 exact .inr ⟨b,off,e,Vq hb hB.size,fun i hi=>(hr i hi).same fun o=>hB.cell (p:=⟨b,o,none⟩) hb,fun r hr=>(hk r hr).below hB⟩
def af(rs:Q06):List Ty:=rs.map TR.p
theorem lw(rs:Q06):(af rs).length=rs.length:=by simp[af]
theorem TR.ok.set{w:ae}{r:TR}{g o:Nat}{v:Value}(h:r.ok w)(hn:r.new g):r.ok (w.setCell ⟨g,o,none⟩ v):=by
 obtain⟨⟨gE,e1,h1⟩,h2⟩:=hn;rcases h with h|⟨b,off,e,hb,hr,hk⟩
 ·exact .inl h
 refine .inr ⟨b,off,e,by simpa using hb,fun i hi=>(hr i hi).same fun o=>xM ?_,fun q hq=>(hk q hq).set (h2 q hq)⟩;rw[e1]at e;injection e with e;injection e with e3 e4;omega
theorem TR.new.mono{B B':Nat}{r:TR}(h:r.new B)(hB:B'<=B):r.new B':=by
 obtain⟨⟨g,e,hg⟩,h2⟩:=h;exact⟨⟨g,e,by omega⟩,fun q hq=>(h2 q hq).mono hB⟩
def jR:List Rl->ByteArray->Option (List Ex)
 | [],_=>none
 | r::rs,n=>if r.name.toList==n.toList then some r.expr else jR rs n
def fF:List Ty->ByteArray->ByteArray->Option (List Ex)
 | [],_,_=>none
 | t::ts,ty,n=>if t.name.toList==ty.toList then (jR t.rels n).or (fF ts ty n) else fF ts ty n
def lF:List Ty->ByteArray->Bool
 | [],_=>false
 | t::ts,ty=>(t.name.toList==ty.toList) || lF ts ty
theorem nP(rs:Q06)(k:Nat)(h:k<rs.length):af (rs.drop k)=⟨rs[k].name,eQ rs[k].rows⟩::af (rs.drop (k+1)):=by
 rw[VZ h];rfl
theorem Gd(rs:Q07)(k:Nat)(h:k<rs.length):eQ (rs.drop k)=⟨rs[k].name,aj rs[k].rows⟩::eQ (rs.drop (k+1)):=by
 rw[VZ h];rfl
theorem I9(ad:Q02)(cap:Nat)(rs:Q06)(typ:bQ)(w:ae)(hlen:rs.length<=1048576)(hs:mP w ad rs):
  Calls prog 247 #[.slice ad rs.length cap,.string typ] w fun e w'=>e=.returned (.bool (lF (af rs) typ))/\w'=w:=by
 go_enter func247,ntmps247;go_wp2;go_loopw[5] (fun i wr=>∃k:Nat,k<=rs.length/\i=.int .i64 k/\Hid (lF (af (rs.drop k)) typ=lF (af rs) typ)/\wr=w) (fun i _=>rs.length-(intOf i).toNat);case atStart=>exact⟨0,Vv _,rfl,rfl,rfl⟩
 obtain⟨k,hk,rfl,HP,rfl⟩:=hrel;by_cases hlt:k<rs.length
 ·rcases hs with rfl|⟨b,off,rfl,hb,hr,hok⟩
  ·simp at hlt
  obtain⟨t0,t1⟩:=hr k hlt;have hk1:=bC k;have hk2:(k:Int)<(rs.length:Int):=by omega
  clear hr hok;cases hq:(rs[k].name.toList==typ.toList);case true=>
   have HN:Hid (lF (af rs) typ=true):=by show _=_;rw[<-HP.out,nP _ _ hlt];simp[lF,hq]
   go_wp2;go_ret;exact⟨by rw[HN.out];rfl,rfl⟩
  have WQ:Hid (lF (af (rs.drop (k+1))) typ=lF (af rs) typ):=by show _=_;rw[<-HP.out,nP _ _ hlt];simp[lF,hq]
  go_wp2;go_roundw;case rel=>exact⟨k+1,by omega,by go_num,WQ,by first|rfl|trivial⟩
  simp[intOf]<;>omega
 have HN:Hid (lF (af rs) typ=false):=by show _=_;rw[<-HP.out,VN (by omega)];rfl
 go_wp2;go_ret;exact⟨by rw[HN.out];rfl,rfl⟩
def pV(rs:Q06)(ad:Q02)(rows:Q08):Prop:=rows=[] \/ ∃t∈rs,∃q∈t.rows,rows=q.rows/\ad=q.ad
theorem O4.mem{w:ae}{ad:Q02}{rs:Q07}(h:O4 w ad rs){q:RR}(hq:q∈rs):q.ok w:=by
 rcases h with rfl|⟨b,off,e,hb,hr,hk⟩
 ·cases hq
 exact hk q hq
theorem mP.mem{w:ae}{ad:Q02}{rs:Q06}(h:mP w ad rs){q:TR}(hq:q∈rs):q.ok w:=by
 rcases h with rfl|⟨b,off,e,hb,hr,hk⟩
 ·cases hq
 exact hk q hq
theorem pV.sl{rs:Q06}{ad ad0:Q02}{rows:Q08}{w:ae}(h:pV rs ad rows)(hs:mP w ad0 rs):jw w ad rows:=by
 rcases h with rfl|⟨t,ht,q,hq,rfl,rfl⟩
 ·exact .inl rfl
 exact O4.mem (hs.mem ht) hq
theorem jf(ad:Q02)(cap:Nat)(rs:Q06)(typ rel:bQ)(w:ae)(hlen:rs.length<=1048576)(hs:mP w ad rs)(hl:∀r∈rs,r.light):
  Calls prog 101 #[.slice ad rs.length cap,.string typ,.string rel] w fun e w'=>(∃(rows:Q08) (WS:Q02) (cap':Nat),e=.returned (.slice WS rows.length cap')/\aj rows=(fF (af rs) typ rel).getD []/\jw w WS rows/\pV rs WS rows)/\w'=w:=by
 have HS:=aC hs;have HL:=aC hl;clear hs hl;go_enter func101,ntmps101;go_wp2;go_loopw[7] (fun i wr=>∃k:Nat,k<=rs.length/\i=.int .i64 k/\Hid (fF (af (rs.drop k)) typ rel=fF (af rs) typ rel)/\wr=w) (fun i _=>rs.length-(intOf i).toNat);case atStart=>exact⟨0,Vv _,rfl,rfl,rfl⟩
 obtain⟨k,hk,rfl,HP,rfl⟩:=hrel;by_cases hlt:k<rs.length
 ·rcases HS.out with rfl|⟨b,off,rfl,hb,hr,hok⟩
  ·simp at hlt
  obtain⟨t0,t1⟩:=hr k hlt;have ok:=hok rs[k] (Vp hlt);have lg:=(HL.out rs[k] (Vp hlt)).1;have XN:=aC ok;have hk1:=bC k;have hk2:(k:Int)<(rs.length:Int):=by omega
  clear hr hok ok;cases hq:(rs[k].name.toList==typ.toList);case false=>
   have WQ:Hid (fF (af (rs.drop (k+1))) typ rel=fF (af rs) typ rel):=by show _=_;rw[<-HP.out,nP _ _ hlt];simp[fF,hq]
   go_wp2_with fail;go_loopw[8] (fun i w2=>i=.int .i64 0/\w2=wr) (fun i _=>(intOf i).toNat);case atStart=>exact⟨rfl,rfl⟩
   obtain⟨rfl,rfl⟩:=hrel;go_wp2;go_roundw;case rel=>exact⟨k+1,by omega,by go_num,WQ,by first|rfl|trivial⟩
   simp[intOf]<;>omega
  go_wp2_with fail;go_loopw[8] (fun i w2=>∃j:Nat,j<=rs[k].rows.length/\i=.int .i64 j/\Hid (jR (eQ (rs[k].rows.drop j)) rel=jR (eQ rs[k].rows) rel)/\w2=wr) (fun i _=>rs[k].rows.length-(intOf i).toNat);case atStart=>exact⟨0,Vv _,rfl,rfl,rfl⟩
  obtain⟨j,hj,rfl,HI,rfl⟩:=hrel;by_cases hjl:j<rs[k].rows.length
  ·rcases XN.out with hnil|⟨b2,Xd,had,hb2,hr2,hok2⟩
   ·rw[hnil]at hjl;simp at hjl
   have t1':=t1;rw[had]at t1';obtain⟨q0,q1⟩:=hr2 j hjl;have HOQ:Hid (rs[k].rows[j].ok _):=hok2 rs[k].rows[j] (Vp hjl);have hj1:=bC j;have hj2:(j:Int)<(rs[k].rows.length:Int):=by omega
   clear hr2 hok2 had t1;cases hn:(rs[k].rows[j].name.toList==rel.toList);case true=>
    have HN:Hid (aj rs[k].rows[j].rows=(fF (af rs) typ rel).getD []):=by
     have h1:jR (eQ rs[k].rows) rel=some (aj rs[k].rows[j].rows):=by rw[<-HI.out,Gd _ _ hjl];simp[jR,hn]
     show _=_;rw[<-HP.out,nP _ _ hlt];simp[fF,hq,h1]
    have HFS:Hid (pV rs rs[k].rows[j].ad rs[k].rows[j].rows):=.inr ⟨rs[k],Vp hlt,rs[k].rows[j],Vp hjl,rfl,rfl⟩;go_wp2;go_ret;exact⟨⟨rs[k].rows[j].rows,_,_,rfl,HN.out,HOQ.out,HFS.out⟩,rfl⟩
   have HI2:Hid (jR (eQ (rs[k].rows.drop (j+1))) rel=jR (eQ rs[k].rows) rel):=by show _=_;rw[<-HI.out,Gd _ _ hjl];simp[jR,hn]
   go_wp2;go_roundw;case rel=>exact⟨j+1,by omega,by go_num,HI2,by first|rfl|trivial⟩
   simp[intOf]<;>omega
  have WQ:Hid (fF (af (rs.drop (k+1))) typ rel=fF (af rs) typ rel):=by
   have h1:jR (eQ rs[k].rows) rel=none:=by rw[<-HI.out,VN (by omega)];rfl
   show _=_;rw[<-HP.out,nP _ _ hlt];simp[fF,hq,h1]
  go_wp2;go_roundw;case rel=>exact⟨k+1,by omega,by go_num,WQ,by first|rfl|trivial⟩
  simp[intOf]<;>omega
 have HN:Hid (aj []=(fF (af rs) typ rel).getD []):=by show _=_;rw[<-HP.out,VN (by omega)];rfl
 go_wp2;go_ret;exact⟨⟨[],none,0,rfl,HN.out,.inl rfl,.inl rfl⟩,rfl⟩
def aQ:List Ex->List Al
 | []=>[]
 | e::es=>if e.kind=1 then e.allow else aQ es
theorem gu(rs:Q08)(k:Nat)(h:k<rs.length):aj (rs.drop k)=rs[k].e::aj (rs.drop (k+1)):=by
 rw[VZ h];rfl
def O5(rs:Q08)(ad:Q02)(xs:Q0a):Prop:=xs=[] \/ ∃r∈rs,xs=r.e.allow/\ad=r.adA
theorem jw.mem{w:ae}{ad:Q02}{rs:Q08}(h:jw w ad rs){q:ER}(hq:q∈rs):q.ok w:=by
 rcases h with rfl|⟨b,off,e,hb,hr,hk⟩
 ·cases hq
 exact hk q hq
theorem O5.sl{rs:Q08}{ad ad0:Q02}{xs:Q0a}{w:ae}(h:O5 rs ad xs)(hs:jw w ad0 rs):lu w ad xs:=by
 rcases h with rfl|⟨r,hr,rfl,rfl⟩
 ·exact .inl rfl
 exact(hs.mem hr).1
theorem xN(ad:Q02)(cap:Nat)(rs:Q08)(w:ae)(hlen:rs.length<=1048576)(hs:jw w ad rs):
  Calls prog 176 #[.slice ad rs.length cap] w fun e w'=>(∃(WS:Q02) (cap':Nat),e=.returned (.slice WS (aQ (aj rs)).length cap')/\lu w WS (aQ (aj rs))/\O5 rs WS (aQ (aj rs)))/\w'=w:=by
 have HS:=aC hs;clear hs;go_enter func176,ntmps176;go_wp2;go_loopw[3] (fun i wr=>∃k:Nat,k<=rs.length/\i=.int .i64 k/\Hid (aQ (aj (rs.drop k))=aQ (aj rs))/\wr=w) (fun i _=>rs.length-(intOf i).toNat);case atStart=>exact⟨0,Vv _,rfl,rfl,rfl⟩
 obtain⟨k,hk,rfl,HP,rfl⟩:=hrel;by_cases hlt:k<rs.length
 ·rcases HS.out with rfl|⟨b,off,rfl,hb,hr,hok⟩
  ·simp at hlt
  obtain⟨t0,t1,t2,t3,t4⟩:=hr k hlt;have XN:Hid (rs[k].ok _):=hok rs[k] (Vp hlt);have hk1:=bC k;have hk2:(k:Int)<(rs.length:Int):=by omega
  clear hr hok;by_cases hq:rs[k].e.kind=1
  ·have HN:Hid (aQ (aj rs)=rs[k].e.allow):=by show _=_;rw[<-HP.out,gu _ _ hlt];simp[aQ,hq]
   go_wp2;go_ret;exact⟨⟨rs[k].adA,rs[k].capA,by rw[HN.out];rfl,by rw[HN.out];exact XN.out.1,.inr ⟨rs[k],Vp hlt,HN.out,rfl⟩⟩,rfl⟩
  have WQ:Hid (aQ (aj (rs.drop (k+1)))=aQ (aj rs)):=by show _=_;rw[<-HP.out,gu _ _ hlt];simp[aQ,hq]
  have hqb:(rs[k].e.kind==1)=false:=by simpa using hq
  go_wp2;go_roundw;case rel=>exact⟨k+1,by omega,by go_num,WQ,by first|rfl|trivial⟩
  simp[intOf]<;>omega
 have HN:Hid (aQ (aj rs)=[]):=by show _=_;rw[<-HP.out,VN (by omega)];rfl
 go_wp2;go_ret;exact⟨⟨none,0,by rw[HN.out];rfl,by rw[HN.out];exact .inl rfl,.inl HN.out⟩,rfl⟩
def bi:List Ex->Bool
 | [e]=>decide (e.kind=1)&&e.allow.all fun a=>a.s.toList.isEmpty
 | _=>false
def zy(xs:Q0a)(k:Nat):Bool:=(xs.take k).all fun a=>a.s.toList.isEmpty
theorem Ja(xs:Q0a)(k:Nat)(h:k<xs.length):zy xs (k+1)=(zy xs k&&xs[k].s.toList.isEmpty):=by
 unfold zy;rw[Vu h,WC];simp
theorem Mi(xs:Q0a)(k:Nat)(h:k<xs.length)(hb:xs[k].s.toList.isEmpty=false):(xs.all fun a=>a.s.toList.isEmpty)=false:=by
 rw[Bool.eq_false_iff];intro h2;rw[VC]at h2;have:=h2 xs[k] (Vp h);rw[hb]at this;cases this
theorem Es(ad:Q02)(cap:Nat)(rs:Q08)(w:ae)(hlen:rs.length<=1048576)(hs:jw w ad rs)(hl:∀r∈rs,r.e.light):
  Calls prog 248 #[.slice ad rs.length cap] w fun e w'=>e=.returned (.bool (bi (aj rs)))/\w'=w:=by
 by_cases h1:rs.length=1
 ·obtain⟨r,rfl⟩:∃r,rs=[r]:=List.length_eq_one_iff.1 h1;rcases hs with h|⟨b,off,rfl,hb,hr,hok⟩
  ·cases h
  obtain⟨t0,t1,t2,t3,t4⟩:=hr 0 (by simp);simp only[Nat.zero_mul,Nat.add_zero,List.getElem_cons_zero]at t0 t1 t2 t3 t4;have XN:Hid (r.ok w):=hok r (by simp);obtain⟨lg,-⟩:=hl r (by simp);clear hr hok h1;simp only[VS,Wv,VQ];by_cases hq:r.e.kind=1
  ·have HD:Hid (bi (aj [r])=r.e.allow.all fun a=>a.s.toList.isEmpty):=by show _=_;simp[bi,aj,hq]
   go_enter func248,ntmps248;go_wp2;go_loopw[3] (fun i wr=>∃k:Nat,k<=r.e.allow.length/\i=.int .i64 k/\Hid (zy r.e.allow k=true)/\wr=w) (fun i _=>r.e.allow.length-(intOf i).toNat);case atStart=>exact⟨0,Vv _,rfl,(by show _=_;simp[zy]),rfl⟩
   obtain⟨k,hk,rfl,HP,rfl⟩:=hrel;by_cases hlt:k<r.e.allow.length
   ·rcases XN.out.1 with hnil|⟨ba,Yx,Yy,ZT,hra⟩
    ·rw[hnil]at hlt;simp at hlt
    have t1':=t1;rw[Yy]at t1';obtain⟨q0,q1⟩:=hra k hlt;have hk1:=bC k;have hk2:(k:Int)<(r.e.allow.length:Int):=by omega
    clear hra Yy t1;cases he:r.e.allow[k].s.toList.isEmpty;case true=>
     have WQ:Hid (zy r.e.allow (k+1)=true):=by show _=_;rw[Ja _ _ hlt,HP.out,he];rfl
     go_wp2;go_roundw;case rel=>exact⟨k+1,by omega,by go_num,WQ,by first|rfl|trivial⟩
     simp[intOf]<;>omega
    have HN:Hid (bi (aj [r])=false):=by show _=_;rw[HD.out];exact Mi _ k hlt he
    go_wp2;go_ret;exact⟨by rw[HN.out];rfl,rfl⟩
   have HN:Hid (bi (aj [r])=true):=by
    show _=_;rw[HD.out];have:=HP.out;unfold zy at this;rwa [V8 (by omega)]at this
   go_wp2;go_ret;exact⟨by rw[HN.out];rfl,rfl⟩
  have HN:Hid (bi (aj [r])=false):=by show _=_;simp[bi,aj,hq]
  have hqb:(r.e.kind != 1)=true:=by simpa using hq
  go_enter func248,ntmps248;go_wp2;go_ret;exact⟨by rw[HN.out];rfl,rfl⟩
 have HN:Hid (bi (aj rs)=false):=by
  show _=_
  match rs,h1 with
  | [],_=>rfl
  | [r],h=>exact absurd rfl h
  | a::b::r,_=>rfl
 have h1':((rs.length:Int) != 1)=true:=by simp;omega
 go_enter func248,ntmps248;go_wp2;go_ret;exact⟨by rw[HN.out];rfl,rfl⟩
def az(ts:Q0b)(ty n:ByteArray):List Ex:=(fF ts ty n).getD []
def gl(ts:Q0b)(rel:ByteArray):List Al->List ByteArray
 | []=>[]
 | a::xs=>if (az ts a.t rel).isEmpty then gl ts rel xs else a.t::gl ts rel xs
def gW(ts:Q0b)(ty over rel:ByteArray):List ByteArray:=gl ts rel (aQ (az ts ty over))
theorem CW(ts:Q0b)(rel:bQ)(xs ys:Q0a):gl ts rel (xs++ys)=gl ts rel xs++gl ts rel ys:=by
 induction xs with
 | nil=>rfl
 | cons a xs ih=>simp only[V9,gl,ih];split<;>simp
theorem Tj(ts:Q0b)(rel:bQ)(xs:Q0a)(k:Nat)(h:k<xs.length)(he:az ts xs[k].t rel=[]):gl ts rel (xs.take (k+1))=gl ts rel (xs.take k):=by
 rw[Vu h,CW];simp[gl,he]
theorem O6(ts:Q0b)(rel:bQ)(xs:Q0a)(k:Nat)(h:k<xs.length)(he:az ts xs[k].t rel≠[]):gl ts rel (xs.take (k+1))=gl ts rel (xs.take k)++[xs[k].t]:=by
 rw[Vu h,CW];simp[gl,he]
theorem Jb(ts:Q0b)(rel:bQ)(xs:Q0a):(gl ts rel xs).length<=xs.length:=by
 induction xs with
 | nil=>simp[gl]
 | cons a xs ih=>simp only[gl];split<;>simp<;>omega
theorem Mj:(prog.info? 9).map (fun i=>(i.zero,i.size,i.bytes))=some (some (.string ⟨#[]⟩),1,16):=by kernel_rfl
def qA(xs:List ByteArray):List Value:=xs.map Value.string
def TT(w:World)(ad:Q02)(xs:List ByteArray):Prop:=xs=[] \/ ∃b off,ad=some ⟨b,off,none⟩/\b<w.heap.size/\∀(i:Nat) (h:i<xs.length),w.cell? ⟨b,off+i,none⟩=some (.string xs[i])
theorem TT.below{w w':ae}{ad:Q02}{xs:List ByteArray}(h:TT w ad xs)(hB:ag w w'):TT w' ad xs:=by
 rcases h with h|⟨b,off,e,hb,hr⟩
 ·exact .inl h
 exact .inr ⟨b,off,e,Vq hb hB.size,fun i hi=>(hB.cell (p:=⟨b,off+i,none⟩) hb).trans (hr i hi)⟩
theorem O7{w:ae}{base k:Nat}{v:Value}{xs:List ByteArray}(h:w.ownsRow base 9 1 v k (qA xs)):∃ad cp,v=.slice ad xs.length cp/\TT w ad xs/\∀p,ad=some p->base<=p.block:=by
 have hl:xs.length=k:=by have:=h.1;simpa[qA] using this
 have h2:=h;rcases h.2 with⟨rfl,h0⟩|⟨g,cp,cur,rfl,hbg,hg,hnc,-⟩
 ·refine⟨none,0,?_,.inl (VM.1 (by omega)),fun p hp=>by cases hp⟩;rw[hl,h0]
 have hlt:=h2.lt g rfl;refine⟨_,cp,by rw[hl],.inr ⟨g,0,rfl,hlt.2,fun j hj=>?_⟩,fun p hp=>by injection hp with hp;rw[<-hp];exact hlt.1⟩;have:=h2.cells (g:=g) rfl j (.string xs[j]) (by simp[qA,hj]);rw[VQ];have e:(⟨g,0,none⟩:Addr).add j=⟨g,j,none⟩:=by
  unfold Addr.add;by_cases hj:j=0
  ·subst hj;simp
  simp[hj]
 rwa [e]at this
theorem pV.light{rs:Q06}{ad:Q02}{rows:Q08}(h:pV rs ad rows)(hl:∀r∈rs,r.light):rows.length<=1048576/\∀q∈rows,q.e.light:=by
 rcases h with rfl|⟨t,ht,q,hq,rfl,-⟩
 ·exact⟨by simp,by simp⟩
 exact(hl t ht).2 q hq
theorem zz(rows:Q08)(hl:∀q∈rows,q.e.light):(aQ (aj rows)).length<=1048576:=by
 induction rows with
 | nil=>simp[aj,aQ]
 | cons r rows ih =>
  have e:aj (r::rows)=r.e::aj rows:=rfl;rw[e];simp only[aQ];split
  ·exact(hl r (by simp)).1
  exact ih fun q hq=>hl q (by simp[hq])
set_option maxRecDepth 100000 in
theorem xO(ad:Q02)(cap:Nat)(rs:Q06)(typ over rel:bQ)(w:ae)(hlen:rs.length<=1048576)(hs:mP w ad rs)(hl:∀r∈rs,r.light):
  Calls prog 103 #[.slice ad rs.length cap,.string typ,.string over,.string rel] w fun e w'=>(∃(WS:Q02) (cap':Nat),e=.returned (.slice WS (gW (af rs) typ over rel).length cap')/\TT w' WS (gW (af rs) typ over rel)/\∀p,WS=some p->w.heap.size<=p.block)/\ag w w':=by
 have HS:=aC hs;have HL:=aC hl;clear hs hl;obtain⟨i0,hi,hz0,hz1,hz2⟩:=info_parts Mj;go_enter func103,ntmps103;go_wp2_with fail;have hbA:ag w (w.alloc (.cells #[] 9)):=(Vs _ _).alloc (Vr _) _;have hown1:(w.alloc (.cells #[] 9)).ownsRow w.heap.size 9 1 (.slice (some ⟨w.heap.size,0,none⟩) 0 0) 0 []:=World.ownsRow_made w #[] 0 (Vr _) (by decide) rfl;refine(jf ad cap rs typ over _ hlen (HS.out.below hbA) HL.out).mono ?_;rintro e w1 ⟨⟨rows,ad1,cap1,rfl,hx1,hs1,hf1⟩,rfl⟩;have hl1:=hf1.light HL.out;have hal:=zz rows hl1.2;go_wp2_with fail;refine(xN ad1 cap1 rows _ hl1.1 hs1).mono ?_;rintro e w1 ⟨⟨ad2,cap2,rfl,-,hf2⟩,rfl⟩;have HG:Hid (gW (af rs) typ over rel=gl (af rs) rel (aQ (aj rows))):=by show _=_;rw[hx1];rfl
 have HA:Hid (lu w ad2 (aQ (aj rows))):=hf2.sl (hf1.sl HS.out);generalize aQ (aj rows)=xs at *
 clear hs1 hx1 hf1 hl1 hf2;have HBA:=aC hbA;have Xb:=aC hown1;clear hbA hown1;obtain⟨wA,hwA⟩:∃wA,wA=w.alloc (.cells #[] 9):=⟨_,rfl⟩;rw[<-hwA]at HBA Xb ⊢;clear hwA;go_wp2_with fail;go_loopw[9,11] (fun v i wr=>∃k:Nat,k<=xs.length/\i=.int .i64 k/\wr.ownsRow w.heap.size 9 1 v (gl (af rs) rel (xs.take k)).length (qA (gl (af rs) rel (xs.take k)))/\ag w wr) (fun _ i _=>xs.length-(intOf i).toNat);case atStart=>exact⟨0,Vv _,rfl,by simpa[qA,gl] using Xb.out,HBA.out⟩
 obtain⟨k,hk,rfl,hown,hB⟩:=hrel;by_cases hlt:k<xs.length
 ·have HST:Hid (mP _ ad rs):=HS.out.below hB;rcases HA.out.below hB with rfl|⟨b,off,rfl,hb,hr⟩
  ·simp at hlt
  obtain⟨t0,t1⟩:=hr k hlt;have hBs:=hB.size;have hgl:=Jb (af rs) rel (xs.take k);rw[Wi]at hgl;have HBH:=aC hB;have HOW:Hid (wr.ownsRow w.heap.size 9 1 _ _ _):=hown;clear hr hB hown;go_wp2_with fail;refine(jf ad cap rs xs[k].t rel _ hlen HST.out HL.out).mono ?_;rintro e w1 ⟨⟨XJ,ad3,cap3,rfl,hx3,-,-⟩,rfl⟩;by_cases hz:XJ.length=0
  ·have HE:Hid (gl (af rs) rel (xs.take (k+1))=gl (af rs) rel (xs.take k)):=by
    refine Tj _ _ _ _ hlt ?_;show _=_;unfold az;rw[<-hx3,VM.1 hz];rfl
   rw[hz];clear hx3;go_wp2;go_roundw;case rel=>exact⟨k+1,by omega,by go_num,by rw[HE.out];exact HOW.out,HBH.out⟩
   simp[intOf]<;>omega
  have HX:Hid (gl (af rs) rel (xs.take (k+1))=gl (af rs) rel (xs.take k)++[xs[k].t]):=by
   refine O6 _ _ _ _ hlt ?_;show ¬_=_;unfold az;rw[<-hx3];intro h2;apply hz;rw[<-aX,h2];rfl
  have hzz:(0:Int)<(XJ.length:Int):=by omega
  clear hx3;go_wp2_with(at_builtin;refine wpList_append_own _ rfl _ _ 143 rfl w.heap.size 9 i0 (.string ⟨#[]⟩) 1 16 underlying143 hi hz0 hz1 hz2 rfl (by decide) _ _ _ rfl (HOW.out.alloc _) ⟨w1.heap.size,0,none⟩ 1 1 [.string xs[k].t] rfl rfl (cell_one_new _ _ _) (by intro u hu;simp at hu;subst hu;rfl) (by unfold maxLen;omega) (by omega) (by simp;omega) ?_);intro v' w3 hown3 hgrow _;have hb3:ag w w3:=(HBH.out.alloc HBH.out.size _).grown hgrow (by simp;omega) (fun i hi=>(HOW.out.lt i hi).1);have Xc:Hid (w3.ownsRow w.heap.size 9 1 v' (gl (af rs) rel (xs.take (k+1))).length (qA (gl (af rs) rel (xs.take (k+1))))):=by
   show World.ownsRow _ _ _ _ _ _ _;rw[HX.out];simpa[qA] using hown3
  clear hown3 hgrow HOW;go_wp2;go_roundw;case rel=>exact⟨k+1,by omega,by go_num,Xc.out,hb3⟩
  simp[intOf]<;>omega
 obtain rfl:k=xs.length:=by omega
 have HE:Hid (xs.take xs.length=xs):=by show _=_;rw[VI]
 rw[HE.out,<-HG.out]at hown;obtain⟨WS,cp,rfl,hsl,hnew⟩:=O7 hown;have Yw:Hid (∀p,WS=some p->w.heap.size<=p.block):=hnew;have Zc:Hid (TT _ WS (gW (af rs) typ over rel)):=hsl;have HBH:Hid (ag w _):=hB;clear hsl hB hown hnew;go_wp2;go_ret;exact⟨⟨WS,cp,rfl,Zc.out,Yw.out⟩,HBH.out⟩
def pW(ts:Q0b)(a:Al):Bool:=lF ts a.t&&(a.s.toList.isEmpty || !(az ts a.t a.s).isEmpty)
def oP(ts:Q0b)(xs:Q0a):Bool:=xs.all (pW ts)
def lG(ts:Q0b)(typ:ByteArray)(e:Ex):Bool :=
 if e.kind=2 then !(az ts typ e.name).isEmpty
 else if e.kind=3 then bi (az ts typ e.over) && !(gW ts typ e.over e.name).isEmpty
 else true
def aR(ts:Q0b)(typ:ByteArray):List Ex->Bool
 | []=>true
 | e::es=>if oP ts e.allow&&lG ts typ e then aR ts typ es else false
def nQ(ts:Q0b)(xs:Q0a)(k:Nat):Bool:=oP ts (xs.take k)
theorem zB(ts:Q0b)(xs:Q0a):nQ ts xs 0=true:=by simp[nQ,oP]
theorem oQ(ts:Q0b)(xs:Q0a)(k:Nat)(h:k<xs.length):nQ ts xs (k+1)=(nQ ts xs k&&pW ts xs[k]):=by
 unfold nQ oP;rw[Vu h,WC];simp
theorem uQ(ts:Q0b)(xs:Q0a)(k:Nat)(h:k<xs.length)(hb:pW ts xs[k]=false):oP ts xs=false:=by
 unfold oP;rw[Bool.eq_false_iff];intro h2;rw[VC]at h2;have:=h2 xs[k] (Vp h);rw[hb]at this;cases this
theorem aA{w w':ae}{g o:Nat}{v:Value}(hB:ag w w')(hg:g<w.heap.size)(h:w.cell? ⟨g,o,none⟩=some v):w'.cell? ⟨g,o,none⟩=some v:=(hB.cell (p:=⟨g,o,none⟩) hg).trans h
set_option maxRecDepth 8000 in
theorem Jc(ad WM:Q02)(cap capE:Nat)(rs:Q06)(typ:bQ)(rows:Q08)(w:ae)(hlen:rs.length<=1048576)(hs:mP w ad rs)(hl:∀r∈rs,r.light)(hle:rows.length<=1048576)(hse:jw w WM rows)(hlE:∀q∈rows,q.e.light):
  Calls prog 175 #[.slice ad rs.length cap,.string typ,.slice WM rows.length capE] w fun e w'=>e=.returned (.bool (aR (af rs) typ (aj rows)))/\ag w w':=by
 have HS:=aC hs;have HL:=aC hl;have HE:=aC hse;have XA:=aC hlE;clear hs hl hse hlE;go_enter func175,ntmps175;go_wp2_with fail;go_loopw[7] (fun i wr=>∃k:Nat,k<=rows.length/\i=.int .i64 k/\Hid (aR (af rs) typ (aj (rows.drop k))=aR (af rs) typ (aj rows))/\Hid (ag w wr)) (fun i _=>rows.length-(intOf i).toNat);case atStart=>exact⟨0,Vv _,rfl,rfl,Vs _ _⟩
 obtain⟨k,hk,rfl,HP,HB⟩:=hrel;by_cases hlt:k<rows.length
 ·have HS1:Hid (mP _ ad rs):=HS.out.below HB.out;rcases HE.out.below HB.out with rfl|⟨b,off,rfl,hb,hr,hok⟩
  ·simp at hlt
  obtain⟨t0,t1,t2,t3,t4⟩:=hr k hlt;have XN:Hid (rows[k].ok wr):=hok rows[k] (Vp hlt);have lg:=(XA.out rows[k] (Vp hlt)).1;have hk1:=bC k;have hk2:(k:Int)<(rows.length:Int):=by omega
  clear hr hok;obtain⟨W1,hW1⟩:∃W1,W1=wr.alloc (.cells #[.int .i64 rows[k].e.kind,.slice rows[k].adA rows[k].e.allow.length rows[k].capA,.string rows[k].e.over,.string rows[k].e.name,.slice rows[k].adK rows[k].e.kids.length rows[k].capK] 43):=⟨_,rfl⟩;have hal:ag wr W1:=by rw[hW1];exact(Vs _ _).alloc (Vr _) _
  have WX:=aC hal;have WP:=iJ HB hal;have hgl:wr.heap.size<W1.heap.size:=by rw[hW1];simp
  have g0:W1.cell? ⟨wr.heap.size,0,none⟩=some (.int .i64 rows[k].e.kind):=by rw[hW1];simp
  have g1:W1.cell? ⟨wr.heap.size,1,none⟩=some (.slice rows[k].adA rows[k].e.allow.length rows[k].capA):=by rw[hW1];simp
  have g2:W1.cell? ⟨wr.heap.size,2,none⟩=some (.string rows[k].e.over):=by rw[hW1];simp
  have g3:W1.cell? ⟨wr.heap.size,3,none⟩=some (.string rows[k].e.name):=by rw[hW1];simp
  clear hal;go_wp2_with fail;rw[<-hW1];clear hW1;go_loopw[9] (fun i w2=>∃j:Nat,j<=rows[k].e.allow.length/\i=.int .i64 j/\Hid (nQ (af rs) rows[k].e.allow j=true)/\Hid (ag W1 w2)) (fun i _=>rows[k].e.allow.length-(intOf i).toNat);case atStart=>exact⟨0,Vv _,rfl,zB _ _,Vs _ _⟩
  obtain⟨j,hj,rfl,HJ,HB2⟩:=hrel;have d0:=aA HB2.out hgl g0;have d1:=aA HB2.out hgl g1;have d2:=aA HB2.out hgl g2;have d3:=aA HB2.out hgl g3;clear g0 g1 g2 g3 t0 t1 t2 t3 t4;have Zk:Hid (ag w _):=WP.out.trans (HB2.out.mono WP.out.size);have HS2:Hid (mP _ ad rs):=HS.out.below Zk.out;by_cases hjl:j<rows[k].e.allow.length
  ·have hA2:lu _ rows[k].adA rows[k].e.allow:=((XN.out.1).below WX.out).below HB2.out;rcases hA2 with hnil|⟨ba,Yx,Yy,ZT,hra⟩
   ·rw[hnil]at hjl;simp at hjl
   rw[Yy]at d1;obtain⟨q0,q1⟩:=hra j hjl;have hj1:=bC j;have hj2:(j:Int)<(rows[k].e.allow.length:Int):=by omega
   clear hra Yy;go_wp2_with fail;refine(I9 ad cap rs _ _ hlen (HS2.out.below ((Vs _ _).alloc (Vr _) _))).mono ?_;rintro e w3 ⟨rfl,rfl⟩;cases hty:lF (af rs) rows[k].e.allow[j].t;case false=>
    have HN:Hid (aR (af rs) typ (aj rows)=false):=by
     show _=_;rw[<-HP.out,gu _ _ hlt];simp[aR,uQ (af rs) _ j hjl (by simp[pW,hty])]
    go_wp2;go_ret;exact⟨by rw[HN.out];rfl,Zk.out.alloc Zk.out.size _⟩
   cases he:rows[k].e.allow[j].s.toList.isEmpty;case true=>
    have HJ2:Hid (nQ (af rs) rows[k].e.allow (j+1)=true):=by show _=_;rw[oQ _ _ _ hjl,HJ.out];simp[pW,hty,he]
    go_wp2;go_roundw;case rel=>exact⟨j+1,by omega,by go_num,HJ2,HB2.out.alloc HB2.out.size _⟩
    simp[intOf]<;>omega
   go_wp2_with fail;refine(jf ad cap rs _ _ _ hlen (HS2.out.below ((Vs _ _).alloc (Vr _) _)) HL.out).mono ?_;rintro e w3 ⟨⟨XJ,ad3,cap3,rfl,hx3,-,-⟩,rfl⟩;by_cases hz:XJ.length=0
   ·have HN:Hid (aR (af rs) typ (aj rows)=false):=by
     have h1:az (af rs) rows[k].e.allow[j].t rows[k].e.allow[j].s=[]:=by unfold az;rw[<-hx3,VM.1 hz];rfl
     show _=_;rw[<-HP.out,gu _ _ hlt];simp[aR,uQ (af rs) _ j hjl (by simp[pW,he,h1])]
    rw[hz];clear hx3;go_wp2;go_ret;exact⟨by rw[HN.out];rfl,Zk.out.alloc Zk.out.size _⟩
   have HJ2:Hid (nQ (af rs) rows[k].e.allow (j+1)=true):=by
    have h1:az (af rs) rows[k].e.allow[j].t rows[k].e.allow[j].s≠[]:=by
     unfold az;rw[<-hx3];intro h2;apply hz;rw[<-aX,h2];rfl
    show _=_;rw[oQ _ _ _ hjl,HJ.out];simp[pW,hty,h1]
   have hzb:((XJ.length:Int)==0)=false:=by simp;intro h;apply hz;rw[h];rfl
   clear hx3;go_wp2;go_roundw;case rel=>exact⟨j+1,by omega,by go_num,HJ2,HB2.out.alloc HB2.out.size _⟩
   simp[intOf]<;>omega
  have Zd:Hid (oP (af rs) rows[k].e.allow=true):=by
   have:=HJ.out;unfold nQ at this;rwa [V8 (by omega)]at this
  by_cases h2:rows[k].e.kind=2
  ·go_wp2_with fail;refine(jf ad cap rs _ _ _ hlen HS2.out HL.out).mono ?_;rintro e w3 ⟨⟨XJ,ad3,cap3,rfl,hx3,-,-⟩,rfl⟩;by_cases hz:XJ.length=0
   ·have HN:Hid (aR (af rs) typ (aj rows)=false):=by
     have h1:az (af rs) typ rows[k].e.name=[]:=by unfold az;rw[<-hx3,VM.1 hz];rfl
     show _=_;rw[<-HP.out,gu _ _ hlt];simp[aR,lG,h2,h1]
    rw[hz];clear hx3;go_wp2;go_ret;exact⟨by rw[HN.out];rfl,Zk.out⟩
   have WQ:Hid (aR (af rs) typ (aj (rows.drop (k+1)))=aR (af rs) typ (aj rows)):=by
    have h1:az (af rs) typ rows[k].e.name≠[]:=by
     unfold az;rw[<-hx3];intro h2;apply hz;rw[<-aX,h2];rfl
    show _=_;rw[<-HP.out,gu _ _ hlt];simp[aR,lG,h2,h1,Zd.out]
   have hzb:((XJ.length:Int)==0)=false:=by simp;intro h;apply hz;rw[h];rfl
   clear hx3;go_wp2;go_roundw;case rel=>exact⟨k+1,by omega,by go_num,WQ,Zk⟩
   simp[intOf]<;>omega
  by_cases h3:rows[k].e.kind=3
  ·go_wp2_with fail;refine(jf ad cap rs _ _ _ hlen HS2.out HL.out).mono ?_;rintro e w3 ⟨⟨XJ,ad3,cap3,rfl,hx3,hs3,hf3⟩,rfl⟩;have hl3:=hf3.light HL.out;go_wp2_with fail;refine(Es ad3 cap3 XJ _ hl3.1 hs3 hl3.2).mono ?_;rintro e w3 ⟨rfl,rfl⟩;have HX:Hid (aj XJ=az (af rs) typ rows[k].e.over):=hx3;clear hx3 hs3 hf3 hl3;rw[HX.out];cases hd:bi (az (af rs) typ rows[k].e.over);case false=>
    have HN:Hid (aR (af rs) typ (aj rows)=false):=by
     show _=_;rw[<-HP.out,gu _ _ hlt];simp[aR,lG,h3,hd]
    go_wp2;go_ret;exact⟨by rw[HN.out];rfl,Zk.out⟩
   go_wp2_with fail;refine(xO ad cap rs _ _ _ _ hlen HS2.out HL.out).mono ?_;rintro e w4 ⟨⟨ad4,cap4,rfl,-⟩,hb4⟩;have Xt:=iJ Zk hb4;clear hb4;by_cases hz:(gW (af rs) typ rows[k].e.over rows[k].e.name).length=0
   ·have HN:Hid (aR (af rs) typ (aj rows)=false):=by
     show _=_;rw[<-HP.out,gu _ _ hlt];simp[aR,lG,h3,VM.1 hz]
    rw[hz];go_wp2;go_ret;exact⟨by rw[HN.out];rfl,Xt.out⟩
   have WQ:Hid (aR (af rs) typ (aj (rows.drop (k+1)))=aR (af rs) typ (aj rows)):=by
    have h1:gW (af rs) typ rows[k].e.over rows[k].e.name≠[]:=by intro h;apply hz;rw[h];rfl
    show _=_;rw[<-HP.out,gu _ _ hlt];simp[aR,lG,h3,h1,hd,Zd.out]
   have hzb:(((gW (af rs) typ rows[k].e.over rows[k].e.name).length:Int)==0)=false:=by simp;intro h;apply hz;rw[h];rfl
   go_wp2;go_roundw;case rel=>exact⟨k+1,by omega,by go_num,WQ,Xt⟩
   simp[intOf]<;>omega
  have WQ:Hid (aR (af rs) typ (aj (rows.drop (k+1)))=aR (af rs) typ (aj rows)):=by
   show _=_;rw[<-HP.out,gu _ _ hlt];simp[aR,lG,h2,h3,Zd.out]
  have hb2:(rows[k].e.kind==2)=false:=by simpa using h2
  have hb3:(rows[k].e.kind==3)=false:=by simpa using h3
  go_wp2;go_roundw;case rel=>exact⟨k+1,by omega,by go_num,WQ,Zk⟩
  simp[intOf]<;>omega
 have HN:Hid (aR (af rs) typ (aj rows)=true):=by show _=_;rw[<-HP.out,VN (by omega)];rfl
 go_wp2;go_ret;exact⟨by rw[HN.out];rfl,HB.out⟩
end Go.Proofs.YtojjoblnpldniaaGreat
