/- Plain functions on bytes that the contracts of this seat's texts are stated by: which names and ids are right. Nothing of the program is read here. -/
import Derived.Test.YtcgdckphpjfmhaaGreatDoorSq
import Derived.WalkKit
import Derived.Test.YtcgdckphpjfmhaaGreatDoorRows
import Derived.WalkLawsBesides
import Derived.ProofKit
import Derived.Laws.IdiomStrings
import Derived.Deep.RegionHeld3
import Derived.Deep.QuietTactic
import Derived.BigQuiet
import Derived.WalkSmall
import Derived.WalkSpells
open Go.Proofs.Tryz
namespace Go.Proofs.YtcgdckphpjfmhaaGreatDoor.Pl
def eF(c:UInt8):Bool:=decide (97<=c.toNat)&&decide (c.toNat<=122)
def yR(c:UInt8):Bool:=eF c || (decide (48<=c.toNat)&&decide (c.toNat<=57)) || decide (c.toNat=95)
def nP(s:ByteArray):Bool:=decide (1<=s.size)&&decide (s.size<=12)
def sD(p:UInt8->Bool)(s:ByteArray):Bool:=s.data.toList.all p
def dI(p:UInt8->Bool)(s:ByteArray):Bool:=nP s&&sD p s
def yS(s:ByteArray):Bool:=!(s.toList==[116,104,105,115])
def aS(s:ByteArray):Bool:=dI eF s&&yS s
def pV(s:ByteArray):Bool:=dI yR s
theorem ah{a b:Bool}(h:a=b):Ending.returned (.bool a)=.returned (.bool b):=by rw[h]
theorem Ck(s:bW)(k:Nat)(h:k<s.size):s.data.toList.take (k+1)=s.data.toList.take k++[s[k]]:=by
 rw[VE (by simpa using h)];rfl
def Iw(p:UInt8->Bool)(s:ByteArray)(k:Nat):Bool:=(s.data.toList.take k).all p
theorem uF(p:UInt8->Bool)(s:bW):Iw p s 0=true:=by simp[Iw]
theorem uG(p:UInt8->Bool)(s:bW)(k:Nat)(h:k<s.size):Iw p s (k+1)=(Iw p s k&&p s[k]):=by
 unfold Iw;rw[Ck s k h];simp
theorem yT(p:UInt8->Bool)(s:bW)(k:Nat)(h:s.size<=k):Iw p s k=sD p s:=by
 unfold Iw sD;rw[Wl (by simpa using h)]
theorem yU(p:UInt8->Bool)(s:bW)(k:Nat)(h:k<s.size)(hb:p s[k]=false):sD p s=false:=by
 unfold sD;rw[List.all_eq_false];exact⟨s[k],by simp[ByteArray.getElem_eq_getElem_data],by simp[hb]⟩
def fH(t i:ByteArray):Bool:=aS t&&pV i
end Go.Proofs.YtcgdckphpjfmhaaGreatDoor.Pl
namespace Go.Proofs.YtcgdckphpjfmhaaGreatDoor
open ChangeShapes WideShapes ChangeAt RowKit
open Pl
theorem lh(c:UInt8)(w:ae):
  Calls prog 209 #[.int .u8 c.toNat] w fun e w'=>e=.returned (.bool (eF c))/\w'=w:=by
 go_enter func209,ntmps209;go_wp2
 all_goals go_ret
 all_goals refine⟨ah ?_,rfl⟩
 all_goals(rw[VV];simp[eF];omega)
theorem aT(s:bW)(w:ae)(hs:s.size<=maxLen):
  Calls prog 151 #[.string s] w fun e w'=>e=.returned (.bool (aS s))/\w'=w:=by
 unfold maxLen at hs;by_cases h1:1<=s.size/\s.size<=12
 ·obtain⟨ha,hb⟩:=h1;go_enter func151,ntmps151;go_wp2
  go_loop [3] (fun i=>∃k:Nat,k<=s.size/\i=.int .i64 k/\Hid (Iw eF s k=true)) (fun i=>s.size-(intOf i).toNat)
  case atStart=>exact⟨0,VG _,rfl,uF _ _⟩
  obtain⟨k,hk,rfl,hu⟩:=hrel;by_cases hlt:k<s.size
  ·by_cases hc:eF s[k]=true
   ·have hc1:97<=s[k].toNat:=by simp[eF]at hc;omega
    have hc2:s[k].toNat<=122:=by simp[eF]at hc;omega
    have HU:Hid (Iw eF s (k+1)=true):=by show _=_;rw[uG _ _ _ hlt,hc,hu.out];rfl
    clear hc;go_wp2;go_round;case rel=>exact⟨k+1,by omega,by go_num,HU⟩
    simp[intOf];omega
   have hc':eF s[k]=false:=by simpa using hc
   have HB:Hid (sD eF s=false):=yU _ _ _ hlt hc';have hd:s[k].toNat<97\/122<s[k].toNat:=by simp[eF]at hc';omega
   clear hc hc';rcases hd with hd|hd
   all_goals
    go_wp2;go_ret;exact⟨ah (by simp[aS,dI,HB.out]),rfl⟩
  go_wp2;go_ret;refine⟨ah ?_,rfl⟩;have hall:sD eF s=true:=by rw[<-yT eF s k (by omega)];exact hu.out
  have hl:nP s=true:=by simp[nP];omega
  simp[aS,dI,yS,hall,hl]
 have hn:nP s=false:=by simp[nP];omega
 have HN:Hid (aS s=false):=by show _=_;simp[aS,dI,hn]
 clear hn;by_cases ha:1<=s.size
 ·have hb:12<s.size:=by omega
  clear h1;go_enter func151,ntmps151;go_wp2;go_ret;exact⟨ah HN.out.symm,rfl⟩
 have ha':s.size<1:=by omega
 clear h1;go_enter func151,ntmps151;go_wp2;go_ret;exact⟨ah HN.out.symm,rfl⟩
theorem zi(s:bW)(w:ae)(hs:s.size<=maxLen):
  Calls prog 208 #[.string s,.func (Fn.func 209) #[] #[]] w fun e w'=>e=.returned (.bool (dI eF s))/\w'=w:=by
 unfold maxLen at hs;by_cases h1:1<=s.size/\s.size<=12
 ·obtain⟨ha,hb⟩:=h1;go_enter func208,ntmps208;go_wp2
  go_loop [16] (fun i=>∃k:Nat,k<=s.size/\i=.int .i64 k/\Hid (Iw eF s k=true)) (fun i=>s.size-(intOf i).toNat)
  case atStart=>exact⟨0,VG _,rfl,uF _ _⟩
  obtain⟨k,hk,rfl,hu⟩:=hrel;by_cases hlt:k<s.size
  ·by_cases hc:eF s[k]=true
   ·have HU:Hid (Iw eF s (k+1)=true):=by show _=_;rw[uG _ _ _ hlt,hc,hu.out];rfl
    go_wp2_with(go_at_call 209;refine(lh _ _).mono ?_;rintro e w' ⟨rfl,rfl⟩);go_round;case rel=>exact⟨k+1,by omega,by go_num,HU⟩
    simp[intOf];omega
   have hc':eF s[k]=false:=by simpa using hc
   have HB:Hid (sD eF s=false):=yU _ _ _ hlt hc';clear hc;go_wp2_with(go_at_call 209;refine(lh _ _).mono ?_;rintro e w' ⟨rfl,rfl⟩);go_ret;exact⟨ah (by simp[dI,HB.out]),rfl⟩
  go_wp2;go_ret;refine⟨ah ?_,rfl⟩;have hall:sD eF s=true:=by rw[<-yT eF s k (by omega)];exact hu.out
  have hl:nP s=true:=by simp[nP];omega
  simp[dI,hall,hl]
 have hn:nP s=false:=by simp[nP];omega
 have HN:Hid (dI eF s=false):=by show _=_;simp[dI,hn]
 clear hn;by_cases ha:1<=s.size
 ·have hb:12<s.size:=by omega
  clear h1;go_enter func208,ntmps208;go_wp2;go_ret;exact⟨ah HN.out.symm,rfl⟩
 have ha':s.size<1:=by omega
 clear h1;go_enter func208,ntmps208;go_wp2;go_ret;exact⟨ah HN.out.symm,rfl⟩
theorem aL(s:bW)(w:ae)(hs:s.size<=maxLen):
  Calls prog 170 #[.string s] w fun e w'=>e=.returned (.bool (aS s))/\w'=w:=by
 by_cases h:s.toList=[116,104,105,115]
 ·have hb:(s.toList==[116,104,105,115])=true:=by simp[h]
  have HN:Hid (aS s=false):=by show _=_;simp[aS,yS,h]
  clear h;go_enter func170,ntmps170;go_wp2;go_ret;exact⟨ah HN.out.symm,rfl⟩
 have hb:(s.toList==[116,104,105,115])=false:=by simp[h]
 have HN:Hid (aS s=dI eF s):=by show _=_;simp[aS,yS,h]
 clear h;go_enter func170,ntmps170;go_wp2_with(go_at_call 208;refine(zi _ _ hs).mono ?_;rintro e w' ⟨rfl,rfl⟩);go_ret;exact⟨ah HN.out.symm,rfl⟩
structure Al where
 t:ByteArray
 s:ByteArray
abbrev Q0a:=List Al
def Al.fits(a:Al):Prop:=a.t.size<=maxLen/\a.s.size<=maxLen
def Tu(w:World)(b off:Nat)(a:Al):Prop:=w.cell? ⟨b,off,none⟩=some (.string a.t)/\w.cell? ⟨b,off+1,none⟩=some (.string a.s)
def ll(w:World)(ad:Q02)(xs:Q0a):Prop:=xs=[] \/ ∃b off,ad=some ⟨b,off,none⟩/\b<w.heap.size/\∀(i:Nat) (h:i<xs.length),Tu w b (off+i*2) xs[i]
def wB(w:World)(ad:Q02)(zs:List Int):Prop:=zs=[] \/ ∃b off,ad=some ⟨b,off,none⟩/\b<w.heap.size/\∀(i:Nat) (h:i<zs.length),w.cell? ⟨b,off+i,none⟩=some (.int .i64 zs[i])
theorem Tu.same{w w':ae}{b off:Nat}{a:Al}(h:Tu w b off a)(hc:∀o,w'.cell? ⟨b,o,none⟩=w.cell? ⟨b,o,none⟩):Tu w' b off a:=⟨(hc _).trans h.1,(hc _).trans h.2⟩
theorem ll.below{w w':ae}{ad:Q02}{xs:Q0a}(h:ll w ad xs)(hB:af w w'):ll w' ad xs:=by
 rcases h with h|⟨b,off,e,hb,hr⟩
 ·exact .inl h
 exact .inr ⟨b,off,e,Vy hb hB.size,fun i hi=>(hr i hi).same fun o=>hB.cell (p:=⟨b,o,none⟩) hb⟩
theorem wB.below{w w':ae}{ad:Q02}{zs:List Int}(h:wB w ad zs)(hB:af w w'):wB w' ad zs:=by
 rcases h with h|⟨b,off,e,hb,hr⟩
 ·exact .inl h
 exact .inr ⟨b,off,e,Vy hb hB.size,fun i hi=>(hB.cell (p:=⟨b,off+i,none⟩) hb).trans (hr i hi)⟩
structure Ex where
 kind:Int
 allow:List Al
 over:ByteArray
 name:ByteArray
 kids:List Int
abbrev Q09:=List Ex
structure ER where
 e:Ex
 adA:Option Addr
 capA:Nat
 adK:Option Addr
 capK:Nat
abbrev Q08:=List ER
def ER.val(r:ER):Value:=.agg #[.int .i64 r.e.kind,.slice r.adA r.e.allow.length r.capA,.string r.e.over,.string r.e.name,.slice r.adK r.e.kids.length r.capK]
def ER.ok(w:World)(r:ER):Prop:=ll w r.adA r.e.allow/\wB w r.adK r.e.kids
def Ex.fits(e:Ex):Prop:=(∀a∈e.allow,a.fits)/\e.over.size<=maxLen/\e.name.size<=maxLen/\e.allow.length<=maxLen/\e.kids.length<=maxLen
theorem ER.ok.below{w w':ae}{r:ER}(h:r.ok w)(hB:af w w'):r.ok w':=⟨h.1.below hB,h.2.below hB⟩
def yx(w:World)(b off:Nat)(r:ER):Prop :=
 w.cell? ⟨b,off,none⟩=some (.int .i64 r.e.kind)/\w.cell? ⟨b,off+1,none⟩=some (.slice r.adA r.e.allow.length r.capA)/\w.cell? ⟨b,off+2,none⟩=some (.string r.e.over) /\
 w.cell? ⟨b,off+3,none⟩=some (.string r.e.name)/\w.cell? ⟨b,off+4,none⟩=some (.slice r.adK r.e.kids.length r.capK)
theorem yx.same{w w':ae}{b off:Nat}{r:ER}(h:yx w b off r)(hc:∀o,w'.cell? ⟨b,o,none⟩=w.cell? ⟨b,o,none⟩):yx w' b off r:=by
 obtain⟨h0,h1,h2,h3,h4⟩:=h;exact⟨(hc _).trans h0,(hc _).trans h1,(hc _).trans h2,(hc _).trans h3,(hc _).trans h4⟩
def jq(w:World)(ad:Q02)(rs:Q08):Prop:=rs=[] \/ ∃b off,ad=some ⟨b,off,none⟩/\b<w.heap.size/\(∀(i:Nat) (h:i<rs.length),yx w b (off+i*5) rs[i])/\∀r∈rs,r.ok w
theorem jq.below{w w':ae}{ad:Q02}{rs:Q08}(h:jq w ad rs)(hB:af w w'):jq w' ad rs:=by
 rcases h with h|⟨b,off,e,hb,hr,hk⟩
 ·exact .inl h
 exact .inr ⟨b,off,e,Vy hb hB.size,fun i hi=>(hr i hi).same fun o=>hB.cell (p:=⟨b,o,none⟩) hb,fun r hr=>(hk r hr).below hB⟩
def aj(rs:Q08):List Ex:=rs.map ER.e
theorem aZ(rs:Q08):(aj rs).length=rs.length:=by simp[aj]
def uH(s:ByteArray):Bool:=s.toList.isEmpty || aS s
theorem Iy(s:bW)(w:ae)(hs:s.size<=maxLen):
  Calls prog 179 #[.string s] w fun e w'=>e=.returned (.bool (uH s))/\w'=w:=by
 go_enter func179,ntmps179;go_wp2_with(go_at_call 170;refine(aL _ _ hs).mono ?_;rintro e w' ⟨rfl,rfl⟩)
 all_goals go_ret
 all_goals exact⟨ah (by simp[uH, *]),rfl⟩
def Ex.light(e:Ex):Prop:=e.allow.length<=1048576/\e.kids.length<=1048576
structure Fil(w wr:World)(g n:Nat)(xs:Q03):Prop where
 below:af w wr
 ge:w.heap.size<=g
 lt:g<wr.heap.size
 done:∀(j:Nat) (h:j<xs.length),wr.cell? ⟨g,j,none⟩=some xs[j]
 there:∀j,j<n->(wr.cell? ⟨g,j,none⟩).isSome=true
 free:∀j,wr.frozen? ⟨g,j,none⟩=false
theorem qi{w:ae}{g i j:Nat}{v:Value}(h:i≠j):(w.setCell ⟨g,i,none⟩ v).cell? ⟨g,j,none⟩=w.cell? ⟨g,j,none⟩:=by
 apply World.cell?_setCell_other;intro e;exact h (congrArg Addr.off e)
theorem zk{w:ae}{a:Addr}{v u:Value}(h:w.cell? a=some u):(w.setCell a v).cell? a=some v:=by
 apply World.cell?_setCell_same;exact h
theorem xG{w:ae}{g h i j:Nat}{v:Value}(hn:g≠h):(w.setCell ⟨g,i,none⟩ v).cell? ⟨h,j,none⟩=w.cell? ⟨h,j,none⟩:=by
 apply World.cell?_setCell_other;intro e;exact hn (congrArg Addr.block e)
theorem Fil.later{w wr w1:ae}{g n:Nat}{xs:Q03}(h:Fil w wr g n xs)(hb:af wr w1):Fil w w1 g n xs where
 below:=h.below.trans (hb.mono h.below.size)
 ge:=h.ge
 lt:=Vy h.lt hb.size
 done j hj:=by rw[hb.cell (p:=⟨g,j,none⟩) h.lt];exact h.done j hj
 there j hj:=by rw[hb.cell (p:=⟨g,j,none⟩) h.lt];exact h.there j hj
 free j:=by rw[hb.frozen (p:=⟨g,j,none⟩) h.lt];exact h.free j
theorem Fil.put{w wr:ae}{g n o:Nat}{xs:Q03}(h:Fil w wr g n xs)(v:Value)(ho:o=xs.length)(hn:o<n):Fil w (wr.setCell ⟨g,o,none⟩ v) g n (xs++[v]) where
 below:=h.below.setCell (p:=⟨g,o,none⟩) h.ge v
 ge:=h.ge
 lt:=by simpa using h.lt
 done j hj:=by
  by_cases e:j=o
  ·subst e;obtain⟨u,hu⟩:=Option.isSome_iff_exists.mp (h.there j hn);rw[zk hu];simp[ho]
  have hj':j<xs.length:=by simp at hj;omega
  rw[qi (Ne.symm e),h.done j hj',VY hj']
 there j hj:=by
  by_cases e:j=o
  ·subst e;obtain⟨u,hu⟩:=Option.isSome_iff_exists.mp (h.there j hn);rw[zk hu];rfl
  rw[qi (Ne.symm e)];exact h.there j hj
 free j:=by simpa using h.free j
def ints(zs:List Int):List Value:=zs.map (Value.int .i64)
theorem Fil.ints{w w':ae}{g:Nat}{zs:List Int}(h:Fil w w' g zs.length (ints zs)):wB w' (some ⟨g,0,none⟩) zs :=
 .inr ⟨g,0,rfl,h.lt,fun i hi=>by rw[V4,h.done i (by simpa[YtcgdckphpjfmhaaGreatDoor.ints] using hi)];simp[YtcgdckphpjfmhaaGreatDoor.ints]⟩
def pairs(xs:Q0a):List Value:=xs.flatMap fun a=>[.string a.t,.string a.s]
theorem rH:∀xs:List Al,(pairs xs).length=xs.length*2
 | []=>rfl
 | a::xs=>by have:=rH xs;simp only[pairs,Wi,VI,We,WH]at this ⊢;omega
theorem uI:∀(xs:Q0a) (i:Nat) (h:i<xs.length),(pairs xs)[i*2]?=some (.string xs[i].t)/\(pairs xs)[i*2+1]?=some (.string xs[i].s)
 | [],i,h=>by simp at h
 | a::xs,0,_=>by simp[pairs]
 | a::xs,i+1,h=>by
  have:=uI xs i (by simpa using h);simp only[pairs,Wi,Wp,WN,List.getElem_cons_succ]at this ⊢;rw[show(i+1)*2=i*2+1+1 by omega,show i*2+1+1+1=(i*2+1)+1+1 by omega];simpa using this
theorem Fil.pairs{w w':ae}{g:Nat}{xs:Q0a}(h:Fil w w' g (xs.length*2) (pairs xs)):ll w' (some ⟨g,0,none⟩) xs:=by
 refine .inr ⟨g,0,rfl,h.lt,fun i hi=>?_⟩;obtain⟨h1,h2⟩:=uI xs i hi;have hl:=rH xs;refine⟨?_,?_⟩
 ·rw[V4,h.done (i*2) (by omega),<-h1,VO (by omega)]
 rw[V4,h.done (i*2+1) (by omega),<-h2,VO (by omega)]
theorem ll.set{w:ae}{ad:Q02}{xs:Q0a}{g o:Nat}{v:Value}(h:ll w ad xs)(hn:∀b off,ad=some ⟨b,off,none⟩->g≠b):ll (w.setCell ⟨g,o,none⟩ v) ad xs:=by
 rcases h with h|⟨b,off,e,hb,hr⟩
 ·exact .inl h
 exact .inr ⟨b,off,e,by simpa using hb,fun i hi=>(hr i hi).same fun o=>xG (hn b off e)⟩
theorem wB.set{w:ae}{ad:Q02}{zs:List Int}{g o:Nat}{v:Value}(h:wB w ad zs)(hn:∀b off,ad=some ⟨b,off,none⟩->g≠b):wB (w.setCell ⟨g,o,none⟩ v) ad zs:=by
 rcases h with h|⟨b,off,e,hb,hr⟩
 ·exact .inl h
 exact .inr ⟨b,off,e,by simpa using hb,fun i hi=>by rw[xG (hn b off e)];exact hr i hi⟩
theorem kept{W w1:ae}{n o:Nat}{v:Value}(hb:af W w1)(hn:n<W.heap.size)(h:W.cell? ⟨n,o,none⟩=some v):w1.cell? ⟨n,o,none⟩=some v:=by
 rw[hb.cell (p:=⟨n,o,none⟩) hn];exact h
theorem UM{W w1:ae}{n o:Nat}(hb:af W w1)(hn:n<W.heap.size)(h:W.frozen? ⟨n,o,none⟩=false):w1.frozen? ⟨n,o,none⟩=false:=by
 rw[hb.frozen (p:=⟨n,o,none⟩) hn];exact h
theorem NJ(w:ae)(x:Obj)(C:Array Value)(t:TypeId)(k:Nat){v:Value}(h:C[k]?=some v):((w.alloc x).alloc (.cells C t)).cell? ⟨w.heap.size+1,k,none⟩=some v:=by
 have:=World.cell?_alloc_mark (w.alloc x) C t (0,0) k;rw[World.size_alloc,h]at this;exact this
theorem Tv(w:ae)(x y:Obj)(C:Array Value)(t:TypeId)(k:Nat){v:Value}(h:C[k]?=some v):(((w.alloc x).alloc y).alloc (.cells C t)).cell? ⟨w.heap.size+1+1,k,none⟩=some v:=by
 have:=NJ (w.alloc x) y C t k h;rw[World.size_alloc]at this;exact this
def ER.row(r:ER):List Value:=[.int .i64 r.e.kind,.slice r.adA r.e.allow.length r.capA,.string r.e.over,.string r.e.name,.slice r.adK r.e.kids.length r.capK]
def jL(rs:Q08):List Value:=rs.flatMap ER.row
theorem wD:∀rs:List ER,(jL rs).length=rs.length*5
 | []=>rfl
 | r::rs=>by have:=wD rs;simp only[jL,ER.row,Wi,VI,We,WH]at this ⊢;omega
theorem zl:∀(rs:Q08) (i:Nat) (h:i<rs.length) (j:Nat),j<5->(jL rs)[i*5+j]?=(rs[i]).row[j]?
 | [],i,h,_,_=>by simp at h
 | r::rs,0,_,j,hj=>by
  simp only[jL,Wi,Nat.zero_mul,V4,List.getElem_cons_zero];rw[Wx (by simpa[ER.row] using hj)]
 | r::rs,i+1,h,j,hj=>by
  have:=zl rs i (by simpa using h) j hj;simp only[jL,Wi,List.getElem_cons_succ]at this ⊢;rw[Wu (by simp[ER.row];omega),<-this];congr 1;simp[ER.row];omega
theorem Fil.rows{w w':ae}{g:Nat}{rs:Q08}(h:Fil w w' g (rs.length*5) (jL rs))(hok:∀r∈rs,r.ok w'):jq w' (some ⟨g,0,none⟩) rs:=by
 refine .inr ⟨g,0,rfl,h.lt,fun i hi=>?_,hok⟩;have hl:=wD rs;have key:∀j,j<5->w'.cell? ⟨g,0+i*5+j,none⟩=(rs[i]).row[j]?:=fun j hj=>by
  rw[V4,h.done (i*5+j) (by omega),<-zl rs i hi j hj,VO (by omega)]
 exact⟨key 0 (by omega),key 1 (by omega),key 2 (by omega),key 3 (by omega),key 4 (by omega)⟩
def ER.new(B:Nat)(r:ER):Prop:=∃gA gK:Nat,r.adA=some ⟨gA,0,none⟩/\r.adK=some ⟨gK,0,none⟩/\B<gA/\B<gK/\r.capA=r.e.allow.length
theorem ER.ok.set{w:ae}{r:ER}{g o:Nat}{v:Value}(h:r.ok w)(hn:r.new g):r.ok (w.setCell ⟨g,o,none⟩ v):=by
 obtain⟨gA,gK,e1,e2,h1,h2,-⟩:=hn;refine⟨h.1.set fun b off e=>?_,h.2.set fun b off e=>?_⟩
 ·rw[e1]at e;injection e with e;injection e with e3 e4;omega
 rw[e2]at e;injection e with e;injection e with e3 e4;omega
theorem ER.new.mono{B B':Nat}{r:ER}(h:r.new B)(hB:B'<=B):r.new B':=by
 obtain⟨gA,gK,e1,e2,h1,h2,h3⟩:=h;exact⟨gA,gK,e1,e2,by omega,by omega,h3⟩
structure Rl where
 name:ByteArray
 expr:List Ex
structure RR where
 name:ByteArray
 rows:List ER
 ad:Option Addr
 cap:Nat
abbrev Q07:=List RR
def RR.p(r:RR):Rl:=⟨r.name,aj r.rows⟩
def RR.val(r:RR):Value:=.agg #[.string r.name,.slice r.ad r.rows.length r.cap]
def RR.ok(w:World)(r:RR):Prop:=jq w r.ad r.rows
def RR.fits(r:RR):Prop:=r.name.size<=maxLen/\r.rows.length<=maxLen/\∀q∈r.rows,q.e.fits
def RR.light(r:RR):Prop:=r.rows.length<=1048576/\∀q∈r.rows,q.e.light
def RR.caps(r:RR):Prop:=r.rows.length<=r.cap/\∀q∈r.rows,q.e.allow.length<=q.capA
def RR.new(B:Nat)(r:RR):Prop:=(∃g:Nat,r.ad=some ⟨g,0,none⟩/\B<g)/\∀q∈r.rows,q.new B
theorem RR.ok.below{w w':ae}{r:RR}(h:r.ok w)(hB:af w w'):r.ok w':=jq.below h hB
def AtR(w:World)(b off:Nat)(r:RR):Prop:=w.cell? ⟨b,off,none⟩=some (.string r.name)/\w.cell? ⟨b,off+1,none⟩=some (.slice r.ad r.rows.length r.cap)
theorem AtR.same{w w':ae}{b off:Nat}{r:RR}(h:AtR w b off r)(hc:∀o,w'.cell? ⟨b,o,none⟩=w.cell? ⟨b,o,none⟩):AtR w' b off r:=⟨(hc _).trans h.1,(hc _).trans h.2⟩
theorem AtR.later{w w':ae}{b off:Nat}{r:RR}(h:AtR w b off r)(hb:b<w.heap.size)(hB:af w w'):AtR w' b off r:=h.same fun o=>hB.cell (p:=⟨b,o,none⟩) hb
def NK(w:World)(ad:Q02)(rs:Q07):Prop:=rs=[] \/ ∃b off,ad=some ⟨b,off,none⟩/\b<w.heap.size/\(∀(i:Nat) (h:i<rs.length),AtR w b (off+i*2) rs[i])/\∀r∈rs,r.ok w
theorem NK.below{w w':ae}{ad:Q02}{rs:Q07}(h:NK w ad rs)(hB:af w w'):NK w' ad rs:=by
 rcases h with h|⟨b,off,e,hb,hr,hk⟩
 ·exact .inl h
 exact .inr ⟨b,off,e,Vy hb hB.size,fun i hi=>(hr i hi).same fun o=>hB.cell (p:=⟨b,o,none⟩) hb,fun r hr=>(hk r hr).below hB⟩
def eu(rs:Q07):List Rl:=rs.map RR.p
theorem rJ(rs:Q07):(eu rs).length=rs.length:=by simp[eu]
theorem RR.ok.set{w:ae}{r:RR}{g o:Nat}{v:Value}(h:r.ok w)(hn:r.new g):r.ok (w.setCell ⟨g,o,none⟩ v):=by
 obtain⟨⟨gE,e1,h1⟩,h2⟩:=hn;rcases h with h|⟨b,off,e,hb,hr,hk⟩
 ·exact .inl h
 refine .inr ⟨b,off,e,by simpa using hb,fun i hi=>(hr i hi).same fun o=>xG ?_,fun q hq=>(hk q hq).set (h2 q hq)⟩;rw[e1]at e;injection e with e;injection e with e3 e4;omega
theorem RR.new.mono{B B':Nat}{r:RR}(h:r.new B)(hB:B'<=B):r.new B':=by
 obtain⟨⟨g,e,hg⟩,h2⟩:=h;exact⟨⟨g,e,by omega⟩,fun q hq=>(h2 q hq).mono hB⟩
structure Ty where
 name:ByteArray
 rels:List Rl
abbrev Q0b:=List Ty
structure TR where
 name:ByteArray
 rows:List RR
 ad:Option Addr
 cap:Nat
abbrev Q06:=List TR
def TR.p(r:TR):Ty:=⟨r.name,eu r.rows⟩
def TR.val(r:TR):Value:=.agg #[.string r.name,.slice r.ad r.rows.length r.cap]
def TR.ok(w:World)(r:TR):Prop:=NK w r.ad r.rows
def TR.fits(r:TR):Prop:=r.name.size<=maxLen/\r.rows.length<=maxLen/\∀q∈r.rows,q.fits
def TR.light(r:TR):Prop:=r.rows.length<=1048576/\∀q∈r.rows,q.light
def TR.caps(r:TR):Prop:=r.rows.length<=r.cap/\∀q∈r.rows,q.caps
def TR.new(B:Nat)(r:TR):Prop:=(∃g:Nat,r.ad=some ⟨g,0,none⟩/\B<g)/\∀q∈r.rows,q.new B
theorem TR.ok.below{w w':ae}{r:TR}(h:r.ok w)(hB:af w w'):r.ok w':=NK.below h hB
def Tw(w:World)(b off:Nat)(r:TR):Prop:=w.cell? ⟨b,off,none⟩=some (.string r.name)/\w.cell? ⟨b,off+1,none⟩=some (.slice r.ad r.rows.length r.cap)
theorem Tw.same{w w':ae}{b off:Nat}{r:TR}(h:Tw w b off r)(hc:∀o,w'.cell? ⟨b,o,none⟩=w.cell? ⟨b,o,none⟩):Tw w' b off r:=⟨(hc _).trans h.1,(hc _).trans h.2⟩
theorem Tw.later{w w':ae}{b off:Nat}{r:TR}(h:Tw w b off r)(hb:b<w.heap.size)(hB:af w w'):Tw w' b off r:=h.same fun o=>hB.cell (p:=⟨b,o,none⟩) hb
def jP(w:World)(ad:Q02)(rs:Q06):Prop:=rs=[] \/ ∃b off,ad=some ⟨b,off,none⟩/\b<w.heap.size/\(∀(i:Nat) (h:i<rs.length),Tw w b (off+i*2) rs[i])/\∀r∈rs,r.ok w
theorem jP.below{w w':ae}{ad:Q02}{rs:Q06}(h:jP w ad rs)(hB:af w w'):jP w' ad rs:=by
 rcases h with h|⟨b,off,e,hb,hr,hk⟩
 ·exact .inl h
 exact .inr ⟨b,off,e,Vy hb hB.size,fun i hi=>(hr i hi).same fun o=>hB.cell (p:=⟨b,o,none⟩) hb,fun r hr=>(hk r hr).below hB⟩
def ag(rs:Q06):List Ty:=rs.map TR.p
theorem lm(rs:Q06):(ag rs).length=rs.length:=by simp[ag]
theorem TR.ok.set{w:ae}{r:TR}{g o:Nat}{v:Value}(h:r.ok w)(hn:r.new g):r.ok (w.setCell ⟨g,o,none⟩ v):=by
 obtain⟨⟨gE,e1,h1⟩,h2⟩:=hn;rcases h with h|⟨b,off,e,hb,hr,hk⟩
 ·exact .inl h
 refine .inr ⟨b,off,e,by simpa using hb,fun i hi=>(hr i hi).same fun o=>xG ?_,fun q hq=>(hk q hq).set (h2 q hq)⟩;rw[e1]at e;injection e with e;injection e with e3 e4;omega
theorem TR.new.mono{B B':Nat}{r:TR}(h:r.new B)(hB:B'<=B):r.new B':=by
 obtain⟨⟨g,e,hg⟩,h2⟩:=h;exact⟨⟨g,e,by omega⟩,fun q hq=>(h2 q hq).mono hB⟩
end Go.Proofs.YtcgdckphpjfmhaaGreatDoor
