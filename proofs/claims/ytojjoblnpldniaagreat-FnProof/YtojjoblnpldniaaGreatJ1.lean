/- Plain functions on bytes that the contracts of this seat's texts are stated by: which names and ids are right. Nothing of the program is read here. -/
import Derived.Test.YtojjoblnpldniaaGreatSq
import Derived.WalkKit
import Derived.Test.YtojjoblnpldniaaGreatRows
import Derived.WalkLawsBesides
import Derived.ProofKit
import Derived.Laws.IdiomStrings
import Derived.Deep.RegionHeld3
import Derived.Deep.QuietTactic
import Derived.BigQuiet
import Derived.WalkSmall
import Derived.WalkSpells
import Derived.OwnWalk
import Derived.Maps.AppendAt
open Go.Proofs.Tryz
set_option maxHeartbeats 80000000
set_option linter.defProp false
namespace Go.Proofs.YtojjoblnpldniaaGreat.Pl
def fH(c:UInt8):Bool:=decide (97<=c.toNat)&&decide (c.toNat<=122)
def Aw(c:UInt8):Bool:=fH c || (decide (48<=c.toNat)&&decide (c.toNat<=57)) || decide (c.toNat=95)
def oV(s:ByteArray):Bool:=decide (1<=s.size)&&decide (s.size<=12)
def uw(p:UInt8->Bool)(s:ByteArray):Bool:=s.data.toList.all p
def dX(p:UInt8->Bool)(s:ByteArray):Bool:=oV s&&uw p s
def Ay(s:ByteArray):Bool:=!(s.toList==[116,104,105,115])
def aW(s:ByteArray):Bool:=dX fH s&&Ay s
def qW(s:ByteArray):Bool:=dX Aw s
def aj{a b:Bool}(h:a=b):Ending.returned (.bool a)=.returned (.bool b):=by rw[h]
def En(s:dw)(k:Nat)(h:k<s.size):s.data.toList.take (k+1)=s.data.toList.take k++[s[k]]:=by
 rw[XM (by simpa using h)];rfl
def Kc(p:UInt8->Bool)(s:ByteArray)(k:Nat):Bool:=(s.data.toList.take k).all p
def wu(p:UInt8->Bool)(s:dw):Kc p s 0=true:=by simp[Kc]
def ww(p:UInt8->Bool)(s:dw)(k:Nat)(h:k<s.size):Kc p s (k+1)=(Kc p s k&&p s[k]):=by
 unfold Kc;rw[En s k h];simp
def Az(p:UInt8->Bool)(s:dw)(k:Nat)(h:s.size<=k):Kc p s k=uw p s:=by
 unfold Kc uw;rw[Yj (by simpa using h)]
def AA(p:UInt8->Bool)(s:dw)(k:Nat)(h:k<s.size)(hb:p s[k]=false):uw p s=false:=by
 unfold uw;rw[List.all_eq_false];exact⟨s[k],by simp[ByteArray.getElem_eq_getElem_data],by simp[hb]⟩
def dY(t i:ByteArray):Bool:=aW t&&qW i
end Go.Proofs.YtojjoblnpldniaaGreat.Pl
namespace Go.Proofs.YtojjoblnpldniaaGreat
open ChangeShapes WideShapes ChangeAt RowKit
open Pl
def mr(c:UInt8)(w:ag):
  Calls prog 191 #[.int .u8 c.toNat] w (bh w<|.bool<|fH c):=by
 go_enter func191,ntmps191;go_wp2
 all_goals go_ret
 all_goals refine⟨aj ?_,rfl⟩
 all_goals(rw[X9];simp[fH];omega)
def aZ(s:dw)(w:ag)(hs:s.size<=maxLen):
  Calls prog 126 #[.string s] w (bh w<|.bool<|aW s):=by
 unfold maxLen at hs;by_cases h1:1<=s.size/\s.size<=12
 ·obtain⟨ha,hb⟩:=h1;go_enter func126,ntmps126;go_wp2
  go_loop [3] (fun i=>∃k:Nat,k<=s.size/\i=.int .i64 k/\O (Kc fH s k=true)) (fun i=>s.size-(intOf i).toNat)
  case atStart=>exact⟨0,XP _,rfl,wu _ _⟩
  obtain⟨k,hk,rfl,hu⟩:=hrel;by_cases hlt:k<s.size
  ·by_cases hc:fH s[k]=true
   ·have hc1:97<=s[k].toNat:=by simp[fH]at hc;omega
    have hc2:s[k].toNat<=122:=by simp[fH]at hc;omega
    have HU:O (Kc fH s (k+1)=true):=by show _=_;rw[ww _ _ _ hlt,hc,hu];rfl
    clear hc;go_wp2;go_round;case rel=>exact⟨k+1,cq,cx,HU⟩
    simp[intOf];omega
   have hc':fH s[k]=false:=by simpa using hc
   have HB:O (uw fH s=false):=AA _ _ _ hlt hc';have hd:s[k].toNat<97\/122<s[k].toNat:=by simp[fH]at hc';omega
   clear hc hc';rcases hd with hd|hd
   all_goals
    go_wp2;go_ret;exact⟨aj<|by simp[aW,dX,HB.out],rfl⟩
  go_wp2;go_ret;refine⟨aj ?_,rfl⟩;have hall:uw fH s=true:=by rw[<-Az fH s k cq];exact hu
  have hl:oV s=true:=by simp[oV];omega
  simp[aW,dX,Ay,hall,hl]
 have hn:oV s=false:=by simp[oV];omega
 have HN:O (aW s=false):=by show _=_;simp[aW,dX,hn]
 clear hn;by_cases ha:1<=s.size
 ·have hb:12<s.size:=cq;clear h1;go_enter func126,ntmps126;go_wp2;go_ret;exact⟨aj HN.symm,rfl⟩
 have ha':s.size<1:=cq;clear h1;go_enter func126,ntmps126;go_wp2;go_ret;exact⟨aj HN.symm,rfl⟩
def AY(s:dw)(w:ag)(hs:s.size<=maxLen):
  Calls prog 190 #[.string s,.func (Fn.func 191) #[] #[]] w (bh w<|.bool<|dX fH s):=by
 unfold maxLen at hs;by_cases h1:1<=s.size/\s.size<=12
 ·obtain⟨ha,hb⟩:=h1;go_enter func190,ntmps190;go_wp2
  go_loop [16] (fun i=>∃k:Nat,k<=s.size/\i=.int .i64 k/\O (Kc fH s k=true)) (fun i=>s.size-(intOf i).toNat)
  case atStart=>exact⟨0,XP _,rfl,wu _ _⟩
  obtain⟨k,hk,rfl,hu⟩:=hrel;by_cases hlt:k<s.size
  ·by_cases hc:fH s[k]=true
   ·have HU:O (Kc fH s (k+1)=true):=by show _=_;rw[ww _ _ _ hlt,hc,hu];rfl
    go_wp2_with(go_at_call 191;refine(mr _ _).mono ?_;rintro e w' ⟨rfl,rfl⟩);go_round;case rel=>exact⟨k+1,cq,cx,HU⟩
    simp[intOf];omega
   have hc':fH s[k]=false:=by simpa using hc
   have HB:O (uw fH s=false):=AA _ _ _ hlt hc';clear hc;go_wp2_with(go_at_call 191;refine(mr _ _).mono ?_;rintro e w' ⟨rfl,rfl⟩);go_ret;exact⟨aj<|by simp[dX,HB.out],rfl⟩
  go_wp2;go_ret;refine⟨aj ?_,rfl⟩;have hall:uw fH s=true:=by rw[<-Az fH s k cq];exact hu
  have hl:oV s=true:=by simp[oV];omega
  simp[dX,hall,hl]
 have hn:oV s=false:=by simp[oV];omega
 have HN:O (dX fH s=false):=by show _=_;simp[dX,hn]
 clear hn;by_cases ha:1<=s.size
 ·have hb:12<s.size:=cq;clear h1;go_enter func190,ntmps190;go_wp2;go_ret;exact⟨aj HN.symm,rfl⟩
 have ha':s.size<1:=cq;clear h1;go_enter func190,ntmps190;go_wp2;go_ret;exact⟨aj HN.symm,rfl⟩
def aT(s:dw)(w:ag)(hs:s.size<=maxLen):
  Calls prog 122 #[.string s] w (bh w<|.bool<|aW s):=by
 by_cases h:s.toList=[116,104,105,115]
 ·have hb:(s.toList==[116,104,105,115])=true:=by simp[h]
  have HN:O (aW s=false):=by show _=_;simp[aW,Ay,h]
  clear h;go_enter func122,ntmps122;go_wp2;go_ret;exact⟨aj HN.symm,rfl⟩
 have hb:(s.toList==[116,104,105,115])=false:=by simp[h]
 have HN:O (aW s=dX fH s):=by show _=_;simp[aW,Ay,h]
 clear h;go_enter func122,ntmps122;go_wp2_with(go_at_call 190;refine(AY _ _ hs).mono ?_;rintro e w' ⟨rfl,rfl⟩);go_ret;exact⟨aj HN.symm,rfl⟩
structure Al where
 t:ByteArray
 s:ByteArray
abbrev Q0a:=List Al
def Al.fits(a:Al):Prop:=a.t.size<=maxLen/\a.s.size<=maxLen
def Vy(w:World)(b off:Nat)(a:Al):Prop:=w.cell? ⟨b,off,none⟩=some (.string a.t)/\w.cell? ⟨b,off+1,none⟩=some (.string a.s)
def mJ(w:World)(ad:Q02)(xs:Q0a):Prop:=xs=[] \/ ∃b off,ad=some ⟨b,off,none⟩/\b<w.heap.size/\∀(i:Nat) (h:i<xs.length),Vy w b (off+i*2) xs[i]
def uW(w:World)(ad:Q02)(zs:List Int):Prop:=zs=[] \/ ∃b off,ad=some ⟨b,off,none⟩/\b<w.heap.size/\∀(i:Nat) (h:i<zs.length),w.cell? ⟨b,off+i,none⟩=some (.int .i64 zs[i])
def Vy.same{w w':ag}{b off:Nat}{a:Al}(h:Vy w b off a)(hc:∀o,w'.cell? (ap b o)=w.cell? (ap b o)):Vy w' b off a:=⟨(hc _).trans h.1,(hc _).trans h.2⟩
def mJ.below{w w':ag}{ad:Q02}{xs:Q0a}(h:mJ w ad xs)(hB:ae w w'):mJ w' ad xs:=by
 rcases h with h|⟨b,off,e,hb,hr⟩
 ·exact .inl h
 exact .inr ⟨b,off,e,XJ hb hB.size,fun i hi=>(hr i hi).same fun o=>hB.cell (p:=⟨b,o,none⟩) hb⟩
def uW.below{w w':ag}{ad:Q02}{zs:List Int}(h:uW w ad zs)(hB:ae w w'):uW w' ad zs:=by
 rcases h with h|⟨b,off,e,hb,hr⟩
 ·exact .inl h
 exact .inr ⟨b,off,e,XJ hb hB.size,fun i hi=>(hB.cell (p:=⟨b,off+i,none⟩) hb).trans<|hr i hi⟩
structure Ex where
 kind:Int
 allow:List Al
 over:ByteArray
 name:ByteArray
 kids:List Int
abbrev Q09:=List Ex
structure ER where
 e:Ex
 adA:Option Addr
 capA:Nat
 adK:Option Addr
 capK:Nat
abbrev cU(q:ER):Array Value:=#[.int .i64 q.e.kind,.slice q.adA q.e.allow.length q.capA,.string q.e.over,.string q.e.name,.slice q.adK q.e.kids.length q.capK]
abbrev Q08:=List ER
def ER.val(r:ER):Value:=.agg #[.int .i64 r.e.kind,.slice r.adA r.e.allow.length r.capA,.string r.e.over,.string r.e.name,.slice r.adK r.e.kids.length r.capK]
def ER.ok(w:World)(r:ER):Prop:=mJ w r.adA r.e.allow/\uW w r.adK r.e.kids
def Ex.fits(e:Ex):Prop:=(∀a∈e.allow,a.fits)/\e.over.size<=maxLen/\e.name.size<=maxLen/\e.allow.length<=maxLen/\e.kids.length<=maxLen
def ER.ok.below{w w':ag}{r:ER}(h:r.ok w)(hB:ae w w'):r.ok w':=⟨h.1.below hB,h.2.below hB⟩
def zY(w:World)(b off:Nat)(r:ER):Prop :=
 w.cell? ⟨b,off,none⟩=some (.int .i64 r.e.kind)/\w.cell? ⟨b,off+1,none⟩=some (.slice r.adA r.e.allow.length r.capA)/\w.cell? ⟨b,off+2,none⟩=some (.string r.e.over) /\
 w.cell? ⟨b,off+3,none⟩=some (.string r.e.name)/\w.cell? ⟨b,off+4,none⟩=some (.slice r.adK r.e.kids.length r.capK)
def zY.same{w w':ag}{b off:Nat}{r:ER}(h:zY w b off r)(hc:∀o,w'.cell? (ap b o)=w.cell? (ap b o)):zY w' b off r:=by
 obtain⟨h0,h1,h2,h3,h4⟩:=h;exact⟨(hc _).trans h0,(hc _).trans h1,(hc _).trans h2,(hc _).trans h3,(hc _).trans h4⟩
def iE(w:World)(ad:Q02)(rs:Q08):Prop:=rs=[] \/ ∃b off,ad=some ⟨b,off,none⟩/\b<w.heap.size/\(∀(i:Nat) (h:i<rs.length),zY w b (off+i*5) rs[i])/\∀r∈rs,r.ok w
def iE.below{w w':ag}{ad:Q02}{rs:Q08}(h:iE w ad rs)(hB:ae w w'):iE w' ad rs:=by
 rcases h with h|⟨b,off,e,hb,hr,hk⟩
 ·exact .inl h
 exact .inr ⟨b,off,e,XJ hb hB.size,fun i hi=>(hr i hi).same fun o=>hB.cell (p:=⟨b,o,none⟩) hb,fun r hr=>(hk r hr).below hB⟩
def au(rs:Q08):List Ex:=rs.map ER.e
def aX(rs:Q08):(au rs).length=rs.length:=by simp[au]
def wy(s:ByteArray):Bool:=s.toList.isEmpty || aW s
def Ke(s:dw)(w:ag)(hs:s.size<=maxLen):
  Calls prog 148 #[.string s] w (bh w<|.bool<|wy s):=by
 go_enter func148,ntmps148;go_wp2_with(go_at_call 122;refine(aT _ _ hs).mono ?_;rintro e w' ⟨rfl,rfl⟩)
 all_goals go_ret
 all_goals exact⟨aj<|by simp[wy, *],rfl⟩
def Ex.light(e:Ex):Prop:=e.allow.length<=1048576/\e.kids.length<=1048576
structure Fil(w wr:World)(g n:Nat)(xs:Q03):Prop where
 below:ae w wr
 ge:w.heap.size<=g
 lt:g<wr.heap.size
 done:∀(j:Nat) (h:j<xs.length),wr.cell? ⟨g,j,none⟩=some xs[j]
 there:∀j,j<n->(wr.cell? ⟨g,j,none⟩).isSome=true
 free:∀j,wr.frozen? ⟨g,j,none⟩=false
def rA{w:ag}{g i j:Nat}{v:Value}(h:i≠j):(w.setCell (ap g i) v).cell? (ap g j)=w.cell? (ap g j):=by
 apply World.cell?_setCell_other;intro e;exact h<|congrArg Addr.off e
def AZ{w:ag}{a:Addr}{v u:Value}(h:w.cell? a=some u):(w.setCell a v).cell? a=some v:=by
 apply World.cell?_setCell_same;exact h
def zl{w:ag}{g h i j:Nat}{v:Value}(hn:g≠h):(w.setCell (ap g i) v).cell? (ap h j)=w.cell? (ap h j):=by
 apply World.cell?_setCell_other;intro e;exact hn<|congrArg Addr.block e
def Fil.later{w wr w1:ag}{g n:Nat}{xs:Q03}(h:Fil w wr g n xs)(hb:ae wr w1):Fil w w1 g n xs where
 below:=h.below.trans<|hb.mono h.below.size
 ge:=h.ge
 lt:=XJ h.lt hb.size
 done j hj:=by rw[hb.cell (p:=⟨g,j,none⟩) h.lt];exact h.done j hj
 there j hj:=by rw[hb.cell (p:=⟨g,j,none⟩) h.lt];exact h.there j hj
 free j:=by rw[hb.frozen (p:=⟨g,j,none⟩) h.lt];exact h.free j
def Fil.put{w wr:ag}{g n o:Nat}{xs:Q03}(h:Fil w wr g n xs)(v:Value)(ho:o=xs.length)(hn:o<n):Fil w (wr.setCell (ap g o) v) g n (xs++[v]) where
 below:=h.below.setCell (p:=⟨g,o,none⟩) h.ge v
 ge:=h.ge
 lt:=by simpa using h.lt
 done j hj:=by
  by_cases e:j=o
  ·subst e;obtain⟨u,hu⟩:=Option.isSome_iff_exists.mp<|h.there j hn;rw[AZ hu];simp[ho]
  have hj':j<xs.length:=by simp at hj;omega
  rw[rA (Ne.symm e),h.done j hj',Yo hj']
 there j hj:=by
  by_cases e:j=o
  ·subst e;obtain⟨u,hu⟩:=Option.isSome_iff_exists.mp<|h.there j hn;rw[AZ hu];rfl
  rw[rA (Ne.symm e)];exact h.there j hj
 free j:=by simpa using h.free j
def ints(zs:List Int):List Value:=zs.map<|Value.int .i64
def pairs(xs:Q0a):List Value:=xs.flatMap fun a=>[.string a.t,.string a.s]
def yh:∀xs:List Al,(pairs xs).length=xs.length*2
 | []=>rfl
 | a::xs=>by have:=yh xs;simp only[pairs,Ym,XT,Yh,YO]at this ⊢;omega
def A7:∀(xs:Q0a) (i:Nat) (h:i<xs.length),(pairs xs)[i*2]?=some (.string xs[i].t)/\(pairs xs)[i*2+1]?=some (.string xs[i].s)
 | [],i,h=>by simp at h
 | a::xs,0,_=>by simp[pairs]
 | a::xs,i+1,h=>by
  have:=A7 xs i (by simpa using h);simp only[pairs,Ym,Yz,YI,List.getElem_cons_succ]at this ⊢;rw[show(i+1)*2=i*2+1+1 by omega,show i*2+1+1+1=(i*2+1)+1+1 by omega];simpa using this
def mJ.set{w:ag}{ad:Q02}{xs:Q0a}{g o:Nat}{v:Value}(h:mJ w ad xs)(hn:∀b off,ad=some (ap b off)->g≠b):mJ (w.setCell (ap g o) v) ad xs:=by
 rcases h with h|⟨b,off,e,hb,hr⟩
 ·exact .inl h
 exact .inr ⟨b,off,e,by simpa using hb,fun i hi=>(hr i hi).same fun o=>zl<|hn b off e⟩
def uW.set{w:ag}{ad:Q02}{zs:List Int}{g o:Nat}{v:Value}(h:uW w ad zs)(hn:∀b off,ad=some (ap b off)->g≠b):uW (w.setCell (ap g o) v) ad zs:=by
 rcases h with h|⟨b,off,e,hb,hr⟩
 ·exact .inl h
 exact .inr ⟨b,off,e,by simpa using hb,fun i hi=>by rw[zl (hn b off e)];exact hr i hi⟩
def kept{W w1:ag}{n o:Nat}{v:Value}(hb:ae W w1)(hn:n<W.heap.size)(h:W.cell? ⟨n,o,none⟩=some v):w1.cell? ⟨n,o,none⟩=some v:=by
 rw[hb.cell (p:=⟨n,o,none⟩) hn];exact h
def WQ{W w1:ag}{n o:Nat}(hb:ae W w1)(hn:cW n W)(h:W.frozen? (ap n o)=false):w1.frozen? (ap n o)=false:=by
 rw[hb.frozen (p:=⟨n,o,none⟩) hn];exact h
def Qa(w:ag)(x:Obj)(C:Array Value)(t:TypeId)(k:Nat){v:Value}(h:C[k]?=some v):((w.alloc x).alloc<|.cells C t).cell? (ap (w.heap.size+1) k)=some v:=by
 have:=World.cell?_alloc_mark (w.alloc x) C t (0,0) k;rw[World.size_alloc,h]at this;exact this
def Vz(w:ag)(x y:Obj)(C:Array Value)(t:TypeId)(k:Nat){v:Value}(h:C[k]?=some v):(((w.alloc x).alloc y).alloc<|.cells C t).cell? (ap (w.heap.size+1+1) k)=some v:=by
 have:=Qa (w.alloc x) y C t k h;rw[World.size_alloc]at this;exact this
def ER.row(r:ER):List Value:=[.int .i64 r.e.kind,.slice r.adA r.e.allow.length r.capA,.string r.e.over,.string r.e.name,.slice r.adK r.e.kids.length r.capK]
def kH(rs:Q08):List Value:=rs.flatMap ER.row
def yj:∀rs:List ER,(kH rs).length=rs.length*5
 | []=>rfl
 | r::rs=>by have:=yj rs;simp only[kH,ER.row,Ym,XT,Yh,YO]at this ⊢;omega
def A8:∀(rs:Q08) (i:Nat) (h:i<rs.length) (j:Nat),j<5->(kH rs)[i*5+j]?=(rs[i]).row[j]?
 | [],i,h,_,_=>by simp at h
 | r::rs,0,_,j,hj=>by
  simp only[kH,Ym,Nat.zero_mul,Yg,List.getElem_cons_zero];rw[YK (by simpa[ER.row] using hj)]
 | r::rs,i+1,h,j,hj=>by
  have:=A8 rs i (by simpa using h) j hj;simp only[kH,Ym,List.getElem_cons_succ]at this ⊢;rw[YA (by simp[ER.row];omega),<-this];congr 1;simp[ER.row];omega
def Fil.rows{w w':ag}{g:Nat}{rs:Q08}(h:Fil w w' g (rs.length*5)<|kH rs)(hok:∀r∈rs,r.ok w'):iE w' (some<|am g) rs:=by
 refine .inr ⟨g,0,rfl,h.lt,fun i hi=>?_,hok⟩;have hl:=yj rs;have key:∀j,j<5->w'.cell? (ap g<|0+i*5+j)=(rs[i]).row[j]?:=fun j hj=>by
  rw[Yg,h.done (i*5+j) cq,<-A8 rs i hi j hj,XQ cq]
 exact⟨key 0 cq,key 1 cq,key 2 cq,key 3 cq,key 4 cq⟩
def ER.new(B:Nat)(r:ER):Prop:=∃gA gK:Nat,r.adA=some ⟨gA,0,none⟩/\r.adK=some ⟨gK,0,none⟩/\B<gA/\B<gK/\r.capA=r.e.allow.length
def ER.ok.set{w:ag}{r:ER}{g o:Nat}{v:Value}(h:r.ok w)(hn:r.new g):r.ok (w.setCell (ap g o) v):=by
 obtain⟨gA,gK,e1,e2,h1,h2,-⟩:=hn;refine⟨h.1.set fun b off e=>?_,h.2.set fun b off e=>?_⟩
 ·rw[e1]at e;injection e with e;injection e with e3 e4;omega
 rw[e2]at e;injection e with e;injection e with e3 e4;omega
def ER.new.mono{B B':Nat}{r:ER}(h:r.new B)(hB:B'<=B):r.new B':=by
 obtain⟨gA,gK,e1,e2,h1,h2,h3⟩:=h;exact⟨gA,gK,e1,e2,cq,cq,h3⟩
structure Rl where
 name:ByteArray
 expr:List Ex
structure RR where
 name:ByteArray
 rows:List ER
 ad:Option Addr
 cap:Nat
abbrev ck(q:RR):Array Value:=#[.string q.name,.slice q.ad q.rows.length q.cap]
abbrev Q07:=List RR
def RR.p(r:RR):Rl:=⟨r.name,au r.rows⟩
def RR.val(r:RR):Value:=.agg #[.string r.name,.slice r.ad r.rows.length r.cap]
def RR.ok(w:World)(r:RR):Prop:=iE w r.ad r.rows
def RR.fits(r:RR):Prop:=r.name.size<=maxLen/\r.rows.length<=maxLen/\∀q∈r.rows,q.e.fits
def RR.light(r:RR):Prop:=r.rows.length<=1048576/\∀q∈r.rows,q.e.light
def RR.caps(r:RR):Prop:=r.rows.length<=r.cap/\∀q∈r.rows,q.e.allow.length<=q.capA
def RR.new(B:Nat)(r:RR):Prop:=(∃g:Nat,r.ad=some ⟨g,0,none⟩/\B<g)/\∀q∈r.rows,q.new B
def RR.ok.below{w w':ag}{r:RR}(h:r.ok w)(hB:ae w w'):r.ok w':=iE.below h hB
def AtR(w:World)(b off:Nat)(r:RR):Prop:=w.cell? ⟨b,off,none⟩=some (.string r.name)/\w.cell? ⟨b,off+1,none⟩=some (.slice r.ad r.rows.length r.cap)
def AtR.same{w w':ag}{b off:Nat}{r:RR}(h:AtR w b off r)(hc:∀o,w'.cell? (ap b o)=w.cell? (ap b o)):AtR w' b off r:=⟨(hc _).trans h.1,(hc _).trans h.2⟩
def Qb(w:World)(ad:Q02)(rs:Q07):Prop:=rs=[] \/ ∃b off,ad=some ⟨b,off,none⟩/\b<w.heap.size/\(∀(i:Nat) (h:i<rs.length),AtR w b (off+i*2) rs[i])/\∀r∈rs,r.ok w
def Qb.below{w w':ag}{ad:Q02}{rs:Q07}(h:Qb w ad rs)(hB:ae w w'):Qb w' ad rs:=by
 rcases h with h|⟨b,off,e,hb,hr,hk⟩
 ·exact .inl h
 exact .inr ⟨b,off,e,XJ hb hB.size,fun i hi=>(hr i hi).same fun o=>hB.cell (p:=⟨b,o,none⟩) hb,fun r hr=>(hk r hr).below hB⟩
def fD(rs:Q07):List Rl:=rs.map RR.p
def tF(rs:Q07):(fD rs).length=rs.length:=by simp[fD]
def RR.ok.set{w:ag}{r:RR}{g o:Nat}{v:Value}(h:r.ok w)(hn:r.new g):r.ok (w.setCell (ap g o) v):=by
 obtain⟨⟨gE,e1,h1⟩,h2⟩:=hn;rcases h with h|⟨b,off,e,hb,hr,hk⟩
 ·exact .inl h
 refine .inr ⟨b,off,e,by simpa using hb,fun i hi=>(hr i hi).same fun o=>zl ?_,fun q hq=>(hk q hq).set<|h2 q hq⟩;rw[e1]at e;injection e with e;injection e with e3 e4;omega
def RR.new.mono{B B':Nat}{r:RR}(h:r.new B)(hB:B'<=B):r.new B':=by
 obtain⟨⟨g,e,hg⟩,h2⟩:=h;exact⟨⟨g,e,cq⟩,fun q hq=>(h2 q hq).mono hB⟩
structure Ty where
 name:ByteArray
 rels:List Rl
abbrev Q0b:=List Ty
structure TR where
 name:ByteArray
 rows:List RR
 ad:Option Addr
 cap:Nat
abbrev cm(q:TR):Array Value:=#[.string q.name,.slice q.ad q.rows.length q.cap]
abbrev Q06:=List TR
def TR.p(r:TR):Ty:=⟨r.name,fD r.rows⟩
def TR.val(r:TR):Value:=.agg #[.string r.name,.slice r.ad r.rows.length r.cap]
def TR.ok(w:World)(r:TR):Prop:=Qb w r.ad r.rows
def TR.fits(r:TR):Prop:=r.name.size<=maxLen/\r.rows.length<=maxLen/\∀q∈r.rows,q.fits
def TR.light(r:TR):Prop:=r.rows.length<=1048576/\∀q∈r.rows,q.light
def TR.caps(r:TR):Prop:=r.rows.length<=r.cap/\∀q∈r.rows,q.caps
def TR.new(B:Nat)(r:TR):Prop:=(∃g:Nat,r.ad=some ⟨g,0,none⟩/\B<g)/\∀q∈r.rows,q.new B
def TR.ok.below{w w':ag}{r:TR}(h:r.ok w)(hB:ae w w'):r.ok w':=Qb.below h hB
def Xz(w:World)(b off:Nat)(r:TR):Prop:=w.cell? ⟨b,off,none⟩=some (.string r.name)/\w.cell? ⟨b,off+1,none⟩=some (.slice r.ad r.rows.length r.cap)
def Xz.same{w w':ag}{b off:Nat}{r:TR}(h:Xz w b off r)(hc:∀o,w'.cell? (ap b o)=w.cell? (ap b o)):Xz w' b off r:=⟨(hc _).trans h.1,(hc _).trans h.2⟩
def kI(w:World)(ad:Q02)(rs:Q06):Prop:=rs=[] \/ ∃b off,ad=some ⟨b,off,none⟩/\b<w.heap.size/\(∀(i:Nat) (h:i<rs.length),Xz w b (off+i*2) rs[i])/\∀r∈rs,r.ok w
def kI.below{w w':ag}{ad:Q02}{rs:Q06}(h:kI w ad rs)(hB:ae w w'):kI w' ad rs:=by
 rcases h with h|⟨b,off,e,hb,hr,hk⟩
 ·exact .inl h
 exact .inr ⟨b,off,e,XJ hb hB.size,fun i hi=>(hr i hi).same fun o=>hB.cell (p:=⟨b,o,none⟩) hb,fun r hr=>(hk r hr).below hB⟩
def ai(rs:Q06):List Ty:=rs.map TR.p
def mD(rs:Q06):(ai rs).length=rs.length:=by simp[ai]
def TR.ok.set{w:ag}{r:TR}{g o:Nat}{v:Value}(h:r.ok w)(hn:r.new g):r.ok (w.setCell (ap g o) v):=by
 obtain⟨⟨gE,e1,h1⟩,h2⟩:=hn;rcases h with h|⟨b,off,e,hb,hr,hk⟩
 ·exact .inl h
 refine .inr ⟨b,off,e,by simpa using hb,fun i hi=>(hr i hi).same fun o=>zl ?_,fun q hq=>(hk q hq).set<|h2 q hq⟩;rw[e1]at e;injection e with e;injection e with e3 e4;omega
def TR.new.mono{B B':Nat}{r:TR}(h:r.new B)(hB:B'<=B):r.new B':=by
 obtain⟨⟨g,e,hg⟩,h2⟩:=h;exact⟨⟨g,e,cq⟩,fun q hq=>(h2 q hq).mono hB⟩
def kJ:List Rl->ByteArray->Option (List Ex)
 | [],_=>none
 | r::rs,n=>if r.name.toList==n.toList then some r.expr else kJ rs n
def fI:List Ty->ByteArray->ByteArray->Option (List Ex)
 | [],_,_=>none
 | t::ts,ty,n=>if t.name.toList==ty.toList then (kJ t.rels n).or (fI ts ty n) else fI ts ty n
def mE:List Ty->ByteArray->Bool
 | [],_=>false
 | t::ts,ty=>(t.name.toList==ty.toList) || mE ts ty
def oW(rs:Q06)(k:Nat)(h:k<rs.length):ai (rs.drop k)=⟨rs[k].name,fD rs[k].rows⟩::ai (rs.drop<|k+1):=by
 rw[Yi h];rfl
def H9(rs:Q07)(k:Nat)(h:k<rs.length):fD (rs.drop k)=⟨rs[k].name,au rs[k].rows⟩::fD (rs.drop<|k+1):=by
 rw[Yi h];rfl
def Kg(ad:Q02)(cap:Nat)(rs:Q06)(typ:dw)(w:ag)(hlen:a7 rs)(hs:kI w ad rs):
  Calls prog 247 #[.slice ad rs.length cap,.string typ] w (bh w<|.bool<|mE (ai rs) typ):=by
 go_enter func247,ntmps247;go_wp2;go_loopw[5] (fun i wr=>∃k:Nat,k<=rs.length/\i=.int .i64 k/\O (mE (ai<|rs.drop k) typ=mE (ai rs) typ)/\wr=w) (fun i _=>rs.length-(intOf i).toNat);case atStart=>exact⟨0,XP _,rfl,rfl,rfl⟩
 obtain⟨k,hk,rfl,HP,rfl⟩:=hrel;by_cases hlt:k<rs.length
 ·rcases hs with rfl|⟨b,off,rfl,hb,hr,hok⟩
  ·simp at hlt
  obtain⟨t0,t1⟩:=hr k hlt;have hk1:=bG k;have hk2:(k:Int)<(rs.length:Int):=cq;clear hr hok;cases hq:(rs[k].name.toList==typ.toList);case true=>
   have HN:O (mE (ai rs) typ=true):=by show _=_;rw[<-HP,oW _ _ hlt];simp[mE,hq]
   go_wp2;go_ret;exact⟨by rw[HN];rfl,rfl⟩
  have Zc:O (mE (ai<|rs.drop<|k+1) typ=mE (ai rs) typ):=by show _=_;rw[<-HP,oW _ _ hlt];simp[mE,hq]
  go_wp2;go_roundw;case rel=>exact⟨k+1,cq,cx,Zc,by first|rfl|trivial⟩
  simp[intOf]<;>omega
 have HN:O (mE (ai rs) typ=false):=by show _=_;rw[<-HP,Ya cq];rfl
 go_wp2;go_ret;exact⟨by rw[HN];rfl,rfl⟩
def oZ(rs:Q06)(ad:Q02)(rows:Q08):Prop:=rows=[] \/ ∃t∈rs,∃q∈t.rows,rows=q.rows/\ad=q.ad
def Qb.mem{w:ag}{ad:Q02}{rs:Q07}(h:Qb w ad rs){q:RR}(hq:q∈rs):q.ok w:=by
 rcases h with rfl|⟨b,off,e,hb,hr,hk⟩
 ·cases hq
 exact hk q hq
def kI.mem{w:ag}{ad:Q02}{rs:Q06}(h:kI w ad rs){q:TR}(hq:q∈rs):q.ok w:=by
 rcases h with rfl|⟨b,off,e,hb,hr,hk⟩
 ·cases hq
 exact hk q hq
def oZ.sl{rs:Q06}{ad ad0:Q02}{rows:Q08}{w:ag}(h:oZ rs ad rows)(hs:kI w ad0 rs):iE w ad rows:=by
 rcases h with rfl|⟨t,ht,q,hq,rfl,rfl⟩
 ·exact .inl rfl
 exact Qb.mem (hs.mem ht) hq
def jb(ad:Q02)(cap:Nat)(rs:Q06)(typ rel:dw)(w:ag)(hlen:a7 rs)(hs:kI w ad rs)(hl:∀r∈rs,r.light):
  Calls prog 101 #[.slice ad rs.length cap,.string typ,.string rel] w fun e w'=>(∃(rows:Q08) (Y8:Q02) (cap':Nat),e=.returned (.slice Y8 rows.length cap')/\au rows=(fI (ai rs) typ rel).getD []/\iE w Y8 rows/\oZ rs Y8 rows)/\w'=w:=by
 have HS:=aK hs;have HL:=aK hl;clear hs hl;go_enter func101,ntmps101;go_wp2;go_loopw[7] (fun i wr=>∃k:Nat,k<=rs.length/\i=.int .i64 k/\O (fI (ai<|rs.drop k) typ rel=fI (ai rs) typ rel)/\wr=w) (fun i _=>rs.length-(intOf i).toNat);case atStart=>exact⟨0,XP _,rfl,rfl,rfl⟩
 obtain⟨k,hk,rfl,HP,rfl⟩:=hrel;by_cases hlt:k<rs.length
 ·rcases HS.out with rfl|⟨b,off,rfl,hb,hr,hok⟩
  ·simp at hlt
  obtain⟨t0,t1⟩:=hr k hlt;have ok:=hok rs[k]<|XI hlt;have lg:=(HL rs[k]<|XI hlt).1;have HOK:=aK ok;have hk1:=bG k;have hk2:(k:Int)<(rs.length:Int):=cq;clear hr hok ok;cases hq:(rs[k].name.toList==typ.toList);case false=>
   have Zc:O (fI (ai<|rs.drop<|k+1) typ rel=fI (ai rs) typ rel):=by show _=_;rw[<-HP,oW _ _ hlt];simp[fI,hq]
   go_wp2_with fail;go_loopw[8] (fun i w2=>i=.int .i64 0/\w2=wr) (fun i _=>(intOf i).toNat);case atStart=>exact⟨rfl,rfl⟩
   obtain⟨rfl,rfl⟩:=hrel;go_wp2;go_roundw;case rel=>exact⟨k+1,cq,cx,Zc,by first|rfl|trivial⟩
   simp[intOf]<;>omega
  go_wp2_with fail;go_loopw[8] (fun i w2=>∃j:Nat,j<=rs[k].rows.length/\i=.int .i64 j/\O (kJ (fD<|rs[k].rows.drop j) rel=kJ (fD rs[k].rows) rel)/\w2=wr) (fun i _=>rs[k].rows.length-(intOf i).toNat);case atStart=>exact⟨0,XP _,rfl,rfl,rfl⟩
  obtain⟨j,hj,rfl,HI,rfl⟩:=hrel;by_cases hjl:j<rs[k].rows.length
  ·rcases HOK.out with hnil|⟨b2,ZR,had,hb2,hr2,hok2⟩
   ·rw[hnil]at hjl;simp at hjl
   have t1':=t1;rw[had]at t1';obtain⟨q0,q1⟩:=hr2 j hjl;have HOQ:O (rs[k].rows[j].ok _):=hok2 rs[k].rows[j]<|XI hjl;have hj1:=bG j;have hj2:(j:Int)<(rs[k].rows.length:Int):=cq;clear hr2 hok2 had t1;cases hn:(rs[k].rows[j].name.toList==rel.toList);case true=>
    have HN:O (au rs[k].rows[j].rows=(fI (ai rs) typ rel).getD []):=by
     have h1:kJ (fD rs[k].rows) rel=some (au rs[k].rows[j].rows):=by rw[<-HI,H9 _ _ hjl];simp[kJ,hn]
     show _=_;rw[<-HP,oW _ _ hlt];simp[fI,hq,h1]
    have HFS:O (oZ rs rs[k].rows[j].ad rs[k].rows[j].rows):=.inr ⟨rs[k],XI hlt,rs[k].rows[j],XI hjl,rfl,rfl⟩;go_wp2;go_ret;exact⟨⟨rs[k].rows[j].rows,_,_,rfl,HN,HOQ,HFS⟩,rfl⟩
   have HI2:O (kJ (fD<|rs[k].rows.drop<|j+1) rel=kJ (fD rs[k].rows) rel):=by show _=_;rw[<-HI,H9 _ _ hjl];simp[kJ,hn]
   go_wp2;go_roundw;case rel=>exact⟨j+1,cq,cx,HI2,by first|rfl|trivial⟩
   simp[intOf]<;>omega
  have Zc:O (fI (ai<|rs.drop<|k+1) typ rel=fI (ai rs) typ rel):=by
   have h1:kJ (fD rs[k].rows) rel=none:=by rw[<-HI,Ya cq];rfl
   show _=_;rw[<-HP,oW _ _ hlt];simp[fI,hq,h1]
  go_wp2;go_roundw;case rel=>exact⟨k+1,cq,cx,Zc,by first|rfl|trivial⟩
  simp[intOf]<;>omega
 have HN:O (au []=(fI (ai rs) typ rel).getD []):=by show _=_;rw[<-HP,Ya cq];rfl
 go_wp2;go_ret;exact⟨⟨[],none,0,rfl,HN,.inl rfl,.inl rfl⟩,rfl⟩
def bn:List Ex->List Al
 | []=>[]
 | e::es=>if e.kind=1 then e.allow else bn es
def il(rs:Q08)(k:Nat)(h:k<rs.length):au (rs.drop k)=rs[k].e::au (rs.drop<|k+1):=by
 rw[Yi h];rfl
def Qc(rs:Q08)(ad:Q02)(xs:Q0a):Prop:=xs=[] \/ ∃r∈rs,xs=r.e.allow/\ad=r.adA
def iE.mem{w:ag}{ad:Q02}{rs:Q08}(h:iE w ad rs){q:ER}(hq:q∈rs):q.ok w:=by
 rcases h with rfl|⟨b,off,e,hb,hr,hk⟩
 ·cases hq
 exact hk q hq
def Qc.sl{rs:Q08}{ad ad0:Q02}{xs:Q0a}{w:ag}(h:Qc rs ad xs)(hs:iE w ad0 rs):mJ w ad xs:=by
 rcases h with rfl|⟨r,hr,rfl,rfl⟩
 ·exact .inl rfl
 exact(hs.mem hr).1
def zm(ad:Q02)(cap:Nat)(rs:Q08)(w:ag)(hlen:a7 rs)(hs:iE w ad rs):
  Calls prog 176 #[.slice ad rs.length cap] w fun e w'=>(∃(Y8:Q02) (cap':Nat),e=.returned (.slice Y8 (bn<|au rs).length cap')/\mJ w Y8 (bn<|au rs)/\Qc rs Y8 (bn<|au rs))/\w'=w:=by
 have HS:=aK hs;clear hs;go_enter func176,ntmps176;go_wp2;go_loopw[3] (fun i wr=>∃k:Nat,k<=rs.length/\i=.int .i64 k/\O (bn (au<|rs.drop k)=bn (au rs))/\wr=w) (fun i _=>rs.length-(intOf i).toNat);case atStart=>exact⟨0,XP _,rfl,rfl,rfl⟩
 obtain⟨k,hk,rfl,HP,rfl⟩:=hrel;by_cases hlt:k<rs.length
 ·rcases HS.out with rfl|⟨b,off,rfl,hb,hr,hok⟩
  ·simp at hlt
  obtain⟨t0,t1,t2,t3,t4⟩:=hr k hlt;have HOK:O (rs[k].ok _):=hok rs[k]<|XI hlt;have hk1:=bG k;have hk2:(k:Int)<(rs.length:Int):=cq;clear hr hok;by_cases hq:rs[k].e.kind=1
  ·have HN:O (bn (au rs)=rs[k].e.allow):=by show _=_;rw[<-HP,il _ _ hlt];simp[bn,hq]
   go_wp2;go_ret;exact⟨⟨rs[k].adA,rs[k].capA,by rw[HN];rfl,by rw[HN];exact HOK.1,.inr ⟨rs[k],XI hlt,HN,rfl⟩⟩,rfl⟩
  have Zc:O (bn (au<|rs.drop<|k+1)=bn (au rs)):=by show _=_;rw[<-HP,il _ _ hlt];simp[bn,hq]
  have hqb:(rs[k].e.kind==1)=false:=by simpa using hq
  go_wp2;go_roundw;case rel=>exact⟨k+1,cq,cx,Zc,by first|rfl|trivial⟩
  simp[intOf]<;>omega
 have HN:O (bn (au rs)=[]):=by show _=_;rw[<-HP,Ya cq];rfl
 go_wp2;go_ret;exact⟨⟨none,0,by rw[HN];rfl,by rw[HN];exact .inl rfl,.inl HN⟩,rfl⟩
def bQ:List Ex->Bool
 | [e]=>decide (e.kind=1)&&e.allow.all fun a=>a.s.toList.isEmpty
 | _=>false
def A9(xs:Q0a)(k:Nat):Bool:=(xs.take k).all fun a=>a.s.toList.isEmpty
def Kh(xs:Q0a)(k:Nat)(h:k<xs.length):A9 xs (k+1)=(A9 xs k&&xs[k].s.toList.isEmpty):=by
 unfold A9;rw[XM h,YQ];simp
def NH(xs:Q0a)(k:Nat)(h:k<xs.length)(hb:xs[k].s.toList.isEmpty=false):(xs.all fun a=>a.s.toList.isEmpty)=false:=by
 rw[Bool.eq_false_iff];intro h2;rw[XY]at h2;have:=h2 xs[k]<|XI h;rw[hb]at this;cases this
def Ga(ad:Q02)(cap:Nat)(rs:Q08)(w:ag)(hlen:a7 rs)(hs:iE w ad rs)(hl:∀r∈rs,r.e.light):
  Calls prog 248 #[.slice ad rs.length cap] w (bh w<|.bool<|bQ<|au rs):=by
 by_cases h1:rs.length=1
 ·obtain⟨r,rfl⟩:∃r,rs=[r]:=List.length_eq_one_iff.1 h1;rcases hs with h|⟨b,off,rfl,hb,hr,hok⟩
  ·cases h
  obtain⟨t0,t1,t2,t3,t4⟩:=hr 0 ct;simp only[Nat.zero_mul,Nat.add_zero,List.getElem_cons_zero]at t0 t1 t2 t3 t4;have HOK:O (r.ok w):=hok r ct;obtain⟨lg,-⟩:=hl r ct;clear hr hok h1;simp only[Yh,YO,Yg];by_cases hq:r.e.kind=1
  ·have HD:O (bQ (au [r])=r.e.allow.all fun a=>a.s.toList.isEmpty):=by show _=_;simp[bQ,au,hq]
   go_enter func248,ntmps248;go_wp2;go_loopw[3] (fun i wr=>∃k:Nat,k<=r.e.allow.length/\i=.int .i64 k/\O (A9 r.e.allow k=true)/\wr=w) (fun i _=>r.e.allow.length-(intOf i).toNat);case atStart=>exact⟨0,XP _,rfl,(by show _=_;simp[A9]),rfl⟩
   obtain⟨k,hk,rfl,HP,rfl⟩:=hrel;by_cases hlt:k<r.e.allow.length
   ·rcases HOK.out.1 with hnil|⟨ba,offa,hadA,hba,hra⟩
    ·rw[hnil]at hlt;simp at hlt
    have t1':=t1;rw[hadA]at t1';obtain⟨q0,q1⟩:=hra k hlt;have hk1:=bG k;have hk2:(k:Int)<(r.e.allow.length:Int):=cq;clear hra hadA t1;cases he:r.e.allow[k].s.toList.isEmpty;case true=>
     have Zc:O (A9 r.e.allow (k+1)=true):=by show _=_;rw[Kh _ _ hlt,HP,he];rfl
     go_wp2;go_roundw;case rel=>exact⟨k+1,cq,cx,Zc,by first|rfl|trivial⟩
     simp[intOf]<;>omega
    have HN:O (bQ (au [r])=false):=by show _=_;rw[HD];exact NH _ k hlt he
    go_wp2;go_ret;exact⟨by rw[HN];rfl,rfl⟩
   have HN:O (bQ (au [r])=true):=by
    show _=_;rw[HD];have:=HP.out;unfold A9 at this;rwa [Yj cq]at this
   go_wp2;go_ret;exact⟨by rw[HN];rfl,rfl⟩
  have HN:O (bQ (au [r])=false):=by show _=_;simp[bQ,au,hq]
  have hqb:(r.e.kind != 1)=true:=by simpa using hq
  go_enter func248,ntmps248;go_wp2;go_ret;exact⟨by rw[HN];rfl,rfl⟩
 have HN:O (bQ (au rs)=false):=by
  show _=_
  match rs,h1 with
  | [],_=>rfl
  | [r],h=>exact absurd rfl h
  | a::b::r,_=>rfl
 have h1':((rs.length:Int) != 1)=true:=by simp;omega
 go_enter func248,ntmps248;go_wp2;go_ret;exact⟨by rw[HN];rfl,rfl⟩
def aH(ts:Q0b)(ty n:ByteArray):List Ex:=(fI ts ty n).getD []
def gl(ts:Q0b)(rel:ByteArray):List Al->List ByteArray
 | []=>[]
 | a::xs=>if (aH ts a.t rel).isEmpty then gl ts rel xs else a.t::gl ts rel xs
def iL(ts:Q0b)(ty over rel:ByteArray):List ByteArray:=gl ts rel<|bn<|aH ts ty over
def Eo(ts:Q0b)(rel:dw)(xs ys:Q0a):gl ts rel (xs++ys)=gl ts rel xs++gl ts rel ys:=by
 induction xs with
 | nil=>rfl
 | cons a xs ih=>simp only[Yz,gl,ih];split<;>simp
def Vi(ts:Q0b)(rel:dw)(xs:Q0a)(k:Nat)(h:k<xs.length)(he:aH ts xs[k].t rel=[]):gl ts rel (xs.take<|k+1)=gl ts rel (xs.take k):=by
 rw[XM h,Eo];simp[gl,he]
def Qd(ts:Q0b)(rel:dw)(xs:Q0a)(k:Nat)(h:k<xs.length)(he:aH ts xs[k].t rel≠[]):gl ts rel (xs.take<|k+1)=gl ts rel (xs.take k)++[xs[k].t]:=by
 rw[XM h,Eo];simp[gl,he]
def Ki(ts:Q0b)(rel:dw)(xs:Q0a):(gl ts rel xs).length<=xs.length:=by
 induction xs with
 | nil=>simp[gl]
 | cons a xs ih=>simp only[gl];split<;>simp<;>omega
def NI:(prog.info? 9).map (fun i=>(i.zero,i.size,i.bytes))=some (some<|.string ⟨#[]⟩,1,16):=cw
def rC(xs:List ByteArray):List Value:=xs.map Value.string
def VC(w:World)(ad:Q02)(xs:List ByteArray):Prop:=xs=[] \/ ∃b off,ad=some ⟨b,off,none⟩/\b<w.heap.size/\∀(i:Nat) (h:i<xs.length),w.cell? ⟨b,off+i,none⟩=some (.string xs[i])
def VC.below{w w':ag}{ad:Q02}{xs:List ByteArray}(h:VC w ad xs)(hB:ae w w'):VC w' ad xs:=by
 rcases h with h|⟨b,off,e,hb,hr⟩
 ·exact .inl h
 exact .inr ⟨b,off,e,XJ hb hB.size,fun i hi=>(hB.cell (p:=⟨b,off+i,none⟩) hb).trans<|hr i hi⟩
def Qe{w:ag}{base k:Nat}{v:Value}{xs:List ByteArray}(h:w.ownsRow base 9 1 v k<|rC xs):∃ad cp,v=.slice ad xs.length cp/\VC w ad xs/\∀p,ad=some p->base<=p.block:=by
 have hl:xs.length=k:=by have:=h.1;simpa[rC] using this
 have h2:=h;rcases h.2 with⟨rfl,h0⟩|⟨g,cp,cur,rfl,hbg,hg,hnc,-⟩
 ·refine⟨none,0,?_,.inl<|X0.1 cq,fun p hp=>by cases hp⟩;rw[hl,h0]
 have hlt:=h2.lt g rfl;refine⟨_,cp,by rw[hl],.inr ⟨g,0,rfl,hlt.2,fun j hj=>?_⟩,fun p hp=>by injection hp with hp;rw[<-hp];exact hlt.1⟩;have:=h2.cells (g:=g) rfl j (.string xs[j]) (by simp[rC,hj]);rw[Yg];have e:(⟨g,0,none⟩:Addr).add j=⟨g,j,none⟩:=by
  unfold Addr.add;by_cases hj:j=0
  ·subst hj;simp
  simp[hj]
 rwa [e]at this
def oZ.light{rs:Q06}{ad:Q02}{rows:Q08}(h:oZ rs ad rows)(hl:∀r∈rs,r.light):rows.length<=1048576/\∀q∈rows,q.e.light:=by
 rcases h with rfl|⟨t,ht,q,hq,rfl,-⟩
 ·exact⟨ct,ct⟩
 exact(hl t ht).2 q hq
def Ba(rows:Q08)(hl:∀q∈rows,q.e.light):(bn<|au rows).length<=1048576:=by
 induction rows with
 | nil=>simp[au,bn]
 | cons r rows ih =>
  have e:au (r::rows)=r.e::au rows:=rfl;rw[e];simp only[bn];split
  ·exact(hl r ct).1
  exact ih fun q hq=>hl q (by simp[hq])
set_option maxRecDepth 100000 in
def zn(ad:Q02)(cap:Nat)(rs:Q06)(typ over rel:dw)(w:ag)(hlen:a7 rs)(hs:kI w ad rs)(hl:∀r∈rs,r.light):
  Calls prog 103 #[.slice ad rs.length cap,.string typ,.string over,.string rel] w fun e w'=>(∃(Y8:Q02) (cap':Nat),e=.returned (.slice Y8 (iL (ai rs) typ over rel).length cap')/\VC w' Y8 (iL (ai rs) typ over rel)/\∀p,Y8=some p->w.heap.size<=p.block)/\ae w w':=by
 have HS:=aK hs;have HL:=aK hl;clear hs hl;obtain⟨i0,hi,hz0,hz1,hz2⟩:=info_parts NI;go_enter func103,ntmps103;go_wp2_with fail;have hbA:ae w (w.alloc<|.cells #[] 9):=(XL _ _).alloc (XK _) _;have hown1:(w.alloc<|.cells #[] 9).ownsRow w.heap.size 9 1 (.slice (some<|aE w) 0 0) 0 []:=World.ownsRow_made w #[] 0 (XK _) cv rfl;refine(jb ad cap rs typ over _ hlen (HS.below hbA) HL).mono ?_;rintro e w1 ⟨⟨rows,ad1,cap1,rfl,hx1,hs1,hf1⟩,rfl⟩;have hl1:=hf1.light HL;have hal:=Ba rows hl1.2;go_wp2_with fail;refine(zm ad1 cap1 rows _ hl1.1 hs1).mono ?_;rintro e w1 ⟨⟨ad2,cap2,rfl,-,hf2⟩,rfl⟩;have HG:O (iL (ai rs) typ over rel=gl (ai rs) rel (bn<|au rows)):=by show _=_;rw[hx1];rfl
 have HA:O (mJ w ad2<|bn<|au rows):=hf2.sl<|hf1.sl HS;generalize bn (au rows)=xs at *
 clear hs1 hx1 hf1 hl1 hf2;have HBA:=aK hbA;have Zj:=aK hown1;clear hbA hown1;obtain⟨wA,hwA⟩:=eQx<|w.alloc<|.cells #[] 9;rw[<-hwA]at HBA Zj ⊢;clear hwA;go_wp2_with fail;go_loopw[9,11] (fun v i wr=>∃k:Nat,k<=xs.length/\i=.int .i64 k/\bj w wr 9 1 v (gl (ai rs) rel<|xs.take k).length (rC<|gl (ai rs) rel<|xs.take k)/\ae w wr) (fun _ i _=>xs.length-(intOf i).toNat);case atStart=>exact⟨0,XP _,rfl,by simpa[rC,gl] using Zj.out,HBA⟩
 obtain⟨k,hk,rfl,hown,hB⟩:=hrel;by_cases hlt:k<xs.length
 ·have HST:O (kI _ ad rs):=HS.below hB;rcases HA.out.below hB with rfl|⟨b,off,rfl,hb,hr⟩
  ·simp at hlt
  obtain⟨t0,t1⟩:=hr k hlt;have hBs:=hB.size;have hgl:=Ki (ai rs) rel<|xs.take k;rw[Yc]at hgl;have HBH:=aK hB;have HOW:O (bj w wr 9 1 _ _ _):=hown;clear hr hB hown;go_wp2_with fail;refine(jb ad cap rs xs[k].t rel _ hlen HST HL).mono ?_;rintro e w1 ⟨⟨rows2,ad3,cap3,rfl,hx3,-,-⟩,rfl⟩;by_cases hz:rows2.length=0
  ·have HE:O (gl (ai rs) rel (xs.take<|k+1)=gl (ai rs) rel (xs.take k)):=by
    refine Vi _ _ _ _ hlt ?_;show _=_;unfold aH;rw[<-hx3,X0.1 hz];rfl
   rw[hz];clear hx3;go_wp2;go_roundw;case rel=>exact⟨k+1,cq,cx,by rw[HE];exact HOW,HBH⟩
   simp[intOf]<;>omega
  have HX:O (gl (ai rs) rel (xs.take<|k+1)=gl (ai rs) rel (xs.take k)++[xs[k].t]):=by
   refine Qd _ _ _ _ hlt ?_;show ¬_=_;unfold aH;rw[<-hx3];intro h2;apply hz;rw[<-aX,h2];rfl
  have hzz:(0:Int)<(rows2.length:Int):=cq;clear hx3;go_wp2_with(at_builtin;refine wpList_append_own _ rfl _ _ 143 rfl w.heap.size 9 i0 (.string ⟨#[]⟩) 1 16 underlying143 hi hz0 hz1 hz2 rfl cv _ _ _ rfl (HOW.alloc _) ⟨w1.heap.size,0,none⟩ 1 1 [.string xs[k].t] rfl rfl (cell_one_new _ _ _) (by intro u hu;simp at hu;subst hu;rfl) cy cq (by simp;omega) ?_);intro v' w3 hown3 hgrow _;have hb3:ae w w3:=(HBH.alloc HBH.size _).grown hgrow (by simp;omega) (fun i hi=>(HOW.lt i hi).1);have Zq:O (bj w w3 9 1 v' (gl (ai rs) rel<|xs.take<|k+1).length<|rC<|gl (ai rs) rel<|xs.take<|k+1):=by
   show World.ownsRow _ _ _ _ _ _ _;rw[HX];simpa[rC] using hown3
  clear hown3 hgrow HOW;go_wp2;go_roundw;case rel=>exact⟨k+1,cq,cx,Zq,hb3⟩
  simp[intOf]<;>omega
 obtain rfl:k=xs.length:=cq;have HE:O (xs.take xs.length=xs):=by show _=_;rw[X8]
 rw[HE,<-HG]at hown;obtain⟨Y8,cp,rfl,hsl,hnew⟩:=Qe hown;have HNW:O (∀p,Y8=some p->w.heap.size<=p.block):=hnew;have HSL:O (VC _ Y8<|iL (ai rs) typ over rel):=hsl;have HBH:O (ae w _):=hB;clear hsl hB hown hnew;go_wp2;go_ret;exact⟨⟨Y8,cp,rfl,HSL,HNW⟩,HBH⟩
def qX(ts:Q0b)(a:Al):Bool:=mE ts a.t&&(a.s.toList.isEmpty || !(aH ts a.t a.s).isEmpty)
def p8(ts:Q0b)(xs:Q0a):Bool:=xs.all<|qX ts
def mF(ts:Q0b)(typ:ByteArray)(e:Ex):Bool :=
 if e.kind=2 then !(aH ts typ e.name).isEmpty
 else if e.kind=3 then bQ (aH ts typ e.over) && !(iL ts typ e.over e.name).isEmpty
 else true
def bi(ts:Q0b)(typ:ByteArray):List Ex->Bool
 | []=>true
 | e::es=>if p8 ts e.allow&&mF ts typ e then bi ts typ es else false
def o6(ts:Q0b)(xs:Q0a)(k:Nat):Bool:=p8 ts<|xs.take k
def Bb(ts:Q0b)(xs:Q0a):o6 ts xs 0=true:=by simp[o6,p8]
def p9(ts:Q0b)(xs:Q0a)(k:Nat)(h:k<xs.length):o6 ts xs (k+1)=(o6 ts xs k&&qX ts xs[k]):=by
 unfold o6 p8;rw[XM h,YQ];simp
def wB(ts:Q0b)(xs:Q0a)(k:Nat)(h:k<xs.length)(hb:qX ts xs[k]=false):p8 ts xs=false:=by
 unfold p8;rw[Bool.eq_false_iff];intro h2;rw[XY]at h2;have:=h2 xs[k]<|XI h;rw[hb]at this;cases this
def aM{w w':ag}{g o:Nat}{v:Value}(hB:ae w w')(hg:cW g w)(h:w.cell? (ap g o)=some v):w'.cell? (ap g o)=some v:=(hB.cell (p:=⟨g,o,none⟩) hg).trans h
set_option maxRecDepth 8000 in
def Kj(ad YY:Q02)(cap capE:Nat)(rs:Q06)(typ:dw)(rows:Q08)(w:ag)(hlen:a7 rs)(hs:kI w ad rs)(hl:∀r∈rs,r.light)(hle:a7 rows)(hse:iE w YY rows)(hlE:∀q∈rows,q.e.light):
  Calls prog 175 #[.slice ad rs.length cap,.string typ,.slice YY rows.length capE] w (a8 w<|.bool<|bi (ai rs) typ<|au rows):=by
 have HS:=aK hs;have HL:=aK hl;have HE:=aK hse;have ZH:=aK hlE;clear hs hl hse hlE;go_enter func175,ntmps175;go_wp2_with fail;go_loopw[7] (fun i wr=>∃k:Nat,k<=rows.length/\i=.int .i64 k/\O (bi (ai rs) typ (au<|rows.drop k)=bi (ai rs) typ (au rows))/\O (ae w wr)) (fun i _=>rows.length-(intOf i).toNat);case atStart=>exact⟨0,XP _,rfl,rfl,XL _ _⟩
 obtain⟨k,hk,rfl,HP,HB⟩:=hrel;by_cases hlt:k<rows.length
 ·have HS1:O (kI _ ad rs):=HS.below HB;rcases HE.out.below HB.out with rfl|⟨b,off,rfl,hb,hr,hok⟩
  ·simp at hlt
  obtain⟨t0,t1,t2,t3,t4⟩:=hr k hlt;have HOK:O (rows[k].ok wr):=hok rows[k]<|XI hlt;have lg:=(ZH rows[k]<|XI hlt).1;have hk1:=bG k;have hk2:(k:Int)<(rows.length:Int):=cq;clear hr hok;obtain⟨W1,hW1⟩:=eQx<|wr.alloc<|.cells (cU rows[k]) 43;have hal:ae wr W1:=by rw[hW1];exact(XL _ _).alloc (XK _) _
  have Zl:=aK hal;have Y9:=jr HB hal;have hgl:wr.heap.size<W1.heap.size:=by rw[hW1];simp
  have g0:W1.cell? (aE wr)=some (.int .i64 rows[k].e.kind):=by rw[hW1];simp
  have g1:W1.cell? (a6 wr 1)=some (.slice rows[k].adA rows[k].e.allow.length rows[k].capA):=by rw[hW1];simp
  have g2:W1.cell? (a6 wr 2)=some (.string rows[k].e.over):=by rw[hW1];simp
  have g3:W1.cell? (a6 wr 3)=some (.string rows[k].e.name):=by rw[hW1];simp
  clear hal;go_wp2_with fail;rw[<-hW1];clear hW1;go_loopw[9] (fun i w2=>∃j:Nat,j<=rows[k].e.allow.length/\i=.int .i64 j/\O (o6 (ai rs) rows[k].e.allow j=true)/\O (ae W1 w2)) (fun i _=>rows[k].e.allow.length-(intOf i).toNat);case atStart=>exact⟨0,XP _,rfl,Bb _ _,XL _ _⟩
  obtain⟨j,hj,rfl,HJ,HB2⟩:=hrel;have d0:=aM HB2 hgl g0;have d1:=aM HB2 hgl g1;have d2:=aM HB2 hgl g2;have d3:=aM HB2 hgl g3;clear g0 g1 g2 g3 t0 t1 t2 t3 t4;have HBO:O (ae w _):=Y9.trans<|HB2.mono Y9.size;have HS2:O (kI _ ad rs):=HS.below HBO;by_cases hjl:j<rows[k].e.allow.length
  ·have hA2:mJ _ rows[k].adA rows[k].e.allow:=((HOK.1).below Zl).below HB2;rcases hA2 with hnil|⟨ba,offa,hadA,hba,hra⟩
   ·rw[hnil]at hjl;simp at hjl
   rw[hadA]at d1;obtain⟨q0,q1⟩:=hra j hjl;have hj1:=bG j;have hj2:(j:Int)<(rows[k].e.allow.length:Int):=cq;clear hra hadA;go_wp2_with fail;refine(Kg ad cap rs _ _ hlen<|HS2.below<|(XL _ _).alloc (XK _) _).mono ?_;rintro e w3 ⟨rfl,rfl⟩;cases hty:mE (ai rs) rows[k].e.allow[j].t;case false=>
    have HN:O (bi (ai rs) typ (au rows)=false):=by
     show _=_;rw[<-HP,il _ _ hlt];simp[bi,wB (ai rs) _ j hjl<|by simp[qX,hty]]
    go_wp2;go_ret;exact⟨by rw[HN];rfl,HBO.alloc HBO.size _⟩
   cases he:rows[k].e.allow[j].s.toList.isEmpty;case true=>
    have HJ2:O (o6 (ai rs) rows[k].e.allow (j+1)=true):=by show _=_;rw[p9 _ _ _ hjl,HJ];simp[qX,hty,he]
    go_wp2;go_roundw;case rel=>exact⟨j+1,cq,cx,HJ2,HB2.alloc HB2.size _⟩
    simp[intOf]<;>omega
   go_wp2_with fail;refine(jb ad cap rs _ _ _ hlen (HS2.below<|(XL _ _).alloc (XK _) _) HL).mono ?_;rintro e w3 ⟨⟨rows2,ad3,cap3,rfl,hx3,-,-⟩,rfl⟩;by_cases hz:rows2.length=0
   ·have HN:O (bi (ai rs) typ (au rows)=false):=by
     have h1:aH (ai rs) rows[k].e.allow[j].t rows[k].e.allow[j].s=[]:=by unfold aH;rw[<-hx3,X0.1 hz];rfl
     show _=_;rw[<-HP,il _ _ hlt];simp[bi,wB (ai rs) _ j hjl<|by simp[qX,he,h1]]
    rw[hz];clear hx3;go_wp2;go_ret;exact⟨by rw[HN];rfl,HBO.alloc HBO.size _⟩
   have HJ2:O (o6 (ai rs) rows[k].e.allow (j+1)=true):=by
    have h1:aH (ai rs) rows[k].e.allow[j].t rows[k].e.allow[j].s≠[]:=by
     unfold aH;rw[<-hx3];intro h2;apply hz;rw[<-aX,h2];rfl
    show _=_;rw[p9 _ _ _ hjl,HJ];simp[qX,hty,h1]
   have hzb:((rows2.length:Int)==0)=false:=by simp;intro h;apply hz;rw[h];rfl
   clear hx3;go_wp2;go_roundw;case rel=>exact⟨j+1,cq,cx,HJ2,HB2.alloc HB2.size _⟩
   simp[intOf]<;>omega
  have HRA:O (p8 (ai rs) rows[k].e.allow=true):=by
   have:=HJ.out;unfold o6 at this;rwa [Yj cq]at this
  by_cases h2:rows[k].e.kind=2
  ·go_wp2_with fail;refine(jb ad cap rs _ _ _ hlen HS2 HL).mono ?_;rintro e w3 ⟨⟨rows2,ad3,cap3,rfl,hx3,-,-⟩,rfl⟩;by_cases hz:rows2.length=0
   ·have HN:O (bi (ai rs) typ (au rows)=false):=by
     have h1:aH (ai rs) typ rows[k].e.name=[]:=by unfold aH;rw[<-hx3,X0.1 hz];rfl
     show _=_;rw[<-HP,il _ _ hlt];simp[bi,mF,h2,h1]
    rw[hz];clear hx3;go_wp2;go_ret;exact⟨by rw[HN];rfl,HBO⟩
   have Zc:O (bi (ai rs) typ (au<|rows.drop<|k+1)=bi (ai rs) typ (au rows)):=by
    have h1:aH (ai rs) typ rows[k].e.name≠[]:=by
     unfold aH;rw[<-hx3];intro h2;apply hz;rw[<-aX,h2];rfl
    show _=_;rw[<-HP,il _ _ hlt];simp[bi,mF,h2,h1,HRA.out]
   have hzb:((rows2.length:Int)==0)=false:=by simp;intro h;apply hz;rw[h];rfl
   clear hx3;go_wp2;go_roundw;case rel=>exact⟨k+1,cq,cx,Zc,HBO⟩
   simp[intOf]<;>omega
  by_cases h3:rows[k].e.kind=3
  ·go_wp2_with fail;refine(jb ad cap rs _ _ _ hlen HS2 HL).mono ?_;rintro e w3 ⟨⟨rows2,ad3,cap3,rfl,hx3,hs3,hf3⟩,rfl⟩;have hl3:=hf3.light HL;go_wp2_with fail;refine(Ga ad3 cap3 rows2 _ hl3.1 hs3 hl3.2).mono ?_;rintro e w3 ⟨rfl,rfl⟩;have HX:O (au rows2=aH (ai rs) typ rows[k].e.over):=hx3;clear hx3 hs3 hf3 hl3;rw[HX];cases hd:bQ (aH (ai rs) typ rows[k].e.over);case false=>
    have HN:O (bi (ai rs) typ (au rows)=false):=by
     show _=_;rw[<-HP,il _ _ hlt];simp[bi,mF,h3,hd]
    go_wp2;go_ret;exact⟨by rw[HN];rfl,HBO⟩
   go_wp2_with fail;refine(zn ad cap rs _ _ _ _ hlen HS2 HL).mono ?_;rintro e w4 ⟨⟨ad4,cap4,rfl,-⟩,hb4⟩;have Z7:=jr HBO hb4;clear hb4;by_cases hz:(iL (ai rs) typ rows[k].e.over rows[k].e.name).length=0
   ·have HN:O (bi (ai rs) typ (au rows)=false):=by
     show _=_;rw[<-HP,il _ _ hlt];simp[bi,mF,h3,X0.1 hz]
    rw[hz];go_wp2;go_ret;exact⟨by rw[HN];rfl,Z7⟩
   have Zc:O (bi (ai rs) typ (au<|rows.drop<|k+1)=bi (ai rs) typ (au rows)):=by
    have h1:iL (ai rs) typ rows[k].e.over rows[k].e.name≠[]:=by intro h;apply hz;rw[h];rfl
    show _=_;rw[<-HP,il _ _ hlt];simp[bi,mF,h3,h1,hd,HRA.out]
   have hzb:(((iL (ai rs) typ rows[k].e.over rows[k].e.name).length:Int)==0)=false:=by simp;intro h;apply hz;rw[h];rfl
   go_wp2;go_roundw;case rel=>exact⟨k+1,cq,cx,Zc,Z7⟩
   simp[intOf]<;>omega
  have Zc:O (bi (ai rs) typ (au<|rows.drop<|k+1)=bi (ai rs) typ (au rows)):=by
   show _=_;rw[<-HP,il _ _ hlt];simp[bi,mF,h2,h3,HRA.out]
  have hb2:(rows[k].e.kind==2)=false:=by simpa using h2
  have hb3:(rows[k].e.kind==3)=false:=by simpa using h3
  go_wp2;go_roundw;case rel=>exact⟨k+1,cq,cx,Zc,HBO⟩
  simp[intOf]<;>omega
 have HN:O (bi (ai rs) typ (au rows)=true):=by show _=_;rw[<-HP,Ya cq];rfl
 go_wp2;go_ret;exact⟨by rw[HN];rfl,HB⟩
end Go.Proofs.YtojjoblnpldniaaGreat
