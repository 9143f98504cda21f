/- Plain functions on bytes that the contracts of this seat's texts are stated by: which names and ids are right. Nothing of the program is read here. -/
import Derived.Test.YtajkkeikihhejaaGreatSq
import Derived.WalkKit
import Derived.Test.YtajkkeikihhejaaGreatRows
import Derived.WalkLawsBesides
import Derived.ProofKit
open Go.Proofs.Tryz
namespace Go.Proofs.YtajkkeikihhejaaGreat.Pl
def fu(c:UInt8):Bool:=decide (97<=c.toNat)&&decide (c.toNat<=122)
def yZ(c:UInt8):Bool:=fu c || (decide (48<=c.toNat)&&decide (c.toNat<=57)) || decide (c.toNat=95)
def nI(s:ByteArray):Bool:=decide (1<=s.size)&&decide (s.size<=12)
def sD(p:UInt8->Bool)(s:ByteArray):Bool:=s.data.toList.all p
def dP(p:UInt8->Bool)(s:ByteArray):Bool:=nI s&&sD p s
def za(s:ByteArray):Bool:=!(s.toList==[116,104,105,115])
def aT(s:ByteArray):Bool:=dP fu s&&za s
def pQ(s:ByteArray):Bool:=dP yZ s
theorem ah{a b:Bool}(h:a=b):Ending.returned (.bool a)=.returned (.bool b):=by rw[h]
theorem Cz(s:bQ)(k:Nat)(h:k<s.size):s.data.toList.take (k+1)=s.data.toList.take k++[s[k]]:=by
 rw[UX (by simpa using h)];rfl
def IB(p:UInt8->Bool)(s:ByteArray)(k:Nat):Bool:=(s.data.toList.take k).all p
theorem uG(p:UInt8->Bool)(s:bQ):IB p s 0=true:=by simp[IB]
theorem uH(p:UInt8->Bool)(s:bQ)(k:Nat)(h:k<s.size):IB p s (k+1)=(IB p s k&&p s[k]):=by
 unfold IB;rw[Cz s k h];simp
theorem zb(p:UInt8->Bool)(s:bQ)(k:Nat)(h:s.size<=k):IB p s k=sD p s:=by
 unfold IB sD;rw[Vs (by simpa using h)]
theorem ze(p:UInt8->Bool)(s:bQ)(k:Nat)(h:k<s.size)(hb:p s[k]=false):sD p s=false:=by
 unfold sD;rw[List.all_eq_false];exact⟨s[k],by simp[ByteArray.getElem_eq_getElem_data],by simp[hb]⟩
def fw(t i:ByteArray):Bool:=aT t&&pQ i
end Go.Proofs.YtajkkeikihhejaaGreat.Pl
namespace Go.Proofs.YtajkkeikihhejaaGreat
open ChangeShapes WideShapes ChangeAt RowKit
open Pl
theorem lm(c:UInt8)(w:af):
  Calls prog 210 #[.int .u8 c.toNat] w fun e w'=>e=.returned (.bool (fu c))/\w'=w:=by
 go_enter func210,ntmps210;go_wp2
 all_goals go_ret
 all_goals refine⟨ah ?_,rfl⟩
 all_goals(rw[Vd];simp[fu];omega)
theorem aS(s:bQ)(w:af)(hs:s.size<=maxLen):
  Calls prog 111 #[.string s] w fun e w'=>e=.returned (.bool (aT s))/\w'=w:=by
 unfold maxLen at hs;by_cases h1:1<=s.size/\s.size<=12
 ·obtain⟨ha,hb⟩:=h1;go_enter func111,ntmps111;go_wp2
  go_loop [3] (fun i=>∃k:Nat,k<=s.size/\i=.int .i64 k/\Hid (IB fu s k=true)) (fun i=>s.size-(intOf i).toNat)
  case atStart=>exact⟨0,UY _,rfl,uG _ _⟩
  obtain⟨k,hk,rfl,hu⟩:=hrel;by_cases hlt:k<s.size
  ·by_cases hc:fu s[k]=true
   ·have hc1:97<=s[k].toNat:=by simp[fu]at hc;omega
    have hc2:s[k].toNat<=122:=by simp[fu]at hc;omega
    have HU:Hid (IB fu s (k+1)=true):=by show _=_;rw[uH _ _ _ hlt,hc,hu.out];rfl
    clear hc;go_wp2;go_round;case rel=>exact⟨k+1,by omega,by go_num,HU⟩
    simp[intOf];omega
   have hc':fu s[k]=false:=by simpa using hc
   have HB:Hid (sD fu s=false):=ze _ _ _ hlt hc';have hd:s[k].toNat<97\/122<s[k].toNat:=by simp[fu]at hc';omega
   clear hc hc';rcases hd with hd|hd
   all_goals
    go_wp2;go_ret;exact⟨ah (by simp[aT,dP,HB.out]),rfl⟩
  go_wp2;go_ret;refine⟨ah ?_,rfl⟩;have hall:sD fu s=true:=by rw[<-zb fu s k (by omega)];exact hu.out
  have hl:nI s=true:=by simp[nI];omega
  simp[aT,dP,za,hall,hl]
 have hn:nI s=false:=by simp[nI];omega
 have HN:Hid (aT s=false):=by show _=_;simp[aT,dP,hn]
 clear hn;by_cases ha:1<=s.size
 ·have hb:12<s.size:=by omega
  clear h1;go_enter func111,ntmps111;go_wp2;go_ret;exact⟨ah HN.out.symm,rfl⟩
 have ha':s.size<1:=by omega
 clear h1;go_enter func111,ntmps111;go_wp2;go_ret;exact⟨ah HN.out.symm,rfl⟩
theorem zq(s:bQ)(w:af)(hs:s.size<=maxLen):
  Calls prog 209 #[.string s,.func (Fn.func 210) #[] #[]] w fun e w'=>e=.returned (.bool (dP fu s))/\w'=w:=by
 unfold maxLen at hs;by_cases h1:1<=s.size/\s.size<=12
 ·obtain⟨ha,hb⟩:=h1;go_enter func209,ntmps209;go_wp2
  go_loop [16] (fun i=>∃k:Nat,k<=s.size/\i=.int .i64 k/\Hid (IB fu s k=true)) (fun i=>s.size-(intOf i).toNat)
  case atStart=>exact⟨0,UY _,rfl,uG _ _⟩
  obtain⟨k,hk,rfl,hu⟩:=hrel;by_cases hlt:k<s.size
  ·by_cases hc:fu s[k]=true
   ·have HU:Hid (IB fu s (k+1)=true):=by show _=_;rw[uH _ _ _ hlt,hc,hu.out];rfl
    go_wp2_with(go_at_call 210;refine(lm _ _).mono ?_;rintro e w' ⟨rfl,rfl⟩);go_round;case rel=>exact⟨k+1,by omega,by go_num,HU⟩
    simp[intOf];omega
   have hc':fu s[k]=false:=by simpa using hc
   have HB:Hid (sD fu s=false):=ze _ _ _ hlt hc';clear hc;go_wp2_with(go_at_call 210;refine(lm _ _).mono ?_;rintro e w' ⟨rfl,rfl⟩);go_ret;exact⟨ah (by simp[dP,HB.out]),rfl⟩
  go_wp2;go_ret;refine⟨ah ?_,rfl⟩;have hall:sD fu s=true:=by rw[<-zb fu s k (by omega)];exact hu.out
  have hl:nI s=true:=by simp[nI];omega
  simp[dP,hall,hl]
 have hn:nI s=false:=by simp[nI];omega
 have HN:Hid (dP fu s=false):=by show _=_;simp[dP,hn]
 clear hn;by_cases ha:1<=s.size
 ·have hb:12<s.size:=by omega
  clear h1;go_enter func209,ntmps209;go_wp2;go_ret;exact⟨ah HN.out.symm,rfl⟩
 have ha':s.size<1:=by omega
 clear h1;go_enter func209,ntmps209;go_wp2;go_ret;exact⟨ah HN.out.symm,rfl⟩
theorem aP(s:bQ)(w:af)(hs:s.size<=maxLen):
  Calls prog 162 #[.string s] w fun e w'=>e=.returned (.bool (aT s))/\w'=w:=by
 by_cases h:s.toList=[116,104,105,115]
 ·have hb:(s.toList==[116,104,105,115])=true:=by simp[h]
  have HN:Hid (aT s=false):=by show _=_;simp[aT,za,h]
  clear h;go_enter func162,ntmps162;go_wp2;go_ret;exact⟨ah HN.out.symm,rfl⟩
 have hb:(s.toList==[116,104,105,115])=false:=by simp[h]
 have HN:Hid (aT s=dP fu s):=by show _=_;simp[aT,za,h]
 clear h;go_enter func162,ntmps162;go_wp2_with(go_at_call 209;refine(zq _ _ hs).mono ?_;rintro e w' ⟨rfl,rfl⟩);go_ret;exact⟨ah HN.out.symm,rfl⟩
structure Al where
 t:ByteArray
 s:ByteArray
abbrev Q0a:=List Al
def Al.fits(a:Al):Prop:=a.t.size<=maxLen/\a.s.size<=maxLen
def SY(w:World)(b off:Nat)(a:Al):Prop:=w.cell? ⟨b,off,none⟩=some (.string a.t)/\w.cell? ⟨b,off+1,none⟩=some (.string a.s)
def lq(w:World)(ad:Q02)(xs:Q0a):Prop:=xs=[] \/ ∃b off,ad=some ⟨b,off,none⟩/\b<w.heap.size/\∀(i:Nat) (h:i<xs.length),SY w b (off+i*2) xs[i]
def sK(w:World)(ad:Q02)(zs:List Int):Prop:=zs=[] \/ ∃b off,ad=some ⟨b,off,none⟩/\b<w.heap.size/\∀(i:Nat) (h:i<zs.length),w.cell? ⟨b,off+i,none⟩=some (.int .i64 zs[i])
theorem SY.same{w w':af}{b off:Nat}{a:Al}(h:SY w b off a)(hc:∀o,w'.cell? ⟨b,o,none⟩=w.cell? ⟨b,o,none⟩):SY w' b off a:=⟨(hc _).trans h.1,(hc _).trans h.2⟩
theorem lq.below{w w':af}{ad:Q02}{xs:Q0a}(h:lq w ad xs)(hB:ae w w'):lq w' ad xs:=by
 rcases h with h|⟨b,off,e,hb,hr⟩
 ·exact .inl h
 exact .inr ⟨b,off,e,UT hb hB.size,fun i hi=>(hr i hi).same fun o=>hB.cell (p:=⟨b,o,none⟩) hb⟩
theorem sK.below{w w':af}{ad:Q02}{zs:List Int}(h:sK w ad zs)(hB:ae w w'):sK w' ad zs:=by
 rcases h with h|⟨b,off,e,hb,hr⟩
 ·exact .inl h
 exact .inr ⟨b,off,e,UT hb hB.size,fun i hi=>(hB.cell (p:=⟨b,off+i,none⟩) hb).trans (hr i hi)⟩
structure Ex where
 kind:Int
 allow:List Al
 over:ByteArray
 name:ByteArray
 kids:List Int
abbrev Q09:=List Ex
structure ER where
 e:Ex
 adA:Option Addr
 capA:Nat
 adK:Option Addr
 capK:Nat
abbrev Q08:=List ER
def ER.val(r:ER):Value:=.agg #[.int .i64 r.e.kind,.slice r.adA r.e.allow.length r.capA,.string r.e.over,.string r.e.name,.slice r.adK r.e.kids.length r.capK]
def ER.ok(w:World)(r:ER):Prop:=lq w r.adA r.e.allow/\sK w r.adK r.e.kids
def Ex.fits(e:Ex):Prop:=(∀a∈e.allow,a.fits)/\e.over.size<=maxLen/\e.name.size<=maxLen/\e.allow.length<=maxLen/\e.kids.length<=maxLen
theorem ER.ok.below{w w':af}{r:ER}(h:r.ok w)(hB:ae w w'):r.ok w':=⟨h.1.below hB,h.2.below hB⟩
def yK(w:World)(b off:Nat)(r:ER):Prop :=
 w.cell? ⟨b,off,none⟩=some (.int .i64 r.e.kind)/\w.cell? ⟨b,off+1,none⟩=some (.slice r.adA r.e.allow.length r.capA)/\w.cell? ⟨b,off+2,none⟩=some (.string r.e.over) /\
 w.cell? ⟨b,off+3,none⟩=some (.string r.e.name)/\w.cell? ⟨b,off+4,none⟩=some (.slice r.adK r.e.kids.length r.capK)
theorem yK.same{w w':af}{b off:Nat}{r:ER}(h:yK w b off r)(hc:∀o,w'.cell? ⟨b,o,none⟩=w.cell? ⟨b,o,none⟩):yK w' b off r:=by
 obtain⟨h0,h1,h2,h3,h4⟩:=h;exact⟨(hc _).trans h0,(hc _).trans h1,(hc _).trans h2,(hc _).trans h3,(hc _).trans h4⟩
def gZ(w:World)(ad:Q02)(rs:Q08):Prop:=rs=[] \/ ∃b off,ad=some ⟨b,off,none⟩/\b<w.heap.size/\(∀(i:Nat) (h:i<rs.length),yK w b (off+i*5) rs[i])/\∀r∈rs,r.ok w
theorem gZ.below{w w':af}{ad:Q02}{rs:Q08}(h:gZ w ad rs)(hB:ae w w'):gZ w' ad rs:=by
 rcases h with h|⟨b,off,e,hb,hr,hk⟩
 ·exact .inl h
 exact .inr ⟨b,off,e,UT hb hB.size,fun i hi=>(hr i hi).same fun o=>hB.cell (p:=⟨b,o,none⟩) hb,fun r hr=>(hk r hr).below hB⟩
def ak(rs:Q08):List Ex:=rs.map ER.e
theorem aQ(rs:Q08):(ak rs).length=rs.length:=by simp[ak]
def uI(s:ByteArray):Bool:=s.toList.isEmpty || aT s
theorem IC(s:bQ)(w:af)(hs:s.size<=maxLen):
  Calls prog 163 #[.string s] w fun e w'=>e=.returned (.bool (uI s))/\w'=w:=by
 go_enter func163,ntmps163;go_wp2_with(go_at_call 162;refine(aP _ _ hs).mono ?_;rintro e w' ⟨rfl,rfl⟩)
 all_goals go_ret
 all_goals exact⟨ah (by simp[uI, *]),rfl⟩
end Go.Proofs.YtajkkeikihhejaaGreat
