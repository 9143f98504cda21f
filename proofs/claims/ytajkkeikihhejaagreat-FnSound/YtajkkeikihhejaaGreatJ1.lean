/- Plain functions on bytes that the contracts of this seat's texts are stated by: which names and ids are right. Nothing of the program is read here. -/
import Derived.Test.YtajkkeikihhejaaGreatSq
import Derived.WalkKit
import Derived.Test.YtajkkeikihhejaaGreatRows
import Derived.WalkLawsBesides
import Derived.ProofKit
import Derived.Laws.IdiomStrings
import Derived.Below
import Derived.Deep.RegionHeld3
import Derived.Deep.DrawnRows
open Go.Proofs.Tryz
namespace Go.Proofs.YtajkkeikihhejaaGreat.Pl
def fo(c:UInt8):Bool:=decide (97<=c.toNat)&&decide (c.toNat<=122)
def zm(c:UInt8):Bool:=fo c || (decide (48<=c.toNat)&&decide (c.toNat<=57)) || decide (c.toNat=95)
def nW(s:ByteArray):Bool:=decide (1<=s.size)&&decide (s.size<=12)
def sO(p:UInt8->Bool)(s:ByteArray):Bool:=s.data.toList.all p
def dP(p:UInt8->Bool)(s:ByteArray):Bool:=nW s&&sO p s
def zn(s:ByteArray):Bool:=!(s.toList==[116,104,105,115])
def aU(s:ByteArray):Bool:=dP fo s&&zn s
def qd(s:ByteArray):Bool:=dP zm s
theorem ah{a b:Bool}(h:a=b):Ending.returned (.bool a)=.returned (.bool b):=by rw[h]
theorem CW(s:bW)(k:Nat)(h:k<s.size):s.data.toList.take (k+1)=s.data.toList.take k++[s[k]]:=by
 rw[Ve (by simpa using h)];rfl
def IX(p:UInt8->Bool)(s:ByteArray)(k:Nat):Bool:=(s.data.toList.take k).all p
theorem uR(p:UInt8->Bool)(s:bW):IX p s 0=true:=by simp[IX]
theorem uS(p:UInt8->Bool)(s:bW)(k:Nat)(h:k<s.size):IX p s (k+1)=(IX p s k&&p s[k]):=by
 unfold IX;rw[CW s k h];simp
theorem zo(p:UInt8->Bool)(s:bW)(k:Nat)(h:s.size<=k):IX p s k=sO p s:=by
 unfold IX sO;rw[VE (by simpa using h)]
theorem zq(p:UInt8->Bool)(s:bW)(k:Nat)(h:k<s.size)(hb:p s[k]=false):sO p s=false:=by
 unfold sO;rw[List.all_eq_false];exact⟨s[k],by simp[ByteArray.getElem_eq_getElem_data],by simp[hb]⟩
def fu(t i:ByteArray):Bool:=aU t&&qd i
end Go.Proofs.YtajkkeikihhejaaGreat.Pl
namespace Go.Proofs.YtajkkeikihhejaaGreat
open ChangeShapes WideShapes ChangeAt RowKit
open Pl
theorem lJ(c:UInt8)(w:af):
  Calls prog 210 #[.int .u8 c.toNat] w fun e w'=>e=.returned (.bool (fo c))/\w'=w:=by
 go_enter func210,ntmps210;go_wp2
 all_goals go_ret
 all_goals refine⟨ah ?_,rfl⟩
 all_goals(rw[Vu];simp[fo];omega)
theorem aT(s:bW)(w:af)(hs:s.size<=maxLen):
  Calls prog 111 #[.string s] w fun e w'=>e=.returned (.bool (aU s))/\w'=w:=by
 unfold maxLen at hs;by_cases h1:1<=s.size/\s.size<=12
 ·obtain⟨ha,hb⟩:=h1;go_enter func111,ntmps111;go_wp2
  go_loop [3] (fun i=>∃k:Nat,k<=s.size/\i=.int .i64 k/\Hid (IX fo s k=true)) (fun i=>s.size-(intOf i).toNat)
  case atStart=>exact⟨0,Vf _,rfl,uR _ _⟩
  obtain⟨k,hk,rfl,hu⟩:=hrel;by_cases hlt:k<s.size
  ·by_cases hc:fo s[k]=true
   ·have hc1:97<=s[k].toNat:=by simp[fo]at hc;omega
    have hc2:s[k].toNat<=122:=by simp[fo]at hc;omega
    have HU:Hid (IX fo s (k+1)=true):=by show _=_;rw[uS _ _ _ hlt,hc,hu.out];rfl
    clear hc;go_wp2;go_round;case rel=>exact⟨k+1,by omega,by go_num,HU⟩
    simp[intOf];omega
   have hc':fo s[k]=false:=by simpa using hc
   have HB:Hid (sO fo s=false):=zq _ _ _ hlt hc';have hd:s[k].toNat<97\/122<s[k].toNat:=by simp[fo]at hc';omega
   clear hc hc';rcases hd with hd|hd
   all_goals
    go_wp2;go_ret;exact⟨ah (by simp[aU,dP,HB.out]),rfl⟩
  go_wp2;go_ret;refine⟨ah ?_,rfl⟩;have hall:sO fo s=true:=by rw[<-zo fo s k (by omega)];exact hu.out
  have hl:nW s=true:=by simp[nW];omega
  simp[aU,dP,zn,hall,hl]
 have hn:nW s=false:=by simp[nW];omega
 have HN:Hid (aU s=false):=by show _=_;simp[aU,dP,hn]
 clear hn;by_cases ha:1<=s.size
 ·have hb:12<s.size:=by omega
  clear h1;go_enter func111,ntmps111;go_wp2;go_ret;exact⟨ah HN.out.symm,rfl⟩
 have ha':s.size<1:=by omega
 clear h1;go_enter func111,ntmps111;go_wp2;go_ret;exact⟨ah HN.out.symm,rfl⟩
theorem zF(s:bW)(w:af)(hs:s.size<=maxLen):
  Calls prog 209 #[.string s,.func (Fn.func 210) #[] #[]] w fun e w'=>e=.returned (.bool (dP fo s))/\w'=w:=by
 unfold maxLen at hs;by_cases h1:1<=s.size/\s.size<=12
 ·obtain⟨ha,hb⟩:=h1;go_enter func209,ntmps209;go_wp2
  go_loop [16] (fun i=>∃k:Nat,k<=s.size/\i=.int .i64 k/\Hid (IX fo s k=true)) (fun i=>s.size-(intOf i).toNat)
  case atStart=>exact⟨0,Vf _,rfl,uR _ _⟩
  obtain⟨k,hk,rfl,hu⟩:=hrel;by_cases hlt:k<s.size
  ·by_cases hc:fo s[k]=true
   ·have HU:Hid (IX fo s (k+1)=true):=by show _=_;rw[uS _ _ _ hlt,hc,hu.out];rfl
    go_wp2_with(go_at_call 210;refine(lJ _ _).mono ?_;rintro e w' ⟨rfl,rfl⟩);go_round;case rel=>exact⟨k+1,by omega,by go_num,HU⟩
    simp[intOf];omega
   have hc':fo s[k]=false:=by simpa using hc
   have HB:Hid (sO fo s=false):=zq _ _ _ hlt hc';clear hc;go_wp2_with(go_at_call 210;refine(lJ _ _).mono ?_;rintro e w' ⟨rfl,rfl⟩);go_ret;exact⟨ah (by simp[dP,HB.out]),rfl⟩
  go_wp2;go_ret;refine⟨ah ?_,rfl⟩;have hall:sO fo s=true:=by rw[<-zo fo s k (by omega)];exact hu.out
  have hl:nW s=true:=by simp[nW];omega
  simp[dP,hall,hl]
 have hn:nW s=false:=by simp[nW];omega
 have HN:Hid (dP fo s=false):=by show _=_;simp[dP,hn]
 clear hn;by_cases ha:1<=s.size
 ·have hb:12<s.size:=by omega
  clear h1;go_enter func209,ntmps209;go_wp2;go_ret;exact⟨ah HN.out.symm,rfl⟩
 have ha':s.size<1:=by omega
 clear h1;go_enter func209,ntmps209;go_wp2;go_ret;exact⟨ah HN.out.symm,rfl⟩
theorem aQ(s:bW)(w:af)(hs:s.size<=maxLen):
  Calls prog 162 #[.string s] w fun e w'=>e=.returned (.bool (aU s))/\w'=w:=by
 by_cases h:s.toList=[116,104,105,115]
 ·have hb:(s.toList==[116,104,105,115])=true:=by simp[h]
  have HN:Hid (aU s=false):=by show _=_;simp[aU,zn,h]
  clear h;go_enter func162,ntmps162;go_wp2;go_ret;exact⟨ah HN.out.symm,rfl⟩
 have hb:(s.toList==[116,104,105,115])=false:=by simp[h]
 have HN:Hid (aU s=dP fo s):=by show _=_;simp[aU,zn,h]
 clear h;go_enter func162,ntmps162;go_wp2_with(go_at_call 209;refine(zF _ _ hs).mono ?_;rintro e w' ⟨rfl,rfl⟩);go_ret;exact⟨ah HN.out.symm,rfl⟩
structure Al where
 t:ByteArray
 s:ByteArray
abbrev Q0a:=List Al
def Al.fits(a:Al):Prop:=a.t.size<=maxLen/\a.s.size<=maxLen
def Tu(w:World)(b off:Nat)(a:Al):Prop:=w.cell? ⟨b,off,none⟩=some (.string a.t)/\w.cell? ⟨b,off+1,none⟩=some (.string a.s)
def lK(w:World)(ad:Q02)(xs:Q0a):Prop:=xs=[] \/ ∃b off,ad=some ⟨b,off,none⟩/\b<w.heap.size/\∀(i:Nat) (h:i<xs.length),Tu w b (off+i*2) xs[i]
def sZ(w:World)(ad:Q02)(zs:List Int):Prop:=zs=[] \/ ∃b off,ad=some ⟨b,off,none⟩/\b<w.heap.size/\∀(i:Nat) (h:i<zs.length),w.cell? ⟨b,off+i,none⟩=some (.int .i64 zs[i])
theorem Tu.same{w w':af}{b off:Nat}{a:Al}(h:Tu w b off a)(hc:∀o,w'.cell? ⟨b,o,none⟩=w.cell? ⟨b,o,none⟩):Tu w' b off a:=⟨(hc _).trans h.1,(hc _).trans h.2⟩
theorem lK.below{w w':af}{ad:Q02}{xs:Q0a}(h:lK w ad xs)(hB:ae w w'):lK w' ad xs:=by
 rcases h with h|⟨b,off,e,hb,hr⟩
 ·exact .inl h
 exact .inr ⟨b,off,e,U9 hb hB.size,fun i hi=>(hr i hi).same fun o=>hB.cell (p:=⟨b,o,none⟩) hb⟩
theorem sZ.below{w w':af}{ad:Q02}{zs:List Int}(h:sZ w ad zs)(hB:ae w w'):sZ w' ad zs:=by
 rcases h with h|⟨b,off,e,hb,hr⟩
 ·exact .inl h
 exact .inr ⟨b,off,e,U9 hb hB.size,fun i hi=>(hB.cell (p:=⟨b,off+i,none⟩) hb).trans (hr i hi)⟩
structure Ex where
 kind:Int
 allow:List Al
 over:ByteArray
 name:ByteArray
 kids:List Int
abbrev Q09:=List Ex
structure ER where
 e:Ex
 adA:Option Addr
 capA:Nat
 adK:Option Addr
 capK:Nat
abbrev Q08:=List ER
def ER.val(r:ER):Value:=.agg #[.int .i64 r.e.kind,.slice r.adA r.e.allow.length r.capA,.string r.e.over,.string r.e.name,.slice r.adK r.e.kids.length r.capK]
def ER.ok(w:World)(r:ER):Prop:=lK w r.adA r.e.allow/\sZ w r.adK r.e.kids
def Ex.fits(e:Ex):Prop:=(∀a∈e.allow,a.fits)/\e.over.size<=maxLen/\e.name.size<=maxLen/\e.allow.length<=maxLen/\e.kids.length<=maxLen
theorem ER.ok.below{w w':af}{r:ER}(h:r.ok w)(hB:ae w w'):r.ok w':=⟨h.1.below hB,h.2.below hB⟩
def yT(w:World)(b off:Nat)(r:ER):Prop :=
 w.cell? ⟨b,off,none⟩=some (.int .i64 r.e.kind)/\w.cell? ⟨b,off+1,none⟩=some (.slice r.adA r.e.allow.length r.capA)/\w.cell? ⟨b,off+2,none⟩=some (.string r.e.over) /\
 w.cell? ⟨b,off+3,none⟩=some (.string r.e.name)/\w.cell? ⟨b,off+4,none⟩=some (.slice r.adK r.e.kids.length r.capK)
theorem yT.same{w w':af}{b off:Nat}{r:ER}(h:yT w b off r)(hc:∀o,w'.cell? ⟨b,o,none⟩=w.cell? ⟨b,o,none⟩):yT w' b off r:=by
 obtain⟨h0,h1,h2,h3,h4⟩:=h;exact⟨(hc _).trans h0,(hc _).trans h1,(hc _).trans h2,(hc _).trans h3,(hc _).trans h4⟩
def ik(w:World)(ad:Q02)(rs:Q08):Prop:=rs=[] \/ ∃b off,ad=some ⟨b,off,none⟩/\b<w.heap.size/\(∀(i:Nat) (h:i<rs.length),yT w b (off+i*5) rs[i])/\∀r∈rs,r.ok w
theorem ik.below{w w':af}{ad:Q02}{rs:Q08}(h:ik w ad rs)(hB:ae w w'):ik w' ad rs:=by
 rcases h with h|⟨b,off,e,hb,hr,hk⟩
 ·exact .inl h
 exact .inr ⟨b,off,e,U9 hb hB.size,fun i hi=>(hr i hi).same fun o=>hB.cell (p:=⟨b,o,none⟩) hb,fun r hr=>(hk r hr).below hB⟩
def ak(rs:Q08):List Ex:=rs.map ER.e
theorem aR(rs:Q08):(ak rs).length=rs.length:=by simp[ak]
def uU(s:ByteArray):Bool:=s.toList.isEmpty || aU s
theorem IY(s:bW)(w:af)(hs:s.size<=maxLen):
  Calls prog 163 #[.string s] w fun e w'=>e=.returned (.bool (uU s))/\w'=w:=by
 go_enter func163,ntmps163;go_wp2_with(go_at_call 162;refine(aQ _ _ hs).mono ?_;rintro e w' ⟨rfl,rfl⟩)
 all_goals go_ret
 all_goals exact⟨ah (by simp[uU, *]),rfl⟩
def Ex.light(e:Ex):Prop:=e.allow.length<=1048576/\e.kids.length<=1048576
structure Fil(w wr:World)(g n:Nat)(xs:Q03):Prop where
 below:ae w wr
 ge:w.heap.size<=g
 lt:g<wr.heap.size
 done:∀(j:Nat) (h:j<xs.length),wr.cell? ⟨g,j,none⟩=some xs[j]
 there:∀j,j<n->(wr.cell? ⟨g,j,none⟩).isSome=true
 free:∀j,wr.frozen? ⟨g,j,none⟩=false
theorem qz{w:af}{g i j:Nat}{v:Value}(h:i≠j):(w.setCell ⟨g,i,none⟩ v).cell? ⟨g,j,none⟩=w.cell? ⟨g,j,none⟩:=by
 apply World.cell?_setCell_other;intro e;exact h (congrArg Addr.off e)
theorem zG{w:af}{a:Addr}{v u:Value}(h:w.cell? a=some u):(w.setCell a v).cell? a=some v:=by
 apply World.cell?_setCell_same;exact h
theorem yh{w:af}{g h i j:Nat}{v:Value}(hn:g≠h):(w.setCell ⟨g,i,none⟩ v).cell? ⟨h,j,none⟩=w.cell? ⟨h,j,none⟩:=by
 apply World.cell?_setCell_other;intro e;exact hn (congrArg Addr.block e)
theorem Fil.later{w wr w1:af}{g n:Nat}{xs:Q03}(h:Fil w wr g n xs)(hb:ae wr w1):Fil w w1 g n xs where
 below:=h.below.trans (hb.mono h.below.size)
 ge:=h.ge
 lt:=U9 h.lt hb.size
 done j hj:=by rw[hb.cell (p:=⟨g,j,none⟩) h.lt];exact h.done j hj
 there j hj:=by rw[hb.cell (p:=⟨g,j,none⟩) h.lt];exact h.there j hj
 free j:=by rw[hb.frozen (p:=⟨g,j,none⟩) h.lt];exact h.free j
theorem Fil.put{w wr:af}{g n o:Nat}{xs:Q03}(h:Fil w wr g n xs)(v:Value)(ho:o=xs.length)(hn:o<n):Fil w (wr.setCell ⟨g,o,none⟩ v) g n (xs++[v]) where
 below:=h.below.setCell (p:=⟨g,o,none⟩) h.ge v
 ge:=h.ge
 lt:=by simpa using h.lt
 done j hj:=by
  by_cases e:j=o
  ·subst e;obtain⟨u,hu⟩:=Option.isSome_iff_exists.mp (h.there j hn);rw[zG hu];simp[ho]
  have hj':j<xs.length:=by simp at hj;omega
  rw[qz (Ne.symm e),h.done j hj',Vw hj']
 there j hj:=by
  by_cases e:j=o
  ·subst e;obtain⟨u,hu⟩:=Option.isSome_iff_exists.mp (h.there j hn);rw[zG hu];rfl
  rw[qz (Ne.symm e)];exact h.there j hj
 free j:=by simpa using h.free j
def ints(zs:List Int):List Value:=zs.map (Value.int .i64)
theorem Fil.ints{w w':af}{g:Nat}{zs:List Int}(h:Fil w w' g zs.length (ints zs)):sZ w' (some ⟨g,0,none⟩) zs :=
 .inr ⟨g,0,rfl,h.lt,fun i hi=>by rw[VC,h.done i (by simpa[YtajkkeikihhejaaGreat.ints] using hi)];simp[YtajkkeikihhejaaGreat.ints]⟩
def pairs(xs:Q0a):List Value:=xs.flatMap fun a=>[.string a.t,.string a.s]
theorem rP:∀xs:List Al,(pairs xs).length=xs.length*2
 | []=>rfl
 | a::xs=>by have:=rP xs;simp only[pairs,VJ,Vh,VI,Wj]at this ⊢;omega
theorem uV:∀(xs:Q0a) (i:Nat) (h:i<xs.length),(pairs xs)[i*2]?=some (.string xs[i].t)/\(pairs xs)[i*2+1]?=some (.string xs[i].s)
 | [],i,h=>by simp at h
 | a::xs,0,_=>by simp[pairs]
 | a::xs,i+1,h=>by
  have:=uV xs i (by simpa using h);simp only[pairs,VJ,VS,Wh,List.getElem_cons_succ]at this ⊢;rw[show(i+1)*2=i*2+1+1 by omega,show i*2+1+1+1=(i*2+1)+1+1 by omega];simpa using this
theorem Fil.pairs{w w':af}{g:Nat}{xs:Q0a}(h:Fil w w' g (xs.length*2) (pairs xs)):lK w' (some ⟨g,0,none⟩) xs:=by
 refine .inr ⟨g,0,rfl,h.lt,fun i hi=>?_⟩;obtain⟨h1,h2⟩:=uV xs i hi;have hl:=rP xs;refine⟨?_,?_⟩
 ·rw[VC,h.done (i*2) (by omega),<-h1,Vg (by omega)]
 rw[VC,h.done (i*2+1) (by omega),<-h2,Vg (by omega)]
theorem lK.set{w:af}{ad:Q02}{xs:Q0a}{g o:Nat}{v:Value}(h:lK w ad xs)(hn:∀b off,ad=some ⟨b,off,none⟩->g≠b):lK (w.setCell ⟨g,o,none⟩ v) ad xs:=by
 rcases h with h|⟨b,off,e,hb,hr⟩
 ·exact .inl h
 exact .inr ⟨b,off,e,by simpa using hb,fun i hi=>(hr i hi).same fun o=>yh (hn b off e)⟩
theorem sZ.set{w:af}{ad:Q02}{zs:List Int}{g o:Nat}{v:Value}(h:sZ w ad zs)(hn:∀b off,ad=some ⟨b,off,none⟩->g≠b):sZ (w.setCell ⟨g,o,none⟩ v) ad zs:=by
 rcases h with h|⟨b,off,e,hb,hr⟩
 ·exact .inl h
 exact .inr ⟨b,off,e,by simpa using hb,fun i hi=>by rw[yh (hn b off e)];exact hr i hi⟩
theorem kept{W w1:af}{n o:Nat}{v:Value}(hb:ae W w1)(hn:n<W.heap.size)(h:W.cell? ⟨n,o,none⟩=some v):w1.cell? ⟨n,o,none⟩=some v:=by
 rw[hb.cell (p:=⟨n,o,none⟩) hn];exact h
theorem UA{W w1:af}{n o:Nat}(hb:ae W w1)(hn:n<W.heap.size)(h:W.frozen? ⟨n,o,none⟩=false):w1.frozen? ⟨n,o,none⟩=false:=by
 rw[hb.frozen (p:=⟨n,o,none⟩) hn];exact h
theorem Oa(w:af)(x:Obj)(C:Array Value)(t:TypeId)(k:Nat){v:Value}(h:C[k]?=some v):((w.alloc x).alloc (.cells C t)).cell? ⟨w.heap.size+1,k,none⟩=some v:=by
 have:=World.cell?_alloc_mark (w.alloc x) C t (0,0) k;rw[World.size_alloc,h]at this;exact this
theorem Tv(w:af)(x y:Obj)(C:Array Value)(t:TypeId)(k:Nat){v:Value}(h:C[k]?=some v):(((w.alloc x).alloc y).alloc (.cells C t)).cell? ⟨w.heap.size+1+1,k,none⟩=some v:=by
 have:=Oa (w.alloc x) y C t k h;rw[World.size_alloc]at this;exact this
def ER.row(r:ER):List Value:=[.int .i64 r.e.kind,.slice r.adA r.e.allow.length r.capA,.string r.e.over,.string r.e.name,.slice r.adK r.e.kids.length r.capK]
def jW(rs:Q08):List Value:=rs.flatMap ER.row
theorem xq:∀rs:List ER,(jW rs).length=rs.length*5
 | []=>rfl
 | r::rs=>by have:=xq rs;simp only[jW,ER.row,VJ,Vh,VI,Wj]at this ⊢;omega
theorem zH:∀(rs:Q08) (i:Nat) (h:i<rs.length) (j:Nat),j<5->(jW rs)[i*5+j]?=(rs[i]).row[j]?
 | [],i,h,_,_=>by simp at h
 | r::rs,0,_,j,hj=>by
  simp only[jW,VJ,Nat.zero_mul,VC,List.getElem_cons_zero];rw[V9 (by simpa[ER.row] using hj)]
 | r::rs,i+1,h,j,hj=>by
  have:=zH rs i (by simpa using h) j hj;simp only[jW,VJ,List.getElem_cons_succ]at this ⊢;rw[V7 (by simp[ER.row];omega),<-this];congr 1;simp[ER.row];omega
theorem Fil.rows{w w':af}{g:Nat}{rs:Q08}(h:Fil w w' g (rs.length*5) (jW rs))(hok:∀r∈rs,r.ok w'):ik w' (some ⟨g,0,none⟩) rs:=by
 refine .inr ⟨g,0,rfl,h.lt,fun i hi=>?_,hok⟩;have hl:=xq rs;have key:∀j,j<5->w'.cell? ⟨g,0+i*5+j,none⟩=(rs[i]).row[j]?:=fun j hj=>by
  rw[VC,h.done (i*5+j) (by omega),<-zH rs i hi j hj,Vg (by omega)]
 exact⟨key 0 (by omega),key 1 (by omega),key 2 (by omega),key 3 (by omega),key 4 (by omega)⟩
def ER.new(B:Nat)(r:ER):Prop:=∃gA gK:Nat,r.adA=some ⟨gA,0,none⟩/\r.adK=some ⟨gK,0,none⟩/\B<gA/\B<gK/\r.capA=r.e.allow.length
theorem ER.ok.set{w:af}{r:ER}{g o:Nat}{v:Value}(h:r.ok w)(hn:r.new g):r.ok (w.setCell ⟨g,o,none⟩ v):=by
 obtain⟨gA,gK,e1,e2,h1,h2,-⟩:=hn;refine⟨h.1.set fun b off e=>?_,h.2.set fun b off e=>?_⟩
 ·rw[e1]at e;injection e with e;injection e with e3 e4;omega
 rw[e2]at e;injection e with e;injection e with e3 e4;omega
theorem mO{w:af}{g i j:Nat}{v:Value}(h:i≠j):(w.setCell ⟨g,i,none⟩ v).cell? ⟨g,j,none⟩=w.cell? ⟨g,j,none⟩:=by
 apply World.cell?_setCell_other;intro e;exact h (congrArg Addr.off e)
theorem mS{w:af}{a:Addr}{v u:Value}(h:w.cell? a=some u):(w.setCell a v).cell? a=some v:=by
 apply World.cell?_setCell_same;exact h
theorem mK{W w1:af}{n o:Nat}{v:Value}(hb:ae W w1)(hn:n<W.heap.size)(h:W.cell? ⟨n,o,none⟩=some v):w1.cell? ⟨n,o,none⟩=some v:=by
 rw[hb.cell (p:=⟨n,o,none⟩) hn];exact h
def jZ(w:World)(g:Nat):Prop:=∀j,w.frozen? ⟨g,j,none⟩=false
structure Chg(S:Nat->Prop)(w w':World):Prop where
 base:Below 0 w w'
 block:∀k,k<w.heap.size->¬S k->w'.heap[k]?=w.heap[k]?
 free:∀g,g<w.heap.size->jZ w g->jZ w' g
theorem Chg.refl(S:Nat->Prop)(w:af):Chg S w w:=⟨Vb _ _,fun _ _ _=>rfl,fun _ _ h=>h⟩
theorem Chg.size{S:Nat->Prop}{w w':af}(h:Chg S w w'):w.heap.size<=w'.heap.size:=h.base.size
theorem Chg.trans{S:Nat->Prop}{a b c:af}(h:Chg S a b)(k:Chg S b c):Chg S a c :=
 ⟨h.base.trans k.base,fun i hi hs=>(k.block i (U9 hi h.size) hs).trans (h.block i hi hs),fun g hg hf=>k.free g (U9 hg h.size) (h.free g hg hf)⟩
theorem Chg.mono{S T:Nat->Prop}{a b:af}(h:Chg S a b)(hs:∀g,S g->T g):Chg T a b :=
 ⟨h.base,fun i hi hn=>h.block i hi fun e=>hn (hs i e),h.free⟩
theorem Chg.of{S:Nat->Prop}{w w':af}(h:ae w w'):Chg S w w' :=
 ⟨h.mono (Vf _),fun k hk _=>h.block k hk,fun g hg hf j=>by rw[h.frozen (p:=⟨g,j,none⟩) hg];exact hf j⟩
theorem Chg.set{S:Nat->Prop}{w:af}{g j:Nat}(v:Value)(hs:S g):Chg S w (w.setCell ⟨g,j,none⟩ v) :=
 ⟨(Vb 0 w).setCell (Vf _) v,fun k _ hk=>Below.heap_setCell _ _ _ _ (fun e=>hk (by rw[e];exact hs)),fun g' _ hf j'=>by simpa using hf j'⟩
theorem Chg.below{S:Nat->Prop}{w w':af}{m:Nat}(h:Chg S w w')(hm:∀g,S g->m<=g)(hw:m<=w.heap.size):Below m w w' :=
 ⟨h.base.os,h.base.tape,h.base.output,h.base.size,fun k hk=>h.block k (U9 hk hw) fun e=>by have:=hm k e;omega⟩
theorem Chg.cell{S:Nat->Prop}{w w':af}(h:Chg S w w'){g o:Nat}(hg:g<w.heap.size)(hs:¬S g):w'.cell? ⟨g,o,none⟩=w.cell? ⟨g,o,none⟩:=by
 have:=h.block g hg hs;unfold World.cell?;simp only[this]
def bA(r:ER)(g:Nat):Prop:=r.e.allow≠[]/\r.adA=some ⟨g,0,none⟩
def bK(r:ER)(g:Nat):Prop:=r.e.kids≠[]/\r.adK=some ⟨g,0,none⟩
def qw(r:ER)(g:Nat):Prop:=bA r g\/bK r g
structure SepE(b:Nat)(rs:Q08):Prop where
 zeroA:∀r∈rs,r.e.allow≠[]->∃g,r.adA=some ⟨g,0,none⟩
 zeroK:∀r∈rs,r.e.kids≠[]->∃g,r.adK=some ⟨g,0,none⟩
 head:∀r∈rs,¬qw r b
 one:∀r∈rs,∀g,bA r g->¬bK r g
 two:∀(x y:Nat) (hx:x<rs.length) (hy:y<rs.length),x≠y->∀g,qw rs[x] g->¬qw rs[y] g
end Go.Proofs.YtajkkeikihhejaaGreat
