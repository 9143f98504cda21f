/- What a right expression is, in plain words, in the document's way and in the program's way, and that both say the same. -/
import Derived.Test.YtojjoblnpldniaaGreatSq
import Derived.Test.YtojjoblnpldniaaGreatJ3
import Derived.Below
import Derived.Test.YtojjoblnpldniaaGreatJ2
import Derived.Deep.RegionHeld3
import Derived.Deep.DrawnRows
import Derived.Test.YtojjoblnpldniaaGreatShelf
open Go.Proofs.Tryz
set_option maxHeartbeats 80000000
namespace Go.Proofs.YtojjoblnpldniaaGreat
open Pl
def jV(x y:Al):Bool:=x.t.toList==y.t.toList&&x.s.toList==y.s.toList
def Gi(a:Al):Bool:=aP a.t&&uO a.s
def dG(xs:Q0a)(k:Nat)(a:Al):Bool:=(xs.take k).any fun x=>jV x a
theorem uf(xs:Q0a)(k:Nat)(a:Al)(h:k<xs.length):dG xs (k+1) a=(dG xs k a || jV xs[k] a):=by
 unfold dG;rw[Vu h,List.any_append];simp
theorem ug(xs:Q0a)(a:Al):dG xs 0 a=false:=by simp[dG]
def Eu(xs:Q0a):Nat->Bool
 | 0=>true
 | k+1=>Eu xs k&&(xs[k]?.map fun a=>Gi a && !dG xs k a).getD true
theorem zG(xs:Q0a)(k:Nat)(h:k<xs.length):Eu xs (k+1)=(Eu xs k&&(Gi xs[k] && !dG xs k xs[k])):=by
 simp[Eu,h]
theorem oU(xs:Q0a)(k:Nat)(h:k<xs.length)(hb:(Gi xs[k] && !dG xs k xs[k])=false):∀n,k<n->Eu xs n=false
 | 0,hn=>by omega
 | n+1,hn=>by
  by_cases e:n=k
  ·subst e;rw[zG _ _ h,hb];simp
  simp[Eu,oU xs k h hb n (by omega)]
def eF(xs:Q0a):Bool:=decide (1<=xs.length)&&decide (xs.length<=6)&&Eu xs xs.length
def av(e:Ex):Bool :=
 if e.kind=1 then eF e.allow&&e.over.toList.isEmpty&&e.name.toList.isEmpty&&decide (e.kids.length=0)
 else if e.kind=2 then aP e.name&&decide (e.allow.length=0)&&e.over.toList.isEmpty&&decide (e.kids.length=0)
 else if e.kind=3 then aP e.over&&aP e.name&&decide (e.allow.length=0)&&decide (e.kids.length=0)
 else if e.kind=4\/e.kind=5 then decide (2<=e.kids.length)&&decide (e.kids.length<=5)&&decide (e.allow.length=0)&&e.over.toList.isEmpty&&e.name.toList.isEmpty
 else if e.kind=6 then decide (e.kids.length=2)&&decide (e.allow.length=0)&&e.over.toList.isEmpty&&e.name.toList.isEmpty
 else false
def cZ(f:Int->Int):List Int->Int->Int
 | [],at'=>at'+1
 | k::ks,at'=>if at'<0\/k≠at' then -1 else if f at'<0 then -1 else cZ f ks (f at'-1)
def dC(es:Q09)(n:Nat):List Int:=(es[n]?.map Ex.kids).getD []
def ay(es:Q09)(n:Nat):Int:=cZ (fun x=>if _h:0<=x/\x.toNat<n then ay es x.toNat else -1) (dC es n).reverse ((n:Int)-1)
def dA(es:Q09)(n:Nat)(x:Int):Int:=if 0<=x/\x.toNat<n then ay es x.toNat else -1
theorem jg(es:Q09)(n:Nat):ay es n=cZ (dA es n) (dC es n).reverse ((n:Int)-1):=by
 rw[ay];rfl
theorem CZ{f:Int->Int}(hf:∀x,0<=x->f x<=x):∀(ks:List Int) (a:Int),-1<=a->cZ f ks a<=a+1
 | [],a,_=>by simp[cZ]
 | k::ks,a,ha=>by
  unfold cZ;split
  ·omega
  rename_i h;split
  ·omega
  rename_i h2;have h0:0<=a:=by omega
  have:=CZ hf ks (f a-1) (by omega);have:=hf a h0;omega
theorem il(es:Q09)(n:Nat):ay es n<=n:=by
 induction n using Nat.strongRecOn with
 | ind n ih =>
  rw [jg];have:=CZ (f:=dA es n) (fun x hx=>by
   unfold dA;split
   ·rename_i h;have:=ih x.toNat h.2;omega
   omega) (dC es n).reverse ((n:Int)-1) (by omega)
  omega
theorem Pd(es:Q09)(n:Nat)(x:Int)(hx:0<=x):dA es n x<=x:=by
 unfold dA;split
 ·have:=il es x.toNat;omega
 omega
theorem sP{es:Q09}{n:Nat}(ih:∀m,m<n->0<=ay es m->∀j:Nat,ay es m<=j->j<=m->0<=ay es j):
  ∀(ks:List Int) (a:Int),a<n->0<=cZ (dA es n) ks a->∀j:Nat,cZ (dA es n) ks a<=j->(j:Int)<=a->0<=ay es j
 | [],a,ha,h,j,h1,h2=>by simp[cZ]at h1;omega
 | k::ks,a,ha,h,j,h1,h2=>by
  unfold cZ at h h1;split at h
  ·omega
  rename_i c;rw[if_neg c]at h1;split at h
  ·omega
  rename_i c2;rw[if_neg c2]at h1;have h0:0<=a:=by omega
  have hF:dA es n a=ay es a.toNat:=by unfold dA;rw[if_pos ⟨h0,by omega⟩]
  rw[hF]at h h1 c2;by_cases hj:ay es a.toNat<=j
  ·exact ih a.toNat (by omega) (by omega) j hj (by omega)
  exact sP ih ks (ay es a.toNat-1) (by have:=il es a.toNat;omega) h j h1 (by omega)
theorem nG(es:Q09)(n:Nat):0<=ay es n->∀j:Nat,ay es n<=j->j<=n->0<=ay es j:=by
 induction n using Nat.strongRecOn with
 | ind n ih =>
  intro h j h1 h2;by_cases e:j=n
  ·subst e;exact h
  rw[jg]at h h1;exact sP ih _ _ (by omega) h j h1 (by omega)
def kP(es:Q09)(i:Nat):Bool:=(dC es i).all fun k=>decide (0<=k)&&decide (k<=(i:Int)-1)
theorem xQ{es:Q09}{n:Nat}:∀(ks:List Int) (a:Int),a<n->0<=cZ (dA es n) ks a->∀k∈ks,0<=k/\k<=a
 | [],_,_,_,k,hk=>by cases hk
 | x::ks,a,ha,h,k,hk=>by
  unfold cZ at h;split at h
  ·omega
  rename_i c;split at h
  ·omega
  rename_i c2;have h0:0<=a:=by omega
  rcases VH.1 hk with rfl|hk
  ·omega
  have hl:=Pd es n a h0;have:=xQ ks (dA es n a-1) (by omega) h k hk;omega
theorem Mm(es:Q09)(i:Nat)(h:0<=ay es i):kP es i=true:=by
 unfold kP;rw[VC];intro k hk;rw[jg]at h;have:=xQ _ _ (by omega) h k (by simpa using hk);simp;omega
def Pe(es:Q09)(n:Nat):Prop:=∀j,j<n->0<=ay es j
def own(es:Q09):Nat:=(es.filter fun e=>decide (e.kind=1)).length
def gy(es:Q09)(k:Nat):Nat:=own (es.take k)
theorem zH(es:Q09)(k:Nat)(h:k<es.length):gy es (k+1)=gy es k+(if es[k].kind=1 then 1 else 0):=by
 unfold gy own;rw[Vu h,WJ,Vx];by_cases e:es[k].kind=1<;>simp[e]
theorem uS(es:Q09)(k:Nat):gy es k<=k:=by
 unfold gy own;exact Vz (List.length_filter_le ..) (by simp;omega)
def jD(es:Q09)(k:Nat):Bool:=(es.take k).all av
theorem uT(es:Q09)(k:Nat)(h:k<es.length):jD es (k+1)=(jD es k&&av es[k]):=by
 unfold jD;rw[Vu h,WC];simp
theorem C8(es:Q09)(k:Nat)(h:k<es.length)(hb:av es[k]=false):es.all av=false:=by
 rw[Bool.eq_false_iff];intro h2;rw[VC]at h2;have:=h2 es[k] (Vp h);rw[hb]at this;cases this
def ja(es:Q09)(k:Nat):Bool:=(List.range k).all (kP es)
theorem Gj(es:Q09)(k:Nat):ja es (k+1)=(ja es k&&kP es k):=by simp[ja,List.range_succ]
theorem Pf(es:Q09)(k:Nat)(h:k<es.length)(hb:kP es k=false):ja es es.length=false:=by
 rw[Bool.eq_false_iff];intro h2;unfold ja at h2;rw[VC]at h2;have:=h2 k (by simpa using h);rw[hb]at this;cases this
def aK(es:Q09):Bool:=decide (1<=es.length)&&decide (es.length<=15)&&es.all av&&ja es es.length&&decide (own es<=1)&&decide (ay es (es.length-1)=0)
def jE(es:Q09):Bool:=(List.range es.length).all fun j=>decide (0<=ay es j)
def kY(es:Q09):Bool:=decide (1<=es.length)&&decide (es.length<=15)&&es.all av&&decide (own es<=1)&&(jE es&&decide (ay es (es.length-1)=0))
theorem wT(es:Q09):aK es=kY es:=by
 by_cases h1:1<=es.length
 ·by_cases ht:ay es (es.length-1)=0
  ·have ha:jE es=true:=by
    unfold jE;rw[VC];intro j hj;have hj':j<es.length:=by simpa using hj
    simpa using nG es (es.length-1) (by omega) j (by omega) (by omega)
   have hk:ja es es.length=true:=by
    unfold ja;rw[VC];intro j hj;have hj':j<es.length:=by simpa using hj
    exact Mm es j (nG es (es.length-1) (by omega) j (by omega) (by omega))
   simp[aK,kY,ht,ha,hk,h1]
  simp[aK,kY,ht]
 simp[aK,kY,h1]
open ChangeAt ChangeShapes RowKit WideShapes
theorem uU(c:UInt8)(w:ae):
  Calls prog 278 #[.int .u8 c.toNat] w fun e w'=>e=.returned (.bool (yN c))/\w'=w:=by
 by_cases hl:eY c=true
 ·go_enter func278,ntmps278;go_wp2_with(go_at_call 191;refine(lq _ _).mono ?_;rintro e w' ⟨rfl,rfl⟩);go_ret;exact⟨ah (by simp[yN,hl]),rfl⟩
 have hf:eY c=false:=by simpa using hl
 clear hl;go_enter func278,ntmps278;go_wp2_with(go_at_call 191;refine(lq _ _).mono ?_;rintro e w' ⟨rfl,rfl⟩)
 all_goals go_ret
 all_goals refine⟨ah ?_,rfl⟩
 all_goals(rw[VL];simp[yN,hf];omega)
theorem Jf(s:bQ)(w:ae)(hs:s.size<=maxLen):
  Calls prog 281 #[.string s] w fun e w'=>e=.returned (.bool (pR s))/\w'=w:=by
 unfold maxLen at hs;by_cases h1:1<=s.size/\s.size<=12
 ·obtain⟨ha,hb⟩:=h1;go_enter func281,ntmps281;go_wp2
  go_loop [3] (fun i=>∃k:Nat,k<=s.size/\i=.int .i64 k/\Hid (IY yN s k=true)) (fun i=>s.size-(intOf i).toNat)
  case atStart=>exact⟨0,Vv _,rfl,uI _ _⟩
  obtain⟨k,hk,rfl,hu⟩:=hrel;by_cases hlt:k<s.size
  ·by_cases hc:yN s[k]=true
   ·have hd:(97<=s[k].toNat/\s[k].toNat<=122)\/(48<=s[k].toNat/\s[k].toNat<=57)\/s[k].toNat=95:=by simp[yN,eY]at hc;omega
    have HU:Hid (IY yN s (k+1)=true):=by show _=_;rw[uJ _ _ _ hlt,hc,hu.out];rfl
    clear hc;rcases hd with⟨hd1,hd2⟩|⟨hd1,hd2⟩|hd1
    all_goals
     go_wp2;go_round;case rel=>exact⟨k+1,by omega,by go_num,HU⟩
     simp[intOf];omega
   have hc':yN s[k]=false:=by simpa using hc
   have HB:Hid (sI yN s=false):=yQ _ _ _ hlt hc';have hd:s[k].toNat<48\/(57<s[k].toNat/\s[k].toNat<95)\/(95<s[k].toNat/\s[k].toNat<97)\/122<s[k].toNat:=by simp[yN,eY]at hc';omega
   clear hc hc';rcases hd with hd|⟨hd,hd2⟩|⟨hd,hd2⟩|hd
   all_goals
    have h95:((s[k].toNat:Int) != 95)=true:=by simp;omega
    go_wp2;go_ret;exact⟨ah (by simp[pR,dO,HB.out]),rfl⟩
  go_wp2;go_ret;refine⟨ah ?_,rfl⟩;have hall:sI yN s=true:=by rw[<-yP yN s k (by omega)];exact hu.out
  have hl:nN s=true:=by simp[nN];omega
  simp[pR,dO,hall,hl]
 have hn:nN s=false:=by simp[nN];omega
 have HN:Hid (pR s=false):=by show _=_;simp[pR,dO,hn]
 clear hn;by_cases ha:1<=s.size
 ·have hb:12<s.size:=by omega
  clear h1;go_enter func281,ntmps281;go_wp2;go_ret;exact⟨ah HN.out.symm,rfl⟩
 have ha':s.size<1:=by omega
 clear h1;go_enter func281,ntmps281;go_wp2;go_ret;exact⟨ah HN.out.symm,rfl⟩
theorem zI(s:bQ)(w:ae)(hs:s.size<=maxLen):
  Calls prog 190 #[.string s,.func (Fn.func 278) #[] #[]] w fun e w'=>e=.returned (.bool (dO yN s))/\w'=w:=by
 unfold maxLen at hs;by_cases h1:1<=s.size/\s.size<=12
 ·obtain⟨ha,hb⟩:=h1;go_enter func190,ntmps190;go_wp2
  go_loop [16] (fun i=>∃k:Nat,k<=s.size/\i=.int .i64 k/\Hid (IY yN s k=true)) (fun i=>s.size-(intOf i).toNat)
  case atStart=>exact⟨0,Vv _,rfl,uI _ _⟩
  obtain⟨k,hk,rfl,hu⟩:=hrel;by_cases hlt:k<s.size
  ·by_cases hc:yN s[k]=true
   ·have HU:Hid (IY yN s (k+1)=true):=by show _=_;rw[uJ _ _ _ hlt,hc,hu.out];rfl
    go_wp2_with(go_at_call 278;refine(uU _ _).mono ?_;rintro e w' ⟨rfl,rfl⟩);go_round;case rel=>exact⟨k+1,by omega,by go_num,HU⟩
    simp[intOf];omega
   have hc':yN s[k]=false:=by simpa using hc
   have HB:Hid (sI yN s=false):=yQ _ _ _ hlt hc';clear hc;go_wp2_with(go_at_call 278;refine(uU _ _).mono ?_;rintro e w' ⟨rfl,rfl⟩);go_ret;exact⟨ah (by simp[dO,HB.out]),rfl⟩
  go_wp2;go_ret;refine⟨ah ?_,rfl⟩;have hall:sI yN s=true:=by rw[<-yP yN s k (by omega)];exact hu.out
  have hl:nN s=true:=by simp[nN];omega
  simp[dO,hall,hl]
 have hn:nN s=false:=by simp[nN];omega
 have HN:Hid (dO yN s=false):=by show _=_;simp[dO,hn]
 clear hn;by_cases ha:1<=s.size
 ·have hb:12<s.size:=by omega
  clear h1;go_enter func190,ntmps190;go_wp2;go_ret;exact⟨ah HN.out.symm,rfl⟩
 have ha':s.size<1:=by omega
 clear h1;go_enter func190,ntmps190;go_wp2;go_ret;exact⟨ah HN.out.symm,rfl⟩
theorem zJ(s:bQ)(w:ae)(hs:s.size<=maxLen):
  Calls prog 220 #[.string s] w fun e w'=>e=.returned (.bool (pR s))/\w'=w:=by
 go_enter func220,ntmps220;go_wp2_with(go_at_call 190;refine(zI _ _ hs).mono ?_;rintro e w' ⟨rfl,rfl⟩);go_ret;exact⟨rfl,rfl⟩
theorem jS{W w1:ae}(hb:ag W w1):(∀b o,b<W.heap.size->w1.cell? ⟨b,o,none⟩=W.cell? ⟨b,o,none⟩)/\(∀b o,b<W.heap.size->w1.frozen? ⟨b,o,none⟩=W.frozen? ⟨b,o,none⟩) :=
 ⟨fun b o h=>hb.cell (p:=⟨b,o,none⟩) h,fun b o h=>hb.frozen (p:=⟨b,o,none⟩) h⟩
theorem fT(t i:bQ)(w:ae)(ht:t.size<=maxLen)(hi:i.size<=maxLen):
  Calls prog 228 #[.agg #[.string t,.string i]] w fun e w'=>e=.returned (.bool (eZ t i))/\ag w w':=by
 by_cases hn:aP t=true
 all_goals
  go_enter func228,ntmps228;go_wp2_with(first|(go_at_call 126;refine(aS _ _ ht).mono ?_;rintro e w' ⟨rfl,rfl⟩)|(go_at_call 281;refine(Jf _ _ hi).mono ?_;rintro e w' ⟨rfl,rfl⟩));go_ret;exact⟨ah (by simp[eZ,hn]),(Vs _ _).alloc (Vr _) _⟩
theorem fU(t i:bQ)(w:ae)(ht:t.size<=maxLen)(hi:i.size<=maxLen):
  Calls prog 147 #[.agg #[.string t,.string i]] w fun e w'=>e=.returned (.bool (eZ t i))/\ag w w':=by
 by_cases hn:aP t=true
 all_goals
  go_enter func147,ntmps147;go_wp2_with(first|(go_at_call 122;refine(aL _ _ ht).mono ?_;rintro e w' ⟨rfl,rfl⟩)|(go_at_call 220;refine(zJ _ _ hi).mono ?_;rintro e w' ⟨rfl,rfl⟩));go_ret;exact⟨ah (by simp[eZ,hn]),(Vs _ _).alloc (Vr _) _⟩
theorem yA(t i:bQ)(w:ae)(ht:t.size<=maxLen)(hi:i.size<=maxLen):
  Calls prog 307 #[.agg #[.string t,.string i]] w fun e w'=>e=.returned (.string (aB t i))/\ag w w':=by
 by_cases hn:eZ t i=true
 ·obtain⟨h1,h2⟩:=rG hn;have HT:Hid (aB t i=t++⟨#[58]⟩++i):=mU hn;go_enter func307,ntmps307;go_wp2_with(go_at_call 228;refine(fT _ _ _ ht hi).mono ?_;rintro e w' ⟨rfl,hb⟩;obtain⟨hc,hf⟩:=jS hb);go_ret;exact⟨fV HT.out.symm,((Vs _ _).alloc (Vr _) _).trans (hb.mono (by simp))⟩
 have hn':eZ t i=false:=by simpa using hn
 have HT:Hid (aB t i=⟨#[]⟩):=tQ hn';clear hn;go_enter func307,ntmps307;go_wp2_with(go_at_call 228;refine(fT _ _ _ ht hi).mono ?_;rintro e w' ⟨rfl,hb⟩;obtain⟨hc,hf⟩:=jS hb);go_ret;exact⟨fV HT.out.symm,((Vs _ _).alloc (Vr _) _).trans (hb.mono (by simp))⟩
theorem yB(t i:bQ)(w:ae)(ht:t.size<=maxLen)(hi:i.size<=maxLen):
  Calls prog 276 #[.agg #[.string t,.string i]] w fun e w'=>e=.returned (.string (aB t i))/\ag w w':=by
 by_cases hn:eZ t i=true
 ·obtain⟨h1,h2⟩:=rG hn;have HT:Hid (aB t i=t++⟨#[58]⟩++i):=mU hn;go_enter func276,ntmps276;go_wp2_with(go_at_call 147;refine(fU _ _ _ ht hi).mono ?_;rintro e w' ⟨rfl,hb⟩;obtain⟨hc,hf⟩:=jS hb);go_ret;exact⟨fV HT.out.symm,((Vs _ _).alloc (Vr _) _).trans (hb.mono (by simp))⟩
 have hn':eZ t i=false:=by simpa using hn
 have HT:Hid (aB t i=⟨#[]⟩):=tQ hn';clear hn;go_enter func276,ntmps276;go_wp2_with(go_at_call 147;refine(fU _ _ _ ht hi).mono ?_;rintro e w' ⟨rfl,hb⟩;obtain⟨hc,hf⟩:=jS hb);go_ret;exact⟨fV HT.out.symm,((Vs _ _).alloc (Vr _) _).trans (hb.mono (by simp))⟩
theorem C9(s:bQ)(w:ae)(hs:s.size<=maxLen):
  Calls prog 148 #[.string s] w fun e w'=>e=.returned (.bool (uL s))/\w'=w:=by
 go_enter func148,ntmps148;go_wp2_with(go_at_call 122;refine(aL _ _ hs).mono ?_;rintro e w' ⟨rfl,rfl⟩)
 all_goals go_ret
 all_goals exact⟨ah (by simp[uL, *]),rfl⟩
theorem d9(a b r c d s:bQ)(w:ae)(ha:a.size<=maxLen)(hb:b.size<=maxLen)(hr:r.size<=maxLen)(hc:c.size<=maxLen)(hd:d.size<=maxLen)(hs:s.size<=maxLen):
  Calls prog 198 #[.agg #[.string a,.string b,.string r,.string c,.string d,.string s]] w fun e w'=>e=.returned (.bool (bz a b r c d s))/\ag w w':=by
 by_cases h1:eZ a b=true
 ·by_cases h2:aP r=true
  ·by_cases h3:eZ c d=true
   ·have HT:Hid (bz a b r c d s=uL s):=zm h1 h2 h3;go_enter func198,ntmps198;go_wp2_with fail;refine(fT _ _ _ ha hb).mono ?_;rintro e w1 ⟨rfl,hb1⟩;obtain⟨hc1,hf1⟩:=jS hb1;have hz1:w.heap.size<w1.heap.size:=by have:=hb1.size;simp at this;omega
    go_wp2_with fail;refine(aS _ _ hr).mono ?_;rintro e w1' ⟨rfl,rfl⟩;go_wp2_with fail;refine(fT _ _ _ hc hd).mono ?_;rintro e w2 ⟨rfl,hb2⟩;obtain⟨hc2,hf2⟩:=jS hb2;have hz2:w.heap.size<w2.heap.size:=by have:=hb2.size;omega
    go_wp2_with(go_at_call 126;refine(aS _ _ hs).mono ?_;rintro e w3 ⟨rfl,rfl⟩)
    all_goals go_ret
    all_goals exact⟨ah (HT.out.trans (by simp[uL, *])).symm,((Vs _ _).alloc (Vr _) _).trans ((hb1.mono (by simp)).trans (hb2.mono (by omega)))⟩
   have h3':eZ c d=false:=by simpa using h3
   have HT:Hid (bz a b r c d s=false):=zl h3';clear h3;go_enter func198,ntmps198;go_wp2_with fail;refine(fT _ _ _ ha hb).mono ?_;rintro e w1 ⟨rfl,hb1⟩;obtain⟨hc1,hf1⟩:=jS hb1;have hz1:w.heap.size<w1.heap.size:=by have:=hb1.size;simp at this;omega
   go_wp2_with fail;refine(aS _ _ hr).mono ?_;rintro e w1' ⟨rfl,rfl⟩;go_wp2_with fail;refine(fT _ _ _ hc hd).mono ?_;rintro e w2 ⟨rfl,hb2⟩;go_wp2;go_ret;exact⟨ah HT.out.symm,((Vs _ _).alloc (Vr _) _).trans ((hb1.mono (by simp)).trans (hb2.mono (by omega)))⟩
  have h2':aP r=false:=by simpa using h2
  have HT:Hid (bz a b r c d s=false):=zk h2';clear h2;go_enter func198,ntmps198;go_wp2_with fail;refine(fT _ _ _ ha hb).mono ?_;rintro e w1 ⟨rfl,hb1⟩;obtain⟨hc1,hf1⟩:=jS hb1;go_wp2_with fail;refine(aS _ _ hr).mono ?_;rintro e w1' ⟨rfl,rfl⟩;go_wp2;go_ret;exact⟨ah HT.out.symm,((Vs _ _).alloc (Vr _) _).trans (hb1.mono (by simp))⟩
 have h1':eZ a b=false:=by simpa using h1
 have HT:Hid (bz a b r c d s=false):=zi h1';clear h1;go_enter func198,ntmps198;go_wp2_with fail;refine(fT _ _ _ ha hb).mono ?_;rintro e w1 ⟨rfl,hb1⟩;go_wp2;go_ret;exact⟨ah HT.out.symm,((Vs _ _).alloc (Vr _) _).trans (hb1.mono (by simp))⟩
theorem dI(a b r c d s:bQ)(w:ae)(ha:a.size<=maxLen)(hb:b.size<=maxLen)(hr:r.size<=maxLen)(hc:c.size<=maxLen)(hd:d.size<=maxLen)(hs:s.size<=maxLen):
  Calls prog 62 #[.agg #[.string a,.string b,.string r,.string c,.string d,.string s]] w fun e w'=>e=.returned (.bool (bz a b r c d s))/\ag w w':=by
 by_cases h1:eZ a b=true
 ·by_cases h2:aP r=true
  ·by_cases h3:eZ c d=true
   ·have HT:Hid (bz a b r c d s=uL s):=zm h1 h2 h3;go_enter func62,ntmps62;go_wp2_with fail;refine(fU _ _ _ ha hb).mono ?_;rintro e w1 ⟨rfl,hb1⟩;obtain⟨hc1,hf1⟩:=jS hb1;have hz1:w.heap.size<w1.heap.size:=by have:=hb1.size;simp at this;omega
    go_wp2_with fail;refine(aL _ _ hr).mono ?_;rintro e w1' ⟨rfl,rfl⟩;go_wp2_with fail;refine(fU _ _ _ hc hd).mono ?_;rintro e w2 ⟨rfl,hb2⟩;obtain⟨hc2,hf2⟩:=jS hb2;have hz2:w.heap.size<w2.heap.size:=by have:=hb2.size;omega
    go_wp2_with(go_at_call 148;refine(C9 _ _ hs).mono ?_;rintro e w3 ⟨rfl,rfl⟩)
    all_goals go_ret
    all_goals exact⟨ah (HT.out.trans (by simp[uL, *])).symm,((Vs _ _).alloc (Vr _) _).trans ((hb1.mono (by simp)).trans (hb2.mono (by omega)))⟩
   have h3':eZ c d=false:=by simpa using h3
   have HT:Hid (bz a b r c d s=false):=zl h3';clear h3;go_enter func62,ntmps62;go_wp2_with fail;refine(fU _ _ _ ha hb).mono ?_;rintro e w1 ⟨rfl,hb1⟩;obtain⟨hc1,hf1⟩:=jS hb1;have hz1:w.heap.size<w1.heap.size:=by have:=hb1.size;simp at this;omega
   go_wp2_with fail;refine(aL _ _ hr).mono ?_;rintro e w1' ⟨rfl,rfl⟩;go_wp2_with fail;refine(fU _ _ _ hc hd).mono ?_;rintro e w2 ⟨rfl,hb2⟩;go_wp2;go_ret;exact⟨ah HT.out.symm,((Vs _ _).alloc (Vr _) _).trans ((hb1.mono (by simp)).trans (hb2.mono (by omega)))⟩
  have h2':aP r=false:=by simpa using h2
  have HT:Hid (bz a b r c d s=false):=zk h2';clear h2;go_enter func62,ntmps62;go_wp2_with fail;refine(fU _ _ _ ha hb).mono ?_;rintro e w1 ⟨rfl,hb1⟩;obtain⟨hc1,hf1⟩:=jS hb1;go_wp2_with fail;refine(aL _ _ hr).mono ?_;rintro e w1' ⟨rfl,rfl⟩;go_wp2;go_ret;exact⟨ah HT.out.symm,((Vs _ _).alloc (Vr _) _).trans (hb1.mono (by simp))⟩
 have h1':eZ a b=false:=by simpa using h1
 have HT:Hid (bz a b r c d s=false):=zi h1';clear h1;go_enter func62,ntmps62;go_wp2_with fail;refine(fU _ _ _ ha hb).mono ?_;rintro e w1 ⟨rfl,hb1⟩;go_wp2;go_ret;exact⟨ah HT.out.symm,((Vs _ _).alloc (Vr _) _).trans (hb1.mono (by simp))⟩
end Go.Proofs.YtojjoblnpldniaaGreat
namespace Go.Proofs.YtojjoblnpldniaaGreat
open ChangeShapes WideShapes ChangeAt RowKit
open Pl
attribute [local go_sem ↓] Go.wp_at_zero Go.wp_at_succ
theorem Tk{w W w':ae}{n:Nat}{x0 x1 x2 x3 x4 x5:Value}(h:W.cell? ⟨n,0,none⟩=some x0/\W.cell? ⟨n,1,none⟩=some x1/\W.cell? ⟨n,2,none⟩=some x2/\W.cell? ⟨n,3,none⟩=some x3/\W.cell? ⟨n,4,none⟩=some x4/\W.cell? ⟨n,5,none⟩=some x5/\n<W.heap.size/\Below n w W)(hb:ag W w'):w'.cell? ⟨n,0,none⟩=some x0/\w'.cell? ⟨n,1,none⟩=some x1/\w'.cell? ⟨n,2,none⟩=some x2/\w'.cell? ⟨n,3,none⟩=some x3/\w'.cell? ⟨n,4,none⟩=some x4/\w'.cell? ⟨n,5,none⟩=some x5/\n<w'.heap.size/\Below n w w':=by
 obtain⟨h0,h1,h2,h3,h4,h5,hn,hB⟩:=h;have hc:∀o,w'.cell? ⟨n,o,none⟩=W.cell? ⟨n,o,none⟩:=fun o=>hb.cell (p:=⟨n,o,none⟩) hn;refine⟨by rw[hc];exact h0,by rw[hc];exact h1,by rw[hc];exact h2,by rw[hc];exact h3,by rw[hc];exact h4,by rw[hc];exact h5,Vq hn hb.size,hB.trans (hb.mono (WH hn))⟩
theorem yC(a b r c d s:bQ)(w:ae)(ha:a.size<=maxLen)(hb:b.size<=maxLen)(hr:r.size<=maxLen)(hc:c.size<=maxLen)(hd:d.size<=maxLen)(hs:s.size<=maxLen):
  Calls prog 267 #[.agg #[.string a,.string b,.string r,.string c,.string d,.string s]] w fun e w'=>e=.returned (.string (aV a b r c d s))/\ag w w':=by
 by_cases hn:bz a b r c d s=true
 ·obtain⟨h1,h2,h3,h4⟩:=iZ hn;have hx:=ik a b;have hy:=ik c d;have YX:=(lX h2).2;have hs12:=yS h4;clear h1 h2 h3 h4;go_enter func267,ntmps267;go_wp2_with fail;refine(d9 _ _ _ _ _ _ _ ha hb hr hc hd hs).mono ?_;rintro e w1 ⟨rfl,hb1⟩;obtain⟨hc1,hf1⟩:=jS hb1;have hz1:w.heap.size<w1.heap.size:=by have:=hb1.size;simp at this;omega
  have k:∀o v,(w.alloc (.cells #[.string a,.string b,.string r,.string c,.string d,.string s] 29)).cell? ⟨w.heap.size,o,none⟩=some v->w1.cell? ⟨w.heap.size,o,none⟩=some v:=fun o v h=>by rw[hc1 _ _ (by simp)];exact h
  have k0:=k 0 (.string a) (by simp);have k1:=k 1 (.string b) (by simp);have k2:=k 2 (.string r) (by simp);have k3:=k 3 (.string c) (by simp);have k4:=k 4 (.string d) (by simp);have k5:=k 5 (.string s) (by simp);have HB1:ag w w1:=((Vs _ _).alloc (Vr _) _).trans (hb1.mono (by simp));clear k hb1 hc1 hf1;have q1:(9223372036854775807<(aB a b).size+1)=False:=by simp;omega
  have q2:(9223372036854775807<(aB a b).size+1+r.size)=False:=by simp;omega
  have q3:(9223372036854775807<(aB a b).size+1+r.size+1)=False:=by simp;omega
  have q4:(9223372036854775807<(aB a b).size+1+r.size+1+(aB c d).size)=False:=by simp;omega
  go_wp2_with fail
  go_region_held3 (fun w'=>w'.cell? ⟨w.heap.size,0,none⟩=some (.string a)/\w'.cell? ⟨w.heap.size,1,none⟩=some (.string b)/\w'.cell? ⟨w.heap.size,2,none⟩=some (.string r)/\w'.cell? ⟨w.heap.size,3,none⟩=some (.string c)/\w'.cell? ⟨w.heap.size,4,none⟩=some (.string d)/\w'.cell? ⟨w.heap.size,5,none⟩=some (.string s)/\w.heap.size<w'.heap.size/\ag w w')
   (first|exact Tk (by assumption) hbx|exact⟨k0,k1,k2,k3,k4,k5,hz1,HB1.drew⟩)
   (first|(go_at_call 307;refine(yA _ _ _ (by assumption) (by assumption)).mono ?_;rintro e w' ⟨rfl,hbx⟩))
  rename_i hH;obtain⟨g0,g1,g2,g3,g4,g5,gz,gB⟩:=hH;clear k0 k1 k2 k3 k4 k5 hbx q1 q2 q3 q4 HB1;by_cases he:s.toList.isEmpty=true
  ·have HT:Hid (aV a b r c d s=_):=mV hn he;go_wp2;go_ret;exact⟨fV HT.out.symm,gB⟩
  have he':s.toList.isEmpty=false:=by simpa using he
  have HT:Hid (aV a b r c d s=_):=mW hn he';clear he;go_wp2;go_ret;exact⟨fV HT.out.symm,gB⟩
 have hn':bz a b r c d s=false:=by simpa using hn
 have HT:Hid (aV a b r c d s=⟨#[]⟩):=tT hn';clear hn;go_enter func267,ntmps267;go_wp2_with fail;refine(d9 _ _ _ _ _ _ _ ha hb hr hc hd hs).mono ?_;rintro e w1 ⟨rfl,hb1⟩;go_wp2;go_ret;exact⟨fV HT.out.symm,((Vs _ _).alloc (Vr _) _).trans (hb1.mono (by simp))⟩
theorem yD(a b r c d s:bQ)(w:ae)(ha:a.size<=maxLen)(hb:b.size<=maxLen)(hr:r.size<=maxLen)(hc:c.size<=maxLen)(hd:d.size<=maxLen)(hs:s.size<=maxLen):
  Calls prog 216 #[.agg #[.string a,.string b,.string r,.string c,.string d,.string s]] w fun e w'=>e=.returned (.string (aV a b r c d s))/\ag w w':=by
 by_cases hn:bz a b r c d s=true
 ·obtain⟨h1,h2,h3,h4⟩:=iZ hn;have hx:=ik a b;have hy:=ik c d;have YX:=(lX h2).2;have hs12:=yS h4;clear h1 h2 h3 h4;go_enter func216,ntmps216;go_wp2_with fail;refine(dI _ _ _ _ _ _ _ ha hb hr hc hd hs).mono ?_;rintro e w1 ⟨rfl,hb1⟩;obtain⟨hc1,hf1⟩:=jS hb1;have hz1:w.heap.size<w1.heap.size:=by have:=hb1.size;simp at this;omega
  have k:∀o v,(w.alloc (.cells #[.string a,.string b,.string r,.string c,.string d,.string s] 29)).cell? ⟨w.heap.size,o,none⟩=some v->w1.cell? ⟨w.heap.size,o,none⟩=some v:=fun o v h=>by rw[hc1 _ _ (by simp)];exact h
  have k0:=k 0 (.string a) (by simp);have k1:=k 1 (.string b) (by simp);have k2:=k 2 (.string r) (by simp);have k3:=k 3 (.string c) (by simp);have k4:=k 4 (.string d) (by simp);have k5:=k 5 (.string s) (by simp);have HB1:ag w w1:=((Vs _ _).alloc (Vr _) _).trans (hb1.mono (by simp));clear k hb1 hc1 hf1;have q1:(9223372036854775807<(aB a b).size+1)=False:=by simp;omega
  have q2:(9223372036854775807<(aB a b).size+1+r.size)=False:=by simp;omega
  have q3:(9223372036854775807<(aB a b).size+1+r.size+1)=False:=by simp;omega
  have q4:(9223372036854775807<(aB a b).size+1+r.size+1+(aB c d).size)=False:=by simp;omega
  go_wp2_with fail
  go_region_held3 (fun w'=>w'.cell? ⟨w.heap.size,0,none⟩=some (.string a)/\w'.cell? ⟨w.heap.size,1,none⟩=some (.string b)/\w'.cell? ⟨w.heap.size,2,none⟩=some (.string r)/\w'.cell? ⟨w.heap.size,3,none⟩=some (.string c)/\w'.cell? ⟨w.heap.size,4,none⟩=some (.string d)/\w'.cell? ⟨w.heap.size,5,none⟩=some (.string s)/\w.heap.size<w'.heap.size/\ag w w')
   (first|exact Tk (by assumption) hbx|exact⟨k0,k1,k2,k3,k4,k5,hz1,HB1.drew⟩)
   (first|(go_at_call 276;refine(yB _ _ _ (by assumption) (by assumption)).mono ?_;rintro e w' ⟨rfl,hbx⟩))
  rename_i hH;obtain⟨g0,g1,g2,g3,g4,g5,gz,gB⟩:=hH;clear k0 k1 k2 k3 k4 k5 hbx q1 q2 q3 q4 HB1;by_cases he:s.toList.isEmpty=true
  ·have HT:Hid (aV a b r c d s=_):=mV hn he;go_wp2;go_ret;exact⟨fV HT.out.symm,gB⟩
  have he':s.toList.isEmpty=false:=by simpa using he
  have HT:Hid (aV a b r c d s=_):=mW hn he';clear he;go_wp2;go_ret;exact⟨fV (HT.out.trans (by simp only[Wm])).symm,gB⟩
 have hn':bz a b r c d s=false:=by simpa using hn
 have HT:Hid (aV a b r c d s=⟨#[]⟩):=tT hn';clear hn;go_enter func216,ntmps216;go_wp2_with fail;refine(dI _ _ _ _ _ _ _ ha hb hr hc hd hs).mono ?_;rintro e w1 ⟨rfl,hb1⟩;go_wp2;go_ret;exact⟨fV HT.out.symm,((Vs _ _).alloc (Vr _) _).trans (hb1.mono (by simp))⟩
end Go.Proofs.YtojjoblnpldniaaGreat
namespace Go.Proofs.YtojjoblnpldniaaGreat
open ChangeShapes WideShapes ChangeAt RowKit
open Pl
attribute [local go_sem ↓] Go.wp_at_zero Go.wp_at_succ
theorem Jg{w W w':ae}{n m k:Nat}{x0 x1 x2 x3 x4 x5 y0 y1 y2 y3 y4 y5:Value}(hk:k<=n)(h:W.cell? ⟨n,0,none⟩=some x0/\W.cell? ⟨n,1,none⟩=some x1/\W.cell? ⟨n,2,none⟩=some x2/\W.cell? ⟨n,3,none⟩=some x3/\W.cell? ⟨n,4,none⟩=some x4/\W.cell? ⟨n,5,none⟩=some x5/\W.cell? ⟨m,0,none⟩=some y0/\W.cell? ⟨m,1,none⟩=some y1/\W.cell? ⟨m,2,none⟩=some y2/\W.cell? ⟨m,3,none⟩=some y3/\W.cell? ⟨m,4,none⟩=some y4/\W.cell? ⟨m,5,none⟩=some y5/\n<W.heap.size/\m<W.heap.size/\Below k w W)(hb:ag W w'):w'.cell? ⟨n,0,none⟩=some x0/\w'.cell? ⟨n,1,none⟩=some x1/\w'.cell? ⟨n,2,none⟩=some x2/\w'.cell? ⟨n,3,none⟩=some x3/\w'.cell? ⟨n,4,none⟩=some x4/\w'.cell? ⟨n,5,none⟩=some x5/\w'.cell? ⟨m,0,none⟩=some y0/\w'.cell? ⟨m,1,none⟩=some y1/\w'.cell? ⟨m,2,none⟩=some y2/\w'.cell? ⟨m,3,none⟩=some y3/\w'.cell? ⟨m,4,none⟩=some y4/\w'.cell? ⟨m,5,none⟩=some y5/\n<w'.heap.size/\m<w'.heap.size/\Below k w w':=by
 obtain⟨h0,h1,h2,h3,h4,h5,h6,h7,h8,h9,h10,h11,hn,hm,hB⟩:=h;have hc:∀o,w'.cell? ⟨n,o,none⟩=W.cell? ⟨n,o,none⟩:=fun o=>hb.cell (p:=⟨n,o,none⟩) hn;have hd:∀o,w'.cell? ⟨m,o,none⟩=W.cell? ⟨m,o,none⟩:=fun o=>hb.cell (p:=⟨m,o,none⟩) hm;exact⟨by rw[hc];exact h0,by rw[hc];exact h1,by rw[hc];exact h2,by rw[hc];exact h3,by rw[hc];exact h4,by rw[hc];exact h5,by rw[hd];exact h6,by rw[hd];exact h7,by rw[hd];exact h8,by rw[hd];exact h9,by rw[hd];exact h10,by rw[hd];exact h11,Vq hn hb.size,Vq hm hb.size,hB.trans (hb.mono (by omega))⟩
theorem zL(w:ae)(o1 o2:Obj):ag w ((w.alloc o1).alloc o2) :=
 ((Vs _ _).alloc (Vr _) _).alloc (by simp) _
def Ev(a b r c d s a' b' r' c' d' s':ByteArray):Int:=Lib.compareBytes (aV a b r c d s).data.toList (aV a' b' r' c' d' s').data.toList
theorem oV(x y:List UInt8):decide (Lib.compareBytes x y<0)=Op.bytesLess x y:=by
 induction x generalizing y with
 | nil=>cases y<;>simp[Lib.compareBytes,Op.bytesLess]
 | cons a x ih =>
  cases y with
  | nil=>simp[Lib.compareBytes,Op.bytesLess]
  | cons b y =>
   unfold Lib.compareBytes Op.bytesLess;by_cases h:a<b
   ·simp[h]
   by_cases h2:b<a
   ·have hne:(a==b)=false:=by simp;intro e;subst e;exact h h2
    simp[h,h2,hne]
   have he:a=b:=by
    have h1:=UInt8.not_lt.mp h;have h3:=UInt8.not_lt.mp h2;exact UInt8.le_antisymm h3 h1
   subst he;simp[ih]
theorem Tm(a b r c d s a' b' r' c' d' s':bQ)(w W:ae)(hW:W=((w.alloc (.cells #[.string a,.string b,.string r,.string c,.string d,.string s] 29)).alloc (.cells #[.string a',.string b',.string r',.string c',.string d',.string s'] 29))):W.drew.cell? ⟨w.heap.size,0,none⟩=some (.string a)/\W.drew.cell? ⟨w.heap.size,1,none⟩=some (.string b)/\W.drew.cell? ⟨w.heap.size,2,none⟩=some (.string r)/\W.drew.cell? ⟨w.heap.size,3,none⟩=some (.string c)/\W.drew.cell? ⟨w.heap.size,4,none⟩=some (.string d)/\W.drew.cell? ⟨w.heap.size,5,none⟩=some (.string s)/\W.drew.cell? ⟨w.heap.size+1,0,none⟩=some (.string a')/\W.drew.cell? ⟨w.heap.size+1,1,none⟩=some (.string b')/\W.drew.cell? ⟨w.heap.size+1,2,none⟩=some (.string r')/\W.drew.cell? ⟨w.heap.size+1,3,none⟩=some (.string c')/\W.drew.cell? ⟨w.heap.size+1,4,none⟩=some (.string d')/\W.drew.cell? ⟨w.heap.size+1,5,none⟩=some (.string s')/\w.heap.size<W.drew.heap.size/\w.heap.size+1<W.drew.heap.size/\ag w (W.drew):=by
 subst hW;refine⟨?_,?_,?_,?_,?_,?_,?_,?_,?_,?_,?_,?_,?_,?_,?_⟩
 all_goals first|exact(zL _ _ _).drew|(simp;done)|(simp;omega)
theorem uV(a b r c d s a' b' r' c' d' s':bQ)(w:ae)(ha:a.size<=maxLen)(hb:b.size<=maxLen)(hr:r.size<=maxLen)(hc:c.size<=maxLen)(hd:d.size<=maxLen)(hs:s.size<=maxLen)(ga:a'.size<=maxLen)(gb:b'.size<=maxLen)(gr:r'.size<=maxLen)(gc:c'.size<=maxLen)(gd:d'.size<=maxLen)(gs:s'.size<=maxLen):
  Calls prog 139 #[.agg #[.string a,.string b,.string r,.string c,.string d,.string s],.agg #[.string a',.string b',.string r',.string c',.string d',.string s']] w fun e w'=>e=.returned (.int .i64 (Ev a b r c d s a' b' r' c' d' s'))/\ag w w':=by
 have H0:=Tm a b r c d s a' b' r' c' d' s' w _ rfl;go_enter func139,ntmps139;go_wp2_with fail
 go_region_held3 (fun w'=>w'.cell? ⟨w.heap.size,0,none⟩=some (.string a)/\w'.cell? ⟨w.heap.size,1,none⟩=some (.string b)/\w'.cell? ⟨w.heap.size,2,none⟩=some (.string r)/\w'.cell? ⟨w.heap.size,3,none⟩=some (.string c)/\w'.cell? ⟨w.heap.size,4,none⟩=some (.string d)/\w'.cell? ⟨w.heap.size,5,none⟩=some (.string s)/\w'.cell? ⟨w.heap.size+1,0,none⟩=some (.string a')/\w'.cell? ⟨w.heap.size+1,1,none⟩=some (.string b')/\w'.cell? ⟨w.heap.size+1,2,none⟩=some (.string r')/\w'.cell? ⟨w.heap.size+1,3,none⟩=some (.string c')/\w'.cell? ⟨w.heap.size+1,4,none⟩=some (.string d')/\w'.cell? ⟨w.heap.size+1,5,none⟩=some (.string s')/\w.heap.size<w'.heap.size/\w.heap.size+1<w'.heap.size/\ag w w')
  (first|assumption|exact Jg (Vr _) (by assumption) hbx|exact H0)
  (first|(go_at_call 216;refine(yD _ _ _ _ _ _ _ (by assumption) (by assumption) (by assumption) (by assumption) (by assumption) (by assumption)).mono ?_;rintro e w' ⟨rfl,hbx⟩)|(go_at_call 197;refine(Tryz.strings_Compare _ _ _).mono ?_;rintro e w' ⟨rfl,rfl⟩))
 rename_i hH;obtain⟨-,-,-,-,-,-,-,-,-,-,-,-,-,-,gB⟩:=hH;go_wp2;go_ret;exact⟨rfl,gB⟩
def fO(a b r c d s a' b' r' c' d' s':ByteArray):Bool:=bz a b r c d s&&bz a' b' r' c' d' s'&&Op.bytesLess (aV a b r c d s).toList (aV a' b' r' c' d' s').toList
theorem zM{a b r c d s a' b' r' c' d' s':ByteArray}(h:bz a b r c d s=false):fO a b r c d s a' b' r' c' d' s'=false:=by simp[fO,h]
theorem zP{a b r c d s a' b' r' c' d' s':ByteArray}(h:bz a' b' r' c' d' s'=false):fO a b r c d s a' b' r' c' d' s'=false:=by simp[fO,h]
theorem uh{a b r c d s a' b' r' c' d' s':ByteArray}(h:bz a b r c d s=true)(h2:bz a' b' r' c' d' s'=true):fO a b r c d s a' b' r' c' d' s'=Op.bytesLess (aV a b r c d s).toList (aV a' b' r' c' d' s').toList:=by simp[fO,h,h2]
theorem Jh{a b r c d s a' b' r' c' d' s':ByteArray}(h:bz a b r c d s=true)(h2:bz a' b' r' c' d' s'=true):fO a b r c d s a' b' r' c' d' s'=decide (Ev a b r c d s a' b' r' c' d' s'<0):=by
 rw[uh h h2,Ev,oV,Go.ByteArray.toList_eq,Go.ByteArray.toList_eq]
theorem nH(a b r c d s a' b' r' c' d' s':bQ)(w:ae)(ha:a.size<=maxLen)(hb:b.size<=maxLen)(hr:r.size<=maxLen)(hc:c.size<=maxLen)(hd:d.size<=maxLen)(hs:s.size<=maxLen)(ga:a'.size<=maxLen)(gb:b'.size<=maxLen)(gr:r'.size<=maxLen)(gc:c'.size<=maxLen)(gd:d'.size<=maxLen)(gs:s'.size<=maxLen):
  Calls prog 199 #[.agg #[.string a,.string b,.string r,.string c,.string d,.string s],.agg #[.string a',.string b',.string r',.string c',.string d',.string s']] w fun e w'=>e=.returned (.bool (fO a b r c d s a' b' r' c' d' s'))/\ag w w':=by
 have H0:=Tm a b r c d s a' b' r' c' d' s' w _ rfl;by_cases h1:bz a b r c d s=true
 ·by_cases h2:bz a' b' r' c' d' s'=true
  ·have HT:Hid (fO a b r c d s a' b' r' c' d' s'=_):=uh h1 h2;go_enter func199,ntmps199;go_wp2_with fail
   go_region_held3 (fun w'=>w'.cell? ⟨w.heap.size,0,none⟩=some (.string a)/\w'.cell? ⟨w.heap.size,1,none⟩=some (.string b)/\w'.cell? ⟨w.heap.size,2,none⟩=some (.string r)/\w'.cell? ⟨w.heap.size,3,none⟩=some (.string c)/\w'.cell? ⟨w.heap.size,4,none⟩=some (.string d)/\w'.cell? ⟨w.heap.size,5,none⟩=some (.string s)/\w'.cell? ⟨w.heap.size+1,0,none⟩=some (.string a')/\w'.cell? ⟨w.heap.size+1,1,none⟩=some (.string b')/\w'.cell? ⟨w.heap.size+1,2,none⟩=some (.string r')/\w'.cell? ⟨w.heap.size+1,3,none⟩=some (.string c')/\w'.cell? ⟨w.heap.size+1,4,none⟩=some (.string d')/\w'.cell? ⟨w.heap.size+1,5,none⟩=some (.string s')/\w.heap.size<w'.heap.size/\w.heap.size+1<w'.heap.size/\ag w w')
    (first|assumption|exact Jg (Vr _) (by assumption) hbx|exact H0)
    (first|(go_at_call_of 198 (Value.agg #[.string a,.string b,.string r,.string c,.string d,.string s]);refine(d9 a b r c d s _ ha hb hr hc hd hs).mono ?_;rintro e w' ⟨he,hbx⟩;rw[h1]at he;subst he)|(go_at_call_of 198 (Value.agg #[.string a',.string b',.string r',.string c',.string d',.string s']);refine(d9 a' b' r' c' d' s' _ ga gb gr gc gd gs).mono ?_;rintro e w' ⟨he,hbx⟩;rw[h2]at he;subst he)|(go_at_call 267;refine(yC _ _ _ _ _ _ _ (by assumption) (by assumption) (by assumption) (by assumption) (by assumption) (by assumption)).mono ?_;rintro e w' ⟨rfl,hbx⟩))
   rename_i hH;obtain⟨-,-,-,-,-,-,-,-,-,-,-,-,-,-,gB⟩:=hH;clear H0;go_wp2;go_ret;exact⟨ah HT.out.symm,gB⟩
  have h2':bz a' b' r' c' d' s'=false:=by simpa using h2
  have HT:Hid (fO a b r c d s a' b' r' c' d' s'=false):=zP h2';clear h2;obtain⟨u0,u1,u2,u3,u4,u5,u6,u7,u8,u9,u10,u11,un,um,uB⟩:=H0;go_enter func199,ntmps199;go_wp2_with fail
  go_region_with (first|(go_at_call_of 198 (Value.agg #[.string a,.string b,.string r,.string c,.string d,.string s]);refine(d9 a b r c d s _ ha hb hr hc hd hs).mono ?_;rintro e w1 ⟨he,hbx⟩;rw[h1]at he;subst he;obtain⟨k0,k1,k2,k3,k4,k5,k6,k7,k8,k9,k10,k11,kn,km,kB⟩:=Jg (Vr _) ⟨u0,u1,u2,u3,u4,u5,u6,u7,u8,u9,u10,u11,un,um,uB⟩ hbx)|(go_at_call_of 198 (Value.agg #[.string a',.string b',.string r',.string c',.string d',.string s']);refine(d9 a' b' r' c' d' s' _ ga gb gr gc gd gs).mono ?_;rintro e w2 ⟨he,hby⟩;rw[h2']at he;subst he))
  all_goals clear u0 u1 u2 u3 u4 u5 u6 u7 u8 u9 u10 u11
  all_goals go_wp2
  all_goals go_ret
  all_goals exact⟨ah HT.out.symm,kB.trans (hby.mono (by omega))⟩
 have h1':bz a b r c d s=false:=by simpa using h1
 have HT:Hid (fO a b r c d s a' b' r' c' d' s'=false):=zM h1';clear h1;obtain⟨u0,u1,u2,u3,u4,u5,u6,u7,u8,u9,u10,u11,un,um,uB⟩:=H0;go_enter func199,ntmps199;go_wp2_with fail
 go_region_with (go_at_call_of 198 (Value.agg #[.string a,.string b,.string r,.string c,.string d,.string s]);refine(d9 a b r c d s _ ha hb hr hc hd hs).mono ?_;rintro e w1 ⟨he,hbx⟩;rw[h1']at he;subst he)
 all_goals clear u0 u1 u2 u3 u4 u5 u6 u7 u8 u9 u10 u11
 all_goals go_wp2
 all_goals go_ret
 all_goals exact⟨ah HT.out.symm,uB.trans (hbx.mono (by omega))⟩
theorem Cj(a b r c d s a' b' r' c' d' s':bQ)(w:ae)(ha:a.size<=maxLen)(hb:b.size<=maxLen)(hr:r.size<=maxLen)(hc:c.size<=maxLen)(hd:d.size<=maxLen)(hs:s.size<=maxLen)(ga:a'.size<=maxLen)(gb:b'.size<=maxLen)(gr:r'.size<=maxLen)(gc:c'.size<=maxLen)(gd:d'.size<=maxLen)(gs:s'.size<=maxLen):
  Calls prog 110 #[.agg #[.string a,.string b,.string r,.string c,.string d,.string s],.agg #[.string a',.string b',.string r',.string c',.string d',.string s']] w fun e w'=>e=.returned (.bool (fO a b r c d s a' b' r' c' d' s'))/\ag w w':=by
 by_cases h1:bz a b r c d s=true
 ·by_cases h2:bz a' b' r' c' d' s'=true
  ·have HT:Hid (fO a b r c d s a' b' r' c' d' s'=decide (Ev a b r c d s a' b' r' c' d' s'<0)):=Jh h1 h2;go_enter func110,ntmps110;go_wp2_with fail;refine(dI _ _ _ _ _ _ _ ha hb hr hc hd hs).mono ?_;rintro e w1 ⟨rfl,hb1⟩;obtain⟨hc1,hf1⟩:=jS hb1;have hz1:w.heap.size+1<w1.heap.size:=by have:=hb1.size;simp at this;omega
   have hy1:w.heap.size<w1.heap.size:=by omega
   have HB1:ag w w1:=(zL _ _ _).trans (hb1.mono (by simp;omega));go_wp2_with fail;refine(dI _ _ _ _ _ _ _ ga gb gr gc gd gs).mono ?_;rintro e w2 ⟨rfl,hb2⟩;obtain⟨hc2,hf2⟩:=jS hb2;have hz2:w.heap.size+1<w2.heap.size:=by have:=hb2.size;omega
   have hy2:w.heap.size<w2.heap.size:=by omega
   go_wp2_with fail;refine(uV _ _ _ _ _ _ _ _ _ _ _ _ _ ha hb hr hc hd hs ga gb gr gc gd gs).mono ?_;rintro e w3 ⟨rfl,hb3⟩;go_wp2;go_ret;exact⟨ah HT.out.symm,HB1.trans ((hb2.mono (by omega)).trans (hb3.mono (by omega)))⟩
  have h2':bz a' b' r' c' d' s'=false:=by simpa using h2
  have HT:Hid (fO a b r c d s a' b' r' c' d' s'=false):=zP h2';clear h2;go_enter func110,ntmps110;go_wp2_with fail;refine(dI _ _ _ _ _ _ _ ha hb hr hc hd hs).mono ?_;rintro e w1 ⟨rfl,hb1⟩;obtain⟨hc1,hf1⟩:=jS hb1;have hz1:w.heap.size+1<w1.heap.size:=by have:=hb1.size;simp at this;omega
  have hy1:w.heap.size<w1.heap.size:=by omega
  have HB1:ag w w1:=(zL _ _ _).trans (hb1.mono (by simp;omega));go_wp2_with fail;refine(dI _ _ _ _ _ _ _ ga gb gr gc gd gs).mono ?_;rintro e w2 ⟨rfl,hb2⟩;go_wp2;go_ret;exact⟨ah HT.out.symm,HB1.trans (hb2.mono (by omega))⟩
 have h1':bz a b r c d s=false:=by simpa using h1
 have HT:Hid (fO a b r c d s a' b' r' c' d' s'=false):=zM h1';clear h1;go_enter func110,ntmps110;go_wp2_with fail;refine(dI _ _ _ _ _ _ _ ha hb hr hc hd hs).mono ?_;rintro e w1 ⟨rfl,hb1⟩;obtain⟨hc1,hf1⟩:=jS hb1;have hz1:w.heap.size+1<w1.heap.size:=by have:=hb1.size;simp at this;omega
 have hy1:w.heap.size<w1.heap.size:=by omega
 have HB1:ag w w1:=(zL _ _ _).trans (hb1.mono (by simp;omega));go_wp2;go_ret;exact⟨ah HT.out.symm,HB1⟩
end Go.Proofs.YtojjoblnpldniaaGreat
