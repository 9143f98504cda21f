/- The text of an expression, in plain words; how long it can be. -/
import Derived.Test.YtojjoblnpldniaaGreatSq
import Derived.Lib.Join
import Derived.Test.YtojjoblnpldniaaGreatJ9
open Go.Proofs.Tryz
set_option maxHeartbeats 80000000
namespace Go.Proofs.YtojjoblnpldniaaGreat
open Pl
theorem iU{a b:ByteArray}(h:a.data.toList=b.data.toList):a=b:=by
 cases a;cases b;congr;exact Array.toList_inj.1 h
def dP(sep:ByteArray)(xs:List ByteArray):ByteArray:=⟨(Lib.join (xs.map (·.data.toList)) sep.data.toList).toArray⟩
theorem Dy(sep:bi):dP sep []=⟨#[]⟩:=rfl
theorem inter_snoc{α:Type}(s:List α):∀(l:List (List α)) (x:List α),s.intercalate (l++[x])=if l=[] then x else s.intercalate l++(s++x)
 | [],x=>by simp[List.intercalate]
 | [a],x=>by simp[List.intercalate]
 | a::b::l,x=>by
  have ih:=inter_snoc s (b::l) x;simp only[Wq,List.intercalate,List.intersperse,reduceCtorEq,if_false]at ih ⊢;simp only[List.flatten_cons]at ih ⊢;rw[ih];simp
theorem pX(sep:bi)(xs:List ByteArray)(x:bi):dP sep (xs++[x])=if xs=[] then x else dP sep xs++sep++x:=by
 apply iU;unfold dP Lib.join;rw[Wl,WC,List.map_nil,inter_snoc];by_cases h:xs=[]
 ·simp[h]
 simp[h,ByteArray.data_append]
theorem mP(sep:bi)(b:Nat):∀(n:Nat) (xs:List ByteArray),xs.length=n->(∀x∈xs,x.size<=b)->(dP sep xs).size<=n*(b+sep.size)
 | 0,xs,hn,_=>by
  have:xs=[]:=List.eq_nil_of_length_eq_zero hn;subst this;simp[Dy];rfl
 | n+1,xs,hn,hx=>by
  obtain⟨ys,y,rfl⟩:∃ys y,xs=ys++[y]:=by
   have hne:xs≠[]:=by intro e;simp[e]at hn
   exact⟨xs.dropLast,xs.getLast hne,(List.dropLast_concat_getLast hne).symm⟩
  have hl:ys.length=n:=by simp at hn;exact hn
  have ih:=mP sep b n ys hl (fun x h=>hx x (by simp[h]));have hy:=hx y (by simp);rw[pX,Nat.succ_mul];by_cases h:ys=[]
  ·rw[if_pos h];omega
  rw[if_neg h,VK,VK];omega
def bG(a:Al):ByteArray:=if a.s.toList.isEmpty then a.t else a.t++⟨#[35]⟩++a.s
def mQ(xs:Q0a):ByteArray:=⟨#[116,104,105,115,40]⟩++dP ⟨#[44]⟩ (xs.map bG)++⟨#[41]⟩
def dY(k:Int):ByteArray:=if k=4 then ⟨#[32,124,32]⟩ else if k=5 then ⟨#[32,38,32]⟩ else ⟨#[32,45,32]⟩
theorem ku(k:Int):(dY k).size=3:=by
 unfold dY;split
 ·rfl
 split<;>rfl
def ji(f:Int->ByteArray)(e:Ex):ByteArray :=
 if e.kind=1 then mQ e.allow else if e.kind=2 then e.name else if e.kind=3 then e.over++⟨#[45,62]⟩++e.name else dP (dY e.kind) (e.kids.map f)
def inT(e:Ex)(inside:Bool)(t:ByteArray):ByteArray:=if inside && !(decide (e.kind=1) || decide (e.kind=2) || decide (e.kind=3)) then ⟨#[40]⟩++t++⟨#[41]⟩ else t
def E9(es:Q09)(n:Nat):Ex:=es[n]?.getD ⟨0,[],⟨#[]⟩,⟨#[]⟩,[]⟩
def txt(es:Q09)(n:Nat):ByteArray:=inT (E9 es n) true (ji (fun x=>if _h:x.toNat<n then txt es x.toNat else ⟨#[]⟩) (E9 es n))
def iH(es:Q09)(n:Nat)(x:Int):ByteArray:=if x.toNat<n then txt es x.toNat else ⟨#[]⟩
def gy(es:Q09)(n:Nat)(inside:Bool):ByteArray:=inT (E9 es n) inside (ji (iH es n) (E9 es n))
theorem xP(es:Q09)(n:Nat):txt es n=gy es n true:=by
 rw[txt];rfl
def AC:Nat->Nat
 | 0=>200
 | n+1=>AC n*6
theorem LW(n:Nat):200<=AC n:=by
 induction n with
 | zero=>exact Vu _
 | succ n ih=>simp only[AC];omega
theorem Dz{m n:Nat}(h:m<=n):AC m<=AC n:=by
 induction h with
 | refl=>exact Vu _
 | step _ ih=>simp only[AC];omega
theorem R3:AC 14<=20000000000000:=by decide
theorem aS{s:ByteArray}(h:aP s=true):s.size<=12:=by
 simp only[aP,dR,oo,Vw,VH]at h;exact h.1.1.2
theorem uH{s:ByteArray}(h:vg s=true):s.size<=12:=by
 unfold vg at h;rw[Bool.or_eq_true]at h;rcases h with h|h
 ·have h2:s.data.toList=[]:=by rw[Go.ByteArray.toList_eq]at h;simpa using h
  have h3:s.data.toList.length=0:=by rw[h2];rfl
  have:s.size=s.data.toList.length:=rfl;omega
 exact aS h
theorem vO{xs:Q0a}:∀{k:Nat},EF xs k=true->∀(i:Nat) (h:i<xs.length),i<k->EE xs[i]=true
 | 0,_,i,_,hi=>by omega
 | k+1,hk,i,h,hi=>by
  unfold EF at hk;rw[Vw]at hk;by_cases e:i=k
  ·subst e;have:=hk.2;simp only[VG h,Option.map_some,Wn,Vw]at this;exact this.1
  exact vO hk.1 i h (by omega)
theorem nJ{a:Al}(h:EE a=true):(bG a).size<=25:=by
 unfold EE at h;rw[Vw]at h;have h1:=aS h.1;have h2:=uH h.2;have e1:(⟨#[35]⟩:ByteArray).size=1:=rfl;unfold bG;split
 ·omega
 simp only[VK];omega
theorem jk{xs:Q0a}(h:dx xs=true):(mQ xs).size<=190:=by
 unfold dx at h;simp only [Vw,VH]at h;have hj:=mP ⟨#[44]⟩ 25 _ (xs.map bG) rfl (fun x hx=>by
  obtain⟨a,ha,rfl⟩:=VE.1 hx;obtain⟨i,hi,rfl⟩:=V4 ha;exact nJ (vO h.2 i hi hi))
 have e1:(⟨#[116,104,105,115,40]⟩:ByteArray).size=5:=rfl;have e2:(⟨#[41]⟩:ByteArray).size=1:=rfl;have e3:(⟨#[44]⟩:ByteArray).size=1:=rfl;have e4:(xs.map bG).length<=6:=by simp;exact h.1.2
 unfold mQ;simp only[VK];rw[e3]at hj;have:(xs.map bG).length*(25+1)<=6*26:=Nat.mul_le_mul_right _ e4;omega
def TA(es:Q09):Prop:=es.length<=15/\(∀(i:Nat) (h:i<es.length),av es[i]=true)/\∀i,i<es.length->lc es i=true
theorem JP{es:Q09}(h:aI es=true):TA es:=by
 unfold aI at h;simp only[Vw,VH]at h;refine⟨h.1.1.1.1.2,fun i hi=>?_,fun i hi=>?_⟩
 ·have:=h.1.1.1.2;rw[VF]at this;exact this _ (Vs hi)
 have:=h.1.1.2;unfold jq at this;rw[VF]at this;exact this i (by simpa using hi)
theorem kL{e:Ex}(h:av e=true):e.kids.length<=5/\(e.kind=1\/e.kind=2\/e.kind=3\/e.kind=4\/e.kind=5\/e.kind=6):=by
 unfold av at h;split at h
 ·rename_i k;simp at h;exact⟨by simp[h.2],.inl k⟩
 split at h
 ·rename_i k;simp at h;exact⟨by simp[h.2],.inr (.inl k)⟩
 split at h
 ·rename_i k;simp at h;exact⟨by simp[h.2],.inr (.inr (.inl k))⟩
 split at h
 ·rename_i k;simp at h;exact⟨by omega,by omega⟩
 split at h
 ·rename_i k;simp at h;exact⟨by omega,by omega⟩
 cases h
theorem AJ{es:Q09}(hes:TA es){n:Nat}(hn:n<es.length)(b:Nat)(hb:200<=b)(f:Int->ByteArray)(hf:∀k∈es[n].kids,(f k).size<=b):(ji f es[n]).size<=b*5+20:=by
 have WN:=hes.2.1 n hn;obtain⟨hk,hkind⟩:=kL WN;unfold ji;unfold av at WN;split
 ·rename_i k;rw[if_pos k]at WN;simp only[Vw]at WN;have:=jk WN.1.1.1;omega
 rename_i k1;rw[if_neg k1]at WN;split
 ·rename_i k2;rw[if_pos k2]at WN;simp only[Vw]at WN;have:=aS WN.1.1.1;omega
 rename_i k2;rw[if_neg k2]at WN;split
 ·rename_i k3;rw[if_pos k3]at WN;simp only[Vw]at WN;have h1:=aS WN.1.1.1;have h2:=aS WN.1.1.2;have e1:(⟨#[45,62]⟩:ByteArray).size=2:=rfl;simp only[VK];omega
 have hj:=mP (dY es[n].kind) b _ (es[n].kids.map f) rfl (fun x hx=>by obtain⟨k,hk,rfl⟩:=VE.1 hx;exact hf k hk);rw[ku]at hj;have:(es[n].kids.map f).length*(b+3)<=5*(b+3):=Nat.mul_le_mul_right _ (by simp;exact hk);omega
theorem G5(e:Ex)(i:Bool)(t:bi):(inT e i t).size<=t.size+2:=by
 have e1:(⟨#[40]⟩:ByteArray).size=1:=rfl;have e2:(⟨#[41]⟩:ByteArray).size=1:=rfl;unfold inT;split
 ·simp only[VK];omega
 omega
theorem si{es:Q09}{n:Nat}(h:n<es.length):E9 es n=es[n]:=by simp[E9,h]
theorem sj{es:Q09}(hes:TA es){n:Nat}(hn:n<es.length):∀k∈es[n].kids,0<=k/\k.toNat<n:=by
 intro k hk;have:=hes.2.2 n hn;unfold lc at this;rw[VF]at this;have h1:=this k (by simp[dD,hn,hk]);simp at h1;omega
theorem JQ{es:Q09}(hes:TA es)(n:Nat):n<es.length->∀i,(gy es n i).size<=AC n:=by
 induction n using Nat.strongRecOn with
 | ind n ih =>
  intro hn i;unfold gy;rw[si hn];have h1:=G5 es[n] i (ji (iH es n) es[n]);cases n with
  | zero =>
   have h2:=AJ hes hn 200 (Vu _) (iH es 0) (fun k hk=>by have:=sj hes hn k hk;omega);have hno:es[0].kids=[]:=by
    cases hk:es[0].kids with
    | nil=>rfl
    | cons k ks=>have:=sj hes hn k (by rw[hk];simp);omega
   have WN:=hes.2.1 0 hn;have h3:(ji (iH es 0) es[0]).size<=195:=by
    unfold ji;unfold av at WN;split
    ·rename_i k;rw[if_pos k]at WN;simp only[Vw]at WN;have:=jk WN.1.1.1;omega
    rename_i k1;rw[if_neg k1]at WN;split
    ·rename_i k2;rw[if_pos k2]at WN;simp only[Vw]at WN;have:=aS WN.1.1.1;omega
    rename_i k2;rw[if_neg k2]at WN;split
    ·rename_i k3;rw[if_pos k3]at WN;simp only[Vw]at WN;have h1:=aS WN.1.1.1;have h2:=aS WN.1.1.2;have e1:(⟨#[45,62]⟩:ByteArray).size=2:=rfl;simp only[VK];omega
    rw[hno];have:(dP (dY es[0].kind) (List.map (iH es 0) [])).size=0:=rfl;omega
   simp only[AC];omega
  | succ m =>
   have h2:=AJ hes hn (AC m) (LW m) (iH es (m+1)) (fun k hk=>by
    have hlt:=sj hes hn k hk;unfold iH;rw[if_pos hlt.2,xP];exact Vz (ih k.toNat hlt.2 (by omega) true) (Dz (by omega)))
   have:=LW m;simp only[AC];omega
structure RS where
 p:Nat
 bad:Bool
 out:List Ex
def fU:ByteArray:=⟨#[116,104,105,115,40]⟩
def vP:ByteArray:=⟨#[35]⟩
def fH:ByteArray:=⟨#[41]⟩
def mR:ByteArray:=⟨#[44]⟩
def jR:ByteArray:=⟨#[40]⟩
def pY:ByteArray:=⟨#[45,62]⟩
def aU(k:Int):ByteArray:=if k=4 then ⟨#[32,124,32]⟩ else if k=5 then ⟨#[32,38,32]⟩ else ⟨#[32,45,32]⟩
def eH(s w:ByteArray)(p:Nat):Bool:=decide (p+w.size<=s.size)&&(s.extract p (p+w.size)).toList==w.toList
def lQ(s w:ByteArray)(st:RS):Bool:=!st.bad&&eH s w st.p
def kM(w:ByteArray)(st:RS):RS:=⟨st.p+w.size,st.bad,st.out⟩
def ax(s:ByteArray)(p:Nat):Nat:=((s.data.toList.drop p).takeWhile fA).length
def aA(s:ByteArray)(p:Nat):ByteArray:=s.extract p (p+ax s p)
def sV(x:Ex)(st:RS):RS:=⟨st.p,st.bad || decide (15<st.out.length+1),st.out++[x]⟩
def vQ(st:RS):RS:=⟨st.p,true,st.out⟩
def ze(s:ByteArray)(st:RS):ByteArray:=if lQ s vP st then aA s (st.p+1) else ⟨#[]⟩
def aT(s:ByteArray)(st:RS):RS:=if lQ s vP st then ⟨st.p+1+ax s (st.p+1),st.bad,st.out⟩ else st
def bu(s:ByteArray)(st:RS):RS:=⟨st.p+ax s st.p,st.bad,st.out⟩
def dH(s:ByteArray):Nat->List Al->RS->Option (List Al)×RS
 | 0,_,st=>(none,st)
 | n+1,xs,st =>
  if st.bad then (none,st)
  else if lQ s fH (aT s (bu s st)) then (some (xs++[⟨aA s st.p,ze s (bu s st)⟩]),kM fH (aT s (bu s st)))
  else if lQ s mR (aT s (bu s st)) then dH s n (xs++[⟨aA s st.p,ze s (bu s st)⟩]) (kM mR (aT s (bu s st)))
  else dH s n (xs++[⟨aA s st.p,ze s (bu s st)⟩]) (vQ (aT s (bu s st)))
def fE(s:ByteArray)(st:RS):Ex :=
 if lQ s pY (bu s st) then ⟨3,[],aA s st.p,aA s (st.p+ax s st.p+2),[]⟩ else ⟨2,[],⟨#[]⟩,aA s st.p,[]⟩
def aH(s:ByteArray)(st:RS):RS :=
 if lQ s pY (bu s st) then ⟨st.p+ax s st.p+2+ax s (st.p+ax s st.p+2),st.bad,st.out⟩ else bu s st
def judged(x:Ex)(st:RS):RS:=if av x then st else vQ st
def dI(s:ByteArray)(p:Nat):Int:=if eH s (aU 4) p then 4 else if eH s (aU 5) p then 5 else if eH s (aU 6) p then 6 else 0
def iJ(s:ByteArray)(it:RS->Int×RS)(k:Int):Nat->List Int->RS->List Int×RS
 | 0,zs,st=>(zs,st)
 | n+1,zs,st=>if lQ s (aU k) st then iJ s it k n (zs++[(it (kM (aU k) st)).1]) (it (kM (aU k) st)).2 else (zs,st)
def AL(s:ByteArray):Nat->Bool->RS->Int×RS
 | 0,_,st=>(0,st)
 | n+1,false,st =>
  if lQ s fU st then
   match dH s (s.size+1) [] (kM fU st) with
   | (some xs,st')=>((st'.out.length:Int),sV ⟨1,xs,⟨#[]⟩,⟨#[]⟩,[]⟩ st')
   | (none,st')=>(0,st')
  else if lQ s jR st then
   let x:=AL s n true (kM jR st)
   if lQ s fH x.2 then (x.1,kM fH x.2) else (x.1,vQ x.2)
  else ((st.out.length:Int),sV (fE s st) (judged (fE s st) (aH s st)))
 | n+1,true,st =>
  let x:=AL s n false st
  if dI s x.2.p=0\/x.2.bad=true then x
  else
   let y:=iJ s (AL s n false) (dI s x.2.p) (s.size+1) [x.1] x.2
   ((y.2.out.length:Int),sV ⟨dI s x.2.p,[],⟨#[]⟩,⟨#[]⟩,y.1⟩ y.2)
theorem kN(s:bi)(p:Nat)(hp:p<=s.size):p+ax s p<=s.size:=by
 unfold ax;have h1:((s.data.toList.drop p).takeWhile fA).length<=(s.data.toList.drop p).length:=(List.takeWhile_prefix (p:=fA) (l:=s.data.toList.drop p)).length_le;have h2:(s.data.toList.drop p).length=s.size-p:=by rw[WG];simp
 omega
theorem AO(s:bi)(p:Nat)(hp:p<=s.size):(aA s p).size=ax s p:=by
 unfold aA;rw[ByteArray.size_extract];have:=kN s p hp;omega
theorem G6{s w:ByteArray}{p:Nat}(h:eH s w p=true):p+w.size<=s.size:=by
 unfold eH at h;simp only[Vw,VH]at h;exact h.1
theorem lm{s w:ByteArray}{st:RS}(h:lQ s w st=true):st.p+w.size<=s.size:=by
 unfold lQ at h;simp only[Vw]at h;exact G6 h.2
open ChangeAt ChangeShapes RowKit WideShapes
set_option maxRecDepth 100000
theorem aj{p:Prop}(h:p):Hid p:=h
structure RdC(w:World)(R:Nat)(s:ByteArray)(p:Nat)(bad:Bool)(v:Value):Prop where
 lt:R<w.heap.size
 c0:w.cell? ⟨R,0,none⟩=some (.string s)
 c1:w.cell? ⟨R,1,none⟩=some (.int .i64 (p:Int))
 c2:w.cell? ⟨R,2,none⟩=some (.bool bad)
 c3:w.cell? ⟨R,3,none⟩=some v
 fr:j6 w R
theorem RdC.grown{w w':af}{R:Nat}{s:ByteArray}{p:Nat}{bad:Bool}{v:Value}{row:Option Nat}(h:RdC w R s p bad v)(hg:w.grownBy w' row)(hR:some R≠row):RdC w' R s p bad v :=
 ⟨Vt h.lt hg.size,hg.cell h.c0 hR,hg.cell h.c1 hR,hg.cell h.c2 hR,hg.cell h.c3 hR,fun j=>(World.frozen?_of_block (w:=w) (a:=⟨R,j,none⟩) (hg.block R h.lt hR)).trans (h.fr j)⟩
theorem RdC.drewN{w:af}{R:Nat}{s:ByteArray}{p:Nat}{bad:Bool}{v:Value}(h:RdC w R s p bad v)(n:Nat):RdC (w.drewN n) R s p bad v:=⟨h.lt,h.c0,h.c1,h.c2,h.c3,h.fr⟩
theorem RdC.on{w:af}{R:Nat}{s:ByteArray}{p:Nat}{bad:Bool}{v:Value}(h:RdC w R s p bad v)(q:Nat):RdC (w.setCell ⟨R,1,none⟩ (.int .i64 (q:Int))) R s q bad v :=
 ⟨by simpa using h.lt,by rw[mO (by omega)];exact h.c0,mS h.c1,by rw[mO (by omega)];exact h.c2,by rw[mO (by omega)];exact h.c3,fun j=>by simpa using h.fr j⟩
theorem G7(w:af)(R o:Nat)(v:Value)(n:Nat):w.grownBy ((w.drewN n).setCell ⟨R,o,none⟩ v) (some R) :=
 ⟨rfl,rfl,rfl,by simp,fun k _ hk=>Below.heap_setCell _ _ _ k (fun e=>hk (by rw[e]))⟩
theorem JR{w w':af}{R o:Nat}{v:Value}(h:w.grownBy w' (some R)):w.grownBy (w'.setCell ⟨R,o,none⟩ v) (some R) :=
 ⟨h.os,h.tape,h.output,by simpa using h.size,fun k hk hne=>(Below.heap_setCell w' _ _ k (fun e=>hne (by rw[e]))).trans (h.block k hk hne)⟩
def nM(s t:ByteArray)(p:Nat)(bad:Bool):Bool:=!bad&&eH s t p
def R4(s t:ByteArray)(p:Nat)(bad:Bool):Nat:=if nM s t p bad then p+t.size else p
theorem vR{s t:ByteArray}{p:Nat}{bad:Bool}(h:nM s t p bad=true):R4 s t p bad=p+t.size:=by simp[R4,h]
theorem AP{s t:ByteArray}{p:Nat}{bad:Bool}(h:nM s t p bad=false):R4 s t p bad=p:=by simp[R4,h]
theorem mU(R:Nat)(s t:bi)(p:Nat)(bad:Bool)(v:Value)(w:af)(h:RdC w R s p bad v)(hs:s.size<=1000)(hp:p<=s.size)(ht:t.size<=100):
  Calls prog 325 #[.pointer (some ⟨R,0,none⟩),.string t] w fun e w'=>e=.returned (.bool (nM s t p bad))/\RdC w' R s (R4 s t p bad) bad v/\w.grownBy w' (some R):=by
 have H:=aj h;have c0:=h.c0;have c1:=h.c1;have c2:=h.c2;have f1:=h.fr 1;have hlt:=h.lt;have h0:=h;clear h H;have hwr:IntKind.i64.wrap ((p:Int)+(t.size:Int))=(p:Int)+(t.size:Int):=by simp[IntKind.wrap,IntKind.bits,IntKind.signed];omega
 have no:∀{n:Nat} {e:Ending},nM s t p bad=false->e=.returned (.bool false)->e=.returned (.bool (nM s t p bad))/\RdC (w.drewN n) R s (R4 s t p bad) bad v/\w.grownBy (w.drewN n) (some R):=fun hb he=>⟨by rw[hb];exact he,by rw[AP hb];exact h0.drewN _,⟨rfl,rfl,rfl,Vu _,fun _ _ _=>rfl⟩⟩;have yes:∀{n:Nat} {e:Ending},nM s t p bad=true->e=.returned (.bool true)->e=.returned (.bool (nM s t p bad))/\RdC ((w.drewN n).setCell ⟨R,1,none⟩ (.int .i64 ((p:Int)+(t.size:Int)))) R s (R4 s t p bad) bad v/\w.grownBy ((w.drewN n).setCell ⟨R,1,none⟩ (.int .i64 ((p:Int)+(t.size:Int)))) (some R):=fun hb he=>⟨by rw[hb];exact he,by rw[vR hb];exact(h0.drewN _).on (p+t.size),G7 _ _ _ _ _⟩;have NO:Hid (∀{n:Nat} {e:Ending},_):=@no;have YES:Hid (∀{n:Nat} {e:Ending},_):=@yes;clear no yes h0;cases bad;case true=>
  have HB:Hid (nM s t p true=false):=rfl;clear hwr;go_enter func325,ntmps325;go_wp2_with fail;go_quiet (fail);go_wp2;go_ret;exact NO.out HB.out rfl
 by_cases hl:p+t.size<=s.size
 ·have hd:decide ((s.size:Int)<(p:Int)+(t.size:Int))=false:=by simp;omega
  have hp1:(p:Int)<=(p:Int)+(t.size:Int):=by omega
  have hp2:(p:Int)+(t.size:Int)<=(s.size:Int):=by omega
  have hnn:=bI p;have hla:eH s t p=((s.extract p (p+t.size)).toList==t.toList):=by simp[eH,hl]
  cases he:(s.extract p (p+t.size)).toList==t.toList;case true=>
   have HB:Hid (nM s t p false=true):=by show _=_;simp only[nM,hla,he];rfl
   have hq:(!(s.extract p (p+t.size)).toList==t.toList)=false:=by rw[he];rfl
   clear he hla;go_enter func325,ntmps325;go_wp2_with fail;go_quiet (fail);go_wp2;go_ret;exact YES.out HB.out rfl
  have HB:Hid (nM s t p false=false):=by show _=_;simp only[nM,hla,he];rfl
  have hq:(!(s.extract p (p+t.size)).toList==t.toList)=true:=by rw[he];rfl
  clear he hla;go_enter func325,ntmps325;go_wp2_with fail;go_quiet (fail);go_wp2;go_ret;exact NO.out HB.out rfl
 have hd:decide ((s.size:Int)<(p:Int)+(t.size:Int))=true:=by simp;omega
 have HB:Hid (nM s t p false=false):=by show _=_;simp[nM,eH,hl]
 clear hl;go_enter func325,ntmps325;go_wp2_with fail;go_quiet (fail);go_wp2;go_ret;exact NO.out HB.out rfl
def wat(R:Nat)(w:World):Nat:=match w.cell? ⟨R,1,none⟩ with
 | some (.int _ z)=>z.toNat
 | _=>0
theorem RdC.place{w:af}{R:Nat}{s:ByteArray}{p:Nat}{bad:Bool}{v:Value}(h:RdC w R s p bad v):wat R w=p:=by
 simp[Go.Proofs.YtojjoblnpldniaaGreat.wat,h.c1]
theorem Fa(l:List UInt8)(n:Nat)(h1:∀i (h:i<l.length),i<n->fA l[i]=true)(h2:∀h:n<l.length,fA l[n]=false)(hn:n<=l.length):(l.takeWhile fA).length=n:=by
 induction l generalizing n with
 | nil=>simp at hn;simp[hn]
 | cons x xs ih =>
  cases n with
  | zero =>
   have:=h2 (by simp);simp at this;simp[List.takeWhile,this]
  | succ n =>
   have hx:=h1 0 (by simp) (by omega);simp at hx;have:=ih n (fun i hi hin=>by have:=h1 (i+1) (by simpa using hi) (by omega);simpa using this) (fun h=>by have:=h2 (by simpa using h);simpa using this) (by simpa using hn);simp[List.takeWhile,hx,this]
theorem PX(s:bi)(p q:Nat)(hpq:p<=q)(hq:q<=s.size)(h1:∀i (h:i<s.size),p<=i->i<q->fA s[i]=true)(h2:∀h:q<s.size,fA s[q]=false):ax s p=q-p:=by
 unfold ax;have hl:s.data.toList.length=s.size:=by simp
 refine Fa _ _ (fun i hi hin=>?_) (fun h=>?_) (by rw[WG,hl];omega)
 ·rw[WG,hl]at hi;have:=h1 (p+i) (by omega) (by omega) (by omega);simp only[List.getElem_drop,Array.getElem_toList];exact this
 rw[WG,hl]at h;have:=h2 (by omega);simp only[List.getElem_drop,Array.getElem_toList];have e:p+(q-p)=q:=by omega
 simp only[e];exact this
theorem vS(R:Nat)(s:bi)(p:Nat)(bad:Bool)(v:Value)(w:af)(h:RdC w R s p bad v)(hs:s.size<=1000)(hp:p<=s.size):
  Calls prog 340 #[.pointer (some ⟨R,0,none⟩)] w fun e w'=>e=.returned (.string (aA s p))/\RdC w' R s (p+ax s p) bad v/\w.grownBy w' (some R):=by
 have H:=aj h;have c1:=h.c1;clear h;go_enter func340,ntmps340;go_wp2_with fail;clear c1;go_loopw[8] (fun _ wr=>∃q:Nat,p<=q/\q<=s.size/\Hid (∀i (h:i<s.size),p<=i->i<q->fA s[i]=true)/\Hid (RdC wr R s q bad v)/\Hid (w.grownBy wr (some R))) (fun _ wr=>s.size-wat R wr);case atStart=>exact⟨p,Vu _,hp,fun i h h1 h2=>by omega,H,⟨rfl,rfl,rfl,Vu _,fun _ _ _=>rfl⟩⟩
 obtain⟨q,hq1,hq2,HL,HR,HG⟩:=hrel;have c0:=HR.out.c0;have c1:=HR.out.c1;have f1:=HR.out.fr 1;have hlt:=HR.out.lt;have hq0:=bI q;have stop:∀n m,(∀h:q<s.size,fA s[q]=false)->Ending.returned (.string (s.extract p q))=.returned (.string (aA s p))/\RdC ((wr.drewN n).drewN m) R s (p+ax s p) bad v/\w.grownBy ((wr.drewN n).drewN m) (some R):=fun n m hn=>by
  have e:=PX s p q hq1 hq2 HL.out hn;have e2:p+ax s p=q:=by omega
  exact⟨by unfold aA;rw[e2],by rw[e2];exact(HR.out.drewN n).drewN m,⟨HG.out.os,HG.out.tape,HG.out.output,HG.out.size,HG.out.block⟩⟩
 have STOP:=aj stop;clear stop;have hx1:(p:Int)<=(q:Int):=by omega
 have hx2:(q:Int)<=(s.size:Int):=by omega
 have hx3:=bI p;by_cases hlt2:q<s.size
 ·have hq3:(q:Int)<(s.size:Int):=by omega
  have hd:decide ((q:Int)<(s.size:Int))=true:=by simpa using hq3
  by_cases hb1:(97:Int)<=(s[q].toNat:Int)
  ·have hd1:decide ((97:Int)<=(s[q].toNat:Int))=true:=by simpa using hb1
   by_cases hb2:(s[q].toNat:Int)<=122
   ·have hd2:decide ((s[q].toNat:Int)<=122)=true:=by simpa using hb2
    have HL2:Hid (∀i (h:i<s.size),p<=i->i<q+1->fA s[i]=true):=fun i h h1 h2=>by
     by_cases e:i=q
     ·subst e;simp[fA];omega
     exact HL.out i h h1 (by omega)
    have hwr2:IntKind.i64.wrap ((q:Int)+1)=(q:Int)+1:=by simp[IntKind.wrap,IntKind.bits,IntKind.signed];omega
    go_wp2_with fail;go_quiet (fail);have HR2:Hid (RdC ((wr.drewN nq).setCell ⟨R,1,none⟩ (.int .i64 ((q:Int)+1))) R s (q+1) bad v):=(HR.out.drewN nq).on (q+1);have HG2:Hid (w.grownBy ((wr.drewN nq).setCell ⟨R,1,none⟩ (.int .i64 ((q:Int)+1))) (some R)):=JR (w':=wr.drewN nq) ⟨HG.out.os,HG.out.tape,HG.out.output,HG.out.size,HG.out.block⟩;have hm1:=HR.out.place;have hm2:=HR2.out.place;have HM:Hid (s.size-wat R ((wr.drewN nq).setCell ⟨R,1,none⟩ (.int .i64 ((q:Int)+1)))<s.size-wat R wr):=by show _<_;rw[hm1,hm2];omega
    clear hm1 hm2;go_wp2;go_roundw;case rel=>exact⟨q+1,by omega,by omega,HL2,HR2,HG2⟩
    exact HM.out
   have hd2:decide ((s[q].toNat:Int)<=122)=false:=by simpa using hb2
   have HN:Hid (∀h:q<s.size,fA s[q]=false):=fun h=>by simp[fA];omega
   go_wp2_with fail;go_quiet (fail);go_wp2_with fail;go_quiet (fail);go_wp2;go_ret;exact STOP.out _ _ HN.out
  have hd1:decide ((97:Int)<=(s[q].toNat:Int))=false:=by simpa using hb1
  have HN:Hid (∀h:q<s.size,fA s[q]=false):=fun h=>by simp[fA];omega
  go_wp2_with fail;go_quiet (fail);go_wp2_with fail;go_quiet (fail);go_wp2;go_ret;exact STOP.out _ _ HN.out
 have hd:decide ((q:Int)<(s.size:Int))=false:=by simp;omega
 have HN:Hid (∀h:q<s.size,fA s[q]=false):=fun h=>absurd h hlt2;go_wp2_with fail;go_quiet (fail);go_wp2_with fail;go_quiet (fail);go_wp2;go_ret;exact STOP.out _ _ HN.out
structure Onl(R:Nat)(v:Value)(w w':World):Prop where
 os:w'.os=w.os
 tape:w'.tape=w.tape
 output:w'.output=w.output
 size:w.heap.size<=w'.heap.size
 block:∀k,k<w.heap.size->k≠R->v.ownBlock≠some k->w'.heap[k]?=w.heap[k]?
def ER.cells(q:ER):Array Value:=#[.int .i64 q.e.kind,.slice q.adA q.e.allow.length q.capA,.string q.e.over,.string q.e.name,.slice q.adK q.e.kids.length q.capK]
theorem AQ{w:af}{a:Addr}{v:Value}(h:w.cell? a=some v)(o:Obj):(w.alloc o).cell? a=some v:=by
 have hlt:=World.block_lt_of_cell? w a h;rw[((Vv w.heap.size w).alloc (Vu _) o).cell hlt];exact h
def zf(w:World)(g:Nat)(q:ER):Prop:=w.cell? ⟨g,0,none⟩=some (.int .i64 q.e.kind)/\w.cell? ⟨g,1,none⟩=some (.slice q.adA q.e.allow.length q.capA)/\w.cell? ⟨g,2,none⟩=some (.string q.e.over)/\w.cell? ⟨g,3,none⟩=some (.string q.e.name)/\w.cell? ⟨g,4,none⟩=some (.slice q.adK q.e.kids.length q.capK)/\g<w.heap.size
theorem zf.grown{w w':af}{g:Nat}{q:ER}{row:Option Nat}(h:zf w g q)(hg:w.grownBy w' row)(hne:some g≠row):zf w' g q :=
 ⟨hg.cell h.1 hne,hg.cell h.2.1 hne,hg.cell h.2.2.1 hne,hg.cell h.2.2.2.1 hne,hg.cell h.2.2.2.2.1 hne,Vt h.2.2.2.2.2 hg.size⟩
theorem Onl.grown{R:Nat}{v:Value}{w w' w'':af}{row:Option Nat}(h:Onl R v w w')(hg:w'.grownBy w'' row)(hr:∀k,k<w.heap.size->k≠R->v.ownBlock≠some k->some k≠row):Onl R v w w'' :=
 ⟨hg.os.trans h.os,hg.tape.trans h.tape,hg.output.trans h.output,Vz h.size hg.size,fun k hk h1 h2=>(hg.block k (Vt hk h.size) (hr k hk h1 h2)).trans (h.block k hk h1 h2)⟩
theorem fT{W:af}{base:Nat}{e:TypeId}{size:Nat}{v:Value}{k:Nat}{xs:Q03}(h:W.ownsRow base e size v (k+1) xs):∃g cap,v=.slice (some ⟨g,0,none⟩) (k+1) cap:=by
 rcases h.2 with⟨_,h0⟩|⟨g,cap,_,rfl,_⟩
 ·omega
 exact⟨g,cap,rfl⟩
theorem Onl.at_own{R:Nat}{v:Value}{w w':af}(h:Onl R v w w')(o:Nat)(u:Value):Onl R v w (w'.setCell ⟨R,o,none⟩ u) :=
 ⟨h.os,h.tape,h.output,by simpa using h.size,fun k hk h1 h2=>(Below.heap_setCell w' _ _ k h1).trans (h.block k hk h1 h2)⟩
theorem RdC.put{w:af}{R:Nat}{s:ByteArray}{p:Nat}{bad:Bool}{v:Value}(h:RdC w R s p bad v)(u:Value):RdC (w.setCell ⟨R,3,none⟩ u) R s p bad u :=
 ⟨by simpa using h.lt,by rw[mO (by omega)];exact h.c0,by rw[mO (by omega)];exact h.c1,by rw[mO (by omega)];exact h.c2,mS h.c3,fun j=>by simpa using h.fr j⟩
theorem RdC.hurt{w:af}{R:Nat}{s:ByteArray}{p:Nat}{bad:Bool}{v:Value}(h:RdC w R s p bad v):RdC (w.setCell ⟨R,2,none⟩ (.bool true)) R s p true v :=
 ⟨by simpa using h.lt,by rw[mO (by omega)];exact h.c0,by rw[mO (by omega)];exact h.c1,mS h.c2,by rw[mO (by omega)];exact h.c3,fun j=>by simpa using h.fr j⟩
structure GA(R:Nat)(s:ByteArray)(p:Nat)(bad:Bool)(v:Value)(base n:Nat)(xs:Q03)(q:ER)(w:World)(listed:Array Bool)(w':World):Prop where
 rd:RdC w' R s p bad v
 box:zf w' w.heap.size q
 onl:Onl R v w w'
 own:listed.getD 7 false=false->w'.ownsRow base 43 5 v n xs
 small:listed.getD 6 false=false->w'.heap.size=w.heap.size+1
theorem JS{listed:Array Bool}{i L:Nat}(h:listed.getD i true=false)(hs:listed.size=L)(hi:i<L):listed.getD i false=false:=by
 rw[<-jL (by omega)];exact h
theorem GA.step{R:Nat}{s:ByteArray}{p:Nat}{bad:Bool}{v:Value}{base n:Nat}{xs:Q03}{q:ER}{w w':af}{listed:Array Bool}(h:GA R s p bad v base n xs q w listed w'){i:Nat}(hls:listed.size=11)(h6:i≠6)(h7:i≠7):GA R s p bad v base n xs q w (listed.setIfInBounds i true) w' :=
 ⟨h.rd,h.box,h.onl,fun k=>h.own (by
  by_cases hi:i<11
  ·rw[aK _ _ _ (by omega),if_neg (Ne.symm h7)]at k;exact k
  ·rw[show listed.setIfInBounds i true=listed by rw[Array.setIfInBounds_eq_of_size_le (by omega)]]at k;exact k),fun k=>h.small (by
  by_cases hi:i<11
  ·rw[aK _ _ _ (by omega),if_neg (Ne.symm h6)]at k;exact k
  rw[show listed.setIfInBounds i true=listed by rw[Array.setIfInBounds_eq_of_size_le (by omega)]]at k;exact k)⟩
theorem GA.made{R:Nat}{s:ByteArray}{p:Nat}{bad:Bool}{v:Value}{base n:Nat}{xs:Q03}{q:ER}{w w':af}{listed:Array Bool}(h:GA R s p bad v base n xs q w listed w'){i:Nat}(hls:listed.size=11){o:Obj}(hi:i=6:=by rfl):GA R s p bad v base n xs q w (listed.setIfInBounds i true) (w'.alloc o):=by
 subst hi;have hg:=World.grownBy_alloc w' o none;refine⟨h.rd.grown hg (by simp),h.box.grown hg (by simp),h.onl.grown hg (by simp),fun k=>(h.own ?_).alloc _,fun k=>?_⟩
 ·rw[aK _ _ _ (by omega),if_neg (by omega)]at k;exact k
 rw[aK _ _ _ (by omega),if_pos rfl]at k;cases k
def VA(l:Q03)(base n:Nat)(v:Value)(q:ER)(xs:Q03)(w:World)(k:Nat)(u:Value)(w':World):Prop :=
 (k≠6/\k≠7->u=l.getD k undef) /\
 (k=6->u=.slice (some ⟨w.heap.size+1,0,none⟩) 1 1/\(∀j x,q.row[j]?=some x->w'.cell? ((⟨w.heap.size+1,0,none⟩:Addr).add j)=some x)/\w.heap.size+1<w'.heap.size) /\
 (k=7->∃g cap,u=.slice (some ⟨g,0,none⟩) (n+1) cap/\w'.ownsRow base 43 5 (.slice (some ⟨g,0,none⟩) (n+1) cap) (n+1) (xs++q.row)/\(v.ownBlock=some g\/w.heap.size<=g))
theorem VA.at{l:Q03}{base n:Nat}{v:Value}{q:ER}{xs:Q03}{w:af}{k:Nat}{u:Value}{w':af}(h:k≠6/\k≠7)(hu:u=l.getD k undef):VA l base n v q xs w k u w':=⟨fun _=>hu,fun e=>absurd e h.1,fun e=>absurd e h.2⟩
theorem VA.alloc{l:Q03}{base n:Nat}{v:Value}{q:ER}{xs:Q03}{w w':af}{i:Nat}{o:Obj}:∀k u,k≠i->VA l base n v q xs w k u w'->VA l base n v q xs w k u (w'.alloc o):=fun k u _ h =>
 ⟨h.1,fun e=>⟨(h.2.1 e).1,fun j x hj=>AQ ((h.2.1 e).2.1 j x hj) o,Vt (h.2.1 e).2.2 (by simp)⟩,fun e=>by obtain⟨g,cap,e1,e2,e3⟩:=h.2.2 e;exact⟨g,cap,e1,e2.alloc _,e3⟩⟩
theorem GA.appended{R:Nat}{s:ByteArray}{p:Nat}{bad:Bool}{v:Value}{base n:Nat}{xs:Q03}{q:ER}{w w' w'':af}{listed:Array Bool}(h:GA R s p bad v base n xs q w listed w')(hls:listed.size=11)(hg:w'.grownBy w'' v.ownBlock)(hR:v.ownBlock≠some R)(hX:v.ownBlock≠some w.heap.size)(hb6:w.heap.size+1<w'.heap.size):GA R s p bad v base n xs q w (listed.setIfInBounds 7 true) w'':=by
 refine⟨h.rd.grown hg (Ne.symm hR),h.box.grown hg (Ne.symm hX),h.onl.grown hg (fun k _ _ h2=>Ne.symm h2),fun k=>?_,fun k=>?_⟩
 ·rw[aK _ _ _ (by omega),if_pos rfl]at k;cases k
 rw[aK _ _ _ (by omega),if_neg (by omega)]at k;have:=h.small k;omega
theorem VA.app{l:Q03}{base n:Nat}{v:Value}{q:ER}{xs:Q03}{w w' w'':af}(hg:w'.grownBy w'' v.ownBlock)(hX:v.ownBlock≠some (w.heap.size+1)):∀k u,k≠7->VA l base n v q xs w k u w'->VA l base n v q xs w k u w'':=fun k u hk h =>
 ⟨h.1,fun e=>⟨(h.2.1 e).1,fun j x hj=>hg.cell ((h.2.1 e).2.1 j x hj) (by rw[show((⟨w.heap.size+1,0,none⟩:Addr).add j).block=w.heap.size+1 by unfold Addr.add;split<;>rfl];exact Ne.symm hX),Vt (h.2.1 e).2.2 hg.size⟩,fun e=>absurd e hk⟩
theorem R5(R:Nat)(s:bi)(p:Nat)(bad:Bool)(v:Value)(base n:Nat)(xs:Q03)(q:ER)(w:af)(h:RdC w R s p bad v)(hown:w.ownsRow base 43 5 v n xs)(hR:R<base)(hB:base<=w.heap.size)(hn:n<=100000):
  Calls prog 326 #[.pointer (some ⟨R,0,none⟩),q.val] w fun e w'=>∃(g cap:Nat),e=.returned (.int .i64 (n:Int))/\RdC w' R s p (bad || decide (15<n+1)) (.slice (some ⟨g,0,none⟩) (n+1) cap)/\w'.ownsRow base 43 5 (.slice (some ⟨g,0,none⟩) (n+1) cap) (n+1) (xs++q.row)/\Onl R v w w'/\(v.ownBlock=some g\/w.heap.size<=g):=by
 obtain⟨iT,Zg,Zh,Zi,Zj⟩:=info_parts (P:=prog) (e:=43) (z:=.agg #[.int .i64 0,.slice none 0 0,.string ⟨#[]⟩,.string ⟨#[]⟩,.slice none 0 0]) (size:=5) (bytes:=88) (by kernel_rfl);have HIT:=aj (And.intro Zg (And.intro Zh (And.intro Zi Zj)));have H:=aj h;have HO:=aj hown;have hlt:=h.lt;clear h hown Zg Zh Zi Zj;have hne:v.ownBlock≠some R:=fun e=>by have:=(HO.out.lt R e).1;omega
 have HNE:=aj hne;have ZQ:Hid (v.ownBlock≠some w.heap.size):=fun e=>by have:=(HO.out.lt _ e).2;omega
 have HNX1:Hid (v.ownBlock≠some (w.heap.size+1)):=fun e=>by have:=(HO.out.lt _ e).2;omega
 clear hne;unfold ER.val;obtain⟨W0,hW0⟩:=eQx (w.alloc (.cells #[.int .i64 q.e.kind,.slice q.adA q.e.allow.length q.capA,.string q.e.over,.string q.e.name,.slice q.adK q.e.kids.length q.capK] 43));have HG0:Hid (GA R s p bad v base n xs q w (Array.replicate 11 false) W0.drew):=by
  have hg:=World.grownBy_alloc w (.cells #[.int .i64 q.e.kind,.slice q.adA q.e.allow.length q.capA,.string q.e.over,.string q.e.name,.slice q.adK q.e.kids.length q.capK] 43) none;show GA _ _ _ _ _ _ _ _ _ _ _ _;rw[hW0];refine⟨(H.out.grown hg (by simp)).drewN 1,⟨?_,?_,?_,?_,?_,?_⟩,⟨rfl,rfl,rfl,by simp[World.drew],fun k hk _ _=>hg.block k hk (by simp)⟩,fun _=>(HO.out.alloc _).drew,fun _=>by simp[World.drew]⟩<;>simp
 go_enter func326,ntmps326;go_wp2_with fail;rw[<-hW0];clear hW0;refine mi 10 _ _ (VA (Value.pointer (some ⟨R,0,none⟩)::.pointer (some ⟨R,0,none⟩)::.pointer (some ⟨R,0,none⟩)::.pointer (some ⟨R,3,none⟩)::v::.agg #[.int .i64 q.e.kind,.slice q.adA q.e.allow.length q.capA,.string q.e.over,.string q.e.name,.slice q.adK q.e.kids.length q.capK]::.slice (some ⟨w.heap.size+1,0,none⟩) 1 1::undef::.pointer (some ⟨R,0,none⟩)::.pointer (some ⟨R,3,none⟩)::[]) base n v q xs w) (GA R s p bad v base n xs q w) (by kernel_rfl) rfl (by decide +kernel) (by decide +kernel) (yt [(5,[0,1,2,3,4,5,6,7,8,9])]) HG0.out ?stepA ?finA<;>dsimp only[wY];case stepA =>
  rintro i hi o ho listed f w' hls Xb hG hpre;have HG:=aj hG;have HM:Hid (∀e∈o.after,Region.binds .any e=true->_):=hpre;clear hG hpre;have hc:=Lh (i:=i) (by omega);clear hi
  repeat' rcases hc with rfl|hc
  ·cases ho;have HS:=aj (HG.out.step (i:=0) hls (by decide) (by decide));refine aa rfl fun K HK=>?_;clear HM;dsimp only;go_simp;exact HK.out _ _ ⟨Value.pointer (some ⟨R,0,none⟩),by simp[upd],HS.out,VA.at (by decide) rfl,fun k u _ hu=>hu⟩
  ·cases ho;have HS:=aj (HG.out.step (i:=1) hls (by decide) (by decide));refine aa rfl fun K HK=>?_;clear HM;dsimp only;go_simp;exact HK.out _ _ ⟨Value.pointer (some ⟨R,0,none⟩),by simp[upd],HS.out,VA.at (by decide) rfl,fun k u _ hu=>hu⟩
  ·cases ho;have e1:f 1=Value.pointer (some ⟨R,0,none⟩):=(HM.out ⟨1,.data⟩ (by simp) rfl).1 (by decide);have HS:=aj (HG.out.step (i:=2) hls (by decide) (by decide));refine aa rfl fun K HK=>?_;clear HM;simp only[e1];go_simp;exact HK.out _ _ ⟨Value.pointer (some ⟨R,0,none⟩),by simp[upd,e1],HS.out,VA.at (by decide) rfl,fun k u _ hu=>hu⟩
  ·cases ho;have e2:f 2=Value.pointer (some ⟨R,0,none⟩):=(HM.out ⟨2,.data⟩ (by simp) rfl).1 (by decide);have HS:=aj (HG.out.step (i:=3) hls (by decide) (by decide));refine aa rfl fun K HK=>?_;clear HM;simp only[e2];go_simp;exact HK.out _ _ ⟨Value.pointer (some ⟨R,3,none⟩),by simp[upd,e2],HS.out,VA.at (by decide) rfl,fun k u _ hu=>hu⟩
  ·cases ho;have e3:f 3=Value.pointer (some ⟨R,3,none⟩):=(HM.out ⟨3,.data⟩ (by simp) rfl).1 (by decide);have c3:=HG.out.rd.c3;have HS:=aj (HG.out.step (i:=4) hls (by decide) (by decide));refine aa rfl fun K HK=>?_;clear HM;simp only[e3];go_simp;exact HK.out _ _ ⟨v,by simp[upd,e3],HS.out,VA.at (by decide) rfl,fun k u _ hu=>hu⟩
  ·cases ho;obtain⟨x0,x1,x2,x3,x4,xl⟩:=HG.out.box;have HS:=aj (HG.out.step (i:=5) hls (by decide) (by decide));refine aa rfl fun K HK=>?_;clear HM;dsimp only;go_simp;exact HK.out _ _ ⟨Value.agg #[.int .i64 q.e.kind,.slice q.adA q.e.allow.length q.capA,.string q.e.over,.string q.e.name,.slice q.adK q.e.kids.length q.capK],by simp[upd],HS.out,VA.at (by decide) rfl,fun k u _ hu=>hu⟩
  ·cases ho;have e5:f 5=Value.agg #[.int .i64 q.e.kind,.slice q.adA q.e.allow.length q.capA,.string q.e.over,.string q.e.name,.slice q.adK q.e.kids.length q.capK]:=(HM.out ⟨5,.data⟩ (by simp) rfl).1 (by decide);have hz:=HG.out.small (JS Xb hls (by omega));have HS:Hid (∀o,GA R s p bad v base n xs q w (listed.setIfInBounds 6 true) (w'.alloc o)):=fun o=>HG.out.made (i:=6) hls;refine aa rfl fun K HK=>?_;clear HM;simp only[e5];go_simp;exact HK.out _ _ ⟨.slice (some ⟨w'.heap.size,0,none⟩) 1 1,by simp[upd,e5],HS.out _,⟨fun h=>absurd rfl h.1,fun _=>⟨by rw[hz],fun j u hj=>by have:=xN w' q j u hj;rw[hz]at this;exact this,by simp;omega⟩,fun h=>absurd h (by decide)⟩,VA.alloc⟩
  ·cases ho;have e4:f 4=v:=(HM.out ⟨4,.data⟩ (by simp) rfl).1 (by decide);obtain⟨e6,hnews,hb6⟩:=(HM.out ⟨6,.data⟩ (by simp) rfl).2.1 rfl;replace e6:f 6=Value.slice (some ⟨w.heap.size+1,0,none⟩) 1 1:=e6;have hown:=HG.out.own (JS Xb hls (by omega));clear HM;refine gP _ rfl rfl _ _ 37 rfl base 43 iT (.agg #[.int .i64 0,.slice none 0 0,.string ⟨#[]⟩,.string ⟨#[]⟩,.slice none 0 0]) 5 88 underlying37 HIT.out.1 HIT.out.2.1 HIT.out.2.2.1 HIT.out.2.2.2 rfl (by decide) v n xs e4 hown ⟨w.heap.size+1,0,none⟩ 1 1 q.row e6 rfl hnews (vM q) (by unfold maxLen;omega) (by omega) (by have:=HG.out.onl.size;omega) ?_;intro v7 w7 XK Zu hat7;obtain⟨g7,c7,rfl⟩:=fT XK;refine⟨.slice (some ⟨g7,0,none⟩) (n+1) c7,by simp[upd,e4,e6,Act.put],HG.out.appended hls Zu HNE.out ZQ.out hb6,⟨fun h=>absurd rfl h.2,fun h=>absurd h (by decide),fun _=>⟨g7,c7,rfl,XK,?_⟩⟩,VA.app Zu HNX1.out⟩;rcases hat7 with e|e
   ·exact .inl e.symm
   simp[Value.ownBlock]at e;exact .inr (by have:=HG.out.onl.size;omega)
  ·cases ho;have e0:f 0=Value.pointer (some ⟨R,0,none⟩):=(HM.out ⟨0,.data⟩ (by simp) rfl).1 (by decide);have HS:=aj (HG.out.step (i:=8) hls (by decide) (by decide));refine aa rfl fun K HK=>?_;clear HM;simp only[e0];go_simp;exact HK.out _ _ ⟨Value.pointer (some ⟨R,0,none⟩),by simp[upd,e0],HS.out,VA.at (by decide) rfl,fun k u _ hu=>hu⟩
  cases ho;have e8:f 8=Value.pointer (some ⟨R,0,none⟩):=(HM.out ⟨8,.data⟩ (by simp) rfl).1 (by decide);have HS:=aj (HG.out.step (i:=9) hls (by decide) (by decide));refine aa rfl fun K HK=>?_;clear HM;simp only[e8];go_simp;exact HK.out _ _ ⟨Value.pointer (some ⟨R,3,none⟩),by simp[upd,e8],HS.out,VA.at (by decide) rfl,fun k u _ hu=>hu⟩
 case finA =>
  rintro o ho listed f w' hG hall;cases ho;obtain⟨g,cap,e7,XK,hat⟩:=(hall 7 (by omega)).2.2 rfl;have e9:f 9=Value.pointer (some ⟨R,3,none⟩):=(hall 9 (by omega)).1 (by decide);have HR:=aj hG.rd;have HN:=aj hG.onl;have HW:=aj XK;have HA:=aj hat;have c3:=hG.rd.c3;have f3:=hG.rd.fr 3;have hl3:=hG.rd.lt;clear hall hG XK hat;refine wpOp_step rfl (fun K hK=>?_);have HK:Hid (∀a w,_->K a w):=hK;clear hK;simp only[e7,e9];go_simp;refine HK.out _ _ ?_;clear HK;obtain⟨W8,ZJ⟩:=eQx (w'.setCell ⟨R,3,none⟩ (.slice (some ⟨g,0,none⟩) (n+1) cap));have HR8:Hid (RdC W8 R s p bad (.slice (some ⟨g,0,none⟩) (n+1) cap)):=by rw[ZJ];exact HR.out.put _
  have HN8:Hid (Onl R v w W8):=by rw[ZJ];exact HN.out.at_own _ _
  have HW8:Hid (W8.ownsRow base 43 5 (.slice (some ⟨g,0,none⟩) (n+1) cap) (n+1) (xs++q.row)):=by rw[ZJ];exact ownsRow_setCell_below HW.out hR _
  rw[<-ZJ];clear ZJ HR HN HW c3 f3 hl3 e7 e9;have c2:=HR8.out.c2;have c3:=HR8.out.c3;have f2:=HR8.out.fr 2;have hl8:=HR8.out.lt;have hwr:IntKind.i64.wrap (((n:Int)+1)-1)=(n:Int):=by simp[IntKind.wrap,IntKind.bits,IntKind.signed];omega
  by_cases hbig:15<n+1
  ·have hd:decide ((15:Int)<(n:Int)+1)=true:=by simp;omega
   have HB:=aj hbig;clear hbig;go_wp2;exact bodyPost_ret (v:=.int .i64 (n:Int)) (by simp[results,Tryz.results326,go_sem]) rfl ⟨g,cap,rfl,by rw[show decide (15<n+1)=true from decide_eq_true HB.out,Bool.or_true];exact HR8.out.hurt,ownsRow_setCell_below HW8.out hR _,HN8.out.at_own _ _,HA.out⟩
  have hd:decide ((15:Int)<(n:Int)+1)=false:=by simp;omega
  have HB:=aj hbig;clear hbig;go_wp2;exact bodyPost_ret (v:=.int .i64 (n:Int)) (by simp[results,Tryz.results326,go_sem]) rfl ⟨g,cap,rfl,by rw[show decide (15<n+1)=false from decide_eq_false HB.out,Bool.or_false];exact HR8.out,HW8.out,HN8.out,HA.out⟩
structure Went(R:Nat)(v:Value)(w:World)(v':Value)(w':World):Prop where
 onl:Onl R v w w'
 own:v'.ownBlock=v.ownBlock \/ ∃g,v'.ownBlock=some g/\w.heap.size<=g
theorem Onl.refl(R:Nat)(v:Value)(w:af):Onl R v w w:=⟨rfl,rfl,rfl,Vu _,fun _ _ _ _=>rfl⟩
theorem Went.refl(R:Nat)(v:Value)(w:af):Went R v w v w:=⟨Onl.refl R v w,.inl rfl⟩
theorem Went.apart{R:Nat}{v v':Value}{w w':af}(h:Went R v w v' w'){k:Nat}(hk:k<w.heap.size)(hv:v.ownBlock≠some k):v'.ownBlock≠some k:=by
 rcases h.own with e|⟨g,e,hg⟩
 ·rw[e];exact hv
 rw[e];intro h2;injection h2 with h2;omega
theorem Went.trans{R:Nat}{v v1 v2:Value}{w w1 w2:af}(h:Went R v w v1 w1)(h2:Went R v1 w1 v2 w2):Went R v w v2 w2:=by
 refine⟨⟨h2.onl.os.trans h.onl.os,h2.onl.tape.trans h.onl.tape,h2.onl.output.trans h.onl.output,Vz h.onl.size h2.onl.size,fun k hk h3 h4=>(h2.onl.block k (Vt hk h.onl.size) h3 (h.apart hk h4)).trans (h.onl.block k hk h3 h4)⟩,?_⟩;rcases h2.own with e|⟨g,e,hg⟩
 ·rw[e];exact h.own
 exact .inr ⟨g,e,Vz h.onl.size hg⟩
abbrev oN:Value:=.slice none 0 0
theorem Onl.any{R:Nat}{w w':af}(h:Onl R oN w w')(v:Value):Went R v w v w':=⟨⟨h.os,h.tape,h.output,h.size,fun k hk h1 _=>h.block k hk h1 (by simp[Value.ownBlock])⟩,.inl rfl⟩
theorem Onl.of_grown{R:Nat}{w w':af}(h:w.grownBy w' (some R)):Onl R oN w w':=⟨h.os,h.tape,h.output,h.size,fun k hk h1 _=>h.block k hk (fun e=>h1 (by injection e))⟩
theorem Onl.trans0{R:Nat}{w w1 w2:af}(h:Onl R oN w w1)(h2:Onl R oN w1 w2):Onl R oN w w2:=((h.any oN).trans (h2.any oN)).onl
theorem Onl.of_below{R:Nat}{w w':af}(h:ag w w'):Onl R oN w w':=⟨h.os,h.tape,h.output,h.size,fun k hk _ _=>h.block k hk⟩
def Cw(w:World)(base:Nat)(q:ER):Prop:=(q.e.kids=[]/\q.adK=none/\q.capK=0)\/(q.e.kids≠[]/\w.ownsRow base 2 1 (.slice q.adK q.e.kids.length q.capK) q.e.kids.length (ints q.e.kids))
structure RdF(w:World)(R:Nat)(s:ByteArray)(st:RS)(base:Nat)(v:Value)(qs:Q08):Prop where
 rd:RdC w R s st.p st.bad v
 own:w.ownsRow base 43 5 v qs.length (eD qs)
 out:ai qs=st.out
 zA:∀q∈qs,q.e.allow≠[]->∃g,q.adA=some ⟨g,0,none⟩
 zK:∀q∈qs,q.e.kids≠[]->∃g,q.adK=some ⟨g,0,none⟩
 ok:∀q∈qs,q.ok w
 lie:∀q∈qs,∀g,pU q g->base<=g/\g<w.heap.size/\j6 w g/\v.ownBlock≠some g
 one:∀q∈qs,∀g,bA q g->¬bK q g
 two:∀(x y:Nat) (hx:x<qs.length) (hy:y<qs.length),x≠y->∀g,pU qs[x] g->¬pU qs[y] g
 cA:∀q∈qs,q.e.allow.length<=q.capA
 cK:∀q∈qs,Cw w base q
theorem Cw.heap{w w':af}{base:Nat}{q:ER}(h:Cw w base q)(hz:q.e.kids≠[]->∃g,q.adK=some ⟨g,0,none⟩)(hh:∀g,pU q g->w'.heap[g]?=w.heap[g]?):Cw w' base q:=by
 rcases h with h|⟨hne,h⟩
 ·exact .inl h
 obtain⟨g,eg⟩:=hz hne;refine .inr ⟨hne,bF h fun g' hg'=>?_⟩;rw[eg]at hg';have:g=g':=by simpa[Value.ownBlock] using hg'
 subst this;exact hh g (.inr ⟨hne,eg⟩)
theorem Cw.mono{w:af}{base base':Nat}{q:ER}(h:Cw w base q)(hb:base'<=base):Cw w base' q:=by
 rcases h with h|⟨hne,h⟩
 ·exact .inl h
 refine .inr ⟨hne,h.1,?_⟩;rcases h.2 with hl|⟨g,cap,cur,e,h1,h2⟩
 ·exact .inl hl
 exact .inr ⟨g,cap,cur,e,Vz hb h1,h2⟩
theorem RdF.over{w w':af}{R:Nat}{s:ByteArray}{st:RS}{base:Nat}{v:Value}{qs:Q08}(h:RdF w R s st base v qs)(hR:R<base)(ho:Onl R oN w w'){p:Nat}{bad:Bool}(hr:RdC w' R s p bad v):RdF w' R s ⟨p,bad,st.out⟩ base v qs where
 rd:=hr
 own:=bF h.own fun g hg=>ho.block g (h.own.lt g hg).2 (by have:=(h.own.lt g hg).1;omega) (by simp[Value.ownBlock])
 out:=h.out
 zA:=h.zA
 zK:=h.zK
 ok q hq:=pV (h.ok q hq) ho.size (h.zA q hq) (h.zK q hq) fun g hg=>ho.block g (h.lie q hq g hg).2.1 (by have:=(h.lie q hq g hg).1;omega) (by simp[Value.ownBlock])
 lie q hq g hg:=by
  obtain⟨h1,h2,h3,h4⟩:=h.lie q hq g hg;exact⟨h1,Vt h2 ho.size,bR h3 (ho.block g h2 (by omega) (by simp[Value.ownBlock])),h4⟩
 one:=h.one
 two:=h.two
 cA:=h.cA
 cK q hq:=(h.cK q hq).heap (h.zK q hq) fun g hg=>ho.block g (h.lie q hq g hg).2.1 (by have:=(h.lie q hq g hg).1;omega) (by simp[Value.ownBlock])
theorem M7(R:Nat)(s:bi)(st:RS)(base:Nat)(v:Value)(qs:Q08)(q:ER)(w:af)(h:RdF w R s st base v qs)(hR:R<base)(hB:base<=w.heap.size)(hn:qs.length<=100000)
  (hq:NewQ base w q) (Xp:Cw w base q) (ha:∀g,pU q g->v.ownBlock≠some g/\∀q'∈qs,¬pU q' g) :
  Calls prog 326 #[.pointer (some ⟨R,0,none⟩),q.val] w fun e w'=>∃v',e=.returned (.int .i64 (st.out.length:Int))/\RdF w' R s (sV q.e st) base v' (qs++[q])/\Went R v w v' w':=by
 have hlen:qs.length=st.out.length:=by rw[<-h.out];simp[ai]
 refine(R5 R s st.p st.bad v base qs.length (eD qs) q w h.rd h.own hR hB hn).mono ?_;rintro e w' ⟨g,cap,rfl,hrd,hown,honl,hat⟩;have hW:Went R v w (.slice (some ⟨g,0,none⟩) (qs.length+1) cap) w':=⟨honl,by
  rcases hat with e|e
  ·exact .inl (by rw[e];rfl)
  exact .inr ⟨g,rfl,e⟩⟩
 have keep:∀k,k<w.heap.size->base<=k->v.ownBlock≠some k->w'.heap[k]?=w.heap[k]?:=fun k h1 h2 h3=>honl.block k h1 (by omega) h3;refine⟨.slice (some ⟨g,0,none⟩) (qs.length+1) cap,by rw[hlen],?_,hW⟩;refine⟨by unfold sV;rw[<-hlen];exact hrd,?_,?_,?_,?_,?_,?_,?_,?_,?_,?_⟩
 ·rw[VD,VT,JK];exact hown
 ·simp[ai,sV,<-h.out]
 ·intro q' hq';rcases VJ.1 hq' with h1|h1
  ·exact h.zA q' h1
  rw[VO]at h1;subst h1;exact hq.zA
 ·intro q' hq';rcases VJ.1 hq' with h1|h1
  ·exact h.zK q' h1
  rw[VO]at h1;subst h1;exact hq.zK
 ·intro q' hq';rcases VJ.1 hq' with h1|h1
  ·exact pV (h.ok q' h1) honl.size (h.zA q' h1) (h.zK q' h1) fun k hk=>keep k (h.lie q' h1 k hk).2.1 (h.lie q' h1 k hk).1 (h.lie q' h1 k hk).2.2.2
  rw[VO]at h1;subst h1;exact pV hq.ok honl.size hq.zA hq.zK fun k hk=>keep k (hq.lie k hk).2.1 (hq.lie k hk).1 (ha k hk).1
 ·intro q' hq' k hk;rcases VJ.1 hq' with h1|h1
  ·obtain⟨a1,a2,a3,a4⟩:=h.lie q' h1 k hk;exact⟨a1,Vt a2 honl.size,bR a3 (keep k a2 a1 a4),hW.apart a2 a4⟩
  rw[VO]at h1;subst h1;obtain⟨a1,a2,a3⟩:=hq.lie k hk;exact⟨a1,Vt a2 honl.size,bR a3 (keep k a2 a1 (ha k hk).1),hW.apart a2 (ha k hk).1⟩
 ·intro q' hq';rcases VJ.1 hq' with h1|h1
  ·exact h.one q' h1
  rw[VO]at h1;subst h1;exact hq.one
 ·intro x y hx hy hxy k hkx hky;rw[VD,VT]at hx hy;by_cases ex:x<qs.length
  ·rw[Wd ex]at hkx;by_cases ey:y<qs.length
   ·rw[Wd ey]at hky;exact h.two x y ex ey hxy k hkx hky
   have:y=qs.length:=by omega
   subst this;rw[Wz (Vu _)]at hky;simp at hky;exact(ha k hky).2 _ (Vs ex) hkx
  have:x=qs.length:=by omega
  subst this;rw[Wz (Vu _)]at hkx;simp at hkx;have ey:y<qs.length:=by omega
  rw[Wd ey]at hky;exact(ha k hkx).2 _ (Vs ey) hky
 ·intro q' hq';rcases VJ.1 hq' with h1|h1
  ·exact h.cA q' h1
  rw[VO]at h1;subst h1;exact hq.cA
 intro q' hq';rcases VJ.1 hq' with h1|h1
 ·exact(h.cK q' h1).heap (h.zK q' h1) fun k hk=>keep k (h.lie q' h1 k hk).2.1 (h.lie q' h1 k hk).1 (h.lie q' h1 k hk).2.2.2
 rw[VO]at h1;subst h1;exact Xp.heap hq.zK fun k hk=>keep k (hq.lie k hk).2.1 (hq.lie k hk).1 (ha k hk).1
def vT(R:Nat)(s:ByteArray)(base:Nat)(v:Value)(qs:Q08)(w:World)(x:Int×RS)(e:Ending)(w':World):Prop :=
 ∃v' ns,e=.returned (.int .i64 x.1)/\RdF w' R s x.2 base v' (qs++ns)/\Went R v w v' w'/\∀q∈ns,∀g,pU q g->w.heap.size<=g
def uI(s:ByteArray)(x:Int×RS):Int×RS:=if lQ s fH x.2 then (x.1,kM fH x.2) else (x.1,vQ x.2)
theorem JU{s:ByteArray}{x:Int×RS}(h:nM s fH x.2.p x.2.bad=true):uI s x=(x.1,kM fH x.2):=if_pos h
theorem M8{s:ByteArray}{x:Int×RS}(h:nM s fH x.2.p x.2.bad=false):uI s x=(x.1,vQ x.2):=if_neg (fun e=>by rw[lQ,<-nM,h]at e;cases e)
theorem RdF.is_no{w w':af}{R:Nat}{s t:ByteArray}{st:RS}{base:Nat}{v:Value}{qs:Q08}(h:RdF w R s st base v qs)(hR:R<base)(hb:nM s t st.p st.bad=false)(hr:RdC w' R s (R4 s t st.p st.bad) st.bad v)(hg:w.grownBy w' (some R)):RdF w' R s st base v qs:=by
 rw[AP hb]at hr;exact h.over hR (Onl.of_grown hg) hr
theorem RdF.is_yes{w w':af}{R:Nat}{s t:ByteArray}{st:RS}{base:Nat}{v:Value}{qs:Q08}(h:RdF w R s st base v qs)(hR:R<base)(hb:nM s t st.p st.bad=true)(hr:RdC w' R s (R4 s t st.p st.bad) st.bad v)(hg:w.grownBy w' (some R)):RdF w' R s (kM t st) base v qs:=by
 rw[vR hb]at hr;exact h.over hR (Onl.of_grown hg) hr
theorem AR{s t:ByteArray}{p:Nat}{bad:Bool}(h:nM s t p bad=true):p+t.size<=s.size:=by
 unfold nM at h;simp only[Vw]at h;exact G6 h.2
theorem PY(R:Nat)(s:bi)(st:RS)(base:Nat)(v:Value)(qs:Q08)(w:af)(h:RdF w R s st base v qs)(hR:R<base)(hs:s.size<=1000)(hp:st.p<=s.size)
  (h0:nM s fU st.p st.bad=false) (h1:nM s jR st.p st.bad=true) (x:Int×RS) (hx:x.2.p<=s.size)
  (hrow:∀w1,RdF w1 R s (kM jR st) base v qs->w.heap.size<=w1.heap.size->Calls prog 297 #[.pointer (some ⟨R,0,none⟩)] w1 (vT R s base v qs w1 x)) :
  Calls prog 324 #[.pointer (some ⟨R,0,none⟩)] w (vT R s base v qs w (uI s x)):=by
 have H:=aj h;have Yj:=aj hrow;have HX:=aj hx;have HP:=aj hp;clear h hrow hx hp;go_enter func324,ntmps324;go_wp2_with fail;refine(mU R s fU st.p st.bad v w H.out.rd hs HP.out (by decide)).mono ?_;rintro e w1 ⟨rfl,hr1,hg1⟩;have Ya:=aj (H.out.is_no hR h0 hr1 hg1);have Xf:=aj (Onl.of_grown hg1);rw[h0];clear hr1 hg1 h0;go_wp2_with fail;refine(mU R s jR st.p st.bad v w1 Ya.out.rd hs HP.out (by decide)).mono ?_;rintro e w2 ⟨rfl,hr2,hg2⟩;have XU:=aj (Ya.out.is_yes hR h1 hr2 hg2);have WY:=aj (Xf.out.trans0 (Onl.of_grown hg2));rw[h1];clear hr2 hg2 h1;go_wp2_with fail;refine(Yj.out w2 XU.out WY.out.size).mono ?_;rintro e w3 ⟨v3,ns,rfl,Yn,hW3,hns⟩;have Z0:=aj Yn;have HW3:=aj ((WY.out.any v).trans hW3);have HNS:Hid (∀q∈ns,∀g,pU q g->w.heap.size<=g):=fun q hq g hg=>Vz WY.out.size (hns q hq g hg);clear Yn hW3 hns Ya Xf XU WY Yj;go_wp2_with fail;refine(mU R s fH x.2.p x.2.bad v3 w3 Z0.out.rd hs HX.out (by decide)).mono ?_;rintro e w4 ⟨rfl,hr4,hg4⟩;cases hc:nM s fH x.2.p x.2.bad;case true=>
  have YK:=aj (Z0.out.is_yes hR hc hr4 hg4);have HW4:=aj (HW3.out.trans ((Onl.of_grown hg4).any v3));have EQ:=aj (JU (x:=x) hc);clear hr4 hg4 hc;go_wp2;exact bodyPost_ret (v:=.int .i64 x.1) (by simp[results,Tryz.results324,go_sem]) rfl (by rw[EQ.out];exact⟨v3,ns,rfl,YK.out,HW4.out,HNS.out⟩)
 have YK:=aj (Z0.out.is_no hR hc hr4 hg4);have HW4:=aj (HW3.out.trans ((Onl.of_grown hg4).any v3));have c2:=YK.out.rd.c2;have f2:=YK.out.rd.fr 2;have hl:=YK.out.rd.lt;have EQ:=aj (M8 (x:=x) hc);clear hr4 hg4 hc;go_wp2;exact bodyPost_ret (v:=.int .i64 x.1) (by simp[results,Tryz.results324,go_sem]) rfl (by rw[EQ.out];exact⟨v3,ns,rfl,YK.out.over hR ((Onl.refl R oN w4).at_own _ _) YK.out.rd.hurt,HW4.out.trans (((Onl.refl R oN w4).at_own _ _).any v3),HNS.out⟩)
theorem Onl.at_new{R:Nat}{v:Value}{w w':af}(h:Onl R v w w'){X:Nat}(hX:w.heap.size<=X)(o:Nat)(u:Value):Onl R v w (w'.setCell ⟨X,o,none⟩ u) :=
 ⟨h.os,h.tape,h.output,by simpa using h.size,fun k hk h1 h2=>(Below.heap_setCell w' _ _ k (by show k≠X;omega)).trans (h.block k hk h1 h2)⟩
theorem RdC.other{w:af}{R:Nat}{s:ByteArray}{p:Nat}{bad:Bool}{v:Value}(h:RdC w R s p bad v){X:Nat}(hX:X≠R)(o:Nat)(u:Value):RdC (w.setCell ⟨X,o,none⟩ u) R s p bad v :=
 ⟨by simpa using h.lt,by rw[VN (w:=w) (Below.heap_setCell w _ _ R (Ne.symm hX))];exact h.c0,by rw[VN (w:=w) (Below.heap_setCell w _ _ R (Ne.symm hX))];exact h.c1,by rw[VN (w:=w) (Below.heap_setCell w _ _ R (Ne.symm hX))];exact h.c2,by rw[VN (w:=w) (Below.heap_setCell w _ _ R (Ne.symm hX))];exact h.c3,fun j=>by simpa using h.fr j⟩
theorem RdC.below{w w':af}{R:Nat}{s:ByteArray}{p:Nat}{bad:Bool}{v:Value}(h:RdC w R s p bad v)(hb:ag w w'):RdC w' R s p bad v :=
 h.grown (row:=none) ⟨hb.os,hb.tape,hb.output,hb.size,fun k hk _=>hb.block k hk⟩ (by simp)
theorem zf.below{w w':af}{g:Nat}{q:ER}(h:zf w g q)(hb:ag w w'):zf w' g q :=
 h.grown (row:=none) ⟨hb.os,hb.tape,hb.output,hb.size,fun k hk _=>hb.block k hk⟩ (by simp)
def bare(k:Int)(o n:ByteArray):ER:=⟨⟨k,[],o,n,[]⟩,none,0,none,0⟩
theorem kw(k:Int)(o n:bi)(g:Nat):¬pU (bare k o n) g:=by
 rintro(⟨h,-⟩|⟨h,-⟩)<;>exact h rfl
theorem vV(k:Int)(o n:bi)(X:Nat)(w:af):NewQ X w (bare k o n) :=
 ⟨fun h=>absurd rfl h,fun h=>absurd rfl h,⟨.inl rfl,.inl rfl⟩,fun g h=>absurd h (kw k o n g),fun g h=>absurd (Or.inl h) (kw k o n g),Vu _⟩
theorem PZ(w:af)(k:Int)(o n:bi):zf (w.alloc (.cells #[.int .i64 k,.slice none 0 0,.string o,.string n,.slice none 0 0] 43)) w.heap.size (bare k o n):=by
 refine⟨?_,?_,?_,?_,?_,?_⟩<;>simp[bare]
theorem P5{w:af}{X:Nat}{a0 a1 a2 a3 a4:Value}(h0:w.cell? ⟨X,0,none⟩=some a0)(h1:w.cell? ⟨X,1,none⟩=some a1)(h2:w.cell? ⟨X,2,none⟩=some a2)(h3:w.cell? ⟨X,3,none⟩=some a3)(h4:w.cell? ⟨X,4,none⟩=some a4)(hl:X<w.heap.size)(k:Int)(o n:bi):
  zf (((((w.setCell ⟨X,0,none⟩ (.int .i64 k)).setCell ⟨X,1,none⟩ (.slice none 0 0)).setCell ⟨X,2,none⟩ (.string o)).setCell ⟨X,3,none⟩ (.string n)).setCell ⟨X,4,none⟩ (.slice none 0 0)) X (bare k o n):=by
 refine⟨?_,?_,?_,?_,?_,by simpa using hl⟩
 ·rw[mO (by omega),mO (by omega),mO (by omega),mO (by omega)];exact mS h0
 ·rw[mO (by omega),mO (by omega),mO (by omega)];exact mS (by rw[mO (by omega)];exact h1)
 ·rw[mO (by omega),mO (by omega)];exact mS (by rw[mO (by omega),mO (by omega)];exact h2)
 ·rw[mO (by omega)];exact mS (by rw[mO (by omega),mO (by omega),mO (by omega)];exact h3)
 exact mS (by rw[mO (by omega),mO (by omega),mO (by omega),mO (by omega)];exact h4)
def VB(l:Q03)(R:Nat)(s:ByteArray)(p:Nat)(bad:Bool)(v:Value)(k:Nat)(u:Value)(w':World):Prop:=u=l.getD k undef/\(k=3->RdC w' R s p bad v)
structure GB(R:Nat)(s:ByteArray)(p:Nat)(bad:Bool)(v:Value)(X:Nat)(q:ER)(w:World)(listed:Array Bool)(w':World):Prop where
 rd:listed.getD 3 false=false->RdC w' R s p bad v
 box:zf w' X q
 onl:Onl R oN w w'
 fr:j6 w' X
theorem GB.step{R:Nat}{s:ByteArray}{p:Nat}{bad:Bool}{v:Value}{X:Nat}{q:ER}{w w':af}{listed:Array Bool}(h:GB R s p bad v X q w listed w'){i:Nat}(hls:listed.size=6)(h3:i≠3):GB R s p bad v X q w (listed.setIfInBounds i true) w' :=
 ⟨fun k=>h.rd (by
  by_cases hi:i<6
  ·rw[aK _ _ _ (by omega),if_neg (Ne.symm h3)]at k;exact k
  rw[show listed.setIfInBounds i true=listed by rw[Array.setIfInBounds_eq_of_size_le (by omega)]]at k;exact k),h.box,h.onl,h.fr⟩
theorem GB.called{R:Nat}{s:ByteArray}{p:Nat}{bad:Bool}{v:Value}{X:Nat}{q:ER}{w w' w'':af}{listed:Array Bool}(h:GB R s p bad v X q w listed w')(hls:listed.size=6)(hg:w'.grownBy w'' (some R))(hX:X≠R):GB R s p bad v X q w (listed.setIfInBounds 3 true) w'' :=
 ⟨fun k=>(by rw[aK _ _ _ (by omega),if_pos rfl]at k;cases k),h.box.grown hg (by intro e;injection e with e;exact hX e),h.onl.trans0 (Onl.of_grown hg),bR h.fr (hg.block X h.box.2.2.2.2.2 (by intro e;injection e with e;exact hX e))⟩
theorem P6{s:ByteArray}{st:RS}(h:nM s pY (st.p+ax s st.p) st.bad=false):fE s st=⟨2,[],⟨#[]⟩,aA s st.p,[]⟩/\aH s st=⟨st.p+ax s st.p,st.bad,st.out⟩:=by
 have e:lQ s pY (bu s st)=false:=h;exact⟨by unfold fE;rw[e];rfl,by unfold aH;rw[e];rfl⟩
theorem M9{s:ByteArray}{st:RS}(h:nM s pY (st.p+ax s st.p) st.bad=true):fE s st=⟨3,[],aA s st.p,aA s (st.p+ax s st.p+2),[]⟩/\aH s st=⟨st.p+ax s st.p+2+ax s (st.p+ax s st.p+2),st.bad,st.out⟩:=by
 have e:lQ s pY (bu s st)=true:=h;exact⟨by unfold fE;rw[e];rfl,by unfold aH;rw[e];rfl⟩
theorem Na(R:Nat)(s:bi)(st:RS)(base:Nat)(v:Value)(qs:Q08)(w:af)(h:RdF w R s st base v qs)(hR:R<base)(hB:base<=w.heap.size)(hs:s.size<=1000)(hp:st.p<=s.size)(hn:qs.length<=100000)
  (h0:nM s fU st.p st.bad=false) (h1:nM s jR st.p st.bad=false) :
  Calls prog 324 #[.pointer (some ⟨R,0,none⟩)] w (vT R s base v qs w ((st.out.length:Int),sV (fE s st) (judged (fE s st) (aH s st)))):=by
 have H:=aj h;have HP:=aj hp;clear h hp;go_enter func324,ntmps324;go_wp2_with fail;refine(mU R s fU st.p st.bad v w H.out.rd hs HP.out (by decide)).mono ?_;rintro e w1 ⟨rfl,hr1,hg1⟩;have Ya:=aj (H.out.is_no hR h0 hr1 hg1);have Xf:=aj (Onl.of_grown hg1);rw[h0];clear hr1 hg1 h0;go_wp2_with fail;refine(mU R s jR st.p st.bad v w1 Ya.out.rd hs HP.out (by decide)).mono ?_;rintro e w2 ⟨rfl,hr2,hg2⟩;have XU:=aj (Ya.out.is_no hR h1 hr2 hg2);have WY:=aj (Xf.out.trans0 (Onl.of_grown hg2));rw[h1];clear hr2 hg2 h1 Ya Xf;go_wp2_with fail;refine(vS R s st.p st.bad v w2 XU.out.rd hs HP.out).mono ?_;rintro e w3 ⟨rfl,hr3,hg3⟩;have Z0:=aj (XU.out.over hR (Onl.of_grown hg3) hr3);have Xv:=aj (WY.out.trans0 (Onl.of_grown hg3));have HP3:=aj (kN s st.p HP.out);have Z4:=aj (AO s st.p HP.out);clear hr3 hg3 XU WY;obtain⟨W4,Xn⟩:=eQx (w3.alloc (.cells #[.int .i64 2,.slice none 0 0,.string ⟨#[]⟩,.string (aA s st.p),.slice none 0 0] 43));have HV4:Hid (zf W4 w3.heap.size (bare 2 ⟨#[]⟩ (aA s st.p))):=by rw[Xn];exact PZ w3 2 ⟨#[]⟩ (aA s st.p)
 have HO4a:Hid (Onl R oN w3 W4):=by rw[Xn];exact Onl.of_below ((Vv _ _).alloc (Vu _) _)
 have YK:Hid (RdF W4 R s ⟨st.p+ax s st.p,st.bad,st.out⟩ base v qs):=Z0.out.over hR HO4a.out (by rw[Xn];exact Z0.out.rd.below ((Vv _ _).alloc (Vu _) _));have Xr:=aj (Xv.out.trans0 HO4a.out);have HFR4:Hid (j6 W4 w3.heap.size):=fun y=>by rw[Xn];simp
 have HXR:Hid (w3.heap.size≠R):=by have:=Z0.out.rd.lt;show _≠_;omega
 have HX0:Hid (w.heap.size<=w3.heap.size):=Xv.out.size;have HX3:Hid (w3.heap.size<=w3.heap.size):=Vu _;go_wp2_with fail;rw[<-Xn];clear Xn;obtain⟨X,hX⟩:=eQx w3.heap.size;rw[<-hX]at HV4 HFR4 HXR HX0;replace HX3:Hid (w3.heap.size<=X):=Nat.le_of_eq hX.symm;rw[<-hX];clear hX;refine(mU R s pY (st.p+ax s st.p) st.bad v W4 YK.out.rd hs HP3.out (by decide)).mono ?_;rintro e w5 ⟨rfl,hr5,hg5⟩;have HV5:=aj (HV4.out.grown hg5 (by intro e;injection e with e;exact HXR.out e));have HFR5:=aj (bR HFR4.out (hg5.block X HV4.out.2.2.2.2.2 (by intro e;injection e with e;exact HXR.out e)));have Xa:=aj (Xr.out.trans0 (Onl.of_grown hg5));have HO35:=aj (HO4a.out.trans0 (Onl.of_grown hg5));cases hc:nM s pY (st.p+ax s st.p) st.bad;case false=>
  have HF5:=aj (YK.out.is_no hR hc hr5 hg5);have EQ:=aj (P6 hc);clear hr5 hg5 hc YK Xr HV4 HFR4;obtain⟨x0,x1,x2,x3,x4,xl⟩:=HV5.out;replace x0:w5.cell? ⟨X,0,none⟩=some (.int .i64 2):=x0;replace x1:w5.cell? ⟨X,1,none⟩=some (.slice none 0 0):=x1;replace x2:w5.cell? ⟨X,2,none⟩=some (.string ⟨#[]⟩):=x2;replace x3:w5.cell? ⟨X,3,none⟩=some (.string (aA s st.p)):=x3;replace x4:w5.cell? ⟨X,4,none⟩=some (.slice none 0 0):=x4;go_wp2_with fail;refine(mE (bare 2 ⟨#[]⟩ (aA s st.p)) w5 ⟨fun a ha=>(by cases ha),Vy _,by show(aA s st.p).size<=maxLen;rw[Z4.out];have:=HP3.out;unfold maxLen;omega,Vy _,Vy _⟩ (by show(2:Int)≠1;decide)).mono ?_;rintro e w6 ⟨rfl,hB6⟩;have Yy:=aj (Xa.out.trans0 (Onl.of_below hB6));have Z5:=aj (HF5.out.over hR (Onl.of_below hB6) (HF5.out.rd.below hB6));obtain⟨y0,y1,y2,y3,y4,yl⟩:=HV5.out.below hB6;replace y0:w6.cell? ⟨X,0,none⟩=some (.int .i64 2):=y0;replace y1:w6.cell? ⟨X,1,none⟩=some (.slice none 0 0):=y1;replace y2:w6.cell? ⟨X,2,none⟩=some (.string ⟨#[]⟩):=y2;replace y3:w6.cell? ⟨X,3,none⟩=some (.string (aA s st.p)):=y3;replace y4:w6.cell? ⟨X,4,none⟩=some (.slice none 0 0):=y4;clear x0 x1 x2 x3 x4 xl hB6 HV5 HF5 Xa;cases hb:av (bare 2 ⟨#[]⟩ (aA s st.p)).e;case true=>
   have HE:Hid (fE s st=(bare 2 ⟨#[]⟩ (aA s st.p)).e/\judged (fE s st) (aH s st)=(⟨st.p+ax s st.p,st.bad,st.out⟩:RS)):=by
    refine⟨EQ.out.1,?_⟩;rw[EQ.out.1,EQ.out.2];exact if_pos hb
   clear hb;go_wp2_with fail;refine(M7 R s ((⟨st.p+ax s st.p,st.bad,st.out⟩:RS)) base v qs (bare 2 ⟨#[]⟩ (aA s st.p)) w6 Z5.out hR (Vz hB Yy.out.size) hn (vV _ _ _ _ _) (.inl ⟨rfl,rfl,rfl⟩) (fun g hg=>absurd hg (kw _ _ _ g))).mono ?_;rintro e w7 ⟨v7,rfl,hF7,Z6⟩;have HF7:=aj hF7;have HW7:=aj ((Yy.out.any v).trans Z6);clear hF7 Z6;go_wp2;exact bodyPost_ret (v:=.int .i64 (st.out.length:Int)) (by simp[results,Tryz.results324,go_sem]) rfl (by rw[HE.out.1,<-HE.out.1,HE.out.2,HE.out.1];exact⟨v7,[bare 2 ⟨#[]⟩ (aA s st.p)],rfl,HF7.out,HW7.out,fun q hq g hg=>by rw[VO]at hq;subst hq;exact absurd hg (kw _ _ _ g)⟩)
  have HE:Hid (fE s st=(bare 2 ⟨#[]⟩ (aA s st.p)).e/\judged (fE s st) (aH s st)=vQ ((⟨st.p+ax s st.p,st.bad,st.out⟩:RS))):=by
   refine⟨EQ.out.1,?_⟩;rw[EQ.out.1,EQ.out.2];exact if_neg (fun e=>by have:=e.symm.trans hb;cases this)
  clear hb;have c2:=Z5.out.rd.c2;have f2:=Z5.out.rd.fr 2;have hl:=Z5.out.rd.lt;have hxr:=HXR.out;have hrx:=Ne.symm HXR.out;have HO7:Hid (Onl R oN w (w6.setCell ⟨R,2,none⟩ (.bool true))):=Yy.out.at_own _ _;have HF7:Hid (RdF (w6.setCell ⟨R,2,none⟩ (.bool true)) R s (vQ ((⟨st.p+ax s st.p,st.bad,st.out⟩:RS))) base v qs):=Z5.out.over hR ((Onl.refl R oN w6).at_own _ _) Z5.out.rd.hurt;go_wp2_with fail;refine(M7 R s (vQ ((⟨st.p+ax s st.p,st.bad,st.out⟩:RS))) base v qs (bare 2 ⟨#[]⟩ (aA s st.p)) _ HF7.out hR (Vz hB HO7.out.size) hn (vV _ _ _ _ _) (.inl ⟨rfl,rfl,rfl⟩) (fun g hg=>absurd hg (kw _ _ _ g))).mono ?_;rintro e w8 ⟨v8,rfl,hF8,ZJ⟩;have HF8:=aj hF8;have HW8:=aj ((HO7.out.any v).trans ZJ);clear hF8 ZJ;go_wp2;exact bodyPost_ret (v:=.int .i64 (st.out.length:Int)) (by simp[results,Tryz.results324,go_sem,vQ]) rfl (by rw[HE.out.1,<-HE.out.1,HE.out.2,HE.out.1];exact⟨v8,[bare 2 ⟨#[]⟩ (aA s st.p)],rfl,HF8.out,HW8.out,fun q hq g hg=>by rw[VO]at hq;subst hq;exact absurd hg (kw _ _ _ g)⟩)
 have HF5:=aj (YK.out.is_yes hR hc hr5 hg5);have EQ:=aj (M9 hc);have HP5:Hid (st.p+ax s st.p+2<=s.size):=AR hc;clear hr5 hg5 hc YK Xr HV4 HFR4;go_wp2_with fail;refine mi 5 _ _ (VB (Value.pointer (some ⟨X,3,none⟩)::.string (aA s st.p)::.pointer (some ⟨R,0,none⟩)::.string (aA s (st.p+ax s st.p+2))::.agg #[.int .i64 3,.slice none 0 0,.string (aA s st.p),.string (aA s (st.p+ax s st.p+2)),.slice none 0 0]::[]) R s ((st.p+ax s st.p+2)+ax s (st.p+ax s st.p+2)) st.bad v) (GB R s (st.p+ax s st.p+2) st.bad v X (bare 2 ⟨#[]⟩ (aA s st.p)) w3) (by kernel_rfl) rfl (by decide +kernel) (by decide +kernel) (yt [(56,[0,1,2,3,4])]) ⟨fun _=>HF5.out.rd.drewN 1,HV5.out,⟨HO35.out.os,HO35.out.tape,HO35.out.output,HO35.out.size,HO35.out.block⟩,HFR5.out⟩ ?yN ?finB<;>dsimp only[wY];case yN =>
  rintro i hi o ho listed f w' hls Xb hG hpre;have HG:=aj hG;have HM:Hid (∀e∈o.after,Region.binds .any e=true->_):=hpre;clear hG hpre;have hc:i=0\/i=1\/i=2\/i=3\/i=4:=by omega
  clear hi
  repeat' rcases hc with rfl|hc
  ·cases ho;have HS:=aj (HG.out.step (i:=0) hls (by decide));refine aa rfl fun K HK=>?_;clear HM;dsimp only;go_simp;exact HK.out _ _ ⟨Value.pointer (some ⟨X,3,none⟩),by simp[upd],HS.out,⟨rfl,fun e=>absurd e (by decide)⟩,fun k u _ hu=>hu⟩
  ·cases ho;have e0:f 0=Value.pointer (some ⟨X,3,none⟩):=(HM.out ⟨0,.data⟩ (by simp) rfl).1;have x3:w'.cell? ⟨X,3,none⟩=some (.string (aA s st.p)):=HG.out.box.2.2.2.1;have HS:=aj (HG.out.step (i:=1) hls (by decide));refine aa rfl fun K HK=>?_;clear HM;simp only[e0];go_simp;exact HK.out _ _ ⟨Value.string (aA s st.p),by simp[upd,e0],HS.out,⟨rfl,fun e=>absurd e (by decide)⟩,fun k u _ hu=>hu⟩
  ·cases ho;have HS:=aj (HG.out.step (i:=2) hls (by decide));refine aa rfl fun K HK=>?_;clear HM;dsimp only;go_simp;exact HK.out _ _ ⟨Value.pointer (some ⟨R,0,none⟩),by simp[upd],HS.out,⟨rfl,fun e=>absurd e (by decide)⟩,fun k u _ hu=>hu⟩
  ·cases ho;have e2:f 2=Value.pointer (some ⟨R,0,none⟩):=(HM.out ⟨2,.data⟩ (by simp) rfl).1;have hrd:=aj (HG.out.rd (JS Xb hls (by omega)));refine aa rfl fun K HK=>?_;clear HM;simp only[e2];go_simp;refine(vS R s (st.p+ax s st.p+2) st.bad v w' hrd.out hs HP5.out).mono ?_;rintro e w7 ⟨rfl,hr7,Zk⟩;have HS:=aj (HG.out.called hls Zk HXR.out);have HR7:=aj hr7;clear hr7 Zk;go_wp2_with fail;exact HK.out _ _ ⟨Value.string (aA s (st.p+ax s st.p+2)),by simp[upd,e2],HS.out,⟨rfl,fun _=>HR7.out⟩,fun k u hk hu=>⟨hu.1,fun e=>absurd e hk⟩⟩
  cases ho;have e1:f 1=Value.string (aA s st.p):=(HM.out ⟨1,.data⟩ (by simp) rfl).1;have e3:f 3=Value.string (aA s (st.p+ax s st.p+2)):=(HM.out ⟨3,.data⟩ (by simp) rfl).1;have HS:=aj (HG.out.step (i:=4) hls (by decide));refine aa rfl fun K HK=>?_;clear HM;simp only[e1,e3];go_simp;exact HK.out _ _ ⟨Value.agg #[.int .i64 3,.slice none 0 0,.string (aA s st.p),.string (aA s (st.p+ax s st.p+2)),.slice none 0 0],by simp[upd,e1,e3],HS.out,⟨rfl,fun e=>absurd e (by decide)⟩,fun k u _ hu=>hu⟩
 case finB =>
  rintro o ho listed f w' hG hall;obtain rfl:=Option.some.inj ho;have e4:f 4=Value.agg #[.int .i64 3,.slice none 0 0,.string (aA s st.p),.string (aA s (st.p+ax s st.p+2)),.slice none 0 0]:=(hall 4 (by omega)).1;have HRD:=aj ((hall 3 (by omega)).2 rfl);have HG:=aj hG;obtain⟨x0,x1,x2,x3,x4,xl⟩:=hG.box;have f0:=hG.fr 0;have f1:=hG.fr 1;have f2:=hG.fr 2;have f3:=hG.fr 3;have f4:=hG.fr 4;clear ho hall hG;refine wpOp_step rfl (fun K hK=>?_);have HK:Hid (∀a w,_->K a w):=hK;clear hK;simp only[e4];go_simp;refine HK.out _ _ ?_;clear HK;obtain⟨wz,hwz⟩:=eQx ((((((w'.setCell ⟨X,0,none⟩ (.int .i64 3)).setCell ⟨X,1,none⟩ (.slice none 0 0)).setCell ⟨X,2,none⟩ (.string (aA s st.p))).setCell ⟨X,3,none⟩ (.string (aA s (st.p+ax s st.p+2)))).setCell ⟨X,4,none⟩ (.slice none 0 0)));have HO3z:Hid (Onl R oN w3 wz):=by rw[hwz];exact((((HG.out.onl.at_new HX3.out _ _).at_new HX3.out _ _).at_new HX3.out _ _).at_new HX3.out _ _).at_new HX3.out _ _
  have HRz:Hid (RdC wz R s (st.p+ax s st.p+2+ax s (st.p+ax s st.p+2)) st.bad v):=by rw[hwz];exact((((HRD.out.other HXR.out _ _).other HXR.out _ _).other HXR.out _ _).other HXR.out _ _).other HXR.out _ _
  have HVz:Hid (zf wz X (bare 3 (aA s st.p) (aA s (st.p+ax s st.p+2)))):=by rw[hwz];exact P5 x0 x1 x2 x3 x4 xl _ _ _
  clear HV5 HF5 Xa HO35 HFR5;have HF5:=aj (Z0.out.over hR HO3z.out HRz.out);have Xa:=aj (Xv.out.trans0 HO3z.out);rw[<-hwz];clear hwz x0 x1 x2 x3 x4 xl f0 f1 f2 f3 f4 e4 HRz HO3z HG HRD;obtain⟨x0,x1,x2,x3,x4,xl⟩:=HVz.out;replace x0:wz.cell? ⟨X,0,none⟩=some (.int .i64 3):=x0;replace x1:wz.cell? ⟨X,1,none⟩=some (.slice none 0 0):=x1;replace x2:wz.cell? ⟨X,2,none⟩=some (.string (aA s st.p)):=x2;replace x3:wz.cell? ⟨X,3,none⟩=some (.string (aA s (st.p+ax s st.p+2))):=x3;replace x4:wz.cell? ⟨X,4,none⟩=some (.slice none 0 0):=x4;go_wp2_with fail;refine(mE (bare 3 (aA s st.p) (aA s (st.p+ax s st.p+2))) wz ⟨fun a ha=>(by cases ha),by show(aA s st.p).size<=maxLen;rw[Z4.out];have:=HP3.out;unfold maxLen;omega,by show(aA s (st.p+ax s st.p+2)).size<=maxLen;rw[AO s _ HP5.out];have:=kN s _ HP5.out;unfold maxLen;omega,Vy _,Vy _⟩ (by show(3:Int)≠1;decide)).mono ?_;rintro e w6 ⟨rfl,hB6⟩;have Yy:=aj (Xa.out.trans0 (Onl.of_below hB6));have Z5:=aj (HF5.out.over hR (Onl.of_below hB6) (HF5.out.rd.below hB6));obtain⟨y0,y1,y2,y3,y4,yl⟩:=HVz.out.below hB6;replace y0:w6.cell? ⟨X,0,none⟩=some (.int .i64 3):=y0;replace y1:w6.cell? ⟨X,1,none⟩=some (.slice none 0 0):=y1;replace y2:w6.cell? ⟨X,2,none⟩=some (.string (aA s st.p)):=y2;replace y3:w6.cell? ⟨X,3,none⟩=some (.string (aA s (st.p+ax s st.p+2))):=y3;replace y4:w6.cell? ⟨X,4,none⟩=some (.slice none 0 0):=y4;clear x0 x1 x2 x3 x4 xl hB6 HVz HF5 Xa;cases hb:av (bare 3 (aA s st.p) (aA s (st.p+ax s st.p+2))).e;case true=>
   have HE:Hid (fE s st=(bare 3 (aA s st.p) (aA s (st.p+ax s st.p+2))).e/\judged (fE s st) (aH s st)=(⟨st.p+ax s st.p+2+ax s (st.p+ax s st.p+2),st.bad,st.out⟩:RS)):=by
    refine⟨EQ.out.1,?_⟩;rw[EQ.out.1,EQ.out.2];exact if_pos hb
   clear hb;go_wp2_with fail;refine(M7 R s ((⟨st.p+ax s st.p+2+ax s (st.p+ax s st.p+2),st.bad,st.out⟩:RS)) base v qs (bare 3 (aA s st.p) (aA s (st.p+ax s st.p+2))) w6 Z5.out hR (Vz hB Yy.out.size) hn (vV _ _ _ _ _) (.inl ⟨rfl,rfl,rfl⟩) (fun g hg=>absurd hg (kw _ _ _ g))).mono ?_;rintro e w7 ⟨v7,rfl,hF7,Z6⟩;have HF7:=aj hF7;have HW7:=aj ((Yy.out.any v).trans Z6);clear hF7 Z6;go_wp2;exact bodyPost_ret (v:=.int .i64 (st.out.length:Int)) (by simp[results,Tryz.results324,go_sem]) rfl (by rw[HE.out.1,<-HE.out.1,HE.out.2,HE.out.1];exact⟨v7,[bare 3 (aA s st.p) (aA s (st.p+ax s st.p+2))],rfl,HF7.out,HW7.out,fun q hq g hg=>by rw[VO]at hq;subst hq;exact absurd hg (kw _ _ _ g)⟩)
  have HE:Hid (fE s st=(bare 3 (aA s st.p) (aA s (st.p+ax s st.p+2))).e/\judged (fE s st) (aH s st)=vQ ((⟨st.p+ax s st.p+2+ax s (st.p+ax s st.p+2),st.bad,st.out⟩:RS))):=by
   refine⟨EQ.out.1,?_⟩;rw[EQ.out.1,EQ.out.2];exact if_neg (fun e=>by have:=e.symm.trans hb;cases this)
  clear hb;have c2:=Z5.out.rd.c2;have f2:=Z5.out.rd.fr 2;have hl:=Z5.out.rd.lt;have hxr:=HXR.out;have hrx:=Ne.symm HXR.out;have HO7:Hid (Onl R oN w (w6.setCell ⟨R,2,none⟩ (.bool true))):=Yy.out.at_own _ _;have HF7:Hid (RdF (w6.setCell ⟨R,2,none⟩ (.bool true)) R s (vQ ((⟨st.p+ax s st.p+2+ax s (st.p+ax s st.p+2),st.bad,st.out⟩:RS))) base v qs):=Z5.out.over hR ((Onl.refl R oN w6).at_own _ _) Z5.out.rd.hurt;go_wp2_with fail;refine(M7 R s (vQ ((⟨st.p+ax s st.p+2+ax s (st.p+ax s st.p+2),st.bad,st.out⟩:RS))) base v qs (bare 3 (aA s st.p) (aA s (st.p+ax s st.p+2))) _ HF7.out hR (Vz hB HO7.out.size) hn (vV _ _ _ _ _) (.inl ⟨rfl,rfl,rfl⟩) (fun g hg=>absurd hg (kw _ _ _ g))).mono ?_;rintro e w8 ⟨v8,rfl,hF8,ZJ⟩;have HF8:=aj hF8;have HW8:=aj ((HO7.out.any v).trans ZJ);clear hF8 ZJ;go_wp2;exact bodyPost_ret (v:=.int .i64 (st.out.length:Int)) (by simp[results,Tryz.results324,go_sem,vQ]) rfl (by rw[HE.out.1,<-HE.out.1,HE.out.2,HE.out.1];exact⟨v8,[bare 3 (aA s st.p) (aA s (st.p+ax s st.p+2))],rfl,HF8.out,HW8.out,fun q hq g hg=>by rw[VO]at hq;subst hq;exact absurd hg (kw _ _ _ g)⟩)
structure PL(w1 wr:World)(R X:Nat)(s:ByteArray)(xs:Q0a)(p:Nat)(bad:Bool)(v vA:Value):Prop where
 rd:RdC wr R s p bad v
 onl:Onl R oN w1 wr
 c0:wr.cell? ⟨X,0,none⟩=some (.int .i64 1)
 c1:wr.cell? ⟨X,1,none⟩=some vA
 c2:wr.cell? ⟨X,2,none⟩=some (.string ⟨#[]⟩)
 c3:wr.cell? ⟨X,3,none⟩=some (.string ⟨#[]⟩)
 c4:wr.cell? ⟨X,4,none⟩=some (.slice none 0 0)
 fr:j6 wr X
 lt:X<wr.heap.size
 own:wr.ownsRow (X+1) 216 2 vA xs.length (pairs xs)
theorem PL.moved{w1 wr w':af}{R X:Nat}{s:ByteArray}{xs:Q0a}{p p':Nat}{bad bad':Bool}{v vA:Value}(h:PL w1 wr R X s xs p bad v vA)(hRX:R<X)(hg:wr.grownBy w' (some R))(hr:RdC w' R s p' bad' v):PL w1 w' R X s xs p' bad' v vA:=by
 have hne:some X≠some R:=by intro e;injection e with e;omega
 refine⟨hr,h.onl.trans0 (Onl.of_grown hg),hg.cell h.c0 hne,hg.cell h.c1 hne,hg.cell h.c2 hne,hg.cell h.c3 hne,hg.cell h.c4 hne,bR h.fr (hg.block X h.lt hne),Vt h.lt hg.size,h.own.kept hg (.inr ?_)⟩;intro e;have:=(h.own.lt R e).1;omega
theorem PL.made{w1 wr:af}{R X:Nat}{s:ByteArray}{xs:Q0a}{p:Nat}{bad:Bool}{v vA:Value}(h:PL w1 wr R X s xs p bad v vA)(o:Obj):PL w1 (wr.alloc o) R X s xs p bad v vA:=by
 have hg:=World.grownBy_alloc wr o none;exact⟨h.rd.grown hg (by simp),h.onl.trans0 (Onl.of_below ((Vv _ _).alloc (Vu _) _)),hg.cell h.c0 (by simp),hg.cell h.c1 (by simp),hg.cell h.c2 (by simp),hg.cell h.c3 (by simp),hg.cell h.c4 (by simp),bR h.fr (hg.block X h.lt (by simp)),Vt h.lt hg.size,h.own.alloc o⟩
theorem PL.aset{w1 wr:af}{R X:Nat}{s:ByteArray}{xs:Q0a}{p:Nat}{bad:Bool}{v vA:Value}(h:PL w1 wr R X s xs p bad v vA)(hRX:R<X)(h1:w1.heap.size<=X){A:Nat}(hA:X<A)(hv:vA.ownBlock≠some A)(o:Nat)(u:Value):PL w1 (wr.setCell ⟨A,o,none⟩ u) R X s xs p bad v vA:=by
 have hb:∀k,k≠A->(wr.setCell ⟨A,o,none⟩ u).heap[k]?=wr.heap[k]?:=fun k hk=>Below.heap_setCell wr _ _ k hk;refine⟨h.rd.other (by omega) _ _,h.onl.at_new (by omega) _ _,?_,?_,?_,?_,?_,bR h.fr (hb X (by omega)),by simpa using h.lt,bF h.own fun g hg=>hb g (fun e=>hv (by rw[hg,e]))⟩
 all_goals rw[VN (w:=wr) (hb X (by omega))]
 ·exact h.c0
 ·exact h.c1
 ·exact h.c2
 ·exact h.c3
 exact h.c4
theorem Nb(xs:Q0a)(a:Al):pairs (xs++[a])=pairs xs++[.string a.t,.string a.s]:=by simp[pairs]
theorem PL.app{w1 wr w':af}{R X:Nat}{s:ByteArray}{xs:Q0a}{p:Nat}{bad:Bool}{v vA vB:Value}(h:PL w1 wr R X s xs p bad v vA)(hRX:R<X)(h1:w1.heap.size<=X)(a:Al)(hown:w'.ownsRow (X+1) 216 2 vB (xs.length+1) (pairs xs++[.string a.t,.string a.s]))(hg:wr.grownBy w' vA.ownBlock):PL w1 (w'.setCell ⟨X,1,none⟩ vB) R X s (xs++[a]) p bad v vB:=by
 have hX:some X≠vA.ownBlock:=fun e=>by have:=(h.own.lt X e.symm).1;omega
 have hR:some R≠vA.ownBlock:=fun e=>by have:=(h.own.lt R e.symm).1;omega
 have ho:Onl R oN w1 w':=⟨hg.os.trans h.onl.os,hg.tape.trans h.onl.tape,hg.output.trans h.onl.output,Vz h.onl.size hg.size,fun k hk h2 h3=>(hg.block k (Vt hk h.onl.size) (fun e=>by have:=(h.own.lt k e.symm).1;omega)).trans (h.onl.block k hk h2 h3)⟩;refine⟨(h.rd.grown hg hR).other (by omega) _ _,ho.at_new h1 _ _,?_,mS (hg.cell h.c1 hX),?_,?_,?_,fun j=>?_,?_,?_⟩
 ·rw[mO (by omega)];exact hg.cell h.c0 hX
 ·rw[mO (by omega)];exact hg.cell h.c2 hX
 ·rw[mO (by omega)];exact hg.cell h.c3 hX
 ·rw[mO (by omega)];exact hg.cell h.c4 hX
 ·simpa using bR h.fr (hg.block X h.lt hX) j
 ·simpa using Vt h.lt hg.size
 rw[Nb,VD,VT];exact ownsRow_setCell_below hown (by show X<X+1;omega) _
def wbad(R:Nat)(w:World):Nat:=match w.cell? ⟨R,2,none⟩ with
 | some (.bool true)=>0
 | _=>1
theorem RdC.wbad0{w:af}{R:Nat}{s:ByteArray}{p:Nat}{v:Value}(h:RdC w R s p true v):wbad R w=0:=by
 simp[Go.Proofs.YtojjoblnpldniaaGreat.wbad,h.c2]
theorem RdC.wbad1{w:af}{R:Nat}{s:ByteArray}{p:Nat}{v:Value}(h:RdC w R s p false v):wbad R w=1:=by
 simp[Go.Proofs.YtojjoblnpldniaaGreat.wbad,h.c2]
theorem AU(w:af)(a b:bi)(g:Nat)(hg:w.heap.size=g):∀j u,[Value.string a,.string b][j]?=some u->(w.alloc (.cells #[.string a,.string b] 216)).cell? ((⟨g,0,none⟩:Addr).add j)=some u:=by
 intro j u hu;subst hg;rw[show(⟨w.heap.size,0,none⟩:Addr).add j=⟨w.heap.size,0+j,none⟩ by simp[Addr.add];omega,VW];have:=World.cell?_alloc_mark w #[.string a,.string b] 216 (0,0) j;rw[this];simpa using hu
def qZ(s:ByteArray)(st:RS):Int×RS:=match dH s (s.size+1) [] (kM fU st) with
 | (some xs,st')=>((st'.out.length:Int),sV ⟨1,xs,⟨#[]⟩,⟨#[]⟩,[]⟩ st')
 | (none,st')=>(0,st')
theorem JV{s:ByteArray}{st st':RS}{xs:Q0a}(h:dH s (s.size+1) [] (kM fU st)=(some xs,st')):qZ s st=((st'.out.length:Int),sV ⟨1,xs,⟨#[]⟩,⟨#[]⟩,[]⟩ st'):=by simp only[qZ,h]
theorem JW{s:ByteArray}{st st':RS}(h:dH s (s.size+1) [] (kM fU st)=(none,st')):qZ s st=(0,st'):=by simp only[qZ,h]
theorem JX(s:bi)(n:Nat)(xs:Q0a)(p:Nat)(o:Q09):dH s n xs ⟨p,true,o⟩=(none,⟨p,true,o⟩):=by
 cases n with
 | zero=>rfl
 | succ n=>rfl
structure PairIs(s:ByteArray)(p:Nat)(o:Q09)(a:Al)(pb:Nat):Prop where
 a:(⟨aA s p,ze s (bu s ⟨p,false,o⟩)⟩:Al)=a
 b:aT s (bu s ⟨p,false,o⟩)=⟨pb,false,o⟩
theorem Nc{s:ByteArray}{p:Nat}{o:Q09}(h:nM s vP (p+ax s p) false=false):PairIs s p o ⟨aA s p,⟨#[]⟩⟩ (p+ax s p):=by
 have e:lQ s vP (bu s ⟨p,false,o⟩)=false:=h;exact⟨by unfold ze;rw[e];rfl,by unfold aT;rw[e];rfl⟩
theorem JY{s:ByteArray}{p:Nat}{o:Q09}(h:nM s vP (p+ax s p) false=true):PairIs s p o ⟨aA s p,aA s (p+ax s p+1)⟩ (p+ax s p+1+ax s (p+ax s p+1)):=by
 have e:lQ s vP (bu s ⟨p,false,o⟩)=true:=h;exact⟨by unfold ze;rw[e];rfl,by unfold aT;rw[e];rfl⟩
theorem G8{s:ByteArray}{p pb n:Nat}{o:Q09}{a:Al}{xs:Q0a}(h:PairIs s p o a pb)(h1:nM s fH pb false=true):dH s (n+1) xs ⟨p,false,o⟩=(some (xs++[a]),⟨pb+1,false,o⟩):=by
 have e:lQ s fH ⟨pb,false,o⟩=true:=h1;unfold dH;rw[h.a,h.b,e];rfl
theorem G9{s:ByteArray}{p pb n:Nat}{o:Q09}{a:Al}{xs:Q0a}(h:PairIs s p o a pb)(h1:nM s fH pb false=false)(h2:nM s mR pb false=true):dH s (n+1) xs ⟨p,false,o⟩=dH s n (xs++[a]) ⟨pb+1,false,o⟩:=by
 have e:lQ s fH ⟨pb,false,o⟩=false:=h1;have e2:lQ s mR ⟨pb,false,o⟩=true:=h2
 conv=>lhs;unfold dH
 rw[h.a,h.b,e,e2];rfl
theorem Nf{s:ByteArray}{p pb n:Nat}{o:Q09}{a:Al}{xs:Q0a}(h:PairIs s p o a pb)(h1:nM s fH pb false=false)(h2:nM s mR pb false=false):dH s (n+1) xs ⟨p,false,o⟩=dH s n (xs++[a]) ⟨pb,true,o⟩:=by
 have e:lQ s fH ⟨pb,false,o⟩=false:=h1;have e2:lQ s mR ⟨pb,false,o⟩=false:=h2
 conv=>lhs;unfold dH
 rw[h.a,h.b,e,e2];rfl
theorem capOf{w:af}{base size n m cap:Nat}{e:TypeId}{ad:Q02}{xs:Q03}(h:w.ownsRow base e size (.slice ad n cap) m xs)(hm:m=n:=by rfl):n<=cap:=by
 rcases h.2 with⟨e1,h0⟩|⟨g,cap',cur,e1,-,-,hnc,-⟩
 ·injection e1 with _ e2 e3;omega
 injection e1 with _ e2 e3;omega
theorem PL.node{w1 wr:af}{R X:Nat}{s:ByteArray}{xs:Q0a}{p:Nat}{bad:Bool}{v vA:Value}(h:PL w1 wr R X s xs p bad v vA)(h1:w1.heap.size<=X){base:Nat}(hb:base<=w1.heap.size):∃ad cap,vA=.slice ad xs.length cap/\NewQ base wr ⟨⟨1,xs,⟨#[]⟩,⟨#[]⟩,[]⟩,ad,cap,none,0⟩/\∀g,pU ⟨⟨1,xs,⟨#[]⟩,⟨#[]⟩,[]⟩,ad,cap,none,0⟩ g->X<g:=by
 obtain⟨ad,cap,e,h2,h3,h4⟩:=PS h.own rfl;have hK:∀g,¬bK ⟨⟨1,xs,⟨#[]⟩,⟨#[]⟩,[]⟩,ad,cap,none,0⟩ g:=fun g hg=>hg.1 rfl;have hA:∀g,pU ⟨⟨1,xs,⟨#[]⟩,⟨#[]⟩,[]⟩,ad,cap,none,0⟩ g->X+1<=g/\g<wr.heap.size/\j6 wr g:=by
  rintro g (hg|hg)
  ·exact h4 g hg.1 hg.2
  exact absurd hg (hK g)
 refine⟨ad,cap,e,⟨h3,fun h=>absurd rfl h,⟨h2,.inl rfl⟩,fun g hg=>⟨?_,(hA g hg).2⟩,fun g _ hg=>hK g hg,capOf (e ▸ h.own)⟩,fun g hg=>(hA g hg).1⟩;have:=(hA g hg).1;omega
theorem Ng(R:Nat)(s:bi)(st:RS)(base:Nat)(v:Value)(qs:Q08)(w:af)(h:RdF w R s st base v qs)(hR:R<base)(hB:base<=w.heap.size)(hs:s.size<=1000)(hp:st.p<=s.size)(hn:qs.length<=100000)
  (h0:nM s fU st.p st.bad=true) :
  Calls prog 324 #[.pointer (some ⟨R,0,none⟩)] w (vT R s base v qs w (qZ s st)):=by
 obtain⟨iA,hiA,zA0,zA1,zA2⟩:=info_parts (P:=prog) (e:=216) (z:=.agg #[.string ⟨#[]⟩,.string ⟨#[]⟩]) (size:=2) (bytes:=32) (by kernel_rfl);have ZH:Hid (prog.info? 216=some iA/\iA.zero=some (.agg #[.string ⟨#[]⟩,.string ⟨#[]⟩])/\iA.size=2/\iA.bytes=32):=⟨hiA,zA0,zA1,zA2⟩;have H:=aj h;have HP:=aj hp
 have hbad:st.bad=false:=by cases e:st.bad with
  | false=>rfl
  | true=>rw[e]at h0;cases h0
 have YO:=aj hbad;have HP1:Hid (st.p+5<=s.size):=AR h0;clear h hp hiA zA0 zA1 zA2 hbad;go_enter func324,ntmps324;go_wp2_with fail;refine(mU R s fU st.p st.bad v w H.out.rd hs HP.out (by decide)).mono ?_;rintro e w1 ⟨rfl,hr1,hg1⟩;have Ya:=aj (H.out.is_yes hR h0 hr1 hg1);have Xf:=aj (Onl.of_grown hg1);rw[h0];clear hr1 hg1 h0;obtain⟨W2,hW2⟩:=eQx (w1.alloc (.cells #[.int .i64 1,.slice none 0 0,.string ⟨#[]⟩,.string ⟨#[]⟩,.slice none 0 0] 43));have HL2:Hid (PL w1 W2 R w1.heap.size s [] (st.p+5) false v (.slice none 0 0)):=by
  rw[hW2];have hrd:RdC w1 R s (st.p+5) false v:=by have:=Ya.out.rd;rw[show(kM fU st).bad=false from YO.out]at this;exact this
  refine⟨hrd.below ((Vv _ _).alloc (Vu _) _),Onl.of_below ((Vv _ _).alloc (Vu _) _),by simp,by simp,by simp,by simp,by simp,fun j=>by simp,by simp,World.ownsRow_nil _ _ _ _⟩
 have HX0:Hid (w.heap.size<=w1.heap.size):=Xf.out.size;have YR:Hid (R<w1.heap.size):=Ya.out.rd.lt;have Ym:Hid (w1.heap.size<=w1.heap.size):=Vu _;go_wp2_with fail;rw[<-hW2];clear hW2;obtain⟨X,hX⟩:=eQx w1.heap.size;replace HL2:Hid (PL w1 W2 R X s [] (st.p+5) false v (.slice none 0 0)):=by rw[hX];exact HL2
 replace HX0:Hid (w.heap.size<=X):=by rw[hX];exact HX0
 replace YR:Hid (R<X):=by rw[hX];exact YR
 replace Ym:Hid (w1.heap.size<=X):=by rw[hX];exact Ym
 rw[<-hX];clear hX;go_loopw[14] (fun _ wr=>∃(n p:Nat) (bad:Bool) (xs:Q0a) (vA:Value),Hid (p<=s.size)/\Hid (dH s n xs ⟨p,bad,st.out⟩=dH s (s.size+1) [] (kM fU st))/\Hid (bad=false->s.size-p<n/\xs.length+5<=p)/\Hid (PL w1 wr R X s xs p bad v vA)) (fun _ wr=>s.size-wat R wr+wbad R wr);case atStart=>exact⟨s.size+1,st.p+5,false,[],.slice none 0 0,HP1.out,by show _=_;unfold kM;rw[YO.out];rfl,fun _=>⟨by omega,by simp⟩,HL2.out⟩
 obtain⟨n,p,bad,xs,vA,HPL,HPP,HLN,HL⟩:=hrel;clear HL2;have r2:=HL.out.rd.c2;have rl:=HL.out.rd.lt;cases bad;case true=>
  have EQ:=aj (JW (HPP.out.symm.trans (JX s n xs p st.out)));have HF:=aj (Ya.out.over hR HL.out.onl HL.out.rd);have HO:=aj (Xf.out.trans0 HL.out.onl);go_wp2;exact bodyPost_ret (v:=.int .i64 0) (by simp[results,Tryz.results324,go_sem]) rfl (by rw[EQ.out];exact⟨v,[],rfl,by rw[Wt];exact HF.out,HO.out.any v,fun q hq=>by cases hq⟩)
 obtain⟨m,hm⟩:∃m,n=m+1:=⟨n-1,by have:=(HLN.out rfl).1;omega⟩;subst hm;have HPW:=aj (kN s p HPL.out);have HLN1:=aj (HLN.out rfl).1;have HLN2:=aj (HLN.out rfl).2;clear HLN;go_wp2_with fail;refine(vS R s p false v wr HL.out.rd hs HPL.out).mono ?_;rintro e w4 ⟨rfl,hr4,hg4⟩;have HL4:=aj (HL.out.moved YR.out hg4 hr4);have HPLC:=aj HL.out.rd.place;have HPLB:=aj HL.out.rd.wbad1;clear hr4 hg4 HL r2 rl;obtain⟨W5,YG⟩:∃W5,W5=w4.alloc (.cells #[.string (aA s p),.string ⟨#[]⟩] 216):=⟨_,rfl⟩;have HL5:Hid (PL w1 W5 R X s xs (p+ax s p) false v vA):=by rw[YG];exact HL4.out.made _
 have HA0:Hid (W5.cell? ⟨w4.heap.size,0,none⟩=some (.string (aA s p))):=by show _=_;rw[YG];simp
 have HA1:Hid (W5.cell? ⟨w4.heap.size,1,none⟩=some (.string ⟨#[]⟩)):=by show _=_;rw[YG];simp
 have HAF:Hid (j6 W5 w4.heap.size):=fun j=>by rw[YG];simp
 have Xd:Hid (w4.heap.size<W5.heap.size):=by show _<_;rw[YG];simp
 have HAX:Hid (X<w4.heap.size):=HL4.out.lt;have HAV:Hid (vA.ownBlock≠some w4.heap.size):=fun e=>by have:=(HL4.out.own.lt _ e).2;omega
 go_wp2_with fail;rw[<-YG];clear YG;obtain⟨A,hA⟩:=eQx w4.heap.size;rw[<-hA]at HA0 HA1 HAF Xd HAX HAV;rw[<-hA];clear hA HL4;refine(mU R s vP (p+ax s p) false v W5 HL5.out.rd hs HPW.out (by decide)).mono ?_;rintro e w6 ⟨rfl,XA,Y3⟩;have HAR:Hid (some A≠some R):=by intro e;injection e with e;have:=YR.out;have:=HAX.out;omega
 have HB0:=aj (Y3.cell HA0.out HAR.out);have HB1:=aj (Y3.cell HA1.out HAR.out);have HBF:=aj (bR HAF.out (Y3.block A Xd.out HAR.out));have HBL:=aj (Vt Xd.out Y3.size);cases hc:nM s vP (p+ax s p) false
 case' false =>
  rw[AP hc]at XA;have HL6:=aj (HL5.out.moved YR.out Y3 XA);have PI:=aj (Nc (o:=st.out) hc);have HPB:=HPW;have HPG:Hid (p<=p+ax s p):=Nat.le_add_right _ _;clear XA Y3 hc HL5 HA0 HA1 HAF Xd;have a0:=HB0.out;have a1:=HB1.out;have k1:=HL6.out.c1;obtain⟨W9,YF⟩:=eQx (w6.alloc (.cells #[.string (aA s p),.string ((⟨#[]⟩:ByteArray))] 216));have Zv:Hid (PL w1 W9 R X s xs (p+ax s p) false v vA):=by rw[YF];exact HL6.out.made _
  have XM:Hid (∀j u,[Value.string (aA s p),.string ((⟨#[]⟩:ByteArray))][j]?=some u->W9.cell? ((⟨w6.heap.size,0,none⟩:Addr).add j)=some u):=by rw[YF];exact AU w6 _ _ _ (rfl)
  have HSZ9:Hid (X+1<=W9.heap.size):=Zv.out.lt;have hxs:xs.length<=1000:=by have:=HLN2.out;have:=HPL.out;omega
  go_wp2_with(at_builtin;rw[<-YF];clear YF;refine wpList_append_own _ rfl _ _ 40 rfl (X+1) 216 iA (.agg #[.string ⟨#[]⟩,.string ⟨#[]⟩]) 2 32 underlying40 ZH.out.1 ZH.out.2.1 ZH.out.2.2.1 ZH.out.2.2.2 rfl (by decide) vA xs.length (pairs xs) rfl Zv.out.own ⟨w6.heap.size,0,none⟩ 1 1 [Value.string (aA s p),.string ((⟨#[]⟩:ByteArray))] rfl rfl XM.out (by intro u hu;simp at hu;rcases hu with rfl|rfl<;>rfl) (by unfold maxLen;omega) (by omega) HSZ9.out ?_);intro vB w10 Yc XW _;obtain⟨gB,cB,rfl⟩:=fT Yc;have hX10:some X≠vA.ownBlock:=fun e=>by have:=(Zv.out.own.lt X e.symm).1;omega
  have k10:=XW.cell Zv.out.c1 hX10;have f10:=bR Zv.out.fr (XW.block X Zv.out.lt hX10) 1;have l10:=Vt Zv.out.lt XW.size;have YS:=aj (Zv.out.app YR.out Ym.out ⟨aA s p,(⟨#[]⟩:ByteArray)⟩ Yc XW);clear Yc XW a0 a1 k1 Zv hX10 XM HSZ9 HL6;obtain⟨P,hP⟩:=eQx (p+ax s p);obtain⟨S2,hS2⟩:∃S2:ByteArray,S2=⟨#[]⟩:=⟨_,rfl⟩;rw[<-hP]at YS PI HPB HPG;rw[<-hS2]at YS PI;clear hP hS2
 case' true =>
  rw[vR hc]at XA;have HL6:=aj (HL5.out.moved YR.out Y3 XA);have PI:=aj (JY (o:=st.out) hc);have HPH:Hid (p+ax s p+1<=s.size):=AR hc;have HPB:=aj (kN s _ HPH.out);have HPG:Hid (p<=p+ax s p+1+ax s (p+ax s p+1)):=by show _<=_;omega
  clear XA Y3 hc HL5 HA0 HA1 HAF Xd;go_wp2_with fail;refine(vS R s (p+ax s p+1) false v w6 HL6.out.rd hs HPH.out).mono ?_;rintro e w7 ⟨rfl,hr7,Zk⟩;have HL7:=aj (HL6.out.moved YR.out Zk hr7);have X9:=aj (Zk.cell HB0.out HAR.out);have a1:=Zk.cell HB1.out HAR.out;have hcf:=bR HBF.out (Zk.block A HBL.out HAR.out);have f1:=hcf 1;have hcl:=Vt HBL.out Zk.size;obtain⟨W8,ZJ⟩:=eQx (w7.setCell ⟨A,1,none⟩ (.string (aA s (p+ax s p+1))));have HL8:Hid (PL w1 W8 R X s xs (p+ax s p+1+ax s (p+ax s p+1)) false v vA):=by rw[ZJ];exact HL7.out.aset YR.out Ym.out HAX.out HAV.out _ _
  have HD0:Hid (W8.cell? ⟨A,0,none⟩=some (.string (aA s p))):=by show _=_;rw[ZJ,mO (by omega)];exact X9.out
  have HD1:Hid (W8.cell? ⟨A,1,none⟩=some (.string (aA s (p+ax s p+1)))):=by show _=_;rw[ZJ];exact mS a1
  clear hr7 Zk HL6 HB0 HB1 HBF HBL;have a0:=X9.out;have k1:=HL7.out.c1;have hxa:X≠A:=by have:=HAX.out;omega
  have hax:A≠X:=by have:=HAX.out;omega
  obtain⟨W9,YF⟩:=eQx (W8.alloc (.cells #[.string (aA s p),.string (aA s (p+ax s p+1))] 216));have Zv:Hid (PL w1 W9 R X s xs (p+ax s p+1+ax s (p+ax s p+1)) false v vA):=by rw[YF];exact HL8.out.made _
  have XM:Hid (∀j u,[Value.string (aA s p),.string (aA s (p+ax s p+1))][j]?=some u->W9.cell? ((⟨w7.heap.size,0,none⟩:Addr).add j)=some u):=by rw[YF];exact AU W8 _ _ _ (by rw[ZJ];simp)
  have HSZ9:Hid (X+1<=W9.heap.size):=Zv.out.lt;have hxs:xs.length<=1000:=by have:=HLN2.out;have:=HPL.out;omega
  go_wp2_with(at_builtin;rw[<-ZJ];clear ZJ;rw[<-YF];clear YF;refine wpList_append_own _ rfl _ _ 40 rfl (X+1) 216 iA (.agg #[.string ⟨#[]⟩,.string ⟨#[]⟩]) 2 32 underlying40 ZH.out.1 ZH.out.2.1 ZH.out.2.2.1 ZH.out.2.2.2 rfl (by decide) vA xs.length (pairs xs) rfl Zv.out.own ⟨w7.heap.size,0,none⟩ 1 1 [Value.string (aA s p),.string (aA s (p+ax s p+1))] rfl rfl XM.out (by intro u hu;simp at hu;rcases hu with rfl|rfl<;>rfl) (by unfold maxLen;omega) (by omega) HSZ9.out ?_);intro vB w10 Yc XW _;obtain⟨gB,cB,rfl⟩:=fT Yc;have hX10:some X≠vA.ownBlock:=fun e=>by have:=(Zv.out.own.lt X e.symm).1;omega
  have k10:=XW.cell Zv.out.c1 hX10;have f10:=bR Zv.out.fr (XW.block X Zv.out.lt hX10) 1;have l10:=Vt Zv.out.lt XW.size;have YS:=aj (Zv.out.app YR.out Ym.out ⟨aA s p,aA s (p+ax s p+1)⟩ Yc XW);clear Yc XW a0 a1 k1 Zv hX10 XM HSZ9 HL8 hxa hax f1 hcl hcf;obtain⟨P,hP⟩:=eQx (p+ax s p+1+ax s (p+ax s p+1));obtain⟨S2,hS2⟩:∃S2:ByteArray,S2=aA s (p+ax s p+1):=⟨_,rfl⟩;rw[<-hP]at YS PI HPB HPG;rw[<-hS2]at YS PI;clear hP hS2
 all_goals
  go_wp2_with fail;obtain⟨W11,hW11⟩:=eQx (w10.setCell ⟨X,1,none⟩ (.slice (some ⟨gB,0,none⟩) (xs.length+1) cB));rw[<-hW11]at YS ⊢;clear hW11 k10 f10 l10;refine(mU R s fH P false v W11 YS.out.rd hs HPB.out (by decide)).mono ?_;rintro e w12 ⟨rfl,Zp,Zw⟩;cases hcl:nM s fH P false;case true=>
   rw[vR hcl]at Zp;have X8:=aj (YS.out.moved YR.out Zw Zp);have EQ:=aj (JV (HPP.out.symm.trans (G8 (xs:=xs) (n:=m) PI.out hcl)));obtain⟨ad,cap,hva,hnq,hin⟩:=X8.out.node Ym.out (base:=base) (Vz hB Xf.out.size);injection hva with hva1 hva2 hva3;subst hva1;subst hva3;clear hva2;have HNQ:=aj hnq;have HIN:=aj hin;have k0:=X8.out.c0;have k1:=X8.out.c1;have k2:=X8.out.c2;have k3:=X8.out.c3;have k4:=X8.out.c4;have HF:=aj (Ya.out.over hR X8.out.onl X8.out.rd);have HO:=aj (Xf.out.trans0 X8.out.onl);clear Zp Zw hcl hnq hin YS X8;go_wp2_with fail;have HADD:=M7 R s ⟨P+1,false,st.out⟩ base v qs ⟨⟨1,xs++[⟨aA s p,S2⟩],⟨#[]⟩,⟨#[]⟩,[]⟩,some ⟨gB,0,none⟩,cB,none,0⟩ w12 HF.out hR (Vz hB HO.out.size) hn HNQ.out (.inl ⟨rfl,rfl,rfl⟩) (fun g hg=>⟨fun e=>by have:=(Ya.out.own.lt g e).2;have:=HIN.out g hg;have:=Ym.out;omega,fun q' hq' hg'=>by have:=(Ya.out.lie q' hq' g hg').2.1;have:=HIN.out g hg;have:=Ym.out;omega⟩);rw[show(⟨⟨1,xs++[⟨aA s p,S2⟩],⟨#[]⟩,⟨#[]⟩,[]⟩,some ⟨gB,0,none⟩,cB,none,0⟩:ER).val=.agg #[.int .i64 1,.slice (some ⟨gB,0,none⟩) (xs.length+1) cB,.string ⟨#[]⟩,.string ⟨#[]⟩,.slice none 0 0] by simp[ER.val]]at HADD;refine HADD.mono ?_;rintro e w13 ⟨v13,rfl,hF13,hW13⟩;have HF13:=aj hF13;have HW13:=aj ((HO.out.any v).trans hW13);clear hF13 hW13;go_wp2;exact bodyPost_ret (v:=.int .i64 (st.out.length:Int)) (by simp[results,Tryz.results324,go_sem]) rfl (by rw[EQ.out];exact⟨v13,_,rfl,HF13.out,HW13.out,fun q hq g hg=>by rw[VO]at hq;subst hq;have:=HIN.out g hg;have:=HX0.out;omega⟩)
  rw[AP hcl]at Zp;have X8:=aj (YS.out.moved YR.out Zw Zp);have HCL:=aj hcl;clear Zp Zw hcl YS;go_wp2_with fail;refine(mU R s mR P false v w12 X8.out.rd hs HPB.out (by decide)).mono ?_;rintro e w13 ⟨rfl,hr13,Z7⟩;cases hcm:nM s mR P false;case true=>
   rw[vR hcm]at hr13;have Y9:=aj (X8.out.moved YR.out Z7 hr13);have HQ13:Hid (P+1<=s.size):=AR hcm;have EQ:=aj ((G9 (xs:=xs) (n:=m) PI.out HCL.out hcm).symm.trans HPP.out);have HM:Hid (s.size-wat R w13+wbad R w13<s.size-wat R wr+wbad R wr):=by
    show _<_;rw[Y9.out.rd.wbad1,HPLB.out,show wat R w13=P+1 from Y9.out.rd.place,HPLC.out];have:=HQ13.out;have:=HPG.out;omega
   clear hr13 Z7 hcm X8;go_wp2;go_roundw;case rel=>exact⟨m,P+1,false,xs++[(⟨aA s p,S2⟩:Al)],.slice (some ⟨gB,0,none⟩) (xs.length+1) cB,HQ13.out,EQ.out,fun _=>⟨by have:=HLN1.out;have:=HPG.out;have:=HQ13.out;omega,by have:=HLN2.out;have:=HPG.out;rw[VD,VT];omega⟩,Y9.out⟩
   exact HM.out
  rw[AP hcm]at hr13;have Y9:=aj (X8.out.moved YR.out Z7 hr13);have EQ:=aj ((Nf (xs:=xs) (n:=m) PI.out HCL.out hcm).symm.trans HPP.out);have c2:=Y9.out.rd.c2;have f2:=Y9.out.rd.fr 2;have hl13:=Y9.out.rd.lt;have HL14:Hid (PL w1 (w13.setCell ⟨R,2,none⟩ (.bool true)) R X s (xs++[⟨aA s p,S2⟩]) P true v (.slice (some ⟨gB,0,none⟩) (xs.length+1) cB)):=Y9.out.moved YR.out (by have:=G7 w13 R 2 (.bool true) 0;exact this) Y9.out.rd.hurt;have HM:Hid (s.size-wat R (w13.setCell ⟨R,2,none⟩ (.bool true))+wbad R (w13.setCell ⟨R,2,none⟩ (.bool true))<s.size-wat R wr+wbad R wr):=by
   show _<_;rw[HL14.out.rd.wbad0,HPLB.out,show wat R (w13.setCell ⟨R,2,none⟩ (.bool true))=P from HL14.out.rd.place,HPLC.out];have:=HPG.out;omega
  clear hr13 Z7 hcm X8 Y9;go_wp2;go_roundw;case rel=>exact⟨m,P,true,xs++[(⟨aA s p,S2⟩:Al)],.slice (some ⟨gB,0,none⟩) (xs.length+1) cB,HPB.out,EQ.out,fun h=>(by cases h),HL14.out⟩
  exact HM.out
theorem p8(rs:Q08)(n:Nat)(h:n<rs.length):dD (ai rs) n=rs[n].e.kids:=by simp[dD,ai,h]
theorem JZ(b off cap:Nat)(rs:Q08)(hlen:rs.length<=1048576)(hl:∀r∈rs,r.e.light)(n:Nat):∀(w:af),n<rs.length->b<w.heap.size->(∀(i:Nat) (h:i<rs.length),ve w b (off+i*5) rs[i])->(∀r∈rs,r.ok w) ->
  Calls prog 246 #[.slice (some ⟨b,off,none⟩) rs.length cap,.int .i64 (n:Int)] w fun e w'=>e=.returned (.int .i64 (aB (ai rs) n))/\ag w w':=by
 induction n using Nat.strongRecOn with
 | ind n ih =>
  intro w hn hb hr hok
  have IH:Hid (∀ m,m<n->∀ (w:World),m<rs.length->b<w.heap.size->(∀ (i:Nat) (h:i<rs.length),ve w b (off+i*5) rs[i])->(∀ r∈rs,r.ok w) ->
   Calls prog 246 #[.slice (some ⟨b,off,none⟩) rs.length cap,.int .i64 (m:Int)] w fun e w'=>e=.returned (.int .i64 (aB (ai rs) m))/\ag w w'):=ih
  have HR:Hid (∀(i:Nat) (h:i<rs.length),ve w b (off+i*5) rs[i]):=hr;have HO:=az hok;obtain⟨t0,t1,t2,t3,t4⟩:=hr n hn;obtain⟨l1,l2⟩:=hl rs[n] (Vs hn);have hn1:=bI n;have hn2:(n:Int)<(rs.length:Int):=by omega
  have HT:Hid (aB (ai rs) n=dh (dA (ai rs) n) rs[n].e.kids.reverse ((n:Int)-1)):=by show _=_;rw[jA,p8 rs n hn]
  have HL:=az hl;clear ih hr hok hl l1;go_enter func246,ntmps246;go_wp2_with fail;go_loopw[5,6] (fun a i wr=>∃(j:Nat) (x:Int),j<=rs[n].e.kids.length/\i=.int .i64 ((j:Int)-1)/\a=.int .i64 x∧-1<=x/\x<n/\Hid (dh (dA (ai rs) n) (rs[n].e.kids.take j).reverse x=aB (ai rs) n)/\ag w wr) (fun _ i _=>(intOf i+1).toNat);case atStart=>exact⟨rs[n].e.kids.length,(n:Int)-1,Vu _,rfl,rfl,by omega,by omega,(by show _=_;rw[VI];exact HT.out.symm),Vv _ _⟩
  obtain⟨j,x,hj,rfl,rfl,hx0,hx1,HG,hB⟩:=hrel;have s4:=kept hB hb t4;by_cases hj0:0<j
  ·obtain⟨j,rfl⟩:∃i,j=i+1:=⟨j-1,by omega⟩;have hjl:j<rs[n].e.kids.length:=by omega
   rcases (HO.out rs[n] (Vs hn)).2.below hB with hnil|⟨bk,offk,Z8,hbk,Zx⟩
   ·rw[hnil]at hjl;simp at hjl
   rw[Z8]at s4;have k0:=Zx j hjl;clear Zx;have hji:((j+1:Nat):Int)-1=(j:Int):=by omega
   have hj1:=bI j;have hj2:(j:Int)<(rs[n].e.kids.length:Int):=by omega
   have HG2:Hid ((if x<0\/rs[n].e.kids[j]≠x then -1 else if dA (ai rs) n x<0 then -1 else dh (dA (ai rs) n) (rs[n].e.kids.take j).reverse (dA (ai rs) n x-1))=aB (ai rs) n):=by
    have:=HG.out;rw[Vx hjl,List.reverse_append]at this;exact this
   rw[hji];clear HG Z8 t0 t1 t2 t3 t4;by_cases hxn:x<0
   ·have HT1:Hid (aB (ai rs) n=-1):=by show _=_;rw[<-HG2.out,if_pos (Or.inl hxn)]
    go_wp2;go_ret;exact⟨by rw[HT1.out];rfl,hB⟩
   by_cases hkx:rs[n].e.kids[j]=x
   ·obtain⟨m,rfl⟩:∃m:Nat,x=(m:Int):=⟨x.toNat,by omega⟩;have hF:dA (ai rs) n (m:Int)=aB (ai rs) m:=by unfold dA;rw[if_pos ⟨by omega,by simp;omega⟩];simp
    have HF:Hid (dA (ai rs) n (m:Int)=aB (ai rs) m):=hF;have hle:=iP (ai rs) m;clear hF;go_wp2_with fail;refine(IH.out m (by omega) _ (by omega) (Vt hb hB.size) (fun i hi=>(HR.out i hi).same fun o=>hB.cell (p:=⟨b,o,none⟩) hb) (fun r hr=>(HO.out r hr).below hB)).mono ?_;rintro e w1 ⟨rfl,hb1⟩;have hB1:ag w w1:=hB.trans (hb1.mono hB.size);clear hb1;by_cases hneg:aB (ai rs) m<0
    ·have HT1:Hid (aB (ai rs) n=-1):=by show _=_;rw[<-HG2.out,if_neg (by omega),HF.out,if_pos hneg]
     go_wp2;go_ret;exact⟨by rw[HT1.out];rfl,hB1⟩
    have Zt:Hid (dh (dA (ai rs) n) (rs[n].e.kids.take j).reverse (aB (ai rs) m-1)=aB (ai rs) n):=by
     show _=_;rw[<-HG2.out,if_neg (by omega),HF.out,if_neg hneg]
    go_wp2;go_roundw;case rel=>exact⟨j,aB (ai rs) m-1,by omega,by go_num,rfl,by omega,by omega,Zt,hB1⟩
    simp[intOf]<;>omega
   have HT1:Hid (aB (ai rs) n=-1):=by show _=_;rw[<-HG2.out,if_pos (Or.inr hkx)]
   go_wp2;go_ret;exact⟨by rw[HT1.out];rfl,hB⟩
  obtain rfl:j=0:=by omega
  have HT1:Hid (aB (ai rs) n=x+1):=by show _=_;have:=HG.out;simp[dh]at this;exact this.symm
  clear HG t0 t1 t2 t3 t4;go_wp2;go_ret;exact⟨by rw[HT1.out];rfl,hB⟩
theorem ve.later{w w':af}{b off:Nat}{r:ER}(h:ve w b off r)(hb:b<w.heap.size)(hB:ag w w'):ve w' b off r:=h.same fun o=>hB.cell (p:=⟨b,o,none⟩) hb
theorem DC{es:Q09}(h:¬(1<=es.length/\es.length<=15)):aI es=false:=by
 unfold aI;by_cases h1:1<=es.length
 ·have h2:¬es.length<=15:=fun h2=>h ⟨h1,h2⟩;simp[h2]
 simp[h1]
theorem J3{es:Q09}(k:Nat)(h:k<es.length)(hb:av es[k]=false):aI es=false:=by simp[aI,Df es k h hb]
theorem J4{es:Q09}(k:Nat)(h:k<es.length)(hb:lc es k=false):aI es=false:=by simp[aI,Pk es k h hb]
def p9(zs:List Int)(i j:Nat):Bool:=(zs.take j).all fun k=>decide (0<=k)&&decide (k<=(i:Int)-1)
theorem Fb(zs:List Int)(i j:Nat)(h:j<zs.length):p9 zs i (j+1)=(p9 zs i j&&(decide (0<=zs[j])&&decide (zs[j]<=(i:Int)-1))):=by
 unfold p9;rw[Vx h,WH];simp
theorem Ha(zs:List Int)(i j:Nat)(h:j<zs.length)(hb:(decide (0<=zs[j])&&decide (zs[j]<=(i:Int)-1))=false):(zs.all fun k=>decide (0<=k)&&decide (k<=(i:Int)-1))=false:=by
 rw[Bool.eq_false_iff];intro h2;rw[VF]at h2;have:=h2 zs[j] (Vs h);rw[hb]at this;cases this
set_option maxRecDepth 4000 in
theorem AV(b off cap:Nat)(rs:Q08)(w:af)(hlen:rs.length<=1048576)(hl:∀r∈rs,r.e.light)(hf:∀r∈rs,r.e.fits)(hb:b<w.heap.size)(hr:∀(i:Nat) (h:i<rs.length),ve w b (off+i*5) rs[i])(hok:∀r∈rs,r.ok w):
  Calls prog 174 #[.slice (some ⟨b,off,none⟩) rs.length cap] w fun e w'=>e=.returned (.bool (aI (ai rs)))/\ag w w':=by
 have hel:=ay rs;have Yt:Hid ((ai rs).length=rs.length):=hel;have HL:=az hl;have HF:=az hf;have HR:Hid (∀(i:Nat) (h:i<rs.length),ve w b (off+i*5) rs[i]):=hr;have HO:=az hok;clear hel hl hf hr hok;by_cases hn:1<=rs.length/\rs.length<=15
 ·obtain⟨hn1,hn2⟩:=hn;go_enter func174,ntmps174;go_wp2_with fail;go_loopw[3,4] (fun o i wr=>∃k:Nat,k<=rs.length/\i=.int .i64 k/\o=.int .i64 (gX (ai rs) k:Nat)/\Hid (jO (ai rs) k=true/\jq (ai rs) k=true)/\ag w wr) (fun _ i _=>rs.length-(intOf i).toNat);case atStart=>exact⟨0,Vy _,rfl,rfl,⟨by simp[jO],by simp[jq]⟩,Vv _ _⟩
  obtain⟨k,hk,rfl,rfl,HU,hB⟩:=hrel;by_cases hlt:k<rs.length
  ·have XO:k<(ai rs).length:=by rw[Yt.out];exact hlt
   have hek:(ai rs)[k]=rs[k].e:=by simp[ai]
   have HEK:Hid ((ai rs)[k]=rs[k].e):=hek;obtain⟨t0,t1,t2,t3,t4⟩:=(HR.out k hlt).later hb hB;clear hek;have hk1:=bI k;have hk2:(k:Int)<(rs.length:Int):=by omega
   have hol:=vv (ai rs) k;go_wp2_with fail;refine(EH rs[k] _ (HF.out _ (Vs hlt)) ((HO.out _ (Vs hlt)).below hB)).mono ?_;rintro e w1 ⟨rfl,hb1⟩;cases WN:av rs[k].e;case false=>
    have HN:Hid (aI (ai rs)=false):=J3 k XO (by rw[HEK.out];exact WN);go_wp2;go_ret;exact⟨by rw[HN.out];rfl,hB.trans (hb1.mono hB.size)⟩
   have hB1:ag w w1:=hB.trans (hb1.mono hB.size);have hbw:b<wr.heap.size:=Vt hb hB.size;replace t0:=kept hb1 hbw t0;replace t4:=kept hb1 hbw t4;have hbw1:b<w1.heap.size:=Vt hbw hb1.size;clear t1 t2 t3 hb1 hB hbw;go_wp2_with fail;go_loopw[5] (fun i w2=>∃j:Nat,j<=rs[k].e.kids.length/\i=.int .i64 j/\Hid (p9 rs[k].e.kids k j=true)/\w2=w1) (fun i _=>rs[k].e.kids.length-(intOf i).toNat);case atStart=>exact⟨0,Vy _,rfl,(by show _=_;simp[p9]),rfl⟩
   obtain⟨j,hj,rfl,HP,rfl⟩:=hrel;by_cases hjl:j<rs[k].e.kids.length
   ·rcases (HO.out rs[k] (Vs hlt)).2.below hB1 with hnil|⟨bk,offk,Z8,hbk,Zx⟩
    ·rw[hnil]at hjl;simp at hjl
    have t4':=t4;rw[Z8]at t4';have k0:=Zx j hjl;have hj1:=bI j;have hj2:(j:Int)<(rs[k].e.kids.length:Int):=by omega
    obtain⟨-,lk⟩:=HL.out rs[k] (Vs hlt);clear Zx Z8 t4;go_wp2_with fail;refine(Pm _ _ _ _).mono ?_;rintro e w' ⟨rfl,rfl⟩;cases hin:(decide (0<=rs[k].e.kids[j])&&decide (rs[k].e.kids[j]<=(k:Int)-1));case false=>
     have HN:Hid (aI (ai rs)=false):=J4 k XO (by unfold lc;rw[p8 rs k hlt];exact Ha _ k j hjl hin);go_wp2;go_ret;exact⟨by rw[HN.out];rfl,hB1⟩
    have WQ:Hid (p9 rs[k].e.kids k (j+1)=true):=by show _=_;rw[Fb _ _ _ hjl,HP.out,hin];rfl
    go_wp2;go_roundw;case rel=>exact⟨j+1,by omega,by go_num,WQ,by first|rfl|trivial⟩
    simp[intOf]<;>omega
   obtain rfl:j=rs[k].e.kids.length:=by omega
   have HU2:Hid (jO (ai rs) (k+1)=true/\jq (ai rs) (k+1)=true):=by
    refine⟨?_,?_⟩
    ·rw[vw _ _ XO,HU.out.1,HEK.out,WN];rfl
    rw[Gl,HU.out.2];unfold lc;rw[p8 rs k hlt];have:=HP.out;unfold p9 at this;rw[VI]at this;rw[this];rfl
   have HOW:Hid (gX (ai rs) (k+1)=gX (ai rs) k+(if rs[k].e.kind=1 then 1 else 0)):=by show _=_;rw[zV _ _ XO,HEK.out]
   by_cases hk1':rs[k].e.kind=1
   ·have HOW2:Hid (gX (ai rs) (k+1)=gX (ai rs) k+1):=by show _=_;rw[HOW.out,if_pos hk1']
    clear HOW;go_wp2;go_roundw;case rel=>exact⟨k+1,by omega,by go_num,by rw[HOW2.out];go_num,HU2,hB1⟩
    simp[intOf]<;>omega
   have HOW2:Hid (gX (ai rs) (k+1)=gX (ai rs) k):=by show _=_;rw[HOW.out,if_neg hk1'];rfl
   clear HOW;go_wp2;go_roundw;case rel=>exact⟨k+1,by omega,by go_num,by rw[HOW2.out],HU2,hB1⟩
   simp[intOf]<;>omega
  obtain rfl:k=rs.length:=by omega
  have HN:Hid ((ai rs).all av=true):=by
   have:=HU.out.1;unfold jO at this;rwa [<-Yt.out,VI]at this
  have HKU:Hid (jq (ai rs) rs.length=true):=HU.out.2;have HOW:Hid (gX (ai rs) rs.length=own (ai rs)):=by show _=_;unfold gX;rw[<-Yt.out,VI]
  have hol:=vv (ai rs) rs.length;by_cases ho:gX (ai rs) rs.length<=1
  ·have HS:Hid (aI (ai rs)=decide (aB (ai rs) (rs.length-1)=0)):=by
    show _=_;have h1:own (ai rs)<=1:=by rw[<-HOW.out];exact ho
    have e1:=Yt.out;unfold aI;rw[e1,HN.out,HKU.out];simp[h1,hn1,hn2]
   have hcast:((rs.length:Int)-1)=((rs.length-1:Nat):Int):=by omega
   have ZX:Hid (((rs.length:Int)-1)=((rs.length-1:Nat):Int)):=hcast;clear hcast;go_wp2_with fail;rw[ZX.out];refine(JZ b off cap rs hlen HL.out (rs.length-1) _ (by omega) (Vt hb hB.size) (fun i hi=>(HR.out i hi).later hb hB) (fun r hr=>(HO.out r hr).below hB)).mono ?_;rintro e w1 ⟨rfl,hb1⟩;go_wp2;go_ret;exact⟨by rw[HS.out];exact ah (by rw[VR];simp),hB.trans (hb1.mono hB.size)⟩
  have HS:Hid (aI (ai rs)=false):=by
   show _=_;have h1:¬own (ai rs)<=1:=by rw[<-HOW.out];exact ho
   simp[aI,h1]
  go_wp2;go_ret;exact⟨by rw[HS.out];rfl,hB⟩
 have HN:Hid (aI (ai rs)=false):=DC (by rw[Yt.out];exact hn);go_enter func174,ntmps174;go_wp2_with fail
 all_goals go_ret
 all_goals exact⟨by rw[HN.out];rfl,Vv _ _⟩
theorem mV(ad:Q02)(cap:Nat)(rs:Q08)(w:af)(hlen:rs.length<=1048576)(hl:∀r∈rs,r.e.light)(hf:∀r∈rs,r.e.fits)(hs:jo w ad rs):
  Calls prog 174 #[.slice ad rs.length cap] w fun e w'=>e=.returned (.bool (aI (ai rs)))/\ag w w':=by
 rcases hs with rfl|⟨b,off,rfl,hb,hr,hok⟩
 ·go_enter func174,ntmps174;go_wp2_with fail;go_ret;exact⟨rfl,Vv _ _⟩
 exact AV b off cap rs w hlen hl hf hb hr hok
theorem rq{a b:ByteArray}(h:a=b):Ending.returned (.string a)=.returned (.string b):=by rw[h]
theorem su(a:bi):(⟨#[]⟩:ByteArray)++a=a:=by apply iU;simp[ByteArray.data_append]
theorem yI(a:Al)(w:af)(h1:a.t.size<=12)(h2:a.s.size<=12):
  Calls prog 293 #[.agg #[.string a.t,.string a.s]] w fun e w'=>e=.returned (.string (bG a))/\ag w w':=by
 have hB:=(Vv w.heap.size w).alloc (Vu _) (.cells #[.string a.t,.string a.s] 216);cases he:a.s.toList.isEmpty;case true=>
  go_enter func293,ntmps293;go_wp2;go_ret;exact⟨rq (by simp[bG,he]),hB⟩
 go_enter func293,ntmps293;go_wp2;go_ret;exact⟨rq (by simp[bG,he]),hB⟩
theorem mW(k:Int)(w:af):
  Calls prog 294 #[.int .i64 k] w fun e w'=>e=.returned (.string (dY k))/\w'=w:=by
 by_cases h4:k=4
 ·subst h4;go_enter func294,ntmps294;go_wp2;go_ret;exact⟨rfl,rfl⟩
 by_cases h5:k=5
 ·subst h5;go_enter func294,ntmps294;go_wp2;go_ret;exact⟨rfl,rfl⟩
 have HS:Hid (dY k=⟨#[32,45,32]⟩):=by show _=_;simp[dY,h4,h5]
 go_enter func294,ntmps294;go_wp2;go_ret;exact⟨by rw[HS.out];rfl,rfl⟩
theorem Fe{α:Type}{xs:List α}{k:Nat}(h:k<=xs.length):xs.take k=[]↔k=0:=by
 constructor
 ·intro e;have:=congrArg List.length e;rw[V9,WE]at this;omega
 rintro rfl;simp
theorem nN(sep:bi)(xs:List ByteArray):dP sep (xs.take 0)=⟨#[]⟩:=by simp[Dy]
theorem AX(sep:bi)(xs:List ByteArray)(h:0<xs.length):dP sep (xs.take 1)=⟨#[]⟩++xs[0]:=by
 rw[show(1:Nat)=0+1 from rfl,Vx h,pX,if_pos (by simp),su]
theorem yJ(sep:bi)(xs:List ByteArray)(k:Nat)(h:k<xs.length)(hk:0<k):dP sep (xs.take (k+1))=dP sep (xs.take k)++sep++xs[k]:=by
 rw[Vx h,pX,if_neg];rw[Fe (by omega)];omega
theorem yK(sep:bi)(xs:List ByteArray)(b k:Nat)(hx:∀x∈xs,x.size<=b):(dP sep (xs.take k)).size<=k*(b+sep.size):=by
 have h1:=mP sep b _ (xs.take k) rfl (fun x h=>hx x (List.mem_of_mem_take h));have h2:(xs.take k).length*(b+sep.size)<=k*(b+sep.size):=Nat.mul_le_mul_right _ (by simp;omega);omega
theorem sw{es:Q09}(hes:TA es)(n:Nat)(hn:n<es.length)(i:Bool):(gy es n i).size<=20000000000000 :=
 Vz (JQ hes n hn i) (Vz (Dz (by have:=hes.1;omega)) R3)
set_option maxRecDepth 4000 in
theorem J5(b off cap:Nat)(rs:Q08)(hes:TA (ai rs))(hl:∀r∈rs,r.e.light)(n:Nat):∀(inside:Bool) (w:af),n<rs.length->b<w.heap.size->(∀(i:Nat) (h:i<rs.length),ve w b (off+i*5) rs[i])->(∀r∈rs,r.ok w) ->
  Calls prog 255 #[.slice (some ⟨b,off,none⟩) rs.length cap,.int .i64 (n:Int),.bool inside] w fun e w'=>e=.returned (.string (gy (ai rs) n inside))/\ag w w':=by
 have HES:=az hes;have HL:=az hl;have h15:rs.length<=15:=by have:=hes.1;rw[ay]at this;exact this
 clear hes hl
 induction n using Nat.strongRecOn with
 | ind n ih =>
  intro inside w hn hb hr hok
  have IH:Hid (∀ m,m<n->∀ (inside:Bool) (w:World),m<rs.length->b<w.heap.size->(∀ (i:Nat) (h:i<rs.length),ve w b (off+i*5) rs[i])->(∀ r∈rs,r.ok w) ->
   Calls prog 255 #[.slice (some ⟨b,off,none⟩) rs.length cap,.int .i64 (m:Int),.bool inside] w fun e w'=>e=.returned (.string (gy (ai rs) m inside))/\ag w w'):=ih
  have HR:Hid (∀(i:Nat) (h:i<rs.length),ve w b (off+i*5) rs[i]):=hr;have HO:=az hok;obtain⟨t0,t1,t2,t3,t4⟩:=hr n hn;have hnE:n<(ai rs).length:=by rw[ay];exact hn
  have heE:(ai rs)[n]=rs[n].e:=by simp[ai]
  have WN:av rs[n].e=true:=by rw[<-heE];exact HES.out.2.1 n hnE
  have hkl:=sj HES.out hnE;rw[heE]at hkl;obtain⟨hk5,hkind⟩:=kL WN;have HT:Hid (gy (ai rs) n inside=inT rs[n].e inside (ji (iH (ai rs) n) rs[n].e)):=by show _=_;unfold gy;rw[si hnE,heE]
  have HN:Hid (av rs[n].e=true):=WN;have XP:Hid (∀k∈rs[n].e.kids,0<=k/\k.toNat<n):=hkl;have hn1:=bI n;have hn2:(n:Int)<(rs.length:Int):=by omega
  clear ih hr hok WN hkl heE;by_cases k1:rs[n].e.kind=1
  ·skip
   obtain⟨W,hW⟩:=eQx (w.alloc (.cells #[.int .i64 1,.slice rs[n].adA rs[n].e.allow.length rs[n].capA,.string rs[n].e.over,.string rs[n].e.name,.slice rs[n].adK rs[n].e.kids.length rs[n].capK] 43));have hB0:ag w W:=by rw[hW];exact(Vv _ _).alloc (Vu _) _
   have hgl:w.heap.size<W.heap.size:=by rw[hW];simp
   have g0:W.cell? ⟨w.heap.size,0,none⟩=some (.int .i64 1):=by rw[hW];simp
   have g1:W.cell? ⟨w.heap.size,1,none⟩=some (.slice rs[n].adA rs[n].e.allow.length rs[n].capA):=by rw[hW];simp
   have g2:W.cell? ⟨w.heap.size,2,none⟩=some (.string rs[n].e.over):=by rw[hW];simp
   have g3:W.cell? ⟨w.heap.size,3,none⟩=some (.string rs[n].e.name):=by rw[hW];simp
   have g4:W.cell? ⟨w.heap.size,4,none⟩=some (.slice rs[n].adK rs[n].e.kids.length rs[n].capK):=by rw[hW];simp
   have HB0:=az hB0;clear hB0;have hal:dx rs[n].e.allow=true:=by
    have:=HN.out;unfold av at this;rw[if_pos k1]at this;simp only[Vw]at this;exact this.1.1.1
   have hts:=jk hal;have Xd:Hid (dx rs[n].e.allow=true):=hal;have HT1:Hid (gy (ai rs) n inside=mQ rs[n].e.allow):=by show _=_;rw[HT.out];simp[inT,ji,k1]
   have hl6:rs[n].e.allow.length<=6:=by unfold dx at hal;simp at hal;exact hal.1.2
   have HAS:Hid (∀x∈rs[n].e.allow.map bG,x.size<=25):=fun x hx=>by
    obtain⟨a,ha,rfl⟩:=VE.1 hx;obtain⟨i,hi,rfl⟩:=V4 ha;unfold dx at hal;simp only[Vw]at hal;exact nJ (vO hal.2 i hi hi)
   clear hal HT;go_enter func255,ntmps255;go_wp2_with fail;rw[<-hW];clear hW t0 t1 t2 t3 t4;go_loopw[8,9] (fun s i wr=>∃k:Nat,k<=rs[n].e.allow.length/\i=.int .i64 k/\s=.string (dP ⟨#[44]⟩ ((rs[n].e.allow.map bG).take k))/\ag W wr) (fun _ i _=>rs[n].e.allow.length-(intOf i).toNat);case atStart=>exact⟨0,Vy _,rfl,by rw[nN],Vv _ _⟩
   obtain⟨k,hk,rfl,rfl,hB⟩:=hrel;have hBw:ag w wr:=HB0.out.trans (hB.mono HB0.out.size);have a1:=kept hB hgl g1;have hsj:(dP ⟨#[44]⟩ ((rs[n].e.allow.map bG).take k)).size<=200:=by
    have h:=yK ⟨#[44]⟩ (rs[n].e.allow.map bG) 25 k HAS.out;have e1:(⟨#[44]⟩:ByteArray).size=1:=rfl;rw[e1]at h;omega
   by_cases hlt:k<rs[n].e.allow.length
   ·rcases (HO.out rs[n] (Vs hn)).1.below hBw with hnil|⟨ba,YI,YJ,hba,hra⟩
    ·rw[hnil]at hlt;simp at hlt
    rw[YJ]at a1;obtain⟨q0,q1⟩:=hra k hlt;have hab:EE rs[n].e.allow[k]=true:=by
     have:=Xd.out;unfold dx at this;simp only[Vw]at this;exact vO this.2 k hlt hlt
    have z2:=nJ hab;unfold EE at hab;rw[Vw]at hab;have z0:=aS hab.1;have z1:=uH hab.2;have hk1:=bI k;have hk2:(k:Int)<(rs[n].e.allow.length:Int):=by omega
    clear hra YJ hab;by_cases hk0:0<k
    ·have hk3:(0:Int)<(k:Int):=by omega
     have HJ:Hid (dP ⟨#[44]⟩ ((rs[n].e.allow.map bG).take (k+1))=dP ⟨#[44]⟩ ((rs[n].e.allow.map bG).take k)++⟨#[44]⟩++bG rs[n].e.allow[k]):=by show _=_;rw[yJ _ _ _ (by simpa using hlt) hk0,List.getElem_map]
     go_wp2_with fail;refine(yI rs[n].e.allow[k] _ z0 z1).mono ?_;rintro e w1 ⟨rfl,hb1⟩;have hB1:ag W w1:=hB.trans (hb1.mono hB.size);clear hb1;go_wp2;go_roundw;case rel=>exact⟨k+1,by omega,by go_num,by rw[HJ.out],hB1⟩
     simp[intOf]<;>omega
    skip
    have hk3:¬(0:Int)<(k:Int):=by omega
    have HJ:Hid (dP ⟨#[44]⟩ ((rs[n].e.allow.map bG).take (k+1))=dP ⟨#[44]⟩ ((rs[n].e.allow.map bG).take k)++bG rs[n].e.allow[k]):=by
     show _=_;obtain rfl:k=0:=by omega
     rw[nN,AX _ _ (by simpa using hlt),List.getElem_map]
    go_wp2_with fail;refine(yI rs[n].e.allow[k] _ z0 z1).mono ?_;rintro e w1 ⟨rfl,hb1⟩;have hB1:ag W w1:=hB.trans (hb1.mono hB.size);clear hb1;go_wp2;go_roundw;case rel=>exact⟨k+1,by omega,by go_num,by rw[HJ.out],hB1⟩
    simp[intOf]<;>omega
   obtain rfl:k=rs[n].e.allow.length:=by omega
   have HE:Hid ((rs[n].e.allow.map bG).take rs[n].e.allow.length=rs[n].e.allow.map bG):=by show _=_;rw[VZ (by simp)]
   go_wp2;go_ret;exact⟨by rw[HT1.out];exact rq (by rw[HE.out];rfl),hBw⟩
  by_cases k2:rs[n].e.kind=2
  ·have HT1:Hid (gy (ai rs) n inside=rs[n].e.name):=by show _=_;rw[HT.out];simp[inT,ji,k2]
   clear HT;go_enter func255,ntmps255;go_wp2;go_ret;exact⟨by rw[HT1.out];rfl,(Vv _ _).alloc (Vu _) _⟩
  by_cases k3:rs[n].e.kind=3
  ·have HT1:Hid (gy (ai rs) n inside=rs[n].e.over++⟨#[45,62]⟩++rs[n].e.name):=by show _=_;rw[HT.out];simp[inT,ji,k3]
   have hsz:rs[n].e.over.size<=12/\rs[n].e.name.size<=12:=by
    have:=HN.out;unfold av at this;rw[if_neg k1,if_neg k2,if_pos k3]at this;simp only[Vw]at this;exact⟨aS this.1.1.1,aS this.1.1.2⟩
   obtain⟨z0,z1⟩:=hsz;clear HT;go_enter func255,ntmps255;go_wp2;go_ret;exact⟨by rw[HT1.out];rfl,(Vv _ _).alloc (Vu _) _⟩
  skip
  obtain⟨W,hW⟩:=eQx (w.alloc (.cells #[.int .i64 rs[n].e.kind,.slice rs[n].adA rs[n].e.allow.length rs[n].capA,.string rs[n].e.over,.string rs[n].e.name,.slice rs[n].adK rs[n].e.kids.length rs[n].capK] 43));have hB0:ag w W:=by rw[hW];exact(Vv _ _).alloc (Vu _) _
  have hgl:w.heap.size<W.heap.size:=by rw[hW];simp
  have g0:W.cell? ⟨w.heap.size,0,none⟩=some (.int .i64 rs[n].e.kind):=by rw[hW];simp
  have g1:W.cell? ⟨w.heap.size,1,none⟩=some (.slice rs[n].adA rs[n].e.allow.length rs[n].capA):=by rw[hW];simp
  have g2:W.cell? ⟨w.heap.size,2,none⟩=some (.string rs[n].e.over):=by rw[hW];simp
  have g3:W.cell? ⟨w.heap.size,3,none⟩=some (.string rs[n].e.name):=by rw[hW];simp
  have g4:W.cell? ⟨w.heap.size,4,none⟩=some (.slice rs[n].adK rs[n].e.kids.length rs[n].capK):=by rw[hW];simp
  have HB0:=az hB0;clear hB0;have HT1:Hid (gy (ai rs) n inside=if inside then ⟨#[40]⟩++dP (dY rs[n].e.kind) (rs[n].e.kids.map (iH (ai rs) n))++⟨#[41]⟩ else dP (dY rs[n].e.kind) (rs[n].e.kids.map (iH (ai rs) n))):=by
   show _=_;rw[HT.out];simp[inT,ji,k1,k2,k3]
  have HTS:Hid (∀x∈rs[n].e.kids.map (iH (ai rs) n),x.size<=20000000000000):=fun x hx=>by
   obtain⟨k,hk,rfl⟩:=VE.1 hx;have hlt:=XP.out k hk;unfold iH;rw[if_pos hlt.2,xP];exact sw HES.out _ (by rw[ay];omega) true
  have kb1:(rs[n].e.kind==1)=false:=by simpa using k1
  have kb2:(rs[n].e.kind==2)=false:=by simpa using k2
  have kb3:(rs[n].e.kind==3)=false:=by simpa using k3
  clear HT hkind;go_enter func255,ntmps255;go_wp2_with fail;rw[<-hW];clear hW t0 t1 t2 t3 t4;go_loopw[8,10] (fun s i wr=>∃k:Nat,k<=rs[n].e.kids.length/\i=.int .i64 k/\s=.string (dP (dY rs[n].e.kind) ((rs[n].e.kids.map (iH (ai rs) n)).take k))/\ag W wr) (fun _ i _=>rs[n].e.kids.length-(intOf i).toNat);case atStart=>exact⟨0,Vy _,rfl,by rw[nN],Vv _ _⟩
  obtain⟨k,hk,rfl,rfl,hB⟩:=hrel;have hBw:ag w wr:=HB0.out.trans (hB.mono HB0.out.size);have hbw:b<wr.heap.size:=Vt hb hBw.size;have a0:=kept hB hgl g0;have a4:=kept hB hgl g4;have hsg:=ku rs[n].e.kind;have hsj:(dP (dY rs[n].e.kind) ((rs[n].e.kids.map (iH (ai rs) n)).take k)).size<=100000000000100:=by
   have h:=yK (dY rs[n].e.kind) (rs[n].e.kids.map (iH (ai rs) n)) 20000000000000 k HTS.out;rw[hsg]at h;omega
  by_cases hlt:k<rs[n].e.kids.length
  ·rcases (HO.out rs[n] (Vs hn)).2.below hBw with hnil|⟨bk,offk,Yx,hbk,Zx⟩
   ·rw[hnil]at hlt;simp at hlt
   rw[Yx]at a4;have q0:=Zx k hlt;obtain⟨hz0,hz1⟩:=XP.out rs[n].e.kids[k] (Vs hlt);obtain⟨m,hm⟩:∃m:Nat,rs[n].e.kids[k]=(m:Int):=⟨rs[n].e.kids[k].toNat,by omega⟩;rw[hm]at q0 hz1;have hmn:m<n:=by simpa using hz1
   have hmr:m<rs.length:=by omega
   have HFm:Hid (iH (ai rs) n rs[n].e.kids[k]=gy (ai rs) m true):=by show _=_;rw[hm];unfold iH;rw[if_pos (by simpa using hmn),xP];simp
   have hsm:=sw HES.out m (by rw[ay];exact hmr) true;have hk1:=bI k;have hk2:(k:Int)<(rs[n].e.kids.length:Int):=by omega
   clear Zx Yx hz0 hz1 hm;by_cases hk0:0<k
   ·have hk3:(0:Int)<(k:Int):=by omega
    have HJ:Hid (dP (dY rs[n].e.kind) ((rs[n].e.kids.map (iH (ai rs) n)).take (k+1))=dP (dY rs[n].e.kind) ((rs[n].e.kids.map (iH (ai rs) n)).take k)++dY rs[n].e.kind++gy (ai rs) m true):=by show _=_;rw[yJ _ _ _ (by simpa using hlt) hk0,List.getElem_map,HFm.out]
    go_wp2_with fail;refine(mW _ _).mono ?_;rintro e w' ⟨rfl,rfl⟩;go_wp2_with fail;refine(IH.out m hmn true _ hmr hbw (fun i hi=>(HR.out i hi).later hb hBw) (fun r hr=>(HO.out r hr).below hBw)).mono ?_;rintro e w1 ⟨rfl,hb1⟩;have hB1:ag W w1:=hB.trans (hb1.mono hB.size);clear hb1;go_wp2;go_roundw;case rel=>exact⟨k+1,by omega,by go_num,by rw[HJ.out],hB1⟩
    simp[intOf]<;>omega
   skip
   have hk3:¬(0:Int)<(k:Int):=by omega
   have HJ:Hid (dP (dY rs[n].e.kind) ((rs[n].e.kids.map (iH (ai rs) n)).take (k+1))=dP (dY rs[n].e.kind) ((rs[n].e.kids.map (iH (ai rs) n)).take k)++gy (ai rs) m true):=by
    have h0:=HFm.out;show _=_;obtain rfl:k=0:=by omega
    rw[nN,AX _ _ (by simpa using hlt),List.getElem_map,h0]
   go_wp2_with fail;refine(IH.out m hmn true _ hmr hbw (fun i hi=>(HR.out i hi).later hb hBw) (fun r hr=>(HO.out r hr).below hBw)).mono ?_;rintro e w1 ⟨rfl,hb1⟩;have hB1:ag W w1:=hB.trans (hb1.mono hB.size);clear hb1;go_wp2;go_roundw;case rel=>exact⟨k+1,by omega,by go_num,by rw[HJ.out],hB1⟩
   simp[intOf]<;>omega
  obtain rfl:k=rs[n].e.kids.length:=by omega
  have HE:Hid ((rs[n].e.kids.map (iH (ai rs) n)).take rs[n].e.kids.length=rs[n].e.kids.map (iH (ai rs) n)):=by show _=_;rw[VZ (by simp)]
  cases inside;case true=>
   go_wp2;go_ret;exact⟨by rw[HT1.out];exact rq (by rw[HE.out];rfl),hBw⟩
  go_wp2;go_ret;exact⟨by rw[HT1.out];exact rq (by rw[HE.out];rfl),hBw⟩
def dK(es:Q09):ByteArray:=if aI es then gy es (es.length-1) false else ⟨#[]⟩
theorem xQ{es:Q09}(h:aI es=false):dK es=⟨#[]⟩:=by simp[dK,h]
theorem uJ{es:Q09}(h:aI es=true):dK es=gy es (es.length-1) false:=by simp[dK,h]
theorem kv(ad:Q02)(cap:Nat)(rs:Q08)(w:af)(hlen:rs.length<=1048576)(hl:∀r∈rs,r.e.light)(hf:∀r∈rs,r.e.fits)(hs:jo w ad rs):
  Calls prog 180 #[.slice ad rs.length cap] w fun e w'=>e=.returned (.string (dK (ai rs)))/\ag w w':=by
 have HS:=az hs;have HL:=az hl;have HF:=az hf;clear hs hl hf;go_enter func180,ntmps180;go_wp2_with fail;refine(mV ad cap rs _ hlen HL.out HF.out HS.out).mono ?_;rintro e w1 ⟨he,hb1⟩;have HB1:=az hb1;clear hb1;cases hE:aI (ai rs);case false=>
  rw[hE]at he;subst he;have HX:Hid (dK (ai rs)=⟨#[]⟩):=xQ hE;go_wp2;go_ret;exact⟨by rw[HX.out];rfl,HB1.out⟩
 rw[hE]at he;subst he;have h1:1<=rs.length:=by
  have:=hE;unfold aI at this;simp only[Vw,VH,ay]at this;exact this.1.1.1.1.1
 rcases HS.out.below HB1.out with rfl|⟨b,off,rfl,hb,hr,hok⟩
 ·simp at h1
 have HR:Hid (∀(i:Nat) (h:i<rs.length),ve w1 b (off+i*5) rs[i]):=hr;have HO:=az hok;have Xc:Hid (TA (ai rs)):=JP hE;have HX:Hid (dK (ai rs)=gy (ai rs) (rs.length-1) false):=by show _=_;rw[uJ hE,ay]
 have ZX:Hid (((rs.length:Int)-1)=((rs.length-1:Nat):Int)):=by show _=_;omega
 clear hr hok;go_wp2_with fail;rw[ZX.out];refine(J5 b off cap rs Xc.out HL.out (rs.length-1) false _ (by omega) hb HR.out HO.out).mono ?_;rintro e w2 ⟨rfl,hb2⟩;have HB2:=iX HB1 hb2;clear hb2;go_wp2;go_ret;exact⟨by rw[HX.out];rfl,HB2.out⟩
theorem vW(k:Int):dY k=aU k:=by
 unfold dY aU;rfl
def iq(s:ByteArray)(p:Nat)(j:Nat):Int :=
 if 4<j/\eH s (aU 4) p=true then 4 else if 5<j/\eH s (aU 5) p=true then 5 else if 6<j/\eH s (aU 6) p=true then 6 else 0
theorem P7(s:bi)(p:Nat):iq s p 4=0:=by simp[iq]
theorem P8(s:bi)(p:Nat):iq s p 7=dI s p:=by simp[iq,dI]
theorem Hd{s:ByteArray}{p j:Nat}(h4:4<=j)(h7:j<7)(h:iq s p j≠0):iq s p (j+1)=iq s p j:=by
 have hj:j=4\/j=5\/j=6:=by omega
 unfold iq at h⊢;rcases hj with rfl|rfl|rfl<;>cases h1:eH s (aU 4) p<;>cases h2:eH s (aU 5) p<;>cases h3:eH s (aU 6) p<;>simp_all
theorem DD{s:ByteArray}{p j:Nat}(h4:4<=j)(h7:j<7)(h:iq s p j=0)(hl:eH s (aU j) p=false):iq s p (j+1)=0:=by
 have hj:j=4\/j=5\/j=6:=by omega
 unfold iq at h⊢;rcases hj with rfl|rfl|rfl<;>cases h1:eH s (aU 4) p<;>cases h2:eH s (aU 5) p<;>cases h3:eH s (aU 6) p<;>simp_all
theorem J6{s:ByteArray}{p j:Nat}(h4:4<=j)(h7:j<7)(h:iq s p j=0)(hl:eH s (aU j) p=true):iq s p (j+1)=(j:Int):=by
 have hj:j=4\/j=5\/j=6:=by omega
 unfold iq at h⊢;rcases hj with rfl|rfl|rfl<;>cases h1:eH s (aU 4) p<;>cases h2:eH s (aU 5) p<;>cases h3:eH s (aU 6) p<;>simp_all
theorem mX(k:Int):(aU k).size=3:=by
 unfold aU;split
 ·rfl
 split<;>rfl
theorem AY{s:ByteArray}{p:Nat}(k:Int)(h:p+3<=s.size):eH s (aU k) p=((s.extract p (p+3)).toList==(dY k).toList):=by
 unfold eH;rw[mX,vW];simp[h]
theorem Nh{s:ByteArray}{p:Nat}(k:Int)(h:¬p+3<=s.size):eH s (aU k) p=false:=by
 unfold eH;rw[mX];simp[h]
def rowP(s:ByteArray)(it:RS->Int×RS)(x:Int×RS):Int×RS :=
 if dI s x.2.p=0\/x.2.bad=true then x
 else (((iJ s it (dI s x.2.p) (s.size+1) [x.1] x.2).2.out.length:Int),sV ⟨dI s x.2.p,[],⟨#[]⟩,⟨#[]⟩,(iJ s it (dI s x.2.p) (s.size+1) [x.1] x.2).1⟩ (iJ s it (dI s x.2.p) (s.size+1) [x.1] x.2).2)
theorem AZ{s:ByteArray}{it:RS->Int×RS}{x:Int×RS}(h:dI s x.2.p=0\/x.2.bad=true):rowP s it x=x:=if_pos h
theorem Ni{s:ByteArray}{it:RS->Int×RS}{x:Int×RS}(h:¬(dI s x.2.p=0\/x.2.bad=true)){zs:List Int}{st:RS}(hk:iJ s it (dI s x.2.p) (s.size+1) [x.1] x.2=(zs,st)):rowP s it x=((st.out.length:Int),sV ⟨dI s x.2.p,[],⟨#[]⟩,⟨#[]⟩,zs⟩ st):=by
 unfold rowP;rw[if_neg h,hk]
theorem P9{s:ByteArray}{it:RS->Int×RS}{k:Int}{n:Nat}{zs:List Int}{st:RS}(h:nM s (aU k) st.p st.bad=false):iJ s it k n zs st=(zs,st):=by
 have e:lQ s (aU k) st=false:=h;cases n with
 | zero=>rfl
 | succ n=>unfold iJ;rw[e];rfl
theorem Nj{s:ByteArray}{it:RS->Int×RS}{k:Int}{n:Nat}{zs:List Int}{st:RS}(h:nM s (aU k) st.p st.bad=true):iJ s it k (n+1) zs st=iJ s it k n (zs++[(it (kM (aU k) st)).1]) (it (kM (aU k) st)).2:=by
 have e:lQ s (aU k) st=true:=h
 conv=>lhs;unfold iJ
 rw[e];rfl
theorem RdC.heap{w w':af}{R:Nat}{s:ByteArray}{p:Nat}{bad:Bool}{v:Value}(h:RdC w R s p bad v)(hs:w.heap.size<=w'.heap.size)(hh:w'.heap[R]?=w.heap[R]?):RdC w' R s p bad v :=
 ⟨Vt h.lt hs,(VN (w:=w) (a:=⟨R,0,none⟩) hh).trans h.c0,(VN (w:=w) (a:=⟨R,1,none⟩) hh).trans h.c1,(VN (w:=w) (a:=⟨R,2,none⟩) hh).trans h.c2,(VN (w:=w) (a:=⟨R,3,none⟩) hh).trans h.c3,bR h.fr hh⟩
theorem RdF.heap{w w':af}{R:Nat}{s:ByteArray}{st:RS}{base:Nat}{v:Value}{qs:Q08}(h:RdF w R s st base v qs)(hs:w.heap.size<=w'.heap.size)(h1:w'.heap[R]?=w.heap[R]?)(h2:∀g,v.ownBlock=some g->w'.heap[g]?=w.heap[g]?)(h3:∀q∈qs,∀g,pU q g->w'.heap[g]?=w.heap[g]?):RdF w' R s st base v qs where
 rd:=h.rd.heap hs h1
 own:=bF h.own h2
 out:=h.out
 zA:=h.zA
 zK:=h.zK
 ok q hq:=pV (h.ok q hq) hs (h.zA q hq) (h.zK q hq) (h3 q hq)
 lie q hq g hg:=by
  obtain⟨a1,a2,a3,a4⟩:=h.lie q hq g hg;exact⟨a1,Vt a2 hs,bR a3 (h3 q hq g hg),a4⟩
 one:=h.one
 two:=h.two
 cA:=h.cA
 cK q hq:=(h.cK q hq).heap (h.zK q hq) (h3 q hq)
structure KLr(w wr:World)(R:Nat)(s:ByteArray)(st:RS)(base:Nat)(v v':Value)(qs ns:Q08)(zs:List Int)(vK:Value):Prop where
 rd:RdF wr R s st base v' (qs++ns)
 went:Went R v w v' wr
 new:∀q∈ns,∀g,pU q g->w.heap.size<=g
 own:wr.ownsRow w.heap.size 2 1 vK zs.length (ints zs)
 far:∀g,vK.ownBlock=some g->v'.ownBlock≠some g/\∀q∈qs++ns,¬pU q g
 ne:zs≠[]
theorem KLr.is{w wr w':af}{R:Nat}{s:ByteArray}{st st':RS}{base:Nat}{v v':Value}{qs ns:Q08}{zs:List Int}{vK:Value}(h:KLr w wr R s st base v v' qs ns zs vK)(hR:R<w.heap.size)(hg:wr.grownBy w' (some R))(hF:RdF w' R s st' base v' (qs++ns)):KLr w w' R s st' base v v' qs ns zs vK :=
 ⟨hF,h.went.trans ((Onl.of_grown hg).any v'),h.new,h.own.kept hg (.inr (fun e=>by have:=(h.own.lt R e).1;omega)),h.far,h.ne⟩
theorem KLr.more{w wr w':af}{R:Nat}{s:ByteArray}{st st':RS}{base:Nat}{v v' v2:Value}{qs ns ms:Q08}{zs:List Int}{vK:Value}(h:KLr w wr R s st base v v' qs ns zs vK)(hR:R<w.heap.size)(hF:RdF w' R s st' base v2 ((qs++ns)++ms))(hW:Went R v' wr v2 w')(hm:∀q∈ms,∀g,pU q g->wr.heap.size<=g):KLr w w' R s st' base v v2 qs (ns++ms) zs vK:=by
 have hl:∀g,vK.ownBlock=some g->w.heap.size<=g/\g<wr.heap.size:=fun g hg=>h.own.lt g hg;refine⟨by rw[<-VY];exact hF,h.went.trans hW,fun q hq g hg=>?_,bF h.own fun g hg=>hW.onl.block g (hl g hg).2 (by have:=(hl g hg).1;omega) (h.far g hg).1,fun g hg=>⟨hW.apart (hl g hg).2 (h.far g hg).1,fun q hq hi=>?_⟩,h.ne⟩
 ·rcases VJ.1 hq with h1|h1
  ·exact h.new q h1 g hg
  exact Vz h.went.onl.size (hm q h1 g hg)
 rw[<-VY]at hq;rcases VJ.1 hq with h1|h1
 ·exact(h.far g hg).2 q h1 hi
 have:=hm q h1 g hi;have:=(hl g hg).2;omega
theorem Qa(zs:List Int)(z:Int):ints (zs++[z])=ints zs++[.int .i64 z]:=by simp[ints]
theorem KLr.app{w wr w':af}{R:Nat}{s:ByteArray}{st:RS}{base:Nat}{v v':Value}{qs ns:Q08}{zs:List Int}{vK vN:Value}(h:KLr w wr R s st base v v' qs ns zs vK)(hR:R<w.heap.size)(z:Int)(o:Obj)(hown:w'.ownsRow w.heap.size 2 1 vN (zs.length+1) (ints zs++[.int .i64 z]))(hg:(wr.alloc o).grownBy w' vK.ownBlock)(hat:vN.ownBlock=vK.ownBlock\/vN.ownBlock=some (wr.alloc o).heap.size):KLr w w' R s st base v v' qs ns (zs++[z]) vN:=by
 have hg0:=World.grownBy_alloc wr o none;have keep:∀k,k<wr.heap.size->vK.ownBlock≠some k->w'.heap[k]?=wr.heap[k]?:=fun k hk hne=>(hg.block k (Vt hk hg0.size) (Ne.symm hne)).trans (hg0.block k hk (by simp));have hl:∀g,vK.ownBlock=some g->w.heap.size<=g/\g<wr.heap.size:=fun g hg=>h.own.lt g hg;have hs:wr.heap.size<=w'.heap.size:=Vz hg0.size hg.size;refine⟨h.rd.heap hs (keep R h.rd.rd.lt (fun e=>by have:=(hl R e).1;omega)) (fun g hg=>keep g (h.rd.own.lt g hg).2 (fun e=>(h.far g e).1 hg)) (fun q hq g hi=>keep g (h.rd.lie q hq g hi).2.1 (fun e=>(h.far g e).2 q hq hi)),?_,h.new,by rw[Qa,VD,VT];exact hown,fun g hgn=>?_,by simp⟩
 ·refine⟨⟨hg.os.trans (hg0.os.trans h.went.onl.os),hg.tape.trans (hg0.tape.trans h.went.onl.tape),hg.output.trans (hg0.output.trans h.went.onl.output),Vz h.went.onl.size hs,fun k hk h1 h2=>(keep k (Vt hk h.went.onl.size) (fun e=>by have:=(hl k e).1;omega)).trans (h.went.onl.block k hk h1 h2)⟩,h.went.own⟩
 rcases hat with e|e
 ·exact h.far g (by rw[<-e];exact hgn)
 rw[e]at hgn;injection hgn with hgn;have hsz:wr.heap.size<=g:=by rw[<-hgn];exact hg0.size
 exact⟨fun e2=>by have:=(h.rd.own.lt g e2).2;omega,fun q hq hi=>by have:=(h.rd.lie q hq g hi).2.1;omega⟩
theorem KLr.node{w wr:af}{R:Nat}{s:ByteArray}{st:RS}{base:Nat}{v v':Value}{qs ns:Q08}{zs:List Int}{vK:Value}(h:KLr w wr R s st base v v' qs ns zs vK)(hb:base<=w.heap.size)(k:Int):∃ad cap,vK=.slice ad zs.length cap/\NewQ base wr ⟨⟨k,[],⟨#[]⟩,⟨#[]⟩,zs⟩,none,0,ad,cap⟩/\∀g,pU ⟨⟨k,[],⟨#[]⟩,⟨#[]⟩,zs⟩,none,0,ad,cap⟩ g->w.heap.size<=g/\v'.ownBlock≠some g/\∀q∈qs++ns,¬pU q g:=by
 obtain⟨ad,cap,e,h2,h3,h4⟩:=LQ h.own rfl;have hA:∀g,¬bA ⟨⟨k,[],⟨#[]⟩,⟨#[]⟩,zs⟩,none,0,ad,cap⟩ g:=fun g hg=>hg.1 rfl;have hK:∀g,pU ⟨⟨k,[],⟨#[]⟩,⟨#[]⟩,zs⟩,none,0,ad,cap⟩ g->(w.heap.size<=g/\g<wr.heap.size/\j6 wr g)/\vK.ownBlock=some g:=by
  rintro g (hg|hg)
  ·exact absurd hg (hA g)
  exact⟨h4 g hg.1 hg.2,by rw[e,show ad=some ⟨g,0,none⟩ from hg.2];rfl⟩
 refine⟨ad,cap,e,⟨fun h=>absurd rfl h,h3,⟨.inl rfl,h2⟩,fun g hg=>⟨Vz hb (hK g hg).1.1,(hK g hg).1.2⟩,fun g hg=>absurd hg (hA g),Vy _⟩,fun g hg=>⟨(hK g hg).1.1,h.far g (hK g hg).2⟩⟩
theorem KLr.kid{w wr:af}{R:Nat}{s:ByteArray}{st:RS}{base:Nat}{v v':Value}{qs ns:Q08}{zs:List Int}{ad:Q02}{cap:Nat}(h:KLr w wr R s st base v v' qs ns zs (.slice ad zs.length cap))(hb:base<=w.heap.size)(k:Int):Cw wr base ⟨⟨k,[],⟨#[]⟩,⟨#[]⟩,zs⟩,none,0,ad,cap⟩:=Cw.mono (base:=w.heap.size) (.inr ⟨h.ne,h.own⟩) hb
theorem Qb(w:af)(z:Int)(g:Nat)(hg:w.heap.size=g):∀j u,[Value.int .i64 z][j]?=some u->(w.alloc (.cells #[.int .i64 z] 2)).cell? ((⟨g,0,none⟩:Addr).add j)=some u:=by
 intro j u hu;subst hg;rw[show(⟨w.heap.size,0,none⟩:Addr).add j=⟨w.heap.size,0+j,none⟩ by simp[Addr.add];omega,VW];have:=World.cell?_alloc_mark w #[.int .i64 z] 2 (0,0) j;rw[this];simpa using hu
theorem R6(R:Nat)(s:bi)(st:RS)(base:Nat)(v:Value)(qs:Q08)(w:af)(h:RdF w R s st base v qs)(hR:R<base)(hB:base<=w.heap.size)(hs:s.size<=1000)(x:Int×RS)(hx:x.2.p<=s.size)
  (hfirst:Calls prog 324 #[.pointer (some ⟨R,0,none⟩)] w (vT R s base v qs w x))
  (it:RS->Int×RS) (hlen:x.2.out.length+(s.size-x.2.p)<=5001)
  (hit:∀(st':RS) (v':Value) (Y8:Q08) (w':World),RdF w' R s st' base v' Y8->base<=w'.heap.size->x.2.p+3<=st'.p->st'.p<=s.size->st'.out.length+(s.size-st'.p)<=5000->Calls prog 324 #[.pointer (some ⟨R,0,none⟩)] w' (vT R s base v' Y8 w' (it st')))
  (hmono:∀st':RS,x.2.p+3<=st'.p->st'.p<=s.size->st'.p<=(it st').2.p/\(it st').2.p<=s.size/\(it st').2.out.length+st'.p<=st'.out.length+1+(it st').2.p) :
  Calls prog 297 #[.pointer (some ⟨R,0,none⟩)] w (vT R s base v qs w (rowP s it x)):=by
 obtain⟨iI,hiI,zI0,zI1,zI2⟩:=info_parts (P:=prog) (e:=2) (z:=.int .i64 0) (size:=1) (bytes:=8) (by kernel_rfl);have YP:Hid (prog.info? 2=some iI/\iI.zero=some (.int .i64 0)/\iI.size=1/\iI.bytes=8):=⟨hiI,zI0,zI1,zI2⟩;have HLEN:=aj hlen;have HITM:=aj hit;have HMONO:=aj hmono;clear hiI zI0 zI1 zI2 hlen hit hmono;have H:=aj h;have HX:=aj hx;have HIT:=aj hfirst;clear h hx hfirst;go_enter func297,ntmps297;go_wp2_with fail;refine HIT.out.mono ?_;rintro e w1 ⟨v1,ns,rfl,hF1,hW1,hns⟩;have Ya:=aj hF1;have HW1:=aj hW1;have HNS:=aj hns;clear hF1 hW1 hns HIT;go_wp2_with fail;go_loopw[4,5] (fun kd k wr=>∃(j nn:Nat),4<=j/\j<=7/\k=.int .i64 j/\kd=.int .i64 (iq s x.2.p j)/\Hid (wr=w1.drewN nn)) (fun _ k _=>7-(intOf k).toNat);case atStart=>exact⟨4,0,by omega,by omega,rfl,by rw[P7],rfl⟩
 obtain⟨j,nn,hj4,hj7,rfl,rfl,Zl⟩:=hrel;have hrd:RdC wr R s x.2.p x.2.bad v1:=by rw[Zl.out];exact Ya.out.rd.drewN nn
 have HRD:=aj hrd;have c0:=HRD.out.c0;have c1:=HRD.out.c1;have c2:=HRD.out.c2;clear hrd;by_cases hlt:j<7
 ·have hle:decide ((j:Int)<=6)=true:=by simp;omega
  have hle2:(j:Int)<=6:=by omega
  have hwr:IntKind.i64.wrap ((x.2.p:Int)+3)=(x.2.p:Int)+3:=by have:=HX.out;simp[IntKind.wrap,IntKind.bits,IntKind.signed];omega
  by_cases hK:iq s x.2.p j=0
  ·have hK0:(iq s x.2.p j==0)=true:=by simp[hK]
   by_cases ZO:x.2.p+3<=s.size
   ·have hd:decide ((x.2.p:Int)+3<=(s.size:Int))=true:=by simp;omega
    have hd2:(x.2.p:Int)+3<=(s.size:Int):=by omega
    have hnn:(0:Int)<=(x.2.p:Int):=by omega
    have hp1:(x.2.p:Int)<=(x.2.p:Int)+3:=by omega
    rw[hK];cases he:(s.extract x.2.p (x.2.p+3)).toList==(dY j).toList
    case' true =>
     have EQ:=aj (J6 hj4 hlt hK (by rw[AY _ ZO];exact he))
    case' false =>
     have EQ:=aj (DD hj4 hlt hK (by rw[AY _ ZO];exact he))
    all_goals
     clear hK hK0;go_wp2_with fail;go_quiet ((go_at_call 294;exact Calls.quiet_of_same (mW _ _)));go_wp2;go_roundw;case rel=>exact⟨j+1,nn+nq,by omega,by omega,by go_num,by rw[EQ.out],by show _=_;rw[Zl.out,World.drewN_drewN]⟩
     simp[intOf]<;>omega
   have hd:decide ((x.2.p:Int)+3<=(s.size:Int))=false:=by simp;omega
   have EQ:=aj (DD hj4 hlt hK (Nh _ ZO));rw[hK];clear hK hK0;go_wp2_with fail;go_quiet ((go_at_call 294;exact Calls.quiet_of_same (mW _ _)));go_wp2;go_roundw;case rel=>exact⟨j+1,nn+nq,by omega,by omega,by go_num,by rw[EQ.out],by show _=_;rw[Zl.out,World.drewN_drewN]⟩
   simp[intOf]<;>omega
  have hK0:(iq s x.2.p j==0)=false:=by simp[hK]
  have EQ:=aj (Hd hj4 hlt hK);clear hK;go_wp2_with fail;go_quiet ((go_at_call 294;exact Calls.quiet_of_same (mW _ _)));go_wp2;go_roundw;case rel=>exact⟨j+1,nn+nq,by omega,by omega,by go_num,by rw[EQ.out],by show _=_;rw[Zl.out,World.drewN_drewN]⟩
  simp[intOf]<;>omega
 obtain rfl:j=7:=by omega
 rw[P8,show((7:Nat):Int)=(7:Int) from rfl];have hle:decide ((7:Int)<=6)=false:=by decide
 obtain⟨kd,hkd⟩:=eQx (dI s x.2.p);have HKD:=aj hkd;rw[<-hkd];clear hkd;by_cases hk:kd=0
 ·have hk0:(kd==0)=true:=by simp[hk]
  have EQ:=aj (AZ (it:=it) (.inl (HKD.out.symm.trans hk)));subst hk;have HF:=aj (Ya.out.heap (w':=wr) (by rw[Zl.out];exact Vu _) (by rw[Zl.out];rfl) (fun g _=>by rw[Zl.out];rfl) (fun q _ g _=>by rw[Zl.out];rfl));have HW:Hid (Went R v w v1 wr):=by rw[Zl.out];exact⟨⟨HW1.out.onl.os,HW1.out.onl.tape,HW1.out.onl.output,HW1.out.onl.size,HW1.out.onl.block⟩,HW1.out.own⟩
  go_wp2;exact bodyPost_ret (v:=.int .i64 x.1) (by simp[results,Tryz.results297,go_sem]) rfl (by rw[EQ.out];exact⟨v1,ns,rfl,HF.out,HW.out,HNS.out⟩)
 have hk0:(kd==0)=false:=by simp[hk]
 cases hb:x.2.bad;case true=>
  have EQ:=aj (AZ (it:=it) (x:=x) (s:=s) (.inr hb));rw[hb]at c2;have HF:=aj (Ya.out.heap (w':=wr) (by rw[Zl.out];exact Vu _) (by rw[Zl.out];rfl) (fun g _=>by rw[Zl.out];rfl) (fun q _ g _=>by rw[Zl.out];rfl));have HW:Hid (Went R v w v1 wr):=by rw[Zl.out];exact⟨⟨HW1.out.onl.os,HW1.out.onl.tape,HW1.out.onl.output,HW1.out.onl.size,HW1.out.onl.block⟩,HW1.out.own⟩
  go_wp2;exact bodyPost_ret (v:=.int .i64 x.1) (by simp[results,Tryz.results297,go_sem]) rfl (by rw[EQ.out];exact⟨v1,ns,rfl,HF.out,HW.out,HNS.out⟩)
 rw[hb]at c2;have Yp:Hid (¬(dI s x.2.p=0\/x.2.bad=true)):=by
  rintro(e|e)
  ·exact hk (HKD.out.trans e)
  rw[hb]at e;cases e
 have HF:=aj (Ya.out.heap (w':=wr) (by rw[Zl.out];exact Vu _) (by rw[Zl.out];rfl) (fun g _=>by rw[Zl.out];rfl) (fun q _ g _=>by rw[Zl.out];rfl));have HW:Hid (Went R v w v1 wr):=by rw[Zl.out];exact⟨⟨HW1.out.onl.os,HW1.out.onl.tape,HW1.out.onl.output,HW1.out.onl.size,HW1.out.onl.block⟩,HW1.out.own⟩
 have HWB:Hid (R<w.heap.size):=H.out.rd.lt;have HKL0:Hid (KLr w (wr.alloc (.cells #[.int .i64 x.1] 2)) R s x.2 base v v1 qs ns [x.1] (.slice (some ⟨wr.heap.size,0,none⟩) 1 1)):=by
  have hg0:=World.grownBy_alloc wr (.cells #[.int .i64 x.1] 2) none;refine⟨HF.out.heap hg0.size (hg0.block R HF.out.rd.lt (by simp)) (fun g hg=>hg0.block g (HF.out.own.lt g hg).2 (by simp)) (fun q hq g hi=>hg0.block g (HF.out.lie q hq g hi).2.1 (by simp)),HW.out.trans ((Onl.of_below ((Vv _ _).alloc (Vu _) _)).any v1),HNS.out,World.ownsRow_lit wr #[.int .i64 x.1] 1 HW.out.onl.size (by unfold maxLen;omega) (by simp),fun g hg=>?_,by simp⟩;simp[Value.ownBlock]at hg;subst hg;exact⟨fun e=>by have:=(HF.out.own.lt _ e).2;omega,fun q hq hi=>by have:=(HF.out.lie q hq _ hi).2.1;omega⟩
 clear HF HW HRD Zl Ya HW1 HNS;go_wp2_with fail;clear c0 c1 c2;go_loopw[6] (fun vK wq=>∃(n:Nat) (zs:List Int) (st':RS) (v':Value) (ms:Q08),Hid (st'.p<=s.size/\x.2.p<=st'.p/\s.size-st'.p<n/\zs.length<=st'.p+1/\st'.out.length+(s.size-st'.p)<=5001)/\Hid (iJ s it kd n zs st'=iJ s it kd (s.size+1) [x.1] x.2)/\Hid (KLr w wq R s st' base v v' qs ms zs vK)) (fun _ wq=>s.size-wat R wq);case atStart=>exact⟨s.size+1,[x.1],x.2,v1,ns,⟨HX.out,Vu _,by omega,by simp,HLEN.out⟩,rfl,HKL0.out⟩
 obtain⟨n,zs,st',v',ms,HB,HQ,XP⟩:=hrel;clear HKL0;go_wp2_with fail;refine(mW _ _).mono ?_;rintro e w' ⟨rfl,rfl⟩;go_wp2_with fail;refine(mU R s (dY kd) st'.p st'.bad v' _ XP.out.rd.rd hs HB.out.1 (by simp[ku])).mono ?_;rintro e w5 ⟨rfl,hr5,hg5⟩;cases hc:nM s (dY kd) st'.p st'.bad;case false=>
  have HK5:=aj (XP.out.is HWB.out hg5 (XP.out.rd.is_no hR hc hr5 hg5));rw[vW]at hc;have EQ:=aj (Ni (zs:=zs) (st:=st') Yp.out (by rw[<-HKD.out];exact HQ.out.symm.trans (P9 hc)));obtain⟨ad,cap,rfl,hnq,hin⟩:=HK5.out.node hB kd;have HNQ:=aj hnq;have HIN:=aj hin;have hql:(qs++ms).length<=100000:=by have h1:=HK5.out.rd.out;have h2:=congrArg List.length h1;simp only[ai,Wp]at h2;have:=HB.out.2.2.2.2;omega
  clear hr5 hg5 hc hnq hin XP;go_wp2_with fail;refine(M7 R s st' base v' (qs++ms) ⟨⟨kd,[],⟨#[]⟩,⟨#[]⟩,zs⟩,none,0,ad,cap⟩ w5 HK5.out.rd hR (Vz hB HK5.out.went.onl.size) hql HNQ.out (HK5.out.kid hB kd) (fun g hg=>(HIN.out g hg).2)).mono ?_;rintro e w6 ⟨v6,rfl,hF6,YH⟩;have Z5:=aj hF6;have HW6:=aj (HK5.out.went.trans YH);clear hF6 YH;have HNEW:Hid (∀q∈ms++[(⟨⟨kd,[],⟨#[]⟩,⟨#[]⟩,zs⟩,none,0,ad,cap⟩:ER)],∀g,pU q g->w.heap.size<=g):=by
   intro q hq g hg;rcases VJ.1 hq with h1|h1
   ·exact HK5.out.new q h1 g hg
   rw[VO]at h1;subst h1;exact(HIN.out g hg).1
  replace Z5:Hid (RdF w6 R s (sV ⟨kd,[],⟨#[]⟩,⟨#[]⟩,zs⟩ st') base v6 (qs++(ms++[(⟨⟨kd,[],⟨#[]⟩,⟨#[]⟩,zs⟩,none,0,ad,cap⟩:ER)]))):=by rw[<-VY];exact Z5.out
  go_wp2;exact bodyPost_ret (v:=.int .i64 (st'.out.length:Int)) (by simp[results,Tryz.results297,go_sem]) rfl (by rw[EQ.out,<-HKD.out];exact⟨v6,_,rfl,Z5.out,HW6.out,HNEW.out⟩)
 have hk5:=XP.out.is HWB.out hg5 (XP.out.rd.is_yes hR hc hr5 hg5);rw[vW]at hk5;have HK5:=aj hk5;have YE:Hid (st'.p+3<=s.size):=by have:=AR hc;rw[ku]at this;exact this
 have HPL:=aj XP.out.rd.rd.place;obtain⟨m,hm⟩:∃m,n=m+1:=⟨n-1,by have:=HB.out.2.2.1;omega⟩;subst hm;rw[vW]at hc;have EQ:=aj ((Nj (it:=it) (n:=m) (zs:=zs) hc).symm.trans HQ.out);have eP:(kM (aU kd) st').p=st'.p+3:=by unfold kM;rw[mX]
 have eO:(kM (aU kd) st').out=st'.out:=rfl;have a1:x.2.p+3<=(kM (aU kd) st').p:=by rw[eP];have:=HB.out.2.1;omega
 have a2:(kM (aU kd) st').p<=s.size:=by rw[eP];exact YE.out
 have a3:(kM (aU kd) st').out.length+(s.size-(kM (aU kd) st').p)<=5000:=by rw[eP,eO];have:=HB.out.2.2.2.2;have:=YE.out;omega
 have hmo:=HMONO.out (kM (aU kd) st') a1 a2;rw[eP,eO]at hmo;have hcall:=HITM.out (kM (aU kd) st') v' (qs++ms) w5 HK5.out.rd (Vz hB HK5.out.went.onl.size) a1 a2 a3;obtain⟨y,hy⟩:=eQx (it (kM (aU kd) st'));rw[<-hy]at hmo hcall EQ;have HMO:=aj hmo;have XX:=aj hcall;clear hr5 hg5 hk5 hc XP eP eO a1 a2 a3 hmo hcall hy;go_wp2_with fail;refine XX.out.mono ?_;rintro e w6 ⟨v6,ns6,rfl,hF6,YH,hn6⟩;have HK6:=aj (HK5.out.more HWB.out hF6 YH hn6);clear hF6 YH hn6 XX HK5;obtain⟨W7,Z6⟩:=eQx (w6.alloc (.cells #[.int .i64 y.1] 2));have HO7:Hid (W7.ownsRow w.heap.size 2 1 u6 zs.length (ints zs)):=by rw[Z6];exact HK6.out.own.alloc _
 have HN7:Hid (∀j u,[Value.int .i64 y.1][j]?=some u->W7.cell? ((⟨w6.heap.size,0,none⟩:Addr).add j)=some u):=by rw[Z6];exact Qb w6 _ _ rfl
 have HS7:Hid (w.heap.size<=W7.heap.size):=by show _<=_;rw[Z6];exact Vz HK6.out.went.onl.size (World.grownBy_alloc w6 _ none).size
 have HW7:=aj Z6;have hzl:zs.length<=1001:=by have:=HB.out.2.2.2.1;have:=HB.out.1;omega
 go_wp2_with(at_builtin;rw[<-Z6];clear Z6;refine wpList_append_own_at _ rfl _ _ 41 rfl w.heap.size 2 iI (.int .i64 0) 1 8 underlying41 YP.out.1 YP.out.2.1 YP.out.2.2.1 YP.out.2.2.2 rfl (by decide) u6 zs.length (ints zs) rfl HO7.out ⟨w6.heap.size,0,none⟩ 1 1 [Value.int .i64 y.1] rfl rfl HN7.out (by intro u hu;simp at hu;subst hu;rfl) (by unfold maxLen;omega) (by omega) HS7.out ?_);intro vN w8 Z9 hgr8 _ hat8;have HK8:Hid (KLr w w8 R s y.2 base v v6 qs (ms++ns6) (zs++[y.1]) vN):=by
  rw[HW7.out]at hgr8 hat8;exact HK6.out.app HWB.out y.1 _ Z9 hgr8 hat8
 have HM:Hid (s.size-wat R w8<s.size-wat R w'):=by
  show _<_;rw[HK8.out.rd.rd.place,HPL.out];have:=HMO.out.1;have:=HMO.out.2.1;have:=YE.out;omega
 clear Z9 hgr8 hat8 HO7 HN7 HS7 HW7 HK6;go_wp2;go_roundw;case rel=>exact⟨m,zs++[y.1],y.2,v6,ms++ns6,⟨HMO.out.2.1,by have:=HMO.out.1;have:=HB.out.2.1;omega,by have:=HB.out.2.2.1;have:=HMO.out.1;have:=HMO.out.2.1;omega,by have:=HB.out.2.2.2.1;have:=HMO.out.1;rw[VD,VT];omega,by have:=HB.out.2.2.2.2;have:=HMO.out;omega⟩,EQ.out,HK8.out⟩
 exact HM.out
theorem DF{s:ByteArray}{st:RS}(h:st.p<=s.size):st.p<=(bu s st).p/\(bu s st).p<=s.size:=⟨Nat.le_add_right _ _,kN s st.p h⟩
theorem Ff{s:ByteArray}{st:RS}(h:st.p<=s.size):st.p<=(aT s st).p/\(aT s st).p<=s.size/\(aT s st).out=st.out:=by
 unfold aT;cases e:lQ s vP st;case false=>exact⟨Vu _,h,rfl⟩
 have h1:st.p+1<=s.size:=lm e;have:=kN s (st.p+1) h1;exact⟨by show st.p<=st.p+1+ax s (st.p+1);omega,this,rfl⟩
theorem DI{s:ByteArray}:∀(n:Nat) (xs:Q0a) (st:RS),st.p<=s.size->st.p<=(dH s n xs st).2.p/\(dH s n xs st).2.p<=s.size/\(dH s n xs st).2.out=st.out:=by
 intro n
 induction n with
 | zero=>intro xs st h;exact⟨Vu _,h,rfl⟩
 | succ n ih =>
  intro xs st h;have h1:=DF h;have h2:=Ff h1.2;have h3:(aT s (bu s st)).out=st.out:=h2.2.2;unfold dH;by_cases hb:st.bad=true
  ·rw[if_pos hb];exact⟨Vu _,h,rfl⟩
  rw[if_neg hb];by_cases hc:lQ s fH (aT s (bu s st))=true
  ·rw[if_pos hc];have h4:(aT s (bu s st)).p+1<=s.size:=lm hc;exact⟨by show st.p<=(aT s (bu s st)).p+1;omega,h4,h3⟩
  rw[if_neg hc];by_cases hm:lQ s mR (aT s (bu s st))=true
  ·rw[if_pos hm];have h4:(aT s (bu s st)).p+1<=s.size:=lm hm;obtain⟨a,b,c⟩:=ih (xs++[⟨aA s st.p,ze s (bu s st)⟩]) (kM mR (aT s (bu s st))) h4;have a':(aT s (bu s st)).p+1<=_:=a;exact⟨by omega,b,c.trans h3⟩
  rw[if_neg hm];obtain⟨a,b,c⟩:=ih (xs++[⟨aA s st.p,ze s (bu s st)⟩]) (vQ (aT s (bu s st))) h2.2.1;have a':(aT s (bu s st)).p<=_:=a;exact⟨by omega,b,c.trans h3⟩
def A7(s:ByteArray)(k:Nat)(st st':RS):Prop:=st.p<=st'.p/\st'.p<=s.size/\st'.out.length+st.p<=st.out.length+k+st'.p
theorem Nk{s:ByteArray}{st:RS}(h:lQ s fU st=true):A7 s 1 st (qZ s st).2:=by
 have h1:(kM fU st).p<=s.size:=lm h;obtain⟨a,b,c⟩:=DI (s:=s) (s.size+1) [] (kM fU st) h1;have a':st.p+5<=_:=a;have c':_=st.out:=c;unfold qZ A7;cases e:dH s (s.size+1) [] (kM fU st) with
 | mk o st' =>
  rw[e]at a' b c';replace a':st.p+5<=st'.p:=a';replace b:st'.p<=s.size:=b;replace c':st'.out=st.out:=c';cases o with
  | none=>exact⟨by show st.p<=st'.p;omega,b,by show st'.out.length+_<=_+_+st'.p;rw[c'];omega⟩
  | some xs=>exact⟨by show st.p<=st'.p;omega,b,by show(st'.out++_).length+_<=_+_+st'.p;rw[c',VD,VT];omega⟩
theorem Qc{s:ByteArray}{st:RS}(h:st.p<=s.size):A7 s 1 st (sV (fE s st) (judged (fE s st) (aH s st))):=by
 have h1:=DF h;have key:st.p<=(aH s st).p/\(aH s st).p<=s.size/\(aH s st).out=st.out:=by
  unfold aH;cases e:lQ s pY (bu s st);case false=>exact⟨h1.1,h1.2,rfl⟩
  have h2:st.p+ax s st.p+2<=s.size:=lm e;have:=kN s _ h2;exact⟨by show st.p<=st.p+ax s st.p+2+ax s (st.p+ax s st.p+2);omega,this,rfl⟩
 have key2:(judged (fE s st) (aH s st)).p=(aH s st).p/\(judged (fE s st) (aH s st)).out=st.out:=by
  unfold judged;split
  ·exact⟨rfl,key.2.2⟩
  exact⟨rfl,key.2.2⟩
 refine⟨?_,?_,?_⟩
 ·show st.p<=(judged (fE s st) (aH s st)).p;rw[key2.1];exact key.1
 ·show(judged (fE s st) (aH s st)).p<=_;rw[key2.1];exact key.2.1
 show((judged (fE s st) (aH s st)).out++_).length+_<=_+1+(judged (fE s st) (aH s st)).p;rw[key2.1,key2.2,VD,VT];have:=key.1;omega
theorem Nl{s:ByteArray}{st:RS}{x:Int×RS}(h:A7 s 1 (kM jR st) x.2):A7 s 1 st (uI s x).2:=by
 obtain⟨a,b,c⟩:=h;replace a:st.p+1<=x.2.p:=a;replace c:x.2.out.length+(st.p+1)<=st.out.length+1+x.2.p:=c;unfold uI;cases e:lQ s fH x.2;case false=>exact⟨by show st.p<=x.2.p;omega,b,by show x.2.out.length+st.p<=_+1+x.2.p;omega⟩
 have h2:x.2.p+1<=s.size:=lm e;exact⟨by show st.p<=x.2.p+1;omega,h2,by show x.2.out.length+st.p<=_+1+(x.2.p+1);omega⟩
theorem Nn{s:ByteArray}{it:RS->Int×RS}{k:Int}(hit:∀st,st.p<=s.size->A7 s 1 st (it st).2):∀(n:Nat) (zs:List Int) (st:RS),st.p<=s.size->A7 s 0 st (iJ s it k n zs st).2/\(0<n->lQ s (aU k) st=true->(iJ s it k n zs st).2.out.length+st.p+2<=st.out.length+(iJ s it k n zs st).2.p):=by
 intro n
 induction n with
 | zero=>intro zs st h;exact⟨⟨Vu _,h,Vu _⟩,fun h=>absurd h (by omega)⟩
 | succ n ih =>
  intro zs st h;unfold iJ;cases e:lQ s (aU k) st;case false=>exact⟨⟨Vu _,h,Vu _⟩,fun _ h=>by cases h⟩
  have h1:st.p+3<=s.size:=by have:=lm e;rw[mX]at this;exact this
  have eP:(kM (aU k) st).p=st.p+3:=by unfold kM;rw[mX]
  have eO:(kM (aU k) st).out=st.out:=rfl;obtain⟨a,b,c⟩:=hit (kM (aU k) st) (by rw[eP];exact h1);rw[eP]at a c;rw[eO]at c;obtain⟨⟨a2,b2,c2⟩,-⟩:=ih (zs++[(it (kM (aU k) st)).1]) (it (kM (aU k) st)).2 b;simp only[if_true];exact⟨⟨by omega,b2,by omega⟩,fun _ _=>by omega⟩
theorem J7{s:ByteArray}{p:Nat}(h:dI s p≠0):eH s (aU (dI s p)) p=true:=by
 unfold dI at h⊢;cases h1:eH s (aU 4) p;case true=>simpa using h1
 cases h2:eH s (aU 5) p;case true=>simpa[h1] using h2
 cases h3:eH s (aU 6) p;case true=>simpa[h1,h2] using h3
 simp[h1,h2,h3]at h
theorem R7{s:ByteArray}{it:RS->Int×RS}(hit:∀st,st.p<=s.size->A7 s 1 st (it st).2){st:RS}{x:Int×RS}(h:A7 s 1 st x.2):A7 s 1 st (rowP s it x).2:=by
 unfold rowP;by_cases hc:dI s x.2.p=0\/x.2.bad=true
 ·rw[if_pos hc];exact h
 rw[if_neg hc];have hsg:dI s x.2.p≠0:=fun e=>hc (.inl e)
 have hbd:x.2.bad=false:=by cases e:x.2.bad with
  | false=>rfl
  | true=>exact absurd (.inr e) hc
 have hyes:lQ s (aU (dI s x.2.p)) x.2=true:=by unfold lQ;rw[hbd,J7 hsg];rfl
 obtain⟨⟨a,b,c⟩,d⟩:=Nn hit (k:=dI s x.2.p) (s.size+1) [x.1] x.2 h.2.1;have d:=d (by omega) hyes;obtain⟨a1,b1,c1⟩:=h;refine⟨?_,b,?_⟩
 ·show st.p<=(iJ s it (dI s x.2.p) (s.size+1) [x.1] x.2).2.p;omega
 show((iJ s it (dI s x.2.p) (s.size+1) [x.1] x.2).2.out++_).length+_<=_+1+(iJ s it (dI s x.2.p) (s.size+1) [x.1] x.2).2.p;rw[VD,VT];omega
theorem A8{s:ByteArray}{n:Nat}{st:RS}(h:lQ s fU st=true):AL s (n+1) false st=qZ s st:=by
 unfold AL qZ;rw[if_pos h]
 try(rcases dH s (s.size+1) [] (kM fU st) with⟨_|_,st'⟩<;>rfl)
theorem A9{s:ByteArray}{n:Nat}{st:RS}(h:lQ s fU st=false)(h2:lQ s jR st=true):AL s (n+1) false st=uI s (AL s n true (kM jR st)):=by
 conv=>lhs;unfold AL
 rw[if_neg (by rw[h];decide),if_pos h2];rfl
theorem Ba{s:ByteArray}{n:Nat}{st:RS}(h:lQ s fU st=false)(h2:lQ s jR st=false):AL s (n+1) false st=((st.out.length:Int),sV (fE s st) (judged (fE s st) (aH s st))):=by
 unfold AL;rw[if_neg (by rw[h];decide),if_neg (by rw[h2];decide)]
theorem Fg{s:ByteArray}{n:Nat}{st:RS}:AL s (n+1) true st=rowP s (AL s n false) (AL s n false st):=by
 conv=>lhs;unfold AL
 rfl
theorem sD{s:ByteArray}:∀(n:Nat) (b:Bool) (st:RS),st.p<=s.size->A7 s 1 st (AL s n b st).2:=by
 intro n
 induction n with
 | zero=>intro b st h;cases b<;>exact⟨Vu _,h,by show st.out.length+st.p<=st.out.length+1+st.p;omega⟩
 | succ n ih =>
  intro b st h;cases b;case true=>rw[Fg];exact R7 (fun st' h'=>ih false st' h') (ih false st h)
  cases h1:lQ s fU st;case true=>rw[A8 h1];exact Nk h1
  cases h2:lQ s jR st;case true=>rw[A9 h1 h2];exact Nl (ih true (kM jR st) (lm h2))
  rw[Ba h1 h2];exact Qc h
theorem Qd(R:Nat)(s:bi)(base:Nat)(hR:R<base)(hs:s.size<=1000):∀n:Nat,
  (∀ (st:RS) (v:Value) (qs:Q08) (w:World),RdF w R s st base v qs->base<=w.heap.size->st.p<=s.size->st.out.length+(s.size-st.p)<=5000->2*(s.size-st.p)<n ->
   Calls prog 324 #[.pointer (some ⟨R,0,none⟩)] w (vT R s base v qs w (AL s n false st))) /\
  (∀ (st:RS) (v:Value) (qs:Q08) (w:World),RdF w R s st base v qs->base<=w.heap.size->st.p<=s.size->st.out.length+(s.size-st.p)<=5000->2*(s.size-st.p)+1<n ->
   Calls prog 297 #[.pointer (some ⟨R,0,none⟩)] w (vT R s base v qs w (AL s n true st))):=by
 intro n
 induction n with
 | zero=>exact⟨fun _ _ _ _ _ _ _ _ h=>absurd h (by omega),fun _ _ _ _ _ _ _ _ h=>absurd h (by omega)⟩
 | succ n ih =>
  refine⟨fun st v qs w h hB hp hb hn=>?_,fun st v qs w h hB hp hb hn=>?_⟩
  ·have hlen:qs.length=st.out.length:=by rw[<-h.out];simp[ai]
   cases h1:lQ s fU st;case true=>rw[A8 h1];exact Ng R s st base v qs w h hR hB hs hp (by omega) h1
   cases h2:lQ s jR st;case true=>
    rw[A9 h1 h2];have h3:st.p+1<=s.size:=lm h2;have h4:(kM jR st).p=st.p+1:=rfl;exact PY R s st base v qs w h hR hs hp h1 h2 _ (sD n true (kM jR st) h3).2.1 fun w1 hw1 hsz=>ih.2 (kM jR st) v qs w1 hw1 (Vz hB hsz) h3 (by rw[h4];show st.out.length+_<=_;omega) (by rw[h4];omega)
   rw[Ba h1 h2];exact Na R s st base v qs w h hR hB hs hp (by omega) h1 h2
  rw[Fg];obtain⟨a,b,c⟩:=sD (s:=s) n false st hp;refine R6 R s st base v qs w h hR hB hs _ b (ih.1 st v qs w h hB hp hb (by omega)) _ (by omega) (fun st' v' Y8 w' h' hB' h1 h2 h3=>ih.1 st' v' Y8 w' h' hB' h2 h3 (by omega)) (fun st' h1 h2=>?_);obtain⟨a2,b2,c2⟩:=sD (s:=s) n false st' h2;exact⟨a2,b2,c2⟩
def UX(s:ByteArray)(a:Al):Prop:=a.t.size<=s.size/\a.s.size<=s.size
def Jc(s:ByteArray)(e:Ex):Prop:=e.allow.length<=s.size+1/\(∀a∈e.allow,UX s a)/\e.over.size<=s.size/\e.name.size<=s.size/\e.kids.length<=s.size+2
theorem ru(s:bi)(p:Nat):(aA s p).size<=s.size:=by
 unfold aA;rw[ByteArray.size_extract];omega
theorem R8(s:bi)(st:RS):(ze s st).size<=s.size:=by
 unfold ze;split
 ·exact ru s _
 exact Vy _
theorem Np{s:ByteArray}:∀(n:Nat) (xs:Q0a) (st:RS) (ys:Q0a),(∀a∈xs,UX s a)->(dH s n xs st).1=some ys->ys.length<=xs.length+n/\∀a∈ys,UX s a:=by
 intro n
 induction n with
 | zero=>intro xs st ys _ h;cases h
 | succ n ih =>
  intro xs st ys hx h;have hx2:∀a∈xs++[(⟨aA s st.p,ze s (bu s st)⟩:Al)],UX s a:=by
   intro a ha;rcases VJ.1 ha with h1|h1
   ·exact hx a h1
   rw[VO]at h1;subst h1;exact⟨ru s _,R8 s _⟩
  unfold dH at h;by_cases hb:st.bad=true
  ·rw[if_pos hb]at h;cases h
  rw[if_neg hb]at h;by_cases hc:lQ s fH (aT s (bu s st))=true
  ·rw[if_pos hc]at h;injection h with h;subst h;exact⟨by rw[VD,VT];omega,hx2⟩
  rw[if_neg hc]at h;have fin:∀st',(dH s n (xs++[⟨aA s st.p,ze s (bu s st)⟩]) st').1=some ys->ys.length<=xs.length+(n+1)/\∀a∈ys,UX s a:=fun st' h'=>by
   obtain⟨a,b⟩:=ih _ st' ys hx2 h';rw[VD,VT]at a;exact⟨by omega,b⟩
  by_cases hm:lQ s mR (aT s (bu s st))=true
  ·rw[if_pos hm]at h;exact fin _ h
  rw[if_neg hm]at h;exact fin _ h
theorem Fh{s:ByteArray}{x:Ex}{st:RS}(h:∀e∈st.out,Jc s e)(hx:Jc s x):∀e∈(sV x st).out,Jc s e:=by
 intro e he;rcases VJ.1 he with h1|h1
 ·exact h e h1
 rw[VO]at h1;subst h1;exact hx
theorem Qe{s:ByteArray}{st:RS}(hp:st.p+5<=s.size)(h:∀e∈st.out,Jc s e):∀e∈(qZ s st).2.out,Jc s e:=by
 have hc:=(DI (s:=s) (s.size+1) [] (kM fU st) hp).2.2;have hs:=Np (s:=s) (s.size+1) [] (kM fU st);unfold qZ;cases e:dH s (s.size+1) [] (kM fU st) with
 | mk o st' =>
  rw[e]at hc hs;have hc':st'.out=st.out:=hc;cases o with
  | none=>show ∀e∈st'.out,Jc s e;rw[hc'];exact h
  | some xs =>
   obtain⟨a,b⟩:=hs xs (fun a ha=>by cases ha) rfl;exact Fh (by rw[hc'];exact h) ⟨by simpa using a,b,Vy _,Vy _,Vy _⟩
theorem R9{s:ByteArray}{st:RS}(h:∀e∈st.out,Jc s e):∀e∈(sV (fE s st) (judged (fE s st) (aH s st))).out,Jc s e:=by
 have h1:(judged (fE s st) (aH s st)).out=st.out:=by
  have h2:(aH s st).out=st.out:=by unfold aH;split<;>rfl
  unfold judged;split<;>exact h2
 refine Fh (by rw[h1];exact h) ?_;unfold fE;split
 ·exact⟨Vy _,fun a ha=>(by cases ha),ru s _,ru s _,Vy _⟩
 exact⟨Vy _,fun a ha=>(by cases ha),Vy _,ru s _,Vy _⟩
theorem Qf{s:ByteArray}{it:RS->Int×RS}{k:Int}(hit:∀st,(∀e∈st.out,Jc s e)->st.p<=s.size->(∀e∈(it st).2.out,Jc s e)/\(it st).2.p<=s.size):∀(n:Nat) (zs:List Int) (st:RS),(∀e∈st.out,Jc s e)->st.p<=s.size->(∀e∈(iJ s it k n zs st).2.out,Jc s e)/\(iJ s it k n zs st).1.length<=zs.length+n:=by
 intro n
 induction n with
 | zero=>intro zs st h _;exact⟨h,Vu _⟩
 | succ n ih =>
  intro zs st h hp;unfold iJ;cases e:lQ s (aU k) st;case false=>exact⟨h,Nat.le_add_right _ _⟩
  have h1:(kM (aU k) st).p<=s.size:=lm e;obtain⟨a,b⟩:=hit (kM (aU k) st) h h1;obtain⟨a2,b2⟩:=ih (zs++[(it (kM (aU k) st)).1]) _ a b;rw[VD,VT]at b2;exact⟨a2,by simp only[if_true];omega⟩
theorem Qg{s:ByteArray}:∀(n:Nat) (b:Bool) (st:RS),st.p<=s.size->(∀e∈st.out,Jc s e)->∀e∈(AL s n b st).2.out,Jc s e:=by
 intro n
 induction n with
 | zero=>intro b st _ h;cases b<;>exact h
 | succ n ih =>
  intro b st hp h;cases b;case true=>
   rw[Fg];unfold rowP;have hx:=ih false st hp h;have hxp:=(sD (s:=s) n false st hp).2.1;split
   ·exact hx
   obtain⟨a,b⟩:=Qf (s:=s) (it:=AL s n false) (k:=dI s (AL s n false st).2.p) (fun st' h1 h2=>⟨ih false st' h2 h1,(sD (s:=s) n false st' h2).2.1⟩) (s.size+1) [(AL s n false st).1] (AL s n false st).2 hx hxp;exact Fh a ⟨Vy _,fun a ha=>(by cases ha),Vy _,Vy _,Vz b (by simp only[VT];omega)⟩
  cases h1:lQ s fU st;case true=>rw[A8 h1];exact Qe (lm h1) h
  cases h2:lQ s jR st;case true=>
   rw[A9 h1 h2];have hx:=ih true (kM jR st) (lm h2) h;unfold uI;split
   ·exact hx
   exact hx
  rw[Ba h1 h2];exact R9 h
theorem Jc.light{s:ByteArray}{e:Ex}(h:Jc s e)(hs:s.size<=1000):e.light/\e.fits:=by
 obtain⟨h1,h2,h3,h4,h5⟩:=h;refine⟨⟨by omega,by omega⟩,⟨fun a ha=>⟨?_,?_⟩,?_,?_,?_,?_⟩⟩<;>unfold maxLen
 ·have:=(h2 a ha).1;omega
 ·have:=(h2 a ha).2;omega
 all_goals omega
def kP(s:ByteArray):RS:=(AL s (2*s.size+2) true ⟨0,false,[]⟩).2
def mY(s:ByteArray):Bool:=decide (s.size<=1000) && !(kP s).bad && !decide ((kP s).p<s.size)&&aI (kP s).out&&((dK (kP s).out).toList==s.toList)
def UY(s:ByteArray)(w:World)(e:Ending)(w':World):Prop :=
 ag w w'/\((mY s=false/\e=.returned (.tuple #[.slice none 0 0,.bool false]))\/(mY s=true/\∃(v:Value) (R:Nat) (qs:Q08),e=.returned (.tuple #[v,.bool true])/\RdF w' R s (kP s) (w.heap.size+1) v qs))
theorem Qh(w:af)(s:bi):RdF (w.alloc (.cells #[.string s,.int .i64 0,.bool false,.slice none 0 0] 372)) w.heap.size s ⟨0,false,[]⟩ (w.heap.size+1) (.slice none 0 0) []:=by
 refine⟨⟨by simp,by simp,by simp,by simp,by simp,fun j=>by simp⟩,World.ownsRow_nil _ _ _ _,rfl,?_,?_,?_,?_,?_,?_,?_,?_⟩
 ·intro q hq;cases hq
 ·intro q hq;cases hq
 ·intro q hq;cases hq
 ·intro q hq;cases hq
 ·intro q hq;cases hq
 ·intro x y hx;exact absurd hx (by simp)
 ·intro q hq;cases hq
 intro q hq;cases hq
theorem RdF.slE{w:af}{R:Nat}{s:ByteArray}{st:RS}{base:Nat}{v:Value}{qs:Q08}(h:RdF w R s st base v qs):∃ad cap,v=.slice ad qs.length cap/\jo w ad qs:=GR h.own rfl h.ok
theorem RdF.later{w w':af}{R:Nat}{s:ByteArray}{st:RS}{base:Nat}{v:Value}{qs:Q08}(h:RdF w R s st base v qs)(hb:ag w w'):RdF w' R s st base v qs :=
 h.heap hb.size (hb.block R h.rd.lt) (fun g hg=>hb.block g (h.own.lt g hg).2) (fun q hq g hi=>hb.block g (h.lie q hq g hi).2.1)
theorem xR(s:bi)(w:af):Calls prog 263 #[.string s] w (UY s w):=by
 by_cases hs:s.size<=1000
 ·have hd0:decide ((1000:Int)<(s.size:Int))=false:=by simp;omega
  have HRD:=aj (Qh w s);have XX:=aj ((Qd w.heap.size s (w.heap.size+1) (by omega) hs (2*s.size+2)).2 ⟨0,false,[]⟩ (.slice none 0 0) [] _ HRD.out (by simp) (Vy _) (by simp;omega) (by simp));have YL:Hid (∀e∈(kP s).out,e.light/\e.fits):=fun e he=>(Qg (s:=s) _ true ⟨0,false,[]⟩ (Vy _) (fun e he=>by cases he) e he).light hs;have ZZ:=aj (sD (s:=s) (2*s.size+2) true ⟨0,false,[]⟩ (Vy _));go_enter func263,ntmps263;go_wp2_with fail;refine XX.out.mono ?_;rintro e w1 ⟨v1,qs,rfl,hF1,hW1,-⟩;replace hF1:RdF w1 w.heap.size s (kP s) (w.heap.size+1) v1 qs:=hF1;have Ya:=aj hF1;have HB1:Hid (ag w w1):=⟨hW1.onl.os,hW1.onl.tape,hW1.onl.output,by have:=hW1.onl.size;simp at this;omega,fun k hk=>(hW1.onl.block k (by simp;omega) (by omega) (by simp[Value.ownBlock])).trans ((World.grownBy_alloc w _ none).block k hk (by simp))⟩;obtain⟨ad,cap,rfl,hsl⟩:=hF1.slE;have Y4:=aj hsl;have HOUT:=aj hF1.out;have hql:qs.length<=1048576:=by
   have h2:=congrArg List.length hF1.out;simp only[ai,Wp]at h2;have h3:(kP s).out.length+0<=0+1+(kP s).p:=ZZ.out.2.2;have h4:(kP s).p<=s.size:=ZZ.out.2.1;omega
  have HL:Hid (∀r∈qs,r.e.light):=fun r hr=>(YL.out r.e (by rw[<-HOUT.out];exact VE.2 ⟨r,hr,rfl⟩)).1;have HF:Hid (∀r∈qs,r.e.fits):=fun r hr=>(YL.out r.e (by rw[<-HOUT.out];exact VE.2 ⟨r,hr,rfl⟩)).2;have ZW:Hid (mY s=(!(kP s).bad && !decide ((kP s).p<s.size)&&aI (kP s).out&&((dK (kP s).out).toList==s.toList))):=by show _=_;unfold mY;simp[hs]
  have c1:=hF1.rd.c1;have c2:=hF1.rd.c2;have c3:=hF1.rd.c3;clear hF1 hW1 hsl XX HRD YL ZZ;cases hb:(kP s).bad;case true=>
   rw[hb]at c2;have EQ:Hid (mY s=false):=by show _=_;rw[ZW.out,hb];rfl
   go_wp2;exact bodyPost_ret (v:=.tuple #[.slice none 0 0,.bool false]) (by simp[results,Tryz.results263,go_sem]) rfl ⟨HB1.out,.inl ⟨EQ.out,rfl⟩⟩
  rw[hb]at c2;by_cases hlt:(kP s).p<s.size
  ·have hd1:decide (((kP s).p:Int)<(s.size:Int))=true:=by simp;omega
   have EQ:Hid (mY s=false):=by show _=_;rw[ZW.out,hb,decide_eq_true hlt];rfl
   go_wp2;exact bodyPost_ret (v:=.tuple #[.slice none 0 0,.bool false]) (by simp[results,Tryz.results263,go_sem]) rfl ⟨HB1.out,.inl ⟨EQ.out,rfl⟩⟩
  have hd1:decide (((kP s).p:Int)<(s.size:Int))=false:=by simp;omega
  go_wp2_with fail;refine(mV ad cap qs w1 hql HL.out HF.out Y4.out).mono ?_;rintro e w2 ⟨rfl,hB2⟩;have XU:=aj (Ya.out.later hB2);have HB2:=aj (HB1.out.trans (hB2.mono HB1.out.size));have HSL2:=aj (Y4.out.below hB2);have k3:=XU.out.rd.c3;rw[HOUT.out];clear hB2;cases he:aI (kP s).out;case false=>
   have EQ:Hid (mY s=false):=by show _=_;rw[ZW.out,hb,decide_eq_false hlt,he];rfl
   go_wp2;exact bodyPost_ret (v:=.tuple #[.slice none 0 0,.bool false]) (by simp[results,Tryz.results263,go_sem]) rfl ⟨HB2.out,.inl ⟨EQ.out,rfl⟩⟩
  go_wp2_with fail;refine(kv ad cap qs w2 hql HL.out HF.out HSL2.out).mono ?_;rintro e w3 ⟨rfl,hB3⟩;have Z0:=aj (XU.out.later hB3);have HB3:=aj (HB2.out.trans (hB3.mono HB2.out.size));have q3:=Z0.out.rd.c3;rw[HOUT.out];clear hB3;cases ht:(dK (kP s).out).toList==s.toList;case false=>
   have ht2:(!(dK (kP s).out).toList==s.toList)=true:=by rw[ht];rfl
   have EQ:Hid (mY s=false):=by show _=_;rw[ZW.out,ht,Bool.and_false]
   go_wp2;exact bodyPost_ret (v:=.tuple #[.slice none 0 0,.bool false]) (by simp[results,Tryz.results263,go_sem]) rfl ⟨HB3.out,.inl ⟨EQ.out,rfl⟩⟩
  have ht2:(!(dK (kP s).out).toList==s.toList)=false:=by rw[ht];rfl
  have EQ:Hid (mY s=true):=by show _=_;rw[ZW.out,hb,decide_eq_false hlt,he,ht];rfl
  go_wp2;exact bodyPost_ret (v:=.tuple #[.slice ad qs.length cap,.bool true]) (by simp[results,Tryz.results263,go_sem]) rfl ⟨HB3.out,.inr ⟨EQ.out,_,_,qs,rfl,Z0.out⟩⟩
 have hd0:decide ((1000:Int)<(s.size:Int))=true:=by simp;omega
 have EQ:Hid (mY s=false):=by show _=_;unfold mY;rw[decide_eq_false hs];rfl
 go_enter func263,ntmps263;go_wp2;exact bodyPost_ret (v:=.tuple #[.slice none 0 0,.bool false]) (by simp[results,Tryz.results263,go_sem]) rfl ⟨Vv _ _,.inl ⟨EQ.out,rfl⟩⟩
theorem DJ(x y:Al):kF x y=kF y x:=by
 unfold kF;rw[VR];simp only[Vw,beq_iff_eq];exact⟨fun h=>⟨h.1.symm,h.2.symm⟩,fun h=>⟨h.1.symm,h.2.symm⟩⟩
theorem Nq(ad:Q02)(n cap:Nat)(xs:Q0a)(v:Al)(w:af)(hn:n<=xs.length)(hlen:xs.length<=1048576)(hs:kD w ad xs):
  Calls prog 221 #[.slice ad n cap,.agg #[.string v.t,.string v.s]] w fun e w'=>(∃r:Int,e=.returned (.int .i64 r)/\decide (0<=r)=dJ xs n v)/\ag w w':=by
 obtain⟨W,hW⟩:=eQx (w.alloc (.cells #[.string v.t,.string v.s] 216));have HB0:Hid (ag w W):=by show Below _ _ _;rw[hW];exact(Vv w.heap.size w).alloc (Vu _) _
 have hz:w.heap.size<W.heap.size:=by rw[hW];simp
 have b0:W.cell? ⟨w.heap.size,0,none⟩=some (.string v.t):=by rw[hW];simp
 have b1:W.cell? ⟨w.heap.size,1,none⟩=some (.string v.s):=by rw[hW];simp
 have HS:=az (hs.below HB0.out);clear hs;go_enter func221,ntmps221;go_wp2_with fail;rw[<-hW];clear hW;go_loopw[8] (fun i wr=>∃k:Nat,k<=n/\i=.int .i64 k/\Hid (dJ xs k v=false)/\ag W wr) (fun i _=>n-(intOf i).toNat);case atStart=>exact⟨0,Vy _,rfl,ul _ _,Vv _ _⟩
 obtain⟨k,hk,rfl,HP,hB⟩:=hrel;have a0:=kept hB hz b0;have a1:=kept hB hz b1;by_cases hlt:k<n
 ·have hltx:k<xs.length:=by omega
  rcases HS.out.below hB with rfl|⟨b,off,rfl,hb,hr⟩
  ·simp at hltx
  obtain⟨t0,t1⟩:=hr k hltx;have hk1:=bI k;have hk2:(k:Int)<(n:Int):=by omega
  clear hr;cases hq:kF v xs[k];case true=>
   have HE:=EG v xs[k] hq;have HN:Hid (dJ xs n v=true):=Dg hlt hltx (by rw[DJ];exact hq);go_wp2_with fail;go_quiet (fail);go_wp2;go_ret;exact⟨⟨_,rfl,by rw[HN.out];simp⟩,HB0.out.trans (below_drewN (hB.mono HB0.out.size) _)⟩
  have HE:=EG v xs[k] hq;have WQ:Hid (dJ xs (k+1) v=false):=by show _=_;rw[uk _ _ _ hltx,HP.out,DJ,hq];rfl
  go_wp2_with fail;go_quiet (fail);go_wp2;go_roundw;case rel=>exact⟨k+1,by omega,by go_num,WQ,below_drewN hB _⟩
  simp[intOf]<;>omega
 obtain rfl:k=n:=by omega
 go_wp2;go_ret;exact⟨⟨-1,rfl,by rw[HP.out];rfl⟩,HB0.out.trans (hB.mono HB0.out.size)⟩
theorem vX(ad:Q02)(n cap:Nat)(xs:Q0a)(v:Al)(w:af)(hn:n<=xs.length)(hlen:xs.length<=1048576)(hs:kD w ad xs):
  Calls prog 149 #[.slice ad n cap,.agg #[.string v.t,.string v.s]] w fun e w'=>e=.returned (.bool (dJ xs n v))/\ag w w':=by
 have HB0:Hid (ag w (w.alloc (.cells #[.string v.t,.string v.s] 216))):=(Vv w.heap.size w).alloc (Vu _) _;have HS:=az hs;clear hs;go_enter func149,ntmps149;go_wp2_with fail;refine(Nq ad n cap xs v _ hn hlen (HS.out.below HB0.out)).mono ?_;rintro e w1 ⟨⟨r,rfl,hr⟩,hb1⟩;have HR:Hid (decide (0<=r)=dJ xs n v):=hr;have HB1:=iX HB0 hb1;clear hr hb1;go_wp2;go_ret;exact⟨ah HR.out,HB1.out⟩
set_option maxRecDepth 8000 in
theorem Fj(r:ER)(w:af)(hf:r.e.fits)(h1:r.e.kind≠1):
  Calls prog 250 #[r.val] w fun e w'=>e=.returned (.bool (av r.e))/\ag w w':=by
 obtain⟨⟨kind,allow,over,name,kids⟩,adA,capA,adK,capK⟩:=r;obtain⟨f1,f2,f3,f4,f5⟩:=hf;simp only at f1 f2 f3 f4 f5 h1;simp only[ER.val];unfold maxLen at f4 f5;by_cases h2:kind=2
 ·subst h2;clear h1;go_enter func250,ntmps250;go_wp2_with fail;go_quiet (fail);go_wp2_with(go_at_call 122;refine(aL _ _ (by assumption)).mono ?_;rintro e w' ⟨rfl,rfl⟩)
  all_goals go_ret
  all_goals exact⟨ah (by first|(simp[av, *];done)|(simp[av, *];omega)|(simp[av, *];rw[VR];simp;done)|(simp[av, *];rw[VR];simp;omega)),below_drewN ((Vv w.heap.size w).alloc (Vu _) _) _⟩
 by_cases h3:kind=3
 ·subst h3;clear h1;go_enter func250,ntmps250;go_wp2_with fail;go_quiet (fail);go_wp2_with(go_at_call 122;refine(aL _ _ (by assumption)).mono ?_;rintro e w' ⟨rfl,rfl⟩)
  all_goals go_ret
  all_goals exact⟨ah (by first|(simp[av, *];done)|(simp[av, *];omega)|(simp[av, *];rw[VR];simp;done)|(simp[av, *];rw[VR];simp;omega)),below_drewN ((Vv w.heap.size w).alloc (Vu _) _) _⟩
 by_cases h4:kind=4
 ·subst h4;clear h1;go_enter func250,ntmps250;go_wp2_with fail;go_quiet (fail);go_wp2_with(go_at_call 122;refine(aL _ _ (by assumption)).mono ?_;rintro e w' ⟨rfl,rfl⟩)
  all_goals go_ret
  all_goals exact⟨ah (by first|(simp[av, *];done)|(simp[av, *];omega)|(simp[av, *];rw[VR];simp;done)|(simp[av, *];rw[VR];simp;omega)),below_drewN ((Vv w.heap.size w).alloc (Vu _) _) _⟩
 by_cases h5:kind=5
 ·subst h5;clear h1;go_enter func250,ntmps250;go_wp2_with fail;go_quiet (fail);go_wp2_with(go_at_call 122;refine(aL _ _ (by assumption)).mono ?_;rintro e w' ⟨rfl,rfl⟩)
  all_goals go_ret
  all_goals exact⟨ah (by first|(simp[av, *];done)|(simp[av, *];omega)|(simp[av, *];rw[VR];simp;done)|(simp[av, *];rw[VR];simp;omega)),below_drewN ((Vv w.heap.size w).alloc (Vu _) _) _⟩
 by_cases h6:kind=6
 ·subst h6;clear h1;go_enter func250,ntmps250;go_wp2_with fail;go_quiet (fail);go_wp2_with(go_at_call 122;refine(aL _ _ (by assumption)).mono ?_;rintro e w' ⟨rfl,rfl⟩)
  all_goals go_ret
  all_goals exact⟨ah (by first|(simp[av, *];done)|(simp[av, *];omega)|(simp[av, *];rw[VR];simp;done)|(simp[av, *];rw[VR];simp;omega)),below_drewN ((Vv w.heap.size w).alloc (Vu _) _) _⟩
 go_enter func250,ntmps250;go_wp2_with fail;go_quiet (fail);go_wp2_with(go_at_call 122;refine(aL _ _ (by assumption)).mono ?_;rintro e w' ⟨rfl,rfl⟩)
 all_goals go_ret
 all_goals exact⟨ah (by first|(simp[av, *];done)|(simp[av, *];omega)|(simp[av, *];rw[VR];simp;done)|(simp[av, *];rw[VR];simp;omega)),below_drewN ((Vv w.heap.size w).alloc (Vu _) _) _⟩
end Go.Proofs.YtojjoblnpldniaaGreat
