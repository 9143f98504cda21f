/- The frame of a region's operations, read off the frame that stands there: the values of the operations in their places. -/
import Derived.Test.YtcgdckphpjfmhaaGreatDoorSq
import Derived.Test.YtcgdckphpjfmhaaGreatDoorJ1
import Derived.Lib.IndexMore
import Derived.Lib.IndexBytes
import Derived.Lib.Strings
import Derived.Below
import Derived.WideKeyEntry
import Derived.WalkArith
open Go.Proofs.Tryz
set_option maxHeartbeats 80000000
namespace Go.Proofs.YtcgdckphpjfmhaaGreatDoor
open RowKit
def zo(a:Act)(L:(Nat->Value)->List Value)(f:Nat->Value):Act:={ a with tmps:=(L f).toArray }
def RJ(f:Nat->Value):List Value->Nat->List Nat->List Value
 | _::l,0,k::ks=>f k::RJ f l 0 ks
 | v::l,n+1,ks=>v::RJ f l n ks
 | l,_,_=>l
def Ue(i:Nat):List Value->Nat->List Nat->Value
 | v::l,0,k::ks=>if i=k then v else Ue i l 0 ks
 | _::l,n+1,ks=>Ue i l n ks
 | _,_,_=>undef
def puts(f:Nat->Value):List (Nat×List Nat)->List Value->List Value
 | [],l=>l
 | (n,ks)::r,l=>puts f r (RJ f l n ks)
def olds(i:Nat):List (Nat×List Nat)->List Value->Value
 | [],_=>undef
 | (n,ks)::r,l=>if i∈ks then Ue i l n ks else olds i r l
theorem Ck{a:Act}{L:(Nat->Value)->List Value}(s:List (Nat×List Nat))(_hL:∀f,puts f s a.tmps.toList=L f:=by intro f;simp only[puts,RJ,List.toList_toArray];rfl)(hs:(L fun i=>olds i s a.tmps.toList).toArray=a.tmps:=by kernel_rfl):a=zo a L (fun i=>olds i s a.tmps.toList):=by
 unfold zo;rw[hs]
variable  {P:Program}{ops:Array Oper}{Q:Exit->Act->World->Prop}
def zL(ops:Array Oper):Bool:=(List.range ops.size).all (fun i=>(ops[i]?.map (fun o=>o.after.all (fun e=>!Region.binds .any e || decide (e.on<i)))).getD true)
theorem r9{ops:Array Oper}(h:zL ops=true):∀(i:Nat) (o:Oper),ops[i]?=some o->∀e∈o.after,Region.binds .any e=true->e.on<i:=by
 intro i o ho e he hb;rw[zL,Wq]at h;have h1:=h i (by simpa using (We.1 ho).1);rw[ho]at h1;simp only[Option.map_some,WO,Array.all_eq_true_iff_forall_mem]at h1;have h2:=h1 e he;rw[hb]at h2;simpa using h2
theorem qJ{listed:Array Bool}{n:Nat}(hr:Region.ready .any ops listed=[])(hs:ops.size=n)(Ym:∀(i:Nat) (o:Oper),ops[i]?=some o->∀e∈o.after,Region.binds .any e=true->e.on<i)(hsz:listed.size=n):∀i,i<n->listed.getD i true=true:=by
 intro i
 induction i using Nat.strongRecOn with
 | ind i ih =>
  intro hi;cases hl:listed.getD i true;case true=>rfl
  exfalso;have hmem:i∈Region.ready .any ops listed:=by
   refine mem_ready.2 ⟨hl,ops[i]'(by omega),WX (by omega),fun e he hb=>?_⟩;have hlt:=Ym i _ (WX (by omega)) e he hb;have:=ih e.on hlt (by omega);rw[Wz,WX (by omega)]at this ⊢;simpa using this
  rw[hr]at hmem;cases hmem
def zq(ops:Array Oper)(L:Nat):Bool:=(List.range L).all fun j=>(List.range (L+1)).any fun k=>decide (j<k)&&(ops[k]?.map (fun o=>o.after.any (fun e=>e.on==j&&Region.binds .any e))).getD false
theorem I1{ops:Array Oper}{L:Nat}(h:zq ops L=true):∀j,j<L->∃k o,j<k/\k<=L/\ops[k]?=some o/\∃e∈o.after,e.on=j/\Region.binds .any e=true:=by
 intro j hj;rw[zq,Wq]at h;have h1:=h j (List.mem_range.2 hj);rw[Xe]at h1;obtain⟨k,hk,h2⟩:=h1;simp only[V9,Wn]at h2;cases ho:ops[k]? with
 | none=>rw[ho]at h2;simp at h2
 | some o =>
  rw[ho]at h2;simp only[Option.map_some,WO]at h2;obtain⟨h3,h4⟩:=h2;rw[Array.any_eq_true']at h4;obtain⟨e,he,h5⟩:=h4;simp only[V9,beq_iff_eq]at h5;exact⟨k,o,h3,by have:=List.mem_range.1 hk;omega,ho,e,he,h5.1,h5.2⟩
def Shut(ops:Array Oper)(listed:Array Bool):Prop:=∀(k:Nat) (o:Oper),ops[k]?=some o->listed.getD k false=true->∀e∈o.after,Region.binds .any e=true->listed.getD e.on false=true
theorem OE{ops:Array Oper}{listed:Array Bool}{L:Nat}(hlo:zq ops L=true)(hS:Shut ops listed){o:Oper}(ho:ops[L]?=some o)(hpre:∀e∈o.after,Region.binds .any e=true->listed.getD e.on false=true):∀d j,j+d=L->j<L->listed.getD j false=true:=by
 intro d
 induction d using Nat.strongRecOn with
 | ind d ih =>
  intro j hjd hj;obtain⟨k,o',h1,h2,h3,e,he,h4,h5⟩:=I1 hlo j hj;by_cases hk:k=L
  ·subst hk;rw[ho]at h3;injection h3 with h3;subst h3;rw[<-h4];exact hpre e he h5
  have:=ih (L-k) (by omega) k (by omega) (by omega);rw[<-h4];exact hS k o' h3 this e he h5
theorem mD{id:Nat}{a:Act}{w:ae}(L:Nat)(f0:Nat->Value)(F:(Nat->Value)->Act)(V:Nat->Value->World->Prop)(G:Array Bool->World->Prop)
  (hm:P.follows .mixedOrders=true) (hsz:ops.size=L+1) (Ym:zL ops=true) (hlo:zq ops L=true)
  (h0:a=F f0) (hG0:G (Array.replicate ops.size false) w.drew)
  (hstep:∀ i,i<L->∀ o,ops[i]?=some o->∀ (listed:Array Bool) f w',listed.size=L+1->listed.getD i true=false->G listed w'->(∀ e∈o.after,Region.binds .any e=true->V e.on (f e.on) w') ->
   wpOp P ops Q i (fun a' w''=>∃v,a'=F (upd f i v)/\G (listed.setIfInBounds i true) w''/\V i v w''/\∀k u,k≠i->V k u w'->V k u w'') (F f) w')
  (hfin:∀o,ops[L]?=some o->∀(listed:Array Bool) f w',G listed w'->(∀k,k<L->V k (f k) w')->wpOp P ops Q L (fun a' w''=>Q .normal a' w'') (F f) w') :
  (Code.region id ops true).wp P Q a w:=by
 refine gW (fun listed a' w'=>listed.size=L+1/\((listed.getD L false=false/\Shut ops listed/\∃f,a'=F f/\G listed w'/\∀k,k<L->listed.getD k false=true->V k (f k) w')\/((∀j,j<=L->listed.getD j true=true)/\Q .normal a' w'))) hm ?_ ?_ ?_
 ·refine⟨by simpa using hsz,Or.inl ⟨?_,fun k o _ h=>?_,_,h0,hG0,fun k _ h=>?_⟩⟩
  ·rw[Wz,WQ];split<;>rfl
  ·rw[Wz,WQ]at h;split at h<;>cases h
  rw[Wz,WQ]at h;split at h<;>cases h
 ·rintro listed a' w' ⟨hs,h⟩ i hi;obtain⟨hl,o,ho,hpre⟩:=mem_ready.1 hi;have hiL:i<L+1:=by have:=(We.1 ho).1;omega
  rcases h with⟨hn,hS,f,rfl,hG,hV⟩|⟨hall,-⟩
  ·by_cases e:i=L
   ·subst e;have hall:∀k,k<i->listed.getD k false=true:=fun k hk=>OE hlo hS ho hpre (i-k) k (by omega) hk;refine wpOp_mono (fun a'' w'' hq=>⟨by simpa using hs,Or.inr ⟨fun j hj=>?_,hq⟩⟩) (hfin o ho listed f w' hG (fun k hk=>hV k hk (hall k hk)));rw[kH (by simp;omega),aQ _ _ _ (by omega)];by_cases e:j=i
    ·simp[e]
    rw[if_neg e];exact hall j (by omega)
   refine wpOp_mono ?_ (hstep i (by omega) o ho listed f w' hs hl hG (fun e he hb=>hV e.on (by have:=r9 Ym i o ho e he hb;omega) (hpre e he hb)));rintro a'' w'' ⟨v,rfl,hG',hv,hmono⟩;refine⟨by simpa using hs,Or.inl ⟨?_,fun k o' ho' hkl e' he' hb'=>?_,_,rfl,hG',fun k hk hkl=>?_⟩⟩
   ·rw[aQ _ _ _ (by omega),if_neg (Ne.symm e)];exact hn
   ·rw[aQ _ _ _ (by omega)]at hkl ⊢;by_cases ee:e'.on=i
    ·rw[if_pos ee]
    rw[if_neg ee];by_cases ek:k=i
    ·subst ek;rw[ho]at ho';injection ho' with ho';subst ho';exact hpre e' he' hb'
    rw[if_neg ek]at hkl;exact hS k o' ho' hkl e' he' hb'
   rw[aQ _ _ _ (by omega)]at hkl;by_cases ek:k=i
   ·subst ek;simpa[upd] using hv
   rw[if_neg ek]at hkl;simp only[upd,if_neg ek];exact hmono _ _ ek (hV k hk hkl)
  rw[hall i (by omega)]at hl;cases hl
 rintro listed a' w' ⟨hs,h⟩ hr;rcases h with⟨hn,-⟩|⟨-,hq⟩
 ·have:=qJ hr hsz (r9 Ym) hs L (by omega);rw[kH (by omega)]at this;rw[this]at hn;cases hn
 exact hq
end Go.Proofs.YtcgdckphpjfmhaaGreatDoor
namespace Go.Proofs.YtcgdckphpjfmhaaGreatDoor.Pl
theorem gp{a b:ByteArray}(h:a=b):Ending.returned (.string a)=.returned (.string b):=by rw[h]
theorem Ld{s:ByteArray}(h:oD s=true):1<=s.size/\s.size<=12:=by simpa[oD] using h
theorem oH{s:ByteArray}(h:aR s=true):1<=s.size/\s.size<=12:=by
 simp[aR,dK]at h;exact Ld h.1.1
theorem OG{s:ByteArray}(h:qz s=true):1<=s.size/\s.size<=12:=by
 simp[qz,dK]at h;exact Ld h.1
theorem zt{t i:ByteArray}(h:eX t i=true):t.size<=12/\i.size<=12:=by
 simp[eX]at h;exact⟨(oH h.1).2,(OG h.2).2⟩
def aB(t i:ByteArray):ByteArray:=if eX t i then t++⟨#[58]⟩++i else ⟨#[]⟩
theorem nG{t i:ByteArray}(h:eX t i=true):aB t i=t++⟨#[58]⟩++i:=by simp[aB,h]
theorem ut{t i:ByteArray}(h:eX t i=false):aB t i=⟨#[]⟩:=by simp[aB,h]
theorem iE(t i:bZ):(aB t i).size<=25:=by
 unfold aB;split
 ·rename_i h;have h2:=zt h;have e1:(ByteArray.mk #[58]).size=1:=rfl;rw[Wv,Wv,e1];omega
 exact Wd _
def uY(s:ByteArray):Bool:=s.toList.isEmpty || aR s
def bz(a b r c d s:ByteArray):Bool:=eX a b&&aR r&&eX c d&&uY s
def aZ(a b r c d s:ByteArray):ByteArray :=
 if bz a b r c d s then
  (if s.toList.isEmpty then aB a b++⟨#[35]⟩++r++⟨#[64]⟩++aB c d else aB a b++⟨#[35]⟩++r++⟨#[64]⟩++aB c d++⟨#[35]⟩++s)
 else ⟨#[]⟩
theorem uu{a b r c d s:ByteArray}(h:bz a b r c d s=false):aZ a b r c d s=⟨#[]⟩:=by simp[aZ,h]
theorem nH{a b r c d s:ByteArray}(h:bz a b r c d s=true)(hs:s.toList.isEmpty=true):aZ a b r c d s=aB a b++⟨#[35]⟩++r++⟨#[64]⟩++aB c d:=by simp[aZ,h,hs]
theorem nI{a b r c d s:ByteArray}(h:bz a b r c d s=true)(hs:s.toList.isEmpty=false):aZ a b r c d s=aB a b++⟨#[35]⟩++r++⟨#[64]⟩++aB c d++⟨#[35]⟩++s:=by simp[aZ,h,hs]
theorem zM{a b r c d s:ByteArray}(h:eX a b=false):bz a b r c d s=false:=by simp[bz,h]
theorem zP{a b r c d s:ByteArray}(h:aR r=false):bz a b r c d s=false:=by simp[bz,h]
theorem zQ{a b r c d s:ByteArray}(h:eX c d=false):bz a b r c d s=false:=by simp[bz,h]
theorem zR{a b r c d s:ByteArray}(h1:eX a b=true)(h2:aR r=true)(h3:eX c d=true):bz a b r c d s=uY s:=by simp[bz,h1,h2,h3]
theorem jW{a b r c d s:ByteArray}(h:bz a b r c d s=true):eX a b=true/\aR r=true/\eX c d=true/\uY s=true:=by
 simp[bz]at h;exact⟨h.1.1.1,h.1.1.2,h.1.2,h.2⟩
theorem zS{s:ByteArray}(h:s.toList.isEmpty=true):s.size=0:=by
 rw[Go.ByteArray.toList_eq]at h;have h2:s.data.toList=[]:=by simpa using h
 have h3:s.data.toList.length=0:=by rw[h2];rfl
 simpa using h3
theorem Ez{s:ByteArray}(h:uY s=true):s.size<=12:=by
 simp only[uY,Bool.or_eq_true]at h;rcases h with h|h
 ·have:=zS h;omega
 exact(oH h).2
def iV(c:UInt8):List UInt8->List UInt8×List UInt8×Bool
 | []=>([],[],false)
 | b::l=>if b=c then ([],l,true) else (b::(iV c l).1,(iV c l).2.1,(iV c l).2.2)
theorem RL{c:UInt8}{l:List UInt8}{k:Nat}(hk:k<l.length)(hn:∀x∈l.take k,x≠c)(hc:l[k]=c):iV c l=(l.take k,l.drop (k+1),true):=by
 induction l generalizing k with
 | nil=>simp at hk
 | cons b l ih =>
  cases k with
  | zero=>simp at hc;simp[iV,hc]
  | succ k =>
   have hb:b≠c:=hn b (by simp);have:=ih (k:=k) (by simpa using hk) (fun x hx=>hn x (by simp[hx])) (by simpa using hc);simp[iV,hb,this]
theorem si{c:UInt8}{l:List UInt8}(hn:∀x∈l,x≠c):iV c l=(l,[],false):=by
 induction l with
 | nil=>rfl
 | cons b l ih =>
  have hb:b≠c:=hn b (by simp);have:=ih (fun x hx=>hn x (by simp[hx]));simp[iV,hb,this]
theorem F8(c:UInt8)(l:List UInt8):(iV c l).1.length<=l.length/\(iV c l).2.1.length<=l.length:=by
 induction l with
 | nil=>simp[iV]
 | cons b l ih =>
  unfold iV;split
  ·simp
  simp;omega
def kK(c:UInt8)(s:ByteArray):ByteArray:=⟨(iV c s.data.toList).1.toArray⟩
def iM(c:UInt8)(s:ByteArray):ByteArray:=⟨(iV c s.data.toList).2.1.toArray⟩
def pJ(c:UInt8)(s:ByteArray):Bool:=(iV c s.data.toList).2.2
theorem CW(l:List UInt8):(ByteArray.mk l.toArray).size=l.length:=rfl
theorem RN(c:UInt8)(s:bZ):(kK c s).size<=s.size:=by
 unfold kK;rw[CW];exact(F8 c s.data.toList).1
theorem Le(c:UInt8)(s:bZ):(iM c s).size<=s.size:=by
 unfold iM;rw[CW];exact(F8 c s.data.toList).2
theorem gH{a b:ByteArray}(h:a.data.toList=b.data.toList):a=b:=by
 cases a;cases b;simp at h;simp[h]
def Uf(c:UInt8)(s:ByteArray)(k:Nat):Prop:=∀x∈s.data.toList.take k,x≠c
theorem OH(c:UInt8)(s:bZ):Uf c s 0:=by intro x hx;simp at hx
theorem OI{c:UInt8}{s:ByteArray}{k:Nat}(h:k<s.size)(hn:Uf c s k)(hc:s[k]≠c):Uf c s (k+1):=by
 intro x hx;rw[CR s k h]at hx;simp at hx;rcases hx with hx|hx
 ·exact hn x (by simpa using hx)
 subst hx;exact hc
theorem Ug{c:UInt8}{s:ByteArray}{k:Nat}(h:k<s.size)(hn:Uf c s k)(hc:s[k]=c):iV c s.data.toList=(s.data.toList.take k,s.data.toList.drop (k+1),true) :=
 RL (by simpa using h) hn (by simpa[ByteArray.getElem_eq_getElem_data] using hc)
theorem OJ{c:UInt8}{s:ByteArray}{k:Nat}(h:s.size<=k)(hn:Uf c s k):iV c s.data.toList=(s.data.toList,[],false) :=
 si (fun x hx=>hn x (by rw[WL (by simpa using h)];exact hx))
def U6(s:ByteArray):Bool:=eX (kK 58 s) (iM 58 s)
def VP(s:ByteArray):ByteArray:=if U6 s then kK 58 s else ⟨#[]⟩
def VQ(s:ByteArray):ByteArray:=if U6 s then iM 58 s else ⟨#[]⟩
theorem Ma{c:UInt8}{l:List UInt8}(h:(iV c l).2.2=false):(iV c l).2.1=[]:=by
 induction l with
 | nil=>rfl
 | cons b l ih =>
  unfold iV at h⊢;split
  ·rename_i hb;simp[hb]at h
  rename_i hb;simp[hb]at h;simpa[hb] using ih h
theorem OL{c:UInt8}{s:ByteArray}(h:pJ c s=false):iM c s=⟨#[]⟩:=by
 unfold pJ at h;unfold iM;rw[Ma h]
theorem OM{s:ByteArray}(h:U6 s=true):VP s=kK 58 s/\VQ s=iM 58 s:=by simp[VP,VQ,h]
end Go.Proofs.YtcgdckphpjfmhaaGreatDoor.Pl
namespace Go.Proofs.YtcgdckphpjfmhaaGreatDoor
open ChangeShapes WideShapes ChangeAt RowKit
open Pl
theorem uZ(c:UInt8)(w:ae):
  Calls prog 234 #[.int .u8 c.toNat] w fun e w'=>e=.returned (.bool (zk c))/\w'=w:=by
 by_cases hl:eT c=true
 ·go_enter func234,ntmps234;go_wp2_with(go_at_call 209;refine(lJ _ _).mono ?_;rintro e w' ⟨rfl,rfl⟩);go_ret;exact⟨ah (by simp[zk,hl]),rfl⟩
 have hf:eT c=false:=by simpa using hl
 clear hl;go_enter func234,ntmps234;go_wp2_with(go_at_call 209;refine(lJ _ _).mono ?_;rintro e w' ⟨rfl,rfl⟩)
 all_goals go_ret
 all_goals refine⟨ah ?_,rfl⟩
 all_goals(rw[Wy];simp[zk,hf];omega)
theorem I4(s:bZ)(w:ae)(hs:s.size<=maxLen):
  Calls prog 206 #[.string s] w fun e w'=>e=.returned (.bool (qz s))/\w'=w:=by
 unfold maxLen at hs;by_cases h1:1<=s.size/\s.size<=12
 ·obtain⟨ha,hb⟩:=h1;go_enter func206,ntmps206;go_wp2
  go_loop [3] (fun i=>∃k:Nat,k<=s.size/\i=.int .i64 k/\Hid (IY zk s k=true)) (fun i=>s.size-(intOf i).toNat)
  case atStart=>exact⟨0,Wd _,rfl,uR _ _⟩
  obtain⟨k,hk,rfl,hu⟩:=hrel;by_cases hlt:k<s.size
  ·by_cases hc:zk s[k]=true
   ·have hd:(97<=s[k].toNat/\s[k].toNat<=122)\/(48<=s[k].toNat/\s[k].toNat<=57)\/s[k].toNat=95:=by simp[zk,eT]at hc;omega
    have HU:Hid (IY zk s (k+1)=true):=by show _=_;rw[uS _ _ _ hlt,hc,hu.out];rfl
    clear hc;rcases hd with⟨hd1,hd2⟩|⟨hd1,hd2⟩|hd1
    all_goals
     go_wp2;go_round;case rel=>exact⟨k+1,by omega,by go_num,HU⟩
     simp[intOf];omega
   have hc':zk s[k]=false:=by simpa using hc
   have HB:Hid (sZ zk s=false):=zn _ _ _ hlt hc';have hd:s[k].toNat<48\/(57<s[k].toNat/\s[k].toNat<95)\/(95<s[k].toNat/\s[k].toNat<97)\/122<s[k].toNat:=by simp[zk,eT]at hc';omega
   clear hc hc';rcases hd with hd|⟨hd,hd2⟩|⟨hd,hd2⟩|hd
   all_goals
    have h95:((s[k].toNat:Int) != 95)=true:=by simp;omega
    go_wp2;go_ret;exact⟨ah (by simp[qz,dK,HB.out]),rfl⟩
  go_wp2;go_ret;refine⟨ah ?_,rfl⟩;have hall:sZ zk s=true:=by rw[<-zm zk s k (by omega)];exact hu.out
  have hl:oD s=true:=by simp[oD];omega
  simp[qz,dK,hall,hl]
 have hn:oD s=false:=by simp[oD];omega
 have HN:Hid (qz s=false):=by show _=_;simp[qz,dK,hn]
 clear hn;by_cases ha:1<=s.size
 ·have hb:12<s.size:=by omega
  clear h1;go_enter func206,ntmps206;go_wp2;go_ret;exact⟨ah HN.out.symm,rfl⟩
 have ha':s.size<1:=by omega
 clear h1;go_enter func206,ntmps206;go_wp2;go_ret;exact⟨ah HN.out.symm,rfl⟩
theorem zT(s:bZ)(w:ae)(hs:s.size<=maxLen):
  Calls prog 208 #[.string s,.func (Fn.func 234) #[] #[]] w fun e w'=>e=.returned (.bool (dK zk s))/\w'=w:=by
 unfold maxLen at hs;by_cases h1:1<=s.size/\s.size<=12
 ·obtain⟨ha,hb⟩:=h1;go_enter func208,ntmps208;go_wp2
  go_loop [16] (fun i=>∃k:Nat,k<=s.size/\i=.int .i64 k/\Hid (IY zk s k=true)) (fun i=>s.size-(intOf i).toNat)
  case atStart=>exact⟨0,Wd _,rfl,uR _ _⟩
  obtain⟨k,hk,rfl,hu⟩:=hrel;by_cases hlt:k<s.size
  ·by_cases hc:zk s[k]=true
   ·have HU:Hid (IY zk s (k+1)=true):=by show _=_;rw[uS _ _ _ hlt,hc,hu.out];rfl
    go_wp2_with(go_at_call 234;refine(uZ _ _).mono ?_;rintro e w' ⟨rfl,rfl⟩);go_round;case rel=>exact⟨k+1,by omega,by go_num,HU⟩
    simp[intOf];omega
   have hc':zk s[k]=false:=by simpa using hc
   have HB:Hid (sZ zk s=false):=zn _ _ _ hlt hc';clear hc;go_wp2_with(go_at_call 234;refine(uZ _ _).mono ?_;rintro e w' ⟨rfl,rfl⟩);go_ret;exact⟨ah (by simp[dK,HB.out]),rfl⟩
  go_wp2;go_ret;refine⟨ah ?_,rfl⟩;have hall:sZ zk s=true:=by rw[<-zm zk s k (by omega)];exact hu.out
  have hl:oD s=true:=by simp[oD];omega
  simp[dK,hall,hl]
 have hn:oD s=false:=by simp[oD];omega
 have HN:Hid (dK zk s=false):=by show _=_;simp[dK,hn]
 clear hn;by_cases ha:1<=s.size
 ·have hb:12<s.size:=by omega
  clear h1;go_enter func208,ntmps208;go_wp2;go_ret;exact⟨ah HN.out.symm,rfl⟩
 have ha':s.size<1:=by omega
 clear h1;go_enter func208,ntmps208;go_wp2;go_ret;exact⟨ah HN.out.symm,rfl⟩
theorem zU(s:bZ)(w:ae)(hs:s.size<=maxLen):
  Calls prog 214 #[.string s] w fun e w'=>e=.returned (.bool (qz s))/\w'=w:=by
 go_enter func214,ntmps214;go_wp2_with(go_at_call 208;refine(zT _ _ hs).mono ?_;rintro e w' ⟨rfl,rfl⟩);go_ret;exact⟨rfl,rfl⟩
theorem jR{W w1:ae}(hb:af W w1):(∀b o,b<W.heap.size->w1.cell? ⟨b,o,none⟩=W.cell? ⟨b,o,none⟩)/\(∀b o,b<W.heap.size->w1.frozen? ⟨b,o,none⟩=W.frozen? ⟨b,o,none⟩) :=
 ⟨fun b o h=>hb.cell (p:=⟨b,o,none⟩) h,fun b o h=>hb.frozen (p:=⟨b,o,none⟩) h⟩
theorem fU(t i:bZ)(w:ae)(ht:t.size<=maxLen)(hi:i.size<=maxLen):
  Calls prog 166 #[.agg #[.string t,.string i]] w fun e w'=>e=.returned (.bool (eX t i))/\af w w':=by
 by_cases hn:aR t=true
 all_goals
  go_enter func166,ntmps166;go_wp2_with(first|(go_at_call 151;refine(aT _ _ ht).mono ?_;rintro e w' ⟨rfl,rfl⟩)|(go_at_call 206;refine(I4 _ _ hi).mono ?_;rintro e w' ⟨rfl,rfl⟩));go_ret;exact⟨ah (by simp[eX,hn]),(V5 _ _).alloc (V4 _) _⟩
theorem fV(t i:bZ)(w:ae)(ht:t.size<=maxLen)(hi:i.size<=maxLen):
  Calls prog 178 #[.agg #[.string t,.string i]] w fun e w'=>e=.returned (.bool (eX t i))/\af w w':=by
 by_cases hn:aR t=true
 all_goals
  go_enter func178,ntmps178;go_wp2_with(first|(go_at_call 170;refine(aO _ _ ht).mono ?_;rintro e w' ⟨rfl,rfl⟩)|(go_at_call 214;refine(zU _ _ hi).mono ?_;rintro e w' ⟨rfl,rfl⟩));go_ret;exact⟨ah (by simp[eX,hn]),(V5 _ _).alloc (V4 _) _⟩
theorem yR(t i:bZ)(w:ae)(ht:t.size<=maxLen)(hi:i.size<=maxLen):
  Calls prog 228 #[.agg #[.string t,.string i]] w fun e w'=>e=.returned (.string (aB t i))/\af w w':=by
 by_cases hn:eX t i=true
 ·obtain⟨h1,h2⟩:=zt hn;have HT:Hid (aB t i=t++⟨#[58]⟩++i):=nG hn;go_enter func228,ntmps228;go_wp2_with(go_at_call 166;refine(fU _ _ _ ht hi).mono ?_;rintro e w' ⟨rfl,hb⟩;obtain⟨hc,hf⟩:=jR hb);go_ret;exact⟨gp HT.out.symm,((V5 _ _).alloc (V4 _) _).trans (hb.mono (by simp))⟩
 have hn':eX t i=false:=by simpa using hn
 have HT:Hid (aB t i=⟨#[]⟩):=ut hn';clear hn;go_enter func228,ntmps228;go_wp2_with(go_at_call 166;refine(fU _ _ _ ht hi).mono ?_;rintro e w' ⟨rfl,hb⟩;obtain⟨hc,hf⟩:=jR hb);go_ret;exact⟨gp HT.out.symm,((V5 _ _).alloc (V4 _) _).trans (hb.mono (by simp))⟩
theorem yS(t i:bZ)(w:ae)(ht:t.size<=maxLen)(hi:i.size<=maxLen):
  Calls prog 191 #[.agg #[.string t,.string i]] w fun e w'=>e=.returned (.string (aB t i))/\af w w':=by
 by_cases hn:eX t i=true
 ·obtain⟨h1,h2⟩:=zt hn;have HT:Hid (aB t i=t++⟨#[58]⟩++i):=nG hn;go_enter func191,ntmps191;go_wp2_with(go_at_call 178;refine(fV _ _ _ ht hi).mono ?_;rintro e w' ⟨rfl,hb⟩;obtain⟨hc,hf⟩:=jR hb);go_ret;exact⟨gp HT.out.symm,((V5 _ _).alloc (V4 _) _).trans (hb.mono (by simp))⟩
 have hn':eX t i=false:=by simpa using hn
 have HT:Hid (aB t i=⟨#[]⟩):=ut hn';clear hn;go_enter func191,ntmps191;go_wp2_with(go_at_call 178;refine(fV _ _ _ ht hi).mono ?_;rintro e w' ⟨rfl,hb⟩;obtain⟨hc,hf⟩:=jR hb);go_ret;exact⟨gp HT.out.symm,((V5 _ _).alloc (V4 _) _).trans (hb.mono (by simp))⟩
theorem CX(s:bZ)(w:ae)(hs:s.size<=maxLen):
  Calls prog 179 #[.string s] w fun e w'=>e=.returned (.bool (uY s))/\w'=w:=by
 go_enter func179,ntmps179;go_wp2_with(go_at_call 170;refine(aO _ _ hs).mono ?_;rintro e w' ⟨rfl,rfl⟩)
 all_goals go_ret
 all_goals exact⟨ah (by simp[uY, *]),rfl⟩
theorem dD(a b r c d s:bZ)(w:ae)(ha:a.size<=maxLen)(hb:b.size<=maxLen)(hr:r.size<=maxLen)(hc:c.size<=maxLen)(hd:d.size<=maxLen)(hs:s.size<=maxLen):
  Calls prog 111 #[.agg #[.string a,.string b,.string r,.string c,.string d,.string s]] w fun e w'=>e=.returned (.bool (bz a b r c d s))/\af w w':=by
 by_cases h1:eX a b=true
 ·by_cases h2:aR r=true
  ·by_cases h3:eX c d=true
   ·have HT:Hid (bz a b r c d s=uY s):=zR h1 h2 h3;go_enter func111,ntmps111;go_wp2_with fail;refine(fU _ _ _ ha hb).mono ?_;rintro e w1 ⟨rfl,hb1⟩;obtain⟨hc1,hf1⟩:=jR hb1;have hz1:w.heap.size<w1.heap.size:=by have:=hb1.size;simp at this;omega
    go_wp2_with fail;refine(aT _ _ hr).mono ?_;rintro e w1' ⟨rfl,rfl⟩;go_wp2_with fail;refine(fU _ _ _ hc hd).mono ?_;rintro e w2 ⟨rfl,hb2⟩;obtain⟨hc2,hf2⟩:=jR hb2;have hz2:w.heap.size<w2.heap.size:=by have:=hb2.size;omega
    go_wp2_with(go_at_call 151;refine(aT _ _ hs).mono ?_;rintro e w3 ⟨rfl,rfl⟩)
    all_goals go_ret
    all_goals exact⟨ah (HT.out.trans (by simp[uY, *])).symm,((V5 _ _).alloc (V4 _) _).trans ((hb1.mono (by simp)).trans (hb2.mono (by omega)))⟩
   have h3':eX c d=false:=by simpa using h3
   have HT:Hid (bz a b r c d s=false):=zQ h3';clear h3;go_enter func111,ntmps111;go_wp2_with fail;refine(fU _ _ _ ha hb).mono ?_;rintro e w1 ⟨rfl,hb1⟩;obtain⟨hc1,hf1⟩:=jR hb1;have hz1:w.heap.size<w1.heap.size:=by have:=hb1.size;simp at this;omega
   go_wp2_with fail;refine(aT _ _ hr).mono ?_;rintro e w1' ⟨rfl,rfl⟩;go_wp2_with fail;refine(fU _ _ _ hc hd).mono ?_;rintro e w2 ⟨rfl,hb2⟩;go_wp2;go_ret;exact⟨ah HT.out.symm,((V5 _ _).alloc (V4 _) _).trans ((hb1.mono (by simp)).trans (hb2.mono (by omega)))⟩
  have h2':aR r=false:=by simpa using h2
  have HT:Hid (bz a b r c d s=false):=zP h2';clear h2;go_enter func111,ntmps111;go_wp2_with fail;refine(fU _ _ _ ha hb).mono ?_;rintro e w1 ⟨rfl,hb1⟩;obtain⟨hc1,hf1⟩:=jR hb1;go_wp2_with fail;refine(aT _ _ hr).mono ?_;rintro e w1' ⟨rfl,rfl⟩;go_wp2;go_ret;exact⟨ah HT.out.symm,((V5 _ _).alloc (V4 _) _).trans (hb1.mono (by simp))⟩
 have h1':eX a b=false:=by simpa using h1
 have HT:Hid (bz a b r c d s=false):=zM h1';clear h1;go_enter func111,ntmps111;go_wp2_with fail;refine(fU _ _ _ ha hb).mono ?_;rintro e w1 ⟨rfl,hb1⟩;go_wp2;go_ret;exact⟨ah HT.out.symm,((V5 _ _).alloc (V4 _) _).trans (hb1.mono (by simp))⟩
theorem fC(a b r c d s:bZ)(w:ae)(ha:a.size<=maxLen)(hb:b.size<=maxLen)(hr:r.size<=maxLen)(hc:c.size<=maxLen)(hd:d.size<=maxLen)(hs:s.size<=maxLen):
  Calls prog 128 #[.agg #[.string a,.string b,.string r,.string c,.string d,.string s]] w fun e w'=>e=.returned (.bool (bz a b r c d s))/\af w w':=by
 by_cases h1:eX a b=true
 ·by_cases h2:aR r=true
  ·by_cases h3:eX c d=true
   ·have HT:Hid (bz a b r c d s=uY s):=zR h1 h2 h3;go_enter func128,ntmps128;go_wp2_with fail;refine(fV _ _ _ ha hb).mono ?_;rintro e w1 ⟨rfl,hb1⟩;obtain⟨hc1,hf1⟩:=jR hb1;have hz1:w.heap.size<w1.heap.size:=by have:=hb1.size;simp at this;omega
    go_wp2_with fail;refine(aO _ _ hr).mono ?_;rintro e w1' ⟨rfl,rfl⟩;go_wp2_with fail;refine(fV _ _ _ hc hd).mono ?_;rintro e w2 ⟨rfl,hb2⟩;obtain⟨hc2,hf2⟩:=jR hb2;have hz2:w.heap.size<w2.heap.size:=by have:=hb2.size;omega
    go_wp2_with(go_at_call 179;refine(CX _ _ hs).mono ?_;rintro e w3 ⟨rfl,rfl⟩)
    all_goals go_ret
    all_goals exact⟨ah (HT.out.trans (by simp[uY, *])).symm,((V5 _ _).alloc (V4 _) _).trans ((hb1.mono (by simp)).trans (hb2.mono (by omega)))⟩
   have h3':eX c d=false:=by simpa using h3
   have HT:Hid (bz a b r c d s=false):=zQ h3';clear h3;go_enter func128,ntmps128;go_wp2_with fail;refine(fV _ _ _ ha hb).mono ?_;rintro e w1 ⟨rfl,hb1⟩;obtain⟨hc1,hf1⟩:=jR hb1;have hz1:w.heap.size<w1.heap.size:=by have:=hb1.size;simp at this;omega
   go_wp2_with fail;refine(aO _ _ hr).mono ?_;rintro e w1' ⟨rfl,rfl⟩;go_wp2_with fail;refine(fV _ _ _ hc hd).mono ?_;rintro e w2 ⟨rfl,hb2⟩;go_wp2;go_ret;exact⟨ah HT.out.symm,((V5 _ _).alloc (V4 _) _).trans ((hb1.mono (by simp)).trans (hb2.mono (by omega)))⟩
  have h2':aR r=false:=by simpa using h2
  have HT:Hid (bz a b r c d s=false):=zP h2';clear h2;go_enter func128,ntmps128;go_wp2_with fail;refine(fV _ _ _ ha hb).mono ?_;rintro e w1 ⟨rfl,hb1⟩;obtain⟨hc1,hf1⟩:=jR hb1;go_wp2_with fail;refine(aO _ _ hr).mono ?_;rintro e w1' ⟨rfl,rfl⟩;go_wp2;go_ret;exact⟨ah HT.out.symm,((V5 _ _).alloc (V4 _) _).trans (hb1.mono (by simp))⟩
 have h1':eX a b=false:=by simpa using h1
 have HT:Hid (bz a b r c d s=false):=zM h1';clear h1;go_enter func128,ntmps128;go_wp2_with fail;refine(fV _ _ _ ha hb).mono ?_;rintro e w1 ⟨rfl,hb1⟩;go_wp2;go_ret;exact⟨ah HT.out.symm,((V5 _ _).alloc (V4 _) _).trans (hb1.mono (by simp))⟩
end Go.Proofs.YtcgdckphpjfmhaaGreatDoor
namespace Go.Proofs.YtcgdckphpjfmhaaGreatDoor.Pl
theorem OO{c:UInt8}{l m:List UInt8}(h:∀x∈l,x≠c):iV c (l++c::m)=(l,m,true):=by
 induction l with
 | nil=>simp[iV]
 | cons b l ih =>
  have hb:b≠c:=h b (by simp);have:=ih (fun x hx=>h x (by simp[hx]));simp[iV,hb,this]
theorem CY(c:UInt8)(s:bZ):(kK c s).data.toList=(iV c s.data.toList).1:=by simp[kK]
theorem CZ(c:UInt8)(s:bZ):(iM c s).data.toList=(iV c s.data.toList).2.1:=by simp[iM]
theorem F9(a b:bZ):(a++b).data.toList=a.data.toList++b.data.toList:=by simp[ByteArray.data_append]
theorem zu{c:UInt8}{s:ByteArray}{l m:List UInt8}(hs:s.data.toList=l++c::m)(h:∀x∈l,x≠c):(kK c s).data.toList=l/\(iM c s).data.toList=m/\pJ c s=true:=by
 rw[CY,CZ,pJ,hs,OO h];exact⟨rfl,rfl,rfl⟩
theorem RO{c:UInt8}{s:ByteArray}(h:∀x∈s.data.toList,x≠c):kK c s=s/\iM c s=⟨#[]⟩/\pJ c s=false:=by
 refine⟨gH ?_,gH ?_,?_⟩
 ·rw[CY,si h]
 ·rw[CZ,si h]
 rw[pJ,si h]
def OP(l:List UInt8):Prop:=∀x∈l,x≠35/\x≠58/\x≠64
theorem C8{x:UInt8}(h:zk x=true):x≠35/\x≠58/\x≠64:=by
 refine⟨?_,?_,?_⟩<;>(rintro rfl;revert h;decide)
theorem I5{x:UInt8}(h:eT x=true):x≠35/\x≠58/\x≠64:=C8 (by simp[zk,h])
theorem qK{s:ByteArray}(h:aR s=true):OP s.data.toList:=by
 simp only[aR,dK,sZ,V9,Wq]at h;exact fun x hx=>I5 (h.1.2 x hx)
theorem Ga{s:ByteArray}(h:qz s=true):OP s.data.toList:=by
 simp only[qz,dK,sZ,V9,Wq]at h;exact fun x hx=>C8 (h.2 x hx)
theorem uw{a b:ByteArray}(h:eX a b=true):aR a=true/\qz b=true:=by simpa[eX] using h
theorem ve{a b:ByteArray}(h:eX a b=true):(aB a b).data.toList=a.data.toList++58::b.data.toList:=by
 rw[nG h,F9,F9];simp
theorem tN{a b:ByteArray}(h:eX a b=true):∀x∈(aB a b).data.toList,x≠35/\x≠64:=by
 intro x hx;rw[ve h]at hx;have h1:=qK (uw h).1;have h2:=Ga (uw h).2;simp only[Wj,Ws]at hx;rcases hx with hx|hx|hx
 ·exact⟨(h1 x hx).1,(h1 x hx).2.2⟩
 ·subst hx;decide
 exact⟨(h2 x hx).1,(h2 x hx).2.2⟩
theorem pK{a b:ByteArray}(h:eX a b=true):U6 (aB a b)=true/\VP (aB a b)=a/\VQ (aB a b)=b:=by
 obtain⟨h1,h2,-⟩:=zu (c:=58) (ve h) (fun x hx=>(qK (uw h).1 x hx).2.1);have e1:kK 58 (aB a b)=a:=gH h1;have e2:iM 58 (aB a b)=b:=gH h2;have hb:U6 (aB a b)=true:=by rw[U6,e1,e2];exact h
 exact⟨hb,by rw[(OM hb).1,e1],by rw[(OM hb).2,e2]⟩
def C9(s:ByteArray):List UInt8:=if s.toList.isEmpty then [] else 35::s.data.toList
theorem ED{a b r c d s:ByteArray}(h:bz a b r c d s=true):
  (aZ a b r c d s).data.toList=(aB a b).data.toList++35::(r.data.toList++64::((aB c d).data.toList++C9 s)):=by
 by_cases hs:s.toList.isEmpty=true
 ·rw[nH h hs,C9,if_pos hs];simp
 have hs':s.toList.isEmpty=false:=by simpa using hs
 rw[nI h hs',C9,if_neg hs];simp
theorem OQ{s:ByteArray}(h:s.toList.isEmpty=true):s=⟨#[]⟩:=by
 refine gH ?_;rw[Go.ByteArray.toList_eq]at h;simpa using h
theorem OT{o s x:ByteArray}(ho:∀y∈o.data.toList,y≠35)(hx:x.data.toList=o.data.toList++C9 s):
  kK 35 x=o/\iM 35 x=s/\pJ 35 x=!s.toList.isEmpty:=by
 by_cases hs:s.toList.isEmpty=true
 ·have e:x=o:=gH (by rw[hx,C9,if_pos hs];simp);subst e;obtain⟨h1,h2,h3⟩:=RO (c:=35) (s:=x) ho;exact⟨h1,by rw[h2,OQ hs],by rw[h3,hs];rfl⟩
 rw[C9,if_neg hs]at hx;obtain⟨h1,h2,h3⟩:=zu hx ho;have hs':s.toList.isEmpty=false:=by simpa using hs
 exact⟨gH h1,gH h2,by rw[h3,hs'];rfl⟩
def i1(s:ByteArray):=iM 35 s
def i2(s:ByteArray):=iM 64 (i1 s)
theorem zV{a b r c d t s:ByteArray}(h:bz a b r c d t=true)(hs:aZ a b r c d t=s):
  kK 35 s=aB a b/\kK 64 (i1 s)=r/\kK 35 (i2 s)=aB c d/\iM 35 (i2 s)=t:=by
 obtain⟨h1,h2,h3,h4⟩:=jW h;have hl:=ED h;rw[hs]at hl;obtain⟨c1,c2,-⟩:=zu hl (fun x hx=>(tN h1 x hx).1);obtain⟨d1,d2,-⟩:=zu (s:=i1 s) c2 (fun x hx=>(qK h2 x hx).2.2);obtain⟨e1,e2,-⟩:=OT (o:=aB c d) (s:=t) (x:=i2 s) (fun x hx=>(tN h3 x hx).1) d2;exact⟨gH c1,gH d1,e1,e2⟩
def I6(s a b r c d t:ByteArray)(f:Bool):Prop :=
 (f=true/\bz a b r c d t=true/\aZ a b r c d t=s) \/
 (f=false/\(a=⟨#[]⟩/\b=⟨#[]⟩/\r=⟨#[]⟩/\c=⟨#[]⟩/\d=⟨#[]⟩/\t=⟨#[]⟩)/\∀a b r c d t,bz a b r c d t=true->aZ a b r c d t≠s)
theorem qL{a b r c d t a' b' r' c' d' t':ByteArray}(h:bz a b r c d t=true)(h':bz a' b' r' c' d' t'=true)(e:aZ a b r c d t=aZ a' b' r' c' d' t'):
  a=a'/\b=b'/\r=r'/\c=c'/\d=d'/\t=t':=by
 obtain⟨x1,x2,x3,x4⟩:=zV h e;obtain⟨y1,y2,y3,y4⟩:=zV h' rfl;obtain⟨p1,p2,p3,p4⟩:=jW h;obtain⟨q1,q2,q3,q4⟩:=jW h';have o1:aB a b=aB a' b':=x1.symm.trans y1;have o2:aB c d=aB c' d':=x3.symm.trans y3;obtain⟨-,u1,u2⟩:=pK p1;obtain⟨-,v1,v2⟩:=pK q1;obtain⟨-,u3,u4⟩:=pK p3;obtain⟨-,v3,v4⟩:=pK q3;rw[o1]at u1 u2;rw[o2]at u3 u4;exact⟨u1.symm.trans v1,u2.symm.trans v2,x2.symm.trans y2,u3.symm.trans v3,u4.symm.trans v4,x4.symm.trans y4⟩
theorem I6.one{s a b r c d t a' b' r' c' d' t':ByteArray}{f f':Bool}(h:I6 s a b r c d t f)(h':I6 s a' b' r' c' d' t' f'):
  (a=a'/\b=b'/\r=r'/\c=c'/\d=d'/\t=t')/\f=f':=by
 rcases h with⟨rfl,h1,h2⟩|⟨rfl,h1,h2⟩
 ·rcases h' with⟨rfl,k1,k2⟩|⟨rfl,k1,k2⟩
  ·exact⟨qL h1 k1 (h2.trans k2.symm),rfl⟩
  exact absurd h2 (k2 _ _ _ _ _ _ h1)
 rcases h' with⟨rfl,k1,k2⟩|⟨rfl,k1,k2⟩
 ·exact absurd k2 (h2 _ _ _ _ _ _ k1)
 obtain⟨rfl,rfl,rfl,rfl,rfl,rfl⟩:=h1;obtain⟨rfl,rfl,rfl,rfl,rfl,rfl⟩:=k1;exact⟨⟨rfl,rfl,rfl,rfl,rfl,rfl⟩,rfl⟩
end Go.Proofs.YtcgdckphpjfmhaaGreatDoor.Pl
namespace Go.Proofs.YtcgdckphpjfmhaaGreatDoor
open ChangeShapes WideShapes ChangeAt RowKit Maps
open Go.ChangeMaps (setBlock heap_setBlock_same heap_setBlock_other)
section
variable  {K:Type}{enc:K->Value}{P:Program}{k:TypeId}{w:World}{b n:Nat}{M:K->Option Value}
theorem aN.of_block{w':ae}(h:aN enc P k w b n M)(e:w'.heap[b]?=w.heap[b]?):aN enc P k w' b n M:=by
 obtain⟨D,⟨es,clock,hb,r⟩,h2⟩:=h;exact⟨D,⟨es,clock,e.trans hb,r⟩,h2⟩
theorem qM{w:ae}{b:Nat}{es es':Array MapEntry}{c c':Nat}(hb:w.heap[b]?=some (.map es c)):w.grownBy (setBlock w b (.map es' c')) (some b) :=
 ⟨rfl,rfl,rfl,by simp[setBlock],fun i _ hi=>heap_setBlock_other hb _ (fun e=>hi (by rw[e]))⟩
theorem aN.entry[DecidableEq K]{t e:TypeId}(h:aN enc P k w b n M)(L:WideMaps.KeyLaw P k)(hinj:∀x y,enc x=enc y->x=y)(ht:P.underlying t=some (.map k e)){z:Value}(hz:∀u:World,(zeroValue e).run P u=.ok z u)(hn:n<maxLen){x:K}{kl:Lit}(hkey:keyOf P k (enc x)=some kl):
  ∃(st:Nat) (w1:World),(Instr.mapEntry t (.map (some b)) (enc x)).run P w=.ok (.tuple #[(M x).getD z,goInt st]) w1/\w.grownBy w1 (some b) /\
   ∀(w2:World) (val:Value),w2.heap[b]?=w1.heap[b]?→∃w3,(Instr.entryStore t (.map (some b)) (goInt st) val).run P w2=.ok () w3/\aN enc P k w3 b (n+1) (lQ M x (some val))/\w2.grownBy w3 (some b):=by
 have LK:=Keyed.of_law L;have hlook:=h.look LK ht (hz w) hkey;have hst:=fun v=>h.store LK hinj ht hn hkey v;obtain⟨D,⟨es,clock,hb,F,hs,hD⟩,h2⟩:=h;obtain⟨v0,st,es1,clock1,hrun,hv0,hback⟩:=WideElems.entry_then_store L ht hz hb F hkey;have hb1:(setBlock w b (.map es1 clock1)).heap[b]?=some (.map es1 clock1):=heap_setBlock_same hb _;have ev:v0=(M x).getD z:=by
  have hl:=hlook;rcases Maps.fit_look false LK ht (hz w) hb F hkey with⟨YR,hno,-⟩|⟨e0,y,hmem,hek,YR,-,-,-⟩
  ·rw[hl]at YR;injection YR with e1;rcases hv0 with⟨e0,hm,hk0,-⟩|⟨-,hz0⟩
   ·exact absurd hk0 (hno e0 hm)
   rw[hz0,e1];rfl
  rw[hl]at YR;injection YR with e1;rcases hv0 with⟨e1',hm,hk0,hv⟩|⟨hno,-⟩
  ·have hnd:=F.stamped.2.2;have:e1'=e0:=by
    have h3:e1'.key=e0.key:=by rw[hk0,hek]
    obtain⟨i,hi,hie⟩:=WN.1 hm;obtain⟨j,hj,hje⟩:=WN.1 hmem;have h4:(es.toList.map (·.key))[i]'(by simpa using hi)=(es.toList.map (·.key))[j]'(by simpa using hj):=by simp only[List.getElem_map,hie,hje];exact h3
    have h6:=List.pairwise_iff_getElem.1 hnd;have h5:i=j:=by
     rcases Nat.lt_trichotomy i j with hl|hl|hl
     ·exact absurd h4 (h6 i j _ _ hl)
     ·exact hl
     exact absurd h4.symm (h6 j i _ _ hl)
    subst h5;rw[<-hie,<-hje]
   rw[hv,this,e1];rfl
  exact absurd hek (hno e0 hmem)
 refine⟨st,_,by rw[hrun,ev],qM hb,fun w2 val hw2=>?_⟩;have hw2':w2.heap[b]?=some (.map es1 clock1):=hw2.trans hb1;obtain⟨es',clock',hr1,hr2⟩:=hback w2 val hw2';obtain⟨w',hr3,hM',-⟩:=hst val;rw[hr2]at hr3;injection hr3 with _ e3;refine⟨_,hr1,hM'.of_block ?_,qM hw2'⟩;rw[<-e3,heap_setBlock_same hb,heap_setBlock_same hw2']
end
section
variable  {K:Type}{enc:K->Value}{P:Program}(w:World){ops:Array Oper}{rest:List Oper}{o:Oper}{a:Act}{Q:Exit->Act->World->Prop}
theorem Cm[DecidableEq K](hg:o.guard=none)(m x:Operand)(t:TypeId)(hop:o.op=Op.mapEntry t m x)(k e:TypeId)(L:WideMaps.KeyLaw P k)(hinj:∀x y,enc x=enc y->x=y)(ht:P.underlying t=some (.map k e)){z:Value}(hz:∀u:World,(zeroValue e).run P u=.ok z u)(b n:Nat)(M:K->Option Value)
  (hm:a.eval m=.map (some b)) (hV:aN enc P k w b n M) (hn:n<maxLen) (y:K) (kl:Lit) (hx:a.eval x=enc y) (hkey:keyOf P k (enc y)=some kl)
  (hK:∀ (st:Nat) (w1:World),w.grownBy w1 (some b)->(∀ (w2:World) (val:Value),w2.heap[b]?=w1.heap[b]?→∃ w3,(Instr.entryStore t (.map (some b)) (goInt st) val).run P w2=.ok () w3/\aN enc P k w3 b (n+1) (lQ M y (some val))/\w2.grownBy w3 (some b)) ->
   wpList P ops Q rest (a.put o.dst (.tuple #[(M y).getD z,goInt st])) w1):wpList P ops Q (o::rest) a w:=by
 refine wpList_plain hg fun K' hK'=>?_;obtain⟨st,w1,hrun,h1,h2⟩:=hV.entry L hinj ht hz hn hkey;unfold Oper.wp;simp[execOp,hop,hm,hx,hrun,Result.andThen];exact hK' _ _ (hK st w1 h1 h2)
theorem uy(hg:o.guard=none)(m s v:Operand)(t:TypeId)(hop:o.op=Op.entryStore t m s v)(b st:Nat)(hm:a.eval m=.map (some b))(hs:a.eval s=goInt st)(u:Value)(hv:a.eval v=u)(k:TypeId)(n:Nat)(M:K->Option Value)
  (hback:∃w3,(Instr.entryStore t (.map (some b)) (goInt st) u).run P w=.ok () w3/\aN enc P k w3 b n M/\w.grownBy w3 (some b))
  (hK:∀w',aN enc P k w' b n M->w.grownBy w' (some b)->wpList P ops Q rest (a.put o.dst undef) w'):wpList P ops Q (o::rest) a w:=by
 refine wpList_plain hg fun K' hK'=>?_;obtain⟨w3,hrun,h1,h2⟩:=hback;unfold Oper.wp;simp[execOp,hop,hm,hs,hv,hrun,Result.andThen];exact hK' _ _ (hK w3 h1 h2)
end
end Go.Proofs.YtcgdckphpjfmhaaGreatDoor
namespace Go.Proofs.YtcgdckphpjfmhaaGreatDoor.G
open ChangeShapes WideShapes ChangeAt RowKit Maps
open Pl
variable  {K α:Type}{enc:K->Value}{P:Program}{kt et:TypeId}{sz:Nat}{cl:α->List Value}
def FreeB(M:K->Option Value)(g:Nat):Prop:=∀k v,M k=some v->v.ownBlock≠some g
structure Stl(W:World)(M:K->Option Value)(w2:World)(M2:K->Option Value)(bL:Nat):Prop where
 size:W.heap.size<=w2.heap.size
 block:∀g,g<W.heap.size->g≠bL->FreeB M g->w2.heap[g]?=W.heap[g]?
 free:∀g,g<W.heap.size->FreeB M g->FreeB M2 g
theorem Stl.refl(W:ae)(M:K->Option Value)(bL:Nat):Stl W M W M bL:=⟨V4 _,fun _ _ _ _=>rfl,fun _ _ h=>h⟩
theorem Stl.trans{W w2 w3:ae}{M M2 M3:K->Option Value}{bL:Nat}(h:Stl W M w2 M2 bL)(h2:Stl w2 M2 w3 M3 bL):Stl W M w3 M3 bL where
 size:=Wh h.size h2.size
 block g hg hb hf:=(h2.block g (VY hg h.size) hb (h.free g hg hf)).trans (h.block g hg hb hf)
 free g hg hf:=h2.free g (VY hg h.size) (h.free g hg hf)
theorem Stl.below{W w2:ae}{M:K->Option Value}{bL:Nat}(hB:af W w2):Stl W M w2 M bL:=⟨hB.size,fun g hg _ _=>hB.block g hg,fun _ _ h=>h⟩
structure Cel(w:World)(M:K->Option Value)(bL g o:Nat)(u:Value):Prop where
 cell:w.cell? ⟨g,o,none⟩=some u
 lt:g<w.heap.size
 free:FreeB M g
 ne:g≠bL
theorem Cel.stl{w w2:ae}{M M2:K->Option Value}{bL g o:Nat}{u:Value}(h:Cel w M bL g o u)(hS:Stl w M w2 M2 bL):Cel w2 M2 bL g o u where
 cell:=(Wt (w:=w) (hS.block g h.lt h.ne h.free)).trans h.cell
 lt:=VY h.lt hS.size
 free:=hS.free g h.lt h.free
 ne:=h.ne
theorem I7{w w':ae}{base:Nat}{e:TypeId}{size:Nat}{v:Value}{n:Nat}{xs:Q03}(h:w.ownsRow base e size v n xs)(hb:af w w'):w'.ownsRow base e size v n xs:=by
 have hl:=fun g hg=>(h.lt g hg).2;refine⟨h.1,?_⟩;rcases h.2 with h0|⟨g,cap,cur,rfl,h1,h2,h3⟩
 ·exact .inl h0
 exact .inr ⟨g,cap,cur,rfl,h1,(hb.block g (hl g rfl)).trans h2,h3⟩
variable  [DecidableEq K]
def flatG(cl:α->List Value)(xs:List α):List Value:=xs.flatMap cl
theorem I8(cl:α->List Value)(xs:List α)(x:α):flatG cl (xs++[x])=flatG cl xs++cl x:=by simp[flatG]
def lookL(E:List (K×α))(k:K):List α:=E.filterMap fun p=>if p.1=k then some p.2 else none
theorem lookL_append(E F:List (K×α))(k:K):lookL (E++F) k=lookL E k++lookL F k:=by unfold lookL;rw[List.filterMap_append]
theorem uz(E:List (K×α))(k:K)(s:α):lookL (E++[(k,s)]) k=lookL E k++[s]:=by rw[lookL_append];simp[lookL]
theorem qN(E:List (K×α)){k y:K}(s:α)(h:k≠y):lookL (E++[(y,s)]) k=lookL E k:=by rw[lookL_append];simp[lookL,Ne.symm h]
theorem mem_lookL{E:List (K×α)}{k:K}{s:α}:s∈lookL E k↔(k,s)∈E:=by
 unfold lookL;rw[List.mem_filterMap];constructor
 ·rintro⟨⟨a,b⟩,h1,h2⟩;simp only at h2;split at h2
  ·rename_i e;injection h2 with h2;rw[<-e,<-h2];exact h1
  cases h2
 intro h;exact⟨(k,s),h,by simp⟩
structure Grp(enc:K->Value)(P:Program)(kt et:TypeId)(sz:Nat)(cl:α->List Value)(w:World)(bL n:Nat)(M:K->Option Value)(E:List (K×α)):Prop where
 map:aN enc P kt w bL n M
 row:∀k,(M k=none/\lookL E k=[]) \/ ∃v,M k=some v/\w.ownsRow (bL+1) et sz v (lookL E k).length (flatG cl (lookL E k))
 apart:∀k k' v v',k≠k'->M k=some v->M k'=some v'->∀g,v.ownBlock=some g->v'.ownBlock≠some g
theorem Grp.lt{w:ae}{bL n:Nat}{M:K->Option Value}{E:List (K×α)}(h:Grp enc P kt et sz cl w bL n M E){k:K}{v:Value}(hk:M k=some v){g:Nat}(hg:v.ownBlock=some g):bL<g/\g<w.heap.size:=by
 rcases h.row k with⟨e,-⟩|⟨v',e,ho⟩
 ·rw[e]at hk;cases hk
 rw[e]at hk;injection hk with hk;subst hk;have:=ho.lt g hg;exact⟨by omega,this.2⟩
theorem Grp.fresh{w:ae}{bL n:Nat}{M:K->Option Value}{E:List (K×α)}(h:Grp enc P kt et sz cl w bL n M E){g:Nat}(hg:w.heap.size<=g):FreeB M g:=fun k v hk e=>by
 have:=(h.lt hk e).2;omega
theorem Grp.mono{w:ae}{bL n n':Nat}{M:K->Option Value}{E:List (K×α)}(h:Grp enc P kt et sz cl w bL n M E)(hn:n<=n'):Grp enc P kt et sz cl w bL n' M E:=⟨h.map.mono hn,h.row,h.apart⟩
theorem Grp.below{w w':ae}{bL n:Nat}{M:K->Option Value}{E:List (K×α)}(h:Grp enc P kt et sz cl w bL n M E)(hB:af w w'):Grp enc P kt et sz cl w' bL n M E where
 map:=h.map.below hB
 row k:=by
  rcases h.row k with e|⟨v,e,ho⟩
  ·exact .inl e
  exact .inr ⟨v,e,I7 ho hB⟩
 apart:=h.apart
theorem grp_made(w:ae):Grp enc P kt et sz cl (w.alloc (.map #[] 0)) w.heap.size 0 (fun _=>none) [] where
 map:=lX _ _ _ w
 row k:=.inl ⟨rfl,rfl⟩
 apart k k' v v' _ h:=by cases h
theorem Grp.step{W0 w1 w2 w3:ae}{bL n:Nat}{M:K->Option Value}{E:List (K×α)}{y:K}{v':Value}{s:α}(h:Grp enc P kt et sz cl W0 bL n M E)(hg1:W0.grownBy w1 (some bL))(hown:w2.ownsRow (bL+1) et sz v' ((lookL E y).length+1) (flatG cl (lookL E y)++cl s))
  (hg2:w1.grownBy w2 ((M y).getD (.slice none 0 0)).ownBlock) (hloc:v'.ownBlock=((M y).getD (.slice none 0 0)).ownBlock\/v'.ownBlock=some w1.heap.size) (hg3:w2.grownBy w3 (some bL)) (hM:aN enc P kt w3 bL (n+1) (lQ M y (some v'))) :
  Grp enc P kt et sz cl w3 bL (n+1) (lQ M y (some v')) (E++[(y,s)])/\Stl W0 M w3 (lQ M y (some v')) bL:=by
 have hrow0:∀k v,M k=some v->∃xs m,W0.ownsRow (bL+1) et sz v m xs:=fun k v hk=>by
  rcases h.row k with⟨e,-⟩|⟨v1,e,ho⟩
  ·rw[e]at hk;cases hk
  rw[e]at hk;injection hk with hk;subst hk;exact⟨_,_,ho⟩
 have hne2:∀k v,k≠y->M k=some v->v.ownBlock=none\/v.ownBlock≠((M y).getD (.slice none 0 0)).ownBlock:=fun k v hky hk=>by
  cases e:v.ownBlock with
  | none=>exact .inl rfl
  | some g =>
   right;cases ey:M y with
   | none=>simp[Value.ownBlock]
   | some vy=>intro e2;exact h.apart k y v vy hky hk ey g e (by simpa using e2.symm)
 have hnb:∀v,(∃k,M k=some v)->v.ownBlock=none\/v.ownBlock≠some bL:=fun v ⟨k,hk⟩=>by
  cases e:v.ownBlock with
  | none=>exact .inl rfl
  | some g=>right;have:=(h.lt hk e).1;intro e2;injection e2 with e2;omega
 have hnew:∀g,v'.ownBlock=some g->bL<g:=fun g e=>by have:=(hown.lt g e).1;omega
 have hv'b:v'.ownBlock=none\/v'.ownBlock≠some bL:=by
  cases e:v'.ownBlock with
  | none=>exact .inl rfl
  | some g=>right;have:=hnew g e;intro e2;injection e2 with e2;omega
 constructor
 ·refine⟨hM,fun k=>?_,fun k k' v u hkk hk hk' g e=>?_⟩
  ·by_cases ek:k=y
   ·subst ek;rw[dY,uz];refine .inr ⟨v',rfl,?_⟩;rw[I8,Wi];exact hown.kept hg3 hv'b
   rw[cu ek,qN _ _ ek];rcases h.row k with e|⟨v,e,ho⟩
   ·exact .inl e
   exact .inr ⟨v,e,((ho.kept hg1 (hnb v ⟨k,e⟩)).kept hg2 (hne2 k v ek e)).kept hg3 (hnb v ⟨k,e⟩)⟩
  by_cases ek:k=y
  ·subst ek;rw[dY]at hk;injection hk with hk;subst hk;rw[cu (Ne.symm hkk)]at hk';intro e2;rcases hloc with el|el
   ·rw[e]at el;cases ey:M k with
    | none=>rw[ey]at el;simp[Value.ownBlock]at el
    | some vy=>rw[ey]at el;exact h.apart k k' vy u hkk ey hk' g (by simpa using el.symm) e2
   rw[e]at el;injection el with el;have:=(h.lt hk' e2).2;have:=hg1.size;omega
  rw[cu ek]at hk;by_cases ek':k'=y
  ·subst ek';rw[dY]at hk';injection hk' with hk';subst hk';intro e2;rcases hloc with el|el
   ·rw[e2]at el;cases ey:M k' with
    | none=>rw[ey]at el;simp[Value.ownBlock]at el
    | some vy=>rw[ey]at el;exact h.apart k k' v vy hkk hk ey g e (by simpa using el.symm)
   rw[e2]at el;injection el with el;have:=(h.lt hk e).2;have:=hg1.size;omega
  rw[cu ek']at hk';exact h.apart k k' v u hkk hk hk' g e
 refine⟨Wh hg1.size (Wh hg2.size hg3.size),fun g hg hb hf=>?_,fun g hg hf k v hk=>?_⟩
 ·have h1:=hg1.block g hg (fun e=>hb (by injection e));have h2:=hg2.block g (VY hg hg1.size) (fun e=>by
   cases ey:M y with
   | none=>rw[ey]at e;simp[Value.ownBlock]at e
   | some vy=>rw[ey]at e;exact hf y vy ey (by simpa using e.symm))
  have h3:=hg3.block g (VY hg (Wh hg1.size hg2.size)) (fun e=>hb (by injection e));rw[h3,h2,h1]
 by_cases ek:k=y
 ·subst ek;rw[dY]at hk;injection hk with hk;subst hk;intro e2;rcases hloc with el|el
  ·rw[e2]at el;cases ey:M k with
   | none=>rw[ey]at el;simp[Value.ownBlock]at el
   | some vy=>rw[ey]at el;exact hf k vy ey (by simpa using el.symm)
  rw[e2]at el;injection el with el;have:=hg1.size;omega
 rw[cu ek]at hk;exact hf k v hk
end Go.Proofs.YtcgdckphpjfmhaaGreatDoor.G
namespace Go.Proofs.YtcgdckphpjfmhaaGreatDoor
open RowKit
section
variable  {P:Program}{ops:Array Oper}{Q:Exit->Act->World->Prop}
theorem qA{id:Nat}{a:Act}{w:ae}(L:Nat)(f0:Nat->Value)(F:(Nat->Value)->Act)(I:(Nat->Bool)->(Nat->Value)->World->Prop)
  (hm:P.follows .mixedOrders=true) (hsz:ops.size=L+1) (Ym:zL ops=true) (hlo:Ew ops L=true)
  (h0:a=F f0) (hI0:I (fun _=>false) f0 w.drew)
  (hstep:∀ i,i<L->∀ o,ops[i]?=some o->∀ (l:Nat->Bool) f w',l i=false->I l f w'->(∀ e∈o.after,Region.binds .any e=true->l e.on=true) ->
   wpOp P ops Q i (fun a' w''=>∃v,a'=F (upd f i v)/\I (fun k=>if k=i then true else l k) (upd f i v) w'') (F f) w')
  (hfin:∀o,ops[L]?=some o->∀(l:Nat->Bool) f w',(∀k,k<L->l k=true)->I l f w'->wpOp P ops Q L (fun a' w''=>Q .normal a' w'') (F f) w') :
  (Code.region id ops true).wp P Q a w:=by
 refine gW (fun listed a' w'=>listed.size=L+1/\((listed.getD L false=false/\∃f,a'=F f/\I (fun k=>listed.getD k false) f w')\/((∀j,j<=L->listed.getD j true=true)/\Q .normal a' w'))) hm ?_ ?_ ?_
 ·refine⟨by simpa using hsz,Or.inl ⟨?_,_,h0,?_⟩⟩
  ·rw[Wz,WQ];split<;>rfl
  have:(fun k=>(Array.replicate ops.size false).getD k false)=fun _=>false:=funext fun k=>by rw[Wz,WQ];split<;>rfl
  rw[this];exact hI0
 ·rintro listed a' w' ⟨hs,h⟩ i hi;obtain⟨hl,o,ho,hpre⟩:=mem_ready.1 hi;have hiL:i<L+1:=by have:=(We.1 ho).1;omega
  rcases h with⟨hn,f,rfl,hI⟩|⟨hall,-⟩
  ·by_cases e:i=L
   ·subst e;have hall:∀k,k<i->listed.getD k false=true:=fun k hk=>by
     obtain⟨e,he,rfl,hb⟩:=CP hlo o ho k hk;exact hpre e he hb
    refine wpOp_mono (fun a'' w'' hq=>⟨by simpa using hs,Or.inr ⟨fun j hj=>?_,hq⟩⟩) (hfin o ho _ f w' hall hI);rw[kH (by simp;omega),aQ _ _ _ (by omega)];by_cases e:j=i
    ·simp[e]
    rw[if_neg e];exact hall j (by omega)
   refine wpOp_mono ?_ (hstep i (by omega) o ho _ f w' (by rw[<-kH (by omega)];exact hl) hI (fun e he hb=>hpre e he hb));rintro a'' w'' ⟨v,rfl,hI'⟩;refine⟨by simpa using hs,Or.inl ⟨?_,_,rfl,?_⟩⟩
   ·rw[aQ _ _ _ (by omega),if_neg (Ne.symm e)];exact hn
   have:(fun k=>(listed.setIfInBounds i true).getD k false)=fun k=>if k=i then true else listed.getD k false:=funext fun k=>aQ _ _ _ (by omega)
   rw[this];exact hI'
  rw[hall i (by omega)]at hl;cases hl
 rintro listed a' w' ⟨hs,h⟩ hr;rcases h with⟨hn,-⟩|⟨-,hq⟩
 ·have:=qJ hr hsz (r9 Ym) hs L (by omega);rw[kH (by omega)]at this;rw[this]at hn;cases hn
 exact hq
end
end Go.Proofs.YtcgdckphpjfmhaaGreatDoor
namespace Go.Proofs.YtcgdckphpjfmhaaGreatDoor.G
set_option linter.unusedVariables false
open ChangeShapes WideShapes ChangeAt RowKit Maps
open Pl
def Back{K:Type}[DecidableEq K](enc:K->Value)(P:Program)(kt t:TypeId)(bp n:Nat)(M:K->Option Value)(y:K)(st:Nat)(w:World):Prop :=
 ∀(w2:World) (val:Value),w2.heap[bp]?=w.heap[bp]?→∃w3,(Instr.entryStore t (.map (some bp)) (goInt st) val).run P w2=.ok () w3/\aN enc P kt w3 bp (n+1) (lQ M y (some val))/\w2.grownBy w3 (some bp)
def put(l:Nat->Bool)(i:Nat):Nat->Bool:=fun k=>if k=i then true else l k
structure EA(C:Nat->Value)(NEW:Array Value)(et:TypeId)(W:World)(l:Nat->Bool)(f:Nat->Value)(w:World):Prop where
 late:∀k,7<=k->k<=10->l k=false
 bel:af W w
 val:∀k,k<=5->l k=true->f k=C k
 row:l 6=true->∃g,f 6=.slice (some ⟨g,0,none⟩) 1 1/\W.heap.size<=g/\w.heap[g]?=some (.cells NEW et (0,0))
structure EB(C:Nat->Value)(NEW:Array Value)(et:TypeId)(W:World)(bp:Nat)(row0:Value)(BK:Nat->World->Prop)(l:Nat->Bool)(f:Nat->Value)(w:World):Prop where
 low:∀k,k<=7->l k=true
 l9:l 9=false
 val:∀k,k<=5->f k=C k
 mid:∃(W0:World) (st g:Nat),af W W0/\f 6=.slice (some ⟨g,0,none⟩) 1 1/\W.heap.size<=g/\W0.heap[g]?=some (.cells NEW et (0,0))/\W0.grownBy w (some bp)/\f 7=.tuple #[row0,goInt st]/\BK st w/\(l 8=true->f 8=row0)/\(l 10=true->f 10=goInt st)
structure EC(C:Nat->Value)(NEW:Array Value)(et:TypeId)(sz:Nat)(W:World)(bp:Nat)(row0:Value)(nn:Nat)(xs:Q03)(BK:Nat->World->Prop)(l:Nat->Bool)(f:Nat->Value)(w:World):Prop where
 low:∀k,k<=9->l k=true
 val:∀k,k<=5->f k=C k
 mid:∃(W0 w1:World) (st:Nat),af W W0/\W0.grownBy w1 (some bp)/\w1.grownBy w row0.ownBlock/\w.ownsRow (bp+1) et sz (f 9) (nn+1) (xs++NEW.toList)/\((f 9).ownBlock=row0.ownBlock\/(f 9).ownBlock=some w1.heap.size)/\BK st w1/\f 7=.tuple #[row0,goInt st]/\(l 10=true->f 10=goInt st)
def EI(C:Nat->Value)(NEW:Array Value)(et:TypeId)(sz:Nat)(W:World)(bp:Nat)(row0:Value)(nn:Nat)(xs:Q03)(BK:Nat->World->Prop)(l:Nat->Bool)(f:Nat->Value)(w:World):Prop :=
 EA C NEW et W l f w\/EB C NEW et W bp row0 BK l f w\/EC C NEW et sz W bp row0 nn xs BK l f w
section
variable  {C:Nat->Value}{NEW:Array Value}{et:TypeId}{sz:Nat}{W:World}{bp:Nat}{row0:Value}{nn:Nat}{xs:Q03}{BK:Nat->World->Prop}{l:Nat->Bool}{f:Nat->Value}{w:World}
theorem ei_start(W:ae):EI C NEW et sz W bp row0 nn xs BK (fun _=>false) f W.drew:=.inl ⟨fun _ _ _=>rfl,(V5 _ _).drew,fun _ _ h=>(by cases h),fun h=>(by cases h)⟩
theorem EI.early(h:EI C NEW et sz W bp row0 nn xs BK l f w){i:Nat}(hi:i<=7)(hl:l i=false):EA C NEW et W l f w:=by
 rcases h with h|h|h
 ·exact h
 ·rw[h.low i hi]at hl;cases hl
 rw[h.low i (by omega)]at hl;cases hl
theorem EA.put{i:Nat}(h:EA C NEW et W l f w)(hi:i<=5){v:Value}(hv:v=C i):EI C NEW et sz W bp row0 nn xs BK (fun k=>if k=i then true else l k) (upd f i v) w:=by
 refine .inl ⟨fun k h7 h10=>?_,h.bel,fun k hk hl=>?_,fun hl=>?_⟩
 ·show(if _=_ then true else _)=_;rw[if_neg (by omega)];exact h.late k h7 h10
 ·by_cases e:k=i
  ·subst e;simp[upd,hv]
  simp only[if_neg e]at hl;simp only[upd,if_neg e];exact h.val k hk hl
 replace hl:(if _=_ then true else _)=true:=hl;rw[if_neg (by omega)]at hl;simp only[upd];rw[if_neg (by omega)];exact h.row hl
theorem EA.lay(h:EA C NEW et W l f w):EI C NEW et sz W bp row0 nn xs BK (fun k=>if k=6 then true else l k) (upd f 6 (.slice (some ⟨w.heap.size,0,none⟩) 1 1)) (w.alloc (.cells NEW et)):=by
 refine .inl ⟨fun k h7 h10=>?_,h.bel.alloc h.bel.size _,fun k hk hl=>?_,fun _=>⟨w.heap.size,by simp[upd],h.bel.size,heap_alloc_new w _⟩⟩
 ·show(if _=_ then true else _)=_;rw[if_neg (by omega)];exact h.late k h7 h10
 replace hl:(if _=_ then true else _)=true:=hl;rw[if_neg (by omega)]at hl;simp only[upd];rw[if_neg (by omega)];exact h.val k hk hl
theorem EA.took(h:EA C NEW et W l f w)(hall:∀k,k<=6->l k=true){st:Nat}{w1:ae}(hg:w.grownBy w1 (some bp))(hb:BK st w1):EI C NEW et sz W bp row0 nn xs BK (fun k=>if k=7 then true else l k) (upd f 7 (.tuple #[row0,goInt st])) w1:=by
 obtain⟨g,e6,Zn,hc⟩:=h.row (hall 6 (by omega));refine .inr (.inl ⟨fun k hk=>?_,?_,fun k hk=>?_,w,st,g,h.bel,?_,Zn,hc,hg,?_,hb,fun h8=>?_,fun h10=>?_⟩)
 ·by_cases e:k=7
  ·simp[e]
  simp only[if_neg e];exact hall k (by omega)
 ·show(if (9:Nat)=7 then true else l 9)=false;rw[if_neg (by omega)];exact h.late 9 (by omega) (by omega)
 ·simp only[upd];rw[if_neg (by omega)];exact h.val k hk (hall k (by omega))
 ·simp only[upd];rw[if_neg (by omega)];exact e6
 ·simp[upd]
 ·have:(if (8:Nat)=7 then true else l 8)=true:=h8;rw[if_neg (by omega),h.late 8 (by omega) (by omega)]at this;cases this
 have:(if (10:Nat)=7 then true else l 10)=true:=h10;rw[if_neg (by omega),h.late 10 (by omega) (by omega)]at this;cases this
theorem EI.midB(h:EI C NEW et sz W bp row0 nn xs BK l f w)(h7:l 7=true){i:Nat}(hi:i<=9)(hl:l i=false):EB C NEW et W bp row0 BK l f w:=by
 rcases h with h|h|h
 ·rw[h.late 7 (by omega) (by omega)]at h7;cases h7
 ·exact h
 rw[h.low i hi]at hl;cases hl
theorem EI.seven(h:EI C NEW et sz W bp row0 nn xs BK l f w)(h7:l 7=true):∃st:Nat,f 7=.tuple #[row0,goInt st]:=by
 rcases h with h|h|h
 ·rw[h.late 7 (by omega) (by omega)]at h7;cases h7
 ·obtain⟨_,st,_,_,_,_,_,_,e,_⟩:=h.mid;exact⟨st,e⟩
 obtain⟨_,_,st,_,_,_,_,_,_,e,_⟩:=h.mid;exact⟨st,e⟩
theorem EB.first(h:EB C NEW et W bp row0 BK l f w):EI C NEW et sz W bp row0 nn xs BK (fun k=>if k=8 then true else l k) (upd f 8 row0) w:=by
 obtain⟨W0,st,g,h1,h2,h3,h4,h5,h6,h7,h8,h9⟩:=h.mid;refine .inr (.inl ⟨fun k hk=>?_,?_,fun k hk=>?_,W0,st,g,h1,?_,h3,h4,h5,?_,h7,fun _=>?_,fun h10=>?_⟩)
 ·show(if _=_ then true else _)=_;rw[if_neg (by omega)];exact h.low k hk
 ·show(if (9:Nat)=8 then true else l 9)=false;rw[if_neg (by omega)];exact h.l9
 ·simp only[upd];rw[if_neg (by omega)];exact h.val k hk
 ·simp only[upd];rw[if_neg (by omega)];exact h2
 ·simp only[upd];rw[if_neg (by omega)];exact h6
 ·simp[upd]
 have h10':(if (10:Nat)=8 then true else l 10)=true:=h10;rw[if_neg (by omega)]at h10';simp only[upd];rw[if_neg (by omega)];exact h9 h10'
theorem EI.second(h:EI C NEW et sz W bp row0 nn xs BK l f w)(h7:l 7=true){st:Nat}(e:f 7=.tuple #[row0,goInt st]):EI C NEW et sz W bp row0 nn xs BK (fun k=>if k=10 then true else l k) (upd f 10 (goInt st)) w:=by
 have same:∀st':Nat,.tuple #[row0,goInt st']=Value.tuple #[row0,goInt st]->goInt st'=goInt st:=fun st' e=>by
  injection e with e;have:=congrArg Array.toList e;simp only[List.cons.injEq]at this;exact this.2.1
 rcases h with h|h|h
 ·rw[h.late 7 (by omega) (by omega)]at h7;cases h7
 ·obtain⟨W0,st',g,h1,h2,h3,h4,h5,h6,hb,h8,h9⟩:=h.mid;have es:=same st' (h6.symm.trans e);refine .inr (.inl ⟨fun k hk=>?_,?_,fun k hk=>?_,W0,st',g,h1,?_,h3,h4,h5,?_,hb,fun h8'=>?_,fun _=>?_⟩)
  ·show(if _=_ then true else _)=_;rw[if_neg (by omega)];exact h.low k hk
  ·show(if (9:Nat)=10 then true else l 9)=false;rw[if_neg (by omega)];exact h.l9
  ·simp only[upd];rw[if_neg (by omega)];exact h.val k hk
  ·simp only[upd];rw[if_neg (by omega)];exact h2
  ·simp only[upd];rw[if_neg (by omega)];exact h6
  ·have h8'':(if (8:Nat)=10 then true else l 8)=true:=h8';rw[if_neg (by omega)]at h8'';simp only[upd];rw[if_neg (by omega)];exact h8 h8''
  simp[upd,es]
 obtain⟨W0,w1,st',h1,h2,h3,h4,h5,hb,h6,h9⟩:=h.mid;have es:=same st' (h6.symm.trans e);refine .inr (.inr ⟨fun k hk=>?_,fun k hk=>?_,W0,w1,st',h1,h2,h3,?_,?_,hb,?_,fun _=>?_⟩)
 ·show(if _=_ then true else _)=_;rw[if_neg (by omega)];exact h.low k hk
 ·simp only[upd];rw[if_neg (by omega)];exact h.val k hk
 ·simp only[upd];rw[if_neg (by omega)];exact h4
 ·simp only[upd];rw[if_neg (by omega)];exact h5
 ·simp only[upd];rw[if_neg (by omega)];exact h6
 simp[upd,es]
theorem EB.app(h:EB C NEW et W bp row0 BK l f w)(h8:l 8=true){v':Value}{w':ae}(hg:w.grownBy w' row0.ownBlock)(ho:w'.ownsRow (bp+1) et sz v' (nn+1) (xs++NEW.toList))(hloc:v'.ownBlock=row0.ownBlock\/v'.ownBlock=some w.heap.size):EI C NEW et sz W bp row0 nn xs BK (fun k=>if k=9 then true else l k) (upd f 9 v') w':=by
 obtain⟨W0,st,g,h1,h2,h3,h4,h5,h6,hb,_,h9⟩:=h.mid;refine .inr (.inr ⟨fun k hk=>?_,fun k hk=>?_,W0,w,st,h1,h5,hg,?_,?_,hb,?_,fun h10=>?_⟩)
 ·by_cases e:k=9
  ·simp[e]
  by_cases e8:k=8
  ·simp only[if_neg e];rw[e8];exact h8
  simp only[if_neg e];exact h.low k (by omega)
 ·simp only[upd];rw[if_neg (by omega)];exact h.val k hk
 ·simp only[upd,if_true];exact ho
 ·simp only[upd,if_true];exact hloc
 ·simp only[upd];rw[if_neg (by omega)];exact h6
 have h10':(if (10:Nat)=9 then true else l 10)=true:=h10;rw[if_neg (by omega)]at h10';simp only[upd];rw[if_neg (by omega)];exact h9 h10'
theorem EI.last(h:EI C NEW et sz W bp row0 nn xs BK l f w)(hall:∀k,k<11->l k=true):EC C NEW et sz W bp row0 nn xs BK l f w:=by
 rcases h with h|h|h
 ·have:=hall 7 (by omega);rw[h.late 7 (by omega) (by omega)]at this;cases this
 ·have:=hall 9 (by omega);rw[h.l9]at this;cases this
 exact h
end
end Go.Proofs.YtcgdckphpjfmhaaGreatDoor.G
namespace Go.Proofs.YtcgdckphpjfmhaaGreatDoor
open ChangeShapes WideShapes ChangeAt RowKit Maps
abbrev K3:=ByteArray×ByteArray×ByteArray
def qO(k:K3):Value:=.agg #[.string k.1,.string k.2.1,.string k.2.2]
theorem OU(x y:K3)(h:qO x=qO y):x=y:=by
 unfold qO at h;injection h with h;have h1:=congrArg Array.toList h;simp at h1;exact Prod.ext h1.1 (Prod.ext h1.2.1 h1.2.2)
theorem Vi:(226:TypeId)<prog.types.size:=of_decide_eq_true (by kernel_rfl)
theorem Uh:(match prog.underlying 226 with|some (.array _ _)|some (.struct _)=>true|_=>false)=true:=by rw[underlying226]
set_option maxRecDepth 100000 in
theorem OV:WideMaps.KeyLaw prog 226:=deep_law_laid zJ (m:=3) (by omega) Vi (by kernel_rfl) Uh
theorem Tv:Keyed prog 226:=Keyed.of_law OV
theorem Ui:prog.keyType 226=true:=by kernel_rfl
theorem Lf:prog.cellsOf 226=3:=by kernel_rfl
theorem Mc:prog.cellsOf 27=2:=by kernel_rfl
theorem Md:2<=prog.types.size:=of_decide_eq_true (by kernel_rfl)
theorem zW:∃n,prog.types.size=n+2:=⟨prog.types.size-2,by have:=Md;omega⟩
set_option maxRecDepth 100000 in
theorem EE(k:K3)(h0:k.1.size<=maxLen)(h1:k.2.1.size<=maxLen)(h2:k.2.2.size<=maxLen):∃kl,keyOf prog 226 (qO k)=some kl:=by
 obtain⟨n,hn⟩:=zW;refine⟨.string (keyBytes [.string k.1.data.toList,.string k.2.1.data.toList,.string k.2.2.data.toList]),?_⟩;unfold keyOf;rw[underlying226];simp only[Ui,qO,Value.formed,underlying226,Lf,hn,Value.cells];simp +decide [Program.keyLits,underlying226,underlying27,underlying9,Lf,Mc,strCells,h0,h1,h2]
abbrev KL:=ByteArray×Int
def Gb(k:KL):Value:=.agg #[.string k.1,.int .i64 k.2]
theorem OW(x y:KL)(h:Gb x=Gb y):x=y:=by
 unfold Gb at h;injection h with h;have h1:=congrArg Array.toList h;simp at h1;exact Prod.ext h1.1 h1.2
theorem Vj:(153:TypeId)<prog.types.size:=of_decide_eq_true (by kernel_rfl)
theorem Uj:(match prog.underlying 153 with|some (.array _ _)|some (.struct _)=>true|_=>false)=true:=by rw[underlying153]
set_option maxRecDepth 100000 in
theorem OX:WideMaps.KeyLaw prog 153:=deep_law_laid zJ (m:=2) (by omega) Vj (by kernel_rfl) Uj
theorem Vk:Keyed prog 153:=Keyed.of_law OX
theorem Uk:prog.keyType 153=true:=by kernel_rfl
theorem Lg:prog.cellsOf 153=2:=by kernel_rfl
theorem OY:prog.cellsOf 2=1:=by kernel_rfl
set_option maxRecDepth 100000 in
theorem Lh(k:KL)(h0:k.1.size<=maxLen)(h1:0<=k.2)(h2:k.2<=1000000):∃kl,keyOf prog 153 (Gb k)=some kl:=by
 have hw:(Lit.int .i64 k.2).wf=true:=WalkArith.wf_i64 ⟨by omega,by omega⟩;obtain⟨n,hn⟩:=zW;refine⟨.string (keyBytes [.string k.1.data.toList,.int .i64 k.2]),?_⟩;unfold keyOf;rw[underlying153];simp only[Uk,Gb,Value.formed,underlying153,Lg,hn,Value.cells];simp +decide [Program.keyLits,underlying153,underlying2,underlying9,Lg,OY,strCells,h0,hw]
section
variable  {P:Program}{ops:Array Oper}{Q:Exit->Act->World->Prop}
theorem jX{id:Nat}{a:Act}{w:ae}(L:Nat)(f0:Nat->Value)(F:(Nat->Value)->Act)(I:(Nat->Bool)->(Nat->Value)->World->Prop)
  (hm:P.follows .mixedOrders=true) (hsz:ops.size=L+1) (Ym:zL ops=true)
  (hcl:∀o,ops[L]?=some o->∀(l:Nat->Bool) f w',I l f w'->(∀e∈o.after,Region.binds .any e=true->l e.on=true)->∀k,k<L->l k=true)
  (h0:a=F f0) (hI0:I (fun _=>false) f0 w.drew)
  (hstep:∀ i,i<L->∀ o,ops[i]?=some o->∀ (l:Nat->Bool) f w',l i=false->I l f w'->(∀ e∈o.after,Region.binds .any e=true->l e.on=true) ->
   wpOp P ops Q i (fun a' w''=>∃v,a'=F (upd f i v)/\I (fun k=>if k=i then true else l k) (upd f i v) w'') (F f) w')
  (hfin:∀o,ops[L]?=some o->∀(l:Nat->Bool) f w',(∀k,k<L->l k=true)->I l f w'->wpOp P ops Q L (fun a' w''=>Q .normal a' w'') (F f) w') :
  (Code.region id ops true).wp P Q a w:=by
 refine gW (fun listed a' w'=>listed.size=L+1/\((listed.getD L false=false/\∃f,a'=F f/\I (fun k=>listed.getD k false) f w')\/((∀j,j<=L->listed.getD j true=true)/\Q .normal a' w'))) hm ?_ ?_ ?_
 ·refine⟨by simpa using hsz,Or.inl ⟨?_,_,h0,?_⟩⟩
  ·rw[Wz,WQ];split<;>rfl
  have:(fun k=>(Array.replicate ops.size false).getD k false)=fun _=>false:=funext fun k=>by rw[Wz,WQ];split<;>rfl
  rw[this];exact hI0
 ·rintro listed a' w' ⟨hs,h⟩ i hi;obtain⟨hl,o,ho,hpre⟩:=mem_ready.1 hi;have hiL:i<L+1:=by have:=(We.1 ho).1;omega
  rcases h with⟨hn,f,rfl,hI⟩|⟨hall,-⟩
  ·by_cases e:i=L
   ·subst e;have hall:∀k,k<i->listed.getD k false=true:=hcl o ho _ f w' hI (fun e he hb=>hpre e he hb);refine wpOp_mono (fun a'' w'' hq=>⟨by simpa using hs,Or.inr ⟨fun j hj=>?_,hq⟩⟩) (hfin o ho _ f w' hall hI);rw[kH (by simp;omega),aQ _ _ _ (by omega)];by_cases e:j=i
    ·simp[e]
    rw[if_neg e];exact hall j (by omega)
   refine wpOp_mono ?_ (hstep i (by omega) o ho _ f w' (by rw[<-kH (by omega)];exact hl) hI (fun e he hb=>hpre e he hb));rintro a'' w'' ⟨v,rfl,hI'⟩;refine⟨by simpa using hs,Or.inl ⟨?_,_,rfl,?_⟩⟩
   ·rw[aQ _ _ _ (by omega),if_neg (Ne.symm e)];exact hn
   have:(fun k=>(listed.setIfInBounds i true).getD k false)=fun k=>if k=i then true else listed.getD k false:=funext fun k=>aQ _ _ _ (by omega)
   rw[this];exact hI'
  rw[hall i (by omega)]at hl;cases hl
 rintro listed a' w' ⟨hs,h⟩ hr;rcases h with⟨hn,-⟩|⟨-,hq⟩
 ·have:=qJ hr hsz (r9 Ym) hs L (by omega);rw[kH (by omega)]at this;rw[this]at hn;cases hn
 exact hq
end
end Go.Proofs.YtcgdckphpjfmhaaGreatDoor
namespace Go.Proofs.YtcgdckphpjfmhaaGreatDoor.G
set_option linter.unusedVariables false
open ChangeShapes WideShapes ChangeAt RowKit
structure WI(C:Nat->Value)(W:World)(CD:Value->World->Prop)(l:Nat->Bool)(f:Nat->Value)(w:World):Prop where
 val:∀k,k<=9->k≠7->l k=true->f k=C k
 seq:l 7=true->l 4=true/\l 6=true
 nin:l 9=true->l 8=true
 mid:(l 7=false/\af W w)\/(l 7=true/\CD (f 7) w)
section
variable  {C:Nat->Value}{W:World}{CD:Value->World->Prop}{l:Nat->Bool}{f:Nat->Value}{w:World}
theorem wi_start(W:ae):WI C W CD (fun _=>false) f W.drew:=⟨fun _ _ _ h=>(by cases h),fun h=>(by cases h),fun h=>(by cases h),.inl ⟨rfl,(V5 _ _).drew⟩⟩
theorem WI.put(h:WI C W CD l f w){i:Nat}(hi:i≠7)(h9:i=9->l 8=true){v:Value}(hv:v=C i):WI C W CD (fun k=>if k=i then true else l k) (upd f i v) w:=by
 refine⟨fun k hk h7 hl=>?_,fun hl=>?_,fun hl=>?_,?_⟩
 ·by_cases e:k=i
  ·subst e;simp[upd,hv]
  simp only[if_neg e]at hl;simp only[upd,if_neg e];exact h.val k hk h7 hl
 ·have hl':(if (7:Nat)=i then true else l 7)=true:=hl;rw[if_neg (Ne.symm hi)]at hl';have:=h.seq hl';constructor
  ·show(if (4:Nat)=i then true else l 4)=true;rw[this.1];split<;>rfl
  show(if (6:Nat)=i then true else l 6)=true;rw[this.2];split<;>rfl
 ·have hl':(if (9:Nat)=i then true else l 9)=true:=hl;show(if (8:Nat)=i then true else l 8)=true;by_cases e:(9:Nat)=i
  ·rw[h9 e.symm];split<;>rfl
  rw[if_neg e]at hl';rw[h.nin hl'];split<;>rfl
 have e7:(if (7:Nat)=i then true else l 7)=l 7:=if_neg (Ne.symm hi);have f7:upd f i v 7=f 7:=by simp only[upd];rw[if_neg (Ne.symm hi)]
 rcases h.mid with⟨h1,h2⟩|⟨h1,h2⟩
 ·exact .inl ⟨e7.trans h1,h2⟩
 exact .inr ⟨e7.trans h1,by rw[f7];exact h2⟩
theorem WI.before(h:WI C W CD l f w)(hl:l 7=false):af W w:=by
 rcases h.mid with⟨_,h2⟩|⟨h1,_⟩
 ·exact h2
 rw[h1]at hl;cases hl
theorem WI.early(h:WI C W CD l f w)(hl:l 4=false\/l 6=false):af W w:=by
 refine h.before ?_;cases h7:l 7;case false=>rfl
 obtain⟨h4,h6⟩:=h.seq h7;rcases hl with e|e
 ·rw[h4]at e;cases e
 rw[h6]at e;cases e
theorem WI.call(h:WI C W CD l f w)(h4:l 4=true)(h6:l 6=true){v:Value}{w':ae}(hc:CD v w'):WI C W CD (fun k=>if k=7 then true else l k) (upd f 7 v) w':=by
 refine⟨fun k hk h7 hl=>?_,fun _=>⟨by simp[h4],by simp[h6]⟩,fun hl=>h.nin hl,.inr ⟨by simp,by simp only[upd,if_true];exact hc⟩⟩;simp only[if_neg h7]at hl;simp only[upd,if_neg h7];exact h.val k hk h7 hl
theorem WI.last(h:WI C W CD l f w)(hall:∀k,k<10->l k=true):(∀k,k<=9->k≠7->f k=C k)/\CD (f 7) w:=by
 refine⟨fun k hk h7=>h.val k hk h7 (hall k (by omega)),?_⟩;rcases h.mid with⟨h1,_⟩|⟨_,h2⟩
 ·rw[hall 7 (by omega)]at h1;cases h1
 exact h2
end
end Go.Proofs.YtcgdckphpjfmhaaGreatDoor.G
namespace Go.Proofs.YtcgdckphpjfmhaaGreatDoor
set_option linter.unusedVariables false
structure Few{φ υ:Type}(us:φ->υ)(H:List φ->φ->Bool)(qs:List φ)(users:List υ)(out:List φ):Prop where
 set:∀f∈qs,us f ∉ users->f∈out\/H out f=false
theorem Few.start{φ υ:Type}{us:φ->υ}{H:List φ->φ->Bool}{qs:List φ}{users:List υ}{out:List φ}(h:∀f∈qs,us f∈users):Few us H qs users out:=⟨fun f hf hn=>absurd (h f hf) hn⟩
section
variable  {φ υ:Type}[DecidableEq φ]{us:φ->υ}{H:List φ->φ->Bool}
def Loc(us:φ->υ)(H:List φ->φ->Bool):Prop:=∀(a b:List φ) (f:φ),(∀g,us g=us f->(g∈a↔g∈b))->H a f=H b f
def fZ(H:List φ->φ->Bool)(out:List φ)(f:φ):List φ:=if f∈out\/H out f=false then out else out++[f]
def bW(H:List φ->φ->Bool)(qs:List φ)(out:List φ):List φ:=qs.foldl (fZ H) out
theorem OZ(out:List φ):bW H [] out=out:=rfl
theorem sj(q:φ)(qs out:List φ):bW H (q::qs) out=bW H qs (fZ H out q):=rfl
theorem Gc(zas bs out:List φ):bW H (zas++bs) out=bW H bs (bW H zas out):=by unfold bW;rw[List.foldl_append]
theorem wV(out:List φ)(f:φ):∃new,fZ H out f=out++new/\∀g∈new,g=f/\g ∉ out/\H out f=true:=by
 unfold fZ;split
 ·exact⟨[],by simp,fun g hg=>by cases hg⟩
 rename_i h;refine⟨[f],rfl,fun g hg=>?_⟩;rw[Wl]at hg;subst hg;refine⟨rfl,fun e=>h (.inl e),?_⟩;cases e:H out g;case true=>rfl
 exact absurd (.inr e) h
theorem kL:∀(qs out:List φ),∃new,bW H qs out=out++new/\∀g∈new,g∈qs/\g ∉ out
 | [],out=>⟨[],by simp[OZ],fun g hg=>by cases hg⟩
 | q::qs,out=>by
  obtain⟨n1,e1,h1⟩:=wV (H:=H) out q;obtain⟨n2,e2,h2⟩:=kL qs (fZ H out q);refine⟨n1++n2,by rw[sj,e2,e1,WE],fun g hg=>?_⟩;rcases Wj.1 hg with hg|hg
  ·exact⟨by rw[(h1 g hg).1];exact Xf ..,(h1 g hg).2.1⟩
  obtain⟨h3,h4⟩:=h2 g hg;exact⟨WT _ h3,fun e=>h4 (by rw[e1];exact Xq _ e)⟩
theorem qP{qs out:List φ}{g:φ}(h:g∈out):g∈bW H qs out:=by
 obtain⟨n,e,-⟩:=kL (H:=H) qs out;rw[e];exact Xq _ h
theorem wW{out:List φ}{f g:φ}(h:g∈out):g∈fZ H out f:=by
 obtain⟨n,e,-⟩:=wV (H:=H) out f;rw[e];exact Xq _ h
theorem I9{out:List φ}(h:out.Nodup)(f:φ):(fZ H out f).Nodup:=by
 unfold fZ;split
 ·exact h
 rename_i hn;refine List.nodup_append.2 ⟨h,by simp,fun a ha b hb e=>?_⟩;rw[Wl]at hb;subst hb;subst e;exact hn (.inl ha)
theorem wX:∀(qs:List φ) {out:List φ},out.Nodup->(bW H qs out).Nodup
 | [],_,h=>h
 | q::qs,_,h=>wX qs (I9 h q)
theorem Me{qs out:List φ}(h:∀f∈qs,f∈out\/H out f=false):bW H qs out=out:=by
 induction qs with
 | nil=>rfl
 | cons q qs ih =>
  have e:fZ H out q=out:=if_pos (h q (Xf ..));rw[sj,e];exact ih fun f hf=>h f (WT _ hf)
theorem nJ(hL:Loc us H)(P:υ->Bool):∀(qs out:List φ),(∀f∈qs,P (us f)=false->f∈out\/H out f=false)->bW H qs out=bW H (qs.filter fun f=>P (us f)) out
 | [],_,_=>rfl
 | q::qs,out,h=>by
  rw[sj,Xm];cases hp:P (us q);case false=>
   have e:fZ H out q=out:=if_pos (h q (Xf ..) hp);rw[e];exact nJ hL P qs out fun f hf=>h f (WT _ hf)
  rw[if_pos rfl,sj];refine nJ hL P qs _ fun f hf hpf=>?_;have hne:us f≠us q:=fun e=>by rw[e,hp]at hpf;cases hpf
  obtain⟨n,e,hn⟩:=wV (H:=H) out q;have hm:∀g,us g=us f->(g∈out↔g∈fZ H out q):=fun g hg=>by
   rw[e];refine⟨fun h=>Xq _ h,fun h=>?_⟩;rcases Wj.1 h with h|h
   ·exact h
   exact absurd (by rw[(hn g h).1]at hg;exact hg.symm) hne
  rcases h f (WT _ hf) hpf with h1|h1
  ·exact .inl ((hm f rfl).1 h1)
  exact .inr (by rw[<-hL out _ f hm];exact h1)
theorem vg(hL:Loc us H)(u:υ):∀(qs out:List φ),(∀g∈bW H qs out,us g=u->g∈out)->∀f∈qs,us f=u->f∈bW H qs out\/H (bW H qs out) f=false
 | [],_,_,f,hf,_=>by cases hf
 | q::qs,out,h,f,hf,hu=>by
  have hsame:∀g,us g=u->(g∈fZ H out q↔g∈bW H qs (fZ H out q)):=fun g hg=>⟨fun h1=>qP h1,fun h1=>wW (h g h1 hg)⟩;have hrest:∀g∈bW H qs (fZ H out q),us g=u->g∈fZ H out q:=fun g h1 h2=>(hsame g h2).2 h1;rcases Ws.1 hf with rfl|hf
  ·show f∈bW H qs (fZ H out f)\/H (bW H qs (fZ H out f)) f=false;by_cases hq:f∈out\/H out f=false
   ·rcases hq with h1|h1
    ·exact .inl (qP (wW h1))
    refine .inr ?_;rw[<-hL out _ f fun g hg=>?_]
    ·exact h1
    exact⟨fun h2=>qP (wW h2),fun h2=>h g h2 (hg.trans hu)⟩
   have e:fZ H out f=out++[f]:=if_neg hq;exact .inl (qP (by rw[e];simp))
  exact vg hL u qs _ hrest f hf hu
def nM(H:List φ->φ->Bool)(qs:List φ):Nat->List φ->List φ
 | 0,out=>out
 | k+1,out=>if bW H qs out=out then out else nM H qs k (bW H qs out)
def nN(qs out:List φ):Nat:=(qs.filter fun f=>decide (f ∉ out)).length
theorem O0(qs:List φ){a b:List φ}(h:∀g∈a,g∈b):nN qs b<=nN qs a:=by
 unfold nN
 induction qs with
 | nil=>simp
 | cons q qs ih =>
  simp only[Xm];by_cases hb:q∈b
  ·by_cases ha:q∈a
   ·simp[ha,hb];simpa using ih
   simp[ha,hb];have:=ih;simp at this;omega
  have ha:q ∉ a:=fun e=>hb (h q e);simp[ha,hb];simpa using ih
theorem O1(qs:List φ){a b:List φ}(h:∀g∈a,g∈b){x:φ}(hx:x∈qs)(ha:x ∉ a)(hb:x∈b):nN qs b<nN qs a:=by
 induction qs with
 | nil=>cases hx
 | cons q qs ih =>
  have hle:=O0 qs h;unfold nN at ih hle⊢;simp only[Xm];rcases Ws.1 hx with rfl|hx
  ·simp[ha,hb];simp at hle;omega
  have:=ih hx;by_cases h1:q∈b
  ·by_cases h2:q∈a
   ·simp[h1,h2];simpa using this
   simp[h1,h2];simp at this;omega
  have h2:q ∉ a:=fun e=>h1 (h q e);simp[h1,h2];simpa using this
theorem Da{qs out:List φ}(h:bW H qs out≠out):nN qs (bW H qs out)<nN qs out:=by
 obtain⟨n,e,hn⟩:=kL (H:=H) qs out;cases n with
 | nil=>exact absurd (by simpa using e) h
 | cons x n =>
  obtain⟨h1,h2⟩:=hn x (Xf ..);exact O1 qs (fun g hg=>qP hg) h1 h2 (by rw[e];simp)
theorem zX(qs:List φ):∀(k j:Nat) (out:List φ),nN qs out<k->nN qs out<j->nM H qs k out=nM H qs j out
 | 0,_,_,h,_=>absurd h (Xg _)
 | _+1,0,_,_,h=>absurd h (Xg _)
 | k+1,j+1,out,h1,h2=>by
  unfold nM;by_cases e:bW H qs out=out
  ·rw[if_pos e,if_pos e]
  rw[if_neg e,if_neg e];have:=Da (H:=H) e;exact zX qs k j _ (by omega) (by omega)
def pM(H:List φ->φ->Bool)(qs out:List φ):List φ:=nM H qs (nN qs out+1) out
theorem wY{qs out:List φ}(h:bW H qs out=out):pM H qs out=out:=by
 unfold pM nM;rw[if_pos h]
theorem Db(qs out:List φ):pM H qs (bW H qs out)=pM H qs out:=by
 by_cases h:bW H qs out=out
 ·rw[h]
 have hlt:=Da (H:=H) h;have e:pM H qs out=nM H qs (nN qs out) (bW H qs out):=by
  show nM H qs (nN qs out+1) out=_;rw[nM,if_neg h]
 rw[e];unfold pM;exact zX qs _ _ _ (Nat.lt_succ_self _) hlt
theorem O3(out:List φ):pM H [] out=out:=wY rfl
theorem Dc(qs:List φ):∀(k:Nat) (out:List φ),∃new,nM H qs k out=out++new/\∀g∈new,g∈qs
 | 0,out=>⟨[],by simp[nM],fun g hg=>by cases hg⟩
 | k+1,out=>by
  unfold nM;split
  ·exact⟨[],by simp,fun g hg=>by cases hg⟩
  obtain⟨n1,e1,h1⟩:=kL (H:=H) qs out;obtain⟨n2,e2,h2⟩:=Dc qs k (bW H qs out);refine⟨n1++n2,by rw[e2,e1,WE],fun g hg=>?_⟩;rcases Wj.1 hg with hg|hg
  ·exact(h1 g hg).1
  exact h2 g hg
theorem zY(qs:List φ):∀(k:Nat) {out:List φ},out.Nodup->(nM H qs k out).Nodup
 | 0,_,h=>h
 | k+1,out,h=>by
  unfold nM;split
  ·exact h
  exact zY qs k (wX qs h)
theorem Mf(qs:List φ){out:List φ}(h:out.Nodup):(pM H qs out).Nodup:=zY qs _ h
theorem Few.round[DecidableEq υ](hL:Loc us H){qs:List φ}{users:List υ}{out:List φ}(h:Few us H qs users out):bW H (qs.filter fun f=>decide (us f∈users)) out=bW H qs out :=
 (nJ hL (fun u=>decide (u∈users)) qs out fun f hf hp=>h.set f hf (by simpa using hp)).symm
theorem Few.next[DecidableEq υ](hL:Loc us H){qs:List φ}{users users':List υ}{out new:List φ}(h:Few us H qs users out)(hn:bW H qs out=out++new)(hu:∀u,u∈users'↔u∈users/\∃g∈new,us g=u):Few us H qs users' (out++new):=by
 refine⟨fun f hf hnf=>?_⟩;have key:∀g∈bW H qs out,us g=us f->g∈out:=fun g hg hgu=>by
  rw[hn]at hg;rcases Wj.1 hg with hg|hg
  ·exact hg
  by_cases hin:us f∈users
  ·exact absurd ((hu _).2 ⟨hin,g,hg,hgu⟩) hnf
  -- a user that was left out before finds none
  have e:=h.round hL;obtain⟨n2,e2,h2⟩:=kL (H:=H) (qs.filter fun f=>decide (us f∈users)) out;rw[e,hn]at e2;have e3:new=n2:=List.append_cancel_left e2;rw[e3]at hg;have h3:=(h2 g hg).1;rw[WW]at h3;have h4:us g∈users:=by simpa using h3.2
  rw[hgu]at h4;exact absurd h4 hin
 have:=vg hL (us f) qs out key f hf rfl;rw[hn]at this;exact this
theorem Few.done{qs:List φ}{out:List φ}(h:Few us H qs [] out):pM H qs out=out:=wY (Me fun f hf=>h.set f hf List.not_mem_nil)
end
end Go.Proofs.YtcgdckphpjfmhaaGreatDoor
