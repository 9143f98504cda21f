/- The frame of a region's operations, read off the frame that stands there: the values of the operations in their places. -/
import Derived.Test.YtojjoblnpldniaaGreatSq
import Derived.Test.YtojjoblnpldniaaGreatJ1
import Derived.Test.YtojjoblnpldniaaGreatNamesL
import Derived.Maps.OwnSet
import Derived.DeepKeys4
import Derived.Lib.IndexMore
import Derived.Lib.IndexBytes
import Derived.Lib.Strings
import Derived.WideKeyEntry
import Derived.WalkArith
open Go.Proofs.Tryz
namespace Go.Proofs.YtojjoblnpldniaaGreat
open RowKit
def Em(a:Act)(L:(Nat->Value)->List Value)(f:Nat->Value):Act:={ a with tmps:=(L f).toArray }
def Rs(f:Nat->Value):List Value->Nat->List Nat->List Value
 | _::l,0,k::ks=>f k::Rs f l 0 ks
 | v::l,n+1,ks=>v::Rs f l n ks
 | l,_,_=>l
def TH(i:Nat):List Value->Nat->List Nat->Value
 | v::l,0,k::ks=>if i=k then v else TH i l 0 ks
 | _::l,n+1,ks=>TH i l n ks
 | _,_,_=>undef
def puts(f:Nat->Value):List (Nat×List Nat)->List Value->List Value
 | [],l=>l
 | (n,ks)::r,l=>puts f r (Rs f l n ks)
def olds(i:Nat):List (Nat×List Nat)->List Value->Value
 | [],_=>undef
 | (n,ks)::r,l=>if i∈ks then TH i l n ks else olds i r l
theorem F5{a:Act}{L:(Nat->Value)->List Value}(s:List (Nat×List Nat))(_hL:∀f,puts f s a.tmps.toList=L f:=by intro f;simp only[puts,Rs,List.toList_toArray];rfl)(hs:(L fun i=>olds i s a.tmps.toList).toArray=a.tmps:=by kernel_rfl):a=Em a L (fun i=>olds i s a.tmps.toList):=by
 unfold Em;rw[hs]
variable  {P:Program}{ops:Array Oper}{Q:Exit->Act->World->Prop}
def zf(ops:Array Oper):Bool:=(List.range ops.size).all (fun i=>(ops[i]?.map (fun o=>o.after.all (fun e=>!Region.binds .any e || decide (e.on<i)))).getD true)
theorem rF{ops:Array Oper}(h:zf ops=true):∀(i:Nat) (o:Oper),ops[i]?=some o->∀e∈o.after,Region.binds .any e=true->e.on<i:=by
 intro i o ho e he hb;rw[zf,VC]at h;have h1:=h i (by simpa using (Vw.1 ho).1);rw[ho]at h1;simp only[Option.map_some,Wd,Array.all_eq_true_iff_forall_mem]at h1;have h2:=h1 e he;rw[hb]at h2;simpa using h2
theorem qi{listed:Array Bool}{n:Nat}(hr:Region.ready .any ops listed=[])(hs:ops.size=n)(Xz:∀(i:Nat) (o:Oper),ops[i]?=some o->∀e∈o.after,Region.binds .any e=true->e.on<i)(hsz:listed.size=n):∀i,i<n->listed.getD i true=true:=by
 intro i
 induction i using Nat.strongRecOn with
 | ind i ih =>
  intro hi;cases hl:listed.getD i true;case true=>rfl
  exfalso;have hmem:i∈Region.ready .any ops listed:=by
   refine mem_ready.2 ⟨hl,ops[i]'(by omega),Wn (by omega),fun e he hb=>?_⟩;have hlt:=Xz i _ (Wn (by omega)) e he hb;have:=ih e.on hlt (by omega);rw[VP,Wn (by omega)]at this ⊢;simpa using this
  rw[hr]at hmem;cases hmem
def yR(ops:Array Oper)(L:Nat):Bool:=(List.range L).all fun j=>(List.range (L+1)).any fun k=>decide (j<k)&&(ops[k]?.map (fun o=>o.after.any (fun e=>e.on==j&&Region.binds .any e))).getD false
theorem IZ{ops:Array Oper}{L:Nat}(h:yR ops L=true):∀j,j<L->∃k o,j<k/\k<=L/\ops[k]?=some o/\∃e∈o.after,e.on=j/\Region.binds .any e=true:=by
 intro j hj;rw[yR,VC]at h;have h1:=h j (List.mem_range.2 hj);rw[VT]at h1;obtain⟨k,hk,h2⟩:=h1;simp only[Vt,VF]at h2;cases ho:ops[k]? with
 | none=>rw[ho]at h2;simp at h2
 | some o =>
  rw[ho]at h2;simp only[Option.map_some,Wd]at h2;obtain⟨h3,h4⟩:=h2;rw[Array.any_eq_true']at h4;obtain⟨e,he,h5⟩:=h4;simp only[Vt,beq_iff_eq]at h5;exact⟨k,o,h3,by have:=List.mem_range.1 hk;omega,ho,e,he,h5.1,h5.2⟩
def Shut(ops:Array Oper)(listed:Array Bool):Prop:=∀(k:Nat) (o:Oper),ops[k]?=some o->listed.getD k false=true->∀e∈o.after,Region.binds .any e=true->listed.getD e.on false=true
theorem OB{ops:Array Oper}{listed:Array Bool}{L:Nat}(hlo:yR ops L=true)(hS:Shut ops listed){o:Oper}(ho:ops[L]?=some o)(hpre:∀e∈o.after,Region.binds .any e=true->listed.getD e.on false=true):∀d j,j+d=L->j<L->listed.getD j false=true:=by
 intro d
 induction d using Nat.strongRecOn with
 | ind d ih =>
  intro j hjd hj;obtain⟨k,o',h1,h2,h3,e,he,h4,h5⟩:=IZ hlo j hj;by_cases hk:k=L
  ·subst hk;rw[ho]at h3;injection h3 with h3;subst h3;rw[<-h4];exact hpre e he h5
  have:=ih (L-k) (by omega) k (by omega) (by omega);rw[<-h4];exact hS k o' h3 this e he h5
theorem lW{id:Nat}{a:Act}{w:ae}(L:Nat)(f0:Nat->Value)(F:(Nat->Value)->Act)(V:Nat->Value->World->Prop)(G:Array Bool->World->Prop)
  (hm:P.follows .mixedOrders=true) (hsz:ops.size=L+1) (Xz:zf ops=true) (hlo:yR ops L=true)
  (h0:a=F f0) (hG0:G (Array.replicate ops.size false) w.drew)
  (hstep:∀ i,i<L->∀ o,ops[i]?=some o->∀ (listed:Array Bool) f w',listed.size=L+1->listed.getD i true=false->G listed w'->(∀ e∈o.after,Region.binds .any e=true->V e.on (f e.on) w') ->
   wpOp P ops Q i (fun a' w''=>∃v,a'=F (upd f i v)/\G (listed.setIfInBounds i true) w''/\V i v w''/\∀k u,k≠i->V k u w'->V k u w'') (F f) w')
  (hfin:∀o,ops[L]?=some o->∀(listed:Array Bool) f w',G listed w'->(∀k,k<L->V k (f k) w')->wpOp P ops Q L (fun a' w''=>Q .normal a' w'') (F f) w') :
  (Code.region id ops true).wp P Q a w:=by
 refine gG (fun listed a' w'=>listed.size=L+1/\((listed.getD L false=false/\Shut ops listed/\∃f,a'=F f/\G listed w'/\∀k,k<L->listed.getD k false=true->V k (f k) w')\/((∀j,j<=L->listed.getD j true=true)/\Q .normal a' w'))) hm ?_ ?_ ?_
 ·refine⟨by simpa using hsz,Or.inl ⟨?_,fun k o _ h=>?_,_,h0,hG0,fun k _ h=>?_⟩⟩
  ·rw[VP,Wh];split<;>rfl
  ·rw[VP,Wh]at h;split at h<;>cases h
  rw[VP,Wh]at h;split at h<;>cases h
 ·rintro listed a' w' ⟨hs,h⟩ i hi;obtain⟨hl,o,ho,hpre⟩:=mem_ready.1 hi;have hiL:i<L+1:=by have:=(Vw.1 ho).1;omega
  rcases h with⟨hn,hS,f,rfl,hG,hV⟩|⟨hall,-⟩
  ·by_cases e:i=L
   ·subst e;have hall:∀k,k<i->listed.getD k false=true:=fun k hk=>OB hlo hS ho hpre (i-k) k (by omega) hk;refine wpOp_mono (fun a'' w'' hq=>⟨by simpa using hs,Or.inr ⟨fun j hj=>?_,hq⟩⟩) (hfin o ho listed f w' hG (fun k hk=>hV k hk (hall k hk)));rw[ku (by simp;omega),aO _ _ _ (by omega)];by_cases e:j=i
    ·simp[e]
    rw[if_neg e];exact hall j (by omega)
   refine wpOp_mono ?_ (hstep i (by omega) o ho listed f w' hs hl hG (fun e he hb=>hV e.on (by have:=rF Xz i o ho e he hb;omega) (hpre e he hb)));rintro a'' w'' ⟨v,rfl,hG',hv,hmono⟩;refine⟨by simpa using hs,Or.inl ⟨?_,fun k o' ho' hkl e' he' hb'=>?_,_,rfl,hG',fun k hk hkl=>?_⟩⟩
   ·rw[aO _ _ _ (by omega),if_neg (Ne.symm e)];exact hn
   ·rw[aO _ _ _ (by omega)]at hkl ⊢;by_cases ee:e'.on=i
    ·rw[if_pos ee]
    rw[if_neg ee];by_cases ek:k=i
    ·subst ek;rw[ho]at ho';injection ho' with ho';subst ho';exact hpre e' he' hb'
    rw[if_neg ek]at hkl;exact hS k o' ho' hkl e' he' hb'
   rw[aO _ _ _ (by omega)]at hkl;by_cases ek:k=i
   ·subst ek;simpa[upd] using hv
   rw[if_neg ek]at hkl;simp only[upd,if_neg ek];exact hmono _ _ ek (hV k hk hkl)
  rw[hall i (by omega)]at hl;cases hl
 rintro listed a' w' ⟨hs,h⟩ hr;rcases h with⟨hn,-⟩|⟨-,hq⟩
 ·have:=qi hr hsz (rF Xz) hs L (by omega);rw[ku (by omega)]at this;rw[this]at hn;cases hn
 exact hq
open ChangeAt ChangeShapes Maps WideShapes
def zg(v:Value):Option (DataW Value×List MemPlace):=some (.held v,[])
section
variable  {K:Type}(enc:K->Value)(P:Program)(k:TypeId)
def En(D:DataW Value)(kl:Lit):Option Value->Prop
 | none=>Maps.has D kl=false/\∀z,D.atKey kl z=z
 | some v=>Maps.has D kl=true/\∀z,D.atKey kl z=.held v
def aJ(w:World)(b n:Nat)(M:K->Option Value):Prop :=
 ∃D:DataW Value,w.ownsMap P k zg b n D/\∀x kl,keyOf P k (enc x)=some kl->En D kl (M x)
def jO[DecidableEq K](M:K->Option Value)(x:K)(v:Option Value):K->Option Value:=fun y=>if y=x then v else M y
end
section
variable  {K:Type}{enc:K->Value}{P:Program}{k:TypeId}{w:World}{b n:Nat}{M:K->Option Value}
theorem dM[DecidableEq K](M:K->Option Value)(x:K)(v:Option Value):jO M x v x=v:=by simp[jO]
theorem bG[DecidableEq K]{M:K->Option Value}{x y:K}{v:Option Value}(h:y≠x):jO M x v y=M y:=by simp[jO,h]
theorem lI(enc:K->Value)(P:Program)(k:TypeId)(w:ae):aJ enc P k (w.alloc (.map #[] 0)) w.heap.size 0 (fun _=>none) :=
 ⟨.map [],World.ownsMap_made w P k zg,fun _ kl _=>⟨rfl,fun z=>by simp[DataW.atKey]⟩⟩
theorem aJ.lt(h:aJ enc P k w b n M):b<w.heap.size:=by obtain⟨D,h1,-⟩:=h;exact h1.lt
theorem aJ.mono(h:aJ enc P k w b n M){n':Nat}(hn:n<=n'):aJ enc P k w b n' M:=by obtain⟨D,h1,h2⟩:=h;exact⟨D,h1.mono hn,h2⟩
theorem aJ.kept{w':ae}{row:Option Nat}(h:aJ enc P k w b n M)(hg:w.grownBy w' row)(hne:some b≠row):aJ enc P k w' b n M:=by
 obtain⟨D,h1,h2⟩:=h;exact⟨D,h1.kept hg hne,h2⟩
theorem aJ.below{w':ae}(h:aJ enc P k w b n M)(hB:ag w w'):aJ enc P k w' b n M :=
 h.kept (row:=none) ⟨hB.os,hB.tape,hB.output,hB.size,fun k hk _=>hB.block k hk⟩ (by simp)
theorem aJ.setCell(h:aJ enc P k w b n M){a:Addr}(ha:b≠a.block)(u:Value):aJ enc P k (w.setCell a u) b n M:=by
 obtain⟨D,h1,h2⟩:=h;exact⟨D,h1.setCell ha u,h2⟩
theorem aJ.look{t e:TypeId}(h:aJ enc P k w b n M)(L:Keyed P k)(ht:P.underlying t=some (.map k e)){z:Value}(hz:(zeroValue e).run P w=.ok z w){x:K}{kl:Lit}(hkey:keyOf P k (enc x)=some kl):
  (Instr.lookup t (.map (some b)) (enc x) false).run P w=.ok ((M x).getD z) w:=by
 obtain⟨D,h1,h2⟩:=h;obtain⟨v,ps,hrun,hv⟩:=h1.lookup L ht hz (zd:=.held z) (zp:=[]) rfl hkey;have h3:=h2 x kl hkey;rw[hrun];have:v=(M x).getD z:=by
  simp only[zg,Option.some.injEq,Prod.mk.injEq]at hv;cases e:M x with
  | none=>rw[e]at h3;rw[h3.2]at hv;injection hv.1 with h4
  | some u=>rw[e]at h3;rw[h3.2]at hv;injection hv.1 with h4
 rw[this]
theorem aJ.look_ok{t e:TypeId}(h:aJ enc P k w b n M)(L:Keyed P k)(ht:P.underlying t=some (.map k e)){z:Value}(hz:(zeroValue e).run P w=.ok z w){x:K}{kl:Lit}(hkey:keyOf P k (enc x)=some kl):
  (Instr.lookup t (.map (some b)) (enc x) true).run P w=.ok (.tuple #[(M x).getD z,.bool (M x).isSome]) w:=by
 obtain⟨D,h1,h2⟩:=h;obtain⟨v,ps,hrun,hv⟩:=h1.look_ok L ht hz (zd:=.held z) (zp:=[]) rfl hkey;have h3:=h2 x kl hkey;rw[hrun];simp only[zg,Option.some.injEq,Prod.mk.injEq]at hv;cases e:M x with
 | none=>rw[e]at h3;rw[h3.2]at hv;injection hv.1 with h4;rw[h4,h3.1];rfl
 | some u=>rw[e]at h3;rw[h3.2]at hv;injection hv.1 with h4;rw[h4,h3.1];rfl
theorem aJ.store[DecidableEq K]{t e:TypeId}(h:aJ enc P k w b n M)(L:Keyed P k)(hinj:∀x y,enc x=enc y->x=y)(ht:P.underlying t=some (.map k e))(hn:n<maxLen){x:K}{kl:Lit}(hkey:keyOf P k (enc x)=some kl)(v:Value):
  ∃w',(Instr.mapUpdate t (.map (some b)) (enc x) v).run P w=.ok () w'/\aJ enc P k w' b (n+1) (jO M x (some v))/\w.grownBy w' (some b):=by
 obtain⟨D,h1,h2⟩:=h;obtain⟨w',hrun,h3,h4⟩:=h1.update L ht hn hkey (val:=v) (d:=.held v) (ps:=[]) rfl;refine⟨w',hrun,⟨D.put kl (.held v),h3,fun y ky hy=>?_⟩,h4⟩;by_cases e:y=x
 ·subst e;obtain rfl:ky=kl:=by rw[hkey]at hy;injection hy with hy;exact hy.symm
  rw[dM];exact⟨has_put_same h1.isMap (L.key hkey) _,fun z=>atKey_put_same h1.isMap (L.key hkey) _ z⟩
 have hne:ky≠kl:=fun e2=>e (hinj _ _ (L.inj (by rw[e2]at hy;exact hy) hkey));rw[bG e];have h5:=h2 y ky hy;cases e3:M y with
 | none=>rw[e3]at h5;exact⟨by rw[has_put_other hne];exact h5.1,fun z=>by rw[atKey_put_other hne];exact h5.2 z⟩
 | some u=>rw[e3]at h5;exact⟨by rw[has_put_other hne];exact h5.1,fun z=>by rw[atKey_put_other hne];exact h5.2 z⟩
end
section
variable  {K:Type}{enc:K->Value}{P:Program}(w:World){ops:Array Oper}{rest:List Oper}{o:Oper}{a:Act}{Q:Exit->Act->World->Prop}
theorem jA(hg:o.guard=none)(m x:Operand)(t:TypeId)(hop:o.op=Op.lookup t m x false)(k e:TypeId)(L:Keyed P k)(ht:P.underlying t=some (.map k e)){z:Value}(hz:(zeroValue e).run P w=.ok z w)(b n:Nat)(M:K->Option Value)
  (hm:a.eval m=.map (some b)) (hV:aJ enc P k w b n M) (y:K) (kl:Lit) (hx:a.eval x=enc y) (hkey:keyOf P k (enc y)=some kl)
  (hK:wpList P ops Q rest (a.put o.dst ((M y).getD z)) w):wpList P ops Q (o::rest) a w:=by
 refine wpList_plain hg fun K' hK'=>?_;have hrun:=hV.look L ht hz hkey;unfold Oper.wp;simp[execOp,hop,hm,hx,hrun,Result.andThen];exact hK' _ _ hK
theorem bZ(hg:o.guard=none)(m x:Operand)(t:TypeId)(hop:o.op=Op.lookup t m x true)(k e:TypeId)(L:Keyed P k)(ht:P.underlying t=some (.map k e)){z:Value}(hz:(zeroValue e).run P w=.ok z w)(b n:Nat)(M:K->Option Value)
  (hm:a.eval m=.map (some b)) (hV:aJ enc P k w b n M) (y:K) (kl:Lit) (hx:a.eval x=enc y) (hkey:keyOf P k (enc y)=some kl)
  (hK:wpList P ops Q rest (a.put o.dst (.tuple #[(M y).getD z,.bool (M y).isSome])) w):wpList P ops Q (o::rest) a w:=by
 refine wpList_plain hg fun K' hK'=>?_;have hrun:=hV.look_ok L ht hz hkey;unfold Oper.wp;simp[execOp,hop,hm,hx,hrun,Result.andThen];exact hK' _ _ hK
theorem iK[DecidableEq K](hg:o.guard=none)(m x v:Operand)(t:TypeId)(hop:o.op=Op.mapUpdate t m x v)(k e:TypeId)(L:Keyed P k)(hinj:∀x y,enc x=enc y->x=y)(ht:P.underlying t=some (.map k e))(b n:Nat)(M:K->Option Value)
  (hm:a.eval m=.map (some b)) (hV:aJ enc P k w b n M) (hn:n<maxLen) (y:K) (kl:Lit) (hx:a.eval x=enc y) (hkey:keyOf P k (enc y)=some kl) (u:Value) (hv:a.eval v=u)
  (hK:∀w',aJ enc P k w' b (n+1) (jO M y (some u))->w.grownBy w' (some b)->wpList P ops Q rest (a.put o.dst undef) w'):wpList P ops Q (o::rest) a w:=by
 refine wpList_plain hg fun K' hK'=>?_;obtain⟨w',hrun,r1,r2⟩:=hV.store L hinj ht hn hkey u;unfold Oper.wp;simp[execOp,hop,hm,hx,hv,hrun,Result.andThen];exact hK' _ _ (hK w' r1 r2)
end
def dU(k:Q01):Value:=.agg #[.string k.1,.string k.2]
theorem uK(x y:Q01)(h:dU x=dU y):x=y:=by
 unfold dU at h;injection h with h;have h1:=congrArg Array.toList h;simp at h1;exact Prod.ext h1.1 h1.2
theorem zh:laidOutB prog=true:=by kernel_rfl
theorem OC:(146:TypeId)<prog.types.size:=of_decide_eq_true (by kernel_rfl)
theorem Rt:(match prog.underlying 146 with|some (.array _ _)|some (.struct _)=>true|_=>false)=true:=by rw[underlying146]
set_option maxRecDepth 100000 in
theorem KZ:WideMaps.KeyLaw prog 146:=deep_law_laid zh (m:=2) (by omega) OC (by kernel_rfl) Rt
theorem iY:Keyed prog 146:=Keyed.of_law KZ
theorem Rv:prog.keyType 146=true:=by kernel_rfl
theorem F6:prog.cellsOf 146=2:=by kernel_rfl
theorem strCells:prog.cellsOf 9=1:=by kernel_rfl
theorem Md:∃n,prog.types.size=n+1:=Nat.exists_eq_succ_of_ne_zero (Nat.ne_of_gt (Nat.lt_of_le_of_lt (Vv _) OC))
theorem kv(k:Q01)(h1:k.1.size<=maxLen)(h2:k.2.size<=maxLen):∃kl,keyOf prog 146 (dU k)=some kl:=by
 obtain⟨n,hn⟩:=Md;refine⟨.string (keyBytes [.string k.1.data.toList,.string k.2.data.toList]),?_⟩;unfold keyOf;rw[underlying146];simp only[Rv,dU,Value.formed,underlying146,F6,hn,Value.cells];simp[Program.keyLits,underlying146,underlying9,F6,strCells,h1,h2]
end Go.Proofs.YtojjoblnpldniaaGreat
namespace Go.Proofs.YtojjoblnpldniaaGreat.Pl
theorem fV{a b:ByteArray}(h:a=b):Ending.returned (.string a)=.returned (.string b):=by rw[h]
theorem K8{s:ByteArray}(h:nN s=true):1<=s.size/\s.size<=12:=by simpa[nN] using h
theorem lX{s:ByteArray}(h:aP s=true):1<=s.size/\s.size<=12:=by
 simp[aP,dO]at h;exact K8 h.1.1
theorem OD{s:ByteArray}(h:pR s=true):1<=s.size/\s.size<=12:=by
 simp[pR,dO]at h;exact K8 h.1
theorem rG{t i:ByteArray}(h:eZ t i=true):t.size<=12/\i.size<=12:=by
 simp[eZ]at h;exact⟨(lX h.1).2,(OD h.2).2⟩
def aB(t i:ByteArray):ByteArray:=if eZ t i then t++⟨#[58]⟩++i else ⟨#[]⟩
theorem mU{t i:ByteArray}(h:eZ t i=true):aB t i=t++⟨#[58]⟩++i:=by simp[aB,h]
theorem tQ{t i:ByteArray}(h:eZ t i=false):aB t i=⟨#[]⟩:=by simp[aB,h]
theorem ik(t i:bQ):(aB t i).size<=25:=by
 unfold aB;split
 ·rename_i h;have h2:=rG h;have e1:(ByteArray.mk #[58]).size=1:=rfl;rw[VK,VK,e1];omega
 exact Vv _
def uL(s:ByteArray):Bool:=s.toList.isEmpty || aP s
def bz(a b r c d s:ByteArray):Bool:=eZ a b&&aP r&&eZ c d&&uL s
def aV(a b r c d s:ByteArray):ByteArray :=
 if bz a b r c d s then
  (if s.toList.isEmpty then aB a b++⟨#[35]⟩++r++⟨#[64]⟩++aB c d else aB a b++⟨#[35]⟩++r++⟨#[64]⟩++aB c d++⟨#[35]⟩++s)
 else ⟨#[]⟩
theorem tT{a b r c d s:ByteArray}(h:bz a b r c d s=false):aV a b r c d s=⟨#[]⟩:=by simp[aV,h]
theorem mV{a b r c d s:ByteArray}(h:bz a b r c d s=true)(hs:s.toList.isEmpty=true):aV a b r c d s=aB a b++⟨#[35]⟩++r++⟨#[64]⟩++aB c d:=by simp[aV,h,hs]
theorem mW{a b r c d s:ByteArray}(h:bz a b r c d s=true)(hs:s.toList.isEmpty=false):aV a b r c d s=aB a b++⟨#[35]⟩++r++⟨#[64]⟩++aB c d++⟨#[35]⟩++s:=by simp[aV,h,hs]
theorem zi{a b r c d s:ByteArray}(h:eZ a b=false):bz a b r c d s=false:=by simp[bz,h]
theorem zk{a b r c d s:ByteArray}(h:aP r=false):bz a b r c d s=false:=by simp[bz,h]
theorem zl{a b r c d s:ByteArray}(h:eZ c d=false):bz a b r c d s=false:=by simp[bz,h]
theorem zm{a b r c d s:ByteArray}(h1:eZ a b=true)(h2:aP r=true)(h3:eZ c d=true):bz a b r c d s=uL s:=by simp[bz,h1,h2,h3]
theorem iZ{a b r c d s:ByteArray}(h:bz a b r c d s=true):eZ a b=true/\aP r=true/\eZ c d=true/\uL s=true:=by
 simp[bz]at h;exact⟨h.1.1.1,h.1.1.2,h.1.2,h.2⟩
theorem zn{s:ByteArray}(h:s.toList.isEmpty=true):s.size=0:=by
 rw[Go.ByteArray.toList_eq]at h;have h2:s.data.toList=[]:=by simpa using h
 have h3:s.data.toList.length=0:=by rw[h2];rfl
 simpa using h3
theorem yS{s:ByteArray}(h:uL s=true):s.size<=12:=by
 simp only[uL,Bool.or_eq_true]at h;rcases h with h|h
 ·have:=zn h;omega
 exact(lX h).2
def iL(c:UInt8):List UInt8->List UInt8×List UInt8×Bool
 | []=>([],[],false)
 | b::l=>if b=c then ([],l,true) else (b::(iL c l).1,(iL c l).2.1,(iL c l).2.2)
theorem Rx{c:UInt8}{l:List UInt8}{k:Nat}(hk:k<l.length)(hn:∀x∈l.take k,x≠c)(hc:l[k]=c):iL c l=(l.take k,l.drop (k+1),true):=by
 induction l generalizing k with
 | nil=>simp at hk
 | cons b l ih =>
  cases k with
  | zero=>simp at hc;simp[iL,hc]
  | succ k =>
   have hb:b≠c:=hn b (by simp);have:=ih (k:=k) (by simpa using hk) (fun x hx=>hn x (by simp[hx])) (by simpa using hc);simp[iL,hb,this]
theorem rH{c:UInt8}{l:List UInt8}(hn:∀x∈l,x≠c):iL c l=(l,[],false):=by
 induction l with
 | nil=>rfl
 | cons b l ih =>
  have hb:b≠c:=hn b (by simp);have:=ih (fun x hx=>hn x (by simp[hx]));simp[iL,hb,this]
theorem F7(c:UInt8)(l:List UInt8):(iL c l).1.length<=l.length/\(iL c l).2.1.length<=l.length:=by
 induction l with
 | nil=>simp[iL]
 | cons b l ih =>
  unfold iL;split
  ·simp
  simp;omega
def kw(c:UInt8)(s:ByteArray):ByteArray:=⟨(iL c s.data.toList).1.toArray⟩
def iC(c:UInt8)(s:ByteArray):ByteArray:=⟨(iL c s.data.toList).2.1.toArray⟩
def oN(c:UInt8)(s:ByteArray):Bool:=(iL c s.data.toList).2.2
theorem CL(l:List UInt8):(ByteArray.mk l.toArray).size=l.length:=rfl
theorem Ry(c:UInt8)(s:bQ):(kw c s).size<=s.size:=by
 unfold kw;rw[CL];exact(F7 c s.data.toList).1
theorem K9(c:UInt8)(s:bQ):(iC c s).size<=s.size:=by
 unfold iC;rw[CL];exact(F7 c s.data.toList).2
theorem gp{a b:ByteArray}(h:a.data.toList=b.data.toList):a=b:=by
 cases a;cases b;simp at h;simp[h]
def TI(c:UInt8)(s:ByteArray)(k:Nat):Prop:=∀x∈s.data.toList.take k,x≠c
theorem OE(c:UInt8)(s:bQ):TI c s 0:=by intro x hx;simp at hx
theorem OG{c:UInt8}{s:ByteArray}{k:Nat}(h:k<s.size)(hn:TI c s k)(hc:s[k]≠c):TI c s (k+1):=by
 intro x hx;rw[CK s k h]at hx;simp at hx;rcases hx with hx|hx
 ·exact hn x (by simpa using hx)
 subst hx;exact hc
theorem TJ{c:UInt8}{s:ByteArray}{k:Nat}(h:k<s.size)(hn:TI c s k)(hc:s[k]=c):iL c s.data.toList=(s.data.toList.take k,s.data.toList.drop (k+1),true) :=
 Rx (by simpa using h) hn (by simpa[ByteArray.getElem_eq_getElem_data] using hc)
theorem OH{c:UInt8}{s:ByteArray}{k:Nat}(h:s.size<=k)(hn:TI c s k):iL c s.data.toList=(s.data.toList,[],false) :=
 rH (fun x hx=>hn x (by rw[V8 (by simpa using h)];exact hx))
def UE(s:ByteArray):Bool:=eZ (kw 58 s) (iC 58 s)
def Vk(s:ByteArray):ByteArray:=if UE s then kw 58 s else ⟨#[]⟩
def Vl(s:ByteArray):ByteArray:=if UE s then iC 58 s else ⟨#[]⟩
theorem Me{c:UInt8}{l:List UInt8}(h:(iL c l).2.2=false):(iL c l).2.1=[]:=by
 induction l with
 | nil=>rfl
 | cons b l ih =>
  unfold iL at h⊢;split
  ·rename_i hb;simp[hb]at h
  rename_i hb;simp[hb]at h;simpa[hb] using ih h
theorem OI{c:UInt8}{s:ByteArray}(h:oN c s=false):iC c s=⟨#[]⟩:=by
 unfold oN at h;unfold iC;rw[Me h]
theorem OJ{s:ByteArray}(h:UE s=true):Vk s=kw 58 s/\Vl s=iC 58 s:=by simp[Vk,Vl,h]
theorem OL{c:UInt8}{l m:List UInt8}(h:∀x∈l,x≠c):iL c (l++c::m)=(l,m,true):=by
 induction l with
 | nil=>simp[iL]
 | cons b l ih =>
  have hb:b≠c:=h b (by simp);have:=ih (fun x hx=>h x (by simp[hx]));simp[iL,hb,this]
theorem CO(c:UInt8)(s:bQ):(kw c s).data.toList=(iL c s.data.toList).1:=by simp[kw]
theorem CP(c:UInt8)(s:bQ):(iC c s).data.toList=(iL c s.data.toList).2.1:=by simp[iC]
theorem F8(a b:bQ):(a++b).data.toList=a.data.toList++b.data.toList:=by simp[ByteArray.data_append]
theorem yT{c:UInt8}{s:ByteArray}{l m:List UInt8}(hs:s.data.toList=l++c::m)(h:∀x∈l,x≠c):(kw c s).data.toList=l/\(iC c s).data.toList=m/\oN c s=true:=by
 rw[CO,CP,oN,hs,OL h];exact⟨rfl,rfl,rfl⟩
theorem RA{c:UInt8}{s:ByteArray}(h:∀x∈s.data.toList,x≠c):kw c s=s/\iC c s=⟨#[]⟩/\oN c s=false:=by
 refine⟨gp ?_,gp ?_,?_⟩
 ·rw[CO,rH h]
 ·rw[CP,rH h]
 rw[oN,rH h]
def OM(l:List UInt8):Prop:=∀x∈l,x≠35/\x≠58/\x≠64
theorem CR{x:UInt8}(h:yN x=true):x≠35/\x≠58/\x≠64:=by
 refine⟨?_,?_,?_⟩<;>(rintro rfl;revert h;decide)
theorem I1{x:UInt8}(h:eY x=true):x≠35/\x≠58/\x≠64:=CR (by simp[yN,h])
theorem qj{s:ByteArray}(h:aP s=true):OM s.data.toList:=by
 simp only[aP,dO,sI,Vt,VC]at h;exact fun x hx=>I1 (h.1.2 x hx)
theorem F9{s:ByteArray}(h:pR s=true):OM s.data.toList:=by
 simp only[pR,dO,sI,Vt,VC]at h;exact fun x hx=>CR (h.2 x hx)
theorem tV{a b:ByteArray}(h:eZ a b=true):aP a=true/\pR b=true:=by simpa[eZ] using h
theorem uM{a b:ByteArray}(h:eZ a b=true):(aB a b).data.toList=a.data.toList++58::b.data.toList:=by
 rw[mU h,F8,F8];simp
theorem sO{a b:ByteArray}(h:eZ a b=true):∀x∈(aB a b).data.toList,x≠35/\x≠64:=by
 intro x hx;rw[uM h]at hx;have h1:=qj (tV h).1;have h2:=F9 (tV h).2;simp only[VE,VH]at hx;rcases hx with hx|hx|hx
 ·exact⟨(h1 x hx).1,(h1 x hx).2.2⟩
 ·subst hx;decide
 exact⟨(h2 x hx).1,(h2 x hx).2.2⟩
theorem oO{a b:ByteArray}(h:eZ a b=true):UE (aB a b)=true/\Vk (aB a b)=a/\Vl (aB a b)=b:=by
 obtain⟨h1,h2,-⟩:=yT (c:=58) (uM h) (fun x hx=>(qj (tV h).1 x hx).2.1);have e1:kw 58 (aB a b)=a:=gp h1;have e2:iC 58 (aB a b)=b:=gp h2;have hb:UE (aB a b)=true:=by rw[UE,e1,e2];exact h
 exact⟨hb,by rw[(OJ hb).1,e1],by rw[(OJ hb).2,e2]⟩
def CS(s:ByteArray):List UInt8:=if s.toList.isEmpty then [] else 35::s.data.toList
theorem Eo{a b r c d s:ByteArray}(h:bz a b r c d s=true):
  (aV a b r c d s).data.toList=(aB a b).data.toList++35::(r.data.toList++64::((aB c d).data.toList++CS s)):=by
 by_cases hs:s.toList.isEmpty=true
 ·rw[mV h hs,CS,if_pos hs];simp
 have hs':s.toList.isEmpty=false:=by simpa using hs
 rw[mW h hs',CS,if_neg hs];simp
theorem OO{s:ByteArray}(h:s.toList.isEmpty=true):s=⟨#[]⟩:=by
 refine gp ?_;rw[Go.ByteArray.toList_eq]at h;simpa using h
theorem OP{o s x:ByteArray}(ho:∀y∈o.data.toList,y≠35)(hx:x.data.toList=o.data.toList++CS s):
  kw 35 x=o/\iC 35 x=s/\oN 35 x=!s.toList.isEmpty:=by
 by_cases hs:s.toList.isEmpty=true
 ·have e:x=o:=gp (by rw[hx,CS,if_pos hs];simp);subst e;obtain⟨h1,h2,h3⟩:=RA (c:=35) (s:=x) ho;exact⟨h1,by rw[h2,OO hs],by rw[h3,hs];rfl⟩
 rw[CS,if_neg hs]at hx;obtain⟨h1,h2,h3⟩:=yT hx ho;have hs':s.toList.isEmpty=false:=by simpa using hs
 exact⟨gp h1,gp h2,by rw[h3,hs'];rfl⟩
def i1(s:ByteArray):=iC 35 s
def i2(s:ByteArray):=iC 64 (i1 s)
theorem zo{a b r c d t s:ByteArray}(h:bz a b r c d t=true)(hs:aV a b r c d t=s):
  kw 35 s=aB a b/\kw 64 (i1 s)=r/\kw 35 (i2 s)=aB c d/\iC 35 (i2 s)=t:=by
 obtain⟨h1,h2,h3,h4⟩:=iZ h;have hl:=Eo h;rw[hs]at hl;obtain⟨c1,c2,-⟩:=yT hl (fun x hx=>(sO h1 x hx).1);obtain⟨d1,d2,-⟩:=yT (s:=i1 s) c2 (fun x hx=>(qj h2 x hx).2.2);obtain⟨e1,e2,-⟩:=OP (o:=aB c d) (s:=t) (x:=i2 s) (fun x hx=>(sO h3 x hx).1) d2;exact⟨gp c1,gp d1,e1,e2⟩
def I4(s a b r c d t:ByteArray)(f:Bool):Prop :=
 (f=true/\bz a b r c d t=true/\aV a b r c d t=s) \/
 (f=false/\(a=⟨#[]⟩/\b=⟨#[]⟩/\r=⟨#[]⟩/\c=⟨#[]⟩/\d=⟨#[]⟩/\t=⟨#[]⟩)/\∀a b r c d t,bz a b r c d t=true->aV a b r c d t≠s)
theorem qo{a b r c d t a' b' r' c' d' t':ByteArray}(h:bz a b r c d t=true)(h':bz a' b' r' c' d' t'=true)(e:aV a b r c d t=aV a' b' r' c' d' t'):
  a=a'/\b=b'/\r=r'/\c=c'/\d=d'/\t=t':=by
 obtain⟨x1,x2,x3,x4⟩:=zo h e;obtain⟨y1,y2,y3,y4⟩:=zo h' rfl;obtain⟨p1,p2,p3,p4⟩:=iZ h;obtain⟨q1,q2,q3,q4⟩:=iZ h';have o1:aB a b=aB a' b':=x1.symm.trans y1;have o2:aB c d=aB c' d':=x3.symm.trans y3;obtain⟨-,u1,u2⟩:=oO p1;obtain⟨-,v1,v2⟩:=oO q1;obtain⟨-,u3,u4⟩:=oO p3;obtain⟨-,v3,v4⟩:=oO q3;rw[o1]at u1 u2;rw[o2]at u3 u4;exact⟨u1.symm.trans v1,u2.symm.trans v2,x2.symm.trans y2,u3.symm.trans v3,u4.symm.trans v4,x4.symm.trans y4⟩
theorem I4.one{s a b r c d t a' b' r' c' d' t':ByteArray}{f f':Bool}(h:I4 s a b r c d t f)(h':I4 s a' b' r' c' d' t' f'):
  (a=a'/\b=b'/\r=r'/\c=c'/\d=d'/\t=t')/\f=f':=by
 rcases h with⟨rfl,h1,h2⟩|⟨rfl,h1,h2⟩
 ·rcases h' with⟨rfl,k1,k2⟩|⟨rfl,k1,k2⟩
  ·exact⟨qo h1 k1 (h2.trans k2.symm),rfl⟩
  exact absurd h2 (k2 _ _ _ _ _ _ h1)
 rcases h' with⟨rfl,k1,k2⟩|⟨rfl,k1,k2⟩
 ·exact absurd k2 (h2 _ _ _ _ _ _ k1)
 obtain⟨rfl,rfl,rfl,rfl,rfl,rfl⟩:=h1;obtain⟨rfl,rfl,rfl,rfl,rfl,rfl⟩:=k1;exact⟨⟨rfl,rfl,rfl,rfl,rfl,rfl⟩,rfl⟩
end Go.Proofs.YtojjoblnpldniaaGreat.Pl
namespace Go.Proofs.YtojjoblnpldniaaGreat
open ChangeShapes WideShapes ChangeAt RowKit Maps
open Go.ChangeMaps (setBlock heap_setBlock_same heap_setBlock_other)
section
variable  {K:Type}{enc:K->Value}{P:Program}{k:TypeId}{w:World}{b n:Nat}{M:K->Option Value}
theorem aJ.of_block{w':ae}(h:aJ enc P k w b n M)(e:w'.heap[b]?=w.heap[b]?):aJ enc P k w' b n M:=by
 obtain⟨D,⟨es,clock,hb,r⟩,h2⟩:=h;exact⟨D,⟨es,clock,e.trans hb,r⟩,h2⟩
theorem qp{w:ae}{b:Nat}{es es':Array MapEntry}{c c':Nat}(hb:w.heap[b]?=some (.map es c)):w.grownBy (setBlock w b (.map es' c')) (some b) :=
 ⟨rfl,rfl,rfl,by simp[setBlock],fun i _ hi=>heap_setBlock_other hb _ (fun e=>hi (by rw[e]))⟩
theorem aJ.entry[DecidableEq K]{t e:TypeId}(h:aJ enc P k w b n M)(L:WideMaps.KeyLaw P k)(hinj:∀x y,enc x=enc y->x=y)(ht:P.underlying t=some (.map k e)){z:Value}(hz:∀u:World,(zeroValue e).run P u=.ok z u)(hn:n<maxLen){x:K}{kl:Lit}(hkey:keyOf P k (enc x)=some kl):
  ∃(st:Nat) (w1:World),(Instr.mapEntry t (.map (some b)) (enc x)).run P w=.ok (.tuple #[(M x).getD z,goInt st]) w1/\w.grownBy w1 (some b) /\
   ∀(w2:World) (val:Value),w2.heap[b]?=w1.heap[b]?→∃w3,(Instr.entryStore t (.map (some b)) (goInt st) val).run P w2=.ok () w3/\aJ enc P k w3 b (n+1) (jO M x (some val))/\w2.grownBy w3 (some b):=by
 have LK:=Keyed.of_law L;have hlook:=h.look LK ht (hz w) hkey;have hst:=fun v=>h.store LK hinj ht hn hkey v;obtain⟨D,⟨es,clock,hb,F,hs,hD⟩,h2⟩:=h;obtain⟨v0,st,es1,clock1,hrun,hv0,hback⟩:=WideElems.entry_then_store L ht hz hb F hkey;have hb1:(setBlock w b (.map es1 clock1)).heap[b]?=some (.map es1 clock1):=heap_setBlock_same hb _;have ev:v0=(M x).getD z:=by
  have hl:=hlook;rcases Maps.fit_look false LK ht (hz w) hb F hkey with⟨Ya,hno,-⟩|⟨e0,y,hmem,hek,Ya,-,-,-⟩
  ·rw[hl]at Ya;injection Ya with e1;rcases hv0 with⟨e0,hm,hk0,-⟩|⟨-,hz0⟩
   ·exact absurd hk0 (hno e0 hm)
   rw[hz0,e1];rfl
  rw[hl]at Ya;injection Ya with e1;rcases hv0 with⟨e1',hm,hk0,hv⟩|⟨hno,-⟩
  ·have hnd:=F.stamped.2.2;have:e1'=e0:=by
    have h3:e1'.key=e0.key:=by rw[hk0,hek]
    obtain⟨i,hi,hie⟩:=V7.1 hm;obtain⟨j,hj,hje⟩:=V7.1 hmem;have h4:(es.toList.map (·.key))[i]'(by simpa using hi)=(es.toList.map (·.key))[j]'(by simpa using hj):=by simp only[List.getElem_map,hie,hje];exact h3
    have h6:=List.pairwise_iff_getElem.1 hnd;have h5:i=j:=by
     rcases Nat.lt_trichotomy i j with hl|hl|hl
     ·exact absurd h4 (h6 i j _ _ hl)
     ·exact hl
     exact absurd h4.symm (h6 j i _ _ hl)
    subst h5;rw[<-hie,<-hje]
   rw[hv,this,e1];rfl
  exact absurd hek (hno e0 hmem)
 refine⟨st,_,by rw[hrun,ev],qp hb,fun w2 val hw2=>?_⟩;have hw2':w2.heap[b]?=some (.map es1 clock1):=hw2.trans hb1;obtain⟨es',clock',hr1,hr2⟩:=hback w2 val hw2';obtain⟨w',hr3,hM',-⟩:=hst val;rw[hr2]at hr3;injection hr3 with _ e3;refine⟨_,hr1,hM'.of_block ?_,qp hw2'⟩;rw[<-e3,heap_setBlock_same hb,heap_setBlock_same hw2']
end
section
variable  {K:Type}{enc:K->Value}{P:Program}(w:World){ops:Array Oper}{rest:List Oper}{o:Oper}{a:Act}{Q:Exit->Act->World->Prop}
theorem Ch[DecidableEq K](hg:o.guard=none)(m x:Operand)(t:TypeId)(hop:o.op=Op.mapEntry t m x)(k e:TypeId)(L:WideMaps.KeyLaw P k)(hinj:∀x y,enc x=enc y->x=y)(ht:P.underlying t=some (.map k e)){z:Value}(hz:∀u:World,(zeroValue e).run P u=.ok z u)(b n:Nat)(M:K->Option Value)
  (hm:a.eval m=.map (some b)) (hV:aJ enc P k w b n M) (hn:n<maxLen) (y:K) (kl:Lit) (hx:a.eval x=enc y) (hkey:keyOf P k (enc y)=some kl)
  (hK:∀ (st:Nat) (w1:World),w.grownBy w1 (some b)->(∀ (w2:World) (val:Value),w2.heap[b]?=w1.heap[b]?→∃ w3,(Instr.entryStore t (.map (some b)) (goInt st) val).run P w2=.ok () w3/\aJ enc P k w3 b (n+1) (jO M y (some val))/\w2.grownBy w3 (some b)) ->
   wpList P ops Q rest (a.put o.dst (.tuple #[(M y).getD z,goInt st])) w1):wpList P ops Q (o::rest) a w:=by
 refine wpList_plain hg fun K' hK'=>?_;obtain⟨st,w1,hrun,h1,h2⟩:=hV.entry L hinj ht hz hn hkey;unfold Oper.wp;simp[execOp,hop,hm,hx,hrun,Result.andThen];exact hK' _ _ (hK st w1 h1 h2)
theorem tX(hg:o.guard=none)(m s v:Operand)(t:TypeId)(hop:o.op=Op.entryStore t m s v)(b st:Nat)(hm:a.eval m=.map (some b))(hs:a.eval s=goInt st)(u:Value)(hv:a.eval v=u)(k:TypeId)(n:Nat)(M:K->Option Value)
  (hback:∃w3,(Instr.entryStore t (.map (some b)) (goInt st) u).run P w=.ok () w3/\aJ enc P k w3 b n M/\w.grownBy w3 (some b))
  (hK:∀w',aJ enc P k w' b n M->w.grownBy w' (some b)->wpList P ops Q rest (a.put o.dst undef) w'):wpList P ops Q (o::rest) a w:=by
 refine wpList_plain hg fun K' hK'=>?_;obtain⟨w3,hrun,h1,h2⟩:=hback;unfold Oper.wp;simp[execOp,hop,hm,hs,hv,hrun,Result.andThen];exact hK' _ _ (hK w3 h1 h2)
end
set_option linter.unusedVariables false
structure Few{φ υ:Type}(us:φ->υ)(H:List φ->φ->Bool)(qs:List φ)(users:List υ)(out:List φ):Prop where
 set:∀f∈qs,us f ∉ users->f∈out\/H out f=false
theorem Few.start{φ υ:Type}{us:φ->υ}{H:List φ->φ->Bool}{qs:List φ}{users:List υ}{out:List φ}(h:∀f∈qs,us f∈users):Few us H qs users out:=⟨fun f hf hn=>absurd (h f hf) hn⟩
section
variable  {φ υ:Type}[DecidableEq φ]{us:φ->υ}{H:List φ->φ->Bool}
def Loc(us:φ->υ)(H:List φ->φ->Bool):Prop:=∀(a b:List φ) (f:φ),(∀g,us g=us f->(g∈a↔g∈b))->H a f=H b f
def dV(H:List φ->φ->Bool)(out:List φ)(f:φ):List φ:=if f∈out\/H out f=false then out else out++[f]
def bB(H:List φ->φ->Bool)(qs:List φ)(out:List φ):List φ:=qs.foldl (dV H) out
theorem OQ(out:List φ):bB H [] out=out:=rfl
theorem nO(q:φ)(qs out:List φ):bB H (q::qs) out=bB H qs (dV H out q):=rfl
theorem Ga(zas bs out:List φ):bB H (zas++bs) out=bB H bs (bB H zas out):=by unfold bB;rw[List.foldl_append]
theorem wM(out:List φ)(f:φ):∃new,dV H out f=out++new/\∀g∈new,g=f/\g ∉ out/\H out f=true:=by
 unfold dV;split
 ·exact⟨[],by simp,fun g hg=>by cases hg⟩
 rename_i h;refine⟨[f],rfl,fun g hg=>?_⟩;rw[VD]at hg;subst hg;refine⟨rfl,fun e=>h (.inl e),?_⟩;cases e:H out g;case true=>rfl
 exact absurd (.inr e) h
theorem jB:∀(qs out:List φ),∃new,bB H qs out=out++new/\∀g∈new,g∈qs/\g ∉ out
 | [],out=>⟨[],by simp[OQ],fun g hg=>by cases hg⟩
 | q::qs,out=>by
  obtain⟨n1,e1,h1⟩:=wM (H:=H) out q;obtain⟨n2,e2,h2⟩:=jB qs (dV H out q);refine⟨n1++n2,by rw[nO,e2,e1,VU],fun g hg=>?_⟩;rcases VE.1 hg with hg|hg
  ·exact⟨by rw[(h1 g hg).1];exact We ..,(h1 g hg).2.1⟩
  obtain⟨h3,h4⟩:=h2 g hg;exact⟨V4 _ h3,fun e=>h4 (by rw[e1];exact Wo _ e)⟩
theorem qw{qs out:List φ}{g:φ}(h:g∈out):g∈bB H qs out:=by
 obtain⟨n,e,-⟩:=jB (H:=H) qs out;rw[e];exact Wo _ h
theorem wN{out:List φ}{f g:φ}(h:g∈out):g∈dV H out f:=by
 obtain⟨n,e,-⟩:=wM (H:=H) out f;rw[e];exact Wo _ h
theorem I5{out:List φ}(h:out.Nodup)(f:φ):(dV H out f).Nodup:=by
 unfold dV;split
 ·exact h
 rename_i hn;refine List.nodup_append.2 ⟨h,by simp,fun a ha b hb e=>?_⟩;rw[VD]at hb;subst hb;subst e;exact hn (.inl ha)
theorem wO:∀(qs:List φ) {out:List φ},out.Nodup->(bB H qs out).Nodup
 | [],_,h=>h
 | q::qs,_,h=>wO qs (I5 h q)
theorem CU{qs out:List φ}(h:∀f∈qs,f∈out\/H out f=false):bB H qs out=out:=by
 induction qs with
 | nil=>rfl
 | cons q qs ih =>
  have e:dV H out q=out:=if_pos (h q (We ..));rw[nO,e];exact ih fun f hf=>h f (V4 _ hf)
theorem Ci{qs out:List φ}:bB H qs out=out ↔ ∀f∈qs,f∈out\/H out f=false:=by
 refine⟨fun h=>?_,CU⟩
 induction qs with
 | nil=>intro f hf;cases hf
 | cons q qs ih =>
  rw[nO]at h;by_cases hq:q∈out\/H out q=false
  ·have e:dV H out q=out:=if_pos hq;rw[e]at h;intro f hf;rcases VH.1 hf with rfl|hf
   ·exact hq
   exact ih h f hf
  have e:dV H out q=out++[q]:=if_neg hq;obtain⟨n,e2,-⟩:=jB (H:=H) qs (dV H out q);rw[h,e]at e2;have:=congrArg List.length e2;simp at this
theorem mX(hL:Loc us H)(P:υ->Bool):∀(qs out:List φ),(∀f∈qs,P (us f)=false->f∈out\/H out f=false)->bB H qs out=bB H (qs.filter fun f=>P (us f)) out
 | [],_,_=>rfl
 | q::qs,out,h=>by
  rw[nO,WG];cases hp:P (us q);case false=>
   have e:dV H out q=out:=if_pos (h q (We ..) hp);rw[e];exact mX hL P qs out fun f hf=>h f (V4 _ hf)
  rw[if_pos rfl,nO];refine mX hL P qs _ fun f hf hpf=>?_;have hne:us f≠us q:=fun e=>by rw[e,hp]at hpf;cases hpf
  obtain⟨n,e,hn⟩:=wM (H:=H) out q;have hm:∀g,us g=us f->(g∈out↔g∈dV H out q):=fun g hg=>by
   rw[e];refine⟨fun h=>Wo _ h,fun h=>?_⟩;rcases VE.1 h with h|h
   ·exact h
   exact absurd (by rw[(hn g h).1]at hg;exact hg.symm) hne
  rcases h f (V4 _ hf) hpf with h1|h1
  ·exact .inl ((hm f rfl).1 h1)
  exact .inr (by rw[<-hL out _ f hm];exact h1)
theorem uN(hL:Loc us H)(u:υ):∀(qs out:List φ),(∀g∈bB H qs out,us g=u->g∈out)->∀f∈qs,us f=u->f∈bB H qs out\/H (bB H qs out) f=false
 | [],_,_,f,hf,_=>by cases hf
 | q::qs,out,h,f,hf,hu=>by
  have hsame:∀g,us g=u->(g∈dV H out q↔g∈bB H qs (dV H out q)):=fun g hg=>⟨fun h1=>qw h1,fun h1=>wN (h g h1 hg)⟩;have hrest:∀g∈bB H qs (dV H out q),us g=u->g∈dV H out q:=fun g h1 h2=>(hsame g h2).2 h1;rcases VH.1 hf with rfl|hf
  ·show f∈bB H qs (dV H out f)\/H (bB H qs (dV H out f)) f=false;by_cases hq:f∈out\/H out f=false
   ·rcases hq with h1|h1
    ·exact .inl (qw (wN h1))
    refine .inr ?_;rw[<-hL out _ f fun g hg=>?_]
    ·exact h1
    exact⟨fun h2=>qw (wN h2),fun h2=>h g h2 (hg.trans hu)⟩
   have e:dV H out f=out++[f]:=if_neg hq;exact .inl (qw (by rw[e];simp))
  exact uN hL u qs _ hrest f hf hu
def iM(H:List φ->φ->Bool)(qs:List φ):Nat->List φ->List φ
 | 0,out=>out
 | k+1,out=>if bB H qs out=out then out else iM H qs k (bB H qs out)
def lY(qs out:List φ):Nat:=(qs.filter fun f=>decide (f ∉ out)).length
theorem OT(qs:List φ){a b:List φ}(h:∀g∈a,g∈b):lY qs b<=lY qs a:=by
 unfold lY
 induction qs with
 | nil=>simp
 | cons q qs ih =>
  simp only[WG];by_cases hb:q∈b
  ·by_cases ha:q∈a
   ·simp[ha,hb];simpa using ih
   simp[ha,hb];have:=ih;simp at this;omega
  have ha:q ∉ a:=fun e=>hb (h q e);simp[ha,hb];simpa using ih
theorem OU(qs:List φ){a b:List φ}(h:∀g∈a,g∈b){x:φ}(hx:x∈qs)(ha:x ∉ a)(hb:x∈b):lY qs b<lY qs a:=by
 induction qs with
 | nil=>cases hx
 | cons q qs ih =>
  have hle:=OT qs h;unfold lY at ih hle⊢;simp only[WG];rcases VH.1 hx with rfl|hx
  ·simp[ha,hb];simp at hle;omega
  have:=ih hx;by_cases h1:q∈b
  ·by_cases h2:q∈a
   ·simp[h1,h2];simpa using this
   simp[h1,h2];simp at this;omega
  have h2:q ∉ a:=fun e=>h1 (h q e);simp[h1,h2];simpa using this
theorem wP{qs out:List φ}(h:bB H qs out≠out):lY qs (bB H qs out)<lY qs out:=by
 obtain⟨n,e,hn⟩:=jB (H:=H) qs out;cases n with
 | nil=>exact absurd (by simpa using e) h
 | cons x n =>
  obtain⟨h1,h2⟩:=hn x (We ..);exact OU qs (fun g hg=>qw hg) h1 h2 (by rw[e];simp)
theorem zq(qs:List φ):∀(k j:Nat) (out:List φ),lY qs out<k->lY qs out<j->iM H qs k out=iM H qs j out
 | 0,_,_,h,_=>absurd h (Wx _)
 | _+1,0,_,_,h=>absurd h (Wx _)
 | k+1,j+1,out,h1,h2=>by
  unfold iM;by_cases e:bB H qs out=out
  ·rw[if_pos e,if_pos e]
  rw[if_neg e,if_neg e];have:=wP (H:=H) e;exact zq qs k j _ (by omega) (by omega)
def kz(H:List φ->φ->Bool)(qs out:List φ):List φ:=iM H qs (lY qs out+1) out
theorem wQ{qs out:List φ}(h:bB H qs out=out):kz H qs out=out:=by
 unfold kz iM;rw[if_pos h]
theorem CV(qs out:List φ):kz H qs (bB H qs out)=kz H qs out:=by
 by_cases h:bB H qs out=out
 ·rw[h]
 have hlt:=wP (H:=H) h;have e:kz H qs out=iM H qs (lY qs out) (bB H qs out):=by
  show iM H qs (lY qs out+1) out=_;rw[iM,if_neg h]
 rw[e];unfold kz;exact zq qs _ _ _ (Nat.lt_succ_self _) hlt
theorem OV(out:List φ):kz H [] out=out:=wQ rfl
theorem wR(qs:List φ):∀(k:Nat) (out:List φ),∃new,iM H qs k out=out++new/\∀g∈new,g∈qs
 | 0,out=>⟨[],by simp[iM],fun g hg=>by cases hg⟩
 | k+1,out=>by
  unfold iM;split
  ·exact⟨[],by simp,fun g hg=>by cases hg⟩
  obtain⟨n1,e1,h1⟩:=jB (H:=H) qs out;obtain⟨n2,e2,h2⟩:=wR qs k (bB H qs out);refine⟨n1++n2,by rw[e2,e1,VU],fun g hg=>?_⟩;rcases VE.1 hg with hg|hg
  ·exact(h1 g hg).1
  exact h2 g hg
theorem Gb(qs:List φ):∀(k:Nat) (out:List φ),lY qs out<k->bB H qs (iM H qs k out)=iM H qs k out
 | 0,_,h=>absurd h (Wx _)
 | k+1,out,h=>by
  unfold iM;split
  ·rename_i e;exact e
  rename_i e;have:=wP (H:=H) e;exact Gb qs k _ (by omega)
theorem OW(qs out:List φ):bB H qs (kz H qs out)=kz H qs out:=Gb qs _ out (Nat.lt_succ_self _)
theorem zt(qs:List φ):∀(k:Nat) {out:List φ},out.Nodup->(iM H qs k out).Nodup
 | 0,_,h=>h
 | k+1,out,h=>by
  unfold iM;split
  ·exact h
  exact zt qs k (wO qs h)
theorem Mf(qs:List φ){out:List φ}(h:out.Nodup):(kz H qs out).Nodup:=zt qs _ h
theorem Few.round[DecidableEq υ](hL:Loc us H){qs:List φ}{users:List υ}{out:List φ}(h:Few us H qs users out):bB H (qs.filter fun f=>decide (us f∈users)) out=bB H qs out :=
 (mX hL (fun u=>decide (u∈users)) qs out fun f hf hp=>h.set f hf (by simpa using hp)).symm
theorem Few.next[DecidableEq υ](hL:Loc us H){qs:List φ}{users users':List υ}{out new:List φ}(h:Few us H qs users out)(hn:bB H qs out=out++new)(hu:∀u,u∈users'↔u∈users/\∃g∈new,us g=u):Few us H qs users' (out++new):=by
 refine⟨fun f hf hnf=>?_⟩;have key:∀g∈bB H qs out,us g=us f->g∈out:=fun g hg hgu=>by
  rw[hn]at hg;rcases VE.1 hg with hg|hg
  ·exact hg
  by_cases hin:us f∈users
  ·exact absurd ((hu _).2 ⟨hin,g,hg,hgu⟩) hnf
  -- a user that was left out before finds none
  have e:=h.round hL;obtain⟨n2,e2,h2⟩:=jB (H:=H) (qs.filter fun f=>decide (us f∈users)) out;rw[e,hn]at e2;have e3:new=n2:=List.append_cancel_left e2;rw[e3]at hg;have h3:=(h2 g hg).1;rw[Wz]at h3;have h4:us g∈users:=by simpa using h3.2
  rw[hgu]at h4;exact absurd h4 hin
 have:=uN hL (us f) qs out key f hf rfl;rw[hn]at this;exact this
theorem Few.done{qs:List φ}{out:List φ}(h:Few us H qs [] out):kz H qs out=out:=wQ (CU fun f hf=>h.set f hf List.not_mem_nil)
end
end Go.Proofs.YtojjoblnpldniaaGreat
namespace Go.Proofs.YtojjoblnpldniaaGreat.G
open ChangeShapes WideShapes ChangeAt RowKit Maps
open Pl
variable  {K α:Type}{enc:K->Value}{P:Program}{kt et:TypeId}{sz:Nat}{cl:α->List Value}
def FreeB(M:K->Option Value)(g:Nat):Prop:=∀k v,M k=some v->v.ownBlock≠some g
structure Stl(W:World)(M:K->Option Value)(w2:World)(M2:K->Option Value)(bL:Nat):Prop where
 size:W.heap.size<=w2.heap.size
 block:∀g,g<W.heap.size->g≠bL->FreeB M g->w2.heap[g]?=W.heap[g]?
 free:∀g,g<W.heap.size->FreeB M g->FreeB M2 g
theorem Stl.refl(W:ae)(M:K->Option Value)(bL:Nat):Stl W M W M bL:=⟨Vr _,fun _ _ _ _=>rfl,fun _ _ h=>h⟩
theorem Stl.trans{W w2 w3:ae}{M M2 M3:K->Option Value}{bL:Nat}(h:Stl W M w2 M2 bL)(h2:Stl w2 M2 w3 M3 bL):Stl W M w3 M3 bL where
 size:=Vz h.size h2.size
 block g hg hb hf:=(h2.block g (Vq hg h.size) hb (h.free g hg hf)).trans (h.block g hg hb hf)
 free g hg hf:=h2.free g (Vq hg h.size) (h.free g hg hf)
theorem Stl.below{W w2:ae}{M:K->Option Value}{bL:Nat}(hB:ag W w2):Stl W M w2 M bL:=⟨hB.size,fun g hg _ _=>hB.block g hg,fun _ _ h=>h⟩
structure Cel(w:World)(M:K->Option Value)(bL g o:Nat)(u:Value):Prop where
 cell:w.cell? ⟨g,o,none⟩=some u
 lt:g<w.heap.size
 free:FreeB M g
 ne:g≠bL
theorem Cel.stl{w w2:ae}{M M2:K->Option Value}{bL g o:Nat}{u:Value}(h:Cel w M bL g o u)(hS:Stl w M w2 M2 bL):Cel w2 M2 bL g o u where
 cell:=(VR (w:=w) (hS.block g h.lt h.ne h.free)).trans h.cell
 lt:=Vq h.lt hS.size
 free:=hS.free g h.lt h.free
 ne:=h.ne
theorem I6{w w':ae}{base:Nat}{e:TypeId}{size:Nat}{v:Value}{n:Nat}{xs:Q03}(h:w.ownsRow base e size v n xs)(hb:ag w w'):w'.ownsRow base e size v n xs:=by
 have hl:=fun g hg=>(h.lt g hg).2;refine⟨h.1,?_⟩;rcases h.2 with h0|⟨g,cap,cur,rfl,h1,h2,h3⟩
 ·exact .inl h0
 exact .inr ⟨g,cap,cur,rfl,h1,(hb.block g (hl g rfl)).trans h2,h3⟩
variable  [DecidableEq K]
def flatG(cl:α->List Value)(xs:List α):List Value:=xs.flatMap cl
theorem I7(cl:α->List Value)(xs:List α)(x:α):flatG cl (xs++[x])=flatG cl xs++cl x:=by simp[flatG]
def lookL(E:List (K×α))(k:K):List α:=E.filterMap fun p=>if p.1=k then some p.2 else none
theorem lookL_append(E F:List (K×α))(k:K):lookL (E++F) k=lookL E k++lookL F k:=by unfold lookL;rw[List.filterMap_append]
theorem tY(E:List (K×α))(k:K)(s:α):lookL (E++[(k,s)]) k=lookL E k++[s]:=by rw[lookL_append];simp[lookL]
theorem qx(E:List (K×α)){k y:K}(s:α)(h:k≠y):lookL (E++[(y,s)]) k=lookL E k:=by rw[lookL_append];simp[lookL,Ne.symm h]
theorem mem_lookL{E:List (K×α)}{k:K}{s:α}:s∈lookL E k↔(k,s)∈E:=by
 unfold lookL;rw[List.mem_filterMap];constructor
 ·rintro⟨⟨a,b⟩,h1,h2⟩;simp only at h2;split at h2
  ·rename_i e;injection h2 with h2;rw[<-e,<-h2];exact h1
  cases h2
 intro h;exact⟨(k,s),h,by simp⟩
structure Grp(enc:K->Value)(P:Program)(kt et:TypeId)(sz:Nat)(cl:α->List Value)(w:World)(bL n:Nat)(M:K->Option Value)(E:List (K×α)):Prop where
 map:aJ enc P kt w bL n M
 row:∀k,(M k=none/\lookL E k=[]) \/ ∃v,M k=some v/\w.ownsRow (bL+1) et sz v (lookL E k).length (flatG cl (lookL E k))
 apart:∀k k' v v',k≠k'->M k=some v->M k'=some v'->∀g,v.ownBlock=some g->v'.ownBlock≠some g
theorem Grp.lt{w:ae}{bL n:Nat}{M:K->Option Value}{E:List (K×α)}(h:Grp enc P kt et sz cl w bL n M E){k:K}{v:Value}(hk:M k=some v){g:Nat}(hg:v.ownBlock=some g):bL<g/\g<w.heap.size:=by
 rcases h.row k with⟨e,-⟩|⟨v',e,ho⟩
 ·rw[e]at hk;cases hk
 rw[e]at hk;injection hk with hk;subst hk;have:=ho.lt g hg;exact⟨by omega,this.2⟩
theorem Grp.fresh{w:ae}{bL n:Nat}{M:K->Option Value}{E:List (K×α)}(h:Grp enc P kt et sz cl w bL n M E){g:Nat}(hg:w.heap.size<=g):FreeB M g:=fun k v hk e=>by
 have:=(h.lt hk e).2;omega
theorem Grp.mono{w:ae}{bL n n':Nat}{M:K->Option Value}{E:List (K×α)}(h:Grp enc P kt et sz cl w bL n M E)(hn:n<=n'):Grp enc P kt et sz cl w bL n' M E:=⟨h.map.mono hn,h.row,h.apart⟩
theorem Grp.below{w w':ae}{bL n:Nat}{M:K->Option Value}{E:List (K×α)}(h:Grp enc P kt et sz cl w bL n M E)(hB:ag w w'):Grp enc P kt et sz cl w' bL n M E where
 map:=h.map.below hB
 row k:=by
  rcases h.row k with e|⟨v,e,ho⟩
  ·exact .inl e
  exact .inr ⟨v,e,I6 ho hB⟩
 apart:=h.apart
theorem grp_made(w:ae):Grp enc P kt et sz cl (w.alloc (.map #[] 0)) w.heap.size 0 (fun _=>none) [] where
 map:=lI _ _ _ w
 row k:=.inl ⟨rfl,rfl⟩
 apart k k' v v' _ h:=by cases h
theorem Grp.step{W0 w1 w2 w3:ae}{bL n:Nat}{M:K->Option Value}{E:List (K×α)}{y:K}{v':Value}{s:α}(h:Grp enc P kt et sz cl W0 bL n M E)(hg1:W0.grownBy w1 (some bL))(hown:w2.ownsRow (bL+1) et sz v' ((lookL E y).length+1) (flatG cl (lookL E y)++cl s))
  (hg2:w1.grownBy w2 ((M y).getD (.slice none 0 0)).ownBlock) (hloc:v'.ownBlock=((M y).getD (.slice none 0 0)).ownBlock\/v'.ownBlock=some w1.heap.size) (hg3:w2.grownBy w3 (some bL)) (hM:aJ enc P kt w3 bL (n+1) (jO M y (some v'))) :
  Grp enc P kt et sz cl w3 bL (n+1) (jO M y (some v')) (E++[(y,s)])/\Stl W0 M w3 (jO M y (some v')) bL:=by
 have hrow0:∀k v,M k=some v->∃xs m,W0.ownsRow (bL+1) et sz v m xs:=fun k v hk=>by
  rcases h.row k with⟨e,-⟩|⟨v1,e,ho⟩
  ·rw[e]at hk;cases hk
  rw[e]at hk;injection hk with hk;subst hk;exact⟨_,_,ho⟩
 have hne2:∀k v,k≠y->M k=some v->v.ownBlock=none\/v.ownBlock≠((M y).getD (.slice none 0 0)).ownBlock:=fun k v hky hk=>by
  cases e:v.ownBlock with
  | none=>exact .inl rfl
  | some g =>
   right;cases ey:M y with
   | none=>simp[Value.ownBlock]
   | some vy=>intro e2;exact h.apart k y v vy hky hk ey g e (by simpa using e2.symm)
 have hnb:∀v,(∃k,M k=some v)->v.ownBlock=none\/v.ownBlock≠some bL:=fun v ⟨k,hk⟩=>by
  cases e:v.ownBlock with
  | none=>exact .inl rfl
  | some g=>right;have:=(h.lt hk e).1;intro e2;injection e2 with e2;omega
 have hnew:∀g,v'.ownBlock=some g->bL<g:=fun g e=>by have:=(hown.lt g e).1;omega
 have hv'b:v'.ownBlock=none\/v'.ownBlock≠some bL:=by
  cases e:v'.ownBlock with
  | none=>exact .inl rfl
  | some g=>right;have:=hnew g e;intro e2;injection e2 with e2;omega
 constructor
 ·refine⟨hM,fun k=>?_,fun k k' v u hkk hk hk' g e=>?_⟩
  ·by_cases ek:k=y
   ·subst ek;rw[dM,tY];refine .inr ⟨v',rfl,?_⟩;rw[I7,Vx];exact hown.kept hg3 hv'b
   rw[bG ek,qx _ _ ek];rcases h.row k with e|⟨v,e,ho⟩
   ·exact .inl e
   exact .inr ⟨v,e,((ho.kept hg1 (hnb v ⟨k,e⟩)).kept hg2 (hne2 k v ek e)).kept hg3 (hnb v ⟨k,e⟩)⟩
  by_cases ek:k=y
  ·subst ek;rw[dM]at hk;injection hk with hk;subst hk;rw[bG (Ne.symm hkk)]at hk';intro e2;rcases hloc with el|el
   ·rw[e]at el;cases ey:M k with
    | none=>rw[ey]at el;simp[Value.ownBlock]at el
    | some vy=>rw[ey]at el;exact h.apart k k' vy u hkk ey hk' g (by simpa using el.symm) e2
   rw[e]at el;injection el with el;have:=(h.lt hk' e2).2;have:=hg1.size;omega
  rw[bG ek]at hk;by_cases ek':k'=y
  ·subst ek';rw[dM]at hk';injection hk' with hk';subst hk';intro e2;rcases hloc with el|el
   ·rw[e2]at el;cases ey:M k' with
    | none=>rw[ey]at el;simp[Value.ownBlock]at el
    | some vy=>rw[ey]at el;exact h.apart k k' v vy hkk hk ey g e (by simpa using el.symm)
   rw[e2]at el;injection el with el;have:=(h.lt hk e).2;have:=hg1.size;omega
  rw[bG ek']at hk';exact h.apart k k' v u hkk hk hk' g e
 refine⟨Vz hg1.size (Vz hg2.size hg3.size),fun g hg hb hf=>?_,fun g hg hf k v hk=>?_⟩
 ·have h1:=hg1.block g hg (fun e=>hb (by injection e));have h2:=hg2.block g (Vq hg hg1.size) (fun e=>by
   cases ey:M y with
   | none=>rw[ey]at e;simp[Value.ownBlock]at e
   | some vy=>rw[ey]at e;exact hf y vy ey (by simpa using e.symm))
  have h3:=hg3.block g (Vq hg (Vz hg1.size hg2.size)) (fun e=>hb (by injection e));rw[h3,h2,h1]
 by_cases ek:k=y
 ·subst ek;rw[dM]at hk;injection hk with hk;subst hk;intro e2;rcases hloc with el|el
  ·rw[e2]at el;cases ey:M k with
   | none=>rw[ey]at el;simp[Value.ownBlock]at el
   | some vy=>rw[ey]at el;exact hf k vy ey (by simpa using el.symm)
  rw[e2]at el;injection el with el;have:=hg1.size;omega
 rw[bG ek]at hk;exact hf k v hk
end Go.Proofs.YtojjoblnpldniaaGreat.G
namespace Go.Proofs.YtojjoblnpldniaaGreat
open RowKit
section
variable  {P:Program}{ops:Array Oper}{Q:Exit->Act->World->Prop}
theorem pU{id:Nat}{a:Act}{w:ae}(L:Nat)(f0:Nat->Value)(F:(Nat->Value)->Act)(I:(Nat->Bool)->(Nat->Value)->World->Prop)
  (hm:P.follows .mixedOrders=true) (hsz:ops.size=L+1) (Xz:zf ops=true) (hlo:El ops L=true)
  (h0:a=F f0) (hI0:I (fun _=>false) f0 w.drew)
  (hstep:∀ i,i<L->∀ o,ops[i]?=some o->∀ (l:Nat->Bool) f w',l i=false->I l f w'->(∀ e∈o.after,Region.binds .any e=true->l e.on=true) ->
   wpOp P ops Q i (fun a' w''=>∃v,a'=F (upd f i v)/\I (fun k=>if k=i then true else l k) (upd f i v) w'') (F f) w')
  (hfin:∀o,ops[L]?=some o->∀(l:Nat->Bool) f w',(∀k,k<L->l k=true)->I l f w'->wpOp P ops Q L (fun a' w''=>Q .normal a' w'') (F f) w') :
  (Code.region id ops true).wp P Q a w:=by
 refine gG (fun listed a' w'=>listed.size=L+1/\((listed.getD L false=false/\∃f,a'=F f/\I (fun k=>listed.getD k false) f w')\/((∀j,j<=L->listed.getD j true=true)/\Q .normal a' w'))) hm ?_ ?_ ?_
 ·refine⟨by simpa using hsz,Or.inl ⟨?_,_,h0,?_⟩⟩
  ·rw[VP,Wh];split<;>rfl
  have:(fun k=>(Array.replicate ops.size false).getD k false)=fun _=>false:=funext fun k=>by rw[VP,Wh];split<;>rfl
  rw[this];exact hI0
 ·rintro listed a' w' ⟨hs,h⟩ i hi;obtain⟨hl,o,ho,hpre⟩:=mem_ready.1 hi;have hiL:i<L+1:=by have:=(Vw.1 ho).1;omega
  rcases h with⟨hn,f,rfl,hI⟩|⟨hall,-⟩
  ·by_cases e:i=L
   ·subst e;have hall:∀k,k<i->listed.getD k false=true:=fun k hk=>by
     obtain⟨e,he,rfl,hb⟩:=CG hlo o ho k hk;exact hpre e he hb
    refine wpOp_mono (fun a'' w'' hq=>⟨by simpa using hs,Or.inr ⟨fun j hj=>?_,hq⟩⟩) (hfin o ho _ f w' hall hI);rw[ku (by simp;omega),aO _ _ _ (by omega)];by_cases e:j=i
    ·simp[e]
    rw[if_neg e];exact hall j (by omega)
   refine wpOp_mono ?_ (hstep i (by omega) o ho _ f w' (by rw[<-ku (by omega)];exact hl) hI (fun e he hb=>hpre e he hb));rintro a'' w'' ⟨v,rfl,hI'⟩;refine⟨by simpa using hs,Or.inl ⟨?_,_,rfl,?_⟩⟩
   ·rw[aO _ _ _ (by omega),if_neg (Ne.symm e)];exact hn
   have:(fun k=>(listed.setIfInBounds i true).getD k false)=fun k=>if k=i then true else listed.getD k false:=funext fun k=>aO _ _ _ (by omega)
   rw[this];exact hI'
  rw[hall i (by omega)]at hl;cases hl
 rintro listed a' w' ⟨hs,h⟩ hr;rcases h with⟨hn,-⟩|⟨-,hq⟩
 ·have:=qi hr hsz (rF Xz) hs L (by omega);rw[ku (by omega)]at this;rw[this]at hn;cases hn
 exact hq
end
end Go.Proofs.YtojjoblnpldniaaGreat
namespace Go.Proofs.YtojjoblnpldniaaGreat.G
set_option linter.unusedVariables false
open ChangeShapes WideShapes ChangeAt RowKit Maps
open Pl
def Back{K:Type}[DecidableEq K](enc:K->Value)(P:Program)(kt t:TypeId)(bp n:Nat)(M:K->Option Value)(y:K)(st:Nat)(w:World):Prop :=
 ∀(w2:World) (val:Value),w2.heap[bp]?=w.heap[bp]?→∃w3,(Instr.entryStore t (.map (some bp)) (goInt st) val).run P w2=.ok () w3/\aJ enc P kt w3 bp (n+1) (jO M y (some val))/\w2.grownBy w3 (some bp)
def put(l:Nat->Bool)(i:Nat):Nat->Bool:=fun k=>if k=i then true else l k
structure EA(C:Nat->Value)(NEW:Array Value)(et:TypeId)(W:World)(l:Nat->Bool)(f:Nat->Value)(w:World):Prop where
 late:∀k,7<=k->k<=10->l k=false
 bel:ag W w
 val:∀k,k<=5->l k=true->f k=C k
 row:l 6=true->∃g,f 6=.slice (some ⟨g,0,none⟩) 1 1/\W.heap.size<=g/\w.heap[g]?=some (.cells NEW et (0,0))
structure EB(C:Nat->Value)(NEW:Array Value)(et:TypeId)(W:World)(bp:Nat)(row0:Value)(BK:Nat->World->Prop)(l:Nat->Bool)(f:Nat->Value)(w:World):Prop where
 low:∀k,k<=7->l k=true
 l9:l 9=false
 val:∀k,k<=5->f k=C k
 mid:∃(W0:World) (st g:Nat),ag W W0/\f 6=.slice (some ⟨g,0,none⟩) 1 1/\W.heap.size<=g/\W0.heap[g]?=some (.cells NEW et (0,0))/\W0.grownBy w (some bp)/\f 7=.tuple #[row0,goInt st]/\BK st w/\(l 8=true->f 8=row0)/\(l 10=true->f 10=goInt st)
structure EC(C:Nat->Value)(NEW:Array Value)(et:TypeId)(sz:Nat)(W:World)(bp:Nat)(row0:Value)(nn:Nat)(xs:Q03)(BK:Nat->World->Prop)(l:Nat->Bool)(f:Nat->Value)(w:World):Prop where
 low:∀k,k<=9->l k=true
 val:∀k,k<=5->f k=C k
 mid:∃(W0 w1:World) (st:Nat),ag W W0/\W0.grownBy w1 (some bp)/\w1.grownBy w row0.ownBlock/\w.ownsRow (bp+1) et sz (f 9) (nn+1) (xs++NEW.toList)/\((f 9).ownBlock=row0.ownBlock\/(f 9).ownBlock=some w1.heap.size)/\BK st w1/\f 7=.tuple #[row0,goInt st]/\(l 10=true->f 10=goInt st)
def EI(C:Nat->Value)(NEW:Array Value)(et:TypeId)(sz:Nat)(W:World)(bp:Nat)(row0:Value)(nn:Nat)(xs:Q03)(BK:Nat->World->Prop)(l:Nat->Bool)(f:Nat->Value)(w:World):Prop :=
 EA C NEW et W l f w\/EB C NEW et W bp row0 BK l f w\/EC C NEW et sz W bp row0 nn xs BK l f w
section
variable  {C:Nat->Value}{NEW:Array Value}{et:TypeId}{sz:Nat}{W:World}{bp:Nat}{row0:Value}{nn:Nat}{xs:Q03}{BK:Nat->World->Prop}{l:Nat->Bool}{f:Nat->Value}{w:World}
theorem ei_start(W:ae):EI C NEW et sz W bp row0 nn xs BK (fun _=>false) f W.drew:=.inl ⟨fun _ _ _=>rfl,(Vs _ _).drew,fun _ _ h=>(by cases h),fun h=>(by cases h)⟩
theorem EI.early(h:EI C NEW et sz W bp row0 nn xs BK l f w){i:Nat}(hi:i<=7)(hl:l i=false):EA C NEW et W l f w:=by
 rcases h with h|h|h
 ·exact h
 ·rw[h.low i hi]at hl;cases hl
 rw[h.low i (by omega)]at hl;cases hl
theorem EA.put{i:Nat}(h:EA C NEW et W l f w)(hi:i<=5){v:Value}(hv:v=C i):EI C NEW et sz W bp row0 nn xs BK (fun k=>if k=i then true else l k) (upd f i v) w:=by
 refine .inl ⟨fun k h7 h10=>?_,h.bel,fun k hk hl=>?_,fun hl=>?_⟩
 ·show(if _=_ then true else _)=_;rw[if_neg (by omega)];exact h.late k h7 h10
 ·by_cases e:k=i
  ·subst e;simp[upd,hv]
  simp only[if_neg e]at hl;simp only[upd,if_neg e];exact h.val k hk hl
 replace hl:(if _=_ then true else _)=true:=hl;rw[if_neg (by omega)]at hl;simp only[upd];rw[if_neg (by omega)];exact h.row hl
theorem EA.lay(h:EA C NEW et W l f w):EI C NEW et sz W bp row0 nn xs BK (fun k=>if k=6 then true else l k) (upd f 6 (.slice (some ⟨w.heap.size,0,none⟩) 1 1)) (w.alloc (.cells NEW et)):=by
 refine .inl ⟨fun k h7 h10=>?_,h.bel.alloc h.bel.size _,fun k hk hl=>?_,fun _=>⟨w.heap.size,by simp[upd],h.bel.size,heap_alloc_new w _⟩⟩
 ·show(if _=_ then true else _)=_;rw[if_neg (by omega)];exact h.late k h7 h10
 replace hl:(if _=_ then true else _)=true:=hl;rw[if_neg (by omega)]at hl;simp only[upd];rw[if_neg (by omega)];exact h.val k hk hl
theorem EA.took(h:EA C NEW et W l f w)(hall:∀k,k<=6->l k=true){st:Nat}{w1:ae}(hg:w.grownBy w1 (some bp))(hb:BK st w1):EI C NEW et sz W bp row0 nn xs BK (fun k=>if k=7 then true else l k) (upd f 7 (.tuple #[row0,goInt st])) w1:=by
 obtain⟨g,e6,ZR,hc⟩:=h.row (hall 6 (by omega));refine .inr (.inl ⟨fun k hk=>?_,?_,fun k hk=>?_,w,st,g,h.bel,?_,ZR,hc,hg,?_,hb,fun h8=>?_,fun h10=>?_⟩)
 ·by_cases e:k=7
  ·simp[e]
  simp only[if_neg e];exact hall k (by omega)
 ·show(if (9:Nat)=7 then true else l 9)=false;rw[if_neg (by omega)];exact h.late 9 (by omega) (by omega)
 ·simp only[upd];rw[if_neg (by omega)];exact h.val k hk (hall k (by omega))
 ·simp only[upd];rw[if_neg (by omega)];exact e6
 ·simp[upd]
 ·have:(if (8:Nat)=7 then true else l 8)=true:=h8;rw[if_neg (by omega),h.late 8 (by omega) (by omega)]at this;cases this
 have:(if (10:Nat)=7 then true else l 10)=true:=h10;rw[if_neg (by omega),h.late 10 (by omega) (by omega)]at this;cases this
theorem EI.midB(h:EI C NEW et sz W bp row0 nn xs BK l f w)(h7:l 7=true){i:Nat}(hi:i<=9)(hl:l i=false):EB C NEW et W bp row0 BK l f w:=by
 rcases h with h|h|h
 ·rw[h.late 7 (by omega) (by omega)]at h7;cases h7
 ·exact h
 rw[h.low i hi]at hl;cases hl
theorem EI.seven(h:EI C NEW et sz W bp row0 nn xs BK l f w)(h7:l 7=true):∃st:Nat,f 7=.tuple #[row0,goInt st]:=by
 rcases h with h|h|h
 ·rw[h.late 7 (by omega) (by omega)]at h7;cases h7
 ·obtain⟨_,st,_,_,_,_,_,_,e,_⟩:=h.mid;exact⟨st,e⟩
 obtain⟨_,_,st,_,_,_,_,_,_,e,_⟩:=h.mid;exact⟨st,e⟩
theorem EB.first(h:EB C NEW et W bp row0 BK l f w):EI C NEW et sz W bp row0 nn xs BK (fun k=>if k=8 then true else l k) (upd f 8 row0) w:=by
 obtain⟨W0,st,g,h1,h2,h3,h4,h5,h6,h7,h8,h9⟩:=h.mid;refine .inr (.inl ⟨fun k hk=>?_,?_,fun k hk=>?_,W0,st,g,h1,?_,h3,h4,h5,?_,h7,fun _=>?_,fun h10=>?_⟩)
 ·show(if _=_ then true else _)=_;rw[if_neg (by omega)];exact h.low k hk
 ·show(if (9:Nat)=8 then true else l 9)=false;rw[if_neg (by omega)];exact h.l9
 ·simp only[upd];rw[if_neg (by omega)];exact h.val k hk
 ·simp only[upd];rw[if_neg (by omega)];exact h2
 ·simp only[upd];rw[if_neg (by omega)];exact h6
 ·simp[upd]
 have h10':(if (10:Nat)=8 then true else l 10)=true:=h10;rw[if_neg (by omega)]at h10';simp only[upd];rw[if_neg (by omega)];exact h9 h10'
theorem EI.second(h:EI C NEW et sz W bp row0 nn xs BK l f w)(h7:l 7=true){st:Nat}(e:f 7=.tuple #[row0,goInt st]):EI C NEW et sz W bp row0 nn xs BK (fun k=>if k=10 then true else l k) (upd f 10 (goInt st)) w:=by
 have same:∀st':Nat,.tuple #[row0,goInt st']=Value.tuple #[row0,goInt st]->goInt st'=goInt st:=fun st' e=>by
  injection e with e;have:=congrArg Array.toList e;simp only[List.cons.injEq]at this;exact this.2.1
 rcases h with h|h|h
 ·rw[h.late 7 (by omega) (by omega)]at h7;cases h7
 ·obtain⟨W0,st',g,h1,h2,h3,h4,h5,h6,hb,h8,h9⟩:=h.mid;have es:=same st' (h6.symm.trans e);refine .inr (.inl ⟨fun k hk=>?_,?_,fun k hk=>?_,W0,st',g,h1,?_,h3,h4,h5,?_,hb,fun h8'=>?_,fun _=>?_⟩)
  ·show(if _=_ then true else _)=_;rw[if_neg (by omega)];exact h.low k hk
  ·show(if (9:Nat)=10 then true else l 9)=false;rw[if_neg (by omega)];exact h.l9
  ·simp only[upd];rw[if_neg (by omega)];exact h.val k hk
  ·simp only[upd];rw[if_neg (by omega)];exact h2
  ·simp only[upd];rw[if_neg (by omega)];exact h6
  ·have h8'':(if (8:Nat)=10 then true else l 8)=true:=h8';rw[if_neg (by omega)]at h8'';simp only[upd];rw[if_neg (by omega)];exact h8 h8''
  simp[upd,es]
 obtain⟨W0,w1,st',h1,h2,h3,h4,h5,hb,h6,h9⟩:=h.mid;have es:=same st' (h6.symm.trans e);refine .inr (.inr ⟨fun k hk=>?_,fun k hk=>?_,W0,w1,st',h1,h2,h3,?_,?_,hb,?_,fun _=>?_⟩)
 ·show(if _=_ then true else _)=_;rw[if_neg (by omega)];exact h.low k hk
 ·simp only[upd];rw[if_neg (by omega)];exact h.val k hk
 ·simp only[upd];rw[if_neg (by omega)];exact h4
 ·simp only[upd];rw[if_neg (by omega)];exact h5
 ·simp only[upd];rw[if_neg (by omega)];exact h6
 simp[upd,es]
theorem EB.app(h:EB C NEW et W bp row0 BK l f w)(h8:l 8=true){v':Value}{w':ae}(hg:w.grownBy w' row0.ownBlock)(ho:w'.ownsRow (bp+1) et sz v' (nn+1) (xs++NEW.toList))(hloc:v'.ownBlock=row0.ownBlock\/v'.ownBlock=some w.heap.size):EI C NEW et sz W bp row0 nn xs BK (fun k=>if k=9 then true else l k) (upd f 9 v') w':=by
 obtain⟨W0,st,g,h1,h2,h3,h4,h5,h6,hb,_,h9⟩:=h.mid;refine .inr (.inr ⟨fun k hk=>?_,fun k hk=>?_,W0,w,st,h1,h5,hg,?_,?_,hb,?_,fun h10=>?_⟩)
 ·by_cases e:k=9
  ·simp[e]
  by_cases e8:k=8
  ·simp only[if_neg e];rw[e8];exact h8
  simp only[if_neg e];exact h.low k (by omega)
 ·simp only[upd];rw[if_neg (by omega)];exact h.val k hk
 ·simp only[upd,if_true];exact ho
 ·simp only[upd,if_true];exact hloc
 ·simp only[upd];rw[if_neg (by omega)];exact h6
 have h10':(if (10:Nat)=9 then true else l 10)=true:=h10;rw[if_neg (by omega)]at h10';simp only[upd];rw[if_neg (by omega)];exact h9 h10'
theorem EI.last(h:EI C NEW et sz W bp row0 nn xs BK l f w)(hall:∀k,k<11->l k=true):EC C NEW et sz W bp row0 nn xs BK l f w:=by
 rcases h with h|h|h
 ·have:=hall 7 (by omega);rw[h.late 7 (by omega) (by omega)]at this;cases this
 ·have:=hall 9 (by omega);rw[h.l9]at this;cases this
 exact h
end
end Go.Proofs.YtojjoblnpldniaaGreat.G
namespace Go.Proofs.YtojjoblnpldniaaGreat
open ChangeShapes WideShapes ChangeAt RowKit Maps
abbrev K3:=ByteArray×ByteArray×ByteArray
def qy(k:K3):Value:=.agg #[.string k.1,.string k.2.1,.string k.2.2]
theorem OX(x y:K3)(h:qy x=qy y):x=y:=by
 unfold qy at h;injection h with h;have h1:=congrArg Array.toList h;simp at h1;exact Prod.ext h1.1 (Prod.ext h1.2.1 h1.2.2)
theorem UM:(273:TypeId)<prog.types.size:=of_decide_eq_true (by kernel_rfl)
theorem TK:(match prog.underlying 273 with|some (.array _ _)|some (.struct _)=>true|_=>false)=true:=by rw[underlying273]
set_option maxRecDepth 100000 in
theorem OY:WideMaps.KeyLaw prog 273:=deep_law_laid zh (m:=3) (by omega) UM (by kernel_rfl) TK
theorem Ti:Keyed prog 273:=Keyed.of_law OY
theorem TL:prog.keyType 273=true:=by kernel_rfl
theorem La:prog.cellsOf 273=3:=by kernel_rfl
theorem Mg:prog.cellsOf 27=2:=by kernel_rfl
theorem Mh:2<=prog.types.size:=of_decide_eq_true (by kernel_rfl)
theorem zu:∃n,prog.types.size=n+2:=⟨prog.types.size-2,by have:=Mh;omega⟩
set_option maxRecDepth 100000 in
theorem Ep(k:K3)(h0:k.1.size<=maxLen)(h1:k.2.1.size<=maxLen)(h2:k.2.2.size<=maxLen):∃kl,keyOf prog 273 (qy k)=some kl:=by
 obtain⟨n,hn⟩:=zu;refine⟨.string (keyBytes [.string k.1.data.toList,.string k.2.1.data.toList,.string k.2.2.data.toList]),?_⟩;unfold keyOf;rw[underlying273];simp only[TL,qy,Value.formed,underlying273,La,hn,Value.cells];simp +decide [Program.keyLits,underlying273,underlying27,underlying9,La,Mg,strCells,h0,h1,h2]
abbrev KL:=ByteArray×Int
def Gc(k:KL):Value:=.agg #[.string k.1,.int .i64 k.2]
theorem OZ(x y:KL)(h:Gc x=Gc y):x=y:=by
 unfold Gc at h;injection h with h;have h1:=congrArg Array.toList h;simp at h1;exact Prod.ext h1.1 h1.2
theorem UN:(197:TypeId)<prog.types.size:=of_decide_eq_true (by kernel_rfl)
theorem TM:(match prog.underlying 197 with|some (.array _ _)|some (.struct _)=>true|_=>false)=true:=by rw[underlying197]
set_option maxRecDepth 100000 in
theorem O0:WideMaps.KeyLaw prog 197:=deep_law_laid zh (m:=2) (by omega) UN (by kernel_rfl) TM
theorem UO:Keyed prog 197:=Keyed.of_law O0
theorem TN:prog.keyType 197=true:=by kernel_rfl
theorem Lb:prog.cellsOf 197=2:=by kernel_rfl
theorem O1:prog.cellsOf 2=1:=by kernel_rfl
set_option maxRecDepth 100000 in
theorem Lc(k:KL)(h0:k.1.size<=maxLen)(h1:0<=k.2)(h2:k.2<=1000000):∃kl,keyOf prog 197 (Gc k)=some kl:=by
 have hw:(Lit.int .i64 k.2).wf=true:=WalkArith.wf_i64 ⟨by omega,by omega⟩;obtain⟨n,hn⟩:=zu;refine⟨.string (keyBytes [.string k.1.data.toList,.int .i64 k.2]),?_⟩;unfold keyOf;rw[underlying197];simp only[TN,Gc,Value.formed,underlying197,Lb,hn,Value.cells];simp +decide [Program.keyLits,underlying197,underlying2,underlying9,Lb,O1,strCells,h0,hw]
section
variable  {P:Program}{ops:Array Oper}{Q:Exit->Act->World->Prop}
theorem jU{id:Nat}{a:Act}{w:ae}(L:Nat)(f0:Nat->Value)(F:(Nat->Value)->Act)(I:(Nat->Bool)->(Nat->Value)->World->Prop)
  (hm:P.follows .mixedOrders=true) (hsz:ops.size=L+1) (Xz:zf ops=true)
  (hcl:∀o,ops[L]?=some o->∀(l:Nat->Bool) f w',I l f w'->(∀e∈o.after,Region.binds .any e=true->l e.on=true)->∀k,k<L->l k=true)
  (h0:a=F f0) (hI0:I (fun _=>false) f0 w.drew)
  (hstep:∀ i,i<L->∀ o,ops[i]?=some o->∀ (l:Nat->Bool) f w',l i=false->I l f w'->(∀ e∈o.after,Region.binds .any e=true->l e.on=true) ->
   wpOp P ops Q i (fun a' w''=>∃v,a'=F (upd f i v)/\I (fun k=>if k=i then true else l k) (upd f i v) w'') (F f) w')
  (hfin:∀o,ops[L]?=some o->∀(l:Nat->Bool) f w',(∀k,k<L->l k=true)->I l f w'->wpOp P ops Q L (fun a' w''=>Q .normal a' w'') (F f) w') :
  (Code.region id ops true).wp P Q a w:=by
 refine gG (fun listed a' w'=>listed.size=L+1/\((listed.getD L false=false/\∃f,a'=F f/\I (fun k=>listed.getD k false) f w')\/((∀j,j<=L->listed.getD j true=true)/\Q .normal a' w'))) hm ?_ ?_ ?_
 ·refine⟨by simpa using hsz,Or.inl ⟨?_,_,h0,?_⟩⟩
  ·rw[VP,Wh];split<;>rfl
  have:(fun k=>(Array.replicate ops.size false).getD k false)=fun _=>false:=funext fun k=>by rw[VP,Wh];split<;>rfl
  rw[this];exact hI0
 ·rintro listed a' w' ⟨hs,h⟩ i hi;obtain⟨hl,o,ho,hpre⟩:=mem_ready.1 hi;have hiL:i<L+1:=by have:=(Vw.1 ho).1;omega
  rcases h with⟨hn,f,rfl,hI⟩|⟨hall,-⟩
  ·by_cases e:i=L
   ·subst e;have hall:∀k,k<i->listed.getD k false=true:=hcl o ho _ f w' hI (fun e he hb=>hpre e he hb);refine wpOp_mono (fun a'' w'' hq=>⟨by simpa using hs,Or.inr ⟨fun j hj=>?_,hq⟩⟩) (hfin o ho _ f w' hall hI);rw[ku (by simp;omega),aO _ _ _ (by omega)];by_cases e:j=i
    ·simp[e]
    rw[if_neg e];exact hall j (by omega)
   refine wpOp_mono ?_ (hstep i (by omega) o ho _ f w' (by rw[<-ku (by omega)];exact hl) hI (fun e he hb=>hpre e he hb));rintro a'' w'' ⟨v,rfl,hI'⟩;refine⟨by simpa using hs,Or.inl ⟨?_,_,rfl,?_⟩⟩
   ·rw[aO _ _ _ (by omega),if_neg (Ne.symm e)];exact hn
   have:(fun k=>(listed.setIfInBounds i true).getD k false)=fun k=>if k=i then true else listed.getD k false:=funext fun k=>aO _ _ _ (by omega)
   rw[this];exact hI'
  rw[hall i (by omega)]at hl;cases hl
 rintro listed a' w' ⟨hs,h⟩ hr;rcases h with⟨hn,-⟩|⟨-,hq⟩
 ·have:=qi hr hsz (rF Xz) hs L (by omega);rw[ku (by omega)]at this;rw[this]at hn;cases hn
 exact hq
end
end Go.Proofs.YtojjoblnpldniaaGreat
namespace Go.Proofs.YtojjoblnpldniaaGreat.G
set_option linter.unusedVariables false
open ChangeShapes WideShapes ChangeAt RowKit
structure WI(C:Nat->Value)(W:World)(CD:Value->World->Prop)(l:Nat->Bool)(f:Nat->Value)(w:World):Prop where
 val:∀k,k<=9->k≠7->l k=true->f k=C k
 seq:l 7=true->l 4=true/\l 6=true
 nin:l 9=true->l 8=true
 mid:(l 7=false/\ag W w)\/(l 7=true/\CD (f 7) w)
section
variable  {C:Nat->Value}{W:World}{CD:Value->World->Prop}{l:Nat->Bool}{f:Nat->Value}{w:World}
theorem wi_start(W:ae):WI C W CD (fun _=>false) f W.drew:=⟨fun _ _ _ h=>(by cases h),fun h=>(by cases h),fun h=>(by cases h),.inl ⟨rfl,(Vs _ _).drew⟩⟩
theorem WI.put(h:WI C W CD l f w){i:Nat}(hi:i≠7)(h9:i=9->l 8=true){v:Value}(hv:v=C i):WI C W CD (fun k=>if k=i then true else l k) (upd f i v) w:=by
 refine⟨fun k hk h7 hl=>?_,fun hl=>?_,fun hl=>?_,?_⟩
 ·by_cases e:k=i
  ·subst e;simp[upd,hv]
  simp only[if_neg e]at hl;simp only[upd,if_neg e];exact h.val k hk h7 hl
 ·have hl':(if (7:Nat)=i then true else l 7)=true:=hl;rw[if_neg (Ne.symm hi)]at hl';have:=h.seq hl';constructor
  ·show(if (4:Nat)=i then true else l 4)=true;rw[this.1];split<;>rfl
  show(if (6:Nat)=i then true else l 6)=true;rw[this.2];split<;>rfl
 ·have hl':(if (9:Nat)=i then true else l 9)=true:=hl;show(if (8:Nat)=i then true else l 8)=true;by_cases e:(9:Nat)=i
  ·rw[h9 e.symm];split<;>rfl
  rw[if_neg e]at hl';rw[h.nin hl'];split<;>rfl
 have e7:(if (7:Nat)=i then true else l 7)=l 7:=if_neg (Ne.symm hi);have f7:upd f i v 7=f 7:=by simp only[upd];rw[if_neg (Ne.symm hi)]
 rcases h.mid with⟨h1,h2⟩|⟨h1,h2⟩
 ·exact .inl ⟨e7.trans h1,h2⟩
 exact .inr ⟨e7.trans h1,by rw[f7];exact h2⟩
theorem WI.before(h:WI C W CD l f w)(hl:l 7=false):ag W w:=by
 rcases h.mid with⟨_,h2⟩|⟨h1,_⟩
 ·exact h2
 rw[h1]at hl;cases hl
theorem WI.early(h:WI C W CD l f w)(hl:l 4=false\/l 6=false):ag W w:=by
 refine h.before ?_;cases h7:l 7;case false=>rfl
 obtain⟨h4,h6⟩:=h.seq h7;rcases hl with e|e
 ·rw[h4]at e;cases e
 rw[h6]at e;cases e
theorem WI.call(h:WI C W CD l f w)(h4:l 4=true)(h6:l 6=true){v:Value}{w':ae}(hc:CD v w'):WI C W CD (fun k=>if k=7 then true else l k) (upd f 7 v) w':=by
 refine⟨fun k hk h7 hl=>?_,fun _=>⟨by simp[h4],by simp[h6]⟩,fun hl=>h.nin hl,.inr ⟨by simp,by simp only[upd,if_true];exact hc⟩⟩;simp only[if_neg h7]at hl;simp only[upd,if_neg h7];exact h.val k hk h7 hl
theorem WI.last(h:WI C W CD l f w)(hall:∀k,k<10->l k=true):(∀k,k<=9->k≠7->f k=C k)/\CD (f 7) w:=by
 refine⟨fun k hk h7=>h.val k hk h7 (hall k (by omega)),?_⟩;rcases h.mid with⟨h1,_⟩|⟨_,h2⟩
 ·rw[hall 7 (by omega)]at h1;cases h1
 exact h2
end
end Go.Proofs.YtojjoblnpldniaaGreat.G
