/- Contract of the document's function that marks which nodes stand in what is taken away. -/
import Derived.Test.YtojjoblnpldniaaGreatSq
import Derived.Test.YtojjoblnpldniaaGreatJ4
import Derived.Test.YtojjoblnpldniaaGreatJ1
import Derived.Deep.AppendLies
open Go.Proofs.Tryz
set_option maxHeartbeats 80000000
namespace Go.Proofs.YtojjoblnpldniaaGreat
open Go.Sort
open ChangeShapes WideShapes ChangeAt RowKit
open Pl
def bf(i:Nat)(kind:Int):List Int->Nat->List Bool->List Bool
 | [],_,out=>out
 | x::xs,k,out=>bf i kind xs (k+1) (out.set x.toNat (out.getD i false || (kind==6&&k==1)))
def dX(es:Q09):Nat->List Bool->List Bool
 | 0,out=>out
 | i+1,out=>dX es i (match es[i]? with|none=>out|some e=>bf i e.kind e.kids 0 out)
def dz(es:Q09):List Bool:=dX es es.length (List.replicate es.length false)
theorem xP(i:Nat)(kind:Int)(xs:List Int)(k:Nat)(out:List Bool):(bf i kind xs k out).length=out.length:=by
 induction xs generalizing k out with
 | nil=>rfl
 | cons x xs ih=>simp[bf,ih]
def bools(xs:List Bool):List Value:=xs.map Value.bool
theorem Fil.set{w wr:ae}{g n o:Nat}{xs:Q03}(h:Fil w wr g n xs)(v:Value)(ho:o<xs.length)(hn:o<n):Fil w (wr.setCell ⟨g,o,none⟩ v) g n (xs.set o v) where
 below:=h.below.setCell (p:=⟨g,o,none⟩) h.ge v
 ge:=h.ge
 lt:=by simpa using h.lt
 done j hj:=by
  by_cases e:j=o
  ·subst e;obtain⟨u,hu⟩:=Option.isSome_iff_exists.mp (h.there j hn);rw[zw hu];simp
  have hj':j<xs.length:=by simpa using hj
  rw[qz (Ne.symm e),h.done j hj',List.getElem_set_ne (Ne.symm e)]
 there j hj:=by
  by_cases e:j=o
  ·subst e;obtain⟨u,hu⟩:=Option.isSome_iff_exists.mp (h.there j hn);rw[zw hu];rfl
  rw[qz (Ne.symm e)];exact h.there j hj
 free j:=by simpa using h.free j
theorem Fil.drew{w wr:ae}{g n:Nat}{xs:Q03}(h:Fil w wr g n xs):Fil w wr.drew g n xs:=⟨h.below.drew,h.ge,h.lt,h.done,h.there,h.free⟩
theorem CX{w w0:ae}{n:Nat}{base:Nat}{e:TypeId}{v:Value}(h:w0.ownsRow base e 1 (.slice (some ⟨w.heap.size,0,none⟩) n n) n (madeCells #[v] (n*1)).toList)(hg:w.grownBy w0 none):Fil w w0 w.heap.size n (List.replicate n v) where
 below:=(Vs _ _).grown hg (Vr _) (fun k hk=>by cases hk)
 ge:=Vr _
 lt:=(h.lt w.heap.size rfl).2
 done j hj:=by
  have hj':j<n:=by simpa using hj
  rw[h.cellAt j (by omega),toList_madeCells_one];simp[hj']
 there j hj:=by
  rw[h.cellAt j (by omega),Vy (by rw[h.1];omega)];rfl
 free j:=h.frozenAt j
theorem zC:(prog.info? 4).map (fun i=>(i.zero,i.size,i.bytes))=some (some (.bool false),1,1):=by kernel_rfl
theorem zD(es:Q09)(m:Nat)(out:List Bool)(h:m<es.length):dX es (m+1) out=dX es m (bf m es[m].kind es[m].kids 0 out):=by
 simp[dX,h]
theorem jC(i:Nat)(kind:Int)(ks:List Int)(j:Nat)(out:List Bool)(h:j<ks.length):bf i kind (ks.drop j) j out=bf i kind (ks.drop (j+1)) (j+1) (out.set ks[j].toNat (out.getD i false || (kind==6&&j==1))):=by
 rw[VZ h];rfl
theorem nR(out:List Bool)(o:Nat)(v:Bool):bools (out.set o v)=(bools out).set o (.bool v):=by simp[bools,List.map_set]
def eT(n:Nat)(ks:List Int):Prop:=∀x∈ks,0<=x/\x<(n:Int)
theorem Mk(ad:Q02)(cap:Nat)(rs:Q08)(w:ae)(hlen:rs.length<=1048576)(hs:jw w ad rs)(hl:∀r∈rs,r.e.light)(hk:∀r∈rs,eT rs.length r.e.kids):
  Calls prog 277 #[.slice ad rs.length cap] w fun e w'=>e=.returned (.slice (some ⟨w.heap.size,0,none⟩) rs.length rs.length)/\Fil w w' w.heap.size rs.length (bools (dz (aj rs))):=by
 have HS:=aC hs;have HL:=aC hl;have HK:=aC hk;clear hs hl hk;obtain⟨inf,hi,hz0,hz1,hz2⟩:=info_parts zC;go_enter func277,ntmps277;go_wp2_with(at_make;refine wpList_make_full _ rfl _ _ 338 rfl w.heap.size 4 inf (.bool false) 1 underlying338 hi hz0 hz1 .i64 .i64 _ _ rs.length rfl rfl rfl rfl (by rw[hz2];omega) (by unfold maxLen;omega) (Vr _) ?_;intro w0 hown0 Yz);have HF0:Hid (Fil w w0 w.heap.size rs.length (bools (List.replicate rs.length false))):=by
  have:=CX (v:=.bool false) hown0 Yz;show Fil _ _ _ _ _;simpa[bools] using this
 clear hown0 Yz hi hz0 hz1 hz2;go_loopw[4] (fun i wr=>∃(m:Nat) (out:List Bool),m<=rs.length/\i=.int .i64 ((m:Int)-1)/\out.length=rs.length/\Hid (dX (aj rs) m out=dz (aj rs))/\Hid (Fil w wr w.heap.size rs.length (bools out))) (fun i _=>(intOf i+1).toNat);case atStart=>exact⟨rs.length,List.replicate rs.length false,Vr _,by go_num,by simp,(by show _=_;unfold dz;rw[aX]),HF0⟩
 obtain⟨m,out,hm,rfl,hol,HN,HF⟩:=hrel;by_cases hm0:0<m
 ·obtain⟨m,rfl⟩:∃m',m=m'+1:=⟨m-1,by omega⟩;have hmi:(((m+1:Nat):Int)-1)=(m:Int):=by omega
  rw[hmi];have hlt:m<rs.length:=by omega
  rcases HS.out.below HF.out.below with rfl|⟨b,off,rfl,hb,hr,hok⟩
  ·simp at hlt
  obtain⟨t0,t1,t2,t3,t4⟩:=hr m hlt;have XN:Hid (rs[m].ok _):=hok rs[m] (Vp hlt);have lg:=(HL.out rs[m] (Vp hlt)).2;have HKI:Hid (eT rs.length rs[m].e.kids):=HK.out rs[m] (Vp hlt);have hk1:=bC m;have hk2:(m:Int)<(rs.length:Int):=by omega
  have hbw:b<w.heap.size:=by
   rcases HS.out with h|⟨b',off',h1,h2,-⟩
   ·rw[h]at hlt;simp at hlt
   injection h1 with h1;injection h1 with h1;omega
  have HR:Hid (yz wr b (off+m*5) rs[m]):=hr m hlt;have HNX:Hid (dX (aj rs) m (bf m rs[m].e.kind rs[m].e.kids 0 out)=dz (aj rs)):=by
   show _=_;rw[<-HN.out,zD _ _ _ (by rw[aX];exact hlt)];simp[aj]
  clear hr hok t0 t1 t2 t3 t4;go_wp2_with fail;go_loopw[5] (fun i w2=>∃(j:Nat) (WN:List Bool),j<=rs[m].e.kids.length/\i=.int .i64 j/\WN.length=rs.length/\Hid (bf m rs[m].e.kind (rs[m].e.kids.drop j) j WN=bf m rs[m].e.kind rs[m].e.kids 0 out)/\Hid (Fil w w2 w.heap.size rs.length (bools WN))) (fun i _=>rs[m].e.kids.length-(intOf i).toNat);case atStart=>exact⟨0,out,Vv _,rfl,hol,rfl,HF⟩
  obtain⟨j,WN,hj,rfl,ho2,HJ,Yb⟩:=hrel;have hE2:jw wr _ rs:=HS.out.below Yb.out.below;have ht:yz wr b (off+m*5) rs[m]:=by
   rcases hE2 with h|⟨b',off',h1,h2,h3,-⟩
   ·exact absurd hlt (by rw[h];simp)
   injection h1 with h1;injection h1 with h1 h1';subst h1;subst h1';exact h3 m hlt
  obtain⟨t0,t1,t2,t3,t4⟩:=ht;by_cases hjl:j<rs[m].e.kids.length
  ·have hK2:wL wr rs[m].adK rs[m].e.kids:=(hE2.mem (Vp hlt)).2;rcases hK2 with hnil|⟨ba,Yx,Xl,ZT,hra⟩
   ·rw[hnil]at hjl;simp at hjl
   rw[Xl]at t4;have q0:=hra j hjl;have hj1:=bC j;have hj2:(j:Int)<(rs[m].e.kids.length:Int):=by omega
   obtain⟨x0,x1⟩:=HKI.out _ (Vp hjl);obtain⟨x,hx⟩:∃x:Nat,rs[m].e.kids[j]=(x:Int):=⟨rs[m].e.kids[j].toNat,by omega⟩;rw[hx]at q0 x0 x1;have c0:=Yb.out.done m (by simp[bools];omega);have fz:=Yb.out.free;obtain⟨v0,u0⟩:=Option.isSome_iff_exists.mp (Yb.out.there x (by omega));have hbr:b<wr.heap.size:=Vq hbw Yb.out.below.size;obtain⟨bo,hbo⟩:∃bo,bo=(bools WN)[m]'(by simp[bools];omega):=⟨_,rfl⟩;rw[<-hbo]at c0;clear hra Xl hE2 t1 t2 t3;have hm2:m<WN.length:=by omega
   have hbo1:bo=.bool WN[m]:=by rw[hbo];simp[bools]
   have hbo':WN[m]?.getD false=WN[m]:=by simp[hm2]
   rw[hbo1]at c0;clear hbo hbo1;have HJ3:Hid (∀bv,(WN[m] || (rs[m].e.kind==6&&j==1))=bv->bf m rs[m].e.kind (rs[m].e.kids.drop (j+1)) (j+1) (WN.set x bv)=bf m rs[m].e.kind rs[m].e.kids 0 out):=by
    rintro _ rfl;rw[<-HJ.out,jC _ _ _ _ _ hjl,hx];simp[hbo']
   have YA:Hid (∀bv d os,Fil w ((grow (redrawn wr d) os).setCell ⟨w.heap.size,x,none⟩ (.bool bv)) w.heap.size rs.length (bools (WN.set x bv))):=by
    intro bv d os;rw[nR];exact(Yb.out.later (below_regrown wr d os)).set _ (by simp[bools];omega) (by omega)
   go_wp2_with fail;replace fz:=fun d os=>(Yb.out.later (below_regrown wr d os)).free;replace t0:=cell_regrown t0;replace t4:=cell_regrown t4;replace q0:=cell_regrown q0;replace c0:=cell_regrown c0;replace u0:=cell_regrown u0;clear hbo';cases hb0:WN[m]<;>cases hkb:(rs[m].e.kind==6)<;>cases hjb:((j:Int)==1)
   all_goals
    have hjn:(j==1)=_:=(by rw[VL];simp;omega:(j==1)=((j:Int)==1)).trans hjb;rw[hb0]at c0;have HJ4:=nE (HJ3.out _ (by rw[hb0,hkb,hjn]));refine p9 26 1 (by kernel_rfl) (by rfl) (by kernel_rfl) ?_;simp only[List.take_succ_cons,List.take_zero]
    repeat(go_big_quiet_step (fail))
    refine wpQuiet_nil ?_;rintro _ ⟨⟨dq,osq⟩,rfl⟩;refine wpOp_step rfl (fun K hK=>?_);replace hK:=nE hK;go_simp;refine hK.out _ _ ?_;clear hK;unfold nM;go_wp2;go_roundw;case rel=>exact⟨j+1,_,by omega,by go_num,by simp[ho2],HJ4,YA.out _ _ _⟩
    simp[intOf]<;>omega
  have Zl:Hid (dX (aj rs) m WN=dz (aj rs)):=by
   show _=_;rw[<-HNX.out,<-HJ.out,VN (by omega)];rfl
  go_wp2;go_roundw;case rel=>exact⟨m,WN,by omega,by go_num,ho2,Zl,Yb⟩
  simp[intOf]<;>omega
 obtain rfl:m=0:=by omega
 have YO:Hid (Fil w wr w.heap.size rs.length (bools (dz (aj rs)))):=by
  show Fil _ _ _ _ _;rw[<-HN.out];exact HF.out
 go_wp2;go_ret;exact⟨rfl,YO.out⟩
structure St where
 typ:ByteArray
 rel:ByteArray
 n:Int
def UF(w:World)(b off:Nat)(s:St):Prop:=w.cell? ⟨b,off,none⟩=some (.string s.typ)/\w.cell? ⟨b,off+1,none⟩=some (.string s.rel)/\w.cell? ⟨b,off+2,none⟩=some (.int .i64 s.n)
def Jd(w:World)(ad:Q02)(xs:List St):Prop:=xs=[] \/ ∃b off,ad=some ⟨b,off,none⟩/\b<w.heap.size/\∀(i:Nat) (h:i<xs.length),UF w b (off+i*3) xs[i]
theorem Jd.below{w w':ae}{ad:Q02}{xs:List St}(h:Jd w ad xs)(hB:ag w w'):Jd w' ad xs:=by
 rcases h with h|⟨b,off,e,hb,hr⟩
 ·exact .inl h
 refine .inr ⟨b,off,e,Vq hb hB.size,fun i hi=>?_⟩;obtain⟨h0,h1,h2⟩:=hr i hi;exact⟨aA hB hb h0,aA hB hb h1,aA hB hb h2⟩
def zF(s:St)(typ rel:ByteArray):Bool:=(s.typ.toList==typ.toList)&&(s.rel.toList==rel.toList)
def gI(typ rel:ByteArray):List St->Nat->Int
 | [],_=>-1
 | s::xs,k=>if zF s typ rel then (k:Int) else gI typ rel xs (k+1)
theorem qB(typ rel:bQ)(xs:List St)(k:Nat)(h:k<xs.length):gI typ rel (xs.drop k) k=if zF xs[k] typ rel then (k:Int) else gI typ rel (xs.drop (k+1)) (k+1):=by
 rw[VZ h];rfl
theorem O8(ad:Q02)(cap:Nat)(xs:List St)(typ rel:bQ)(w:ae)(hlen:xs.length<=1048576)(hs:Jd w ad xs):
  Calls prog 219 #[.slice ad xs.length cap,.string typ,.string rel] w fun e w'=>e=.returned (.int .i64 (gI typ rel xs 0))/\w'=w:=by
 go_enter func219,ntmps219;go_wp2;go_loopw[7] (fun i wr=>∃k:Nat,k<=xs.length/\i=.int .i64 k/\Hid (gI typ rel (xs.drop k) k=gI typ rel xs 0)/\wr=w) (fun i _=>xs.length-(intOf i).toNat);case atStart=>exact⟨0,Vv _,rfl,rfl,rfl⟩
 obtain⟨k,hk,rfl,HP,rfl⟩:=hrel;by_cases hlt:k<xs.length
 ·rcases hs with rfl|⟨b,off,rfl,hb,hr⟩
  ·simp at hlt
  obtain⟨t0,t1,t2⟩:=hr k hlt;have hk1:=bC k;have hk2:(k:Int)<(xs.length:Int):=by omega
  clear hr;cases hq:(xs[k].typ.toList==typ.toList);case true=>
   cases hp:(xs[k].rel.toList==rel.toList);case true=>
    have HN:Hid (gI typ rel xs 0=(k:Int)):=by show _=_;rw[<-HP.out,qB _ _ _ _ hlt];simp[zF,hq,hp]
    go_wp2;go_ret;exact⟨by rw[HN.out];rfl,rfl⟩
   have WQ:Hid (gI typ rel (xs.drop (k+1)) (k+1)=gI typ rel xs 0):=by show _=_;rw[<-HP.out,qB _ _ _ _ hlt];simp[zF,hq,hp]
   go_wp2;go_roundw;case rel=>exact⟨k+1,by omega,by go_num,WQ,by first|rfl|trivial⟩
   simp[intOf]<;>omega
  have WQ:Hid (gI typ rel (xs.drop (k+1)) (k+1)=gI typ rel xs 0):=by show _=_;rw[<-HP.out,qB _ _ _ _ hlt];simp[zF,hq]
  go_wp2;go_roundw;case rel=>exact⟨k+1,by omega,by go_num,WQ,by first|rfl|trivial⟩
  simp[intOf]<;>omega
 have HN:Hid (gI typ rel xs 0=-1):=by show _=_;rw[<-HP.out,VN (by omega)];rfl
 go_wp2;go_ret;exact⟨by rw[HN.out];rfl,rfl⟩
structure Dp where
 typ:ByteArray
 rel:ByteArray
 neg:Bool
def Dp.cells(d:Dp):List Value:=[.string d.typ,.string d.rel,.bool d.neg]
def eD:List Dp->List Value
 | []=>[]
 | d::ds=>d.cells++eD ds
theorem Et(xs ys:List Dp):eD (xs++ys)=eD xs++eD ys:=by
 induction xs with
 | nil=>rfl
 | cons d ds ih=>simp[eD,ih]
theorem tZ(xs:List Dp)(d:Dp):eD (xs++[d])=eD xs++d.cells:=by rw[Et];simp[eD]
def cz(neg:Bool):List Al->List Dp
 | []=>[]
 | a::xs=>if a.s.toList.isEmpty then cz neg xs else ⟨a.t,a.s,neg⟩::cz neg xs
def kX(ts:Q0b)(typ:ByteArray)(neg:Bool)(e:Ex):List Dp :=
 if e.kind=2 then [⟨typ,e.name,neg⟩] else if e.kind=3 then (gW ts typ e.over e.name).map fun g=>⟨g,e.name,neg⟩ else []
def gX(ts:Q0b)(typ:ByteArray)(es:Q09)(k:Nat):List Dp :=
 match es[k]? with
 | none=>[]
 | some e=>cz ((dz es).getD k false) e.allow++kX ts typ ((dz es).getD k false) e
def aM(ts:Q0b)(typ:ByteArray)(es:Q09):Nat->List Dp
 | 0=>[]
 | k+1=>aM ts typ es k++gX ts typ es k
def pX(ts:Q0b)(typ:ByteArray)(es:Q09):List Dp:=aM ts typ es es.length
theorem uR(neg:Bool)(xs ys:Q0a):cz neg (xs++ys)=cz neg xs++cz neg ys:=by
 induction xs with
 | nil=>rfl
 | cons a xs ih=>simp only[V9,cz,ih];split<;>simp
theorem O9(neg:Bool)(xs:Q0a)(k:Nat)(h:k<xs.length)(he:xs[k].s.toList.isEmpty=true):cz neg (xs.take (k+1))=cz neg (xs.take k):=by
 rw[Vu h,uR];simp[cz]at he ⊢;simp[he]
theorem Ml(neg:Bool)(xs:Q0a)(k:Nat)(h:k<xs.length)(he:xs[k].s.toList.isEmpty=false):cz neg (xs.take (k+1))=cz neg (xs.take k)++[⟨xs[k].t,xs[k].s,neg⟩]:=by
 rw[Vu h,uR];simp[cz,he]
theorem CY(neg:Bool)(xs:Q0a):(cz neg xs).length<=xs.length:=by
 induction xs with
 | nil=>simp[cz]
 | cons a xs ih=>simp only[cz];split<;>simp<;>omega
theorem Pb:(prog.info? 294).map (fun i=>(i.zero,i.size,i.bytes))=some (some (.agg #[.string ⟨#[]⟩,.string ⟨#[]⟩,.bool false]),3,40):=by kernel_rfl
end Go.Proofs.YtojjoblnpldniaaGreat
