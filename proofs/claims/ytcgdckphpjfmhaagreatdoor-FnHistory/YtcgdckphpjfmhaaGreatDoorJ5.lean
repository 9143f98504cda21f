/- Contract of the document's function that marks which nodes stand in what is taken away. -/
import Derived.Test.YtcgdckphpjfmhaaGreatDoorSq
import Derived.Test.YtcgdckphpjfmhaaGreatDoorJ4
import Derived.Test.YtcgdckphpjfmhaaGreatDoorJ2
import Derived.Deep.AppendLies
open Go.Proofs.Tryz
set_option maxHeartbeats 80000000
namespace Go.Proofs.YtcgdckphpjfmhaaGreatDoor
open Go.Sort
open ChangeShapes WideShapes ChangeAt RowKit
open Pl
def df(i:Nat)(kind:Int):List Int->Nat->List Bool->List Bool
 | [],_,out=>out
 | x::xs,k,out=>df i kind xs (k+1) (out.set x.toNat (out.getD i false || (kind==6&&k==1)))
def iy(es:Q09):Nat->List Bool->List Bool
 | 0,out=>out
 | i+1,out=>iy es i (match es[i]? with|none=>out|some e=>df i e.kind e.kids 0 out)
def fC(es:Q09):List Bool:=iy es es.length (List.replicate es.length false)
theorem FW(i:Nat)(kind:Int)(xs:List Int)(k:Nat)(out:List Bool):(df i kind xs k out).length=out.length:=by
 induction xs generalizing k out with
 | nil=>rfl
 | cons x xs ih=>simp[df,ih]
def bools(xs:List Bool):List Value:=xs.map Value.bool
theorem Fil.set{w wr:ae}{g n o:Nat}{xs:Q03}(h:Fil w wr g n xs)(v:Value)(ho:o<xs.length)(hn:o<n):Fil w (wr.setCell ⟨g,o,none⟩ v) g n (xs.set o v) where
 below:=h.below.setCell (p:=⟨g,o,none⟩) h.ge v
 ge:=h.ge
 lt:=by simpa using h.lt
 done j hj:=by
  by_cases e:j=o
  ·subst e;obtain⟨u,hu⟩:=Option.isSome_iff_exists.mp (h.there j hn);rw[zk hu];simp
  have hj':j<xs.length:=by simpa using hj
  rw[qi (Ne.symm e),h.done j hj',List.getElem_set_ne (Ne.symm e)]
 there j hj:=by
  by_cases e:j=o
  ·subst e;obtain⟨u,hu⟩:=Option.isSome_iff_exists.mp (h.there j hn);rw[zk hu];rfl
  rw[qi (Ne.symm e)];exact h.there j hj
 free j:=by simpa using h.free j
theorem Fil.drew{w wr:ae}{g n:Nat}{xs:Q03}(h:Fil w wr g n xs):Fil w wr.drew g n xs:=⟨h.below.drew,h.ge,h.lt,h.done,h.there,h.free⟩
theorem CJ{w w0:ae}{n:Nat}{base:Nat}{e:TypeId}{v:Value}(h:w0.ownsRow base e 1 (.slice (some ⟨w.heap.size,0,none⟩) n n) n (madeCells #[v] (n*1)).toList)(hg:w.grownBy w0 none):Fil w w0 w.heap.size n (List.replicate n v) where
 below:=(VD _ _).grown hg (VC _) (fun k hk=>by cases hk)
 ge:=VC _
 lt:=(h.lt w.heap.size rfl).2
 done j hj:=by
  have hj':j<n:=by simpa using hj
  rw[h.cellAt j (by omega),toList_madeCells_one];simp[hj']
 there j hj:=by
  rw[h.cellAt j (by omega),VO (by rw[h.1];omega)];rfl
 free j:=h.frozenAt j
theorem zV:(prog.info? 4).map (fun i=>(i.zero,i.size,i.bytes))=some (some (.bool false),1,1):=by kernel_rfl
theorem zW(es:Q09)(m:Nat)(out:List Bool)(h:m<es.length):iy es (m+1) out=iy es m (df m es[m].kind es[m].kids 0 out):=by
 simp[iy,h]
theorem jC(i:Nat)(kind:Int)(ks:List Int)(j:Nat)(out:List Bool)(h:j<ks.length):df i kind (ks.drop j) j out=df i kind (ks.drop (j+1)) (j+1) (out.set ks[j].toNat (out.getD i false || (kind==6&&j==1))):=by
 rw[V5 h];rfl
theorem nZ(out:List Bool)(o:Nat)(v:Bool):bools (out.set o v)=(bools out).set o (.bool v):=by simp[bools,List.map_set]
def eB(n:Nat)(ks:List Int):Prop:=∀x∈ks,0<=x/\x<(n:Int)
theorem LB(ad:Q02)(cap:Nat)(rs:Q08)(w:ae)(hlen:rs.length<=1048576)(hs:jq w ad rs)(hl:∀r∈rs,r.e.light)(hk:∀r∈rs,eB rs.length r.e.kids):
  Calls prog 207 #[.slice ad rs.length cap] w fun e w'=>e=.returned (.slice (some ⟨w.heap.size,0,none⟩) rs.length rs.length)/\Fil w w' w.heap.size rs.length (bools (fC (aj rs))):=by
 have HS:=aC hs;have HL:=aC hl;have HK:=aC hk;clear hs hl hk;obtain⟨inf,hi,hz0,hz1,hz2⟩:=info_parts zV;go_enter func207,ntmps207;go_wp2_with(at_make;refine wpList_make_full _ rfl _ _ 279 rfl w.heap.size 4 inf (.bool false) 1 underlying279 hi hz0 hz1 .i64 .i64 _ _ rs.length rfl rfl rfl rfl (by rw[hz2];omega) (by unfold maxLen;omega) (VC _) ?_;intro w0 hown0 YQ);have HF0:Hid (Fil w w0 w.heap.size rs.length (bools (List.replicate rs.length false))):=by
  have:=CJ (v:=.bool false) hown0 YQ;show Fil _ _ _ _ _;simpa[bools] using this
 clear hown0 YQ hi hz0 hz1 hz2;go_loopw[4] (fun i wr=>∃(m:Nat) (out:List Bool),m<=rs.length/\i=.int .i64 ((m:Int)-1)/\out.length=rs.length/\Hid (iy (aj rs) m out=fC (aj rs))/\Hid (Fil w wr w.heap.size rs.length (bools out))) (fun i _=>(intOf i+1).toNat);case atStart=>exact⟨rs.length,List.replicate rs.length false,VC _,by go_num,by simp,(by show _=_;unfold fC;rw[aZ]),HF0⟩
 obtain⟨m,out,hm,rfl,hol,HN,HF⟩:=hrel;by_cases hm0:0<m
 ·obtain⟨m,rfl⟩:∃m',m=m'+1:=⟨m-1,by omega⟩;have hmi:(((m+1:Nat):Int)-1)=(m:Int):=by omega
  rw[hmi];have hlt:m<rs.length:=by omega
  rcases HS.out.below HF.out.below with rfl|⟨b,off,rfl,hb,hr,hok⟩
  ·simp at hlt
  obtain⟨t0,t1,t2,t3,t4⟩:=hr m hlt;have XK:Hid (rs[m].ok _):=hok rs[m] (Vz hlt);have lg:=(HL.out rs[m] (Vz hlt)).2;have HKI:Hid (eB rs.length rs[m].e.kids):=HK.out rs[m] (Vz hlt);have hk1:=bq m;have hk2:(m:Int)<(rs.length:Int):=by omega
  have hbw:b<w.heap.size:=by
   rcases HS.out with h|⟨b',off',h1,h2,-⟩
   ·rw[h]at hlt;simp at hlt
   injection h1 with h1;injection h1 with h1;omega
  have HR:Hid (yx wr b (off+m*5) rs[m]):=hr m hlt;have HNX:Hid (iy (aj rs) m (df m rs[m].e.kind rs[m].e.kids 0 out)=fC (aj rs)):=by
   show _=_;rw[<-HN.out,zW _ _ _ (by rw[aZ];exact hlt)];simp[aj]
  clear hr hok t0 t1 t2 t3 t4;go_wp2_with fail;go_loopw[5] (fun i w2=>∃(j:Nat) (WX:List Bool),j<=rs[m].e.kids.length/\i=.int .i64 j/\WX.length=rs.length/\Hid (df m rs[m].e.kind (rs[m].e.kids.drop j) j WX=df m rs[m].e.kind rs[m].e.kids 0 out)/\Hid (Fil w w2 w.heap.size rs.length (bools WX))) (fun i _=>rs[m].e.kids.length-(intOf i).toNat);case atStart=>exact⟨0,out,VG _,rfl,hol,rfl,HF⟩
  obtain⟨j,WX,hj,rfl,ho2,HJ,XW⟩:=hrel;have hE2:jq wr _ rs:=HS.out.below XW.out.below;have ht:yx wr b (off+m*5) rs[m]:=by
   rcases hE2 with h|⟨b',off',h1,h2,h3,-⟩
   ·exact absurd hlt (by rw[h];simp)
   injection h1 with h1;injection h1 with h1 h1';subst h1;subst h1';exact h3 m hlt
  obtain⟨t0,t1,t2,t3,t4⟩:=ht;by_cases hjl:j<rs[m].e.kids.length
  ·have hK2:wB wr rs[m].adK rs[m].e.kids:=(hE2.mem (Vz hlt)).2;rcases hK2 with hnil|⟨ba,YO,Xx,Z7,hra⟩
   ·rw[hnil]at hjl;simp at hjl
   rw[Xx]at t4;have q0:=hra j hjl;have hj1:=bq j;have hj2:(j:Int)<(rs[m].e.kids.length:Int):=by omega
   obtain⟨x0,x1⟩:=HKI.out _ (Vz hjl);obtain⟨x,hx⟩:∃x:Nat,rs[m].e.kids[j]=(x:Int):=⟨rs[m].e.kids[j].toNat,by omega⟩;rw[hx]at q0 x0 x1;have c0:=XW.out.done m (by simp[bools];omega);have fz:=XW.out.free;obtain⟨v0,u0⟩:=Option.isSome_iff_exists.mp (XW.out.there x (by omega));have hbr:b<wr.heap.size:=Vy hbw XW.out.below.size;obtain⟨bo,hbo⟩:∃bo,bo=(bools WX)[m]'(by simp[bools];omega):=⟨_,rfl⟩;rw[<-hbo]at c0;clear hra Xx hE2 t1 t2 t3;have hm2:m<WX.length:=by omega
   have hbo1:bo=.bool WX[m]:=by rw[hbo];simp[bools]
   have hbo':WX[m]?.getD false=WX[m]:=by simp[hm2]
   rw[hbo1]at c0;clear hbo hbo1;have HJ3:Hid (∀bv,(WX[m] || (rs[m].e.kind==6&&j==1))=bv->df m rs[m].e.kind (rs[m].e.kids.drop (j+1)) (j+1) (WX.set x bv)=df m rs[m].e.kind rs[m].e.kids 0 out):=by
    rintro _ rfl;rw[<-HJ.out,jC _ _ _ _ _ hjl,hx];simp[hbo']
   have YR:Hid (∀bv d os,Fil w ((grow (redrawn wr d) os).setCell ⟨w.heap.size,x,none⟩ (.bool bv)) w.heap.size rs.length (bools (WX.set x bv))):=by
    intro bv d os;rw[nZ];exact(XW.out.later (below_regrown wr d os)).set _ (by simp[bools];omega) (by omega)
   go_wp2_with fail;replace fz:=fun d os=>(XW.out.later (below_regrown wr d os)).free;replace t0:=cell_regrown t0;replace t4:=cell_regrown t4;replace q0:=cell_regrown q0;replace c0:=cell_regrown c0;replace u0:=cell_regrown u0;clear hbo';cases hb0:WX[m]<;>cases hkb:(rs[m].e.kind==6)<;>cases hjb:((j:Int)==1)
   all_goals
    have hjn:(j==1)=_:=(by rw[VV];simp;omega:(j==1)=((j:Int)==1)).trans hjb;rw[hb0]at c0;have HJ4:=qp (HJ3.out _ (by rw[hb0,hkb,hjn]));refine qc 26 1 (by kernel_rfl) (by rfl) (by kernel_rfl) ?_;simp only[List.take_succ_cons,List.take_zero]
    repeat(go_big_quiet_step (fail))
    refine wpQuiet_nil ?_;rintro _ ⟨⟨dq,osq⟩,rfl⟩;refine wpOp_step rfl (fun K hK=>?_);replace hK:=qp hK;go_simp;refine hK.out _ _ ?_;clear hK;unfold nR;go_wp2;go_roundw;case rel=>exact⟨j+1,_,by omega,by go_num,by simp[ho2],HJ4,YR.out _ _ _⟩
    simp[intOf]<;>omega
  have Y7:Hid (iy (aj rs) m WX=fC (aj rs)):=by
   show _=_;rw[<-HNX.out,<-HJ.out,VW (by omega)];rfl
  go_wp2;go_roundw;case rel=>exact⟨m,WX,by omega,by go_num,ho2,Y7,XW⟩
  simp[intOf]<;>omega
 obtain rfl:m=0:=by omega
 have Zf:Hid (Fil w wr w.heap.size rs.length (bools (fC (aj rs)))):=by
  show Fil _ _ _ _ _;rw[<-HN.out];exact HF.out
 go_wp2;go_ret;exact⟨rfl,Zf.out⟩
structure St where
 typ:ByteArray
 rel:ByteArray
 n:Int
def UD(w:World)(b off:Nat)(s:St):Prop:=w.cell? ⟨b,off,none⟩=some (.string s.typ)/\w.cell? ⟨b,off+1,none⟩=some (.string s.rel)/\w.cell? ⟨b,off+2,none⟩=some (.int .i64 s.n)
def IU(w:World)(ad:Q02)(xs:List St):Prop:=xs=[] \/ ∃b off,ad=some ⟨b,off,none⟩/\b<w.heap.size/\∀(i:Nat) (h:i<xs.length),UD w b (off+i*3) xs[i]
theorem IU.below{w w':ae}{ad:Q02}{xs:List St}(h:IU w ad xs)(hB:af w w'):IU w' ad xs:=by
 rcases h with h|⟨b,off,e,hb,hr⟩
 ·exact .inl h
 refine .inr ⟨b,off,e,Vy hb hB.size,fun i hi=>?_⟩;obtain⟨h0,h1,h2⟩:=hr i hi;exact⟨aI hB hb h0,aI hB hb h1,aI hB hb h2⟩
def zX(s:St)(typ rel:ByteArray):Bool:=(s.typ.toList==typ.toList)&&(s.rel.toList==rel.toList)
def gQ(typ rel:ByteArray):List St->Nat->Int
 | [],_=>-1
 | s::xs,k=>if zX s typ rel then (k:Int) else gQ typ rel xs (k+1)
theorem qG(typ rel:bW)(xs:List St)(k:Nat)(h:k<xs.length):gQ typ rel (xs.drop k) k=if zX xs[k] typ rel then (k:Int) else gQ typ rel (xs.drop (k+1)) (k+1):=by
 rw[V5 h];rfl
theorem OA(ad:Q02)(cap:Nat)(xs:List St)(typ rel:bW)(w:ae)(hlen:xs.length<=1048576)(hs:IU w ad xs):
  Calls prog 169 #[.slice ad xs.length cap,.string typ,.string rel] w fun e w'=>e=.returned (.int .i64 (gQ typ rel xs 0))/\w'=w:=by
 go_enter func169,ntmps169;go_wp2;go_loopw[7] (fun i wr=>∃k:Nat,k<=xs.length/\i=.int .i64 k/\Hid (gQ typ rel (xs.drop k) k=gQ typ rel xs 0)/\wr=w) (fun i _=>xs.length-(intOf i).toNat);case atStart=>exact⟨0,VG _,rfl,rfl,rfl⟩
 obtain⟨k,hk,rfl,HP,rfl⟩:=hrel;by_cases hlt:k<xs.length
 ·rcases hs with rfl|⟨b,off,rfl,hb,hr⟩
  ·simp at hlt
  obtain⟨t0,t1,t2⟩:=hr k hlt;have hk1:=bq k;have hk2:(k:Int)<(xs.length:Int):=by omega
  clear hr;cases hq:(xs[k].typ.toList==typ.toList);case true=>
   cases hp:(xs[k].rel.toList==rel.toList);case true=>
    have HN:Hid (gQ typ rel xs 0=(k:Int)):=by show _=_;rw[<-HP.out,qG _ _ _ _ hlt];simp[zX,hq,hp]
    go_wp2;go_ret;exact⟨by rw[HN.out];rfl,rfl⟩
   have Xa:Hid (gQ typ rel (xs.drop (k+1)) (k+1)=gQ typ rel xs 0):=by show _=_;rw[<-HP.out,qG _ _ _ _ hlt];simp[zX,hq,hp]
   go_wp2;go_roundw;case rel=>exact⟨k+1,by omega,by go_num,Xa,by first|rfl|trivial⟩
   simp[intOf]<;>omega
  have Xa:Hid (gQ typ rel (xs.drop (k+1)) (k+1)=gQ typ rel xs 0):=by show _=_;rw[<-HP.out,qG _ _ _ _ hlt];simp[zX,hq]
  go_wp2;go_roundw;case rel=>exact⟨k+1,by omega,by go_num,Xa,by first|rfl|trivial⟩
  simp[intOf]<;>omega
 have HN:Hid (gQ typ rel xs 0=-1):=by show _=_;rw[<-HP.out,VW (by omega)];rfl
 go_wp2;go_ret;exact⟨by rw[HN.out];rfl,rfl⟩
structure Dp where
 typ:ByteArray
 rel:ByteArray
 neg:Bool
def Dp.cells(d:Dp):List Value:=[.string d.typ,.string d.rel,.bool d.neg]
def dX:List Dp->List Value
 | []=>[]
 | d::ds=>d.cells++dX ds
theorem Ej(xs ys:List Dp):dX (xs++ys)=dX xs++dX ys:=by
 induction xs with
 | nil=>rfl
 | cons d ds ih=>simp[dX,ih]
theorem tV(xs:List Dp)(d:Dp):dX (xs++[d])=dX xs++d.cells:=by rw[Ej];simp[dX]
def dh(neg:Bool):List Al->List Dp
 | []=>[]
 | a::xs=>if a.s.toList.isEmpty then dh neg xs else ⟨a.t,a.s,neg⟩::dh neg xs
def og(ts:Q0b)(typ:ByteArray)(neg:Bool)(e:Ex):List Dp :=
 if e.kind=2 then [⟨typ,e.name,neg⟩] else if e.kind=3 then (ig ts typ e.over e.name).map fun g=>⟨g,e.name,neg⟩ else []
def kS(ts:Q0b)(typ:ByteArray)(es:Q09)(k:Nat):List Dp :=
 match es[k]? with
 | none=>[]
 | some e=>dh ((fC es).getD k false) e.allow++og ts typ ((fC es).getD k false) e
def aR(ts:Q0b)(typ:ByteArray)(es:Q09):Nat->List Dp
 | 0=>[]
 | k+1=>aR ts typ es k++kS ts typ es k
def qH(ts:Q0b)(typ:ByteArray)(es:Q09):List Dp:=aR ts typ es es.length
theorem uW(neg:Bool)(xs ys:Q0a):dh neg (xs++ys)=dh neg xs++dh neg ys:=by
 induction xs with
 | nil=>rfl
 | cons a xs ih=>simp only[Wp,dh,ih];split<;>simp
theorem OB(neg:Bool)(xs:Q0a)(k:Nat)(h:k<xs.length)(he:xs[k].s.toList.isEmpty=true):dh neg (xs.take (k+1))=dh neg (xs.take k):=by
 rw[VE h,uW];simp[dh]at he ⊢;simp[he]
theorem LC(neg:Bool)(xs:Q0a)(k:Nat)(h:k<xs.length)(he:xs[k].s.toList.isEmpty=false):dh neg (xs.take (k+1))=dh neg (xs.take k)++[⟨xs[k].t,xs[k].s,neg⟩]:=by
 rw[VE h,uW];simp[dh,he]
theorem CK(neg:Bool)(xs:Q0a):(dh neg xs).length<=xs.length:=by
 induction xs with
 | nil=>simp[dh]
 | cons a xs ih=>simp only[dh];split<;>simp<;>omega
theorem OC:(prog.info? 266).map (fun i=>(i.zero,i.size,i.bytes))=some (some (.agg #[.string ⟨#[]⟩,.string ⟨#[]⟩,.bool false]),3,40):=by kernel_rfl
theorem own_below{w w':ae}{base:Nat}{e:TypeId}{size:Nat}{v:Value}{n:Nat}{xs:Q03}(h:w.ownsRow base e size v n xs)(hB:af w w'):w'.ownsRow base e size v n xs:=by
 have hg:w.grownBy w' none:=⟨hB.os,hB.tape,hB.output,hB.size,fun k hk _=>hB.block k hk⟩;cases ho:v.ownBlock with
 | none=>exact h.kept hg (.inl ho)
 | some g=>exact h.kept hg (.inr (by rw[ho];simp))
theorem qI{w w':ae}{v v':Value}{g o:Nat}{u:Value}(h:Aside w v w' v')(hg:g<w.heap.size)(hv:v.ownBlock≠some g)(hc:w.cell? ⟨g,o,none⟩=some u):w'.cell? ⟨g,o,none⟩=some u:=(h.cell (p:=⟨g,o,none⟩) hg hv).trans hc
theorem FX(es:Q09)(m:Nat)(out:List Bool):(iy es m out).length=out.length:=by
 induction m generalizing out with
 | zero=>rfl
 | succ m ih =>
  simp only[iy];rw[ih];split
  ·rfl
  exact FW _ _ _ _ _
theorem FY(es:Q09):(fC es).length=es.length:=by unfold fC;rw[FX];simp
theorem FZ(ts:Q0b)(typ:bW)(rows:Q08)(k:Nat)(h:k<rows.length)(ng:Bool)(hn:ng=(fC (aj rows)).getD k false):aR ts typ (aj rows) (k+1)=(aR ts typ (aj rows) k++dh ng rows[k].e.allow)++og ts typ ng rows[k].e:=by
 have e:(aj rows)[k]?=some rows[k].e:=by simp[aj,h]
 show aR ts typ (aj rows) k++kS ts typ (aj rows) k=_;unfold kS;rw[e,hn,V8]
set_option maxRecDepth 100000 in
theorem IV(ad WW:Q02)(cap capE:Nat)(rs:Q06)(typ:bW)(rows:Q08)(w:ae)(hlen:rs.length<=1048576)(hs:jP w ad rs)(hl:∀r∈rs,r.light)(hle:rows.length<=15)(hse:jq w WW rows)(hlE:∀q∈rows,q.e.light)(hkE:∀q∈rows,eB rows.length q.e.kids)
    (hsm:∀k,(aR (ag rs) typ (aj rows) k).length<=100000000) :
    Calls prog 168 #[.slice ad rs.length cap,.string typ,.slice WW rows.length capE] w fun e w'=>(∃v,e=.returned v/\w'.ownsRow w.heap.size 266 3 v (qH (ag rs) typ (aj rows)).length (dX (qH (ag rs) typ (aj rows))))/\af w w':=by
  have HS:=aC hs;have HL:=aC hl;have HE:=aC hse;have XM:=aC hlE;have HKE:=aC hkE;have HSM:Hid (∀k,(aR (ag rs) typ (aj rows) k).length<=100000000):=hsm;clear hs hl hse hlE hkE hsm;obtain⟨i0,hi,hz0,hz1,hz2⟩:=info_parts OC;go_enter func168,ntmps168;go_wp2_with fail;have hbA:af w (w.alloc (.cells #[] 266)):=(VD _ _).alloc (VC _) _;have hown1:(w.alloc (.cells #[] 266)).ownsRow w.heap.size 266 3 (.slice (some ⟨w.heap.size,0,none⟩) 0 0) 0 []:=World.ownsRow_made w #[] 0 (VC _) (by decide) rfl;refine(LB WW capE rows _ (by omega) (HE.out.below hbA) XM.out HKE.out).mono ?_;rintro e w1 ⟨rfl,hF⟩;have Xj:Hid (w1.ownsRow w.heap.size 266 3 (.slice (some ⟨w.heap.size,0,none⟩) 0 0) 0 []):=own_below hown1 hF.below;have HB1:Hid (af w w1):=hbA.trans (hF.below.mono (by simp));have hgN:(w.alloc (.cells #[] 266)).heap.size=w.heap.size+1:=by simp
  rw[hgN]at hF ⊢;have hgl:=hF.lt;have HNG:Hid (∀(j:Nat) (h:j<rows.length),w1.cell? ⟨w.heap.size+1,j,none⟩=some (.bool ((fC (aj rows)).getD j false))):=by
    intro j hj;have hn:j<(fC (aj rows)).length:=by rw[FY,aZ];exact hj
    have:=hF.done j (by simpa[bools] using hn);rw[this];simp[bools,hn]
  clear hF hown1 hbA hgN;obtain⟨gN,hgN⟩:∃gN,gN=w.heap.size+1:=⟨_,rfl⟩;rw[<-hgN]at hgl HNG ⊢;have hgne:w.heap.size<gN:=by omega
  clear hgN;go_wp2_with fail;go_loopw[7,9] (fun v i wr=>∃k:Nat,k<=rows.length/\i=.int .i64 k/\Hid (wr.ownsRow w.heap.size 266 3 v (aR (ag rs) typ (aj rows) k).length (dX (aR (ag rs) typ (aj rows) k)))/\Hid (af w wr)/\Hid (Aside w1 (.slice (some ⟨w.heap.size,0,none⟩) 0 0) wr v)) (fun _ i _=>rows.length-(intOf i).toNat);case atStart=>exact⟨0,VG _,rfl,Xj,HB1,Aside.refl _ _⟩
  obtain⟨k,hk,rfl,HOW,HB,HAS⟩:=hrel;by_cases hlt:k<rows.length
  · rcases HE.out.below HB.out with rfl|⟨b,off,rfl,hb,hr,hok⟩
    · simp at hlt
    obtain⟨t0,t1,t2,t3,t4⟩:=hr k hlt;have XK:Hid (rows[k].ok w):=HE.out.mem (Vz hlt);have lg:=(XM.out rows[k] (Vz hlt)).1;have hk1:=bq k;have hk2:(k:Int)<(rows.length:Int):=by omega
    have c0:wr.cell? ⟨gN,k,none⟩=some (.bool ((fC (aj rows)).getD k false)):=(HAS.out.cell (p:=⟨gN,k,none⟩) hgl (by simp[Value.ownBlock];omega)).trans (HNG.out k hlt);clear hr hok;obtain⟨ng,hng⟩:∃ng,ng=(fC (aj rows)).getD k false:=⟨_,rfl⟩;rw[<-hng]at c0;have HNK:Hid (ng=(fC (aj rows)).getD k false):=hng;clear hng;obtain⟨W1,hW1⟩:∃W1,W1=wr.alloc (.cells #[.int .i64 rows[k].e.kind,.slice rows[k].adA rows[k].e.allow.length rows[k].capA,.string rows[k].e.over,.string rows[k].e.name,.slice rows[k].adK rows[k].e.kids.length rows[k].capK] 188):=⟨_,rfl⟩;have hal:af wr W1:=by rw[hW1];exact(VD _ _).alloc (VC _) _
    have Xl:=aC hal;have WZ:=kL HB hal;have YS:wr.heap.size<W1.heap.size:=by rw[hW1];simp
    have g0:W1.cell? ⟨wr.heap.size,0,none⟩=some (.int .i64 rows[k].e.kind):=by rw[hW1];simp
    have g1:W1.cell? ⟨wr.heap.size,1,none⟩=some (.slice rows[k].adA rows[k].e.allow.length rows[k].capA):=by rw[hW1];simp
    have g2:W1.cell? ⟨wr.heap.size,2,none⟩=some (.string rows[k].e.over):=by rw[hW1];simp
    have g3:W1.cell? ⟨wr.heap.size,3,none⟩=some (.string rows[k].e.name):=by rw[hW1];simp
    have hgr:gN<wr.heap.size:=Vy hgl HAS.out.size;have gn:=aI hal hgr c0;have Y8:Hid (W1.ownsRow w.heap.size 266 3 u7 (aR (ag rs) typ (aj rows) k).length (dX (aR (ag rs) typ (aj rows) k))):=own_below HOW.out hal;have HV1:Hid (u7.ownBlock≠some gN):=HAS.out.apart hgl (by simp[Value.ownBlock];omega);have Zk:Hid (u7.ownBlock≠some wr.heap.size):=fun e=>by have:=(HOW.out.lt _ e).2;omega
    clear hal c0;go_wp2_with fail;rw[<-hW1];clear hW1 t0 t1 t2 t3 t4;obtain⟨wo,hwo⟩:∃wo,wo=wr:=⟨_,rfl⟩;subst hwo;go_loopw[7,11] (fun v i w2=>∃j:Nat,j<=rows[k].e.allow.length/\i=.int .i64 j/\Hid (w2.ownsRow w.heap.size 266 3 v ((aR (ag rs) typ (aj rows) k).length+(dh ng (rows[k].e.allow.take j)).length) (dX (aR (ag rs) typ (aj rows) k++dh ng (rows[k].e.allow.take j))))/\Hid (af w w2)/\Hid (Aside W1 u7 w2 v)) (fun _ i _=>rows[k].e.allow.length-(intOf i).toNat);case atStart=>exact⟨0,VG _,rfl,(by simpa[dh,Hid] using Y8),WZ,Aside.refl _ _⟩
    obtain⟨j,hj,rfl,WV,HB2,HA2⟩:=hrel;have d0:=qI HA2.out YS Zk.out g0;have d1:=qI HA2.out YS Zk.out g1;have d2:=qI HA2.out YS Zk.out g2;have d3:=qI HA2.out YS Zk.out g3;have dn:=qI HA2.out (Nat.lt_trans hgr YS) HV1.out gn;clear g0 g1 g2 g3 gn;by_cases hjl:j<rows[k].e.allow.length
    · have hA3:=(XK.out.1).below HB2.out;have hA4:=XK.out.1;rcases hA4 with hnil|⟨ba,YO,YP,Z7,-⟩
      · rw[hnil]at hjl;simp at hjl
      rcases hA3 with hnil|⟨ba',offa',hadA',-,hra⟩
      · rw[hnil]at hjl;simp at hjl
      rw[YP]at hadA' d1;injection hadA' with hadA';injection hadA' with e1 e2;subst e1;subst e2;obtain⟨q0,q1⟩:=hra j hjl;have hj1:=bq j;have hj2:(j:Int)<(rows[k].e.allow.length:Int):=by omega
      clear hra YP;cases he:rows[k].e.allow[j].s.toList.isEmpty;case true=>
        have HE2:Hid (dh ng (rows[k].e.allow.take (j+1))=dh ng (rows[k].e.allow.take j)):=OB _ _ _ hjl he;go_wp2;go_roundw;case rel=>exact⟨j+1,by omega,by go_num,by rw[HE2.out];exact WV,HB2,HA2⟩
        simp[intOf]<;>omega
      have HE2:Hid (dh ng (rows[k].e.allow.take (j+1))=dh ng (rows[k].e.allow.take j)++[⟨rows[k].e.allow[j].t,rows[k].e.allow[j].s,ng⟩]):=LC _ _ _ hjl he;have a1:u7.ownBlock≠some wo.heap.size:=HA2.out.apart YS Zk.out;have a2:u7.ownBlock≠some gN:=HA2.out.apart (Nat.lt_trans hgr YS) HV1.out;have a3:u7.ownBlock≠some ba:=fun e=>by have:=(WV.out.lt _ e).1;omega
      have l1:wo.heap.size<wr.heap.size:=Vy YS HA2.out.size;have l2:gN<wr.heap.size:=Nat.lt_trans hgr l1;have l3:ba<wr.heap.size:=Vy Z7 HB2.out.size;have l4:w.heap.size<=wr.heap.size:=HB2.out.size;obtain⟨xs,hxs⟩:∃xs,xs=dX (aR (ag rs) typ (aj rows) k++dh ng (rows[k].e.allow.take j)):=⟨_,rfl⟩;obtain⟨n,hn⟩:∃n,n=(aR (ag rs) typ (aj rows) k).length+(dh ng (rows[k].e.allow.take j)).length:=⟨_,rfl⟩;have hnl:n<=101048576:=by
        have h1:=HSM.out k;have h2:=CK ng (rows[k].e.allow.take j);rw[V9]at h2;omega
      have hown:=WV.out;rw[<-hxs,<-hn]at hown;have ZH:Hid (dX (aR (ag rs) typ (aj rows) k++dh ng (rows[k].e.allow.take (j+1)))=xs++[.string rows[k].e.allow[j].t,.string rows[k].e.allow[j].s,.bool ng]):=by
        show _=_;rw[HE2.out,<-V8,tV,<-hxs];rfl
      have Y9:Hid ((aR (ag rs) typ (aj rows) k).length+(dh ng (rows[k].e.allow.take (j+1))).length=n+1):=by
        show _=_;rw[HE2.out,hn];simp;omega
      clear WV hxs hn;go_wp2_with fail
      go_region_held3 (fun w'=>w'.cell? ⟨wo.heap.size,1,none⟩=some (.slice (some ⟨ba,YO,none⟩) rows[k].e.allow.length rows[k].capA)/\w'.cell? ⟨ba,YO+j*2,none⟩=some (.string rows[k].e.allow[j].t) /\
          w'.cell? ⟨ba,YO+j*2+1,none⟩=some (.string rows[k].e.allow[j].s)/\w'.cell? ⟨gN,k,none⟩=some (.bool ng))
        (first
          | go_keep
          | (go_split_ands
             refine⟨?_,?_,?_,?_⟩
             · (rw[hgrow.cell_far _ (by simp;omega) (Ne.symm a1)];assumption)
             · (rw[hgrow.cell_far _ (by simp;omega) (Ne.symm a3)];assumption)
             · (rw[hgrow.cell_far _ (by simp;omega) (Ne.symm a3)];assumption)
             · (rw[hgrow.cell_far _ (by simp;omega) (Ne.symm a2)];assumption)))
        ((refine step_append_lies _ (by rfl) _ _ _ (by rfl) w.heap.size 266 i0 _ 3 40 underlying262 hi hz0 hz1 hz2 rfl (by omega) u7 n xs (by rfl) ((hown.alloc _).drew)
            ⟨wr.heap.size,0,none⟩ 1 1 [.string rows[k].e.allow[j].t,.string rows[k].e.allow[j].s,.bool ng] (by rfl) (by rfl) (World.news_of_block (cs:=#[.string rows[k].e.allow[j].t,.string rows[k].e.allow[j].s,.bool ng]) (t:=266) (fr:=(0,0)) (heap_alloc_new wr _)) (by simp[Value.oneCell'])
            (by omega) (by unfold maxLen;omega) (by omega) (by simp;omega) (wr.heap.size+1) (by simp) ?_;intro gg cp w5 hown5 hgrow hat hlt5))
      have hb5:Hid (af w w5):=((HB2.out.alloc HB2.out.size _).drew).grown hgrow (by simp;omega) (fun i hi=>(hown.lt i hi).1);have hAx:Aside wr u7 w5 (.slice (some ⟨gg,0,none⟩) (n+1) cp):=(Aside.below (((VD _ _).alloc (VC _) _).drew)).trans (Aside.app hgrow (by
        rcases hat with e|e
        · left;rw[e];rfl
        · right;rw[e];simp[Value.ownBlock]))
      have HA5:=HA2.out.trans hAx;have HA5':Hid (Aside W1 _ w5 (.slice (some ⟨gg,0,none⟩) (n+1) cp)):=HA5;have Xi:Hid (w5.ownsRow w.heap.size 266 3 (.slice (some ⟨gg,0,none⟩) (n+1) cp) ((aR (ag rs) typ (aj rows) k).length+(dh ng (rows[k].e.allow.take (j+1))).length) (dX (aR (ag rs) typ (aj rows) k++dh ng (rows[k].e.allow.take (j+1))))):=by
        show World.ownsRow _ _ _ _ _ _ _;rw[ZH.out,Y9.out];exact hown5
      clear hown5 hgrow hat hAx HA5 hown;go_wp2;go_roundw;case rel=>exact⟨j+1,by omega,by go_num,Xi,hb5,HA5'⟩
      simp[intOf]<;>omega
    · obtain rfl:j=rows[k].e.allow.length:=by omega
      have a1:u7.ownBlock≠some wo.heap.size:=HA2.out.apart YS Zk.out;have a2:u7.ownBlock≠some gN:=HA2.out.apart (Nat.lt_trans hgr YS) HV1.out;have l1:wo.heap.size<wr.heap.size:=Vy YS HA2.out.size;have l2:gN<wr.heap.size:=Nat.lt_trans hgr l1;have l4:w.heap.size<=wr.heap.size:=HB2.out.size;have HUS:=FZ (ag rs) typ rows k hlt ng HNK.out;obtain⟨D,hD⟩:∃D,D=aR (ag rs) typ (aj rows) k++dh ng rows[k].e.allow:=⟨_,rfl⟩;have hown:wr.ownsRow w.heap.size 266 3 u7 D.length (dX D):=by
        have:=WV.out;rw[VP,<-hD,<-VI,<-hD]at this;exact this
      rw[<-hD]at HUS;have hnl:D.length<=100000000:=by
        have h1:=HSM.out (k+1);rw[HUS,VI]at h1;omega
      have HUP:Hid (aR (ag rs) typ (aj rows) (k+1)=D++og (ag rs) typ ng rows[k].e):=HUS;have HAW:Hid (Aside w1 (.slice (some ⟨w.heap.size,0,none⟩) 0 0) wr u7):=(HAS.out.trans (Aside.below Xl.out)).trans HA2.out;clear WV HUS hD;by_cases h2:rows[k].e.kind=2
      · have ZH:Hid (aR (ag rs) typ (aj rows) (k+1)=D++[⟨typ,rows[k].e.name,ng⟩]):=by show _=_;rw[HUP.out];simp[og,h2]
        obtain⟨xs,hxs⟩:∃xs,xs=dX D:=⟨_,rfl⟩;obtain⟨n,hn⟩:∃n,n=D.length:=⟨_,rfl⟩;rw[<-hxs,<-hn]at hown;rw[<-hn]at hnl;have HFX:Hid (dX (aR (ag rs) typ (aj rows) (k+1))=xs++[.string typ,.string rows[k].e.name,.bool ng]):=by
          show _=_;rw[ZH.out,tV,<-hxs];rfl
        have Y9:Hid ((aR (ag rs) typ (aj rows) (k+1)).length=n+1):=by show _=_;rw[ZH.out,hn];simp
        clear hxs hn;go_wp2_with fail
        go_region_held3 (fun w'=>w'.cell? ⟨wo.heap.size,3,none⟩=some (.string rows[k].e.name)/\w'.cell? ⟨gN,k,none⟩=some (.bool ng))
          (first
            | go_keep
            | (go_split_ands
               refine⟨?_,?_⟩
               · (rw[hgrow.cell_far _ (by simp;omega) (Ne.symm a1)];assumption)
               · (rw[hgrow.cell_far _ (by simp;omega) (Ne.symm a2)];assumption)))
          ((refine step_append_lies _ (by rfl) _ _ _ (by rfl) w.heap.size 266 i0 _ 3 40 underlying262 hi hz0 hz1 hz2 rfl (by omega) u7 n xs (by rfl) ((hown.alloc _).drew)
              ⟨wr.heap.size,0,none⟩ 1 1 [.string typ,.string rows[k].e.name,.bool ng] (by rfl) (by rfl) (World.news_of_block (cs:=#[.string typ,.string rows[k].e.name,.bool ng]) (t:=266) (fr:=(0,0)) (heap_alloc_new wr _)) (by simp[Value.oneCell'])
              (by omega) (by unfold maxLen;omega) (by omega) (by simp;omega) (wr.heap.size+1) (by simp) ?_;intro gg cp w5 hown5 hgrow hat hlt5))
        have hb5:Hid (af w w5):=((HB2.out.alloc HB2.out.size _).drew).grown hgrow (by simp;omega) (fun i hi=>(hown.lt i hi).1);have hAx:Aside wr u7 w5 (.slice (some ⟨gg,0,none⟩) (n+1) cp):=(Aside.below (((VD _ _).alloc (VC _) _).drew)).trans (Aside.app hgrow (by
          rcases hat with e|e
          · left;rw[e];rfl
          · right;rw[e];simp[Value.ownBlock]))
        have f0:=qI hAx l1 a1 d0;have HA5:Hid (Aside w1 (.slice (some ⟨w.heap.size,0,none⟩) 0 0) w5 (.slice (some ⟨gg,0,none⟩) (n+1) cp)):=HAW.out.trans hAx;have Xi:Hid (w5.ownsRow w.heap.size 266 3 (.slice (some ⟨gg,0,none⟩) (n+1) cp) (aR (ag rs) typ (aj rows) (k+1)).length (dX (aR (ag rs) typ (aj rows) (k+1)))):=by
          show World.ownsRow _ _ _ _ _ _ _;rw[HFX.out,Y9.out];exact hown5
        clear hown5 hgrow hat hAx hown d0 d1 d2 d3 dn;go_wp2;go_roundw;case rel=>exact⟨k+1,by omega,by go_num,Xi,hb5,HA5⟩
        simp[intOf]<;>omega
      by_cases h3:rows[k].e.kind=3
      · go_wp2_with fail;refine(xL ad cap rs _ _ _ _ hlen (HS.out.below HB2.out) HL.out).mono ?_;rintro e w4 ⟨⟨ad4,cap4,rfl,hs4,hn4⟩,hb4⟩;have HXG:Hid (aR (ag rs) typ (aj rows) (k+1)=D++(ig (ag rs) typ rows[k].e.over rows[k].e.name).map fun g=>(⟨g,rows[k].e.name,ng⟩:Dp)):=by show _=_;rw[HUP.out];simp[og,h3]
        generalize ig (ag rs) typ rows[k].e.over rows[k].e.name=gs at *
        have hgs:D.length+gs.length<=100000000:=by
          have h1:=HSM.out (k+1);rw[HXG.out,VI,WC]at h1;exact h1
        have f3:=aI hb4 l1 d3;have fn:=aI hb4 l2 dn;have Xk:Hid (w4.ownsRow w.heap.size 266 3 u7 D.length (dX D)):=own_below hown hb4;have XR:=kL HB2 hb4;have HA4:Hid (Aside w1 (.slice (some ⟨w.heap.size,0,none⟩) 0 0) w4 u7):=HAW.out.trans (Aside.below hb4);have HSG:=aC hs4;have HVG:Hid (∀p,ad4=some p->u7.ownBlock≠some p.block):=fun p hp e=>by have h1:=(hown.lt _ e).2;have h2:=hn4 p hp;omega
        have m1:wo.heap.size<w4.heap.size:=Vy l1 hb4.size;have m2:gN<w4.heap.size:=Vy l2 hb4.size;have m4:w.heap.size<=w4.heap.size:=XR.out.size;clear hown hb4 hs4 hn4 d0 d1 d2 d3 dn l1 l2 l4;obtain⟨uo,huo⟩:∃uo,uo=u7:=⟨_,rfl⟩;subst huo;go_wp2_with fail;go_loopw[7,13] (fun v i w6=>∃m:Nat,m<=gs.length/\i=.int .i64 m/\Hid (w6.ownsRow w.heap.size 266 3 v (D.length+m) (dX (D++(gs.take m).map fun g=>(⟨g,rows[k].e.name,ng⟩:Dp))))/\Hid (af w w6)/\Hid (Aside w4 uo w6 v)) (fun _ i _=>gs.length-(intOf i).toNat);case atStart=>exact⟨0,VG _,rfl,(by simpa[Hid] using Xk),XR,Aside.refl _ _⟩
        obtain⟨m,hm,rfl,XD,Yq,HA6⟩:=hrel;have x3:=qI HA6.out m1 a1 f3;have xn:=qI HA6.out m2 a2 fn;by_cases Xu:m<gs.length
        · rcases HSG.out with rfl|⟨bg,offg,rfl,hbg,hrg⟩
          · simp at Xu
          have q0:=qI HA6.out hbg (HVG.out _ rfl) (hrg m Xu);have hm1:=bq m;have hm2:(m:Int)<(gs.length:Int):=by omega
          have b1:u7.ownBlock≠some wo.heap.size:=HA6.out.apart m1 a1;have b2:u7.ownBlock≠some gN:=HA6.out.apart m2 a2;have b3:u7.ownBlock≠some bg:=HA6.out.apart hbg (HVG.out _ rfl);have l1:wo.heap.size<wr.heap.size:=Vy m1 HA6.out.size;have l2:gN<wr.heap.size:=Vy m2 HA6.out.size;have l3:bg<wr.heap.size:=Vy hbg HA6.out.size;have l4:w.heap.size<=wr.heap.size:=Yq.out.size;obtain⟨xs,hxs⟩:∃xs,xs=dX (D++(gs.take m).map fun g=>(⟨g,rows[k].e.name,ng⟩:Dp)):=⟨_,rfl⟩;obtain⟨n,hn⟩:∃n,n=D.length+m:=⟨_,rfl⟩;have hown:=XD.out;rw[<-hxs,<-hn]at hown;have HFX:Hid (dX (D++(gs.take (m+1)).map fun g=>(⟨g,rows[k].e.name,ng⟩:Dp))=xs++[.string gs[m],.string rows[k].e.name,.bool ng]):=by
            show _=_;rw[VE Xu,WA,<-V8,List.map_singleton,tV,<-hxs];rfl
          have Y9:Hid (D.length+(m+1)=n+1):=by show _=_;omega
          have hnl2:n<=100000000:=by omega
          have hgb:gs.length<=100000000:=by omega
          clear XD hxs hn hrg hnl hgs;go_wp2_with fail
          go_region_held3 (fun w'=>w'.cell? ⟨wo.heap.size,3,none⟩=some (.string rows[k].e.name)/\w'.cell? ⟨gN,k,none⟩=some (.bool ng)/\w'.cell? ⟨bg,offg+m,none⟩=some (.string gs[m]))
            (first
              | go_keep
              | (go_split_ands
                 refine⟨?_,?_,?_⟩
                 · (rw[hgrow.cell_far _ (by simp;omega) (Ne.symm b1)];assumption)
                 · (rw[hgrow.cell_far _ (by simp;omega) (Ne.symm b2)];assumption)
                 · (rw[hgrow.cell_far _ (by simp;omega) (Ne.symm b3)];assumption)))
            ((refine step_append_lies _ (by rfl) _ _ _ (by rfl) w.heap.size 266 i0 _ 3 40 underlying262 hi hz0 hz1 hz2 rfl (by omega) u7 n xs (by rfl) ((hown.alloc _).drew)
                ⟨wr.heap.size,0,none⟩ 1 1 [.string gs[m],.string rows[k].e.name,.bool ng] (by rfl) (by rfl) (World.news_of_block (cs:=#[.string gs[m],.string rows[k].e.name,.bool ng]) (t:=266) (fr:=(0,0)) (heap_alloc_new wr _)) (by simp[Value.oneCell'])
                (by omega) (by unfold maxLen;omega) (by omega) (by simp;omega) (wr.heap.size+1) (by simp) ?_;intro gg cp w5 hown5 hgrow hat hlt5))
          have hb5:Hid (af w w5):=((Yq.out.alloc Yq.out.size _).drew).grown hgrow (by simp;omega) (fun i hi=>(hown.lt i hi).1);have hAx:Aside wr u7 w5 (.slice (some ⟨gg,0,none⟩) (n+1) cp):=(Aside.below (((VD _ _).alloc (VC _) _).drew)).trans (Aside.app hgrow (by
            rcases hat with e|e
            · left;rw[e];rfl
            · right;rw[e];simp[Value.ownBlock]))
          have HA5:Hid (Aside w4 uo w5 (.slice (some ⟨gg,0,none⟩) (n+1) cp)):=HA6.out.trans hAx;have Xi:Hid (w5.ownsRow w.heap.size 266 3 (.slice (some ⟨gg,0,none⟩) (n+1) cp) (D.length+(m+1)) (dX (D++(gs.take (m+1)).map fun g=>(⟨g,rows[k].e.name,ng⟩:Dp)))):=by
            show World.ownsRow _ _ _ _ _ _ _;rw[HFX.out,Y9.out];exact hown5
          clear hown5 hgrow hat hAx hown;go_wp2;go_roundw;case rel=>exact⟨m+1,by omega,by go_num,Xi,hb5,HA5⟩
          simp[intOf]<;>omega
        · obtain rfl:m=gs.length:=by omega
          have Xi:Hid (wr.ownsRow w.heap.size 266 3 u7 (aR (ag rs) typ (aj rows) (k+1)).length (dX (aR (ag rs) typ (aj rows) (k+1)))):=by
            have:=XD.out;show World.ownsRow _ _ _ _ _ _ _;rw[VP]at this;rw[HXG.out,VI,WC];exact this
          have HA5:Hid (Aside w1 (.slice (some ⟨w.heap.size,0,none⟩) 0 0) wr u7):=HA4.out.trans HA6.out;clear XD;go_wp2;go_roundw;case rel=>exact⟨k+1,by omega,by go_num,Xi,Yq,HA5⟩
          simp[intOf]<;>omega
      · have ZH:Hid (aR (ag rs) typ (aj rows) (k+1)=D):=by show _=_;rw[HUP.out];simp[og,h2,h3]
        have hb2:(rows[k].e.kind==2)=false:=by simpa using h2
        have hb3:(rows[k].e.kind==3)=false:=by simpa using h3
        have Xi:Hid (wr.ownsRow w.heap.size 266 3 u7 (aR (ag rs) typ (aj rows) (k+1)).length (dX (aR (ag rs) typ (aj rows) (k+1)))):=by
          show World.ownsRow _ _ _ _ _ _ _;rw[ZH.out];exact hown
        clear hown;go_wp2;go_roundw;case rel=>exact⟨k+1,by omega,by go_num,Xi,HB2,HAW⟩
        simp[intOf]<;>omega
  · obtain rfl:k=rows.length:=by omega
    have HFI:Hid (wr.ownsRow w.heap.size 266 3 u7 (qH (ag rs) typ (aj rows)).length (dX (qH (ag rs) typ (aj rows)))):=by
      have:=HOW.out;show World.ownsRow _ _ _ _ _ _ _;unfold qH;rw[aZ];exact this
    clear HOW;go_wp2;go_ret;exact⟨⟨_,rfl,HFI.out⟩,HB.out⟩
end Go.Proofs.YtcgdckphpjfmhaaGreatDoor
