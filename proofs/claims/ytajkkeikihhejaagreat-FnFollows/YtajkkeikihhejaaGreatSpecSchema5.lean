/- Contract of the document's function that marks which nodes stand in what is taken away. -/
import Derived.Test.YtajkkeikihhejaaGreatSq
import Derived.Test.YtajkkeikihhejaaGreatSpecSchema4
import Derived.Test.YtajkkeikihhejaaGreatJ2
open Go.Proofs.Tryz
set_option maxHeartbeats 80000000
namespace Go.Proofs.YtajkkeikihhejaaGreat
open Go.Sort
open ChangeShapes WideShapes ChangeAt RowKit
open Pl
def bC(i:Nat)(kind:Int):List Int->Nat->List Bool->List Bool
 | [],_,out=>out
 | x::xs,k,out=>bC i kind xs (k+1) (out.set x.toNat (out.getD i false || (kind==6&&k==1)))
def dW(es:Q09):Nat->List Bool->List Bool
 | 0,out=>out
 | i+1,out=>dW es i (match es[i]? with|none=>out|some e=>bC i e.kind e.kids 0 out)
def dD(es:Q09):List Bool:=dW es es.length (List.replicate es.length false)
theorem x8(i:Nat)(kind:Int)(xs:List Int)(k:Nat)(out:List Bool):(bC i kind xs k out).length=out.length:=by
 induction xs generalizing k out with
 | nil=>rfl
 | cons x xs ih=>simp[bC,ih]
def bools(xs:List Bool):List Value:=xs.map Value.bool
theorem Fil.set{w wr:af}{g n o:Nat}{xs:Q03}(h:Fil w wr g n xs)(v:Value)(ho:o<xs.length)(hn:o<n):Fil w (wr.setCell ⟨g,o,none⟩ v) g n (xs.set o v) where
 below:=h.below.setCell (p:=⟨g,o,none⟩) h.ge v
 ge:=h.ge
 lt:=by simpa using h.lt
 done j hj:=by
  by_cases e:j=o
  ·subst e;obtain⟨u,hu⟩:=Option.isSome_iff_exists.mp (h.there j hn);rw[zy hu];simp
  have hj':j<xs.length:=by simpa using hj
  rw[qi (Ne.symm e),h.done j hj',List.getElem_set_ne (Ne.symm e)]
 there j hj:=by
  by_cases e:j=o
  ·subst e;obtain⟨u,hu⟩:=Option.isSome_iff_exists.mp (h.there j hn);rw[zy hu];rfl
  rw[qi (Ne.symm e)];exact h.there j hj
 free j:=by simpa using h.free j
theorem Fil.drew{w wr:af}{g n:Nat}{xs:Q03}(h:Fil w wr g n xs):Fil w wr.drew g n xs:=⟨h.below.drew,h.ge,h.lt,h.done,h.there,h.free⟩
theorem CZ{w w0:af}{n:Nat}{base:Nat}{e:TypeId}{v:Value}(h:w0.ownsRow base e 1 (.slice (some ⟨w.heap.size,0,none⟩) n n) n (madeCells #[v] (n*1)).toList)(hg:w.grownBy w0 none):Fil w w0 w.heap.size n (List.replicate n v) where
 below:=(UV _ _).grown hg (UU _) (fun k hk=>by cases hk)
 ge:=UU _
 lt:=(h.lt w.heap.size rfl).2
 done j hj:=by
  have hj':j<n:=by simpa using hj
  rw[h.cellAt j (by omega),toList_madeCells_one];simp[hj']
 there j hj:=by
  rw[h.cellAt j (by omega),U1 (by rw[h.1];omega)];rfl
 free j:=h.frozenAt j
theorem z8:(prog.info? 4).map (fun i=>(i.zero,i.size,i.bytes))=some (some (.bool false),1,1):=by kernel_rfl
theorem Aa(es:Q09)(m:Nat)(out:List Bool)(h:m<es.length):dW es (m+1) out=dW es m (bC m es[m].kind es[m].kids 0 out):=by
 simp[dW,h]
theorem jK(i:Nat)(kind:Int)(ks:List Int)(j:Nat)(out:List Bool)(h:j<ks.length):bC i kind (ks.drop j) j out=bC i kind (ks.drop (j+1)) (j+1) (out.set ks[j].toNat (out.getD i false || (kind==6&&j==1))):=by
 rw[Vl h];rfl
theorem nV(out:List Bool)(o:Nat)(v:Bool):bools (out.set o v)=(bools out).set o (.bool v):=by simp[bools,List.map_set]
def fe(n:Nat)(ks:List Int):Prop:=∀x∈ks,0<=x/\x<(n:Int)
theorem LV(ad:Q02)(cap:Nat)(rs:Q08)(w:af)(hlen:rs.length<=1048576)(hs:gZ w ad rs)(hl:∀r∈rs,r.e.light)(hk:∀r∈rs,fe rs.length r.e.kids):
  Calls prog 196 #[.slice ad rs.length cap] w fun e w'=>e=.returned (.slice (some ⟨w.heap.size,0,none⟩) rs.length rs.length)/\Fil w w' w.heap.size rs.length (bools (dD (ak rs))):=by
 have HS:=aC hs;have HL:=aC hl;have HK:=aC hk;clear hs hl hk;obtain⟨inf,hi,hz0,hz1,hz2⟩:=info_parts z8;go_enter func196,ntmps196;go_wp2_with(at_make;refine wpList_make_full _ rfl _ _ 275 rfl w.heap.size 4 inf (.bool false) 1 underlying275 hi hz0 hz1 .i64 .i64 _ _ rs.length rfl rfl rfl rfl (by rw[hz2];omega) (by unfold maxLen;omega) (UU _) ?_;intro w0 hown0 Yk);have HF0:Hid (Fil w w0 w.heap.size rs.length (bools (List.replicate rs.length false))):=by
  have:=CZ (v:=.bool false) hown0 Yk;show Fil _ _ _ _ _;simpa[bools] using this
 clear hown0 Yk hi hz0 hz1 hz2;go_loopw[4] (fun i wr=>∃(m:Nat) (out:List Bool),m<=rs.length/\i=.int .i64 ((m:Int)-1)/\out.length=rs.length/\Hid (dW (ak rs) m out=dD (ak rs))/\Hid (Fil w wr w.heap.size rs.length (bools out))) (fun i _=>(intOf i+1).toNat);case atStart=>exact⟨rs.length,List.replicate rs.length false,UU _,by go_num,by simp,(by show _=_;unfold dD;rw[aQ]),HF0⟩
 obtain⟨m,out,hm,rfl,hol,HN,HF⟩:=hrel;by_cases hm0:0<m
 ·obtain⟨m,rfl⟩:∃m',m=m'+1:=⟨m-1,by omega⟩;have hmi:(((m+1:Nat):Int)-1)=(m:Int):=by omega
  rw[hmi];have hlt:m<rs.length:=by omega
  rcases HS.out.below HF.out.below with rfl|⟨b,off,rfl,hb,hr,hok⟩
  ·simp at hlt
  obtain⟨t0,t1,t2,t3,t4⟩:=hr m hlt;have XE:Hid (rs[m].ok _):=hok rs[m] (UR hlt);have lg:=(HL.out rs[m] (UR hlt)).2;have HKI:Hid (fe rs.length rs[m].e.kids):=HK.out rs[m] (UR hlt);have hk1:=bG m;have hk2:(m:Int)<(rs.length:Int):=by omega
  have hbw:b<w.heap.size:=by
   rcases HS.out with h|⟨b',off',h1,h2,-⟩
   ·rw[h]at hlt;simp at hlt
   injection h1 with h1;injection h1 with h1;omega
  have HR:Hid (yK wr b (off+m*5) rs[m]):=hr m hlt;have HNX:Hid (dW (ak rs) m (bC m rs[m].e.kind rs[m].e.kids 0 out)=dD (ak rs)):=by
   show _=_;rw[<-HN.out,Aa _ _ _ (by rw[aQ];exact hlt)];simp[ak]
  clear hr hok t0 t1 t2 t3 t4;go_wp2_with fail;go_loopw[5] (fun i w2=>∃(j:Nat) (Wd:List Bool),j<=rs[m].e.kids.length/\i=.int .i64 j/\Wd.length=rs.length/\Hid (bC m rs[m].e.kind (rs[m].e.kids.drop j) j Wd=bC m rs[m].e.kind rs[m].e.kids 0 out)/\Hid (Fil w w2 w.heap.size rs.length (bools Wd))) (fun i _=>rs[m].e.kids.length-(intOf i).toNat);case atStart=>exact⟨0,out,UY _,rfl,hol,rfl,HF⟩
  obtain⟨j,Wd,hj,rfl,ho2,HJ,XK⟩:=hrel;have hE2:gZ wr _ rs:=HS.out.below XK.out.below;have ht:yK wr b (off+m*5) rs[m]:=by
   rcases hE2 with h|⟨b',off',h1,h2,h3,-⟩
   ·exact absurd hlt (by rw[h];simp)
   injection h1 with h1;injection h1 with h1 h1';subst h1;subst h1';exact h3 m hlt
  obtain⟨t0,t1,t2,t3,t4⟩:=ht;by_cases hjl:j<rs[m].e.kids.length
  ·have hK2:sK wr rs[m].adK rs[m].e.kids:=(hE2.mem (UR hlt)).2;rcases hK2 with hnil|⟨ba,Yi,WA,ZK,hra⟩
   ·rw[hnil]at hjl;simp at hjl
   rw[WA]at t4;have q0:=hra j hjl;have hj1:=bG j;have hj2:(j:Int)<(rs[m].e.kids.length:Int):=by omega
   obtain⟨x0,x1⟩:=HKI.out _ (UR hjl);obtain⟨x,hx⟩:∃x:Nat,rs[m].e.kids[j]=(x:Int):=⟨rs[m].e.kids[j].toNat,by omega⟩;rw[hx]at q0 x0 x1;have c0:=XK.out.done m (by simp[bools];omega);have fz:=XK.out.free;obtain⟨v0,u0⟩:=Option.isSome_iff_exists.mp (XK.out.there x (by omega));have hbr:b<wr.heap.size:=UT hbw XK.out.below.size;obtain⟨bo,hbo⟩:∃bo,bo=(bools Wd)[m]'(by simp[bools];omega):=⟨_,rfl⟩;rw[<-hbo]at c0;clear hra WA hE2 t1 t2 t3;have hm2:m<Wd.length:=by omega
   have hbo1:bo=.bool Wd[m]:=by rw[hbo];simp[bools]
   have hbo':Wd[m]?.getD false=Wd[m]:=by simp[hm2]
   rw[hbo1]at c0;clear hbo hbo1;have HJ3:Hid (∀bv,(Wd[m] || (rs[m].e.kind==6&&j==1))=bv->bC m rs[m].e.kind (rs[m].e.kids.drop (j+1)) (j+1) (Wd.set x bv)=bC m rs[m].e.kind rs[m].e.kids 0 out):=by
    rintro _ rfl;rw[<-HJ.out,jK _ _ _ _ _ hjl,hx];simp[hbo']
   have Yh:Hid (∀bv d os,Fil w ((grow (redrawn wr d) os).setCell ⟨w.heap.size,x,none⟩ (.bool bv)) w.heap.size rs.length (bools (Wd.set x bv))):=by
    intro bv d os;rw[nV];exact(XK.out.later (below_regrown wr d os)).set _ (by simp[bools];omega) (by omega)
   go_wp2_with fail;replace fz:=fun d os=>(XK.out.later (below_regrown wr d os)).free;replace t0:=cell_regrown t0;replace t4:=cell_regrown t4;replace q0:=cell_regrown q0;replace c0:=cell_regrown c0;replace u0:=cell_regrown u0;clear hbo';cases hb0:Wd[m]<;>cases hkb:(rs[m].e.kind==6)<;>cases hjb:((j:Int)==1)
   all_goals
    have hjn:(j==1)=_:=(by rw[Vd];simp;omega:(j==1)=((j:Int)==1)).trans hjb;rw[hb0]at c0;have HJ4:=qh (HJ3.out _ (by rw[hb0,hkb,hjn]));refine p8 26 1 (by kernel_rfl) (by rfl) (by kernel_rfl) ?_;simp only[List.take_succ_cons,List.take_zero]
    repeat(go_big_quiet_step (fail))
    refine wpQuiet_nil ?_;rintro _ ⟨⟨dq,osq⟩,rfl⟩;refine wpOp_step rfl (fun K hK=>?_);replace hK:=qh hK;go_simp;refine hK.out _ _ ?_;clear hK;unfold nJ;go_wp2;go_roundw;case rel=>exact⟨j+1,_,by omega,by go_num,by simp[ho2],HJ4,Yh.out _ _ _⟩
    simp[intOf]<;>omega
  have Y8:Hid (dW (ak rs) m Wd=dD (ak rs)):=by
   show _=_;rw[<-HNX.out,<-HJ.out,Vf (by omega)];rfl
  go_wp2;go_roundw;case rel=>exact⟨m,Wd,by omega,by go_num,ho2,Y8,XK⟩
  simp[intOf]<;>omega
 obtain rfl:m=0:=by omega
 have YE:Hid (Fil w wr w.heap.size rs.length (bools (dD (ak rs)))):=by
  show Fil _ _ _ _ _;rw[<-HN.out];exact HF.out
 go_wp2;go_ret;exact⟨rfl,YE.out⟩
end Go.Proofs.YtajkkeikihhejaaGreat
