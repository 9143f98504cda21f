/- Contract of the document's function that marks which nodes stand in what is taken away. -/
import Derived.Test.YtdmniljjnaebbaaGreatDoorSq
import Derived.Test.YtdmniljjnaebbaaGreatDoorJ7
import Derived.Test.YtdmniljjnaebbaaGreatDoorJ3
import Derived.Deep.AppendLies
open Go.Proofs.Tryz
set_option maxHeartbeats 80000000
namespace Go.Proofs.YtdmniljjnaebbaaGreatDoor
open Go.Sort
open Go.ChangeShapes Go.WideShapes Go.ChangeAt Go.RowKit
open Pl
def bY (i:Nat) (kind:Int):List Int→Nat→List Bool→List Bool
 | [],_,out=>out
 | x::xs,k,out=>bY i kind xs (k + 1) (out.set x.toNat (out.getD i false || (kind == 6 && k == 1)))
def gm (es:List Ex):Nat→List Bool→List Bool
 | 0,out=>out
 | i + 1,out=>gm es i (match es[i]? with | none=>out | some e=>bY i e.kind e.kids 0 out)
def ed (es:List Ex):List Bool:=gm es es.length (List.replicate es.length false)
theorem Ec (i:Nat) (kind:Int) (xs:List Int) (k:Nat) (out:List Bool):(bY i kind xs k out).length=out.length:=by
 induction xs generalizing k out with
 | nil=>rfl
 | cons x xs ih=>simp [bY,ih]
def bools (xs:List Bool):List Value:=xs.map Value.bool
theorem Fil.set {w wr:af} {g n o:Nat} {xs:List Value} (h:Fil w wr g n xs) (v:Value) (ho:o < xs.length) (hn:o < n):Fil w (wr.setCell ⟨g,o,none⟩ v) g n (xs.set o v) where
 below:=h.below.setCell (p:=⟨g,o,none⟩) h.ge v
 ge:=h.ge
 lt:=by simpa using h.lt
 done j hj:=by
  by_cases e:j=o
  ·subst e;obtain ⟨u,hu⟩:=Option.isSome_iff_exists.mp (h.there j hn);rw [iM hu];simp
  have hj':j < xs.length:=by simpa using hj
  rw [bu (Ne.symm e),h.done j hj',List.getElem_set_ne (Ne.symm e)]
 there j hj:=by
  by_cases e:j=o
  ·subst e;obtain ⟨u,hu⟩:=Option.isSome_iff_exists.mp (h.there j hn);rw [iM hu]; rfl
  rw [bu (Ne.symm e)];exact h.there j hj
 free j:=by simpa using h.free j
theorem Fil.drew {w wr:af} {g n:Nat} {xs:List Value} (h:Fil w wr g n xs):Fil w wr.drew g n xs:=⟨h.below.drew,h.ge,h.lt,h.done,h.there,h.free⟩
theorem A7 {w w0:af} {n:Nat} {base:Nat} {e:TypeId} {v:Value} (h:w0.ownsRow base e 1 (.slice (some ⟨w.heap.size,0,none⟩) n n) n (madeCells #[v] (n * 1)).toList) (hg:w.grownBy w0 none):Fil w w0 w.heap.size n (List.replicate n v) where
 below:=(Si _ _).grown hg (Sj _) (fun k hk=>by cases hk)
 ge:=Sj _
 lt:=(h.lt w.heap.size rfl).2
 done j hj:=by
  have hj':j < n:=by simpa using hj
  rw [h.cellAt j (by omega),toList_madeCells_one];simp [hj']
 there j hj:=by
  rw [h.cellAt j (by omega),Sw (by rw [h.1]; omega)]; rfl
 free j:=h.frozenAt j
theorem ym:(prog.info? 4).map (fun i=>(i.zero,i.size,i.bytes))=some (some (.bool false),1,1):=by kernel_rfl
theorem yn (es:List Ex) (m:Nat) (out:List Bool) (h:m < es.length):gm es (m + 1) out=gm es m (bY m es[m].kind es[m].kids 0 out):=by
 simp [gm,h]
theorem iP (i:Nat) (kind:Int) (ks:List Int) (j:Nat) (out:List Bool) (h:j < ks.length):bY i kind (ks.drop j) j out=bY i kind (ks.drop (j + 1)) (j + 1) (out.set ks[j].toNat (out.getD i false || (kind == 6 && j == 1))):=by
 rw [SH h]; rfl
theorem ma (out:List Bool) (o:Nat) (v:Bool):bools (out.set o v)=(bools out).set o (.bool v):=by simp [bools,List.map_set]
def dQ (n:Nat) (ks:List Int):Prop:=∀ x ∈ ks,0≤x∧x < (n:Int)
theorem JX (ad:Option Addr) (cap:Nat) (rs:List ER) (w:af) (hlen:rs.length≤1048576) (hs:fQ w ad rs) (hl:∀ r ∈ rs,r.e.light) (hk:∀ r ∈ rs,dQ rs.length r.e.kids) :
  Calls prog 160 #[.slice ad rs.length cap] w fun e w'=>e=.returned (.slice (some ⟨w.heap.size,0,none⟩) rs.length rs.length)∧Fil w w' w.heap.size rs.length (bools (ed (ai rs))):=by
 have HS:=ay hs;have HL:=ay hl;have HK:=ay hk;clear hs hl hk;obtain ⟨inf,hi,hz0,hz1,hz2⟩:=info_parts ym;go_enter func160,ntmps160;go_wp2_with (at_make; refine wpList_make_full _ rfl _ _ 263 rfl w.heap.size 4 inf (.bool false) 1 underlying263 hi hz0 hz1 .i64 .i64 _ _ rs.length rfl rfl rfl rfl (by rw [hz2]; omega) (by unfold maxLen; omega) (Sj _) ?_; intro w0 hown0 Tg);have HF0:Hid (Fil w w0 w.heap.size rs.length (bools (List.replicate rs.length false))):=by
  have:=A7 (v:=.bool false) hown0 Tg;show Fil _ _ _ _ _;simpa [bools] using this
 clear hown0 Tg hi hz0 hz1 hz2;go_loopw [4] (fun i wr=>∃ (m:Nat) (out:List Bool),m≤rs.length∧i=.int .i64 ((m:Int) - 1)∧out.length=rs.length∧Hid (gm (ai rs) m out=ed (ai rs))∧Hid (Fil w wr w.heap.size rs.length (bools out))) (fun i _=>(intOf i + 1).toNat);case atStart=>exact ⟨rs.length,List.replicate rs.length false,Sj _,by go_num,by simp,(by show _=_; unfold ed; rw [aS]),HF0⟩
 obtain ⟨m,out,hm,rfl,hol,HN,HF⟩:=hrel;by_cases hm0:0 < m
 ·obtain ⟨m,rfl⟩:∃ m',m=m' + 1:=⟨m - 1,by omega⟩;have hmi:(((m + 1:Nat):Int) - 1)=(m:Int):=by omega
  rw [hmi];have hlt:m < rs.length:=by omega
  rcases HS.out.below HF.out.below with rfl | ⟨b,off,rfl,hb,hr,hok⟩
  ·simp at hlt
  obtain ⟨t0,t1,t2,t3,t4⟩:=hr m hlt;have TS:Hid (rs[m].ok _):=hok rs[m] (Sd hlt);have lg:=(HL.out rs[m] (Sd hlt)).2;have HKI:Hid (dQ rs.length rs[m].e.kids):=HK.out rs[m] (Sd hlt);have hk1:=bH m;have hk2:(m:Int) < (rs.length:Int):=by omega
  have hbw:b < w.heap.size:=by
   rcases HS.out with h | ⟨b',off',h1,h2,-⟩
   ·rw [h] at hlt; simp at hlt
   injection h1 with h1; injection h1 with h1; omega
  have HR:Hid (tK wr b (off + m * 5) rs[m]):=hr m hlt;have Vn:Hid (gm (ai rs) m (bY m rs[m].e.kind rs[m].e.kids 0 out)=ed (ai rs)):=by
   show _=_;rw [← HN.out,yn _ _ _ (by rw [aS]; exact hlt)];simp [ai]
  clear hr hok t0 t1 t2 t3 t4;go_wp2_with fail;go_loopw [5] (fun i w2=>∃ (j:Nat) (Tn:List Bool),j≤rs[m].e.kids.length∧i=.int .i64 j∧Tn.length=rs.length∧Hid (bY m rs[m].e.kind (rs[m].e.kids.drop j) j Tn=bY m rs[m].e.kind rs[m].e.kids 0 out)∧Hid (Fil w w2 w.heap.size rs.length (bools Tn))) (fun i _=>rs[m].e.kids.length - (intOf i).toNat);case atStart=>exact ⟨0,out,Sm _,rfl,hol,rfl,HF⟩
  obtain ⟨j,Tn,hj,rfl,ho2,HJ,Ug⟩:=hrel;have hE2:fQ wr _ rs:=HS.out.below Ug.out.below;have ht:tK wr b (off + m * 5) rs[m]:=by
   rcases hE2 with h | ⟨b',off',h1,h2,h3,-⟩
   ·exact absurd hlt (by rw [h]; simp)
   injection h1 with h1; injection h1 with h1 h1'; subst h1; subst h1'; exact h3 m hlt
  obtain ⟨t0,t1,t2,t3,t4⟩:=ht;by_cases hjl:j < rs[m].e.kids.length
  ·have hK2:mZ wr rs[m].adK rs[m].e.kids:=(hE2.mem (Sd hlt)).2;rcases hK2 with hnil | ⟨ba,Ve,TU,hba,hra⟩
   ·rw [hnil] at hjl; simp at hjl
   rw [TU] at t4;have q0:=hra j hjl;have hj1:=bH j;have hj2:(j:Int) < (rs[m].e.kids.length:Int):=by omega
   obtain ⟨x0,x1⟩:=HKI.out _ (Sd hjl);obtain ⟨x,hx⟩:∃ x:Nat,rs[m].e.kids[j]=(x:Int):=⟨rs[m].e.kids[j].toNat,by omega⟩;rw [hx] at q0 x0 x1;have c0:=Ug.out.done m (by simp [bools]; omega);have fz:=Ug.out.free;obtain ⟨v0,u0⟩:=Option.isSome_iff_exists.mp (Ug.out.there x (by omega));have hbr:b < wr.heap.size:=Sg hbw Ug.out.below.size;obtain ⟨bo,Vw⟩:∃ bo,bo=(bools Tn)[m]'(by simp [bools]; omega):=⟨_,rfl⟩;rw [← Vw] at c0;clear hra TU hE2 t1 t2 t3;have hm2:m < Tn.length:=by omega
   have X0:bo=.bool Tn[m]:=by rw [Vw]; simp [bools]
   have X7:Tn[m]?.getD false=Tn[m]:=by simp [hm2]
   rw [X0] at c0;clear Vw X0;have HJ3:Hid (∀ bv,(Tn[m] || (rs[m].e.kind == 6 && j == 1))=bv→bY m rs[m].e.kind (rs[m].e.kids.drop (j + 1)) (j + 1) (Tn.set x bv)=bY m rs[m].e.kind rs[m].e.kids 0 out):=by
    rintro _ rfl;rw [← HJ.out,iP _ _ _ _ _ hjl,hx];simp [X7]
   have Zu:Hid (∀ bv d os,Fil w ((grow (redrawn wr d) os).setCell ⟨w.heap.size,x,none⟩ (.bool bv)) w.heap.size rs.length (bools (Tn.set x bv))):=by
    intro bv d os;rw [ma];exact (Ug.out.later (below_regrown wr d os)).set _ (by simp [bools]; omega) (by omega)
   go_wp2_with fail;replace fz:=fun d os=>(Ug.out.later (below_regrown wr d os)).free;replace t0:=cell_regrown t0;replace t4:=cell_regrown t4;replace q0:=cell_regrown q0;replace c0:=cell_regrown c0;replace u0:=cell_regrown u0;clear X7;cases hb0:Tn[m] <;> cases hkb:(rs[m].e.kind == 6) <;> cases hjb:((j:Int) == 1)
   all_goals
    have hjn:(j == 1)=_:=(by rw [Bool.eq_iff_iff]; simp; omega:(j == 1)=((j:Int) == 1)).trans hjb;rw [hb0] at c0;have HJ4:=oG (HJ3.out _ (by rw [hb0,hkb,hjn]));refine oC 26 1 (by kernel_rfl) (by rfl) (by kernel_rfl) ?_;simp only [List.take_succ_cons,List.take_zero]
    repeat (go_big_quiet_step (fail))
    refine wpQuiet_nil ?_;rintro _ ⟨⟨dq,osq⟩,rfl⟩;refine wpOp_step rfl (fun K hK=>?_);replace hK:=oG hK;go_simp;refine hK.out _ _ ?_;clear hK;unfold lV;go_wp2;go_roundw;case rel=>exact ⟨j + 1,_,by omega,by go_num,by simp [ho2],HJ4,Zu.out _ _ _⟩
    simp [intOf] <;> omega
  have Vf:Hid (gm (ai rs) m Tn=ed (ai rs)):=by
   show _=_;rw [← Vn.out,← HJ.out,List.drop_of_length_le (by omega)];rfl
  go_wp2;go_roundw;case rel=>exact ⟨m,Tn,by omega,by go_num,ho2,Vf,Ug⟩
  simp [intOf] <;> omega
 obtain rfl:m=0:=by omega
 have U5:Hid (Fil w wr w.heap.size rs.length (bools (ed (ai rs)))):=by
  show Fil _ _ _ _ _;rw [← HN.out];exact HF.out
 go_wp2;go_ret;exact ⟨rfl,U5.out⟩
structure St where
 typ:ByteArray
 rel:ByteArray
 n:Int
def Ri (w:World) (b off:Nat) (s:St):Prop:=w.cell? ⟨b,off,none⟩=some (.string s.typ)∧w.cell? ⟨b,off + 1,none⟩=some (.string s.rel)∧w.cell? ⟨b,off + 2,none⟩=some (.int .i64 s.n)
def Gy (w:World) (ad:Option Addr) (xs:List St):Prop:=xs=[] ∨ ∃ b off,ad=some ⟨b,off,none⟩∧b < w.heap.size∧∀ (i:Nat) (h:i < xs.length),Ri w b (off + i * 3) xs[i]
theorem Gy.below {w w':af} {ad:Option Addr} {xs:List St} (h:Gy w ad xs) (hB:aa w w'):Gy w' ad xs:=by
 rcases h with h | ⟨b,off,e,hb,hr⟩
 ·exact .inl h
 refine .inr ⟨b,off,e,Sg hb hB.size,fun i hi=>?_⟩;obtain ⟨h0,h1,h2⟩:=hr i hi;exact ⟨aK hB hb h0,aK hB hb h1,aK hB hb h2⟩
def yo (s:St) (typ rel:ByteArray):Bool:=(s.typ.toList == typ.toList) && (s.rel.toList == rel.toList)
def fM (typ rel:ByteArray):List St→Nat→Int
 | [],_=>-1
 | s::xs,k=>if yo s typ rel then (k:Int) else fM typ rel xs (k + 1)
theorem oV (typ rel:dB) (xs:List St) (k:Nat) (h:k < xs.length):fM typ rel (xs.drop k) k=if yo xs[k] typ rel then (k:Int) else fM typ rel (xs.drop (k + 1)) (k + 1):=by
 rw [SH h]; rfl
theorem MB (ad:Option Addr) (cap:Nat) (xs:List St) (typ rel:dB) (w:af) (hlen:xs.length≤1048576) (hs:Gy w ad xs) :
  Calls prog 118 #[.slice ad xs.length cap,.string typ,.string rel] w fun e w'=>e=.returned (.int .i64 (fM typ rel xs 0))∧w'=w:=by
 go_enter func118,ntmps118;go_wp2;go_loopw [7] (fun i wr=>∃ k:Nat,k≤xs.length∧i=.int .i64 k∧Hid (fM typ rel (xs.drop k) k=fM typ rel xs 0)∧wr=w) (fun i _=>xs.length - (intOf i).toNat);case atStart=>exact ⟨0,Sm _,rfl,rfl,rfl⟩
 obtain ⟨k,hk,rfl,HP,rfl⟩:=hrel;by_cases hlt:k < xs.length
 ·rcases hs with rfl | ⟨b,off,rfl,hb,hr⟩
  ·simp at hlt
  obtain ⟨t0,t1,t2⟩:=hr k hlt;have hk1:=bH k;have hk2:(k:Int) < (xs.length:Int):=by omega
  clear hr;cases hq:(xs[k].typ.toList == typ.toList);case true=>
   cases hp:(xs[k].rel.toList == rel.toList);case true=>
    have HN:Hid (fM typ rel xs 0=(k:Int)):=by show _=_; rw [← HP.out,oV _ _ _ _ hlt]; simp [yo,hq,hp]
    go_wp2;go_ret;exact ⟨by rw [HN.out]; rfl,rfl⟩
   have Tu:Hid (fM typ rel (xs.drop (k + 1)) (k + 1)=fM typ rel xs 0):=by show _=_; rw [← HP.out,oV _ _ _ _ hlt]; simp [yo,hq,hp]
   go_wp2;go_roundw;case rel=>exact ⟨k + 1,by omega,by go_num,Tu,by first | rfl | trivial⟩
   simp [intOf] <;> omega
  have Tu:Hid (fM typ rel (xs.drop (k + 1)) (k + 1)=fM typ rel xs 0):=by show _=_; rw [← HP.out,oV _ _ _ _ hlt]; simp [yo,hq]
  go_wp2;go_roundw;case rel=>exact ⟨k + 1,by omega,by go_num,Tu,by first | rfl | trivial⟩
  simp [intOf] <;> omega
 have HN:Hid (fM typ rel xs 0=-1):=by show _=_; rw [← HP.out,List.drop_of_length_le (by omega)]; rfl
 go_wp2;go_ret;exact ⟨by rw [HN.out]; rfl,rfl⟩
structure Dp where
 typ:ByteArray
 rel:ByteArray
 neg:Bool
def Dp.cells (d:Dp):List Value:=[.string d.typ,.string d.rel,.bool d.neg]
def dN:List Dp→List Value
 | []=>[]
 | d::ds=>d.cells ++ dN ds
theorem Cy (xs ys:List Dp):dN (xs ++ ys)=dN xs ++ dN ys:=by
 induction xs with
 | nil=>rfl
 | cons d ds ih=>simp [dN,ih]
theorem qV (xs:List Dp) (d:Dp):dN (xs ++ [d])=dN xs ++ d.cells:=by rw [Cy]; simp [dN]
def cu (neg:Bool):List Al→List Dp
 | []=>[]
 | a::xs=>if a.s.toList.isEmpty then cu neg xs else ⟨a.t,a.s,neg⟩::cu neg xs
def mf (ts:List Ty) (typ:ByteArray) (neg:Bool) (e:Ex):List Dp :=
 if e.kind=2 then [⟨typ,e.name,neg⟩] else if e.kind=3 then (fT ts typ e.over e.name).map fun g=>⟨g,e.name,neg⟩ else []
def jO (ts:List Ty) (typ:ByteArray) (es:List Ex) (k:Nat):List Dp :=
 match es[k]? with
 | none=>[]
 | some e=>cu ((ed es).getD k false) e.allow ++ mf ts typ ((ed es).getD k false) e
def aM (ts:List Ty) (typ:ByteArray) (es:List Ex):Nat→List Dp
 | 0=>[]
 | k + 1=>aM ts typ es k ++ jO ts typ es k
def oW (ts:List Ty) (typ:ByteArray) (es:List Ex):List Dp:=aM ts typ es es.length
theorem rX (neg:Bool) (xs ys:List Al):cu neg (xs ++ ys)=cu neg xs ++ cu neg ys:=by
 induction xs with
 | nil=>rfl
 | cons a xs ih=>simp only [List.cons_append,cu,ih]; split <;> simp
theorem MC (neg:Bool) (xs:List Al) (k:Nat) (h:k < xs.length) (he:xs[k].s.toList.isEmpty=true):cu neg (xs.take (k + 1))=cu neg (xs.take k):=by
 rw [Sk h,rX]; simp [cu] at he ⊢; simp [he]
theorem JY (neg:Bool) (xs:List Al) (k:Nat) (h:k < xs.length) (he:xs[k].s.toList.isEmpty=false):cu neg (xs.take (k + 1))=cu neg (xs.take k) ++ [⟨xs[k].t,xs[k].s,neg⟩]:=by
 rw [Sk h,rX]; simp [cu,he]
theorem A8 (neg:Bool) (xs:List Al):(cu neg xs).length≤xs.length:=by
 induction xs with
 | nil=>simp [cu]
 | cons a xs ih=>simp only [cu]; split <;> simp <;> omega
theorem ME:(prog.info? 210).map (fun i=>(i.zero,i.size,i.bytes))=some (some (.agg #[.string ⟨#[]⟩,.string ⟨#[]⟩,.bool false]),3,40):=by kernel_rfl
end Go.Proofs.YtdmniljjnaebbaaGreatDoor
