/- Contract of the document's function that marks which nodes stand in what is taken away. -/
import Derived.Test.YtajkkeikihhejaaGreatSq
import Derived.Test.YtajkkeikihhejaaGreatJ8
import Derived.Test.YtajkkeikihhejaaGreatJ1
import Derived.Deep.AppendLies
open Go.Proofs.Tryz
set_option maxHeartbeats 80000000
namespace Go.Proofs.YtajkkeikihhejaaGreat
open Go.Sort
open Go.ChangeShapes Go.WideShapes Go.ChangeAt Go.RowKit
open Pl
def bn (i:Nat) (kind:Int):List Int→Nat→List Bool→List Bool
 | [],_,out=>out
 | x::xs,k,out=>bn i kind xs (k + 1) (out.set x.toNat (out.getD i false || (kind == 6 && k == 1)))
def dU (es:List Ex):Nat→List Bool→List Bool
 | 0,out=>out
 | i + 1,out=>dU es i (match es[i]? with | none=>out | some e=>bn i e.kind e.kids 0 out)
def dz (es:List Ex):List Bool:=dU es es.length (List.replicate es.length false)
theorem xA (i:Nat) (kind:Int) (xs:List Int) (k:Nat) (out:List Bool):(bn i kind xs k out).length=out.length:=by
 induction xs generalizing k out with
 | nil=>rfl
 | cons x xs ih=>simp [bn,ih]
def bools (xs:List Bool):List Value:=xs.map Value.bool
theorem Fil.set {w wr:af} {g n o:Nat} {xs:List Value} (h:Fil w wr g n xs) (v:Value) (ho:o < xs.length) (hn:o < n):Fil w (wr.setCell ⟨g,o,none⟩ v) g n (xs.set o v) where
 below:=h.below.setCell (p:=⟨g,o,none⟩) h.ge v
 ge:=h.ge
 lt:=by simpa using h.lt
 done j hj:=by
  by_cases e:j=o
  ·subst e;obtain ⟨u,hu⟩:=Option.isSome_iff_exists.mp (h.there j hn);rw [xm hu];simp
  have hj':j < xs.length:=by simpa using hj
  rw [lN (Ne.symm e),h.done j hj',List.getElem_set_ne (Ne.symm e)]
 there j hj:=by
  by_cases e:j=o
  ·subst e;obtain ⟨u,hu⟩:=Option.isSome_iff_exists.mp (h.there j hn);rw [xm hu]; rfl
  rw [lN (Ne.symm e)];exact h.there j hj
 free j:=by simpa using h.free j
theorem Fil.drew {w wr:af} {g n:Nat} {xs:List Value} (h:Fil w wr g n xs):Fil w wr.drew g n xs:=⟨h.below.drew,h.ge,h.lt,h.done,h.there,h.free⟩
theorem Cx {w w0:af} {n:Nat} {base:Nat} {e:TypeId} {v:Value} (h:w0.ownsRow base e 1 (.slice (some ⟨w.heap.size,0,none⟩) n n) n (madeCells #[v] (n * 1)).toList) (hg:w.grownBy w0 none):Fil w w0 w.heap.size n (List.replicate n v) where
 below:=(TT _ _).grown hg (TS _) (fun k hk=>by cases hk)
 ge:=TS _
 lt:=(h.lt w.heap.size rfl).2
 done j hj:=by
  have hj':j < n:=by simpa using hj
  rw [h.cellAt j (by omega),toList_madeCells_one];simp [hj']
 there j hj:=by
  rw [h.cellAt j (by omega),TY (by rw [h.1]; omega)]; rfl
 free j:=h.frozenAt j
theorem zD:(prog.info? 4).map (fun i=>(i.zero,i.size,i.bytes))=some (some (.bool false),1,1):=by kernel_rfl
theorem zF (es:List Ex) (m:Nat) (out:List Bool) (h:m < es.length):dU es (m + 1) out=dU es m (bn m es[m].kind es[m].kids 0 out):=by
 simp [dU,h]
theorem jF (i:Nat) (kind:Int) (ks:List Int) (j:Nat) (out:List Bool) (h:j < ks.length):bn i kind (ks.drop j) j out=bn i kind (ks.drop (j + 1)) (j + 1) (out.set ks[j].toNat (out.getD i false || (kind == 6 && j == 1))):=by
 rw [Un h]; rfl
theorem nW (out:List Bool) (o:Nat) (v:Bool):bools (out.set o v)=(bools out).set o (.bool v):=by simp [bools,List.map_set]
def dV (n:Nat) (ks:List Int):Prop:=∀ x ∈ ks,0≤x∧x < (n:Int)
theorem Lb (ad:Option Addr) (cap:Nat) (rs:List ER) (w:af) (hlen:rs.length≤1048576) (hs:iH w ad rs) (hl:∀ r ∈ rs,r.e.light) (hk:∀ r ∈ rs,dV rs.length r.e.kids) :
  Calls prog 196 #[.slice ad rs.length cap] w fun e w'=>e=.returned (.slice (some ⟨w.heap.size,0,none⟩) rs.length rs.length)∧Fil w w' w.heap.size rs.length (bools (dz (aj rs))):=by
 have HS:=az hs;have HL:=az hl;have HK:=az hk;clear hs hl hk;obtain ⟨inf,hi,hz0,hz1,hz2⟩:=info_parts zD;go_enter func196,ntmps196;go_wp2_with (at_make; refine wpList_make_full _ rfl _ _ 275 rfl w.heap.size 4 inf (.bool false) 1 underlying275 hi hz0 hz1 .i64 .i64 _ _ rs.length rfl rfl rfl rfl (by rw [hz2]; omega) (by unfold maxLen; omega) (TS _) ?_; intro w0 hown0 Vu);have HF0:Hid (Fil w w0 w.heap.size rs.length (bools (List.replicate rs.length false))):=by
  have:=Cx (v:=.bool false) hown0 Vu;show Fil _ _ _ _ _;simpa [bools] using this
 clear hown0 Vu hi hz0 hz1 hz2;go_loopw [4] (fun i wr=>∃ (m:Nat) (out:List Bool),m≤rs.length∧i=.int .i64 ((m:Int) - 1)∧out.length=rs.length∧Hid (dU (aj rs) m out=dz (aj rs))∧Hid (Fil w wr w.heap.size rs.length (bools out))) (fun i _=>(intOf i + 1).toNat);case atStart=>exact ⟨rs.length,List.replicate rs.length false,TS _,by go_num,by simp,(by show _=_; unfold dz; rw [aT]),HF0⟩
 obtain ⟨m,out,hm,rfl,hol,HN,HF⟩:=hrel;by_cases hm0:0 < m
 ·obtain ⟨m,rfl⟩:∃ m',m=m' + 1:=⟨m - 1,by omega⟩;have hmi:(((m + 1:Nat):Int) - 1)=(m:Int):=by omega
  rw [hmi];have hlt:m < rs.length:=by omega
  rcases HS.out.below HF.out.below with rfl | ⟨b,off,rfl,hb,hr,hok⟩
  ·simp at hlt
  obtain ⟨t0,t1,t2,t3,t4⟩:=hr m hlt;have Vz:Hid (rs[m].ok _):=hok rs[m] (TQ hlt);have lg:=(HL.out rs[m] (TQ hlt)).2;have HKI:Hid (dV rs.length rs[m].e.kids):=HK.out rs[m] (TQ hlt);have hk1:=bB m;have hk2:(m:Int) < (rs.length:Int):=by omega
  have hbw:b < w.heap.size:=by
   rcases HS.out with h | ⟨b',off',h1,h2,-⟩
   ·rw [h] at hlt; simp at hlt
   injection h1 with h1; injection h1 with h1; omega
  have HR:Hid (x8 wr b (off + m * 5) rs[m]):=hr m hlt;have HNX:Hid (dU (aj rs) m (bn m rs[m].e.kind rs[m].e.kids 0 out)=dz (aj rs)):=by
   show _=_;rw [← HN.out,zF _ _ _ (by rw [aT]; exact hlt)];simp [aj]
  clear hr hok t0 t1 t2 t3 t4;go_wp2_with fail;go_loopw [5] (fun i w2=>∃ (j:Nat) (UE:List Bool),j≤rs[m].e.kids.length∧i=.int .i64 j∧UE.length=rs.length∧Hid (bn m rs[m].e.kind (rs[m].e.kids.drop j) j UE=bn m rs[m].e.kind rs[m].e.kids 0 out)∧Hid (Fil w w2 w.heap.size rs.length (bools UE))) (fun i _=>rs[m].e.kids.length - (intOf i).toNat);case atStart=>exact ⟨0,out,TW _,rfl,hol,rfl,HF⟩
  obtain ⟨j,UE,hj,rfl,ho2,HJ,VI⟩:=hrel;have hE2:iH wr _ rs:=HS.out.below VI.out.below;have ht:x8 wr b (off + m * 5) rs[m]:=by
   rcases hE2 with h | ⟨b',off',h1,h2,h3,-⟩
   ·exact absurd hlt (by rw [h]; simp)
   injection h1 with h1; injection h1 with h1 h1'; subst h1; subst h1'; exact h3 m hlt
  obtain ⟨t0,t1,t2,t3,t4⟩:=ht;by_cases hjl:j < rs[m].e.kids.length
  ·have hK2:pX wr rs[m].adK rs[m].e.kids:=(hE2.mem (TQ hlt)).2;rcases hK2 with hnil | ⟨ba,Wp,U7,Yl,hra⟩
   ·rw [hnil] at hjl; simp at hjl
   rw [U7] at t4;have q0:=hra j hjl;have hj1:=bB j;have hj2:(j:Int) < (rs[m].e.kids.length:Int):=by omega
   obtain ⟨x0,x1⟩:=HKI.out _ (TQ hjl);obtain ⟨x,hx⟩:∃ x:Nat,rs[m].e.kids[j]=(x:Int):=⟨rs[m].e.kids[j].toNat,by omega⟩;rw [hx] at q0 x0 x1;have c0:=VI.out.done m (by simp [bools]; omega);have fz:=VI.out.free;obtain ⟨v0,u0⟩:=Option.isSome_iff_exists.mp (VI.out.there x (by omega));have hbr:b < wr.heap.size:=TP hbw VI.out.below.size;obtain ⟨bo,hbo⟩:∃ bo,bo=(bools UE)[m]'(by simp [bools]; omega):=⟨_,rfl⟩;rw [← hbo] at c0;clear hra U7 hE2 t1 t2 t3;have hm2:m < UE.length:=by omega
   have Zf:bo=.bool UE[m]:=by rw [hbo]; simp [bools]
   have Zg:UE[m]?.getD false=UE[m]:=by simp [hm2]
   rw [Zf] at c0;clear hbo Zf;have HJ3:Hid (∀ bv,(UE[m] || (rs[m].e.kind == 6 && j == 1))=bv→bn m rs[m].e.kind (rs[m].e.kids.drop (j + 1)) (j + 1) (UE.set x bv)=bn m rs[m].e.kind rs[m].e.kids 0 out):=by
    rintro _ rfl;rw [← HJ.out,jF _ _ _ _ _ hjl,hx];simp [Zg]
   have Wo:Hid (∀ bv d os,Fil w ((grow (redrawn wr d) os).setCell ⟨w.heap.size,x,none⟩ (.bool bv)) w.heap.size rs.length (bools (UE.set x bv))):=by
    intro bv d os;rw [nW];exact (VI.out.later (below_regrown wr d os)).set _ (by simp [bools]; omega) (by omega)
   go_wp2_with fail;replace fz:=fun d os=>(VI.out.later (below_regrown wr d os)).free;replace t0:=cell_regrown t0;replace t4:=cell_regrown t4;replace q0:=cell_regrown q0;replace c0:=cell_regrown c0;replace u0:=cell_regrown u0;clear Zg;cases hb0:UE[m] <;> cases hkb:(rs[m].e.kind == 6) <;> cases hjb:((j:Int) == 1)
   all_goals
    have hjn:(j == 1)=_:=(by rw [Bool.eq_iff_iff]; simp; omega:(j == 1)=((j:Int) == 1)).trans hjb;rw [hb0] at c0;have HJ4:=pU (HJ3.out _ (by rw [hb0,hkb,hjn]));refine pV 26 1 (by kernel_rfl) (by rfl) (by kernel_rfl) ?_;simp only [List.take_succ_cons,List.take_zero]
    repeat (go_big_quiet_step (fail))
    refine wpQuiet_nil ?_;rintro _ ⟨⟨dq,osq⟩,rfl⟩;refine wpOp_step rfl (fun K hK=>?_);replace hK:=pU hK;go_simp;refine hK.out _ _ ?_;clear hK;unfold nH;go_wp2;go_roundw;case rel=>exact ⟨j + 1,_,by omega,by go_num,by simp [ho2],HJ4,Wo.out _ _ _⟩
    simp [intOf] <;> omega
  have Xq:Hid (dU (aj rs) m UE=dz (aj rs)):=by
   show _=_;rw [← HNX.out,← HJ.out,List.drop_of_length_le (by omega)];rfl
  go_wp2;go_roundw;case rel=>exact ⟨m,UE,by omega,by go_num,ho2,Xq,VI⟩
  simp [intOf] <;> omega
 obtain rfl:m=0:=by omega
 have WH:Hid (Fil w wr w.heap.size rs.length (bools (dz (aj rs)))):=by
  show Fil _ _ _ _ _;rw [← HN.out];exact HF.out
 go_wp2;go_ret;exact ⟨rfl,WH.out⟩
structure St where
 typ:ByteArray
 rel:ByteArray
 n:Int
def S9 (w:World) (b off:Nat) (s:St):Prop:=w.cell? ⟨b,off,none⟩=some (.string s.typ)∧w.cell? ⟨b,off + 1,none⟩=some (.string s.rel)∧w.cell? ⟨b,off + 2,none⟩=some (.int .i64 s.n)
def Iq (w:World) (ad:Option Addr) (xs:List St):Prop:=xs=[] ∨ ∃ b off,ad=some ⟨b,off,none⟩∧b < w.heap.size∧∀ (i:Nat) (h:i < xs.length),S9 w b (off + i * 3) xs[i]
theorem Iq.below {w w':af} {ad:Option Addr} {xs:List St} (h:Iq w ad xs) (hB:ag w w'):Iq w' ad xs:=by
 rcases h with h | ⟨b,off,e,hb,hr⟩
 ·exact .inl h
 refine .inr ⟨b,off,e,TP hb hB.size,fun i hi=>?_⟩;obtain ⟨h0,h1,h2⟩:=hr i hi;exact ⟨aG hB hb h0,aG hB hb h1,aG hB hb h2⟩
def zG (s:St) (typ rel:ByteArray):Bool:=(s.typ.toList == typ.toList) && (s.rel.toList == rel.toList)
def gP (typ rel:ByteArray):List St→Nat→Int
 | [],_=>-1
 | s::xs,k=>if zG s typ rel then (k:Int) else gP typ rel xs (k + 1)
theorem qz (typ rel:bH) (xs:List St) (k:Nat) (h:k < xs.length):gP typ rel (xs.drop k) k=if zG xs[k] typ rel then (k:Int) else gP typ rel (xs.drop (k + 1)) (k + 1):=by
 rw [Un h]; rfl
theorem Oa (ad:Option Addr) (cap:Nat) (xs:List St) (typ rel:bH) (w:af) (hlen:xs.length≤1048576) (hs:Iq w ad xs) :
  Calls prog 140 #[.slice ad xs.length cap,.string typ,.string rel] w fun e w'=>e=.returned (.int .i64 (gP typ rel xs 0))∧w'=w:=by
 go_enter func140,ntmps140;go_wp2;go_loopw [7] (fun i wr=>∃ k:Nat,k≤xs.length∧i=.int .i64 k∧Hid (gP typ rel (xs.drop k) k=gP typ rel xs 0)∧wr=w) (fun i _=>xs.length - (intOf i).toNat);case atStart=>exact ⟨0,TW _,rfl,rfl,rfl⟩
 obtain ⟨k,hk,rfl,HP,rfl⟩:=hrel;by_cases hlt:k < xs.length
 ·rcases hs with rfl | ⟨b,off,rfl,hb,hr⟩
  ·simp at hlt
  obtain ⟨t0,t1,t2⟩:=hr k hlt;have hk1:=bB k;have hk2:(k:Int) < (xs.length:Int):=by omega
  clear hr;cases hq:(xs[k].typ.toList == typ.toList);case true=>
   cases hp:(xs[k].rel.toList == rel.toList);case true=>
    have HN:Hid (gP typ rel xs 0=(k:Int)):=by show _=_; rw [← HP.out,qz _ _ _ _ hlt]; simp [zG,hq,hp]
    go_wp2;go_ret;exact ⟨by rw [HN.out]; rfl,rfl⟩
   have UI:Hid (gP typ rel (xs.drop (k + 1)) (k + 1)=gP typ rel xs 0):=by show _=_; rw [← HP.out,qz _ _ _ _ hlt]; simp [zG,hq,hp]
   go_wp2;go_roundw;case rel=>exact ⟨k + 1,by omega,by go_num,UI,by first | rfl | trivial⟩
   simp [intOf] <;> omega
  have UI:Hid (gP typ rel (xs.drop (k + 1)) (k + 1)=gP typ rel xs 0):=by show _=_; rw [← HP.out,qz _ _ _ _ hlt]; simp [zG,hq]
  go_wp2;go_roundw;case rel=>exact ⟨k + 1,by omega,by go_num,UI,by first | rfl | trivial⟩
  simp [intOf] <;> omega
 have HN:Hid (gP typ rel xs 0=-1):=by show _=_; rw [← HP.out,List.drop_of_length_le (by omega)]; rfl
 go_wp2;go_ret;exact ⟨by rw [HN.out]; rfl,rfl⟩
structure Dp where
 typ:ByteArray
 rel:ByteArray
 neg:Bool
def Dp.cells (d:Dp):List Value:=[.string d.typ,.string d.rel,.bool d.neg]
def eu:List Dp→List Value
 | []=>[]
 | d::ds=>d.cells ++ eu ds
theorem Ed (xs ys:List Dp):eu (xs ++ ys)=eu xs ++ eu ys:=by
 induction xs with
 | nil=>rfl
 | cons d ds ih=>simp [eu,ih]
theorem sW (xs:List Dp) (d:Dp):eu (xs ++ [d])=eu xs ++ d.cells:=by rw [Ed]; simp [eu]
def dh (neg:Bool):List Al→List Dp
 | []=>[]
 | a::xs=>if a.s.toList.isEmpty then dh neg xs else ⟨a.t,a.s,neg⟩::dh neg xs
def kM (ts:List Ty) (typ:ByteArray) (neg:Bool) (e:Ex):List Dp :=
 if e.kind=2 then [⟨typ,e.name,neg⟩] else if e.kind=3 then (ig ts typ e.over e.name).map fun g=>⟨g,e.name,neg⟩ else []
def ik (ts:List Ty) (typ:ByteArray) (es:List Ex) (k:Nat):List Dp :=
 match es[k]? with
 | none=>[]
 | some e=>dh ((dz es).getD k false) e.allow ++ kM ts typ ((dz es).getD k false) e
def aN (ts:List Ty) (typ:ByteArray) (es:List Ex):Nat→List Dp
 | 0=>[]
 | k + 1=>aN ts typ es k ++ ik ts typ es k
def pR (ts:List Ty) (typ:ByteArray) (es:List Ex):List Dp:=aN ts typ es es.length
theorem uK (neg:Bool) (xs ys:List Al):dh neg (xs ++ ys)=dh neg xs ++ dh neg ys:=by
 induction xs with
 | nil=>rfl
 | cons a xs ih=>simp only [List.cons_append,dh,ih]; split <;> simp
theorem Oc (neg:Bool) (xs:List Al) (k:Nat) (h:k < xs.length) (he:xs[k].s.toList.isEmpty=true):dh neg (xs.take (k + 1))=dh neg (xs.take k):=by
 rw [TV h,uK]; simp [dh] at he ⊢; simp [he]
theorem Lc (neg:Bool) (xs:List Al) (k:Nat) (h:k < xs.length) (he:xs[k].s.toList.isEmpty=false):dh neg (xs.take (k + 1))=dh neg (xs.take k) ++ [⟨xs[k].t,xs[k].s,neg⟩]:=by
 rw [TV h,uK]; simp [dh,he]
theorem Cy (neg:Bool) (xs:List Al):(dh neg xs).length≤xs.length:=by
 induction xs with
 | nil=>simp [dh]
 | cons a xs ih=>simp only [dh]; split <;> simp <;> omega
theorem Od:(prog.info? 220).map (fun i=>(i.zero,i.size,i.bytes))=some (some (.agg #[.string ⟨#[]⟩,.string ⟨#[]⟩,.bool false]),3,40):=by kernel_rfl
end Go.Proofs.YtajkkeikihhejaaGreat
