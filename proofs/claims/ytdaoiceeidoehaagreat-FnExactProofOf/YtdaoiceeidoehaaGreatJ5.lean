/- Contract of the document's function that marks which nodes stand in what is taken away. -/
import Derived.Test.YtdaoiceeidoehaaGreatJ3
import Derived.Test.YtdaoiceeidoehaaGreatJ4
import Derived.RegionTactic
import Derived.Deep.AppendLies
open Go.Proofs.Tryz
set_option maxHeartbeats 80000000
namespace Go.Proofs.YtdaoiceeidoehaaGreat
open Go.Sort
open Go.ChangeShapes Go.WideShapes Go.ChangeAt Go.RowKit
open Pl
def aZ (i:Nat) (kind:Int):List Int→Nat→List Bool→List Bool
 | [],_,out=>out
 | x::xs,k,out=>aZ i kind xs (k + 1) (out.set x.toNat (out.getD i false || (kind == 6 && k == 1)))
def dK (es:List Ex):Nat→List Bool→List Bool
 | 0,out=>out
 | i + 1,out=>dK es i (match es[i]? with | none=>out | some e=>aZ i e.kind e.kids 0 out)
def cu (es:List Ex):List Bool:=dK es es.length (List.replicate es.length false)
theorem uX (i:Nat) (kind:Int) (xs:List Int) (k:Nat) (out:List Bool):(aZ i kind xs k out).length=out.length:=by
 induction xs generalizing k out with
 | nil=>rfl
 | cons x xs ih=>simp [aZ,ih]
def bools (xs:List Bool):List Value:=xs.map Value.bool
theorem Fil.set {w wr:World} {g n o:Nat} {xs:List Value} (h:Fil w wr g n xs) (v:Value) (ho:o < xs.length) (hn:o < n):Fil w (wr.setCell ⟨g,o,none⟩ v) g n (xs.set o v) where
 below:=h.below.setCell (p:=⟨g,o,none⟩) h.ge v
 ge:=h.ge
 lt:=by simpa using h.lt
 done j hj:=by
  by_cases e:j=o
  ·subst e;obtain ⟨u,hu⟩:=Option.isSome_iff_exists.mp (h.there j hn);rw [jO hu];simp
  ·have hj':j < xs.length:=by simpa using hj
   rw [dF (Ne.symm e),h.done j hj',List.getElem_set_ne (Ne.symm e)]
 there j hj:=by
  by_cases e:j=o
  ·subst e;obtain ⟨u,hu⟩:=Option.isSome_iff_exists.mp (h.there j hn);rw [jO hu]; rfl
  ·rw [dF (Ne.symm e)];exact h.there j hj
 free j:=by simpa using h.free j
theorem Fil.drew {w wr:World} {g n:Nat} {xs:List Value} (h:Fil w wr g n xs):Fil w wr.drew g n xs:=⟨h.below.drew,h.ge,h.lt,h.done,h.there,h.free⟩
theorem Au {w w0:World} {n:Nat} {base:Nat} {e:TypeId} {v:Value} (h:w0.ownsRow base e 1 (.slice (some ⟨w.heap.size,0,none⟩) n n) n (madeCells #[v] (n * 1)).toList) (hg:w.grownBy w0 none):Fil w w0 w.heap.size n (List.replicate n v) where
 below:=(R3 _ _).grown hg (R4 _) (fun k hk=>by cases hk)
 ge:=R4 _
 lt:=(h.lt w.heap.size rfl).2
 done j hj:=by
  have hj':j < n:=by simpa using hj
  rw [h.cellAt j (by omega),toList_madeCells_one];simp [hj']
 there j hj:=by
  rw [h.cellAt j (by omega),R8 (by rw [h.1]; omega)]; rfl
 free j:=h.frozenAt j
theorem xG:(prog.info? 4).map (fun i=>(i.zero,i.size,i.bytes))=some (some (.bool false),1,1):=by kernel_rfl
theorem xH (es:List Ex) (m:Nat) (out:List Bool) (h:m < es.length):dK es (m + 1) out=dK es m (aZ m es[m].kind es[m].kids 0 out):=by
 simp [dK,h]
theorem iU (i:Nat) (kind:Int) (ks:List Int) (j:Nat) (out:List Bool) (h:j < ks.length):aZ i kind (ks.drop j) j out=aZ i kind (ks.drop (j + 1)) (j + 1) (out.set ks[j].toNat (out.getD i false || (kind == 6 && j == 1))):=by
 rw [Sr h]; rfl
theorem lN (out:List Bool) (o:Nat) (v:Bool):bools (out.set o v)=(bools out).set o (.bool v):=by simp [bools,List.map_set]
def dU (n:Nat) (ks:List Int):Prop:=∀ x ∈ ks,0≤x∧x < (n:Int)
theorem JM (ad:Option Addr) (cap:Nat) (rs:List ER) (w:World) (hlen:rs.length≤1048576) (hs:eX w ad rs) (hl:∀ r ∈ rs,r.e.light) (hk:∀ r ∈ rs,dU rs.length r.e.kids) :
  Calls prog 115 #[.slice ad rs.length cap] w fun e w'=>e=.returned (.slice (some ⟨w.heap.size,0,none⟩) rs.length rs.length)∧Fil w w' w.heap.size rs.length (bools (cu (ah rs))):=by
 have HS:=aC hs;have HL:=aC hl;have HK:=aC hk;clear hs hl hk;obtain ⟨inf,hi,hz0,hz1,hz2⟩:=info_parts xG;go_enter func115,ntmps115;go_wp2_with (at_make; refine wpList_make_full _ rfl _ _ 207 rfl w.heap.size 4 inf (.bool false) 1 underlying207 hi hz0 hz1 .i64 .i64 _ _ rs.length rfl rfl rfl rfl (by rw [hz2]; omega) (by unfold maxLen; omega) (R4 _) ?_; intro w0 hown0 SY);have HF0:Hid (Fil w w0 w.heap.size rs.length (bools (List.replicate rs.length false))):=by
  have:=Au (v:=.bool false) hown0 SY;show Fil _ _ _ _ _;simpa [bools] using this
 clear hown0 SY hi hz0 hz1 hz2;go_loopw [4] (fun i wr=>∃ (m:Nat) (out:List Bool),m≤rs.length∧i=.int .i64 ((m:Int) - 1)∧out.length=rs.length∧Hid (dK (ah rs) m out=cu (ah rs))∧Hid (Fil w wr w.heap.size rs.length (bools out))) (fun i _=>(intOf i + 1).toNat);case atStart=>exact ⟨rs.length,List.replicate rs.length false,R4 _,by go_num,by simp,(by show _=_; unfold cu; rw [aJ]),HF0⟩
 case round =>
  obtain ⟨m,out,hm,rfl,hol,HN,HF⟩:=hrel;by_cases hm0:0 < m
  ·obtain ⟨m,rfl⟩:∃ m',m=m' + 1:=⟨m - 1,by omega⟩;have hmi:(((m + 1:Nat):Int) - 1)=(m:Int):=by omega
   rw [hmi];have hlt:m < rs.length:=by omega
   rcases HS.out.below HF.out.below with rfl | ⟨b,off,rfl,hb,hr,hok⟩
   ·simp at hlt
   obtain ⟨t0,t1,t2,t3,t4⟩:=hr m hlt;have Ub:Hid (rs[m].ok _):=hok rs[m] (RY hlt);have lg:=(HL.out rs[m] (RY hlt)).2;have HKI:Hid (dU rs.length rs[m].e.kids):=HK.out rs[m] (RY hlt);have hk1:=bn m;have hk2:(m:Int) < (rs.length:Int):=by omega
   have hbw:b < w.heap.size:=by
    rcases HS.out with h | ⟨b',off',h1,h2,-⟩
    ·rw [h] at hlt; simp at hlt
    ·injection h1 with h1; injection h1 with h1; omega
   have HR:Hid (sP wr b (off + m * 5) rs[m]):=hr m hlt;have HNX:Hid (dK (ah rs) m (aZ m rs[m].e.kind rs[m].e.kids 0 out)=cu (ah rs)):=by
    show _=_;rw [← HN.out,xH _ _ _ (by rw [aJ]; exact hlt)];simp [ah]
   clear hr hok t0 t1 t2 t3 t4;go_wp2_with fail;go_loopw [5] (fun i w2=>∃ (j:Nat) (SX:List Bool),j≤rs[m].e.kids.length∧i=.int .i64 j∧SX.length=rs.length∧Hid (aZ m rs[m].e.kind (rs[m].e.kids.drop j) j SX=aZ m rs[m].e.kind rs[m].e.kids 0 out)∧Hid (Fil w w2 w.heap.size rs.length (bools SX))) (fun i _=>rs[m].e.kids.length - (intOf i).toNat);case atStart=>exact ⟨0,out,R6 _,rfl,hol,rfl,HF⟩
   case round =>
    obtain ⟨j,SX,hj,rfl,ho2,HJ,UC⟩:=hrel;have hE2:eX wr _ rs:=HS.out.below UC.out.below;have ht:sP wr b (off + m * 5) rs[m]:=by
     rcases hE2 with h | ⟨b',off',h1,h2,h3,-⟩
     ·exact absurd hlt (by rw [h]; simp)
     ·injection h1 with h1; injection h1 with h1 h1'; subst h1; subst h1'; exact h3 m hlt
    obtain ⟨t0,t1,t2,t3,t4⟩:=ht;by_cases hjl:j < rs[m].e.kids.length
    ·have hK2:lF wr rs[m].adK rs[m].e.kids:=(hE2.mem (RY hlt)).2;rcases hK2 with hnil | ⟨ba,Vk,Tz,hba,hra⟩
     ·rw [hnil] at hjl; simp at hjl
     rw [Tz] at t4;have q0:=hra j hjl;have hj1:=bn j;have hj2:(j:Int) < (rs[m].e.kids.length:Int):=by omega
     obtain ⟨x0,x1⟩:=HKI.out _ (RY hjl);obtain ⟨x,hx⟩:∃ x:Nat,rs[m].e.kids[j]=(x:Int):=⟨rs[m].e.kids[j].toNat,by omega⟩;rw [hx] at q0 x0 x1;have c0:=UC.out.done m (by simp [bools]; omega);have fz:=UC.out.free;obtain ⟨v0,u0⟩:=Option.isSome_iff_exists.mp (UC.out.there x (by omega));have hbr:b < wr.heap.size:=RZ hbw UC.out.below.size;obtain ⟨bo,VC⟩:∃ bo,bo=(bools SX)[m]'(by simp [bools]; omega):=⟨_,rfl⟩;rw [← VC] at c0;clear hra Tz hE2 t1 t2 t3;have hm2:m < SX.length:=by omega
     have Yp:bo=.bool SX[m]:=by rw [VC]; simp [bools]
     have Yq:SX[m]?.getD false=SX[m]:=by simp [hm2]
     rw [Yp] at c0;clear VC Yp;have HJ3:Hid (∀ bv,(SX[m] || (rs[m].e.kind == 6 && j == 1))=bv→aZ m rs[m].e.kind (rs[m].e.kids.drop (j + 1)) (j + 1) (SX.set x bv)=aZ m rs[m].e.kind rs[m].e.kids 0 out):=by
      rintro _ rfl;rw [← HJ.out,iU _ _ _ _ _ hjl,hx];simp [Yq]
     have HF4:Hid (∀ bv d os,Fil w ((grow (redrawn wr d) os).setCell ⟨w.heap.size,x,none⟩ (.bool bv)) w.heap.size rs.length (bools (SX.set x bv))):=by
      intro bv d os;rw [lN];exact (UC.out.later (below_regrown wr d os)).set _ (by simp [bools]; omega) (by omega)
     go_wp2_with fail;replace fz:=fun d os=>(UC.out.later (below_regrown wr d os)).free;replace t0:=cell_regrown t0;replace t4:=cell_regrown t4;replace q0:=cell_regrown q0;replace c0:=cell_regrown c0;replace u0:=cell_regrown u0;clear Yq;cases hb0:SX[m] <;> cases hkb:(rs[m].e.kind == 6) <;> cases hjb:((j:Int) == 1)
     all_goals
      have hjn:(j == 1)=_:=(by rw [Bool.eq_iff_iff]; simp; omega:(j == 1)=((j:Int) == 1)).trans hjb;rw [hb0] at c0;have HJ4:=nZ (HJ3.out _ (by rw [hb0,hkb,hjn]));refine nN 26 1 (by kernel_rfl) (by rfl) (by kernel_rfl) ?_;simp only [List.take_succ_cons,List.take_zero]
      repeat (go_big_quiet_step (fail))
      refine wpQuiet_nil ?_;rintro _ ⟨⟨dq,osq⟩,rfl⟩;refine wpOp_step rfl (fun K hK=>?_);replace hK:=nZ hK;go_simp;refine hK.out _ _ ?_;clear hK;unfold lJ;go_wp2;go_roundw;case rel=>exact ⟨j + 1,_,by omega,by go_num,by simp [ho2],HJ4,HF4.out _ _ _⟩
      case measure=>simp [intOf] <;> omega
    ·have Vr:Hid (dK (ah rs) m SX=cu (ah rs)):=by
      show _=_;rw [← HNX.out,← HJ.out,List.drop_of_length_le (by omega)];rfl
     go_wp2;go_roundw;case rel=>exact ⟨m,SX,by omega,by go_num,ho2,Vr,UC⟩
     case measure=>simp [intOf] <;> omega
  ·obtain rfl:m=0:=by omega
   have UV:Hid (Fil w wr w.heap.size rs.length (bools (cu (ah rs)))):=by
    show Fil _ _ _ _ _;rw [← HN.out];exact HF.out
   go_wp2;go_ret;exact ⟨rfl,UV.out⟩
structure St where
 typ:ByteArray
 rel:ByteArray
 n:Int
def Q4 (w:World) (b off:Nat) (s:St):Prop:=w.cell? ⟨b,off,none⟩=some (.string s.typ)∧w.cell? ⟨b,off + 1,none⟩=some (.string s.rel)∧w.cell? ⟨b,off + 2,none⟩=some (.int .i64 s.n)
def Gg (w:World) (ad:Option Addr) (xs:List St):Prop:=xs=[] ∨ ∃ b off,ad=some ⟨b,off,none⟩∧b < w.heap.size∧∀ (i:Nat) (h:i < xs.length),Q4 w b (off + i * 3) xs[i]
theorem Gg.below {w w':World} {ad:Option Addr} {xs:List St} (h:Gg w ad xs) (hB:Below w.heap.size w w'):Gg w' ad xs:=by
 rcases h with h | ⟨b,off,e,hb,hr⟩
 ·exact .inl h
 ·refine .inr ⟨b,off,e,RZ hb hB.size,fun i hi=>?_⟩;obtain ⟨h0,h1,h2⟩:=hr i hi;exact ⟨aH hB hb h0,aH hB hb h1,aH hB hb h2⟩
def xI (s:St) (typ rel:ByteArray):Bool:=(s.typ.toList == typ.toList) && (s.rel.toList == rel.toList)
def fM (typ rel:ByteArray):List St→Nat→Int
 | [],_=>-1
 | s::xs,k=>if xI s typ rel then (k:Int) else fM typ rel xs (k + 1)
theorem og (typ rel:ByteArray) (xs:List St) (k:Nat) (h:k < xs.length):fM typ rel (xs.drop k) k=if xI xs[k] typ rel then (k:Int) else fM typ rel (xs.drop (k + 1)) (k + 1):=by
 rw [Sr h]; rfl
theorem LM (ad:Option Addr) (cap:Nat) (xs:List St) (typ rel:ByteArray) (w:World) (hlen:xs.length≤1048576) (hs:Gg w ad xs) :
  Calls prog 85 #[.slice ad xs.length cap,.string typ,.string rel] w fun e w'=>e=.returned (.int .i64 (fM typ rel xs 0))∧w'=w:=by
 go_enter func85,ntmps85;go_wp2;go_loopw [7] (fun i wr=>∃ k:Nat,k≤xs.length∧i=.int .i64 k∧Hid (fM typ rel (xs.drop k) k=fM typ rel xs 0)∧wr=w) (fun i _=>xs.length - (intOf i).toNat);case atStart=>exact ⟨0,R6 _,rfl,rfl,rfl⟩
 case round =>
  obtain ⟨k,hk,rfl,HP,rfl⟩:=hrel;by_cases hlt:k < xs.length
  ·rcases hs with rfl | ⟨b,off,rfl,hb,hr⟩
   ·simp at hlt
   obtain ⟨t0,t1,t2⟩:=hr k hlt;have hk1:=bn k;have hk2:(k:Int) < (xs.length:Int):=by omega
   clear hr;cases hq:(xs[k].typ.toList == typ.toList) with
   | true =>
    cases hp:(xs[k].rel.toList == rel.toList) with
    | true =>
     have HN:Hid (fM typ rel xs 0=(k:Int)):=by show _=_; rw [← HP.out,og _ _ _ _ hlt]; simp [xI,hq,hp]
     go_wp2;go_ret;exact ⟨by rw [HN.out]; rfl,rfl⟩
    | false =>
     have Td:Hid (fM typ rel (xs.drop (k + 1)) (k + 1)=fM typ rel xs 0):=by show _=_; rw [← HP.out,og _ _ _ _ hlt]; simp [xI,hq,hp]
     go_wp2;go_roundw;case rel=>exact ⟨k + 1,by omega,by go_num,Td,by first | rfl | trivial⟩
     case measure=>simp [intOf] <;> omega
   | false =>
    have Td:Hid (fM typ rel (xs.drop (k + 1)) (k + 1)=fM typ rel xs 0):=by show _=_; rw [← HP.out,og _ _ _ _ hlt]; simp [xI,hq]
    go_wp2;go_roundw;case rel=>exact ⟨k + 1,by omega,by go_num,Td,by first | rfl | trivial⟩
    case measure=>simp [intOf] <;> omega
  ·have HN:Hid (fM typ rel xs 0=-1):=by show _=_; rw [← HP.out,List.drop_of_length_le (by omega)]; rfl
   go_wp2;go_ret;exact ⟨by rw [HN.out]; rfl,rfl⟩
theorem nG {P:Program} {ops:Array Oper} {Q:Exit→Act→World→Prop} {k:Nat} {o:Oper} {K:Act→World→Prop} {a:Act} (w:World) (hop:ops[k]?=some o) (hgd:o.guard=none) (s x:Operand) (t:TypeId)
  (ho:o.op=.call { callee:=.builtin .append,args:=#[s,x],argTypes:=#[t,t] })
  (base:Nat) (e:TypeId) (i:TypeInfo) (z:Value) (size bytes:Nat) (ht:P.underlying t=some (.slice e)) (hi:P.info? e=some i) (hz:i.zero=some z)
  (hsize:i.size=size) (hby:i.bytes=bytes) (hzs:z.cells.size=size) (hsz:0 < size)
  (v:Value) (n:Nat) (xs:List Value) (hs:a.eval s=v) (hown:w.ownsRow base e size v n xs)
  (ad:Addr) (m c:Nat) (news:List Value) (hx:a.eval x=.slice (some ad) m c) (hl:news.length=m * size) (hnews:∀ j u,news[j]?=some u→w.cell? (ad.add j)=some u) (h1:∀ u ∈ news,u.oneCell'=true)
  (h63:n + m≤maxLen) (hbytes:(n + m) * bytes≤140737488355328) (hbase:base≤w.heap.size)
  (h:∀ v' w',w'.ownsRow base e size v' (n + m) (xs ++ news)→w.grownBy w' v.ownBlock→(v'.ownBlock=v.ownBlock ∨ v'.ownBlock=some w.heap.size)→K (a.put o.dst v') w') :
  wpOp P ops Q k K a w:=by
 refine wpOp_step hop (fun K' hK=>?_);have hw:Region.wanted o (yielded ops a.tmps)=true:=by simp [Region.wanted,hgd]
 rw [if_pos hw];obtain ⟨v',w',hr,h2,h3,h4,h5⟩:=run_append_own_at (P:=P) w base t o.type e i z size bytes ht hi hz hsize hby hzs hsz v n xs hown ad m c news hl hnews h1 h63 hbytes hbase;unfold Oper.wp execOp;simp only [ho,resolve,invoke,builtin,Sem.run_bind,Sem.run_pure,Result.andThen_ok,List.map_toArray,List.map_cons,List.map_nil,hs,hx,hr];exact hK _ _ (h v' w' h2 h3 h5)
structure Aside (w:World) (v:Value) (w':World) (v':Value):Prop where
 size:w.heap.size≤w'.heap.size
 block:∀ k,k < w.heap.size→v.ownBlock ≠ some k→w'.heap[k]?=w.heap[k]?
 own:v'.ownBlock=v.ownBlock ∨ ∃ g,v'.ownBlock=some g∧w.heap.size≤g
theorem Aside.refl (w:World) (v:Value):Aside w v w v:=⟨R4 _,fun _ _ _=>rfl,.inl rfl⟩
theorem Aside.apart {w w':World} {v v':Value} {k:Nat} (h:Aside w v w' v') (hk:k < w.heap.size) (hv:v.ownBlock ≠ some k):v'.ownBlock ≠ some k:=by
 rcases h.own with e | ⟨g,e,hg⟩
 ·rw [e]; exact hv
 ·rw [e]; intro h2; injection h2 with h2; omega
theorem Aside.trans {w w1 w2:World} {v v1 v2:Value} (h:Aside w v w1 v1) (h2:Aside w1 v1 w2 v2):Aside w v w2 v2 where
 size:=Sb h.size h2.size
 block k hk hv:=(h2.block k (RZ hk h.size) (h.apart hk hv)).trans (h.block k hk hv)
 own:=by
  rcases h2.own with e | ⟨g,e,hg⟩
  ·rw [e]; exact h.own
  ·exact .inr ⟨g,e,Sb h.size hg⟩
theorem Aside.below {w w':World} {v:Value} (h:Below w.heap.size w w'):Aside w v w' v:=⟨h.size,fun k hk _=>h.block k hk,.inl rfl⟩
theorem Aside.app {w w':World} {v v':Value} (hg:w.grownBy w' v.ownBlock) (h5:v'.ownBlock=v.ownBlock ∨ v'.ownBlock=some w.heap.size):Aside w v w' v' where
 size:=hg.size
 block k hk hv:=hg.block k hk (fun e=>hv e.symm)
 own:=by
  rcases h5 with e | e
  ·exact .inl e
  ·exact .inr ⟨_,e,R4 _⟩
theorem Aside.cell {w w':World} {v v':Value} (h:Aside w v w' v') {p:Addr} (hp:p.block < w.heap.size) (hv:v.ownBlock ≠ some p.block):w'.cell? p=w.cell? p:=SB (w:=w) (h.block p.block hp hv)
structure Dp where
 typ:ByteArray
 rel:ByteArray
 neg:Bool
def Dp.cells (d:Dp):List Value:=[.string d.typ,.string d.rel,.bool d.neg]
def dP:List Dp→List Value
 | []=>[]
 | d::ds=>d.cells ++ dP ds
theorem Cc (xs ys:List Dp):dP (xs ++ ys)=dP xs ++ dP ys:=by
 induction xs with
 | nil=>rfl
 | cons d ds ih=>simp [dP,ih]
theorem qz (xs:List Dp) (d:Dp):dP (xs ++ [d])=dP xs ++ d.cells:=by rw [Cc]; simp [dP]
def bY (neg:Bool):List Al→List Dp
 | []=>[]
 | a::xs=>if a.s.toList.isEmpty then bY neg xs else ⟨a.t,a.s,neg⟩::bY neg xs
def jP (ts:List Ty) (typ:ByteArray) (neg:Bool) (e:Ex):List Dp :=
 if e.kind=2 then [⟨typ,e.name,neg⟩] else if e.kind=3 then (fT ts typ e.over e.name).map fun g=>⟨g,e.name,neg⟩ else []
def fU (ts:List Ty) (typ:ByteArray) (es:List Ex) (k:Nat):List Dp :=
 match es[k]? with
 | none=>[]
 | some e=>bY ((cu es).getD k false) e.allow ++ jP ts typ ((cu es).getD k false) e
def aK (ts:List Ty) (typ:ByteArray) (es:List Ex):Nat→List Dp
 | 0=>[]
 | k + 1=>aK ts typ es k ++ fU ts typ es k
def nH (ts:List Ty) (typ:ByteArray) (es:List Ex):List Dp:=aK ts typ es es.length
theorem qW (neg:Bool) (xs ys:List Al):bY neg (xs ++ ys)=bY neg xs ++ bY neg ys:=by
 induction xs with
 | nil=>rfl
 | cons a xs ih=>simp only [List.cons_append,bY,ih]; split <;> simp
theorem LP (neg:Bool) (xs:List Al) (k:Nat) (h:k < xs.length) (he:xs[k].s.toList.isEmpty=true):bY neg (xs.take (k + 1))=bY neg (xs.take k):=by
 rw [R5 h,qW]; simp [bY] at he ⊢; simp [he]
theorem JN (neg:Bool) (xs:List Al) (k:Nat) (h:k < xs.length) (he:xs[k].s.toList.isEmpty=false):bY neg (xs.take (k + 1))=bY neg (xs.take k) ++ [⟨xs[k].t,xs[k].s,neg⟩]:=by
 rw [R5 h,qW]; simp [bY,he]
theorem Av (neg:Bool) (xs:List Al):(bY neg xs).length≤xs.length:=by
 induction xs with
 | nil=>simp [bY]
 | cons a xs ih=>simp only [bY]; split <;> simp <;> omega
theorem LQ:(prog.info? 171).map (fun i=>(i.zero,i.size,i.bytes))=some (some (.agg #[.string ⟨#[]⟩,.string ⟨#[]⟩,.bool false]),3,40):=by kernel_rfl
theorem jk {a b:ByteArray} (h:a.toList=b.toList):a=b:=by
 rw [Go.ByteArray.toList_eq,Go.ByteArray.toList_eq] at h;cases a with | mk x=>cases b with | mk y =>
 congr;exact Array.ext' h
theorem eB {a b:ByteArray}:(a.toList == b.toList)=true ↔ a=b:=⟨fun h=>jk (by simpa using h),fun h=>by simp [h]⟩
def iB (t:Ty):List (ByteArray × ByteArray):=t.rels.map fun r=>(t.name,r.name)
def ai (ts:List Ty):List (ByteArray × ByteArray):=ts.flatMap iB
def stepOf (d:Dp):Int:=if d.neg then 1 else 0
def gQ (ts:List Ty) (k:ByteArray × ByteArray):List Dp:=nH ts k.1 (ax ts k.1 k.2)
structure Sol (ts:List Ty) (f:ByteArray × ByteArray→Int):Prop where
 pos:∀ k,0≤f k
 up:∀ k ∈ ai ts,∀ d ∈ gQ ts k,f (d.typ,d.rel) + stepOf d≤f k
def Found (ts:List Ty):Prop:=∀ k ∈ ai ts,∀ d ∈ gQ ts k,(d.typ,d.rel) ∈ ai ts
theorem uY (vs:List Int) (x y:Int) (h:x≤y):vs.countP (fun v=>decide (v < x))≤vs.countP (fun v=>decide (v < y)) :=
 List.countP_mono_left fun v _ hv=>by simp at hv ⊢; omega
theorem JO (vs:List Int) (x y:Int) (h:x + 1≤y) (hx:x ∈ vs):vs.countP (fun v=>decide (v < x)) + 1≤vs.countP (fun v=>decide (v < y)):=by
 induction vs with
 | nil=>cases hx
 | cons v vs ih =>
  simp only [List.countP_cons];rcases List.mem_cons.1 hx with rfl | hm
  ·have:=uY vs x y (by omega);have h1:decide (x < x)=false:=by simp
   have h2:decide (x < y)=true:=by simp; omega
   simp only [h1,h2]; simp; omega
  ·have:=ih hm;by_cases h1:v < x
   ·have h2:v < y:=by omega
    simp [h1,h2]; omega
   ·simp only [h1]; simp; omega
theorem Gh (vs:List Int) (x:Int) (hx:x ∈ vs):vs.countP (fun v=>decide (v < x)) + 1≤vs.length:=by
 induction vs with
 | nil=>cases hx
 | cons v vs ih =>
  simp only [List.countP_cons,List.length_cons];rcases List.mem_cons.1 hx with rfl | hm
  ·have:=List.countP_le_length (p:=fun v=>decide (v < x)) (l:=vs);have h1:decide (x < x)=false:=by simp
   simp only [h1]; simp; omega
  ·have:=ih hm;split <;> omega
theorem Sol.few {ts:List Ty} {f:ByteArray × ByteArray→Int} (h:Sol ts f) (hF:Found ts):∃ g,Sol ts g∧∀ k ∈ ai ts,g k + 1≤(ai ts).length:=by
 refine ⟨fun k=>((((ai ts).map f).countP (fun v=>decide (v < f k)):Nat):Int),⟨fun k=>by omega,fun k hk d hd=>?_⟩,fun k hk=>?_⟩
 ·have h1:=h.up k hk d hd;have h2:f (d.typ,d.rel) ∈ (ai ts).map f:=List.mem_map_of_mem (hF k hk d hd);unfold stepOf at h1 ⊢;split at h1
  ·rename_i hn;have:=JO ((ai ts).map f) _ _ h1 h2;simp only [hn,if_true]; omega
  ·rename_i hn;have:=uY ((ai ts).map f) _ _ (show f (d.typ,d.rel)≤f k by omega);have e0:(if d.neg=true then (1:Int) else 0)=0:=if_neg hn;rw [e0]; omega
 ·have:=Gh ((ai ts).map f) (f k) (List.mem_map_of_mem hk);simp at this ⊢; omega
def oh (ts:List Ty) (k:ByteArray × ByteArray) (n:Int):Prop:=∀ f,Sol ts f→n≤f k
theorem LU {ts:List Ty} (hF:Found ts) {k:ByteArray × ByteArray} (hk:k ∈ ai ts) {n:Int} (hl:oh ts k n) (hn:((ai ts).length:Int)≤n):¬ ∃ f,Sol ts f:=by
 rintro ⟨f,hf⟩;obtain ⟨g,hg,hb⟩:=hf.few hF;have:=hl g hg;have:=hb k hk;omega
theorem oh.step {ts:List Ty} {k:ByteArray × ByteArray} (hk:k ∈ ai ts) {d:Dp} (hd:d ∈ gQ ts k) {n:Int} (hl:oh ts (d.typ,d.rel) n):oh ts k (n + stepOf d):=fun f hf=>by
 have h1:=hl f hf;have h2:=hf.up k hk d hd;omega
theorem oh.zero (ts:List Ty) (k:ByteArray × ByteArray):oh ts k 0:=fun _ hf=>hf.pos k
structure Least (ts:List Ty) (f:ByteArray × ByteArray→Int):Prop where
 sol:Sol ts f
 low:∀ k ∈ ai ts,oh ts k (f k)
theorem Least.same {ts:List Ty} {f g:ByteArray × ByteArray→Int} (hf:Least ts f) (hg:Least ts g) (k:ByteArray × ByteArray) (hk:k ∈ ai ts):f k=g k:=by
 have h1:=hf.low k hk g hg.sol;have h2:=hg.low k hk f hf.sol;omega
def St.key (s:St):ByteArray × ByteArray:=(s.typ,s.rel)
def gT (out:List St):List (ByteArray × ByteArray):=out.map St.key
theorem ol {s:St} {k:ByteArray × ByteArray}:xI s k.1 k.2=true ↔ s.key=k:=by
 unfold xI St.key;rw [R7,eB,eB];constructor
 ·rintro ⟨h1,h2⟩; rw [h1,h2]
 ·rintro rfl; exact ⟨rfl,rfl⟩
def eP (out:List St) (k:ByteArray × ByteArray):Int :=
 match out with
 | []=>0
 | s::xs=>if xI s k.1 k.2 then s.n else eP xs k
theorem mo {k:ByteArray × ByteArray}:∀ (out:List St) (j:Nat),k ∈ gT out→∃ i:Nat,∃ h:i < out.length,fM k.1 k.2 out j=((j + i:Nat):Int)∧out[i].key=k∧out[i].n=eP out k
 | [],_,h=>by cases h
 | s::xs,j,h=>by
  by_cases hs:xI s k.1 k.2=true
  ·exact ⟨0,by simp,by simp [fM,hs],ol.1 hs,by simp [eP,hs]⟩
  ·have hm:k ∈ gT xs:=by
    rcases List.mem_cons.1 h with e | hm
    ·exact absurd (ol.2 e.symm) hs
    ·exact hm
   obtain ⟨i,hi,h1,h2,h3⟩:=mo xs (j + 1) hm;refine ⟨i + 1,by simp; omega,?_,by simpa using h2,by simpa [eP,hs] using h3⟩;simp only [fM,hs];simp only [Bool.false_eq_true,if_false];rw [h1]; congr 1; omega
theorem Aw {k:ByteArray × ByteArray} (out:List St) (h:k ∈ gT out):∃ s ∈ out,s.key=k∧s.n=eP out k:=by
 obtain ⟨i,hi,-,h2,h3⟩:=mo out 0 h;exact ⟨out[i],RY hi,h2,h3⟩
theorem LV {k:ByteArray × ByteArray} (out:List St) (h:k ∉ gT out):eP out k=0:=by
 induction out with
 | nil=>rfl
 | cons s xs ih =>
  have h1:¬ xI s k.1 k.2=true:=fun e=>h (by rw [ol] at e; simp [gT,e]);simp only [eP,h1];simp only [Bool.false_eq_true,if_false];exact ih fun hm=>h (by simp only [gT,List.map_cons,List.mem_cons]; exact .inr hm)
def kR:List St→Int
 | []=>0
 | s::xs=>s.n + kR xs
theorem LW (out:List St) (i:Nat) (h:i < out.length) (n:Int):kR (out.set i ⟨out[i].typ,out[i].rel,n⟩)=kR out - out[i].n + n:=by
 induction out generalizing i with
 | nil=>simp at h
 | cons s xs ih =>
  cases i with
  | zero=>simp [kR]; omega
  | succ i=>simp only [List.set_cons_succ,kR,List.getElem_cons_succ]; rw [ih i (by simpa using h)]; omega
theorem JP (out:List St) (i:Nat) (h:i < out.length) (n:Int):gT (out.set i ⟨out[i].typ,out[i].rel,n⟩)=gT out:=by
 unfold gT;rw [List.map_set];show (List.map St.key out).set i (out[i].key)=_;have:out[i].key=(List.map St.key out)[i]'(by simpa using h):=by simp
 rw [this,List.set_getElem_self]
structure Round (ts:List Ty) (out:List St):Prop where
 keys:gT out=ai ts
 pos:∀ s ∈ out,0≤s.n
 low:∀ s ∈ out,oh ts s.key s.n
def OE (ts:List Ty) (out:List St) (s:St) (k:Nat):Prop:=∀ d ∈ (gQ ts s.key).take k,eP out (d.typ,d.rel) + stepOf d≤s.n
theorem Round.mem {ts:List Ty} {out:List St} (h:Round ts out) {s:St} (hs:s ∈ out):s.key ∈ ai ts:=by rw [← h.keys]; exact List.mem_map_of_mem hs
theorem Round.at {ts:List Ty} {out:List St} (h:Round ts out) {k:ByteArray × ByteArray} (hk:k ∈ ai ts):0≤eP out k∧oh ts k (eP out k):=by
 obtain ⟨s,hs,e,en⟩:=Aw out (by rw [h.keys]; exact hk);rw [← en,← e];exact ⟨h.pos s hs,h.low s hs⟩
theorem Round.set {ts:List Ty} {out:List St} (h:Round ts out) (hF:Found ts) {i:Nat} (hi:i < out.length) {d:Dp} (hd:d ∈ gQ ts out[i].key):Round ts (out.set i ⟨out[i].typ,out[i].rel,eP out (d.typ,d.rel) + stepOf d⟩):=by
 have hk:out[i].key ∈ ai ts:=h.mem (RY hi);have hdk:=hF _ hk d hd;obtain ⟨h0,hl⟩:=h.at hdk;have hs0:0≤stepOf d:=by unfold stepOf; split <;> omega
 refine ⟨(JP out i hi _).trans h.keys,fun s hs=>?_,fun s hs=>?_⟩
 ·rcases List.mem_or_eq_of_mem_set hs with hs | rfl
  ·exact h.pos s hs
  ·show 0≤eP out (d.typ,d.rel) + stepOf d; omega
 ·rcases List.mem_or_eq_of_mem_set hs with hs | rfl
  ·exact h.low s hs
  ·exact hl.step hk hd
theorem Round.done {ts:List Ty} {out:List St} (h:Round ts out) (hs:∀ s ∈ out,OE ts out s (gQ ts s.key).length):Least ts (eP out) where
 sol:=⟨fun k=>by
   by_cases hk:k ∈ ai ts
   ·exact (h.at hk).1
   ·rw [LV out (by rw [h.keys]; exact hk)]; exact Int.le_refl _,fun k hk d hd=>by
   obtain ⟨s,hm,e,en⟩:=Aw out (by rw [h.keys]; exact hk);have:=hs s hm d (by rw [Sc,e]; exact hd);rw [← en]; exact this⟩
 low k hk:=(h.at hk).2
def je (x y:Al):Bool:=x.t.toList == y.t.toList && x.s.toList == y.s.toList
def Lr (a:Al):Bool:=aR a.t && xx a.s
def dh (xs:List Al) (k:Nat) (a:Al):Bool:=(xs.take k).any fun x=>je x a
theorem mq (xs:List Al) (k:Nat) (a:Al) (h:k < xs.length):dh xs (k + 1) a=(dh xs k a || je xs[k] a):=by
 unfold dh; rw [R5 h,List.any_append]; simp
theorem mr (xs:List Al) (a:Al):dh xs 0 a=false:=by simp [dh]
def Ce (xs:List Al):Nat→Bool
 | 0=>true
 | k + 1=>Ce xs k && (xs[k]?.map fun a=>Lr a && !dh xs k a).getD true
theorem qX (xs:List Al) (k:Nat) (h:k < xs.length):Ce xs (k + 1)=(Ce xs k && (Lr xs[k] && !dh xs k xs[k])):=by
 simp [Ce,h]
theorem kU (xs:List Al) (k:Nat) (h:k < xs.length) (hb:(Lr xs[k] && !dh xs k xs[k])=false):∀ n,k < n→Ce xs n=false
 | 0,hn=>by omega
 | n + 1,hn=>by
  by_cases e:n=k
  ·subst e; rw [qX _ _ h,hb]; simp
  ·simp [Ce,kU xs k h hb n (by omega)]
def fV (xs:List Al):Bool:=decide (1≤xs.length) && decide (xs.length≤6) && Ce xs xs.length
def az (e:Ex):Bool :=
 if e.kind=1 then fV e.allow && e.over.toList.isEmpty && e.name.toList.isEmpty && decide (e.kids.length=0)
 else if e.kind=2 then aR e.name && decide (e.allow.length=0) && e.over.toList.isEmpty && decide (e.kids.length=0)
 else if e.kind=3 then aR e.over && aR e.name && decide (e.allow.length=0) && decide (e.kids.length=0)
 else if e.kind=4 ∨ e.kind=5 then decide (2≤e.kids.length) && decide (e.kids.length≤5) && decide (e.allow.length=0) && e.over.toList.isEmpty && e.name.toList.isEmpty
 else if e.kind=6 then decide (e.kids.length=2) && decide (e.allow.length=0) && e.over.toList.isEmpty && e.name.toList.isEmpty
 else false
def dA (f:Int→Int):List Int→Int→Int
 | [],at'=>at' + 1
 | k::ks,at'=>if at' < 0 ∨ k ≠ at' then -1 else if f at' < 0 then -1 else dA f ks (f at' - 1)
def cZ (es:List Ex) (n:Nat):List Int:=(es[n]?.map Ex.kids).getD []
def ak (es:List Ex) (n:Nat):Int:=dA (fun x=>if _h:0≤x∧x.toNat < n then ak es x.toNat else -1) (cZ es n).reverse ((n:Int) - 1)
def dI (es:List Ex) (n:Nat) (x:Int):Int:=if 0≤x∧x.toNat < n then ak es x.toNat else -1
theorem j5 (es:List Ex) (n:Nat):ak es n=dA (dI es n) (cZ es n).reverse ((n:Int) - 1):=by
 rw [ak];rfl
theorem Ay {f:Int→Int} (hf:∀ x,0≤x→f x≤x):∀ (ks:List Int) (a:Int),-1≤a→dA f ks a≤a + 1
 | [],a,_=>by simp [dA]
 | k::ks,a,ha=>by
  unfold dA;split
  ·omega
  ·rename_i h;split
   ·omega
   ·rename_i h2;have h0:0≤a:=by omega
    have:=Ay hf ks (f a - 1) (by omega);have:=hf a h0;omega
theorem fJ (es:List Ex) (n:Nat):ak es n≤n:=by
 induction n using Nat.strongRecOn with
 | ind n ih =>
  rw [j5];have:=Ay (f:=dI es n) (fun x hx=>by
   unfold dI;split
   ·rename_i h; have:=ih x.toNat h.2; omega
   ·omega) (cZ es n).reverse ((n:Int) - 1) (by omega)
  omega
theorem LX (es:List Ex) (n:Nat) (x:Int) (hx:0≤x):dI es n x≤x:=by
 unfold dI;split
 ·have:=fJ es x.toNat; omega
 ·omega
theorem p9 {es:List Ex} {n:Nat} (ih:∀ m,m < n→0≤ak es m→∀ j:Nat,ak es m≤j→j≤m→0≤ak es j) :
  ∀ (ks:List Int) (a:Int),a < n→0≤dA (dI es n) ks a→∀ j:Nat,dA (dI es n) ks a≤j→(j:Int)≤a→0≤ak es j
 | [],a,ha,h,j,h1,h2=>by simp [dA] at h1; omega
 | k::ks,a,ha,h,j,h1,h2=>by
  unfold dA at h h1;split at h
  ·omega
  ·rename_i c;rw [if_neg c] at h1;split at h
   ·omega
   ·rename_i c2;rw [if_neg c2] at h1;have h0:0≤a:=by omega
    have hF:dI es n a=ak es a.toNat:=by unfold dI; rw [if_pos ⟨h0,by omega⟩]
    rw [hF] at h h1 c2;by_cases hj:ak es a.toNat≤j
    ·exact ih a.toNat (by omega) (by omega) j hj (by omega)
    ·exact p9 ih ks (ak es a.toNat - 1) (by have:=fJ es a.toNat; omega) h j h1 (by omega)
theorem lh (es:List Ex) (n:Nat):0≤ak es n→∀ j:Nat,ak es n≤j→j≤n→0≤ak es j:=by
 induction n using Nat.strongRecOn with
 | ind n ih =>
  intro h j h1 h2;by_cases e:j=n
  ·subst e; exact h
  ·rw [j5] at h h1;exact p9 ih _ _ (by omega) h j h1 (by omega)
def ll (es:List Ex) (i:Nat):Bool:=(cZ es i).all fun k=>decide (0≤k) && decide (k≤(i:Int) - 1)
theorem uZ {es:List Ex} {n:Nat}:∀ (ks:List Int) (a:Int),a < n→0≤dA (dI es n) ks a→∀ k ∈ ks,0≤k∧k≤a
 | [],_,_,_,k,hk=>by cases hk
 | x::ks,a,ha,h,k,hk=>by
  unfold dA at h;split at h
  ·omega
  ·rename_i c;split at h
   ·omega
   ·rename_i c2;have h0:0≤a:=by omega
    rcases List.mem_cons.1 hk with rfl | hk
    ·omega
    ·have hl:=LX es n a h0;have:=uZ ks (dI es n a - 1) (by omega) h k hk;omega
theorem JQ (es:List Ex) (i:Nat) (h:0≤ak es i):ll es i=true:=by
 unfold ll;rw [Sg];intro k hk;rw [j5] at h;have:=uZ _ _ (by omega) h k (by simpa using hk);simp; omega
def LY (es:List Ex) (n:Nat):Prop:=∀ j,j < n→0≤ak es j
def own (es:List Ex):Nat:=(es.filter fun e=>decide (e.kind=1)).length
def fF (es:List Ex) (k:Nat):Nat:=own (es.take k)
theorem xJ (es:List Ex) (k:Nat) (h:k < es.length):fF es (k + 1)=fF es k + (if es[k].kind=1 then 1 else 0):=by
 unfold fF own;rw [R5 h,SI,R9];by_cases e:es[k].kind=1 <;> simp [e]
theorem qY (es:List Ex) (k:Nat):fF es k≤k:=by
 unfold fF own;exact Sb (List.length_filter_le ..) (by simp; omega)
def iV (es:List Ex) (k:Nat):Bool:=(es.take k).all az
theorem qZ (es:List Ex) (k:Nat) (h:k < es.length):iV es (k + 1)=(iV es k && az es[k]):=by
 unfold iV; rw [R5 h,List.all_append]; simp
theorem Az (es:List Ex) (k:Nat) (h:k < es.length) (hb:az es[k]=false):es.all az=false:=by
 rw [Bool.eq_false_iff]; intro h2; rw [Sg] at h2; have:=h2 es[k] (RY h); rw [hb] at this; cases this
def iW (es:List Ex) (k:Nat):Bool:=(List.range k).all (ll es)
theorem DU (es:List Ex) (k:Nat):iW es (k + 1)=(iW es k && ll es k):=by simp [iW,List.range_succ]
theorem LZ (es:List Ex) (k:Nat) (h:k < es.length) (hb:ll es k=false):iW es es.length=false:=by
 rw [Bool.eq_false_iff]; intro h2; unfold iW at h2; rw [Sg] at h2; have:=h2 k (by simpa using h); rw [hb] at this; cases this
def aU (es:List Ex):Bool:=decide (1≤es.length) && decide (es.length≤15) && es.all az && iW es es.length && decide (own es≤1) && decide (ak es (es.length - 1)=0)
def iX (es:List Ex):Bool:=(List.range es.length).all fun j=>decide (0≤ak es j)
def jQ (es:List Ex):Bool:=decide (1≤es.length) && decide (es.length≤15) && es.all az && decide (own es≤1) && (iX es && decide (ak es (es.length - 1)=0))
theorem sS (es:List Ex):aU es=jQ es:=by
 by_cases h1:1≤es.length
 ·by_cases ht:ak es (es.length - 1)=0
  ·have ha:iX es=true:=by
    unfold iX;rw [Sg];intro j hj;have hj':j < es.length:=by simpa using hj
    simpa using lh es (es.length - 1) (by omega) j (by omega) (by omega)
   have hk:iW es es.length=true:=by
    unfold iW;rw [Sg];intro j hj;have hj':j < es.length:=by simpa using hj
    exact JQ es j (lh es (es.length - 1) (by omega) j (by omega) (by omega))
   simp [aU,jQ,ht,ha,hk,h1]
  ·simp [aU,jQ,ht]
 ·simp [aU,jQ,h1]
end Go.Proofs.YtdaoiceeidoehaaGreat
