/- Contracts of the laws' own helpers on objects: the count of what is read, and the copy into the program's type. -/
import Derived.Test.YtajkkeikihhejaaGreatSq
import Derived.Test.YtajkkeikihhejaaGreatJ16
import Derived.Test.YtajkkeikihhejaaGreatJ5
import Derived.Sort.Statements
open Go.Proofs.Tryz
set_option maxHeartbeats 80000000
namespace Go.Proofs.YtajkkeikihhejaaGreat
open Go.ChangeShapes Go.WideShapes Go.ChangeAt Go.RowKit
open Pl
structure Tp where
 a:ByteArray
 b:ByteArray
 r:ByteArray
 c:ByteArray
 d:ByteArray
 s:ByteArray
def Tp.fits (t:Tp):Prop:=t.a.size<=maxLen/\t.b.size<=maxLen/\t.r.size<=maxLen/\t.c.size<=maxLen/\t.d.size<=maxLen/\t.s.size<=maxLen
def RU (w:World)(b off:Nat)(t:Tp):Prop :=
 w.cell? ⟨b,off,none⟩=some (.string t.a)/\w.cell? ⟨b,off+1,none⟩=some (.string t.b)/\w.cell? ⟨b,off+2,none⟩=some (.string t.r) /\
 w.cell? ⟨b,off+3,none⟩=some (.string t.c)/\w.cell? ⟨b,off+4,none⟩=some (.string t.d)/\w.cell? ⟨b,off+5,none⟩=some (.string t.s)
def kK (w:World)(b off:Nat)(ts:List Tp):Prop:=∀ (i:Nat) (h:i<ts.length),RU w b (off+i*6) ts[i]
def Sl (w:World)(ad:Option Addr)(ts:List Tp):Prop:=ts=[] \/ ∃ b off,ad=some ⟨b,off,none⟩/\b<w.heap.size/\kK w b off ts
theorem RU.same {w w':af}{b off:Nat}{t:Tp}(h:RU w b off t)(hc:∀ o,w'.cell? ⟨b,o,none⟩=w.cell? ⟨b,o,none⟩):RU w' b off t:=by
 obtain ⟨h0,h1,h2,h3,h4,h5⟩:=h;exact ⟨(hc _).trans h0,(hc _).trans h1,(hc _).trans h2,(hc _).trans h3,(hc _).trans h4,(hc _).trans h5⟩
theorem kK.below {w w':af}{b off B:Nat}{ts:List Tp}(h:kK w b off ts)(hB:Below B w w')(hb:b<B):kK w' b off ts :=
 fun i hi=>(h i hi).same fun o=>hB.cell (p:=⟨b,o,none⟩) hb
theorem Sl.below {w w':af}{ad:Option Addr}{ts:List Tp}(h:Sl w ad ts)(hB:ag w w'):Sl w' ad ts:=by
 rcases h with h|⟨b,off,e,hb,hr⟩
 ·exact .inl h
 exact .inr ⟨b,off,e,Uc hb hB.size,hr.below hB hb⟩
def Ae (w:World)(g o:Nat)(t:Tp):World :=
 (((((w.setCell ⟨g,o,none⟩ (.string t.a)).setCell ⟨g,o+1,none⟩ (.string t.b)).setCell ⟨g,o+2,none⟩ (.string t.r)).setCell ⟨g,o+3,none⟩ (.string t.c)).setCell ⟨g,o+4,none⟩ (.string t.d)).setCell ⟨g,o+5,none⟩ (.string t.s)
theorem kL {w:af}{g i j:Nat}{v:Value}(h:i≠j):(w.setCell ⟨g,i,none⟩ v).cell? ⟨g,j,none⟩=w.cell? ⟨g,j,none⟩:=by
 apply World.cell?_setCell_other;intro e;exact h (congrArg Addr.off e)
theorem Oz {w:af}{a:Addr}{v u:Value}(h:w.cell? a=some u):(w.setCell a v).cell? a=some v:=by
 apply World.cell?_setCell_same;exact h
theorem F8 (w:af)(g o:Nat)(t:Tp)(j:Nat)(h:j<o\/o+6<=j):(Ae w g o t).cell? ⟨g,j,none⟩=w.cell? ⟨g,j,none⟩:=by
 unfold Ae;rw [kL (by omega),kL (by omega),kL (by omega),kL (by omega),kL (by omega),kL (by omega)]
theorem Kq {w:af}{g o:Nat}(t:Tp)(h:∀ j,j<6->(w.cell? ⟨g,o+j,none⟩).isSome=true):RU (Ae w g o t) g o t:=by
 have e:∀ (W:World) (i j:Nat) (v:Value),(W.cell? ⟨g,o+j,none⟩).isSome=true->((W.setCell ⟨g,o+i,none⟩ v).cell? ⟨g,o+j,none⟩).isSome=true:=by
  intro W i j v hW;by_cases hij:i=j
  ·subst hij;obtain ⟨u,hu⟩:=Option.isSome_iff_exists.mp hW;rw [Oz hu];rfl
  rw [kL (by omega)];exact hW
 have same:∀ (W:World) (j:Nat) (v:Value),(W.cell? ⟨g,o+j,none⟩).isSome=true->(W.setCell ⟨g,o+j,none⟩ v).cell? ⟨g,o+j,none⟩=some v:=by
  intro W j v hW;obtain ⟨u,hu⟩:=Option.isSome_iff_exists.mp hW;exact Oz hu
 have h0:=h 0 (by omega);have h1:=h 1 (by omega);have h2:=h 2 (by omega);have h3:=h 3 (by omega);have h4:=h 4 (by omega);have h5:=h 5 (by omega);unfold Ae RU;refine ⟨?_,?_,?_,?_,?_,?_⟩
 ·rw [kL (by omega),kL (by omega),kL (by omega),kL (by omega),kL (by omega)];exact same _ 0 _ h0
 ·rw [kL (by omega),kL (by omega),kL (by omega),kL (by omega)];exact same _ 1 _ (e _ 0 1 _ h1)
 ·rw [kL (by omega),kL (by omega),kL (by omega)];exact same _ 2 _ (e _ 1 2 _ (e _ 0 2 _ h2))
 ·rw [kL (by omega),kL (by omega)];exact same _ 3 _ (e _ 2 3 _ (e _ 1 3 _ (e _ 0 3 _ h3)))
 ·rw [kL (by omega)];exact same _ 4 _ (e _ 3 4 _ (e _ 2 4 _ (e _ 1 4 _ (e _ 0 4 _ h4))))
 exact same _ 5 _ (e _ 4 5 _ (e _ 3 5 _ (e _ 2 5 _ (e _ 1 5 _ (e _ 0 5 _ h5)))))
theorem F9 (w:af)(g o:Nat)(t:Tp)(x:Addr):(Ae w g o t).frozen? x=w.frozen? x:=by simp [Ae]
theorem IX {B:Nat}{w0 w:af}{g o:Nat}{t:Tp}(h:Below B w0 w)(hg:B<=g):Below B w0 (Ae w g o t):=by
 unfold Ae;exact (((((h.setCell (by exact hg) _).setCell (by exact hg) _).setCell (by exact hg) _).setCell (by exact hg) _).setCell (by exact hg) _).setCell (by exact hg) _
theorem Lu (w:af)(g o:Nat)(t:Tp):(Ae w g o t).heap.size=w.heap.size:=by simp [Ae]
structure Filling (w wr:World)(g:Nat)(ts:List Tp)(k:Nat):Prop where
 below:ag w wr
 ge:w.heap.size<=g
 lt:g<wr.heap.size
 done:∀ (i:Nat) (h:i<ts.length),i<k->RU wr g (0+i*6) ts[i]
 there:∀ j,j<ts.length*6->(wr.cell? ⟨g,j,none⟩).isSome=true
 free:∀ j,wr.frozen? ⟨g,j,none⟩=false
theorem Filling.later {w wr w1:af}{g:Nat}{ts:List Tp}{k:Nat}(h:Filling w wr g ts k)(hb:ag wr w1):Filling w w1 g ts k where
 below:=h.below.trans (hb.mono h.below.size)
 ge:=h.ge
 lt:=Uc h.lt hb.size
 done i hi hk:=(h.done i hi hk).same fun o=>hb.cell (p:=⟨g,o,none⟩) h.lt
 there j hj:=by rw [hb.cell (p:=⟨g,j,none⟩) h.lt];exact h.there j hj
 free j:=by rw [hb.frozen (p:=⟨g,j,none⟩) h.lt];exact h.free j
theorem Filling.put {w wr:af}{g:Nat}{ts:List Tp}{k:Nat}(h:Filling w wr g ts k)(hk:k<ts.length):Filling w (Ae wr g (k*6) ts[k]) g ts (k+1) where
 below:=IX h.below h.ge
 ge:=h.ge
 lt:=by rw [Lu];exact h.lt
 done i hi hik:=by
  by_cases e:i=k
  ·subst e;rw [Uz];exact Kq _ (fun j hj=>h.there _ (by omega))
  obtain ⟨a0,a1,a2,a3,a4,a5⟩:=h.done i hi (by omega);refine ⟨?_,?_,?_,?_,?_,?_⟩ <;> (rw [F8 _ _ _ _ _ (by omega)];assumption)
 there j hj:=by
  by_cases hin:j<k*6\/k*6+6<=j
  ·rw [F8 _ _ _ _ _ hin];exact h.there j hj
  obtain ⟨a0,a1,a2,a3,a4,a5⟩:=Kq (w:=wr) (g:=g) (o:=k*6) ts[k] (fun j hj=>h.there _ (by omega));have hj6:j=k*6\/j=k*6+1\/j=k*6+2\/j=k*6+3\/j=k*6+4\/j=k*6+5:=by omega
  rcases hj6 with e|e|e|e|e|e
  ·rw [e,a0];rfl
  ·rw [e,a1];rfl
  ·rw [e,a2];rfl
  ·rw [e,a3];rfl
  ·rw [e,a4];rfl
  rw [e,a5];rfl
 free j:=by rw [F9];exact h.free j
theorem Filling.row {w w':af}{g:Nat}{ts:List Tp}(h:Filling w w' g ts ts.length):kK w' g 0 ts:=fun i hi=>h.done i hi hi
theorem Filling.sl {w w':af}{g:Nat}{ts:List Tp}(h:Filling w w' g ts ts.length):Sl w' (some ⟨g,0,none⟩) ts:=.inr ⟨g,0,rfl,h.lt,h.row⟩
end Go.Proofs.YtajkkeikihhejaaGreat
namespace Go.Proofs.YtajkkeikihhejaaGreat
open Go.Sort
open Go.ChangeShapes Go.WideShapes Go.ChangeAt Go.RowKit
open Pl
attribute [local go_sem ↓] Go.wp_at_zero Go.wp_at_succ
def Tp.ok (t:Tp):Bool:=bQ t.a t.b t.r t.c t.d t.s
def Tp.ahead (t u:Tp):Bool:=fT t.a t.b t.r t.c t.d t.s u.a u.b u.r u.c u.d u.s
def uX (ts:List Tp)(i:Nat):Bool:=match ts[i]? with
 | none=>true
 | some t=>t.ok&&(match i with
  | 0=>true
  | j+1=>match ts[j]? with
   | none=>true
   | some u=>u.ahead t)
def tO (ts:List Tp)(k:Nat):Bool:=(List.range k).all (uX ts)
def dL (ts:List Tp):Bool:=decide (ts.length<=40)&&tO ts ts.length
theorem rE (ts:List Tp)(k:Nat):tO ts (k+1)=(tO ts k&&uX ts k):=by simp [tO,List.range_succ]
theorem uY {ts:List Tp}{k:Nat}(hk:k<ts.length)(h:uX ts k=false):dL ts=false:=by
 have:tO ts ts.length=false:=by
  unfold tO;rw [List.all_eq_false];exact ⟨k,by simpa using hk,by simp [h]⟩
 simp [dL,this]
theorem wM {ts:List Tp}(h:0<ts.length):uX ts 0=ts[0].ok:=by simp [uX,Uj h]
theorem rF {ts:List Tp}{j:Nat}(h:j+1<ts.length):uX ts (j+1)=(ts[j+1].ok&&ts[j].ahead ts[j+1]):=by
 have h':j<ts.length:=by omega
 simp [uX,Uj h,Uj h']
theorem Kr {ts:List Tp}{k:Nat}(h:k<ts.length)(hn:ts[k].ok=false):uX ts k=false:=by
 simp [uX,Uj h,hn]
theorem wN (b off cap:Nat)(ts:List Tp)(w:af)(hlen:ts.length<=maxLen)(hr:kK w b off ts)(hb:b<w.heap.size)(hf:∀ t∈ts,t.fits) :
    Calls prog 93 #[.slice (some ⟨b,off,none⟩) ts.length cap] w fun e w'=>e=.returned (.bool (dL ts))/\ag w w':=by
  unfold maxLen at hlen;by_cases hbig:40<ts.length
  · have HT:Hid (dL ts=false):=by show _=_;simp [dL];omega
    go_enter func93,ntmps93;go_wp2;go_ret;exact ⟨ah HT.out.symm,Uf _ _⟩
  · go_enter func93,ntmps93;go_wp2;go_loopw [3] (fun i wr=>∃ k:Nat,k<=ts.length/\i=.int .i64 k/\Hid (tO ts k=true)/\ag w wr) (fun i _=>ts.length-(intOf i).toNat);case atStart=>exact ⟨0,Ui _,rfl,rfl,Uf _ _⟩
    obtain ⟨k,hk,rfl,hu,hB⟩:=hrel;by_cases hlt:k<ts.length
    · have XQ:=qc (hr.below hB hb);have UY:=qc hf;obtain ⟨t0,t1,t2,t3,t4,t5⟩:=XQ.out k hlt;have hk1:=bF k;have hk2:(k:Int)<(ts.length:Int):=by omega
      clear hr hf;have c0:=cell_regrown t0;have c1:=cell_regrown t1;have c2:=cell_regrown t2;have c3:=cell_regrown t3;have c4:=cell_regrown t4;have c5:=cell_regrown t5;have Vy:Hid (∀ d os,ag w (grow (redrawn wr d) os)):=fun d os=>hB.trans ((below_regrown wr d os).mono hB.size);clear t0 t1 t2 t3 t4 t5;go_wp2_with fail;have Xk:Hid (∀ d os,Calls prog 127 #[.agg #[.string ts[k].a,.string ts[k].b,.string ts[k].r,.string ts[k].c,.string ts[k].d,.string ts[k].s]] (grow (redrawn wr d) os) fun e w''=>e=.returned (.bool ts[k].ok)/\∃ p:Regrown,w''=grow (redrawn wr p.d) p.os):=by
        obtain ⟨f0,f1,f2,f3,f4,f5⟩:=UY.out ts[k] (Ud hlt);exact bP fun W' _=>dY _ _ _ _ _ _ _ f0 f1 f2 f3 f4 f5
      cases hok:ts[k].ok;case false=>
        have HT:Hid (dL ts=false):=uY hlt (Kr hlt hok);rw [hok]at Xk;clear hok;refine wp_region_quiet_below (by kernel_rfl) (by kernel_rfl) ?_
        repeat (go_big_quiet_step (exact Xk.out _ _))
        refine wpQuiet_nil ?_;rintro _ ⟨⟨dq,osq⟩,rfl⟩;go_wp2;go_ret;exact ⟨ah HT.out.symm,Vy.out dq osq⟩
      rw [hok]at Xk;by_cases hz:k=0
      · have HU:Hid (tO ts (k+1)=true):=by show _=_;rw [rE,hu.out];subst hz;rw [wM hlt,hok];rfl
        have hk8:decide ((0:Int)<(k:Int))=false:=by simp;omega
        have hk9:decide (0<k)=false:=by simp;omega
        clear hok hz;refine wp_region_quiet_below (by kernel_rfl) (by kernel_rfl) ?_
        repeat (go_big_quiet_step (exact Xk.out _ _))
        refine wpQuiet_nil ?_;rintro _ ⟨⟨dq,osq⟩,rfl⟩;go_wp2;go_roundw;case rel=>exact ⟨k+1,by omega,by go_num,HU,Vy.out dq osq⟩
        simp [intOf];omega
      · obtain ⟨m,hm⟩:∃ m:Nat,k=m+1:=⟨k-1,by omega⟩;have Vl:m<ts.length:=by omega
        obtain ⟨q0,q1,q2,q3,q4,q5⟩:=XQ.out m Vl;replace q0:=cell_regrown q0;replace q1:=cell_regrown q1;replace q2:=cell_regrown q2;replace q3:=cell_regrown q3;replace q4:=cell_regrown q4;replace q5:=cell_regrown q5;have hkm:(k:Int)-1=(m:Int):=by omega
        have hm1:=bF m;have hm2:(m:Int)<(ts.length:Int):=by omega
        have hpos:(0:Int)<(k:Int):=by omega
        have hposN:0<k:=by omega
        have hwm:IntKind.i64.wrap (m:Int)=(m:Int):=by rw [IntKind.wrap_i64];omega
        have HA:Hid (uX ts k=ts[m].ahead ts[k]):=by show _=_;subst hm;rw [rF hlt,hok];rfl
        have YQ:Hid (∀ d os,Calls prog 137 #[.agg #[.string ts[m].a,.string ts[m].b,.string ts[m].r,.string ts[m].c,.string ts[m].d,.string ts[m].s],.agg #[.string ts[k].a,.string ts[k].b,.string ts[k].r,.string ts[k].c,.string ts[k].d,.string ts[k].s]] (grow (redrawn wr d) os) fun e w''=>e=.returned (.bool (ts[m].ahead ts[k]))/\∃ p:Regrown,w''=grow (redrawn wr p.d) p.os):=by
          obtain ⟨f0,f1,f2,f3,f4,f5⟩:=UY.out ts[k] (Ud hlt);obtain ⟨g0,g1,g2,g3,g4,g5⟩:=UY.out ts[m] (Ud Vl);exact bP fun W' _=>nG _ _ _ _ _ _ _ _ _ _ _ _ _ g0 g1 g2 g3 g4 g5 f0 f1 f2 f3 f4 f5
        clear hm hz hok;cases ha:ts[m].ahead ts[k];case false=>
          have HT:Hid (dL ts=false):=uY hlt (by rw [HA.out,ha]);rw [ha]at YQ;clear ha HA;refine wp_region_quiet_below (by kernel_rfl) (by kernel_rfl) ?_
          repeat (go_big_quiet_step (first|exact Xk.out _ _|exact YQ.out _ _))
          refine wpQuiet_nil ?_;rintro _ ⟨⟨dq,osq⟩,rfl⟩;go_wp2;go_ret;exact ⟨ah HT.out.symm,Vy.out dq osq⟩
        have HU:Hid (tO ts (k+1)=true):=by show _=_;rw [rE,hu.out,HA.out,ha];rfl
        rw [ha]at YQ;clear ha HA;refine wp_region_quiet_below (by kernel_rfl) (by kernel_rfl) ?_
        repeat (go_big_quiet_step (first|exact Xk.out _ _|exact YQ.out _ _))
        refine wpQuiet_nil ?_;rintro _ ⟨⟨dq,osq⟩,rfl⟩;go_wp2;go_roundw;case rel=>exact ⟨k+1,by omega,by go_num,HU,Vy.out dq osq⟩
        simp [intOf];omega
    · go_wp2;go_ret;exact ⟨ah (by have e:k=ts.length:=(by omega);subst e;simp [dL,hu.out];omega),hB⟩
end Go.Proofs.YtajkkeikihhejaaGreat
namespace Go.Proofs.YtajkkeikihhejaaGreat
open Pl
theorem Af:∀ x y z:List UInt8,Op.bytesLess x y=true->Op.bytesLess y z=true->Op.bytesLess x z=true
 | [],_,[],h,k=>by cases ‹List UInt8› <;> simp [Op.bytesLess] at h k
 | [],_,_::_,_,_=>rfl
 | _::_,[],_,h,_=>by simp [Op.bytesLess]at h
 | _::_,_::_,[],_,k=>by simp [Op.bytesLess]at k
 | a::x,b::y,c::z,h,k=>by
  simp only [Op.bytesLess,Bool.or_eq_true,Ug,Um,beq_iff_eq]at h k ⊢;rcases h with h|⟨h,h'⟩
  ·rcases k with k|⟨k,k'⟩
   ·exact .inl (UInt8.lt_trans h k)
   exact .inl (k ▸ h)
  rcases k with k|⟨k,k'⟩
  ·exact .inl (h ▸ k)
  exact .inr ⟨h.trans k,Af x y z h' k'⟩
open Go.ChangeAt Go.ChangeShapes Go.Maps Go.RowKit Go.WideShapes
def Lv (x y:Tp):Bool:=x.a.toList==y.a.toList&&x.b.toList==y.b.toList&&x.r.toList==y.r.toList&&x.c.toList==y.c.toList&&x.d.toList==y.d.toList&&x.s.toList==y.s.toList
theorem Ga {x y:ByteArray}(k:x.toList=y.toList):x=y:=by
 rw [Go.ByteArray.toList_eq,Go.ByteArray.toList_eq]at k;obtain ⟨x⟩:=x;obtain ⟨y⟩:=y;exact congrArg ByteArray.mk (Array.toList_inj.1 k)
theorem OA (x y:Tp){v:Bool}(h:Lv x y=v)(w:af) :
  (binOp .eql 46 (.agg #[.string x.a,.string x.b,.string x.r,.string x.c,.string x.d,.string x.s]) (.agg #[.string y.a,.string y.b,.string y.r,.string y.c,.string y.d,.string y.s])).run prog w=.ok (.bool v) w:=by
 subst h;go_simp;unfold Lv
 (repeat' split) <;> simp_all
def wO (ts:List Tp)(t:Tp):Bool:=ts.any fun x=>Lv x t
theorem Lx {ts:List Tp}{t:Tp}{k:Nat}(h:k<ts.length):wO (ts.drop k) t=(Lv ts[k] t || wO (ts.drop (k+1)) t):=by
 rw [UB h];rfl
def Tp.row (t:Tp):List Value:=[.string t.a,.string t.b,.string t.r,.string t.c,.string t.d,.string t.s]
def bH (ts:List Tp):List Value:=ts.flatMap Tp.row
theorem jg:∀ ts:List Tp,(bH ts).length=ts.length*6
 | []=>rfl
 | r::rs=>by have:=jg rs;simp only [bH,Tp.row,List.flatMap_cons,Ul,List.length_cons,List.length_nil]at this ⊢;omega
theorem uZ:∀ (rs:List Tp) (i:Nat) (h:i<rs.length) (j:Nat),j<6->(bH rs)[i*6+j]?=(rs[i]).row[j]?
 | [],i,h,_,_=>by simp at h
 | r::rs,0,_,j,hj=>by
  simp only [bH,List.flatMap_cons,Nat.zero_mul,Uz,List.getElem_cons_zero];rw [List.getElem?_append_left (by simpa [Tp.row] using hj)]
 | r::rs,i+1,h,j,hj=>by
  have:=uZ rs i (by simpa using h) j hj;simp only [bH,List.flatMap_cons,List.getElem_cons_succ]at this ⊢;rw [List.getElem?_append_right (by simp [Tp.row];omega),<-this];congr 1;simp [Tp.row];omega
theorem Ag (ts:List Tp)(t:Tp):bH (ts++[t])=bH ts++t.row:=by simp [bH]
theorem Ah (t:Tp):∀ u∈t.row,u.oneCell'=true:=by
 intro u hu;simp [Tp.row]at hu;rcases hu with rfl|rfl|rfl|rfl|rfl|rfl <;> rfl
theorem CV (w:af)(t:Tp):∀ j u,t.row[j]?=some u->(w.alloc (.cells #[.string t.a,.string t.b,.string t.r,.string t.c,.string t.d,.string t.s] 46)).cell? ((⟨w.heap.size,0,none⟩:Addr).add j)=some u:=by
 intro j u hu;rw [show (⟨w.heap.size,0,none⟩:Addr).add j=⟨w.heap.size,0+j,none⟩ by simp [Addr.add];omega,Uz];have:=World.cell?_alloc_mark w #[.string t.a,.string t.b,.string t.r,.string t.c,.string t.d,.string t.s] 46 (0,0) j;rw [this];simpa [Tp.row] using hu
theorem OB {w:af}{base n:Nat}{v:Value}{ts:List Tp}(h:w.ownsRow base 46 6 v n (bH ts))(hn:n=ts.length):∃ ad cap,v=.slice ad ts.length cap/\Sl w ad ts/\∀ g,ad=some ⟨g,0,none⟩->base<=g/\g<w.heap.size/\gY w g:=by
 subst hn;have h2:=h;rcases h.2 with ⟨rfl,h0⟩|⟨g,cap,cur,rfl,hbg,hg,hnc,-⟩
 ·exact ⟨none,0,by rw [h0],.inl (Uu.1 h0),fun g e=>by cases e⟩
 have hlt:=h2.lt g rfl;refine ⟨some ⟨g,0,none⟩,cap,rfl,.inr ⟨g,0,rfl,hlt.2,fun i hi=>?_⟩,fun g' e=>?_⟩
 ·have hl:=jg ts;have key:∀ j,j<6->w.cell? ⟨g,0+i*6+j,none⟩=(ts[i]).row[j]?:=fun j hj=>by
   rw [h2.cellAt (0+i*6+j) (by omega),<-uZ ts i hi j hj,Uz]
  exact ⟨key 0 (by omega),key 1 (by omega),key 2 (by omega),key 3 (by omega),key 4 (by omega),key 5 (by omega)⟩
 injection e with e;injection e with e1 e2;subst e1;exact ⟨hlt.1,hlt.2,fun y=>h2.frozenAt y⟩
def Tp.text (t:Tp):List UInt8:=(aY t.a t.b t.r t.c t.d t.s).toList
theorem tQ {x y:Tp}(hx:x.ok=true)(hy:y.ok=true):x.ahead y=Op.bytesLess x.text y.text:=tN hx hy
theorem Gb {x y:Tp}(h:x.ahead y=true):x.ok=true/\y.ok=true:=by
 unfold Tp.ahead fT at h;simp only [Ug]at h;exact ⟨h.1.1,h.1.2⟩
theorem Gc {x y z:Tp}(h:x.ahead y=true)(k:y.ahead z=true):x.ahead z=true:=by
 obtain ⟨hx,hy⟩:=Gb h;obtain ⟨-,hz⟩:=Gb k;rw [tQ hx hy]at h;rw [tQ hy hz]at k;rw [tQ hx hz];exact Af _ _ _ h k
def Up (l:List Tp):Prop:=l.Pairwise fun x y=>x.ahead y=true
theorem RV {ts:List Tp}(h:dL ts=true):Up ts/\(∀ t∈ts,t.ok=true)/\ts.length<=40:=by
 unfold dL at h;simp only [Ug,Um]at h;obtain ⟨hl,hu⟩:=h;have hat:∀ i,i<ts.length->uX ts i=true:=fun i hi=>by
  unfold tO at hu;exact Un.1 hu i (List.mem_range.2 hi)
 have hok:∀ i (hi:i<ts.length),ts[i].ok=true:=fun i hi=>by
  have:=hat i hi;cases i with
  | zero=>rw [wM hi]at this;exact this
  | succ j=>rw [rF hi]at this;simp only [Ug]at this;exact this.1
 have hnx:∀ i (hi:i+1<ts.length),ts[i].ahead ts[i+1]=true:=fun i hi=>by
  have:=hat (i+1) hi;rw [rF hi]at this;simp only [Ug]at this;exact this.2
 refine ⟨List.pairwise_iff_getElem.2 fun i j hi hj hij=>?_,fun t ht=>?_,hl⟩
 ·obtain ⟨d,rfl⟩:∃ d,j=i+1+d:=⟨j-(i+1),by omega⟩
  induction d with
  | zero=>exact hnx i hj
  | succ d ih=>exact Gc (ih (by omega) (by omega)) (hnx (i+1+d) (by omega))
 obtain ⟨i,hi,rfl⟩:=List.mem_iff_getElem.1 ht;exact hok i hi
theorem LA {ts:List Tp}(h:dL ts=true):ts.length<=40:=(RV h).2.2
def jL:List Tp->Tp->List Tp
 | [],t=>[t]
 | x::xs,t=>if x.ahead t then x::jL xs t else t::x::xs
theorem OC (ts:List Tp)(t y:Tp):y∈jL ts t ↔ y=t\/y∈ts:=by
 induction ts with
 | nil=>simp [jL]
 | cons x xs ih =>
  unfold jL;split
  ·simp only [List.mem_cons,ih];constructor
   ·rintro (h|h|h)
    ·exact .inr (.inl h)
    ·exact .inl h
    exact .inr (.inr h)
   rintro (h|h|h)
   ·exact .inr (.inl h)
   ·exact .inl h
   exact .inr (.inr h)
  simp
theorem Kt (ts:List Tp)(t:Tp)(k:Nat)(hk:k<=ts.length)(h1:∀ i (h:i<ts.length),i<k->ts[i].ahead t=true)(h2:∀ h:k<ts.length,ts[k].ahead t=false):jL ts t=ts.take k++t::ts.drop k:=by
 induction ts generalizing k with
 | nil=>simp [jL]
 | cons x xs ih =>
  cases k with
  | zero =>
   have:=h2 (by simp);simp only [List.getElem_cons_zero]at this;simp [jL,this]
  | succ k =>
   have hx:=h1 0 (by simp) (by omega);simp only [List.getElem_cons_zero]at hx;have:=ih k (by simpa using hk) (fun i hi hik=>by have:=h1 (i+1) (by simpa using hi) (by omega);simpa using this) (fun h=>by have:=h2 (by simpa using h);simpa using this);simp [jL,hx,this]
theorem tT {w:af}{b off:Nat}{ts:List Tp}(h:kK w b off ts):∀ j u,(bH ts)[j]?=some u->w.cell? ((⟨b,off,none⟩:Addr).add j)=some u:=by
 intro j u hu;have hl:=jg ts;have hj:j<ts.length*6:=by
  rcases Nat.lt_or_ge j (bH ts).length with h|h
  ·omega
  rw [List.getElem?_eq_none h]at hu;cases hu
 have hi:j / 6<ts.length:=by omega
 have hr:j % 6<6:=Nat.mod_lt _ (by omega);have e:j=j / 6*6+j % 6:=by omega
 rw [e,uZ ts _ hi _ hr]at hu;rw [show ((⟨b,off,none⟩:Addr).add j)=⟨b,off+j / 6*6+j % 6,none⟩ by rw [show (⟨b,off,none⟩:Addr).add j=⟨b,off+j,none⟩ by simp [Addr.add]];congr 1;omega];obtain ⟨c0,c1,c2,c3,c4,c5⟩:=h (j / 6) hi;have h6:j % 6=0\/j % 6=1\/j % 6=2\/j % 6=3\/j % 6=4\/j % 6=5:=by omega
 rcases h6 with e6|e6|e6|e6|e6|e6 <;> rw [e6]at hu ⊢ <;> simp only [Tp.row,List.getElem?_cons_zero,List.getElem?_cons_succ]at hu <;> rw [<-hu] <;> assumption
theorem CW {w:af}{b off:Nat}{ts:List Tp}(h:kK w b off ts)(k:Nat):kK w b off (ts.take k):=fun i hi=>by
 have:=h i (by simp at hi;omega);simpa using this
theorem LB {w:af}{b off:Nat}{ts:List Tp}(h:kK w b off ts)(k:Nat):kK w b (off+k*6) (ts.drop k):=fun i hi=>by
 have:=h (k+i) (by simp at hi;omega);simp only [List.getElem_drop];rw [show off+k*6+i*6=off+(k+i)*6 by omega];exact this
theorem rG (ts:List Tp):∀ u∈bH ts,u.oneCell'=true:=by
 intro u hu;unfold bH at hu;obtain ⟨t,-,h⟩:=Ut.1 hu;exact Ah t u h
theorem ve (xs ys:List Tp):bH (xs++ys)=bH xs++bH ys:=by simp [bH]
def uj (w:World)(g:Nat)(t:Tp):Prop:=w.cell? ⟨g,0,none⟩=some (.string t.a)/\w.cell? ⟨g,1,none⟩=some (.string t.b)/\w.cell? ⟨g,2,none⟩=some (.string t.r)/\w.cell? ⟨g,3,none⟩=some (.string t.c)/\w.cell? ⟨g,4,none⟩=some (.string t.d)/\w.cell? ⟨g,5,none⟩=some (.string t.s)/\g<w.heap.size
theorem uj.below {w w':af}{g:Nat}{t:Tp}(h:uj w g t)(hb:ag w w'):uj w' g t :=
 ⟨mK hb h.2.2.2.2.2.2 h.1,mK hb h.2.2.2.2.2.2 h.2.1,mK hb h.2.2.2.2.2.2 h.2.2.1,mK hb h.2.2.2.2.2.2 h.2.2.2.1,mK hb h.2.2.2.2.2.2 h.2.2.2.2.1,mK hb h.2.2.2.2.2.2 h.2.2.2.2.2.1,Uc h.2.2.2.2.2.2 hb.size⟩
theorem Ep (w:af)(t:Tp)(T:TypeId):uj (w.alloc (.cells #[.string t.a,.string t.b,.string t.r,.string t.c,.string t.d,.string t.s] T)) w.heap.size t:=by
 refine ⟨?_,?_,?_,?_,?_,?_,?_⟩ <;> simp
theorem uj.grown {w w':af}{g:Nat}{t:Tp}{row:Option Nat}(h:uj w g t)(hg:w.grownBy w' row)(hne:some g≠row):uj w' g t :=
 ⟨hg.cell h.1 hne,hg.cell h.2.1 hne,hg.cell h.2.2.1 hne,hg.cell h.2.2.2.1 hne,hg.cell h.2.2.2.2.1 hne,hg.cell h.2.2.2.2.2.1 hne,Uc h.2.2.2.2.2.2 hg.size⟩
theorem pz {w w':af}{b off:Nat}{ts:List Tp}{row:Option Nat}(h:kK w b off ts)(hg:w.grownBy w' row)(_hb:b<w.heap.size)(hne:some b≠row):kK w' b off ts:=fun i hi=>by
 obtain ⟨c0,c1,c2,c3,c4,c5⟩:=h i hi;exact ⟨hg.cell c0 hne,hg.cell c1 hne,hg.cell c2 hne,hg.cell c3 hne,hg.cell c4 hne,hg.cell c5 hne⟩
theorem LC {ts:List Tp}{k:Nat}(h:ts.length<=k)(w:af)(ad:Addr):∀ j u,(bH (ts.drop k))[j]?=some u->w.cell? (ad.add j)=some u:=fun j u hu=>by
 rw [List.drop_of_length_le h]at hu;simp [bH]at hu
theorem fD {W:af}{base base':Nat}{e:TypeId}{size:Nat}{v:Value}{k:Nat}{xs:List Value}(h:W.ownsRow base e size v k xs)(hb:base'<=base):W.ownsRow base' e size v k xs:=by
 refine ⟨h.1,?_⟩;rcases h.2 with hn|⟨g,cap,cur,hv,hbg,rest⟩
 ·exact .inl hn
 exact .inr ⟨g,cap,cur,hv,Uk hb hbg,rest⟩
theorem dw {p:Prop}(h:p):Hid p:=h
theorem OD {w:af}{g:Nat}{t:Tp}(h0:w.cell? ⟨g,0,none⟩=some (.string t.a))(h1:w.cell? ⟨g,1,none⟩=some (.string t.b))(h2:w.cell? ⟨g,2,none⟩=some (.string t.r))(h3:w.cell? ⟨g,3,none⟩=some (.string t.c))(h4:w.cell? ⟨g,4,none⟩=some (.string t.d))(h5:w.cell? ⟨g,5,none⟩=some (.string t.s))(hl:g<w.heap.size):uj w g t:=⟨h0,h1,h2,h3,h4,h5,hl⟩
theorem Ku {w W w':af}{b n o:Nat}{x0 x1 x2 x3 x4 x5 y0 y1 y2 y3 y4 y5:Value}(h:W.cell? ⟨b,o,none⟩=some x0/\W.cell? ⟨b,o+1,none⟩=some x1/\W.cell? ⟨b,o+2,none⟩=some x2/\W.cell? ⟨b,o+3,none⟩=some x3/\W.cell? ⟨b,o+4,none⟩=some x4/\W.cell? ⟨b,o+5,none⟩=some x5/\W.cell? ⟨n,0,none⟩=some y0/\W.cell? ⟨n,1,none⟩=some y1/\W.cell? ⟨n,2,none⟩=some y2/\W.cell? ⟨n,3,none⟩=some y3/\W.cell? ⟨n,4,none⟩=some y4/\W.cell? ⟨n,5,none⟩=some y5/\b<W.heap.size/\n<W.heap.size/\Below n w W)(hb:ag W w') :
  w'.cell? ⟨b,o,none⟩=some x0/\w'.cell? ⟨b,o+1,none⟩=some x1/\w'.cell? ⟨b,o+2,none⟩=some x2/\w'.cell? ⟨b,o+3,none⟩=some x3/\w'.cell? ⟨b,o+4,none⟩=some x4/\w'.cell? ⟨b,o+5,none⟩=some x5/\w'.cell? ⟨n,0,none⟩=some y0/\w'.cell? ⟨n,1,none⟩=some y1/\w'.cell? ⟨n,2,none⟩=some y2/\w'.cell? ⟨n,3,none⟩=some y3/\w'.cell? ⟨n,4,none⟩=some y4/\w'.cell? ⟨n,5,none⟩=some y5/\b<w'.heap.size/\n<w'.heap.size/\Below n w w':=by
 obtain ⟨h0,h1,h2,h3,h4,h5,g0,g1,g2,g3,g4,g5,hB,hN,hw⟩:=h;exact ⟨mK hb hB h0,mK hb hB h1,mK hb hB h2,mK hb hB h3,mK hb hB h4,mK hb hB h5,mK hb hN g0,mK hb hN g1,mK hb hN g2,mK hb hN g3,mK hb hN g4,mK hb hN g5,Uc hB hb.size,Uc hN hb.size,hw.trans (hb.mono (Nat.le_of_lt hN))⟩
theorem bC {B:Nat}{w w':af}(hB:Below B w w'){n o:Nat}{v:Value}(hn:n<B)(h:w.cell? ⟨n,o,none⟩=some v):w'.cell? ⟨n,o,none⟩=some v:=(hB.cell (p:=⟨n,o,none⟩) hn).trans h
theorem aF {p:Prop}(h:p):Hid p:=h
theorem df {w w':af}{base:Nat}{e:TypeId}{size:Nat}{v:Value}{n:Nat}{xs:List Value}(h:w.ownsRow base e size v n xs)(hb:ag w w'):w'.ownsRow base e size v n xs:=by
 have hl:=fun g hg=>(h.lt g hg).2;refine ⟨h.1,?_⟩;rcases h.2 with h0|⟨g,cap,cur,rfl,h1,h2,h3⟩
 ·exact .inl h0
 exact .inr ⟨g,cap,cur,rfl,h1,(hb.block g (hl g rfl)).trans h2,h3⟩
end Go.Proofs.YtajkkeikihhejaaGreat
