/- Contracts of the laws' own helpers on objects: the count of what is read, and the copy into the program's type. -/
import Derived.Test.YtcgdckphpjfmhaaGreatDoorSq
import Derived.Test.YtcgdckphpjfmhaaGreatDoorJ7
import Derived.Test.YtcgdckphpjfmhaaGreatDoorJ3
import Derived.Sort.Statements
import Derived.Test.YtcgdckphpjfmhaaGreatDoorJ4
import Derived.Test.YtcgdckphpjfmhaaGreatDoorJ5
open Go.Proofs.Tryz
set_option maxHeartbeats 80000000
namespace Go.Proofs.YtcgdckphpjfmhaaGreatDoor
open ChangeShapes WideShapes ChangeAt RowKit
open Pl
structure Tp where
 a:ByteArray
 b:ByteArray
 r:ByteArray
 c:ByteArray
 d:ByteArray
 s:ByteArray
abbrev Q05:=List Tp
def Tp.fits(t:Tp):Prop:=t.a.size<=maxLen/\t.b.size<=maxLen/\t.r.size<=maxLen/\t.c.size<=maxLen/\t.d.size<=maxLen/\t.s.size<=maxLen
def TI(w:World)(b off:Nat)(t:Tp):Prop :=
 w.cell? ⟨b,off,none⟩=some (.string t.a)/\w.cell? ⟨b,off+1,none⟩=some (.string t.b)/\w.cell? ⟨b,off+2,none⟩=some (.string t.r) /\
 w.cell? ⟨b,off+3,none⟩=some (.string t.c)/\w.cell? ⟨b,off+4,none⟩=some (.string t.d)/\w.cell? ⟨b,off+5,none⟩=some (.string t.s)
def dM(w:World)(b off:Nat)(ts:Q05):Prop:=∀(i:Nat) (h:i<ts.length),TI w b (off+i*6) ts[i]
def Sl(w:World)(ad:Q02)(ts:Q05):Prop:=ts=[] \/ ∃b off,ad=some ⟨b,off,none⟩/\b<w.heap.size/\dM w b off ts
theorem TI.same{w w':ae}{b off:Nat}{t:Tp}(h:TI w b off t)(hc:∀o,w'.cell? ⟨b,o,none⟩=w.cell? ⟨b,o,none⟩):TI w' b off t:=by
 obtain⟨h0,h1,h2,h3,h4,h5⟩:=h;exact⟨(hc _).trans h0,(hc _).trans h1,(hc _).trans h2,(hc _).trans h3,(hc _).trans h4,(hc _).trans h5⟩
theorem dM.below{w w':ae}{b off B:Nat}{ts:Q05}(h:dM w b off ts)(hB:Below B w w')(hb:b<B):dM w' b off ts :=
 fun i hi=>(h i hi).same fun o=>hB.cell (p:=⟨b,o,none⟩) hb
theorem Sl.below{w w':ae}{ad:Q02}{ts:Q05}(h:Sl w ad ts)(hB:af w w'):Sl w' ad ts:=by
 rcases h with h|⟨b,off,e,hb,hr⟩
 ·exact .inl h
 exact .inr ⟨b,off,e,VY hb hB.size,hr.below hB hb⟩
def Ba(w:World)(g o:Nat)(t:Tp):World :=
 (((((w.setCell ⟨g,o,none⟩ (.string t.a)).setCell ⟨g,o+1,none⟩ (.string t.b)).setCell ⟨g,o+2,none⟩ (.string t.r)).setCell ⟨g,o+3,none⟩ (.string t.c)).setCell ⟨g,o+4,none⟩ (.string t.d)).setCell ⟨g,o+5,none⟩ (.string t.s)
theorem lu{w:ae}{g i j:Nat}{v:Value}(h:i≠j):(w.setCell ⟨g,i,none⟩ v).cell? ⟨g,j,none⟩=w.cell? ⟨g,j,none⟩:=by
 apply World.cell?_setCell_other;intro e;exact h (congrArg Addr.off e)
theorem MR{w:ae}{a:Addr}{v u:Value}(h:w.cell? a=some u):(w.setCell a v).cell? a=some v:=by
 apply World.cell?_setCell_same;exact h
theorem GM(w:ae)(g o:Nat)(t:Tp)(j:Nat)(h:j<o\/o+6<=j):(Ba w g o t).cell? ⟨g,j,none⟩=w.cell? ⟨g,j,none⟩:=by
 unfold Ba;rw[lu (by omega),lu (by omega),lu (by omega),lu (by omega),lu (by omega),lu (by omega)]
theorem Lu{w:ae}{g o:Nat}(t:Tp)(h:∀j,j<6->(w.cell? ⟨g,o+j,none⟩).isSome=true):TI (Ba w g o t) g o t:=by
 have e:∀(W:World) (i j:Nat) (v:Value),(W.cell? ⟨g,o+j,none⟩).isSome=true->((W.setCell ⟨g,o+i,none⟩ v).cell? ⟨g,o+j,none⟩).isSome=true:=by
  intro W i j v hW;by_cases hij:i=j
  ·subst hij;obtain⟨u,hu⟩:=Option.isSome_iff_exists.mp hW;rw[MR hu];rfl
  rw[lu (by omega)];exact hW
 have same:∀(W:World) (j:Nat) (v:Value),(W.cell? ⟨g,o+j,none⟩).isSome=true->(W.setCell ⟨g,o+j,none⟩ v).cell? ⟨g,o+j,none⟩=some v:=by
  intro W j v hW;obtain⟨u,hu⟩:=Option.isSome_iff_exists.mp hW;exact MR hu
 have h0:=h 0 (by omega);have h1:=h 1 (by omega);have h2:=h 2 (by omega);have h3:=h 3 (by omega);have h4:=h 4 (by omega);have h5:=h 5 (by omega);unfold Ba TI;refine⟨?_,?_,?_,?_,?_,?_⟩
 ·rw[lu (by omega),lu (by omega),lu (by omega),lu (by omega),lu (by omega)];exact same _ 0 _ h0
 ·rw[lu (by omega),lu (by omega),lu (by omega),lu (by omega)];exact same _ 1 _ (e _ 0 1 _ h1)
 ·rw[lu (by omega),lu (by omega),lu (by omega)];exact same _ 2 _ (e _ 1 2 _ (e _ 0 2 _ h2))
 ·rw[lu (by omega),lu (by omega)];exact same _ 3 _ (e _ 2 3 _ (e _ 1 3 _ (e _ 0 3 _ h3)))
 ·rw[lu (by omega)];exact same _ 4 _ (e _ 3 4 _ (e _ 2 4 _ (e _ 1 4 _ (e _ 0 4 _ h4))))
 exact same _ 5 _ (e _ 4 5 _ (e _ 3 5 _ (e _ 2 5 _ (e _ 1 5 _ (e _ 0 5 _ h5)))))
theorem GN(w:ae)(g o:Nat)(t:Tp)(x:Addr):(Ba w g o t).frozen? x=w.frozen? x:=by simp[Ba]
theorem JL{B:Nat}{w0 w:ae}{g o:Nat}{t:Tp}(h:Below B w0 w)(hg:B<=g):Below B w0 (Ba w g o t):=by
 unfold Ba;exact(((((h.setCell (by exact hg) _).setCell (by exact hg) _).setCell (by exact hg) _).setCell (by exact hg) _).setCell (by exact hg) _).setCell (by exact hg) _
theorem MS(w:ae)(g o:Nat)(t:Tp):(Ba w g o t).heap.size=w.heap.size:=by simp[Ba]
structure Filling(w wr:World)(g:Nat)(ts:Q05)(k:Nat):Prop where
 below:af w wr
 ge:w.heap.size<=g
 lt:g<wr.heap.size
 done:∀(i:Nat) (h:i<ts.length),i<k->TI wr g (0+i*6) ts[i]
 there:∀j,j<ts.length*6->(wr.cell? ⟨g,j,none⟩).isSome=true
 free:∀j,wr.frozen? ⟨g,j,none⟩=false
theorem Filling.later{w wr w1:ae}{g:Nat}{ts:Q05}{k:Nat}(h:Filling w wr g ts k)(hb:af wr w1):Filling w w1 g ts k where
 below:=h.below.trans (hb.mono h.below.size)
 ge:=h.ge
 lt:=VY h.lt hb.size
 done i hi hk:=(h.done i hi hk).same fun o=>hb.cell (p:=⟨g,o,none⟩) h.lt
 there j hj:=by rw[hb.cell (p:=⟨g,j,none⟩) h.lt];exact h.there j hj
 free j:=by rw[hb.frozen (p:=⟨g,j,none⟩) h.lt];exact h.free j
theorem Filling.put{w wr:ae}{g:Nat}{ts:Q05}{k:Nat}(h:Filling w wr g ts k)(hk:k<ts.length):Filling w (Ba wr g (k*6) ts[k]) g ts (k+1) where
 below:=JL h.below h.ge
 ge:=h.ge
 lt:=by rw[MS];exact h.lt
 done i hi hik:=by
  by_cases e:i=k
  ·subst e;rw[WB];exact Lu _ (fun j hj=>h.there _ (by omega))
  obtain⟨a0,a1,a2,a3,a4,a5⟩:=h.done i hi (by omega);refine⟨?_,?_,?_,?_,?_,?_⟩<;>(rw[GM _ _ _ _ _ (by omega)];assumption)
 there j hj:=by
  by_cases hin:j<k*6\/k*6+6<=j
  ·rw[GM _ _ _ _ _ hin];exact h.there j hj
  obtain⟨a0,a1,a2,a3,a4,a5⟩:=Lu (w:=wr) (g:=g) (o:=k*6) ts[k] (fun j hj=>h.there _ (by omega));have hj6:j=k*6\/j=k*6+1\/j=k*6+2\/j=k*6+3\/j=k*6+4\/j=k*6+5:=by omega
  rcases hj6 with e|e|e|e|e|e
  ·rw[e,a0];rfl
  ·rw[e,a1];rfl
  ·rw[e,a2];rfl
  ·rw[e,a3];rfl
  ·rw[e,a4];rfl
  rw[e,a5];rfl
 free j:=by rw[GN];exact h.free j
theorem Filling.row{w w':ae}{g:Nat}{ts:Q05}(h:Filling w w' g ts ts.length):dM w' g 0 ts:=fun i hi=>h.done i hi hi
theorem Filling.sl{w w':ae}{g:Nat}{ts:Q05}(h:Filling w w' g ts ts.length):Sl w' (some ⟨g,0,none⟩) ts:=.inr ⟨g,0,rfl,h.lt,h.row⟩
end Go.Proofs.YtcgdckphpjfmhaaGreatDoor
namespace Go.Proofs.YtcgdckphpjfmhaaGreatDoor
open Go.Sort
open ChangeShapes WideShapes ChangeAt RowKit
open Pl
attribute [local go_sem ↓] Go.wp_at_zero Go.wp_at_succ
def Tp.ok(t:Tp):Bool:=bz t.a t.b t.r t.c t.d t.s
def Tp.ahead(t u:Tp):Bool:=fQ t.a t.b t.r t.c t.d t.s u.a u.b u.r u.c u.d u.s
def xx(ts:Q05)(i:Nat):Bool:=match ts[i]? with
 | none=>true
 | some t=>t.ok&&(match i with
  | 0=>true
  | j+1=>match ts[j]? with
   | none=>true
   | some u=>u.ahead t)
def vS(ts:Q05)(k:Nat):Bool:=(List.range k).all (xx ts)
def dG(ts:Q05):Bool:=decide (ts.length<=40)&&vS ts ts.length
theorem sG(ts:Q05)(k:Nat):vS ts (k+1)=(vS ts k&&xx ts k):=by simp[vS,List.range_succ]
theorem vV{ts:Q05}{k:Nat}(hk:k<ts.length)(h:xx ts k=false):dG ts=false:=by
 have:vS ts ts.length=false:=by
  unfold vS;rw[List.all_eq_false];exact⟨k,by simpa using hk,by simp[h]⟩
 simp[dG,this]
theorem xy{ts:Q05}(h:0<ts.length):xx ts 0=ts[0].ok:=by simp[xx,Wm h]
theorem sH{ts:Q05}{j:Nat}(h:j+1<ts.length):xx ts (j+1)=(ts[j+1].ok&&ts[j].ahead ts[j+1]):=by
 have h':j<ts.length:=by omega
 simp[xx,Wm h,Wm h']
theorem Lv{ts:Q05}{k:Nat}(h:k<ts.length)(hn:ts[k].ok=false):xx ts k=false:=by
 simp[xx,Wm h,hn]
theorem xz(b off cap:Nat)(ts:Q05)(w:ae)(hlen:ts.length<=maxLen)(hr:dM w b off ts)(hb:b<w.heap.size)(hf:∀t∈ts,t.fits):
    Calls prog 109 #[.slice (some ⟨b,off,none⟩) ts.length cap] w fun e w'=>e=.returned (.bool (dG ts))/\af w w':=by
  unfold maxLen at hlen;by_cases hbig:40<ts.length
  · have HT:Hid (dG ts=false):=by show _=_;simp[dG];omega
    go_enter func109,ntmps109;go_wp2;go_ret;exact⟨ah HT.out.symm,V5 _ _⟩
  · go_enter func109,ntmps109;go_wp2;go_loopw[3] (fun i wr=>∃k:Nat,k<=ts.length/\i=.int .i64 k/\Hid (vS ts k=true)/\af w wr) (fun i _=>ts.length-(intOf i).toNat);case atStart=>exact⟨0,Wd _,rfl,rfl,V5 _ _⟩
    obtain⟨k,hk,rfl,hu,hB⟩:=hrel;by_cases hlt:k<ts.length
    · have HRB:=ol (hr.below hB hb);have XC:=ol hf;obtain⟨t0,t1,t2,t3,t4,t5⟩:=HRB.out k hlt;have hk1:=bC k;have hk2:(k:Int)<(ts.length:Int):=by omega
      clear hr hf;have c0:=cell_regrown t0;have c1:=cell_regrown t1;have c2:=cell_regrown t2;have c3:=cell_regrown t3;have c4:=cell_regrown t4;have c5:=cell_regrown t5;have Yb:Hid (∀d os,af w (grow (redrawn wr d) os)):=fun d os=>hB.trans ((below_regrown wr d os).mono hB.size);clear t0 t1 t2 t3 t4 t5;go_wp2_with fail;have ZN:Hid (∀d os,Calls prog 111 #[.agg #[.string ts[k].a,.string ts[k].b,.string ts[k].r,.string ts[k].c,.string ts[k].d,.string ts[k].s]] (grow (redrawn wr d) os) fun e w''=>e=.returned (.bool ts[k].ok)/\∃p:Regrown,w''=grow (redrawn wr p.d) p.os):=by
        obtain⟨f0,f1,f2,f3,f4,f5⟩:=XC.out ts[k] (VZ hlt);exact bq fun W' _=>dD _ _ _ _ _ _ _ f0 f1 f2 f3 f4 f5
      cases hok:ts[k].ok;case false=>
        have HT:Hid (dG ts=false):=vV hlt (Lv hlt hok);rw[hok]at ZN;clear hok;refine wp_region_quiet_below (by kernel_rfl) (by kernel_rfl) ?_
        repeat(go_big_quiet_step (exact ZN.out _ _))
        refine wpQuiet_nil ?_;rintro _ ⟨⟨dq,osq⟩,rfl⟩;go_wp2;go_ret;exact⟨ah HT.out.symm,Yb.out dq osq⟩
      rw[hok]at ZN;by_cases hz:k=0
      · have HU:Hid (vS ts (k+1)=true):=by show _=_;rw[sG,hu.out];subst hz;rw[xy hlt,hok];rfl
        have hk8:decide ((0:Int)<(k:Int))=false:=by simp;omega
        have hk9:decide (0<k)=false:=by simp;omega
        clear hok hz;refine wp_region_quiet_below (by kernel_rfl) (by kernel_rfl) ?_
        repeat(go_big_quiet_step (exact ZN.out _ _))
        refine wpQuiet_nil ?_;rintro _ ⟨⟨dq,osq⟩,rfl⟩;go_wp2;go_roundw;case rel=>exact⟨k+1,by omega,by go_num,HU,Yb.out dq osq⟩
        simp[intOf];omega
      · obtain⟨m,hm⟩:∃m:Nat,k=m+1:=⟨k-1,by omega⟩;have XQ:m<ts.length:=by omega
        obtain⟨q0,q1,q2,q3,q4,q5⟩:=HRB.out m XQ;replace q0:=cell_regrown q0;replace q1:=cell_regrown q1;replace q2:=cell_regrown q2;replace q3:=cell_regrown q3;replace q4:=cell_regrown q4;replace q5:=cell_regrown q5;have hkm:(k:Int)-1=(m:Int):=by omega
        have hm1:=bC m;have hm2:(m:Int)<(ts.length:Int):=by omega
        have hpos:(0:Int)<(k:Int):=by omega
        have hposN:0<k:=by omega
        have hwm:IntKind.i64.wrap (m:Int)=(m:Int):=by rw[IntKind.wrap_i64];omega
        have HA:Hid (xx ts k=ts[m].ahead ts[k]):=by show _=_;subst hm;rw[sH hlt,hok];rfl
        have ZY:Hid (∀d os,Calls prog 164 #[.agg #[.string ts[m].a,.string ts[m].b,.string ts[m].r,.string ts[m].c,.string ts[m].d,.string ts[m].s],.agg #[.string ts[k].a,.string ts[k].b,.string ts[k].r,.string ts[k].c,.string ts[k].d,.string ts[k].s]] (grow (redrawn wr d) os) fun e w''=>e=.returned (.bool (ts[m].ahead ts[k]))/\∃p:Regrown,w''=grow (redrawn wr p.d) p.os):=by
          obtain⟨f0,f1,f2,f3,f4,f5⟩:=XC.out ts[k] (VZ hlt);obtain⟨g0,g1,g2,g3,g4,g5⟩:=XC.out ts[m] (VZ XQ);exact bq fun W' _=>oo _ _ _ _ _ _ _ _ _ _ _ _ _ g0 g1 g2 g3 g4 g5 f0 f1 f2 f3 f4 f5
        clear hm hz hok;cases ha:ts[m].ahead ts[k];case false=>
          have HT:Hid (dG ts=false):=vV hlt (by rw[HA.out,ha]);rw[ha]at ZY;clear ha HA;refine wp_region_quiet_below (by kernel_rfl) (by kernel_rfl) ?_
          repeat(go_big_quiet_step (first|exact ZN.out _ _|exact ZY.out _ _))
          refine wpQuiet_nil ?_;rintro _ ⟨⟨dq,osq⟩,rfl⟩;go_wp2;go_ret;exact⟨ah HT.out.symm,Yb.out dq osq⟩
        have HU:Hid (vS ts (k+1)=true):=by show _=_;rw[sG,hu.out,HA.out,ha];rfl
        rw[ha]at ZY;clear ha HA;refine wp_region_quiet_below (by kernel_rfl) (by kernel_rfl) ?_
        repeat(go_big_quiet_step (first|exact ZN.out _ _|exact ZY.out _ _))
        refine wpQuiet_nil ?_;rintro _ ⟨⟨dq,osq⟩,rfl⟩;go_wp2;go_roundw;case rel=>exact⟨k+1,by omega,by go_num,HU,Yb.out dq osq⟩
        simp[intOf];omega
    · go_wp2;go_ret;exact⟨ah (by have e:k=ts.length:=(by omega);subst e;simp[dG,hu.out];omega),hB⟩
end Go.Proofs.YtcgdckphpjfmhaaGreatDoor
namespace Go.Proofs.YtcgdckphpjfmhaaGreatDoor
open Pl
theorem yw:∀x:List UInt8,Op.bytesLess x x=false
 | []=>rfl
 | a::x=>by simp[Op.bytesLess,yw x]
theorem Bb:∀x y z:List UInt8,Op.bytesLess x y=true->Op.bytesLess y z=true->Op.bytesLess x z=true
 | [],_,[],h,k=>by cases ‹List UInt8› <;> simp [Op.bytesLess] at h k
 | [],_,_::_,_,_=>rfl
 | _::_,[],_,h,_=>by simp[Op.bytesLess]at h
 | _::_,_::_,[],_,k=>by simp[Op.bytesLess]at k
 | a::x,b::y,c::z,h,k=>by
  simp only[Op.bytesLess,Bool.or_eq_true,V9,Wn,beq_iff_eq]at h k ⊢;rcases h with h|⟨h,h'⟩
  ·rcases k with k|⟨k,k'⟩
   ·exact .inl (UInt8.lt_trans h k)
   exact .inl (k ▸ h)
  rcases k with k|⟨k,k'⟩
  ·exact .inl (h ▸ k)
  exact .inr ⟨h.trans k,Bb x y z h' k'⟩
theorem Bc:∀x y:List UInt8,x≠y->Op.bytesLess x y=true\/Op.bytesLess y x=true
 | [],[],h=>absurd rfl h
 | [],_::_,_=>.inl rfl
 | _::_,[],_=>.inr rfl
 | a::x,b::y,h=>by
  simp only[Op.bytesLess,Bool.or_eq_true,V9,Wn,beq_iff_eq];by_cases e:a=b
  ·subst e;rcases Bc x y (fun e=>h (by rw[e])) with k|k
   ·exact .inl (.inr ⟨rfl,k⟩)
   exact .inr (.inr ⟨rfl,k⟩)
  rcases Nat.lt_or_gt_of_ne (fun k=>e (UInt8.toNat_inj.1 k)) with k|k
  ·exact .inl (.inl k)
  exact .inr (.inl k)
open ChangeAt ChangeShapes Maps RowKit WideShapes
def oq(x y:Tp):Bool:=x.a.toList==y.a.toList&&x.b.toList==y.b.toList&&x.r.toList==y.r.toList&&x.c.toList==y.c.toList&&x.d.toList==y.d.toList&&x.s.toList==y.s.toList
theorem jF{x y:ByteArray}(k:x.toList=y.toList):x=y:=by
 rw[Go.ByteArray.toList_eq,Go.ByteArray.toList_eq]at k;obtain⟨x⟩:=x;obtain⟨y⟩:=y;exact congrArg ByteArray.mk (Array.toList_inj.1 k)
theorem oO{x y:Tp}:oq x y=true↔x=y:=by
 unfold oq;simp only[V9,beq_iff_eq];constructor
 ·rintro⟨⟨⟨⟨⟨h0,h1⟩,h2⟩,h3⟩,h4⟩,h5⟩;obtain⟨xa,xb,xr,xc,xd,xs⟩:=x;obtain⟨ya,yb,yr,yc,yd,ys⟩:=y;simp only at h0 h1 h2 h3 h4 h5;rw[jF h0,jF h1,jF h2,jF h3,jF h4,jF h5]
 rintro rfl;simp
theorem Ff(x y:Tp){v:Bool}(h:oq x y=v)(w:ae):
  (binOp .eql 29 (.agg #[.string x.a,.string x.b,.string x.r,.string x.c,.string x.d,.string x.s]) (.agg #[.string y.a,.string y.b,.string y.r,.string y.c,.string y.d,.string y.s])).run prog w=.ok (.bool v) w:=by
 subst h;go_simp;unfold oq
 (repeat' split)<;>simp_all
theorem PO(x y:Tp){v:Bool}(h:(!oq x y)=v)(w:ae):
  (binOp .neq 29 (.agg #[.string x.a,.string x.b,.string x.r,.string x.c,.string x.d,.string x.s]) (.agg #[.string y.a,.string y.b,.string y.r,.string y.c,.string y.d,.string y.s])).run prog w=.ok (.bool v) w:=by
 subst h;go_simp;unfold oq
 (repeat' split)<;>simp_all
def iB(ts:Q05)(t:Tp):Bool:=ts.any fun x=>oq x t
theorem MU{ts:Q05}{t:Tp}{k:Nat}(h:k<ts.length):iB (ts.drop k) t=(oq ts[k] t || iB (ts.drop (k+1)) t):=by
 rw[WC h];rfl
def Tp.row(t:Tp):List Value:=[.string t.a,.string t.b,.string t.r,.string t.c,.string t.d,.string t.s]
def aF(ts:Q05):List Value:=ts.flatMap Tp.row
theorem fB:∀ts:List Tp,(aF ts).length=ts.length*6
 | []=>rfl
 | r::rs=>by have:=fB rs;simp only[aF,Tp.row,WF,Wi,WH,Xh]at this ⊢;omega
theorem rE:∀(rs:Q05) (i:Nat) (h:i<rs.length) (j:Nat),j<6->(aF rs)[i*6+j]?=(rs[i]).row[j]?
 | [],i,h,_,_=>by simp at h
 | r::rs,0,_,j,hj=>by
  simp only[aF,WF,Nat.zero_mul,WB,List.getElem_cons_zero];rw[Xa (by simpa[Tp.row] using hj)]
 | r::rs,i+1,h,j,hj=>by
  have:=rE rs i (by simpa using h) j hj;simp only[aF,WF,List.getElem_cons_succ]at this ⊢;rw[WY (by simp[Tp.row];omega),<-this];congr 1;simp[Tp.row];omega
theorem uJ(ts:Q05)(t:Tp):aF (ts++[t])=aF ts++t.row:=by simp[aF]
theorem vW(t:Tp):∀u∈t.row,u.oneCell'=true:=by
 intro u hu;simp[Tp.row]at hu;rcases hu with rfl|rfl|rfl|rfl|rfl|rfl<;>rfl
theorem xA(w:ae)(t:Tp):∀j u,t.row[j]?=some u->(w.alloc (.cells #[.string t.a,.string t.b,.string t.r,.string t.c,.string t.d,.string t.s] 29)).cell? ((⟨w.heap.size,0,none⟩:Addr).add j)=some u:=by
 intro j u hu;rw[show(⟨w.heap.size,0,none⟩:Addr).add j=⟨w.heap.size,0+j,none⟩ by simp[Addr.add];omega,WB];have:=World.cell?_alloc_mark w #[.string t.a,.string t.b,.string t.r,.string t.c,.string t.d,.string t.s] 29 (0,0) j;rw[this];simpa[Tp.row] using hu
theorem GQ{w:ae}{base n:Nat}{v:Value}{ts:Q05}(h:w.ownsRow base 29 6 v n (aF ts))(hn:n=ts.length):∃ad cap,v=.slice ad ts.length cap/\Sl w ad ts/\∀g,ad=some ⟨g,0,none⟩->base<=g/\g<w.heap.size/\jM w g:=by
 subst hn;have h2:=h;rcases h.2 with⟨rfl,h0⟩|⟨g,cap,cur,rfl,hbg,hg,hnc,-⟩
 ·exact⟨none,0,by rw[h0],.inl (Wu.1 h0),fun g e=>by cases e⟩
 have hlt:=h2.lt g rfl;refine⟨some ⟨g,0,none⟩,cap,rfl,.inr ⟨g,0,rfl,hlt.2,fun i hi=>?_⟩,fun g' e=>?_⟩
 ·have hl:=fB ts;have key:∀j,j<6->w.cell? ⟨g,0+i*6+j,none⟩=(ts[i]).row[j]?:=fun j hj=>by
   rw[h2.cellAt (0+i*6+j) (by omega),<-rE ts i hi j hj,WB]
  exact⟨key 0 (by omega),key 1 (by omega),key 2 (by omega),key 3 (by omega),key 4 (by omega),key 5 (by omega)⟩
 injection e with e;injection e with e1 e2;subst e1;exact⟨hlt.1,hlt.2,fun y=>h2.frozenAt y⟩
def eD(ts:Q05)(t:Tp):List Tp:=ts.filter fun x=>!oq x t
theorem JM{ts:Q05}{t:Tp}{k:Nat}(h:k<ts.length):eD (ts.take (k+1)) t=eD (ts.take k) t++(if oq ts[k] t then [] else [ts[k]]):=by
 rw[V8 h];unfold eD;rw[Xn];cases e:oq ts[k] t<;>simp[e]
theorem MV(ts:Q05)(t:Tp)(k:Nat):(eD (ts.take k) t).length<=k:=by
 unfold eD;exact Wh (List.length_filter_le _ _) (by simp;omega)
def Tp.text(t:Tp):List UInt8:=(aZ t.a t.b t.r t.c t.d t.s).toList
theorem PP{x y:Tp}(hx:x.ok=true)(hy:y.ok=true)(e:x.text=y.text):x=y:=by
 obtain⟨h1,h2,h3,h4,h5,h6⟩:=qL hx hy (jF e);obtain⟨xa,xb,xr,xc,xd,xs⟩:=x;obtain⟨ya,yb,yr,yc,yd,ys⟩:=y;simp only at h1 h2 h3 h4 h5 h6;rw[h1,h2,h3,h4,h5,h6]
theorem jY{x y:Tp}(hx:x.ok=true)(hy:y.ok=true):x.ahead y=Op.bytesLess x.text y.text:=uI hx hy
theorem Bd{x y:Tp}(h:x.ahead y=true):x.ok=true/\y.ok=true:=by
 unfold Tp.ahead fQ at h;simp only[V9]at h;exact⟨h.1.1,h.1.2⟩
theorem kU{x y z:Tp}(h:x.ahead y=true)(k:y.ahead z=true):x.ahead z=true:=by
 obtain⟨hx,hy⟩:=Bd h;obtain⟨-,hz⟩:=Bd k;rw[jY hx hy]at h;rw[jY hy hz]at k;rw[jY hx hz];exact Bb _ _ _ h k
theorem jG(x:Tp):x.ahead x=false:=by
 cases h:x.ahead x;case false=>rfl
 obtain⟨hx,-⟩:=Bd h;rw[jY hx hx,yw]at h;cases h
theorem GR{x y:Tp}(hx:x.ok=true)(hy:y.ok=true)(hne:x≠y):x.ahead y=true\/y.ahead x=true:=by
 rw[jY hx hy,jY hy hx];exact Bc _ _ fun e=>hne (PP hx hy e)
def Up(l:Q05):Prop:=l.Pairwise fun x y=>x.ahead y=true
theorem GU{ts:Q05}(h:dG ts=true):Up ts/\(∀t∈ts,t.ok=true)/\ts.length<=40:=by
 unfold dG at h;simp only[V9,Wn]at h;obtain⟨hl,hu⟩:=h;have hat:∀i,i<ts.length->xx ts i=true:=fun i hi=>by
  unfold vS at hu;exact Wq.1 hu i (List.mem_range.2 hi)
 have hok:∀i (hi:i<ts.length),ts[i].ok=true:=fun i hi=>by
  have:=hat i hi;cases i with
  | zero=>rw[xy hi]at this;exact this
  | succ j=>rw[sH hi]at this;simp only[V9]at this;exact this.1
 have hnx:∀i (hi:i+1<ts.length),ts[i].ahead ts[i+1]=true:=fun i hi=>by
  have:=hat (i+1) hi;rw[sH hi]at this;simp only[V9]at this;exact this.2
 refine⟨List.pairwise_iff_getElem.2 fun i j hi hj hij=>?_,fun t ht=>?_,hl⟩
 ·obtain⟨d,rfl⟩:∃d,j=i+1+d:=⟨j-(i+1),by omega⟩
  induction d with
  | zero=>exact hnx i hj
  | succ d ih=>exact kU (ih (by omega) (by omega)) (hnx (i+1+d) (by omega))
 obtain⟨i,hi,rfl⟩:=WN.1 ht;exact hok i hi
theorem MW{ts:Q05}(h:dG ts=true):ts.length<=40:=(GU h).2.2
theorem Uu{xs ys:Q05}(hx:Up xs)(hy:Up ys)(h:∀t,t∈xs↔t∈ys):xs=ys:=by
 have nd:∀{l:Q05},Up l->l.Nodup:=fun hl=>hl.imp fun {a b} hab e=>by subst e;rw[jG]at hab;cases hab
 exact List.Perm.eq_of_pairwise (le:=fun(a b:Tp)=>a.ahead b=true) (fun a b _ _ h1 h2=>by have:=kU h1 h2;rw[jG]at this;cases this) hx hy ((List.perm_ext_iff_of_nodup (nd hx) (nd hy)).2 h)
def ik:List Tp->Tp->List Tp
 | [],t=>[t]
 | x::xs,t=>if x.ahead t then x::ik xs t else t::x::xs
theorem vX(ts:Q05)(t y:Tp):y∈ik ts t↔y=t\/y∈ts:=by
 induction ts with
 | nil=>simp[ik]
 | cons x xs ih =>
  unfold ik;split
  ·simp only[Ws,ih];constructor
   ·rintro(h|h|h)
    ·exact .inr (.inl h)
    ·exact .inl h
    exact .inr (.inr h)
   rintro(h|h|h)
   ·exact .inr (.inl h)
   ·exact .inl h
   exact .inr (.inr h)
  simp
theorem R7{ts:Q05}{t:Tp}(hu:Up ts)(hok:∀x∈ts,x.ok=true)(ht:t.ok=true)(hn:t ∉ ts):Up (ik ts t):=by
 induction ts with
 | nil=>exact List.pairwise_singleton _ _
 | cons x xs ih =>
  obtain⟨h1,h2⟩:=List.pairwise_cons.1 hu;unfold ik;split
  ·rename_i hx;refine List.pairwise_cons.2 ⟨fun y hy=>?_,ih h2 (fun y hy=>hok y (WT _ hy)) (fun hm=>hn (WT _ hm))⟩;rcases (vX xs t y).1 hy with rfl|hy
   ·exact hx
   exact h1 y hy
  rename_i hx;have hne:x≠t:=fun e=>hn (by rw[e];exact Xf);have htx:t.ahead x=true:=by
   rcases GR (hok x Xf) ht hne with h|h
   ·exact absurd h hx
   exact h
  refine List.pairwise_cons.2 ⟨fun y hy=>?_,hu⟩;rcases Ws.1 hy with rfl|hy
  ·exact htx
  exact kU htx (h1 y hy)
theorem Fg(ts:Q05)(t:Tp)(k:Nat)(hk:k<=ts.length)(h1:∀i (h:i<ts.length),i<k->ts[i].ahead t=true)(h2:∀h:k<ts.length,ts[k].ahead t=false):ik ts t=ts.take k++t::ts.drop k:=by
 induction ts generalizing k with
 | nil=>simp[ik]
 | cons x xs ih =>
  cases k with
  | zero =>
   have:=h2 (by simp);simp only[List.getElem_cons_zero]at this;simp[ik,this]
  | succ k =>
   have hx:=h1 0 (by simp) (by omega);simp only[List.getElem_cons_zero]at hx;have:=ih k (by simpa using hk) (fun i hi hik=>by have:=h1 (i+1) (by simpa using hi) (by omega);simpa using this) (fun h=>by have:=h2 (by simpa using h);simpa using this);simp[ik,hx,this]
theorem xB(ts:Q05)(t y:Tp):y∈eD ts t↔y∈ts/\y≠t:=by
 unfold eD;rw[WW];have:((!oq y t)=true)↔y≠t:=by
  cases e:oq y t
  ·simp only[Bool.not_false,true_iff];intro h;rw[oO.2 h]at e;cases e
  simp only[Bool.not_true,Bool.false_eq_true,false_iff,ne_eq];intro h;exact h (oO.1 e)
 rw[this]
theorem GV{ts:Q05}(t:Tp)(hu:Up ts):Up (eD ts t):=List.Pairwise.filter _ hu
theorem GX{ts:Q05}{t:Tp}:iB ts t=true↔t∈ts:=by
 unfold iB;rw[Xe];constructor
 ·rintro⟨x,hx,e⟩;rw[<-oO.1 e];exact hx
 intro h;exact⟨t,h,oO.2 rfl⟩
theorem jZ{w:ae}{b off:Nat}{ts:Q05}(h:dM w b off ts):∀j u,(aF ts)[j]?=some u->w.cell? ((⟨b,off,none⟩:Addr).add j)=some u:=by
 intro j u hu;have hl:=fB ts;have hj:j<ts.length*6:=by
  rcases Nat.lt_or_ge j (aF ts).length with h|h
  ·omega
  rw[List.getElem?_eq_none h]at hu;cases hu
 have hi:j / 6<ts.length:=by omega
 have hr:j%6<6:=Nat.mod_lt _ (by omega);have e:j=j / 6*6+j%6:=by omega
 rw[e,rE ts _ hi _ hr]at hu;rw[show((⟨b,off,none⟩:Addr).add j)=⟨b,off+j / 6*6+j%6,none⟩ by rw[show(⟨b,off,none⟩:Addr).add j=⟨b,off+j,none⟩ by simp[Addr.add]];congr 1;omega];obtain⟨c0,c1,c2,c3,c4,c5⟩:=h (j / 6) hi;have h6:j%6=0\/j%6=1\/j%6=2\/j%6=3\/j%6=4\/j%6=5:=by omega
 rcases h6 with e6|e6|e6|e6|e6|e6<;>rw[e6]at hu ⊢ <;>simp only[Tp.row,List.getElem?_cons_zero,List.getElem?_cons_succ]at hu<;>rw[<-hu]<;>assumption
theorem DD{w:ae}{b off:Nat}{ts:Q05}(h:dM w b off ts)(k:Nat):dM w b off (ts.take k):=fun i hi=>by
 have:=h i (by simp at hi;omega);simpa using this
theorem MX{w:ae}{b off:Nat}{ts:Q05}(h:dM w b off ts)(k:Nat):dM w b (off+k*6) (ts.drop k):=fun i hi=>by
 have:=h (k+i) (by simp at hi;omega);simp only[List.getElem_drop];rw[show off+k*6+i*6=off+(k+i)*6 by omega];exact this
theorem j5(ts:Q05):∀u∈aF ts,u.oneCell'=true:=by
 intro u hu;unfold aF at hu;obtain⟨t,-,h⟩:=Wx.1 hu;exact vW t u h
theorem qd(xs ys:Q05):aF (xs++ys)=aF xs++aF ys:=by simp[aF]
def uP(w:World)(g:Nat)(t:Tp):Prop:=w.cell? ⟨g,0,none⟩=some (.string t.a)/\w.cell? ⟨g,1,none⟩=some (.string t.b)/\w.cell? ⟨g,2,none⟩=some (.string t.r)/\w.cell? ⟨g,3,none⟩=some (.string t.c)/\w.cell? ⟨g,4,none⟩=some (.string t.d)/\w.cell? ⟨g,5,none⟩=some (.string t.s)/\g<w.heap.size
theorem uP.below{w w':ae}{g:Nat}{t:Tp}(h:uP w g t)(hb:af w w'):uP w' g t :=
 ⟨mK hb h.2.2.2.2.2.2 h.1,mK hb h.2.2.2.2.2.2 h.2.1,mK hb h.2.2.2.2.2.2 h.2.2.1,mK hb h.2.2.2.2.2.2 h.2.2.2.1,mK hb h.2.2.2.2.2.2 h.2.2.2.2.1,mK hb h.2.2.2.2.2.2 h.2.2.2.2.2.1,VY h.2.2.2.2.2.2 hb.size⟩
theorem zy(w:ae)(t:Tp)(T:TypeId):uP (w.alloc (.cells #[.string t.a,.string t.b,.string t.r,.string t.c,.string t.d,.string t.s] T)) w.heap.size t:=by
 refine⟨?_,?_,?_,?_,?_,?_,?_⟩<;>simp
theorem uP.grown{w w':ae}{g:Nat}{t:Tp}{row:Option Nat}(h:uP w g t)(hg:w.grownBy w' row)(hne:some g≠row):uP w' g t :=
 ⟨hg.cell h.1 hne,hg.cell h.2.1 hne,hg.cell h.2.2.1 hne,hg.cell h.2.2.2.1 hne,hg.cell h.2.2.2.2.1 hne,hg.cell h.2.2.2.2.2.1 hne,VY h.2.2.2.2.2.2 hg.size⟩
theorem qg{w w':ae}{b off:Nat}{ts:Q05}{row:Option Nat}(h:dM w b off ts)(hg:w.grownBy w' row)(_hb:b<w.heap.size)(hne:some b≠row):dM w' b off ts:=fun i hi=>by
 obtain⟨c0,c1,c2,c3,c4,c5⟩:=h i hi;exact⟨hg.cell c0 hne,hg.cell c1 hne,hg.cell c2 hne,hg.cell c3 hne,hg.cell c4 hne,hg.cell c5 hne⟩
theorem MZ{ts:Q05}{k:Nat}(h:ts.length<=k)(w:ae)(ad:Addr):∀j u,(aF (ts.drop k))[j]?=some u->w.cell? (ad.add j)=some u:=fun j u hu=>by
 rw[Ww h]at hu;simp[aF]at hu
theorem dV{W:ae}{base base':Nat}{e:TypeId}{size:Nat}{v:Value}{k:Nat}{xs:Q03}(h:W.ownsRow base e size v k xs)(hb:base'<=base):W.ownsRow base' e size v k xs:=by
 refine⟨h.1,?_⟩;rcases h.2 with hn|⟨g,cap,cur,hv,hbg,rest⟩
 ·exact .inl hn
 exact .inr ⟨g,cap,cur,hv,Wh hb hbg,rest⟩
theorem dm{p:Prop}(h:p):Hid p:=h
theorem PQ{w:ae}{g:Nat}{t:Tp}(h0:w.cell? ⟨g,0,none⟩=some (.string t.a))(h1:w.cell? ⟨g,1,none⟩=some (.string t.b))(h2:w.cell? ⟨g,2,none⟩=some (.string t.r))(h3:w.cell? ⟨g,3,none⟩=some (.string t.c))(h4:w.cell? ⟨g,4,none⟩=some (.string t.d))(h5:w.cell? ⟨g,5,none⟩=some (.string t.s))(hl:g<w.heap.size):uP w g t:=⟨h0,h1,h2,h3,h4,h5,hl⟩
theorem Lx{w W w':ae}{b n o:Nat}{x0 x1 x2 x3 x4 x5 y0 y1 y2 y3 y4 y5:Value}(h:W.cell? ⟨b,o,none⟩=some x0/\W.cell? ⟨b,o+1,none⟩=some x1/\W.cell? ⟨b,o+2,none⟩=some x2/\W.cell? ⟨b,o+3,none⟩=some x3/\W.cell? ⟨b,o+4,none⟩=some x4/\W.cell? ⟨b,o+5,none⟩=some x5/\W.cell? ⟨n,0,none⟩=some y0/\W.cell? ⟨n,1,none⟩=some y1/\W.cell? ⟨n,2,none⟩=some y2/\W.cell? ⟨n,3,none⟩=some y3/\W.cell? ⟨n,4,none⟩=some y4/\W.cell? ⟨n,5,none⟩=some y5/\b<W.heap.size/\n<W.heap.size/\Below n w W)(hb:af W w'):
  w'.cell? ⟨b,o,none⟩=some x0/\w'.cell? ⟨b,o+1,none⟩=some x1/\w'.cell? ⟨b,o+2,none⟩=some x2/\w'.cell? ⟨b,o+3,none⟩=some x3/\w'.cell? ⟨b,o+4,none⟩=some x4/\w'.cell? ⟨b,o+5,none⟩=some x5/\w'.cell? ⟨n,0,none⟩=some y0/\w'.cell? ⟨n,1,none⟩=some y1/\w'.cell? ⟨n,2,none⟩=some y2/\w'.cell? ⟨n,3,none⟩=some y3/\w'.cell? ⟨n,4,none⟩=some y4/\w'.cell? ⟨n,5,none⟩=some y5/\b<w'.heap.size/\n<w'.heap.size/\Below n w w':=by
 obtain⟨h0,h1,h2,h3,h4,h5,g0,g1,g2,g3,g4,g5,hB,hN,hw⟩:=h;exact⟨mK hb hB h0,mK hb hB h1,mK hb hB h2,mK hb hB h3,mK hb hB h4,mK hb hB h5,mK hb hN g0,mK hb hN g1,mK hb hN g2,mK hb hN g3,mK hb hN g4,mK hb hN g5,VY hB hb.size,VY hN hb.size,hw.trans (hb.mono (Xr hN))⟩
theorem aU{B:Nat}{w w':ae}(hB:Below B w w'){n o:Nat}{v:Value}(hn:n<B)(h:w.cell? ⟨n,o,none⟩=some v):w'.cell? ⟨n,o,none⟩=some v:=(hB.cell (p:=⟨n,o,none⟩) hn).trans h
theorem ax{p:Prop}(h:p):Hid p:=h
theorem aH{w w':ae}{base:Nat}{e:TypeId}{size:Nat}{v:Value}{n:Nat}{xs:Q03}(h:w.ownsRow base e size v n xs)(hb:af w w'):w'.ownsRow base e size v n xs:=by
 have hl:=fun g hg=>(h.lt g hg).2;refine⟨h.1,?_⟩;rcases h.2 with h0|⟨g,cap,cur,rfl,h1,h2,h3⟩
 ·exact .inl h0
 exact .inr ⟨g,cap,cur,rfl,h1,(hb.block g (hl g rfl)).trans h2,h3⟩
set_option linter.unusedVariables false
set_option maxRecDepth 100000
theorem GY{x y:Al}:kI x y=true↔x=y:=by
 unfold kI;simp only[V9,beq_iff_eq];constructor
 ·rintro⟨h0,h1⟩;obtain⟨xa,xb⟩:=x;obtain⟨ya,yb⟩:=y;simp only at h0 h1;rw[jF h0,jF h1]
 rintro rfl;simp
theorem DF(x y:Al):kI x y=kI y x:=by
 rw[Wy,GY,GY];exact⟨Eq.symm,Eq.symm⟩
theorem PR(x y:Al){v:Bool}(h:kI x y=v)(w:ae):
  (binOp .eql 27 (.agg #[.string x.t,.string x.s]) (.agg #[.string y.t,.string y.s])).run prog w=.ok (.bool v) w:=by
 subst h;go_simp;unfold kI
 (repeat' split)<;>simp_all
def oP(xs:Q0a)(o:Al):Bool:=xs.any fun x=>kI x o
theorem M0{xs:Q0a}{o:Al}{k:Nat}(h:k<xs.length):oP (xs.take (k+1)) o=(oP (xs.take k) o || kI xs[k] o):=by
 rw[V8 h];unfold oP;rw[List.any_append];simp only[Xt,List.any_nil,Bool.or_false]
theorem PS{xs:Q0a}{o:Al}{k:Nat}(h:k<xs.length)(he:kI xs[k] o=true):oP xs o=true:=Xe.2 ⟨xs[k],VZ h,he⟩
theorem JN(ad:Q02)(cap:Nat)(ts:Q0a)(t:Al)(w:ae)(hlen:ts.length<=1048576)(hs:lK w ad ts):
  Calls prog 215 #[.slice ad ts.length cap,.agg #[.string t.t,.string t.s]] w fun e w'=>(∃r:Int,e=.returned (.int .i64 r)/\decide (0<=r)=oP ts t)/\af w w':=by
 obtain⟨W,hW⟩:∃W,W=w.alloc (.cells #[.string t.t,.string t.s] 27):=⟨_,rfl⟩;have HB0:Hid (af w W):=by show Below _ _ _;rw[hW];exact(V5 w.heap.size w).alloc (V4 _) _
 have hz:w.heap.size<W.heap.size:=by rw[hW];simp
 have b0:W.cell? ⟨w.heap.size,0,none⟩=some (.string t.t):=by rw[hW];simp
 have b1:W.cell? ⟨w.heap.size,1,none⟩=some (.string t.s):=by rw[hW];simp
 have HS:=aC (hs.below HB0.out);clear hs;go_enter func215,ntmps215;go_wp2_with fail;rw[<-hW];clear hW;go_loopw[8] (fun i wr=>∃k:Nat,k<=ts.length/\i=.int .i64 k/\Hid (oP (ts.take k) t=false)/\af W wr) (fun i _=>ts.length-(intOf i).toNat);case atStart=>exact⟨0,Wd _,rfl,rfl,V5 _ _⟩
 obtain⟨k,hk,rfl,HP,hB⟩:=hrel;have a0:=aU hB hz b0;have a1:=aU hB hz b1;by_cases hlt:k<ts.length
 ·rcases HS.out.below hB with hnil|⟨b,off,rfl,hb,hr⟩
  ·rw[hnil]at hlt;simp at hlt
  obtain⟨t0,t1⟩:=hr k hlt;have hk1:=bC k;have hk2:(k:Int)<(ts.length:Int):=by omega
  clear hr;cases hq:kI t ts[k];case true=>
   have HE:=PR t ts[k] hq;have HN:Hid (oP ts t=true):=PS hlt (by rw[DF];exact hq);go_wp2_with fail;go_quiet (fail);go_wp2;go_ret;exact⟨⟨_,rfl,by rw[HN.out];simp⟩,HB0.out.trans (below_drewN (hB.mono HB0.out.size) _)⟩
  have HE:=PR t ts[k] hq;have XA:Hid (oP (ts.take (k+1)) t=false):=by show _=_;rw[M0 hlt,HP.out,DF,hq];rfl
  go_wp2_with fail;go_quiet (fail);go_wp2;go_roundw;case rel=>exact⟨k+1,by omega,by go_num,XA,below_drewN hB _⟩
  simp[intOf]<;>omega
 obtain rfl:k=ts.length:=by omega
 have HN:Hid (oP ts t=false):=by have:=HP.out;rw[Wo]at this;exact this
 go_wp2;go_ret;exact⟨⟨-1,rfl,by rw[HN.out];rfl⟩,HB0.out.trans (hB.mono HB0.out.size)⟩
theorem Cu(ad:Q02)(cap:Nat)(ts:Q0a)(t:Al)(w:ae)(hlen:ts.length<=1048576)(hs:lK w ad ts):
  Calls prog 181 #[.slice ad ts.length cap,.agg #[.string t.t,.string t.s]] w fun e w'=>e=.returned (.bool (oP ts t))/\af w w':=by
 have HB0:Hid (af w (w.alloc (.cells #[.string t.t,.string t.s] 27))):=(V5 w.heap.size w).alloc (V4 _) _;have HS:=ax hs;clear hs;go_enter func181,ntmps181;go_wp2_with fail;refine(JN ad cap ts t _ hlen (HS.out.below HB0.out)).mono ?_;rintro e w1 ⟨⟨r,rfl,hr⟩,hb1⟩;have HR:=ax hr;have HB1:=ax (HB0.out.trans (hb1.mono HB0.out.size));clear hr hb1;go_wp2;go_ret;exact⟨ah HR.out,HB1.out⟩
def fe(xs:Q0a)(o:Al):List Al:=if oP xs o then xs else xs++[o]
theorem Be:∃i,prog.info? 27=some i/\i.zero=some (.agg #[.string ⟨#[]⟩,.string ⟨#[]⟩])/\i.size=2/\i.bytes=32 :=
 info_parts (P:=prog) (e:=27) (z:=.agg #[.string ⟨#[]⟩,.string ⟨#[]⟩]) (size:=2) (bytes:=32) (by kernel_rfl)
theorem mU{w:ae}{base:Nat}{v:Value}{xs:Q0a}(h:w.ownsRow base 27 2 v xs.length (pairs xs)):∃ad cap,v=.slice ad xs.length cap/\lK w ad xs:=by
 rcases h.2 with⟨rfl,h0⟩|⟨g,cap,cur,rfl,hbg,hg,hnc,-⟩
 ·exact⟨none,0,by rw[h0],.inl (Wu.1 h0)⟩
 refine⟨_,cap,rfl,.inr ⟨g,0,rfl,(h.lt g rfl).2,fun i hi=>?_⟩⟩;obtain⟨h0,h1⟩:=uU xs i hi;have hl:=rY xs;refine⟨?_,?_⟩
 ·rw[h.cellAt (0+i*2) (by omega),WB];exact h0
 rw[h.cellAt (0+i*2+1) (by omega),WB];exact h1
theorem mV(B:Nat)(v:Value)(xs:Q0a)(o:Al)(w:ae)(hlen:xs.length<=1000)(hB:B<=w.heap.size)(hown:w.ownsRow B 27 2 v xs.length (pairs xs)):
  Calls prog 131 #[v,.agg #[.string o.t,.string o.s]] w fun e w'=>∃v',e=.returned v'/\w'.ownsRow B 27 2 v' (fe xs o).length (pairs (fe xs o))/\Aside w v w' v'/\∀B',(∀g,v.ownBlock=some g->B'<=g)->B'<=w.heap.size->Below B' w w':=by
 obtain⟨iO,h0,h1,h2,h3⟩:=Be;have HIO:=ax (And.intro h0 (And.intro h1 (And.intro h2 h3)));obtain⟨ad,cap,rfl,hsl⟩:=mU hown;obtain⟨W,hW⟩:∃W,W=w.alloc (.cells #[.string o.t,.string o.s] 27):=⟨_,rfl⟩;have HB0:Hid (af w W):=by show Below _ _ _;rw[hW];exact(V5 w.heap.size w).alloc (V4 _) _
 have hz:w.heap.size<W.heap.size:=by rw[hW];simp
 have b0:W.cell? ⟨w.heap.size,0,none⟩=some (.string o.t):=by rw[hW];simp
 have b1:W.cell? ⟨w.heap.size,1,none⟩=some (.string o.s):=by rw[hW];simp
 have ZZ:=ax hsl;have HO:=ax hown;clear hsl hown h0 h1 h2 h3;go_enter func131,ntmps131;go_wp2_with fail;rw[<-hW];clear hW;refine(Cu ad cap xs o _ (by omega) (ZZ.out.below HB0.out)).mono ?_;rintro e w1 ⟨rfl,hb1⟩;have HB1:=ax (HB0.out.trans (hb1.mono HB0.out.size));have c0:=aU hb1 hz b0;have c1:=aU hb1 hz b1;have XD:=ax (aH HO.out HB1.out);have HA1:Hid (Aside w (.slice ad xs.length cap) w1 (.slice ad xs.length cap)):=Aside.below HB1.out;clear hb1 b0 b1;cases hh:oP xs o;case true=>
  have HW:Hid (fe xs o=xs):=by show _=_;unfold fe;rw[hh];rfl
  go_wp2;go_ret;exact⟨_,rfl,by rw[HW.out];exact XD.out,HA1.out,fun B' _ hB'=>HB1.out.mono hB'⟩
 have HW:Hid (fe xs o=xs++[o]):=by show _=_;unfold fe;rw[hh];rfl
 obtain⟨W2,hW2⟩:∃W2,W2=w1.alloc (.cells #[.string o.t,.string o.s] 27):=⟨_,rfl⟩;have Xv:Hid (W2.ownsRow B 27 2 (.slice ad xs.length cap) xs.length (pairs xs)):=by show World.ownsRow _ _ _ _ _ _ _;rw[hW2];exact XD.out.alloc _
 have HA2:Hid (Aside w (.slice ad xs.length cap) W2 (.slice ad xs.length cap)):=by show Aside _ _ _ _;rw[hW2];exact HA1.out.trans (Aside.below ((V5 _ _).alloc (V4 _) _))
 have HBW2:Hid (af w W2):=by show Below _ _ _;rw[hW2];exact HB1.out.alloc HB1.out.size _
 have ZF:Hid (∀j u,[Value.string o.t,.string o.s][j]?=some u->W2.cell? ((⟨w1.heap.size,0,none⟩:Addr).add j)=some u):=fun j u hu=>by
  rw[hW2]
  match j,hu with
  | 0,hu=>simp at hu;subst hu;simp[Addr.add]
  | 1,hu=>simp at hu;subst hu;simp[Addr.add]
 have hsz2:B<=W2.heap.size:=by have:=HB1.out.size;rw[hW2];simp;omega
 clear hh;go_wp2_with(at_builtin;rw[<-hW2];clear hW2;refine wpList_append_own_at _ rfl _ _ 124 rfl B 27 iO (.agg #[.string ⟨#[]⟩,.string ⟨#[]⟩]) 2 32 underlying124 HIO.out.1 HIO.out.2.1 HIO.out.2.2.1 HIO.out.2.2.2 rfl (by decide) _ xs.length (pairs xs) rfl Xv.out ⟨w1.heap.size,0,none⟩ 1 1 [.string o.t,.string o.s] rfl rfl ZF.out (by simp[Value.oneCell']) (by unfold maxLen;omega) (by omega) hsz2 ?_);intro v' w3 hown hgr _ hat;have HE:Hid (w3.ownsRow B 27 2 v' (fe xs o).length (pairs (fe xs o))):=by
  show World.ownsRow _ _ _ _ _ _ _;rw[HW.out,Wi];have:pairs (xs++[o])=pairs xs++[.string o.t,.string o.s]:=by simp[pairs]
  rw[this];exact hown
 have HA3:Hid (Aside w (.slice ad xs.length cap) w3 v'):=HA2.out.trans (Aside.app hgr hat);have HBL:Hid (∀B',(∀g,(Value.slice ad xs.length cap).ownBlock=some g->B'<=g)->B'<=w.heap.size->Below B' w w3):=fun B' hv hB'=>(HBW2.out.mono hB').grown hgr (Wh hB' HBW2.out.size) hv;clear hown hgr hat;go_wp2;go_ret;exact⟨_,rfl,HE.out,HA3.out,HBL.out⟩
def iH(xs:Q0a)(t:Tp):List Al:=fe (fe xs ⟨t.a,t.b⟩) ⟨t.c,t.d⟩
def dB(xs:Q0a)(t:Tp):List Al:=if t.s.toList==[] then fe xs ⟨t.c,t.d⟩ else xs
def gP(ts:Q05):List Al:=ts.foldl iH []
def dN(ts:Q05):List Al:=ts.foldl dB []
theorem Bf(ts:Q05)(t:Tp):gP (ts++[t])=iH (gP ts) t:=by simp[gP]
theorem yx(ts:Q05)(t:Tp):dN (ts++[t])=dB (dN ts) t:=by simp[dN]
theorem oQ(xs:Q0a)(o:Al):(fe xs o).length<=xs.length+1:=by
 unfold fe;split
 ·omega
 simp
theorem rF(xs:Q0a)(t:Tp):(iH xs t).length<=xs.length+2:=by
 unfold iH;have h1:=oQ (fe xs ⟨t.a,t.b⟩) ⟨t.c,t.d⟩;have h2:=oQ xs ⟨t.a,t.b⟩;omega
theorem rG(xs:Q0a)(t:Tp):(dB xs t).length<=xs.length+1:=by
 unfold dB;split
 ·exact oQ _ _
 omega
def M4(t:Tp):K3:=(t.a,t.b,t.r)
def dH(ts:Q05):List (K3×Tp):=ts.map fun t=>(M4 t,t)
theorem JO(ts:Q05)(t:Tp):dH (ts++[t])=dH ts++[(M4 t,t)]:=by simp[dH]
structure DatT(w:World)(D br bp:Nat)(tab:Value)(n1:Int)(E:List (K3×Tp))(xo xu:Q0a)(np:Nat)(Mp:K3->Option Value)(vo vu:Value):Prop where
 gt:bp<D
 lt:D<w.heap.size
 kind:∃cur,w.heap[D]?=some (.cells cur 126 (0,0))
 c0:w.cell? ⟨D,0,none⟩=some tab
 c1:w.cell? ⟨D,1,none⟩=some (.int .i64 n1)
 c2:w.cell? ⟨D,2,none⟩=some (.map (some br))
 c3:w.cell? ⟨D,3,none⟩=some (.map (some bp))
 c4:w.cell? ⟨D,4,none⟩=some vo
 c5:w.cell? ⟨D,5,none⟩=some vu
 told:G.Grp qO prog 226 29 6 Tp.row w bp np Mp E
 objs:w.ownsRow (bp+1) 27 2 vo xo.length (pairs xo)
 users:w.ownsRow (bp+1) 27 2 vu xu.length (pairs xu)
 apart:∀g,vo.ownBlock=some g->vu.ownBlock≠some g
theorem eF{w:ae}{base size n g:Nat}{e e':TypeId}{v:Value}{xs:Q03}{cur:Array Value}(h:w.ownsRow base e size v n xs)(hg:v.ownBlock=some g)(hc:w.heap[g]?=some (.cells cur e' (0,0))):e=e':=by
 rcases h.2 with⟨rfl,-⟩|⟨g',cap,cur',rfl,-,hg',-⟩
 ·simp[Value.ownBlock]at hg
 have e1:g'=g:=by simpa[Value.ownBlock] using hg
 rw[e1,hc]at hg';injection hg' with hg';injection hg' with _ h2;exact h2.symm
theorem Fh{w:ae}{base size n g:Nat}{e:TypeId}{v:Value}{xs:Q03}{es:Array MapEntry}{c:Nat}(h:w.ownsRow base e size v n xs)(hg:v.ownBlock=some g)(hc:w.heap[g]?=some (.map es c)):False:=by
 rcases h.2 with⟨rfl,-⟩|⟨g',cap,cur',rfl,-,hg',-⟩
 ·simp[Value.ownBlock]at hg
 have e1:g'=g:=by simpa[Value.ownBlock] using hg
 rw[e1,hc]at hg';cases hg'
theorem dI{w w':ae}{base size n:Nat}{e:TypeId}{v:Value}{xs:Q03}(h:w.ownsRow base e size v n xs)(hb:∀g,v.ownBlock=some g->w'.heap[g]?=w.heap[g]?):w'.ownsRow base e size v n xs:=by
 refine⟨h.1,?_⟩;rcases h.2 with h0|⟨g,cap,cur,rfl,h1,h2,h3⟩
 ·exact .inl h0
 exact .inr ⟨g,cap,cur,rfl,h1,(hb g rfl).trans h2,h3⟩
theorem jH{w:ae}{base size n g:Nat}{e:TypeId}{v:Value}{xs:Q03}(h:w.ownsRow base e size v n xs)(hg:v.ownBlock=some g):∃cur,w.heap[g]?=some (.cells cur e (0,0)):=by
 rcases h.2 with⟨rfl,-⟩|⟨g',cap,cur',rfl,-,hg',-⟩
 ·simp[Value.ownBlock]at hg
 have e1:g'=g:=by simpa[Value.ownBlock] using hg
 exact⟨cur',by rw[<-e1];exact hg'⟩
theorem vY{w:ae}{bp np:Nat}{Mp:K3->Option Value}{E:List (K3×Tp)}(h:G.Grp qO prog 226 29 6 Tp.row w bp np Mp E){k:K3}{v:Value}(hk:Mp k=some v):∃n xs,w.ownsRow (bp+1) 29 6 v n xs:=by
 rcases h.row k with⟨e,-⟩|⟨v',e,ho⟩
 ·rw[e]at hk;cases hk
 rw[e]at hk;injection hk with hk;subst hk;exact⟨_,_,ho⟩
theorem GZ{w:ae}{bp np g:Nat}{Mp:K3->Option Value}{E:List (K3×Tp)}{e:TypeId}{cur:Array Value}(h:G.Grp qO prog 226 29 6 Tp.row w bp np Mp E)(hc:w.heap[g]?=some (.cells cur e (0,0)))(hne:(29:TypeId)≠e):G.FreeB Mp g:=fun k v hk hg=>by
 obtain⟨n,xs,ho⟩:=vY h hk;exact hne (eF ho hg hc)
theorem vZ{w w':ae}{bp np:Nat}{Mp:K3->Option Value}{E:List (K3×Tp)}(h:G.Grp qO prog 226 29 6 Tp.row w bp np Mp E)(hm:w'.heap[bp]?=w.heap[bp]?)(hr:∀k v g,Mp k=some v->v.ownBlock=some g->w'.heap[g]?=w.heap[g]?):G.Grp qO prog 226 29 6 Tp.row w' bp np Mp E where
 map:=h.map.of_block hm
 row k:=by
  rcases h.row k with e|⟨v,e,ho⟩
  ·exact .inl e
  exact .inr ⟨v,e,dI ho fun g hg=>hr k v g e hg⟩
 apart:=h.apart
section
variable  {w w':World}{D br bp:Nat}{tab:Value}{n1:Int}{E:List (K3×Tp)}{xo xu:Q0a}{np:Nat}{Mp:K3->Option Value}{vo vu:Value}
theorem DatT.below(h:DatT w D br bp tab n1 E xo xu np Mp vo vu)(hb:af w w'):DatT w' D br bp tab n1 E xo xu np Mp vo vu where
 gt:=h.gt
 lt:=VY h.lt hb.size
 kind:=by obtain⟨cur,e⟩:=h.kind;exact⟨cur,(hb.block D h.lt).trans e⟩
 c0:=(hb.cell (p:=⟨D,0,none⟩) h.lt).trans h.c0
 c1:=(hb.cell (p:=⟨D,1,none⟩) h.lt).trans h.c1
 c2:=(hb.cell (p:=⟨D,2,none⟩) h.lt).trans h.c2
 c3:=(hb.cell (p:=⟨D,3,none⟩) h.lt).trans h.c3
 c4:=(hb.cell (p:=⟨D,4,none⟩) h.lt).trans h.c4
 c5:=(hb.cell (p:=⟨D,5,none⟩) h.lt).trans h.c5
 told:=h.told.below hb
 objs:=aH h.objs hb
 users:=aH h.users hb
 apart:=h.apart
theorem DatT.tell(h:DatT w D br bp tab n1 E xo xu np Mp vo vu){Mp':K3->Option Value}{E':List (K3×Tp)}{np':Nat}(hg:G.Grp qO prog 226 29 6 Tp.row w' bp np' Mp' E')(hs:G.Stl w Mp w' Mp' bp):DatT w' D br bp tab n1 E' xo xu np' Mp' vo vu:=by
 have hD:w'.heap[D]?=w.heap[D]?:=by
  obtain⟨cur,e⟩:=h.kind;exact hs.block D h.lt (by have:=h.gt;omega) (GZ h.told e (by decide))
 have hc:∀o,w'.cell? ⟨D,o,none⟩=w.cell? ⟨D,o,none⟩:=fun o=>Wt (w:=w) (a:=⟨D,o,none⟩) hD;have hO:∀{v:Value} {n:Nat} {xs:Q03},w.ownsRow (bp+1) 27 2 v n xs->w'.ownsRow (bp+1) 27 2 v n xs:=fun {v n xs} ho=>dI ho fun g hg=>by
  obtain⟨cur,e⟩:=jH ho hg;have:=ho.lt g hg;exact hs.block g this.2 (by omega) (GZ h.told e (by decide))
 exact⟨h.gt,VY h.lt hs.size,by obtain⟨cur,e⟩:=h.kind;exact⟨cur,hD.trans e⟩,(hc _).trans h.c0,(hc _).trans h.c1,(hc _).trans h.c2,(hc _).trans h.c3,(hc _).trans h.c4,(hc _).trans h.c5,hg,hO h.objs,hO h.users,h.apart⟩
theorem DatT.newO(h:DatT w D br bp tab n1 E xo xu np Mp vo vu){vo':Value}{xo':Q0a}(ho:w'.ownsRow (bp+1) 27 2 vo' xo'.length (pairs xo'))(ha:Aside w vo w' vo'):DatT (w'.setCell ⟨D,4,none⟩ vo') D br bp tab n1 E xo' xu np Mp vo' vu:=by
 obtain⟨cur,hk⟩:=h.kind;have hDo:vo.ownBlock≠some D:=fun e=>absurd (eF h.objs e hk) (by decide);have hD:w'.heap[D]?=w.heap[D]?:=ha.block D h.lt hDo;have hc:∀o,w'.cell? ⟨D,o,none⟩=w.cell? ⟨D,o,none⟩:=fun o=>Wt (w:=w) (a:=⟨D,o,none⟩) hD;have hc2:∀o,o≠4->(w'.setCell ⟨D,4,none⟩ vo').cell? ⟨D,o,none⟩=w.cell? ⟨D,o,none⟩:=fun o ne=>(lu (by omega)).trans (hc o);have hDn:vo'.ownBlock≠some D:=ha.apart h.lt hDo;have hne:∀g,g≠D->(w'.setCell ⟨D,4,none⟩ vo').heap[g]?=w'.heap[g]?:=fun g e=>heap_setCell_other w' ⟨D,4,none⟩ g vo' e;have hbp:bp<w.heap.size:=by have:=h.gt;have:=h.lt;omega
 have hrow:∀k v g,Mp k=some v->v.ownBlock=some g->(w'.setCell ⟨D,4,none⟩ vo').heap[g]?=w.heap[g]?:=fun k v g hm hg=>by
  obtain⟨n,xs,hr⟩:=vY h.told hm;obtain⟨cr,er⟩:=jH hr hg;rw[hne g (fun e=>absurd (eF hr (e ▸ hg) hk) (by decide))];exact ha.block g (hr.lt g hg).2 (fun e=>absurd (eF h.objs e er) (by decide))
 refine⟨h.gt,by simpa using VY h.lt ha.size,⟨_,heap_setCell_same w' D 4 cur _ vo' (hD.trans hk)⟩,(hc2 0 (by omega)).trans h.c0,(hc2 1 (by omega)).trans h.c1,(hc2 2 (by omega)).trans h.c2,(hc2 3 (by omega)).trans h.c3,MR ((hc 4).trans h.c4),(hc2 5 (by omega)).trans h.c5,vZ h.told ?_ hrow,dI ho fun g hg=>hne g fun e=>hDn (e ▸ hg),dI h.users fun g hg=>?_,fun g hg hu=>?_⟩
 ·rw[hne bp (by have:=h.gt;omega)];exact ha.block bp hbp fun e=>by have:=(h.objs.lt bp e).1;omega
 ·rw[hne g (fun e=>absurd (eF h.users (e ▸ hg) hk) (by decide))];exact ha.block g (h.users.lt g hg).2 fun e=>h.apart g e hg
 rcases ha.own with e|⟨g',e,hg'⟩
 ·exact h.apart g (e ▸ hg) hu
 rw[hg]at e;injection e with e;have:=(h.users.lt g hu).2;omega
theorem DatT.newU(h:DatT w D br bp tab n1 E xo xu np Mp vo vu){vu':Value}{xu':Q0a}(ho:w'.ownsRow (bp+1) 27 2 vu' xu'.length (pairs xu'))(ha:Aside w vu w' vu'):DatT (w'.setCell ⟨D,5,none⟩ vu') D br bp tab n1 E xo xu' np Mp vo vu':=by
 obtain⟨cur,hk⟩:=h.kind;have hDo:vu.ownBlock≠some D:=fun e=>absurd (eF h.users e hk) (by decide);have hD:w'.heap[D]?=w.heap[D]?:=ha.block D h.lt hDo;have hc:∀o,w'.cell? ⟨D,o,none⟩=w.cell? ⟨D,o,none⟩:=fun o=>Wt (w:=w) (a:=⟨D,o,none⟩) hD;have hc2:∀o,o≠5->(w'.setCell ⟨D,5,none⟩ vu').cell? ⟨D,o,none⟩=w.cell? ⟨D,o,none⟩:=fun o ne=>(lu (by omega)).trans (hc o);have hDn:vu'.ownBlock≠some D:=ha.apart h.lt hDo;have hne:∀g,g≠D->(w'.setCell ⟨D,5,none⟩ vu').heap[g]?=w'.heap[g]?:=fun g e=>heap_setCell_other w' ⟨D,5,none⟩ g vu' e;have hbp:bp<w.heap.size:=by have:=h.gt;have:=h.lt;omega
 have hrow:∀k v g,Mp k=some v->v.ownBlock=some g->(w'.setCell ⟨D,5,none⟩ vu').heap[g]?=w.heap[g]?:=fun k v g hm hg=>by
  obtain⟨n,xs,hr⟩:=vY h.told hm;obtain⟨cr,er⟩:=jH hr hg;rw[hne g (fun e=>absurd (eF hr (e ▸ hg) hk) (by decide))];exact ha.block g (hr.lt g hg).2 (fun e=>absurd (eF h.users e er) (by decide))
 refine⟨h.gt,by simpa using VY h.lt ha.size,⟨_,heap_setCell_same w' D 5 cur _ vu' (hD.trans hk)⟩,(hc2 0 (by omega)).trans h.c0,(hc2 1 (by omega)).trans h.c1,(hc2 2 (by omega)).trans h.c2,(hc2 3 (by omega)).trans h.c3,(hc2 4 (by omega)).trans h.c4,MR ((hc 5).trans h.c5),vZ h.told ?_ hrow,dI h.objs fun g hg=>?_,dI ho fun g hg=>hne g fun e=>hDn (e ▸ hg),fun g hg hu=>?_⟩
 ·rw[hne bp (by have:=h.gt;omega)];exact ha.block bp hbp fun e=>by have:=(h.users.lt bp e).1;omega
 ·rw[hne g (fun e=>absurd (eF h.objs (e ▸ hg) hk) (by decide))];exact ha.block g (h.objs.lt g hg).2 fun e=>h.apart g hg e
 rcases ha.own with e|⟨g',e,hg'⟩
 ·exact h.apart g hg (e ▸ hu)
 rw[hu]at e;injection e with e;have:=(h.objs.lt g hg).2;omega
end
def LA(es:Q09):Prop:=∀(i:Nat) (h:i<es.length),∀x∈es[i].kids,0<=x/\x<(i:Int)
theorem JP{es:Q09}(h:aP es=true):LA es:=by
 intro i hi x hx;unfold aP at h;simp only[V9,Wn]at h;have h1:=h.1.1.2;unfold je at h1;rw[Wq]at h1;have h2:=h1 i (by simpa using hi);unfold lh mr at h2;rw[Wm hi]at h2;simp only[Option.map_some,WO,Wq,V9,Wn]at h2;have:=h2 x hx;omega
theorem JQ{ts:Q0b}(h:bF ts=true){t:Ty}(ht:t∈ts){r:Rl}(hr:r∈t.rels):aR r.name=true/\aP r.expr=true:=by
 unfold bF at h;simp only[V9]at h;obtain⟨j,hj,rfl⟩:=Xl ht;have h1:=p8 h.2 j hj;unfold kP at h1;rw[Wm hj]at h1;simp only[V9]at h1;obtain⟨k,hk,rfl⟩:=Xl hr;have h2:=pY h1.2 k hk;unfold mP at h2;rw[Wm hk]at h2;simp only[V9]at h2;exact⟨h2.1.1,h2.2⟩
structure Fc where
 a:ByteArray
 b:ByteArray
 r:ByteArray
 c:ByteArray
 d:ByteArray
abbrev Q04:=List Fc
def Fc.u(f:Fc):ByteArray×ByteArray:=(f.c,f.d)
def xC(x y:Fc):Bool:=x.a.toList==y.a.toList&&x.b.toList==y.b.toList&&x.r.toList==y.r.toList&&x.c.toList==y.c.toList&&x.d.toList==y.d.toList
theorem Bg{x y:Fc}:xC x y=true↔x=y:=by
 constructor
 ·intro h;unfold xC at h;simp only[V9,beq_iff_eq]at h;obtain⟨⟨⟨⟨h1,h2⟩,h3⟩,h4⟩,h5⟩:=h;cases x;cases y;simp only at h1 h2 h3 h4 h5;rw[wZ h1,wZ h2,wZ h3,wZ h4,wZ h5]
 rintro rfl;unfold xC;simp
def bY(out:Q04)(f:Fc):Bool:=out.any fun g=>xC g f
theorem fF{out:Q04}{f:Fc}:bY out f=true↔f∈out:=by
 unfold bY;rw[Xe];constructor
 ·rintro⟨g,hg,h⟩;rw[<-Bg.1 h];exact hg
 intro h;exact⟨f,h,Bg.2 rfl⟩
def G5(u:Q01)(x y:Q04):Prop:=∀g:Fc,g.u=u->(g∈x↔g∈y)
theorem xD{x y:Q04}{f:Fc}(h:G5 f.u x y):bY x f=bY y f:=by
 rw[Wy,fF,fF];exact h f rfl
def fG(l:Q05)(known:Q04)(f:Fc):Bool:=l.any fun t=>(t.a.toList==f.a.toList&&t.b.toList==f.b.toList&&t.r.toList==f.r.toList)&&(if t.s.toList.isEmpty then t.c.toList==f.c.toList&&t.d.toList==f.d.toList else bY known ⟨t.c,t.d,t.s,f.c,f.d⟩)
def gQ(l:Q05)(known:Q04)(over name:ByteArray)(f:Fc):Bool:=l.any fun t=>(t.a.toList==f.a.toList&&t.b.toList==f.b.toList&&t.r.toList==over.toList)&&bY known ⟨t.c,t.d,name,f.c,f.d⟩
def jI(l:Q05)(es:Q09)(truth:Q04)(f:Fc):Nat->List Fc->Nat->Bool
 | 0,_,_=>false
 | k+1,known,n=>match es[n]? with
  | none=>false
  | some x =>
   if x.kind=1 then fG l known f
   else if x.kind=2 then bY known ⟨f.a,f.b,x.name,f.c,f.d⟩
   else if x.kind=3 then gQ l known x.over x.name f
   else if x.kind=4 then x.kids.any fun i=>jI l es truth f k known i.toNat
   else if x.kind=5 then x.kids.all fun i=>jI l es truth f k known i.toNat
   else if x.kind=6 then jI l es truth f k known (x.kids.getD 0 0).toNat && !jI l es truth f k truth (x.kids.getD 1 0).toNat
   else false
theorem JR{l:Q05}{x y:Q04}{f:Fc}(h:G5 f.u x y):fG l x f=fG l y f:=by
 unfold fG;congr 1
 funext t
 rw[xD (x:=x) (y:=y) (f:=⟨t.c,t.d,t.s,f.c,f.d⟩) h]
theorem JS{l:Q05}{x y:Q04}{ov nm:ByteArray}{f:Fc}(h:G5 f.u x y):gQ l x ov nm f=gQ l y ov nm f:=by
 unfold gQ;congr 1
 funext t
 rw[xD (x:=x) (y:=y) (f:=⟨t.c,t.d,nm,f.c,f.d⟩) h]
theorem uK{l:Q05}{es:Q09}{f:Fc}{t1 t2:Q04}(ht:G5 f.u t1 t2):∀(k:Nat) (x y:Q04) (n:Nat),G5 f.u x y->jI l es t1 f k x n=jI l es t2 f k y n
 | 0,_,_,_,_=>rfl
 | k+1,x,y,n,h=>by
  unfold jI;cases es[n]? with
  | none=>rfl
  | some e =>
   simp only[JR h,xD (x:=x) (y:=y) (f:=⟨f.a,f.b,e.name,f.c,f.d⟩) h,JS h,uK ht k x y _ h,uK ht k t1 t2 _ ht]
def ja(ts:Q0b)(l:Q05)(out:Q04)(f:Fc):Bool:=jI l (aM ts f.a f.r) out f (aM ts f.a f.r).length out ((aM ts f.a f.r).length-1)
theorem DI(ts:Q0b)(l:Q05):Loc Fc.u (ja ts l):=fun x y f h=>uK h _ x y _ h
def Fj(ts:Q0b)(st:Q00)(n:Int)(o:Al):List (ByteArray×ByteArray):=(au ts).filter fun k=>k.1.toList==o.t.toList&&decide (st k=n)
def jO(o:Al)(rel:ByteArray)(xu:Q0a):List Fc:=xu.map fun u=>⟨o.t,o.s,rel,u.t,u.s⟩
def yZ(ts:Q0b)(st:Q00)(xu:Q0a)(n:Int)(o:Al):List Fc:=(Fj ts st n o).flatMap fun k=>jO o k.2 xu
def dw(ts:Q0b)(st:Q00)(xo xu:Q0a)(n:Int):List Fc:=xo.flatMap (yZ ts st xu n)
theorem JU{ts:Q0b}{st:Q00}{xo xu:Q0a}{n:Int}{f:Fc}(h:f∈dw ts st xo xu n):f.u∈xu.map fun u=>(u.t,u.s):=by
 unfold dw yZ jO at h;obtain⟨o,-,h⟩:=Wx.1 h;obtain⟨k,-,h⟩:=Wx.1 h;obtain⟨u,hu,rfl⟩:=Wp.1 h;exact Wp.2 ⟨u,hu,rfl⟩
theorem G6(ts:Q0b)(st:Q00)(xo xu:Q0a)(n:Int)(p:ByteArray×ByteArray->Bool):(dw ts st xo xu n).filter (fun f=>p f.u)=dw ts st xo (xu.filter fun u=>p (u.t,u.s)) n:=by
 unfold dw yZ jO;rw[List.filter_flatMap];congr 1
 funext o
 rw[List.filter_flatMap];congr 1
 funext k
 rw[List.filter_map];rfl
theorem JV{ts:Q0b}{st:Q00}{xo xu:Q0a}{n:Int}(h:∀k∈au ts,st k≠n):dw ts st xo xu n=[]:=by
 have:∀o,Fj ts st n o=[]:=fun o=>by
  unfold Fj;rw[List.filter_eq_nil_iff];intro k hk;simp[h k hk]
 unfold dw yZ;simp[this]
section
variable  [DecidableEq Fc]
def nE(ts:Q0b)(l:Q05)(st:Q00)(xo xu:Q0a)(N:Nat):List Fc:=(List.range N).foldl (fun out (n:Nat)=>pM (ja ts l) (dw ts st xo xu (n:Int)) out) []
theorem j6(ts:Q0b)(l:Q05)(st:Q00)(xo xu:Q0a)(N:Nat):nE ts l st xo xu (N+1)=pM (ja ts l) (dw ts st xo xu (N:Int)) (nE ts l st xo xu N):=by
 unfold nE;rw[List.range_succ,List.foldl_append];rfl
theorem M5{ts:Q0b}{l:Q05}{st:Q00}{xo xu:Q0a}{N:Nat}(h:∀k∈au ts,st k<(N:Int)):∀M,N<=M->nE ts l st xo xu M=nE ts l st xo xu N:=by
 intro M hM;obtain⟨d,rfl⟩:∃d,M=N+d:=⟨M-N,by omega⟩
 induction d with
 | zero=>rfl
 | succ d ih =>
  rw[Nat.add_succ,j6,ih (by omega),JV fun k hk=>by have:=h k hk;omega];exact O3 _
theorem DJ(ts:Q0b)(l:Q05)(st:Q00)(xo xu:Q0a):∀N,(nE ts l st xo xu N).Nodup
 | 0=>List.nodup_nil
 | N+1=>by rw[j6];exact Mf _ (DJ ts l st xo xu N)
end
def M7(w:World)(b off:Nat)(t:Fc):Prop :=
 w.cell? ⟨b,off,none⟩=some (.string t.a)/\w.cell? ⟨b,off+1,none⟩=some (.string t.b)/\w.cell? ⟨b,off+2,none⟩=some (.string t.r)/\w.cell? ⟨b,off+3,none⟩=some (.string t.c)/\w.cell? ⟨b,off+4,none⟩=some (.string t.d)
def VR(w:World)(b off:Nat)(ts:Q04):Prop:=∀(i:Nat) (h:i<ts.length),M7 w b (off+i*5) ts[i]
def tT(w:World)(ad:Q02)(ts:Q04):Prop:=ts=[] \/ ∃b off,ad=some ⟨b,off,none⟩/\b<w.heap.size/\VR w b off ts
theorem M7.same{w w':ae}{b off:Nat}{t:Fc}(h:M7 w b off t)(hc:∀o,w'.cell? ⟨b,o,none⟩=w.cell? ⟨b,o,none⟩):M7 w' b off t:=by
 obtain⟨h0,h1,h2,h3,h4⟩:=h;exact⟨(hc _).trans h0,(hc _).trans h1,(hc _).trans h2,(hc _).trans h3,(hc _).trans h4⟩
theorem tT.below{w w':ae}{ad:Q02}{ts:Q04}(h:tT w ad ts)(hB:af w w'):tT w' ad ts:=by
 rcases h with h|⟨b,off,e,hb,hr⟩
 ·exact .inl h
 exact .inr ⟨b,off,e,VY hb hB.size,fun i hi=>(hr i hi).same fun o=>hB.cell (p:=⟨b,o,none⟩) hb⟩
def Fc.row(t:Fc):List Value:=[.string t.a,.string t.b,.string t.r,.string t.c,.string t.d]
theorem JW(x y:Fc){v:Bool}(h:xC x y=v)(w:ae):
  (binOp .eql 43 (.agg #[.string x.a,.string x.b,.string x.r,.string x.c,.string x.d]) (.agg #[.string y.a,.string y.b,.string y.r,.string y.c,.string y.d])).run prog w=.ok (.bool v) w:=by
 subst h;go_simp;unfold xC
 (repeat' split)<;>simp_all
theorem DK{ts:Q04}{k:Nat}(h:k<ts.length){t:Fc}:bY (ts.drop k) t=(xC ts[k] t || bY (ts.drop (k+1)) t):=by
 unfold bY;rw[WC h];rfl
set_option maxRecDepth 8000 in
theorem oU(ad:Q02)(cap:Nat)(ts:Q04)(t:Fc)(w:ae)(hlen:ts.length<=1048576)(hs:tT w ad ts):
  Calls prog 72 #[.slice ad ts.length cap,.agg #[.string t.a,.string t.b,.string t.r,.string t.c,.string t.d]] w fun e w'=>e=.returned (.bool (bY ts t))/\af w w':=by
 have HS:=aC hs;clear hs;obtain⟨W0,hW0⟩:∃W0,W0=w.alloc (.cells #[.string t.a,.string t.b,.string t.r,.string t.c,.string t.d] 43):=⟨_,rfl⟩;have HB0:=nC hW0;have HX0:Hid (W0.cell? ⟨w.heap.size,0,none⟩=some (.string t.a)/\W0.cell? ⟨w.heap.size,1,none⟩=some (.string t.b)/\W0.cell? ⟨w.heap.size,2,none⟩=some (.string t.r)/\W0.cell? ⟨w.heap.size,3,none⟩=some (.string t.c)/\W0.cell? ⟨w.heap.size,4,none⟩=some (.string t.d)/\w.heap.size<W0.heap.size):=by show _/\_;rw[hW0];refine⟨?_,?_,?_,?_,?_,?_⟩<;>simp
 go_enter func72,ntmps72;go_wp2;rw[<-hW0];clear hW0;go_loopw[5] (fun i wr=>∃k:Nat,k<=ts.length/\i=.int .i64 k/\Hid (bY (ts.drop k) t=bY ts t)/\Hid (af W0 wr)) (fun i _=>ts.length-(intOf i).toNat);case atStart=>exact⟨0,Wd _,rfl,rfl,V5 _ _⟩
 obtain⟨k,hk,rfl,HP,HB⟩:=hrel;have Xz:Hid (af w wr):=HB0.out.trans (HB.out.mono HB0.out.size);by_cases hlt:k<ts.length
 ·rcases HS.out.below Xz.out with hnil|⟨b,off,rfl,hb,hr⟩
  ·rw[hnil]at hlt;simp at hlt
  obtain⟨t0,t1,t2,t3,t4⟩:=hr k hlt;have x0:=mK HB.out HX0.out.2.2.2.2.2 HX0.out.1;have x1:=mK HB.out HX0.out.2.2.2.2.2 HX0.out.2.1;have x2:=mK HB.out HX0.out.2.2.2.2.2 HX0.out.2.2.1;have x3:=mK HB.out HX0.out.2.2.2.2.2 HX0.out.2.2.2.1;have x4:=mK HB.out HX0.out.2.2.2.2.2 HX0.out.2.2.2.2.1;have hk1:=bC k;have hk2:(k:Int)<(ts.length:Int):=by omega
  have HD:Hid (bY ts t=(xC ts[k] t || bY (ts.drop (k+1)) t)):=by show _=_;rw[<-HP.out];exact DK hlt
  clear hr;cases hq:xC ts[k] t;case true=>
   have heq:=JW ts[k] t hq;have HN:Hid (bY ts t=true):=by show _=_;rw[HD.out,hq];rfl
   clear hq;go_wp2_with fail;go_region_held3 (fun w'=>w'.cell? ⟨b,off+k*5,none⟩=some (.string ts[k].a)/\w'.cell? ⟨b,off+k*5+1,none⟩=some (.string ts[k].b)/\w'.cell? ⟨b,off+k*5+2,none⟩=some (.string ts[k].r)/\w'.cell? ⟨b,off+k*5+3,none⟩=some (.string ts[k].c)/\w'.cell? ⟨b,off+k*5+4,none⟩=some (.string ts[k].d)/\w'.cell? ⟨w.heap.size,0,none⟩=some (.string t.a)/\w'.cell? ⟨w.heap.size,1,none⟩=some (.string t.b)/\w'.cell? ⟨w.heap.size,2,none⟩=some (.string t.r)/\w'.cell? ⟨w.heap.size,3,none⟩=some (.string t.c)/\w'.cell? ⟨w.heap.size,4,none⟩=some (.string t.d)/\af wr w') (first|assumption|exact⟨t0,t1,t2,t3,t4,x0,x1,x2,x3,x4,(V5 _ _).drew⟩) (fail);rename_i hH;have HG:Hid (af wr _):=hH.2.2.2.2.2.2.2.2.2.2;clear hH t0 t1 t2 t3 t4 x0 x1 x2 x3 x4 heq;go_wp2;go_ret;exact⟨by rw[HN.out];rfl,Xz.out.trans (HG.out.mono Xz.out.size)⟩
  have heq:=JW ts[k] t hq;have XA:Hid (bY (ts.drop (k+1)) t=bY ts t):=by show _=_;rw[HD.out,hq];rfl
  clear hq;go_wp2_with fail;go_region_held3 (fun w'=>w'.cell? ⟨b,off+k*5,none⟩=some (.string ts[k].a)/\w'.cell? ⟨b,off+k*5+1,none⟩=some (.string ts[k].b)/\w'.cell? ⟨b,off+k*5+2,none⟩=some (.string ts[k].r)/\w'.cell? ⟨b,off+k*5+3,none⟩=some (.string ts[k].c)/\w'.cell? ⟨b,off+k*5+4,none⟩=some (.string ts[k].d)/\w'.cell? ⟨w.heap.size,0,none⟩=some (.string t.a)/\w'.cell? ⟨w.heap.size,1,none⟩=some (.string t.b)/\w'.cell? ⟨w.heap.size,2,none⟩=some (.string t.r)/\w'.cell? ⟨w.heap.size,3,none⟩=some (.string t.c)/\w'.cell? ⟨w.heap.size,4,none⟩=some (.string t.d)/\af wr w') (first|assumption|exact⟨t0,t1,t2,t3,t4,x0,x1,x2,x3,x4,(V5 _ _).drew⟩) (fail);rename_i hH;have HG:Hid (af W0 _):=HB.out.trans (hH.2.2.2.2.2.2.2.2.2.2.mono HB.out.size);clear hH t0 t1 t2 t3 t4 x0 x1 x2 x3 x4 heq;go_wp2;go_roundw;case rel=>exact⟨k+1,by omega,by go_num,XA,HG⟩
  simp[intOf]<;>omega
 have HN:Hid (bY ts t=false):=by show _=_;rw[<-HP.out,Ww (by omega)];rfl
 go_wp2;go_ret;exact⟨by rw[HN.out];rfl,Xz.out⟩
theorem ak{p:Prop}(h:p):Hid p:=h
structure HW(w:World)(Y6:Q02)(ts:Q05)(Xw:Q02)(rows:Q08)(adK:Q02)(known:Q04)(Y7:Q02)(truth:Q04):Prop where
 tup:Sl w Y6 ts
 ex:jv w Xw rows
 kn:tT w adK known
 tr:tT w Y7 truth
theorem HW.below{w w':ae}{Y6:Q02}{ts:Q05}{Xw:Q02}{rows:Q08}{adK:Q02}{known:Q04}{Y7:Q02}{truth:Q04}(h:HW w Y6 ts Xw rows adK known Y7 truth)(hB:af w w'):HW w' Y6 ts Xw rows adK known Y7 truth :=
 ⟨h.tup.below hB,h.ex.below hB,h.kn.below hB,h.tr.below hB⟩
def Bh(a b c d:ByteArray):Bool:=a.toList==c.toList&&b.toList==d.toList
theorem jJ(a b c d:bZ){v:Bool}(h:Bh a b c d=v)(w:ae):
  (binOp .eql 27 (.agg #[.string a,.string b]) (.agg #[.string c,.string d])).run prog w=.ok (.bool v) w:=by
 subst h;go_simp;unfold Bh
 (repeat' split)<;>simp_all
theorem G7(a b c d:bZ){v:Bool}(h:Bh a b c d=v)(w:ae):
  (binOp .neq 27 (.agg #[.string a,.string b]) (.agg #[.string c,.string d])).run prog w=.ok (.bool (!v)) w:=by
 subst h;go_simp;unfold Bh
 (repeat' split)<;>simp_all
theorem jv.at0{w:ae}{ad:Q02}{rs:Q08}(h:jv w ad rs){k:Nat}(hk:k<rs.length):∃b off,ad=some ⟨b,off,none⟩/\yQ w b (off+k*5) rs[k]/\b<w.heap.size/\rs[k].ok w:=by
 rcases h with h|⟨b',off',e,hb,hr,hok⟩
 ·rw[h]at hk;simp at hk
 exact⟨b',off',e,hr k hk,hb,hok _ (VZ hk)⟩
theorem Sl.at0{w:ae}{ad:Q02}{ts:Q05}(h:Sl w ad ts){k:Nat}(hk:k<ts.length):∃b off,ad=some ⟨b,off,none⟩/\TI w b (off+k*6) ts[k]/\b<w.heap.size:=by
 rcases h with h|⟨b',off',e,hb,hr⟩
 ·rw[h]at hk;simp at hk
 exact⟨b',off',e,hr k hk,hb⟩
theorem wS.at0{w:ae}{ad:Q02}{zs:List Int}(h:wS w ad zs){k:Nat}(hk:k<zs.length):∃b off,ad=some ⟨b,off,none⟩/\w.cell? ⟨b,off+k,none⟩=some (.int .i64 zs[k])/\b<w.heap.size:=by
 rcases h with h|⟨b',off',e,hb,hr⟩
 ·rw[h]at hk;simp at hk
 exact⟨b',off',e,hr k hk,hb⟩
def G8(w:World)(f:Fc)(x:ER):World:=(w.alloc (.cells #[.string f.a,.string f.b,.string f.r,.string f.c,.string f.d] 43)).alloc (.cells #[.int .i64 x.e.kind,.slice x.adA x.e.allow.length x.capA,.string x.e.over,.string x.e.name,.slice x.adK x.e.kids.length x.capK] 188)
theorem ko(w:ae)(f:Fc)(x:ER):af w (G8 w f x):=by
 unfold G8;exact((V5 _ _).alloc (V4 _) _).alloc (by simp) _
structure EnB(w:World)(B:Nat)(f:Fc)(x:ER):Prop where
 lt:B+1<w.heap.size
 f0:w.cell? ⟨B,0,none⟩=some (.string f.a)
 f1:w.cell? ⟨B,1,none⟩=some (.string f.b)
 f2:w.cell? ⟨B,2,none⟩=some (.string f.r)
 f3:w.cell? ⟨B,3,none⟩=some (.string f.c)
 f4:w.cell? ⟨B,4,none⟩=some (.string f.d)
 x0:w.cell? ⟨B+1,0,none⟩=some (.int .i64 x.e.kind)
 x1:w.cell? ⟨B+1,1,none⟩=some (.slice x.adA x.e.allow.length x.capA)
 x2:w.cell? ⟨B+1,2,none⟩=some (.string x.e.over)
 x3:w.cell? ⟨B+1,3,none⟩=some (.string x.e.name)
 x4:w.cell? ⟨B+1,4,none⟩=some (.slice x.adK x.e.kids.length x.capK)
theorem EnB.below{w w':ae}{B:Nat}{f:Fc}{x:ER}(h:EnB w B f x)(hB:af w w'):EnB w' B f x:=by
 have h0:B<w.heap.size:=by have:=h.lt;omega
 have c0:∀o,w'.cell? ⟨B,o,none⟩=w.cell? ⟨B,o,none⟩:=fun o=>hB.cell (p:=⟨B,o,none⟩) h0;have c1:∀o,w'.cell? ⟨B+1,o,none⟩=w.cell? ⟨B+1,o,none⟩:=fun o=>hB.cell (p:=⟨B+1,o,none⟩) h.lt;exact⟨VY h.lt hB.size,(c0 _).trans h.f0,(c0 _).trans h.f1,(c0 _).trans h.f2,(c0 _).trans h.f3,(c0 _).trans h.f4,(c1 _).trans h.x0,(c1 _).trans h.x1,(c1 _).trans h.x2,(c1 _).trans h.x3,(c1 _).trans h.x4⟩
theorem oV(w:ae)(f:Fc)(x:ER):EnB (G8 w f x) w.heap.size f x:=by
 unfold G8;constructor<;>simp
def Bi(known:Q04)(f:Fc)(t:Tp):Bool:=(t.a.toList==f.a.toList&&t.b.toList==f.b.toList&&t.r.toList==f.r.toList)&&(if t.s.toList.isEmpty then t.c.toList==f.c.toList&&t.d.toList==f.d.toList else bY known ⟨t.c,t.d,t.s,f.c,f.d⟩)
theorem JX{ts:Q05}{k:Nat}(h:k<ts.length)(known:Q04)(f:Fc):fG (ts.drop k) known f=(Bi known f ts[k] || fG (ts.drop (k+1)) known f):=by
 unfold fG;rw[WC h];rfl
def DL(known:Q04)(over name:ByteArray)(f:Fc)(t:Tp):Bool:=(t.a.toList==f.a.toList&&t.b.toList==f.b.toList&&t.r.toList==over.toList)&&bY known ⟨t.c,t.d,name,f.c,f.d⟩
theorem JY{ts:Q05}{k:Nat}(h:k<ts.length)(known:Q04)(over name:bZ)(f:Fc):gQ (ts.drop k) known over name f=(DL known over name f ts[k] || gQ (ts.drop (k+1)) known over name f):=by
 unfold gQ;rw[WC h];rfl
theorem sI{s:ByteArray}:(s.toList==[])=s.toList.isEmpty:=by cases s.toList<;>rfl
end Go.Proofs.YtcgdckphpjfmhaaGreatDoor
