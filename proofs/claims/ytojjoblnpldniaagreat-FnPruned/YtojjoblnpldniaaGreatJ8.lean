/- The contract of the law's helper that copies a slice of tuples into the program's type: a new row. -/
import Derived.Test.YtojjoblnpldniaaGreatSq
import Derived.Test.YtojjoblnpldniaaGreatJ6
import Derived.Sort.Statements
import Derived.Test.YtojjoblnpldniaaGreatJ4
open Go.Proofs.Tryz
set_option maxHeartbeats 80000000
namespace Go.Proofs.YtojjoblnpldniaaGreat
open ChangeShapes WideShapes ChangeAt RowKit
open Pl
structure Filling(w wr:World)(g:Nat)(ts:Q05)(k:Nat):Prop where
 below:ag w wr
 ge:w.heap.size<=g
 lt:g<wr.heap.size
 done:∀(i:Nat) (h:i<ts.length),i<k->Tt wr g (0+i*6) ts[i]
 there:∀j,j<ts.length*6->(wr.cell? ⟨g,j,none⟩).isSome=true
 free:∀j,wr.frozen? ⟨g,j,none⟩=false
theorem Filling.put{w wr:af}{g:Nat}{ts:Q05}{k:Nat}(h:Filling w wr g ts k)(hk:k<ts.length):Filling w (Ag wr g (k*6) ts[k]) g ts (k+1) where
 below:=JA h.below h.ge
 ge:=h.ge
 lt:=by rw[MJ];exact h.lt
 done i hi hik:=by
  by_cases e:i=k
  ·subst e;rw[VW];exact Lx _ (fun j hj=>h.there _ (by omega))
  obtain⟨a0,a1,a2,a3,a4,a5⟩:=h.done i hi (by omega);refine⟨?_,?_,?_,?_,?_,?_⟩<;>(rw[Gu _ _ _ _ _ (by omega)];assumption)
 there j hj:=by
  by_cases hin:j<k*6\/k*6+6<=j
  ·rw[Gu _ _ _ _ _ hin];exact h.there j hj
  obtain⟨a0,a1,a2,a3,a4,a5⟩:=Lx (w:=wr) (g:=g) (o:=k*6) ts[k] (fun j hj=>h.there _ (by omega));have hj6:j=k*6\/j=k*6+1\/j=k*6+2\/j=k*6+3\/j=k*6+4\/j=k*6+5:=by omega
  rcases hj6 with e|e|e|e|e|e
  ·rw[e,a0];rfl
  ·rw[e,a1];rfl
  ·rw[e,a2];rfl
  ·rw[e,a3];rfl
  ·rw[e,a4];rfl
  rw[e,a5];rfl
 free j:=by rw[Gv];exact h.free j
theorem Filling.row{w w':af}{g:Nat}{ts:Q05}(h:Filling w w' g ts ts.length):lh w' g 0 ts:=fun i hi=>h.done i hi hi
theorem Filling.sl{w w':af}{g:Nat}{ts:Q05}(h:Filling w w' g ts ts.length):Sl w' (some ⟨g,0,none⟩) ts:=.inr ⟨g,0,rfl,h.lt,h.row⟩
end Go.Proofs.YtojjoblnpldniaaGreat
namespace Go.Proofs.YtojjoblnpldniaaGreat
open Go.Sort
open ChangeShapes WideShapes ChangeAt RowKit
open Pl
attribute [local go_sem ↓] Go.wp_at_zero Go.wp_at_succ
def Tp.ok(t:Tp):Bool:=bH t.a t.b t.r t.c t.d t.s
def Tp.ahead(t u:Tp):Bool:=gJ t.a t.b t.r t.c t.d t.s u.a u.b u.r u.c u.d u.s
def vI(ts:Q05)(i:Nat):Bool:=match ts[i]? with
 | none=>true
 | some t=>t.ok&&(match i with
  | 0=>true
  | j+1=>match ts[j]? with
   | none=>true
   | some u=>u.ahead t)
def uA(ts:Q05)(k:Nat):Bool:=(List.range k).all (vI ts)
def dX(ts:Q05):Bool:=decide (ts.length<=40)&&uA ts ts.length
theorem rY(ts:Q05)(k:Nat):uA ts (k+1)=(uA ts k&&vI ts k):=by simp[uA,List.range_succ]
theorem vJ{ts:Q05}{k:Nat}(hk:k<ts.length)(h:vI ts k=false):dX ts=false:=by
 have:uA ts ts.length=false:=by
  unfold uA;rw[List.all_eq_false];exact⟨k,by simpa using hk,by simp[h]⟩
 simp[dX,this]
theorem xE{ts:Q05}(h:0<ts.length):vI ts 0=ts[0].ok:=by simp[vI,VG h]
theorem rZ{ts:Q05}{j:Nat}(h:j+1<ts.length):vI ts (j+1)=(ts[j+1].ok&&ts[j].ahead ts[j+1]):=by
 have h':j<ts.length:=by omega
 simp[vI,VG h,VG h']
theorem LH{ts:Q05}{k:Nat}(h:k<ts.length)(hn:ts[k].ok=false):vI ts k=false:=by
 simp[vI,VG h,hn]
theorem xG(b off cap:Nat)(ts:Q05)(w:af)(hlen:ts.length<=maxLen)(hr:lh w b off ts)(hb:b<w.heap.size)(hf:∀t∈ts,t.fits):
    Calls prog 130 #[.slice (some ⟨b,off,none⟩) ts.length cap] w fun e w'=>e=.returned (.bool (dX ts))/\ag w w':=by
  unfold maxLen at hlen;by_cases hbig:40<ts.length
  · have HT:Hid (dX ts=false):=by show _=_;simp[dX];omega
    go_enter func130,ntmps130;go_wp2;go_ret;exact⟨ah HT.out.symm,Vv _ _⟩
  · go_enter func130,ntmps130;go_wp2;go_loopw[3] (fun i wr=>∃k:Nat,k<=ts.length/\i=.int .i64 k/\Hid (uA ts k=true)/\ag w wr) (fun i _=>ts.length-(intOf i).toNat);case atStart=>exact⟨0,Vy _,rfl,rfl,Vv _ _⟩
    obtain⟨k,hk,rfl,hu,hB⟩:=hrel;by_cases hlt:k<ts.length
    · have ZW:=qD (hr.below hB hb);have WT:=qD hf;obtain⟨t0,t1,t2,t3,t4,t5⟩:=ZW.out k hlt;have hk1:=bI k;have hk2:(k:Int)<(ts.length:Int):=by omega
      clear hr hf;have c0:=cell_regrown t0;have c1:=cell_regrown t1;have c2:=cell_regrown t2;have c3:=cell_regrown t3;have c4:=cell_regrown t4;have c5:=cell_regrown t5;have Xm:Hid (∀d os,ag w (grow (redrawn wr d) os)):=fun d os=>hB.trans ((below_regrown wr d os).mono hB.size);clear t0 t1 t2 t3 t4 t5;go_wp2_with fail;have Zq:Hid (∀d os,Calls prog 198 #[.agg #[.string ts[k].a,.string ts[k].b,.string ts[k].r,.string ts[k].c,.string ts[k].d,.string ts[k].s]] (grow (redrawn wr d) os) fun e w''=>e=.returned (.bool ts[k].ok)/\∃p:Regrown,w''=grow (redrawn wr p.d) p.os):=by
        obtain⟨f0,f1,f2,f3,f4,f5⟩:=WT.out ts[k] (Vs hlt);exact fO fun W' _=>eF _ _ _ _ _ _ _ f0 f1 f2 f3 f4 f5
      cases hok:ts[k].ok;case false=>
        have HT:Hid (dX ts=false):=vJ hlt (LH hlt hok);rw[hok]at Zq;clear hok;refine wp_region_quiet_below (by kernel_rfl) (by kernel_rfl) ?_
        repeat(go_big_quiet_step (exact Zq.out _ _))
        refine wpQuiet_nil ?_;rintro _ ⟨⟨dq,osq⟩,rfl⟩;go_wp2;go_ret;exact⟨ah HT.out.symm,Xm.out dq osq⟩
      rw[hok]at Zq;by_cases hz:k=0
      · have HU:Hid (uA ts (k+1)=true):=by show _=_;rw[rY,hu.out];subst hz;rw[xE hlt,hok];rfl
        have hk8:decide ((0:Int)<(k:Int))=false:=by simp;omega
        have hk9:decide (0<k)=false:=by simp;omega
        clear hok hz;refine wp_region_quiet_below (by kernel_rfl) (by kernel_rfl) ?_
        repeat(go_big_quiet_step (exact Zq.out _ _))
        refine wpQuiet_nil ?_;rintro _ ⟨⟨dq,osq⟩,rfl⟩;go_wp2;go_roundw;case rel=>exact⟨k+1,by omega,by go_num,HU,Xm.out dq osq⟩
        simp[intOf];omega
      · obtain⟨m,hm⟩:∃m:Nat,k=m+1:=⟨k-1,by omega⟩;have Xh:m<ts.length:=by omega
        obtain⟨q0,q1,q2,q3,q4,q5⟩:=ZW.out m Xh;replace q0:=cell_regrown q0;replace q1:=cell_regrown q1;replace q2:=cell_regrown q2;replace q3:=cell_regrown q3;replace q4:=cell_regrown q4;replace q5:=cell_regrown q5;have hkm:(k:Int)-1=(m:Int):=by omega
        have hm1:=bI m;have hm2:(m:Int)<(ts.length:Int):=by omega
        have hpos:(0:Int)<(k:Int):=by omega
        have hposN:0<k:=by omega
        have hwm:IntKind.i64.wrap (m:Int)=(m:Int):=by rw[IntKind.wrap_i64];omega
        have HA:Hid (vI ts k=ts[m].ahead ts[k]):=by show _=_;subst hm;rw[rZ hlt,hok];rfl
        have ZX:Hid (∀d os,Calls prog 199 #[.agg #[.string ts[m].a,.string ts[m].b,.string ts[m].r,.string ts[m].c,.string ts[m].d,.string ts[m].s],.agg #[.string ts[k].a,.string ts[k].b,.string ts[k].r,.string ts[k].c,.string ts[k].d,.string ts[k].s]] (grow (redrawn wr d) os) fun e w''=>e=.returned (.bool (ts[m].ahead ts[k]))/\∃p:Regrown,w''=grow (redrawn wr p.d) p.os):=by
          obtain⟨f0,f1,f2,f3,f4,f5⟩:=WT.out ts[k] (Vs hlt);obtain⟨g0,g1,g2,g3,g4,g5⟩:=WT.out ts[m] (Vs Xh);exact fO fun W' _=>tu _ _ _ _ _ _ _ _ _ _ _ _ _ g0 g1 g2 g3 g4 g5 f0 f1 f2 f3 f4 f5
        clear hm hz hok;cases ha:ts[m].ahead ts[k];case false=>
          have HT:Hid (dX ts=false):=vJ hlt (by rw[HA.out,ha]);rw[ha]at ZX;clear ha HA;refine wp_region_quiet_below (by kernel_rfl) (by kernel_rfl) ?_
          repeat(go_big_quiet_step (first|exact Zq.out _ _|exact ZX.out _ _))
          refine wpQuiet_nil ?_;rintro _ ⟨⟨dq,osq⟩,rfl⟩;go_wp2;go_ret;exact⟨ah HT.out.symm,Xm.out dq osq⟩
        have HU:Hid (uA ts (k+1)=true):=by show _=_;rw[rY,hu.out,HA.out,ha];rfl
        rw[ha]at ZX;clear ha HA;refine wp_region_quiet_below (by kernel_rfl) (by kernel_rfl) ?_
        repeat(go_big_quiet_step (first|exact Zq.out _ _|exact ZX.out _ _))
        refine wpQuiet_nil ?_;rintro _ ⟨⟨dq,osq⟩,rfl⟩;go_wp2;go_roundw;case rel=>exact⟨k+1,by omega,by go_num,HU,Xm.out dq osq⟩
        simp[intOf];omega
    · go_wp2;go_ret;exact⟨ah (by have e:k=ts.length:=(by omega);subst e;simp[dX,hu.out];omega),hB⟩
end Go.Proofs.YtojjoblnpldniaaGreat
namespace Go.Proofs.YtojjoblnpldniaaGreat
open Pl
theorem Av:∀x y z:List UInt8,Op.bytesLess x y=true->Op.bytesLess y z=true->Op.bytesLess x z=true
 | [],_,[],h,k=>by cases ‹List UInt8› <;> simp [Op.bytesLess] at h k
 | [],_,_::_,_,_=>rfl
 | _::_,[],_,h,_=>by simp[Op.bytesLess]at h
 | _::_,_::_,[],_,k=>by simp[Op.bytesLess]at k
 | a::x,b::y,c::z,h,k=>by
  simp only[Op.bytesLess,Bool.or_eq_true,Vw,VH,beq_iff_eq]at h k ⊢;rcases h with h|⟨h,h'⟩
  ·rcases k with k|⟨k,k'⟩
   ·exact .inl (UInt8.lt_trans h k)
   exact .inl (k ▸ h)
  rcases k with k|⟨k,k'⟩
  ·exact .inl (h ▸ k)
  exact .inr ⟨h.trans k,Av x y z h' k'⟩
def Tp.text(t:Tp):List UInt8:=(aX t.a t.b t.r t.c t.d t.s).toList
theorem uC{x y:Tp}(hx:x.ok=true)(hy:y.ok=true):x.ahead y=Op.bytesLess x.text y.text:=uy hx hy
theorem GJ{x y:Tp}(h:x.ahead y=true):x.ok=true/\y.ok=true:=by
 unfold Tp.ahead gJ at h;simp only[Vw]at h;exact⟨h.1.1,h.1.2⟩
theorem GK{x y z:Tp}(h:x.ahead y=true)(k:y.ahead z=true):x.ahead z=true:=by
 obtain⟨hx,hy⟩:=GJ h;obtain⟨-,hz⟩:=GJ k;rw[uC hx hy]at h;rw[uC hy hz]at k;rw[uC hx hz];exact Av _ _ _ h k
def Up(l:Q05):Prop:=l.Pairwise fun x y=>x.ahead y=true
theorem Tx{ts:Q05}(h:dX ts=true):Up ts/\(∀t∈ts,t.ok=true)/\ts.length<=40:=by
 unfold dX at h;simp only[Vw,VH]at h;obtain⟨hl,hu⟩:=h;have hat:∀i,i<ts.length->vI ts i=true:=fun i hi=>by
  unfold uA at hu;exact VF.1 hu i (List.mem_range.2 hi)
 have hok:∀i (hi:i<ts.length),ts[i].ok=true:=fun i hi=>by
  have:=hat i hi;cases i with
  | zero=>rw[xE hi]at this;exact this
  | succ j=>rw[rZ hi]at this;simp only[Vw]at this;exact this.1
 have hnx:∀i (hi:i+1<ts.length),ts[i].ahead ts[i+1]=true:=fun i hi=>by
  have:=hat (i+1) hi;rw[rZ hi]at this;simp only[Vw]at this;exact this.2
 refine⟨List.pairwise_iff_getElem.2 fun i j hi hj hij=>?_,fun t ht=>?_,hl⟩
 ·obtain⟨d,rfl⟩:∃d,j=i+1+d:=⟨j-(i+1),by omega⟩
  induction d with
  | zero=>exact hnx i hj
  | succ d ih=>exact GK (ih (by omega) (by omega)) (hnx (i+1+d) (by omega))
 obtain⟨i,hi,rfl⟩:=Wj.1 ht;exact hok i hi
theorem MR{ts:Q05}(h:dX ts=true):ts.length<=40:=(Tx h).2.2
def jW:List Tp->Tp->List Tp
 | [],t=>[t]
 | x::xs,t=>if x.ahead t then x::jW xs t else t::x::xs
theorem PM(ts:Q05)(t y:Tp):y∈jW ts t↔y=t\/y∈ts:=by
 induction ts with
 | nil=>simp[jW]
 | cons x xs ih =>
  unfold jW;split
  ·simp only[VL,ih];constructor
   ·rintro(h|h|h)
    ·exact .inr (.inl h)
    ·exact .inl h
    exact .inr (.inr h)
   rintro(h|h|h)
   ·exact .inr (.inl h)
   ·exact .inl h
   exact .inr (.inr h)
  simp
theorem LJ(ts:Q05)(t:Tp)(k:Nat)(hk:k<=ts.length)(h1:∀i (h:i<ts.length),i<k->ts[i].ahead t=true)(h2:∀h:k<ts.length,ts[k].ahead t=false):jW ts t=ts.take k++t::ts.drop k:=by
 induction ts generalizing k with
 | nil=>simp[jW]
 | cons x xs ih =>
  cases k with
  | zero =>
   have:=h2 (by simp);simp only[List.getElem_cons_zero]at this;simp[jW,this]
  | succ k =>
   have hx:=h1 0 (by simp) (by omega);simp only[List.getElem_cons_zero]at hx;have:=ih k (by simpa using hk) (fun i hi hik=>by have:=h1 (i+1) (by simpa using hi) (by omega);simpa using this) (fun h=>by have:=h2 (by simpa using h);simpa using this);simp[jW,hx,this]
open ChangeAt ChangeShapes Maps RowKit WideShapes
theorem uD{w:af}{b off:Nat}{ts:Q05}(h:lh w b off ts):∀j u,(bq ts)[j]?=some u->w.cell? ((⟨b,off,none⟩:Addr).add j)=some u:=by
 intro j u hu;have hl:=jC ts;have hj:j<ts.length*6:=by
  rcases Nat.lt_or_ge j (bq ts).length with h|h
  ·omega
  rw[List.getElem?_eq_none h]at hu;cases hu
 have hi:j / 6<ts.length:=by omega
 have hr:j%6<6:=Nat.mod_lt _ (by omega);have e:j=j / 6*6+j%6:=by omega
 rw[e,vG ts _ hi _ hr]at hu;rw[show((⟨b,off,none⟩:Addr).add j)=⟨b,off+j / 6*6+j%6,none⟩ by rw[show(⟨b,off,none⟩:Addr).add j=⟨b,off+j,none⟩ by simp[Addr.add]];congr 1;omega];obtain⟨c0,c1,c2,c3,c4,c5⟩:=h (j / 6) hi;have h6:j%6=0\/j%6=1\/j%6=2\/j%6=3\/j%6=4\/j%6=5:=by omega
 rcases h6 with e6|e6|e6|e6|e6|e6<;>rw[e6]at hu ⊢ <;>simp only[Tp.row,List.getElem?_cons_zero,List.getElem?_cons_succ]at hu<;>rw[<-hu]<;>assumption
theorem Dt{w:af}{b off:Nat}{ts:Q05}(h:lh w b off ts)(k:Nat):lh w b off (ts.take k):=fun i hi=>by
 have:=h i (by simp at hi;omega);simpa using this
theorem MS{w:af}{b off:Nat}{ts:Q05}(h:lh w b off ts)(k:Nat):lh w b (off+k*6) (ts.drop k):=fun i hi=>by
 have:=h (k+i) (by simp at hi;omega);simp only[List.getElem_drop];rw[show off+k*6+i*6=off+(k+i)*6 by omega];exact this
theorem r9(ts:Q05):∀u∈bq ts,u.oneCell'=true:=by
 intro u hu;unfold bq at hu;obtain⟨t,-,h⟩:=VP.1 hu;exact vH t u h
theorem vL(xs ys:Q05):bq (xs++ys)=bq xs++bq ys:=by simp[bq]
def wZ(w:World)(g:Nat)(t:Tp):Prop:=w.cell? ⟨g,0,none⟩=some (.string t.a)/\w.cell? ⟨g,1,none⟩=some (.string t.b)/\w.cell? ⟨g,2,none⟩=some (.string t.r)/\w.cell? ⟨g,3,none⟩=some (.string t.c)/\w.cell? ⟨g,4,none⟩=some (.string t.d)/\w.cell? ⟨g,5,none⟩=some (.string t.s)/\g<w.heap.size
theorem wZ.below{w w':af}{g:Nat}{t:Tp}(h:wZ w g t)(hb:ag w w'):wZ w' g t :=
 ⟨mK hb h.2.2.2.2.2.2 h.1,mK hb h.2.2.2.2.2.2 h.2.1,mK hb h.2.2.2.2.2.2 h.2.2.1,mK hb h.2.2.2.2.2.2 h.2.2.2.1,mK hb h.2.2.2.2.2.2 h.2.2.2.2.1,mK hb h.2.2.2.2.2.2 h.2.2.2.2.2.1,Vt h.2.2.2.2.2.2 hb.size⟩
theorem EX(w:af)(t:Tp)(T:TypeId):wZ (w.alloc (.cells #[.string t.a,.string t.b,.string t.r,.string t.c,.string t.d,.string t.s] T)) w.heap.size t:=by
 refine⟨?_,?_,?_,?_,?_,?_,?_⟩<;>simp
theorem wZ.grown{w w':af}{g:Nat}{t:Tp}{row:Option Nat}(h:wZ w g t)(hg:w.grownBy w' row)(hne:some g≠row):wZ w' g t :=
 ⟨hg.cell h.1 hne,hg.cell h.2.1 hne,hg.cell h.2.2.1 hne,hg.cell h.2.2.2.1 hne,hg.cell h.2.2.2.2.1 hne,hg.cell h.2.2.2.2.2.1 hne,Vt h.2.2.2.2.2.2 hg.size⟩
theorem pQ{w w':af}{b off:Nat}{ts:Q05}{row:Option Nat}(h:lh w b off ts)(hg:w.grownBy w' row)(_hb:b<w.heap.size)(hne:some b≠row):lh w' b off ts:=fun i hi=>by
 obtain⟨c0,c1,c2,c3,c4,c5⟩:=h i hi;exact⟨hg.cell c0 hne,hg.cell c1 hne,hg.cell c2 hne,hg.cell c3 hne,hg.cell c4 hne,hg.cell c5 hne⟩
theorem MU{ts:Q05}{k:Nat}(h:ts.length<=k)(w:af)(ad:Addr):∀j u,(bq (ts.drop k))[j]?=some u->w.cell? (ad.add j)=some u:=fun j u hu=>by
 rw[VU h]at hu;simp[bq]at hu
theorem fI{W:af}{base base':Nat}{e:TypeId}{size:Nat}{v:Value}{k:Nat}{xs:Q03}(h:W.ownsRow base e size v k xs)(hb:base'<=base):W.ownsRow base' e size v k xs:=by
 refine⟨h.1,?_⟩;rcases h.2 with hn|⟨g,cap,cur,hv,hbg,rest⟩
 ·exact .inl hn
 exact .inr ⟨g,cap,cur,hv,Vz hb hbg,rest⟩
theorem dG{p:Prop}(h:p):Hid p:=h
theorem PN{w:af}{g:Nat}{t:Tp}(h0:w.cell? ⟨g,0,none⟩=some (.string t.a))(h1:w.cell? ⟨g,1,none⟩=some (.string t.b))(h2:w.cell? ⟨g,2,none⟩=some (.string t.r))(h3:w.cell? ⟨g,3,none⟩=some (.string t.c))(h4:w.cell? ⟨g,4,none⟩=some (.string t.d))(h5:w.cell? ⟨g,5,none⟩=some (.string t.s))(hl:g<w.heap.size):wZ w g t:=⟨h0,h1,h2,h3,h4,h5,hl⟩
theorem LM{w W w':af}{b n o:Nat}{x0 x1 x2 x3 x4 x5 y0 y1 y2 y3 y4 y5:Value}(h:W.cell? ⟨b,o,none⟩=some x0/\W.cell? ⟨b,o+1,none⟩=some x1/\W.cell? ⟨b,o+2,none⟩=some x2/\W.cell? ⟨b,o+3,none⟩=some x3/\W.cell? ⟨b,o+4,none⟩=some x4/\W.cell? ⟨b,o+5,none⟩=some x5/\W.cell? ⟨n,0,none⟩=some y0/\W.cell? ⟨n,1,none⟩=some y1/\W.cell? ⟨n,2,none⟩=some y2/\W.cell? ⟨n,3,none⟩=some y3/\W.cell? ⟨n,4,none⟩=some y4/\W.cell? ⟨n,5,none⟩=some y5/\b<W.heap.size/\n<W.heap.size/\Below n w W)(hb:ag W w'):
  w'.cell? ⟨b,o,none⟩=some x0/\w'.cell? ⟨b,o+1,none⟩=some x1/\w'.cell? ⟨b,o+2,none⟩=some x2/\w'.cell? ⟨b,o+3,none⟩=some x3/\w'.cell? ⟨b,o+4,none⟩=some x4/\w'.cell? ⟨b,o+5,none⟩=some x5/\w'.cell? ⟨n,0,none⟩=some y0/\w'.cell? ⟨n,1,none⟩=some y1/\w'.cell? ⟨n,2,none⟩=some y2/\w'.cell? ⟨n,3,none⟩=some y3/\w'.cell? ⟨n,4,none⟩=some y4/\w'.cell? ⟨n,5,none⟩=some y5/\b<w'.heap.size/\n<w'.heap.size/\Below n w w':=by
 obtain⟨h0,h1,h2,h3,h4,h5,g0,g1,g2,g3,g4,g5,hB,hN,hw⟩:=h;exact⟨mK hb hB h0,mK hb hB h1,mK hb hB h2,mK hb hB h3,mK hb hB h4,mK hb hB h5,mK hb hN g0,mK hb hN g1,mK hb hN g2,mK hb hN g3,mK hb hN g4,mK hb hN g5,Vt hB hb.size,Vt hN hb.size,hw.trans (hb.mono (Nat.le_of_lt hN))⟩
end Go.Proofs.YtojjoblnpldniaaGreat
namespace Go.Proofs.YtojjoblnpldniaaGreat
open Go.Sort
open ChangeShapes WideShapes ChangeAt RowKit
open Pl
attribute [local go_sem ↓] Go.wp_at_zero Go.wp_at_succ
theorem xH(b off cap:Nat)(ts:Q05)(w:af)(hlen:ts.length<=maxLen)(hr:lh w b off ts)(hb:b<w.heap.size)(hf:∀t∈ts,t.fits):
    Calls prog 41 #[.slice (some ⟨b,off,none⟩) ts.length cap] w fun e w'=>e=.returned (.bool (dX ts))/\ag w w':=by
  unfold maxLen at hlen;by_cases hbig:40<ts.length
  · have HT:Hid (dX ts=false):=by show _=_;simp[dX];omega
    go_enter func41,ntmps41;go_wp2;go_ret;exact⟨ah HT.out.symm,Vv _ _⟩
  · go_enter func41,ntmps41;go_wp2;go_loopw[10] (fun i wr=>∃k:Nat,k<=ts.length/\i=.int .i64 k/\Hid (uA ts k=true)/\ag w wr) (fun i _=>ts.length-(intOf i).toNat);case atStart=>exact⟨0,Vy _,rfl,rfl,Vv _ _⟩
    obtain⟨k,hk,rfl,hu,hB⟩:=hrel;by_cases hlt:k<ts.length
    · have ZW:=qD (hr.below hB hb);have WT:=qD hf;obtain⟨t0,t1,t2,t3,t4,t5⟩:=ZW.out k hlt;have hk1:=bI k;have hk2:(k:Int)<(ts.length:Int):=by omega
      clear hr hf;obtain⟨W1,hW1⟩:=eQx (wr.alloc (.cells #[.string ts[k].a,.string ts[k].b,.string ts[k].r,.string ts[k].c,.string ts[k].d,.string ts[k].s] 29));have hal:ag wr W1:=by rw[hW1];exact(Vv _ _).alloc (Vu _) _
      have c0:∀d os,(grow (redrawn W1 d) os).cell? ⟨wr.heap.size,0,none⟩=some (.string ts[k].a):=cell_regrown (by rw[hW1];simp);have c1:∀d os,(grow (redrawn W1 d) os).cell? ⟨wr.heap.size,1,none⟩=some (.string ts[k].b):=cell_regrown (by rw[hW1];simp);have c2:∀d os,(grow (redrawn W1 d) os).cell? ⟨wr.heap.size,2,none⟩=some (.string ts[k].r):=cell_regrown (by rw[hW1];simp);have c3:∀d os,(grow (redrawn W1 d) os).cell? ⟨wr.heap.size,3,none⟩=some (.string ts[k].c):=cell_regrown (by rw[hW1];simp);have c4:∀d os,(grow (redrawn W1 d) os).cell? ⟨wr.heap.size,4,none⟩=some (.string ts[k].d):=cell_regrown (by rw[hW1];simp);have c5:∀d os,(grow (redrawn W1 d) os).cell? ⟨wr.heap.size,5,none⟩=some (.string ts[k].s):=cell_regrown (by rw[hW1];simp);have Xm:Hid (∀d os,ag w (grow (redrawn W1 d) os)):=fun d os=>hB.trans ((hal.mono hB.size).trans ((below_regrown W1 d os).mono (Vz hB.size hal.size)));have HK:Hid (∀p v,wr.cell? p=some v->W1.cell? p=some v):=fun p v h=>cell_later hal h;clear hal;go_wp2_with fail;rw[<-hW1];clear hW1 t0 t1 t2 t3 t4 t5;have Zq:Hid (∀d os,Calls prog 62 #[.agg #[.string ts[k].a,.string ts[k].b,.string ts[k].r,.string ts[k].c,.string ts[k].d,.string ts[k].s]] (grow (redrawn W1 d) os) fun e w''=>e=.returned (.bool ts[k].ok)/\∃p:Regrown,w''=grow (redrawn W1 p.d) p.os):=by
        obtain⟨f0,f1,f2,f3,f4,f5⟩:=WT.out ts[k] (Vs hlt);exact fO fun W' _=>eG _ _ _ _ _ _ _ f0 f1 f2 f3 f4 f5
      cases hok:ts[k].ok;case false=>
        have HT:Hid (dX ts=false):=vJ hlt (LH hlt hok);rw[hok]at Zq;clear hok;refine wp_region_quiet_below (by kernel_rfl) (by kernel_rfl) ?_
        repeat(go_big_quiet_step (exact Zq.out _ _))
        refine wpQuiet_nil ?_;rintro _ ⟨⟨dq,osq⟩,rfl⟩;go_wp2;go_ret;exact⟨ah HT.out.symm,Xm.out dq osq⟩
      rw[hok]at Zq;by_cases hz:k=0
      · have HU:Hid (uA ts (k+1)=true):=by show _=_;rw[rY,hu.out];subst hz;rw[xE hlt,hok];rfl
        have hk8:decide ((0:Int)<(k:Int))=false:=by simp;omega
        have hk9:decide (0<k)=false:=by simp;omega
        clear hok hz;refine wp_region_quiet_below (by kernel_rfl) (by kernel_rfl) ?_
        repeat(go_big_quiet_step (exact Zq.out _ _))
        refine wpQuiet_nil ?_;rintro _ ⟨⟨dq,osq⟩,rfl⟩;go_wp2;go_roundw;case rel=>exact⟨k+1,by omega,by go_num,HU,Xm.out dq osq⟩
        simp[intOf];omega
      · obtain⟨m,hm⟩:∃m:Nat,k=m+1:=⟨k-1,by omega⟩;have Xh:m<ts.length:=by omega
        obtain⟨q0,q1,q2,q3,q4,q5⟩:=ZW.out m Xh;replace q0:=cell_regrown (HK.out _ _ q0);replace q1:=cell_regrown (HK.out _ _ q1);replace q2:=cell_regrown (HK.out _ _ q2);replace q3:=cell_regrown (HK.out _ _ q3);replace q4:=cell_regrown (HK.out _ _ q4);replace q5:=cell_regrown (HK.out _ _ q5);have hkm:(k:Int)-1=(m:Int):=by omega
        have hm1:=bI m;have hm2:(m:Int)<(ts.length:Int):=by omega
        have hpos:(0:Int)<(k:Int):=by omega
        have hposN:0<k:=by omega
        have hwm:IntKind.i64.wrap (m:Int)=(m:Int):=by rw[IntKind.wrap_i64];omega
        have HA:Hid (vI ts k=ts[m].ahead ts[k]):=by show _=_;subst hm;rw[rZ hlt,hok];rfl
        have ZX:Hid (∀d os,Calls prog 110 #[.agg #[.string ts[m].a,.string ts[m].b,.string ts[m].r,.string ts[m].c,.string ts[m].d,.string ts[m].s],.agg #[.string ts[k].a,.string ts[k].b,.string ts[k].r,.string ts[k].c,.string ts[k].d,.string ts[k].s]] (grow (redrawn W1 d) os) fun e w''=>e=.returned (.bool (ts[m].ahead ts[k]))/\∃p:Regrown,w''=grow (redrawn W1 p.d) p.os):=by
          obtain⟨f0,f1,f2,f3,f4,f5⟩:=WT.out ts[k] (Vs hlt);obtain⟨g0,g1,g2,g3,g4,g5⟩:=WT.out ts[m] (Vs Xh);exact fO fun W' _=>Ct _ _ _ _ _ _ _ _ _ _ _ _ _ g0 g1 g2 g3 g4 g5 f0 f1 f2 f3 f4 f5
        clear hm hz hok;cases ha:ts[m].ahead ts[k];case false=>
          have HT:Hid (dX ts=false):=vJ hlt (by rw[HA.out,ha]);rw[ha]at ZX;clear ha HA;refine wp_region_quiet_below (by kernel_rfl) (by kernel_rfl) ?_
          repeat(go_big_quiet_step (first|exact Zq.out _ _|exact ZX.out _ _))
          refine wpQuiet_nil ?_;rintro _ ⟨⟨dq,osq⟩,rfl⟩;go_wp2;go_ret;exact⟨ah HT.out.symm,Xm.out dq osq⟩
        have HU:Hid (uA ts (k+1)=true):=by show _=_;rw[rY,hu.out,HA.out,ha];rfl
        rw[ha]at ZX;clear ha HA;refine wp_region_quiet_below (by kernel_rfl) (by kernel_rfl) ?_
        repeat(go_big_quiet_step (first|exact Zq.out _ _|exact ZX.out _ _))
        refine wpQuiet_nil ?_;rintro _ ⟨⟨dq,osq⟩,rfl⟩;go_wp2;go_roundw;case rel=>exact⟨k+1,by omega,by go_num,HU,Xm.out dq osq⟩
        simp[intOf];omega
    · go_wp2;go_ret;exact⟨ah (by have e:k=ts.length:=(by omega);subst e;simp[dX,hu.out];omega),hB⟩
end Go.Proofs.YtojjoblnpldniaaGreat
namespace Go.Proofs.YtojjoblnpldniaaGreat
open Go.Sort
open ChangeShapes WideShapes ChangeAt RowKit
open Pl
attribute [local go_sem ↓] Go.wp_at_zero Go.wp_at_succ
theorem xI(ad:Q02)(cap:Nat)(w:af):
  Calls prog 130 #[.slice ad 0 cap] w fun e w'=>e=.returned (.bool (dX []))/\ag w w':=by
 go_enter func130,ntmps130;go_wp2;go_loopw[3] (fun i wr=>∃k:Nat,k=0/\i=.int .i64 k/\ag w wr) (fun i _=>(intOf i).toNat);case atStart=>exact⟨0,rfl,rfl,Vv _ _⟩
 obtain⟨k,rfl,rfl,hB⟩:=hrel;go_wp2;go_ret;exact⟨rfl,hB⟩
theorem xJ(ad:Q02)(cap:Nat)(w:af):
  Calls prog 41 #[.slice ad 0 cap] w fun e w'=>e=.returned (.bool (dX []))/\ag w w':=by
 go_enter func41,ntmps41;go_wp2;go_loopw[10] (fun i wr=>∃k:Nat,k=0/\i=.int .i64 k/\ag w wr) (fun i _=>(intOf i).toNat);case atStart=>exact⟨0,rfl,rfl,Vv _ _⟩
 obtain⟨k,rfl,rfl,hB⟩:=hrel;go_wp2;go_ret;exact⟨rfl,hB⟩
theorem xK(ad:Q02)(cap:Nat)(ts:Q05)(w:af)(hlen:ts.length<=maxLen)(hs:Sl w ad ts)(hf:∀t∈ts,t.fits):
  Calls prog 130 #[.slice ad ts.length cap] w fun e w'=>e=.returned (.bool (dX ts))/\ag w w':=by
 rcases hs with rfl|⟨b,off,rfl,hb,hr⟩
 ·exact xI ad cap w
 exact xG b off cap ts w hlen hr hb hf
theorem oM(ad:Q02)(cap:Nat)(ts:Q05)(w:af)(hlen:ts.length<=maxLen)(hs:Sl w ad ts)(hf:∀t∈ts,t.fits):
  Calls prog 41 #[.slice ad ts.length cap] w fun e w'=>e=.returned (.bool (dX ts))/\ag w w':=by
 rcases hs with rfl|⟨b,off,rfl,hb,hr⟩
 ·exact xJ ad cap w
 exact xH b off cap ts w hlen hr hb hf
end Go.Proofs.YtojjoblnpldniaaGreat
namespace Go.Proofs.YtojjoblnpldniaaGreat
open ChangeShapes WideShapes ChangeAt RowKit
open Pl
set_option maxRecDepth 100000 in
theorem Cv(ad:Q02)(cap:Nat)(rs:Q08)(w:af)(hlen:rs.length<=1048576)(hs:jo w ad rs)(hl:∀r∈rs,r.e.light)(hk:∀r∈rs,fo rs.length r.e.kids):
  Calls prog 260 #[.slice ad rs.length cap] w fun e w'=>e=.returned (.slice (some ⟨w.heap.size,0,none⟩) rs.length rs.length)/\Fil w w' w.heap.size rs.length (bools (dB (ai rs))):=by
 have HS:=az hs;have HL:=az hl;have HK:=az hk;clear hs hl hk;obtain⟨inf,hi,hz0,hz1,hz2⟩:=info_parts zW;go_enter func260,ntmps260;go_wp2_with(at_make;refine wpList_make_full _ rfl _ _ 338 rfl w.heap.size 4 inf (.bool false) 1 underlying338 hi hz0 hz1 .i64 .i64 _ _ rs.length rfl rfl rfl rfl (by rw[hz2];omega) (by unfold maxLen;omega) (Vu _) ?_;intro w0 hown0 XT);have HF0:Hid (Fil w w0 w.heap.size rs.length (bools (List.replicate rs.length false))):=by
  have:=Dh (v:=.bool false) hown0 XT;show Fil _ _ _ _ _;simpa[bools] using this
 clear hown0 XT hi hz0 hz1 hz2;go_loopw[4] (fun i wr=>∃(m:Nat) (out:List Bool),m<=rs.length/\i=.int .i64 ((m:Int)-1)/\out.length=rs.length/\Hid (ed (ai rs) m out=dB (ai rs))/\Hid (Fil w wr w.heap.size rs.length (bools out))) (fun i _=>(intOf i+1).toNat);case atStart=>exact⟨rs.length,List.replicate rs.length false,Vu _,by go_num,by simp,(by show _=_;unfold dB;rw[ay]),HF0⟩
 obtain⟨m,out,hm,rfl,hol,HN,HF⟩:=hrel;by_cases hm0:0<m
 ·obtain⟨m,rfl⟩:∃m',m=m'+1:=⟨m-1,by omega⟩;have hmi:(((m+1:Nat):Int)-1)=(m:Int):=by omega
  rw[hmi];have hlt:m<rs.length:=by omega
  rcases HS.out.below HF.out.below with rfl|⟨b,off,rfl,hb,hr,hok⟩
  ·simp at hlt
  obtain⟨t0,t1,t2,t3,t4⟩:=hr m hlt;have Xc:Hid (rs[m].ok _):=hok rs[m] (Vs hlt);have lg:=(HL.out rs[m] (Vs hlt)).2;have HKI:Hid (fo rs.length rs[m].e.kids):=HK.out rs[m] (Vs hlt);have hk1:=bI m;have hk2:(m:Int)<(rs.length:Int):=by omega
  have hbw:b<w.heap.size:=by
   rcases HS.out with h|⟨b',off',h1,h2,-⟩
   ·rw[h]at hlt;simp at hlt
   injection h1 with h1;injection h1 with h1;omega
  have HR:Hid (ve wr b (off+m*5) rs[m]):=hr m hlt;have ZQ:Hid (ed (ai rs) m (bf m rs[m].e.kind rs[m].e.kids 0 out)=dB (ai rs)):=by
   show _=_;rw[<-HN.out,zX _ _ _ (by rw[ay];exact hlt)];simp[ai]
  clear hr hok t0 t1 t2 t3;go_wp2_with fail;clear t4;go_loopw[23] (fun i w2=>∃(j:Nat) (WU:List Bool),j<=rs[m].e.kids.length/\i=.int .i64 j/\WU.length=rs.length/\Hid (bf m rs[m].e.kind (rs[m].e.kids.drop j) j WU=bf m rs[m].e.kind rs[m].e.kids 0 out)/\Hid (Fil w w2 w.heap.size rs.length (bools WU))) (fun i _=>rs[m].e.kids.length-(intOf i).toNat);case atStart=>exact⟨0,out,Vy _,rfl,hol,rfl,HF⟩
  obtain⟨j,WU,hj,rfl,ho2,HJ,XU⟩:=hrel;have hE2:jo wr _ rs:=HS.out.below XU.out.below;have ht:ve wr b (off+m*5) rs[m]:=by
   rcases hE2 with h|⟨b',off',h1,h2,h3,-⟩
   ·exact absurd hlt (by rw[h];simp)
   injection h1 with h1;injection h1 with h1 h1';subst h1;subst h1';exact h3 m hlt
  obtain⟨t0,t1,t2,t3,t4⟩:=ht;by_cases hjl:j<rs[m].e.kids.length
  ·have hK2:rU wr rs[m].adK rs[m].e.kids:=(hE2.mem (Vs hlt)).2;rcases hK2 with hnil|⟨ba,YI,Yx,hba,hra⟩
   ·rw[hnil]at hjl;simp at hjl
   rw[Yx];have q0:=hra j hjl;have hj1:=bI j;have hj2:(j:Int)<(rs[m].e.kids.length:Int):=by omega
   obtain⟨x0,x1⟩:=HKI.out _ (Vs hjl);obtain⟨x,hx⟩:∃x:Nat,rs[m].e.kids[j]=(x:Int):=⟨rs[m].e.kids[j].toNat,by omega⟩;rw[hx]at q0 x0 x1;have c0:=XU.out.done m (by simp[bools];omega);have fz:=XU.out.free;obtain⟨v0,u0⟩:=Option.isSome_iff_exists.mp (XU.out.there x (by omega));have hbr:b<wr.heap.size:=Vt hbw XU.out.below.size;obtain⟨bo,hbo⟩:∃bo,bo=(bools WU)[m]'(by simp[bools];omega):=⟨_,rfl⟩;rw[<-hbo]at c0;clear hra Yx hE2 t1 t2 t3;have hm2:m<WU.length:=by omega
   have hbo1:bo=.bool WU[m]:=by rw[hbo];simp[bools]
   have hbo':WU[m]?.getD false=WU[m]:=by simp[hm2]
   rw[hbo1]at c0;clear hbo hbo1;cases hb0:WU[m];case true=>
    rw[hb0]at c0 hbo';have YK:Hid (Fil w (wr.setCell ⟨w.heap.size,x,none⟩ (.bool true)) w.heap.size rs.length (bools (WU.set x true))):=by show Fil _ _ _ _ _;rw[oG];exact XU.out.set _ (by simp[bools];omega) (by omega)
    have HJ2:Hid (bf m rs[m].e.kind (rs[m].e.kids.drop (j+1)) (j+1) (WU.set x true)=bf m rs[m].e.kind rs[m].e.kids 0 out):=by
     show _=_;rw[<-HJ.out,jQ _ _ _ _ _ hjl,hx];simp[*]
    go_wp2;go_roundw;case rel=>exact⟨j+1,WU.set x true,by omega,by go_num,by simp[ho2],HJ2,YK⟩
    simp[intOf]<;>omega
   rw[hb0]at c0 hbo';cases hkb:(rs[m].e.kind==6);case false=>
    have YK:Hid (Fil w (wr.setCell ⟨w.heap.size,x,none⟩ (.bool false)) w.heap.size rs.length (bools (WU.set x false))):=by show Fil _ _ _ _ _;rw[oG];exact XU.out.set _ (by simp[bools];omega) (by omega)
    have HJ2:Hid (bf m rs[m].e.kind (rs[m].e.kids.drop (j+1)) (j+1) (WU.set x false)=bf m rs[m].e.kind rs[m].e.kids 0 out):=by
     show _=_;rw[<-HJ.out,jQ _ _ _ _ _ hjl,hx];simp[*]
    go_wp2;go_roundw;case rel=>exact⟨j+1,WU.set x false,by omega,by go_num,by simp[ho2],HJ2,YK⟩
    simp[intOf]<;>omega
   cases hjb:((j:Int)==1);case true=>
    have hjn:(j==1)=true:=by simp at hjb⊢;omega
    have YK:Hid (Fil w (wr.setCell ⟨w.heap.size,x,none⟩ (.bool true)) w.heap.size rs.length (bools (WU.set x true))):=by show Fil _ _ _ _ _;rw[oG];exact XU.out.set _ (by simp[bools];omega) (by omega)
    have HJ2:Hid (bf m rs[m].e.kind (rs[m].e.kids.drop (j+1)) (j+1) (WU.set x true)=bf m rs[m].e.kind rs[m].e.kids 0 out):=by
     show _=_;rw[<-HJ.out,jQ _ _ _ _ _ hjl,hx];simp[*]
    go_wp2;go_roundw;case rel=>exact⟨j+1,WU.set x true,by omega,by go_num,by simp[ho2],HJ2,YK⟩
    simp[intOf]<;>omega
   have hjn:(j==1)=false:=by simp at hjb⊢;omega
   have YK:Hid (Fil w (wr.setCell ⟨w.heap.size,x,none⟩ (.bool false)) w.heap.size rs.length (bools (WU.set x false))):=by show Fil _ _ _ _ _;rw[oG];exact XU.out.set _ (by simp[bools];omega) (by omega)
   have HJ2:Hid (bf m rs[m].e.kind (rs[m].e.kids.drop (j+1)) (j+1) (WU.set x false)=bf m rs[m].e.kind rs[m].e.kids 0 out):=by
    show _=_;rw[<-HJ.out,jQ _ _ _ _ _ hjl,hx];simp[*]
   go_wp2;go_roundw;case rel=>exact⟨j+1,WU.set x false,by omega,by go_num,by simp[ho2],HJ2,YK⟩
   simp[intOf]<;>omega
  have HOE:Hid (ed (ai rs) m WU=dB (ai rs)):=by
   show _=_;rw[<-ZQ.out,<-HJ.out,VU (by omega)];rfl
  go_wp2;go_roundw;case rel=>exact⟨m,WU,by omega,by go_num,ho2,HOE,XU⟩
  simp[intOf]<;>omega
 obtain rfl:m=0:=by omega
 have YB:Hid (Fil w wr w.heap.size rs.length (bools (dB (ai rs)))):=by
  show Fil _ _ _ _ _;rw[<-HN.out];exact HF.out
 go_wp2;go_ret;exact⟨rfl,YB.out⟩
set_option linter.unusedVariables false
def pR(es:Q09):Prop:=∀(i:Nat) (h:i<es.length),∀x∈es[i].kids,0<=x/\x<(i:Int)
theorem Aw{es:Q09}(h:aI es=true):pR es:=by
 intro i hi x hx;unfold aI at h;simp only[Vw,VH]at h;have h1:=h.1.1.2;unfold jq at h1;rw[VF]at h1;have h2:=h1 i (by simpa using hi);unfold lc dD at h2;rw[VG hi]at h2;simp only[Option.map_some,Wn,VF,Vw,VH]at h2;have:=h2 x hx;omega
def hasB(ts:Q0b)(t r:ByteArray):Bool:=!(ak ts t r).isEmpty
theorem uE{ts:Q0b}(h:aZ ts=true){t:Ty}(ht:t∈ts){r:Rl}(hr:r∈t.rels):aP r.name=true/\aI r.expr=true:=by
 unfold aZ at h;simp only[Vw]at h;obtain⟨j,hj,rfl⟩:=V4 ht;have h1:=pJ h.2 j hj;unfold kI at h1;rw[VG hj]at h1;simp only[Vw]at h1;obtain⟨k,hk,rfl⟩:=V4 hr;have h2:=pI h1.2 k hk;unfold mG at h2;rw[VG hk]at h2;simp only[Vw]at h2;exact⟨h2.1.1,h2.2⟩
theorem Ay{ts:Q0b}{typ:ByteArray}:∀{es:Q09},aQ ts typ es=true->∀e∈es,pz ts e.allow=true/\kZ ts typ e=true
 | [],_,e,he=>by cases he
 | x::es,h,e,he=>by
  unfold aQ at h;split at h
  ·rename_i hc;simp only[Vw]at hc;rcases VL.1 he with rfl|he
   ·exact hc
   exact Ay h e he
  cases h
theorem RV{ts:Q0b}(h:gI ts=true){t:Ty}(ht:t∈ts){r:Rl}(hr:r∈t.rels){e:Ex}(he:e∈r.expr):pz ts e.allow=true/\kZ ts t.name e=true:=by
 have h1:=VF.1 h t ht;have h2:=VF.1 h1 r hr;exact Ay h2 e he
structure Fc where
 a:ByteArray
 b:ByteArray
 r:ByteArray
 c:ByteArray
 d:ByteArray
abbrev Q04:=List Fc
def Fc.u(f:Fc):ByteArray×ByteArray:=(f.c,f.d)
def EY(x y:Fc):Bool:=x.a.toList==y.a.toList&&x.b.toList==y.b.toList&&x.r.toList==y.r.toList&&x.c.toList==y.c.toList&&x.d.toList==y.d.toList
theorem GL{x y:Fc}:EY x y=true↔x=y:=by
 constructor
 ·intro h;unfold EY at h;simp only[Vw,beq_iff_eq]at h;obtain⟨⟨⟨⟨h1,h2⟩,h3⟩,h4⟩,h5⟩:=h;cases x;cases y;simp only at h1 h2 h3 h4 h5;rw[gH h1,gH h2,gH h3,gH h4,gH h5]
 rintro rfl;unfold EY;simp
def gZ(out:Q04)(f:Fc):Bool:=out.any fun g=>EY g f
theorem bW{out:Q04}{f:Fc}:gZ out f=true↔f∈out:=by
 unfold gZ;rw[VX];constructor
 ·rintro⟨g,hg,h⟩;rw[<-GL.1 h];exact hg
 intro h;exact⟨f,h,GL.2 rfl⟩
def GM(u:Q01)(x y:Q04):Prop:=∀g:Fc,g.u=u->(g∈x↔g∈y)
theorem xL{x y:Q04}{f:Fc}(h:GM f.u x y):gZ x f=gZ y f:=by
 rw[VR,bW,bW];exact h f rfl
def qY(l:Q05)(known:Q04)(f:Fc):Bool:=l.any fun t=>(t.a.toList==f.a.toList&&t.b.toList==f.b.toList&&t.r.toList==f.r.toList)&&(if t.s.toList.isEmpty then t.c.toList==f.c.toList&&t.d.toList==f.d.toList else gZ known ⟨t.c,t.d,t.s,f.c,f.d⟩)
def tF(l:Q05)(known:Q04)(over name:ByteArray)(f:Fc):Bool:=l.any fun t=>(t.a.toList==f.a.toList&&t.b.toList==f.b.toList&&t.r.toList==over.toList)&&gZ known ⟨t.c,t.d,name,f.c,f.d⟩
def fJ(l:Q05)(es:Q09)(truth:Q04)(f:Fc):Nat->List Fc->Nat->Bool
 | 0,_,_=>false
 | k+1,known,n=>match es[n]? with
  | none=>false
  | some x =>
   if x.kind=1 then qY l known f
   else if x.kind=2 then gZ known ⟨f.a,f.b,x.name,f.c,f.d⟩
   else if x.kind=3 then tF l known x.over x.name f
   else if x.kind=4 then x.kids.any fun i=>fJ l es truth f k known i.toNat
   else if x.kind=5 then x.kids.all fun i=>fJ l es truth f k known i.toNat
   else if x.kind=6 then fJ l es truth f k known (x.kids.getD 0 0).toNat && !fJ l es truth f k truth (x.kids.getD 1 0).toNat
   else false
theorem JG{l:Q05}{x y:Q04}{f:Fc}(h:GM f.u x y):qY l x f=qY l y f:=by
 unfold qY;congr 1
 funext t
 rw[xL (x:=x) (y:=y) (f:=⟨t.c,t.d,t.s,f.c,f.d⟩) h]
theorem JH{l:Q05}{x y:Q04}{ov nm:ByteArray}{f:Fc}(h:GM f.u x y):tF l x ov nm f=tF l y ov nm f:=by
 unfold tF;congr 1
 funext t
 rw[xL (x:=x) (y:=y) (f:=⟨t.c,t.d,nm,f.c,f.d⟩) h]
theorem uF{l:Q05}{es:Q09}{f:Fc}{t1 t2:Q04}(ht:GM f.u t1 t2):∀(k:Nat) (x y:Q04) (n:Nat),GM f.u x y->fJ l es t1 f k x n=fJ l es t2 f k y n
 | 0,_,_,_,_=>rfl
 | k+1,x,y,n,h=>by
  unfold fJ;cases es[n]? with
  | none=>rfl
  | some e =>
   simp only[JG h,xL (x:=x) (y:=y) (f:=⟨f.a,f.b,e.name,f.c,f.d⟩) h,JH h,uF ht k x y _ h,uF ht k t1 t2 _ ht]
def dO(ts:Q0b)(l:Q05)(out:Q04)(f:Fc):Bool:=fJ l (ak ts f.a f.r) out f (ak ts f.a f.r).length out ((ak ts f.a f.r).length-1)
theorem Du(ts:Q0b)(l:Q05):Loc Fc.u (dO ts l):=fun x y f h=>uF h _ x y _ h
def EZ(ts:Q0b)(st:Q00)(n:Int)(o:Al):List (ByteArray×ByteArray):=(au ts).filter fun k=>k.1.toList==o.t.toList&&decide (st k=n)
def sS(o:Al)(rel:ByteArray)(xu:Q0a):List Fc:=xu.map fun u=>⟨o.t,o.s,rel,u.t,u.s⟩
def xM(ts:Q0b)(st:Q00)(xu:Q0a)(n:Int)(o:Al):List Fc:=(EZ ts st n o).flatMap fun k=>sS o k.2 xu
def bP(ts:Q0b)(st:Q00)(xo xu:Q0a)(n:Int):List Fc:=xo.flatMap (xM ts st xu n)
theorem JI{ts:Q0b}{st:Q00}{xo xu:Q0a}{n:Int}{f:Fc}(h:f∈bP ts st xo xu n):f.u∈xu.map fun u=>(u.t,u.s):=by
 unfold bP xM sS at h;obtain⟨o,-,h⟩:=VP.1 h;obtain⟨k,-,h⟩:=VP.1 h;obtain⟨u,hu,rfl⟩:=VE.1 h;exact VE.2 ⟨u,hu,rfl⟩
theorem GN(ts:Q0b)(st:Q00)(xo xu:Q0a)(n:Int)(p:ByteArray×ByteArray->Bool):(bP ts st xo xu n).filter (fun f=>p f.u)=bP ts st xo (xu.filter fun u=>p (u.t,u.s)) n:=by
 unfold bP xM sS;rw[List.filter_flatMap];congr 1
 funext o
 rw[List.filter_flatMap];congr 1
 funext k
 rw[List.filter_map];rfl
theorem JJ{ts:Q0b}{st:Q00}{xo xu:Q0a}{n:Int}(h:∀k∈au ts,st k≠n):bP ts st xo xu n=[]:=by
 have:∀o,EZ ts st n o=[]:=fun o=>by
  unfold EZ;rw[List.filter_eq_nil_iff];intro k hk;simp[h k hk]
 unfold bP xM;simp[this]
section
variable  [DecidableEq Fc]
def iG(ts:Q0b)(l:Q05)(st:Q00)(xo xu:Q0a)(N:Nat):List Fc:=(List.range N).foldl (fun out (n:Nat)=>mr (dO ts l) (bP ts st xo xu (n:Int)) out) []
theorem jD(ts:Q0b)(l:Q05)(st:Q00)(xo xu:Q0a)(N:Nat):iG ts l st xo xu (N+1)=mr (dO ts l) (bP ts st xo xu (N:Int)) (iG ts l st xo xu N):=by
 unfold iG;rw[List.range_succ,List.foldl_append];rfl
theorem MV{ts:Q0b}{l:Q05}{st:Q00}{xo xu:Q0a}{N:Nat}(h:∀k∈au ts,st k<(N:Int)):∀M,N<=M->iG ts l st xo xu M=iG ts l st xo xu N:=by
 intro M hM;obtain⟨d,rfl⟩:∃d,M=N+d:=⟨M-N,by omega⟩
 induction d with
 | zero=>rfl
 | succ d ih =>
  rw[Nat.add_succ,jD,ih (by omega),JJ fun k hk=>by have:=h k hk;omega];exact O3 _
theorem Dv(ts:Q0b)(l:Q05)(st:Q00)(xo xu:Q0a):∀N,(iG ts l st xo xu N).Nodup
 | 0=>List.nodup_nil
 | N+1=>by rw[jD];exact Mo _ (Dv ts l st xo xu N)
end
open Maps
def PO(w:World)(b off:Nat)(t:Fc):Prop :=
 w.cell? ⟨b,off,none⟩=some (.string t.a)/\w.cell? ⟨b,off+1,none⟩=some (.string t.b)/\w.cell? ⟨b,off+2,none⟩=some (.string t.r)/\w.cell? ⟨b,off+3,none⟩=some (.string t.c)/\w.cell? ⟨b,off+4,none⟩=some (.string t.d)
def Vo(w:World)(b off:Nat)(ts:Q04):Prop:=∀(i:Nat) (h:i<ts.length),PO w b (off+i*5) ts[i]
def E5(w:World)(ad:Q02)(ts:Q04):Prop:=ts=[] \/ ∃b off,ad=some ⟨b,off,none⟩/\b<w.heap.size/\Vo w b off ts
theorem PO.same{w w':af}{b off:Nat}{t:Fc}(h:PO w b off t)(hc:∀o,w'.cell? ⟨b,o,none⟩=w.cell? ⟨b,o,none⟩):PO w' b off t:=by
 obtain⟨h0,h1,h2,h3,h4⟩:=h;exact⟨(hc _).trans h0,(hc _).trans h1,(hc _).trans h2,(hc _).trans h3,(hc _).trans h4⟩
theorem E5.below{w w':af}{ad:Q02}{ts:Q04}(h:E5 w ad ts)(hB:ag w w'):E5 w' ad ts:=by
 rcases h with h|⟨b,off,e,hb,hr⟩
 ·exact .inl h
 exact .inr ⟨b,off,e,Vt hb hB.size,fun i hi=>(hr i hi).same fun o=>hB.cell (p:=⟨b,o,none⟩) hb⟩
def Fc.row(t:Fc):List Value:=[.string t.a,.string t.b,.string t.r,.string t.c,.string t.d]
theorem Uf(x y:Fc){v:Bool}(h:EY x y=v)(w:af):
  (binOp .eql 52 (.agg #[.string x.a,.string x.b,.string x.r,.string x.c,.string x.d]) (.agg #[.string y.a,.string y.b,.string y.r,.string y.c,.string y.d])).run prog w=.ok (.bool v) w:=by
 subst h;go_simp;unfold EY
 (repeat' split)<;>simp_all
theorem MW{ts:Q04}{k:Nat}(h:k<ts.length){t:Fc}:gZ (ts.drop k) t=(EY ts[k] t || gZ (ts.drop (k+1)) t):=by
 unfold gZ;rw[Wi h];rfl
theorem aY{p:Prop}(h:p):Hid p:=h
structure HW(w:World)(adT:Q02)(ts:Q05)(WW:Q02)(rows:Q08)(adK:Q02)(known:Q04)(adR:Q02)(truth:Q04):Prop where
 tup:Sl w adT ts
 ex:jo w WW rows
 kn:E5 w adK known
 tr:E5 w adR truth
theorem HW.below{w w':af}{adT:Q02}{ts:Q05}{WW:Q02}{rows:Q08}{adK:Q02}{known:Q04}{adR:Q02}{truth:Q04}(h:HW w adT ts WW rows adK known adR truth)(hB:ag w w'):HW w' adT ts WW rows adK known adR truth :=
 ⟨h.tup.below hB,h.ex.below hB,h.kn.below hB,h.tr.below hB⟩
def UR(a b c d:ByteArray):Bool:=a.toList==c.toList&&b.toList==d.toList
theorem Az(a b c d:bi){v:Bool}(h:UR a b c d=v)(w:af):
  (binOp .eql 27 (.agg #[.string a,.string b]) (.agg #[.string c,.string d])).run prog w=.ok (.bool v) w:=by
 subst h;go_simp;unfold UR
 (repeat' split)<;>simp_all
theorem jo.at0{w:af}{ad:Q02}{rs:Q08}(h:jo w ad rs){k:Nat}(hk:k<rs.length):∃b off,ad=some ⟨b,off,none⟩/\ve w b (off+k*5) rs[k]/\b<w.heap.size/\rs[k].ok w:=by
 rcases h with h|⟨b',off',e,hb,hr,hok⟩
 ·rw[h]at hk;simp at hk
 exact⟨b',off',e,hr k hk,hb,hok _ (Vs hk)⟩
theorem Sl.at0{w:af}{ad:Q02}{ts:Q05}(h:Sl w ad ts){k:Nat}(hk:k<ts.length):∃b off,ad=some ⟨b,off,none⟩/\Tt w b (off+k*6) ts[k]/\b<w.heap.size:=by
 rcases h with h|⟨b',off',e,hb,hr⟩
 ·rw[h]at hk;simp at hk
 exact⟨b',off',e,hr k hk,hb⟩
theorem rU.at0{w:af}{ad:Q02}{zs:List Int}(h:rU w ad zs){k:Nat}(hk:k<zs.length):∃b off,ad=some ⟨b,off,none⟩/\w.cell? ⟨b,off+k,none⟩=some (.int .i64 zs[k])/\b<w.heap.size:=by
 rcases h with h|⟨b',off',e,hb,hr⟩
 ·rw[h]at hk;simp at hk
 exact⟨b',off',e,hr k hk,hb⟩
structure EnB(w:World)(B:Nat)(f:Fc)(x:ER):Prop where
 lt:B+1<w.heap.size
 f0:w.cell? ⟨B,0,none⟩=some (.string f.a)
 f1:w.cell? ⟨B,1,none⟩=some (.string f.b)
 f2:w.cell? ⟨B,2,none⟩=some (.string f.r)
 f3:w.cell? ⟨B,3,none⟩=some (.string f.c)
 f4:w.cell? ⟨B,4,none⟩=some (.string f.d)
 x0:w.cell? ⟨B+1,0,none⟩=some (.int .i64 x.e.kind)
 x1:w.cell? ⟨B+1,1,none⟩=some (.slice x.adA x.e.allow.length x.capA)
 x2:w.cell? ⟨B+1,2,none⟩=some (.string x.e.over)
 x3:w.cell? ⟨B+1,3,none⟩=some (.string x.e.name)
 x4:w.cell? ⟨B+1,4,none⟩=some (.slice x.adK x.e.kids.length x.capK)
theorem EnB.below{w w':af}{B:Nat}{f:Fc}{x:ER}(h:EnB w B f x)(hB:ag w w'):EnB w' B f x:=by
 have h0:B<w.heap.size:=by have:=h.lt;omega
 have c0:∀o,w'.cell? ⟨B,o,none⟩=w.cell? ⟨B,o,none⟩:=fun o=>hB.cell (p:=⟨B,o,none⟩) h0;have c1:∀o,w'.cell? ⟨B+1,o,none⟩=w.cell? ⟨B+1,o,none⟩:=fun o=>hB.cell (p:=⟨B+1,o,none⟩) h.lt;exact⟨Vt h.lt hB.size,(c0 _).trans h.f0,(c0 _).trans h.f1,(c0 _).trans h.f2,(c0 _).trans h.f3,(c0 _).trans h.f4,(c1 _).trans h.x0,(c1 _).trans h.x1,(c1 _).trans h.x2,(c1 _).trans h.x3,(c1 _).trans h.x4⟩
theorem LP{s:ByteArray}:(s.toList==[])=s.toList.isEmpty:=by cases s.toList<;>rfl
end Go.Proofs.YtojjoblnpldniaaGreat
