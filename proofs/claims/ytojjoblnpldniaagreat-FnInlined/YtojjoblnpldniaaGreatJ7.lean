/- Contracts of the two functions that look at a list of tuples. -/
import Derived.Test.YtojjoblnpldniaaGreatSq
import Derived.Test.YtojjoblnpldniaaGreatJ4
import Derived.Sort.Statements
import Derived.Test.YtojjoblnpldniaaGreatJ3
import Derived.Test.YtojjoblnpldniaaGreatJ5
open Go.Proofs.Tryz
set_option maxHeartbeats 80000000
set_option linter.defProp false
namespace Go.Proofs.YtojjoblnpldniaaGreat
open Go.Sort
open ChangeShapes WideShapes ChangeAt RowKit
open Pl
attribute [local go_sem ↓] Go.wp_at_zero Go.wp_at_succ
def Tp.ok(t:Tp):Bool:=bW t.a t.b t.r t.c t.d t.s
def Tp.ahead(t u:Tp):Bool:=gW t.a t.b t.r t.c t.d t.s u.a u.b u.r u.c u.d u.s
def wW(ts:Q05)(i:Nat):Bool:=match ts[i]? with
 | none=>true
 | some t=>t.ok&&(match i with
  | 0=>true
  | j+1=>match ts[j]? with
   | none=>true
   | some u=>u.ahead t)
def ve(ts:Q05)(k:Nat):Bool:=(List.range k).all<|wW ts
def dX(ts:Q05):Bool:=decide (ts.length<=40)&&ve ts ts.length
def sZ(ts:Q05)(k:Nat):ve ts (k+1)=(ve ts k&&wW ts k):=by simp[ve,List.range_succ]
def wX{ts:Q05}{k:Nat}(hk:k<ts.length)(h:wW ts k=false):dX ts=false:=by
 have:ve ts ts.length=false:=by
  unfold ve;rw[List.all_eq_false];exact⟨k,by simpa using hk,by simp[h]⟩
 simp[dX,this]
def yw{ts:Q05}(h:0<ts.length):wW ts 0=ts[0].ok:=by simp[wW,WS h]
def tq{ts:Q05}{j:Nat}(h:j+1<ts.length):wW ts (j+1)=(ts[j+1].ok&&ts[j].ahead ts[j+1]):=by
 have h':j<ts.length:=cq;simp[wW,WS h,WS h']
def MS{ts:Q05}{k:Nat}(h:k<ts.length)(hn:ts[k].ok=false):wW ts k=false:=by
 simp[wW,WS h,hn]
def yx(b off cap:Nat)(ts:Q05)(w:af)(hlen:ts.length<=maxLen)(hr:lQ w b off ts)(hb:cU b w)(hf:∀t∈ts,t.fits):
    Calls prog 130 #[.slice (some<|aq b off) ts.length cap] w (bj w<|.bool<|dX ts):=by
  unfold maxLen at hlen;by_cases hbig:40<ts.length
  · have HT:O (dX ts=false):=by show _=_;simp[dX];omega
    go_enter func130,ntmps130;go_wp2;go_ret;exact⟨ah HT.symm,WL _ _⟩
  · go_enter func130,ntmps130;go_wp2;go_loopw[3] (fun i wr=>∃k:Nat,k<=ts.length/\i=.int .i64 k/\O (ve ts k=true)/\ag w wr) (fun i _=>ts.length-(intOf i).toNat);case atStart=>exact⟨0,WO _,rfl,rfl,WL _ _⟩
    obtain⟨k,hk,rfl,hu,hB⟩:=hrel;by_cases hlt:k<ts.length
    · have HRB:=oP<|hr.below hB hb;have Yc:=oP hf;obtain⟨t0,t1,t2,t3,t4,t5⟩:=HRB k hlt;have hk1:=bY k;have hk2:(k:Int)<(ts.length:Int):=cq
      clear hr hf;have c0:=cell_regrown t0;have c1:=cell_regrown t1;have c2:=cell_regrown t2;have c3:=cell_regrown t3;have c4:=cell_regrown t4;have c5:=cell_regrown t5;have YE:O (∀d os,ag w<|grow (redrawn wr d) os):=fun d os=>hB.trans<|(below_regrown wr d os).mono hB.size;clear t0 t1 t2 t3 t4 t5;go_wp2_with fail;have HCT:O (∀d os,Calls prog 198 #[.agg (cg ts[k])] (grow (redrawn wr d) os) fun e w''=>e=.returned (.bool ts[k].ok)/\∃p:Regrown,w''=grow (redrawn wr p.d) p.os):=by
        obtain⟨f0,f1,f2,f3,f4,f5⟩:=Yc ts[k]<|WH hlt;exact gm fun W' _=>fe _ _ _ _ _ _ _ f0 f1 f2 f3 f4 f5
      cases hok:ts[k].ok;case false=>
        have HT:O (dX ts=false):=wX hlt<|MS hlt hok;rw[hok]at HCT;clear hok;refine wp_region_quiet_below cw cw ?_
        repeat(go_big_quiet_step (exact HCT _ _))
        refine wpQuiet_nil ?_;rintro _ ⟨⟨dq,osq⟩,rfl⟩;go_wp2;go_ret;exact⟨ah HT.symm,YE dq osq⟩
      rw[hok]at HCT;by_cases hz:k=0
      · have HU:O (ve ts (k+1)=true):=by show _=_;rw[sZ,hu];subst hz;rw[yw hlt,hok];rfl
        have hk8:decide ((0:Int)<(k:Int))=false:=by simp;omega
        have hk9:decide (0<k)=false:=by simp;omega
        clear hok hz;refine wp_region_quiet_below cw cw ?_
        repeat(go_big_quiet_step (exact HCT _ _))
        refine wpQuiet_nil ?_;rintro _ ⟨⟨dq,osq⟩,rfl⟩;go_wp2;go_roundw;case rel=>exact⟨k+1,cq,cx,HU,YE dq osq⟩
        simp[intOf];omega
      · obtain⟨m,hm⟩:∃m:Nat,k=m+1:=⟨k-1,cq⟩;have Yv:m<ts.length:=cq
        obtain⟨q0,q1,q2,q3,q4,q5⟩:=HRB m Yv;replace q0:=cell_regrown q0;replace q1:=cell_regrown q1;replace q2:=cell_regrown q2;replace q3:=cell_regrown q3;replace q4:=cell_regrown q4;replace q5:=cell_regrown q5;have hkm:(k:Int)-1=(m:Int):=cq;have hm1:=bY m;have hm2:(m:Int)<(ts.length:Int):=cq;have hpos:(0:Int)<(k:Int):=cq;have hposN:0<k:=cq;have hwm:IntKind.i64.wrap (m:Int)=(m:Int):=by rw[IntKind.wrap_i64];omega
        have HA:O (wW ts k=ts[m].ahead ts[k]):=by show _=_;subst hm;rw[tq hlt,hok];rfl
        have HCA:O (∀d os,Calls prog 199 #[.agg (cg ts[m]),.agg<|cg ts[k]] (grow (redrawn wr d) os) fun e w''=>e=.returned (.bool<|ts[m].ahead ts[k])/\∃p:Regrown,w''=grow (redrawn wr p.d) p.os):=by
          obtain⟨f0,f1,f2,f3,f4,f5⟩:=Yc ts[k]<|WH hlt;obtain⟨g0,g1,g2,g3,g4,g5⟩:=Yc ts[m]<|WH Yv;exact gm fun W' _=>ul _ _ _ _ _ _ _ _ _ _ _ _ _ g0 g1 g2 g3 g4 g5 f0 f1 f2 f3 f4 f5
        clear hm hz hok;cases ha:ts[m].ahead ts[k];case false=>
          have HT:O (dX ts=false):=wX hlt (by rw[HA,ha]);rw[ha]at HCA;clear ha HA;refine wp_region_quiet_below cw cw ?_
          repeat(go_big_quiet_step (first|exact HCT _ _|exact HCA _ _))
          refine wpQuiet_nil ?_;rintro _ ⟨⟨dq,osq⟩,rfl⟩;go_wp2;go_ret;exact⟨ah HT.symm,YE dq osq⟩
        have HU:O (ve ts (k+1)=true):=by show _=_;rw[sZ,hu,HA,ha];rfl
        rw[ha]at HCA;clear ha HA;refine wp_region_quiet_below cw cw ?_
        repeat(go_big_quiet_step (first|exact HCT _ _|exact HCA _ _))
        refine wpQuiet_nil ?_;rintro _ ⟨⟨dq,osq⟩,rfl⟩;go_wp2;go_roundw;case rel=>exact⟨k+1,cq,cx,HU,YE dq osq⟩
        simp[intOf];omega
    · go_wp2;go_ret;exact⟨ah (by have e:k=ts.length:=cq;subst e;simp[dX,hu.out];omega),hB⟩
end Go.Proofs.YtojjoblnpldniaaGreat
namespace Go.Proofs.YtojjoblnpldniaaGreat
open Pl
def BV:∀x y z:List UInt8,Op.bytesLess x y=true->Op.bytesLess y z=true->Op.bytesLess x z=true
 | [],_,[],h,k=>by cases ‹List UInt8› <;> simp [Op.bytesLess] at h k
 | [],_,_::_,_,_=>rfl
 | _::_,[],_,h,_=>by simp[Op.bytesLess]at h
 | _::_,_::_,[],_,k=>by simp[Op.bytesLess]at k
 | a::x,b::y,c::z,h,k=>by
  simp only[Op.bytesLess,Bool.or_eq_true,WM,WW,beq_iff_eq]at h k ⊢;rcases h with h|⟨h,h'⟩
  ·rcases k with k|⟨k,k'⟩
   ·exact .inl<|UInt8.lt_trans h k
   exact .inl<|k ▸ h
  rcases k with k|⟨k,k'⟩
  ·exact .inl<|h ▸ k
  exact .inr ⟨h.trans k,BV x y z h' k'⟩
def Tp.text(t:Tp):List UInt8:=(bi t.a t.b t.r t.c t.d t.s).toList
def vg{x y:Tp}(hx:x.ok=true)(hy:y.ok=true):x.ahead y=Op.bytesLess x.text y.text:=uT hx hy
def IC{x y:Tp}(h:x.ahead y=true):x.ok=true/\y.ok=true:=by
 unfold Tp.ahead gW at h;simp only[WM]at h;exact⟨h.1.1,h.1.2⟩
def IE{x y z:Tp}(h:x.ahead y=true)(k:y.ahead z=true):x.ahead z=true:=by
 obtain⟨hx,hy⟩:=IC h;obtain⟨-,hz⟩:=IC k;rw[vg hx hy]at h;rw[vg hy hz]at k;rw[vg hx hz];exact BV _ _ _ h k
def Up(l:Q05):Prop:=l.Pairwise fun x y=>x.ahead y=true
def Q7{ts:Q05}(h:dX ts=true):Up ts/\(∀t∈ts,t.ok=true)/\ts.length<=40:=by
 unfold dX at h;simp only[WM,WW]at h;obtain⟨hl,hu⟩:=h;have hat:∀i,i<ts.length->wW ts i=true:=fun i hi=>by
  unfold ve at hu;exact WT.1 hu i<|List.mem_range.2 hi
 have hok:∀i (hi:i<ts.length),ts[i].ok=true:=fun i hi=>by
  have:=hat i hi;cases i with
  | zero=>rw[yw hi]at this;exact this
  | succ j=>rw[tq hi]at this;simp only[WM]at this;exact this.1
 have hnx:∀i (hi:i+1<ts.length),ts[i].ahead ts[i+1]=true:=fun i hi=>by
  have:=hat (i+1) hi;rw[tq hi]at this;simp only[WM]at this;exact this.2
 refine⟨List.pairwise_iff_getElem.2 fun i j hi hj hij=>?_,fun t ht=>?_,hl⟩
 ·obtain⟨d,rfl⟩:∃d,j=i+1+d:=⟨j-(i+1),cq⟩
  induction d with
  | zero=>exact hnx i hj
  | succ d ih=>exact IE (ih cq cq)<|hnx (i+1+d) cq
 obtain⟨i,hi,rfl⟩:=XA.1 ht;exact hok i hi
def Oo{ts:Q05}(h:dX ts=true):ts.length<=40:=(Q7 h).2.2
def kD:List Tp->Tp->List Tp
 | [],t=>[t]
 | x::xs,t=>if x.ahead t then x::kD xs t else t::x::xs
def Q8(ts:Q05)(t y:Tp):y∈kD ts t↔y=t\/y∈ts:=by
 induction ts with
 | nil=>simp[kD]
 | cons x xs ih =>
  unfold kD;split
  ·simp only[Xc,ih];constructor
   ·rintro(h|h|h)
    ·exact .inr<|.inl h
    ·exact .inl h
    exact .inr<|.inr h
   rintro(h|h|h)
   ·exact .inr<|.inl h
   ·exact .inl h
   exact .inr<|.inr h
  simp
def MU(ts:Q05)(t:Tp)(k:Nat)(hk:k<=ts.length)(h1:∀i (h:i<ts.length),i<k->ts[i].ahead t=true)(h2:∀h:k<ts.length,ts[k].ahead t=false):kD ts t=ts.take k++t::ts.drop k:=by
 induction ts generalizing k with
 | nil=>simp[kD]
 | cons x xs ih =>
  cases k with
  | zero =>
   have:=h2 ct;simp only[List.getElem_cons_zero]at this;simp[kD,this]
  | succ k =>
   have hx:=h1 0 ct cq;simp only[List.getElem_cons_zero]at hx;have:=ih k (by simpa using hk) (fun i hi hik=>by have:=h1 (i+1) (by simpa using hi) cq;simpa using this) (fun h=>by have:=h2 (by simpa using h);simpa using this);simp[kD,hx,this]
open ChangeAt ChangeShapes Maps RowKit WideShapes
def vk{w:af}{b off:Nat}{ts:Q05}(h:lQ w b off ts):∀j u,(bn ts)[j]?=some u->w.cell? ((⟨b,off,none⟩:Addr).add j)=some u:=by
 intro j u hu;have hl:=jP ts;have hj:j<ts.length*6:=by
  rcases Nat.lt_or_ge j (bn ts).length with h|h
  ·omega
  rw[List.getElem?_eq_none h]at hu;cases hu
 have hi:j / 6<ts.length:=cq;have hr:j%6<6:=Nat.mod_lt _ cq;have e:j=j / 6*6+j%6:=cq;rw[e,wM ts _ hi _ hr]at hu;rw[show((⟨b,off,none⟩:Addr).add j)=⟨b,off+j / 6*6+j%6,none⟩ by rw[show(⟨b,off,none⟩:Addr).add j=⟨b,off+j,none⟩ by simp[Addr.add]];congr 1;omega];obtain⟨c0,c1,c2,c3,c4,c5⟩:=h (j / 6) hi;have h6:j%6=0\/j%6=1\/j%6=2\/j%6=3\/j%6=4\/j%6=5:=cq
 rcases h6 with e6|e6|e6|e6|e6|e6<;>rw[e6]at hu ⊢ <;>simp only[Tp.row,List.getElem?_cons_zero,List.getElem?_cons_succ]at hu<;>rw[<-hu]<;>assumption
def EK{w:af}{b off:Nat}{ts:Q05}(h:lQ w b off ts)(k:Nat):lQ w b off (ts.take k):=fun i hi=>by
 have:=h i (by simp at hi;omega);simpa using this
def Oq{w:af}{b off:Nat}{ts:Q05}(h:lQ w b off ts)(k:Nat):lQ w b (off+k*6) (ts.drop k):=fun i hi=>by
 have:=h (k+i) (by simp at hi;omega);simp only[List.getElem_drop];rw[show off+k*6+i*6=off+(k+i)*6 by omega];exact this
def tu(ts:Q05):∀u∈bn ts,u.oneCell'=true:=by
 intro u hu;unfold bn at hu;obtain⟨t,-,h⟩:=Xd.1 hu;exact rU t u h
def wY(xs ys:Q05):bn (xs++ys)=bn xs++bn ys:=by simp[bn]
def wZ(w:World)(g:Nat)(t:Tp):Prop:=w.cell? ⟨g,0,none⟩=some (.string t.a)/\w.cell? ⟨g,1,none⟩=some (.string t.b)/\w.cell? ⟨g,2,none⟩=some (.string t.r)/\w.cell? ⟨g,3,none⟩=some (.string t.c)/\w.cell? ⟨g,4,none⟩=some (.string t.d)/\w.cell? ⟨g,5,none⟩=some (.string t.s)/\g<w.heap.size
def wZ.below{w w':af}{g:Nat}{t:Tp}(h:wZ w g t)(hb:ag w w'):wZ w' g t :=
 ⟨mK hb h.2.2.2.2.2.2 h.1,mK hb h.2.2.2.2.2.2 h.2.1,mK hb h.2.2.2.2.2.2 h.2.2.1,mK hb h.2.2.2.2.2.2 h.2.2.2.1,mK hb h.2.2.2.2.2.2 h.2.2.2.2.1,mK hb h.2.2.2.2.2.2 h.2.2.2.2.2.1,WJ h.2.2.2.2.2.2 hb.size⟩
def Am(w:af)(t:Tp)(T:TypeId):wZ (w.alloc<|.cells (cg t) T) w.heap.size t:=by
 refine⟨?_,?_,?_,?_,?_,?_,?_⟩<;>simp
def wZ.grown{w w':af}{g:Nat}{t:Tp}{row:Option Nat}(h:wZ w g t)(hg:w.grownBy w' row)(hne:some g≠row):wZ w' g t :=
 ⟨hg.cell h.1 hne,hg.cell h.2.1 hne,hg.cell h.2.2.1 hne,hg.cell h.2.2.2.1 hne,hg.cell h.2.2.2.2.1 hne,hg.cell h.2.2.2.2.2.1 hne,WJ h.2.2.2.2.2.2 hg.size⟩
def qC{w w':af}{b off:Nat}{ts:Q05}{row:Option Nat}(h:lQ w b off ts)(hg:w.grownBy w' row)(_hb:cU b w)(hne:some b≠row):lQ w' b off ts:=fun i hi=>by
 obtain⟨c0,c1,c2,c3,c4,c5⟩:=h i hi;exact⟨hg.cell c0 hne,hg.cell c1 hne,hg.cell c2 hne,hg.cell c3 hne,hg.cell c4 hne,hg.cell c5 hne⟩
def Ot{ts:Q05}{k:Nat}(h:ts.length<=k)(w:af)(ad:Addr):∀j u,(bn<|ts.drop k)[j]?=some u->w.cell? (ad.add j)=some u:=fun j u hu=>by
 rw[Xm h]at hu;simp[bn]at hu
def fV{W:af}{base base':Nat}{e:TypeId}{size:Nat}{v:Value}{k:Nat}{xs:Q03}(h:W.ownsRow base e size v k xs)(hb:base'<=base):W.ownsRow base' e size v k xs:=by
 refine⟨h.1,?_⟩;rcases h.2 with hn|⟨g,cap,cur,hv,hbg,rest⟩
 ·exact .inl hn
 exact .inr ⟨g,cap,cur,hv,WR hb hbg,rest⟩
def cZ{p:Prop}(h:p):O p:=h
def Q9{w:af}{g:Nat}{t:Tp}(h0:w.cell? (am g)=some (.string t.a))(h1:w.cell? (aq g 1)=some (.string t.b))(h2:w.cell? (aq g 2)=some (.string t.r))(h3:w.cell? (aq g 3)=some (.string t.c))(h4:w.cell? (aq g 4)=some (.string t.d))(h5:w.cell? (aq g 5)=some (.string t.s))(hl:cU g w):wZ w g t:=⟨h0,h1,h2,h3,h4,h5,hl⟩
def MV{w W w':af}{b n o:Nat}{x0 x1 x2 x3 x4 x5 y0 y1 y2 y3 y4 y5:Value}(h:W.cell? (aq b o)=some x0/\W.cell? (aq b<|o+1)=some x1/\W.cell? (aq b<|o+2)=some x2/\W.cell? (aq b<|o+3)=some x3/\W.cell? (aq b<|o+4)=some x4/\W.cell? (aq b<|o+5)=some x5/\W.cell? (am n)=some y0/\W.cell? (aq n 1)=some y1/\W.cell? (aq n 2)=some y2/\W.cell? (aq n 3)=some y3/\W.cell? (aq n 4)=some y4/\W.cell? (aq n 5)=some y5/\b<W.heap.size/\n<W.heap.size/\Below n w W)(hb:ag W w'):
  w'.cell? (aq b o)=some x0/\w'.cell? (aq b<|o+1)=some x1/\w'.cell? (aq b<|o+2)=some x2/\w'.cell? (aq b<|o+3)=some x3/\w'.cell? (aq b<|o+4)=some x4/\w'.cell? (aq b<|o+5)=some x5/\w'.cell? (am n)=some y0/\w'.cell? (aq n 1)=some y1/\w'.cell? (aq n 2)=some y2/\w'.cell? (aq n 3)=some y3/\w'.cell? (aq n 4)=some y4/\w'.cell? (aq n 5)=some y5/\b<w'.heap.size/\n<w'.heap.size/\Below n w w':=by
 obtain⟨h0,h1,h2,h3,h4,h5,g0,g1,g2,g3,g4,g5,hB,hN,hw⟩:=h;exact⟨mK hb hB h0,mK hb hB h1,mK hb hB h2,mK hb hB h3,mK hb hB h4,mK hb hB h5,mK hb hN g0,mK hb hN g1,mK hb hN g2,mK hb hN g3,mK hb hN g4,mK hb hN g5,WJ hB hb.size,WJ hN hb.size,hw.trans<|hb.mono<|XW hN⟩
end Go.Proofs.YtojjoblnpldniaaGreat
namespace Go.Proofs.YtojjoblnpldniaaGreat
open Go.Sort
open ChangeShapes WideShapes ChangeAt RowKit
open Pl
attribute [local go_sem ↓] Go.wp_at_zero Go.wp_at_succ
def yz(b off cap:Nat)(ts:Q05)(w:af)(hlen:ts.length<=maxLen)(hr:lQ w b off ts)(hb:cU b w)(hf:∀t∈ts,t.fits):
    Calls prog 41 #[.slice (some<|aq b off) ts.length cap] w (bj w<|.bool<|dX ts):=by
  unfold maxLen at hlen;by_cases hbig:40<ts.length
  · have HT:O (dX ts=false):=by show _=_;simp[dX];omega
    go_enter func41,ntmps41;go_wp2;go_ret;exact⟨ah HT.symm,WL _ _⟩
  · go_enter func41,ntmps41;go_wp2;go_loopw[10] (fun i wr=>∃k:Nat,k<=ts.length/\i=.int .i64 k/\O (ve ts k=true)/\ag w wr) (fun i _=>ts.length-(intOf i).toNat);case atStart=>exact⟨0,WO _,rfl,rfl,WL _ _⟩
    obtain⟨k,hk,rfl,hu,hB⟩:=hrel;by_cases hlt:k<ts.length
    · have HRB:=oP<|hr.below hB hb;have Yc:=oP hf;obtain⟨t0,t1,t2,t3,t4,t5⟩:=HRB k hlt;have hk1:=bY k;have hk2:(k:Int)<(ts.length:Int):=cq
      clear hr hf;obtain⟨W1,hW1⟩:=eQx<|wr.alloc<|.cells (cg ts[k]) 29;have hal:ag wr W1:=by rw[hW1];exact(WL _ _).alloc (WK _) _
      have c0:∀d os,ab (grow (redrawn W1 d) os) wr.heap.size (.string ts[k].a):=cell_regrown (by rw[hW1];simp);have c1:∀d os,ac (grow (redrawn W1 d) os) wr.heap.size 1 (.string ts[k].b):=cell_regrown (by rw[hW1];simp);have c2:∀d os,ac (grow (redrawn W1 d) os) wr.heap.size 2 (.string ts[k].r):=cell_regrown (by rw[hW1];simp);have c3:∀d os,ac (grow (redrawn W1 d) os) wr.heap.size 3 (.string ts[k].c):=cell_regrown (by rw[hW1];simp);have c4:∀d os,ac (grow (redrawn W1 d) os) wr.heap.size 4 (.string ts[k].d):=cell_regrown (by rw[hW1];simp);have c5:∀d os,ac (grow (redrawn W1 d) os) wr.heap.size 5 (.string ts[k].s):=cell_regrown (by rw[hW1];simp);have YE:O (∀d os,ag w<|grow (redrawn W1 d) os):=fun d os=>hB.trans<|(hal.mono hB.size).trans<|(below_regrown W1 d os).mono<|WR hB.size hal.size;have HK:O (∀p v,wr.cell? p=some v->W1.cell? p=some v):=fun p v h=>cell_later hal h;clear hal;go_wp2_with fail;rw[<-hW1];clear hW1 t0 t1 t2 t3 t4 t5;have HCT:O (∀d os,Calls prog 62 #[.agg (cg ts[k])] (grow (redrawn W1 d) os) fun e w''=>e=.returned (.bool ts[k].ok)/\∃p:Regrown,w''=grow (redrawn W1 p.d) p.os):=by
        obtain⟨f0,f1,f2,f3,f4,f5⟩:=Yc ts[k]<|WH hlt;exact gm fun W' _=>fo _ _ _ _ _ _ _ f0 f1 f2 f3 f4 f5
      cases hok:ts[k].ok;case false=>
        have HT:O (dX ts=false):=wX hlt<|MS hlt hok;rw[hok]at HCT;clear hok;refine wp_region_quiet_below cw cw ?_
        repeat(go_big_quiet_step (exact HCT _ _))
        refine wpQuiet_nil ?_;rintro _ ⟨⟨dq,osq⟩,rfl⟩;go_wp2;go_ret;exact⟨ah HT.symm,YE dq osq⟩
      rw[hok]at HCT;by_cases hz:k=0
      · have HU:O (ve ts (k+1)=true):=by show _=_;rw[sZ,hu];subst hz;rw[yw hlt,hok];rfl
        have hk8:decide ((0:Int)<(k:Int))=false:=by simp;omega
        have hk9:decide (0<k)=false:=by simp;omega
        clear hok hz;refine wp_region_quiet_below cw cw ?_
        repeat(go_big_quiet_step (exact HCT _ _))
        refine wpQuiet_nil ?_;rintro _ ⟨⟨dq,osq⟩,rfl⟩;go_wp2;go_roundw;case rel=>exact⟨k+1,cq,cx,HU,YE dq osq⟩
        simp[intOf];omega
      · obtain⟨m,hm⟩:∃m:Nat,k=m+1:=⟨k-1,cq⟩;have Yv:m<ts.length:=cq
        obtain⟨q0,q1,q2,q3,q4,q5⟩:=HRB m Yv;replace q0:=cell_regrown<|HK _ _ q0;replace q1:=cell_regrown<|HK _ _ q1;replace q2:=cell_regrown<|HK _ _ q2;replace q3:=cell_regrown<|HK _ _ q3;replace q4:=cell_regrown<|HK _ _ q4;replace q5:=cell_regrown<|HK _ _ q5;have hkm:(k:Int)-1=(m:Int):=cq;have hm1:=bY m;have hm2:(m:Int)<(ts.length:Int):=cq;have hpos:(0:Int)<(k:Int):=cq;have hposN:0<k:=cq;have hwm:IntKind.i64.wrap (m:Int)=(m:Int):=by rw[IntKind.wrap_i64];omega
        have HA:O (wW ts k=ts[m].ahead ts[k]):=by show _=_;subst hm;rw[tq hlt,hok];rfl
        have HCA:O (∀d os,Calls prog 110 #[.agg (cg ts[m]),.agg<|cg ts[k]] (grow (redrawn W1 d) os) fun e w''=>e=.returned (.bool<|ts[m].ahead ts[k])/\∃p:Regrown,w''=grow (redrawn W1 p.d) p.os):=by
          obtain⟨f0,f1,f2,f3,f4,f5⟩:=Yc ts[k]<|WH hlt;obtain⟨g0,g1,g2,g3,g4,g5⟩:=Yc ts[m]<|WH Yv;exact gm fun W' _=>Di _ _ _ _ _ _ _ _ _ _ _ _ _ g0 g1 g2 g3 g4 g5 f0 f1 f2 f3 f4 f5
        clear hm hz hok;cases ha:ts[m].ahead ts[k];case false=>
          have HT:O (dX ts=false):=wX hlt (by rw[HA,ha]);rw[ha]at HCA;clear ha HA;refine wp_region_quiet_below cw cw ?_
          repeat(go_big_quiet_step (first|exact HCT _ _|exact HCA _ _))
          refine wpQuiet_nil ?_;rintro _ ⟨⟨dq,osq⟩,rfl⟩;go_wp2;go_ret;exact⟨ah HT.symm,YE dq osq⟩
        have HU:O (ve ts (k+1)=true):=by show _=_;rw[sZ,hu,HA,ha];rfl
        rw[ha]at HCA;clear ha HA;refine wp_region_quiet_below cw cw ?_
        repeat(go_big_quiet_step (first|exact HCT _ _|exact HCA _ _))
        refine wpQuiet_nil ?_;rintro _ ⟨⟨dq,osq⟩,rfl⟩;go_wp2;go_roundw;case rel=>exact⟨k+1,cq,cx,HU,YE dq osq⟩
        simp[intOf];omega
    · go_wp2;go_ret;exact⟨ah (by have e:k=ts.length:=cq;subst e;simp[dX,hu.out];omega),hB⟩
end Go.Proofs.YtojjoblnpldniaaGreat
namespace Go.Proofs.YtojjoblnpldniaaGreat
open Go.Sort
open ChangeShapes WideShapes ChangeAt RowKit
open Pl
attribute [local go_sem ↓] Go.wp_at_zero Go.wp_at_succ
def yA(ad:Q02)(cap:Nat)(w:af):
  Calls prog 130 #[.slice ad 0 cap] w (bj w<|.bool<|dX []):=by
 go_enter func130,ntmps130;go_wp2;go_loopw[3] (fun i wr=>∃k:Nat,k=0/\i=.int .i64 k/\ag w wr) (fun i _=>(intOf i).toNat);case atStart=>exact⟨0,rfl,rfl,WL _ _⟩
 obtain⟨k,rfl,rfl,hB⟩:=hrel;go_wp2;go_ret;exact⟨rfl,hB⟩
def yB(ad:Q02)(cap:Nat)(w:af):
  Calls prog 41 #[.slice ad 0 cap] w (bj w<|.bool<|dX []):=by
 go_enter func41,ntmps41;go_wp2;go_loopw[10] (fun i wr=>∃k:Nat,k=0/\i=.int .i64 k/\ag w wr) (fun i _=>(intOf i).toNat);case atStart=>exact⟨0,rfl,rfl,WL _ _⟩
 obtain⟨k,rfl,rfl,hB⟩:=hrel;go_wp2;go_ret;exact⟨rfl,hB⟩
def yC(ad:Q02)(cap:Nat)(ts:Q05)(w:af)(hlen:ts.length<=maxLen)(hs:Sl w ad ts)(hf:∀t∈ts,t.fits):
  Calls prog 130 #[.slice ad ts.length cap] w (bj w<|.bool<|dX ts):=by
 rcases hs with rfl|⟨b,off,rfl,hb,hr⟩
 ·exact yA ad cap w
 exact yx b off cap ts w hlen hr hb hf
def pG(ad:Q02)(cap:Nat)(ts:Q05)(w:af)(hlen:ts.length<=maxLen)(hs:Sl w ad ts)(hf:∀t∈ts,t.fits):
  Calls prog 41 #[.slice ad ts.length cap] w (bj w<|.bool<|dX ts):=by
 rcases hs with rfl|⟨b,off,rfl,hb,hr⟩
 ·exact yB ad cap w
 exact yz b off cap ts w hlen hr hb hf
end Go.Proofs.YtojjoblnpldniaaGreat
namespace Go.Proofs.YtojjoblnpldniaaGreat
set_option linter.unusedVariables false
open Pl
def jF(es:Q09):Prop:=∀(i:Nat) (h:i<es.length),∀x∈es[i].kids,0<=x/\x<(i:Int)
def iY{es:Q09}(h:aK es=true):jF es:=by
 intro i hi x hx;unfold aK at h;simp only[WM,WW]at h;have h1:=h.1.1.2;unfold jH at h1;rw[WT]at h1;have h2:=h1 i (by simpa using hi);unfold lI dD at h2;rw[WS hi]at h2;simp only[Option.map_some,XF,WT,WM,WW]at h2;have:=h2 x hx;omega
def hasB(ts:Q0b)(t r:ByteArray):Bool:=!(aj ts t r).isEmpty
def vv{ts:Q0b}(h:bB ts=true){t:Ty}(ht:t∈ts){r:Rl}(hr:r∈t.rels):aS r.name=true/\aK r.expr=true:=by
 unfold bB at h;simp only[WM]at h;obtain⟨j,hj,rfl⟩:=Xt ht;have h1:=qg h.2 j hj;unfold ll at h1;rw[WS hj]at h1;simp only[WM]at h1;obtain⟨k,hk,rfl⟩:=Xt hr;have h2:=qd h1.2 k hk;unfold mR at h2;rw[WS hk]at h2;simp only[WM]at h2;exact⟨h2.1.1,h2.2⟩
def BX{ts:Q0b}{typ:ByteArray}:∀{es:Q09},aT ts typ es=true->∀e∈es,pW ts e.allow=true/\l8 ts typ e=true
 | [],_,e,he=>by cases he
 | x::es,h,e,he=>by
  unfold aT at h;split at h
  ·rename_i hc;simp only[WM]at hc;rcases Xc.1 he with rfl|he
   ·exact hc
   exact BX h e he
  cases h
def TH{ts:Q0b}(h:iG ts=true){t:Ty}(ht:t∈ts){r:Rl}(hr:r∈t.rels){e:Ex}(he:e∈r.expr):pW ts e.allow=true/\l8 ts t.name e=true:=by
 have h1:=WT.1 h t ht;have h2:=WT.1 h1 r hr;exact BX h2 e he
open ChangeAt ChangeShapes Maps RowKit WideShapes
set_option maxRecDepth 100000
def eT(f:Int->Int)(e:Ex):Ex:={ e with kids:=e.kids.map f }
def BZ{w:af}{base n m cap:Nat}{e:TypeId}{size:Nat}{ad:Q02}{xs:Q03}(h:w.ownsRow base e size (.slice ad n cap) m xs):n<=cap:=by
 rcases h.2 with⟨e1,h0⟩|⟨g,cap',cur,e1,-,-,hnc,-⟩
 ·injection e1 with _ e2 e3;omega
 injection e1 with _ e2 e3;omega
def uw(F g:Nat)(f:Int->Int)(r:ER)(w:af)(hok:r.ok w)(hlA:bh r.e.allow)(hlK:bh r.e.kids)(hrun:∀(xs:Array Value) (u:af),(callFunc F xs).run prog u=.ok (.enter F xs) u)(hpl:∀x∈r.e.kids,∀w1:World,ag w w1->Calls prog F #[.int .i64 x,.pointer<|some<|am g] w1 (bx w1<|.int .i64<|f x)):
  Calls prog 241 #[r.val,.func (Fn.func F) #[] #[.pointer (some<|am g)]] w fun e w'=>∃q:ER,e=.returned q.val/\q.e=eT f r.e/\NewQ w.heap.size w' q/\ag w w':=by
 obtain⟨iA,hiA,zA0,zA1,zA2⟩:=info_parts (P:=prog) (e:=216) (z:=.agg aE) (size:=2) (bytes:=32) cw;obtain⟨iI,hiI,zI0,zI1,zI2⟩:=info_parts (P:=prog) (e:=2) (z:=.int .i64 0) (size:=1) (bytes:=8) cw;have Z0:O (prog.info? 216=some iA/\iA.zero=some (.agg aE)/\iA.size=2/\iA.bytes=32):=⟨hiA,zA0,zA1,zA2⟩;have Zw:O (prog.info? 2=some iI/\iI.zero=some (.int .i64 0)/\iI.size=1/\iI.bytes=8):=⟨hiI,zI0,zI1,zI2⟩;have Yn:=aB hok;have HPL:O (∀x∈r.e.kids,∀w1:World,ag w w1->Calls prog F #[.int .i64 x,.pointer<|some<|am g] w1 (bx w1<|.int .i64<|f x)):=hpl;have Z7:O (∀(xs:Array Value) (u:World),(callFunc F xs).run prog u=.ok (.enter F xs) u):=hrun;clear hok hpl hrun hiA zA0 zA1 zA2 hiI zI0 zI1 zI2;obtain⟨W1,hW1⟩:=eQx<|(w.alloc<|.cells (ce r) 43).alloc<|.cells #[.int .i64 0,.slice none 0 0,.string ⟨#[]⟩,.string ⟨#[]⟩,.slice none 0 0] 43;have HB1:O (ag w W1):=by show Below _ _ _;rw[hW1];exact((WL _ _).alloc (WK _) _).alloc ct _
 have hgl:w.heap.size+1<W1.heap.size:=by rw[hW1];simp
 have HSA1:O (kV W1 r.adA r.e.allow):=Yn.1.below HB1;have HP:O (W1.cell? (a7 w)=some (.int .i64 r.e.kind)/\W1.cell? (a8 w 1)=some (.slice r.adA r.e.allow.length r.capA)/\W1.cell? (a8 w 2)=some (.string r.e.over)/\W1.cell? (a8 w 3)=some (.string r.e.name)/\W1.cell? (a8 w 4)=some (.slice r.adK r.e.kids.length r.capK)/\(∀y,W1.frozen? (a8 w y)=false)/\(∀y,W1.frozen? (aq (w.heap.size+1) y)=false)/\∀y,y<5->(W1.cell?<|aq (w.heap.size+1) y).isSome=true):=by
  rw[hW1];refine⟨ct,ct,ct,ct,ct,fun y=>ct,fun y=>?_,fun y hy=>?_⟩
  ·simp
  have:=World.cell?_alloc_mark (w.alloc<|.cells (ce r) 43) #[.int .i64 0,.slice none 0 0,.string ⟨#[]⟩,.string ⟨#[]⟩,.slice none 0 0] 43 (0,0) y;rw[show(w.alloc<|.cells (ce r) 43).heap.size=w.heap.size+1 by simp]at this;rw[this];have hc:y=0\/y=1\/y=2\/y=3\/y=4:=cq
  rcases hc with rfl|rfl|rfl|rfl|rfl<;>rfl
 go_enter func241,ntmps241;unfold ER.val;go_wp2_with(at_builtin;rw[<-hW1];clear hW1;refine uY _ rfl _ _ 40 rfl 216 iA (.agg aE) 2 32 underlying40 Z0.1 Z0.2.1 Z0.2.2.1 Z0.2.2.2 rfl cv rfl r.adA r.e.allow.length r.capA (pairs r.e.allow) rfl (kI _) HSA1.none0 (KG HSA1) (BF _) cy cq ?_);intro v2 w2 hown2 Yl;have HB2:O (ag W1 w2):=(WL _ _).grown Yl (WK _) (fun k hk=>by cases hk);obtain⟨adA,cpA,rfl,hsA,hzA,hoA⟩:=MQ (by simpa using hown2) ct;have HCA:O (r.e.allow.length<=cpA):=BZ hown2;have HSA2:=aB hsA;have HZA:O (r.e.allow≠[]->∃g,adA=some (am g)):=hzA;have HOA:O (∀g,r.e.allow≠[]->adA=some (am g)->W1.heap.size<=g/\g<w2.heap.size/\jV w2 g):=hoA;have hg0:cW w W1:=cq
 have x0:ab w2 w.heap.size (.int .i64 r.e.kind):=kept HB2 hg0 HP.1;have x1:ac w2 w.heap.size 1 (.slice r.adA r.e.allow.length r.capA):=kept HB2 hg0 HP.2.1;have x2:ac w2 w.heap.size 2 (.string r.e.over):=kept HB2 hg0 HP.2.2.1;have x3:ac w2 w.heap.size 3 (.string r.e.name):=kept HB2 hg0 HP.2.2.2.1;have x4:ac w2 w.heap.size 4 (.slice r.adK r.e.kids.length r.capK):=kept HB2 hg0 HP.2.2.2.2.1;have fx:∀y,w2.frozen? (a8 w y)=false:=fun y=>q8 HB2 hg0<|HP.2.2.2.2.2.1 y;have HY:O ((∀y,w2.frozen? (aq (w.heap.size+1) y)=false)/\∀y,y<5->(w2.cell?<|aq (w.heap.size+1) y).isSome=true):=⟨fun y=>q8 HB2 hgl<|HP.2.2.2.2.2.2.1 y,fun y hy=>by rw[HB2.cell (p:=⟨w.heap.size+1,y,none⟩) hgl];exact HP.2.2.2.2.2.2.2 y hy⟩;clear hown2 Yl hsA hzA hoA;obtain⟨W3,hW3⟩:=eQx<|w2.setCell (a8 w 1)<|.slice adA r.e.allow.length cpA;have HB3:O (ag w W3):=by
  show Below _ _ _;rw[hW3];exact(HB1.trans<|HB2.mono HB1.size).setCell (WK _) _
 have HC3:O (Chg (fun g=>g=w.heap.size) w2 W3):=by rw[hW3];exact Chg.set _ rfl
 have HS3:O (W3.heap.size=w2.heap.size):=by show _=_;rw[hW3];simp
 have hw2:w.heap.size+1<w2.heap.size:=WJ hgl HB2.size;have HX:O (W3.cell? (a7 w)=some (.int .i64 r.e.kind)/\W3.cell? (a8 w 1)=some (.slice adA r.e.allow.length cpA)/\W3.cell? (a8 w 2)=some (.string r.e.over)/\W3.cell? (a8 w 3)=some (.string r.e.name)/\W3.cell? (a8 w 4)=some (.slice r.adK r.e.kids.length r.capK)/\(∀y,W3.frozen? (a8 w y)=false)/\(∀y,W3.frozen? (aq (w.heap.size+1) y)=false)/\∀y,y<5->(W3.cell?<|aq (w.heap.size+1) y).isSome=true):=by
  have h8:∀y,W3.cell? (aq (w.heap.size+1) y)=w2.cell? (aq (w.heap.size+1) y):=fun y=>HC3.cell hw2 cq;refine⟨?_,?_,?_,?_,?_,fun y=>?_,fun y=>?_,fun y hy=>by rw[h8];exact HY.2 y hy⟩
  ·rw[hW3,iL cq];exact x0
  ·rw[hW3];exact oL x1
  ·rw[hW3,iL cq];exact x2
  ·rw[hW3,iL cq];exact x3
  ·rw[hW3,iL cq];exact x4
  ·rw[hW3];simpa using fx y
  rw[hW3];simpa using HY.out.1 y
 have y4:=HX.2.2.2.2.1;go_wp2;rw[<-hW3];clear hW3 x0 x1 x2 x3 x4 fx;go_loopw[5,15] (fun v i wr=>∃k:Nat,k<=r.e.kids.length/\i=.int .i64 k/\O (cD W3 wr 2 1 v k<|ints<|(r.e.kids.take k).map f)/\O (ag W3 wr)) (fun _ i _=>r.e.kids.length-(intOf i).toNat);case atStart=>exact⟨0,WO _,rfl,World.ownsRow_nil _ _ _ _,WL _ _⟩
 obtain⟨k,hk,rfl,HOW,HB⟩:=hrel;have Yg:O (ag w wr):=HB3.trans<|HB.mono HB3.size;by_cases hlt:k<r.e.kids.length
 ·rcases Yn.out.2.below Yg.out with h|⟨b,off,Yb,hb,hr⟩
  ·rw[h]at hlt;simp at hlt
  have t0:=hr k hlt;have hk1:=bY k;have hk2:(k:Int)<(r.e.kids.length:Int):=cq;rw[Yb];clear hr Yb;go_wp2_with fail;rw[Z7,Oper.upon_enter];refine(HPL _ (WH hlt) _ Yg).mono ?_;rintro e w4 ⟨rfl,rfl⟩;go_wp2_with(at_builtin;refine wpList_append_own _ rfl _ _ 41 rfl W3.heap.size 2 iI (.int .i64 0) 1 8 underlying41 Zw.1 Zw.2.1 Zw.2.2.1 Zw.2.2.2 rfl cv _ _ _ rfl (HOW.alloc _) ⟨w4.heap.size,0,none⟩ 1 1 [.int .i64 (f r.e.kids[k])] rfl rfl (cell_one_new _ _ _) (by intro u hu;simp at hu;subst hu;rfl) cy cq (by simp;have:=HB.size;omega) ?_);intro v5 w5 hown5 hgr5 _;have Yo:O (ag W3 w5):=(HB.alloc HB.size _).grown hgr5 (by simp;have:=HB.size;omega) (fun i hi=>(HOW.lt i hi).1);have Yi:O (cD W3 w5 2 1 v5 (k+1)<|ints<|(r.e.kids.take<|k+1).map f):=by
   show World.ownsRow _ _ _ _ _ _ _;have e:ints ((r.e.kids.take<|k+1).map f)=ints ((r.e.kids.take k).map f)++[.int .i64 (f r.e.kids[k])]:=by
    rw[WN hlt,Xy];unfold ints;rw[Xy];rfl
   rw[e];simpa[ints] using hown5
  clear hown5 hgr5;go_wp2;go_roundw;case rel=>exact⟨k+1,cq,cx,Yi,Yo⟩
  simp[intOf]<;>omega
 obtain rfl:k=r.e.kids.length:=cq;have hown:=HOW.out;rw[Xa]at hown;obtain⟨adK,cpK,rfl,hsK,hzK,hoK⟩:=Ij hown ct;have Yv:(r.e.kids.map f).length=r.e.kids.length:=ct;obtain⟨q,hq⟩:∃q:ER,q=⟨eT f r.e,adA,cpA,adK,cpK⟩:=⟨_,rfl⟩;have hs3:=HS3.out;have hgw:cW w W3:=cq;have hgw1:w.heap.size+1<W3.heap.size:=cq;obtain⟨c0,c1,c2,c3,c4,f0,f1,h5⟩:=HX.out;have c0:=kept HB hgw c0;have c1:=kept HB hgw c1;have c2:=kept HB hgw c2;have c3:=kept HB hgw c3;have c4:=kept HB hgw c4;have f0:∀y,wr.frozen? (a8 w y)=false:=fun y=>q8 HB hgw<|f0 y;have f1:∀y,wr.frozen? (aq (w.heap.size+1) y)=false:=fun y=>q8 HB hgw1<|f1 y;have h5:∀y,y<5->(wr.cell?<|aq (w.heap.size+1) y).isSome=true:=fun y hy=>by rw[HB.cell (p:=⟨w.heap.size+1,y,none⟩) hgw1];exact h5 y hy
 obtain⟨a0,u0⟩:=Option.isSome_iff_exists.mp<|h5 0 cq;obtain⟨a1,u1⟩:=Option.isSome_iff_exists.mp<|h5 1 cq;obtain⟨a2,u2⟩:=Option.isSome_iff_exists.mp<|h5 2 cq;obtain⟨a3,u3⟩:=Option.isSome_iff_exists.mp<|h5 3 cq;obtain⟨a4,u4⟩:=Option.isSome_iff_exists.mp<|h5 4 cq;have HSK:=aB hsK;have HZK:O (r.e.kids.map f≠[]->∃g,adK=some (am g)):=hzK;have ZL:O (∀g,r.e.kids.map f≠[]->adK=some (am g)->W3.heap.size<=g/\g<wr.heap.size/\jV wr g):=hoK;have Yw:O (∀w9:World,Chg (fun g=>g=w.heap.size\/g=w.heap.size+1) wr w9->NewQ w.heap.size w9 q/\ag w w9):=fun w9 hc=>by
  have Y6:ag w w9:=Yg.trans (hc.below (m:=w.heap.size) (fun g hg=>by rcases hg with h|h<;>omega) Yg.size);have hcA:Chg (fun g=>g=w.heap.size\/g=w.heap.size+1) w2 w9:=((HC3.mono fun g hg=>.inl hg).trans (Chg.of HB)).trans hc;refine⟨?_,Y6⟩;rw[hq];refine⟨HZA,HZK,⟨HSA2.chg hcA fun g o hne e=>?_,HSK.chg hc fun g o hne e=>?_⟩,?_,?_,HCA⟩
  ·obtain⟨g0,e0⟩:=HZA hne;rw[e0]at e;injection e with e;injection e with e1 e2;have:=(HOA g0 hne e0).1;omega
  ·obtain⟨g0,e0⟩:=HZK hne;rw[e0]at e;injection e with e;injection e with e1 e2;have:=(ZL g0 hne e0).1;omega
  ·rintro g (⟨hne,e⟩|⟨hne,e⟩)
   ·obtain⟨p1,p2,p3⟩:=HOA g hne e;exact⟨cq,WJ p2 hcA.size,hcA.free g p2 p3⟩
   obtain⟨p1,p2,p3⟩:=ZL g hne e;exact⟨cq,WJ p2 hc.size,hc.free g p2 p3⟩
  rintro g ⟨hne,e⟩ ⟨hne2,e2⟩;obtain⟨p1,p2,p3⟩:=HOA g hne e;obtain⟨r1,r2,r3⟩:=ZL g hne2 e2;omega
 have HQV:O (Value.agg (ce q)=.agg #[.int .i64 r.e.kind,.slice adA r.e.allow.length cpA,.string r.e.over,.string r.e.name,.slice adK r.e.kids.length cpK]/\q.e=eT f r.e):=by
  show _/\_;rw[hq];exact⟨by simp[eT],rfl⟩
 have hlt1:cW w wr:=WJ hgw HB.size;have hlt2:w.heap.size+1<wr.heap.size:=WJ hgw1 HB.size;clear hq hown hsK hzK hoK h5 y4 hs3;rw[Yv];clear Yv;go_wp2;obtain⟨W9,Z4⟩:=eQx<|((((((wr.setCell (a8 w 4)<|.slice adK r.e.kids.length cpK).setCell (am<|w.heap.size+1)<|.int .i64 r.e.kind).setCell (aq (w.heap.size+1) 1)<|.slice adA r.e.allow.length cpA).setCell (aq (w.heap.size+1) 2)<|.string r.e.over).setCell (aq (w.heap.size+1) 3)<|.string r.e.name).setCell (aq (w.heap.size+1) 4)<|.slice adK r.e.kids.length cpK);have HC9:O (Chg (fun g=>g=w.heap.size\/g=w.heap.size+1) wr W9):=by
  rw[Z4];exact(((((Chg.set (S:=fun g=>g=w.heap.size\/g=w.heap.size+1) _ (.inl rfl)).trans (Chg.set _<|.inr rfl)).trans (Chg.set _<|.inr rfl)).trans (Chg.set _<|.inr rfl)).trans (Chg.set _<|.inr rfl)).trans (Chg.set _<|.inr rfl)
 refine bodyPost_ret (v:=.agg #[.int .i64 r.e.kind,.slice adA r.e.allow.length cpA,.string r.e.over,.string r.e.name,.slice adK r.e.kids.length cpK]) ?_ rfl ?_
 ·simp[results,Tryz.results241,go_sem, *]
 rw[<-Z4];exact⟨q,by rw[HQV.1],HQV.2,Yw _ HC9⟩
def gY(f:Ex->List Ex)(s:List Ex×List Int)(e:Ex):List Ex×List Int :=
 if e.kids.isEmpty then (s.1++(f e).map (eT fun k=>(s.1.length:Int)+k),s.2++[((s.1++(f e).map (eT fun k=>(s.1.length:Int)+k)).length:Int)-1])
 else (s.1++[eT (fun k=>s.2.getD k.toNat 0) e],s.2++[(s.1.length:Int)])
def aI(f:Ex->List Ex)(es:Q09)(k:Nat):List Ex×List Int:=(es.take k).foldl (gY f) ([],[])
def dB(f:Ex->List Ex)(es:Q09):List Ex:=(aI f es es.length).1
def iZ(f:Ex->List Ex)(es:Q09):aI f es 0=([],[]):=by simp[aI]
def fD(f:Ex->List Ex)(es:Q09)(k:Nat)(h:k<es.length):aI f es (k+1)=gY f (aI f es k) es[k]:=by
 unfold aI;rw[WN h,List.foldl_append];rfl
def tC(f:Ex->List Ex)(es:Q09):∀k,k<=es.length->(aI f es k).2.length=k
 | 0,_=>by rw[iZ];rfl
 | k+1,h=>by
  rw[fD f es k cq];have ih:=tC f es k cq;unfold gY;split<;>simp[ih]
def pI(f:Ex->List Ex)(es:Q09)(B:Nat)(hB:1<=B)(hf:∀e∈es,(f e).length<=B):∀k,k<=es.length->(aI f es k).1.length<=k*B
 | 0,_=>by rw[iZ];simp
 | k+1,h=>by
  rw[fD f es k cq];have ih:=pI f es B hB hf k cq;have hm:=hf es[k]<|WH _;unfold gY;have:(k+1)*B=k*B+B:=Nat.succ_mul k B;split<;>simp only[WP,Xv,Xi]<;>omega
def MW{f:Int->Int}{e:Ex}(h:∀x∈e.kids,f x=x):eT f e=e:=by
 unfold eT;have:e.kids.map f=e.kids:=by
  conv=>rhs;rw[<-List.map_id e.kids]
  exact List.map_congr_left h
 rw[this]
def IG{es:Q09}(h:jF es):∀k,k<=es.length->aI (fun e=>[e]) es k=(es.take k,(List.range k).map fun(n:Nat)=>(n:Int))
 | 0,_=>by rw[iZ];simp
 | k+1,hk=>by
  rw[fD _ es k cq,IG h k cq,WN cq,List.range_succ,Xy];have hl:(es.take k).length=k:=by rw[XC];omega
  unfold gY;split
  ·rename_i he;have he:es[k].kids=[]:=List.isEmpty_iff.1 he;have e0:∀n:Int,eT (fun x=>n+x) es[k]=es[k]:=fun n=>MW (by rw[he];intro x hx;cases hx);have e1:((k+1:Nat):Int)-1=(k:Int):=cq
   simp only[XN,List.map_nil,e0,WP,Xi,hl,e1]
  have:eT (fun x=>((List.range k).map fun(n:Nat)=>(n:Int)).getD x.toNat 0) es[k]=es[k]:=MW fun x hx=>by
   obtain⟨h1,h2⟩:=h k cq x hx;rw[Xh,List.getElem?_map,List.getElem?_range cq];simp;omega
  rw[this,hl];rfl
def EL{es:Q09}(h:jF es):dB (fun e=>[e]) es=es:=by
 unfold dB;rw[IG h _ (WK _),Xa]
def xe(f:ByteArray->Ex->List Ex)(tn:ByteArray)(r:Rl):Rl:=⟨r.name,dB (f tn) r.expr⟩
def Du(f:ByteArray->Ex->List Ex)(t:Ty):Ty:=⟨t.name,t.rels.map<|xe f t.name⟩
def jE(f:ByteArray->Ex->List Ex)(ts:Q0b):List Ty:=ts.map<|Du f
def aF{p:Prop}(h:p):O p:=h
def NodM.add{w0 w2 w3:af}{base:Nat}{v v':Value}{qs:Q08}{q:ER}(h:NodM w0 base v qs)(hb:ag w0 w2)(hq:NewQ w0.heap.size w2 q)(hbase:cd base w0)(hown:w3.ownsRow base 43 5 v' (qs.length+1)<|dV qs++q.row)(hg:w2.grownBy w3 v.ownBlock)(hat:v'.ownBlock=v.ownBlock \/ ∃g,v'.ownBlock=some g/\w2.heap.size<=g):NodM w3 base v' (qs++[q]) :=
 KJ.nod (h.ex.snocN pu hb hown hg hat (hq.mono hbase) fun g hg=>(hq.lie g hg).1)
def jT{w:af}{base size n:Nat}{e:TypeId}{v:Value}{xs:Q03}(h:w.ownsRow base e size v n xs):∃ad cap,v=.slice ad n cap:=by
 rcases h.2 with⟨rfl,h0⟩|⟨g,cap,cur,rfl,-⟩
 ·exact⟨none,0,by rw[h0]⟩
 exact⟨_,_,rfl⟩
structure XS(w:World)(P base:Nat)(v pv:Value)(qs:Q08)(ps:List Int):Prop where
 nod:NodM w base v qs
 pl:w.cell? ⟨P,0,none⟩=some pv
 fz:w.frozen? ⟨P,0,none⟩=false
 lt:base<=w.heap.size
 row:w.ownsRow base 2 1 pv ps.length (ints ps)
 ap:∀g,pv.ownBlock=some g->¬qV mr v qs g
 hP:P<base
def XS.below{w w':af}{P base:Nat}{v pv:Value}{qs:Q08}{ps:List Int}(h:XS w P base v pv qs ps)(hb:ag w w'):XS w' P base v pv qs ps :=
 ⟨KJ.nod<|h.nod.ex.below pu hb,kept hb (WJ h.hP h.lt) h.pl,q8 hb (WJ h.hP h.lt) h.fz,WR h.lt hb.size,dJ h.row fun g hg=>hb.block g (h.row.lt g hg).2,h.ap,h.hP⟩
def XS.add{w0 w2 w3:af}{P base:Nat}{v v' pv:Value}{qs:Q08}{ps:List Int}{q:ER}(h:XS w0 P base v pv qs ps)(hb:ag w0 w2)(hq:NewQ w0.heap.size w2 q)(hown:w3.ownsRow base 43 5 v' (qs.length+1)<|dV qs++q.row)(hg:w2.grownBy w3 v.ownBlock)(hat:v'.ownBlock=v.ownBlock \/ ∃g,v'.ownBlock=some g/\w2.heap.size<=g):XS w3 P base v' pv (qs++[q]) ps:=by
 have h2:=h.below hb;have hPv:v.ownBlock≠some P:=fun e=>by have:=(h.nod.own.lt P e).1;have:=h.hP;omega
 have hP2:cU P w2:=WJ h2.hP h2.lt;have hPb:w3.heap[P]?=w2.heap[P]?:=hg.block P hP2<|Ne.symm hPv;refine⟨h.nod.add hb hq h.lt hown hg hat,(WX (w:=w2) (a:=⟨P,0,none⟩) hPb).trans h2.pl,(World.frozen?_of_block (w:=w2) (a:=⟨P,0,none⟩) hPb).trans h2.fz,WR h2.lt hg.size,dJ h2.row fun g hg'=>hg.block g (h2.row.lt g hg').2 fun e=>h.ap g hg'<|.inl e.symm,fun g hg' hi=>?_,h.hP⟩;have hgl:=(h.row.lt g hg').2;rcases hi with hi|⟨p,hp,hi⟩
 ·rcases hat with e|⟨g',e,hge⟩
  ·exact h.ap g hg' (.inl<|by rw[<-e];exact hi)
  rw[e]at hi;injection hi with hi;have:=hb.size;omega
 rcases WU.1 hp with hp|hp
 ·exact h.ap g hg'<|.inr ⟨p,hp,hi⟩
 rw[WZ]at hp;subst hp;have:=(hq.lie g hi).1;omega
def XS.place{w w1 w2:af}{P base:Nat}{v pv pv':Value}{qs:Q08}{ps:List Int}{z:Int}(h:XS w P base v pv qs ps)(hb:ag w w1)(hown:w2.ownsRow base 2 1 pv' (ps.length+1)<|ints ps++[.int .i64 z])(hg:w1.grownBy w2 pv.ownBlock)(hat:pv'.ownBlock=pv.ownBlock \/ ∃g,pv'.ownBlock=some g/\w1.heap.size<=g):XS (w2.setCell (am P) pv') P base v pv' qs (ps++[z]):=by
 have h1:=h.below hb;have hP1:cU P w1:=WJ h1.hP h1.lt;have hPp:pv.ownBlock≠some P:=fun e=>by have:=(h.row.lt P e).1;have:=h.hP;omega
 have hPb:w2.heap[P]?=w1.heap[P]?:=hg.block P hP1<|Ne.symm hPp;have hp2:ab w2 P pv:=(WX (w:=w1) (a:=⟨P,0,none⟩) hPb).trans h1.pl;have hf2:w2.frozen? (am P)=false:=(World.frozen?_of_block (w:=w1) (a:=⟨P,0,none⟩) hPb).trans h1.fz;have hs:∀g,g≠P->(w2.setCell (am P) pv').heap[g]?=w2.heap[g]?:=fun g hne=>Below.heap_setCell w2 _ _ g hne;have hlt:∀g,qV mr v qs g->base<=g/\g<w.heap.size:=fun g hi=>X8.lt pu h.nod.ex hi;refine⟨KJ.nod<|h1.nod.ex.heap (w':=w2.setCell (am P) pv') pu (by simpa using hg.size) fun g hi=>?_,oL hp2,by simpa using hf2,by simpa using WR h1.lt hg.size,?_,fun g hg' hi=>?_,h.hP⟩
 ·have:=hlt g hi;have:=h.hP;rw[hs g cq];exact hg.block g (by have:=hb.size;omega) (fun e=>h.ap g e.symm hi)
 ·have e:ints (ps++[z])=ints ps++[.int .i64 z]:=by simp[ints]
  rw[e,WP,Xi];exact dJ hown fun g hg'=>hs g (by have:=(hown.lt g hg').1;have:=h.hP;omega)
 rcases hat with e|⟨g',e,hge⟩
 ·exact h.ap g (by rw[<-e];exact hg') hi
 rw[e]at hg';injection hg' with hg';have:=(hlt g hi).2;have:=hb.size;omega
def Lc(P:Nat)(pv:Value)(base:Nat)(ps:List Int)(x:Int)(w:af)(hp:w.cell? (am P)=some pv)(hr:w.ownsRow base 2 1 pv ps.length<|ints ps)(h0:0<=x)(h1:x<(ps.length:Int)):
  Calls prog 242 #[.int .i64 x,.pointer<|some<|am P] w (bx w<|.int .i64<|ps.getD x.toNat 0):=by
 obtain⟨ad,cap,rfl,hs,-,-⟩:=Ij hr rfl;obtain⟨n,rfl⟩:∃n:Nat,x=(n:Int):=⟨x.toNat,cq⟩;have hn:n<ps.length:=cq;rcases hs with rfl|⟨b,off,rfl,hb,hc⟩
 ·simp at hn
 have c0:=hc n hn;have HG:O (ps.getD ((n:Int)).toNat 0=ps[n]):=by show _=_;rw[Int.toNat_natCast,Xh,WS hn];rfl
 clear hr hc;go_enter func242,ntmps242;go_wp2;go_ret;exact⟨by rw[HG];rfl,rfl⟩
def Ld(G:Nat)(n:Nat)(x:Int)(w:af)(hp:w.cell? (am G)=some (.int .i64 (n:Int)))(hn:n<=100000)(h0:0<=x)(h1:x<100000):
  Calls prog 243 #[.int .i64 x,.pointer<|some<|am G] w (bx w<|.int .i64<|(n:Int)+x):=by
 obtain⟨m,rfl⟩:∃m:Nat,x=(m:Int):=⟨x.toNat,cq⟩;go_enter func243,ntmps243;go_wp2;go_ret;exact⟨cx,rfl⟩
def Le(xs:Array Value)(u:af):(callFunc 242 xs).run prog u=.ok (.enter 242 xs) u:=cw
def Lf(xs:Array Value)(u:af):(callFunc 243 xs).run prog u=.ok (.enter 243 xs) u:=cw
structure Fc where
 a:ByteArray
 b:ByteArray
 r:ByteArray
 c:ByteArray
 d:ByteArray
abbrev cf(q:Fc):Array Value:=#[.string q.a,.string q.b,.string q.r,.string q.c,.string q.d]
abbrev Q04:=List Fc
def Fc.u(f:Fc):ByteArray×ByteArray:=(f.c,f.d)
def Ou(x y:Fc):Bool:=x.a.toList==y.a.toList&&x.b.toList==y.b.toList&&x.r.toList==y.r.toList&&x.c.toList==y.c.toList&&x.d.toList==y.d.toList
def Ca{x y:Fc}:Ou x y=true↔x=y:=by
 constructor
 ·intro h;unfold Ou at h;simp only[WM,beq_iff_eq]at h;obtain⟨⟨⟨⟨h1,h2⟩,h3⟩,h4⟩,h5⟩:=h;cases x;cases y;simp only at h1 h2 h3 h4 h5;rw[fU h1,fU h2,fU h3,fU h4,fU h5]
 rintro rfl;unfold Ou;simp
def gJ(out:Q04)(f:Fc):Bool:=out.any fun g=>Ou g f
def bf{out:Q04}{f:Fc}:gJ out f=true↔f∈out:=by
 unfold gJ;rw[Xj];constructor
 ·rintro⟨g,hg,h⟩;rw[<-Ca.1 h];exact hg
 intro h;exact⟨f,h,Ca.2 rfl⟩
def EM(u:Q01)(x y:Q04):Prop:=∀g:Fc,g.u=u->(g∈x↔g∈y)
def yD{x y:Q04}{f:Fc}(h:EM f.u x y):gJ x f=gJ y f:=by
 rw[Xe,bf,bf];exact h f rfl
def pJ(l:Q05)(known:Q04)(f:Fc):Bool:=l.any fun t=>(t.a.toList==f.a.toList&&t.b.toList==f.b.toList&&t.r.toList==f.r.toList)&&(if t.s.toList.isEmpty then t.c.toList==f.c.toList&&t.d.toList==f.d.toList else gJ known ⟨t.c,t.d,t.s,f.c,f.d⟩)
def ny(l:Q05)(known:Q04)(over name:ByteArray)(f:Fc):Bool:=l.any fun t=>(t.a.toList==f.a.toList&&t.b.toList==f.b.toList&&t.r.toList==over.toList)&&gJ known ⟨t.c,t.d,name,f.c,f.d⟩
def aJ(l:Q05)(es:Q09)(truth:Q04)(f:Fc):Nat->List Fc->Nat->Bool
 | 0,_,_=>false
 | k+1,known,n=>match es[n]? with
  | none=>false
  | some x =>
   if x.kind=1 then pJ l known f
   else if x.kind=2 then gJ known ⟨f.a,f.b,x.name,f.c,f.d⟩
   else if x.kind=3 then ny l known x.over x.name f
   else if x.kind=4 then x.kids.any fun i=>aJ l es truth f k known i.toNat
   else if x.kind=5 then x.kids.all fun i=>aJ l es truth f k known i.toNat
   else if x.kind=6 then aJ l es truth f k known (x.kids.getD 0 0).toNat && !aJ l es truth f k truth (x.kids.getD 1 0).toNat
   else false
def Lg{l:Q05}{x y:Q04}{f:Fc}(h:EM f.u x y):pJ l x f=pJ l y f:=by
 unfold pJ;congr 1
 funext t
 rw[yD (x:=x) (y:=y) (f:=⟨t.c,t.d,t.s,f.c,f.d⟩) h]
def Lh{l:Q05}{x y:Q04}{ov nm:ByteArray}{f:Fc}(h:EM f.u x y):ny l x ov nm f=ny l y ov nm f:=by
 unfold ny;congr 1
 funext t
 rw[yD (x:=x) (y:=y) (f:=⟨t.c,t.d,nm,f.c,f.d⟩) h]
def nz{l:Q05}{es:Q09}{f:Fc}{t1 t2:Q04}(ht:EM f.u t1 t2):∀(k:Nat) (x y:Q04) (n:Nat),EM f.u x y->aJ l es t1 f k x n=aJ l es t2 f k y n
 | 0,_,_,_,_=>rfl
 | k+1,x,y,n,h=>by
  unfold aJ;cases es[n]? with
  | none=>rfl
  | some e =>
   simp only[Lg h,yD (x:=x) (y:=y) (f:=⟨f.a,f.b,e.name,f.c,f.d⟩) h,Lh h,nz ht k x y _ h,nz ht k t1 t2 _ ht]
def Cb{l:Q05}{es:Q09}{truth:Q04}{f:Fc}(hk:jF es)(h6:∀e∈es,e.kind=6->2<=e.kids.length):∀(k j n:Nat) (known:Q04),n<k->n<j->aJ l es truth f k known n=aJ l es truth f j known n
 | 0,_,_,_,h,_=>absurd h<|XE _
 | _+1,0,_,_,_,h=>absurd h<|XE _
 | k+1,j+1,n,known,h1,h2=>by
  unfold aJ;cases e:es[n]? with
  | none=>rfl
  | some x =>
   obtain⟨hn,hx⟩:=List.getElem?_eq_some_iff.1 e;have hlow:∀i∈x.kids,0<=i/\i<(n:Int):=fun i hi=>hk n hn i (by rw[hx];exact hi);have key:∀i∈x.kids,∀kn,aJ l es truth f k kn i.toNat=aJ l es truth f j kn i.toNat:=fun i hi kn=>by
    have:=hlow i hi;exact Cb hk h6 k j i.toNat kn cq cq
   have ka:(x.kids.any fun i=>aJ l es truth f k known i.toNat)=x.kids.any fun i=>aJ l es truth f j known i.toNat:=by
    rw[Xe,Xj,Xj];exact⟨fun⟨i,hi,h⟩=>⟨i,hi,by rw[<-key i hi];exact h⟩,fun⟨i,hi,h⟩=>⟨i,hi,by rw[key i hi];exact h⟩⟩
   have kb:(x.kids.all fun i=>aJ l es truth f k known i.toNat)=x.kids.all fun i=>aJ l es truth f j known i.toNat:=by
    rw[Xe,WT,WT];exact⟨fun h i hi=>by rw[<-key i hi];exact h i hi,fun h i hi=>by rw[key i hi];exact h i hi⟩
   simp only[ka,kb];by_cases hk6:x.kind=6
   ·have hl:=h6 x (by rw[<-hx];exact WH hn) hk6;have hg:∀q,q<2->x.kids.getD q 0∈x.kids:=fun q hq=>by
     rw[Xh,WS cq];exact WH _
    rw[key _ (hg 0 cq),key _<|hg 1 cq]
   simp only[if_neg hk6]
def eH(ts:Q0b)(l:Q05)(out:Q04)(f:Fc):Bool:=aJ l (aj ts f.a f.r) out f (aj ts f.a f.r).length out<|(aj ts f.a f.r).length-1
def EN(ts:Q0b)(l:Q05):Loc Fc.u (eH ts l):=fun x y f h=>nz h _ x y _ h
def Gh(ts:Q0b)(st:Q00)(n:Int)(o:Al):List (ByteArray×ByteArray):=(ay ts).filter fun k=>k.1.toList==o.t.toList&&decide (st k=n)
def ui(o:Al)(rel:ByteArray)(xu:Q0a):List Fc:=xu.map fun u=>⟨o.t,o.s,rel,u.t,u.s⟩
def yE(ts:Q0b)(st:Q00)(xu:Q0a)(n:Int)(o:Al):List Fc:=(Gh ts st n o).flatMap fun k=>ui o k.2 xu
def cu(ts:Q0b)(st:Q00)(xo xu:Q0a)(n:Int):List Fc:=xo.flatMap<|yE ts st xu n
def Li{ts:Q0b}{st:Q00}{xo xu:Q0a}{n:Int}{f:Fc}(h:f∈cu ts st xo xu n):f.u∈xu.map fun u=>(u.t,u.s):=by
 unfold cu yE ui at h;obtain⟨o,-,h⟩:=Xd.1 h;obtain⟨k,-,h⟩:=Xd.1 h;obtain⟨u,hu,rfl⟩:=WV.1 h;exact WV.2 ⟨u,hu,rfl⟩
def II(ts:Q0b)(st:Q00)(xo xu:Q0a)(n:Int)(p:ByteArray×ByteArray->Bool):(cu ts st xo xu n).filter (fun f=>p f.u)=cu ts st xo (xu.filter fun u=>p (u.t,u.s)) n:=by
 unfold cu yE ui;rw[List.filter_flatMap];congr 1
 funext o
 rw[List.filter_flatMap];congr 1
 funext k
 rw[List.filter_map];rfl
def Lj{ts:Q0b}{st:Q00}{xo xu:Q0a}{n:Int}(h:∀k∈ay ts,st k≠n):cu ts st xo xu n=[]:=by
 have:∀o,Gh ts st n o=[]:=fun o=>by
  unfold Gh;rw[List.filter_eq_nil_iff];intro k hk;simp[h k hk]
 unfold cu yE;simp[this]
section
variable  [DecidableEq Fc]
def ja(ts:Q0b)(l:Q05)(st:Q00)(xo xu:Q0a)(N:Nat):List Fc:=(List.range N).foldl (fun out (n:Nat)=>mX (eH ts l) (cu ts st xo xu (n:Int)) out) []
def jU(ts:Q0b)(l:Q05)(st:Q00)(xo xu:Q0a)(N:Nat):ja ts l st xo xu (N+1)=mX (eH ts l) (cu ts st xo xu (N:Int)) (ja ts l st xo xu N):=by
 unfold ja;rw[List.range_succ,List.foldl_append];rfl
def Ov{ts:Q0b}{l:Q05}{st:Q00}{xo xu:Q0a}{N:Nat}(h:∀k∈ay ts,st k<(N:Int)):∀M,N<=M->ja ts l st xo xu M=ja ts l st xo xu N:=by
 intro M hM;obtain⟨d,rfl⟩:∃d,M=N+d:=⟨M-N,cq⟩
 induction d with
 | zero=>rfl
 | succ d ih =>
  rw[Nat.add_succ,jU,ih cq,Lj fun k hk=>by have:=h k hk;omega];exact QI _
def EO(ts:Q0b)(l:Q05)(st:Q00)(xo xu:Q0a):∀N,(ja ts l st xo xu N).Nodup
 | 0=>List.nodup_nil
 | N+1=>by rw[jU];exact NT _<|EO ts l st xo xu N
end
def Ra(w:World)(b off:Nat)(t:Fc):Prop :=
 w.cell? ⟨b,off,none⟩=some (.string t.a)/\w.cell? ⟨b,off+1,none⟩=some (.string t.b)/\w.cell? ⟨b,off+2,none⟩=some (.string t.r)/\w.cell? ⟨b,off+3,none⟩=some (.string t.c)/\w.cell? ⟨b,off+4,none⟩=some (.string t.d)
def WA(w:World)(b off:Nat)(ts:Q04):Prop:=∀(i:Nat) (h:i<ts.length),Ra w b (off+i*5) ts[i]
def Ao(w:World)(ad:Q02)(ts:Q04):Prop:=ts=[] \/ ∃b off,ad=some ⟨b,off,none⟩/\b<w.heap.size/\WA w b off ts
def Ra.same{w w':af}{b off:Nat}{t:Fc}(h:Ra w b off t)(hc:∀o,w'.cell? (aq b o)=w.cell? (aq b o)):Ra w' b off t:=by
 obtain⟨h0,h1,h2,h3,h4⟩:=h;exact⟨(hc _).trans h0,(hc _).trans h1,(hc _).trans h2,(hc _).trans h3,(hc _).trans h4⟩
def Ao.below{w w':af}{ad:Q02}{ts:Q04}(h:Ao w ad ts)(hB:ag w w'):Ao w' ad ts:=by
 rcases h with h|⟨b,off,e,hb,hr⟩
 ·exact .inl h
 exact .inr ⟨b,off,e,WJ hb hB.size,fun i hi=>(hr i hi).same fun o=>hB.cell (p:=⟨b,o,none⟩) hb⟩
def Fc.row(t:Fc):List Value:=[.string t.a,.string t.b,.string t.r,.string t.c,.string t.d]
def bu{p:Prop}(h:p):O p:=h
structure HW(w:World)(adT:Q02)(ts:Q05)(X9:Q02)(rows:Q08)(adK:Q02)(known:Q04)(adR:Q02)(truth:Q04):Prop where
 tup:Sl w adT ts
 ex:iw w X9 rows
 kn:Ao w adK known
 tr:Ao w adR truth
def HW.below{w w':af}{adT:Q02}{ts:Q05}{X9:Q02}{rows:Q08}{adK:Q02}{known:Q04}{adR:Q02}{truth:Q04}(h:HW w adT ts X9 rows adK known adR truth)(hB:ag w w'):HW w' adT ts X9 rows adK known adR truth :=
 ⟨h.tup.below hB,h.ex.below hB,h.kn.below hB,h.tr.below hB⟩
def V8(a b c d:ByteArray):Bool:=a.toList==c.toList&&b.toList==d.toList
def Cc(a b c d:bN){v:Bool}(h:V8 a b c d=v)(w:af):
  (binOp .eql 27 (.agg #[.string a,.string b])<|.agg #[.string c,.string d]).run prog w=.ok (.bool v) w:=by
 subst h;go_simp;unfold V8
 (repeat' split)<;>simp_all
def iw.at0{w:af}{ad:Q02}{rs:Q08}(h:iw w ad rs){k:Nat}(hk:k<rs.length):∃b off,ad=some (aq b off)/\vP w b (off+k*5) rs[k]/\b<w.heap.size/\rs[k].ok w:=by
 rcases h with h|⟨b',off',e,hb,hr,hok⟩
 ·rw[h]at hk;simp at hk
 exact⟨b',off',e,hr k hk,hb,hok _<|WH hk⟩
def Sl.at0{w:af}{ad:Q02}{ts:Q05}(h:Sl w ad ts){k:Nat}(hk:k<ts.length):∃b off,ad=some (aq b off)/\UU w b (off+k*6) ts[k]/\b<w.heap.size:=by
 rcases h with h|⟨b',off',e,hb,hr⟩
 ·rw[h]at hk;simp at hk
 exact⟨b',off',e,hr k hk,hb⟩
def sK.at0{w:af}{ad:Q02}{zs:List Int}(h:sK w ad zs){k:Nat}(hk:k<zs.length):∃b off,ad=some (aq b off)/\w.cell? (aq b<|off+k)=some (.int .i64 zs[k])/\b<w.heap.size:=by
 rcases h with h|⟨b',off',e,hb,hr⟩
 ·rw[h]at hk;simp at hk
 exact⟨b',off',e,hr k hk,hb⟩
structure EnB(w:World)(B:Nat)(f:Fc)(x:ER):Prop where
 lt:B+1<w.heap.size
 f0:w.cell? ⟨B,0,none⟩=some (.string f.a)
 f1:w.cell? ⟨B,1,none⟩=some (.string f.b)
 f2:w.cell? ⟨B,2,none⟩=some (.string f.r)
 f3:w.cell? ⟨B,3,none⟩=some (.string f.c)
 f4:w.cell? ⟨B,4,none⟩=some (.string f.d)
 x0:w.cell? ⟨B+1,0,none⟩=some (.int .i64 x.e.kind)
 x1:w.cell? ⟨B+1,1,none⟩=some (.slice x.adA x.e.allow.length x.capA)
 x2:w.cell? ⟨B+1,2,none⟩=some (.string x.e.over)
 x3:w.cell? ⟨B+1,3,none⟩=some (.string x.e.name)
 x4:w.cell? ⟨B+1,4,none⟩=some (.slice x.adK x.e.kids.length x.capK)
def EnB.below{w w':af}{B:Nat}{f:Fc}{x:ER}(h:EnB w B f x)(hB:ag w w'):EnB w' B f x:=by
 have h0:cU B w:=by have:=h.lt;omega
 have c0:∀o,w'.cell? (aq B o)=w.cell? (aq B o):=fun o=>hB.cell (p:=⟨B,o,none⟩) h0;have c1:∀o,w'.cell? (aq (B+1) o)=w.cell? (aq (B+1) o):=fun o=>hB.cell (p:=⟨B+1,o,none⟩) h.lt;exact⟨WJ h.lt hB.size,(c0 _).trans h.f0,(c0 _).trans h.f1,(c0 _).trans h.f2,(c0 _).trans h.f3,(c0 _).trans h.f4,(c1 _).trans h.x0,(c1 _).trans h.x1,(c1 _).trans h.x2,(c1 _).trans h.x3,(c1 _).trans h.x4⟩
def MX{s:ByteArray}:(s.toList==[])=s.toList.isEmpty:=by cases s.toList<;>rfl
end Go.Proofs.YtojjoblnpldniaaGreat
