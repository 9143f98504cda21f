/- The order of texts, and of right tuples by their texts: of two unlike ones just one is ahead; what is ahead of one that is ahead is ahead. -/
import Derived.Test.YtajkkeikihhejaaGreatSq
import Derived.Test.YtajkkeikihhejaaGreatJ6
import Derived.Sort.Statements
open Go.Proofs.Tryz
set_option maxHeartbeats 80000000
namespace Go.Proofs.YtajkkeikihhejaaGreat
open Pl
theorem Bq:∀x y z:List UInt8,Op.bytesLess x y=true->Op.bytesLess y z=true->Op.bytesLess x z=true
 | [],_,[],h,k=>by cases ‹List UInt8› <;> simp [Op.bytesLess] at h k
 | [],_,_::_,_,_=>rfl
 | _::_,[],_,h,_=>by simp[Op.bytesLess]at h
 | _::_,_::_,[],_,k=>by simp[Op.bytesLess]at k
 | a::x,b::y,c::z,h,k=>by
  simp only[Op.bytesLess,Bool.or_eq_true,Vd,Vk,beq_iff_eq]at h k ⊢;rcases h with h|⟨h,h'⟩
  ·rcases k with k|⟨k,k'⟩
   ·exact .inl (UInt8.lt_trans h k)
   exact .inl (k ▸ h)
  rcases k with k|⟨k,k'⟩
  ·exact .inl (h ▸ k)
  exact .inr ⟨h.trans k,Bq x y z h' k'⟩
def Tp.text(t:Tp):List UInt8:=(bi t.a t.b t.r t.c t.d t.s).toList
theorem uI{x y:Tp}(hx:x.ok=true)(hy:y.ok=true):x.ahead y=Op.bytesLess x.text y.text:=ul hx hy
theorem Ho{x y:Tp}(h:x.ahead y=true):x.ok=true/\y.ok=true:=by
 unfold Tp.ahead gM at h;simp only[Vd]at h;exact⟨h.1.1,h.1.2⟩
theorem Hq{x y z:Tp}(h:x.ahead y=true)(k:y.ahead z=true):x.ahead z=true:=by
 obtain⟨hx,hy⟩:=Ho h;obtain⟨-,hz⟩:=Ho k;rw[uI hx hy]at h;rw[uI hy hz]at k;rw[uI hx hz];exact Bq _ _ _ h k
def Up(l:Q05):Prop:=l.Pairwise fun x y=>x.ahead y=true
theorem Tg{ts:Q05}(h:dI ts=true):Up ts/\(∀t∈ts,t.ok=true)/\ts.length<=40:=by
 unfold dI at h;simp only[Vd,Vk]at h;obtain⟨hl,hu⟩:=h;have hat:∀i,i<ts.length->xx ts i=true:=fun i hi=>by
  unfold vJ at hu;exact Vm.1 hu i (List.mem_range.2 hi)
 have hok:∀i (hi:i<ts.length),ts[i].ok=true:=fun i hi=>by
  have:=hat i hi;cases i with
  | zero=>rw[xy hi]at this;exact this
  | succ j=>rw[rY hi]at this;simp only[Vd]at this;exact this.1
 have hnx:∀i (hi:i+1<ts.length),ts[i].ahead ts[i+1]=true:=fun i hi=>by
  have:=hat (i+1) hi;rw[rY hi]at this;simp only[Vd]at this;exact this.2
 refine⟨List.pairwise_iff_getElem.2 fun i j hi hj hij=>?_,fun t ht=>?_,hl⟩
 ·obtain⟨d,rfl⟩:∃d,j=i+1+d:=⟨j-(i+1),by omega⟩
  induction d with
  | zero=>exact hnx i hj
  | succ d ih=>exact Hq (ih (by omega) (by omega)) (hnx (i+1+d) (by omega))
 obtain⟨i,hi,rfl⟩:=VP.1 ht;exact hok i hi
theorem MK{ts:Q05}(h:dI ts=true):ts.length<=40:=(Tg h).2.2
def jV:List Tp->Tp->List Tp
 | [],t=>[t]
 | x::xs,t=>if x.ahead t then x::jV xs t else t::x::xs
theorem PD(ts:Q05)(t y:Tp):y∈jV ts t↔y=t\/y∈ts:=by
 induction ts with
 | nil=>simp[jV]
 | cons x xs ih =>
  unfold jV;split
  ·simp only[Vq,ih];constructor
   ·rintro(h|h|h)
    ·exact .inr (.inl h)
    ·exact .inl h
    exact .inr (.inr h)
   rintro(h|h|h)
   ·exact .inr (.inl h)
   ·exact .inl h
   exact .inr (.inr h)
  simp
theorem Lm(ts:Q05)(t:Tp)(k:Nat)(hk:k<=ts.length)(h1:∀i (h:i<ts.length),i<k->ts[i].ahead t=true)(h2:∀h:k<ts.length,ts[k].ahead t=false):jV ts t=ts.take k++t::ts.drop k:=by
 induction ts generalizing k with
 | nil=>simp[jV]
 | cons x xs ih =>
  cases k with
  | zero =>
   have:=h2 (by simp);simp only[List.getElem_cons_zero]at this;simp[jV,this]
  | succ k =>
   have hx:=h1 0 (by simp) (by omega);simp only[List.getElem_cons_zero]at hx;have:=ih k (by simpa using hk) (fun i hi hik=>by have:=h1 (i+1) (by simpa using hi) (by omega);simpa using this) (fun h=>by have:=h2 (by simpa using h);simpa using this);simp[jV,hx,this]
open ChangeAt ChangeShapes Maps RowKit WideShapes
theorem uJ{w:af}{b off:Nat}{ts:Q05}(h:lq w b off ts):∀j u,(bY ts)[j]?=some u->w.cell? ((⟨b,off,none⟩:Addr).add j)=some u:=by
 intro j u hu;have hl:=jv ts;have hj:j<ts.length*6:=by
  rcases Nat.lt_or_ge j (bY ts).length with h|h
  ·omega
  rw[List.getElem?_eq_none h]at hu;cases hu
 have hi:j / 6<ts.length:=by omega
 have hr:j%6<6:=Nat.mod_lt _ (by omega);have e:j=j / 6*6+j%6:=by omega
 rw[e,vF ts _ hi _ hr]at hu;rw[show((⟨b,off,none⟩:Addr).add j)=⟨b,off+j / 6*6+j%6,none⟩ by rw[show(⟨b,off,none⟩:Addr).add j=⟨b,off+j,none⟩ by simp[Addr.add]];congr 1;omega];obtain⟨c0,c1,c2,c3,c4,c5⟩:=h (j / 6) hi;have h6:j%6=0\/j%6=1\/j%6=2\/j%6=3\/j%6=4\/j%6=5:=by omega
 rcases h6 with e6|e6|e6|e6|e6|e6<;>rw[e6]at hu ⊢ <;>simp only[Tp.row,List.getElem?_cons_zero,List.getElem?_cons_succ]at hu<;>rw[<-hu]<;>assumption
theorem DZ{w:af}{b off:Nat}{ts:Q05}(h:lq w b off ts)(k:Nat):lq w b off (ts.take k):=fun i hi=>by
 have:=h i (by simp at hi;omega);simpa using this
theorem MM{w:af}{b off:Nat}{ts:Q05}(h:lq w b off ts)(k:Nat):lq w b (off+k*6) (ts.drop k):=fun i hi=>by
 have:=h (k+i) (by simp at hi;omega);simp only[List.getElem_drop];rw[show off+k*6+i*6=off+(k+i)*6 by omega];exact this
theorem si(ts:Q05):∀u∈bY ts,u.oneCell'=true:=by
 intro u hu;unfold bY at hu;obtain⟨t,-,h⟩:=Vp.1 hu;exact Aj t u h
theorem wE(xs ys:Q05):bY (xs++ys)=bY xs++bY ys:=by simp[bY]
def uO(w:World)(g:Nat)(t:Tp):Prop:=w.cell? ⟨g,0,none⟩=some (.string t.a)/\w.cell? ⟨g,1,none⟩=some (.string t.b)/\w.cell? ⟨g,2,none⟩=some (.string t.r)/\w.cell? ⟨g,3,none⟩=some (.string t.c)/\w.cell? ⟨g,4,none⟩=some (.string t.d)/\w.cell? ⟨g,5,none⟩=some (.string t.s)/\g<w.heap.size
theorem uO.below{w w':af}{g:Nat}{t:Tp}(h:uO w g t)(hb:ae w w'):uO w' g t :=
 ⟨mK hb h.2.2.2.2.2.2 h.1,mK hb h.2.2.2.2.2.2 h.2.1,mK hb h.2.2.2.2.2.2 h.2.2.1,mK hb h.2.2.2.2.2.2 h.2.2.2.1,mK hb h.2.2.2.2.2.2 h.2.2.2.2.1,mK hb h.2.2.2.2.2.2 h.2.2.2.2.2.1,U9 h.2.2.2.2.2.2 hb.size⟩
theorem Fv(w:af)(t:Tp)(T:TypeId):uO (w.alloc (.cells #[.string t.a,.string t.b,.string t.r,.string t.c,.string t.d,.string t.s] T)) w.heap.size t:=by
 refine⟨?_,?_,?_,?_,?_,?_,?_⟩<;>simp
theorem uO.grown{w w':af}{g:Nat}{t:Tp}{row:Option Nat}(h:uO w g t)(hg:w.grownBy w' row)(hne:some g≠row):uO w' g t :=
 ⟨hg.cell h.1 hne,hg.cell h.2.1 hne,hg.cell h.2.2.1 hne,hg.cell h.2.2.2.1 hne,hg.cell h.2.2.2.2.1 hne,hg.cell h.2.2.2.2.2.1 hne,U9 h.2.2.2.2.2.2 hg.size⟩
theorem pO{w w':af}{b off:Nat}{ts:Q05}{row:Option Nat}(h:lq w b off ts)(hg:w.grownBy w' row)(_hb:b<w.heap.size)(hne:some b≠row):lq w' b off ts:=fun i hi=>by
 obtain⟨c0,c1,c2,c3,c4,c5⟩:=h i hi;exact⟨hg.cell c0 hne,hg.cell c1 hne,hg.cell c2 hne,hg.cell c3 hne,hg.cell c4 hne,hg.cell c5 hne⟩
theorem MN{ts:Q05}{k:Nat}(h:ts.length<=k)(w:af)(ad:Addr):∀j u,(bY (ts.drop k))[j]?=some u->w.cell? (ad.add j)=some u:=fun j u hu=>by
 rw[Vt h]at hu;simp[bY]at hu
theorem dJ{W:af}{base base':Nat}{e:TypeId}{size:Nat}{v:Value}{k:Nat}{xs:Q03}(h:W.ownsRow base e size v k xs)(hb:base'<=base):W.ownsRow base' e size v k xs:=by
 refine⟨h.1,?_⟩;rcases h.2 with hn|⟨g,cap,cur,hv,hbg,rest⟩
 ·exact .inl hn
 exact .inr ⟨g,cap,cur,hv,Vj hb hbg,rest⟩
theorem gF{p:Prop}(h:p):Hid p:=h
theorem PE{w:af}{g:Nat}{t:Tp}(h0:w.cell? ⟨g,0,none⟩=some (.string t.a))(h1:w.cell? ⟨g,1,none⟩=some (.string t.b))(h2:w.cell? ⟨g,2,none⟩=some (.string t.r))(h3:w.cell? ⟨g,3,none⟩=some (.string t.c))(h4:w.cell? ⟨g,4,none⟩=some (.string t.d))(h5:w.cell? ⟨g,5,none⟩=some (.string t.s))(hl:g<w.heap.size):uO w g t:=⟨h0,h1,h2,h3,h4,h5,hl⟩
theorem Lp{w W w':af}{b n o:Nat}{x0 x1 x2 x3 x4 x5 y0 y1 y2 y3 y4 y5:Value}(h:W.cell? ⟨b,o,none⟩=some x0/\W.cell? ⟨b,o+1,none⟩=some x1/\W.cell? ⟨b,o+2,none⟩=some x2/\W.cell? ⟨b,o+3,none⟩=some x3/\W.cell? ⟨b,o+4,none⟩=some x4/\W.cell? ⟨b,o+5,none⟩=some x5/\W.cell? ⟨n,0,none⟩=some y0/\W.cell? ⟨n,1,none⟩=some y1/\W.cell? ⟨n,2,none⟩=some y2/\W.cell? ⟨n,3,none⟩=some y3/\W.cell? ⟨n,4,none⟩=some y4/\W.cell? ⟨n,5,none⟩=some y5/\b<W.heap.size/\n<W.heap.size/\Below n w W)(hb:ae W w'):
  w'.cell? ⟨b,o,none⟩=some x0/\w'.cell? ⟨b,o+1,none⟩=some x1/\w'.cell? ⟨b,o+2,none⟩=some x2/\w'.cell? ⟨b,o+3,none⟩=some x3/\w'.cell? ⟨b,o+4,none⟩=some x4/\w'.cell? ⟨b,o+5,none⟩=some x5/\w'.cell? ⟨n,0,none⟩=some y0/\w'.cell? ⟨n,1,none⟩=some y1/\w'.cell? ⟨n,2,none⟩=some y2/\w'.cell? ⟨n,3,none⟩=some y3/\w'.cell? ⟨n,4,none⟩=some y4/\w'.cell? ⟨n,5,none⟩=some y5/\b<w'.heap.size/\n<w'.heap.size/\Below n w w':=by
 obtain⟨h0,h1,h2,h3,h4,h5,g0,g1,g2,g3,g4,g5,hB,hN,hw⟩:=h;exact⟨mK hb hB h0,mK hb hB h1,mK hb hB h2,mK hb hB h3,mK hb hB h4,mK hb hB h5,mK hb hN g0,mK hb hN g1,mK hb hN g2,mK hb hN g3,mK hb hN g4,mK hb hN g5,U9 hB hb.size,U9 hN hb.size,hw.trans (hb.mono (Nat.le_of_lt hN))⟩
set_option linter.unusedVariables false
set_option maxRecDepth 100000
theorem wF{x y:Al}:ko x y=true↔x=y:=by
 unfold ko;simp only[Vd,beq_iff_eq];constructor
 ·rintro⟨h0,h1⟩;obtain⟨xa,xb⟩:=x;obtain⟨ya,yb⟩:=y;simp only at h0 h1;rw[Gt h0,Gt h1]
 rintro rfl;simp
theorem D5(x y:Al):ko x y=ko y x:=by
 rw[Vu,wF,wF];exact⟨Eq.symm,Eq.symm⟩
theorem PG(x y:Al){v:Bool}(h:ko x y=v)(w:af):
  (binOp .eql 27 (.agg #[.string x.t,.string x.s]) (.agg #[.string y.t,.string y.s])).run prog w=.ok (.bool v) w:=by
 subst h;go_simp;unfold ko
 (repeat' split)<;>simp_all
def nu(xs:Q0a)(o:Al):Bool:=xs.any fun x=>ko x o
theorem PH{xs:Q0a}{o:Al}:nu xs o=true↔o∈xs:=by
 unfold nu;rw[VF];constructor
 ·rintro⟨x,hx,e⟩;rw[<-wF.1 e];exact hx
 intro h;exact⟨o,h,wF.2 rfl⟩
theorem MO{xs:Q0a}{o:Al}{k:Nat}(h:k<xs.length):nu (xs.take (k+1)) o=(nu (xs.take k) o || ko xs[k] o):=by
 rw[Ve h];unfold nu;rw[List.any_append];simp only[Wo,List.any_nil,Bool.or_false]
theorem PK{xs:Q0a}{o:Al}{k:Nat}(h:k<xs.length)(he:ko xs[k] o=true):nu xs o=true:=VF.2 ⟨xs[k],U8 h,he⟩
theorem JW(ad:Q02)(cap:Nat)(ts:Q0a)(t:Al)(w:af)(hlen:ts.length<=1048576)(hs:lK w ad ts):
  Calls prog 226 #[.slice ad ts.length cap,.agg #[.string t.t,.string t.s]] w fun e w'=>(∃r:Int,e=.returned (.int .i64 r)/\decide (0<=r)=nu ts t)/\ae w w':=by
 obtain⟨W,hW⟩:∃W,W=w.alloc (.cells #[.string t.t,.string t.s] 27):=⟨_,rfl⟩;have HB0:Hid (ae w W):=by show Below _ _ _;rw[hW];exact(Vb w.heap.size w).alloc (Va _) _
 have hz:w.heap.size<W.heap.size:=by rw[hW];simp
 have b0:W.cell? ⟨w.heap.size,0,none⟩=some (.string t.t):=by rw[hW];simp
 have b1:W.cell? ⟨w.heap.size,1,none⟩=some (.string t.s):=by rw[hW];simp
 have HS:=aD (hs.below HB0.out);clear hs;go_enter func226,ntmps226;go_wp2_with fail;rw[<-hW];clear hW;go_loopw[8] (fun i wr=>∃k:Nat,k<=ts.length/\i=.int .i64 k/\Hid (nu (ts.take k) t=false)/\ae W wr) (fun i _=>ts.length-(intOf i).toNat);case atStart=>exact⟨0,Vf _,rfl,rfl,Vb _ _⟩
 obtain⟨k,hk,rfl,HP,hB⟩:=hrel;have a0:=aI hB hz b0;have a1:=aI hB hz b1;by_cases hlt:k<ts.length
 ·rcases HS.out.below hB with hnil|⟨b,off,rfl,hb,hr⟩
  ·rw[hnil]at hlt;simp at hlt
  obtain⟨t0,t1⟩:=hr k hlt;have hk1:=bC k;have hk2:(k:Int)<(ts.length:Int):=by omega
  clear hr;cases hq:ko t ts[k];case true=>
   have HE:=PG t ts[k] hq;have HN:Hid (nu ts t=true):=PK hlt (by rw[D5];exact hq);go_wp2_with fail;go_quiet (fail);go_wp2;go_ret;exact⟨⟨_,rfl,by rw[HN.out];simp⟩,HB0.out.trans (below_drewN (hB.mono HB0.out.size) _)⟩
  have HE:=PG t ts[k] hq;have WB:Hid (nu (ts.take (k+1)) t=false):=by show _=_;rw[MO hlt,HP.out,D5,hq];rfl
  go_wp2_with fail;go_quiet (fail);go_wp2;go_roundw;case rel=>exact⟨k+1,by omega,by go_num,WB,below_drewN hB _⟩
  simp[intOf]<;>omega
 obtain rfl:k=ts.length:=by omega
 have HN:Hid (nu ts t=false):=by have:=HP.out;rw[Vs]at this;exact this
 go_wp2;go_ret;exact⟨⟨-1,rfl,by rw[HN.out];rfl⟩,HB0.out.trans (hB.mono HB0.out.size)⟩
theorem CF(ad:Q02)(cap:Nat)(ts:Q0a)(t:Al)(w:af)(hlen:ts.length<=1048576)(hs:lK w ad ts):
  Calls prog 198 #[.slice ad ts.length cap,.agg #[.string t.t,.string t.s]] w fun e w'=>e=.returned (.bool (nu ts t))/\ae w w':=by
 have HB0:Hid (ae w (w.alloc (.cells #[.string t.t,.string t.s] 27))):=(Vb w.heap.size w).alloc (Va _) _;have HS:=aH hs;clear hs;go_enter func198,ntmps198;go_wp2_with fail;refine(JW ad cap ts t _ hlen (HS.out.below HB0.out)).mono ?_;rintro e w1 ⟨⟨r,rfl,hr⟩,hb1⟩;have HR:=aH hr;have HB1:=aH (HB0.out.trans (hb1.mono HB0.out.size));clear hr hb1;go_wp2;go_ret;exact⟨ah HR.out,HB1.out⟩
def bz(xs:Q0a)(o:Al):List Al:=if nu xs o then xs else xs++[o]
theorem Br:∃i,prog.info? 27=some i/\i.zero=some (.agg #[.string ⟨#[]⟩,.string ⟨#[]⟩])/\i.size=2/\i.bytes=32 :=
 info_parts (P:=prog) (e:=27) (z:=.agg #[.string ⟨#[]⟩,.string ⟨#[]⟩]) (size:=2) (bytes:=32) (by kernel_rfl)
theorem kV{w:af}{base:Nat}{v:Value}{xs:Q0a}(h:w.ownsRow base 27 2 v xs.length (pairs xs)):∃ad cap,v=.slice ad xs.length cap/\lK w ad xs:=by
 rcases h.2 with⟨rfl,h0⟩|⟨g,cap,cur,rfl,hbg,hg,hnc,-⟩
 ·exact⟨none,0,by rw[h0],.inl (Vr.1 h0)⟩
 refine⟨_,cap,rfl,.inr ⟨g,0,rfl,(h.lt g rfl).2,fun i hi=>?_⟩⟩;obtain⟨h0,h1⟩:=uV xs i hi;have hl:=rP xs;refine⟨?_,?_⟩
 ·rw[h.cellAt (0+i*2) (by omega),VC];exact h0
 rw[h.cellAt (0+i*2+1) (by omega),VC];exact h1
theorem mR(B:Nat)(v:Value)(xs:Q0a)(o:Al)(w:af)(hlen:xs.length<=1000)(hB:B<=w.heap.size)(hown:w.ownsRow B 27 2 v xs.length (pairs xs)):
  Calls prog 143 #[v,.agg #[.string o.t,.string o.s]] w fun e w'=>∃v',e=.returned v'/\w'.ownsRow B 27 2 v' (bz xs o).length (pairs (bz xs o))/\Aside w v w' v'/\∀B',(∀g,v.ownBlock=some g->B'<=g)->B'<=w.heap.size->Below B' w w':=by
 obtain⟨iO,h0,h1,h2,h3⟩:=Br;have HIO:=aH (And.intro h0 (And.intro h1 (And.intro h2 h3)));obtain⟨ad,cap,rfl,hsl⟩:=kV hown;obtain⟨W,hW⟩:∃W,W=w.alloc (.cells #[.string o.t,.string o.s] 27):=⟨_,rfl⟩;have HB0:Hid (ae w W):=by show Below _ _ _;rw[hW];exact(Vb w.heap.size w).alloc (Va _) _
 have hz:w.heap.size<W.heap.size:=by rw[hW];simp
 have b0:W.cell? ⟨w.heap.size,0,none⟩=some (.string o.t):=by rw[hW];simp
 have b1:W.cell? ⟨w.heap.size,1,none⟩=some (.string o.s):=by rw[hW];simp
 have YQ:=aH hsl;have HO:=aH hown;clear hsl hown h0 h1 h2 h3;go_enter func143,ntmps143;go_wp2_with fail;rw[<-hW];clear hW;refine(CF ad cap xs o _ (by omega) (YQ.out.below HB0.out)).mono ?_;rintro e w1 ⟨rfl,hb1⟩;have HB1:=aH (HB0.out.trans (hb1.mono HB0.out.size));have c0:=aI hb1 hz b0;have c1:=aI hb1 hz b1;have WK:=aH (bu HO.out HB1.out);have HA1:Hid (Aside w (.slice ad xs.length cap) w1 (.slice ad xs.length cap)):=Aside.below HB1.out;clear hb1 b0 b1;cases hh:nu xs o;case true=>
  have HW:Hid (bz xs o=xs):=by show _=_;unfold bz;rw[hh];rfl
  go_wp2;go_ret;exact⟨_,rfl,by rw[HW.out];exact WK.out,HA1.out,fun B' _ hB'=>HB1.out.mono hB'⟩
 have HW:Hid (bz xs o=xs++[o]):=by show _=_;unfold bz;rw[hh];rfl
 obtain⟨W2,hW2⟩:∃W2,W2=w1.alloc (.cells #[.string o.t,.string o.s] 27):=⟨_,rfl⟩;have Wu:Hid (W2.ownsRow B 27 2 (.slice ad xs.length cap) xs.length (pairs xs)):=by show World.ownsRow _ _ _ _ _ _ _;rw[hW2];exact WK.out.alloc _
 have HA2:Hid (Aside w (.slice ad xs.length cap) W2 (.slice ad xs.length cap)):=by show Aside _ _ _ _;rw[hW2];exact HA1.out.trans (Aside.below ((Vb _ _).alloc (Va _) _))
 have HBW2:Hid (ae w W2):=by show Below _ _ _;rw[hW2];exact HB1.out.alloc HB1.out.size _
 have Yy:Hid (∀j u,[Value.string o.t,.string o.s][j]?=some u->W2.cell? ((⟨w1.heap.size,0,none⟩:Addr).add j)=some u):=fun j u hu=>by
  rw[hW2]
  match j,hu with
  | 0,hu=>simp at hu;subst hu;simp[Addr.add]
  | 1,hu=>simp at hu;subst hu;simp[Addr.add]
 have hsz2:B<=W2.heap.size:=by have:=HB1.out.size;rw[hW2];simp;omega
 clear hh;go_wp2_with(at_builtin;rw[<-hW2];clear hW2;refine wpList_append_own_at _ rfl _ _ 49 rfl B 27 iO (.agg #[.string ⟨#[]⟩,.string ⟨#[]⟩]) 2 32 underlying49 HIO.out.1 HIO.out.2.1 HIO.out.2.2.1 HIO.out.2.2.2 rfl (by decide) _ xs.length (pairs xs) rfl Wu.out ⟨w1.heap.size,0,none⟩ 1 1 [.string o.t,.string o.s] rfl rfl Yy.out (by simp[Value.oneCell']) (by unfold maxLen;omega) (by omega) hsz2 ?_);intro v' w3 hown hgr _ hat;have HE:Hid (w3.ownsRow B 27 2 v' (bz xs o).length (pairs (bz xs o))):=by
  show World.ownsRow _ _ _ _ _ _ _;rw[HW.out,Vh];have:pairs (xs++[o])=pairs xs++[.string o.t,.string o.s]:=by simp[pairs]
  rw[this];exact hown
 have HA3:Hid (Aside w (.slice ad xs.length cap) w3 v'):=HA2.out.trans (Aside.app hgr hat);have HBL:Hid (∀B',(∀g,(Value.slice ad xs.length cap).ownBlock=some g->B'<=g)->B'<=w.heap.size->Below B' w w3):=fun B' hv hB'=>(HBW2.out.mono hB').grown hgr (Vj hB' HBW2.out.size) hv;clear hown hgr hat;go_wp2;go_ret;exact⟨_,rfl,HE.out,HA3.out,HBL.out⟩
def fV(xs:Q0a)(t:Tp):List Al:=bz (bz xs ⟨t.a,t.b⟩) ⟨t.c,t.d⟩
def df(xs:Q0a)(t:Tp):List Al:=if t.s.toList==[] then bz xs ⟨t.c,t.d⟩ else xs
def dN(ts:Q05):List Al:=ts.foldl fV []
def bQ(ts:Q05):List Al:=ts.foldl df []
theorem Bt(ts:Q05)(t:Tp):dN (ts++[t])=fV (dN ts) t:=by simp[dN]
theorem yG(ts:Q05)(t:Tp):bQ (ts++[t])=df (bQ ts) t:=by simp[bQ]
theorem oG(xs:Q0a)(o:Al):(bz xs o).length<=xs.length+1:=by
 unfold bz;split
 ·omega
 simp
theorem qY(xs:Q0a)(t:Tp):(fV xs t).length<=xs.length+2:=by
 unfold fV;have h1:=oG (bz xs ⟨t.a,t.b⟩) ⟨t.c,t.d⟩;have h2:=oG xs ⟨t.a,t.b⟩;omega
theorem qZ(xs:Q0a)(t:Tp):(df xs t).length<=xs.length+1:=by
 unfold df;split
 ·exact oG _ _
 omega
def MP(t:Tp):K3:=(t.a,t.b,t.r)
def bn(ts:Q05):List (K3×Tp):=ts.map fun t=>(MP t,t)
theorem JX(ts:Q05)(t:Tp):bn (ts++[t])=bn ts++[(MP t,t)]:=by simp[bn]
structure DatT(w:World)(D br bp:Nat)(tab:Value)(n1:Int)(E:List (K3×Tp))(xo xu:Q0a)(np:Nat)(Mp:K3->Option Value)(vo vu:Value):Prop where
 gt:bp<D
 lt:D<w.heap.size
 kind:∃cur,w.heap[D]?=some (.cells cur 168 (0,0))
 c0:w.cell? ⟨D,0,none⟩=some tab
 c1:w.cell? ⟨D,1,none⟩=some (.int .i64 n1)
 c2:w.cell? ⟨D,2,none⟩=some (.map (some br))
 c3:w.cell? ⟨D,3,none⟩=some (.map (some bp))
 c4:w.cell? ⟨D,4,none⟩=some vo
 c5:w.cell? ⟨D,5,none⟩=some vu
 told:G.Grp qR prog 223 46 6 Tp.row w bp np Mp E
 objs:w.ownsRow (bp+1) 27 2 vo xo.length (pairs xo)
 users:w.ownsRow (bp+1) 27 2 vu xu.length (pairs xu)
 apart:∀g,vo.ownBlock=some g->vu.ownBlock≠some g
theorem dO{w:af}{base size n g:Nat}{e e':TypeId}{v:Value}{xs:Q03}{cur:Array Value}(h:w.ownsRow base e size v n xs)(hg:v.ownBlock=some g)(hc:w.heap[g]?=some (.cells cur e' (0,0))):e=e':=by
 rcases h.2 with⟨rfl,-⟩|⟨g',cap,cur',rfl,-,hg',-⟩
 ·simp[Value.ownBlock]at hg
 have e1:g'=g:=by simpa[Value.ownBlock] using hg
 rw[e1,hc]at hg';injection hg' with hg';injection hg' with _ h2;exact h2.symm
theorem Fw{w:af}{base size n g:Nat}{e:TypeId}{v:Value}{xs:Q03}{es:Array MapEntry}{c:Nat}(h:w.ownsRow base e size v n xs)(hg:v.ownBlock=some g)(hc:w.heap[g]?=some (.map es c)):False:=by
 rcases h.2 with⟨rfl,-⟩|⟨g',cap,cur',rfl,-,hg',-⟩
 ·simp[Value.ownBlock]at hg
 have e1:g'=g:=by simpa[Value.ownBlock] using hg
 rw[e1,hc]at hg';cases hg'
theorem eB{w w':af}{base size n:Nat}{e:TypeId}{v:Value}{xs:Q03}(h:w.ownsRow base e size v n xs)(hb:∀g,v.ownBlock=some g->w'.heap[g]?=w.heap[g]?):w'.ownsRow base e size v n xs:=by
 refine⟨h.1,?_⟩;rcases h.2 with h0|⟨g,cap,cur,rfl,h1,h2,h3⟩
 ·exact .inl h0
 exact .inr ⟨g,cap,cur,rfl,h1,(hb g rfl).trans h2,h3⟩
theorem jS{w:af}{base size n g:Nat}{e:TypeId}{v:Value}{xs:Q03}(h:w.ownsRow base e size v n xs)(hg:v.ownBlock=some g):∃cur,w.heap[g]?=some (.cells cur e (0,0)):=by
 rcases h.2 with⟨rfl,-⟩|⟨g',cap,cur',rfl,-,hg',-⟩
 ·simp[Value.ownBlock]at hg
 have e1:g'=g:=by simpa[Value.ownBlock] using hg
 exact⟨cur',by rw[<-e1];exact hg'⟩
theorem wG{w:af}{bp np:Nat}{Mp:K3->Option Value}{E:List (K3×Tp)}(h:G.Grp qR prog 223 46 6 Tp.row w bp np Mp E){k:K3}{v:Value}(hk:Mp k=some v):∃n xs,w.ownsRow (bp+1) 46 6 v n xs:=by
 rcases h.row k with⟨e,-⟩|⟨v',e,ho⟩
 ·rw[e]at hk;cases hk
 rw[e]at hk;injection hk with hk;subst hk;exact⟨_,_,ho⟩
theorem Hr{w:af}{bp np g:Nat}{Mp:K3->Option Value}{E:List (K3×Tp)}{e:TypeId}{cur:Array Value}(h:G.Grp qR prog 223 46 6 Tp.row w bp np Mp E)(hc:w.heap[g]?=some (.cells cur e (0,0)))(hne:(46:TypeId)≠e):G.FreeB Mp g:=fun k v hk hg=>by
 obtain⟨n,xs,ho⟩:=wG h hk;exact hne (dO ho hg hc)
theorem wH{w w':af}{bp np:Nat}{Mp:K3->Option Value}{E:List (K3×Tp)}(h:G.Grp qR prog 223 46 6 Tp.row w bp np Mp E)(hm:w'.heap[bp]?=w.heap[bp]?)(hr:∀k v g,Mp k=some v->v.ownBlock=some g->w'.heap[g]?=w.heap[g]?):G.Grp qR prog 223 46 6 Tp.row w' bp np Mp E where
 map:=h.map.of_block hm
 row k:=by
  rcases h.row k with e|⟨v,e,ho⟩
  ·exact .inl e
  exact .inr ⟨v,e,eB ho fun g hg=>hr k v g e hg⟩
 apart:=h.apart
section
variable  {w w':World}{D br bp:Nat}{tab:Value}{n1:Int}{E:List (K3×Tp)}{xo xu:Q0a}{np:Nat}{Mp:K3->Option Value}{vo vu:Value}
theorem DatT.below(h:DatT w D br bp tab n1 E xo xu np Mp vo vu)(hb:ae w w'):DatT w' D br bp tab n1 E xo xu np Mp vo vu where
 gt:=h.gt
 lt:=U9 h.lt hb.size
 kind:=by obtain⟨cur,e⟩:=h.kind;exact⟨cur,(hb.block D h.lt).trans e⟩
 c0:=(hb.cell (p:=⟨D,0,none⟩) h.lt).trans h.c0
 c1:=(hb.cell (p:=⟨D,1,none⟩) h.lt).trans h.c1
 c2:=(hb.cell (p:=⟨D,2,none⟩) h.lt).trans h.c2
 c3:=(hb.cell (p:=⟨D,3,none⟩) h.lt).trans h.c3
 c4:=(hb.cell (p:=⟨D,4,none⟩) h.lt).trans h.c4
 c5:=(hb.cell (p:=⟨D,5,none⟩) h.lt).trans h.c5
 told:=h.told.below hb
 objs:=bu h.objs hb
 users:=bu h.users hb
 apart:=h.apart
theorem DatT.tell(h:DatT w D br bp tab n1 E xo xu np Mp vo vu){Mp':K3->Option Value}{E':List (K3×Tp)}{np':Nat}(hg:G.Grp qR prog 223 46 6 Tp.row w' bp np' Mp' E')(hs:G.Stl w Mp w' Mp' bp):DatT w' D br bp tab n1 E' xo xu np' Mp' vo vu:=by
 have hD:w'.heap[D]?=w.heap[D]?:=by
  obtain⟨cur,e⟩:=h.kind;exact hs.block D h.lt (by have:=h.gt;omega) (Hr h.told e (by decide))
 have hc:∀o,w'.cell? ⟨D,o,none⟩=w.cell? ⟨D,o,none⟩:=fun o=>Vx (w:=w) (a:=⟨D,o,none⟩) hD;have hO:∀{v:Value} {n:Nat} {xs:Q03},w.ownsRow (bp+1) 27 2 v n xs->w'.ownsRow (bp+1) 27 2 v n xs:=fun {v n xs} ho=>eB ho fun g hg=>by
  obtain⟨cur,e⟩:=jS ho hg;have:=ho.lt g hg;exact hs.block g this.2 (by omega) (Hr h.told e (by decide))
 exact⟨h.gt,U9 h.lt hs.size,by obtain⟨cur,e⟩:=h.kind;exact⟨cur,hD.trans e⟩,(hc _).trans h.c0,(hc _).trans h.c1,(hc _).trans h.c2,(hc _).trans h.c3,(hc _).trans h.c4,(hc _).trans h.c5,hg,hO h.objs,hO h.users,h.apart⟩
theorem DatT.newO(h:DatT w D br bp tab n1 E xo xu np Mp vo vu){ZM:Value}{xo':Q0a}(ho:w'.ownsRow (bp+1) 27 2 ZM xo'.length (pairs xo'))(ha:Aside w vo w' ZM):DatT (w'.setCell ⟨D,4,none⟩ ZM) D br bp tab n1 E xo' xu np Mp ZM vu:=by
 obtain⟨cur,hk⟩:=h.kind;have ZN:vo.ownBlock≠some D:=fun e=>absurd (dO h.objs e hk) (by decide);have hD:w'.heap[D]?=w.heap[D]?:=ha.block D h.lt ZN;have hc:∀o,w'.cell? ⟨D,o,none⟩=w.cell? ⟨D,o,none⟩:=fun o=>Vx (w:=w) (a:=⟨D,o,none⟩) hD;have hc2:∀o,o≠4->(w'.setCell ⟨D,4,none⟩ ZM).cell? ⟨D,o,none⟩=w.cell? ⟨D,o,none⟩:=fun o ne=>(lu (by omega)).trans (hc o);have hDn:ZM.ownBlock≠some D:=ha.apart h.lt ZN;have hne:∀g,g≠D->(w'.setCell ⟨D,4,none⟩ ZM).heap[g]?=w'.heap[g]?:=fun g e=>heap_setCell_other w' ⟨D,4,none⟩ g ZM e;have hbp:bp<w.heap.size:=by have:=h.gt;have:=h.lt;omega
 have hrow:∀k v g,Mp k=some v->v.ownBlock=some g->(w'.setCell ⟨D,4,none⟩ ZM).heap[g]?=w.heap[g]?:=fun k v g hm hg=>by
  obtain⟨n,xs,hr⟩:=wG h.told hm;obtain⟨cr,er⟩:=jS hr hg;rw[hne g (fun e=>absurd (dO hr (e ▸ hg) hk) (by decide))];exact ha.block g (hr.lt g hg).2 (fun e=>absurd (dO h.objs e er) (by decide))
 refine⟨h.gt,by simpa using U9 h.lt ha.size,⟨_,heap_setCell_same w' D 4 cur _ ZM (hD.trans hk)⟩,(hc2 0 (by omega)).trans h.c0,(hc2 1 (by omega)).trans h.c1,(hc2 2 (by omega)).trans h.c2,(hc2 3 (by omega)).trans h.c3,Oy ((hc 4).trans h.c4),(hc2 5 (by omega)).trans h.c5,wH h.told ?_ hrow,eB ho fun g hg=>hne g fun e=>hDn (e ▸ hg),eB h.users fun g hg=>?_,fun g hg hu=>?_⟩
 ·rw[hne bp (by have:=h.gt;omega)];exact ha.block bp hbp fun e=>by have:=(h.objs.lt bp e).1;omega
 ·rw[hne g (fun e=>absurd (dO h.users (e ▸ hg) hk) (by decide))];exact ha.block g (h.users.lt g hg).2 fun e=>h.apart g e hg
 rcases ha.own with e|⟨g',e,hg'⟩
 ·exact h.apart g (e ▸ hg) hu
 rw[hg]at e;injection e with e;have:=(h.users.lt g hu).2;omega
theorem DatT.newU(h:DatT w D br bp tab n1 E xo xu np Mp vo vu){ZO:Value}{xu':Q0a}(ho:w'.ownsRow (bp+1) 27 2 ZO xu'.length (pairs xu'))(ha:Aside w vu w' ZO):DatT (w'.setCell ⟨D,5,none⟩ ZO) D br bp tab n1 E xo xu' np Mp vo ZO:=by
 obtain⟨cur,hk⟩:=h.kind;have ZN:vu.ownBlock≠some D:=fun e=>absurd (dO h.users e hk) (by decide);have hD:w'.heap[D]?=w.heap[D]?:=ha.block D h.lt ZN;have hc:∀o,w'.cell? ⟨D,o,none⟩=w.cell? ⟨D,o,none⟩:=fun o=>Vx (w:=w) (a:=⟨D,o,none⟩) hD;have hc2:∀o,o≠5->(w'.setCell ⟨D,5,none⟩ ZO).cell? ⟨D,o,none⟩=w.cell? ⟨D,o,none⟩:=fun o ne=>(lu (by omega)).trans (hc o);have hDn:ZO.ownBlock≠some D:=ha.apart h.lt ZN;have hne:∀g,g≠D->(w'.setCell ⟨D,5,none⟩ ZO).heap[g]?=w'.heap[g]?:=fun g e=>heap_setCell_other w' ⟨D,5,none⟩ g ZO e;have hbp:bp<w.heap.size:=by have:=h.gt;have:=h.lt;omega
 have hrow:∀k v g,Mp k=some v->v.ownBlock=some g->(w'.setCell ⟨D,5,none⟩ ZO).heap[g]?=w.heap[g]?:=fun k v g hm hg=>by
  obtain⟨n,xs,hr⟩:=wG h.told hm;obtain⟨cr,er⟩:=jS hr hg;rw[hne g (fun e=>absurd (dO hr (e ▸ hg) hk) (by decide))];exact ha.block g (hr.lt g hg).2 (fun e=>absurd (dO h.users e er) (by decide))
 refine⟨h.gt,by simpa using U9 h.lt ha.size,⟨_,heap_setCell_same w' D 5 cur _ ZO (hD.trans hk)⟩,(hc2 0 (by omega)).trans h.c0,(hc2 1 (by omega)).trans h.c1,(hc2 2 (by omega)).trans h.c2,(hc2 3 (by omega)).trans h.c3,(hc2 4 (by omega)).trans h.c4,Oy ((hc 5).trans h.c5),wH h.told ?_ hrow,eB h.objs fun g hg=>?_,eB ho fun g hg=>hne g fun e=>hDn (e ▸ hg),fun g hg hu=>?_⟩
 ·rw[hne bp (by have:=h.gt;omega)];exact ha.block bp hbp fun e=>by have:=(h.users.lt bp e).1;omega
 ·rw[hne g (fun e=>absurd (dO h.objs (e ▸ hg) hk) (by decide))];exact ha.block g (h.objs.lt g hg).2 fun e=>h.apart g hg e
 rcases ha.own with e|⟨g',e,hg'⟩
 ·exact h.apart g hg (e ▸ hu)
 rw[hu]at e;injection e with e;have:=(h.objs.lt g hg).2;omega
end
theorem PM:∃i,prog.info? 46=some i/\i.zero=some (.agg #[.string ⟨#[]⟩,.string ⟨#[]⟩,.string ⟨#[]⟩,.string ⟨#[]⟩,.string ⟨#[]⟩,.string ⟨#[]⟩])/\i.size=6/\i.bytes=96 :=
 info_parts (P:=prog) (e:=46) (z:=.agg #[.string ⟨#[]⟩,.string ⟨#[]⟩,.string ⟨#[]⟩,.string ⟨#[]⟩,.string ⟨#[]⟩,.string ⟨#[]⟩]) (size:=6) (bytes:=96) (by kernel_rfl)
theorem Bu(u:af):(zeroValue 25).run prog u=.ok (.slice none 0 0) u:=by kernel_rfl
theorem D6{w:af}{bp np:Nat}{Mp:K3->Option Value}{E:List (K3×Tp)}(h:G.Grp qR prog 223 46 6 Tp.row w bp np Mp E)(k:K3):w.ownsRow (bp+1) 46 6 ((Mp k).getD (.slice none 0 0)) (G.lookL E k).length (G.flatG Tp.row (G.lookL E k)):=by
 rcases h.row k with⟨e,e2⟩|⟨v,e,ho⟩
 ·rw[e,e2];exact World.ownsRow_nil _ _ _ _
 rw[e];exact ho
theorem news_of_block{w:af}{g:Nat}{cs:Array Value}{T:TypeId}(h:w.heap[g]?=some (.cells cs T (0,0))):∀j u,cs.toList[j]?=some u->w.cell? ((⟨g,0,none⟩:Addr).add j)=some u:=by
 intro j u hu;have e:(⟨g,0,none⟩:Addr).add j=⟨g,j,none⟩:=by
  unfold Addr.add;by_cases hj:j=0
  ·subst hj;simp
  simp[hj]
 rw[e];simp[World.cell?,h];simpa using hu
theorem uO.block{w w':af}{g:Nat}{t:Tp}(h:uO w g t)(e:w'.heap[g]?=w.heap[g]?)(hl:g<w'.heap.size):uO w' g t:=by
 obtain⟨h0,h1,h2,h3,h4,h5,_⟩:=h;have hc:∀o,w'.cell? ⟨g,o,none⟩=w.cell? ⟨g,o,none⟩:=fun o=>Vx (w:=w) (a:=⟨g,o,none⟩) e;exact⟨(hc _).trans h0,(hc _).trans h1,(hc _).trans h2,(hc _).trans h3,(hc _).trans h4,(hc _).trans h5,hl⟩
theorem ic{w:af}{g:Nat}{cs:Array Value}{T:TypeId}(h:w.heap[g]?=some (.cells cs T (0,0)))(o:Nat):w.frozen? ⟨g,o,none⟩=false:=by
 simp[World.frozen?,h]
theorem uO.aside{w w':af}{g base n:Nat}{t:Tp}{v v':Value}{xs:Q03}(h:uO w g t)(hc:∃cur,w.heap[g]?=some (.cells cur 46 (0,0)))(ho:w.ownsRow base 27 2 v n xs)(ha:Aside w v w' v'):uO w' g t/\∃cur,w'.heap[g]?=some (.cells cur 46 (0,0)):=by
 obtain⟨cur,e⟩:=hc;have hl:=h.2.2.2.2.2.2;have hb:=ha.block g hl fun hg=>absurd (dO ho hg e) (by decide);exact⟨h.block hb (U9 hl ha.size),cur,hb.trans e⟩
theorem PN(D br bp:Nat)(tab:Value)(n1:Int)(E:List (K3×Tp))(xo xu:Q0a)(np:Nat)(Mp:K3->Option Value)(vo vu:Value)(t:Tp)(w:af)(hd:DatT w D br bp tab n1 E xo xu np Mp vo vu)(hnp:np<=1000)(hE:E.length<=1000)(hxo:xo.length<=500)(hxu:xu.length<=500)(ht:t.fits):
  Calls prog 101 #[.pointer (some ⟨D,0,none⟩),.agg #[.string t.a,.string t.b,.string t.r,.string t.c,.string t.d,.string t.s]] w fun e w'=>e=.returned (.tuple #[])/\(∃Mp' ZM ZO,DatT w' D br bp tab n1 (E++[(MP t,t)]) (fV xo t) (df xu t) (np+1) Mp' ZM ZO)/\Below bp w w':=by
 obtain⟨iT,h0,h1,h2,h3⟩:=PM;have HIT:=aH (And.intro h0 (And.intro h1 (And.intro h2 h3)));obtain⟨W,hW⟩:∃W,W=(w.alloc (.cells #[.string t.a,.string t.b,.string t.r,.string t.c,.string t.d,.string t.s] 46)).alloc (.cells #[.string t.a,.string t.b,.string t.r] 223):=⟨_,rfl⟩;have Wx:Hid (ae w W):=by show Below _ _ _;rw[hW];exact((Vb _ _).alloc (Va _) _).alloc (by simp) _
 have hWs:W.heap.size=w.heap.size+2:=by rw[hW];simp
 have HT6:Hid (uO W w.heap.size t):=by show uO _ _ _;rw[hW];refine⟨?_,?_,?_,?_,?_,?_,?_⟩<;>first|(simp;done)|(simp;omega)
 have HK3:Hid (W.cell? ⟨w.heap.size+1,0,none⟩=some (.string t.a)/\W.cell? ⟨w.heap.size+1,1,none⟩=some (.string t.b)/\W.cell? ⟨w.heap.size+1,2,none⟩=some (.string t.r)):=by show _/\_;rw[hW];refine⟨?_,?_,?_⟩<;>simp
 have HD:=aH (hd.below Wx.out);have hDl:D<w.heap.size:=hd.lt;have HFB:Hid (G.FreeB Mp w.heap.size):=hd.told.fresh (Va _);have WT:Hid (W.heap[w.heap.size]?=some (.cells #[.string t.a,.string t.b,.string t.r,.string t.c,.string t.d,.string t.s] 46 (0,0))):=by show _=_;rw[hW,Below.heap_alloc _ _ _ (by simp)];exact heap_alloc_new w _
 have hbD:bp<D:=hd.gt;have HLL:Hid ((G.lookL E (MP t)).length<=1000):=Vj (Wi _ _) hE;obtain⟨row0,hr0⟩:∃r,r=(Mp (MP t)).getD (.slice none 0 0):=⟨_,rfl⟩;obtain⟨nn,hnn⟩:∃n,n=(G.lookL E (MP t)).length:=⟨_,rfl⟩;obtain⟨xs,hxs⟩:∃x,x=G.flatG Tp.row (G.lookL E (MP t)):=⟨_,rfl⟩;have XM:=aH hr0;have XR:=aH hnn;have Zz:=aH hxs;have hnl:nn<=1000:=by rw[hnn];exact HLL.out
 have Xt:Hid (∀W0:World,ae W W0->W0.ownsRow (bp+1) 46 6 row0 nn xs):=fun W0 hb=>by rw[hr0,hnn,hxs];exact D6 (HD.out.told.below hb) _
 have HKEY:Hid (∃kl,keyOf prog 223 (qR (MP t))=some kl):=vS _ ht.1 ht.2.1 ht.2.2.1;clear h0 h1 h2 h3 hr0 hnn hxs hd hE;obtain⟨C2,hC2⟩:∃C:Nat->Value,C=fun n=>(Value.pointer (some ⟨D,0,none⟩)::.pointer (some ⟨D,0,none⟩)::.pointer (some ⟨D,3,none⟩)::.map (some bp)::.agg #[.string t.a,.string t.b,.string t.r]::.agg #[.string t.a,.string t.b,.string t.r,.string t.c,.string t.d,.string t.s]::[]).getD n undef:=⟨_,rfl⟩;have Xh:Hid (C2 0=Value.pointer (some ⟨D,0,none⟩)/\C2 1=Value.pointer (some ⟨D,0,none⟩)/\C2 2=Value.pointer (some ⟨D,3,none⟩)/\C2 3=Value.map (some bp)/\C2 4=Value.agg #[.string t.a,.string t.b,.string t.r]/\C2 5=Value.agg #[.string t.a,.string t.b,.string t.r,.string t.c,.string t.d,.string t.s]):=by show _/\_;rw[hC2];exact⟨rfl,rfl,rfl,rfl,rfl,rfl⟩
 clear hC2;go_enter func101,ntmps101;go_wp2_with fail;rw[<-hW];clear hW;refine qi 11 (fun _=>undef) (fun fq=>{ tmps:=List.toArray (Value.pointer (some ⟨D,0,none⟩)::.agg #[.string t.a,.string t.b,.string t.r,.string t.c,.string t.d,.string t.s]::undef::.pointer (some ⟨w.heap.size,0,none⟩)::.pointer (some ⟨w.heap.size+1,0,none⟩)::.pointer (some ⟨w.heap.size,0,none⟩)::.agg #[.string t.a,.string t.b]::.pointer (some ⟨w.heap.size,2,none⟩)::.string t.r::.agg #[.string t.a,.string t.b,.string t.r]::(fq 0)::(fq 1)::(fq 2)::(fq 3)::(fq 4)::(fq 8)::(fq 5)::(fq 6)::(fq 7)::(fq 9)::(fq 10)::undef::undef::undef::undef::undef::undef::undef::undef::undef::undef::undef::undef::undef::undef::undef::undef::undef::undef::undef::undef::undef::undef::undef::undef::undef::undef::undef::undef::undef::undef::undef::undef::undef::[]),defers:=[] }) (G.EI C2 #[.string t.a,.string t.b,.string t.r,.string t.c,.string t.d,.string t.s] 46 6 W bp row0 nn xs (G.Back qR prog 223 166 bp np Mp (MP t))) (by kernel_rfl) rfl (by kernel_rfl) (by kernel_rfl) rfl (G.ei_start W) ?stepA ?finA;case stepA =>
  rintro i hi o ho l fq w' XB hI hpre;have HI:=aD hI;have Ww:Hid (∀e∈o.after,Region.binds .any e=true->l e.on=true):=hpre;clear hI hpre;have hc:=N9 (i:=i) (by omega);clear hi
  repeat' rcases hc with rfl|hc
  ·cases ho;have hA:=HI.out.early (i:=0) (by omega) XB;clear Ww HI;refine aa rfl fun K HK=>?_;go_simp;exact HK.out _ _ ⟨Value.pointer (some ⟨D,0,none⟩),by simp[upd, *],hA.put (by omega) Xh.out.1.symm⟩
  ·cases ho;have hA:=HI.out.early (i:=1) (by omega) XB;have e0:=(hA.val 0 (by omega) (Ww.out ⟨0,.data⟩ (by simp) rfl)).trans Xh.out.1;clear Ww HI;refine aa rfl fun K HK=>?_;simp only[e0];go_simp;exact HK.out _ _ ⟨Value.pointer (some ⟨D,0,none⟩),by simp[upd, *],hA.put (by omega) Xh.out.2.1.symm⟩
  ·cases ho;have hA:=HI.out.early (i:=2) (by omega) XB;have e1:=(hA.val 1 (by omega) (Ww.out ⟨1,.data⟩ (by simp) rfl)).trans Xh.out.2.1;clear Ww HI;refine aa rfl fun K HK=>?_;simp only[e1];go_simp;exact HK.out _ _ ⟨Value.pointer (some ⟨D,3,none⟩),by simp[upd, *],hA.put (by omega) Xh.out.2.2.1.symm⟩
  ·cases ho;have hA:=HI.out.early (i:=3) (by omega) XB;have e2:=(hA.val 2 (by omega) (Ww.out ⟨2,.data⟩ (by simp) rfl)).trans Xh.out.2.2.1;have hb':=hA.bel;have d3:=(hb'.cell (p:=⟨D,3,none⟩) (by show D<_;omega)).trans HD.out.c3;clear Ww HI;refine aa rfl fun K HK=>?_;simp only[e2];go_simp;exact HK.out _ _ ⟨Value.map (some bp),by simp[upd, *],hA.put (by omega) Xh.out.2.2.2.1.symm⟩
  ·cases ho;have hA:=HI.out.early (i:=4) (by omega) XB;have hb':=hA.bel;have k0:=(hb'.cell (p:=⟨w.heap.size+1,0,none⟩) (by show w.heap.size+1<_;omega)).trans HK3.out.1;have k1:=(hb'.cell (p:=⟨w.heap.size+1,1,none⟩) (by show w.heap.size+1<_;omega)).trans HK3.out.2.1;have k2:=(hb'.cell (p:=⟨w.heap.size+1,2,none⟩) (by show w.heap.size+1<_;omega)).trans HK3.out.2.2;clear Ww HI;refine aa rfl fun K HK=>?_;go_simp;exact HK.out _ _ ⟨Value.agg #[.string t.a,.string t.b,.string t.r],by simp[upd, *],hA.put (by omega) Xh.out.2.2.2.2.1.symm⟩
  ·cases ho;have hA:=HI.out.early (i:=5) (by omega) XB;have hb':=hA.bel;obtain⟨t0,t1,t2,t3,t4,t5,tl⟩:=HT6.out.below hb';clear Ww HI;refine aa rfl fun K HK=>?_;go_simp;exact HK.out _ _ ⟨Value.agg #[.string t.a,.string t.b,.string t.r,.string t.c,.string t.d,.string t.s],by simp[upd, *],hA.put (by omega) Xh.out.2.2.2.2.2.symm⟩
  ·cases ho;have hA:=HI.out.early (i:=6) (by omega) XB;have e5:=(hA.val 5 (by omega) (Ww.out ⟨5,.data⟩ (by simp) rfl)).trans Xh.out.2.2.2.2.2;clear Ww HI;refine aa rfl fun K HK=>?_;simp only[e5];go_simp;exact HK.out _ _ ⟨_,by simp[upd,e5],hA.lay⟩
  ·cases ho;have hA:=HI.out.early (i:=7) (by omega) XB;have e3:=(hA.val 3 (by omega) (Ww.out ⟨3,.data⟩ (by simp) rfl)).trans Xh.out.2.2.2.1;have e4:=(hA.val 4 (by omega) (Ww.out ⟨4,.data⟩ (by simp) rfl)).trans Xh.out.2.2.2.2.1;have hall:∀k,k<=6->l k=true:=fun k hk=>by
    have hc:=Uv (i:=k) (by omega)
    repeat' rcases hc with rfl|hc
    all_goals exact Ww.out ⟨_,.phase⟩ (by simp) rfl
   have hD':=HD.out.below hA.bel;obtain⟨kl,hkl⟩:=HKEY.out;obtain⟨st,w1,hrun,hg,hback⟩:=hD'.told.map.entry O6 O5 underlying166 Bu (by unfold maxLen;omega) hkl;rw[<-XM.out]at hrun;have hrun':(Instr.mapEntry 166 (.map (some bp)) (Value.agg #[.string t.a,.string t.b,.string t.r])).run prog w'=.ok (.tuple #[row0,goInt st]) w1:=hrun;clear Ww HI;refine aa rfl fun K HK=>?_;simp only[e3,e4];go_simp;exact HK.out _ _ ⟨_,by simp[upd,e3,e4,goInt],hA.took hall hg hback⟩
  ·cases ho;have h7:=Ww.out ⟨7,.data⟩ (by simp) rfl;have hB:=HI.out.midB h7 (i:=8) (by omega) XB;obtain⟨st,e7⟩:=HI.out.seven h7;clear Ww HI;refine aa rfl fun K HK=>?_;simp only[e7];go_simp;exact HK.out _ _ ⟨_,by simp[upd,e7,goInt],hB.first⟩
  ·cases ho;have h7:=Ww.out ⟨7,.chain⟩ (by simp) rfl;have h8:=Ww.out ⟨8,.data⟩ (by simp) rfl;have hB:=HI.out.midB h7 (i:=9) (by omega) XB;obtain ⟨W0,st,g,hm1,hm2,ZP,hm4,Ze,e7,hm7,hm8,hm9⟩:=hB.mid;have e8:=hm8 h8;have hown:=(Xt.out W0 hm1).kept Ze (by
    rcases h:row0.ownBlock with _|g'
    ·exact .inl rfl
    right;intro e;injection e with e;have:=((Xt.out W0 hm1).lt g' h).1;omega)
   have hnew:w'.heap[g]?=some (.cells #[.string t.a,.string t.b,.string t.r,.string t.c,.string t.d,.string t.s] 46 (0,0)):=by
    have hgl:g<W0.heap.size:=by
     rcases Nat.lt_or_ge g W0.heap.size with h|h
     ·exact h
     rw[Array.getElem?_eq_none h]at hm4;cases hm4
    rw[Ze.block g hgl (fun e=>by injection e with e;omega)];exact hm4
   clear Ww HI;refine lh w' rfl rfl _ _ 25 rfl (bp+1) 46 iT _ 6 96 underlying25 HIT.out.1 HIT.out.2.1 HIT.out.2.2.1 HIT.out.2.2.2 rfl (by decide) row0 nn xs (by simp[Act.eval,e8]) hown ⟨g,0,none⟩ 1 1 [Value.string t.a,.string t.b,.string t.r,.string t.c,.string t.d,.string t.s] (by simp[Act.eval,hm2]) rfl (fun j u hu=>news_of_block hnew j u hu) (by simp[Value.oneCell']) (by unfold maxLen;omega) (by omega) (by have:=Ze.size;have:=hm1.size;omega) ?_;intro v' w2 hown2 Xj hloc2;exact⟨v',by simp[upd,Act.put],hB.app h8 Xj hown2 hloc2⟩
  cases ho;have h7:=Ww.out ⟨7,.data⟩ (by simp) rfl;obtain⟨st,e7⟩:=HI.out.seven h7;have HI2:=HI.out.second h7 e7;clear Ww HI;refine aa rfl fun K HK=>?_;simp only[e7];go_simp;exact HK.out _ _ ⟨_,by simp[upd,e7,goInt],HI2⟩
 case finA =>
  rintro o ho l fq w' hall hI;obtain rfl:=Option.some.inj ho;have hC:=hI.last hall;obtain⟨W0,w1,st,hm1,hm2,ZP,hm4,Ze,hm6,-,hm8⟩:=hC.mid;have e10:=hm8 (hall 10 (by omega));have e3:=(hC.val 3 (by omega)).trans Xh.out.2.2.2.1;obtain⟨w3,hrun,hM3,hg3⟩:=hm6 w' (fq 9) (ZP.block bp (by have:=hm2.size;have:=hm1.size;omega) (fun e=>by have:=(Xt.out W0 hm1).lt bp e.symm;omega));have hst:=(HD.out.told.below hm1).step (y:=MP t) (s:=t) hm2 (by rw[<-XR.out,<-Zz.out];exact hm4) (by rw[<-XM.out];exact ZP) (by rw[<-XM.out];exact Ze) hg3 hM3;have HD3:=aH ((HD.out.below hm1).tell hst.1 hst.2);have HB3:Hid (Below bp w w3):=by
   have b0:Below bp w W0:=(Wx.out.trans (hm1.mono Wx.out.size)).mono (by omega);have b1:Below bp w w1:=b0.grown hm2 (by have:=hm1.size;omega) (fun i hi=>by injection hi with hi;omega);have b2:Below bp w w':=b1.grown ZP (by have:=hm2.size;have:=hm1.size;omega) (fun i hi=>by have:=((Xt.out W0 hm1).lt i hi).1;omega);exact b2.grown hg3 (by have:=ZP.size;have:=hm2.size;have:=hm1.size;omega) (fun i hi=>by injection hi with hi;omega)
  have hz3:W.heap.size<=w3.heap.size:=by have:=hg3.size;have:=ZP.size;have:=hm2.size;have:=hm1.size;omega
  have hbx3:w3.heap[w.heap.size]?=some (.cells #[.string t.a,.string t.b,.string t.r,.string t.c,.string t.d,.string t.s] 46 (0,0)):=by
   rw[hst.2.block w.heap.size (by have:=hm1.size;omega) (by omega) HFB.out,hm1.block w.heap.size (by omega)];exact WT.out
  have HT3:Hid (uO w3 w.heap.size t/\∃cur,w3.heap[w.heap.size]?=some (.cells cur 46 (0,0))):=⟨HT6.out.block (by rw[hbx3,WT.out]) (by omega),_,hbx3⟩;have Ya:(Instr.entryStore 166 (.map (some bp)) (.int .i64 st) (fq 9)).run prog w'=.ok () w3:=hrun;obtain⟨Mn,hMn⟩:∃M,M=lX Mp (MP t) (some (fq 9)):=⟨_,rfl⟩;rw[<-hMn]at HD3;refine aa rfl fun K HK=>?_;simp only[e3,e10];go_simp;refine HK.out _ _ ?_;clear hst hrun Ya hM3 hg3 hm1 hm2 ZP hm4 Ze hm6 hm8 hC hI hall ho HK K e3 e10 HD HT6 HK3 Wx Xt WT Xh HKEY HFB hMn XM XR Zz hbx3;obtain⟨y0,hy0⟩:∃y,y=fq 0:=⟨_,rfl⟩;rw[<-hy0];obtain⟨y1,hy1⟩:∃y,y=fq 1:=⟨_,rfl⟩;rw[<-hy1];obtain⟨y2,hy2⟩:∃y,y=fq 2:=⟨_,rfl⟩;rw[<-hy2];obtain⟨y4,hy4⟩:∃y,y=fq 4:=⟨_,rfl⟩;rw[<-hy4];obtain⟨y8,hy8⟩:∃y,y=fq 8:=⟨_,rfl⟩;rw[<-hy8];obtain⟨y5,hy5⟩:∃y,y=fq 5:=⟨_,rfl⟩;rw[<-hy5];obtain⟨y6,hy6⟩:∃y,y=fq 6:=⟨_,rfl⟩;rw[<-hy6];obtain⟨y7,hy7⟩:∃y,y=fq 7:=⟨_,rfl⟩;rw[<-hy7];obtain⟨y9,hy9⟩:∃y,y=fq 9:=⟨_,rfl⟩;rw[<-hy9];clear hy0 hy1 hy2 hy4 hy8 hy5 hy6 hy7 hy9 fq l hz3;go_wp2_with fail;have hbz:bp+1<=w3.heap.size:=by have:=HD3.out.lt;have:=HD3.out.gt;omega
  have hx1:(bz xo ⟨t.a,t.b⟩).length<=501:=by have:=oG xo ⟨t.a,t.b⟩;omega
  obtain⟨CB,hCB⟩:∃C:Nat->Value,C=fun n=>(Value.pointer (some ⟨D,0,none⟩)::.pointer (some ⟨D,0,none⟩)::.pointer (some ⟨D,0,none⟩)::.pointer (some ⟨D,4,none⟩)::vo::.pointer (some ⟨w.heap.size,0,none⟩)::.agg #[.string t.a,.string t.b]::undef::.pointer (some ⟨D,0,none⟩)::.pointer (some ⟨D,4,none⟩)::[]).getD n undef:=⟨_,rfl⟩;have Zf:Hid (CB 0=Value.pointer (some ⟨D,0,none⟩)/\CB 1=Value.pointer (some ⟨D,0,none⟩)/\CB 2=Value.pointer (some ⟨D,0,none⟩)/\CB 3=Value.pointer (some ⟨D,4,none⟩)/\CB 4=vo/\CB 5=Value.pointer (some ⟨w.heap.size,0,none⟩)/\CB 6=Value.agg #[.string t.a,.string t.b]/\CB 7=undef/\CB 8=Value.pointer (some ⟨D,0,none⟩)/\CB 9=Value.pointer (some ⟨D,4,none⟩)):=by show _/\_;rw[hCB];exact⟨rfl,rfl,rfl,rfl,rfl,rfl,rfl,rfl,rfl,rfl⟩
  clear hCB;refine kv 10 (fun _=>undef) (fun fr=>{ tmps:=List.toArray (Value.pointer (some ⟨D,0,none⟩)::.agg #[.string t.a,.string t.b,.string t.r,.string t.c,.string t.d,.string t.s]::undef::.pointer (some ⟨w.heap.size,0,none⟩)::.pointer (some ⟨w.heap.size+1,0,none⟩)::.pointer (some ⟨w.heap.size,0,none⟩)::.agg #[.string t.a,.string t.b]::.pointer (some ⟨w.heap.size,2,none⟩)::.string t.r::.agg #[.string t.a,.string t.b,.string t.r]::y0::y1::y2::.map (some bp)::y4::y8::y5::y6::y7::y9::.int .i64 st::(fr 0)::(fr 1)::(fr 2)::(fr 3)::(fr 4)::(fr 5)::(fr 6)::(fr 7)::(fr 8)::(fr 9)::undef::undef::undef::undef::undef::undef::undef::undef::undef::undef::undef::undef::undef::undef::undef::undef::undef::undef::undef::undef::undef::undef::undef::[]),defers:=[] }) (G.WI CB w3 (fun v' w'=>∃w1,ae w3 w1/\w'.ownsRow (bp+1) 27 2 v' (bz xo ⟨t.a,t.b⟩).length (pairs (bz xo ⟨t.a,t.b⟩))/\Aside w1 vo w' v'/\∀B',(∀g,vo.ownBlock=some g->B'<=g)->B'<=w1.heap.size->Below B' w1 w')) (by kernel_rfl) rfl (by kernel_rfl) (fun o ho l f w' hI hp=>?clB) rfl (G.wi_start w3) ?yP ?finB;case clB =>
   cases ho;intro k hk;have h9:=hp ⟨9,.data⟩ (by simp) rfl;have hc:=uQ (i:=k) (by omega)
   repeat' rcases hc with rfl|hc
   all_goals first|exact hI.nin h9|exact h9|exact hp ⟨_,.phase⟩ (by simp) rfl
  case yP =>
   rintro i hi o ho l fr w' XB hI hpre;have HI:Hid (G.WI CB w3 (fun v' w'=>∃w1,ae w3 w1/\w'.ownsRow (bp+1) 27 2 v' (bz xo ⟨t.a,t.b⟩).length (pairs (bz xo ⟨t.a,t.b⟩))/\Aside w1 vo w' v'/\∀B',(∀g,vo.ownBlock=some g->B'<=g)->B'<=w1.heap.size->Below B' w1 w') l fr w'):=hI;have Ww:Hid (∀e∈o.after,Region.binds .any e=true->l e.on=true):=hpre;clear hI hpre;have hc:=uQ (i:=i) (by omega);clear hi
   repeat' rcases hc with rfl|hc
   ·cases ho;have hW:=HI.out;clear Ww HI;refine aa rfl fun K HK=>?_;go_simp;exact HK.out _ _ ⟨Value.pointer (some ⟨D,0,none⟩),by simp[upd, *],hW.put (by omega) (by omega) Zf.out.1.symm⟩
   ·cases ho;have hW:=HI.out;clear Ww HI;refine aa rfl fun K HK=>?_;go_simp;exact HK.out _ _ ⟨Value.pointer (some ⟨D,0,none⟩),by simp[upd, *],hW.put (by omega) (by omega) Zf.out.2.1.symm⟩
   ·cases ho;have hW:=HI.out;have e1:=(HI.out.val 1 (by omega) (by omega) (Ww.out ⟨1,.data⟩ (by simp) rfl)).trans Zf.out.2.1;clear Ww HI;refine aa rfl fun K HK=>?_;simp only[e1];go_simp;exact HK.out _ _ ⟨Value.pointer (some ⟨D,0,none⟩),by simp[upd, *],hW.put (by omega) (by omega) Zf.out.2.2.1.symm⟩
   ·cases ho;have hW:=HI.out;have e2:=(HI.out.val 2 (by omega) (by omega) (Ww.out ⟨2,.data⟩ (by simp) rfl)).trans Zf.out.2.2.1;clear Ww HI;refine aa rfl fun K HK=>?_;simp only[e2];go_simp;exact HK.out _ _ ⟨Value.pointer (some ⟨D,4,none⟩),by simp[upd, *],hW.put (by omega) (by omega) Zf.out.2.2.2.1.symm⟩
   ·cases ho;have hW:=HI.out;have e3:=(HI.out.val 3 (by omega) (by omega) (Ww.out ⟨3,.data⟩ (by simp) rfl)).trans Zf.out.2.2.2.1;have hb':=HI.out.early (.inl XB);have d4:=(hb'.cell (p:=⟨D,4,none⟩) HD3.out.lt).trans HD3.out.c4;clear Ww HI;refine aa rfl fun K HK=>?_;simp only[e3];go_simp;exact HK.out _ _ ⟨vo,by simp[upd, *],hW.put (by omega) (by omega) Zf.out.2.2.2.2.1.symm⟩
   ·cases ho;have hW:=HI.out;clear Ww HI;refine aa rfl fun K HK=>?_;go_simp;exact HK.out _ _ ⟨Value.pointer (some ⟨w.heap.size,0,none⟩),by simp[upd, *],hW.put (by omega) (by omega) Zf.out.2.2.2.2.2.1.symm⟩
   ·cases ho;have hW:=HI.out;have e5:=(HI.out.val 5 (by omega) (by omega) (Ww.out ⟨5,.data⟩ (by simp) rfl)).trans Zf.out.2.2.2.2.2.1;have hb':=HI.out.early (.inr XB);obtain⟨t0,t1,t2,t3,t4,t5,tl⟩:=HT3.out.1.below hb';clear Ww HI;refine aa rfl fun K HK=>?_;simp only[e5];go_simp;exact HK.out _ _ ⟨Value.agg #[.string t.a,.string t.b],by simp[upd, *],hW.put (by omega) (by omega) Zf.out.2.2.2.2.2.2.1.symm⟩
   ·cases ho;have hW:=HI.out;have e4:=(HI.out.val 4 (by omega) (by omega) (Ww.out ⟨4,.data⟩ (by simp) rfl)).trans Zf.out.2.2.2.2.1;have e6:=(HI.out.val 6 (by omega) (by omega) (Ww.out ⟨6,.data⟩ (by simp) rfl)).trans Zf.out.2.2.2.2.2.2.1;have h4:=Ww.out ⟨4,.data⟩ (by simp) rfl;have h6:=Ww.out ⟨6,.data⟩ (by simp) rfl;have hb':=HI.out.before XB;have hown:=bu HD3.out.objs hb';clear Ww HI;refine aa rfl fun K HK=>?_;simp only[e4,e6];go_simp;refine(mR (bp+1) vo xo ⟨t.a,t.b⟩ w' (by omega) (Vj hbz hb'.size) hown).mono ?_;rintro e w2 ⟨v',rfl,hown2,has,hbl⟩;exact HK.out _ _ ⟨v',by simp[upd,e4,e6],hW.call h4 h6 ⟨w',hb',hown2,has,hbl⟩⟩
   ·cases ho;have hW:=HI.out;have e0:=(HI.out.val 0 (by omega) (by omega) (Ww.out ⟨0,.data⟩ (by simp) rfl)).trans Zf.out.1;clear Ww HI;refine aa rfl fun K HK=>?_;simp only[e0];go_simp;exact HK.out _ _ ⟨Value.pointer (some ⟨D,0,none⟩),by simp[upd, *],hW.put (by omega) (by omega) Zf.out.2.2.2.2.2.2.2.2.1.symm⟩
   cases ho;have hW:=HI.out;have e8:=(HI.out.val 8 (by omega) (by omega) (Ww.out ⟨8,.data⟩ (by simp) rfl)).trans Zf.out.2.2.2.2.2.2.2.2.1;have h8:=Ww.out ⟨8,.data⟩ (by simp) rfl;clear Ww HI;refine aa rfl fun K HK=>?_;simp only[e8];go_simp;exact HK.out _ _ ⟨Value.pointer (some ⟨D,4,none⟩),by simp[upd, *],hW.put (by omega) (fun _=>h8) Zf.out.2.2.2.2.2.2.2.2.2.symm⟩
  case finB =>
   rintro o ho l fr w' hall hI;obtain rfl:=Option.some.inj ho;obtain⟨hval,w1,hb1,hown,has,hbl⟩:=hI.last hall;have e9:=(hval 9 (by omega) (by omega)).trans Zf.out.2.2.2.2.2.2.2.2.2;have X8:=HD3.out.below hb1;have hDn:=X8.newO hown has;have hTn:=(HT3.out.1.below hb1).aside (by obtain⟨cur,e⟩:=HT3.out.2;exact⟨cur,(hb1.block _ HT3.out.1.2.2.2.2.2.2).trans e⟩) X8.objs has;obtain⟨cur,hkd⟩:=X8.kind;have ZN:vo.ownBlock≠some D:=fun e=>absurd (dO X8.objs e hkd) (by decide);have ZQ:=(has.block D X8.lt ZN).trans hkd;have fz:=fun o=>ic ZQ o;have d4:=(Vx (w:=w1) (a:=⟨D,4,none⟩) (has.block D X8.lt ZN)).trans X8.c4;obtain⟨adn,cpn,e7,-⟩:=kV hown;rw[e7]at hown has hDn;obtain⟨w4,hwn⟩:∃x,x=w'.setCell ⟨D,4,none⟩ (Value.slice adn (bz xo ⟨t.a,t.b⟩).length cpn):=⟨_,rfl⟩;rw[<-hwn]at hDn;have HD3n:=aH hDn;have HT3n:Hid (uO w4 w.heap.size t/\∃cur,w4.heap[w.heap.size]?=some (.cells cur 46 (0,0))):=by
    have hh:w4.heap[w.heap.size]?=w'.heap[w.heap.size]?:=by rw[hwn];exact heap_setCell_other w' ⟨D,4,none⟩ w.heap.size _ (by show w.heap.size≠D;omega)
    obtain⟨cr,ecr⟩:=hTn.2;exact⟨hTn.1.block hh (by rw[hwn];simpa using hTn.1.2.2.2.2.2.2),cr,hh.trans ecr⟩
   have HB3n:Hid (Below bp w w4):=by
    have b1:Below bp w w1:=HB3.out.trans (hb1.mono (by omega));have b2:Below bp w w':=b1.trans (hbl bp (fun g hg=>by have:=(X8.objs.lt g hg).1;omega) (by have:=hb1.size;omega));show Below _ _ _;rw[hwn];exact b2.setCell (by show bp<=D;omega) _
   have hsn:w3.heap.size<=w4.heap.size:=by rw[hwn];have:=hb1.size;have:=has.size;simp;omega
   have hbzn:bp+1<=w4.heap.size:=by omega
   clear hval;refine aa rfl fun K HK=>?_;simp only[e9,e7];go_simp;rw[<-hwn];refine HK.out _ _ ?_;obtain⟨vo1,hvo1⟩:∃v,v=Value.slice adn (bz xo ⟨t.a,t.b⟩).length cpn:=⟨_,rfl⟩;rw[<-hvo1]at HD3n ⊢;clear hb1 hown has hbl X8 hDn hTn hkd ZQ ZN fz d4 HK K hI hall ho hwn e9 e7 hvo1 hsn hbz HD3 HT3 HB3 Zf;obtain⟨zB0,hz0⟩:∃y,y=fr 0:=⟨_,rfl⟩;rw[<-hz0];obtain⟨zB1,hz1⟩:∃y,y=fr 1:=⟨_,rfl⟩;rw[<-hz1];obtain⟨zB2,hz2⟩:∃y,y=fr 2:=⟨_,rfl⟩;rw[<-hz2];obtain⟨zB3,hz3⟩:∃y,y=fr 3:=⟨_,rfl⟩;rw[<-hz3];obtain⟨zB4,YH⟩:∃y,y=fr 4:=⟨_,rfl⟩;rw[<-YH];obtain⟨zB5,hz5⟩:∃y,y=fr 5:=⟨_,rfl⟩;rw[<-hz5];obtain⟨zB6,hz6⟩:∃y,y=fr 6:=⟨_,rfl⟩;rw[<-hz6];obtain⟨zB8,hz8⟩:∃y,y=fr 8:=⟨_,rfl⟩;rw[<-hz8];clear hz0 hz1 hz2 hz3 YH hz5 hz6 hz8 fr l
   skip
   have hbz:=hbzn;clear hbzn;go_wp2_with fail;obtain⟨CC,hCC⟩:∃C:Nat->Value,C=fun n=>(Value.pointer (some ⟨D,0,none⟩)::.pointer (some ⟨D,0,none⟩)::.pointer (some ⟨D,0,none⟩)::.pointer (some ⟨D,4,none⟩)::vo1::.pointer (some ⟨w.heap.size,3,none⟩)::.agg #[.string t.c,.string t.d]::undef::.pointer (some ⟨D,0,none⟩)::.pointer (some ⟨D,4,none⟩)::[]).getD n undef:=⟨_,rfl⟩;have XD:Hid (CC 0=Value.pointer (some ⟨D,0,none⟩)/\CC 1=Value.pointer (some ⟨D,0,none⟩)/\CC 2=Value.pointer (some ⟨D,0,none⟩)/\CC 3=Value.pointer (some ⟨D,4,none⟩)/\CC 4=vo1/\CC 5=Value.pointer (some ⟨w.heap.size,3,none⟩)/\CC 6=Value.agg #[.string t.c,.string t.d]/\CC 7=undef/\CC 8=Value.pointer (some ⟨D,0,none⟩)/\CC 9=Value.pointer (some ⟨D,4,none⟩)):=by show _/\_;rw[hCC];exact⟨rfl,rfl,rfl,rfl,rfl,rfl,rfl,rfl,rfl,rfl⟩
   clear hCC;refine kv 10 (fun _=>undef) (fun fs=>{ tmps:=List.toArray (Value.pointer (some ⟨D,0,none⟩)::.agg #[.string t.a,.string t.b,.string t.r,.string t.c,.string t.d,.string t.s]::undef::.pointer (some ⟨w.heap.size,0,none⟩)::.pointer (some ⟨w.heap.size+1,0,none⟩)::.pointer (some ⟨w.heap.size,0,none⟩)::.agg #[.string t.a,.string t.b]::.pointer (some ⟨w.heap.size,2,none⟩)::.string t.r::.agg #[.string t.a,.string t.b,.string t.r]::y0::y1::y2::.map (some bp)::y4::y8::y5::y6::y7::y9::.int .i64 st::zB0::zB1::zB2::zB3::zB4::zB5::zB6::vo1::zB8::.pointer (some ⟨D,4,none⟩)::(fs 0)::(fs 1)::(fs 2)::(fs 3)::(fs 4)::(fs 5)::(fs 6)::(fs 7)::(fs 8)::(fs 9)::undef::undef::undef::undef::undef::undef::undef::undef::undef::undef::undef::undef::undef::[]),defers:=[] }) (G.WI CC w4 (fun v' w'=>∃w1,ae w4 w1/\w'.ownsRow (bp+1) 27 2 v' (bz (bz xo ⟨t.a,t.b⟩) ⟨t.c,t.d⟩).length (pairs (bz (bz xo ⟨t.a,t.b⟩) ⟨t.c,t.d⟩))/\Aside w1 vo1 w' v'/\∀B',(∀g,vo1.ownBlock=some g->B'<=g)->B'<=w1.heap.size->Below B' w1 w')) (by kernel_rfl) rfl (by kernel_rfl) (fun o ho l f w' hI hp=>?clC) rfl (G.wi_start w4) ?stepC ?finC;case clC =>
    cases ho;intro k hk;have h9:=hp ⟨9,.data⟩ (by simp) rfl;have hc:=uQ (i:=k) (by omega)
    repeat' rcases hc with rfl|hc
    all_goals first|exact hI.nin h9|exact h9|exact hp ⟨_,.phase⟩ (by simp) rfl
   case stepC =>
    rintro i hi o ho l fs w' XB hI hpre;have HI:Hid (G.WI CC w4 (fun v' w'=>∃w1,ae w4 w1/\w'.ownsRow (bp+1) 27 2 v' (bz (bz xo ⟨t.a,t.b⟩) ⟨t.c,t.d⟩).length (pairs (bz (bz xo ⟨t.a,t.b⟩) ⟨t.c,t.d⟩))/\Aside w1 vo1 w' v'/\∀B',(∀g,vo1.ownBlock=some g->B'<=g)->B'<=w1.heap.size->Below B' w1 w') l fs w'):=hI;have Ww:Hid (∀e∈o.after,Region.binds .any e=true->l e.on=true):=hpre;clear hI hpre;have hc:=uQ (i:=i) (by omega);clear hi
    repeat' rcases hc with rfl|hc
    ·cases ho;have hW:=HI.out;clear Ww HI;refine aa rfl fun K HK=>?_;go_simp;exact HK.out _ _ ⟨Value.pointer (some ⟨D,0,none⟩),by simp[upd, *],hW.put (by omega) (by omega) XD.out.1.symm⟩
    ·cases ho;have hW:=HI.out;clear Ww HI;refine aa rfl fun K HK=>?_;go_simp;exact HK.out _ _ ⟨Value.pointer (some ⟨D,0,none⟩),by simp[upd, *],hW.put (by omega) (by omega) XD.out.2.1.symm⟩
    ·cases ho;have hW:=HI.out;have e1:=(HI.out.val 1 (by omega) (by omega) (Ww.out ⟨1,.data⟩ (by simp) rfl)).trans XD.out.2.1;clear Ww HI;refine aa rfl fun K HK=>?_;simp only[e1];go_simp;exact HK.out _ _ ⟨Value.pointer (some ⟨D,0,none⟩),by simp[upd, *],hW.put (by omega) (by omega) XD.out.2.2.1.symm⟩
    ·cases ho;have hW:=HI.out;have e2:=(HI.out.val 2 (by omega) (by omega) (Ww.out ⟨2,.data⟩ (by simp) rfl)).trans XD.out.2.2.1;clear Ww HI;refine aa rfl fun K HK=>?_;simp only[e2];go_simp;exact HK.out _ _ ⟨Value.pointer (some ⟨D,4,none⟩),by simp[upd, *],hW.put (by omega) (by omega) XD.out.2.2.2.1.symm⟩
    ·cases ho;have hW:=HI.out;have e3:=(HI.out.val 3 (by omega) (by omega) (Ww.out ⟨3,.data⟩ (by simp) rfl)).trans XD.out.2.2.2.1;have hb':=HI.out.early (.inl XB);have d4:=(hb'.cell (p:=⟨D,4,none⟩) HD3n.out.lt).trans HD3n.out.c4;clear Ww HI;refine aa rfl fun K HK=>?_;simp only[e3];go_simp;exact HK.out _ _ ⟨vo1,by simp[upd, *],hW.put (by omega) (by omega) XD.out.2.2.2.2.1.symm⟩
    ·cases ho;have hW:=HI.out;clear Ww HI;refine aa rfl fun K HK=>?_;go_simp;exact HK.out _ _ ⟨Value.pointer (some ⟨w.heap.size,3,none⟩),by simp[upd, *],hW.put (by omega) (by omega) XD.out.2.2.2.2.2.1.symm⟩
    ·cases ho;have hW:=HI.out;have e5:=(HI.out.val 5 (by omega) (by omega) (Ww.out ⟨5,.data⟩ (by simp) rfl)).trans XD.out.2.2.2.2.2.1;have hb':=HI.out.early (.inr XB);obtain⟨t0,t1,t2,t3,t4,t5,tl⟩:=HT3n.out.1.below hb';clear Ww HI;refine aa rfl fun K HK=>?_;simp only[e5];go_simp;exact HK.out _ _ ⟨Value.agg #[.string t.c,.string t.d],by simp[upd, *],hW.put (by omega) (by omega) XD.out.2.2.2.2.2.2.1.symm⟩
    ·cases ho;have hW:=HI.out;have e4:=(HI.out.val 4 (by omega) (by omega) (Ww.out ⟨4,.data⟩ (by simp) rfl)).trans XD.out.2.2.2.2.1;have e6:=(HI.out.val 6 (by omega) (by omega) (Ww.out ⟨6,.data⟩ (by simp) rfl)).trans XD.out.2.2.2.2.2.2.1;have h4:=Ww.out ⟨4,.data⟩ (by simp) rfl;have h6:=Ww.out ⟨6,.data⟩ (by simp) rfl;have hb':=HI.out.before XB;have hown:=bu HD3n.out.objs hb';clear Ww HI;refine aa rfl fun K HK=>?_;simp only[e4,e6];go_simp;refine(mR (bp+1) vo1 (bz xo ⟨t.a,t.b⟩) ⟨t.c,t.d⟩ w' (by omega) (Vj hbz hb'.size) hown).mono ?_;rintro e w2 ⟨v',rfl,hown2,has,hbl⟩;exact HK.out _ _ ⟨v',by simp[upd,e4,e6],hW.call h4 h6 ⟨w',hb',hown2,has,hbl⟩⟩
    ·cases ho;have hW:=HI.out;have e0:=(HI.out.val 0 (by omega) (by omega) (Ww.out ⟨0,.data⟩ (by simp) rfl)).trans XD.out.1;clear Ww HI;refine aa rfl fun K HK=>?_;simp only[e0];go_simp;exact HK.out _ _ ⟨Value.pointer (some ⟨D,0,none⟩),by simp[upd, *],hW.put (by omega) (by omega) XD.out.2.2.2.2.2.2.2.2.1.symm⟩
    cases ho;have hW:=HI.out;have e8:=(HI.out.val 8 (by omega) (by omega) (Ww.out ⟨8,.data⟩ (by simp) rfl)).trans XD.out.2.2.2.2.2.2.2.2.1;have h8:=Ww.out ⟨8,.data⟩ (by simp) rfl;clear Ww HI;refine aa rfl fun K HK=>?_;simp only[e8];go_simp;exact HK.out _ _ ⟨Value.pointer (some ⟨D,4,none⟩),by simp[upd, *],hW.put (by omega) (fun _=>h8) XD.out.2.2.2.2.2.2.2.2.2.symm⟩
   case finC =>
    rintro o ho l fs w' hall hI;obtain rfl:=Option.some.inj ho;obtain⟨hval,w1,hb1,hown,has,hbl⟩:=hI.last hall;have e9:=(hval 9 (by omega) (by omega)).trans XD.out.2.2.2.2.2.2.2.2.2;have X8:=HD3n.out.below hb1;have hDn:=X8.newO hown has;have hTn:=(HT3n.out.1.below hb1).aside (by obtain⟨cur,e⟩:=HT3n.out.2;exact⟨cur,(hb1.block _ HT3n.out.1.2.2.2.2.2.2).trans e⟩) X8.objs has;obtain⟨cur,hkd⟩:=X8.kind;have ZN:vo1.ownBlock≠some D:=fun e=>absurd (dO X8.objs e hkd) (by decide);have ZQ:=(has.block D X8.lt ZN).trans hkd;have fz:=fun o=>ic ZQ o;have d4:=(Vx (w:=w1) (a:=⟨D,4,none⟩) (has.block D X8.lt ZN)).trans X8.c4;obtain⟨adn,cpn,e7,-⟩:=kV hown;rw[e7]at hown has hDn;obtain⟨w5,hwn⟩:∃x,x=w'.setCell ⟨D,4,none⟩ (Value.slice adn (bz (bz xo ⟨t.a,t.b⟩) ⟨t.c,t.d⟩).length cpn):=⟨_,rfl⟩;rw[<-hwn]at hDn;have YI:=aH hDn;have Y7:Hid (uO w5 w.heap.size t/\∃cur,w5.heap[w.heap.size]?=some (.cells cur 46 (0,0))):=by
     have hh:w5.heap[w.heap.size]?=w'.heap[w.heap.size]?:=by rw[hwn];exact heap_setCell_other w' ⟨D,4,none⟩ w.heap.size _ (by show w.heap.size≠D;omega)
     obtain⟨cr,ecr⟩:=hTn.2;exact⟨hTn.1.block hh (by rw[hwn];simpa using hTn.1.2.2.2.2.2.2),cr,hh.trans ecr⟩
    have HB3nn:Hid (Below bp w w5):=by
     have b1:Below bp w w1:=HB3n.out.trans (hb1.mono (by omega));have b2:Below bp w w':=b1.trans (hbl bp (fun g hg=>by have:=(X8.objs.lt g hg).1;omega) (by have:=hb1.size;omega));show Below _ _ _;rw[hwn];exact b2.setCell (by show bp<=D;omega) _
    have hsn:w4.heap.size<=w5.heap.size:=by rw[hwn];have:=hb1.size;have:=has.size;simp;omega
    have hbzn:bp+1<=w5.heap.size:=by omega
    clear hval;refine aa rfl fun K HK=>?_;simp only[e9,e7];go_simp;rw[<-hwn];refine HK.out _ _ ?_;obtain⟨vo2,hvo2⟩:∃v,v=Value.slice adn (bz (bz xo ⟨t.a,t.b⟩) ⟨t.c,t.d⟩).length cpn:=⟨_,rfl⟩;rw[<-hvo2]at YI ⊢;clear hb1 hown has hbl X8 hDn hTn hkd ZQ ZN fz d4 HK K hI hall ho hwn e9 e7 hvo2 hsn hbz HD3n HT3n HB3n XD;obtain⟨zC0,hz0⟩:∃y,y=fs 0:=⟨_,rfl⟩;rw[<-hz0];obtain⟨zC1,hz1⟩:∃y,y=fs 1:=⟨_,rfl⟩;rw[<-hz1];obtain⟨zC2,hz2⟩:∃y,y=fs 2:=⟨_,rfl⟩;rw[<-hz2];obtain⟨zC3,hz3⟩:∃y,y=fs 3:=⟨_,rfl⟩;rw[<-hz3];obtain⟨zC4,YH⟩:∃y,y=fs 4:=⟨_,rfl⟩;rw[<-YH];obtain⟨zC5,hz5⟩:∃y,y=fs 5:=⟨_,rfl⟩;rw[<-hz5];obtain⟨zC6,hz6⟩:∃y,y=fs 6:=⟨_,rfl⟩;rw[<-hz6];obtain⟨zC8,hz8⟩:∃y,y=fs 8:=⟨_,rfl⟩;rw[<-hz8];clear hz0 hz1 hz2 hz3 YH hz5 hz6 hz8 fs l
    skip
    have hbz:=hbzn;clear hbzn;obtain⟨t0,t1,t2,t3,t4,t5,tl⟩:=Y7.out.1;cases hs:(t.s.toList==([]:List UInt8));case false=>
     have HU:Hid (df xu t=xu):=by show _=_;unfold df;rw[hs];rfl
     go_wp2
     go_end0
     exact⟨rfl,⟨_,_,_,by rw[HU.out];exact YI.out⟩,HB3nn.out⟩
    have HU:Hid (df xu t=bz xu ⟨t.c,t.d⟩):=by show _=_;unfold df;rw[hs];rfl
    clear t0 t1 t2 t3 t4 tl;go_wp2_with fail;clear t5 hs;obtain⟨CD,hCD⟩:∃C:Nat->Value,C=fun n=>(Value.pointer (some ⟨D,0,none⟩)::.pointer (some ⟨D,0,none⟩)::.pointer (some ⟨D,0,none⟩)::.pointer (some ⟨D,5,none⟩)::vu::.pointer (some ⟨w.heap.size,3,none⟩)::.agg #[.string t.c,.string t.d]::undef::.pointer (some ⟨D,0,none⟩)::.pointer (some ⟨D,5,none⟩)::[]).getD n undef:=⟨_,rfl⟩;have Zg:Hid (CD 0=Value.pointer (some ⟨D,0,none⟩)/\CD 1=Value.pointer (some ⟨D,0,none⟩)/\CD 2=Value.pointer (some ⟨D,0,none⟩)/\CD 3=Value.pointer (some ⟨D,5,none⟩)/\CD 4=vu/\CD 5=Value.pointer (some ⟨w.heap.size,3,none⟩)/\CD 6=Value.agg #[.string t.c,.string t.d]/\CD 7=undef/\CD 8=Value.pointer (some ⟨D,0,none⟩)/\CD 9=Value.pointer (some ⟨D,5,none⟩)):=by show _/\_;rw[hCD];exact⟨rfl,rfl,rfl,rfl,rfl,rfl,rfl,rfl,rfl,rfl⟩
    clear hCD;refine kv 10 (fun _=>undef) (fun ft=>{ tmps:=List.toArray (Value.pointer (some ⟨D,0,none⟩)::.agg #[.string t.a,.string t.b,.string t.r,.string t.c,.string t.d,.string t.s]::undef::.pointer (some ⟨w.heap.size,0,none⟩)::.pointer (some ⟨w.heap.size+1,0,none⟩)::.pointer (some ⟨w.heap.size,0,none⟩)::.agg #[.string t.a,.string t.b]::.pointer (some ⟨w.heap.size,2,none⟩)::.string t.r::.agg #[.string t.a,.string t.b,.string t.r]::y0::y1::y2::.map (some bp)::y4::y8::y5::y6::y7::y9::.int .i64 st::zB0::zB1::zB2::zB3::zB4::zB5::zB6::vo1::zB8::.pointer (some ⟨D,4,none⟩)::zC0::zC1::zC2::zC3::zC4::zC5::zC6::vo2::zC8::.pointer (some ⟨D,4,none⟩)::.pointer (some ⟨w.heap.size,5,none⟩)::.string t.s::.bool true::(ft 0)::(ft 1)::(ft 2)::(ft 3)::(ft 4)::(ft 5)::(ft 6)::(ft 7)::(ft 8)::(ft 9)::[]),defers:=[] }) (G.WI CD w5 (fun v' w'=>∃w1,ae w5 w1/\w'.ownsRow (bp+1) 27 2 v' (bz xu ⟨t.c,t.d⟩).length (pairs (bz xu ⟨t.c,t.d⟩))/\Aside w1 vu w' v'/\∀B',(∀g,vu.ownBlock=some g->B'<=g)->B'<=w1.heap.size->Below B' w1 w')) (by kernel_rfl) rfl (by kernel_rfl) (fun o ho l f w' hI hp=>?clD) rfl (G.wi_start w5) ?stepD ?finD;case clD =>
     cases ho;intro k hk;have h9:=hp ⟨9,.data⟩ (by simp) rfl;have hc:=uQ (i:=k) (by omega)
     repeat' rcases hc with rfl|hc
     all_goals first|exact hI.nin h9|exact h9|exact hp ⟨_,.phase⟩ (by simp) rfl
    case stepD =>
     rintro i hi o ho l ft w' XB hI hpre;have HI:Hid (G.WI CD w5 (fun v' w'=>∃w1,ae w5 w1/\w'.ownsRow (bp+1) 27 2 v' (bz xu ⟨t.c,t.d⟩).length (pairs (bz xu ⟨t.c,t.d⟩))/\Aside w1 vu w' v'/\∀B',(∀g,vu.ownBlock=some g->B'<=g)->B'<=w1.heap.size->Below B' w1 w') l ft w'):=hI;have Ww:Hid (∀e∈o.after,Region.binds .any e=true->l e.on=true):=hpre;clear hI hpre;have hc:=uQ (i:=i) (by omega);clear hi
     repeat' rcases hc with rfl|hc
     ·cases ho;have hW:=HI.out;clear Ww HI;refine aa rfl fun K HK=>?_;go_simp;exact HK.out _ _ ⟨Value.pointer (some ⟨D,0,none⟩),by simp[upd, *],hW.put (by omega) (by omega) Zg.out.1.symm⟩
     ·cases ho;have hW:=HI.out;clear Ww HI;refine aa rfl fun K HK=>?_;go_simp;exact HK.out _ _ ⟨Value.pointer (some ⟨D,0,none⟩),by simp[upd, *],hW.put (by omega) (by omega) Zg.out.2.1.symm⟩
     ·cases ho;have hW:=HI.out;have e1:=(HI.out.val 1 (by omega) (by omega) (Ww.out ⟨1,.data⟩ (by simp) rfl)).trans Zg.out.2.1;clear Ww HI;refine aa rfl fun K HK=>?_;simp only[e1];go_simp;exact HK.out _ _ ⟨Value.pointer (some ⟨D,0,none⟩),by simp[upd, *],hW.put (by omega) (by omega) Zg.out.2.2.1.symm⟩
     ·cases ho;have hW:=HI.out;have e2:=(HI.out.val 2 (by omega) (by omega) (Ww.out ⟨2,.data⟩ (by simp) rfl)).trans Zg.out.2.2.1;clear Ww HI;refine aa rfl fun K HK=>?_;simp only[e2];go_simp;exact HK.out _ _ ⟨Value.pointer (some ⟨D,5,none⟩),by simp[upd, *],hW.put (by omega) (by omega) Zg.out.2.2.2.1.symm⟩
     ·cases ho;have hW:=HI.out;have e3:=(HI.out.val 3 (by omega) (by omega) (Ww.out ⟨3,.data⟩ (by simp) rfl)).trans Zg.out.2.2.2.1;have hb':=HI.out.early (.inl XB);have d4:=(hb'.cell (p:=⟨D,5,none⟩) YI.out.lt).trans YI.out.c5;clear Ww HI;refine aa rfl fun K HK=>?_;simp only[e3];go_simp;exact HK.out _ _ ⟨vu,by simp[upd, *],hW.put (by omega) (by omega) Zg.out.2.2.2.2.1.symm⟩
     ·cases ho;have hW:=HI.out;clear Ww HI;refine aa rfl fun K HK=>?_;go_simp;exact HK.out _ _ ⟨Value.pointer (some ⟨w.heap.size,3,none⟩),by simp[upd, *],hW.put (by omega) (by omega) Zg.out.2.2.2.2.2.1.symm⟩
     ·cases ho;have hW:=HI.out;have e5:=(HI.out.val 5 (by omega) (by omega) (Ww.out ⟨5,.data⟩ (by simp) rfl)).trans Zg.out.2.2.2.2.2.1;have hb':=HI.out.early (.inr XB);obtain⟨t0,t1,t2,t3,t4,t5,tl⟩:=Y7.out.1.below hb';clear Ww HI;refine aa rfl fun K HK=>?_;simp only[e5];go_simp;exact HK.out _ _ ⟨Value.agg #[.string t.c,.string t.d],by simp[upd, *],hW.put (by omega) (by omega) Zg.out.2.2.2.2.2.2.1.symm⟩
     ·cases ho;have hW:=HI.out;have e4:=(HI.out.val 4 (by omega) (by omega) (Ww.out ⟨4,.data⟩ (by simp) rfl)).trans Zg.out.2.2.2.2.1;have e6:=(HI.out.val 6 (by omega) (by omega) (Ww.out ⟨6,.data⟩ (by simp) rfl)).trans Zg.out.2.2.2.2.2.2.1;have h4:=Ww.out ⟨4,.data⟩ (by simp) rfl;have h6:=Ww.out ⟨6,.data⟩ (by simp) rfl;have hb':=HI.out.before XB;have hown:=bu YI.out.users hb';clear Ww HI;refine aa rfl fun K HK=>?_;simp only[e4,e6];go_simp;refine(mR (bp+1) vu xu ⟨t.c,t.d⟩ w' (by omega) (Vj hbz hb'.size) hown).mono ?_;rintro e w2 ⟨v',rfl,hown2,has,hbl⟩;exact HK.out _ _ ⟨v',by simp[upd,e4,e6],hW.call h4 h6 ⟨w',hb',hown2,has,hbl⟩⟩
     ·cases ho;have hW:=HI.out;have e0:=(HI.out.val 0 (by omega) (by omega) (Ww.out ⟨0,.data⟩ (by simp) rfl)).trans Zg.out.1;clear Ww HI;refine aa rfl fun K HK=>?_;simp only[e0];go_simp;exact HK.out _ _ ⟨Value.pointer (some ⟨D,0,none⟩),by simp[upd, *],hW.put (by omega) (by omega) Zg.out.2.2.2.2.2.2.2.2.1.symm⟩
     cases ho;have hW:=HI.out;have e8:=(HI.out.val 8 (by omega) (by omega) (Ww.out ⟨8,.data⟩ (by simp) rfl)).trans Zg.out.2.2.2.2.2.2.2.2.1;have h8:=Ww.out ⟨8,.data⟩ (by simp) rfl;clear Ww HI;refine aa rfl fun K HK=>?_;simp only[e8];go_simp;exact HK.out _ _ ⟨Value.pointer (some ⟨D,5,none⟩),by simp[upd, *],hW.put (by omega) (fun _=>h8) Zg.out.2.2.2.2.2.2.2.2.2.symm⟩
    case finD =>
     rintro o ho l ft w' hall hI;cases ho;obtain⟨hval,w1,hb1,hown,has,hbl⟩:=hI.last hall;have e9:=(hval 9 (by omega) (by omega)).trans Zg.out.2.2.2.2.2.2.2.2.2;have X8:=YI.out.below hb1;have hDn:=X8.newU hown has;have hTn:=(Y7.out.1.below hb1).aside (by obtain⟨cur,e⟩:=Y7.out.2;exact⟨cur,(hb1.block _ Y7.out.1.2.2.2.2.2.2).trans e⟩) X8.users has;obtain⟨cur,hkd⟩:=X8.kind;have ZN:vu.ownBlock≠some D:=fun e=>absurd (dO X8.users e hkd) (by decide);have ZQ:=(has.block D X8.lt ZN).trans hkd;have fz:=fun o=>ic ZQ o;have d4:=(Vx (w:=w1) (a:=⟨D,5,none⟩) (has.block D X8.lt ZN)).trans X8.c5;obtain⟨adn,cpn,e7,-⟩:=kV hown;rw[e7]at hown has hDn;obtain⟨w6,hwn⟩:∃x,x=w'.setCell ⟨D,5,none⟩ (Value.slice adn (bz xu ⟨t.c,t.d⟩).length cpn):=⟨_,rfl⟩;rw[<-hwn]at hDn;have HD3nnn:=aH hDn;have HT3nnn:Hid (uO w6 w.heap.size t/\∃cur,w6.heap[w.heap.size]?=some (.cells cur 46 (0,0))):=by
      have hh:w6.heap[w.heap.size]?=w'.heap[w.heap.size]?:=by rw[hwn];exact heap_setCell_other w' ⟨D,5,none⟩ w.heap.size _ (by show w.heap.size≠D;omega)
      obtain⟨cr,ecr⟩:=hTn.2;exact⟨hTn.1.block hh (by rw[hwn];simpa using hTn.1.2.2.2.2.2.2),cr,hh.trans ecr⟩
     have HB3nnn:Hid (Below bp w w6):=by
      have b1:Below bp w w1:=HB3nn.out.trans (hb1.mono (by omega));have b2:Below bp w w':=b1.trans (hbl bp (fun g hg=>by have:=(X8.users.lt g hg).1;omega) (by have:=hb1.size;omega));show Below _ _ _;rw[hwn];exact b2.setCell (by show bp<=D;omega) _
     have hsn:w5.heap.size<=w6.heap.size:=by rw[hwn];have:=hb1.size;have:=has.size;simp;omega
     have hbzn:bp+1<=w6.heap.size:=by omega
     clear hval;refine aa rfl fun K HK=>?_;simp only[e9,e7];go_simp;rw[<-hwn];refine HK.out _ _ ?_;obtain⟨vu2,hvu2⟩:∃v,v=Value.slice adn (bz xu ⟨t.c,t.d⟩).length cpn:=⟨_,rfl⟩;rw[<-hvu2]at HD3nnn ⊢;clear hb1 hown has hbl X8 hDn hTn hkd ZQ ZN fz d4 HK K hI hall hwn e9 e7 hvu2 hsn hbz YI Y7 HB3nn Zg;obtain⟨zD0,hz0⟩:∃y,y=ft 0:=⟨_,rfl⟩;rw[<-hz0];obtain⟨zD1,hz1⟩:∃y,y=ft 1:=⟨_,rfl⟩;rw[<-hz1];obtain⟨zD2,hz2⟩:∃y,y=ft 2:=⟨_,rfl⟩;rw[<-hz2];obtain⟨zD3,hz3⟩:∃y,y=ft 3:=⟨_,rfl⟩;rw[<-hz3];obtain⟨zD4,YH⟩:∃y,y=ft 4:=⟨_,rfl⟩;rw[<-YH];obtain⟨zD5,hz5⟩:∃y,y=ft 5:=⟨_,rfl⟩;rw[<-hz5];obtain⟨zD6,hz6⟩:∃y,y=ft 6:=⟨_,rfl⟩;rw[<-hz6];obtain⟨zD8,hz8⟩:∃y,y=ft 8:=⟨_,rfl⟩;rw[<-hz8];clear hz0 hz1 hz2 hz3 YH hz5 hz6 hz8 ft l
     skip
     go_wp2
     go_end0
     exact⟨rfl,⟨_,_,_,by rw[HU.out];exact HD3nnn.out⟩,HB3nnn.out⟩
end Go.Proofs.YtajkkeikihhejaaGreat
