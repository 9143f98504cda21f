/- Contract of the program's look whether a tuple fits its table. -/
import Derived.Test.YtajkkeikihhejaaGreatSq
import Derived.Test.YtajkkeikihhejaaGreatJ15
import Derived.Test.YtajkkeikihhejaaGreatJ22
import Derived.Test.YtajkkeikihhejaaGreatJ25
import Derived.Test.YtajkkeikihhejaaGreatJ20
open Go.Proofs.Tryz
set_option maxHeartbeats 80000000
namespace Go.Proofs.YtajkkeikihhejaaGreat
open ChangeShapes WideShapes ChangeAt RowKit Maps
open Pl
def nG(a:Al)(e:Ex):Bool:=decide (e.kind=1)&&dJ e.allow e.allow.length a
def yG(ts:Q0b)(ty rel:ByteArray)(a:Al):Bool:=(aB ts ty rel).any (nG a)
theorem fit_drop(a:Al)(rows:Q08)(k:Nat)(h:k<rows.length):(ak (rows.drop k)).any (nG a)=(nG a rows[k].e || (ak (rows.drop (k+1))).any (nG a)):=by
 rw[gV _ _ h];rfl
set_option maxRecDepth 100000 in
theorem Qd(b n:Nat)(rs:Q06)(ad:Q02)(M:ByteArray×ByteArray->Option Value)(oa ob r c d s:bQ)(w:af)(hV:aK dV prog 94 w b n M)(hT:Tab rs M)(hs:kU w ad rs)(hl:∀r∈rs,r.light)(ho:oa.size<=maxLen)(hr:r.size<=maxLen):
  Calls prog 100 #[.map (some b),.agg #[.string oa,.string ob,.string r,.string c,.string d,.string s]] w fun e w'=>e=.returned (.bool (yG (ag rs) oa r ⟨c,s⟩))/\ae w w':=by
 have HT:=aC hT;have HS:=aC hs;have HL:=aC hl;obtain⟨kl,hkl⟩:=jE (oa,r) ho hr;have Xh:Hid (keyOf prog 94 (dV (oa,r))=some kl):=hkl;obtain⟨W0,hW0⟩:∃W0,W0=(w.alloc (.cells #[.string oa,.string ob,.string r,.string c,.string d,.string s] 46)).alloc (.cells #[.string c,.string s] 43):=⟨_,rfl⟩;have hal:ae w W0:=by
  rw[hW0]
  repeat(first|exact UV _ _|refine Below.alloc ?_ (by first|(simp;done)|(simp;omega)) _)
 have HB0:=aC hal;have HV0:=aC (hV.below hal);have Xg:Hid (W0.cell? ⟨w.heap.size+1,0,none⟩=some (.string c)/\W0.cell? ⟨w.heap.size+1,1,none⟩=some (.string s)/\w.heap.size+1<W0.heap.size):=⟨by rw[hW0];simp,by rw[hW0];simp,by rw[hW0];simp⟩;obtain⟨rows,V5,capE,HM,HE,HF⟩:∃(rows:Q08) (V5:Q02) (capE:Nat),Hid ((M (oa,r)).getD (.slice none 0 0)=.slice V5 rows.length capE)/\Hid (ak rows=aB (ag rs) oa r)/\Hid (nQ rs V5 rows):=by
  cases e:M (oa,r) with
  | none=>exact⟨[],none,0,rfl,by show _=_;unfold aB;rw[HT.out.no _ e];rfl,.inl rfl⟩
  | some v =>
   obtain⟨t,htm,q,hq,-,rfl,e1,-⟩:=HT.out.yes _ v e;exact⟨q.rows,q.ad,q.cap,rfl,by show _=_;unfold aB;rw[e1];rfl,.inr ⟨t,htm,q,hq,rfl,rfl⟩⟩
 have WR:=HF.out.light HL.out;have HLE1:rows.length<=1048576:=WR.1;have HLE2:Hid (∀q∈rows,q.e.light):=WR.2;have Yv:Hid (gZ w V5 rows):=HF.out.sl HS.out;clear hV hT hs hl hkl hal WR;go_enter func100,ntmps100;go_wp2_with(at_lookup;rw[<-hW0];refine jD _ rfl _ _ 91 rfl 94 33 iU underlying91 (nX _) b n M rfl HV0.out (oa,r) kl rfl Xh.out ?_;rw[HM.out];clear hW0);go_loopw[23] (fun i wr=>∃k:Nat,k<=rows.length/\i=.int .i64 k/\Hid ((ak (rows.drop k)).any (nG ⟨c,s⟩)=(ak rows).any (nG ⟨c,s⟩))/\Hid (ae w wr)/\Hid (wr.cell? ⟨w.heap.size+1,0,none⟩=some (.string c)/\wr.cell? ⟨w.heap.size+1,1,none⟩=some (.string s)/\w.heap.size+1<wr.heap.size)) (fun i _=>rows.length-(intOf i).toNat);case atStart=>exact⟨0,UY _,rfl,rfl,HB0,Xg⟩
 clear HB0 Xg HV0;obtain⟨k,hk,rfl,HP,HB,HC⟩:=hrel;by_cases hlt:k<rows.length
 ·rcases Yv.out.below HB.out with hnil|⟨bE,offE,Yn,hbE,hrE,hok⟩
  ·rw[hnil]at hlt;simp at hlt
  obtain⟨t0,t1,t2,t3,t4⟩:=hrE k hlt;have XE:Hid (rows[k].ok wr):=hok _ (UR hlt);have lgA:rows[k].e.allow.length<=1048576:=(HLE2.out _ (UR hlt)).1;have hk1:=bG k;have hk2:(k:Int)<(rows.length:Int):=by omega
  obtain⟨x0,x1,x2⟩:=HC.out;have HD:Hid ((ak rows).any (nG ⟨c,s⟩)=(nG ⟨c,s⟩ rows[k].e || (ak (rows.drop (k+1))).any (nG ⟨c,s⟩))):=by show _=_;rw[<-HP.out];exact fit_drop _ _ _ hlt
  obtain⟨W1,hW1⟩:∃W1,W1=wr.alloc (.cells #[.int .i64 rows[k].e.kind,.slice rows[k].adA rows[k].e.allow.length rows[k].capA,.string rows[k].e.over,.string rows[k].e.name,.slice rows[k].adK rows[k].e.kids.length rows[k].capK] 39):=⟨_,rfl⟩;have hal:ae wr W1:=by rw[hW1];exact(UV _ _).alloc (UU _) _
  have HB1:=jR HB hal;have Xr:Hid (W1.cell? ⟨w.heap.size+1,0,none⟩=some (.string c)/\W1.cell? ⟨w.heap.size+1,1,none⟩=some (.string s)/\w.heap.size+1<W1.heap.size):=⟨aH hal x2 x0,aH hal x2 x1,UT x2 hal.size⟩;have HA1:Hid (lq W1 rows[k].adA rows[k].e.allow):=XE.out.1.below hal;rw[Yn];clear hrE hok hal HC;by_cases h1:rows[k].e.kind=1
  ·have hq1:(rows[k].e.kind==1)=true:=by simpa using h1
   have YE:Hid (nG ⟨c,s⟩ rows[k].e=dJ rows[k].e.allow rows[k].e.allow.length ⟨c,s⟩):=by show _=_;unfold nG;simp[h1]
   replace h1:Hid (rows[k].e.kind=1):=h1;go_wp2_with fail;rw[<-hW1];refine(uZ rows[k].adA rows[k].e.allow.length rows[k].capA rows[k].e.allow ⟨c,s⟩ _ (UU _) lgA HA1.out).mono ?_;rintro e w2 ⟨rfl,hb2⟩;have HB2:=jR HB1 hb2;have WV:Hid (w2.cell? ⟨w.heap.size+1,0,none⟩=some (.string c)/\w2.cell? ⟨w.heap.size+1,1,none⟩=some (.string s)/\w.heap.size+1<w2.heap.size):=⟨aH hb2 Xr.out.2.2 Xr.out.1,aH hb2 Xr.out.2.2 Xr.out.2.1,UT Xr.out.2.2 hb2.size⟩;clear hb2 hW1 t0 t1 t2 t3 t4 x0 x1;cases hz:dJ rows[k].e.allow rows[k].e.allow.length ⟨c,s⟩;case true=>
    have HN:Hid (yG (ag rs) oa r ⟨c,s⟩=true):=by show _=_;unfold yG;rw[<-HE.out,HD.out,YE.out,hz];rfl
    go_wp2;go_ret;exact⟨by rw[HN.out];rfl,HB2.out⟩
   have Wj:Hid ((ak (rows.drop (k+1))).any (nG ⟨c,s⟩)=(ak rows).any (nG ⟨c,s⟩)):=by show _=_;rw[HD.out,YE.out,hz];rfl
   go_wp2;go_roundw;case rel=>exact⟨k+1,by omega,by go_num,Wj,HB2,WV⟩
   simp[intOf]<;>omega
  have hq1:(rows[k].e.kind==1)=false:=by simpa using h1
  have Wj:Hid ((ak (rows.drop (k+1))).any (nG ⟨c,s⟩)=(ak rows).any (nG ⟨c,s⟩)):=by show _=_;rw[HD.out];simp[nG,h1]
  have Wx:Hid (ae w (wr.alloc (.cells #[.int .i64 rows[k].e.kind,.slice rows[k].adA rows[k].e.allow.length rows[k].capA,.string rows[k].e.over,.string rows[k].e.name,.slice rows[k].adK rows[k].e.kids.length rows[k].capK] 39))):=by rw[<-hW1];exact HB1
  have HCX:Hid ((wr.alloc (.cells #[.int .i64 rows[k].e.kind,.slice rows[k].adA rows[k].e.allow.length rows[k].capA,.string rows[k].e.over,.string rows[k].e.name,.slice rows[k].adK rows[k].e.kids.length rows[k].capK] 39)).cell? ⟨w.heap.size+1,0,none⟩=some (.string c)/\(wr.alloc (.cells #[.int .i64 rows[k].e.kind,.slice rows[k].adA rows[k].e.allow.length rows[k].capA,.string rows[k].e.over,.string rows[k].e.name,.slice rows[k].adK rows[k].e.kids.length rows[k].capK] 39)).cell? ⟨w.heap.size+1,1,none⟩=some (.string s)/\w.heap.size+1<(wr.alloc (.cells #[.int .i64 rows[k].e.kind,.slice rows[k].adA rows[k].e.allow.length rows[k].capA,.string rows[k].e.over,.string rows[k].e.name,.slice rows[k].adK rows[k].e.kids.length rows[k].capK] 39)).heap.size):=by rw[<-hW1];exact Xr
  clear hW1;go_wp2;go_roundw;case rel=>exact⟨k+1,by omega,by go_num,Wj,Wx,HCX⟩
  simp[intOf]<;>omega
 have HN:Hid (yG (ag rs) oa r ⟨c,s⟩=false):=by show _=_;unfold yG;rw[<-HE.out,<-HP.out,Vf (by omega)];rfl
 go_wp2;go_ret;exact⟨by rw[HN.out];rfl,HB.out⟩
set_option maxRecDepth 8000 in
theorem Hr(r:ER)(w:af)(hf:r.e.fits)(hl:r.e.light)(hok:r.ok w)(hcap:r.e.allow.length<=r.capA)(h1:r.e.kind=1):
  Calls prog 239 #[r.val] w fun e w'=>e=.returned (.bool (ax r.e))/\ae w w':=by
 obtain⟨⟨kind,allow,over,name,kids⟩,adA,capA,adK,capK⟩:=r;obtain⟨f1,f2,f3,f4,f5⟩:=hf;obtain⟨hA,hK⟩:=hok;obtain⟨l1,l2⟩:=hl;simp only at f1 f2 f3 f4 f5 h1 hA hK hcap l1 l2;subst h1;simp only[ER.val];unfold maxLen at f4 f5;have HB0:Hid (∀n,ae w ((w.alloc (.cells #[.int .i64 1,.slice adA allow.length capA,.string over,.string name,.slice adK kids.length capK] 39)).drewN n)):=fun n=>below_drewN ((UV w.heap.size w).alloc (UU _) _) n;have HA:=aC hA;have Xk:=aC f1;have HCAP:Hid (allow.length<=capA):=hcap;clear hA hK f1 hcap;go_enter func239,ntmps239;go_wp2_with fail;go_quiet (fail);go_wp2_with fail;refine(Gg adA capA allow _ l1 HCAP.out Xk.out (HA.out.below (HB0.out _))).mono ?_;rintro e w1 ⟨rfl,hb1⟩;have c2:w1.cell? ⟨w.heap.size,2,none⟩=some (.string over):=by rw[hb1.cell (p:=⟨w.heap.size,2,none⟩) (by show _<(w.alloc _).heap.size;simp)];show(w.alloc _).cell? _=_;simp
 have c3:w1.cell? ⟨w.heap.size,3,none⟩=some (.string name):=by rw[hb1.cell (p:=⟨w.heap.size,3,none⟩) (by show _<(w.alloc _).heap.size;simp)];show(w.alloc _).cell? _=_;simp
 have HB1:Hid (ae w w1):=(HB0.out _).trans (hb1.mono (HB0.out _).size);clear hb1 HB0;go_wp2
 all_goals go_ret
 all_goals exact⟨ah (by first|(simp[ax, *];done)|(simp[ax, *];omega)|(simp[ax, *];rw[Vd];simp;done)|(simp[ax, *];rw[Vd];simp;omega)),HB1.out⟩
theorem J6(r:ER)(w:af)(hf:r.e.fits)(hl:r.e.light)(hok:r.ok w)(hcap:r.e.allow.length<=r.capA):
  Calls prog 239 #[r.val] w fun e w'=>e=.returned (.bool (ax r.e))/\ae w w':=by
 by_cases h:r.e.kind=1
 ·exact Hr r w hf hl hok hcap h
 exact EE r w hf h
structure Arr(es:Q09)(w:World)(g k:Nat):Prop where
 lt:g<w.heap.size
 told:∀j,j<k->w.cell? ⟨g,j,none⟩=some (.int .i64 (ay es j))
 rest:∀j,k<=j->j<15->w.cell? ⟨g,j,none⟩=some (.int .i64 0)
 free:∀o,w.frozen? ⟨g,o,none⟩=false
theorem Arr.later{es:Q09}{w w':af}{g k:Nat}(h:Arr es w g k)(hb:ae w w'):Arr es w' g k where
 lt:=UT h.lt hb.size
 told j hj:=kept hb h.lt (h.told j hj)
 rest j h1 h2:=kept hb h.lt (h.rest j h1 h2)
 free o:=Ul hb h.lt (h.free o)
theorem Arr.put{es:Q09}{w:af}{g k:Nat}(h:Arr es w g k)(hk:k<15):Arr es (w.setCell ⟨g,k,none⟩ (.int .i64 (ay es k))) g (k+1) where
 lt:=by simpa using h.lt
 told j hj:=by
  by_cases e:j=k
  ·subst e;exact zy (h.rest j (UU _) hk)
  rw[qi (Ne.symm e)];exact h.told j (by omega)
 rest j h1 h2:=by rw[qi (by omega)];exact h.rest j (by omega) h2
 free o:=by simpa using h.free o
def wG(es:Q09):Bool:=iZ es&&decide (ay es (es.length-1)=0)
theorem DZ{es:Q09}(k:Nat)(h:k<es.length)(hb:ay es k<0):wG es=false:=by
 have:iZ es=false:=by
  rw[Bool.eq_false_iff];intro h2;unfold iZ at h2;rw[U5]at h2;have:=h2 k (by simpa using h);simp at this;omega
 simp[wG,this]
theorem yS(b off cap:Nat)(rs:Q08)(w:af)(hn1:1<=rs.length)(hn2:rs.length<=15)(hl:∀r∈rs,r.e.light)(hb:b<w.heap.size)(hr:∀(i:Nat) (h:i<rs.length),yK w b (off+i*5) rs[i])(hok:∀r∈rs,r.ok w):
  Calls prog 240 #[.slice (some ⟨b,off,none⟩) rs.length cap] w fun e w'=>e=.returned (.bool (wG (ak rs)))/\ae w w':=by
 have X0:Hid ((ak rs).length=rs.length):=aQ rs;have HL:=aC hl;have HR:Hid (∀(i:Nat) (h:i<rs.length),yK w b (off+i*5) rs[i]):=hr;have HO:=aC hok;clear hl hr hok;go_enter func240,ntmps240;go_wp2_with fail;go_loopw[10] (fun i wr=>∃k:Nat,k<=rs.length/\i=.int .i64 k/\Hid (NS (ak rs) k)/\Hid (Arr (ak rs) wr w.heap.size k)/\ae w wr) (fun i _=>rs.length-(intOf i).toNat);case atStart =>
  refine⟨0,UY _,rfl,(fun j hj=>absurd hj (VL _)),⟨by simp,(fun j hj=>absurd hj (VL _)),fun j _ hj=>?_,fun o=>by simp⟩,(UV _ _).alloc (UU _) _⟩;have h15:j=0\/j=1\/j=2\/j=3\/j=4\/j=5\/j=6\/j=7\/j=8\/j=9\/j=10\/j=11\/j=12\/j=13\/j=14:=by omega
  rcases h15 with rfl|rfl|rfl|rfl|rfl|rfl|rfl|rfl|rfl|rfl|rfl|rfl|rfl|rfl|rfl<;>simp
 obtain⟨k,hk,rfl,HGU,HAR,hB⟩:=hrel;by_cases hlt:k<rs.length
 ·have Yl:k<(ak rs).length:=by rw[X0.out];exact hlt
  obtain⟨t0,t1,t2,t3,t4⟩:=(HR.out k hlt).later hb hB;have hk1:=bG k;have hk2:(k:Int)<(rs.length:Int):=by omega
  have hk3:(k:Int)<15:=by omega
  obtain⟨-,lk⟩:=HL.out rs[k] (UR hlt);obtain⟨W1,hW1⟩:∃W1,W1=wr.alloc (.cells #[.int .i64 rs[k].e.kind,.slice rs[k].adA rs[k].e.allow.length rs[k].capA,.string rs[k].e.over,.string rs[k].e.name,.slice rs[k].adK rs[k].e.kids.length rs[k].capK] 39):=⟨_,rfl⟩;have hal:ae wr W1:=by rw[hW1];exact(UV _ _).alloc (UU _) _
  have hB1:ae w W1:=hB.trans (hal.mono hB.size);have HAR1:Hid (Arr (ak rs) W1 w.heap.size k):=HAR.out.later hal;have s4:W1.cell? ⟨wr.heap.size,4,none⟩=some (.slice rs[k].adK rs[k].e.kids.length rs[k].capK):=by rw[hW1];simp
  have HT:Hid (dA (dC (ak rs) k) (rs[k].e.kids.take rs[k].e.kids.length).reverse ((k:Int)-1)=ay (ak rs) k):=by
   show _=_;rw[Va,jk (ak rs) k,oN rs k hlt]
  clear HAR;go_wp2_with fail;rw[<-hW1];clear hW1 t0 t1 t2 t3 t4 hal;go_loopw[6,7] (fun x i w2=>∃(j:Nat) (y:Int),j<=rs[k].e.kids.length/\i=.int .i64 ((j:Int)-1)/\x=.int .i64 y/\0<=y/\y<=k/\Hid (dA (dC (ak rs) k) (rs[k].e.kids.take j).reverse (y-1)=ay (ak rs) k)/\w2=W1) (fun _ i _=>(intOf i+1).toNat);case atStart=>exact⟨rs[k].e.kids.length,(k:Int),UU _,rfl,rfl,by omega,by omega,HT,rfl⟩
  obtain⟨j,y,hj,rfl,rfl,hy0,hy1,HG,rfl⟩:=hrel;by_cases hj0:0<j
  ·obtain⟨j,rfl⟩:∃i,j=i+1:=⟨j-1,by omega⟩;have hjl:j<rs[k].e.kids.length:=by omega
   rcases (HO.out rs[k] (UR hlt)).2.below hB1 with hnil|⟨bk,offk,Y9,hbk,hrk⟩
   ·rw[hnil]at hjl;simp at hjl
   have s4':=s4;rw[Y9]at s4';have k0:=hrk j hjl;have hji:((j+1:Nat):Int)-1=(j:Int):=by omega
   have hj1:=bG j;have hj2:(j:Int)<(rs[k].e.kids.length:Int):=by omega
   have HG2:Hid ((if y-1<0\/rs[k].e.kids[j]≠y-1 then -1 else if dC (ak rs) k (y-1)<0 then -1 else dA (dC (ak rs) k) (rs[k].e.kids.take j).reverse (dC (ak rs) k (y-1)-1))=ay (ak rs) k):=by
    have:=HG.out;rw[UX hjl,List.reverse_append]at this;exact this
   rw[hji];clear HG hrk Y9 s4;by_cases hy:y=0
   ·have HN:Hid (wG (ak rs)=false):=DZ k Yl (by rw[<-HG2.out,if_pos (Or.inl (by omega))];omega);subst hy;go_wp2;go_ret;exact⟨by rw[HN.out];rfl,hB1⟩
   obtain⟨m,rfl⟩:∃m:Nat,y=(m:Int)+1:=⟨(y-1).toNat,by omega⟩;have em:(m:Int)+1-1=(m:Int):=by omega
   by_cases hkx:rs[k].e.kids[j]=(m:Int)
   ·have hF:dC (ak rs) k ((m:Int)+1-1)=ay (ak rs) m:=by rw[em];unfold dC;rw[if_pos ⟨by omega,by simp;omega⟩];simp
    have HF:Hid (dC (ak rs) k ((m:Int)+1-1)=ay (ak rs) m):=hF;have hle:=fV (ak rs) m;have hge:0<=ay (ak rs) m:=HGU.out m (by omega);have a0:=HAR1.out.told m (by omega);have hm1:=bG m;have hm2:(m:Int)<15:=by omega
    have Za:Hid (dA (dC (ak rs) k) (rs[k].e.kids.take j).reverse (ay (ak rs) m-1)=ay (ak rs) k):=by
     show _=_;rw[<-HG2.out,if_neg (by omega),HF.out,if_neg (by omega)]
    clear hF HG2;go_wp2;go_roundw;case rel=>exact⟨j,ay (ak rs) m,by omega,by go_num,rfl,hge,by omega,Za,by first|rfl|trivial⟩
    simp[intOf]<;>omega
   have HN:Hid (wG (ak rs)=false):=DZ k Yl (by rw[<-HG2.out,if_pos (Or.inr (by rw[em];exact hkx))];omega);have hq:(rs[k].e.kids[j] != (m:Int))=true:=by simpa using hkx
   have hq0:((m:Int)+1==0)=false:=by simp;omega
   go_wp2;go_ret;exact⟨by rw[HN.out];rfl,hB1⟩
  obtain rfl:j=0:=by omega
  have hX:ay (ak rs) k=y:=by have:=HG.out;simp[dA]at this;omega
  have HGU2:Hid (NS (ak rs) (k+1)):=by
   intro m hm;by_cases e:m=k
   ·subst e;omega
   exact HGU.out m (by omega)
  have q0:=HAR1.out.rest k (UU _) (by omega);have qf:=HAR1.out.free;have HA2:=HAR1.out.put (k:=k) (by omega);rw[hX]at HA2;have HA3:Hid (Arr (ak rs) _ w.heap.size (k+1)):=HA2;have hB2:=hB1.setCell (p:=⟨w.heap.size,k,none⟩) (UU _) (.int .i64 y);clear HG HA2 hX;go_wp2;go_roundw;case rel=>exact⟨k+1,by omega,by go_num,HGU2,HA3,hB2⟩
  simp[intOf]<;>omega
 obtain rfl:k=rs.length:=by omega
 have a0:=HAR.out.told (rs.length-1) (by omega);have HKB:Hid (wG (ak rs)=decide (ay (ak rs) (rs.length-1)=0)):=by
  show _=_;have:iZ (ak rs)=true:=by
   unfold iZ;rw[U5];intro j hj;have hj':j<rs.length:=by simpa[X0.out] using hj
   simpa using HGU.out j hj'
  unfold wG;rw[this,X0.out,Bool.true_and]
 have hcast:((rs.length:Int)-1)=((rs.length-1:Nat):Int):=by omega
 have h15:((rs.length-1:Nat):Int)<15:=by omega
 have h00:(0:Int)<=((rs.length-1:Nat):Int):=by omega
 go_wp2;go_ret;exact⟨by rw[HKB.out];exact ah (by rw[Vd];simp),hB⟩
theorem Ni{es:Q09}(h:¬(1<=es.length/\es.length<=15)):kD es=false:=by rw[<-rC];exact C8 h
theorem J7{es:Q09}(k:Nat)(h:k<es.length)(hb:ax es[k]=false):kD es=false:=by simp[kD,CJ es k h hb]
theorem BH(b off cap:Nat)(rs:Q08)(w:af)(hlen:rs.length<=1048576)(hl:∀r∈rs,r.e.light)(hf:∀r∈rs,r.e.fits)(hcp:∀r∈rs,r.e.allow.length<=r.capA)(hb:b<w.heap.size)(hr:∀(i:Nat) (h:i<rs.length),yK w b (off+i*5) rs[i])(hok:∀r∈rs,r.ok w):
  Calls prog 221 #[.slice (some ⟨b,off,none⟩) rs.length cap] w fun e w'=>e=.returned (.bool (kD (ak rs)))/\ae w w':=by
 have X0:Hid ((ak rs).length=rs.length):=aQ rs;have HL:=aC hl;have HF:=aC hf;have HCP:Hid (∀r∈rs,r.e.allow.length<=r.capA):=hcp;have HR:Hid (∀(i:Nat) (h:i<rs.length),yK w b (off+i*5) rs[i]):=hr;have HO:=aC hok;clear hl hf hr hok hcp;by_cases hn:1<=rs.length/\rs.length<=15
 ·obtain⟨hn1,hn2⟩:=hn;go_enter func221,ntmps221;go_wp2_with fail;go_loopw[3,16] (fun o i wr=>∃k:Nat,k<=rs.length/\i=.int .i64 k/\o=.int .i64 (gP (ak rs) k:Nat)/\Hid (jC (ak rs) k=true)/\ae w wr) (fun _ i _=>rs.length-(intOf i).toNat);case atStart=>exact⟨0,UY _,rfl,rfl,(by show _=_;simp[jC]),UV _ _⟩
  obtain⟨k,hk,rfl,rfl,HU,hB⟩:=hrel;by_cases hlt:k<rs.length
  ·have Yl:k<(ak rs).length:=by rw[X0.out];exact hlt
   have HEK:Hid ((ak rs)[k]=rs[k].e):=by show _=_;simp[ak]
   obtain⟨t0,t1,t2,t3,t4⟩:=(HR.out k hlt).later hb hB;have hk1:=bG k;have hk2:(k:Int)<(rs.length:Int):=by omega
   have hol:=uJ (ak rs) k;have hal:ae w (wr.alloc (.cells #[.int .i64 rs[k].e.kind,.slice rs[k].adA rs[k].e.allow.length rs[k].capA,.string rs[k].e.over,.string rs[k].e.name,.slice rs[k].adK rs[k].e.kids.length rs[k].capK] 39)):=hB.alloc hB.size _;have Ws:=aC hal;clear hal;go_wp2_with fail;refine(J6 rs[k] _ (HF.out _ (UR hlt)) (HL.out _ (UR hlt)) ((HO.out _ (UR hlt)).below Ws.out) (HCP.out _ (UR hlt))).mono ?_;rintro e w1 ⟨rfl,hb1⟩;have hB1:ae w w1:=Ws.out.trans (hb1.mono Ws.out.size);have g0:w1.cell? ⟨wr.heap.size,0,none⟩=some (.int .i64 rs[k].e.kind):=by rw[hb1.cell (p:=⟨wr.heap.size,0,none⟩) (by simp)];simp
   clear hb1 t0 t1 t2 t3 t4 Ws;cases V4:ax rs[k].e;case false=>
    have HN:Hid (kD (ak rs)=false):=J7 k Yl (by rw[HEK.out];exact V4);go_wp2;go_ret;exact⟨by rw[HN.out];rfl,hB1⟩
   have ZF:Hid (jC (ak rs) (k+1)=true):=by show _=_;rw[uK _ _ Yl,HU.out,HEK.out,V4];rfl
   have HOW:Hid (gP (ak rs) (k+1)=gP (ak rs) k+(if rs[k].e.kind=1 then 1 else 0)):=by show _=_;rw[zw _ _ Yl,HEK.out]
   by_cases hk1':rs[k].e.kind=1
   ·have ZL:Hid (gP (ak rs) (k+1)=gP (ak rs) k+1):=by show _=_;rw[HOW.out,if_pos hk1']
    clear HOW;go_wp2;go_roundw;case rel=>exact⟨k+1,by omega,by go_num,by rw[ZL.out];go_num,ZF,hB1⟩
    simp[intOf]<;>omega
   have ZL:Hid (gP (ak rs) (k+1)=gP (ak rs) k):=by show _=_;rw[HOW.out,if_neg hk1'];rfl
   clear HOW;go_wp2;go_roundw;case rel=>exact⟨k+1,by omega,by go_num,by rw[ZL.out],ZF,hB1⟩
   simp[intOf]<;>omega
  obtain rfl:k=rs.length:=by omega
  have HN:Hid ((ak rs).all ax=true):=by
   have:=HU.out;unfold jC at this;rwa [<-X0.out,Va]at this
  have HOW:Hid (gP (ak rs) rs.length=own (ak rs)):=by show _=_;unfold gP;rw[<-X0.out,Va]
  have hol:=uJ (ak rs) rs.length;by_cases ho:gP (ak rs) rs.length<=1
  ·have HS:Hid (kD (ak rs)=wG (ak rs)):=by
    show _=_;have h1:own (ak rs)<=1:=by rw[<-HOW.out];exact ho
    have e1:=X0.out;unfold kD wG;rw[e1,HN.out];simp[h1,hn1,hn2]
   go_wp2_with fail;refine(yS b off cap rs _ hn1 hn2 HL.out (UT hb hB.size) (fun i hi=>(HR.out i hi).later hb hB) (fun r hr=>(HO.out r hr).below hB)).mono ?_;rintro e w1 ⟨rfl,hb1⟩;go_wp2;go_ret;exact⟨by rw[HS.out];rfl,hB.trans (hb1.mono hB.size)⟩
  have HS:Hid (kD (ak rs)=false):=by
   show _=_;have h1:¬own (ak rs)<=1:=by rw[<-HOW.out];exact ho
   simp[kD,h1]
  go_wp2;go_ret;exact⟨by rw[HS.out];rfl,hB⟩
 have HN:Hid (kD (ak rs)=false):=Ni (by rw[X0.out];exact hn);go_enter func221,ntmps221;go_wp2_with fail
 all_goals go_ret
 all_goals exact⟨by rw[HN.out];rfl,UV _ _⟩
theorem BI(ad:Q02)(cap:Nat)(rs:Q08)(w:af)(hlen:rs.length<=1048576)(hl:∀r∈rs,r.e.light)(hf:∀r∈rs,r.e.fits)(hcp:∀r∈rs,r.e.allow.length<=r.capA)(hs:gZ w ad rs):
  Calls prog 221 #[.slice ad rs.length cap] w fun e w'=>e=.returned (.bool (kD (ak rs)))/\ae w w':=by
 rcases hs with rfl|⟨b,off,rfl,hb,hr,hok⟩
 ·go_enter func221,ntmps221;go_wp2_with fail;go_ret;exact⟨rfl,UV _ _⟩
 exact BH b off cap rs w hlen hl hf hcp hb hr hok
set_option linter.unusedVariables false
def RL(r:RR):List Value:=[.string r.name,r.sl]
abbrev Fx (w:World)(br nr:Nat)(Mr:KL->Option Value)(Er:List (KL×RR)):Prop:=G.Grp Ga prog 172 147 2 RL w br nr Mr Er
theorem Ht{w:af}{br nr:Nat}{Mr:KL->Option Value}{Er:List (KL×RR)}(h:Fx w br nr Mr Er){k:KL}{v:Value}(hk:Mr k=some v):∃n xs,w.ownsRow (br+1) 147 2 v n xs:=by
 rcases h.row k with⟨e,-⟩|⟨v',e,ho⟩
 ·rw[e]at hk;cases hk
 rw[e]at hk;injection hk with hk;subst hk;exact⟨_,_,ho⟩
theorem r9{w:af}{br nr g:Nat}{Mr:KL->Option Value}{Er:List (KL×RR)}{e:TypeId}{cur:Array Value}(h:Fx w br nr Mr Er)(hc:w.heap[g]?=some (.cells cur e (0,0)))(hne:(147:TypeId)≠e):G.FreeB Mr g:=fun k v hk hg=>by
 obtain⟨n,xs,ho⟩:=Ht h hk;exact hne (dN ho hg hc)
theorem Hu{w:af}{br nr g:Nat}{Mr:KL->Option Value}{Er:List (KL×RR)}{es:Array MapEntry}{c:Nat}(h:Fx w br nr Mr Er)(hc:w.heap[g]?=some (.map es c)):G.FreeB Mr g:=fun k v hk hg=>by
 obtain⟨n,xs,ho⟩:=Ht h hk;exact Fe ho hg hc
theorem pu{K:Type}{enc:K->Value}{P:Program}{kt:TypeId}{w:af}{b n:Nat}{M:K->Option Value}(h:aK enc P kt w b n M):∃es c,w.heap[b]?=some (.map es c):=by
 obtain⟨D,⟨es,c,hb,-⟩,-⟩:=h;exact⟨es,c,hb⟩
structure DatA(w:World)(rs:Q06)(D br bp bt:Nat)(n1:Int)(nr:Nat)(Mr:KL->Option Value)(Er:List (KL×RR))(E:List (K3×Tp))(xo xu:Q0a)(np:Nat)(Mp:K3->Option Value)(vo vu:Value):Prop where
 dat:DatT w D br bp (.map (some bt)) n1 E xo xu np Mp vo vu
 tab:aK dV prog 94 w bt 36 (oZ rs)
 rel:Fx w br nr Mr Er
 ord:bt<br/\br<bp
section
variable  {w w':World}{rs:Q06}{D br bp bt:Nat}{n1:Int}{nr:Nat}{Mr:KL->Option Value}{Er:List (KL×RR)}{E:List (K3×Tp)}{xo xu:Q0a}{np:Nat}{Mp:K3->Option Value}{vo vu:Value}
theorem DatA.below(h:DatA w rs D br bp bt n1 nr Mr Er E xo xu np Mp vo vu)(hb:ae w w'):DatA w' rs D br bp bt n1 nr Mr Er E xo xu np Mp vo vu:=⟨h.dat.below hb,h.tab.below hb,h.rel.below hb,h.ord⟩
theorem DatA.tell(h:DatA w rs D br bp bt n1 0 (fun _=>none) [] E xo xu np Mp vo vu){E':List (K3×Tp)}{xo' xu':Q0a}{np':Nat}{Mp':K3->Option Value}{Zv Zx:Value}(hd:DatT w' D br bp (.map (some bt)) n1 E' xo' xu' np' Mp' Zv Zx)(hb:Below bp w w'):DatA w' rs D br bp bt n1 0 (fun _=>none) [] E' xo' xu' np' Mp' Zv Zx:=by
 obtain⟨h1,h2⟩:=h.ord;exact⟨hd,h.tab.of_block (hb.block bt (by omega)),⟨h.rel.map.of_block (hb.block br (by omega)),fun k=>.inl ⟨rfl,rfl⟩,fun k k' v v' _ e=>by cases e⟩,h.ord⟩
theorem DatA.list(h:DatA w rs D br bp bt n1 nr Mr Er E xo xu np Mp vo vu){nr':Nat}{Mr':KL->Option Value}{Er':List (KL×RR)}(hg:Fx w' br nr' Mr' Er')(hs:G.Stl w Mr w' Mr' br):DatA w' rs D br bp bt n1 nr' Mr' Er' E xo xu np Mp vo vu:=by
 obtain⟨h1,h2⟩:=h.ord;have hgt:=h.dat.gt;have hlt:=h.dat.lt;obtain⟨cur,hk⟩:=h.dat.kind;have hD:w'.heap[D]?=w.heap[D]?:=hs.block D hlt (by omega) (r9 h.rel hk (by decide));have hc:∀o,w'.cell? ⟨D,o,none⟩=w.cell? ⟨D,o,none⟩:=fun o=>Vh (w:=w) (a:=⟨D,o,none⟩) hD;have hO:∀{v:Value} {n:Nat} {xs:Q03},w.ownsRow (bp+1) 27 2 v n xs->w'.ownsRow (bp+1) 27 2 v n xs:=fun {v n xs} ho=>eB ho fun g hg=>by
  obtain⟨cr,e⟩:=jN ho hg;have:=ho.lt g hg;exact hs.block g this.2 (by omega) (r9 h.rel e (by decide))
 obtain⟨es,c,eb⟩:=pu h.dat.told.map;obtain⟨es2,c2,eb2⟩:=pu h.tab;refine⟨⟨hgt,UT hlt hs.size,⟨cur,hD.trans hk⟩,(hc _).trans h.dat.c0,(hc _).trans h.dat.c1,(hc _).trans h.dat.c2,(hc _).trans h.dat.c3,(hc _).trans h.dat.c4,(hc _).trans h.dat.c5,wy h.dat.told ?_ ?_,hO h.dat.objs,hO h.dat.users,h.dat.apart⟩,h.tab.of_block ?_,hg,h.ord⟩
 ·exact hs.block bp (by omega) (by omega) (Hu h.rel eb)
 ·intro k v g hm hg2;obtain⟨n,xs,ho⟩:=ww h.dat.told hm;obtain⟨cr,e⟩:=jN ho hg2;have:=ho.lt g hg2;exact hs.block g this.2 (by omega) (r9 h.rel e (by decide))
 exact hs.block bt (by omega) (by omega) (Hu h.rel eb2)
theorem DatA.count(h:DatA w rs D br bp bt n1 nr Mr Er E xo xu np Mp vo vu)(n2:Int):DatA (w.setCell ⟨D,1,none⟩ (.int .i64 n2)) rs D br bp bt n2 nr Mr Er E xo xu np Mp vo vu:=by
 obtain⟨h1,h2⟩:=h.ord;have hgt:=h.dat.gt;obtain⟨cur,hk⟩:=h.dat.kind;have hne:∀g,g≠D->(w.setCell ⟨D,1,none⟩ (.int .i64 n2)).heap[g]?=w.heap[g]?:=fun g e=>heap_setCell_other w ⟨D,1,none⟩ g _ e;have hc2:∀o,o≠1->(w.setCell ⟨D,1,none⟩ (.int .i64 n2)).cell? ⟨D,o,none⟩=w.cell? ⟨D,o,none⟩:=fun o ne=>kX (by omega);have hO:∀{v:Value} {n:Nat} {xs:Q03},w.ownsRow (bp+1) 27 2 v n xs->(w.setCell ⟨D,1,none⟩ (.int .i64 n2)).ownsRow (bp+1) 27 2 v n xs:=fun {v n xs} ho=>eB ho fun g hg=>hne g fun e=>absurd (dN ho (e ▸ hg) hk) (by decide);refine⟨⟨hgt,by simpa using h.dat.lt,⟨_,heap_setCell_same w D 1 cur _ _ hk⟩,(hc2 0 (by omega)).trans h.dat.c0,OY h.dat.c1,(hc2 2 (by omega)).trans h.dat.c2,(hc2 3 (by omega)).trans h.dat.c3,(hc2 4 (by omega)).trans h.dat.c4,(hc2 5 (by omega)).trans h.dat.c5,wy h.dat.told (hne bp (by omega)) ?_,hO h.dat.objs,hO h.dat.users,h.dat.apart⟩,h.tab.of_block (hne bt (by omega)),⟨h.rel.map.of_block (hne br (by omega)),fun k=>?_,h.rel.apart⟩,h.ord⟩
 ·intro k v g hm hg2;obtain⟨n,xs,ho⟩:=ww h.dat.told hm;exact hne g fun e=>absurd (dN ho (e ▸ hg2) hk) (by decide)
 rcases h.rel.row k with e|⟨v,e,ho⟩
 ·exact .inl e
 exact .inr ⟨v,e,eB ho fun g hg=>hne g fun e2=>absurd (dN ho (e2 ▸ hg) hk) (by decide)⟩
end
set_option maxRecDepth 100000
structure XZ(rows:Q08):Prop where
 len:rows.length<=1000
 kids:∀q∈rows,q.e.kids.length<=1000
 low:K5 (ak rows)
 two:∀e∈ak rows,e.kind=6->2<=e.kids.length
theorem XZ.kid{rows:Q08}(h:XZ rows){n:Nat}(hn:n<rows.length){i:Int}(hi:i∈rows[n].e.kids):0<=i/\i<(n:Int):=by
 have:=h.low n (by rw[aQ];exact hn) i;have e:(ak rows)[n]'(by rw[aQ];exact hn)=rows[n].e:=by simp[ak]
 rw[e]at this;exact this hi
theorem qZ(v0:Value)(X8:Q02)(XA:Nat)(ts:Q05)(V5:Q02)(capE:Nat)(rows:Q08)(Xl:Q02)(WO:Nat)(truth:Q04)(f:Fc)(htl:ts.length<=1048576)(hN:XZ rows)(htr:truth.length<=1048576):
  ∀(k n:Nat) (adK:Q02) (capK:Nat) (known:Q04) (w:World),n<k->n<rows.length->known.length<=1048576->HW w X8 ts V5 rows adK known Xl truth ->
  Calls prog 98 #[v0,.slice X8 ts.length XA,.slice V5 rows.length capE,.int .i64 (n:Int),.slice adK known.length capK,.slice Xl truth.length WO,.agg #[.string f.a,.string f.b,.string f.r,.string f.c,.string f.d]] w fun e w'=>e=.returned (.bool (di ts (ak rows) truth f k known n))/\ae w w'
 | 0,_,_,_,_,_,h,_,_,_=>absurd h (VL _)
 | k+1,n,adK,capK,known,w,hk,hn,hkn,hW=>by
  have e:(ak rows)[n]?=some rows[n].e:=by simp[ak,hn]
  have WJ:∀(adK':Q02) (capK':Nat) (known':Q04),known'.length<=1048576->HW w X8 ts V5 rows adK' known' Xl truth->∀i∈rows[n].e.kids,Pp v0 (.slice X8 ts.length XA) (.slice V5 rows.length capE) (.slice adK' known'.length capK') (.slice Xl truth.length WO) f w i (di ts (ak rows) truth f k known' i.toNat):=fun adK' capK' known' hl hW' i hi w1 hb1=>by
   have h1:=hN.kid hn hi;have h2:=qZ v0 X8 XA ts V5 capE rows Xl WO truth f htl hN htr k i.toNat adK' capK' known' w1 (by omega) (by omega) hl (hW'.below hb1);have e2:((i.toNat:Nat):Int)=i:=by omega
   rw[e2]at h2;exact h2
  unfold di;rw[e];have hm:rows[n]∈rows:=UR hn;have hme:rows[n].e∈ak rows:=U7.2 ⟨_,hm,rfl⟩;by_cases k1:rows[n].e.kind=1
  ·simp only[if_pos k1];exact Fw v0 X8 XA ts V5 capE rows n adK capK known Xl WO truth f w hW hn hN.len hkn htl k1
  by_cases k2:rows[n].e.kind=2
  ·simp only[if_neg k1,if_pos k2];exact Hq v0 X8 XA ts V5 capE rows n adK capK known Xl WO truth f w hW hn hN.len hkn k2
  by_cases k3:rows[n].e.kind=3
  ·simp only[if_neg k1,if_neg k2,if_pos k3];exact Fa v0 X8 XA ts V5 capE rows n adK capK known Xl WO truth f w hW hn hN.len hkn htl k3
  by_cases k4:rows[n].e.kind=4
  ·simp only[if_neg k1,if_neg k2,if_neg k3,if_pos k4];exact Co (fun i=>di ts (ak rows) truth f k known i.toNat) v0 _ V5 capE rows n _ _ f w hW.ex hn hN.len (hN.kids _ hm) k4 (WJ adK capK known hkn hW)
  by_cases k5:rows[n].e.kind=5
  ·simp only[if_neg k1,if_neg k2,if_neg k3,if_neg k4,if_pos k5];exact Fb (fun i=>di ts (ak rows) truth f k known i.toNat) v0 _ V5 capE rows n _ _ f w hW.ex hn hN.len (hN.kids _ hm) k5 (WJ adK capK known hkn hW)
  by_cases k6:rows[n].e.kind=6
  ·simp only[if_neg k1,if_neg k2,if_neg k3,if_neg k4,if_neg k5,if_pos k6];have h2:=hN.two _ hme k6;have hg:∀q,q<2->rows[n].e.kids.getD q 0∈rows[n].e.kids:=fun q hq=>by
    rw[Vn,U1 (by omega)];exact UR _
   exact GY _ _ v0 _ V5 capE rows n _ _ f w hW.ex hn hN.len (hN.kids _ hm) h2 k6 (WJ adK capK known hkn hW _ (hg 0 (by omega))) (WJ Xl WO truth htr ⟨hW.tup,hW.ex,hW.tr,hW.tr⟩ _ (hg 1 (by omega)))
  simp only[if_neg k1,if_neg k2,if_neg k3,if_neg k4,if_neg k5,if_neg k6];exact J5 v0 X8 XA ts V5 capE rows n _ _ f w hW.ex hn hN.len k1 k2 k3 k4 k5 k6
end Go.Proofs.YtajkkeikihhejaaGreat
