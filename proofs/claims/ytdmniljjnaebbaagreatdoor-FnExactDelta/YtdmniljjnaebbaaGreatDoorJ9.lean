/- Contracts of the two functions that look at a list of tuples. -/
import Derived.Test.YtdmniljjnaebbaaGreatDoorSq
import Derived.Test.YtdmniljjnaebbaaGreatDoorJ5
import Derived.Sort.Statements
import Derived.Test.YtdmniljjnaebbaaGreatDoorSpecExpr
import Derived.Test.YtdmniljjnaebbaaGreatDoorJ8
open Go.Proofs.Tryz
set_option maxHeartbeats 80000000
namespace Go.Proofs.YtdmniljjnaebbaaGreatDoor
open Go.Sort
open Go.ChangeShapes Go.WideShapes Go.ChangeAt Go.RowKit
open Pl
attribute [local go_sem ↓] Go.wp_at_zero Go.wp_at_succ
def Tp.ok (t:Tp):Bool:=bn t.a t.b t.r t.c t.d t.s
def Tp.ahead (t u:Tp):Bool:=eQ t.a t.b t.r t.c t.d t.s u.a u.b u.r u.c u.d u.s
def tZ (ts:List Tp) (i:Nat):Bool:=match ts[i]? with
 | none=>true
 | some t=>t.ok && (match i with
  | 0=>true
  | j + 1=>match ts[j]? with
   | none=>true
   | some u=>u.ahead t)
def rY (ts:List Tp) (k:Nat):Bool:=(List.range k).all (tZ ts)
def dO (ts:List Tp):Bool:=decide (ts.length≤40) && rY ts ts.length
theorem pU (ts:List Tp) (k:Nat):rY ts (k + 1)=(rY ts k && tZ ts k):=by simp [rY,List.range_succ]
theorem rZ {ts:List Tp} {k:Nat} (hk:k < ts.length) (h:tZ ts k=false):dO ts=false:=by
 have:rY ts ts.length=false:=by
  unfold rY;rw [List.all_eq_false];exact ⟨k,by simpa using hk,by simp [h]⟩
 simp [dO,this]
theorem uf {ts:List Tp} (h:0 < ts.length):tZ ts 0=ts[0].ok:=by simp [tZ,Sw h]
theorem pV {ts:List Tp} {j:Nat} (h:j + 1 < ts.length):tZ ts (j + 1)=(ts[j + 1].ok && ts[j].ahead ts[j + 1]):=by
 have h':j < ts.length:=by omega
 simp [tZ,Sw h,Sw h']
theorem Jb {ts:List Tp} {k:Nat} (h:k < ts.length) (hn:ts[k].ok=false):tZ ts k=false:=by
 simp [tZ,Sw h,hn]
theorem ug (b off cap:Nat) (ts:List Tp) (w:af) (hlen:ts.length≤maxLen) (hr:dF w b off ts) (hb:b < w.heap.size) (hf:∀ t ∈ ts,t.fits) :
    Calls prog 75 #[.slice (some ⟨b,off,none⟩) ts.length cap] w fun e w'=>e=.returned (.bool (dO ts))∧aa w w':=by
  unfold maxLen at hlen;by_cases hbig:40 < ts.length
  · have HT:Hid (dO ts=false):=by show _=_; simp [dO]; omega
    go_enter func75,ntmps75;go_wp2;go_ret;exact ⟨ah HT.out.symm,Si _ _⟩
  · go_enter func75,ntmps75;go_wp2;go_loopw [3] (fun i wr=>∃ k:Nat,k≤ts.length∧i=.int .i64 k∧Hid (rY ts k=true)∧aa w wr) (fun i _=>ts.length - (intOf i).toNat);case atStart=>exact ⟨0,Sm _,rfl,rfl,Si _ _⟩
    obtain ⟨k,hk,rfl,hu,hB⟩:=hrel;by_cases hlt:k < ts.length
    · have Zv:=oG (hr.below hB hb);have Tv:=oG hf;obtain ⟨t0,t1,t2,t3,t4,t5⟩:=Zv.out k hlt;have hk1:=bH k;have hk2:(k:Int) < (ts.length:Int):=by omega
      clear hr hf;have c0:=cell_regrown t0;have c1:=cell_regrown t1;have c2:=cell_regrown t2;have c3:=cell_regrown t3;have c4:=cell_regrown t4;have c5:=cell_regrown t5;have TQ:Hid (∀ d os,aa w (grow (redrawn wr d) os)):=fun d os=>hB.trans ((below_regrown wr d os).mono hB.size);clear t0 t1 t2 t3 t4 t5;go_wp2_with fail;have Vx:Hid (∀ d os,Calls prog 77 #[.agg #[.string ts[k].a,.string ts[k].b,.string ts[k].r,.string ts[k].c,.string ts[k].d,.string ts[k].s]] (grow (redrawn wr d) os) fun e w''=>e=.returned (.bool ts[k].ok)∧∃ p:Regrown,w''=grow (redrawn wr p.d) p.os):=by
        obtain ⟨f0,f1,f2,f3,f4,f5⟩:=Tv.out ts[k] (Sd hlt);exact bP fun W' _=>dI _ _ _ _ _ _ _ f0 f1 f2 f3 f4 f5
      cases hok:ts[k].ok;case false=>
        have HT:Hid (dO ts=false):=rZ hlt (Jb hlt hok);rw [hok] at Vx;clear hok;refine wp_region_quiet_below (by kernel_rfl) (by kernel_rfl) ?_
        repeat (go_big_quiet_step (exact Vx.out _ _))
        refine wpQuiet_nil ?_;rintro _ ⟨⟨dq,osq⟩,rfl⟩;go_wp2;go_ret;exact ⟨ah HT.out.symm,TQ.out dq osq⟩
      rw [hok] at Vx;by_cases hz:k=0
      · have HU:Hid (rY ts (k + 1)=true):=by show _=_; rw [pU,hu.out]; subst hz; rw [uf hlt,hok]; rfl
        have hk8:decide ((0:Int) < (k:Int))=false:=by simp; omega
        have Zw:decide (0 < k)=false:=by simp; omega
        clear hok hz;refine wp_region_quiet_below (by kernel_rfl) (by kernel_rfl) ?_
        repeat (go_big_quiet_step (exact Vx.out _ _))
        refine wpQuiet_nil ?_;rintro _ ⟨⟨dq,osq⟩,rfl⟩;go_wp2;go_roundw;case rel=>exact ⟨k + 1,by omega,by go_num,HU,TQ.out dq osq⟩
        simp [intOf]; omega
      · obtain ⟨m,hm⟩:∃ m:Nat,k=m + 1:=⟨k - 1,by omega⟩;have TF:m < ts.length:=by omega
        obtain ⟨q0,q1,q2,q3,q4,q5⟩:=Zv.out m TF;replace q0:=cell_regrown q0;replace q1:=cell_regrown q1;replace q2:=cell_regrown q2;replace q3:=cell_regrown q3;replace q4:=cell_regrown q4;replace q5:=cell_regrown q5;have hkm:(k:Int) - 1=(m:Int):=by omega
        have hm1:=bH m;have hm2:(m:Int) < (ts.length:Int):=by omega
        have hpos:(0:Int) < (k:Int):=by omega
        have hposN:0 < k:=by omega
        have hwm:IntKind.i64.wrap (m:Int)=(m:Int):=by rw [IntKind.wrap_i64]; omega
        have HA:Hid (tZ ts k=ts[m].ahead ts[k]):=by show _=_; subst hm; rw [pV hlt,hok]; rfl
        have Wv:Hid (∀ d os,Calls prog 113 #[.agg #[.string ts[m].a,.string ts[m].b,.string ts[m].r,.string ts[m].c,.string ts[m].d,.string ts[m].s],.agg #[.string ts[k].a,.string ts[k].b,.string ts[k].r,.string ts[k].c,.string ts[k].d,.string ts[k].s]] (grow (redrawn wr d) os) fun e w''=>e=.returned (.bool (ts[m].ahead ts[k]))∧∃ p:Regrown,w''=grow (redrawn wr p.d) p.os):=by
          obtain ⟨f0,f1,f2,f3,f4,f5⟩:=Tv.out ts[k] (Sd hlt);obtain ⟨g0,g1,g2,g3,g4,g5⟩:=Tv.out ts[m] (Sd TF);exact bP fun W' _=>lF _ _ _ _ _ _ _ _ _ _ _ _ _ g0 g1 g2 g3 g4 g5 f0 f1 f2 f3 f4 f5
        clear hm hz hok;cases ha:ts[m].ahead ts[k];case false=>
          have HT:Hid (dO ts=false):=rZ hlt (by rw [HA.out,ha]);rw [ha] at Wv;clear ha HA;refine wp_region_quiet_below (by kernel_rfl) (by kernel_rfl) ?_
          repeat (go_big_quiet_step (first | exact Vx.out _ _ | exact Wv.out _ _))
          refine wpQuiet_nil ?_;rintro _ ⟨⟨dq,osq⟩,rfl⟩;go_wp2;go_ret;exact ⟨ah HT.out.symm,TQ.out dq osq⟩
        have HU:Hid (rY ts (k + 1)=true):=by show _=_; rw [pU,hu.out,HA.out,ha]; rfl
        rw [ha] at Wv;clear ha HA;refine wp_region_quiet_below (by kernel_rfl) (by kernel_rfl) ?_
        repeat (go_big_quiet_step (first | exact Vx.out _ _ | exact Wv.out _ _))
        refine wpQuiet_nil ?_;rintro _ ⟨⟨dq,osq⟩,rfl⟩;go_wp2;go_roundw;case rel=>exact ⟨k + 1,by omega,by go_num,HU,TQ.out dq osq⟩
        simp [intOf]; omega
    · go_wp2;go_ret;exact ⟨ah (by have e:k=ts.length:=(by omega);subst e;simp [dO,hu.out]; omega),hB⟩
end Go.Proofs.YtdmniljjnaebbaaGreatDoor
namespace Go.Proofs.YtdmniljjnaebbaaGreatDoor
open Pl
theorem vC:∀ x:List UInt8,Op.bytesLess x x=false
 | []=>rfl
 | a::x=>by simp [Op.bytesLess,vC x]
theorem yt:∀ x y z:List UInt8,Op.bytesLess x y=true→Op.bytesLess y z=true→Op.bytesLess x z=true
 | [],_,[],h,k=>by cases ‹List UInt8› <;> simp [Op.bytesLess] at h k
 | [],_,_::_,_,_=>rfl
 | _::_,[],_,h,_=>by simp [Op.bytesLess] at h
 | _::_,_::_,[],_,k=>by simp [Op.bytesLess] at k
 | a::x,b::y,c::z,h,k=>by
  simp only [Op.bytesLess,Bool.or_eq_true,Sn,SE,beq_iff_eq] at h k ⊢;rcases h with h | ⟨h,h'⟩
  ·rcases k with k | ⟨k,k'⟩
   ·exact .inl (UInt8.lt_trans h k)
   exact .inl (k ▸ h)
  rcases k with k | ⟨k,k'⟩
  ·exact .inl (h ▸ k)
  exact .inr ⟨h.trans k,yt x y z h' k'⟩
theorem yu:∀ x y:List UInt8,x ≠ y→Op.bytesLess x y=true ∨ Op.bytesLess y x=true
 | [],[],h=>absurd rfl h
 | [],_::_,_=>.inl rfl
 | _::_,[],_=>.inr rfl
 | a::x,b::y,h=>by
  simp only [Op.bytesLess,Bool.or_eq_true,Sn,SE,beq_iff_eq];by_cases e:a=b
  ·subst e;rcases yu x y (fun e=>h (by rw [e])) with k | k
   ·exact .inl (.inr ⟨rfl,k⟩)
   exact .inr (.inr ⟨rfl,k⟩)
  rcases Nat.lt_or_gt_of_ne (fun k=>e (UInt8.toNat_inj.1 k)) with k | k
  ·exact .inl (.inl k)
  exact .inr (.inl k)
def Tp.text (t:Tp):List UInt8:=(aU t.a t.b t.r t.c t.d t.s).toList
theorem MF {x y:Tp} (hx:x.ok=true) (hy:y.ok=true) (e:x.text=y.text):x=y:=by
 obtain ⟨h1,h2,h3,h4,h5,h6⟩:=oJ hx hy (iL e);obtain ⟨xa,xb,xr,xc,xd,xs⟩:=x;obtain ⟨ya,yb,yr,yc,yd,ys⟩:=y;simp only at h1 h2 h3 h4 h5 h6;rw [h1,h2,h3,h4,h5,h6]
theorem jh {x y:Tp} (hx:x.ok=true) (hy:y.ok=true):x.ahead y=Op.bytesLess x.text y.text:=qR hx hy
theorem yw {x y:Tp} (h:x.ahead y=true):x.ok=true∧y.ok=true:=by
 unfold Tp.ahead eQ at h;simp only [Sn] at h;exact ⟨h.1.1,h.1.2⟩
theorem jE {x y z:Tp} (h:x.ahead y=true) (k:y.ahead z=true):x.ahead z=true:=by
 obtain ⟨hx,hy⟩:=yw h;obtain ⟨-,hz⟩:=yw k;rw [jh hx hy] at h;rw [jh hy hz] at k;rw [jh hx hz];exact yt _ _ _ h k
theorem iU (x:Tp):x.ahead x=false:=by
 cases h:x.ahead x;case false=>rfl
 obtain ⟨hx,-⟩:=yw h; rw [jh hx hx,vC] at h; cases h
theorem Ed {x y:Tp} (hx:x.ok=true) (hy:y.ok=true) (hne:x ≠ y):x.ahead y=true ∨ y.ahead x=true:=by
 rw [jh hx hy,jh hy hx];exact yu _ _ fun e=>hne (MF hx hy e)
def Up (l:List Tp):Prop:=l.Pairwise fun x y=>x.ahead y=true
theorem Jc {ts:List Tp} (h:dO ts=true):Up ts∧(∀ t ∈ ts,t.ok=true)∧ts.length≤40:=by
 unfold dO at h;simp only [Sn,SE] at h;obtain ⟨hl,hu⟩:=h;have hat:∀ i,i < ts.length→tZ ts i=true:=fun i hi=>by
  unfold rY at hu;exact SC.1 hu i (List.mem_range.2 hi)
 have hok:∀ i (hi:i < ts.length),ts[i].ok=true:=fun i hi=>by
  have:=hat i hi;cases i with
  | zero=>rw [uf hi] at this; exact this
  | succ j=>rw [pV hi] at this; simp only [Sn] at this; exact this.1
 have hnx:∀ i (hi:i + 1 < ts.length),ts[i].ahead ts[i + 1]=true:=fun i hi=>by
  have:=hat (i + 1) hi;rw [pV hi] at this; simp only [Sn] at this; exact this.2
 refine ⟨List.pairwise_iff_getElem.2 fun i j hi hj hij=>?_,fun t ht=>?_,hl⟩
 ·obtain ⟨d,rfl⟩:∃ d,j=i + 1 + d:=⟨j - (i + 1),by omega⟩
  induction d with
  | zero=>exact hnx i hj
  | succ d ih=>exact jE (ih (by omega) (by omega)) (hnx (i + 1 + d) (by omega))
 obtain ⟨i,hi,rfl⟩:=List.mem_iff_getElem.1 ht;exact hok i hi
theorem QA {xs ys:List Tp} (hx:Up xs) (hy:Up ys) (h:∀ t,t ∈ xs ↔ t ∈ ys):xs=ys:=by
 have nd:∀ {l:List Tp},Up l→l.Nodup:=fun hl=>hl.imp fun {a b} hab e=>by subst e; rw [iU] at hab; cases hab
 exact List.Perm.eq_of_pairwise (le:=fun (a b:Tp)=>a.ahead b=true) (fun a b _ _ h1 h2=>by have:=jE h1 h2; rw [iU] at this; cases this) hx hy ((List.perm_ext_iff_of_nodup (nd hx) (nd hy)).2 h)
def jZ:List Tp→Tp→List Tp
 | [],t=>[t]
 | x::xs,t=>if x.ahead t then x::jZ xs t else t::x::xs
theorem yx (ts:List Tp) (t y:Tp):y ∈ jZ ts t ↔ y=t ∨ y ∈ ts:=by
 induction ts with
 | nil=>simp [jZ]
 | cons x xs ih =>
  unfold jZ;split
  ·simp only [List.mem_cons,ih];constructor
   ·rintro (h | h | h)
    ·exact .inr (.inl h)
    ·exact .inl h
    exact .inr (.inr h)
   rintro (h | h | h)
   ·exact .inr (.inl h)
   ·exact .inl h
   exact .inr (.inr h)
  simp
theorem OM {ts:List Tp} {t:Tp} (hu:Up ts) (hok:∀ x ∈ ts,x.ok=true) (ht:t.ok=true) (hn:t ∉ ts):Up (jZ ts t):=by
 induction ts with
 | nil=>exact List.pairwise_singleton _ _
 | cons x xs ih =>
  obtain ⟨h1,h2⟩:=List.pairwise_cons.1 hu;unfold jZ;split
  ·rename_i hx;refine List.pairwise_cons.2 ⟨fun y hy=>?_,ih h2 (fun y hy=>hok y (SQ _ hy)) (fun hm=>hn (SQ _ hm))⟩;rcases (yx xs t y).1 hy with rfl | hy
   ·exact hx
   exact h1 y hy
  rename_i hx;have hne:x ≠ t:=fun e=>hn (by rw [e]; exact S9);have htx:t.ahead x=true:=by
   rcases Ed (hok x S9) ht hne with h | h
   ·exact absurd h hx
   exact h
  refine List.pairwise_cons.2 ⟨fun y hy=>?_,hu⟩;rcases List.mem_cons.1 hy with rfl | hy
  ·exact htx
  exact jE htx (h1 y hy)
theorem Cz (ts:List Tp) (t:Tp) (k:Nat) (hk:k≤ts.length) (h1:∀ i (h:i < ts.length),i < k→ts[i].ahead t=true) (h2:∀ h:k < ts.length,ts[k].ahead t=false):jZ ts t=ts.take k ++ t::ts.drop k:=by
 induction ts generalizing k with
 | nil=>simp [jZ]
 | cons x xs ih =>
  cases k with
  | zero =>
   have:=h2 (by simp);simp only [List.getElem_cons_zero] at this;simp [jZ,this]
  | succ k =>
   have hx:=h1 0 (by simp) (by omega);simp only [List.getElem_cons_zero] at hx;have:=ih k (by simpa using hk) (fun i hi hik=>by have:=h1 (i + 1) (by simpa using hi) (by omega); simpa using this) (fun h=>by have:=h2 (by simpa using h); simpa using this);simp [jZ,hx,this]
theorem uh (ts:List Tp) (t y:Tp):y ∈ dL ts t ↔ y ∈ ts∧y ≠ t:=by
 unfold dL;rw [SX];have:((!lG y t)=true) ↔ y ≠ t:=by
  cases e:lG y t
  ·simp only [Bool.not_false,true_iff]; intro h; rw [lX.2 h] at e; cases e
  simp only [Bool.not_true,Bool.false_eq_true,false_iff,ne_eq]; intro h; exact h (lX.1 e)
 rw [this]
theorem Ee {ts:List Tp} (t:Tp) (hu:Up ts):Up (dL ts t):=List.Pairwise.filter _ hu
theorem Ef {ts:List Tp} {t:Tp}:gH ts t=true ↔ t ∈ ts:=by
 unfold gH;rw [SY];constructor
 ·rintro ⟨x,hx,e⟩; rw [← lX.1 e]; exact hx
 intro h; exact ⟨t,h,lX.2 rfl⟩
open Go.ChangeAt Go.ChangeShapes Go.Maps Go.RowKit Go.WideShapes
set_option maxRecDepth 8000 in
theorem A9 (ad:Option Addr) (cap:Nat) (ts:List Tp) (t:Tp) (w:af) (hlen:ts.length≤1048576) (hs:Sl w ad ts) :
  Calls prog 78 #[.slice ad ts.length cap,.agg #[.string t.a,.string t.b,.string t.r,.string t.c,.string t.d,.string t.s]] w fun e w'=>e=.returned (.bool (gH ts t))∧aa w w':=by
 have HS:=ay hs;clear hs;obtain ⟨W0,hW0⟩:∃ W0,W0=w.alloc (.cells #[.string t.a,.string t.b,.string t.r,.string t.c,.string t.d,.string t.s] 42):=⟨_,rfl⟩;have HB0:=mY hW0;have HX0:Hid (W0.cell? ⟨w.heap.size,0,none⟩=some (.string t.a)∧W0.cell? ⟨w.heap.size,1,none⟩=some (.string t.b)∧W0.cell? ⟨w.heap.size,2,none⟩=some (.string t.r)∧W0.cell? ⟨w.heap.size,3,none⟩=some (.string t.c)∧W0.cell? ⟨w.heap.size,4,none⟩=some (.string t.d)∧W0.cell? ⟨w.heap.size,5,none⟩=some (.string t.s)∧w.heap.size < W0.heap.size):=by show _∧_; rw [hW0]; refine ⟨?_,?_,?_,?_,?_,?_,?_⟩ <;> simp
 go_enter func78,ntmps78;go_wp2;rw [← hW0];clear hW0;go_loopw [5] (fun i wr=>∃ k:Nat,k≤ts.length∧i=.int .i64 k∧Hid (gH (ts.drop k) t=gH ts t)∧Hid (aa W0 wr)) (fun i _=>ts.length - (intOf i).toNat);case atStart=>exact ⟨0,Sm _,rfl,rfl,Si _ _⟩
 obtain ⟨k,hk,rfl,HP,HB⟩:=hrel;have Tt:Hid (aa w wr):=HB0.out.trans (HB.out.mono HB0.out.size);by_cases hlt:k < ts.length
 ·rcases HS.out.below Tt.out with hnil | ⟨b,off,rfl,hb,hr⟩
  ·rw [hnil] at hlt; simp at hlt
  obtain ⟨t0,t1,t2,t3,t4,t5⟩:=hr k hlt;have x0:=mK HB.out HX0.out.2.2.2.2.2.2 HX0.out.1;have x1:=mK HB.out HX0.out.2.2.2.2.2.2 HX0.out.2.1;have x2:=mK HB.out HX0.out.2.2.2.2.2.2 HX0.out.2.2.1;have x3:=mK HB.out HX0.out.2.2.2.2.2.2 HX0.out.2.2.2.1;have x4:=mK HB.out HX0.out.2.2.2.2.2.2 HX0.out.2.2.2.2.1;have x5:=mK HB.out HX0.out.2.2.2.2.2.2 HX0.out.2.2.2.2.2.1;have hk1:=bH k;have hk2:(k:Int) < (ts.length:Int):=by omega
  have HD:Hid (gH ts t=(lG ts[k] t || gH (ts.drop (k + 1)) t)):=by show _=_; rw [← HP.out]; exact JS hlt
  clear hr;cases hq:lG ts[k] t;case true=>
   have heq:=Cs ts[k] t hq;have HN:Hid (gH ts t=true):=by show _=_; rw [HD.out,hq]; rfl
   clear hq;go_wp2_with fail;go_region_held3 (fun w'=>w'.cell? ⟨b,off + k * 6,none⟩=some (.string ts[k].a)∧w'.cell? ⟨b,off + k * 6 + 1,none⟩=some (.string ts[k].b)∧w'.cell? ⟨b,off + k * 6 + 2,none⟩=some (.string ts[k].r)∧w'.cell? ⟨b,off + k * 6 + 3,none⟩=some (.string ts[k].c)∧w'.cell? ⟨b,off + k * 6 + 4,none⟩=some (.string ts[k].d)∧w'.cell? ⟨b,off + k * 6 + 5,none⟩=some (.string ts[k].s)∧w'.cell? ⟨w.heap.size,0,none⟩=some (.string t.a)∧w'.cell? ⟨w.heap.size,1,none⟩=some (.string t.b)∧w'.cell? ⟨w.heap.size,2,none⟩=some (.string t.r)∧w'.cell? ⟨w.heap.size,3,none⟩=some (.string t.c)∧w'.cell? ⟨w.heap.size,4,none⟩=some (.string t.d)∧w'.cell? ⟨w.heap.size,5,none⟩=some (.string t.s)∧aa wr w') (first | assumption | exact ⟨t0,t1,t2,t3,t4,t5,x0,x1,x2,x3,x4,x5,(Si _ _).drew⟩) (fail);rename_i hH;have HG:Hid (aa wr _):=hH.2.2.2.2.2.2.2.2.2.2.2.2;clear hH t0 t1 t2 t3 t4 t5 x0 x1 x2 x3 x4 x5 heq;go_wp2;go_ret;exact ⟨by rw [HN.out]; rfl,Tt.out.trans (HG.out.mono Tt.out.size)⟩
  have heq:=Cs ts[k] t hq;have Tu:Hid (gH (ts.drop (k + 1)) t=gH ts t):=by show _=_; rw [HD.out,hq]; rfl
  clear hq;go_wp2_with fail;go_region_held3 (fun w'=>w'.cell? ⟨b,off + k * 6,none⟩=some (.string ts[k].a)∧w'.cell? ⟨b,off + k * 6 + 1,none⟩=some (.string ts[k].b)∧w'.cell? ⟨b,off + k * 6 + 2,none⟩=some (.string ts[k].r)∧w'.cell? ⟨b,off + k * 6 + 3,none⟩=some (.string ts[k].c)∧w'.cell? ⟨b,off + k * 6 + 4,none⟩=some (.string ts[k].d)∧w'.cell? ⟨b,off + k * 6 + 5,none⟩=some (.string ts[k].s)∧w'.cell? ⟨w.heap.size,0,none⟩=some (.string t.a)∧w'.cell? ⟨w.heap.size,1,none⟩=some (.string t.b)∧w'.cell? ⟨w.heap.size,2,none⟩=some (.string t.r)∧w'.cell? ⟨w.heap.size,3,none⟩=some (.string t.c)∧w'.cell? ⟨w.heap.size,4,none⟩=some (.string t.d)∧w'.cell? ⟨w.heap.size,5,none⟩=some (.string t.s)∧aa wr w') (first | assumption | exact ⟨t0,t1,t2,t3,t4,t5,x0,x1,x2,x3,x4,x5,(Si _ _).drew⟩) (fail);rename_i hH;have HG:Hid (aa W0 _):=HB.out.trans (hH.2.2.2.2.2.2.2.2.2.2.2.2.mono HB.out.size);clear hH t0 t1 t2 t3 t4 t5 x0 x1 x2 x3 x4 x5 heq;go_wp2;go_roundw;case rel=>exact ⟨k + 1,by omega,by go_num,Tu,HG⟩
  simp [intOf] <;> omega
 have HN:Hid (gH ts t=false):=by show _=_; rw [← HP.out,List.drop_of_length_le (by omega)]; rfl
 go_wp2;go_ret;exact ⟨by rw [HN.out]; rfl,Tt.out⟩
theorem ji {w:af} {b off:Nat} {ts:List Tp} (h:dF w b off ts):∀ j u,(aD ts)[j]?=some u→w.cell? ((⟨b,off,none⟩:Addr).add j)=some u:=by
 intro j u hu;have hl:=eT ts;have hj:j < ts.length * 6:=by
  rcases Nat.lt_or_ge j (aD ts).length with h | h
  ·omega
  rw [List.getElem?_eq_none h] at hu; cases hu
 have hi:j / 6 < ts.length:=by omega
 have hr:j % 6 < 6:=Nat.mod_lt _ (by omega);have e:j=j / 6 * 6 + j % 6:=by omega
 rw [e,rU ts _ hi _ hr] at hu;rw [show ((⟨b,off,none⟩:Addr).add j)=⟨b,off + j / 6 * 6 + j % 6,none⟩ by rw [show (⟨b,off,none⟩:Addr).add j=⟨b,off + j,none⟩ by simp [Addr.add]]; congr 1; omega];obtain ⟨c0,c1,c2,c3,c4,c5⟩:=h (j / 6) hi;have h6:j % 6=0 ∨ j % 6=1 ∨ j % 6=2 ∨ j % 6=3 ∨ j % 6=4 ∨ j % 6=5:=by omega
 rcases h6 with e6 | e6 | e6 | e6 | e6 | e6 <;> rw [e6] at hu ⊢ <;> simp only [Tp.row,List.getElem?_cons_zero,List.getElem?_cons_succ] at hu <;> rw [← hu] <;> assumption
theorem Ba {w:af} {b off:Nat} {ts:List Tp} (h:dF w b off ts) (k:Nat):dF w b off (ts.take k):=fun i hi=>by
 have:=h i (by simp at hi; omega);simpa using this
theorem JZ {w:af} {b off:Nat} {ts:List Tp} (h:dF w b off ts) (k:Nat):dF w b (off + k * 6) (ts.drop k):=fun i hi=>by
 have:=h (k + i) (by simp at hi; omega);simp only [List.getElem_drop];rw [show off + k * 6 + i * 6=off + (k + i) * 6 by omega];exact this
theorem jk (ts:List Tp):∀ u ∈ aD ts,u.oneCell'=true:=by
 intro u hu;unfold aD at hu;obtain ⟨t,-,h⟩:=SB.1 hu;exact rV t u h
theorem nD (xs ys:List Tp):aD (xs ++ ys)=aD xs ++ aD ys:=by simp [aD]
def qj (w:World) (g:Nat) (t:Tp):Prop:=w.cell? ⟨g,0,none⟩=some (.string t.a)∧w.cell? ⟨g,1,none⟩=some (.string t.b)∧w.cell? ⟨g,2,none⟩=some (.string t.r)∧w.cell? ⟨g,3,none⟩=some (.string t.c)∧w.cell? ⟨g,4,none⟩=some (.string t.d)∧w.cell? ⟨g,5,none⟩=some (.string t.s)∧g < w.heap.size
theorem qj.below {w w':af} {g:Nat} {t:Tp} (h:qj w g t) (hb:aa w w'):qj w' g t :=
 ⟨mK hb h.2.2.2.2.2.2 h.1,mK hb h.2.2.2.2.2.2 h.2.1,mK hb h.2.2.2.2.2.2 h.2.2.1,mK hb h.2.2.2.2.2.2 h.2.2.2.1,mK hb h.2.2.2.2.2.2 h.2.2.2.2.1,mK hb h.2.2.2.2.2.2 h.2.2.2.2.2.1,Sg h.2.2.2.2.2.2 hb.size⟩
theorem CE (w:af) (t:Tp) (T:TypeId):qj (w.alloc (.cells #[.string t.a,.string t.b,.string t.r,.string t.c,.string t.d,.string t.s] T)) w.heap.size t:=by
 refine ⟨?_,?_,?_,?_,?_,?_,?_⟩ <;> simp
theorem qj.grown {w w':af} {g:Nat} {t:Tp} {row:Option Nat} (h:qj w g t) (hg:w.grownBy w' row) (hne:some g ≠ row):qj w' g t :=
 ⟨hg.cell h.1 hne,hg.cell h.2.1 hne,hg.cell h.2.2.1 hne,hg.cell h.2.2.2.1 hne,hg.cell h.2.2.2.2.1 hne,hg.cell h.2.2.2.2.2.1 hne,Sg h.2.2.2.2.2.2 hg.size⟩
theorem nE {w w':af} {b off:Nat} {ts:List Tp} {row:Option Nat} (h:dF w b off ts) (hg:w.grownBy w' row) (_hb:b < w.heap.size) (hne:some b ≠ row):dF w' b off ts:=fun i hi=>by
 obtain ⟨c0,c1,c2,c3,c4,c5⟩:=h i hi;exact ⟨hg.cell c0 hne,hg.cell c1 hne,hg.cell c2 hne,hg.cell c3 hne,hg.cell c4 hne,hg.cell c5 hne⟩
theorem J3 {ts:List Tp} {k:Nat} (h:ts.length≤k) (w:af) (ad:Addr):∀ j u,(aD (ts.drop k))[j]?=some u→w.cell? (ad.add j)=some u:=fun j u hu=>by
 rw [List.drop_of_length_le h] at hu;simp [aD] at hu
theorem j5 {W:af} {base base':Nat} {e:TypeId} {size:Nat} {v:Value} {k:Nat} {xs:List Value} (h:W.ownsRow base e size v k xs) (hb:base'≤base):W.ownsRow base' e size v k xs:=by
 refine ⟨h.1,?_⟩;rcases h.2 with hn | ⟨g,cap,cur,hv,hbg,rest⟩
 ·exact .inl hn
 exact .inr ⟨g,cap,cur,hv,Sq hb hbg,rest⟩
theorem aX {p:Prop} (h:p):Hid p:=h
theorem MG {w:af} {g:Nat} {t:Tp} (h0:w.cell? ⟨g,0,none⟩=some (.string t.a)) (h1:w.cell? ⟨g,1,none⟩=some (.string t.b)) (h2:w.cell? ⟨g,2,none⟩=some (.string t.r)) (h3:w.cell? ⟨g,3,none⟩=some (.string t.c)) (h4:w.cell? ⟨g,4,none⟩=some (.string t.d)) (h5:w.cell? ⟨g,5,none⟩=some (.string t.s)) (hl:g < w.heap.size):qj w g t:=⟨h0,h1,h2,h3,h4,h5,hl⟩
theorem Jd {w W w':af} {b n o:Nat} {x0 x1 x2 x3 x4 x5 y0 y1 y2 y3 y4 y5:Value} (h:W.cell? ⟨b,o,none⟩=some x0∧W.cell? ⟨b,o + 1,none⟩=some x1∧W.cell? ⟨b,o + 2,none⟩=some x2∧W.cell? ⟨b,o + 3,none⟩=some x3∧W.cell? ⟨b,o + 4,none⟩=some x4∧W.cell? ⟨b,o + 5,none⟩=some x5∧W.cell? ⟨n,0,none⟩=some y0∧W.cell? ⟨n,1,none⟩=some y1∧W.cell? ⟨n,2,none⟩=some y2∧W.cell? ⟨n,3,none⟩=some y3∧W.cell? ⟨n,4,none⟩=some y4∧W.cell? ⟨n,5,none⟩=some y5∧b < W.heap.size∧n < W.heap.size∧Below n w W) (hb:aa W w') :
  w'.cell? ⟨b,o,none⟩=some x0∧w'.cell? ⟨b,o + 1,none⟩=some x1∧w'.cell? ⟨b,o + 2,none⟩=some x2∧w'.cell? ⟨b,o + 3,none⟩=some x3∧w'.cell? ⟨b,o + 4,none⟩=some x4∧w'.cell? ⟨b,o + 5,none⟩=some x5∧w'.cell? ⟨n,0,none⟩=some y0∧w'.cell? ⟨n,1,none⟩=some y1∧w'.cell? ⟨n,2,none⟩=some y2∧w'.cell? ⟨n,3,none⟩=some y3∧w'.cell? ⟨n,4,none⟩=some y4∧w'.cell? ⟨n,5,none⟩=some y5∧b < w'.heap.size∧n < w'.heap.size∧Below n w w':=by
 obtain ⟨h0,h1,h2,h3,h4,h5,g0,g1,g2,g3,g4,g5,hB,hN,hw⟩:=h;exact ⟨mK hb hB h0,mK hb hB h1,mK hb hB h2,mK hb hB h3,mK hb hB h4,mK hb hB h5,mK hb hN g0,mK hb hN g1,mK hb hN g2,mK hb hN g3,mK hb hN g4,mK hb hN g5,Sg hB hb.size,Sg hN hb.size,hw.trans (hb.mono (Tf hN))⟩
theorem MH {p:Prop} (h:p):Hid p:=h
set_option maxRecDepth 8000 in
theorem Gz (ad:Option Addr) (cap:Nat) (ts:List Tp) (t:Tp) (w:af) (hlen:ts.length≤1048576) (hs:Sl w ad ts) :
  Calls prog 79 #[.slice ad ts.length cap,.agg #[.string t.a,.string t.b,.string t.r,.string t.c,.string t.d,.string t.s]] w fun e w'=>∃ (g c:Nat),e=.returned (.slice (some ⟨g,0,none⟩) (dL ts t).length c)∧w'.ownsRow (w.heap.size + 1) 42 6 (.slice (some ⟨g,0,none⟩) (dL ts t).length c) (dL ts t).length (aD (dL ts t))∧aa w w':=by
 obtain ⟨iT,hiT,zT0,zT1,zT2⟩:=info_parts (P:=prog) (e:=42) (z:=.agg #[.string ⟨#[]⟩,.string ⟨#[]⟩,.string ⟨#[]⟩,.string ⟨#[]⟩,.string ⟨#[]⟩,.string ⟨#[]⟩]) (size:=6) (bytes:=96) (by kernel_rfl);have HIT:Hid (prog.info? 42=some iT∧iT.zero=some (.agg #[.string ⟨#[]⟩,.string ⟨#[]⟩,.string ⟨#[]⟩,.string ⟨#[]⟩,.string ⟨#[]⟩,.string ⟨#[]⟩])∧iT.size=6∧iT.bytes=96):=⟨hiT,zT0,zT1,zT2⟩;have HS:=ay hs;clear hs hiT zT0 zT1 zT2;obtain ⟨W0,hW0⟩:∃ W0,W0=w.alloc (.cells #[.string t.a,.string t.b,.string t.r,.string t.c,.string t.d,.string t.s] 42):=⟨_,rfl⟩;have HB0:=mY hW0;have HX0:Hid (W0.cell? ⟨w.heap.size,0,none⟩=some (.string t.a)∧W0.cell? ⟨w.heap.size,1,none⟩=some (.string t.b)∧W0.cell? ⟨w.heap.size,2,none⟩=some (.string t.r)∧W0.cell? ⟨w.heap.size,3,none⟩=some (.string t.c)∧W0.cell? ⟨w.heap.size,4,none⟩=some (.string t.d)∧W0.cell? ⟨w.heap.size,5,none⟩=some (.string t.s)∧w.heap.size < W0.heap.size):=by show _∧_; rw [hW0]; refine ⟨?_,?_,?_,?_,?_,?_,?_⟩ <;> simp
 have HS0:Hid (W0.heap.size=w.heap.size + 1):=by show _=_; rw [hW0]; simp
 have TG:Hid ((W0.alloc (.cells #[] 42)).ownsRow (w.heap.size + 1) 42 6 (.slice (some ⟨w.heap.size + 1,0,none⟩) 0 0) 0 (aD (dL (ts.take 0) t))):=by
  show World.ownsRow _ _ _ _ _ _ _;rw [← HS0.out];exact World.ownsRow_lit W0 #[] 0 (Sj _) (by unfold maxLen; omega) (by simp)
 have HB1:Hid (aa W0 (W0.alloc (.cells #[] 42))):=(Si _ _).alloc (Sj _) _;go_enter func79,ntmps79;go_wp2;rw [← hW0];clear hW0;go_loopw [5,6] (fun v i wr=>∃ k:Nat,k≤ts.length∧i=.int .i64 k∧Hid (wr.ownsRow (w.heap.size + 1) 42 6 v (dL (ts.take k) t).length (aD (dL (ts.take k) t)))∧Hid (aa w wr)∧Hid (wr.cell? ⟨w.heap.size,0,none⟩=some (.string t.a)∧wr.cell? ⟨w.heap.size,1,none⟩=some (.string t.b)∧wr.cell? ⟨w.heap.size,2,none⟩=some (.string t.r)∧wr.cell? ⟨w.heap.size,3,none⟩=some (.string t.c)∧wr.cell? ⟨w.heap.size,4,none⟩=some (.string t.d)∧wr.cell? ⟨w.heap.size,5,none⟩=some (.string t.s)∧w.heap.size < wr.heap.size)∧Hid (∃ g c m,v=.slice (some ⟨g,0,none⟩) m c)) (fun _ i _=>ts.length - (intOf i).toNat);case atStart=>exact ⟨0,Sm _,rfl,TG,HB0.out.trans (HB1.out.mono HB0.out.size),⟨mK HB1.out HX0.out.2.2.2.2.2.2 HX0.out.1,mK HB1.out HX0.out.2.2.2.2.2.2 HX0.out.2.1,mK HB1.out HX0.out.2.2.2.2.2.2 HX0.out.2.2.1,mK HB1.out HX0.out.2.2.2.2.2.2 HX0.out.2.2.2.1,mK HB1.out HX0.out.2.2.2.2.2.2 HX0.out.2.2.2.2.1,mK HB1.out HX0.out.2.2.2.2.2.2 HX0.out.2.2.2.2.2.1,Sg HX0.out.2.2.2.2.2.2 HB1.out.size⟩,⟨_,_,_,rfl⟩⟩
 clear TG HB1;obtain ⟨k,hk,rfl,HOW,Tt,HXB,HSV⟩:=hrel;by_cases hlt:k < ts.length
 ·rcases HS.out.below Tt.out with hnil | ⟨b,off,rfl,hb,hr⟩
  ·rw [hnil] at hlt; simp at hlt
  obtain ⟨t0,t1,t2,t3,t4,t5⟩:=hr k hlt;obtain ⟨x0,x1,x2,x3,x4,x5,xl⟩:=HXB.out;have hk1:=bH k;have hk2:(k:Int) < (ts.length:Int):=by omega
  have hdl:=JU ts t k;have HDT:=Gs (t:=t) hlt;clear hr;cases hq:lG ts[k] t;case true=>
   have heq:=Mo ts[k] t (v:=false) (by rw [hq]; rfl);have HE:Hid (dL (ts.take (k + 1)) t=dL (ts.take k) t):=by show _=_; rw [HDT,hq]; simp
   clear hq HDT;go_wp2_with fail;go_region_held3 (fun w'=>w'.cell? ⟨b,off + k * 6,none⟩=some (.string ts[k].a)∧w'.cell? ⟨b,off + k * 6 + 1,none⟩=some (.string ts[k].b)∧w'.cell? ⟨b,off + k * 6 + 2,none⟩=some (.string ts[k].r)∧w'.cell? ⟨b,off + k * 6 + 3,none⟩=some (.string ts[k].c)∧w'.cell? ⟨b,off + k * 6 + 4,none⟩=some (.string ts[k].d)∧w'.cell? ⟨b,off + k * 6 + 5,none⟩=some (.string ts[k].s)∧w'.cell? ⟨w.heap.size,0,none⟩=some (.string t.a)∧w'.cell? ⟨w.heap.size,1,none⟩=some (.string t.b)∧w'.cell? ⟨w.heap.size,2,none⟩=some (.string t.r)∧w'.cell? ⟨w.heap.size,3,none⟩=some (.string t.c)∧w'.cell? ⟨w.heap.size,4,none⟩=some (.string t.d)∧w'.cell? ⟨w.heap.size,5,none⟩=some (.string t.s)∧aa wr w') (first | assumption | exact ⟨t0,t1,t2,t3,t4,t5,x0,x1,x2,x3,x4,x5,(Si _ _).drew⟩) (fail);clear t0 t1 t2 t3 t4 t5 heq;have Tj:Hid (wr.drew.ownsRow (w.heap.size + 1) 42 6 u5 (dL (ts.take (k + 1)) t).length (aD (dL (ts.take (k + 1)) t))):=by
    show World.ownsRow _ _ _ _ _ _ _;rw [HE.out]; exact HOW.out.drew
   have HB2:Hid (aa w wr.drew):=Tt.out.drew;have Ud:Hid (wr.drew.cell? ⟨w.heap.size,0,none⟩=some (.string t.a)∧wr.drew.cell? ⟨w.heap.size,1,none⟩=some (.string t.b)∧wr.drew.cell? ⟨w.heap.size,2,none⟩=some (.string t.r)∧wr.drew.cell? ⟨w.heap.size,3,none⟩=some (.string t.c)∧wr.drew.cell? ⟨w.heap.size,4,none⟩=some (.string t.d)∧wr.drew.cell? ⟨w.heap.size,5,none⟩=some (.string t.s)∧w.heap.size < wr.drew.heap.size):=HXB.out;rename_i hH;clear hH x0 x1 x2 x3 x4 x5;go_wp2;go_roundw;case rel=>exact ⟨k + 1,by omega,by go_num,Tj,HB2,Ud,HSV⟩
   simp [intOf] <;> omega
  have heq:=Mo ts[k] t (v:=true) (by rw [hq]; rfl);have HE:Hid (dL (ts.take (k + 1)) t=dL (ts.take k) t ++ [ts[k]]):=by show _=_; rw [HDT,hq]; simp
  clear hq HDT;go_wp2_with fail;go_region_held3 (fun w'=>w'.cell? ⟨b,off + k * 6,none⟩=some (.string ts[k].a)∧w'.cell? ⟨b,off + k * 6 + 1,none⟩=some (.string ts[k].b)∧w'.cell? ⟨b,off + k * 6 + 2,none⟩=some (.string ts[k].r)∧w'.cell? ⟨b,off + k * 6 + 3,none⟩=some (.string ts[k].c)∧w'.cell? ⟨b,off + k * 6 + 4,none⟩=some (.string ts[k].d)∧w'.cell? ⟨b,off + k * 6 + 5,none⟩=some (.string ts[k].s)∧w'.cell? ⟨w.heap.size,0,none⟩=some (.string t.a)∧w'.cell? ⟨w.heap.size,1,none⟩=some (.string t.b)∧w'.cell? ⟨w.heap.size,2,none⟩=some (.string t.r)∧w'.cell? ⟨w.heap.size,3,none⟩=some (.string t.c)∧w'.cell? ⟨w.heap.size,4,none⟩=some (.string t.d)∧w'.cell? ⟨w.heap.size,5,none⟩=some (.string t.s)∧aa wr w') (first | assumption | exact ⟨t0,t1,t2,t3,t4,t5,x0,x1,x2,x3,x4,x5,(Si _ _).drew⟩) (fail);clear heq x0 x1 x2 x3 x4 x5;rename_i hH;clear hH;obtain ⟨wd,hwd⟩:∃ wd,wd=wr.drew:=⟨_,rfl⟩;have HOD:Hid (wd.ownsRow (w.heap.size + 1) 42 6 u5 (dL (ts.take k) t).length (aD (dL (ts.take k) t))):=by rw [hwd]; exact HOW.out.drew
  have HBD:Hid (aa w wd):=by rw [hwd]; exact Tt.out.drew
  have Xa:Hid (wd.cell? ⟨w.heap.size,0,none⟩=some (.string t.a)∧wd.cell? ⟨w.heap.size,1,none⟩=some (.string t.b)∧wd.cell? ⟨w.heap.size,2,none⟩=some (.string t.r)∧wd.cell? ⟨w.heap.size,3,none⟩=some (.string t.c)∧wd.cell? ⟨w.heap.size,4,none⟩=some (.string t.d)∧wd.cell? ⟨w.heap.size,5,none⟩=some (.string t.s)∧w.heap.size < wd.heap.size):=by rw [hwd]; exact HXB.out
  have HTD:Hid (wd.cell? ⟨b,off + k * 6,none⟩=some (.string ts[k].a)∧wd.cell? ⟨b,off + k * 6 + 1,none⟩=some (.string ts[k].b)∧wd.cell? ⟨b,off + k * 6 + 2,none⟩=some (.string ts[k].r)∧wd.cell? ⟨b,off + k * 6 + 3,none⟩=some (.string ts[k].c)∧wd.cell? ⟨b,off + k * 6 + 4,none⟩=some (.string ts[k].d)∧wd.cell? ⟨b,off + k * 6 + 5,none⟩=some (.string ts[k].s)):=by rw [hwd]; exact ⟨t0,t1,t2,t3,t4,t5⟩
  rw [← hwd];clear hwd t0 t1 t2 t3 t4 t5;obtain ⟨t0,t1,t2,t3,t4,t5⟩:=HTD.out;obtain ⟨W6,VV⟩:∃ W6,W6=wd.alloc (.cells #[.string ts[k].a,.string ts[k].b,.string ts[k].r,.string ts[k].c,.string ts[k].d,.string ts[k].s] 42):=⟨_,rfl⟩;have Ub:Hid (W6.ownsRow (w.heap.size + 1) 42 6 u5 (dL (ts.take k) t).length (aD (dL (ts.take k) t))):=by rw [VV]; exact HOD.out.alloc _
  have WG:Hid (∀ j u,ts[k].row[j]?=some u→W6.cell? ((⟨wd.heap.size,0,none⟩:Addr).add j)=some u):=by rw [VV]; exact tY wd ts[k]
  have TZ:Hid (aa wd W6):=by rw [VV]; exact (Si _ _).alloc (Sj _) _
  have HBD6:Hid (aa w W6):=HBD.out.trans (TZ.out.mono HBD.out.size);go_wp2_with (at_builtin; rw [← VV]; clear VV; refine wpList_append_own_at _ rfl _ _ 38 rfl (w.heap.size + 1) 42 iT (.agg #[.string ⟨#[]⟩,.string ⟨#[]⟩,.string ⟨#[]⟩,.string ⟨#[]⟩,.string ⟨#[]⟩,.string ⟨#[]⟩]) 6 96 underlying38 HIT.out.1 HIT.out.2.1 HIT.out.2.2.1 HIT.out.2.2.2 rfl (by decide) u5 _ (aD (dL (ts.take k) t)) rfl Ub.out ⟨wd.heap.size,0,none⟩ 1 1 ts[k].row rfl rfl WG.out (rV _) (by unfold maxLen; omega) (by omega) (Sq (Nat.succ_le_of_lt Xa.out.2.2.2.2.2.2) TZ.out.size) ?_);intro v7 w7 X8 Vy _ _;have HSV7:Hid (∃ g c m,v7=.slice (some ⟨g,0,none⟩) m c):=by
   rcases X8.2 with ⟨-,h0⟩ | ⟨g,cp,cur,e,-⟩
   ·omega
   exact ⟨g,cp,_,e⟩
  have hne:some w.heap.size ≠ u5.ownBlock:=fun e=>by have:=(HOD.out.lt w.heap.size e.symm).1; omega
  have X9:Hid (aa w w7):=HBD6.out.grown Vy HBD6.out.size (fun g hg=>by have:=(HOD.out.lt g hg).1; omega);have Ya:Hid (w7.ownsRow (w.heap.size + 1) 42 6 v7 (dL (ts.take (k + 1)) t).length (aD (dL (ts.take (k + 1)) t))):=by
   show World.ownsRow _ _ _ _ _ _ _;rw [HE.out,qU,Sr]; exact X8
  have HX7:Hid (w7.cell? ⟨w.heap.size,0,none⟩=some (.string t.a)∧w7.cell? ⟨w.heap.size,1,none⟩=some (.string t.b)∧w7.cell? ⟨w.heap.size,2,none⟩=some (.string t.r)∧w7.cell? ⟨w.heap.size,3,none⟩=some (.string t.c)∧w7.cell? ⟨w.heap.size,4,none⟩=some (.string t.d)∧w7.cell? ⟨w.heap.size,5,none⟩=some (.string t.s)∧w.heap.size < w7.heap.size):=⟨Vy.cell (mK TZ.out Xa.out.2.2.2.2.2.2 Xa.out.1) hne,Vy.cell (mK TZ.out Xa.out.2.2.2.2.2.2 Xa.out.2.1) hne,Vy.cell (mK TZ.out Xa.out.2.2.2.2.2.2 Xa.out.2.2.1) hne,Vy.cell (mK TZ.out Xa.out.2.2.2.2.2.2 Xa.out.2.2.2.1) hne,Vy.cell (mK TZ.out Xa.out.2.2.2.2.2.2 Xa.out.2.2.2.2.1) hne,Vy.cell (mK TZ.out Xa.out.2.2.2.2.2.2 Xa.out.2.2.2.2.2.1) hne,Sg Xa.out.2.2.2.2.2.2 (Sq TZ.out.size Vy.size)⟩;clear X8 Vy t0 t1 t2 t3 t4 t5;go_wp2;go_roundw;case rel=>exact ⟨k + 1,by omega,by go_num,Ya,X9,HX7,HSV7⟩
  simp [intOf] <;> omega
 obtain rfl:k=ts.length:=by omega
 have HE:Hid (ts.take ts.length=ts):=by show _=_; rw [Su]
 have hown:=HOW.out;rw [HE.out] at hown;obtain ⟨g,c,m,hv⟩:=HSV.out;obtain ⟨Ti,cap',hv2,-,-⟩:=Mq hown rfl;rw [hv] at hv2;injection hv2 with _ em _;subst em;subst hv;have HOF:=MH hown;clear hown;go_wp2;go_ret;exact ⟨g,c,rfl,HOF.out,Tt.out⟩
theorem Bb (x y:Al):jy x y=jy y x:=by
 unfold jy;rw [Bool.eq_iff_iff];simp only [Sn,beq_iff_eq];exact ⟨fun h=>⟨h.1.symm,h.2.symm⟩,fun h=>⟨h.1.symm,h.2.symm⟩⟩
theorem J4 (ad:Option Addr) (n cap:Nat) (xs:List Al) (v:Al) (w:af) (hn:n≤xs.length) (hlen:xs.length≤1048576) (hs:gP w ad xs) :
  Calls prog 172 #[.slice ad n cap,.agg #[.string v.t,.string v.s]] w fun e w'=>(∃ r:Int,e=.returned (.int .i64 r)∧decide (0≤r)=dC xs n v)∧aa w w':=by
 obtain ⟨W,hW⟩:∃ W,W=w.alloc (.cells #[.string v.t,.string v.s] 204):=⟨_,rfl⟩;have HB0:Hid (aa w W):=by show Below _ _ _; rw [hW]; exact (Si w.heap.size w).alloc (Sj _) _
 have hz:w.heap.size < W.heap.size:=by rw [hW]; simp
 have b0:W.cell? ⟨w.heap.size,0,none⟩=some (.string v.t):=by rw [hW]; simp
 have b1:W.cell? ⟨w.heap.size,1,none⟩=some (.string v.s):=by rw [hW]; simp
 have HS:=ay (hs.below HB0.out);clear hs;go_enter func172,ntmps172;go_wp2_with fail;rw [← hW];clear hW;go_loopw [8] (fun i wr=>∃ k:Nat,k≤n∧i=.int .i64 k∧Hid (dC xs k v=false)∧aa W wr) (fun i _=>n - (intOf i).toNat);case atStart=>exact ⟨0,Sm _,rfl,qL _ _,Si _ _⟩
 obtain ⟨k,hk,rfl,HP,hB⟩:=hrel;have a0:=kept hB hz b0;have a1:=kept hB hz b1;by_cases hlt:k < n
 ·have Zx:k < xs.length:=by omega
  rcases HS.out.below hB with rfl | ⟨b,off,rfl,hb,hr⟩
  ·simp at Zx
  obtain ⟨t0,t1⟩:=hr k Zx;have hk1:=bH k;have hk2:(k:Int) < (n:Int):=by omega
  clear hr;cases hq:jy v xs[k];case true=>
   have HE:=Cv v xs[k] hq;have HN:Hid (dC xs n v=true):=AY hlt Zx (by rw [Bb]; exact hq);go_wp2_with fail;go_quiet (fail);go_wp2;go_ret;exact ⟨⟨_,rfl,by rw [HN.out]; simp⟩,HB0.out.trans (below_drewN (hB.mono HB0.out.size) _)⟩
  have HE:=Cv v xs[k] hq;have Tu:Hid (dC xs (k + 1) v=false):=by show _=_; rw [qK _ _ _ Zx,HP.out,Bb,hq]; rfl
  go_wp2_with fail;go_quiet (fail);go_wp2;go_roundw;case rel=>exact ⟨k + 1,by omega,by go_num,Tu,below_drewN hB _⟩
  simp [intOf] <;> omega
 obtain rfl:k=n:=by omega
 go_wp2;go_ret;exact ⟨⟨-1,rfl,by rw [HP.out]; rfl⟩,HB0.out.trans (hB.mono HB0.out.size)⟩
theorem r9 (ad:Option Addr) (n cap:Nat) (xs:List Al) (v:Al) (w:af) (hn:n≤xs.length) (hlen:xs.length≤1048576) (hs:gP w ad xs) :
  Calls prog 130 #[.slice ad n cap,.agg #[.string v.t,.string v.s]] w fun e w'=>e=.returned (.bool (dC xs n v))∧aa w w':=by
 have HB0:Hid (aa w (w.alloc (.cells #[.string v.t,.string v.s] 204))):=(Si w.heap.size w).alloc (Sj _) _;have HS:=ay hs;clear hs;go_enter func130,ntmps130;go_wp2_with fail;refine (J4 ad n cap xs v _ hn hlen (HS.out.below HB0.out)).mono ?_;rintro e w1 ⟨⟨r,rfl,hr⟩,hb1⟩;have HR:Hid (decide (0≤r)=dC xs n v):=hr;have HB1:=jb HB0 hb1;clear hr hb1;go_wp2;go_ret;exact ⟨ah HR.out,HB1.out⟩
set_option maxRecDepth 8000 in
theorem CF (r:ER) (w:af) (hf:r.e.fits) (h1:r.e.kind ≠ 1) :
  Calls prog 210 #[r.val] w fun e w'=>e=.returned (.bool (az r.e))∧aa w w':=by
 obtain ⟨⟨kind,allow,over,name,kids⟩,adA,capA,adK,capK⟩:=r;obtain ⟨f1,f2,f3,f4,f5⟩:=hf;simp only at f1 f2 f3 f4 f5 h1;simp only [ER.val];unfold maxLen at f4 f5;by_cases h2:kind=2
 ·subst h2;clear h1;go_enter func210,ntmps210;go_wp2_with fail;go_quiet (fail);go_wp2_with (go_at_call 162; refine (aL _ _ (by assumption)).mono ?_; rintro e w' ⟨rfl,rfl⟩)
  all_goals go_ret
  all_goals exact ⟨ah (by first | (simp [az, *]; done) | (simp [az, *]; omega) | (simp [az, *]; rw [Bool.eq_iff_iff]; simp; done) | (simp [az, *]; rw [Bool.eq_iff_iff]; simp; omega)),below_drewN ((Si w.heap.size w).alloc (Sj _) _) _⟩
 by_cases h3:kind=3
 ·subst h3;clear h1;go_enter func210,ntmps210;go_wp2_with fail;go_quiet (fail);go_wp2_with (go_at_call 162; refine (aL _ _ (by assumption)).mono ?_; rintro e w' ⟨rfl,rfl⟩)
  all_goals go_ret
  all_goals exact ⟨ah (by first | (simp [az, *]; done) | (simp [az, *]; omega) | (simp [az, *]; rw [Bool.eq_iff_iff]; simp; done) | (simp [az, *]; rw [Bool.eq_iff_iff]; simp; omega)),below_drewN ((Si w.heap.size w).alloc (Sj _) _) _⟩
 by_cases h4:kind=4
 ·subst h4;clear h1;go_enter func210,ntmps210;go_wp2_with fail;go_quiet (fail);go_wp2_with (go_at_call 162; refine (aL _ _ (by assumption)).mono ?_; rintro e w' ⟨rfl,rfl⟩)
  all_goals go_ret
  all_goals exact ⟨ah (by first | (simp [az, *]; done) | (simp [az, *]; omega) | (simp [az, *]; rw [Bool.eq_iff_iff]; simp; done) | (simp [az, *]; rw [Bool.eq_iff_iff]; simp; omega)),below_drewN ((Si w.heap.size w).alloc (Sj _) _) _⟩
 by_cases h5:kind=5
 ·subst h5;clear h1;go_enter func210,ntmps210;go_wp2_with fail;go_quiet (fail);go_wp2_with (go_at_call 162; refine (aL _ _ (by assumption)).mono ?_; rintro e w' ⟨rfl,rfl⟩)
  all_goals go_ret
  all_goals exact ⟨ah (by first | (simp [az, *]; done) | (simp [az, *]; omega) | (simp [az, *]; rw [Bool.eq_iff_iff]; simp; done) | (simp [az, *]; rw [Bool.eq_iff_iff]; simp; omega)),below_drewN ((Si w.heap.size w).alloc (Sj _) _) _⟩
 by_cases h6:kind=6
 ·subst h6;clear h1;go_enter func210,ntmps210;go_wp2_with fail;go_quiet (fail);go_wp2_with (go_at_call 162; refine (aL _ _ (by assumption)).mono ?_; rintro e w' ⟨rfl,rfl⟩)
  all_goals go_ret
  all_goals exact ⟨ah (by first | (simp [az, *]; done) | (simp [az, *]; omega) | (simp [az, *]; rw [Bool.eq_iff_iff]; simp; done) | (simp [az, *]; rw [Bool.eq_iff_iff]; simp; omega)),below_drewN ((Si w.heap.size w).alloc (Sj _) _) _⟩
 go_enter func210,ntmps210;go_wp2_with fail;go_quiet (fail);go_wp2_with (go_at_call 162; refine (aL _ _ (by assumption)).mono ?_; rintro e w' ⟨rfl,rfl⟩)
 all_goals go_ret
 all_goals exact ⟨ah (by first | (simp [az, *]; done) | (simp [az, *]; omega) | (simp [az, *]; rw [Bool.eq_iff_iff]; simp; done) | (simp [az, *]; rw [Bool.eq_iff_iff]; simp; omega)),below_drewN ((Si w.heap.size w).alloc (Sj _) _) _⟩
set_option maxRecDepth 100000 in
theorem zV (ad:Option Addr) (cap:Nat) (rs:List ER) (w:af) (hlen:rs.length≤1048576) (hs:fQ w ad rs) (hl:∀ r ∈ rs,r.e.light) (hk:∀ r ∈ rs,dQ rs.length r.e.kids) :
  Calls prog 168 #[.slice ad rs.length cap] w fun e w'=>e=.returned (.slice (some ⟨w.heap.size,0,none⟩) rs.length rs.length)∧Fil w w' w.heap.size rs.length (bools (ed (ai rs))):=by
 have HS:=ay hs;have HL:=ay hl;have HK:=ay hk;clear hs hl hk;obtain ⟨inf,hi,hz0,hz1,hz2⟩:=info_parts ym;go_enter func168,ntmps168;go_wp2_with (at_make; refine wpList_make_full _ rfl _ _ 263 rfl w.heap.size 4 inf (.bool false) 1 underlying263 hi hz0 hz1 .i64 .i64 _ _ rs.length rfl rfl rfl rfl (by rw [hz2]; omega) (by unfold maxLen; omega) (Sj _) ?_; intro w0 hown0 Tg);have HF0:Hid (Fil w w0 w.heap.size rs.length (bools (List.replicate rs.length false))):=by
  have:=A7 (v:=.bool false) hown0 Tg;show Fil _ _ _ _ _;simpa [bools] using this
 clear hown0 Tg hi hz0 hz1 hz2;go_loopw [4] (fun i wr=>∃ (m:Nat) (out:List Bool),m≤rs.length∧i=.int .i64 ((m:Int) - 1)∧out.length=rs.length∧Hid (gm (ai rs) m out=ed (ai rs))∧Hid (Fil w wr w.heap.size rs.length (bools out))) (fun i _=>(intOf i + 1).toNat);case atStart=>exact ⟨rs.length,List.replicate rs.length false,Sj _,by go_num,by simp,(by show _=_; unfold ed; rw [aS]),HF0⟩
 obtain ⟨m,out,hm,rfl,hol,HN,HF⟩:=hrel;by_cases hm0:0 < m
 ·obtain ⟨m,rfl⟩:∃ m',m=m' + 1:=⟨m - 1,by omega⟩;have hmi:(((m + 1:Nat):Int) - 1)=(m:Int):=by omega
  rw [hmi];have hlt:m < rs.length:=by omega
  rcases HS.out.below HF.out.below with rfl | ⟨b,off,rfl,hb,hr,hok⟩
  ·simp at hlt
  obtain ⟨t0,t1,t2,t3,t4⟩:=hr m hlt;have TS:Hid (rs[m].ok _):=hok rs[m] (Sd hlt);have lg:=(HL.out rs[m] (Sd hlt)).2;have HKI:Hid (dQ rs.length rs[m].e.kids):=HK.out rs[m] (Sd hlt);have hk1:=bH m;have hk2:(m:Int) < (rs.length:Int):=by omega
  have hbw:b < w.heap.size:=by
   rcases HS.out with h | ⟨b',off',h1,h2,-⟩
   ·rw [h] at hlt; simp at hlt
   injection h1 with h1; injection h1 with h1; omega
  have HR:Hid (tK wr b (off + m * 5) rs[m]):=hr m hlt;have Vn:Hid (gm (ai rs) m (bY m rs[m].e.kind rs[m].e.kids 0 out)=ed (ai rs)):=by
   show _=_;rw [← HN.out,yn _ _ _ (by rw [aS]; exact hlt)];simp [ai]
  clear hr hok t0 t1 t2 t3;go_wp2_with fail;clear t4;go_loopw [23] (fun i w2=>∃ (j:Nat) (Tn:List Bool),j≤rs[m].e.kids.length∧i=.int .i64 j∧Tn.length=rs.length∧Hid (bY m rs[m].e.kind (rs[m].e.kids.drop j) j Tn=bY m rs[m].e.kind rs[m].e.kids 0 out)∧Hid (Fil w w2 w.heap.size rs.length (bools Tn))) (fun i _=>rs[m].e.kids.length - (intOf i).toNat);case atStart=>exact ⟨0,out,Sm _,rfl,hol,rfl,HF⟩
  obtain ⟨j,Tn,hj,rfl,ho2,HJ,Ug⟩:=hrel;have hE2:fQ wr _ rs:=HS.out.below Ug.out.below;have ht:tK wr b (off + m * 5) rs[m]:=by
   rcases hE2 with h | ⟨b',off',h1,h2,h3,-⟩
   ·exact absurd hlt (by rw [h]; simp)
   injection h1 with h1; injection h1 with h1 h1'; subst h1; subst h1'; exact h3 m hlt
  obtain ⟨t0,t1,t2,t3,t4⟩:=ht;by_cases hjl:j < rs[m].e.kids.length
  ·have hK2:mZ wr rs[m].adK rs[m].e.kids:=(hE2.mem (Sd hlt)).2;rcases hK2 with hnil | ⟨ba,Ve,TU,hba,hra⟩
   ·rw [hnil] at hjl; simp at hjl
   rw [TU];have q0:=hra j hjl;have hj1:=bH j;have hj2:(j:Int) < (rs[m].e.kids.length:Int):=by omega
   obtain ⟨x0,x1⟩:=HKI.out _ (Sd hjl);obtain ⟨x,hx⟩:∃ x:Nat,rs[m].e.kids[j]=(x:Int):=⟨rs[m].e.kids[j].toNat,by omega⟩;rw [hx] at q0 x0 x1;have c0:=Ug.out.done m (by simp [bools]; omega);have fz:=Ug.out.free;obtain ⟨v0,u0⟩:=Option.isSome_iff_exists.mp (Ug.out.there x (by omega));have hbr:b < wr.heap.size:=Sg hbw Ug.out.below.size;obtain ⟨bo,Vw⟩:∃ bo,bo=(bools Tn)[m]'(by simp [bools]; omega):=⟨_,rfl⟩;rw [← Vw] at c0;clear hra TU hE2 t1 t2 t3;have hm2:m < Tn.length:=by omega
   have X0:bo=.bool Tn[m]:=by rw [Vw]; simp [bools]
   have X7:Tn[m]?.getD false=Tn[m]:=by simp [hm2]
   rw [X0] at c0;clear Vw X0;cases hb0:Tn[m];case true=>
    rw [hb0] at c0 X7;have Zu:Hid (Fil w (wr.setCell ⟨w.heap.size,x,none⟩ (.bool true)) w.heap.size rs.length (bools (Tn.set x true))):=by show Fil _ _ _ _ _; rw [ma]; exact Ug.out.set _ (by simp [bools]; omega) (by omega)
    have HJ2:Hid (bY m rs[m].e.kind (rs[m].e.kids.drop (j + 1)) (j + 1) (Tn.set x true)=bY m rs[m].e.kind rs[m].e.kids 0 out):=by
     show _=_;rw [← HJ.out,iP _ _ _ _ _ hjl,hx];simp [*]
    go_wp2;go_roundw;case rel=>exact ⟨j + 1,Tn.set x true,by omega,by go_num,by simp [ho2],HJ2,Zu⟩
    simp [intOf] <;> omega
   rw [hb0] at c0 X7;cases hkb:(rs[m].e.kind == 6);case false=>
    have Zu:Hid (Fil w (wr.setCell ⟨w.heap.size,x,none⟩ (.bool false)) w.heap.size rs.length (bools (Tn.set x false))):=by show Fil _ _ _ _ _; rw [ma]; exact Ug.out.set _ (by simp [bools]; omega) (by omega)
    have HJ2:Hid (bY m rs[m].e.kind (rs[m].e.kids.drop (j + 1)) (j + 1) (Tn.set x false)=bY m rs[m].e.kind rs[m].e.kids 0 out):=by
     show _=_;rw [← HJ.out,iP _ _ _ _ _ hjl,hx];simp [*]
    go_wp2;go_roundw;case rel=>exact ⟨j + 1,Tn.set x false,by omega,by go_num,by simp [ho2],HJ2,Zu⟩
    simp [intOf] <;> omega
   cases hjb:((j:Int) == 1);case true=>
    have hjn:(j == 1)=true:=by simp at hjb ⊢; omega
    have Zu:Hid (Fil w (wr.setCell ⟨w.heap.size,x,none⟩ (.bool true)) w.heap.size rs.length (bools (Tn.set x true))):=by show Fil _ _ _ _ _; rw [ma]; exact Ug.out.set _ (by simp [bools]; omega) (by omega)
    have HJ2:Hid (bY m rs[m].e.kind (rs[m].e.kids.drop (j + 1)) (j + 1) (Tn.set x true)=bY m rs[m].e.kind rs[m].e.kids 0 out):=by
     show _=_;rw [← HJ.out,iP _ _ _ _ _ hjl,hx];simp [*]
    go_wp2;go_roundw;case rel=>exact ⟨j + 1,Tn.set x true,by omega,by go_num,by simp [ho2],HJ2,Zu⟩
    simp [intOf] <;> omega
   have hjn:(j == 1)=false:=by simp at hjb ⊢; omega
   have Zu:Hid (Fil w (wr.setCell ⟨w.heap.size,x,none⟩ (.bool false)) w.heap.size rs.length (bools (Tn.set x false))):=by show Fil _ _ _ _ _; rw [ma]; exact Ug.out.set _ (by simp [bools]; omega) (by omega)
   have HJ2:Hid (bY m rs[m].e.kind (rs[m].e.kids.drop (j + 1)) (j + 1) (Tn.set x false)=bY m rs[m].e.kind rs[m].e.kids 0 out):=by
    show _=_;rw [← HJ.out,iP _ _ _ _ _ hjl,hx];simp [*]
   go_wp2;go_roundw;case rel=>exact ⟨j + 1,Tn.set x false,by omega,by go_num,by simp [ho2],HJ2,Zu⟩
   simp [intOf] <;> omega
  have Vf:Hid (gm (ai rs) m Tn=ed (ai rs)):=by
   show _=_;rw [← Vn.out,← HJ.out,List.drop_of_length_le (by omega)];rfl
  go_wp2;go_roundw;case rel=>exact ⟨m,Tn,by omega,by go_num,ho2,Vf,Ug⟩
  simp [intOf] <;> omega
 obtain rfl:m=0:=by omega
 have U5:Hid (Fil w wr w.heap.size rs.length (bools (ed (ai rs)))):=by
  show Fil _ _ _ _ _;rw [← HN.out];exact HF.out
 go_wp2;go_ret;exact ⟨rfl,U5.out⟩
theorem nG (rs:List ER) (n:Nat) (h:n < rs.length):oH (ai rs) n=rs[n].e.kids:=by simp [oH,ai,h]
theorem GA (b off cap:Nat) (rs:List ER) (hlen:rs.length≤1048576) (hl:∀ r ∈ rs,r.e.light) (n:Nat):∀ (w:af),n < rs.length→b < w.heap.size→(∀ (i:Nat) (h:i < rs.length),tK w b (off + i * 5) rs[i])→(∀ r ∈ rs,r.ok w) →
  Calls prog 151 #[.slice (some ⟨b,off,none⟩) rs.length cap,.int .i64 (n:Int)] w fun e w'=>e=.returned (.int .i64 (aG (ai rs) n))∧aa w w':=by
 induction n using Nat.strongRecOn with
 | ind n ih =>
  intro w hn hb hr hok
  have IH:Hid (∀ m,m < n→∀ (w:World),m < rs.length→b < w.heap.size→(∀ (i:Nat) (h:i < rs.length),tK w b (off + i * 5) rs[i])→(∀ r ∈ rs,r.ok w) →
   Calls prog 151 #[.slice (some ⟨b,off,none⟩) rs.length cap,.int .i64 (m:Int)] w fun e w'=>e=.returned (.int .i64 (aG (ai rs) m))∧aa w w'):=ih
  have HR:Hid (∀ (i:Nat) (h:i < rs.length),tK w b (off + i * 5) rs[i]):=hr;have HO:=ay hok;obtain ⟨t0,t1,t2,t3,t4⟩:=hr n hn;obtain ⟨l1,l2⟩:=hl rs[n] (Sd hn);have hn1:=bH n;have hn2:(n:Int) < (rs.length:Int):=by omega
  have HT:Hid (aG (ai rs) n=dX (dZ (ai rs) n) rs[n].e.kids.reverse ((n:Int) - 1)):=by show _=_; rw [lT,nG rs n hn]
  have HL:=ay hl;clear ih hr hok hl l1;go_enter func151,ntmps151;go_wp2_with fail;go_loopw [5,6] (fun a i wr=>∃ (j:Nat) (x:Int),j≤rs[n].e.kids.length∧i=.int .i64 ((j:Int) - 1)∧a=.int .i64 x∧-1≤x∧x < n∧Hid (dX (dZ (ai rs) n) (rs[n].e.kids.take j).reverse x=aG (ai rs) n)∧aa w wr) (fun _ i _=>(intOf i + 1).toNat);case atStart=>exact ⟨rs[n].e.kids.length,(n:Int) - 1,Sj _,rfl,rfl,by omega,by omega,(by show _=_; rw [Su]; exact HT.out.symm),Si _ _⟩
  obtain ⟨j,x,hj,rfl,rfl,hx0,hx1,HG,hB⟩:=hrel;have s4:=kept hB hb t4;by_cases hj0:0 < j
  ·obtain ⟨j,rfl⟩:∃ i,j=i + 1:=⟨j - 1,by omega⟩;have hjl:j < rs[n].e.kids.length:=by omega
   rcases (HO.out rs[n] (Sd hn)).2.below hB with hnil | ⟨bk,offk,V8,hbk,hrk⟩
   ·rw [hnil] at hjl; simp at hjl
   rw [V8] at s4;have k0:=hrk j hjl;clear hrk;have hji:((j + 1:Nat):Int) - 1=(j:Int):=by omega
   have hj1:=bH j;have hj2:(j:Int) < (rs[n].e.kids.length:Int):=by omega
   have HG2:Hid ((if x < 0 ∨ rs[n].e.kids[j] ≠ x then -1 else if dZ (ai rs) n x < 0 then -1 else dX (dZ (ai rs) n) (rs[n].e.kids.take j).reverse (dZ (ai rs) n x - 1))=aG (ai rs) n):=by
    have:=HG.out;rw [Sk hjl,List.reverse_append] at this;exact this
   rw [hji];clear HG V8 t0 t1 t2 t3 t4;by_cases hxn:x < 0
   ·have HT1:Hid (aG (ai rs) n=-1):=by show _=_; rw [← HG2.out,if_pos (Or.inl hxn)]
    go_wp2;go_ret;exact ⟨by rw [HT1.out]; rfl,hB⟩
   by_cases hkx:rs[n].e.kids[j]=x
   ·obtain ⟨m,rfl⟩:∃ m:Nat,x=(m:Int):=⟨x.toNat,by omega⟩;have hF:dZ (ai rs) n (m:Int)=aG (ai rs) m:=by unfold dZ; rw [if_pos ⟨by omega,by simp; omega⟩]; simp
    have HF:Hid (dZ (ai rs) n (m:Int)=aG (ai rs) m):=hF;have hle:=pK (ai rs) m;clear hF;go_wp2_with fail;refine (IH.out m (by omega) _ (by omega) (Sg hb hB.size) (fun i hi=>(HR.out i hi).same fun o=>hB.cell (p:=⟨b,o,none⟩) hb) (fun r hr=>(HO.out r hr).below hB)).mono ?_;rintro e w1 ⟨rfl,hb1⟩;have hB1:aa w w1:=hB.trans (hb1.mono hB.size);clear hb1;by_cases hneg:aG (ai rs) m < 0
    ·have HT1:Hid (aG (ai rs) n=-1):=by show _=_; rw [← HG2.out,if_neg (by omega),HF.out,if_pos hneg]
     go_wp2;go_ret;exact ⟨by rw [HT1.out]; rfl,hB1⟩
    have V9:Hid (dX (dZ (ai rs) n) (rs[n].e.kids.take j).reverse (aG (ai rs) m - 1)=aG (ai rs) n):=by
     show _=_;rw [← HG2.out,if_neg (by omega),HF.out,if_neg hneg]
    go_wp2;go_roundw;case rel=>exact ⟨j,aG (ai rs) m - 1,by omega,by go_num,rfl,by omega,by omega,V9,hB1⟩
    simp [intOf] <;> omega
   have HT1:Hid (aG (ai rs) n=-1):=by show _=_; rw [← HG2.out,if_pos (Or.inr hkx)]
   go_wp2;go_ret;exact ⟨by rw [HT1.out]; rfl,hB⟩
  obtain rfl:j=0:=by omega
  have HT1:Hid (aG (ai rs) n=x + 1):=by show _=_; have:=HG.out; simp [dX] at this; exact this.symm
  clear HG t0 t1 t2 t3 t4;go_wp2;go_ret;exact ⟨by rw [HT1.out]; rfl,hB⟩
theorem tK.later {w w':af} {b off:Nat} {r:ER} (h:tK w b off r) (hb:b < w.heap.size) (hB:aa w w'):tK w' b off r:=h.same fun o=>hB.cell (p:=⟨b,o,none⟩) hb
theorem Bc {es:List Ex} (h:¬ (1≤es.length∧es.length≤15)):aY es=false:=by
 unfold aY;by_cases h1:1≤es.length
 ·have h2:¬ es.length≤15:=fun h2=>h ⟨h1,h2⟩;simp [h2]
 simp [h1]
theorem GD {es:List Ex} (k:Nat) (h:k < es.length) (hb:az es[k]=false):aY es=false:=by simp [aY,Az es k h hb]
theorem GG {es:List Ex} (k:Nat) (h:k < es.length) (hb:lw es k=false):aY es=false:=by simp [aY,LH es k h hb]
def nH (zs:List Int) (i j:Nat):Bool:=(zs.take j).all fun k=>decide (0≤k) && decide (k≤(i:Int) - 1)
theorem CG (zs:List Int) (i j:Nat) (h:j < zs.length):nH zs i (j + 1)=(nH zs i j && (decide (0≤zs[j]) && decide (zs[j]≤(i:Int) - 1))):=by
 unfold nH; rw [Sk h,List.all_append]; simp
theorem Eg (zs:List Int) (i j:Nat) (h:j < zs.length) (hb:(decide (0≤zs[j]) && decide (zs[j]≤(i:Int) - 1))=false):(zs.all fun k=>decide (0≤k) && decide (k≤(i:Int) - 1))=false:=by
 rw [Bool.eq_false_iff]; intro h2; rw [SC] at h2; have:=h2 zs[j] (Sd h); rw [hb] at this; cases this
set_option maxRecDepth 4000 in
theorem yz (b off cap:Nat) (rs:List ER) (w:af) (hlen:rs.length≤1048576) (hl:∀ r ∈ rs,r.e.light) (hf:∀ r ∈ rs,r.e.fits) (hb:b < w.heap.size) (hr:∀ (i:Nat) (h:i < rs.length),tK w b (off + i * 5) rs[i]) (hok:∀ r ∈ rs,r.ok w) :
  Calls prog 106 #[.slice (some ⟨b,off,none⟩) rs.length cap] w fun e w'=>e=.returned (.bool (aY (ai rs)))∧aa w w':=by
 have hel:=aS rs;have UX:Hid ((ai rs).length=rs.length):=hel;have HL:=ay hl;have HF:=ay hf;have HR:Hid (∀ (i:Nat) (h:i < rs.length),tK w b (off + i * 5) rs[i]):=hr;have HO:=ay hok;clear hel hl hf hr hok;by_cases hn:1≤rs.length∧rs.length≤15
 ·obtain ⟨hn1,hn2⟩:=hn;go_enter func106,ntmps106;go_wp2_with fail;go_loopw [3,4] (fun o i wr=>∃ k:Nat,k≤rs.length∧i=.int .i64 k∧o=.int .i64 (fE (ai rs) k:Nat)∧Hid (iI (ai rs) k=true∧iJ (ai rs) k=true)∧aa w wr) (fun _ i _=>rs.length - (intOf i).toNat);case atStart=>exact ⟨0,Sm _,rfl,rfl,⟨by simp [iI],by simp [iJ]⟩,Si _ _⟩
  obtain ⟨k,hk,rfl,rfl,HU,hB⟩:=hrel;by_cases hlt:k < rs.length
  ·have U7:k < (ai rs).length:=by rw [UX.out]; exact hlt
   have hek:(ai rs)[k]=rs[k].e:=by simp [ai]
   have HEK:Hid ((ai rs)[k]=rs[k].e):=hek;obtain ⟨t0,t1,t2,t3,t4⟩:=(HR.out k hlt).later hb hB;clear hek;have hk1:=bH k;have hk2:(k:Int) < (rs.length:Int):=by omega
   have hol:=rE (ai rs) k;go_wp2_with fail;refine (Cw rs[k] _ (HF.out _ (Sd hlt)) ((HO.out _ (Sd hlt)).below hB)).mono ?_;rintro e w1 ⟨rfl,hb1⟩;cases UO:az rs[k].e;case false=>
    have HN:Hid (aY (ai rs)=false):=GD k U7 (by rw [HEK.out]; exact UO);go_wp2;go_ret;exact ⟨by rw [HN.out]; rfl,hB.trans (hb1.mono hB.size)⟩
   have hB1:aa w w1:=hB.trans (hb1.mono hB.size);have hbw:b < wr.heap.size:=Sg hb hB.size;replace t0:=kept hb1 hbw t0;replace t4:=kept hb1 hbw t4;have hbw1:b < w1.heap.size:=Sg hbw hb1.size;clear t1 t2 t3 hb1 hB hbw;go_wp2_with fail;go_loopw [5] (fun i w2=>∃ j:Nat,j≤rs[k].e.kids.length∧i=.int .i64 j∧Hid (nH rs[k].e.kids k j=true)∧w2=w1) (fun i _=>rs[k].e.kids.length - (intOf i).toNat);case atStart=>exact ⟨0,Sm _,rfl,(by show _=_; simp [nH]),rfl⟩
   obtain ⟨j,hj,rfl,HP,rfl⟩:=hrel;by_cases hjl:j < rs[k].e.kids.length
   ·rcases (HO.out rs[k] (Sd hlt)).2.below hB1 with hnil | ⟨bk,offk,V8,hbk,hrk⟩
    ·rw [hnil] at hjl; simp at hjl
    have t4':=t4;rw [V8] at t4';have k0:=hrk j hjl;have hj1:=bH j;have hj2:(j:Int) < (rs[k].e.kids.length:Int):=by omega
    obtain ⟨-,lk⟩:=HL.out rs[k] (Sd hlt);clear hrk V8 t4;go_wp2_with fail;refine (xZ _ _ _ _).mono ?_;rintro e w' ⟨rfl,rfl⟩;cases hin:(decide (0≤rs[k].e.kids[j]) && decide (rs[k].e.kids[j]≤(k:Int) - 1));case false=>
     have HN:Hid (aY (ai rs)=false):=GG k U7 (by unfold lw; rw [nG rs k hlt]; exact Eg _ k j hjl hin);go_wp2;go_ret;exact ⟨by rw [HN.out]; rfl,hB1⟩
    have Tu:Hid (nH rs[k].e.kids k (j + 1)=true):=by show _=_; rw [CG _ _ _ hjl,HP.out,hin]; rfl
    go_wp2;go_roundw;case rel=>exact ⟨j + 1,by omega,by go_num,Tu,by first | rfl | trivial⟩
    simp [intOf] <;> omega
   obtain rfl:j=rs[k].e.kids.length:=by omega
   have Xo:Hid (iI (ai rs) (k + 1)=true∧iJ (ai rs) (k + 1)=true):=by
    refine ⟨?_,?_⟩
    ·rw [rF _ _ U7,HU.out.1,HEK.out,UO]; rfl
    rw [DK,HU.out.2];unfold lw;rw [nG rs k hlt];have:=HP.out;unfold nH at this;rw [Su] at this;rw [this]; rfl
   have HOW:Hid (fE (ai rs) (k + 1)=fE (ai rs) k + (if rs[k].e.kind=1 then 1 else 0)):=by show _=_; rw [xy _ _ U7,HEK.out]
   by_cases Vz:rs[k].e.kind=1
   ·have WH:Hid (fE (ai rs) (k + 1)=fE (ai rs) k + 1):=by show _=_; rw [HOW.out,if_pos Vz]
    clear HOW;go_wp2;go_roundw;case rel=>exact ⟨k + 1,by omega,by go_num,by rw [WH.out]; go_num,Xo,hB1⟩
    simp [intOf] <;> omega
   have WH:Hid (fE (ai rs) (k + 1)=fE (ai rs) k):=by show _=_; rw [HOW.out,if_neg Vz]; rfl
   clear HOW;go_wp2;go_roundw;case rel=>exact ⟨k + 1,by omega,by go_num,by rw [WH.out],Xo,hB1⟩
   simp [intOf] <;> omega
  obtain rfl:k=rs.length:=by omega
  have HN:Hid ((ai rs).all az=true):=by
   have:=HU.out.1;unfold iI at this;rwa [← UX.out,Su] at this
  have HKU:Hid (iJ (ai rs) rs.length=true):=HU.out.2;have HOW:Hid (fE (ai rs) rs.length=own (ai rs)):=by show _=_; unfold fE; rw [← UX.out,Su]
  have hol:=rE (ai rs) rs.length;by_cases ho:fE (ai rs) rs.length≤1
  ·have HS:Hid (aY (ai rs)=decide (aG (ai rs) (rs.length - 1)=0)):=by
    show _=_;have h1:own (ai rs)≤1:=by rw [← HOW.out]; exact ho
    have e1:=UX.out;unfold aY;rw [e1,HN.out,HKU.out];simp [h1,hn1,hn2]
   have hcast:((rs.length:Int) - 1)=((rs.length - 1:Nat):Int):=by omega
   have Wv:Hid (((rs.length:Int) - 1)=((rs.length - 1:Nat):Int)):=hcast;clear hcast;go_wp2_with fail;rw [Wv.out];refine (GA b off cap rs hlen HL.out (rs.length - 1) _ (by omega) (Sg hb hB.size) (fun i hi=>(HR.out i hi).later hb hB) (fun r hr=>(HO.out r hr).below hB)).mono ?_;rintro e w1 ⟨rfl,hb1⟩;go_wp2;go_ret;exact ⟨by rw [HS.out]; exact ah (by rw [Bool.eq_iff_iff]; simp),hB.trans (hb1.mono hB.size)⟩
  have HS:Hid (aY (ai rs)=false):=by
   show _=_;have h1:¬ own (ai rs)≤1:=by rw [← HOW.out]; exact ho
   simp [aY,h1]
  go_wp2;go_ret;exact ⟨by rw [HS.out]; rfl,hB⟩
 have HN:Hid (aY (ai rs)=false):=Bc (by rw [UX.out]; exact hn);go_enter func106,ntmps106;go_wp2_with fail
 all_goals go_ret
 all_goals exact ⟨by rw [HN.out]; rfl,Si _ _⟩
theorem yA (ad:Option Addr) (cap:Nat) (rs:List ER) (w:af) (hlen:rs.length≤1048576) (hl:∀ r ∈ rs,r.e.light) (hf:∀ r ∈ rs,r.e.fits) (hs:fQ w ad rs) :
  Calls prog 106 #[.slice ad rs.length cap] w fun e w'=>e=.returned (.bool (aY (ai rs)))∧aa w w':=by
 rcases hs with rfl | ⟨b,off,rfl,hb,hr,hok⟩
 ·go_enter func106,ntmps106;go_wp2_with fail;go_ret;exact ⟨rfl,Si _ _⟩
 exact yz b off cap rs w hlen hl hf hb hr hok
end Go.Proofs.YtdmniljjnaebbaaGreatDoor
