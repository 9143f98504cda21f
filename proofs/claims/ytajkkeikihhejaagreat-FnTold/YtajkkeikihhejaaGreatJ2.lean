/- What the drawing of a word answers: some number. -/
import Derived.Test.YtajkkeikihhejaaGreatSq
import Derived.Test.YtajkkeikihhejaaGreatJ1
open Go.Proofs.Tryz
set_option maxHeartbeats 80000000
namespace Go.Proofs.YtajkkeikihhejaaGreat
set_option maxRecDepth 100000
open Go.ChangeShapes Go.WideShapes Go.ChangeAt Go.RowKit
open Pl
theorem DY (R:Nat) (ad:Option Addr) (len cap:Nat) (w:af) (h:Rd w R ad len cap) :
  Calls prog 180 #[.pointer (some ⟨R,0,none⟩)] w fun e w'=>(∃ x:Int,e=.returned (.int .u64 x))∧Rd w' R ad len cap∧Only R w w':=by
 have H:=az h;clear h;go_enter func180,ntmps180;go_wp2;go_loopw [3,4] (fun v i wr=>∃ (x:Int) (k:Nat),v=.int .u64 x∧i=.int .i64 (k:Int)∧k≤8∧Hid (Rd wr R ad len cap)∧Hid (Only R w wr)) (fun _ i _=>8 - (intOf i).toNat);case atStart=>exact ⟨0,0,rfl,rfl,by omega,H,Only.refl _ _⟩
 obtain ⟨x,k,rfl,rfl,hk,HR,HO⟩:=hrel;by_cases hlt:k < 8
 ·have hk1:(k:Int) < 8:=by omega
  go_wp2_with fail;refine (uk R ad len cap _ HR.out).mono ?_;rintro e w1 ⟨⟨y,rfl,hy0,hy1⟩,U5,UX⟩;have HR1:=az U5;have UV:Hid (Only R w w1):=HO.out.trans UX;clear U5 UX;go_wp2;go_roundw;case rel=>exact ⟨_,k + 1,rfl,by go_num,by omega,HR1,UV⟩
  simp [intOf] <;> omega
 have hk1:¬ (k:Int) < 8:=by omega
 go_wp2;go_ret;exact ⟨⟨x,rfl⟩,HR.out,HO.out⟩
theorem Nb (R:Nat) (ad:Option Addr) (len cap:Nat) (w:af) (h:Rd w R ad len cap) :
  Calls prog 125 #[.pointer (some ⟨R,0,none⟩),.int .i64 1,.int .i64 6] w fun e w'=>(∃ x:Int,e=.returned (.int .i64 x))∧Rd w' R ad len cap∧Only R w w':=by
 have H:=jK h;clear h;go_enter func125,ntmps125;go_wp2_with fail;refine (fQ R ad len cap 8 _ H.out (by omega) (by omega)).mono ?_;rintro e w1 ⟨⟨x,rfl,hx⟩,U5,UX⟩;have HR1:=jK U5;have UV:=jK UX;clear U5 UX;by_cases h0:x=0
 ·subst h0;go_wp2;go_ret;exact ⟨⟨_,rfl⟩,HR1.out,UV.out⟩
 have h00:((x:Int) == 0)=false:=by simp; omega
 by_cases h1:x=1
 ·subst h1;go_wp2;go_ret;exact ⟨⟨_,rfl⟩,HR1.out,UV.out⟩
 have h11:((x:Int) == 1)=false:=by simp; omega
 go_wp2_with fail;refine (DY R ad len cap _ HR1.out).mono ?_;rintro e w2 ⟨⟨y,rfl⟩,hR2,hO2⟩;have HR2:=jK hR2;have UB:Hid (Only R w w2):=UV.out.trans hO2;clear hR2 hO2;go_wp2;go_ret;exact ⟨⟨_,rfl⟩,HR2.out,UB.out⟩
theorem Qd (R:Nat) (ad:Option Addr) (len cap:Nat) (w:af) (h:Rd w R ad len cap) :
  Calls prog 85 #[.pointer (some ⟨R,0,none⟩),.int .i64 1,.int .i64 6] w fun e w'=>(∃ x:Int,e=.returned (.int .i64 x))∧Rd w' R ad len cap∧Only R w w':=by
 have H:=jK h;clear h;go_enter func85,ntmps85;go_wp2_with fail;refine (iN R ad len cap 24 _ H.out (by omega) (by omega)).mono ?_;rintro e w1 ⟨⟨q,rfl⟩,U5,UX⟩;have HR1:=jK U5;have UV:=jK UX;have Xo:=U5.lt;clear U5 UX;cases q;case false=>
  go_wp2_with fail;refine (Nb R ad len cap _ HR1.out).mono ?_;rintro e w2 ⟨⟨y,rfl⟩,hR2,hO2⟩;have HR2:=jK hR2;have UB:Hid (Only R w w2):=UV.out.trans hO2;clear hR2 hO2;go_wp2;go_ret;exact ⟨⟨_,rfl⟩,HR2.out,UB.out⟩
 obtain ⟨W0,hW0⟩:∃ W0,W0=w1.alloc (.cells #[.int .i64 0,.int .i64 7,.int .i64 (-9223372036854775808),.int .i64 9223372036854775807] 2):=⟨_,rfl⟩;have VD:Hid (Rd W0 R ad len cap):=by show Rd _ _ _ _ _; rw [hW0]; exact HR1.out.alloc _
 have V7:Hid (Only R w W0):=by show Only _ _ _; rw [hW0]; exact UV.out.alloc _
 have VG:Hid (w1.heap.size < W0.heap.size∧∀ o,o < 4→∃ z:Int,W0.cell? ⟨w1.heap.size,o,none⟩=some (.int .i64 z)):=by
  show _∧_;rw [hW0];refine ⟨by simp,fun o ho=>?_⟩;have:o=0 ∨ o=1 ∨ o=2 ∨ o=3:=by omega
  rcases this with rfl | rfl | rfl | rfl <;> exact ⟨_,by simp; rfl⟩
 go_wp2_with fail;rw [← hW0]; clear hW0;refine (fQ R ad len cap 4 _ VD.out (by omega) (by omega)).mono ?_;rintro e w2 ⟨⟨x,rfl,hx⟩,hR2,hO2⟩;obtain ⟨z,hz⟩:=VG.out.2 x hx;have hz2:w2.cell? ⟨w1.heap.size,x,none⟩=some (.int .i64 z):=by rw [hO2.cell VG.out.1 (by omega)]; exact hz
 have HR2:=jK hR2;have UB:Hid (Only R w w2):=V7.out.trans hO2;have hx0:=bB x;have hx1:(x:Int) < 4:=by omega
 clear hR2 hO2 hz VG VD V7;go_wp2;go_ret;exact ⟨⟨z,rfl⟩,HR2.out,UB.out⟩
structure Al where
 t:ByteArray
 s:ByteArray
def Al.fits (a:Al):Prop:=a.t.size≤maxLen∧a.s.size≤maxLen
def RU (w:World) (b off:Nat) (a:Al):Prop:=w.cell? ⟨b,off,none⟩=some (.string a.t)∧w.cell? ⟨b,off + 1,none⟩=some (.string a.s)
def jM (w:World) (ad:Option Addr) (xs:List Al):Prop:=xs=[] ∨ ∃ b off,ad=some ⟨b,off,none⟩∧b < w.heap.size∧∀ (i:Nat) (h:i < xs.length),RU w b (off + i * 2) xs[i]
def p8 (w:World) (ad:Option Addr) (zs:List Int):Prop:=zs=[] ∨ ∃ b off,ad=some ⟨b,off,none⟩∧b < w.heap.size∧∀ (i:Nat) (h:i < zs.length),w.cell? ⟨b,off + i,none⟩=some (.int .i64 zs[i])
theorem RU.same {w w':af} {b off:Nat} {a:Al} (h:RU w b off a) (hc:∀ o,w'.cell? ⟨b,o,none⟩=w.cell? ⟨b,o,none⟩):RU w' b off a:=⟨(hc _).trans h.1,(hc _).trans h.2⟩
theorem jM.below {w w':af} {ad:Option Addr} {xs:List Al} (h:jM w ad xs) (hB:ag w w'):jM w' ad xs:=by
 rcases h with h | ⟨b,off,e,hb,hr⟩
 ·exact .inl h
 exact .inr ⟨b,off,e,TP hb hB.size,fun i hi=>(hr i hi).same fun o=>hB.cell (p:=⟨b,o,none⟩) hb⟩
theorem p8.below {w w':af} {ad:Option Addr} {zs:List Int} (h:p8 w ad zs) (hB:ag w w'):p8 w' ad zs:=by
 rcases h with h | ⟨b,off,e,hb,hr⟩
 ·exact .inl h
 exact .inr ⟨b,off,e,TP hb hB.size,fun i hi=>(hB.cell (p:=⟨b,off + i,none⟩) hb).trans (hr i hi)⟩
structure Ex where
 kind:Int
 allow:List Al
 over:ByteArray
 name:ByteArray
 kids:List Int
structure ER where
 e:Ex
 adA:Option Addr
 capA:Nat
 adK:Option Addr
 capK:Nat
def ER.val (r:ER):Value:=.agg #[.int .i64 r.e.kind,.slice r.adA r.e.allow.length r.capA,.string r.e.over,.string r.e.name,.slice r.adK r.e.kids.length r.capK]
def ER.ok (w:World) (r:ER):Prop:=jM w r.adA r.e.allow∧p8 w r.adK r.e.kids
def Ex.fits (e:Ex):Prop:=(∀ a ∈ e.allow,a.fits)∧e.over.size≤maxLen∧e.name.size≤maxLen∧e.allow.length≤maxLen∧e.kids.length≤maxLen
theorem ER.ok.below {w w':af} {r:ER} (h:r.ok w) (hB:ag w w'):r.ok w':=⟨h.1.below hB,h.2.below hB⟩
def yh (w:World) (b off:Nat) (r:ER):Prop :=
 w.cell? ⟨b,off,none⟩=some (.int .i64 r.e.kind)∧w.cell? ⟨b,off + 1,none⟩=some (.slice r.adA r.e.allow.length r.capA)∧w.cell? ⟨b,off + 2,none⟩=some (.string r.e.over) ∧
 w.cell? ⟨b,off + 3,none⟩=some (.string r.e.name)∧w.cell? ⟨b,off + 4,none⟩=some (.slice r.adK r.e.kids.length r.capK)
theorem yh.same {w w':af} {b off:Nat} {r:ER} (h:yh w b off r) (hc:∀ o,w'.cell? ⟨b,o,none⟩=w.cell? ⟨b,o,none⟩):yh w' b off r:=by
 obtain ⟨h0,h1,h2,h3,h4⟩:=h;exact ⟨(hc _).trans h0,(hc _).trans h1,(hc _).trans h2,(hc _).trans h3,(hc _).trans h4⟩
def iH (w:World) (ad:Option Addr) (rs:List ER):Prop:=rs=[] ∨ ∃ b off,ad=some ⟨b,off,none⟩∧b < w.heap.size∧(∀ (i:Nat) (h:i < rs.length),yh w b (off + i * 5) rs[i])∧∀ r ∈ rs,r.ok w
theorem iH.below {w w':af} {ad:Option Addr} {rs:List ER} (h:iH w ad rs) (hB:ag w w'):iH w' ad rs:=by
 rcases h with h | ⟨b,off,e,hb,hr,hk⟩
 ·exact .inl h
 exact .inr ⟨b,off,e,TP hb hB.size,fun i hi=>(hr i hi).same fun o=>hB.cell (p:=⟨b,o,none⟩) hb,fun r hr=>(hk r hr).below hB⟩
def ak (rs:List ER):List Ex:=rs.map ER.e
theorem aT (rs:List ER):(ak rs).length=rs.length:=by simp [ak]
def ul (s:ByteArray):Bool:=s.toList.isEmpty || aP s
theorem H5 (s:bH) (w:af) (hs:s.size≤maxLen) :
  Calls prog 163 #[.string s] w fun e w'=>e=.returned (.bool (ul s))∧w'=w:=by
 go_enter func163,ntmps163;go_wp2_with (go_at_call 162; refine (aL _ _ hs).mono ?_; rintro e w' ⟨rfl,rfl⟩)
 all_goals go_ret
 all_goals exact ⟨ah (by simp [ul, *]),rfl⟩
def Ex.light (e:Ex):Prop:=e.allow.length≤1048576∧e.kids.length≤1048576
structure Fil (w wr:World) (g n:Nat) (xs:List Value):Prop where
 below:ag w wr
 ge:w.heap.size≤g
 lt:g < wr.heap.size
 done:∀ (j:Nat) (h:j < xs.length),wr.cell? ⟨g,j,none⟩=some xs[j]
 there:∀ j,j < n→(wr.cell? ⟨g,j,none⟩).isSome=true
 free:∀ j,wr.frozen? ⟨g,j,none⟩=false
theorem lV {w:af} {g i j:Nat} {v:Value} (h:i ≠ j):(w.setCell ⟨g,i,none⟩ v).cell? ⟨g,j,none⟩=w.cell? ⟨g,j,none⟩:=by
 apply World.cell?_setCell_other;intro e;exact h (congrArg Addr.off e)
theorem xq {w:af} {a:Addr} {v u:Value} (h:w.cell? a=some u):(w.setCell a v).cell? a=some v:=by
 apply World.cell?_setCell_same; exact h
theorem xw {w:af} {g h i j:Nat} {v:Value} (hn:g ≠ h):(w.setCell ⟨g,i,none⟩ v).cell? ⟨h,j,none⟩=w.cell? ⟨h,j,none⟩:=by
 apply World.cell?_setCell_other;intro e;exact hn (congrArg Addr.block e)
theorem Fil.later {w wr w1:af} {g n:Nat} {xs:List Value} (h:Fil w wr g n xs) (hb:ag wr w1):Fil w w1 g n xs where
 below:=h.below.trans (hb.mono h.below.size)
 ge:=h.ge
 lt:=TP h.lt hb.size
 done j hj:=by rw [hb.cell (p:=⟨g,j,none⟩) h.lt]; exact h.done j hj
 there j hj:=by rw [hb.cell (p:=⟨g,j,none⟩) h.lt]; exact h.there j hj
 free j:=by rw [hb.frozen (p:=⟨g,j,none⟩) h.lt]; exact h.free j
theorem Fil.put {w wr:af} {g n o:Nat} {xs:List Value} (h:Fil w wr g n xs) (v:Value) (ho:o=xs.length) (hn:o < n):Fil w (wr.setCell ⟨g,o,none⟩ v) g n (xs ++ [v]) where
 below:=h.below.setCell (p:=⟨g,o,none⟩) h.ge v
 ge:=h.ge
 lt:=by simpa using h.lt
 done j hj:=by
  by_cases e:j=o
  ·subst e;obtain ⟨u,hu⟩:=Option.isSome_iff_exists.mp (h.there j hn);rw [xq hu];simp [ho]
  have hj':j < xs.length:=by simp at hj; omega
  rw [lV (Ne.symm e),h.done j hj',Uk hj']
 there j hj:=by
  by_cases e:j=o
  ·subst e;obtain ⟨u,hu⟩:=Option.isSome_iff_exists.mp (h.there j hn);rw [xq hu]; rfl
  rw [lV (Ne.symm e)];exact h.there j hj
 free j:=by simpa using h.free j
theorem Nc {w w0:af} {n k:Nat} {base:Nat} {e:TypeId} {xs:List Value} (h:w0.ownsRow base e k (.slice (some ⟨w.heap.size,0,none⟩) n n) n xs) (hg:w.grownBy w0 none):Fil w w0 w.heap.size (n * k) [] where
 below:=(TT _ _).grown hg (TS _) (fun k hk=>by cases hk)
 ge:=TS _
 lt:=(h.lt w.heap.size rfl).2
 done j hj:=absurd hj (Uw _)
 there j hj:=by
  rw [h.cellAt j hj,TY (by rw [h.1]; exact hj)]; rfl
 free j:=h.frozenAt j
theorem RV {t:TypeId} {n b:Nat} (h:(prog.info? t).map (fun i=>(i.zero.isSome,i.size,i.bytes))=some (true,n,b)):∃ i z,prog.info? t=some i∧i.zero=some z∧i.size=n∧i.bytes=b:=by
 cases hi:prog.info? t with
 | none=>rw [hi] at h; cases h
 | some i =>
  rw [hi] at h;simp at h;obtain ⟨z,hz⟩:=Option.isSome_iff_exists.mp h.1;exact ⟨i,z,rfl,hz,h.2.1,h.2.2⟩
def ints (zs:List Int):List Value:=zs.map (Value.int .i64)
theorem Fil.ints {w w':af} {g:Nat} {zs:List Int} (h:Fil w w' g zs.length (ints zs)):p8 w' (some ⟨g,0,none⟩) zs :=
 .inr ⟨g,0,rfl,h.lt,fun i hi=>by rw [Um,h.done i (by simpa [YtajkkeikihhejaaGreat.ints] using hi)]; simp [YtajkkeikihhejaaGreat.ints]⟩
def pairs (xs:List Al):List Value:=xs.flatMap fun a=>[.string a.t,.string a.s]
theorem lq:∀ xs:List Al,(pairs xs).length=xs.length * 2
 | []=>rfl
 | a::xs=>by have:=lq xs; simp only [pairs,List.flatMap_cons,T9,List.length_cons,List.length_nil] at this ⊢; omega
theorem nH:∀ (xs:List Al) (i:Nat) (h:i < xs.length),(pairs xs)[i * 2]?=some (.string xs[i].t)∧(pairs xs)[i * 2 + 1]?=some (.string xs[i].s)
 | [],i,h=>by simp at h
 | a::xs,0,_=>by simp [pairs]
 | a::xs,i + 1,h=>by
  have:=nH xs i (by simpa using h);simp only [pairs,List.flatMap_cons,List.cons_append,List.nil_append,List.getElem_cons_succ] at this ⊢;rw [show (i + 1) * 2=i * 2 + 1 + 1 by omega,show i * 2 + 1 + 1 + 1=(i * 2 + 1) + 1 + 1 by omega];simpa using this
theorem Fil.pairs {w w':af} {g:Nat} {xs:List Al} (h:Fil w w' g (xs.length * 2) (pairs xs)):jM w' (some ⟨g,0,none⟩) xs:=by
 refine .inr ⟨g,0,rfl,h.lt,fun i hi=>?_⟩;obtain ⟨h1,h2⟩:=nH xs i hi;have hl:=lq xs;refine ⟨?_,?_⟩
 ·rw [Um,h.done (i * 2) (by omega),← h1,TY (by omega)]
 rw [Um,h.done (i * 2 + 1) (by omega),← h2,TY (by omega)]
end Go.Proofs.YtajkkeikihhejaaGreat
