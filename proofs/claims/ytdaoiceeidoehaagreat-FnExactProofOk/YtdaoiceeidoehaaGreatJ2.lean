/- Contracts of the functions that look at names and ids, the document's model beside the program's: each returns what the plain function says and leaves the world as it was. -/
import Derived.Test.YtdaoiceeidoehaaGreatRows
import Derived.Test.YtdaoiceeidoehaaGreatJ1
import Derived.WalkLawsBesides
import Derived.ProofKit
open Go.Proofs.Tryz
set_option maxHeartbeats 80000000
namespace Go.Proofs.YtdaoiceeidoehaaGreat
open Go.ChangeShapes Go.WideShapes Go.ChangeAt Go.RowKit
open Pl
theorem iY (c:UInt8) (w:World) :
  Calls prog 131 #[.int .u8 c.toNat] w fun e w'=>e=.returned (.bool (gQ c))∧w'=w:=by
 go_enter func131,ntmps131;go_wp2
 all_goals go_ret
 all_goals refine ⟨af ?_,rfl⟩
 all_goals (rw [Bool.eq_iff_iff]; simp [gQ]; omega)
theorem ay (s:ByteArray) (w:World) (hs:s.size≤maxLen) :
  Calls prog 56 #[.string s] w fun e w'=>e=.returned (.bool (aO s))∧w'=w:=by
 unfold maxLen at hs;by_cases h1:1≤s.size∧s.size≤12
 ·obtain ⟨ha,hb⟩:=h1;go_enter func56,ntmps56;go_wp2
  go_loop [3] (fun i=>∃ k:Nat,k≤s.size∧i=.int .i64 k∧Hid (Cy gQ s k=true)) (fun i=>s.size - (intOf i).toNat)
  case atStart=>exact ⟨0,Nat.zero_le _,rfl,oN _ _⟩
  case round =>
   obtain ⟨k,hk,rfl,hu⟩:=hrel;by_cases hlt:k < s.size
   ·by_cases hc:gQ s[k]=true
    ·have hc1:97≤s[k].toNat:=by simp [gQ] at hc; omega
     have hc2:s[k].toNat≤122:=by simp [gQ] at hc; omega
     have HU:Hid (Cy gQ s (k + 1)=true):=by show _=_; rw [oO _ _ _ hlt,hc,hu.out]; rfl
     clear hc;go_wp2;go_round;case rel=>exact ⟨k + 1,by omega,by go_num,HU⟩
     case measure=>simp [intOf]; omega
    ·have hc':gQ s[k]=false:=by simpa using hc
     have HB:Hid (nY gQ s=false):=sW _ _ _ hlt hc';have hd:s[k].toNat < 97 ∨ 122 < s[k].toNat:=by simp [gQ] at hc'; omega
     clear hc hc';rcases hd with hd | hd
     all_goals
      go_wp2;go_ret;exact ⟨af (by simp [aO,dx,HB.out]),rfl⟩
   ·go_wp2;go_ret;refine ⟨af ?_,rfl⟩;have hall:nY gQ s=true:=by rw [← sV gQ s k (by omega)]; exact hu.out
    have hl:kg s=true:=by simp [kg]; omega
    simp [aO,dx,sU,hall,hl]
 ·have hn:kg s=false:=by simp [kg]; omega
  have HN:Hid (aO s=false):=by show _=_; simp [aO,dx,hn]
  clear hn;by_cases ha:1≤s.size
  ·have hb:12 < s.size:=by omega
   clear h1;go_enter func56,ntmps56;go_wp2;go_ret;exact ⟨af HN.out.symm,rfl⟩
  ·have ha':s.size < 1:=by omega
   clear h1;go_enter func56,ntmps56;go_wp2;go_ret;exact ⟨af HN.out.symm,rfl⟩
theorem tT (s:ByteArray) (w:World) (hs:s.size≤maxLen) :
  Calls prog 130 #[.string s,.func (Fn.func 131) #[] #[]] w fun e w'=>e=.returned (.bool (dx gQ s))∧w'=w:=by
 unfold maxLen at hs;by_cases h1:1≤s.size∧s.size≤12
 ·obtain ⟨ha,hb⟩:=h1;go_enter func130,ntmps130;go_wp2
  go_loop [16] (fun i=>∃ k:Nat,k≤s.size∧i=.int .i64 k∧Hid (Cy gQ s k=true)) (fun i=>s.size - (intOf i).toNat)
  case atStart=>exact ⟨0,Nat.zero_le _,rfl,oN _ _⟩
  case round =>
   obtain ⟨k,hk,rfl,hu⟩:=hrel;by_cases hlt:k < s.size
   ·by_cases hc:gQ s[k]=true
    ·have HU:Hid (Cy gQ s (k + 1)=true):=by show _=_; rw [oO _ _ _ hlt,hc,hu.out]; rfl
     go_wp2_with (go_at_call 131; refine (iY _ _).mono ?_; rintro e w' ⟨rfl,rfl⟩);go_round;case rel=>exact ⟨k + 1,by omega,by go_num,HU⟩
     case measure=>simp [intOf]; omega
    ·have hc':gQ s[k]=false:=by simpa using hc
     have HB:Hid (nY gQ s=false):=sW _ _ _ hlt hc';clear hc;go_wp2_with (go_at_call 131; refine (iY _ _).mono ?_; rintro e w' ⟨rfl,rfl⟩);go_ret;exact ⟨af (by simp [dx,HB.out]),rfl⟩
   ·go_wp2;go_ret;refine ⟨af ?_,rfl⟩;have hall:nY gQ s=true:=by rw [← sV gQ s k (by omega)]; exact hu.out
    have hl:kg s=true:=by simp [kg]; omega
    simp [dx,hall,hl]
 ·have hn:kg s=false:=by simp [kg]; omega
  have HN:Hid (dx gQ s=false):=by show _=_; simp [dx,hn]
  clear hn;by_cases ha:1≤s.size
  ·have hb:12 < s.size:=by omega
   clear h1;go_enter func130,ntmps130;go_wp2;go_ret;exact ⟨af HN.out.symm,rfl⟩
  ·have ha':s.size < 1:=by omega
   clear h1;go_enter func130,ntmps130;go_wp2;go_ret;exact ⟨af HN.out.symm,rfl⟩
theorem az (s:ByteArray) (w:World) (hs:s.size≤maxLen) :
  Calls prog 95 #[.string s] w fun e w'=>e=.returned (.bool (aO s))∧w'=w:=by
 by_cases h:s.toList=[116,104,105,115]
 ·have hb:(s.toList == [116,104,105,115])=true:=by simp [h]
  have HN:Hid (aO s=false):=by show _=_; simp [aO,sU,h]
  clear h;go_enter func95,ntmps95;go_wp2;go_ret;exact ⟨af HN.out.symm,rfl⟩
 ·have hb:(s.toList == [116,104,105,115])=false:=by simp [h]
  have HN:Hid (aO s=dx gQ s):=by show _=_; simp [aO,sU,h]
  clear h;go_enter func95,ntmps95;go_wp2_with (go_at_call 130; refine (tT _ _ hs).mono ?_; rintro e w' ⟨rfl,rfl⟩);go_ret;exact ⟨af HN.out.symm,rfl⟩
structure Al where
 t:ByteArray
 s:ByteArray
def Al.fits (a:Al):Prop:=a.t.size≤maxLen∧a.s.size≤maxLen
def KO (w:World) (b off:Nat) (a:Al):Prop:=w.cell? ⟨b,off,none⟩=some (.string a.t)∧w.cell? ⟨b,off + 1,none⟩=some (.string a.s)
def fV (w:World) (ad:Option Addr) (xs:List Al):Prop:=xs=[] ∨ ∃ b off,ad=some ⟨b,off,none⟩∧b < w.heap.size∧∀ (i:Nat) (h:i < xs.length),KO w b (off + i * 2) xs[i]
def nA (w:World) (ad:Option Addr) (zs:List Int):Prop:=zs=[] ∨ ∃ b off,ad=some ⟨b,off,none⟩∧b < w.heap.size∧∀ (i:Nat) (h:i < zs.length),w.cell? ⟨b,off + i,none⟩=some (.int .i64 zs[i])
theorem KO.same {w w':World} {b off:Nat} {a:Al} (h:KO w b off a) (hc:∀ o,w'.cell? ⟨b,o,none⟩=w.cell? ⟨b,o,none⟩):KO w' b off a:=⟨(hc _).trans h.1,(hc _).trans h.2⟩
theorem fV.below {w w':World} {ad:Option Addr} {xs:List Al} (h:fV w ad xs) (hB:Below w.heap.size w w'):fV w' ad xs:=by
 rcases h with h | ⟨b,off,e,hb,hr⟩
 ·exact .inl h
 ·exact .inr ⟨b,off,e,Nat.lt_of_lt_of_le hb hB.size,fun i hi=>(hr i hi).same fun o=>hB.cell (p:=⟨b,o,none⟩) hb⟩
theorem nA.below {w w':World} {ad:Option Addr} {zs:List Int} (h:nA w ad zs) (hB:Below w.heap.size w w'):nA w' ad zs:=by
 rcases h with h | ⟨b,off,e,hb,hr⟩
 ·exact .inl h
 ·exact .inr ⟨b,off,e,Nat.lt_of_lt_of_le hb hB.size,fun i hi=>(hB.cell (p:=⟨b,off + i,none⟩) hb).trans (hr i hi)⟩
structure Ex where
 kind:Int
 allow:List Al
 over:ByteArray
 name:ByteArray
 kids:List Int
structure ER where
 e:Ex
 adA:Option Addr
 capA:Nat
 adK:Option Addr
 capK:Nat
def ER.val (r:ER):Value:=.agg #[.int .i64 r.e.kind,.slice r.adA r.e.allow.length r.capA,.string r.e.over,.string r.e.name,.slice r.adK r.e.kids.length r.capK]
def ER.ok (w:World) (r:ER):Prop:=fV w r.adA r.e.allow∧nA w r.adK r.e.kids
def Ex.fits (e:Ex):Prop:=(∀ a ∈ e.allow,a.fits)∧e.over.size≤maxLen∧e.name.size≤maxLen∧e.allow.length≤maxLen∧e.kids.length≤maxLen
theorem ER.ok.below {w w':World} {r:ER} (h:r.ok w) (hB:Below w.heap.size w w'):r.ok w':=⟨h.1.below hB,h.2.below hB⟩
def wy (w:World) (b off:Nat) (r:ER):Prop :=
 w.cell? ⟨b,off,none⟩=some (.int .i64 r.e.kind)∧w.cell? ⟨b,off + 1,none⟩=some (.slice r.adA r.e.allow.length r.capA)∧w.cell? ⟨b,off + 2,none⟩=some (.string r.e.over) ∧
 w.cell? ⟨b,off + 3,none⟩=some (.string r.e.name)∧w.cell? ⟨b,off + 4,none⟩=some (.slice r.adK r.e.kids.length r.capK)
theorem wy.same {w w':World} {b off:Nat} {r:ER} (h:wy w b off r) (hc:∀ o,w'.cell? ⟨b,o,none⟩=w.cell? ⟨b,o,none⟩):wy w' b off r:=by
 obtain ⟨h0,h1,h2,h3,h4⟩:=h;exact ⟨(hc _).trans h0,(hc _).trans h1,(hc _).trans h2,(hc _).trans h3,(hc _).trans h4⟩
def dw (w:World) (ad:Option Addr) (rs:List ER):Prop:=rs=[] ∨ ∃ b off,ad=some ⟨b,off,none⟩∧b < w.heap.size∧(∀ (i:Nat) (h:i < rs.length),wy w b (off + i * 5) rs[i])∧∀ r ∈ rs,r.ok w
theorem dw.below {w w':World} {ad:Option Addr} {rs:List ER} (h:dw w ad rs) (hB:Below w.heap.size w w'):dw w' ad rs:=by
 rcases h with h | ⟨b,off,e,hb,hr,hk⟩
 ·exact .inl h
 ·exact .inr ⟨b,off,e,Nat.lt_of_lt_of_le hb hB.size,fun i hi=>(hr i hi).same fun o=>hB.cell (p:=⟨b,o,none⟩) hb,fun r hr=>(hk r hr).below hB⟩
def ah (rs:List ER):List Ex:=rs.map ER.e
theorem aI (rs:List ER):(ah rs).length=rs.length:=by simp [ah]
def tV (s:ByteArray):Bool:=s.toList.isEmpty || aO s
theorem tX (s:ByteArray) (w:World) (hs:s.size≤maxLen) :
  Calls prog 96 #[.string s] w fun e w'=>e=.returned (.bool (tV s))∧w'=w:=by
 go_enter func96,ntmps96;go_wp2_with (go_at_call 95; refine (az _ _ hs).mono ?_; rintro e w' ⟨rfl,rfl⟩)
 all_goals go_ret
 all_goals exact ⟨af (by simp [tV, *]),rfl⟩
theorem wB (t s:ByteArray) (left:Int) (w:World) (ht:t.size≤maxLen) (hs:s.size≤maxLen) (h0:0≤left) (h1:left≤1048576) :
  Calls prog 169 #[.agg #[.string t,.string s],.int .i64 left] w fun e w'=>(∃ n:Int,e=.returned (.int .i64 n)∧(n=-1 ∨ 0≤n∧n≤left))∧Below w.heap.size w w':=by
 unfold maxLen at ht hs;have hB:=(Below.refl w.heap.size w).alloc (Nat.le_refl _) (.cells #[.string t,.string s] 260);by_cases h2:left - t.size < 0
 ·go_enter func169,ntmps169;go_wp2;go_ret;exact ⟨⟨-1,rfl,.inl rfl⟩,hB⟩
 ·by_cases h3:left - t.size - s.size < 0
  ·go_enter func169,ntmps169;go_wp2;go_ret;exact ⟨⟨-1,rfl,.inl rfl⟩,hB⟩
  ·go_enter func169,ntmps169;go_wp2;go_ret;exact ⟨⟨_,rfl,.inr ⟨by omega,by omega⟩⟩,hB⟩
def Ex.light (e:Ex):Prop:=e.allow.length≤1048576∧e.kids.length≤1048576
structure Fil (w wr:World) (g n:Nat) (xs:List Value):Prop where
 below:Below w.heap.size w wr
 ge:w.heap.size≤g
 lt:g < wr.heap.size
 done:∀ (j:Nat) (h:j < xs.length),wr.cell? ⟨g,j,none⟩=some xs[j]
 there:∀ j,j < n→(wr.cell? ⟨g,j,none⟩).isSome=true
 free:∀ j,wr.frozen? ⟨g,j,none⟩=false
theorem fu {w:World} {g i j:Nat} {v:Value} (h:i ≠ j):(w.setCell ⟨g,i,none⟩ v).cell? ⟨g,j,none⟩=w.cell? ⟨g,j,none⟩:=by
 apply World.cell?_setCell_other;intro e;exact h (congrArg Addr.off e)
theorem nC {w:World} {a:Addr} {v u:Value} (h:w.cell? a=some u):(w.setCell a v).cell? a=some v:=by
 apply World.cell?_setCell_same; exact h
theorem dZ {w:World} {g h i j:Nat} {v:Value} (hn:g ≠ h):(w.setCell ⟨g,i,none⟩ v).cell? ⟨h,j,none⟩=w.cell? ⟨h,j,none⟩:=by
 apply World.cell?_setCell_other;intro e;exact hn (congrArg Addr.block e)
theorem Fil.later {w wr w1:World} {g n:Nat} {xs:List Value} (h:Fil w wr g n xs) (hb:Below wr.heap.size wr w1):Fil w w1 g n xs where
 below:=h.below.trans (hb.mono h.below.size)
 ge:=h.ge
 lt:=Nat.lt_of_lt_of_le h.lt hb.size
 done j hj:=by rw [hb.cell (p:=⟨g,j,none⟩) h.lt]; exact h.done j hj
 there j hj:=by rw [hb.cell (p:=⟨g,j,none⟩) h.lt]; exact h.there j hj
 free j:=by rw [hb.frozen (p:=⟨g,j,none⟩) h.lt]; exact h.free j
theorem Fil.put {w wr:World} {g n o:Nat} {xs:List Value} (h:Fil w wr g n xs) (v:Value) (ho:o=xs.length) (hn:o < n):Fil w (wr.setCell ⟨g,o,none⟩ v) g n (xs ++ [v]) where
 below:=h.below.setCell (p:=⟨g,o,none⟩) h.ge v
 ge:=h.ge
 lt:=by simpa using h.lt
 done j hj:=by
  by_cases e:j=o
  ·subst e;obtain ⟨u,hu⟩:=Option.isSome_iff_exists.mp (h.there j hn);rw [nC hu];simp [ho]
  ·have hj':j < xs.length:=by simp at hj; omega
   rw [fu (Ne.symm e),h.done j hj',List.getElem_append_left hj']
 there j hj:=by
  by_cases e:j=o
  ·subst e;obtain ⟨u,hu⟩:=Option.isSome_iff_exists.mp (h.there j hn);rw [nC hu]; rfl
  ·rw [fu (Ne.symm e)];exact h.there j hj
 free j:=by simpa using h.free j
theorem lq {w w0:World} {n k:Nat} {base:Nat} {e:TypeId} {xs:List Value} (h:w0.ownsRow base e k (.slice (some ⟨w.heap.size,0,none⟩) n n) n xs) (hg:w.grownBy w0 none):Fil w w0 w.heap.size (n * k) [] where
 below:=(Below.refl _ _).grown hg (Nat.le_refl _) (fun k hk=>by cases hk)
 ge:=Nat.le_refl _
 lt:=(h.lt w.heap.size rfl).2
 done j hj:=absurd hj (Nat.not_lt_zero _)
 there j hj:=by
  rw [h.cellAt j hj,List.getElem?_eq_getElem (by rw [h.1]; exact hj)]; rfl
 free j:=h.frozenAt j
theorem tY {t:TypeId} {n b:Nat} (h:(prog.info? t).map (fun i=>(i.zero.isSome,i.size,i.bytes))=some (true,n,b)):∃ i z,prog.info? t=some i∧i.zero=some z∧i.size=n∧i.bytes=b:=by
 cases hi:prog.info? t with
 | none=>rw [hi] at h; cases h
 | some i =>
  rw [hi] at h;simp at h;obtain ⟨z,hz⟩:=Option.isSome_iff_exists.mp h.1;exact ⟨i,z,rfl,hz,h.2.1,h.2.2⟩
def ints (zs:List Int):List Value:=zs.map (Value.int .i64)
theorem Fv (zs:List Int) (k:Nat) (h:k < zs.length):ints (zs.take (k + 1))=ints (zs.take k) ++ [.int .i64 zs[k]]:=by
 unfold ints; rw [List.take_succ_eq_append_getElem h,List.map_append]; rfl
theorem Hd (zs:List Int) (k:Nat) (h:k≤zs.length):(ints (zs.take k)).length=k:=by simp [ints]; omega
theorem Fil.ints {w w':World} {g:Nat} {zs:List Int} (h:Fil w w' g zs.length (ints zs)):nA w' (some ⟨g,0,none⟩) zs :=
 .inr ⟨g,0,rfl,h.lt,fun i hi=>by rw [Nat.zero_add,h.done i (by simpa [YtdaoiceeidoehaaGreat.ints] using hi)]; simp [YtdaoiceeidoehaaGreat.ints]⟩
theorem yI (ad:Option Addr) (cap:Nat) (zs:List Int) (w:World) (hlen:zs.length≤1048576) (hs:nA w ad zs) :
  Calls prog 159 #[.slice ad zs.length cap] w fun e w'=>e=.returned (.slice (some ⟨w.heap.size,0,none⟩) zs.length zs.length)∧nA w' (some ⟨w.heap.size,0,none⟩) zs∧Below w.heap.size w w':=by
 obtain ⟨inf,z,hi,hz0,hz1,hz2⟩:=tY (t:=2) (n:=1) (b:=8) (by kernel_rfl);go_enter func159,ntmps159;go_wp2_with (at_make; refine wpList_make_full _ rfl _ _ 164 rfl w.heap.size 2 inf z 1 underlying164 hi hz0 hz1 .i64 .i64 _ _ zs.length rfl rfl rfl rfl (by rw [hz2]; omega) (by unfold maxLen; omega) (Nat.le_refl _) ?_; intro w0 hown0 hgrow0);have F0:Fil w w0 w.heap.size (zs.length * 1) []:=lq hown0 hgrow0;clear hown0 hgrow0 hi hz0 hz1 hz2;go_loopw [4] (fun i wr=>∃ k:Nat,k≤zs.length∧i=.int .i64 k∧Fil w wr w.heap.size (zs.length * 1) (ints (zs.take k))) (fun i _=>zs.length - (intOf i).toNat);case atStart=>exact ⟨0,Nat.zero_le _,rfl,F0⟩
 case round =>
  obtain ⟨k,hk,rfl,F⟩:=hrel;by_cases hlt:k < zs.length
  ·rcases hs.below F.below with rfl | ⟨b,off,rfl,hb,hr⟩
   ·simp at hlt
   have t0:=hr k hlt;have fz:=F.free;obtain ⟨v0,u0⟩:=Option.isSome_iff_exists.mp (F.there k (by omega));have F2:=F.put (.int .i64 zs[k]) (o:=k) (by rw [Hd _ _ hk]) (by omega);rw [← Fv _ _ hlt] at F2;have HF:Hid (Fil w (wr.setCell ⟨w.heap.size,k,none⟩ (.int .i64 zs[k])) w.heap.size (zs.length * 1) (ints (zs.take (k + 1)))):=F2;clear F F0 hr F2 hs;go_wp2;go_roundw;case rel=>exact ⟨k + 1,by omega,by go_num,HF.out⟩
   case measure=>simp [intOf]; omega
  ·obtain rfl:k=zs.length:=by omega
   rw [List.take_length,Nat.mul_one] at F;go_wp2;go_ret;exact ⟨rfl,F.ints,F.below⟩
theorem wC (t s:ByteArray) (w:World) :
  Calls prog 170 #[.agg #[.string t,.string s]] w fun e w'=>e=.returned (.agg #[.string t,.string s])∧Below w.heap.size w w':=by
 have hB:=(((Below.refl w.heap.size w).alloc (Nat.le_refl _) (.cells #[.string t,.string s] 260)).alloc (by simp) (.cells #[.string t,.string s] 163)).alloc (by simp; omega) (.cells #[.string t,.string s] 163);go_enter func170,ntmps170;go_wp2;exact bodyPost_ret (v:=.agg #[.string t,.string s]) (by simp [results,Tryz.results170,go_sem, *]) rfl ⟨rfl,hB⟩
def pairs (xs:List Al):List Value:=xs.flatMap fun a=>[.string a.t,.string a.s]
theorem CE (xs:List Al) (k:Nat) (h:k < xs.length):pairs (xs.take (k + 1))=(pairs (xs.take k) ++ [.string xs[k].t]) ++ [.string xs[k].s]:=by
 unfold pairs; rw [List.take_succ_eq_append_getElem h,List.flatMap_append]; simp
theorem mO:∀ xs:List Al,(pairs xs).length=xs.length * 2
 | []=>rfl
 | a::xs=>by have:=mO xs; simp only [pairs,List.flatMap_cons,List.length_append,List.length_cons,List.length_nil] at this ⊢; omega
theorem tZ:∀ (xs:List Al) (i:Nat) (h:i < xs.length),(pairs xs)[i * 2]?=some (.string xs[i].t)∧(pairs xs)[i * 2 + 1]?=some (.string xs[i].s)
 | [],i,h=>by simp at h
 | a::xs,0,_=>by simp [pairs]
 | a::xs,i + 1,h=>by
  have:=tZ xs i (by simpa using h);simp only [pairs,List.flatMap_cons,List.cons_append,List.nil_append,List.getElem_cons_succ] at this ⊢;rw [show (i + 1) * 2=i * 2 + 1 + 1 by omega,show i * 2 + 1 + 1 + 1=(i * 2 + 1) + 1 + 1 by omega];simpa using this
theorem Fil.pairs {w w':World} {g:Nat} {xs:List Al} (h:Fil w w' g (xs.length * 2) (pairs xs)):fV w' (some ⟨g,0,none⟩) xs:=by
 refine .inr ⟨g,0,rfl,h.lt,fun i hi=>?_⟩;obtain ⟨h1,h2⟩:=tZ xs i hi;have hl:=mO xs;refine ⟨?_,?_⟩
 ·rw [Nat.zero_add,h.done (i * 2) (by omega),← h1,List.getElem?_eq_getElem (by omega)]
 ·rw [Nat.zero_add,h.done (i * 2 + 1) (by omega),← h2,List.getElem?_eq_getElem (by omega)]
theorem uf (ad:Option Addr) (cap:Nat) (xs:List Al) (w:World) (hlen:xs.length≤1048576) (hs:fV w ad xs) :
  Calls prog 158 #[.slice ad xs.length cap] w fun e w'=>e=.returned (.slice (some ⟨w.heap.size,0,none⟩) xs.length xs.length)∧fV w' (some ⟨w.heap.size,0,none⟩) xs∧Below w.heap.size w w':=by
 obtain ⟨inf,z,hi,hz0,hz1,hz2⟩:=tY (t:=163) (n:=2) (b:=32) (by kernel_rfl);go_enter func158,ntmps158;go_wp2_with (at_make; refine wpList_make_full _ rfl _ _ 160 rfl w.heap.size 163 inf z 2 underlying160 hi hz0 hz1 .i64 .i64 _ _ xs.length rfl rfl rfl rfl (by rw [hz2]; omega) (by unfold maxLen; omega) (Nat.le_refl _) ?_; intro w0 hown0 hgrow0);have F0:Fil w w0 w.heap.size (xs.length * 2) []:=lq hown0 hgrow0;clear hown0 hgrow0 hi hz0 hz1 hz2;go_loopw [4] (fun i wr=>∃ k:Nat,k≤xs.length∧i=.int .i64 k∧Fil w wr w.heap.size (xs.length * 2) (pairs (xs.take k))) (fun i _=>xs.length - (intOf i).toNat);case atStart=>exact ⟨0,Nat.zero_le _,rfl,F0⟩
 case round =>
  obtain ⟨k,hk,rfl,F⟩:=hrel;by_cases hlt:k < xs.length
  ·rcases hs.below F.below with rfl | ⟨b,off,rfl,hb,hr⟩
   ·simp at hlt
   obtain ⟨t0,t1⟩:=hr k hlt;go_wp2_with fail;refine (wC _ _ _).mono ?_;rintro e w1 ⟨rfl,hb1⟩;have F1:=F.later hb1;have fz:=F1.free;obtain ⟨v0,u0⟩:=Option.isSome_iff_exists.mp (F1.there (k * 2) (by omega));obtain ⟨v1,u1⟩:=Option.isSome_iff_exists.mp (F1.there (k * 2 + 1) (by omega));have hpl:(pairs (xs.take k)).length=k * 2:=by rw [mO,List.length_take,Nat.min_eq_left hk]
   have F2:=(F1.put (.string xs[k].t) (o:=k * 2) hpl.symm (by omega)).put (.string xs[k].s) (o:=k * 2 + 1) (by simp [hpl]) (by omega);rw [← CE _ _ hlt] at F2;have HF:Hid (Fil w ((w1.setCell ⟨w.heap.size,k * 2,none⟩ (.string xs[k].t)).setCell ⟨w.heap.size,k * 2 + 1,none⟩ (.string xs[k].s)) w.heap.size (xs.length * 2) (pairs (xs.take (k + 1)))):=F2;clear F F0 hr F1 F2 hs t0 t1 hb1 hpl;go_wp2;go_roundw;case rel=>exact ⟨k + 1,by omega,by go_num,HF.out⟩
   case measure=>simp [intOf]; omega
  ·obtain rfl:k=xs.length:=by omega
   rw [List.take_length] at F;go_wp2;go_ret;exact ⟨rfl,F.pairs,F.below⟩
end Go.Proofs.YtdaoiceeidoehaaGreat
