/- Contracts of the law's helpers that copy an expression into the program's types: new rows that hold the same. -/
import Derived.Test.YtdmniljjnaebbaaGreatDoorSq
import Derived.Test.YtdmniljjnaebbaaGreatDoorJ1
import Derived.Laws.IdiomStrings
import Derived.Deep.RegionHeld3
import Derived.Deep.QuietTactic
import Derived.BigQuiet
import Derived.WalkSmall
import Derived.WalkSpells
open Go.Proofs.Tryz
set_option maxHeartbeats 80000000
namespace Go.Proofs.YtdmniljjnaebbaaGreatDoor
open Go.ChangeShapes Go.WideShapes Go.ChangeAt Go.RowKit
open Pl
structure Fil (w wr:World) (g n:Nat) (xs:List Value):Prop where
 below:aa w wr
 ge:w.heap.size≤g
 lt:g < wr.heap.size
 done:∀ (j:Nat) (h:j < xs.length),wr.cell? ⟨g,j,none⟩=some xs[j]
 there:∀ j,j < n→(wr.cell? ⟨g,j,none⟩).isSome=true
 free:∀ j,wr.frozen? ⟨g,j,none⟩=false
theorem bu {w:af} {g i j:Nat} {v:Value} (h:i ≠ j):(w.setCell ⟨g,i,none⟩ v).cell? ⟨g,j,none⟩=w.cell? ⟨g,j,none⟩:=by
 apply World.cell?_setCell_other;intro e;exact h (congrArg Addr.off e)
theorem iM {w:af} {a:Addr} {v u:Value} (h:w.cell? a=some u):(w.setCell a v).cell? a=some v:=by
 apply World.cell?_setCell_same; exact h
theorem bz {w:af} {g h i j:Nat} {v:Value} (hn:g ≠ h):(w.setCell ⟨g,i,none⟩ v).cell? ⟨h,j,none⟩=w.cell? ⟨h,j,none⟩:=by
 apply World.cell?_setCell_other;intro e;exact hn (congrArg Addr.block e)
theorem Fil.later {w wr w1:af} {g n:Nat} {xs:List Value} (h:Fil w wr g n xs) (hb:aa wr w1):Fil w w1 g n xs where
 below:=h.below.trans (hb.mono h.below.size)
 ge:=h.ge
 lt:=Sg h.lt hb.size
 done j hj:=by rw [hb.cell (p:=⟨g,j,none⟩) h.lt]; exact h.done j hj
 there j hj:=by rw [hb.cell (p:=⟨g,j,none⟩) h.lt]; exact h.there j hj
 free j:=by rw [hb.frozen (p:=⟨g,j,none⟩) h.lt]; exact h.free j
theorem Fil.put {w wr:af} {g n o:Nat} {xs:List Value} (h:Fil w wr g n xs) (v:Value) (ho:o=xs.length) (hn:o < n):Fil w (wr.setCell ⟨g,o,none⟩ v) g n (xs ++ [v]) where
 below:=h.below.setCell (p:=⟨g,o,none⟩) h.ge v
 ge:=h.ge
 lt:=by simpa using h.lt
 done j hj:=by
  by_cases e:j=o
  ·subst e;obtain ⟨u,hu⟩:=Option.isSome_iff_exists.mp (h.there j hn);rw [iM hu];simp [ho]
  have hj':j < xs.length:=by simp at hj; omega
  rw [bu (Ne.symm e),h.done j hj',SN hj']
 there j hj:=by
  by_cases e:j=o
  ·subst e;obtain ⟨u,hu⟩:=Option.isSome_iff_exists.mp (h.there j hn);rw [iM hu]; rfl
  rw [bu (Ne.symm e)];exact h.there j hj
 free j:=by simpa using h.free j
theorem gX {w w0:af} {n k:Nat} {base:Nat} {e:TypeId} {xs:List Value} (h:w0.ownsRow base e k (.slice (some ⟨w.heap.size,0,none⟩) n n) n xs) (hg:w.grownBy w0 none):Fil w w0 w.heap.size (n * k) [] where
 below:=(Si _ _).grown hg (Sj _) (fun k hk=>by cases hk)
 ge:=Sj _
 lt:=(h.lt w.heap.size rfl).2
 done j hj:=absurd hj (SV _)
 there j hj:=by
  rw [h.cellAt j hj,Sw (by rw [h.1]; exact hj)]; rfl
 free j:=h.frozenAt j
theorem lH {t:TypeId} {n b:Nat} (h:(prog.info? t).map (fun i=>(i.zero.isSome,i.size,i.bytes))=some (true,n,b)):∃ i z,prog.info? t=some i∧i.zero=some z∧i.size=n∧i.bytes=b:=by
 cases hi:prog.info? t with
 | none=>rw [hi] at h; cases h
 | some i =>
  rw [hi] at h;simp at h;obtain ⟨z,hz⟩:=Option.isSome_iff_exists.mp h.1;exact ⟨i,z,rfl,hz,h.2.1,h.2.2⟩
def ints (zs:List Int):List Value:=zs.map (Value.int .i64)
theorem AX (zs:List Int) (k:Nat) (h:k < zs.length):ints (zs.take (k + 1))=ints (zs.take k) ++ [.int .i64 zs[k]]:=by
 unfold ints; rw [Sk h,List.map_append]; rfl
theorem D7 (zs:List Int) (k:Nat) (h:k≤zs.length):(ints (zs.take k)).length=k:=by simp [ints]; omega
theorem Fil.ints {w w':af} {g:Nat} {zs:List Int} (h:Fil w w' g zs.length (ints zs)):mZ w' (some ⟨g,0,none⟩) zs :=
 .inr ⟨g,0,rfl,h.lt,fun i hi=>by rw [SG,h.done i (by simpa [YtdmniljjnaebbaaGreatDoor.ints] using hi)]; simp [YtdmniljjnaebbaaGreatDoor.ints]⟩
theorem Ct (ad:Option Addr) (cap:Nat) (zs:List Int) (w:af) (hlen:zs.length≤1048576) (hs:mZ w ad zs) :
  Calls prog 190 #[.slice ad zs.length cap] w fun e w'=>e=.returned (.slice (some ⟨w.heap.size,0,none⟩) zs.length zs.length)∧mZ w' (some ⟨w.heap.size,0,none⟩) zs∧aa w w':=by
 obtain ⟨inf,z,hi,hz0,hz1,hz2⟩:=lH (t:=2) (n:=1) (b:=8) (by kernel_rfl);go_enter func190,ntmps190;go_wp2_with (at_make; refine wpList_make_full _ rfl _ _ 188 rfl w.heap.size 2 inf z 1 underlying188 hi hz0 hz1 .i64 .i64 _ _ zs.length rfl rfl rfl rfl (by rw [hz2]; omega) (by unfold maxLen; omega) (Sj _) ?_; intro w0 hown0 Tg);have F0:Fil w w0 w.heap.size (zs.length * 1) []:=gX hown0 Tg;clear hown0 Tg hi hz0 hz1 hz2;go_loopw [4] (fun i wr=>∃ k:Nat,k≤zs.length∧i=.int .i64 k∧Fil w wr w.heap.size (zs.length * 1) (ints (zs.take k))) (fun i _=>zs.length - (intOf i).toNat);case atStart=>exact ⟨0,Sm _,rfl,F0⟩
 obtain ⟨k,hk,rfl,F⟩:=hrel;by_cases hlt:k < zs.length
 ·rcases hs.below F.below with rfl | ⟨b,off,rfl,hb,hr⟩
  ·simp at hlt
  have t0:=hr k hlt;have fz:=F.free;obtain ⟨v0,u0⟩:=Option.isSome_iff_exists.mp (F.there k (by omega));have F2:=F.put (.int .i64 zs[k]) (o:=k) (by rw [D7 _ _ hk]) (by omega);rw [← AX _ _ hlt] at F2;have HF:=ay F2;clear F F0 hr F2 hs;go_wp2;go_roundw;case rel=>exact ⟨k + 1,by omega,by go_num,HF.out⟩
  simp [intOf]; omega
 obtain rfl:k=zs.length:=by omega
 rw [Su,Nat.mul_one] at F;go_wp2;go_ret;exact ⟨rfl,F.ints,F.below⟩
theorem qz (t s:dB) (w:af) :
  Calls prog 209 #[.agg #[.string t,.string s]] w fun e w'=>e=.returned (.agg #[.string t,.string s])∧aa w w':=by
 have hB:=(((Si w.heap.size w).alloc (Sj _) (.cells #[.string t,.string s] 311)).alloc (by simp) (.cells #[.string t,.string s] 204)).alloc (by simp; omega) (.cells #[.string t,.string s] 204);go_enter func209,ntmps209;go_wp2;exact bodyPost_ret (v:=.agg #[.string t,.string s]) (by simp [results,Tryz.results209,go_sem, *]) rfl ⟨rfl,hB⟩
def pairs (xs:List Al):List Value:=xs.flatMap fun a=>[.string a.t,.string a.s]
theorem xV (xs:List Al) (k:Nat) (h:k < xs.length):pairs (xs.take (k + 1))=(pairs (xs.take k) ++ [.string xs[k].t]) ++ [.string xs[k].s]:=by
 unfold pairs; rw [Sk h,List.flatMap_append]; simp
theorem lY:∀ xs:List Al,(pairs xs).length=xs.length * 2
 | []=>rfl
 | a::xs=>by have:=lY xs; simp only [pairs,List.flatMap_cons,Sr,List.length_cons,List.length_nil] at this ⊢; omega
theorem xW:∀ (xs:List Al) (i:Nat) (h:i < xs.length),(pairs xs)[i * 2]?=some (.string xs[i].t)∧(pairs xs)[i * 2 + 1]?=some (.string xs[i].s)
 | [],i,h=>by simp at h
 | a::xs,0,_=>by simp [pairs]
 | a::xs,i + 1,h=>by
  have:=xW xs i (by simpa using h);simp only [pairs,List.flatMap_cons,List.cons_append,List.nil_append,List.getElem_cons_succ] at this ⊢;rw [show (i + 1) * 2=i * 2 + 1 + 1 by omega,show i * 2 + 1 + 1 + 1=(i * 2 + 1) + 1 + 1 by omega];simpa using this
theorem Fil.pairs {w w':af} {g:Nat} {xs:List Al} (h:Fil w w' g (xs.length * 2) (pairs xs)):gP w' (some ⟨g,0,none⟩) xs:=by
 refine .inr ⟨g,0,rfl,h.lt,fun i hi=>?_⟩;obtain ⟨h1,h2⟩:=xW xs i hi;have hl:=lY xs;refine ⟨?_,?_⟩
 ·rw [SG,h.done (i * 2) (by omega),← h1,Sw (by omega)]
 rw [SG,h.done (i * 2 + 1) (by omega),← h2,Sw (by omega)]
theorem xX (ad:Option Addr) (cap:Nat) (xs:List Al) (w:af) (hlen:xs.length≤1048576) (hs:gP w ad xs) :
  Calls prog 189 #[.slice ad xs.length cap] w fun e w'=>e=.returned (.slice (some ⟨w.heap.size,0,none⟩) xs.length xs.length)∧gP w' (some ⟨w.heap.size,0,none⟩) xs∧aa w w':=by
 obtain ⟨inf,z,hi,hz0,hz1,hz2⟩:=lH (t:=204) (n:=2) (b:=32) (by kernel_rfl);go_enter func189,ntmps189;go_wp2_with (at_make; refine wpList_make_full _ rfl _ _ 187 rfl w.heap.size 204 inf z 2 underlying187 hi hz0 hz1 .i64 .i64 _ _ xs.length rfl rfl rfl rfl (by rw [hz2]; omega) (by unfold maxLen; omega) (Sj _) ?_; intro w0 hown0 Tg);have F0:Fil w w0 w.heap.size (xs.length * 2) []:=gX hown0 Tg;clear hown0 Tg hi hz0 hz1 hz2;go_loopw [4] (fun i wr=>∃ k:Nat,k≤xs.length∧i=.int .i64 k∧Fil w wr w.heap.size (xs.length * 2) (pairs (xs.take k))) (fun i _=>xs.length - (intOf i).toNat);case atStart=>exact ⟨0,Sm _,rfl,F0⟩
 obtain ⟨k,hk,rfl,F⟩:=hrel;by_cases hlt:k < xs.length
 ·rcases hs.below F.below with rfl | ⟨b,off,rfl,hb,hr⟩
  ·simp at hlt
  obtain ⟨t0,t1⟩:=hr k hlt;go_wp2_with fail;refine (qz _ _ _).mono ?_;rintro e w1 ⟨rfl,hb1⟩;have F1:=F.later hb1;have fz:=F1.free;obtain ⟨v0,u0⟩:=Option.isSome_iff_exists.mp (F1.there (k * 2) (by omega));obtain ⟨v1,u1⟩:=Option.isSome_iff_exists.mp (F1.there (k * 2 + 1) (by omega));have hpl:(pairs (xs.take k)).length=k * 2:=by rw [lY,SL,Nat.min_eq_left hk]
  have F2:=(F1.put (.string xs[k].t) (o:=k * 2) hpl.symm (by omega)).put (.string xs[k].s) (o:=k * 2 + 1) (by simp [hpl]) (by omega);rw [← xV _ _ hlt] at F2;have HF:=ay F2;clear F F0 hr F1 F2 hs t0 t1 hb1 hpl;go_wp2;go_roundw;case rel=>exact ⟨k + 1,by omega,by go_num,HF.out⟩
  simp [intOf]; omega
 obtain rfl:k=xs.length:=by omega
 rw [Su] at F;go_wp2;go_ret;exact ⟨rfl,F.pairs,F.below⟩
theorem gP.set {w:af} {ad:Option Addr} {xs:List Al} {g o:Nat} {v:Value} (h:gP w ad xs) (hn:∀ b off,ad=some ⟨b,off,none⟩→g ≠ b):gP (w.setCell ⟨g,o,none⟩ v) ad xs:=by
 rcases h with h | ⟨b,off,e,hb,hr⟩
 ·exact .inl h
 exact .inr ⟨b,off,e,by simpa using hb,fun i hi=>(hr i hi).same fun o=>bz (hn b off e)⟩
theorem mZ.set {w:af} {ad:Option Addr} {zs:List Int} {g o:Nat} {v:Value} (h:mZ w ad zs) (hn:∀ b off,ad=some ⟨b,off,none⟩→g ≠ b):mZ (w.setCell ⟨g,o,none⟩ v) ad zs:=by
 rcases h with h | ⟨b,off,e,hb,hr⟩
 ·exact .inl h
 exact .inr ⟨b,off,e,by simpa using hb,fun i hi=>by rw [bz (hn b off e)]; exact hr i hi⟩
theorem kept {W w1:af} {n o:Nat} {v:Value} (hb:aa W w1) (hn:n < W.heap.size) (h:W.cell? ⟨n,o,none⟩=some v):w1.cell? ⟨n,o,none⟩=some v:=by
 rw [hb.cell (p:=⟨n,o,none⟩) hn]; exact h
theorem dV {W w1:af} {n o:Nat} (hb:aa W w1) (hn:n < W.heap.size) (h:W.frozen? ⟨n,o,none⟩=false):w1.frozen? ⟨n,o,none⟩=false:=by
 rw [hb.frozen (p:=⟨n,o,none⟩) hn]; exact h
theorem dM (w:af) (x:Obj) (C:Array Value) (t:TypeId) (k:Nat) {v:Value} (h:C[k]?=some v):((w.alloc x).alloc (.cells C t)).cell? ⟨w.heap.size + 1,k,none⟩=some v:=by
 have:=World.cell?_alloc_mark (w.alloc x) C t (0,0) k;rw [World.size_alloc,h] at this;exact this
theorem fw (w:af) (x y:Obj) (C:Array Value) (t:TypeId) (k:Nat) {v:Value} (h:C[k]?=some v):(((w.alloc x).alloc y).alloc (.cells C t)).cell? ⟨w.heap.size + 1 + 1,k,none⟩=some v:=by
 have:=dM (w.alloc x) y C t k h;rw [World.size_alloc] at this;exact this
theorem nA (w:af) (x:Obj) (C:Array Value) (t:TypeId) {k:Nat}:((w.alloc x).alloc (.cells C t)).frozen? ⟨w.heap.size + 1,k,none⟩=false:=by
 have:((w.alloc x).alloc (.cells C t)).frozen? ⟨(w.alloc x).heap.size,k,none⟩=false:=by simp
 rw [World.size_alloc] at this;exact this
theorem pQ (w:af) (x y:Obj) (C:Array Value) (t:TypeId) {k:Nat}:(((w.alloc x).alloc y).alloc (.cells C t)).frozen? ⟨w.heap.size + 1 + 1,k,none⟩=false:=by
 have:=nA (w.alloc x) y C t (k:=k);rw [World.size_alloc] at this;exact this
theorem Gt (r:ER) (w:af) (hr:r.ok w) (hl:r.e.light) :
  Calls prog 161 #[r.val] w fun e w'=>∃ (r':ER) (gA gK:Nat),e=.returned r'.val∧r'.e=r.e∧r'.adA=some ⟨gA,0,none⟩∧r'.adK=some ⟨gK,0,none⟩∧w.heap.size≤gA∧w.heap.size≤gK∧r'.ok w'∧r'.capA=r'.e.allow.length∧aa w w':=by
 obtain ⟨⟨kind,allow,over,name,kids⟩,adA,capA,adK,capK⟩:=r;obtain ⟨hA,hK⟩:=hr;obtain ⟨l1,l2⟩:=hl;simp only at hA hK l1 l2;simp only [ER.val];have HA:=ay hA;have HK:Hid (mZ w adK kids):=hK;clear hA hK;go_enter func161,ntmps161;go_wp2_with fail;obtain ⟨W1,hW1⟩:∃ W1,W1=((w.alloc (.cells #[.int .i64 kind,.slice adA allow.length capA,.string over,.string name,.slice adK kids.length capK] 262)).alloc (.cells #[.int .i64 0,.slice none 0 0,.string ⟨#[]⟩,.string ⟨#[]⟩,.slice none 0 0] 190)).alloc (.cells #[.int .i64 kind,.slice none 0 0,.string ⟨#[]⟩,.string ⟨#[]⟩,.slice none 0 0] 190):=⟨_,rfl⟩;rw [← hW1];have hz1:w.heap.size + 3≤W1.heap.size:=by rw [hW1]; simp only [World.size_alloc]; omega
 have hb0:aa w W1:=by rw [hW1]; exact (((Si w.heap.size w).alloc (Sj _) _).alloc (by simp) _).alloc (by simp; omega) _
 have bB:Below (w.alloc (.cells #[.int .i64 kind,.slice adA allow.length capA,.string over,.string name,.slice adK kids.length capK] 262)).heap.size (w.alloc (.cells #[.int .i64 kind,.slice adA allow.length capA,.string over,.string name,.slice adK kids.length capK] 262)) W1:=by rw [hW1]; exact ((Si _ _).alloc (Sj _) _).alloc (by simp) _
 have bC:Below ((w.alloc (.cells #[.int .i64 kind,.slice adA allow.length capA,.string over,.string name,.slice adK kids.length capK] 262)).alloc (.cells #[.int .i64 0,.slice none 0 0,.string ⟨#[]⟩,.string ⟨#[]⟩,.slice none 0 0] 190)).heap.size ((w.alloc (.cells #[.int .i64 kind,.slice adA allow.length capA,.string over,.string name,.slice adK kids.length capK] 262)).alloc (.cells #[.int .i64 0,.slice none 0 0,.string ⟨#[]⟩,.string ⟨#[]⟩,.slice none 0 0] 190)) W1:=by rw [hW1]; exact (Si _ _).alloc (Sj _) _
 have hfr:∀ i,W1.frozen? ⟨w.heap.size + 1,i,none⟩=false∧W1.frozen? ⟨w.heap.size + 1 + 1,i,none⟩=false:=fun i=>⟨dV bC (by simp) (nA _ _ _ _),by rw [hW1]; exact pQ _ _ _ _ _⟩;have s2:W1.cell? ⟨w.heap.size,2,none⟩=some (.string over):=kept bB (by simp) (by simp);have s3:W1.cell? ⟨w.heap.size,3,none⟩=some (.string name):=kept bB (by simp) (by simp);have s4:W1.cell? ⟨w.heap.size,4,none⟩=some (.slice adK kids.length capK):=kept bB (by simp) (by simp);have z0:W1.cell? ⟨w.heap.size + 1,0,none⟩=some (.int .i64 0):=kept bC (by simp) (dM _ _ _ _ _ rfl);have z1:W1.cell? ⟨w.heap.size + 1,1,none⟩=some (.slice none 0 0):=kept bC (by simp) (dM _ _ _ _ _ rfl);have z2:W1.cell? ⟨w.heap.size + 1,2,none⟩=some (.string ⟨#[]⟩):=kept bC (by simp) (dM _ _ _ _ _ rfl);have z3:W1.cell? ⟨w.heap.size + 1,3,none⟩=some (.string ⟨#[]⟩):=kept bC (by simp) (dM _ _ _ _ _ rfl);have z4:W1.cell? ⟨w.heap.size + 1,4,none⟩=some (.slice none 0 0):=kept bC (by simp) (dM _ _ _ _ _ rfl);have o0:W1.cell? ⟨w.heap.size + 1 + 1,0,none⟩=some (.int .i64 kind):=by rw [hW1]; exact fw _ _ _ _ _ _ rfl
 have o1:W1.cell? ⟨w.heap.size + 1 + 1,1,none⟩=some (.slice none 0 0):=by rw [hW1]; exact fw _ _ _ _ _ _ rfl
 have o2:W1.cell? ⟨w.heap.size + 1 + 1,2,none⟩=some (.string ⟨#[]⟩):=by rw [hW1]; exact fw _ _ _ _ _ _ rfl
 have o3:W1.cell? ⟨w.heap.size + 1 + 1,3,none⟩=some (.string ⟨#[]⟩):=by rw [hW1]; exact fw _ _ _ _ _ _ rfl
 have o4:W1.cell? ⟨w.heap.size + 1 + 1,4,none⟩=some (.slice none 0 0):=by rw [hW1]; exact fw _ _ _ _ _ _ rfl
 clear hW1 bB bC;refine (xX adA capA allow W1 l1 (HA.out.below hb0)).mono ?_;rintro e w1 ⟨rfl,hSA,hb1⟩;replace s2:=kept hb1 (by omega) s2;replace s3:=kept hb1 (by omega) s3;replace s4:=kept hb1 (by omega) s4;replace z0:=kept hb1 (by omega) z0;replace z1:=kept hb1 (by omega) z1;replace z2:=kept hb1 (by omega) z2;replace z3:=kept hb1 (by omega) z3;replace z4:=kept hb1 (by omega) z4;replace o0:=kept hb1 (by omega) o0;replace o1:=kept hb1 (by omega) o1;replace o2:=kept hb1 (by omega) o2;replace o3:=kept hb1 (by omega) o3;replace o4:=kept hb1 (by omega) o4;have f1:∀ i,w1.frozen? ⟨w.heap.size + 1,i,none⟩=false:=fun i=>dV hb1 (by omega) (hfr i).1;have f2:∀ i,w1.frozen? ⟨w.heap.size + 1 + 1,i,none⟩=false:=fun i=>dV hb1 (by omega) (hfr i).2;have hB1:aa w w1:=hb0.trans (hb1.mono (by omega));have hs1:w.heap.size + 3≤w1.heap.size:=by have:=hb1.size; omega
 obtain ⟨W2,hW2⟩:∃ W2,W2=((w1.setCell ⟨w.heap.size + 1 + 1,1,none⟩ (.slice (some ⟨W1.heap.size,0,none⟩) allow.length allow.length)).setCell ⟨w.heap.size + 1 + 1,2,none⟩ (.string over)).setCell ⟨w.heap.size + 1 + 1,3,none⟩ (.string name):=⟨_,rfl⟩;have HB2:Hid (aa w W2):=by show Below _ _ _; rw [hW2]; exact ((hB1.setCell (p:=⟨w.heap.size + 1 + 1,1,none⟩) (by simp; omega) _).setCell (p:=⟨w.heap.size + 1 + 1,2,none⟩) (by simp; omega) _).setCell (p:=⟨w.heap.size + 1 + 1,3,none⟩) (by simp; omega) _
 have hne:∀ b off,(some ⟨W1.heap.size,0,none⟩:Option Addr)=some ⟨b,off,none⟩→w.heap.size + 1 + 1 ≠ b:=fun b off e=>by injection e with e; injection e with e1 e2; omega
 have HS2:Hid (gP W2 (some ⟨W1.heap.size,0,none⟩) allow):=by show gP _ _ _; rw [hW2]; exact ((hSA.set hne).set hne).set hne
 have hs2:w.heap.size + 3≤W2.heap.size:=by rw [hW2]; simp only [World.size_setCell]; omega
 clear hSA hb1 hB1 hb0 hfr HA;go_wp2_with fail;rw [← hW2];have S4:W2.cell? ⟨w.heap.size,4,none⟩=some (.slice adK kids.length capK):=by rw [hW2,bz (by omega),bz (by omega),bz (by omega)]; exact s4
 have Z0:W2.cell? ⟨w.heap.size + 1,0,none⟩=some (.int .i64 0):=by rw [hW2,bz (by omega),bz (by omega),bz (by omega)]; exact z0
 have Z1:W2.cell? ⟨w.heap.size + 1,1,none⟩=some (.slice none 0 0):=by rw [hW2,bz (by omega),bz (by omega),bz (by omega)]; exact z1
 have Z2:W2.cell? ⟨w.heap.size + 1,2,none⟩=some (.string ⟨#[]⟩):=by rw [hW2,bz (by omega),bz (by omega),bz (by omega)]; exact z2
 have Z3:W2.cell? ⟨w.heap.size + 1,3,none⟩=some (.string ⟨#[]⟩):=by rw [hW2,bz (by omega),bz (by omega),bz (by omega)]; exact z3
 have Z4:W2.cell? ⟨w.heap.size + 1,4,none⟩=some (.slice none 0 0):=by rw [hW2,bz (by omega),bz (by omega),bz (by omega)]; exact z4
 have O0:W2.cell? ⟨w.heap.size + 1 + 1,0,none⟩=some (.int .i64 kind):=by rw [hW2,bu (by omega),bu (by omega),bu (by omega)]; exact o0
 have O1:W2.cell? ⟨w.heap.size + 1 + 1,1,none⟩=some (.slice (some ⟨W1.heap.size,0,none⟩) allow.length allow.length):=by rw [hW2,bu (by omega),bu (by omega)]; exact iM o1
 have O2:W2.cell? ⟨w.heap.size + 1 + 1,2,none⟩=some (.string over):=by rw [hW2,bu (by omega)]; exact iM (by rw [bu (by omega)]; exact o2)
 have O3:W2.cell? ⟨w.heap.size + 1 + 1,3,none⟩=some (.string name):=by rw [hW2]; exact iM (by rw [bu (by omega),bu (by omega)]; exact o3)
 have O4:W2.cell? ⟨w.heap.size + 1 + 1,4,none⟩=some (.slice none 0 0):=by rw [hW2,bu (by omega),bu (by omega),bu (by omega)]; exact o4
 have F1:∀ i,W2.frozen? ⟨w.heap.size + 1,i,none⟩=false:=fun i=>by rw [hW2]; simpa using f1 i
 have F2:∀ i,W2.frozen? ⟨w.heap.size + 1 + 1,i,none⟩=false:=fun i=>by rw [hW2]; simpa using f2 i
 clear hW2 s2 s3 s4 z0 z1 z2 z3 z4 o0 o1 o2 o3 o4 f1 f2;refine (Ct adK capK kids W2 l2 (HK.out.below HB2.out)).mono ?_;rintro e w2 ⟨rfl,hSK,hb2⟩;replace S4:=kept hb2 (by omega) S4;replace Z0:=kept hb2 (by omega) Z0;replace Z1:=kept hb2 (by omega) Z1;replace Z2:=kept hb2 (by omega) Z2;replace Z3:=kept hb2 (by omega) Z3;replace Z4:=kept hb2 (by omega) Z4;replace O0:=kept hb2 (by omega) O0;replace O1:=kept hb2 (by omega) O1;replace O2:=kept hb2 (by omega) O2;replace O3:=kept hb2 (by omega) O3;replace O4:=kept hb2 (by omega) O4;replace F1:∀ i,w2.frozen? ⟨w.heap.size + 1,i,none⟩=false:=fun i=>dV hb2 (by omega) (F1 i);replace F2:∀ i,w2.frozen? ⟨w.heap.size + 1 + 1,i,none⟩=false:=fun i=>dV hb2 (by omega) (F2 i);have HB3:=jb HB2 hb2;have UN:=ay (HS2.out.below hb2);have HT3:=ay hSK;have hlt3:w.heap.size + 3≤w2.heap.size:=by have:=hb2.size; omega
 clear hb2 hSK HB2 HS2 HK hne;have hn1:∀ b off,(some ⟨W1.heap.size,0,none⟩:Option Addr)=some ⟨b,off,none⟩→w.heap.size + 1 ≠ b:=fun b off e=>by injection e with e; injection e with e1 e2; omega
 have hn2:∀ b off,(some ⟨W1.heap.size,0,none⟩:Option Addr)=some ⟨b,off,none⟩→w.heap.size + 1 + 1 ≠ b:=fun b off e=>by injection e with e; injection e with e1 e2; omega
 have hk1:∀ b off,(some ⟨W2.heap.size,0,none⟩:Option Addr)=some ⟨b,off,none⟩→w.heap.size + 1 ≠ b:=fun b off e=>by injection e with e; injection e with e1 e2; omega
 have hk2:∀ b off,(some ⟨W2.heap.size,0,none⟩:Option Addr)=some ⟨b,off,none⟩→w.heap.size + 1 + 1 ≠ b:=fun b off e=>by injection e with e; injection e with e1 e2; omega
 have N1:Hid (∀ b off,(some ⟨W1.heap.size,0,none⟩:Option Addr)=some ⟨b,off,none⟩→w.heap.size + 1 ≠ b):=hn1;have N2:Hid (∀ b off,(some ⟨W1.heap.size,0,none⟩:Option Addr)=some ⟨b,off,none⟩→w.heap.size + 1 + 1 ≠ b):=hn2;have N3:Hid (∀ b off,(some ⟨W2.heap.size,0,none⟩:Option Addr)=some ⟨b,off,none⟩→w.heap.size + 1 ≠ b):=hk1;have N4:Hid (∀ b off,(some ⟨W2.heap.size,0,none⟩:Option Addr)=some ⟨b,off,none⟩→w.heap.size + 1 + 1 ≠ b):=hk2;clear hn1 hn2 hk1 hk2;go_wp2;refine bodyPost_ret (v:=.agg #[.int .i64 kind,.slice (some ⟨W1.heap.size,0,none⟩) allow.length allow.length,.string over,.string name,.slice (some ⟨W2.heap.size,0,none⟩) kids.length kids.length]) (by simp [results,Tryz.results161,go_sem, *]) rfl ⟨⟨⟨kind,allow,over,name,kids⟩,some ⟨W1.heap.size,0,none⟩,allow.length,some ⟨W2.heap.size,0,none⟩,kids.length⟩,_,_,rfl,rfl,rfl,rfl,by omega,by omega,⟨?_,?_⟩,rfl,?_⟩
 ·exact (((((UN.out.set N2.out).set N1.out).set N1.out).set N1.out).set N1.out).set N1.out
 ·exact (((((HT3.out.set N4.out).set N3.out).set N3.out).set N3.out).set N3.out).set N3.out
 exact (((((HB3.out.setCell (p:=⟨w.heap.size + 1 + 1,4,none⟩) (by simp; omega) _).setCell (p:=⟨w.heap.size + 1,0,none⟩) (by simp) _).setCell (p:=⟨w.heap.size + 1,1,none⟩) (by simp) _).setCell (p:=⟨w.heap.size + 1,2,none⟩) (by simp) _).setCell (p:=⟨w.heap.size + 1,3,none⟩) (by simp) _).setCell (p:=⟨w.heap.size + 1,4,none⟩) (by simp) _
def ER.row (r:ER):List Value:=[.int .i64 r.e.kind,.slice r.adA r.e.allow.length r.capA,.string r.e.over,.string r.e.name,.slice r.adK r.e.kids.length r.capK]
def jR (rs:List ER):List Value:=rs.flatMap ER.row
theorem pR:∀ rs:List ER,(jR rs).length=rs.length * 5
 | []=>rfl
 | r::rs=>by have:=pR rs; simp only [jR,ER.row,List.flatMap_cons,Sr,List.length_cons,List.length_nil] at this ⊢; omega
theorem D8:∀ (rs:List ER) (i:Nat) (h:i < rs.length) (j:Nat),j < 5→(jR rs)[i * 5 + j]?=(rs[i]).row[j]?
 | [],i,h,_,_=>by simp at h
 | r::rs,0,_,j,hj=>by
  simp only [jR,List.flatMap_cons,Nat.zero_mul,SG,List.getElem_cons_zero];rw [List.getElem?_append_left (by simpa [ER.row] using hj)]
 | r::rs,i + 1,h,j,hj=>by
  have:=D8 rs i (by simpa using h) j hj;simp only [jR,List.flatMap_cons,List.getElem_cons_succ] at this ⊢;rw [List.getElem?_append_right (by simp [ER.row]; omega),← this];congr 1;simp [ER.row]; omega
theorem Fil.rows {w w':af} {g:Nat} {rs:List ER} (h:Fil w w' g (rs.length * 5) (jR rs)) (hok:∀ r ∈ rs,r.ok w'):fQ w' (some ⟨g,0,none⟩) rs:=by
 refine .inr ⟨g,0,rfl,h.lt,fun i hi=>?_,hok⟩;have hl:=pR rs;have key:∀ j,j < 5→w'.cell? ⟨g,0 + i * 5 + j,none⟩=(rs[i]).row[j]?:=fun j hj=>by
  rw [SG,h.done (i * 5 + j) (by omega),← D8 rs i hi j hj,Sw (by omega)]
 exact ⟨key 0 (by omega),key 1 (by omega),key 2 (by omega),key 3 (by omega),key 4 (by omega)⟩
def ER.new (B:Nat) (r:ER):Prop:=∃ gA gK:Nat,r.adA=some ⟨gA,0,none⟩∧r.adK=some ⟨gK,0,none⟩∧B < gA∧B < gK∧r.capA=r.e.allow.length
theorem ER.ok.set {w:af} {r:ER} {g o:Nat} {v:Value} (h:r.ok w) (hn:r.new g):r.ok (w.setCell ⟨g,o,none⟩ v):=by
 obtain ⟨gA,gK,e1,e2,h1,h2,-⟩:=hn;refine ⟨h.1.set fun b off e=>?_,h.2.set fun b off e=>?_⟩
 ·rw [e1] at e; injection e with e; injection e with e3 e4; omega
 rw [e2] at e; injection e with e; injection e with e3 e4; omega
theorem D9 (ad:Option Addr) (cap:Nat) (rs:List ER) (w:af) (hlen:rs.length≤1048576) (hs:fQ w ad rs) (hl:∀ r ∈ rs,r.e.light) :
  Calls prog 119 #[.slice ad rs.length cap] w fun e w'=>∃ rs':List ER,e=.returned (.slice (some ⟨w.heap.size,0,none⟩) rs'.length rs'.length)∧ai rs'=ai rs∧fQ w' (some ⟨w.heap.size,0,none⟩) rs'∧(∀ r ∈ rs',r.capA=r.e.allow.length)∧(∀ r ∈ rs',r.new w.heap.size)∧aa w w':=by
 obtain ⟨inf,z,hi,hz0,hz1,hz2⟩:=lH (t:=190) (n:=5) (b:=88) (by kernel_rfl);have Uj:=ay hs;have UC:=ay hl;clear hs hl;go_enter func119,ntmps119;go_wp2_with (at_make; refine wpList_make_full _ rfl _ _ 120 rfl w.heap.size 190 inf z 5 underlying120 hi hz0 hz1 .i64 .i64 _ _ rs.length rfl rfl rfl rfl (by rw [hz2]; omega) (by unfold maxLen; omega) (Sj _) ?_; intro w0 hown0 Tg);have F0:Fil w w0 w.heap.size (rs.length * 5) []:=gX hown0 Tg;clear hown0 Tg hi hz0 hz1 hz2;go_loopw [4] (fun i wr=>∃ (k:Nat) (qs:List ER),k≤rs.length∧i=.int .i64 k∧Hid (qs.length=k∧ai qs=(ai rs).take k∧(∀ q ∈ qs,q.ok wr∧q.new w.heap.size))∧Fil w wr w.heap.size (rs.length * 5) (jR qs)) (fun i _=>rs.length - (intOf i).toNat);case atStart=>exact ⟨0,[],Sm _,rfl,⟨rfl,by simp [ai],(fun q hq=>by cases hq)⟩,F0⟩
 obtain ⟨k,qs,hk,rfl,HQ,F⟩:=hrel;by_cases hlt:k < rs.length
 ·rcases Uj.out.below F.below with rfl | ⟨b,off,rfl,hb,hr,hok⟩
  ·simp at hlt
  obtain ⟨t0,t1,t2,t3,t4⟩:=hr k hlt;have ok:=hok rs[k] (Sd hlt);have lg:=UC.out rs[k] (Sd hlt);clear hr hok;go_wp2_with fail;refine (Gt rs[k] _ ok lg).mono ?_;rintro e w1 ⟨q,gA,gK,rfl,hqe,hqA,hqK,hgA,hgK,Ue,hqc,hb1⟩;have F1:=F.later hb1;have fz:=F1.free;obtain ⟨v0,u0⟩:=Option.isSome_iff_exists.mp (F1.there (k * 5) (by omega));obtain ⟨v1,u1⟩:=Option.isSome_iff_exists.mp (F1.there (k * 5 + 1) (by omega));obtain ⟨v2,u2⟩:=Option.isSome_iff_exists.mp (F1.there (k * 5 + 2) (by omega));obtain ⟨v3,u3⟩:=Option.isSome_iff_exists.mp (F1.there (k * 5 + 3) (by omega));obtain ⟨v4,u4⟩:=Option.isSome_iff_exists.mp (F1.there (k * 5 + 4) (by omega));have hpl:(jR qs).length=k * 5:=by rw [pR,HQ.out.1]
  have F2:=((((F1.put (.int .i64 q.e.kind) (o:=k * 5) hpl.symm (by omega)).put (.slice q.adA q.e.allow.length q.capA) (o:=k * 5 + 1) (by simp [hpl]) (by omega)).put (.string q.e.over) (o:=k * 5 + 2) (by simp [hpl]) (by omega)).put (.string q.e.name) (o:=k * 5 + 3) (by simp [hpl]) (by omega)).put (.slice q.adK q.e.kids.length q.capK) (o:=k * 5 + 4) (by simp [hpl]) (by omega);have e5:((((jR qs ++ [.int .i64 q.e.kind]) ++ [.slice q.adA q.e.allow.length q.capA]) ++ [.string q.e.over]) ++ [.string q.e.name]) ++ [.slice q.adK q.e.kids.length q.capK]=jR (qs ++ [q]):=by simp [jR,ER.row]
  rw [e5] at F2;obtain ⟨wn,hwn⟩:∃ wn,wn=((((w1.setCell ⟨w.heap.size,k * 5,none⟩ (.int .i64 q.e.kind)).setCell ⟨w.heap.size,k * 5 + 1,none⟩ (.slice q.adA q.e.allow.length q.capA)).setCell ⟨w.heap.size,k * 5 + 2,none⟩ (.string q.e.over)).setCell ⟨w.heap.size,k * 5 + 3,none⟩ (.string q.e.name)).setCell ⟨w.heap.size,k * 5 + 4,none⟩ (.slice q.adK q.e.kids.length q.capK):=⟨_,rfl⟩;have hnew:q.new w.heap.size:=⟨gA,gK,hqA,hqK,by have:=F.lt; omega,by have:=F.lt; omega,hqc⟩;have WF:Hid ((qs ++ [q]).length=k + 1∧ai (qs ++ [q])=(ai rs).take (k + 1)∧∀ p ∈ qs ++ [q],p.ok wn∧p.new w.heap.size):=by
   obtain ⟨h1,h2,h3⟩:=HQ.out;refine ⟨by simp [h1],?_,?_⟩
   ·rw [Sk (by rw [aS]; exact hlt),← h2];simp [ai,hqe]
   intro p hp;rw [Sz,SF] at hp;have st:∀ p:ER,p.ok w1→p.new w.heap.size→p.ok wn:=fun p h n=>by rw [hwn]; exact ((((h.set n).set n).set n).set n).set n
   rcases hp with hp | rfl
   ·exact ⟨st p ((h3 p hp).1.below hb1) (h3 p hp).2,(h3 p hp).2⟩
   exact ⟨st p Ue hnew,hnew⟩
  rw [← hwn] at F2;have HF:=ay F2;clear F F0 F1 F2 t0 t1 t2 t3 t4 hb1 hpl e5 ok lg HQ hqe hqA hqK Ue hqc hnew;simp only [ER.val];go_wp2;rw [← hwn];go_roundw;case rel=>exact ⟨k + 1,qs ++ [q],by omega,by go_num,WF,HF.out⟩
  simp [intOf]; omega
 obtain rfl:k=rs.length:=by omega
 obtain ⟨h1,h2,h3⟩:=HQ.out;have XY:Hid (qs.length=rs.length):=h1;have Xm:Hid (ai qs=ai rs):=by rw [← aS rs,Su] at h2; exact h2
 have UN:Hid (fQ wr (some ⟨w.heap.size,0,none⟩) qs):=by
  rw [← h1] at F;exact F.rows fun r hr=>(h3 r hr).1
 have HB3:Hid (aa w wr):=F.below;have XZ:Hid (∀ r ∈ qs,r.new w.heap.size):=fun r hr=>(h3 r hr).2;have Uy:Hid (∀ r ∈ qs,r.capA=r.e.allow.length):=fun r hr=>(h3 r hr).2.choose_spec.choose_spec.2.2.2.2;clear h1 h2 h3 F F0 HQ;go_wp2;go_ret;exact ⟨qs,by rw [XY.out]; rfl,Xm.out,UN.out,Uy.out,XZ.out,HB3.out⟩
theorem zT (ad Ti:Option Addr) (cap cap':Nat) (zs:List Int) (w:af) (hlen:zs.length≤maxLen) (hs:mZ w ad zs) (hs':mZ w Ti zs) :
  Calls prog 207 #[.slice ad zs.length cap,.slice Ti zs.length cap'] w fun e w'=>e=.returned (.bool true)∧aa w w':=by
 unfold maxLen at hlen;go_enter func207,ntmps207;go_wp2;go_loopw [5] (fun i wr=>∃ k:Nat,k≤zs.length∧i=.int .i64 k∧aa w wr) (fun i _=>zs.length - (intOf i).toNat);case atStart=>exact ⟨0,Sm _,rfl,Si _ _⟩
 obtain ⟨k,hk,rfl,hB⟩:=hrel;by_cases hlt:k < zs.length
 ·rcases hs.below hB with rfl | ⟨b,off,rfl,hb,hr⟩
  ·simp at hlt
  rcases hs'.below hB with rfl | ⟨b',off',rfl,hb',hr'⟩
  ·simp at hlt
  have t0:=hr k hlt;have q0:=hr' k hlt;have hk1:=bH k;have hk2:(k:Int) < (zs.length:Int):=by omega
  clear hr hr' hs hs';go_wp2_with fail;go_quiet (fail);go_wp2;go_roundw;case rel=>exact ⟨k + 1,by omega,by go_num,below_drewN hB _⟩
  simp [intOf]; omega
 go_wp2;go_ret;exact ⟨rfl,hB⟩
theorem xY (t s:dB) (w:af) :
  Calls prog 217 #[.agg #[.string t,.string s],.agg #[.string t,.string s]] w fun e w'=>e=.returned (.bool true)∧aa w w':=by
 go_enter func217,ntmps217;go_wp2;go_ret;exact ⟨rfl,((Si w.heap.size w).alloc (Sj _) _).alloc (by simp) _⟩
theorem Ms {w W w':af} {b b' o o':Nat} {x0 x1 y0 y1:Value} (h:W.cell? ⟨b,o,none⟩=some x0∧W.cell? ⟨b,o + 1,none⟩=some x1∧W.cell? ⟨b',o',none⟩=some y0∧W.cell? ⟨b',o' + 1,none⟩=some y1∧b < W.heap.size∧b' < W.heap.size∧aa w W) (hb:aa W w') :
  w'.cell? ⟨b,o,none⟩=some x0∧w'.cell? ⟨b,o + 1,none⟩=some x1∧w'.cell? ⟨b',o',none⟩=some y0∧w'.cell? ⟨b',o' + 1,none⟩=some y1∧b < w'.heap.size∧b' < w'.heap.size∧aa w w':=by
 obtain ⟨h0,h1,h2,h3,l,l',hB⟩:=h;exact ⟨kept hb l h0,kept hb l h1,kept hb l' h2,kept hb l' h3,Sg l hb.size,Sg l' hb.size,hB.trans (hb.mono hB.size)⟩
theorem wB (ad Ti:Option Addr) (cap cap':Nat) (xs:List Al) (w:af) (hlen:xs.length≤maxLen) (hs:gP w ad xs) (hs':gP w Ti xs) :
  Calls prog 206 #[.slice ad xs.length cap,.slice Ti xs.length cap'] w fun e w'=>e=.returned (.bool true)∧aa w w':=by
 unfold maxLen at hlen;go_enter func206,ntmps206;go_wp2;go_loopw [5] (fun i wr=>∃ k:Nat,k≤xs.length∧i=.int .i64 k∧aa w wr) (fun i _=>xs.length - (intOf i).toNat);case atStart=>exact ⟨0,Sm _,rfl,Si _ _⟩
 obtain ⟨k,hk,rfl,hB⟩:=hrel;by_cases hlt:k < xs.length
 ·rcases hs.below hB with rfl | ⟨b,off,rfl,hb,hr⟩
  ·simp at hlt
  rcases hs'.below hB with rfl | ⟨b',off',rfl,hb',hr'⟩
  ·simp at hlt
  obtain ⟨t0,t1⟩:=hr k hlt;obtain ⟨q0,q1⟩:=hr' k hlt;have hk1:=bH k;have hk2:(k:Int) < (xs.length:Int):=by omega
  clear hr hr' hs hs';go_wp2_with fail
  go_region_held3 (fun w'=>w'.cell? ⟨b,off + k * 2,none⟩=some (.string xs[k].t)∧w'.cell? ⟨b,off + k * 2 + 1,none⟩=some (.string xs[k].s)∧w'.cell? ⟨b',off' + k * 2,none⟩=some (.string xs[k].t)∧w'.cell? ⟨b',off' + k * 2 + 1,none⟩=some (.string xs[k].s)∧b < w'.heap.size∧b' < w'.heap.size∧aa w w')
   (first | assumption | exact Ms (by assumption) hbx | exact ⟨t0,t1,q0,q1,hb,hb',hB.drew⟩)
   (first | (go_at_call 217; refine (xY _ _ _).mono ?_; rintro e w' ⟨rfl,hbx⟩))
  rename_i hH;obtain ⟨-,-,-,-,-,-,gB⟩:=hH;clear t0 t1 q0 q1 hB hb hb';go_wp2;go_roundw;case rel=>exact ⟨k + 1,by omega,by go_num,gB⟩
  simp [intOf]; omega
 go_wp2;go_ret;exact ⟨rfl,hB⟩
theorem Ea (r r':ER) (w:af) (he:r'.e=r.e) (hr:r.ok w) (hr':r'.ok w) (hf:r.e.allow.length≤maxLen) (hg:r.e.kids.length≤maxLen) :
  Calls prog 184 #[r.val,r'.val] w fun e w'=>e=.returned (.bool true)∧aa w w':=by
 obtain ⟨⟨kind,allow,over,name,kids⟩,adA,capA,adK,capK⟩:=r;obtain ⟨e',adA',capA',VZ,U6⟩:=r';simp only at he;subst he;obtain ⟨hA,hK⟩:=hr;obtain ⟨hA',hK'⟩:=hr';simp only at hA hK hA' hK' hf hg;simp only [ER.val];obtain ⟨W1,hW1⟩:∃ W1,W1=(w.alloc (.cells #[.int .i64 kind,.slice adA allow.length capA,.string over,.string name,.slice adK kids.length capK] 190)).alloc (.cells #[.int .i64 kind,.slice adA' allow.length capA',.string over,.string name,.slice VZ kids.length U6] 190):=⟨_,rfl⟩;have hb0:aa w W1:=by rw [hW1]; exact ((Si w.heap.size w).alloc (Sj _) _).alloc (by simp) _
 have bA:Below (w.alloc (.cells #[.int .i64 kind,.slice adA allow.length capA,.string over,.string name,.slice adK kids.length capK] 190)).heap.size (w.alloc (.cells #[.int .i64 kind,.slice adA allow.length capA,.string over,.string name,.slice adK kids.length capK] 190)) W1:=by rw [hW1]; exact (Si _ _).alloc (Sj _) _
 have hz1:w.heap.size + 2≤W1.heap.size:=by rw [hW1]; simp only [World.size_alloc]; omega
 have s2:W1.cell? ⟨w.heap.size,2,none⟩=some (.string over):=kept bA (by simp) (by simp);have s3:W1.cell? ⟨w.heap.size,3,none⟩=some (.string name):=kept bA (by simp) (by simp);have s4:W1.cell? ⟨w.heap.size,4,none⟩=some (.slice adK kids.length capK):=kept bA (by simp) (by simp);have o2:W1.cell? ⟨w.heap.size + 1,2,none⟩=some (.string over):=by rw [hW1]; exact dM _ _ _ _ _ rfl
 have o3:W1.cell? ⟨w.heap.size + 1,3,none⟩=some (.string name):=by rw [hW1]; exact dM _ _ _ _ _ rfl
 have o4:W1.cell? ⟨w.heap.size + 1,4,none⟩=some (.slice VZ kids.length U6):=by rw [hW1]; exact dM _ _ _ _ _ rfl
 go_enter func184,ntmps184;go_wp2_with fail;rw [← hW1];refine (wB adA adA' capA capA' allow W1 hf (hA.below hb0) (hA'.below hb0)).mono ?_;rintro e w1 ⟨rfl,hb1⟩;replace s2:=kept hb1 (by omega) s2;replace o2:=kept hb1 (by omega) o2;replace s3:=kept hb1 (by omega) s3;replace o3:=kept hb1 (by omega) o3;replace s4:=kept hb1 (by omega) s4;replace o4:=kept hb1 (by omega) o4;have HB1:Hid (aa w w1):=hb0.trans (hb1.mono (by omega));clear hb1 hb0 bA hW1 hA hA';go_wp2_with fail;refine (zT adK VZ capK U6 kids w1 hg (hK.below HB1.out) (hK'.below HB1.out)).mono ?_;rintro e w2 ⟨rfl,hb2⟩;have HB2:=jb HB1 hb2;clear hb2;go_wp2;go_ret;exact ⟨rfl,HB2.out⟩
theorem Qy {wr W w':af} {b b' o o':Nat} {x0 x1 x2 x3 x4 y0 y1 y2 y3 y4:Value} (h:W.cell? ⟨b,o,none⟩=some x0∧W.cell? ⟨b,o + 1,none⟩=some x1∧W.cell? ⟨b,o + 2,none⟩=some x2∧W.cell? ⟨b,o + 3,none⟩=some x3∧W.cell? ⟨b,o + 4,none⟩=some x4∧W.cell? ⟨b',o',none⟩=some y0∧W.cell? ⟨b',o' + 1,none⟩=some y1∧W.cell? ⟨b',o' + 2,none⟩=some y2∧W.cell? ⟨b',o' + 3,none⟩=some y3∧W.cell? ⟨b',o' + 4,none⟩=some y4∧b < W.heap.size∧b' < W.heap.size∧aa wr W) (hb:aa W w'):w'.cell? ⟨b,o,none⟩=some x0∧w'.cell? ⟨b,o + 1,none⟩=some x1∧w'.cell? ⟨b,o + 2,none⟩=some x2∧w'.cell? ⟨b,o + 3,none⟩=some x3∧w'.cell? ⟨b,o + 4,none⟩=some x4∧w'.cell? ⟨b',o',none⟩=some y0∧w'.cell? ⟨b',o' + 1,none⟩=some y1∧w'.cell? ⟨b',o' + 2,none⟩=some y2∧w'.cell? ⟨b',o' + 3,none⟩=some y3∧w'.cell? ⟨b',o' + 4,none⟩=some y4∧b < w'.heap.size∧b' < w'.heap.size∧aa wr w':=by
 obtain ⟨h0,h1,h2,h3,h4,k0,k1,k2,k3,k4,l,l',hB⟩:=h;exact ⟨kept hb l h0,kept hb l h1,kept hb l h2,kept hb l h3,kept hb l h4,kept hb l' k0,kept hb l' k1,kept hb l' k2,kept hb l' k3,kept hb l' k4,Sg l hb.size,Sg l' hb.size,hB.trans (hb.mono hB.size)⟩
theorem lZ {wr W:af} {b b' o o':Nat} {x0 x1 x2 x3 x4 y0 y1 y2 y3 y4:Value} (h:W.cell? ⟨b,o,none⟩=some x0∧W.cell? ⟨b,o + 1,none⟩=some x1∧W.cell? ⟨b,o + 2,none⟩=some x2∧W.cell? ⟨b,o + 3,none⟩=some x3∧W.cell? ⟨b,o + 4,none⟩=some x4∧W.cell? ⟨b',o',none⟩=some y0∧W.cell? ⟨b',o' + 1,none⟩=some y1∧W.cell? ⟨b',o' + 2,none⟩=some y2∧W.cell? ⟨b',o' + 3,none⟩=some y3∧W.cell? ⟨b',o' + 4,none⟩=some y4∧b < W.heap.size∧b' < W.heap.size∧aa wr W):aa wr W:=h.2.2.2.2.2.2.2.2.2.2.2.2
theorem Cu (ad Ti:Option Addr) (cap cap':Nat) (rs rs':List ER) (w:af) (hlen:rs.length≤1048576) (he:ai rs'=ai rs) (hs:fQ w ad rs) (hs':fQ w Ti rs') (hl:∀ r ∈ rs,r.e.light) :
  Calls prog 149 #[.slice ad rs.length cap,.slice Ti rs'.length cap'] w fun e w'=>e=.returned (.bool true)∧aa w w':=by
 have hll:rs'.length=rs.length:=by rw [← aS,he,aS]
 have Uj:=ay hs;have XP:=ay hs';have UC:=ay hl;have HEE:Hid (ai rs'=ai rs):=he;have Xn:Hid (rs'.length=rs.length):=hll;rw [hll];clear hs hs' hl he hll;go_enter func149,ntmps149;go_wp2;go_loopw [5] (fun i wr=>∃ k:Nat,k≤rs.length∧i=.int .i64 k∧aa w wr) (fun i _=>rs.length - (intOf i).toNat);case atStart=>exact ⟨0,Sm _,rfl,Si _ _⟩
 obtain ⟨k,hk,rfl,hB⟩:=hrel;by_cases hlt:k < rs.length
 ·have hlt':k < rs'.length:=by rw [Xn.out]; exact hlt
  rcases Uj.out.below hB with rfl | ⟨b,off,rfl,hb,hr,hok⟩
  ·simp at hlt
  rcases XP.out.below hB with rfl | ⟨b',off',rfl,hb',hr',hok'⟩
  ·simp at hlt'
  obtain ⟨t0,t1,t2,t3,t4⟩:=hr k hlt;obtain ⟨q0,q1,q2,q3,q4⟩:=hr' k hlt';have HK1:Hid (rs[k].ok wr):=hok rs[k] (Sd hlt);have HK2:Hid (rs'[k].ok wr):=hok' rs'[k] (Sd hlt');have Zb:Hid (rs'[k].e=rs[k].e):=by
   have h1:(ai rs')[k]?=(ai rs)[k]?:=by rw [HEE.out]
   show _=_;simpa [ai,hlt,hlt'] using h1
  obtain ⟨g1,g2⟩:=UC.out rs[k] (Sd hlt);have hk1:=bH k;have hk2:(k:Int) < (rs.length:Int):=by omega
  have HK4:Hid (rs[k].e.allow.length≤maxLen):=Sq g1 (by decide);have HK5:Hid (rs[k].e.kids.length≤maxLen):=Sq g2 (by decide);clear hr hr' hok hok' g1 g2;go_wp2_with fail
  go_region_held3 (fun w'=>w'.cell? ⟨b,off + k * 5,none⟩=some (.int .i64 rs[k].e.kind)∧w'.cell? ⟨b,off + k * 5 + 1,none⟩=some (.slice rs[k].adA rs[k].e.allow.length rs[k].capA)∧w'.cell? ⟨b,off + k * 5 + 2,none⟩=some (.string rs[k].e.over)∧w'.cell? ⟨b,off + k * 5 + 3,none⟩=some (.string rs[k].e.name)∧w'.cell? ⟨b,off + k * 5 + 4,none⟩=some (.slice rs[k].adK rs[k].e.kids.length rs[k].capK)∧w'.cell? ⟨b',off' + k * 5,none⟩=some (.int .i64 rs'[k].e.kind)∧w'.cell? ⟨b',off' + k * 5 + 1,none⟩=some (.slice rs'[k].adA rs'[k].e.allow.length rs'[k].capA)∧w'.cell? ⟨b',off' + k * 5 + 2,none⟩=some (.string rs'[k].e.over)∧w'.cell? ⟨b',off' + k * 5 + 3,none⟩=some (.string rs'[k].e.name)∧w'.cell? ⟨b',off' + k * 5 + 4,none⟩=some (.slice rs'[k].adK rs'[k].e.kids.length rs'[k].capK)∧b < w'.heap.size∧b' < w'.heap.size∧aa wr w')
   (first | assumption | exact Qy (by assumption) hbx | exact ⟨t0,t1,t2,t3,t4,q0,q1,q2,q3,q4,hb,hb',(Si _ _).drew⟩)
   (first | (go_at_call 184; refine (Ea rs[k] rs'[k] _ Zb.out (HK1.out.below (lZ (by assumption))) (HK2.out.below (lZ (by assumption))) HK4.out HK5.out).mono ?_; rintro e w' ⟨rfl,hbx⟩))
  rename_i hH;obtain ⟨-,-,-,-,-,-,-,-,-,-,-,-,gB⟩:=hH;clear t0 t1 t2 t3 t4 q0 q1 q2 q3 q4 hb hb';go_wp2;go_roundw;case rel=>exact ⟨k + 1,by omega,by go_num,hB.trans (gB.mono hB.size)⟩
  simp [intOf]; omega
 go_wp2;go_ret;exact ⟨rfl,hB⟩
theorem ER.new.mono {B B':Nat} {r:ER} (h:r.new B) (hB:B'≤B):r.new B':=by
 obtain ⟨gA,gK,e1,e2,h1,h2,h3⟩:=h;exact ⟨gA,gK,e1,e2,by omega,by omega,h3⟩
structure Rl where
 name:ByteArray
 expr:List Ex
structure RR where
 name:ByteArray
 rows:List ER
 ad:Option Addr
 cap:Nat
def RR.p (r:RR):Rl:=⟨r.name,ai r.rows⟩
def RR.val (r:RR):Value:=.agg #[.string r.name,.slice r.ad r.rows.length r.cap]
def RR.ok (w:World) (r:RR):Prop:=fQ w r.ad r.rows
def RR.fits (r:RR):Prop:=r.name.size≤maxLen∧r.rows.length≤maxLen∧∀ q ∈ r.rows,q.e.fits
def RR.light (r:RR):Prop:=r.rows.length≤1048576∧∀ q ∈ r.rows,q.e.light
def RR.caps (r:RR):Prop:=r.rows.length≤r.cap∧∀ q ∈ r.rows,q.e.allow.length≤q.capA
def RR.new (B:Nat) (r:RR):Prop:=(∃ g:Nat,r.ad=some ⟨g,0,none⟩∧B < g)∧∀ q ∈ r.rows,q.new B
theorem RR.ok.below {w w':af} {r:RR} (h:r.ok w) (hB:aa w w'):r.ok w':=fQ.below h hB
def AtR (w:World) (b off:Nat) (r:RR):Prop:=w.cell? ⟨b,off,none⟩=some (.string r.name)∧w.cell? ⟨b,off + 1,none⟩=some (.slice r.ad r.rows.length r.cap)
theorem AtR.same {w w':af} {b off:Nat} {r:RR} (h:AtR w b off r) (hc:∀ o,w'.cell? ⟨b,o,none⟩=w.cell? ⟨b,o,none⟩):AtR w' b off r:=⟨(hc _).trans h.1,(hc _).trans h.2⟩
theorem AtR.later {w w':af} {b off:Nat} {r:RR} (h:AtR w b off r) (hb:b < w.heap.size) (hB:aa w w'):AtR w' b off r:=h.same fun o=>hB.cell (p:=⟨b,o,none⟩) hb
def vv (w:World) (ad:Option Addr) (rs:List RR):Prop:=rs=[] ∨ ∃ b off,ad=some ⟨b,off,none⟩∧b < w.heap.size∧(∀ (i:Nat) (h:i < rs.length),AtR w b (off + i * 2) rs[i])∧∀ r ∈ rs,r.ok w
theorem vv.below {w w':af} {ad:Option Addr} {rs:List RR} (h:vv w ad rs) (hB:aa w w'):vv w' ad rs:=by
 rcases h with h | ⟨b,off,e,hb,hr,hk⟩
 ·exact .inl h
 exact .inr ⟨b,off,e,Sg hb hB.size,fun i hi=>(hr i hi).same fun o=>hB.cell (p:=⟨b,o,none⟩) hb,fun r hr=>(hk r hr).below hB⟩
def bZ (rs:List RR):List Rl:=rs.map RR.p
theorem fB (rs:List RR):(bZ rs).length=rs.length:=by simp [bZ]
theorem RR.ok.set {w:af} {r:RR} {g o:Nat} {v:Value} (h:r.ok w) (hn:r.new g):r.ok (w.setCell ⟨g,o,none⟩ v):=by
 obtain ⟨⟨gE,e1,h1⟩,h2⟩:=hn;rcases h with h | ⟨b,off,e,hb,hr,hk⟩
 ·exact .inl h
 refine .inr ⟨b,off,e,by simpa using hb,fun i hi=>(hr i hi).same fun o=>bz ?_,fun q hq=>(hk q hq).set (h2 q hq)⟩;rw [e1] at e; injection e with e; injection e with e3 e4; omega
theorem RR.new.mono {B B':Nat} {r:RR} (h:r.new B) (hB:B'≤B):r.new B':=by
 obtain ⟨⟨g,e,hg⟩,h2⟩:=h;exact ⟨⟨g,e,by omega⟩,fun q hq=>(h2 q hq).mono hB⟩
structure Ty where
 name:ByteArray
 rels:List Rl
structure TR where
 name:ByteArray
 rows:List RR
 ad:Option Addr
 cap:Nat
def TR.p (r:TR):Ty:=⟨r.name,bZ r.rows⟩
def TR.val (r:TR):Value:=.agg #[.string r.name,.slice r.ad r.rows.length r.cap]
def TR.ok (w:World) (r:TR):Prop:=vv w r.ad r.rows
def TR.fits (r:TR):Prop:=r.name.size≤maxLen∧r.rows.length≤maxLen∧∀ q ∈ r.rows,q.fits
def TR.light (r:TR):Prop:=r.rows.length≤1048576∧∀ q ∈ r.rows,q.light
def TR.caps (r:TR):Prop:=r.rows.length≤r.cap∧∀ q ∈ r.rows,q.caps
def TR.new (B:Nat) (r:TR):Prop:=(∃ g:Nat,r.ad=some ⟨g,0,none⟩∧B < g)∧∀ q ∈ r.rows,q.new B
theorem TR.ok.below {w w':af} {r:TR} (h:r.ok w) (hB:aa w w'):r.ok w':=vv.below h hB
def Mt (w:World) (b off:Nat) (r:TR):Prop:=w.cell? ⟨b,off,none⟩=some (.string r.name)∧w.cell? ⟨b,off + 1,none⟩=some (.slice r.ad r.rows.length r.cap)
theorem Mt.same {w w':af} {b off:Nat} {r:TR} (h:Mt w b off r) (hc:∀ o,w'.cell? ⟨b,o,none⟩=w.cell? ⟨b,o,none⟩):Mt w' b off r:=⟨(hc _).trans h.1,(hc _).trans h.2⟩
theorem Mt.later {w w':af} {b off:Nat} {r:TR} (h:Mt w b off r) (hb:b < w.heap.size) (hB:aa w w'):Mt w' b off r:=h.same fun o=>hB.cell (p:=⟨b,o,none⟩) hb
def iN (w:World) (ad:Option Addr) (rs:List TR):Prop:=rs=[] ∨ ∃ b off,ad=some ⟨b,off,none⟩∧b < w.heap.size∧(∀ (i:Nat) (h:i < rs.length),Mt w b (off + i * 2) rs[i])∧∀ r ∈ rs,r.ok w
theorem iN.below {w w':af} {ad:Option Addr} {rs:List TR} (h:iN w ad rs) (hB:aa w w'):iN w' ad rs:=by
 rcases h with h | ⟨b,off,e,hb,hr,hk⟩
 ·exact .inl h
 exact .inr ⟨b,off,e,Sg hb hB.size,fun i hi=>(hr i hi).same fun o=>hB.cell (p:=⟨b,o,none⟩) hb,fun r hr=>(hk r hr).below hB⟩
def ag (rs:List TR):List Ty:=rs.map TR.p
theorem eH (rs:List TR):(ag rs).length=rs.length:=by simp [ag]
theorem TR.ok.set {w:af} {r:TR} {g o:Nat} {v:Value} (h:r.ok w) (hn:r.new g):r.ok (w.setCell ⟨g,o,none⟩ v):=by
 obtain ⟨⟨gE,e1,h1⟩,h2⟩:=hn;rcases h with h | ⟨b,off,e,hb,hr,hk⟩
 ·exact .inl h
 refine .inr ⟨b,off,e,by simpa using hb,fun i hi=>(hr i hi).same fun o=>bz ?_,fun q hq=>(hk q hq).set (h2 q hq)⟩;rw [e1] at e; injection e with e; injection e with e3 e4; omega
theorem TR.new.mono {B B':Nat} {r:TR} (h:r.new B) (hB:B'≤B):r.new B':=by
 obtain ⟨⟨g,e,hg⟩,h2⟩:=h;exact ⟨⟨g,e,by omega⟩,fun q hq=>(h2 q hq).mono hB⟩
end Go.Proofs.YtdmniljjnaebbaaGreatDoor
