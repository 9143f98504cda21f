/- What the program's question of a node captures, and how it asks its kids. -/
import Derived.Test.YtajkkeikihhejaaGreatSq
import Derived.Test.YtajkkeikihhejaaGreatThisI
import Derived.Test.YtajkkeikihhejaaGreatJ25
import Derived.Laws.EntriesVeiled
open Go.Proofs.Tryz
set_option maxHeartbeats 80000000
namespace Go.Proofs.YtajkkeikihhejaaGreat
set_option linter.unusedVariables false
set_option maxRecDepth 100000
open Go.ChangeShapes Go.WideShapes Go.ChangeAt Go.RowKit Go.Maps
open Pl
def yw (B:Nat):Value:=.func (Fn.func 211) #[] #[.pointer (some ⟨B,0,none⟩),.pointer (some ⟨B + 1,0,none⟩),.pointer (some ⟨B + 1 + 1,0,none⟩),.pointer (some ⟨B + 1 + 1 + 1,0,none⟩)]
def Ht (w:World) (D:Nat) (vE:Value) (f:Fc) (bK:Nat) (x:ER):World :=
 (((((w.alloc (.cells #[.pointer (some ⟨D,0,none⟩)] 97)).alloc (.cells #[vE] 33)).alloc (.cells #[.string f.a,.string f.b,.string f.r,.string f.c,.string f.d] 29)).alloc (.cells #[.map (some bK)] 107)).alloc (.cells #[.int .i64 x.e.kind,.slice x.adA x.e.allow.length x.capA,.string x.e.over,.string x.e.name,.slice x.adK x.e.kids.length x.capK] 39)).alloc (.cells #[yw w.heap.size] 295)
structure NdB (w:World) (B D:Nat) (vE:Value) (f:Fc) (bK:Nat) (x:ER):Prop where
 lt:B + 1 + 1 + 1 + 1 + 1 < w.heap.size
 d:w.cell? ⟨B,0,none⟩=some (.pointer (some ⟨D,0,none⟩))
 e:w.cell? ⟨B + 1,0,none⟩=some vE
 f0:w.cell? ⟨B + 1 + 1,0,none⟩=some (.string f.a)
 f1:w.cell? ⟨B + 1 + 1,1,none⟩=some (.string f.b)
 f2:w.cell? ⟨B + 1 + 1,2,none⟩=some (.string f.r)
 f3:w.cell? ⟨B + 1 + 1,3,none⟩=some (.string f.c)
 f4:w.cell? ⟨B + 1 + 1,4,none⟩=some (.string f.d)
 k:w.cell? ⟨B + 1 + 1 + 1,0,none⟩=some (.map (some bK))
 x0:w.cell? ⟨B + 1 + 1 + 1 + 1,0,none⟩=some (.int .i64 x.e.kind)
 x1:w.cell? ⟨B + 1 + 1 + 1 + 1,1,none⟩=some (.slice x.adA x.e.allow.length x.capA)
 x2:w.cell? ⟨B + 1 + 1 + 1 + 1,2,none⟩=some (.string x.e.over)
 x3:w.cell? ⟨B + 1 + 1 + 1 + 1,3,none⟩=some (.string x.e.name)
 x4:w.cell? ⟨B + 1 + 1 + 1 + 1,4,none⟩=some (.slice x.adK x.e.kids.length x.capK)
 v:w.cell? ⟨B + 1 + 1 + 1 + 1 + 1,0,none⟩=some (yw B)
theorem NdB.below {w w':af} {B D:Nat} {vE:Value} {f:Fc} {bK:Nat} {x:ER} (h:NdB w B D vE f bK x) (hB:ag w w'):NdB w' B D vE f bK x:=by
 have hl:=h.lt;have c:∀ i o,i≤5→w'.cell? ⟨B + i,o,none⟩=w.cell? ⟨B + i,o,none⟩:=fun i o hi=>hB.cell (p:=⟨B + i,o,none⟩) (show B + i < _ by omega);have c0:∀ o,w'.cell? ⟨B,o,none⟩=w.cell? ⟨B,o,none⟩:=fun o=>hB.cell (p:=⟨B,o,none⟩) (show B < _ by omega);exact ⟨TP hl hB.size,(c0 _).trans h.d,(c 1 _ (by omega)).trans h.e,(c 2 _ (by omega)).trans h.f0,(c 2 _ (by omega)).trans h.f1,(c 2 _ (by omega)).trans h.f2,(c 2 _ (by omega)).trans h.f3,(c 2 _ (by omega)).trans h.f4,(c 3 _ (by omega)).trans h.k,(c 4 _ (by omega)).trans h.x0,(c 4 _ (by omega)).trans h.x1,(c 4 _ (by omega)).trans h.x2,(c 4 _ (by omega)).trans h.x3,(c 4 _ (by omega)).trans h.x4,(c 5 _ (by omega)).trans h.v⟩
theorem lH (w:af) (D:Nat) (vE:Value) (f:Fc) (bK:Nat) (x:ER):ag w (Ht w D vE f bK x):=by
 unfold Ht;exact ((((((TT _ _).alloc (TS _) _).alloc (by simp) _).alloc (by simp; omega) _).alloc (by simp; omega) _).alloc (by simp; omega) _).alloc (by simp; omega) _
theorem oI (w:af) (cs:Array Value) (T:TypeId) (o:Nat):(w.alloc (.cells cs T)).cell? ⟨w.heap.size,o,none⟩=cs[o]?:=World.cell?_alloc_mark w cs T (0,0) o
theorem lI (w:af) (D:Nat) (vE:Value) (f:Fc) (bK:Nat) (x:ER):NdB (Ht w D vE f bK x) w.heap.size D vE f bK x:=by
 unfold Ht;obtain ⟨w1,h1⟩:∃ u,u=w.alloc (.cells #[.pointer (some ⟨D,0,none⟩)] 97):=⟨_,rfl⟩;have s1:w1.heap.size=w.heap.size + 1:=by rw [h1,World.size_alloc]
 have b1:ag w w1:=by rw [h1]; exact (TT _ _).alloc (TS _) _
 obtain ⟨w2,h2⟩:∃ u,u=w1.alloc (.cells #[vE] 33):=⟨_,rfl⟩;have s2:w2.heap.size=w.heap.size + 1 + 1:=by rw [h2,World.size_alloc,s1]
 have b2:ag w1 w2:=by rw [h2]; exact (TT _ _).alloc (TS _) _
 obtain ⟨w3,h3⟩:∃ u,u=w2.alloc (.cells #[.string f.a,.string f.b,.string f.r,.string f.c,.string f.d] 29):=⟨_,rfl⟩;have s3:w3.heap.size=w.heap.size + 1 + 1 + 1:=by rw [h3,World.size_alloc,s2]
 have b3:ag w2 w3:=by rw [h3]; exact (TT _ _).alloc (TS _) _
 obtain ⟨w4,h4⟩:∃ u,u=w3.alloc (.cells #[.map (some bK)] 107):=⟨_,rfl⟩;have s4:w4.heap.size=w.heap.size + 1 + 1 + 1 + 1:=by rw [h4,World.size_alloc,s3]
 have b4:ag w3 w4:=by rw [h4]; exact (TT _ _).alloc (TS _) _
 obtain ⟨w5,h5⟩:∃ u,u=w4.alloc (.cells #[.int .i64 x.e.kind,.slice x.adA x.e.allow.length x.capA,.string x.e.over,.string x.e.name,.slice x.adK x.e.kids.length x.capK] 39):=⟨_,rfl⟩;have s5:w5.heap.size=w.heap.size + 1 + 1 + 1 + 1 + 1:=by rw [h5,World.size_alloc,s4]
 have b5:ag w4 w5:=by rw [h5]; exact (TT _ _).alloc (TS _) _
 obtain ⟨w6,h6⟩:∃ u,u=w5.alloc (.cells #[yw w.heap.size] 295):=⟨_,rfl⟩;have s6:w6.heap.size=w.heap.size + 1 + 1 + 1 + 1 + 1 + 1:=by rw [h6,World.size_alloc,s5]
 have b6:ag w5 w6:=by rw [h6]; exact (TT _ _).alloc (TS _) _
 rw [← h1,← h2,← h3,← h4,← h5,← h6];have c0:∀ o,w6.cell? ⟨w.heap.size,o,none⟩=(#[.pointer (some ⟨D,0,none⟩)]:Array Value)[o]?:=fun o=>by
  have e:w1.cell? ⟨w.heap.size,o,none⟩=(#[.pointer (some ⟨D,0,none⟩)]:Array Value)[o]?:=by rw [h1]; exact oI _ _ _ o
  rw [b6.cell (p:=⟨w.heap.size,o,none⟩) (show w.heap.size < _ by omega),b5.cell (p:=⟨w.heap.size,o,none⟩) (show w.heap.size < _ by omega),b4.cell (p:=⟨w.heap.size,o,none⟩) (show w.heap.size < _ by omega),b3.cell (p:=⟨w.heap.size,o,none⟩) (show w.heap.size < _ by omega),b2.cell (p:=⟨w.heap.size,o,none⟩) (show w.heap.size < _ by omega)]; exact e
 have c1:∀ o,w6.cell? ⟨w.heap.size + 1,o,none⟩=(#[vE]:Array Value)[o]?:=fun o=>by
  have e:w2.cell? ⟨w.heap.size + 1,o,none⟩=(#[vE]:Array Value)[o]?:=by rw [h2,← s1]; exact oI _ _ _ o
  rw [b6.cell (p:=⟨w.heap.size + 1,o,none⟩) (show w.heap.size + 1 < _ by omega),b5.cell (p:=⟨w.heap.size + 1,o,none⟩) (show w.heap.size + 1 < _ by omega),b4.cell (p:=⟨w.heap.size + 1,o,none⟩) (show w.heap.size + 1 < _ by omega),b3.cell (p:=⟨w.heap.size + 1,o,none⟩) (show w.heap.size + 1 < _ by omega)]; exact e
 have c2:∀ o,w6.cell? ⟨w.heap.size + 1 + 1,o,none⟩=(#[.string f.a,.string f.b,.string f.r,.string f.c,.string f.d]:Array Value)[o]?:=fun o=>by
  have e:w3.cell? ⟨w.heap.size + 1 + 1,o,none⟩=(#[.string f.a,.string f.b,.string f.r,.string f.c,.string f.d]:Array Value)[o]?:=by rw [h3,← s2]; exact oI _ _ _ o
  rw [b6.cell (p:=⟨w.heap.size + 1 + 1,o,none⟩) (show w.heap.size + 1 + 1 < _ by omega),b5.cell (p:=⟨w.heap.size + 1 + 1,o,none⟩) (show w.heap.size + 1 + 1 < _ by omega),b4.cell (p:=⟨w.heap.size + 1 + 1,o,none⟩) (show w.heap.size + 1 + 1 < _ by omega)]; exact e
 have c3:∀ o,w6.cell? ⟨w.heap.size + 1 + 1 + 1,o,none⟩=(#[.map (some bK)]:Array Value)[o]?:=fun o=>by
  have e:w4.cell? ⟨w.heap.size + 1 + 1 + 1,o,none⟩=(#[.map (some bK)]:Array Value)[o]?:=by rw [h4,← s3]; exact oI _ _ _ o
  rw [b6.cell (p:=⟨w.heap.size + 1 + 1 + 1,o,none⟩) (show w.heap.size + 1 + 1 + 1 < _ by omega),b5.cell (p:=⟨w.heap.size + 1 + 1 + 1,o,none⟩) (show w.heap.size + 1 + 1 + 1 < _ by omega)]; exact e
 have c4:∀ o,w6.cell? ⟨w.heap.size + 1 + 1 + 1 + 1,o,none⟩=(#[.int .i64 x.e.kind,.slice x.adA x.e.allow.length x.capA,.string x.e.over,.string x.e.name,.slice x.adK x.e.kids.length x.capK]:Array Value)[o]?:=fun o=>by
  have e:w5.cell? ⟨w.heap.size + 1 + 1 + 1 + 1,o,none⟩=(#[.int .i64 x.e.kind,.slice x.adA x.e.allow.length x.capA,.string x.e.over,.string x.e.name,.slice x.adK x.e.kids.length x.capK]:Array Value)[o]?:=by rw [h5,← s4]; exact oI _ _ _ o
  rw [b6.cell (p:=⟨w.heap.size + 1 + 1 + 1 + 1,o,none⟩) (show w.heap.size + 1 + 1 + 1 + 1 < _ by omega)]; exact e
 have c5:∀ o,w6.cell? ⟨w.heap.size + 1 + 1 + 1 + 1 + 1,o,none⟩=(#[yw w.heap.size]:Array Value)[o]?:=fun o=>by
  have e:w6.cell? ⟨w.heap.size + 1 + 1 + 1 + 1 + 1,o,none⟩=(#[yw w.heap.size]:Array Value)[o]?:=by rw [h6,← s5]; exact oI _ _ _ o
  exact e
 exact ⟨by omega,c0 0,c1 0,c2 0,c2 1,c2 2,c2 3,c2 4,c3 0,c4 0,c4 1,c4 2,c4 3,c4 4,c5 0⟩
def JW (D:Nat) (vE:Value) (f:Fc) (bK:Nat) (w:World) (i:Int) (b:Bool):Prop:=∀ w1:World,ag w w1→Calls prog 167 #[.pointer (some ⟨D,0,none⟩),vE,.int .i64 i,.agg #[.string f.a,.string f.b,.string f.r,.string f.c,.string f.d],.map (some bK)] w1 fun e w'=>e=.returned (.bool b)∧ag w1 w'
theorem pF {w w1:af} {B D:Nat} {vE:Value} {f:Fc} {bK:Nat} {x:ER} {i:Int} {b:Bool} (hK:JW D vE f bK w i b) (hb:ag w w1) (hB:NdB w1 B D vE f bK x) :
  Calls prog 211 #[.int .i64 i,.pointer (some ⟨B,0,none⟩),.pointer (some ⟨B + 1,0,none⟩),.pointer (some ⟨B + 1 + 1,0,none⟩),.pointer (some ⟨B + 1 + 1 + 1,0,none⟩)] w1 fun e w'=>e=.returned (.bool b)∧ag w1 w':=by
 have HC:=aC (hK w1 hb);obtain ⟨-,d,e,f0,f1,f2,f3,f4,k,-⟩:=hB;clear hK;go_enter func211,ntmps211;go_wp2_with fail;refine HC.out.mono ?_;rintro e w2 ⟨rfl,hb2⟩;have HB:=aC hb2;clear hb2;go_wp2;go_ret;exact ⟨rfl,HB.out⟩
theorem vV {w w1:af} {B D:Nat} {vE:Value} {f:Fc} {bK:Nat} {x:ER} {i:Int} {b:Bool} (hK:JW D vE f bK w i b) (hb:ag w w1) (hB:NdB w1 B D vE f bK x) :
  Calls prog 212 #[.int .i64 i,.pointer (some ⟨B + 1 + 1 + 1 + 1 + 1,0,none⟩)] w1 fun e w'=>e=.returned (.bool (!b))∧ag w1 w':=by
 have HC:=aC (pF hK hb hB);have hv:=hB.v;unfold yw at hv;clear hK hB;go_enter func212,ntmps212;go_wp2_with fail;refine HC.out.mono ?_;rintro e w2 ⟨rfl,hb2⟩;have HB:=aC hb2;clear hb2;go_wp2;go_ret;exact ⟨rfl,HB.out⟩
theorem SI (xs:Array Value) (u:af):(callFunc 211 xs).run prog u=.ok (.enter 211 xs) u:=by kernel_rfl
theorem SK (xs:Array Value) (u:af):(callFunc 212 xs).run prog u=.ok (.enter 212 xs) u:=by kernel_rfl
theorem MS (p:Int→Bool) {zs:List Int} {k:Nat} (h:k < zs.length):(zs.drop k).any p=(p zs[k] || (zs.drop (k + 1)).any p):=by rw [Un h]; rfl
theorem JX (FC:Nat) (rc cp:Array Value) (p:Int→Bool) (ad:Option Addr) (cap:Nat) (xs:List Int) (w:af) (hlen:xs.length≤1048576) (hs:pX w ad xs)
  (hrun:∀ (ys:Array Value) (u:World),(callFunc FC ys).run prog u=.ok (.enter FC ys) u) (hp:∀ x ∈ xs,∀ w1:World,ag w w1→Calls prog FC (rc.push (.int .i64 x) ++ cp) w1 fun e w'=>e=.returned (.bool (p x))∧ag w1 w') :
  Calls prog 230 #[.slice ad xs.length cap,.func (Fn.func FC) rc cp] w fun e w'=>(∃ r:Int,e=.returned (.int .i64 r)∧decide (0≤r)=xs.any p)∧ag w w':=by
 have HS:=aC hs;have HRUN:=aC hrun;have HP:=aC hp;clear hs hrun hp;have HD:Hid (∀ k (h:k < xs.length),(xs.drop k).any p=(p xs[k] || (xs.drop (k + 1)).any p)):=fun k h=>MS p h;go_enter func230,ntmps230;go_wp2_with fail;go_loopw [8] (fun i wr=>∃ k:Nat,k≤xs.length∧i=.int .i64 k∧Hid ((xs.drop k).any p=xs.any p)∧Hid (ag w wr)) (fun i _=>xs.length - (intOf i).toNat);case atStart=>exact ⟨0,TW _,rfl,rfl,TT _ _⟩
 obtain ⟨k,hk,rfl,HQ,HB⟩:=hrel;by_cases hlt:k < xs.length
 ·obtain ⟨b,off,UF,t0,hbl⟩:=pX.at0 (HS.out.below HB.out) hlt;have HM:Hid (xs[k] ∈ xs):=TQ hlt;have hk1:=bB k;have hk2:(k:Int) < (xs.length:Int):=by omega
  have HD2:=aC (HD.out k hlt);subst UF;go_wp2_with fail;rw [HRUN.out,Oper.upon_enter];refine (HP.out _ HM.out _ HB.out).mono ?_;rintro e w1 ⟨rfl,hb1⟩;have HB1:=jP HB hb1;clear hb1 t0;cases he:p xs[k];case true=>
   have HN:Hid (xs.any p=true):=by show _=_; rw [← HQ.out,HD2.out,he]; rfl
   go_wp2;go_ret;exact ⟨⟨k,rfl,by rw [HN.out]; simp⟩,HB1.out⟩
  have HQ2:Hid ((xs.drop (k + 1)).any p=xs.any p):=by show _=_; rw [← HQ.out,HD2.out,he]; rfl
  go_wp2;go_roundw;case rel=>exact ⟨k + 1,by omega,by go_num,HQ2,HB1⟩
  simp [intOf] <;> omega
 have HN:Hid (xs.any p=false):=by show _=_; rw [← HQ.out,List.drop_of_length_le (by omega)]; rfl
 go_wp2;go_ret;exact ⟨⟨-1,rfl,by rw [HN.out]; simp⟩,HB.out⟩
theorem sG (FC:Nat) (rc cp:Array Value) (p:Int→Bool) (ad:Option Addr) (cap:Nat) (xs:List Int) (w:af) (hlen:xs.length≤1048576) (hs:pX w ad xs)
  (hrun:∀ (ys:Array Value) (u:World),(callFunc FC ys).run prog u=.ok (.enter FC ys) u) (hp:∀ x ∈ xs,∀ w1:World,ag w w1→Calls prog FC (rc.push (.int .i64 x) ++ cp) w1 fun e w'=>e=.returned (.bool (p x))∧ag w1 w') :
  Calls prog 215 #[.slice ad xs.length cap,.func (Fn.func FC) rc cp] w fun e w'=>e=.returned (.bool (xs.any p))∧ag w w':=by
 have HC:=aC (JX FC rc cp p ad cap xs w hlen hs hrun hp);clear hs hrun hp;go_enter func215,ntmps215;go_wp2_with fail;refine HC.out.mono ?_;rintro e w' ⟨⟨r,rfl,hr⟩,hbx⟩;have HR:=aC hr;clear hr;go_wp2;go_ret;exact ⟨by rw [← HR.out]; rfl,hbx⟩
section
variable {w:World} {rs:List TR} {D br bp bt bK nK:Nat} {n1:Int} {nr:Nat} {Mr:KL→Option Value} {Er:List (KL × RR)} {ts:List Tp} {xo xu:List Al} {np:Nat} {Mp:K3→Option Value} {vo vu:Value} {out:List Fc} {f:Fc} {UC:Option Addr} {capE:Nat} {rows:List ER} {n:Nat}
theorem MU (hn:n < rows.length) (hD:DatA w rs D br bp bt n1 nr Mr Er (dK ts) xo xu np Mp vo vu) (hK:aM oC prog 29 w bK nK (BP out)) (hf:f.fits) (hts:∀ t ∈ ts,t.fits) (htl:ts.length≤1000) (hex:iH w UC rows) (hre:rows.length≤1000) (hk:rows[n].e.kind=1) :
  Calls prog 167 #[.pointer (some ⟨D,0,none⟩),.slice UC rows.length capE,.int .i64 (n:Int),.agg #[.string f.a,.string f.b,.string f.r,.string f.c,.string f.d],.map (some bK)] w fun e w'=>e=.returned (.bool (dY ts out f))∧ag w w':=by
 obtain ⟨b,off,UF,⟨t0,t1,t2,t3,t4⟩,hbl,hok⟩:=iH.at0 hex hn;obtain ⟨W0,hW0⟩:∃ W0,W0=Ht w D (.slice UC rows.length capE) f bK rows[n]:=⟨_,rfl⟩;have HB0:Hid (ag w W0):=by show Below _ _ _; rw [hW0]; exact lH _ _ _ _ _ _
 have Yu:Hid (NdB W0 w.heap.size D (.slice UC rows.length capE) f bK rows[n]):=by show NdB _ _ _ _ _ _ _; rw [hW0]; exact lI _ _ _ _ _ _
 have hk1:(rows[n].e.kind == 1)=true:=by rw [hk]; rfl
 have ZA:b < w.heap.size + 1:=by omega
 have ZB:b < w.heap.size + 1 + 1:=by omega
 have YB:b < w.heap.size + 1 + 1 + 1:=by omega
 have hn1:=bB n;have hn2:(n:Int) < (rows.length:Int):=by omega
 unfold Ht yw at hW0;have HC:=aC (BQ (hD.below HB0.out) (hK.below HB0.out) hf hts htl);clear hD hK hts hex hk hok;subst UF;go_enter func167,ntmps167;go_wp2_with fail;rw [← hW0];clear hW0 t0 t1 t2 t3 t4;refine (HC.out).mono ?_;rintro e w1 ⟨rfl,hb1⟩;have HB1:=aC (HB0.out.trans (hb1.mono HB0.out.size));clear hb1;go_wp2;go_ret;exact ⟨rfl,HB1.out⟩
theorem PV (hn:n < rows.length) (hK:aM oC prog 29 w bK nK (BP out)) (hf:f.fits) (hnm:rows[n].e.name.size≤maxLen) (hex:iH w UC rows) (hre:rows.length≤1000) (hk:rows[n].e.kind=2) :
  Calls prog 167 #[.pointer (some ⟨D,0,none⟩),.slice UC rows.length capE,.int .i64 (n:Int),.agg #[.string f.a,.string f.b,.string f.r,.string f.c,.string f.d],.map (some bK)] w fun e w'=>e=.returned (.bool (bP out ⟨f.a,f.b,rows[n].e.name,f.c,f.d⟩))∧ag w w':=by
 obtain ⟨b,off,UF,⟨t0,t1,t2,t3,t4⟩,hbl,hok⟩:=iH.at0 hex hn;obtain ⟨W0,hW0⟩:∃ W0,W0=Ht w D (.slice UC rows.length capE) f bK rows[n]:=⟨_,rfl⟩;have HB0:Hid (ag w W0):=by show Below _ _ _; rw [hW0]; exact lH _ _ _ _ _ _
 have Yu:Hid (NdB W0 w.heap.size D (.slice UC rows.length capE) f bK rows[n]):=by show NdB _ _ _ _ _ _ _; rw [hW0]; exact lI _ _ _ _ _ _
 have hk1:(rows[n].e.kind == 1)=false:=by rw [hk]; rfl
 have hk2:(rows[n].e.kind == 2)=true:=by rw [hk]; rfl
 have ZA:b < w.heap.size + 1:=by omega
 have ZB:b < w.heap.size + 1 + 1:=by omega
 have YB:b < w.heap.size + 1 + 1 + 1:=by omega
 have hn1:=bB n;have hn2:(n:Int) < (rows.length:Int):=by omega
 unfold Ht yw at hW0;have HC:=aC (vS bK nK out ⟨f.a,f.b,rows[n].e.name,f.c,f.d⟩ W0 ⟨hf.1,hf.2.1,hnm,hf.2.2.2.1,hf.2.2.2.2⟩ (hK.below HB0.out));clear hK hex hk hok hf;subst UF;go_enter func167,ntmps167;go_wp2_with fail;rw [← hW0];clear hW0 t0 t1 t2 t3 t4;refine (HC.out).mono ?_;rintro e w1 ⟨rfl,hb1⟩;have HB1:=aC (HB0.out.trans (hb1.mono HB0.out.size));clear hb1;go_wp2;go_ret;exact ⟨rfl,HB1.out⟩
theorem MV (hn:n < rows.length) (hD:DatA w rs D br bp bt n1 nr Mr Er (dK ts) xo xu np Mp vo vu) (hK:aM oC prog 29 w bK nK (BP out)) (hf:f.fits) (YA:rows[n].e.over.size≤maxLen∧rows[n].e.name.size≤maxLen) (hts:∀ t ∈ ts,t.fits) (htl:ts.length≤1000) (hex:iH w UC rows) (hre:rows.length≤1000) (hk:rows[n].e.kind=3) :
  Calls prog 167 #[.pointer (some ⟨D,0,none⟩),.slice UC rows.length capE,.int .i64 (n:Int),.agg #[.string f.a,.string f.b,.string f.r,.string f.c,.string f.d],.map (some bK)] w fun e w'=>e=.returned (.bool (gp ts out rows[n].e.over rows[n].e.name f))∧ag w w':=by
 obtain ⟨b,off,UF,⟨t0,t1,t2,t3,t4⟩,hbl,hok⟩:=iH.at0 hex hn;obtain ⟨W0,hW0⟩:∃ W0,W0=Ht w D (.slice UC rows.length capE) f bK rows[n]:=⟨_,rfl⟩;have HB0:Hid (ag w W0):=by show Below _ _ _; rw [hW0]; exact lH _ _ _ _ _ _
 have Yu:Hid (NdB W0 w.heap.size D (.slice UC rows.length capE) f bK rows[n]):=by show NdB _ _ _ _ _ _ _; rw [hW0]; exact lI _ _ _ _ _ _
 have hk1:(rows[n].e.kind == 1)=false:=by rw [hk]; rfl
 have hk2:(rows[n].e.kind == 2)=false:=by rw [hk]; rfl
 have hk3:(rows[n].e.kind == 3)=true:=by rw [hk]; rfl
 have ZA:b < w.heap.size + 1:=by omega
 have ZB:b < w.heap.size + 1 + 1:=by omega
 have YB:b < w.heap.size + 1 + 1 + 1:=by omega
 have hn1:=bB n;have hn2:(n:Int) < (rows.length:Int):=by omega
 unfold Ht yw at hW0;have HC:=aC (BR (hD.below HB0.out) (hK.below HB0.out) rows[n] YA hf hts htl);clear hD hK hts hex hk hok YA hf;subst UF;go_enter func167,ntmps167;go_wp2_with fail;rw [← hW0];clear hW0 t0 t1 t2 t3 t4;refine (HC.out).mono ?_;rintro e w1 ⟨rfl,hb1⟩;have HB1:=aC (HB0.out.trans (hb1.mono HB0.out.size));clear hb1;go_wp2;go_ret;exact ⟨rfl,HB1.out⟩
theorem JY (hn:n < rows.length) (H:Int→Bool) (hkl:rows[n].e.kids.length≤1000) (Zv:∀ i ∈ rows[n].e.kids,JW D (.slice UC rows.length capE) f bK w i (H i)) (hex:iH w UC rows) (hre:rows.length≤1000) (hk:rows[n].e.kind=4) :
  Calls prog 167 #[.pointer (some ⟨D,0,none⟩),.slice UC rows.length capE,.int .i64 (n:Int),.agg #[.string f.a,.string f.b,.string f.r,.string f.c,.string f.d],.map (some bK)] w fun e w'=>e=.returned (.bool (rows[n].e.kids.any H))∧ag w w':=by
 obtain ⟨b,off,UF,⟨t0,t1,t2,t3,t4⟩,hbl,hok⟩:=iH.at0 hex hn;obtain ⟨W0,hW0⟩:∃ W0,W0=Ht w D (.slice UC rows.length capE) f bK rows[n]:=⟨_,rfl⟩;have HB0:Hid (ag w W0):=by show Below _ _ _; rw [hW0]; exact lH _ _ _ _ _ _
 have Yu:Hid (NdB W0 w.heap.size D (.slice UC rows.length capE) f bK rows[n]):=by show NdB _ _ _ _ _ _ _; rw [hW0]; exact lI _ _ _ _ _ _
 have hk1:(rows[n].e.kind == 1)=false:=by rw [hk]; rfl
 have hk2:(rows[n].e.kind == 2)=false:=by rw [hk]; rfl
 have hk3:(rows[n].e.kind == 3)=false:=by rw [hk]; rfl
 have hk4:(rows[n].e.kind == 4)=true:=by rw [hk]; rfl
 have ZA:b < w.heap.size + 1:=by omega
 have ZB:b < w.heap.size + 1 + 1:=by omega
 have YB:b < w.heap.size + 1 + 1 + 1:=by omega
 have hn1:=bB n;have hn2:(n:Int) < (rows.length:Int):=by omega
 unfold Ht yw at hW0;have HC:=aC (sG 211 #[] #[.pointer (some ⟨w.heap.size,0,none⟩),.pointer (some ⟨w.heap.size + 1,0,none⟩),.pointer (some ⟨w.heap.size + 1 + 1,0,none⟩),.pointer (some ⟨w.heap.size + 1 + 1 + 1,0,none⟩)] H rows[n].adK rows[n].capK rows[n].e.kids W0 (by omega) (hok.2.below HB0.out) SI (fun i hi w1 hb=>pF (Zv i hi) (HB0.out.trans (hb.mono HB0.out.size)) (Yu.out.below hb)));clear Zv hex hk hok;subst UF;go_enter func167,ntmps167;go_wp2_with fail;rw [← hW0];clear hW0 t0 t1 t2 t3 t4;refine (HC.out).mono ?_;rintro e w1 ⟨rfl,hb1⟩;have HB1:=aC (HB0.out.trans (hb1.mono HB0.out.size));clear hb1;go_wp2;go_ret;exact ⟨rfl,HB1.out⟩
theorem MW (hn:n < rows.length) (H:Int→Bool) (hkl:rows[n].e.kids.length≤1000) (Zv:∀ i ∈ rows[n].e.kids,JW D (.slice UC rows.length capE) f bK w i (H i)) (hex:iH w UC rows) (hre:rows.length≤1000) (hk:rows[n].e.kind=5) :
  Calls prog 167 #[.pointer (some ⟨D,0,none⟩),.slice UC rows.length capE,.int .i64 (n:Int),.agg #[.string f.a,.string f.b,.string f.r,.string f.c,.string f.d],.map (some bK)] w fun e w'=>e=.returned (.bool (rows[n].e.kids.all H))∧ag w w':=by
 obtain ⟨b,off,UF,⟨t0,t1,t2,t3,t4⟩,hbl,hok⟩:=iH.at0 hex hn;obtain ⟨W0,hW0⟩:∃ W0,W0=Ht w D (.slice UC rows.length capE) f bK rows[n]:=⟨_,rfl⟩;have HB0:Hid (ag w W0):=by show Below _ _ _; rw [hW0]; exact lH _ _ _ _ _ _
 have Yu:Hid (NdB W0 w.heap.size D (.slice UC rows.length capE) f bK rows[n]):=by show NdB _ _ _ _ _ _ _; rw [hW0]; exact lI _ _ _ _ _ _
 have hk1:(rows[n].e.kind == 1)=false:=by rw [hk]; rfl
 have hk2:(rows[n].e.kind == 2)=false:=by rw [hk]; rfl
 have hk3:(rows[n].e.kind == 3)=false:=by rw [hk]; rfl
 have hk4:(rows[n].e.kind == 4)=false:=by rw [hk]; rfl
 have hk5:(rows[n].e.kind == 5)=true:=by rw [hk]; rfl
 have ZA:b < w.heap.size + 1:=by omega
 have ZB:b < w.heap.size + 1 + 1:=by omega
 have YB:b < w.heap.size + 1 + 1 + 1:=by omega
 have hn1:=bB n;have hn2:(n:Int) < (rows.length:Int):=by omega
 unfold Ht yw at hW0;have HC:=aC (sG 212 #[] #[.pointer (some ⟨w.heap.size + 1 + 1 + 1 + 1 + 1,0,none⟩)] (fun i=>!H i) rows[n].adK rows[n].capK rows[n].e.kids W0 (by omega) (hok.2.below HB0.out) SK (fun i hi w1 hb=>vV (Zv i hi) (HB0.out.trans (hb.mono HB0.out.size)) (Yu.out.below hb)));have UN:Hid ((rows[n].e.kids.any fun i=>!H i)=!rows[n].e.kids.all H):=by show _=_; rw [List.not_all_eq_any_not]
 clear Zv hex hk hok;subst UF;go_enter func167,ntmps167;go_wp2_with fail;rw [← hW0];clear hW0 t0 t1 t2 t3 t4;refine (HC.out).mono ?_;rintro e w1 ⟨he,hb1⟩;rw [UN.out] at he;subst he;have HB1:=aC (HB0.out.trans (hb1.mono HB0.out.size));clear hb1;go_wp2;go_ret;exact ⟨by simp,HB1.out⟩
end
open Go.Sort
section
variable {w:World} {rs:List TR} {D br bp bt bK nK:Nat} {n1:Int} {nr:Nat} {Mr:KL→Option Value} {Er:List (KL × RR)} {ts:List Tp} {xo xu:List Al} {np:Nat} {Mp:K3→Option Value} {vo vu:Value} {out:List Fc} {f:Fc} {UC:Option Addr} {capE:Nat} {rows:List ER} {n:Nat}
theorem PW (hn:n < rows.length) (b0 b1:Bool) (hkl:rows[n].e.kids.length≤1000) (hk2l:2≤rows[n].e.kids.length) (hA:JW D (.slice UC rows.length capE) f bK w (rows[n].e.kids.getD 0 0) b0) (hB:JW D (.slice UC rows.length capE) f bK w (rows[n].e.kids.getD 1 0) b1) (hex:iH w UC rows) (hre:rows.length≤1000) (hk:rows[n].e.kind=6) :
  Calls prog 167 #[.pointer (some ⟨D,0,none⟩),.slice UC rows.length capE,.int .i64 (n:Int),.agg #[.string f.a,.string f.b,.string f.r,.string f.c,.string f.d],.map (some bK)] w fun e w'=>e=.returned (.bool (b0 && !b1))∧ag w w':=by
 obtain ⟨b,off,UF,⟨t0,t1,t2,t3,t4⟩,hbl,hok⟩:=iH.at0 hex hn;obtain ⟨W0,hW0⟩:∃ W0,W0=Ht w D (.slice UC rows.length capE) f bK rows[n]:=⟨_,rfl⟩;have HB0:Hid (ag w W0):=by show Below _ _ _; rw [hW0]; exact lH _ _ _ _ _ _
 have Yu:Hid (NdB W0 w.heap.size D (.slice UC rows.length capE) f bK rows[n]):=by show NdB _ _ _ _ _ _ _; rw [hW0]; exact lI _ _ _ _ _ _
 have hk1:(rows[n].e.kind == 1)=false:=by rw [hk]; rfl
 have hk2:(rows[n].e.kind == 2)=false:=by rw [hk]; rfl
 have hk3:(rows[n].e.kind == 3)=false:=by rw [hk]; rfl
 have hk4:(rows[n].e.kind == 4)=false:=by rw [hk]; rfl
 have hk5:(rows[n].e.kind == 5)=false:=by rw [hk]; rfl
 have ZA:b < w.heap.size + 1:=by omega
 have ZB:b < w.heap.size + 1 + 1:=by omega
 have YB:b < w.heap.size + 1 + 1 + 1:=by omega
 have hn1:=bB n;have hn2:(n:Int) < (rows.length:Int):=by omega
 unfold Ht yw at hW0;have h0k:0 < rows[n].e.kids.length:=by omega
 have h1k:1 < rows[n].e.kids.length:=by omega
 obtain ⟨bJ,YW,U7,z0,ZX⟩:=pX.at0 hok.2 h0k;have z1:w.cell? ⟨bJ,YW + 1,none⟩=some (.int .i64 rows[n].e.kids[1]):=by
  obtain ⟨b',off',XL,z1,-⟩:=pX.at0 hok.2 h1k;rw [U7] at XL; injection XL with e; injection e with e1 e2;rw [e1,e2]; exact z1
 obtain ⟨i0,hi0⟩:∃ i,i=rows[n].e.kids[0]:=⟨_,rfl⟩;obtain ⟨i1,hi1⟩:∃ i,i=rows[n].e.kids[1]:=⟨_,rfl⟩;have g0:rows[n].e.kids.getD 0 0=i0:=by rw [hi0,List.getD_eq_getElem?_getD,TY h0k]; rfl
 have g1:rows[n].e.kids.getD 1 0=i1:=by rw [hi1,List.getD_eq_getElem?_getD,TY h1k]; rfl
 rw [g0] at hA;rw [g1] at hB;rw [← hi0,Nat.add_zero] at z0;rw [← hi1] at z1;obtain ⟨kl,hkl'⟩:∃ kl,kl=rows[n].e.kids.length:=⟨_,rfl⟩;obtain ⟨cK,hcK⟩:∃ c,c=rows[n].capK:=⟨_,rfl⟩;have hl0:(0:Int) < (kl:Int):=by omega
 have hl1:(1:Int) < (kl:Int):=by omega
 have h0k':0 < kl:=by omega
 have h1k':1 < kl:=by omega
 have HA:Hid (∀ w1,ag W0 w1→_):=fun w1 hb=>pF hA (HB0.out.trans (hb.mono HB0.out.size)) (Yu.out.below hb);have We:Hid (∀ w1,ag W0 w1→_):=fun w1 hb=>vV hB (HB0.out.trans (hb.mono HB0.out.size)) (Yu.out.below hb);have HZ:Hid (W0.cell? ⟨bJ,YW,none⟩=some (.int .i64 i0)∧W0.cell? ⟨bJ,YW + 1,none⟩=some (.int .i64 i1)∧bJ < W0.heap.size):=⟨(HB0.out.cell (p:=⟨bJ,YW,none⟩) ZX).trans z0,(HB0.out.cell (p:=⟨bJ,YW + 1,none⟩) ZX).trans z1,TP ZX HB0.out.size⟩;have HX4:Hid (W0.cell? ⟨w.heap.size + 1 + 1 + 1 + 1,4,none⟩=some (.slice (some ⟨bJ,YW,none⟩) kl cK)):=by show _=_; rw [Yu.out.x4,U7,← hkl',← hcK]
 have HV5:Hid (W0.cell? ⟨w.heap.size + 1 + 1 + 1 + 1 + 1,0,none⟩=some (.func (Fn.func 211) #[] #[.pointer (some ⟨w.heap.size,0,none⟩),.pointer (some ⟨w.heap.size + 1,0,none⟩),.pointer (some ⟨w.heap.size + 1 + 1,0,none⟩),.pointer (some ⟨w.heap.size + 1 + 1 + 1,0,none⟩)])):=Yu.out.v;clear hA hB hex hk hok z0 z1 U7 h0k h1k g0 g1 hi0 hi1;subst UF;go_enter func167,ntmps167;go_wp2_with fail;rw [← hW0];clear hW0 t0 t1 t2 t3 t4;clear hk1 hk2 hk3 hk4 hk5 hkl' hcK;have HAA:Hid (∀ d os,Calls prog 211 #[.int .i64 i0,.pointer (some ⟨w.heap.size,0,none⟩),.pointer (some ⟨w.heap.size + 1,0,none⟩),.pointer (some ⟨w.heap.size + 1 + 1,0,none⟩),.pointer (some ⟨w.heap.size + 1 + 1 + 1,0,none⟩)] (grow (redrawn W0 d) os) fun e w''=>e=.returned (.bool b0)∧∃ p:Regrown,w''=grow (redrawn W0 p.d) p.os):=by
  refine dm fun W' hb=>?_;exact HA.out _ hb
 have HBQ:Hid (∀ d os,Calls prog 212 #[.int .i64 i1,.pointer (some ⟨w.heap.size + 1 + 1 + 1 + 1 + 1,0,none⟩)] (grow (redrawn W0 d) os) fun e w''=>e=.returned (.bool (!b1))∧∃ p:Regrown,w''=grow (redrawn W0 p.d) p.os):=by
  refine dm fun W' hb=>?_;exact We.out _ hb
 have x4:=cell_regrown HX4.out;have v5:=cell_regrown HV5.out;have z0:=cell_regrown HZ.out.1;have z1:=cell_regrown HZ.out.2.1;clear HA We Yu;cases b0
 case' true =>
  skip
 case' false =>
  skip
 all_goals
  refine wp_region_quiet_below (by kernel_rfl) (by kernel_rfl) ?_
  repeat (go_big_quiet_step (first | exact HAA.out _ _ | exact HBQ.out _ _))
  refine wpQuiet_nil ?_;rintro _ ⟨⟨dq,osq⟩,rfl⟩;go_wp2;go_ret;exact ⟨rfl,HB0.out.trans ((below_regrown W0 dq osq).mono HB0.out.size)⟩
end
end Go.Proofs.YtajkkeikihhejaaGreat
