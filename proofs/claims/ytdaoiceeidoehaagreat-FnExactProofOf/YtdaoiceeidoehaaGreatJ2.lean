/- Contracts of the law's helpers that copy a node and a whole expression: new memory that holds the same. -/
import Derived.Test.YtdaoiceeidoehaaGreatSq
import Derived.Test.YtdaoiceeidoehaaGreatJ1
import Derived.Laws.IdiomStrings
import Derived.Deep.RegionHeld3
import Derived.Deep.QuietTactic
import Derived.BigQuiet
import Derived.WalkSmall
import Derived.WalkSpells
open Go.Proofs.Tryz
set_option maxHeartbeats 80000000
namespace Go.Proofs.YtdaoiceeidoehaaGreat
open Go.ChangeShapes Go.WideShapes Go.ChangeAt Go.RowKit
open Pl
theorem iy.set {w:World} {ad:Option Addr} {xs:List Al} {g o:Nat} {v:Value} (h:iy w ad xs) (hn:∀ b off,ad=some ⟨b,off,none⟩→g ≠ b):iy (w.setCell ⟨g,o,none⟩ v) ad xs:=by
 rcases h with h | ⟨b,off,e,hb,hr⟩
 ·exact .inl h
 ·exact .inr ⟨b,off,e,by simpa using hb,fun i hi=>(hr i hi).same fun o=>eY (hn b off e)⟩
theorem lF.set {w:World} {ad:Option Addr} {zs:List Int} {g o:Nat} {v:Value} (h:lF w ad zs) (hn:∀ b off,ad=some ⟨b,off,none⟩→g ≠ b):lF (w.setCell ⟨g,o,none⟩ v) ad zs:=by
 rcases h with h | ⟨b,off,e,hb,hr⟩
 ·exact .inl h
 ·exact .inr ⟨b,off,e,by simpa using hb,fun i hi=>by rw [eY (hn b off e)]; exact hr i hi⟩
theorem kept {W w1:World} {n o:Nat} {v:Value} (hb:Below W.heap.size W w1) (hn:n < W.heap.size) (h:W.cell? ⟨n,o,none⟩=some v):w1.cell? ⟨n,o,none⟩=some v:=by
 rw [hb.cell (p:=⟨n,o,none⟩) hn]; exact h
theorem iN {W w1:World} {n o:Nat} (hb:Below W.heap.size W w1) (hn:n < W.heap.size) (h:W.frozen? ⟨n,o,none⟩=false):w1.frozen? ⟨n,o,none⟩=false:=by
 rw [hb.frozen (p:=⟨n,o,none⟩) hn]; exact h
theorem iP (w:World) (x:Obj) (C:Array Value) (t:TypeId) (k:Nat) {v:Value} (h:C[k]?=some v):((w.alloc x).alloc (.cells C t)).cell? ⟨w.heap.size + 1,k,none⟩=some v:=by
 have:=World.cell?_alloc_mark (w.alloc x) C t (0,0) k;rw [World.size_alloc,h] at this;exact this
theorem lc (w:World) (x y:Obj) (C:Array Value) (t:TypeId) (k:Nat) {v:Value} (h:C[k]?=some v):(((w.alloc x).alloc y).alloc (.cells C t)).cell? ⟨w.heap.size + 1 + 1,k,none⟩=some v:=by
 have:=iP (w.alloc x) y C t k h;rw [World.size_alloc] at this;exact this
theorem wQ (w:World) (x:Obj) (C:Array Value) (t:TypeId) {k:Nat}:((w.alloc x).alloc (.cells C t)).frozen? ⟨w.heap.size + 1,k,none⟩=false:=by
 have:((w.alloc x).alloc (.cells C t)).frozen? ⟨(w.alloc x).heap.size,k,none⟩=false:=by simp
 rw [World.size_alloc] at this;exact this
theorem BV (w:World) (x y:Obj) (C:Array Value) (t:TypeId) {k:Nat}:(((w.alloc x).alloc y).alloc (.cells C t)).frozen? ⟨w.heap.size + 1 + 1,k,none⟩=false:=by
 have:=wQ (w.alloc x) y C t (k:=k);rw [World.size_alloc] at this;exact this
def ER.row (r:ER):List Value:=[.int .i64 r.e.kind,.slice r.adA r.e.allow.length r.capA,.string r.e.over,.string r.e.name,.slice r.adK r.e.kids.length r.capK]
def nX (rs:List ER):List Value:=rs.flatMap ER.row
theorem sQ:∀ rs:List ER,(nX rs).length=rs.length * 5
 | []=>rfl
 | r::rs=>by have:=sQ rs; simp only [nX,ER.row,List.flatMap_cons,R9,List.length_cons,List.length_nil] at this ⊢; omega
theorem DJ:∀ (rs:List ER) (i:Nat) (h:i < rs.length) (j:Nat),j < 5→(nX rs)[i * 5 + j]?=(rs[i]).row[j]?
 | [],i,h,_,_=>by simp at h
 | r::rs,0,_,j,hj=>by
  simp only [nX,List.flatMap_cons,Nat.zero_mul,Su,List.getElem_cons_zero];rw [List.getElem?_append_left (by simpa [ER.row] using hj)]
 | r::rs,i + 1,h,j,hj=>by
  have:=DJ rs i (by simpa using h) j hj;simp only [nX,List.flatMap_cons,List.getElem_cons_succ] at this ⊢;rw [List.getElem?_append_right (by simp [ER.row]; omega),← this];congr 1;simp [ER.row]; omega
theorem Fil.rows {w w':World} {g:Nat} {rs:List ER} (h:Fil w w' g (rs.length * 5) (nX rs)) (hok:∀ r ∈ rs,r.ok w'):eX w' (some ⟨g,0,none⟩) rs:=by
 refine .inr ⟨g,0,rfl,h.lt,fun i hi=>?_,hok⟩;have hl:=sQ rs;have key:∀ j,j < 5→w'.cell? ⟨g,0 + i * 5 + j,none⟩=(rs[i]).row[j]?:=fun j hj=>by
  rw [Su,h.done (i * 5 + j) (by omega),← DJ rs i hi j hj,R8 (by omega)]
 exact ⟨key 0 (by omega),key 1 (by omega),key 2 (by omega),key 3 (by omega),key 4 (by omega)⟩
def ER.new (B:Nat) (r:ER):Prop:=∃ gA gK:Nat,r.adA=some ⟨gA,0,none⟩∧r.adK=some ⟨gK,0,none⟩∧B < gA∧B < gK∧r.capA=r.e.allow.length
theorem ER.ok.set {w:World} {r:ER} {g o:Nat} {v:Value} (h:r.ok w) (hn:r.new g):r.ok (w.setCell ⟨g,o,none⟩ v):=by
 obtain ⟨gA,gK,e1,e2,h1,h2,-⟩:=hn;refine ⟨h.1.set fun b off e=>?_,h.2.set fun b off e=>?_⟩
 ·rw [e1] at e; injection e with e; injection e with e3 e4; omega
 ·rw [e2] at e; injection e with e; injection e with e3 e4; omega
theorem zF (ad SQ:Option Addr) (cap cap':Nat) (zs:List Int) (w:World) (hlen:zs.length≤maxLen) (hs:lF w ad zs) (hs':lF w SQ zs) :
  Calls prog 168 #[.slice ad zs.length cap,.slice SQ zs.length cap'] w fun e w'=>e=.returned (.bool true)∧Below w.heap.size w w':=by
 unfold maxLen at hlen;go_enter func168,ntmps168;go_wp2;go_loopw [5] (fun i wr=>∃ k:Nat,k≤zs.length∧i=.int .i64 k∧Below w.heap.size w wr) (fun i _=>zs.length - (intOf i).toNat);case atStart=>exact ⟨0,R6 _,rfl,R3 _ _⟩
 case round =>
  obtain ⟨k,hk,rfl,hB⟩:=hrel;by_cases hlt:k < zs.length
  ·rcases hs.below hB with rfl | ⟨b,off,rfl,hb,hr⟩
   ·simp at hlt
   rcases hs'.below hB with rfl | ⟨b',off',rfl,hb',hr'⟩
   ·simp at hlt
   have t0:=hr k hlt;have q0:=hr' k hlt;have hk1:=bn k;have hk2:(k:Int) < (zs.length:Int):=by omega
   clear hr hr' hs hs';go_wp2_with fail;go_quiet (fail);go_wp2;go_roundw;case rel=>exact ⟨k + 1,by omega,by go_num,below_drewN hB _⟩
   case measure=>simp [intOf]; omega
  ·go_wp2;go_ret;exact ⟨rfl,hB⟩
theorem xA (t s:ByteArray) (w:World) :
  Calls prog 178 #[.agg #[.string t,.string s],.agg #[.string t,.string s]] w fun e w'=>e=.returned (.bool true)∧Below w.heap.size w w':=by
 go_enter func178,ntmps178;go_wp2;go_ret;exact ⟨rfl,((R3 w.heap.size w).alloc (R4 _) _).alloc (by simp) _⟩
theorem LC {w W w':World} {b b' o o':Nat} {x0 x1 y0 y1:Value} (h:W.cell? ⟨b,o,none⟩=some x0∧W.cell? ⟨b,o + 1,none⟩=some x1∧W.cell? ⟨b',o',none⟩=some y0∧W.cell? ⟨b',o' + 1,none⟩=some y1∧b < W.heap.size∧b' < W.heap.size∧Below w.heap.size w W) (hb:Below W.heap.size W w') :
  w'.cell? ⟨b,o,none⟩=some x0∧w'.cell? ⟨b,o + 1,none⟩=some x1∧w'.cell? ⟨b',o',none⟩=some y0∧w'.cell? ⟨b',o' + 1,none⟩=some y1∧b < w'.heap.size∧b' < w'.heap.size∧Below w.heap.size w w':=by
 obtain ⟨h0,h1,h2,h3,l,l',hB⟩:=h;exact ⟨kept hb l h0,kept hb l h1,kept hb l' h2,kept hb l' h3,RZ l hb.size,RZ l' hb.size,hB.trans (hb.mono hB.size)⟩
theorem vS (ad SQ:Option Addr) (cap cap':Nat) (xs:List Al) (w:World) (hlen:xs.length≤maxLen) (hs:iy w ad xs) (hs':iy w SQ xs) :
  Calls prog 167 #[.slice ad xs.length cap,.slice SQ xs.length cap'] w fun e w'=>e=.returned (.bool true)∧Below w.heap.size w w':=by
 unfold maxLen at hlen;go_enter func167,ntmps167;go_wp2;go_loopw [5] (fun i wr=>∃ k:Nat,k≤xs.length∧i=.int .i64 k∧Below w.heap.size w wr) (fun i _=>xs.length - (intOf i).toNat);case atStart=>exact ⟨0,R6 _,rfl,R3 _ _⟩
 case round =>
  obtain ⟨k,hk,rfl,hB⟩:=hrel;by_cases hlt:k < xs.length
  ·rcases hs.below hB with rfl | ⟨b,off,rfl,hb,hr⟩
   ·simp at hlt
   rcases hs'.below hB with rfl | ⟨b',off',rfl,hb',hr'⟩
   ·simp at hlt
   obtain ⟨t0,t1⟩:=hr k hlt;obtain ⟨q0,q1⟩:=hr' k hlt;have hk1:=bn k;have hk2:(k:Int) < (xs.length:Int):=by omega
   clear hr hr' hs hs';go_wp2_with fail
   go_region_held3 (fun w'=>w'.cell? ⟨b,off + k * 2,none⟩=some (.string xs[k].t)∧w'.cell? ⟨b,off + k * 2 + 1,none⟩=some (.string xs[k].s)∧w'.cell? ⟨b',off' + k * 2,none⟩=some (.string xs[k].t)∧w'.cell? ⟨b',off' + k * 2 + 1,none⟩=some (.string xs[k].s)∧b < w'.heap.size∧b' < w'.heap.size∧Below w.heap.size w w')
    (first | assumption | exact LC (by assumption) hbx | exact ⟨t0,t1,q0,q1,hb,hb',hB.drew⟩)
    (first | (go_at_call 178; refine (xA _ _ _).mono ?_; rintro e w' ⟨rfl,hbx⟩))
   rename_i hH;obtain ⟨-,-,-,-,-,-,gB⟩:=hH;clear t0 t1 q0 q1 hB hb hb';go_wp2;go_roundw;case rel=>exact ⟨k + 1,by omega,by go_num,gB⟩
   case measure=>simp [intOf]; omega
  ·go_wp2;go_ret;exact ⟨rfl,hB⟩
theorem DK (r r':ER) (w:World) (he:r'.e=r.e) (hr:r.ok w) (hr':r'.ok w) (hf:r.e.allow.length≤maxLen) (hg:r.e.kids.length≤maxLen) :
  Calls prog 155 #[r.val,r'.val] w fun e w'=>e=.returned (.bool true)∧Below w.heap.size w w':=by
 obtain ⟨⟨kind,allow,over,name,kids⟩,adA,capA,adK,capK⟩:=r;obtain ⟨e',adA',Yn,V8,U3⟩:=r';simp only at he;subst he;obtain ⟨hA,hK⟩:=hr;obtain ⟨hA',hK'⟩:=hr';simp only at hA hK hA' hK' hf hg;simp only [ER.val];obtain ⟨W1,hW1⟩:∃ W1,W1=(w.alloc (.cells #[.int .i64 kind,.slice adA allow.length capA,.string over,.string name,.slice adK kids.length capK] 166)).alloc (.cells #[.int .i64 kind,.slice adA' allow.length Yn,.string over,.string name,.slice V8 kids.length U3] 166):=⟨_,rfl⟩;have hb0:Below w.heap.size w W1:=by rw [hW1]; exact ((R3 w.heap.size w).alloc (R4 _) _).alloc (by simp) _
 have bA:Below (w.alloc (.cells #[.int .i64 kind,.slice adA allow.length capA,.string over,.string name,.slice adK kids.length capK] 166)).heap.size (w.alloc (.cells #[.int .i64 kind,.slice adA allow.length capA,.string over,.string name,.slice adK kids.length capK] 166)) W1:=by rw [hW1]; exact (R3 _ _).alloc (R4 _) _
 have hz1:w.heap.size + 2≤W1.heap.size:=by rw [hW1]; simp only [World.size_alloc]; omega
 have s2:W1.cell? ⟨w.heap.size,2,none⟩=some (.string over):=kept bA (by simp) (by simp);have s3:W1.cell? ⟨w.heap.size,3,none⟩=some (.string name):=kept bA (by simp) (by simp);have s4:W1.cell? ⟨w.heap.size,4,none⟩=some (.slice adK kids.length capK):=kept bA (by simp) (by simp);have o2:W1.cell? ⟨w.heap.size + 1,2,none⟩=some (.string over):=by rw [hW1]; exact iP _ _ _ _ _ rfl
 have o3:W1.cell? ⟨w.heap.size + 1,3,none⟩=some (.string name):=by rw [hW1]; exact iP _ _ _ _ _ rfl
 have o4:W1.cell? ⟨w.heap.size + 1,4,none⟩=some (.slice V8 kids.length U3):=by rw [hW1]; exact iP _ _ _ _ _ rfl
 go_enter func155,ntmps155;go_wp2_with fail;rw [← hW1];refine (vS adA adA' capA Yn allow W1 hf (hA.below hb0) (hA'.below hb0)).mono ?_;rintro e w1 ⟨rfl,hb1⟩;replace s2:=kept hb1 (by omega) s2;replace o2:=kept hb1 (by omega) o2;replace s3:=kept hb1 (by omega) s3;replace o3:=kept hb1 (by omega) o3;replace s4:=kept hb1 (by omega) s4;replace o4:=kept hb1 (by omega) o4;have HB1:Hid (Below w.heap.size w w1):=hb0.trans (hb1.mono (by omega));clear hb1 hb0 bA hW1 hA hA';go_wp2_with fail;refine (zF adK V8 capK U3 kids w1 hg (hK.below HB1.out) (hK'.below HB1.out)).mono ?_;rintro e w2 ⟨rfl,hb2⟩;have HB2:=gY HB1 hb2;clear hb2;go_wp2;go_ret;exact ⟨rfl,HB2.out⟩
theorem Qh {wr W w':World} {b b' o o':Nat} {x0 x1 x2 x3 x4 y0 y1 y2 y3 y4:Value} (h:W.cell? ⟨b,o,none⟩=some x0∧W.cell? ⟨b,o + 1,none⟩=some x1∧W.cell? ⟨b,o + 2,none⟩=some x2∧W.cell? ⟨b,o + 3,none⟩=some x3∧W.cell? ⟨b,o + 4,none⟩=some x4∧W.cell? ⟨b',o',none⟩=some y0∧W.cell? ⟨b',o' + 1,none⟩=some y1∧W.cell? ⟨b',o' + 2,none⟩=some y2∧W.cell? ⟨b',o' + 3,none⟩=some y3∧W.cell? ⟨b',o' + 4,none⟩=some y4∧b < W.heap.size∧b' < W.heap.size∧Below wr.heap.size wr W) (hb:Below W.heap.size W w'):w'.cell? ⟨b,o,none⟩=some x0∧w'.cell? ⟨b,o + 1,none⟩=some x1∧w'.cell? ⟨b,o + 2,none⟩=some x2∧w'.cell? ⟨b,o + 3,none⟩=some x3∧w'.cell? ⟨b,o + 4,none⟩=some x4∧w'.cell? ⟨b',o',none⟩=some y0∧w'.cell? ⟨b',o' + 1,none⟩=some y1∧w'.cell? ⟨b',o' + 2,none⟩=some y2∧w'.cell? ⟨b',o' + 3,none⟩=some y3∧w'.cell? ⟨b',o' + 4,none⟩=some y4∧b < w'.heap.size∧b' < w'.heap.size∧Below wr.heap.size wr w':=by
 obtain ⟨h0,h1,h2,h3,h4,k0,k1,k2,k3,k4,l,l',hB⟩:=h;exact ⟨kept hb l h0,kept hb l h1,kept hb l h2,kept hb l h3,kept hb l h4,kept hb l' k0,kept hb l' k1,kept hb l' k2,kept hb l' k3,kept hb l' k4,RZ l hb.size,RZ l' hb.size,hB.trans (hb.mono hB.size)⟩
theorem bQ {wr W:World} {b b' o o':Nat} {x0 x1 x2 x3 x4 y0 y1 y2 y3 y4:Value} (h:W.cell? ⟨b,o,none⟩=some x0∧W.cell? ⟨b,o + 1,none⟩=some x1∧W.cell? ⟨b,o + 2,none⟩=some x2∧W.cell? ⟨b,o + 3,none⟩=some x3∧W.cell? ⟨b,o + 4,none⟩=some x4∧W.cell? ⟨b',o',none⟩=some y0∧W.cell? ⟨b',o' + 1,none⟩=some y1∧W.cell? ⟨b',o' + 2,none⟩=some y2∧W.cell? ⟨b',o' + 3,none⟩=some y3∧W.cell? ⟨b',o' + 4,none⟩=some y4∧b < W.heap.size∧b' < W.heap.size∧Below wr.heap.size wr W):Below wr.heap.size wr W:=h.2.2.2.2.2.2.2.2.2.2.2.2
theorem BZ (ad SQ:Option Addr) (cap cap':Nat) (rs rs':List ER) (w:World) (hlen:rs.length≤1048576) (he:ah rs'=ah rs) (hs:eX w ad rs) (hs':eX w SQ rs') (hl:∀ r ∈ rs,r.e.light) :
  Calls prog 137 #[.slice ad rs.length cap,.slice SQ rs'.length cap'] w fun e w'=>e=.returned (.bool true)∧Below w.heap.size w w':=by
 have hll:rs'.length=rs.length:=by rw [← aJ,he,aJ]
 have Uh:=aC hs;have X9:=aC hs';have U4:=aC hl;have HEE:Hid (ah rs'=ah rs):=he;have Vj:Hid (rs'.length=rs.length):=hll;rw [hll];clear hs hs' hl he hll;go_enter func137,ntmps137;go_wp2;go_loopw [5] (fun i wr=>∃ k:Nat,k≤rs.length∧i=.int .i64 k∧Below w.heap.size w wr) (fun i _=>rs.length - (intOf i).toNat);case atStart=>exact ⟨0,R6 _,rfl,R3 _ _⟩
 case round =>
  obtain ⟨k,hk,rfl,hB⟩:=hrel;by_cases hlt:k < rs.length
  ·have hlt':k < rs'.length:=by rw [Vj.out]; exact hlt
   rcases Uh.out.below hB with rfl | ⟨b,off,rfl,hb,hr,hok⟩
   ·simp at hlt
   rcases X9.out.below hB with rfl | ⟨b',off',rfl,hb',hr',hok'⟩
   ·simp at hlt'
   obtain ⟨t0,t1,t2,t3,t4⟩:=hr k hlt;obtain ⟨q0,q1,q2,q3,q4⟩:=hr' k hlt';have ZQ:Hid (rs[k].ok wr):=hok rs[k] (RY hlt);have HK2:Hid (rs'[k].ok wr):=hok' rs'[k] (RY hlt');have Ya:Hid (rs'[k].e=rs[k].e):=by
    have h1:(ah rs')[k]?=(ah rs)[k]?:=by rw [HEE.out]
    show _=_;simpa [ah,hlt,hlt'] using h1
   obtain ⟨g1,g2⟩:=U4.out rs[k] (RY hlt);have hk1:=bn k;have hk2:(k:Int) < (rs.length:Int):=by omega
   have HK4:Hid (rs[k].e.allow.length≤maxLen):=Sb g1 (by decide);have HK5:Hid (rs[k].e.kids.length≤maxLen):=Sb g2 (by decide);clear hr hr' hok hok' g1 g2;go_wp2_with fail
   go_region_held3 (fun w'=>w'.cell? ⟨b,off + k * 5,none⟩=some (.int .i64 rs[k].e.kind)∧w'.cell? ⟨b,off + k * 5 + 1,none⟩=some (.slice rs[k].adA rs[k].e.allow.length rs[k].capA)∧w'.cell? ⟨b,off + k * 5 + 2,none⟩=some (.string rs[k].e.over)∧w'.cell? ⟨b,off + k * 5 + 3,none⟩=some (.string rs[k].e.name)∧w'.cell? ⟨b,off + k * 5 + 4,none⟩=some (.slice rs[k].adK rs[k].e.kids.length rs[k].capK)∧w'.cell? ⟨b',off' + k * 5,none⟩=some (.int .i64 rs'[k].e.kind)∧w'.cell? ⟨b',off' + k * 5 + 1,none⟩=some (.slice rs'[k].adA rs'[k].e.allow.length rs'[k].capA)∧w'.cell? ⟨b',off' + k * 5 + 2,none⟩=some (.string rs'[k].e.over)∧w'.cell? ⟨b',off' + k * 5 + 3,none⟩=some (.string rs'[k].e.name)∧w'.cell? ⟨b',off' + k * 5 + 4,none⟩=some (.slice rs'[k].adK rs'[k].e.kids.length rs'[k].capK)∧b < w'.heap.size∧b' < w'.heap.size∧Below wr.heap.size wr w')
    (first | assumption | exact Qh (by assumption) hbx | exact ⟨t0,t1,t2,t3,t4,q0,q1,q2,q3,q4,hb,hb',(R3 _ _).drew⟩)
    (first | (go_at_call 155; refine (DK rs[k] rs'[k] _ Ya.out (ZQ.out.below (bQ (by assumption))) (HK2.out.below (bQ (by assumption))) HK4.out HK5.out).mono ?_; rintro e w' ⟨rfl,hbx⟩))
   rename_i hH;obtain ⟨-,-,-,-,-,-,-,-,-,-,-,-,gB⟩:=hH;clear t0 t1 t2 t3 t4 q0 q1 q2 q3 q4 hb hb';go_wp2;go_roundw;case rel=>exact ⟨k + 1,by omega,by go_num,hB.trans (gB.mono hB.size)⟩
   case measure=>simp [intOf]; omega
  ·go_wp2;go_ret;exact ⟨rfl,hB⟩
theorem ER.new.mono {B B':Nat} {r:ER} (h:r.new B) (hB:B'≤B):r.new B':=by
 obtain ⟨gA,gK,e1,e2,h1,h2,h3⟩:=h;exact ⟨gA,gK,e1,e2,by omega,by omega,h3⟩
structure Rl where
 name:ByteArray
 expr:List Ex
structure RR where
 name:ByteArray
 rows:List ER
 ad:Option Addr
 cap:Nat
def RR.p (r:RR):Rl:=⟨r.name,ah r.rows⟩
def RR.val (r:RR):Value:=.agg #[.string r.name,.slice r.ad r.rows.length r.cap]
def RR.ok (w:World) (r:RR):Prop:=eX w r.ad r.rows
def RR.fits (r:RR):Prop:=r.name.size≤maxLen∧r.rows.length≤maxLen∧∀ q ∈ r.rows,q.e.fits
def RR.light (r:RR):Prop:=r.rows.length≤1048576∧∀ q ∈ r.rows,q.e.light
def RR.caps (r:RR):Prop:=r.rows.length≤r.cap∧∀ q ∈ r.rows,q.e.allow.length≤q.capA
def RR.new (B:Nat) (r:RR):Prop:=(∃ g:Nat,r.ad=some ⟨g,0,none⟩∧B < g)∧∀ q ∈ r.rows,q.new B
theorem RR.ok.below {w w':World} {r:RR} (h:r.ok w) (hB:Below w.heap.size w w'):r.ok w':=eX.below h hB
def AtR (w:World) (b off:Nat) (r:RR):Prop:=w.cell? ⟨b,off,none⟩=some (.string r.name)∧w.cell? ⟨b,off + 1,none⟩=some (.slice r.ad r.rows.length r.cap)
theorem AtR.same {w w':World} {b off:Nat} {r:RR} (h:AtR w b off r) (hc:∀ o,w'.cell? ⟨b,o,none⟩=w.cell? ⟨b,o,none⟩):AtR w' b off r:=⟨(hc _).trans h.1,(hc _).trans h.2⟩
theorem AtR.later {w w':World} {b off:Nat} {r:RR} (h:AtR w b off r) (hb:b < w.heap.size) (hB:Below w.heap.size w w'):AtR w' b off r:=h.same fun o=>hB.cell (p:=⟨b,o,none⟩) hb
def zz (w:World) (ad:Option Addr) (rs:List RR):Prop:=rs=[] ∨ ∃ b off,ad=some ⟨b,off,none⟩∧b < w.heap.size∧(∀ (i:Nat) (h:i < rs.length),AtR w b (off + i * 2) rs[i])∧∀ r ∈ rs,r.ok w
theorem zz.below {w w':World} {ad:Option Addr} {rs:List RR} (h:zz w ad rs) (hB:Below w.heap.size w w'):zz w' ad rs:=by
 rcases h with h | ⟨b,off,e,hb,hr,hk⟩
 ·exact .inl h
 ·exact .inr ⟨b,off,e,RZ hb hB.size,fun i hi=>(hr i hi).same fun o=>hB.cell (p:=⟨b,o,none⟩) hb,fun r hr=>(hk r hr).below hB⟩
def dz (rs:List RR):List Rl:=rs.map RR.p
theorem gF (rs:List RR):(dz rs).length=rs.length:=by simp [dz]
theorem RR.ok.set {w:World} {r:RR} {g o:Nat} {v:Value} (h:r.ok w) (hn:r.new g):r.ok (w.setCell ⟨g,o,none⟩ v):=by
 obtain ⟨⟨gE,e1,h1⟩,h2⟩:=hn;rcases h with h | ⟨b,off,e,hb,hr,hk⟩
 ·exact .inl h
 ·refine .inr ⟨b,off,e,by simpa using hb,fun i hi=>(hr i hi).same fun o=>eY ?_,fun q hq=>(hk q hq).set (h2 q hq)⟩;rw [e1] at e; injection e with e; injection e with e3 e4; omega
theorem RR.new.mono {B B':Nat} {r:RR} (h:r.new B) (hB:B'≤B):r.new B':=by
 obtain ⟨⟨g,e,hg⟩,h2⟩:=h;exact ⟨⟨g,e,by omega⟩,fun q hq=>(h2 q hq).mono hB⟩
structure Ty where
 name:ByteArray
 rels:List Rl
structure TR where
 name:ByteArray
 rows:List RR
 ad:Option Addr
 cap:Nat
def TR.p (r:TR):Ty:=⟨r.name,dz r.rows⟩
def TR.val (r:TR):Value:=.agg #[.string r.name,.slice r.ad r.rows.length r.cap]
def TR.ok (w:World) (r:TR):Prop:=zz w r.ad r.rows
def TR.fits (r:TR):Prop:=r.name.size≤maxLen∧r.rows.length≤maxLen∧∀ q ∈ r.rows,q.fits
def TR.light (r:TR):Prop:=r.rows.length≤1048576∧∀ q ∈ r.rows,q.light
def TR.caps (r:TR):Prop:=r.rows.length≤r.cap∧∀ q ∈ r.rows,q.caps
def TR.new (B:Nat) (r:TR):Prop:=(∃ g:Nat,r.ad=some ⟨g,0,none⟩∧B < g)∧∀ q ∈ r.rows,q.new B
theorem TR.ok.below {w w':World} {r:TR} (h:r.ok w) (hB:Below w.heap.size w w'):r.ok w':=zz.below h hB
def LD (w:World) (b off:Nat) (r:TR):Prop:=w.cell? ⟨b,off,none⟩=some (.string r.name)∧w.cell? ⟨b,off + 1,none⟩=some (.slice r.ad r.rows.length r.cap)
theorem LD.same {w w':World} {b off:Nat} {r:TR} (h:LD w b off r) (hc:∀ o,w'.cell? ⟨b,o,none⟩=w.cell? ⟨b,o,none⟩):LD w' b off r:=⟨(hc _).trans h.1,(hc _).trans h.2⟩
theorem LD.later {w w':World} {b off:Nat} {r:TR} (h:LD w b off r) (hb:b < w.heap.size) (hB:Below w.heap.size w w'):LD w' b off r:=h.same fun o=>hB.cell (p:=⟨b,o,none⟩) hb
def jd (w:World) (ad:Option Addr) (rs:List TR):Prop:=rs=[] ∨ ∃ b off,ad=some ⟨b,off,none⟩∧b < w.heap.size∧(∀ (i:Nat) (h:i < rs.length),LD w b (off + i * 2) rs[i])∧∀ r ∈ rs,r.ok w
theorem jd.below {w w':World} {ad:Option Addr} {rs:List TR} (h:jd w ad rs) (hB:Below w.heap.size w w'):jd w' ad rs:=by
 rcases h with h | ⟨b,off,e,hb,hr,hk⟩
 ·exact .inl h
 ·exact .inr ⟨b,off,e,RZ hb hB.size,fun i hi=>(hr i hi).same fun o=>hB.cell (p:=⟨b,o,none⟩) hb,fun r hr=>(hk r hr).below hB⟩
def ae (rs:List TR):List Ty:=rs.map TR.p
theorem fO (rs:List TR):(ae rs).length=rs.length:=by simp [ae]
theorem TR.ok.set {w:World} {r:TR} {g o:Nat} {v:Value} (h:r.ok w) (hn:r.new g):r.ok (w.setCell ⟨g,o,none⟩ v):=by
 obtain ⟨⟨gE,e1,h1⟩,h2⟩:=hn;rcases h with h | ⟨b,off,e,hb,hr,hk⟩
 ·exact .inl h
 ·refine .inr ⟨b,off,e,by simpa using hb,fun i hi=>(hr i hi).same fun o=>eY ?_,fun q hq=>(hk q hq).set (h2 q hq)⟩;rw [e1] at e; injection e with e; injection e with e3 e4; omega
theorem TR.new.mono {B B':Nat} {r:TR} (h:r.new B) (hB:B'≤B):r.new B':=by
 obtain ⟨⟨g,e,hg⟩,h2⟩:=h;exact ⟨⟨g,e,by omega⟩,fun q hq=>(h2 q hq).mono hB⟩
def jf:List Rl→ByteArray→Option (List Ex)
 | [],_=>none
 | r::rs,n=>if r.name.toList == n.toList then some r.expr else jf rs n
def dX:List Ty→ByteArray→ByteArray→Option (List Ex)
 | [],_,_=>none
 | t::ts,ty,n=>if t.name.toList == ty.toList then (jf t.rels n).or (dX ts ty n) else dX ts ty n
def jU:List Ty→ByteArray→Bool
 | [],_=>false
 | t::ts,ty=>(t.name.toList == ty.toList) || jU ts ty
theorem lG (rs:List TR) (k:Nat) (h:k < rs.length):ae (rs.drop k)=⟨rs[k].name,dz rs[k].rows⟩::ae (rs.drop (k + 1)):=by
 rw [Sr h]; rfl
theorem DL (rs:List RR) (k:Nat) (h:k < rs.length):dz (rs.drop k)=⟨rs[k].name,ah rs[k].rows⟩::dz (rs.drop (k + 1)):=by
 rw [Sr h]; rfl
theorem Gb (ad:Option Addr) (cap:Nat) (rs:List TR) (typ:ByteArray) (w:World) (hlen:rs.length≤1048576) (hs:jd w ad rs) :
  Calls prog 111 #[.slice ad rs.length cap,.string typ] w fun e w'=>e=.returned (.bool (jU (ae rs) typ))∧w'=w:=by
 go_enter func111,ntmps111;go_wp2;go_loopw [5] (fun i wr=>∃ k:Nat,k≤rs.length∧i=.int .i64 k∧Hid (jU (ae (rs.drop k)) typ=jU (ae rs) typ)∧wr=w) (fun i _=>rs.length - (intOf i).toNat);case atStart=>exact ⟨0,R6 _,rfl,rfl,rfl⟩
 case round =>
  obtain ⟨k,hk,rfl,HP,rfl⟩:=hrel;by_cases hlt:k < rs.length
  ·rcases hs with rfl | ⟨b,off,rfl,hb,hr,hok⟩
   ·simp at hlt
   obtain ⟨t0,t1⟩:=hr k hlt;have hk1:=bn k;have hk2:(k:Int) < (rs.length:Int):=by omega
   clear hr hok;cases hq:(rs[k].name.toList == typ.toList) with
   | true =>
    have HN:Hid (jU (ae rs) typ=true):=by show _=_; rw [← HP.out,lG _ _ hlt]; simp [jU,hq]
    go_wp2;go_ret;exact ⟨by rw [HN.out]; rfl,rfl⟩
   | false =>
    have Td:Hid (jU (ae (rs.drop (k + 1))) typ=jU (ae rs) typ):=by show _=_; rw [← HP.out,lG _ _ hlt]; simp [jU,hq]
    go_wp2;go_roundw;case rel=>exact ⟨k + 1,by omega,by go_num,Td,by first | rfl | trivial⟩
    case measure=>simp [intOf] <;> omega
  ·have HN:Hid (jU (ae rs) typ=false):=by show _=_; rw [← HP.out,List.drop_of_length_le (by omega)]; rfl
   go_wp2;go_ret;exact ⟨by rw [HN.out]; rfl,rfl⟩
def lH (rs:List TR) (ad:Option Addr) (rows:List ER):Prop:=rows=[] ∨ ∃ t ∈ rs,∃ q ∈ t.rows,rows=q.rows∧ad=q.ad
theorem zz.mem {w:World} {ad:Option Addr} {rs:List RR} (h:zz w ad rs) {q:RR} (hq:q ∈ rs):q.ok w:=by
 rcases h with rfl | ⟨b,off,e,hb,hr,hk⟩
 ·cases hq
 ·exact hk q hq
theorem jd.mem {w:World} {ad:Option Addr} {rs:List TR} (h:jd w ad rs) {q:TR} (hq:q ∈ rs):q.ok w:=by
 rcases h with rfl | ⟨b,off,e,hb,hr,hk⟩
 ·cases hq
 ·exact hk q hq
theorem lH.sl {rs:List TR} {ad ad0:Option Addr} {rows:List ER} {w:World} (h:lH rs ad rows) (hs:jd w ad0 rs):eX w ad rows:=by
 rcases h with rfl | ⟨t,ht,q,hq,rfl,rfl⟩
 ·exact .inl rfl
 ·exact zz.mem (hs.mem ht) hq
theorem gG (ad:Option Addr) (cap:Nat) (rs:List TR) (typ rel:ByteArray) (w:World) (hlen:rs.length≤1048576) (hs:jd w ad rs) (hl:∀ r ∈ rs,r.light) :
  Calls prog 57 #[.slice ad rs.length cap,.string typ,.string rel] w fun e w'=>(∃ (rows:List ER) (SQ:Option Addr) (cap':Nat),e=.returned (.slice SQ rows.length cap')∧ah rows=(dX (ae rs) typ rel).getD []∧eX w SQ rows∧lH rs SQ rows)∧w'=w:=by
 have HS:=aC hs;have HL:=aC hl;clear hs hl;go_enter func57,ntmps57;go_wp2;go_loopw [7] (fun i wr=>∃ k:Nat,k≤rs.length∧i=.int .i64 k∧Hid (dX (ae (rs.drop k)) typ rel=dX (ae rs) typ rel)∧wr=w) (fun i _=>rs.length - (intOf i).toNat);case atStart=>exact ⟨0,R6 _,rfl,rfl,rfl⟩
 case round =>
  obtain ⟨k,hk,rfl,HP,rfl⟩:=hrel;by_cases hlt:k < rs.length
  ·rcases HS.out with rfl | ⟨b,off,rfl,hb,hr,hok⟩
   ·simp at hlt
   obtain ⟨t0,t1⟩:=hr k hlt;have ok:=hok rs[k] (RY hlt);have lg:=(HL.out rs[k] (RY hlt)).1;have Ub:=aC ok;have hk1:=bn k;have hk2:(k:Int) < (rs.length:Int):=by omega
   clear hr hok ok;cases hq:(rs[k].name.toList == typ.toList) with
   | false =>
    have Td:Hid (dX (ae (rs.drop (k + 1))) typ rel=dX (ae rs) typ rel):=by show _=_; rw [← HP.out,lG _ _ hlt]; simp [dX,hq]
    go_wp2_with fail;go_loopw [8] (fun i w2=>i=.int .i64 0∧w2=wr) (fun i _=>(intOf i).toNat);case atStart=>exact ⟨rfl,rfl⟩
    case round =>
     obtain ⟨rfl,rfl⟩:=hrel;go_wp2;go_roundw;case rel=>exact ⟨k + 1,by omega,by go_num,Td,by first | rfl | trivial⟩
     case measure=>simp [intOf] <;> omega
   | true =>
    go_wp2_with fail;go_loopw [8] (fun i w2=>∃ j:Nat,j≤rs[k].rows.length∧i=.int .i64 j∧Hid (jf (dz (rs[k].rows.drop j)) rel=jf (dz rs[k].rows) rel)∧w2=wr) (fun i _=>rs[k].rows.length - (intOf i).toNat);case atStart=>exact ⟨0,R6 _,rfl,rfl,rfl⟩
    case round =>
     obtain ⟨j,hj,rfl,HI,rfl⟩:=hrel;by_cases hjl:j < rs[k].rows.length
     ·rcases Ub.out with hnil | ⟨b2,TQ,had,hb2,hr2,hok2⟩
      ·rw [hnil] at hjl; simp at hjl
      have t1':=t1;rw [had] at t1';obtain ⟨q0,q1⟩:=hr2 j hjl;have HOQ:Hid (rs[k].rows[j].ok _):=hok2 rs[k].rows[j] (RY hjl);have hj1:=bn j;have hj2:(j:Int) < (rs[k].rows.length:Int):=by omega
      clear hr2 hok2 had t1;cases hn:(rs[k].rows[j].name.toList == rel.toList) with
      | true =>
       have HN:Hid (ah rs[k].rows[j].rows=(dX (ae rs) typ rel).getD []):=by
        have h1:jf (dz rs[k].rows) rel=some (ah rs[k].rows[j].rows):=by rw [← HI.out,DL _ _ hjl]; simp [jf,hn]
        show _=_;rw [← HP.out,lG _ _ hlt];simp [dX,hq,h1]
       have HFS:Hid (lH rs rs[k].rows[j].ad rs[k].rows[j].rows):=.inr ⟨rs[k],RY hlt,rs[k].rows[j],RY hjl,rfl,rfl⟩;go_wp2;go_ret;exact ⟨⟨rs[k].rows[j].rows,_,_,rfl,HN.out,HOQ.out,HFS.out⟩,rfl⟩
      | false =>
       have HI2:Hid (jf (dz (rs[k].rows.drop (j + 1))) rel=jf (dz rs[k].rows) rel):=by show _=_; rw [← HI.out,DL _ _ hjl]; simp [jf,hn]
       go_wp2;go_roundw;case rel=>exact ⟨j + 1,by omega,by go_num,HI2,by first | rfl | trivial⟩
       case measure=>simp [intOf] <;> omega
     ·have Td:Hid (dX (ae (rs.drop (k + 1))) typ rel=dX (ae rs) typ rel):=by
       have h1:jf (dz rs[k].rows) rel=none:=by rw [← HI.out,List.drop_of_length_le (by omega)]; rfl
       show _=_;rw [← HP.out,lG _ _ hlt];simp [dX,hq,h1]
      go_wp2;go_roundw;case rel=>exact ⟨k + 1,by omega,by go_num,Td,by first | rfl | trivial⟩
      case measure=>simp [intOf] <;> omega
  ·have HN:Hid (ah []=(dX (ae rs) typ rel).getD []):=by show _=_; rw [← HP.out,List.drop_of_length_le (by omega)]; rfl
   go_wp2;go_ret;exact ⟨⟨[],none,0,rfl,HN.out,.inl rfl,.inl rfl⟩,rfl⟩
end Go.Proofs.YtdaoiceeidoehaaGreat
