/- Contracts of the law's helpers that hold two expressions against one another: true where both hold the same. -/
import Derived.Test.YtdaoiceeidoehaaGreatToExpr2
import Derived.Deep.RegionHeld3
import Derived.Deep.QuietTactic
import Derived.BigQuiet
import Derived.WalkSmall
import Derived.WalkSpells
import Derived.OwnWalk
import Derived.Maps.AppendAt
open Go.Proofs.Tryz
set_option maxHeartbeats 80000000
namespace Go.Proofs.YtdaoiceeidoehaaGreat
open Go.ChangeShapes Go.WideShapes Go.ChangeAt Go.RowKit
open Pl
theorem wD (ad ad':Option Addr) (cap cap':Nat) (zs:List Int) (w:World) (hlen:zs.length≤maxLen) (hs:nA w ad zs) (hs':nA w ad' zs) :
  Calls prog 168 #[.slice ad zs.length cap,.slice ad' zs.length cap'] w fun e w'=>e=.returned (.bool true)∧Below w.heap.size w w':=by
 unfold maxLen at hlen;go_enter func168,ntmps168;go_wp2;go_loopw [5] (fun i wr=>∃ k:Nat,k≤zs.length∧i=.int .i64 k∧Below w.heap.size w wr) (fun i _=>zs.length - (intOf i).toNat);case atStart=>exact ⟨0,Nat.zero_le _,rfl,Below.refl _ _⟩
 case round =>
  obtain ⟨k,hk,rfl,hB⟩:=hrel;by_cases hlt:k < zs.length
  ·rcases hs.below hB with rfl | ⟨b,off,rfl,hb,hr⟩
   ·simp at hlt
   rcases hs'.below hB with rfl | ⟨b',off',rfl,hb',hr'⟩
   ·simp at hlt
   have t0:=hr k hlt;have q0:=hr' k hlt;have hk1:=aY k;have hk2:(k:Int) < (zs.length:Int):=by omega
   clear hr hr' hs hs';go_wp2_with fail;go_quiet (fail);go_wp2;go_roundw;case rel=>exact ⟨k + 1,by omega,by go_num,below_drewN hB _⟩
   case measure=>simp [intOf]; omega
  ·go_wp2;go_ret;exact ⟨rfl,hB⟩
theorem ug (t s:ByteArray) (w:World) :
  Calls prog 178 #[.agg #[.string t,.string s],.agg #[.string t,.string s]] w fun e w'=>e=.returned (.bool true)∧Below w.heap.size w w':=by
 go_enter func178,ntmps178;go_wp2;go_ret;exact ⟨rfl,((Below.refl w.heap.size w).alloc (Nat.le_refl _) _).alloc (by simp) _⟩
theorem He {w W w':World} {b b' o o':Nat} {x0 x1 y0 y1:Value} (h:W.cell? ⟨b,o,none⟩=some x0∧W.cell? ⟨b,o + 1,none⟩=some x1∧W.cell? ⟨b',o',none⟩=some y0∧W.cell? ⟨b',o' + 1,none⟩=some y1∧b < W.heap.size∧b' < W.heap.size∧Below w.heap.size w W) (hb:Below W.heap.size W w') :
  w'.cell? ⟨b,o,none⟩=some x0∧w'.cell? ⟨b,o + 1,none⟩=some x1∧w'.cell? ⟨b',o',none⟩=some y0∧w'.cell? ⟨b',o' + 1,none⟩=some y1∧b < w'.heap.size∧b' < w'.heap.size∧Below w.heap.size w w':=by
 obtain ⟨h0,h1,h2,h3,l,l',hB⟩:=h;exact ⟨kept hb l h0,kept hb l h1,kept hb l' h2,kept hb l' h3,Nat.lt_of_lt_of_le l hb.size,Nat.lt_of_lt_of_le l' hb.size,hB.trans (hb.mono hB.size)⟩
theorem r9 (ad ad':Option Addr) (cap cap':Nat) (xs:List Al) (w:World) (hlen:xs.length≤maxLen) (hs:fV w ad xs) (hs':fV w ad' xs) :
  Calls prog 167 #[.slice ad xs.length cap,.slice ad' xs.length cap'] w fun e w'=>e=.returned (.bool true)∧Below w.heap.size w w':=by
 unfold maxLen at hlen;go_enter func167,ntmps167;go_wp2;go_loopw [5] (fun i wr=>∃ k:Nat,k≤xs.length∧i=.int .i64 k∧Below w.heap.size w wr) (fun i _=>xs.length - (intOf i).toNat);case atStart=>exact ⟨0,Nat.zero_le _,rfl,Below.refl _ _⟩
 case round =>
  obtain ⟨k,hk,rfl,hB⟩:=hrel;by_cases hlt:k < xs.length
  ·rcases hs.below hB with rfl | ⟨b,off,rfl,hb,hr⟩
   ·simp at hlt
   rcases hs'.below hB with rfl | ⟨b',off',rfl,hb',hr'⟩
   ·simp at hlt
   obtain ⟨t0,t1⟩:=hr k hlt;obtain ⟨q0,q1⟩:=hr' k hlt;have hk1:=aY k;have hk2:(k:Int) < (xs.length:Int):=by omega
   clear hr hr' hs hs';go_wp2_with fail
   go_region_held3 (fun w'=>w'.cell? ⟨b,off + k * 2,none⟩=some (.string xs[k].t)∧w'.cell? ⟨b,off + k * 2 + 1,none⟩=some (.string xs[k].s)∧w'.cell? ⟨b',off' + k * 2,none⟩=some (.string xs[k].t)∧w'.cell? ⟨b',off' + k * 2 + 1,none⟩=some (.string xs[k].s)∧b < w'.heap.size∧b' < w'.heap.size∧Below w.heap.size w w')
    (first | assumption | exact He (by assumption) hbx | exact ⟨t0,t1,q0,q1,hb,hb',hB.drew⟩)
    (first | (go_at_call 178; refine (ug _ _ _).mono ?_; rintro e w' ⟨rfl,hbx⟩))
   rename_i hH;obtain ⟨-,-,-,-,-,-,gB⟩:=hH;clear t0 t1 q0 q1 hB hb hb';go_wp2;go_roundw;case rel=>exact ⟨k + 1,by omega,by go_num,gB⟩
   case measure=>simp [intOf]; omega
  ·go_wp2;go_ret;exact ⟨rfl,hB⟩
theorem Ah (r r':ER) (w:World) (he:r'.e=r.e) (hr:r.ok w) (hr':r'.ok w) (hf:r.e.allow.length≤maxLen) (hg:r.e.kids.length≤maxLen) :
  Calls prog 155 #[r.val,r'.val] w fun e w'=>e=.returned (.bool true)∧Below w.heap.size w w':=by
 obtain ⟨⟨kind,allow,over,name,kids⟩,adA,capA,adK,capK⟩:=r;obtain ⟨e',adA',capA',adK',capK'⟩:=r';simp only at he;subst he;obtain ⟨hA,hK⟩:=hr;obtain ⟨hA',hK'⟩:=hr';simp only at hA hK hA' hK' hf hg;simp only [ER.val];obtain ⟨W1,hW1⟩:∃ W1,W1=(w.alloc (.cells #[.int .i64 kind,.slice adA allow.length capA,.string over,.string name,.slice adK kids.length capK] 166)).alloc (.cells #[.int .i64 kind,.slice adA' allow.length capA',.string over,.string name,.slice adK' kids.length capK'] 166):=⟨_,rfl⟩;have hb0:Below w.heap.size w W1:=by rw [hW1]; exact ((Below.refl w.heap.size w).alloc (Nat.le_refl _) _).alloc (by simp) _
 have bA:Below (w.alloc (.cells #[.int .i64 kind,.slice adA allow.length capA,.string over,.string name,.slice adK kids.length capK] 166)).heap.size (w.alloc (.cells #[.int .i64 kind,.slice adA allow.length capA,.string over,.string name,.slice adK kids.length capK] 166)) W1:=by rw [hW1]; exact (Below.refl _ _).alloc (Nat.le_refl _) _
 have hz1:w.heap.size + 2≤W1.heap.size:=by rw [hW1]; simp only [World.size_alloc]; omega
 have s2:W1.cell? ⟨w.heap.size,2,none⟩=some (.string over):=kept bA (by simp) (by simp);have s3:W1.cell? ⟨w.heap.size,3,none⟩=some (.string name):=kept bA (by simp) (by simp);have s4:W1.cell? ⟨w.heap.size,4,none⟩=some (.slice adK kids.length capK):=kept bA (by simp) (by simp);have o2:W1.cell? ⟨w.heap.size + 1,2,none⟩=some (.string over):=by rw [hW1]; exact gT _ _ _ _ _ rfl
 have o3:W1.cell? ⟨w.heap.size + 1,3,none⟩=some (.string name):=by rw [hW1]; exact gT _ _ _ _ _ rfl
 have o4:W1.cell? ⟨w.heap.size + 1,4,none⟩=some (.slice adK' kids.length capK'):=by rw [hW1]; exact gT _ _ _ _ _ rfl
 go_enter func155,ntmps155;go_wp2_with fail;rw [← hW1];refine (r9 adA adA' capA capA' allow W1 hf (hA.below hb0) (hA'.below hb0)).mono ?_;rintro e w1 ⟨rfl,hb1⟩;replace s2:=kept hb1 (by omega) s2;replace o2:=kept hb1 (by omega) o2;replace s3:=kept hb1 (by omega) s3;replace o3:=kept hb1 (by omega) o3;replace s4:=kept hb1 (by omega) s4;replace o4:=kept hb1 (by omega) o4;have HB1:Hid (Below w.heap.size w w1):=hb0.trans (hb1.mono (by omega));clear hb1 hb0 bA hW1 hA hA';go_wp2_with fail;refine (wD adK adK' capK capK' kids w1 hg (hK.below HB1.out) (hK'.below HB1.out)).mono ?_;rintro e w2 ⟨rfl,hb2⟩;have HB2:=fK HB1 hb2;clear hb2;go_wp2;go_ret;exact ⟨rfl,HB2.out⟩
theorem KX {wr W w':World} {b b' o o':Nat} {x0 x1 x2 x3 x4 y0 y1 y2 y3 y4:Value} (h:W.cell? ⟨b,o,none⟩=some x0∧W.cell? ⟨b,o + 1,none⟩=some x1∧W.cell? ⟨b,o + 2,none⟩=some x2∧W.cell? ⟨b,o + 3,none⟩=some x3∧W.cell? ⟨b,o + 4,none⟩=some x4∧W.cell? ⟨b',o',none⟩=some y0∧W.cell? ⟨b',o' + 1,none⟩=some y1∧W.cell? ⟨b',o' + 2,none⟩=some y2∧W.cell? ⟨b',o' + 3,none⟩=some y3∧W.cell? ⟨b',o' + 4,none⟩=some y4∧b < W.heap.size∧b' < W.heap.size∧Below wr.heap.size wr W) (hb:Below W.heap.size W w'):w'.cell? ⟨b,o,none⟩=some x0∧w'.cell? ⟨b,o + 1,none⟩=some x1∧w'.cell? ⟨b,o + 2,none⟩=some x2∧w'.cell? ⟨b,o + 3,none⟩=some x3∧w'.cell? ⟨b,o + 4,none⟩=some x4∧w'.cell? ⟨b',o',none⟩=some y0∧w'.cell? ⟨b',o' + 1,none⟩=some y1∧w'.cell? ⟨b',o' + 2,none⟩=some y2∧w'.cell? ⟨b',o' + 3,none⟩=some y3∧w'.cell? ⟨b',o' + 4,none⟩=some y4∧b < w'.heap.size∧b' < w'.heap.size∧Below wr.heap.size wr w':=by
 obtain ⟨h0,h1,h2,h3,h4,k0,k1,k2,k3,k4,l,l',hB⟩:=h;exact ⟨kept hb l h0,kept hb l h1,kept hb l h2,kept hb l h3,kept hb l h4,kept hb l' k0,kept hb l' k1,kept hb l' k2,kept hb l' k3,kept hb l' k4,Nat.lt_of_lt_of_le l hb.size,Nat.lt_of_lt_of_le l' hb.size,hB.trans (hb.mono hB.size)⟩
theorem dz {wr W:World} {b b' o o':Nat} {x0 x1 x2 x3 x4 y0 y1 y2 y3 y4:Value} (h:W.cell? ⟨b,o,none⟩=some x0∧W.cell? ⟨b,o + 1,none⟩=some x1∧W.cell? ⟨b,o + 2,none⟩=some x2∧W.cell? ⟨b,o + 3,none⟩=some x3∧W.cell? ⟨b,o + 4,none⟩=some x4∧W.cell? ⟨b',o',none⟩=some y0∧W.cell? ⟨b',o' + 1,none⟩=some y1∧W.cell? ⟨b',o' + 2,none⟩=some y2∧W.cell? ⟨b',o' + 3,none⟩=some y3∧W.cell? ⟨b',o' + 4,none⟩=some y4∧b < W.heap.size∧b' < W.heap.size∧Below wr.heap.size wr W):Below wr.heap.size wr W:=h.2.2.2.2.2.2.2.2.2.2.2.2
theorem yK (ad ad':Option Addr) (cap cap':Nat) (rs rs':List ER) (w:World) (hlen:rs.length≤1048576) (he:ah rs'=ah rs) (hs:dw w ad rs) (hs':dw w ad' rs') (hl:∀ r ∈ rs,r.e.light) :
  Calls prog 137 #[.slice ad rs.length cap,.slice ad' rs'.length cap'] w fun e w'=>e=.returned (.bool true)∧Below w.heap.size w w':=by
 have hll:rs'.length=rs.length:=by rw [← aI,he,aI]
 have HSL:Hid (dw w ad rs):=hs;have HSM:Hid (dw w ad' rs'):=hs';have HLI:Hid (∀ r ∈ rs,r.e.light):=hl;have HEE:Hid (ah rs'=ah rs):=he;have HLL:Hid (rs'.length=rs.length):=hll;rw [hll];clear hs hs' hl he hll;go_enter func137,ntmps137;go_wp2;go_loopw [5] (fun i wr=>∃ k:Nat,k≤rs.length∧i=.int .i64 k∧Below w.heap.size w wr) (fun i _=>rs.length - (intOf i).toNat);case atStart=>exact ⟨0,Nat.zero_le _,rfl,Below.refl _ _⟩
 case round =>
  obtain ⟨k,hk,rfl,hB⟩:=hrel;by_cases hlt:k < rs.length
  ·have hlt':k < rs'.length:=by rw [HLL.out]; exact hlt
   rcases HSL.out.below hB with rfl | ⟨b,off,rfl,hb,hr,hok⟩
   ·simp at hlt
   rcases HSM.out.below hB with rfl | ⟨b',off',rfl,hb',hr',hok'⟩
   ·simp at hlt'
   obtain ⟨t0,t1,t2,t3,t4⟩:=hr k hlt;obtain ⟨q0,q1,q2,q3,q4⟩:=hr' k hlt';have HK1:Hid (rs[k].ok wr):=hok rs[k] (List.getElem_mem hlt);have HK2:Hid (rs'[k].ok wr):=hok' rs'[k] (List.getElem_mem hlt');have HK3:Hid (rs'[k].e=rs[k].e):=by
    have h1:(ah rs')[k]?=(ah rs)[k]?:=by rw [HEE.out]
    show _=_;simpa [ah,hlt,hlt'] using h1
   obtain ⟨g1,g2⟩:=HLI.out rs[k] (List.getElem_mem hlt);have hk1:=aY k;have hk2:(k:Int) < (rs.length:Int):=by omega
   have HK4:Hid (rs[k].e.allow.length≤maxLen):=Nat.le_trans g1 (by decide);have HK5:Hid (rs[k].e.kids.length≤maxLen):=Nat.le_trans g2 (by decide);clear hr hr' hok hok' g1 g2;go_wp2_with fail
   go_region_held3 (fun w'=>w'.cell? ⟨b,off + k * 5,none⟩=some (.int .i64 rs[k].e.kind)∧w'.cell? ⟨b,off + k * 5 + 1,none⟩=some (.slice rs[k].adA rs[k].e.allow.length rs[k].capA)∧w'.cell? ⟨b,off + k * 5 + 2,none⟩=some (.string rs[k].e.over)∧w'.cell? ⟨b,off + k * 5 + 3,none⟩=some (.string rs[k].e.name)∧w'.cell? ⟨b,off + k * 5 + 4,none⟩=some (.slice rs[k].adK rs[k].e.kids.length rs[k].capK)∧w'.cell? ⟨b',off' + k * 5,none⟩=some (.int .i64 rs'[k].e.kind)∧w'.cell? ⟨b',off' + k * 5 + 1,none⟩=some (.slice rs'[k].adA rs'[k].e.allow.length rs'[k].capA)∧w'.cell? ⟨b',off' + k * 5 + 2,none⟩=some (.string rs'[k].e.over)∧w'.cell? ⟨b',off' + k * 5 + 3,none⟩=some (.string rs'[k].e.name)∧w'.cell? ⟨b',off' + k * 5 + 4,none⟩=some (.slice rs'[k].adK rs'[k].e.kids.length rs'[k].capK)∧b < w'.heap.size∧b' < w'.heap.size∧Below wr.heap.size wr w')
    (first | assumption | exact KX (by assumption) hbx | exact ⟨t0,t1,t2,t3,t4,q0,q1,q2,q3,q4,hb,hb',(Below.refl _ _).drew⟩)
    (first | (go_at_call 155; refine (Ah rs[k] rs'[k] _ HK3.out (HK1.out.below (dz (by assumption))) (HK2.out.below (dz (by assumption))) HK4.out HK5.out).mono ?_; rintro e w' ⟨rfl,hbx⟩))
   rename_i hH;obtain ⟨-,-,-,-,-,-,-,-,-,-,-,-,gB⟩:=hH;clear t0 t1 t2 t3 t4 q0 q1 q2 q3 q4 hb hb';go_wp2;go_roundw;case rel=>exact ⟨k + 1,by omega,by go_num,hB.trans (gB.mono hB.size)⟩
   case measure=>simp [intOf]; omega
  ·go_wp2;go_ret;exact ⟨rfl,hB⟩
theorem ER.new.mono {B B':Nat} {r:ER} (h:r.new B) (hB:B'≤B):r.new B':=by
 obtain ⟨gA,gK,e1,e2,h1,h2,h3⟩:=h;exact ⟨gA,gK,e1,e2,by omega,by omega,h3⟩
structure Rl where
 name:ByteArray
 expr:List Ex
structure RR where
 name:ByteArray
 rows:List ER
 ad:Option Addr
 cap:Nat
def RR.p (r:RR):Rl:=⟨r.name,ah r.rows⟩
def RR.val (r:RR):Value:=.agg #[.string r.name,.slice r.ad r.rows.length r.cap]
def RR.ok (w:World) (r:RR):Prop:=dw w r.ad r.rows
def RR.fits (r:RR):Prop:=r.name.size≤maxLen∧r.rows.length≤maxLen∧∀ q ∈ r.rows,q.e.fits
def RR.light (r:RR):Prop:=r.rows.length≤1048576∧∀ q ∈ r.rows,q.e.light
def RR.caps (r:RR):Prop:=r.rows.length≤r.cap∧∀ q ∈ r.rows,q.e.allow.length≤q.capA
def RR.new (B:Nat) (r:RR):Prop:=(∃ g:Nat,r.ad=some ⟨g,0,none⟩∧B < g)∧∀ q ∈ r.rows,q.new B
theorem RR.ok.below {w w':World} {r:RR} (h:r.ok w) (hB:Below w.heap.size w w'):r.ok w':=dw.below h hB
def AtR (w:World) (b off:Nat) (r:RR):Prop:=w.cell? ⟨b,off,none⟩=some (.string r.name)∧w.cell? ⟨b,off + 1,none⟩=some (.slice r.ad r.rows.length r.cap)
theorem AtR.same {w w':World} {b off:Nat} {r:RR} (h:AtR w b off r) (hc:∀ o,w'.cell? ⟨b,o,none⟩=w.cell? ⟨b,o,none⟩):AtR w' b off r:=⟨(hc _).trans h.1,(hc _).trans h.2⟩
theorem AtR.later {w w':World} {b off:Nat} {r:RR} (h:AtR w b off r) (hb:b < w.heap.size) (hB:Below w.heap.size w w'):AtR w' b off r:=h.same fun o=>hB.cell (p:=⟨b,o,none⟩) hb
def oL (w:World) (ad:Option Addr) (rs:List RR):Prop:=rs=[] ∨ ∃ b off,ad=some ⟨b,off,none⟩∧b < w.heap.size∧(∀ (i:Nat) (h:i < rs.length),AtR w b (off + i * 2) rs[i])∧∀ r ∈ rs,r.ok w
theorem oL.below {w w':World} {ad:Option Addr} {rs:List RR} (h:oL w ad rs) (hB:Below w.heap.size w w'):oL w' ad rs:=by
 rcases h with h | ⟨b,off,e,hb,hr,hk⟩
 ·exact .inl h
 ·exact .inr ⟨b,off,e,Nat.lt_of_lt_of_le hb hB.size,fun i hi=>(hr i hi).same fun o=>hB.cell (p:=⟨b,o,none⟩) hb,fun r hr=>(hk r hr).below hB⟩
def cB (rs:List RR):List Rl:=rs.map RR.p
theorem fF (rs:List RR):(cB rs).length=rs.length:=by simp [cB]
theorem RR.ok.set {w:World} {r:RR} {g o:Nat} {v:Value} (h:r.ok w) (hn:r.new g):r.ok (w.setCell ⟨g,o,none⟩ v):=by
 obtain ⟨⟨gE,e1,h1⟩,h2⟩:=hn;rcases h with h | ⟨b,off,e,hb,hr,hk⟩
 ·exact .inl h
 ·refine .inr ⟨b,off,e,by simpa using hb,fun i hi=>(hr i hi).same fun o=>dZ ?_,fun q hq=>(hk q hq).set (h2 q hq)⟩;rw [e1] at e; injection e with e; injection e with e3 e4; omega
theorem RR.new.mono {B B':Nat} {r:RR} (h:r.new B) (hB:B'≤B):r.new B':=by
 obtain ⟨⟨g,e,hg⟩,h2⟩:=h;exact ⟨⟨g,e,by omega⟩,fun q hq=>(h2 q hq).mono hB⟩
structure Ty where
 name:ByteArray
 rels:List Rl
structure TR where
 name:ByteArray
 rows:List RR
 ad:Option Addr
 cap:Nat
def TR.p (r:TR):Ty:=⟨r.name,cB r.rows⟩
def TR.val (r:TR):Value:=.agg #[.string r.name,.slice r.ad r.rows.length r.cap]
def TR.ok (w:World) (r:TR):Prop:=oL w r.ad r.rows
def TR.fits (r:TR):Prop:=r.name.size≤maxLen∧r.rows.length≤maxLen∧∀ q ∈ r.rows,q.fits
def TR.light (r:TR):Prop:=r.rows.length≤1048576∧∀ q ∈ r.rows,q.light
def TR.caps (r:TR):Prop:=r.rows.length≤r.cap∧∀ q ∈ r.rows,q.caps
def TR.new (B:Nat) (r:TR):Prop:=(∃ g:Nat,r.ad=some ⟨g,0,none⟩∧B < g)∧∀ q ∈ r.rows,q.new B
theorem TR.ok.below {w w':World} {r:TR} (h:r.ok w) (hB:Below w.heap.size w w'):r.ok w':=oL.below h hB
def KP (w:World) (b off:Nat) (r:TR):Prop:=w.cell? ⟨b,off,none⟩=some (.string r.name)∧w.cell? ⟨b,off + 1,none⟩=some (.slice r.ad r.rows.length r.cap)
theorem KP.same {w w':World} {b off:Nat} {r:TR} (h:KP w b off r) (hc:∀ o,w'.cell? ⟨b,o,none⟩=w.cell? ⟨b,o,none⟩):KP w' b off r:=⟨(hc _).trans h.1,(hc _).trans h.2⟩
theorem KP.later {w w':World} {b off:Nat} {r:TR} (h:KP w b off r) (hb:b < w.heap.size) (hB:Below w.heap.size w w'):KP w' b off r:=h.same fun o=>hB.cell (p:=⟨b,o,none⟩) hb
def eY (w:World) (ad:Option Addr) (rs:List TR):Prop:=rs=[] ∨ ∃ b off,ad=some ⟨b,off,none⟩∧b < w.heap.size∧(∀ (i:Nat) (h:i < rs.length),KP w b (off + i * 2) rs[i])∧∀ r ∈ rs,r.ok w
theorem eY.below {w w':World} {ad:Option Addr} {rs:List TR} (h:eY w ad rs) (hB:Below w.heap.size w w'):eY w' ad rs:=by
 rcases h with h | ⟨b,off,e,hb,hr,hk⟩
 ·exact .inl h
 ·exact .inr ⟨b,off,e,Nat.lt_of_lt_of_le hb hB.size,fun i hi=>(hr i hi).same fun o=>hB.cell (p:=⟨b,o,none⟩) hb,fun r hr=>(hk r hr).below hB⟩
def ae (rs:List TR):List Ty:=rs.map TR.p
theorem eZ (rs:List TR):(ae rs).length=rs.length:=by simp [ae]
theorem TR.ok.set {w:World} {r:TR} {g o:Nat} {v:Value} (h:r.ok w) (hn:r.new g):r.ok (w.setCell ⟨g,o,none⟩ v):=by
 obtain ⟨⟨gE,e1,h1⟩,h2⟩:=hn;rcases h with h | ⟨b,off,e,hb,hr,hk⟩
 ·exact .inl h
 ·refine .inr ⟨b,off,e,by simpa using hb,fun i hi=>(hr i hi).same fun o=>dZ ?_,fun q hq=>(hk q hq).set (h2 q hq)⟩;rw [e1] at e; injection e with e; injection e with e3 e4; omega
theorem TR.new.mono {B B':Nat} {r:TR} (h:r.new B) (hB:B'≤B):r.new B':=by
 obtain ⟨⟨g,e,hg⟩,h2⟩:=h;exact ⟨⟨g,e,by omega⟩,fun q hq=>(h2 q hq).mono hB⟩
def ik:List Rl→ByteArray→Option (List Ex)
 | [],_=>none
 | r::rs,n=>if r.name.toList == n.toList then some r.expr else ik rs n
def dM:List Ty→ByteArray→ByteArray→Option (List Ex)
 | [],_,_=>none
 | t::ts,ty,n=>if t.name.toList == ty.toList then (ik t.rels n).or (dM ts ty n) else dM ts ty n
def iZ:List Ty→ByteArray→Bool
 | [],_=>false
 | t::ts,ty=>(t.name.toList == ty.toList) || iZ ts ty
theorem jO (rs:List TR) (k:Nat) (h:k < rs.length):ae (rs.drop k)=⟨rs[k].name,cB rs[k].rows⟩::ae (rs.drop (k + 1)):=by
 rw [List.drop_eq_getElem_cons h]; rfl
theorem Ai (rs:List RR) (k:Nat) (h:k < rs.length):cB (rs.drop k)=⟨rs[k].name,ah rs[k].rows⟩::cB (rs.drop (k + 1)):=by
 rw [List.drop_eq_getElem_cons h]; rfl
theorem CG (ad:Option Addr) (cap:Nat) (rs:List TR) (typ:ByteArray) (w:World) (hlen:rs.length≤1048576) (hs:eY w ad rs) :
  Calls prog 111 #[.slice ad rs.length cap,.string typ] w fun e w'=>e=.returned (.bool (iZ (ae rs) typ))∧w'=w:=by
 go_enter func111,ntmps111;go_wp2;go_loopw [5] (fun i wr=>∃ k:Nat,k≤rs.length∧i=.int .i64 k∧Hid (iZ (ae (rs.drop k)) typ=iZ (ae rs) typ)∧wr=w) (fun i _=>rs.length - (intOf i).toNat);case atStart=>exact ⟨0,Nat.zero_le _,rfl,rfl,rfl⟩
 case round =>
  obtain ⟨k,hk,rfl,HP,rfl⟩:=hrel;by_cases hlt:k < rs.length
  ·rcases hs with rfl | ⟨b,off,rfl,hb,hr,hok⟩
   ·simp at hlt
   obtain ⟨t0,t1⟩:=hr k hlt;have hk1:=aY k;have hk2:(k:Int) < (rs.length:Int):=by omega
   clear hr hok;cases hq:(rs[k].name.toList == typ.toList) with
   | true =>
    have HN:Hid (iZ (ae rs) typ=true):=by show _=_; rw [← HP.out,jO _ _ hlt]; simp [iZ,hq]
    go_wp2;go_ret;exact ⟨by rw [HN.out]; rfl,rfl⟩
   | false =>
    have HP2:Hid (iZ (ae (rs.drop (k + 1))) typ=iZ (ae rs) typ):=by show _=_; rw [← HP.out,jO _ _ hlt]; simp [iZ,hq]
    go_wp2;go_roundw;case rel=>exact ⟨k + 1,by omega,by go_num,HP2,by first | rfl | trivial⟩
    case measure=>simp [intOf] <;> omega
  ·have HN:Hid (iZ (ae rs) typ=false):=by show _=_; rw [← HP.out,List.drop_of_length_le (by omega)]; rfl
   go_wp2;go_ret;exact ⟨by rw [HN.out]; rfl,rfl⟩
def jP (rs:List TR) (ad:Option Addr) (rows:List ER):Prop:=rows=[] ∨ ∃ t ∈ rs,∃ q ∈ t.rows,rows=q.rows∧ad=q.ad
theorem oL.mem {w:World} {ad:Option Addr} {rs:List RR} (h:oL w ad rs) {q:RR} (hq:q ∈ rs):q.ok w:=by
 rcases h with rfl | ⟨b,off,e,hb,hr,hk⟩
 ·cases hq
 ·exact hk q hq
theorem eY.mem {w:World} {ad:Option Addr} {rs:List TR} (h:eY w ad rs) {q:TR} (hq:q ∈ rs):q.ok w:=by
 rcases h with rfl | ⟨b,off,e,hb,hr,hk⟩
 ·cases hq
 ·exact hk q hq
theorem jP.sl {rs:List TR} {ad ad0:Option Addr} {rows:List ER} {w:World} (h:jP rs ad rows) (hs:eY w ad0 rs):dw w ad rows:=by
 rcases h with rfl | ⟨t,ht,q,hq,rfl,rfl⟩
 ·exact .inl rfl
 ·exact oL.mem (hs.mem ht) hq
theorem fG (ad:Option Addr) (cap:Nat) (rs:List TR) (typ rel:ByteArray) (w:World) (hlen:rs.length≤1048576) (hs:eY w ad rs) (hl:∀ r ∈ rs,r.light) :
  Calls prog 57 #[.slice ad rs.length cap,.string typ,.string rel] w fun e w'=>(∃ (rows:List ER) (ad':Option Addr) (cap':Nat),e=.returned (.slice ad' rows.length cap')∧ah rows=(dM (ae rs) typ rel).getD []∧dw w ad' rows∧jP rs ad' rows)∧w'=w:=by
 have HS:Hid (eY w ad rs):=hs;have HL:Hid (∀ r ∈ rs,r.light):=hl;clear hs hl;go_enter func57,ntmps57;go_wp2;go_loopw [7] (fun i wr=>∃ k:Nat,k≤rs.length∧i=.int .i64 k∧Hid (dM (ae (rs.drop k)) typ rel=dM (ae rs) typ rel)∧wr=w) (fun i _=>rs.length - (intOf i).toNat);case atStart=>exact ⟨0,Nat.zero_le _,rfl,rfl,rfl⟩
 case round =>
  obtain ⟨k,hk,rfl,HP,rfl⟩:=hrel;by_cases hlt:k < rs.length
  ·rcases HS.out with rfl | ⟨b,off,rfl,hb,hr,hok⟩
   ·simp at hlt
   obtain ⟨t0,t1⟩:=hr k hlt;have ok:=hok rs[k] (List.getElem_mem hlt);have lg:=(HL.out rs[k] (List.getElem_mem hlt)).1;have HOK:Hid (rs[k].ok wr):=ok;have hk1:=aY k;have hk2:(k:Int) < (rs.length:Int):=by omega
   clear hr hok ok;cases hq:(rs[k].name.toList == typ.toList) with
   | false =>
    have HP2:Hid (dM (ae (rs.drop (k + 1))) typ rel=dM (ae rs) typ rel):=by show _=_; rw [← HP.out,jO _ _ hlt]; simp [dM,hq]
    go_wp2_with fail;go_loopw [8] (fun i w2=>i=.int .i64 0∧w2=wr) (fun i _=>(intOf i).toNat);case atStart=>exact ⟨rfl,rfl⟩
    case round =>
     obtain ⟨rfl,rfl⟩:=hrel;go_wp2;go_roundw;case rel=>exact ⟨k + 1,by omega,by go_num,HP2,by first | rfl | trivial⟩
     case measure=>simp [intOf] <;> omega
   | true =>
    go_wp2_with fail;go_loopw [8] (fun i w2=>∃ j:Nat,j≤rs[k].rows.length∧i=.int .i64 j∧Hid (ik (cB (rs[k].rows.drop j)) rel=ik (cB rs[k].rows) rel)∧w2=wr) (fun i _=>rs[k].rows.length - (intOf i).toNat);case atStart=>exact ⟨0,Nat.zero_le _,rfl,rfl,rfl⟩
    case round =>
     obtain ⟨j,hj,rfl,HI,rfl⟩:=hrel;by_cases hjl:j < rs[k].rows.length
     ·rcases HOK.out with hnil | ⟨b2,off2,had,hb2,hr2,hok2⟩
      ·rw [hnil] at hjl; simp at hjl
      have t1':=t1;rw [had] at t1';obtain ⟨q0,q1⟩:=hr2 j hjl;have HOQ:Hid (rs[k].rows[j].ok _):=hok2 rs[k].rows[j] (List.getElem_mem hjl);have hj1:=aY j;have hj2:(j:Int) < (rs[k].rows.length:Int):=by omega
      clear hr2 hok2 had t1;cases hn:(rs[k].rows[j].name.toList == rel.toList) with
      | true =>
       have HN:Hid (ah rs[k].rows[j].rows=(dM (ae rs) typ rel).getD []):=by
        have h1:ik (cB rs[k].rows) rel=some (ah rs[k].rows[j].rows):=by rw [← HI.out,Ai _ _ hjl]; simp [ik,hn]
        show _=_;rw [← HP.out,jO _ _ hlt];simp [dM,hq,h1]
       have HFS:Hid (jP rs rs[k].rows[j].ad rs[k].rows[j].rows):=.inr ⟨rs[k],List.getElem_mem hlt,rs[k].rows[j],List.getElem_mem hjl,rfl,rfl⟩;go_wp2;go_ret;exact ⟨⟨rs[k].rows[j].rows,_,_,rfl,HN.out,HOQ.out,HFS.out⟩,rfl⟩
      | false =>
       have HI2:Hid (ik (cB (rs[k].rows.drop (j + 1))) rel=ik (cB rs[k].rows) rel):=by show _=_; rw [← HI.out,Ai _ _ hjl]; simp [ik,hn]
       go_wp2;go_roundw;case rel=>exact ⟨j + 1,by omega,by go_num,HI2,by first | rfl | trivial⟩
       case measure=>simp [intOf] <;> omega
     ·have HP2:Hid (dM (ae (rs.drop (k + 1))) typ rel=dM (ae rs) typ rel):=by
       have h1:ik (cB rs[k].rows) rel=none:=by rw [← HI.out,List.drop_of_length_le (by omega)]; rfl
       show _=_;rw [← HP.out,jO _ _ hlt];simp [dM,hq,h1]
      go_wp2;go_roundw;case rel=>exact ⟨k + 1,by omega,by go_num,HP2,by first | rfl | trivial⟩
      case measure=>simp [intOf] <;> omega
  ·have HN:Hid (ah []=(dM (ae rs) typ rel).getD []):=by show _=_; rw [← HP.out,List.drop_of_length_le (by omega)]; rfl
   go_wp2;go_ret;exact ⟨⟨[],none,0,rfl,HN.out,.inl rfl,.inl rfl⟩,rfl⟩
def aM:List Ex→List Al
 | []=>[]
 | e::es=>if e.kind=1 then e.allow else aM es
theorem eG (rs:List ER) (k:Nat) (h:k < rs.length):ah (rs.drop k)=rs[k].e::ah (rs.drop (k + 1)):=by
 rw [List.drop_eq_getElem_cons h]; rfl
def Hf (rs:List ER) (ad:Option Addr) (xs:List Al):Prop:=xs=[] ∨ ∃ r ∈ rs,xs=r.e.allow∧ad=r.adA
theorem dw.mem {w:World} {ad:Option Addr} {rs:List ER} (h:dw w ad rs) {q:ER} (hq:q ∈ rs):q.ok w:=by
 rcases h with rfl | ⟨b,off,e,hb,hr,hk⟩
 ·cases hq
 ·exact hk q hq
theorem Hf.sl {rs:List ER} {ad ad0:Option Addr} {xs:List Al} {w:World} (h:Hf rs ad xs) (hs:dw w ad0 rs):fV w ad xs:=by
 rcases h with rfl | ⟨r,hr,rfl,rfl⟩
 ·exact .inl rfl
 ·exact (hs.mem hr).1
theorem rE (ad:Option Addr) (cap:Nat) (rs:List ER) (w:World) (hlen:rs.length≤1048576) (hs:dw w ad rs) :
  Calls prog 82 #[.slice ad rs.length cap] w fun e w'=>(∃ (ad':Option Addr) (cap':Nat),e=.returned (.slice ad' (aM (ah rs)).length cap')∧fV w ad' (aM (ah rs))∧Hf rs ad' (aM (ah rs)))∧w'=w:=by
 have HS:Hid (dw w ad rs):=hs;clear hs;go_enter func82,ntmps82;go_wp2;go_loopw [3] (fun i wr=>∃ k:Nat,k≤rs.length∧i=.int .i64 k∧Hid (aM (ah (rs.drop k))=aM (ah rs))∧wr=w) (fun i _=>rs.length - (intOf i).toNat);case atStart=>exact ⟨0,Nat.zero_le _,rfl,rfl,rfl⟩
 case round =>
  obtain ⟨k,hk,rfl,HP,rfl⟩:=hrel;by_cases hlt:k < rs.length
  ·rcases HS.out with rfl | ⟨b,off,rfl,hb,hr,hok⟩
   ·simp at hlt
   obtain ⟨t0,t1,t2,t3,t4⟩:=hr k hlt;have HOK:Hid (rs[k].ok _):=hok rs[k] (List.getElem_mem hlt);have hk1:=aY k;have hk2:(k:Int) < (rs.length:Int):=by omega
   clear hr hok;by_cases hq:rs[k].e.kind=1
   ·have HN:Hid (aM (ah rs)=rs[k].e.allow):=by show _=_; rw [← HP.out,eG _ _ hlt]; simp [aM,hq]
    go_wp2;go_ret;exact ⟨⟨rs[k].adA,rs[k].capA,by rw [HN.out]; rfl,by rw [HN.out]; exact HOK.out.1,.inr ⟨rs[k],List.getElem_mem hlt,HN.out,rfl⟩⟩,rfl⟩
   ·have HP2:Hid (aM (ah (rs.drop (k + 1)))=aM (ah rs)):=by show _=_; rw [← HP.out,eG _ _ hlt]; simp [aM,hq]
    have hqb:(rs[k].e.kind == 1)=false:=by simpa using hq
    go_wp2;go_roundw;case rel=>exact ⟨k + 1,by omega,by go_num,HP2,by first | rfl | trivial⟩
    case measure=>simp [intOf] <;> omega
  ·have HN:Hid (aM (ah rs)=[]):=by show _=_; rw [← HP.out,List.drop_of_length_le (by omega)]; rfl
   go_wp2;go_ret;exact ⟨⟨none,0,by rw [HN.out]; rfl,by rw [HN.out]; exact .inl rfl,.inl HN.out⟩,rfl⟩
def aV:List Ex→Bool
 | [e]=>decide (e.kind=1) && e.allow.all fun a=>a.s.toList.isEmpty
 | _=>false
def uh (xs:List Al) (k:Nat):Bool:=(xs.take k).all fun a=>a.s.toList.isEmpty
theorem CJ (xs:List Al) (k:Nat) (h:k < xs.length):uh xs (k + 1)=(uh xs k && xs[k].s.toList.isEmpty):=by
 unfold uh; rw [List.take_succ_eq_append_getElem h,List.all_append]; simp
theorem Fw (xs:List Al) (k:Nat) (h:k < xs.length) (hb:xs[k].s.toList.isEmpty=false):(xs.all fun a=>a.s.toList.isEmpty)=false:=by
 rw [Bool.eq_false_iff]; intro h2; rw [List.all_eq_true] at h2; have:=h2 xs[k] (List.getElem_mem h); rw [hb] at this; cases this
theorem yL (ad:Option Addr) (cap:Nat) (rs:List ER) (w:World) (hlen:rs.length≤1048576) (hs:dw w ad rs) (hl:∀ r ∈ rs,r.e.light) :
  Calls prog 112 #[.slice ad rs.length cap] w fun e w'=>e=.returned (.bool (aV (ah rs)))∧w'=w:=by
 by_cases h1:rs.length=1
 ·obtain ⟨r,rfl⟩:∃ r,rs=[r]:=List.length_eq_one_iff.1 h1;rcases hs with h | ⟨b,off,rfl,hb,hr,hok⟩
  ·cases h
  obtain ⟨t0,t1,t2,t3,t4⟩:=hr 0 (by simp);simp only [Nat.zero_mul,Nat.add_zero,List.getElem_cons_zero] at t0 t1 t2 t3 t4;have HOK:Hid (r.ok w):=hok r (by simp);obtain ⟨lg,-⟩:=hl r (by simp);clear hr hok h1;simp only [List.length_cons,List.length_nil,Nat.zero_add];by_cases hq:r.e.kind=1
  ·have HD:Hid (aV (ah [r])=r.e.allow.all fun a=>a.s.toList.isEmpty):=by show _=_; simp [aV,ah,hq]
   go_enter func112,ntmps112;go_wp2;go_loopw [3] (fun i wr=>∃ k:Nat,k≤r.e.allow.length∧i=.int .i64 k∧Hid (uh r.e.allow k=true)∧wr=w) (fun i _=>r.e.allow.length - (intOf i).toNat);case atStart=>exact ⟨0,Nat.zero_le _,rfl,(by show _=_; simp [uh]),rfl⟩
   case round =>
    obtain ⟨k,hk,rfl,HP,rfl⟩:=hrel;by_cases hlt:k < r.e.allow.length
    ·rcases HOK.out.1 with hnil | ⟨ba,offa,hadA,hba,hra⟩
     ·rw [hnil] at hlt; simp at hlt
     have t1':=t1;rw [hadA] at t1';obtain ⟨q0,q1⟩:=hra k hlt;have hk1:=aY k;have hk2:(k:Int) < (r.e.allow.length:Int):=by omega
     clear hra hadA t1;cases he:r.e.allow[k].s.toList.isEmpty with
     | true =>
      have HP2:Hid (uh r.e.allow (k + 1)=true):=by show _=_; rw [CJ _ _ hlt,HP.out,he]; rfl
      go_wp2;go_roundw;case rel=>exact ⟨k + 1,by omega,by go_num,HP2,by first | rfl | trivial⟩
      case measure=>simp [intOf] <;> omega
     | false =>
      have HN:Hid (aV (ah [r])=false):=by show _=_; rw [HD.out]; exact Fw _ k hlt he
      go_wp2;go_ret;exact ⟨by rw [HN.out]; rfl,rfl⟩
    ·have HN:Hid (aV (ah [r])=true):=by
      show _=_;rw [HD.out];have:=HP.out;unfold uh at this;rwa [List.take_of_length_le (by omega)] at this
     go_wp2;go_ret;exact ⟨by rw [HN.out]; rfl,rfl⟩
  ·have HN:Hid (aV (ah [r])=false):=by show _=_; simp [aV,ah,hq]
   have hqb:(r.e.kind != 1)=true:=by simpa using hq
   go_enter func112,ntmps112;go_wp2;go_ret;exact ⟨by rw [HN.out]; rfl,rfl⟩
 ·have HN:Hid (aV (ah rs)=false):=by
   show _=_
   match rs,h1 with
   | [],_=>rfl
   | [r],h=>exact absurd rfl h
   | a::b::r,_=>rfl
  have h1':((rs.length:Int) != 1)=true:=by simp; omega
  go_enter func112,ntmps112;go_wp2;go_ret;exact ⟨by rw [HN.out]; rfl,rfl⟩
def aC (ts:List Ty) (ty n:ByteArray):List Ex:=(dM ts ty n).getD []
def gl (ts:List Ty) (rel:ByteArray):List Al→List ByteArray
 | []=>[]
 | a::xs=>if (aC ts a.t rel).isEmpty then gl ts rel xs else a.t::gl ts rel xs
def fw (ts:List Ty) (ty over rel:ByteArray):List ByteArray:=gl ts rel (aM (aC ts ty over))
theorem wY (ts:List Ty) (rel:ByteArray) (xs ys:List Al):gl ts rel (xs ++ ys)=gl ts rel xs ++ gl ts rel ys:=by
 induction xs with
 | nil=>rfl
 | cons a xs ih=>simp only [List.cons_append,gl,ih]; split <;> simp
theorem KQ (ts:List Ty) (rel:ByteArray) (xs:List Al) (k:Nat) (h:k < xs.length) (he:aC ts xs[k].t rel=[]):gl ts rel (xs.take (k + 1))=gl ts rel (xs.take k):=by
 rw [List.take_succ_eq_append_getElem h,wY]; simp [gl,he]
theorem Hg (ts:List Ty) (rel:ByteArray) (xs:List Al) (k:Nat) (h:k < xs.length) (he:aC ts xs[k].t rel ≠ []):gl ts rel (xs.take (k + 1))=gl ts rel (xs.take k) ++ [xs[k].t]:=by
 rw [List.take_succ_eq_append_getElem h,wY]; simp [gl,he]
theorem CK (ts:List Ty) (rel:ByteArray) (xs:List Al):(gl ts rel xs).length≤xs.length:=by
 induction xs with
 | nil=>simp [gl]
 | cons a xs ih=>simp only [gl]; split <;> simp <;> omega
theorem Fx:(prog.info? 9).map (fun i=>(i.zero,i.size,i.bytes))=some (some (.string ⟨#[]⟩),1,16):=by kernel_rfl
def lu (xs:List ByteArray):List Value:=xs.map Value.string
def JJ (w:World) (ad:Option Addr) (xs:List ByteArray):Prop:=xs=[] ∨ ∃ b off,ad=some ⟨b,off,none⟩∧b < w.heap.size∧∀ (i:Nat) (h:i < xs.length),w.cell? ⟨b,off + i,none⟩=some (.string xs[i])
theorem JJ.below {w w':World} {ad:Option Addr} {xs:List ByteArray} (h:JJ w ad xs) (hB:Below w.heap.size w w'):JJ w' ad xs:=by
 rcases h with h | ⟨b,off,e,hb,hr⟩
 ·exact .inl h
 ·exact .inr ⟨b,off,e,Nat.lt_of_lt_of_le hb hB.size,fun i hi=>(hB.cell (p:=⟨b,off + i,none⟩) hb).trans (hr i hi)⟩
theorem Hl {w:World} {base k:Nat} {v:Value} {xs:List ByteArray} (h:w.ownsRow base 9 1 v k (lu xs)):∃ ad cp,v=.slice ad xs.length cp∧JJ w ad xs∧∀ p,ad=some p→base≤p.block:=by
 have hl:xs.length=k:=by have:=h.1; simpa [lu] using this
 have h2:=h;rcases h.2 with ⟨rfl,h0⟩ | ⟨g,cp,cur,rfl,hbg,hg,hnc,-⟩
 ·refine ⟨none,0,?_,.inl (List.length_eq_zero_iff.1 (by omega)),fun p hp=>by cases hp⟩;rw [hl,h0]
 ·have hlt:=h2.lt g rfl;refine ⟨_,cp,by rw [hl],.inr ⟨g,0,rfl,hlt.2,fun j hj=>?_⟩,fun p hp=>by injection hp with hp; rw [← hp]; exact hlt.1⟩;have:=h2.cells (g:=g) rfl j (.string xs[j]) (by simp [lu,hj]);rw [Nat.zero_add];have e:(⟨g,0,none⟩:Addr).add j=⟨g,j,none⟩:=by
   unfold Addr.add;by_cases hj:j=0
   ·subst hj; simp
   ·simp [hj]
  rwa [e] at this
theorem jP.light {rs:List TR} {ad:Option Addr} {rows:List ER} (h:jP rs ad rows) (hl:∀ r ∈ rs,r.light):rows.length≤1048576∧∀ q ∈ rows,q.e.light:=by
 rcases h with rfl | ⟨t,ht,q,hq,rfl,-⟩
 ·exact ⟨by simp,by simp⟩
 ·exact (hl t ht).2 q hq
theorem ui (rows:List ER) (hl:∀ q ∈ rows,q.e.light):(aM (ah rows)).length≤1048576:=by
 induction rows with
 | nil=>simp [ah,aM]
 | cons r rows ih =>
  have e:ah (r::rows)=r.e::ah rows:=rfl;rw [e];simp only [aM];split
  ·exact (hl r (by simp)).1
  ·exact ih fun q hq=>hl q (by simp [hq])
set_option maxRecDepth 100000 in
theorem rF (ad:Option Addr) (cap:Nat) (rs:List TR) (typ over rel:ByteArray) (w:World) (hlen:rs.length≤1048576) (hs:eY w ad rs) (hl:∀ r ∈ rs,r.light) :
  Calls prog 113 #[.slice ad rs.length cap,.string typ,.string over,.string rel] w fun e w'=>(∃ (ad':Option Addr) (cap':Nat),e=.returned (.slice ad' (fw (ae rs) typ over rel).length cap')∧JJ w' ad' (fw (ae rs) typ over rel)∧∀ p,ad'=some p→w.heap.size≤p.block)∧Below w.heap.size w w':=by
 have HS:Hid (eY w ad rs):=hs;have HL:Hid (∀ r ∈ rs,r.light):=hl;clear hs hl;obtain ⟨i0,hi,hz0,hz1,hz2⟩:=info_parts Fx;go_enter func113,ntmps113;go_wp2_with fail;have hbA:Below w.heap.size w (w.alloc (.cells #[] 9)):=(Below.refl _ _).alloc (Nat.le_refl _) _;have hown1:(w.alloc (.cells #[] 9)).ownsRow w.heap.size 9 1 (.slice (some ⟨w.heap.size,0,none⟩) 0 0) 0 []:=World.ownsRow_made w #[] 0 (Nat.le_refl _) (by decide) rfl;refine (fG ad cap rs typ over _ hlen (HS.out.below hbA) HL.out).mono ?_;rintro e w1 ⟨⟨rows,ad1,cap1,rfl,hx1,hs1,hf1⟩,rfl⟩;have hl1:=hf1.light HL.out;have hal:=ui rows hl1.2;go_wp2_with fail;refine (rE ad1 cap1 rows _ hl1.1 hs1).mono ?_;rintro e w1 ⟨⟨ad2,cap2,rfl,-,hf2⟩,rfl⟩;have HG:Hid (fw (ae rs) typ over rel=gl (ae rs) rel (aM (ah rows))):=by show _=_; rw [hx1]; rfl
 have HA:Hid (fV w ad2 (aM (ah rows))):=hf2.sl (hf1.sl HS.out);generalize aM (ah rows)=xs at *
 clear hs1 hx1 hf1 hl1 hf2;have HBA:Hid (Below w.heap.size w (w.alloc (.cells #[] 9))):=hbA;have HO1:Hid ((w.alloc (.cells #[] 9)).ownsRow w.heap.size 9 1 (.slice (some ⟨w.heap.size,0,none⟩) 0 0) 0 []):=hown1;clear hbA hown1;obtain ⟨wA,hwA⟩:∃ wA,wA=w.alloc (.cells #[] 9):=⟨_,rfl⟩;rw [← hwA] at HBA HO1 ⊢;clear hwA;go_wp2_with fail;go_loopw [9,11] (fun v i wr=>∃ k:Nat,k≤xs.length∧i=.int .i64 k∧wr.ownsRow w.heap.size 9 1 v (gl (ae rs) rel (xs.take k)).length (lu (gl (ae rs) rel (xs.take k)))∧Below w.heap.size w wr) (fun _ i _=>xs.length - (intOf i).toNat);case atStart=>exact ⟨0,Nat.zero_le _,rfl,by simpa [lu,gl] using HO1.out,HBA.out⟩
 case round =>
  obtain ⟨k,hk,rfl,hown,hB⟩:=hrel;by_cases hlt:k < xs.length
  ·have HST:Hid (eY _ ad rs):=HS.out.below hB;rcases HA.out.below hB with rfl | ⟨b,off,rfl,hb,hr⟩
   ·simp at hlt
   obtain ⟨t0,t1⟩:=hr k hlt;have hBs:=hB.size;have hgl:=CK (ae rs) rel (xs.take k);rw [List.length_take] at hgl;have HBH:Hid (Below w.heap.size w wr):=hB;have HOW:Hid (wr.ownsRow w.heap.size 9 1 _ _ _):=hown;clear hr hB hown;go_wp2_with fail;refine (fG ad cap rs xs[k].t rel _ hlen HST.out HL.out).mono ?_;rintro e w1 ⟨⟨rows2,ad3,cap3,rfl,hx3,-,-⟩,rfl⟩;by_cases hz:rows2.length=0
   ·have HE:Hid (gl (ae rs) rel (xs.take (k + 1))=gl (ae rs) rel (xs.take k)):=by
     refine KQ _ _ _ _ hlt ?_;show _=_;unfold aC;rw [← hx3,List.length_eq_zero_iff.1 hz]; rfl
    rw [hz];clear hx3;go_wp2;go_roundw;case rel=>exact ⟨k + 1,by omega,by go_num,by rw [HE.out]; exact HOW.out,HBH.out⟩
    case measure=>simp [intOf] <;> omega
   ·have HX:Hid (gl (ae rs) rel (xs.take (k + 1))=gl (ae rs) rel (xs.take k) ++ [xs[k].t]):=by
     refine Hg _ _ _ _ hlt ?_;show ¬ _=_;unfold aC;rw [← hx3];intro h2;apply hz;rw [← aI,h2]; rfl
    have hzz:(0:Int) < (rows2.length:Int):=by omega
    clear hx3;go_wp2_with (at_builtin; refine wpList_append_own _ rfl _ _ 204 rfl w.heap.size 9 i0 (.string ⟨#[]⟩) 1 16 underlying204 hi hz0 hz1 hz2 rfl (by decide) _ _ _ rfl (HOW.out.alloc _) ⟨w1.heap.size,0,none⟩ 1 1 [.string xs[k].t] rfl rfl (cell_one_new _ _ _) (by intro u hu; simp at hu; subst hu; rfl) (by unfold maxLen; omega) (by omega) (by simp; omega) ?_);intro v' w3 hown3 hgrow _;have hb3:Below w.heap.size w w3:=(HBH.out.alloc HBH.out.size _).grown hgrow (by simp; omega) (fun i hi=>(HOW.out.lt i hi).1);have HO3:Hid (w3.ownsRow w.heap.size 9 1 v' (gl (ae rs) rel (xs.take (k + 1))).length (lu (gl (ae rs) rel (xs.take (k + 1))))):=by
     show World.ownsRow _ _ _ _ _ _ _;rw [HX.out];simpa [lu] using hown3
    clear hown3 hgrow HOW;go_wp2;go_roundw;case rel=>exact ⟨k + 1,by omega,by go_num,HO3.out,hb3⟩
    case measure=>simp [intOf] <;> omega
  ·obtain rfl:k=xs.length:=by omega
   have HE:Hid (xs.take xs.length=xs):=by show _=_; rw [List.take_length]
   rw [HE.out,← HG.out] at hown;obtain ⟨ad',cp,rfl,hsl,hnew⟩:=Hl hown;have HNW:Hid (∀ p,ad'=some p→w.heap.size≤p.block):=hnew;have HSL:Hid (JJ _ ad' (fw (ae rs) typ over rel)):=hsl;have HBH:Hid (Below w.heap.size w _):=hB;clear hsl hB hown hnew;go_wp2;go_ret;exact ⟨⟨ad',cp,rfl,HSL.out,HNW.out⟩,HBH.out⟩
end Go.Proofs.YtdaoiceeidoehaaGreat
