/- The library's joining of slices of tuples, as the program calls it: a row of its own. -/
import Derived.Test.YteoflgocljfgeaaGreatDoorShelfW
import Derived.Test.YteoflgocljfgeaaGreatDoorJ31
import Derived.Laws.AppendOwnNone
open Go.Proofs.Tryz
set_option maxHeartbeats 80000000
namespace Go.Proofs.YteoflgocljfgeaaGreatDoor
set_option maxRecDepth 100000
set_option linter.unusedVariables false
open Go.ChangeShapes Go.WideShapes Go.ChangeAt Go.RowKit
open Pl
structure Pt where
 ad:Option Addr
 cap:Nat
 ts:List Tp
def Pt.v (p:Pt):Value:=.slice p.ad p.ts.length p.cap
def Pt.ok (w:World) (p:Pt):Prop:=(p.ad=none∧p.ts=[]∧p.cap=0) ∨ ∃ b off,p.ad=some ⟨b,off,none⟩∧(p.ts ≠ []→b < w.heap.size)∧dL w b off p.ts
theorem Pt.ok.below {w w':World} {p:Pt} (h:p.ok w) (hb:Below w.heap.size w w'):p.ok w':=by
 rcases h with h | ⟨b,off,e,hl,hr⟩
 ·exact .inl h
 ·refine .inr ⟨b,off,e,fun hne=>Nat.lt_of_lt_of_le (hl hne) hb.size,fun i hi=>?_⟩;have hne:p.ts ≠ []:=fun e=>by rw [e] at hi; simp at hi
  exact (hr i hi).same fun o=>hb.cell (p:=⟨b,o,none⟩) (hl hne)
def df (ps:List Pt):List Tp:=ps.flatMap (·.ts)
theorem qI {ps:List Pt} {k:Nat} (h:k < ps.length):df (ps.take (k + 1))=df (ps.take k) ++ ps[k].ts:=by
 unfold df;rw [List.take_succ_eq_append_getElem h,List.flatMap_append]; simp
theorem Cw (ps:List Pt) (k:Nat):(df (ps.take k)).length≤(df ps).length:=by
 have:df ps=df (ps.take k) ++ df (ps.drop k):=by unfold df; rw [← List.flatMap_append,List.take_append_drop]
 rw [this,List.length_append]; omega
structure PtsAt (w:World) (b:Nat) (ps:List Pt):Prop where
 lt:b < w.heap.size
 cell:∀ i (h:i < ps.length),w.cell? ⟨b,i,none⟩=some ps[i].v
 ok:∀ p ∈ ps,p.ok w
theorem PtsAt.below {w w':World} {b:Nat} {ps:List Pt} (h:PtsAt w b ps) (hb:Below w.heap.size w w'):PtsAt w' b ps :=
 ⟨Nat.lt_of_lt_of_le h.lt hb.size,fun i hi=>(hb.cell (p:=⟨b,i,none⟩) h.lt).trans (h.cell i hi),fun p hp=>(h.ok p hp).below hb⟩
theorem yf:∃ i,prog.info? 41=some i∧i.zero=some (.agg #[.string ⟨#[]⟩,.string ⟨#[]⟩,.string ⟨#[]⟩,.string ⟨#[]⟩,.string ⟨#[]⟩,.string ⟨#[]⟩])∧i.size=6∧i.bytes=96 :=
 info_parts (P:=prog) (e:=41) (z:=.agg #[.string ⟨#[]⟩,.string ⟨#[]⟩,.string ⟨#[]⟩,.string ⟨#[]⟩,.string ⟨#[]⟩,.string ⟨#[]⟩]) (size:=6) (bytes:=96) (by kernel_rfl)
theorem GY (n:Nat) (w:World) (hn:n≤1048576) :
  Calls prog 127 #[.slice none 0 0,.int .i64 n] w fun e w'=>∃ v,e=.returned v∧w'.ownsRow w.heap.size 41 6 v 0 (aB [])∧Below w.heap.size w w':=by
 obtain ⟨iT,h0,h1,h2,h3⟩:=yf;by_cases hz:n=0
 ·subst hz;refine (Any8.slices_Grow_room Tryz.growT none 0 0 0 w (by omega) (by omega) (by omega) (by omega)).mono ?_;rintro e w' ⟨rfl,rfl⟩;exact ⟨_,rfl,World.ownsRow_nil _ _ _ _,Below.refl _ _⟩
 ·refine (Any8.slices_Grow_grow Tryz.growT iT _ h0 h1 (by omega) none 0 0 n [] w (by omega) (by omega) (by rw [h3]; omega) (by omega) (by simp) (fun _=>rfl) (fun a ha=>by cases ha)).mono ?_;rintro e w' ⟨rfl,rfl⟩;have hge:=grownCap_ge w (0 + n) 0 (Tryz.growT_ren.t 25);have hm:grownCap w (0 + n) 0 (Tryz.growT_ren.t 25)≤maxLen:=grownCap_le_maxLen _ _ _ _ (by unfold maxLen; omega);obtain ⟨gc,hgc⟩:∃ gc,gc=grownCap w (0 + n) 0 (Tryz.growT_ren.t 25):=⟨_,rfl⟩;rw [← hgc] at hge hm ⊢;exact ⟨_,rfl,World.ownsRow_made w.drew _ gc (Nat.le_refl _) hm (by simp [size_zeroCells,Value.cells]; omega),(Below.refl _ _).drew.alloc (Nat.le_refl _) _⟩
theorem jA (b cap:Nat) (ps:List Pt) (w:World) (hp:PtsAt w b ps) (hn:ps.length≤1000) (hlen:(df ps).length≤1048576) :
  Calls prog 91 #[.slice (some ⟨b,0,none⟩) ps.length cap] w fun e w'=>∃ v,e=.returned v∧w'.ownsRow w.heap.size 41 6 v (df ps).length (aB (df ps))∧Below w.heap.size w w':=by
 obtain ⟨iT,h0,h1,h2,h3⟩:=yf;have HIT:=aM (And.intro h0 (And.intro h1 (And.intro h2 h3)));have HP:=aM hp;clear h0 h1 h2 h3 hp;go_enter func91,ntmps91;go_wp2;go_loopw [3,11] (fun sz i wr=>∃ k:Nat,k≤ps.length∧sz=.int .i64 ((df (ps.take k)).length:Nat)∧i=.int .i64 (k:Int)∧w=wr) (fun _ i _=>ps.length - (intOf i).toNat);case atStart=>exact ⟨0,Nat.zero_le _,rfl,rfl,rfl⟩
 case round =>
  obtain ⟨k,hk,rfl,rfl,rfl⟩:=hrel;by_cases hlt:k < ps.length
  ·have c0:=HP.out.cell k hlt;have hk1:=bR k;have hk2:(k:Int) < (ps.length:Int):=by omega
   have hle:=Cw ps (k + 1);have hst:(df (ps.take (k + 1))).length=(df (ps.take k)).length + ps[k].ts.length:=by rw [qI hlt,List.length_append]
   rw [hst] at hle;unfold Pt.v at c0;obtain ⟨J,hJ⟩:∃ J,J=(df (ps.take k)).length:=⟨_,rfl⟩;rw [← hJ] at hst hle ⊢;obtain ⟨q,hq⟩:∃ q,q=ps[k].ts.length:=⟨_,rfl⟩;rw [← hq] at hst hle c0;have HST:=aM hst;clear hJ hst hq;have hng:decide ((J:Int) + (q:Int) < 0)=false:=by simp; omega
   go_wp2;go_roundw;case rel=>exact ⟨k + 1,by omega,by rw [HST.out]; go_num,by go_num,by trivial⟩
   case measure=>simp [intOf]; omega
  ·obtain rfl:k=ps.length:=by omega
   rw [List.take_length];obtain ⟨N,hN⟩:∃ N,N=(df ps).length:=⟨_,rfl⟩;rw [← hN];have hNl:N≤1048576:=by omega
   have HNN:=aM hN;clear hN;go_wp2_with fail;refine (GY N w hNl).mono ?_;rintro e w1 ⟨v,rfl,hown,hb1⟩;have HO1:=aM hown;have HB1:=aM hb1;clear hown hb1;go_wp2;go_loopw [6,27] (fun v i wr=>∃ k:Nat,k≤ps.length∧i=.int .i64 (k:Int)∧Hid (wr.ownsRow w.heap.size 41 6 v (df (ps.take k)).length (aB (df (ps.take k))))∧Hid (Below w.heap.size w wr)) (fun _ i _=>ps.length - (intOf i).toNat);case atStart=>exact ⟨0,Nat.zero_le _,rfl,HO1,HB1⟩
   case round =>
    clear HO1 HB1;obtain ⟨k,hk,rfl,HO,HB⟩:=hrel;by_cases hlt:k < ps.length
    ·have hP2:=HP.out.below HB.out;have c0:=hP2.cell k hlt;have hpk:=hP2.ok ps[k] (List.getElem_mem hlt);have hk1:=bR k;have hk2:(k:Int) < (ps.length:Int):=by omega
     have hle:=Cw ps (k + 1);rw [qI hlt,List.length_append] at hle;have HST:=aM (qI hlt);have hB0:w.heap.size≤wr.heap.size:=HB.out.size;unfold Pt.v at c0;obtain ⟨J,hJ⟩:∃ J,J=df (ps.take k):=⟨_,rfl⟩;rw [← hJ] at hle HST HO;obtain ⟨p,hq⟩:∃ p,p=ps[k]:=⟨_,rfl⟩;rw [← hq] at hle c0 hpk HST;clear hJ hq hP2;rcases hpk with ⟨e1,e2,e3⟩ | ⟨pb,po,e1,-,hrow⟩
     ·rw [e1,e2,e3] at c0;have HO2:Hid (wr.ownsRow w.heap.size 41 6 u6 (df (ps.take (k + 1))).length (aB (df (ps.take (k + 1))))):=by
       show World.ownsRow _ _ _ _ _ _ _;rw [HST.out,e2,List.append_nil]; exact HO.out
      go_wp2_with (at_builtin; refine wpList_append_own_none rfl _ _ 33 rfl w.heap.size 41 iT 6 underlying33 HIT.out.1 _ _ _ rfl HO.out rfl ?_);go_wp2;go_roundw;case rel=>exact ⟨k + 1,by omega,by go_num,HO2,HB⟩
      case measure=>simp [intOf]; omega
     ·rw [e1] at c0;have HR:=aM hrow;clear hrow;go_wp2_with (at_builtin; refine wpList_append_own _ rfl _ _ 33 rfl w.heap.size 41 iT (.agg #[.string ⟨#[]⟩,.string ⟨#[]⟩,.string ⟨#[]⟩,.string ⟨#[]⟩,.string ⟨#[]⟩,.string ⟨#[]⟩]) 6 96 underlying33 HIT.out.1 HIT.out.2.1 HIT.out.2.2.1 HIT.out.2.2.2 rfl (by decide) _ J.length (aB J) rfl HO.out ⟨pb,po,none⟩ p.ts.length p.cap (aB p.ts) rfl (dR p.ts) (iX HR.out) (iY _) (by unfold maxLen; omega) (by omega) hB0 ?_);intro v' w3 hown hgr _;have HO3:Hid (w3.ownsRow w.heap.size 41 6 v' (df (ps.take (k + 1))).length (aB (df (ps.take (k + 1))))):=by
       show World.ownsRow _ _ _ _ _ _ _;rw [HST.out,mI,List.length_append]; exact hown
      have HB3:Hid (Below w.heap.size w w3):=HB.out.grown hgr HB.out.size (fun g hg=>by have:=(HO.out.lt g hg).1; omega);clear hown hgr;go_wp2;go_roundw;case rel=>exact ⟨k + 1,by omega,by go_num,HO3,HB3⟩
      case measure=>simp [intOf]; omega
    ·obtain rfl:k=ps.length:=by omega
     have HOE:=HO.out;rw [List.take_length] at HOE;have HE:=aM HOE;clear HOE;go_wp2;go_ret;exact ⟨_,rfl,HE.out,HB.out⟩
end Go.Proofs.YteoflgocljfgeaaGreatDoor
