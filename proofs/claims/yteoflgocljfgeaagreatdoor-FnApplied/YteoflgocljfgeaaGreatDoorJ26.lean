/- Contract of the program's function on what a node leans on. -/
import Derived.Test.YteoflgocljfgeaaGreatDoorJ25
open Go.Proofs.Tryz
set_option maxHeartbeats 80000000
namespace Go.Proofs.YteoflgocljfgeaaGreatDoor
open Go.ChangeShapes Go.WideShapes Go.ChangeAt Go.RowKit Go.Maps
open Pl
def Al.cells (a:Al):List Value:=[.string a.t,.string a.s]
def fJ:List Al→List Value
 | []=>[]
 | a::xs=>a.cells ++ fJ xs
theorem AQ (xs ys:List Al):fJ (xs ++ ys)=fJ xs ++ fJ ys:=by
 induction xs with
 | nil=>rfl
 | cons d ds ih=>simp [fJ,ih]
theorem xO (xs:List Al) (d:Al):fJ (xs ++ [d])=fJ xs ++ d.cells:=by rw [AQ]; simp [fJ]
theorem zG (xs:List Al) (i:Nat) (h:i < xs.length) (o:Nat) (ho:o < 2):(fJ xs)[i * 2 + o]?=(xs[i].cells)[o]?:=by
 induction xs generalizing i with
 | nil=>simp at h
 | cons s xs ih =>
  cases i with
  | zero =>
   simp only [fJ,Nat.zero_mul,Nat.zero_add,List.getElem_cons_zero];rw [List.getElem?_append_left (by simp [Al.cells]; omega)]
  | succ i =>
   simp only [fJ,List.getElem_cons_succ];rw [List.getElem?_append_right (by simp [Al.cells]; omega)];have e:(i + 1) * 2 + o - s.cells.length=i * 2 + o:=by simp [Al.cells]; omega
   rw [e];exact ih i (by simpa using h)
theorem Jt {w:World} {base:Nat} {v:Value} {xs:List Al} (h:w.ownsRow base 147 2 v xs.length (fJ xs)):∃ ad cp,v=.slice ad xs.length cp∧kF w ad xs∧∀ p,ad=some p→base≤p.block:=by
 have h2:=h;rcases h.2 with ⟨rfl,h0⟩ | ⟨g,cp,cur,rfl,hbg,hg,hnc,-⟩
 ·exact ⟨none,0,by rw [h0],.inl (List.length_eq_zero_iff.1 h0),fun p hp=>by cases hp⟩
 ·have hlt:=h2.lt g rfl;refine ⟨_,cp,rfl,.inr ⟨g,0,rfl,hlt.2,fun i hi=>?_⟩,fun p hp=>by injection hp with hp; rw [← hp]; exact hlt.1⟩;have h3:∀ (o:Nat) (u:Value),(fJ xs)[i * 2 + o]?=some u→w.cell? ⟨g,0 + i * 2 + o,none⟩=some u:=fun o u hu=>by
   have:=h2.cells (g:=g) rfl (i * 2 + o) u hu;rw [BH] at this;rw [Nat.zero_add]; exact this
  exact ⟨h3 0 _ (by have:=zG xs i hi 0 (by omega); simpa [Al.cells] using this),h3 1 _ (by have:=zG xs i hi 1 (by omega); simpa [Al.cells] using this)⟩
def bW:List Al→List Al
 | []=>[]
 | a::xs=>if a.s.toList.isEmpty then bW xs else a::bW xs
theorem rU (xs ys:List Al):bW (xs ++ ys)=bW xs ++ bW ys:=by
 induction xs with
 | nil=>rfl
 | cons a xs ih=>simp only [List.cons_append,bW,ih]; split <;> simp
theorem Ju (xs:List Al) (k:Nat) (h:k < xs.length) (he:xs[k].s.toList.isEmpty=true):bW (xs.take (k + 1))=bW (xs.take k):=by
 rw [List.take_succ_eq_append_getElem h,rU]; simp [bW] at he ⊢; simp [he]
theorem GH (xs:List Al) (k:Nat) (h:k < xs.length) (he:xs[k].s.toList.isEmpty=false):bW (xs.take (k + 1))=bW (xs.take k) ++ [xs[k]]:=by
 rw [List.take_succ_eq_append_getElem h,rU]; simp [bW,he]
theorem zH (xs:List Al):(bW xs).length≤xs.length:=by
 induction xs with
 | nil=>simp [bW]
 | cons a xs ih=>simp only [bW]; split <;> simp <;> omega
def fU (ts:List Ty) (typ:ByteArray) (e:Ex):List Al :=
 if e.kind=1 then bW e.allow else if e.kind=2 then [⟨typ,e.name⟩] else if e.kind=3 then (eG ts typ e.over e.name).map fun g=>⟨g,e.name⟩ else []
theorem Jv:(prog.info? 147).map (fun i=>(i.zero,i.size,i.bytes))=some (some (.agg #[.string ⟨#[]⟩,.string ⟨#[]⟩]),2,32):=by kernel_rfl
theorem AR (rs:List TR) (hl:∀ r ∈ rs,r.light) (typ over rel:ByteArray):(eG (ah rs) typ over rel).length≤1048576:=by
 unfold eG;split
 ·exact uC rs hl typ over rel
 ·simp
theorem pz (w:World) (o o':Obj):((w.alloc o).alloc o').heap[w.heap.size + 1]?=some o':=by
 have:=heap_alloc_new (w.alloc o) o';simpa using this
set_option maxRecDepth 100000 in
theorem uH (b n:Nat) (rs:List TR) (ad:Option Addr) (M:ByteArray × ByteArray→Option Value) (typ:ByteArray) (x:ER) (w:World) (hV:aJ bI prog 147 w b n M) (hT:Tab rs M) (hs:gp w ad rs) (hl:∀ r ∈ rs,r.light) (hf:∀ r ∈ rs,r.fits) (ht:typ.size≤maxLen) (hxf:x.e.fits) (hxl:x.e.light) (hxo:x.ok w) :
  Calls prog 139 #[.map (some b),.string typ,x.val] w fun e w'=>(∃ (ad':Option Addr) (cap':Nat),e=.returned (.slice ad' (fU (ah rs) typ x.e).length cap')∧kF w' ad' (fU (ah rs) typ x.e)∧∀ p,ad'=some p→w.heap.size≤p.block)∧Below w.heap.size w w':=by
 have HV:Hid (aJ bI prog 147 w b n M):=hV;have HT:Hid (Tab rs M):=hT;have HS:Hid (gp w ad rs):=hs;have HL:Hid (∀ r ∈ rs,r.light):=hl;have HFT:Hid (∀ r ∈ rs,r.fits):=hf;have HXF:Hid (x.e.fits):=hxf;have HXO:Hid (x.ok w):=hxo;have lgA:x.e.allow.length≤1048576:=hxl.1;clear hV hT hs hl hf hxf hxo hxl;obtain ⟨i0,hi,hz0,hz1,hz2⟩:=info_parts Jv;obtain ⟨W0,hW0⟩:∃ W0,W0=w.alloc (.cells #[.int .i64 x.e.kind,.slice x.adA x.e.allow.length x.capA,.string x.e.over,.string x.e.name,.slice x.adK x.e.kids.length x.capK] 139):=⟨_,rfl⟩;have hal:Below w.heap.size w W0:=by rw [hW0]; exact (Below.refl _ _).alloc (Nat.le_refl _) _
 have HB0:Hid (Below w.heap.size w W0):=hal;have hg0:w.heap.size < W0.heap.size:=by rw [hW0]; simp
 have c0:W0.cell? ⟨w.heap.size,0,none⟩=some (.int .i64 x.e.kind):=by rw [hW0]; simp
 have c1:W0.cell? ⟨w.heap.size,1,none⟩=some (.slice x.adA x.e.allow.length x.capA):=by rw [hW0]; simp
 have c2:W0.cell? ⟨w.heap.size,2,none⟩=some (.string x.e.over):=by rw [hW0]; simp
 have c3:W0.cell? ⟨w.heap.size,3,none⟩=some (.string x.e.name):=by rw [hW0]; simp
 have c4:W0.cell? ⟨w.heap.size,4,none⟩=some (.slice x.adK x.e.kids.length x.capK):=by rw [hW0]; simp
 clear hal;unfold ER.val;by_cases h1:x.e.kind=1
 ·have HLI:Hid (fU (ah rs) typ x.e=bW x.e.allow):=by show _=_; unfold fU; rw [if_pos h1]
  have hq1:(x.e.kind == 1)=true:=by simpa using h1
  replace h1:Hid (x.e.kind=1):=h1;go_enter func139,ntmps139;go_wp2_with fail;rw [← hW0];clear hW0;go_loopw [7,19] (fun v i wr=>∃ k:Nat,k≤x.e.allow.length∧i=.int .i64 k∧Hid (wr.ownsRow w.heap.size 147 2 v (bW (x.e.allow.take k)).length (fJ (bW (x.e.allow.take k))))∧Hid (Below w.heap.size w wr)) (fun _ i _=>x.e.allow.length - (intOf i).toNat);case atStart=>exact ⟨0,Nat.zero_le _,rfl,World.ownsRow_nil _ _ _ _,HB0⟩
  case round =>
   clear HB0 c0 c1 c2 c3 c4 hg0;obtain ⟨k,hk,rfl,HOW,HB⟩:=hrel;by_cases hlt:k < x.e.allow.length
   ·rcases (HXO.out.1).below HB.out with hnil | ⟨ba,offa,had,hba,hra⟩
    ·rw [hnil] at hlt; simp at hlt
    obtain ⟨t0,t1⟩:=hra k hlt;have hk1:=bR k;have hk2:(k:Int) < (x.e.allow.length:Int):=by omega
    obtain ⟨W1,hW1⟩:∃ W1,W1=wr.alloc (.cells #[.string x.e.allow[k].t,.string x.e.allow[k].s] 149):=⟨_,rfl⟩;have hal:Below wr.heap.size wr W1:=by rw [hW1]; exact (Below.refl _ _).alloc (Nat.le_refl _) _
    have HBW:=gW HB hal;have HOW1:Hid (W1.ownsRow w.heap.size 147 2 u7 (bW (x.e.allow.take k)).length (fJ (bW (x.e.allow.take k)))):=own_below HOW.out hal;have g0:W1.cell? ⟨wr.heap.size,0,none⟩=some (.string x.e.allow[k].t):=by rw [hW1]; simp
    have g1:W1.cell? ⟨wr.heap.size,1,none⟩=some (.string x.e.allow[k].s):=by rw [hW1]; simp
    have hgl1:wr.heap.size < W1.heap.size:=by rw [hW1]; simp
    have hgl:=zH (x.e.allow.take k);rw [List.length_take] at hgl;have hwsz:w.heap.size≤W1.heap.size:=HBW.out.size;rw [had];clear hra hal HOW;cases he:x.e.allow[k].s.toList.isEmpty with
    | true =>
     have HE:Hid (bW (x.e.allow.take (k + 1))=bW (x.e.allow.take k)):=Ju _ _ hlt he;have HBX:Hid (Below w.heap.size w (wr.alloc (.cells #[.string x.e.allow[k].t,.string x.e.allow[k].s] 149))):=by rw [← hW1]; exact HBW
     have HOX:Hid ((wr.alloc (.cells #[.string x.e.allow[k].t,.string x.e.allow[k].s] 149)).ownsRow w.heap.size 147 2 u7 (bW (x.e.allow.take (k + 1))).length (fJ (bW (x.e.allow.take (k + 1))))):=by rw [← hW1,HE.out]; exact HOW1
     clear hW1 g0 g1;go_wp2;go_roundw;case rel=>exact ⟨k + 1,by omega,by go_num,HOX,HBX⟩
     case measure=>simp [intOf] <;> omega
    | false =>
     have HX:Hid (bW (x.e.allow.take (k + 1))=bW (x.e.allow.take k) ++ [x.e.allow[k]]):=GH _ _ hlt he;have HOX:Hid ((wr.alloc (.cells #[.string x.e.allow[k].t,.string x.e.allow[k].s] 149)).ownsRow w.heap.size 147 2 u7 (bW (x.e.allow.take k)).length (fJ (bW (x.e.allow.take k)))):=by rw [← hW1]; exact HOW1
     have HBX:Hid (Below w.heap.size w (wr.alloc (.cells #[.string x.e.allow[k].t,.string x.e.allow[k].s] 149))):=by rw [← hW1]; exact HBW
     have hws:w.heap.size≤wr.heap.size:=HB.out.size;clear hW1 HOW1 HBW g0 g1 hgl1 hwsz W1;go_wp2_with (at_builtin; refine wpList_append_own_at _ rfl _ _ 242 rfl w.heap.size 147 i0 _ 2 32 underlying242 hi hz0 hz1 hz2 rfl (by decide) _ _ _ rfl (HOX.out.alloc _) ⟨wr.heap.size + 1,0,none⟩ 1 1 [.string x.e.allow[k].t,.string x.e.allow[k].s] rfl rfl (World.news_of_block (cs:=#[.string x.e.allow[k].t,.string x.e.allow[k].s]) (t:=147) (fr:=(0,0)) (pz wr _ _)) (by simp [Value.oneCell']) (by unfold maxLen; omega) (by omega) (by simp; omega) ?_);intro v' w3 hown3 hgrow _ hloc;have HB3:Hid (Below w.heap.size w w3):=(HBX.out.alloc HBX.out.size _).grown hgrow (by simp; omega) (fun i hi=>(HOX.out.lt i hi).1);have HO3:Hid (w3.ownsRow w.heap.size 147 2 v' (bW (x.e.allow.take (k + 1))).length (fJ (bW (x.e.allow.take (k + 1))))):=by
      show World.ownsRow _ _ _ _ _ _ _;rw [HX.out,xO,List.length_append];exact hown3
     clear hown3 hgrow hloc HOX HBX;go_wp2;go_roundw;case rel=>exact ⟨k + 1,by omega,by go_num,HO3,HB3⟩
     case measure=>simp [intOf] <;> omega
   ·obtain rfl:k=x.e.allow.length:=by omega
    have hown:=HOW.out;rw [List.take_length] at hown;obtain ⟨ad',cp,rfl,hS',hN'⟩:=Jt hown;have HS2:Hid (kF wr ad' (bW x.e.allow)):=hS';have HN2:Hid (∀ p,ad'=some p→w.heap.size≤p.block):=hN';clear hown HOW hS' hN';go_wp2;go_ret;exact ⟨⟨ad',cp,by rw [HLI.out]; rfl,by rw [HLI.out]; exact HS2.out,HN2.out⟩,HB.out⟩
 have hq1:(x.e.kind == 1)=false:=by simpa using h1
 by_cases h2:x.e.kind=2
 ·have HLI:Hid (fU (ah rs) typ x.e=[⟨typ,x.e.name⟩]):=by show _=_; unfold fU; rw [if_neg h1,if_pos h2]
  have hq2:(x.e.kind == 2)=true:=by simpa using h2
  replace h2:Hid (x.e.kind=2):=h2;have HOX:Hid ((w.alloc (.cells #[.int .i64 x.e.kind,.slice x.adA x.e.allow.length x.capA,.string x.e.over,.string x.e.name,.slice x.adK x.e.kids.length x.capK] 139)).ownsRow w.heap.size 147 2 (.slice none 0 0) 0 []):=World.ownsRow_nil _ _ _ _;have HBX:Hid (Below w.heap.size w (w.alloc (.cells #[.int .i64 x.e.kind,.slice x.adA x.e.allow.length x.capA,.string x.e.over,.string x.e.name,.slice x.adK x.e.kids.length x.capK] 139))):=by rw [← hW0]; exact HB0
  clear hW0 HB0 c0 c1 c2 c3 c4 hg0 W0;go_enter func139,ntmps139;go_wp2_with (at_builtin; refine wpList_append_own_at _ rfl _ _ 242 rfl w.heap.size 147 i0 _ 2 32 underlying242 hi hz0 hz1 hz2 rfl (by decide) _ _ _ rfl (HOX.out.alloc _) ⟨w.heap.size + 1,0,none⟩ 1 1 [.string typ,.string x.e.name] rfl rfl (World.news_of_block (cs:=#[.string typ,.string x.e.name]) (t:=147) (fr:=(0,0)) (pz w _ _)) (by simp [Value.oneCell']) (by unfold maxLen; omega) (by omega) (by simp; omega) ?_);intro v' w3 hown3 hgrow _ hloc;have HB3:Hid (Below w.heap.size w w3):=(HBX.out.alloc HBX.out.size _).grown hgrow (by simp; omega) (fun i hi=>(HOX.out.lt i hi).1);have hown4:w3.ownsRow w.heap.size 147 2 v' ([⟨typ,x.e.name⟩]:List Al).length (fJ [⟨typ,x.e.name⟩]):=hown3;obtain ⟨ad',cp,rfl,hS',hN'⟩:=Jt hown4;have HS2:Hid (kF w3 ad' [⟨typ,x.e.name⟩]):=hS';have HN2:Hid (∀ p,ad'=some p→w.heap.size≤p.block):=hN';clear hown3 hown4 hgrow hloc HOX HBX hS' hN';go_wp2;go_ret;exact ⟨⟨ad',cp,by rw [HLI.out]; rfl,by rw [HLI.out]; exact HS2.out,HN2.out⟩,HB3.out⟩
 have hq2:(x.e.kind == 2)=false:=by simpa using h2
 by_cases h3:x.e.kind=3
 ·have HLI:Hid (fU (ah rs) typ x.e=(eG (ah rs) typ x.e.over x.e.name).map fun g=>(⟨g,x.e.name⟩:Al)):=by show _=_; unfold fU; rw [if_neg h1,if_neg h2,if_pos h3]
  have hq3:(x.e.kind == 3)=true:=by simpa using h3
  replace h3:Hid (x.e.kind=3):=h3;have HGL:(eG (ah rs) typ x.e.over x.e.name).length≤1048576:=AR rs HL.out _ _ _;have HV0:Hid (aJ bI prog 147 W0 b n M):=HV.out.below HB0.out;go_enter func139,ntmps139;go_wp2_with fail;rw [← hW0];refine (uG b n rs ad M typ x _ HV0.out HT.out (HS.out.below HB0.out) HL.out HFT.out ht HXF.out.2.1 HXF.out.2.2.1).mono ?_;rintro e w1 ⟨⟨adG,cpG,rfl,hSG,hNG⟩,hb1⟩;generalize eG (ah rs) typ x.e.over x.e.name=gs at *
  have HB1:=gW HB0 hb1;have HSG:Hid (Kq w1 adG gs):=hSG;have HNG:Hid (∀ p,adG=some p→W0.heap.size≤p.block):=hNG;have HC1:Hid (w1.cell? ⟨w.heap.size,3,none⟩=some (.string x.e.name)∧w.heap.size < w1.heap.size):=⟨ak hb1 hg0 c3,Nat.lt_of_lt_of_le hg0 hb1.size⟩;clear hW0 hSG hNG hb1 c0 c1 c2 c3 c4 HB0 HV0 hg0 HNG;go_wp2_with fail;go_loopw [7,51] (fun v i wr=>∃ m:Nat,m≤gs.length∧i=.int .i64 m∧Hid (wr.ownsRow w.heap.size 147 2 v m (fJ ((gs.take m).map fun g=>(⟨g,x.e.name⟩:Al))))∧Hid (Below w.heap.size w wr)∧Hid (Aside w1 (.slice none 0 0) wr v)) (fun _ i _=>gs.length - (intOf i).toNat);case atStart=>exact ⟨0,Nat.zero_le _,rfl,World.ownsRow_nil _ _ _ _,HB1,Aside.refl _ _⟩
  case round =>
   clear HB1;obtain ⟨m,hm,rfl,HO,HB,HA⟩:=hrel;have x3:=nR HA.out HC1.out.2 (by simp [Value.ownBlock]) HC1.out.1;by_cases hml:m < gs.length
   ·rcases HSG.out with rfl | ⟨bg,offg,rfl,hbg,hrg⟩
    ·simp at hml
    have q0:=nR HA.out hbg (by simp [Value.ownBlock]) (hrg m hml);have hm1:=bR m;have hm2:(m:Int) < (gs.length:Int):=by omega
    have hws:w.heap.size≤wr.heap.size:=HB.out.size;have HFX:Hid (fJ ((gs.take (m + 1)).map fun g=>(⟨g,x.e.name⟩:Al))=fJ ((gs.take m).map fun g=>(⟨g,x.e.name⟩:Al)) ++ [.string gs[m],.string x.e.name]):=by
     show _=_;rw [List.take_succ_eq_append_getElem hml,List.map_append,List.map_singleton,xO]; rfl
    clear hrg;go_wp2_with (at_builtin; refine wpList_append_own_at _ rfl _ _ 242 rfl w.heap.size 147 i0 _ 2 32 underlying242 hi hz0 hz1 hz2 rfl (by decide) _ _ _ rfl (HO.out.alloc _) ⟨wr.heap.size,0,none⟩ 1 1 [.string gs[m],.string x.e.name] rfl rfl (World.news_of_block (cs:=#[.string gs[m],.string x.e.name]) (t:=147) (fr:=(0,0)) (heap_alloc_new wr _)) (by simp [Value.oneCell']) (by unfold maxLen; omega) (by omega) (by simp; omega) ?_);intro v' w3 hown3 hgrow _ hloc;have HB3:Hid (Below w.heap.size w w3):=(HB.out.alloc HB.out.size _).grown hgrow (by simp; omega) (fun i hi=>(HO.out.lt i hi).1);have HO3:Hid (w3.ownsRow w.heap.size 147 2 v' (m + 1) (fJ ((gs.take (m + 1)).map fun g=>(⟨g,x.e.name⟩:Al)))):=by
     show World.ownsRow _ _ _ _ _ _ _;rw [HFX.out]; simpa [List.map_take] using hown3
    have HA3:Hid (Aside w1 (.slice none 0 0) w3 v'):=HA.out.trans ((Aside.below ((Below.refl _ _).alloc (Nat.le_refl _) _)).trans (Aside.app hgrow (by simpa using hloc)));clear hown3 hgrow hloc HO HA;go_wp2;go_roundw;case rel=>exact ⟨m + 1,by omega,by go_num,HO3,HB3,HA3⟩
    case measure=>simp [intOf] <;> omega
   ·obtain rfl:m=gs.length:=by omega
    have hown:=HO.out;rw [List.take_length] at hown;have e:gs.length=(gs.map fun g=>(⟨g,x.e.name⟩:Al)).length:=by simp
    rw [e] at hown;obtain ⟨ad',cp,rfl,hS',hN'⟩:=Jt hown;have HS2:Hid (kF wr ad' (gs.map fun g=>(⟨g,x.e.name⟩:Al))):=hS';have HN2:Hid (∀ p,ad'=some p→w.heap.size≤p.block):=hN';obtain ⟨ln,hln⟩:∃ ln,ln=(gs.map fun g=>(⟨g,x.e.name⟩:Al)).length:=⟨_,rfl⟩;rw [← hln];have HLN:Hid (ln=(gs.map fun g=>(⟨g,x.e.name⟩:Al)).length):=hln;clear hown HO hS' hN' e HA x3 hln;go_wp2;go_ret;exact ⟨⟨ad',cp,by rw [HLI.out,← HLN.out]; rfl,by rw [HLI.out]; exact HS2.out,HN2.out⟩,HB.out⟩
 ·have HLI:Hid (fU (ah rs) typ x.e=[]):=by show _=_; unfold fU; rw [if_neg h1,if_neg h2,if_neg h3]
  have hq3:(x.e.kind == 3)=false:=by simpa using h3
  have HBX:Hid (Below w.heap.size w (w.alloc (.cells #[.int .i64 x.e.kind,.slice x.adA x.e.allow.length x.capA,.string x.e.over,.string x.e.name,.slice x.adK x.e.kids.length x.capK] 139))):=by rw [← hW0]; exact HB0
  clear hW0 HB0 c0 c1 c2 c3 c4 hg0;go_enter func139,ntmps139;go_wp2;go_ret;exact ⟨⟨none,0,by rw [HLI.out]; rfl,by rw [HLI.out]; exact .inl rfl,fun p hp=>by cases hp⟩,HBX.out⟩
set_option maxRecDepth 100000 in
theorem yE (ad:Option Addr) (cap:Nat) (rs:List ER) (w:World) (hlen:rs.length≤1048576) (hs:kX w ad rs) (hl:∀ r ∈ rs,r.e.light) (hk:∀ r ∈ rs,bY rs.length r.e.kids) :
  Calls prog 138 #[.slice ad rs.length cap] w fun e w'=>e=.returned (.slice (some ⟨w.heap.size,0,none⟩) rs.length rs.length)∧Fil w w' w.heap.size rs.length (bools (dD (au rs))):=by
 have HS:Hid (kX w ad rs):=hs;have HL:Hid (∀ r ∈ rs,r.e.light):=hl;have HK:Hid (∀ r ∈ rs,bY rs.length r.e.kids):=hk;clear hs hl hk;obtain ⟨inf,hi,hz0,hz1,hz2⟩:=info_parts wG;go_enter func138,ntmps138;go_wp2_with (at_make; refine wpList_make_full _ rfl _ _ 240 rfl w.heap.size 4 inf (.bool false) 1 underlying240 hi hz0 hz1 .i64 .i64 _ _ rs.length rfl rfl rfl rfl (by rw [hz2]; omega) (by unfold maxLen; omega) (Nat.le_refl _) ?_; intro w0 hown0 hgrow0);have HF0:Hid (Fil w w0 w.heap.size rs.length (bools (List.replicate rs.length false))):=by
  have:=yZ (v:=.bool false) hown0 hgrow0;show Fil _ _ _ _ _;simpa [bools] using this
 clear hown0 hgrow0 hi hz0 hz1 hz2;go_loopw [4] (fun i wr=>∃ (m:Nat) (out:List Bool),m≤rs.length∧i=.int .i64 ((m:Int) - 1)∧out.length=rs.length∧Hid (fO (au rs) m out=dD (au rs))∧Hid (Fil w wr w.heap.size rs.length (bools out))) (fun i _=>(intOf i + 1).toNat);case atStart=>exact ⟨rs.length,List.replicate rs.length false,Nat.le_refl _,by go_num,by simp,(by show _=_; unfold dD; rw [bq]),HF0⟩
 case round =>
  obtain ⟨m,out,hm,rfl,hol,HN,HF⟩:=hrel;by_cases hm0:0 < m
  ·obtain ⟨m,rfl⟩:∃ m',m=m' + 1:=⟨m - 1,by omega⟩;have hmi:(((m + 1:Nat):Int) - 1)=(m:Int):=by omega
   rw [hmi];have hlt:m < rs.length:=by omega
   rcases HS.out.below HF.out.below with rfl | ⟨b,off,rfl,hb,hr,hok⟩
   ·simp at hlt
   obtain ⟨t0,t1,t2,t3,t4⟩:=hr m hlt;have HOK:Hid (rs[m].ok _):=hok rs[m] (List.getElem_mem hlt);have lg:=(HL.out rs[m] (List.getElem_mem hlt)).2;have HKI:Hid (bY rs.length rs[m].e.kids):=HK.out rs[m] (List.getElem_mem hlt);have hk1:=bR m;have hk2:(m:Int) < (rs.length:Int):=by omega
   have hbw:b < w.heap.size:=by
    rcases HS.out with h | ⟨b',off',h1,h2,-⟩
    ·rw [h] at hlt; simp at hlt
    ·injection h1 with h1; injection h1 with h1; omega
   have HR:Hid (ve wr b (off + m * 5) rs[m]):=hr m hlt;have HNX:Hid (fO (au rs) m (aZ m rs[m].e.kind rs[m].e.kids 0 out)=dD (au rs)):=by
    show _=_;rw [← HN.out,wH _ _ _ (by rw [bq]; exact hlt)];simp [au]
   clear hr hok t0 t1 t2 t3;go_wp2_with fail;clear t4;go_loopw [23] (fun i w2=>∃ (j:Nat) (out2:List Bool),j≤rs[m].e.kids.length∧i=.int .i64 j∧out2.length=rs.length∧Hid (aZ m rs[m].e.kind (rs[m].e.kids.drop j) j out2=aZ m rs[m].e.kind rs[m].e.kids 0 out)∧Hid (Fil w w2 w.heap.size rs.length (bools out2))) (fun i _=>rs[m].e.kids.length - (intOf i).toNat);case atStart=>exact ⟨0,out,Nat.zero_le _,rfl,hol,rfl,HF⟩
   case round =>
    obtain ⟨j,out2,hj,rfl,ho2,HJ,HF2⟩:=hrel;have hE2:kX wr _ rs:=HS.out.below HF2.out.below;have ht:ve wr b (off + m * 5) rs[m]:=by
     rcases hE2 with h | ⟨b',off',h1,h2,h3,-⟩
     ·exact absurd hlt (by rw [h]; simp)
     ·injection h1 with h1; injection h1 with h1 h1'; subst h1; subst h1'; exact h3 m hlt
    obtain ⟨t0,t1,t2,t3,t4⟩:=ht;by_cases hjl:j < rs[m].e.kids.length
    ·have hK2:Bn wr rs[m].adK rs[m].e.kids:=(hE2.mem (List.getElem_mem hlt)).2;rcases hK2 with hnil | ⟨ba,offa,hadK,hba,hra⟩
     ·rw [hnil] at hjl; simp at hjl
     rw [hadK];have q0:=hra j hjl;have hj1:=bR j;have hj2:(j:Int) < (rs[m].e.kids.length:Int):=by omega
     obtain ⟨x0,x1⟩:=HKI.out _ (List.getElem_mem hjl);obtain ⟨x,hx⟩:∃ x:Nat,rs[m].e.kids[j]=(x:Int):=⟨rs[m].e.kids[j].toNat,by omega⟩;rw [hx] at q0 x0 x1;have c0:=HF2.out.done m (by simp [bools]; omega);have fz:=HF2.out.free;obtain ⟨v0,u0⟩:=Option.isSome_iff_exists.mp (HF2.out.there x (by omega));have hbr:b < wr.heap.size:=Nat.lt_of_lt_of_le hbw HF2.out.below.size;obtain ⟨bo,hbo⟩:∃ bo,bo=(bools out2)[m]'(by simp [bools]; omega):=⟨_,rfl⟩;rw [← hbo] at c0;clear hra hadK hE2 t1 t2 t3;have hm2:m < out2.length:=by omega
     have hbo1:bo=.bool out2[m]:=by rw [hbo]; simp [bools]
     have hbo':out2[m]?.getD false=out2[m]:=by simp [hm2]
     rw [hbo1] at c0;clear hbo hbo1;cases hb0:out2[m] with
     | true =>
      rw [hb0] at c0 hbo';have HF4:Hid (Fil w (wr.setCell ⟨w.heap.size,x,none⟩ (.bool true)) w.heap.size rs.length (bools (out2.set x true))):=by show Fil _ _ _ _ _; rw [gP]; exact HF2.out.set _ (by simp [bools]; omega) (by omega)
      have HJ2:Hid (aZ m rs[m].e.kind (rs[m].e.kids.drop (j + 1)) (j + 1) (out2.set x true)=aZ m rs[m].e.kind rs[m].e.kids 0 out):=by
       show _=_;rw [← HJ.out,dU _ _ _ _ _ hjl,hx];simp [*]
      go_wp2;go_roundw;case rel=>exact ⟨j + 1,out2.set x true,by omega,by go_num,by simp [ho2],HJ2,HF4⟩
      case measure=>simp [intOf] <;> omega
     | false =>
      rw [hb0] at c0 hbo';cases hkb:(rs[m].e.kind == 6) with
      | false =>
       have HF4:Hid (Fil w (wr.setCell ⟨w.heap.size,x,none⟩ (.bool false)) w.heap.size rs.length (bools (out2.set x false))):=by show Fil _ _ _ _ _; rw [gP]; exact HF2.out.set _ (by simp [bools]; omega) (by omega)
       have HJ2:Hid (aZ m rs[m].e.kind (rs[m].e.kids.drop (j + 1)) (j + 1) (out2.set x false)=aZ m rs[m].e.kind rs[m].e.kids 0 out):=by
        show _=_;rw [← HJ.out,dU _ _ _ _ _ hjl,hx];simp [*]
       go_wp2;go_roundw;case rel=>exact ⟨j + 1,out2.set x false,by omega,by go_num,by simp [ho2],HJ2,HF4⟩
       case measure=>simp [intOf] <;> omega
      | true =>
       cases hjb:((j:Int) == 1) with
       | true =>
        have hjn:(j == 1)=true:=by simp at hjb ⊢; omega
        have HF4:Hid (Fil w (wr.setCell ⟨w.heap.size,x,none⟩ (.bool true)) w.heap.size rs.length (bools (out2.set x true))):=by show Fil _ _ _ _ _; rw [gP]; exact HF2.out.set _ (by simp [bools]; omega) (by omega)
        have HJ2:Hid (aZ m rs[m].e.kind (rs[m].e.kids.drop (j + 1)) (j + 1) (out2.set x true)=aZ m rs[m].e.kind rs[m].e.kids 0 out):=by
         show _=_;rw [← HJ.out,dU _ _ _ _ _ hjl,hx];simp [*]
        go_wp2;go_roundw;case rel=>exact ⟨j + 1,out2.set x true,by omega,by go_num,by simp [ho2],HJ2,HF4⟩
        case measure=>simp [intOf] <;> omega
       | false =>
        have hjn:(j == 1)=false:=by simp at hjb ⊢; omega
        have HF4:Hid (Fil w (wr.setCell ⟨w.heap.size,x,none⟩ (.bool false)) w.heap.size rs.length (bools (out2.set x false))):=by show Fil _ _ _ _ _; rw [gP]; exact HF2.out.set _ (by simp [bools]; omega) (by omega)
        have HJ2:Hid (aZ m rs[m].e.kind (rs[m].e.kids.drop (j + 1)) (j + 1) (out2.set x false)=aZ m rs[m].e.kind rs[m].e.kids 0 out):=by
         show _=_;rw [← HJ.out,dU _ _ _ _ _ hjl,hx];simp [*]
        go_wp2;go_roundw;case rel=>exact ⟨j + 1,out2.set x false,by omega,by go_num,by simp [ho2],HJ2,HF4⟩
        case measure=>simp [intOf] <;> omega
    ·have HOE:Hid (fO (au rs) m out2=dD (au rs)):=by
      show _=_;rw [← HNX.out,← HJ.out,List.drop_of_length_le (by omega)];rfl
     go_wp2;go_roundw;case rel=>exact ⟨m,out2,by omega,by go_num,ho2,HOE,HF2⟩
     case measure=>simp [intOf] <;> omega
  ·obtain rfl:m=0:=by omega
   have HFE:Hid (Fil w wr w.heap.size rs.length (bools (dD (au rs)))):=by
    show Fil _ _ _ _ _;rw [← HN.out];exact HF.out
   go_wp2;go_ret;exact ⟨rfl,HFE.out⟩
abbrev Ky:=ByteArray × ByteArray
def lookL (E:List (Ky × St)) (k:Ky):List St:=E.filterMap fun p=>if p.1=k then some p.2 else none
theorem iC (E F:List (Ky × St)) (k:Ky):lookL (E ++ F) k=lookL E k ++ lookL F k:=by unfold lookL; rw [List.filterMap_append]
theorem qH (E:List (Ky × St)) (k:Ky) (s:St):lookL (E ++ [(k,s)]) k=lookL E k ++ [s]:=by rw [iC]; simp [lookL]
theorem oz (E:List (Ky × St)) {k y:Ky} (s:St) (h:k ≠ y):lookL (E ++ [(y,s)]) k=lookL E k:=by rw [iC]; simp [lookL,Ne.symm h]
theorem sZ {E:List (Ky × St)} {k:Ky} {s:St}:s ∈ lookL E k ↔ (k,s) ∈ E:=by
 unfold lookL;rw [List.mem_filterMap];constructor
 ·rintro ⟨⟨a,b⟩,h1,h2⟩;simp only at h2;split at h2
  ·rename_i e; injection h2 with h2; rw [← e,← h2]; exact h1
  ·cases h2
 ·intro h; exact ⟨(k,s),h,by simp⟩
def FreeB (M:Ky→Option Value) (g:Nat):Prop:=∀ k v,M k=some v→v.ownBlock ≠ some g
structure Grp (w:World) (bL n:Nat) (M:Ky→Option Value) (E:List (Ky × St)):Prop where
 map:aJ bI prog 147 w bL n M
 row:∀ k,(M k=none∧lookL E k=[]) ∨ ∃ v,M k=some v∧w.ownsRow (bL + 1) 239 3 v (lookL E k).length (fT (lookL E k))
 apart:∀ k k' v v',k ≠ k'→M k=some v→M k'=some v'→∀ g,v.ownBlock=some g→v'.ownBlock ≠ some g
theorem Grp.lt {w:World} {bL n:Nat} {M:Ky→Option Value} {E:List (Ky × St)} (h:Grp w bL n M E) {k:Ky} {v:Value} (hk:M k=some v) {g:Nat} (hg:v.ownBlock=some g):bL < g∧g < w.heap.size:=by
 rcases h.row k with ⟨e,-⟩ | ⟨v',e,ho⟩
 ·rw [e] at hk; cases hk
 ·rw [e] at hk; injection hk with hk; subst hk;have:=ho.lt g hg;exact ⟨by omega,this.2⟩
theorem Grp.fresh {w:World} {bL n:Nat} {M:Ky→Option Value} {E:List (Ky × St)} (h:Grp w bL n M E) {g:Nat} (hg:w.heap.size≤g):FreeB M g:=fun k v hk e=>by
 have:=(h.lt hk e).2; omega
theorem Grp.mono {w:World} {bL n n':Nat} {M:Ky→Option Value} {E:List (Ky × St)} (h:Grp w bL n M E) (hn:n≤n'):Grp w bL n' M E:=⟨h.map.mono hn,h.row,h.apart⟩
theorem Grp.below {w w':World} {bL n:Nat} {M:Ky→Option Value} {E:List (Ky × St)} (h:Grp w bL n M E) (hB:Below w.heap.size w w'):Grp w' bL n M E where
 map:=h.map.below hB
 row k:=by
  rcases h.row k with e | ⟨v,e,ho⟩
  ·exact .inl e
  ·exact .inr ⟨v,e,own_below ho hB⟩
 apart:=h.apart
theorem grp_made (w:World):Grp (w.alloc (.map #[] 0)) w.heap.size 0 (fun _=>none) [] where
 map:=oQ _ _ _ w
 row k:=.inl ⟨rfl,rfl⟩
 apart k k' v v' _ h:=by cases h
structure Stl (W:World) (M:Ky→Option Value) (w2:World) (M2:Ky→Option Value) (bL:Nat):Prop where
 size:W.heap.size≤w2.heap.size
 block:∀ g,g < W.heap.size→g ≠ bL→FreeB M g→w2.heap[g]?=W.heap[g]?
 free:∀ g,g < W.heap.size→FreeB M g→FreeB M2 g
theorem Stl.refl (W:World) (M:Ky→Option Value) (bL:Nat):Stl W M W M bL:=⟨Nat.le_refl _,fun _ _ _ _=>rfl,fun _ _ h=>h⟩
theorem Stl.trans {W w2 w3:World} {M M2 M3:Ky→Option Value} {bL:Nat} (h:Stl W M w2 M2 bL) (h2:Stl w2 M2 w3 M3 bL):Stl W M w3 M3 bL where
 size:=Nat.le_trans h.size h2.size
 block g hg hb hf:=(h2.block g (Nat.lt_of_lt_of_le hg h.size) hb (h.free g hg hf)).trans (h.block g hg hb hf)
 free g hg hf:=h2.free g (Nat.lt_of_lt_of_le hg h.size) (h.free g hg hf)
theorem Stl.below {W w2:World} {M:Ky→Option Value} {bL:Nat} (hB:Below W.heap.size W w2):Stl W M w2 M bL:=⟨hB.size,fun g hg _ _=>hB.block g hg,fun _ _ h=>h⟩
structure Cel (w:World) (M:Ky→Option Value) (bL g o:Nat) (u:Value):Prop where
 cell:w.cell? ⟨g,o,none⟩=some u
 lt:g < w.heap.size
 free:FreeB M g
 ne:g ≠ bL
theorem Cel.stl {w w2:World} {M M2:Ky→Option Value} {bL g o:Nat} {u:Value} (h:Cel w M bL g o u) (hS:Stl w M w2 M2 bL):Cel w2 M2 bL g o u where
 cell:=(World.cell?_of_block (w:=w) (hS.block g h.lt h.ne h.free)).trans h.cell
 lt:=Nat.lt_of_lt_of_le h.lt hS.size
 free:=hS.free g h.lt h.free
 ne:=h.ne
theorem Grp.step {W0 w1 w2 w3:World} {bL n:Nat} {M:Ky→Option Value} {E:List (Ky × St)} {y:Ky} {v':Value} {s:St} (h:Grp W0 bL n M E) (hg1:W0.grownBy w1 (some bL)) (hown:w2.ownsRow (bL + 1) 239 3 v' ((lookL E y).length + 1) (fT (lookL E y) ++ s.cells))
  (hg2:w1.grownBy w2 ((M y).getD (.slice none 0 0)).ownBlock) (hloc:v'.ownBlock=((M y).getD (.slice none 0 0)).ownBlock ∨ v'.ownBlock=some w1.heap.size) (hg3:w2.grownBy w3 (some bL)) (hM:aJ bI prog 147 w3 bL (n + 1) (kD M y (some v'))) :
  Grp w3 bL (n + 1) (kD M y (some v')) (E ++ [(y,s)])∧Stl W0 M w3 (kD M y (some v')) bL:=by
 have hrow0:∀ k v,M k=some v→∃ xs m,W0.ownsRow (bL + 1) 239 3 v m xs:=fun k v hk=>by
  rcases h.row k with ⟨e,-⟩ | ⟨v1,e,ho⟩
  ·rw [e] at hk; cases hk
  ·rw [e] at hk; injection hk with hk; subst hk; exact ⟨_,_,ho⟩
 have hne2:∀ k v,k ≠ y→M k=some v→v.ownBlock=none ∨ v.ownBlock ≠ ((M y).getD (.slice none 0 0)).ownBlock:=fun k v hky hk=>by
  cases e:v.ownBlock with
  | none=>exact .inl rfl
  | some g =>
   right;cases ey:M y with
   | none=>simp [Value.ownBlock]
   | some vy=>intro e2; exact h.apart k y v vy hky hk ey g e (by simpa using e2.symm)
 have hnb:∀ v,(∃ k,M k=some v)→v.ownBlock=none ∨ v.ownBlock ≠ some bL:=fun v ⟨k,hk⟩=>by
  cases e:v.ownBlock with
  | none=>exact .inl rfl
  | some g=>right; have:=(h.lt hk e).1; intro e2; injection e2 with e2; omega
 have hnew:∀ g,v'.ownBlock=some g→bL < g:=fun g e=>by have:=(hown.lt g e).1; omega
 have hv'b:v'.ownBlock=none ∨ v'.ownBlock ≠ some bL:=by
  cases e:v'.ownBlock with
  | none=>exact .inl rfl
  | some g=>right; have:=hnew g e; intro e2; injection e2 with e2; omega
 constructor
 ·refine ⟨hM,fun k=>?_,fun k k' v u hkk hk hk' g e=>?_⟩
  ·by_cases ek:k=y
   ·subst ek;rw [dP,qH];refine .inr ⟨v',rfl,?_⟩;rw [wL,List.length_append];exact hown.kept hg3 hv'b
   ·rw [bJ ek,oz _ _ ek];rcases h.row k with e | ⟨v,e,ho⟩
    ·exact .inl e
    ·exact .inr ⟨v,e,((ho.kept hg1 (hnb v ⟨k,e⟩)).kept hg2 (hne2 k v ek e)).kept hg3 (hnb v ⟨k,e⟩)⟩
  ·by_cases ek:k=y
   ·subst ek;rw [dP] at hk; injection hk with hk; subst hk;rw [bJ (Ne.symm hkk)] at hk';intro e2;rcases hloc with el | el
    ·rw [e] at el;cases ey:M k with
     | none=>rw [ey] at el; simp [Value.ownBlock] at el
     | some vy=>rw [ey] at el; exact h.apart k k' vy u hkk ey hk' g (by simpa using el.symm) e2
    ·rw [e] at el; injection el with el;have:=(h.lt hk' e2).2;have:=hg1.size;omega
   ·rw [bJ ek] at hk;by_cases ek':k'=y
    ·subst ek';rw [dP] at hk'; injection hk' with hk'; subst hk';intro e2;rcases hloc with el | el
     ·rw [e2] at el;cases ey:M k' with
      | none=>rw [ey] at el; simp [Value.ownBlock] at el
      | some vy=>rw [ey] at el; exact h.apart k k' v vy hkk hk ey g e (by simpa using el.symm)
     ·rw [e2] at el; injection el with el;have:=(h.lt hk e).2;have:=hg1.size;omega
    ·rw [bJ ek'] at hk';exact h.apart k k' v u hkk hk hk' g e
 ·refine ⟨Nat.le_trans hg1.size (Nat.le_trans hg2.size hg3.size),fun g hg hb hf=>?_,fun g hg hf k v hk=>?_⟩
  ·have h1:=hg1.block g hg (fun e=>hb (by injection e));have h2:=hg2.block g (Nat.lt_of_lt_of_le hg hg1.size) (fun e=>by
    cases ey:M y with
    | none=>rw [ey] at e; simp [Value.ownBlock] at e
    | some vy=>rw [ey] at e; exact hf y vy ey (by simpa using e.symm))
   have h3:=hg3.block g (Nat.lt_of_lt_of_le hg (Nat.le_trans hg1.size hg2.size)) (fun e=>hb (by injection e));rw [h3,h2,h1]
  ·by_cases ek:k=y
   ·subst ek;rw [dP] at hk; injection hk with hk; subst hk;intro e2;rcases hloc with el | el
    ·rw [e2] at el;cases ey:M k with
     | none=>rw [ey] at el; simp [Value.ownBlock] at el
     | some vy=>rw [ey] at el; exact hf k vy ey (by simpa using el.symm)
    ·rw [e2] at el; injection el with el; have:=hg1.size; omega
   ·rw [bJ ek] at hk;exact hf k v hk
end Go.Proofs.YteoflgocljfgeaaGreatDoor
