/- Contract of the program's function on what a node leans on. -/
import Derived.Test.YtdmniljjnaebbaaGreatDoorSq
import Derived.Test.YtdmniljjnaebbaaGreatDoorJ12
import Derived.Test.YtdmniljjnaebbaaGreatDoorJ9
open Go.Proofs.Tryz
set_option maxHeartbeats 80000000
namespace Go.Proofs.YtdmniljjnaebbaaGreatDoor
open Go.ChangeShapes Go.WideShapes Go.ChangeAt Go.RowKit Go.Maps
open Pl
def Al.cells (a:Al):List Value:=[.string a.t,.string a.s]
def fU:List Al→List Value
 | []=>[]
 | a::xs=>a.cells ++ fU xs
theorem CS (xs ys:List Al):fU (xs ++ ys)=fU xs ++ fU ys:=by
 induction xs with
 | nil=>rfl
 | cons d ds ih=>simp [fU,ih]
theorem yO (xs:List Al) (d:Al):fU (xs ++ [d])=fU xs ++ d.cells:=by rw [CS]; simp [fU]
theorem Bp (xs:List Al) (i:Nat) (h:i < xs.length) (o:Nat) (ho:o < 2):(fU xs)[i * 2 + o]?=(xs[i].cells)[o]?:=by
 induction xs generalizing i with
 | nil=>simp at h
 | cons s xs ih =>
  cases i with
  | zero =>
   simp only [fU,Nat.zero_mul,SG,List.getElem_cons_zero];rw [List.getElem?_append_left (by simp [Al.cells]; omega)]
  | succ i =>
   simp only [fU,List.getElem_cons_succ];rw [List.getElem?_append_right (by simp [Al.cells]; omega)];have e:(i + 1) * 2 + o - s.cells.length=i * 2 + o:=by simp [Al.cells]; omega
   rw [e];exact ih i (by simpa using h)
theorem MW {w:af} {base:Nat} {v:Value} {xs:List Al} (h:w.ownsRow base 172 2 v xs.length (fU xs)):∃ ad cp,v=.slice ad xs.length cp∧gP w ad xs∧∀ p,ad=some p→base≤p.block:=by
 have h2:=h;rcases h.2 with ⟨rfl,h0⟩ | ⟨g,cp,cur,rfl,hbg,hg,hnc,-⟩
 ·exact ⟨none,0,by rw [h0],.inl (SA.1 h0),fun p hp=>by cases hp⟩
 have hlt:=h2.lt g rfl;refine ⟨_,cp,rfl,.inr ⟨g,0,rfl,hlt.2,fun i hi=>?_⟩,fun p hp=>by injection hp with hp; rw [← hp]; exact hlt.1⟩;have h3:∀ (o:Nat) (u:Value),(fU xs)[i * 2 + o]?=some u→w.cell? ⟨g,0 + i * 2 + o,none⟩=some u:=fun o u hu=>by
  have:=h2.cells (g:=g) rfl (i * 2 + o) u hu;rw [Em] at this;rw [SG]; exact this
 exact ⟨h3 0 _ (by have:=Bp xs i hi 0 (by omega); simpa [Al.cells] using this),h3 1 _ (by have:=Bp xs i hi 1 (by omega); simpa [Al.cells] using this)⟩
def di:List Al→List Al
 | []=>[]
 | a::xs=>if a.s.toList.isEmpty then di xs else a::di xs
theorem sD (xs ys:List Al):di (xs ++ ys)=di xs ++ di ys:=by
 induction xs with
 | nil=>rfl
 | cons a xs ih=>simp only [List.cons_append,di,ih]; split <;> simp
theorem MX (xs:List Al) (k:Nat) (h:k < xs.length) (he:xs[k].s.toList.isEmpty=true):di (xs.take (k + 1))=di (xs.take k):=by
 rw [Sk h,sD]; simp [di] at he ⊢; simp [he]
theorem Kh (xs:List Al) (k:Nat) (h:k < xs.length) (he:xs[k].s.toList.isEmpty=false):di (xs.take (k + 1))=di (xs.take k) ++ [xs[k]]:=by
 rw [Sk h,sD]; simp [di,he]
theorem Bq (xs:List Al):(di xs).length≤xs.length:=by
 induction xs with
 | nil=>simp [di]
 | cons a xs ih=>simp only [di]; split <;> simp <;> omega
def iy (ts:List Ty) (typ:ByteArray) (e:Ex):List Al :=
 if e.kind=1 then di e.allow else if e.kind=2 then [⟨typ,e.name⟩] else if e.kind=3 then (fD ts typ e.over e.name).map fun g=>⟨g,e.name⟩ else []
theorem MZ:(prog.info? 172).map (fun i=>(i.zero,i.size,i.bytes))=some (some (.agg #[.string ⟨#[]⟩,.string ⟨#[]⟩]),2,32):=by kernel_rfl
theorem CU (rs:List TR) (hl:∀ r ∈ rs,r.light) (typ over rel:dB):(fD (ag rs) typ over rel).length≤1048576:=by
 unfold fD;split
 ·exact vL rs hl typ over rel
 simp
theorem uu (w:af) (o o':Obj):((w.alloc o).alloc o').heap[w.heap.size + 1]?=some o':=by
 have:=heap_alloc_new (w.alloc o) o';simpa using this
set_option maxRecDepth 100000 in
theorem EE (b n:Nat) (rs:List TR) (ad:Option Addr) (M:ByteArray × ByteArray→Option Value) (typ:dB) (x:ER) (w:af) (hV:aJ dE prog 172 w b n M) (hT:Tab rs M) (hs:iN w ad rs) (hl:∀ r ∈ rs,r.light) (hf:∀ r ∈ rs,r.fits) (ht:typ.size≤maxLen) (Xw:x.e.fits) (hxl:x.e.light) (hxo:x.ok w) :
  Calls prog 169 #[.map (some b),.string typ,x.val] w fun e w'=>(∃ (Ti:Option Addr) (cap':Nat),e=.returned (.slice Ti (iy (ag rs) typ x.e).length cap')∧gP w' Ti (iy (ag rs) typ x.e)∧∀ p,Ti=some p→w.heap.size≤p.block)∧aa w w':=by
 have HV:Hid (aJ dE prog 172 w b n M):=hV;have HT:=ay hT;have HS:=ay hs;have HL:=ay hl;have Tv:=ay hf;have Vi:=ay Xw;have Zh:=ay hxo;have lgA:x.e.allow.length≤1048576:=hxl.1;clear hV hT hs hl hf Xw hxo hxl;obtain ⟨i0,hi,hz0,hz1,hz2⟩:=info_parts MZ;obtain ⟨W0,hW0⟩:∃ W0,W0=w.alloc (.cells #[.int .i64 x.e.kind,.slice x.adA x.e.allow.length x.capA,.string x.e.over,.string x.e.name,.slice x.adK x.e.kids.length x.capK] 190):=⟨_,rfl⟩;have hal:aa w W0:=by rw [hW0]; exact (Si _ _).alloc (Sj _) _
 have HB0:=ay hal;have hg0:w.heap.size < W0.heap.size:=by rw [hW0]; simp
 have c0:W0.cell? ⟨w.heap.size,0,none⟩=some (.int .i64 x.e.kind):=by rw [hW0]; simp
 have c1:W0.cell? ⟨w.heap.size,1,none⟩=some (.slice x.adA x.e.allow.length x.capA):=by rw [hW0]; simp
 have c2:W0.cell? ⟨w.heap.size,2,none⟩=some (.string x.e.over):=by rw [hW0]; simp
 have c3:W0.cell? ⟨w.heap.size,3,none⟩=some (.string x.e.name):=by rw [hW0]; simp
 have c4:W0.cell? ⟨w.heap.size,4,none⟩=some (.slice x.adK x.e.kids.length x.capK):=by rw [hW0]; simp
 clear hal;unfold ER.val;by_cases h1:x.e.kind=1
 ·have UC:Hid (iy (ag rs) typ x.e=di x.e.allow):=by show _=_; unfold iy; rw [if_pos h1]
  have hq1:(x.e.kind == 1)=true:=by simpa using h1
  replace h1:Hid (x.e.kind=1):=h1;go_enter func169,ntmps169;go_wp2_with fail;rw [← hW0];clear hW0;go_loopw [7,19] (fun v i wr=>∃ k:Nat,k≤x.e.allow.length∧i=.int .i64 k∧Hid (wr.ownsRow w.heap.size 172 2 v (di (x.e.allow.take k)).length (fU (di (x.e.allow.take k))))∧Hid (aa w wr)) (fun _ i _=>x.e.allow.length - (intOf i).toNat);case atStart=>exact ⟨0,Sm _,rfl,World.ownsRow_nil _ _ _ _,HB0⟩
  clear HB0 c0 c1 c2 c3 c4 hg0;obtain ⟨k,hk,rfl,HOW,HB⟩:=hrel;by_cases hlt:k < x.e.allow.length
  ·rcases (Zh.out.1).below HB.out with hnil | ⟨ba,Ve,had,hba,hra⟩
   ·rw [hnil] at hlt; simp at hlt
   obtain ⟨t0,t1⟩:=hra k hlt;have hk1:=bH k;have hk2:(k:Int) < (x.e.allow.length:Int):=by omega
   obtain ⟨W1,hW1⟩:∃ W1,W1=wr.alloc (.cells #[.string x.e.allow[k].t,.string x.e.allow[k].s] 204):=⟨_,rfl⟩;have hal:aa wr W1:=by rw [hW1]; exact (Si _ _).alloc (Sj _) _
   have Tt:=jb HB hal;have Vg:Hid (W1.ownsRow w.heap.size 172 2 u7 (di (x.e.allow.take k)).length (fU (di (x.e.allow.take k)))):=own_below HOW.out hal;have g0:W1.cell? ⟨wr.heap.size,0,none⟩=some (.string x.e.allow[k].t):=by rw [hW1]; simp
   have g1:W1.cell? ⟨wr.heap.size,1,none⟩=some (.string x.e.allow[k].s):=by rw [hW1]; simp
   have ZC:wr.heap.size < W1.heap.size:=by rw [hW1]; simp
   have hgl:=Bq (x.e.allow.take k);rw [SL] at hgl;have hwsz:w.heap.size≤W1.heap.size:=Tt.out.size;rw [had];clear hra hal HOW;cases he:x.e.allow[k].s.toList.isEmpty;case true=>
    have HE:Hid (di (x.e.allow.take (k + 1))=di (x.e.allow.take k)):=MX _ _ hlt he;have TH:Hid (aa w (wr.alloc (.cells #[.string x.e.allow[k].t,.string x.e.allow[k].s] 204))):=by rw [← hW1]; exact Tt
    have ZF:Hid ((wr.alloc (.cells #[.string x.e.allow[k].t,.string x.e.allow[k].s] 204)).ownsRow w.heap.size 172 2 u7 (di (x.e.allow.take (k + 1))).length (fU (di (x.e.allow.take (k + 1))))):=by rw [← hW1,HE.out]; exact Vg
    clear hW1 g0 g1;go_wp2;go_roundw;case rel=>exact ⟨k + 1,by omega,by go_num,ZF,TH⟩
    simp [intOf] <;> omega
   have HX:Hid (di (x.e.allow.take (k + 1))=di (x.e.allow.take k) ++ [x.e.allow[k]]):=Kh _ _ hlt he;have ZF:Hid ((wr.alloc (.cells #[.string x.e.allow[k].t,.string x.e.allow[k].s] 204)).ownsRow w.heap.size 172 2 u7 (di (x.e.allow.take k)).length (fU (di (x.e.allow.take k)))):=by rw [← hW1]; exact Vg
   have TH:Hid (aa w (wr.alloc (.cells #[.string x.e.allow[k].t,.string x.e.allow[k].s] 204))):=by rw [← hW1]; exact Tt
   have hws:w.heap.size≤wr.heap.size:=HB.out.size;clear hW1 Vg Tt g0 g1 ZC hwsz W1;go_wp2_with (at_builtin; refine wpList_append_own_at _ rfl _ _ 278 rfl w.heap.size 172 i0 _ 2 32 underlying278 hi hz0 hz1 hz2 rfl (by decide) _ _ _ rfl (ZF.out.alloc _) ⟨wr.heap.size + 1,0,none⟩ 1 1 [.string x.e.allow[k].t,.string x.e.allow[k].s] rfl rfl (World.news_of_block (cs:=#[.string x.e.allow[k].t,.string x.e.allow[k].s]) (t:=172) (fr:=(0,0)) (uu wr _ _)) (by simp [Value.oneCell']) (by unfold maxLen; omega) (by omega) (by simp; omega) ?_);intro v' w3 hown3 hgrow _ hloc;have HB3:Hid (aa w w3):=(TH.out.alloc TH.out.size _).grown hgrow (by simp; omega) (fun i hi=>(ZF.out.lt i hi).1);have TD:Hid (w3.ownsRow w.heap.size 172 2 v' (di (x.e.allow.take (k + 1))).length (fU (di (x.e.allow.take (k + 1))))):=by
    show World.ownsRow _ _ _ _ _ _ _;rw [HX.out,yO,Sr];exact hown3
   clear hown3 hgrow hloc ZF TH;go_wp2;go_roundw;case rel=>exact ⟨k + 1,by omega,by go_num,TD,HB3⟩
   simp [intOf] <;> omega
  obtain rfl:k=x.e.allow.length:=by omega
  have hown:=HOW.out;rw [Su] at hown;obtain ⟨Ti,cp,rfl,hS',hN'⟩:=MW hown;have HS2:=ay hS';have UZ:Hid (∀ p,Ti=some p→w.heap.size≤p.block):=hN';clear hown HOW hS' hN';go_wp2;go_ret;exact ⟨⟨Ti,cp,by rw [UC.out]; rfl,by rw [UC.out]; exact HS2.out,UZ.out⟩,HB.out⟩
 have hq1:(x.e.kind == 1)=false:=by simpa using h1
 by_cases h2:x.e.kind=2
 ·have UC:Hid (iy (ag rs) typ x.e=[⟨typ,x.e.name⟩]):=by show _=_; unfold iy; rw [if_neg h1,if_pos h2]
  have hq2:(x.e.kind == 2)=true:=by simpa using h2
  replace h2:Hid (x.e.kind=2):=h2;have ZF:Hid ((w.alloc (.cells #[.int .i64 x.e.kind,.slice x.adA x.e.allow.length x.capA,.string x.e.over,.string x.e.name,.slice x.adK x.e.kids.length x.capK] 190)).ownsRow w.heap.size 172 2 (.slice none 0 0) 0 []):=World.ownsRow_nil _ _ _ _;have TH:Hid (aa w (w.alloc (.cells #[.int .i64 x.e.kind,.slice x.adA x.e.allow.length x.capA,.string x.e.over,.string x.e.name,.slice x.adK x.e.kids.length x.capK] 190))):=by rw [← hW0]; exact HB0
  clear hW0 HB0 c0 c1 c2 c3 c4 hg0 W0;go_enter func169,ntmps169;go_wp2_with (at_builtin; refine wpList_append_own_at _ rfl _ _ 278 rfl w.heap.size 172 i0 _ 2 32 underlying278 hi hz0 hz1 hz2 rfl (by decide) _ _ _ rfl (ZF.out.alloc _) ⟨w.heap.size + 1,0,none⟩ 1 1 [.string typ,.string x.e.name] rfl rfl (World.news_of_block (cs:=#[.string typ,.string x.e.name]) (t:=172) (fr:=(0,0)) (uu w _ _)) (by simp [Value.oneCell']) (by unfold maxLen; omega) (by omega) (by simp; omega) ?_);intro v' w3 hown3 hgrow _ hloc;have HB3:Hid (aa w w3):=(TH.out.alloc TH.out.size _).grown hgrow (by simp; omega) (fun i hi=>(ZF.out.lt i hi).1);have TN:w3.ownsRow w.heap.size 172 2 v' ([⟨typ,x.e.name⟩]:List Al).length (fU [⟨typ,x.e.name⟩]):=hown3;obtain ⟨Ti,cp,rfl,hS',hN'⟩:=MW TN;have HS2:=ay hS';have UZ:Hid (∀ p,Ti=some p→w.heap.size≤p.block):=hN';clear hown3 TN hgrow hloc ZF TH hS' hN';go_wp2;go_ret;exact ⟨⟨Ti,cp,by rw [UC.out]; rfl,by rw [UC.out]; exact HS2.out,UZ.out⟩,HB3.out⟩
 have hq2:(x.e.kind == 2)=false:=by simpa using h2
 by_cases h3:x.e.kind=3
 ·have UC:Hid (iy (ag rs) typ x.e=(fD (ag rs) typ x.e.over x.e.name).map fun g=>(⟨g,x.e.name⟩:Al)):=by show _=_; unfold iy; rw [if_neg h1,if_neg h2,if_pos h3]
  have hq3:(x.e.kind == 3)=true:=by simpa using h3
  replace h3:Hid (x.e.kind=3):=h3;have HGL:(fD (ag rs) typ x.e.over x.e.name).length≤1048576:=CU rs HL.out _ _ _;have Ww:=ay (HV.out.below HB0.out);go_enter func169,ntmps169;go_wp2_with fail;rw [← hW0];refine (vM b n rs ad M typ x _ Ww.out HT.out (HS.out.below HB0.out) HL.out Tv.out ht Vi.out.2.1 Vi.out.2.2.1).mono ?_;rintro e w1 ⟨⟨Xx,cpG,rfl,hSG,hNG⟩,hb1⟩;generalize fD (ag rs) typ x.e.over x.e.name=gs at *
  have HB1:=jb HB0 hb1;have HSG:=ay hSG;have HNG:Hid (∀ p,Xx=some p→W0.heap.size≤p.block):=hNG;have TW:Hid (w1.cell? ⟨w.heap.size,3,none⟩=some (.string x.e.name)∧w.heap.size < w1.heap.size):=⟨aK hb1 hg0 c3,Sg hg0 hb1.size⟩;clear hW0 hSG hNG hb1 c0 c1 c2 c3 c4 HB0 Ww hg0 HNG;go_wp2_with fail;go_loopw [7,51] (fun v i wr=>∃ m:Nat,m≤gs.length∧i=.int .i64 m∧Hid (wr.ownsRow w.heap.size 172 2 v m (fU ((gs.take m).map fun g=>(⟨g,x.e.name⟩:Al))))∧Hid (aa w wr)∧Hid (Aside w1 (.slice none 0 0) wr v)) (fun _ i _=>gs.length - (intOf i).toNat);case atStart=>exact ⟨0,Sm _,rfl,World.ownsRow_nil _ _ _ _,HB1,Aside.refl _ _⟩
  clear HB1;obtain ⟨m,hm,rfl,HO,HB,HA⟩:=hrel;have x3:=oZ HA.out TW.out.2 (by simp [Value.ownBlock]) TW.out.1;by_cases TF:m < gs.length
  ·rcases HSG.out with rfl | ⟨bg,offg,rfl,hbg,hrg⟩
   ·simp at TF
   have q0:=oZ HA.out hbg (by simp [Value.ownBlock]) (hrg m TF);have hm1:=bH m;have hm2:(m:Int) < (gs.length:Int):=by omega
   have hws:w.heap.size≤wr.heap.size:=HB.out.size;have HFX:Hid (fU ((gs.take (m + 1)).map fun g=>(⟨g,x.e.name⟩:Al))=fU ((gs.take m).map fun g=>(⟨g,x.e.name⟩:Al)) ++ [.string gs[m],.string x.e.name]):=by
    show _=_;rw [Sk TF,List.map_append,List.map_singleton,yO]; rfl
   clear hrg;go_wp2_with (at_builtin; refine wpList_append_own_at _ rfl _ _ 278 rfl w.heap.size 172 i0 _ 2 32 underlying278 hi hz0 hz1 hz2 rfl (by decide) _ _ _ rfl (HO.out.alloc _) ⟨wr.heap.size,0,none⟩ 1 1 [.string gs[m],.string x.e.name] rfl rfl (World.news_of_block (cs:=#[.string gs[m],.string x.e.name]) (t:=172) (fr:=(0,0)) (heap_alloc_new wr _)) (by simp [Value.oneCell']) (by unfold maxLen; omega) (by omega) (by simp; omega) ?_);intro v' w3 hown3 hgrow _ hloc;have HB3:Hid (aa w w3):=(HB.out.alloc HB.out.size _).grown hgrow (by simp; omega) (fun i hi=>(HO.out.lt i hi).1);have TD:Hid (w3.ownsRow w.heap.size 172 2 v' (m + 1) (fU ((gs.take (m + 1)).map fun g=>(⟨g,x.e.name⟩:Al)))):=by
    show World.ownsRow _ _ _ _ _ _ _;rw [HFX.out]; simpa [List.map_take] using hown3
   have HA3:Hid (Aside w1 (.slice none 0 0) w3 v'):=HA.out.trans ((Aside.below ((Si _ _).alloc (Sj _) _)).trans (Aside.app hgrow (by simpa using hloc)));clear hown3 hgrow hloc HO HA;go_wp2;go_roundw;case rel=>exact ⟨m + 1,by omega,by go_num,TD,HB3,HA3⟩
   simp [intOf] <;> omega
  obtain rfl:m=gs.length:=by omega
  have hown:=HO.out;rw [Su] at hown;have e:gs.length=(gs.map fun g=>(⟨g,x.e.name⟩:Al)).length:=by simp
  rw [e] at hown;obtain ⟨Ti,cp,rfl,hS',hN'⟩:=MW hown;have HS2:Hid (gP wr Ti (gs.map fun g=>(⟨g,x.e.name⟩:Al))):=hS';have UZ:Hid (∀ p,Ti=some p→w.heap.size≤p.block):=hN';obtain ⟨ln,hln⟩:∃ ln,ln=(gs.map fun g=>(⟨g,x.e.name⟩:Al)).length:=⟨_,rfl⟩;rw [← hln];have HLN:Hid (ln=(gs.map fun g=>(⟨g,x.e.name⟩:Al)).length):=hln;clear hown HO hS' hN' e HA x3 hln;go_wp2;go_ret;exact ⟨⟨Ti,cp,by rw [UC.out,← HLN.out]; rfl,by rw [UC.out]; exact HS2.out,UZ.out⟩,HB.out⟩
 have UC:Hid (iy (ag rs) typ x.e=[]):=by show _=_; unfold iy; rw [if_neg h1,if_neg h2,if_neg h3]
 have hq3:(x.e.kind == 3)=false:=by simpa using h3
 have TH:Hid (aa w (w.alloc (.cells #[.int .i64 x.e.kind,.slice x.adA x.e.allow.length x.capA,.string x.e.over,.string x.e.name,.slice x.adK x.e.kids.length x.capK] 190))):=by rw [← hW0]; exact HB0
 clear hW0 HB0 c0 c1 c2 c3 c4 hg0;go_enter func169,ntmps169;go_wp2;go_ret;exact ⟨⟨none,0,by rw [UC.out]; rfl,by rw [UC.out]; exact .inl rfl,fun p hp=>by cases hp⟩,TH.out⟩
abbrev Ky:=ByteArray × ByteArray
def lookL (E:List (Ky × St)) (k:Ky):List St:=E.filterMap fun p=>if p.1=k then some p.2 else none
theorem lookL_append (E F:List (Ky × St)) (k:Ky):lookL (E ++ F) k=lookL E k ++ lookL F k:=by unfold lookL; rw [List.filterMap_append]
theorem qQ (E:List (Ky × St)) (k:Ky) (s:St):lookL (E ++ [(k,s)]) k=lookL E k ++ [s]:=by rw [lookL_append]; simp [lookL]
theorem oL (E:List (Ky × St)) {k y:Ky} (s:St) (h:k ≠ y):lookL (E ++ [(y,s)]) k=lookL E k:=by rw [lookL_append]; simp [lookL,Ne.symm h]
theorem mem_lookL {E:List (Ky × St)} {k:Ky} {s:St}:s ∈ lookL E k ↔ (k,s) ∈ E:=by
 unfold lookL;rw [List.mem_filterMap];constructor
 ·rintro ⟨⟨a,b⟩,h1,h2⟩;simp only at h2;split at h2
  ·rename_i e; injection h2 with h2; rw [← e,← h2]; exact h1
  cases h2
 intro h; exact ⟨(k,s),h,by simp⟩
def FreeB (M:Ky→Option Value) (g:Nat):Prop:=∀ k v,M k=some v→v.ownBlock ≠ some g
structure Grp (w:World) (bL n:Nat) (M:Ky→Option Value) (E:List (Ky × St)):Prop where
 map:aJ dE prog 172 w bL n M
 row:∀ k,(M k=none∧lookL E k=[]) ∨ ∃ v,M k=some v∧w.ownsRow (bL + 1) 277 3 v (lookL E k).length (gF (lookL E k))
 apart:∀ k k' v v',k ≠ k'→M k=some v→M k'=some v'→∀ g,v.ownBlock=some g→v'.ownBlock ≠ some g
theorem Grp.lt {w:af} {bL n:Nat} {M:Ky→Option Value} {E:List (Ky × St)} (h:Grp w bL n M E) {k:Ky} {v:Value} (hk:M k=some v) {g:Nat} (hg:v.ownBlock=some g):bL < g∧g < w.heap.size:=by
 rcases h.row k with ⟨e,-⟩ | ⟨v',e,ho⟩
 ·rw [e] at hk; cases hk
 rw [e] at hk; injection hk with hk; subst hk;have:=ho.lt g hg;exact ⟨by omega,this.2⟩
theorem Grp.fresh {w:af} {bL n:Nat} {M:Ky→Option Value} {E:List (Ky × St)} (h:Grp w bL n M E) {g:Nat} (hg:w.heap.size≤g):FreeB M g:=fun k v hk e=>by
 have:=(h.lt hk e).2; omega
theorem Grp.mono {w:af} {bL n n':Nat} {M:Ky→Option Value} {E:List (Ky × St)} (h:Grp w bL n M E) (hn:n≤n'):Grp w bL n' M E:=⟨h.map.mono hn,h.row,h.apart⟩
theorem Grp.below {w w':af} {bL n:Nat} {M:Ky→Option Value} {E:List (Ky × St)} (h:Grp w bL n M E) (hB:aa w w'):Grp w' bL n M E where
 map:=h.map.below hB
 row k:=by
  rcases h.row k with e | ⟨v,e,ho⟩
  ·exact .inl e
  exact .inr ⟨v,e,own_below ho hB⟩
 apart:=h.apart
theorem grp_made (w:af):Grp (w.alloc (.map #[] 0)) w.heap.size 0 (fun _=>none) [] where
 map:=j6 _ _ _ w
 row k:=.inl ⟨rfl,rfl⟩
 apart k k' v v' _ h:=by cases h
structure Stl (W:World) (M:Ky→Option Value) (w2:World) (M2:Ky→Option Value) (bL:Nat):Prop where
 size:W.heap.size≤w2.heap.size
 block:∀ g,g < W.heap.size→g ≠ bL→FreeB M g→w2.heap[g]?=W.heap[g]?
 free:∀ g,g < W.heap.size→FreeB M g→FreeB M2 g
theorem Stl.refl (W:af) (M:Ky→Option Value) (bL:Nat):Stl W M W M bL:=⟨Sj _,fun _ _ _ _=>rfl,fun _ _ h=>h⟩
theorem Stl.trans {W w2 w3:af} {M M2 M3:Ky→Option Value} {bL:Nat} (h:Stl W M w2 M2 bL) (h2:Stl w2 M2 w3 M3 bL):Stl W M w3 M3 bL where
 size:=Sq h.size h2.size
 block g hg hb hf:=(h2.block g (Sg hg h.size) hb (h.free g hg hf)).trans (h.block g hg hb hf)
 free g hg hf:=h2.free g (Sg hg h.size) (h.free g hg hf)
theorem Stl.below {W w2:af} {M:Ky→Option Value} {bL:Nat} (hB:aa W w2):Stl W M w2 M bL:=⟨hB.size,fun g hg _ _=>hB.block g hg,fun _ _ h=>h⟩
structure Cel (w:World) (M:Ky→Option Value) (bL g o:Nat) (u:Value):Prop where
 cell:w.cell? ⟨g,o,none⟩=some u
 lt:g < w.heap.size
 free:FreeB M g
 ne:g ≠ bL
theorem Cel.stl {w w2:af} {M M2:Ky→Option Value} {bL g o:Nat} {u:Value} (h:Cel w M bL g o u) (hS:Stl w M w2 M2 bL):Cel w2 M2 bL g o u where
 cell:=(SI (w:=w) (hS.block g h.lt h.ne h.free)).trans h.cell
 lt:=Sg h.lt hS.size
 free:=hS.free g h.lt h.free
 ne:=h.ne
theorem Grp.step {W0 w1 w2 w3:af} {bL n:Nat} {M:Ky→Option Value} {E:List (Ky × St)} {y:Ky} {v':Value} {s:St} (h:Grp W0 bL n M E) (hg1:W0.grownBy w1 (some bL)) (hown:w2.ownsRow (bL + 1) 277 3 v' ((lookL E y).length + 1) (gF (lookL E y) ++ s.cells))
  (hg2:w1.grownBy w2 ((M y).getD (.slice none 0 0)).ownBlock) (hloc:v'.ownBlock=((M y).getD (.slice none 0 0)).ownBlock ∨ v'.ownBlock=some w1.heap.size) (hg3:w2.grownBy w3 (some bL)) (hM:aJ dE prog 172 w3 bL (n + 1) (jV M y (some v'))) :
  Grp w3 bL (n + 1) (jV M y (some v')) (E ++ [(y,s)])∧Stl W0 M w3 (jV M y (some v')) bL:=by
 have hrow0:∀ k v,M k=some v→∃ xs m,W0.ownsRow (bL + 1) 277 3 v m xs:=fun k v hk=>by
  rcases h.row k with ⟨e,-⟩ | ⟨v1,e,ho⟩
  ·rw [e] at hk; cases hk
  rw [e] at hk; injection hk with hk; subst hk; exact ⟨_,_,ho⟩
 have hne2:∀ k v,k ≠ y→M k=some v→v.ownBlock=none ∨ v.ownBlock ≠ ((M y).getD (.slice none 0 0)).ownBlock:=fun k v hky hk=>by
  cases e:v.ownBlock with
  | none=>exact .inl rfl
  | some g =>
   right;cases ey:M y with
   | none=>simp [Value.ownBlock]
   | some vy=>intro e2; exact h.apart k y v vy hky hk ey g e (by simpa using e2.symm)
 have hnb:∀ v,(∃ k,M k=some v)→v.ownBlock=none ∨ v.ownBlock ≠ some bL:=fun v ⟨k,hk⟩=>by
  cases e:v.ownBlock with
  | none=>exact .inl rfl
  | some g=>right; have:=(h.lt hk e).1; intro e2; injection e2 with e2; omega
 have hnew:∀ g,v'.ownBlock=some g→bL < g:=fun g e=>by have:=(hown.lt g e).1; omega
 have hv'b:v'.ownBlock=none ∨ v'.ownBlock ≠ some bL:=by
  cases e:v'.ownBlock with
  | none=>exact .inl rfl
  | some g=>right; have:=hnew g e; intro e2; injection e2 with e2; omega
 constructor
 ·refine ⟨hM,fun k=>?_,fun k k' v u hkk hk hk' g e=>?_⟩
  ·by_cases ek:k=y
   ·subst ek;rw [dJ,qQ];refine .inr ⟨v',rfl,?_⟩;rw [yD,Sr];exact hown.kept hg3 hv'b
   rw [bQ ek,oL _ _ ek];rcases h.row k with e | ⟨v,e,ho⟩
   ·exact .inl e
   exact .inr ⟨v,e,((ho.kept hg1 (hnb v ⟨k,e⟩)).kept hg2 (hne2 k v ek e)).kept hg3 (hnb v ⟨k,e⟩)⟩
  by_cases ek:k=y
  ·subst ek;rw [dJ] at hk; injection hk with hk; subst hk;rw [bQ (Ne.symm hkk)] at hk';intro e2;rcases hloc with el | el
   ·rw [e] at el;cases ey:M k with
    | none=>rw [ey] at el; simp [Value.ownBlock] at el
    | some vy=>rw [ey] at el; exact h.apart k k' vy u hkk ey hk' g (by simpa using el.symm) e2
   rw [e] at el; injection el with el;have:=(h.lt hk' e2).2;have:=hg1.size;omega
  rw [bQ ek] at hk;by_cases ek':k'=y
  ·subst ek';rw [dJ] at hk'; injection hk' with hk'; subst hk';intro e2;rcases hloc with el | el
   ·rw [e2] at el;cases ey:M k' with
    | none=>rw [ey] at el; simp [Value.ownBlock] at el
    | some vy=>rw [ey] at el; exact h.apart k k' v vy hkk hk ey g e (by simpa using el.symm)
   rw [e2] at el; injection el with el;have:=(h.lt hk e).2;have:=hg1.size;omega
  rw [bQ ek'] at hk';exact h.apart k k' v u hkk hk hk' g e
 refine ⟨Sq hg1.size (Sq hg2.size hg3.size),fun g hg hb hf=>?_,fun g hg hf k v hk=>?_⟩
 ·have h1:=hg1.block g hg (fun e=>hb (by injection e));have h2:=hg2.block g (Sg hg hg1.size) (fun e=>by
   cases ey:M y with
   | none=>rw [ey] at e; simp [Value.ownBlock] at e
   | some vy=>rw [ey] at e; exact hf y vy ey (by simpa using e.symm))
  have h3:=hg3.block g (Sg hg (Sq hg1.size hg2.size)) (fun e=>hb (by injection e));rw [h3,h2,h1]
 by_cases ek:k=y
 ·subst ek;rw [dJ] at hk; injection hk with hk; subst hk;intro e2;rcases hloc with el | el
  ·rw [e2] at el;cases ey:M k with
   | none=>rw [ey] at el; simp [Value.ownBlock] at el
   | some vy=>rw [ey] at el; exact hf k vy ey (by simpa using el.symm)
  rw [e2] at el; injection el with el; have:=hg1.size; omega
 rw [bQ ek] at hk;exact hf k v hk
def vO (b:Bool):Int:=if b then 1 else 0
def yP (ts:List Ty) (t r:ByteArray) (ng:Bool) (e:Ex):List (Ky × St):=(iy ts t e).map fun a=>((a.t,a.s),⟨t,r,vO ng⟩)
def relE (ts:List Ty) (t r:ByteArray) (es:List Ex):Nat→List (Ky × St)
 | 0=>[]
 | i + 1=>relE ts t r es i ++ (match es[i]? with | none=>[] | some e=>yP ts t r ((ed es).getD i false) e)
def iA (ts:List Ty) (t:ByteArray) (qs:List RR):List (Ky × St):=qs.flatMap fun q=>relE ts t q.name (ai q.rows) q.rows.length
def iB (ts:List Ty) (rs:List TR):List (Ky × St):=rs.flatMap fun t=>iA ts t.name t.rows
theorem G7 (ts:List Ty) (t:dB) (qs:List RR) (j:Nat) (h:j < qs.length):iA ts t (qs.take (j + 1))=iA ts t (qs.take j) ++ relE ts t qs[j].name (ai qs[j].rows) qs[j].rows.length:=by
 unfold iA;rw [Sk h,List.flatMap_append,List.flatMap_singleton]
theorem G8 (ts:List Ty) (rs:List TR) (k:Nat) (h:k < rs.length):iB ts (rs.take (k + 1))=iB ts (rs.take k) ++ iA ts rs[k].name rs[k].rows:=by
 unfold iB;rw [Sk h,List.flatMap_append,List.flatMap_singleton]
theorem Br (ts:List Ty) (t r:dB) (rows:List ER) (i:Nat) (h:i < rows.length) (ng:Bool) (hn:ng=(ed (ai rows)).getD i false):relE ts t r (ai rows) (i + 1)=relE ts t r (ai rows) i ++ yP ts t r ng rows[i].e:=by
 have e:(ai rows)[i]?=some rows[i].e:=by simp [ai,h]
 simp only [relE,e,hn]
theorem Bt (rs:List TR) (hl:∀ r ∈ rs,∀ q ∈ r.rows,∀ e ∈ q.rows,e.e.allow.length≤6) (typ:dB) (e:Ex) (he:e.allow.length≤6):(iy (ag rs) typ e).length≤6:=by
 unfold iy;split
 ·exact Sq (Bq _) he
 split
 ·simp
 split
 ·rw [Ta];unfold fD;split
  ·refine Sq (yG _ _ _ _) ?_;unfold aH;cases h:fC (ag rs) typ e.over with
   | none=>simp [aQ]
   | some es =>
    obtain ⟨t,ht,q,hq,-,-,rfl⟩:=pg h;have h1:=hl t ht q hq;have:∀ (xs:List ER),(∀ q ∈ xs,q.e.allow.length≤6)→(aQ (ai xs)).length≤6:=by
     intro xs
     induction xs with
     | nil=>intro _; simp [ai,aQ]
     | cons x xs ih =>
      intro h;have e4:ai (x::xs)=x.e::ai xs:=rfl;rw [e4];simp only [aQ];split
      ·exact h x (by simp)
      exact ih (fun q hq=>h q (by simp [hq]))
    exact this q.rows h1
  simp
 simp
theorem G9 (rs:List TR) (hf:∀ r ∈ rs,r.fits) (typ:dB) (ht:typ.size≤maxLen) (e:Ex) (he:e.fits):∀ a ∈ iy (ag rs) typ e,a.t.size≤maxLen∧a.s.size≤maxLen:=by
 have hA:∀ (xs:List Al),(∀ a ∈ xs,a.fits)→∀ a ∈ di xs,a.t.size≤maxLen∧a.s.size≤maxLen:=by
  intro xs
  induction xs with
  | nil=>intro _ a ha; cases ha
  | cons b xs ih =>
   intro h a ha;simp only [di] at ha;split at ha
   ·exact ih (fun q hq=>h q (by simp [hq])) a ha
   rcases List.mem_cons.1 ha with rfl | ha
   ·exact h a (by simp)
   exact ih (fun q hq=>h q (by simp [hq])) a ha
 have hG:∀ (xs:List Al) (rel:ByteArray),(∀ a ∈ xs,a.fits)→∀ g ∈ gl (ag rs) rel xs,g.size≤maxLen:=by
  intro xs rel
  induction xs with
  | nil=>intro _ a ha; cases ha
  | cons b xs ih =>
   intro h a ha;simp only [gl] at ha;split at ha
   ·exact ih (fun q hq=>h q (by simp [hq])) a ha
   rcases List.mem_cons.1 ha with rfl | ha
   ·exact (h b (by simp)).1
   exact ih (fun q hq=>h q (by simp [hq])) a ha
 unfold iy;split
 ·exact hA _ he.1
 split
 ·intro a ha; simp at ha; subst ha; exact ⟨ht,he.2.2.1⟩
 split
 ·intro a ha;obtain ⟨g,hg,rfl⟩:=Sy.1 ha;refine ⟨?_,he.2.2.1⟩;unfold fD at hg;split at hg
  ·unfold fT at hg;refine hG _ _ ?_ g hg;unfold aH;cases e3:fC (ag rs) typ e.over with
   | none=>intro a ha; simp [aQ] at ha
   | some es =>
    obtain ⟨t,ht',q,hq,-,-,rfl⟩:=pg e3;have hq2:=((hf t ht').2.2 q hq).2.2;intro a ha;have:∀ (xs:List ER),(∀ q ∈ xs,q.e.fits)→∀ a ∈ aQ (ai xs),a.fits:=by
     intro xs
     induction xs with
     | nil=>intro _ a ha; simp [ai,aQ] at ha
     | cons x xs ih =>
      intro h a ha;have e4:ai (x::xs)=x.e::ai xs:=rfl;rw [e4] at ha;simp only [aQ] at ha;split at ha
      ·exact (h x (by simp)).1 a ha
      exact ih (fun q hq=>h q (by simp [hq])) a ha
    exact this q.rows hq2 a ha
  cases hg
 intro a ha; cases ha
theorem OW:(prog.info? 277).map (fun i=>(i.zero,i.size,i.bytes))=some (some (.agg #[.string ⟨#[]⟩,.string ⟨#[]⟩,.int .i64 0]),3,40):=by kernel_rfl
theorem Ha (u:af):(zeroValue 275).run prog u=.ok (.slice none 0 0) u:=by kernel_rfl
theorem sF {w:af} {bL n:Nat} {M:Ky→Option Value} {E:List (Ky × St)} (h:Grp w bL n M E) (y:Ky):w.ownsRow (bL + 1) 277 3 ((M y).getD (.slice none 0 0)) (lookL E y).length (gF (lookL E y)):=by
 rcases h.row y with ⟨e,e2⟩ | ⟨v,e,ho⟩
 ·rw [e,e2]; exact World.ownsRow_nil _ _ _ _
 rw [e]; exact ho
theorem M4 {w:af} {bL n:Nat} {M:Ky→Option Value} {E:List (Ky × St)} (h:Grp w bL n M E) (y:Ky):some bL ≠ ((M y).getD (.slice none 0 0)).ownBlock:=by
 cases e:M y with
 | none=>simp [Value.ownBlock]
 | some v=>intro e2; have:=(h.lt e (g:=bL) (by simpa using e2.symm)).1; omega
theorem Bu (E:List (Ky × St)) (y:Ky):(lookL E y).length≤E.length:=List.length_filterMap_le _ _
set_option maxRecDepth 100000 in
theorem zZ (ad:Option Addr) (cap:Nat) (rs:List TR) (bT nT:Nat) (T:Ky→Option Value) (w:af) (hlen:rs.length≤6) (hs:iN w ad rs) (hl:∀ r ∈ rs,r.light) (hf:∀ r ∈ rs,r.fits) (hrl:∀ r ∈ rs,r.rows.length≤6) (hel:∀ r ∈ rs,∀ q ∈ r.rows,q.rows.length≤15∧∀ e ∈ q.rows,dQ q.rows.length e.e.kids) (hal6:∀ r ∈ rs,∀ q ∈ r.rows,∀ e ∈ q.rows,e.e.allow.length≤6) (hV:aJ dE prog 172 w bT nT T) (hT:Tab rs T) :
  Calls prog 127 #[.slice ad rs.length cap,.map (some bT)] w fun e w'=>e=.returned (.map (some w.heap.size))∧(∃ n M,Grp w' w.heap.size n M (iB (ag rs) rs))∧aa w w':=by
 have HS:=ay hs;have HL:=ay hl;have Tv:=ay hf;have Xp:Hid (∀ r ∈ rs,r.rows.length≤6):=hrl;have UX:Hid (∀ r ∈ rs,∀ q ∈ r.rows,q.rows.length≤15∧∀ e ∈ q.rows,dQ q.rows.length e.e.kids):=hel;have HV:Hid (aJ dE prog 172 w bT nT T):=hV;have HT:=ay hT;have Xc:Hid (∀ r ∈ rs,∀ q ∈ r.rows,∀ e ∈ q.rows,e.e.allow.length≤6):=hal6;clear hs hl hf hrl hel hV hT hal6;obtain ⟨i0,hi,hz0,hz1,hz2⟩:=info_parts OW;have HG0:Hid (Grp (w.alloc (.map #[] 0)) w.heap.size 0 (fun _=>none) []):=grp_made w;have HB0:Hid (aa w (w.alloc (.map #[] 0))):=(Si _ _).alloc (Sj _) _;have hmm:=@run_makeMap prog;go_enter func127,ntmps127;go_wp2_with fail;go_loopw [19] (fun i wr=>∃ k:Nat,k≤rs.length∧i=.int .i64 k∧Hid (∃ n M,Grp wr w.heap.size n M (iB (ag rs) (rs.take k))∧n≤k * 540∧(iB (ag rs) (rs.take k)).length≤k * 540)∧Hid (aa w wr)) (fun i _=>rs.length - (intOf i).toNat);case atStart=>exact ⟨0,Sm _,rfl,⟨0,_,HG0.out,by omega,by simp [iB]⟩,HB0⟩
 clear HG0 HB0 hmm;obtain ⟨k,hk,rfl,HG,HB⟩:=hrel;by_cases hlt:k < rs.length
 ·rcases HS.out.below HB.out with rfl | ⟨b,off,rfl,hb,hr,-⟩
  ·simp at hlt
  obtain ⟨t0,t1⟩:=hr k hlt;have hk1:=bH k;have hk2:(k:Int) < (rs.length:Int):=by omega
  have h6:rs[k].rows.length≤6:=Xp.out _ (Sd hlt);have z0:rs[k].name.size≤maxLen:=(Tv.out _ (Sd hlt)).1;have TP:Hid (∀ q ∈ rs[k].rows,q.fits):=(Tv.out _ (Sd hlt)).2.2;have HLR:Hid (∀ q ∈ rs[k].rows,q.light):=(HL.out _ (Sd hlt)).2;have HER:Hid (∀ q ∈ rs[k].rows,q.rows.length≤15∧∀ e ∈ q.rows,dQ q.rows.length e.e.kids):=UX.out _ (Sd hlt);obtain ⟨n1,M1,hG1,hn1,hE1⟩:=HG.out;obtain ⟨E1,hE1d⟩:∃ E1,E1=iB (ag rs) (rs.take k):=⟨_,rfl⟩;rw [← hE1d] at hG1 hE1;have HE1D:Hid (E1=iB (ag rs) (rs.take k)):=hE1d;obtain ⟨W1,hW1⟩:∃ W1,W1=wr.alloc (.cells #[.string rs[k].name,.slice rs[k].ad rs[k].rows.length rs[k].cap] 78):=⟨_,rfl⟩;have hal:aa wr W1:=by rw [hW1]; exact (Si _ _).alloc (Sj _) _
  have hbn:w.heap.size < wr.heap.size:=hG1.map.lt;have ZG:Hid (Cel W1 M1 w.heap.size wr.heap.size 0 (.string rs[k].name)):=⟨by rw [hW1]; simp,by rw [hW1]; simp,hG1.fresh (Sj _),by omega⟩;have HG1:=ay (hG1.below hal);have HB1:=jb HB hal;clear hr hal hG1 HG hE1d;go_wp2_with fail;rw [← hW1];clear hW1 t0 t1 HB;obtain ⟨g7,Zi⟩:∃ g7,g7=wr.heap.size:=⟨_,rfl⟩;rw [← Zi] at ZG hbn ⊢;clear Zi;go_loopw [26] (fun i w2=>∃ j:Nat,j≤rs[k].rows.length∧i=.int .i64 j∧Hid (∃ n M,Grp w2 w.heap.size n M (E1 ++ iA (ag rs) rs[k].name (rs[k].rows.take j))∧n≤k * 540 + j * 90∧(E1 ++ iA (ag rs) rs[k].name (rs[k].rows.take j)).length≤k * 540 + j * 90∧Cel w2 M w.heap.size g7 0 (.string rs[k].name))∧Hid (aa w w2)) (fun i _=>rs[k].rows.length - (intOf i).toNat);case atStart=>exact ⟨0,Sm _,rfl,⟨n1,M1,by simpa [iA] using HG1.out,by omega,by have e:iA (ag rs) rs[k].name (rs[k].rows.take 0)=[]:=rfl; rw [e,List.append_nil]; omega,ZG.out⟩,HB1⟩
  clear HG1 HB1 ZG;obtain ⟨j,hj,rfl,HG,HB⟩:=hrel;by_cases hjl:j < rs[k].rows.length
  ·rcases HS.out.below HB.out with hnil | ⟨b',off',he,hb2,hr,hok⟩
   ·rw [hnil] at hlt; simp at hlt
   injection he with he; injection he with he1 he2; subst he1; subst he2;have ok:=hok rs[k] (Sd hlt);rcases ok with hnil | ⟨b2,TY,had,hbb,hr2,-⟩
   ·rw [hnil] at hjl; simp at hjl
   obtain ⟨q0,q1⟩:=hr2 j hjl;have z1:rs[k].rows[j].name.size≤maxLen:=(TP.out _ (Sd hjl)).1;have U5:Hid (∀ q ∈ rs[k].rows[j].rows,q.e.fits):=(TP.out _ (Sd hjl)).2.2;have Uk:Hid (∀ q ∈ rs[k].rows[j].rows,q.e.light):=(HLR.out _ (Sd hjl)).2;have h15:rs[k].rows[j].rows.length≤15:=(HER.out _ (Sd hjl)).1;have HKR:Hid (∀ e ∈ rs[k].rows[j].rows,dQ rs[k].rows[j].rows.length e.e.kids):=(HER.out _ (Sd hjl)).2;have Vf:Hid (fQ w rs[k].rows[j].ad rs[k].rows[j].rows):=vv.mem (HS.out.mem (Sd hlt)) (Sd hjl);have hj1:=bH j;have hj2:(j:Int) < (rs[k].rows.length:Int):=by omega
   obtain ⟨n2,M2,hG2,hn2,hE2,Yh⟩:=HG.out;obtain ⟨E2,hE2d⟩:∃ E2,E2=E1 ++ iA (ag rs) rs[k].name (rs[k].rows.take j):=⟨_,rfl⟩;rw [← hE2d] at hG2 hE2;have HE2D:Hid (E2=E1 ++ iA (ag rs) rs[k].name (rs[k].rows.take j)):=hE2d;obtain ⟨W2,hW2⟩:∃ W2,W2=wr.alloc (.cells #[.string rs[k].rows[j].name,.slice rs[k].rows[j].ad rs[k].rows[j].rows.length rs[k].rows[j].cap] 122):=⟨_,rfl⟩;have hal:aa wr W2:=by rw [hW2]; exact (Si _ _).alloc (Sj _) _
   have hbn2:w.heap.size < wr.heap.size:=hG2.map.lt;have Yi:Cel W2 M2 w.heap.size wr.heap.size 0 (.string rs[k].rows[j].name):=⟨by rw [hW2]; simp,by rw [hW2]; simp,hG2.fresh (Sj _),by omega⟩;have hC9b:Cel W2 M2 w.heap.size wr.heap.size 1 (.slice rs[k].rows[j].ad rs[k].rows[j].rows.length rs[k].rows[j].cap):=⟨by rw [hW2]; simp,by rw [hW2]; simp,hG2.fresh (Sj _),by omega⟩;have ZG:Hid (Cel W2 M2 w.heap.size g7 0 (.string rs[k].name)):=Yh.stl (Stl.below hal);have HC9:Hid (Cel W2 M2 w.heap.size wr.heap.size 0 (.string rs[k].rows[j].name)):=Yi;have HC9b:=ay hC9b;have HG2:=ay (hG2.below hal);have HB2:=jb HB hal;rw [had];clear hr hok hr2 hG2 Yh Yi hC9b hal HG HB hE2d;go_wp2_with fail;rw [← hW2];clear hW2 q0 q1;refine (zV rs[k].rows[j].ad rs[k].rows[j].cap rs[k].rows[j].rows _ (by omega) (Vf.out.below HB2.out) Uk.out HKR.out).mono ?_;rintro e w3 ⟨rfl,XT⟩;obtain ⟨g9,hg9⟩:∃ g9,g9=wr.heap.size:=⟨_,rfl⟩;rw [← hg9] at HC9 HC9b hbn2 ⊢;have HB3:Hid (aa w w3):=HB2.out.trans (XT.below.mono HB2.out.size);have V9:=ay (HG2.out.below XT.below);have Uo:Hid (Cel w3 M2 w.heap.size g7 0 (.string rs[k].name)∧Cel w3 M2 w.heap.size g9 0 (.string rs[k].rows[j].name)∧∀ (i:Nat) (h:i < rs[k].rows[j].rows.length),Cel w3 M2 w.heap.size W2.heap.size i (.bool ((ed (ai rs[k].rows[j].rows)).getD i false))):=by
    refine ⟨ZG.out.stl (Stl.below XT.below),HC9.out.stl (Stl.below XT.below),fun i hi=>⟨?_,XT.lt,HG2.out.fresh (Sj _),?_⟩⟩
    ·have hn:i < (ed (ai rs[k].rows[j].rows)).length:=by rw [Ei,aS]; exact hi
     rw [XT.done i (by simpa [bools] using hn)];simp [bools,hn]
    have:=HG2.out.map.lt; omega
   have c9:=(HC9b.out.stl (Stl.below (bL:=w.heap.size) (M:=M2) XT.below)).cell;obtain ⟨gA,hgA⟩:∃ gA,gA=W2.heap.size:=⟨_,rfl⟩;rw [← hgA] at Uo ⊢;clear XT ZG HC9 HC9b HG2 HB2 hg9 hgA;go_wp2_with fail;clear c9;go_loopw [36] (fun i w4=>∃ m:Nat,m≤rs[k].rows[j].rows.length∧i=.int .i64 m∧Hid (∃ n M,Grp w4 w.heap.size n M (E2 ++ relE (ag rs) rs[k].name rs[k].rows[j].name (ai rs[k].rows[j].rows) m)∧n≤k * 540 + j * 90 + m * 6∧(E2 ++ relE (ag rs) rs[k].name rs[k].rows[j].name (ai rs[k].rows[j].rows) m).length≤k * 540 + j * 90 + m * 6∧(Cel w4 M w.heap.size g7 0 (.string rs[k].name)∧Cel w4 M w.heap.size g9 0 (.string rs[k].rows[j].name)∧∀ (i:Nat) (h:i < rs[k].rows[j].rows.length),Cel w4 M w.heap.size gA i (.bool ((ed (ai rs[k].rows[j].rows)).getD i false))))∧Hid (aa w w4)) (fun i _=>rs[k].rows[j].rows.length - (intOf i).toNat);case atStart=>exact ⟨0,Sm _,rfl,⟨n2,M2,by simpa [relE] using V9.out,by omega,by have e:relE (ag rs) rs[k].name rs[k].rows[j].name (ai rs[k].rows[j].rows) 0=[]:=rfl; rw [e,List.append_nil]; omega,Uo.out⟩,HB3⟩
   clear V9 HB3 Uo;obtain ⟨m,hm,rfl,HG,HB⟩:=hrel;by_cases TF:m < rs[k].rows[j].rows.length
   ·rcases Vf.out.below HB.out with hnil | ⟨bE,ZB,WK,hbE,Zf,hok⟩
    ·rw [hnil] at TF; simp at TF
    obtain ⟨t0,t1,t2,t3,t4⟩:=Zf m TF;have hm1:=bH m;have hm2:(m:Int) < (rs[k].rows[j].rows.length:Int):=by omega
    have Vi:Hid (rs[k].rows[j].rows[m].e.fits):=U5.out _ (Sd TF);have HXL:Hid (rs[k].rows[j].rows[m].e.light):=Uk.out _ (Sd TF);obtain ⟨n3,M3,hG3,WL,hE3,Yh,Yi,hCA⟩:=HG.out;obtain ⟨E3,hE3d⟩:∃ E3,E3=E2 ++ relE (ag rs) rs[k].name rs[k].rows[j].name (ai rs[k].rows[j].rows) m:=⟨_,rfl⟩;rw [← hE3d] at hG3 hE3;have HE3D:Hid (E3=E2 ++ relE (ag rs) rs[k].name rs[k].rows[j].name (ai rs[k].rows[j].rows) m):=hE3d;have hbn3:w.heap.size < wr.heap.size:=hG3.map.lt;obtain ⟨ng,hng⟩:∃ ng,ng=(ed (ai rs[k].rows[j].rows)).getD m false:=⟨_,rfl⟩;have HNG:Hid (ng=(ed (ai rs[k].rows[j].rows)).getD m false):=hng;rw [WK];clear hng hE3d Zf;cases ng
    case' true =>
     obtain ⟨W3,hW3⟩:∃ W3,W3=((wr.alloc (.cells #[.int .i64 rs[k].rows[j].rows[m].e.kind,.slice rs[k].rows[j].rows[m].adA rs[k].rows[j].rows[m].e.allow.length rs[k].rows[j].rows[m].capA,.string rs[k].rows[j].rows[m].e.over,.string rs[k].rows[j].rows[m].e.name,.slice rs[k].rows[j].rows[m].adK rs[k].rows[j].rows[m].e.kids.length rs[k].rows[j].rows[m].capK] 190)).alloc (.cells #[.string rs[k].name,.string rs[k].rows[j].name,.int .i64 1] 277)):=⟨_,rfl⟩;have hal:aa wr W3:=by
      rw [hW3]
      repeat (first | exact Si _ _ | refine Below.setCell ?_ (by first | (simp; done) | (simp; omega)) _ | refine Below.alloc ?_ (by first | (simp; done) | (simp; omega)) _)
     have ZH:W3.heap.size=wr.heap.size + 2:=by rw [hW3]; simp
     have HB3:=jb HB hal;have V9:=ay (hG3.below hal);have WM:Hid (Cel W3 M3 w.heap.size (wr.heap.size + 1) 0 (.string rs[k].name)∧Cel W3 M3 w.heap.size (wr.heap.size + 1) 1 (.string rs[k].rows[j].name)∧Cel W3 M3 w.heap.size (wr.heap.size + 1) 2 (.int .i64 1)):=by
      have hfr:FreeB M3 (wr.heap.size + 1):=hG3.fresh (by omega);refine ⟨⟨?_,by omega,hfr,by omega⟩,⟨?_,by omega,hfr,by omega⟩,⟨?_,by omega,hfr,by omega⟩⟩
      all_goals (rw [hW3]; simp)
     obtain ⟨dv,hdv⟩:∃ dv:Int,dv=1:=⟨_,rfl⟩;rw [← hdv] at WM;have HDE:Hid (dv=1):=hdv;clear hdv;have Uo:Hid (Cel W3 M3 w.heap.size g7 0 (.string rs[k].name)∧Cel W3 M3 w.heap.size g9 0 (.string rs[k].rows[j].name)∧∀ (i:Nat) (h:i < rs[k].rows[j].rows.length),Cel W3 M3 w.heap.size gA i (.bool ((ed (ai rs[k].rows[j].rows)).getD i false))):=⟨Yh.stl (Stl.below hal),Yi.stl (Stl.below hal),fun i h=>(hCA i h).stl (Stl.below hal)⟩;have Zh:Hid (rs[k].rows[j].rows[m].ok W3):=(hok rs[k].rows[j].rows[m] (Sd TF)).below hal;have hc7:=Yh.cell;have hc9:=Yi.cell;have hl7:=Yh.lt;have hl9:=Yi.lt;have hcA:=(hCA m TF).cell;have hlA:=(hCA m TF).lt;rw [← HNG.out] at hcA;clear hG3 hal Yh Yi hCA hok HG;go_wp2_with fail;rw [← hW3];clear hW3 t0 t1 t2 t3 t4 hc7 hc9 hl7 hl9 hcA hlA
    case' false =>
     obtain ⟨W3,hW3⟩:∃ W3,W3=((wr.alloc (.cells #[.int .i64 rs[k].rows[j].rows[m].e.kind,.slice rs[k].rows[j].rows[m].adA rs[k].rows[j].rows[m].e.allow.length rs[k].rows[j].rows[m].capA,.string rs[k].rows[j].rows[m].e.over,.string rs[k].rows[j].rows[m].e.name,.slice rs[k].rows[j].rows[m].adK rs[k].rows[j].rows[m].e.kids.length rs[k].rows[j].rows[m].capK] 190)).alloc (.cells #[.string rs[k].name,.string rs[k].rows[j].name,.int .i64 0] 277)):=⟨_,rfl⟩;have hal:aa wr W3:=by
      rw [hW3]
      repeat (first | exact Si _ _ | refine Below.setCell ?_ (by first | (simp; done) | (simp; omega)) _ | refine Below.alloc ?_ (by first | (simp; done) | (simp; omega)) _)
     have ZH:W3.heap.size=wr.heap.size + 2:=by rw [hW3]; simp
     have HB3:=jb HB hal;have V9:=ay (hG3.below hal);have WM:Hid (Cel W3 M3 w.heap.size (wr.heap.size + 1) 0 (.string rs[k].name)∧Cel W3 M3 w.heap.size (wr.heap.size + 1) 1 (.string rs[k].rows[j].name)∧Cel W3 M3 w.heap.size (wr.heap.size + 1) 2 (.int .i64 0)):=by
      have hfr:FreeB M3 (wr.heap.size + 1):=hG3.fresh (by omega);refine ⟨⟨?_,by omega,hfr,by omega⟩,⟨?_,by omega,hfr,by omega⟩,⟨?_,by omega,hfr,by omega⟩⟩
      all_goals (rw [hW3]; simp)
     obtain ⟨dv,hdv⟩:∃ dv:Int,dv=0:=⟨_,rfl⟩;rw [← hdv] at WM;have HDE:Hid (dv=0):=hdv;clear hdv;have Uo:Hid (Cel W3 M3 w.heap.size g7 0 (.string rs[k].name)∧Cel W3 M3 w.heap.size g9 0 (.string rs[k].rows[j].name)∧∀ (i:Nat) (h:i < rs[k].rows[j].rows.length),Cel W3 M3 w.heap.size gA i (.bool ((ed (ai rs[k].rows[j].rows)).getD i false))):=⟨Yh.stl (Stl.below hal),Yi.stl (Stl.below hal),fun i h=>(hCA i h).stl (Stl.below hal)⟩;have Zh:Hid (rs[k].rows[j].rows[m].ok W3):=(hok rs[k].rows[j].rows[m] (Sd TF)).below hal;have hc7:=Yh.cell;have hc9:=Yi.cell;have hl7:=Yh.lt;have hl9:=Yi.lt;have hcA:=(hCA m TF).cell;have hlA:=(hCA m TF).lt;rw [← HNG.out] at hcA;clear hG3 hal Yh Yi hCA hok HG;go_wp2_with fail;rw [← hW3];clear hW3 t0 t1 t2 t3 t4 hc7 hc9 hl7 hl9 hcA hlA
    all_goals
     refine (EE bT nT rs (some ⟨b,off,none⟩) T rs[k].name rs[k].rows[j].rows[m] _ (HV.out.below HB3.out) HT.out (HS.out.below HB3.out) HL.out Tv.out z0 Vi.out HXL.out Zh.out).mono ?_;rintro e w5 ⟨⟨U1,cpO,rfl,hSO,hNO⟩,hb5⟩;obtain ⟨ks,hks⟩:∃ ks,ks=iy (ag rs) rs[k].name rs[k].rows[j].rows[m].e:=⟨_,rfl⟩;rw [← hks] at hSO ⊢;have HKS:Hid (ks=iy (ag rs) rs[k].name rs[k].rows[j].rows[m].e):=hks;have hkl6:ks.length≤6:=by rw [hks]; exact Bt rs Xc.out _ _ (Xc.out _ (Sd hlt) _ (Sd hjl) _ (Sd TF))
     have HKF:Hid (∀ a ∈ ks,a.t.size≤maxLen∧a.s.size≤maxLen):=by show ∀ _,_; rw [hks]; exact G9 rs Tv.out _ z0 _ Vi.out
     obtain ⟨g13,hg13⟩:∃ g13,g13=wr.heap.size + 1:=⟨_,rfl⟩;have TI:=jb HB3 hb5;have HG5:=ay (V9.out.below hb5);have hS5:Stl W3 M3 w5 M3 w.heap.size:=Stl.below hb5;have HC5:Hid (Cel w5 M3 w.heap.size g7 0 (.string rs[k].name)∧Cel w5 M3 w.heap.size g9 0 (.string rs[k].rows[j].name)∧∀ (i:Nat) (h:i < rs[k].rows[j].rows.length),Cel w5 M3 w.heap.size gA i (.bool ((ed (ai rs[k].rows[j].rows)).getD i false))):=⟨Uo.out.1.stl hS5,Uo.out.2.1.stl hS5,fun i h=>(Uo.out.2.2 i h).stl hS5⟩;have HD5:Hid (Cel w5 M3 w.heap.size g13 0 (.string rs[k].name)∧Cel w5 M3 w.heap.size g13 1 (.string rs[k].rows[j].name)∧Cel w5 M3 w.heap.size g13 2 (.int .i64 dv)):=by rw [hg13]; exact ⟨WM.out.1.stl hS5,WM.out.2.1.stl hS5,WM.out.2.2.stl hS5⟩
     have Uc:Hid (ks=[] ∨ ∃ gO TK,U1=some ⟨gO,TK,none⟩∧∀ (i:Nat) (h:i < ks.length),Cel w5 M3 w.heap.size gO (TK + i * 2) (.string ks[i].t)∧Cel w5 M3 w.heap.size gO (TK + i * 2 + 1) (.string ks[i].s)):=by
      rcases hSO with e | ⟨gO,TK,e,hgO,hcO⟩
      ·exact .inl e
      have hN:=hNO _ e;have UD:=V9.out.map.lt;have hfr:FreeB M3 gO:=V9.out.fresh hN;refine .inr ⟨gO,TK,e,fun i hi=>⟨⟨(hcO i hi).1,hgO,hfr,?_⟩,⟨(hcO i hi).2,hgO,hfr,?_⟩⟩⟩
      all_goals (simp only at hN; omega)
     rw [← hg13];clear hb5 hSO hNO hks hS5 WM Uo V9 HB3 Zh hg13;go_wp2_with fail;go_loopw [58] (fun i w6=>∃ q:Nat,q≤ks.length∧i=.int .i64 q∧Hid (∃ n M,Grp w6 w.heap.size n M (E3 ++ (ks.take q).map (fun a:Al=>(((a.t,a.s),⟨rs[k].name,rs[k].rows[j].name,dv⟩):Ky × St)))∧n≤k * 540 + j * 90 + m * 6 + q∧(E3 ++ (ks.take q).map (fun a:Al=>(((a.t,a.s),⟨rs[k].name,rs[k].rows[j].name,dv⟩):Ky × St))).length≤k * 540 + j * 90 + m * 6 + q∧(Cel w6 M w.heap.size g7 0 (.string rs[k].name)∧Cel w6 M w.heap.size g9 0 (.string rs[k].rows[j].name)∧∀ (i:Nat) (h:i < rs[k].rows[j].rows.length),Cel w6 M w.heap.size gA i (.bool ((ed (ai rs[k].rows[j].rows)).getD i false)))∧(Cel w6 M w.heap.size g13 0 (.string rs[k].name)∧Cel w6 M w.heap.size g13 1 (.string rs[k].rows[j].name)∧Cel w6 M w.heap.size g13 2 (.int .i64 dv))∧(ks=[] ∨ ∃ gO TK,U1=some ⟨gO,TK,none⟩∧∀ (i:Nat) (h:i < ks.length),Cel w6 M w.heap.size gO (TK + i * 2) (.string ks[i].t)∧Cel w6 M w.heap.size gO (TK + i * 2 + 1) (.string ks[i].s)))∧Hid (aa w w6)) (fun i _=>ks.length - (intOf i).toNat);case atStart=>exact ⟨0,Sm _,rfl,⟨n3,M3,by simpa using HG5.out,by omega,by simpa using hE3,HC5.out,HD5.out,Uc.out⟩,TI⟩
     clear HG5 TI HC5 HD5 Uc HB;obtain ⟨q,hq,rfl,HG,HB⟩:=hrel;by_cases XU:q < ks.length
     ·obtain ⟨n6,M6,hG6,hn6,hE6,hC6,hD6,hO6⟩:=HG.out;rcases hO6 with hnil | ⟨gO,TK,Wm,hcO⟩
      ·rw [hnil] at XU; simp at XU
      have x0:=(hcO q XU).1.cell;have x1:=(hcO q XU).2.cell;have y0:=hD6.1.cell;have y1:=hD6.2.1.cell;have y2:=hD6.2.2.cell;have yl:=hD6.1.lt;have hq1:=bH q;have hq2:(q:Int) < (ks.length:Int):=by omega
      obtain ⟨E6,hE6d⟩:∃ E6,E6=E3 ++ (ks.take q).map (fun a:Al=>(((a.t,a.s),⟨rs[k].name,rs[k].rows[j].name,dv⟩):Ky × St)):=⟨_,rfl⟩;rw [← hE6d] at hG6 hE6;have HE6D:Hid (E6=E3 ++ (ks.take q).map (fun a:Al=>(((a.t,a.s),⟨rs[k].name,rs[k].rows[j].name,dv⟩):Ky × St))):=hE6d;obtain ⟨W6,VV⟩:∃ W6,W6=((wr.alloc (.cells #[.string ks[q].t,.string ks[q].s] 172)).alloc (.cells #[.string rs[k].name,.string rs[k].rows[j].name,.int .i64 dv] 277)):=⟨_,rfl⟩;have hal:aa wr W6:=by
       rw [VV]
       repeat (first | exact Si _ _ | refine Below.alloc ?_ (by first | (simp; done) | (simp; omega)) _)
      have hsz6:W6.heap.size=wr.heap.size + 2:=by rw [VV]; simp
      have TZ:=jb HB hal;have HG6:=ay (hG6.below hal);have WJ:Hid (W6.heap[wr.heap.size + 1]?=some (.cells #[.string rs[k].name,.string rs[k].rows[j].name,.int .i64 dv] 277)):=by show _=_; rw [VV]; exact uu wr _ _
      have hbn6:w.heap.size < wr.heap.size:=hG6.map.lt;have HS6:Hid (Stl wr M6 W6 M6 w.heap.size):=Stl.below hal;have HCK:Hid ((Cel wr M6 w.heap.size g7 0 (.string rs[k].name)∧Cel wr M6 w.heap.size g9 0 (.string rs[k].rows[j].name)∧∀ (i:Nat) (h:i < rs[k].rows[j].rows.length),Cel wr M6 w.heap.size gA i (.bool ((ed (ai rs[k].rows[j].rows)).getD i false)))∧(Cel wr M6 w.heap.size g13 0 (.string rs[k].name)∧Cel wr M6 w.heap.size g13 1 (.string rs[k].rows[j].name)∧Cel wr M6 w.heap.size g13 2 (.int .i64 dv))∧(ks=[] ∨ ∃ gO TK,U1=some ⟨gO,TK,none⟩∧∀ (i:Nat) (h:i < ks.length),Cel wr M6 w.heap.size gO (TK + i * 2) (.string ks[i].t)∧Cel wr M6 w.heap.size gO (TK + i * 2 + 1) (.string ks[i].s))):=⟨hC6,hD6,.inr ⟨gO,TK,Wm,hcO⟩⟩;have hzz:=HKF.out _ (Sd XU);obtain ⟨kl,hkl⟩:=jB (ks[q].t,ks[q].s) hzz.1 hzz.2;have UY:Hid (keyOf prog 172 (dE (ks[q].t,ks[q].s))=some kl):=hkl;have hLL:=Bu E6 (ks[q].t,ks[q].s);have hn6b:n6 < 100000:=by omega
      have hLb:(lookL E6 (ks[q].t,ks[q].s)).length < 100000:=by omega
      have Wy:Hid (W6.heap.size=wr.heap.size + 2):=hsz6;rw [Wm];clear hal hG6 hC6 hD6 hcO hkl HG hE6d hzz hLL hsz6
      go_wp2_with (first
       | (at_builtin; refine wpList_append_own_at _ rfl _ _ 275 rfl (w.heap.size + 1) 277 i0 _ 3 40 underlying275 hi hz0 hz1 hz2 rfl (by decide) _ _ _ rfl ((sF HG6.out (ks[q].t,ks[q].s)).kept Zi (.inr (Ne.symm (M4 HG6.out (ks[q].t,ks[q].s))))) ⟨wr.heap.size + 1,0,none⟩ 1 1 [.string rs[k].name,.string rs[k].rows[j].name,.int .i64 dv] rfl rfl (World.news_of_block (cs:=#[.string rs[k].name,.string rs[k].rows[j].name,.int .i64 dv]) (t:=277) (fr:=(0,0)) ((Zi.block (wr.heap.size + 1) (by rw [Wy.out]; omega) (by simp; omega)).trans WJ.out)) (by simp [Value.oneCell']) (by unfold maxLen; omega) (by omega) (by have h1:=Zi.size; rw [Wy.out] at h1; omega) ?_; intro v' w8 hown8 VD hnil8 hloc8)
       | (rw [← VV]; refine zR _ rfl _ _ 229 rfl 172 275 IY rG underlying229 Ha w.heap.size n6 M6 rfl HG6.out.map (by unfold maxLen; omega) (ks[q].t,ks[q].s) kl rfl UY.out ?_; intro st7 w7 Zi hback; clear VV x0 x1 y0 y1 y2)
       | (refine qP _ rfl _ _ _ 229 rfl w.heap.size st7 rfl rfl v' rfl 172 (n6 + 1) (jV M6 (ks[q].t,ks[q].s) (some v')) (hback w8 v' (VD.block w.heap.size (by have h1:=Zi.size; rw [Wy.out] at h1; omega) (M4 HG6.out (ks[q].t,ks[q].s)))) ?_; intro w9 hM9 hg9))
      have hst:=HG6.out.step (s:=(⟨rs[k].name,rs[k].rows[j].name,dv⟩:St)) Zi hown8 VD hloc8 hg9 hM9;have Xf:Hid (aa w w9):=by
       have hs1:=TZ.out.size;have b7:aa w w7:=TZ.out.grown Zi hs1 (fun i hi=>by injection hi with hi; omega);have b8:aa w w8:=b7.grown VD b7.size (fun i hi=>by have:=((sF HG6.out (ks[q].t,ks[q].s)).lt i hi).1; omega);exact b8.grown hg9 b8.size (fun i hi=>by injection hi with hi; omega)
      have Zj:Hid (∃ n M,Grp w9 w.heap.size n M (E3 ++ (ks.take (q + 1)).map (fun a:Al=>(((a.t,a.s),⟨rs[k].name,rs[k].rows[j].name,dv⟩):Ky × St)))∧n≤k * 540 + j * 90 + m * 6 + (q + 1)∧(E3 ++ (ks.take (q + 1)).map (fun a:Al=>(((a.t,a.s),⟨rs[k].name,rs[k].rows[j].name,dv⟩):Ky × St))).length≤k * 540 + j * 90 + m * 6 + (q + 1)∧(Cel w9 M w.heap.size g7 0 (.string rs[k].name)∧Cel w9 M w.heap.size g9 0 (.string rs[k].rows[j].name)∧∀ (i:Nat) (h:i < rs[k].rows[j].rows.length),Cel w9 M w.heap.size gA i (.bool ((ed (ai rs[k].rows[j].rows)).getD i false)))∧(Cel w9 M w.heap.size g13 0 (.string rs[k].name)∧Cel w9 M w.heap.size g13 1 (.string rs[k].rows[j].name)∧Cel w9 M w.heap.size g13 2 (.int .i64 dv))∧(ks=[] ∨ ∃ gO TK,U1=some ⟨gO,TK,none⟩∧∀ (i:Nat) (h:i < ks.length),Cel w9 M w.heap.size gO (TK + i * 2) (.string ks[i].t)∧Cel w9 M w.heap.size gO (TK + i * 2 + 1) (.string ks[i].s))):=by
       have hS9:=HS6.out.trans hst.2;have e:E3 ++ (ks.take (q + 1)).map (fun a:Al=>(((a.t,a.s),⟨rs[k].name,rs[k].rows[j].name,dv⟩):Ky × St))=E6 ++ [((ks[q].t,ks[q].s),(⟨rs[k].name,rs[k].rows[j].name,dv⟩:St))]:=by
        rw [Sk XU,List.map_append,← List.append_assoc,← HE6D.out]; rfl
       obtain ⟨k1,k2,k3⟩:=HCK.out;refine ⟨n6 + 1,_,by rw [e]; exact hst.1,by omega,by rw [e,Sr]; simp; omega,⟨k1.1.stl hS9,k1.2.1.stl hS9,fun i h=>(k1.2.2 i h).stl hS9⟩,⟨k2.1.stl hS9,k2.2.1.stl hS9,k2.2.2.stl hS9⟩,?_⟩;rcases k3 with hnil | ⟨gO',offO',e1,hc⟩
       ·exact .inl hnil
       exact .inr ⟨gO',offO',e1,fun i h=>⟨(hc i h).1.stl hS9,(hc i h).2.stl hS9⟩⟩
      clear hst Zi hback hown8 VD hnil8 hloc8 hg9 hM9;go_wp2;go_roundw;case rel=>exact ⟨q + 1,by omega,by go_num,(by rw [Wm] at Zj; exact Zj),Xf⟩
      simp [intOf] <;> omega
     obtain rfl:q=ks.length:=by omega
     have Zj:Hid (∃ n M,Grp wr w.heap.size n M (E2 ++ relE (ag rs) rs[k].name rs[k].rows[j].name (ai rs[k].rows[j].rows) (m + 1))∧n≤k * 540 + j * 90 + (m + 1) * 6∧(E2 ++ relE (ag rs) rs[k].name rs[k].rows[j].name (ai rs[k].rows[j].rows) (m + 1)).length≤k * 540 + j * 90 + (m + 1) * 6∧(Cel wr M w.heap.size g7 0 (.string rs[k].name)∧Cel wr M w.heap.size g9 0 (.string rs[k].rows[j].name)∧∀ (i:Nat) (h:i < rs[k].rows[j].rows.length),Cel wr M w.heap.size gA i (.bool ((ed (ai rs[k].rows[j].rows)).getD i false)))):=by
      obtain ⟨n,M,h1,hn,h2,h3,-,-⟩:=HG.out;rw [Su] at h1 h2;have e:E2 ++ relE (ag rs) rs[k].name rs[k].rows[j].name (ai rs[k].rows[j].rows) (m + 1)=E3 ++ ks.map (fun a:Al=>(((a.t,a.s),⟨rs[k].name,rs[k].rows[j].name,dv⟩):Ky × St)):=by
       rw [Br _ _ _ _ _ TF _ HNG.out,← List.append_assoc,← HE3D.out,HKS.out,HDE.out]; rfl
      refine ⟨n,M,by rw [e]; exact h1,by omega,by rw [e]; omega,h3⟩
     clear HG;go_wp2;go_roundw;case rel=>exact ⟨m + 1,by omega,by go_num,Zj,HB⟩
     simp [intOf] <;> omega
   obtain rfl:m=rs[k].rows[j].rows.length:=by omega
   have Zj:Hid (∃ n M,Grp wr w.heap.size n M (E1 ++ iA (ag rs) rs[k].name (rs[k].rows.take (j + 1)))∧n≤k * 540 + (j + 1) * 90∧(E1 ++ iA (ag rs) rs[k].name (rs[k].rows.take (j + 1))).length≤k * 540 + (j + 1) * 90∧Cel wr M w.heap.size g7 0 (.string rs[k].name)):=by
    obtain ⟨n,M,h1,hn,h2,h3⟩:=HG.out;have e:E1 ++ iA (ag rs) rs[k].name (rs[k].rows.take (j + 1))=E2 ++ relE (ag rs) rs[k].name rs[k].rows[j].name (ai rs[k].rows[j].rows) rs[k].rows[j].rows.length:=by
     rw [G7 _ _ _ _ hjl,← List.append_assoc,← HE2D.out]
    refine ⟨n,M,?_,by omega,?_,h3.1⟩
    ·rw [e]; exact h1
    rw [e]; omega
   go_wp2;go_roundw;case rel=>exact ⟨j + 1,by omega,by go_num,Zj,HB⟩
   simp [intOf] <;> omega
  obtain rfl:j=rs[k].rows.length:=by omega
  have Zj:Hid (∃ n M,Grp wr w.heap.size n M (iB (ag rs) (rs.take (k + 1)))∧n≤(k + 1) * 540∧(iB (ag rs) (rs.take (k + 1))).length≤(k + 1) * 540):=by
   obtain ⟨n,M,h1,hn,h2,h3⟩:=HG.out;rw [Su] at h1 h2;have e:iB (ag rs) (rs.take (k + 1))=E1 ++ iA (ag rs) rs[k].name rs[k].rows:=by rw [G8 _ _ _ hlt,← HE1D.out]
   refine ⟨n,M,?_,by omega,?_⟩
   ·rw [e]; exact h1
   rw [e]; omega
  go_wp2;go_roundw;case rel=>exact ⟨k + 1,by omega,by go_num,Zj,HB⟩
  simp [intOf] <;> omega
 obtain rfl:k=rs.length:=by omega
 have Zj:Hid (∃ n M,Grp wr w.heap.size n M (iB (ag rs) rs)):=by
  obtain ⟨n,M,h1,-⟩:=HG.out;rw [Su] at h1;exact ⟨n,M,h1⟩
 go_wp2;go_ret;exact ⟨rfl,Zj.out,HB.out⟩
end Go.Proofs.YtdmniljjnaebbaaGreatDoor
