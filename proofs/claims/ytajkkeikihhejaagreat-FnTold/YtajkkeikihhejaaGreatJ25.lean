/- Contract of the program's function on what a node leans on. -/
import Derived.Test.YtajkkeikihhejaaGreatSq
import Derived.Test.YtajkkeikihhejaaGreatJ24
open Go.Proofs.Tryz
set_option maxHeartbeats 80000000
namespace Go.Proofs.YtajkkeikihhejaaGreat
open Go.ChangeShapes Go.WideShapes Go.ChangeAt Go.RowKit Go.Maps
open Pl
def Al.cells (a:Al):List Value:=[.string a.t,.string a.s]
def iq:List Al→List Value
 | []=>[]
 | a::xs=>a.cells ++ iq xs
theorem EE (xs ys:List Al):iq (xs ++ ys)=iq xs ++ iq ys:=by
 induction xs with
 | nil=>rfl
 | cons d ds ih=>simp [iq,ih]
theorem Az (xs:List Al) (d:Al):iq (xs ++ [d])=iq xs ++ d.cells:=by rw [EE]; simp [iq]
theorem De (xs:List Al) (i:Nat) (h:i < xs.length) (o:Nat) (ho:o < 2):(iq xs)[i * 2 + o]?=(xs[i].cells)[o]?:=by
 induction xs generalizing i with
 | nil=>simp at h
 | cons s xs ih =>
  cases i with
  | zero =>
   simp only [iq,Nat.zero_mul,Um,List.getElem_cons_zero];rw [List.getElem?_append_left (by simp [Al.cells]; omega)]
  | succ i =>
   simp only [iq,List.getElem_cons_succ];rw [List.getElem?_append_right (by simp [Al.cells]; omega)];have e:(i + 1) * 2 + o - s.cells.length=i * 2 + o:=by simp [Al.cells]; omega
   rw [e];exact ih i (by simpa using h)
theorem OO {w:af} {base:Nat} {v:Value} {xs:List Al} (h:w.ownsRow base 94 2 v xs.length (iq xs)):∃ ad cp,v=.slice ad xs.length cp∧jM w ad xs∧∀ p,ad=some p→base≤p.block:=by
 have h2:=h;rcases h.2 with ⟨rfl,h0⟩ | ⟨g,cp,cur,rfl,hbg,hg,hnc,-⟩
 ·exact ⟨none,0,by rw [h0],.inl (Ui.1 h0),fun p hp=>by cases hp⟩
 have hlt:=h2.lt g rfl;refine ⟨_,cp,rfl,.inr ⟨g,0,rfl,hlt.2,fun i hi=>?_⟩,fun p hp=>by injection hp with hp; rw [← hp]; exact hlt.1⟩;have h3:∀ (o:Nat) (u:Value),(iq xs)[i * 2 + o]?=some u→w.cell? ⟨g,0 + i * 2 + o,none⟩=some u:=fun o u hu=>by
  have:=h2.cells (g:=g) rfl (i * 2 + o) u hu;rw [FP] at this;rw [Um]; exact this
 exact ⟨h3 0 _ (by have:=De xs i hi 0 (by omega); simpa [Al.cells] using this),h3 1 _ (by have:=De xs i hi 1 (by omega); simpa [Al.cells] using this)⟩
def dH:List Al→List Al
 | []=>[]
 | a::xs=>if a.s.toList.isEmpty then dH xs else a::dH xs
theorem uZ (xs ys:List Al):dH (xs ++ ys)=dH xs ++ dH ys:=by
 induction xs with
 | nil=>rfl
 | cons a xs ih=>simp only [List.cons_append,dH,ih]; split <;> simp
theorem OP (xs:List Al) (k:Nat) (h:k < xs.length) (he:xs[k].s.toList.isEmpty=true):dH (xs.take (k + 1))=dH (xs.take k):=by
 rw [TV h,uZ]; simp [dH] at he ⊢; simp [he]
theorem Mc (xs:List Al) (k:Nat) (h:k < xs.length) (he:xs[k].s.toList.isEmpty=false):dH (xs.take (k + 1))=dH (xs.take k) ++ [xs[k]]:=by
 rw [TV h,uZ]; simp [dH,he]
theorem Df (xs:List Al):(dH xs).length≤xs.length:=by
 induction xs with
 | nil=>simp [dH]
 | cons a xs ih=>simp only [dH]; split <;> simp <;> omega
def jg (ts:List Ty) (typ:ByteArray) (e:Ex):List Al :=
 if e.kind=1 then dH e.allow else if e.kind=2 then [⟨typ,e.name⟩] else if e.kind=3 then (gy ts typ e.over e.name).map fun g=>⟨g,e.name⟩ else []
theorem OQ:(prog.info? 94).map (fun i=>(i.zero,i.size,i.bytes))=some (some (.agg #[.string ⟨#[]⟩,.string ⟨#[]⟩]),2,32):=by kernel_rfl
theorem EF (rs:List TR) (hl:∀ r ∈ rs,r.light) (typ over rel:bH):(gy (ae rs) typ over rel).length≤1048576:=by
 unfold gy;split
 ·exact xR rs hl typ over rel
 simp
theorem wI (w:af) (o o':Obj):((w.alloc o).alloc o').heap[w.heap.size + 1]?=some o':=by
 have:=heap_alloc_new (w.alloc o) o';simpa using this
set_option maxRecDepth 100000 in
theorem Gi (b n:Nat) (rs:List TR) (ad:Option Addr) (M:ByteArray × ByteArray→Option Value) (typ:bH) (x:ER) (w:af) (hV:aM dQ prog 94 w b n M) (hT:Tab rs M) (hs:kX w ad rs) (hl:∀ r ∈ rs,r.light) (hf:∀ r ∈ rs,r.fits) (ht:typ.size≤maxLen) (YO:x.e.fits) (hxl:x.e.light) (hxo:x.ok w) :
  Calls prog 188 #[.map (some b),.string typ,x.val] w fun e w'=>(∃ (UJ:Option Addr) (cap':Nat),e=.returned (.slice UJ (jg (ae rs) typ x.e).length cap')∧jM w' UJ (jg (ae rs) typ x.e)∧∀ p,UJ=some p→w.heap.size≤p.block)∧ag w w':=by
 have HV:Hid (aM dQ prog 94 w b n M):=hV;have HT:=az hT;have HS:=az hs;have HL:=az hl;have UL:=az hf;have Xn:=az YO;have Z4:=az hxo;have lgA:x.e.allow.length≤1048576:=hxl.1;clear hV hT hs hl hf YO hxo hxl;obtain ⟨i0,hi,hz0,hz1,hz2⟩:=info_parts OQ;obtain ⟨W0,hW0⟩:∃ W0,W0=w.alloc (.cells #[.int .i64 x.e.kind,.slice x.adA x.e.allow.length x.capA,.string x.e.over,.string x.e.name,.slice x.adK x.e.kids.length x.capK] 39):=⟨_,rfl⟩;have hal:ag w W0:=by rw [hW0]; exact (TT _ _).alloc (TS _) _
 have HB0:=az hal;have hg0:w.heap.size < W0.heap.size:=by rw [hW0]; simp
 have c0:W0.cell? ⟨w.heap.size,0,none⟩=some (.int .i64 x.e.kind):=by rw [hW0]; simp
 have c1:W0.cell? ⟨w.heap.size,1,none⟩=some (.slice x.adA x.e.allow.length x.capA):=by rw [hW0]; simp
 have c2:W0.cell? ⟨w.heap.size,2,none⟩=some (.string x.e.over):=by rw [hW0]; simp
 have c3:W0.cell? ⟨w.heap.size,3,none⟩=some (.string x.e.name):=by rw [hW0]; simp
 have c4:W0.cell? ⟨w.heap.size,4,none⟩=some (.slice x.adK x.e.kids.length x.capK):=by rw [hW0]; simp
 clear hal;unfold ER.val;by_cases h1:x.e.kind=1
 ·have XT:Hid (jg (ae rs) typ x.e=dH x.e.allow):=by show _=_; unfold jg; rw [if_pos h1]
  have hq1:(x.e.kind == 1)=true:=by simpa using h1
  replace h1:Hid (x.e.kind=1):=h1;go_enter func188,ntmps188;go_wp2_with fail;rw [← hW0];clear hW0;go_loopw [7,19] (fun v i wr=>∃ k:Nat,k≤x.e.allow.length∧i=.int .i64 k∧Hid (wr.ownsRow w.heap.size 94 2 v (dH (x.e.allow.take k)).length (iq (dH (x.e.allow.take k))))∧Hid (ag w wr)) (fun _ i _=>x.e.allow.length - (intOf i).toNat);case atStart=>exact ⟨0,TW _,rfl,World.ownsRow_nil _ _ _ _,HB0⟩
  clear HB0 c0 c1 c2 c3 c4 hg0;obtain ⟨k,hk,rfl,HOW,HB⟩:=hrel;by_cases hlt:k < x.e.allow.length
  ·rcases (Z4.out.1).below HB.out with hnil | ⟨ba,Wx,had,Yq,hra⟩
   ·rw [hnil] at hlt; simp at hlt
   obtain ⟨t0,t1⟩:=hra k hlt;have hk1:=bB k;have hk2:(k:Int) < (x.e.allow.length:Int):=by omega
   obtain ⟨W1,hW1⟩:∃ W1,W1=wr.alloc (.cells #[.string x.e.allow[k].t,.string x.e.allow[k].s] 43):=⟨_,rfl⟩;have hal:ag wr W1:=by rw [hW1]; exact (TT _ _).alloc (TS _) _
   have UG:=jP HB hal;have WG:Hid (W1.ownsRow w.heap.size 94 2 u7 (dH (x.e.allow.take k)).length (iq (dH (x.e.allow.take k)))):=own_below HOW.out hal;have g0:W1.cell? ⟨wr.heap.size,0,none⟩=some (.string x.e.allow[k].t):=by rw [hW1]; simp
   have g1:W1.cell? ⟨wr.heap.size,1,none⟩=some (.string x.e.allow[k].s):=by rw [hW1]; simp
   have hgl1:wr.heap.size < W1.heap.size:=by rw [hW1]; simp
   have hgl:=Df (x.e.allow.take k);rw [Ut] at hgl;have hwsz:w.heap.size≤W1.heap.size:=UG.out.size;rw [had];clear hra hal HOW;cases he:x.e.allow[k].s.toList.isEmpty;case true=>
    have HE:Hid (dH (x.e.allow.take (k + 1))=dH (x.e.allow.take k)):=OP _ _ hlt he;have U4:Hid (ag w (wr.alloc (.cells #[.string x.e.allow[k].t,.string x.e.allow[k].s] 43))):=by rw [← hW1]; exact UG
    have HOX:Hid ((wr.alloc (.cells #[.string x.e.allow[k].t,.string x.e.allow[k].s] 43)).ownsRow w.heap.size 94 2 u7 (dH (x.e.allow.take (k + 1))).length (iq (dH (x.e.allow.take (k + 1))))):=by rw [← hW1,HE.out]; exact WG
    clear hW1 g0 g1;go_wp2;go_roundw;case rel=>exact ⟨k + 1,by omega,by go_num,HOX,U4⟩
    simp [intOf] <;> omega
   have HX:Hid (dH (x.e.allow.take (k + 1))=dH (x.e.allow.take k) ++ [x.e.allow[k]]):=Mc _ _ hlt he;have HOX:Hid ((wr.alloc (.cells #[.string x.e.allow[k].t,.string x.e.allow[k].s] 43)).ownsRow w.heap.size 94 2 u7 (dH (x.e.allow.take k)).length (iq (dH (x.e.allow.take k)))):=by rw [← hW1]; exact WG
   have U4:Hid (ag w (wr.alloc (.cells #[.string x.e.allow[k].t,.string x.e.allow[k].s] 43))):=by rw [← hW1]; exact UG
   have hws:w.heap.size≤wr.heap.size:=HB.out.size;clear hW1 WG UG g0 g1 hgl1 hwsz W1;go_wp2_with (at_builtin; refine wpList_append_own_at _ rfl _ _ 277 rfl w.heap.size 94 i0 _ 2 32 underlying277 hi hz0 hz1 hz2 rfl (by decide) _ _ _ rfl (HOX.out.alloc _) ⟨wr.heap.size + 1,0,none⟩ 1 1 [.string x.e.allow[k].t,.string x.e.allow[k].s] rfl rfl (World.news_of_block (cs:=#[.string x.e.allow[k].t,.string x.e.allow[k].s]) (t:=94) (fr:=(0,0)) (wI wr _ _)) (by simp [Value.oneCell']) (by unfold maxLen; omega) (by omega) (by simp; omega) ?_);intro v' w3 hown3 hgrow _ hloc;have HB3:Hid (ag w w3):=(U4.out.alloc U4.out.size _).grown hgrow (by simp; omega) (fun i hi=>(HOX.out.lt i hi).1);have UY:Hid (w3.ownsRow w.heap.size 94 2 v' (dH (x.e.allow.take (k + 1))).length (iq (dH (x.e.allow.take (k + 1))))):=by
    show World.ownsRow _ _ _ _ _ _ _;rw [HX.out,Az,T9];exact hown3
   clear hown3 hgrow hloc HOX U4;go_wp2;go_roundw;case rel=>exact ⟨k + 1,by omega,by go_num,UY,HB3⟩
   simp [intOf] <;> omega
  obtain rfl:k=x.e.allow.length:=by omega
  have hown:=HOW.out;rw [Ug] at hown;obtain ⟨UJ,cp,rfl,hS',hN'⟩:=OO hown;have HS2:=az hS';have V9:Hid (∀ p,UJ=some p→w.heap.size≤p.block):=hN';clear hown HOW hS' hN';go_wp2;go_ret;exact ⟨⟨UJ,cp,by rw [XT.out]; rfl,by rw [XT.out]; exact HS2.out,V9.out⟩,HB.out⟩
 have hq1:(x.e.kind == 1)=false:=by simpa using h1
 by_cases h2:x.e.kind=2
 ·have XT:Hid (jg (ae rs) typ x.e=[⟨typ,x.e.name⟩]):=by show _=_; unfold jg; rw [if_neg h1,if_pos h2]
  have hq2:(x.e.kind == 2)=true:=by simpa using h2
  replace h2:Hid (x.e.kind=2):=h2;have HOX:Hid ((w.alloc (.cells #[.int .i64 x.e.kind,.slice x.adA x.e.allow.length x.capA,.string x.e.over,.string x.e.name,.slice x.adK x.e.kids.length x.capK] 39)).ownsRow w.heap.size 94 2 (.slice none 0 0) 0 []):=World.ownsRow_nil _ _ _ _;have U4:Hid (ag w (w.alloc (.cells #[.int .i64 x.e.kind,.slice x.adA x.e.allow.length x.capA,.string x.e.over,.string x.e.name,.slice x.adK x.e.kids.length x.capK] 39))):=by rw [← hW0]; exact HB0
  clear hW0 HB0 c0 c1 c2 c3 c4 hg0 W0;go_enter func188,ntmps188;go_wp2_with (at_builtin; refine wpList_append_own_at _ rfl _ _ 277 rfl w.heap.size 94 i0 _ 2 32 underlying277 hi hz0 hz1 hz2 rfl (by decide) _ _ _ rfl (HOX.out.alloc _) ⟨w.heap.size + 1,0,none⟩ 1 1 [.string typ,.string x.e.name] rfl rfl (World.news_of_block (cs:=#[.string typ,.string x.e.name]) (t:=94) (fr:=(0,0)) (wI w _ _)) (by simp [Value.oneCell']) (by unfold maxLen; omega) (by omega) (by simp; omega) ?_);intro v' w3 hown3 hgrow _ hloc;have HB3:Hid (ag w w3):=(U4.out.alloc U4.out.size _).grown hgrow (by simp; omega) (fun i hi=>(HOX.out.lt i hi).1);have U2:w3.ownsRow w.heap.size 94 2 v' ([⟨typ,x.e.name⟩]:List Al).length (iq [⟨typ,x.e.name⟩]):=hown3;obtain ⟨UJ,cp,rfl,hS',hN'⟩:=OO U2;have HS2:=az hS';have V9:Hid (∀ p,UJ=some p→w.heap.size≤p.block):=hN';clear hown3 U2 hgrow hloc HOX U4 hS' hN';go_wp2;go_ret;exact ⟨⟨UJ,cp,by rw [XT.out]; rfl,by rw [XT.out]; exact HS2.out,V9.out⟩,HB3.out⟩
 have hq2:(x.e.kind == 2)=false:=by simpa using h2
 by_cases h3:x.e.kind=3
 ·have XT:Hid (jg (ae rs) typ x.e=(gy (ae rs) typ x.e.over x.e.name).map fun g=>(⟨g,x.e.name⟩:Al)):=by show _=_; unfold jg; rw [if_neg h1,if_neg h2,if_pos h3]
  have hq3:(x.e.kind == 3)=true:=by simpa using h3
  replace h3:Hid (x.e.kind=3):=h3;have HGL:(gy (ae rs) typ x.e.over x.e.name).length≤1048576:=EF rs HL.out _ _ _;have ZY:=az (HV.out.below HB0.out);go_enter func188,ntmps188;go_wp2_with fail;rw [← hW0];refine (xW b n rs ad M typ x _ ZY.out HT.out (HS.out.below HB0.out) HL.out UL.out ht Xn.out.2.1 Xn.out.2.2.1).mono ?_;rintro e w1 ⟨⟨adG,cpG,rfl,hSG,hNG⟩,hb1⟩;generalize gy (ae rs) typ x.e.over x.e.name=gs at *
  have HB1:=jP HB0 hb1;have HSG:=az hSG;have HNG:Hid (∀ p,adG=some p→W0.heap.size≤p.block):=hNG;have VI:Hid (w1.cell? ⟨w.heap.size,3,none⟩=some (.string x.e.name)∧w.heap.size < w1.heap.size):=⟨aG hb1 hg0 c3,TP hg0 hb1.size⟩;clear hW0 hSG hNG hb1 c0 c1 c2 c3 c4 HB0 ZY hg0 HNG;go_wp2_with fail;go_loopw [7,51] (fun v i wr=>∃ m:Nat,m≤gs.length∧i=.int .i64 m∧Hid (wr.ownsRow w.heap.size 94 2 v m (iq ((gs.take m).map fun g=>(⟨g,x.e.name⟩:Al))))∧Hid (ag w wr)∧Hid (Aside w1 (.slice none 0 0) wr v)) (fun _ i _=>gs.length - (intOf i).toNat);case atStart=>exact ⟨0,TW _,rfl,World.ownsRow_nil _ _ _ _,HB1,Aside.refl _ _⟩
  clear HB1;obtain ⟨m,hm,rfl,HO,HB,HA⟩:=hrel;have x3:=qB HA.out VI.out.2 (by simp [Value.ownBlock]) VI.out.1;by_cases U6:m < gs.length
  ·rcases HSG.out with rfl | ⟨bg,offg,rfl,hbg,hrg⟩
   ·simp at U6
   have q0:=qB HA.out hbg (by simp [Value.ownBlock]) (hrg m U6);have hm1:=bB m;have hm2:(m:Int) < (gs.length:Int):=by omega
   have hws:w.heap.size≤wr.heap.size:=HB.out.size;have HFX:Hid (iq ((gs.take (m + 1)).map fun g=>(⟨g,x.e.name⟩:Al))=iq ((gs.take m).map fun g=>(⟨g,x.e.name⟩:Al)) ++ [.string gs[m],.string x.e.name]):=by
    show _=_;rw [TV U6,List.map_append,List.map_singleton,Az]; rfl
   clear hrg;go_wp2_with (at_builtin; refine wpList_append_own_at _ rfl _ _ 277 rfl w.heap.size 94 i0 _ 2 32 underlying277 hi hz0 hz1 hz2 rfl (by decide) _ _ _ rfl (HO.out.alloc _) ⟨wr.heap.size,0,none⟩ 1 1 [.string gs[m],.string x.e.name] rfl rfl (World.news_of_block (cs:=#[.string gs[m],.string x.e.name]) (t:=94) (fr:=(0,0)) (heap_alloc_new wr _)) (by simp [Value.oneCell']) (by unfold maxLen; omega) (by omega) (by simp; omega) ?_);intro v' w3 hown3 hgrow _ hloc;have HB3:Hid (ag w w3):=(HB.out.alloc HB.out.size _).grown hgrow (by simp; omega) (fun i hi=>(HO.out.lt i hi).1);have UY:Hid (w3.ownsRow w.heap.size 94 2 v' (m + 1) (iq ((gs.take (m + 1)).map fun g=>(⟨g,x.e.name⟩:Al)))):=by
    show World.ownsRow _ _ _ _ _ _ _;rw [HFX.out]; simpa [List.map_take] using hown3
   have HA3:Hid (Aside w1 (.slice none 0 0) w3 v'):=HA.out.trans ((Aside.below ((TT _ _).alloc (TS _) _)).trans (Aside.app hgrow (by simpa using hloc)));clear hown3 hgrow hloc HO HA;go_wp2;go_roundw;case rel=>exact ⟨m + 1,by omega,by go_num,UY,HB3,HA3⟩
   simp [intOf] <;> omega
  obtain rfl:m=gs.length:=by omega
  have hown:=HO.out;rw [Ug] at hown;have e:gs.length=(gs.map fun g=>(⟨g,x.e.name⟩:Al)).length:=by simp
  rw [e] at hown;obtain ⟨UJ,cp,rfl,hS',hN'⟩:=OO hown;have HS2:Hid (jM wr UJ (gs.map fun g=>(⟨g,x.e.name⟩:Al))):=hS';have V9:Hid (∀ p,UJ=some p→w.heap.size≤p.block):=hN';obtain ⟨ln,hln⟩:∃ ln,ln=(gs.map fun g=>(⟨g,x.e.name⟩:Al)).length:=⟨_,rfl⟩;rw [← hln];have HLN:Hid (ln=(gs.map fun g=>(⟨g,x.e.name⟩:Al)).length):=hln;clear hown HO hS' hN' e HA x3 hln;go_wp2;go_ret;exact ⟨⟨UJ,cp,by rw [XT.out,← HLN.out]; rfl,by rw [XT.out]; exact HS2.out,V9.out⟩,HB.out⟩
 have XT:Hid (jg (ae rs) typ x.e=[]):=by show _=_; unfold jg; rw [if_neg h1,if_neg h2,if_neg h3]
 have hq3:(x.e.kind == 3)=false:=by simpa using h3
 have U4:Hid (ag w (w.alloc (.cells #[.int .i64 x.e.kind,.slice x.adA x.e.allow.length x.capA,.string x.e.over,.string x.e.name,.slice x.adK x.e.kids.length x.capK] 39))):=by rw [← hW0]; exact HB0
 clear hW0 HB0 c0 c1 c2 c3 c4 hg0;go_enter func188,ntmps188;go_wp2;go_ret;exact ⟨⟨none,0,by rw [XT.out]; rfl,by rw [XT.out]; exact .inl rfl,fun p hp=>by cases hp⟩,U4.out⟩
set_option maxRecDepth 100000 in
theorem BL (ad:Option Addr) (cap:Nat) (rs:List ER) (w:af) (hlen:rs.length≤1048576) (hs:iH w ad rs) (hl:∀ r ∈ rs,r.e.light) (hk:∀ r ∈ rs,dW rs.length r.e.kids) :
  Calls prog 187 #[.slice ad rs.length cap] w fun e w'=>e=.returned (.slice (some ⟨w.heap.size,0,none⟩) rs.length rs.length)∧Fil w w' w.heap.size rs.length (bools (dz (ak rs))):=by
 have HS:=az hs;have HL:=az hl;have HK:=az hk;clear hs hl hk;obtain ⟨inf,hi,hz0,hz1,hz2⟩:=info_parts zC;go_enter func187,ntmps187;go_wp2_with (at_make; refine wpList_make_full _ rfl _ _ 275 rfl w.heap.size 4 inf (.bool false) 1 underlying275 hi hz0 hz1 .i64 .i64 _ _ rs.length rfl rfl rfl rfl (by rw [hz2]; omega) (by unfold maxLen; omega) (TS _) ?_; intro w0 hown0 Vx);have HF0:Hid (Fil w w0 w.heap.size rs.length (bools (List.replicate rs.length false))):=by
  have:=Cy (v:=.bool false) hown0 Vx;show Fil _ _ _ _ _;simpa [bools] using this
 clear hown0 Vx hi hz0 hz1 hz2;go_loopw [4] (fun i wr=>∃ (m:Nat) (out:List Bool),m≤rs.length∧i=.int .i64 ((m:Int) - 1)∧out.length=rs.length∧Hid (dV (ak rs) m out=dz (ak rs))∧Hid (Fil w wr w.heap.size rs.length (bools out))) (fun i _=>(intOf i + 1).toNat);case atStart=>exact ⟨rs.length,List.replicate rs.length false,TS _,by go_num,by simp,(by show _=_; unfold dz; rw [aT]),HF0⟩
 obtain ⟨m,out,hm,rfl,hol,HN,HF⟩:=hrel;by_cases hm0:0 < m
 ·obtain ⟨m,rfl⟩:∃ m',m=m' + 1:=⟨m - 1,by omega⟩;have hmi:(((m + 1:Nat):Int) - 1)=(m:Int):=by omega
  rw [hmi];have hlt:m < rs.length:=by omega
  rcases HS.out.below HF.out.below with rfl | ⟨b,off,rfl,hb,hr,hok⟩
  ·simp at hlt
  obtain ⟨t0,t1,t2,t3,t4⟩:=hr m hlt;have VF:Hid (rs[m].ok _):=hok rs[m] (TQ hlt);have lg:=(HL.out rs[m] (TQ hlt)).2;have HKI:Hid (dW rs.length rs[m].e.kids):=HK.out rs[m] (TQ hlt);have hk1:=bB m;have hk2:(m:Int) < (rs.length:Int):=by omega
  have hbw:b < w.heap.size:=by
   rcases HS.out with h | ⟨b',off',h1,h2,-⟩
   ·rw [h] at hlt; simp at hlt
   injection h1 with h1; injection h1 with h1; omega
  have HR:Hid (yh wr b (off + m * 5) rs[m]):=hr m hlt;have HNX:Hid (dV (ak rs) m (bn m rs[m].e.kind rs[m].e.kids 0 out)=dz (ak rs)):=by
   show _=_;rw [← HN.out,zD _ _ _ (by rw [aT]; exact hlt)];simp [ak]
  clear hr hok t0 t1 t2 t3;go_wp2_with fail;clear t4;go_loopw [23] (fun i w2=>∃ (j:Nat) (UE:List Bool),j≤rs[m].e.kids.length∧i=.int .i64 j∧UE.length=rs.length∧Hid (bn m rs[m].e.kind (rs[m].e.kids.drop j) j UE=bn m rs[m].e.kind rs[m].e.kids 0 out)∧Hid (Fil w w2 w.heap.size rs.length (bools UE))) (fun i _=>rs[m].e.kids.length - (intOf i).toNat);case atStart=>exact ⟨0,out,TW _,rfl,hol,rfl,HF⟩
  obtain ⟨j,UE,hj,rfl,ho2,HJ,VK⟩:=hrel;have hE2:iH wr _ rs:=HS.out.below VK.out.below;have ht:yh wr b (off + m * 5) rs[m]:=by
   rcases hE2 with h | ⟨b',off',h1,h2,h3,-⟩
   ·exact absurd hlt (by rw [h]; simp)
   injection h1 with h1; injection h1 with h1 h1'; subst h1; subst h1'; exact h3 m hlt
  obtain ⟨t0,t1,t2,t3,t4⟩:=ht;by_cases hjl:j < rs[m].e.kids.length
  ·have hK2:p8 wr rs[m].adK rs[m].e.kids:=(hE2.mem (TQ hlt)).2;rcases hK2 with hnil | ⟨ba,Wx,U8,Yq,hra⟩
   ·rw [hnil] at hjl; simp at hjl
   rw [U8];have q0:=hra j hjl;have hj1:=bB j;have hj2:(j:Int) < (rs[m].e.kids.length:Int):=by omega
   obtain ⟨x0,x1⟩:=HKI.out _ (TQ hjl);obtain ⟨x,hx⟩:∃ x:Nat,rs[m].e.kids[j]=(x:Int):=⟨rs[m].e.kids[j].toNat,by omega⟩;rw [hx] at q0 x0 x1;have c0:=VK.out.done m (by simp [bools]; omega);have fz:=VK.out.free;obtain ⟨v0,u0⟩:=Option.isSome_iff_exists.mp (VK.out.there x (by omega));have hbr:b < wr.heap.size:=TP hbw VK.out.below.size;obtain ⟨bo,hbo⟩:∃ bo,bo=(bools UE)[m]'(by simp [bools]; omega):=⟨_,rfl⟩;rw [← hbo] at c0;clear hra U8 hE2 t1 t2 t3;have hm2:m < UE.length:=by omega
   have Zo:bo=.bool UE[m]:=by rw [hbo]; simp [bools]
   have Zp:UE[m]?.getD false=UE[m]:=by simp [hm2]
   rw [Zo] at c0;clear hbo Zo;cases hb0:UE[m];case true=>
    rw [hb0] at c0 Zp;have Wv:Hid (Fil w (wr.setCell ⟨w.heap.size,x,none⟩ (.bool true)) w.heap.size rs.length (bools (UE.set x true))):=by show Fil _ _ _ _ _; rw [nQ]; exact VK.out.set _ (by simp [bools]; omega) (by omega)
    have HJ2:Hid (bn m rs[m].e.kind (rs[m].e.kids.drop (j + 1)) (j + 1) (UE.set x true)=bn m rs[m].e.kind rs[m].e.kids 0 out):=by
     show _=_;rw [← HJ.out,jD _ _ _ _ _ hjl,hx];simp [*]
    go_wp2;go_roundw;case rel=>exact ⟨j + 1,UE.set x true,by omega,by go_num,by simp [ho2],HJ2,Wv⟩
    simp [intOf] <;> omega
   rw [hb0] at c0 Zp;cases hkb:(rs[m].e.kind == 6);case false=>
    have Wv:Hid (Fil w (wr.setCell ⟨w.heap.size,x,none⟩ (.bool false)) w.heap.size rs.length (bools (UE.set x false))):=by show Fil _ _ _ _ _; rw [nQ]; exact VK.out.set _ (by simp [bools]; omega) (by omega)
    have HJ2:Hid (bn m rs[m].e.kind (rs[m].e.kids.drop (j + 1)) (j + 1) (UE.set x false)=bn m rs[m].e.kind rs[m].e.kids 0 out):=by
     show _=_;rw [← HJ.out,jD _ _ _ _ _ hjl,hx];simp [*]
    go_wp2;go_roundw;case rel=>exact ⟨j + 1,UE.set x false,by omega,by go_num,by simp [ho2],HJ2,Wv⟩
    simp [intOf] <;> omega
   cases hjb:((j:Int) == 1);case true=>
    have hjn:(j == 1)=true:=by simp at hjb ⊢; omega
    have Wv:Hid (Fil w (wr.setCell ⟨w.heap.size,x,none⟩ (.bool true)) w.heap.size rs.length (bools (UE.set x true))):=by show Fil _ _ _ _ _; rw [nQ]; exact VK.out.set _ (by simp [bools]; omega) (by omega)
    have HJ2:Hid (bn m rs[m].e.kind (rs[m].e.kids.drop (j + 1)) (j + 1) (UE.set x true)=bn m rs[m].e.kind rs[m].e.kids 0 out):=by
     show _=_;rw [← HJ.out,jD _ _ _ _ _ hjl,hx];simp [*]
    go_wp2;go_roundw;case rel=>exact ⟨j + 1,UE.set x true,by omega,by go_num,by simp [ho2],HJ2,Wv⟩
    simp [intOf] <;> omega
   have hjn:(j == 1)=false:=by simp at hjb ⊢; omega
   have Wv:Hid (Fil w (wr.setCell ⟨w.heap.size,x,none⟩ (.bool false)) w.heap.size rs.length (bools (UE.set x false))):=by show Fil _ _ _ _ _; rw [nQ]; exact VK.out.set _ (by simp [bools]; omega) (by omega)
   have HJ2:Hid (bn m rs[m].e.kind (rs[m].e.kids.drop (j + 1)) (j + 1) (UE.set x false)=bn m rs[m].e.kind rs[m].e.kids 0 out):=by
    show _=_;rw [← HJ.out,jD _ _ _ _ _ hjl,hx];simp [*]
   go_wp2;go_roundw;case rel=>exact ⟨j + 1,UE.set x false,by omega,by go_num,by simp [ho2],HJ2,Wv⟩
   simp [intOf] <;> omega
  have XB:Hid (dV (ak rs) m UE=dz (ak rs)):=by
   show _=_;rw [← HNX.out,← HJ.out,List.drop_of_length_le (by omega)];rfl
  go_wp2;go_roundw;case rel=>exact ⟨m,UE,by omega,by go_num,ho2,XB,VK⟩
  simp [intOf] <;> omega
 obtain rfl:m=0:=by omega
 have WR:Hid (Fil w wr w.heap.size rs.length (bools (dz (ak rs)))):=by
  show Fil _ _ _ _ _;rw [← HN.out];exact HF.out
 go_wp2;go_ret;exact ⟨rfl,WR.out⟩
abbrev Ky:=ByteArray × ByteArray
def lookL (E:List (Ky × St)) (k:Ky):List St:=E.filterMap fun p=>if p.1=k then some p.2 else none
theorem lookL_append (E F:List (Ky × St)) (k:Ky):lookL (E ++ F) k=lookL E k ++ lookL F k:=by unfold lookL; rw [List.filterMap_append]
theorem tQ (E:List (Ky × St)) (k:Ky) (s:St):lookL (E ++ [(k,s)]) k=lookL E k ++ [s]:=by rw [lookL_append]; simp [lookL]
theorem qJ (E:List (Ky × St)) {k y:Ky} (s:St) (h:k ≠ y):lookL (E ++ [(y,s)]) k=lookL E k:=by rw [lookL_append]; simp [lookL,Ne.symm h]
theorem mem_lookL {E:List (Ky × St)} {k:Ky} {s:St}:s ∈ lookL E k ↔ (k,s) ∈ E:=by
 unfold lookL;rw [List.mem_filterMap];constructor
 ·rintro ⟨⟨a,b⟩,h1,h2⟩;simp only at h2;split at h2
  ·rename_i e; injection h2 with h2; rw [← e,← h2]; exact h1
  cases h2
 intro h; exact ⟨(k,s),h,by simp⟩
def FreeB (M:Ky→Option Value) (g:Nat):Prop:=∀ k v,M k=some v→v.ownBlock ≠ some g
structure Grp (w:World) (bL n:Nat) (M:Ky→Option Value) (E:List (Ky × St)):Prop where
 map:aM dQ prog 94 w bL n M
 row:∀ k,(M k=none∧lookL E k=[]) ∨ ∃ v,M k=some v∧w.ownsRow (bL + 1) 274 3 v (lookL E k).length (iG (lookL E k))
 apart:∀ k k' v v',k ≠ k'→M k=some v→M k'=some v'→∀ g,v.ownBlock=some g→v'.ownBlock ≠ some g
theorem Grp.lt {w:af} {bL n:Nat} {M:Ky→Option Value} {E:List (Ky × St)} (h:Grp w bL n M E) {k:Ky} {v:Value} (hk:M k=some v) {g:Nat} (hg:v.ownBlock=some g):bL < g∧g < w.heap.size:=by
 rcases h.row k with ⟨e,-⟩ | ⟨v',e,ho⟩
 ·rw [e] at hk; cases hk
 rw [e] at hk; injection hk with hk; subst hk;have:=ho.lt g hg;exact ⟨by omega,this.2⟩
theorem Grp.fresh {w:af} {bL n:Nat} {M:Ky→Option Value} {E:List (Ky × St)} (h:Grp w bL n M E) {g:Nat} (hg:w.heap.size≤g):FreeB M g:=fun k v hk e=>by
 have:=(h.lt hk e).2; omega
theorem Grp.mono {w:af} {bL n n':Nat} {M:Ky→Option Value} {E:List (Ky × St)} (h:Grp w bL n M E) (hn:n≤n'):Grp w bL n' M E:=⟨h.map.mono hn,h.row,h.apart⟩
theorem Grp.below {w w':af} {bL n:Nat} {M:Ky→Option Value} {E:List (Ky × St)} (h:Grp w bL n M E) (hB:ag w w'):Grp w' bL n M E where
 map:=h.map.below hB
 row k:=by
  rcases h.row k with e | ⟨v,e,ho⟩
  ·exact .inl e
  exact .inr ⟨v,e,own_below ho hB⟩
 apart:=h.apart
theorem grp_made (w:af):Grp (w.alloc (.map #[] 0)) w.heap.size 0 (fun _=>none) [] where
 map:=nM _ _ _ w
 row k:=.inl ⟨rfl,rfl⟩
 apart k k' v v' _ h:=by cases h
structure Stl (W:World) (M:Ky→Option Value) (w2:World) (M2:Ky→Option Value) (bL:Nat):Prop where
 size:W.heap.size≤w2.heap.size
 block:∀ g,g < W.heap.size→g ≠ bL→FreeB M g→w2.heap[g]?=W.heap[g]?
 free:∀ g,g < W.heap.size→FreeB M g→FreeB M2 g
theorem Stl.refl (W:af) (M:Ky→Option Value) (bL:Nat):Stl W M W M bL:=⟨TS _,fun _ _ _ _=>rfl,fun _ _ h=>h⟩
theorem Stl.trans {W w2 w3:af} {M M2 M3:Ky→Option Value} {bL:Nat} (h:Stl W M w2 M2 bL) (h2:Stl w2 M2 w3 M3 bL):Stl W M w3 M3 bL where
 size:=TZ h.size h2.size
 block g hg hb hf:=(h2.block g (TP hg h.size) hb (h.free g hg hf)).trans (h.block g hg hb hf)
 free g hg hf:=h2.free g (TP hg h.size) (h.free g hg hf)
theorem Stl.below {W w2:af} {M:Ky→Option Value} {bL:Nat} (hB:ag W w2):Stl W M w2 M bL:=⟨hB.size,fun g hg _ _=>hB.block g hg,fun _ _ h=>h⟩
structure Cel (w:World) (M:Ky→Option Value) (bL g o:Nat) (u:Value):Prop where
 cell:w.cell? ⟨g,o,none⟩=some u
 lt:g < w.heap.size
 free:FreeB M g
 ne:g ≠ bL
theorem Cel.stl {w w2:af} {M M2:Ky→Option Value} {bL g o:Nat} {u:Value} (h:Cel w M bL g o u) (hS:Stl w M w2 M2 bL):Cel w2 M2 bL g o u where
 cell:=(Ul (w:=w) (hS.block g h.lt h.ne h.free)).trans h.cell
 lt:=TP h.lt hS.size
 free:=hS.free g h.lt h.free
 ne:=h.ne
theorem Grp.step {W0 w1 w2 w3:af} {bL n:Nat} {M:Ky→Option Value} {E:List (Ky × St)} {y:Ky} {v':Value} {s:St} (h:Grp W0 bL n M E) (hg1:W0.grownBy w1 (some bL)) (hown:w2.ownsRow (bL + 1) 274 3 v' ((lookL E y).length + 1) (iG (lookL E y) ++ s.cells))
  (hg2:w1.grownBy w2 ((M y).getD (.slice none 0 0)).ownBlock) (hloc:v'.ownBlock=((M y).getD (.slice none 0 0)).ownBlock ∨ v'.ownBlock=some w1.heap.size) (hg3:w2.grownBy w3 (some bL)) (hM:aM dQ prog 94 w3 bL (n + 1) (lc M y (some v'))) :
  Grp w3 bL (n + 1) (lc M y (some v')) (E ++ [(y,s)])∧Stl W0 M w3 (lc M y (some v')) bL:=by
 have hrow0:∀ k v,M k=some v→∃ xs m,W0.ownsRow (bL + 1) 274 3 v m xs:=fun k v hk=>by
  rcases h.row k with ⟨e,-⟩ | ⟨v1,e,ho⟩
  ·rw [e] at hk; cases hk
  rw [e] at hk; injection hk with hk; subst hk; exact ⟨_,_,ho⟩
 have hne2:∀ k v,k ≠ y→M k=some v→v.ownBlock=none ∨ v.ownBlock ≠ ((M y).getD (.slice none 0 0)).ownBlock:=fun k v Zd hk=>by
  cases e:v.ownBlock with
  | none=>exact .inl rfl
  | some g =>
   right;cases ey:M y with
   | none=>simp [Value.ownBlock]
   | some vy=>intro e2; exact h.apart k y v vy Zd hk ey g e (by simpa using e2.symm)
 have hnb:∀ v,(∃ k,M k=some v)→v.ownBlock=none ∨ v.ownBlock ≠ some bL:=fun v ⟨k,hk⟩=>by
  cases e:v.ownBlock with
  | none=>exact .inl rfl
  | some g=>right; have:=(h.lt hk e).1; intro e2; injection e2 with e2; omega
 have hnew:∀ g,v'.ownBlock=some g→bL < g:=fun g e=>by have:=(hown.lt g e).1; omega
 have hv'b:v'.ownBlock=none ∨ v'.ownBlock ≠ some bL:=by
  cases e:v'.ownBlock with
  | none=>exact .inl rfl
  | some g=>right; have:=hnew g e; intro e2; injection e2 with e2; omega
 constructor
 ·refine ⟨hM,fun k=>?_,fun k k' v u hkk hk hk' g e=>?_⟩
  ·by_cases ek:k=y
   ·subst ek;rw [d9,tQ];refine .inr ⟨v',rfl,?_⟩;rw [zH,T9];exact hown.kept hg3 hv'b
   rw [cz ek,qJ _ _ ek];rcases h.row k with e | ⟨v,e,ho⟩
   ·exact .inl e
   exact .inr ⟨v,e,((ho.kept hg1 (hnb v ⟨k,e⟩)).kept hg2 (hne2 k v ek e)).kept hg3 (hnb v ⟨k,e⟩)⟩
  by_cases ek:k=y
  ·subst ek;rw [d9] at hk; injection hk with hk; subst hk;rw [cz (Ne.symm hkk)] at hk';intro e2;rcases hloc with el | el
   ·rw [e] at el;cases ey:M k with
    | none=>rw [ey] at el; simp [Value.ownBlock] at el
    | some vy=>rw [ey] at el; exact h.apart k k' vy u hkk ey hk' g (by simpa using el.symm) e2
   rw [e] at el; injection el with el;have:=(h.lt hk' e2).2;have:=hg1.size;omega
  rw [cz ek] at hk;by_cases ek':k'=y
  ·subst ek';rw [d9] at hk'; injection hk' with hk'; subst hk';intro e2;rcases hloc with el | el
   ·rw [e2] at el;cases ey:M k' with
    | none=>rw [ey] at el; simp [Value.ownBlock] at el
    | some vy=>rw [ey] at el; exact h.apart k k' v vy hkk hk ey g e (by simpa using el.symm)
   rw [e2] at el; injection el with el;have:=(h.lt hk e).2;have:=hg1.size;omega
  rw [cz ek'] at hk';exact h.apart k k' v u hkk hk hk' g e
 refine ⟨TZ hg1.size (TZ hg2.size hg3.size),fun g hg hb hf=>?_,fun g hg hf k v hk=>?_⟩
 ·have h1:=hg1.block g hg (fun e=>hb (by injection e));have h2:=hg2.block g (TP hg hg1.size) (fun e=>by
   cases ey:M y with
   | none=>rw [ey] at e; simp [Value.ownBlock] at e
   | some vy=>rw [ey] at e; exact hf y vy ey (by simpa using e.symm))
  have h3:=hg3.block g (TP hg (TZ hg1.size hg2.size)) (fun e=>hb (by injection e));rw [h3,h2,h1]
 by_cases ek:k=y
 ·subst ek;rw [d9] at hk; injection hk with hk; subst hk;intro e2;rcases hloc with el | el
  ·rw [e2] at el;cases ey:M k with
   | none=>rw [ey] at el; simp [Value.ownBlock] at el
   | some vy=>rw [ey] at el; exact hf k vy ey (by simpa using el.symm)
  rw [e2] at el; injection el with el; have:=hg1.size; omega
 rw [cz ek] at hk;exact hf k v hk
end Go.Proofs.YtajkkeikihhejaaGreat
