/- Contract of the program's function on what a node leans on. -/
import Derived.Test.YtajkkeikihhejaaGreatSq
import Derived.Test.YtajkkeikihhejaaGreatJ24
open Go.Proofs.Tryz
set_option maxHeartbeats 80000000
namespace Go.Proofs.YtajkkeikihhejaaGreat
open Go.ChangeShapes Go.WideShapes Go.ChangeAt Go.RowKit Go.Maps
open Pl
def Al.cells (a:Al):List Value:=[.string a.t,.string a.s]
def iw:List Al→List Value
 | []=>[]
 | a::xs=>a.cells ++ iw xs
theorem DY (xs ys:List Al):iw (xs ++ ys)=iw xs ++ iw ys:=by
 induction xs with
 | nil=>rfl
 | cons d ds ih=>simp [iw,ih]
theorem Aj (xs:List Al) (d:Al):iw (xs ++ [d])=iw xs ++ d.cells:=by rw [DY]; simp [iw]
theorem Cw (xs:List Al) (i:Nat) (h:i < xs.length) (o:Nat) (ho:o < 2):(iw xs)[i * 2 + o]?=(xs[i].cells)[o]?:=by
 induction xs generalizing i with
 | nil=>simp at h
 | cons s xs ih =>
  cases i with
  | zero =>
   simp only [iw,Nat.zero_mul,Td,List.getElem_cons_zero];rw [List.getElem?_append_left (by simp [Al.cells]; omega)]
  | succ i =>
   simp only [iw,List.getElem_cons_succ];rw [List.getElem?_append_right (by simp [Al.cells]; omega)];have e:(i + 1) * 2 + o - s.cells.length=i * 2 + o:=by simp [Al.cells]; omega
   rw [e];exact ih i (by simpa using h)
theorem NT {w:ae} {base:Nat} {v:Value} {xs:List Al} (h:w.ownsRow base 94 2 v xs.length (iw xs)):∃ ad cp,v=.slice ad xs.length cp∧kw w ad xs∧∀ p,ad=some p→base≤p.block:=by
 have h2:=h;rcases h.2 with ⟨rfl,h0⟩ | ⟨g,cp,cur,rfl,hbg,hg,hnc,-⟩
 ·exact ⟨none,0,by rw [h0],.inl (SX.1 h0),fun p hp=>by cases hp⟩
 have hlt:=h2.lt g rfl;refine ⟨_,cp,rfl,.inr ⟨g,0,rfl,hlt.2,fun i hi=>?_⟩,fun p hp=>by injection hp with hp; rw [← hp]; exact hlt.1⟩;have h3:∀ (o:Nat) (u:Value),(iw xs)[i * 2 + o]?=some u→w.cell? ⟨g,0 + i * 2 + o,none⟩=some u:=fun o u hu=>by
  have:=h2.cells (g:=g) rfl (i * 2 + o) u hu;rw [EY] at this;rw [Td]; exact this
 exact ⟨h3 0 _ (by have:=Cw xs i hi 0 (by omega); simpa [Al.cells] using this),h3 1 _ (by have:=Cw xs i hi 1 (by omega); simpa [Al.cells] using this)⟩
def dG:List Al→List Al
 | []=>[]
 | a::xs=>if a.s.toList.isEmpty then dG xs else a::dG xs
theorem uT (xs ys:List Al):dG (xs ++ ys)=dG xs ++ dG ys:=by
 induction xs with
 | nil=>rfl
 | cons a xs ih=>simp only [List.cons_append,dG,ih]; split <;> simp
theorem NU (xs:List Al) (k:Nat) (h:k < xs.length) (he:xs[k].s.toList.isEmpty=true):dG (xs.take (k + 1))=dG (xs.take k):=by
 rw [SA h,uT]; simp [dG] at he ⊢; simp [he]
theorem KY (xs:List Al) (k:Nat) (h:k < xs.length) (he:xs[k].s.toList.isEmpty=false):dG (xs.take (k + 1))=dG (xs.take k) ++ [xs[k]]:=by
 rw [SA h,uT]; simp [dG,he]
theorem Cx (xs:List Al):(dG xs).length≤xs.length:=by
 induction xs with
 | nil=>simp [dG]
 | cons a xs ih=>simp only [dG]; split <;> simp <;> omega
def jf (ts:List Ty) (typ:ByteArray) (e:Ex):List Al :=
 if e.kind=1 then dG e.allow else if e.kind=2 then [⟨typ,e.name⟩] else if e.kind=3 then (gu ts typ e.over e.name).map fun g=>⟨g,e.name⟩ else []
theorem NV:(prog.info? 94).map (fun i=>(i.zero,i.size,i.bytes))=some (some (.agg #[.string ⟨#[]⟩,.string ⟨#[]⟩]),2,32):=by kernel_rfl
theorem DZ (rs:List TR) (hl:∀ r ∈ rs,r.light) (typ over rel:aD):(gu (ah rs) typ over rel).length≤1048576:=by
 unfold gu;split
 ·exact xD rs hl typ over rel
 simp
theorem wB (w:ae) (o o':Obj):((w.alloc o).alloc o').heap[w.heap.size + 1]?=some o':=by
 have:=heap_alloc_new (w.alloc o) o';simpa using this
set_option maxRecDepth 100000 in
theorem FE (b n:Nat) (rs:List TR) (ad:Option Addr) (M:ByteArray × ByteArray→Option Value) (typ:aD) (x:ER) (w:ae) (hV:aO dU prog 94 w b n M) (hT:Tab rs M) (hs:mD w ad rs) (hl:∀ r ∈ rs,r.light) (hf:∀ r ∈ rs,r.fits) (ht:typ.size≤maxLen) (XW:x.e.fits) (hxl:x.e.light) (hxo:x.ok w) :
  Calls prog 188 #[.map (some b),.string typ,x.val] w fun e w'=>(∃ (TH:Option Addr) (cap':Nat),e=.returned (.slice TH (jf (ah rs) typ x.e).length cap')∧kw w' TH (jf (ah rs) typ x.e)∧∀ p,TH=some p→w.heap.size≤p.block)∧af w w':=by
 have HV:Hid (aO dU prog 94 w b n M):=hV;have HT:=az hT;have HS:=az hs;have HL:=az hl;have TP:=az hf;have Wy:=az XW;have Zi:=az hxo;have lgA:x.e.allow.length≤1048576:=hxl.1;clear hV hT hs hl hf XW hxo hxl;obtain ⟨i0,hi,hz0,hz1,hz2⟩:=info_parts NV;obtain ⟨W0,hW0⟩:∃ W0,W0=w.alloc (.cells #[.int .i64 x.e.kind,.slice x.adA x.e.allow.length x.capA,.string x.e.over,.string x.e.name,.slice x.adK x.e.kids.length x.capK] 39):=⟨_,rfl⟩;have hal:af w W0:=by rw [hW0]; exact (Sz _ _).alloc (Sy _) _
 have HB0:=az hal;have hg0:w.heap.size < W0.heap.size:=by rw [hW0]; simp
 have c0:W0.cell? ⟨w.heap.size,0,none⟩=some (.int .i64 x.e.kind):=by rw [hW0]; simp
 have c1:W0.cell? ⟨w.heap.size,1,none⟩=some (.slice x.adA x.e.allow.length x.capA):=by rw [hW0]; simp
 have c2:W0.cell? ⟨w.heap.size,2,none⟩=some (.string x.e.over):=by rw [hW0]; simp
 have c3:W0.cell? ⟨w.heap.size,3,none⟩=some (.string x.e.name):=by rw [hW0]; simp
 have c4:W0.cell? ⟨w.heap.size,4,none⟩=some (.slice x.adK x.e.kids.length x.capK):=by rw [hW0]; simp
 clear hal;unfold ER.val;by_cases h1:x.e.kind=1
 ·have XC:Hid (jf (ah rs) typ x.e=dG x.e.allow):=by show _=_; unfold jf; rw [if_pos h1]
  have hq1:(x.e.kind == 1)=true:=by simpa using h1
  replace h1:Hid (x.e.kind=1):=h1;go_enter func188,ntmps188;go_wp2_with fail;rw [← hW0];clear hW0;go_loopw [7,19] (fun v i wr=>∃ k:Nat,k≤x.e.allow.length∧i=.int .i64 k∧Hid (wr.ownsRow w.heap.size 94 2 v (dG (x.e.allow.take k)).length (iw (dG (x.e.allow.take k))))∧Hid (af w wr)) (fun _ i _=>x.e.allow.length - (intOf i).toNat);case atStart=>exact ⟨0,SC _,rfl,World.ownsRow_nil _ _ _ _,HB0⟩
  clear HB0 c0 c1 c2 c3 c4 hg0;obtain ⟨k,hk,rfl,HOW,HB⟩:=hrel;by_cases hlt:k < x.e.allow.length
  ·rcases (Zi.out.1).below HB.out with hnil | ⟨ba,VC,had,VE,hra⟩
   ·rw [hnil] at hlt; simp at hlt
   obtain ⟨t0,t1⟩:=hra k hlt;have hk1:=bq k;have hk2:(k:Int) < (x.e.allow.length:Int):=by omega
   obtain ⟨W1,hW1⟩:∃ W1,W1=wr.alloc (.cells #[.string x.e.allow[k].t,.string x.e.allow[k].s] 43):=⟨_,rfl⟩;have hal:af wr W1:=by rw [hW1]; exact (Sz _ _).alloc (Sy _) _
   have TB:=jI HB hal;have VR:Hid (W1.ownsRow w.heap.size 94 2 u7 (dG (x.e.allow.take k)).length (iw (dG (x.e.allow.take k)))):=own_below HOW.out hal;have g0:W1.cell? ⟨wr.heap.size,0,none⟩=some (.string x.e.allow[k].t):=by rw [hW1]; simp
   have g1:W1.cell? ⟨wr.heap.size,1,none⟩=some (.string x.e.allow[k].s):=by rw [hW1]; simp
   have hgl1:wr.heap.size < W1.heap.size:=by rw [hW1]; simp
   have hgl:=Cx (x.e.allow.take k);rw [Tg] at hgl;have hwsz:w.heap.size≤W1.heap.size:=TB.out.size;rw [had];clear hra hal HOW;cases he:x.e.allow[k].s.toList.isEmpty;case true=>
    have HE:Hid (dG (x.e.allow.take (k + 1))=dG (x.e.allow.take k)):=NU _ _ hlt he;have Uh:Hid (af w (wr.alloc (.cells #[.string x.e.allow[k].t,.string x.e.allow[k].s] 43))):=by rw [← hW1]; exact TB
    have ZR:Hid ((wr.alloc (.cells #[.string x.e.allow[k].t,.string x.e.allow[k].s] 43)).ownsRow w.heap.size 94 2 u7 (dG (x.e.allow.take (k + 1))).length (iw (dG (x.e.allow.take (k + 1))))):=by rw [← hW1,HE.out]; exact VR
    clear hW1 g0 g1;go_wp2;go_roundw;case rel=>exact ⟨k + 1,by omega,by go_num,ZR,Uh⟩
    simp [intOf] <;> omega
   have HX:Hid (dG (x.e.allow.take (k + 1))=dG (x.e.allow.take k) ++ [x.e.allow[k]]):=KY _ _ hlt he;have ZR:Hid ((wr.alloc (.cells #[.string x.e.allow[k].t,.string x.e.allow[k].s] 43)).ownsRow w.heap.size 94 2 u7 (dG (x.e.allow.take k)).length (iw (dG (x.e.allow.take k)))):=by rw [← hW1]; exact VR
   have Uh:Hid (af w (wr.alloc (.cells #[.string x.e.allow[k].t,.string x.e.allow[k].s] 43))):=by rw [← hW1]; exact TB
   have hws:w.heap.size≤wr.heap.size:=HB.out.size;clear hW1 VR TB g0 g1 hgl1 hwsz W1;go_wp2_with (at_builtin; refine wpList_append_own_at _ rfl _ _ 277 rfl w.heap.size 94 i0 _ 2 32 underlying277 hi hz0 hz1 hz2 rfl (by decide) _ _ _ rfl (ZR.out.alloc _) ⟨wr.heap.size + 1,0,none⟩ 1 1 [.string x.e.allow[k].t,.string x.e.allow[k].s] rfl rfl (World.news_of_block (cs:=#[.string x.e.allow[k].t,.string x.e.allow[k].s]) (t:=94) (fr:=(0,0)) (wB wr _ _)) (by simp [Value.oneCell']) (by unfold maxLen; omega) (by omega) (by simp; omega) ?_);intro v' w3 hown3 hgrow _ hloc;have HB3:Hid (af w w3):=(Uh.out.alloc Uh.out.size _).grown hgrow (by simp; omega) (fun i hi=>(ZR.out.lt i hi).1);have Ub:Hid (w3.ownsRow w.heap.size 94 2 v' (dG (x.e.allow.take (k + 1))).length (iw (dG (x.e.allow.take (k + 1))))):=by
    show World.ownsRow _ _ _ _ _ _ _;rw [HX.out,Aj,SE];exact hown3
   clear hown3 hgrow hloc ZR Uh;go_wp2;go_roundw;case rel=>exact ⟨k + 1,by omega,by go_num,Ub,HB3⟩
   simp [intOf] <;> omega
  obtain rfl:k=x.e.allow.length:=by omega
  have hown:=HOW.out;rw [SS] at hown;obtain ⟨TH,cp,rfl,hS',hN'⟩:=NT hown;have HS2:=az hS';have V6:Hid (∀ p,TH=some p→w.heap.size≤p.block):=hN';clear hown HOW hS' hN';go_wp2;go_ret;exact ⟨⟨TH,cp,by rw [XC.out]; rfl,by rw [XC.out]; exact HS2.out,V6.out⟩,HB.out⟩
 have hq1:(x.e.kind == 1)=false:=by simpa using h1
 by_cases h2:x.e.kind=2
 ·have XC:Hid (jf (ah rs) typ x.e=[⟨typ,x.e.name⟩]):=by show _=_; unfold jf; rw [if_neg h1,if_pos h2]
  have hq2:(x.e.kind == 2)=true:=by simpa using h2
  replace h2:Hid (x.e.kind=2):=h2;have ZR:Hid ((w.alloc (.cells #[.int .i64 x.e.kind,.slice x.adA x.e.allow.length x.capA,.string x.e.over,.string x.e.name,.slice x.adK x.e.kids.length x.capK] 39)).ownsRow w.heap.size 94 2 (.slice none 0 0) 0 []):=World.ownsRow_nil _ _ _ _;have Uh:Hid (af w (w.alloc (.cells #[.int .i64 x.e.kind,.slice x.adA x.e.allow.length x.capA,.string x.e.over,.string x.e.name,.slice x.adK x.e.kids.length x.capK] 39))):=by rw [← hW0]; exact HB0
  clear hW0 HB0 c0 c1 c2 c3 c4 hg0 W0;go_enter func188,ntmps188;go_wp2_with (at_builtin; refine wpList_append_own_at _ rfl _ _ 277 rfl w.heap.size 94 i0 _ 2 32 underlying277 hi hz0 hz1 hz2 rfl (by decide) _ _ _ rfl (ZR.out.alloc _) ⟨w.heap.size + 1,0,none⟩ 1 1 [.string typ,.string x.e.name] rfl rfl (World.news_of_block (cs:=#[.string typ,.string x.e.name]) (t:=94) (fr:=(0,0)) (wB w _ _)) (by simp [Value.oneCell']) (by unfold maxLen; omega) (by omega) (by simp; omega) ?_);intro v' w3 hown3 hgrow _ hloc;have HB3:Hid (af w w3):=(Uh.out.alloc Uh.out.size _).grown hgrow (by simp; omega) (fun i hi=>(ZR.out.lt i hi).1);have Uo:w3.ownsRow w.heap.size 94 2 v' ([⟨typ,x.e.name⟩]:List Al).length (iw [⟨typ,x.e.name⟩]):=hown3;obtain ⟨TH,cp,rfl,hS',hN'⟩:=NT Uo;have HS2:=az hS';have V6:Hid (∀ p,TH=some p→w.heap.size≤p.block):=hN';clear hown3 Uo hgrow hloc ZR Uh hS' hN';go_wp2;go_ret;exact ⟨⟨TH,cp,by rw [XC.out]; rfl,by rw [XC.out]; exact HS2.out,V6.out⟩,HB3.out⟩
 have hq2:(x.e.kind == 2)=false:=by simpa using h2
 by_cases h3:x.e.kind=3
 ·have XC:Hid (jf (ah rs) typ x.e=(gu (ah rs) typ x.e.over x.e.name).map fun g=>(⟨g,x.e.name⟩:Al)):=by show _=_; unfold jf; rw [if_neg h1,if_neg h2,if_pos h3]
  have hq3:(x.e.kind == 3)=true:=by simpa using h3
  replace h3:Hid (x.e.kind=3):=h3;have HGL:(gu (ah rs) typ x.e.over x.e.name).length≤1048576:=DZ rs HL.out _ _ _;have Zf:=az (HV.out.below HB0.out);go_enter func188,ntmps188;go_wp2_with fail;rw [← hW0];refine (xI b n rs ad M typ x _ Zf.out HT.out (HS.out.below HB0.out) HL.out TP.out ht Wy.out.2.1 Wy.out.2.2.1).mono ?_;rintro e w1 ⟨⟨adG,cpG,rfl,hSG,hNG⟩,hb1⟩;generalize gu (ah rs) typ x.e.over x.e.name=gs at *
  have HB1:=jI HB0 hb1;have HSG:=az hSG;have HNG:Hid (∀ p,adG=some p→W0.heap.size≤p.block):=hNG;have UV:Hid (w1.cell? ⟨w.heap.size,3,none⟩=some (.string x.e.name)∧w.heap.size < w1.heap.size):=⟨aI hb1 hg0 c3,Sv hg0 hb1.size⟩;clear hW0 hSG hNG hb1 c0 c1 c2 c3 c4 HB0 Zf hg0 HNG;go_wp2_with fail;go_loopw [7,51] (fun v i wr=>∃ m:Nat,m≤gs.length∧i=.int .i64 m∧Hid (wr.ownsRow w.heap.size 94 2 v m (iw ((gs.take m).map fun g=>(⟨g,x.e.name⟩:Al))))∧Hid (af w wr)∧Hid (Aside w1 (.slice none 0 0) wr v)) (fun _ i _=>gs.length - (intOf i).toNat);case atStart=>exact ⟨0,SC _,rfl,World.ownsRow_nil _ _ _ _,HB1,Aside.refl _ _⟩
  clear HB1;obtain ⟨m,hm,rfl,HO,HB,HA⟩:=hrel;have x3:=qo HA.out UV.out.2 (by simp [Value.ownBlock]) UV.out.1;by_cases Uf:m < gs.length
  ·rcases HSG.out with rfl | ⟨bg,offg,rfl,hbg,hrg⟩
   ·simp at Uf
   have q0:=qo HA.out hbg (by simp [Value.ownBlock]) (hrg m Uf);have hm1:=bq m;have hm2:(m:Int) < (gs.length:Int):=by omega
   have hws:w.heap.size≤wr.heap.size:=HB.out.size;have HFX:Hid (iw ((gs.take (m + 1)).map fun g=>(⟨g,x.e.name⟩:Al))=iw ((gs.take m).map fun g=>(⟨g,x.e.name⟩:Al)) ++ [.string gs[m],.string x.e.name]):=by
    show _=_;rw [SA Uf,List.map_append,List.map_singleton,Aj]; rfl
   clear hrg;go_wp2_with (at_builtin; refine wpList_append_own_at _ rfl _ _ 277 rfl w.heap.size 94 i0 _ 2 32 underlying277 hi hz0 hz1 hz2 rfl (by decide) _ _ _ rfl (HO.out.alloc _) ⟨wr.heap.size,0,none⟩ 1 1 [.string gs[m],.string x.e.name] rfl rfl (World.news_of_block (cs:=#[.string gs[m],.string x.e.name]) (t:=94) (fr:=(0,0)) (heap_alloc_new wr _)) (by simp [Value.oneCell']) (by unfold maxLen; omega) (by omega) (by simp; omega) ?_);intro v' w3 hown3 hgrow _ hloc;have HB3:Hid (af w w3):=(HB.out.alloc HB.out.size _).grown hgrow (by simp; omega) (fun i hi=>(HO.out.lt i hi).1);have Ub:Hid (w3.ownsRow w.heap.size 94 2 v' (m + 1) (iw ((gs.take (m + 1)).map fun g=>(⟨g,x.e.name⟩:Al)))):=by
    show World.ownsRow _ _ _ _ _ _ _;rw [HFX.out]; simpa [List.map_take] using hown3
   have HA3:Hid (Aside w1 (.slice none 0 0) w3 v'):=HA.out.trans ((Aside.below ((Sz _ _).alloc (Sy _) _)).trans (Aside.app hgrow (by simpa using hloc)));clear hown3 hgrow hloc HO HA;go_wp2;go_roundw;case rel=>exact ⟨m + 1,by omega,by go_num,Ub,HB3,HA3⟩
   simp [intOf] <;> omega
  obtain rfl:m=gs.length:=by omega
  have hown:=HO.out;rw [SS] at hown;have e:gs.length=(gs.map fun g=>(⟨g,x.e.name⟩:Al)).length:=by simp
  rw [e] at hown;obtain ⟨TH,cp,rfl,hS',hN'⟩:=NT hown;have HS2:Hid (kw wr TH (gs.map fun g=>(⟨g,x.e.name⟩:Al))):=hS';have V6:Hid (∀ p,TH=some p→w.heap.size≤p.block):=hN';obtain ⟨ln,hln⟩:∃ ln,ln=(gs.map fun g=>(⟨g,x.e.name⟩:Al)).length:=⟨_,rfl⟩;rw [← hln];have HLN:Hid (ln=(gs.map fun g=>(⟨g,x.e.name⟩:Al)).length):=hln;clear hown HO hS' hN' e HA x3 hln;go_wp2;go_ret;exact ⟨⟨TH,cp,by rw [XC.out,← HLN.out]; rfl,by rw [XC.out]; exact HS2.out,V6.out⟩,HB.out⟩
 have XC:Hid (jf (ah rs) typ x.e=[]):=by show _=_; unfold jf; rw [if_neg h1,if_neg h2,if_neg h3]
 have hq3:(x.e.kind == 3)=false:=by simpa using h3
 have Uh:Hid (af w (w.alloc (.cells #[.int .i64 x.e.kind,.slice x.adA x.e.allow.length x.capA,.string x.e.over,.string x.e.name,.slice x.adK x.e.kids.length x.capK] 39))):=by rw [← hW0]; exact HB0
 clear hW0 HB0 c0 c1 c2 c3 c4 hg0;go_enter func188,ntmps188;go_wp2;go_ret;exact ⟨⟨none,0,by rw [XC.out]; rfl,by rw [XC.out]; exact .inl rfl,fun p hp=>by cases hp⟩,Uh.out⟩
set_option maxRecDepth 100000 in
theorem Bo (ad:Option Addr) (cap:Nat) (rs:List ER) (w:ae) (hlen:rs.length≤1048576) (hs:jk w ad rs) (hl:∀ r ∈ rs,r.e.light) (hk:∀ r ∈ rs,eB rs.length r.e.kids) :
  Calls prog 187 #[.slice ad rs.length cap] w fun e w'=>e=.returned (.slice (some ⟨w.heap.size,0,none⟩) rs.length rs.length)∧Fil w w' w.heap.size rs.length (bools (fw (ak rs))):=by
 have HS:=az hs;have HL:=az hl;have HK:=az hk;clear hs hl hk;obtain ⟨inf,hi,hz0,hz1,hz2⟩:=info_parts zk;go_enter func187,ntmps187;go_wp2_with (at_make; refine wpList_make_full _ rfl _ _ 275 rfl w.heap.size 4 inf (.bool false) 1 underlying275 hi hz0 hz1 .i64 .i64 _ _ rs.length rfl rfl rfl rfl (by rw [hz2]; omega) (by unfold maxLen; omega) (Sy _) ?_; intro w0 hown0 VG);have HF0:Hid (Fil w w0 w.heap.size rs.length (bools (List.replicate rs.length false))):=by
  have:=BS (v:=.bool false) hown0 VG;show Fil _ _ _ _ _;simpa [bools] using this
 clear hown0 VG hi hz0 hz1 hz2;go_loopw [4] (fun i wr=>∃ (m:Nat) (out:List Bool),m≤rs.length∧i=.int .i64 ((m:Int) - 1)∧out.length=rs.length∧Hid (iB (ak rs) m out=fw (ak rs))∧Hid (Fil w wr w.heap.size rs.length (bools out))) (fun i _=>(intOf i + 1).toNat);case atStart=>exact ⟨rs.length,List.replicate rs.length false,Sy _,by go_num,by simp,(by show _=_; unfold fw; rw [bi]),HF0⟩
 obtain ⟨m,out,hm,rfl,hol,HN,HF⟩:=hrel;by_cases hm0:0 < m
 ·obtain ⟨m,rfl⟩:∃ m',m=m' + 1:=⟨m - 1,by omega⟩;have hmi:(((m + 1:Nat):Int) - 1)=(m:Int):=by omega
  rw [hmi];have hlt:m < rs.length:=by omega
  rcases HS.out.below HF.out.below with rfl | ⟨b,off,rfl,hb,hr,hok⟩
  ·simp at hlt
  obtain ⟨t0,t1,t2,t3,t4⟩:=hr m hlt;have U6:Hid (rs[m].ok _):=hok rs[m] (Sw hlt);have lg:=(HL.out rs[m] (Sw hlt)).2;have HKI:Hid (eB rs.length rs[m].e.kids):=HK.out rs[m] (Sw hlt);have hk1:=bq m;have hk2:(m:Int) < (rs.length:Int):=by omega
  have hbw:b < w.heap.size:=by
   rcases HS.out with h | ⟨b',off',h1,h2,-⟩
   ·rw [h] at hlt; simp at hlt
   injection h1 with h1; injection h1 with h1; omega
  have HR:Hid (xQ wr b (off + m * 5) rs[m]):=hr m hlt;have HNX:Hid (iB (ak rs) m (df m rs[m].e.kind rs[m].e.kids 0 out)=fw (ak rs)):=by
   show _=_;rw [← HN.out,zl _ _ _ (by rw [bi]; exact hlt)];simp [ak]
  clear hr hok t0 t1 t2 t3;go_wp2_with fail;clear t4;go_loopw [23] (fun i w2=>∃ (j:Nat) (TD:List Bool),j≤rs[m].e.kids.length∧i=.int .i64 j∧TD.length=rs.length∧Hid (df m rs[m].e.kind (rs[m].e.kids.drop j) j TD=df m rs[m].e.kind rs[m].e.kids 0 out)∧Hid (Fil w w2 w.heap.size rs.length (bools TD))) (fun i _=>rs[m].e.kids.length - (intOf i).toNat);case atStart=>exact ⟨0,out,SC _,rfl,hol,rfl,HF⟩
  obtain ⟨j,TD,hj,rfl,ho2,HJ,U9⟩:=hrel;have hE2:jk wr _ rs:=HS.out.below U9.out.below;have ht:xQ wr b (off + m * 5) rs[m]:=by
   rcases hE2 with h | ⟨b',off',h1,h2,h3,-⟩
   ·exact absurd hlt (by rw [h]; simp)
   injection h1 with h1; injection h1 with h1 h1'; subst h1; subst h1'; exact h3 m hlt
  obtain ⟨t0,t1,t2,t3,t4⟩:=ht;by_cases hjl:j < rs[m].e.kids.length
  ·have hK2:vH wr rs[m].adK rs[m].e.kids:=(hE2.mem (Sw hlt)).2;rcases hK2 with hnil | ⟨ba,VC,Ul,VE,hra⟩
   ·rw [hnil] at hjl; simp at hjl
   rw [Ul];have q0:=hra j hjl;have hj1:=bq j;have hj2:(j:Int) < (rs[m].e.kids.length:Int):=by omega
   obtain ⟨x0,x1⟩:=HKI.out _ (Sw hjl);obtain ⟨x,hx⟩:∃ x:Nat,rs[m].e.kids[j]=(x:Int):=⟨rs[m].e.kids[j].toNat,by omega⟩;rw [hx] at q0 x0 x1;have c0:=U9.out.done m (by simp [bools]; omega);have fz:=U9.out.free;obtain ⟨v0,u0⟩:=Option.isSome_iff_exists.mp (U9.out.there x (by omega));have hbr:b < wr.heap.size:=Sv hbw U9.out.below.size;obtain ⟨bo,hbo⟩:∃ bo,bo=(bools TD)[m]'(by simp [bools]; omega):=⟨_,rfl⟩;rw [← hbo] at c0;clear hra Ul hE2 t1 t2 t3;have hm2:m < TD.length:=by omega
   have YC:bo=.bool TD[m]:=by rw [hbo]; simp [bools]
   have YD:TD[m]?.getD false=TD[m]:=by simp [hm2]
   rw [YC] at c0;clear hbo YC;cases hb0:TD[m];case true=>
    rw [hb0] at c0 YD;have Vy:Hid (Fil w (wr.setCell ⟨w.heap.size,x,none⟩ (.bool true)) w.heap.size rs.length (bools (TD.set x true))):=by show Fil _ _ _ _ _; rw [nN]; exact U9.out.set _ (by simp [bools]; omega) (by omega)
    have HJ2:Hid (df m rs[m].e.kind (rs[m].e.kids.drop (j + 1)) (j + 1) (TD.set x true)=df m rs[m].e.kind rs[m].e.kids 0 out):=by
     show _=_;rw [← HJ.out,jA _ _ _ _ _ hjl,hx];simp [*]
    go_wp2;go_roundw;case rel=>exact ⟨j + 1,TD.set x true,by omega,by go_num,by simp [ho2],HJ2,Vy⟩
    simp [intOf] <;> omega
   rw [hb0] at c0 YD;cases hkb:(rs[m].e.kind == 6);case false=>
    have Vy:Hid (Fil w (wr.setCell ⟨w.heap.size,x,none⟩ (.bool false)) w.heap.size rs.length (bools (TD.set x false))):=by show Fil _ _ _ _ _; rw [nN]; exact U9.out.set _ (by simp [bools]; omega) (by omega)
    have HJ2:Hid (df m rs[m].e.kind (rs[m].e.kids.drop (j + 1)) (j + 1) (TD.set x false)=df m rs[m].e.kind rs[m].e.kids 0 out):=by
     show _=_;rw [← HJ.out,jA _ _ _ _ _ hjl,hx];simp [*]
    go_wp2;go_roundw;case rel=>exact ⟨j + 1,TD.set x false,by omega,by go_num,by simp [ho2],HJ2,Vy⟩
    simp [intOf] <;> omega
   cases hjb:((j:Int) == 1);case true=>
    have hjn:(j == 1)=true:=by simp at hjb ⊢; omega
    have Vy:Hid (Fil w (wr.setCell ⟨w.heap.size,x,none⟩ (.bool true)) w.heap.size rs.length (bools (TD.set x true))):=by show Fil _ _ _ _ _; rw [nN]; exact U9.out.set _ (by simp [bools]; omega) (by omega)
    have HJ2:Hid (df m rs[m].e.kind (rs[m].e.kids.drop (j + 1)) (j + 1) (TD.set x true)=df m rs[m].e.kind rs[m].e.kids 0 out):=by
     show _=_;rw [← HJ.out,jA _ _ _ _ _ hjl,hx];simp [*]
    go_wp2;go_roundw;case rel=>exact ⟨j + 1,TD.set x true,by omega,by go_num,by simp [ho2],HJ2,Vy⟩
    simp [intOf] <;> omega
   have hjn:(j == 1)=false:=by simp at hjb ⊢; omega
   have Vy:Hid (Fil w (wr.setCell ⟨w.heap.size,x,none⟩ (.bool false)) w.heap.size rs.length (bools (TD.set x false))):=by show Fil _ _ _ _ _; rw [nN]; exact U9.out.set _ (by simp [bools]; omega) (by omega)
   have HJ2:Hid (df m rs[m].e.kind (rs[m].e.kids.drop (j + 1)) (j + 1) (TD.set x false)=df m rs[m].e.kind rs[m].e.kids 0 out):=by
    show _=_;rw [← HJ.out,jA _ _ _ _ _ hjl,hx];simp [*]
   go_wp2;go_roundw;case rel=>exact ⟨j + 1,TD.set x false,by omega,by go_num,by simp [ho2],HJ2,Vy⟩
   simp [intOf] <;> omega
  have Wv:Hid (iB (ak rs) m TD=fw (ak rs)):=by
   show _=_;rw [← HNX.out,← HJ.out,List.drop_of_length_le (by omega)];rfl
  go_wp2;go_roundw;case rel=>exact ⟨m,TD,by omega,by go_num,ho2,Wv,U9⟩
  simp [intOf] <;> omega
 obtain rfl:m=0:=by omega
 have VZ:Hid (Fil w wr w.heap.size rs.length (bools (fw (ak rs)))):=by
  show Fil _ _ _ _ _;rw [← HN.out];exact HF.out
 go_wp2;go_ret;exact ⟨rfl,VZ.out⟩
abbrev Ky:=ByteArray × ByteArray
def lookL (E:List (Ky × St)) (k:Ky):List St:=E.filterMap fun p=>if p.1=k then some p.2 else none
theorem lookL_append (E F:List (Ky × St)) (k:Ky):lookL (E ++ F) k=lookL E k ++ lookL F k:=by unfold lookL; rw [List.filterMap_append]
theorem tJ (E:List (Ky × St)) (k:Ky) (s:St):lookL (E ++ [(k,s)]) k=lookL E k ++ [s]:=by rw [lookL_append]; simp [lookL]
theorem qB (E:List (Ky × St)) {k y:Ky} (s:St) (h:k ≠ y):lookL (E ++ [(y,s)]) k=lookL E k:=by rw [lookL_append]; simp [lookL,Ne.symm h]
theorem mem_lookL {E:List (Ky × St)} {k:Ky} {s:St}:s ∈ lookL E k ↔ (k,s) ∈ E:=by
 unfold lookL;rw [List.mem_filterMap];constructor
 ·rintro ⟨⟨a,b⟩,h1,h2⟩;simp only at h2;split at h2
  ·rename_i e; injection h2 with h2; rw [← e,← h2]; exact h1
  cases h2
 intro h; exact ⟨(k,s),h,by simp⟩
def FreeB (M:Ky→Option Value) (g:Nat):Prop:=∀ k v,M k=some v→v.ownBlock ≠ some g
structure Grp (w:World) (bL n:Nat) (M:Ky→Option Value) (E:List (Ky × St)):Prop where
 map:aO dU prog 94 w bL n M
 row:∀ k,(M k=none∧lookL E k=[]) ∨ ∃ v,M k=some v∧w.ownsRow (bL + 1) 274 3 v (lookL E k).length (iH (lookL E k))
 apart:∀ k k' v v',k ≠ k'→M k=some v→M k'=some v'→∀ g,v.ownBlock=some g→v'.ownBlock ≠ some g
theorem Grp.lt {w:ae} {bL n:Nat} {M:Ky→Option Value} {E:List (Ky × St)} (h:Grp w bL n M E) {k:Ky} {v:Value} (hk:M k=some v) {g:Nat} (hg:v.ownBlock=some g):bL < g∧g < w.heap.size:=by
 rcases h.row k with ⟨e,-⟩ | ⟨v',e,ho⟩
 ·rw [e] at hk; cases hk
 rw [e] at hk; injection hk with hk; subst hk;have:=ho.lt g hg;exact ⟨by omega,this.2⟩
theorem Grp.fresh {w:ae} {bL n:Nat} {M:Ky→Option Value} {E:List (Ky × St)} (h:Grp w bL n M E) {g:Nat} (hg:w.heap.size≤g):FreeB M g:=fun k v hk e=>by
 have:=(h.lt hk e).2; omega
theorem Grp.mono {w:ae} {bL n n':Nat} {M:Ky→Option Value} {E:List (Ky × St)} (h:Grp w bL n M E) (hn:n≤n'):Grp w bL n' M E:=⟨h.map.mono hn,h.row,h.apart⟩
theorem Grp.below {w w':ae} {bL n:Nat} {M:Ky→Option Value} {E:List (Ky × St)} (h:Grp w bL n M E) (hB:af w w'):Grp w' bL n M E where
 map:=h.map.below hB
 row k:=by
  rcases h.row k with e | ⟨v,e,ho⟩
  ·exact .inl e
  exact .inr ⟨v,e,own_below ho hB⟩
 apart:=h.apart
theorem grp_made (w:ae):Grp (w.alloc (.map #[] 0)) w.heap.size 0 (fun _=>none) [] where
 map:=nH _ _ _ w
 row k:=.inl ⟨rfl,rfl⟩
 apart k k' v v' _ h:=by cases h
structure Stl (W:World) (M:Ky→Option Value) (w2:World) (M2:Ky→Option Value) (bL:Nat):Prop where
 size:W.heap.size≤w2.heap.size
 block:∀ g,g < W.heap.size→g ≠ bL→FreeB M g→w2.heap[g]?=W.heap[g]?
 free:∀ g,g < W.heap.size→FreeB M g→FreeB M2 g
theorem Stl.refl (W:ae) (M:Ky→Option Value) (bL:Nat):Stl W M W M bL:=⟨Sy _,fun _ _ _ _=>rfl,fun _ _ h=>h⟩
theorem Stl.trans {W w2 w3:ae} {M M2 M3:Ky→Option Value} {bL:Nat} (h:Stl W M w2 M2 bL) (h2:Stl w2 M2 w3 M3 bL):Stl W M w3 M3 bL where
 size:=SF h.size h2.size
 block g hg hb hf:=(h2.block g (Sv hg h.size) hb (h.free g hg hf)).trans (h.block g hg hb hf)
 free g hg hf:=h2.free g (Sv hg h.size) (h.free g hg hf)
theorem Stl.below {W w2:ae} {M:Ky→Option Value} {bL:Nat} (hB:af W w2):Stl W M w2 M bL:=⟨hB.size,fun g hg _ _=>hB.block g hg,fun _ _ h=>h⟩
structure Cel (w:World) (M:Ky→Option Value) (bL g o:Nat) (u:Value):Prop where
 cell:w.cell? ⟨g,o,none⟩=some u
 lt:g < w.heap.size
 free:FreeB M g
 ne:g ≠ bL
theorem Cel.stl {w w2:ae} {M M2:Ky→Option Value} {bL g o:Nat} {u:Value} (h:Cel w M bL g o u) (hS:Stl w M w2 M2 bL):Cel w2 M2 bL g o u where
 cell:=(Tc (w:=w) (hS.block g h.lt h.ne h.free)).trans h.cell
 lt:=Sv h.lt hS.size
 free:=hS.free g h.lt h.free
 ne:=h.ne
theorem Grp.step {W0 w1 w2 w3:ae} {bL n:Nat} {M:Ky→Option Value} {E:List (Ky × St)} {y:Ky} {v':Value} {s:St} (h:Grp W0 bL n M E) (hg1:W0.grownBy w1 (some bL)) (hown:w2.ownsRow (bL + 1) 274 3 v' ((lookL E y).length + 1) (iH (lookL E y) ++ s.cells))
  (hg2:w1.grownBy w2 ((M y).getD (.slice none 0 0)).ownBlock) (hloc:v'.ownBlock=((M y).getD (.slice none 0 0)).ownBlock ∨ v'.ownBlock=some w1.heap.size) (hg3:w2.grownBy w3 (some bL)) (hM:aO dU prog 94 w3 bL (n + 1) (lm M y (some v'))) :
  Grp w3 bL (n + 1) (lm M y (some v')) (E ++ [(y,s)])∧Stl W0 M w3 (lm M y (some v')) bL:=by
 have hrow0:∀ k v,M k=some v→∃ xs m,W0.ownsRow (bL + 1) 274 3 v m xs:=fun k v hk=>by
  rcases h.row k with ⟨e,-⟩ | ⟨v1,e,ho⟩
  ·rw [e] at hk; cases hk
  rw [e] at hk; injection hk with hk; subst hk; exact ⟨_,_,ho⟩
 have hne2:∀ k v,k ≠ y→M k=some v→v.ownBlock=none ∨ v.ownBlock ≠ ((M y).getD (.slice none 0 0)).ownBlock:=fun k v Yp hk=>by
  cases e:v.ownBlock with
  | none=>exact .inl rfl
  | some g =>
   right;cases ey:M y with
   | none=>simp [Value.ownBlock]
   | some vy=>intro e2; exact h.apart k y v vy Yp hk ey g e (by simpa using e2.symm)
 have hnb:∀ v,(∃ k,M k=some v)→v.ownBlock=none ∨ v.ownBlock ≠ some bL:=fun v ⟨k,hk⟩=>by
  cases e:v.ownBlock with
  | none=>exact .inl rfl
  | some g=>right; have:=(h.lt hk e).1; intro e2; injection e2 with e2; omega
 have hnew:∀ g,v'.ownBlock=some g→bL < g:=fun g e=>by have:=(hown.lt g e).1; omega
 have hv'b:v'.ownBlock=none ∨ v'.ownBlock ≠ some bL:=by
  cases e:v'.ownBlock with
  | none=>exact .inl rfl
  | some g=>right; have:=hnew g e; intro e2; injection e2 with e2; omega
 constructor
 ·refine ⟨hM,fun k=>?_,fun k k' v u hkk hk hk' g e=>?_⟩
  ·by_cases ek:k=y
   ·subst ek;rw [dX,tJ];refine .inr ⟨v',rfl,?_⟩;rw [zq,SE];exact hown.kept hg3 hv'b
   rw [bZ ek,qB _ _ ek];rcases h.row k with e | ⟨v,e,ho⟩
   ·exact .inl e
   exact .inr ⟨v,e,((ho.kept hg1 (hnb v ⟨k,e⟩)).kept hg2 (hne2 k v ek e)).kept hg3 (hnb v ⟨k,e⟩)⟩
  by_cases ek:k=y
  ·subst ek;rw [dX] at hk; injection hk with hk; subst hk;rw [bZ (Ne.symm hkk)] at hk';intro e2;rcases hloc with el | el
   ·rw [e] at el;cases ey:M k with
    | none=>rw [ey] at el; simp [Value.ownBlock] at el
    | some vy=>rw [ey] at el; exact h.apart k k' vy u hkk ey hk' g (by simpa using el.symm) e2
   rw [e] at el; injection el with el;have:=(h.lt hk' e2).2;have:=hg1.size;omega
  rw [bZ ek] at hk;by_cases ek':k'=y
  ·subst ek';rw [dX] at hk'; injection hk' with hk'; subst hk';intro e2;rcases hloc with el | el
   ·rw [e2] at el;cases ey:M k' with
    | none=>rw [ey] at el; simp [Value.ownBlock] at el
    | some vy=>rw [ey] at el; exact h.apart k k' v vy hkk hk ey g e (by simpa using el.symm)
   rw [e2] at el; injection el with el;have:=(h.lt hk e).2;have:=hg1.size;omega
  rw [bZ ek'] at hk';exact h.apart k k' v u hkk hk hk' g e
 refine ⟨SF hg1.size (SF hg2.size hg3.size),fun g hg hb hf=>?_,fun g hg hf k v hk=>?_⟩
 ·have h1:=hg1.block g hg (fun e=>hb (by injection e));have h2:=hg2.block g (Sv hg hg1.size) (fun e=>by
   cases ey:M y with
   | none=>rw [ey] at e; simp [Value.ownBlock] at e
   | some vy=>rw [ey] at e; exact hf y vy ey (by simpa using e.symm))
  have h3:=hg3.block g (Sv hg (SF hg1.size hg2.size)) (fun e=>hb (by injection e));rw [h3,h2,h1]
 by_cases ek:k=y
 ·subst ek;rw [dX] at hk; injection hk with hk; subst hk;intro e2;rcases hloc with el | el
  ·rw [e2] at el;cases ey:M k with
   | none=>rw [ey] at el; simp [Value.ownBlock] at el
   | some vy=>rw [ey] at el; exact hf k vy ey (by simpa using el.symm)
  rw [e2] at el; injection el with el; have:=hg1.size; omega
 rw [bZ ek] at hk;exact hf k v hk
end Go.Proofs.YtajkkeikihhejaaGreat
