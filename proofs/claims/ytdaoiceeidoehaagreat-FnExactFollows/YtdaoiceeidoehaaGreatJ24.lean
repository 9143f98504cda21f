/- The users of some facts, in their order, as the program keeps them. -/
import Derived.Test.YtdaoiceeidoehaaGreatJ23
import Derived.Maps.OwnIn
open Go.Proofs.Tryz
set_option maxHeartbeats 80000000
namespace Go.Proofs.YtdaoiceeidoehaaGreat
set_option linter.unusedVariables false
set_option maxRecDepth 100000
open Go.ChangeShapes Go.WideShapes Go.ChangeAt Go.RowKit Go.Maps
open Pl
def Kg (u:Al) (g:Fc):Bool:=qy g.c g.d u.t u.s
theorem Gr (p:Fc→Bool) {zs:List Fc} {k:Nat} (h:k < zs.length):(zs.drop k).any p=(p zs[k] || (zs.drop (k + 1)).any p):=by rw [List.drop_eq_getElem_cons h]; rfl
theorem kC.at0 {w:World} {ad:Option Addr} {fs:List Fc} (h:kC w ad fs) {k:Nat} (hk:k < fs.length):∃ b off,ad=some ⟨b,off,none⟩∧yU w b (off + k * 5) fs[k]∧b < w.heap.size:=by
 rcases h with h | ⟨b',off',e,hb,hr⟩
 ·rw [h] at hk; simp at hk
 ·exact ⟨b',off',e,hr k hk,hb⟩
theorem Kh (g:Nat) (u:Al) (f:Fc) (w:World) (hg:g < w.heap.size) (h0:w.cell? ⟨g,0,none⟩=some (.string u.t)) (h1:w.cell? ⟨g,1,none⟩=some (.string u.s)) :
  Calls prog 128 #[.agg #[.string f.a,.string f.b,.string f.r,.string f.c,.string f.d],.pointer (some ⟨g,0,none⟩)] w fun e w'=>e=.returned (.bool (Kg u f))∧Below w.heap.size w w':=by
 have HB:Hid (Below w.heap.size w (w.alloc (.cells #[.string f.a,.string f.b,.string f.r,.string f.c,.string f.d] 42))):=(Below.refl _ _).alloc (Nat.le_refl _) _;have heq:=dD f.c f.d u.t u.s rfl;go_enter func128,ntmps128;go_wp2;go_ret;exact ⟨rfl,HB.out⟩
theorem Lg (xs:Array Value) (u:World):(callFunc 128 xs).run prog u=.ok (.enter 128 xs) u:=by kernel_rfl
theorem BC (FC:Nat) (rc cp:Array Value) (p:Fc→Bool) (ad:Option Addr) (cap:Nat) (xs:List Fc) (w:World) (hlen:xs.length≤1048576) (hs:kC w ad xs)
  (hrun:∀ (ys:Array Value) (u:World),(callFunc FC ys).run prog u=.ok (.enter FC ys) u) (hp:∀ x ∈ xs,∀ w1:World,Below w.heap.size w w1→Calls prog FC (rc.push (.agg #[.string x.a,.string x.b,.string x.r,.string x.c,.string x.d]) ++ cp) w1 fun e w'=>e=.returned (.bool (p x))∧Below w1.heap.size w1 w') :
  Calls prog 152 #[.slice ad xs.length cap,.func (Fn.func FC) rc cp] w fun e w'=>(∃ r:Int,e=.returned (.int .i64 r)∧decide (0≤r)=xs.any p)∧Below w.heap.size w w':=by
 have HS:=ah hs;have HRUN:=ah hrun;have HP:=ah hp;clear hs hrun hp;have HD:Hid (∀ k (h:k < xs.length),(xs.drop k).any p=(p xs[k] || (xs.drop (k + 1)).any p)):=fun k h=>Gr p h;go_enter func152,ntmps152;go_wp2_with fail;go_loopw [8] (fun i wr=>∃ k:Nat,k≤xs.length∧i=.int .i64 k∧Hid ((xs.drop k).any p=xs.any p)∧Hid (Below w.heap.size w wr)) (fun i _=>xs.length - (intOf i).toNat);case atStart=>exact ⟨0,Nat.zero_le _,rfl,rfl,Below.refl _ _⟩
 case round =>
  obtain ⟨k,hk,rfl,HQ,HB⟩:=hrel;by_cases hlt:k < xs.length
  ·obtain ⟨b,off,hadr,⟨t0,t1,t2,t3,t4⟩,hbl⟩:=kC.at0 (HS.out.below HB.out) hlt;have HM:Hid (xs[k] ∈ xs):=List.getElem_mem hlt;have hk1:=bf k;have hk2:(k:Int) < (xs.length:Int):=by omega
   have HD2:=ah (HD.out k hlt);subst hadr;go_wp2_with fail;rw [HRUN.out,Oper.upon_enter];refine (HP.out _ HM.out _ HB.out).mono ?_;rintro e w1 ⟨rfl,hb1⟩;have HB1:=fu HB hb1;clear hb1 t0 t1 t2 t3 t4;cases he:p xs[k] with
   | true =>
    have HN:Hid (xs.any p=true):=by show _=_; rw [← HQ.out,HD2.out,he]; rfl
    go_wp2;go_ret;exact ⟨⟨k,rfl,by rw [HN.out]; simp⟩,HB1.out⟩
   | false =>
    have HQ2:Hid ((xs.drop (k + 1)).any p=xs.any p):=by show _=_; rw [← HQ.out,HD2.out,he]; rfl
    go_wp2;go_roundw;case rel=>exact ⟨k + 1,by omega,by go_num,HQ2,HB1⟩
    case measure=>simp [intOf] <;> omega
  ·have HN:Hid (xs.any p=false):=by show _=_; rw [← HQ.out,List.drop_of_length_le (by omega)]; rfl
   go_wp2;go_ret;exact ⟨⟨-1,rfl,by rw [HN.out]; simp⟩,HB.out⟩
theorem mr (FC:Nat) (rc cp:Array Value) (p:Fc→Bool) (ad:Option Addr) (cap:Nat) (xs:List Fc) (w:World) (hlen:xs.length≤1048576) (hs:kC w ad xs)
  (hrun:∀ (ys:Array Value) (u:World),(callFunc FC ys).run prog u=.ok (.enter FC ys) u) (hp:∀ x ∈ xs,∀ w1:World,Below w.heap.size w w1→Calls prog FC (rc.push (.agg #[.string x.a,.string x.b,.string x.r,.string x.c,.string x.d]) ++ cp) w1 fun e w'=>e=.returned (.bool (p x))∧Below w1.heap.size w1 w') :
  Calls prog 127 #[.slice ad xs.length cap,.func (Fn.func FC) rc cp] w fun e w'=>e=.returned (.bool (xs.any p))∧Below w.heap.size w w':=by
 have HC:=ah (BC FC rc cp p ad cap xs w hlen hs hrun hp);clear hs hrun hp;go_enter func127,ntmps127;go_wp2_with fail;refine HC.out.mono ?_;rintro e w' ⟨⟨r,rfl,hr⟩,hbx⟩;have HR:=ah hr;clear hr;go_wp2;go_ret;exact ⟨by rw [← HR.out]; rfl,hbx⟩
theorem DZ {us:List Al} {new:List Fc} {k:Nat} (h:k < us.length):dI (us.take (k + 1)) new=dI (us.take k) new ++ (if new.any (Kg us[k]) then [us[k]] else []):=by
 unfold dI;rw [List.take_succ_eq_append_getElem h,List.filter_append];congr 1;rw [List.filter_cons];rfl
theorem yn (us:List Al) (new:List Fc):(dI us new).length≤us.length:=List.length_filter_le _ _
theorem mD (adU:Option Addr) (capU:Nat) (us:List Al) (adF:Option Addr) (capF:Nat) (new:List Fc) (w:World) (hul:us.length≤1000) (hnl:new.length≤1048576) (hu:fU w adU us) (hf:kC w adF new) :
  Calls prog 93 #[.slice adU us.length capU,.slice adF new.length capF] w fun e w'=>(∃ v,e=.returned v∧w'.ownsRow w.heap.size 40 2 v (dI us new).length (pairs (dI us new)))∧Below w.heap.size w w':=by
 obtain ⟨iO,h0,h1,h2,h3⟩:=uJ;have HIO:=au (And.intro h0 (And.intro h1 (And.intro h2 h3)));have HU:=au hu;have HF:=au hf;have HO0:Hid (w.ownsRow w.heap.size 40 2 (.slice none 0 0) (dI (us.take 0) new).length (pairs (dI (us.take 0) new))):=World.ownsRow_nil _ _ _ _;clear hu hf h0 h1 h2 h3;go_enter func93,ntmps93;go_wp2_with fail;go_loopw [5,10] (fun v i wr=>∃ k:Nat,k≤us.length∧i=.int .i64 k∧Hid (wr.ownsRow w.heap.size 40 2 v (dI (us.take k) new).length (pairs (dI (us.take k) new)))∧Hid (Below w.heap.size w wr)) (fun _ i _=>us.length - (intOf i).toNat);case atStart=>exact ⟨0,Nat.zero_le _,rfl,HO0,Below.refl _ _⟩
 case round =>
  clear HO0;obtain ⟨k,hk,rfl,HO,HB⟩:=hrel;by_cases hlt:k < us.length
  ·obtain ⟨b,off,hadr,⟨t0,t1⟩,hbl⟩:=fU.at0 (HU.out.below HB.out) hlt;have hi1:=bf k;have hi2:(k:Int) < (us.length:Int):=by omega
   have HKT:=au (DZ (new:=new) hlt);have hkl:=yn (us.take k) new;rw [List.length_take] at hkl;obtain ⟨u,hu⟩:∃ u,u=us[k]:=⟨_,rfl⟩;rw [← hu] at t0 t1 HKT;clear hu;obtain ⟨W1,hW1⟩:∃ W1,W1=wr.alloc (.cells #[.string u.t,.string u.s] 40):=⟨_,rfl⟩;have HBr:=nA hW1;have HB1:=au (HB.out.trans (HBr.out.mono HB.out.size));have d0:W1.cell? ⟨wr.heap.size,0,none⟩=some (.string u.t):=by rw [hW1]; simp
   have d1:W1.cell? ⟨wr.heap.size,1,none⟩=some (.string u.s):=by rw [hW1]; simp
   have dl:wr.heap.size < W1.heap.size:=ay d0;have HO1:=au (aK HO.out HBr.out);obtain ⟨ys,hys⟩:∃ ys,ys=dI (us.take k) new:=⟨_,rfl⟩;rw [← hys] at HO1 HKT hkl;obtain ⟨adV,capV,rfl,-⟩:=iL HO1.out;have HCN:=au (mr 128 #[] #[.pointer (some ⟨wr.heap.size,0,none⟩)] (Kg u) adF capF new W1 hnl (HF.out.below HB1.out) Lg (fun x hx w1 hb=>Kh wr.heap.size u x w1 (Nat.lt_of_lt_of_le dl hb.size) (aC hb dl d0) (aC hb dl d1)));subst hadr;clear hys HO;go_wp2_with fail;rw [← hW1];clear hW1 t0 t1;refine HCN.out.mono ?_;rintro e w2 ⟨rfl,hb2⟩;have HB2:=au (HB1.out.trans (hb2.mono HB1.out.size));have HO2:=au (aK HO1.out hb2);replace d0:=aC hb2 dl d0;replace d1:=aC hb2 dl d1;replace dl:=Nat.lt_of_lt_of_le dl hb2.size;clear hb2 HCN HO1 HBr;cases hh:new.any (Kg u) with
   | false =>
    have HR:Hid (w2.ownsRow w.heap.size 40 2 (.slice adV ys.length capV) (dI (us.take (k + 1)) new).length (pairs (dI (us.take (k + 1)) new))):=by
     show World.ownsRow _ _ _ _ _ _ _;rw [HKT.out,hh]; simp only [Bool.false_eq_true,if_false,List.append_nil]; exact HO2.out
    go_wp2;go_roundw;case rel=>exact ⟨k + 1,by omega,by go_num,HR,HB2⟩
    case measure=>simp [intOf] <;> omega
   | true =>
    have HWE:Hid (dI (us.take (k + 1)) new=ys ++ [u]):=by show _=_; rw [HKT.out,hh]; rfl
    obtain ⟨W4,hW4⟩:∃ W4,W4=w2.alloc (.cells #[.string u.t,.string u.s] 40):=⟨_,rfl⟩;have HO4:Hid (W4.ownsRow w.heap.size 40 2 (.slice adV ys.length capV) ys.length (pairs ys)):=by show World.ownsRow _ _ _ _ _ _ _; rw [hW4]; exact HO2.out.alloc _
    have HN4:Hid (∀ j x,[Value.string u.t,.string u.s][j]?=some x→W4.cell? ((⟨w2.heap.size,0,none⟩:Addr).add j)=some x):=by rw [hW4]; exact ET w2 u
    have HBW4:Hid (Below w.heap.size w W4):=by show Below _ _ _; rw [hW4]; exact HB2.out.alloc HB2.out.size _
    have hsz4:w.heap.size≤W4.heap.size:=HBW4.out.size;clear hh;go_wp2_with (at_builtin; rw [← hW4]; clear hW4; refine wpList_append_own_at _ rfl _ _ 108 rfl w.heap.size 40 iO (.agg #[.string ⟨#[]⟩,.string ⟨#[]⟩]) 2 32 underlying108 HIO.out.1 HIO.out.2.1 HIO.out.2.2.1 HIO.out.2.2.2 rfl (by decide) _ ys.length (pairs ys) rfl HO4.out ⟨w2.heap.size,0,none⟩ 1 1 [.string u.t,.string u.s] rfl rfl HN4.out (by simp [Value.oneCell']) (by unfold maxLen; omega) (by omega) hsz4 ?_);intro v' w5 hown hgr _ _;have HR:Hid (w5.ownsRow w.heap.size 40 2 v' (dI (us.take (k + 1)) new).length (pairs (dI (us.take (k + 1)) new))):=by
     show World.ownsRow _ _ _ _ _ _ _;rw [HWE.out,List.length_append];have:pairs (ys ++ [u])=pairs ys ++ [.string u.t,.string u.s]:=by simp [pairs]
     rw [this]; exact hown
    have HBR:Hid (Below w.heap.size w w5):=HBW4.out.grown hgr HBW4.out.size (fun g hg=>(HO4.out.lt g hg).1);clear hown hgr d0 d1 dl;go_wp2;go_roundw;case rel=>exact ⟨k + 1,by omega,by go_num,HR,HBR⟩
    case measure=>simp [intOf] <;> omega
  ·have HE:Hid (wr.ownsRow w.heap.size 40 2 u5 (dI us new).length (pairs (dI us new))):=by
    have h:=HO.out;rw [List.take_of_length_le (by omega)] at h;exact h
   clear HO;go_wp2;go_ret;exact ⟨⟨_,rfl,HE.out⟩,HB.out⟩
open Go.Shelf
theorem sJ {K:Type} {enc:K→Value} {P:Program} {F:Fence} {nF:Nat} (w:World) {ops:Array Oper} {rest:List Oper} {o:Oper} {a:Act} {Q:Exit→Act→World→Prop} [DecidableEq K] (hg:o.guard=none) (m x v:Operand) (t:TypeId) (hop:o.op=Op.mapUpdate t m x v) (k e:TypeId) (L:Keyed P k) (hinj:∀ x y,enc x=enc y→x=y) (ht:P.underlying t=some (.map k e)) (b n:Nat) (M:K→Option Value)
  (hm:a.eval m=.map (some b)) (hV:aD enc P k w b n M) (hn:n < maxLen) (y:K) (kl:Lit) (hx:a.eval x=enc y) (hkey:keyOf P k (enc y)=some kl) (u:Value) (hv:a.eval v=u)
  (hK:∀ w',aD enc P k w' b (n + 1) (iU M y (some u))→w.grownBy w' (some b)→wpListIn F nF P ops Q rest (a.put o.dst undef) w'):wpListIn F nF P ops Q (o::rest) a w:=by
 refine wpListIn_plain hg fun K' hK'=>?_;obtain ⟨w',hrun,r1,r2⟩:=hV.store L hinj ht hn hkey u;unfold Oper.wpIn;refine ⟨by simp [Oper.about,hop],?_⟩;rw [Oper.semAt_plain F _ _ (by rw [hop]; intro c hc'; cases hc')];simp [execOp,hop,hm,hx,hv,hrun,Result.andThen];exact hK' _ _ (hK w' r1 r2)
theorem EX [DecidableEq Fc] (out:List Fc) (f:Fc):iU (qc out) f (some (.agg #[]))=qc (out ++ [f]):=by
 funext y
 by_cases e:y=f
 ·subst e;rw [di];unfold qc;rw [if_pos (iK.2 (by simp))]
 ·rw [bi e];unfold qc;have:dh (out ++ [f]) y=dh out y:=by
   rw [Bool.eq_iff_iff,iK,iK];simp [e]
  rw [this]
def marks (rl:List Nat):List Deferred:=rl.map fun r=>{ target:=.collected r,args:=#[] }
def gF (W:World) (rl:List Nat):Prop:=rl.Nodup∧∀ r ∈ rl,W.heap[r]?=some (.deferred (some []))
theorem gF.kp {b l:Nat} {W W':World} {rl:List Nat} (h:gF W rl) (hk:KpO b l W W') (hl:l ∉ rl) (hb:b ∉ rl):gF W' rl :=
 ⟨h.1,fun r hr=>hk.other r _ (h.2 r hr) rfl (fun e=>hl (e ▸ hr)) (fun e=>hb (e ▸ hr))⟩
theorem gF.bel {W W':World} {rl:List Nat} (h:gF W rl) (hb:Below W.heap.size W W'):gF W' rl :=
 ⟨h.1,fun r hr=>(hb.block r (Array.getElem?_eq_some_iff.1 (h.2 r hr)).1).trans (h.2 r hr)⟩
theorem gF.lt {W:World} {rl:List Nat} (h:gF W rl) {r:Nat} (hr:r ∈ rl):r < W.heap.size:=(Array.getElem?_eq_some_iff.1 (h.2 r hr)).1
theorem qm {n:Nat} {P:Program} {fn:Func} {tmps:Array Value} {R:Ending→World→Prop} (B:Nat) (Inv:World→Prop) (hinv:∀ W r,B < r→Inv W→W.heap[r]?=some (.deferred (some []))→Inv (W.putObj r (.deferred none))) (hend:∀ W,Inv W→LeavesIn Fence.wide n P fn tmps R [] .returning W):∀ (rl:List Nat) (W:World),gF W rl→(∀ r ∈ rl,B < r)→Inv W→LeavesInM Fence.wide n P fn tmps R (marks rl) .returning W
 | [],W,_,_,hI=>hend W hI
 | r::rl,W,hm,hB,hI=>by
  have hr:=hm.2 r (by simp);obtain ⟨h1,h2⟩:=List.nodup_cons.1 hm.1;refine ⟨by simp,.inl ⟨r,_,rfl,run_takeDeferred hr,qm B Inv hinv hend rl _ ⟨h2,fun q hq=>?_⟩ (fun q hq=>hB q (by simp [hq])) (hinv W r (hB r (by simp)) hI hr)⟩⟩;have hne:q ≠ r:=fun e=>h1 (e ▸ hq);rw [jV hne];exact hm.2 q (by simp [hq])
theorem EY {b l:Nat} {W W':World} {base size n:Nat} {T:TypeId} {v:Value} {xs:List Value} (h:W.ownsRow base T size v n xs) (hk:KpO b l W W') (h1:T ≠ 42) (h2:T ≠ 38):W'.ownsRow base T size v n xs :=
 dm h fun g hg=>by
  obtain ⟨cur,e⟩:=gZ h hg;rw [hk.cells g _ _ _ e h1 h2,e]
structure FBx (W:World) (B D:Nat) (sn:Int) (vU:Value) (bK:Nat):Prop where
 d:eX W B (.pointer (some ⟨D,0,none⟩)) 93
 s:eX W (B + 1) (.int .i64 sn) 2
 u:eX W (B + 1 + 1) vU 108
 k:eX W (B + 1 + 1 + 1) (.map (some bK)) 84
theorem FBx.kp {b l0:Nat} {W W':World} {B D:Nat} {sn:Int} {vU:Value} {bK:Nat} (h:FBx W B D sn vU bK) (hk:KpO b l0 W W'):FBx W' B D sn vU bK :=
 ⟨h.d.kp hk (by decide) (by decide),h.s.kp hk (by decide) (by decide),h.u.kp hk (by decide) (by decide),h.k.kp hk (by decide) (by decide)⟩
theorem Ki (w:World) (D:Nat) (sn:Int) (vU:Value) (bK:Nat) {W:World} (hW:W=(((w.alloc (.cells #[.pointer (some ⟨D,0,none⟩)] 93)).alloc (.cells #[.int .i64 sn] 2)).alloc (.cells #[vU] 108)).alloc (.cells #[.map (some bK)] 84)):FBx W w.heap.size D sn vU bK∧Below w.heap.size w W∧W.heap.size=w.heap.size + 1 + 1 + 1 + 1:=by
 obtain ⟨V1,e1⟩:∃ V,V=w.alloc (.cells #[.pointer (some ⟨D,0,none⟩)] 93):=⟨_,rfl⟩;obtain ⟨V2,e2⟩:∃ V,V=V1.alloc (.cells #[.int .i64 sn] 2):=⟨_,rfl⟩;obtain ⟨V3,e3⟩:∃ V,V=V2.alloc (.cells #[vU] 108):=⟨_,rfl⟩;rw [← e1,← e2,← e3] at hW;have t1:V1.heap.size=w.heap.size + 1:=by rw [e1,World.size_alloc]
 have t2:V2.heap.size=w.heap.size + 1 + 1:=by rw [e2,World.size_alloc,t1]
 have t3:V3.heap.size=w.heap.size + 1 + 1 + 1:=by rw [e3,World.size_alloc,t2]
 have f1:Below w.heap.size w V1:=by rw [e1]; exact (Below.refl _ _).alloc (Nat.le_refl _) _
 have f2:Below V1.heap.size V1 V2:=by rw [e2]; exact (Below.refl _ _).alloc (Nat.le_refl _) _
 have f3:Below V2.heap.size V2 V3:=by rw [e3]; exact (Below.refl _ _).alloc (Nat.le_refl _) _
 have f4:Below V3.heap.size V3 W:=by rw [hW]; exact (Below.refl _ _).alloc (Nat.le_refl _) _
 have g1:eX V1 w.heap.size (.pointer (some ⟨D,0,none⟩)) 93:=by rw [e1]; exact World.alloc_heap_new w _
 have g2:eX V2 (w.heap.size + 1) (.int .i64 sn) 2:=by rw [e2,← t1]; exact World.alloc_heap_new V1 _
 have g3:eX V3 (w.heap.size + 1 + 1) vU 108:=by rw [e3,← t2]; exact World.alloc_heap_new V2 _
 have g4:eX W (w.heap.size + 1 + 1 + 1) (.map (some bK)) 84:=by rw [hW,← t3]; exact World.alloc_heap_new V3 _
 have f12:=f1.trans (f2.mono f1.size);have f13:=f12.trans (f3.mono f12.size);exact ⟨⟨((g1.bel f2).bel f3).bel f4,(g2.bel f3).bel f4,g3.bel f4,g4⟩,f13.trans (f4.mono f13.size),by rw [hW,World.size_alloc,t3]⟩
theorem Kj {β:Type} {b l:Nat} {X:World}:OwnFrom X.heap.size (fun (_:β) Y=>KpO b l X Y):=fun s Y Z row hs hg hr=>by
 have key:∀ (g:Nat) (o:Obj),X.heap[g]?=some o→Y.heap[g]?=some o→Z.heap[g]?=some o:=fun g o h1 h2=>(hg.block g (Array.getElem?_eq_some_iff.1 h2).1 fun e=>by
  have h3:=(hr g e.symm).1;have h4:=(Array.getElem?_eq_some_iff.1 h1).1;omega).trans h2
 exact ⟨Nat.le_trans hs.size hg.size,fun g cs T m h h1 h2=>key g _ h (hs.cells g cs T m h h1 h2),fun g o h hc n1 n2=>key g _ h (hs.other g o h hc n1 n2)⟩
structure FoW (w X:World) (v:Value) (out:List Fc):Prop where
 bel:Below w.heap.size w X
 box:eX X w.heap.size v 38
 row:X.ownsRow (w.heap.size + 1) 42 5 v out.length (bP out)
 map:aD gM prog 42 X (w.heap.size + 1) out.length (qc out)
theorem FoW.below {w X X':World} {v:Value} {out:List Fc} (h:FoW w X v out) (hb:Below X.heap.size X X'):FoW w X' v out :=
 ⟨h.bel.trans (hb.mono h.bel.size),h.box.bel hb,aK h.row hb,h.map.below hb⟩
theorem FoW.kept {w X X':World} {v:Value} {out:List Fc} (h:FoW w X v out) {row:Option Nat} (hg:X.grownBy X' row) (hr:∀ r,row=some r→w.heap.size + 1 < r∧(∃ o,X.heap[r]?=some o∧o.isCells=false)):FoW w X' v out where
 bel:=h.bel.grown hg h.bel.size (fun g e=>by have:=(hr g e).1; omega)
 box:=(hg.block _ (Array.getElem?_eq_some_iff.1 h.box).1 fun e=>by have:=(hr _ e.symm).1; omega).trans h.box
 row:=dm h.row fun g hg2=>hg.block g (h.row.lt g hg2).2 fun e=>by
  obtain ⟨-,o,ho,hc⟩:=hr g e.symm;obtain ⟨cur,e2⟩:=gZ h.row hg2;rw [e2] at ho; cases ho; cases hc
 map:=h.map.kept hg (fun e=>by have:=(hr _ e.symm).1; omega)
theorem FoW.step {w X Y V:World} {v v':Value} {out:List Fc} {f:Fc} [DecidableEq Fc] (h:FoW w X v out) (hM:aD gM prog 42 Y (w.heap.size + 1) (out.length + 1) (iU (qc out) f (some (.agg #[])))) (hg1:X.grownBy Y (some (w.heap.size + 1)))
  {Y':World} (hY':Below Y.heap.size Y Y') (hown:V.ownsRow (w.heap.size + 1) 42 5 v' (out.length + 1) (bP out ++ f.row)) (hg2:Y'.grownBy V v.ownBlock) (hat:v'.ownBlock=v.ownBlock ∨ v'.ownBlock=some Y'.heap.size) (l:Nat) :
  FoW w (V.setCell ⟨w.heap.size,0,none⟩ v') v' (out ++ [f])∧KpO (w.heap.size + 1) l X (V.setCell ⟨w.heap.size,0,none⟩ v')∧KeepsFrom (w.heap.size + 1 + 1) X (V.setCell ⟨w.heap.size,0,none⟩ v'):=by
 obtain ⟨es,c,hmb⟩:=kI h.map;have hlB:w.heap.size < X.heap.size:=(Array.getElem?_eq_some_iff.1 h.box).1;have hvB:v.ownBlock ≠ some w.heap.size:=fun e=>by have:=(h.row.lt _ e).1; omega
 have hvM:v.ownBlock ≠ some (w.heap.size + 1):=fun e=>zb h.row e hmb;have key:∀ (g:Nat) (o:Obj),X.heap[g]?=some o→g ≠ w.heap.size + 1→g ≠ w.heap.size→v.ownBlock ≠ some g→(V.setCell ⟨w.heap.size,0,none⟩ v').heap[g]?=some o:=fun g o hg n1 n2 n3=>by
  have hl:=(Array.getElem?_eq_some_iff.1 hg).1;have y1:Y.heap[g]?=some o:=(hg1.block g hl (fun e=>n1 (by injection e))).trans hg;have hl1:=(Array.getElem?_eq_some_iff.1 y1).1;have y2:Y'.heap[g]?=some o:=(hY'.block g hl1).trans y1;have hl2:=(Array.getElem?_eq_some_iff.1 y2).1;have y3:V.heap[g]?=some o:=(hg2.block g hl2 (fun e=>n3 e.symm)).trans y2;exact (heap_setCell_other V ⟨w.heap.size,0,none⟩ g v' n2).trans y3
 have hVB:V.heap[w.heap.size]?=some (.cells #[v] 38 (0,0)):=by
  have y1:Y.heap[w.heap.size]?=_:=(hg1.block _ hlB (fun e=>by injection e with e; omega)).trans h.box;have y2:Y'.heap[w.heap.size]?=_:=(hY'.block _ (Array.getElem?_eq_some_iff.1 y1).1).trans y1;exact (hg2.block _ (Array.getElem?_eq_some_iff.1 y2).1 (fun e=>hvB e.symm)).trans y2
 have b1:Below w.heap.size w Y:=h.bel.grown hg1 h.bel.size (fun g e=>by injection e with e; omega);have b2:Below w.heap.size w Y':=b1.trans (hY'.mono b1.size);have b3:Below w.heap.size w V:=b2.grown hg2 b2.size (fun g e=>by have:=(h.row.lt g e).1; omega);have sz:X.heap.size≤(V.setCell ⟨w.heap.size,0,none⟩ v').heap.size:=by
  have e1:=hg1.size;have e2:=hY'.size;have e3:=hg2.size;simp; omega
 refine ⟨⟨b3.setCell (Nat.le_refl _) _,?_,?_,?_⟩,⟨sz,fun g cs T m hg h1 h2=>?_,fun g o hg hc n1 n2=>?_⟩,⟨sz,fun g o hB hg hc=>?_⟩⟩
 ·have:=heap_setCell_same V w.heap.size 0 #[v] _ v' hVB;unfold eX;simpa using this
 ·rw [kD,List.length_append];exact dm hown fun g hg=>heap_setCell_other V ⟨w.heap.size,0,none⟩ g v' (fun (e:g=w.heap.size)=>by have:=(hown.lt g hg).1; omega)
 ·rw [List.length_append,← EX];exact ((hM.below hY').kept hg2 (fun e=>hvM e.symm)).setCell (by show w.heap.size + 1 ≠ w.heap.size; omega) _
 ·refine key g _ hg (fun e=>?_) (fun e=>?_) (fun e=>?_)
  ·rw [e,hmb] at hg; cases hg
  ·rw [e,h.box] at hg; injection hg with hg; injection hg with _ hT; exact h2 hT.symm
  ·obtain ⟨cur,e2⟩:=gZ h.row e;rw [e2] at hg; injection hg with hg; injection hg with _ hT; exact h1 hT.symm
 ·refine key g _ hg n2 (fun e=>?_) (fun e=>?_)
  ·rw [e,h.box] at hg; injection hg with hg; subst hg; cases hc
  ·obtain ⟨cur,e2⟩:=gZ h.row e;rw [e2] at hg; injection hg with hg; subst hg; cases hc
 ·refine key g _ hg (by omega) (by omega) (fun e=>?_);obtain ⟨cur,e2⟩:=gZ h.row e;rw [e2] at hg; injection hg with hg; subst hg; cases hc
theorem kC.dropF {w:World} {ad:Option Addr} {fs:List Fc} (h:kC w ad fs) (k:Nat):kC w (Option.map (fun x=>Addr.add x (k * 5)) ad) (fs.drop k):=by
 rcases h with h | ⟨b,off,e,hb,hr⟩
 ·exact .inl (by rw [h]; simp)
 ·have ea:Option.map (fun x=>Addr.add x (k * 5)) ad=some ⟨b,off + k * 5,none⟩:=by
   rw [e];simp [Addr.add]
  refine .inr ⟨b,off + k * 5,ea,hb,fun i hi=>?_⟩;have hi2:k + i < fs.length:=by rw [List.length_drop] at hi; omega
  have h1:=hr (k + i) hi2;have e2:(fs.drop k)[i]=fs[k + i]:=by simp
  rw [e2];have e3:off + k * 5 + i * 5=off + (k + i) * 5:=by omega
  rw [e3]; exact h1
theorem Kk {w:World} {base size n cap:Nat} {T:TypeId} {ad:Option Addr} {xs:List Value} (h:w.ownsRow base T size (.slice ad n cap) n xs):n≤cap:=by
 rcases h.2 with ⟨e,h0⟩ | ⟨g,cap',cur,e,h1,h2,h3,h4,h5,-⟩
 ·omega
 ·injection e with _ _ e3;omega
theorem Jb {Y Y1 Y2 V:World} {B:Nat} {v:Value} {T:TypeId} (h:eX Y B v T) (hg1:Y.grownBy Y1 (some (B + 1))) (hY2:Below Y1.heap.size Y1 Y2) (hg2:Y2.grownBy V v.ownBlock) (hv:v.ownBlock ≠ some B):eX V B v T:=by
 have y1:Y1.heap[B]?=_:=(hg1.block _ (Array.getElem?_eq_some_iff.1 h).1 (fun e=>by injection e with e; omega)).trans h;have y2:Y2.heap[B]?=_:=(hY2.block _ (Array.getElem?_eq_some_iff.1 y1).1).trans y1;exact (hg2.block _ (Array.getElem?_eq_some_iff.1 y2).1 (fun e=>hv e.symm)).trans y2
theorem Jc {B B':Nat} {W W':World} (h:KeepsFrom B W W') (hB:B≤B'):KeepsFrom B' W W':=⟨h.size,fun k o hk h1 h2=>h.same k o (Nat.le_trans hB hk) h1 h2⟩
theorem KpO.after {b l l':Nat} {X Y Z:World} (h:KpO b l X Y) (k:KpO b l' Y Z) (hl:X.heap.size≤l'):KpO b l X Z :=
 ⟨Nat.le_trans h.size k.size,fun g cs T m hg h1 h2=>k.cells g cs T m (h.cells g cs T m hg h1 h2) h1 h2,fun g o hg hc h1 h2=>k.other g o (h.other g o hg hc h1 h2) hc (fun e=>by have:=(Array.getElem?_eq_some_iff.1 hg).1; omega) h2⟩
end Go.Proofs.YtdaoiceeidoehaaGreat
