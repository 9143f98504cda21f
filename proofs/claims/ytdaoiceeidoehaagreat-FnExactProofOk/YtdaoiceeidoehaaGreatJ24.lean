/- The users of some facts, in their order, as the program keeps them. -/
import Derived.Test.YtdaoiceeidoehaaGreatJ23
import Derived.Maps.OwnIn
open Go.Proofs.Tryz
set_option maxHeartbeats 80000000
namespace Go.Proofs.YtdaoiceeidoehaaGreat
set_option linter.unusedVariables false
set_option maxRecDepth 100000
open Go.ChangeShapes Go.WideShapes Go.ChangeAt Go.RowKit Go.Maps
open Pl
def Ki (u:Al) (g:Fc):Bool:=qx g.c g.d u.t u.s
theorem Gt (p:Fc→Bool) {zs:List Fc} {k:Nat} (h:k < zs.length):(zs.drop k).any p=(p zs[k] || (zs.drop (k + 1)).any p):=by rw [List.drop_eq_getElem_cons h]; rfl
theorem jq.at0 {w:World} {ad:Option Addr} {fs:List Fc} (h:jq w ad fs) {k:Nat} (hk:k < fs.length):∃ b off,ad=some ⟨b,off,none⟩∧yV w b (off + k * 5) fs[k]∧b < w.heap.size:=by
 rcases h with h | ⟨b',off',e,hb,hr⟩
 ·rw [h] at hk; simp at hk
 ·exact ⟨b',off',e,hr k hk,hb⟩
theorem Kj (g:Nat) (u:Al) (f:Fc) (w:World) (hg:g < w.heap.size) (h0:w.cell? ⟨g,0,none⟩=some (.string u.t)) (h1:w.cell? ⟨g,1,none⟩=some (.string u.s)) :
  Calls prog 128 #[.agg #[.string f.a,.string f.b,.string f.r,.string f.c,.string f.d],.pointer (some ⟨g,0,none⟩)] w fun e w'=>e=.returned (.bool (Ki u f))∧Below w.heap.size w w':=by
 have HB:Hid (Below w.heap.size w (w.alloc (.cells #[.string f.a,.string f.b,.string f.r,.string f.c,.string f.d] 42))):=(Below.refl _ _).alloc (Nat.le_refl _) _;have heq:=dD f.c f.d u.t u.s rfl;go_enter func128,ntmps128;go_wp2;go_ret;exact ⟨rfl,HB.out⟩
theorem Li (xs:Array Value) (u:World):(callFunc 128 xs).run prog u=.ok (.enter 128 xs) u:=by kernel_rfl
theorem BF (FC:Nat) (rc cp:Array Value) (p:Fc→Bool) (ad:Option Addr) (cap:Nat) (xs:List Fc) (w:World) (hlen:xs.length≤1048576) (hs:jq w ad xs)
  (hrun:∀ (ys:Array Value) (u:World),(callFunc FC ys).run prog u=.ok (.enter FC ys) u) (hp:∀ x ∈ xs,∀ w1:World,Below w.heap.size w w1→Calls prog FC (rc.push (.agg #[.string x.a,.string x.b,.string x.r,.string x.c,.string x.d]) ++ cp) w1 fun e w'=>e=.returned (.bool (p x))∧Below w1.heap.size w1 w') :
  Calls prog 152 #[.slice ad xs.length cap,.func (Fn.func FC) rc cp] w fun e w'=>(∃ r:Int,e=.returned (.int .i64 r)∧decide (0≤r)=xs.any p)∧Below w.heap.size w w':=by
 have HS:=ag hs;have HRUN:=ag hrun;have HP:=ag hp;clear hs hrun hp;have HD:Hid (∀ k (h:k < xs.length),(xs.drop k).any p=(p xs[k] || (xs.drop (k + 1)).any p)):=fun k h=>Gt p h;go_enter func152,ntmps152;go_wp2_with fail;go_loopw [8] (fun i wr=>∃ k:Nat,k≤xs.length∧i=.int .i64 k∧Hid ((xs.drop k).any p=xs.any p)∧Hid (Below w.heap.size w wr)) (fun i _=>xs.length - (intOf i).toNat);case atStart=>exact ⟨0,Nat.zero_le _,rfl,rfl,Below.refl _ _⟩
 case round =>
  obtain ⟨k,hk,rfl,HQ,HB⟩:=hrel;by_cases hlt:k < xs.length
  ·obtain ⟨b,off,hadr,⟨t0,t1,t2,t3,t4⟩,hbl⟩:=jq.at0 (HS.out.below HB.out) hlt;have HM:Hid (xs[k] ∈ xs):=List.getElem_mem hlt;have hk1:=aY k;have hk2:(k:Int) < (xs.length:Int):=by omega
   have HD2:=ag (HD.out k hlt);subst hadr;go_wp2_with fail;rw [HRUN.out,Oper.upon_enter];refine (HP.out _ HM.out _ HB.out).mono ?_;rintro e w1 ⟨rfl,hb1⟩;have HB1:=fK HB hb1;clear hb1 t0 t1 t2 t3 t4;cases he:p xs[k] with
   | true =>
    have HN:Hid (xs.any p=true):=by show _=_; rw [← HQ.out,HD2.out,he]; rfl
    go_wp2;go_ret;exact ⟨⟨k,rfl,by rw [HN.out]; simp⟩,HB1.out⟩
   | false =>
    have HQ2:Hid ((xs.drop (k + 1)).any p=xs.any p):=by show _=_; rw [← HQ.out,HD2.out,he]; rfl
    go_wp2;go_roundw;case rel=>exact ⟨k + 1,by omega,by go_num,HQ2,HB1⟩
    case measure=>simp [intOf] <;> omega
  ·have HN:Hid (xs.any p=false):=by show _=_; rw [← HQ.out,List.drop_of_length_le (by omega)]; rfl
   go_wp2;go_ret;exact ⟨⟨-1,rfl,by rw [HN.out]; simp⟩,HB.out⟩
theorem mo (FC:Nat) (rc cp:Array Value) (p:Fc→Bool) (ad:Option Addr) (cap:Nat) (xs:List Fc) (w:World) (hlen:xs.length≤1048576) (hs:jq w ad xs)
  (hrun:∀ (ys:Array Value) (u:World),(callFunc FC ys).run prog u=.ok (.enter FC ys) u) (hp:∀ x ∈ xs,∀ w1:World,Below w.heap.size w w1→Calls prog FC (rc.push (.agg #[.string x.a,.string x.b,.string x.r,.string x.c,.string x.d]) ++ cp) w1 fun e w'=>e=.returned (.bool (p x))∧Below w1.heap.size w1 w') :
  Calls prog 127 #[.slice ad xs.length cap,.func (Fn.func FC) rc cp] w fun e w'=>e=.returned (.bool (xs.any p))∧Below w.heap.size w w':=by
 have HC:=ag (BF FC rc cp p ad cap xs w hlen hs hrun hp);clear hs hrun hp;go_enter func127,ntmps127;go_wp2_with fail;refine HC.out.mono ?_;rintro e w' ⟨⟨r,rfl,hr⟩,hbx⟩;have HR:=ag hr;clear hr;go_wp2;go_ret;exact ⟨by rw [← HR.out]; rfl,hbx⟩
theorem DZ {us:List Al} {new:List Fc} {k:Nat} (h:k < us.length):dI (us.take (k + 1)) new=dI (us.take k) new ++ (if new.any (Ki us[k]) then [us[k]] else []):=by
 unfold dI;rw [List.take_succ_eq_append_getElem h,List.filter_append];congr 1;rw [List.filter_cons];rfl
theorem ym (us:List Al) (new:List Fc):(dI us new).length≤us.length:=List.length_filter_le _ _
theorem mq (adU:Option Addr) (capU:Nat) (us:List Al) (adF:Option Addr) (capF:Nat) (new:List Fc) (w:World) (hul:us.length≤1000) (hnl:new.length≤1048576) (hu:fV w adU us) (hf:jq w adF new) :
  Calls prog 93 #[.slice adU us.length capU,.slice adF new.length capF] w fun e w'=>(∃ v,e=.returned v∧w'.ownsRow w.heap.size 40 2 v (dI us new).length (pairs (dI us new)))∧Below w.heap.size w w':=by
 obtain ⟨iO,h0,h1,h2,h3⟩:=uI;have HIO:=av (And.intro h0 (And.intro h1 (And.intro h2 h3)));have HU:=av hu;have HF:=av hf;have HO0:Hid (w.ownsRow w.heap.size 40 2 (.slice none 0 0) (dI (us.take 0) new).length (pairs (dI (us.take 0) new))):=World.ownsRow_nil _ _ _ _;clear hu hf h0 h1 h2 h3;go_enter func93,ntmps93;go_wp2_with fail;go_loopw [5,10] (fun v i wr=>∃ k:Nat,k≤us.length∧i=.int .i64 k∧Hid (wr.ownsRow w.heap.size 40 2 v (dI (us.take k) new).length (pairs (dI (us.take k) new)))∧Hid (Below w.heap.size w wr)) (fun _ i _=>us.length - (intOf i).toNat);case atStart=>exact ⟨0,Nat.zero_le _,rfl,HO0,Below.refl _ _⟩
 case round =>
  clear HO0;obtain ⟨k,hk,rfl,HO,HB⟩:=hrel;by_cases hlt:k < us.length
  ·obtain ⟨b,off,hadr,⟨t0,t1⟩,hbl⟩:=fV.at0 (HU.out.below HB.out) hlt;have hi1:=aY k;have hi2:(k:Int) < (us.length:Int):=by omega
   have HKT:=av (DZ (new:=new) hlt);have hkl:=ym (us.take k) new;rw [List.length_take] at hkl;obtain ⟨u,hu⟩:∃ u,u=us[k]:=⟨_,rfl⟩;rw [← hu] at t0 t1 HKT;clear hu;obtain ⟨W1,hW1⟩:∃ W1,W1=wr.alloc (.cells #[.string u.t,.string u.s] 40):=⟨_,rfl⟩;have HBr:=nX hW1;have HB1:=av (HB.out.trans (HBr.out.mono HB.out.size));have d0:W1.cell? ⟨wr.heap.size,0,none⟩=some (.string u.t):=by rw [hW1]; simp
   have d1:W1.cell? ⟨wr.heap.size,1,none⟩=some (.string u.s):=by rw [hW1]; simp
   have dl:wr.heap.size < W1.heap.size:=ax d0;have HO1:=av (aK HO.out HBr.out);obtain ⟨ys,hys⟩:∃ ys,ys=dI (us.take k) new:=⟨_,rfl⟩;rw [← hys] at HO1 HKT hkl;obtain ⟨adV,capV,rfl,-⟩:=iL HO1.out;have HCN:=av (mo 128 #[] #[.pointer (some ⟨wr.heap.size,0,none⟩)] (Ki u) adF capF new W1 hnl (HF.out.below HB1.out) Li (fun x hx w1 hb=>Kj wr.heap.size u x w1 (Nat.lt_of_lt_of_le dl hb.size) (aD hb dl d0) (aD hb dl d1)));subst hadr;clear hys HO;go_wp2_with fail;rw [← hW1];clear hW1 t0 t1;refine HCN.out.mono ?_;rintro e w2 ⟨rfl,hb2⟩;have HB2:=av (HB1.out.trans (hb2.mono HB1.out.size));have HO2:=av (aK HO1.out hb2);replace d0:=aD hb2 dl d0;replace d1:=aD hb2 dl d1;replace dl:=Nat.lt_of_lt_of_le dl hb2.size;clear hb2 HCN HO1 HBr;cases hh:new.any (Ki u) with
   | false =>
    have HR:Hid (w2.ownsRow w.heap.size 40 2 (.slice adV ys.length capV) (dI (us.take (k + 1)) new).length (pairs (dI (us.take (k + 1)) new))):=by
     show World.ownsRow _ _ _ _ _ _ _;rw [HKT.out,hh]; simp only [Bool.false_eq_true,if_false,List.append_nil]; exact HO2.out
    go_wp2;go_roundw;case rel=>exact ⟨k + 1,by omega,by go_num,HR,HB2⟩
    case measure=>simp [intOf] <;> omega
   | true =>
    have HWE:Hid (dI (us.take (k + 1)) new=ys ++ [u]):=by show _=_; rw [HKT.out,hh]; rfl
    obtain ⟨W4,hW4⟩:∃ W4,W4=w2.alloc (.cells #[.string u.t,.string u.s] 40):=⟨_,rfl⟩;have HO4:Hid (W4.ownsRow w.heap.size 40 2 (.slice adV ys.length capV) ys.length (pairs ys)):=by show World.ownsRow _ _ _ _ _ _ _; rw [hW4]; exact HO2.out.alloc _
    have HN4:Hid (∀ j x,[Value.string u.t,.string u.s][j]?=some x→W4.cell? ((⟨w2.heap.size,0,none⟩:Addr).add j)=some x):=by rw [hW4]; exact EW w2 u
    have HBW4:Hid (Below w.heap.size w W4):=by show Below _ _ _; rw [hW4]; exact HB2.out.alloc HB2.out.size _
    have hsz4:w.heap.size≤W4.heap.size:=HBW4.out.size;clear hh;go_wp2_with (at_builtin; rw [← hW4]; clear hW4; refine wpList_append_own_at _ rfl _ _ 108 rfl w.heap.size 40 iO (.agg #[.string ⟨#[]⟩,.string ⟨#[]⟩]) 2 32 underlying108 HIO.out.1 HIO.out.2.1 HIO.out.2.2.1 HIO.out.2.2.2 rfl (by decide) _ ys.length (pairs ys) rfl HO4.out ⟨w2.heap.size,0,none⟩ 1 1 [.string u.t,.string u.s] rfl rfl HN4.out (by simp [Value.oneCell']) (by unfold maxLen; omega) (by omega) hsz4 ?_);intro v' w5 hown hgr _ _;have HR:Hid (w5.ownsRow w.heap.size 40 2 v' (dI (us.take (k + 1)) new).length (pairs (dI (us.take (k + 1)) new))):=by
     show World.ownsRow _ _ _ _ _ _ _;rw [HWE.out,List.length_append];have:pairs (ys ++ [u])=pairs ys ++ [.string u.t,.string u.s]:=by simp [pairs]
     rw [this]; exact hown
    have HBR:Hid (Below w.heap.size w w5):=HBW4.out.grown hgr HBW4.out.size (fun g hg=>(HO4.out.lt g hg).1);clear hown hgr d0 d1 dl;go_wp2;go_roundw;case rel=>exact ⟨k + 1,by omega,by go_num,HR,HBR⟩
    case measure=>simp [intOf] <;> omega
  ·have HE:Hid (wr.ownsRow w.heap.size 40 2 u5 (dI us new).length (pairs (dI us new))):=by
    have h:=HO.out;rw [List.take_of_length_le (by omega)] at h;exact h
   clear HO;go_wp2;go_ret;exact ⟨⟨_,rfl,HE.out⟩,HB.out⟩
open Go.Shelf
theorem sJ {K:Type} {enc:K→Value} {P:Program} {F:Fence} {nF:Nat} (w:World) {ops:Array Oper} {rest:List Oper} {o:Oper} {a:Act} {Q:Exit→Act→World→Prop} [DecidableEq K] (hg:o.guard=none) (m x v:Operand) (t:TypeId) (hop:o.op=Op.mapUpdate t m x v) (k e:TypeId) (L:Keyed P k) (hinj:∀ x y,enc x=enc y→x=y) (ht:P.underlying t=some (.map k e)) (b n:Nat) (M:K→Option Value)
  (hm:a.eval m=.map (some b)) (hV:aB enc P k w b n M) (hn:n < maxLen) (y:K) (kl:Lit) (hx:a.eval x=enc y) (hkey:keyOf P k (enc y)=some kl) (u:Value) (hv:a.eval v=u)
  (hK:∀ w',aB enc P k w' b (n + 1) (iU M y (some u))→w.grownBy w' (some b)→wpListIn F nF P ops Q rest (a.put o.dst undef) w'):wpListIn F nF P ops Q (o::rest) a w:=by
 refine wpListIn_plain hg fun K' hK'=>?_;obtain ⟨w',hrun,r1,r2⟩:=hV.store L hinj ht hn hkey u;unfold Oper.wpIn;refine ⟨by simp [Oper.about,hop],?_⟩;rw [Oper.semAt_plain F _ _ (by rw [hop]; intro c hc'; cases hc')];simp [execOp,hop,hm,hx,hv,hrun,Result.andThen];exact hK' _ _ (hK w' r1 r2)
theorem zK [DecidableEq Fc] (out:List Fc) (f:Fc):iU (oG out) f (some (.agg #[]))=oG (out ++ [f]):=by
 funext y
 by_cases e:y=f
 ·subst e;rw [dh];unfold oG;rw [if_pos (iK.2 (by simp))]
 ·rw [bf e];unfold oG;have:df (out ++ [f]) y=df out y:=by
   rw [Bool.eq_iff_iff,iK,iK];simp [e]
  rw [this]
def marks (rl:List Nat):List Deferred:=rl.map fun r=>{ target:=.collected r,args:=#[] }
def gG (W:World) (rl:List Nat):Prop:=rl.Nodup∧∀ r ∈ rl,W.heap[r]?=some (.deferred (some []))
theorem gG.kp {b l:Nat} {W W':World} {rl:List Nat} (h:gG W rl) (hk:KpO b l W W') (hl:l ∉ rl) (hb:b ∉ rl):gG W' rl :=
 ⟨h.1,fun r hr=>hk.other r _ (h.2 r hr) rfl (fun e=>hl (e ▸ hr)) (fun e=>hb (e ▸ hr))⟩
theorem gG.bel {W W':World} {rl:List Nat} (h:gG W rl) (hb:Below W.heap.size W W'):gG W' rl :=
 ⟨h.1,fun r hr=>(hb.block r (Array.getElem?_eq_some_iff.1 (h.2 r hr)).1).trans (h.2 r hr)⟩
theorem gG.lt {W:World} {rl:List Nat} (h:gG W rl) {r:Nat} (hr:r ∈ rl):r < W.heap.size:=(Array.getElem?_eq_some_iff.1 (h.2 r hr)).1
theorem qi {n:Nat} {P:Program} {fn:Func} {tmps:Array Value} {R:Ending→World→Prop} (B:Nat) (Inv:World→Prop) (hinv:∀ W r,B < r→Inv W→W.heap[r]?=some (.deferred (some []))→Inv (W.putObj r (.deferred none))) (hend:∀ W,Inv W→LeavesIn Fence.wide n P fn tmps R [] .returning W):∀ (rl:List Nat) (W:World),gG W rl→(∀ r ∈ rl,B < r)→Inv W→LeavesInM Fence.wide n P fn tmps R (marks rl) .returning W
 | [],W,_,_,hI=>hend W hI
 | r::rl,W,hm,hB,hI=>by
  have hr:=hm.2 r (by simp);obtain ⟨h1,h2⟩:=List.nodup_cons.1 hm.1;refine ⟨by simp,.inl ⟨r,_,rfl,run_takeDeferred hr,qi B Inv hinv hend rl _ ⟨h2,fun q hq=>?_⟩ (fun q hq=>hB q (by simp [hq])) (hinv W r (hB r (by simp)) hI hr)⟩⟩;have hne:q ≠ r:=fun e=>h1 (e ▸ hq);rw [jU hne];exact hm.2 q (by simp [hq])
theorem EZ {b l:Nat} {W W':World} {base size n:Nat} {T:TypeId} {v:Value} {xs:List Value} (h:W.ownsRow base T size v n xs) (hk:KpO b l W W') (h1:T ≠ 42) (h2:T ≠ 38):W'.ownsRow base T size v n xs :=
 di h fun g hg=>by
  obtain ⟨cur,e⟩:=gZ h hg;rw [hk.cells g _ _ _ e h1 h2,e]
structure FBx (W:World) (B D:Nat) (sn:Int) (vU:Value) (bK:Nat):Prop where
 d:eX W B (.pointer (some ⟨D,0,none⟩)) 93
 s:eX W (B + 1) (.int .i64 sn) 2
 u:eX W (B + 1 + 1) vU 108
 k:eX W (B + 1 + 1 + 1) (.map (some bK)) 84
theorem FBx.kp {b l0:Nat} {W W':World} {B D:Nat} {sn:Int} {vU:Value} {bK:Nat} (h:FBx W B D sn vU bK) (hk:KpO b l0 W W'):FBx W' B D sn vU bK :=
 ⟨h.d.kp hk (by decide) (by decide),h.s.kp hk (by decide) (by decide),h.u.kp hk (by decide) (by decide),h.k.kp hk (by decide) (by decide)⟩
theorem Kk (w:World) (D:Nat) (sn:Int) (vU:Value) (bK:Nat) {W:World} (hW:W=(((w.alloc (.cells #[.pointer (some ⟨D,0,none⟩)] 93)).alloc (.cells #[.int .i64 sn] 2)).alloc (.cells #[vU] 108)).alloc (.cells #[.map (some bK)] 84)):FBx W w.heap.size D sn vU bK∧Below w.heap.size w W∧W.heap.size=w.heap.size + 1 + 1 + 1 + 1:=by
 obtain ⟨V1,e1⟩:∃ V,V=w.alloc (.cells #[.pointer (some ⟨D,0,none⟩)] 93):=⟨_,rfl⟩;obtain ⟨V2,e2⟩:∃ V,V=V1.alloc (.cells #[.int .i64 sn] 2):=⟨_,rfl⟩;obtain ⟨V3,e3⟩:∃ V,V=V2.alloc (.cells #[vU] 108):=⟨_,rfl⟩;rw [← e1,← e2,← e3] at hW;have t1:V1.heap.size=w.heap.size + 1:=by rw [e1,World.size_alloc]
 have t2:V2.heap.size=w.heap.size + 1 + 1:=by rw [e2,World.size_alloc,t1]
 have t3:V3.heap.size=w.heap.size + 1 + 1 + 1:=by rw [e3,World.size_alloc,t2]
 have f1:Below w.heap.size w V1:=by rw [e1]; exact (Below.refl _ _).alloc (Nat.le_refl _) _
 have f2:Below V1.heap.size V1 V2:=by rw [e2]; exact (Below.refl _ _).alloc (Nat.le_refl _) _
 have f3:Below V2.heap.size V2 V3:=by rw [e3]; exact (Below.refl _ _).alloc (Nat.le_refl _) _
 have f4:Below V3.heap.size V3 W:=by rw [hW]; exact (Below.refl _ _).alloc (Nat.le_refl _) _
 have g1:eX V1 w.heap.size (.pointer (some ⟨D,0,none⟩)) 93:=by rw [e1]; exact World.alloc_heap_new w _
 have g2:eX V2 (w.heap.size + 1) (.int .i64 sn) 2:=by rw [e2,← t1]; exact World.alloc_heap_new V1 _
 have g3:eX V3 (w.heap.size + 1 + 1) vU 108:=by rw [e3,← t2]; exact World.alloc_heap_new V2 _
 have g4:eX W (w.heap.size + 1 + 1 + 1) (.map (some bK)) 84:=by rw [hW,← t3]; exact World.alloc_heap_new V3 _
 have f12:=f1.trans (f2.mono f1.size);have f13:=f12.trans (f3.mono f12.size);exact ⟨⟨((g1.bel f2).bel f3).bel f4,(g2.bel f3).bel f4,g3.bel f4,g4⟩,f13.trans (f4.mono f13.size),by rw [hW,World.size_alloc,t3]⟩
theorem Kl {β:Type} {b l:Nat} {X:World}:OwnFrom X.heap.size (fun (_:β) Y=>KpO b l X Y):=fun s Y Z row hs hg hr=>by
 have key:∀ (g:Nat) (o:Obj),X.heap[g]?=some o→Y.heap[g]?=some o→Z.heap[g]?=some o:=fun g o h1 h2=>(hg.block g (Array.getElem?_eq_some_iff.1 h2).1 fun e=>by
  have h3:=(hr g e.symm).1;have h4:=(Array.getElem?_eq_some_iff.1 h1).1;omega).trans h2
 exact ⟨Nat.le_trans hs.size hg.size,fun g cs T m h h1 h2=>key g _ h (hs.cells g cs T m h h1 h2),fun g o h hc n1 n2=>key g _ h (hs.other g o h hc n1 n2)⟩
structure FoW (w X:World) (v:Value) (out:List Fc):Prop where
 bel:Below w.heap.size w X
 box:eX X w.heap.size v 38
 row:X.ownsRow (w.heap.size + 1) 42 5 v out.length (bI out)
 map:aB fT prog 42 X (w.heap.size + 1) out.length (oG out)
theorem FoW.below {w X X':World} {v:Value} {out:List Fc} (h:FoW w X v out) (hb:Below X.heap.size X X'):FoW w X' v out :=
 ⟨h.bel.trans (hb.mono h.bel.size),h.box.bel hb,aK h.row hb,h.map.below hb⟩
theorem FoW.kept {w X X':World} {v:Value} {out:List Fc} (h:FoW w X v out) {row:Option Nat} (hg:X.grownBy X' row) (hr:∀ r,row=some r→w.heap.size + 1 < r∧(∃ o,X.heap[r]?=some o∧o.isCells=false)):FoW w X' v out where
 bel:=h.bel.grown hg h.bel.size (fun g e=>by have:=(hr g e).1; omega)
 box:=(hg.block _ (Array.getElem?_eq_some_iff.1 h.box).1 fun e=>by have:=(hr _ e.symm).1; omega).trans h.box
 row:=di h.row fun g hg2=>hg.block g (h.row.lt g hg2).2 fun e=>by
  obtain ⟨-,o,ho,hc⟩:=hr g e.symm;obtain ⟨cur,e2⟩:=gZ h.row hg2;rw [e2] at ho; cases ho; cases hc
 map:=h.map.kept hg (fun e=>by have:=(hr _ e.symm).1; omega)
theorem FoW.step {w X Y V:World} {v v':Value} {out:List Fc} {f:Fc} [DecidableEq Fc] (h:FoW w X v out) (hM:aB fT prog 42 Y (w.heap.size + 1) (out.length + 1) (iU (oG out) f (some (.agg #[])))) (hg1:X.grownBy Y (some (w.heap.size + 1)))
  {Y':World} (hY':Below Y.heap.size Y Y') (hown:V.ownsRow (w.heap.size + 1) 42 5 v' (out.length + 1) (bI out ++ f.row)) (hg2:Y'.grownBy V v.ownBlock) (hat:v'.ownBlock=v.ownBlock ∨ v'.ownBlock=some Y'.heap.size) (l:Nat) :
  FoW w (V.setCell ⟨w.heap.size,0,none⟩ v') v' (out ++ [f])∧KpO (w.heap.size + 1) l X (V.setCell ⟨w.heap.size,0,none⟩ v')∧KeepsFrom (w.heap.size + 1 + 1) X (V.setCell ⟨w.heap.size,0,none⟩ v'):=by
 obtain ⟨es,c,hmb⟩:=kG h.map;have hlB:w.heap.size < X.heap.size:=(Array.getElem?_eq_some_iff.1 h.box).1;have hvB:v.ownBlock ≠ some w.heap.size:=fun e=>by have:=(h.row.lt _ e).1; omega
 have hvM:v.ownBlock ≠ some (w.heap.size + 1):=fun e=>zf h.row e hmb;have key:∀ (g:Nat) (o:Obj),X.heap[g]?=some o→g ≠ w.heap.size + 1→g ≠ w.heap.size→v.ownBlock ≠ some g→(V.setCell ⟨w.heap.size,0,none⟩ v').heap[g]?=some o:=fun g o hg n1 n2 n3=>by
  have hl:=(Array.getElem?_eq_some_iff.1 hg).1;have y1:Y.heap[g]?=some o:=(hg1.block g hl (fun e=>n1 (by injection e))).trans hg;have hl1:=(Array.getElem?_eq_some_iff.1 y1).1;have y2:Y'.heap[g]?=some o:=(hY'.block g hl1).trans y1;have hl2:=(Array.getElem?_eq_some_iff.1 y2).1;have y3:V.heap[g]?=some o:=(hg2.block g hl2 (fun e=>n3 e.symm)).trans y2;exact (heap_setCell_other V ⟨w.heap.size,0,none⟩ g v' n2).trans y3
 have hVB:V.heap[w.heap.size]?=some (.cells #[v] 38 (0,0)):=by
  have y1:Y.heap[w.heap.size]?=_:=(hg1.block _ hlB (fun e=>by injection e with e; omega)).trans h.box;have y2:Y'.heap[w.heap.size]?=_:=(hY'.block _ (Array.getElem?_eq_some_iff.1 y1).1).trans y1;exact (hg2.block _ (Array.getElem?_eq_some_iff.1 y2).1 (fun e=>hvB e.symm)).trans y2
 have b1:Below w.heap.size w Y:=h.bel.grown hg1 h.bel.size (fun g e=>by injection e with e; omega);have b2:Below w.heap.size w Y':=b1.trans (hY'.mono b1.size);have b3:Below w.heap.size w V:=b2.grown hg2 b2.size (fun g e=>by have:=(h.row.lt g e).1; omega);have sz:X.heap.size≤(V.setCell ⟨w.heap.size,0,none⟩ v').heap.size:=by
  have e1:=hg1.size;have e2:=hY'.size;have e3:=hg2.size;simp; omega
 refine ⟨⟨b3.setCell (Nat.le_refl _) _,?_,?_,?_⟩,⟨sz,fun g cs T m hg h1 h2=>?_,fun g o hg hc n1 n2=>?_⟩,⟨sz,fun g o hB hg hc=>?_⟩⟩
 ·have:=heap_setCell_same V w.heap.size 0 #[v] _ v' hVB;unfold eX;simpa using this
 ·rw [kz,List.length_append];exact di hown fun g hg=>heap_setCell_other V ⟨w.heap.size,0,none⟩ g v' (fun (e:g=w.heap.size)=>by have:=(hown.lt g hg).1; omega)
 ·rw [List.length_append,← zK];exact ((hM.below hY').kept hg2 (fun e=>hvM e.symm)).setCell (by show w.heap.size + 1 ≠ w.heap.size; omega) _
 ·refine key g _ hg (fun e=>?_) (fun e=>?_) (fun e=>?_)
  ·rw [e,hmb] at hg; cases hg
  ·rw [e,h.box] at hg; injection hg with hg; injection hg with _ hT; exact h2 hT.symm
  ·obtain ⟨cur,e2⟩:=gZ h.row e;rw [e2] at hg; injection hg with hg; injection hg with _ hT; exact h1 hT.symm
 ·refine key g _ hg n2 (fun e=>?_) (fun e=>?_)
  ·rw [e,h.box] at hg; injection hg with hg; subst hg; cases hc
  ·obtain ⟨cur,e2⟩:=gZ h.row e;rw [e2] at hg; injection hg with hg; subst hg; cases hc
 ·refine key g _ hg (by omega) (by omega) (fun e=>?_);obtain ⟨cur,e2⟩:=gZ h.row e;rw [e2] at hg; injection hg with hg; subst hg; cases hc
theorem jq.dropF {w:World} {ad:Option Addr} {fs:List Fc} (h:jq w ad fs) (k:Nat):jq w (Option.map (fun x=>Addr.add x (k * 5)) ad) (fs.drop k):=by
 rcases h with h | ⟨b,off,e,hb,hr⟩
 ·exact .inl (by rw [h]; simp)
 ·have ea:Option.map (fun x=>Addr.add x (k * 5)) ad=some ⟨b,off + k * 5,none⟩:=by
   rw [e];simp [Addr.add]
  refine .inr ⟨b,off + k * 5,ea,hb,fun i hi=>?_⟩;have hi2:k + i < fs.length:=by rw [List.length_drop] at hi; omega
  have h1:=hr (k + i) hi2;have e2:(fs.drop k)[i]=fs[k + i]:=by simp
  rw [e2];have e3:off + k * 5 + i * 5=off + (k + i) * 5:=by omega
  rw [e3]; exact h1
theorem Km {w:World} {base size n cap:Nat} {T:TypeId} {ad:Option Addr} {xs:List Value} (h:w.ownsRow base T size (.slice ad n cap) n xs):n≤cap:=by
 rcases h.2 with ⟨e,h0⟩ | ⟨g,cap',cur,e,h1,h2,h3,h4,h5,-⟩
 ·omega
 ·injection e with _ _ e3;omega
theorem Jc {Y Y1 Y2 V:World} {B:Nat} {v:Value} {T:TypeId} (h:eX Y B v T) (hg1:Y.grownBy Y1 (some (B + 1))) (hY2:Below Y1.heap.size Y1 Y2) (hg2:Y2.grownBy V v.ownBlock) (hv:v.ownBlock ≠ some B):eX V B v T:=by
 have y1:Y1.heap[B]?=_:=(hg1.block _ (Array.getElem?_eq_some_iff.1 h).1 (fun e=>by injection e with e; omega)).trans h;have y2:Y2.heap[B]?=_:=(hY2.block _ (Array.getElem?_eq_some_iff.1 y1).1).trans y1;exact (hg2.block _ (Array.getElem?_eq_some_iff.1 y2).1 (fun e=>hv e.symm)).trans y2
theorem Jd {B B':Nat} {W W':World} (h:KeepsFrom B W W') (hB:B≤B'):KeepsFrom B' W W':=⟨h.size,fun k o hk h1 h2=>h.same k o (Nat.le_trans hB hk) h1 h2⟩
theorem KpO.after {b l l':Nat} {X Y Z:World} (h:KpO b l X Y) (k:KpO b l' Y Z) (hl:X.heap.size≤l'):KpO b l X Z :=
 ⟨Nat.le_trans h.size k.size,fun g cs T m hg h1 h2=>k.cells g cs T m (h.cells g cs T m hg h1 h2) h1 h2,fun g o hg hc h1 h2=>k.other g o (h.other g o hg hc h1 h2) hc (fun e=>by have:=(Array.getElem?_eq_some_iff.1 hg).1; omega) h2⟩
set_option maxRecDepth 100000 in
theorem qj (ad:Option Addr) (cap:Nat) (rs:List TR) (w:World) (hlen:rs.length≤6) (hs:eY w ad rs) (hl:∀ r ∈ rs,r.light) (hrl:∀ r ∈ rs,r.rows.length≤6) (hel:∀ r ∈ rs,∀ q ∈ r.rows,q.rows.length≤15∧∀ e ∈ q.rows,bQ q.rows.length e.e.kids) (hF:Found (ae rs)) :
    Calls prog 60 #[.slice ad rs.length cap] w fun e w'=>((∃ ad' cap' out,e=.returned (.tuple #[.slice ad' out.length cap',.bool true])∧CO w' ad' out∧fO out=aj (ae rs)∧Least (ae rs) (dU out)) ∨ (e=.returned (.tuple #[.slice none 0 0,.bool false])∧¬ ∃ f,Sol (ae rs) f))∧Below w.heap.size w w':=by
  have HS:Hid (eY w ad rs):=hs;have HL:Hid (∀ r ∈ rs,r.light):=hl;have HRL:Hid (∀ r ∈ rs,r.rows.length≤6):=hrl;have HEL:Hid (∀ r ∈ rs,∀ q ∈ r.rows,q.rows.length≤15∧∀ e ∈ q.rows,bQ q.rows.length e.e.kids):=hel;have HF:Hid (Found (ae rs)):=hF;clear hs hl hrl hel hF;obtain ⟨i0,hi,hz0,hz1,hz2⟩:=info_parts JZ;go_enter func60,ntmps60;have hbA:Hid (Below w.heap.size w (w.alloc (.cells #[] 114))):=(Below.refl _ _).alloc (Nat.le_refl _) _;have hown1:Hid ((w.alloc (.cells #[] 114)).ownsRow w.heap.size 114 3 (.slice (some ⟨w.heap.size,0,none⟩) 0 0) 0 []):=World.ownsRow_made w #[] 0 (Nat.le_refl _) (by decide) rfl;go_wp2_with fail;go_loopw [4,5] (fun v i wr=>∃ k:Nat,k≤rs.length∧i=.int .i64 k∧Hid (wr.ownsRow w.heap.size 114 3 v (bG rs k).length (fP (Ac (bG rs k))))∧Hid (Below w.heap.size w wr)) (fun _ i _=>rs.length - (intOf i).toNat);case atStart=>exact ⟨0,Nat.zero_le _,rfl,hown1,hbA⟩
  case round =>
    clear hown1 hbA;obtain ⟨k,hk,rfl,HOW,HB⟩:=hrel;by_cases hlt:k < rs.length
    · have hk1:=aY k;have hk2:(k:Int) < (rs.length:Int):=by omega
      have HU:Hid ((bG rs k).length≤k * 6):=qQ rs HRL.out k;have HR6:Hid (rs[k].rows.length≤6):=HRL.out _ (List.getElem_mem hlt);obtain ⟨wo,hwo⟩:∃ wo,wo=wr:=⟨_,rfl⟩;subst hwo;go_wp2_with fail;go_loopw [4,6] (fun v i w2=>∃ j:Nat,j≤rs[k].rows.length∧i=.int .i64 j∧Hid (w2.ownsRow w.heap.size 114 3 v (bG rs k ++ gy rs[k] j).length (fP (Ac (bG rs k ++ gy rs[k] j))))∧Hid (Below w.heap.size w w2)) (fun _ i _=>rs[k].rows.length - (intOf i).toNat);case atStart=>exact ⟨0,Nat.zero_le _,rfl,(by simpa [gy] using HOW),HB⟩
      case round =>
        obtain ⟨j,hj,rfl,HO2,HB2⟩:=hrel;rcases HS.out.below HB2.out with rfl | ⟨b,off,rfl,hb,hr,hok⟩
        · simp at hlt
        have hbw:b < w.heap.size:=by
          rcases HS.out with h | ⟨b',off',e,hb',-⟩
          · rw [h] at hlt; simp at hlt
          · injection e with e; injection e with e1 e2; omega
        obtain ⟨t0,t1⟩:=hr k hlt;have HOK:Hid (rs[k].ok _):=hok rs[k] (List.getElem_mem hlt);have HOKW:Hid (rs[k].ok w):=HS.out.mem (List.getElem_mem hlt);clear hr hok;by_cases hjl:j < rs[k].rows.length
        · rcases HOK.out with hnil | ⟨b2,off2,had,hb2,hr2,-⟩
          · rw [hnil] at hjl; simp at hjl
          have hbw2:b2 < w.heap.size:=by
            rcases HOKW.out with h | ⟨b',off',e,hb',-⟩
            · rw [h] at hjl; simp at hjl
            · rw [had] at e; injection e with e; injection e with e1 e2; omega
          have t1':=t1;rw [had] at t1';obtain ⟨q0,q1⟩:=hr2 j hjl;have hj1:=aY j;have hj2:(j:Int) < (rs[k].rows.length:Int):=by omega
          have a1:u4.ownBlock ≠ some b:=fun e=>by have:=(HO2.out.lt _ e).1; omega
          have a2:u4.ownBlock ≠ some b2:=fun e=>by have:=(HO2.out.lt _ e).1; omega
          have l4:w.heap.size≤wr.heap.size:=HB2.out.size;obtain ⟨xs,hxs⟩:∃ xs,xs=fP (Ac (bG rs k ++ gy rs[k] j)):=⟨_,rfl⟩;obtain ⟨n,hn⟩:∃ n,n=(bG rs k ++ gy rs[k] j).length:=⟨_,rfl⟩;have hown:=HO2.out;rw [← hxs,← hn] at hown;have hnl:n≤1000:=by
            have h1:=HU.out;have h2:=xM rs[k] j;have h3:=HR6.out;rw [hn,List.length_append]; omega
          have HFX:Hid (fP (Ac (bG rs k ++ gy rs[k] (j + 1)))=xs ++ [.string rs[k].name,.string rs[k].rows[j].name,.int .i64 0]):=by
            show _=_;rw [oD _ _ hjl,← List.append_assoc,IC,uV,← hxs]; rfl
          have HNN:Hid ((bG rs k ++ gy rs[k] (j + 1)).length=n + 1):=by show _=_; rw [oD _ _ hjl,← List.append_assoc,List.length_append,← hn]; rfl
          clear hr2 had t1 hxs hn HO2;go_wp2_with fail
          go_region_held3 (fun w'=>w'.cell? ⟨b,off + k * 2,none⟩=some (.string rs[k].name)∧w'.cell? ⟨b,off + k * 2 + 1,none⟩=some (.slice (some ⟨b2,off2,none⟩) rs[k].rows.length rs[k].cap)∧w'.cell? ⟨b2,off2 + j * 2,none⟩=some (.string rs[k].rows[j].name))
            (first
              | go_keep
              | (go_split_ands
                 refine ⟨?_,?_,?_⟩
                 · (rw [hgrow.cell_far _ (by simp; omega) (Ne.symm a1)]; assumption)
                 · (rw [hgrow.cell_far _ (by simp; omega) (Ne.symm a1)]; assumption)
                 · (rw [hgrow.cell_far _ (by simp; omega) (Ne.symm a2)]; assumption)))
            ((refine step_append_lies _ (by rfl) _ _ _ (by rfl) w.heap.size 114 i0 _ 3 40 underlying110 hi hz0 hz1 hz2 rfl (by omega) u4 n xs (by rfl) ((hown.alloc _).drew)
                ⟨wr.heap.size,0,none⟩ 1 1 [.string rs[k].name,.string rs[k].rows[j].name,.int .i64 0] (by rfl) (by rfl) (World.news_of_block (cs:=#[.string rs[k].name,.string rs[k].rows[j].name,.int .i64 0]) (t:=114) (fr:=(0,0)) (heap_alloc_new wr _)) (by simp [Value.oneCell'])
                (by omega) (by unfold maxLen; omega) (by omega) (by simp; omega) (wr.heap.size + 1) (by simp) ?_; intro gg cp w5 hown5 hgrow hat hlt5))
          have hb5:Hid (Below w.heap.size w w5):=((HB2.out.alloc HB2.out.size _).drew).grown hgrow (by simp; omega) (fun i hi=>(hown.lt i hi).1);have HO5:Hid (w5.ownsRow w.heap.size 114 3 (.slice (some ⟨gg,0,none⟩) (n + 1) cp) (bG rs k ++ gy rs[k] (j + 1)).length (fP (Ac (bG rs k ++ gy rs[k] (j + 1))))):=by
            show World.ownsRow _ _ _ _ _ _ _;rw [HFX.out,HNN.out]; exact hown5
          have h6:=HR6.out;clear hown5 hgrow hat hown;go_wp2;go_roundw;case rel=>exact ⟨j + 1,by omega,by go_num,HO5,hb5⟩
          case measure=>simp [intOf] <;> omega
        · obtain rfl:j=rs[k].rows.length:=by omega
          have HO5:Hid (wr.ownsRow w.heap.size 114 3 u4 (bG rs (k + 1)).length (fP (Ac (bG rs (k + 1))))):=by
            show World.ownsRow _ _ _ _ _ _ _;rw [kF _ _ hlt]; exact HO2.out
          clear HO2;go_wp2;go_roundw;case rel=>exact ⟨k + 1,by omega,by go_num,HO5,HB2⟩
          case measure=>simp [intOf] <;> omega
    · obtain rfl:k=rs.length:=by omega
      have HE0:Hid (bG rs rs.length=aj (ae rs)):=by show _=_; unfold bG; rw [List.take_length]
      have HN36:Hid ((aj (ae rs)).length≤36):=by
        have h1:=qQ rs HRL.out rs.length;have h2:=HE0.out;show _≤_;rw [← h2]; omega
      obtain ⟨n,hn⟩:∃ n,n=(aj (ae rs)).length:=⟨_,rfl⟩;have hown:=HOW.out;rw [HE0.out,← zm] at hown;obtain ⟨adO,cpO,g,rfl,hrow⟩:=J5 HB.out hown;have HP0:Hid (Pass (ae rs) n true (Ac (aj (ae rs)))):=Pass.zero hn;have HR0:Hid (RowS w wr adO g (Ac (aj (ae rs)))):=hrow;have hn36:n≤36:=by rw [hn]; exact HN36.out
      have HNN:Hid (n=(aj (ae rs)).length):=hn;rw [zm,← hn];clear hown HOW hrow hn HE0 HN36 HB;go_wp2_with fail;go_loopw [7] (fun m w1=>∃ (mb:Bool) (out:List St),m=.bool mb∧Hid (Pass (ae rs) n mb out)∧Hid (RowS w w1 adO g out)) (fun m w1=>xP w1 g n m);case atStart=>exact ⟨true,_,rfl,HP0,HR0⟩
      case round =>
        clear HP0 HR0;obtain ⟨mb,oS,rfl,HPS,HRS⟩:=hrel;cases mb with
        | false =>
          go_wp2;exact bodyPost_ret (v:=.tuple #[.slice adO n cpO,.bool true]) (by simp [results,Tryz.results60,go_sem]) rfl ⟨.inl ⟨adO,cpO,oS,by rw [HPS.out.len],HRS.out.slN,HPS.out.round.keys,HPS.out.least⟩,HRS.out.below⟩
        | true =>
          have HSL:Hid (oS.length=n):=HPS.out.len;have HM0:Hid (Mid (ae rs) n oS 0 0 false oS):=Mid.start HPS.out.len HPS.out.nn HPS.out.round HPS.out.le;obtain ⟨w0,hw0⟩:∃ w0,w0=wr:=⟨_,rfl⟩;subst hw0;go_wp2_with fail;go_loopw [7,8] (fun m i w1=>∃ (mb:Bool) (k:Nat) (out:List St),m=.bool mb∧k≤n∧i=.int .i64 k∧Hid (Mid (ae rs) n oS k 0 mb out)∧Hid (RowS w w1 adO g out)) (fun _ i _=>n - (intOf i).toNat);case atStart=>exact ⟨false,0,oS,rfl,Nat.zero_le _,rfl,HM0,HRS⟩
          case round =>
            clear HM0;obtain ⟨mb,k,out,rfl,hk,rfl,HM,HR⟩:=hrel;by_cases hlt:k < n
            · have hko:k < out.length:=by rw [HM.out.len]; exact hlt
              have hke:k < (aj (ae rs)).length:=by rw [← HNN.out]; exact hlt
              have hk1:=aY k;have hk2:(k:Int) < (n:Int):=by omega
              rcases HR.out.at' with e | ⟨rfl,hgw,hgl,hO,-⟩
              · rw [e] at hko; simp at hko
              obtain ⟨c0,c1,c2⟩:=hO k hko;have HKE:Hid (out[k].key=(aj (ae rs))[k]):=HM.out.key hko hke;have HBW:∀ w',Below wr.heap.size wr w'→eY w' ad rs:=fun w' h=>HS.out.below (HR.out.below.trans (h.mono HR.out.below.size));have c3:wr.drew.cell? ⟨g,k * 3,none⟩=some (.string out[k].typ)∧wr.drew.cell? ⟨g,k * 3 + 1,none⟩=some (.string out[k].rel)∧g < wr.drew.heap.size∧Below wr.heap.size wr wr.drew:=⟨c0,c1,hgl,(Below.refl _ _).drew⟩;clear hO c2;go_wp2_with fail
              go_region_held3 (fun w'=>w'.cell? ⟨g,k * 3,none⟩=some (.string out[k].typ)∧w'.cell? ⟨g,k * 3 + 1,none⟩=some (.string out[k].rel)∧g < w'.heap.size∧Below wr.heap.size wr w')
                (first | exact c3 | assumption | exact keepD (by assumption) hbx)
                (first | (go_at_call 57; refine (fG ad cap rs _ _ _ (by omega) (HBW _ (by first | assumption | exact c3.2.2.2)) HL.out).mono ?_; rintro e w' ⟨⟨rows,adE,capE,rfl,hex,hse,hfs⟩,rfl⟩) | (go_at_call 84; refine (Dj ad adE cap capE rs _ rows _ (by omega) (HBW _ (by first | assumption | exact c3.2.2.2)) HL.out (hfs.small HEL.out).1 hse (hfs.light HL.out).2 (hfs.small HEL.out).2 (uZ rs HL.out _ rows (hfs.small HEL.out).1 (hfs.light HL.out).2)).mono ?_; rintro e w' ⟨⟨v,rfl,hown⟩,hbx⟩))
              rename_i hHeld;have HB5:Hid (Below wr.heap.size wr w'):=hHeld.2.2.2;have HR5:Hid (RowS w w' (some ⟨g,0,none⟩) g out):=HR.out.kept hHeld.2.2.2;have HDK:Hid (lG (ae rs) out[k].typ (ah rows)=fM (ae rs) (aj (ae rs))[k]):=by
                show _=_;rw [← HKE.out,hex]; rfl
              obtain ⟨ds,hds⟩:∃ ds,ds=fM (ae rs) (aj (ae rs))[k]:=⟨_,rfl⟩;rw [HDK.out,← hds] at hown;obtain ⟨adD,cpD,rfl,hD⟩:=L9 hown;have HD5:Hid (JY w' wr.heap.size adD ds):=hD;have hdl:ds.length≤100000000:=by
                have:=uZ rs HL.out out[k].typ rows (hfs.small HEL.out).1 (hfs.light HL.out).2 (ah rows).length;have e:=HDK.out;unfold lG at e;rw [e,← hds] at this;exact this
              have HDS:Hid (ds=fM (ae rs) (aj (ae rs))[k]):=hds;have HKM:Hid ((aj (ae rs))[k] ∈ aj (ae rs)):=List.getElem_mem hke;clear hHeld hown hD hds HDK c0 c1 c3 hex hse hfs hbx HBW HKE;obtain ⟨wq,hwq⟩:∃ wq,wq=wr:=⟨_,rfl⟩;subst hwq;go_wp2_with fail;go_loopw [7,10] (fun m i w2=>∃ (mb:Bool) (j:Nat) (o2:List St),m=.bool mb∧j≤ds.length∧i=.int .i64 j∧Hid (Mid (ae rs) n oS k j mb o2)∧Hid (RowS w w2 (some ⟨g,0,none⟩) g o2)∧Hid (JY w2 wq.heap.size adD ds)) (fun _ i _=>ds.length - (intOf i).toNat);case atStart=>exact ⟨mb,0,out,rfl,Nat.zero_le _,rfl,HM,HR5,HD5⟩
              case round =>
                clear HM HR HR5 HD5 HB5;obtain ⟨mc,j,o2,rfl,hj,rfl,HM2,HR2,HD2⟩:=hrel;have hko2:k < o2.length:=by rw [HM2.out.len]; exact hlt
                rcases HR2.out.at' with e | ⟨-,hgw2,hgl2,hO2,hfz2⟩
                · rw [e] at hko2; simp at hko2
                have f2:=hfz2 (k * 3 + 2);obtain ⟨z0,z1,z2⟩:=hO2 k hko2;by_cases hjl:j < ds.length
                · rcases HD2.out with e | ⟨bd,rfl,hbd,hbl,hDc⟩
                  · rw [e] at hjl; simp at hjl
                  obtain ⟨x0,x1,x2⟩:=hDc j hjl;have HKE2:Hid (o2[k].key=(aj (ae rs))[k]):=HM2.out.key hko2 hke;have HDJ:Hid ((fM (ae rs) o2[k].key)[j]?=some ds[j]):=by
                    show _=_;rw [HKE2.out,← HDS.out]; exact List.getElem?_eq_getElem hjl
                  have HDF:Hid ((ds[j].typ,ds[j].rel) ∈ aj (ae rs)):=HF.out _ HKM.out ds[j] (by rw [← HDS.out]; exact List.getElem_mem hjl);obtain ⟨i,hi2,hat,hin,hpos,hub⟩:=HM2.out.at _ HDF.out;obtain ⟨y0,y1,y2⟩:=hO2 i hi2;have hi3:i < n:=by rw [← HM2.out.len]; exact hi2
                  have HW:Hid (kI o2 ds[j]=dU o2 (ds[j].typ,ds[j].rel) + stepOf ds[j]):=rfl;have HL2:Hid (o2.length=n):=HM2.out.len;have HSN:Hid (CO wr (some ⟨g,0,none⟩) o2):=HR2.out.slN;rw [hin] at y2;obtain ⟨x,hx⟩:∃ x,x=dU o2 (ds[j].typ,ds[j].rel):=⟨_,rfl⟩;have HX:Hid (kI o2 ds[j]=x + stepOf ds[j]):=by rw [hx]; exact HW
                  rw [← hx] at hpos hub y2;obtain ⟨kn,hkn⟩:∃ kn,kn=o2[k].n:=⟨_,rfl⟩;rw [← hkn] at z2;have HKN:Hid (kn=o2[k].n):=hkn;have hkn1:0≤kn:=by rw [hkn]; exact HM2.out.round.pos _ (List.getElem_mem hko2)
                  have hkn2:kn≤n + 1 + j:=by rw [hkn]; exact HM2.out.lek hko2
                  have hj1:=aY j;have hj2:(j:Int) < (ds.length:Int):=by omega
                  have hi4:=aY i;have hi5:(i:Int) < (n:Int):=by omega
                  have HAT:Hid (eT ds[j].typ ds[j].rel o2 0=(i:Int)):=hat;have hx5:(2:Int) < 5:=by omega
                  clear hfz2 hO2 hDc hx hkn hin y0 y1 hi2 HW hat z0 z1;go_wp2_with fail
                  go_region_held3 (fun w'=>w'.cell? ⟨bd,j * 3,none⟩=some (.string ds[j].typ)∧w'.cell? ⟨bd,j * 3 + 1,none⟩=some (.string ds[j].rel)∧w'.cell? ⟨g,i * 3 + 2,none⟩=some (.int .i64 x))
                    (first | assumption | exact ⟨x0,x1,y2⟩)
                    (first | (go_at_call 85; refine (Lb (some ⟨g,0,none⟩) cpO n o2 (ds[j].typ,ds[j].rel) _ HL2.out (by omega) (by first | exact HSN.out | assumption) i HAT.out).mono ?_; rintro e w' ⟨rfl,rfl⟩))
                  rename_i hHeld2;have HR3:Hid (RowS w wr.drew (some ⟨g,0,none⟩) g o2):=HR2.out.kept ((Below.refl _ _).drew);have HD3:Hid (JY wr.drew wq.heap.size (some ⟨bd,0,none⟩) ds):=HD2.out;clear hHeld2 x0 x1 y2;cases hneg:ds[j].neg with
                  | true =>
                    have HX2:Hid (kI o2 ds[j]=x + 1):=by show _=_; rw [HX.out]; simp [stepOf,hneg]
                    rw [hneg] at x2;by_cases hgt:kn < x + 1
                    · have HM3:Hid (Mid (ae rs) n oS k (j + 1) true (o2.set k ⟨o2[k].typ,o2[k].rel,x + 1⟩)):=by
                        have:=HM2.out.yes HF.out hko2 ds[j] HDJ.out (by rw [HX2.out,← HKN.out]; exact hgt);rw [HX2.out] at this; exact this
                      have HR4:Hid (RowS w (wr.drew.setCell ⟨g,k * 3 + 2,none⟩ (.int .i64 (x + 1))) (some ⟨g,0,none⟩) g (o2.set k ⟨o2[k].typ,o2[k].rel,x + 1⟩)):=HR3.out.set hko2 (x + 1);have HD4:Hid (JY (wr.drew.setCell ⟨g,k * 3 + 2,none⟩ (.int .i64 (x + 1))) wq.heap.size (some ⟨bd,0,none⟩) ds):=HD3.out.set hgl;clear HM2 HR2 HR3 HD2 HD3;go_wp2;go_roundw;case rel=>exact ⟨true,j + 1,_,rfl,by omega,by go_num,HM3,HR4,HD4⟩
                      case measure=>simp [intOf] <;> omega
                    · have HM3:Hid (Mid (ae rs) n oS k (j + 1) mc o2):=HM2.out.no hko2 ds[j] HDJ.out (by rw [HX2.out,← HKN.out]; omega);clear HM2 HR2 HD2;go_wp2;go_roundw;case rel=>exact ⟨mc,j + 1,o2,rfl,by omega,by go_num,HM3,HR3,HD3⟩
                      case measure=>simp [intOf] <;> omega
                  | false =>
                    have HX2:Hid (kI o2 ds[j]=x):=by show _=_; rw [HX.out]; simp [stepOf,hneg]
                    rw [hneg] at x2;by_cases hgt:kn < x
                    · have HM3:Hid (Mid (ae rs) n oS k (j + 1) true (o2.set k ⟨o2[k].typ,o2[k].rel,x⟩)):=by
                        have:=HM2.out.yes HF.out hko2 ds[j] HDJ.out (by rw [HX2.out,← HKN.out]; exact hgt);rw [HX2.out] at this; exact this
                      have HR4:Hid (RowS w (wr.drew.setCell ⟨g,k * 3 + 2,none⟩ (.int .i64 (x))) (some ⟨g,0,none⟩) g (o2.set k ⟨o2[k].typ,o2[k].rel,x⟩)):=HR3.out.set hko2 (x);have HD4:Hid (JY (wr.drew.setCell ⟨g,k * 3 + 2,none⟩ (.int .i64 (x))) wq.heap.size (some ⟨bd,0,none⟩) ds):=HD3.out.set hgl;clear HM2 HR2 HR3 HD2 HD3;go_wp2;go_roundw;case rel=>exact ⟨true,j + 1,_,rfl,by omega,by go_num,HM3,HR4,HD4⟩
                      case measure=>simp [intOf] <;> omega
                    · have HM3:Hid (Mid (ae rs) n oS k (j + 1) mc o2):=HM2.out.no hko2 ds[j] HDJ.out (by rw [HX2.out,← HKN.out]; omega);clear HM2 HR2 HD2;go_wp2;go_roundw;case rel=>exact ⟨mc,j + 1,o2,rfl,by omega,by go_num,HM3,HR3,HD3⟩
                      case measure=>simp [intOf] <;> omega
                · obtain rfl:j=ds.length:=by omega
                  have HKE2:Hid (o2[k].key=(aj (ae rs))[k]):=HM2.out.key hko2 hke;have HJ:Hid (ds.length=(fM (ae rs) o2[k].key).length):=by show _=_; rw [HKE2.out,← HDS.out]
                  clear z0 z1 hO2 hfz2 f2;by_cases hov:(n:Int) < o2[k].n
                  · have HNO:Hid (¬ ∃ f,Sol (ae rs) f):=HM2.out.over HF.out hko2 hov;have hkn2:o2[k].n≤n + 1 + ds.length:=HM2.out.lek hko2;go_wp2;exact bodyPost_ret (v:=.tuple #[.slice none 0 0,.bool false]) (by simp [results,Tryz.results60,go_sem]) rfl ⟨.inr ⟨rfl,HNO.out⟩,HR2.out.below⟩
                  · have HM3:Hid (Mid (ae rs) n oS (k + 1) 0 mc o2):=HM2.out.next hko2 HJ.out (by omega);clear HM2;go_wp2;go_roundw;case rel=>exact ⟨mc,k + 1,o2,rfl,by omega,by go_num,HM3,HR2⟩
                    case measure=>simp [intOf] <;> omega
            · obtain rfl:k=n:=by omega
              have HP2:Hid (Pass (ae rs) k mb out):=HM.out.done rfl;have HLS:Hid (xP wr g k (.bool mb) < xP w0 g k (.bool true)):=Dq HRS.out HR.out HM.out HSL.out;go_wp2;go_roundw;case rel=>exact ⟨mb,out,rfl,HP2,HR⟩
              case measure=>exact HLS.out
end Go.Proofs.YtdaoiceeidoehaaGreat
