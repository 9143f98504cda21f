/- The users of some facts, in their order, as the program keeps them. -/
import Derived.Test.YtdmniljjnaebbaaGreatDoorJ32
import Derived.Maps.OwnIn
open Go.Proofs.Tryz
set_option maxHeartbeats 80000000
namespace Go.Proofs.YtdmniljjnaebbaaGreatDoor
set_option linter.unusedVariables false
set_option maxRecDepth 100000
open Go.ChangeShapes Go.WideShapes Go.ChangeAt Go.RowKit Go.Maps
open Pl
def L6 (u:Al) (g:Fc):Bool:=uI g.c g.d u.t u.s
theorem IL (p:Fc→Bool) {zs:List Fc} {k:Nat} (h:k < zs.length):(zs.drop k).any p=(p zs[k] || (zs.drop (k + 1)).any p):=by rw [List.drop_eq_getElem_cons h]; rfl
theorem yh.at0 {w:World} {ad:Option Addr} {fs:List Fc} (h:yh w ad fs) {k:Nat} (hk:k < fs.length):∃ b off,ad=some ⟨b,off,none⟩∧Kb w b (off + k * 5) fs[k]∧b < w.heap.size:=by
 rcases h with h | ⟨b',off',e,hb,hr⟩
 ·rw [h] at hk; simp at hk
 ·exact ⟨b',off',e,hr k hk,hb⟩
theorem L8 (g:Nat) (u:Al) (f:Fc) (w:World) (hg:g < w.heap.size) (h0:w.cell? ⟨g,0,none⟩=some (.string u.t)) (h1:w.cell? ⟨g,1,none⟩=some (.string u.s)) :
  Calls prog 136 #[.agg #[.string f.a,.string f.b,.string f.r,.string f.c,.string f.d],.pointer (some ⟨g,0,none⟩)] w fun e w'=>e=.returned (.bool (L6 u f))∧Below w.heap.size w w':=by
 have HB:Hid (Below w.heap.size w (w.alloc (.cells #[.string f.a,.string f.b,.string f.r,.string f.c,.string f.d] 63))):=(Below.refl _ _).alloc (Nat.le_refl _) _;have heq:=dY f.c f.d u.t u.s rfl;go_enter func136,ntmps136;go_wp2;go_ret;exact ⟨rfl,HB.out⟩
theorem Nj (xs:Array Value) (u:World):(callFunc 136 xs).run prog u=.ok (.enter 136 xs) u:=by kernel_rfl
theorem DI (FC:Nat) (rc cp:Array Value) (p:Fc→Bool) (ad:Option Addr) (cap:Nat) (xs:List Fc) (w:World) (hlen:xs.length≤1048576) (hs:yh w ad xs)
  (hrun:∀ (ys:Array Value) (u:World),(callFunc FC ys).run prog u=.ok (.enter FC ys) u) (hp:∀ x ∈ xs,∀ w1:World,Below w.heap.size w w1→Calls prog FC (rc.push (.agg #[.string x.a,.string x.b,.string x.r,.string x.c,.string x.d]) ++ cp) w1 fun e w'=>e=.returned (.bool (p x))∧Below w1.heap.size w1 w') :
  Calls prog 176 #[.slice ad xs.length cap,.func (Fn.func FC) rc cp] w fun e w'=>(∃ r:Int,e=.returned (.int .i64 r)∧decide (0≤r)=xs.any p)∧Below w.heap.size w w':=by
 have HS:=ay hs;have HRUN:=ay hrun;have HP:=ay hp;clear hs hrun hp;have HD:Hid (∀ k (h:k < xs.length),(xs.drop k).any p=(p xs[k] || (xs.drop (k + 1)).any p)):=fun k h=>IL p h;go_enter func176,ntmps176;go_wp2_with fail;go_loopw [8] (fun i wr=>∃ k:Nat,k≤xs.length∧i=.int .i64 k∧Hid ((xs.drop k).any p=xs.any p)∧Hid (Below w.heap.size w wr)) (fun i _=>xs.length - (intOf i).toNat);case atStart=>exact ⟨0,Nat.zero_le _,rfl,rfl,Below.refl _ _⟩
 case round =>
  obtain ⟨k,hk,rfl,HQ,HB⟩:=hrel;by_cases hlt:k < xs.length
  ·obtain ⟨b,off,hadr,⟨t0,t1,t2,t3,t4⟩,hbl⟩:=yh.at0 (HS.out.below HB.out) hlt;have HM:Hid (xs[k] ∈ xs):=List.getElem_mem hlt;have hk1:=bq k;have hk2:(k:Int) < (xs.length:Int):=by omega
   have HD2:=ay (HD.out k hlt);subst hadr;go_wp2_with fail;rw [HRUN.out,Oper.upon_enter];refine (HP.out _ HM.out _ HB.out).mono ?_;rintro e w1 ⟨rfl,hb1⟩;have HB1:=fD HB hb1;clear hb1 t0 t1 t2 t3 t4;cases he:p xs[k] with
   | true =>
    have HN:Hid (xs.any p=true):=by show _=_; rw [← HQ.out,HD2.out,he]; rfl
    go_wp2;go_ret;exact ⟨⟨k,rfl,by rw [HN.out]; simp⟩,HB1.out⟩
   | false =>
    have HQ2:Hid ((xs.drop (k + 1)).any p=xs.any p):=by show _=_; rw [← HQ.out,HD2.out,he]; rfl
    go_wp2;go_roundw;case rel=>exact ⟨k + 1,by omega,by go_num,HQ2,HB1⟩
    case measure=>simp [intOf] <;> omega
  ·have HN:Hid (xs.any p=false):=by show _=_; rw [← HQ.out,List.drop_of_length_le (by omega)]; rfl
   go_wp2;go_ret;exact ⟨⟨-1,rfl,by rw [HN.out]; simp⟩,HB.out⟩
theorem xU (FC:Nat) (rc cp:Array Value) (p:Fc→Bool) (ad:Option Addr) (cap:Nat) (xs:List Fc) (w:World) (hlen:xs.length≤1048576) (hs:yh w ad xs)
  (hrun:∀ (ys:Array Value) (u:World),(callFunc FC ys).run prog u=.ok (.enter FC ys) u) (hp:∀ x ∈ xs,∀ w1:World,Below w.heap.size w w1→Calls prog FC (rc.push (.agg #[.string x.a,.string x.b,.string x.r,.string x.c,.string x.d]) ++ cp) w1 fun e w'=>e=.returned (.bool (p x))∧Below w1.heap.size w1 w') :
  Calls prog 135 #[.slice ad xs.length cap,.func (Fn.func FC) rc cp] w fun e w'=>e=.returned (.bool (xs.any p))∧Below w.heap.size w w':=by
 have HC:=ay (DI FC rc cp p ad cap xs w hlen hs hrun hp);clear hs hrun hp;go_enter func135,ntmps135;go_wp2_with fail;refine HC.out.mono ?_;rintro e w' ⟨⟨r,rfl,hr⟩,hbx⟩;have HR:=ay hr;clear hr;go_wp2;go_ret;exact ⟨by rw [← HR.out]; rfl,hbx⟩
theorem FN {us:List Al} {new:List Fc} {k:Nat} (h:k < us.length):dH (us.take (k + 1)) new=dH (us.take k) new ++ (if new.any (L6 us[k]) then [us[k]] else []):=by
 unfold dH;rw [List.take_succ_eq_append_getElem h,List.filter_append];congr 1;rw [List.filter_cons];rfl
theorem z8 (us:List Al) (new:List Fc):(dH us new).length≤us.length:=List.length_filter_le _ _
theorem nG (adU:Option Addr) (capU:Nat) (us:List Al) (adF:Option Addr) (capF:Nat) (new:List Fc) (w:World) (hul:us.length≤1000) (hnl:new.length≤1048576) (hu:gu w adU us) (hf:yh w adF new) :
  Calls prog 97 #[.slice adU us.length capU,.slice adF new.length capF] w fun e w'=>(∃ v,e=.returned v∧w'.ownsRow w.heap.size 40 2 v (dH us new).length (pairs (dH us new)))∧Below w.heap.size w w':=by
 obtain ⟨iO,h0,h1,h2,h3⟩:=xJ;have HIO:=aj (And.intro h0 (And.intro h1 (And.intro h2 h3)));have HU:=aj hu;have HF:=aj hf;have HO0:Hid (w.ownsRow w.heap.size 40 2 (.slice none 0 0) (dH (us.take 0) new).length (pairs (dH (us.take 0) new))):=World.ownsRow_nil _ _ _ _;clear hu hf h0 h1 h2 h3;go_enter func97,ntmps97;go_wp2_with fail;go_loopw [5,10] (fun v i wr=>∃ k:Nat,k≤us.length∧i=.int .i64 k∧Hid (wr.ownsRow w.heap.size 40 2 v (dH (us.take k) new).length (pairs (dH (us.take k) new)))∧Hid (Below w.heap.size w wr)) (fun _ i _=>us.length - (intOf i).toNat);case atStart=>exact ⟨0,Nat.zero_le _,rfl,HO0,Below.refl _ _⟩
 case round =>
  clear HO0;obtain ⟨k,hk,rfl,HO,HB⟩:=hrel;by_cases hlt:k < us.length
  ·obtain ⟨b,off,hadr,⟨t0,t1⟩,hbl⟩:=gu.at0 (HU.out.below HB.out) hlt;have hi1:=bq k;have hi2:(k:Int) < (us.length:Int):=by omega
   have HKT:=aj (FN (new:=new) hlt);have hkl:=z8 (us.take k) new;rw [List.length_take] at hkl;obtain ⟨u,hu⟩:∃ u,u=us[k]:=⟨_,rfl⟩;rw [← hu] at t0 t1 HKT;clear hu;obtain ⟨W1,hW1⟩:∃ W1,W1=wr.alloc (.cells #[.string u.t,.string u.s] 40):=⟨_,rfl⟩;have HBr:=mq hW1;have HB1:=aj (HB.out.trans (HBr.out.mono HB.out.size));have d0:W1.cell? ⟨wr.heap.size,0,none⟩=some (.string u.t):=by rw [hW1]; simp
   have d1:W1.cell? ⟨wr.heap.size,1,none⟩=some (.string u.s):=by rw [hW1]; simp
   have dl:wr.heap.size < W1.heap.size:=aA d0;have HO1:=aj (aH HO.out HBr.out);obtain ⟨ys,hys⟩:∃ ys,ys=dH (us.take k) new:=⟨_,rfl⟩;rw [← hys] at HO1 HKT hkl;obtain ⟨adV,capV,rfl,-⟩:=jg HO1.out;have HCN:=aj (xU 136 #[] #[.pointer (some ⟨wr.heap.size,0,none⟩)] (L6 u) adF capF new W1 hnl (HF.out.below HB1.out) Nj (fun x hx w1 hb=>L8 wr.heap.size u x w1 (Nat.lt_of_lt_of_le dl hb.size) (aU hb dl d0) (aU hb dl d1)));subst hadr;clear hys HO;go_wp2_with fail;rw [← hW1];clear hW1 t0 t1;refine HCN.out.mono ?_;rintro e w2 ⟨rfl,hb2⟩;have HB2:=aj (HB1.out.trans (hb2.mono HB1.out.size));have HO2:=aj (aH HO1.out hb2);replace d0:=aU hb2 dl d0;replace d1:=aU hb2 dl d1;replace dl:=Nat.lt_of_lt_of_le dl hb2.size;clear hb2 HCN HO1 HBr;cases hh:new.any (L6 u) with
   | false =>
    have HR:Hid (w2.ownsRow w.heap.size 40 2 (.slice adV ys.length capV) (dH (us.take (k + 1)) new).length (pairs (dH (us.take (k + 1)) new))):=by
     show World.ownsRow _ _ _ _ _ _ _;rw [HKT.out,hh]; simp only [Bool.false_eq_true,if_false,List.append_nil]; exact HO2.out
    go_wp2;go_roundw;case rel=>exact ⟨k + 1,by omega,by go_num,HR,HB2⟩
    case measure=>simp [intOf] <;> omega
   | true =>
    have HWE:Hid (dH (us.take (k + 1)) new=ys ++ [u]):=by show _=_; rw [HKT.out,hh]; rfl
    obtain ⟨W4,hW4⟩:∃ W4,W4=w2.alloc (.cells #[.string u.t,.string u.s] 40):=⟨_,rfl⟩;have HO4:Hid (W4.ownsRow w.heap.size 40 2 (.slice adV ys.length capV) ys.length (pairs ys)):=by show World.ownsRow _ _ _ _ _ _ _; rw [hW4]; exact HO2.out.alloc _
    have HN4:Hid (∀ j x,[Value.string u.t,.string u.s][j]?=some x→W4.cell? ((⟨w2.heap.size,0,none⟩:Addr).add j)=some x):=by rw [hW4]; exact Gq w2 u
    have HBW4:Hid (Below w.heap.size w W4):=by show Below _ _ _; rw [hW4]; exact HB2.out.alloc HB2.out.size _
    have hsz4:w.heap.size≤W4.heap.size:=HBW4.out.size;clear hh;go_wp2_with (at_builtin; rw [← hW4]; clear hW4; refine wpList_append_own_at _ rfl _ _ 139 rfl w.heap.size 40 iO (.agg #[.string ⟨#[]⟩,.string ⟨#[]⟩]) 2 32 underlying139 HIO.out.1 HIO.out.2.1 HIO.out.2.2.1 HIO.out.2.2.2 rfl (by decide) _ ys.length (pairs ys) rfl HO4.out ⟨w2.heap.size,0,none⟩ 1 1 [.string u.t,.string u.s] rfl rfl HN4.out (by simp [Value.oneCell']) (by unfold maxLen; omega) (by omega) hsz4 ?_);intro v' w5 hown hgr _ _;have HR:Hid (w5.ownsRow w.heap.size 40 2 v' (dH (us.take (k + 1)) new).length (pairs (dH (us.take (k + 1)) new))):=by
     show World.ownsRow _ _ _ _ _ _ _;rw [HWE.out,List.length_append];have:pairs (ys ++ [u])=pairs ys ++ [.string u.t,.string u.s]:=by simp [pairs]
     rw [this]; exact hown
    have HBR:Hid (Below w.heap.size w w5):=HBW4.out.grown hgr HBW4.out.size (fun g hg=>(HO4.out.lt g hg).1);clear hown hgr d0 d1 dl;go_wp2;go_roundw;case rel=>exact ⟨k + 1,by omega,by go_num,HR,HBR⟩
    case measure=>simp [intOf] <;> omega
  ·have HE:Hid (wr.ownsRow w.heap.size 40 2 u5 (dH us new).length (pairs (dH us new))):=by
    have h:=HO.out;rw [List.take_of_length_le (by omega)] at h;exact h
   clear HO;go_wp2;go_ret;exact ⟨⟨_,rfl,HE.out⟩,HB.out⟩
open Go.Shelf
theorem uK {K:Type} {enc:K→Value} {P:Program} {F:Fence} {nF:Nat} (w:World) {ops:Array Oper} {rest:List Oper} {o:Oper} {a:Act} {Q:Exit→Act→World→Prop} [DecidableEq K] (hg:o.guard=none) (m x v:Operand) (t:TypeId) (hop:o.op=Op.mapUpdate t m x v) (k e:TypeId) (L:Keyed P k) (hinj:∀ x y,enc x=enc y→x=y) (ht:P.underlying t=some (.map k e)) (b n:Nat) (M:K→Option Value)
  (hm:a.eval m=.map (some b)) (hV:aD enc P k w b n M) (hn:n < maxLen) (y:K) (kl:Lit) (hx:a.eval x=enc y) (hkey:keyOf P k (enc y)=some kl) (u:Value) (hv:a.eval v=u)
  (hK:∀ w',aD enc P k w' b (n + 1) (ji M y (some u))→w.grownBy w' (some b)→wpListIn F nF P ops Q rest (a.put o.dst undef) w'):wpListIn F nF P ops Q (o::rest) a w:=by
 refine wpListIn_plain hg fun K' hK'=>?_;obtain ⟨w',hrun,r1,r2⟩:=hV.store L hinj ht hn hkey u;unfold Oper.wpIn;refine ⟨by simp [Oper.about,hop],?_⟩;rw [Oper.semAt_plain F _ _ (by rw [hop]; intro c hc'; cases hc')];simp [execOp,hop,hm,hx,hv,hrun,Result.andThen];exact hK' _ _ (hK w' r1 r2)
theorem L9 [DecidableEq Fc] (out:List Fc) (f:Fc):ji (yH out) f (some (.agg #[]))=yH (out ++ [f]):=by
 funext y
 by_cases e:y=f
 ·subst e;rw [dx];unfold yH;rw [if_pos (gH.2 (by simp))]
 ·rw [bn e];unfold yH;have:bf (out ++ [f]) y=bf out y:=by
   rw [Bool.eq_iff_iff,gH,gH];simp [e]
  rw [this]
def marks (rl:List Nat):List Deferred:=rl.map fun r=>{ target:=.collected r,args:=#[] }
def gJ (W:World) (rl:List Nat):Prop:=rl.Nodup∧∀ r ∈ rl,W.heap[r]?=some (.deferred (some []))
theorem gJ.kp {b l:Nat} {W W':World} {rl:List Nat} (h:gJ W rl) (hk:KpO b l W W') (hl:l ∉ rl) (hb:b ∉ rl):gJ W' rl :=
 ⟨h.1,fun r hr=>hk.other r _ (h.2 r hr) rfl (fun e=>hl (e ▸ hr)) (fun e=>hb (e ▸ hr))⟩
theorem gJ.bel {W W':World} {rl:List Nat} (h:gJ W rl) (hb:Below W.heap.size W W'):gJ W' rl :=
 ⟨h.1,fun r hr=>(hb.block r (Array.getElem?_eq_some_iff.1 (h.2 r hr)).1).trans (h.2 r hr)⟩
theorem gJ.lt {W:World} {rl:List Nat} (h:gJ W rl) {r:Nat} (hr:r ∈ rl):r < W.heap.size:=(Array.getElem?_eq_some_iff.1 (h.2 r hr)).1
theorem rD {n:Nat} {P:Program} {fn:Func} {tmps:Array Value} {R:Ending→World→Prop} (B:Nat) (Inv:World→Prop) (hinv:∀ W r,B < r→Inv W→W.heap[r]?=some (.deferred (some []))→Inv (W.putObj r (.deferred none))) (hend:∀ W,Inv W→LeavesIn Fence.wide n P fn tmps R [] .returning W):∀ (rl:List Nat) (W:World),gJ W rl→(∀ r ∈ rl,B < r)→Inv W→LeavesInM Fence.wide n P fn tmps R (marks rl) .returning W
 | [],W,_,_,hI=>hend W hI
 | r::rl,W,hm,hB,hI=>by
  have hr:=hm.2 r (by simp);obtain ⟨h1,h2⟩:=List.nodup_cons.1 hm.1;refine ⟨by simp,.inl ⟨r,_,rfl,run_takeDeferred hr,rD B Inv hinv hend rl _ ⟨h2,fun q hq=>?_⟩ (fun q hq=>hB q (by simp [hq])) (hinv W r (hB r (by simp)) hI hr)⟩⟩;have hne:q ≠ r:=fun e=>h1 (e ▸ hq);rw [kU hne];exact hm.2 q (by simp [hq])
theorem Gt {b l:Nat} {W W':World} {base size n:Nat} {T:TypeId} {v:Value} {xs:List Value} (h:W.ownsRow base T size v n xs) (hk:KpO b l W W') (h1:T ≠ 63) (h2:T ≠ 33):W'.ownsRow base T size v n xs :=
 dz h fun g hg=>by
  obtain ⟨cur,e⟩:=iD h hg;rw [hk.cells g _ _ _ e h1 h2,e]
structure FBx (W:World) (B D:Nat) (sn:Int) (vU:Value) (bK:Nat):Prop where
 d:fw W B (.pointer (some ⟨D,0,none⟩)) 107
 s:fw W (B + 1) (.int .i64 sn) 2
 u:fw W (B + 1 + 1) vU 139
 k:fw W (B + 1 + 1 + 1) (.map (some bK)) 114
theorem FBx.kp {b l0:Nat} {W W':World} {B D:Nat} {sn:Int} {vU:Value} {bK:Nat} (h:FBx W B D sn vU bK) (hk:KpO b l0 W W'):FBx W' B D sn vU bK :=
 ⟨h.d.kp hk (by decide) (by decide),h.s.kp hk (by decide) (by decide),h.u.kp hk (by decide) (by decide),h.k.kp hk (by decide) (by decide)⟩
theorem Ma (w:World) (D:Nat) (sn:Int) (vU:Value) (bK:Nat) {W:World} (hW:W=(((w.alloc (.cells #[.pointer (some ⟨D,0,none⟩)] 107)).alloc (.cells #[.int .i64 sn] 2)).alloc (.cells #[vU] 139)).alloc (.cells #[.map (some bK)] 114)):FBx W w.heap.size D sn vU bK∧Below w.heap.size w W∧W.heap.size=w.heap.size + 1 + 1 + 1 + 1:=by
 obtain ⟨V1,e1⟩:∃ V,V=w.alloc (.cells #[.pointer (some ⟨D,0,none⟩)] 107):=⟨_,rfl⟩;obtain ⟨V2,e2⟩:∃ V,V=V1.alloc (.cells #[.int .i64 sn] 2):=⟨_,rfl⟩;obtain ⟨V3,e3⟩:∃ V,V=V2.alloc (.cells #[vU] 139):=⟨_,rfl⟩;rw [← e1,← e2,← e3] at hW;have t1:V1.heap.size=w.heap.size + 1:=by rw [e1,World.size_alloc]
 have t2:V2.heap.size=w.heap.size + 1 + 1:=by rw [e2,World.size_alloc,t1]
 have t3:V3.heap.size=w.heap.size + 1 + 1 + 1:=by rw [e3,World.size_alloc,t2]
 have f1:Below w.heap.size w V1:=by rw [e1]; exact (Below.refl _ _).alloc (Nat.le_refl _) _
 have f2:Below V1.heap.size V1 V2:=by rw [e2]; exact (Below.refl _ _).alloc (Nat.le_refl _) _
 have f3:Below V2.heap.size V2 V3:=by rw [e3]; exact (Below.refl _ _).alloc (Nat.le_refl _) _
 have f4:Below V3.heap.size V3 W:=by rw [hW]; exact (Below.refl _ _).alloc (Nat.le_refl _) _
 have g1:fw V1 w.heap.size (.pointer (some ⟨D,0,none⟩)) 107:=by rw [e1]; exact World.alloc_heap_new w _
 have g2:fw V2 (w.heap.size + 1) (.int .i64 sn) 2:=by rw [e2,← t1]; exact World.alloc_heap_new V1 _
 have g3:fw V3 (w.heap.size + 1 + 1) vU 139:=by rw [e3,← t2]; exact World.alloc_heap_new V2 _
 have g4:fw W (w.heap.size + 1 + 1 + 1) (.map (some bK)) 114:=by rw [hW,← t3]; exact World.alloc_heap_new V3 _
 have f12:=f1.trans (f2.mono f1.size);have f13:=f12.trans (f3.mono f12.size);exact ⟨⟨((g1.bel f2).bel f3).bel f4,(g2.bel f3).bel f4,g3.bel f4,g4⟩,f13.trans (f4.mono f13.size),by rw [hW,World.size_alloc,t3]⟩
theorem Mc {β:Type} {b l:Nat} {X:World}:OwnFrom X.heap.size (fun (_:β) Y=>KpO b l X Y):=fun s Y Z row hs hg hr=>by
 have key:∀ (g:Nat) (o:Obj),X.heap[g]?=some o→Y.heap[g]?=some o→Z.heap[g]?=some o:=fun g o h1 h2=>(hg.block g (Array.getElem?_eq_some_iff.1 h2).1 fun e=>by
  have h3:=(hr g e.symm).1;have h4:=(Array.getElem?_eq_some_iff.1 h1).1;omega).trans h2
 exact ⟨Nat.le_trans hs.size hg.size,fun g cs T m h h1 h2=>key g _ h (hs.cells g cs T m h h1 h2),fun g o h hc n1 n2=>key g _ h (hs.other g o h hc n1 n2)⟩
structure FoW (w X:World) (v:Value) (out:List Fc):Prop where
 bel:Below w.heap.size w X
 box:fw X w.heap.size v 33
 row:X.ownsRow (w.heap.size + 1) 63 5 v out.length (dQ out)
 map:aD kD prog 63 X (w.heap.size + 1) out.length (yH out)
theorem FoW.below {w X X':World} {v:Value} {out:List Fc} (h:FoW w X v out) (hb:Below X.heap.size X X'):FoW w X' v out :=
 ⟨h.bel.trans (hb.mono h.bel.size),h.box.bel hb,aH h.row hb,h.map.below hb⟩
theorem FoW.kept {w X X':World} {v:Value} {out:List Fc} (h:FoW w X v out) {row:Option Nat} (hg:X.grownBy X' row) (hr:∀ r,row=some r→w.heap.size + 1 < r∧(∃ o,X.heap[r]?=some o∧o.isCells=false)):FoW w X' v out where
 bel:=h.bel.grown hg h.bel.size (fun g e=>by have:=(hr g e).1; omega)
 box:=(hg.block _ (Array.getElem?_eq_some_iff.1 h.box).1 fun e=>by have:=(hr _ e.symm).1; omega).trans h.box
 row:=dz h.row fun g hg2=>hg.block g (h.row.lt g hg2).2 fun e=>by
  obtain ⟨-,o,ho,hc⟩:=hr g e.symm;obtain ⟨cur,e2⟩:=iD h.row hg2;rw [e2] at ho; cases ho; cases hc
 map:=h.map.kept hg (fun e=>by have:=(hr _ e.symm).1; omega)
theorem FoW.step {w X Y V:World} {v v':Value} {out:List Fc} {f:Fc} [DecidableEq Fc] (h:FoW w X v out) (hM:aD kD prog 63 Y (w.heap.size + 1) (out.length + 1) (ji (yH out) f (some (.agg #[])))) (hg1:X.grownBy Y (some (w.heap.size + 1)))
  {Y':World} (hY':Below Y.heap.size Y Y') (hown:V.ownsRow (w.heap.size + 1) 63 5 v' (out.length + 1) (dQ out ++ f.row)) (hg2:Y'.grownBy V v.ownBlock) (hat:v'.ownBlock=v.ownBlock ∨ v'.ownBlock=some Y'.heap.size) (l:Nat) :
  FoW w (V.setCell ⟨w.heap.size,0,none⟩ v') v' (out ++ [f])∧KpO (w.heap.size + 1) l X (V.setCell ⟨w.heap.size,0,none⟩ v')∧KeepsFrom (w.heap.size + 1 + 1) X (V.setCell ⟨w.heap.size,0,none⟩ v'):=by
 obtain ⟨es,c,hmb⟩:=lX h.map;have hlB:w.heap.size < X.heap.size:=(Array.getElem?_eq_some_iff.1 h.box).1;have hvB:v.ownBlock ≠ some w.heap.size:=fun e=>by have:=(h.row.lt _ e).1; omega
 have hvM:v.ownBlock ≠ some (w.heap.size + 1):=fun e=>Bo h.row e hmb;have key:∀ (g:Nat) (o:Obj),X.heap[g]?=some o→g ≠ w.heap.size + 1→g ≠ w.heap.size→v.ownBlock ≠ some g→(V.setCell ⟨w.heap.size,0,none⟩ v').heap[g]?=some o:=fun g o hg n1 n2 n3=>by
  have hl:=(Array.getElem?_eq_some_iff.1 hg).1;have y1:Y.heap[g]?=some o:=(hg1.block g hl (fun e=>n1 (by injection e))).trans hg;have hl1:=(Array.getElem?_eq_some_iff.1 y1).1;have y2:Y'.heap[g]?=some o:=(hY'.block g hl1).trans y1;have hl2:=(Array.getElem?_eq_some_iff.1 y2).1;have y3:V.heap[g]?=some o:=(hg2.block g hl2 (fun e=>n3 e.symm)).trans y2;exact (heap_setCell_other V ⟨w.heap.size,0,none⟩ g v' n2).trans y3
 have hVB:V.heap[w.heap.size]?=some (.cells #[v] 33 (0,0)):=by
  have y1:Y.heap[w.heap.size]?=_:=(hg1.block _ hlB (fun e=>by injection e with e; omega)).trans h.box;have y2:Y'.heap[w.heap.size]?=_:=(hY'.block _ (Array.getElem?_eq_some_iff.1 y1).1).trans y1;exact (hg2.block _ (Array.getElem?_eq_some_iff.1 y2).1 (fun e=>hvB e.symm)).trans y2
 have b1:Below w.heap.size w Y:=h.bel.grown hg1 h.bel.size (fun g e=>by injection e with e; omega);have b2:Below w.heap.size w Y':=b1.trans (hY'.mono b1.size);have b3:Below w.heap.size w V:=b2.grown hg2 b2.size (fun g e=>by have:=(h.row.lt g e).1; omega);have sz:X.heap.size≤(V.setCell ⟨w.heap.size,0,none⟩ v').heap.size:=by
  have e1:=hg1.size;have e2:=hY'.size;have e3:=hg2.size;simp; omega
 refine ⟨⟨b3.setCell (Nat.le_refl _) _,?_,?_,?_⟩,⟨sz,fun g cs T m hg h1 h2=>?_,fun g o hg hc n1 n2=>?_⟩,⟨sz,fun g o hB hg hc=>?_⟩⟩
 ·have:=heap_setCell_same V w.heap.size 0 #[v] _ v' hVB;unfold fw;simpa using this
 ·rw [xK,List.length_append];exact dz hown fun g hg=>heap_setCell_other V ⟨w.heap.size,0,none⟩ g v' (fun (e:g=w.heap.size)=>by have:=(hown.lt g hg).1; omega)
 ·rw [List.length_append,← L9];exact ((hM.below hY').kept hg2 (fun e=>hvM e.symm)).setCell (by show w.heap.size + 1 ≠ w.heap.size; omega) _
 ·refine key g _ hg (fun e=>?_) (fun e=>?_) (fun e=>?_)
  ·rw [e,hmb] at hg; cases hg
  ·rw [e,h.box] at hg; injection hg with hg; injection hg with _ hT; exact h2 hT.symm
  ·obtain ⟨cur,e2⟩:=iD h.row e;rw [e2] at hg; injection hg with hg; injection hg with _ hT; exact h1 hT.symm
 ·refine key g _ hg n2 (fun e=>?_) (fun e=>?_)
  ·rw [e,h.box] at hg; injection hg with hg; subst hg; cases hc
  ·obtain ⟨cur,e2⟩:=iD h.row e;rw [e2] at hg; injection hg with hg; subst hg; cases hc
 ·refine key g _ hg (by omega) (by omega) (fun e=>?_);obtain ⟨cur,e2⟩:=iD h.row e;rw [e2] at hg; injection hg with hg; subst hg; cases hc
theorem yh.dropF {w:World} {ad:Option Addr} {fs:List Fc} (h:yh w ad fs) (k:Nat):yh w (Option.map (fun x=>Addr.add x (k * 5)) ad) (fs.drop k):=by
 rcases h with h | ⟨b,off,e,hb,hr⟩
 ·exact .inl (by rw [h]; simp)
 ·have ea:Option.map (fun x=>Addr.add x (k * 5)) ad=some ⟨b,off + k * 5,none⟩:=by
   rw [e];simp [Addr.add]
  refine .inr ⟨b,off + k * 5,ea,hb,fun i hi=>?_⟩;have hi2:k + i < fs.length:=by rw [List.length_drop] at hi; omega
  have h1:=hr (k + i) hi2;have e2:(fs.drop k)[i]=fs[k + i]:=by simp
  rw [e2];have e3:off + k * 5 + i * 5=off + (k + i) * 5:=by omega
  rw [e3]; exact h1
theorem Md {w:World} {base size n cap:Nat} {T:TypeId} {ad:Option Addr} {xs:List Value} (h:w.ownsRow base T size (.slice ad n cap) n xs):n≤cap:=by
 rcases h.2 with ⟨e,h0⟩ | ⟨g,cap',cur,e,h1,h2,h3,h4,h5,-⟩
 ·omega
 ·injection e with _ _ e3;omega
theorem KP {Y Y1 Y2 V:World} {B:Nat} {v:Value} {T:TypeId} (h:fw Y B v T) (hg1:Y.grownBy Y1 (some (B + 1))) (hY2:Below Y1.heap.size Y1 Y2) (hg2:Y2.grownBy V v.ownBlock) (hv:v.ownBlock ≠ some B):fw V B v T:=by
 have y1:Y1.heap[B]?=_:=(hg1.block _ (Array.getElem?_eq_some_iff.1 h).1 (fun e=>by injection e with e; omega)).trans h;have y2:Y2.heap[B]?=_:=(hY2.block _ (Array.getElem?_eq_some_iff.1 y1).1).trans y1;exact (hg2.block _ (Array.getElem?_eq_some_iff.1 y2).1 (fun e=>hv e.symm)).trans y2
theorem KQ {B B':Nat} {W W':World} (h:KeepsFrom B W W') (hB:B≤B'):KeepsFrom B' W W':=⟨h.size,fun k o hk h1 h2=>h.same k o (Nat.le_trans hB hk) h1 h2⟩
theorem KpO.after {b l l':Nat} {X Y Z:World} (h:KpO b l X Y) (k:KpO b l' Y Z) (hl:X.heap.size≤l'):KpO b l X Z :=
 ⟨Nat.le_trans h.size k.size,fun g cs T m hg h1 h2=>k.cells g cs T m (h.cells g cs T m hg h1 h2) h1 h2,fun g o hg hc h1 h2=>k.other g o (h.other g o hg hc h1 h2) hc (fun e=>by have:=(Array.getElem?_eq_some_iff.1 hg).1; omega) h2⟩
set_option linter.unusedSectionVars false
theorem KR {rs:List TR} (h:aY (af rs)=true) {k:ByteArray × ByteArray} (hk:k ∈ ai (af rs)):∃ es,eO (af rs) k.1 k.2=some es∧aS es=true:=by
 unfold ai at hk;obtain ⟨T,hT,hk⟩:=List.mem_flatMap.1 hk;obtain ⟨t,ht,rfl⟩:=List.mem_map.1 hT;unfold jd at hk;obtain ⟨r,hr,rfl⟩:=List.mem_map.1 hk;obtain ⟨q,hq,rfl⟩:=List.mem_map.1 hr;exact ⟨ag q.rows,lQ h ht hq,((aX h).2.2 t ht q hq).1⟩
theorem Nk {wr W w':World} {b o1 o2:Nat} {x y:Value} (h:W.cell? ⟨b,o1,none⟩=some x∧W.cell? ⟨b,o2,none⟩=some y∧Below wr.heap.size wr W) (hb:Below W.heap.size W w'):w'.cell? ⟨b,o1,none⟩=some x∧w'.cell? ⟨b,o2,none⟩=some y∧Below wr.heap.size wr w' :=
 ⟨aU hb (aA h.1) h.1,aU hb (aA h.2.1) h.2.1,h.2.2.trans (hb.mono h.2.2.size)⟩
def lZ [DecidableEq Fc] (st:ByteArray × ByteArray→Int) (rs:List TR) (ts:List Tp):List Fc:=jR (af rs) ts st (fZ ts) (dL ts) ((ai (af rs)).length + 1)
section
variable [DecidableEq Fc]
theorem nH (st:ByteArray × ByteArray→Int) (rs:List TR) (ts:List Tp) (xo xu:List Al):∀ N,GoodO (af rs) xo xu (jR (af rs) ts st xo xu N)
 | 0=>⟨List.nodup_nil,fun g hg=>by cases hg⟩
 | N + 1=>by
  refine ⟨zM _ _ _ _ _ _,fun g hg=>?_⟩;rw [iU] at hg;obtain ⟨new,e,hn⟩:=zK (H:=gI (af rs) ts) (bQ (af rs) st xo xu (N:Int)) (j4 (bQ (af rs) st xo xu (N:Int)) (jR (af rs) ts st xo xu N) + 1) (jR (af rs) ts st xo xu N);unfold lW at hg;rw [e] at hg;rcases List.mem_append.1 hg with hg | hg
  ·exact (nH st rs ts xo xu N).sub g hg
  ·exact zU (hn g hg)
theorem IM (st:ByteArray × ByteArray→Int) (ad:Option Addr) (cap:Nat) (rs:List TR) (ad':Option Addr) (cap':Nat) (ts:List Tp) (w:World) (hsp:aW (af rs)) (hle:Least (af rs) st) (hs:fo w ad rs) (hl:∀ r ∈ rs,r.light) (hlt:ts.length≤40) (hst:Sl w ad' ts) :
  Calls prog 53 #[.slice ad rs.length cap,.slice ad' ts.length cap'] w fun e w'=>(∃ v,e=.returned v∧w'.ownsRow w.heap.size 63 5 v (lZ st rs ts).length (dQ (lZ st rs ts)))∧Below w.heap.size w w':=by
 obtain ⟨iF,z0,z1,z2,z3⟩:=Gj;have HIF:=aj (And.intro z0 (And.intro z1 (And.intro z2 z3)));obtain ⟨h6,hr6,hsf⟩:=aX hsp.1;have HSP:=aj hsp;have HLE:=aj hle;have HS:=aj hs;have HL:=aj hl;have HST:=aj hst;have HSF:=aj hsf;have HR6:=aj hr6;have HND:=aj (Fv hsp.1);have hE36:(ai (af rs)).length≤36:=vg h6 hr6;have htl:ts.length≤1048576:=by omega
 obtain ⟨W0,hW0⟩:∃ W0,W0=w.alloc (.cells #[] 63):=⟨_,rfl⟩;have HB0:=mq hW0;have HLIT:Hid (W0.ownsRow w.heap.size 63 5 (.slice (some ⟨w.heap.size,0,none⟩) 0 0) 0 (dQ [])):=by
  show World.ownsRow _ _ _ _ _ _ _;rw [hW0];exact World.ownsRow_lit w #[] 0 (Nat.le_refl _) (by unfold maxLen; omega) (by simp)
 have HNC:Hid ((∀ o,W0.cell? ⟨w.heap.size,o,none⟩=none)∧w.heap.size < W0.heap.size):=by
  show _∧_;rw [hW0];exact ⟨fun o=>by simp,by simp⟩
 clear hsp hle hs hl hst hsf hr6 z0 z1 z2 z3;go_enter func53,ntmps53;go_wp2_with fail;rw [← hW0];clear hW0;refine (oZ ad' cap' ts false _ hlt (HST.out.below HB0.out)).mono ?_;rintro e w1 ⟨⟨vo,rfl,hvo⟩,hb1⟩;have HB1:=aj (HB0.out.trans (hb1.mono HB0.out.size));have HR1:=aj (aH HLIT.out hb1);have HN1:Hid ((∀ o,w1.cell? ⟨w.heap.size,o,none⟩=none)∧w.heap.size < w1.heap.size):=⟨fun o=>(hb1.cell (p:=⟨w.heap.size,o,none⟩) HNC.out.2).trans (HNC.out.1 o),Nat.lt_of_lt_of_le HNC.out.2 hb1.size⟩;obtain ⟨adO,capO,rfl,hsO⟩:=jg hvo;have HSO:=aj hsO;clear hvo hb1 hsO HB0 HLIT HNC;go_wp2_with fail;refine (oZ ad' cap' ts true _ hlt (HST.out.below HB1.out)).mono ?_;rintro e w2 ⟨⟨vu,rfl,hvu⟩,hb2⟩;have HB2:=aj (HB1.out.trans (hb2.mono HB1.out.size));have HR2:=aj (aH HR1.out hb2);have HN2:Hid ((∀ o,w2.cell? ⟨w.heap.size,o,none⟩=none)∧w.heap.size < w2.heap.size):=⟨fun o=>(hb2.cell (p:=⟨w.heap.size,o,none⟩) HN1.out.2).trans (HN1.out.1 o),Nat.lt_of_lt_of_le HN1.out.2 hb2.size⟩;have HSO2:=aj (HSO.out.below hb2);obtain ⟨adU,capU,rfl,hsU⟩:=jg hvu;have HSU:=aj hsU;clear hvu hb2 hsU HB1 HR1 HN1 HSO;go_wp2_with fail;refine (qW ad cap rs _ h6 (HS.out.below HB2.out) HL.out HR6.out (fun r hr q hq=>(HSF.out r hr q hq).2) (jJ HSP.out.2.1)).mono ?_;rintro e W ⟨hres,hb3⟩;rcases hres with ⟨adN,capN,sts,rfl,hsN,hkN,hlN⟩ | ⟨-,hno⟩;rotate_left
 ·exact absurd HSP.out.2.2 hno
 have HK:=aj hkN;have HSL:=aj hlN;have HB3:=aj (HB2.out.trans (hb3.mono HB2.out.size));have HSN:=aj hsN;have HSO3:=aj (HSO2.out.below hb3);have HSU3:=aj (HSU.out.below hb3);have hsl:sts.length=(ai (af rs)).length:=by rw [← hkN,fT,List.length_map]
 have hs36:sts.length≤36:=by omega
 have HSLE:=aj hsl;obtain ⟨xo,hxo⟩:∃ xo,xo=fZ ts:=⟨_,rfl⟩;obtain ⟨xu,hxu⟩:∃ xu,xu=dL ts:=⟨_,rfl⟩;have n0:dV false ts=xo:=by rw [hxo]; rfl
 have n1:dV true ts=xu:=by rw [hxu]; rfl
 rw [n0] at HSO3;rw [n1] at HSU3;rw [n0,n1];have hol:xo.length≤80:=by have:=kW ts; rw [hxo]; omega
 have hul:xu.length≤40:=by have:=jN ts; rw [hxu]; omega
 have HXO:=aj hxo;have HXU:=aj hxu;have HOUT:Hid (OutI w W W (.slice (some ⟨w.heap.size,0,none⟩) 0 0) []):=⟨aH HR2.out hb3,fun _ _ _ h=>h,Nat.le_refl _,HB3.out,fun g hg o=>by
  have e:g=w.heap.size:=by simpa [Value.ownBlock] using hg.symm
  rw [e]; exact (hb3.cell (p:=⟨w.heap.size,o,none⟩) HN2.out.2).trans (HN2.out.1 o)⟩
 clear hsN hkN hlN hb3 HB2 HR2 HN2 HSO2 HSU n0 n1 hxo hxu hsl HR6;obtain ⟨H,hH⟩:∃ H,H=gI (af rs) ts:=⟨_,rfl⟩;obtain ⟨A,hA⟩:∃ A:Nat→List Fc,A=jR (af rs) ts (dW sts) xo xu:=⟨_,rfl⟩;obtain ⟨Q,hQ⟩:∃ Q:Nat→List Fc,Q=fun (n:Nat)=>bQ (af rs) (dW sts) xo xu (n:Int):=⟨_,rfl⟩;have HA1:Hid (∀ n,A (n + 1)=lW H (Q n) (A n)):=fun n=>by rw [hA,hH,hQ]; exact iU _ _ _ _ _ _
 have HAG:Hid (∀ n,GoodO (af rs) xo xu (A n)):=fun n=>by rw [hA]; exact nH _ _ _ _ _ n
 have HQS:Hid (∀ n,∀ g ∈ Q n,g ∈ Dn (af rs) xo xu):=fun n g hg=>by rw [hQ] at hg; exact zU hg
 have HQI:Hid (∀ n:Nat,oF sts xo xu (n:Int) xo.length=Q n):=fun n=>by rw [hQ]; exact KM HK.out HND.out xo xu n
 have HFIN:Hid (A (sts.length + 1)=lZ st rs ts):=by
  show _=_;rw [hA,HSLE.out,HXO.out,HXU.out];exact sZ (fun k hk=>HSL.out.same HLE.out k hk) _
 have HA0:Hid (A 0=[]):=by show _=_; rw [hA]; rfl
 have HH:=aj hH;clear hH hA hQ;go_wp2;go_loopw [5,10] (fun v i wr=>∃ (n:Nat),n≤sts.length + 1∧i=.int .i64 n∧Hid (OutI w W wr v (A n))) (fun _ i _=>sts.length + 1 - (intOf i).toNat);case atStart=>exact ⟨0,Nat.zero_le _,rfl,by rw [HA0.out]; exact HOUT⟩
 case round =>
  clear HOUT;obtain ⟨n,hn,rfl,HO⟩:=hrel;by_cases hlt1:n≤sts.length
  ·go_wp2;go_loopw [5,11] (fun v m wr=>∃ (bb:Bool) (out:List Fc),m=.bool bb∧Hid (lW H (Q n) out=A (n + 1))∧Hid (bb=false→aZ H (Q n) out=out)∧Hid (OutI w W wr v out)∧Hid (GoodO (af rs) xo xu out)) (fun v m _=>2 * (200000 - M4 v) + Og m);case atStart=>exact ⟨true,A n,rfl,(HA1.out n).symm,(fun h=>by cases h),HO,HAG.out n⟩
   case round =>
    clear HO;obtain ⟨bb,out,rfl,HLM,HDN,HO,HG⟩:=hrel;have hout:=HG.out.len hol hE36 hul;obtain ⟨adF,capF,rfl,-⟩:=oW HO.out.row;cases bb with
    | false =>
     have HO2:Hid (OutI w W wr (.slice adF out.length capF) (A (n + 1))):=by
      show OutI _ _ _ _ _;rw [← HLM.out,sQ (HDN.out rfl)]; exact HO.out
     go_wp2;go_roundw;case rel=>exact ⟨n + 1,by omega,by go_num,HO2⟩
     case measure=>simp [intOf] <;> omega
    | true =>
     go_wp2;go_loopw [5,11,12] (fun v m i wr=>∃ (q:Nat) (bb:Bool) (out2:List Fc),q≤xo.length∧m=.bool bb∧i=.int .i64 q∧Hid (out2=aZ H (oF sts xo xu (n:Int) q) out)∧Hid (bb=decide (out.length < out2.length))∧Hid (OutI w W wr v out2)∧Hid (GoodO (af rs) xo xu out2)) (fun _ _ i _=>xo.length - (intOf i).toNat);case atStart=>exact ⟨0,false,out,Nat.zero_le _,rfl,rfl,rfl,(decide_eq_false (Nat.lt_irrefl _)).symm,HO,HG⟩
     case round =>
      clear HO;obtain ⟨q,bb,out2,hq,rfl,rfl,HR,HBB,HO2,HG2⟩:=hrel;by_cases hlq:q < xo.length
      ·have HSU4:=aj (IG (sts:=sts) (xu:=xu) (n:=(n:Int)) hlq);obtain ⟨o,ho⟩:∃ o,o=xo[q]:=⟨_,rfl⟩;rw [← ho] at HSU4;have HOQ:=aj ho;clear ho;go_wp2;go_loopw [5,11,13] (fun v m i wr=>∃ (p:Nat) (bb:Bool) (out3:List Fc),p≤sts.length∧m=.bool bb∧i=.int .i64 p∧Hid (out3=aZ H (oF sts xo xu (n:Int) q ++ jh sts xu (n:Int) o p) out)∧Hid (bb=decide (out.length < out3.length))∧Hid (OutI w W wr v out3)∧Hid (GoodO (af rs) xo xu out3)) (fun _ _ i _=>sts.length - (intOf i).toNat);case atStart=>exact ⟨0,bb,out2,Nat.zero_le _,rfl,rfl,by show _=_; rw [IE,List.append_nil]; exact HR.out,HBB,HO2,HG2⟩
       case round =>
        clear HO2 HR HBB HG2;obtain ⟨p,bb,out3,hp,rfl,rfl,HR,HBB,HO2,HG2⟩:=hrel;by_cases hlp:p < sts.length
        ·obtain ⟨bN,offN,hadN,⟨s0,s1,s2⟩,hbN⟩:=Eu.at0 (HSN.out.keepC HO2.out.size HO2.out.keep) hlp;obtain ⟨bO,offO,hadO,⟨o0,o1⟩,hbO⟩:=gu.at0 (HSO3.out.keepC HO2.out.size HO2.out.keep) hlq;rw [← HOQ.out] at o0 o1;obtain ⟨s,hsp⟩:∃ s,s=sts[p]:=⟨_,rfl⟩;have HKN:Hid ((s.typ.toList == o.t.toList && decide (s.n=(n:Int)))=false→jh sts xu (n:Int) o (p + 1)=jh sts xu (n:Int) o p):=fun h=>LX hlp (by rw [← hsp]; exact h);have HKY:Hid ((s.typ.toList == o.t.toList && decide (s.n=(n:Int)))=true→jh sts xu (n:Int) o (p + 1)=jh sts xu (n:Int) o p ++ iP o s.rel xu):=fun h=>by rw [KJ hlp (by rw [← hsp]; exact h),← hsp]
         rw [← hsp] at s0 s1 s2;have HSM:Hid (s.key ∈ ai (af rs)):=by show _ ∈ _; rw [← HK.out,hsp]; exact List.mem_map_of_mem (List.getElem_mem hlp)
         have HSE:=aj hsp;have hq1:=bq q;have hq2:(q:Int) < (xo.length:Int):=by omega
         have hp1:=bq p;have hp2:(p:Int) < (sts.length:Int):=by omega
         subst hadN;subst hadO;clear hsp;cases ht:(s.typ.toList == o.t.toList) with
         | false =>
          have HKE:Hid (jh sts xu (n:Int) o (p + 1)=jh sts xu (n:Int) o p):=HKN.out (by rw [ht]; rfl);have HO3:∀ nq,Hid (OutI w W (wr.drewN nq) u5 out3):=fun nq=>HO2.out.below (below_drewN (Below.refl _ _) nq);go_wp2_with fail;go_quiet (fail);go_wp2;go_roundw;case rel=>exact ⟨p + 1,bb,out3,by omega,rfl,by go_num,by rw [HKE.out]; exact HR,HBB,HO3 _,HG2⟩
          case measure=>simp [intOf] <;> omega
         | true =>
          by_cases hn2:s.n=(n:Int)
          ·have hb1:(s.n == (n:Int))=true:=by simpa using hn2
           have HKE:=aj (HKY.out (by rw [ht,hn2]; simp));have HTO:Hid (s.typ=o.t):=dJ.1 ht;have hb2:decide (s.n=(n:Int))=true:=decide_eq_true hn2;replace hn2:Hid (s.n=(n:Int)):=hn2;have HREL:Hid (∀ W':World,(W'.cell? ⟨bN,offN + p * 3,none⟩=some (.string s.typ)∧W'.cell? ⟨bN,offN + p * 3 + 1,none⟩=some (.string s.rel)∧Below wr.heap.size wr W')→Calls prog 84 #[.slice ad rs.length cap,.string s.typ,.string s.rel] W' fun e w'=>(∃ (rows:List ER) (adE:Option Addr) (capE:Nat),e=.returned (.slice adE rows.length capE)∧ag rows=aG (af rs) s.typ s.rel∧l8 rs adE rows)∧Below W'.heap.size W' w'):=fun W' h=>by
            refine (gP ad cap rs s.typ s.rel W' (by omega) (HS.out.below (HO2.out.bel.trans (h.2.2.mono HO2.out.bel.size))) HL.out).mono ?_;rintro e w' ⟨⟨rows,adE,capE,he,hx,-,hf⟩,rfl⟩;exact ⟨⟨rows,adE,capE,he,hx,hf⟩,Below.refl _ _⟩
           go_wp2_with fail;go_quiet (fail);go_wp2_with fail
           go_region_held3 (fun w'=>w'.cell? ⟨bN,offN + p * 3,none⟩=some (.string s.typ)∧w'.cell? ⟨bN,offN + p * 3 + 1,none⟩=some (.string s.rel)∧Below wr.heap.size wr w')
            (first | assumption | exact Nk (by assumption) hbx | exact ⟨s0,s1,Below.drew (below_drewN (Below.refl _ _) _)⟩)
            (first | (go_at_call 84; refine (HREL.out _ (by assumption)).mono ?_; rintro e w' ⟨⟨rows,adE,capE,rfl,hrx,hrf⟩,hbx⟩))
           rename_i hH;have HO4:=aj (HO2.out.below hH.2.2);have HEX:Hid (ag rows=aG (af rs) o.t s.rel):=by show _=_; rw [hrx,HTO.out]
           obtain ⟨HNO,hr1⟩:Hid (NodOk rows)∧1≤rows.length:=by
            obtain ⟨es,e1,e2⟩:=KR HSP.out.1 HSM.out;have e3:ag rows=es:=by
             rw [hrx]; unfold aG;show (eO (af rs) s.key.1 s.key.2).getD []=es;rw [e1]; rfl
            rw [← e3] at e2;exact Gs e2
           have HRF:=aj hrf;have hr1000:=HNO.out.len;clear hH hbx hrx hrf HREL s0 s1 s2 o0 o1 hb1 hb2 HO2 HTO hbN hbO;go_wp2;go_loopw [5,11,15] (fun v m i wr=>∃ (j:Nat) (bb:Bool) (out4:List Fc),j≤xu.length∧m=.bool bb∧i=.int .i64 j∧Hid (out4=aZ H (oF sts xo xu (n:Int) q ++ jh sts xu (n:Int) o p ++ iP o s.rel (xu.take j)) out)∧Hid (bb=decide (out.length < out4.length))∧Hid (OutI w W wr v out4)∧Hid (GoodO (af rs) xo xu out4)) (fun _ _ i _=>xu.length - (intOf i).toNat);case atStart=>exact ⟨0,bb,out3,Nat.zero_le _,rfl,rfl,by show _=_; rw [List.take_zero]; show _=aZ H (_ ++ []) out; rw [List.append_nil]; exact HR.out,HBB,HO4,HG2⟩
           case round =>
            clear HO4 HR HBB HG2;obtain ⟨j,bb,out4,hj,rfl,rfl,HR,HBB,HO2,HG2⟩:=hrel;by_cases hlj:j < xu.length
            ·obtain ⟨bU,offU,hadU,⟨y0,y1⟩,hbU⟩:=gu.at0 (HSU3.out.keepC HO2.out.size HO2.out.keep) hlj;obtain ⟨bN',offN',hadN',⟨s0,s1,s2⟩,hbN⟩:=Eu.at0 (HSN.out.keepC HO2.out.size HO2.out.keep) hlp;obtain ⟨bO',offO',hadO',⟨o0,o1⟩,hbO⟩:=gu.at0 (HSO3.out.keepC HO2.out.size HO2.out.keep) hlq;injection hadN' with hadN'; injection hadN' with e1 e2; subst e1; subst e2;injection hadO' with hadO'; injection hadO' with e1 e2; subst e1; subst e2;rw [← HOQ.out] at o0 o1;rw [← HSE.out] at s0 s1 s2;obtain ⟨f,hf⟩:∃ f:Fc,f=⟨o.t,o.s,s.rel,xu[j].t,xu[j].s⟩:=⟨_,rfl⟩;have HAT:Hid (iP o s.rel (xu.take (j + 1))=iP o s.rel (xu.take j) ++ [f]):=by show _=_; rw [hf]; exact II o s.rel hlj
             have HFQ:Hid (f ∈ Dn (af rs) xo xu):=by
              show _ ∈ _;rw [hf];unfold Dn iP;refine List.mem_flatMap.2 ⟨o,by rw [HOQ.out]; exact List.getElem_mem hlq,List.mem_flatMap.2 ⟨s.key,HSM.out,List.mem_map.2 ⟨xu[j],List.getElem_mem hlj,rfl⟩⟩⟩
             have hout4:=HG2.out.len hol hE36 hul;obtain ⟨adF4,capF4,rfl,hsF⟩:=oW HO2.out.row;have HSF4:=aj hsF;have f0:o.t=f.a:=by rw [hf]
             have f1:o.s=f.b:=by rw [hf]
             have f2:s.rel=f.r:=by rw [hf]
             have f3:xu[j].t=f.c:=by rw [hf]
             have f4:xu[j].s=f.d:=by rw [hf]
             have HEF:Hid (ag rows=aG (af rs) f.a f.r):=by show _=_; rw [hf]; exact HEX.out
             rw [f3] at y0;rw [f4] at y1;rw [f0] at o0;rw [f1] at o1;rw [f2] at s1;have hj1:=bq j;have hj2:(j:Int) < (xu.length:Int):=by omega
             subst hadU;clear hsF hf f0 f1 f2 f3 f4 s0 s2;obtain ⟨W5,hW5⟩:∃ W5,W5=(wr.alloc (.cells #[.string f.a,.string f.b,.string f.r,.string f.c,.string f.d] 63)).drew:=⟨_,rfl⟩;have HBr:Hid (Below wr.heap.size wr W5):=by show Below _ _ _; rw [hW5]; exact ((Below.refl _ _).alloc (Nat.le_refl _) _).drew
             have g0:W5.cell? ⟨wr.heap.size,0,none⟩=some (.string f.a):=by rw [hW5]; simp
             have g1:W5.cell? ⟨wr.heap.size,1,none⟩=some (.string f.b):=by rw [hW5]; simp
             have g2:W5.cell? ⟨wr.heap.size,2,none⟩=some (.string f.r):=by rw [hW5]; simp
             have g3:W5.cell? ⟨wr.heap.size,3,none⟩=some (.string f.c):=by rw [hW5]; simp
             have g4:W5.cell? ⟨wr.heap.size,4,none⟩=some (.string f.d):=by rw [hW5]; simp
             have gl:wr.heap.size < W5.heap.size:=aA g0;have HO5:=aj (HO2.out.below HBr.out);go_wp2_with fail
             go_region
             rw [← hW5];clear hW5 y0 y1 o0 o1 s1 hbU hbN hbO;go_wp2_with fail;refine (kX adF4 capF4 out4 f W5 (by omega) (HSF4.out.below HBr.out)).mono ?_;rintro e w6 ⟨rfl,hb6⟩;have HB6:=aj (HBr.out.trans (hb6.mono HBr.out.size));have HO6:=aj (HO5.out.below hb6);replace g0:=aU hb6 gl g0;replace g1:=aU hb6 gl g1;replace g2:=aU hb6 gl g2;replace g3:=aU hb6 gl g3;replace g4:=aU hb6 gl g4;replace gl:=Nat.lt_of_lt_of_le gl hb6.size;have HHF:Hid (H out4 f=iC ts (ag rows) out4 f rows.length out4 (rows.length - 1)):=by show _=_; rw [HH.out]; unfold gI; rw [← HEF.out,aP]
             have HRS:Hid (aZ H (oF sts xo xu (n:Int) q ++ jh sts xu (n:Int) o p ++ iP o s.rel (xu.take (j + 1))) out=dw H out4 f):=by show _=_; rw [HAT.out,← List.append_assoc,ow,← HR.out]
             clear hb6 HBr HO5;cases hh:bf out4 f with
             | true =>
              have HR2:Hid (out4=aZ H (oF sts xo xu (n:Int) q ++ jh sts xu (n:Int) o p ++ iP o s.rel (xu.take (j + 1))) out):=by show _=_; rw [HRS.out,rC (.inl hh)]
              go_wp2;go_roundw;case rel=>exact ⟨j + 1,bb,out4,by omega,rfl,by go_num,HR2,HBB,HO6,HG2⟩
              case measure=>simp [intOf] <;> omega
             | false =>
              have HHH:=aj hh;have hwr:IntKind.i64.wrap ((rows.length:Int) - 1)=((rows.length - 1:Nat):Int):=by rw [IntKind.wrap_i64]; omega
              have HCALL:=aj (ut (.slice ad rs.length cap) ad' cap' ts adE capE rows adF4 capF4 out4 f htl HNO.out (by omega) rows.length (rows.length - 1) adF4 capF4 out4 w6 (by omega) (by omega) (by omega) ⟨HST.out.below HO6.out.bel,HRF.out.sl (HS.out.below HO6.out.bel),HSF4.out.below HB6.out,HSF4.out.below HB6.out⟩);clear hh;go_wp2_with fail;refine HCALL.out.mono ?_;rintro e w7 ⟨he7,hb7⟩;rw [← HHF.out] at he7;subst he7;have HO7:=aj (HO6.out.below hb7);replace g0:=aU hb7 gl g0;replace g1:=aU hb7 gl g1;replace g2:=aU hb7 gl g2;replace g3:=aU hb7 gl g3;replace g4:=aU hb7 gl g4;replace gl:=Nat.lt_of_lt_of_le gl hb7.size;clear hb7 HCALL HO6 HB6 hwr;cases hv:H out4 f with
              | false =>
               have HR2:Hid (out4=aZ H (oF sts xo xu (n:Int) q ++ jh sts xu (n:Int) o p ++ iP o s.rel (xu.take (j + 1))) out):=by show _=_; rw [HRS.out,rC (.inr hv)]
               go_wp2;go_roundw;case rel=>exact ⟨j + 1,bb,out4,by omega,rfl,by go_num,HR2,HBB,HO7,HG2⟩
               case measure=>simp [intOf] <;> omega
              | true =>
               have HST2:Hid (dw H out4 f=out4 ++ [f]):=zZ HHH.out hv;have HR2:Hid (out4 ++ [f]=aZ H (oF sts xo xu (n:Int) q ++ jh sts xu (n:Int) o p ++ iP o s.rel (xu.take (j + 1))) out):=by show _=_; rw [HRS.out,HST2.out]
               have HG3:Hid (GoodO (af rs) xo xu (out4 ++ [f])):=by
                have h1:=HG2.out.run (H:=H) (qs:=[f]) (fun g hg=>by
                 rw [List.mem_singleton] at hg;subst hg;exact HFQ.out)
                rw [show aZ H [f] out4=dw H out4 f from rfl,HST2.out] at h1;exact h1
               have HBB2:Hid (true=decide (out.length < (out4 ++ [f]).length)):=by
                show _=_;have h1:=DC H (oF sts xo xu (n:Int) q ++ jh sts xu (n:Int) o p ++ iP o s.rel (xu.take j)) out;rw [← HR.out] at h1;rw [List.length_append];exact (decide_eq_true (by simp; omega)).symm
               obtain ⟨W8,hW8⟩:∃ W8,W8=w7.alloc (.cells #[.string f.a,.string f.b,.string f.r,.string f.c,.string f.d] 63):=⟨_,rfl⟩;have HO8:Hid (OutI w W W8 (.slice adF4 out4.length capF4) out4):=by show OutI _ _ _ _ _; rw [hW8]; exact HO7.out.below ((Below.refl _ _).alloc (Nat.le_refl _) _)
               have HN8:Hid (∀ j u,f.row[j]?=some u→W8.cell? ((⟨w7.heap.size,0,none⟩:Addr).add j)=some u):=by rw [hW8]; exact MK w7 f
               have hsz8:w.heap.size≤W8.heap.size:=HO8.out.bel.size;clear hv;go_wp2_with (at_builtin; rw [← hW8]; clear hW8; refine wpList_append_own_at _ rfl _ _ 33 rfl w.heap.size 63 iF (.agg #[.string ⟨#[]⟩,.string ⟨#[]⟩,.string ⟨#[]⟩,.string ⟨#[]⟩,.string ⟨#[]⟩]) 5 80 underlying33 HIF.out.1 HIF.out.2.1 HIF.out.2.2.1 HIF.out.2.2.2 rfl (by decide) _ out4.length (dQ out4) rfl HO8.out.row ⟨w7.heap.size,0,none⟩ 1 1 f.row rfl rfl HN8.out (by simp [Fc.row,Value.oneCell']) (by unfold maxLen; omega) (by omega) hsz8 ?_);intro v' w9 hown hgr _ hat;have HO9:=aj (HO8.out.app hown hgr hat);clear hown hgr hat g0 g1 g2 g3 g4 gl;go_wp2;go_roundw;case rel=>exact ⟨j + 1,true,out4 ++ [f],by omega,rfl,by go_num,HR2,HBB2,HO9,HG3⟩
               case measure=>simp [intOf] <;> omega
            ·have HR3:Hid (out4=aZ H (oF sts xo xu (n:Int) q ++ jh sts xu (n:Int) o (p + 1)) out):=by show _=_; rw [HKE.out,HR.out,show j=xu.length by omega,List.take_length,List.append_assoc]
             go_wp2;go_roundw;case rel=>exact ⟨p + 1,bb,out4,by omega,rfl,by go_num,HR3,HBB,HO2,HG2⟩
             case measure=>simp [intOf] <;> omega
          ·have hb1:(s.n == (n:Int))=false:=by simpa using hn2
           have hb2:decide (s.n=(n:Int))=false:=decide_eq_false hn2;have HKE:Hid (jh sts xu (n:Int) o (p + 1)=jh sts xu (n:Int) o p):=HKN.out (by rw [hb2,Bool.and_false]);have HO3:∀ nq,Hid (OutI w W (wr.drewN nq) u5 out3):=fun nq=>HO2.out.below (below_drewN (Below.refl _ _) nq);go_wp2_with fail;go_quiet (fail);go_wp2;go_roundw;case rel=>exact ⟨p + 1,bb,out3,by omega,rfl,by go_num,by rw [HKE.out]; exact HR,HBB,HO3 _,HG2⟩
           case measure=>simp [intOf] <;> omega
        ·have HR3:Hid (out3=aZ H (oF sts xo xu (n:Int) (q + 1)) out):=by show _=_; rw [HSU4.out,HR.out,show p=sts.length by omega]
         go_wp2;go_roundw;case rel=>exact ⟨q + 1,bb,out3,by omega,rfl,by go_num,HR3,HBB,HO2,HG2⟩
         case measure=>simp [intOf] <;> omega
      ·have hout2:=HG2.out.len hol hE36 hul;have HRQ:Hid (out2=aZ H (Q n) out):=by show _=_; rw [HR.out,← HQI.out n,show q=xo.length by omega]
       obtain ⟨ad2,cap2,rfl,-⟩:=oW HO2.out.row;have HLM2:Hid (lW H (Q n) out2=A (n + 1)):=by show _=_; rw [HRQ.out,zJ]; exact HLM.out
       have hbl:=DC H (Q n) out;have HDN2:Hid (bb=false→aZ H (Q n) out2=out2):=fun hb=>by
        have e:out2=out:=by
         rw [HRQ.out];refine FK ?_;rw [← HRQ.out,← HBB.out]; exact hb
        rw [e]; rw [HRQ.out] at e; exact e
       have hm:2 * (200000 - out2.length) + Og (.bool bb) < 2 * (200000 - out.length) + 1:=by
        have h1:=HBB.out;rw [← HRQ.out] at hbl;cases bb with
        | true=>have:=of_decide_eq_true h1.symm; simp only [Og]; omega
        | false=>have:=of_decide_eq_false h1.symm; simp only [Og]; omega
       have HM:=aj hm;clear hm hbl;go_wp2;go_roundw;case rel=>exact ⟨bb,out2,rfl,HLM2,HDN2,HO2,HG2⟩
       case measure=>exact HM.out
  ·have hne:n=sts.length + 1:=by omega
   have HO2:Hid (wr.ownsRow w.heap.size 63 5 u5 (lZ st rs ts).length (dQ (lZ st rs ts))):=by
    show World.ownsRow _ _ _ _ _ _ _;rw [← HFIN.out,← hne]; exact HO.out.row
   have HBE:=aj HO.out.bel;clear HO;go_wp2;go_ret;exact ⟨⟨_,rfl,HO2.out⟩,HBE.out⟩
end
end Go.Proofs.YtdmniljjnaebbaaGreatDoor
