/- The document's rounds, question by question, in plain words. -/
import Derived.Test.YtajkkeikihhejaaGreatSq
import Derived.Test.YtajkkeikihhejaaGreatJ33
import Derived.Test.YtajkkeikihhejaaGreatJ30
open Go.Proofs.Tryz
set_option maxHeartbeats 80000000
namespace Go.Proofs.YtajkkeikihhejaaGreat
set_option linter.unusedVariables false
set_option linter.unusedSectionVars false
open Go.ChangeShapes Go.WideShapes Go.ChangeAt Go.RowKit Go.Maps
open Pl
def kE (sts:List St) (xu:List Al) (n:Int) (o:Al) (k:Nat):List Fc:=((sts.take k).filter fun s=>s.typ.toList == o.t.toList && decide (s.n=n)).flatMap fun s=>ja o s.rel xu
def SG (sts:List St) (xu:List Al) (n:Int) (o:Al):List Fc:=kE sts xu n o sts.length
def rX (sts:List St) (xo xu:List Al) (n:Int) (i:Nat):List Fc:=(xo.take i).flatMap (SG sts xu n)
theorem MN (sts:List St) (xu:List Al) (n:Int) (o:Al):kE sts xu n o 0=[]:=rfl
theorem QV {sts:List St} {xu:List Al} {n:Int} {o:Al} {k:Nat} (h:k < sts.length) (hc:(sts[k].typ.toList == o.t.toList && decide (sts[k].n=n))=false):kE sts xu n o (k + 1)=kE sts xu n o k:=by
 unfold kE;rw [TV h,Uz,List.flatMap_append];simp [hc]
theorem PM {sts:List St} {xu:List Al} {n:Int} {o:Al} {k:Nat} (h:k < sts.length) (hc:(sts[k].typ.toList == o.t.toList && decide (sts[k].n=n))=true):kE sts xu n o (k + 1)=kE sts xu n o k ++ ja o sts[k].rel xu:=by
 unfold kE;rw [TV h,Uz,List.flatMap_append];simp [hc]
theorem MO {sts:List St} {xo xu:List Al} {n:Int} {i:Nat} (h:i < xo.length):rX sts xo xu n (i + 1)=rX sts xo xu n i ++ kE sts xu n xo[i] sts.length:=by
 unfold rX;rw [TV h,List.flatMap_append];simp [SG]
theorem PN {ts:List Ty} {sts:List St} (hk:iE sts=ak ts) (hn:(ak ts).Nodup) (xo xu:List Al) (n:Int):rX sts xo xu n xo.length=bY ts (fO sts) xo xu n:=by
 unfold rX bY;rw [Ug];congr 1
 funext o
 unfold SG kE uX;rw [Ug,QR hk hn,List.flatMap_map];rfl
theorem MP (o:Al) (rel:bF) {xu:List Al} {j:Nat} (h:j < xu.length):ja o rel (xu.take (j + 1))=ja o rel (xu.take j) ++ [⟨o.t,o.s,rel,xu[j].t,xu[j].s⟩]:=by
 unfold ja;rw [TV h,List.map_append]; rfl
theorem Bc {e:Ex} (h:av e=true):e.kids.length≤5∧(e.kind=6→2≤e.kids.length):=by
 unfold av at h;by_cases k1:e.kind=1
 ·rw [if_pos k1] at h; simp only [TU,Ud] at h; exact ⟨by omega,fun h6=>by omega⟩
 by_cases k2:e.kind=2
 ·rw [if_neg k1,if_pos k2] at h; simp only [TU,Ud] at h; exact ⟨by omega,fun h6=>by omega⟩
 by_cases k3:e.kind=3
 ·rw [if_neg k1,if_neg k2,if_pos k3] at h; simp only [TU,Ud] at h; exact ⟨by omega,fun h6=>by omega⟩
 by_cases k4:e.kind=4 ∨ e.kind=5
 ·rw [if_neg k1,if_neg k2,if_neg k3,if_pos k4] at h; simp only [TU,Ud] at h; exact ⟨by omega,fun h6=>by omega⟩
 by_cases k6:e.kind=6
 ·rw [if_neg k1,if_neg k2,if_neg k3,if_neg k4,if_pos k6] at h; simp only [TU,Ud] at h; exact ⟨by omega,fun h6=>by omega⟩
 rw [if_neg k1,if_neg k2,if_neg k3,if_neg k4,if_neg k6] at h; cases h
theorem KA {rows:List ER} (h:aK (aj rows)=true):WM rows∧1≤rows.length:=by
 have hl:1≤rows.length∧rows.length≤15:=by
  unfold aK at h;simp only [TU,Ud,aT] at h;exact ⟨h.1.1.1.1.1,h.1.1.1.1.2⟩
 have hlow:=IW h;have hkl:∀ q ∈ rows,q.e.kids.length≤1000:=fun q hq=>by
  have:=(Bc (jm h q.e (Ue.2 ⟨q,hq,rfl⟩))).1;omega
 refine ⟨⟨by omega,hkl,hlow,fun e he h6=>?_⟩,hl.1⟩;exact (Bc (jm h e he)).2 h6
section
variable [DecidableEq Fc]
theorem rQ (H:List Fc→Fc→Bool) (qs:List Fc) (f:Fc) (out:List Fc):bG H (qs ++ [f]) out=dR H (bG H qs out) f:=by rw [Fx]; rfl
theorem vQ {H:List Fc→Fc→Bool} {out:List Fc} {f:Fc} (h:bP out f=true ∨ H out f=false):dR H out f=out:=by
 unfold dR;rw [if_pos];rcases h with h | h
 ·exact .inl (dB.1 h)
 exact .inr h
theorem Dz {H:List Fc→Fc→Bool} {out:List Fc} {f:Fc} (h1:bP out f=false) (h2:H out f=true):dR H out f=out ++ [f]:=by
 unfold dR;rw [if_neg];rintro (h | h)
 ·rw [dB.2 h] at h1; cases h1
 rw [h2] at h; cases h
theorem G7 (H:List Fc→Fc→Bool) (qs out:List Fc):out.length≤(bG H qs out).length:=by
 obtain ⟨n,e,-⟩:=jA (H:=H) qs out;rw [e,T9]; omega
theorem JN {H:List Fc→Fc→Bool} {qs out:List Fc} (h:decide (out.length < (bG H qs out).length)=false):bG H qs out=out:=by
 obtain ⟨n,e,-⟩:=jA (H:=H) qs out;rw [e,T9,decide_eq_false_iff_not] at h;have:n=[]:=Ui.1 (by omega);rw [e,this,List.append_nil]
end
set_option maxRecDepth 100000
def QW (u:Al) (g:Fc):Bool:=Ah g.c g.d u.t u.s
theorem MQ (p:Fc→Bool) {zs:List Fc} {k:Nat} (h:k < zs.length):(zs.drop k).any p=(p zs[k] || (zs.drop (k + 1)).any p):=by rw [Un h]; rfl
theorem Bu.at0 {w:af} {ad:Option Addr} {fs:List Fc} (h:Bu w ad fs) {k:Nat} (hk:k < fs.length):∃ b off,ad=some ⟨b,off,none⟩∧wQ w b (off + k * 5) fs[k]∧b < w.heap.size:=by
 rcases h with h | ⟨b',off',e,hb,hr⟩
 ·rw [h] at hk; simp at hk
 exact ⟨b',off',e,hr k hk,hb⟩
theorem QX (g:Nat) (u:Al) (f:Fc) (w:af) (hg:g < w.heap.size) (h0:w.cell? ⟨g,0,none⟩=some (.string u.t)) (h1:w.cell? ⟨g,1,none⟩=some (.string u.s)) :
  Calls prog 148 #[.agg #[.string f.a,.string f.b,.string f.r,.string f.c,.string f.d],.pointer (some ⟨g,0,none⟩)] w fun e w'=>e=.returned (.bool (QW u f))∧ag w w':=by
 have HB:Hid (ag w (w.alloc (.cells #[.string f.a,.string f.b,.string f.r,.string f.c,.string f.d] 29))):=(TT _ _).alloc (TS _) _;have heq:=jH f.c f.d u.t u.s rfl;go_enter func148,ntmps148;go_wp2;go_ret;exact ⟨rfl,HB.out⟩
theorem SH (xs:Array Value) (u:af):(callFunc 148 xs).run prog u=.ok (.enter 148 xs) u:=by kernel_rfl
theorem G8 (FC:Nat) (rc cp:Array Value) (p:Fc→Bool) (ad:Option Addr) (cap:Nat) (xs:List Fc) (w:af) (hlen:xs.length≤1048576) (hs:Bu w ad xs)
  (hrun:∀ (ys:Array Value) (u:World),(callFunc FC ys).run prog u=.ok (.enter FC ys) u) (hp:∀ x ∈ xs,∀ w1:World,ag w w1→Calls prog FC (rc.push (.agg #[.string x.a,.string x.b,.string x.r,.string x.c,.string x.d]) ++ cp) w1 fun e w'=>e=.returned (.bool (p x))∧ag w1 w') :
  Calls prog 200 #[.slice ad xs.length cap,.func (Fn.func FC) rc cp] w fun e w'=>(∃ r:Int,e=.returned (.int .i64 r)∧decide (0≤r)=xs.any p)∧ag w w':=by
 have HS:=aC hs;have HRUN:=aC hrun;have HP:=aC hp;clear hs hrun hp;have HD:Hid (∀ k (h:k < xs.length),(xs.drop k).any p=(p xs[k] || (xs.drop (k + 1)).any p)):=fun k h=>MQ p h;go_enter func200,ntmps200;go_wp2_with fail;go_loopw [8] (fun i wr=>∃ k:Nat,k≤xs.length∧i=.int .i64 k∧Hid ((xs.drop k).any p=xs.any p)∧Hid (ag w wr)) (fun i _=>xs.length - (intOf i).toNat);case atStart=>exact ⟨0,TW _,rfl,rfl,TT _ _⟩
 obtain ⟨k,hk,rfl,HQ,HB⟩:=hrel;by_cases hlt:k < xs.length
 ·obtain ⟨b,off,UF,⟨t0,t1,t2,t3,t4⟩,hbl⟩:=Bu.at0 (HS.out.below HB.out) hlt;have HM:Hid (xs[k] ∈ xs):=TQ hlt;have hk1:=bB k;have hk2:(k:Int) < (xs.length:Int):=by omega
  have HD2:=aC (HD.out k hlt);subst UF;go_wp2_with fail;rw [HRUN.out,Oper.upon_enter];refine (HP.out _ HM.out _ HB.out).mono ?_;rintro e w1 ⟨rfl,hb1⟩;have HB1:=jP HB hb1;clear hb1 t0 t1 t2 t3 t4;cases he:p xs[k];case true=>
   have HN:Hid (xs.any p=true):=by show _=_; rw [← HQ.out,HD2.out,he]; rfl
   go_wp2;go_ret;exact ⟨⟨k,rfl,by rw [HN.out]; simp⟩,HB1.out⟩
  have HQ2:Hid ((xs.drop (k + 1)).any p=xs.any p):=by show _=_; rw [← HQ.out,HD2.out,he]; rfl
  go_wp2;go_roundw;case rel=>exact ⟨k + 1,by omega,by go_num,HQ2,HB1⟩
  simp [intOf] <;> omega
 have HN:Hid (xs.any p=false):=by show _=_; rw [← HQ.out,List.drop_of_length_le (by omega)]; rfl
 go_wp2;go_ret;exact ⟨⟨-1,rfl,by rw [HN.out]; simp⟩,HB.out⟩
theorem Bd (FC:Nat) (rc cp:Array Value) (p:Fc→Bool) (ad:Option Addr) (cap:Nat) (xs:List Fc) (w:af) (hlen:xs.length≤1048576) (hs:Bu w ad xs)
  (hrun:∀ (ys:Array Value) (u:World),(callFunc FC ys).run prog u=.ok (.enter FC ys) u) (hp:∀ x ∈ xs,∀ w1:World,ag w w1→Calls prog FC (rc.push (.agg #[.string x.a,.string x.b,.string x.r,.string x.c,.string x.d]) ++ cp) w1 fun e w'=>e=.returned (.bool (p x))∧ag w1 w') :
  Calls prog 147 #[.slice ad xs.length cap,.func (Fn.func FC) rc cp] w fun e w'=>e=.returned (.bool (xs.any p))∧ag w w':=by
 have HC:=aC (G8 FC rc cp p ad cap xs w hlen hs hrun hp);clear hs hrun hp;go_enter func147,ntmps147;go_wp2_with fail;refine HC.out.mono ?_;rintro e w' ⟨⟨r,rfl,hr⟩,hbx⟩;have HR:=aC hr;clear hr;go_wp2;go_ret;exact ⟨by rw [← HR.out]; rfl,hbx⟩
theorem JO {us:List Al} {new:List Fc} {k:Nat} (h:k < us.length):eZ (us.take (k + 1)) new=eZ (us.take k) new ++ (if new.any (QW us[k]) then [us[k]] else []):=by
 unfold eZ;rw [TV h,Uz];congr 1;rw [List.filter_cons];rfl
theorem DC (us:List Al) (new:List Fc):(eZ us new).length≤us.length:=List.length_filter_le _ _
theorem qU (Vr:Option Addr) (UM:Nat) (us:List Al) (XU:Option Addr) (Vs:Nat) (new:List Fc) (w:af) (XW:us.length≤1000) (hnl:new.length≤1048576) (hu:jM w Vr us) (hf:Bu w XU new) :
  Calls prog 103 #[.slice Vr us.length UM,.slice XU new.length Vs] w fun e w'=>(∃ v,e=.returned v∧w'.ownsRow w.heap.size 27 2 v (eZ us new).length (pairs (eZ us new)))∧ag w w':=by
 obtain ⟨iO,h0,h1,h2,h3⟩:=Aj;have Yp:=aD (And.intro h0 (And.intro h1 (And.intro h2 h3)));have HU:=aD hu;have HF:=aD hf;have VX:Hid (w.ownsRow w.heap.size 27 2 (.slice none 0 0) (eZ (us.take 0) new).length (pairs (eZ (us.take 0) new))):=World.ownsRow_nil _ _ _ _;clear hu hf h0 h1 h2 h3;go_enter func103,ntmps103;go_wp2_with fail;go_loopw [5,10] (fun v i wr=>∃ k:Nat,k≤us.length∧i=.int .i64 k∧Hid (wr.ownsRow w.heap.size 27 2 v (eZ (us.take k) new).length (pairs (eZ (us.take k) new)))∧Hid (ag w wr)) (fun _ i _=>us.length - (intOf i).toNat);case atStart=>exact ⟨0,TW _,rfl,VX,TT _ _⟩
 clear VX;obtain ⟨k,hk,rfl,HO,HB⟩:=hrel;by_cases hlt:k < us.length
 ·obtain ⟨b,off,UF,⟨t0,t1⟩,hbl⟩:=jM.at0 (HU.out.below HB.out) hlt;have hi1:=bB k;have hi2:(k:Int) < (us.length:Int):=by omega
  have HKT:=aD (JO (new:=new) hlt);have hkl:=DC (us.take k) new;rw [Ut] at hkl;obtain ⟨u,hu⟩:∃ u,u=us[k]:=⟨_,rfl⟩;rw [← hu] at t0 t1 HKT;clear hu;obtain ⟨W1,hW1⟩:∃ W1,W1=wr.alloc (.cells #[.string u.t,.string u.s] 27):=⟨_,rfl⟩;have VL:=qY hW1;have HB1:=aD (HB.out.trans (VL.out.mono HB.out.size));have d0:W1.cell? ⟨wr.heap.size,0,none⟩=some (.string u.t):=by rw [hW1]; simp
  have d1:W1.cell? ⟨wr.heap.size,1,none⟩=some (.string u.s):=by rw [hW1]; simp
  have dl:wr.heap.size < W1.heap.size:=aF d0;have UV:=aD (cO HO.out VL.out);obtain ⟨ys,hys⟩:∃ ys,ys=eZ (us.take k) new:=⟨_,rfl⟩;rw [← hys] at UV HKT hkl;obtain ⟨adV,Yi,rfl,-⟩:=kz UV.out;have Vk:=aD (Bd 148 #[] #[.pointer (some ⟨wr.heap.size,0,none⟩)] (QW u) XU Vs new W1 hnl (HF.out.below HB1.out) SH (fun x hx w1 hb=>QX wr.heap.size u x w1 (TP dl hb.size) (bi hb dl d0) (bi hb dl d1)));subst UF;clear hys HO;go_wp2_with fail;rw [← hW1];clear hW1 t0 t1;refine Vk.out.mono ?_;rintro e w2 ⟨rfl,hb2⟩;have HB2:=aD (HB1.out.trans (hb2.mono HB1.out.size));have UB:=aD (cO UV.out hb2);replace d0:=bi hb2 dl d0;replace d1:=bi hb2 dl d1;replace dl:=TP dl hb2.size;clear hb2 Vk UV VL;cases hh:new.any (QW u);case false=>
   have HR:Hid (w2.ownsRow w.heap.size 27 2 (.slice adV ys.length Yi) (eZ (us.take (k + 1)) new).length (pairs (eZ (us.take (k + 1)) new))):=by
    show World.ownsRow _ _ _ _ _ _ _;rw [HKT.out,hh]; simp only [Bool.false_eq_true,if_false,List.append_nil]; exact UB.out
   go_wp2;go_roundw;case rel=>exact ⟨k + 1,by omega,by go_num,HR,HB2⟩
   simp [intOf] <;> omega
  have HWE:Hid (eZ (us.take (k + 1)) new=ys ++ [u]):=by show _=_; rw [HKT.out,hh]; rfl
  obtain ⟨W4,VU⟩:∃ W4,W4=w2.alloc (.cells #[.string u.t,.string u.s] 27):=⟨_,rfl⟩;have UR:Hid (W4.ownsRow w.heap.size 27 2 (.slice adV ys.length Yi) ys.length (pairs ys)):=by show World.ownsRow _ _ _ _ _ _ _; rw [VU]; exact UB.out.alloc _
  have HN4:Hid (∀ j x,[Value.string u.t,.string u.s][j]?=some x→W4.cell? ((⟨w2.heap.size,0,none⟩:Addr).add j)=some x):=by rw [VU]; exact RG w2 u
  have WY:Hid (ag w W4):=by show Below _ _ _; rw [VU]; exact HB2.out.alloc HB2.out.size _
  have hsz4:w.heap.size≤W4.heap.size:=WY.out.size;clear hh;go_wp2_with (at_builtin; rw [← VU]; clear VU; refine wpList_append_own_at _ rfl _ _ 49 rfl w.heap.size 27 iO (.agg #[.string ⟨#[]⟩,.string ⟨#[]⟩]) 2 32 underlying49 Yp.out.1 Yp.out.2.1 Yp.out.2.2.1 Yp.out.2.2.2 rfl (by decide) _ ys.length (pairs ys) rfl UR.out ⟨w2.heap.size,0,none⟩ 1 1 [.string u.t,.string u.s] rfl rfl HN4.out (by simp [Value.oneCell']) (by unfold maxLen; omega) (by omega) hsz4 ?_);intro v' w5 hown hgr _ _;have HR:Hid (w5.ownsRow w.heap.size 27 2 v' (eZ (us.take (k + 1)) new).length (pairs (eZ (us.take (k + 1)) new))):=by
   show World.ownsRow _ _ _ _ _ _ _;rw [HWE.out,T9];have:pairs (ys ++ [u])=pairs ys ++ [.string u.t,.string u.s]:=by simp [pairs]
   rw [this]; exact hown
  have XZ:Hid (ag w w5):=WY.out.grown hgr WY.out.size (fun g hg=>(UR.out.lt g hg).1);clear hown hgr d0 d1 dl;go_wp2;go_roundw;case rel=>exact ⟨k + 1,by omega,by go_num,HR,XZ⟩
  simp [intOf] <;> omega
 have HE:Hid (wr.ownsRow w.heap.size 27 2 u5 (eZ us new).length (pairs (eZ us new))):=by
  have h:=HO.out;rw [List.take_of_length_le (by omega)] at h;exact h
 clear HO;go_wp2;go_ret;exact ⟨⟨_,rfl,HE.out⟩,HB.out⟩
end Go.Proofs.YtajkkeikihhejaaGreat
