/- The objects that tuples name, each once, as the document lists them. -/
import Derived.Test.YtogjfppkbkgaeaaGreatJ11
import Derived.Test.YtogjfppkbkgaeaaGreatJ9
import Derived.BigQuiet
import Derived.WalkSmall
import Derived.Test.YtogjfppkbkgaeaaGreatJ4
import Derived.Test.YtogjfppkbkgaeaaGreatJ8
import Derived.Test.YtogjfppkbkgaeaaGreatJ6
namespace Go.Proofs.YtogjfppkbkgaeaaGreat
set_option linter.unusedVariables false
set_option maxRecDepth 100000
open Go.ChangeShapes Go.WideShapes Go.ChangeAt Go.RowKit Go.Maps
open Pl
def dU (u:Bool) (ts:List Tp):List Al:=if u then dh ts else eY ts
def fE (u:Bool) (xs:List Al) (t:Tp):Nat→List Al
 | 0=>xs
 | 1=>if u then xs else aK xs ⟨t.a,t.b⟩
 | _=>if u then bQ xs t else fO xs t
theorem Cb (u:Bool) {ts:List Tp} {k:Nat} (h:k < ts.length):dU u (ts.take (k + 1))=fE u (dU u (ts.take k)) ts[k] 2:=by
 rw [List.take_succ_eq_append_getElem h];cases u
 ·exact wh _ _
 ·exact tq _ _
theorem Ef (u:Bool) (ts:List Tp):(dU u ts).length≤2 * ts.length:=by
 cases u
 ·have key:∀ (ts:List Tp) (xs:List Al),(ts.foldl fO xs).length≤xs.length + 2 * ts.length:=by
   intro ts
   induction ts with
   | nil=>intro xs; simp
   | cons t ts ih=>intro xs; have h1:=ih (fO xs t); have h2:=mV xs t; simp only [List.foldl_cons,List.length_cons]; omega
  have:=key ts [];simpa [dU,eY] using this
 ·have key:∀ (ts:List Tp) (xs:List Al),(ts.foldl bQ xs).length≤xs.length + ts.length:=by
   intro ts
   induction ts with
   | nil=>intro xs; simp
   | cons t ts ih=>intro xs; have h1:=ih (bQ xs t); have h2:=mW xs t; simp only [List.foldl_cons,List.length_cons]; omega
  have:=key ts [];simp [dU,dh] at this ⊢;omega
theorem Jq (u:Bool) (xs:List Al) (t:Tp) (q:Nat):(fE u xs t q).length≤xs.length + 2:=by
 match q with
 | 0=>simp [fE]
 | 1=>have:=kJ xs ⟨t.a,t.b⟩; cases u <;> simp [fE]; omega
 | q + 2=>have h1:=mW xs t; have h2:=mV xs t; cases u <;> simp [fE] <;> omega
theorem oW {xs:List Al} {o:Al} {k:Nat} (h:k < xs.length):gT (xs.take (k + 1)) o=(gT (xs.take k) o || qN xs[k].t xs[k].s o.t o.s):=by
 unfold gT;rw [List.take_succ_eq_append_getElem h,List.any_append];simp [iC,qN]
theorem yU (w:World) (o:Al):∀ j u,[Value.string o.t,Value.string o.s][j]?=some u→(w.alloc (.cells #[.string o.t,.string o.s] 45)).cell? ((⟨w.heap.size,0,none⟩:Addr).add j)=some u:=fun j u hu=>by
 match j,hu with
 | 0,hu=>simp at hu; subst hu; simp [Addr.add]
 | 1,hu=>simp at hu; subst hu; simp [Addr.add]
theorem dm.at0 {w:World} {ad:Option Addr} {xs:List Al} (h:dm w ad xs) {k:Nat} (hk:k < xs.length):∃ b off,ad=some ⟨b,off,none⟩∧Iw w b (off + k * 2) xs[k]∧b < w.heap.size:=by
 rcases h with h | ⟨b',off',e,hb,hr⟩
 ·rw [h] at hk; simp at hk
 ·exact ⟨b',off',e,hr k hk,hb⟩
set_option maxHeartbeats 16000000 in
theorem oq (ad:Option Addr) (cap:Nat) (ts:List Tp) (u:Bool) (w:World) (hlt:ts.length≤40) (hst:Sl w ad ts) :
  Calls Tryz.prog 57 #[.slice ad ts.length cap,.bool u] w fun e w'=>(∃ v,e=.returned v∧w'.ownsRow w.heap.size 45 2 v (dU u ts).length (pairs (dU u ts)))∧Below w.heap.size w w':=by
 obtain ⟨iO,h0,h1,h2,h3⟩:=mI;have HIO:=aj (And.intro h0 (And.intro h1 (And.intro h2 h3)));have HST:=aj hst;obtain ⟨W0,hW0⟩:∃ W0,W0=w.alloc (.cells #[] 45):=⟨_,rfl⟩;have HB0:Hid (Below w.heap.size w W0):=by show Below _ _ _; rw [hW0]; exact (Below.refl _ _).alloc (Nat.le_refl _) _
 have HLIT:Hid (W0.ownsRow w.heap.size 45 2 (.slice (some ⟨w.heap.size,0,none⟩) 0 0) (dU u (ts.take 0)).length (pairs (dU u (ts.take 0)))):=by
  have e:dU u (ts.take 0)=[]:=by cases u <;> rfl
  show World.ownsRow _ _ _ _ _ _ _;rw [hW0,e];exact World.ownsRow_lit w #[] 0 (Nat.le_refl _) (by unfold maxLen; omega) (by simp)
 clear hst h0 h1 h2 h3;go_enter Tryz.func57,Tryz.ntmps57;go_wp2_with fail;rw [← hW0];clear hW0;go_loopw [5,6] (fun v i wr=>∃ k:Nat,k≤ts.length∧i=.int .i64 k∧Hid (wr.ownsRow w.heap.size 45 2 v (dU u (ts.take k)).length (pairs (dU u (ts.take k))))∧Hid (Below w.heap.size w wr)) (fun _ i _=>ts.length - (intOf i).toNat);case atStart=>exact ⟨0,Nat.zero_le _,rfl,HLIT,HB0⟩
 case round =>
  clear HLIT HB0;obtain ⟨k,hk,rfl,HOW,HBW⟩:=hrel;by_cases hlt2:k < ts.length
  ·have HSU:=aj (Cb u hlt2);obtain ⟨x,hx⟩:∃ x,x=ts[k]:=⟨_,rfl⟩;obtain ⟨xs,hxs⟩:∃ xs,xs=dU u (ts.take k):=⟨_,rfl⟩;have hxl:xs.length≤80:=by have:=Ef u (ts.take k); rw [List.length_take] at this; rw [hxs]; omega
   rw [← hx,← hxs] at HSU;rw [← hxs] at HOW;have HX:=aj hx;have hi1:(0:Int)≤(k:Int):=by omega
   have hi2:(k:Int) < (ts.length:Int):=by omega
   clear hxs hx;go_wp2;go_loopw [5,7] (fun v i w2=>∃ q:Nat,q≤2∧i=.int .i64 q∧Hid (w2.ownsRow w.heap.size 45 2 v (fE u xs x q).length (pairs (fE u xs x q)))∧Hid (Below w.heap.size w w2)) (fun _ i _=>2 - (intOf i).toNat);case atStart=>exact ⟨0,by omega,rfl,HOW,HBW⟩
   case round =>
    obtain ⟨w2,rfl⟩:∃ w2,w2=wr:=⟨_,rfl⟩;obtain ⟨q,hq,rfl,HO2,HB2⟩:=hrel;have hi1:(0:Int)≤(k:Int):=by omega
    have hi2:(k:Int) < (ts.length:Int):=by omega
    have hsl:=Jq u xs x q;obtain ⟨b,off,hadr,⟨t0,t1,t2,t3,t4,t5⟩,hb⟩:=Sl.at0 (HST.out.below HB2.out) hlt2;rw [← HX.out] at t0 t1 t2 t3 t4 t5;subst hadr;by_cases hq2:q < 2
    ·have hc:q=0 ∨ q=1:=by omega
     rcases hc with rfl | rfl
     ·cases u with
      | true =>
       have HE:Hid (fE true xs x 1=fE true xs x 0):=rfl;have HR:Hid ((w2.alloc (.cells #[.string x.a,.string x.b] 45)).ownsRow w.heap.size 45 2 u5 (fE true xs x 1).length (pairs (fE true xs x 1))):=by show World.ownsRow _ _ _ _ _ _ _; rw [HE.out]; exact HO2.out.alloc _
       have HBR:Hid (Below w.heap.size w (w2.alloc (.cells #[.string x.a,.string x.b] 45))):=HB2.out.alloc HB2.out.size _;go_wp2;exact ⟨⟨1,by omega,rfl,HR,HBR⟩,by decide⟩
      | false =>
       obtain ⟨o,ho⟩:∃ o:Al,o=⟨x.a,x.b⟩:=⟨_,rfl⟩;have HOE:Hid (fE false xs x (0 + 1)=aK (fE false xs x 0) o):=by show _=_; rw [ho]; rfl
       obtain ⟨ys,hys⟩:∃ ys,ys=fE false xs x 0:=⟨_,rfl⟩;rw [← hys] at HOE HO2 hsl;clear hys;have hx1:x.a=o.t:=by rw [ho]
       have hx2:x.b=o.s:=by rw [ho]
       clear ho;obtain ⟨adO,capO,rfl,hsO⟩:=fU HO2.out;have HSO:=aj hsO;obtain ⟨W1,hW1⟩:∃ W1,W1=w2.alloc (.cells #[.string o.t,.string o.s] 45):=⟨_,rfl⟩;have HBr:Hid (Below w2.heap.size w2 W1):=by show Below _ _ _; rw [hW1]; exact (Below.refl _ _).alloc (Nat.le_refl _) _
       have hz1:w2.heap.size < W1.heap.size:=by rw [hW1]; simp
       have d0:W1.cell? ⟨w2.heap.size,0,none⟩=some (.string o.t):=by rw [hW1]; simp
       have d1:W1.cell? ⟨w2.heap.size,1,none⟩=some (.string o.s):=by rw [hW1]; simp
       clear hsO;go_wp2_with fail;rw [← hW1];clear hW1 t0 t1 t2 t3 t4 t5 hx1 hx2;go_loopw [9,10] (fun ov j w3=>∃ (m:Nat) (bb:Bool),m≤ys.length∧ov=.bool bb∧j=.int .i64 m∧Hid (bb=gT (ys.take m) o)∧Hid (Below W1.heap.size W1 w3)) (fun _ j _=>ys.length - (intOf j).toNat);case atStart=>exact ⟨0,false,Nat.zero_le _,rfl,rfl,rfl,Below.refl _ _⟩
       case round =>
        obtain ⟨m,bb,hm,rfl,rfl,HBB,HB3⟩:=hrel;have HBx:Hid (Below w2.heap.size w2 wr):=HBr.out.trans (HB3.out.mono HBr.out.size);have HBw:Hid (Below w.heap.size w wr):=HB2.out.trans (HBx.out.mono HB2.out.size);have HOx:=aj (aI HO2.out HBx.out);have c0:=mK HB3.out hz1 d0;have c1:=mK HB3.out hz1 d1;have hz3:w2.heap.size < wr.heap.size:=Nat.lt_of_lt_of_le hz1 HB3.out.size;by_cases hlm:m < ys.length
        ·obtain ⟨bO,offO,hadO,⟨s0,s1⟩,hbO⟩:=dm.at0 (HSO.out.below HBx.out) hlm;have hm1:(0:Int)≤(m:Int):=by omega
         have hm2:(m:Int) < (ys.length:Int):=by omega
         have HTK:=aj (oW (o:=o) hlm);cases bb with
         | true =>
          have HBB2:Hid (true=gT (ys.take (m + 1)) o):=by show _=_; rw [HTK.out,← HBB.out]; rfl
          clear s0 s1 c0 c1;go_wp2_with fail;go_quiet (fail);go_wp2;go_roundw;case rel=>exact ⟨m + 1,true,by omega,rfl,by go_num,HBB2,below_drewN HB3.out _⟩
          case measure=>simp [intOf] <;> omega
         | false =>
          cases hv:qN ys[m].t ys[m].s o.t o.s with
          | true =>
           have heq:=cu _ _ _ _ hv;have HBB2:Hid (true=gT (ys.take (m + 1)) o):=by show _=_; rw [HTK.out,hv]; simp
           clear hv;go_wp2_with fail;go_quiet (fail);go_wp2;go_roundw;case rel=>exact ⟨m + 1,true,by omega,rfl,by go_num,HBB2,below_drewN HB3.out _⟩
           case measure=>simp [intOf] <;> omega
          | false =>
           have heq:=cu _ _ _ _ hv;have HBB2:Hid (false=gT (ys.take (m + 1)) o):=by show _=_; rw [HTK.out,hv,← HBB.out]; rfl
           clear hv;go_wp2_with fail;go_quiet (fail);go_wp2;go_roundw;case rel=>exact ⟨m + 1,false,by omega,rfl,by go_num,HBB2,below_drewN HB3.out _⟩
           case measure=>simp [intOf] <;> omega
        ·have HAL:Hid (bb=gT ys o):=by show _=_; rw [HBB.out,List.take_of_length_le (by omega)]
         cases bb with
         | true =>
          have HR:Hid (wr.ownsRow w.heap.size 45 2 (.slice adO ys.length capO) (fE false xs x (0 + 1)).length (pairs (fE false xs x (0 + 1)))):=by
           show World.ownsRow _ _ _ _ _ _ _;rw [HOE.out]; unfold aK; rw [← HAL.out]; exact HOx.out
          clear HAL c0 c1;go_wp2;exact ⟨⟨0 + 1,by omega,rfl,HR,HBw⟩,by decide⟩
         | false =>
          have HWE:Hid (aK ys o=ys ++ [o]):=by show _=_; unfold aK; rw [← HAL.out]; rfl
          obtain ⟨W4,hW4⟩:∃ W4,W4=wr.alloc (.cells #[.string o.t,.string o.s] 45):=⟨_,rfl⟩;have HO4:Hid (W4.ownsRow w.heap.size 45 2 (.slice adO ys.length capO) ys.length (pairs ys)):=by show World.ownsRow _ _ _ _ _ _ _; rw [hW4]; exact HOx.out.alloc _
          have HN4:Hid (∀ j u,[Value.string o.t,Value.string o.s][j]?=some u→W4.cell? ((⟨wr.heap.size,0,none⟩:Addr).add j)=some u):=by rw [hW4]; exact yU wr o
          have HBW4:Hid (Below w.heap.size w W4):=by show Below _ _ _; rw [hW4]; exact HBw.out.alloc HBw.out.size _
          have hsz4:w.heap.size≤W4.heap.size:=HBW4.out.size;clear HAL;go_wp2_with (at_builtin; rw [← hW4]; clear hW4; refine wpList_append_own_at _ rfl _ _ 51 rfl w.heap.size 45 iO (.agg #[.string ⟨#[]⟩,.string ⟨#[]⟩]) 2 32 Tryz.underlying51 HIO.out.1 HIO.out.2.1 HIO.out.2.2.1 HIO.out.2.2.2 rfl (by decide) _ ys.length (pairs ys) rfl HO4.out ⟨wr.heap.size,0,none⟩ 1 1 [.string o.t,.string o.s] rfl rfl HN4.out (by simp [Value.oneCell']) (by unfold maxLen; omega) (by omega) hsz4 ?_);intro v' w5 hown hgr _ _;have HR:Hid (w5.ownsRow w.heap.size 45 2 v' (fE false xs x (0 + 1)).length (pairs (fE false xs x (0 + 1)))):=by
           show World.ownsRow _ _ _ _ _ _ _;rw [HOE.out,HWE.out,List.length_append];have:pairs (ys ++ [o])=pairs ys ++ [.string o.t,.string o.s]:=by simp [pairs]
           rw [this]; exact hown
          have HBR:Hid (Below w.heap.size w w5):=HBW4.out.grown hgr HBW4.out.size (fun g hg=>(HO4.out.lt g hg).1);clear hown hgr c0 c1;go_wp2;exact ⟨⟨0 + 1,by omega,rfl,HR,HBR⟩,by decide⟩
     ·cases u with
      | true =>
       cases hz:x.s.toList.isEmpty with
       | false =>
        have hs2:(x.s.toList == [])=false:=by rw [nJ]; exact hz
        have HE:Hid (fE true xs x 2=fE true xs x 1):=by show bQ xs x=xs; unfold bQ; rw [hs2]; rfl
        have HR:Hid ((w2.alloc (.cells #[.string x.c,.string x.d] 45)).ownsRow w.heap.size 45 2 u5 (fE true xs x 2).length (pairs (fE true xs x 2))):=by show World.ownsRow _ _ _ _ _ _ _; rw [HE.out]; exact HO2.out.alloc _
        have HBR:Hid (Below w.heap.size w (w2.alloc (.cells #[.string x.c,.string x.d] 45))):=HB2.out.alloc HB2.out.size _;go_wp2;exact ⟨⟨2,by omega,rfl,HR,HBR⟩,by decide⟩
       | true =>
        have hs2:(x.s.toList == [])=true:=by rw [nJ]; exact hz
        obtain ⟨o,ho⟩:∃ o:Al,o=⟨x.c,x.d⟩:=⟨_,rfl⟩;have HOE:Hid (fE true xs x (1 + 1)=aK (fE true xs x 1) o):=by show _=_; rw [ho]; show bQ xs x=_; unfold bQ; rw [hs2]; rfl
        obtain ⟨ys,hys⟩:∃ ys,ys=fE true xs x 1:=⟨_,rfl⟩;rw [← hys] at HOE HO2 hsl;clear hys;have hx1:x.c=o.t:=by rw [ho]
        have hx2:x.d=o.s:=by rw [ho]
        clear ho;obtain ⟨adO,capO,rfl,hsO⟩:=fU HO2.out;have HSO:=aj hsO;obtain ⟨W1,hW1⟩:∃ W1,W1=w2.alloc (.cells #[.string o.t,.string o.s] 45):=⟨_,rfl⟩;have HBr:Hid (Below w2.heap.size w2 W1):=by show Below _ _ _; rw [hW1]; exact (Below.refl _ _).alloc (Nat.le_refl _) _
        have hz1:w2.heap.size < W1.heap.size:=by rw [hW1]; simp
        have d0:W1.cell? ⟨w2.heap.size,0,none⟩=some (.string o.t):=by rw [hW1]; simp
        have d1:W1.cell? ⟨w2.heap.size,1,none⟩=some (.string o.s):=by rw [hW1]; simp
        clear hsO;go_wp2_with fail;rw [← hW1];clear hW1 t0 t1 t2 t3 t4 t5 hx1 hx2;go_loopw [9,10] (fun ov j w3=>∃ (m:Nat) (bb:Bool),m≤ys.length∧ov=.bool bb∧j=.int .i64 m∧Hid (bb=gT (ys.take m) o)∧Hid (Below W1.heap.size W1 w3)) (fun _ j _=>ys.length - (intOf j).toNat);case atStart=>exact ⟨0,false,Nat.zero_le _,rfl,rfl,rfl,Below.refl _ _⟩
        case round =>
         obtain ⟨m,bb,hm,rfl,rfl,HBB,HB3⟩:=hrel;have HBx:Hid (Below w2.heap.size w2 wr):=HBr.out.trans (HB3.out.mono HBr.out.size);have HBw:Hid (Below w.heap.size w wr):=HB2.out.trans (HBx.out.mono HB2.out.size);have HOx:=aj (aI HO2.out HBx.out);have c0:=mK HB3.out hz1 d0;have c1:=mK HB3.out hz1 d1;have hz3:w2.heap.size < wr.heap.size:=Nat.lt_of_lt_of_le hz1 HB3.out.size;by_cases hlm:m < ys.length
         ·obtain ⟨bO,offO,hadO,⟨s0,s1⟩,hbO⟩:=dm.at0 (HSO.out.below HBx.out) hlm;have hm1:(0:Int)≤(m:Int):=by omega
          have hm2:(m:Int) < (ys.length:Int):=by omega
          have HTK:=aj (oW (o:=o) hlm);cases bb with
          | true =>
           have HBB2:Hid (true=gT (ys.take (m + 1)) o):=by show _=_; rw [HTK.out,← HBB.out]; rfl
           clear s0 s1 c0 c1;go_wp2_with fail;go_quiet (fail);go_wp2;go_roundw;case rel=>exact ⟨m + 1,true,by omega,rfl,by go_num,HBB2,below_drewN HB3.out _⟩
           case measure=>simp [intOf] <;> omega
          | false =>
           cases hv:qN ys[m].t ys[m].s o.t o.s with
           | true =>
            have heq:=cu _ _ _ _ hv;have HBB2:Hid (true=gT (ys.take (m + 1)) o):=by show _=_; rw [HTK.out,hv]; simp
            clear hv;go_wp2_with fail;go_quiet (fail);go_wp2;go_roundw;case rel=>exact ⟨m + 1,true,by omega,rfl,by go_num,HBB2,below_drewN HB3.out _⟩
            case measure=>simp [intOf] <;> omega
           | false =>
            have heq:=cu _ _ _ _ hv;have HBB2:Hid (false=gT (ys.take (m + 1)) o):=by show _=_; rw [HTK.out,hv,← HBB.out]; rfl
            clear hv;go_wp2_with fail;go_quiet (fail);go_wp2;go_roundw;case rel=>exact ⟨m + 1,false,by omega,rfl,by go_num,HBB2,below_drewN HB3.out _⟩
            case measure=>simp [intOf] <;> omega
         ·have HAL:Hid (bb=gT ys o):=by show _=_; rw [HBB.out,List.take_of_length_le (by omega)]
          cases bb with
          | true =>
           have HR:Hid (wr.ownsRow w.heap.size 45 2 (.slice adO ys.length capO) (fE true xs x (1 + 1)).length (pairs (fE true xs x (1 + 1)))):=by
            show World.ownsRow _ _ _ _ _ _ _;rw [HOE.out]; unfold aK; rw [← HAL.out]; exact HOx.out
           clear HAL c0 c1;go_wp2;exact ⟨⟨1 + 1,by omega,rfl,HR,HBw⟩,by decide⟩
          | false =>
           have HWE:Hid (aK ys o=ys ++ [o]):=by show _=_; unfold aK; rw [← HAL.out]; rfl
           obtain ⟨W4,hW4⟩:∃ W4,W4=wr.alloc (.cells #[.string o.t,.string o.s] 45):=⟨_,rfl⟩;have HO4:Hid (W4.ownsRow w.heap.size 45 2 (.slice adO ys.length capO) ys.length (pairs ys)):=by show World.ownsRow _ _ _ _ _ _ _; rw [hW4]; exact HOx.out.alloc _
           have HN4:Hid (∀ j u,[Value.string o.t,Value.string o.s][j]?=some u→W4.cell? ((⟨wr.heap.size,0,none⟩:Addr).add j)=some u):=by rw [hW4]; exact yU wr o
           have HBW4:Hid (Below w.heap.size w W4):=by show Below _ _ _; rw [hW4]; exact HBw.out.alloc HBw.out.size _
           have hsz4:w.heap.size≤W4.heap.size:=HBW4.out.size;clear HAL;go_wp2_with (at_builtin; rw [← hW4]; clear hW4; refine wpList_append_own_at _ rfl _ _ 51 rfl w.heap.size 45 iO (.agg #[.string ⟨#[]⟩,.string ⟨#[]⟩]) 2 32 Tryz.underlying51 HIO.out.1 HIO.out.2.1 HIO.out.2.2.1 HIO.out.2.2.2 rfl (by decide) _ ys.length (pairs ys) rfl HO4.out ⟨wr.heap.size,0,none⟩ 1 1 [.string o.t,.string o.s] rfl rfl HN4.out (by simp [Value.oneCell']) (by unfold maxLen; omega) (by omega) hsz4 ?_);intro v' w5 hown hgr _ _;have HR:Hid (w5.ownsRow w.heap.size 45 2 v' (fE true xs x (1 + 1)).length (pairs (fE true xs x (1 + 1)))):=by
            show World.ownsRow _ _ _ _ _ _ _;rw [HOE.out,HWE.out,List.length_append];have:pairs (ys ++ [o])=pairs ys ++ [.string o.t,.string o.s]:=by simp [pairs]
            rw [this]; exact hown
           have HBR:Hid (Below w.heap.size w w5):=HBW4.out.grown hgr HBW4.out.size (fun g hg=>(HO4.out.lt g hg).1);clear hown hgr c0 c1;go_wp2;exact ⟨⟨1 + 1,by omega,rfl,HR,HBR⟩,by decide⟩
      | false =>
       obtain ⟨o,ho⟩:∃ o:Al,o=⟨x.c,x.d⟩:=⟨_,rfl⟩;have HOE:Hid (fE false xs x (1 + 1)=aK (fE false xs x 1) o):=by show _=_; rw [ho]; rfl
       obtain ⟨ys,hys⟩:∃ ys,ys=fE false xs x 1:=⟨_,rfl⟩;rw [← hys] at HOE HO2 hsl;clear hys;have hx1:x.c=o.t:=by rw [ho]
       have hx2:x.d=o.s:=by rw [ho]
       clear ho;obtain ⟨adO,capO,rfl,hsO⟩:=fU HO2.out;have HSO:=aj hsO;obtain ⟨W1,hW1⟩:∃ W1,W1=w2.alloc (.cells #[.string o.t,.string o.s] 45):=⟨_,rfl⟩;have HBr:Hid (Below w2.heap.size w2 W1):=by show Below _ _ _; rw [hW1]; exact (Below.refl _ _).alloc (Nat.le_refl _) _
       have hz1:w2.heap.size < W1.heap.size:=by rw [hW1]; simp
       have d0:W1.cell? ⟨w2.heap.size,0,none⟩=some (.string o.t):=by rw [hW1]; simp
       have d1:W1.cell? ⟨w2.heap.size,1,none⟩=some (.string o.s):=by rw [hW1]; simp
       clear hsO;go_wp2_with fail;rw [← hW1];clear hW1 t0 t1 t2 t3 t4 t5 hx1 hx2;go_loopw [9,10] (fun ov j w3=>∃ (m:Nat) (bb:Bool),m≤ys.length∧ov=.bool bb∧j=.int .i64 m∧Hid (bb=gT (ys.take m) o)∧Hid (Below W1.heap.size W1 w3)) (fun _ j _=>ys.length - (intOf j).toNat);case atStart=>exact ⟨0,false,Nat.zero_le _,rfl,rfl,rfl,Below.refl _ _⟩
       case round =>
        obtain ⟨m,bb,hm,rfl,rfl,HBB,HB3⟩:=hrel;have HBx:Hid (Below w2.heap.size w2 wr):=HBr.out.trans (HB3.out.mono HBr.out.size);have HBw:Hid (Below w.heap.size w wr):=HB2.out.trans (HBx.out.mono HB2.out.size);have HOx:=aj (aI HO2.out HBx.out);have c0:=mK HB3.out hz1 d0;have c1:=mK HB3.out hz1 d1;have hz3:w2.heap.size < wr.heap.size:=Nat.lt_of_lt_of_le hz1 HB3.out.size;by_cases hlm:m < ys.length
        ·obtain ⟨bO,offO,hadO,⟨s0,s1⟩,hbO⟩:=dm.at0 (HSO.out.below HBx.out) hlm;have hm1:(0:Int)≤(m:Int):=by omega
         have hm2:(m:Int) < (ys.length:Int):=by omega
         have HTK:=aj (oW (o:=o) hlm);cases bb with
         | true =>
          have HBB2:Hid (true=gT (ys.take (m + 1)) o):=by show _=_; rw [HTK.out,← HBB.out]; rfl
          clear s0 s1 c0 c1;go_wp2_with fail;go_quiet (fail);go_wp2;go_roundw;case rel=>exact ⟨m + 1,true,by omega,rfl,by go_num,HBB2,below_drewN HB3.out _⟩
          case measure=>simp [intOf] <;> omega
         | false =>
          cases hv:qN ys[m].t ys[m].s o.t o.s with
          | true =>
           have heq:=cu _ _ _ _ hv;have HBB2:Hid (true=gT (ys.take (m + 1)) o):=by show _=_; rw [HTK.out,hv]; simp
           clear hv;go_wp2_with fail;go_quiet (fail);go_wp2;go_roundw;case rel=>exact ⟨m + 1,true,by omega,rfl,by go_num,HBB2,below_drewN HB3.out _⟩
           case measure=>simp [intOf] <;> omega
          | false =>
           have heq:=cu _ _ _ _ hv;have HBB2:Hid (false=gT (ys.take (m + 1)) o):=by show _=_; rw [HTK.out,hv,← HBB.out]; rfl
           clear hv;go_wp2_with fail;go_quiet (fail);go_wp2;go_roundw;case rel=>exact ⟨m + 1,false,by omega,rfl,by go_num,HBB2,below_drewN HB3.out _⟩
           case measure=>simp [intOf] <;> omega
        ·have HAL:Hid (bb=gT ys o):=by show _=_; rw [HBB.out,List.take_of_length_le (by omega)]
         cases bb with
         | true =>
          have HR:Hid (wr.ownsRow w.heap.size 45 2 (.slice adO ys.length capO) (fE false xs x (1 + 1)).length (pairs (fE false xs x (1 + 1)))):=by
           show World.ownsRow _ _ _ _ _ _ _;rw [HOE.out]; unfold aK; rw [← HAL.out]; exact HOx.out
          clear HAL c0 c1;go_wp2;exact ⟨⟨1 + 1,by omega,rfl,HR,HBw⟩,by decide⟩
         | false =>
          have HWE:Hid (aK ys o=ys ++ [o]):=by show _=_; unfold aK; rw [← HAL.out]; rfl
          obtain ⟨W4,hW4⟩:∃ W4,W4=wr.alloc (.cells #[.string o.t,.string o.s] 45):=⟨_,rfl⟩;have HO4:Hid (W4.ownsRow w.heap.size 45 2 (.slice adO ys.length capO) ys.length (pairs ys)):=by show World.ownsRow _ _ _ _ _ _ _; rw [hW4]; exact HOx.out.alloc _
          have HN4:Hid (∀ j u,[Value.string o.t,Value.string o.s][j]?=some u→W4.cell? ((⟨wr.heap.size,0,none⟩:Addr).add j)=some u):=by rw [hW4]; exact yU wr o
          have HBW4:Hid (Below w.heap.size w W4):=by show Below _ _ _; rw [hW4]; exact HBw.out.alloc HBw.out.size _
          have hsz4:w.heap.size≤W4.heap.size:=HBW4.out.size;clear HAL;go_wp2_with (at_builtin; rw [← hW4]; clear hW4; refine wpList_append_own_at _ rfl _ _ 51 rfl w.heap.size 45 iO (.agg #[.string ⟨#[]⟩,.string ⟨#[]⟩]) 2 32 Tryz.underlying51 HIO.out.1 HIO.out.2.1 HIO.out.2.2.1 HIO.out.2.2.2 rfl (by decide) _ ys.length (pairs ys) rfl HO4.out ⟨wr.heap.size,0,none⟩ 1 1 [.string o.t,.string o.s] rfl rfl HN4.out (by simp [Value.oneCell']) (by unfold maxLen; omega) (by omega) hsz4 ?_);intro v' w5 hown hgr _ _;have HR:Hid (w5.ownsRow w.heap.size 45 2 v' (fE false xs x (1 + 1)).length (pairs (fE false xs x (1 + 1)))):=by
           show World.ownsRow _ _ _ _ _ _ _;rw [HOE.out,HWE.out,List.length_append];have:pairs (ys ++ [o])=pairs ys ++ [.string o.t,.string o.s]:=by simp [pairs]
           rw [this]; exact hown
          have HBR:Hid (Below w.heap.size w w5):=HBW4.out.grown hgr HBW4.out.size (fun g hg=>(HO4.out.lt g hg).1);clear hown hgr c0 c1;go_wp2;exact ⟨⟨1 + 1,by omega,rfl,HR,HBR⟩,by decide⟩
    ·have HO3:Hid (w2.ownsRow w.heap.size 45 2 u5 (dU u (ts.take (k + 1))).length (pairs (dU u (ts.take (k + 1))))):=by
      have e:q=2:=by omega
      have h2:=HO2.out;rw [e] at h2;show World.ownsRow _ _ _ _ _ _ _; rw [HSU.out]; exact h2
     go_wp2;go_roundw;case rel=>exact ⟨k + 1,by omega,by go_num,HO3,HB2⟩
     case measure=>simp [intOf] <;> omega
  ·have HE:Hid (dU u (ts.take k)=dU u ts):=by show _=_; rw [List.take_of_length_le (by omega)]
   have HO3:Hid (wr.ownsRow w.heap.size 45 2 u5 (dU u ts).length (pairs (dU u ts))):=by show World.ownsRow _ _ _ _ _ _ _; rw [← HE.out]; exact HOW.out
   go_wp2;go_ret;exact ⟨⟨_,rfl,HO3.out⟩,HBW.out⟩
section
variable {P:Program} {ops:Array Oper} {Q:Exit→Act→World→Prop}
theorem iI {id:Nat} {a:Act} {w:World} (L:Nat) (f0:Nat→Value) (F:(Nat→Value)→Act) (I:(Nat→Bool)→(Nat→Value)→World→Prop)
  (hm:P.follows .mixedOrders=true) (hsz:ops.size=L + 1) (hord:Ah ops=true)
  (hcl:∀ o,ops[L]?=some o→∀ (l:Nat→Bool) f w',I l f w'→(∀ e ∈ o.after,Region.binds .any e=true→l e.on=true)→∀ k,k < L→l k=true)
  (h0:a=F f0) (hI0:I (fun _=>false) f0 w.drew)
  (hstep:∀ i,i < L→∀ o,ops[i]?=some o→∀ (l:Nat→Bool) f w',l i=false→I l f w'→(∀ e ∈ o.after,Region.binds .any e=true→l e.on=true) →
   wpOp P ops Q i (fun a' w''=>∃ v,a'=F (upd f i v)∧I (fun k=>if k=i then true else l k) (upd f i v) w'') (F f) w')
  (hfin:∀ o,ops[L]?=some o→∀ (l:Nat→Bool) f w',(∀ k,k < L→l k=true)→I l f w'→wpOp P ops Q L (fun a' w''=>Q .normal a' w'') (F f) w') :
  (Code.region id ops true).wp P Q a w:=by
 refine iK (fun listed a' w'=>listed.size=L + 1∧((listed.getD L false=false∧∃ f,a'=F f∧I (fun k=>listed.getD k false) f w') ∨ ((∀ j,j≤L→listed.getD j true=true)∧Q .normal a' w'))) hm ?_ ?_ ?_
 ·refine ⟨by simpa using hsz,Or.inl ⟨?_,_,h0,?_⟩⟩
  ·rw [Array.getD_eq_getD_getElem?,Array.getElem?_replicate]; split <;> rfl
  ·have:(fun k=>(Array.replicate ops.size false).getD k false)=fun _=>false:=funext fun k=>by rw [Array.getD_eq_getD_getElem?,Array.getElem?_replicate]; split <;> rfl
   rw [this]; exact hI0
 ·rintro listed a' w' ⟨hs,h⟩ i hi;obtain ⟨hl,o,ho,hpre⟩:=mem_ready.1 hi;have hiL:i < L + 1:=by have:=(Array.getElem?_eq_some_iff.1 ho).1; omega
  rcases h with ⟨hn,f,rfl,hI⟩ | ⟨hall,-⟩
  ·by_cases e:i=L
   ·subst e;have hall:∀ k,k < i→listed.getD k false=true:=hcl o ho _ f w' hI (fun e he hb=>hpre e he hb);refine wpOp_mono (fun a'' w'' hq=>⟨by simpa using hs,Or.inr ⟨fun j hj=>?_,hq⟩⟩) (hfin o ho _ f w' hall hI);rw [pQ (by simp; omega),fe _ _ _ (by omega)];by_cases e:j=i
    ·simp [e]
    ·rw [if_neg e]; exact hall j (by omega)
   ·refine wpOp_mono ?_ (hstep i (by omega) o ho _ f w' (by rw [← pQ (by omega)]; exact hl) hI (fun e he hb=>hpre e he hb));rintro a'' w'' ⟨v,rfl,hI'⟩;refine ⟨by simpa using hs,Or.inl ⟨?_,_,rfl,?_⟩⟩
    ·rw [fe _ _ _ (by omega),if_neg (Ne.symm e)]; exact hn
    ·have:(fun k=>(listed.setIfInBounds i true).getD k false)=fun k=>if k=i then true else listed.getD k false:=funext fun k=>fe _ _ _ (by omega)
     rw [this]; exact hI'
  ·rw [hall i (by omega)] at hl; cases hl
 ·rintro listed a' w' ⟨hs,h⟩ hr;rcases h with ⟨hn,-⟩ | ⟨-,hq⟩
  ·have:=sZ hr hsz (yT hord) hs L (by omega);rw [pQ (by omega)] at this;rw [this] at hn; cases hn
  ·exact hq
end
end Go.Proofs.YtogjfppkbkgaeaaGreat
namespace Go.Proofs.YtogjfppkbkgaeaaGreat.G
set_option linter.unusedVariables false
open Go.ChangeShapes Go.WideShapes Go.ChangeAt Go.RowKit
structure WI (C:Nat→Value) (W:World) (CD:Value→World→Prop) (l:Nat→Bool) (f:Nat→Value) (w:World):Prop where
 val:∀ k,k≤9→k ≠ 7→l k=true→f k=C k
 seq:l 7=true→l 4=true∧l 6=true
 nin:l 9=true→l 8=true
 mid:(l 7=false∧Below W.heap.size W w) ∨ (l 7=true∧CD (f 7) w)
section
variable {C:Nat→Value} {W:World} {CD:Value→World→Prop} {l:Nat→Bool} {f:Nat→Value} {w:World}
theorem wi_start (W:World):WI C W CD (fun _=>false) f W.drew:=⟨fun _ _ _ h=>(by cases h),fun h=>(by cases h),fun h=>(by cases h),.inl ⟨rfl,(Below.refl _ _).drew⟩⟩
theorem WI.put (h:WI C W CD l f w) {i:Nat} (hi:i ≠ 7) (h9:i=9→l 8=true) {v:Value} (hv:v=C i):WI C W CD (fun k=>if k=i then true else l k) (upd f i v) w:=by
 refine ⟨fun k hk h7 hl=>?_,fun hl=>?_,fun hl=>?_,?_⟩
 ·by_cases e:k=i
  ·subst e; simp [upd,hv]
  ·simp only [if_neg e] at hl;simp only [upd,if_neg e]; exact h.val k hk h7 hl
 ·have hl':(if (7:Nat)=i then true else l 7)=true:=hl;rw [if_neg (Ne.symm hi)] at hl';have:=h.seq hl';constructor
  ·show (if (4:Nat)=i then true else l 4)=true; rw [this.1]; split <;> rfl
  ·show (if (6:Nat)=i then true else l 6)=true; rw [this.2]; split <;> rfl
 ·have hl':(if (9:Nat)=i then true else l 9)=true:=hl;show (if (8:Nat)=i then true else l 8)=true;by_cases e:(9:Nat)=i
  ·rw [h9 e.symm]; split <;> rfl
  ·rw [if_neg e] at hl'; rw [h.nin hl']; split <;> rfl
 ·have e7:(if (7:Nat)=i then true else l 7)=l 7:=if_neg (Ne.symm hi);have f7:upd f i v 7=f 7:=by simp only [upd]; rw [if_neg (Ne.symm hi)]
  rcases h.mid with ⟨h1,h2⟩ | ⟨h1,h2⟩
  ·exact .inl ⟨e7.trans h1,h2⟩
  ·exact .inr ⟨e7.trans h1,by rw [f7]; exact h2⟩
theorem WI.before (h:WI C W CD l f w) (hl:l 7=false):Below W.heap.size W w:=by
 rcases h.mid with ⟨_,h2⟩ | ⟨h1,_⟩
 ·exact h2
 ·rw [h1] at hl; cases hl
theorem WI.early (h:WI C W CD l f w) (hl:l 4=false ∨ l 6=false):Below W.heap.size W w:=by
 refine h.before ?_;cases h7:l 7 with
 | false=>rfl
 | true =>
  obtain ⟨h4,h6⟩:=h.seq h7;rcases hl with e | e
  ·rw [h4] at e; cases e
  ·rw [h6] at e; cases e
theorem WI.call (h:WI C W CD l f w) (h4:l 4=true) (h6:l 6=true) {v:Value} {w':World} (hc:CD v w'):WI C W CD (fun k=>if k=7 then true else l k) (upd f 7 v) w':=by
 refine ⟨fun k hk h7 hl=>?_,fun _=>⟨by simp [h4],by simp [h6]⟩,fun hl=>h.nin hl,.inr ⟨by simp,by simp only [upd,if_true]; exact hc⟩⟩;simp only [if_neg h7] at hl;simp only [upd,if_neg h7]; exact h.val k hk h7 hl
theorem WI.last (h:WI C W CD l f w) (hall:∀ k,k < 10→l k=true):(∀ k,k≤9→k ≠ 7→f k=C k)∧CD (f 7) w:=by
 refine ⟨fun k hk h7=>h.val k hk h7 (hall k (by omega)),?_⟩;rcases h.mid with ⟨h1,_⟩ | ⟨_,h2⟩
 ·rw [hall 7 (by omega)] at h1; cases h1
 ·exact h2
end
end Go.Proofs.YtogjfppkbkgaeaaGreat.G
namespace Go.Proofs.YtogjfppkbkgaeaaGreat
open Go.ChangeShapes Go.WideShapes Go.ChangeAt Go.RowKit
open Pl
theorem FL:∃ i z,Tryz.prog.info? 73=some i∧i.zero=some z∧i.size=6∧i.bytes=96:=by
 have h:(Tryz.prog.info? 73).map (fun i=>(i.zero.isSome,i.size,i.bytes))=some (true,6,96):=by kernel_rfl
 cases hi:Tryz.prog.info? 73 with
 | none=>rw [hi] at h; cases h
 | some i =>
  rw [hi] at h;simp at h;obtain ⟨z,hz⟩:=Option.isSome_iff_exists.mp h.1;exact ⟨i,z,rfl,hz,h.2.1,h.2.2⟩
structure Filling (w wr:World) (g:Nat) (ts:List Tp) (k:Nat):Prop where
 below:Below w.heap.size w wr
 ge:w.heap.size≤g
 lt:g < wr.heap.size
 done:∀ (i:Nat) (h:i < ts.length),i < k→I5 wr g (0 + i * 6) ts[i]
 there:∀ j,j < ts.length * 6→(wr.cell? ⟨g,j,none⟩).isSome=true
 free:∀ j,wr.frozen? ⟨g,j,none⟩=false
theorem Filling.later {w wr w1:World} {g:Nat} {ts:List Tp} {k:Nat} (h:Filling w wr g ts k) (hb:Below wr.heap.size wr w1):Filling w w1 g ts k where
 below:=h.below.trans (hb.mono h.below.size)
 ge:=h.ge
 lt:=Nat.lt_of_lt_of_le h.lt hb.size
 done i hi hk:=(h.done i hi hk).same fun o=>hb.cell (p:=⟨g,o,none⟩) h.lt
 there j hj:=by rw [hb.cell (p:=⟨g,j,none⟩) h.lt]; exact h.there j hj
 free j:=by rw [hb.frozen (p:=⟨g,j,none⟩) h.lt]; exact h.free j
theorem Filling.put {w wr:World} {g:Nat} {ts:List Tp} {k:Nat} (h:Filling w wr g ts k) (hk:k < ts.length):Filling w (vL wr g (k * 6) ts[k]) g ts (k + 1) where
 below:=DK h.below h.ge
 ge:=h.ge
 lt:=by rw [GD]; exact h.lt
 done i hi hik:=by
  by_cases e:i=k
  ·subst e;rw [Nat.zero_add];exact Fz _ (fun j hj=>h.there _ (by omega))
  ·obtain ⟨a0,a1,a2,a3,a4,a5⟩:=h.done i hi (by omega);refine ⟨?_,?_,?_,?_,?_,?_⟩ <;> (rw [BH _ _ _ _ _ (by omega)]; assumption)
 there j hj:=by
  by_cases hin:j < k * 6 ∨ k * 6 + 6≤j
  ·rw [BH _ _ _ _ _ hin]; exact h.there j hj
  ·obtain ⟨a0,a1,a2,a3,a4,a5⟩:=Fz (w:=wr) (g:=g) (o:=k * 6) ts[k] (fun j hj=>h.there _ (by omega));have hj6:j=k * 6 ∨ j=k * 6 + 1 ∨ j=k * 6 + 2 ∨ j=k * 6 + 3 ∨ j=k * 6 + 4 ∨ j=k * 6 + 5:=by omega
   rcases hj6 with e | e | e | e | e | e
   ·rw [e,a0]; rfl
   ·rw [e,a1]; rfl
   ·rw [e,a2]; rfl
   ·rw [e,a3]; rfl
   ·rw [e,a4]; rfl
   ·rw [e,a5]; rfl
 free j:=by rw [BI]; exact h.free j
theorem qj {w w0:World} {ts:List Tp} {base:Nat} {e:TypeId} {xs:List Value} (h:w0.ownsRow base e 6 (.slice (some ⟨w.heap.size,0,none⟩) ts.length ts.length) ts.length xs) (hg:w.grownBy w0 none):Filling w w0 w.heap.size ts 0 where
 below:=(Below.refl _ _).grown hg (Nat.le_refl _) (fun k hk=>by cases hk)
 ge:=Nat.le_refl _
 lt:=(h.lt w.heap.size rfl).2
 done i hi hk:=absurd hk (Nat.not_lt_zero _)
 there j hj:=by
  rw [h.cellAt j hj,List.getElem?_eq_getElem (by rw [h.1]; exact hj)]; rfl
 free j:=h.frozenAt j
set_option maxHeartbeats 1000000 in
theorem Am (b off cap:Nat) (ts:List Tp) (w:World) (hlen:ts.length≤1048576) (hr:vJ w b off ts) (hb:b < w.heap.size) :
  Calls Tryz.prog 11 #[.slice (some ⟨b,off,none⟩) ts.length cap] w fun e w'=>e=.returned (.slice (some ⟨w.heap.size,0,none⟩) ts.length ts.length)∧Filling w w' w.heap.size ts ts.length:=by
 obtain ⟨inf,z,hi,hz0,hz1,hz2⟩:=FL;go_enter Tryz.func11,Tryz.ntmps11;go_wp2_with (at_make; refine wpList_make_full _ rfl _ _ 30 rfl w.heap.size 73 inf z 6 Tryz.underlying30 hi hz0 hz1 .i64 .i64 _ _ ts.length rfl rfl rfl rfl (by rw [hz2]; omega) (by unfold maxLen; omega) (Nat.le_refl _) ?_; intro w0 hown0 hgrow0);have F0:Filling w w0 w.heap.size ts 0:=qj hown0 hgrow0;clear hown0 hgrow0 hi hz0 hz1 hz2;go_loopw [4] (fun i wr=>∃ k:Nat,k≤ts.length∧i=.int .i64 k∧Filling w wr w.heap.size ts k) (fun i _=>ts.length - (intOf i).toNat);case atStart=>exact ⟨0,Nat.zero_le _,rfl,F0⟩
 case round =>
  obtain ⟨k,hk,rfl,F⟩:=hrel;by_cases hlt:k < ts.length
  ·obtain ⟨t0,t1,t2,t3,t4,t5⟩:=(hr.below F.below hb) k hlt;go_wp2_with fail;refine (BG _ _ _ _ _ _ _).mono ?_;rintro e w1 ⟨rfl,hb1⟩;have F1:=F.later hb1;have fz:=F1.free;obtain ⟨v0,u0⟩:=Option.isSome_iff_exists.mp (F1.there (k * 6) (by omega));obtain ⟨v1,u1⟩:=Option.isSome_iff_exists.mp (F1.there (k * 6 + 1) (by omega));obtain ⟨v2,u2⟩:=Option.isSome_iff_exists.mp (F1.there (k * 6 + 2) (by omega));obtain ⟨v3,u3⟩:=Option.isSome_iff_exists.mp (F1.there (k * 6 + 3) (by omega));obtain ⟨v4,u4⟩:=Option.isSome_iff_exists.mp (F1.there (k * 6 + 4) (by omega));obtain ⟨v5,u5⟩:=Option.isSome_iff_exists.mp (F1.there (k * 6 + 5) (by omega));have F2:=F1.put hlt;clear F F0 t0 t1 t2 t3 t4 t5 hb1;go_wp2;go_roundw;case rel=>exact ⟨k + 1,by omega,by go_num,F2⟩
   case measure=>simp [intOf]; omega
  ·obtain rfl:k=ts.length:=by omega
   go_wp2;go_ret;exact ⟨rfl,F⟩
theorem Ao (ad:Option Addr) (cap:Nat) (w:World) :
  Calls Tryz.prog 11 #[.slice ad 0 cap] w fun e w'=>e=.returned (.slice (some ⟨w.heap.size,0,none⟩) 0 0)∧Filling w w' w.heap.size [] 0:=by
 obtain ⟨inf,z,hi,hz0,hz1,hz2⟩:=FL;go_enter Tryz.func11,Tryz.ntmps11;go_wp2_with (at_make; refine wpList_make_full _ rfl _ _ 30 rfl w.heap.size 73 inf z 6 Tryz.underlying30 hi hz0 hz1 .i64 .i64 _ _ 0 rfl rfl rfl rfl (by omega) (by unfold maxLen; omega) (Nat.le_refl _) ?_; intro w0 hown0 hgrow0);have F0:Filling w w0 w.heap.size [] 0:=qj (ts:=[]) hown0 hgrow0;clear hown0 hgrow0 hi hz0 hz1 hz2;go_loopw [4] (fun i wr=>∃ k:Nat,k=0∧i=.int .i64 k∧Filling w wr w.heap.size [] 0) (fun i _=>(intOf i).toNat);case atStart=>exact ⟨0,rfl,rfl,F0⟩
 case round =>
  obtain ⟨k,rfl,rfl,F⟩:=hrel;go_wp2;go_ret;exact ⟨rfl,F⟩
theorem jk (ad:Option Addr) (cap:Nat) (ts:List Tp) (w:World) (hlen:ts.length≤1048576) (hs:Sl w ad ts) :
  Calls Tryz.prog 11 #[.slice ad ts.length cap] w fun e w'=>e=.returned (.slice (some ⟨w.heap.size,0,none⟩) ts.length ts.length)∧Filling w w' w.heap.size ts ts.length:=by
 rcases hs with rfl | ⟨b,off,rfl,hb,hr⟩
 ·exact Ao ad cap w
 ·exact Am b off cap ts w hlen hr hb
theorem Filling.row {w w':World} {g:Nat} {ts:List Tp} (h:Filling w w' g ts ts.length):vJ w' g 0 ts:=fun i hi=>h.done i hi hi
theorem Filling.sl {w w':World} {g:Nat} {ts:List Tp} (h:Filling w w' g ts ts.length):Sl w' (some ⟨g,0,none⟩) ts:=.inr ⟨g,0,rfl,h.lt,h.row⟩
end Go.Proofs.YtogjfppkbkgaeaaGreat
