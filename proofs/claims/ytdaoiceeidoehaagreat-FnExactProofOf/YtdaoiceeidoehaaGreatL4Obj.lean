/- The objects that tuples name, each once, as the document lists them. -/
import Derived.Test.YtdaoiceeidoehaaGreatJ21
open Go.Proofs.Tryz
set_option maxHeartbeats 80000000
namespace Go.Proofs.YtdaoiceeidoehaaGreat
set_option linter.unusedVariables false
set_option maxRecDepth 100000
open Go.ChangeShapes Go.WideShapes Go.ChangeAt Go.RowKit Go.Maps
open Pl
def eO (u:Bool) (ts:List Tp):List Al:=if u then dG ts else fI ts
def fQ (u:Bool) (xs:List Al) (t:Tp):Nat→List Al
 | 0=>xs
 | 1=>if u then xs else aS xs ⟨t.a,t.b⟩
 | _=>if u then dx xs t else gJ xs t
theorem EZ (u:Bool) {ts:List Tp} {k:Nat} (h:k < ts.length):eO u (ts.take (k + 1))=fQ u (eO u (ts.take k)) ts[k] 2:=by
 rw [R5 h];cases u
 ·exact yg _ _
 ·exact vw _ _
theorem Hw (u:Bool) (ts:List Tp):(eO u ts).length≤2 * ts.length:=by
 cases u
 ·have key:∀ (ts:List Tp) (xs:List Al),(ts.foldl gJ xs).length≤xs.length + 2 * ts.length:=by
   intro ts
   induction ts with
   | nil=>intro xs; simp
   | cons t ts ih=>intro xs; have h1:=ih (gJ xs t); have h2:=oJ xs t; simp only [List.foldl_cons,List.length_cons]; omega
  have:=key ts [];simpa [eO,fI] using this
 ·have key:∀ (ts:List Tp) (xs:List Al),(ts.foldl dx xs).length≤xs.length + ts.length:=by
   intro ts
   induction ts with
   | nil=>intro xs; simp
   | cons t ts ih=>intro xs; have h1:=ih (dx xs t); have h2:=oL xs t; simp only [List.foldl_cons,List.length_cons]; omega
  have:=key ts [];simp [eO,dG] at this ⊢;omega
theorem Nh (u:Bool) (xs:List Al) (t:Tp) (q:Nat):(fQ u xs t q).length≤xs.length + 2:=by
 match q with
 | 0=>simp [fQ]
 | 1=>have:=lT xs ⟨t.a,t.b⟩; cases u <;> simp [fQ]; omega
 | q + 2=>have h1:=oL xs t; have h2:=oJ xs t; cases u <;> simp [fQ] <;> omega
theorem qM {xs:List Al} {o:Al} {k:Nat} (h:k < xs.length):iK (xs.take (k + 1)) o=(iK (xs.take k) o || sI xs[k].t xs[k].s o.t o.s):=by
 unfold iK;rw [R5 h,List.any_append];simp [je,sI]
theorem Jj (w:World) (o:Al):∀ j u,[Value.string o.t,.string o.s][j]?=some u→(w.alloc (.cells #[.string o.t,.string o.s] 40)).cell? ((⟨w.heap.size,0,none⟩:Addr).add j)=some u:=fun j u hu=>by
 match j,hu with
 | 0,hu=>simp at hu; subst hu; simp [Addr.add]
 | 1,hu=>simp at hu; subst hu; simp [Addr.add]
theorem iy.at0 {w:World} {ad:Option Addr} {xs:List Al} (h:iy w ad xs) {k:Nat} (hk:k < xs.length):∃ b off,ad=some ⟨b,off,none⟩∧OB w b (off + k * 2) xs[k]∧b < w.heap.size:=by
 rcases h with h | ⟨b',off',e,hb,hr⟩
 ·rw [h] at hk; simp at hk
 ·exact ⟨b',off',e,hr k hk,hb⟩
theorem qh (ad:Option Addr) (cap:Nat) (ts:List Tp) (u:Bool) (w:World) (hlt:ts.length≤40) (hst:Sl w ad ts) :
  Calls prog 59 #[.slice ad ts.length cap,.bool u] w fun e w'=>(∃ v,e=.returned v∧w'.ownsRow w.heap.size 40 2 v (eO u ts).length (pairs (eO u ts)))∧Below w.heap.size w w':=by
 obtain ⟨iO,h0,h1,h2,h3⟩:=yf;have Vg:=aB (And.intro h0 (And.intro h1 (And.intro h2 h3)));have HST:=aB hst;obtain ⟨W0,hW0⟩:∃ W0,W0=w.alloc (.cells #[] 40):=⟨_,rfl⟩;have HB0:=pu hW0;have Wv:Hid (W0.ownsRow w.heap.size 40 2 (.slice (some ⟨w.heap.size,0,none⟩) 0 0) (eO u (ts.take 0)).length (pairs (eO u (ts.take 0)))):=by
  have e:eO u (ts.take 0)=[]:=by cases u <;> rfl
  show World.ownsRow _ _ _ _ _ _ _;rw [hW0,e];exact World.ownsRow_lit w #[] 0 (R4 _) (by unfold maxLen; omega) (by simp)
 clear hst h0 h1 h2 h3;go_enter func59,ntmps59;go_wp2_with fail;rw [← hW0];clear hW0;go_loopw [5,6] (fun v i wr=>∃ k:Nat,k≤ts.length∧i=.int .i64 k∧Hid (wr.ownsRow w.heap.size 40 2 v (eO u (ts.take k)).length (pairs (eO u (ts.take k))))∧Hid (Below w.heap.size w wr)) (fun _ i _=>ts.length - (intOf i).toNat);case atStart=>exact ⟨0,R6 _,rfl,Wv,HB0⟩
 case round =>
  clear Wv HB0;obtain ⟨k,hk,rfl,HOW,S9⟩:=hrel;by_cases hlt2:k < ts.length
  ·have Vw:=aB (EZ u hlt2);obtain ⟨x,hx⟩:∃ x,x=ts[k]:=⟨_,rfl⟩;obtain ⟨xs,hxs⟩:∃ xs,xs=eO u (ts.take k):=⟨_,rfl⟩;have hxl:xs.length≤80:=by have:=Hw u (ts.take k); rw [Sq] at this; rw [hxs]; omega
   rw [← hx,← hxs] at Vw;rw [← hxs] at HOW;have HX:=aB hx;have hi1:=bn k;have hi2:(k:Int) < (ts.length:Int):=by omega
   clear hxs hx;go_wp2;go_loopw [5,7] (fun v i w2=>∃ q:Nat,q≤2∧i=.int .i64 q∧Hid (w2.ownsRow w.heap.size 40 2 v (fQ u xs x q).length (pairs (fQ u xs x q)))∧Hid (Below w.heap.size w w2)) (fun _ i _=>2 - (intOf i).toNat);case atStart=>exact ⟨0,by omega,rfl,HOW,S9⟩
   case round =>
    obtain ⟨w2,rfl⟩:∃ w2,w2=wr:=⟨_,rfl⟩;obtain ⟨q,hq,rfl,Ta,HB2⟩:=hrel;have hi1:=bn k;have hi2:(k:Int) < (ts.length:Int):=by omega
    have hsl:=Nh u xs x q;obtain ⟨b,off,SL,⟨t0,t1,t2,t3,t4,t5⟩,hb⟩:=Sl.at0 (HST.out.below HB2.out) hlt2;rw [← HX.out] at t0 t1 t2 t3 t4 t5;subst SL;by_cases hq2:q < 2
    ·have hc:q=0 ∨ q=1:=by omega
     rcases hc with rfl | rfl
     ·cases u with
      | true =>
       have HE:Hid (fQ true xs x 1=fQ true xs x 0):=rfl;have HR:Hid ((w2.alloc (.cells #[.string x.a,.string x.b] 40)).ownsRow w.heap.size 40 2 u5 (fQ true xs x 1).length (pairs (fQ true xs x 1))):=by show World.ownsRow _ _ _ _ _ _ _; rw [HE.out]; exact Ta.out.alloc _
       have U0:Hid (Below w.heap.size w (w2.alloc (.cells #[.string x.a,.string x.b] 40))):=HB2.out.alloc HB2.out.size _;go_wp2;exact ⟨⟨1,by omega,rfl,HR,U0⟩,by decide⟩
      | false =>
       obtain ⟨o,ho⟩:∃ o:Al,o=⟨x.a,x.b⟩:=⟨_,rfl⟩;have Vr:Hid (fQ false xs x (0 + 1)=aS (fQ false xs x 0) o):=by show _=_; rw [ho]; rfl
       obtain ⟨ys,hys⟩:∃ ys,ys=fQ false xs x 0:=⟨_,rfl⟩;rw [← hys] at Vr Ta hsl;clear hys;have hx1:x.a=o.t:=by rw [ho]
       have hx2:x.b=o.s:=by rw [ho]
       clear ho;obtain ⟨Ua,TV,rfl,hsO⟩:=jG Ta.out;have HSO:=aB hsO;obtain ⟨W1,hW1⟩:∃ W1,W1=w2.alloc (.cells #[.string o.t,.string o.s] 40):=⟨_,rfl⟩;have Tu:=pu hW1;have hz1:w2.heap.size < W1.heap.size:=by rw [hW1]; simp
       have d0:W1.cell? ⟨w2.heap.size,0,none⟩=some (.string o.t):=by rw [hW1]; simp
       have d1:W1.cell? ⟨w2.heap.size,1,none⟩=some (.string o.s):=by rw [hW1]; simp
       clear hsO;go_wp2_with fail;rw [← hW1];clear hW1 t0 t1 t2 t3 t4 t5 hx1 hx2;go_loopw [9,10] (fun ov j w3=>∃ (m:Nat) (bb:Bool),m≤ys.length∧ov=.bool bb∧j=.int .i64 m∧Hid (bb=iK (ys.take m) o)∧Hid (Below W1.heap.size W1 w3)) (fun _ j _=>ys.length - (intOf j).toNat);case atStart=>exact ⟨0,false,R6 _,rfl,rfl,rfl,R3 _ _⟩
       case round =>
        obtain ⟨m,bb,hm,rfl,rfl,Ud,HB3⟩:=hrel;have YL:Hid (Below w2.heap.size w2 wr):=Tu.out.trans (HB3.out.mono Tu.out.size);have YM:Hid (Below w.heap.size w wr):=HB2.out.trans (YL.out.mono HB2.out.size);have Yh:=aB (aM Ta.out YL.out);have c0:=mK HB3.out hz1 d0;have c1:=mK HB3.out hz1 d1;have hz3:w2.heap.size < wr.heap.size:=RZ hz1 HB3.out.size;by_cases hlm:m < ys.length
        ·obtain ⟨bO,Tc,Uv,⟨s0,s1⟩,hbO⟩:=iy.at0 (HSO.out.below YL.out) hlm;have hm1:=bn m;have hm2:(m:Int) < (ys.length:Int):=by omega
         have U9:=aB (qM (o:=o) hlm);cases bb with
         | true =>
          have TN:Hid (true=iK (ys.take (m + 1)) o):=by show _=_; rw [U9.out,← Ud.out]; rfl
          clear s0 s1 c0 c1;go_wp2_with fail;go_quiet (fail);go_wp2;go_roundw;case rel=>exact ⟨m + 1,true,by omega,rfl,by go_num,TN,below_drewN HB3.out _⟩
          case measure=>simp [intOf] <;> omega
         | false =>
          cases hv:sI ys[m].t ys[m].s o.t o.s with
          | true =>
           have heq:=dS _ _ _ _ hv;have TN:Hid (true=iK (ys.take (m + 1)) o):=by show _=_; rw [U9.out,hv]; simp
           clear hv;go_wp2_with fail;go_quiet (fail);go_wp2;go_roundw;case rel=>exact ⟨m + 1,true,by omega,rfl,by go_num,TN,below_drewN HB3.out _⟩
           case measure=>simp [intOf] <;> omega
          | false =>
           have heq:=dS _ _ _ _ hv;have TN:Hid (false=iK (ys.take (m + 1)) o):=by show _=_; rw [U9.out,hv,← Ud.out]; rfl
           clear hv;go_wp2_with fail;go_quiet (fail);go_wp2;go_roundw;case rel=>exact ⟨m + 1,false,by omega,rfl,by go_num,TN,below_drewN HB3.out _⟩
           case measure=>simp [intOf] <;> omega
        ·have Tm:Hid (bb=iK ys o):=by show _=_; rw [Ud.out,List.take_of_length_le (by omega)]
         cases bb with
         | true =>
          have HR:Hid (wr.ownsRow w.heap.size 40 2 (.slice Ua ys.length TV) (fQ false xs x (0 + 1)).length (pairs (fQ false xs x (0 + 1)))):=by
           show World.ownsRow _ _ _ _ _ _ _;rw [Vr.out]; unfold aS; rw [← Tm.out]; exact Yh.out
          clear Tm c0 c1;go_wp2;exact ⟨⟨0 + 1,by omega,rfl,HR,YM⟩,by decide⟩
         | false =>
          have YN:Hid (aS ys o=ys ++ [o]):=by show _=_; unfold aS; rw [← Tm.out]; rfl
          obtain ⟨W4,Tg⟩:∃ W4,W4=wr.alloc (.cells #[.string o.t,.string o.s] 40):=⟨_,rfl⟩;have TU:Hid (W4.ownsRow w.heap.size 40 2 (.slice Ua ys.length TV) ys.length (pairs ys)):=by show World.ownsRow _ _ _ _ _ _ _; rw [Tg]; exact Yh.out.alloc _
          have XP:Hid (∀ j u,[Value.string o.t,.string o.s][j]?=some u→W4.cell? ((⟨wr.heap.size,0,none⟩:Addr).add j)=some u):=by rw [Tg]; exact Jj wr o
          have Tq:Hid (Below w.heap.size w W4):=by show Below _ _ _; rw [Tg]; exact YM.out.alloc YM.out.size _
          have UI:w.heap.size≤W4.heap.size:=Tq.out.size;clear Tm;go_wp2_with (at_builtin; rw [← Tg]; clear Tg; refine wpList_append_own_at _ rfl _ _ 108 rfl w.heap.size 40 iO (.agg #[.string ⟨#[]⟩,.string ⟨#[]⟩]) 2 32 underlying108 Vg.out.1 Vg.out.2.1 Vg.out.2.2.1 Vg.out.2.2.2 rfl (by decide) _ ys.length (pairs ys) rfl TU.out ⟨wr.heap.size,0,none⟩ 1 1 [.string o.t,.string o.s] rfl rfl XP.out (by simp [Value.oneCell']) (by unfold maxLen; omega) (by omega) UI ?_);intro v' w5 hown hgr _ _;have HR:Hid (w5.ownsRow w.heap.size 40 2 v' (fQ false xs x (0 + 1)).length (pairs (fQ false xs x (0 + 1)))):=by
           show World.ownsRow _ _ _ _ _ _ _;rw [Vr.out,YN.out,R9];have:pairs (ys ++ [o])=pairs ys ++ [.string o.t,.string o.s]:=by simp [pairs]
           rw [this]; exact hown
          have U0:Hid (Below w.heap.size w w5):=Tq.out.grown hgr Tq.out.size (fun g hg=>(TU.out.lt g hg).1);clear hown hgr c0 c1;go_wp2;exact ⟨⟨0 + 1,by omega,rfl,HR,U0⟩,by decide⟩
     ·cases u with
      | true =>
       cases hz:x.s.toList.isEmpty with
       | false =>
        have hs2:(x.s.toList == [])=false:=by rw [kX]; exact hz
        have HE:Hid (fQ true xs x 2=fQ true xs x 1):=by show dx xs x=xs; unfold dx; rw [hs2]; rfl
        have HR:Hid ((w2.alloc (.cells #[.string x.c,.string x.d] 40)).ownsRow w.heap.size 40 2 u5 (fQ true xs x 2).length (pairs (fQ true xs x 2))):=by show World.ownsRow _ _ _ _ _ _ _; rw [HE.out]; exact Ta.out.alloc _
        have U0:Hid (Below w.heap.size w (w2.alloc (.cells #[.string x.c,.string x.d] 40))):=HB2.out.alloc HB2.out.size _;go_wp2;exact ⟨⟨2,by omega,rfl,HR,U0⟩,by decide⟩
       | true =>
        have hs2:(x.s.toList == [])=true:=by rw [kX]; exact hz
        obtain ⟨o,ho⟩:∃ o:Al,o=⟨x.c,x.d⟩:=⟨_,rfl⟩;have Vr:Hid (fQ true xs x (1 + 1)=aS (fQ true xs x 1) o):=by show _=_; rw [ho]; show dx xs x=_; unfold dx; rw [hs2]; rfl
        obtain ⟨ys,hys⟩:∃ ys,ys=fQ true xs x 1:=⟨_,rfl⟩;rw [← hys] at Vr Ta hsl;clear hys;have hx1:x.c=o.t:=by rw [ho]
        have hx2:x.d=o.s:=by rw [ho]
        clear ho;obtain ⟨Ua,TV,rfl,hsO⟩:=jG Ta.out;have HSO:=aB hsO;obtain ⟨W1,hW1⟩:∃ W1,W1=w2.alloc (.cells #[.string o.t,.string o.s] 40):=⟨_,rfl⟩;have Tu:=pu hW1;have hz1:w2.heap.size < W1.heap.size:=by rw [hW1]; simp
        have d0:W1.cell? ⟨w2.heap.size,0,none⟩=some (.string o.t):=by rw [hW1]; simp
        have d1:W1.cell? ⟨w2.heap.size,1,none⟩=some (.string o.s):=by rw [hW1]; simp
        clear hsO;go_wp2_with fail;rw [← hW1];clear hW1 t0 t1 t2 t3 t4 t5 hx1 hx2;go_loopw [9,10] (fun ov j w3=>∃ (m:Nat) (bb:Bool),m≤ys.length∧ov=.bool bb∧j=.int .i64 m∧Hid (bb=iK (ys.take m) o)∧Hid (Below W1.heap.size W1 w3)) (fun _ j _=>ys.length - (intOf j).toNat);case atStart=>exact ⟨0,false,R6 _,rfl,rfl,rfl,R3 _ _⟩
        case round =>
         obtain ⟨m,bb,hm,rfl,rfl,Ud,HB3⟩:=hrel;have YL:Hid (Below w2.heap.size w2 wr):=Tu.out.trans (HB3.out.mono Tu.out.size);have YM:Hid (Below w.heap.size w wr):=HB2.out.trans (YL.out.mono HB2.out.size);have Yh:=aB (aM Ta.out YL.out);have c0:=mK HB3.out hz1 d0;have c1:=mK HB3.out hz1 d1;have hz3:w2.heap.size < wr.heap.size:=RZ hz1 HB3.out.size;by_cases hlm:m < ys.length
         ·obtain ⟨bO,Tc,Uv,⟨s0,s1⟩,hbO⟩:=iy.at0 (HSO.out.below YL.out) hlm;have hm1:=bn m;have hm2:(m:Int) < (ys.length:Int):=by omega
          have U9:=aB (qM (o:=o) hlm);cases bb with
          | true =>
           have TN:Hid (true=iK (ys.take (m + 1)) o):=by show _=_; rw [U9.out,← Ud.out]; rfl
           clear s0 s1 c0 c1;go_wp2_with fail;go_quiet (fail);go_wp2;go_roundw;case rel=>exact ⟨m + 1,true,by omega,rfl,by go_num,TN,below_drewN HB3.out _⟩
           case measure=>simp [intOf] <;> omega
          | false =>
           cases hv:sI ys[m].t ys[m].s o.t o.s with
           | true =>
            have heq:=dS _ _ _ _ hv;have TN:Hid (true=iK (ys.take (m + 1)) o):=by show _=_; rw [U9.out,hv]; simp
            clear hv;go_wp2_with fail;go_quiet (fail);go_wp2;go_roundw;case rel=>exact ⟨m + 1,true,by omega,rfl,by go_num,TN,below_drewN HB3.out _⟩
            case measure=>simp [intOf] <;> omega
           | false =>
            have heq:=dS _ _ _ _ hv;have TN:Hid (false=iK (ys.take (m + 1)) o):=by show _=_; rw [U9.out,hv,← Ud.out]; rfl
            clear hv;go_wp2_with fail;go_quiet (fail);go_wp2;go_roundw;case rel=>exact ⟨m + 1,false,by omega,rfl,by go_num,TN,below_drewN HB3.out _⟩
            case measure=>simp [intOf] <;> omega
         ·have Tm:Hid (bb=iK ys o):=by show _=_; rw [Ud.out,List.take_of_length_le (by omega)]
          cases bb with
          | true =>
           have HR:Hid (wr.ownsRow w.heap.size 40 2 (.slice Ua ys.length TV) (fQ true xs x (1 + 1)).length (pairs (fQ true xs x (1 + 1)))):=by
            show World.ownsRow _ _ _ _ _ _ _;rw [Vr.out]; unfold aS; rw [← Tm.out]; exact Yh.out
           clear Tm c0 c1;go_wp2;exact ⟨⟨1 + 1,by omega,rfl,HR,YM⟩,by decide⟩
          | false =>
           have YN:Hid (aS ys o=ys ++ [o]):=by show _=_; unfold aS; rw [← Tm.out]; rfl
           obtain ⟨W4,Tg⟩:∃ W4,W4=wr.alloc (.cells #[.string o.t,.string o.s] 40):=⟨_,rfl⟩;have TU:Hid (W4.ownsRow w.heap.size 40 2 (.slice Ua ys.length TV) ys.length (pairs ys)):=by show World.ownsRow _ _ _ _ _ _ _; rw [Tg]; exact Yh.out.alloc _
           have XP:Hid (∀ j u,[Value.string o.t,.string o.s][j]?=some u→W4.cell? ((⟨wr.heap.size,0,none⟩:Addr).add j)=some u):=by rw [Tg]; exact Jj wr o
           have Tq:Hid (Below w.heap.size w W4):=by show Below _ _ _; rw [Tg]; exact YM.out.alloc YM.out.size _
           have UI:w.heap.size≤W4.heap.size:=Tq.out.size;clear Tm;go_wp2_with (at_builtin; rw [← Tg]; clear Tg; refine wpList_append_own_at _ rfl _ _ 108 rfl w.heap.size 40 iO (.agg #[.string ⟨#[]⟩,.string ⟨#[]⟩]) 2 32 underlying108 Vg.out.1 Vg.out.2.1 Vg.out.2.2.1 Vg.out.2.2.2 rfl (by decide) _ ys.length (pairs ys) rfl TU.out ⟨wr.heap.size,0,none⟩ 1 1 [.string o.t,.string o.s] rfl rfl XP.out (by simp [Value.oneCell']) (by unfold maxLen; omega) (by omega) UI ?_);intro v' w5 hown hgr _ _;have HR:Hid (w5.ownsRow w.heap.size 40 2 v' (fQ true xs x (1 + 1)).length (pairs (fQ true xs x (1 + 1)))):=by
            show World.ownsRow _ _ _ _ _ _ _;rw [Vr.out,YN.out,R9];have:pairs (ys ++ [o])=pairs ys ++ [.string o.t,.string o.s]:=by simp [pairs]
            rw [this]; exact hown
           have U0:Hid (Below w.heap.size w w5):=Tq.out.grown hgr Tq.out.size (fun g hg=>(TU.out.lt g hg).1);clear hown hgr c0 c1;go_wp2;exact ⟨⟨1 + 1,by omega,rfl,HR,U0⟩,by decide⟩
      | false =>
       obtain ⟨o,ho⟩:∃ o:Al,o=⟨x.c,x.d⟩:=⟨_,rfl⟩;have Vr:Hid (fQ false xs x (1 + 1)=aS (fQ false xs x 1) o):=by show _=_; rw [ho]; rfl
       obtain ⟨ys,hys⟩:∃ ys,ys=fQ false xs x 1:=⟨_,rfl⟩;rw [← hys] at Vr Ta hsl;clear hys;have hx1:x.c=o.t:=by rw [ho]
       have hx2:x.d=o.s:=by rw [ho]
       clear ho;obtain ⟨Ua,TV,rfl,hsO⟩:=jG Ta.out;have HSO:=aB hsO;obtain ⟨W1,hW1⟩:∃ W1,W1=w2.alloc (.cells #[.string o.t,.string o.s] 40):=⟨_,rfl⟩;have Tu:=pu hW1;have hz1:w2.heap.size < W1.heap.size:=by rw [hW1]; simp
       have d0:W1.cell? ⟨w2.heap.size,0,none⟩=some (.string o.t):=by rw [hW1]; simp
       have d1:W1.cell? ⟨w2.heap.size,1,none⟩=some (.string o.s):=by rw [hW1]; simp
       clear hsO;go_wp2_with fail;rw [← hW1];clear hW1 t0 t1 t2 t3 t4 t5 hx1 hx2;go_loopw [9,10] (fun ov j w3=>∃ (m:Nat) (bb:Bool),m≤ys.length∧ov=.bool bb∧j=.int .i64 m∧Hid (bb=iK (ys.take m) o)∧Hid (Below W1.heap.size W1 w3)) (fun _ j _=>ys.length - (intOf j).toNat);case atStart=>exact ⟨0,false,R6 _,rfl,rfl,rfl,R3 _ _⟩
       case round =>
        obtain ⟨m,bb,hm,rfl,rfl,Ud,HB3⟩:=hrel;have YL:Hid (Below w2.heap.size w2 wr):=Tu.out.trans (HB3.out.mono Tu.out.size);have YM:Hid (Below w.heap.size w wr):=HB2.out.trans (YL.out.mono HB2.out.size);have Yh:=aB (aM Ta.out YL.out);have c0:=mK HB3.out hz1 d0;have c1:=mK HB3.out hz1 d1;have hz3:w2.heap.size < wr.heap.size:=RZ hz1 HB3.out.size;by_cases hlm:m < ys.length
        ·obtain ⟨bO,Tc,Uv,⟨s0,s1⟩,hbO⟩:=iy.at0 (HSO.out.below YL.out) hlm;have hm1:=bn m;have hm2:(m:Int) < (ys.length:Int):=by omega
         have U9:=aB (qM (o:=o) hlm);cases bb with
         | true =>
          have TN:Hid (true=iK (ys.take (m + 1)) o):=by show _=_; rw [U9.out,← Ud.out]; rfl
          clear s0 s1 c0 c1;go_wp2_with fail;go_quiet (fail);go_wp2;go_roundw;case rel=>exact ⟨m + 1,true,by omega,rfl,by go_num,TN,below_drewN HB3.out _⟩
          case measure=>simp [intOf] <;> omega
         | false =>
          cases hv:sI ys[m].t ys[m].s o.t o.s with
          | true =>
           have heq:=dS _ _ _ _ hv;have TN:Hid (true=iK (ys.take (m + 1)) o):=by show _=_; rw [U9.out,hv]; simp
           clear hv;go_wp2_with fail;go_quiet (fail);go_wp2;go_roundw;case rel=>exact ⟨m + 1,true,by omega,rfl,by go_num,TN,below_drewN HB3.out _⟩
           case measure=>simp [intOf] <;> omega
          | false =>
           have heq:=dS _ _ _ _ hv;have TN:Hid (false=iK (ys.take (m + 1)) o):=by show _=_; rw [U9.out,hv,← Ud.out]; rfl
           clear hv;go_wp2_with fail;go_quiet (fail);go_wp2;go_roundw;case rel=>exact ⟨m + 1,false,by omega,rfl,by go_num,TN,below_drewN HB3.out _⟩
           case measure=>simp [intOf] <;> omega
        ·have Tm:Hid (bb=iK ys o):=by show _=_; rw [Ud.out,List.take_of_length_le (by omega)]
         cases bb with
         | true =>
          have HR:Hid (wr.ownsRow w.heap.size 40 2 (.slice Ua ys.length TV) (fQ false xs x (1 + 1)).length (pairs (fQ false xs x (1 + 1)))):=by
           show World.ownsRow _ _ _ _ _ _ _;rw [Vr.out]; unfold aS; rw [← Tm.out]; exact Yh.out
          clear Tm c0 c1;go_wp2;exact ⟨⟨1 + 1,by omega,rfl,HR,YM⟩,by decide⟩
         | false =>
          have YN:Hid (aS ys o=ys ++ [o]):=by show _=_; unfold aS; rw [← Tm.out]; rfl
          obtain ⟨W4,Tg⟩:∃ W4,W4=wr.alloc (.cells #[.string o.t,.string o.s] 40):=⟨_,rfl⟩;have TU:Hid (W4.ownsRow w.heap.size 40 2 (.slice Ua ys.length TV) ys.length (pairs ys)):=by show World.ownsRow _ _ _ _ _ _ _; rw [Tg]; exact Yh.out.alloc _
          have XP:Hid (∀ j u,[Value.string o.t,.string o.s][j]?=some u→W4.cell? ((⟨wr.heap.size,0,none⟩:Addr).add j)=some u):=by rw [Tg]; exact Jj wr o
          have Tq:Hid (Below w.heap.size w W4):=by show Below _ _ _; rw [Tg]; exact YM.out.alloc YM.out.size _
          have UI:w.heap.size≤W4.heap.size:=Tq.out.size;clear Tm;go_wp2_with (at_builtin; rw [← Tg]; clear Tg; refine wpList_append_own_at _ rfl _ _ 108 rfl w.heap.size 40 iO (.agg #[.string ⟨#[]⟩,.string ⟨#[]⟩]) 2 32 underlying108 Vg.out.1 Vg.out.2.1 Vg.out.2.2.1 Vg.out.2.2.2 rfl (by decide) _ ys.length (pairs ys) rfl TU.out ⟨wr.heap.size,0,none⟩ 1 1 [.string o.t,.string o.s] rfl rfl XP.out (by simp [Value.oneCell']) (by unfold maxLen; omega) (by omega) UI ?_);intro v' w5 hown hgr _ _;have HR:Hid (w5.ownsRow w.heap.size 40 2 v' (fQ false xs x (1 + 1)).length (pairs (fQ false xs x (1 + 1)))):=by
           show World.ownsRow _ _ _ _ _ _ _;rw [Vr.out,YN.out,R9];have:pairs (ys ++ [o])=pairs ys ++ [.string o.t,.string o.s]:=by simp [pairs]
           rw [this]; exact hown
          have U0:Hid (Below w.heap.size w w5):=Tq.out.grown hgr Tq.out.size (fun g hg=>(TU.out.lt g hg).1);clear hown hgr c0 c1;go_wp2;exact ⟨⟨1 + 1,by omega,rfl,HR,U0⟩,by decide⟩
    ·have Ui:Hid (w2.ownsRow w.heap.size 40 2 u5 (eO u (ts.take (k + 1))).length (pairs (eO u (ts.take (k + 1))))):=by
      have e:q=2:=by omega
      have h2:=Ta.out;rw [e] at h2;show World.ownsRow _ _ _ _ _ _ _; rw [Vw.out]; exact h2
     go_wp2;go_roundw;case rel=>exact ⟨k + 1,by omega,by go_num,Ui,HB2⟩
     case measure=>simp [intOf] <;> omega
  ·have HE:Hid (eO u (ts.take k)=eO u ts):=by show _=_; rw [List.take_of_length_le (by omega)]
   have Ui:Hid (wr.ownsRow w.heap.size 40 2 u5 (eO u ts).length (pairs (eO u ts))):=by show World.ownsRow _ _ _ _ _ _ _; rw [← HE.out]; exact HOW.out
   go_wp2;go_ret;exact ⟨⟨_,rfl,Ui.out⟩,S9.out⟩
end Go.Proofs.YtdaoiceeidoehaaGreat
