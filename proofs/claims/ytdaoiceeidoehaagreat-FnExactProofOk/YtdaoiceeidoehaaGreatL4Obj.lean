/- The objects that tuples name, each once, as the document lists them. -/
import Derived.Test.YtdaoiceeidoehaaGreatJ19
open Go.Proofs.Tryz
set_option maxHeartbeats 80000000
namespace Go.Proofs.YtdaoiceeidoehaaGreat
set_option linter.unusedVariables false
set_option maxRecDepth 100000
open Go.ChangeShapes Go.WideShapes Go.ChangeAt Go.RowKit Go.Maps
open Pl
def dR (u:Bool) (ts:List Tp):List Al:=if u then dC ts else fC ts
def fo (u:Bool) (xs:List Al) (t:Tp):Nat→List Al
 | 0=>xs
 | 1=>if u then xs else aL xs ⟨t.a,t.b⟩
 | _=>if u then bW xs t else fI xs t
theorem Bu (u:Bool) {ts:List Tp} {k:Nat} (h:k < ts.length):dR u (ts.take (k + 1))=fo u (dR u (ts.take k)) ts[k] 2:=by
 rw [List.take_succ_eq_append_getElem h];cases u
 ·exact uM _ _
 ·exact rP _ _
theorem DT (u:Bool) (ts:List Tp):(dR u ts).length≤2 * ts.length:=by
 cases u
 ·have key:∀ (ts:List Tp) (xs:List Al),(ts.foldl fI xs).length≤xs.length + 2 * ts.length:=by
   intro ts
   induction ts with
   | nil=>intro xs; simp
   | cons t ts ih=>intro xs; have h1:=ih (fI xs t); have h2:=l5 xs t; simp only [List.foldl_cons,List.length_cons]; omega
  have:=key ts [];simpa [dR,fC] using this
 ·have key:∀ (ts:List Tp) (xs:List Al),(ts.foldl bW xs).length≤xs.length + ts.length:=by
   intro ts
   induction ts with
   | nil=>intro xs; simp
   | cons t ts ih=>intro xs; have h1:=ih (bW xs t); have h2:=l6 xs t; simp only [List.foldl_cons,List.length_cons]; omega
  have:=key ts [];simp [dR,dC] at this ⊢;omega
theorem IZ (u:Bool) (xs:List Al) (t:Tp) (q:Nat):(fo u xs t q).length≤xs.length + 2:=by
 match q with
 | 0=>simp [fo]
 | 1=>have:=jV xs ⟨t.a,t.b⟩; cases u <;> simp [fo]; omega
 | q + 2=>have h1:=l6 xs t; have h2:=l5 xs t; cases u <;> simp [fo] <;> omega
theorem oH {xs:List Al} {o:Al} {k:Nat} (h:k < xs.length):gP (xs.take (k + 1)) o=(gP (xs.take k) o || qx xs[k].t xs[k].s o.t o.s):=by
 unfold gP;rw [List.take_succ_eq_append_getElem h,List.any_append];simp [iq,qx]
theorem EW (w:World) (o:Al):∀ j u,[Value.string o.t,.string o.s][j]?=some u→(w.alloc (.cells #[.string o.t,.string o.s] 40)).cell? ((⟨w.heap.size,0,none⟩:Addr).add j)=some u:=fun j u hu=>by
 match j,hu with
 | 0,hu=>simp at hu; subst hu; simp [Addr.add]
 | 1,hu=>simp at hu; subst hu; simp [Addr.add]
theorem fV.at0 {w:World} {ad:Option Addr} {xs:List Al} (h:fV w ad xs) {k:Nat} (hk:k < xs.length):∃ b off,ad=some ⟨b,off,none⟩∧KO w b (off + k * 2) xs[k]∧b < w.heap.size:=by
 rcases h with h | ⟨b',off',e,hb,hr⟩
 ·rw [h] at hk; simp at hk
 ·exact ⟨b',off',e,hr k hk,hb⟩
theorem nO (ad:Option Addr) (cap:Nat) (ts:List Tp) (u:Bool) (w:World) (hlt:ts.length≤40) (hst:Sl w ad ts) :
  Calls prog 59 #[.slice ad ts.length cap,.bool u] w fun e w'=>(∃ v,e=.returned v∧w'.ownsRow w.heap.size 40 2 v (dR u ts).length (pairs (dR u ts)))∧Below w.heap.size w w':=by
 obtain ⟨iO,h0,h1,h2,h3⟩:=uI;have HIO:=av (And.intro h0 (And.intro h1 (And.intro h2 h3)));have HST:=av hst;obtain ⟨W0,hW0⟩:∃ W0,W0=w.alloc (.cells #[] 40):=⟨_,rfl⟩;have HB0:=nX hW0;have HLIT:Hid (W0.ownsRow w.heap.size 40 2 (.slice (some ⟨w.heap.size,0,none⟩) 0 0) (dR u (ts.take 0)).length (pairs (dR u (ts.take 0)))):=by
  have e:dR u (ts.take 0)=[]:=by cases u <;> rfl
  show World.ownsRow _ _ _ _ _ _ _;rw [hW0,e];exact World.ownsRow_lit w #[] 0 (Nat.le_refl _) (by unfold maxLen; omega) (by simp)
 clear hst h0 h1 h2 h3;go_enter func59,ntmps59;go_wp2_with fail;rw [← hW0];clear hW0;go_loopw [5,6] (fun v i wr=>∃ k:Nat,k≤ts.length∧i=.int .i64 k∧Hid (wr.ownsRow w.heap.size 40 2 v (dR u (ts.take k)).length (pairs (dR u (ts.take k))))∧Hid (Below w.heap.size w wr)) (fun _ i _=>ts.length - (intOf i).toNat);case atStart=>exact ⟨0,Nat.zero_le _,rfl,HLIT,HB0⟩
 case round =>
  clear HLIT HB0;obtain ⟨k,hk,rfl,HOW,HBW⟩:=hrel;by_cases hlt2:k < ts.length
  ·have HSU:=av (Bu u hlt2);obtain ⟨x,hx⟩:∃ x,x=ts[k]:=⟨_,rfl⟩;obtain ⟨xs,hxs⟩:∃ xs,xs=dR u (ts.take k):=⟨_,rfl⟩;have hxl:xs.length≤80:=by have:=DT u (ts.take k); rw [List.length_take] at this; rw [hxs]; omega
   rw [← hx,← hxs] at HSU;rw [← hxs] at HOW;have HX:=av hx;have hi1:=aY k;have hi2:(k:Int) < (ts.length:Int):=by omega
   clear hxs hx;go_wp2;go_loopw [5,7] (fun v i w2=>∃ q:Nat,q≤2∧i=.int .i64 q∧Hid (w2.ownsRow w.heap.size 40 2 v (fo u xs x q).length (pairs (fo u xs x q)))∧Hid (Below w.heap.size w w2)) (fun _ i _=>2 - (intOf i).toNat);case atStart=>exact ⟨0,by omega,rfl,HOW,HBW⟩
   case round =>
    obtain ⟨w2,rfl⟩:∃ w2,w2=wr:=⟨_,rfl⟩;obtain ⟨q,hq,rfl,HO2,HB2⟩:=hrel;have hi1:=aY k;have hi2:(k:Int) < (ts.length:Int):=by omega
    have hsl:=IZ u xs x q;obtain ⟨b,off,hadr,⟨t0,t1,t2,t3,t4,t5⟩,hb⟩:=Sl.at0 (HST.out.below HB2.out) hlt2;rw [← HX.out] at t0 t1 t2 t3 t4 t5;subst hadr;by_cases hq2:q < 2
    ·have hc:q=0 ∨ q=1:=by omega
     rcases hc with rfl | rfl
     ·cases u with
      | true =>
       have HE:Hid (fo true xs x 1=fo true xs x 0):=rfl;have HR:Hid ((w2.alloc (.cells #[.string x.a,.string x.b] 40)).ownsRow w.heap.size 40 2 u5 (fo true xs x 1).length (pairs (fo true xs x 1))):=by show World.ownsRow _ _ _ _ _ _ _; rw [HE.out]; exact HO2.out.alloc _
       have HBR:Hid (Below w.heap.size w (w2.alloc (.cells #[.string x.a,.string x.b] 40))):=HB2.out.alloc HB2.out.size _;go_wp2;exact ⟨⟨1,by omega,rfl,HR,HBR⟩,by decide⟩
      | false =>
       obtain ⟨o,ho⟩:∃ o:Al,o=⟨x.a,x.b⟩:=⟨_,rfl⟩;have HOE:Hid (fo false xs x (0 + 1)=aL (fo false xs x 0) o):=by show _=_; rw [ho]; rfl
       obtain ⟨ys,hys⟩:∃ ys,ys=fo false xs x 0:=⟨_,rfl⟩;rw [← hys] at HOE HO2 hsl;clear hys;have hx1:x.a=o.t:=by rw [ho]
       have hx2:x.b=o.s:=by rw [ho]
       clear ho;obtain ⟨adO,capO,rfl,hsO⟩:=iL HO2.out;have HSO:=av hsO;obtain ⟨W1,hW1⟩:∃ W1,W1=w2.alloc (.cells #[.string o.t,.string o.s] 40):=⟨_,rfl⟩;have HBr:=nX hW1;have hz1:w2.heap.size < W1.heap.size:=by rw [hW1]; simp
       have d0:W1.cell? ⟨w2.heap.size,0,none⟩=some (.string o.t):=by rw [hW1]; simp
       have d1:W1.cell? ⟨w2.heap.size,1,none⟩=some (.string o.s):=by rw [hW1]; simp
       clear hsO;go_wp2_with fail;rw [← hW1];clear hW1 t0 t1 t2 t3 t4 t5 hx1 hx2;go_loopw [9,10] (fun ov j w3=>∃ (m:Nat) (bb:Bool),m≤ys.length∧ov=.bool bb∧j=.int .i64 m∧Hid (bb=gP (ys.take m) o)∧Hid (Below W1.heap.size W1 w3)) (fun _ j _=>ys.length - (intOf j).toNat);case atStart=>exact ⟨0,false,Nat.zero_le _,rfl,rfl,rfl,Below.refl _ _⟩
       case round =>
        obtain ⟨m,bb,hm,rfl,rfl,HBB,HB3⟩:=hrel;have HBx:Hid (Below w2.heap.size w2 wr):=HBr.out.trans (HB3.out.mono HBr.out.size);have HBw:Hid (Below w.heap.size w wr):=HB2.out.trans (HBx.out.mono HB2.out.size);have HOx:=av (aK HO2.out HBx.out);have c0:=mK HB3.out hz1 d0;have c1:=mK HB3.out hz1 d1;have hz3:w2.heap.size < wr.heap.size:=Nat.lt_of_lt_of_le hz1 HB3.out.size;by_cases hlm:m < ys.length
        ·obtain ⟨bO,offO,hadO,⟨s0,s1⟩,hbO⟩:=fV.at0 (HSO.out.below HBx.out) hlm;have hm1:=aY m;have hm2:(m:Int) < (ys.length:Int):=by omega
         have HTK:=av (oH (o:=o) hlm);cases bb with
         | true =>
          have HBB2:Hid (true=gP (ys.take (m + 1)) o):=by show _=_; rw [HTK.out,← HBB.out]; rfl
          clear s0 s1 c0 c1;go_wp2_with fail;go_quiet (fail);go_wp2;go_roundw;case rel=>exact ⟨m + 1,true,by omega,rfl,by go_num,HBB2,below_drewN HB3.out _⟩
          case measure=>simp [intOf] <;> omega
         | false =>
          cases hv:qx ys[m].t ys[m].s o.t o.s with
          | true =>
           have heq:=dD _ _ _ _ hv;have HBB2:Hid (true=gP (ys.take (m + 1)) o):=by show _=_; rw [HTK.out,hv]; simp
           clear hv;go_wp2_with fail;go_quiet (fail);go_wp2;go_roundw;case rel=>exact ⟨m + 1,true,by omega,rfl,by go_num,HBB2,below_drewN HB3.out _⟩
           case measure=>simp [intOf] <;> omega
          | false =>
           have heq:=dD _ _ _ _ hv;have HBB2:Hid (false=gP (ys.take (m + 1)) o):=by show _=_; rw [HTK.out,hv,← HBB.out]; rfl
           clear hv;go_wp2_with fail;go_quiet (fail);go_wp2;go_roundw;case rel=>exact ⟨m + 1,false,by omega,rfl,by go_num,HBB2,below_drewN HB3.out _⟩
           case measure=>simp [intOf] <;> omega
        ·have HAL:Hid (bb=gP ys o):=by show _=_; rw [HBB.out,List.take_of_length_le (by omega)]
         cases bb with
         | true =>
          have HR:Hid (wr.ownsRow w.heap.size 40 2 (.slice adO ys.length capO) (fo false xs x (0 + 1)).length (pairs (fo false xs x (0 + 1)))):=by
           show World.ownsRow _ _ _ _ _ _ _;rw [HOE.out]; unfold aL; rw [← HAL.out]; exact HOx.out
          clear HAL c0 c1;go_wp2;exact ⟨⟨0 + 1,by omega,rfl,HR,HBw⟩,by decide⟩
         | false =>
          have HWE:Hid (aL ys o=ys ++ [o]):=by show _=_; unfold aL; rw [← HAL.out]; rfl
          obtain ⟨W4,hW4⟩:∃ W4,W4=wr.alloc (.cells #[.string o.t,.string o.s] 40):=⟨_,rfl⟩;have HO4:Hid (W4.ownsRow w.heap.size 40 2 (.slice adO ys.length capO) ys.length (pairs ys)):=by show World.ownsRow _ _ _ _ _ _ _; rw [hW4]; exact HOx.out.alloc _
          have HN4:Hid (∀ j u,[Value.string o.t,.string o.s][j]?=some u→W4.cell? ((⟨wr.heap.size,0,none⟩:Addr).add j)=some u):=by rw [hW4]; exact EW wr o
          have HBW4:Hid (Below w.heap.size w W4):=by show Below _ _ _; rw [hW4]; exact HBw.out.alloc HBw.out.size _
          have hsz4:w.heap.size≤W4.heap.size:=HBW4.out.size;clear HAL;go_wp2_with (at_builtin; rw [← hW4]; clear hW4; refine wpList_append_own_at _ rfl _ _ 108 rfl w.heap.size 40 iO (.agg #[.string ⟨#[]⟩,.string ⟨#[]⟩]) 2 32 underlying108 HIO.out.1 HIO.out.2.1 HIO.out.2.2.1 HIO.out.2.2.2 rfl (by decide) _ ys.length (pairs ys) rfl HO4.out ⟨wr.heap.size,0,none⟩ 1 1 [.string o.t,.string o.s] rfl rfl HN4.out (by simp [Value.oneCell']) (by unfold maxLen; omega) (by omega) hsz4 ?_);intro v' w5 hown hgr _ _;have HR:Hid (w5.ownsRow w.heap.size 40 2 v' (fo false xs x (0 + 1)).length (pairs (fo false xs x (0 + 1)))):=by
           show World.ownsRow _ _ _ _ _ _ _;rw [HOE.out,HWE.out,List.length_append];have:pairs (ys ++ [o])=pairs ys ++ [.string o.t,.string o.s]:=by simp [pairs]
           rw [this]; exact hown
          have HBR:Hid (Below w.heap.size w w5):=HBW4.out.grown hgr HBW4.out.size (fun g hg=>(HO4.out.lt g hg).1);clear hown hgr c0 c1;go_wp2;exact ⟨⟨0 + 1,by omega,rfl,HR,HBR⟩,by decide⟩
     ·cases u with
      | true =>
       cases hz:x.s.toList.isEmpty with
       | false =>
        have hs2:(x.s.toList == [])=false:=by rw [jI]; exact hz
        have HE:Hid (fo true xs x 2=fo true xs x 1):=by show bW xs x=xs; unfold bW; rw [hs2]; rfl
        have HR:Hid ((w2.alloc (.cells #[.string x.c,.string x.d] 40)).ownsRow w.heap.size 40 2 u5 (fo true xs x 2).length (pairs (fo true xs x 2))):=by show World.ownsRow _ _ _ _ _ _ _; rw [HE.out]; exact HO2.out.alloc _
        have HBR:Hid (Below w.heap.size w (w2.alloc (.cells #[.string x.c,.string x.d] 40))):=HB2.out.alloc HB2.out.size _;go_wp2;exact ⟨⟨2,by omega,rfl,HR,HBR⟩,by decide⟩
       | true =>
        have hs2:(x.s.toList == [])=true:=by rw [jI]; exact hz
        obtain ⟨o,ho⟩:∃ o:Al,o=⟨x.c,x.d⟩:=⟨_,rfl⟩;have HOE:Hid (fo true xs x (1 + 1)=aL (fo true xs x 1) o):=by show _=_; rw [ho]; show bW xs x=_; unfold bW; rw [hs2]; rfl
        obtain ⟨ys,hys⟩:∃ ys,ys=fo true xs x 1:=⟨_,rfl⟩;rw [← hys] at HOE HO2 hsl;clear hys;have hx1:x.c=o.t:=by rw [ho]
        have hx2:x.d=o.s:=by rw [ho]
        clear ho;obtain ⟨adO,capO,rfl,hsO⟩:=iL HO2.out;have HSO:=av hsO;obtain ⟨W1,hW1⟩:∃ W1,W1=w2.alloc (.cells #[.string o.t,.string o.s] 40):=⟨_,rfl⟩;have HBr:=nX hW1;have hz1:w2.heap.size < W1.heap.size:=by rw [hW1]; simp
        have d0:W1.cell? ⟨w2.heap.size,0,none⟩=some (.string o.t):=by rw [hW1]; simp
        have d1:W1.cell? ⟨w2.heap.size,1,none⟩=some (.string o.s):=by rw [hW1]; simp
        clear hsO;go_wp2_with fail;rw [← hW1];clear hW1 t0 t1 t2 t3 t4 t5 hx1 hx2;go_loopw [9,10] (fun ov j w3=>∃ (m:Nat) (bb:Bool),m≤ys.length∧ov=.bool bb∧j=.int .i64 m∧Hid (bb=gP (ys.take m) o)∧Hid (Below W1.heap.size W1 w3)) (fun _ j _=>ys.length - (intOf j).toNat);case atStart=>exact ⟨0,false,Nat.zero_le _,rfl,rfl,rfl,Below.refl _ _⟩
        case round =>
         obtain ⟨m,bb,hm,rfl,rfl,HBB,HB3⟩:=hrel;have HBx:Hid (Below w2.heap.size w2 wr):=HBr.out.trans (HB3.out.mono HBr.out.size);have HBw:Hid (Below w.heap.size w wr):=HB2.out.trans (HBx.out.mono HB2.out.size);have HOx:=av (aK HO2.out HBx.out);have c0:=mK HB3.out hz1 d0;have c1:=mK HB3.out hz1 d1;have hz3:w2.heap.size < wr.heap.size:=Nat.lt_of_lt_of_le hz1 HB3.out.size;by_cases hlm:m < ys.length
         ·obtain ⟨bO,offO,hadO,⟨s0,s1⟩,hbO⟩:=fV.at0 (HSO.out.below HBx.out) hlm;have hm1:=aY m;have hm2:(m:Int) < (ys.length:Int):=by omega
          have HTK:=av (oH (o:=o) hlm);cases bb with
          | true =>
           have HBB2:Hid (true=gP (ys.take (m + 1)) o):=by show _=_; rw [HTK.out,← HBB.out]; rfl
           clear s0 s1 c0 c1;go_wp2_with fail;go_quiet (fail);go_wp2;go_roundw;case rel=>exact ⟨m + 1,true,by omega,rfl,by go_num,HBB2,below_drewN HB3.out _⟩
           case measure=>simp [intOf] <;> omega
          | false =>
           cases hv:qx ys[m].t ys[m].s o.t o.s with
           | true =>
            have heq:=dD _ _ _ _ hv;have HBB2:Hid (true=gP (ys.take (m + 1)) o):=by show _=_; rw [HTK.out,hv]; simp
            clear hv;go_wp2_with fail;go_quiet (fail);go_wp2;go_roundw;case rel=>exact ⟨m + 1,true,by omega,rfl,by go_num,HBB2,below_drewN HB3.out _⟩
            case measure=>simp [intOf] <;> omega
           | false =>
            have heq:=dD _ _ _ _ hv;have HBB2:Hid (false=gP (ys.take (m + 1)) o):=by show _=_; rw [HTK.out,hv,← HBB.out]; rfl
            clear hv;go_wp2_with fail;go_quiet (fail);go_wp2;go_roundw;case rel=>exact ⟨m + 1,false,by omega,rfl,by go_num,HBB2,below_drewN HB3.out _⟩
            case measure=>simp [intOf] <;> omega
         ·have HAL:Hid (bb=gP ys o):=by show _=_; rw [HBB.out,List.take_of_length_le (by omega)]
          cases bb with
          | true =>
           have HR:Hid (wr.ownsRow w.heap.size 40 2 (.slice adO ys.length capO) (fo true xs x (1 + 1)).length (pairs (fo true xs x (1 + 1)))):=by
            show World.ownsRow _ _ _ _ _ _ _;rw [HOE.out]; unfold aL; rw [← HAL.out]; exact HOx.out
           clear HAL c0 c1;go_wp2;exact ⟨⟨1 + 1,by omega,rfl,HR,HBw⟩,by decide⟩
          | false =>
           have HWE:Hid (aL ys o=ys ++ [o]):=by show _=_; unfold aL; rw [← HAL.out]; rfl
           obtain ⟨W4,hW4⟩:∃ W4,W4=wr.alloc (.cells #[.string o.t,.string o.s] 40):=⟨_,rfl⟩;have HO4:Hid (W4.ownsRow w.heap.size 40 2 (.slice adO ys.length capO) ys.length (pairs ys)):=by show World.ownsRow _ _ _ _ _ _ _; rw [hW4]; exact HOx.out.alloc _
           have HN4:Hid (∀ j u,[Value.string o.t,.string o.s][j]?=some u→W4.cell? ((⟨wr.heap.size,0,none⟩:Addr).add j)=some u):=by rw [hW4]; exact EW wr o
           have HBW4:Hid (Below w.heap.size w W4):=by show Below _ _ _; rw [hW4]; exact HBw.out.alloc HBw.out.size _
           have hsz4:w.heap.size≤W4.heap.size:=HBW4.out.size;clear HAL;go_wp2_with (at_builtin; rw [← hW4]; clear hW4; refine wpList_append_own_at _ rfl _ _ 108 rfl w.heap.size 40 iO (.agg #[.string ⟨#[]⟩,.string ⟨#[]⟩]) 2 32 underlying108 HIO.out.1 HIO.out.2.1 HIO.out.2.2.1 HIO.out.2.2.2 rfl (by decide) _ ys.length (pairs ys) rfl HO4.out ⟨wr.heap.size,0,none⟩ 1 1 [.string o.t,.string o.s] rfl rfl HN4.out (by simp [Value.oneCell']) (by unfold maxLen; omega) (by omega) hsz4 ?_);intro v' w5 hown hgr _ _;have HR:Hid (w5.ownsRow w.heap.size 40 2 v' (fo true xs x (1 + 1)).length (pairs (fo true xs x (1 + 1)))):=by
            show World.ownsRow _ _ _ _ _ _ _;rw [HOE.out,HWE.out,List.length_append];have:pairs (ys ++ [o])=pairs ys ++ [.string o.t,.string o.s]:=by simp [pairs]
            rw [this]; exact hown
           have HBR:Hid (Below w.heap.size w w5):=HBW4.out.grown hgr HBW4.out.size (fun g hg=>(HO4.out.lt g hg).1);clear hown hgr c0 c1;go_wp2;exact ⟨⟨1 + 1,by omega,rfl,HR,HBR⟩,by decide⟩
      | false =>
       obtain ⟨o,ho⟩:∃ o:Al,o=⟨x.c,x.d⟩:=⟨_,rfl⟩;have HOE:Hid (fo false xs x (1 + 1)=aL (fo false xs x 1) o):=by show _=_; rw [ho]; rfl
       obtain ⟨ys,hys⟩:∃ ys,ys=fo false xs x 1:=⟨_,rfl⟩;rw [← hys] at HOE HO2 hsl;clear hys;have hx1:x.c=o.t:=by rw [ho]
       have hx2:x.d=o.s:=by rw [ho]
       clear ho;obtain ⟨adO,capO,rfl,hsO⟩:=iL HO2.out;have HSO:=av hsO;obtain ⟨W1,hW1⟩:∃ W1,W1=w2.alloc (.cells #[.string o.t,.string o.s] 40):=⟨_,rfl⟩;have HBr:=nX hW1;have hz1:w2.heap.size < W1.heap.size:=by rw [hW1]; simp
       have d0:W1.cell? ⟨w2.heap.size,0,none⟩=some (.string o.t):=by rw [hW1]; simp
       have d1:W1.cell? ⟨w2.heap.size,1,none⟩=some (.string o.s):=by rw [hW1]; simp
       clear hsO;go_wp2_with fail;rw [← hW1];clear hW1 t0 t1 t2 t3 t4 t5 hx1 hx2;go_loopw [9,10] (fun ov j w3=>∃ (m:Nat) (bb:Bool),m≤ys.length∧ov=.bool bb∧j=.int .i64 m∧Hid (bb=gP (ys.take m) o)∧Hid (Below W1.heap.size W1 w3)) (fun _ j _=>ys.length - (intOf j).toNat);case atStart=>exact ⟨0,false,Nat.zero_le _,rfl,rfl,rfl,Below.refl _ _⟩
       case round =>
        obtain ⟨m,bb,hm,rfl,rfl,HBB,HB3⟩:=hrel;have HBx:Hid (Below w2.heap.size w2 wr):=HBr.out.trans (HB3.out.mono HBr.out.size);have HBw:Hid (Below w.heap.size w wr):=HB2.out.trans (HBx.out.mono HB2.out.size);have HOx:=av (aK HO2.out HBx.out);have c0:=mK HB3.out hz1 d0;have c1:=mK HB3.out hz1 d1;have hz3:w2.heap.size < wr.heap.size:=Nat.lt_of_lt_of_le hz1 HB3.out.size;by_cases hlm:m < ys.length
        ·obtain ⟨bO,offO,hadO,⟨s0,s1⟩,hbO⟩:=fV.at0 (HSO.out.below HBx.out) hlm;have hm1:=aY m;have hm2:(m:Int) < (ys.length:Int):=by omega
         have HTK:=av (oH (o:=o) hlm);cases bb with
         | true =>
          have HBB2:Hid (true=gP (ys.take (m + 1)) o):=by show _=_; rw [HTK.out,← HBB.out]; rfl
          clear s0 s1 c0 c1;go_wp2_with fail;go_quiet (fail);go_wp2;go_roundw;case rel=>exact ⟨m + 1,true,by omega,rfl,by go_num,HBB2,below_drewN HB3.out _⟩
          case measure=>simp [intOf] <;> omega
         | false =>
          cases hv:qx ys[m].t ys[m].s o.t o.s with
          | true =>
           have heq:=dD _ _ _ _ hv;have HBB2:Hid (true=gP (ys.take (m + 1)) o):=by show _=_; rw [HTK.out,hv]; simp
           clear hv;go_wp2_with fail;go_quiet (fail);go_wp2;go_roundw;case rel=>exact ⟨m + 1,true,by omega,rfl,by go_num,HBB2,below_drewN HB3.out _⟩
           case measure=>simp [intOf] <;> omega
          | false =>
           have heq:=dD _ _ _ _ hv;have HBB2:Hid (false=gP (ys.take (m + 1)) o):=by show _=_; rw [HTK.out,hv,← HBB.out]; rfl
           clear hv;go_wp2_with fail;go_quiet (fail);go_wp2;go_roundw;case rel=>exact ⟨m + 1,false,by omega,rfl,by go_num,HBB2,below_drewN HB3.out _⟩
           case measure=>simp [intOf] <;> omega
        ·have HAL:Hid (bb=gP ys o):=by show _=_; rw [HBB.out,List.take_of_length_le (by omega)]
         cases bb with
         | true =>
          have HR:Hid (wr.ownsRow w.heap.size 40 2 (.slice adO ys.length capO) (fo false xs x (1 + 1)).length (pairs (fo false xs x (1 + 1)))):=by
           show World.ownsRow _ _ _ _ _ _ _;rw [HOE.out]; unfold aL; rw [← HAL.out]; exact HOx.out
          clear HAL c0 c1;go_wp2;exact ⟨⟨1 + 1,by omega,rfl,HR,HBw⟩,by decide⟩
         | false =>
          have HWE:Hid (aL ys o=ys ++ [o]):=by show _=_; unfold aL; rw [← HAL.out]; rfl
          obtain ⟨W4,hW4⟩:∃ W4,W4=wr.alloc (.cells #[.string o.t,.string o.s] 40):=⟨_,rfl⟩;have HO4:Hid (W4.ownsRow w.heap.size 40 2 (.slice adO ys.length capO) ys.length (pairs ys)):=by show World.ownsRow _ _ _ _ _ _ _; rw [hW4]; exact HOx.out.alloc _
          have HN4:Hid (∀ j u,[Value.string o.t,.string o.s][j]?=some u→W4.cell? ((⟨wr.heap.size,0,none⟩:Addr).add j)=some u):=by rw [hW4]; exact EW wr o
          have HBW4:Hid (Below w.heap.size w W4):=by show Below _ _ _; rw [hW4]; exact HBw.out.alloc HBw.out.size _
          have hsz4:w.heap.size≤W4.heap.size:=HBW4.out.size;clear HAL;go_wp2_with (at_builtin; rw [← hW4]; clear hW4; refine wpList_append_own_at _ rfl _ _ 108 rfl w.heap.size 40 iO (.agg #[.string ⟨#[]⟩,.string ⟨#[]⟩]) 2 32 underlying108 HIO.out.1 HIO.out.2.1 HIO.out.2.2.1 HIO.out.2.2.2 rfl (by decide) _ ys.length (pairs ys) rfl HO4.out ⟨wr.heap.size,0,none⟩ 1 1 [.string o.t,.string o.s] rfl rfl HN4.out (by simp [Value.oneCell']) (by unfold maxLen; omega) (by omega) hsz4 ?_);intro v' w5 hown hgr _ _;have HR:Hid (w5.ownsRow w.heap.size 40 2 v' (fo false xs x (1 + 1)).length (pairs (fo false xs x (1 + 1)))):=by
           show World.ownsRow _ _ _ _ _ _ _;rw [HOE.out,HWE.out,List.length_append];have:pairs (ys ++ [o])=pairs ys ++ [.string o.t,.string o.s]:=by simp [pairs]
           rw [this]; exact hown
          have HBR:Hid (Below w.heap.size w w5):=HBW4.out.grown hgr HBW4.out.size (fun g hg=>(HO4.out.lt g hg).1);clear hown hgr c0 c1;go_wp2;exact ⟨⟨1 + 1,by omega,rfl,HR,HBR⟩,by decide⟩
    ·have HO3:Hid (w2.ownsRow w.heap.size 40 2 u5 (dR u (ts.take (k + 1))).length (pairs (dR u (ts.take (k + 1))))):=by
      have e:q=2:=by omega
      have h2:=HO2.out;rw [e] at h2;show World.ownsRow _ _ _ _ _ _ _; rw [HSU.out]; exact h2
     go_wp2;go_roundw;case rel=>exact ⟨k + 1,by omega,by go_num,HO3,HB2⟩
     case measure=>simp [intOf] <;> omega
  ·have HE:Hid (dR u (ts.take k)=dR u ts):=by show _=_; rw [List.take_of_length_le (by omega)]
   have HO3:Hid (wr.ownsRow w.heap.size 40 2 u5 (dR u ts).length (pairs (dR u ts))):=by show World.ownsRow _ _ _ _ _ _ _; rw [← HE.out]; exact HOW.out
   go_wp2;go_ret;exact ⟨⟨_,rfl,HO3.out⟩,HBW.out⟩
end Go.Proofs.YtdaoiceeidoehaaGreat
