/- The objects that tuples name, each once, as the document lists them. -/
import Derived.Test.YtajkkeikihhejaaGreatSq
import Derived.Test.YtajkkeikihhejaaGreatJ34
import Derived.RangeFuncLeaves
import Derived.OwnWalkIn
import Derived.TacticsInMore
import Derived.LoopNIn
import Derived.LoopIn
open Go.Proofs.Tryz
set_option maxHeartbeats 80000000
namespace Go.Proofs.YtajkkeikihhejaaGreat
set_option linter.unusedVariables false
set_option maxRecDepth 100000
open Go.ChangeShapes Go.WideShapes Go.ChangeAt Go.RowKit Go.Maps
open Pl
def fG (u:Bool) (ts:List Tp):List Al:=if u then dP ts else gQ ts
def ic (u:Bool) (xs:List Al) (t:Tp):Nat→List Al
 | 0=>xs
 | 1=>if u then xs else aW xs ⟨t.a,t.b⟩
 | _=>if u then dD xs t else iE xs t
theorem Gb (u:Bool) {ts:List Tp} {k:Nat} (h:k < ts.length):fG u (ts.take (k + 1))=ic u (fG u (ts.take k)) ts[k] 2:=by
 rw [SA h];cases u
 ·exact AC _ _
 exact xL _ _
theorem IY (u:Bool) (ts:List Tp):(fG u ts).length≤2 * ts.length:=by
 cases u
 ·have key:∀ (ts:List Tp) (xs:List Al),(ts.foldl iE xs).length≤xs.length + 2 * ts.length:=by
   intro ts
   induction ts with
   | nil=>intro xs; simp
   | cons t ts ih=>intro xs; have h1:=ih (iE xs t); have h2:=qI xs t; simp only [List.foldl_cons,List.length_cons]; omega
  have:=key ts [];simpa [fG,gQ] using this
 have key:∀ (ts:List Tp) (xs:List Al),(ts.foldl dD xs).length≤xs.length + ts.length:=by
  intro ts
  induction ts with
  | nil=>intro xs; simp
  | cons t ts ih=>intro xs; have h1:=ih (dD xs t); have h2:=qJ xs t; simp only [List.foldl_cons,List.length_cons]; omega
 have:=key ts [];simp [fG,dP] at this ⊢;omega
theorem OL (u:Bool) (xs:List Al) (t:Tp) (q:Nat):(ic u xs t q).length≤xs.length + 2:=by
 match q with
 | 0=>simp [ic]
 | 1=>have:=nZ xs ⟨t.a,t.b⟩; cases u <;> simp [ic]; omega
 | q + 2=>have h1:=qJ xs t; have h2:=qI xs t; cases u <;> simp [ic] <;> omega
theorem tL {xs:List Al} {o:Al} {k:Nat} (h:k < xs.length):jl (xs.take (k + 1)) o=(jl (xs.take k) o || rE xs[k].t xs[k].s o.t o.s):=by
 unfold jl;rw [SA h,List.any_append];simp [jo,rE]
theorem xM (w:ae) (o:Al):∀ j u,[Value.string o.t,.string o.s][j]?=some u→(w.alloc (.cells #[.string o.t,.string o.s] 27)).cell? ((⟨w.heap.size,0,none⟩:Addr).add j)=some u:=fun j u hu=>by
 match j,hu with
 | 0,hu=>simp at hu; subst hu; simp [Addr.add]
 | 1,hu=>simp at hu; subst hu; simp [Addr.add]
theorem kw.at0 {w:ae} {ad:Option Addr} {xs:List Al} (h:kw w ad xs) {k:Nat} (hk:k < xs.length):∃ b off,ad=some ⟨b,off,none⟩∧QK w b (off + k * 2) xs[k]∧b < w.heap.size:=by
 rcases h with h | ⟨b',off',e,hb,hr⟩
 ·rw [h] at hk; simp at hk
 exact ⟨b',off',e,hr k hk,hb⟩
theorem sj (ad:Option Addr) (cap:Nat) (ts:List Tp) (u:Bool) (w:ae) (hlt:ts.length≤40) (hst:Sl w ad ts) :
  Calls prog 95 #[.slice ad ts.length cap,.bool u] w fun e w'=>(∃ v,e=.returned v∧w'.ownsRow w.heap.size 27 2 v (fG u ts).length (pairs (fG u ts)))∧af w w':=by
 obtain ⟨iO,h0,h1,h2,h3⟩:=mg;have Ut:=ax (And.intro h0 (And.intro h1 (And.intro h2 h3)));have HST:=ax hst;obtain ⟨W0,hW0⟩:∃ W0,W0=w.alloc (.cells #[] 27):=⟨_,rfl⟩;have HB0:=nA hW0;have Uw:Hid (W0.ownsRow w.heap.size 27 2 (.slice (some ⟨w.heap.size,0,none⟩) 0 0) (fG u (ts.take 0)).length (pairs (fG u (ts.take 0)))):=by
  have e:fG u (ts.take 0)=[]:=by cases u <;> rfl
  show World.ownsRow _ _ _ _ _ _ _;rw [hW0,e];exact World.ownsRow_lit w #[] 0 (Sy _) (by unfold maxLen; omega) (by simp)
 clear hst h0 h1 h2 h3;go_enter func95,ntmps95;go_wp2_with fail;rw [← hW0];clear hW0;go_loopw [5,6] (fun v i wr=>∃ k:Nat,k≤ts.length∧i=.int .i64 k∧Hid (wr.ownsRow w.heap.size 27 2 v (fG u (ts.take k)).length (pairs (fG u (ts.take k))))∧Hid (af w wr)) (fun _ i _=>ts.length - (intOf i).toNat);case atStart=>exact ⟨0,SC _,rfl,Uw,HB0⟩
 clear Uw HB0;obtain ⟨k,hk,rfl,HOW,TB⟩:=hrel;by_cases hlt2:k < ts.length
 ·have YL:=ax (Gb u hlt2);obtain ⟨x,hx⟩:∃ x,x=ts[k]:=⟨_,rfl⟩;obtain ⟨xs,hxs⟩:∃ xs,xs=fG u (ts.take k):=⟨_,rfl⟩;have hxl:xs.length≤80:=by have:=IY u (ts.take k); rw [Tg] at this; rw [hxs]; omega
  rw [← hx,← hxs] at YL;rw [← hxs] at HOW;have HX:=ax hx;have hi1:=bq k;have hi2:(k:Int) < (ts.length:Int):=by omega
  clear hxs hx;go_wp2;go_loopw [5,7] (fun v i w2=>∃ q:Nat,q≤2∧i=.int .i64 q∧Hid (w2.ownsRow w.heap.size 27 2 v (ic u xs x q).length (pairs (ic u xs x q)))∧Hid (af w w2)) (fun _ i _=>2 - (intOf i).toNat);case atStart=>exact ⟨0,by omega,rfl,HOW,TB⟩
  obtain ⟨w2,rfl⟩:∃ w2,w2=wr:=⟨_,rfl⟩;obtain ⟨q,hq,rfl,Tx,HB2⟩:=hrel;have hi1:=bq k;have hi2:(k:Int) < (ts.length:Int):=by omega
  have hsl:=OL u xs x q;obtain ⟨b,off,TC,⟨t0,t1,t2,t3,t4,t5⟩,hb⟩:=Sl.at0 (HST.out.below HB2.out) hlt2;rw [← HX.out] at t0 t1 t2 t3 t4 t5;subst TC;by_cases hq2:q < 2
  ·have hc:q=0 ∨ q=1:=by omega
   rcases hc with rfl | rfl
   ·cases u;case true=>
     have HE:Hid (ic true xs x 1=ic true xs x 0):=rfl;have HR:Hid ((w2.alloc (.cells #[.string x.a,.string x.b] 27)).ownsRow w.heap.size 27 2 u5 (ic true xs x 1).length (pairs (ic true xs x 1))):=by show World.ownsRow _ _ _ _ _ _ _; rw [HE.out]; exact Tx.out.alloc _
     have Vn:Hid (af w (w2.alloc (.cells #[.string x.a,.string x.b] 27))):=HB2.out.alloc HB2.out.size _;go_wp2;exact ⟨⟨1,by omega,rfl,HR,Vn⟩,by decide⟩
    obtain ⟨o,ho⟩:∃ o:Al,o=⟨x.a,x.b⟩:=⟨_,rfl⟩;have Wv:Hid (ic false xs x (0 + 1)=aW (ic false xs x 0) o):=by show _=_; rw [ho]; rfl
    obtain ⟨ys,hys⟩:∃ ys,ys=ic false xs x 0:=⟨_,rfl⟩;rw [← hys] at Wv Tx hsl;clear hys;have hx1:x.a=o.t:=by rw [ho]
    have hx2:x.b=o.s:=by rw [ho]
    clear ho;obtain ⟨UZ,Ux,rfl,hsO⟩:=gP Tx.out;have YF:=ax hsO;obtain ⟨W1,hW1⟩:∃ W1,W1=w2.alloc (.cells #[.string o.t,.string o.s] 27):=⟨_,rfl⟩;have TJ:=nA hW1;have hz1:w2.heap.size < W1.heap.size:=by rw [hW1]; simp
    have d0:W1.cell? ⟨w2.heap.size,0,none⟩=some (.string o.t):=by rw [hW1]; simp
    have d1:W1.cell? ⟨w2.heap.size,1,none⟩=some (.string o.s):=by rw [hW1]; simp
    clear hsO;go_wp2_with fail;rw [← hW1];clear hW1 t0 t1 t2 t3 t4 t5 hx1 hx2;go_loopw [9,10] (fun ov j w3=>∃ (m:Nat) (bb:Bool),m≤ys.length∧ov=.bool bb∧j=.int .i64 m∧Hid (bb=jl (ys.take m) o)∧Hid (af W1 w3)) (fun _ j _=>ys.length - (intOf j).toNat);case atStart=>exact ⟨0,false,SC _,rfl,rfl,rfl,Sz _ _⟩
    obtain ⟨m,bb,hm,rfl,rfl,UR,HB3⟩:=hrel;have YU:Hid (af w2 wr):=TJ.out.trans (HB3.out.mono TJ.out.size);have YV:Hid (af w wr):=HB2.out.trans (YU.out.mono HB2.out.size);have HOx:=ax (aK Tx.out YU.out);have c0:=mK HB3.out hz1 d0;have c1:=mK HB3.out hz1 d1;have hz3:w2.heap.size < wr.heap.size:=Sv hz1 HB3.out.size;by_cases hlm:m < ys.length
    ·obtain ⟨bO,Uj,VU,⟨s0,s1⟩,hbO⟩:=kw.at0 (YF.out.below YU.out) hlm;have hm1:=bq m;have hm2:(m:Int) < (ys.length:Int):=by omega
     have XG:=ax (tL (o:=o) hlm);cases bb;case true=>
      have UA:Hid (true=jl (ys.take (m + 1)) o):=by show _=_; rw [XG.out,← UR.out]; rfl
      clear s0 s1 c0 c1;go_wp2_with fail;go_quiet (fail);go_wp2;go_roundw;case rel=>exact ⟨m + 1,true,by omega,rfl,by go_num,UA,below_drewN HB3.out _⟩
      simp [intOf] <;> omega
     cases hv:rE ys[m].t ys[m].s o.t o.s;case true=>
      have heq:=bf _ _ _ _ hv;have UA:Hid (true=jl (ys.take (m + 1)) o):=by show _=_; rw [XG.out,hv]; simp
      clear hv;go_wp2_with fail;go_quiet (fail);go_wp2;go_roundw;case rel=>exact ⟨m + 1,true,by omega,rfl,by go_num,UA,below_drewN HB3.out _⟩
      simp [intOf] <;> omega
     have heq:=bf _ _ _ _ hv;have UA:Hid (false=jl (ys.take (m + 1)) o):=by show _=_; rw [XG.out,hv,← UR.out]; rfl
     clear hv;go_wp2_with fail;go_quiet (fail);go_wp2;go_roundw;case rel=>exact ⟨m + 1,false,by omega,rfl,by go_num,UA,below_drewN HB3.out _⟩
     simp [intOf] <;> omega
    have TL:Hid (bb=jl ys o):=by show _=_; rw [UR.out,List.take_of_length_le (by omega)]
    cases bb;case true=>
     have HR:Hid (wr.ownsRow w.heap.size 27 2 (.slice UZ ys.length Ux) (ic false xs x (0 + 1)).length (pairs (ic false xs x (0 + 1)))):=by
      show World.ownsRow _ _ _ _ _ _ _;rw [Wv.out]; unfold aW; rw [← TL.out]; exact HOx.out
     clear TL c0 c1;go_wp2;exact ⟨⟨0 + 1,by omega,rfl,HR,YV⟩,by decide⟩
    have Xv:Hid (aW ys o=ys ++ [o]):=by show _=_; unfold aW; rw [← TL.out]; rfl
    obtain ⟨W4,TY⟩:∃ W4,W4=wr.alloc (.cells #[.string o.t,.string o.s] 27):=⟨_,rfl⟩;have TI:Hid (W4.ownsRow w.heap.size 27 2 (.slice UZ ys.length Ux) ys.length (pairs ys)):=by show World.ownsRow _ _ _ _ _ _ _; rw [TY]; exact HOx.out.alloc _
    have Xw:Hid (∀ j u,[Value.string o.t,.string o.s][j]?=some u→W4.cell? ((⟨wr.heap.size,0,none⟩:Addr).add j)=some u):=by rw [TY]; exact xM wr o
    have TS:Hid (af w W4):=by show Below _ _ _; rw [TY]; exact YV.out.alloc YV.out.size _
    have U2:w.heap.size≤W4.heap.size:=TS.out.size;clear TL;go_wp2_with (at_builtin; rw [← TY]; clear TY; refine wpList_append_own_at _ rfl _ _ 49 rfl w.heap.size 27 iO (.agg #[.string ⟨#[]⟩,.string ⟨#[]⟩]) 2 32 underlying49 Ut.out.1 Ut.out.2.1 Ut.out.2.2.1 Ut.out.2.2.2 rfl (by decide) _ ys.length (pairs ys) rfl TI.out ⟨wr.heap.size,0,none⟩ 1 1 [.string o.t,.string o.s] rfl rfl Xw.out (by simp [Value.oneCell']) (by unfold maxLen; omega) (by omega) U2 ?_);intro v' w5 hown hgr _ _;have HR:Hid (w5.ownsRow w.heap.size 27 2 v' (ic false xs x (0 + 1)).length (pairs (ic false xs x (0 + 1)))):=by
     show World.ownsRow _ _ _ _ _ _ _;rw [Wv.out,Xv.out,SE];have:pairs (ys ++ [o])=pairs ys ++ [.string o.t,.string o.s]:=by simp [pairs]
     rw [this]; exact hown
    have Vn:Hid (af w w5):=TS.out.grown hgr TS.out.size (fun g hg=>(TI.out.lt g hg).1);clear hown hgr c0 c1;go_wp2;exact ⟨⟨0 + 1,by omega,rfl,HR,Vn⟩,by decide⟩
   cases u;case true=>
    cases hz:x.s.toList.isEmpty;case false=>
     have hs2:(x.s.toList == [])=false:=by rw [rF]; exact hz
     have HE:Hid (ic true xs x 2=ic true xs x 1):=by show dD xs x=xs; unfold dD; rw [hs2]; rfl
     have HR:Hid ((w2.alloc (.cells #[.string x.c,.string x.d] 27)).ownsRow w.heap.size 27 2 u5 (ic true xs x 2).length (pairs (ic true xs x 2))):=by show World.ownsRow _ _ _ _ _ _ _; rw [HE.out]; exact Tx.out.alloc _
     have Vn:Hid (af w (w2.alloc (.cells #[.string x.c,.string x.d] 27))):=HB2.out.alloc HB2.out.size _;go_wp2;exact ⟨⟨2,by omega,rfl,HR,Vn⟩,by decide⟩
    have hs2:(x.s.toList == [])=true:=by rw [rF]; exact hz
    obtain ⟨o,ho⟩:∃ o:Al,o=⟨x.c,x.d⟩:=⟨_,rfl⟩;have Wv:Hid (ic true xs x (1 + 1)=aW (ic true xs x 1) o):=by show _=_; rw [ho]; show dD xs x=_; unfold dD; rw [hs2]; rfl
    obtain ⟨ys,hys⟩:∃ ys,ys=ic true xs x 1:=⟨_,rfl⟩;rw [← hys] at Wv Tx hsl;clear hys;have hx1:x.c=o.t:=by rw [ho]
    have hx2:x.d=o.s:=by rw [ho]
    clear ho;obtain ⟨UZ,Ux,rfl,hsO⟩:=gP Tx.out;have YF:=ax hsO;obtain ⟨W1,hW1⟩:∃ W1,W1=w2.alloc (.cells #[.string o.t,.string o.s] 27):=⟨_,rfl⟩;have TJ:=nA hW1;have hz1:w2.heap.size < W1.heap.size:=by rw [hW1]; simp
    have d0:W1.cell? ⟨w2.heap.size,0,none⟩=some (.string o.t):=by rw [hW1]; simp
    have d1:W1.cell? ⟨w2.heap.size,1,none⟩=some (.string o.s):=by rw [hW1]; simp
    clear hsO;go_wp2_with fail;rw [← hW1];clear hW1 t0 t1 t2 t3 t4 t5 hx1 hx2;go_loopw [9,10] (fun ov j w3=>∃ (m:Nat) (bb:Bool),m≤ys.length∧ov=.bool bb∧j=.int .i64 m∧Hid (bb=jl (ys.take m) o)∧Hid (af W1 w3)) (fun _ j _=>ys.length - (intOf j).toNat);case atStart=>exact ⟨0,false,SC _,rfl,rfl,rfl,Sz _ _⟩
    obtain ⟨m,bb,hm,rfl,rfl,UR,HB3⟩:=hrel;have YU:Hid (af w2 wr):=TJ.out.trans (HB3.out.mono TJ.out.size);have YV:Hid (af w wr):=HB2.out.trans (YU.out.mono HB2.out.size);have HOx:=ax (aK Tx.out YU.out);have c0:=mK HB3.out hz1 d0;have c1:=mK HB3.out hz1 d1;have hz3:w2.heap.size < wr.heap.size:=Sv hz1 HB3.out.size;by_cases hlm:m < ys.length
    ·obtain ⟨bO,Uj,VU,⟨s0,s1⟩,hbO⟩:=kw.at0 (YF.out.below YU.out) hlm;have hm1:=bq m;have hm2:(m:Int) < (ys.length:Int):=by omega
     have XG:=ax (tL (o:=o) hlm);cases bb;case true=>
      have UA:Hid (true=jl (ys.take (m + 1)) o):=by show _=_; rw [XG.out,← UR.out]; rfl
      clear s0 s1 c0 c1;go_wp2_with fail;go_quiet (fail);go_wp2;go_roundw;case rel=>exact ⟨m + 1,true,by omega,rfl,by go_num,UA,below_drewN HB3.out _⟩
      simp [intOf] <;> omega
     cases hv:rE ys[m].t ys[m].s o.t o.s;case true=>
      have heq:=bf _ _ _ _ hv;have UA:Hid (true=jl (ys.take (m + 1)) o):=by show _=_; rw [XG.out,hv]; simp
      clear hv;go_wp2_with fail;go_quiet (fail);go_wp2;go_roundw;case rel=>exact ⟨m + 1,true,by omega,rfl,by go_num,UA,below_drewN HB3.out _⟩
      simp [intOf] <;> omega
     have heq:=bf _ _ _ _ hv;have UA:Hid (false=jl (ys.take (m + 1)) o):=by show _=_; rw [XG.out,hv,← UR.out]; rfl
     clear hv;go_wp2_with fail;go_quiet (fail);go_wp2;go_roundw;case rel=>exact ⟨m + 1,false,by omega,rfl,by go_num,UA,below_drewN HB3.out _⟩
     simp [intOf] <;> omega
    have TL:Hid (bb=jl ys o):=by show _=_; rw [UR.out,List.take_of_length_le (by omega)]
    cases bb;case true=>
     have HR:Hid (wr.ownsRow w.heap.size 27 2 (.slice UZ ys.length Ux) (ic true xs x (1 + 1)).length (pairs (ic true xs x (1 + 1)))):=by
      show World.ownsRow _ _ _ _ _ _ _;rw [Wv.out]; unfold aW; rw [← TL.out]; exact HOx.out
     clear TL c0 c1;go_wp2;exact ⟨⟨1 + 1,by omega,rfl,HR,YV⟩,by decide⟩
    have Xv:Hid (aW ys o=ys ++ [o]):=by show _=_; unfold aW; rw [← TL.out]; rfl
    obtain ⟨W4,TY⟩:∃ W4,W4=wr.alloc (.cells #[.string o.t,.string o.s] 27):=⟨_,rfl⟩;have TI:Hid (W4.ownsRow w.heap.size 27 2 (.slice UZ ys.length Ux) ys.length (pairs ys)):=by show World.ownsRow _ _ _ _ _ _ _; rw [TY]; exact HOx.out.alloc _
    have Xw:Hid (∀ j u,[Value.string o.t,.string o.s][j]?=some u→W4.cell? ((⟨wr.heap.size,0,none⟩:Addr).add j)=some u):=by rw [TY]; exact xM wr o
    have TS:Hid (af w W4):=by show Below _ _ _; rw [TY]; exact YV.out.alloc YV.out.size _
    have U2:w.heap.size≤W4.heap.size:=TS.out.size;clear TL;go_wp2_with (at_builtin; rw [← TY]; clear TY; refine wpList_append_own_at _ rfl _ _ 49 rfl w.heap.size 27 iO (.agg #[.string ⟨#[]⟩,.string ⟨#[]⟩]) 2 32 underlying49 Ut.out.1 Ut.out.2.1 Ut.out.2.2.1 Ut.out.2.2.2 rfl (by decide) _ ys.length (pairs ys) rfl TI.out ⟨wr.heap.size,0,none⟩ 1 1 [.string o.t,.string o.s] rfl rfl Xw.out (by simp [Value.oneCell']) (by unfold maxLen; omega) (by omega) U2 ?_);intro v' w5 hown hgr _ _;have HR:Hid (w5.ownsRow w.heap.size 27 2 v' (ic true xs x (1 + 1)).length (pairs (ic true xs x (1 + 1)))):=by
     show World.ownsRow _ _ _ _ _ _ _;rw [Wv.out,Xv.out,SE];have:pairs (ys ++ [o])=pairs ys ++ [.string o.t,.string o.s]:=by simp [pairs]
     rw [this]; exact hown
    have Vn:Hid (af w w5):=TS.out.grown hgr TS.out.size (fun g hg=>(TI.out.lt g hg).1);clear hown hgr c0 c1;go_wp2;exact ⟨⟨1 + 1,by omega,rfl,HR,Vn⟩,by decide⟩
   obtain ⟨o,ho⟩:∃ o:Al,o=⟨x.c,x.d⟩:=⟨_,rfl⟩;have Wv:Hid (ic false xs x (1 + 1)=aW (ic false xs x 1) o):=by show _=_; rw [ho]; rfl
   obtain ⟨ys,hys⟩:∃ ys,ys=ic false xs x 1:=⟨_,rfl⟩;rw [← hys] at Wv Tx hsl;clear hys;have hx1:x.c=o.t:=by rw [ho]
   have hx2:x.d=o.s:=by rw [ho]
   clear ho;obtain ⟨UZ,Ux,rfl,hsO⟩:=gP Tx.out;have YF:=ax hsO;obtain ⟨W1,hW1⟩:∃ W1,W1=w2.alloc (.cells #[.string o.t,.string o.s] 27):=⟨_,rfl⟩;have TJ:=nA hW1;have hz1:w2.heap.size < W1.heap.size:=by rw [hW1]; simp
   have d0:W1.cell? ⟨w2.heap.size,0,none⟩=some (.string o.t):=by rw [hW1]; simp
   have d1:W1.cell? ⟨w2.heap.size,1,none⟩=some (.string o.s):=by rw [hW1]; simp
   clear hsO;go_wp2_with fail;rw [← hW1];clear hW1 t0 t1 t2 t3 t4 t5 hx1 hx2;go_loopw [9,10] (fun ov j w3=>∃ (m:Nat) (bb:Bool),m≤ys.length∧ov=.bool bb∧j=.int .i64 m∧Hid (bb=jl (ys.take m) o)∧Hid (af W1 w3)) (fun _ j _=>ys.length - (intOf j).toNat);case atStart=>exact ⟨0,false,SC _,rfl,rfl,rfl,Sz _ _⟩
   obtain ⟨m,bb,hm,rfl,rfl,UR,HB3⟩:=hrel;have YU:Hid (af w2 wr):=TJ.out.trans (HB3.out.mono TJ.out.size);have YV:Hid (af w wr):=HB2.out.trans (YU.out.mono HB2.out.size);have HOx:=ax (aK Tx.out YU.out);have c0:=mK HB3.out hz1 d0;have c1:=mK HB3.out hz1 d1;have hz3:w2.heap.size < wr.heap.size:=Sv hz1 HB3.out.size;by_cases hlm:m < ys.length
   ·obtain ⟨bO,Uj,VU,⟨s0,s1⟩,hbO⟩:=kw.at0 (YF.out.below YU.out) hlm;have hm1:=bq m;have hm2:(m:Int) < (ys.length:Int):=by omega
    have XG:=ax (tL (o:=o) hlm);cases bb;case true=>
     have UA:Hid (true=jl (ys.take (m + 1)) o):=by show _=_; rw [XG.out,← UR.out]; rfl
     clear s0 s1 c0 c1;go_wp2_with fail;go_quiet (fail);go_wp2;go_roundw;case rel=>exact ⟨m + 1,true,by omega,rfl,by go_num,UA,below_drewN HB3.out _⟩
     simp [intOf] <;> omega
    cases hv:rE ys[m].t ys[m].s o.t o.s;case true=>
     have heq:=bf _ _ _ _ hv;have UA:Hid (true=jl (ys.take (m + 1)) o):=by show _=_; rw [XG.out,hv]; simp
     clear hv;go_wp2_with fail;go_quiet (fail);go_wp2;go_roundw;case rel=>exact ⟨m + 1,true,by omega,rfl,by go_num,UA,below_drewN HB3.out _⟩
     simp [intOf] <;> omega
    have heq:=bf _ _ _ _ hv;have UA:Hid (false=jl (ys.take (m + 1)) o):=by show _=_; rw [XG.out,hv,← UR.out]; rfl
    clear hv;go_wp2_with fail;go_quiet (fail);go_wp2;go_roundw;case rel=>exact ⟨m + 1,false,by omega,rfl,by go_num,UA,below_drewN HB3.out _⟩
    simp [intOf] <;> omega
   have TL:Hid (bb=jl ys o):=by show _=_; rw [UR.out,List.take_of_length_le (by omega)]
   cases bb;case true=>
    have HR:Hid (wr.ownsRow w.heap.size 27 2 (.slice UZ ys.length Ux) (ic false xs x (1 + 1)).length (pairs (ic false xs x (1 + 1)))):=by
     show World.ownsRow _ _ _ _ _ _ _;rw [Wv.out]; unfold aW; rw [← TL.out]; exact HOx.out
    clear TL c0 c1;go_wp2;exact ⟨⟨1 + 1,by omega,rfl,HR,YV⟩,by decide⟩
   have Xv:Hid (aW ys o=ys ++ [o]):=by show _=_; unfold aW; rw [← TL.out]; rfl
   obtain ⟨W4,TY⟩:∃ W4,W4=wr.alloc (.cells #[.string o.t,.string o.s] 27):=⟨_,rfl⟩;have TI:Hid (W4.ownsRow w.heap.size 27 2 (.slice UZ ys.length Ux) ys.length (pairs ys)):=by show World.ownsRow _ _ _ _ _ _ _; rw [TY]; exact HOx.out.alloc _
   have Xw:Hid (∀ j u,[Value.string o.t,.string o.s][j]?=some u→W4.cell? ((⟨wr.heap.size,0,none⟩:Addr).add j)=some u):=by rw [TY]; exact xM wr o
   have TS:Hid (af w W4):=by show Below _ _ _; rw [TY]; exact YV.out.alloc YV.out.size _
   have U2:w.heap.size≤W4.heap.size:=TS.out.size;clear TL;go_wp2_with (at_builtin; rw [← TY]; clear TY; refine wpList_append_own_at _ rfl _ _ 49 rfl w.heap.size 27 iO (.agg #[.string ⟨#[]⟩,.string ⟨#[]⟩]) 2 32 underlying49 Ut.out.1 Ut.out.2.1 Ut.out.2.2.1 Ut.out.2.2.2 rfl (by decide) _ ys.length (pairs ys) rfl TI.out ⟨wr.heap.size,0,none⟩ 1 1 [.string o.t,.string o.s] rfl rfl Xw.out (by simp [Value.oneCell']) (by unfold maxLen; omega) (by omega) U2 ?_);intro v' w5 hown hgr _ _;have HR:Hid (w5.ownsRow w.heap.size 27 2 v' (ic false xs x (1 + 1)).length (pairs (ic false xs x (1 + 1)))):=by
    show World.ownsRow _ _ _ _ _ _ _;rw [Wv.out,Xv.out,SE];have:pairs (ys ++ [o])=pairs ys ++ [.string o.t,.string o.s]:=by simp [pairs]
    rw [this]; exact hown
   have Vn:Hid (af w w5):=TS.out.grown hgr TS.out.size (fun g hg=>(TI.out.lt g hg).1);clear hown hgr c0 c1;go_wp2;exact ⟨⟨1 + 1,by omega,rfl,HR,Vn⟩,by decide⟩
  have Ub:Hid (w2.ownsRow w.heap.size 27 2 u5 (fG u (ts.take (k + 1))).length (pairs (fG u (ts.take (k + 1))))):=by
   have e:q=2:=by omega
   have h2:=Tx.out;rw [e] at h2;show World.ownsRow _ _ _ _ _ _ _; rw [YL.out]; exact h2
  go_wp2;go_roundw;case rel=>exact ⟨k + 1,by omega,by go_num,Ub,HB2⟩
  simp [intOf] <;> omega
 have HE:Hid (fG u (ts.take k)=fG u ts):=by show _=_; rw [List.take_of_length_le (by omega)]
 have Ub:Hid (wr.ownsRow w.heap.size 27 2 u5 (fG u ts).length (pairs (fG u ts))):=by show World.ownsRow _ _ _ _ _ _ _; rw [← HE.out]; exact HOW.out
 go_wp2;go_ret;exact ⟨⟨_,rfl,Ub.out⟩,TB.out⟩
end Go.Proofs.YtajkkeikihhejaaGreat
namespace Go.Proofs.YtajkkeikihhejaaGreat
set_option linter.unusedVariables false
set_option maxRecDepth 100000
open Go.ChangeShapes Go.WideShapes Go.ChangeAt Go.RowKit Go.Maps Go.Shelf
open Pl
attribute [local go_sem] Oper.semAt_some
structure InM (W:World) (D br nr:Nat) (Mr:KL→Option Value) (Er:List (KL × RR)) (UZ:Option Addr) (Ux:Nat) (xo:List Al) (gD gS gU:Nat) (sn:Int) (UB:Option Addr) (TM:Nat) (us:List Al):Prop where
 d2:W.cell? ⟨D,2,none⟩=some (.map (some br))
 d4:W.cell? ⟨D,4,none⟩=some (.slice UZ xo.length Ux)
 objs:kw W UZ xo
 rel:Ef W br nr Mr Er
 bD:W.cell? ⟨gD,0,none⟩=some (.pointer (some ⟨D,0,none⟩))
 bS:W.cell? ⟨gS,0,none⟩=some (.int .i64 sn)
 bU:W.cell? ⟨gU,0,none⟩=some (.slice UB us.length TM)
 users:kw W UB us
def Db (x:Fc):Array Value:=#[.agg #[.string x.a,.string x.b,.string x.r,.string x.c,.string x.d]]
theorem AP:∀ (rs:List RR) (i:Nat) (h:i < rs.length) (j:Nat),j < 2→(G.flatG PS rs)[i * 2 + j]?=(PS rs[i])[j]?
 | [],i,h,_,_=>by simp at h
 | r::rs,0,_,j,hj=>by
  simp only [G.flatG,List.flatMap_cons,Nat.zero_mul,Td,List.getElem_cons_zero];rw [List.getElem?_append_left (by simp [PS]; omega)]
 | r::rs,i + 1,h,j,hj=>by
  have ih:=AP rs i (by simpa using h) j hj;simp only [G.flatG,List.flatMap_cons,List.getElem_cons_succ] at ih ⊢;rw [List.getElem?_append_right (by simp [PS]; omega)];have:(i + 1) * 2 + j - (PS r).length=i * 2 + j:=by simp [PS]; omega
  rw [this]; exact ih
theorem JF {W:ae} {br nr:Nat} {Mr:KL→Option Value} {Er:List (KL × RR)} (h:Ef W br nr Mr Er) (k:KL):∃ ad cap,(Mr k).getD (.slice none 0 0)=.slice ad (G.lookL Er k).length cap∧(∀ i (hi:i < (G.lookL Er k).length),∃ g,ad=some ⟨g,0,none⟩∧g < W.heap.size∧W.cell? ⟨g,i * 2,none⟩=some (.string (G.lookL Er k)[i].name)∧W.cell? ⟨g,i * 2 + 1,none⟩=some (G.lookL Er k)[i].sl):=by
 have ho:=CW h k;rcases ho.2 with ⟨e,h0⟩ | ⟨g,cap,cur,e,hbg,hg,hnc,-⟩
 ·exact ⟨none,0,by rw [e,h0],fun i hi=>by omega⟩
 refine ⟨_,cap,e,fun i hi=>⟨g,rfl,(ho.lt g (by rw [e]; rfl)).2,?_,?_⟩⟩
 ·rw [e] at ho;rw [ho.cellAt (i * 2) (by omega)];exact AP _ i hi 0 (by omega)
 rw [e] at ho;rw [ho.cellAt (i * 2 + 1) (by omega)];exact AP _ i hi 1 (by omega)
def Eh (W:World) (g:Nat) (o:Al):Prop:=W.heap[g]?=some (.cells #[.string o.t,.string o.s] 27 (0,0))
def Gc (W:World) (g:Nat) (r:RR):Prop:=W.heap[g]?=some (.cells #[.string r.name,r.sl] 147 (0,0))
theorem Eh.c {W:ae} {g:Nat} {o:Al} (h:Eh W g o):W.cell? ⟨g,0,none⟩=some (.string o.t)∧W.cell? ⟨g,1,none⟩=some (.string o.s)∧g < W.heap.size:=by
 have hl:=(Array.getElem?_eq_some_iff.1 h).1;unfold Eh at h;exact ⟨by simp [World.cell?,h],by simp [World.cell?,h],hl⟩
theorem Gc.c {W:ae} {g:Nat} {r:RR} (h:Gc W g r):W.cell? ⟨g,0,none⟩=some (.string r.name)∧W.cell? ⟨g,1,none⟩=some r.sl∧g < W.heap.size:=by
 have hl:=(Array.getElem?_eq_some_iff.1 h).1;unfold Gc at h;exact ⟨by simp [World.cell?,h],by simp [World.cell?,h],hl⟩
theorem Eh.kp {W W':ae} {g:Nat} {o:Al} (h:Eh W g o) (hk:KpI W W'):Eh W' g o:=hk.cells g _ _ _ h (.inl rfl)
theorem Gc.kp {W W':ae} {g:Nat} {r:RR} (h:Gc W g r) (hk:KpI W W'):Gc W' g r:=hk.cells g _ _ _ h (.inr rfl)
def iQ (rs:List TR) (st:ByteArray × ByteArray→Int) (us:List Al) (sn:Int) (xo:List Al) (q:Nat):List Fc:=(xo.take q).flatMap (x9 (ah rs) st us sn)
def kQ (R:List RR) (us:List Al) (o:Al) (k:Nat):List Fc:=(R.take k).flatMap fun r=>jG o r.name us
theorem PX {rs:List TR} {st:ByteArray × ByteArray→Int} {us:List Al} {sn:Int} {xo:List Al} {q:Nat} (h:q < xo.length):iQ rs st us sn xo (q + 1)=iQ rs st us sn xo q ++ kQ (G.lookL (eH st rs) (xo[q].t,sn)) us xo[q] (G.lookL (eH st rs) (xo[q].t,sn)).length:=by
 unfold iQ kQ;rw [SA h,List.flatMap_append,SS];congr 1;simp only [List.flatMap_cons,List.flatMap_nil,List.append_nil];unfold x9;rw [F4,List.flatMap_map]
theorem PY {R:List RR} {us:List Al} {o:Al} {k:Nat} (h:k < R.length):kQ R us o (k + 1)=kQ R us o k ++ jG o R[k].name us:=by
 unfold kQ;rw [SA h,List.flatMap_append];simp
theorem Lx (o:Al) (rel:aD) {xu:List Al} {j:Nat} (h:j < xu.length):jG o rel (xu.take (j + 1))=jG o rel (xu.take j) ++ [⟨o.t,o.s,rel,xu[j].t,xu[j].s⟩]:=by
 unfold jG;rw [SA h,List.map_append]; rfl
theorem LA {rs:List TR} {st:ByteArray × ByteArray→Int} {xo us:List Al} {sn:Int} {o:Al} {r:RR} {u:Al} (ho:o ∈ xo) (hr:r ∈ G.lookL (eH st rs) (o.t,sn)) (hu:u ∈ us):(⟨o.t,o.s,r.name,u.t,u.s⟩:Fc) ∈ dx (ah rs) st xo us sn:=by
 unfold dx x9;refine SY.2 ⟨o,ho,SY.2 ⟨(o.t,r.name),?_,SK.2 ⟨u,hu,rfl⟩⟩⟩;rw [F4];exact SK.2 ⟨r,hr,rfl⟩
theorem OM (n:Nat) (hn:1≤n) (D br nr:Nat) (Mr:KL→Option Value) (st:ByteArray × ByteArray→Int) (rs:List TR) (UZ:Option Addr) (Ux:Nat) (xo:List Al) (gD gS gU:Nat) (sn:Int) (UB:Option Addr) (TM:Nat) (us:List Al) (w0:ae) (hs0:0≤sn) (hs1:sn≤1000) (hol:xo.length≤1000) (Xn:us.length≤1000) (hrl:∀ k,(G.lookL (eH st rs) k).length≤1000) (hof:∀ o ∈ xo,o.t.size≤maxLen) :
  Eb Fence.wide n prog 199 #[.pointer (some ⟨gD,0,none⟩),.pointer (some ⟨gS,0,none⟩),.pointer (some ⟨gU,0,none⟩)] Db (fun _=>KpI) (fun _ W=>InM W D br nr Mr (eH st rs) UZ Ux xo gD gS gU sn UB TM us) (fun _ x=>x ∈ dx (ah rs) st xo us sn) (fun xs=>xs=dx (ah rs) st xo us sn) w0:=by
 intro l J W _ _ _ hJ hT hY h0;have HJ:=aC hJ;have HT:=aC hT;have HY:=aC hY;have H0:=aC h0;have HOF:=aC hof;have hM:=hT _ _ h0;have XP:=aC hrl;have bD:=hM.bD;have d4:=hM.d4;have lD:=aB bD;have lDD:=aB d4;clear hJ hT hY h0 hof hM hrl;refine callsIn_of_wp func199 rfl trivial ?_ rfl;simp only [ntmps199,List.size_toArray,List.length_cons,List.length_nil,Nat.reduceAdd,Nat.reduceSub,Array.replicate_succ,Array.replicate_zero,List.push_toArray,List.append_toArray,List.nil_append,List.cons_append];gi_wp2;clear bD d4 lD lDD
 gi_loopw [16] (fun i wr=>∃ q:Nat,q≤xo.length∧i=.int .i64 q∧Hid (J (iQ rs st us sn xo q) wr)) (fun i _=>xo.length - (intOf i).toNat)
 case atStart=>exact ⟨0,SC _,rfl,H0⟩
 clear H0;obtain ⟨q,hq,rfl,HJ1⟩:=hrel;by_cases hlq:q < xo.length
 ·have hM:=HT.out _ _ HJ1.out;obtain ⟨bO,Uj,VU,⟨o0,o1⟩,hbO⟩:=kw.at0 hM.objs hlq;have HSQ:=aC (PX (rs:=rs) (st:=st) (us:=us) (sn:=sn) hlq);have HOS:=aC (HOF.out _ (Sw hlq));have HOM:Hid (xo[q] ∈ xo):=Sw hlq;obtain ⟨o,ho⟩:∃ o,o=xo[q]:=⟨_,rfl⟩;rw [← ho] at o0 o1 HSQ HOS HOM;clear ho;have hq1:=bq q;have hq2:(q:Int) < (xo.length:Int):=by omega
  obtain ⟨W1,hW1⟩:∃ W1,W1=wr.alloc (.cells #[.string o.t,.string o.s] 27):=⟨_,rfl⟩;have HB1:=nA hW1;have HJ2:=aC (mW HJ.out HJ1.out HB1.out);have Uh:Hid (Eh W1 wr.heap.size o):=by rw [hW1]; exact World.alloc_heap_new wr _
  have hM2:=HT.out _ _ HJ2.out;have bD:=hM2.bD;have bS:=hM2.bS;have d2:=hM2.d2;obtain ⟨c0,c1,cl⟩:=Uh.out.c;obtain ⟨Vr,U3,hgd,-⟩:=JF hM2.rel (o.t,sn);obtain ⟨kl,hkl⟩:=JE (o.t,sn) HOS.out hs0 (by show sn≤_; omega);obtain ⟨R,hR⟩:∃ R,R=G.lookL (eH st rs) (o.t,sn):=⟨_,rfl⟩;have hRl:R.length≤1000:=by rw [hR]; exact XP.out _
  rw [← hR] at hgd HSQ;have ZC:=aC hR;have HGD:=aC hgd;have hlk:∀ m,(Instr.lookup 165 (.map (some br)) (.agg #[.string o.t,.int .i64 sn]) false).run prog (W1.drewN m)=.ok (.slice Vr R.length U3) (W1.drewN m):=fun m=>by
   have h:=(hM2.rel.map.below (below_drewN (Sz _ _) m)).look (t:=165) (e:=125) R7 underlying165 (OG _) (x:=(o.t,sn)) hkl;rw [hgd] at h;exact h
  subst VU;clear hM hM2 hR hgd hkl;gi_wp2;rw [← hW1];clear hW1;refine wpIn_wide.2 ?_;go_quiet (fail);obtain ⟨W2,hW2⟩:∃ W2,W2=W1.drewN nq:=⟨_,rfl⟩;have HB2:Hid (af W1 W2):=by show Below _ _ _; rw [hW2]; exact below_drewN (Sz _ _) _
  have HJ3:=aC (mW HJ.out HJ2.out HB2.out);have HBX2:=aC (Uh.out.kp (KpI.below HB2.out));obtain ⟨gO,hgO⟩:∃ g,g=wr.heap.size:=⟨_,rfl⟩;rw [← hgO] at HBX2 ⊢;rw [← hW2];clear hW2 hgO c0 c1 cl bD bS d2 hlk HB1 HJ2 Uh HJ1 o0 o1 hbO;gi_wp2
  gi_loopw [30] (fun i w2=>∃ k:Nat,k≤R.length∧i=.int .i64 k∧Hid (J (iQ rs st us sn xo q ++ kQ R us o k) w2)∧Hid (Eh w2 gO o)) (fun i _=>R.length - (intOf i).toNat)
  case atStart=>exact ⟨0,SC _,rfl,by show J (_ ++ []) _; rw [List.append_nil]; exact HJ3.out,HBX2⟩
  clear HJ3 HBX2 HB2;obtain ⟨k,hk,rfl,HJ4,Uh⟩:=hrel;by_cases hlk:k < R.length
  ·have hM:=HT.out _ _ HJ4.out;obtain ⟨adR',capR',hgd',hrows⟩:=JF hM.rel (o.t,sn);rw [← ZC.out,HGD.out] at hgd';injection hgd' with ea eb ec;subst ea;clear eb ec;obtain ⟨gq,hadR,hgl,r0,r1⟩:=hrows k (by rw [← ZC.out]; exact hlk);have HKS:=aC (PY (us:=us) (o:=o) hlk);have hrr:(G.lookL (eH st rs) (o.t,sn))[k]'(by rw [← ZC.out]; exact hlk)=R[k]:=by simp only [ZC.out]
   rw [hrr] at r0 r1;have HRM:Hid (R[k] ∈ R):=Sw hlk;obtain ⟨r,hr⟩:∃ r,r=R[k]:=⟨_,rfl⟩;rw [← hr] at r0 r1 HKS HRM;have hk1:=bq k;have hk2:(k:Int) < (R.length:Int):=by omega
   obtain ⟨W3,hW3⟩:∃ W3,W3=wr.alloc (.cells #[.string r.name,r.sl] 147):=⟨_,rfl⟩;have HB3:=nA hW3;have HJ5:=aC (mW HJ.out HJ4.out HB3.out);have WM:=aC (Uh.out.kp (KpI.below HB3.out));have Vn:Hid (Gc W3 wr.heap.size r):=by rw [hW3]; exact World.alloc_heap_new wr _
   have hM3:=HT.out _ _ HJ5.out;have bU:=hM3.bU;have lU:=aB bU;have bU0:=hM.bU;have lU0:=aB bU0;unfold RR.sl at r1 hW3;obtain ⟨gR,hgR⟩:∃ g,g=wr.heap.size:=⟨_,rfl⟩;subst hadR;clear hM hM3 hr hrr hrows;gi_wp2;rw [← hW3,← hgR];rw [← hgR] at Vn;clear hW3 hgR bU lU bU0 lU0 r0 r1 hgl HB3 HJ4 Uh
   gi_loopw [36] (fun i w2=>∃ j:Nat,j≤us.length∧i=.int .i64 j∧Hid (J (iQ rs st us sn xo q ++ kQ R us o k ++ jG o r.name (us.take j)) w2)∧Hid (Eh w2 gO o)∧Hid (Gc w2 gR r)) (fun i _=>us.length - (intOf i).toNat)
   case atStart=>exact ⟨0,SC _,rfl,by show J (_ ++ []) _; rw [List.append_nil]; exact HJ5.out,WM,Vn⟩
   clear HJ5 WM Vn;obtain ⟨j,hj,rfl,HJ6,WM,Vn⟩:=hrel;by_cases hlj:j < us.length
   ·have hM:=HT.out _ _ HJ6.out;obtain ⟨bV,offV,hadU,⟨y0,y1⟩,hbV⟩:=kw.at0 hM.users hlj;have HAS:=aC (Lx o r.name hlj);obtain ⟨u,hu⟩:∃ u,u=us[j]:=⟨_,rfl⟩;rw [← hu] at y0 y1 HAS;have hj1:=bq j;have hj2:(j:Int) < (us.length:Int):=by omega
    obtain ⟨W4,TY⟩:∃ W4,W4=wr.alloc (.cells #[.string u.t,.string u.s] 27):=⟨_,rfl⟩;have U7:=nA TY;have HJ7:=mW HJ.out HJ6.out U7.out;have Ws:=aC (WM.out.kp (KpI.below U7.out));have HBR2:=aC (Vn.out.kp (KpI.below U7.out));obtain ⟨fn,tmps,assign,body,hy,hR⟩:=HY.out _ ⟨o.t,o.s,r.name,u.t,u.s⟩ W4 HJ7 (LA HOM.out (by rw [← ZC.out]; exact HRM.out) (by rw [hu]; exact Sw hlj));obtain ⟨c0,c1,cl⟩:=WM.out.c;obtain ⟨e0,e1,el⟩:=Vn.out.c;have HRR:=aC hR;unfold Db at hy;subst hadU;subst TY;clear hM hu HJ7 hR;gi_wp2;refine HRR.out.mono ?_;rintro e W5 ⟨rfl,hJ8,hK8⟩;have HJ8:Hid (J (iQ rs st us sn xo q ++ kQ R us o k ++ jG o r.name (us.take (j + 1))) W5):=by show J _ _; rw [HAS.out,← List.append_assoc]; exact hJ8
    have HBO3:=aC (Ws.out.kp hK8);have HBR3:=aC (HBR2.out.kp hK8);clear hJ8 hK8 hy y0 y1 c0 c1 cl e0 e1 el;gi_wp2;go_roundw;case rel=>exact ⟨j + 1,by omega,by go_num,HJ8,HBO3,HBR3⟩
    simp [intOf] <;> omega
   have HJ7:Hid (J (iQ rs st us sn xo q ++ kQ R us o (k + 1)) wr):=by
    have h1:=HJ6.out;rw [List.take_of_length_le (by omega),List.append_assoc,← HKS.out] at h1;exact h1
   gi_wp2;go_roundw;case rel=>exact ⟨k + 1,by omega,by go_num,HJ7,WM⟩
   simp [intOf] <;> omega
  have HE2:Hid (iQ rs st us sn xo q ++ kQ R us o k=iQ rs st us sn xo (q + 1)):=by show _=_; rw [HSQ.out,show k=R.length by omega]
  have HJ5:Hid (J (iQ rs st us sn xo (q + 1)) wr):=by show J _ _; rw [← HE2.out]; exact HJ4.out
  gi_wp2;go_roundw;case rel=>exact ⟨q + 1,by omega,by go_num,HJ5⟩
  simp [intOf] <;> omega
 have HE:Hid (iQ rs st us sn xo q=dx (ah rs) st xo us sn):=by show _=_; unfold iQ dx; rw [List.take_of_length_le (by omega)]
 have HJ2:Hid (J (dx (ah rs) st xo us sn) wr):=by show J _ _; rw [← HE.out]; exact HJ1.out
 gi_wp2
 go_end0
 exact ⟨⟨_,rfl⟩,_,rfl,HJ2.out⟩
end Go.Proofs.YtajkkeikihhejaaGreat
namespace Go.Proofs.YtajkkeikihhejaaGreat
set_option linter.unusedVariables false
set_option maxRecDepth 100000
open Go.ChangeShapes Go.WideShapes Go.ChangeAt Go.RowKit Go.Maps
open Pl
theorem Gd (v0:Value) (Vq:Option Addr) (U4:Nat) (ts:List Tp) (TA:Option Addr) (capE:Nat) (rows:List ER) (n:Nat) (adK:Option Addr) (capK:Nat) (known:List Fc) (Vr:Option Addr) (U3:Nat) (truth:List Fc) (f:Fc) (w:ae) (hW:HW w Vq ts TA rows adK known Vr truth) (hn:n < rows.length) (hre:rows.length≤1000) (hkl:known.length≤1048576) (hk:rows[n].e.kind=2) :
  Calls prog 98 #[v0,.slice Vq ts.length U4,.slice TA rows.length capE,.int .i64 (n:Int),.slice adK known.length capK,.slice Vr truth.length U3,.agg #[.string f.a,.string f.b,.string f.r,.string f.c,.string f.d]] w fun e w'=>e=.returned (.bool (cZ known ⟨f.a,f.b,rows[n].e.name,f.c,f.d⟩))∧af w w':=by
 obtain ⟨b,off,TC,⟨t0,t1,t2,t3,t4⟩,hbl,-⟩:=jk.at0 hW.ex hn;have HW0:=aC hW;obtain ⟨W0,hW0⟩:∃ W0,W0=F7 w f rows[n]:=⟨_,rfl⟩;have HB0:Hid (af w W0):=by show Below _ _ _; rw [hW0]; exact jY _ _ _
 have hk1:(rows[n].e.kind == 1)=false:=by rw [hk]; rfl
 have hk2:(rows[n].e.kind == 2)=true:=by rw [hk]; rfl
 have hn1:=bq n;have hn2:(n:Int) < (rows.length:Int):=by omega
 unfold F7 at hW0;rw [TC];clear TC hW hk;go_enter func98,ntmps98;go_wp2_with fail;rw [← hW0];refine (rD adK capK known ⟨f.a,f.b,rows[n].e.name,f.c,f.d⟩ W0 hkl (HW0.out.kn.below HB0.out)).mono ?_;rintro e w1 ⟨rfl,hb1⟩;have HB1:=aC (HB0.out.trans (hb1.mono HB0.out.size));clear hb1 hW0;go_wp2;go_ret;exact ⟨rfl,HB1.out⟩
theorem IZ (v0:Value) (Vq:Option Addr) (U4:Nat) (ts:List Tp) (TA:Option Addr) (capE:Nat) (rows:List ER) (n:Nat) (vK vR:Value) (f:Fc) (w:ae) (hex:jk w TA rows) (hn:n < rows.length) (hre:rows.length≤1000) (k1:rows[n].e.kind ≠ 1) (k2:rows[n].e.kind ≠ 2) (k3:rows[n].e.kind ≠ 3) (k4:rows[n].e.kind ≠ 4) (k5:rows[n].e.kind ≠ 5) (k6:rows[n].e.kind ≠ 6) :
  Calls prog 98 #[v0,.slice Vq ts.length U4,.slice TA rows.length capE,.int .i64 (n:Int),vK,vR,.agg #[.string f.a,.string f.b,.string f.r,.string f.c,.string f.d]] w fun e w'=>e=.returned (.bool false)∧af w w':=by
 obtain ⟨b,off,TC,⟨t0,t1,t2,t3,t4⟩,hbl,-⟩:=jk.at0 hex hn;have HB0:=aC (jY w f rows[n]);unfold F7 at HB0;have hk1:(rows[n].e.kind == 1)=false:=by simpa using k1
 have hk2:(rows[n].e.kind == 2)=false:=by simpa using k2
 have hk3:(rows[n].e.kind == 3)=false:=by simpa using k3
 have hk4:(rows[n].e.kind == 4)=false:=by simpa using k4
 have hk5:(rows[n].e.kind == 5)=false:=by simpa using k5
 have hk6:(rows[n].e.kind == 6)=false:=by simpa using k6
 have hn1:=bq n;have hn2:(n:Int) < (rows.length:Int):=by omega
 rw [TC];clear TC hex k1 k2 k3 k4 k5 k6;go_enter func98,ntmps98;go_wp2;go_ret;exact ⟨rfl,HB0.out⟩
theorem Ei (v0:Value) (Vq:Option Addr) (U4:Nat) (ts:List Tp) (TA:Option Addr) (capE:Nat) (rows:List ER) (n:Nat) (adK:Option Addr) (capK:Nat) (known:List Fc) (Vr:Option Addr) (U3:Nat) (truth:List Fc) (f:Fc) (w:ae) (hW:HW w Vq ts TA rows adK known Vr truth) (hn:n < rows.length) (hre:rows.length≤1000) (hkl:known.length≤1048576) (htl:ts.length≤1048576) (hk:rows[n].e.kind=1) :
  Calls prog 98 #[v0,.slice Vq ts.length U4,.slice TA rows.length capE,.int .i64 (n:Int),.slice adK known.length capK,.slice Vr truth.length U3,.agg #[.string f.a,.string f.b,.string f.r,.string f.c,.string f.d]] w fun e w'=>e=.returned (.bool (fB ts known f))∧af w w':=by
 obtain ⟨b,off,TC,⟨t0,t1,t2,t3,t4⟩,hbl,-⟩:=jk.at0 hW.ex hn;have HW0:=aC hW;obtain ⟨W0,hW0⟩:∃ W0,W0=F7 w f rows[n]:=⟨_,rfl⟩;have HB0:Hid (af w W0):=by show Below _ _ _; rw [hW0]; exact jY _ _ _
 have VS:Hid (EnB W0 w.heap.size f rows[n]):=by show EnB _ _ _ _; rw [hW0]; exact oh _ _ _
 have hk1:(rows[n].e.kind == 1)=true:=by rw [hk]; rfl
 have hn1:=bq n;have hn2:(n:Int) < (rows.length:Int):=by omega
 unfold F7 at hW0;rw [TC];clear TC hW hk;go_enter func98,ntmps98;go_wp2_with fail;rw [← hW0];clear hW0 t0 t1 t2 t3 t4;go_loopw [16] (fun i wr=>∃ k:Nat,k≤ts.length∧i=.int .i64 k∧Hid (fB (ts.drop k) known f=fB ts known f)∧Hid (af W0 wr)) (fun i _=>ts.length - (intOf i).toNat);case atStart=>exact ⟨0,SC _,rfl,rfl,Sz _ _⟩
 obtain ⟨k,hk,rfl,HP,HB⟩:=hrel;have TB:Hid (af w wr):=HB0.out.trans (HB.out.mono HB0.out.size);by_cases hlt:k < ts.length
 ·obtain ⟨bT,offT,Wq,⟨a0,a1,a2,a3,a4,a5⟩,hbT⟩:=Sl.at0 (HW0.out.tup.below TB.out) hlt;have hE:=VS.out.below HB.out;have e0:=hE.f0;have e1:=hE.f1;have e2:=hE.f2;have e3:=hE.f3;have e4:=hE.f4;have el:w.heap.size < wr.heap.size:=by have:=hE.lt; omega
  have hi1:=bq k;have hi2:(k:Int) < (ts.length:Int):=by omega
  obtain ⟨W1,hW1⟩:∃ W1,W1=wr.alloc (.cells #[.string ts[k].a,.string ts[k].b,.string ts[k].r,.string ts[k].c,.string ts[k].d,.string ts[k].s] 46):=⟨_,rfl⟩;have TJ:=nA hW1;have HB1:Hid (af W0 W1):=HB.out.trans (TJ.out.mono HB.out.size);have UF:Hid (af w W1):=TB.out.trans (TJ.out.mono TB.out.size);have HD:Hid (fB ts known f=(AO known f ts[k] || fB (ts.drop (k + 1)) known f)):=by show _=_; rw [← HP.out]; exact IW hlt known f
  rw [Wq];clear Wq hE;cases ho:rE ts[k].a ts[k].b f.a f.b;case false=>
   have hneq:=F6 _ _ _ _ ho;have TG:Hid (fB (ts.drop (k + 1)) known f=fB ts known f):=by
    show _=_;unfold rE at ho;rw [HD.out]; unfold AO; rw [ho]; rfl
   clear ho;go_wp2;rw [← hW1];clear hW1;go_roundw;case rel=>exact ⟨k + 1,by omega,by go_num,TG,HB1⟩
   simp [intOf] <;> omega
  have hneq:=F6 _ _ _ _ ho;have HO:Hid (rE ts[k].a ts[k].b f.a f.b=true):=ho;clear ho;cases hr:(ts[k].r.toList == f.r.toList);case false=>
   have TG:Hid (fB (ts.drop (k + 1)) known f=fB ts known f):=by
    show _=_;have h2:=HO.out;unfold rE at h2;rw [HD.out]; unfold AO; rw [h2,hr]; rfl
   go_wp2;rw [← hW1];clear hW1;go_roundw;case rel=>exact ⟨k + 1,by omega,by go_num,TG,HB1⟩
   simp [intOf] <;> omega
  have HT:Hid (AO known f ts[k]=(if ts[k].s.toList.isEmpty then ts[k].c.toList == f.c.toList && ts[k].d.toList == f.d.toList else cZ known ⟨ts[k].c,ts[k].d,ts[k].s,f.c,f.d⟩)):=by
   show _=_;have h2:=HO.out;unfold rE at h2;unfold AO; rw [h2,hr]; rfl
  cases hs:ts[k].s.toList.isEmpty;case true=>
   have hs2:(ts[k].s.toList == [])=true:=by rw [rF]; exact hs
   cases hu:rE ts[k].c ts[k].d f.c f.d;case true=>
    have heq:=bf _ _ _ _ hu;have HN:Hid (fB ts known f=true):=by
     show _=_;unfold rE at hu;rw [HD.out,HT.out,if_pos hs,hu]; rfl
    clear hu hs;go_wp2;rw [← hW1];go_ret;exact ⟨by rw [HN.out]; rfl,UF.out⟩
   have heq:=bf _ _ _ _ hu;have TG:Hid (fB (ts.drop (k + 1)) known f=fB ts known f):=by
    show _=_;unfold rE at hu;rw [HD.out,HT.out,if_pos hs,hu]; rfl
   clear hu hs;go_wp2;rw [← hW1];clear hW1;go_roundw;case rel=>exact ⟨k + 1,by omega,by go_num,TG,HB1⟩
   simp [intOf] <;> omega
  have hs2:(ts[k].s.toList == [])=false:=by rw [rF]; exact hs
  have HT2:Hid (AO known f ts[k]=cZ known ⟨ts[k].c,ts[k].d,ts[k].s,f.c,f.d⟩):=by show _=_; rw [HT.out,if_neg (by rw [hs]; decide)]
  clear hs;go_wp2_with fail;rw [← hW1];clear hW1;refine (rD adK capK known ⟨ts[k].c,ts[k].d,ts[k].s,f.c,f.d⟩ W1 hkl (HW0.out.kn.below UF.out)).mono ?_;rintro e w2 ⟨rfl,hb2⟩;have HB2:=jI HB1 hb2;have X0:=jI UF hb2;clear hb2;cases hh:cZ known ⟨ts[k].c,ts[k].d,ts[k].s,f.c,f.d⟩;case true=>
   have HN:Hid (fB ts known f=true):=by show _=_; rw [HD.out,HT2.out,hh]; rfl
   go_wp2;go_ret;exact ⟨by rw [HN.out]; rfl,X0.out⟩
  have TG:Hid (fB (ts.drop (k + 1)) known f=fB ts known f):=by show _=_; rw [HD.out,HT2.out,hh]; rfl
  go_wp2;go_roundw;case rel=>exact ⟨k + 1,by omega,by go_num,TG,HB2⟩
  simp [intOf] <;> omega
 have HN:Hid (fB ts known f=false):=by show _=_; rw [← HP.out,List.drop_of_length_le (by omega)]; rfl
 go_wp2;go_ret;exact ⟨by rw [HN.out]; rfl,TB.out⟩
end Go.Proofs.YtajkkeikihhejaaGreat
