/- Contracts of the document's functions that look at an expression. -/
import Derived.Test.YtojjoblnpldniaaGreatSq
import Derived.Test.YtojjoblnpldniaaGreatJ6
import Derived.Test.YtojjoblnpldniaaGreatJ4
open Go.Proofs.Tryz
set_option maxHeartbeats 80000000
namespace Go.Proofs.YtojjoblnpldniaaGreat
open ChangeShapes WideShapes ChangeAt RowKit
open Pl
theorem Px(n lo hi:Int)(w:ae):
  Calls prog 245 #[.int .i64 n,.int .i64 lo,.int .i64 hi] w fun e w'=>e=.returned (.bool (decide (lo<=n)&&decide (n<=hi)))/\w'=w:=by
 go_enter func245,ntmps245;go_wp2
 all_goals go_ret
 all_goals exact⟨ah (by simp[*]<;>omega),rfl⟩
set_option maxRecDepth 8000 in
theorem ma(r:ER)(w:ae)(hf:r.e.fits)(h1:r.e.kind≠1):
  Calls prog 244 #[r.val] w fun e w'=>e=.returned (.bool (av r.e))/\ag w w':=by
 obtain⟨⟨kind,allow,over,name,kids⟩,adA,capA,adK,capK⟩:=r;obtain⟨f1,f2,f3,f4,f5⟩:=hf;simp only at f1 f2 f3 f4 f5 h1;simp only[ER.val];unfold maxLen at f4 f5;by_cases h2:kind=2
 ·subst h2;clear h1;go_enter func244,ntmps244;go_wp2_with(go_at_call 126;refine(aS _ _ (by assumption)).mono ?_;rintro e w' ⟨rfl,rfl⟩)
  all_goals go_ret
  all_goals exact⟨ah (by first|(simp[av, *];done)|(simp[av, *];omega)|(simp[av, *];rw[VL];simp;done)|(simp[av, *];rw[VL];simp;omega)),(Vs w.heap.size w).alloc (Vr _) _⟩
 by_cases h3:kind=3
 ·subst h3;clear h1;go_enter func244,ntmps244;go_wp2_with(go_at_call 126;refine(aS _ _ (by assumption)).mono ?_;rintro e w' ⟨rfl,rfl⟩)
  all_goals go_ret
  all_goals exact⟨ah (by first|(simp[av, *];done)|(simp[av, *];omega)|(simp[av, *];rw[VL];simp;done)|(simp[av, *];rw[VL];simp;omega)),(Vs w.heap.size w).alloc (Vr _) _⟩
 by_cases h4:kind=4
 ·subst h4;clear h1;go_enter func244,ntmps244;go_wp2_with(go_at_call 126;refine(aS _ _ (by assumption)).mono ?_;rintro e w' ⟨rfl,rfl⟩)
  all_goals go_ret
  all_goals exact⟨ah (by first|(simp[av, *];done)|(simp[av, *];omega)|(simp[av, *];rw[VL];simp;done)|(simp[av, *];rw[VL];simp;omega)),(Vs w.heap.size w).alloc (Vr _) _⟩
 by_cases h5:kind=5
 ·subst h5;clear h1;go_enter func244,ntmps244;go_wp2_with(go_at_call 126;refine(aS _ _ (by assumption)).mono ?_;rintro e w' ⟨rfl,rfl⟩)
  all_goals go_ret
  all_goals exact⟨ah (by first|(simp[av, *];done)|(simp[av, *];omega)|(simp[av, *];rw[VL];simp;done)|(simp[av, *];rw[VL];simp;omega)),(Vs w.heap.size w).alloc (Vr _) _⟩
 by_cases h6:kind=6
 ·subst h6;clear h1;go_enter func244,ntmps244;go_wp2_with(go_at_call 126;refine(aS _ _ (by assumption)).mono ?_;rintro e w' ⟨rfl,rfl⟩)
  all_goals go_ret
  all_goals exact⟨ah (by first|(simp[av, *];done)|(simp[av, *];omega)|(simp[av, *];rw[VL];simp;done)|(simp[av, *];rw[VL];simp;omega)),(Vs w.heap.size w).alloc (Vr _) _⟩
 go_enter func244,ntmps244;go_wp2_with(go_at_call 126;refine(aS _ _ (by assumption)).mono ?_;rintro e w' ⟨rfl,rfl⟩)
 all_goals go_ret
 all_goals exact⟨ah (by first|(simp[av, *];done)|(simp[av, *];omega)|(simp[av, *];rw[VL];simp;done)|(simp[av, *];rw[VL];simp;omega)),(Vs w.heap.size w).alloc (Vr _) _⟩
theorem EM(x y:Al){v:Bool}(h:jV x y=v)(w:ae):
  (binOp .eql 216 (.agg #[.string x.t,.string x.s]) (.agg #[.string y.t,.string y.s])).run prog w=.ok (.bool v) w:=by
 subst h;go_simp;unfold jV;by_cases h1:x.t.toList=y.t.toList<;>by_cases h2:x.s.toList=y.s.toList<;>simp[h1,h2]
theorem Dg{xs:Q0a}{j k:Nat}{a:Al}(hjk:j<k)(hj:j<xs.length)(h:jV xs[j] a=true):dG xs k a=true:=by
 unfold dG;rw[VT];refine⟨xs[j],?_,h⟩;rw[List.mem_take_iff_getElem];exact⟨j,by omega,rfl⟩
set_option maxRecDepth 8000 in
theorem Cm(r:ER)(w:ae)(hf:r.e.fits)(hok:r.ok w)(h1:r.e.kind=1):
  Calls prog 244 #[r.val] w fun e w'=>e=.returned (.bool (av r.e))/\ag w w':=by
 obtain⟨⟨kind,allow,over,name,kids⟩,adA,capA,adK,capK⟩:=r;obtain⟨f1,f2,f3,f4,f5⟩:=hf;obtain⟨hA,hK⟩:=hok;simp only at f1 f2 f3 f4 f5 h1 hA hK;subst h1;simp only[ER.val];unfold maxLen at f4 f5;by_cases hl:1<=allow.length/\allow.length<=6
 ·obtain⟨hl1,hl2⟩:=hl;obtain⟨W,hW⟩:∃W,W=w.alloc (.cells #[.int .i64 1,.slice adA allow.length capA,.string over,.string name,.slice adK kids.length capK] 43):=⟨_,rfl⟩;have HB0:Hid (ag w W):=by show Below _ _ _;rw[hW];exact(Vs w.heap.size w).alloc (Vr _) _
  have hz:w.heap.size<W.heap.size:=by rw[hW];simp
  have b1:W.cell? ⟨w.heap.size,1,none⟩=some (.slice adA allow.length capA):=by rw[hW];simp
  have b2:W.cell? ⟨w.heap.size,2,none⟩=some (.string over):=by rw[hW];simp
  have b3:W.cell? ⟨w.heap.size,3,none⟩=some (.string name):=by rw[hW];simp
  have HA:=aC (hA.below HB0.out);have XU:=aC f1;clear hA hK f1;go_enter func244,ntmps244;go_wp2_with fail;rw[<-hW];clear hW;go_loopw[4] (fun i wr=>∃k:Nat,k<=allow.length/\i=.int .i64 k/\Hid (Eu allow k=true)/\ag W wr) (fun i _=>allow.length-(intOf i).toNat);case atStart=>exact⟨0,Vv _,rfl,rfl,Vs _ _⟩
  obtain⟨k,hk,rfl,HU,hB⟩:=hrel;have a1:=kept hB hz b1;have a2:=kept hB hz b2;have a3:=kept hB hz b3;by_cases hlt:k<allow.length
  ·rcases HA.out.below hB with rfl|⟨b,off,rfl,hb,hr⟩
   ·simp at hlt
   obtain⟨t0,t1⟩:=hr k hlt;obtain⟨z0,z1⟩:=XU.out allow[k] (Vp hlt);have HR:Hid (∀(i:Nat) (h:i<allow.length),TP wr b (off+i*2) allow[i]):=hr;clear hr;obtain⟨W1,hW1⟩:∃W1,W1=wr.alloc (.cells #[.string allow[k].t,.string allow[k].s] 216):=⟨_,rfl⟩;have hal:ag wr W1:=by rw[hW1];exact(Vs _ _).alloc (Vr _) _
   have hBW1:Below W.heap.size wr W1:=hal.mono hB.size;have hsz:w.heap.size<wr.heap.size:=Vq hz hB.size;have hWs:W.heap.size<=W1.heap.size:=Vz hB.size hal.size;have c1:=kept hal hsz a1;have c2:=kept hal hsz a2;have c3:=kept hal hsz a3;have hbl:b<W1.heap.size:=Vq hb hal.size;have hgl:wr.heap.size<W1.heap.size:=by rw[hW1];simp
   have g0:W1.cell? ⟨wr.heap.size,0,none⟩=some (.string allow[k].t):=by rw[hW1];simp
   have g1:W1.cell? ⟨wr.heap.size,1,none⟩=some (.string allow[k].s):=by rw[hW1];simp
   have HR1:Hid (∀(i:Nat) (h:i<allow.length),TP W1 b (off+i*2) allow[i]):=fun i hi=>(HR.out i hi).same fun o=>hal.cell (p:=⟨b,o,none⟩) hb;cases hn:aP allow[k].t;case false=>
    have HN:Hid (Eu allow allow.length=false):=oU allow k hlt (by simp[Gi,hn]) _ hlt;go_wp2_with(go_at_call 126;refine(aS _ _ (by assumption)).mono ?_;rintro e w' ⟨rfl,rfl⟩);go_ret;exact⟨ah (by simp[av,eF,HN.out]),HB0.out.trans ((hB.trans ((Vs _ _).alloc hB.size _)).mono HB0.out.size)⟩
   cases he:allow[k].s.toList.isEmpty
   case' true =>
    have HAl:Hid (Gi allow[k]=true):=by show _=_;simp[Gi,uO,hn,he]
    go_wp2_with(go_at_call 126;refine(aS _ _ (by assumption)).mono ?_;rintro e w' ⟨rfl,rfl⟩);rw[<-hW1]
   case' false =>
    cases hm:aP allow[k].s;case false =>
     have HN:Hid (Eu allow allow.length=false):=oU allow k hlt (by simp[Gi,hn,uO,he,hm]) _ hlt;go_wp2_with(go_at_call 126;refine(aS _ _ (by assumption)).mono ?_;rintro e w' ⟨rfl,rfl⟩);go_ret;exact⟨ah (by simp[av,eF,HN.out]),HB0.out.trans ((hB.trans ((Vs _ _).alloc hB.size _)).mono HB0.out.size)⟩
    have HAl:Hid (Gi allow[k]=true):=by show _=_;simp[Gi,uO,hn,he,hm]
    go_wp2_with(go_at_call 126;refine(aS _ _ (by assumption)).mono ?_;rintro e w' ⟨rfl,rfl⟩);rw[<-hW1]
   all_goals
    go_loopw[6] (fun i w2=>∃j:Nat,j<=k/\i=.int .i64 j/\Hid (dG allow j allow[k]=false)/\ag W1 w2) (fun i _=>k-(intOf i).toNat);case atStart=>exact⟨0,Vv _,rfl,ug _ _,Vs _ _⟩
    obtain⟨j,hj,rfl,HP,hB2⟩:=hrel;rename_i w2 _;have d1:=kept hB2 (by omega) c1;have d2:=kept hB2 (by omega) c2;have d3:=kept hB2 (by omega) c3;have p0:=kept hB2 hgl g0;have p1:=kept hB2 hgl g1;by_cases hjk:j<k
    ·obtain⟨q0,q1⟩:=(HR1.out j (by omega)).same fun o=>hB2.cell (p:=⟨b,o,none⟩) hbl;have hj1:=bC j;have hj2:(j:Int)<(allow.length:Int):=by omega
     cases hq:jV allow[j] allow[k];case true=>
      have HE:=EM allow[j] allow[k] hq;have HN:Hid (Eu allow allow.length=false):=oU allow k hlt (by rw[(Dg hjk (by omega) hq)];simp) _ hlt;go_wp2_with fail;go_quiet (fail);go_wp2;go_ret;exact⟨ah (by simp[av,eF,HN.out]),HB0.out.trans ((hB.trans (hBW1.trans (hB2.mono (by omega)))).mono HB0.out.size |> fun h=>below_drewN h _)⟩
     have HE:=EM allow[j] allow[k] hq;have WQ:Hid (dG allow (j+1) allow[k]=false):=by show _=_;rw[uf _ _ _ (by omega),HP.out,hq];rfl
     go_wp2_with fail;go_quiet (fail);go_wp2;go_roundw;case rel=>exact⟨j+1,by omega,by go_num,WQ,below_drewN hB2 _⟩
     simp[intOf];omega
    obtain rfl:j=k:=by omega
    have HU2:Hid (Eu allow (j+1)=true):=by show _=_;rw[zG _ _ hlt,HU.out,HAl.out,HP.out];rfl
    go_wp2;go_roundw;case rel=>exact⟨j+1,by omega,by go_num,HU2,hB.trans (hBW1.trans (hB2.mono (by omega)))⟩
    simp[intOf];omega
  obtain rfl:k=allow.length:=by omega
  have HAW:Hid (eF allow=true):=by show _=_;simp[eF,hl1,hl2,HU.out]
  go_wp2
  all_goals go_ret
  all_goals exact⟨ah (by first|(simp[av,HAW.out, *];done)|(simp[av,HAW.out, *];rw[VL];simp;done)),HB0.out.trans (hB.mono HB0.out.size)⟩
 go_enter func244,ntmps244;go_wp2_with fail
 all_goals go_ret
 all_goals exact⟨ah (by simp[av,eF];omega),(Vs w.heap.size w).alloc (Vr _) _⟩
theorem EN(r:ER)(w:ae)(hf:r.e.fits)(hok:r.ok w):
  Calls prog 244 #[r.val] w fun e w'=>e=.returned (.bool (av r.e))/\ag w w':=by
 by_cases h:r.e.kind=1
 ·exact Cm r w hf hok h
 exact ma r w hf h
end Go.Proofs.YtojjoblnpldniaaGreat
