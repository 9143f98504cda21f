/- Contracts of the document's functions that look at an expression. -/
import Derived.Test.YtajkkeikihhejaaGreatSq
import Derived.Test.YtajkkeikihhejaaGreatJ3
import Derived.Test.YtajkkeikihhejaaGreatJ2
open Go.Proofs.Tryz
set_option maxHeartbeats 80000000
namespace Go.Proofs.YtajkkeikihhejaaGreat
open ChangeShapes WideShapes ChangeAt RowKit
open Pl
theorem Ow(n lo hi:Int)(w:af):
  Calls prog 190 #[.int .i64 n,.int .i64 lo,.int .i64 hi] w fun e w'=>e=.returned (.bool (decide (lo<=n)&&decide (n<=hi)))/\w'=w:=by
 go_enter func190,ntmps190;go_wp2
 all_goals go_ret
 all_goals exact⟨ah (by simp[*]<;>omega),rfl⟩
set_option maxRecDepth 8000 in
theorem mF(r:ER)(w:af)(hf:r.e.fits)(h1:r.e.kind≠1):
  Calls prog 189 #[r.val] w fun e w'=>e=.returned (.bool (ay r.e))/\ae w w':=by
 obtain⟨⟨kind,allow,over,name,kids⟩,adA,capA,adK,capK⟩:=r;obtain⟨f1,f2,f3,f4,f5⟩:=hf;simp only at f1 f2 f3 f4 f5 h1;simp only[ER.val];unfold maxLen at f4 f5;by_cases h2:kind=2
 ·subst h2;clear h1;go_enter func189,ntmps189;go_wp2_with(go_at_call 111;refine(aT _ _ (by assumption)).mono ?_;rintro e w' ⟨rfl,rfl⟩)
  all_goals go_ret
  all_goals exact⟨ah (by first|(simp[ay, *];done)|(simp[ay, *];omega)|(simp[ay, *];rw[Vu];simp;done)|(simp[ay, *];rw[Vu];simp;omega)),(Vb w.heap.size w).alloc (Va _) _⟩
 by_cases h3:kind=3
 ·subst h3;clear h1;go_enter func189,ntmps189;go_wp2_with(go_at_call 111;refine(aT _ _ (by assumption)).mono ?_;rintro e w' ⟨rfl,rfl⟩)
  all_goals go_ret
  all_goals exact⟨ah (by first|(simp[ay, *];done)|(simp[ay, *];omega)|(simp[ay, *];rw[Vu];simp;done)|(simp[ay, *];rw[Vu];simp;omega)),(Vb w.heap.size w).alloc (Va _) _⟩
 by_cases h4:kind=4
 ·subst h4;clear h1;go_enter func189,ntmps189;go_wp2_with(go_at_call 111;refine(aT _ _ (by assumption)).mono ?_;rintro e w' ⟨rfl,rfl⟩)
  all_goals go_ret
  all_goals exact⟨ah (by first|(simp[ay, *];done)|(simp[ay, *];omega)|(simp[ay, *];rw[Vu];simp;done)|(simp[ay, *];rw[Vu];simp;omega)),(Vb w.heap.size w).alloc (Va _) _⟩
 by_cases h5:kind=5
 ·subst h5;clear h1;go_enter func189,ntmps189;go_wp2_with(go_at_call 111;refine(aT _ _ (by assumption)).mono ?_;rintro e w' ⟨rfl,rfl⟩)
  all_goals go_ret
  all_goals exact⟨ah (by first|(simp[ay, *];done)|(simp[ay, *];omega)|(simp[ay, *];rw[Vu];simp;done)|(simp[ay, *];rw[Vu];simp;omega)),(Vb w.heap.size w).alloc (Va _) _⟩
 by_cases h6:kind=6
 ·subst h6;clear h1;go_enter func189,ntmps189;go_wp2_with(go_at_call 111;refine(aT _ _ (by assumption)).mono ?_;rintro e w' ⟨rfl,rfl⟩)
  all_goals go_ret
  all_goals exact⟨ah (by first|(simp[ay, *];done)|(simp[ay, *];omega)|(simp[ay, *];rw[Vu];simp;done)|(simp[ay, *];rw[Vu];simp;omega)),(Vb w.heap.size w).alloc (Va _) _⟩
 go_enter func189,ntmps189;go_wp2_with(go_at_call 111;refine(aT _ _ (by assumption)).mono ?_;rintro e w' ⟨rfl,rfl⟩)
 all_goals go_ret
 all_goals exact⟨ah (by first|(simp[ay, *];done)|(simp[ay, *];omega)|(simp[ay, *];rw[Vu];simp;done)|(simp[ay, *];rw[Vu];simp;omega)),(Vb w.heap.size w).alloc (Va _) _⟩
theorem EO(x y:Al){v:Bool}(h:ko x y=v)(w:af):
  (binOp .eql 43 (.agg #[.string x.t,.string x.s]) (.agg #[.string y.t,.string y.s])).run prog w=.ok (.bool v) w:=by
 subst h;go_simp;unfold ko;by_cases h1:x.t.toList=y.t.toList<;>by_cases h2:x.s.toList=y.s.toList<;>simp[h1,h2]
theorem Dg{xs:Q0a}{j k:Nat}{a:Al}(hjk:j<k)(hj:j<xs.length)(h:ko xs[j] a=true):dK xs k a=true:=by
 unfold dK;rw[VF];refine⟨xs[j],?_,h⟩;rw[List.mem_take_iff_getElem];exact⟨j,by omega,rfl⟩
set_option maxRecDepth 8000 in
theorem Cr(r:ER)(w:af)(hf:r.e.fits)(hok:r.ok w)(h1:r.e.kind=1):
  Calls prog 189 #[r.val] w fun e w'=>e=.returned (.bool (ay r.e))/\ae w w':=by
 obtain⟨⟨kind,allow,over,name,kids⟩,adA,capA,adK,capK⟩:=r;obtain⟨f1,f2,f3,f4,f5⟩:=hf;obtain⟨hA,hK⟩:=hok;simp only at f1 f2 f3 f4 f5 h1 hA hK;subst h1;simp only[ER.val];unfold maxLen at f4 f5;by_cases hl:1<=allow.length/\allow.length<=6
 ·obtain⟨hl1,hl2⟩:=hl;obtain⟨W,hW⟩:∃W,W=w.alloc (.cells #[.int .i64 1,.slice adA allow.length capA,.string over,.string name,.slice adK kids.length capK] 39):=⟨_,rfl⟩;have HB0:Hid (ae w W):=by show Below _ _ _;rw[hW];exact(Vb w.heap.size w).alloc (Va _) _
  have hz:w.heap.size<W.heap.size:=by rw[hW];simp
  have b1:W.cell? ⟨w.heap.size,1,none⟩=some (.slice adA allow.length capA):=by rw[hW];simp
  have b2:W.cell? ⟨w.heap.size,2,none⟩=some (.string over):=by rw[hW];simp
  have b3:W.cell? ⟨w.heap.size,3,none⟩=some (.string name):=by rw[hW];simp
  have HA:=aD (hA.below HB0.out);have Xx:=aD f1;clear hA hK f1;go_enter func189,ntmps189;go_wp2_with fail;rw[<-hW];clear hW;go_loopw[4] (fun i wr=>∃k:Nat,k<=allow.length/\i=.int .i64 k/\Hid (EJ allow k=true)/\ae W wr) (fun i _=>allow.length-(intOf i).toNat);case atStart=>exact⟨0,Vf _,rfl,rfl,Vb _ _⟩
  obtain⟨k,hk,rfl,HU,hB⟩:=hrel;have a1:=kept hB hz b1;have a2:=kept hB hz b2;have a3:=kept hB hz b3;by_cases hlt:k<allow.length
  ·rcases HA.out.below hB with rfl|⟨b,off,rfl,hb,hr⟩
   ·simp at hlt
   obtain⟨t0,t1⟩:=hr k hlt;obtain⟨z0,z1⟩:=Xx.out allow[k] (U8 hlt);have HR:Hid (∀(i:Nat) (h:i<allow.length),Tu wr b (off+i*2) allow[i]):=hr;clear hr;obtain⟨W1,hW1⟩:∃W1,W1=wr.alloc (.cells #[.string allow[k].t,.string allow[k].s] 43):=⟨_,rfl⟩;have hal:ae wr W1:=by rw[hW1];exact(Vb _ _).alloc (Va _) _
   have hBW1:Below W.heap.size wr W1:=hal.mono hB.size;have hsz:w.heap.size<wr.heap.size:=U9 hz hB.size;have hWs:W.heap.size<=W1.heap.size:=Vj hB.size hal.size;have c1:=kept hal hsz a1;have c2:=kept hal hsz a2;have c3:=kept hal hsz a3;have hbl:b<W1.heap.size:=U9 hb hal.size;have hgl:wr.heap.size<W1.heap.size:=by rw[hW1];simp
   have g0:W1.cell? ⟨wr.heap.size,0,none⟩=some (.string allow[k].t):=by rw[hW1];simp
   have g1:W1.cell? ⟨wr.heap.size,1,none⟩=some (.string allow[k].s):=by rw[hW1];simp
   have HR1:Hid (∀(i:Nat) (h:i<allow.length),Tu W1 b (off+i*2) allow[i]):=fun i hi=>(HR.out i hi).same fun o=>hal.cell (p:=⟨b,o,none⟩) hb;cases hn:aU allow[k].t;case false=>
    have HN:Hid (EJ allow allow.length=false):=oW allow k hlt (by simp[Gf,hn]) _ hlt;go_wp2_with(go_at_call 111;refine(aT _ _ (by assumption)).mono ?_;rintro e w' ⟨rfl,rfl⟩);go_ret;exact⟨ah (by simp[ay,eG,HN.out]),HB0.out.trans ((hB.trans ((Vb _ _).alloc hB.size _)).mono HB0.out.size)⟩
   cases he:allow[k].s.toList.isEmpty
   case' true =>
    have HAl:Hid (Gf allow[k]=true):=by show _=_;simp[Gf,uU,hn,he]
    go_wp2_with(go_at_call 111;refine(aT _ _ (by assumption)).mono ?_;rintro e w' ⟨rfl,rfl⟩);rw[<-hW1]
   case' false =>
    cases hm:aU allow[k].s;case false =>
     have HN:Hid (EJ allow allow.length=false):=oW allow k hlt (by simp[Gf,hn,uU,he,hm]) _ hlt;go_wp2_with(go_at_call 111;refine(aT _ _ (by assumption)).mono ?_;rintro e w' ⟨rfl,rfl⟩);go_ret;exact⟨ah (by simp[ay,eG,HN.out]),HB0.out.trans ((hB.trans ((Vb _ _).alloc hB.size _)).mono HB0.out.size)⟩
    have HAl:Hid (Gf allow[k]=true):=by show _=_;simp[Gf,uU,hn,he,hm]
    go_wp2_with(go_at_call 111;refine(aT _ _ (by assumption)).mono ?_;rintro e w' ⟨rfl,rfl⟩);rw[<-hW1]
   all_goals
    go_loopw[6] (fun i w2=>∃j:Nat,j<=k/\i=.int .i64 j/\Hid (dK allow j allow[k]=false)/\ae W1 w2) (fun i _=>k-(intOf i).toNat);case atStart=>exact⟨0,Vf _,rfl,ug _ _,Vb _ _⟩
    obtain⟨j,hj,rfl,HP,hB2⟩:=hrel;rename_i w2 _;have d1:=kept hB2 (by omega) c1;have d2:=kept hB2 (by omega) c2;have d3:=kept hB2 (by omega) c3;have p0:=kept hB2 hgl g0;have p1:=kept hB2 hgl g1;by_cases hjk:j<k
    ·obtain⟨q0,q1⟩:=(HR1.out j (by omega)).same fun o=>hB2.cell (p:=⟨b,o,none⟩) hbl;have hj1:=bC j;have hj2:(j:Int)<(allow.length:Int):=by omega
     cases hq:ko allow[j] allow[k];case true=>
      have HE:=EO allow[j] allow[k] hq;have HN:Hid (EJ allow allow.length=false):=oW allow k hlt (by rw[(Dg hjk (by omega) hq)];simp) _ hlt;go_wp2_with fail;go_quiet (fail);go_wp2;go_ret;exact⟨ah (by simp[ay,eG,HN.out]),HB0.out.trans ((hB.trans (hBW1.trans (hB2.mono (by omega)))).mono HB0.out.size |> fun h=>below_drewN h _)⟩
     have HE:=EO allow[j] allow[k] hq;have WB:Hid (dK allow (j+1) allow[k]=false):=by show _=_;rw[uf _ _ _ (by omega),HP.out,hq];rfl
     go_wp2_with fail;go_quiet (fail);go_wp2;go_roundw;case rel=>exact⟨j+1,by omega,by go_num,WB,below_drewN hB2 _⟩
     simp[intOf];omega
    obtain rfl:j=k:=by omega
    have Z6:Hid (EJ allow (j+1)=true):=by show _=_;rw[zS _ _ hlt,HU.out,HAl.out,HP.out];rfl
    go_wp2;go_roundw;case rel=>exact⟨j+1,by omega,by go_num,Z6,hB.trans (hBW1.trans (hB2.mono (by omega)))⟩
    simp[intOf];omega
  obtain rfl:k=allow.length:=by omega
  have HAW:Hid (eG allow=true):=by show _=_;simp[eG,hl1,hl2,HU.out]
  go_wp2
  all_goals go_ret
  all_goals exact⟨ah (by first|(simp[ay,HAW.out, *];done)|(simp[ay,HAW.out, *];rw[Vu];simp;done)),HB0.out.trans (hB.mono HB0.out.size)⟩
 go_enter func189,ntmps189;go_wp2_with fail
 all_goals go_ret
 all_goals exact⟨ah (by simp[ay,eG];omega),(Vb w.heap.size w).alloc (Va _) _⟩
theorem EP(r:ER)(w:af)(hf:r.e.fits)(hok:r.ok w):
  Calls prog 189 #[r.val] w fun e w'=>e=.returned (.bool (ay r.e))/\ae w w':=by
 by_cases h:r.e.kind=1
 ·exact Cr r w hf hok h
 exact mF r w hf h
end Go.Proofs.YtajkkeikihhejaaGreat
