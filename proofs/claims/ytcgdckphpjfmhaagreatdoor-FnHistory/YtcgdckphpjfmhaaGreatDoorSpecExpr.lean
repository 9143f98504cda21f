/- Contracts of the document's functions that look at an expression. -/
import Derived.Test.YtcgdckphpjfmhaaGreatDoorSq
import Derived.Test.YtcgdckphpjfmhaaGreatDoorJ3
open Go.Proofs.Tryz
set_option maxHeartbeats 80000000
namespace Go.Proofs.YtcgdckphpjfmhaaGreatDoor
open ChangeShapes WideShapes ChangeAt RowKit
open Pl
theorem qD(n lo hi:Int)(w:ae):
  Calls prog 92 #[.int .i64 n,.int .i64 lo,.int .i64 hi] w fun e w'=>e=.returned (.bool (decide (lo<=n)&&decide (n<=hi)))/\w'=w:=by
 go_enter func92,ntmps92;go_wp2
 all_goals go_ret
 all_goals exact⟨ah (by simp[*]<;>omega),rfl⟩
set_option maxRecDepth 8000 in
theorem mg(r:ER)(w:ae)(hf:r.e.fits)(h1:r.e.kind≠1):
  Calls prog 193 #[r.val] w fun e w'=>e=.returned (.bool (az r.e))/\af w w':=by
 obtain⟨⟨kind,allow,over,name,kids⟩,adA,capA,adK,capK⟩:=r;obtain⟨f1,f2,f3,f4,f5⟩:=hf;simp only at f1 f2 f3 f4 f5 h1;simp only[ER.val];unfold maxLen at f4 f5;by_cases h2:kind=2
 ·subst h2;clear h1;go_enter func193,ntmps193;go_wp2_with(go_at_call 151;refine(aT _ _ (by assumption)).mono ?_;rintro e w' ⟨rfl,rfl⟩)
  all_goals go_ret
  all_goals exact⟨ah (by first|(simp[az, *];done)|(simp[az, *];omega)|(simp[az, *];rw[VV];simp;done)|(simp[az, *];rw[VV];simp;omega)),(VD w.heap.size w).alloc (VC _) _⟩
 by_cases h3:kind=3
 ·subst h3;clear h1;go_enter func193,ntmps193;go_wp2_with(go_at_call 151;refine(aT _ _ (by assumption)).mono ?_;rintro e w' ⟨rfl,rfl⟩)
  all_goals go_ret
  all_goals exact⟨ah (by first|(simp[az, *];done)|(simp[az, *];omega)|(simp[az, *];rw[VV];simp;done)|(simp[az, *];rw[VV];simp;omega)),(VD w.heap.size w).alloc (VC _) _⟩
 by_cases h4:kind=4
 ·subst h4;clear h1;go_enter func193,ntmps193;go_wp2_with(go_at_call 151;refine(aT _ _ (by assumption)).mono ?_;rintro e w' ⟨rfl,rfl⟩)
  all_goals go_ret
  all_goals exact⟨ah (by first|(simp[az, *];done)|(simp[az, *];omega)|(simp[az, *];rw[VV];simp;done)|(simp[az, *];rw[VV];simp;omega)),(VD w.heap.size w).alloc (VC _) _⟩
 by_cases h5:kind=5
 ·subst h5;clear h1;go_enter func193,ntmps193;go_wp2_with(go_at_call 151;refine(aT _ _ (by assumption)).mono ?_;rintro e w' ⟨rfl,rfl⟩)
  all_goals go_ret
  all_goals exact⟨ah (by first|(simp[az, *];done)|(simp[az, *];omega)|(simp[az, *];rw[VV];simp;done)|(simp[az, *];rw[VV];simp;omega)),(VD w.heap.size w).alloc (VC _) _⟩
 by_cases h6:kind=6
 ·subst h6;clear h1;go_enter func193,ntmps193;go_wp2_with(go_at_call 151;refine(aT _ _ (by assumption)).mono ?_;rintro e w' ⟨rfl,rfl⟩)
  all_goals go_ret
  all_goals exact⟨ah (by first|(simp[az, *];done)|(simp[az, *];omega)|(simp[az, *];rw[VV];simp;done)|(simp[az, *];rw[VV];simp;omega)),(VD w.heap.size w).alloc (VC _) _⟩
 go_enter func193,ntmps193;go_wp2_with(go_at_call 151;refine(aT _ _ (by assumption)).mono ?_;rintro e w' ⟨rfl,rfl⟩)
 all_goals go_ret
 all_goals exact⟨ah (by first|(simp[az, *];done)|(simp[az, *];omega)|(simp[az, *];rw[VV];simp;done)|(simp[az, *];rw[VV];simp;omega)),(VD w.heap.size w).alloc (VC _) _⟩
theorem Eg(x y:Al){v:Bool}(h:kz x y=v)(w:ae):
  (binOp .eql 223 (.agg #[.string x.t,.string x.s]) (.agg #[.string y.t,.string y.s])).run prog w=.ok (.bool v) w:=by
 subst h;go_simp;unfold kz;by_cases h1:x.t.toList=y.t.toList<;>by_cases h2:x.s.toList=y.s.toList<;>simp[h1,h2]
theorem CF{xs:Q0a}{j k:Nat}{a:Al}(hjk:j<k)(hj:j<xs.length)(h:kz xs[j] a=true):dP xs k a=true:=by
 unfold dP;rw[WG];refine⟨xs[j],?_,h⟩;rw[List.mem_take_iff_getElem];exact⟨j,by omega,rfl⟩
set_option maxRecDepth 8000 in
theorem BN(r:ER)(w:ae)(hf:r.e.fits)(hok:r.ok w)(h1:r.e.kind=1):
  Calls prog 193 #[r.val] w fun e w'=>e=.returned (.bool (az r.e))/\af w w':=by
 obtain⟨⟨kind,allow,over,name,kids⟩,adA,capA,adK,capK⟩:=r;obtain⟨f1,f2,f3,f4,f5⟩:=hf;obtain⟨hA,hK⟩:=hok;simp only at f1 f2 f3 f4 f5 h1 hA hK;subst h1;simp only[ER.val];unfold maxLen at f4 f5;by_cases hl:1<=allow.length/\allow.length<=6
 ·obtain⟨hl1,hl2⟩:=hl;obtain⟨W,hW⟩:∃W,W=w.alloc (.cells #[.int .i64 1,.slice adA allow.length capA,.string over,.string name,.slice adK kids.length capK] 188):=⟨_,rfl⟩;have HB0:Hid (af w W):=by show Below _ _ _;rw[hW];exact(VD w.heap.size w).alloc (VC _) _
  have hz:w.heap.size<W.heap.size:=by rw[hW];simp
  have b1:W.cell? ⟨w.heap.size,1,none⟩=some (.slice adA allow.length capA):=by rw[hW];simp
  have b2:W.cell? ⟨w.heap.size,2,none⟩=some (.string over):=by rw[hW];simp
  have b3:W.cell? ⟨w.heap.size,3,none⟩=some (.string name):=by rw[hW];simp
  have HA:=aC (hA.below HB0.out);have Ya:=aC f1;clear hA hK f1;go_enter func193,ntmps193;go_wp2_with fail;rw[<-hW];clear hW;go_loopw[4] (fun i wr=>∃k:Nat,k<=allow.length/\i=.int .i64 k/\Hid (Eb allow k=true)/\af W wr) (fun i _=>allow.length-(intOf i).toNat);case atStart=>exact⟨0,VG _,rfl,rfl,VD _ _⟩
  obtain⟨k,hk,rfl,HU,hB⟩:=hrel;have a1:=kept hB hz b1;have a2:=kept hB hz b2;have a3:=kept hB hz b3;by_cases hlt:k<allow.length
  ·rcases HA.out.below hB with rfl|⟨b,off,rfl,hb,hr⟩
   ·simp at hlt
   obtain⟨t0,t1⟩:=hr k hlt;obtain⟨z0,z1⟩:=Ya.out allow[k] (Vz hlt);have HR:Hid (∀(i:Nat) (h:i<allow.length),Tu wr b (off+i*2) allow[i]):=hr;clear hr;obtain⟨W1,hW1⟩:∃W1,W1=wr.alloc (.cells #[.string allow[k].t,.string allow[k].s] 223):=⟨_,rfl⟩;have hal:af wr W1:=by rw[hW1];exact(VD _ _).alloc (VC _) _
   have hBW1:Below W.heap.size wr W1:=hal.mono hB.size;have hsz:w.heap.size<wr.heap.size:=Vy hz hB.size;have hWs:W.heap.size<=W1.heap.size:=VJ hB.size hal.size;have c1:=kept hal hsz a1;have c2:=kept hal hsz a2;have c3:=kept hal hsz a3;have hbl:b<W1.heap.size:=Vy hb hal.size;have hgl:wr.heap.size<W1.heap.size:=by rw[hW1];simp
   have g0:W1.cell? ⟨wr.heap.size,0,none⟩=some (.string allow[k].t):=by rw[hW1];simp
   have g1:W1.cell? ⟨wr.heap.size,1,none⟩=some (.string allow[k].s):=by rw[hW1];simp
   have HR1:Hid (∀(i:Nat) (h:i<allow.length),Tu W1 b (off+i*2) allow[i]):=fun i hi=>(HR.out i hi).same fun o=>hal.cell (p:=⟨b,o,none⟩) hb;cases hn:aS allow[k].t;case false=>
    have HN:Hid (Eb allow allow.length=false):=oZ allow k hlt (by simp[FP,hn]) _ hlt;go_wp2_with(go_at_call 151;refine(aT _ _ (by assumption)).mono ?_;rintro e w' ⟨rfl,rfl⟩);go_ret;exact⟨ah (by simp[az,dW,HN.out]),HB0.out.trans ((hB.trans ((VD _ _).alloc hB.size _)).mono HB0.out.size)⟩
   cases he:allow[k].s.toList.isEmpty
   case' true =>
    have HAl:Hid (FP allow[k]=true):=by show _=_;simp[FP,uH,hn,he]
    go_wp2_with(go_at_call 151;refine(aT _ _ (by assumption)).mono ?_;rintro e w' ⟨rfl,rfl⟩);rw[<-hW1]
   case' false =>
    cases hm:aS allow[k].s;case false =>
     have HN:Hid (Eb allow allow.length=false):=oZ allow k hlt (by simp[FP,hn,uH,he,hm]) _ hlt;go_wp2_with(go_at_call 151;refine(aT _ _ (by assumption)).mono ?_;rintro e w' ⟨rfl,rfl⟩);go_ret;exact⟨ah (by simp[az,dW,HN.out]),HB0.out.trans ((hB.trans ((VD _ _).alloc hB.size _)).mono HB0.out.size)⟩
    have HAl:Hid (FP allow[k]=true):=by show _=_;simp[FP,uH,hn,he,hm]
    go_wp2_with(go_at_call 151;refine(aT _ _ (by assumption)).mono ?_;rintro e w' ⟨rfl,rfl⟩);rw[<-hW1]
   all_goals
    go_loopw[6] (fun i w2=>∃j:Nat,j<=k/\i=.int .i64 j/\Hid (dP allow j allow[k]=false)/\af W1 w2) (fun i _=>k-(intOf i).toNat);case atStart=>exact⟨0,VG _,rfl,tT _ _,VD _ _⟩
    obtain⟨j,hj,rfl,HP,hB2⟩:=hrel;rename_i w2 _;have d1:=kept hB2 (by omega) c1;have d2:=kept hB2 (by omega) c2;have d3:=kept hB2 (by omega) c3;have p0:=kept hB2 hgl g0;have p1:=kept hB2 hgl g1;by_cases hjk:j<k
    ·obtain⟨q0,q1⟩:=(HR1.out j (by omega)).same fun o=>hB2.cell (p:=⟨b,o,none⟩) hbl;have hj1:=bq j;have hj2:(j:Int)<(allow.length:Int):=by omega
     cases hq:kz allow[j] allow[k];case true=>
      have HE:=Eg allow[j] allow[k] hq;have HN:Hid (Eb allow allow.length=false):=oZ allow k hlt (by rw[(CF hjk (by omega) hq)];simp) _ hlt;go_wp2_with fail;go_quiet (fail);go_wp2;go_ret;exact⟨ah (by simp[az,dW,HN.out]),HB0.out.trans ((hB.trans (hBW1.trans (hB2.mono (by omega)))).mono HB0.out.size |> fun h=>below_drewN h _)⟩
     have HE:=Eg allow[j] allow[k] hq;have Xa:Hid (dP allow (j+1) allow[k]=false):=by show _=_;rw[tQ _ _ _ (by omega),HP.out,hq];rfl
     go_wp2_with fail;go_quiet (fail);go_wp2;go_roundw;case rel=>exact⟨j+1,by omega,by go_num,Xa,below_drewN hB2 _⟩
     simp[intOf];omega
    obtain rfl:j=k:=by omega
    have HU2:Hid (Eb allow (j+1)=true):=by show _=_;rw[zF _ _ hlt,HU.out,HAl.out,HP.out];rfl
    go_wp2;go_roundw;case rel=>exact⟨j+1,by omega,by go_num,HU2,hB.trans (hBW1.trans (hB2.mono (by omega)))⟩
    simp[intOf];omega
  obtain rfl:k=allow.length:=by omega
  have HAW:Hid (dW allow=true):=by show _=_;simp[dW,hl1,hl2,HU.out]
  go_wp2
  all_goals go_ret
  all_goals exact⟨ah (by first|(simp[az,HAW.out, *];done)|(simp[az,HAW.out, *];rw[VV];simp;done)),HB0.out.trans (hB.mono HB0.out.size)⟩
 go_enter func193,ntmps193;go_wp2_with fail
 all_goals go_ret
 all_goals exact⟨ah (by simp[az,dW];omega),(VD w.heap.size w).alloc (VC _) _⟩
theorem Eh(r:ER)(w:ae)(hf:r.e.fits)(hok:r.ok w):
  Calls prog 193 #[r.val] w fun e w'=>e=.returned (.bool (az r.e))/\af w w':=by
 by_cases h:r.e.kind=1
 ·exact BN r w hf hok h
 exact mg r w hf h
end Go.Proofs.YtcgdckphpjfmhaaGreatDoor
