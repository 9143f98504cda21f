/- Contracts of the document's functions that look at an expression. -/
import Derived.Test.YtdaoiceeidoehaaGreatJ10
open Go.Proofs.Tryz
set_option maxHeartbeats 80000000
namespace Go.Proofs.YtdaoiceeidoehaaGreat
open Go.ChangeShapes Go.WideShapes Go.ChangeAt Go.RowKit
open Pl
theorem Mv (n lo hi:Int) (w:World) :
  Calls prog 109 #[.int .i64 n,.int .i64 lo,.int .i64 hi] w fun e w'=>e=.returned (.bool (decide (lo≤n) && decide (n≤hi)))∧w'=w:=by
 go_enter func109,ntmps109;go_wp2
 all_goals go_ret
 all_goals exact ⟨af (by simp [*] <;> omega),rfl⟩
set_option maxRecDepth 8000 in
theorem x9 (r:ER) (w:World) (hf:r.e.fits) (h1:r.e.kind ≠ 1) :
  Calls prog 108 #[r.val] w fun e w'=>e=.returned (.bool (az r.e))∧Below w.heap.size w w':=by
 obtain ⟨⟨kind,allow,over,name,kids⟩,adA,capA,adK,capK⟩:=r;obtain ⟨f1,f2,f3,f4,f5⟩:=hf;simp only at f1 f2 f3 f4 f5 h1;simp only [ER.val];unfold maxLen at f4 f5;by_cases h2:kind=2
 ·subst h2;clear h1;go_enter func108,ntmps108;go_wp2_with (go_at_call 56; refine (aL _ _ (by assumption)).mono ?_; rintro e w' ⟨rfl,rfl⟩)
  all_goals go_ret
  all_goals exact ⟨af (by first | (simp [az, *]; done) | (simp [az, *]; omega) | (simp [az, *]; rw [Bool.eq_iff_iff]; simp; done) | (simp [az, *]; rw [Bool.eq_iff_iff]; simp; omega)),(R3 w.heap.size w).alloc (R4 _) _⟩
 by_cases h3:kind=3
 ·subst h3;clear h1;go_enter func108,ntmps108;go_wp2_with (go_at_call 56; refine (aL _ _ (by assumption)).mono ?_; rintro e w' ⟨rfl,rfl⟩)
  all_goals go_ret
  all_goals exact ⟨af (by first | (simp [az, *]; done) | (simp [az, *]; omega) | (simp [az, *]; rw [Bool.eq_iff_iff]; simp; done) | (simp [az, *]; rw [Bool.eq_iff_iff]; simp; omega)),(R3 w.heap.size w).alloc (R4 _) _⟩
 by_cases h4:kind=4
 ·subst h4;clear h1;go_enter func108,ntmps108;go_wp2_with (go_at_call 56; refine (aL _ _ (by assumption)).mono ?_; rintro e w' ⟨rfl,rfl⟩)
  all_goals go_ret
  all_goals exact ⟨af (by first | (simp [az, *]; done) | (simp [az, *]; omega) | (simp [az, *]; rw [Bool.eq_iff_iff]; simp; done) | (simp [az, *]; rw [Bool.eq_iff_iff]; simp; omega)),(R3 w.heap.size w).alloc (R4 _) _⟩
 by_cases h5:kind=5
 ·subst h5;clear h1;go_enter func108,ntmps108;go_wp2_with (go_at_call 56; refine (aL _ _ (by assumption)).mono ?_; rintro e w' ⟨rfl,rfl⟩)
  all_goals go_ret
  all_goals exact ⟨af (by first | (simp [az, *]; done) | (simp [az, *]; omega) | (simp [az, *]; rw [Bool.eq_iff_iff]; simp; done) | (simp [az, *]; rw [Bool.eq_iff_iff]; simp; omega)),(R3 w.heap.size w).alloc (R4 _) _⟩
 by_cases h6:kind=6
 ·subst h6;clear h1;go_enter func108,ntmps108;go_wp2_with (go_at_call 56; refine (aL _ _ (by assumption)).mono ?_; rintro e w' ⟨rfl,rfl⟩)
  all_goals go_ret
  all_goals exact ⟨af (by first | (simp [az, *]; done) | (simp [az, *]; omega) | (simp [az, *]; rw [Bool.eq_iff_iff]; simp; done) | (simp [az, *]; rw [Bool.eq_iff_iff]; simp; omega)),(R3 w.heap.size w).alloc (R4 _) _⟩
 ·go_enter func108,ntmps108;go_wp2_with (go_at_call 56; refine (aL _ _ (by assumption)).mono ?_; rintro e w' ⟨rfl,rfl⟩)
  all_goals go_ret
  all_goals exact ⟨af (by first | (simp [az, *]; done) | (simp [az, *]; omega) | (simp [az, *]; rw [Bool.eq_iff_iff]; simp; done) | (simp [az, *]; rw [Bool.eq_iff_iff]; simp; omega)),(R3 w.heap.size w).alloc (R4 _) _⟩
theorem tu (x y:Al) {v:Bool} (h:je x y=v) (w:World) :
  (binOp .eql 163 (.agg #[.string x.t,.string x.s]) (.agg #[.string y.t,.string y.s])).run prog w=.ok (.bool v) w:=by
 subst h;go_simp;unfold je;by_cases h1:x.t.toList=y.t.toList <;> by_cases h2:x.s.toList=y.s.toList <;> simp [h1,h2]
theorem tC {xs:List Al} {j k:Nat} {a:Al} (hjk:j < k) (hj:j < xs.length) (h:je xs[j] a=true):dh xs k a=true:=by
 unfold dh;rw [Sw];refine ⟨xs[j],?_,h⟩;rw [List.mem_take_iff_getElem];exact ⟨j,by omega,rfl⟩
set_option maxRecDepth 8000 in
theorem zH (r:ER) (w:World) (hf:r.e.fits) (hok:r.ok w) (h1:r.e.kind=1) :
  Calls prog 108 #[r.val] w fun e w'=>e=.returned (.bool (az r.e))∧Below w.heap.size w w':=by
 obtain ⟨⟨kind,allow,over,name,kids⟩,adA,capA,adK,capK⟩:=r;obtain ⟨f1,f2,f3,f4,f5⟩:=hf;obtain ⟨hA,hK⟩:=hok;simp only at f1 f2 f3 f4 f5 h1 hA hK;subst h1;simp only [ER.val];unfold maxLen at f4 f5;by_cases hl:1≤allow.length∧allow.length≤6
 ·obtain ⟨hl1,hl2⟩:=hl;obtain ⟨W,hW⟩:∃ W,W=w.alloc (.cells #[.int .i64 1,.slice adA allow.length capA,.string over,.string name,.slice adK kids.length capK] 166):=⟨_,rfl⟩;have HB0:Hid (Below w.heap.size w W):=by show Below _ _ _; rw [hW]; exact (R3 w.heap.size w).alloc (R4 _) _
  have hz:w.heap.size < W.heap.size:=by rw [hW]; simp
  have b1:W.cell? ⟨w.heap.size,1,none⟩=some (.slice adA allow.length capA):=by rw [hW]; simp
  have b2:W.cell? ⟨w.heap.size,2,none⟩=some (.string over):=by rw [hW]; simp
  have b3:W.cell? ⟨w.heap.size,3,none⟩=some (.string name):=by rw [hW]; simp
  have HA:=aC (hA.below HB0.out);have HF1:=aC f1;clear hA hK f1;go_enter func108,ntmps108;go_wp2_with fail;rw [← hW];clear hW;go_loopw [4] (fun i wr=>∃ k:Nat,k≤allow.length∧i=.int .i64 k∧Hid (Ce allow k=true)∧Below W.heap.size W wr) (fun i _=>allow.length - (intOf i).toNat);case atStart=>exact ⟨0,R6 _,rfl,rfl,R3 _ _⟩
  case round =>
   obtain ⟨k,hk,rfl,HU,hB⟩:=hrel;have a1:=kept hB hz b1;have a2:=kept hB hz b2;have a3:=kept hB hz b3;by_cases hlt:k < allow.length
   ·rcases HA.out.below hB with rfl | ⟨b,off,rfl,hb,hr⟩
    ·simp at hlt
    obtain ⟨t0,t1⟩:=hr k hlt;obtain ⟨z0,z1⟩:=HF1.out allow[k] (RY hlt);have HR:Hid (∀ (i:Nat) (h:i < allow.length),OB wr b (off + i * 2) allow[i]):=hr;clear hr;obtain ⟨W1,hW1⟩:∃ W1,W1=wr.alloc (.cells #[.string allow[k].t,.string allow[k].s] 163):=⟨_,rfl⟩;have hal:Below wr.heap.size wr W1:=by rw [hW1]; exact (R3 _ _).alloc (R4 _) _
    have hBW1:Below W.heap.size wr W1:=hal.mono hB.size;have hsz:w.heap.size < wr.heap.size:=RZ hz hB.size;have hWs:W.heap.size≤W1.heap.size:=Sb hB.size hal.size;have c1:=kept hal hsz a1;have c2:=kept hal hsz a2;have c3:=kept hal hsz a3;have hbl:b < W1.heap.size:=RZ hb hal.size;have hgl:wr.heap.size < W1.heap.size:=by rw [hW1]; simp
    have g0:W1.cell? ⟨wr.heap.size,0,none⟩=some (.string allow[k].t):=by rw [hW1]; simp
    have g1:W1.cell? ⟨wr.heap.size,1,none⟩=some (.string allow[k].s):=by rw [hW1]; simp
    have HR1:Hid (∀ (i:Nat) (h:i < allow.length),OB W1 b (off + i * 2) allow[i]):=fun i hi=>(HR.out i hi).same fun o=>hal.cell (p:=⟨b,o,none⟩) hb;cases hn:aR allow[k].t with
    | false =>
     have HN:Hid (Ce allow allow.length=false):=kU allow k hlt (by simp [Lr,hn]) _ hlt;go_wp2_with (go_at_call 56; refine (aL _ _ (by assumption)).mono ?_; rintro e w' ⟨rfl,rfl⟩);go_ret;exact ⟨af (by simp [az,fV,HN.out]),HB0.out.trans ((hB.trans ((R3 _ _).alloc hB.size _)).mono HB0.out.size)⟩
    | true =>
     cases he:allow[k].s.toList.isEmpty with
     | true =>
      have HAl:Hid (Lr allow[k]=true):=by show _=_; simp [Lr,xx,hn,he]
      go_wp2_with (go_at_call 56; refine (aL _ _ (by assumption)).mono ?_; rintro e w' ⟨rfl,rfl⟩);rw [← hW1];go_loopw [6] (fun i w2=>∃ j:Nat,j≤k∧i=.int .i64 j∧Hid (dh allow j allow[k]=false)∧Below W1.heap.size W1 w2) (fun i _=>k - (intOf i).toNat);case atStart=>exact ⟨0,R6 _,rfl,mr _ _,R3 _ _⟩
      case round =>
       obtain ⟨j,hj,rfl,HP,hB2⟩:=hrel;rename_i w2 _;have d1:=kept hB2 (by omega) c1;have d2:=kept hB2 (by omega) c2;have d3:=kept hB2 (by omega) c3;have p0:=kept hB2 hgl g0;have p1:=kept hB2 hgl g1;by_cases hjk:j < k
       ·obtain ⟨q0,q1⟩:=(HR1.out j (by omega)).same fun o=>hB2.cell (p:=⟨b,o,none⟩) hbl;have hj1:=bn j;have hj2:(j:Int) < (allow.length:Int):=by omega
        cases hq:je allow[j] allow[k] with
        | true =>
         have HE:=tu allow[j] allow[k] hq;have HN:Hid (Ce allow allow.length=false):=kU allow k hlt (by rw [(tC hjk (by omega) hq)]; simp) _ hlt;go_wp2_with fail;go_quiet (fail);go_wp2;go_ret;exact ⟨af (by simp [az,fV,HN.out]),HB0.out.trans ((hB.trans (hBW1.trans (hB2.mono (by omega)))).mono HB0.out.size |> fun h=>below_drewN h _)⟩
        | false =>
         have HE:=tu allow[j] allow[k] hq;have Td:Hid (dh allow (j + 1) allow[k]=false):=by show _=_; rw [mq _ _ _ (by omega),HP.out,hq]; rfl
         go_wp2_with fail;go_quiet (fail);go_wp2;go_roundw;case rel=>exact ⟨j + 1,by omega,by go_num,Td,below_drewN hB2 _⟩
         case measure=>simp [intOf]; omega
       ·obtain rfl:j=k:=by omega
        have Xh:Hid (Ce allow (j + 1)=true):=by show _=_; rw [qX _ _ hlt,HU.out,HAl.out,HP.out]; rfl
        go_wp2;go_roundw;case rel=>exact ⟨j + 1,by omega,by go_num,Xh,hB.trans (hBW1.trans (hB2.mono (by omega)))⟩
        case measure=>simp [intOf]; omega
     | false =>
      cases hm:aR allow[k].s with
      | false =>
       have HN:Hid (Ce allow allow.length=false):=kU allow k hlt (by simp [Lr,hn,xx,he,hm]) _ hlt;go_wp2_with (go_at_call 56; refine (aL _ _ (by assumption)).mono ?_; rintro e w' ⟨rfl,rfl⟩);go_ret;exact ⟨af (by simp [az,fV,HN.out]),HB0.out.trans ((hB.trans ((R3 _ _).alloc hB.size _)).mono HB0.out.size)⟩
      | true =>
       have HAl:Hid (Lr allow[k]=true):=by show _=_; simp [Lr,xx,hn,he,hm]
       go_wp2_with (go_at_call 56; refine (aL _ _ (by assumption)).mono ?_; rintro e w' ⟨rfl,rfl⟩);rw [← hW1];go_loopw [6] (fun i w2=>∃ j:Nat,j≤k∧i=.int .i64 j∧Hid (dh allow j allow[k]=false)∧Below W1.heap.size W1 w2) (fun i _=>k - (intOf i).toNat);case atStart=>exact ⟨0,R6 _,rfl,mr _ _,R3 _ _⟩
       case round =>
        obtain ⟨j,hj,rfl,HP,hB2⟩:=hrel;rename_i w2 _;have d1:=kept hB2 (by omega) c1;have d2:=kept hB2 (by omega) c2;have d3:=kept hB2 (by omega) c3;have p0:=kept hB2 hgl g0;have p1:=kept hB2 hgl g1;by_cases hjk:j < k
        ·obtain ⟨q0,q1⟩:=(HR1.out j (by omega)).same fun o=>hB2.cell (p:=⟨b,o,none⟩) hbl;have hj1:=bn j;have hj2:(j:Int) < (allow.length:Int):=by omega
         cases hq:je allow[j] allow[k] with
         | true =>
          have HE:=tu allow[j] allow[k] hq;have HN:Hid (Ce allow allow.length=false):=kU allow k hlt (by rw [(tC hjk (by omega) hq)]; simp) _ hlt;go_wp2_with fail;go_quiet (fail);go_wp2;go_ret;exact ⟨af (by simp [az,fV,HN.out]),HB0.out.trans ((hB.trans (hBW1.trans (hB2.mono (by omega)))).mono HB0.out.size |> fun h=>below_drewN h _)⟩
         | false =>
          have HE:=tu allow[j] allow[k] hq;have Td:Hid (dh allow (j + 1) allow[k]=false):=by show _=_; rw [mq _ _ _ (by omega),HP.out,hq]; rfl
          go_wp2_with fail;go_quiet (fail);go_wp2;go_roundw;case rel=>exact ⟨j + 1,by omega,by go_num,Td,below_drewN hB2 _⟩
          case measure=>simp [intOf]; omega
        ·obtain rfl:j=k:=by omega
         have Xh:Hid (Ce allow (j + 1)=true):=by show _=_; rw [qX _ _ hlt,HU.out,HAl.out,HP.out]; rfl
         go_wp2;go_roundw;case rel=>exact ⟨j + 1,by omega,by go_num,Xh,hB.trans (hBW1.trans (hB2.mono (by omega)))⟩
         case measure=>simp [intOf]; omega
   ·obtain rfl:k=allow.length:=by omega
    have ZU:Hid (fV allow=true):=by show _=_; simp [fV,hl1,hl2,HU.out]
    go_wp2
    all_goals go_ret
    all_goals exact ⟨af (by first | (simp [az,ZU.out, *]; done) | (simp [az,ZU.out, *]; rw [Bool.eq_iff_iff]; simp; done)),HB0.out.trans (hB.mono HB0.out.size)⟩
 ·go_enter func108,ntmps108;go_wp2_with fail
  all_goals go_ret
  all_goals exact ⟨af (by simp [az,fV]; omega),(R3 w.heap.size w).alloc (R4 _) _⟩
theorem Co (r:ER) (w:World) (hf:r.e.fits) (hok:r.ok w) :
  Calls prog 108 #[r.val] w fun e w'=>e=.returned (.bool (az r.e))∧Below w.heap.size w w':=by
 by_cases h:r.e.kind=1
 ·exact zH r w hf hok h
 ·exact x9 r w hf h
set_option linter.unusedVariables false
set_option maxRecDepth 100000
theorem Es {x y:Al}:je x y=true ↔ x=y:=by
 unfold je;simp only [R7,beq_iff_eq];constructor
 ·rintro ⟨h0,h1⟩;obtain ⟨xa,xb⟩:=x;obtain ⟨ya,yb⟩:=y;simp only at h0 h1;rw [Eo h0,Eo h1]
 ·rintro rfl; simp
theorem AR (x y:Al):je x y=je y x:=by
 rw [Bool.eq_iff_iff,Es,Es];exact ⟨Eq.symm,Eq.symm⟩
theorem Mw (x y:Al) {v:Bool} (h:je x y=v) (w:World) :
  (binOp .eql 40 (.agg #[.string x.t,.string x.s]) (.agg #[.string y.t,.string y.s])).run prog w=.ok (.bool v) w:=by
 subst h;go_simp;unfold je
 (repeat' split) <;> simp_all
def iK (xs:List Al) (o:Al):Bool:=xs.any fun x=>je x o
theorem J6 {xs:List Al} {o:Al} {k:Nat} (h:k < xs.length):iK (xs.take (k + 1)) o=(iK (xs.take k) o || je xs[k] o):=by
 rw [R5 h];unfold iK;rw [List.any_append];simp only [List.any_cons,List.any_nil,Bool.or_false]
theorem Mx {xs:List Al} {o:Al} {k:Nat} (h:k < xs.length) (he:je xs[k] o=true):iK xs o=true:=Sw.2 ⟨xs[k],RY h,he⟩
theorem GA (ad:Option Addr) (cap:Nat) (ts:List Al) (t:Al) (w:World) (hlen:ts.length≤1048576) (hs:iy w ad ts) :
  Calls prog 166 #[.slice ad ts.length cap,.agg #[.string t.t,.string t.s]] w fun e w'=>(∃ r:Int,e=.returned (.int .i64 r)∧decide (0≤r)=iK ts t)∧Below w.heap.size w w':=by
 obtain ⟨W,hW⟩:∃ W,W=w.alloc (.cells #[.string t.t,.string t.s] 40):=⟨_,rfl⟩;have HB0:Hid (Below w.heap.size w W):=by show Below _ _ _; rw [hW]; exact (R3 w.heap.size w).alloc (R4 _) _
 have hz:w.heap.size < W.heap.size:=by rw [hW]; simp
 have b0:W.cell? ⟨w.heap.size,0,none⟩=some (.string t.t):=by rw [hW]; simp
 have b1:W.cell? ⟨w.heap.size,1,none⟩=some (.string t.s):=by rw [hW]; simp
 have HS:=aC (hs.below HB0.out);clear hs;go_enter func166,ntmps166;go_wp2_with fail;rw [← hW];clear hW;go_loopw [8] (fun i wr=>∃ k:Nat,k≤ts.length∧i=.int .i64 k∧Hid (iK (ts.take k) t=false)∧Below W.heap.size W wr) (fun i _=>ts.length - (intOf i).toNat);case atStart=>exact ⟨0,R6 _,rfl,rfl,R3 _ _⟩
 case round =>
  obtain ⟨k,hk,rfl,HP,hB⟩:=hrel;have a0:=aA hB hz b0;have a1:=aA hB hz b1;by_cases hlt:k < ts.length
  ·rcases HS.out.below hB with hnil | ⟨b,off,rfl,hb,hr⟩
   ·rw [hnil] at hlt; simp at hlt
   obtain ⟨t0,t1⟩:=hr k hlt;have hk1:=bn k;have hk2:(k:Int) < (ts.length:Int):=by omega
   clear hr;cases hq:je t ts[k] with
   | true =>
    have HE:=Mw t ts[k] hq;have HN:Hid (iK ts t=true):=Mx hlt (by rw [AR]; exact hq);go_wp2_with fail;go_quiet (fail);go_wp2;go_ret;exact ⟨⟨_,rfl,by rw [HN.out]; simp⟩,HB0.out.trans (below_drewN (hB.mono HB0.out.size) _)⟩
   | false =>
    have HE:=Mw t ts[k] hq;have Td:Hid (iK (ts.take (k + 1)) t=false):=by show _=_; rw [J6 hlt,HP.out,AR,hq]; rfl
    go_wp2_with fail;go_quiet (fail);go_wp2;go_roundw;case rel=>exact ⟨k + 1,by omega,by go_num,Td,below_drewN hB _⟩
    case measure=>simp [intOf] <;> omega
  ·obtain rfl:k=ts.length:=by omega
   have HN:Hid (iK ts t=false):=by have:=HP.out; rw [Sc] at this; exact this
   go_wp2;go_ret;exact ⟨⟨-1,rfl,by rw [HN.out]; rfl⟩,HB0.out.trans (hB.mono HB0.out.size)⟩
theorem zI (ad:Option Addr) (cap:Nat) (ts:List Al) (t:Al) (w:World) (hlen:ts.length≤1048576) (hs:iy w ad ts) :
  Calls prog 150 #[.slice ad ts.length cap,.agg #[.string t.t,.string t.s]] w fun e w'=>e=.returned (.bool (iK ts t))∧Below w.heap.size w w':=by
 have HB0:Hid (Below w.heap.size w (w.alloc (.cells #[.string t.t,.string t.s] 40))):=(R3 w.heap.size w).alloc (R4 _) _;have HS:=aB hs;clear hs;go_enter func150,ntmps150;go_wp2_with fail;refine (GA ad cap ts t _ hlen (HS.out.below HB0.out)).mono ?_;rintro e w1 ⟨⟨r,rfl,hr⟩,hb1⟩;have HR:=aB hr;have HB1:=aB (HB0.out.trans (hb1.mono HB0.out.size));clear hr hb1;go_wp2;go_ret;exact ⟨af HR.out,HB1.out⟩
def aS (xs:List Al) (o:Al):List Al:=if iK xs o then xs else xs ++ [o]
theorem yf:∃ i,prog.info? 40=some i∧i.zero=some (.agg #[.string ⟨#[]⟩,.string ⟨#[]⟩])∧i.size=2∧i.bytes=32 :=
 info_parts (P:=prog) (e:=40) (z:=.agg #[.string ⟨#[]⟩,.string ⟨#[]⟩]) (size:=2) (bytes:=32) (by kernel_rfl)
theorem jG {w:World} {base:Nat} {v:Value} {xs:List Al} (h:w.ownsRow base 40 2 v xs.length (pairs xs)):∃ ad cap,v=.slice ad xs.length cap∧iy w ad xs:=by
 rcases h.2 with ⟨rfl,h0⟩ | ⟨g,cap,cur,rfl,hbg,hg,hnc,-⟩
 ·exact ⟨none,0,by rw [h0],.inl (Si.1 h0)⟩
 ·refine ⟨_,cap,rfl,.inr ⟨g,0,rfl,(h.lt g rfl).2,fun i hi=>?_⟩⟩;obtain ⟨h0,h1⟩:=xz xs i hi;have hl:=pE xs;refine ⟨?_,?_⟩
  ·rw [h.cellAt (0 + i * 2) (by omega),Su]; exact h0
  ·rw [h.cellAt (0 + i * 2 + 1) (by omega),Su]; exact h1
theorem kI (B:Nat) (v:Value) (xs:List Al) (o:Al) (w:World) (hlen:xs.length≤1000) (hB:B≤w.heap.size) (hown:w.ownsRow B 40 2 v xs.length (pairs xs)) :
  Calls prog 123 #[v,.agg #[.string o.t,.string o.s]] w fun e w'=>∃ v',e=.returned v'∧w'.ownsRow B 40 2 v' (aS xs o).length (pairs (aS xs o))∧Aside w v w' v'∧∀ B',(∀ g,v.ownBlock=some g→B'≤g)→B'≤w.heap.size→Below B' w w':=by
 obtain ⟨iO,h0,h1,h2,h3⟩:=yf;have Vg:=aB (And.intro h0 (And.intro h1 (And.intro h2 h3)));obtain ⟨ad,cap,rfl,hsl⟩:=jG hown;obtain ⟨W,hW⟩:∃ W,W=w.alloc (.cells #[.string o.t,.string o.s] 40):=⟨_,rfl⟩;have HB0:Hid (Below w.heap.size w W):=by show Below _ _ _; rw [hW]; exact (R3 w.heap.size w).alloc (R4 _) _
 have hz:w.heap.size < W.heap.size:=by rw [hW]; simp
 have b0:W.cell? ⟨w.heap.size,0,none⟩=some (.string o.t):=by rw [hW]; simp
 have b1:W.cell? ⟨w.heap.size,1,none⟩=some (.string o.s):=by rw [hW]; simp
 have Uh:=aB hsl;have HO:=aB hown;clear hsl hown h0 h1 h2 h3;go_enter func123,ntmps123;go_wp2_with fail;rw [← hW];clear hW;refine (zI ad cap xs o _ (by omega) (Uh.out.below HB0.out)).mono ?_;rintro e w1 ⟨rfl,hb1⟩;have HB1:=aB (HB0.out.trans (hb1.mono HB0.out.size));have c0:=aA hb1 hz b0;have c1:=aA hb1 hz b1;have Ug:=aB (aM HO.out HB1.out);have HA1:Hid (Aside w (.slice ad xs.length cap) w1 (.slice ad xs.length cap)):=Aside.below HB1.out;clear hb1 b0 b1;cases hh:iK xs o with
 | true =>
  have HW:Hid (aS xs o=xs):=by show _=_; unfold aS; rw [hh]; rfl
  go_wp2;go_ret;exact ⟨_,rfl,by rw [HW.out]; exact Ug.out,HA1.out,fun B' _ hB'=>HB1.out.mono hB'⟩
 | false =>
  have HW:Hid (aS xs o=xs ++ [o]):=by show _=_; unfold aS; rw [hh]; rfl
  obtain ⟨W2,hW2⟩:∃ W2,W2=w1.alloc (.cells #[.string o.t,.string o.s] 40):=⟨_,rfl⟩;have Ta:Hid (W2.ownsRow B 40 2 (.slice ad xs.length cap) xs.length (pairs xs)):=by show World.ownsRow _ _ _ _ _ _ _; rw [hW2]; exact Ug.out.alloc _
  have HA2:Hid (Aside w (.slice ad xs.length cap) W2 (.slice ad xs.length cap)):=by show Aside _ _ _ _; rw [hW2]; exact HA1.out.trans (Aside.below ((R3 _ _).alloc (R4 _) _))
  have XB:Hid (Below w.heap.size w W2):=by show Below _ _ _; rw [hW2]; exact HB1.out.alloc HB1.out.size _
  have UE:Hid (∀ j u,[Value.string o.t,.string o.s][j]?=some u→W2.cell? ((⟨w1.heap.size,0,none⟩:Addr).add j)=some u):=fun j u hu=>by
   rw [hW2]
   match j,hu with
   | 0,hu=>simp at hu; subst hu; simp [Addr.add]
   | 1,hu=>simp at hu; subst hu; simp [Addr.add]
  have hsz2:B≤W2.heap.size:=by have:=HB1.out.size; rw [hW2]; simp; omega
  clear hh;go_wp2_with (at_builtin; rw [← hW2]; clear hW2; refine wpList_append_own_at _ rfl _ _ 108 rfl B 40 iO (.agg #[.string ⟨#[]⟩,.string ⟨#[]⟩]) 2 32 underlying108 Vg.out.1 Vg.out.2.1 Vg.out.2.2.1 Vg.out.2.2.2 rfl (by decide) _ xs.length (pairs xs) rfl Ta.out ⟨w1.heap.size,0,none⟩ 1 1 [.string o.t,.string o.s] rfl rfl UE.out (by simp [Value.oneCell']) (by unfold maxLen; omega) (by omega) hsz2 ?_);intro v' w3 hown hgr _ hat;have HE:Hid (w3.ownsRow B 40 2 v' (aS xs o).length (pairs (aS xs o))):=by
   show World.ownsRow _ _ _ _ _ _ _;rw [HW.out,R9];have:pairs (xs ++ [o])=pairs xs ++ [.string o.t,.string o.s]:=by simp [pairs]
   rw [this]; exact hown
  have HA3:Hid (Aside w (.slice ad xs.length cap) w3 v'):=HA2.out.trans (Aside.app hgr hat);have HBL:Hid (∀ B',(∀ g,(Value.slice ad xs.length cap).ownBlock=some g→B'≤g)→B'≤w.heap.size→Below B' w w3):=fun B' hv hB'=>(XB.out.mono hB').grown hgr (Sb hB' XB.out.size) hv;clear hown hgr hat;go_wp2;go_ret;exact ⟨_,rfl,HE.out,HA3.out,HBL.out⟩
open Go.Maps
def gJ (xs:List Al) (t:Tp):List Al:=aS (aS xs ⟨t.a,t.b⟩) ⟨t.c,t.d⟩
def dx (xs:List Al) (t:Tp):List Al:=if t.s.toList == [] then aS xs ⟨t.c,t.d⟩ else xs
def fI (ts:List Tp):List Al:=ts.foldl gJ []
def dG (ts:List Tp):List Al:=ts.foldl dx []
theorem yg (ts:List Tp) (t:Tp):fI (ts ++ [t])=gJ (fI ts) t:=by simp [fI]
theorem vw (ts:List Tp) (t:Tp):dG (ts ++ [t])=dx (dG ts) t:=by simp [dG]
theorem lT (xs:List Al) (o:Al):(aS xs o).length≤xs.length + 1:=by
 unfold aS; split
 ·omega
 ·simp
theorem oJ (xs:List Al) (t:Tp):(gJ xs t).length≤xs.length + 2:=by
 unfold gJ;have h1:=lT (aS xs ⟨t.a,t.b⟩) ⟨t.c,t.d⟩;have h2:=lT xs ⟨t.a,t.b⟩;omega
theorem oL (xs:List Al) (t:Tp):(dx xs t).length≤xs.length + 1:=by
 unfold dx; split
 ·exact lT _ _
 ·omega
def J7 (t:Tp):K3:=(t.a,t.b,t.r)
def aW (ts:List Tp):List (K3 × Tp):=ts.map fun t=>(J7 t,t)
theorem GD (ts:List Tp) (t:Tp):aW (ts ++ [t])=aW ts ++ [(J7 t,t)]:=by simp [aW]
structure DatT (w:World) (D br bp:Nat) (tab:Value) (n1:Int) (E:List (K3 × Tp)) (xo xu:List Al) (np:Nat) (Mp:K3→Option Value) (vo vu:Value):Prop where
 gt:bp < D
 lt:D < w.heap.size
 kind:∃ cur,w.heap[D]?=some (.cells cur 128 (0,0))
 c0:w.cell? ⟨D,0,none⟩=some tab
 c1:w.cell? ⟨D,1,none⟩=some (.int .i64 n1)
 c2:w.cell? ⟨D,2,none⟩=some (.map (some br))
 c3:w.cell? ⟨D,3,none⟩=some (.map (some bp))
 c4:w.cell? ⟨D,4,none⟩=some vo
 c5:w.cell? ⟨D,5,none⟩=some vu
 told:G.Grp oI prog 216 73 6 Tp.row w bp np Mp E
 objs:w.ownsRow (bp + 1) 40 2 vo xo.length (pairs xo)
 users:w.ownsRow (bp + 1) 40 2 vu xu.length (pairs xu)
 apart:∀ g,vo.ownBlock=some g→vu.ownBlock ≠ some g
theorem dC {w:World} {base size n g:Nat} {e e':TypeId} {v:Value} {xs:List Value} {cur:Array Value} (h:w.ownsRow base e size v n xs) (hg:v.ownBlock=some g) (hc:w.heap[g]?=some (.cells cur e' (0,0))):e=e':=by
 rcases h.2 with ⟨rfl,-⟩ | ⟨g',cap,cur',rfl,-,hg',-⟩
 ·simp [Value.ownBlock] at hg
 ·have e1:g'=g:=by simpa [Value.ownBlock] using hg
  rw [e1,hc] at hg';injection hg' with hg';injection hg' with _ h2;exact h2.symm
theorem Cq {w:World} {base size n g:Nat} {e:TypeId} {v:Value} {xs:List Value} {es:Array MapEntry} {c:Nat} (h:w.ownsRow base e size v n xs) (hg:v.ownBlock=some g) (hc:w.heap[g]?=some (.map es c)):False:=by
 rcases h.2 with ⟨rfl,-⟩ | ⟨g',cap,cur',rfl,-,hg',-⟩
 ·simp [Value.ownBlock] at hg
 ·have e1:g'=g:=by simpa [Value.ownBlock] using hg
  rw [e1,hc] at hg';cases hg'
theorem bz {w w':World} {base size n:Nat} {e:TypeId} {v:Value} {xs:List Value} (h:w.ownsRow base e size v n xs) (hb:∀ g,v.ownBlock=some g→w'.heap[g]?=w.heap[g]?):w'.ownsRow base e size v n xs:=by
 refine ⟨h.1,?_⟩;rcases h.2 with h0 | ⟨g,cap,cur,rfl,h1,h2,h3⟩
 ·exact .inl h0
 ·exact .inr ⟨g,cap,cur,rfl,h1,(hb g rfl).trans h2,h3⟩
theorem dV {w:World} {base size n g:Nat} {e:TypeId} {v:Value} {xs:List Value} (h:w.ownsRow base e size v n xs) (hg:v.ownBlock=some g):∃ cur,w.heap[g]?=some (.cells cur e (0,0)):=by
 rcases h.2 with ⟨rfl,-⟩ | ⟨g',cap,cur',rfl,-,hg',-⟩
 ·simp [Value.ownBlock] at hg
 ·have e1:g'=g:=by simpa [Value.ownBlock] using hg
  exact ⟨cur',by rw [← e1]; exact hg'⟩
theorem rA {w:World} {bp np:Nat} {Mp:K3→Option Value} {E:List (K3 × Tp)} (h:G.Grp oI prog 216 73 6 Tp.row w bp np Mp E) {k:K3} {v:Value} (hk:Mp k=some v):∃ n xs,w.ownsRow (bp + 1) 73 6 v n xs:=by
 rcases h.row k with ⟨e,-⟩ | ⟨v',e,ho⟩
 ·rw [e] at hk; cases hk
 ·rw [e] at hk; injection hk with hk; subst hk; exact ⟨_,_,ho⟩
theorem Et {w:World} {bp np g:Nat} {Mp:K3→Option Value} {E:List (K3 × Tp)} {e:TypeId} {cur:Array Value} (h:G.Grp oI prog 216 73 6 Tp.row w bp np Mp E) (hc:w.heap[g]?=some (.cells cur e (0,0))) (hne:(73:TypeId) ≠ e):G.FreeB Mp g:=fun k v hk hg=>by
 obtain ⟨n,xs,ho⟩:=rA h hk;exact hne (dC ho hg hc)
theorem rC {w w':World} {bp np:Nat} {Mp:K3→Option Value} {E:List (K3 × Tp)} (h:G.Grp oI prog 216 73 6 Tp.row w bp np Mp E) (hm:w'.heap[bp]?=w.heap[bp]?) (hr:∀ k v g,Mp k=some v→v.ownBlock=some g→w'.heap[g]?=w.heap[g]?):G.Grp oI prog 216 73 6 Tp.row w' bp np Mp E where
 map:=h.map.of_block hm
 row k:=by
  rcases h.row k with e | ⟨v,e,ho⟩
  ·exact .inl e
  ·exact .inr ⟨v,e,bz ho fun g hg=>hr k v g e hg⟩
 apart:=h.apart
section
variable {w w':World} {D br bp:Nat} {tab:Value} {n1:Int} {E:List (K3 × Tp)} {xo xu:List Al} {np:Nat} {Mp:K3→Option Value} {vo vu:Value}
theorem DatT.below (h:DatT w D br bp tab n1 E xo xu np Mp vo vu) (hb:Below w.heap.size w w'):DatT w' D br bp tab n1 E xo xu np Mp vo vu where
 gt:=h.gt
 lt:=RZ h.lt hb.size
 kind:=by obtain ⟨cur,e⟩:=h.kind; exact ⟨cur,(hb.block D h.lt).trans e⟩
 c0:=(hb.cell (p:=⟨D,0,none⟩) h.lt).trans h.c0
 c1:=(hb.cell (p:=⟨D,1,none⟩) h.lt).trans h.c1
 c2:=(hb.cell (p:=⟨D,2,none⟩) h.lt).trans h.c2
 c3:=(hb.cell (p:=⟨D,3,none⟩) h.lt).trans h.c3
 c4:=(hb.cell (p:=⟨D,4,none⟩) h.lt).trans h.c4
 c5:=(hb.cell (p:=⟨D,5,none⟩) h.lt).trans h.c5
 told:=h.told.below hb
 objs:=aM h.objs hb
 users:=aM h.users hb
 apart:=h.apart
theorem DatT.tell (h:DatT w D br bp tab n1 E xo xu np Mp vo vu) {Mp':K3→Option Value} {E':List (K3 × Tp)} {np':Nat} (hg:G.Grp oI prog 216 73 6 Tp.row w' bp np' Mp' E') (hs:G.Stl w Mp w' Mp' bp):DatT w' D br bp tab n1 E' xo xu np' Mp' vo vu:=by
 have hD:w'.heap[D]?=w.heap[D]?:=by
  obtain ⟨cur,e⟩:=h.kind;exact hs.block D h.lt (by have:=h.gt; omega) (Et h.told e (by decide))
 have hc:∀ o,w'.cell? ⟨D,o,none⟩=w.cell? ⟨D,o,none⟩:=fun o=>SB (w:=w) (a:=⟨D,o,none⟩) hD;have hO:∀ {v:Value} {n:Nat} {xs:List Value},w.ownsRow (bp + 1) 40 2 v n xs→w'.ownsRow (bp + 1) 40 2 v n xs:=fun {v n xs} ho=>bz ho fun g hg=>by
  obtain ⟨cur,e⟩:=dV ho hg;have:=ho.lt g hg;exact hs.block g this.2 (by omega) (Et h.told e (by decide))
 exact ⟨h.gt,RZ h.lt hs.size,by obtain ⟨cur,e⟩:=h.kind; exact ⟨cur,hD.trans e⟩,(hc _).trans h.c0,(hc _).trans h.c1,(hc _).trans h.c2,(hc _).trans h.c3,(hc _).trans h.c4,(hc _).trans h.c5,hg,hO h.objs,hO h.users,h.apart⟩
theorem DatT.newO (h:DatT w D br bp tab n1 E xo xu np Mp vo vu) {Wj:Value} {xo':List Al} (ho:w'.ownsRow (bp + 1) 40 2 Wj xo'.length (pairs xo')) (ha:Aside w vo w' Wj):DatT (w'.setCell ⟨D,4,none⟩ Wj) D br bp tab n1 E xo' xu np Mp Wj vu:=by
 obtain ⟨cur,hk⟩:=h.kind;have Wl:vo.ownBlock ≠ some D:=fun e=>absurd (dC h.objs e hk) (by decide);have hD:w'.heap[D]?=w.heap[D]?:=ha.block D h.lt Wl;have hc:∀ o,w'.cell? ⟨D,o,none⟩=w.cell? ⟨D,o,none⟩:=fun o=>SB (w:=w) (a:=⟨D,o,none⟩) hD;have hc2:∀ o,o ≠ 4→(w'.setCell ⟨D,4,none⟩ Wj).cell? ⟨D,o,none⟩=w.cell? ⟨D,o,none⟩:=fun o ne=>(jL (by omega)).trans (hc o);have hDn:Wj.ownBlock ≠ some D:=ha.apart h.lt Wl;have hne:∀ g,g ≠ D→(w'.setCell ⟨D,4,none⟩ Wj).heap[g]?=w'.heap[g]?:=fun g e=>heap_setCell_other w' ⟨D,4,none⟩ g Wj e;have hbp:bp < w.heap.size:=by have:=h.gt; have:=h.lt; omega
 have hrow:∀ k v g,Mp k=some v→v.ownBlock=some g→(w'.setCell ⟨D,4,none⟩ Wj).heap[g]?=w.heap[g]?:=fun k v g hm hg=>by
  obtain ⟨n,xs,hr⟩:=rA h.told hm;obtain ⟨cr,er⟩:=dV hr hg;rw [hne g (fun e=>absurd (dC hr (e ▸ hg) hk) (by decide))];exact ha.block g (hr.lt g hg).2 (fun e=>absurd (dC h.objs e er) (by decide))
 refine ⟨h.gt,by simpa using RZ h.lt ha.size,⟨_,heap_setCell_same w' D 4 cur _ Wj (hD.trans hk)⟩,(hc2 0 (by omega)).trans h.c0,(hc2 1 (by omega)).trans h.c1,(hc2 2 (by omega)).trans h.c2,(hc2 3 (by omega)).trans h.c3,Me ((hc 4).trans h.c4),(hc2 5 (by omega)).trans h.c5,rC h.told ?_ hrow,bz ho fun g hg=>hne g fun e=>hDn (e ▸ hg),bz h.users fun g hg=>?_,fun g hg hu=>?_⟩
 ·rw [hne bp (by have:=h.gt; omega)];exact ha.block bp hbp fun e=>by have:=(h.objs.lt bp e).1; omega
 ·rw [hne g (fun e=>absurd (dC h.users (e ▸ hg) hk) (by decide))];exact ha.block g (h.users.lt g hg).2 fun e=>h.apart g e hg
 ·rcases ha.own with e | ⟨g',e,hg'⟩
  ·exact h.apart g (e ▸ hg) hu
  ·rw [hg] at e; injection e with e;have:=(h.users.lt g hu).2;omega
theorem DatT.newU (h:DatT w D br bp tab n1 E xo xu np Mp vo vu) {Wm:Value} {xu':List Al} (ho:w'.ownsRow (bp + 1) 40 2 Wm xu'.length (pairs xu')) (ha:Aside w vu w' Wm):DatT (w'.setCell ⟨D,5,none⟩ Wm) D br bp tab n1 E xo xu' np Mp vo Wm:=by
 obtain ⟨cur,hk⟩:=h.kind;have Wl:vu.ownBlock ≠ some D:=fun e=>absurd (dC h.users e hk) (by decide);have hD:w'.heap[D]?=w.heap[D]?:=ha.block D h.lt Wl;have hc:∀ o,w'.cell? ⟨D,o,none⟩=w.cell? ⟨D,o,none⟩:=fun o=>SB (w:=w) (a:=⟨D,o,none⟩) hD;have hc2:∀ o,o ≠ 5→(w'.setCell ⟨D,5,none⟩ Wm).cell? ⟨D,o,none⟩=w.cell? ⟨D,o,none⟩:=fun o ne=>(jL (by omega)).trans (hc o);have hDn:Wm.ownBlock ≠ some D:=ha.apart h.lt Wl;have hne:∀ g,g ≠ D→(w'.setCell ⟨D,5,none⟩ Wm).heap[g]?=w'.heap[g]?:=fun g e=>heap_setCell_other w' ⟨D,5,none⟩ g Wm e;have hbp:bp < w.heap.size:=by have:=h.gt; have:=h.lt; omega
 have hrow:∀ k v g,Mp k=some v→v.ownBlock=some g→(w'.setCell ⟨D,5,none⟩ Wm).heap[g]?=w.heap[g]?:=fun k v g hm hg=>by
  obtain ⟨n,xs,hr⟩:=rA h.told hm;obtain ⟨cr,er⟩:=dV hr hg;rw [hne g (fun e=>absurd (dC hr (e ▸ hg) hk) (by decide))];exact ha.block g (hr.lt g hg).2 (fun e=>absurd (dC h.users e er) (by decide))
 refine ⟨h.gt,by simpa using RZ h.lt ha.size,⟨_,heap_setCell_same w' D 5 cur _ Wm (hD.trans hk)⟩,(hc2 0 (by omega)).trans h.c0,(hc2 1 (by omega)).trans h.c1,(hc2 2 (by omega)).trans h.c2,(hc2 3 (by omega)).trans h.c3,(hc2 4 (by omega)).trans h.c4,Me ((hc 5).trans h.c5),rC h.told ?_ hrow,bz h.objs fun g hg=>?_,bz ho fun g hg=>hne g fun e=>hDn (e ▸ hg),fun g hg hu=>?_⟩
 ·rw [hne bp (by have:=h.gt; omega)];exact ha.block bp hbp fun e=>by have:=(h.users.lt bp e).1; omega
 ·rw [hne g (fun e=>absurd (dC h.objs (e ▸ hg) hk) (by decide))];exact ha.block g (h.objs.lt g hg).2 fun e=>h.apart g hg e
 ·rcases ha.own with e | ⟨g',e,hg'⟩
  ·exact h.apart g hg (e ▸ hu)
  ·rw [hu] at e; injection e with e;have:=(h.objs.lt g hg).2;omega
end
end Go.Proofs.YtdaoiceeidoehaaGreat
