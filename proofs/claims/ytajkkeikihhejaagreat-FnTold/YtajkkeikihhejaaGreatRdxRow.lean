/- Contract of the document's reader: a row of items. -/
import Derived.Test.YtajkkeikihhejaaGreatSq
import Derived.Test.YtajkkeikihhejaaGreatRdxThis
import Derived.Test.YtajkkeikihhejaaGreatJ10
open Go.Proofs.Tryz
set_option maxHeartbeats 80000000
namespace Go.Proofs.YtajkkeikihhejaaGreat
set_option maxRecDepth 100000
open Go.ChangeShapes Go.WideShapes Go.ChangeAt Go.RowKit
open Pl
theorem uE (k:Int):gG k=aW k:=by
 unfold gG aW;rfl
def gQ (s:ByteArray) (p:Nat) (j:Nat):Int :=
 if 4 < j∧dX s (aW 4) p=true then 4 else if 5 < j∧dX s (aW 5) p=true then 5 else if 6 < j∧dX s (aW 6) p=true then 6 else 0
theorem NE (s:bH) (p:Nat):gQ s p 4=0:=by simp [gQ]
theorem NF (s:bH) (p:Nat):gQ s p 7=dE s p:=by simp [gQ,dE]
theorem FI {s:ByteArray} {p j:Nat} (h4:4≤j) (h7:j < 7) (h:gQ s p j ≠ 0):gQ s p (j + 1)=gQ s p j:=by
 have hj:j=4 ∨ j=5 ∨ j=6:=by omega
 unfold gQ at h ⊢;rcases hj with rfl | rfl | rfl <;> cases h1:dX s (aW 4) p <;> cases h2:dX s (aW 5) p <;> cases h3:dX s (aW 6) p <;> simp_all
theorem Ct {s:ByteArray} {p j:Nat} (h4:4≤j) (h7:j < 7) (h:gQ s p j=0) (hl:dX s (aW j) p=false):gQ s p (j + 1)=0:=by
 have hj:j=4 ∨ j=5 ∨ j=6:=by omega
 unfold gQ at h ⊢;rcases hj with rfl | rfl | rfl <;> cases h1:dX s (aW 4) p <;> cases h2:dX s (aW 5) p <;> cases h3:dX s (aW 6) p <;> simp_all
theorem Ip {s:ByteArray} {p j:Nat} (h4:4≤j) (h7:j < 7) (h:gQ s p j=0) (hl:dX s (aW j) p=true):gQ s p (j + 1)=(j:Int):=by
 have hj:j=4 ∨ j=5 ∨ j=6:=by omega
 unfold gQ at h ⊢;rcases hj with rfl | rfl | rfl <;> cases h1:dX s (aW 4) p <;> cases h2:dX s (aW 5) p <;> cases h3:dX s (aW 6) p <;> simp_all
theorem l8 (k:Int):(aW k).size=3:=by
 unfold aW;split
 ·rfl
 split <;> rfl
theorem zn {s:ByteArray} {p:Nat} (k:Int) (h:p + 3≤s.size):dX s (aW k) p=((s.extract p (p + 3)).toList == (gG k).toList):=by
 unfold dX;rw [l8,uE];simp [h]
theorem K9 {s:ByteArray} {p:Nat} (k:Int) (h:¬ p + 3≤s.size):dX s (aW k) p=false:=by
 unfold dX;rw [l8];simp [h]
def rowP (s:ByteArray) (it:RS→Int × RS) (x:Int × RS):Int × RS :=
 if dE s x.2.p=0 ∨ x.2.bad=true then x
 else (((ib s it (dE s x.2.p) (s.size + 1) [x.1] x.2).2.out.length:Int),rV ⟨dE s x.2.p,[],⟨#[]⟩,⟨#[]⟩,(ib s it (dE s x.2.p) (s.size + 1) [x.1] x.2).1⟩ (ib s it (dE s x.2.p) (s.size + 1) [x.1] x.2).2)
theorem zo {s:ByteArray} {it:RS→Int × RS} {x:Int × RS} (h:dE s x.2.p=0 ∨ x.2.bad=true):rowP s it x=x:=if_pos h
theorem La {s:ByteArray} {it:RS→Int × RS} {x:Int × RS} (h:¬ (dE s x.2.p=0 ∨ x.2.bad=true)) {zs:List Int} {st:RS} (hk:ib s it (dE s x.2.p) (s.size + 1) [x.1] x.2=(zs,st)):rowP s it x=((st.out.length:Int),rV ⟨dE s x.2.p,[],⟨#[]⟩,⟨#[]⟩,zs⟩ st):=by
 unfold rowP;rw [if_neg h,hk]
theorem NG {s:ByteArray} {it:RS→Int × RS} {k:Int} {n:Nat} {zs:List Int} {st:RS} (h:mG s (aW k) st.p st.bad=false):ib s it k n zs st=(zs,st):=by
 have e:kZ s (aW k) st=false:=h;cases n with
 | zero=>rfl
 | succ n=>unfold ib; rw [e]; rfl
theorem Lb {s:ByteArray} {it:RS→Int × RS} {k:Int} {n:Nat} {zs:List Int} {st:RS} (h:mG s (aW k) st.p st.bad=true):ib s it k (n + 1) zs st=ib s it k n (zs ++ [(it (ko (aW k) st)).1]) (it (ko (aW k) st)).2:=by
 have e:kZ s (aW k) st=true:=h
 conv=>lhs; unfold ib
 rw [e]; rfl
theorem RdC.heap {w w':af} {R:Nat} {s:ByteArray} {p:Nat} {bad:Bool} {v:Value} (h:RdC w R s p bad v) (hs:w.heap.size≤w'.heap.size) (hh:w'.heap[R]?=w.heap[R]?):RdC w' R s p bad v :=
 ⟨TP h.lt hs,(Ul (w:=w) (a:=⟨R,0,none⟩) hh).trans h.c0,(Ul (w:=w) (a:=⟨R,1,none⟩) hh).trans h.c1,(Ul (w:=w) (a:=⟨R,2,none⟩) hh).trans h.c2,(Ul (w:=w) (a:=⟨R,3,none⟩) hh).trans h.c3,df h.fr hh⟩
theorem RdF.heap {w w':af} {R:Nat} {s:ByteArray} {st:RS} {base:Nat} {v:Value} {qs:List ER} (h:RdF w R s st base v qs) (hs:w.heap.size≤w'.heap.size) (h1:w'.heap[R]?=w.heap[R]?) (h2:∀ g,v.ownBlock=some g→w'.heap[g]?=w.heap[g]?) (h3:∀ q ∈ qs,∀ g,oJ q g→w'.heap[g]?=w.heap[g]?):RdF w' R s st base v qs where
 rd:=h.rd.heap hs h1
 own:=jr h.own h2
 out:=h.out
 zA:=h.zA
 zK:=h.zK
 ok q hq:=rf (h.ok q hq) hs (h.zA q hq) (h.zK q hq) (h3 q hq)
 lie q hq g hg:=by
  obtain ⟨a1,a2,a3,a4⟩:=h.lie q hq g hg;exact ⟨a1,TP a2 hs,df a3 (h3 q hq g hg),a4⟩
 one:=h.one
 two:=h.two
 cA:=h.cA
 cK q hq:=(h.cK q hq).heap (h.zK q hq) (h3 q hq)
structure KLr (w wr:World) (R:Nat) (s:ByteArray) (st:RS) (base:Nat) (v v':Value) (qs ns:List ER) (zs:List Int) (vK:Value):Prop where
 rd:RdF wr R s st base v' (qs ++ ns)
 went:Went R v w v' wr
 new:∀ q ∈ ns,∀ g,oJ q g→w.heap.size≤g
 own:wr.ownsRow w.heap.size 2 1 vK zs.length (ints zs)
 far:∀ g,vK.ownBlock=some g→v'.ownBlock ≠ some g∧∀ q ∈ qs ++ ns,¬ oJ q g
 ne:zs ≠ []
theorem KLr.is {w wr w':af} {R:Nat} {s:ByteArray} {st st':RS} {base:Nat} {v v':Value} {qs ns:List ER} {zs:List Int} {vK:Value} (h:KLr w wr R s st base v v' qs ns zs vK) (hR:R < w.heap.size) (hg:wr.grownBy w' (some R)) (hF:RdF w' R s st' base v' (qs ++ ns)):KLr w w' R s st' base v v' qs ns zs vK :=
 ⟨hF,h.went.trans ((Onl.of_grown hg).any v'),h.new,h.own.kept hg (.inr (fun e=>by have:=(h.own.lt R e).1; omega)),h.far,h.ne⟩
theorem KLr.more {w wr w':af} {R:Nat} {s:ByteArray} {st st':RS} {base:Nat} {v v' v2:Value} {qs ns ms:List ER} {zs:List Int} {vK:Value} (h:KLr w wr R s st base v v' qs ns zs vK) (hR:R < w.heap.size) (hF:RdF w' R s st' base v2 ((qs ++ ns) ++ ms)) (hW:Went R v' wr v2 w') (hm:∀ q ∈ ms,∀ g,oJ q g→wr.heap.size≤g):KLr w w' R s st' base v v2 qs (ns ++ ms) zs vK:=by
 have hl:∀ g,vK.ownBlock=some g→w.heap.size≤g∧g < wr.heap.size:=fun g hg=>h.own.lt g hg;refine ⟨by rw [← List.append_assoc]; exact hF,h.went.trans hW,fun q hq g hg=>?_,jr h.own fun g hg=>hW.onl.block g (hl g hg).2 (by have:=(hl g hg).1; omega) (h.far g hg).1,fun g hg=>⟨hW.apart (hl g hg).2 (h.far g hg).1,fun q hq hi=>?_⟩,h.ne⟩
 ·rcases Uc.1 hq with h1 | h1
  ·exact h.new q h1 g hg
  exact TZ h.went.onl.size (hm q h1 g hg)
 rw [← List.append_assoc] at hq;rcases Uc.1 hq with h1 | h1
 ·exact (h.far g hg).2 q h1 hi
 have:=hm q h1 g hi; have:=(hl g hg).2; omega
theorem NH (zs:List Int) (z:Int):ints (zs ++ [z])=ints zs ++ [.int .i64 z]:=by simp [ints]
theorem KLr.app {w wr w':af} {R:Nat} {s:ByteArray} {st:RS} {base:Nat} {v v':Value} {qs ns:List ER} {zs:List Int} {vK vN:Value} (h:KLr w wr R s st base v v' qs ns zs vK) (hR:R < w.heap.size) (z:Int) (o:Obj) (hown:w'.ownsRow w.heap.size 2 1 vN (zs.length + 1) (ints zs ++ [.int .i64 z])) (hg:(wr.alloc o).grownBy w' vK.ownBlock) (hat:vN.ownBlock=vK.ownBlock ∨ vN.ownBlock=some (wr.alloc o).heap.size):KLr w w' R s st base v v' qs ns (zs ++ [z]) vN:=by
 have hg0:=World.grownBy_alloc wr o none;have keep:∀ k,k < wr.heap.size→vK.ownBlock ≠ some k→w'.heap[k]?=wr.heap[k]?:=fun k hk hne=>(hg.block k (TP hk hg0.size) (Ne.symm hne)).trans (hg0.block k hk (by simp));have hl:∀ g,vK.ownBlock=some g→w.heap.size≤g∧g < wr.heap.size:=fun g hg=>h.own.lt g hg;have hs:wr.heap.size≤w'.heap.size:=TZ hg0.size hg.size;refine ⟨h.rd.heap hs (keep R h.rd.rd.lt (fun e=>by have:=(hl R e).1; omega)) (fun g hg=>keep g (h.rd.own.lt g hg).2 (fun e=>(h.far g e).1 hg)) (fun q hq g hi=>keep g (h.rd.lie q hq g hi).2.1 (fun e=>(h.far g e).2 q hq hi)),?_,h.new,by rw [NH,T9,List.length_singleton]; exact hown,fun g hgn=>?_,by simp⟩
 ·refine ⟨⟨hg.os.trans (hg0.os.trans h.went.onl.os),hg.tape.trans (hg0.tape.trans h.went.onl.tape),hg.output.trans (hg0.output.trans h.went.onl.output),TZ h.went.onl.size hs,fun k hk h1 h2=>(keep k (TP hk h.went.onl.size) (fun e=>by have:=(hl k e).1; omega)).trans (h.went.onl.block k hk h1 h2)⟩,h.went.own⟩
 rcases hat with e | e
 ·exact h.far g (by rw [← e]; exact hgn)
 rw [e] at hgn;injection hgn with hgn;have hsz:wr.heap.size≤g:=by rw [← hgn]; exact hg0.size
 exact ⟨fun e2=>by have:=(h.rd.own.lt g e2).2; omega,fun q hq hi=>by have:=(h.rd.lie q hq g hi).2.1; omega⟩
theorem KLr.node {w wr:af} {R:Nat} {s:ByteArray} {st:RS} {base:Nat} {v v':Value} {qs ns:List ER} {zs:List Int} {vK:Value} (h:KLr w wr R s st base v v' qs ns zs vK) (hb:base≤w.heap.size) (k:Int):∃ ad cap,vK=.slice ad zs.length cap∧NewQ base wr ⟨⟨k,[],⟨#[]⟩,⟨#[]⟩,zs⟩,none,0,ad,cap⟩∧∀ g,oJ ⟨⟨k,[],⟨#[]⟩,⟨#[]⟩,zs⟩,none,0,ad,cap⟩ g→w.heap.size≤g∧v'.ownBlock ≠ some g∧∀ q ∈ qs ++ ns,¬ oJ q g:=by
 obtain ⟨ad,cap,e,h2,h3,h4⟩:=Ro h.own rfl;have hA:∀ g,¬ bA ⟨⟨k,[],⟨#[]⟩,⟨#[]⟩,zs⟩,none,0,ad,cap⟩ g:=fun g hg=>hg.1 rfl;have hK:∀ g,oJ ⟨⟨k,[],⟨#[]⟩,⟨#[]⟩,zs⟩,none,0,ad,cap⟩ g→(w.heap.size≤g∧g < wr.heap.size∧gY wr g)∧vK.ownBlock=some g:=by
  rintro g (hg | hg)
  ·exact absurd hg (hA g)
  exact ⟨h4 g hg.1 hg.2,by rw [e,show ad=some ⟨g,0,none⟩ from hg.2]; rfl⟩
 refine ⟨ad,cap,e,⟨fun h=>absurd rfl h,h3,⟨.inl rfl,h2⟩,fun g hg=>⟨TZ hb (hK g hg).1.1,(hK g hg).1.2⟩,fun g hg=>absurd hg (hA g),TW _⟩,fun g hg=>⟨(hK g hg).1.1,h.far g (hK g hg).2⟩⟩
theorem KLr.kid {w wr:af} {R:Nat} {s:ByteArray} {st:RS} {base:Nat} {v v':Value} {qs ns:List ER} {zs:List Int} {ad:Option Addr} {cap:Nat} (h:KLr w wr R s st base v v' qs ns zs (.slice ad zs.length cap)) (hb:base≤w.heap.size) (k:Int):BC wr base ⟨⟨k,[],⟨#[]⟩,⟨#[]⟩,zs⟩,none,0,ad,cap⟩:=BC.mono (base:=w.heap.size) (.inr ⟨h.ne,h.own⟩) hb
theorem NI (w:af) (z:Int) (g:Nat) (hg:w.heap.size=g):∀ j u,[Value.int .i64 z][j]?=some u→(w.alloc (.cells #[.int .i64 z] 2)).cell? ((⟨g,0,none⟩:Addr).add j)=some u:=by
 intro j u hu;subst hg;rw [show (⟨w.heap.size,0,none⟩:Addr).add j=⟨w.heap.size,0 + j,none⟩ by simp [Addr.add]; omega,Um];have:=World.cell?_alloc_mark w #[.int .i64 z] 2 (0,0) j;rw [this];simpa using hu
theorem Qi (R:Nat) (s:bH) (st:RS) (base:Nat) (v:Value) (qs:List ER) (w:af) (h:RdF w R s st base v qs) (hR:R < base) (hB:base≤w.heap.size) (hs:s.size≤1000) (x:Int × RS) (hx:x.2.p≤s.size)
  (Zl:Calls prog 234 #[.pointer (some ⟨R,0,none⟩)] w (uC R s base v qs w x))
  (it:RS→Int × RS) (hlen:x.2.out.length + (s.size - x.2.p)≤5001)
  (hit:∀ (st':RS) (v':Value) (qs':List ER) (w':World),RdF w' R s st' base v' qs'→base≤w'.heap.size→x.2.p + 3≤st'.p→st'.p≤s.size→st'.out.length + (s.size - st'.p)≤5000→Calls prog 234 #[.pointer (some ⟨R,0,none⟩)] w' (uC R s base v' qs' w' (it st')))
  (hmono:∀ st':RS,x.2.p + 3≤st'.p→st'.p≤s.size→st'.p≤(it st').2.p∧(it st').2.p≤s.size∧(it st').2.out.length + st'.p≤st'.out.length + 1 + (it st').2.p) :
  Calls prog 219 #[.pointer (some ⟨R,0,none⟩)] w (uC R s base v qs w (rowP s it x)):=by
 obtain ⟨iI,hiI,zI0,zI1,zI2⟩:=info_parts (P:=prog) (e:=2) (z:=.int .i64 0) (size:=1) (bytes:=8) (by kernel_rfl);have HII:Hid (prog.info? 2=some iI∧iI.zero=some (.int .i64 0)∧iI.size=1∧iI.bytes=8):=⟨hiI,zI0,zI1,zI2⟩;have HLEN:=ai hlen;have HITM:=ai hit;have HMONO:=ai hmono;clear hiI zI0 zI1 zI2 hlen hit hmono;have H:=ai h;have HX:=ai hx;have HIT:=ai Zl;clear h hx Zl;go_enter func219,ntmps219;go_wp2_with fail;refine HIT.out.mono ?_;rintro e w1 ⟨v1,ns,rfl,hF1,hW1,hns⟩;have Vz:=ai hF1;have HW1:=ai hW1;have HNS:=ai hns;clear hF1 hW1 hns HIT;go_wp2_with fail;go_loopw [4,5] (fun kd k wr=>∃ (j nn:Nat),4≤j∧j≤7∧k=.int .i64 j∧kd=.int .i64 (gQ s x.2.p j)∧Hid (wr=w1.drewN nn)) (fun _ k _=>7 - (intOf k).toNat);case atStart=>exact ⟨4,0,by omega,by omega,rfl,by rw [NE],rfl⟩
 obtain ⟨j,nn,hj4,hj7,rfl,rfl,WP⟩:=hrel;have hrd:RdC wr R s x.2.p x.2.bad v1:=by rw [WP.out]; exact Vz.out.rd.drewN nn
 have Zc:=ai hrd;have c0:=Zc.out.c0;have c1:=Zc.out.c1;have c2:=Zc.out.c2;clear hrd;by_cases hlt:j < 7
 ·have hle:decide ((j:Int)≤6)=true:=by simp; omega
  have hle2:(j:Int)≤6:=by omega
  have hwr:IntKind.i64.wrap ((x.2.p:Int) + 3)=(x.2.p:Int) + 3:=by have:=HX.out; simp [IntKind.wrap,IntKind.bits,IntKind.signed]; omega
  by_cases hK:gQ s x.2.p j=0
  ·have hK0:(gQ s x.2.p j == 0)=true:=by simp [hK]
   by_cases Xx:x.2.p + 3≤s.size
   ·have hd:decide ((x.2.p:Int) + 3≤(s.size:Int))=true:=by simp; omega
    have hd2:(x.2.p:Int) + 3≤(s.size:Int):=by omega
    have hnn:(0:Int)≤(x.2.p:Int):=by omega
    have hp1:(x.2.p:Int)≤(x.2.p:Int) + 3:=by omega
    rw [hK];cases he:(s.extract x.2.p (x.2.p + 3)).toList == (gG j).toList
    case' true =>
     have EQ:=ai (Ip hj4 hlt hK (by rw [zn _ Xx]; exact he))
    case' false =>
     have EQ:=ai (Ct hj4 hlt hK (by rw [zn _ Xx]; exact he))
    all_goals
     clear hK hK0;go_wp2_with fail;go_quiet ((go_at_call 235; exact Calls.quiet_of_same (l7 _ _)));go_wp2;go_roundw;case rel=>exact ⟨j + 1,nn + nq,by omega,by omega,by go_num,by rw [EQ.out],by show _=_; rw [WP.out,World.drewN_drewN]⟩
     simp [intOf] <;> omega
   have hd:decide ((x.2.p:Int) + 3≤(s.size:Int))=false:=by simp; omega
   have EQ:=ai (Ct hj4 hlt hK (K9 _ Xx));rw [hK];clear hK hK0;go_wp2_with fail;go_quiet ((go_at_call 235; exact Calls.quiet_of_same (l7 _ _)));go_wp2;go_roundw;case rel=>exact ⟨j + 1,nn + nq,by omega,by omega,by go_num,by rw [EQ.out],by show _=_; rw [WP.out,World.drewN_drewN]⟩
   simp [intOf] <;> omega
  have hK0:(gQ s x.2.p j == 0)=false:=by simp [hK]
  have EQ:=ai (FI hj4 hlt hK);clear hK;go_wp2_with fail;go_quiet ((go_at_call 235; exact Calls.quiet_of_same (l7 _ _)));go_wp2;go_roundw;case rel=>exact ⟨j + 1,nn + nq,by omega,by omega,by go_num,by rw [EQ.out],by show _=_; rw [WP.out,World.drewN_drewN]⟩
  simp [intOf] <;> omega
 obtain rfl:j=7:=by omega
 rw [NF,show ((7:Nat):Int)=(7:Int) from rfl];have hle:decide ((7:Int)≤6)=false:=by decide
 obtain ⟨kd,hkd⟩:∃ kd,kd=dE s x.2.p:=⟨_,rfl⟩;have HKD:=ai hkd;rw [← hkd];clear hkd;by_cases hk:kd=0
 ·have hk0:(kd == 0)=true:=by simp [hk]
  have EQ:=ai (zo (it:=it) (.inl (HKD.out.symm.trans hk)));subst hk;have HF:=ai (Vz.out.heap (w':=wr) (by rw [WP.out]; exact TS _) (by rw [WP.out]; rfl) (fun g _=>by rw [WP.out]; rfl) (fun q _ g _=>by rw [WP.out]; rfl));have HW:Hid (Went R v w v1 wr):=by rw [WP.out]; exact ⟨⟨HW1.out.onl.os,HW1.out.onl.tape,HW1.out.onl.output,HW1.out.onl.size,HW1.out.onl.block⟩,HW1.out.own⟩
  go_wp2;exact bodyPost_ret (v:=.int .i64 x.1) (by simp [results,Tryz.results219,go_sem]) rfl (by rw [EQ.out]; exact ⟨v1,ns,rfl,HF.out,HW.out,HNS.out⟩)
 have hk0:(kd == 0)=false:=by simp [hk]
 cases hb:x.2.bad;case true=>
  have EQ:=ai (zo (it:=it) (x:=x) (s:=s) (.inr hb));rw [hb] at c2;have HF:=ai (Vz.out.heap (w':=wr) (by rw [WP.out]; exact TS _) (by rw [WP.out]; rfl) (fun g _=>by rw [WP.out]; rfl) (fun q _ g _=>by rw [WP.out]; rfl));have HW:Hid (Went R v w v1 wr):=by rw [WP.out]; exact ⟨⟨HW1.out.onl.os,HW1.out.onl.tape,HW1.out.onl.output,HW1.out.onl.size,HW1.out.onl.block⟩,HW1.out.own⟩
  go_wp2;exact bodyPost_ret (v:=.int .i64 x.1) (by simp [results,Tryz.results219,go_sem]) rfl (by rw [EQ.out]; exact ⟨v1,ns,rfl,HF.out,HW.out,HNS.out⟩)
 rw [hb] at c2;have Wz:Hid (¬ (dE s x.2.p=0 ∨ x.2.bad=true)):=by
  rintro (e | e)
  ·exact hk (HKD.out.trans e)
  rw [hb] at e; cases e
 have HF:=ai (Vz.out.heap (w':=wr) (by rw [WP.out]; exact TS _) (by rw [WP.out]; rfl) (fun g _=>by rw [WP.out]; rfl) (fun q _ g _=>by rw [WP.out]; rfl));have HW:Hid (Went R v w v1 wr):=by rw [WP.out]; exact ⟨⟨HW1.out.onl.os,HW1.out.onl.tape,HW1.out.onl.output,HW1.out.onl.size,HW1.out.onl.block⟩,HW1.out.own⟩
 have HWB:Hid (R < w.heap.size):=H.out.rd.lt;have HKL0:Hid (KLr w (wr.alloc (.cells #[.int .i64 x.1] 2)) R s x.2 base v v1 qs ns [x.1] (.slice (some ⟨wr.heap.size,0,none⟩) 1 1)):=by
  have hg0:=World.grownBy_alloc wr (.cells #[.int .i64 x.1] 2) none;refine ⟨HF.out.heap hg0.size (hg0.block R HF.out.rd.lt (by simp)) (fun g hg=>hg0.block g (HF.out.own.lt g hg).2 (by simp)) (fun q hq g hi=>hg0.block g (HF.out.lie q hq g hi).2.1 (by simp)),HW.out.trans ((Onl.of_below ((TT _ _).alloc (TS _) _)).any v1),HNS.out,World.ownsRow_lit wr #[.int .i64 x.1] 1 HW.out.onl.size (by unfold maxLen; omega) (by simp),fun g hg=>?_,by simp⟩;simp [Value.ownBlock] at hg;subst hg;exact ⟨fun e=>by have:=(HF.out.own.lt _ e).2; omega,fun q hq hi=>by have:=(HF.out.lie q hq _ hi).2.1; omega⟩
 clear HF HW Zc WP Vz HW1 HNS;go_wp2_with fail;clear c0 c1 c2;go_loopw [6] (fun vK wq=>∃ (n:Nat) (zs:List Int) (st':RS) (v':Value) (ms:List ER),Hid (st'.p≤s.size∧x.2.p≤st'.p∧s.size - st'.p < n∧zs.length≤st'.p + 1∧st'.out.length + (s.size - st'.p)≤5001)∧Hid (ib s it kd n zs st'=ib s it kd (s.size + 1) [x.1] x.2)∧Hid (KLr w wq R s st' base v v' qs ms zs vK)) (fun _ wq=>s.size - wat R wq);case atStart=>exact ⟨s.size + 1,[x.1],x.2,v1,ns,⟨HX.out,TS _,by omega,by simp,HLEN.out⟩,rfl,HKL0.out⟩
 obtain ⟨n,zs,st',v',ms,HB,HQ,Vo⟩:=hrel;clear HKL0;go_wp2_with fail;refine (l7 _ _).mono ?_;rintro e w' ⟨rfl,rfl⟩;go_wp2_with fail;refine (jS R s (gG kd) st'.p st'.bad v' _ Vo.out.rd.rd hs HB.out.1 (by simp [lX])).mono ?_;rintro e w5 ⟨rfl,Y3,hg5⟩;cases hc:mG s (gG kd) st'.p st'.bad;case false=>
  have Y5:=ai (Vo.out.is HWB.out hg5 (Vo.out.rd.is_no hR hc Y3 hg5));rw [uE] at hc;have EQ:=ai (La (zs:=zs) (st:=st') Wz.out (by rw [← HKD.out]; exact HQ.out.symm.trans (NG hc)));obtain ⟨ad,cap,rfl,hnq,hin⟩:=Y5.out.node hB kd;have HNQ:=ai hnq;have ZQ:=ai hin;have Ya:(qs ++ ms).length≤100000:=by have h1:=Y5.out.rd.out; have h2:=congrArg List.length h1; simp only [ak,Uy] at h2; have:=HB.out.2.2.2.2; omega
  clear Y3 hg5 hc hnq hin Vo;go_wp2_with fail;refine (Ie R s st' base v' (qs ++ ms) ⟨⟨kd,[],⟨#[]⟩,⟨#[]⟩,zs⟩,none,0,ad,cap⟩ w5 Y5.out.rd hR (TZ hB Y5.out.went.onl.size) Ya HNQ.out (Y5.out.kid hB kd) (fun g hg=>(ZQ.out g hg).2)).mono ?_;rintro e w6 ⟨v6,rfl,hF6,Zm⟩;have Xu:=ai hF6;have HW6:=ai (Y5.out.went.trans Zm);clear hF6 Zm;have HNEW:Hid (∀ q ∈ ms ++ [(⟨⟨kd,[],⟨#[]⟩,⟨#[]⟩,zs⟩,none,0,ad,cap⟩:ER)],∀ g,oJ q g→w.heap.size≤g):=by
   intro q hq g hg;rcases Uc.1 hq with h1 | h1
   ·exact Y5.out.new q h1 g hg
   rw [Ua] at h1; subst h1; exact (ZQ.out g hg).1
  replace Xu:Hid (RdF w6 R s (rV ⟨kd,[],⟨#[]⟩,⟨#[]⟩,zs⟩ st') base v6 (qs ++ (ms ++ [(⟨⟨kd,[],⟨#[]⟩,⟨#[]⟩,zs⟩,none,0,ad,cap⟩:ER)]))):=by rw [← List.append_assoc]; exact Xu.out
  go_wp2;exact bodyPost_ret (v:=.int .i64 (st'.out.length:Int)) (by simp [results,Tryz.results219,go_sem]) rfl (by rw [EQ.out,← HKD.out]; exact ⟨v6,_,rfl,Xu.out,HW6.out,HNEW.out⟩)
 have hk5:=Vo.out.is HWB.out hg5 (Vo.out.rd.is_yes hR hc Y3 hg5);rw [uE] at hk5;have Y5:=ai hk5;have WY:Hid (st'.p + 3≤s.size):=by have:=wh hc; rw [lX] at this; exact this
 have HPL:=ai Vo.out.rd.rd.place;obtain ⟨m,hm⟩:∃ m,n=m + 1:=⟨n - 1,by have:=HB.out.2.2.1; omega⟩;subst hm;rw [uE] at hc;have EQ:=ai ((Lb (it:=it) (n:=m) (zs:=zs) hc).symm.trans HQ.out);have eP:(ko (aW kd) st').p=st'.p + 3:=by unfold ko; rw [l8]
 have eO:(ko (aW kd) st').out=st'.out:=rfl;have a1:x.2.p + 3≤(ko (aW kd) st').p:=by rw [eP]; have:=HB.out.2.1; omega
 have a2:(ko (aW kd) st').p≤s.size:=by rw [eP]; exact WY.out
 have a3:(ko (aW kd) st').out.length + (s.size - (ko (aW kd) st').p)≤5000:=by rw [eP,eO]; have:=HB.out.2.2.2.2; have:=WY.out; omega
 have hmo:=HMONO.out (ko (aW kd) st') a1 a2;rw [eP,eO] at hmo;have hcall:=HITM.out (ko (aW kd) st') v' (qs ++ ms) w5 Y5.out.rd (TZ hB Y5.out.went.onl.size) a1 a2 a3;obtain ⟨y,hy⟩:∃ y,y=it (ko (aW kd) st'):=⟨_,rfl⟩;rw [← hy] at hmo hcall EQ;have ZR:=ai hmo;have VH:=ai hcall;clear Y3 hg5 hk5 hc Vo eP eO a1 a2 a3 hmo hcall hy;go_wp2_with fail;refine VH.out.mono ?_;rintro e w6 ⟨v6,ns6,rfl,hF6,Zm,hn6⟩;have HK6:=ai (Y5.out.more HWB.out hF6 Zm hn6);clear hF6 Zm hn6 VH Y5;obtain ⟨W7,Y4⟩:∃ W7,W7=w6.alloc (.cells #[.int .i64 y.1] 2):=⟨_,rfl⟩;have WM:Hid (W7.ownsRow w.heap.size 2 1 u6 zs.length (ints zs)):=by rw [Y4]; exact HK6.out.own.alloc _
 have HN7:Hid (∀ j u,[Value.int .i64 y.1][j]?=some u→W7.cell? ((⟨w6.heap.size,0,none⟩:Addr).add j)=some u):=by rw [Y4]; exact NI w6 _ _ rfl
 have HS7:Hid (w.heap.size≤W7.heap.size):=by show _≤_; rw [Y4]; exact TZ HK6.out.went.onl.size (World.grownBy_alloc w6 _ none).size
 have HW7:=ai Y4;have hzl:zs.length≤1001:=by have:=HB.out.2.2.2.1; have:=HB.out.1; omega
 go_wp2_with (at_builtin; rw [← Y4]; clear Y4; refine wpList_append_own_at _ rfl _ _ 37 rfl w.heap.size 2 iI (.int .i64 0) 1 8 underlying37 HII.out.1 HII.out.2.1 HII.out.2.2.1 HII.out.2.2.2 rfl (by decide) u6 zs.length (ints zs) rfl WM.out ⟨w6.heap.size,0,none⟩ 1 1 [Value.int .i64 y.1] rfl rfl HN7.out (by intro u hu; simp at hu; subst hu; rfl) (by unfold maxLen; omega) (by omega) HS7.out ?_);intro vN w8 Xy hgr8 _ hat8;have HK8:Hid (KLr w w8 R s y.2 base v v6 qs (ms ++ ns6) (zs ++ [y.1]) vN):=by
  rw [HW7.out] at hgr8 hat8;exact HK6.out.app HWB.out y.1 _ Xy hgr8 hat8
 have HM:Hid (s.size - wat R w8 < s.size - wat R w'):=by
  show _ < _;rw [HK8.out.rd.rd.place,HPL.out];have:=ZR.out.1;have:=ZR.out.2.1;have:=WY.out;omega
 clear Xy hgr8 hat8 WM HN7 HS7 HW7 HK6;go_wp2;go_roundw;case rel=>exact ⟨m,zs ++ [y.1],y.2,v6,ms ++ ns6,⟨ZR.out.2.1,by have:=ZR.out.1; have:=HB.out.2.1; omega,by have:=HB.out.2.2.1; have:=ZR.out.1; have:=ZR.out.2.1; omega,by have:=HB.out.2.2.2.1; have:=ZR.out.1; rw [T9,List.length_singleton]; omega,by have:=HB.out.2.2.2.2; have:=ZR.out; omega⟩,EQ.out,HK8.out⟩
 exact HM.out
end Go.Proofs.YtajkkeikihhejaaGreat
