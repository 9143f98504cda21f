/- Contract of the document's reader: a row of items. -/
import Derived.Test.YteoflgocljfgeaaGreatDoorRdxThis
import Derived.Test.YteoflgocljfgeaaGreatDoorJ11
open Go.Proofs.Tryz
set_option maxHeartbeats 80000000
namespace Go.Proofs.YteoflgocljfgeaaGreatDoor
set_option maxRecDepth 100000
open Go.ChangeShapes Go.WideShapes Go.ChangeAt Go.RowKit
open Pl
theorem ry (k:Int):eT k=aR k:=by
 unfold eT aR;rfl
def fw (s:ByteArray) (p:Nat) (j:Nat):Int :=
 if 4 < j∧dE s (aR 4) p=true then 4 else if 5 < j∧dE s (aR 5) p=true then 5 else if 6 < j∧dE s (aR 6) p=true then 6 else 0
theorem Io (s:ByteArray) (p:Nat):fw s p 4=0:=by simp [fw]
theorem Ip (s:ByteArray) (p:Nat):fw s p 7=bV s p:=by simp [fw,bV]
theorem Bz {s:ByteArray} {p j:Nat} (h4:4≤j) (h7:j < 7) (h:fw s p j ≠ 0):fw s p (j + 1)=fw s p j:=by
 have hj:j=4 ∨ j=5 ∨ j=6:=by omega
 unfold fw at h ⊢;rcases hj with rfl | rfl | rfl <;> cases h1:dE s (aR 4) p <;> cases h2:dE s (aR 5) p <;> cases h3:dE s (aR 6) p <;> simp_all
theorem yU {s:ByteArray} {p j:Nat} (h4:4≤j) (h7:j < 7) (h:fw s p j=0) (hl:dE s (aR j) p=false):fw s p (j + 1)=0:=by
 have hj:j=4 ∨ j=5 ∨ j=6:=by omega
 unfold fw at h ⊢;rcases hj with rfl | rfl | rfl <;> cases h1:dE s (aR 4) p <;> cases h2:dE s (aR 5) p <;> cases h3:dE s (aR 6) p <;> simp_all
theorem Du {s:ByteArray} {p j:Nat} (h4:4≤j) (h7:j < 7) (h:fw s p j=0) (hl:dE s (aR j) p=true):fw s p (j + 1)=(j:Int):=by
 have hj:j=4 ∨ j=5 ∨ j=6:=by omega
 unfold fw at h ⊢;rcases hj with rfl | rfl | rfl <;> cases h1:dE s (aR 4) p <;> cases h2:dE s (aR 5) p <;> cases h3:dE s (aR 6) p <;> simp_all
theorem jX (k:Int):(aR k).size=3:=by
 unfold aR;split
 ·rfl
 ·split <;> rfl
theorem wm {s:ByteArray} {p:Nat} (k:Int) (h:p + 3≤s.size):dE s (aR k) p=((s.extract p (p + 3)).toList == (eT k).toList):=by
 unfold dE;rw [jX,ry];simp [h]
theorem FN {s:ByteArray} {p:Nat} (k:Int) (h:¬ p + 3≤s.size):dE s (aR k) p=false:=by
 unfold dE;rw [jX];simp [h]
def rowP (s:ByteArray) (it:RS→Int × RS) (x:Int × RS):Int × RS :=
 if bV s x.2.p=0 ∨ x.2.bad=true then x
 else (((fG s it (bV s x.2.p) (s.size + 1) [x.1] x.2).2.out.length:Int),pK ⟨bV s x.2.p,[],⟨#[]⟩,⟨#[]⟩,(fG s it (bV s x.2.p) (s.size + 1) [x.1] x.2).1⟩ (fG s it (bV s x.2.p) (s.size + 1) [x.1] x.2).2)
theorem wu {s:ByteArray} {it:RS→Int × RS} {x:Int × RS} (h:bV s x.2.p=0 ∨ x.2.bad=true):rowP s it x=x:=if_pos h
theorem FO {s:ByteArray} {it:RS→Int × RS} {x:Int × RS} (h:¬ (bV s x.2.p=0 ∨ x.2.bad=true)) {zs:List Int} {st:RS} (hk:fG s it (bV s x.2.p) (s.size + 1) [x.1] x.2=(zs,st)):rowP s it x=((st.out.length:Int),pK ⟨bV s x.2.p,[],⟨#[]⟩,⟨#[]⟩,zs⟩ st):=by
 unfold rowP;rw [if_neg h,hk]
theorem Iq {s:ByteArray} {it:RS→Int × RS} {k:Int} {n:Nat} {zs:List Int} {st:RS} (h:kz s (aR k) st.p st.bad=false):fG s it k n zs st=(zs,st):=by
 have e:jM s (aR k) st=false:=h;cases n with
 | zero=>rfl
 | succ n=>unfold fG; rw [e]; rfl
theorem FP {s:ByteArray} {it:RS→Int × RS} {k:Int} {n:Nat} {zs:List Int} {st:RS} (h:kz s (aR k) st.p st.bad=true):fG s it k (n + 1) zs st=fG s it k n (zs ++ [(it (jk (aR k) st)).1]) (it (jk (aR k) st)).2:=by
 have e:jM s (aR k) st=true:=h
 conv=>lhs; unfold fG
 rw [e]; rfl
theorem RdC.heap {w w':World} {R:Nat} {s:ByteArray} {p:Nat} {bad:Bool} {v:Value} (h:RdC w R s p bad v) (hs:w.heap.size≤w'.heap.size) (hh:w'.heap[R]?=w.heap[R]?):RdC w' R s p bad v :=
 ⟨Nat.lt_of_lt_of_le h.lt hs,(World.cell?_of_block (w:=w) (a:=⟨R,0,none⟩) hh).trans h.c0,(World.cell?_of_block (w:=w) (a:=⟨R,1,none⟩) hh).trans h.c1,(World.cell?_of_block (w:=w) (a:=⟨R,2,none⟩) hh).trans h.c2,(World.cell?_of_block (w:=w) (a:=⟨R,3,none⟩) hh).trans h.c3,bF h.fr hh⟩
theorem RdF.heap {w w':World} {R:Nat} {s:ByteArray} {st:RS} {base:Nat} {v:Value} {qs:List ER} (h:RdF w R s st base v qs) (hs:w.heap.size≤w'.heap.size) (h1:w'.heap[R]?=w.heap[R]?) (h2:∀ g,v.ownBlock=some g→w'.heap[g]?=w.heap[g]?) (h3:∀ q ∈ qs,∀ g,ny q g→w'.heap[g]?=w.heap[g]?):RdF w' R s st base v qs where
 rd:=h.rd.heap hs h1
 own:=gX h.own h2
 out:=h.out
 zA:=h.zA
 zK:=h.zK
 ok q hq:=oL (h.ok q hq) hs (h.zA q hq) (h.zK q hq) (h3 q hq)
 lie q hq g hg:=by
  obtain ⟨a1,a2,a3,a4⟩:=h.lie q hq g hg;exact ⟨a1,Nat.lt_of_lt_of_le a2 hs,bF a3 (h3 q hq g hg),a4⟩
 one:=h.one
 two:=h.two
 cA:=h.cA
 cK q hq:=(h.cK q hq).heap (h.zK q hq) (h3 q hq)
structure KLr (w wr:World) (R:Nat) (s:ByteArray) (st:RS) (base:Nat) (v v':Value) (qs ns:List ER) (zs:List Int) (vK:Value):Prop where
 rd:RdF wr R s st base v' (qs ++ ns)
 went:Went R v w v' wr
 new:∀ q ∈ ns,∀ g,ny q g→w.heap.size≤g
 own:wr.ownsRow w.heap.size 2 1 vK zs.length (ints zs)
 far:∀ g,vK.ownBlock=some g→v'.ownBlock ≠ some g∧∀ q ∈ qs ++ ns,¬ ny q g
 ne:zs ≠ []
theorem KLr.is {w wr w':World} {R:Nat} {s:ByteArray} {st st':RS} {base:Nat} {v v':Value} {qs ns:List ER} {zs:List Int} {vK:Value} (h:KLr w wr R s st base v v' qs ns zs vK) (hR:R < w.heap.size) (hg:wr.grownBy w' (some R)) (hF:RdF w' R s st' base v' (qs ++ ns)):KLr w w' R s st' base v v' qs ns zs vK :=
 ⟨hF,h.went.trans ((Onl.of_grown hg).any v'),h.new,h.own.kept hg (.inr (fun e=>by have:=(h.own.lt R e).1; omega)),h.far,h.ne⟩
theorem KLr.more {w wr w':World} {R:Nat} {s:ByteArray} {st st':RS} {base:Nat} {v v' v2:Value} {qs ns ms:List ER} {zs:List Int} {vK:Value} (h:KLr w wr R s st base v v' qs ns zs vK) (hR:R < w.heap.size) (hF:RdF w' R s st' base v2 ((qs ++ ns) ++ ms)) (hW:Went R v' wr v2 w') (hm:∀ q ∈ ms,∀ g,ny q g→wr.heap.size≤g):KLr w w' R s st' base v v2 qs (ns ++ ms) zs vK:=by
 have hl:∀ g,vK.ownBlock=some g→w.heap.size≤g∧g < wr.heap.size:=fun g hg=>h.own.lt g hg;refine ⟨by rw [← List.append_assoc]; exact hF,h.went.trans hW,fun q hq g hg=>?_,gX h.own fun g hg=>hW.onl.block g (hl g hg).2 (by have:=(hl g hg).1; omega) (h.far g hg).1,fun g hg=>⟨hW.apart (hl g hg).2 (h.far g hg).1,fun q hq hi=>?_⟩,h.ne⟩
 ·rcases List.mem_append.1 hq with h1 | h1
  ·exact h.new q h1 g hg
  ·exact Nat.le_trans h.went.onl.size (hm q h1 g hg)
 ·rw [← List.append_assoc] at hq;rcases List.mem_append.1 hq with h1 | h1
  ·exact (h.far g hg).2 q h1 hi
  ·have:=hm q h1 g hi; have:=(hl g hg).2; omega
theorem Ir (zs:List Int) (z:Int):ints (zs ++ [z])=ints zs ++ [.int .i64 z]:=by simp [ints]
theorem KLr.app {w wr w':World} {R:Nat} {s:ByteArray} {st:RS} {base:Nat} {v v':Value} {qs ns:List ER} {zs:List Int} {vK vN:Value} (h:KLr w wr R s st base v v' qs ns zs vK) (hR:R < w.heap.size) (z:Int) (o:Obj) (hown:w'.ownsRow w.heap.size 2 1 vN (zs.length + 1) (ints zs ++ [.int .i64 z])) (hg:(wr.alloc o).grownBy w' vK.ownBlock) (hat:vN.ownBlock=vK.ownBlock ∨ vN.ownBlock=some (wr.alloc o).heap.size):KLr w w' R s st base v v' qs ns (zs ++ [z]) vN:=by
 have hg0:=World.grownBy_alloc wr o none;have keep:∀ k,k < wr.heap.size→vK.ownBlock ≠ some k→w'.heap[k]?=wr.heap[k]?:=fun k hk hne=>(hg.block k (Nat.lt_of_lt_of_le hk hg0.size) (Ne.symm hne)).trans (hg0.block k hk (by simp));have hl:∀ g,vK.ownBlock=some g→w.heap.size≤g∧g < wr.heap.size:=fun g hg=>h.own.lt g hg;have hs:wr.heap.size≤w'.heap.size:=Nat.le_trans hg0.size hg.size;refine ⟨h.rd.heap hs (keep R h.rd.rd.lt (fun e=>by have:=(hl R e).1; omega)) (fun g hg=>keep g (h.rd.own.lt g hg).2 (fun e=>(h.far g e).1 hg)) (fun q hq g hi=>keep g (h.rd.lie q hq g hi).2.1 (fun e=>(h.far g e).2 q hq hi)),?_,h.new,by rw [Ir,List.length_append,List.length_singleton]; exact hown,fun g hgn=>?_,by simp⟩
 ·refine ⟨⟨hg.os.trans (hg0.os.trans h.went.onl.os),hg.tape.trans (hg0.tape.trans h.went.onl.tape),hg.output.trans (hg0.output.trans h.went.onl.output),Nat.le_trans h.went.onl.size hs,fun k hk h1 h2=>(keep k (Nat.lt_of_lt_of_le hk h.went.onl.size) (fun e=>by have:=(hl k e).1; omega)).trans (h.went.onl.block k hk h1 h2)⟩,h.went.own⟩
 ·rcases hat with e | e
  ·exact h.far g (by rw [← e]; exact hgn)
  ·rw [e] at hgn;injection hgn with hgn;have hsz:wr.heap.size≤g:=by rw [← hgn]; exact hg0.size
   exact ⟨fun e2=>by have:=(h.rd.own.lt g e2).2; omega,fun q hq hi=>by have:=(h.rd.lie q hq g hi).2.1; omega⟩
theorem KLr.node {w wr:World} {R:Nat} {s:ByteArray} {st:RS} {base:Nat} {v v':Value} {qs ns:List ER} {zs:List Int} {vK:Value} (h:KLr w wr R s st base v v' qs ns zs vK) (hb:base≤w.heap.size) (k:Int):∃ ad cap,vK=.slice ad zs.length cap∧NewQ base wr ⟨⟨k,[],⟨#[]⟩,⟨#[]⟩,zs⟩,none,0,ad,cap⟩∧∀ g,ny ⟨⟨k,[],⟨#[]⟩,⟨#[]⟩,zs⟩,none,0,ad,cap⟩ g→w.heap.size≤g∧v'.ownBlock ≠ some g∧∀ q ∈ qs ++ ns,¬ ny q g:=by
 obtain ⟨ad,cap,e,h2,h3,h4⟩:=Nc h.own rfl;have hA:∀ g,¬ bA ⟨⟨k,[],⟨#[]⟩,⟨#[]⟩,zs⟩,none,0,ad,cap⟩ g:=fun g hg=>hg.1 rfl;have hK:∀ g,ny ⟨⟨k,[],⟨#[]⟩,⟨#[]⟩,zs⟩,none,0,ad,cap⟩ g→(w.heap.size≤g∧g < wr.heap.size∧iG wr g)∧vK.ownBlock=some g:=by
  rintro g (hg | hg)
  ·exact absurd hg (hA g)
  ·exact ⟨h4 g hg.1 hg.2,by rw [e,show ad=some ⟨g,0,none⟩ from hg.2]; rfl⟩
 refine ⟨ad,cap,e,⟨fun h=>absurd rfl h,h3,⟨.inl rfl,h2⟩,fun g hg=>⟨Nat.le_trans hb (hK g hg).1.1,(hK g hg).1.2⟩,fun g hg=>absurd hg (hA g),Nat.zero_le _⟩,fun g hg=>⟨(hK g hg).1.1,h.far g (hK g hg).2⟩⟩
theorem KLr.kid {w wr:World} {R:Nat} {s:ByteArray} {st:RS} {base:Nat} {v v':Value} {qs ns:List ER} {zs:List Int} {ad:Option Addr} {cap:Nat} (h:KLr w wr R s st base v v' qs ns zs (.slice ad zs.length cap)) (hb:base≤w.heap.size) (k:Int):yx wr base ⟨⟨k,[],⟨#[]⟩,⟨#[]⟩,zs⟩,none,0,ad,cap⟩:=yx.mono (base:=w.heap.size) (.inr ⟨h.ne,h.own⟩) hb
theorem Iu (w:World) (z:Int) (g:Nat) (hg:w.heap.size=g):∀ j u,[Value.int .i64 z][j]?=some u→(w.alloc (.cells #[.int .i64 z] 2)).cell? ((⟨g,0,none⟩:Addr).add j)=some u:=by
 intro j u hu;subst hg;rw [show (⟨w.heap.size,0,none⟩:Addr).add j=⟨w.heap.size,0 + j,none⟩ by simp [Addr.add]; omega,Nat.zero_add];have:=World.cell?_alloc_mark w #[.int .i64 z] 2 (0,0) j;rw [this];simpa using hu
theorem KE (R:Nat) (s:ByteArray) (st:RS) (base:Nat) (v:Value) (qs:List ER) (w:World) (h:RdF w R s st base v qs) (hR:R < base) (hB:base≤w.heap.size) (hs:s.size≤1000) (x:Int × RS) (hx:x.2.p≤s.size)
  (hfirst:Calls prog 167 #[.pointer (some ⟨R,0,none⟩)] w (rq R s base v qs w x))
  (it:RS→Int × RS) (hlen:x.2.out.length + (s.size - x.2.p)≤5001)
  (hit:∀ (st':RS) (v':Value) (qs':List ER) (w':World),RdF w' R s st' base v' qs'→base≤w'.heap.size→x.2.p + 3≤st'.p→st'.p≤s.size→st'.out.length + (s.size - st'.p)≤5000→Calls prog 167 #[.pointer (some ⟨R,0,none⟩)] w' (rq R s base v' qs' w' (it st')))
  (hmono:∀ st':RS,x.2.p + 3≤st'.p→st'.p≤s.size→st'.p≤(it st').2.p∧(it st').2.p≤s.size∧(it st').2.out.length + st'.p≤st'.out.length + 1 + (it st').2.p) :
  Calls prog 152 #[.pointer (some ⟨R,0,none⟩)] w (rq R s base v qs w (rowP s it x)):=by
 obtain ⟨iI,hiI,zI0,zI1,zI2⟩:=info_parts (P:=prog) (e:=2) (z:=.int .i64 0) (size:=1) (bytes:=8) (by kernel_rfl);have HII:Hid (prog.info? 2=some iI∧iI.zero=some (.int .i64 0)∧iI.size=1∧iI.bytes=8):=⟨hiI,zI0,zI1,zI2⟩;have HLEN:=ai hlen;have HITM:=ai hit;have HMONO:=ai hmono;clear hiI zI0 zI1 zI2 hlen hit hmono;have H:=ai h;have HX:=ai hx;have HIT:=ai hfirst;clear h hx hfirst;go_enter func152,ntmps152;go_wp2_with fail;refine HIT.out.mono ?_;rintro e w1 ⟨v1,ns,rfl,hF1,hW1,hns⟩;have HF1:=ai hF1;have HW1:=ai hW1;have HNS:=ai hns;clear hF1 hW1 hns HIT;go_wp2_with fail;go_loopw [4,5] (fun kd k wr=>∃ (j nn:Nat),4≤j∧j≤7∧k=.int .i64 j∧kd=.int .i64 (fw s x.2.p j)∧Hid (wr=w1.drewN nn)) (fun _ k _=>7 - (intOf k).toNat);case atStart=>exact ⟨4,0,by omega,by omega,rfl,by rw [Io],rfl⟩
 case round =>
  obtain ⟨j,nn,hj4,hj7,rfl,rfl,HWR⟩:=hrel;have hrd:RdC wr R s x.2.p x.2.bad v1:=by rw [HWR.out]; exact HF1.out.rd.drewN nn
  have HRD:=ai hrd;have c0:=HRD.out.c0;have c1:=HRD.out.c1;have c2:=HRD.out.c2;clear hrd;by_cases hlt:j < 7
  ·have hle:decide ((j:Int)≤6)=true:=by simp; omega
   have hle2:(j:Int)≤6:=by omega
   have hwr:IntKind.i64.wrap ((x.2.p:Int) + 3)=(x.2.p:Int) + 3:=by have:=HX.out; simp [IntKind.wrap,IntKind.bits,IntKind.signed]; omega
   by_cases hK:fw s x.2.p j=0
   ·have hK0:(fw s x.2.p j == 0)=true:=by simp [hK]
    by_cases hfar:x.2.p + 3≤s.size
    ·have hd:decide ((x.2.p:Int) + 3≤(s.size:Int))=true:=by simp; omega
     have hd2:(x.2.p:Int) + 3≤(s.size:Int):=by omega
     have hnn:(0:Int)≤(x.2.p:Int):=by omega
     have hp1:(x.2.p:Int)≤(x.2.p:Int) + 3:=by omega
     rw [hK];cases he:(s.extract x.2.p (x.2.p + 3)).toList == (eT j).toList with
     | true =>
      have EQ:=ai (Du hj4 hlt hK (by rw [wm _ hfar]; exact he));clear hK hK0;go_wp2_with fail;go_quiet ((go_at_call 168; exact Calls.quiet_of_same (iP _ _)));go_wp2;go_roundw;case rel=>exact ⟨j + 1,nn + nq,by omega,by omega,by go_num,by rw [EQ.out],by show _=_; rw [HWR.out,World.drewN_drewN]⟩
      case measure=>simp [intOf] <;> omega
     | false =>
      have EQ:=ai (yU hj4 hlt hK (by rw [wm _ hfar]; exact he));clear hK hK0;go_wp2_with fail;go_quiet ((go_at_call 168; exact Calls.quiet_of_same (iP _ _)));go_wp2;go_roundw;case rel=>exact ⟨j + 1,nn + nq,by omega,by omega,by go_num,by rw [EQ.out],by show _=_; rw [HWR.out,World.drewN_drewN]⟩
      case measure=>simp [intOf] <;> omega
    ·have hd:decide ((x.2.p:Int) + 3≤(s.size:Int))=false:=by simp; omega
     have EQ:=ai (yU hj4 hlt hK (FN _ hfar));rw [hK];clear hK hK0;go_wp2_with fail;go_quiet ((go_at_call 168; exact Calls.quiet_of_same (iP _ _)));go_wp2;go_roundw;case rel=>exact ⟨j + 1,nn + nq,by omega,by omega,by go_num,by rw [EQ.out],by show _=_; rw [HWR.out,World.drewN_drewN]⟩
     case measure=>simp [intOf] <;> omega
   ·have hK0:(fw s x.2.p j == 0)=false:=by simp [hK]
    have EQ:=ai (Bz hj4 hlt hK);clear hK;go_wp2_with fail;go_quiet ((go_at_call 168; exact Calls.quiet_of_same (iP _ _)));go_wp2;go_roundw;case rel=>exact ⟨j + 1,nn + nq,by omega,by omega,by go_num,by rw [EQ.out],by show _=_; rw [HWR.out,World.drewN_drewN]⟩
    case measure=>simp [intOf] <;> omega
  ·obtain rfl:j=7:=by omega
   rw [Ip,show ((7:Nat):Int)=(7:Int) from rfl];have hle:decide ((7:Int)≤6)=false:=by decide
   obtain ⟨kd,hkd⟩:∃ kd,kd=bV s x.2.p:=⟨_,rfl⟩;have HKD:=ai hkd;rw [← hkd];clear hkd;by_cases hk:kd=0
   ·have hk0:(kd == 0)=true:=by simp [hk]
    have EQ:=ai (wu (it:=it) (.inl (HKD.out.symm.trans hk)));subst hk;have HF:=ai (HF1.out.heap (w':=wr) (by rw [HWR.out]; exact Nat.le_refl _) (by rw [HWR.out]; rfl) (fun g _=>by rw [HWR.out]; rfl) (fun q _ g _=>by rw [HWR.out]; rfl));have HW:Hid (Went R v w v1 wr):=by rw [HWR.out]; exact ⟨⟨HW1.out.onl.os,HW1.out.onl.tape,HW1.out.onl.output,HW1.out.onl.size,HW1.out.onl.block⟩,HW1.out.own⟩
    go_wp2;exact bodyPost_ret (v:=.int .i64 x.1) (by simp [results,Tryz.results152,go_sem]) rfl (by rw [EQ.out]; exact ⟨v1,ns,rfl,HF.out,HW.out,HNS.out⟩)
   ·have hk0:(kd == 0)=false:=by simp [hk]
    cases hb:x.2.bad with
    | true =>
     have EQ:=ai (wu (it:=it) (x:=x) (s:=s) (.inr hb));rw [hb] at c2;have HF:=ai (HF1.out.heap (w':=wr) (by rw [HWR.out]; exact Nat.le_refl _) (by rw [HWR.out]; rfl) (fun g _=>by rw [HWR.out]; rfl) (fun q _ g _=>by rw [HWR.out]; rfl));have HW:Hid (Went R v w v1 wr):=by rw [HWR.out]; exact ⟨⟨HW1.out.onl.os,HW1.out.onl.tape,HW1.out.onl.output,HW1.out.onl.size,HW1.out.onl.block⟩,HW1.out.own⟩
     go_wp2;exact bodyPost_ret (v:=.int .i64 x.1) (by simp [results,Tryz.results152,go_sem]) rfl (by rw [EQ.out]; exact ⟨v1,ns,rfl,HF.out,HW.out,HNS.out⟩)
    | false =>
     rw [hb] at c2;have HNO:Hid (¬ (bV s x.2.p=0 ∨ x.2.bad=true)):=by
      rintro (e | e)
      ·exact hk (HKD.out.trans e)
      ·rw [hb] at e; cases e
     have HF:=ai (HF1.out.heap (w':=wr) (by rw [HWR.out]; exact Nat.le_refl _) (by rw [HWR.out]; rfl) (fun g _=>by rw [HWR.out]; rfl) (fun q _ g _=>by rw [HWR.out]; rfl));have HW:Hid (Went R v w v1 wr):=by rw [HWR.out]; exact ⟨⟨HW1.out.onl.os,HW1.out.onl.tape,HW1.out.onl.output,HW1.out.onl.size,HW1.out.onl.block⟩,HW1.out.own⟩
     have HWB:Hid (R < w.heap.size):=H.out.rd.lt;have HKL0:Hid (KLr w (wr.alloc (.cells #[.int .i64 x.1] 2)) R s x.2 base v v1 qs ns [x.1] (.slice (some ⟨wr.heap.size,0,none⟩) 1 1)):=by
      have hg0:=World.grownBy_alloc wr (.cells #[.int .i64 x.1] 2) none;refine ⟨HF.out.heap hg0.size (hg0.block R HF.out.rd.lt (by simp)) (fun g hg=>hg0.block g (HF.out.own.lt g hg).2 (by simp)) (fun q hq g hi=>hg0.block g (HF.out.lie q hq g hi).2.1 (by simp)),HW.out.trans ((Onl.of_below ((Below.refl _ _).alloc (Nat.le_refl _) _)).any v1),HNS.out,World.ownsRow_lit wr #[.int .i64 x.1] 1 HW.out.onl.size (by unfold maxLen; omega) (by simp),fun g hg=>?_,by simp⟩;simp [Value.ownBlock] at hg;subst hg;exact ⟨fun e=>by have:=(HF.out.own.lt _ e).2; omega,fun q hq hi=>by have:=(HF.out.lie q hq _ hi).2.1; omega⟩
     clear HF HW HRD HWR HF1 HW1 HNS;go_wp2_with fail;clear c0 c1 c2;go_loopw [6] (fun vK wq=>∃ (n:Nat) (zs:List Int) (st':RS) (v':Value) (ms:List ER),Hid (st'.p≤s.size∧x.2.p≤st'.p∧s.size - st'.p < n∧zs.length≤st'.p + 1∧st'.out.length + (s.size - st'.p)≤5001)∧Hid (fG s it kd n zs st'=fG s it kd (s.size + 1) [x.1] x.2)∧Hid (KLr w wq R s st' base v v' qs ms zs vK)) (fun _ wq=>s.size - wat R wq);case atStart=>exact ⟨s.size + 1,[x.1],x.2,v1,ns,⟨HX.out,Nat.le_refl _,by omega,by simp,HLEN.out⟩,rfl,HKL0.out⟩
     case round =>
      obtain ⟨n,zs,st',v',ms,HB,HQ,HKL⟩:=hrel;clear HKL0;go_wp2_with fail;refine (iP _ _).mono ?_;rintro e w' ⟨rfl,rfl⟩;go_wp2_with fail;refine (iN R s (eT kd) st'.p st'.bad v' _ HKL.out.rd.rd hs HB.out.1 (by simp [jT])).mono ?_;rintro e w5 ⟨rfl,hr5,hg5⟩;cases hc:kz s (eT kd) st'.p st'.bad with
      | false =>
       have HK5:=ai (HKL.out.is HWB.out hg5 (HKL.out.rd.is_no hR hc hr5 hg5));rw [ry] at hc;have EQ:=ai (FO (zs:=zs) (st:=st') HNO.out (by rw [← HKD.out]; exact HQ.out.symm.trans (Iq hc)));obtain ⟨ad,cap,rfl,hnq,hin⟩:=HK5.out.node hB kd;have HNQ:=ai hnq;have HIN:=ai hin;have hql:(qs ++ ms).length≤100000:=by have h1:=HK5.out.rd.out; have h2:=congrArg List.length h1; simp only [au,List.length_map] at h2; have:=HB.out.2.2.2.2; omega
       clear hr5 hg5 hc hnq hin HKL;go_wp2_with fail;refine (Di R s st' base v' (qs ++ ms) ⟨⟨kd,[],⟨#[]⟩,⟨#[]⟩,zs⟩,none,0,ad,cap⟩ w5 HK5.out.rd hR (Nat.le_trans hB HK5.out.went.onl.size) hql HNQ.out (HK5.out.kid hB kd) (fun g hg=>(HIN.out g hg).2)).mono ?_;rintro e w6 ⟨v6,rfl,hF6,hW6⟩;have HF6:=ai hF6;have HW6:=ai (HK5.out.went.trans hW6);clear hF6 hW6;have HNEW:Hid (∀ q ∈ ms ++ [(⟨⟨kd,[],⟨#[]⟩,⟨#[]⟩,zs⟩,none,0,ad,cap⟩:ER)],∀ g,ny q g→w.heap.size≤g):=by
        intro q hq g hg;rcases List.mem_append.1 hq with h1 | h1
        ·exact HK5.out.new q h1 g hg
        ·rw [List.mem_singleton] at h1; subst h1; exact (HIN.out g hg).1
       replace HF6:Hid (RdF w6 R s (pK ⟨kd,[],⟨#[]⟩,⟨#[]⟩,zs⟩ st') base v6 (qs ++ (ms ++ [(⟨⟨kd,[],⟨#[]⟩,⟨#[]⟩,zs⟩,none,0,ad,cap⟩:ER)]))):=by rw [← List.append_assoc]; exact HF6.out
       go_wp2;exact bodyPost_ret (v:=.int .i64 (st'.out.length:Int)) (by simp [results,Tryz.results152,go_sem]) rfl (by rw [EQ.out,← HKD.out]; exact ⟨v6,_,rfl,HF6.out,HW6.out,HNEW.out⟩)
      | true =>
       have hk5:=HKL.out.is HWB.out hg5 (HKL.out.rd.is_yes hR hc hr5 hg5);rw [ry] at hk5;have HK5:=ai hk5;have HPS:Hid (st'.p + 3≤s.size):=by have:=sF hc; rw [jT] at this; exact this
       have HPL:=ai HKL.out.rd.rd.place;obtain ⟨m,hm⟩:∃ m,n=m + 1:=⟨n - 1,by have:=HB.out.2.2.1; omega⟩;subst hm;rw [ry] at hc;have EQ:=ai ((FP (it:=it) (n:=m) (zs:=zs) hc).symm.trans HQ.out);have eP:(jk (aR kd) st').p=st'.p + 3:=by unfold jk; rw [jX]
       have eO:(jk (aR kd) st').out=st'.out:=rfl;have a1:x.2.p + 3≤(jk (aR kd) st').p:=by rw [eP]; have:=HB.out.2.1; omega
       have a2:(jk (aR kd) st').p≤s.size:=by rw [eP]; exact HPS.out
       have a3:(jk (aR kd) st').out.length + (s.size - (jk (aR kd) st').p)≤5000:=by rw [eP,eO]; have:=HB.out.2.2.2.2; have:=HPS.out; omega
       have hmo:=HMONO.out (jk (aR kd) st') a1 a2;rw [eP,eO] at hmo;have hcall:=HITM.out (jk (aR kd) st') v' (qs ++ ms) w5 HK5.out.rd (Nat.le_trans hB HK5.out.went.onl.size) a1 a2 a3;obtain ⟨y,hy⟩:∃ y,y=it (jk (aR kd) st'):=⟨_,rfl⟩;rw [← hy] at hmo hcall EQ;have HMO:=ai hmo;have HCALL:=ai hcall;clear hr5 hg5 hk5 hc HKL eP eO a1 a2 a3 hmo hcall hy;go_wp2_with fail;refine HCALL.out.mono ?_;rintro e w6 ⟨v6,ns6,rfl,hF6,hW6,hn6⟩;have HK6:=ai (HK5.out.more HWB.out hF6 hW6 hn6);clear hF6 hW6 hn6 HCALL HK5;obtain ⟨W7,hW7⟩:∃ W7,W7=w6.alloc (.cells #[.int .i64 y.1] 2):=⟨_,rfl⟩;have HO7:Hid (W7.ownsRow w.heap.size 2 1 u6 zs.length (ints zs)):=by rw [hW7]; exact HK6.out.own.alloc _
       have HN7:Hid (∀ j u,[Value.int .i64 y.1][j]?=some u→W7.cell? ((⟨w6.heap.size,0,none⟩:Addr).add j)=some u):=by rw [hW7]; exact Iu w6 _ _ rfl
       have HS7:Hid (w.heap.size≤W7.heap.size):=by show _≤_; rw [hW7]; exact Nat.le_trans HK6.out.went.onl.size (World.grownBy_alloc w6 _ none).size
       have HW7:=ai hW7;have hzl:zs.length≤1001:=by have:=HB.out.2.2.2.1; have:=HB.out.1; omega
       go_wp2_with (at_builtin; rw [← hW7]; clear hW7; refine wpList_append_own_at _ rfl _ _ 137 rfl w.heap.size 2 iI (.int .i64 0) 1 8 underlying137 HII.out.1 HII.out.2.1 HII.out.2.2.1 HII.out.2.2.2 rfl (by decide) u6 zs.length (ints zs) rfl HO7.out ⟨w6.heap.size,0,none⟩ 1 1 [Value.int .i64 y.1] rfl rfl HN7.out (by intro u hu; simp at hu; subst hu; rfl) (by unfold maxLen; omega) (by omega) HS7.out ?_);intro vN w8 hown8 hgr8 _ hat8;have HK8:Hid (KLr w w8 R s y.2 base v v6 qs (ms ++ ns6) (zs ++ [y.1]) vN):=by
        rw [HW7.out] at hgr8 hat8;exact HK6.out.app HWB.out y.1 _ hown8 hgr8 hat8
       have HM:Hid (s.size - wat R w8 < s.size - wat R w'):=by
        show _ < _;rw [HK8.out.rd.rd.place,HPL.out];have:=HMO.out.1;have:=HMO.out.2.1;have:=HPS.out;omega
       clear hown8 hgr8 hat8 HO7 HN7 HS7 HW7 HK6;go_wp2;go_roundw;case rel=>exact ⟨m,zs ++ [y.1],y.2,v6,ms ++ ns6,⟨HMO.out.2.1,by have:=HMO.out.1; have:=HB.out.2.1; omega,by have:=HB.out.2.2.1; have:=HMO.out.1; have:=HMO.out.2.1; omega,by have:=HB.out.2.2.2.1; have:=HMO.out.1; rw [List.length_append,List.length_singleton]; omega,by have:=HB.out.2.2.2.2; have:=HMO.out; omega⟩,EQ.out,HK8.out⟩
       case measure=>exact HM.out
end Go.Proofs.YteoflgocljfgeaaGreatDoor
