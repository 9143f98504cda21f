/- Contract of the document's function that marks which nodes stand in what is taken away. -/
import Derived.Test.YteoflgocljfgeaaGreatDoorJ13
open Go.Proofs.Tryz
set_option maxHeartbeats 80000000
namespace Go.Proofs.YteoflgocljfgeaaGreatDoor
open Go.ChangeShapes Go.WideShapes Go.ChangeAt Go.RowKit
open Pl
def aZ (i:Nat) (kind:Int):List Int→Nat→List Bool→List Bool
 | [],_,out=>out
 | x::xs,k,out=>aZ i kind xs (k + 1) (out.set x.toNat (out.getD i false || (kind == 6 && k == 1)))
def fO (es:List Ex):Nat→List Bool→List Bool
 | 0,out=>out
 | i + 1,out=>fO es i (match es[i]? with | none=>out | some e=>aZ i e.kind e.kids 0 out)
def dD (es:List Ex):List Bool:=fO es es.length (List.replicate es.length false)
theorem BC (i:Nat) (kind:Int) (xs:List Int) (k:Nat) (out:List Bool):(aZ i kind xs k out).length=out.length:=by
 induction xs generalizing k out with
 | nil=>rfl
 | cons x xs ih=>simp [aZ,ih]
def bools (xs:List Bool):List Value:=xs.map Value.bool
theorem Fil.set {w wr:World} {g n o:Nat} {xs:List Value} (h:Fil w wr g n xs) (v:Value) (ho:o < xs.length) (hn:o < n):Fil w (wr.setCell ⟨g,o,none⟩ v) g n (xs.set o v) where
 below:=h.below.setCell (p:=⟨g,o,none⟩) h.ge v
 ge:=h.ge
 lt:=by simpa using h.lt
 done j hj:=by
  by_cases e:j=o
  ·subst e;obtain ⟨u,hu⟩:=Option.isSome_iff_exists.mp (h.there j hn);rw [vI hu];simp
  ·have hj':j < xs.length:=by simpa using hj
   rw [nA (Ne.symm e),h.done j hj',List.getElem_set_ne (Ne.symm e)]
 there j hj:=by
  by_cases e:j=o
  ·subst e;obtain ⟨u,hu⟩:=Option.isSome_iff_exists.mp (h.there j hn);rw [vI hu]; rfl
  ·rw [nA (Ne.symm e)];exact h.there j hj
 free j:=by simpa using h.free j
theorem Fil.drew {w wr:World} {g n:Nat} {xs:List Value} (h:Fil w wr g n xs):Fil w wr.drew g n xs:=⟨h.below.drew,h.ge,h.lt,h.done,h.there,h.free⟩
theorem yZ {w w0:World} {n:Nat} {base:Nat} {e:TypeId} {v:Value} (h:w0.ownsRow base e 1 (.slice (some ⟨w.heap.size,0,none⟩) n n) n (madeCells #[v] (n * 1)).toList) (hg:w.grownBy w0 none):Fil w w0 w.heap.size n (List.replicate n v) where
 below:=(Below.refl _ _).grown hg (Nat.le_refl _) (fun k hk=>by cases hk)
 ge:=Nat.le_refl _
 lt:=(h.lt w.heap.size rfl).2
 done j hj:=by
  have hj':j < n:=by simpa using hj
  rw [h.cellAt j (by omega),toList_madeCells_one];simp [hj']
 there j hj:=by
  rw [h.cellAt j (by omega),List.getElem?_eq_getElem (by rw [h.1]; omega)]; rfl
 free j:=h.frozenAt j
theorem wG:(prog.info? 4).map (fun i=>(i.zero,i.size,i.bytes))=some (some (.bool false),1,1):=by kernel_rfl
theorem wH (es:List Ex) (m:Nat) (out:List Bool) (h:m < es.length):fO es (m + 1) out=fO es m (aZ m es[m].kind es[m].kids 0 out):=by
 simp [fO,h]
theorem dU (i:Nat) (kind:Int) (ks:List Int) (j:Nat) (out:List Bool) (h:j < ks.length):aZ i kind (ks.drop j) j out=aZ i kind (ks.drop (j + 1)) (j + 1) (out.set ks[j].toNat (out.getD i false || (kind == 6 && j == 1))):=by
 rw [List.drop_eq_getElem_cons h]; rfl
theorem gP (out:List Bool) (o:Nat) (v:Bool):bools (out.set o v)=(bools out).set o (.bool v):=by simp [bools,List.map_set]
def bY (n:Nat) (ks:List Int):Prop:=∀ x ∈ ks,0≤x∧x < (n:Int)
theorem FY (ad:Option Addr) (cap:Nat) (rs:List ER) (w:World) (hlen:rs.length≤1048576) (hs:kX w ad rs) (hl:∀ r ∈ rs,r.e.light) (hk:∀ r ∈ rs,bY rs.length r.e.kids) :
  Calls prog 144 #[.slice ad rs.length cap] w fun e w'=>e=.returned (.slice (some ⟨w.heap.size,0,none⟩) rs.length rs.length)∧Fil w w' w.heap.size rs.length (bools (dD (au rs))):=by
 have HS:Hid (kX w ad rs):=hs;have HL:Hid (∀ r ∈ rs,r.e.light):=hl;have HK:Hid (∀ r ∈ rs,bY rs.length r.e.kids):=hk;clear hs hl hk;obtain ⟨inf,hi,hz0,hz1,hz2⟩:=info_parts wG;go_enter func144,ntmps144;go_wp2_with (at_make; refine wpList_make_full _ rfl _ _ 240 rfl w.heap.size 4 inf (.bool false) 1 underlying240 hi hz0 hz1 .i64 .i64 _ _ rs.length rfl rfl rfl rfl (by rw [hz2]; omega) (by unfold maxLen; omega) (Nat.le_refl _) ?_; intro w0 hown0 hgrow0);have HF0:Hid (Fil w w0 w.heap.size rs.length (bools (List.replicate rs.length false))):=by
  have:=yZ (v:=.bool false) hown0 hgrow0;show Fil _ _ _ _ _;simpa [bools] using this
 clear hown0 hgrow0 hi hz0 hz1 hz2;go_loopw [4] (fun i wr=>∃ (m:Nat) (out:List Bool),m≤rs.length∧i=.int .i64 ((m:Int) - 1)∧out.length=rs.length∧Hid (fO (au rs) m out=dD (au rs))∧Hid (Fil w wr w.heap.size rs.length (bools out))) (fun i _=>(intOf i + 1).toNat);case atStart=>exact ⟨rs.length,List.replicate rs.length false,Nat.le_refl _,by go_num,by simp,(by show _=_; unfold dD; rw [bq]),HF0⟩
 case round =>
  obtain ⟨m,out,hm,rfl,hol,HN,HF⟩:=hrel;by_cases hm0:0 < m
  ·obtain ⟨m,rfl⟩:∃ m',m=m' + 1:=⟨m - 1,by omega⟩;have hmi:(((m + 1:Nat):Int) - 1)=(m:Int):=by omega
   rw [hmi];have hlt:m < rs.length:=by omega
   rcases HS.out.below HF.out.below with rfl | ⟨b,off,rfl,hb,hr,hok⟩
   ·simp at hlt
   obtain ⟨t0,t1,t2,t3,t4⟩:=hr m hlt;have HOK:Hid (rs[m].ok _):=hok rs[m] (List.getElem_mem hlt);have lg:=(HL.out rs[m] (List.getElem_mem hlt)).2;have HKI:Hid (bY rs.length rs[m].e.kids):=HK.out rs[m] (List.getElem_mem hlt);have hk1:=bR m;have hk2:(m:Int) < (rs.length:Int):=by omega
   have hbw:b < w.heap.size:=by
    rcases HS.out with h | ⟨b',off',h1,h2,-⟩
    ·rw [h] at hlt; simp at hlt
    ·injection h1 with h1; injection h1 with h1; omega
   have HR:Hid (ve wr b (off + m * 5) rs[m]):=hr m hlt;have HNX:Hid (fO (au rs) m (aZ m rs[m].e.kind rs[m].e.kids 0 out)=dD (au rs)):=by
    show _=_;rw [← HN.out,wH _ _ _ (by rw [bq]; exact hlt)];simp [au]
   clear hr hok t0 t1 t2 t3 t4;go_wp2_with fail;go_loopw [5] (fun i w2=>∃ (j:Nat) (out2:List Bool),j≤rs[m].e.kids.length∧i=.int .i64 j∧out2.length=rs.length∧Hid (aZ m rs[m].e.kind (rs[m].e.kids.drop j) j out2=aZ m rs[m].e.kind rs[m].e.kids 0 out)∧Hid (Fil w w2 w.heap.size rs.length (bools out2))) (fun i _=>rs[m].e.kids.length - (intOf i).toNat);case atStart=>exact ⟨0,out,Nat.zero_le _,rfl,hol,rfl,HF⟩
   case round =>
    obtain ⟨j,out2,hj,rfl,ho2,HJ,HF2⟩:=hrel;have hE2:kX wr _ rs:=HS.out.below HF2.out.below;have ht:ve wr b (off + m * 5) rs[m]:=by
     rcases hE2 with h | ⟨b',off',h1,h2,h3,-⟩
     ·exact absurd hlt (by rw [h]; simp)
     ·injection h1 with h1; injection h1 with h1 h1'; subst h1; subst h1'; exact h3 m hlt
    obtain ⟨t0,t1,t2,t3,t4⟩:=ht;by_cases hjl:j < rs[m].e.kids.length
    ·have hK2:Bn wr rs[m].adK rs[m].e.kids:=(hE2.mem (List.getElem_mem hlt)).2;rcases hK2 with hnil | ⟨ba,offa,hadK,hba,hra⟩
     ·rw [hnil] at hjl; simp at hjl
     rw [hadK] at t4;have q0:=hra j hjl;have hj1:=bR j;have hj2:(j:Int) < (rs[m].e.kids.length:Int):=by omega
     obtain ⟨x0,x1⟩:=HKI.out _ (List.getElem_mem hjl);obtain ⟨x,hx⟩:∃ x:Nat,rs[m].e.kids[j]=(x:Int):=⟨rs[m].e.kids[j].toNat,by omega⟩;rw [hx] at q0 x0 x1;have c0:=HF2.out.done m (by simp [bools]; omega);have fz:=HF2.out.free;obtain ⟨v0,u0⟩:=Option.isSome_iff_exists.mp (HF2.out.there x (by omega));have hbr:b < wr.heap.size:=Nat.lt_of_lt_of_le hbw HF2.out.below.size;obtain ⟨bo,hbo⟩:∃ bo,bo=(bools out2)[m]'(by simp [bools]; omega):=⟨_,rfl⟩;rw [← hbo] at c0;clear hra hadK hE2 t1 t2 t3;have hm2:m < out2.length:=by omega
     have hbo1:bo=.bool out2[m]:=by rw [hbo]; simp [bools]
     have hbo':out2[m]?.getD false=out2[m]:=by simp [hm2]
     rw [hbo1] at c0;clear hbo hbo1;cases hb0:out2[m] with
     | true =>
      rw [hb0] at c0 hbo';go_wp2_with fail;refine dZ 26 (fun n=>[u26,u27,u28,u29,u30,u31,u32,u33,u34,u35,u36,u37,u38,u39,u40,u41,u42,u43,u44,u45,u46,u47,u48,u49,u50,u51].getD n undef) (fun f=>{ tmps:=#[.slice (some ⟨b,off,none⟩) rs.length cap,undef,.slice none 0 0,.slice (some ⟨w.heap.size,0,none⟩) rs.length rs.length,.int .i64 (m:Int),.int .i64 (j:Int),.slice (some ⟨b,off,none⟩) rs.length cap,.int .i64 (rs.length:Int),.slice (some ⟨w.heap.size,0,none⟩) rs.length rs.length,.slice (some ⟨b,off,none⟩) rs.length cap,.int .i64 (rs.length:Int),.int .i64 ((rs.length:Int) - 1),.int .i64 (m:Int),.bool true,u14,u15,.int .i64 (j:Int),.slice (some ⟨b,off,none⟩) rs.length cap,.int .i64 (m:Int),.pointer (some ⟨b,off + m * 5,none⟩),.pointer (some ⟨b,off + m * 5 + 4,none⟩),.slice (some ⟨ba,offa,none⟩) rs[m].e.kids.length rs[m].capK,.int .i64 (rs[m].e.kids.length:Int),.bool true,u24,u25,f 0,f 1,f 2,f 3,f 4,f 5,f 6,f 7,f 8,f 9,f 10,f 11,f 12,f 13,f 14,f 15,f 16,f 17,f 18,f 19,f 20,f 21,f 22,f 23,f 24,f 25,undef],defers:=[] }) (fun n v _=>v=[Value.slice (some ⟨w.heap.size,0,none⟩) rs.length rs.length,.slice (some ⟨b,off,none⟩) rs.length cap,.int .i64 (m:Int),.pointer (some ⟨b,off + m * 5,none⟩),.pointer (some ⟨b,off + m * 5 + 4,none⟩),.slice (some ⟨ba,offa,none⟩) rs[m].e.kids.length rs[m].capK,.int .i64 (j:Int),.pointer (some ⟨ba,offa + j,none⟩),.int .i64 (x:Int),.slice (some ⟨w.heap.size,0,none⟩) rs.length rs.length,.int .i64 (m:Int),.pointer (some ⟨w.heap.size,m,none⟩),.bool true,.bool true,undef,undef,undef,undef,undef,undef,undef,undef,undef,undef,.bool true,.pointer (some ⟨w.heap.size,x,none⟩)].getD n undef) (fun w'=>Below wr.heap.size wr w') (by kernel_rfl) rfl (by kernel_rfl) (by kernel_rfl) rfl (Below.refl _ _).drew ?step1 ?fin1;case step1 =>
       rintro i hi o ho f w' hG hpre;have HG:Hid (Below wr.heap.size wr w'):=hG;replace t0:=ak hG hbr t0;replace t4:=ak hG hbr t4;replace q0:=ak hG hba q0;replace c0:=ak hG HF2.out.lt c0;have HM:Hid (∀ e ∈ o.after,Region.binds .any e=true→_):=hpre;clear hG hpre;have hc:=ES (i:=i) (by omega);clear hi
       repeat' rcases hc with rfl | hc
       iterate 26
        ·obtain rfl:=Option.some.inj ho;have hm:=HM.out
         try simp [Region.binds] at hm
         refine aa rfl fun K HK=>?_;clear ho HM
         try simp only [hm]
         go_simp;exact HK.out _ _ ⟨_,by simp [upd, *],HG.out,rfl,fun k u hu=>hu⟩
      case fin1 =>
       rintro o ho f w' hG hall;have e24:f 24=Value.bool true:=hall 24 (by omega);have e25:f 25=Value.pointer (some ⟨w.heap.size,x,none⟩):=hall 25 (by omega);replace u0:=ak hG HF2.out.lt u0;have hF3:=HF2.out.later hG;replace fz:=hF3.free;have HF4:Hid (Fil w (w'.setCell ⟨w.heap.size,x,none⟩ (.bool true)) w.heap.size rs.length (bools (out2.set x true))):=by show Fil _ _ _ _ _; rw [gP]; exact hF3.set _ (by simp [bools]; omega) (by omega)
       have HJ2:Hid (aZ m rs[m].e.kind (rs[m].e.kids.drop (j + 1)) (j + 1) (out2.set x true)=aZ m rs[m].e.kind rs[m].e.kids 0 out):=by
        show _=_;rw [← HJ.out,dU _ _ _ _ _ hjl,hx];simp [*]
       clear hG hall hF3;obtain rfl:=Option.some.inj ho;clear ho;refine wpOp_step rfl (fun K hK=>?_);have HK:Hid (∀ a w,_→K a w):=hK;clear hK;simp only [e24,e25];go_simp;refine HK.out _ _ ?_;clear HK;go_wp2;go_roundw;case rel=>exact ⟨j + 1,out2.set x true,by omega,by go_num,by simp [ho2],HJ2,HF4⟩
       case measure=>simp [intOf] <;> omega
     | false =>
      rw [hb0] at c0 hbo';cases hkb:(rs[m].e.kind == 6) with
      | false =>
       go_wp2_with fail;refine dZ 26 (fun n=>[u26,u27,u28,u29,u30,u31,u32,u33,u34,u35,u36,u37,u38,u39,u40,u41,u42,u43,u44,u45,u46,u47,u48,u49,u50,u51].getD n undef) (fun f=>{ tmps:=#[.slice (some ⟨b,off,none⟩) rs.length cap,undef,.slice none 0 0,.slice (some ⟨w.heap.size,0,none⟩) rs.length rs.length,.int .i64 (m:Int),.int .i64 (j:Int),.slice (some ⟨b,off,none⟩) rs.length cap,.int .i64 (rs.length:Int),.slice (some ⟨w.heap.size,0,none⟩) rs.length rs.length,.slice (some ⟨b,off,none⟩) rs.length cap,.int .i64 (rs.length:Int),.int .i64 ((rs.length:Int) - 1),.int .i64 (m:Int),.bool true,u14,u15,.int .i64 (j:Int),.slice (some ⟨b,off,none⟩) rs.length cap,.int .i64 (m:Int),.pointer (some ⟨b,off + m * 5,none⟩),.pointer (some ⟨b,off + m * 5 + 4,none⟩),.slice (some ⟨ba,offa,none⟩) rs[m].e.kids.length rs[m].capK,.int .i64 (rs[m].e.kids.length:Int),.bool true,u24,u25,f 0,f 1,f 2,f 3,f 4,f 5,f 6,f 7,f 8,f 9,f 10,f 11,f 12,f 13,f 14,f 15,f 16,f 17,f 18,f 19,f 20,f 21,f 22,f 23,f 24,f 25,undef],defers:=[] }) (fun n v _=>v=[Value.slice (some ⟨w.heap.size,0,none⟩) rs.length rs.length,.slice (some ⟨b,off,none⟩) rs.length cap,.int .i64 (m:Int),.pointer (some ⟨b,off + m * 5,none⟩),.pointer (some ⟨b,off + m * 5 + 4,none⟩),.slice (some ⟨ba,offa,none⟩) rs[m].e.kids.length rs[m].capK,.int .i64 (j:Int),.pointer (some ⟨ba,offa + j,none⟩),.int .i64 (x:Int),.slice (some ⟨w.heap.size,0,none⟩) rs.length rs.length,.int .i64 (m:Int),.pointer (some ⟨w.heap.size,m,none⟩),.bool false,.bool false,.slice (some ⟨b,off,none⟩) rs.length cap,.int .i64 (m:Int),.pointer (some ⟨b,off + m * 5,none⟩),.pointer (some ⟨b,off + m * 5,none⟩),.int .i64 rs[m].e.kind,.bool false,.bool false,undef,undef,.bool false,.bool false,.pointer (some ⟨w.heap.size,x,none⟩)].getD n undef) (fun w'=>Below wr.heap.size wr w') (by kernel_rfl) rfl (by kernel_rfl) (by kernel_rfl) rfl (Below.refl _ _).drew ?step2 ?fin2;case step2 =>
        rintro i hi o ho f w' hG hpre;have HG:Hid (Below wr.heap.size wr w'):=hG;replace t0:=ak hG hbr t0;replace t4:=ak hG hbr t4;replace q0:=ak hG hba q0;replace c0:=ak hG HF2.out.lt c0;have HM:Hid (∀ e ∈ o.after,Region.binds .any e=true→_):=hpre;clear hG hpre;have hc:=ES (i:=i) (by omega);clear hi
        repeat' rcases hc with rfl | hc
        iterate 26
         ·obtain rfl:=Option.some.inj ho;have hm:=HM.out
          try simp [Region.binds] at hm
          refine aa rfl fun K HK=>?_;clear ho HM
          try simp only [hm]
          go_simp;exact HK.out _ _ ⟨_,by simp [upd, *],HG.out,rfl,fun k u hu=>hu⟩
       case fin2 =>
        rintro o ho f w' hG hall;have e24:f 24=Value.bool false:=hall 24 (by omega);have e25:f 25=Value.pointer (some ⟨w.heap.size,x,none⟩):=hall 25 (by omega);replace u0:=ak hG HF2.out.lt u0;have hF3:=HF2.out.later hG;replace fz:=hF3.free;have HF4:Hid (Fil w (w'.setCell ⟨w.heap.size,x,none⟩ (.bool false)) w.heap.size rs.length (bools (out2.set x false))):=by show Fil _ _ _ _ _; rw [gP]; exact hF3.set _ (by simp [bools]; omega) (by omega)
        have HJ2:Hid (aZ m rs[m].e.kind (rs[m].e.kids.drop (j + 1)) (j + 1) (out2.set x false)=aZ m rs[m].e.kind rs[m].e.kids 0 out):=by
         show _=_;rw [← HJ.out,dU _ _ _ _ _ hjl,hx];simp [*]
        clear hG hall hF3;obtain rfl:=Option.some.inj ho;clear ho;refine wpOp_step rfl (fun K hK=>?_);have HK:Hid (∀ a w,_→K a w):=hK;clear hK;simp only [e24,e25];go_simp;refine HK.out _ _ ?_;clear HK;go_wp2;go_roundw;case rel=>exact ⟨j + 1,out2.set x false,by omega,by go_num,by simp [ho2],HJ2,HF4⟩
        case measure=>simp [intOf] <;> omega
      | true =>
       cases hjb:((j:Int) == 1) with
       | true =>
        have hjn:(j == 1)=true:=by simp at hjb ⊢; omega
        go_wp2_with fail;refine dZ 26 (fun n=>[u26,u27,u28,u29,u30,u31,u32,u33,u34,u35,u36,u37,u38,u39,u40,u41,u42,u43,u44,u45,u46,u47,u48,u49,u50,u51].getD n undef) (fun f=>{ tmps:=#[.slice (some ⟨b,off,none⟩) rs.length cap,undef,.slice none 0 0,.slice (some ⟨w.heap.size,0,none⟩) rs.length rs.length,.int .i64 (m:Int),.int .i64 (j:Int),.slice (some ⟨b,off,none⟩) rs.length cap,.int .i64 (rs.length:Int),.slice (some ⟨w.heap.size,0,none⟩) rs.length rs.length,.slice (some ⟨b,off,none⟩) rs.length cap,.int .i64 (rs.length:Int),.int .i64 ((rs.length:Int) - 1),.int .i64 (m:Int),.bool true,u14,u15,.int .i64 (j:Int),.slice (some ⟨b,off,none⟩) rs.length cap,.int .i64 (m:Int),.pointer (some ⟨b,off + m * 5,none⟩),.pointer (some ⟨b,off + m * 5 + 4,none⟩),.slice (some ⟨ba,offa,none⟩) rs[m].e.kids.length rs[m].capK,.int .i64 (rs[m].e.kids.length:Int),.bool true,u24,u25,f 0,f 1,f 2,f 3,f 4,f 5,f 6,f 7,f 8,f 9,f 10,f 11,f 12,f 13,f 14,f 15,f 16,f 17,f 18,f 19,f 20,f 21,f 22,f 23,f 24,f 25,undef],defers:=[] }) (fun n v _=>v=[Value.slice (some ⟨w.heap.size,0,none⟩) rs.length rs.length,.slice (some ⟨b,off,none⟩) rs.length cap,.int .i64 (m:Int),.pointer (some ⟨b,off + m * 5,none⟩),.pointer (some ⟨b,off + m * 5 + 4,none⟩),.slice (some ⟨ba,offa,none⟩) rs[m].e.kids.length rs[m].capK,.int .i64 (j:Int),.pointer (some ⟨ba,offa + j,none⟩),.int .i64 (x:Int),.slice (some ⟨w.heap.size,0,none⟩) rs.length rs.length,.int .i64 (m:Int),.pointer (some ⟨w.heap.size,m,none⟩),.bool false,.bool false,.slice (some ⟨b,off,none⟩) rs.length cap,.int .i64 (m:Int),.pointer (some ⟨b,off + m * 5,none⟩),.pointer (some ⟨b,off + m * 5,none⟩),.int .i64 rs[m].e.kind,.bool true,.bool true,.int .i64 (j:Int),.bool true,.bool true,.bool true,.pointer (some ⟨w.heap.size,x,none⟩)].getD n undef) (fun w'=>Below wr.heap.size wr w') (by kernel_rfl) rfl (by kernel_rfl) (by kernel_rfl) rfl (Below.refl _ _).drew ?step3 ?fin3;case step3 =>
         rintro i hi o ho f w' hG hpre;have HG:Hid (Below wr.heap.size wr w'):=hG;replace t0:=ak hG hbr t0;replace t4:=ak hG hbr t4;replace q0:=ak hG hba q0;replace c0:=ak hG HF2.out.lt c0;have HM:Hid (∀ e ∈ o.after,Region.binds .any e=true→_):=hpre;clear hG hpre;have hc:=ES (i:=i) (by omega);clear hi
         repeat' rcases hc with rfl | hc
         iterate 26
          ·obtain rfl:=Option.some.inj ho;have hm:=HM.out
           try simp [Region.binds] at hm
           refine aa rfl fun K HK=>?_;clear ho HM
           try simp only [hm]
           go_simp;exact HK.out _ _ ⟨_,by simp [upd, *],HG.out,rfl,fun k u hu=>hu⟩
        case fin3 =>
         rintro o ho f w' hG hall;have e24:f 24=Value.bool true:=hall 24 (by omega);have e25:f 25=Value.pointer (some ⟨w.heap.size,x,none⟩):=hall 25 (by omega);replace u0:=ak hG HF2.out.lt u0;have hF3:=HF2.out.later hG;replace fz:=hF3.free;have HF4:Hid (Fil w (w'.setCell ⟨w.heap.size,x,none⟩ (.bool true)) w.heap.size rs.length (bools (out2.set x true))):=by show Fil _ _ _ _ _; rw [gP]; exact hF3.set _ (by simp [bools]; omega) (by omega)
         have HJ2:Hid (aZ m rs[m].e.kind (rs[m].e.kids.drop (j + 1)) (j + 1) (out2.set x true)=aZ m rs[m].e.kind rs[m].e.kids 0 out):=by
          show _=_;rw [← HJ.out,dU _ _ _ _ _ hjl,hx];simp [*]
         clear hG hall hF3;obtain rfl:=Option.some.inj ho;clear ho;refine wpOp_step rfl (fun K hK=>?_);have HK:Hid (∀ a w,_→K a w):=hK;clear hK;simp only [e24,e25];go_simp;refine HK.out _ _ ?_;clear HK;go_wp2;go_roundw;case rel=>exact ⟨j + 1,out2.set x true,by omega,by go_num,by simp [ho2],HJ2,HF4⟩
         case measure=>simp [intOf] <;> omega
       | false =>
        have hjn:(j == 1)=false:=by simp at hjb ⊢; omega
        go_wp2_with fail;refine dZ 26 (fun n=>[u26,u27,u28,u29,u30,u31,u32,u33,u34,u35,u36,u37,u38,u39,u40,u41,u42,u43,u44,u45,u46,u47,u48,u49,u50,u51].getD n undef) (fun f=>{ tmps:=#[.slice (some ⟨b,off,none⟩) rs.length cap,undef,.slice none 0 0,.slice (some ⟨w.heap.size,0,none⟩) rs.length rs.length,.int .i64 (m:Int),.int .i64 (j:Int),.slice (some ⟨b,off,none⟩) rs.length cap,.int .i64 (rs.length:Int),.slice (some ⟨w.heap.size,0,none⟩) rs.length rs.length,.slice (some ⟨b,off,none⟩) rs.length cap,.int .i64 (rs.length:Int),.int .i64 ((rs.length:Int) - 1),.int .i64 (m:Int),.bool true,u14,u15,.int .i64 (j:Int),.slice (some ⟨b,off,none⟩) rs.length cap,.int .i64 (m:Int),.pointer (some ⟨b,off + m * 5,none⟩),.pointer (some ⟨b,off + m * 5 + 4,none⟩),.slice (some ⟨ba,offa,none⟩) rs[m].e.kids.length rs[m].capK,.int .i64 (rs[m].e.kids.length:Int),.bool true,u24,u25,f 0,f 1,f 2,f 3,f 4,f 5,f 6,f 7,f 8,f 9,f 10,f 11,f 12,f 13,f 14,f 15,f 16,f 17,f 18,f 19,f 20,f 21,f 22,f 23,f 24,f 25,undef],defers:=[] }) (fun n v _=>v=[Value.slice (some ⟨w.heap.size,0,none⟩) rs.length rs.length,.slice (some ⟨b,off,none⟩) rs.length cap,.int .i64 (m:Int),.pointer (some ⟨b,off + m * 5,none⟩),.pointer (some ⟨b,off + m * 5 + 4,none⟩),.slice (some ⟨ba,offa,none⟩) rs[m].e.kids.length rs[m].capK,.int .i64 (j:Int),.pointer (some ⟨ba,offa + j,none⟩),.int .i64 (x:Int),.slice (some ⟨w.heap.size,0,none⟩) rs.length rs.length,.int .i64 (m:Int),.pointer (some ⟨w.heap.size,m,none⟩),.bool false,.bool false,.slice (some ⟨b,off,none⟩) rs.length cap,.int .i64 (m:Int),.pointer (some ⟨b,off + m * 5,none⟩),.pointer (some ⟨b,off + m * 5,none⟩),.int .i64 rs[m].e.kind,.bool true,.bool true,.int .i64 (j:Int),.bool false,.bool false,.bool false,.pointer (some ⟨w.heap.size,x,none⟩)].getD n undef) (fun w'=>Below wr.heap.size wr w') (by kernel_rfl) rfl (by kernel_rfl) (by kernel_rfl) rfl (Below.refl _ _).drew ?step4 ?fin4;case step4 =>
         rintro i hi o ho f w' hG hpre;have HG:Hid (Below wr.heap.size wr w'):=hG;replace t0:=ak hG hbr t0;replace t4:=ak hG hbr t4;replace q0:=ak hG hba q0;replace c0:=ak hG HF2.out.lt c0;have HM:Hid (∀ e ∈ o.after,Region.binds .any e=true→_):=hpre;clear hG hpre;have hc:=ES (i:=i) (by omega);clear hi
         repeat' rcases hc with rfl | hc
         iterate 26
          ·obtain rfl:=Option.some.inj ho;have hm:=HM.out
           try simp [Region.binds] at hm
           refine aa rfl fun K HK=>?_;clear ho HM
           try simp only [hm]
           go_simp;exact HK.out _ _ ⟨_,by simp [upd, *],HG.out,rfl,fun k u hu=>hu⟩
        case fin4 =>
         rintro o ho f w' hG hall;have e24:f 24=Value.bool false:=hall 24 (by omega);have e25:f 25=Value.pointer (some ⟨w.heap.size,x,none⟩):=hall 25 (by omega);replace u0:=ak hG HF2.out.lt u0;have hF3:=HF2.out.later hG;replace fz:=hF3.free;have HF4:Hid (Fil w (w'.setCell ⟨w.heap.size,x,none⟩ (.bool false)) w.heap.size rs.length (bools (out2.set x false))):=by show Fil _ _ _ _ _; rw [gP]; exact hF3.set _ (by simp [bools]; omega) (by omega)
         have HJ2:Hid (aZ m rs[m].e.kind (rs[m].e.kids.drop (j + 1)) (j + 1) (out2.set x false)=aZ m rs[m].e.kind rs[m].e.kids 0 out):=by
          show _=_;rw [← HJ.out,dU _ _ _ _ _ hjl,hx];simp [*]
         clear hG hall hF3;obtain rfl:=Option.some.inj ho;clear ho;refine wpOp_step rfl (fun K hK=>?_);have HK:Hid (∀ a w,_→K a w):=hK;clear hK;simp only [e24,e25];go_simp;refine HK.out _ _ ?_;clear HK;go_wp2;go_roundw;case rel=>exact ⟨j + 1,out2.set x false,by omega,by go_num,by simp [ho2],HJ2,HF4⟩
         case measure=>simp [intOf] <;> omega
    ·have HOE:Hid (fO (au rs) m out2=dD (au rs)):=by
      show _=_;rw [← HNX.out,← HJ.out,List.drop_of_length_le (by omega)];rfl
     go_wp2;go_roundw;case rel=>exact ⟨m,out2,by omega,by go_num,ho2,HOE,HF2⟩
     case measure=>simp [intOf] <;> omega
  ·obtain rfl:m=0:=by omega
   have HFE:Hid (Fil w wr w.heap.size rs.length (bools (dD (au rs)))):=by
    show Fil _ _ _ _ _;rw [← HN.out];exact HF.out
   go_wp2;go_ret;exact ⟨rfl,HFE.out⟩
end Go.Proofs.YteoflgocljfgeaaGreatDoor
