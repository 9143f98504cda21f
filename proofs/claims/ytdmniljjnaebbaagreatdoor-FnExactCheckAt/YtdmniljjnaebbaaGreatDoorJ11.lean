/- The document's tuples at a place of a log. -/
import Derived.Test.YtdmniljjnaebbaaGreatDoorJ9
open Go.Proofs.Tryz
set_option maxHeartbeats 80000000
namespace Go.Proofs.YtdmniljjnaebbaaGreatDoor
set_option maxRecDepth 100000
set_option linter.unusedVariables false
open Go.ChangeShapes Go.WideShapes Go.ChangeAt Go.RowKit
open Pl
def MF (w:World) (b off:Nat) (c:Int × Tp):Prop:=w.cell? ⟨b,off,none⟩=some (.int .i64 c.1)∧w.cell? ⟨b,off + 1,none⟩=some (.string c.2.a)∧w.cell? ⟨b,off + 2,none⟩=some (.string c.2.b)∧w.cell? ⟨b,off + 3,none⟩=some (.string c.2.r)∧w.cell? ⟨b,off + 4,none⟩=some (.string c.2.c)∧w.cell? ⟨b,off + 5,none⟩=some (.string c.2.d)∧w.cell? ⟨b,off + 6,none⟩=some (.string c.2.s)
def JC (w:World) (ad:Option Addr) (cs:List (Int × Tp)):Prop:=cs=[] ∨ ∃ b off,ad=some ⟨b,off,none⟩∧b < w.heap.size∧∀ (i:Nat) (h:i < cs.length),MF w b (off + i * 7) cs[i]
theorem JC.below {w w':World} {ad:Option Addr} {cs:List (Int × Tp)} (h:JC w ad cs) (hb:Below w.heap.size w w'):JC w' ad cs:=by
 rcases h with h | ⟨b,off,e,hl,hr⟩
 ·exact .inl h
 ·refine .inr ⟨b,off,e,Nat.lt_of_lt_of_le hl hb.size,fun i hi=>?_⟩;have hc:∀ o,w'.cell? ⟨b,o,none⟩=w.cell? ⟨b,o,none⟩:=fun o=>hb.cell (p:=⟨b,o,none⟩) hl;obtain ⟨h0,h1,h2,h3,h4,h5,h6⟩:=hr i hi;exact ⟨(hc _).trans h0,(hc _).trans h1,(hc _).trans h2,(hc _).trans h3,(hc _).trans h4,(hc _).trans h5,(hc _).trans h6⟩
def qi (fit:Tp→Bool) (sok:Bool) (cs:List (Int × Tp)) (n:Int):Option (List Tp):=if sok=true∧cs.length≤60∧0≤n∧n≤cs.length then kH fit [] (cs.take n.toNat) else none
def NG (w:World) (r:Option (List Tp)) (e:Ending) (w':World):Prop :=
 Below w.heap.size w w'∧((r=none∧e=.returned (.tuple #[.slice none 0 0,.bool false])) ∨ ∃ L g c,r=some L∧e=.returned (.tuple #[.slice (some ⟨g,0,none⟩) L.length c,.bool true])∧w'.ownsRow w.heap.size 42 6 (.slice (some ⟨g,0,none⟩) L.length c) L.length (aB L))
theorem wF {w:World} {base g n c:Nat} {ts:List Tp} (h:w.ownsRow base 42 6 (.slice (some ⟨g,0,none⟩) n c) n (aB ts)) (hn:n=ts.length):eH w g 0 ts∧g < w.heap.size∧n≤c∧base≤g:=by
 have hlt:=h.lt g rfl;refine ⟨?_,hlt.2,?_,hlt.1⟩
 ·subst hn;intro i hi;have key:∀ j,j < 6→w.cell? ⟨g,0 + i * 6 + j,none⟩=(ts[i]).row[j]?:=fun j hj=>by
   rw [h.cellAt (0 + i * 6 + j) (by have:=dX ts; omega),← qC ts i hi j hj,Nat.zero_add]
  exact ⟨key 0 (by omega),key 1 (by omega),key 2 (by omega),key 3 (by omega),key 4 (by omega),key 5 (by omega)⟩
 ·rcases h.2 with ⟨e,-⟩ | ⟨g',cap',cur,e,-,-,hle,-⟩
  ·cases e
  ·injection e with e1 e2 e3; omega
theorem wG {w:World} {base g c:Nat} {ts:List Tp} (h:w.ownsRow base 42 6 (.slice (some ⟨g,0,none⟩) ts.length c) ts.length (aB ts)):eH w g 0 ts∧g < w.heap.size∧ts.length≤c:=⟨(wF h rfl).1,(wF h rfl).2.1,(wF h rfl).2.2.1⟩
theorem wH {ts:List Tp} {k:Int} {t:Tp} (hf:∀ x ∈ ts,x.fits) (ht:t.fits):∀ x ∈ dC ts k t,x.fits:=by
 intro x hx;unfold dC at hx;split at hx
 ·exact hf x ((nQ ts t x).1 hx).1
 ·rcases (qE ts t x).1 hx with rfl | h1
  ·exact ht
  ·exact hf x h1
theorem rW (sv:Value) (fit:Tp→Bool) (sok:Bool) (ad:Option Addr) (cap:Nat) (cs:List (Int × Tp)) (n:Int) (w:World) (hlen:cs.length≤1048576) (hs:JC w ad cs) (hf:∀ c ∈ cs,c.2.fits)
  (hsok:∀ w1:World,Below w.heap.size w w1→Calls prog 68 #[sv] w1 fun e w'=>e=.returned (.bool sok)∧Below w1.heap.size w1 w')
  (hfit:∀ (t:Tp) (w1:World),t.fits→Below w.heap.size w w1→Calls prog 76 #[sv,.agg #[.string t.a,.string t.b,.string t.r,.string t.c,.string t.d,.string t.s]] w1 fun e w'=>e=.returned (.bool (fit t))∧Below w1.heap.size w1 w') :
  Calls prog 43 #[sv,.slice ad cs.length cap,.int .i64 n] w (NG w (qi fit sok cs n)):=by
 have HS:=aC hs;have HF:=aC hf;have HSO:=aC hsok;have HFT:=aC hfit;clear hs hf hsok hfit;go_enter func43,ntmps43;go_wp2_with fail;refine (HSO.out _ (Below.refl _ _)).mono ?_;rintro e w1 ⟨rfl,hb1⟩;have HB1:=aC hb1;clear hb1;cases sok with
 | false =>
  have HN:Hid (qi fit false cs n=none):=by show _=_; unfold qi; rw [if_neg (by simp)]
  go_wp2;exact bodyPost_ret (v:=.tuple #[.slice none 0 0,.bool false]) (by simp [results,Tryz.results43,go_sem]) rfl ⟨HB1.out,.inl ⟨HN.out,rfl⟩⟩
 | true =>
  by_cases h60:60 < cs.length
  ·have hd:decide ((60:Int) < (cs.length:Int))=true:=by simp; omega
   have HN:Hid (qi fit true cs n=none):=by show _=_; unfold qi; rw [if_neg (by omega)]
   go_wp2;exact bodyPost_ret (v:=.tuple #[.slice none 0 0,.bool false]) (by simp [results,Tryz.results43,go_sem]) rfl ⟨HB1.out,.inl ⟨HN.out,rfl⟩⟩
  have hd:decide ((60:Int) < (cs.length:Int))=false:=by simp; omega
  by_cases hni:¬ (0≤n∧n≤cs.length)
  ·have hq:(decide (0≤n) && decide (n≤(cs.length:Int)))=false:=by rw [Bool.and_eq_false_iff,decide_eq_false_iff_not,decide_eq_false_iff_not]; omega
   have HN:Hid (qi fit true cs n=none):=by show _=_; unfold qi; rw [if_neg (by omega)]
   go_wp2_with fail;refine (mG n 0 cs.length _).mono ?_;rintro e w' ⟨rfl,rfl⟩;rw [hq];go_wp2;exact bodyPost_ret (v:=.tuple #[.slice none 0 0,.bool false]) (by simp [results,Tryz.results43,go_sem]) rfl ⟨HB1.out,.inl ⟨HN.out,rfl⟩⟩
  have hin:0≤n∧n≤cs.length:=Classical.not_not.1 hni;clear hni;have hq:(decide (0≤n) && decide (n≤(cs.length:Int)))=true:=by rw [Bool.and_eq_true,decide_eq_true_eq,decide_eq_true_eq]; exact hin
  obtain ⟨N,rfl⟩:∃ N:Nat,n=(N:Int):=⟨n.toNat,by omega⟩;have hNc:N≤cs.length:=by omega
  have HN:Hid (qi fit true cs N=kH fit [] (cs.take N)):=by show _=_; unfold qi; rw [if_pos (by refine ⟨rfl,?_,?_,?_⟩ <;> omega)]; simp
  have HLIT:Hid ((w1.alloc (.cells #[] 42)).ownsRow w.heap.size 42 6 (.slice (some ⟨w1.heap.size,0,none⟩) 0 0) 0 (aB [])):=World.ownsRow_lit w1 #[] 0 HB1.out.size (by unfold maxLen; omega) (by simp);have HBL:Hid (Below w.heap.size w (w1.alloc (.cells #[] 42))):=HB1.out.alloc HB1.out.size _;go_wp2_with fail;refine (mG N 0 cs.length _).mono ?_;rintro e w' ⟨rfl,rfl⟩;rw [hq];clear hin;go_wp2_with fail;go_loopw [8,9,10,11] (fun v i _ _ wr=>∃ (m:Nat) (ts:List Tp) (g cp:Nat),m≤N∧i=.int .i64 m∧v=.slice (some ⟨g,0,none⟩) ts.length cp∧Hid (kH fit ts ((cs.take N).drop m)=kH fit [] (cs.take N))∧Hid (wr.ownsRow w.heap.size 42 6 (.slice (some ⟨g,0,none⟩) ts.length cp) ts.length (aB ts))∧Hid (Below w.heap.size w wr)∧Hid (Up ts∧(∀ x ∈ ts,x.ok=true)∧ts.length≤40∧∀ x ∈ ts,x.fits)) (fun _ i _ _ _=>N - (intOf i).toNat);case atStart=>exact ⟨0,[],w'.heap.size,0,Nat.zero_le _,rfl,rfl,rfl,HLIT,HBL,List.Pairwise.nil,by simp,by simp,by simp⟩
  case round =>
   clear HLIT HBL;obtain ⟨m,ts,g,cp,hm,rfl,rfl,HLG,HO,HB,HU⟩:=hrel;by_cases hlt:m < N
   ·have hd2:decide ((m:Int) < (N:Int))=true:=by simp; omega
    have hmc:m < cs.length:=by omega
    rcases HS.out.below HB.out with hnil | ⟨b,off,rfl,hbl,hr⟩
    ·rw [hnil] at hmc; simp at hmc
    obtain ⟨c0,c1,c2,c3,c4,c5,c6⟩:=hr m hmc;obtain ⟨hrow,hgl,hcp⟩:=wG HO.out;have HCALL:=aC (yu sv fit g 0 cp ts cs[m].1 cs[m].2 wr (fun w1 hb=>HFT.out _ w1 (HF.out _ (List.getElem_mem hmc)) (HB.out.trans (hb.mono HB.out.size))) HU.out.2.2.1 hcp hrow hgl HU.out.2.2.2 (HF.out _ (List.getElem_mem hmc)));have hm0:=bq m;have hm1:(m:Int) < (cs.length:Int):=by omega
    have HST:=aC (BX (fit:=fit) (ts:=ts) hmc hlt);clear hr hrow;go_wp2_with fail;refine HCALL.out.mono ?_;rintro e w2 ⟨g2,c2',rfl,hown2,hb2⟩;have HB2:=aC (HB.out.trans (hb2.mono HB.out.size));have HO2:=aC (iw hown2 HB.out.size);clear hown2 hb2 HCALL c0 c1 c2 c3 c4 c5 c6;by_cases hz:bi fit ts cs[m].1 cs[m].2=0
    ·have hzb:(bi fit ts cs[m].1 cs[m].2 != 0)=false:=by rw [hz]; rfl
     have HR2:=aC (pJ HU.out.1 HU.out.2.1 HU.out.2.2.1 hz);have HF2:=aC (wH (k:=cs[m].1) HU.out.2.2.2 (HF.out _ (List.getElem_mem hmc)));rw [wy hz] at HO2 ⊢;have HL2:Hid (kH fit (dC ts cs[m].1 cs[m].2) ((cs.take N).drop (m + 1))=kH fit [] (cs.take N)):=by show _=_; rw [← HLG.out,HST.out,if_pos hz]
     go_wp2;go_roundw;case rel=>exact ⟨m + 1,dC ts cs[m].1 cs[m].2,g2,c2',by omega,by go_num,rfl,HL2,HO2,HB2,HR2.out.1,HR2.out.2.1,HR2.out.2.2,HF2.out⟩
     case measure=>simp [intOf] <;> omega
    ·have hzb:(bi fit ts cs[m].1 cs[m].2 != 0)=true:=by simp [hz]
     have HN2:Hid (qi fit true cs N=none):=by show _=_; rw [HN.out,← HLG.out,HST.out,if_neg hz]
     go_wp2;exact bodyPost_ret (v:=.tuple #[.slice none 0 0,.bool false]) (by simp [results,Tryz.results43,go_sem]) rfl ⟨HB2.out,.inl ⟨HN2.out,rfl⟩⟩
   ·have hd2:decide ((m:Int) < (N:Int))=false:=by simp; omega
    obtain rfl:m=N:=by omega
    have HN2:Hid (qi fit true cs m=some ts):=by show _=_; rw [HN.out,← HLG.out,List.drop_eq_nil_of_le (by rw [List.length_take]; omega)]; rfl
    go_wp2;exact bodyPost_ret (v:=.tuple #[.slice (some ⟨g,0,none⟩) ts.length cp,.bool true]) (by simp [results,Tryz.results43,go_sem]) rfl ⟨HB.out,.inr ⟨ts,g,cp,HN2.out,rfl,HO.out⟩⟩
theorem G8 {a b r c d s:ByteArray} {left:Int} (h:jH a b r c d s left < 0):jH a b r c d s left=-1:=by
 unfold jH at h ⊢
 repeat (split; · rfl)
 simp only [*,if_false] at h
theorem AJ (k:Int) (a b r c d s:ByteArray) (left:Int) (w:World) (ha:a.size≤maxLen) (hb:b.size≤maxLen) (hr:r.size≤maxLen) (hc:c.size≤maxLen) (hd:d.size≤maxLen) (hs:s.size≤maxLen) (h0:0≤left) (h1:left≤1048576) :
  Calls prog 7 #[.agg #[.int .i64 k,.string a,.string b,.string r,.string c,.string d,.string s],.int .i64 left] w fun e w'=>e=.returned (.int .i64 (jH a b r c d s left))∧Below w.heap.size w w':=by
 have hle:=BJ a b r c d s left;go_enter func7,ntmps7;go_wp2_with fail;refine (BL _ _ _ _ _ _ _ _ ha hb hr hc hd hs h0 h1).mono ?_;rintro e w1 ⟨rfl,hb1⟩;have HB1:Below w.heap.size w w1:=((Below.refl _ _).alloc (Nat.le_refl _) _).trans (hb1.mono (by simp));clear hb1;by_cases hn:jH a b r c d s left < 0
 ·go_wp2;go_ret;exact ⟨ib (G8 hn).symm,HB1⟩
 ·go_wp2;go_ret;exact ⟨rfl,HB1⟩
theorem AL (k:Int) (a b r c d s:ByteArray) (w:World) :
  Calls prog 11 #[.agg #[.int .i64 k,.string a,.string b,.string r,.string c,.string d,.string s]] w fun e w'=>e=.returned (.agg #[.int .i64 k,.string a,.string b,.string r,.string c,.string d,.string s])∧Below w.heap.size w w':=by
 go_enter func11,ntmps11;go_wp2_with fail;refine (BM _ _ _ _ _ _ _).mono ?_;rintro e w1 ⟨rfl,hb1⟩;obtain ⟨hc1,hf1⟩:=dM hb1;have hz1:w.heap.size + 1 + 1 < w1.heap.size:=by have:=hb1.size; simp at this; omega
 have hy1:w.heap.size + 1 < w1.heap.size:=by omega
 have hx1:w.heap.size < w1.heap.size:=by omega
 have HB1:Below w.heap.size w w1:=Below.trans (by
  repeat (first | exact Below.refl _ _ | refine Below.setCell ?_ (by first | (simp; done) | (simp; omega)) _ | refine Below.alloc ?_ (by first | (simp; done) | (simp; omega)) _)) (hb1.mono (by simp; omega))
 clear hb1;go_wp2;exact bodyPost_ret (v:=.agg #[.int .i64 k,.string a,.string b,.string r,.string c,.string d,.string s]) (by simp [results,Tryz.results11,go_sem, *]) rfl ⟨rfl,by
  repeat (first | refine Below.setCell ?_ (by first | (simp; done) | (simp; omega)) _ | with_reducible exact HB1)⟩
end Go.Proofs.YtdmniljjnaebbaaGreatDoor
namespace Go.Proofs.YtdmniljjnaebbaaGreatDoor
open Go.ChangeShapes Go.WideShapes Go.ChangeAt Go.RowKit
open Pl
attribute [local go_sem ↓] Go.wp_at_zero Go.wp_at_succ
theorem uW {w W w':World} {b b' o0 o1 o2 o3 o4 o5 o6 o7 o8 o9 o10 o11:Nat} {x0 x1 x2 x3 x4 x5 x6 x7 x8 x9 x10 x11:Value} (_hb:b < b')
  (h:W.cell? ⟨b',o0,none⟩=some x0∧W.cell? ⟨b',o1,none⟩=some x1∧W.cell? ⟨b',o2,none⟩=some x2∧W.cell? ⟨b',o3,none⟩=some x3∧W.cell? ⟨b',o4,none⟩=some x4∧W.cell? ⟨b',o5,none⟩=some x5∧W.cell? ⟨b,o6,none⟩=some x6∧W.cell? ⟨b,o7,none⟩=some x7∧W.cell? ⟨b,o8,none⟩=some x8∧W.cell? ⟨b,o9,none⟩=some x9∧W.cell? ⟨b,o10,none⟩=some x10∧W.cell? ⟨b,o11,none⟩=some x11∧b < W.heap.size∧b' + 1≤W.heap.size∧Below (b' + 1) w W)
  (hB:Below W.heap.size W w'):w'.cell? ⟨b',o0,none⟩=some x0∧w'.cell? ⟨b',o1,none⟩=some x1∧w'.cell? ⟨b',o2,none⟩=some x2∧w'.cell? ⟨b',o3,none⟩=some x3∧w'.cell? ⟨b',o4,none⟩=some x4∧w'.cell? ⟨b',o5,none⟩=some x5∧w'.cell? ⟨b,o6,none⟩=some x6∧w'.cell? ⟨b,o7,none⟩=some x7∧w'.cell? ⟨b,o8,none⟩=some x8∧w'.cell? ⟨b,o9,none⟩=some x9∧w'.cell? ⟨b,o10,none⟩=some x10∧w'.cell? ⟨b,o11,none⟩=some x11∧b < w'.heap.size∧b' + 1≤w'.heap.size∧Below (b' + 1) w w':=by
 obtain ⟨h0,h1,h2,h3,h4,h5,h6,h7,h8,h9,h10,h11,hb',hn,hW⟩:=h;have hc:∀ o,w'.cell? ⟨b,o,none⟩=W.cell? ⟨b,o,none⟩:=fun o=>hB.cell (p:=⟨b,o,none⟩) hb';have hd:∀ o,w'.cell? ⟨b',o,none⟩=W.cell? ⟨b',o,none⟩:=fun o=>hB.cell (p:=⟨b',o,none⟩) hn;exact ⟨by rw [hd]; exact h0,by rw [hd]; exact h1,by rw [hd]; exact h2,by rw [hd]; exact h3,by rw [hd]; exact h4,by rw [hd]; exact h5,by rw [hc]; exact h6,by rw [hc]; exact h7,by rw [hc]; exact h8,by rw [hc]; exact h9,by rw [hc]; exact h10,by rw [hc]; exact h11,Nat.lt_of_lt_of_le hb' hB.size,Nat.le_trans hn hB.size,hW.trans (hB.mono (by omega))⟩
theorem aQ {w:World} {a:Addr} {v:Value} (h:w.cell? a=some v) (o:Obj):(w.alloc o).cell? a=some v :=
 cell_later ((Below.refl _ _).alloc (Nat.le_refl _) _) h
theorem rX (b off cap:Nat) (ts:List Tp) (w:World) (hlen:ts.length≤maxLen) (hr:eH w b off ts) (hb:b < w.heap.size) (hf:∀ t ∈ ts,t.fits) :
    Calls prog 93 #[.slice (some ⟨b,off,none⟩) ts.length cap] w fun e w'=>e=.returned (.bool (eu ts))∧Below w.heap.size w w':=by
  unfold maxLen at hlen;by_cases hbig:40 < ts.length
  · have HT:Hid (eu ts=false):=by show _=_; simp [eu]; omega
    go_enter func93,ntmps93;go_wp2;go_ret;exact ⟨ae HT.out.symm,Below.refl _ _⟩
  · go_enter func93,ntmps93;go_wp2;go_loopw [10] (fun i wr=>∃ k:Nat,k≤ts.length∧i=.int .i64 k∧Hid (rH ts k=true)∧Below w.heap.size w wr) (fun i _=>ts.length - (intOf i).toNat);case atStart=>exact ⟨0,Nat.zero_le _,rfl,rfl,Below.refl _ _⟩
    case round =>
      obtain ⟨k,hk,rfl,hu,hB⟩:=hrel;by_cases hlt:k < ts.length
      · obtain ⟨t0,t1,t2,t3,t4,t5⟩:=(hr.below hB hb) k hlt;obtain ⟨f0,f1,f2,f3,f4,f5⟩:=hf ts[k] (List.getElem_mem hlt);have hbr:b < wr.heap.size:=Nat.lt_of_lt_of_le hb hB.size;have hk1:=bq k;have hk2:(k:Int) < (ts.length:Int):=by omega
        by_cases hok:ts[k].ok=true
        · have hok':aT ts[k].a ts[k].b ts[k].r ts[k].c ts[k].d ts[k].s=true:=hok;by_cases hz:k=0
          · have HU:Hid (rH ts (k + 1)=true):=by show _=_; rw [nO,hu.out]; subst hz; rw [rJ hlt,hok]; rfl
            have hz0:(0 < k)=False:=by simp [hz]
            clear hok hu hr hf hz;go_wp2_with fail;refine wp_region_held_drew (S:=fun w'=>w'.cell? ⟨wr.heap.size,0,none⟩=some (.string ts[k].a)∧w'.cell? ⟨wr.heap.size,1,none⟩=some (.string ts[k].b)∧w'.cell? ⟨wr.heap.size,2,none⟩=some (.string ts[k].r)∧w'.cell? ⟨wr.heap.size,3,none⟩=some (.string ts[k].c)∧w'.cell? ⟨wr.heap.size,4,none⟩=some (.string ts[k].d)∧w'.cell? ⟨wr.heap.size,5,none⟩=some (.string ts[k].s)∧wr.heap.size + 1≤w'.heap.size∧Below (wr.heap.size + 1) (wr.alloc (.cells #[.string ts[k].a,.string ts[k].b,.string ts[k].r,.string ts[k].c,.string ts[k].d,.string ts[k].s] 42)) w') (by kernel_rfl) ⟨by simp,by simp,by simp,by simp,by simp,by simp,by simp,(Below.refl _ _).drew⟩ (fun hHeld=>?_);refine tk 0 15 ?_;go_frame;refine wpAnyH_ready (rs:=[1]) (by kernel_rfl) (by simp) ?_;refine AllReadyH.cons rfl (fun K hK=>?_) AllReadyH.nil;go_simp;refine (bG _ _ _ _ _ _ _ f0 f1 f2 f3 f4 f5).mono ?_;rintro e w1 ⟨he,hb1⟩;rw [hok'] at he;subst he;go_wp2_with fail;refine hK.out _ _ (F6 (Nat.lt_succ_self _) hHeld hb1) (fun hHeld=>?_);clear hK K;refine tk 2 17 ?_;go_frame;refine tk 3 18 ?_;go_frame;refine tk 4 19 ?_;go_frame;refine jI (i:=5) (v:=.bool false) 20 rfl rfl (by kernel_rfl) (by kernel_rfl) (by kernel_rfl) (fun _ _ _ h=>h) (Or.inl ⟨by rfl,?_⟩) (by assumption) ?_
            · intro w hSw; (try dsimp only at hSw); go_simp
            go_frame;refine tk 6 21 ?_;go_frame;refine jP 7 22 ?_;go_frame;refine jP 8 23 ?_;go_frame;refine jP 9 24 ?_;go_frame;refine jP 10 25 ?_;go_frame;refine jP 11 26 ?_;go_frame;refine jP 12 27 ?_;go_frame;refine jP 13 28 ?_;go_frame;refine jP 14 29 ?_;go_frame;refine tk 15 30 ?_;go_frame;refine tk 16 31 ?_;go_frame;refine wpAnyH_done (by kernel_rfl) ?_ _;have HB:Below w.heap.size w _:=hB.trans ((((Below.refl wr.heap.size wr).alloc (Nat.le_refl _) _).trans (hHeld.2.2.2.2.2.2.2.mono (by omega))).mono hB.size);clear hHeld;go_wp2;go_roundw;case rel=>exact ⟨k + 1,by omega,by go_num,HU,HB⟩
            case measure=>simp [intOf]; omega
          · obtain ⟨m,hm⟩:∃ m:Nat,k=m + 1:=⟨k - 1,by omega⟩;have hml:m < ts.length:=by omega
            obtain ⟨q0,q1,q2,q3,q4,q5⟩:=(hr.below hB hb) m hml;obtain ⟨g0,g1,g2,g3,g4,g5⟩:=hf ts[m] (List.getElem_mem hml);have hkm:(k:Int) - 1=(m:Int):=by omega
            have hm1:=bq m;have hm2:(m:Int) < (ts.length:Int):=by omega
            have hpos:(0:Int) < (k:Int):=by omega
            have hposN:0 < k:=by omega
            have hwm:IntKind.i64.wrap (m:Int)=(m:Int):=by rw [IntKind.wrap_i64]; omega
            have HA:Hid (uC ts k=ts[m].ahead ts[k]):=by show _=_; subst hm; rw [nP hlt,hok]; rfl
            clear hm hz hr hf;by_cases ha:ts[m].ahead ts[k]=true
            · have ha':dU ts[m].a ts[m].b ts[m].r ts[m].c ts[m].d ts[m].s ts[k].a ts[k].b ts[k].r ts[k].c ts[k].d ts[k].s=true:=ha;have HU:Hid (rH ts (k + 1)=true):=by show _=_; rw [nO,hu.out,HA.out,ha]; rfl
              clear hok hu HA ha;go_wp2_with fail;refine wp_region_held_drew (S:=fun w'=>w'.cell? ⟨wr.heap.size,0,none⟩=some (.string ts[k].a)∧w'.cell? ⟨wr.heap.size,1,none⟩=some (.string ts[k].b)∧w'.cell? ⟨wr.heap.size,2,none⟩=some (.string ts[k].r)∧w'.cell? ⟨wr.heap.size,3,none⟩=some (.string ts[k].c)∧w'.cell? ⟨wr.heap.size,4,none⟩=some (.string ts[k].d)∧w'.cell? ⟨wr.heap.size,5,none⟩=some (.string ts[k].s)∧w'.cell? ⟨b,off + m * 6,none⟩=some (.string ts[m].a)∧w'.cell? ⟨b,off + m * 6 + 1,none⟩=some (.string ts[m].b)∧w'.cell? ⟨b,off + m * 6 + 2,none⟩=some (.string ts[m].r)∧w'.cell? ⟨b,off + m * 6 + 3,none⟩=some (.string ts[m].c)∧w'.cell? ⟨b,off + m * 6 + 4,none⟩=some (.string ts[m].d)∧w'.cell? ⟨b,off + m * 6 + 5,none⟩=some (.string ts[m].s)∧b < w'.heap.size∧wr.heap.size + 1≤w'.heap.size∧Below (wr.heap.size + 1) (wr.alloc (.cells #[.string ts[k].a,.string ts[k].b,.string ts[k].r,.string ts[k].c,.string ts[k].d,.string ts[k].s] 42)) w') (by kernel_rfl) ⟨by simp,by simp,by simp,by simp,by simp,by simp,aQ q0 _,aQ q1 _,aQ q2 _,aQ q3 _,aQ q4 _,aQ q5 _,by simp; omega,by simp,(Below.refl _ _).drew⟩ (fun hHeld=>?_);refine tk 0 15 ?_;go_frame;refine wpAnyH_ready (rs:=[1]) (by kernel_rfl) (by simp) ?_;refine AllReadyH.cons rfl (fun K hK=>?_) AllReadyH.nil;go_simp;refine (bG _ _ _ _ _ _ _ f0 f1 f2 f3 f4 f5).mono ?_;rintro e w1 ⟨he,hb1⟩;rw [hok'] at he;subst he;go_wp2_with fail;refine hK.out _ _ (uW hbr hHeld hb1) (fun hHeld=>?_);clear hK K;refine tk 2 17 ?_;go_frame;refine tk 3 18 ?_;go_frame;refine tk 4 19 ?_;go_frame;refine jI (i:=5) (v:=.bool true) 20 rfl rfl (by kernel_rfl) (by kernel_rfl) (by kernel_rfl) (fun _ _ _ h=>h) (Or.inl ⟨by rfl,?_⟩) (by assumption) ?_
              · intro w hSw; (try dsimp only at hSw); go_simp
              go_frame;refine tk 6 21 ?_;go_frame;refine tk 7 22 ?_;go_frame;refine tk 8 23 ?_;go_frame;refine jI (i:=9) (v:=.int .i64 (m:Int)) 24 rfl rfl (by kernel_rfl) (by kernel_rfl) (by kernel_rfl) (fun _ _ _ h=>h) (Or.inl ⟨by rfl,?_⟩) (by assumption) ?_
              · intro w hSw; (try dsimp only at hSw); go_simp
              go_frame;refine tk 10 25 ?_;go_frame;refine tk 11 26 ?_;go_frame;refine tk 12 27 ?_;go_frame;refine wpAnyH_ready (rs:=[13]) (by kernel_rfl) (by simp) ?_;refine AllReadyH.cons rfl (fun K hK=>?_) AllReadyH.nil;go_simp;refine (oI _ _ _ _ _ _ _ _ _ _ _ _ _ g0 g1 g2 g3 g4 g5 f0 f1 f2 f3 f4 f5).mono ?_;rintro e w2 ⟨he,hb2⟩;rw [ha'] at he;subst he;go_wp2_with fail;refine hK.out _ _ (uW hbr hHeld hb2) (fun hHeld=>?_);clear hK K;refine tk 14 29 ?_;go_frame;refine tk 15 30 ?_;go_frame;refine tk 16 31 ?_;go_frame;refine wpAnyH_done (by kernel_rfl) ?_ _;have HB:Below w.heap.size w _:=hB.trans ((((Below.refl wr.heap.size wr).alloc (Nat.le_refl _) _).trans (hHeld.2.2.2.2.2.2.2.2.2.2.2.2.2.2.mono (by omega))).mono hB.size);clear hHeld;go_wp2;go_roundw;case rel=>exact ⟨k + 1,by omega,by go_num,HU,HB⟩
              case measure=>simp [intOf]; omega
            · have hna:ts[m].ahead ts[k]=false:=by simpa using ha
              have ha':dU ts[m].a ts[m].b ts[m].r ts[m].c ts[m].d ts[m].s ts[k].a ts[k].b ts[k].r ts[k].c ts[k].d ts[k].s=false:=hna;have HT:Hid (eu ts=false):=qA hlt (by rw [HA.out,hna]);clear hok hu HA ha hna;go_wp2_with fail;refine wp_region_held_drew (S:=fun w'=>w'.cell? ⟨wr.heap.size,0,none⟩=some (.string ts[k].a)∧w'.cell? ⟨wr.heap.size,1,none⟩=some (.string ts[k].b)∧w'.cell? ⟨wr.heap.size,2,none⟩=some (.string ts[k].r)∧w'.cell? ⟨wr.heap.size,3,none⟩=some (.string ts[k].c)∧w'.cell? ⟨wr.heap.size,4,none⟩=some (.string ts[k].d)∧w'.cell? ⟨wr.heap.size,5,none⟩=some (.string ts[k].s)∧w'.cell? ⟨b,off + m * 6,none⟩=some (.string ts[m].a)∧w'.cell? ⟨b,off + m * 6 + 1,none⟩=some (.string ts[m].b)∧w'.cell? ⟨b,off + m * 6 + 2,none⟩=some (.string ts[m].r)∧w'.cell? ⟨b,off + m * 6 + 3,none⟩=some (.string ts[m].c)∧w'.cell? ⟨b,off + m * 6 + 4,none⟩=some (.string ts[m].d)∧w'.cell? ⟨b,off + m * 6 + 5,none⟩=some (.string ts[m].s)∧b < w'.heap.size∧wr.heap.size + 1≤w'.heap.size∧Below (wr.heap.size + 1) (wr.alloc (.cells #[.string ts[k].a,.string ts[k].b,.string ts[k].r,.string ts[k].c,.string ts[k].d,.string ts[k].s] 42)) w') (by kernel_rfl) ⟨by simp,by simp,by simp,by simp,by simp,by simp,aQ q0 _,aQ q1 _,aQ q2 _,aQ q3 _,aQ q4 _,aQ q5 _,by simp; omega,by simp,(Below.refl _ _).drew⟩ (fun hHeld=>?_);refine tk 0 15 ?_;go_frame;refine wpAnyH_ready (rs:=[1]) (by kernel_rfl) (by simp) ?_;refine AllReadyH.cons rfl (fun K hK=>?_) AllReadyH.nil;go_simp;refine (bG _ _ _ _ _ _ _ f0 f1 f2 f3 f4 f5).mono ?_;rintro e w1 ⟨he,hb1⟩;rw [hok'] at he;subst he;go_wp2_with fail;refine hK.out _ _ (uW hbr hHeld hb1) (fun hHeld=>?_);clear hK K;refine tk 2 17 ?_;go_frame;refine tk 3 18 ?_;go_frame;refine tk 4 19 ?_;go_frame;refine jI (i:=5) (v:=.bool true) 20 rfl rfl (by kernel_rfl) (by kernel_rfl) (by kernel_rfl) (fun _ _ _ h=>h) (Or.inl ⟨by rfl,?_⟩) (by assumption) ?_
              · intro w hSw; (try dsimp only at hSw); go_simp
              go_frame;refine tk 6 21 ?_;go_frame;refine tk 7 22 ?_;go_frame;refine tk 8 23 ?_;go_frame;refine jI (i:=9) (v:=.int .i64 (m:Int)) 24 rfl rfl (by kernel_rfl) (by kernel_rfl) (by kernel_rfl) (fun _ _ _ h=>h) (Or.inl ⟨by rfl,?_⟩) (by assumption) ?_
              · intro w hSw; (try dsimp only at hSw); go_simp
              go_frame;refine tk 10 25 ?_;go_frame;refine tk 11 26 ?_;go_frame;refine tk 12 27 ?_;go_frame;refine wpAnyH_ready (rs:=[13]) (by kernel_rfl) (by simp) ?_;refine AllReadyH.cons rfl (fun K hK=>?_) AllReadyH.nil;go_simp;refine (oI _ _ _ _ _ _ _ _ _ _ _ _ _ g0 g1 g2 g3 g4 g5 f0 f1 f2 f3 f4 f5).mono ?_;rintro e w2 ⟨he,hb2⟩;rw [ha'] at he;subst he;go_wp2_with fail;refine hK.out _ _ (uW hbr hHeld hb2) (fun hHeld=>?_);clear hK K;refine tk 14 29 ?_;go_frame;refine tk 15 30 ?_;go_frame;refine tk 16 31 ?_;go_frame;refine wpAnyH_done (by kernel_rfl) ?_ _;have HB:Below w.heap.size w _:=hB.trans ((((Below.refl wr.heap.size wr).alloc (Nat.le_refl _) _).trans (hHeld.2.2.2.2.2.2.2.2.2.2.2.2.2.2.mono (by omega))).mono hB.size);clear hHeld;go_wp2;go_ret;exact ⟨ae HT.out.symm,HB⟩
        · have hno:ts[k].ok=false:=by simpa using hok
          have HT:Hid (eu ts=false):=qA hlt (F5 hlt hno);have hno':aT ts[k].a ts[k].b ts[k].r ts[k].c ts[k].d ts[k].s=false:=hno;clear hok hno hr hf hu;go_wp2_with fail;refine wp_region_held_drew (S:=fun w'=>w'.cell? ⟨wr.heap.size,0,none⟩=some (.string ts[k].a)∧w'.cell? ⟨wr.heap.size,1,none⟩=some (.string ts[k].b)∧w'.cell? ⟨wr.heap.size,2,none⟩=some (.string ts[k].r)∧w'.cell? ⟨wr.heap.size,3,none⟩=some (.string ts[k].c)∧w'.cell? ⟨wr.heap.size,4,none⟩=some (.string ts[k].d)∧w'.cell? ⟨wr.heap.size,5,none⟩=some (.string ts[k].s)∧wr.heap.size + 1≤w'.heap.size∧Below (wr.heap.size + 1) (wr.alloc (.cells #[.string ts[k].a,.string ts[k].b,.string ts[k].r,.string ts[k].c,.string ts[k].d,.string ts[k].s] 42)) w') (by kernel_rfl) ⟨by simp,by simp,by simp,by simp,by simp,by simp,by simp,(Below.refl _ _).drew⟩ (fun hHeld=>?_);refine tk 0 15 ?_;go_frame;refine wpAnyH_ready (rs:=[1]) (by kernel_rfl) (by simp) ?_;refine AllReadyH.cons rfl (fun K hK=>?_) AllReadyH.nil;go_simp;refine (bG _ _ _ _ _ _ _ f0 f1 f2 f3 f4 f5).mono ?_;rintro e w1 ⟨he,hb1⟩;rw [hno'] at he;subst he;go_wp2_with fail;refine hK.out _ _ (F6 (Nat.lt_succ_self _) hHeld hb1) (fun hHeld=>?_);clear hK K;refine tk 2 17 ?_;go_frame;refine tk 3 18 ?_;go_frame;refine jP 4 19 ?_;go_frame;refine jP 5 20 ?_;go_frame;refine jP 6 21 ?_;go_frame;refine jP 7 22 ?_;go_frame;refine jP 8 23 ?_;go_frame;refine jP 9 24 ?_;go_frame;refine jP 10 25 ?_;go_frame;refine jP 11 26 ?_;go_frame;refine jP 12 27 ?_;go_frame;refine jP 13 28 ?_;go_frame;refine jP 14 29 ?_;go_frame;refine jP 15 30 ?_;go_frame;refine tk 16 31 ?_;go_frame;refine wpAnyH_done (by kernel_rfl) ?_ _;have HB:Below w.heap.size w _:=hB.trans ((((Below.refl wr.heap.size wr).alloc (Nat.le_refl _) _).trans (hHeld.2.2.2.2.2.2.2.mono (by omega))).mono hB.size);clear hHeld;go_wp2;go_ret;exact ⟨ae HT.out.symm,HB⟩
      · go_wp2;go_ret;exact ⟨ae (by have e:k=ts.length:=(by omega);subst e;simp [eu,hu.out]; omega),hB⟩
end Go.Proofs.YtdmniljjnaebbaaGreatDoor
