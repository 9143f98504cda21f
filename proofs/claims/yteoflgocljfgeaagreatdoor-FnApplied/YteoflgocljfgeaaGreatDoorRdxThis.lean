/- Contract of the document's reader: an item that lists what is allowed. -/
import Derived.Test.YteoflgocljfgeaaGreatDoorJ10
open Go.Proofs.Tryz
set_option maxHeartbeats 80000000
namespace Go.Proofs.YteoflgocljfgeaaGreatDoor
set_option maxRecDepth 100000
open Go.ChangeShapes Go.WideShapes Go.ChangeAt Go.RowKit
open Pl
structure PL (w1 wr:World) (R X:Nat) (s:ByteArray) (xs:List Al) (p:Nat) (bad:Bool) (v vA:Value):Prop where
 rd:RdC wr R s p bad v
 onl:Onl R lc w1 wr
 c0:wr.cell? ⟨X,0,none⟩=some (.int .i64 1)
 c1:wr.cell? ⟨X,1,none⟩=some vA
 c2:wr.cell? ⟨X,2,none⟩=some (.string ⟨#[]⟩)
 c3:wr.cell? ⟨X,3,none⟩=some (.string ⟨#[]⟩)
 c4:wr.cell? ⟨X,4,none⟩=some (.slice none 0 0)
 fr:iG wr X
 lt:X < wr.heap.size
 own:wr.ownsRow (X + 1) 149 2 vA xs.length (pairs xs)
theorem PL.moved {w1 wr w':World} {R X:Nat} {s:ByteArray} {xs:List Al} {p p':Nat} {bad bad':Bool} {v vA:Value} (h:PL w1 wr R X s xs p bad v vA) (hRX:R < X) (hg:wr.grownBy w' (some R)) (hr:RdC w' R s p' bad' v):PL w1 w' R X s xs p' bad' v vA:=by
 have hne:some X ≠ some R:=by intro e; injection e with e; omega
 refine ⟨hr,h.onl.trans0 (Onl.of_grown hg),hg.cell h.c0 hne,hg.cell h.c1 hne,hg.cell h.c2 hne,hg.cell h.c3 hne,hg.cell h.c4 hne,bF h.fr (hg.block X h.lt hne),Nat.lt_of_lt_of_le h.lt hg.size,h.own.kept hg (.inr ?_)⟩;intro e; have:=(h.own.lt R e).1; omega
theorem PL.made {w1 wr:World} {R X:Nat} {s:ByteArray} {xs:List Al} {p:Nat} {bad:Bool} {v vA:Value} (h:PL w1 wr R X s xs p bad v vA) (o:Obj):PL w1 (wr.alloc o) R X s xs p bad v vA:=by
 have hg:=World.grownBy_alloc wr o none;exact ⟨h.rd.grown hg (by simp),h.onl.trans0 (Onl.of_below ((Below.refl _ _).alloc (Nat.le_refl _) _)),hg.cell h.c0 (by simp),hg.cell h.c1 (by simp),hg.cell h.c2 (by simp),hg.cell h.c3 (by simp),hg.cell h.c4 (by simp),bF h.fr (hg.block X h.lt (by simp)),Nat.lt_of_lt_of_le h.lt hg.size,h.own.alloc o⟩
theorem PL.aset {w1 wr:World} {R X:Nat} {s:ByteArray} {xs:List Al} {p:Nat} {bad:Bool} {v vA:Value} (h:PL w1 wr R X s xs p bad v vA) (hRX:R < X) (h1:w1.heap.size≤X) {A:Nat} (hA:X < A) (hv:vA.ownBlock ≠ some A) (o:Nat) (u:Value):PL w1 (wr.setCell ⟨A,o,none⟩ u) R X s xs p bad v vA:=by
 have hb:∀ k,k ≠ A→(wr.setCell ⟨A,o,none⟩ u).heap[k]?=wr.heap[k]?:=fun k hk=>Below.heap_setCell wr _ _ k hk;refine ⟨h.rd.other (by omega) _ _,h.onl.at_new (by omega) _ _,?_,?_,?_,?_,?_,bF h.fr (hb X (by omega)),by simpa using h.lt,gX h.own fun g hg=>hb g (fun e=>hv (by rw [hg,e]))⟩
 all_goals rw [World.cell?_of_block (w:=wr) (hb X (by omega))]
 ·exact h.c0
 ·exact h.c1
 ·exact h.c2
 ·exact h.c3
 ·exact h.c4
theorem FK (xs:List Al) (a:Al):pairs (xs ++ [a])=pairs xs ++ [.string a.t,.string a.s]:=by simp [pairs]
theorem PL.app {w1 wr w':World} {R X:Nat} {s:ByteArray} {xs:List Al} {p:Nat} {bad:Bool} {v vA vB:Value} (h:PL w1 wr R X s xs p bad v vA) (hRX:R < X) (h1:w1.heap.size≤X) (a:Al) (hown:w'.ownsRow (X + 1) 149 2 vB (xs.length + 1) (pairs xs ++ [.string a.t,.string a.s])) (hg:wr.grownBy w' vA.ownBlock):PL w1 (w'.setCell ⟨X,1,none⟩ vB) R X s (xs ++ [a]) p bad v vB:=by
 have hX:some X ≠ vA.ownBlock:=fun e=>by have:=(h.own.lt X e.symm).1; omega
 have hR:some R ≠ vA.ownBlock:=fun e=>by have:=(h.own.lt R e.symm).1; omega
 have ho:Onl R lc w1 w':=⟨hg.os.trans h.onl.os,hg.tape.trans h.onl.tape,hg.output.trans h.onl.output,Nat.le_trans h.onl.size hg.size,fun k hk h2 h3=>(hg.block k (Nat.lt_of_lt_of_le hk h.onl.size) (fun e=>by have:=(h.own.lt k e.symm).1; omega)).trans (h.onl.block k hk h2 h3)⟩;refine ⟨(h.rd.grown hg hR).other (by omega) _ _,ho.at_new h1 _ _,?_,mS (hg.cell h.c1 hX),?_,?_,?_,fun j=>?_,?_,?_⟩
 ·rw [mO (by omega)]; exact hg.cell h.c0 hX
 ·rw [mO (by omega)]; exact hg.cell h.c2 hX
 ·rw [mO (by omega)]; exact hg.cell h.c3 hX
 ·rw [mO (by omega)]; exact hg.cell h.c4 hX
 ·simpa using bF h.fr (hg.block X h.lt hX) j
 ·simpa using Nat.lt_of_lt_of_le h.lt hg.size
 ·rw [FK,List.length_append,List.length_singleton];exact ownsRow_setCell_below hown (by show X < X + 1; omega) _
def wbad (R:Nat) (w:World):Nat:=match w.cell? ⟨R,2,none⟩ with
 | some (.bool true)=>0
 | _=>1
theorem RdC.wbad0 {w:World} {R:Nat} {s:ByteArray} {p:Nat} {v:Value} (h:RdC w R s p true v):wbad R w=0:=by
 simp [Go.Proofs.YteoflgocljfgeaaGreatDoor.wbad,h.c2]
theorem RdC.wbad1 {w:World} {R:Nat} {s:ByteArray} {p:Nat} {v:Value} (h:RdC w R s p false v):wbad R w=1:=by
 simp [Go.Proofs.YteoflgocljfgeaaGreatDoor.wbad,h.c2]
theorem vW (w:World) (a b:ByteArray) (g:Nat) (hg:w.heap.size=g):∀ j u,[Value.string a,.string b][j]?=some u→(w.alloc (.cells #[.string a,.string b] 149)).cell? ((⟨g,0,none⟩:Addr).add j)=some u:=by
 intro j u hu;subst hg;rw [show (⟨w.heap.size,0,none⟩:Addr).add j=⟨w.heap.size,0 + j,none⟩ by simp [Addr.add]; omega,Nat.zero_add];have:=World.cell?_alloc_mark w #[.string a,.string b] 149 (0,0) j;rw [this];simpa using hu
def nE (s:ByteArray) (st:RS):Int × RS:=match bU s (s.size + 1) [] (jk d9 st) with
 | (some xs,st')=>((st'.out.length:Int),pK ⟨1,xs,⟨#[]⟩,⟨#[]⟩,[]⟩ st')
 | (none,st')=>(0,st')
theorem vX {s:ByteArray} {st st':RS} {xs:List Al} (h:bU s (s.size + 1) [] (jk d9 st)=(some xs,st')):nE s st=((st'.out.length:Int),pK ⟨1,xs,⟨#[]⟩,⟨#[]⟩,[]⟩ st'):=by simp only [nE,h]
theorem Dk {s:ByteArray} {st st':RS} (h:bU s (s.size + 1) [] (jk d9 st)=(none,st')):nE s st=(0,st'):=by simp only [nE,h]
theorem Dl (s:ByteArray) (n:Nat) (xs:List Al) (p:Nat) (o:List Ex):bU s n xs ⟨p,true,o⟩=(none,⟨p,true,o⟩):=by
 cases n with
 | zero=>rfl
 | succ n=>rfl
structure PairIs (s:ByteArray) (p:Nat) (o:List Ex) (a:Al) (pb:Nat):Prop where
 a:(⟨av s p,uJ s (bf s ⟨p,false,o⟩)⟩:Al)=a
 b:aQ s (bf s ⟨p,false,o⟩)=⟨pb,false,o⟩
theorem FL {s:ByteArray} {p:Nat} {o:List Ex} (h:kz s qY (p + aj s p) false=false):PairIs s p o ⟨av s p,⟨#[]⟩⟩ (p + aj s p):=by
 have e:jM s qY (bf s ⟨p,false,o⟩)=false:=h;exact ⟨by unfold uJ; rw [e]; rfl,by unfold aQ; rw [e]; rfl⟩
theorem Dm {s:ByteArray} {p:Nat} {o:List Ex} (h:kz s qY (p + aj s p) false=true):PairIs s p o ⟨av s p,av s (p + aj s p + 1)⟩ (p + aj s p + 1 + aj s (p + aj s p + 1)):=by
 have e:jM s qY (bf s ⟨p,false,o⟩)=true:=h;exact ⟨by unfold uJ; rw [e]; rfl,by unfold aQ; rw [e]; rfl⟩
theorem tY {s:ByteArray} {p pb n:Nat} {o:List Ex} {a:Al} {xs:List Al} (h:PairIs s p o a pb) (h1:kz s dC pb false=true):bU s (n + 1) xs ⟨p,false,o⟩=(some (xs ++ [a]),⟨pb + 1,false,o⟩):=by
 have e:jM s dC ⟨pb,false,o⟩=true:=h1;unfold bU;rw [h.a,h.b,e]; rfl
theorem tZ {s:ByteArray} {p pb n:Nat} {o:List Ex} {a:Al} {xs:List Al} (h:PairIs s p o a pb) (h1:kz s dC pb false=false) (h2:kz s iM pb false=true):bU s (n + 1) xs ⟨p,false,o⟩=bU s n (xs ++ [a]) ⟨pb + 1,false,o⟩:=by
 have e:jM s dC ⟨pb,false,o⟩=false:=h1;have e2:jM s iM ⟨pb,false,o⟩=true:=h2
 conv=>lhs; unfold bU
 rw [h.a,h.b,e,e2]; rfl
theorem yQ {s:ByteArray} {p pb n:Nat} {o:List Ex} {a:Al} {xs:List Al} (h:PairIs s p o a pb) (h1:kz s dC pb false=false) (h2:kz s iM pb false=false):bU s (n + 1) xs ⟨p,false,o⟩=bU s n (xs ++ [a]) ⟨pb,true,o⟩:=by
 have e:jM s dC ⟨pb,false,o⟩=false:=h1;have e2:jM s iM ⟨pb,false,o⟩=false:=h2
 conv=>lhs; unfold bU
 rw [h.a,h.b,e,e2]; rfl
theorem capOf {w:World} {base size n m cap:Nat} {e:TypeId} {ad:Option Addr} {xs:List Value} (h:w.ownsRow base e size (.slice ad n cap) m xs) (hm:m=n:=by rfl):n≤cap:=by
 rcases h.2 with ⟨e1,h0⟩ | ⟨g,cap',cur,e1,-,-,hnc,-⟩
 ·injection e1 with _ e2 e3; omega
 ·injection e1 with _ e2 e3; omega
theorem PL.node {w1 wr:World} {R X:Nat} {s:ByteArray} {xs:List Al} {p:Nat} {bad:Bool} {v vA:Value} (h:PL w1 wr R X s xs p bad v vA) (h1:w1.heap.size≤X) {base:Nat} (hb:base≤w1.heap.size):∃ ad cap,vA=.slice ad xs.length cap∧NewQ base wr ⟨⟨1,xs,⟨#[]⟩,⟨#[]⟩,[]⟩,ad,cap,none,0⟩∧∀ g,ny ⟨⟨1,xs,⟨#[]⟩,⟨#[]⟩,[]⟩,ad,cap,none,0⟩ g→X < g:=by
 obtain ⟨ad,cap,e,h2,h3,h4⟩:=Nb h.own rfl;have hK:∀ g,¬ bK ⟨⟨1,xs,⟨#[]⟩,⟨#[]⟩,[]⟩,ad,cap,none,0⟩ g:=fun g hg=>hg.1 rfl;have hA:∀ g,ny ⟨⟨1,xs,⟨#[]⟩,⟨#[]⟩,[]⟩,ad,cap,none,0⟩ g→X + 1≤g∧g < wr.heap.size∧iG wr g:=by
  rintro g (hg | hg)
  ·exact h4 g hg.1 hg.2
  ·exact absurd hg (hK g)
 refine ⟨ad,cap,e,⟨h3,fun h=>absurd rfl h,⟨h2,.inl rfl⟩,fun g hg=>⟨?_,(hA g hg).2⟩,fun g _ hg=>hK g hg,capOf (e ▸ h.own)⟩,fun g hg=>(hA g hg).1⟩;have:=(hA g hg).1;omega
theorem FM (R:Nat) (s:ByteArray) (st:RS) (base:Nat) (v:Value) (qs:List ER) (w:World) (h:RdF w R s st base v qs) (hR:R < base) (hB:base≤w.heap.size) (hs:s.size≤1000) (hp:st.p≤s.size) (hn:qs.length≤100000)
  (h0:kz s d9 st.p st.bad=true) :
  Calls prog 167 #[.pointer (some ⟨R,0,none⟩)] w (rq R s base v qs w (nE s st)):=by
 obtain ⟨iA,hiA,zA0,zA1,zA2⟩:=info_parts (P:=prog) (e:=149) (z:=.agg #[.string ⟨#[]⟩,.string ⟨#[]⟩]) (size:=2) (bytes:=32) (by kernel_rfl);have HIA:Hid (prog.info? 149=some iA∧iA.zero=some (.agg #[.string ⟨#[]⟩,.string ⟨#[]⟩])∧iA.size=2∧iA.bytes=32):=⟨hiA,zA0,zA1,zA2⟩;have H:=ai h;have HP:=ai hp
 have hbad:st.bad=false:=by cases e:st.bad with
  | false=>rfl
  | true=>rw [e] at h0; cases h0
 have HBD:=ai hbad;have HP1:Hid (st.p + 5≤s.size):=sF h0;clear h hp hiA zA0 zA1 zA2 hbad;go_enter func167,ntmps167;go_wp2_with fail;refine (iN R s d9 st.p st.bad v w H.out.rd hs HP.out (by decide)).mono ?_;rintro e w1 ⟨rfl,hr1,hg1⟩;have HF1:=ai (H.out.is_yes hR h0 hr1 hg1);have HO1:=ai (Onl.of_grown hg1);rw [h0];clear hr1 hg1 h0;obtain ⟨W2,hW2⟩:∃ W2,W2=w1.alloc (.cells #[.int .i64 1,.slice none 0 0,.string ⟨#[]⟩,.string ⟨#[]⟩,.slice none 0 0] 139):=⟨_,rfl⟩;have HL2:Hid (PL w1 W2 R w1.heap.size s [] (st.p + 5) false v (.slice none 0 0)):=by
  rw [hW2];have hrd:RdC w1 R s (st.p + 5) false v:=by have:=HF1.out.rd; rw [show (jk d9 st).bad=false from HBD.out] at this; exact this
  refine ⟨hrd.below ((Below.refl _ _).alloc (Nat.le_refl _) _),Onl.of_below ((Below.refl _ _).alloc (Nat.le_refl _) _),by simp,by simp,by simp,by simp,by simp,fun j=>by simp,by simp,World.ownsRow_nil _ _ _ _⟩
 have HX0:Hid (w.heap.size≤w1.heap.size):=HO1.out.size;have HRX:Hid (R < w1.heap.size):=HF1.out.rd.lt;have HX1:Hid (w1.heap.size≤w1.heap.size):=Nat.le_refl _;go_wp2_with fail;rw [← hW2];clear hW2;obtain ⟨X,hX⟩:∃ X,X=w1.heap.size:=⟨_,rfl⟩;replace HL2:Hid (PL w1 W2 R X s [] (st.p + 5) false v (.slice none 0 0)):=by rw [hX]; exact HL2
 replace HX0:Hid (w.heap.size≤X):=by rw [hX]; exact HX0
 replace HRX:Hid (R < X):=by rw [hX]; exact HRX
 replace HX1:Hid (w1.heap.size≤X):=by rw [hX]; exact HX1
 rw [← hX];clear hX;go_loopw [14] (fun _ wr=>∃ (n p:Nat) (bad:Bool) (xs:List Al) (vA:Value),Hid (p≤s.size)∧Hid (bU s n xs ⟨p,bad,st.out⟩=bU s (s.size + 1) [] (jk d9 st))∧Hid (bad=false→s.size - p < n∧xs.length + 5≤p)∧Hid (PL w1 wr R X s xs p bad v vA)) (fun _ wr=>s.size - wat R wr + wbad R wr);case atStart=>exact ⟨s.size + 1,st.p + 5,false,[],.slice none 0 0,HP1.out,by show _=_; unfold jk; rw [HBD.out]; rfl,fun _=>⟨by omega,by simp⟩,HL2.out⟩
 case round =>
  obtain ⟨n,p,bad,xs,vA,HPL,HPP,HLN,HL⟩:=hrel;clear HL2;have r2:=HL.out.rd.c2;have rl:=HL.out.rd.lt;cases bad with
  | true =>
   have EQ:=ai (Dk (HPP.out.symm.trans (Dl s n xs p st.out)));have HF:=ai (HF1.out.over hR HL.out.onl HL.out.rd);have HO:=ai (HO1.out.trans0 HL.out.onl);go_wp2;exact bodyPost_ret (v:=.int .i64 0) (by simp [results,Tryz.results167,go_sem]) rfl (by rw [EQ.out]; exact ⟨v,[],rfl,by rw [List.append_nil]; exact HF.out,HO.out.any v,fun q hq=>by cases hq⟩)
  | false =>
   obtain ⟨m,hm⟩:∃ m,n=m + 1:=⟨n - 1,by have:=(HLN.out rfl).1; omega⟩;subst hm;have HPW:=ai (jl s p HPL.out);have HLN1:=ai (HLN.out rfl).1;have HLN2:=ai (HLN.out rfl).2;clear HLN;go_wp2_with fail;refine (rf R s p false v wr HL.out.rd hs HPL.out).mono ?_;rintro e w4 ⟨rfl,hr4,hg4⟩;have HL4:=ai (HL.out.moved HRX.out hg4 hr4);have HPLC:=ai HL.out.rd.place;have HPLB:=ai HL.out.rd.wbad1;clear hr4 hg4 HL r2 rl;obtain ⟨W5,hW5⟩:∃ W5,W5=w4.alloc (.cells #[.string (av s p),.string ⟨#[]⟩] 149):=⟨_,rfl⟩;have HL5:Hid (PL w1 W5 R X s xs (p + aj s p) false v vA):=by rw [hW5]; exact HL4.out.made _
   have HA0:Hid (W5.cell? ⟨w4.heap.size,0,none⟩=some (.string (av s p))):=by show _=_; rw [hW5]; simp
   have HA1:Hid (W5.cell? ⟨w4.heap.size,1,none⟩=some (.string ⟨#[]⟩)):=by show _=_; rw [hW5]; simp
   have HAF:Hid (iG W5 w4.heap.size):=fun j=>by rw [hW5]; simp
   have HAL:Hid (w4.heap.size < W5.heap.size):=by show _ < _; rw [hW5]; simp
   have HAX:Hid (X < w4.heap.size):=HL4.out.lt;have HAV:Hid (vA.ownBlock ≠ some w4.heap.size):=fun e=>by have:=(HL4.out.own.lt _ e).2; omega
   go_wp2_with fail;rw [← hW5];clear hW5;obtain ⟨A,hA⟩:∃ A,A=w4.heap.size:=⟨_,rfl⟩;rw [← hA] at HA0 HA1 HAF HAL HAX HAV;rw [← hA];clear hA HL4;refine (iN R s qY (p + aj s p) false v W5 HL5.out.rd hs HPW.out (by decide)).mono ?_;rintro e w6 ⟨rfl,hr6,hg6⟩;have HAR:Hid (some A ≠ some R):=by intro e; injection e with e; have:=HRX.out; have:=HAX.out; omega
   have HB0:=ai (hg6.cell HA0.out HAR.out);have HB1:=ai (hg6.cell HA1.out HAR.out);have HBF:=ai (bF HAF.out (hg6.block A HAL.out HAR.out));have HBL:=ai (Nat.lt_of_lt_of_le HAL.out hg6.size);cases hc:kz s qY (p + aj s p) false with
   | false =>
    rw [qp hc] at hr6;have HL6:=ai (HL5.out.moved HRX.out hg6 hr6);have PI:=ai (FL (o:=st.out) hc);have HPB:=HPW;have HPG:Hid (p≤p + aj s p):=Nat.le_add_right _ _;clear hr6 hg6 hc HL5 HA0 HA1 HAF HAL;have a0:=HB0.out;have a1:=HB1.out;have k1:=HL6.out.c1;obtain ⟨W9,hW9⟩:∃ W9,W9=w6.alloc (.cells #[.string (av s p),.string ((⟨#[]⟩:ByteArray))] 149):=⟨_,rfl⟩;have HL9:Hid (PL w1 W9 R X s xs (p + aj s p) false v vA):=by rw [hW9]; exact HL6.out.made _
    have HNW:Hid (∀ j u,[Value.string (av s p),.string ((⟨#[]⟩:ByteArray))][j]?=some u→W9.cell? ((⟨w6.heap.size,0,none⟩:Addr).add j)=some u):=by rw [hW9]; exact vW w6 _ _ _ (rfl)
    have HSZ9:Hid (X + 1≤W9.heap.size):=HL9.out.lt;have hxs:xs.length≤1000:=by have:=HLN2.out; have:=HPL.out; omega
    go_wp2_with (at_builtin; rw [← hW9]; clear hW9; refine wpList_append_own _ rfl _ _ 136 rfl (X + 1) 149 iA (.agg #[.string ⟨#[]⟩,.string ⟨#[]⟩]) 2 32 underlying136 HIA.out.1 HIA.out.2.1 HIA.out.2.2.1 HIA.out.2.2.2 rfl (by decide) vA xs.length (pairs xs) rfl HL9.out.own ⟨w6.heap.size,0,none⟩ 1 1 [Value.string (av s p),.string ((⟨#[]⟩:ByteArray))] rfl rfl HNW.out (by intro u hu; simp at hu; rcases hu with rfl | rfl <;> rfl) (by unfold maxLen; omega) (by omega) HSZ9.out ?_);intro vB w10 hown10 hgr10 _;obtain ⟨gB,cB,rfl⟩:=dW hown10;have hX10:some X ≠ vA.ownBlock:=fun e=>by have:=(HL9.out.own.lt X e.symm).1; omega
    have k10:=hgr10.cell HL9.out.c1 hX10;have f10:=bF HL9.out.fr (hgr10.block X HL9.out.lt hX10) 1;have l10:=Nat.lt_of_lt_of_le HL9.out.lt hgr10.size;have HL11:=ai (HL9.out.app HRX.out HX1.out ⟨av s p,(⟨#[]⟩:ByteArray)⟩ hown10 hgr10);clear hown10 hgr10 a0 a1 k1 HL9 hX10 HNW HSZ9 HL6;go_wp2_with fail;obtain ⟨W11,hW11⟩:∃ W11,W11=w10.setCell ⟨X,1,none⟩ (.slice (some ⟨gB,0,none⟩) (xs.length + 1) cB):=⟨_,rfl⟩;rw [← hW11] at HL11 ⊢;clear hW11 k10 f10 l10;refine (iN R s dC (p + aj s p) false v W11 HL11.out.rd hs HPB.out (by decide)).mono ?_;rintro e w12 ⟨rfl,hr12,hg12⟩;cases hcl:kz s dC (p + aj s p) false with
    | true =>
     rw [ma hcl] at hr12;have HL12:=ai (HL11.out.moved HRX.out hg12 hr12);have EQ:=ai (vX (HPP.out.symm.trans (tY (xs:=xs) (n:=m) PI.out hcl)));obtain ⟨ad,cap,hva,hnq,hin⟩:=HL12.out.node HX1.out (base:=base) (Nat.le_trans hB HO1.out.size);injection hva with hva1 hva2 hva3;subst hva1;subst hva3;clear hva2;have HNQ:=ai hnq;have HIN:=ai hin;have k0:=HL12.out.c0;have k1:=HL12.out.c1;have k2:=HL12.out.c2;have k3:=HL12.out.c3;have k4:=HL12.out.c4;have HF:=ai (HF1.out.over hR HL12.out.onl HL12.out.rd);have HO:=ai (HO1.out.trans0 HL12.out.onl);clear hr12 hg12 hcl hnq hin HL11 HL12;go_wp2_with fail;have HADD:=Di R s ⟨(p + aj s p) + 1,false,st.out⟩ base v qs ⟨⟨1,xs ++ [⟨av s p,(⟨#[]⟩:ByteArray)⟩],⟨#[]⟩,⟨#[]⟩,[]⟩,some ⟨gB,0,none⟩,cB,none,0⟩ w12 HF.out hR (Nat.le_trans hB HO.out.size) hn HNQ.out (.inl ⟨rfl,rfl,rfl⟩) (fun g hg=>⟨fun e=>by have:=(HF1.out.own.lt g e).2; have:=HIN.out g hg; have:=HX1.out; omega,fun q' hq' hg'=>by have:=(HF1.out.lie q' hq' g hg').2.1; have:=HIN.out g hg; have:=HX1.out; omega⟩);rw [show (⟨⟨1,xs ++ [⟨av s p,(⟨#[]⟩:ByteArray)⟩],⟨#[]⟩,⟨#[]⟩,[]⟩,some ⟨gB,0,none⟩,cB,none,0⟩:ER).val=.agg #[.int .i64 1,.slice (some ⟨gB,0,none⟩) (xs.length + 1) cB,.string ⟨#[]⟩,.string ⟨#[]⟩,.slice none 0 0] by simp [ER.val]] at HADD;refine HADD.mono ?_;rintro e w13 ⟨v13,rfl,hF13,hW13⟩;have HF13:=ai hF13;have HW13:=ai ((HO.out.any v).trans hW13);clear hF13 hW13;go_wp2;exact bodyPost_ret (v:=.int .i64 (st.out.length:Int)) (by simp [results,Tryz.results167,go_sem]) rfl (by rw [EQ.out]; exact ⟨v13,_,rfl,HF13.out,HW13.out,fun q hq g hg=>by rw [List.mem_singleton] at hq; subst hq; have:=HIN.out g hg; have:=HX0.out; omega⟩)
    | false =>
     rw [qp hcl] at hr12;have HL12:=ai (HL11.out.moved HRX.out hg12 hr12);have HCL:=ai hcl;clear hr12 hg12 hcl HL11;go_wp2_with fail;refine (iN R s iM (p + aj s p) false v w12 HL12.out.rd hs HPB.out (by decide)).mono ?_;rintro e w13 ⟨rfl,hr13,hg13⟩;cases hcm:kz s iM (p + aj s p) false with
     | true =>
      rw [ma hcm] at hr13;have HL13:=ai (HL12.out.moved HRX.out hg13 hr13);have HQ13:Hid ((p + aj s p) + 1≤s.size):=sF hcm;have EQ:=ai ((tZ (xs:=xs) (n:=m) PI.out HCL.out hcm).symm.trans HPP.out);have HM:Hid (s.size - wat R w13 + wbad R w13 < s.size - wat R wr + wbad R wr):=by
       show _ < _;rw [HL13.out.rd.wbad1,HPLB.out,show wat R w13=(p + aj s p) + 1 from HL13.out.rd.place,HPLC.out];have:=HQ13.out;have:=HPG.out;omega
      clear hr13 hg13 hcm HL12;go_wp2;go_roundw;case rel=>exact ⟨m,(p + aj s p) + 1,false,xs ++ [(⟨av s p,(⟨#[]⟩:ByteArray)⟩:Al)],.slice (some ⟨gB,0,none⟩) (xs.length + 1) cB,HQ13.out,EQ.out,fun _=>⟨by have:=HLN1.out; have:=HPG.out; have:=HQ13.out; omega,by have:=HLN2.out; have:=HPG.out; rw [List.length_append,List.length_singleton]; omega⟩,HL13.out⟩
      case measure=>exact HM.out
     | false =>
      rw [qp hcm] at hr13;have HL13:=ai (HL12.out.moved HRX.out hg13 hr13);have EQ:=ai ((yQ (xs:=xs) (n:=m) PI.out HCL.out hcm).symm.trans HPP.out);have c2:=HL13.out.rd.c2;have f2:=HL13.out.rd.fr 2;have hl13:=HL13.out.rd.lt;have HL14:Hid (PL w1 (w13.setCell ⟨R,2,none⟩ (.bool true)) R X s (xs ++ [⟨av s p,(⟨#[]⟩:ByteArray)⟩]) (p + aj s p) true v (.slice (some ⟨gB,0,none⟩) (xs.length + 1) cB)):=HL13.out.moved HRX.out (by have:=vS w13 R 2 (.bool true) 0; exact this) HL13.out.rd.hurt;have HM:Hid (s.size - wat R (w13.setCell ⟨R,2,none⟩ (.bool true)) + wbad R (w13.setCell ⟨R,2,none⟩ (.bool true)) < s.size - wat R wr + wbad R wr):=by
       show _ < _;rw [HL14.out.rd.wbad0,HPLB.out,show wat R (w13.setCell ⟨R,2,none⟩ (.bool true))=(p + aj s p) from HL14.out.rd.place,HPLC.out];have:=HPG.out;omega
      clear hr13 hg13 hcm HL12 HL13;go_wp2;go_roundw;case rel=>exact ⟨m,(p + aj s p),true,xs ++ [(⟨av s p,(⟨#[]⟩:ByteArray)⟩:Al)],.slice (some ⟨gB,0,none⟩) (xs.length + 1) cB,HPB.out,EQ.out,fun h=>(by cases h),HL14.out⟩
      case measure=>exact HM.out
   | true =>
    rw [ma hc] at hr6;have HL6:=ai (HL5.out.moved HRX.out hg6 hr6);have PI:=ai (Dm (o:=st.out) hc);have HPH:Hid (p + aj s p + 1≤s.size):=sF hc;have HPB:=ai (jl s _ HPH.out);have HPG:Hid (p≤p + aj s p + 1 + aj s (p + aj s p + 1)):=by show _≤_; omega
    clear hr6 hg6 hc HL5 HA0 HA1 HAF HAL;go_wp2_with fail;refine (rf R s (p + aj s p + 1) false v w6 HL6.out.rd hs HPH.out).mono ?_;rintro e w7 ⟨rfl,hr7,hg7⟩;have HL7:=ai (HL6.out.moved HRX.out hg7 hr7);have HC0:=ai (hg7.cell HB0.out HAR.out);have a1:=hg7.cell HB1.out HAR.out;have hcf:=bF HBF.out (hg7.block A HBL.out HAR.out);have f1:=hcf 1;have hcl:=Nat.lt_of_lt_of_le HBL.out hg7.size;obtain ⟨W8,hW8⟩:∃ W8,W8=w7.setCell ⟨A,1,none⟩ (.string (av s (p + aj s p + 1))):=⟨_,rfl⟩;have HL8:Hid (PL w1 W8 R X s xs (p + aj s p + 1 + aj s (p + aj s p + 1)) false v vA):=by rw [hW8]; exact HL7.out.aset HRX.out HX1.out HAX.out HAV.out _ _
    have HD0:Hid (W8.cell? ⟨A,0,none⟩=some (.string (av s p))):=by show _=_; rw [hW8,mO (by omega)]; exact HC0.out
    have HD1:Hid (W8.cell? ⟨A,1,none⟩=some (.string (av s (p + aj s p + 1)))):=by show _=_; rw [hW8]; exact mS a1
    clear hr7 hg7 HL6 HB0 HB1 HBF HBL;have a0:=HC0.out;have k1:=HL7.out.c1;have hxa:X ≠ A:=by have:=HAX.out; omega
    have hax:A ≠ X:=by have:=HAX.out; omega
    obtain ⟨W9,hW9⟩:∃ W9,W9=W8.alloc (.cells #[.string (av s p),.string (av s (p + aj s p + 1))] 149):=⟨_,rfl⟩;have HL9:Hid (PL w1 W9 R X s xs (p + aj s p + 1 + aj s (p + aj s p + 1)) false v vA):=by rw [hW9]; exact HL8.out.made _
    have HNW:Hid (∀ j u,[Value.string (av s p),.string (av s (p + aj s p + 1))][j]?=some u→W9.cell? ((⟨w7.heap.size,0,none⟩:Addr).add j)=some u):=by rw [hW9]; exact vW W8 _ _ _ (by rw [hW8]; simp)
    have HSZ9:Hid (X + 1≤W9.heap.size):=HL9.out.lt;have hxs:xs.length≤1000:=by have:=HLN2.out; have:=HPL.out; omega
    go_wp2_with (at_builtin; rw [← hW8]; clear hW8; rw [← hW9]; clear hW9; refine wpList_append_own _ rfl _ _ 136 rfl (X + 1) 149 iA (.agg #[.string ⟨#[]⟩,.string ⟨#[]⟩]) 2 32 underlying136 HIA.out.1 HIA.out.2.1 HIA.out.2.2.1 HIA.out.2.2.2 rfl (by decide) vA xs.length (pairs xs) rfl HL9.out.own ⟨w7.heap.size,0,none⟩ 1 1 [Value.string (av s p),.string (av s (p + aj s p + 1))] rfl rfl HNW.out (by intro u hu; simp at hu; rcases hu with rfl | rfl <;> rfl) (by unfold maxLen; omega) (by omega) HSZ9.out ?_);intro vB w10 hown10 hgr10 _;obtain ⟨gB,cB,rfl⟩:=dW hown10;have hX10:some X ≠ vA.ownBlock:=fun e=>by have:=(HL9.out.own.lt X e.symm).1; omega
    have k10:=hgr10.cell HL9.out.c1 hX10;have f10:=bF HL9.out.fr (hgr10.block X HL9.out.lt hX10) 1;have l10:=Nat.lt_of_lt_of_le HL9.out.lt hgr10.size;have HL11:=ai (HL9.out.app HRX.out HX1.out ⟨av s p,av s (p + aj s p + 1)⟩ hown10 hgr10);clear hown10 hgr10 a0 a1 k1 HL9 hX10 HNW HSZ9 HL8 hxa hax f1 hcl hcf;go_wp2_with fail;obtain ⟨W11,hW11⟩:∃ W11,W11=w10.setCell ⟨X,1,none⟩ (.slice (some ⟨gB,0,none⟩) (xs.length + 1) cB):=⟨_,rfl⟩;rw [← hW11] at HL11 ⊢;clear hW11 k10 f10 l10;refine (iN R s dC (p + aj s p + 1 + aj s (p + aj s p + 1)) false v W11 HL11.out.rd hs HPB.out (by decide)).mono ?_;rintro e w12 ⟨rfl,hr12,hg12⟩;cases hcl:kz s dC (p + aj s p + 1 + aj s (p + aj s p + 1)) false with
    | true =>
     rw [ma hcl] at hr12;have HL12:=ai (HL11.out.moved HRX.out hg12 hr12);have EQ:=ai (vX (HPP.out.symm.trans (tY (xs:=xs) (n:=m) PI.out hcl)));obtain ⟨ad,cap,hva,hnq,hin⟩:=HL12.out.node HX1.out (base:=base) (Nat.le_trans hB HO1.out.size);injection hva with hva1 hva2 hva3;subst hva1;subst hva3;clear hva2;have HNQ:=ai hnq;have HIN:=ai hin;have k0:=HL12.out.c0;have k1:=HL12.out.c1;have k2:=HL12.out.c2;have k3:=HL12.out.c3;have k4:=HL12.out.c4;have HF:=ai (HF1.out.over hR HL12.out.onl HL12.out.rd);have HO:=ai (HO1.out.trans0 HL12.out.onl);clear hr12 hg12 hcl hnq hin HL11 HL12;go_wp2_with fail;have HADD:=Di R s ⟨(p + aj s p + 1 + aj s (p + aj s p + 1)) + 1,false,st.out⟩ base v qs ⟨⟨1,xs ++ [⟨av s p,av s (p + aj s p + 1)⟩],⟨#[]⟩,⟨#[]⟩,[]⟩,some ⟨gB,0,none⟩,cB,none,0⟩ w12 HF.out hR (Nat.le_trans hB HO.out.size) hn HNQ.out (.inl ⟨rfl,rfl,rfl⟩) (fun g hg=>⟨fun e=>by have:=(HF1.out.own.lt g e).2; have:=HIN.out g hg; have:=HX1.out; omega,fun q' hq' hg'=>by have:=(HF1.out.lie q' hq' g hg').2.1; have:=HIN.out g hg; have:=HX1.out; omega⟩);rw [show (⟨⟨1,xs ++ [⟨av s p,av s (p + aj s p + 1)⟩],⟨#[]⟩,⟨#[]⟩,[]⟩,some ⟨gB,0,none⟩,cB,none,0⟩:ER).val=.agg #[.int .i64 1,.slice (some ⟨gB,0,none⟩) (xs.length + 1) cB,.string ⟨#[]⟩,.string ⟨#[]⟩,.slice none 0 0] by simp [ER.val]] at HADD;refine HADD.mono ?_;rintro e w13 ⟨v13,rfl,hF13,hW13⟩;have HF13:=ai hF13;have HW13:=ai ((HO.out.any v).trans hW13);clear hF13 hW13;go_wp2;exact bodyPost_ret (v:=.int .i64 (st.out.length:Int)) (by simp [results,Tryz.results167,go_sem]) rfl (by rw [EQ.out]; exact ⟨v13,_,rfl,HF13.out,HW13.out,fun q hq g hg=>by rw [List.mem_singleton] at hq; subst hq; have:=HIN.out g hg; have:=HX0.out; omega⟩)
    | false =>
     rw [qp hcl] at hr12;have HL12:=ai (HL11.out.moved HRX.out hg12 hr12);have HCL:=ai hcl;clear hr12 hg12 hcl HL11;go_wp2_with fail;refine (iN R s iM (p + aj s p + 1 + aj s (p + aj s p + 1)) false v w12 HL12.out.rd hs HPB.out (by decide)).mono ?_;rintro e w13 ⟨rfl,hr13,hg13⟩;cases hcm:kz s iM (p + aj s p + 1 + aj s (p + aj s p + 1)) false with
     | true =>
      rw [ma hcm] at hr13;have HL13:=ai (HL12.out.moved HRX.out hg13 hr13);have HQ13:Hid ((p + aj s p + 1 + aj s (p + aj s p + 1)) + 1≤s.size):=sF hcm;have EQ:=ai ((tZ (xs:=xs) (n:=m) PI.out HCL.out hcm).symm.trans HPP.out);have HM:Hid (s.size - wat R w13 + wbad R w13 < s.size - wat R wr + wbad R wr):=by
       show _ < _;rw [HL13.out.rd.wbad1,HPLB.out,show wat R w13=(p + aj s p + 1 + aj s (p + aj s p + 1)) + 1 from HL13.out.rd.place,HPLC.out];have:=HQ13.out;have:=HPG.out;omega
      clear hr13 hg13 hcm HL12;go_wp2;go_roundw;case rel=>exact ⟨m,(p + aj s p + 1 + aj s (p + aj s p + 1)) + 1,false,xs ++ [(⟨av s p,av s (p + aj s p + 1)⟩:Al)],.slice (some ⟨gB,0,none⟩) (xs.length + 1) cB,HQ13.out,EQ.out,fun _=>⟨by have:=HLN1.out; have:=HPG.out; have:=HQ13.out; omega,by have:=HLN2.out; have:=HPG.out; rw [List.length_append,List.length_singleton]; omega⟩,HL13.out⟩
      case measure=>exact HM.out
     | false =>
      rw [qp hcm] at hr13;have HL13:=ai (HL12.out.moved HRX.out hg13 hr13);have EQ:=ai ((yQ (xs:=xs) (n:=m) PI.out HCL.out hcm).symm.trans HPP.out);have c2:=HL13.out.rd.c2;have f2:=HL13.out.rd.fr 2;have hl13:=HL13.out.rd.lt;have HL14:Hid (PL w1 (w13.setCell ⟨R,2,none⟩ (.bool true)) R X s (xs ++ [⟨av s p,av s (p + aj s p + 1)⟩]) (p + aj s p + 1 + aj s (p + aj s p + 1)) true v (.slice (some ⟨gB,0,none⟩) (xs.length + 1) cB)):=HL13.out.moved HRX.out (by have:=vS w13 R 2 (.bool true) 0; exact this) HL13.out.rd.hurt;have HM:Hid (s.size - wat R (w13.setCell ⟨R,2,none⟩ (.bool true)) + wbad R (w13.setCell ⟨R,2,none⟩ (.bool true)) < s.size - wat R wr + wbad R wr):=by
       show _ < _;rw [HL14.out.rd.wbad0,HPLB.out,show wat R (w13.setCell ⟨R,2,none⟩ (.bool true))=(p + aj s p + 1 + aj s (p + aj s p + 1)) from HL14.out.rd.place,HPLC.out];have:=HPG.out;omega
      clear hr13 hg13 hcm HL12 HL13;go_wp2;go_roundw;case rel=>exact ⟨m,(p + aj s p + 1 + aj s (p + aj s p + 1)),true,xs ++ [(⟨av s p,av s (p + aj s p + 1)⟩:Al)],.slice (some ⟨gB,0,none⟩) (xs.length + 1) cB,HPB.out,EQ.out,fun h=>(by cases h),HL14.out⟩
      case measure=>exact HM.out
end Go.Proofs.YteoflgocljfgeaaGreatDoor
