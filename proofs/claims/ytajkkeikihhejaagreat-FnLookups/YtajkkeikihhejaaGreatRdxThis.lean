/- Contract of the document's reader: an item that lists what is allowed. -/
import Derived.Test.YtajkkeikihhejaaGreatSq
import Derived.Test.YtajkkeikihhejaaGreatJ9
open Go.Proofs.Tryz
set_option maxHeartbeats 80000000
namespace Go.Proofs.YtajkkeikihhejaaGreat
set_option maxRecDepth 100000
open Go.ChangeShapes Go.WideShapes Go.ChangeAt Go.RowKit
open Pl
structure PL (w1 wr:ae) (R X:Nat) (s:aD) (xs:List Al) (p:Nat) (bad:Bool) (v vA:Value):Prop where
 rd:RdC wr R s p bad v
 onl:Onl R nE w1 wr
 c0:wr.cell? ⟨X,0,none⟩=some (.int .i64 1)
 c1:wr.cell? ⟨X,1,none⟩=some vA
 c2:wr.cell? ⟨X,2,none⟩=some (.string ⟨#[]⟩)
 c3:wr.cell? ⟨X,3,none⟩=some (.string ⟨#[]⟩)
 c4:wr.cell? ⟨X,4,none⟩=some (.slice none 0 0)
 fr:jN wr X
 lt:X < wr.heap.size
 own:wr.ownsRow (X + 1) 43 2 vA xs.length (pairs xs)
theorem PL.moved {w1 wr w':ae} {R X:Nat} {s:ByteArray} {xs:List Al} {p p':Nat} {bad bad':Bool} {v vA:Value} (h:PL w1 wr R X s xs p bad v vA) (hRX:R < X) (hg:wr.grownBy w' (some R)) (hr:RdC w' R s p' bad' v):PL w1 w' R X s xs p' bad' v vA:=by
 have hne:some X ≠ some R:=by intro e; injection e with e; omega
 refine ⟨hr,h.onl.trans0 (Onl.of_grown hg),hg.cell h.c0 hne,hg.cell h.c1 hne,hg.cell h.c2 hne,hg.cell h.c3 hne,hg.cell h.c4 hne,cu h.fr (hg.block X h.lt hne),Sv h.lt hg.size,h.own.kept hg (.inr ?_)⟩;intro e; have:=(h.own.lt R e).1; omega
theorem PL.made {w1 wr:ae} {R X:Nat} {s:ByteArray} {xs:List Al} {p:Nat} {bad:Bool} {v vA:Value} (h:PL w1 wr R X s xs p bad v vA) (o:Obj):PL w1 (wr.alloc o) R X s xs p bad v vA:=by
 have hg:=World.grownBy_alloc wr o none;exact ⟨h.rd.grown hg (by simp),h.onl.trans0 (Onl.of_below ((Sz _ _).alloc (Sy _) _)),hg.cell h.c0 (by simp),hg.cell h.c1 (by simp),hg.cell h.c2 (by simp),hg.cell h.c3 (by simp),hg.cell h.c4 (by simp),cu h.fr (hg.block X h.lt (by simp)),Sv h.lt hg.size,h.own.alloc o⟩
theorem PL.aset {w1 wr:ae} {R X:Nat} {s:ByteArray} {xs:List Al} {p:Nat} {bad:Bool} {v vA:Value} (h:PL w1 wr R X s xs p bad v vA) (hRX:R < X) (h1:w1.heap.size≤X) {A:Nat} (hA:X < A) (hv:vA.ownBlock ≠ some A) (o:Nat) (u:Value):PL w1 (wr.setCell ⟨A,o,none⟩ u) R X s xs p bad v vA:=by
 have hb:∀ k,k ≠ A→(wr.setCell ⟨A,o,none⟩ u).heap[k]?=wr.heap[k]?:=fun k hk=>Below.heap_setCell wr _ _ k hk;refine ⟨h.rd.other (by omega) _ _,h.onl.at_new (by omega) _ _,?_,?_,?_,?_,?_,cu h.fr (hb X (by omega)),by simpa using h.lt,jm h.own fun g hg=>hb g (fun e=>hv (by rw [hg,e]))⟩
 all_goals rw [Tc (w:=wr) (hb X (by omega))]
 ·exact h.c0
 ·exact h.c1
 ·exact h.c2
 ·exact h.c3
 exact h.c4
theorem J4 (xs:List Al) (a:Al):pairs (xs ++ [a])=pairs xs ++ [.string a.t,.string a.s]:=by simp [pairs]
theorem PL.app {w1 wr w':ae} {R X:Nat} {s:ByteArray} {xs:List Al} {p:Nat} {bad:Bool} {v vA vB:Value} (h:PL w1 wr R X s xs p bad v vA) (hRX:R < X) (h1:w1.heap.size≤X) (a:Al) (hown:w'.ownsRow (X + 1) 43 2 vB (xs.length + 1) (pairs xs ++ [.string a.t,.string a.s])) (hg:wr.grownBy w' vA.ownBlock):PL w1 (w'.setCell ⟨X,1,none⟩ vB) R X s (xs ++ [a]) p bad v vB:=by
 have hX:some X ≠ vA.ownBlock:=fun e=>by have:=(h.own.lt X e.symm).1; omega
 have hR:some R ≠ vA.ownBlock:=fun e=>by have:=(h.own.lt R e.symm).1; omega
 have ho:Onl R nE w1 w':=⟨hg.os.trans h.onl.os,hg.tape.trans h.onl.tape,hg.output.trans h.onl.output,SF h.onl.size hg.size,fun k hk h2 h3=>(hg.block k (Sv hk h.onl.size) (fun e=>by have:=(h.own.lt k e.symm).1; omega)).trans (h.onl.block k hk h2 h3)⟩;refine ⟨(h.rd.grown hg hR).other (by omega) _ _,ho.at_new h1 _ _,?_,mS (hg.cell h.c1 hX),?_,?_,?_,fun j=>?_,?_,?_⟩
 ·rw [mO (by omega)]; exact hg.cell h.c0 hX
 ·rw [mO (by omega)]; exact hg.cell h.c2 hX
 ·rw [mO (by omega)]; exact hg.cell h.c3 hX
 ·rw [mO (by omega)]; exact hg.cell h.c4 hX
 ·simpa using cu h.fr (hg.block X h.lt hX) j
 ·simpa using Sv h.lt hg.size
 rw [J4,SE,List.length_singleton];exact ownsRow_setCell_below hown (by show X < X + 1; omega) _
def wbad (R:Nat) (w:ae):Nat:=match w.cell? ⟨R,2,none⟩ with
 | some (.bool true)=>0
 | _=>1
theorem RdC.wbad0 {w:ae} {R:Nat} {s:ByteArray} {p:Nat} {v:Value} (h:RdC w R s p true v):wbad R w=0:=by
 simp [Go.Proofs.YtajkkeikihhejaaGreat.wbad,h.c2]
theorem RdC.wbad1 {w:ae} {R:Nat} {s:ByteArray} {p:Nat} {v:Value} (h:RdC w R s p false v):wbad R w=1:=by
 simp [Go.Proofs.YtajkkeikihhejaaGreat.wbad,h.c2]
theorem yR (w:ae) (a b:aD) (g:Nat) (hg:w.heap.size=g):∀ j u,[Value.string a,.string b][j]?=some u→(w.alloc (.cells #[.string a,.string b] 43)).cell? ((⟨g,0,none⟩:Addr).add j)=some u:=by
 intro j u hu;subst hg;rw [show (⟨w.heap.size,0,none⟩:Addr).add j=⟨w.heap.size,0 + j,none⟩ by simp [Addr.add]; omega,Td];have:=World.cell?_alloc_mark w #[.string a,.string b] 43 (0,0) j;rw [this];simpa using hu
def pW (s:aD) (st:RS):Int × RS:=match dz s (s.size + 1) [] (kz fJ st) with
 | (some xs,st')=>((st'.out.length:Int),rP ⟨1,xs,⟨#[]⟩,⟨#[]⟩,[]⟩ st')
 | (none,st')=>(0,st')
theorem yS {s:ByteArray} {st st':RS} {xs:List Al} (h:dz s (s.size + 1) [] (kz fJ st)=(some xs,st')):pW s st=((st'.out.length:Int),rP ⟨1,xs,⟨#[]⟩,⟨#[]⟩,[]⟩ st'):=by simp only [pW,h]
theorem GL {s:ByteArray} {st st':RS} (h:dz s (s.size + 1) [] (kz fJ st)=(none,st')):pW s st=(0,st'):=by simp only [pW,h]
theorem GM (s:aD) (n:Nat) (xs:List Al) (p:Nat) (o:List Ex):dz s n xs ⟨p,true,o⟩=(none,⟨p,true,o⟩):=by
 cases n with
 | zero=>rfl
 | succ n=>rfl
structure PairIs (s:aD) (p:Nat) (o:List Ex) (a:Al) (pb:Nat):Prop where
 a:(⟨av s p,xR s (bu s ⟨p,false,o⟩)⟩:Al)=a
 b:aU s (bu s ⟨p,false,o⟩)=⟨pb,false,o⟩
theorem J5 {s:ByteArray} {p:Nat} {o:List Ex} (h:mr s uk (p + aj s p) false=false):PairIs s p o ⟨av s p,⟨#[]⟩⟩ (p + aj s p):=by
 have e:ll s uk (bu s ⟨p,false,o⟩)=false:=h;exact ⟨by unfold xR; rw [e]; rfl,by unfold aU; rw [e]; rfl⟩
theorem GN {s:ByteArray} {p:Nat} {o:List Ex} (h:mr s uk (p + aj s p) false=true):PairIs s p o ⟨av s p,av s (p + aj s p + 1)⟩ (p + aj s p + 1 + aj s (p + aj s p + 1)):=by
 have e:ll s uk (bu s ⟨p,false,o⟩)=true:=h;exact ⟨by unfold xR; rw [e]; rfl,by unfold aU; rw [e]; rfl⟩
theorem wW {s:ByteArray} {p pb n:Nat} {o:List Ex} {a:Al} {xs:List Al} (h:PairIs s p o a pb) (h1:mr s dS pb false=true):dz s (n + 1) xs ⟨p,false,o⟩=(some (xs ++ [a]),⟨pb + 1,false,o⟩):=by
 have e:ll s dS ⟨pb,false,o⟩=true:=h1;unfold dz;rw [h.a,h.b,e]; rfl
theorem wX {s:ByteArray} {p pb n:Nat} {o:List Ex} {a:Al} {xs:List Al} (h:PairIs s p o a pb) (h1:mr s dS pb false=false) (h2:mr s jP pb false=true):dz s (n + 1) xs ⟨p,false,o⟩=dz s n (xs ++ [a]) ⟨pb + 1,false,o⟩:=by
 have e:ll s dS ⟨pb,false,o⟩=false:=h1;have e2:ll s jP ⟨pb,false,o⟩=true:=h2
 conv=>lhs; unfold dz
 rw [h.a,h.b,e,e2]; rfl
theorem BI {s:ByteArray} {p pb n:Nat} {o:List Ex} {a:Al} {xs:List Al} (h:PairIs s p o a pb) (h1:mr s dS pb false=false) (h2:mr s jP pb false=false):dz s (n + 1) xs ⟨p,false,o⟩=dz s n (xs ++ [a]) ⟨pb,true,o⟩:=by
 have e:ll s dS ⟨pb,false,o⟩=false:=h1;have e2:ll s jP ⟨pb,false,o⟩=false:=h2
 conv=>lhs; unfold dz
 rw [h.a,h.b,e,e2]; rfl
theorem capOf {w:ae} {base size n m cap:Nat} {e:TypeId} {ad:Option Addr} {xs:List Value} (h:w.ownsRow base e size (.slice ad n cap) m xs) (hm:m=n:=by rfl):n≤cap:=by
 rcases h.2 with ⟨e1,h0⟩ | ⟨g,cap',cur,e1,-,-,hnc,-⟩
 ·injection e1 with _ e2 e3; omega
 injection e1 with _ e2 e3; omega
theorem PL.node {w1 wr:ae} {R X:Nat} {s:ByteArray} {xs:List Al} {p:Nat} {bad:Bool} {v vA:Value} (h:PL w1 wr R X s xs p bad v vA) (h1:w1.heap.size≤X) {base:Nat} (hb:base≤w1.heap.size):∃ ad cap,vA=.slice ad xs.length cap∧NewQ base wr ⟨⟨1,xs,⟨#[]⟩,⟨#[]⟩,[]⟩,ad,cap,none,0⟩∧∀ g,pI ⟨⟨1,xs,⟨#[]⟩,⟨#[]⟩,[]⟩,ad,cap,none,0⟩ g→X < g:=by
 obtain ⟨ad,cap,e,h2,h3,h4⟩:=RN h.own rfl;have hK:∀ g,¬ bK ⟨⟨1,xs,⟨#[]⟩,⟨#[]⟩,[]⟩,ad,cap,none,0⟩ g:=fun g hg=>hg.1 rfl;have hA:∀ g,pI ⟨⟨1,xs,⟨#[]⟩,⟨#[]⟩,[]⟩,ad,cap,none,0⟩ g→X + 1≤g∧g < wr.heap.size∧jN wr g:=by
  rintro g (hg | hg)
  ·exact h4 g hg.1 hg.2
  exact absurd hg (hK g)
 refine ⟨ad,cap,e,⟨h3,fun h=>absurd rfl h,⟨h2,.inl rfl⟩,fun g hg=>⟨?_,(hA g hg).2⟩,fun g _ hg=>hK g hg,capOf (e ▸ h.own)⟩,fun g hg=>(hA g hg).1⟩;have:=(hA g hg).1;omega
theorem J6 (R:Nat) (s:aD) (st:RS) (base:Nat) (v:Value) (qs:List ER) (w:ae) (h:RdF w R s st base v qs) (hR:R < base) (hB:base≤w.heap.size) (hs:s.size≤1000) (hp:st.p≤s.size) (hn:qs.length≤100000)
  (h0:mr s fJ st.p st.bad=true) :
  Calls prog 234 #[.pointer (some ⟨R,0,none⟩)] w (ut R s base v qs w (pW s st)):=by
 obtain ⟨iA,hiA,zA0,zA1,zA2⟩:=info_parts (P:=prog) (e:=43) (z:=.agg #[.string ⟨#[]⟩,.string ⟨#[]⟩]) (size:=2) (bytes:=32) (by kernel_rfl);have HIA:Hid (prog.info? 43=some iA∧iA.zero=some (.agg #[.string ⟨#[]⟩,.string ⟨#[]⟩])∧iA.size=2∧iA.bytes=32):=⟨hiA,zA0,zA1,zA2⟩;have H:=ai h;have HP:=ai hp
 have hbad:st.bad=false:=by cases e:st.bad with
  | false=>rfl
  | true=>rw [e] at h0; cases h0
 have HBD:=ai hbad;have HP1:Hid (st.p + 5≤s.size):=vL h0;clear h hp hiA zA0 zA1 zA2 hbad;go_enter func234,ntmps234;go_wp2_with fail;refine (jQ R s fJ st.p st.bad v w H.out.rd hs HP.out (by decide)).mono ?_;rintro e w1 ⟨rfl,hr1,hg1⟩;have UL:=ai (H.out.is_yes hR h0 hr1 hg1);have TE:=ai (Onl.of_grown hg1);rw [h0];clear hr1 hg1 h0;obtain ⟨W2,hW2⟩:∃ W2,W2=w1.alloc (.cells #[.int .i64 1,.slice none 0 0,.string ⟨#[]⟩,.string ⟨#[]⟩,.slice none 0 0] 39):=⟨_,rfl⟩;have HL2:Hid (PL w1 W2 R w1.heap.size s [] (st.p + 5) false v (.slice none 0 0)):=by
  rw [hW2];have hrd:RdC w1 R s (st.p + 5) false v:=by have:=UL.out.rd; rw [show (kz fJ st).bad=false from HBD.out] at this; exact this
  refine ⟨hrd.below ((Sz _ _).alloc (Sy _) _),Onl.of_below ((Sz _ _).alloc (Sy _) _),by simp,by simp,by simp,by simp,by simp,fun j=>by simp,by simp,World.ownsRow_nil _ _ _ _⟩
 have HX0:Hid (w.heap.size≤w1.heap.size):=TE.out.size;have VX:Hid (R < w1.heap.size):=UL.out.rd.lt;have VP:Hid (w1.heap.size≤w1.heap.size):=Sy _;go_wp2_with fail;rw [← hW2];clear hW2;obtain ⟨X,hX⟩:∃ X,X=w1.heap.size:=⟨_,rfl⟩;replace HL2:Hid (PL w1 W2 R X s [] (st.p + 5) false v (.slice none 0 0)):=by rw [hX]; exact HL2
 replace HX0:Hid (w.heap.size≤X):=by rw [hX]; exact HX0
 replace VX:Hid (R < X):=by rw [hX]; exact VX
 replace VP:Hid (w1.heap.size≤X):=by rw [hX]; exact VP
 rw [← hX];clear hX;go_loopw [14] (fun _ wr=>∃ (n p:Nat) (bad:Bool) (xs:List Al) (vA:Value),Hid (p≤s.size)∧Hid (dz s n xs ⟨p,bad,st.out⟩=dz s (s.size + 1) [] (kz fJ st))∧Hid (bad=false→s.size - p < n∧xs.length + 5≤p)∧Hid (PL w1 wr R X s xs p bad v vA)) (fun _ wr=>s.size - wat R wr + wbad R wr);case atStart=>exact ⟨s.size + 1,st.p + 5,false,[],.slice none 0 0,HP1.out,by show _=_; unfold kz; rw [HBD.out]; rfl,fun _=>⟨by omega,by simp⟩,HL2.out⟩
 obtain ⟨n,p,bad,xs,vA,HPL,HPP,HLN,HL⟩:=hrel;clear HL2;have r2:=HL.out.rd.c2;have rl:=HL.out.rd.lt;cases bad;case true=>
  have EQ:=ai (GL (HPP.out.symm.trans (GM s n xs p st.out)));have HF:=ai (UL.out.over hR HL.out.onl HL.out.rd);have HO:=ai (TE.out.trans0 HL.out.onl);go_wp2;exact bodyPost_ret (v:=.int .i64 0) (by simp [results,Tryz.results234,go_sem]) rfl (by rw [EQ.out]; exact ⟨v,[],rfl,by rw [List.append_nil]; exact HF.out,HO.out.any v,fun q hq=>by cases hq⟩)
 obtain ⟨m,hm⟩:∃ m,n=m + 1:=⟨n - 1,by have:=(HLN.out rfl).1; omega⟩;subst hm;have HPW:=ai (kC s p HPL.out);have HLN1:=ai (HLN.out rfl).1;have Zr:=ai (HLN.out rfl).2;clear HLN;go_wp2_with fail;refine (uq R s p false v wr HL.out.rd hs HPL.out).mono ?_;rintro e w4 ⟨rfl,hr4,hg4⟩;have HL4:=ai (HL.out.moved VX.out hg4 hr4);have Zt:=ai HL.out.rd.place;have Zu:=ai HL.out.rd.wbad1;clear hr4 hg4 HL r2 rl;obtain ⟨W5,Uk⟩:∃ W5,W5=w4.alloc (.cells #[.string (av s p),.string ⟨#[]⟩] 43):=⟨_,rfl⟩;have HL5:Hid (PL w1 W5 R X s xs (p + aj s p) false v vA):=by rw [Uk]; exact HL4.out.made _
 have HA0:Hid (W5.cell? ⟨w4.heap.size,0,none⟩=some (.string (av s p))):=by show _=_; rw [Uk]; simp
 have HA1:Hid (W5.cell? ⟨w4.heap.size,1,none⟩=some (.string ⟨#[]⟩)):=by show _=_; rw [Uk]; simp
 have HAF:Hid (jN W5 w4.heap.size):=fun j=>by rw [Uk]; simp
 have TL:Hid (w4.heap.size < W5.heap.size):=by show _ < _; rw [Uk]; simp
 have HAX:Hid (X < w4.heap.size):=HL4.out.lt;have HAV:Hid (vA.ownBlock ≠ some w4.heap.size):=fun e=>by have:=(HL4.out.own.lt _ e).2; omega
 go_wp2_with fail;rw [← Uk];clear Uk;obtain ⟨A,hA⟩:∃ A,A=w4.heap.size:=⟨_,rfl⟩;rw [← hA] at HA0 HA1 HAF TL HAX HAV;rw [← hA];clear hA HL4;refine (jQ R s uk (p + aj s p) false v W5 HL5.out.rd hs HPW.out (by decide)).mono ?_;rintro e w6 ⟨rfl,VL,Xf⟩;have Y9:Hid (some A ≠ some R):=by intro e; injection e with e; have:=VX.out; have:=HAX.out; omega
 have HB0:=ai (Xf.cell HA0.out Y9.out);have HB1:=ai (Xf.cell HA1.out Y9.out);have HBF:=ai (cu HAF.out (Xf.block A TL.out Y9.out));have Xy:=ai (Sv TL.out Xf.size);cases hc:mr s uk (p + aj s p) false;case false=>
  rw [sJ hc] at VL;have HL6:=ai (HL5.out.moved VX.out Xf VL);have PI:=ai (J5 (o:=st.out) hc);have HPB:=HPW;have Zv:Hid (p≤p + aj s p):=Nat.le_add_right _ _;clear VL Xf hc HL5 HA0 HA1 HAF TL;have a0:=HB0.out;have a1:=HB1.out;have k1:=HL6.out.c1;obtain ⟨W9,Xz⟩:∃ W9,W9=w6.alloc (.cells #[.string (av s p),.string ((⟨#[]⟩:ByteArray))] 43):=⟨_,rfl⟩;have We:Hid (PL w1 W9 R X s xs (p + aj s p) false v vA):=by rw [Xz]; exact HL6.out.made _
  have Vu:Hid (∀ j u,[Value.string (av s p),.string ((⟨#[]⟩:ByteArray))][j]?=some u→W9.cell? ((⟨w6.heap.size,0,none⟩:Addr).add j)=some u):=by rw [Xz]; exact yR w6 _ _ _ (rfl)
  have Yr:Hid (X + 1≤W9.heap.size):=We.out.lt;have hxs:xs.length≤1000:=by have:=Zr.out; have:=HPL.out; omega
  go_wp2_with (at_builtin; rw [← Xz]; clear Xz; refine wpList_append_own _ rfl _ _ 36 rfl (X + 1) 43 iA (.agg #[.string ⟨#[]⟩,.string ⟨#[]⟩]) 2 32 underlying36 HIA.out.1 HIA.out.2.1 HIA.out.2.2.1 HIA.out.2.2.2 rfl (by decide) vA xs.length (pairs xs) rfl We.out.own ⟨w6.heap.size,0,none⟩ 1 1 [Value.string (av s p),.string ((⟨#[]⟩:ByteArray))] rfl rfl Vu.out (by intro u hu; simp at hu; rcases hu with rfl | rfl <;> rfl) (by unfold maxLen; omega) (by omega) Yr.out ?_);intro vB w10 UY UI _;obtain ⟨gB,cB,rfl⟩:=fF UY;have Xg:some X ≠ vA.ownBlock:=fun e=>by have:=(We.out.own.lt X e.symm).1; omega
  have k10:=UI.cell We.out.c1 Xg;have f10:=cu We.out.fr (UI.block X We.out.lt Xg) 1;have l10:=Sv We.out.lt UI.size;have Vg:=ai (We.out.app VX.out VP.out ⟨av s p,(⟨#[]⟩:ByteArray)⟩ UY UI);clear UY UI a0 a1 k1 We Xg Vu Yr HL6;go_wp2_with fail;obtain ⟨W11,Yt⟩:∃ W11,W11=w10.setCell ⟨X,1,none⟩ (.slice (some ⟨gB,0,none⟩) (xs.length + 1) cB):=⟨_,rfl⟩;rw [← Yt] at Vg ⊢;clear Yt k10 f10 l10;refine (jQ R s dS (p + aj s p) false v W11 Vg.out.rd hs HPB.out (by decide)).mono ?_;rintro e w12 ⟨rfl,UO,Va⟩;cases hcl:mr s dS (p + aj s p) false;case true=>
   rw [oI hcl] at UO;have TQ:=ai (Vg.out.moved VX.out Va UO);have EQ:=ai (yS (HPP.out.symm.trans (wW (xs:=xs) (n:=m) PI.out hcl)));obtain ⟨ad,cap,hva,hnq,hin⟩:=TQ.out.node VP.out (base:=base) (SF hB TE.out.size);injection hva with hva1 hva2 hva3;subst hva1;subst hva3;clear hva2;have HNQ:=ai hnq;have Za:=ai hin;have k0:=TQ.out.c0;have k1:=TQ.out.c1;have k2:=TQ.out.c2;have k3:=TQ.out.c3;have k4:=TQ.out.c4;have HF:=ai (UL.out.over hR TQ.out.onl TQ.out.rd);have HO:=ai (TE.out.trans0 TQ.out.onl);clear UO Va hcl hnq hin Vg TQ;go_wp2_with fail;have Yu:=GJ R s ⟨(p + aj s p) + 1,false,st.out⟩ base v qs ⟨⟨1,xs ++ [⟨av s p,(⟨#[]⟩:ByteArray)⟩],⟨#[]⟩,⟨#[]⟩,[]⟩,some ⟨gB,0,none⟩,cB,none,0⟩ w12 HF.out hR (SF hB HO.out.size) hn HNQ.out (.inl ⟨rfl,rfl,rfl⟩) (fun g hg=>⟨fun e=>by have:=(UL.out.own.lt g e).2; have:=Za.out g hg; have:=VP.out; omega,fun q' hq' hg'=>by have:=(UL.out.lie q' hq' g hg').2.1; have:=Za.out g hg; have:=VP.out; omega⟩);rw [show (⟨⟨1,xs ++ [⟨av s p,(⟨#[]⟩:ByteArray)⟩],⟨#[]⟩,⟨#[]⟩,[]⟩,some ⟨gB,0,none⟩,cB,none,0⟩:ER).val=.agg #[.int .i64 1,.slice (some ⟨gB,0,none⟩) (xs.length + 1) cB,.string ⟨#[]⟩,.string ⟨#[]⟩,.slice none 0 0] by simp [ER.val]] at Yu;refine Yu.mono ?_;rintro e w13 ⟨v13,rfl,Yv,Yw⟩;have HF13:=ai Yv;have HW13:=ai ((HO.out.any v).trans Yw);clear Yv Yw;go_wp2;exact bodyPost_ret (v:=.int .i64 (st.out.length:Int)) (by simp [results,Tryz.results234,go_sem]) rfl (by rw [EQ.out]; exact ⟨v13,_,rfl,HF13.out,HW13.out,fun q hq g hg=>by rw [SG] at hq; subst hq; have:=Za.out g hg; have:=HX0.out; omega⟩)
  rw [sJ hcl] at UO;have TQ:=ai (Vg.out.moved VX.out Va UO);have XN:=ai hcl;clear UO Va hcl Vg;go_wp2_with fail;refine (jQ R s jP (p + aj s p) false v w12 TQ.out.rd hs HPB.out (by decide)).mono ?_;rintro e w13 ⟨rfl,Vh,Vi⟩;cases hcm:mr s jP (p + aj s p) false;case true=>
   rw [oI hcm] at Vh;have Ur:=ai (TQ.out.moved VX.out Vi Vh);have Xh:Hid ((p + aj s p) + 1≤s.size):=vL hcm;have EQ:=ai ((wX (xs:=xs) (n:=m) PI.out XN.out hcm).symm.trans HPP.out);have HM:Hid (s.size - wat R w13 + wbad R w13 < s.size - wat R wr + wbad R wr):=by
    show _ < _;rw [Ur.out.rd.wbad1,Zu.out,show wat R w13=(p + aj s p) + 1 from Ur.out.rd.place,Zt.out];have:=Xh.out;have:=Zv.out;omega
   clear Vh Vi hcm TQ;go_wp2;go_roundw;case rel=>exact ⟨m,(p + aj s p) + 1,false,xs ++ [(⟨av s p,(⟨#[]⟩:ByteArray)⟩:Al)],.slice (some ⟨gB,0,none⟩) (xs.length + 1) cB,Xh.out,EQ.out,fun _=>⟨by have:=HLN1.out; have:=Zv.out; have:=Xh.out; omega,by have:=Zr.out; have:=Zv.out; rw [SE,List.length_singleton]; omega⟩,Ur.out⟩
   exact HM.out
  rw [sJ hcm] at Vh;have Ur:=ai (TQ.out.moved VX.out Vi Vh);have EQ:=ai ((BI (xs:=xs) (n:=m) PI.out XN.out hcm).symm.trans HPP.out);have c2:=Ur.out.rd.c2;have f2:=Ur.out.rd.fr 2;have hl13:=Ur.out.rd.lt;have Xi:Hid (PL w1 (w13.setCell ⟨R,2,none⟩ (.bool true)) R X s (xs ++ [⟨av s p,(⟨#[]⟩:ByteArray)⟩]) (p + aj s p) true v (.slice (some ⟨gB,0,none⟩) (xs.length + 1) cB)):=Ur.out.moved VX.out (by have:=yO w13 R 2 (.bool true) 0; exact this) Ur.out.rd.hurt;have HM:Hid (s.size - wat R (w13.setCell ⟨R,2,none⟩ (.bool true)) + wbad R (w13.setCell ⟨R,2,none⟩ (.bool true)) < s.size - wat R wr + wbad R wr):=by
   show _ < _;rw [Xi.out.rd.wbad0,Zu.out,show wat R (w13.setCell ⟨R,2,none⟩ (.bool true))=(p + aj s p) from Xi.out.rd.place,Zt.out];have:=Zv.out;omega
  clear Vh Vi hcm TQ Ur;go_wp2;go_roundw;case rel=>exact ⟨m,(p + aj s p),true,xs ++ [(⟨av s p,(⟨#[]⟩:ByteArray)⟩:Al)],.slice (some ⟨gB,0,none⟩) (xs.length + 1) cB,HPB.out,EQ.out,fun h=>(by cases h),Xi.out⟩
  exact HM.out
 rw [oI hc] at VL;have HL6:=ai (HL5.out.moved VX.out Xf VL);have PI:=ai (GN (o:=st.out) hc);have HPH:Hid (p + aj s p + 1≤s.size):=vL hc;have HPB:=ai (kC s _ HPH.out);have Zv:Hid (p≤p + aj s p + 1 + aj s (p + aj s p + 1)):=by show _≤_; omega
 clear VL Xf hc HL5 HA0 HA1 HAF TL;go_wp2_with fail;refine (uq R s (p + aj s p + 1) false v w6 HL6.out.rd hs HPH.out).mono ?_;rintro e w7 ⟨rfl,hr7,VW⟩;have HL7:=ai (HL6.out.moved VX.out VW hr7);have UT:=ai (VW.cell HB0.out Y9.out);have a1:=VW.cell HB1.out Y9.out;have hcf:=cu HBF.out (VW.block A Xy.out Y9.out);have f1:=hcf 1;have hcl:=Sv Xy.out VW.size;obtain ⟨W8,Vw⟩:∃ W8,W8=w7.setCell ⟨A,1,none⟩ (.string (av s (p + aj s p + 1))):=⟨_,rfl⟩;have HL8:Hid (PL w1 W8 R X s xs (p + aj s p + 1 + aj s (p + aj s p + 1)) false v vA):=by rw [Vw]; exact HL7.out.aset VX.out VP.out HAX.out HAV.out _ _
 have HD0:Hid (W8.cell? ⟨A,0,none⟩=some (.string (av s p))):=by show _=_; rw [Vw,mO (by omega)]; exact UT.out
 have HD1:Hid (W8.cell? ⟨A,1,none⟩=some (.string (av s (p + aj s p + 1)))):=by show _=_; rw [Vw]; exact mS a1
 clear hr7 VW HL6 HB0 HB1 HBF Xy;have a0:=UT.out;have k1:=HL7.out.c1;have hxa:X ≠ A:=by have:=HAX.out; omega
 have hax:A ≠ X:=by have:=HAX.out; omega
 obtain ⟨W9,Xz⟩:∃ W9,W9=W8.alloc (.cells #[.string (av s p),.string (av s (p + aj s p + 1))] 43):=⟨_,rfl⟩;have We:Hid (PL w1 W9 R X s xs (p + aj s p + 1 + aj s (p + aj s p + 1)) false v vA):=by rw [Xz]; exact HL8.out.made _
 have Vu:Hid (∀ j u,[Value.string (av s p),.string (av s (p + aj s p + 1))][j]?=some u→W9.cell? ((⟨w7.heap.size,0,none⟩:Addr).add j)=some u):=by rw [Xz]; exact yR W8 _ _ _ (by rw [Vw]; simp)
 have Yr:Hid (X + 1≤W9.heap.size):=We.out.lt;have hxs:xs.length≤1000:=by have:=Zr.out; have:=HPL.out; omega
 go_wp2_with (at_builtin; rw [← Vw]; clear Vw; rw [← Xz]; clear Xz; refine wpList_append_own _ rfl _ _ 36 rfl (X + 1) 43 iA (.agg #[.string ⟨#[]⟩,.string ⟨#[]⟩]) 2 32 underlying36 HIA.out.1 HIA.out.2.1 HIA.out.2.2.1 HIA.out.2.2.2 rfl (by decide) vA xs.length (pairs xs) rfl We.out.own ⟨w7.heap.size,0,none⟩ 1 1 [Value.string (av s p),.string (av s (p + aj s p + 1))] rfl rfl Vu.out (by intro u hu; simp at hu; rcases hu with rfl | rfl <;> rfl) (by unfold maxLen; omega) (by omega) Yr.out ?_);intro vB w10 UY UI _;obtain ⟨gB,cB,rfl⟩:=fF UY;have Xg:some X ≠ vA.ownBlock:=fun e=>by have:=(We.out.own.lt X e.symm).1; omega
 have k10:=UI.cell We.out.c1 Xg;have f10:=cu We.out.fr (UI.block X We.out.lt Xg) 1;have l10:=Sv We.out.lt UI.size;have Vg:=ai (We.out.app VX.out VP.out ⟨av s p,av s (p + aj s p + 1)⟩ UY UI);clear UY UI a0 a1 k1 We Xg Vu Yr HL8 hxa hax f1 hcl hcf;go_wp2_with fail;obtain ⟨W11,Yt⟩:∃ W11,W11=w10.setCell ⟨X,1,none⟩ (.slice (some ⟨gB,0,none⟩) (xs.length + 1) cB):=⟨_,rfl⟩;rw [← Yt] at Vg ⊢;clear Yt k10 f10 l10;refine (jQ R s dS (p + aj s p + 1 + aj s (p + aj s p + 1)) false v W11 Vg.out.rd hs HPB.out (by decide)).mono ?_;rintro e w12 ⟨rfl,UO,Va⟩;cases hcl:mr s dS (p + aj s p + 1 + aj s (p + aj s p + 1)) false;case true=>
  rw [oI hcl] at UO;have TQ:=ai (Vg.out.moved VX.out Va UO);have EQ:=ai (yS (HPP.out.symm.trans (wW (xs:=xs) (n:=m) PI.out hcl)));obtain ⟨ad,cap,hva,hnq,hin⟩:=TQ.out.node VP.out (base:=base) (SF hB TE.out.size);injection hva with hva1 hva2 hva3;subst hva1;subst hva3;clear hva2;have HNQ:=ai hnq;have Za:=ai hin;have k0:=TQ.out.c0;have k1:=TQ.out.c1;have k2:=TQ.out.c2;have k3:=TQ.out.c3;have k4:=TQ.out.c4;have HF:=ai (UL.out.over hR TQ.out.onl TQ.out.rd);have HO:=ai (TE.out.trans0 TQ.out.onl);clear UO Va hcl hnq hin Vg TQ;go_wp2_with fail;have Yu:=GJ R s ⟨(p + aj s p + 1 + aj s (p + aj s p + 1)) + 1,false,st.out⟩ base v qs ⟨⟨1,xs ++ [⟨av s p,av s (p + aj s p + 1)⟩],⟨#[]⟩,⟨#[]⟩,[]⟩,some ⟨gB,0,none⟩,cB,none,0⟩ w12 HF.out hR (SF hB HO.out.size) hn HNQ.out (.inl ⟨rfl,rfl,rfl⟩) (fun g hg=>⟨fun e=>by have:=(UL.out.own.lt g e).2; have:=Za.out g hg; have:=VP.out; omega,fun q' hq' hg'=>by have:=(UL.out.lie q' hq' g hg').2.1; have:=Za.out g hg; have:=VP.out; omega⟩);rw [show (⟨⟨1,xs ++ [⟨av s p,av s (p + aj s p + 1)⟩],⟨#[]⟩,⟨#[]⟩,[]⟩,some ⟨gB,0,none⟩,cB,none,0⟩:ER).val=.agg #[.int .i64 1,.slice (some ⟨gB,0,none⟩) (xs.length + 1) cB,.string ⟨#[]⟩,.string ⟨#[]⟩,.slice none 0 0] by simp [ER.val]] at Yu;refine Yu.mono ?_;rintro e w13 ⟨v13,rfl,Yv,Yw⟩;have HF13:=ai Yv;have HW13:=ai ((HO.out.any v).trans Yw);clear Yv Yw;go_wp2;exact bodyPost_ret (v:=.int .i64 (st.out.length:Int)) (by simp [results,Tryz.results234,go_sem]) rfl (by rw [EQ.out]; exact ⟨v13,_,rfl,HF13.out,HW13.out,fun q hq g hg=>by rw [SG] at hq; subst hq; have:=Za.out g hg; have:=HX0.out; omega⟩)
 rw [sJ hcl] at UO;have TQ:=ai (Vg.out.moved VX.out Va UO);have XN:=ai hcl;clear UO Va hcl Vg;go_wp2_with fail;refine (jQ R s jP (p + aj s p + 1 + aj s (p + aj s p + 1)) false v w12 TQ.out.rd hs HPB.out (by decide)).mono ?_;rintro e w13 ⟨rfl,Vh,Vi⟩;cases hcm:mr s jP (p + aj s p + 1 + aj s (p + aj s p + 1)) false;case true=>
  rw [oI hcm] at Vh;have Ur:=ai (TQ.out.moved VX.out Vi Vh);have Xh:Hid ((p + aj s p + 1 + aj s (p + aj s p + 1)) + 1≤s.size):=vL hcm;have EQ:=ai ((wX (xs:=xs) (n:=m) PI.out XN.out hcm).symm.trans HPP.out);have HM:Hid (s.size - wat R w13 + wbad R w13 < s.size - wat R wr + wbad R wr):=by
   show _ < _;rw [Ur.out.rd.wbad1,Zu.out,show wat R w13=(p + aj s p + 1 + aj s (p + aj s p + 1)) + 1 from Ur.out.rd.place,Zt.out];have:=Xh.out;have:=Zv.out;omega
  clear Vh Vi hcm TQ;go_wp2;go_roundw;case rel=>exact ⟨m,(p + aj s p + 1 + aj s (p + aj s p + 1)) + 1,false,xs ++ [(⟨av s p,av s (p + aj s p + 1)⟩:Al)],.slice (some ⟨gB,0,none⟩) (xs.length + 1) cB,Xh.out,EQ.out,fun _=>⟨by have:=HLN1.out; have:=Zv.out; have:=Xh.out; omega,by have:=Zr.out; have:=Zv.out; rw [SE,List.length_singleton]; omega⟩,Ur.out⟩
  exact HM.out
 rw [sJ hcm] at Vh;have Ur:=ai (TQ.out.moved VX.out Vi Vh);have EQ:=ai ((BI (xs:=xs) (n:=m) PI.out XN.out hcm).symm.trans HPP.out);have c2:=Ur.out.rd.c2;have f2:=Ur.out.rd.fr 2;have hl13:=Ur.out.rd.lt;have Xi:Hid (PL w1 (w13.setCell ⟨R,2,none⟩ (.bool true)) R X s (xs ++ [⟨av s p,av s (p + aj s p + 1)⟩]) (p + aj s p + 1 + aj s (p + aj s p + 1)) true v (.slice (some ⟨gB,0,none⟩) (xs.length + 1) cB)):=Ur.out.moved VX.out (by have:=yO w13 R 2 (.bool true) 0; exact this) Ur.out.rd.hurt;have HM:Hid (s.size - wat R (w13.setCell ⟨R,2,none⟩ (.bool true)) + wbad R (w13.setCell ⟨R,2,none⟩ (.bool true)) < s.size - wat R wr + wbad R wr):=by
  show _ < _;rw [Xi.out.rd.wbad0,Zu.out,show wat R (w13.setCell ⟨R,2,none⟩ (.bool true))=(p + aj s p + 1 + aj s (p + aj s p + 1)) from Xi.out.rd.place,Zt.out];have:=Zv.out;omega
 clear Vh Vi hcm TQ Ur;go_wp2;go_roundw;case rel=>exact ⟨m,(p + aj s p + 1 + aj s (p + aj s p + 1)),true,xs ++ [(⟨av s p,av s (p + aj s p + 1)⟩:Al)],.slice (some ⟨gB,0,none⟩) (xs.length + 1) cB,HPB.out,EQ.out,fun h=>(by cases h),Xi.out⟩
 exact HM.out
end Go.Proofs.YtajkkeikihhejaaGreat
