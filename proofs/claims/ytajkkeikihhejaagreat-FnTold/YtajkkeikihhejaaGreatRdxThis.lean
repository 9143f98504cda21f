/- Contract of the document's reader: an item that lists what is allowed. -/
import Derived.Test.YtajkkeikihhejaaGreatSq
import Derived.Test.YtajkkeikihhejaaGreatJ9
open Go.Proofs.Tryz
set_option maxHeartbeats 80000000
namespace Go.Proofs.YtajkkeikihhejaaGreat
set_option maxRecDepth 100000
open Go.ChangeShapes Go.WideShapes Go.ChangeAt Go.RowKit
open Pl
structure PL (w1 wr:World) (R X:Nat) (s:ByteArray) (xs:List Al) (p:Nat) (bad:Bool) (v vA:Value):Prop where
 rd:RdC wr R s p bad v
 onl:Onl R nI w1 wr
 c0:wr.cell? ⟨X,0,none⟩=some (.int .i64 1)
 c1:wr.cell? ⟨X,1,none⟩=some vA
 c2:wr.cell? ⟨X,2,none⟩=some (.string ⟨#[]⟩)
 c3:wr.cell? ⟨X,3,none⟩=some (.string ⟨#[]⟩)
 c4:wr.cell? ⟨X,4,none⟩=some (.slice none 0 0)
 fr:gY wr X
 lt:X < wr.heap.size
 own:wr.ownsRow (X + 1) 43 2 vA xs.length (pairs xs)
theorem PL.moved {w1 wr w':af} {R X:Nat} {s:ByteArray} {xs:List Al} {p p':Nat} {bad bad':Bool} {v vA:Value} (h:PL w1 wr R X s xs p bad v vA) (hRX:R < X) (hg:wr.grownBy w' (some R)) (hr:RdC w' R s p' bad' v):PL w1 w' R X s xs p' bad' v vA:=by
 have hne:some X ≠ some R:=by intro e; injection e with e; omega
 refine ⟨hr,h.onl.trans0 (Onl.of_grown hg),hg.cell h.c0 hne,hg.cell h.c1 hne,hg.cell h.c2 hne,hg.cell h.c3 hne,hg.cell h.c4 hne,df h.fr (hg.block X h.lt hne),TP h.lt hg.size,h.own.kept hg (.inr ?_)⟩;intro e; have:=(h.own.lt R e).1; omega
theorem PL.made {w1 wr:af} {R X:Nat} {s:ByteArray} {xs:List Al} {p:Nat} {bad:Bool} {v vA:Value} (h:PL w1 wr R X s xs p bad v vA) (o:Obj):PL w1 (wr.alloc o) R X s xs p bad v vA:=by
 have hg:=World.grownBy_alloc wr o none;exact ⟨h.rd.grown hg (by simp),h.onl.trans0 (Onl.of_below ((TT _ _).alloc (TS _) _)),hg.cell h.c0 (by simp),hg.cell h.c1 (by simp),hg.cell h.c2 (by simp),hg.cell h.c3 (by simp),hg.cell h.c4 (by simp),df h.fr (hg.block X h.lt (by simp)),TP h.lt hg.size,h.own.alloc o⟩
theorem PL.aset {w1 wr:af} {R X:Nat} {s:ByteArray} {xs:List Al} {p:Nat} {bad:Bool} {v vA:Value} (h:PL w1 wr R X s xs p bad v vA) (hRX:R < X) (h1:w1.heap.size≤X) {A:Nat} (hA:X < A) (hv:vA.ownBlock ≠ some A) (o:Nat) (u:Value):PL w1 (wr.setCell ⟨A,o,none⟩ u) R X s xs p bad v vA:=by
 have hb:∀ k,k ≠ A→(wr.setCell ⟨A,o,none⟩ u).heap[k]?=wr.heap[k]?:=fun k hk=>Below.heap_setCell wr _ _ k hk;refine ⟨h.rd.other (by omega) _ _,h.onl.at_new (by omega) _ _,?_,?_,?_,?_,?_,df h.fr (hb X (by omega)),by simpa using h.lt,jr h.own fun g hg=>hb g (fun e=>hv (by rw [hg,e]))⟩
 all_goals rw [Ul (w:=wr) (hb X (by omega))]
 ·exact h.c0
 ·exact h.c1
 ·exact h.c2
 ·exact h.c3
 exact h.c4
theorem KZ (xs:List Al) (a:Al):pairs (xs ++ [a])=pairs xs ++ [.string a.t,.string a.s]:=by simp [pairs]
theorem PL.app {w1 wr w':af} {R X:Nat} {s:ByteArray} {xs:List Al} {p:Nat} {bad:Bool} {v vA vB:Value} (h:PL w1 wr R X s xs p bad v vA) (hRX:R < X) (h1:w1.heap.size≤X) (a:Al) (hown:w'.ownsRow (X + 1) 43 2 vB (xs.length + 1) (pairs xs ++ [.string a.t,.string a.s])) (hg:wr.grownBy w' vA.ownBlock):PL w1 (w'.setCell ⟨X,1,none⟩ vB) R X s (xs ++ [a]) p bad v vB:=by
 have hX:some X ≠ vA.ownBlock:=fun e=>by have:=(h.own.lt X e.symm).1; omega
 have hR:some R ≠ vA.ownBlock:=fun e=>by have:=(h.own.lt R e.symm).1; omega
 have ho:Onl R nI w1 w':=⟨hg.os.trans h.onl.os,hg.tape.trans h.onl.tape,hg.output.trans h.onl.output,TZ h.onl.size hg.size,fun k hk h2 h3=>(hg.block k (TP hk h.onl.size) (fun e=>by have:=(h.own.lt k e.symm).1; omega)).trans (h.onl.block k hk h2 h3)⟩;refine ⟨(h.rd.grown hg hR).other (by omega) _ _,ho.at_new h1 _ _,?_,mS (hg.cell h.c1 hX),?_,?_,?_,fun j=>?_,?_,?_⟩
 ·rw [mO (by omega)]; exact hg.cell h.c0 hX
 ·rw [mO (by omega)]; exact hg.cell h.c2 hX
 ·rw [mO (by omega)]; exact hg.cell h.c3 hX
 ·rw [mO (by omega)]; exact hg.cell h.c4 hX
 ·simpa using df h.fr (hg.block X h.lt hX) j
 ·simpa using TP h.lt hg.size
 rw [KZ,T9,List.length_singleton];exact ownsRow_setCell_below hown (by show X < X + 1; omega) _
def wbad (R:Nat) (w:World):Nat:=match w.cell? ⟨R,2,none⟩ with
 | some (.bool true)=>0
 | _=>1
theorem RdC.wbad0 {w:af} {R:Nat} {s:ByteArray} {p:Nat} {v:Value} (h:RdC w R s p true v):wbad R w=0:=by
 simp [Go.Proofs.YtajkkeikihhejaaGreat.wbad,h.c2]
theorem RdC.wbad1 {w:af} {R:Nat} {s:ByteArray} {p:Nat} {v:Value} (h:RdC w R s p false v):wbad R w=1:=by
 simp [Go.Proofs.YtajkkeikihhejaaGreat.wbad,h.c2]
theorem zh (w:af) (a b:bH) (g:Nat) (hg:w.heap.size=g):∀ j u,[Value.string a,.string b][j]?=some u→(w.alloc (.cells #[.string a,.string b] 43)).cell? ((⟨g,0,none⟩:Addr).add j)=some u:=by
 intro j u hu;subst hg;rw [show (⟨w.heap.size,0,none⟩:Addr).add j=⟨w.heap.size,0 + j,none⟩ by simp [Addr.add]; omega,Um];have:=World.cell?_alloc_mark w #[.string a,.string b] 43 (0,0) j;rw [this];simpa using hu
def qh (s:ByteArray) (st:RS):Int × RS:=match dD s (s.size + 1) [] (ko fT st) with
 | (some xs,st')=>((st'.out.length:Int),rV ⟨1,xs,⟨#[]⟩,⟨#[]⟩,[]⟩ st')
 | (none,st')=>(0,st')
theorem zi {s:ByteArray} {st st':RS} {xs:List Al} (h:dD s (s.size + 1) [] (ko fT st)=(some xs,st')):qh s st=((st'.out.length:Int),rV ⟨1,xs,⟨#[]⟩,⟨#[]⟩,[]⟩ st'):=by simp only [qh,h]
theorem Ih {s:ByteArray} {st st':RS} (h:dD s (s.size + 1) [] (ko fT st)=(none,st')):qh s st=(0,st'):=by simp only [qh,h]
theorem Ii (s:bH) (n:Nat) (xs:List Al) (p:Nat) (o:List Ex):dD s n xs ⟨p,true,o⟩=(none,⟨p,true,o⟩):=by
 cases n with
 | zero=>rfl
 | succ n=>rfl
structure PairIs (s:ByteArray) (p:Nat) (o:List Ex) (a:Al) (pb:Nat):Prop where
 a:(⟨av s p,yj s (bz s ⟨p,false,o⟩)⟩:Al)=a
 b:aV s (bz s ⟨p,false,o⟩)=⟨pb,false,o⟩
theorem K7 {s:ByteArray} {p:Nat} {o:List Ex} (h:mG s uy (p + aj s p) false=false):PairIs s p o ⟨av s p,⟨#[]⟩⟩ (p + aj s p):=by
 have e:kZ s uy (bz s ⟨p,false,o⟩)=false:=h;exact ⟨by unfold yj; rw [e]; rfl,by unfold aV; rw [e]; rfl⟩
theorem Ij {s:ByteArray} {p:Nat} {o:List Ex} (h:mG s uy (p + aj s p) false=true):PairIs s p o ⟨av s p,av s (p + aj s p + 1)⟩ (p + aj s p + 1 + aj s (p + aj s p + 1)):=by
 have e:kZ s uy (bz s ⟨p,false,o⟩)=true:=h;exact ⟨by unfold yj; rw [e]; rfl,by unfold aV; rw [e]; rfl⟩
theorem xy {s:ByteArray} {p pb n:Nat} {o:List Ex} {a:Al} {xs:List Al} (h:PairIs s p o a pb) (h1:mG s dU pb false=true):dD s (n + 1) xs ⟨p,false,o⟩=(some (xs ++ [a]),⟨pb + 1,false,o⟩):=by
 have e:kZ s dU ⟨pb,false,o⟩=true:=h1;unfold dD;rw [h.a,h.b,e]; rfl
theorem xz {s:ByteArray} {p pb n:Nat} {o:List Ex} {a:Al} {xs:List Al} (h:PairIs s p o a pb) (h1:mG s dU pb false=false) (h2:mG s jR pb false=true):dD s (n + 1) xs ⟨p,false,o⟩=dD s n (xs ++ [a]) ⟨pb + 1,false,o⟩:=by
 have e:kZ s dU ⟨pb,false,o⟩=false:=h1;have e2:kZ s jR ⟨pb,false,o⟩=true:=h2
 conv=>lhs; unfold dD
 rw [h.a,h.b,e,e2]; rfl
theorem Co {s:ByteArray} {p pb n:Nat} {o:List Ex} {a:Al} {xs:List Al} (h:PairIs s p o a pb) (h1:mG s dU pb false=false) (h2:mG s jR pb false=false):dD s (n + 1) xs ⟨p,false,o⟩=dD s n (xs ++ [a]) ⟨pb,true,o⟩:=by
 have e:kZ s dU ⟨pb,false,o⟩=false:=h1;have e2:kZ s jR ⟨pb,false,o⟩=false:=h2
 conv=>lhs; unfold dD
 rw [h.a,h.b,e,e2]; rfl
theorem capOf {w:af} {base size n m cap:Nat} {e:TypeId} {ad:Option Addr} {xs:List Value} (h:w.ownsRow base e size (.slice ad n cap) m xs) (hm:m=n:=by rfl):n≤cap:=by
 rcases h.2 with ⟨e1,h0⟩ | ⟨g,cap',cur,e1,-,-,hnc,-⟩
 ·injection e1 with _ e2 e3; omega
 injection e1 with _ e2 e3; omega
theorem PL.node {w1 wr:af} {R X:Nat} {s:ByteArray} {xs:List Al} {p:Nat} {bad:Bool} {v vA:Value} (h:PL w1 wr R X s xs p bad v vA) (h1:w1.heap.size≤X) {base:Nat} (hb:base≤w1.heap.size):∃ ad cap,vA=.slice ad xs.length cap∧NewQ base wr ⟨⟨1,xs,⟨#[]⟩,⟨#[]⟩,[]⟩,ad,cap,none,0⟩∧∀ g,oJ ⟨⟨1,xs,⟨#[]⟩,⟨#[]⟩,[]⟩,ad,cap,none,0⟩ g→X < g:=by
 obtain ⟨ad,cap,e,h2,h3,h4⟩:=Rn h.own rfl;have hK:∀ g,¬ bK ⟨⟨1,xs,⟨#[]⟩,⟨#[]⟩,[]⟩,ad,cap,none,0⟩ g:=fun g hg=>hg.1 rfl;have hA:∀ g,oJ ⟨⟨1,xs,⟨#[]⟩,⟨#[]⟩,[]⟩,ad,cap,none,0⟩ g→X + 1≤g∧g < wr.heap.size∧gY wr g:=by
  rintro g (hg | hg)
  ·exact h4 g hg.1 hg.2
  exact absurd hg (hK g)
 refine ⟨ad,cap,e,⟨h3,fun h=>absurd rfl h,⟨h2,.inl rfl⟩,fun g hg=>⟨?_,(hA g hg).2⟩,fun g _ hg=>hK g hg,capOf (e ▸ h.own)⟩,fun g hg=>(hA g hg).1⟩;have:=(hA g hg).1;omega
theorem K8 (R:Nat) (s:bH) (st:RS) (base:Nat) (v:Value) (qs:List ER) (w:af) (h:RdF w R s st base v qs) (hR:R < base) (hB:base≤w.heap.size) (hs:s.size≤1000) (hp:st.p≤s.size) (hn:qs.length≤100000)
  (h0:mG s fT st.p st.bad=true) :
  Calls prog 234 #[.pointer (some ⟨R,0,none⟩)] w (uC R s base v qs w (qh s st)):=by
 obtain ⟨iA,hiA,zA0,zA1,zA2⟩:=info_parts (P:=prog) (e:=43) (z:=.agg #[.string ⟨#[]⟩,.string ⟨#[]⟩]) (size:=2) (bytes:=32) (by kernel_rfl);have YE:Hid (prog.info? 43=some iA∧iA.zero=some (.agg #[.string ⟨#[]⟩,.string ⟨#[]⟩])∧iA.size=2∧iA.bytes=32):=⟨hiA,zA0,zA1,zA2⟩;have H:=ai h;have HP:=ai hp
 have hbad:st.bad=false:=by cases e:st.bad with
  | false=>rfl
  | true=>rw [e] at h0; cases h0
 have HBD:=ai hbad;have HP1:Hid (st.p + 5≤s.size):=wh h0;clear h hp hiA zA0 zA1 zA2 hbad;go_enter func234,ntmps234;go_wp2_with fail;refine (jS R s fT st.p st.bad v w H.out.rd hs HP.out (by decide)).mono ?_;rintro e w1 ⟨rfl,hr1,hg1⟩;have Vz:=ai (H.out.is_yes hR h0 hr1 hg1);have UV:=ai (Onl.of_grown hg1);rw [h0];clear hr1 hg1 h0;obtain ⟨W2,hW2⟩:∃ W2,W2=w1.alloc (.cells #[.int .i64 1,.slice none 0 0,.string ⟨#[]⟩,.string ⟨#[]⟩,.slice none 0 0] 39):=⟨_,rfl⟩;have HL2:Hid (PL w1 W2 R w1.heap.size s [] (st.p + 5) false v (.slice none 0 0)):=by
  rw [hW2];have hrd:RdC w1 R s (st.p + 5) false v:=by have:=Vz.out.rd; rw [show (ko fT st).bad=false from HBD.out] at this; exact this
  refine ⟨hrd.below ((TT _ _).alloc (TS _) _),Onl.of_below ((TT _ _).alloc (TS _) _),by simp,by simp,by simp,by simp,by simp,fun j=>by simp,by simp,World.ownsRow_nil _ _ _ _⟩
 have HX0:Hid (w.heap.size≤w1.heap.size):=UV.out.size;have WO:Hid (R < w1.heap.size):=Vz.out.rd.lt;have WF:Hid (w1.heap.size≤w1.heap.size):=TS _;go_wp2_with fail;rw [← hW2];clear hW2;obtain ⟨X,hX⟩:∃ X,X=w1.heap.size:=⟨_,rfl⟩;replace HL2:Hid (PL w1 W2 R X s [] (st.p + 5) false v (.slice none 0 0)):=by rw [hX]; exact HL2
 replace HX0:Hid (w.heap.size≤X):=by rw [hX]; exact HX0
 replace WO:Hid (R < X):=by rw [hX]; exact WO
 replace WF:Hid (w1.heap.size≤X):=by rw [hX]; exact WF
 rw [← hX];clear hX;go_loopw [14] (fun _ wr=>∃ (n p:Nat) (bad:Bool) (xs:List Al) (vA:Value),Hid (p≤s.size)∧Hid (dD s n xs ⟨p,bad,st.out⟩=dD s (s.size + 1) [] (ko fT st))∧Hid (bad=false→s.size - p < n∧xs.length + 5≤p)∧Hid (PL w1 wr R X s xs p bad v vA)) (fun _ wr=>s.size - wat R wr + wbad R wr);case atStart=>exact ⟨s.size + 1,st.p + 5,false,[],.slice none 0 0,HP1.out,by show _=_; unfold ko; rw [HBD.out]; rfl,fun _=>⟨by omega,by simp⟩,HL2.out⟩
 obtain ⟨n,p,bad,xs,vA,HPL,HPP,HLN,HL⟩:=hrel;clear HL2;have r2:=HL.out.rd.c2;have rl:=HL.out.rd.lt;cases bad;case true=>
  have EQ:=ai (Ih (HPP.out.symm.trans (Ii s n xs p st.out)));have HF:=ai (Vz.out.over hR HL.out.onl HL.out.rd);have HO:=ai (UV.out.trans0 HL.out.onl);go_wp2;exact bodyPost_ret (v:=.int .i64 0) (by simp [results,Tryz.results234,go_sem]) rfl (by rw [EQ.out]; exact ⟨v,[],rfl,by rw [List.append_nil]; exact HF.out,HO.out.any v,fun q hq=>by cases hq⟩)
 obtain ⟨m,hm⟩:∃ m,n=m + 1:=⟨n - 1,by have:=(HLN.out rfl).1; omega⟩;subst hm;have HPW:=ai (kr s p HPL.out);have HLN1:=ai (HLN.out rfl).1;have HLN2:=ai (HLN.out rfl).2;clear HLN;go_wp2_with fail;refine (uA R s p false v wr HL.out.rd hs HPL.out).mono ?_;rintro e w4 ⟨rfl,hr4,hg4⟩;have HL4:=ai (HL.out.moved WO.out hg4 hr4);have HPLC:=ai HL.out.rd.place;have HPLB:=ai HL.out.rd.wbad1;clear hr4 hg4 HL r2 rl;obtain ⟨W5,Va⟩:∃ W5,W5=w4.alloc (.cells #[.string (av s p),.string ⟨#[]⟩] 43):=⟨_,rfl⟩;have HL5:Hid (PL w1 W5 R X s xs (p + aj s p) false v vA):=by rw [Va]; exact HL4.out.made _
 have HA0:Hid (W5.cell? ⟨w4.heap.size,0,none⟩=some (.string (av s p))):=by show _=_; rw [Va]; simp
 have HA1:Hid (W5.cell? ⟨w4.heap.size,1,none⟩=some (.string ⟨#[]⟩)):=by show _=_; rw [Va]; simp
 have HAF:Hid (gY W5 w4.heap.size):=fun j=>by rw [Va]; simp
 have UO:Hid (w4.heap.size < W5.heap.size):=by show _ < _; rw [Va]; simp
 have HAX:Hid (X < w4.heap.size):=HL4.out.lt;have HAV:Hid (vA.ownBlock ≠ some w4.heap.size):=fun e=>by have:=(HL4.out.own.lt _ e).2; omega
 go_wp2_with fail;rw [← Va];clear Va;obtain ⟨A,hA⟩:∃ A,A=w4.heap.size:=⟨_,rfl⟩;rw [← hA] at HA0 HA1 HAF UO HAX HAV;rw [← hA];clear hA HL4;refine (jS R s uy (p + aj s p) false v W5 HL5.out.rd hs HPW.out (by decide)).mono ?_;rintro e w6 ⟨rfl,Wh,XZ⟩;have ZP:Hid (some A ≠ some R):=by intro e; injection e with e; have:=WO.out; have:=HAX.out; omega
 have HB0:=ai (XZ.cell HA0.out ZP.out);have HB1:=ai (XZ.cell HA1.out ZP.out);have HBF:=ai (df HAF.out (XZ.block A UO.out ZP.out));have Yo:=ai (TP UO.out XZ.size);cases hc:mG s uy (p + aj s p) false;case false=>
  rw [sP hc] at Wh;have HL6:=ai (HL5.out.moved WO.out XZ Wh);have PI:=ai (K7 (o:=st.out) hc);have HPB:=HPW;have HPG:Hid (p≤p + aj s p):=Nat.le_add_right _ _;clear Wh XZ hc HL5 HA0 HA1 HAF UO;have a0:=HB0.out;have a1:=HB1.out;have k1:=HL6.out.c1;obtain ⟨W9,Yp⟩:∃ W9,W9=w6.alloc (.cells #[.string (av s p),.string ((⟨#[]⟩:ByteArray))] 43):=⟨_,rfl⟩;have WX:Hid (PL w1 W9 R X s xs (p + aj s p) false v vA):=by rw [Yp]; exact HL6.out.made _
  have Wp:Hid (∀ j u,[Value.string (av s p),.string ((⟨#[]⟩:ByteArray))][j]?=some u→W9.cell? ((⟨w6.heap.size,0,none⟩:Addr).add j)=some u):=by rw [Yp]; exact zh w6 _ _ _ (rfl)
  have Zf:Hid (X + 1≤W9.heap.size):=WX.out.lt;have hxs:xs.length≤1000:=by have:=HLN2.out; have:=HPL.out; omega
  go_wp2_with (at_builtin; rw [← Yp]; clear Yp; refine wpList_append_own _ rfl _ _ 36 rfl (X + 1) 43 iA (.agg #[.string ⟨#[]⟩,.string ⟨#[]⟩]) 2 32 underlying36 YE.out.1 YE.out.2.1 YE.out.2.2.1 YE.out.2.2.2 rfl (by decide) vA xs.length (pairs xs) rfl WX.out.own ⟨w6.heap.size,0,none⟩ 1 1 [Value.string (av s p),.string ((⟨#[]⟩:ByteArray))] rfl rfl Wp.out (by intro u hu; simp at hu; rcases hu with rfl | rfl <;> rfl) (by unfold maxLen; omega) (by omega) Zf.out ?_);intro vB w10 VL Vv _;obtain ⟨gB,cB,rfl⟩:=fH VL;have X0:some X ≠ vA.ownBlock:=fun e=>by have:=(WX.out.own.lt X e.symm).1; omega
  have k10:=Vv.cell WX.out.c1 X0;have f10:=df WX.out.fr (Vv.block X WX.out.lt X0) 1;have l10:=TP WX.out.lt Vv.size;have VZ:=ai (WX.out.app WO.out WF.out ⟨av s p,(⟨#[]⟩:ByteArray)⟩ VL Vv);clear VL Vv a0 a1 k1 WX X0 Wp Zf HL6;go_wp2_with fail;obtain ⟨W11,Zg⟩:∃ W11,W11=w10.setCell ⟨X,1,none⟩ (.slice (some ⟨gB,0,none⟩) (xs.length + 1) cB):=⟨_,rfl⟩;rw [← Zg] at VZ ⊢;clear Zg k10 f10 l10;refine (jS R s dU (p + aj s p) false v W11 VZ.out.rd hs HPB.out (by decide)).mono ?_;rintro e w12 ⟨rfl,VE,VU⟩;cases hcl:mG s dU (p + aj s p) false;case true=>
   rw [oP hcl] at VE;have UQ:=ai (VZ.out.moved WO.out VU VE);have EQ:=ai (zi (HPP.out.symm.trans (xy (xs:=xs) (n:=m) PI.out hcl)));obtain ⟨ad,cap,hva,hnq,hin⟩:=UQ.out.node WF.out (base:=base) (TZ hB UV.out.size);injection hva with hva1 hva2 hva3;subst hva1;subst hva3;clear hva2;have HNQ:=ai hnq;have ZQ:=ai hin;have k0:=UQ.out.c0;have k1:=UQ.out.c1;have k2:=UQ.out.c2;have k3:=UQ.out.c3;have k4:=UQ.out.c4;have HF:=ai (Vz.out.over hR UQ.out.onl UQ.out.rd);have HO:=ai (UV.out.trans0 UQ.out.onl);clear VE VU hcl hnq hin VZ UQ;go_wp2_with fail;have Zh:=Ie R s ⟨(p + aj s p) + 1,false,st.out⟩ base v qs ⟨⟨1,xs ++ [⟨av s p,(⟨#[]⟩:ByteArray)⟩],⟨#[]⟩,⟨#[]⟩,[]⟩,some ⟨gB,0,none⟩,cB,none,0⟩ w12 HF.out hR (TZ hB HO.out.size) hn HNQ.out (.inl ⟨rfl,rfl,rfl⟩) (fun g hg=>⟨fun e=>by have:=(Vz.out.own.lt g e).2; have:=ZQ.out g hg; have:=WF.out; omega,fun q' hq' hg'=>by have:=(Vz.out.lie q' hq' g hg').2.1; have:=ZQ.out g hg; have:=WF.out; omega⟩);rw [show (⟨⟨1,xs ++ [⟨av s p,(⟨#[]⟩:ByteArray)⟩],⟨#[]⟩,⟨#[]⟩,[]⟩,some ⟨gB,0,none⟩,cB,none,0⟩:ER).val=.agg #[.int .i64 1,.slice (some ⟨gB,0,none⟩) (xs.length + 1) cB,.string ⟨#[]⟩,.string ⟨#[]⟩,.slice none 0 0] by simp [ER.val]] at Zh;refine Zh.mono ?_;rintro e w13 ⟨v13,rfl,Zi,Zj⟩;have HF13:=ai Zi;have HW13:=ai ((HO.out.any v).trans Zj);clear Zi Zj;go_wp2;exact bodyPost_ret (v:=.int .i64 (st.out.length:Int)) (by simp [results,Tryz.results234,go_sem]) rfl (by rw [EQ.out]; exact ⟨v13,_,rfl,HF13.out,HW13.out,fun q hq g hg=>by rw [Ua] at hq; subst hq; have:=ZQ.out g hg; have:=HX0.out; omega⟩)
  rw [sP hcl] at VE;have UQ:=ai (VZ.out.moved WO.out VU VE);have YF:=ai hcl;clear VE VU hcl VZ;go_wp2_with fail;refine (jS R s jR (p + aj s p) false v w12 UQ.out.rd hs HPB.out (by decide)).mono ?_;rintro e w13 ⟨rfl,V4,V5⟩;cases hcm:mG s jR (p + aj s p) false;case true=>
   rw [oP hcm] at V4;have Vb:=ai (UQ.out.moved WO.out V5 V4);have X7:Hid ((p + aj s p) + 1≤s.size):=wh hcm;have EQ:=ai ((xz (xs:=xs) (n:=m) PI.out YF.out hcm).symm.trans HPP.out);have HM:Hid (s.size - wat R w13 + wbad R w13 < s.size - wat R wr + wbad R wr):=by
    show _ < _;rw [Vb.out.rd.wbad1,HPLB.out,show wat R w13=(p + aj s p) + 1 from Vb.out.rd.place,HPLC.out];have:=X7.out;have:=HPG.out;omega
   clear V4 V5 hcm UQ;go_wp2;go_roundw;case rel=>exact ⟨m,(p + aj s p) + 1,false,xs ++ [(⟨av s p,(⟨#[]⟩:ByteArray)⟩:Al)],.slice (some ⟨gB,0,none⟩) (xs.length + 1) cB,X7.out,EQ.out,fun _=>⟨by have:=HLN1.out; have:=HPG.out; have:=X7.out; omega,by have:=HLN2.out; have:=HPG.out; rw [T9,List.length_singleton]; omega⟩,Vb.out⟩
   exact HM.out
  rw [sP hcm] at V4;have Vb:=ai (UQ.out.moved WO.out V5 V4);have EQ:=ai ((Co (xs:=xs) (n:=m) PI.out YF.out hcm).symm.trans HPP.out);have c2:=Vb.out.rd.c2;have f2:=Vb.out.rd.fr 2;have hl13:=Vb.out.rd.lt;have X8:Hid (PL w1 (w13.setCell ⟨R,2,none⟩ (.bool true)) R X s (xs ++ [⟨av s p,(⟨#[]⟩:ByteArray)⟩]) (p + aj s p) true v (.slice (some ⟨gB,0,none⟩) (xs.length + 1) cB)):=Vb.out.moved WO.out (by have:=ze w13 R 2 (.bool true) 0; exact this) Vb.out.rd.hurt;have HM:Hid (s.size - wat R (w13.setCell ⟨R,2,none⟩ (.bool true)) + wbad R (w13.setCell ⟨R,2,none⟩ (.bool true)) < s.size - wat R wr + wbad R wr):=by
   show _ < _;rw [X8.out.rd.wbad0,HPLB.out,show wat R (w13.setCell ⟨R,2,none⟩ (.bool true))=(p + aj s p) from X8.out.rd.place,HPLC.out];have:=HPG.out;omega
  clear V4 V5 hcm UQ Vb;go_wp2;go_roundw;case rel=>exact ⟨m,(p + aj s p),true,xs ++ [(⟨av s p,(⟨#[]⟩:ByteArray)⟩:Al)],.slice (some ⟨gB,0,none⟩) (xs.length + 1) cB,HPB.out,EQ.out,fun h=>(by cases h),X8.out⟩
  exact HM.out
 rw [oP hc] at Wh;have HL6:=ai (HL5.out.moved WO.out XZ Wh);have PI:=ai (Ij (o:=st.out) hc);have HPH:Hid (p + aj s p + 1≤s.size):=wh hc;have HPB:=ai (kr s _ HPH.out);have HPG:Hid (p≤p + aj s p + 1 + aj s (p + aj s p + 1)):=by show _≤_; omega
 clear Wh XZ hc HL5 HA0 HA1 HAF UO;go_wp2_with fail;refine (uA R s (p + aj s p + 1) false v w6 HL6.out.rd hs HPH.out).mono ?_;rintro e w7 ⟨rfl,hr7,WN⟩;have HL7:=ai (HL6.out.moved WO.out WN hr7);have VG:=ai (WN.cell HB0.out ZP.out);have a1:=WN.cell HB1.out ZP.out;have hcf:=df HBF.out (WN.block A Yo.out ZP.out);have f1:=hcf 1;have hcl:=TP Yo.out WN.size;obtain ⟨W8,Wu⟩:∃ W8,W8=w7.setCell ⟨A,1,none⟩ (.string (av s (p + aj s p + 1))):=⟨_,rfl⟩;have HL8:Hid (PL w1 W8 R X s xs (p + aj s p + 1 + aj s (p + aj s p + 1)) false v vA):=by rw [Wu]; exact HL7.out.aset WO.out WF.out HAX.out HAV.out _ _
 have HD0:Hid (W8.cell? ⟨A,0,none⟩=some (.string (av s p))):=by show _=_; rw [Wu,mO (by omega)]; exact VG.out
 have HD1:Hid (W8.cell? ⟨A,1,none⟩=some (.string (av s (p + aj s p + 1)))):=by show _=_; rw [Wu]; exact mS a1
 clear hr7 WN HL6 HB0 HB1 HBF Yo;have a0:=VG.out;have k1:=HL7.out.c1;have hxa:X ≠ A:=by have:=HAX.out; omega
 have hax:A ≠ X:=by have:=HAX.out; omega
 obtain ⟨W9,Yp⟩:∃ W9,W9=W8.alloc (.cells #[.string (av s p),.string (av s (p + aj s p + 1))] 43):=⟨_,rfl⟩;have WX:Hid (PL w1 W9 R X s xs (p + aj s p + 1 + aj s (p + aj s p + 1)) false v vA):=by rw [Yp]; exact HL8.out.made _
 have Wp:Hid (∀ j u,[Value.string (av s p),.string (av s (p + aj s p + 1))][j]?=some u→W9.cell? ((⟨w7.heap.size,0,none⟩:Addr).add j)=some u):=by rw [Yp]; exact zh W8 _ _ _ (by rw [Wu]; simp)
 have Zf:Hid (X + 1≤W9.heap.size):=WX.out.lt;have hxs:xs.length≤1000:=by have:=HLN2.out; have:=HPL.out; omega
 go_wp2_with (at_builtin; rw [← Wu]; clear Wu; rw [← Yp]; clear Yp; refine wpList_append_own _ rfl _ _ 36 rfl (X + 1) 43 iA (.agg #[.string ⟨#[]⟩,.string ⟨#[]⟩]) 2 32 underlying36 YE.out.1 YE.out.2.1 YE.out.2.2.1 YE.out.2.2.2 rfl (by decide) vA xs.length (pairs xs) rfl WX.out.own ⟨w7.heap.size,0,none⟩ 1 1 [Value.string (av s p),.string (av s (p + aj s p + 1))] rfl rfl Wp.out (by intro u hu; simp at hu; rcases hu with rfl | rfl <;> rfl) (by unfold maxLen; omega) (by omega) Zf.out ?_);intro vB w10 VL Vv _;obtain ⟨gB,cB,rfl⟩:=fH VL;have X0:some X ≠ vA.ownBlock:=fun e=>by have:=(WX.out.own.lt X e.symm).1; omega
 have k10:=Vv.cell WX.out.c1 X0;have f10:=df WX.out.fr (Vv.block X WX.out.lt X0) 1;have l10:=TP WX.out.lt Vv.size;have VZ:=ai (WX.out.app WO.out WF.out ⟨av s p,av s (p + aj s p + 1)⟩ VL Vv);clear VL Vv a0 a1 k1 WX X0 Wp Zf HL8 hxa hax f1 hcl hcf;go_wp2_with fail;obtain ⟨W11,Zg⟩:∃ W11,W11=w10.setCell ⟨X,1,none⟩ (.slice (some ⟨gB,0,none⟩) (xs.length + 1) cB):=⟨_,rfl⟩;rw [← Zg] at VZ ⊢;clear Zg k10 f10 l10;refine (jS R s dU (p + aj s p + 1 + aj s (p + aj s p + 1)) false v W11 VZ.out.rd hs HPB.out (by decide)).mono ?_;rintro e w12 ⟨rfl,VE,VU⟩;cases hcl:mG s dU (p + aj s p + 1 + aj s (p + aj s p + 1)) false;case true=>
  rw [oP hcl] at VE;have UQ:=ai (VZ.out.moved WO.out VU VE);have EQ:=ai (zi (HPP.out.symm.trans (xy (xs:=xs) (n:=m) PI.out hcl)));obtain ⟨ad,cap,hva,hnq,hin⟩:=UQ.out.node WF.out (base:=base) (TZ hB UV.out.size);injection hva with hva1 hva2 hva3;subst hva1;subst hva3;clear hva2;have HNQ:=ai hnq;have ZQ:=ai hin;have k0:=UQ.out.c0;have k1:=UQ.out.c1;have k2:=UQ.out.c2;have k3:=UQ.out.c3;have k4:=UQ.out.c4;have HF:=ai (Vz.out.over hR UQ.out.onl UQ.out.rd);have HO:=ai (UV.out.trans0 UQ.out.onl);clear VE VU hcl hnq hin VZ UQ;go_wp2_with fail;have Zh:=Ie R s ⟨(p + aj s p + 1 + aj s (p + aj s p + 1)) + 1,false,st.out⟩ base v qs ⟨⟨1,xs ++ [⟨av s p,av s (p + aj s p + 1)⟩],⟨#[]⟩,⟨#[]⟩,[]⟩,some ⟨gB,0,none⟩,cB,none,0⟩ w12 HF.out hR (TZ hB HO.out.size) hn HNQ.out (.inl ⟨rfl,rfl,rfl⟩) (fun g hg=>⟨fun e=>by have:=(Vz.out.own.lt g e).2; have:=ZQ.out g hg; have:=WF.out; omega,fun q' hq' hg'=>by have:=(Vz.out.lie q' hq' g hg').2.1; have:=ZQ.out g hg; have:=WF.out; omega⟩);rw [show (⟨⟨1,xs ++ [⟨av s p,av s (p + aj s p + 1)⟩],⟨#[]⟩,⟨#[]⟩,[]⟩,some ⟨gB,0,none⟩,cB,none,0⟩:ER).val=.agg #[.int .i64 1,.slice (some ⟨gB,0,none⟩) (xs.length + 1) cB,.string ⟨#[]⟩,.string ⟨#[]⟩,.slice none 0 0] by simp [ER.val]] at Zh;refine Zh.mono ?_;rintro e w13 ⟨v13,rfl,Zi,Zj⟩;have HF13:=ai Zi;have HW13:=ai ((HO.out.any v).trans Zj);clear Zi Zj;go_wp2;exact bodyPost_ret (v:=.int .i64 (st.out.length:Int)) (by simp [results,Tryz.results234,go_sem]) rfl (by rw [EQ.out]; exact ⟨v13,_,rfl,HF13.out,HW13.out,fun q hq g hg=>by rw [Ua] at hq; subst hq; have:=ZQ.out g hg; have:=HX0.out; omega⟩)
 rw [sP hcl] at VE;have UQ:=ai (VZ.out.moved WO.out VU VE);have YF:=ai hcl;clear VE VU hcl VZ;go_wp2_with fail;refine (jS R s jR (p + aj s p + 1 + aj s (p + aj s p + 1)) false v w12 UQ.out.rd hs HPB.out (by decide)).mono ?_;rintro e w13 ⟨rfl,V4,V5⟩;cases hcm:mG s jR (p + aj s p + 1 + aj s (p + aj s p + 1)) false;case true=>
  rw [oP hcm] at V4;have Vb:=ai (UQ.out.moved WO.out V5 V4);have X7:Hid ((p + aj s p + 1 + aj s (p + aj s p + 1)) + 1≤s.size):=wh hcm;have EQ:=ai ((xz (xs:=xs) (n:=m) PI.out YF.out hcm).symm.trans HPP.out);have HM:Hid (s.size - wat R w13 + wbad R w13 < s.size - wat R wr + wbad R wr):=by
   show _ < _;rw [Vb.out.rd.wbad1,HPLB.out,show wat R w13=(p + aj s p + 1 + aj s (p + aj s p + 1)) + 1 from Vb.out.rd.place,HPLC.out];have:=X7.out;have:=HPG.out;omega
  clear V4 V5 hcm UQ;go_wp2;go_roundw;case rel=>exact ⟨m,(p + aj s p + 1 + aj s (p + aj s p + 1)) + 1,false,xs ++ [(⟨av s p,av s (p + aj s p + 1)⟩:Al)],.slice (some ⟨gB,0,none⟩) (xs.length + 1) cB,X7.out,EQ.out,fun _=>⟨by have:=HLN1.out; have:=HPG.out; have:=X7.out; omega,by have:=HLN2.out; have:=HPG.out; rw [T9,List.length_singleton]; omega⟩,Vb.out⟩
  exact HM.out
 rw [sP hcm] at V4;have Vb:=ai (UQ.out.moved WO.out V5 V4);have EQ:=ai ((Co (xs:=xs) (n:=m) PI.out YF.out hcm).symm.trans HPP.out);have c2:=Vb.out.rd.c2;have f2:=Vb.out.rd.fr 2;have hl13:=Vb.out.rd.lt;have X8:Hid (PL w1 (w13.setCell ⟨R,2,none⟩ (.bool true)) R X s (xs ++ [⟨av s p,av s (p + aj s p + 1)⟩]) (p + aj s p + 1 + aj s (p + aj s p + 1)) true v (.slice (some ⟨gB,0,none⟩) (xs.length + 1) cB)):=Vb.out.moved WO.out (by have:=ze w13 R 2 (.bool true) 0; exact this) Vb.out.rd.hurt;have HM:Hid (s.size - wat R (w13.setCell ⟨R,2,none⟩ (.bool true)) + wbad R (w13.setCell ⟨R,2,none⟩ (.bool true)) < s.size - wat R wr + wbad R wr):=by
  show _ < _;rw [X8.out.rd.wbad0,HPLB.out,show wat R (w13.setCell ⟨R,2,none⟩ (.bool true))=(p + aj s p + 1 + aj s (p + aj s p + 1)) from X8.out.rd.place,HPLC.out];have:=HPG.out;omega
 clear V4 V5 hcm UQ Vb;go_wp2;go_roundw;case rel=>exact ⟨m,(p + aj s p + 1 + aj s (p + aj s p + 1)),true,xs ++ [(⟨av s p,av s (p + aj s p + 1)⟩:Al)],.slice (some ⟨gB,0,none⟩) (xs.length + 1) cB,HPB.out,EQ.out,fun h=>(by cases h),X8.out⟩
 exact HM.out
end Go.Proofs.YtajkkeikihhejaaGreat
