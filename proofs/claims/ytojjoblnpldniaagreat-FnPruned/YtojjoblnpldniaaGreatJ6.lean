/- Contracts of the law's helpers that weigh a schema. -/
import Derived.Test.YtojjoblnpldniaaGreatSq
import Derived.Test.YtojjoblnpldniaaGreatJ3
import Derived.Test.YtojjoblnpldniaaGreatJ2
import Derived.Deep.DrawnRows
import Derived.Test.YtojjoblnpldniaaGreatShelf
open Go.Proofs.Tryz
set_option maxHeartbeats 80000000
namespace Go.Proofs.YtojjoblnpldniaaGreat
open ChangeShapes WideShapes ChangeAt RowKit
open Pl
def RR.row(r:RR):List Value:=[.string r.name,.slice r.ad r.rows.length r.cap]
def TR.row(r:TR):List Value:=[.string r.name,.slice r.ad r.rows.length r.cap]
theorem mO{w:af}{g i j:Nat}{v:Value}(h:i≠j):(w.setCell ⟨g,i,none⟩ v).cell? ⟨g,j,none⟩=w.cell? ⟨g,j,none⟩:=by
 apply World.cell?_setCell_other;intro e;exact h (congrArg Addr.off e)
theorem mS{w:af}{a:Addr}{v u:Value}(h:w.cell? a=some u):(w.setCell a v).cell? a=some v:=by
 apply World.cell?_setCell_same;exact h
theorem mK{W w1:af}{n o:Nat}{v:Value}(hb:ag W w1)(hn:n<W.heap.size)(h:W.cell? ⟨n,o,none⟩=some v):w1.cell? ⟨n,o,none⟩=some v:=by
 rw[hb.cell (p:=⟨n,o,none⟩) hn];exact h
def j6(w:World)(g:Nat):Prop:=∀j,w.frozen? ⟨g,j,none⟩=false
structure Chg(S:Nat->Prop)(w w':World):Prop where
 base:Below 0 w w'
 block:∀k,k<w.heap.size->¬S k->w'.heap[k]?=w.heap[k]?
 free:∀g,g<w.heap.size->j6 w g->j6 w' g
theorem Chg.refl(S:Nat->Prop)(w:af):Chg S w w:=⟨Vv _ _,fun _ _ _=>rfl,fun _ _ h=>h⟩
theorem Chg.size{S:Nat->Prop}{w w':af}(h:Chg S w w'):w.heap.size<=w'.heap.size:=h.base.size
theorem Chg.trans{S:Nat->Prop}{a b c:af}(h:Chg S a b)(k:Chg S b c):Chg S a c :=
 ⟨h.base.trans k.base,fun i hi hs=>(k.block i (Vt hi h.size) hs).trans (h.block i hi hs),fun g hg hf=>k.free g (Vt hg h.size) (h.free g hg hf)⟩
theorem Chg.mono{S T:Nat->Prop}{a b:af}(h:Chg S a b)(hs:∀g,S g->T g):Chg T a b :=
 ⟨h.base,fun i hi hn=>h.block i hi fun e=>hn (hs i e),h.free⟩
theorem Chg.of{S:Nat->Prop}{w w':af}(h:ag w w'):Chg S w w' :=
 ⟨h.mono (Vy _),fun k hk _=>h.block k hk,fun g hg hf j=>by rw[h.frozen (p:=⟨g,j,none⟩) hg];exact hf j⟩
theorem Chg.set{S:Nat->Prop}{w:af}{g j:Nat}(v:Value)(hs:S g):Chg S w (w.setCell ⟨g,j,none⟩ v) :=
 ⟨(Vv 0 w).setCell (Vy _) v,fun k _ hk=>Below.heap_setCell _ _ _ _ (fun e=>hk (by rw[e];exact hs)),fun g' _ hf j'=>by simpa using hf j'⟩
theorem Chg.below{S:Nat->Prop}{w w':af}{m:Nat}(h:Chg S w w')(hm:∀g,S g->m<=g)(hw:m<=w.heap.size):Below m w w' :=
 ⟨h.base.os,h.base.tape,h.base.output,h.base.size,fun k hk=>h.block k (Vt hk hw) fun e=>by have:=hm k e;omega⟩
theorem Chg.cell{S:Nat->Prop}{w w':af}(h:Chg S w w'){g o:Nat}(hg:g<w.heap.size)(hs:¬S g):w'.cell? ⟨g,o,none⟩=w.cell? ⟨g,o,none⟩:=by
 have:=h.block g hg hs;unfold World.cell?;simp only[this]
theorem vC(c:UInt8)(w:af):
  Calls prog 278 #[.int .u8 c.toNat] w fun e w'=>e=.returned (.bool (zn c))/\w'=w:=by
 by_cases hl:fA c=true
 ·go_enter func278,ntmps278;go_wp2_with(go_at_call 191;refine(lH _ _).mono ?_;rintro e w' ⟨rfl,rfl⟩);go_ret;exact⟨ah (by simp[zn,hl]),rfl⟩
 have hf:fA c=false:=by simpa using hl
 clear hl;go_enter func278,ntmps278;go_wp2_with(go_at_call 191;refine(lH _ _).mono ?_;rintro e w' ⟨rfl,rfl⟩)
 all_goals go_ret
 all_goals refine⟨ah ?_,rfl⟩
 all_goals(rw[VR];simp[zn,hf];omega)
theorem Jz(s:bi)(w:af)(hs:s.size<=maxLen):
  Calls prog 281 #[.string s] w fun e w'=>e=.returned (.bool (qx s))/\w'=w:=by
 unfold maxLen at hs;by_cases h1:1<=s.size/\s.size<=12
 ·obtain⟨ha,hb⟩:=h1;go_enter func281,ntmps281;go_wp2
  go_loop [3] (fun i=>∃k:Nat,k<=s.size/\i=.int .i64 k/\Hid (Jf zn s k=true)) (fun i=>s.size-(intOf i).toNat)
  case atStart=>exact⟨0,Vy _,rfl,uT _ _⟩
  obtain⟨k,hk,rfl,hu⟩:=hrel;by_cases hlt:k<s.size
  ·by_cases hc:zn s[k]=true
   ·have hd:(97<=s[k].toNat/\s[k].toNat<=122)\/(48<=s[k].toNat/\s[k].toNat<=57)\/s[k].toNat=95:=by simp[zn,fA]at hc;omega
    have HU:Hid (Jf zn s (k+1)=true):=by show _=_;rw[uU _ _ _ hlt,hc,hu.out];rfl
    clear hc;rcases hd with⟨hd1,hd2⟩|⟨hd1,hd2⟩|hd1
    all_goals
     go_wp2;go_round;case rel=>exact⟨k+1,by omega,by go_num,HU⟩
     simp[intOf];omega
   have hc':zn s[k]=false:=by simpa using hc
   have HB:Hid (sP zn s=false):=zt _ _ _ hlt hc';have hd:s[k].toNat<48\/(57<s[k].toNat/\s[k].toNat<95)\/(95<s[k].toNat/\s[k].toNat<97)\/122<s[k].toNat:=by simp[zn,fA]at hc';omega
   clear hc hc';rcases hd with hd|⟨hd,hd2⟩|⟨hd,hd2⟩|hd
   all_goals
    have h95:((s[k].toNat:Int) != 95)=true:=by simp;omega
    go_wp2;go_ret;exact⟨ah (by simp[qx,dR,HB.out]),rfl⟩
  go_wp2;go_ret;refine⟨ah ?_,rfl⟩;have hall:sP zn s=true:=by rw[<-zq zn s k (by omega)];exact hu.out
  have hl:oo s=true:=by simp[oo];omega
  simp[qx,dR,hall,hl]
 have hn:oo s=false:=by simp[oo];omega
 have HN:Hid (qx s=false):=by show _=_;simp[qx,dR,hn]
 clear hn;by_cases ha:1<=s.size
 ·have hb:12<s.size:=by omega
  clear h1;go_enter func281,ntmps281;go_wp2;go_ret;exact⟨ah HN.out.symm,rfl⟩
 have ha':s.size<1:=by omega
 clear h1;go_enter func281,ntmps281;go_wp2;go_ret;exact⟨ah HN.out.symm,rfl⟩
theorem Ae(s:bi)(w:af)(hs:s.size<=maxLen):
  Calls prog 190 #[.string s,.func (Fn.func 278) #[] #[]] w fun e w'=>e=.returned (.bool (dR zn s))/\w'=w:=by
 unfold maxLen at hs;by_cases h1:1<=s.size/\s.size<=12
 ·obtain⟨ha,hb⟩:=h1;go_enter func190,ntmps190;go_wp2
  go_loop [16] (fun i=>∃k:Nat,k<=s.size/\i=.int .i64 k/\Hid (Jf zn s k=true)) (fun i=>s.size-(intOf i).toNat)
  case atStart=>exact⟨0,Vy _,rfl,uT _ _⟩
  obtain⟨k,hk,rfl,hu⟩:=hrel;by_cases hlt:k<s.size
  ·by_cases hc:zn s[k]=true
   ·have HU:Hid (Jf zn s (k+1)=true):=by show _=_;rw[uU _ _ _ hlt,hc,hu.out];rfl
    go_wp2_with(go_at_call 278;refine(vC _ _).mono ?_;rintro e w' ⟨rfl,rfl⟩);go_round;case rel=>exact⟨k+1,by omega,by go_num,HU⟩
    simp[intOf];omega
   have hc':zn s[k]=false:=by simpa using hc
   have HB:Hid (sP zn s=false):=zt _ _ _ hlt hc';clear hc;go_wp2_with(go_at_call 278;refine(vC _ _).mono ?_;rintro e w' ⟨rfl,rfl⟩);go_ret;exact⟨ah (by simp[dR,HB.out]),rfl⟩
  go_wp2;go_ret;refine⟨ah ?_,rfl⟩;have hall:sP zn s=true:=by rw[<-zq zn s k (by omega)];exact hu.out
  have hl:oo s=true:=by simp[oo];omega
  simp[dR,hall,hl]
 have hn:oo s=false:=by simp[oo];omega
 have HN:Hid (dR zn s=false):=by show _=_;simp[dR,hn]
 clear hn;by_cases ha:1<=s.size
 ·have hb:12<s.size:=by omega
  clear h1;go_enter func190,ntmps190;go_wp2;go_ret;exact⟨ah HN.out.symm,rfl⟩
 have ha':s.size<1:=by omega
 clear h1;go_enter func190,ntmps190;go_wp2;go_ret;exact⟨ah HN.out.symm,rfl⟩
theorem Af(s:bi)(w:af)(hs:s.size<=maxLen):
  Calls prog 220 #[.string s] w fun e w'=>e=.returned (.bool (qx s))/\w'=w:=by
 go_enter func220,ntmps220;go_wp2_with(go_at_call 190;refine(Ae _ _ hs).mono ?_;rintro e w' ⟨rfl,rfl⟩);go_ret;exact⟨rfl,rfl⟩
theorem j3{W w1:af}(hb:ag W w1):(∀b o,b<W.heap.size->w1.cell? ⟨b,o,none⟩=W.cell? ⟨b,o,none⟩)/\(∀b o,b<W.heap.size->w1.frozen? ⟨b,o,none⟩=W.frozen? ⟨b,o,none⟩) :=
 ⟨fun b o h=>hb.cell (p:=⟨b,o,none⟩) h,fun b o h=>hb.frozen (p:=⟨b,o,none⟩) h⟩
theorem gm(t i:bi)(w:af)(ht:t.size<=maxLen)(hi:i.size<=maxLen):
  Calls prog 228 #[.agg #[.string t,.string i]] w fun e w'=>e=.returned (.bool (fB t i))/\ag w w':=by
 by_cases hn:aP t=true
 all_goals
  go_enter func228,ntmps228;go_wp2_with(first|(go_at_call 126;refine(aR _ _ ht).mono ?_;rintro e w' ⟨rfl,rfl⟩)|(go_at_call 281;refine(Jz _ _ hi).mono ?_;rintro e w' ⟨rfl,rfl⟩));go_ret;exact⟨ah (by simp[fB,hn]),(Vv _ _).alloc (Vu _) _⟩
theorem gu(t i:bi)(w:af)(ht:t.size<=maxLen)(hi:i.size<=maxLen):
  Calls prog 147 #[.agg #[.string t,.string i]] w fun e w'=>e=.returned (.bool (fB t i))/\ag w w':=by
 by_cases hn:aP t=true
 all_goals
  go_enter func147,ntmps147;go_wp2_with(first|(go_at_call 122;refine(aL _ _ ht).mono ?_;rintro e w' ⟨rfl,rfl⟩)|(go_at_call 220;refine(Af _ _ hi).mono ?_;rintro e w' ⟨rfl,rfl⟩));go_ret;exact⟨ah (by simp[fB,hn]),(Vv _ _).alloc (Vu _) _⟩
theorem yX(t i:bi)(w:af)(ht:t.size<=maxLen)(hi:i.size<=maxLen):
  Calls prog 307 #[.agg #[.string t,.string i]] w fun e w'=>e=.returned (.string (aF t i))/\ag w w':=by
 by_cases hn:fB t i=true
 ·obtain⟨h1,h2⟩:=zw hn;have HT:Hid (aF t i=t++⟨#[58]⟩++i):=nD hn;go_enter func307,ntmps307;go_wp2_with(go_at_call 228;refine(gm _ _ _ ht hi).mono ?_;rintro e w' ⟨rfl,hb⟩;obtain⟨hc,hf⟩:=j3 hb);go_ret;exact⟨gF HT.out.symm,((Vv _ _).alloc (Vu _) _).trans (hb.mono (by simp))⟩
 have hn':fB t i=false:=by simpa using hn
 have HT:Hid (aF t i=⟨#[]⟩):=uf hn';clear hn;go_enter func307,ntmps307;go_wp2_with(go_at_call 228;refine(gm _ _ _ ht hi).mono ?_;rintro e w' ⟨rfl,hb⟩;obtain⟨hc,hf⟩:=j3 hb);go_ret;exact⟨gF HT.out.symm,((Vv _ _).alloc (Vu _) _).trans (hb.mono (by simp))⟩
theorem yY(t i:bi)(w:af)(ht:t.size<=maxLen)(hi:i.size<=maxLen):
  Calls prog 276 #[.agg #[.string t,.string i]] w fun e w'=>e=.returned (.string (aF t i))/\ag w w':=by
 by_cases hn:fB t i=true
 ·obtain⟨h1,h2⟩:=zw hn;have HT:Hid (aF t i=t++⟨#[58]⟩++i):=nD hn;go_enter func276,ntmps276;go_wp2_with(go_at_call 147;refine(gu _ _ _ ht hi).mono ?_;rintro e w' ⟨rfl,hb⟩;obtain⟨hc,hf⟩:=j3 hb);go_ret;exact⟨gF HT.out.symm,((Vv _ _).alloc (Vu _) _).trans (hb.mono (by simp))⟩
 have hn':fB t i=false:=by simpa using hn
 have HT:Hid (aF t i=⟨#[]⟩):=uf hn';clear hn;go_enter func276,ntmps276;go_wp2_with(go_at_call 147;refine(gu _ _ _ ht hi).mono ?_;rintro e w' ⟨rfl,hb⟩;obtain⟨hc,hf⟩:=j3 hb);go_ret;exact⟨gF HT.out.symm,((Vv _ _).alloc (Vu _) _).trans (hb.mono (by simp))⟩
theorem Dm(s:bi)(w:af)(hs:s.size<=maxLen):
  Calls prog 148 #[.string s] w fun e w'=>e=.returned (.bool (uW s))/\w'=w:=by
 go_enter func148,ntmps148;go_wp2_with(go_at_call 122;refine(aL _ _ hs).mono ?_;rintro e w' ⟨rfl,rfl⟩)
 all_goals go_ret
 all_goals exact⟨ah (by simp[uW, *]),rfl⟩
theorem eF(a b r c d s:bi)(w:af)(ha:a.size<=maxLen)(hb:b.size<=maxLen)(hr:r.size<=maxLen)(hc:c.size<=maxLen)(hd:d.size<=maxLen)(hs:s.size<=maxLen):
  Calls prog 198 #[.agg #[.string a,.string b,.string r,.string c,.string d,.string s]] w fun e w'=>e=.returned (.bool (bH a b r c d s))/\ag w w':=by
 by_cases h1:fB a b=true
 ·by_cases h2:aP r=true
  ·by_cases h3:fB c d=true
   ·have HT:Hid (bH a b r c d s=uW s):=zH h1 h2 h3;go_enter func198,ntmps198;go_wp2_with fail;refine(gm _ _ _ ha hb).mono ?_;rintro e w1 ⟨rfl,hb1⟩;obtain⟨hc1,hf1⟩:=j3 hb1;have hz1:w.heap.size<w1.heap.size:=by have:=hb1.size;simp at this;omega
    go_wp2_with fail;refine(aR _ _ hr).mono ?_;rintro e w1' ⟨rfl,rfl⟩;go_wp2_with fail;refine(gm _ _ _ hc hd).mono ?_;rintro e w2 ⟨rfl,hb2⟩;obtain⟨hc2,hf2⟩:=j3 hb2;have hz2:w.heap.size<w2.heap.size:=by have:=hb2.size;omega
    go_wp2_with(go_at_call 126;refine(aR _ _ hs).mono ?_;rintro e w3 ⟨rfl,rfl⟩)
    all_goals go_ret
    all_goals exact⟨ah (HT.out.trans (by simp[uW, *])).symm,((Vv _ _).alloc (Vu _) _).trans ((hb1.mono (by simp)).trans (hb2.mono (by omega)))⟩
   have h3':fB c d=false:=by simpa using h3
   have HT:Hid (bH a b r c d s=false):=zG h3';clear h3;go_enter func198,ntmps198;go_wp2_with fail;refine(gm _ _ _ ha hb).mono ?_;rintro e w1 ⟨rfl,hb1⟩;obtain⟨hc1,hf1⟩:=j3 hb1;have hz1:w.heap.size<w1.heap.size:=by have:=hb1.size;simp at this;omega
   go_wp2_with fail;refine(aR _ _ hr).mono ?_;rintro e w1' ⟨rfl,rfl⟩;go_wp2_with fail;refine(gm _ _ _ hc hd).mono ?_;rintro e w2 ⟨rfl,hb2⟩;go_wp2;go_ret;exact⟨ah HT.out.symm,((Vv _ _).alloc (Vu _) _).trans ((hb1.mono (by simp)).trans (hb2.mono (by omega)))⟩
  have h2':aP r=false:=by simpa using h2
  have HT:Hid (bH a b r c d s=false):=zF h2';clear h2;go_enter func198,ntmps198;go_wp2_with fail;refine(gm _ _ _ ha hb).mono ?_;rintro e w1 ⟨rfl,hb1⟩;obtain⟨hc1,hf1⟩:=j3 hb1;go_wp2_with fail;refine(aR _ _ hr).mono ?_;rintro e w1' ⟨rfl,rfl⟩;go_wp2;go_ret;exact⟨ah HT.out.symm,((Vv _ _).alloc (Vu _) _).trans (hb1.mono (by simp))⟩
 have h1':fB a b=false:=by simpa using h1
 have HT:Hid (bH a b r c d s=false):=zD h1';clear h1;go_enter func198,ntmps198;go_wp2_with fail;refine(gm _ _ _ ha hb).mono ?_;rintro e w1 ⟨rfl,hb1⟩;go_wp2;go_ret;exact⟨ah HT.out.symm,((Vv _ _).alloc (Vu _) _).trans (hb1.mono (by simp))⟩
theorem eG(a b r c d s:bi)(w:af)(ha:a.size<=maxLen)(hb:b.size<=maxLen)(hr:r.size<=maxLen)(hc:c.size<=maxLen)(hd:d.size<=maxLen)(hs:s.size<=maxLen):
  Calls prog 62 #[.agg #[.string a,.string b,.string r,.string c,.string d,.string s]] w fun e w'=>e=.returned (.bool (bH a b r c d s))/\ag w w':=by
 by_cases h1:fB a b=true
 ·by_cases h2:aP r=true
  ·by_cases h3:fB c d=true
   ·have HT:Hid (bH a b r c d s=uW s):=zH h1 h2 h3;go_enter func62,ntmps62;go_wp2_with fail;refine(gu _ _ _ ha hb).mono ?_;rintro e w1 ⟨rfl,hb1⟩;obtain⟨hc1,hf1⟩:=j3 hb1;have hz1:w.heap.size<w1.heap.size:=by have:=hb1.size;simp at this;omega
    go_wp2_with fail;refine(aL _ _ hr).mono ?_;rintro e w1' ⟨rfl,rfl⟩;go_wp2_with fail;refine(gu _ _ _ hc hd).mono ?_;rintro e w2 ⟨rfl,hb2⟩;obtain⟨hc2,hf2⟩:=j3 hb2;have hz2:w.heap.size<w2.heap.size:=by have:=hb2.size;omega
    go_wp2_with(go_at_call 148;refine(Dm _ _ hs).mono ?_;rintro e w3 ⟨rfl,rfl⟩)
    all_goals go_ret
    all_goals exact⟨ah (HT.out.trans (by simp[uW, *])).symm,((Vv _ _).alloc (Vu _) _).trans ((hb1.mono (by simp)).trans (hb2.mono (by omega)))⟩
   have h3':fB c d=false:=by simpa using h3
   have HT:Hid (bH a b r c d s=false):=zG h3';clear h3;go_enter func62,ntmps62;go_wp2_with fail;refine(gu _ _ _ ha hb).mono ?_;rintro e w1 ⟨rfl,hb1⟩;obtain⟨hc1,hf1⟩:=j3 hb1;have hz1:w.heap.size<w1.heap.size:=by have:=hb1.size;simp at this;omega
   go_wp2_with fail;refine(aL _ _ hr).mono ?_;rintro e w1' ⟨rfl,rfl⟩;go_wp2_with fail;refine(gu _ _ _ hc hd).mono ?_;rintro e w2 ⟨rfl,hb2⟩;go_wp2;go_ret;exact⟨ah HT.out.symm,((Vv _ _).alloc (Vu _) _).trans ((hb1.mono (by simp)).trans (hb2.mono (by omega)))⟩
  have h2':aP r=false:=by simpa using h2
  have HT:Hid (bH a b r c d s=false):=zF h2';clear h2;go_enter func62,ntmps62;go_wp2_with fail;refine(gu _ _ _ ha hb).mono ?_;rintro e w1 ⟨rfl,hb1⟩;obtain⟨hc1,hf1⟩:=j3 hb1;go_wp2_with fail;refine(aL _ _ hr).mono ?_;rintro e w1' ⟨rfl,rfl⟩;go_wp2;go_ret;exact⟨ah HT.out.symm,((Vv _ _).alloc (Vu _) _).trans (hb1.mono (by simp))⟩
 have h1':fB a b=false:=by simpa using h1
 have HT:Hid (bH a b r c d s=false):=zD h1';clear h1;go_enter func62,ntmps62;go_wp2_with fail;refine(gu _ _ _ ha hb).mono ?_;rintro e w1 ⟨rfl,hb1⟩;go_wp2;go_ret;exact⟨ah HT.out.symm,((Vv _ _).alloc (Vu _) _).trans (hb1.mono (by simp))⟩
structure Tp where
 a:ByteArray
 b:ByteArray
 r:ByteArray
 c:ByteArray
 d:ByteArray
 s:ByteArray
abbrev Q05:=List Tp
def Tp.fits(t:Tp):Prop:=t.a.size<=maxLen/\t.b.size<=maxLen/\t.r.size<=maxLen/\t.c.size<=maxLen/\t.d.size<=maxLen/\t.s.size<=maxLen
def Tt(w:World)(b off:Nat)(t:Tp):Prop :=
 w.cell? ⟨b,off,none⟩=some (.string t.a)/\w.cell? ⟨b,off+1,none⟩=some (.string t.b)/\w.cell? ⟨b,off+2,none⟩=some (.string t.r) /\
 w.cell? ⟨b,off+3,none⟩=some (.string t.c)/\w.cell? ⟨b,off+4,none⟩=some (.string t.d)/\w.cell? ⟨b,off+5,none⟩=some (.string t.s)
def lh(w:World)(b off:Nat)(ts:Q05):Prop:=∀(i:Nat) (h:i<ts.length),Tt w b (off+i*6) ts[i]
def Sl(w:World)(ad:Q02)(ts:Q05):Prop:=ts=[] \/ ∃b off,ad=some ⟨b,off,none⟩/\b<w.heap.size/\lh w b off ts
theorem Tt.same{w w':af}{b off:Nat}{t:Tp}(h:Tt w b off t)(hc:∀o,w'.cell? ⟨b,o,none⟩=w.cell? ⟨b,o,none⟩):Tt w' b off t:=by
 obtain⟨h0,h1,h2,h3,h4,h5⟩:=h;exact⟨(hc _).trans h0,(hc _).trans h1,(hc _).trans h2,(hc _).trans h3,(hc _).trans h4,(hc _).trans h5⟩
theorem lh.below{w w':af}{b off B:Nat}{ts:Q05}(h:lh w b off ts)(hB:Below B w w')(hb:b<B):lh w' b off ts :=
 fun i hi=>(h i hi).same fun o=>hB.cell (p:=⟨b,o,none⟩) hb
theorem Sl.below{w w':af}{ad:Q02}{ts:Q05}(h:Sl w ad ts)(hB:ag w w'):Sl w' ad ts:=by
 rcases h with h|⟨b,off,e,hb,hr⟩
 ·exact .inl h
 exact .inr ⟨b,off,e,Vt hb hB.size,hr.below hB hb⟩
def Ag(w:World)(g o:Nat)(t:Tp):World :=
 (((((w.setCell ⟨g,o,none⟩ (.string t.a)).setCell ⟨g,o+1,none⟩ (.string t.b)).setCell ⟨g,o+2,none⟩ (.string t.r)).setCell ⟨g,o+3,none⟩ (.string t.c)).setCell ⟨g,o+4,none⟩ (.string t.d)).setCell ⟨g,o+5,none⟩ (.string t.s)
theorem ll{w:af}{g i j:Nat}{v:Value}(h:i≠j):(w.setCell ⟨g,i,none⟩ v).cell? ⟨g,j,none⟩=w.cell? ⟨g,j,none⟩:=by
 apply World.cell?_setCell_other;intro e;exact h (congrArg Addr.off e)
theorem Py{w:af}{a:Addr}{v u:Value}(h:w.cell? a=some u):(w.setCell a v).cell? a=some v:=by
 apply World.cell?_setCell_same;exact h
theorem Gu(w:af)(g o:Nat)(t:Tp)(j:Nat)(h:j<o\/o+6<=j):(Ag w g o t).cell? ⟨g,j,none⟩=w.cell? ⟨g,j,none⟩:=by
 unfold Ag;rw[ll (by omega),ll (by omega),ll (by omega),ll (by omega),ll (by omega),ll (by omega)]
theorem Lx{w:af}{g o:Nat}(t:Tp)(h:∀j,j<6->(w.cell? ⟨g,o+j,none⟩).isSome=true):Tt (Ag w g o t) g o t:=by
 have e:∀(W:World) (i j:Nat) (v:Value),(W.cell? ⟨g,o+j,none⟩).isSome=true->((W.setCell ⟨g,o+i,none⟩ v).cell? ⟨g,o+j,none⟩).isSome=true:=by
  intro W i j v hW;by_cases hij:i=j
  ·subst hij;obtain⟨u,hu⟩:=Option.isSome_iff_exists.mp hW;rw[Py hu];rfl
  rw[ll (by omega)];exact hW
 have same:∀(W:World) (j:Nat) (v:Value),(W.cell? ⟨g,o+j,none⟩).isSome=true->(W.setCell ⟨g,o+j,none⟩ v).cell? ⟨g,o+j,none⟩=some v:=by
  intro W j v hW;obtain⟨u,hu⟩:=Option.isSome_iff_exists.mp hW;exact Py hu
 have h0:=h 0 (by omega);have h1:=h 1 (by omega);have h2:=h 2 (by omega);have h3:=h 3 (by omega);have h4:=h 4 (by omega);have h5:=h 5 (by omega);unfold Ag Tt;refine⟨?_,?_,?_,?_,?_,?_⟩
 ·rw[ll (by omega),ll (by omega),ll (by omega),ll (by omega),ll (by omega)];exact same _ 0 _ h0
 ·rw[ll (by omega),ll (by omega),ll (by omega),ll (by omega)];exact same _ 1 _ (e _ 0 1 _ h1)
 ·rw[ll (by omega),ll (by omega),ll (by omega)];exact same _ 2 _ (e _ 1 2 _ (e _ 0 2 _ h2))
 ·rw[ll (by omega),ll (by omega)];exact same _ 3 _ (e _ 2 3 _ (e _ 1 3 _ (e _ 0 3 _ h3)))
 ·rw[ll (by omega)];exact same _ 4 _ (e _ 3 4 _ (e _ 2 4 _ (e _ 1 4 _ (e _ 0 4 _ h4))))
 exact same _ 5 _ (e _ 4 5 _ (e _ 3 5 _ (e _ 2 5 _ (e _ 1 5 _ (e _ 0 5 _ h5)))))
theorem Gv(w:af)(g o:Nat)(t:Tp)(x:Addr):(Ag w g o t).frozen? x=w.frozen? x:=by simp[Ag]
theorem JA{B:Nat}{w0 w:af}{g o:Nat}{t:Tp}(h:Below B w0 w)(hg:B<=g):Below B w0 (Ag w g o t):=by
 unfold Ag;exact(((((h.setCell (by exact hg) _).setCell (by exact hg) _).setCell (by exact hg) _).setCell (by exact hg) _).setCell (by exact hg) _).setCell (by exact hg) _
theorem MJ(w:af)(g o:Nat)(t:Tp):(Ag w g o t).heap.size=w.heap.size:=by simp[Ag]
end Go.Proofs.YtojjoblnpldniaaGreat
namespace Go.Proofs.YtojjoblnpldniaaGreat
open ChangeShapes WideShapes ChangeAt RowKit
open Pl
attribute [local go_sem ↓] Go.wp_at_zero Go.wp_at_succ
theorem Tu{w W w':af}{n:Nat}{x0 x1 x2 x3 x4 x5:Value}(h:W.cell? ⟨n,0,none⟩=some x0/\W.cell? ⟨n,1,none⟩=some x1/\W.cell? ⟨n,2,none⟩=some x2/\W.cell? ⟨n,3,none⟩=some x3/\W.cell? ⟨n,4,none⟩=some x4/\W.cell? ⟨n,5,none⟩=some x5/\n<W.heap.size/\Below n w W)(hb:ag W w'):w'.cell? ⟨n,0,none⟩=some x0/\w'.cell? ⟨n,1,none⟩=some x1/\w'.cell? ⟨n,2,none⟩=some x2/\w'.cell? ⟨n,3,none⟩=some x3/\w'.cell? ⟨n,4,none⟩=some x4/\w'.cell? ⟨n,5,none⟩=some x5/\n<w'.heap.size/\Below n w w':=by
 obtain⟨h0,h1,h2,h3,h4,h5,hn,hB⟩:=h;have hc:∀o,w'.cell? ⟨n,o,none⟩=W.cell? ⟨n,o,none⟩:=fun o=>hb.cell (p:=⟨n,o,none⟩) hn;refine⟨by rw[hc];exact h0,by rw[hc];exact h1,by rw[hc];exact h2,by rw[hc];exact h3,by rw[hc];exact h4,by rw[hc];exact h5,Vt hn hb.size,hB.trans (hb.mono (Nat.le_of_lt hn))⟩
theorem yZ(a b r c d s:bi)(w:af)(ha:a.size<=maxLen)(hb:b.size<=maxLen)(hr:r.size<=maxLen)(hc:c.size<=maxLen)(hd:d.size<=maxLen)(hs:s.size<=maxLen):
  Calls prog 267 #[.agg #[.string a,.string b,.string r,.string c,.string d,.string s]] w fun e w'=>e=.returned (.string (aX a b r c d s))/\ag w w':=by
 by_cases hn:bH a b r c d s=true
 ·obtain⟨h1,h2,h3,h4⟩:=j5 hn;have hx:=iN a b;have hy:=iN c d;have Zp:=(oz h2).2;have hs12:=Ew h4;clear h1 h2 h3 h4;go_enter func267,ntmps267;go_wp2_with fail;refine(eF _ _ _ _ _ _ _ ha hb hr hc hd hs).mono ?_;rintro e w1 ⟨rfl,hb1⟩;obtain⟨hc1,hf1⟩:=j3 hb1;have hz1:w.heap.size<w1.heap.size:=by have:=hb1.size;simp at this;omega
  have k:∀o v,(w.alloc (.cells #[.string a,.string b,.string r,.string c,.string d,.string s] 29)).cell? ⟨w.heap.size,o,none⟩=some v->w1.cell? ⟨w.heap.size,o,none⟩=some v:=fun o v h=>by rw[hc1 _ _ (by simp)];exact h
  have k0:=k 0 (.string a) (by simp);have k1:=k 1 (.string b) (by simp);have k2:=k 2 (.string r) (by simp);have k3:=k 3 (.string c) (by simp);have k4:=k 4 (.string d) (by simp);have k5:=k 5 (.string s) (by simp);have HB1:ag w w1:=((Vv _ _).alloc (Vu _) _).trans (hb1.mono (by simp));clear k hb1 hc1 hf1;have q1:(9223372036854775807<(aF a b).size+1)=False:=by simp;omega
  have q2:(9223372036854775807<(aF a b).size+1+r.size)=False:=by simp;omega
  have q3:(9223372036854775807<(aF a b).size+1+r.size+1)=False:=by simp;omega
  have q4:(9223372036854775807<(aF a b).size+1+r.size+1+(aF c d).size)=False:=by simp;omega
  go_wp2_with fail
  go_region_held3 (fun w'=>w'.cell? ⟨w.heap.size,0,none⟩=some (.string a)/\w'.cell? ⟨w.heap.size,1,none⟩=some (.string b)/\w'.cell? ⟨w.heap.size,2,none⟩=some (.string r)/\w'.cell? ⟨w.heap.size,3,none⟩=some (.string c)/\w'.cell? ⟨w.heap.size,4,none⟩=some (.string d)/\w'.cell? ⟨w.heap.size,5,none⟩=some (.string s)/\w.heap.size<w'.heap.size/\ag w w')
   (first|exact Tu (by assumption) hbx|exact⟨k0,k1,k2,k3,k4,k5,hz1,HB1.drew⟩)
   (first|(go_at_call 307;refine(yX _ _ _ (by assumption) (by assumption)).mono ?_;rintro e w' ⟨rfl,hbx⟩))
  rename_i hH;obtain⟨g0,g1,g2,g3,g4,g5,gz,gB⟩:=hH;clear k0 k1 k2 k3 k4 k5 hbx q1 q2 q3 q4 HB1;by_cases he:s.toList.isEmpty=true
  ·have HT:Hid (aX a b r c d s=_):=nE hn he;go_wp2;go_ret;exact⟨gF HT.out.symm,gB⟩
  have he':s.toList.isEmpty=false:=by simpa using he
  have HT:Hid (aX a b r c d s=_):=nG hn he';clear he;go_wp2;go_ret;exact⟨gF HT.out.symm,gB⟩
 have hn':bH a b r c d s=false:=by simpa using hn
 have HT:Hid (aX a b r c d s=⟨#[]⟩):=ug hn';clear hn;go_enter func267,ntmps267;go_wp2_with fail;refine(eF _ _ _ _ _ _ _ ha hb hr hc hd hs).mono ?_;rintro e w1 ⟨rfl,hb1⟩;go_wp2;go_ret;exact⟨gF HT.out.symm,((Vv _ _).alloc (Vu _) _).trans (hb1.mono (by simp))⟩
theorem za(a b r c d s:bi)(w:af)(ha:a.size<=maxLen)(hb:b.size<=maxLen)(hr:r.size<=maxLen)(hc:c.size<=maxLen)(hd:d.size<=maxLen)(hs:s.size<=maxLen):
  Calls prog 216 #[.agg #[.string a,.string b,.string r,.string c,.string d,.string s]] w fun e w'=>e=.returned (.string (aX a b r c d s))/\ag w w':=by
 by_cases hn:bH a b r c d s=true
 ·obtain⟨h1,h2,h3,h4⟩:=j5 hn;have hx:=iN a b;have hy:=iN c d;have Zp:=(oz h2).2;have hs12:=Ew h4;clear h1 h2 h3 h4;go_enter func216,ntmps216;go_wp2_with fail;refine(eG _ _ _ _ _ _ _ ha hb hr hc hd hs).mono ?_;rintro e w1 ⟨rfl,hb1⟩;obtain⟨hc1,hf1⟩:=j3 hb1;have hz1:w.heap.size<w1.heap.size:=by have:=hb1.size;simp at this;omega
  have k:∀o v,(w.alloc (.cells #[.string a,.string b,.string r,.string c,.string d,.string s] 29)).cell? ⟨w.heap.size,o,none⟩=some v->w1.cell? ⟨w.heap.size,o,none⟩=some v:=fun o v h=>by rw[hc1 _ _ (by simp)];exact h
  have k0:=k 0 (.string a) (by simp);have k1:=k 1 (.string b) (by simp);have k2:=k 2 (.string r) (by simp);have k3:=k 3 (.string c) (by simp);have k4:=k 4 (.string d) (by simp);have k5:=k 5 (.string s) (by simp);have HB1:ag w w1:=((Vv _ _).alloc (Vu _) _).trans (hb1.mono (by simp));clear k hb1 hc1 hf1;have q1:(9223372036854775807<(aF a b).size+1)=False:=by simp;omega
  have q2:(9223372036854775807<(aF a b).size+1+r.size)=False:=by simp;omega
  have q3:(9223372036854775807<(aF a b).size+1+r.size+1)=False:=by simp;omega
  have q4:(9223372036854775807<(aF a b).size+1+r.size+1+(aF c d).size)=False:=by simp;omega
  go_wp2_with fail
  go_region_held3 (fun w'=>w'.cell? ⟨w.heap.size,0,none⟩=some (.string a)/\w'.cell? ⟨w.heap.size,1,none⟩=some (.string b)/\w'.cell? ⟨w.heap.size,2,none⟩=some (.string r)/\w'.cell? ⟨w.heap.size,3,none⟩=some (.string c)/\w'.cell? ⟨w.heap.size,4,none⟩=some (.string d)/\w'.cell? ⟨w.heap.size,5,none⟩=some (.string s)/\w.heap.size<w'.heap.size/\ag w w')
   (first|exact Tu (by assumption) hbx|exact⟨k0,k1,k2,k3,k4,k5,hz1,HB1.drew⟩)
   (first|(go_at_call 276;refine(yY _ _ _ (by assumption) (by assumption)).mono ?_;rintro e w' ⟨rfl,hbx⟩))
  rename_i hH;obtain⟨g0,g1,g2,g3,g4,g5,gz,gB⟩:=hH;clear k0 k1 k2 k3 k4 k5 hbx q1 q2 q3 q4 HB1;by_cases he:s.toList.isEmpty=true
  ·have HT:Hid (aX a b r c d s=_):=nE hn he;go_wp2;go_ret;exact⟨gF HT.out.symm,gB⟩
  have he':s.toList.isEmpty=false:=by simpa using he
  have HT:Hid (aX a b r c d s=_):=nG hn he';clear he;go_wp2;go_ret;exact⟨gF (HT.out.trans (by simp only[V5])).symm,gB⟩
 have hn':bH a b r c d s=false:=by simpa using hn
 have HT:Hid (aX a b r c d s=⟨#[]⟩):=ug hn';clear hn;go_enter func216,ntmps216;go_wp2_with fail;refine(eG _ _ _ _ _ _ _ ha hb hr hc hd hs).mono ?_;rintro e w1 ⟨rfl,hb1⟩;go_wp2;go_ret;exact⟨gF HT.out.symm,((Vv _ _).alloc (Vu _) _).trans (hb1.mono (by simp))⟩
end Go.Proofs.YtojjoblnpldniaaGreat
namespace Go.Proofs.YtojjoblnpldniaaGreat
open ChangeShapes WideShapes ChangeAt RowKit
open Pl
attribute [local go_sem ↓] Go.wp_at_zero Go.wp_at_succ
theorem JB{w W w':af}{n m k:Nat}{x0 x1 x2 x3 x4 x5 y0 y1 y2 y3 y4 y5:Value}(hk:k<=n)(h:W.cell? ⟨n,0,none⟩=some x0/\W.cell? ⟨n,1,none⟩=some x1/\W.cell? ⟨n,2,none⟩=some x2/\W.cell? ⟨n,3,none⟩=some x3/\W.cell? ⟨n,4,none⟩=some x4/\W.cell? ⟨n,5,none⟩=some x5/\W.cell? ⟨m,0,none⟩=some y0/\W.cell? ⟨m,1,none⟩=some y1/\W.cell? ⟨m,2,none⟩=some y2/\W.cell? ⟨m,3,none⟩=some y3/\W.cell? ⟨m,4,none⟩=some y4/\W.cell? ⟨m,5,none⟩=some y5/\n<W.heap.size/\m<W.heap.size/\Below k w W)(hb:ag W w'):w'.cell? ⟨n,0,none⟩=some x0/\w'.cell? ⟨n,1,none⟩=some x1/\w'.cell? ⟨n,2,none⟩=some x2/\w'.cell? ⟨n,3,none⟩=some x3/\w'.cell? ⟨n,4,none⟩=some x4/\w'.cell? ⟨n,5,none⟩=some x5/\w'.cell? ⟨m,0,none⟩=some y0/\w'.cell? ⟨m,1,none⟩=some y1/\w'.cell? ⟨m,2,none⟩=some y2/\w'.cell? ⟨m,3,none⟩=some y3/\w'.cell? ⟨m,4,none⟩=some y4/\w'.cell? ⟨m,5,none⟩=some y5/\n<w'.heap.size/\m<w'.heap.size/\Below k w w':=by
 obtain⟨h0,h1,h2,h3,h4,h5,h6,h7,h8,h9,h10,h11,hn,hm,hB⟩:=h;have hc:∀o,w'.cell? ⟨n,o,none⟩=W.cell? ⟨n,o,none⟩:=fun o=>hb.cell (p:=⟨n,o,none⟩) hn;have hd:∀o,w'.cell? ⟨m,o,none⟩=W.cell? ⟨m,o,none⟩:=fun o=>hb.cell (p:=⟨m,o,none⟩) hm;exact⟨by rw[hc];exact h0,by rw[hc];exact h1,by rw[hc];exact h2,by rw[hc];exact h3,by rw[hc];exact h4,by rw[hc];exact h5,by rw[hd];exact h6,by rw[hd];exact h7,by rw[hd];exact h8,by rw[hd];exact h9,by rw[hd];exact h10,by rw[hd];exact h11,Vt hn hb.size,Vt hm hb.size,hB.trans (hb.mono (by omega))⟩
theorem EN(w:af)(o1 o2:Obj):ag w ((w.alloc o1).alloc o2) :=
 ((Vv _ _).alloc (Vu _) _).alloc (by simp) _
def JC(a b r c d s a' b' r' c' d' s':ByteArray):Int:=Lib.compareBytes (aX a b r c d s).data.toList (aX a' b' r' c' d' s').data.toList
theorem vD(x y:List UInt8):decide (Lib.compareBytes x y<0)=Op.bytesLess x y:=by
 induction x generalizing y with
 | nil=>cases y<;>simp[Lib.compareBytes,Op.bytesLess]
 | cons a x ih =>
  cases y with
  | nil=>simp[Lib.compareBytes,Op.bytesLess]
  | cons b y =>
   unfold Lib.compareBytes Op.bytesLess;by_cases h:a<b
   ·simp[h]
   by_cases h2:b<a
   ·have hne:(a==b)=false:=by simp;intro e;subst e;exact h h2
    simp[h,h2,hne]
   have he:a=b:=by
    have h1:=UInt8.not_lt.mp h;have h3:=UInt8.not_lt.mp h2;exact UInt8.le_antisymm h3 h1
   subst he;simp[ih]
theorem Tv(a b r c d s a' b' r' c' d' s':bi)(w W:af)(hW:W=((w.alloc (.cells #[.string a,.string b,.string r,.string c,.string d,.string s] 29)).alloc (.cells #[.string a',.string b',.string r',.string c',.string d',.string s'] 29))):W.drew.cell? ⟨w.heap.size,0,none⟩=some (.string a)/\W.drew.cell? ⟨w.heap.size,1,none⟩=some (.string b)/\W.drew.cell? ⟨w.heap.size,2,none⟩=some (.string r)/\W.drew.cell? ⟨w.heap.size,3,none⟩=some (.string c)/\W.drew.cell? ⟨w.heap.size,4,none⟩=some (.string d)/\W.drew.cell? ⟨w.heap.size,5,none⟩=some (.string s)/\W.drew.cell? ⟨w.heap.size+1,0,none⟩=some (.string a')/\W.drew.cell? ⟨w.heap.size+1,1,none⟩=some (.string b')/\W.drew.cell? ⟨w.heap.size+1,2,none⟩=some (.string r')/\W.drew.cell? ⟨w.heap.size+1,3,none⟩=some (.string c')/\W.drew.cell? ⟨w.heap.size+1,4,none⟩=some (.string d')/\W.drew.cell? ⟨w.heap.size+1,5,none⟩=some (.string s')/\w.heap.size<W.drew.heap.size/\w.heap.size+1<W.drew.heap.size/\ag w (W.drew):=by
 subst hW;refine⟨?_,?_,?_,?_,?_,?_,?_,?_,?_,?_,?_,?_,?_,?_,?_⟩
 all_goals first|exact(EN _ _ _).drew|(simp;done)|(simp;omega)
theorem vF(a b r c d s a' b' r' c' d' s':bi)(w:af)(ha:a.size<=maxLen)(hb:b.size<=maxLen)(hr:r.size<=maxLen)(hc:c.size<=maxLen)(hd:d.size<=maxLen)(hs:s.size<=maxLen)(ga:a'.size<=maxLen)(gb:b'.size<=maxLen)(gr:r'.size<=maxLen)(gc:c'.size<=maxLen)(gd:d'.size<=maxLen)(gs:s'.size<=maxLen):
  Calls prog 139 #[.agg #[.string a,.string b,.string r,.string c,.string d,.string s],.agg #[.string a',.string b',.string r',.string c',.string d',.string s']] w fun e w'=>e=.returned (.int .i64 (JC a b r c d s a' b' r' c' d' s'))/\ag w w':=by
 have H0:=Tv a b r c d s a' b' r' c' d' s' w _ rfl;go_enter func139,ntmps139;go_wp2_with fail
 go_region_held3 (fun w'=>w'.cell? ⟨w.heap.size,0,none⟩=some (.string a)/\w'.cell? ⟨w.heap.size,1,none⟩=some (.string b)/\w'.cell? ⟨w.heap.size,2,none⟩=some (.string r)/\w'.cell? ⟨w.heap.size,3,none⟩=some (.string c)/\w'.cell? ⟨w.heap.size,4,none⟩=some (.string d)/\w'.cell? ⟨w.heap.size,5,none⟩=some (.string s)/\w'.cell? ⟨w.heap.size+1,0,none⟩=some (.string a')/\w'.cell? ⟨w.heap.size+1,1,none⟩=some (.string b')/\w'.cell? ⟨w.heap.size+1,2,none⟩=some (.string r')/\w'.cell? ⟨w.heap.size+1,3,none⟩=some (.string c')/\w'.cell? ⟨w.heap.size+1,4,none⟩=some (.string d')/\w'.cell? ⟨w.heap.size+1,5,none⟩=some (.string s')/\w.heap.size<w'.heap.size/\w.heap.size+1<w'.heap.size/\ag w w')
  (first|assumption|exact JB (Vu _) (by assumption) hbx|exact H0)
  (first|(go_at_call 216;refine(za _ _ _ _ _ _ _ (by assumption) (by assumption) (by assumption) (by assumption) (by assumption) (by assumption)).mono ?_;rintro e w' ⟨rfl,hbx⟩)|(go_at_call 197;refine(Tryz.strings_Compare _ _ _).mono ?_;rintro e w' ⟨rfl,rfl⟩))
 rename_i hH;obtain⟨-,-,-,-,-,-,-,-,-,-,-,-,-,-,gB⟩:=hH;go_wp2;go_ret;exact⟨rfl,gB⟩
def gJ(a b r c d s a' b' r' c' d' s':ByteArray):Bool:=bH a b r c d s&&bH a' b' r' c' d' s'&&Op.bytesLess (aX a b r c d s).toList (aX a' b' r' c' d' s').toList
theorem Ah{a b r c d s a' b' r' c' d' s':ByteArray}(h:bH a b r c d s=false):gJ a b r c d s a' b' r' c' d' s'=false:=by simp[gJ,h]
theorem Ai{a b r c d s a' b' r' c' d' s':ByteArray}(h:bH a' b' r' c' d' s'=false):gJ a b r c d s a' b' r' c' d' s'=false:=by simp[gJ,h]
theorem uy{a b r c d s a' b' r' c' d' s':ByteArray}(h:bH a b r c d s=true)(h2:bH a' b' r' c' d' s'=true):gJ a b r c d s a' b' r' c' d' s'=Op.bytesLess (aX a b r c d s).toList (aX a' b' r' c' d' s').toList:=by simp[gJ,h,h2]
theorem JD{a b r c d s a' b' r' c' d' s':ByteArray}(h:bH a b r c d s=true)(h2:bH a' b' r' c' d' s'=true):gJ a b r c d s a' b' r' c' d' s'=decide (JC a b r c d s a' b' r' c' d' s'<0):=by
 rw[uy h h2,JC,vD,Go.ByteArray.toList_eq,Go.ByteArray.toList_eq]
theorem tu(a b r c d s a' b' r' c' d' s':bi)(w:af)(ha:a.size<=maxLen)(hb:b.size<=maxLen)(hr:r.size<=maxLen)(hc:c.size<=maxLen)(hd:d.size<=maxLen)(hs:s.size<=maxLen)(ga:a'.size<=maxLen)(gb:b'.size<=maxLen)(gr:r'.size<=maxLen)(gc:c'.size<=maxLen)(gd:d'.size<=maxLen)(gs:s'.size<=maxLen):
  Calls prog 199 #[.agg #[.string a,.string b,.string r,.string c,.string d,.string s],.agg #[.string a',.string b',.string r',.string c',.string d',.string s']] w fun e w'=>e=.returned (.bool (gJ a b r c d s a' b' r' c' d' s'))/\ag w w':=by
 have H0:=Tv a b r c d s a' b' r' c' d' s' w _ rfl;by_cases h1:bH a b r c d s=true
 ·by_cases h2:bH a' b' r' c' d' s'=true
  ·have HT:Hid (gJ a b r c d s a' b' r' c' d' s'=_):=uy h1 h2;go_enter func199,ntmps199;go_wp2_with fail
   go_region_held3 (fun w'=>w'.cell? ⟨w.heap.size,0,none⟩=some (.string a)/\w'.cell? ⟨w.heap.size,1,none⟩=some (.string b)/\w'.cell? ⟨w.heap.size,2,none⟩=some (.string r)/\w'.cell? ⟨w.heap.size,3,none⟩=some (.string c)/\w'.cell? ⟨w.heap.size,4,none⟩=some (.string d)/\w'.cell? ⟨w.heap.size,5,none⟩=some (.string s)/\w'.cell? ⟨w.heap.size+1,0,none⟩=some (.string a')/\w'.cell? ⟨w.heap.size+1,1,none⟩=some (.string b')/\w'.cell? ⟨w.heap.size+1,2,none⟩=some (.string r')/\w'.cell? ⟨w.heap.size+1,3,none⟩=some (.string c')/\w'.cell? ⟨w.heap.size+1,4,none⟩=some (.string d')/\w'.cell? ⟨w.heap.size+1,5,none⟩=some (.string s')/\w.heap.size<w'.heap.size/\w.heap.size+1<w'.heap.size/\ag w w')
    (first|assumption|exact JB (Vu _) (by assumption) hbx|exact H0)
    (first|(go_at_call_of 198 (Value.agg #[.string a,.string b,.string r,.string c,.string d,.string s]);refine(eF a b r c d s _ ha hb hr hc hd hs).mono ?_;rintro e w' ⟨he,hbx⟩;rw[h1]at he;subst he)|(go_at_call_of 198 (Value.agg #[.string a',.string b',.string r',.string c',.string d',.string s']);refine(eF a' b' r' c' d' s' _ ga gb gr gc gd gs).mono ?_;rintro e w' ⟨he,hbx⟩;rw[h2]at he;subst he)|(go_at_call 267;refine(yZ _ _ _ _ _ _ _ (by assumption) (by assumption) (by assumption) (by assumption) (by assumption) (by assumption)).mono ?_;rintro e w' ⟨rfl,hbx⟩))
   rename_i hH;obtain⟨-,-,-,-,-,-,-,-,-,-,-,-,-,-,gB⟩:=hH;clear H0;go_wp2;go_ret;exact⟨ah HT.out.symm,gB⟩
  have h2':bH a' b' r' c' d' s'=false:=by simpa using h2
  have HT:Hid (gJ a b r c d s a' b' r' c' d' s'=false):=Ai h2';clear h2;obtain⟨u0,u1,u2,u3,u4,u5,u6,u7,u8,u9,u10,u11,un,um,uB⟩:=H0;go_enter func199,ntmps199;go_wp2_with fail
  go_region_with (first|(go_at_call_of 198 (Value.agg #[.string a,.string b,.string r,.string c,.string d,.string s]);refine(eF a b r c d s _ ha hb hr hc hd hs).mono ?_;rintro e w1 ⟨he,hbx⟩;rw[h1]at he;subst he;obtain⟨k0,k1,k2,k3,k4,k5,k6,k7,k8,k9,k10,k11,kn,km,kB⟩:=JB (Vu _) ⟨u0,u1,u2,u3,u4,u5,u6,u7,u8,u9,u10,u11,un,um,uB⟩ hbx)|(go_at_call_of 198 (Value.agg #[.string a',.string b',.string r',.string c',.string d',.string s']);refine(eF a' b' r' c' d' s' _ ga gb gr gc gd gs).mono ?_;rintro e w2 ⟨he,hby⟩;rw[h2']at he;subst he))
  all_goals clear u0 u1 u2 u3 u4 u5 u6 u7 u8 u9 u10 u11
  all_goals go_wp2
  all_goals go_ret
  all_goals exact⟨ah HT.out.symm,kB.trans (hby.mono (by omega))⟩
 have h1':bH a b r c d s=false:=by simpa using h1
 have HT:Hid (gJ a b r c d s a' b' r' c' d' s'=false):=Ah h1';clear h1;obtain⟨u0,u1,u2,u3,u4,u5,u6,u7,u8,u9,u10,u11,un,um,uB⟩:=H0;go_enter func199,ntmps199;go_wp2_with fail
 go_region_with (go_at_call_of 198 (Value.agg #[.string a,.string b,.string r,.string c,.string d,.string s]);refine(eF a b r c d s _ ha hb hr hc hd hs).mono ?_;rintro e w1 ⟨he,hbx⟩;rw[h1']at he;subst he)
 all_goals clear u0 u1 u2 u3 u4 u5 u6 u7 u8 u9 u10 u11
 all_goals go_wp2
 all_goals go_ret
 all_goals exact⟨ah HT.out.symm,uB.trans (hbx.mono (by omega))⟩
theorem Ct(a b r c d s a' b' r' c' d' s':bi)(w:af)(ha:a.size<=maxLen)(hb:b.size<=maxLen)(hr:r.size<=maxLen)(hc:c.size<=maxLen)(hd:d.size<=maxLen)(hs:s.size<=maxLen)(ga:a'.size<=maxLen)(gb:b'.size<=maxLen)(gr:r'.size<=maxLen)(gc:c'.size<=maxLen)(gd:d'.size<=maxLen)(gs:s'.size<=maxLen):
  Calls prog 110 #[.agg #[.string a,.string b,.string r,.string c,.string d,.string s],.agg #[.string a',.string b',.string r',.string c',.string d',.string s']] w fun e w'=>e=.returned (.bool (gJ a b r c d s a' b' r' c' d' s'))/\ag w w':=by
 by_cases h1:bH a b r c d s=true
 ·by_cases h2:bH a' b' r' c' d' s'=true
  ·have HT:Hid (gJ a b r c d s a' b' r' c' d' s'=decide (JC a b r c d s a' b' r' c' d' s'<0)):=JD h1 h2;go_enter func110,ntmps110;go_wp2_with fail;refine(eG _ _ _ _ _ _ _ ha hb hr hc hd hs).mono ?_;rintro e w1 ⟨rfl,hb1⟩;obtain⟨hc1,hf1⟩:=j3 hb1;have hz1:w.heap.size+1<w1.heap.size:=by have:=hb1.size;simp at this;omega
   have hy1:w.heap.size<w1.heap.size:=by omega
   have HB1:ag w w1:=(EN _ _ _).trans (hb1.mono (by simp;omega));go_wp2_with fail;refine(eG _ _ _ _ _ _ _ ga gb gr gc gd gs).mono ?_;rintro e w2 ⟨rfl,hb2⟩;obtain⟨hc2,hf2⟩:=j3 hb2;have hz2:w.heap.size+1<w2.heap.size:=by have:=hb2.size;omega
   have hy2:w.heap.size<w2.heap.size:=by omega
   go_wp2_with fail;refine(vF _ _ _ _ _ _ _ _ _ _ _ _ _ ha hb hr hc hd hs ga gb gr gc gd gs).mono ?_;rintro e w3 ⟨rfl,hb3⟩;go_wp2;go_ret;exact⟨ah HT.out.symm,HB1.trans ((hb2.mono (by omega)).trans (hb3.mono (by omega)))⟩
  have h2':bH a' b' r' c' d' s'=false:=by simpa using h2
  have HT:Hid (gJ a b r c d s a' b' r' c' d' s'=false):=Ai h2';clear h2;go_enter func110,ntmps110;go_wp2_with fail;refine(eG _ _ _ _ _ _ _ ha hb hr hc hd hs).mono ?_;rintro e w1 ⟨rfl,hb1⟩;obtain⟨hc1,hf1⟩:=j3 hb1;have hz1:w.heap.size+1<w1.heap.size:=by have:=hb1.size;simp at this;omega
  have hy1:w.heap.size<w1.heap.size:=by omega
  have HB1:ag w w1:=(EN _ _ _).trans (hb1.mono (by simp;omega));go_wp2_with fail;refine(eG _ _ _ _ _ _ _ ga gb gr gc gd gs).mono ?_;rintro e w2 ⟨rfl,hb2⟩;go_wp2;go_ret;exact⟨ah HT.out.symm,HB1.trans (hb2.mono (by omega))⟩
 have h1':bH a b r c d s=false:=by simpa using h1
 have HT:Hid (gJ a b r c d s a' b' r' c' d' s'=false):=Ah h1';clear h1;go_enter func110,ntmps110;go_wp2_with fail;refine(eG _ _ _ _ _ _ _ ha hb hr hc hd hs).mono ?_;rintro e w1 ⟨rfl,hb1⟩;obtain⟨hc1,hf1⟩:=j3 hb1;have hz1:w.heap.size+1<w1.heap.size:=by have:=hb1.size;simp at this;omega
 have hy1:w.heap.size<w1.heap.size:=by omega
 have HB1:ag w w1:=(EN _ _ _).trans (hb1.mono (by simp;omega));go_wp2;go_ret;exact⟨ah HT.out.symm,HB1⟩
end Go.Proofs.YtojjoblnpldniaaGreat
namespace Go.Proofs.YtojjoblnpldniaaGreat
open ChangeShapes WideShapes ChangeAt RowKit Maps
open Pl
def MK(x y:Tp):Bool:=x.a.toList==y.a.toList&&x.b.toList==y.b.toList&&x.r.toList==y.r.toList&&x.c.toList==y.c.toList&&x.d.toList==y.d.toList&&x.s.toList==y.s.toList
theorem Gw{x y:ByteArray}(k:x.toList=y.toList):x=y:=by
 rw[Go.ByteArray.toList_eq,Go.ByteArray.toList_eq]at k;obtain⟨x⟩:=x;obtain⟨y⟩:=y;exact congrArg ByteArray.mk (Array.toList_inj.1 k)
theorem Pz(x y:Tp){v:Bool}(h:MK x y=v)(w:af):
  (binOp .eql 29 (.agg #[.string x.a,.string x.b,.string x.r,.string x.c,.string x.d,.string x.s]) (.agg #[.string y.a,.string y.b,.string y.r,.string y.c,.string y.d,.string y.s])).run prog w=.ok (.bool v) w:=by
 subst h;go_simp;unfold MK
 (repeat' split)<;>simp_all
def xB(ts:Q05)(t:Tp):Bool:=ts.any fun x=>MK x t
theorem MM{ts:Q05}{t:Tp}{k:Nat}(h:k<ts.length):xB (ts.drop k) t=(MK ts[k] t || xB (ts.drop (k+1)) t):=by
 rw[Wi h];rfl
def Tp.row(t:Tp):List Value:=[.string t.a,.string t.b,.string t.r,.string t.c,.string t.d,.string t.s]
def bq(ts:Q05):List Value:=ts.flatMap Tp.row
theorem jC:∀ts:List Tp,(bq ts).length=ts.length*6
 | []=>rfl
 | r::rs=>by have:=jC rs;simp only[bq,Tp.row,V6,VD,V8,WE]at this ⊢;omega
theorem vG:∀(rs:Q05) (i:Nat) (h:i<rs.length) (j:Nat),j<6->(bq rs)[i*6+j]?=(rs[i]).row[j]?
 | [],i,h,_,_=>by simp at h
 | r::rs,0,_,j,hj=>by
  simp only[bq,V6,Nat.zero_mul,VW,List.getElem_cons_zero];rw[Wy (by simpa[Tp.row] using hj)]
 | r::rs,i+1,h,j,hj=>by
  have:=vG rs i (by simpa using h) j hj;simp only[bq,V6,List.getElem_cons_succ]at this ⊢;rw[Wx (by simp[Tp.row];omega),<-this];congr 1;simp[Tp.row];omega
theorem uz(ts:Q05)(t:Tp):bq (ts++[t])=bq ts++t.row:=by simp[bq]
theorem vH(t:Tp):∀u∈t.row,u.oneCell'=true:=by
 intro u hu;simp[Tp.row]at hu;rcases hu with rfl|rfl|rfl|rfl|rfl|rfl<;>rfl
theorem xC(w:af)(t:Tp):∀j u,t.row[j]?=some u->(w.alloc (.cells #[.string t.a,.string t.b,.string t.r,.string t.c,.string t.d,.string t.s] 29)).cell? ((⟨w.heap.size,0,none⟩:Addr).add j)=some u:=by
 intro j u hu;rw[show(⟨w.heap.size,0,none⟩:Addr).add j=⟨w.heap.size,0+j,none⟩ by simp[Addr.add];omega,VW];have:=World.cell?_alloc_mark w #[.string t.a,.string t.b,.string t.r,.string t.c,.string t.d,.string t.s] 29 (0,0) j;rw[this];simpa[Tp.row] using hu
theorem LA{w:af}{base n:Nat}{v:Value}{ts:Q05}(h:w.ownsRow base 29 6 v n (bq ts))(hn:n=ts.length):∃ad cap,v=.slice ad ts.length cap/\Sl w ad ts/\∀g,ad=some ⟨g,0,none⟩->base<=g/\g<w.heap.size/\j6 w g:=by
 subst hn;have h2:=h;rcases h.2 with⟨rfl,h0⟩|⟨g,cap,cur,rfl,hbg,hg,hnc,-⟩
 ·exact⟨none,0,by rw[h0],.inl (VM.1 h0),fun g e=>by cases e⟩
 have hlt:=h2.lt g rfl;refine⟨some ⟨g,0,none⟩,cap,rfl,.inr ⟨g,0,rfl,hlt.2,fun i hi=>?_⟩,fun g' e=>?_⟩
 ·have hl:=jC ts;have key:∀j,j<6->w.cell? ⟨g,0+i*6+j,none⟩=(ts[i]).row[j]?:=fun j hj=>by
   rw[h2.cellAt (0+i*6+j) (by omega),<-vG ts i hi j hj,VW]
  exact⟨key 0 (by omega),key 1 (by omega),key 2 (by omega),key 3 (by omega),key 4 (by omega),key 5 (by omega)⟩
 injection e with e;injection e with e1 e2;subst e1;exact⟨hlt.1,hlt.2,fun y=>h2.frozenAt y⟩
theorem jh{B:Nat}{w w':af}(hB:Below B w w'){n o:Nat}{v:Value}(hn:n<B)(h:w.cell? ⟨n,o,none⟩=some v):w'.cell? ⟨n,o,none⟩=some v:=(hB.cell (p:=⟨n,o,none⟩) hn).trans h
theorem aV{p:Prop}(h:p):Hid p:=h
theorem fQ{w w':af}{base:Nat}{e:TypeId}{size:Nat}{v:Value}{n:Nat}{xs:Q03}(h:w.ownsRow base e size v n xs)(hb:ag w w'):w'.ownsRow base e size v n xs:=by
 have hl:=fun g hg=>(h.lt g hg).2;refine⟨h.1,?_⟩;rcases h.2 with h0|⟨g,cap,cur,rfl,h1,h2,h3⟩
 ·exact .inl h0
 exact .inr ⟨g,cap,cur,rfl,h1,(hb.block g (hl g rfl)).trans h2,h3⟩
end Go.Proofs.YtojjoblnpldniaaGreat
