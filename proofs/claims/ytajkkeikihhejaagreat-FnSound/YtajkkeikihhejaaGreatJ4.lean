/- Plain functions on bytes: the texts of objects and tuples, and what their sizes are. Nothing of the program is read here. -/
import Derived.Test.YtajkkeikihhejaaGreatSq
import Derived.OwnWalk
import Derived.Maps.AppendAt
import Derived.Test.YtajkkeikihhejaaGreatJ3
import Derived.WideKeyEntry
open Go.Proofs.Tryz
set_option maxHeartbeats 80000000
namespace Go.Proofs.YtajkkeikihhejaaGreat.Pl
theorem gJ{a b:ByteArray}(h:a=b):Ending.returned (.string a)=.returned (.string b):=by rw[h]
theorem K4{s:ByteArray}(h:nW s=true):1<=s.size/\s.size<=12:=by simpa[nW] using h
theorem ol{s:ByteArray}(h:aU s=true):1<=s.size/\s.size<=12:=by
 simp[aU,dP]at h;exact K4 h.1.1
theorem Ox{s:ByteArray}(h:qd s=true):1<=s.size/\s.size<=12:=by
 simp[qd,dP]at h;exact K4 h.1
theorem zu{t i:ByteArray}(h:fu t i=true):t.size<=12/\i.size<=12:=by
 simp[fu]at h;exact⟨(ol h.1).2,(Ox h.2).2⟩
def aF(t i:ByteArray):ByteArray:=if fu t i then t++⟨#[58]⟩++i else ⟨#[]⟩
theorem nA{t i:ByteArray}(h:fu t i=true):aF t i=t++⟨#[58]⟩++i:=by simp[aF,h]
theorem uh{t i:ByteArray}(h:fu t i=false):aF t i=⟨#[]⟩:=by simp[aF,h]
theorem iN(t i:bW):(aF t i).size<=25:=by
 unfold aF;split
 ·rename_i h;have h2:=zu h;have e1:(ByteArray.mk #[58]).size=1:=rfl;rw[Vv,Vv,e1];omega
 exact Vf _
def ui(s:ByteArray):Bool:=s.toList.isEmpty || aU s
def cO(a b r c d s:ByteArray):Bool:=fu a b&&aU r&&fu c d&&ui s
def bi(a b r c d s:ByteArray):ByteArray :=
 if cO a b r c d s then
  (if s.toList.isEmpty then aF a b++⟨#[35]⟩++r++⟨#[64]⟩++aF c d else aF a b++⟨#[35]⟩++r++⟨#[64]⟩++aF c d++⟨#[35]⟩++s)
 else ⟨#[]⟩
theorem uj{a b r c d s:ByteArray}(h:cO a b r c d s=false):bi a b r c d s=⟨#[]⟩:=by simp[bi,h]
theorem nC{a b r c d s:ByteArray}(h:cO a b r c d s=true)(hs:s.toList.isEmpty=true):bi a b r c d s=aF a b++⟨#[35]⟩++r++⟨#[64]⟩++aF c d:=by simp[bi,h,hs]
theorem nD{a b r c d s:ByteArray}(h:cO a b r c d s=true)(hs:s.toList.isEmpty=false):bi a b r c d s=aF a b++⟨#[35]⟩++r++⟨#[64]⟩++aF c d++⟨#[35]⟩++s:=by simp[bi,h,hs]
theorem Aa{a b r c d s:ByteArray}(h:fu a b=false):cO a b r c d s=false:=by simp[cO,h]
theorem Ab{a b r c d s:ByteArray}(h:aU r=false):cO a b r c d s=false:=by simp[cO,h]
theorem Ac{a b r c d s:ByteArray}(h:fu c d=false):cO a b r c d s=false:=by simp[cO,h]
theorem Ad{a b r c d s:ByteArray}(h1:fu a b=true)(h2:aU r=true)(h3:fu c d=true):cO a b r c d s=ui s:=by simp[cO,h1,h2,h3]
theorem ku{a b r c d s:ByteArray}(h:cO a b r c d s=true):fu a b=true/\aU r=true/\fu c d=true/\ui s=true:=by
 simp[cO]at h;exact⟨h.1.1.1,h.1.1.2,h.1.2,h.2⟩
theorem Ae{s:ByteArray}(h:s.toList.isEmpty=true):s.size=0:=by
 rw[Go.ByteArray.toList_eq]at h;have h2:s.data.toList=[]:=by simpa using h
 have h3:s.data.toList.length=0:=by rw[h2];rfl
 simpa using h3
theorem ES{s:ByteArray}(h:ui s=true):s.size<=12:=by
 simp only[ui,Bool.or_eq_true]at h;rcases h with h|h
 ·have:=Ae h;omega
 exact(ol h).2
end Go.Proofs.YtajkkeikihhejaaGreat.Pl
namespace Go.Proofs.YtajkkeikihhejaaGreat
open ChangeShapes WideShapes ChangeAt RowKit
open Pl
theorem vD(c:UInt8)(w:af):
  Calls prog 229 #[.int .u8 c.toNat] w fun e w'=>e=.returned (.bool (zm c))/\w'=w:=by
 by_cases hl:fo c=true
 ·go_enter func229,ntmps229;go_wp2_with(go_at_call 210;refine(lJ _ _).mono ?_;rintro e w' ⟨rfl,rfl⟩);go_ret;exact⟨ah (by simp[zm,hl]),rfl⟩
 have hf:fo c=false:=by simpa using hl
 clear hl;go_enter func229,ntmps229;go_wp2_with(go_at_call 210;refine(lJ _ _).mono ?_;rintro e w' ⟨rfl,rfl⟩)
 all_goals go_ret
 all_goals refine⟨ah ?_,rfl⟩
 all_goals(rw[Vu];simp[zm,hf];omega)
theorem Ja(s:bW)(w:af)(hs:s.size<=maxLen):
  Calls prog 168 #[.string s] w fun e w'=>e=.returned (.bool (qd s))/\w'=w:=by
 unfold maxLen at hs;by_cases h1:1<=s.size/\s.size<=12
 ·obtain⟨ha,hb⟩:=h1;go_enter func168,ntmps168;go_wp2
  go_loop [3] (fun i=>∃k:Nat,k<=s.size/\i=.int .i64 k/\Hid (IX zm s k=true)) (fun i=>s.size-(intOf i).toNat)
  case atStart=>exact⟨0,Vf _,rfl,uR _ _⟩
  obtain⟨k,hk,rfl,hu⟩:=hrel;by_cases hlt:k<s.size
  ·by_cases hc:zm s[k]=true
   ·have hd:(97<=s[k].toNat/\s[k].toNat<=122)\/(48<=s[k].toNat/\s[k].toNat<=57)\/s[k].toNat=95:=by simp[zm,fo]at hc;omega
    have HU:Hid (IX zm s (k+1)=true):=by show _=_;rw[uS _ _ _ hlt,hc,hu.out];rfl
    clear hc;rcases hd with⟨hd1,hd2⟩|⟨hd1,hd2⟩|hd1
    all_goals
     go_wp2;go_round;case rel=>exact⟨k+1,by omega,by go_num,HU⟩
     simp[intOf];omega
   have hc':zm s[k]=false:=by simpa using hc
   have HB:Hid (sO zm s=false):=zq _ _ _ hlt hc';have hd:s[k].toNat<48\/(57<s[k].toNat/\s[k].toNat<95)\/(95<s[k].toNat/\s[k].toNat<97)\/122<s[k].toNat:=by simp[zm,fo]at hc';omega
   clear hc hc';rcases hd with hd|⟨hd,hd2⟩|⟨hd,hd2⟩|hd
   all_goals
    have h95:((s[k].toNat:Int) != 95)=true:=by simp;omega
    go_wp2;go_ret;exact⟨ah (by simp[qd,dP,HB.out]),rfl⟩
  go_wp2;go_ret;refine⟨ah ?_,rfl⟩;have hall:sO zm s=true:=by rw[<-zo zm s k (by omega)];exact hu.out
  have hl:nW s=true:=by simp[nW];omega
  simp[qd,dP,hall,hl]
 have hn:nW s=false:=by simp[nW];omega
 have HN:Hid (qd s=false):=by show _=_;simp[qd,dP,hn]
 clear hn;by_cases ha:1<=s.size
 ·have hb:12<s.size:=by omega
  clear h1;go_enter func168,ntmps168;go_wp2;go_ret;exact⟨ah HN.out.symm,rfl⟩
 have ha':s.size<1:=by omega
 clear h1;go_enter func168,ntmps168;go_wp2;go_ret;exact⟨ah HN.out.symm,rfl⟩
theorem Af(s:bW)(w:af)(hs:s.size<=maxLen):
  Calls prog 209 #[.string s,.func (Fn.func 229) #[] #[]] w fun e w'=>e=.returned (.bool (dP zm s))/\w'=w:=by
 unfold maxLen at hs;by_cases h1:1<=s.size/\s.size<=12
 ·obtain⟨ha,hb⟩:=h1;go_enter func209,ntmps209;go_wp2
  go_loop [16] (fun i=>∃k:Nat,k<=s.size/\i=.int .i64 k/\Hid (IX zm s k=true)) (fun i=>s.size-(intOf i).toNat)
  case atStart=>exact⟨0,Vf _,rfl,uR _ _⟩
  obtain⟨k,hk,rfl,hu⟩:=hrel;by_cases hlt:k<s.size
  ·by_cases hc:zm s[k]=true
   ·have HU:Hid (IX zm s (k+1)=true):=by show _=_;rw[uS _ _ _ hlt,hc,hu.out];rfl
    go_wp2_with(go_at_call 229;refine(vD _ _).mono ?_;rintro e w' ⟨rfl,rfl⟩);go_round;case rel=>exact⟨k+1,by omega,by go_num,HU⟩
    simp[intOf];omega
   have hc':zm s[k]=false:=by simpa using hc
   have HB:Hid (sO zm s=false):=zq _ _ _ hlt hc';clear hc;go_wp2_with(go_at_call 229;refine(vD _ _).mono ?_;rintro e w' ⟨rfl,rfl⟩);go_ret;exact⟨ah (by simp[dP,HB.out]),rfl⟩
  go_wp2;go_ret;refine⟨ah ?_,rfl⟩;have hall:sO zm s=true:=by rw[<-zo zm s k (by omega)];exact hu.out
  have hl:nW s=true:=by simp[nW];omega
  simp[dP,hall,hl]
 have hn:nW s=false:=by simp[nW];omega
 have HN:Hid (dP zm s=false):=by show _=_;simp[dP,hn]
 clear hn;by_cases ha:1<=s.size
 ·have hb:12<s.size:=by omega
  clear h1;go_enter func209,ntmps209;go_wp2;go_ret;exact⟨ah HN.out.symm,rfl⟩
 have ha':s.size<1:=by omega
 clear h1;go_enter func209,ntmps209;go_wp2;go_ret;exact⟨ah HN.out.symm,rfl⟩
theorem Ag(s:bW)(w:af)(hs:s.size<=maxLen):
  Calls prog 208 #[.string s] w fun e w'=>e=.returned (.bool (qd s))/\w'=w:=by
 go_enter func208,ntmps208;go_wp2_with(go_at_call 209;refine(Af _ _ hs).mono ?_;rintro e w' ⟨rfl,rfl⟩);go_ret;exact⟨rfl,rfl⟩
theorem jY{W w1:af}(hb:ae W w1):(∀b o,b<W.heap.size->w1.cell? ⟨b,o,none⟩=W.cell? ⟨b,o,none⟩)/\(∀b o,b<W.heap.size->w1.frozen? ⟨b,o,none⟩=W.frozen? ⟨b,o,none⟩) :=
 ⟨fun b o h=>hb.cell (p:=⟨b,o,none⟩) h,fun b o h=>hb.frozen (p:=⟨b,o,none⟩) h⟩
theorem dZ(t i:bW)(w:af)(ht:t.size<=maxLen)(hi:i.size<=maxLen):
  Calls prog 110 #[.agg #[.string t,.string i]] w fun e w'=>e=.returned (.bool (fu t i))/\ae w w':=by
 by_cases hn:aU t=true
 all_goals
  go_enter func110,ntmps110;go_wp2_with(first|(go_at_call 111;refine(aT _ _ ht).mono ?_;rintro e w' ⟨rfl,rfl⟩)|(go_at_call 168;refine(Ja _ _ hi).mono ?_;rintro e w' ⟨rfl,rfl⟩));go_ret;exact⟨ah (by simp[fu,hn]),(Vb _ _).alloc (Va _) _⟩
theorem gH(t i:bW)(w:af)(ht:t.size<=maxLen)(hi:i.size<=maxLen):
  Calls prog 161 #[.agg #[.string t,.string i]] w fun e w'=>e=.returned (.bool (fu t i))/\ae w w':=by
 by_cases hn:aU t=true
 all_goals
  go_enter func161,ntmps161;go_wp2_with(first|(go_at_call 162;refine(aQ _ _ ht).mono ?_;rintro e w' ⟨rfl,rfl⟩)|(go_at_call 208;refine(Ag _ _ hi).mono ?_;rintro e w' ⟨rfl,rfl⟩));go_ret;exact⟨ah (by simp[fu,hn]),(Vb _ _).alloc (Va _) _⟩
theorem yV(t i:bW)(w:af)(ht:t.size<=maxLen)(hi:i.size<=maxLen):
  Calls prog 225 #[.agg #[.string t,.string i]] w fun e w'=>e=.returned (.string (aF t i))/\ae w w':=by
 by_cases hn:fu t i=true
 ·obtain⟨h1,h2⟩:=zu hn;have HT:Hid (aF t i=t++⟨#[58]⟩++i):=nA hn;go_enter func225,ntmps225;go_wp2_with(go_at_call 110;refine(dZ _ _ _ ht hi).mono ?_;rintro e w' ⟨rfl,hb⟩;obtain⟨hc,hf⟩:=jY hb);go_ret;exact⟨gJ HT.out.symm,((Vb _ _).alloc (Va _) _).trans (hb.mono (by simp))⟩
 have hn':fu t i=false:=by simpa using hn
 have HT:Hid (aF t i=⟨#[]⟩):=uh hn';clear hn;go_enter func225,ntmps225;go_wp2_with(go_at_call 110;refine(dZ _ _ _ ht hi).mono ?_;rintro e w' ⟨rfl,hb⟩;obtain⟨hc,hf⟩:=jY hb);go_ret;exact⟨gJ HT.out.symm,((Vb _ _).alloc (Va _) _).trans (hb.mono (by simp))⟩
theorem yX(t i:bW)(w:af)(ht:t.size<=maxLen)(hi:i.size<=maxLen):
  Calls prog 207 #[.agg #[.string t,.string i]] w fun e w'=>e=.returned (.string (aF t i))/\ae w w':=by
 by_cases hn:fu t i=true
 ·obtain⟨h1,h2⟩:=zu hn;have HT:Hid (aF t i=t++⟨#[58]⟩++i):=nA hn;go_enter func207,ntmps207;go_wp2_with(go_at_call 161;refine(gH _ _ _ ht hi).mono ?_;rintro e w' ⟨rfl,hb⟩;obtain⟨hc,hf⟩:=jY hb);go_ret;exact⟨gJ HT.out.symm,((Vb _ _).alloc (Va _) _).trans (hb.mono (by simp))⟩
 have hn':fu t i=false:=by simpa using hn
 have HT:Hid (aF t i=⟨#[]⟩):=uh hn';clear hn;go_enter func207,ntmps207;go_wp2_with(go_at_call 161;refine(gH _ _ _ ht hi).mono ?_;rintro e w' ⟨rfl,hb⟩;obtain⟨hc,hf⟩:=jY hb);go_ret;exact⟨gJ HT.out.symm,((Vb _ _).alloc (Va _) _).trans (hb.mono (by simp))⟩
theorem Dh(s:bW)(w:af)(hs:s.size<=maxLen):
  Calls prog 163 #[.string s] w fun e w'=>e=.returned (.bool (ui s))/\w'=w:=by
 go_enter func163,ntmps163;go_wp2_with(go_at_call 162;refine(aQ _ _ hs).mono ?_;rintro e w' ⟨rfl,rfl⟩)
 all_goals go_ret
 all_goals exact⟨ah (by simp[ui, *]),rfl⟩
theorem d9(a b r c d s:bW)(w:af)(ha:a.size<=maxLen)(hb:b.size<=maxLen)(hr:r.size<=maxLen)(hc:c.size<=maxLen)(hd:d.size<=maxLen)(hs:s.size<=maxLen):
  Calls prog 127 #[.agg #[.string a,.string b,.string r,.string c,.string d,.string s]] w fun e w'=>e=.returned (.bool (cO a b r c d s))/\ae w w':=by
 by_cases h1:fu a b=true
 ·by_cases h2:aU r=true
  ·by_cases h3:fu c d=true
   ·have HT:Hid (cO a b r c d s=ui s):=Ad h1 h2 h3;go_enter func127,ntmps127;go_wp2_with fail;refine(dZ _ _ _ ha hb).mono ?_;rintro e w1 ⟨rfl,hb1⟩;obtain⟨hc1,hf1⟩:=jY hb1;have hz1:w.heap.size<w1.heap.size:=by have:=hb1.size;simp at this;omega
    go_wp2_with fail;refine(aT _ _ hr).mono ?_;rintro e w1' ⟨rfl,rfl⟩;go_wp2_with fail;refine(dZ _ _ _ hc hd).mono ?_;rintro e w2 ⟨rfl,hb2⟩;obtain⟨hc2,hf2⟩:=jY hb2;have hz2:w.heap.size<w2.heap.size:=by have:=hb2.size;omega
    go_wp2_with(go_at_call 111;refine(aT _ _ hs).mono ?_;rintro e w3 ⟨rfl,rfl⟩)
    all_goals go_ret
    all_goals exact⟨ah (HT.out.trans (by simp[ui, *])).symm,((Vb _ _).alloc (Va _) _).trans ((hb1.mono (by simp)).trans (hb2.mono (by omega)))⟩
   have h3':fu c d=false:=by simpa using h3
   have HT:Hid (cO a b r c d s=false):=Ac h3';clear h3;go_enter func127,ntmps127;go_wp2_with fail;refine(dZ _ _ _ ha hb).mono ?_;rintro e w1 ⟨rfl,hb1⟩;obtain⟨hc1,hf1⟩:=jY hb1;have hz1:w.heap.size<w1.heap.size:=by have:=hb1.size;simp at this;omega
   go_wp2_with fail;refine(aT _ _ hr).mono ?_;rintro e w1' ⟨rfl,rfl⟩;go_wp2_with fail;refine(dZ _ _ _ hc hd).mono ?_;rintro e w2 ⟨rfl,hb2⟩;go_wp2;go_ret;exact⟨ah HT.out.symm,((Vb _ _).alloc (Va _) _).trans ((hb1.mono (by simp)).trans (hb2.mono (by omega)))⟩
  have h2':aU r=false:=by simpa using h2
  have HT:Hid (cO a b r c d s=false):=Ab h2';clear h2;go_enter func127,ntmps127;go_wp2_with fail;refine(dZ _ _ _ ha hb).mono ?_;rintro e w1 ⟨rfl,hb1⟩;obtain⟨hc1,hf1⟩:=jY hb1;go_wp2_with fail;refine(aT _ _ hr).mono ?_;rintro e w1' ⟨rfl,rfl⟩;go_wp2;go_ret;exact⟨ah HT.out.symm,((Vb _ _).alloc (Va _) _).trans (hb1.mono (by simp))⟩
 have h1':fu a b=false:=by simpa using h1
 have HT:Hid (cO a b r c d s=false):=Aa h1';clear h1;go_enter func127,ntmps127;go_wp2_with fail;refine(dZ _ _ _ ha hb).mono ?_;rintro e w1 ⟨rfl,hb1⟩;go_wp2;go_ret;exact⟨ah HT.out.symm,((Vb _ _).alloc (Va _) _).trans (hb1.mono (by simp))⟩
theorem fF(a b r c d s:bW)(w:af)(ha:a.size<=maxLen)(hb:b.size<=maxLen)(hr:r.size<=maxLen)(hc:c.size<=maxLen)(hd:d.size<=maxLen)(hs:s.size<=maxLen):
  Calls prog 108 #[.agg #[.string a,.string b,.string r,.string c,.string d,.string s]] w fun e w'=>e=.returned (.bool (cO a b r c d s))/\ae w w':=by
 by_cases h1:fu a b=true
 ·by_cases h2:aU r=true
  ·by_cases h3:fu c d=true
   ·have HT:Hid (cO a b r c d s=ui s):=Ad h1 h2 h3;go_enter func108,ntmps108;go_wp2_with fail;refine(gH _ _ _ ha hb).mono ?_;rintro e w1 ⟨rfl,hb1⟩;obtain⟨hc1,hf1⟩:=jY hb1;have hz1:w.heap.size<w1.heap.size:=by have:=hb1.size;simp at this;omega
    go_wp2_with fail;refine(aQ _ _ hr).mono ?_;rintro e w1' ⟨rfl,rfl⟩;go_wp2_with fail;refine(gH _ _ _ hc hd).mono ?_;rintro e w2 ⟨rfl,hb2⟩;obtain⟨hc2,hf2⟩:=jY hb2;have hz2:w.heap.size<w2.heap.size:=by have:=hb2.size;omega
    go_wp2_with(go_at_call 163;refine(Dh _ _ hs).mono ?_;rintro e w3 ⟨rfl,rfl⟩)
    all_goals go_ret
    all_goals exact⟨ah (HT.out.trans (by simp[ui, *])).symm,((Vb _ _).alloc (Va _) _).trans ((hb1.mono (by simp)).trans (hb2.mono (by omega)))⟩
   have h3':fu c d=false:=by simpa using h3
   have HT:Hid (cO a b r c d s=false):=Ac h3';clear h3;go_enter func108,ntmps108;go_wp2_with fail;refine(gH _ _ _ ha hb).mono ?_;rintro e w1 ⟨rfl,hb1⟩;obtain⟨hc1,hf1⟩:=jY hb1;have hz1:w.heap.size<w1.heap.size:=by have:=hb1.size;simp at this;omega
   go_wp2_with fail;refine(aQ _ _ hr).mono ?_;rintro e w1' ⟨rfl,rfl⟩;go_wp2_with fail;refine(gH _ _ _ hc hd).mono ?_;rintro e w2 ⟨rfl,hb2⟩;go_wp2;go_ret;exact⟨ah HT.out.symm,((Vb _ _).alloc (Va _) _).trans ((hb1.mono (by simp)).trans (hb2.mono (by omega)))⟩
  have h2':aU r=false:=by simpa using h2
  have HT:Hid (cO a b r c d s=false):=Ab h2';clear h2;go_enter func108,ntmps108;go_wp2_with fail;refine(gH _ _ _ ha hb).mono ?_;rintro e w1 ⟨rfl,hb1⟩;obtain⟨hc1,hf1⟩:=jY hb1;go_wp2_with fail;refine(aQ _ _ hr).mono ?_;rintro e w1' ⟨rfl,rfl⟩;go_wp2;go_ret;exact⟨ah HT.out.symm,((Vb _ _).alloc (Va _) _).trans (hb1.mono (by simp))⟩
 have h1':fu a b=false:=by simpa using h1
 have HT:Hid (cO a b r c d s=false):=Aa h1';clear h1;go_enter func108,ntmps108;go_wp2_with fail;refine(gH _ _ _ ha hb).mono ?_;rintro e w1 ⟨rfl,hb1⟩;go_wp2;go_ret;exact⟨ah HT.out.symm,((Vb _ _).alloc (Va _) _).trans (hb1.mono (by simp))⟩
structure Tp where
 a:ByteArray
 b:ByteArray
 r:ByteArray
 c:ByteArray
 d:ByteArray
 s:ByteArray
abbrev Q05:=List Tp
def Tp.fits(t:Tp):Prop:=t.a.size<=maxLen/\t.b.size<=maxLen/\t.r.size<=maxLen/\t.c.size<=maxLen/\t.d.size<=maxLen/\t.s.size<=maxLen
def SS(w:World)(b off:Nat)(t:Tp):Prop :=
 w.cell? ⟨b,off,none⟩=some (.string t.a)/\w.cell? ⟨b,off+1,none⟩=some (.string t.b)/\w.cell? ⟨b,off+2,none⟩=some (.string t.r) /\
 w.cell? ⟨b,off+3,none⟩=some (.string t.c)/\w.cell? ⟨b,off+4,none⟩=some (.string t.d)/\w.cell? ⟨b,off+5,none⟩=some (.string t.s)
def lq(w:World)(b off:Nat)(ts:Q05):Prop:=∀(i:Nat) (h:i<ts.length),SS w b (off+i*6) ts[i]
def Sl(w:World)(ad:Q02)(ts:Q05):Prop:=ts=[] \/ ∃b off,ad=some ⟨b,off,none⟩/\b<w.heap.size/\lq w b off ts
theorem SS.same{w w':af}{b off:Nat}{t:Tp}(h:SS w b off t)(hc:∀o,w'.cell? ⟨b,o,none⟩=w.cell? ⟨b,o,none⟩):SS w' b off t:=by
 obtain⟨h0,h1,h2,h3,h4,h5⟩:=h;exact⟨(hc _).trans h0,(hc _).trans h1,(hc _).trans h2,(hc _).trans h3,(hc _).trans h4,(hc _).trans h5⟩
theorem lq.below{w w':af}{b off B:Nat}{ts:Q05}(h:lq w b off ts)(hB:Below B w w')(hb:b<B):lq w' b off ts :=
 fun i hi=>(h i hi).same fun o=>hB.cell (p:=⟨b,o,none⟩) hb
theorem Sl.below{w w':af}{ad:Q02}{ts:Q05}(h:Sl w ad ts)(hB:ae w w'):Sl w' ad ts:=by
 rcases h with h|⟨b,off,e,hb,hr⟩
 ·exact .inl h
 exact .inr ⟨b,off,e,U9 hb hB.size,hr.below hB hb⟩
def Ah(w:World)(g o:Nat)(t:Tp):World :=
 (((((w.setCell ⟨g,o,none⟩ (.string t.a)).setCell ⟨g,o+1,none⟩ (.string t.b)).setCell ⟨g,o+2,none⟩ (.string t.r)).setCell ⟨g,o+3,none⟩ (.string t.c)).setCell ⟨g,o+4,none⟩ (.string t.d)).setCell ⟨g,o+5,none⟩ (.string t.s)
theorem lu{w:af}{g i j:Nat}{v:Value}(h:i≠j):(w.setCell ⟨g,i,none⟩ v).cell? ⟨g,j,none⟩=w.cell? ⟨g,j,none⟩:=by
 apply World.cell?_setCell_other;intro e;exact h (congrArg Addr.off e)
theorem Oy{w:af}{a:Addr}{v u:Value}(h:w.cell? a=some u):(w.setCell a v).cell? a=some v:=by
 apply World.cell?_setCell_same;exact h
theorem Gq(w:af)(g o:Nat)(t:Tp)(j:Nat)(h:j<o\/o+6<=j):(Ah w g o t).cell? ⟨g,j,none⟩=w.cell? ⟨g,j,none⟩:=by
 unfold Ah;rw[lu (by omega),lu (by omega),lu (by omega),lu (by omega),lu (by omega),lu (by omega)]
theorem K5{w:af}{g o:Nat}(t:Tp)(h:∀j,j<6->(w.cell? ⟨g,o+j,none⟩).isSome=true):SS (Ah w g o t) g o t:=by
 have e:∀(W:World) (i j:Nat) (v:Value),(W.cell? ⟨g,o+j,none⟩).isSome=true->((W.setCell ⟨g,o+i,none⟩ v).cell? ⟨g,o+j,none⟩).isSome=true:=by
  intro W i j v hW;by_cases hij:i=j
  ·subst hij;obtain⟨u,hu⟩:=Option.isSome_iff_exists.mp hW;rw[Oy hu];rfl
  rw[lu (by omega)];exact hW
 have same:∀(W:World) (j:Nat) (v:Value),(W.cell? ⟨g,o+j,none⟩).isSome=true->(W.setCell ⟨g,o+j,none⟩ v).cell? ⟨g,o+j,none⟩=some v:=by
  intro W j v hW;obtain⟨u,hu⟩:=Option.isSome_iff_exists.mp hW;exact Oy hu
 have h0:=h 0 (by omega);have h1:=h 1 (by omega);have h2:=h 2 (by omega);have h3:=h 3 (by omega);have h4:=h 4 (by omega);have h5:=h 5 (by omega);unfold Ah SS;refine⟨?_,?_,?_,?_,?_,?_⟩
 ·rw[lu (by omega),lu (by omega),lu (by omega),lu (by omega),lu (by omega)];exact same _ 0 _ h0
 ·rw[lu (by omega),lu (by omega),lu (by omega),lu (by omega)];exact same _ 1 _ (e _ 0 1 _ h1)
 ·rw[lu (by omega),lu (by omega),lu (by omega)];exact same _ 2 _ (e _ 1 2 _ (e _ 0 2 _ h2))
 ·rw[lu (by omega),lu (by omega)];exact same _ 3 _ (e _ 2 3 _ (e _ 1 3 _ (e _ 0 3 _ h3)))
 ·rw[lu (by omega)];exact same _ 4 _ (e _ 3 4 _ (e _ 2 4 _ (e _ 1 4 _ (e _ 0 4 _ h4))))
 exact same _ 5 _ (e _ 4 5 _ (e _ 3 5 _ (e _ 2 5 _ (e _ 1 5 _ (e _ 0 5 _ h5)))))
theorem Gr(w:af)(g o:Nat)(t:Tp)(x:Addr):(Ah w g o t).frozen? x=w.frozen? x:=by simp[Ah]
theorem Jb{B:Nat}{w0 w:af}{g o:Nat}{t:Tp}(h:Below B w0 w)(hg:B<=g):Below B w0 (Ah w g o t):=by
 unfold Ah;exact(((((h.setCell (by exact hg) _).setCell (by exact hg) _).setCell (by exact hg) _).setCell (by exact hg) _).setCell (by exact hg) _).setCell (by exact hg) _
theorem LX(w:af)(g o:Nat)(t:Tp):(Ah w g o t).heap.size=w.heap.size:=by simp[Ah]
structure Filling(w wr:World)(g:Nat)(ts:Q05)(k:Nat):Prop where
 below:ae w wr
 ge:w.heap.size<=g
 lt:g<wr.heap.size
 done:∀(i:Nat) (h:i<ts.length),i<k->SS wr g (0+i*6) ts[i]
 there:∀j,j<ts.length*6->(wr.cell? ⟨g,j,none⟩).isSome=true
 free:∀j,wr.frozen? ⟨g,j,none⟩=false
theorem Filling.later{w wr w1:af}{g:Nat}{ts:Q05}{k:Nat}(h:Filling w wr g ts k)(hb:ae wr w1):Filling w w1 g ts k where
 below:=h.below.trans (hb.mono h.below.size)
 ge:=h.ge
 lt:=U9 h.lt hb.size
 done i hi hk:=(h.done i hi hk).same fun o=>hb.cell (p:=⟨g,o,none⟩) h.lt
 there j hj:=by rw[hb.cell (p:=⟨g,j,none⟩) h.lt];exact h.there j hj
 free j:=by rw[hb.frozen (p:=⟨g,j,none⟩) h.lt];exact h.free j
theorem Filling.put{w wr:af}{g:Nat}{ts:Q05}{k:Nat}(h:Filling w wr g ts k)(hk:k<ts.length):Filling w (Ah wr g (k*6) ts[k]) g ts (k+1) where
 below:=Jb h.below h.ge
 ge:=h.ge
 lt:=by rw[LX];exact h.lt
 done i hi hik:=by
  by_cases e:i=k
  ·subst e;rw[VC];exact K5 _ (fun j hj=>h.there _ (by omega))
  obtain⟨a0,a1,a2,a3,a4,a5⟩:=h.done i hi (by omega);refine⟨?_,?_,?_,?_,?_,?_⟩<;>(rw[Gq _ _ _ _ _ (by omega)];assumption)
 there j hj:=by
  by_cases hin:j<k*6\/k*6+6<=j
  ·rw[Gq _ _ _ _ _ hin];exact h.there j hj
  obtain⟨a0,a1,a2,a3,a4,a5⟩:=K5 (w:=wr) (g:=g) (o:=k*6) ts[k] (fun j hj=>h.there _ (by omega));have hj6:j=k*6\/j=k*6+1\/j=k*6+2\/j=k*6+3\/j=k*6+4\/j=k*6+5:=by omega
  rcases hj6 with e|e|e|e|e|e
  ·rw[e,a0];rfl
  ·rw[e,a1];rfl
  ·rw[e,a2];rfl
  ·rw[e,a3];rfl
  ·rw[e,a4];rfl
  rw[e,a5];rfl
 free j:=by rw[Gr];exact h.free j
theorem Filling.row{w w':af}{g:Nat}{ts:Q05}(h:Filling w w' g ts ts.length):lq w' g 0 ts:=fun i hi=>h.done i hi hi
theorem Filling.sl{w w':af}{g:Nat}{ts:Q05}(h:Filling w w' g ts ts.length):Sl w' (some ⟨g,0,none⟩) ts:=.inr ⟨g,0,rfl,h.lt,h.row⟩
open Maps
def LY(x y:Tp):Bool:=x.a.toList==y.a.toList&&x.b.toList==y.b.toList&&x.r.toList==y.r.toList&&x.c.toList==y.c.toList&&x.d.toList==y.d.toList&&x.s.toList==y.s.toList
theorem Gt{x y:ByteArray}(k:x.toList=y.toList):x=y:=by
 rw[Go.ByteArray.toList_eq,Go.ByteArray.toList_eq]at k;obtain⟨x⟩:=x;obtain⟨y⟩:=y;exact congrArg ByteArray.mk (Array.toList_inj.1 k)
theorem Oz(x y:Tp){v:Bool}(h:LY x y=v)(w:af):
  (binOp .eql 46 (.agg #[.string x.a,.string x.b,.string x.r,.string x.c,.string x.d,.string x.s]) (.agg #[.string y.a,.string y.b,.string y.r,.string y.c,.string y.d,.string y.s])).run prog w=.ok (.bool v) w:=by
 subst h;go_simp;unfold LY
 (repeat' split)<;>simp_all
def xw(ts:Q05)(t:Tp):Bool:=ts.any fun x=>LY x t
theorem LZ{ts:Q05}{t:Tp}{k:Nat}(h:k<ts.length):xw (ts.drop k) t=(LY ts[k] t || xw (ts.drop (k+1)) t):=by
 rw[VG h];rfl
def Tp.row(t:Tp):List Value:=[.string t.a,.string t.b,.string t.r,.string t.c,.string t.d,.string t.s]
def bY(ts:Q05):List Value:=ts.flatMap Tp.row
theorem jv:∀ts:List Tp,(bY ts).length=ts.length*6
 | []=>rfl
 | r::rs=>by have:=jv rs;simp only[bY,Tp.row,VJ,Vh,VI,Wj]at this ⊢;omega
theorem vF:∀(rs:Q05) (i:Nat) (h:i<rs.length) (j:Nat),j<6->(bY rs)[i*6+j]?=(rs[i]).row[j]?
 | [],i,h,_,_=>by simp at h
 | r::rs,0,_,j,hj=>by
  simp only[bY,VJ,Nat.zero_mul,VC,List.getElem_cons_zero];rw[V9 (by simpa[Tp.row] using hj)]
 | r::rs,i+1,h,j,hj=>by
  have:=vF rs i (by simpa using h) j hj;simp only[bY,VJ,List.getElem_cons_succ]at this ⊢;rw[V7 (by simp[Tp.row];omega),<-this];congr 1;simp[Tp.row];omega
theorem Ai(ts:Q05)(t:Tp):bY (ts++[t])=bY ts++t.row:=by simp[bY]
theorem Aj(t:Tp):∀u∈t.row,u.oneCell'=true:=by
 intro u hu;simp[Tp.row]at hu;rcases hu with rfl|rfl|rfl|rfl|rfl|rfl<;>rfl
theorem Di(w:af)(t:Tp):∀j u,t.row[j]?=some u->(w.alloc (.cells #[.string t.a,.string t.b,.string t.r,.string t.c,.string t.d,.string t.s] 46)).cell? ((⟨w.heap.size,0,none⟩:Addr).add j)=some u:=by
 intro j u hu;rw[show(⟨w.heap.size,0,none⟩:Addr).add j=⟨w.heap.size,0+j,none⟩ by simp[Addr.add];omega,VC];have:=World.cell?_alloc_mark w #[.string t.a,.string t.b,.string t.r,.string t.c,.string t.d,.string t.s] 46 (0,0) j;rw[this];simpa[Tp.row] using hu
theorem OA{w:af}{base n:Nat}{v:Value}{ts:Q05}(h:w.ownsRow base 46 6 v n (bY ts))(hn:n=ts.length):∃ad cap,v=.slice ad ts.length cap/\Sl w ad ts/\∀g,ad=some ⟨g,0,none⟩->base<=g/\g<w.heap.size/\jZ w g:=by
 subst hn;have h2:=h;rcases h.2 with⟨rfl,h0⟩|⟨g,cap,cur,rfl,hbg,hg,hnc,-⟩
 ·exact⟨none,0,by rw[h0],.inl (Vr.1 h0),fun g e=>by cases e⟩
 have hlt:=h2.lt g rfl;refine⟨some ⟨g,0,none⟩,cap,rfl,.inr ⟨g,0,rfl,hlt.2,fun i hi=>?_⟩,fun g' e=>?_⟩
 ·have hl:=jv ts;have key:∀j,j<6->w.cell? ⟨g,0+i*6+j,none⟩=(ts[i]).row[j]?:=fun j hj=>by
   rw[h2.cellAt (0+i*6+j) (by omega),<-vF ts i hi j hj,VC]
  exact⟨key 0 (by omega),key 1 (by omega),key 2 (by omega),key 3 (by omega),key 4 (by omega),key 5 (by omega)⟩
 injection e with e;injection e with e1 e2;subst e1;exact⟨hlt.1,hlt.2,fun y=>h2.frozenAt y⟩
open Go.ChangeMaps (setBlock heap_setBlock_same heap_setBlock_other)
section
variable  {K:Type}{enc:K->Value}{P:Program}{k:TypeId}{w:World}{b n:Nat}{M:K->Option Value}
theorem aM.of_block{w':af}(h:aM enc P k w b n M)(e:w'.heap[b]?=w.heap[b]?):aM enc P k w' b n M:=by
 obtain⟨D,⟨es,clock,hb,r⟩,h2⟩:=h;exact⟨D,⟨es,clock,e.trans hb,r⟩,h2⟩
theorem qH{w:af}{b:Nat}{es es':Array MapEntry}{c c':Nat}(hb:w.heap[b]?=some (.map es c)):w.grownBy (setBlock w b (.map es' c')) (some b) :=
 ⟨rfl,rfl,rfl,by simp[setBlock],fun i _ hi=>heap_setBlock_other hb _ (fun e=>hi (by rw[e]))⟩
theorem aM.entry[DecidableEq K]{t e:TypeId}(h:aM enc P k w b n M)(L:WideMaps.KeyLaw P k)(hinj:∀x y,enc x=enc y->x=y)(ht:P.underlying t=some (.map k e)){z:Value}(hz:∀u:World,(zeroValue e).run P u=.ok z u)(hn:n<maxLen){x:K}{kl:Lit}(hkey:keyOf P k (enc x)=some kl):
  ∃(st:Nat) (w1:World),(Instr.mapEntry t (.map (some b)) (enc x)).run P w=.ok (.tuple #[(M x).getD z,goInt st]) w1/\w.grownBy w1 (some b) /\
   ∀(w2:World) (val:Value),w2.heap[b]?=w1.heap[b]?→∃w3,(Instr.entryStore t (.map (some b)) (goInt st) val).run P w2=.ok () w3/\aM enc P k w3 b (n+1) (lX M x (some val))/\w2.grownBy w3 (some b):=by
 have LK:=Keyed.of_law L;have hlook:=h.look LK ht (hz w) hkey;have hst:=fun v=>h.store LK hinj ht hn hkey v;obtain⟨D,⟨es,clock,hb,F,hs,hD⟩,h2⟩:=h;obtain⟨v0,st,es1,clock1,hrun,hv0,hback⟩:=WideElems.entry_then_store L ht hz hb F hkey;have hb1:(setBlock w b (.map es1 clock1)).heap[b]?=some (.map es1 clock1):=heap_setBlock_same hb _;have ev:v0=(M x).getD z:=by
  have hl:=hlook;rcases Maps.fit_look false LK ht (hz w) hb F hkey with⟨Ya,hno,-⟩|⟨e0,y,hmem,hek,Ya,-,-,-⟩
  ·rw[hl]at Ya;injection Ya with e1;rcases hv0 with⟨e0,hm,hk0,-⟩|⟨-,hz0⟩
   ·exact absurd hk0 (hno e0 hm)
   rw[hz0,e1];rfl
  rw[hl]at Ya;injection Ya with e1;rcases hv0 with⟨e1',hm,hk0,hv⟩|⟨hno,-⟩
  ·have hnd:=F.stamped.2.2;have:e1'=e0:=by
    have h3:e1'.key=e0.key:=by rw[hk0,hek]
    obtain⟨i,hi,hie⟩:=VP.1 hm;obtain⟨j,hj,hje⟩:=VP.1 hmem;have h4:(es.toList.map (·.key))[i]'(by simpa using hi)=(es.toList.map (·.key))[j]'(by simpa using hj):=by simp only[List.getElem_map,hie,hje];exact h3
    have h6:=List.pairwise_iff_getElem.1 hnd;have h5:i=j:=by
     rcases Nat.lt_trichotomy i j with hl|hl|hl
     ·exact absurd h4 (h6 i j _ _ hl)
     ·exact hl
     exact absurd h4.symm (h6 j i _ _ hl)
    subst h5;rw[<-hie,<-hje]
   rw[hv,this,e1];rfl
  exact absurd hek (hno e0 hmem)
 refine⟨st,_,by rw[hrun,ev],qH hb,fun w2 val hw2=>?_⟩;have hw2':w2.heap[b]?=some (.map es1 clock1):=hw2.trans hb1;obtain⟨es',clock',hr1,hr2⟩:=hback w2 val hw2';obtain⟨w',hr3,hM',-⟩:=hst val;rw[hr2]at hr3;injection hr3 with _ e3;refine⟨_,hr1,hM'.of_block ?_,qH hw2'⟩;rw[<-e3,heap_setBlock_same hb,heap_setBlock_same hw2']
end
section
variable  {K:Type}{enc:K->Value}{P:Program}(w:World){ops:Array Oper}{rest:List Oper}{o:Oper}{a:Act}{Q:Exit->Act->World->Prop}
theorem Cs[DecidableEq K](hg:o.guard=none)(m x:Operand)(t:TypeId)(hop:o.op=Op.mapEntry t m x)(k e:TypeId)(L:WideMaps.KeyLaw P k)(hinj:∀x y,enc x=enc y->x=y)(ht:P.underlying t=some (.map k e)){z:Value}(hz:∀u:World,(zeroValue e).run P u=.ok z u)(b n:Nat)(M:K->Option Value)
  (hm:a.eval m=.map (some b)) (hV:aM enc P k w b n M) (hn:n<maxLen) (y:K) (kl:Lit) (hx:a.eval x=enc y) (hkey:keyOf P k (enc y)=some kl)
  (hK:∀ (st:Nat) (w1:World),w.grownBy w1 (some b)->(∀ (w2:World) (val:Value),w2.heap[b]?=w1.heap[b]?→∃ w3,(Instr.entryStore t (.map (some b)) (goInt st) val).run P w2=.ok () w3/\aM enc P k w3 b (n+1) (lX M y (some val))/\w2.grownBy w3 (some b)) ->
   wpList P ops Q rest (a.put o.dst (.tuple #[(M y).getD z,goInt st])) w1):wpList P ops Q (o::rest) a w:=by
 refine wpList_plain hg fun K' hK'=>?_;obtain⟨st,w1,hrun,h1,h2⟩:=hV.entry L hinj ht hz hn hkey;unfold Oper.wp;simp[execOp,hop,hm,hx,hrun,Result.andThen];exact hK' _ _ (hK st w1 h1 h2)
theorem uk(hg:o.guard=none)(m s v:Operand)(t:TypeId)(hop:o.op=Op.entryStore t m s v)(b st:Nat)(hm:a.eval m=.map (some b))(hs:a.eval s=goInt st)(u:Value)(hv:a.eval v=u)(k:TypeId)(n:Nat)(M:K->Option Value)
  (hback:∃w3,(Instr.entryStore t (.map (some b)) (goInt st) u).run P w=.ok () w3/\aM enc P k w3 b n M/\w.grownBy w3 (some b))
  (hK:∀w',aM enc P k w' b n M->w.grownBy w' (some b)->wpList P ops Q rest (a.put o.dst undef) w'):wpList P ops Q (o::rest) a w:=by
 refine wpList_plain hg fun K' hK'=>?_;obtain⟨w3,hrun,h1,h2⟩:=hback;unfold Oper.wp;simp[execOp,hop,hm,hs,hv,hrun,Result.andThen];exact hK' _ _ (hK w3 h1 h2)
end
theorem aI{B:Nat}{w w':af}(hB:Below B w w'){n o:Nat}{v:Value}(hn:n<B)(h:w.cell? ⟨n,o,none⟩=some v):w'.cell? ⟨n,o,none⟩=some v:=(hB.cell (p:=⟨n,o,none⟩) hn).trans h
theorem aH{p:Prop}(h:p):Hid p:=h
theorem bu{w w':af}{base:Nat}{e:TypeId}{size:Nat}{v:Value}{n:Nat}{xs:Q03}(h:w.ownsRow base e size v n xs)(hb:ae w w'):w'.ownsRow base e size v n xs:=by
 have hl:=fun g hg=>(h.lt g hg).2;refine⟨h.1,?_⟩;rcases h.2 with h0|⟨g,cap,cur,rfl,h1,h2,h3⟩
 ·exact .inl h0
 exact .inr ⟨g,cap,cur,rfl,h1,(hb.block g (hl g rfl)).trans h2,h3⟩
end Go.Proofs.YtajkkeikihhejaaGreat
