/- What a right expression is, in plain words, in the document's way and in the program's way, and that both say the same. -/
import Derived.Test.YtajkkeikihhejaaGreatSq
import Derived.Test.YtajkkeikihhejaaGreatExprs
import Derived.Below
open Go.Proofs.Tryz
set_option maxHeartbeats 80000000
namespace Go.Proofs.YtajkkeikihhejaaGreat
open Pl
def jR (x y:Al):Bool:=x.t.toList==y.t.toList&&x.s.toList==y.s.toList
def Fq (a:Al):Bool:=aR a.t&&uu a.s
def dH (xs:List Al)(k:Nat)(a:Al):Bool:=(xs.take k).any fun x=>jR x a
theorem sQ (xs:List Al)(k:Nat)(a:Al)(h:k<xs.length):dH xs (k+1) a=(dH xs k a || jR xs[k] a):=by
 unfold dH;rw [Uh h,List.any_append];simp
theorem sS (xs:List Al)(a:Al):dH xs 0 a=false:=by simp [dH]
def DU (xs:List Al):Nat->Bool
 | 0=>true
 | k+1=>DU xs k&&(xs[k]?.map fun a=>Fq a && !dH xs k a).getD true
theorem yU (xs:List Al)(k:Nat)(h:k<xs.length):DU xs (k+1)=(DU xs k&&(Fq xs[k] && !dH xs k xs[k])):=by
 simp [DU,h]
theorem oN (xs:List Al)(k:Nat)(h:k<xs.length)(hb:(Fq xs[k] && !dH xs k xs[k])=false):∀ n,k<n->DU xs n=false
 | 0,hn=>by omega
 | n+1,hn=>by
  by_cases e:n=k
  ·subst e;rw [yU _ _ h,hb];simp
  simp [DU,oN xs k h hb n (by omega)]
def ed (xs:List Al):Bool:=decide (1<=xs.length)&&decide (xs.length<=6)&&DU xs xs.length
def av (e:Ex):Bool :=
 if e.kind=1 then ed e.allow&&e.over.toList.isEmpty&&e.name.toList.isEmpty&&decide (e.kids.length=0)
 else if e.kind=2 then aR e.name&&decide (e.allow.length=0)&&e.over.toList.isEmpty&&decide (e.kids.length=0)
 else if e.kind=3 then aR e.over&&aR e.name&&decide (e.allow.length=0)&&decide (e.kids.length=0)
 else if e.kind=4\/e.kind=5 then decide (2<=e.kids.length)&&decide (e.kids.length<=5)&&decide (e.allow.length=0)&&e.over.toList.isEmpty&&e.name.toList.isEmpty
 else if e.kind=6 then decide (e.kids.length=2)&&decide (e.allow.length=0)&&e.over.toList.isEmpty&&e.name.toList.isEmpty
 else false
def cO (f:Int->Int):List Int->Int->Int
 | [],at'=>at'+1
 | k::ks,at'=>if at'<0\/k≠at' then -1 else if f at'<0 then -1 else cO f ks (f at'-1)
def dx (es:List Ex)(n:Nat):List Int:=(es[n]?.map Ex.kids).getD []
def az (es:List Ex)(n:Nat):Int:=cO (fun x=>if _h:0<=x/\x.toNat<n then az es x.toNat else -1) (dx es n).reverse ((n:Int)-1)
def dB (es:List Ex)(n:Nat)(x:Int):Int:=if 0<=x/\x.toNat<n then az es x.toNat else -1
theorem iD (es:List Ex)(n:Nat):az es n=cO (dB es n) (dx es n).reverse ((n:Int)-1):=by
 rw [az];rfl
theorem Ch {f:Int->Int}(hf:∀ x,0<=x->f x<=x):∀ (ks:List Int) (a:Int),-1<=a->cO f ks a<=a+1
 | [],a,_=>by simp [cO]
 | k::ks,a,ha=>by
  unfold cO;split
  ·omega
  rename_i h;split
  ·omega
  rename_i h2;have h0:0<=a:=by omega
  have:=Ch hf ks (f a-1) (by omega);have:=hf a h0;omega
theorem iE (es:List Ex)(n:Nat):az es n<=n:=by
 induction n using Nat.strongRecOn with
 | ind n ih =>
  rw [iD];have:=Ch (f:=dB es n) (fun x hx=>by
   unfold dB;split
   ·rename_i h;have:=ih x.toNat h.2;omega
   omega) (dx es n).reverse ((n:Int)-1) (by omega)
  omega
theorem Nq (es:List Ex)(n:Nat)(x:Int)(hx:0<=x):dB es n x<=x:=by
 unfold dB;split
 ·have:=iE es x.toNat;omega
 omega
theorem sj {es:List Ex}{n:Nat}(ih:∀ m,m<n->0<=az es m->∀ j:Nat,az es m<=j->j<=m->0<=az es j) :
  ∀ (ks:List Int) (a:Int),a<n->0<=cO (dB es n) ks a->∀ j:Nat,cO (dB es n) ks a<=j->(j:Int)<=a->0<=az es j
 | [],a,ha,h,j,h1,h2=>by simp [cO]at h1;omega
 | k::ks,a,ha,h,j,h1,h2=>by
  unfold cO at h h1;split at h
  ·omega
  rename_i c;rw [if_neg c]at h1;split at h
  ·omega
  rename_i c2;rw [if_neg c2]at h1;have h0:0<=a:=by omega
  have hF:dB es n a=az es a.toNat:=by unfold dB;rw [if_pos ⟨h0,by omega⟩]
  rw [hF]at h h1 c2;by_cases hj:az es a.toNat<=j
  ·exact ih a.toNat (by omega) (by omega) j hj (by omega)
  exact sj ih ks (az es a.toNat-1) (by have:=iE es a.toNat;omega) h j h1 (by omega)
theorem nD (es:List Ex)(n:Nat):0<=az es n->∀ j:Nat,az es n<=j->j<=n->0<=az es j:=by
 induction n using Nat.strongRecOn with
 | ind n ih =>
  intro h j h1 h2;by_cases e:j=n
  ·subst e;exact h
  rw [iD]at h h1;exact sj ih _ _ (by omega) h j h1 (by omega)
def kI (es:List Ex)(i:Nat):Bool:=(dx es i).all fun k=>decide (0<=k)&&decide (k<=(i:Int)-1)
theorem xC {es:List Ex}{n:Nat}:∀ (ks:List Int) (a:Int),a<n->0<=cO (dB es n) ks a->∀ k∈ks,0<=k/\k<=a
 | [],_,_,_,k,hk=>by cases hk
 | x::ks,a,ha,h,k,hk=>by
  unfold cO at h;split at h
  ·omega
  rename_i c;split at h
  ·omega
  rename_i c2;have h0:0<=a:=by omega
  rcases List.mem_cons.1 hk with rfl|hk
  ·omega
  have hl:=Nq es n a h0;have:=xC ks (dB es n a-1) (by omega) h k hk;omega
theorem KP (es:List Ex)(i:Nat)(h:0<=az es i):kI es i=true:=by
 unfold kI;rw [Un];intro k hk;rw [iD]at h;have:=xC _ _ (by omega) h k (by simpa using hk);simp;omega
def Nr (es:List Ex)(n:Nat):Prop:=∀ j,j<n->0<=az es j
def own (es:List Ex):Nat:=(es.filter fun e=>decide (e.kind=1)).length
def gF (es:List Ex)(k:Nat):Nat:=own (es.take k)
theorem yV (es:List Ex)(k:Nat)(h:k<es.length):gF es (k+1)=gF es k+(if es[k].kind=1 then 1 else 0):=by
 unfold gF own;rw [Uh h,UL,Ul];by_cases e:es[k].kind=1 <;> simp [e]
theorem uw (es:List Ex)(k:Nat):gF es k<=k:=by
 unfold gF own;exact Uk (List.length_filter_le ..) (by simp;omega)
def jv (es:List Ex)(k:Nat):Bool:=(es.take k).all av
theorem uy (es:List Ex)(k:Nat)(h:k<es.length):jv es (k+1)=(jv es k&&av es[k]):=by
 unfold jv;rw [Uh h,List.all_append];simp
theorem Ci (es:List Ex)(k:Nat)(h:k<es.length)(hb:av es[k]=false):es.all av=false:=by
 rw [Bool.eq_false_iff];intro h2;rw [Un]at h2;have:=h2 es[k] (Ud h);rw [hb]at this;cases this
def ja (es:List Ex)(k:Nat):Bool:=(List.range k).all (kI es)
theorem Fs (es:List Ex)(k:Nat):ja es (k+1)=(ja es k&&kI es k):=by simp [ja,List.range_succ]
theorem Ns (es:List Ex)(k:Nat)(h:k<es.length)(hb:kI es k=false):ja es es.length=false:=by
 rw [Bool.eq_false_iff];intro h2;unfold ja at h2;rw [Un]at h2;have:=h2 k (by simpa using h);rw [hb]at this;cases this
def aK (es:List Ex):Bool:=decide (1<=es.length)&&decide (es.length<=15)&&es.all av&&ja es es.length&&decide (own es<=1)&&decide (az es (es.length-1)=0)
def jw (es:List Ex):Bool:=(List.range es.length).all fun j=>decide (0<=az es j)
def kM (es:List Ex):Bool:=decide (1<=es.length)&&decide (es.length<=15)&&es.all av&&decide (own es<=1)&&(jw es&&decide (az es (es.length-1)=0))
theorem wB (es:List Ex):aK es=kM es:=by
 by_cases h1:1<=es.length
 ·by_cases ht:az es (es.length-1)=0
  ·have ha:jw es=true:=by
    unfold jw;rw [Un];intro j hj;have hj':j<es.length:=by simpa using hj
    simpa using nD es (es.length-1) (by omega) j (by omega) (by omega)
   have hk:ja es es.length=true:=by
    unfold ja;rw [Un];intro j hj;have hj':j<es.length:=by simpa using hj
    exact KP es j (nD es (es.length-1) (by omega) j (by omega) (by omega))
   simp [aK,kM,ht,ha,hk,h1]
  simp [aK,kM,ht]
 simp [aK,kM,h1]
open Go.ChangeAt Go.ChangeShapes Go.RowKit Go.WideShapes
theorem uz (c:UInt8)(w:af) :
  Calls prog 229 #[.int .u8 c.toNat] w fun e w'=>e=.returned (.bool (yF c))/\w'=w:=by
 by_cases hl:eH c=true
 ·go_enter func229,ntmps229;go_wp2_with (go_at_call 210;refine (kV _ _).mono ?_;rintro e w' ⟨rfl,rfl⟩);go_ret;exact ⟨ah (by simp [yF,hl]),rfl⟩
 have hf:eH c=false:=by simpa using hl
 clear hl;go_enter func229,ntmps229;go_wp2_with (go_at_call 210;refine (kV _ _).mono ?_;rintro e w' ⟨rfl,rfl⟩)
 all_goals go_ret
 all_goals refine ⟨ah ?_,rfl⟩
 all_goals (rw [Bool.eq_iff_iff];simp [yF,hf];omega)
theorem H6 (s:bI)(w:af)(hs:s.size<=maxLen) :
  Calls prog 168 #[.string s] w fun e w'=>e=.returned (.bool (pR s))/\w'=w:=by
 unfold maxLen at hs;by_cases h1:1<=s.size/\s.size<=12
 ·obtain ⟨ha,hb⟩:=h1;go_enter func168,ntmps168;go_wp2
  go_loop [3] (fun i=>∃ k:Nat,k<=s.size/\i=.int .i64 k/\Hid (Hz yF s k=true)) (fun i=>s.size-(intOf i).toNat)
  case atStart=>exact ⟨0,Ui _,rfl,uq _ _⟩
  obtain ⟨k,hk,rfl,hu⟩:=hrel;by_cases hlt:k<s.size
  ·by_cases hc:yF s[k]=true
   ·have hd:(97<=s[k].toNat/\s[k].toNat<=122)\/(48<=s[k].toNat/\s[k].toNat<=57)\/s[k].toNat=95:=by simp [yF,eH]at hc;omega
    have HU:Hid (Hz yF s (k+1)=true):=by show _=_;rw [ut _ _ _ hlt,hc,hu.out];rfl
    clear hc;rcases hd with ⟨hd1,hd2⟩|⟨hd1,hd2⟩|hd1
    all_goals
     go_wp2;go_round;case rel=>exact ⟨k+1,by omega,by go_num,HU⟩
     simp [intOf];omega
   have hc':yF s[k]=false:=by simpa using hc
   have HB:Hid (rW yF s=false):=yI _ _ _ hlt hc';have hd:s[k].toNat<48\/(57<s[k].toNat/\s[k].toNat<95)\/(95<s[k].toNat/\s[k].toNat<97)\/122<s[k].toNat:=by simp [yF,eH]at hc';omega
   clear hc hc';rcases hd with hd|⟨hd,hd2⟩|⟨hd,hd2⟩|hd
   all_goals
    have h95:((s[k].toNat:Int) != 95)=true:=by simp;omega
    go_wp2;go_ret;exact ⟨ah (by simp [pR,dN,HB.out]),rfl⟩
  go_wp2;go_ret;refine ⟨ah ?_,rfl⟩;have hall:rW yF s=true:=by rw [<-yH yF s k (by omega)];exact hu.out
  have hl:nI s=true:=by simp [nI];omega
  simp [pR,dN,hall,hl]
 have hn:nI s=false:=by simp [nI];omega
 have HN:Hid (pR s=false):=by show _=_;simp [pR,dN,hn]
 clear hn;by_cases ha:1<=s.size
 ·have hb:12<s.size:=by omega
  clear h1;go_enter func168,ntmps168;go_wp2;go_ret;exact ⟨ah HN.out.symm,rfl⟩
 have ha':s.size<1:=by omega
 clear h1;go_enter func168,ntmps168;go_wp2;go_ret;exact ⟨ah HN.out.symm,rfl⟩
theorem yX (s:bI)(w:af)(hs:s.size<=maxLen) :
  Calls prog 209 #[.string s,.func (Fn.func 229) #[] #[]] w fun e w'=>e=.returned (.bool (dN yF s))/\w'=w:=by
 unfold maxLen at hs;by_cases h1:1<=s.size/\s.size<=12
 ·obtain ⟨ha,hb⟩:=h1;go_enter func209,ntmps209;go_wp2
  go_loop [16] (fun i=>∃ k:Nat,k<=s.size/\i=.int .i64 k/\Hid (Hz yF s k=true)) (fun i=>s.size-(intOf i).toNat)
  case atStart=>exact ⟨0,Ui _,rfl,uq _ _⟩
  obtain ⟨k,hk,rfl,hu⟩:=hrel;by_cases hlt:k<s.size
  ·by_cases hc:yF s[k]=true
   ·have HU:Hid (Hz yF s (k+1)=true):=by show _=_;rw [ut _ _ _ hlt,hc,hu.out];rfl
    go_wp2_with (go_at_call 229;refine (uz _ _).mono ?_;rintro e w' ⟨rfl,rfl⟩);go_round;case rel=>exact ⟨k+1,by omega,by go_num,HU⟩
    simp [intOf];omega
   have hc':yF s[k]=false:=by simpa using hc
   have HB:Hid (rW yF s=false):=yI _ _ _ hlt hc';clear hc;go_wp2_with (go_at_call 229;refine (uz _ _).mono ?_;rintro e w' ⟨rfl,rfl⟩);go_ret;exact ⟨ah (by simp [dN,HB.out]),rfl⟩
  go_wp2;go_ret;refine ⟨ah ?_,rfl⟩;have hall:rW yF s=true:=by rw [<-yH yF s k (by omega)];exact hu.out
  have hl:nI s=true:=by simp [nI];omega
  simp [dN,hall,hl]
 have hn:nI s=false:=by simp [nI];omega
 have HN:Hid (dN yF s=false):=by show _=_;simp [dN,hn]
 clear hn;by_cases ha:1<=s.size
 ·have hb:12<s.size:=by omega
  clear h1;go_enter func209,ntmps209;go_wp2;go_ret;exact ⟨ah HN.out.symm,rfl⟩
 have ha':s.size<1:=by omega
 clear h1;go_enter func209,ntmps209;go_wp2;go_ret;exact ⟨ah HN.out.symm,rfl⟩
theorem yY (s:bI)(w:af)(hs:s.size<=maxLen) :
  Calls prog 208 #[.string s] w fun e w'=>e=.returned (.bool (pR s))/\w'=w:=by
 go_enter func208,ntmps208;go_wp2_with (go_at_call 209;refine (yX _ _ hs).mono ?_;rintro e w' ⟨rfl,rfl⟩);go_ret;exact ⟨rfl,rfl⟩
theorem jN {W w1:af}(hb:ag W w1):(∀ b o,b<W.heap.size->w1.cell? ⟨b,o,none⟩=W.cell? ⟨b,o,none⟩)/\(∀ b o,b<W.heap.size->w1.frozen? ⟨b,o,none⟩=W.frozen? ⟨b,o,none⟩) :=
 ⟨fun b o h=>hb.cell (p:=⟨b,o,none⟩) h,fun b o h=>hb.frozen (p:=⟨b,o,none⟩) h⟩
theorem fV (t i:bI)(w:af)(ht:t.size<=maxLen)(hi:i.size<=maxLen) :
  Calls prog 110 #[.agg #[.string t,.string i]] w fun e w'=>e=.returned (.bool (eT t i))/\ag w w':=by
 by_cases hn:aR t=true
 all_goals
  go_enter func110,ntmps110;go_wp2_with (first|(go_at_call 111;refine (aT _ _ ht).mono ?_;rintro e w' ⟨rfl,rfl⟩)|(go_at_call 168;refine (H6 _ _ hi).mono ?_;rintro e w' ⟨rfl,rfl⟩));go_ret;exact ⟨ah (by simp [eT,hn]),(Uf _ _).alloc (Ue _) _⟩
theorem fZ (t i:bI)(w:af)(ht:t.size<=maxLen)(hi:i.size<=maxLen) :
  Calls prog 161 #[.agg #[.string t,.string i]] w fun e w'=>e=.returned (.bool (eT t i))/\ag w w':=by
 by_cases hn:aR t=true
 all_goals
  go_enter func161,ntmps161;go_wp2_with (first|(go_at_call 162;refine (aM _ _ ht).mono ?_;rintro e w' ⟨rfl,rfl⟩)|(go_at_call 208;refine (yY _ _ hi).mono ?_;rintro e w' ⟨rfl,rfl⟩));go_ret;exact ⟨ah (by simp [eT,hn]),(Uf _ _).alloc (Ue _) _⟩
end Go.Proofs.YtajkkeikihhejaaGreat
