/- Contracts of the document's functions that look at an expression. -/
import Derived.Test.YtajkkeikihhejaaGreatSq
import Derived.Test.YtajkkeikihhejaaGreatJ4
import Derived.Test.YtajkkeikihhejaaGreatJ3
open Go.Proofs.Tryz
set_option maxHeartbeats 80000000
namespace Go.Proofs.YtajkkeikihhejaaGreat
open Go.ChangeShapes Go.WideShapes Go.ChangeAt Go.RowKit
open Pl
theorem Oc (n lo hi:Int)(w:af) :
  Calls prog 190 #[.int .i64 n,.int .i64 lo,.int .i64 hi] w fun e w'=>e=.returned (.bool (decide (lo<=n)&&decide (n<=hi)))/\w'=w:=by
 go_enter func190,ntmps190;go_wp2
 all_goals go_ret
 all_goals exact ⟨ah (by simp [*] <;> omega),rfl⟩
set_option maxRecDepth 8000 in
theorem l6 (r:ER)(w:af)(hf:r.e.fits)(h1:r.e.kind≠1) :
  Calls prog 189 #[r.val] w fun e w'=>e=.returned (.bool (av r.e))/\ag w w':=by
 obtain ⟨⟨kind,allow,over,name,kids⟩,adA,capA,adK,capK⟩:=r;obtain ⟨f1,f2,f3,f4,f5⟩:=hf;simp only at f1 f2 f3 f4 f5 h1;simp only [ER.val];unfold maxLen at f4 f5;by_cases h2:kind=2
 ·subst h2;clear h1;go_enter func189,ntmps189;go_wp2_with (go_at_call 111;refine (aT _ _ (by assumption)).mono ?_;rintro e w' ⟨rfl,rfl⟩)
  all_goals go_ret
  all_goals exact ⟨ah (by first|(simp [av, *];done)|(simp [av, *];omega)|(simp [av, *];rw [Bool.eq_iff_iff];simp;done)|(simp [av, *];rw [Bool.eq_iff_iff];simp;omega)),(Uf w.heap.size w).alloc (Ue _) _⟩
 by_cases h3:kind=3
 ·subst h3;clear h1;go_enter func189,ntmps189;go_wp2_with (go_at_call 111;refine (aT _ _ (by assumption)).mono ?_;rintro e w' ⟨rfl,rfl⟩)
  all_goals go_ret
  all_goals exact ⟨ah (by first|(simp [av, *];done)|(simp [av, *];omega)|(simp [av, *];rw [Bool.eq_iff_iff];simp;done)|(simp [av, *];rw [Bool.eq_iff_iff];simp;omega)),(Uf w.heap.size w).alloc (Ue _) _⟩
 by_cases h4:kind=4
 ·subst h4;clear h1;go_enter func189,ntmps189;go_wp2_with (go_at_call 111;refine (aT _ _ (by assumption)).mono ?_;rintro e w' ⟨rfl,rfl⟩)
  all_goals go_ret
  all_goals exact ⟨ah (by first|(simp [av, *];done)|(simp [av, *];omega)|(simp [av, *];rw [Bool.eq_iff_iff];simp;done)|(simp [av, *];rw [Bool.eq_iff_iff];simp;omega)),(Uf w.heap.size w).alloc (Ue _) _⟩
 by_cases h5:kind=5
 ·subst h5;clear h1;go_enter func189,ntmps189;go_wp2_with (go_at_call 111;refine (aT _ _ (by assumption)).mono ?_;rintro e w' ⟨rfl,rfl⟩)
  all_goals go_ret
  all_goals exact ⟨ah (by first|(simp [av, *];done)|(simp [av, *];omega)|(simp [av, *];rw [Bool.eq_iff_iff];simp;done)|(simp [av, *];rw [Bool.eq_iff_iff];simp;omega)),(Uf w.heap.size w).alloc (Ue _) _⟩
 by_cases h6:kind=6
 ·subst h6;clear h1;go_enter func189,ntmps189;go_wp2_with (go_at_call 111;refine (aT _ _ (by assumption)).mono ?_;rintro e w' ⟨rfl,rfl⟩)
  all_goals go_ret
  all_goals exact ⟨ah (by first|(simp [av, *];done)|(simp [av, *];omega)|(simp [av, *];rw [Bool.eq_iff_iff];simp;done)|(simp [av, *];rw [Bool.eq_iff_iff];simp;omega)),(Uf w.heap.size w).alloc (Ue _) _⟩
 go_enter func189,ntmps189;go_wp2_with (go_at_call 111;refine (aT _ _ (by assumption)).mono ?_;rintro e w' ⟨rfl,rfl⟩)
 all_goals go_ret
 all_goals exact ⟨ah (by first|(simp [av, *];done)|(simp [av, *];omega)|(simp [av, *];rw [Bool.eq_iff_iff];simp;done)|(simp [av, *];rw [Bool.eq_iff_iff];simp;omega)),(Uf w.heap.size w).alloc (Ue _) _⟩
theorem Ed (x y:Al){v:Bool}(h:jR x y=v)(w:af) :
  (binOp .eql 43 (.agg #[.string x.t,.string x.s]) (.agg #[.string y.t,.string y.s])).run prog w=.ok (.bool v) w:=by
 subst h;go_simp;unfold jR;by_cases h1:x.t.toList=y.t.toList <;> by_cases h2:x.s.toList=y.s.toList <;> simp [h1,h2]
theorem Cx {xs:List Al}{j k:Nat}{a:Al}(hjk:j<k)(hj:j<xs.length)(h:jR xs[j] a=true):dH xs k a=true:=by
 unfold dH;rw [UA];refine ⟨xs[j],?_,h⟩;rw [List.mem_take_iff_getElem];exact ⟨j,by omega,rfl⟩
set_option maxRecDepth 8000 in
theorem BD (r:ER)(w:af)(hf:r.e.fits)(hok:r.ok w)(h1:r.e.kind=1) :
  Calls prog 189 #[r.val] w fun e w'=>e=.returned (.bool (av r.e))/\ag w w':=by
 obtain ⟨⟨kind,allow,over,name,kids⟩,adA,capA,adK,capK⟩:=r;obtain ⟨f1,f2,f3,f4,f5⟩:=hf;obtain ⟨hA,hK⟩:=hok;simp only at f1 f2 f3 f4 f5 h1 hA hK;subst h1;simp only [ER.val];unfold maxLen at f4 f5;by_cases hl:1<=allow.length/\allow.length<=6
 ·obtain ⟨hl1,hl2⟩:=hl;obtain ⟨W,hW⟩:∃ W,W=w.alloc (.cells #[.int .i64 1,.slice adA allow.length capA,.string over,.string name,.slice adK kids.length capK] 39):=⟨_,rfl⟩;have HB0:Hid (ag w W):=by show Below _ _ _;rw [hW];exact (Uf w.heap.size w).alloc (Ue _) _
  have hz:w.heap.size<W.heap.size:=by rw [hW];simp
  have b1:W.cell? ⟨w.heap.size,1,none⟩=some (.slice adA allow.length capA):=by rw [hW];simp
  have b2:W.cell? ⟨w.heap.size,2,none⟩=some (.string over):=by rw [hW];simp
  have b3:W.cell? ⟨w.heap.size,3,none⟩=some (.string name):=by rw [hW];simp
  have HA:=aA (hA.below HB0.out);have VJ:=aA f1;clear hA hK f1;go_enter func189,ntmps189;go_wp2_with fail;rw [<-hW];clear hW;go_loopw [4] (fun i wr=>∃ k:Nat,k<=allow.length/\i=.int .i64 k/\Hid (DU allow k=true)/\ag W wr) (fun i _=>allow.length-(intOf i).toNat);case atStart=>exact ⟨0,Ui _,rfl,rfl,Uf _ _⟩
  obtain ⟨k,hk,rfl,HU,hB⟩:=hrel;have a1:=kept hB hz b1;have a2:=kept hB hz b2;have a3:=kept hB hz b3;by_cases hlt:k<allow.length
  ·rcases HA.out.below hB with rfl|⟨b,off,rfl,hb,hr⟩
   ·simp at hlt
   obtain ⟨t0,t1⟩:=hr k hlt;obtain ⟨z0,z1⟩:=VJ.out allow[k] (Ud hlt);have HR:Hid (∀ (i:Nat) (h:i<allow.length),R8 wr b (off+i*2) allow[i]):=hr;clear hr;obtain ⟨W1,hW1⟩:∃ W1,W1=wr.alloc (.cells #[.string allow[k].t,.string allow[k].s] 43):=⟨_,rfl⟩;have hal:ag wr W1:=by rw [hW1];exact (Uf _ _).alloc (Ue _) _
   have hBW1:Below W.heap.size wr W1:=hal.mono hB.size;have hsz:w.heap.size<wr.heap.size:=Uc hz hB.size;have hWs:W.heap.size<=W1.heap.size:=Uk hB.size hal.size;have c1:=kept hal hsz a1;have c2:=kept hal hsz a2;have c3:=kept hal hsz a3;have hbl:b<W1.heap.size:=Uc hb hal.size;have hgl:wr.heap.size<W1.heap.size:=by rw [hW1];simp
   have g0:W1.cell? ⟨wr.heap.size,0,none⟩=some (.string allow[k].t):=by rw [hW1];simp
   have g1:W1.cell? ⟨wr.heap.size,1,none⟩=some (.string allow[k].s):=by rw [hW1];simp
   have HR1:Hid (∀ (i:Nat) (h:i<allow.length),R8 W1 b (off+i*2) allow[i]):=fun i hi=>(HR.out i hi).same fun o=>hal.cell (p:=⟨b,o,none⟩) hb;cases hn:aR allow[k].t;case false=>
    have HN:Hid (DU allow allow.length=false):=oN allow k hlt (by simp [Fq,hn]) _ hlt;go_wp2_with (go_at_call 111;refine (aT _ _ (by assumption)).mono ?_;rintro e w' ⟨rfl,rfl⟩);go_ret;exact ⟨ah (by simp [av,ed,HN.out]),HB0.out.trans ((hB.trans ((Uf _ _).alloc hB.size _)).mono HB0.out.size)⟩
   cases he:allow[k].s.toList.isEmpty
   case' true =>
    have HAl:Hid (Fq allow[k]=true):=by show _=_;simp [Fq,uu,hn,he]
    go_wp2_with (go_at_call 111;refine (aT _ _ (by assumption)).mono ?_;rintro e w' ⟨rfl,rfl⟩);rw [<-hW1]
   case' false =>
    cases hm:aR allow[k].s;case false =>
     have HN:Hid (DU allow allow.length=false):=oN allow k hlt (by simp [Fq,hn,uu,he,hm]) _ hlt;go_wp2_with (go_at_call 111;refine (aT _ _ (by assumption)).mono ?_;rintro e w' ⟨rfl,rfl⟩);go_ret;exact ⟨ah (by simp [av,ed,HN.out]),HB0.out.trans ((hB.trans ((Uf _ _).alloc hB.size _)).mono HB0.out.size)⟩
    have HAl:Hid (Fq allow[k]=true):=by show _=_;simp [Fq,uu,hn,he,hm]
    go_wp2_with (go_at_call 111;refine (aT _ _ (by assumption)).mono ?_;rintro e w' ⟨rfl,rfl⟩);rw [<-hW1]
   all_goals
    go_loopw [6] (fun i w2=>∃ j:Nat,j<=k/\i=.int .i64 j/\Hid (dH allow j allow[k]=false)/\ag W1 w2) (fun i _=>k-(intOf i).toNat);case atStart=>exact ⟨0,Ui _,rfl,sS _ _,Uf _ _⟩
    obtain ⟨j,hj,rfl,HP,hB2⟩:=hrel;rename_i w2 _;have d1:=kept hB2 (by omega) c1;have d2:=kept hB2 (by omega) c2;have d3:=kept hB2 (by omega) c3;have p0:=kept hB2 hgl g0;have p1:=kept hB2 hgl g1;by_cases hjk:j<k
    ·obtain ⟨q0,q1⟩:=(HR1.out j (by omega)).same fun o=>hB2.cell (p:=⟨b,o,none⟩) hbl;have hj1:=bF j;have hj2:(j:Int)<(allow.length:Int):=by omega
     cases hq:jR allow[j] allow[k];case true=>
      have HE:=Ed allow[j] allow[k] hq;have HN:Hid (DU allow allow.length=false):=oN allow k hlt (by rw [(Cx hjk (by omega) hq)];simp) _ hlt;go_wp2_with fail;go_quiet (fail);go_wp2;go_ret;exact ⟨ah (by simp [av,ed,HN.out]),HB0.out.trans ((hB.trans (hBW1.trans (hB2.mono (by omega)))).mono HB0.out.size |> fun h=>below_drewN h _)⟩
     have HE:=Ed allow[j] allow[k] hq;have UW:Hid (dH allow (j+1) allow[k]=false):=by show _=_;rw [sQ _ _ _ (by omega),HP.out,hq];rfl
     go_wp2_with fail;go_quiet (fail);go_wp2;go_roundw;case rel=>exact ⟨j+1,by omega,by go_num,UW,below_drewN hB2 _⟩
     simp [intOf];omega
    obtain rfl:j=k:=by omega
    have YO:Hid (DU allow (j+1)=true):=by show _=_;rw [yU _ _ hlt,HU.out,HAl.out,HP.out];rfl
    go_wp2;go_roundw;case rel=>exact ⟨j+1,by omega,by go_num,YO,hB.trans (hBW1.trans (hB2.mono (by omega)))⟩
    simp [intOf];omega
  obtain rfl:k=allow.length:=by omega
  have ZX:Hid (ed allow=true):=by show _=_;simp [ed,hl1,hl2,HU.out]
  go_wp2
  all_goals go_ret
  all_goals exact ⟨ah (by first|(simp [av,ZX.out, *];done)|(simp [av,ZX.out, *];rw [Bool.eq_iff_iff];simp;done)),HB0.out.trans (hB.mono HB0.out.size)⟩
 go_enter func189,ntmps189;go_wp2_with fail
 all_goals go_ret
 all_goals exact ⟨ah (by simp [av,ed];omega),(Uf w.heap.size w).alloc (Ue _) _⟩
theorem Ee (r:ER)(w:af)(hf:r.e.fits)(hok:r.ok w) :
  Calls prog 189 #[r.val] w fun e w'=>e=.returned (.bool (av r.e))/\ag w w':=by
 by_cases h:r.e.kind=1
 ·exact BD r w hf hok h
 exact l6 r w hf h
theorem oW (rs:List ER)(n:Nat)(h:n<rs.length):dx (aj rs) n=rs[n].e.kids:=by simp [dx,aj,h]
theorem Il (b off cap:Nat)(rs:List ER)(hlen:rs.length<=1048576)(hl:∀ r∈rs,r.e.light)(n:Nat):∀ (w:af),n<rs.length->b<w.heap.size->(∀ (i:Nat) (h:i<rs.length),ym w b (off+i*5) rs[i])->(∀ r∈rs,r.ok w) ->
  Calls prog 191 #[.slice (some ⟨b,off,none⟩) rs.length cap,.int .i64 (n:Int)] w fun e w'=>e=.returned (.int .i64 (az (aj rs) n))/\ag w w':=by
 induction n using Nat.strongRecOn with
 | ind n ih =>
  intro w hn hb hr hok
  have IH:Hid (∀ m,m<n->∀ (w:World),m<rs.length->b<w.heap.size->(∀ (i:Nat) (h:i<rs.length),ym w b (off+i*5) rs[i])->(∀ r∈rs,r.ok w) ->
   Calls prog 191 #[.slice (some ⟨b,off,none⟩) rs.length cap,.int .i64 (m:Int)] w fun e w'=>e=.returned (.int .i64 (az (aj rs) m))/\ag w w'):=ih
  have HR:Hid (∀ (i:Nat) (h:i<rs.length),ym w b (off+i*5) rs[i]):=hr;have HO:=aA hok;obtain ⟨t0,t1,t2,t3,t4⟩:=hr n hn;obtain ⟨l1,l2⟩:=hl rs[n] (Ud hn);have hn1:=bF n;have hn2:(n:Int)<(rs.length:Int):=by omega
  have HT:Hid (az (aj rs) n=cO (dB (aj rs) n) rs[n].e.kids.reverse ((n:Int)-1)):=by show _=_;rw [iD,oW rs n hn]
  have HL:=aA hl;clear ih hr hok hl l1;go_enter func191,ntmps191;go_wp2_with fail;go_loopw [5,6] (fun a i wr=>∃ (j:Nat) (x:Int),j<=rs[n].e.kids.length/\i=.int .i64 ((j:Int)-1)/\a=.int .i64 x∧-1<=x/\x<n/\Hid (cO (dB (aj rs) n) (rs[n].e.kids.take j).reverse x=az (aj rs) n)/\ag w wr) (fun _ i _=>(intOf i+1).toNat);case atStart=>exact ⟨rs[n].e.kids.length,(n:Int)-1,Ue _,rfl,rfl,by omega,by omega,(by show _=_;rw [Us];exact HT.out.symm),Uf _ _⟩
  obtain ⟨j,x,hj,rfl,rfl,hx0,hx1,HG,hB⟩:=hrel;have s4:=kept hB hb t4;by_cases hj0:0<j
  ·obtain ⟨j,rfl⟩:∃ i,j=i+1:=⟨j-1,by omega⟩;have hjl:j<rs[n].e.kids.length:=by omega
   rcases (HO.out rs[n] (Ud hn)).2.below hB with hnil|⟨bk,offk,XJ,hbk,YP⟩
   ·rw [hnil]at hjl;simp at hjl
   rw [XJ]at s4;have k0:=YP j hjl;clear YP;have hji:((j+1:Nat):Int)-1=(j:Int):=by omega
   have hj1:=bF j;have hj2:(j:Int)<(rs[n].e.kids.length:Int):=by omega
   have HG2:Hid ((if x<0\/rs[n].e.kids[j]≠x then -1 else if dB (aj rs) n x<0 then -1 else cO (dB (aj rs) n) (rs[n].e.kids.take j).reverse (dB (aj rs) n x-1))=az (aj rs) n):=by
    have:=HG.out;rw [Uh hjl,List.reverse_append]at this;exact this
   rw [hji];clear HG XJ t0 t1 t2 t3 t4;by_cases hxn:x<0
   ·have HT1:Hid (az (aj rs) n=-1):=by show _=_;rw [<-HG2.out,if_pos (Or.inl hxn)]
    go_wp2;go_ret;exact ⟨by rw [HT1.out];rfl,hB⟩
   by_cases hkx:rs[n].e.kids[j]=x
   ·obtain ⟨m,rfl⟩:∃ m:Nat,x=(m:Int):=⟨x.toNat,by omega⟩;have hF:dB (aj rs) n (m:Int)=az (aj rs) m:=by unfold dB;rw [if_pos ⟨by omega,by simp;omega⟩];simp
    have HF:Hid (dB (aj rs) n (m:Int)=az (aj rs) m):=hF;have hle:=iE (aj rs) m;clear hF;go_wp2_with fail;refine (IH.out m (by omega) _ (by omega) (Uc hb hB.size) (fun i hi=>(HR.out i hi).same fun o=>hB.cell (p:=⟨b,o,none⟩) hb) (fun r hr=>(HO.out r hr).below hB)).mono ?_;rintro e w1 ⟨rfl,hb1⟩;have hB1:ag w w1:=hB.trans (hb1.mono hB.size);clear hb1;by_cases hneg:az (aj rs) m<0
    ·have HT1:Hid (az (aj rs) n=-1):=by show _=_;rw [<-HG2.out,if_neg (by omega),HF.out,if_pos hneg]
     go_wp2;go_ret;exact ⟨by rw [HT1.out];rfl,hB1⟩
    have XK:Hid (cO (dB (aj rs) n) (rs[n].e.kids.take j).reverse (az (aj rs) m-1)=az (aj rs) n):=by
     show _=_;rw [<-HG2.out,if_neg (by omega),HF.out,if_neg hneg]
    go_wp2;go_roundw;case rel=>exact ⟨j,az (aj rs) m-1,by omega,by go_num,rfl,by omega,by omega,XK,hB1⟩
    simp [intOf] <;> omega
   have HT1:Hid (az (aj rs) n=-1):=by show _=_;rw [<-HG2.out,if_pos (Or.inr hkx)]
   go_wp2;go_ret;exact ⟨by rw [HT1.out];rfl,hB⟩
  obtain rfl:j=0:=by omega
  have HT1:Hid (az (aj rs) n=x+1):=by show _=_;have:=HG.out;simp [cO]at this;exact this.symm
  clear HG t0 t1 t2 t3 t4;go_wp2;go_ret;exact ⟨by rw [HT1.out];rfl,hB⟩
theorem ym.later {w w':af}{b off:Nat}{r:ER}(h:ym w b off r)(hb:b<w.heap.size)(hB:ag w w'):ym w' b off r:=h.same fun o=>hB.cell (p:=⟨b,o,none⟩) hb
theorem Cy {es:List Ex}(h:¬ (1<=es.length/\es.length<=15)):aK es=false:=by
 unfold aK;by_cases h1:1<=es.length
 ·have h2:¬ es.length<=15:=fun h2=>h ⟨h1,h2⟩;simp [h2]
 simp [h1]
theorem Im {es:List Ex}(k:Nat)(h:k<es.length)(hb:av es[k]=false):aK es=false:=by simp [aK,Ci es k h hb]
theorem Io {es:List Ex}(k:Nat)(h:k<es.length)(hb:kI es k=false):aK es=false:=by simp [aK,Ns es k h hb]
def oZ (zs:List Int)(i j:Nat):Bool:=(zs.take j).all fun k=>decide (0<=k)&&decide (k<=(i:Int)-1)
theorem Ef (zs:List Int)(i j:Nat)(h:j<zs.length):oZ zs i (j+1)=(oZ zs i j&&(decide (0<=zs[j])&&decide (zs[j]<=(i:Int)-1))):=by
 unfold oZ;rw [Uh h,List.all_append];simp
theorem FO (zs:List Int)(i j:Nat)(h:j<zs.length)(hb:(decide (0<=zs[j])&&decide (zs[j]<=(i:Int)-1))=false):(zs.all fun k=>decide (0<=k)&&decide (k<=(i:Int)-1))=false:=by
 rw [Bool.eq_false_iff];intro h2;rw [Un]at h2;have:=h2 zs[j] (Ud h);rw [hb]at this;cases this
set_option maxRecDepth 4000 in
theorem zD (b off cap:Nat)(rs:List ER)(w:af)(hlen:rs.length<=1048576)(hl:∀ r∈rs,r.e.light)(hf:∀ r∈rs,r.e.fits)(hb:b<w.heap.size)(hr:∀ (i:Nat) (h:i<rs.length),ym w b (off+i*5) rs[i])(hok:∀ r∈rs,r.ok w) :
  Calls prog 135 #[.slice (some ⟨b,off,none⟩) rs.length cap] w fun e w'=>e=.returned (.bool (aK (aj rs)))/\ag w w':=by
 have hel:=aN rs;have Wu:Hid ((aj rs).length=rs.length):=hel;have HL:=aA hl;have HF:=aA hf;have HR:Hid (∀ (i:Nat) (h:i<rs.length),ym w b (off+i*5) rs[i]):=hr;have HO:=aA hok;clear hel hl hf hr hok;by_cases hn:1<=rs.length/\rs.length<=15
 ·obtain ⟨hn1,hn2⟩:=hn;go_enter func135,ntmps135;go_wp2_with fail;go_loopw [3,4] (fun o i wr=>∃ k:Nat,k<=rs.length/\i=.int .i64 k/\o=.int .i64 (gF (aj rs) k:Nat)/\Hid (jv (aj rs) k=true/\ja (aj rs) k=true)/\ag w wr) (fun _ i _=>rs.length-(intOf i).toNat);case atStart=>exact ⟨0,Ui _,rfl,rfl,⟨by simp [jv],by simp [ja]⟩,Uf _ _⟩
  obtain ⟨k,hk,rfl,rfl,HU,hB⟩:=hrel;by_cases hlt:k<rs.length
  ·have WG:k<(aj rs).length:=by rw [Wu.out];exact hlt
   have hek:(aj rs)[k]=rs[k].e:=by simp [aj]
   have HEK:Hid ((aj rs)[k]=rs[k].e):=hek;obtain ⟨t0,t1,t2,t3,t4⟩:=(HR.out k hlt).later hb hB;clear hek;have hk1:=bF k;have hk2:(k:Int)<(rs.length:Int):=by omega
   have hol:=uw (aj rs) k;go_wp2_with fail;refine (Ee rs[k] _ (HF.out _ (Ud hlt)) ((HO.out _ (Ud hlt)).below hB)).mono ?_;rintro e w1 ⟨rfl,hb1⟩;cases UM:av rs[k].e;case false=>
    have HN:Hid (aK (aj rs)=false):=Im k WG (by rw [HEK.out];exact UM);go_wp2;go_ret;exact ⟨by rw [HN.out];rfl,hB.trans (hb1.mono hB.size)⟩
   have hB1:ag w w1:=hB.trans (hb1.mono hB.size);have hbw:b<wr.heap.size:=Uc hb hB.size;replace t0:=kept hb1 hbw t0;replace t4:=kept hb1 hbw t4;have hbw1:b<w1.heap.size:=Uc hbw hb1.size;clear t1 t2 t3 hb1 hB hbw;go_wp2_with fail;go_loopw [5] (fun i w2=>∃ j:Nat,j<=rs[k].e.kids.length/\i=.int .i64 j/\Hid (oZ rs[k].e.kids k j=true)/\w2=w1) (fun i _=>rs[k].e.kids.length-(intOf i).toNat);case atStart=>exact ⟨0,Ui _,rfl,(by show _=_;simp [oZ]),rfl⟩
   obtain ⟨j,hj,rfl,HP,rfl⟩:=hrel;by_cases hjl:j<rs[k].e.kids.length
   ·rcases (HO.out rs[k] (Ud hlt)).2.below hB1 with hnil|⟨bk,offk,XJ,hbk,YP⟩
    ·rw [hnil]at hjl;simp at hjl
    have t4':=t4;rw [XJ]at t4';have k0:=YP j hjl;have hj1:=bF j;have hj2:(j:Int)<(rs[k].e.kids.length:Int):=by omega
    obtain ⟨-,lk⟩:=HL.out rs[k] (Ud hlt);clear YP XJ t4;go_wp2_with fail;refine (Oc _ _ _ _).mono ?_;rintro e w' ⟨rfl,rfl⟩;cases hin:(decide (0<=rs[k].e.kids[j])&&decide (rs[k].e.kids[j]<=(k:Int)-1));case false=>
     have HN:Hid (aK (aj rs)=false):=Io k WG (by unfold kI;rw [oW rs k hlt];exact FO _ k j hjl hin);go_wp2;go_ret;exact ⟨by rw [HN.out];rfl,hB1⟩
    have UW:Hid (oZ rs[k].e.kids k (j+1)=true):=by show _=_;rw [Ef _ _ _ hjl,HP.out,hin];rfl
    go_wp2;go_roundw;case rel=>exact ⟨j+1,by omega,by go_num,UW,by first|rfl|trivial⟩
    simp [intOf] <;> omega
   obtain rfl:j=rs[k].e.kids.length:=by omega
   have YO:Hid (jv (aj rs) (k+1)=true/\ja (aj rs) (k+1)=true):=by
    refine ⟨?_,?_⟩
    ·rw [uy _ _ WG,HU.out.1,HEK.out,UM];rfl
    rw [Fs,HU.out.2];unfold kI;rw [oW rs k hlt];have:=HP.out;unfold oZ at this;rw [Us]at this;rw [this];rfl
   have HOW:Hid (gF (aj rs) (k+1)=gF (aj rs) k+(if rs[k].e.kind=1 then 1 else 0)):=by show _=_;rw [yV _ _ WG,HEK.out]
   by_cases Zt:rs[k].e.kind=1
   ·have Yl:Hid (gF (aj rs) (k+1)=gF (aj rs) k+1):=by show _=_;rw [HOW.out,if_pos Zt]
    clear HOW;go_wp2;go_roundw;case rel=>exact ⟨k+1,by omega,by go_num,by rw [Yl.out];go_num,YO,hB1⟩
    simp [intOf] <;> omega
   have Yl:Hid (gF (aj rs) (k+1)=gF (aj rs) k):=by show _=_;rw [HOW.out,if_neg Zt];rfl
   clear HOW;go_wp2;go_roundw;case rel=>exact ⟨k+1,by omega,by go_num,by rw [Yl.out],YO,hB1⟩
   simp [intOf] <;> omega
  obtain rfl:k=rs.length:=by omega
  have HN:Hid ((aj rs).all av=true):=by
   have:=HU.out.1;unfold jv at this;rwa [<-Wu.out,Us]at this
  have HKU:Hid (ja (aj rs) rs.length=true):=HU.out.2;have HOW:Hid (gF (aj rs) rs.length=own (aj rs)):=by show _=_;unfold gF;rw [<-Wu.out,Us]
  have hol:=uw (aj rs) rs.length;by_cases ho:gF (aj rs) rs.length<=1
  ·have HS:Hid (aK (aj rs)=decide (az (aj rs) (rs.length-1)=0)):=by
    show _=_;have h1:own (aj rs)<=1:=by rw [<-HOW.out];exact ho
    have e1:=Wu.out;unfold aK;rw [e1,HN.out,HKU.out];simp [h1,hn1,hn2]
   have hcast:((rs.length:Int)-1)=((rs.length-1:Nat):Int):=by omega
   have YQ:Hid (((rs.length:Int)-1)=((rs.length-1:Nat):Int)):=hcast;clear hcast;go_wp2_with fail;rw [YQ.out];refine (Il b off cap rs hlen HL.out (rs.length-1) _ (by omega) (Uc hb hB.size) (fun i hi=>(HR.out i hi).later hb hB) (fun r hr=>(HO.out r hr).below hB)).mono ?_;rintro e w1 ⟨rfl,hb1⟩;go_wp2;go_ret;exact ⟨by rw [HS.out];exact ah (by rw [Bool.eq_iff_iff];simp),hB.trans (hb1.mono hB.size)⟩
  have HS:Hid (aK (aj rs)=false):=by
   show _=_;have h1:¬ own (aj rs)<=1:=by rw [<-HOW.out];exact ho
   simp [aK,h1]
  go_wp2;go_ret;exact ⟨by rw [HS.out];rfl,hB⟩
 have HN:Hid (aK (aj rs)=false):=Cy (by rw [Wu.out];exact hn);go_enter func135,ntmps135;go_wp2_with fail
 all_goals go_ret
 all_goals exact ⟨by rw [HN.out];rfl,Uf _ _⟩
theorem l7 (ad:Option Addr)(cap:Nat)(rs:List ER)(w:af)(hlen:rs.length<=1048576)(hl:∀ r∈rs,r.e.light)(hf:∀ r∈rs,r.e.fits)(hs:iC w ad rs) :
  Calls prog 135 #[.slice ad rs.length cap] w fun e w'=>e=.returned (.bool (aK (aj rs)))/\ag w w':=by
 rcases hs with rfl|⟨b,off,rfl,hb,hr,hok⟩
 ·go_enter func135,ntmps135;go_wp2_with fail;go_ret;exact ⟨rfl,Uf _ _⟩
 exact zD b off cap rs w hlen hl hf hb hr hok
theorem Cz (x y:Al):jR x y=jR y x:=by
 unfold jR;rw [Bool.eq_iff_iff];simp only [Ug,beq_iff_eq];exact ⟨fun h=>⟨h.1.symm,h.2.symm⟩,fun h=>⟨h.1.symm,h.2.symm⟩⟩
theorem K9 (ad:Option Addr)(n cap:Nat)(xs:List Al)(v:Al)(w:af)(hn:n<=xs.length)(hlen:xs.length<=1048576)(hs:jM w ad xs) :
  Calls prog 197 #[.slice ad n cap,.agg #[.string v.t,.string v.s]] w fun e w'=>(∃ r:Int,e=.returned (.int .i64 r)/\decide (0<=r)=dH xs n v)/\ag w w':=by
 obtain ⟨W,hW⟩:∃ W,W=w.alloc (.cells #[.string v.t,.string v.s] 43):=⟨_,rfl⟩;have HB0:Hid (ag w W):=by show Below _ _ _;rw [hW];exact (Uf w.heap.size w).alloc (Ue _) _
 have hz:w.heap.size<W.heap.size:=by rw [hW];simp
 have b0:W.cell? ⟨w.heap.size,0,none⟩=some (.string v.t):=by rw [hW];simp
 have b1:W.cell? ⟨w.heap.size,1,none⟩=some (.string v.s):=by rw [hW];simp
 have HS:=aA (hs.below HB0.out);clear hs;go_enter func197,ntmps197;go_wp2_with fail;rw [<-hW];clear hW;go_loopw [8] (fun i wr=>∃ k:Nat,k<=n/\i=.int .i64 k/\Hid (dH xs k v=false)/\ag W wr) (fun i _=>n-(intOf i).toNat);case atStart=>exact ⟨0,Ui _,rfl,sS _ _,Uf _ _⟩
 obtain ⟨k,hk,rfl,HP,hB⟩:=hrel;have a0:=kept hB hz b0;have a1:=kept hB hz b1;by_cases hlt:k<n
 ·have hltx:k<xs.length:=by omega
  rcases HS.out.below hB with rfl|⟨b,off,rfl,hb,hr⟩
  ·simp at hltx
  obtain ⟨t0,t1⟩:=hr k hltx;have hk1:=bF k;have hk2:(k:Int)<(n:Int):=by omega
  clear hr;cases hq:jR v xs[k];case true=>
   have HE:=Ed v xs[k] hq;have HN:Hid (dH xs n v=true):=Cx hlt hltx (by rw [Cz];exact hq);go_wp2_with fail;go_quiet (fail);go_wp2;go_ret;exact ⟨⟨_,rfl,by rw [HN.out];simp⟩,HB0.out.trans (below_drewN (hB.mono HB0.out.size) _)⟩
  have HE:=Ed v xs[k] hq;have UW:Hid (dH xs (k+1) v=false):=by show _=_;rw [sQ _ _ _ hltx,HP.out,Cz,hq];rfl
  go_wp2_with fail;go_quiet (fail);go_wp2;go_roundw;case rel=>exact ⟨k+1,by omega,by go_num,UW,below_drewN hB _⟩
  simp [intOf] <;> omega
 obtain rfl:k=n:=by omega
 go_wp2;go_ret;exact ⟨⟨-1,rfl,by rw [HP.out];rfl⟩,HB0.out.trans (hB.mono HB0.out.size)⟩
theorem uO (ad:Option Addr)(n cap:Nat)(xs:List Al)(v:Al)(w:af)(hn:n<=xs.length)(hlen:xs.length<=1048576)(hs:jM w ad xs) :
  Calls prog 142 #[.slice ad n cap,.agg #[.string v.t,.string v.s]] w fun e w'=>e=.returned (.bool (dH xs n v))/\ag w w':=by
 have HB0:Hid (ag w (w.alloc (.cells #[.string v.t,.string v.s] 43))):=(Uf w.heap.size w).alloc (Ue _) _;have HS:=aA hs;clear hs;go_enter func142,ntmps142;go_wp2_with fail;refine (K9 ad n cap xs v _ hn hlen (HS.out.below HB0.out)).mono ?_;rintro e w1 ⟨⟨r,rfl,hr⟩,hb1⟩;have HR:Hid (decide (0<=r)=dH xs n v):=hr;have HB1:=jP HB0 hb1;clear hr hb1;go_wp2;go_ret;exact ⟨ah HR.out,HB1.out⟩
set_option maxRecDepth 8000 in
theorem Eg (r:ER)(w:af)(hf:r.e.fits)(h1:r.e.kind≠1) :
  Calls prog 239 #[r.val] w fun e w'=>e=.returned (.bool (av r.e))/\ag w w':=by
 obtain ⟨⟨kind,allow,over,name,kids⟩,adA,capA,adK,capK⟩:=r;obtain ⟨f1,f2,f3,f4,f5⟩:=hf;simp only at f1 f2 f3 f4 f5 h1;simp only [ER.val];unfold maxLen at f4 f5;by_cases h2:kind=2
 ·subst h2;clear h1;go_enter func239,ntmps239;go_wp2_with fail;go_quiet (fail);go_wp2_with (go_at_call 162;refine (aM _ _ (by assumption)).mono ?_;rintro e w' ⟨rfl,rfl⟩)
  all_goals go_ret
  all_goals exact ⟨ah (by first|(simp [av, *];done)|(simp [av, *];omega)|(simp [av, *];rw [Bool.eq_iff_iff];simp;done)|(simp [av, *];rw [Bool.eq_iff_iff];simp;omega)),below_drewN ((Uf w.heap.size w).alloc (Ue _) _) _⟩
 by_cases h3:kind=3
 ·subst h3;clear h1;go_enter func239,ntmps239;go_wp2_with fail;go_quiet (fail);go_wp2_with (go_at_call 162;refine (aM _ _ (by assumption)).mono ?_;rintro e w' ⟨rfl,rfl⟩)
  all_goals go_ret
  all_goals exact ⟨ah (by first|(simp [av, *];done)|(simp [av, *];omega)|(simp [av, *];rw [Bool.eq_iff_iff];simp;done)|(simp [av, *];rw [Bool.eq_iff_iff];simp;omega)),below_drewN ((Uf w.heap.size w).alloc (Ue _) _) _⟩
 by_cases h4:kind=4
 ·subst h4;clear h1;go_enter func239,ntmps239;go_wp2_with fail;go_quiet (fail);go_wp2_with (go_at_call 162;refine (aM _ _ (by assumption)).mono ?_;rintro e w' ⟨rfl,rfl⟩)
  all_goals go_ret
  all_goals exact ⟨ah (by first|(simp [av, *];done)|(simp [av, *];omega)|(simp [av, *];rw [Bool.eq_iff_iff];simp;done)|(simp [av, *];rw [Bool.eq_iff_iff];simp;omega)),below_drewN ((Uf w.heap.size w).alloc (Ue _) _) _⟩
 by_cases h5:kind=5
 ·subst h5;clear h1;go_enter func239,ntmps239;go_wp2_with fail;go_quiet (fail);go_wp2_with (go_at_call 162;refine (aM _ _ (by assumption)).mono ?_;rintro e w' ⟨rfl,rfl⟩)
  all_goals go_ret
  all_goals exact ⟨ah (by first|(simp [av, *];done)|(simp [av, *];omega)|(simp [av, *];rw [Bool.eq_iff_iff];simp;done)|(simp [av, *];rw [Bool.eq_iff_iff];simp;omega)),below_drewN ((Uf w.heap.size w).alloc (Ue _) _) _⟩
 by_cases h6:kind=6
 ·subst h6;clear h1;go_enter func239,ntmps239;go_wp2_with fail;go_quiet (fail);go_wp2_with (go_at_call 162;refine (aM _ _ (by assumption)).mono ?_;rintro e w' ⟨rfl,rfl⟩)
  all_goals go_ret
  all_goals exact ⟨ah (by first|(simp [av, *];done)|(simp [av, *];omega)|(simp [av, *];rw [Bool.eq_iff_iff];simp;done)|(simp [av, *];rw [Bool.eq_iff_iff];simp;omega)),below_drewN ((Uf w.heap.size w).alloc (Ue _) _) _⟩
 go_enter func239,ntmps239;go_wp2_with fail;go_quiet (fail);go_wp2_with (go_at_call 162;refine (aM _ _ (by assumption)).mono ?_;rintro e w' ⟨rfl,rfl⟩)
 all_goals go_ret
 all_goals exact ⟨ah (by first|(simp [av, *];done)|(simp [av, *];omega)|(simp [av, *];rw [Bool.eq_iff_iff];simp;done)|(simp [av, *];rw [Bool.eq_iff_iff];simp;omega)),below_drewN ((Uf w.heap.size w).alloc (Ue _) _) _⟩
end Go.Proofs.YtajkkeikihhejaaGreat
