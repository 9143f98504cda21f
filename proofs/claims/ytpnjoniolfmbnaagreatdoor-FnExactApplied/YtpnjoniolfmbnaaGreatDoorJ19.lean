/- Contracts of the program's functions on goals and on what a schema names. -/
import Derived.Test.YtpnjoniolfmbnaaGreatDoorJ18
import Derived.Test.YtpnjoniolfmbnaaGreatDoorStrata2
import Derived.Test.YtpnjoniolfmbnaaGreatDoorJ7
namespace Go.Proofs.YtpnjoniolfmbnaaGreatDoor
open Go.ChangeShapes Go.WideShapes Go.ChangeAt Go.RowKit Go.Maps
open Pl
def goalsI (ts:List Ty) (ty over rel:ByteArray):List ByteArray:=if directP (relOr ts ty over) then goalsP ts ty over rel else []
theorem info_strI:(Tryz.prog.info? 9).map (fun i=>(i.zero,i.size,i.bytes))=some (some (.string ⟨#[]⟩),1,16):=by kernel_rfl
theorem allowP_one (r:ER) (h:directP (exs [r])=true):allowP (exs [r])=r.e.allow∧r.e.kind=1:=by
 simp only [exs,List.map_cons,List.map_nil,directP,Bool.and_eq_true,decide_eq_true_eq] at h
 exact ⟨by simp [exs,allowP,h.1],h.1⟩
theorem direct_one {rows:List ER} (h:directP (exs rows)=true):∃ r,rows=[r]:=by
 rcases rows with _ | ⟨r,_ | ⟨r2,rs⟩⟩
 ·simp [exs,directP] at h
 ·exact ⟨r,rfl⟩
 ·simp [exs,directP] at h
set_option maxRecDepth 100000 in
set_option maxHeartbeats 4000000 in
theorem goalsOf_any (b n:Nat) (rs:List TR) (ad:Option Addr) (M:ByteArray × ByteArray→Option Value) (typ:ByteArray) (x:ER) (w:World) (hV:MapV encK Tryz.prog 149 w b n M) (hT:Tab rs M) (hs:SlT w ad rs) (hl:∀ r ∈ rs,r.light) (hf:∀ r ∈ rs,r.fits) (ht:typ.size≤maxLen) (ho:x.e.over.size≤maxLen) (hn:x.e.name.size≤maxLen) :
  Calls Tryz.prog 141 #[.map (some b),.string typ,x.val] w fun e w'=>(∃ (ad':Option Addr) (cap':Nat),e=.returned (.slice ad' (goalsI (tys rs) typ x.e.over x.e.name).length cap')∧SlS w' ad' (goalsI (tys rs) typ x.e.over x.e.name)∧∀ p,ad'=some p→w.heap.size≤p.block)∧Below w.heap.size w w':=by
 have HV:Hid (MapV encK Tryz.prog 149 w b n M):=hV
 have HT:Hid (Tab rs M):=hT
 have HS:Hid (SlT w ad rs):=hs
 have HL:Hid (∀ r ∈ rs,r.light):=hl
 have HFT:Hid (∀ r ∈ rs,r.fits):=hf
 obtain ⟨kl,hkl⟩:=relKeyOf (typ,x.e.over) ht ho
 have HKL:Hid (keyOf Tryz.prog 149 (encK (typ,x.e.over))=some kl):=hkl
 clear hkl hV hT hs hl hf
 obtain ⟨i0,hi,hz0,hz1,hz2⟩:=info_parts info_strI
 obtain ⟨W0,hW0⟩:∃ W0,W0=w.alloc (.cells #[.int .i64 x.e.kind,.slice x.adA x.e.allow.length x.capA,.string x.e.over,.string x.e.name,.slice x.adK x.e.kids.length x.capK] 114):=⟨_,rfl⟩
 have hal:Below w.heap.size w W0:=by rw [hW0]; exact (Below.refl _ _).alloc (Nat.le_refl _) _
 have HB0:Hid (Below w.heap.size w W0):=hal
 have HV0:Hid (MapV encK Tryz.prog 149 W0 b n M):=HV.out.below hal
 have c3:W0.cell? ⟨w.heap.size,3,none⟩=some (.string x.e.name):=by rw [hW0]; simp
 have hg0:w.heap.size < W0.heap.size:=by rw [hW0]; simp
 -- what lies in the table
 obtain ⟨rows,adE,capE,HM,HE,HF,HFL⟩:∃ (rows:List ER) (adE:Option Addr) (capE:Nat),Hid ((M (typ,x.e.over)).getD (.slice none 0 0)=.slice adE rows.length capE)∧Hid (exs rows=relOr (tys rs) typ x.e.over)∧Hid (FromS rs adE rows)∧Hid (∀ q ∈ rows,q.e.fits):=by
  cases e:M (typ,x.e.over) with
  | none=>exact ⟨[],none,0,rfl,by show _=_; unfold relOr; rw [HT.out.no _ e]; rfl,.inl rfl,by show ∀ _,_; simp⟩
  | some v =>
   obtain ⟨t,htm,q,hq,-,rfl,e1,-⟩:=HT.out.yes _ v e
   exact ⟨q.rows,q.ad,q.cap,rfl,by show _=_; unfold relOr; rw [e1]; rfl,.inr ⟨t,htm,q,hq,rfl,rfl⟩,((HFT.out t htm).2.2 q hq).2.2⟩
 have HSE:Hid (SlE W0 adE rows):=HF.out.sl (HS.out.below hal)
 have HLE:=HF.out.light HL.out
 have HLE1:rows.length≤1048576:=HLE.1
 have HLE2:Hid (∀ q ∈ rows,q.e.light):=HLE.2
 clear HLE hal
 go_enter Tryz.func141,Tryz.ntmps141
 unfold ER.val
 go_wp2_with (at_lookup; rw [← hW0]; refine wpList_lookV _ rfl _ _ 83 rfl 149 115 relLaw Tryz.underlying83 (zeroExprs _) b n M rfl HV0.out (typ,x.e.over) kl rfl HKL.out ?_; rw [HM.out]; clear hW0)
 refine (toldByObjects_any adE capE rows _ HLE1 HSE.out HLE2.out).mono ?_
 rintro e w1 ⟨rfl,hb1⟩
 have HB1:Hid (Below w.heap.size w w1):=HB0.out.trans (hb1.mono HB0.out.size)
 have HNM:Hid (w1.cell? ⟨w.heap.size,3,none⟩=some (.string x.e.name)∧w.heap.size < w1.heap.size):=⟨kept5 hb1 hg0 c3,Nat.lt_of_lt_of_le hg0 hb1.size⟩
 clear hb1 c3 hg0
 cases hd:directP (exs rows) with
 | false =>
  have HG:Hid (goalsI (tys rs) typ x.e.over x.e.name=[]):=by show _=_; unfold goalsI; rw [← HE.out,hd]; rfl
  go_wp2
  go_ret
  refine ⟨⟨none,0,by rw [HG.out]; rfl,by rw [HG.out]; exact .inl rfl,fun p hp=>by cases hp⟩,HB1.out⟩
 | true =>
  obtain ⟨r,rfl⟩:=direct_one hd
  have HG:Hid (goalsI (tys rs) typ x.e.over x.e.name=gl (tys rs) x.e.name r.e.allow):=by
   show _=_
   unfold goalsI goalsP
   rw [← HE.out,hd,if_pos rfl,(allowP_one r hd).1]
  rcases HSE.out with h | ⟨bE,offE,rfl,hbE,hrE,hokE⟩
  ·cases h
  have HSW:Hid (SlE w1 (some ⟨bE,offE,none⟩) [r]):=HF.out.sl (HS.out.below HB1.out)
  rcases HSW.out with h | ⟨bE',offE',heE,hbE1,hrE1,hokE1⟩
  ·cases h
  injection heE with heE; injection heE with heE1 heE2; subst heE1; subst heE2
  obtain ⟨s0,s1,s2,s3,s4⟩:=hrE1 0 (by simp)
  simp only [Nat.zero_mul,Nat.add_zero,List.getElem_cons_zero] at s0 s1 s2 s3 s4
  have HOKR:Hid (r.ok w):=by
   have h1:=HF.out.sl HS.out
   exact h1.mem (by simp)
  have lgA:r.e.allow.length≤1048576:=(HLE2.out r (by simp)).1
  have HFA:Hid (∀ a ∈ r.e.allow,a.fits):=(HFL.out r (by simp)).1
  have hone:([r]:List ER).length=1:=rfl
  rw [hone]
  clear hrE hokE hrE1 hokE1 HE HM hd hbE
  go_wp2_with fail
  go_loopw [8,25] (fun v i wr=>∃ k:Nat,k≤r.e.allow.length∧i=.int .i64 k∧Hid (wr.ownsRow w.heap.size 9 1 v (gl (tys rs) x.e.name (r.e.allow.take k)).length (strsS (gl (tys rs) x.e.name (r.e.allow.take k))))∧Hid (Below w.heap.size w wr)∧Hid (wr.cell? ⟨w.heap.size,3,none⟩=some (.string x.e.name)∧w.heap.size < wr.heap.size∧v.ownBlock ≠ some w.heap.size)) (fun _ i _=>r.e.allow.length - (intOf i).toNat)
  case atStart=>exact ⟨0,Nat.zero_le _,rfl,World.ownsRow_nil _ _ _ _,HB1,HNM.out.1,HNM.out.2,by simp [Value.ownBlock]⟩
  case round =>
   clear HB1 HNM s0 s1 s2 s3 s4
   obtain ⟨k,hk,rfl,HOW,HB,HC⟩:=hrel
   by_cases hlt:k < r.e.allow.length
   ·rcases (HOKR.out.1).below HB.out with hnil | ⟨ba,offa,had,hba,hra⟩
    ·rw [hnil] at hlt; simp at hlt
    obtain ⟨t0,t1⟩:=hra k hlt
    have hk1:(0:Int)≤(k:Int):=by omega
    have hk2:(k:Int) < (r.e.allow.length:Int):=by omega
    have zA:=HFA.out _ (List.getElem_mem hlt)
    have z1:r.e.allow[k].t.size≤maxLen:=zA.1
    obtain ⟨hc3,hcl,hco⟩:=HC.out
    obtain ⟨W1,hW1⟩:∃ W1,W1=wr.alloc (.cells #[.string r.e.allow[k].t,.string r.e.allow[k].s] 151):=⟨_,rfl⟩
    have hal:Below wr.heap.size wr W1:=by rw [hW1]; exact (Below.refl _ _).alloc (Nat.le_refl _) _
    have HBW:Hid (Below w.heap.size w W1):=HB.out.trans (hal.mono HB.out.size)
    have HVW:Hid (MapV encK Tryz.prog 149 W1 b n M):=HV.out.below HBW.out
    have HOW1:Hid (W1.ownsRow w.heap.size 9 1 u8 (gl (tys rs) x.e.name (r.e.allow.take k)).length (strsS (gl (tys rs) x.e.name (r.e.allow.take k)))):=own_below HOW.out hal
    have g0:W1.cell? ⟨wr.heap.size,0,none⟩=some (.string r.e.allow[k].t):=by rw [hW1]; simp
    have g3:=kept5 hal hcl hc3
    have hgl1:wr.heap.size < W1.heap.size:=by rw [hW1]; simp
    have hgl:=gl_len (tys rs) x.e.name (r.e.allow.take k)
    rw [List.length_take] at hgl
    have HI:=HT.out.some_iff (r.e.allow[k].t,x.e.name)
    have hwsz:w.heap.size≤W1.heap.size:=HBW.out.size
    rw [had]
    clear hra hal HC HOW
    go_wp2_with fail
    rw [← hW1]
    refine (has_any b n M r.e.allow[k].t x.e.name _ z1 hn HVW.out).mono ?_
    rintro e w' ⟨rfl,hw'⟩
    rw [hw']
    clear hw' w' hW1 t0 t1 hc3
    cases hz:(M (r.e.allow[k].t,x.e.name)).isSome with
    | false =>
     have HE:Hid (gl (tys rs) x.e.name (r.e.allow.take (k + 1))=gl (tys rs) x.e.name (r.e.allow.take k)):=by
      refine gl_no _ _ _ _ hlt ?_
      rw [hz] at HI
      simpa using HI.symm
     clear HI
     go_wp2
     go_roundw
     case rel=>exact ⟨k + 1,by omega,by go_num,by rw [HE.out]; exact HOW1,HBW,g3,by omega,hco⟩
     case measure=>first | (simp [intOf]; done) | (simp [intOf]; omega)
    | true =>
     have HX:Hid (gl (tys rs) x.e.name (r.e.allow.take (k + 1))=gl (tys rs) x.e.name (r.e.allow.take k) ++ [r.e.allow[k].t]):=by
      refine gl_yes _ _ _ _ hlt ?_
      rw [hz] at HI
      simpa using HI.symm
     clear HI
     go_wp2_with (at_builtin; refine wpList_append_own_at _ rfl _ _ 105 rfl w.heap.size 9 i0 (.string ⟨#[]⟩) 1 16 Tryz.underlying105 hi hz0 hz1 hz2 rfl (by decide) _ _ _ rfl (HOW1.out.alloc _) ⟨W1.heap.size,0,none⟩ 1 1 [.string r.e.allow[k].t] rfl rfl (cell_one_new _ _ _) (by intro u hu; simp at hu; subst hu; rfl) (by unfold maxLen; omega) (by omega) (by simp; omega) ?_)
     intro v' w3 hown3 hgrow _ hloc
     have hb3:Hid (Below w.heap.size w w3):=(HBW.out.alloc HBW.out.size _).grown hgrow (by simp; omega) (fun i hi=>(HOW1.out.lt i hi).1)
     have HO3:Hid (w3.ownsRow w.heap.size 9 1 v' (gl (tys rs) x.e.name (r.e.allow.take (k + 1))).length (strsS (gl (tys rs) x.e.name (r.e.allow.take (k + 1))))):=by
      show World.ownsRow _ _ _ _ _ _ _
      rw [HX.out]
      simpa [strsS] using hown3
     have HC3:Hid (w3.cell? ⟨w.heap.size,3,none⟩=some (.string x.e.name)∧w.heap.size < w3.heap.size∧v'.ownBlock ≠ some w.heap.size):=by
      refine ⟨?_,?_,?_⟩
      ·rw [hgrow.cell_far _ (by simp; omega) (Ne.symm hco)]; exact kept5 ((Below.refl _ _).alloc (Nat.le_refl _) _) (by omega) g3
      ·have:=hgrow.size; simp at this; omega
      ·rcases hloc with e | e
       ·rw [e]; exact hco
       ·rw [e]; simp; omega
     clear hown3 hgrow hloc HOW1 g0 g3
     go_wp2
     go_roundw
     case rel=>exact ⟨k + 1,by omega,by go_num,HO3,hb3,HC3⟩
     case measure=>first | (simp [intOf]; done) | (simp [intOf]; omega)
   ·obtain rfl:k=r.e.allow.length:=by omega
    have hown:=HOW.out
    rw [List.take_length] at hown
    obtain ⟨ad',cp,rfl,hS',hN'⟩:=own_sl hown
    have HS2:Hid (SlS wr ad' (gl (tys rs) x.e.name r.e.allow)):=hS'
    have HN2:Hid (∀ p,ad'=some p→w.heap.size≤p.block):=hN'
    clear hown HOW hS' hN' HC
    go_wp2
    go_ret
    refine ⟨⟨ad',cp,by rw [HG.out]; rfl,by rw [HG.out]; exact HS2.out,HN2.out⟩,HB.out⟩
end Go.Proofs.YtpnjoniolfmbnaaGreatDoor
namespace Go.Proofs.YtpnjoniolfmbnaaGreatDoor
open Go.ChangeShapes Go.WideShapes Go.ChangeAt Go.RowKit
open Pl
theorem alEq_comm (x y:Al):alEq x y=alEq y x:=by
 unfold alEq
 rw [Bool.eq_iff_iff]
 simp only [Bool.and_eq_true,beq_iff_eq]
 exact ⟨fun h=>⟨h.1.symm,h.2.symm⟩,fun h=>⟨h.1.symm,h.2.symm⟩⟩
set_option maxHeartbeats 1000000 in
theorem index_any (ad:Option Addr) (n cap:Nat) (xs:List Al) (v:Al) (w:World) (hn:n≤xs.length) (hlen:xs.length≤1048576) (hs:SlA w ad xs) :
  Calls Tryz.prog 114 #[.slice ad n cap,.agg #[.string v.t,.string v.s]] w fun e w'=>(∃ r:Int,e=.returned (.int .i64 r)∧decide (0≤r)=inPre xs n v)∧Below w.heap.size w w':=by
 obtain ⟨W,hW⟩:∃ W,W=w.alloc (.cells #[.string v.t,.string v.s] 151):=⟨_,rfl⟩
 have HB0:Hid (Below w.heap.size w W):=by show Below _ _ _; rw [hW]; exact (Below.refl w.heap.size w).alloc (Nat.le_refl _) _
 have hz:w.heap.size < W.heap.size:=by rw [hW]; simp
 have b0:W.cell? ⟨w.heap.size,0,none⟩=some (.string v.t):=by rw [hW]; simp
 have b1:W.cell? ⟨w.heap.size,1,none⟩=some (.string v.s):=by rw [hW]; simp
 have HS:Hid (SlA W ad xs):=hs.below HB0.out
 clear hs
 go_enter Tryz.func114,Tryz.ntmps114
 go_wp2_with fail
 rw [← hW]
 clear hW
 go_loopw [8] (fun i wr=>∃ k:Nat,k≤n∧i=.int .i64 k∧Hid (inPre xs k v=false)∧Below W.heap.size W wr) (fun i _=>n - (intOf i).toNat)
 case atStart=>exact ⟨0,Nat.zero_le _,rfl,inPre_zero _ _,Below.refl _ _⟩
 case round =>
  obtain ⟨k,hk,rfl,HP,hB⟩:=hrel
  have a0:=kept hB hz b0
  have a1:=kept hB hz b1
  by_cases hlt:k < n
  ·have hltx:k < xs.length:=by omega
   rcases HS.out.below hB with rfl | ⟨b,off,rfl,hb,hr⟩
   ·simp at hltx
   obtain ⟨t0,t1⟩:=hr k hltx
   have hk1:(0:Int)≤(k:Int):=by omega
   have hk2:(k:Int) < (n:Int):=by omega
   clear hr
   cases hq:alEq v xs[k] with
   | true =>
    have HE:=al_eql v xs[k] hq
    have HN:Hid (inPre xs n v=true):=inPre_hit hlt hltx (by rw [alEq_comm]; exact hq)
    go_wp2_with fail
    go_quiet (fail)
    go_wp2
    go_ret
    exact ⟨⟨_,rfl,by rw [HN.out]; simp⟩,HB0.out.trans (below_drewN (hB.mono HB0.out.size) _)⟩
   | false =>
    have HE:=al_eql v xs[k] hq
    have HP2:Hid (inPre xs (k + 1) v=false):=by show _=_; rw [inPre_succ _ _ _ hltx,HP.out,alEq_comm,hq]; rfl
    go_wp2_with fail
    go_quiet (fail)
    go_wp2
    go_roundw
    case rel=>exact ⟨k + 1,by omega,by go_num,HP2,below_drewN hB _⟩
    case measure=>first | (simp [intOf]; done) | (simp [intOf]; omega)
  ·obtain rfl:k=n:=by omega
   go_wp2
   go_ret
   exact ⟨⟨-1,rfl,by rw [HP.out]; rfl⟩,HB0.out.trans (hB.mono HB0.out.size)⟩
theorem contains_any (ad:Option Addr) (n cap:Nat) (xs:List Al) (v:Al) (w:World) (hn:n≤xs.length) (hlen:xs.length≤1048576) (hs:SlA w ad xs) :
  Calls Tryz.prog 77 #[.slice ad n cap,.agg #[.string v.t,.string v.s]] w fun e w'=>e=.returned (.bool (inPre xs n v))∧Below w.heap.size w w':=by
 have HB0:Hid (Below w.heap.size w (w.alloc (.cells #[.string v.t,.string v.s] 151))):=(Below.refl w.heap.size w).alloc (Nat.le_refl _) _
 have HS:Hid (SlA w ad xs):=hs
 clear hs
 go_enter Tryz.func77,Tryz.ntmps77
 go_wp2_with fail
 refine (index_any ad n cap xs v _ hn hlen (HS.out.below HB0.out)).mono ?_
 rintro e w1 ⟨⟨r,rfl,hr⟩,hb1⟩
 have HR:Hid (decide (0≤r)=inPre xs n v):=hr
 have HB1:Hid (Below w.heap.size w w1):=HB0.out.trans (hb1.mono HB0.out.size)
 clear hr hb1
 go_wp2
 go_ret
 exact ⟨ret_bool HR.out,HB1.out⟩
set_option maxRecDepth 8000 in
set_option maxHeartbeats 4000000 in
theorem nodeOk_plain (r:ER) (w:World) (hf:r.e.fits) (h1:r.e.kind ≠ 1) :
  Calls Tryz.prog 174 #[r.val] w fun e w'=>e=.returned (.bool (nodeB r.e))∧Below w.heap.size w w':=by
 obtain ⟨⟨kind,allow,over,name,kids⟩,adA,capA,adK,capK⟩:=r
 obtain ⟨f1,f2,f3,f4,f5⟩:=hf
 simp only at f1 f2 f3 f4 f5 h1
 simp only [ER.val]
 unfold maxLen at f4 f5
 by_cases h2:kind=2
 ·subst h2
  clear h1
  go_enter Tryz.func174,Tryz.ntmps174
  go_wp2_with fail
  go_quiet (fail)
  go_wp2_with (go_at_call 112; refine (implName_any _ _ (by assumption)).mono ?_; rintro e w' ⟨rfl,rfl⟩)
  all_goals go_ret
  all_goals exact ⟨ret_bool (by first | (simp [nodeB, *]; done) | (simp [nodeB, *]; omega) | (simp [nodeB, *]; rw [Bool.eq_iff_iff]; simp; done) | (simp [nodeB, *]; rw [Bool.eq_iff_iff]; simp; omega)),below_drewN ((Below.refl w.heap.size w).alloc (Nat.le_refl _) _) _⟩
 by_cases h3:kind=3
 ·subst h3
  clear h1
  go_enter Tryz.func174,Tryz.ntmps174
  go_wp2_with fail
  go_quiet (fail)
  go_wp2_with (go_at_call 112; refine (implName_any _ _ (by assumption)).mono ?_; rintro e w' ⟨rfl,rfl⟩)
  all_goals go_ret
  all_goals exact ⟨ret_bool (by first | (simp [nodeB, *]; done) | (simp [nodeB, *]; omega) | (simp [nodeB, *]; rw [Bool.eq_iff_iff]; simp; done) | (simp [nodeB, *]; rw [Bool.eq_iff_iff]; simp; omega)),below_drewN ((Below.refl w.heap.size w).alloc (Nat.le_refl _) _) _⟩
 by_cases h4:kind=4
 ·subst h4
  clear h1
  go_enter Tryz.func174,Tryz.ntmps174
  go_wp2_with fail
  go_quiet (fail)
  go_wp2_with (go_at_call 112; refine (implName_any _ _ (by assumption)).mono ?_; rintro e w' ⟨rfl,rfl⟩)
  all_goals go_ret
  all_goals exact ⟨ret_bool (by first | (simp [nodeB, *]; done) | (simp [nodeB, *]; omega) | (simp [nodeB, *]; rw [Bool.eq_iff_iff]; simp; done) | (simp [nodeB, *]; rw [Bool.eq_iff_iff]; simp; omega)),below_drewN ((Below.refl w.heap.size w).alloc (Nat.le_refl _) _) _⟩
 by_cases h5:kind=5
 ·subst h5
  clear h1
  go_enter Tryz.func174,Tryz.ntmps174
  go_wp2_with fail
  go_quiet (fail)
  go_wp2_with (go_at_call 112; refine (implName_any _ _ (by assumption)).mono ?_; rintro e w' ⟨rfl,rfl⟩)
  all_goals go_ret
  all_goals exact ⟨ret_bool (by first | (simp [nodeB, *]; done) | (simp [nodeB, *]; omega) | (simp [nodeB, *]; rw [Bool.eq_iff_iff]; simp; done) | (simp [nodeB, *]; rw [Bool.eq_iff_iff]; simp; omega)),below_drewN ((Below.refl w.heap.size w).alloc (Nat.le_refl _) _) _⟩
 by_cases h6:kind=6
 ·subst h6
  clear h1
  go_enter Tryz.func174,Tryz.ntmps174
  go_wp2_with fail
  go_quiet (fail)
  go_wp2_with (go_at_call 112; refine (implName_any _ _ (by assumption)).mono ?_; rintro e w' ⟨rfl,rfl⟩)
  all_goals go_ret
  all_goals exact ⟨ret_bool (by first | (simp [nodeB, *]; done) | (simp [nodeB, *]; omega) | (simp [nodeB, *]; rw [Bool.eq_iff_iff]; simp; done) | (simp [nodeB, *]; rw [Bool.eq_iff_iff]; simp; omega)),below_drewN ((Below.refl w.heap.size w).alloc (Nat.le_refl _) _) _⟩
 ·go_enter Tryz.func174,Tryz.ntmps174
  go_wp2_with fail
  go_quiet (fail)
  go_wp2_with (go_at_call 112; refine (implName_any _ _ (by assumption)).mono ?_; rintro e w' ⟨rfl,rfl⟩)
  all_goals go_ret
  all_goals exact ⟨ret_bool (by first | (simp [nodeB, *]; done) | (simp [nodeB, *]; omega) | (simp [nodeB, *]; rw [Bool.eq_iff_iff]; simp; done) | (simp [nodeB, *]; rw [Bool.eq_iff_iff]; simp; omega)),below_drewN ((Below.refl w.heap.size w).alloc (Nat.le_refl _) _) _⟩
end Go.Proofs.YtpnjoniolfmbnaaGreatDoor
namespace Go.Proofs.YtpnjoniolfmbnaaGreatDoor
open Go.ChangeShapes Go.WideShapes Go.ChangeAt Go.RowKit Go.Maps
open Pl
def fitE (a:Al) (e:Ex):Bool:=decide (e.kind=1) && inPre e.allow e.allow.length a
def fitsI (ts:List Ty) (ty rel:ByteArray) (a:Al):Bool:=(relOr ts ty rel).any (fitE a)
theorem fit_drop (a:Al) (rows:List ER) (k:Nat) (h:k < rows.length):(exs (rows.drop k)).any (fitE a)=(fitE a rows[k].e || (exs (rows.drop (k + 1))).any (fitE a)):=by
 rw [exs_drop _ _ h]; rfl
set_option maxRecDepth 100000 in
set_option maxHeartbeats 4000000 in
theorem fits_any (b n:Nat) (rs:List TR) (ad:Option Addr) (M:ByteArray × ByteArray→Option Value) (oa ob r c d s:ByteArray) (w:World) (hV:MapV encK Tryz.prog 149 w b n M) (hT:Tab rs M) (hs:SlT w ad rs) (hl:∀ r ∈ rs,r.light) (ho:oa.size≤maxLen) (hr:r.size≤maxLen) :
  Calls Tryz.prog 41 #[.map (some b),.agg #[.string oa,.string ob,.string r,.string c,.string d,.string s]] w fun e w'=>e=.returned (.bool (fitsI (tys rs) oa r ⟨c,s⟩))∧Below w.heap.size w w':=by
 have HT:Hid (Tab rs M):=hT
 have HS:Hid (SlT w ad rs):=hs
 have HL:Hid (∀ r ∈ rs,r.light):=hl
 obtain ⟨kl,hkl⟩:=relKeyOf (oa,r) ho hr
 have HKL:Hid (keyOf Tryz.prog 149 (encK (oa,r))=some kl):=hkl
 obtain ⟨W0,hW0⟩:∃ W0,W0=(w.alloc (.cells #[.string oa,.string ob,.string r,.string c,.string d,.string s] 29)).alloc (.cells #[.string c,.string s] 151):=⟨_,rfl⟩
 have hal:Below w.heap.size w W0:=by
  rw [hW0]
  repeat (first | exact Below.refl _ _ | refine Below.alloc ?_ (by first | (simp; done) | (simp; omega)) _)
 have HB0:Hid (Below w.heap.size w W0):=hal
 have HV0:Hid (MapV encK Tryz.prog 149 W0 b n M):=hV.below hal
 have HC0:Hid (W0.cell? ⟨w.heap.size + 1,0,none⟩=some (.string c)∧W0.cell? ⟨w.heap.size + 1,1,none⟩=some (.string s)∧w.heap.size + 1 < W0.heap.size):=⟨by rw [hW0]; simp,by rw [hW0]; simp,by rw [hW0]; simp⟩
 obtain ⟨rows,adE,capE,HM,HE,HF⟩:∃ (rows:List ER) (adE:Option Addr) (capE:Nat),Hid ((M (oa,r)).getD (.slice none 0 0)=.slice adE rows.length capE)∧Hid (exs rows=relOr (tys rs) oa r)∧Hid (FromS rs adE rows):=by
  cases e:M (oa,r) with
  | none=>exact ⟨[],none,0,rfl,by show _=_; unfold relOr; rw [HT.out.no _ e]; rfl,.inl rfl⟩
  | some v =>
   obtain ⟨t,htm,q,hq,-,rfl,e1,-⟩:=HT.out.yes _ v e
   exact ⟨q.rows,q.ad,q.cap,rfl,by show _=_; unfold relOr; rw [e1]; rfl,.inr ⟨t,htm,q,hq,rfl,rfl⟩⟩
 have HLE:=HF.out.light HL.out
 have HLE1:rows.length≤1048576:=HLE.1
 have HLE2:Hid (∀ q ∈ rows,q.e.light):=HLE.2
 have HSE:Hid (SlE w adE rows):=HF.out.sl HS.out
 clear hV hT hs hl hkl hal HLE
 go_enter Tryz.func41,Tryz.ntmps41
 go_wp2_with (at_lookup; rw [← hW0]; refine wpList_lookV _ rfl _ _ 83 rfl 149 115 relLaw Tryz.underlying83 (zeroExprs _) b n M rfl HV0.out (oa,r) kl rfl HKL.out ?_; rw [HM.out]; clear hW0)
 go_loopw [23] (fun i wr=>∃ k:Nat,k≤rows.length∧i=.int .i64 k∧Hid ((exs (rows.drop k)).any (fitE ⟨c,s⟩)=(exs rows).any (fitE ⟨c,s⟩))∧Hid (Below w.heap.size w wr)∧Hid (wr.cell? ⟨w.heap.size + 1,0,none⟩=some (.string c)∧wr.cell? ⟨w.heap.size + 1,1,none⟩=some (.string s)∧w.heap.size + 1 < wr.heap.size)) (fun i _=>rows.length - (intOf i).toNat)
 case atStart=>exact ⟨0,Nat.zero_le _,rfl,rfl,HB0,HC0⟩
 case round =>
  clear HB0 HC0 HV0
  obtain ⟨k,hk,rfl,HP,HB,HC⟩:=hrel
  by_cases hlt:k < rows.length
  ·rcases HSE.out.below HB.out with hnil | ⟨bE,offE,hadE,hbE,hrE,hok⟩
   ·rw [hnil] at hlt; simp at hlt
   obtain ⟨t0,t1,t2,t3,t4⟩:=hrE k hlt
   have HOK:Hid (rows[k].ok wr):=hok _ (List.getElem_mem hlt)
   have lgA:rows[k].e.allow.length≤1048576:=(HLE2.out _ (List.getElem_mem hlt)).1
   have hk1:(0:Int)≤(k:Int):=by omega
   have hk2:(k:Int) < (rows.length:Int):=by omega
   obtain ⟨x0,x1,x2⟩:=HC.out
   have HD:Hid ((exs rows).any (fitE ⟨c,s⟩)=(fitE ⟨c,s⟩ rows[k].e || (exs (rows.drop (k + 1))).any (fitE ⟨c,s⟩))):=by show _=_; rw [← HP.out]; exact fit_drop _ _ _ hlt
   obtain ⟨W1,hW1⟩:∃ W1,W1=wr.alloc (.cells #[.int .i64 rows[k].e.kind,.slice rows[k].adA rows[k].e.allow.length rows[k].capA,.string rows[k].e.over,.string rows[k].e.name,.slice rows[k].adK rows[k].e.kids.length rows[k].capK] 114):=⟨_,rfl⟩
   have hal:Below wr.heap.size wr W1:=by rw [hW1]; exact (Below.refl _ _).alloc (Nat.le_refl _) _
   have HB1:Hid (Below w.heap.size w W1):=HB.out.trans (hal.mono HB.out.size)
   have HC1:Hid (W1.cell? ⟨w.heap.size + 1,0,none⟩=some (.string c)∧W1.cell? ⟨w.heap.size + 1,1,none⟩=some (.string s)∧w.heap.size + 1 < W1.heap.size):=⟨kept5 hal x2 x0,kept5 hal x2 x1,Nat.lt_of_lt_of_le x2 hal.size⟩
   have HA1:Hid (SlA W1 rows[k].adA rows[k].e.allow):=HOK.out.1.below hal
   rw [hadE]
   clear hrE hok hal HC
   by_cases h1:rows[k].e.kind=1
   ·have hq1:(rows[k].e.kind == 1)=true:=by simpa using h1
    have HFE:Hid (fitE ⟨c,s⟩ rows[k].e=inPre rows[k].e.allow rows[k].e.allow.length ⟨c,s⟩):=by show _=_; unfold fitE; simp [h1]
    replace h1:Hid (rows[k].e.kind=1):=h1
    go_wp2_with fail
    rw [← hW1]
    refine (contains_any rows[k].adA rows[k].e.allow.length rows[k].capA rows[k].e.allow ⟨c,s⟩ _ (Nat.le_refl _) lgA HA1.out).mono ?_
    rintro e w2 ⟨rfl,hb2⟩
    have HB2:Hid (Below w.heap.size w w2):=HB1.out.trans (hb2.mono HB1.out.size)
    have HC2:Hid (w2.cell? ⟨w.heap.size + 1,0,none⟩=some (.string c)∧w2.cell? ⟨w.heap.size + 1,1,none⟩=some (.string s)∧w.heap.size + 1 < w2.heap.size):=⟨kept5 hb2 HC1.out.2.2 HC1.out.1,kept5 hb2 HC1.out.2.2 HC1.out.2.1,Nat.lt_of_lt_of_le HC1.out.2.2 hb2.size⟩
    clear hb2 hW1 t0 t1 t2 t3 t4 x0 x1
    cases hz:inPre rows[k].e.allow rows[k].e.allow.length ⟨c,s⟩ with
    | true =>
     have HN:Hid (fitsI (tys rs) oa r ⟨c,s⟩=true):=by show _=_; unfold fitsI; rw [← HE.out,HD.out,HFE.out,hz]; rfl
     go_wp2
     go_ret
     exact ⟨by rw [HN.out]; rfl,HB2.out⟩
    | false =>
     have HP2:Hid ((exs (rows.drop (k + 1))).any (fitE ⟨c,s⟩)=(exs rows).any (fitE ⟨c,s⟩)):=by show _=_; rw [HD.out,HFE.out,hz]; rfl
     go_wp2
     go_roundw
     case rel=>exact ⟨k + 1,by omega,by go_num,HP2,HB2,HC2⟩
     case measure=>first | (simp [intOf]; done) | (simp [intOf]; omega)
   ·have hq1:(rows[k].e.kind == 1)=false:=by simpa using h1
    have HP2:Hid ((exs (rows.drop (k + 1))).any (fitE ⟨c,s⟩)=(exs rows).any (fitE ⟨c,s⟩)):=by show _=_; rw [HD.out]; simp [fitE,h1]
    have HBX:Hid (Below w.heap.size w (wr.alloc (.cells #[.int .i64 rows[k].e.kind,.slice rows[k].adA rows[k].e.allow.length rows[k].capA,.string rows[k].e.over,.string rows[k].e.name,.slice rows[k].adK rows[k].e.kids.length rows[k].capK] 114))):=by rw [← hW1]; exact HB1
    have HCX:Hid ((wr.alloc (.cells #[.int .i64 rows[k].e.kind,.slice rows[k].adA rows[k].e.allow.length rows[k].capA,.string rows[k].e.over,.string rows[k].e.name,.slice rows[k].adK rows[k].e.kids.length rows[k].capK] 114)).cell? ⟨w.heap.size + 1,0,none⟩=some (.string c)∧(wr.alloc (.cells #[.int .i64 rows[k].e.kind,.slice rows[k].adA rows[k].e.allow.length rows[k].capA,.string rows[k].e.over,.string rows[k].e.name,.slice rows[k].adK rows[k].e.kids.length rows[k].capK] 114)).cell? ⟨w.heap.size + 1,1,none⟩=some (.string s)∧w.heap.size + 1 < (wr.alloc (.cells #[.int .i64 rows[k].e.kind,.slice rows[k].adA rows[k].e.allow.length rows[k].capA,.string rows[k].e.over,.string rows[k].e.name,.slice rows[k].adK rows[k].e.kids.length rows[k].capK] 114)).heap.size):=by rw [← hW1]; exact HC1
    clear hW1
    go_wp2
    go_roundw
    case rel=>exact ⟨k + 1,by omega,by go_num,HP2,HBX,HCX⟩
    case measure=>first | (simp [intOf]; done) | (simp [intOf]; omega)
  ·have HN:Hid (fitsI (tys rs) oa r ⟨c,s⟩=false):=by show _=_; unfold fitsI; rw [← HE.out,← HP.out,List.drop_of_length_le (by omega)]; rfl
   go_wp2
   go_ret
   exact ⟨by rw [HN.out]; rfl,HB.out⟩
end Go.Proofs.YtpnjoniolfmbnaaGreatDoor
