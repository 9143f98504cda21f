/- Contract of the document's function on strata: the walk. -/
import Derived.Test.YtajkkeikihhejaaGreatSq
import Derived.Test.YtajkkeikihhejaaGreatStrata2
import Derived.Test.YtajkkeikihhejaaGreatJ21
import Derived.Test.YtajkkeikihhejaaGreatJ20
open Go.Proofs.Tryz
set_option maxHeartbeats 80000000
namespace Go.Proofs.YtajkkeikihhejaaGreat
open Go.ChangeShapes Go.WideShapes Go.ChangeAt Go.RowKit
open Pl
set_option maxRecDepth 100000 in
theorem vg (ad:Option Addr) (cap:Nat) (rs:List TR) (w:af) (hlen:rs.length≤6) (hs:kW w ad rs) (hl:∀ r ∈ rs,r.light) (hrl:∀ r ∈ rs,r.rows.length≤6) (hel:∀ r ∈ rs,∀ q ∈ r.rows,q.rows.length≤15∧∀ e ∈ q.rows,dV q.rows.length e.e.kids) (hF:Found (ae rs)) :
    Calls prog 96 #[.slice ad rs.length cap] w fun e w'=>((∃ UJ cap' out,e=.returned (.tuple #[.slice UJ out.length cap',.bool true])∧Ik w' UJ out∧iE out=ak (ae rs)∧Least (ae rs) (fO out)) ∨ (e=.returned (.tuple #[.slice none 0 0,.bool false])∧¬ ∃ f,Sol (ae rs) f))∧ag w w':=by
  have HS:=az hs;have HL:=az hl;have Yx:Hid (∀ r ∈ rs,r.rows.length≤6):=hrl;have V8:Hid (∀ r ∈ rs,∀ q ∈ r.rows,q.rows.length≤15∧∀ e ∈ q.rows,dV q.rows.length e.e.kids):=hel;have HF:=az hF;clear hs hl hrl hel hF;obtain ⟨i0,hi,hz0,hz1,hz2⟩:=info_parts Qr;go_enter func96,ntmps96;have Zd:Hid (ag w (w.alloc (.cells #[] 162))):=(TT _ _).alloc (TS _) _;have hown1:Hid ((w.alloc (.cells #[] 162)).ownsRow w.heap.size 162 3 (.slice (some ⟨w.heap.size,0,none⟩) 0 0) 0 []):=World.ownsRow_made w #[] 0 (TS _) (by decide) rfl;go_wp2_with fail;go_loopw [4,5] (fun v i wr=>∃ k:Nat,k≤rs.length∧i=.int .i64 k∧Hid (wr.ownsRow w.heap.size 162 3 v (dA rs k).length (iG (FQ (dA rs k))))∧Hid (ag w wr)) (fun _ i _=>rs.length - (intOf i).toNat);case atStart=>exact ⟨0,TW _,rfl,hown1,Zd⟩
  clear hown1 Zd;obtain ⟨k,hk,rfl,HOW,HB⟩:=hrel;by_cases hlt:k < rs.length
  · have hk1:=bB k;have hk2:(k:Int) < (rs.length:Int):=by omega
    have HU:Hid ((dA rs k).length≤k * 6):=wC rs Yx.out k;have V5:Hid (rs[k].rows.length≤6):=Yx.out _ (TQ hlt);obtain ⟨wo,hwo⟩:∃ wo,wo=wr:=⟨_,rfl⟩;subst hwo;go_wp2_with fail;go_loopw [4,6] (fun v i w2=>∃ j:Nat,j≤rs[k].rows.length∧i=.int .i64 j∧Hid (w2.ownsRow w.heap.size 162 3 v (dA rs k ++ iV rs[k] j).length (iG (FQ (dA rs k ++ iV rs[k] j))))∧Hid (ag w w2)) (fun _ i _=>rs[k].rows.length - (intOf i).toNat);case atStart=>exact ⟨0,TW _,rfl,(by simpa [iV] using HOW),HB⟩
    obtain ⟨j,hj,rfl,UB,HB2⟩:=hrel;rcases HS.out.below HB2.out with rfl | ⟨b,off,rfl,hb,hr,hok⟩
    · simp at hlt
    have hbw:b < w.heap.size:=by
      rcases HS.out with h | ⟨b',off',e,hb',-⟩
      · rw [h] at hlt; simp at hlt
      · injection e with e; injection e with e1 e2; omega
    obtain ⟨t0,t1⟩:=hr k hlt;have Vz:Hid (rs[k].ok _):=hok rs[k] (TQ hlt);have HOKW:Hid (rs[k].ok w):=HS.out.mem (TQ hlt);clear hr hok;by_cases hjl:j < rs[k].rows.length
    · rcases Vz.out with hnil | ⟨b2,UZ,had,hb2,hr2,-⟩
      · rw [hnil] at hjl; simp at hjl
      have hbw2:b2 < w.heap.size:=by
        rcases HOKW.out with h | ⟨b',off',e,hb',-⟩
        · rw [h] at hjl; simp at hjl
        · rw [had] at e; injection e with e; injection e with e1 e2; omega
      have t1':=t1;rw [had] at t1';obtain ⟨q0,q1⟩:=hr2 j hjl;have hj1:=bB j;have hj2:(j:Int) < (rs[k].rows.length:Int):=by omega
      have a1:u4.ownBlock ≠ some b:=fun e=>by have:=(UB.out.lt _ e).1; omega
      have a2:u4.ownBlock ≠ some b2:=fun e=>by have:=(UB.out.lt _ e).1; omega
      have l4:w.heap.size≤wr.heap.size:=HB2.out.size;obtain ⟨xs,hxs⟩:∃ xs,xs=iG (FQ (dA rs k ++ iV rs[k] j)):=⟨_,rfl⟩;obtain ⟨n,hn⟩:∃ n,n=(dA rs k ++ iV rs[k] j).length:=⟨_,rfl⟩;have hown:=UB.out;rw [← hxs,← hn] at hown;have hnl:n≤1000:=by
        have h1:=HU.out;have h2:=Cz rs[k] j;have h3:=V5.out;rw [hn,T9]; omega
      have HFX:Hid (iG (FQ (dA rs k ++ iV rs[k] (j + 1)))=xs ++ [.string rs[k].name,.string rs[k].rows[j].name,.int .i64 0]):=by
        show _=_;rw [tC _ _ hjl,← List.append_assoc,Oa,zD,← hxs]; rfl
      have Wx:Hid ((dA rs k ++ iV rs[k] (j + 1)).length=n + 1):=by show _=_; rw [tC _ _ hjl,← List.append_assoc,T9,← hn]; rfl
      clear hr2 had t1 hxs hn UB;go_wp2_with fail
      go_region_held3 (fun w'=>w'.cell? ⟨b,off + k * 2,none⟩=some (.string rs[k].name)∧w'.cell? ⟨b,off + k * 2 + 1,none⟩=some (.slice (some ⟨b2,UZ,none⟩) rs[k].rows.length rs[k].cap)∧w'.cell? ⟨b2,UZ + j * 2,none⟩=some (.string rs[k].rows[j].name))
        (first
          | go_keep
          | (go_split_ands
             refine ⟨?_,?_,?_⟩
             · (rw [hgrow.cell_far _ (by simp; omega) (Ne.symm a1)]; assumption)
             · (rw [hgrow.cell_far _ (by simp; omega) (Ne.symm a1)]; assumption)
             · (rw [hgrow.cell_far _ (by simp; omega) (Ne.symm a2)]; assumption)))
        ((refine step_append_lies _ (by rfl) _ _ _ (by rfl) w.heap.size 162 i0 _ 3 40 underlying158 hi hz0 hz1 hz2 rfl (by omega) u4 n xs (by rfl) ((hown.alloc _).drew)
            ⟨wr.heap.size,0,none⟩ 1 1 [.string rs[k].name,.string rs[k].rows[j].name,.int .i64 0] (by rfl) (by rfl) (World.news_of_block (cs:=#[.string rs[k].name,.string rs[k].rows[j].name,.int .i64 0]) (t:=162) (fr:=(0,0)) (heap_alloc_new wr _)) (by simp [Value.oneCell'])
            (by omega) (by unfold maxLen; omega) (by omega) (by simp; omega) (wr.heap.size + 1) (by simp) ?_; intro gg cp w5 hown5 hgrow hat hlt5))
      have hb5:Hid (ag w w5):=((HB2.out.alloc HB2.out.size _).drew).grown hgrow (by simp; omega) (fun i hi=>(hown.lt i hi).1);have UK:Hid (w5.ownsRow w.heap.size 162 3 (.slice (some ⟨gg,0,none⟩) (n + 1) cp) (dA rs k ++ iV rs[k] (j + 1)).length (iG (FQ (dA rs k ++ iV rs[k] (j + 1))))):=by
        show World.ownsRow _ _ _ _ _ _ _;rw [HFX.out,Wx.out]; exact hown5
      have h6:=V5.out;clear hown5 hgrow hat hown;go_wp2;go_roundw;case rel=>exact ⟨j + 1,by omega,by go_num,UK,hb5⟩
      simp [intOf] <;> omega
    · obtain rfl:j=rs[k].rows.length:=by omega
      have UK:Hid (wr.ownsRow w.heap.size 162 3 u4 (dA rs (k + 1)).length (iG (FQ (dA rs (k + 1))))):=by
        show World.ownsRow _ _ _ _ _ _ _;rw [o6 _ _ hlt]; exact UB.out
      clear UB;go_wp2;go_roundw;case rel=>exact ⟨k + 1,by omega,by go_num,UK,HB2⟩
      simp [intOf] <;> omega
  · obtain rfl:k=rs.length:=by omega
    have WB:Hid (dA rs rs.length=ak (ae rs)):=by show _=_; unfold dA; rw [Ug]
    have HN36:Hid ((ak (ae rs)).length≤36):=by
      have h1:=wC rs Yx.out rs.length;have h2:=WB.out;show _≤_;rw [← h2]; omega
    obtain ⟨n,hn⟩:∃ n,n=(ak (ae rs)).length:=⟨_,rfl⟩;have hown:=HOW.out;rw [WB.out,← Ef] at hown;obtain ⟨V9,cpO,g,rfl,hrow⟩:=Qt HB.out hown;have HP0:Hid (Pass (ae rs) n true (FQ (ak (ae rs)))):=Pass.zero hn;have Vy:=az hrow;have hn36:n≤36:=by rw [hn]; exact HN36.out
    have Wx:Hid (n=(ak (ae rs)).length):=hn;rw [Ef,← hn];clear hown HOW hrow hn WB HN36 HB;go_wp2_with fail;go_loopw [7] (fun m w1=>∃ (mb:Bool) (out:List St),m=.bool mb∧Hid (Pass (ae rs) n mb out)∧Hid (RowS w w1 V9 g out)) (fun m w1=>CG w1 g n m);case atStart=>exact ⟨true,_,rfl,HP0,Vy⟩
    clear HP0 Vy;obtain ⟨mb,oS,rfl,WU,HRS⟩:=hrel;cases mb;case false=>
      go_wp2;exact bodyPost_ret (v:=.tuple #[.slice V9 n cpO,.bool true]) (by simp [results,Tryz.results96,go_sem]) rfl ⟨.inl ⟨V9,cpO,oS,by rw [WU.out.len],HRS.out.slN,WU.out.round.keys,WU.out.least⟩,HRS.out.below⟩
    have WG:Hid (oS.length=n):=WU.out.len;have HM0:Hid (Mid (ae rs) n oS 0 0 false oS):=Mid.start WU.out.len WU.out.nn WU.out.round WU.out.le;obtain ⟨w0,hw0⟩:∃ w0,w0=wr:=⟨_,rfl⟩;subst hw0;go_wp2_with fail;go_loopw [7,8] (fun m i w1=>∃ (mb:Bool) (k:Nat) (out:List St),m=.bool mb∧k≤n∧i=.int .i64 k∧Hid (Mid (ae rs) n oS k 0 mb out)∧Hid (RowS w w1 V9 g out)) (fun _ i _=>n - (intOf i).toNat);case atStart=>exact ⟨false,0,oS,rfl,TW _,rfl,HM0,HRS⟩
    clear HM0;obtain ⟨mb,k,out,rfl,hk,rfl,HM,HR⟩:=hrel;by_cases hlt:k < n
    · have hko:k < out.length:=by rw [HM.out.len]; exact hlt
      have hke:k < (ak (ae rs)).length:=by rw [← Wx.out]; exact hlt
      have hk1:=bB k;have hk2:(k:Int) < (n:Int):=by omega
      rcases HR.out.at' with e | ⟨rfl,hgw,hgl,hO,-⟩
      · rw [e] at hko; simp at hko
      obtain ⟨c0,c1,c2⟩:=hO k hko;have YY:Hid (out[k].key=(ak (ae rs))[k]):=HM.out.key hko hke;have UG:∀ w',ag wr w'→kW w' ad rs:=fun w' h=>HS.out.below (HR.out.below.trans (h.mono HR.out.below.size));have c3:wr.drew.cell? ⟨g,k * 3,none⟩=some (.string out[k].typ)∧wr.drew.cell? ⟨g,k * 3 + 1,none⟩=some (.string out[k].rel)∧g < wr.drew.heap.size∧ag wr wr.drew:=⟨c0,c1,hgl,(TT _ _).drew⟩;clear hO c2;go_wp2_with fail
      go_region_held3 (fun w'=>w'.cell? ⟨g,k * 3,none⟩=some (.string out[k].typ)∧w'.cell? ⟨g,k * 3 + 1,none⟩=some (.string out[k].rel)∧g < w'.heap.size∧ag wr w')
        (first | exact c3 | assumption | exact keepD (by assumption) hbx)
        (first | (go_at_call 97; refine (jd ad cap rs _ _ _ (by omega) (UG _ (by first | assumption | exact c3.2.2.2)) HL.out).mono ?_; rintro e w' ⟨⟨rows,UC,capE,rfl,hex,hse,hfs⟩,rfl⟩) | (go_at_call 139; refine (Io ad UC cap capE rs _ rows _ (by omega) (UG _ (by first | assumption | exact c3.2.2.2)) HL.out (hfs.small V8.out).1 hse (hfs.light HL.out).2 (hfs.small V8.out).2 (zI rs HL.out _ rows (hfs.small V8.out).1 (hfs.light HL.out).2)).mono ?_; rintro e w' ⟨⟨v,rfl,hown⟩,hbx⟩))
      rename_i hHeld;have VQ:Hid (ag wr w'):=hHeld.2.2.2;have UT:Hid (RowS w w' (some ⟨g,0,none⟩) g out):=HR.out.kept hHeld.2.2.2;have HDK:Hid (pR (ae rs) out[k].typ (aj rows)=il (ae rs) (ak (ae rs))[k]):=by
        show _=_;rw [← YY.out,hex]; rfl
      obtain ⟨ds,hds⟩:∃ ds,ds=il (ae rs) (ak (ae rs))[k]:=⟨_,rfl⟩;rw [HDK.out,← hds] at hown;obtain ⟨adD,cpD,rfl,hD⟩:=Tn hown;have HD5:=az hD;have hdl:ds.length≤100000000:=by
        have:=zI rs HL.out out[k].typ rows (hfs.small V8.out).1 (hfs.light HL.out).2 (aj rows).length;have e:=HDK.out;unfold pR at e;rw [e,← hds] at this;exact this
      have HDS:Hid (ds=il (ae rs) (ak (ae rs))[k]):=hds;have HKM:Hid ((ak (ae rs))[k] ∈ ak (ae rs)):=TQ hke;clear hHeld hown hD hds HDK c0 c1 c3 hex hse hfs hbx UG YY;obtain ⟨wq,hwq⟩:∃ wq,wq=wr:=⟨_,rfl⟩;subst hwq;go_wp2_with fail;go_loopw [7,10] (fun m i w2=>∃ (mb:Bool) (j:Nat) (o2:List St),m=.bool mb∧j≤ds.length∧i=.int .i64 j∧Hid (Mid (ae rs) n oS k j mb o2)∧Hid (RowS w w2 (some ⟨g,0,none⟩) g o2)∧Hid (Rs w2 wq.heap.size adD ds)) (fun _ i _=>ds.length - (intOf i).toNat);case atStart=>exact ⟨mb,0,out,rfl,TW _,rfl,HM,UT,HD5⟩
      clear HM HR UT HD5 VQ;obtain ⟨mc,j,o2,rfl,hj,rfl,Vd,HR2,HD2⟩:=hrel;have VK:k < o2.length:=by rw [Vd.out.len]; exact hlt
      rcases HR2.out.at' with e | ⟨-,hgw2,hgl2,hO2,hfz2⟩
      · rw [e] at VK; simp at VK
      have f2:=hfz2 (k * 3 + 2);obtain ⟨z0,z1,z2⟩:=hO2 k VK;by_cases hjl:j < ds.length
      · rcases HD2.out with e | ⟨bd,rfl,hbd,hbl,hDc⟩
        · rw [e] at hjl; simp at hjl
        obtain ⟨x0,x1,x2⟩:=hDc j hjl;have HKE2:Hid (o2[k].key=(ak (ae rs))[k]):=Vd.out.key VK hke;have HDJ:Hid ((il (ae rs) o2[k].key)[j]?=some ds[j]):=by
          show _=_;rw [HKE2.out,← HDS.out]; exact TY hjl
        have HDF:Hid ((ds[j].typ,ds[j].rel) ∈ ak (ae rs)):=HF.out _ HKM.out ds[j] (by rw [← HDS.out]; exact TQ hjl);obtain ⟨i,hi2,hat,hin,hpos,hub⟩:=Vd.out.at _ HDF.out;obtain ⟨y0,y1,y2⟩:=hO2 i hi2;have hi3:i < n:=by rw [← Vd.out.len]; exact hi2
        have HW:Hid (o7 o2 ds[j]=fO o2 (ds[j].typ,ds[j].rel) + stepOf ds[j]):=rfl;have HL2:Hid (o2.length=n):=Vd.out.len;have HSN:Hid (Ik wr (some ⟨g,0,none⟩) o2):=HR2.out.slN;rw [hin] at y2;obtain ⟨x,hx⟩:∃ x,x=fO o2 (ds[j].typ,ds[j].rel):=⟨_,rfl⟩;have HX:Hid (o7 o2 ds[j]=x + stepOf ds[j]):=by rw [hx]; exact HW
        rw [← hx] at hpos hub y2;obtain ⟨kn,hkn⟩:∃ kn,kn=o2[k].n:=⟨_,rfl⟩;rw [← hkn] at z2;have ZP:Hid (kn=o2[k].n):=hkn;have hkn1:0≤kn:=by rw [hkn]; exact Vd.out.round.pos _ (TQ VK)
        have hkn2:kn≤n + 1 + j:=by rw [hkn]; exact Vd.out.lek VK
        have hj1:=bB j;have hj2:(j:Int) < (ds.length:Int):=by omega
        have hi4:=bB i;have hi5:(i:Int) < (n:Int):=by omega
        have HAT:Hid (gP ds[j].typ ds[j].rel o2 0=(i:Int)):=hat;have hx5:(2:Int) < 5:=by omega
        clear hfz2 hO2 hDc hx hkn hin y0 y1 hi2 HW hat z0 z1;go_wp2_with fail
        go_region_held3 (fun w'=>w'.cell? ⟨bd,j * 3,none⟩=some (.string ds[j].typ)∧w'.cell? ⟨bd,j * 3 + 1,none⟩=some (.string ds[j].rel)∧w'.cell? ⟨g,i * 3 + 2,none⟩=some (.int .i64 x))
          (first | assumption | exact ⟨x0,x1,y2⟩)
          (first | (go_at_call 140; refine (Si (some ⟨g,0,none⟩) cpO n o2 (ds[j].typ,ds[j].rel) _ HL2.out (by omega) (by first | exact HSN.out | assumption) i HAT.out).mono ?_; rintro e w' ⟨rfl,rfl⟩))
        rename_i hHeld2;have HR3:Hid (RowS w wr.drew (some ⟨g,0,none⟩) g o2):=HR2.out.kept ((TT _ _).drew);have HD3:Hid (Rs wr.drew wq.heap.size (some ⟨bd,0,none⟩) ds):=HD2.out;clear hHeld2 x0 x1 y2;cases hneg:ds[j].neg
        case' true =>
          have Xh:Hid (o7 o2 ds[j]=x + 1):=by show _=_; rw [HX.out]; simp [stepOf,hneg]
          rw [hneg] at x2;by_cases hgt:kn < x + 1
          · have XY:Hid (Mid (ae rs) n oS k (j + 1) true (o2.set k ⟨o2[k].typ,o2[k].rel,x + 1⟩)):=by
              have:=Vd.out.yes HF.out VK ds[j] HDJ.out (by rw [Xh.out,← ZP.out]; exact hgt);rw [Xh.out] at this; exact this
            have HR4:Hid (RowS w (wr.drew.setCell ⟨g,k * 3 + 2,none⟩ (.int .i64 (x + 1))) (some ⟨g,0,none⟩) g (o2.set k ⟨o2[k].typ,o2[k].rel,x + 1⟩)):=HR3.out.set VK (x + 1);have HD4:Hid (Rs (wr.drew.setCell ⟨g,k * 3 + 2,none⟩ (.int .i64 (x + 1))) wq.heap.size (some ⟨bd,0,none⟩) ds):=HD3.out.set hgl;clear Vd HR2 HR3 HD2 HD3;go_wp2;go_roundw;case rel=>exact ⟨true,j + 1,_,rfl,by omega,by go_num,XY,HR4,HD4⟩
            simp [intOf] <;> omega
        case' false =>
          have Xh:Hid (o7 o2 ds[j]=x):=by show _=_; rw [HX.out]; simp [stepOf,hneg]
          rw [hneg] at x2;by_cases hgt:kn < x
          · have XY:Hid (Mid (ae rs) n oS k (j + 1) true (o2.set k ⟨o2[k].typ,o2[k].rel,x⟩)):=by
              have:=Vd.out.yes HF.out VK ds[j] HDJ.out (by rw [Xh.out,← ZP.out]; exact hgt);rw [Xh.out] at this; exact this
            have HR4:Hid (RowS w (wr.drew.setCell ⟨g,k * 3 + 2,none⟩ (.int .i64 (x))) (some ⟨g,0,none⟩) g (o2.set k ⟨o2[k].typ,o2[k].rel,x⟩)):=HR3.out.set VK (x);have HD4:Hid (Rs (wr.drew.setCell ⟨g,k * 3 + 2,none⟩ (.int .i64 (x))) wq.heap.size (some ⟨bd,0,none⟩) ds):=HD3.out.set hgl;clear Vd HR2 HR3 HD2 HD3;go_wp2;go_roundw;case rel=>exact ⟨true,j + 1,_,rfl,by omega,by go_num,XY,HR4,HD4⟩
            simp [intOf] <;> omega
        all_goals
          · have XY:Hid (Mid (ae rs) n oS k (j + 1) mc o2):=Vd.out.no VK ds[j] HDJ.out (by rw [Xh.out,← ZP.out]; omega);clear Vd HR2 HD2;go_wp2;go_roundw;case rel=>exact ⟨mc,j + 1,o2,rfl,by omega,by go_num,XY,HR3,HD3⟩
            simp [intOf] <;> omega
      · obtain rfl:j=ds.length:=by omega
        have HKE2:Hid (o2[k].key=(ak (ae rs))[k]):=Vd.out.key VK hke;have HJ:Hid (ds.length=(il (ae rs) o2[k].key).length):=by show _=_; rw [HKE2.out,← HDS.out]
        clear z0 z1 hO2 hfz2 f2;by_cases hov:(n:Int) < o2[k].n
        · have Wu:Hid (¬ ∃ f,Sol (ae rs) f):=Vd.out.over HF.out VK hov;have hkn2:o2[k].n≤n + 1 + ds.length:=Vd.out.lek VK;go_wp2;exact bodyPost_ret (v:=.tuple #[.slice none 0 0,.bool false]) (by simp [results,Tryz.results96,go_sem]) rfl ⟨.inr ⟨rfl,Wu.out⟩,HR2.out.below⟩
        · have XY:Hid (Mid (ae rs) n oS (k + 1) 0 mc o2):=Vd.out.next VK HJ.out (by omega);clear Vd;go_wp2;go_roundw;case rel=>exact ⟨mc,k + 1,o2,rfl,by omega,by go_num,XY,HR2⟩
          simp [intOf] <;> omega
    · obtain rfl:k=n:=by omega
      have UI:Hid (Pass (ae rs) k mb out):=HM.out.done rfl;have HLS:Hid (CG wr g k (.bool mb) < CG w0 g k (.bool true)):=Iw HRS.out HR.out HM.out WG.out;go_wp2;go_roundw;case rel=>exact ⟨mb,out,rfl,UI,HR⟩
      exact HLS.out
open Go.Maps
set_option linter.unusedVariables false
set_option maxRecDepth 100000
def fM (u:Bool) (ts:List Tp):List Al:=if u then cZ ts else eB ts
def iM (u:Bool) (xs:List Al) (t:Tp):Nat→List Al
 | 0=>xs
 | 1=>if u then xs else aZ xs ⟨t.a,t.b⟩
 | _=>if u then cu xs t else fP xs t
theorem Gl (u:Bool) {ts:List Tp} {k:Nat} (h:k < ts.length):fM u (ts.take (k + 1))=iM u (fM u (ts.take k)) ts[k] 2:=by
 rw [TV h];cases u
 ·exact Ak _ _
 exact xK _ _
theorem Ja (u:Bool) (ts:List Tp):(fM u ts).length≤2 * ts.length:=by
 cases u
 ·have key:∀ (ts:List Tp) (xs:List Al),(ts.foldl fP xs).length≤xs.length + 2 * ts.length:=by
   intro ts
   induction ts with
   | nil=>intro xs; simp
   | cons t ts ih=>intro xs; have h1:=ih (fP xs t); have h2:=qI xs t; simp only [List.foldl_cons,List.length_cons]; omega
  have:=key ts [];simpa [fM,eB] using this
 have key:∀ (ts:List Tp) (xs:List Al),(ts.foldl cu xs).length≤xs.length + ts.length:=by
  intro ts
  induction ts with
  | nil=>intro xs; simp
  | cons t ts ih=>intro xs; have h1:=ih (cu xs t); have h2:=qJ xs t; simp only [List.foldl_cons,List.length_cons]; omega
 have:=key ts [];simp [fM,cZ] at this ⊢;omega
theorem OM (u:Bool) (xs:List Al) (t:Tp) (q:Nat):(iM u xs t q).length≤xs.length + 2:=by
 match q with
 | 0=>simp [iM]
 | 1=>have:=oo xs ⟨t.a,t.b⟩; cases u <;> simp [iM]; omega
 | q + 2=>have h1:=qJ xs t; have h2:=qI xs t; cases u <;> simp [iM] <;> omega
theorem Jb {xs:List Al} {o:Al} {k:Nat} (h:k < xs.length):mI (xs.take (k + 1)) o=(mI (xs.take k) o || Ah xs[k].t xs[k].s o.t o.s):=by
 unfold mI;rw [TV h,List.any_append];simp [jS,Ah]
theorem RG (w:af) (o:Al):∀ j u,[Value.string o.t,.string o.s][j]?=some u→(w.alloc (.cells #[.string o.t,.string o.s] 27)).cell? ((⟨w.heap.size,0,none⟩:Addr).add j)=some u:=fun j u hu=>by
 match j,hu with
 | 0,hu=>simp at hu; subst hu; simp [Addr.add]
 | 1,hu=>simp at hu; subst hu; simp [Addr.add]
theorem jM.at0 {w:af} {ad:Option Addr} {xs:List Al} (h:jM w ad xs) {k:Nat} (hk:k < xs.length):∃ b off,ad=some ⟨b,off,none⟩∧RQ w b (off + k * 2) xs[k]∧b < w.heap.size:=by
 rcases h with h | ⟨b',off',e,hb,hr⟩
 ·rw [h] at hk; simp at hk
 exact ⟨b',off',e,hr k hk,hb⟩
theorem sw (ad:Option Addr) (cap:Nat) (ts:List Tp) (u:Bool) (w:af) (hlt:ts.length≤40) (hst:Sl w ad ts) :
  Calls prog 95 #[.slice ad ts.length cap,.bool u] w fun e w'=>(∃ v,e=.returned v∧w'.ownsRow w.heap.size 27 2 v (fM u ts).length (pairs (fM u ts)))∧ag w w':=by
 obtain ⟨iO,h0,h1,h2,h3⟩:=Aj;have Yp:=aD (And.intro h0 (And.intro h1 (And.intro h2 h3)));have HST:=aD hst;obtain ⟨W0,hW0⟩:∃ W0,W0=w.alloc (.cells #[] 27):=⟨_,rfl⟩;have HB0:=qY hW0;have Vg:Hid (W0.ownsRow w.heap.size 27 2 (.slice (some ⟨w.heap.size,0,none⟩) 0 0) (fM u (ts.take 0)).length (pairs (fM u (ts.take 0)))):=by
  have e:fM u (ts.take 0)=[]:=by cases u <;> rfl
  show World.ownsRow _ _ _ _ _ _ _;rw [hW0,e];exact World.ownsRow_lit w #[] 0 (TS _) (by unfold maxLen; omega) (by simp)
 clear hst h0 h1 h2 h3;go_enter func95,ntmps95;go_wp2_with fail;rw [← hW0];clear hW0;go_loopw [5,6] (fun v i wr=>∃ k:Nat,k≤ts.length∧i=.int .i64 k∧Hid (wr.ownsRow w.heap.size 27 2 v (fM u (ts.take k)).length (pairs (fM u (ts.take k))))∧Hid (ag w wr)) (fun _ i _=>ts.length - (intOf i).toNat);case atStart=>exact ⟨0,TW _,rfl,Vg,HB0⟩
 clear Vg HB0;obtain ⟨k,hk,rfl,HOW,UG⟩:=hrel;by_cases hlt2:k < ts.length
 ·have Zm:=aD (Gl u hlt2);obtain ⟨x,hx⟩:∃ x,x=ts[k]:=⟨_,rfl⟩;obtain ⟨xs,hxs⟩:∃ xs,xs=fM u (ts.take k):=⟨_,rfl⟩;have hxl:xs.length≤80:=by have:=Ja u (ts.take k); rw [Ut] at this; rw [hxs]; omega
  rw [← hx,← hxs] at Zm;rw [← hxs] at HOW;have HX:=aD hx;have hi1:=bB k;have hi2:(k:Int) < (ts.length:Int):=by omega
  clear hxs hx;go_wp2;go_loopw [5,7] (fun v i w2=>∃ q:Nat,q≤2∧i=.int .i64 q∧Hid (w2.ownsRow w.heap.size 27 2 v (iM u xs x q).length (pairs (iM u xs x q)))∧Hid (ag w w2)) (fun _ i _=>2 - (intOf i).toNat);case atStart=>exact ⟨0,by omega,rfl,HOW,UG⟩
  obtain ⟨w2,rfl⟩:∃ w2,w2=wr:=⟨_,rfl⟩;obtain ⟨q,hq,rfl,UB,HB2⟩:=hrel;have hi1:=bB k;have hi2:(k:Int) < (ts.length:Int):=by omega
  have hsl:=OM u xs x q;obtain ⟨b,off,UF,⟨t0,t1,t2,t3,t4,t5⟩,hb⟩:=Sl.at0 (HST.out.below HB2.out) hlt2;rw [← HX.out] at t0 t1 t2 t3 t4 t5;subst UF;by_cases hq2:q < 2
  ·have hc:q=0 ∨ q=1:=by omega
   rcases hc with rfl | rfl
   case' inl =>
    cases u;case true =>
     have HE:Hid (iM true xs x 1=iM true xs x 0):=rfl;have HR:Hid ((w2.alloc (.cells #[.string x.a,.string x.b] 27)).ownsRow w.heap.size 27 2 u5 (iM true xs x 1).length (pairs (iM true xs x 1))):=by show World.ownsRow _ _ _ _ _ _ _; rw [HE.out]; exact UB.out.alloc _
     have XZ:Hid (ag w (w2.alloc (.cells #[.string x.a,.string x.b] 27))):=HB2.out.alloc HB2.out.size _;go_wp2;exact ⟨⟨1,by omega,rfl,HR,XZ⟩,by decide⟩
    obtain ⟨o,ho⟩:∃ o:Al,o=⟨x.a,x.b⟩:=⟨_,rfl⟩;have Xp:Hid (iM false xs x (0 + 1)=aZ (iM false xs x 0) o):=by show _=_; rw [ho]; rfl
    obtain ⟨ys,hys⟩:∃ ys,ys=iM false xs x 0:=⟨_,rfl⟩;rw [← hys] at Xp UB hsl;obtain ⟨ns,hns⟩:∃ ns,ns=iM false xs x (0 + 1):=⟨_,rfl⟩;have U6:Hid (∀ (W:World) (v:Value),W.ownsRow w.heap.size 27 2 v ns.length (pairs ns)→W.ownsRow w.heap.size 27 2 v (iM false xs x (0 + 1)).length (pairs (iM false xs x (0 + 1)))):=fun W v h=>by rw [← hns]; exact h
    rw [← hns] at Xp;clear hns;clear hys;have hx1:x.a=o.t:=by rw [ho]
    have hx2:x.b=o.s:=by rw [ho]
    clear ho;obtain ⟨V9,VT,rfl,hsO⟩:=kz UB.out;have HSO:=aD hsO;obtain ⟨W1,hW1⟩:∃ W1,W1=w2.alloc (.cells #[.string o.t,.string o.s] 27):=⟨_,rfl⟩;have VL:=qY hW1;have hz1:w2.heap.size < W1.heap.size:=by rw [hW1]; simp
    have d0:W1.cell? ⟨w2.heap.size,0,none⟩=some (.string o.t):=by rw [hW1]; simp
    have d1:W1.cell? ⟨w2.heap.size,1,none⟩=some (.string o.s):=by rw [hW1]; simp
    clear hsO;go_wp2_with fail;rw [← hW1];clear hW1 t0 t1 t2 t3 t4 t5 hx1 hx2
   case' inr =>
    cases u
    case' true =>
     cases hz:x.s.toList.isEmpty;case false =>
      have hs2:(x.s.toList == [])=false:=by rw [mV]; exact hz
      have HE:Hid (iM true xs x 2=iM true xs x 1):=by show cu xs x=xs; unfold cu; rw [hs2]; rfl
      have HR:Hid ((w2.alloc (.cells #[.string x.c,.string x.d] 27)).ownsRow w.heap.size 27 2 u5 (iM true xs x 2).length (pairs (iM true xs x 2))):=by show World.ownsRow _ _ _ _ _ _ _; rw [HE.out]; exact UB.out.alloc _
      have XZ:Hid (ag w (w2.alloc (.cells #[.string x.c,.string x.d] 27))):=HB2.out.alloc HB2.out.size _;go_wp2;exact ⟨⟨2,by omega,rfl,HR,XZ⟩,by decide⟩
     have hs2:(x.s.toList == [])=true:=by rw [mV]; exact hz
     obtain ⟨o,ho⟩:∃ o:Al,o=⟨x.c,x.d⟩:=⟨_,rfl⟩;have Xp:Hid (iM true xs x (1 + 1)=aZ (iM true xs x 1) o):=by show _=_; rw [ho]; show cu xs x=_; unfold cu; rw [hs2]; rfl
     obtain ⟨ys,hys⟩:∃ ys,ys=iM true xs x 1:=⟨_,rfl⟩;rw [← hys] at Xp UB hsl;obtain ⟨ns,hns⟩:∃ ns,ns=iM true xs x (1 + 1):=⟨_,rfl⟩;have U6:Hid (∀ (W:World) (v:Value),W.ownsRow w.heap.size 27 2 v ns.length (pairs ns)→W.ownsRow w.heap.size 27 2 v (iM true xs x (1 + 1)).length (pairs (iM true xs x (1 + 1)))):=fun W v h=>by rw [← hns]; exact h
     rw [← hns] at Xp;clear hns;clear hys;have hx1:x.c=o.t:=by rw [ho]
     have hx2:x.d=o.s:=by rw [ho]
     clear ho;obtain ⟨V9,VT,rfl,hsO⟩:=kz UB.out;have HSO:=aD hsO;obtain ⟨W1,hW1⟩:∃ W1,W1=w2.alloc (.cells #[.string o.t,.string o.s] 27):=⟨_,rfl⟩;have VL:=qY hW1;have hz1:w2.heap.size < W1.heap.size:=by rw [hW1]; simp
     have d0:W1.cell? ⟨w2.heap.size,0,none⟩=some (.string o.t):=by rw [hW1]; simp
     have d1:W1.cell? ⟨w2.heap.size,1,none⟩=some (.string o.s):=by rw [hW1]; simp
     clear hsO;go_wp2_with fail;rw [← hW1];clear hW1 t0 t1 t2 t3 t4 t5 hx1 hx2
    case' false =>
     obtain ⟨o,ho⟩:∃ o:Al,o=⟨x.c,x.d⟩:=⟨_,rfl⟩;have Xp:Hid (iM false xs x (1 + 1)=aZ (iM false xs x 1) o):=by show _=_; rw [ho]; rfl
     obtain ⟨ys,hys⟩:∃ ys,ys=iM false xs x 1:=⟨_,rfl⟩;rw [← hys] at Xp UB hsl;obtain ⟨ns,hns⟩:∃ ns,ns=iM false xs x (1 + 1):=⟨_,rfl⟩;have U6:Hid (∀ (W:World) (v:Value),W.ownsRow w.heap.size 27 2 v ns.length (pairs ns)→W.ownsRow w.heap.size 27 2 v (iM false xs x (1 + 1)).length (pairs (iM false xs x (1 + 1)))):=fun W v h=>by rw [← hns]; exact h
     rw [← hns] at Xp;clear hns;clear hys;have hx1:x.c=o.t:=by rw [ho]
     have hx2:x.d=o.s:=by rw [ho]
     clear ho;obtain ⟨V9,VT,rfl,hsO⟩:=kz UB.out;have HSO:=aD hsO;obtain ⟨W1,hW1⟩:∃ W1,W1=w2.alloc (.cells #[.string o.t,.string o.s] 27):=⟨_,rfl⟩;have VL:=qY hW1;have hz1:w2.heap.size < W1.heap.size:=by rw [hW1]; simp
     have d0:W1.cell? ⟨w2.heap.size,0,none⟩=some (.string o.t):=by rw [hW1]; simp
     have d1:W1.cell? ⟨w2.heap.size,1,none⟩=some (.string o.s):=by rw [hW1]; simp
     clear hsO;go_wp2_with fail;rw [← hW1];clear hW1 t0 t1 t2 t3 t4 t5 hx1 hx2
   all_goals
    go_loopw [9,10] (fun ov j w3=>∃ (m:Nat) (bb:Bool),m≤ys.length∧ov=.bool bb∧j=.int .i64 m∧Hid (bb=mI (ys.take m) o)∧Hid (ag W1 w3)) (fun _ j _=>ys.length - (intOf j).toNat);case atStart=>exact ⟨0,false,TW _,rfl,rfl,rfl,TT _ _⟩
    obtain ⟨m,bb,hm,rfl,rfl,Wd,HB3⟩:=hrel;have HBx:Hid (ag w2 wr):=VL.out.trans (HB3.out.mono VL.out.size);have HBw:Hid (ag w wr):=HB2.out.trans (HBx.out.mono HB2.out.size);have HOx:=aD (cO UB.out HBx.out);have c0:=mK HB3.out hz1 d0;have c1:=mK HB3.out hz1 d1;have hz3:w2.heap.size < wr.heap.size:=TP hz1 HB3.out.size;by_cases hlm:m < ys.length
    ·obtain ⟨bO,U8,XB,⟨s0,s1⟩,hbO⟩:=jM.at0 (HSO.out.below HBx.out) hlm;have hm1:=bB m;have hm2:(m:Int) < (ys.length:Int):=by omega
     have HTK:=aD (Jb (o:=o) hlm);cases bb;case true=>
      have X0:Hid (true=mI (ys.take (m + 1)) o):=by show _=_; rw [HTK.out,← Wd.out]; rfl
      clear s0 s1 c0 c1;go_wp2_with fail;go_quiet (fail);go_wp2;go_roundw;case rel=>exact ⟨m + 1,true,by omega,rfl,by go_num,X0,below_drewN HB3.out _⟩
      simp [intOf] <;> omega
     cases hv:Ah ys[m].t ys[m].s o.t o.s;case true=>
      have heq:=jH _ _ _ _ hv;have X0:Hid (true=mI (ys.take (m + 1)) o):=by show _=_; rw [HTK.out,hv]; simp
      clear hv;go_wp2_with fail;go_quiet (fail);go_wp2;go_roundw;case rel=>exact ⟨m + 1,true,by omega,rfl,by go_num,X0,below_drewN HB3.out _⟩
      simp [intOf] <;> omega
     have heq:=jH _ _ _ _ hv;have X0:Hid (false=mI (ys.take (m + 1)) o):=by show _=_; rw [HTK.out,hv,← Wd.out]; rfl
     clear hv;go_wp2_with fail;go_quiet (fail);go_wp2;go_roundw;case rel=>exact ⟨m + 1,false,by omega,rfl,by go_num,X0,below_drewN HB3.out _⟩
     simp [intOf] <;> omega
    have UN:Hid (bb=mI ys o):=by show _=_; rw [Wd.out,List.take_of_length_le (by omega)]
    cases bb;case true=>
     have HR:Hid (wr.ownsRow w.heap.size 27 2 (.slice V9 ys.length VT) (ns).length (pairs (ns))):=by
      show World.ownsRow _ _ _ _ _ _ _;rw [Xp.out]; unfold aZ; rw [← UN.out]; exact HOx.out
     clear UN c0 c1;go_wp2;have HR2:=aD (U6.out _ _ HR.out)
     first | exact ⟨⟨0 + 1,by omega,rfl,HR2,HBw⟩,by decide⟩ | exact ⟨⟨1 + 1,by omega,rfl,HR2,HBw⟩,by decide⟩
    have HWE:Hid (aZ ys o=ys ++ [o]):=by show _=_; unfold aZ; rw [← UN.out]; rfl
    obtain ⟨W4,VU⟩:∃ W4,W4=wr.alloc (.cells #[.string o.t,.string o.s] 27):=⟨_,rfl⟩;have UR:Hid (W4.ownsRow w.heap.size 27 2 (.slice V9 ys.length VT) ys.length (pairs ys)):=by show World.ownsRow _ _ _ _ _ _ _; rw [VU]; exact HOx.out.alloc _
    have HN4:Hid (∀ j u,[Value.string o.t,.string o.s][j]?=some u→W4.cell? ((⟨wr.heap.size,0,none⟩:Addr).add j)=some u):=by rw [VU]; exact RG wr o
    have WY:Hid (ag w W4):=by show Below _ _ _; rw [VU]; exact HBw.out.alloc HBw.out.size _
    have hsz4:w.heap.size≤W4.heap.size:=WY.out.size;clear UN;go_wp2_with (at_builtin; rw [← VU]; clear VU; refine wpList_append_own_at _ rfl _ _ 49 rfl w.heap.size 27 iO (.agg #[.string ⟨#[]⟩,.string ⟨#[]⟩]) 2 32 underlying49 Yp.out.1 Yp.out.2.1 Yp.out.2.2.1 Yp.out.2.2.2 rfl (by decide) _ ys.length (pairs ys) rfl UR.out ⟨wr.heap.size,0,none⟩ 1 1 [.string o.t,.string o.s] rfl rfl HN4.out (by simp [Value.oneCell']) (by unfold maxLen; omega) (by omega) hsz4 ?_);intro v' w5 hown hgr _ _;have HR:Hid (w5.ownsRow w.heap.size 27 2 v' (ns).length (pairs (ns))):=by
     show World.ownsRow _ _ _ _ _ _ _;rw [Xp.out,HWE.out,T9];have:pairs (ys ++ [o])=pairs ys ++ [.string o.t,.string o.s]:=by simp [pairs]
     rw [this]; exact hown
    have XZ:Hid (ag w w5):=WY.out.grown hgr WY.out.size (fun g hg=>(UR.out.lt g hg).1);clear hown hgr c0 c1;go_wp2;have HR2:=aD (U6.out _ _ HR.out)
    first | exact ⟨⟨0 + 1,by omega,rfl,HR2,XZ⟩,by decide⟩ | exact ⟨⟨1 + 1,by omega,rfl,HR2,XZ⟩,by decide⟩
  have UX:Hid (w2.ownsRow w.heap.size 27 2 u5 (fM u (ts.take (k + 1))).length (pairs (fM u (ts.take (k + 1))))):=by
   have e:q=2:=by omega
   have h2:=UB.out;rw [e] at h2;show World.ownsRow _ _ _ _ _ _ _; rw [Zm.out]; exact h2
  go_wp2;go_roundw;case rel=>exact ⟨k + 1,by omega,by go_num,UX,HB2⟩
  simp [intOf] <;> omega
 have HE:Hid (fM u (ts.take k)=fM u ts):=by show _=_; rw [List.take_of_length_le (by omega)]
 have UX:Hid (wr.ownsRow w.heap.size 27 2 u5 (fM u ts).length (pairs (fM u ts))):=by show World.ownsRow _ _ _ _ _ _ _; rw [← HE.out]; exact HOW.out
 go_wp2;go_ret;exact ⟨⟨_,rfl,UX.out⟩,UG.out⟩
theorem Gm (v0:Value) (V6:Option Addr) (VM:Nat) (ts:List Tp) (UC:Option Addr) (capE:Nat) (rows:List ER) (n:Nat) (adK:Option Addr) (capK:Nat) (known:List Fc) (V7:Option Addr) (VN:Nat) (truth:List Fc) (f:Fc) (w:af) (hW:HW w V6 ts UC rows adK known V7 truth) (hn:n < rows.length) (hre:rows.length≤1000) (hkl:known.length≤1048576) (hk:rows[n].e.kind=2) :
  Calls prog 98 #[v0,.slice V6 ts.length VM,.slice UC rows.length capE,.int .i64 (n:Int),.slice adK known.length capK,.slice V7 truth.length VN,.agg #[.string f.a,.string f.b,.string f.r,.string f.c,.string f.d]] w fun e w'=>e=.returned (.bool (bP known ⟨f.a,f.b,rows[n].e.name,f.c,f.d⟩))∧ag w w':=by
 obtain ⟨b,off,UF,⟨t0,t1,t2,t3,t4⟩,hbl,-⟩:=iH.at0 hW.ex hn;have HW0:=aC hW;obtain ⟨W0,hW0⟩:∃ W0,W0=Gi w f rows[n]:=⟨_,rfl⟩;have HB0:Hid (ag w W0):=by show Below _ _ _; rw [hW0]; exact jU _ _ _
 have hk1:(rows[n].e.kind == 1)=false:=by rw [hk]; rfl
 have hk2:(rows[n].e.kind == 2)=true:=by rw [hk]; rfl
 have hn1:=bB n;have hn2:(n:Int) < (rows.length:Int):=by omega
 unfold Gi at hW0;rw [UF];clear UF hW hk;go_enter func98,ntmps98;go_wp2_with fail;rw [← hW0];refine (ol adK capK known ⟨f.a,f.b,rows[n].e.name,f.c,f.d⟩ W0 hkl (HW0.out.kn.below HB0.out)).mono ?_;rintro e w1 ⟨rfl,hb1⟩;have HB1:=aC (HB0.out.trans (hb1.mono HB0.out.size));clear hb1 hW0;go_wp2;go_ret;exact ⟨rfl,HB1.out⟩
theorem Jc (v0:Value) (V6:Option Addr) (VM:Nat) (ts:List Tp) (UC:Option Addr) (capE:Nat) (rows:List ER) (n:Nat) (vK vR:Value) (f:Fc) (w:af) (hex:iH w UC rows) (hn:n < rows.length) (hre:rows.length≤1000) (k1:rows[n].e.kind ≠ 1) (k2:rows[n].e.kind ≠ 2) (k3:rows[n].e.kind ≠ 3) (k4:rows[n].e.kind ≠ 4) (k5:rows[n].e.kind ≠ 5) (k6:rows[n].e.kind ≠ 6) :
  Calls prog 98 #[v0,.slice V6 ts.length VM,.slice UC rows.length capE,.int .i64 (n:Int),vK,vR,.agg #[.string f.a,.string f.b,.string f.r,.string f.c,.string f.d]] w fun e w'=>e=.returned (.bool false)∧ag w w':=by
 obtain ⟨b,off,UF,⟨t0,t1,t2,t3,t4⟩,hbl,-⟩:=iH.at0 hex hn;have HB0:=aC (jU w f rows[n]);unfold Gi at HB0;have hk1:(rows[n].e.kind == 1)=false:=by simpa using k1
 have hk2:(rows[n].e.kind == 2)=false:=by simpa using k2
 have hk3:(rows[n].e.kind == 3)=false:=by simpa using k3
 have hk4:(rows[n].e.kind == 4)=false:=by simpa using k4
 have hk5:(rows[n].e.kind == 5)=false:=by simpa using k5
 have hk6:(rows[n].e.kind == 6)=false:=by simpa using k6
 have hn1:=bB n;have hn2:(n:Int) < (rows.length:Int):=by omega
 rw [UF];clear UF hex k1 k2 k3 k4 k5 k6;go_enter func98,ntmps98;go_wp2;go_ret;exact ⟨rfl,HB0.out⟩
theorem Eu (v0:Value) (V6:Option Addr) (VM:Nat) (ts:List Tp) (UC:Option Addr) (capE:Nat) (rows:List ER) (n:Nat) (adK:Option Addr) (capK:Nat) (known:List Fc) (V7:Option Addr) (VN:Nat) (truth:List Fc) (f:Fc) (w:af) (hW:HW w V6 ts UC rows adK known V7 truth) (hn:n < rows.length) (hre:rows.length≤1000) (hkl:known.length≤1048576) (htl:ts.length≤1048576) (hk:rows[n].e.kind=1) :
  Calls prog 98 #[v0,.slice V6 ts.length VM,.slice UC rows.length capE,.int .i64 (n:Int),.slice adK known.length capK,.slice V7 truth.length VN,.agg #[.string f.a,.string f.b,.string f.r,.string f.c,.string f.d]] w fun e w'=>e=.returned (.bool (dY ts known f))∧ag w w':=by
 obtain ⟨b,off,UF,⟨t0,t1,t2,t3,t4⟩,hbl,-⟩:=iH.at0 hW.ex hn;have HW0:=aC hW;obtain ⟨W0,hW0⟩:∃ W0,W0=Gi w f rows[n]:=⟨_,rfl⟩;have HB0:Hid (ag w W0):=by show Below _ _ _; rw [hW0]; exact jU _ _ _
 have WB:Hid (EnB W0 w.heap.size f rows[n]):=by show EnB _ _ _ _; rw [hW0]; exact om _ _ _
 have hk1:(rows[n].e.kind == 1)=true:=by rw [hk]; rfl
 have hn1:=bB n;have hn2:(n:Int) < (rows.length:Int):=by omega
 unfold Gi at hW0;rw [UF];clear UF hW hk;go_enter func98,ntmps98;go_wp2_with fail;rw [← hW0];clear hW0 t0 t1 t2 t3 t4;go_loopw [16] (fun i wr=>∃ k:Nat,k≤ts.length∧i=.int .i64 k∧Hid (dY (ts.drop k) known f=dY ts known f)∧Hid (ag W0 wr)) (fun i _=>ts.length - (intOf i).toNat);case atStart=>exact ⟨0,TW _,rfl,rfl,TT _ _⟩
 obtain ⟨k,hk,rfl,HP,HB⟩:=hrel;have UG:Hid (ag w wr):=HB0.out.trans (HB.out.mono HB0.out.size);by_cases hlt:k < ts.length
 ·obtain ⟨bT,offT,WZ,⟨a0,a1,a2,a3,a4,a5⟩,hbT⟩:=Sl.at0 (HW0.out.tup.below UG.out) hlt;have hE:=WB.out.below HB.out;have e0:=hE.f0;have e1:=hE.f1;have e2:=hE.f2;have e3:=hE.f3;have e4:=hE.f4;have el:w.heap.size < wr.heap.size:=by have:=hE.lt; omega
  have hi1:=bB k;have hi2:(k:Int) < (ts.length:Int):=by omega
  obtain ⟨W1,hW1⟩:∃ W1,W1=wr.alloc (.cells #[.string ts[k].a,.string ts[k].b,.string ts[k].r,.string ts[k].c,.string ts[k].d,.string ts[k].s] 46):=⟨_,rfl⟩;have VL:=qY hW1;have HB1:Hid (ag W0 W1):=HB.out.trans (VL.out.mono HB.out.size);have Vo:Hid (ag w W1):=UG.out.trans (VL.out.mono UG.out.size);have HD:Hid (dY ts known f=(Ai known f ts[k] || dY (ts.drop (k + 1)) known f)):=by show _=_; rw [← HP.out]; exact I5 hlt known f
  rw [WZ];clear WZ hE;cases ho:Ah ts[k].a ts[k].b f.a f.b;case false=>
   have hneq:=Gh _ _ _ _ ho;have UI:Hid (dY (ts.drop (k + 1)) known f=dY ts known f):=by
    show _=_;unfold Ah at ho;rw [HD.out]; unfold Ai; rw [ho]; rfl
   clear ho;go_wp2;rw [← hW1];clear hW1;go_roundw;case rel=>exact ⟨k + 1,by omega,by go_num,UI,HB1⟩
   simp [intOf] <;> omega
  have hneq:=Gh _ _ _ _ ho;have HO:Hid (Ah ts[k].a ts[k].b f.a f.b=true):=ho;clear ho;cases hr:(ts[k].r.toList == f.r.toList);case false=>
   have UI:Hid (dY (ts.drop (k + 1)) known f=dY ts known f):=by
    show _=_;have h2:=HO.out;unfold Ah at h2;rw [HD.out]; unfold Ai; rw [h2,hr]; rfl
   go_wp2;rw [← hW1];clear hW1;go_roundw;case rel=>exact ⟨k + 1,by omega,by go_num,UI,HB1⟩
   simp [intOf] <;> omega
  have HT:Hid (Ai known f ts[k]=(if ts[k].s.toList.isEmpty then ts[k].c.toList == f.c.toList && ts[k].d.toList == f.d.toList else bP known ⟨ts[k].c,ts[k].d,ts[k].s,f.c,f.d⟩)):=by
   show _=_;have h2:=HO.out;unfold Ah at h2;unfold Ai; rw [h2,hr]; rfl
  cases hs:ts[k].s.toList.isEmpty;case true=>
   have hs2:(ts[k].s.toList == [])=true:=by rw [mV]; exact hs
   cases hu:Ah ts[k].c ts[k].d f.c f.d;case true=>
    have heq:=jH _ _ _ _ hu;have HN:Hid (dY ts known f=true):=by
     show _=_;unfold Ah at hu;rw [HD.out,HT.out,if_pos hs,hu]; rfl
    clear hu hs;go_wp2;rw [← hW1];go_ret;exact ⟨by rw [HN.out]; rfl,Vo.out⟩
   have heq:=jH _ _ _ _ hu;have UI:Hid (dY (ts.drop (k + 1)) known f=dY ts known f):=by
    show _=_;unfold Ah at hu;rw [HD.out,HT.out,if_pos hs,hu]; rfl
   clear hu hs;go_wp2;rw [← hW1];clear hW1;go_roundw;case rel=>exact ⟨k + 1,by omega,by go_num,UI,HB1⟩
   simp [intOf] <;> omega
  have hs2:(ts[k].s.toList == [])=false:=by rw [mV]; exact hs
  have HT2:Hid (Ai known f ts[k]=bP known ⟨ts[k].c,ts[k].d,ts[k].s,f.c,f.d⟩):=by show _=_; rw [HT.out,if_neg (by rw [hs]; decide)]
  clear hs;go_wp2_with fail;rw [← hW1];clear hW1;refine (ol adK capK known ⟨ts[k].c,ts[k].d,ts[k].s,f.c,f.d⟩ W1 hkl (HW0.out.kn.below Vo.out)).mono ?_;rintro e w2 ⟨rfl,hb2⟩;have HB2:=jP HB1 hb2;have YE:=jP Vo hb2;clear hb2;cases hh:bP known ⟨ts[k].c,ts[k].d,ts[k].s,f.c,f.d⟩;case true=>
   have HN:Hid (dY ts known f=true):=by show _=_; rw [HD.out,HT2.out,hh]; rfl
   go_wp2;go_ret;exact ⟨by rw [HN.out]; rfl,YE.out⟩
  have UI:Hid (dY (ts.drop (k + 1)) known f=dY ts known f):=by show _=_; rw [HD.out,HT2.out,hh]; rfl
  go_wp2;go_roundw;case rel=>exact ⟨k + 1,by omega,by go_num,UI,HB2⟩
  simp [intOf] <;> omega
 have HN:Hid (dY ts known f=false):=by show _=_; rw [← HP.out,List.drop_of_length_le (by omega)]; rfl
 go_wp2;go_ret;exact ⟨by rw [HN.out]; rfl,UG.out⟩
theorem Ev (v0:Value) (V6:Option Addr) (VM:Nat) (ts:List Tp) (UC:Option Addr) (capE:Nat) (rows:List ER) (n:Nat) (adK:Option Addr) (capK:Nat) (known:List Fc) (V7:Option Addr) (VN:Nat) (truth:List Fc) (f:Fc) (w:af) (hW:HW w V6 ts UC rows adK known V7 truth) (hn:n < rows.length) (hre:rows.length≤1000) (hkl:known.length≤1048576) (htl:ts.length≤1048576) (hk:rows[n].e.kind=3) :
  Calls prog 98 #[v0,.slice V6 ts.length VM,.slice UC rows.length capE,.int .i64 (n:Int),.slice adK known.length capK,.slice V7 truth.length VN,.agg #[.string f.a,.string f.b,.string f.r,.string f.c,.string f.d]] w fun e w'=>e=.returned (.bool (gp ts known rows[n].e.over rows[n].e.name f))∧ag w w':=by
 obtain ⟨b,off,UF,⟨t0,t1,t2,t3,t4⟩,hbl,-⟩:=iH.at0 hW.ex hn;have HW0:=aC hW;obtain ⟨W0,hW0⟩:∃ W0,W0=Gi w f rows[n]:=⟨_,rfl⟩;have HB0:Hid (ag w W0):=by show Below _ _ _; rw [hW0]; exact jU _ _ _
 have WB:Hid (EnB W0 w.heap.size f rows[n]):=by show EnB _ _ _ _; rw [hW0]; exact om _ _ _
 have hk1:(rows[n].e.kind == 1)=false:=by rw [hk]; rfl
 have hk2:(rows[n].e.kind == 2)=false:=by rw [hk]; rfl
 have hk3:(rows[n].e.kind == 3)=true:=by rw [hk]; rfl
 have hn1:=bB n;have hn2:(n:Int) < (rows.length:Int):=by omega
 unfold Gi at hW0;rw [UF];clear UF hW hk;go_enter func98,ntmps98;go_wp2_with fail;rw [← hW0];clear hW0 t0 t1 t2 t3 t4;go_loopw [18] (fun i wr=>∃ k:Nat,k≤ts.length∧i=.int .i64 k∧Hid (gp (ts.drop k) known rows[n].e.over rows[n].e.name f=gp ts known rows[n].e.over rows[n].e.name f)∧Hid (ag W0 wr)) (fun i _=>ts.length - (intOf i).toNat);case atStart=>exact ⟨0,TW _,rfl,rfl,TT _ _⟩
 obtain ⟨k,hk,rfl,HP,HB⟩:=hrel;have UG:Hid (ag w wr):=HB0.out.trans (HB.out.mono HB0.out.size);by_cases hlt:k < ts.length
 ·obtain ⟨bT,offT,WZ,⟨a0,a1,a2,a3,a4,a5⟩,hbT⟩:=Sl.at0 (HW0.out.tup.below UG.out) hlt;have hE:=WB.out.below HB.out;have e0:=hE.f0;have e1:=hE.f1;have e2:=hE.f2;have e3:=hE.f3;have e4:=hE.f4;have el:w.heap.size < wr.heap.size:=by have:=hE.lt; omega
  have el2:w.heap.size + 1 < wr.heap.size:=hE.lt;have g2:=hE.x2;have g3:=hE.x3;have hi1:=bB k;have hi2:(k:Int) < (ts.length:Int):=by omega
  obtain ⟨W1,hW1⟩:∃ W1,W1=wr.alloc (.cells #[.string ts[k].a,.string ts[k].b,.string ts[k].r,.string ts[k].c,.string ts[k].d,.string ts[k].s] 46):=⟨_,rfl⟩;have VL:=qY hW1;have HB1:Hid (ag W0 W1):=HB.out.trans (VL.out.mono HB.out.size);have Vo:Hid (ag w W1):=UG.out.trans (VL.out.mono UG.out.size);have HD:Hid (gp ts known rows[n].e.over rows[n].e.name f=(CX known rows[n].e.over rows[n].e.name f ts[k] || gp (ts.drop (k + 1)) known rows[n].e.over rows[n].e.name f)):=by show _=_; rw [← HP.out]; exact I6 hlt known _ _ f
  rw [WZ];clear WZ hE;cases ho:Ah ts[k].a ts[k].b f.a f.b;case false=>
   have hoeq:=jH _ _ _ _ ho;have UI:Hid (gp (ts.drop (k + 1)) known rows[n].e.over rows[n].e.name f=gp ts known rows[n].e.over rows[n].e.name f):=by
    show _=_;unfold Ah at ho;rw [HD.out]; unfold CX; rw [ho]; rfl
   clear ho;go_wp2;rw [← hW1];clear hW1;go_roundw;case rel=>exact ⟨k + 1,by omega,by go_num,UI,HB1⟩
   simp [intOf] <;> omega
  have hoeq:=jH _ _ _ _ ho;have HO:Hid (Ah ts[k].a ts[k].b f.a f.b=true):=ho;clear ho;cases hr:(ts[k].r.toList == rows[n].e.over.toList);case false=>
   have UI:Hid (gp (ts.drop (k + 1)) known rows[n].e.over rows[n].e.name f=gp ts known rows[n].e.over rows[n].e.name f):=by
    show _=_;have h2:=HO.out;unfold Ah at h2;rw [HD.out]; unfold CX; rw [h2,hr]; rfl
   go_wp2;rw [← hW1];clear hW1;go_roundw;case rel=>exact ⟨k + 1,by omega,by go_num,UI,HB1⟩
   simp [intOf] <;> omega
  have HT2:Hid (CX known rows[n].e.over rows[n].e.name f ts[k]=bP known ⟨ts[k].c,ts[k].d,rows[n].e.name,f.c,f.d⟩):=by
   show _=_;have h2:=HO.out;unfold Ah at h2;unfold CX; rw [h2,hr]; rfl
  go_wp2_with fail;rw [← hW1];clear hW1;refine (ol adK capK known ⟨ts[k].c,ts[k].d,rows[n].e.name,f.c,f.d⟩ W1 hkl (HW0.out.kn.below Vo.out)).mono ?_;rintro e w2 ⟨rfl,hb2⟩;have HB2:=jP HB1 hb2;have YE:=jP Vo hb2;clear hb2;cases hh:bP known ⟨ts[k].c,ts[k].d,rows[n].e.name,f.c,f.d⟩;case true=>
   have HN:Hid (gp ts known rows[n].e.over rows[n].e.name f=true):=by show _=_; rw [HD.out,HT2.out,hh]; rfl
   go_wp2;go_ret;exact ⟨by rw [HN.out]; rfl,YE.out⟩
  have UI:Hid (gp (ts.drop (k + 1)) known rows[n].e.over rows[n].e.name f=gp ts known rows[n].e.over rows[n].e.name f):=by show _=_; rw [HD.out,HT2.out,hh]; rfl
  go_wp2;go_roundw;case rel=>exact ⟨k + 1,by omega,by go_num,UI,HB2⟩
  simp [intOf] <;> omega
 have HN:Hid (gp ts known rows[n].e.over rows[n].e.name f=false):=by show _=_; rw [← HP.out,List.drop_of_length_le (by omega)]; rfl
 go_wp2;go_ret;exact ⟨by rw [HN.out]; rfl,UG.out⟩
open Go.Sort
theorem LP (p:Int→Bool) {zs:List Int} {k:Nat} (h:k < zs.length):(zs.drop k).any p=(p zs[k] || (zs.drop (k + 1)).any p):=by rw [Un h]; rfl
theorem LQ (p:Int→Bool) {zs:List Int} {k:Nat} (h:k < zs.length):(zs.drop k).all p=(p zs[k] && (zs.drop (k + 1)).all p):=by rw [Un h]; rfl
def OO (v0 vT vE vK vR:Value) (f:Fc) (w:World) (i:Int) (b:Bool):Prop:=∀ w1:World,ag w w1→Calls prog 98 #[v0,vT,vE,.int .i64 i,vK,vR,.agg #[.string f.a,.string f.b,.string f.r,.string f.c,.string f.d]] w1 fun e w'=>e=.returned (.bool b)∧ag w1 w'
theorem BI (H:Int→Bool) (v0 vT:Value) (UC:Option Addr) (capE:Nat) (rows:List ER) (n:Nat) (vK vR:Value) (f:Fc) (w:af) (hex:iH w UC rows) (hn:n < rows.length) (hre:rows.length≤1000) (hkl:rows[n].e.kids.length≤1000) (hk:rows[n].e.kind=4) (Zn:∀ i ∈ rows[n].e.kids,OO v0 vT (.slice UC rows.length capE) vK vR f w i (H i)) :
  Calls prog 98 #[v0,vT,.slice UC rows.length capE,.int .i64 (n:Int),vK,vR,.agg #[.string f.a,.string f.b,.string f.r,.string f.c,.string f.d]] w fun e w'=>e=.returned (.bool (rows[n].e.kids.any H))∧ag w w':=by
 obtain ⟨b,off,UF,⟨t0,t1,t2,t3,t4⟩,hbl,hok⟩:=iH.at0 hex hn;have HK:=aC hok.2;have HIH:=aC Zn;obtain ⟨W0,hW0⟩:∃ W0,W0=Gi w f rows[n]:=⟨_,rfl⟩;have HB0:Hid (ag w W0):=by show Below _ _ _; rw [hW0]; exact jU _ _ _
 have WB:Hid (EnB W0 w.heap.size f rows[n]):=by show EnB _ _ _ _; rw [hW0]; exact om _ _ _
 have hk1:(rows[n].e.kind == 1)=false:=by rw [hk]; rfl
 have hk2:(rows[n].e.kind == 2)=false:=by rw [hk]; rfl
 have hk3:(rows[n].e.kind == 3)=false:=by rw [hk]; rfl
 have hk4:(rows[n].e.kind == 4)=true:=by rw [hk]; rfl
 have hn1:=bB n;have hn2:(n:Int) < (rows.length:Int):=by omega
 unfold Gi at hW0;rw [UF] at HIH ⊢;clear UF hex hk Zn hok;go_enter func98,ntmps98;go_wp2_with fail;rw [← hW0];clear hW0 t0 t1 t2 t3 t4;go_loopw [20] (fun i wr=>∃ k:Nat,k≤rows[n].e.kids.length∧i=.int .i64 k∧Hid ((rows[n].e.kids.drop k).any H=rows[n].e.kids.any H)∧Hid (ag W0 wr)) (fun i _=>rows[n].e.kids.length - (intOf i).toNat);case atStart=>exact ⟨0,TW _,rfl,rfl,TT _ _⟩
 obtain ⟨k,hk,rfl,HP,HB⟩:=hrel;have UG:Hid (ag w wr):=HB0.out.trans (HB.out.mono HB0.out.size);have hE:=WB.out.below HB.out;have e0:=hE.f0;have e1:=hE.f1;have e2:=hE.f2;have e3:=hE.f3;have e4:=hE.f4;have y4:=hE.x4;have el2:w.heap.size + 1 < wr.heap.size:=hE.lt;clear hE;by_cases hlt:k < rows[n].e.kids.length
 ·obtain ⟨bK,XC,U7,z0,ZQ⟩:=pW.at0 (HK.out.below UG.out) hlt;rw [U7] at y4;have hi1:=bB k;have hi2:(k:Int) < (rows[n].e.kids.length:Int):=by omega
  have HD:Hid (rows[n].e.kids.any H=(H rows[n].e.kids[k] || (rows[n].e.kids.drop (k + 1)).any H)):=by show _=_; rw [← HP.out]; exact LP H hlt
  have HC:=aC (HIH.out _ (TQ hlt));obtain ⟨q,hq⟩:∃ q,H rows[n].e.kids[k]=q:=⟨_,rfl⟩;rw [hq] at HC HD;have ZR:Hid (∀ d os,Calls prog 98 #[v0,vT,.slice (some ⟨b,off,none⟩) rows.length capE,.int .i64 rows[n].e.kids[k],vK,vR,.agg #[.string f.a,.string f.b,.string f.r,.string f.c,.string f.d]] (grow (redrawn wr d) os) fun e w''=>e=.returned (.bool q)∧∃ p:Regrown,w''=grow (redrawn wr p.d) p.os):=by
   refine dm fun W' hb=>?_;exact HC.out W' (UG.out.trans (hb.mono UG.out.size))
  clear U7 hq HC;go_wp2_with fail;replace e0:=cell_regrown e0;replace e1:=cell_regrown e1;replace e2:=cell_regrown e2;replace e3:=cell_regrown e3;replace e4:=cell_regrown e4;replace y4:=cell_regrown y4;replace z0:=cell_regrown z0;refine wp_region_quiet_below (by kernel_rfl) (by kernel_rfl) ?_
  repeat (go_big_quiet_step (exact ZR.out _ _))
  refine wpQuiet_nil ?_;rintro _ ⟨⟨dq,osq⟩,rfl⟩;have HB2:=aC (HB.out.trans ((below_regrown wr dq osq).mono HB.out.size));clear ZR e0 e1 e2 e3 e4 y4 z0;cases q;case true=>
   have HN:Hid (rows[n].e.kids.any H=true):=by show _=_; rw [HD.out]; rfl
   go_wp2;go_ret;exact ⟨by rw [HN.out]; rfl,HB0.out.trans (HB2.out.mono HB0.out.size)⟩
  have UI:Hid ((rows[n].e.kids.drop (k + 1)).any H=rows[n].e.kids.any H):=by show _=_; rw [HD.out]; rfl
  go_wp2;go_roundw;case rel=>exact ⟨k + 1,by omega,by go_num,UI,HB2⟩
  simp [intOf] <;> omega
 have HN:Hid (rows[n].e.kids.any H=false):=by show _=_; rw [← HP.out,List.drop_of_length_le (by omega)]; rfl
 go_wp2;go_ret;exact ⟨by rw [HN.out]; rfl,UG.out⟩
theorem Ew (H:Int→Bool) (v0 vT:Value) (UC:Option Addr) (capE:Nat) (rows:List ER) (n:Nat) (vK vR:Value) (f:Fc) (w:af) (hex:iH w UC rows) (hn:n < rows.length) (hre:rows.length≤1000) (hkl:rows[n].e.kids.length≤1000) (hk:rows[n].e.kind=5) (Zn:∀ i ∈ rows[n].e.kids,OO v0 vT (.slice UC rows.length capE) vK vR f w i (H i)) :
  Calls prog 98 #[v0,vT,.slice UC rows.length capE,.int .i64 (n:Int),vK,vR,.agg #[.string f.a,.string f.b,.string f.r,.string f.c,.string f.d]] w fun e w'=>e=.returned (.bool (rows[n].e.kids.all H))∧ag w w':=by
 obtain ⟨b,off,UF,⟨t0,t1,t2,t3,t4⟩,hbl,hok⟩:=iH.at0 hex hn;have HK:=aC hok.2;have HIH:=aC Zn;obtain ⟨W0,hW0⟩:∃ W0,W0=Gi w f rows[n]:=⟨_,rfl⟩;have HB0:Hid (ag w W0):=by show Below _ _ _; rw [hW0]; exact jU _ _ _
 have WB:Hid (EnB W0 w.heap.size f rows[n]):=by show EnB _ _ _ _; rw [hW0]; exact om _ _ _
 have hk1:(rows[n].e.kind == 1)=false:=by rw [hk]; rfl
 have hk2:(rows[n].e.kind == 2)=false:=by rw [hk]; rfl
 have hk3:(rows[n].e.kind == 3)=false:=by rw [hk]; rfl
 have hk4:(rows[n].e.kind == 4)=false:=by rw [hk]; rfl
 have hk5:(rows[n].e.kind == 5)=true:=by rw [hk]; rfl
 have hn1:=bB n;have hn2:(n:Int) < (rows.length:Int):=by omega
 unfold Gi at hW0;rw [UF] at HIH ⊢;clear UF hex hk Zn hok;go_enter func98,ntmps98;go_wp2_with fail;rw [← hW0];clear hW0 t0 t1 t2 t3 t4;go_loopw [21] (fun i wr=>∃ k:Nat,k≤rows[n].e.kids.length∧i=.int .i64 k∧Hid ((rows[n].e.kids.drop k).all H=rows[n].e.kids.all H)∧Hid (ag W0 wr)) (fun i _=>rows[n].e.kids.length - (intOf i).toNat);case atStart=>exact ⟨0,TW _,rfl,rfl,TT _ _⟩
 obtain ⟨k,hk,rfl,HP,HB⟩:=hrel;have UG:Hid (ag w wr):=HB0.out.trans (HB.out.mono HB0.out.size);have hE:=WB.out.below HB.out;have e0:=hE.f0;have e1:=hE.f1;have e2:=hE.f2;have e3:=hE.f3;have e4:=hE.f4;have y4:=hE.x4;have el2:w.heap.size + 1 < wr.heap.size:=hE.lt;clear hE;by_cases hlt:k < rows[n].e.kids.length
 ·obtain ⟨bK,XC,U7,z0,ZQ⟩:=pW.at0 (HK.out.below UG.out) hlt;rw [U7] at y4;have hi1:=bB k;have hi2:(k:Int) < (rows[n].e.kids.length:Int):=by omega
  have HD:Hid (rows[n].e.kids.all H=(H rows[n].e.kids[k] && (rows[n].e.kids.drop (k + 1)).all H)):=by show _=_; rw [← HP.out]; exact LQ H hlt
  have HC:=aC (HIH.out _ (TQ hlt));obtain ⟨q,hq⟩:∃ q,H rows[n].e.kids[k]=q:=⟨_,rfl⟩;rw [hq] at HC HD;have ZR:Hid (∀ d os,Calls prog 98 #[v0,vT,.slice (some ⟨b,off,none⟩) rows.length capE,.int .i64 rows[n].e.kids[k],vK,vR,.agg #[.string f.a,.string f.b,.string f.r,.string f.c,.string f.d]] (grow (redrawn wr d) os) fun e w''=>e=.returned (.bool q)∧∃ p:Regrown,w''=grow (redrawn wr p.d) p.os):=by
   refine dm fun W' hb=>?_;exact HC.out W' (UG.out.trans (hb.mono UG.out.size))
  clear U7 hq HC;go_wp2_with fail;replace e0:=cell_regrown e0;replace e1:=cell_regrown e1;replace e2:=cell_regrown e2;replace e3:=cell_regrown e3;replace e4:=cell_regrown e4;replace y4:=cell_regrown y4;replace z0:=cell_regrown z0;refine wp_region_quiet_below (by kernel_rfl) (by kernel_rfl) ?_
  repeat (go_big_quiet_step (exact ZR.out _ _))
  refine wpQuiet_nil ?_;rintro _ ⟨⟨dq,osq⟩,rfl⟩;have HB2:=aC (HB.out.trans ((below_regrown wr dq osq).mono HB.out.size));clear ZR e0 e1 e2 e3 e4 y4 z0;cases q;case false=>
   have HN:Hid (rows[n].e.kids.all H=false):=by show _=_; rw [HD.out]; rfl
   go_wp2;go_ret;exact ⟨by rw [HN.out]; rfl,HB0.out.trans (HB2.out.mono HB0.out.size)⟩
  have UI:Hid ((rows[n].e.kids.drop (k + 1)).all H=rows[n].e.kids.all H):=by show _=_; rw [HD.out]; rfl
  go_wp2;go_roundw;case rel=>exact ⟨k + 1,by omega,by go_num,UI,HB2⟩
  simp [intOf] <;> omega
 have HN:Hid (rows[n].e.kids.all H=true):=by show _=_; rw [← HP.out,List.drop_of_length_le (by omega)]; rfl
 go_wp2;go_ret;exact ⟨by rw [HN.out]; rfl,UG.out⟩
theorem Gn (b0 b1:Bool) (v0 vT:Value) (UC:Option Addr) (capE:Nat) (rows:List ER) (n:Nat) (vK vR:Value) (f:Fc) (w:af) (hex:iH w UC rows) (hn:n < rows.length) (hre:rows.length≤1000) (hkl:rows[n].e.kids.length≤1000) (hk2:2≤rows[n].e.kids.length) (hk:rows[n].e.kind=6) (hA:OO v0 vT (.slice UC rows.length capE) vK vR f w (rows[n].e.kids.getD 0 0) b0) (hB:OO v0 vT (.slice UC rows.length capE) vR vR f w (rows[n].e.kids.getD 1 0) b1) :
  Calls prog 98 #[v0,vT,.slice UC rows.length capE,.int .i64 (n:Int),vK,vR,.agg #[.string f.a,.string f.b,.string f.r,.string f.c,.string f.d]] w fun e w'=>e=.returned (.bool (b0 && !b1))∧ag w w':=by
 obtain ⟨b,off,UF,⟨t0,t1,t2,t3,t4⟩,hbl,hok⟩:=iH.at0 hex hn;have h0k:0 < rows[n].e.kids.length:=by omega
 have h1k:1 < rows[n].e.kids.length:=by omega
 obtain ⟨bK,XC,U7,z0,ZQ⟩:=pW.at0 hok.2 h0k;have z1:w.cell? ⟨bK,XC + 1,none⟩=some (.int .i64 rows[n].e.kids[1]):=by
  obtain ⟨b',off',XD,z1,-⟩:=pW.at0 hok.2 h1k;rw [U7] at XD; injection XD with e; injection e with e1 e2;rw [e1,e2]; exact z1
 obtain ⟨i0,hi0⟩:∃ i,i=rows[n].e.kids[0]:=⟨_,rfl⟩;obtain ⟨i1,hi1⟩:∃ i,i=rows[n].e.kids[1]:=⟨_,rfl⟩;have g0:rows[n].e.kids.getD 0 0=i0:=by rw [hi0,List.getD_eq_getElem?_getD,TY h0k]; rfl
 have g1:rows[n].e.kids.getD 1 0=i1:=by rw [hi1,List.getD_eq_getElem?_getD,TY h1k]; rfl
 rw [g0] at hA;rw [g1] at hB;rw [← hi0,Nat.add_zero] at z0;rw [← hi1] at z1;clear hi0 hi1 g0 g1;obtain ⟨kl,hkl'⟩:∃ kl,kl=rows[n].e.kids.length:=⟨_,rfl⟩;obtain ⟨cK,hcK⟩:∃ c,c=rows[n].capK:=⟨_,rfl⟩;have hl0:(0:Int) < (kl:Int):=by omega
 have hl1:(1:Int) < (kl:Int):=by omega
 have h0k':0 < kl:=by omega
 have h1k':1 < kl:=by omega
 have HA:=aC hA;have Wd:=aC hB;obtain ⟨W0,hW0⟩:∃ W0,W0=Gi w f rows[n]:=⟨_,rfl⟩;have HB0:Hid (ag w W0):=by show Below _ _ _; rw [hW0]; exact jU _ _ _
 have WB:Hid (EnB W0 w.heap.size f rows[n]):=by show EnB _ _ _ _; rw [hW0]; exact om _ _ _
 have HZ:Hid (W0.cell? ⟨bK,XC,none⟩=some (.int .i64 i0)∧W0.cell? ⟨bK,XC + 1,none⟩=some (.int .i64 i1)∧bK < W0.heap.size):=⟨(HB0.out.cell (p:=⟨bK,XC,none⟩) ZQ).trans z0,(HB0.out.cell (p:=⟨bK,XC + 1,none⟩) ZQ).trans z1,TP ZQ HB0.out.size⟩;have HX4:Hid (W0.cell? ⟨w.heap.size + 1,4,none⟩=some (.slice (some ⟨bK,XC,none⟩) kl cK)):=by show _=_; rw [WB.out.x4,U7,← hkl',← hcK]
 have hk1:(rows[n].e.kind == 1)=false:=by rw [hk]; rfl
 have hk2:(rows[n].e.kind == 2)=false:=by rw [hk]; rfl
 have hk3:(rows[n].e.kind == 3)=false:=by rw [hk]; rfl
 have hk4:(rows[n].e.kind == 4)=false:=by rw [hk]; rfl
 have hk5:(rows[n].e.kind == 5)=false:=by rw [hk]; rfl
 have hk6:(rows[n].e.kind == 6)=true:=by rw [hk]; rfl
 have hn1:=bB n;have hn2:(n:Int) < (rows.length:Int):=by omega
 unfold Gi at hW0;rw [UF] at HA Wd ⊢;clear UF hex hk hA hB hok z0 z1 U7 h0k h1k;go_enter func98,ntmps98;go_wp2_with fail;rw [← hW0];clear hW0 t0 t1 t2 t3 t4 hk1 hk2 hk3 hk4 hk5 hk6 hkl' hcK;have HAA:Hid (∀ d os,Calls prog 98 #[v0,vT,.slice (some ⟨b,off,none⟩) rows.length capE,.int .i64 i0,vK,vR,.agg #[.string f.a,.string f.b,.string f.r,.string f.c,.string f.d]] (grow (redrawn W0 d) os) fun e w''=>e=.returned (.bool b0)∧∃ p:Regrown,w''=grow (redrawn W0 p.d) p.os):=by
  refine dm fun W' hb=>?_;exact HA.out _ (HB0.out.trans (hb.mono HB0.out.size))
 have HBQ:Hid (∀ d os,Calls prog 98 #[v0,vT,.slice (some ⟨b,off,none⟩) rows.length capE,.int .i64 i1,vR,vR,.agg #[.string f.a,.string f.b,.string f.r,.string f.c,.string f.d]] (grow (redrawn W0 d) os) fun e w''=>e=.returned (.bool b1)∧∃ p:Regrown,w''=grow (redrawn W0 p.d) p.os):=by
  refine dm fun W' hb=>?_;exact Wd.out _ (HB0.out.trans (hb.mono HB0.out.size))
 have c0:=cell_regrown WB.out.f0;have c1:=cell_regrown WB.out.f1;have c2:=cell_regrown WB.out.f2;have c3:=cell_regrown WB.out.f3;have c4:=cell_regrown WB.out.f4;have x4:=cell_regrown HX4.out;have z0:=cell_regrown HZ.out.1;have z1:=cell_regrown HZ.out.2.1;clear HA Wd WB;cases b0;case true=>
  refine wp_region_quiet_below (by kernel_rfl) (by kernel_rfl) ?_
  iterate 11 (go_big_quiet_step (exact HAA.out _ _))
  repeat (go_big_quiet_step (exact HBQ.out _ _))
  refine wpQuiet_nil ?_;rintro _ ⟨⟨dq,osq⟩,rfl⟩;go_wp2;go_ret;exact ⟨rfl,HB0.out.trans ((below_regrown W0 dq osq).mono HB0.out.size)⟩
 refine wp_region_quiet_below (by kernel_rfl) (by kernel_rfl) ?_
 repeat (go_big_quiet_step (exact HAA.out _ _))
 refine wpQuiet_nil ?_;rintro _ ⟨⟨dq,osq⟩,rfl⟩;go_wp2;go_ret;exact ⟨rfl,HB0.out.trans ((below_regrown W0 dq osq).mono HB0.out.size)⟩
structure WM (rows:List ER):Prop where
 len:rows.length≤1000
 kids:∀ q ∈ rows,q.e.kids.length≤1000
 low:Kv (aj rows)
 two:∀ e ∈ aj rows,e.kind=6→2≤e.kids.length
theorem WM.kid {rows:List ER} (h:WM rows) {n:Nat} (hn:n < rows.length) {i:Int} (hi:i ∈ rows[n].e.kids):0≤i∧i < (n:Int):=by
 have:=h.low n (by rw [aT]; exact hn) i;have e:(aj rows)[n]'(by rw [aT]; exact hn)=rows[n].e:=by simp [aj]
 rw [e] at this;exact this hi
theorem xL (v0:Value) (V6:Option Addr) (VM:Nat) (ts:List Tp) (UC:Option Addr) (capE:Nat) (rows:List ER) (V7:Option Addr) (VN:Nat) (truth:List Fc) (f:Fc) (htl:ts.length≤1048576) (hN:WM rows) (htr:truth.length≤1048576) :
  ∀ (k n:Nat) (adK:Option Addr) (capK:Nat) (known:List Fc) (w:World),n < k→n < rows.length→known.length≤1048576→HW w V6 ts UC rows adK known V7 truth →
  Calls prog 98 #[v0,.slice V6 ts.length VM,.slice UC rows.length capE,.int .i64 (n:Int),.slice adK known.length capK,.slice V7 truth.length VN,.agg #[.string f.a,.string f.b,.string f.r,.string f.c,.string f.d]] w fun e w'=>e=.returned (.bool (dS ts (aj rows) truth f k known n))∧ag w w'
 | 0,_,_,_,_,_,h,_,_,_=>absurd h (Uw _)
 | k + 1,n,adK,capK,known,w,hk,hn,hkn,hW=>by
  have e:(aj rows)[n]?=some rows[n].e:=by simp [aj,hn]
  have Vf:∀ (adK':Option Addr) (Zo:Nat) (known':List Fc),known'.length≤1048576→HW w V6 ts UC rows adK' known' V7 truth→∀ i ∈ rows[n].e.kids,OO v0 (.slice V6 ts.length VM) (.slice UC rows.length capE) (.slice adK' known'.length Zo) (.slice V7 truth.length VN) f w i (dS ts (aj rows) truth f k known' i.toNat):=fun adK' Zo known' hl hW' i hi w1 hb1=>by
   have h1:=hN.kid hn hi;have h2:=xL v0 V6 VM ts UC capE rows V7 VN truth f htl hN htr k i.toNat adK' Zo known' w1 (by omega) (by omega) hl (hW'.below hb1);have e2:((i.toNat:Nat):Int)=i:=by omega
   rw [e2] at h2;exact h2
  unfold dS;rw [e];have hm:rows[n] ∈ rows:=TQ hn;have hme:rows[n].e ∈ aj rows:=Ue.2 ⟨_,hm,rfl⟩;by_cases k1:rows[n].e.kind=1
  ·simp only [if_pos k1];exact Eu v0 V6 VM ts UC capE rows n adK capK known V7 VN truth f w hW hn hN.len hkn htl k1
  by_cases k2:rows[n].e.kind=2
  ·simp only [if_neg k1,if_pos k2];exact Gm v0 V6 VM ts UC capE rows n adK capK known V7 VN truth f w hW hn hN.len hkn k2
  by_cases k3:rows[n].e.kind=3
  ·simp only [if_neg k1,if_neg k2,if_pos k3];exact Ev v0 V6 VM ts UC capE rows n adK capK known V7 VN truth f w hW hn hN.len hkn htl k3
  by_cases k4:rows[n].e.kind=4
  ·simp only [if_neg k1,if_neg k2,if_neg k3,if_pos k4];exact BI (fun i=>dS ts (aj rows) truth f k known i.toNat) v0 _ UC capE rows n _ _ f w hW.ex hn hN.len (hN.kids _ hm) k4 (Vf adK capK known hkn hW)
  by_cases k5:rows[n].e.kind=5
  ·simp only [if_neg k1,if_neg k2,if_neg k3,if_neg k4,if_pos k5];exact Ew (fun i=>dS ts (aj rows) truth f k known i.toNat) v0 _ UC capE rows n _ _ f w hW.ex hn hN.len (hN.kids _ hm) k5 (Vf adK capK known hkn hW)
  by_cases k6:rows[n].e.kind=6
  ·simp only [if_neg k1,if_neg k2,if_neg k3,if_neg k4,if_neg k5,if_pos k6];have h2:=hN.two _ hme k6;have hg:∀ q,q < 2→rows[n].e.kids.getD q 0 ∈ rows[n].e.kids:=fun q hq=>by
    rw [List.getD_eq_getElem?_getD,TY (by omega)];exact TQ _
   exact Gn _ _ v0 _ UC capE rows n _ _ f w hW.ex hn hN.len (hN.kids _ hm) h2 k6 (Vf adK capK known hkn hW _ (hg 0 (by omega))) (Vf V7 VN truth htr ⟨hW.tup,hW.ex,hW.tr,hW.tr⟩ _ (hg 1 (by omega)))
  simp only [if_neg k1,if_neg k2,if_neg k3,if_neg k4,if_neg k5,if_neg k6];exact Jc v0 V6 VM ts UC capE rows n _ _ f w hW.ex hn hN.len k1 k2 k3 k4 k5 k6
end Go.Proofs.YtajkkeikihhejaaGreat
