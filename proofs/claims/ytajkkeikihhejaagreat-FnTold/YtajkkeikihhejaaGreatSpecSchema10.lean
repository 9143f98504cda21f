/- Contract of the document's function on strata: the walk. -/
import Derived.Test.YtajkkeikihhejaaGreatSq
import Derived.Test.YtajkkeikihhejaaGreatJ15
open Go.Proofs.Tryz
set_option maxHeartbeats 80000000
namespace Go.Proofs.YtajkkeikihhejaaGreat
open Go.ChangeShapes Go.WideShapes Go.ChangeAt Go.RowKit
open Pl
set_option maxRecDepth 100000 in
theorem uS (ad:Option Addr) (cap:Nat) (rs:List TR) (w:af) (hlen:rs.length≤6) (hs:kW w ad rs) (hl:∀ r ∈ rs,r.light) (hrl:∀ r ∈ rs,r.rows.length≤6) (hel:∀ r ∈ rs,∀ q ∈ r.rows,q.rows.length≤15∧∀ e ∈ q.rows,dV q.rows.length e.e.kids) (hF:Found (ae rs)) :
    Calls prog 96 #[.slice ad rs.length cap] w fun e w'=>((∃ UJ cap' out,e=.returned (.tuple #[.slice UJ out.length cap',.bool true])∧Iq w' UJ out∧iE out=ak (ae rs)∧Least (ae rs) (fO out)) ∨ (e=.returned (.tuple #[.slice none 0 0,.bool false])∧¬ ∃ f,Sol (ae rs) f))∧ag w w':=by
  have HS:=az hs;have HL:=az hl;have Yz:Hid (∀ r ∈ rs,r.rows.length≤6):=hrl;have V6:Hid (∀ r ∈ rs,∀ q ∈ r.rows,q.rows.length≤15∧∀ e ∈ q.rows,dV q.rows.length e.e.kids):=hel;have HF:=az hF;clear hs hl hrl hel hF;obtain ⟨i0,hi,hz0,hz1,hz2⟩:=info_parts Qt;go_enter func96,ntmps96;have Ze:Hid (ag w (w.alloc (.cells #[] 162))):=(TT _ _).alloc (TS _) _;have hown1:Hid ((w.alloc (.cells #[] 162)).ownsRow w.heap.size 162 3 (.slice (some ⟨w.heap.size,0,none⟩) 0 0) 0 []):=World.ownsRow_made w #[] 0 (TS _) (by decide) rfl;go_wp2_with fail;go_loopw [4,5] (fun v i wr=>∃ k:Nat,k≤rs.length∧i=.int .i64 k∧Hid (wr.ownsRow w.heap.size 162 3 v (dA rs k).length (iG (FY (dA rs k))))∧Hid (ag w wr)) (fun _ i _=>rs.length - (intOf i).toNat);case atStart=>exact ⟨0,TW _,rfl,hown1,Ze⟩
  clear hown1 Ze;obtain ⟨k,hk,rfl,HOW,HB⟩:=hrel;by_cases hlt:k < rs.length
  · have hk1:=bB k;have hk2:(k:Int) < (rs.length:Int):=by omega
    have HU:Hid ((dA rs k).length≤k * 6):=wE rs Yz.out k;have V5:Hid (rs[k].rows.length≤6):=Yz.out _ (TQ hlt);obtain ⟨wo,hwo⟩:∃ wo,wo=wr:=⟨_,rfl⟩;subst hwo;go_wp2_with fail;go_loopw [4,6] (fun v i w2=>∃ j:Nat,j≤rs[k].rows.length∧i=.int .i64 j∧Hid (w2.ownsRow w.heap.size 162 3 v (dA rs k ++ iV rs[k] j).length (iG (FY (dA rs k ++ iV rs[k] j))))∧Hid (ag w w2)) (fun _ i _=>rs[k].rows.length - (intOf i).toNat);case atStart=>exact ⟨0,TW _,rfl,(by simpa [iV] using HOW),HB⟩
    obtain ⟨j,hj,rfl,UB,HB2⟩:=hrel;rcases HS.out.below HB2.out with rfl | ⟨b,off,rfl,hb,hr,hok⟩
    · simp at hlt
    have hbw:b < w.heap.size:=by
      rcases HS.out with h | ⟨b',off',e,hb',-⟩
      · rw [h] at hlt; simp at hlt
      · injection e with e; injection e with e1 e2; omega
    obtain ⟨t0,t1⟩:=hr k hlt;have Vz:Hid (rs[k].ok _):=hok rs[k] (TQ hlt);have HOKW:Hid (rs[k].ok w):=HS.out.mem (TQ hlt);clear hr hok;by_cases hjl:j < rs[k].rows.length
    · rcases Vz.out with hnil | ⟨b2,UZ,had,hb2,hr2,-⟩
      · rw [hnil] at hjl; simp at hjl
      have hbw2:b2 < w.heap.size:=by
        rcases HOKW.out with h | ⟨b',off',e,hb',-⟩
        · rw [h] at hjl; simp at hjl
        · rw [had] at e; injection e with e; injection e with e1 e2; omega
      have t1':=t1;rw [had] at t1';obtain ⟨q0,q1⟩:=hr2 j hjl;have hj1:=bB j;have hj2:(j:Int) < (rs[k].rows.length:Int):=by omega
      have a1:u4.ownBlock ≠ some b:=fun e=>by have:=(UB.out.lt _ e).1; omega
      have a2:u4.ownBlock ≠ some b2:=fun e=>by have:=(UB.out.lt _ e).1; omega
      have l4:w.heap.size≤wr.heap.size:=HB2.out.size;obtain ⟨xs,hxs⟩:∃ xs,xs=iG (FY (dA rs k ++ iV rs[k] j)):=⟨_,rfl⟩;obtain ⟨n,hn⟩:∃ n,n=(dA rs k ++ iV rs[k] j).length:=⟨_,rfl⟩;have hown:=UB.out;rw [← hxs,← hn] at hown;have hnl:n≤1000:=by
        have h1:=HU.out;have h2:=CK rs[k] j;have h3:=V5.out;rw [hn,T9]; omega
      have HFX:Hid (iG (FY (dA rs k ++ iV rs[k] (j + 1)))=xs ++ [.string rs[k].name,.string rs[k].rows[j].name,.int .i64 0]):=by
        show _=_;rw [tL _ _ hjl,← List.append_assoc,Oo,zU,← hxs]; rfl
      have Wx:Hid ((dA rs k ++ iV rs[k] (j + 1)).length=n + 1):=by show _=_; rw [tL _ _ hjl,← List.append_assoc,T9,← hn]; rfl
      clear hr2 had t1 hxs hn UB;go_wp2_with fail
      go_region_held3 (fun w'=>w'.cell? ⟨b,off + k * 2,none⟩=some (.string rs[k].name)∧w'.cell? ⟨b,off + k * 2 + 1,none⟩=some (.slice (some ⟨b2,UZ,none⟩) rs[k].rows.length rs[k].cap)∧w'.cell? ⟨b2,UZ + j * 2,none⟩=some (.string rs[k].rows[j].name))
        (first
          | go_keep
          | (go_split_ands
             refine ⟨?_,?_,?_⟩
             · (rw [hgrow.cell_far _ (by simp; omega) (Ne.symm a1)]; assumption)
             · (rw [hgrow.cell_far _ (by simp; omega) (Ne.symm a1)]; assumption)
             · (rw [hgrow.cell_far _ (by simp; omega) (Ne.symm a2)]; assumption)))
        ((refine step_append_lies _ (by rfl) _ _ _ (by rfl) w.heap.size 162 i0 _ 3 40 underlying158 hi hz0 hz1 hz2 rfl (by omega) u4 n xs (by rfl) ((hown.alloc _).drew)
            ⟨wr.heap.size,0,none⟩ 1 1 [.string rs[k].name,.string rs[k].rows[j].name,.int .i64 0] (by rfl) (by rfl) (World.news_of_block (cs:=#[.string rs[k].name,.string rs[k].rows[j].name,.int .i64 0]) (t:=162) (fr:=(0,0)) (heap_alloc_new wr _)) (by simp [Value.oneCell'])
            (by omega) (by unfold maxLen; omega) (by omega) (by simp; omega) (wr.heap.size + 1) (by simp) ?_; intro gg cp w5 hown5 hgrow hat hlt5))
      have hb5:Hid (ag w w5):=((HB2.out.alloc HB2.out.size _).drew).grown hgrow (by simp; omega) (fun i hi=>(hown.lt i hi).1);have UK:Hid (w5.ownsRow w.heap.size 162 3 (.slice (some ⟨gg,0,none⟩) (n + 1) cp) (dA rs k ++ iV rs[k] (j + 1)).length (iG (FY (dA rs k ++ iV rs[k] (j + 1))))):=by
        show World.ownsRow _ _ _ _ _ _ _;rw [HFX.out,Wx.out]; exact hown5
      have h6:=V5.out;clear hown5 hgrow hat hown;go_wp2;go_roundw;case rel=>exact ⟨j + 1,by omega,by go_num,UK,hb5⟩
      simp [intOf] <;> omega
    · obtain rfl:j=rs[k].rows.length:=by omega
      have UK:Hid (wr.ownsRow w.heap.size 162 3 u4 (dA rs (k + 1)).length (iG (FY (dA rs (k + 1))))):=by
        show World.ownsRow _ _ _ _ _ _ _;rw [o7 _ _ hlt]; exact UB.out
      clear UB;go_wp2;go_roundw;case rel=>exact ⟨k + 1,by omega,by go_num,UK,HB2⟩
      simp [intOf] <;> omega
  · obtain rfl:k=rs.length:=by omega
    have WB:Hid (dA rs rs.length=ak (ae rs)):=by show _=_; unfold dA; rw [Ug]
    have HN36:Hid ((ak (ae rs)).length≤36):=by
      have h1:=wE rs Yz.out rs.length;have h2:=WB.out;show _≤_;rw [← h2]; omega
    obtain ⟨n,hn⟩:∃ n,n=(ak (ae rs)).length:=⟨_,rfl⟩;have hown:=HOW.out;rw [WB.out,← Eh] at hown;obtain ⟨V7,cpO,g,rfl,hrow⟩:=Qv HB.out hown;have HP0:Hid (Pass (ae rs) n true (FY (ak (ae rs)))):=Pass.zero hn;have Vy:=az hrow;have hn36:n≤36:=by rw [hn]; exact HN36.out
    have Wx:Hid (n=(ak (ae rs)).length):=hn;rw [Eh,← hn];clear hown HOW hrow hn WB HN36 HB;go_wp2_with fail;go_loopw [7] (fun m w1=>∃ (mb:Bool) (out:List St),m=.bool mb∧Hid (Pass (ae rs) n mb out)∧Hid (RowS w w1 V7 g out)) (fun m w1=>CP w1 g n m);case atStart=>exact ⟨true,_,rfl,HP0,Vy⟩
    clear HP0 Vy;obtain ⟨mb,oS,rfl,WT,HRS⟩:=hrel;cases mb;case false=>
      go_wp2;exact bodyPost_ret (v:=.tuple #[.slice V7 n cpO,.bool true]) (by simp [results,Tryz.results96,go_sem]) rfl ⟨.inl ⟨V7,cpO,oS,by rw [WT.out.len],HRS.out.slN,WT.out.round.keys,WT.out.least⟩,HRS.out.below⟩
    have WG:Hid (oS.length=n):=WT.out.len;have HM0:Hid (Mid (ae rs) n oS 0 0 false oS):=Mid.start WT.out.len WT.out.nn WT.out.round WT.out.le;obtain ⟨w0,hw0⟩:∃ w0,w0=wr:=⟨_,rfl⟩;subst hw0;go_wp2_with fail;go_loopw [7,8] (fun m i w1=>∃ (mb:Bool) (k:Nat) (out:List St),m=.bool mb∧k≤n∧i=.int .i64 k∧Hid (Mid (ae rs) n oS k 0 mb out)∧Hid (RowS w w1 V7 g out)) (fun _ i _=>n - (intOf i).toNat);case atStart=>exact ⟨false,0,oS,rfl,TW _,rfl,HM0,HRS⟩
    clear HM0;obtain ⟨mb,k,out,rfl,hk,rfl,HM,HR⟩:=hrel;by_cases hlt:k < n
    · have hko:k < out.length:=by rw [HM.out.len]; exact hlt
      have hke:k < (ak (ae rs)).length:=by rw [← Wx.out]; exact hlt
      have hk1:=bB k;have hk2:(k:Int) < (n:Int):=by omega
      rcases HR.out.at' with e | ⟨rfl,hgw,hgl,hO,-⟩
      · rw [e] at hko; simp at hko
      obtain ⟨c0,c1,c2⟩:=hO k hko;have YY:Hid (out[k].key=(ak (ae rs))[k]):=HM.out.key hko hke;have UG:∀ w',ag wr w'→kW w' ad rs:=fun w' h=>HS.out.below (HR.out.below.trans (h.mono HR.out.below.size));have c3:wr.drew.cell? ⟨g,k * 3,none⟩=some (.string out[k].typ)∧wr.drew.cell? ⟨g,k * 3 + 1,none⟩=some (.string out[k].rel)∧g < wr.drew.heap.size∧ag wr wr.drew:=⟨c0,c1,hgl,(TT _ _).drew⟩;clear hO c2;go_wp2_with fail
      go_region_held3 (fun w'=>w'.cell? ⟨g,k * 3,none⟩=some (.string out[k].typ)∧w'.cell? ⟨g,k * 3 + 1,none⟩=some (.string out[k].rel)∧g < w'.heap.size∧ag wr w')
        (first | exact c3 | assumption | exact keepD (by assumption) hbx)
        (first | (go_at_call 97; refine (jd ad cap rs _ _ _ (by omega) (UG _ (by first | assumption | exact c3.2.2.2)) HL.out).mono ?_; rintro e w' ⟨⟨rows,UC,capE,rfl,hex,hse,hfs⟩,rfl⟩) | (go_at_call 139; refine (Ir ad UC cap capE rs _ rows _ (by omega) (UG _ (by first | assumption | exact c3.2.2.2)) HL.out (hfs.small V6.out).1 hse (hfs.light HL.out).2 (hfs.small V6.out).2 (zY rs HL.out _ rows (hfs.small V6.out).1 (hfs.light HL.out).2)).mono ?_; rintro e w' ⟨⟨v,rfl,hown⟩,hbx⟩))
      rename_i hHeld;have VQ:Hid (ag wr w'):=hHeld.2.2.2;have UT:Hid (RowS w w' (some ⟨g,0,none⟩) g out):=HR.out.kept hHeld.2.2.2;have HDK:Hid (pR (ae rs) out[k].typ (aj rows)=il (ae rs) (ak (ae rs))[k]):=by
        show _=_;rw [← YY.out,hex]; rfl
      obtain ⟨ds,hds⟩:∃ ds,ds=il (ae rs) (ak (ae rs))[k]:=⟨_,rfl⟩;rw [HDK.out,← hds] at hown;obtain ⟨adD,cpD,rfl,hD⟩:=Tn hown;have HD5:=az hD;have hdl:ds.length≤100000000:=by
        have:=zY rs HL.out out[k].typ rows (hfs.small V6.out).1 (hfs.light HL.out).2 (aj rows).length;have e:=HDK.out;unfold pR at e;rw [e,← hds] at this;exact this
      have HDS:Hid (ds=il (ae rs) (ak (ae rs))[k]):=hds;have HKM:Hid ((ak (ae rs))[k] ∈ ak (ae rs)):=TQ hke;clear hHeld hown hD hds HDK c0 c1 c3 hex hse hfs hbx UG YY;obtain ⟨wq,hwq⟩:∃ wq,wq=wr:=⟨_,rfl⟩;subst hwq;go_wp2_with fail;go_loopw [7,10] (fun m i w2=>∃ (mb:Bool) (j:Nat) (o2:List St),m=.bool mb∧j≤ds.length∧i=.int .i64 j∧Hid (Mid (ae rs) n oS k j mb o2)∧Hid (RowS w w2 (some ⟨g,0,none⟩) g o2)∧Hid (RB w2 wq.heap.size adD ds)) (fun _ i _=>ds.length - (intOf i).toNat);case atStart=>exact ⟨mb,0,out,rfl,TW _,rfl,HM,UT,HD5⟩
      clear HM HR UT HD5 VQ;obtain ⟨mc,j,o2,rfl,hj,rfl,Vd,HR2,HD2⟩:=hrel;have VK:k < o2.length:=by rw [Vd.out.len]; exact hlt
      rcases HR2.out.at' with e | ⟨-,hgw2,hgl2,hO2,hfz2⟩
      · rw [e] at VK; simp at VK
      have f2:=hfz2 (k * 3 + 2);obtain ⟨z0,z1,z2⟩:=hO2 k VK;by_cases hjl:j < ds.length
      · rcases HD2.out with e | ⟨bd,rfl,hbd,hbl,hDc⟩
        · rw [e] at hjl; simp at hjl
        obtain ⟨x0,x1,x2⟩:=hDc j hjl;have HKE2:Hid (o2[k].key=(ak (ae rs))[k]):=Vd.out.key VK hke;have HDJ:Hid ((il (ae rs) o2[k].key)[j]?=some ds[j]):=by
          show _=_;rw [HKE2.out,← HDS.out]; exact TY hjl
        have HDF:Hid ((ds[j].typ,ds[j].rel) ∈ ak (ae rs)):=HF.out _ HKM.out ds[j] (by rw [← HDS.out]; exact TQ hjl);obtain ⟨i,hi2,hat,hin,hpos,hub⟩:=Vd.out.at _ HDF.out;obtain ⟨y0,y1,y2⟩:=hO2 i hi2;have hi3:i < n:=by rw [← Vd.out.len]; exact hi2
        have HW:Hid (o8 o2 ds[j]=fO o2 (ds[j].typ,ds[j].rel) + stepOf ds[j]):=rfl;have HL2:Hid (o2.length=n):=Vd.out.len;have HSN:Hid (Iq wr (some ⟨g,0,none⟩) o2):=HR2.out.slN;rw [hin] at y2;obtain ⟨x,hx⟩:∃ x,x=fO o2 (ds[j].typ,ds[j].rel):=⟨_,rfl⟩;have HX:Hid (o8 o2 ds[j]=x + stepOf ds[j]):=by rw [hx]; exact HW
        rw [← hx] at hpos hub y2;obtain ⟨kn,hkn⟩:∃ kn,kn=o2[k].n:=⟨_,rfl⟩;rw [← hkn] at z2;have ZN:Hid (kn=o2[k].n):=hkn;have hkn1:0≤kn:=by rw [hkn]; exact Vd.out.round.pos _ (TQ VK)
        have hkn2:kn≤n + 1 + j:=by rw [hkn]; exact Vd.out.lek VK
        have hj1:=bB j;have hj2:(j:Int) < (ds.length:Int):=by omega
        have hi4:=bB i;have hi5:(i:Int) < (n:Int):=by omega
        have HAT:Hid (gP ds[j].typ ds[j].rel o2 0=(i:Int)):=hat;have hx5:(2:Int) < 5:=by omega
        clear hfz2 hO2 hDc hx hkn hin y0 y1 hi2 HW hat z0 z1;go_wp2_with fail
        go_region_held3 (fun w'=>w'.cell? ⟨bd,j * 3,none⟩=some (.string ds[j].typ)∧w'.cell? ⟨bd,j * 3 + 1,none⟩=some (.string ds[j].rel)∧w'.cell? ⟨g,i * 3 + 2,none⟩=some (.int .i64 x))
          (first | assumption | exact ⟨x0,x1,y2⟩)
          (first | (go_at_call 140; refine (Sm (some ⟨g,0,none⟩) cpO n o2 (ds[j].typ,ds[j].rel) _ HL2.out (by omega) (by first | exact HSN.out | assumption) i HAT.out).mono ?_; rintro e w' ⟨rfl,rfl⟩))
        rename_i hHeld2;have HR3:Hid (RowS w wr.drew (some ⟨g,0,none⟩) g o2):=HR2.out.kept ((TT _ _).drew);have HD3:Hid (RB wr.drew wq.heap.size (some ⟨bd,0,none⟩) ds):=HD2.out;clear hHeld2 x0 x1 y2;cases hneg:ds[j].neg
        case' true =>
          have Xh:Hid (o8 o2 ds[j]=x + 1):=by show _=_; rw [HX.out]; simp [stepOf,hneg]
          rw [hneg] at x2;by_cases hgt:kn < x + 1
          · have XY:Hid (Mid (ae rs) n oS k (j + 1) true (o2.set k ⟨o2[k].typ,o2[k].rel,x + 1⟩)):=by
              have:=Vd.out.yes HF.out VK ds[j] HDJ.out (by rw [Xh.out,← ZN.out]; exact hgt);rw [Xh.out] at this; exact this
            have HR4:Hid (RowS w (wr.drew.setCell ⟨g,k * 3 + 2,none⟩ (.int .i64 (x + 1))) (some ⟨g,0,none⟩) g (o2.set k ⟨o2[k].typ,o2[k].rel,x + 1⟩)):=HR3.out.set VK (x + 1);have HD4:Hid (RB (wr.drew.setCell ⟨g,k * 3 + 2,none⟩ (.int .i64 (x + 1))) wq.heap.size (some ⟨bd,0,none⟩) ds):=HD3.out.set hgl;clear Vd HR2 HR3 HD2 HD3;go_wp2;go_roundw;case rel=>exact ⟨true,j + 1,_,rfl,by omega,by go_num,XY,HR4,HD4⟩
            simp [intOf] <;> omega
        case' false =>
          have Xh:Hid (o8 o2 ds[j]=x):=by show _=_; rw [HX.out]; simp [stepOf,hneg]
          rw [hneg] at x2;by_cases hgt:kn < x
          · have XY:Hid (Mid (ae rs) n oS k (j + 1) true (o2.set k ⟨o2[k].typ,o2[k].rel,x⟩)):=by
              have:=Vd.out.yes HF.out VK ds[j] HDJ.out (by rw [Xh.out,← ZN.out]; exact hgt);rw [Xh.out] at this; exact this
            have HR4:Hid (RowS w (wr.drew.setCell ⟨g,k * 3 + 2,none⟩ (.int .i64 (x))) (some ⟨g,0,none⟩) g (o2.set k ⟨o2[k].typ,o2[k].rel,x⟩)):=HR3.out.set VK (x);have HD4:Hid (RB (wr.drew.setCell ⟨g,k * 3 + 2,none⟩ (.int .i64 (x))) wq.heap.size (some ⟨bd,0,none⟩) ds):=HD3.out.set hgl;clear Vd HR2 HR3 HD2 HD3;go_wp2;go_roundw;case rel=>exact ⟨true,j + 1,_,rfl,by omega,by go_num,XY,HR4,HD4⟩
            simp [intOf] <;> omega
        all_goals
          · have XY:Hid (Mid (ae rs) n oS k (j + 1) mc o2):=Vd.out.no VK ds[j] HDJ.out (by rw [Xh.out,← ZN.out]; omega);clear Vd HR2 HD2;go_wp2;go_roundw;case rel=>exact ⟨mc,j + 1,o2,rfl,by omega,by go_num,XY,HR3,HD3⟩
            simp [intOf] <;> omega
      · obtain rfl:j=ds.length:=by omega
        have HKE2:Hid (o2[k].key=(ak (ae rs))[k]):=Vd.out.key VK hke;have HJ:Hid (ds.length=(il (ae rs) o2[k].key).length):=by show _=_; rw [HKE2.out,← HDS.out]
        clear z0 z1 hO2 hfz2 f2;by_cases hov:(n:Int) < o2[k].n
        · have Wt:Hid (¬ ∃ f,Sol (ae rs) f):=Vd.out.over HF.out VK hov;have hkn2:o2[k].n≤n + 1 + ds.length:=Vd.out.lek VK;go_wp2;exact bodyPost_ret (v:=.tuple #[.slice none 0 0,.bool false]) (by simp [results,Tryz.results96,go_sem]) rfl ⟨.inr ⟨rfl,Wt.out⟩,HR2.out.below⟩
        · have XY:Hid (Mid (ae rs) n oS (k + 1) 0 mc o2):=Vd.out.next VK HJ.out (by omega);clear Vd;go_wp2;go_roundw;case rel=>exact ⟨mc,k + 1,o2,rfl,by omega,by go_num,XY,HR2⟩
          simp [intOf] <;> omega
    · obtain rfl:k=n:=by omega
      have UI:Hid (Pass (ae rs) k mb out):=HM.out.done rfl;have HLS:Hid (CP wr g k (.bool mb) < CP w0 g k (.bool true)):=IK HRS.out HR.out HM.out WG.out;go_wp2;go_roundw;case rel=>exact ⟨mb,out,rfl,UI,HR⟩
      exact HLS.out
end Go.Proofs.YtajkkeikihhejaaGreat
