/- Contract of the document's function on strata: the walk. -/
import Derived.Test.YtdmniljjnaebbaaGreatDoorSq
import Derived.Test.YtdmniljjnaebbaaGreatDoorJ11
open Go.Proofs.Tryz
set_option maxHeartbeats 80000000
namespace Go.Proofs.YtdmniljjnaebbaaGreatDoor
open Go.ChangeShapes Go.WideShapes Go.ChangeAt Go.RowKit
open Pl
set_option maxRecDepth 100000 in
theorem sM (ad:Option Addr) (cap:Nat) (rs:List TR) (w:af) (hlen:rs.length≤6) (hs:iN w ad rs) (hl:∀ r ∈ rs,r.light) (hrl:∀ r ∈ rs,r.rows.length≤6) (hel:∀ r ∈ rs,∀ q ∈ r.rows,q.rows.length≤15∧∀ e ∈ q.rows,dQ q.rows.length e.e.kids) (hF:Found (ag rs)) :
    Calls prog 83 #[.slice ad rs.length cap] w fun e w'=>((∃ Ti cap' out,e=.returned (.tuple #[.slice Ti out.length cap',.bool true])∧Gy w' Ti out∧gy out=ak (ag rs)∧Least (ag rs) (eG out)) ∨ (e=.returned (.tuple #[.slice none 0 0,.bool false])∧¬ ∃ f,Sol (ag rs) f))∧aa w w':=by
  have HS:=ay hs;have HL:=ay hl;have Xp:Hid (∀ r ∈ rs,r.rows.length≤6):=hrl;have UX:Hid (∀ r ∈ rs,∀ q ∈ r.rows,q.rows.length≤15∧∀ e ∈ q.rows,dQ q.rows.length e.e.kids):=hel;have HF:=ay hF;clear hs hl hrl hel hF;obtain ⟨i0,hi,hz0,hz1,hz2⟩:=info_parts OQ;go_enter func83,ntmps83;have Zd:Hid (aa w (w.alloc (.cells #[] 145))):=(Si _ _).alloc (Sj _) _;have hown1:Hid ((w.alloc (.cells #[] 145)).ownsRow w.heap.size 145 3 (.slice (some ⟨w.heap.size,0,none⟩) 0 0) 0 []):=World.ownsRow_made w #[] 0 (Sj _) (by decide) rfl;go_wp2_with fail;go_loopw [4,5] (fun v i wr=>∃ k:Nat,k≤rs.length∧i=.int .i64 k∧Hid (wr.ownsRow w.heap.size 145 3 v (cz rs k).length (gF (En (cz rs k))))∧Hid (aa w wr)) (fun _ i _=>rs.length - (intOf i).toNat);case atStart=>exact ⟨0,Sm _,rfl,hown1,Zd⟩
  clear hown1 Zd;obtain ⟨k,hk,rfl,HOW,HB⟩:=hrel;by_cases hlt:k < rs.length
  · have hk1:=bH k;have hk2:(k:Int) < (rs.length:Int):=by omega
    have HU:Hid ((cz rs k).length≤k * 6):=ul rs Xp.out k;have WP:Hid (rs[k].rows.length≤6):=Xp.out _ (Sd hlt);obtain ⟨wo,hwo⟩:∃ wo,wo=wr:=⟨_,rfl⟩;subst hwo;go_wp2_with fail;go_loopw [4,6] (fun v i w2=>∃ j:Nat,j≤rs[k].rows.length∧i=.int .i64 j∧Hid (w2.ownsRow w.heap.size 145 3 v (cz rs k ++ gY rs[k] j).length (gF (En (cz rs k ++ gY rs[k] j))))∧Hid (aa w w2)) (fun _ i _=>rs[k].rows.length - (intOf i).toNat);case atStart=>exact ⟨0,Sm _,rfl,(by simpa [gY] using HOW),HB⟩
    obtain ⟨j,hj,rfl,Tj,HB2⟩:=hrel;rcases HS.out.below HB2.out with rfl | ⟨b,off,rfl,hb,hr,hok⟩
    · simp at hlt
    have hbw:b < w.heap.size:=by
      rcases HS.out with h | ⟨b',off',e,hb',-⟩
      · rw [h] at hlt; simp at hlt
      · injection e with e; injection e with e1 e2; omega
    obtain ⟨t0,t1⟩:=hr k hlt;have TS:Hid (rs[k].ok _):=hok rs[k] (Sd hlt);have HOKW:Hid (rs[k].ok w):=HS.out.mem (Sd hlt);clear hr hok;by_cases hjl:j < rs[k].rows.length
    · rcases TS.out with hnil | ⟨b2,TY,had,hb2,hr2,-⟩
      · rw [hnil] at hjl; simp at hjl
      have hbw2:b2 < w.heap.size:=by
        rcases HOKW.out with h | ⟨b',off',e,hb',-⟩
        · rw [h] at hjl; simp at hjl
        · rw [had] at e; injection e with e; injection e with e1 e2; omega
      have t1':=t1;rw [had] at t1';obtain ⟨q0,q1⟩:=hr2 j hjl;have hj1:=bH j;have hj2:(j:Int) < (rs[k].rows.length:Int):=by omega
      have a1:u4.ownBlock ≠ some b:=fun e=>by have:=(Tj.out.lt _ e).1; omega
      have a2:u4.ownBlock ≠ some b2:=fun e=>by have:=(Tj.out.lt _ e).1; omega
      have l4:w.heap.size≤wr.heap.size:=HB2.out.size;obtain ⟨xs,hxs⟩:∃ xs,xs=gF (En (cz rs k ++ gY rs[k] j)):=⟨_,rfl⟩;obtain ⟨n,hn⟩:∃ n,n=(cz rs k ++ gY rs[k] j).length:=⟨_,rfl⟩;have hown:=Tj.out;rw [← hxs,← hn] at hown;have hnl:n≤1000:=by
        have h1:=HU.out;have h2:=Bg rs[k] j;have h3:=WP.out;rw [hn,Sr]; omega
      have HFX:Hid (gF (En (cz rs k ++ gY rs[k] (j + 1)))=xs ++ [.string rs[k].name,.string rs[k].rows[j].name,.int .i64 0]):=by
        show _=_;rw [qZ _ _ hjl,← List.append_assoc,MN,yD,← hxs]; rfl
      have Vh:Hid ((cz rs k ++ gY rs[k] (j + 1)).length=n + 1):=by show _=_; rw [qZ _ _ hjl,← List.append_assoc,Sr,← hn]; rfl
      clear hr2 had t1 hxs hn Tj;go_wp2_with fail
      go_region_held3 (fun w'=>w'.cell? ⟨b,off + k * 2,none⟩=some (.string rs[k].name)∧w'.cell? ⟨b,off + k * 2 + 1,none⟩=some (.slice (some ⟨b2,TY,none⟩) rs[k].rows.length rs[k].cap)∧w'.cell? ⟨b2,TY + j * 2,none⟩=some (.string rs[k].rows[j].name))
        (first
          | go_keep
          | (go_split_ands
             refine ⟨?_,?_,?_⟩
             · (rw [hgrow.cell_far _ (by simp; omega) (Ne.symm a1)]; assumption)
             · (rw [hgrow.cell_far _ (by simp; omega) (Ne.symm a1)]; assumption)
             · (rw [hgrow.cell_far _ (by simp; omega) (Ne.symm a2)]; assumption)))
        ((refine step_append_lies _ (by rfl) _ _ _ (by rfl) w.heap.size 145 i0 _ 3 40 underlying141 hi hz0 hz1 hz2 rfl (by omega) u4 n xs (by rfl) ((hown.alloc _).drew)
            ⟨wr.heap.size,0,none⟩ 1 1 [.string rs[k].name,.string rs[k].rows[j].name,.int .i64 0] (by rfl) (by rfl) (World.news_of_block (cs:=#[.string rs[k].name,.string rs[k].rows[j].name,.int .i64 0]) (t:=145) (fr:=(0,0)) (heap_alloc_new wr _)) (by simp [Value.oneCell'])
            (by omega) (by unfold maxLen; omega) (by omega) (by simp; omega) (wr.heap.size + 1) (by simp) ?_; intro gg cp w5 hown5 hgrow hat hlt5))
      have hb5:Hid (aa w w5):=((HB2.out.alloc HB2.out.size _).drew).grown hgrow (by simp; omega) (fun i hi=>(hown.lt i hi).1);have Uc:Hid (w5.ownsRow w.heap.size 145 3 (.slice (some ⟨gg,0,none⟩) (n + 1) cp) (cz rs k ++ gY rs[k] (j + 1)).length (gF (En (cz rs k ++ gY rs[k] (j + 1))))):=by
        show World.ownsRow _ _ _ _ _ _ _;rw [HFX.out,Vh.out]; exact hown5
      have h6:=WP.out;clear hown5 hgrow hat hown;go_wp2;go_roundw;case rel=>exact ⟨j + 1,by omega,by go_num,Uc,hb5⟩
      simp [intOf] <;> omega
    · obtain rfl:j=rs[k].rows.length:=by omega
      have Uc:Hid (wr.ownsRow w.heap.size 145 3 u4 (cz rs (k + 1)).length (gF (En (cz rs (k + 1))))):=by
        show World.ownsRow _ _ _ _ _ _ _;rw [nN _ _ hlt]; exact Tj.out
      clear Tj;go_wp2;go_roundw;case rel=>exact ⟨k + 1,by omega,by go_num,Uc,HB2⟩
      simp [intOf] <;> omega
  · obtain rfl:k=rs.length:=by omega
    have Vk:Hid (cz rs rs.length=ak (ag rs)):=by show _=_; unfold cz; rw [Su]
    have HN36:Hid ((ak (ag rs)).length≤36):=by
      have h1:=ul rs Xp.out rs.length;have h2:=Vk.out;show _≤_;rw [← h2]; omega
    obtain ⟨n,hn⟩:∃ n,n=(ak (ag rs)).length:=⟨_,rfl⟩;have hown:=HOW.out;rw [Vk.out,← CK] at hown;obtain ⟨U1,cpO,g,rfl,hrow⟩:=OU HB.out hown;have HP0:Hid (Pass (ag rs) n true (En (ak (ag rs)))):=Pass.zero hn;have XQ:=ay hrow;have hn36:n≤36:=by rw [hn]; exact HN36.out
    have Vh:Hid (n=(ak (ag rs)).length):=hn;rw [CK,← hn];clear hown HOW hrow hn Vk HN36 HB;go_wp2_with fail;go_loopw [7] (fun m w1=>∃ (mb:Bool) (out:List St),m=.bool mb∧Hid (Pass (ag rs) n mb out)∧Hid (RowS w w1 U1 g out)) (fun m w1=>Bj w1 g n m);case atStart=>exact ⟨true,_,rfl,HP0,XQ⟩
    clear HP0 XQ;obtain ⟨mb,oS,rfl,HPS,HRS⟩:=hrel;cases mb;case false=>
      go_wp2;exact bodyPost_ret (v:=.tuple #[.slice U1 n cpO,.bool true]) (by simp [results,Tryz.results83,go_sem]) rfl ⟨.inl ⟨U1,cpO,oS,by rw [HPS.out.len],HRS.out.slN,HPS.out.round.keys,HPS.out.least⟩,HRS.out.below⟩
    have Uj:Hid (oS.length=n):=HPS.out.len;have HM0:Hid (Mid (ag rs) n oS 0 0 false oS):=Mid.start HPS.out.len HPS.out.nn HPS.out.round HPS.out.le;obtain ⟨w0,hw0⟩:∃ w0,w0=wr:=⟨_,rfl⟩;subst hw0;go_wp2_with fail;go_loopw [7,8] (fun m i w1=>∃ (mb:Bool) (k:Nat) (out:List St),m=.bool mb∧k≤n∧i=.int .i64 k∧Hid (Mid (ag rs) n oS k 0 mb out)∧Hid (RowS w w1 U1 g out)) (fun _ i _=>n - (intOf i).toNat);case atStart=>exact ⟨false,0,oS,rfl,Sm _,rfl,HM0,HRS⟩
    clear HM0;obtain ⟨mb,k,out,rfl,hk,rfl,HM,HR⟩:=hrel;by_cases hlt:k < n
    · have hko:k < out.length:=by rw [HM.out.len]; exact hlt
      have hke:k < (ak (ag rs)).length:=by rw [← Vh.out]; exact hlt
      have hk1:=bH k;have hk2:(k:Int) < (n:Int):=by omega
      rcases HR.out.at' with e | ⟨rfl,hgw,hgl,hO,-⟩
      · rw [e] at hko; simp at hko
      obtain ⟨c0,c1,c2⟩:=hO k hko;have VW:Hid (out[k].key=(ak (ag rs))[k]):=HM.out.key hko hke;have Tt:∀ w',aa wr w'→iN w' ad rs:=fun w' h=>HS.out.below (HR.out.below.trans (h.mono HR.out.below.size));have c3:wr.drew.cell? ⟨g,k * 3,none⟩=some (.string out[k].typ)∧wr.drew.cell? ⟨g,k * 3 + 1,none⟩=some (.string out[k].rel)∧g < wr.drew.heap.size∧aa wr wr.drew:=⟨c0,c1,hgl,(Si _ _).drew⟩;clear hO c2;go_wp2_with fail
      go_region_held3 (fun w'=>w'.cell? ⟨g,k * 3,none⟩=some (.string out[k].typ)∧w'.cell? ⟨g,k * 3 + 1,none⟩=some (.string out[k].rel)∧g < w'.heap.size∧aa wr w')
        (first | exact c3 | assumption | exact keepD (by assumption) hbx)
        (first | (go_at_call 84; refine (iq ad cap rs _ _ _ (by omega) (Tt _ (by first | assumption | exact c3.2.2.2)) HL.out).mono ?_; rintro e w' ⟨⟨rows,Tm,capE,rfl,hex,hse,hfs⟩,rfl⟩) | (go_at_call 117; refine (GH ad Tm cap capE rs _ rows _ (by omega) (Tt _ (by first | assumption | exact c3.2.2.2)) HL.out (hfs.small UX.out).1 hse (hfs.light HL.out).2 (hfs.small UX.out).2 (yH rs HL.out _ rows (hfs.small UX.out).1 (hfs.light HL.out).2)).mono ?_; rintro e w' ⟨⟨v,rfl,hown⟩,hbx⟩))
      rename_i hHeld;have TI:Hid (aa wr w'):=hHeld.2.2.2;have HR5:Hid (RowS w w' (some ⟨g,0,none⟩) g out):=HR.out.kept hHeld.2.2.2;have HDK:Hid (oW (ag rs) out[k].typ (ai rows)=gu (ag rs) (ak (ag rs))[k]):=by
        show _=_;rw [← VW.out,hex]; rfl
      obtain ⟨ds,hds⟩:∃ ds,ds=gu (ag rs) (ak (ag rs))[k]:=⟨_,rfl⟩;rw [HDK.out,← hds] at hown;obtain ⟨adD,cpD,rfl,hD⟩:=Rs hown;have HD5:=ay hD;have hdl:ds.length≤100000000:=by
        have:=yH rs HL.out out[k].typ rows (hfs.small UX.out).1 (hfs.light HL.out).2 (ai rows).length;have e:=HDK.out;unfold oW at e;rw [e,← hds] at this;exact this
      have HDS:Hid (ds=gu (ag rs) (ak (ag rs))[k]):=hds;have HKM:Hid ((ak (ag rs))[k] ∈ ak (ag rs)):=Sd hke;clear hHeld hown hD hds HDK c0 c1 c3 hex hse hfs hbx Tt VW;obtain ⟨wq,hwq⟩:∃ wq,wq=wr:=⟨_,rfl⟩;subst hwq;go_wp2_with fail;go_loopw [7,10] (fun m i w2=>∃ (mb:Bool) (j:Nat) (o2:List St),m=.bool mb∧j≤ds.length∧i=.int .i64 j∧Hid (Mid (ag rs) n oS k j mb o2)∧Hid (RowS w w2 (some ⟨g,0,none⟩) g o2)∧Hid (P8 w2 wq.heap.size adD ds)) (fun _ i _=>ds.length - (intOf i).toNat);case atStart=>exact ⟨mb,0,out,rfl,Sm _,rfl,HM,HR5,HD5⟩
      clear HM HR HR5 HD5 TI;obtain ⟨mc,j,o2,rfl,hj,rfl,UT,HR2,HD2⟩:=hrel;have Uu:k < o2.length:=by rw [UT.out.len]; exact hlt
      rcases HR2.out.at' with e | ⟨-,hgw2,UF,hO2,hfz2⟩
      · rw [e] at Uu; simp at Uu
      have f2:=hfz2 (k * 3 + 2);obtain ⟨z0,z1,z2⟩:=hO2 k Uu;by_cases hjl:j < ds.length
      · rcases HD2.out with e | ⟨bd,rfl,hbd,hbl,hDc⟩
        · rw [e] at hjl; simp at hjl
        obtain ⟨x0,x1,x2⟩:=hDc j hjl;have HKE2:Hid (o2[k].key=(ak (ag rs))[k]):=UT.out.key Uu hke;have HDJ:Hid ((gu (ag rs) o2[k].key)[j]?=some ds[j]):=by
          show _=_;rw [HKE2.out,← HDS.out]; exact Sw hjl
        have HDF:Hid ((ds[j].typ,ds[j].rel) ∈ ak (ag rs)):=HF.out _ HKM.out ds[j] (by rw [← HDS.out]; exact Sd hjl);obtain ⟨i,hi2,hat,hin,hpos,hub⟩:=UT.out.at _ HDF.out;obtain ⟨y0,y1,y2⟩:=hO2 i hi2;have hi3:i < n:=by rw [← UT.out.len]; exact hi2
        have HW:Hid (nO o2 ds[j]=eG o2 (ds[j].typ,ds[j].rel) + stepOf ds[j]):=rfl;have HL2:Hid (o2.length=n):=UT.out.len;have HSN:Hid (Gy wr (some ⟨g,0,none⟩) o2):=HR2.out.slN;rw [hin] at y2;obtain ⟨x,hx⟩:∃ x,x=eG o2 (ds[j].typ,ds[j].rel):=⟨_,rfl⟩;have HX:Hid (nO o2 ds[j]=x + stepOf ds[j]):=by rw [hx]; exact HW
        rw [← hx] at hpos hub y2;obtain ⟨kn,hkn⟩:∃ kn,kn=o2[k].n:=⟨_,rfl⟩;rw [← hkn] at z2;have WB:Hid (kn=o2[k].n):=hkn;have hkn1:0≤kn:=by rw [hkn]; exact UT.out.round.pos _ (Sd Uu)
        have hkn2:kn≤n + 1 + j:=by rw [hkn]; exact UT.out.lek Uu
        have hj1:=bH j;have hj2:(j:Int) < (ds.length:Int):=by omega
        have hi4:=bH i;have hi5:(i:Int) < (n:Int):=by omega
        have HAT:Hid (fM ds[j].typ ds[j].rel o2 0=(i:Int)):=hat;have hx5:(2:Int) < 5:=by omega
        clear hfz2 hO2 hDc hx hkn hin y0 y1 hi2 HW hat z0 z1;go_wp2_with fail
        go_region_held3 (fun w'=>w'.cell? ⟨bd,j * 3,none⟩=some (.string ds[j].typ)∧w'.cell? ⟨bd,j * 3 + 1,none⟩=some (.string ds[j].rel)∧w'.cell? ⟨g,i * 3 + 2,none⟩=some (.int .i64 x))
          (first | assumption | exact ⟨x0,x1,y2⟩)
          (first | (go_at_call 118; refine (QD (some ⟨g,0,none⟩) cpO n o2 (ds[j].typ,ds[j].rel) _ HL2.out (by omega) (by first | exact HSN.out | assumption) i HAT.out).mono ?_; rintro e w' ⟨rfl,rfl⟩))
        rename_i hHeld2;have HR3:Hid (RowS w wr.drew (some ⟨g,0,none⟩) g o2):=HR2.out.kept ((Si _ _).drew);have HD3:Hid (P8 wr.drew wq.heap.size (some ⟨bd,0,none⟩) ds):=HD2.out;clear hHeld2 x0 x1 y2;cases hneg:ds[j].neg
        case' true =>
          have Ud:Hid (nO o2 ds[j]=x + 1):=by show _=_; rw [HX.out]; simp [stepOf,hneg]
          rw [hneg] at x2;by_cases hgt:kn < x + 1
          · have Zn:Hid (Mid (ag rs) n oS k (j + 1) true (o2.set k ⟨o2[k].typ,o2[k].rel,x + 1⟩)):=by
              have:=UT.out.yes HF.out Uu ds[j] HDJ.out (by rw [Ud.out,← WB.out]; exact hgt);rw [Ud.out] at this; exact this
            have HR4:Hid (RowS w (wr.drew.setCell ⟨g,k * 3 + 2,none⟩ (.int .i64 (x + 1))) (some ⟨g,0,none⟩) g (o2.set k ⟨o2[k].typ,o2[k].rel,x + 1⟩)):=HR3.out.set Uu (x + 1);have HD4:Hid (P8 (wr.drew.setCell ⟨g,k * 3 + 2,none⟩ (.int .i64 (x + 1))) wq.heap.size (some ⟨bd,0,none⟩) ds):=HD3.out.set hgl;clear UT HR2 HR3 HD2 HD3;go_wp2;go_roundw;case rel=>exact ⟨true,j + 1,_,rfl,by omega,by go_num,Zn,HR4,HD4⟩
            simp [intOf] <;> omega
        case' false =>
          have Ud:Hid (nO o2 ds[j]=x):=by show _=_; rw [HX.out]; simp [stepOf,hneg]
          rw [hneg] at x2;by_cases hgt:kn < x
          · have Zn:Hid (Mid (ag rs) n oS k (j + 1) true (o2.set k ⟨o2[k].typ,o2[k].rel,x⟩)):=by
              have:=UT.out.yes HF.out Uu ds[j] HDJ.out (by rw [Ud.out,← WB.out]; exact hgt);rw [Ud.out] at this; exact this
            have HR4:Hid (RowS w (wr.drew.setCell ⟨g,k * 3 + 2,none⟩ (.int .i64 (x))) (some ⟨g,0,none⟩) g (o2.set k ⟨o2[k].typ,o2[k].rel,x⟩)):=HR3.out.set Uu (x);have HD4:Hid (P8 (wr.drew.setCell ⟨g,k * 3 + 2,none⟩ (.int .i64 (x))) wq.heap.size (some ⟨bd,0,none⟩) ds):=HD3.out.set hgl;clear UT HR2 HR3 HD2 HD3;go_wp2;go_roundw;case rel=>exact ⟨true,j + 1,_,rfl,by omega,by go_num,Zn,HR4,HD4⟩
            simp [intOf] <;> omega
        all_goals
          · have Zn:Hid (Mid (ag rs) n oS k (j + 1) mc o2):=UT.out.no Uu ds[j] HDJ.out (by rw [Ud.out,← WB.out]; omega);clear UT HR2 HD2;go_wp2;go_roundw;case rel=>exact ⟨mc,j + 1,o2,rfl,by omega,by go_num,Zn,HR3,HD3⟩
            simp [intOf] <;> omega
      · obtain rfl:j=ds.length:=by omega
        have HKE2:Hid (o2[k].key=(ak (ag rs))[k]):=UT.out.key Uu hke;have HJ:Hid (ds.length=(gu (ag rs) o2[k].key).length):=by show _=_; rw [HKE2.out,← HDS.out]
        clear z0 z1 hO2 hfz2 f2;by_cases hov:(n:Int) < o2[k].n
        · have HNO:Hid (¬ ∃ f,Sol (ag rs) f):=UT.out.over HF.out Uu hov;have hkn2:o2[k].n≤n + 1 + ds.length:=UT.out.lek Uu;go_wp2;exact bodyPost_ret (v:=.tuple #[.slice none 0 0,.bool false]) (by simp [results,Tryz.results83,go_sem]) rfl ⟨.inr ⟨rfl,HNO.out⟩,HR2.out.below⟩
        · have Zn:Hid (Mid (ag rs) n oS (k + 1) 0 mc o2):=UT.out.next Uu HJ.out (by omega);clear UT;go_wp2;go_roundw;case rel=>exact ⟨mc,k + 1,o2,rfl,by omega,by go_num,Zn,HR2⟩
          simp [intOf] <;> omega
    · obtain rfl:k=n:=by omega
      have Tu:Hid (Pass (ag rs) k mb out):=HM.out.done rfl;have HLS:Hid (Bj wr g k (.bool mb) < Bj w0 g k (.bool true)):=GN HRS.out HR.out HM.out Uj.out;go_wp2;go_roundw;case rel=>exact ⟨mb,out,rfl,Tu,HR⟩
      exact HLS.out
end Go.Proofs.YtdmniljjnaebbaaGreatDoor
