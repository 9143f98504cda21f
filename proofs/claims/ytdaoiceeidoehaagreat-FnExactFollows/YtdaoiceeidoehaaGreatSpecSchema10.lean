/- Contract of the document's function on strata: the walk. -/
import Derived.Test.YtdaoiceeidoehaaGreatJ14
open Go.Proofs.Tryz
set_option maxHeartbeats 80000000
namespace Go.Proofs.YtdaoiceeidoehaaGreat
open Go.ChangeShapes Go.WideShapes Go.ChangeAt Go.RowKit
open Pl
set_option maxRecDepth 100000 in
theorem qo (ad:Option Addr) (cap:Nat) (rs:List TR) (w:World) (hlen:rs.length≤6) (hs:fe w ad rs) (hl:∀ r ∈ rs,r.light) (hrl:∀ r ∈ rs,r.rows.length≤6) (hel:∀ r ∈ rs,∀ q ∈ r.rows,q.rows.length≤15∧∀ e ∈ q.rows,bR q.rows.length e.e.kids) (hF:Found (ae rs)) :
    Calls prog 60 #[.slice ad rs.length cap] w fun e w'=>((∃ ad' cap' out,e=.returned (.tuple #[.slice ad' out.length cap',.bool true])∧CL w' ad' out∧fO out=aj (ae rs)∧Least (ae rs) (dS out)) ∨ (e=.returned (.tuple #[.slice none 0 0,.bool false])∧¬ ∃ f,Sol (ae rs) f))∧Below w.heap.size w w':=by
  have HS:Hid (fe w ad rs):=hs;have HL:Hid (∀ r ∈ rs,r.light):=hl;have HRL:Hid (∀ r ∈ rs,r.rows.length≤6):=hrl;have HEL:Hid (∀ r ∈ rs,∀ q ∈ r.rows,q.rows.length≤15∧∀ e ∈ q.rows,bR q.rows.length e.e.kids):=hel;have HF:Hid (Found (ae rs)):=hF;clear hs hl hrl hel hF;obtain ⟨i0,hi,hz0,hz1,hz2⟩:=info_parts JX;go_enter func60,ntmps60;have hbA:Hid (Below w.heap.size w (w.alloc (.cells #[] 114))):=(Below.refl _ _).alloc (Nat.le_refl _) _;have hown1:Hid ((w.alloc (.cells #[] 114)).ownsRow w.heap.size 114 3 (.slice (some ⟨w.heap.size,0,none⟩) 0 0) 0 []):=World.ownsRow_made w #[] 0 (Nat.le_refl _) (by decide) rfl;go_wp2_with fail;go_loopw [4,5] (fun v i wr=>∃ k:Nat,k≤rs.length∧i=.int .i64 k∧Hid (wr.ownsRow w.heap.size 114 3 v (bH rs k).length (fP (z8 (bH rs k))))∧Hid (Below w.heap.size w wr)) (fun _ i _=>rs.length - (intOf i).toNat);case atStart=>exact ⟨0,Nat.zero_le _,rfl,hown1,hbA⟩
  case round =>
    clear hown1 hbA;obtain ⟨k,hk,rfl,HOW,HB⟩:=hrel;by_cases hlt:k < rs.length
    · have hk1:=bf k;have hk2:(k:Int) < (rs.length:Int):=by omega
      have HU:Hid ((bH rs k).length≤k * 6):=qR rs HRL.out k;have HR6:Hid (rs[k].rows.length≤6):=HRL.out _ (List.getElem_mem hlt);obtain ⟨wo,hwo⟩:∃ wo,wo=wr:=⟨_,rfl⟩;subst hwo;go_wp2_with fail;go_loopw [4,6] (fun v i w2=>∃ j:Nat,j≤rs[k].rows.length∧i=.int .i64 j∧Hid (w2.ownsRow w.heap.size 114 3 v (bH rs k ++ gp rs[k] j).length (fP (z8 (bH rs k ++ gp rs[k] j))))∧Hid (Below w.heap.size w w2)) (fun _ i _=>rs[k].rows.length - (intOf i).toNat);case atStart=>exact ⟨0,Nat.zero_le _,rfl,(by simpa [gp] using HOW),HB⟩
      case round =>
        obtain ⟨j,hj,rfl,HO2,HB2⟩:=hrel;rcases HS.out.below HB2.out with rfl | ⟨b,off,rfl,hb,hr,hok⟩
        · simp at hlt
        have hbw:b < w.heap.size:=by
          rcases HS.out with h | ⟨b',off',e,hb',-⟩
          · rw [h] at hlt; simp at hlt
          · injection e with e; injection e with e1 e2; omega
        obtain ⟨t0,t1⟩:=hr k hlt;have HOK:Hid (rs[k].ok _):=hok rs[k] (List.getElem_mem hlt);have HOKW:Hid (rs[k].ok w):=HS.out.mem (List.getElem_mem hlt);clear hr hok;by_cases hjl:j < rs[k].rows.length
        · rcases HOK.out with hnil | ⟨b2,off2,had,hb2,hr2,-⟩
          · rw [hnil] at hjl; simp at hjl
          have hbw2:b2 < w.heap.size:=by
            rcases HOKW.out with h | ⟨b',off',e,hb',-⟩
            · rw [h] at hjl; simp at hjl
            · rw [had] at e; injection e with e; injection e with e1 e2; omega
          have t1':=t1;rw [had] at t1';obtain ⟨q0,q1⟩:=hr2 j hjl;have hj1:=bf j;have hj2:(j:Int) < (rs[k].rows.length:Int):=by omega
          have a1:u4.ownBlock ≠ some b:=fun e=>by have:=(HO2.out.lt _ e).1; omega
          have a2:u4.ownBlock ≠ some b2:=fun e=>by have:=(HO2.out.lt _ e).1; omega
          have l4:w.heap.size≤wr.heap.size:=HB2.out.size;obtain ⟨xs,hxs⟩:∃ xs,xs=fP (z8 (bH rs k ++ gp rs[k] j)):=⟨_,rfl⟩;obtain ⟨n,hn⟩:∃ n,n=(bH rs k ++ gp rs[k] j).length:=⟨_,rfl⟩;have hown:=HO2.out;rw [← hxs,← hn] at hown;have hnl:n≤1000:=by
            have h1:=HU.out;have h2:=xN rs[k] j;have h3:=HR6.out;rw [hn,List.length_append]; omega
          have HFX:Hid (fP (z8 (bH rs k ++ gp rs[k] (j + 1)))=xs ++ [.string rs[k].name,.string rs[k].rows[j].name,.int .i64 0]):=by
            show _=_;rw [oG _ _ hjl,← List.append_assoc,IB,uW,← hxs]; rfl
          have HNN:Hid ((bH rs k ++ gp rs[k] (j + 1)).length=n + 1):=by show _=_; rw [oG _ _ hjl,← List.append_assoc,List.length_append,← hn]; rfl
          clear hr2 had t1 hxs hn HO2;go_wp2_with fail
          go_region_held3 (fun w'=>w'.cell? ⟨b,off + k * 2,none⟩=some (.string rs[k].name)∧w'.cell? ⟨b,off + k * 2 + 1,none⟩=some (.slice (some ⟨b2,off2,none⟩) rs[k].rows.length rs[k].cap)∧w'.cell? ⟨b2,off2 + j * 2,none⟩=some (.string rs[k].rows[j].name))
            (first
              | go_keep
              | (go_split_ands
                 refine ⟨?_,?_,?_⟩
                 · (rw [hgrow.cell_far _ (by simp; omega) (Ne.symm a1)]; assumption)
                 · (rw [hgrow.cell_far _ (by simp; omega) (Ne.symm a1)]; assumption)
                 · (rw [hgrow.cell_far _ (by simp; omega) (Ne.symm a2)]; assumption)))
            ((refine step_append_lies _ (by rfl) _ _ _ (by rfl) w.heap.size 114 i0 _ 3 40 underlying110 hi hz0 hz1 hz2 rfl (by omega) u4 n xs (by rfl) ((hown.alloc _).drew)
                ⟨wr.heap.size,0,none⟩ 1 1 [.string rs[k].name,.string rs[k].rows[j].name,.int .i64 0] (by rfl) (by rfl) (World.news_of_block (cs:=#[.string rs[k].name,.string rs[k].rows[j].name,.int .i64 0]) (t:=114) (fr:=(0,0)) (heap_alloc_new wr _)) (by simp [Value.oneCell'])
                (by omega) (by unfold maxLen; omega) (by omega) (by simp; omega) (wr.heap.size + 1) (by simp) ?_; intro gg cp w5 hown5 hgrow hat hlt5))
          have hb5:Hid (Below w.heap.size w w5):=((HB2.out.alloc HB2.out.size _).drew).grown hgrow (by simp; omega) (fun i hi=>(hown.lt i hi).1);have HO5:Hid (w5.ownsRow w.heap.size 114 3 (.slice (some ⟨gg,0,none⟩) (n + 1) cp) (bH rs k ++ gp rs[k] (j + 1)).length (fP (z8 (bH rs k ++ gp rs[k] (j + 1))))):=by
            show World.ownsRow _ _ _ _ _ _ _;rw [HFX.out,HNN.out]; exact hown5
          have h6:=HR6.out;clear hown5 hgrow hat hown;go_wp2;go_roundw;case rel=>exact ⟨j + 1,by omega,by go_num,HO5,hb5⟩
          case measure=>simp [intOf] <;> omega
        · obtain rfl:j=rs[k].rows.length:=by omega
          have HO5:Hid (wr.ownsRow w.heap.size 114 3 u4 (bH rs (k + 1)).length (fP (z8 (bH rs (k + 1))))):=by
            show World.ownsRow _ _ _ _ _ _ _;rw [kH _ _ hlt]; exact HO2.out
          clear HO2;go_wp2;go_roundw;case rel=>exact ⟨k + 1,by omega,by go_num,HO5,HB2⟩
          case measure=>simp [intOf] <;> omega
    · obtain rfl:k=rs.length:=by omega
      have HE0:Hid (bH rs rs.length=aj (ae rs)):=by show _=_; unfold bH; rw [List.take_length]
      have HN36:Hid ((aj (ae rs)).length≤36):=by
        have h1:=qR rs HRL.out rs.length;have h2:=HE0.out;show _≤_;rw [← h2]; omega
      obtain ⟨n,hn⟩:∃ n,n=(aj (ae rs)).length:=⟨_,rfl⟩;have hown:=HOW.out;rw [HE0.out,← zk] at hown;obtain ⟨adO,cpO,g,rfl,hrow⟩:=J3 HB.out hown;have HP0:Hid (Pass (ae rs) n true (z8 (aj (ae rs)))):=Pass.zero hn;have HR0:Hid (RowS w wr adO g (z8 (aj (ae rs)))):=hrow;have hn36:n≤36:=by rw [hn]; exact HN36.out
      have HNN:Hid (n=(aj (ae rs)).length):=hn;rw [zk,← hn];clear hown HOW hrow hn HE0 HN36 HB;go_wp2_with fail;go_loopw [7] (fun m w1=>∃ (mb:Bool) (out:List St),m=.bool mb∧Hid (Pass (ae rs) n mb out)∧Hid (RowS w w1 adO g out)) (fun m w1=>xQ w1 g n m);case atStart=>exact ⟨true,_,rfl,HP0,HR0⟩
      case round =>
        clear HP0 HR0;obtain ⟨mb,oS,rfl,HPS,HRS⟩:=hrel;cases mb with
        | false =>
          go_wp2;exact bodyPost_ret (v:=.tuple #[.slice adO n cpO,.bool true]) (by simp [results,Tryz.results60,go_sem]) rfl ⟨.inl ⟨adO,cpO,oS,by rw [HPS.out.len],HRS.out.slN,HPS.out.round.keys,HPS.out.least⟩,HRS.out.below⟩
        | true =>
          have HSL:Hid (oS.length=n):=HPS.out.len;have HM0:Hid (Mid (ae rs) n oS 0 0 false oS):=Mid.start HPS.out.len HPS.out.nn HPS.out.round HPS.out.le;obtain ⟨w0,hw0⟩:∃ w0,w0=wr:=⟨_,rfl⟩;subst hw0;go_wp2_with fail;go_loopw [7,8] (fun m i w1=>∃ (mb:Bool) (k:Nat) (out:List St),m=.bool mb∧k≤n∧i=.int .i64 k∧Hid (Mid (ae rs) n oS k 0 mb out)∧Hid (RowS w w1 adO g out)) (fun _ i _=>n - (intOf i).toNat);case atStart=>exact ⟨false,0,oS,rfl,Nat.zero_le _,rfl,HM0,HRS⟩
          case round =>
            clear HM0;obtain ⟨mb,k,out,rfl,hk,rfl,HM,HR⟩:=hrel;by_cases hlt:k < n
            · have hko:k < out.length:=by rw [HM.out.len]; exact hlt
              have hke:k < (aj (ae rs)).length:=by rw [← HNN.out]; exact hlt
              have hk1:=bf k;have hk2:(k:Int) < (n:Int):=by omega
              rcases HR.out.at' with e | ⟨rfl,hgw,hgl,hO,-⟩
              · rw [e] at hko; simp at hko
              obtain ⟨c0,c1,c2⟩:=hO k hko;have HKE:Hid (out[k].key=(aj (ae rs))[k]):=HM.out.key hko hke;have HBW:∀ w',Below wr.heap.size wr w'→fe w' ad rs:=fun w' h=>HS.out.below (HR.out.below.trans (h.mono HR.out.below.size));have c3:wr.drew.cell? ⟨g,k * 3,none⟩=some (.string out[k].typ)∧wr.drew.cell? ⟨g,k * 3 + 1,none⟩=some (.string out[k].rel)∧g < wr.drew.heap.size∧Below wr.heap.size wr wr.drew:=⟨c0,c1,hgl,(Below.refl _ _).drew⟩;clear hO c2;go_wp2_with fail
              go_region_held3 (fun w'=>w'.cell? ⟨g,k * 3,none⟩=some (.string out[k].typ)∧w'.cell? ⟨g,k * 3 + 1,none⟩=some (.string out[k].rel)∧g < w'.heap.size∧Below wr.heap.size wr w')
                (first | exact c3 | assumption | exact keepD (by assumption) hbx)
                (first | (go_at_call 57; refine (fH ad cap rs _ _ _ (by omega) (HBW _ (by first | assumption | exact c3.2.2.2)) HL.out).mono ?_; rintro e w' ⟨⟨rows,adE,capE,rfl,hex,hse,hfs⟩,rfl⟩) | (go_at_call 84; refine (Dj ad adE cap capE rs _ rows _ (by omega) (HBW _ (by first | assumption | exact c3.2.2.2)) HL.out (hfs.small HEL.out).1 hse (hfs.light HL.out).2 (hfs.small HEL.out).2 (ve rs HL.out _ rows (hfs.small HEL.out).1 (hfs.light HL.out).2)).mono ?_; rintro e w' ⟨⟨v,rfl,hown⟩,hbx⟩))
              rename_i hHeld;have HB5:Hid (Below wr.heap.size wr w'):=hHeld.2.2.2;have HR5:Hid (RowS w w' (some ⟨g,0,none⟩) g out):=HR.out.kept hHeld.2.2.2;have HDK:Hid (lI (ae rs) out[k].typ (ag rows)=fM (ae rs) (aj (ae rs))[k]):=by
                show _=_;rw [← HKE.out,hex]; rfl
              obtain ⟨ds,hds⟩:∃ ds,ds=fM (ae rs) (aj (ae rs))[k]:=⟨_,rfl⟩;rw [HDK.out,← hds] at hown;obtain ⟨adD,cpD,rfl,hD⟩:=LY hown;have HD5:Hid (JW w' wr.heap.size adD ds):=hD;have hdl:ds.length≤100000000:=by
                have:=ve rs HL.out out[k].typ rows (hfs.small HEL.out).1 (hfs.light HL.out).2 (ag rows).length;have e:=HDK.out;unfold lI at e;rw [e,← hds] at this;exact this
              have HDS:Hid (ds=fM (ae rs) (aj (ae rs))[k]):=hds;have HKM:Hid ((aj (ae rs))[k] ∈ aj (ae rs)):=List.getElem_mem hke;clear hHeld hown hD hds HDK c0 c1 c3 hex hse hfs hbx HBW HKE;obtain ⟨wq,hwq⟩:∃ wq,wq=wr:=⟨_,rfl⟩;subst hwq;go_wp2_with fail;go_loopw [7,10] (fun m i w2=>∃ (mb:Bool) (j:Nat) (o2:List St),m=.bool mb∧j≤ds.length∧i=.int .i64 j∧Hid (Mid (ae rs) n oS k j mb o2)∧Hid (RowS w w2 (some ⟨g,0,none⟩) g o2)∧Hid (JW w2 wq.heap.size adD ds)) (fun _ i _=>ds.length - (intOf i).toNat);case atStart=>exact ⟨mb,0,out,rfl,Nat.zero_le _,rfl,HM,HR5,HD5⟩
              case round =>
                clear HM HR HR5 HD5 HB5;obtain ⟨mc,j,o2,rfl,hj,rfl,HM2,HR2,HD2⟩:=hrel;have hko2:k < o2.length:=by rw [HM2.out.len]; exact hlt
                rcases HR2.out.at' with e | ⟨-,hgw2,hgl2,hO2,hfz2⟩
                · rw [e] at hko2; simp at hko2
                have f2:=hfz2 (k * 3 + 2);obtain ⟨z0,z1,z2⟩:=hO2 k hko2;by_cases hjl:j < ds.length
                · rcases HD2.out with e | ⟨bd,rfl,hbd,hbl,hDc⟩
                  · rw [e] at hjl; simp at hjl
                  obtain ⟨x0,x1,x2⟩:=hDc j hjl;have HKE2:Hid (o2[k].key=(aj (ae rs))[k]):=HM2.out.key hko2 hke;have HDJ:Hid ((fM (ae rs) o2[k].key)[j]?=some ds[j]):=by
                    show _=_;rw [HKE2.out,← HDS.out]; exact List.getElem?_eq_getElem hjl
                  have HDF:Hid ((ds[j].typ,ds[j].rel) ∈ aj (ae rs)):=HF.out _ HKM.out ds[j] (by rw [← HDS.out]; exact List.getElem_mem hjl);obtain ⟨i,hi2,hat,hin,hpos,hub⟩:=HM2.out.at _ HDF.out;obtain ⟨y0,y1,y2⟩:=hO2 i hi2;have hi3:i < n:=by rw [← HM2.out.len]; exact hi2
                  have HW:Hid (kK o2 ds[j]=dS o2 (ds[j].typ,ds[j].rel) + stepOf ds[j]):=rfl;have HL2:Hid (o2.length=n):=HM2.out.len;have HSN:Hid (CL wr (some ⟨g,0,none⟩) o2):=HR2.out.slN;rw [hin] at y2;obtain ⟨x,hx⟩:∃ x,x=dS o2 (ds[j].typ,ds[j].rel):=⟨_,rfl⟩;have HX:Hid (kK o2 ds[j]=x + stepOf ds[j]):=by rw [hx]; exact HW
                  rw [← hx] at hpos hub y2;obtain ⟨kn,hkn⟩:∃ kn,kn=o2[k].n:=⟨_,rfl⟩;rw [← hkn] at z2;have HKN:Hid (kn=o2[k].n):=hkn;have hkn1:0≤kn:=by rw [hkn]; exact HM2.out.round.pos _ (List.getElem_mem hko2)
                  have hkn2:kn≤n + 1 + j:=by rw [hkn]; exact HM2.out.lek hko2
                  have hj1:=bf j;have hj2:(j:Int) < (ds.length:Int):=by omega
                  have hi4:=bf i;have hi5:(i:Int) < (n:Int):=by omega
                  have HAT:Hid (eT ds[j].typ ds[j].rel o2 0=(i:Int)):=hat;have hx5:(2:Int) < 5:=by omega
                  clear hfz2 hO2 hDc hx hkn hin y0 y1 hi2 HW hat z0 z1;go_wp2_with fail
                  go_region_held3 (fun w'=>w'.cell? ⟨bd,j * 3,none⟩=some (.string ds[j].typ)∧w'.cell? ⟨bd,j * 3 + 1,none⟩=some (.string ds[j].rel)∧w'.cell? ⟨g,i * 3 + 2,none⟩=some (.int .i64 x))
                    (first | assumption | exact ⟨x0,x1,y2⟩)
                    (first | (go_at_call 85; refine (K9 (some ⟨g,0,none⟩) cpO n o2 (ds[j].typ,ds[j].rel) _ HL2.out (by omega) (by first | exact HSN.out | assumption) i HAT.out).mono ?_; rintro e w' ⟨rfl,rfl⟩))
                  rename_i hHeld2;have HR3:Hid (RowS w wr.drew (some ⟨g,0,none⟩) g o2):=HR2.out.kept ((Below.refl _ _).drew);have HD3:Hid (JW wr.drew wq.heap.size (some ⟨bd,0,none⟩) ds):=HD2.out;clear hHeld2 x0 x1 y2;cases hneg:ds[j].neg with
                  | true =>
                    have HX2:Hid (kK o2 ds[j]=x + 1):=by show _=_; rw [HX.out]; simp [stepOf,hneg]
                    rw [hneg] at x2;by_cases hgt:kn < x + 1
                    · have HM3:Hid (Mid (ae rs) n oS k (j + 1) true (o2.set k ⟨o2[k].typ,o2[k].rel,x + 1⟩)):=by
                        have:=HM2.out.yes HF.out hko2 ds[j] HDJ.out (by rw [HX2.out,← HKN.out]; exact hgt);rw [HX2.out] at this; exact this
                      have HR4:Hid (RowS w (wr.drew.setCell ⟨g,k * 3 + 2,none⟩ (.int .i64 (x + 1))) (some ⟨g,0,none⟩) g (o2.set k ⟨o2[k].typ,o2[k].rel,x + 1⟩)):=HR3.out.set hko2 (x + 1);have HD4:Hid (JW (wr.drew.setCell ⟨g,k * 3 + 2,none⟩ (.int .i64 (x + 1))) wq.heap.size (some ⟨bd,0,none⟩) ds):=HD3.out.set hgl;clear HM2 HR2 HR3 HD2 HD3;go_wp2;go_roundw;case rel=>exact ⟨true,j + 1,_,rfl,by omega,by go_num,HM3,HR4,HD4⟩
                      case measure=>simp [intOf] <;> omega
                    · have HM3:Hid (Mid (ae rs) n oS k (j + 1) mc o2):=HM2.out.no hko2 ds[j] HDJ.out (by rw [HX2.out,← HKN.out]; omega);clear HM2 HR2 HD2;go_wp2;go_roundw;case rel=>exact ⟨mc,j + 1,o2,rfl,by omega,by go_num,HM3,HR3,HD3⟩
                      case measure=>simp [intOf] <;> omega
                  | false =>
                    have HX2:Hid (kK o2 ds[j]=x):=by show _=_; rw [HX.out]; simp [stepOf,hneg]
                    rw [hneg] at x2;by_cases hgt:kn < x
                    · have HM3:Hid (Mid (ae rs) n oS k (j + 1) true (o2.set k ⟨o2[k].typ,o2[k].rel,x⟩)):=by
                        have:=HM2.out.yes HF.out hko2 ds[j] HDJ.out (by rw [HX2.out,← HKN.out]; exact hgt);rw [HX2.out] at this; exact this
                      have HR4:Hid (RowS w (wr.drew.setCell ⟨g,k * 3 + 2,none⟩ (.int .i64 (x))) (some ⟨g,0,none⟩) g (o2.set k ⟨o2[k].typ,o2[k].rel,x⟩)):=HR3.out.set hko2 (x);have HD4:Hid (JW (wr.drew.setCell ⟨g,k * 3 + 2,none⟩ (.int .i64 (x))) wq.heap.size (some ⟨bd,0,none⟩) ds):=HD3.out.set hgl;clear HM2 HR2 HR3 HD2 HD3;go_wp2;go_roundw;case rel=>exact ⟨true,j + 1,_,rfl,by omega,by go_num,HM3,HR4,HD4⟩
                      case measure=>simp [intOf] <;> omega
                    · have HM3:Hid (Mid (ae rs) n oS k (j + 1) mc o2):=HM2.out.no hko2 ds[j] HDJ.out (by rw [HX2.out,← HKN.out]; omega);clear HM2 HR2 HD2;go_wp2;go_roundw;case rel=>exact ⟨mc,j + 1,o2,rfl,by omega,by go_num,HM3,HR3,HD3⟩
                      case measure=>simp [intOf] <;> omega
                · obtain rfl:j=ds.length:=by omega
                  have HKE2:Hid (o2[k].key=(aj (ae rs))[k]):=HM2.out.key hko2 hke;have HJ:Hid (ds.length=(fM (ae rs) o2[k].key).length):=by show _=_; rw [HKE2.out,← HDS.out]
                  clear z0 z1 hO2 hfz2 f2;by_cases hov:(n:Int) < o2[k].n
                  · have HNO:Hid (¬ ∃ f,Sol (ae rs) f):=HM2.out.over HF.out hko2 hov;have hkn2:o2[k].n≤n + 1 + ds.length:=HM2.out.lek hko2;go_wp2;exact bodyPost_ret (v:=.tuple #[.slice none 0 0,.bool false]) (by simp [results,Tryz.results60,go_sem]) rfl ⟨.inr ⟨rfl,HNO.out⟩,HR2.out.below⟩
                  · have HM3:Hid (Mid (ae rs) n oS (k + 1) 0 mc o2):=HM2.out.next hko2 HJ.out (by omega);clear HM2;go_wp2;go_roundw;case rel=>exact ⟨mc,k + 1,o2,rfl,by omega,by go_num,HM3,HR2⟩
                    case measure=>simp [intOf] <;> omega
            · obtain rfl:k=n:=by omega
              have HP2:Hid (Pass (ae rs) k mb out):=HM.out.done rfl;have HLS:Hid (xQ wr g k (.bool mb) < xQ w0 g k (.bool true)):=Dq HRS.out HR.out HM.out HSL.out;go_wp2;go_roundw;case rel=>exact ⟨mb,out,rfl,HP2,HR⟩
              case measure=>exact HLS.out
end Go.Proofs.YtdaoiceeidoehaaGreat
