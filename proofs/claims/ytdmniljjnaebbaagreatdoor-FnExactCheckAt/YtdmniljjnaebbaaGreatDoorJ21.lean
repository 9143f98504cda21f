/- Contract of the document's function on strata: the walk. -/
import Derived.Test.YtdmniljjnaebbaaGreatDoorJ16
open Go.Proofs.Tryz
set_option maxHeartbeats 80000000
namespace Go.Proofs.YtdmniljjnaebbaaGreatDoor
open Go.ChangeShapes Go.WideShapes Go.ChangeAt Go.RowKit
open Pl
set_option maxRecDepth 100000 in
theorem qW (ad:Option Addr) (cap:Nat) (rs:List TR) (w:World) (hlen:rs.length≤6) (hs:fo w ad rs) (hl:∀ r ∈ rs,r.light) (hrl:∀ r ∈ rs,r.rows.length≤6) (hel:∀ r ∈ rs,∀ q ∈ r.rows,q.rows.length≤15∧∀ e ∈ q.rows,bY q.rows.length e.e.kids) (hF:Found (af rs)) :
    Calls prog 83 #[.slice ad rs.length cap] w fun e w'=>((∃ ad' cap' out,e=.returned (.tuple #[.slice ad' out.length cap',.bool true])∧Eu w' ad' out∧fT out=ai (af rs)∧Least (af rs) (dW out)) ∨ (e=.returned (.tuple #[.slice none 0 0,.bool false])∧¬ ∃ f,Sol (af rs) f))∧Below w.heap.size w w':=by
  have HS:Hid (fo w ad rs):=hs;have HL:Hid (∀ r ∈ rs,r.light):=hl;have HRL:Hid (∀ r ∈ rs,r.rows.length≤6):=hrl;have HEL:Hid (∀ r ∈ rs,∀ q ∈ r.rows,q.rows.length≤15∧∀ e ∈ q.rows,bY q.rows.length e.e.kids):=hel;have HF:Hid (Found (af rs)):=hF;clear hs hl hrl hel hF;obtain ⟨i0,hi,hz0,hz1,hz2⟩:=info_parts Lu;go_enter func83,ntmps83;have hbA:Hid (Below w.heap.size w (w.alloc (.cells #[] 145))):=(Below.refl _ _).alloc (Nat.le_refl _) _;have hown1:Hid ((w.alloc (.cells #[] 145)).ownsRow w.heap.size 145 3 (.slice (some ⟨w.heap.size,0,none⟩) 0 0) 0 []):=World.ownsRow_made w #[] 0 (Nat.le_refl _) (by decide) rfl;go_wp2_with fail;go_loopw [4,5] (fun v i wr=>∃ k:Nat,k≤rs.length∧i=.int .i64 k∧Hid (wr.ownsRow w.heap.size 145 3 v (bP rs k).length (fU (BH (bP rs k))))∧Hid (Below w.heap.size w wr)) (fun _ i _=>rs.length - (intOf i).toNat);case atStart=>exact ⟨0,Nat.zero_le _,rfl,hown1,hbA⟩
  case round =>
    clear hown1 hbA;obtain ⟨k,hk,rfl,HOW,HB⟩:=hrel;by_cases hlt:k < rs.length
    · have hk1:=bq k;have hk2:(k:Int) < (rs.length:Int):=by omega
      have HU:Hid ((bP rs k).length≤k * 6):=sD rs HRL.out k;have HR6:Hid (rs[k].rows.length≤6):=HRL.out _ (List.getElem_mem hlt);obtain ⟨wo,hwo⟩:∃ wo,wo=wr:=⟨_,rfl⟩;subst hwo;go_wp2_with fail;go_loopw [4,6] (fun v i w2=>∃ j:Nat,j≤rs[k].rows.length∧i=.int .i64 j∧Hid (w2.ownsRow w.heap.size 145 3 v (bP rs k ++ gF rs[k] j).length (fU (BH (bP rs k ++ gF rs[k] j))))∧Hid (Below w.heap.size w w2)) (fun _ i _=>rs[k].rows.length - (intOf i).toNat);case atStart=>exact ⟨0,Nat.zero_le _,rfl,(by simpa [gF] using HOW),HB⟩
      case round =>
        obtain ⟨j,hj,rfl,HO2,HB2⟩:=hrel;rcases HS.out.below HB2.out with rfl | ⟨b,off,rfl,hb,hr,hok⟩
        · simp at hlt
        have hbw:b < w.heap.size:=by
          rcases HS.out with h | ⟨b',off',e,hb',-⟩
          · rw [h] at hlt; simp at hlt
          · injection e with e; injection e with e1 e2; omega
        obtain ⟨t0,t1⟩:=hr k hlt;have HOK:Hid (rs[k].ok _):=hok rs[k] (List.getElem_mem hlt);have HOKW:Hid (rs[k].ok w):=HS.out.mem (List.getElem_mem hlt);clear hr hok;by_cases hjl:j < rs[k].rows.length
        · rcases HOK.out with hnil | ⟨b2,off2,had,hb2,hr2,-⟩
          · rw [hnil] at hjl; simp at hjl
          have hbw2:b2 < w.heap.size:=by
            rcases HOKW.out with h | ⟨b',off',e,hb',-⟩
            · rw [h] at hjl; simp at hjl
            · rw [had] at e; injection e with e; injection e with e1 e2; omega
          have t1':=t1;rw [had] at t1';obtain ⟨q0,q1⟩:=hr2 j hjl;have hj1:=bq j;have hj2:(j:Int) < (rs[k].rows.length:Int):=by omega
          have a1:u4.ownBlock ≠ some b:=fun e=>by have:=(HO2.out.lt _ e).1; omega
          have a2:u4.ownBlock ≠ some b2:=fun e=>by have:=(HO2.out.lt _ e).1; omega
          have l4:w.heap.size≤wr.heap.size:=HB2.out.size;obtain ⟨xs,hxs⟩:∃ xs,xs=fU (BH (bP rs k ++ gF rs[k] j)):=⟨_,rfl⟩;obtain ⟨n,hn⟩:∃ n,n=(bP rs k ++ gF rs[k] j).length:=⟨_,rfl⟩;have hown:=HO2.out;rw [← hxs,← hn] at hown;have hnl:n≤1000:=by
            have h1:=HU.out;have h2:=zo rs[k] j;have h3:=HR6.out;rw [hn,List.length_append]; omega
          have HFX:Hid (fU (BH (bP rs k ++ gF rs[k] (j + 1)))=xs ++ [.string rs[k].name,.string rs[k].rows[j].name,.int .i64 0]):=by
            show _=_;rw [pW _ _ hjl,← List.append_assoc,JP,wS,← hxs]; rfl
          have HNN:Hid ((bP rs k ++ gF rs[k] (j + 1)).length=n + 1):=by show _=_; rw [pW _ _ hjl,← List.append_assoc,List.length_append,← hn]; rfl
          clear hr2 had t1 hxs hn HO2;go_wp2_with fail
          go_region_held3 (fun w'=>w'.cell? ⟨b,off + k * 2,none⟩=some (.string rs[k].name)∧w'.cell? ⟨b,off + k * 2 + 1,none⟩=some (.slice (some ⟨b2,off2,none⟩) rs[k].rows.length rs[k].cap)∧w'.cell? ⟨b2,off2 + j * 2,none⟩=some (.string rs[k].rows[j].name))
            (first
              | go_keep
              | (go_split_ands
                 refine ⟨?_,?_,?_⟩
                 · (rw [hgrow.cell_far _ (by simp; omega) (Ne.symm a1)]; assumption)
                 · (rw [hgrow.cell_far _ (by simp; omega) (Ne.symm a1)]; assumption)
                 · (rw [hgrow.cell_far _ (by simp; omega) (Ne.symm a2)]; assumption)))
            ((refine step_append_lies _ (by rfl) _ _ _ (by rfl) w.heap.size 145 i0 _ 3 40 underlying141 hi hz0 hz1 hz2 rfl (by omega) u4 n xs (by rfl) ((hown.alloc _).drew)
                ⟨wr.heap.size,0,none⟩ 1 1 [.string rs[k].name,.string rs[k].rows[j].name,.int .i64 0] (by rfl) (by rfl) (World.news_of_block (cs:=#[.string rs[k].name,.string rs[k].rows[j].name,.int .i64 0]) (t:=145) (fr:=(0,0)) (heap_alloc_new wr _)) (by simp [Value.oneCell'])
                (by omega) (by unfold maxLen; omega) (by omega) (by simp; omega) (wr.heap.size + 1) (by simp) ?_; intro gg cp w5 hown5 hgrow hat hlt5))
          have hb5:Hid (Below w.heap.size w w5):=((HB2.out.alloc HB2.out.size _).drew).grown hgrow (by simp; omega) (fun i hi=>(hown.lt i hi).1);have HO5:Hid (w5.ownsRow w.heap.size 145 3 (.slice (some ⟨gg,0,none⟩) (n + 1) cp) (bP rs k ++ gF rs[k] (j + 1)).length (fU (BH (bP rs k ++ gF rs[k] (j + 1))))):=by
            show World.ownsRow _ _ _ _ _ _ _;rw [HFX.out,HNN.out]; exact hown5
          have h6:=HR6.out;clear hown5 hgrow hat hown;go_wp2;go_roundw;case rel=>exact ⟨j + 1,by omega,by go_num,HO5,hb5⟩
          case measure=>simp [intOf] <;> omega
        · obtain rfl:j=rs[k].rows.length:=by omega
          have HO5:Hid (wr.ownsRow w.heap.size 145 3 u4 (bP rs (k + 1)).length (fU (BH (bP rs (k + 1))))):=by
            show World.ownsRow _ _ _ _ _ _ _;rw [lJ _ _ hlt]; exact HO2.out
          clear HO2;go_wp2;go_roundw;case rel=>exact ⟨k + 1,by omega,by go_num,HO5,HB2⟩
          case measure=>simp [intOf] <;> omega
    · obtain rfl:k=rs.length:=by omega
      have HE0:Hid (bP rs rs.length=ai (af rs)):=by show _=_; unfold bP; rw [List.take_length]
      have HN36:Hid ((ai (af rs)).length≤36):=by
        have h1:=sD rs HRL.out rs.length;have h2:=HE0.out;show _≤_;rw [← h2]; omega
      obtain ⟨n,hn⟩:∃ n,n=(ai (af rs)).length:=⟨_,rfl⟩;have hown:=HOW.out;rw [HE0.out,← AV] at hown;obtain ⟨adO,cpO,g,rfl,hrow⟩:=Lx HB.out hown;have HP0:Hid (Pass (af rs) n true (BH (ai (af rs)))):=Pass.zero hn;have HR0:Hid (RowS w wr adO g (BH (ai (af rs)))):=hrow;have hn36:n≤36:=by rw [hn]; exact HN36.out
      have HNN:Hid (n=(ai (af rs)).length):=hn;rw [AV,← hn];clear hown HOW hrow hn HE0 HN36 HB;go_wp2_with fail;go_loopw [7] (fun m w1=>∃ (mb:Bool) (out:List St),m=.bool mb∧Hid (Pass (af rs) n mb out)∧Hid (RowS w w1 adO g out)) (fun m w1=>zu w1 g n m);case atStart=>exact ⟨true,_,rfl,HP0,HR0⟩
      case round =>
        clear HP0 HR0;obtain ⟨mb,oS,rfl,HPS,HRS⟩:=hrel;cases mb with
        | false =>
          go_wp2;exact bodyPost_ret (v:=.tuple #[.slice adO n cpO,.bool true]) (by simp [results,Tryz.results83,go_sem]) rfl ⟨.inl ⟨adO,cpO,oS,by rw [HPS.out.len],HRS.out.slN,HPS.out.round.keys,HPS.out.least⟩,HRS.out.below⟩
        | true =>
          have HSL:Hid (oS.length=n):=HPS.out.len;have HM0:Hid (Mid (af rs) n oS 0 0 false oS):=Mid.start HPS.out.len HPS.out.nn HPS.out.round HPS.out.le;obtain ⟨w0,hw0⟩:∃ w0,w0=wr:=⟨_,rfl⟩;subst hw0;go_wp2_with fail;go_loopw [7,8] (fun m i w1=>∃ (mb:Bool) (k:Nat) (out:List St),m=.bool mb∧k≤n∧i=.int .i64 k∧Hid (Mid (af rs) n oS k 0 mb out)∧Hid (RowS w w1 adO g out)) (fun _ i _=>n - (intOf i).toNat);case atStart=>exact ⟨false,0,oS,rfl,Nat.zero_le _,rfl,HM0,HRS⟩
          case round =>
            clear HM0;obtain ⟨mb,k,out,rfl,hk,rfl,HM,HR⟩:=hrel;by_cases hlt:k < n
            · have hko:k < out.length:=by rw [HM.out.len]; exact hlt
              have hke:k < (ai (af rs)).length:=by rw [← HNN.out]; exact hlt
              have hk1:=bq k;have hk2:(k:Int) < (n:Int):=by omega
              rcases HR.out.at' with e | ⟨rfl,hgw,hgl,hO,-⟩
              · rw [e] at hko; simp at hko
              obtain ⟨c0,c1,c2⟩:=hO k hko;have HKE:Hid (out[k].key=(ai (af rs))[k]):=HM.out.key hko hke;have HBW:∀ w',Below wr.heap.size wr w'→fo w' ad rs:=fun w' h=>HS.out.below (HR.out.below.trans (h.mono HR.out.below.size));have c3:wr.drew.cell? ⟨g,k * 3,none⟩=some (.string out[k].typ)∧wr.drew.cell? ⟨g,k * 3 + 1,none⟩=some (.string out[k].rel)∧g < wr.drew.heap.size∧Below wr.heap.size wr wr.drew:=⟨c0,c1,hgl,(Below.refl _ _).drew⟩;clear hO c2;go_wp2_with fail
              go_region_held3 (fun w'=>w'.cell? ⟨g,k * 3,none⟩=some (.string out[k].typ)∧w'.cell? ⟨g,k * 3 + 1,none⟩=some (.string out[k].rel)∧g < w'.heap.size∧Below wr.heap.size wr w')
                (first | exact c3 | assumption | exact keepD (by assumption) hbx)
                (first | (go_at_call 84; refine (gP ad cap rs _ _ _ (by omega) (HBW _ (by first | assumption | exact c3.2.2.2)) HL.out).mono ?_; rintro e w' ⟨⟨rows,adE,capE,rfl,hex,hse,hfs⟩,rfl⟩) | (go_at_call 117; refine (Ew ad adE cap capE rs _ rows _ (by omega) (HBW _ (by first | assumption | exact c3.2.2.2)) HL.out (hfs.small HEL.out).1 hse (hfs.light HL.out).2 (hfs.small HEL.out).2 (wW rs HL.out _ rows (hfs.small HEL.out).1 (hfs.light HL.out).2)).mono ?_; rintro e w' ⟨⟨v,rfl,hown⟩,hbx⟩))
              rename_i hHeld;have HB5:Hid (Below wr.heap.size wr w'):=hHeld.2.2.2;have HR5:Hid (RowS w w' (some ⟨g,0,none⟩) g out):=HR.out.kept hHeld.2.2.2;have HDK:Hid (mP (af rs) out[k].typ (ag rows)=fQ (af rs) (ai (af rs))[k]):=by
                show _=_;rw [← HKE.out,hex]; rfl
              obtain ⟨ds,hds⟩:∃ ds,ds=fQ (af rs) (ai (af rs))[k]:=⟨_,rfl⟩;rw [HDK.out,← hds] at hown;obtain ⟨adD,cpD,rfl,hD⟩:=NH hown;have HD5:Hid (Lt w' wr.heap.size adD ds):=hD;have hdl:ds.length≤100000000:=by
                have:=wW rs HL.out out[k].typ rows (hfs.small HEL.out).1 (hfs.light HL.out).2 (ag rows).length;have e:=HDK.out;unfold mP at e;rw [e,← hds] at this;exact this
              have HDS:Hid (ds=fQ (af rs) (ai (af rs))[k]):=hds;have HKM:Hid ((ai (af rs))[k] ∈ ai (af rs)):=List.getElem_mem hke;clear hHeld hown hD hds HDK c0 c1 c3 hex hse hfs hbx HBW HKE;obtain ⟨wq,hwq⟩:∃ wq,wq=wr:=⟨_,rfl⟩;subst hwq;go_wp2_with fail;go_loopw [7,10] (fun m i w2=>∃ (mb:Bool) (j:Nat) (o2:List St),m=.bool mb∧j≤ds.length∧i=.int .i64 j∧Hid (Mid (af rs) n oS k j mb o2)∧Hid (RowS w w2 (some ⟨g,0,none⟩) g o2)∧Hid (Lt w2 wq.heap.size adD ds)) (fun _ i _=>ds.length - (intOf i).toNat);case atStart=>exact ⟨mb,0,out,rfl,Nat.zero_le _,rfl,HM,HR5,HD5⟩
              case round =>
                clear HM HR HR5 HD5 HB5;obtain ⟨mc,j,o2,rfl,hj,rfl,HM2,HR2,HD2⟩:=hrel;have hko2:k < o2.length:=by rw [HM2.out.len]; exact hlt
                rcases HR2.out.at' with e | ⟨-,hgw2,hgl2,hO2,hfz2⟩
                · rw [e] at hko2; simp at hko2
                have f2:=hfz2 (k * 3 + 2);obtain ⟨z0,z1,z2⟩:=hO2 k hko2;by_cases hjl:j < ds.length
                · rcases HD2.out with e | ⟨bd,rfl,hbd,hbl,hDc⟩
                  · rw [e] at hjl; simp at hjl
                  obtain ⟨x0,x1,x2⟩:=hDc j hjl;have HKE2:Hid (o2[k].key=(ai (af rs))[k]):=HM2.out.key hko2 hke;have HDJ:Hid ((fQ (af rs) o2[k].key)[j]?=some ds[j]):=by
                    show _=_;rw [HKE2.out,← HDS.out]; exact List.getElem?_eq_getElem hjl
                  have HDF:Hid ((ds[j].typ,ds[j].rel) ∈ ai (af rs)):=HF.out _ HKM.out ds[j] (by rw [← HDS.out]; exact List.getElem_mem hjl);obtain ⟨i,hi2,hat,hin,hpos,hub⟩:=HM2.out.at _ HDF.out;obtain ⟨y0,y1,y2⟩:=hO2 i hi2;have hi3:i < n:=by rw [← HM2.out.len]; exact hi2
                  have HW:Hid (lN o2 ds[j]=dW o2 (ds[j].typ,ds[j].rel) + stepOf ds[j]):=rfl;have HL2:Hid (o2.length=n):=HM2.out.len;have HSN:Hid (Eu wr (some ⟨g,0,none⟩) o2):=HR2.out.slN;rw [hin] at y2;obtain ⟨x,hx⟩:∃ x,x=dW o2 (ds[j].typ,ds[j].rel):=⟨_,rfl⟩;have HX:Hid (lN o2 ds[j]=x + stepOf ds[j]):=by rw [hx]; exact HW
                  rw [← hx] at hpos hub y2;obtain ⟨kn,hkn⟩:∃ kn,kn=o2[k].n:=⟨_,rfl⟩;rw [← hkn] at z2;have HKN:Hid (kn=o2[k].n):=hkn;have hkn1:0≤kn:=by rw [hkn]; exact HM2.out.round.pos _ (List.getElem_mem hko2)
                  have hkn2:kn≤n + 1 + j:=by rw [hkn]; exact HM2.out.lek hko2
                  have hj1:=bq j;have hj2:(j:Int) < (ds.length:Int):=by omega
                  have hi4:=bq i;have hi5:(i:Int) < (n:Int):=by omega
                  have HAT:Hid (fu ds[j].typ ds[j].rel o2 0=(i:Int)):=hat;have hx5:(2:Int) < 5:=by omega
                  clear hfz2 hO2 hDc hx hkn hin y0 y1 hi2 HW hat z0 z1;go_wp2_with fail
                  go_region_held3 (fun w'=>w'.cell? ⟨bd,j * 3,none⟩=some (.string ds[j].typ)∧w'.cell? ⟨bd,j * 3 + 1,none⟩=some (.string ds[j].rel)∧w'.cell? ⟨g,i * 3 + 2,none⟩=some (.int .i64 x))
                    (first | assumption | exact ⟨x0,x1,y2⟩)
                    (first | (go_at_call 118; refine (MV (some ⟨g,0,none⟩) cpO n o2 (ds[j].typ,ds[j].rel) _ HL2.out (by omega) (by first | exact HSN.out | assumption) i HAT.out).mono ?_; rintro e w' ⟨rfl,rfl⟩))
                  rename_i hHeld2;have HR3:Hid (RowS w wr.drew (some ⟨g,0,none⟩) g o2):=HR2.out.kept ((Below.refl _ _).drew);have HD3:Hid (Lt wr.drew wq.heap.size (some ⟨bd,0,none⟩) ds):=HD2.out;clear hHeld2 x0 x1 y2;cases hneg:ds[j].neg with
                  | true =>
                    have HX2:Hid (lN o2 ds[j]=x + 1):=by show _=_; rw [HX.out]; simp [stepOf,hneg]
                    rw [hneg] at x2;by_cases hgt:kn < x + 1
                    · have HM3:Hid (Mid (af rs) n oS k (j + 1) true (o2.set k ⟨o2[k].typ,o2[k].rel,x + 1⟩)):=by
                        have:=HM2.out.yes HF.out hko2 ds[j] HDJ.out (by rw [HX2.out,← HKN.out]; exact hgt);rw [HX2.out] at this; exact this
                      have HR4:Hid (RowS w (wr.drew.setCell ⟨g,k * 3 + 2,none⟩ (.int .i64 (x + 1))) (some ⟨g,0,none⟩) g (o2.set k ⟨o2[k].typ,o2[k].rel,x + 1⟩)):=HR3.out.set hko2 (x + 1);have HD4:Hid (Lt (wr.drew.setCell ⟨g,k * 3 + 2,none⟩ (.int .i64 (x + 1))) wq.heap.size (some ⟨bd,0,none⟩) ds):=HD3.out.set hgl;clear HM2 HR2 HR3 HD2 HD3;go_wp2;go_roundw;case rel=>exact ⟨true,j + 1,_,rfl,by omega,by go_num,HM3,HR4,HD4⟩
                      case measure=>simp [intOf] <;> omega
                    · have HM3:Hid (Mid (af rs) n oS k (j + 1) mc o2):=HM2.out.no hko2 ds[j] HDJ.out (by rw [HX2.out,← HKN.out]; omega);clear HM2 HR2 HD2;go_wp2;go_roundw;case rel=>exact ⟨mc,j + 1,o2,rfl,by omega,by go_num,HM3,HR3,HD3⟩
                      case measure=>simp [intOf] <;> omega
                  | false =>
                    have HX2:Hid (lN o2 ds[j]=x):=by show _=_; rw [HX.out]; simp [stepOf,hneg]
                    rw [hneg] at x2;by_cases hgt:kn < x
                    · have HM3:Hid (Mid (af rs) n oS k (j + 1) true (o2.set k ⟨o2[k].typ,o2[k].rel,x⟩)):=by
                        have:=HM2.out.yes HF.out hko2 ds[j] HDJ.out (by rw [HX2.out,← HKN.out]; exact hgt);rw [HX2.out] at this; exact this
                      have HR4:Hid (RowS w (wr.drew.setCell ⟨g,k * 3 + 2,none⟩ (.int .i64 (x))) (some ⟨g,0,none⟩) g (o2.set k ⟨o2[k].typ,o2[k].rel,x⟩)):=HR3.out.set hko2 (x);have HD4:Hid (Lt (wr.drew.setCell ⟨g,k * 3 + 2,none⟩ (.int .i64 (x))) wq.heap.size (some ⟨bd,0,none⟩) ds):=HD3.out.set hgl;clear HM2 HR2 HR3 HD2 HD3;go_wp2;go_roundw;case rel=>exact ⟨true,j + 1,_,rfl,by omega,by go_num,HM3,HR4,HD4⟩
                      case measure=>simp [intOf] <;> omega
                    · have HM3:Hid (Mid (af rs) n oS k (j + 1) mc o2):=HM2.out.no hko2 ds[j] HDJ.out (by rw [HX2.out,← HKN.out]; omega);clear HM2 HR2 HD2;go_wp2;go_roundw;case rel=>exact ⟨mc,j + 1,o2,rfl,by omega,by go_num,HM3,HR3,HD3⟩
                      case measure=>simp [intOf] <;> omega
                · obtain rfl:j=ds.length:=by omega
                  have HKE2:Hid (o2[k].key=(ai (af rs))[k]):=HM2.out.key hko2 hke;have HJ:Hid (ds.length=(fQ (af rs) o2[k].key).length):=by show _=_; rw [HKE2.out,← HDS.out]
                  clear z0 z1 hO2 hfz2 f2;by_cases hov:(n:Int) < o2[k].n
                  · have HNO:Hid (¬ ∃ f,Sol (af rs) f):=HM2.out.over HF.out hko2 hov;have hkn2:o2[k].n≤n + 1 + ds.length:=HM2.out.lek hko2;go_wp2;exact bodyPost_ret (v:=.tuple #[.slice none 0 0,.bool false]) (by simp [results,Tryz.results83,go_sem]) rfl ⟨.inr ⟨rfl,HNO.out⟩,HR2.out.below⟩
                  · have HM3:Hid (Mid (af rs) n oS (k + 1) 0 mc o2):=HM2.out.next hko2 HJ.out (by omega);clear HM2;go_wp2;go_roundw;case rel=>exact ⟨mc,k + 1,o2,rfl,by omega,by go_num,HM3,HR2⟩
                    case measure=>simp [intOf] <;> omega
            · obtain rfl:k=n:=by omega
              have HP2:Hid (Pass (af rs) k mb out):=HM.out.done rfl;have HLS:Hid (zu wr g k (.bool mb) < zu w0 g k (.bool true)):=EF HRS.out HR.out HM.out HSL.out;go_wp2;go_roundw;case rel=>exact ⟨mb,out,rfl,HP2,HR⟩
              case measure=>exact HLS.out
theorem lT (rs:List ER) (n:Nat) (h:n < rs.length):mD (ag rs) n=rs[n].e.kids:=by simp [mD,ag,h]
theorem EP (b off cap:Nat) (rs:List ER) (hlen:rs.length≤1048576) (hl:∀ r ∈ rs,r.e.light) (n:Nat):∀ (w:World),n < rs.length→b < w.heap.size→(∀ (i:Nat) (h:i < rs.length),yg w b (off + i * 5) rs[i])→(∀ r ∈ rs,r.ok w) →
  Calls prog 151 #[.slice (some ⟨b,off,none⟩) rs.length cap,.int .i64 (n:Int)] w fun e w'=>e=.returned (.int .i64 (aF (ag rs) n))∧Below w.heap.size w w':=by
 induction n using Nat.strongRecOn with
 | ind n ih =>
  intro w hn hb hr hok
  have IH:Hid (∀ m,m < n→∀ (w:World),m < rs.length→b < w.heap.size→(∀ (i:Nat) (h:i < rs.length),yg w b (off + i * 5) rs[i])→(∀ r ∈ rs,r.ok w) →
   Calls prog 151 #[.slice (some ⟨b,off,none⟩) rs.length cap,.int .i64 (m:Int)] w fun e w'=>e=.returned (.int .i64 (aF (ag rs) m))∧Below w.heap.size w w'):=ih
  have HR:Hid (∀ (i:Nat) (h:i < rs.length),yg w b (off + i * 5) rs[i]):=hr;have HO:Hid (∀ r ∈ rs,r.ok w):=hok;obtain ⟨t0,t1,t2,t3,t4⟩:=hr n hn;obtain ⟨l1,l2⟩:=hl rs[n] (List.getElem_mem hn);have hn1:=bq n;have hn2:(n:Int) < (rs.length:Int):=by omega
  have HT:Hid (aF (ag rs) n=dI (dN (ag rs) n) rs[n].e.kids.reverse ((n:Int) - 1)):=by show _=_; rw [kI,lT rs n hn]
  have HL:Hid (∀ r ∈ rs,r.e.light):=hl;clear ih hr hok hl l1;go_enter func151,ntmps151;go_wp2_with fail;go_loopw [5,6] (fun a i wr=>∃ (j:Nat) (x:Int),j≤rs[n].e.kids.length∧i=.int .i64 ((j:Int) - 1)∧a=.int .i64 x∧-1≤x∧x < n∧Hid (dI (dN (ag rs) n) (rs[n].e.kids.take j).reverse x=aF (ag rs) n)∧Below w.heap.size w wr) (fun _ i _=>(intOf i + 1).toNat);case atStart=>exact ⟨rs[n].e.kids.length,(n:Int) - 1,Nat.le_refl _,rfl,rfl,by omega,by omega,(by show _=_; rw [List.take_length]; exact HT.out.symm),Below.refl _ _⟩
  case round =>
   obtain ⟨j,x,hj,rfl,rfl,hx0,hx1,HG,hB⟩:=hrel;have s4:=kept hB hb t4;by_cases hj0:0 < j
   ·obtain ⟨j,rfl⟩:∃ i,j=i + 1:=⟨j - 1,by omega⟩;have hjl:j < rs[n].e.kids.length:=by omega
    rcases (HO.out rs[n] (List.getElem_mem hn)).2.below hB with hnil | ⟨bk,offk,hadk,hbk,hrk⟩
    ·rw [hnil] at hjl; simp at hjl
    rw [hadk] at s4;have k0:=hrk j hjl;clear hrk;have hji:((j + 1:Nat):Int) - 1=(j:Int):=by omega
    have hj1:=bq j;have hj2:(j:Int) < (rs[n].e.kids.length:Int):=by omega
    have HG2:Hid ((if x < 0 ∨ rs[n].e.kids[j] ≠ x then -1 else if dN (ag rs) n x < 0 then -1 else dI (dN (ag rs) n) (rs[n].e.kids.take j).reverse (dN (ag rs) n x - 1))=aF (ag rs) n):=by
     have:=HG.out;rw [List.take_succ_eq_append_getElem hjl,List.reverse_append] at this;exact this
    rw [hji];clear HG hadk t0 t1 t2 t3 t4;by_cases hxn:x < 0
    ·have HT1:Hid (aF (ag rs) n=-1):=by show _=_; rw [← HG2.out,if_pos (Or.inl hxn)]
     go_wp2;go_ret;exact ⟨by rw [HT1.out]; rfl,hB⟩
    by_cases hkx:rs[n].e.kids[j]=x
    ·obtain ⟨m,rfl⟩:∃ m:Nat,x=(m:Int):=⟨x.toNat,by omega⟩;have hF:dN (ag rs) n (m:Int)=aF (ag rs) m:=by unfold dN; rw [if_pos ⟨by omega,by simp; omega⟩]; simp
     have HF:Hid (dN (ag rs) n (m:Int)=aF (ag rs) m):=hF;have hle:=nV (ag rs) m;clear hF;go_wp2_with fail;refine (IH.out m (by omega) _ (by omega) (Nat.lt_of_lt_of_le hb hB.size) (fun i hi=>(HR.out i hi).same fun o=>hB.cell (p:=⟨b,o,none⟩) hb) (fun r hr=>(HO.out r hr).below hB)).mono ?_;rintro e w1 ⟨rfl,hb1⟩;have hB1:Below w.heap.size w w1:=hB.trans (hb1.mono hB.size);clear hb1;by_cases hneg:aF (ag rs) m < 0
     ·have HT1:Hid (aF (ag rs) n=-1):=by show _=_; rw [← HG2.out,if_neg (by omega),HF.out,if_pos hneg]
      go_wp2;go_ret;exact ⟨by rw [HT1.out]; rfl,hB1⟩
     ·have HG3:Hid (dI (dN (ag rs) n) (rs[n].e.kids.take j).reverse (aF (ag rs) m - 1)=aF (ag rs) n):=by
       show _=_;rw [← HG2.out,if_neg (by omega),HF.out,if_neg hneg]
      go_wp2;go_roundw;case rel=>exact ⟨j,aF (ag rs) m - 1,by omega,by go_num,rfl,by omega,by omega,HG3,hB1⟩
      case measure=>simp [intOf] <;> omega
    ·have HT1:Hid (aF (ag rs) n=-1):=by show _=_; rw [← HG2.out,if_pos (Or.inr hkx)]
     go_wp2;go_ret;exact ⟨by rw [HT1.out]; rfl,hB⟩
   ·obtain rfl:j=0:=by omega
    have HT1:Hid (aF (ag rs) n=x + 1):=by show _=_; have:=HG.out; simp [dI] at this; exact this.symm
    clear HG t0 t1 t2 t3 t4;go_wp2;go_ret;exact ⟨by rw [HT1.out]; rfl,hB⟩
theorem yg.later {w w':World} {b off:Nat} {r:ER} (h:yg w b off r) (hb:b < w.heap.size) (hB:Below w.heap.size w w'):yg w' b off r:=h.same fun o=>hB.cell (p:=⟨b,o,none⟩) hb
theorem zD {es:List Ex} (h:¬ (1≤es.length∧es.length≤15)):aS es=false:=by
 unfold aS;by_cases h1:1≤es.length
 ·have h2:¬ es.length≤15:=fun h2=>h ⟨h1,h2⟩;simp [h2]
 ·simp [h1]
theorem EQ {es:List Ex} (k:Nat) (h:k < es.length) (hb:ax es[k]=false):aS es=false:=by simp [aS,ze es k h hb]
theorem ES {es:List Ex} (k:Nat) (h:k < es.length) (hb:kr es k=false):aS es=false:=by simp [aS,Jw es k h hb]
def lV (zs:List Int) (i j:Nat):Bool:=(zs.take j).all fun k=>decide (0≤k) && decide (k≤(i:Int) - 1)
theorem Bd (zs:List Int) (i j:Nat) (h:j < zs.length):lV zs i (j + 1)=(lV zs i j && (decide (0≤zs[j]) && decide (zs[j]≤(i:Int) - 1))):=by
 unfold lV; rw [List.take_succ_eq_append_getElem h,List.all_append]; simp
theorem CO (zs:List Int) (i j:Nat) (h:j < zs.length) (hb:(decide (0≤zs[j]) && decide (zs[j]≤(i:Int) - 1))=false):(zs.all fun k=>decide (0≤k) && decide (k≤(i:Int) - 1))=false:=by
 rw [Bool.eq_false_iff]; intro h2; rw [List.all_eq_true] at h2; have:=h2 zs[j] (List.getElem_mem h); rw [hb] at this; cases this
set_option maxRecDepth 4000 in
theorem xx (b off cap:Nat) (rs:List ER) (w:World) (hlen:rs.length≤1048576) (hl:∀ r ∈ rs,r.e.light) (hf:∀ r ∈ rs,r.e.fits) (hb:b < w.heap.size) (hr:∀ (i:Nat) (h:i < rs.length),yg w b (off + i * 5) rs[i]) (hok:∀ r ∈ rs,r.ok w) :
  Calls prog 106 #[.slice (some ⟨b,off,none⟩) rs.length cap] w fun e w'=>e=.returned (.bool (aS (ag rs)))∧Below w.heap.size w w':=by
 have hel:=aP rs;have HEL:Hid ((ag rs).length=rs.length):=hel;have HL:Hid (∀ r ∈ rs,r.e.light):=hl;have HF:Hid (∀ r ∈ rs,r.e.fits):=hf;have HR:Hid (∀ (i:Nat) (h:i < rs.length),yg w b (off + i * 5) rs[i]):=hr;have HO:Hid (∀ r ∈ rs,r.ok w):=hok;clear hel hl hf hr hok;by_cases hn:1≤rs.length∧rs.length≤15
 ·obtain ⟨hn1,hn2⟩:=hn;go_enter func106,ntmps106;go_wp2_with fail;go_loopw [3,4] (fun o i wr=>∃ k:Nat,k≤rs.length∧i=.int .i64 k∧o=.int .i64 (eT (ag rs) k:Nat)∧Hid (ik (ag rs) k=true∧il (ag rs) k=true)∧Below w.heap.size w wr) (fun _ i _=>rs.length - (intOf i).toNat);case atStart=>exact ⟨0,Nat.zero_le _,rfl,rfl,⟨by simp [ik],by simp [il]⟩,Below.refl _ _⟩
  case round =>
   obtain ⟨k,hk,rfl,rfl,HU,hB⟩:=hrel;by_cases hlt:k < rs.length
   ·have hltE:k < (ag rs).length:=by rw [HEL.out]; exact hlt
    have hek:(ag rs)[k]=rs[k].e:=by simp [ag]
    have HEK:Hid ((ag rs)[k]=rs[k].e):=hek;obtain ⟨t0,t1,t2,t3,t4⟩:=(HR.out k hlt).later hb hB;clear hek;have hk1:=bq k;have hk2:(k:Int) < (rs.length:Int):=by omega
    have hol:=qG (ag rs) k;go_wp2_with fail;refine (AB rs[k] _ (HF.out _ (List.getElem_mem hlt)) ((HO.out _ (List.getElem_mem hlt)).below hB)).mono ?_;rintro e w1 ⟨rfl,hb1⟩;cases hnode:ax rs[k].e with
    | false =>
     have HN:Hid (aS (ag rs)=false):=EQ k hltE (by rw [HEK.out]; exact hnode);go_wp2;go_ret;exact ⟨by rw [HN.out]; rfl,hB.trans (hb1.mono hB.size)⟩
    | true =>
     have hB1:Below w.heap.size w w1:=hB.trans (hb1.mono hB.size);have hbw:b < wr.heap.size:=Nat.lt_of_lt_of_le hb hB.size;replace t0:=kept hb1 hbw t0;replace t4:=kept hb1 hbw t4;have hbw1:b < w1.heap.size:=Nat.lt_of_lt_of_le hbw hb1.size;clear t1 t2 t3 hb1 hB hbw;go_wp2_with fail;go_loopw [5] (fun i w2=>∃ j:Nat,j≤rs[k].e.kids.length∧i=.int .i64 j∧Hid (lV rs[k].e.kids k j=true)∧w2=w1) (fun i _=>rs[k].e.kids.length - (intOf i).toNat);case atStart=>exact ⟨0,Nat.zero_le _,rfl,(by show _=_; simp [lV]),rfl⟩
     case round =>
      obtain ⟨j,hj,rfl,HP,rfl⟩:=hrel;by_cases hjl:j < rs[k].e.kids.length
      ·rcases (HO.out rs[k] (List.getElem_mem hlt)).2.below hB1 with hnil | ⟨bk,offk,hadk,hbk,hrk⟩
       ·rw [hnil] at hjl; simp at hjl
       have t4':=t4;rw [hadk] at t4';have k0:=hrk j hjl;have hj1:=bq j;have hj2:(j:Int) < (rs[k].e.kids.length:Int):=by omega
       obtain ⟨-,lk⟩:=HL.out rs[k] (List.getElem_mem hlt);clear hrk hadk t4;go_wp2_with fail;refine (mG _ _ _ _).mono ?_;rintro e w' ⟨rfl,rfl⟩;cases hin:(decide (0≤rs[k].e.kids[j]) && decide (rs[k].e.kids[j]≤(k:Int) - 1)) with
       | false =>
        have HN:Hid (aS (ag rs)=false):=ES k hltE (by unfold kr; rw [lT rs k hlt]; exact CO _ k j hjl hin);go_wp2;go_ret;exact ⟨by rw [HN.out]; rfl,hB1⟩
       | true =>
        have HP2:Hid (lV rs[k].e.kids k (j + 1)=true):=by show _=_; rw [Bd _ _ _ hjl,HP.out,hin]; rfl
        go_wp2;go_roundw;case rel=>exact ⟨j + 1,by omega,by go_num,HP2,by first | rfl | trivial⟩
        case measure=>simp [intOf] <;> omega
      ·obtain rfl:j=rs[k].e.kids.length:=by omega
       have HU2:Hid (ik (ag rs) (k + 1)=true∧il (ag rs) (k + 1)=true):=by
        refine ⟨?_,?_⟩
        ·rw [qH _ _ hltE,HU.out.1,HEK.out,hnode]; rfl
        ·rw [Ca,HU.out.2];unfold kr;rw [lT rs k hlt];have:=HP.out;unfold lV at this;rw [List.take_length] at this;rw [this]; rfl
       have HOW:Hid (eT (ag rs) (k + 1)=eT (ag rs) k + (if rs[k].e.kind=1 then 1 else 0)):=by show _=_; rw [vY _ _ hltE,HEK.out]
       by_cases hk1':rs[k].e.kind=1
       ·have HOW2:Hid (eT (ag rs) (k + 1)=eT (ag rs) k + 1):=by show _=_; rw [HOW.out,if_pos hk1']
        clear HOW;go_wp2;go_roundw;case rel=>exact ⟨k + 1,by omega,by go_num,by rw [HOW2.out]; go_num,HU2,hB1⟩
        case measure=>simp [intOf] <;> omega
       ·have HOW2:Hid (eT (ag rs) (k + 1)=eT (ag rs) k):=by show _=_; rw [HOW.out,if_neg hk1']; rfl
        clear HOW;go_wp2;go_roundw;case rel=>exact ⟨k + 1,by omega,by go_num,by rw [HOW2.out],HU2,hB1⟩
        case measure=>simp [intOf] <;> omega
   ·obtain rfl:k=rs.length:=by omega
    have HN:Hid ((ag rs).all ax=true):=by
     have:=HU.out.1;unfold ik at this;rwa [← HEL.out,List.take_length] at this
    have HKU:Hid (il (ag rs) rs.length=true):=HU.out.2;have HOW:Hid (eT (ag rs) rs.length=own (ag rs)):=by show _=_; unfold eT; rw [← HEL.out,List.take_length]
    have hol:=qG (ag rs) rs.length;by_cases ho:eT (ag rs) rs.length≤1
    ·have HS:Hid (aS (ag rs)=decide (aF (ag rs) (rs.length - 1)=0)):=by
      show _=_;have h1:own (ag rs)≤1:=by rw [← HOW.out]; exact ho
      have e1:=HEL.out;unfold aS;rw [e1,HN.out,HKU.out];simp [h1,hn1,hn2]
     have hcast:((rs.length:Int) - 1)=((rs.length - 1:Nat):Int):=by omega
     have HCA:Hid (((rs.length:Int) - 1)=((rs.length - 1:Nat):Int)):=hcast;clear hcast;go_wp2_with fail;rw [HCA.out];refine (EP b off cap rs hlen HL.out (rs.length - 1) _ (by omega) (Nat.lt_of_lt_of_le hb hB.size) (fun i hi=>(HR.out i hi).later hb hB) (fun r hr=>(HO.out r hr).below hB)).mono ?_;rintro e w1 ⟨rfl,hb1⟩;go_wp2;go_ret;exact ⟨by rw [HS.out]; exact ae (by rw [Bool.eq_iff_iff]; simp),hB.trans (hb1.mono hB.size)⟩
    ·have HS:Hid (aS (ag rs)=false):=by
      show _=_;have h1:¬ own (ag rs)≤1:=by rw [← HOW.out]; exact ho
      simp [aS,h1]
     go_wp2;go_ret;exact ⟨by rw [HS.out]; rfl,hB⟩
 ·have HN:Hid (aS (ag rs)=false):=zD (by rw [HEL.out]; exact hn);go_enter func106,ntmps106;go_wp2_with fail
  all_goals go_ret
  all_goals exact ⟨by rw [HN.out]; rfl,Below.refl _ _⟩
theorem nu (ad:Option Addr) (cap:Nat) (rs:List ER) (w:World) (hlen:rs.length≤1048576) (hl:∀ r ∈ rs,r.e.light) (hf:∀ r ∈ rs,r.e.fits) (hs:dZ w ad rs) :
  Calls prog 106 #[.slice ad rs.length cap] w fun e w'=>e=.returned (.bool (aS (ag rs)))∧Below w.heap.size w w':=by
 rcases hs with rfl | ⟨b,off,rfl,hb,hr,hok⟩
 ·go_enter func106,ntmps106;go_wp2_with fail;go_ret;exact ⟨rfl,Below.refl _ _⟩
 ·exact xx b off cap rs w hlen hl hf hb hr hok
end Go.Proofs.YtdmniljjnaebbaaGreatDoor
