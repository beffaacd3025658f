/-
  What is proved: the contract of the model's prOrder: the people in the order of their times. Conditions: the times are read as they lie; at most 1,048,575 of them.
-/
import Derived.Test.YtpefgleipjjneaaPr
namespace Go.Proofs.Ytpefgleipjjneaa
open Go.RowKit

set_option maxHeartbeats 3200000 in
set_option maxRecDepth 100000 in
theorem prOrder_any (A : Option Addr) (n c : Nat) (xs : List Int) (w : World) (hA : Holds w A (nums xs)) (hx : xs.length = n) (hn : n ≤ 1048575) :
    Calls Try.prog 27 #[.slice A n c] w (OwnPost (ordTo xs n) w) := by
  obtain ⟨i0, hi, hz0, hz1, hz2⟩ := info_parts info_int
  have HI := Lib.hid hi
  have HZ0 := Lib.hid hz0
  have HZ1 := Lib.hid hz1
  have HZ2 := Lib.hid hz2
  have HX := Lib.hid hx
  clear hi hz0 hz1 hz2 hx
  go_enter Try.func27, Try.ntmps27
  go_wp2
  go_loopw [3, 10] (fun v i wr => ∃ (j : Nat) (E : Option Addr) (d : Nat), j ≤ n ∧ i = .int .i64 j ∧ v = .slice E j d ∧ wr.ownsRow w.heap.size 3 1 (.slice E j d) j (nums (ordTo xs j)) ∧ Below w.heap.size w wr ∧ (j = 0 → E = none)) (fun _ i _ => n - (intOf i).toNat)
  case atStart => exact ⟨0, none, 0, Nat.zero_le _, rfl, rfl, World.ownsRow_nil _ _ _ _, Below.refl _ _, fun _ => rfl⟩
  case round =>
    obtain ⟨wo, rfl⟩ : ∃ wo : World, wo = wr := ⟨_, rfl⟩
    obtain ⟨j, E, d, hj, rfl, rfl, hown, hb, hnone⟩ := hrel
    by_cases hlt : j < n
    · have hjx : j < xs.length := by have := HX.out; omega
      obtain ⟨b1, o1, rfl, hbl1, hc⟩ := (hA.below hb).look (k := j) (by rw [nums_len]; exact hjx)
      simp only [nums, List.getElem_map] at hc
      rw [← tm_at hjx] at hc
      have HNX := Lib.hid (ordTo_next xs j)
      have HLN := Lib.hid (ordTo_len xs j)
      have HOWN := Lib.hid hown
      have HB := Lib.hid hb
      have hbs := hb.size
      have hpos : E ≠ none → 0 < j := fun he => Nat.pos_of_ne_zero fun h => he (hnone h)
      clear hnone
      rcases own_some hown with ⟨rfl, rfl, rfl⟩ | ⟨g, rfl, hjd⟩
      · -- the first number
        clear hpos
        simp only [Nat.add_zero] at hc
        clear hown hb
        go_wp2
        refine wp_loop_rounds 1 ?_
        rw [rounds_succ]
        go_wp2_with fail
        refine (l1Own_any none 0 0 [] _ (Holds.empty _ _) rfl (by omega) (fun _ => rfl)).mono ?_
        rintro e w1 ⟨E1, c1, rfl, hown1, hb1⟩
        have HO1 := Lib.hid (hown1.alloc (.cells #[.int .i64 0] 3))
        have HNEW := Lib.hid (cells_fresh w1 3 #[.int .i64 0])
        have HONE : Hid (∀ u ∈ [Value.int .i64 0], u.oneCell' = true) := fun u hu => by simp at hu; subst hu; rfl
        have HBB := Lib.hid ((below_then HB.out hb1 HB.out.size).alloc (Nat.le_trans HB.out.size hb1.size) (.cells #[.int .i64 0] 3))
        have hs1 := hb1.size
        clear hown1 hb1
        go_wp2_with (first | (at_builtin; refine wpList_append_own _ rfl (.tmp 36) (.tmp 38) 22 rfl wo.heap.size 3 i0 (.int .i64 0) 1 8 Try.underlying22 HI.out HZ0.out HZ1.out HZ2.out rfl (by decide) _ 0 [] rfl HO1.out ⟨w1.heap.size, 0, none⟩ 1 1 [.int .i64 0] rfl rfl HNEW.out HONE.out (by unfold maxLen; omega) (by omega) (by simp; omega) ?_; intro v2 w2 hown2 hg2 _; obtain ⟨g2, c2, hv2⟩ := own_slice hown2; subst hv2; simp only [Nat.zero_add, List.nil_append] at hown2) | (at_builtin; refine wpList_append_own_none rfl (.tmp 40) (.tmp 43) 22 rfl wo.heap.size 3 i0 1 Try.underlying22 HI.out _ 1 [.int .i64 0] rfl hown2 rfl ?_))
        have HO2 := Lib.hid (own_lower hown2 hbs)
        have HE := Lib.hid (HBB.out.grown hg2 (by simp; omega) (fun k hk => Nat.le_trans hbs (HO1.out.lt k hk).1))
        clear hown2 hg2
        go_roundw
        case rel => exact ⟨1, some ⟨g2, 0, none⟩, c2, by omega, by go_num, rfl, by rw [HNX.out]; exact HO2.out, HE.out, fun h => by omega⟩
        case measure => simp [intOf]; omega
      · have hj0 : 0 < j := hpos (by simp)
        clear hpos
        obtain ⟨hgl, hgb, hcells⟩ := own_cells hown
        have HCE := Lib.hid hcells
        clear hown hb hcells
        go_wp2
        go_loop [6] (fun k => ∃ kk : Nat, kk ≤ j ∧ k = .int .i64 kk ∧ spotO xs (ordTo xs j) (tm xs j) j = spotO xs (ordTo xs j) (tm xs j) kk) (fun k => (intOf k).toNat)
        case atStart => exact ⟨j, Nat.le_refl _, rfl, rfl⟩
        case round =>
          obtain ⟨p, hpj, rfl, hsp⟩ := hrel
          cases p with
          | zero =>
            rw [show spotO xs (ordTo xs j) (tm xs j) 0 = 0 from rfl] at hsp
            have hdne : ¬ d = 0 := by omega
            have HSP := Lib.hid hsp
            have hpd : 0 ≤ d := by omega
            have hp0 : (0 : Int) ≤ ((0 : Nat) : Int) := by omega
            have hpdi : ((0 : Nat) : Int) ≤ ((d : Nat) : Int) := by omega
            have hpji : ((0 : Nat) : Int) ≤ ((j : Nat) : Int) := by omega
            have HTK : Hid (((ordTo xs j).take 0).length = 0) := by show _ = _; have := HLN.out; simp only [List.length_take]; omega
            have HDR : Hid (((ordTo xs j).drop 0).length = j) := by show _ = _; have := HLN.out; simp only [List.length_drop]; omega
            have HDL : Hid ((nums ((ordTo xs j).drop 0)).length = j * 1) := by show _ = _; rw [nums_len, HDR.out, Nat.mul_one]
            have HDO := Lib.hid (ints_one ((ordTo xs j).drop 0))
            have hAl : Holds wo (some ⟨g, 0, none⟩) (nums ((ordTo xs j).take 0)) := by
              refine .inr ⟨g, 0, rfl, hgl, fun i u hu => ?_⟩
              rw [Nat.zero_add]
              refine HCE.out i u ?_
              have hi : i < 0 := by have := (List.getElem?_eq_some_iff.1 hu).1; rw [nums_len, HTK.out] at this; exact this
              first | (exfalso; omega) | (rw [← hu]; simp only [nums, List.map_take, List.getElem?_take, if_pos hi])
            clear hsp
            go_wp2_with fail
            refine (l1Own_any (some ⟨g, 0, none⟩) _ _ ((ordTo xs j).take 0) _ hAl HTK.out (by omega) (fun h => by cases h)).mono ?_
            rintro e w1 ⟨E1, c1, rfl, hown1, hb1⟩
            rw [HTK.out] at hown1 ⊢
            have HO1 := Lib.hid (hown1.alloc (.cells #[.int .i64 j] 3))
            have HNEW := Lib.hid (cells_fresh w1 3 #[.int .i64 j])
            have HONE : Hid (∀ u ∈ [Value.int .i64 j], u.oneCell' = true) := fun u hu => by simp at hu; subst hu; rfl
            have HBB := Lib.hid ((below_then HB.out hb1 HB.out.size).alloc (Nat.le_trans HB.out.size hb1.size) (.cells #[.int .i64 j] 3))
            have HC1 : Hid (∀ i u, (nums (ordTo xs j))[i]? = some u → (w1.alloc (.cells #[.int .i64 j] 3)).cell? ⟨g, i, none⟩ = some u) := fun i u hu => ((World.cell?_alloc_lt w1 _ ⟨g, i, none⟩ (Nat.lt_of_lt_of_le hgl hb1.size)).trans (hb1.cell (p := ⟨g, i, none⟩) hgl)).trans (HCE.out i u hu)
            have hs1 := hb1.size
            clear hown1 hb1
            go_wp2_with (first | (at_builtin; refine wpList_append_own _ rfl (.tmp 36) (.tmp 38) 22 rfl wo.heap.size 3 i0 (.int .i64 0) 1 8 Try.underlying22 HI.out HZ0.out HZ1.out HZ2.out rfl (by decide) _ 0 (nums ((ordTo xs j).take 0)) rfl HO1.out ⟨w1.heap.size, 0, none⟩ 1 1 [.int .i64 j] rfl rfl HNEW.out HONE.out (by unfold maxLen; omega) (by omega) (by simp; omega) ?_; intro v2 w2 hown2 hg2 _; obtain ⟨g2, c2, hv2⟩ := own_slice hown2; subst hv2; have HN2 : Hid (∀ i u, (nums ((ordTo xs j).drop 0))[i]? = some u → w2.cell? ((⟨g, 0, none⟩ : Addr).add i) = some u) := (fun i u hu => by rw [show (⟨g, 0, none⟩ : Addr).add i = ⟨g, 0 + i, none⟩ from by unfold Addr.add; split <;> simp_all]; exact (cell_grown hg2 (by simp; omega) (fun hh => by have := (HO1.out.lt g hh).1; omega)).trans (HC1.out _ u (by rw [← hu]; simp [nums])))) | (at_builtin; refine wpList_append_own _ rfl (.tmp 40) (.tmp 43) 22 rfl wo.heap.size 3 i0 (.int .i64 0) 1 8 Try.underlying22 HI.out HZ0.out HZ1.out HZ2.out rfl (by decide) (.slice (some ⟨g2, 0, none⟩) (0 + 1) c2) _ _ rfl hown2 ⟨g, 0, none⟩ j d (nums ((ordTo xs j).drop 0)) rfl HDL.out HN2.out HDO.out (by unfold maxLen; omega) (by omega) (by have := hg2.size; simp at this; omega) ?_; intro v3 w3 hown3 hg3 _))
            rw [show 0 + 1 + j = j + 1 by omega] at hown3
            obtain ⟨A3, c3, rfl⟩ := own_shape hown3
            have HO3 := Lib.hid (own_lower hown3 hbs)
            have HE := Lib.hid ((HBB.out.grown hg2 (by simp; omega) (fun k hk => Nat.le_trans hbs (HO1.out.lt k hk).1)).grown hg3 (by have := hg2.size; simp at this; omega) (fun k hk => Nat.le_trans hbs (hown2.lt k hk).1))
            have HL3 : Hid ((nums ((ordTo xs j).take 0) ++ [.int .i64 j]) ++ nums ((ordTo xs j).drop 0) = nums (ordTo xs (j + 1))) := by
              show _ = _
              rw [HNX.out, insO, HLN.out, HSP.out]
              simp [nums]
            clear hown2 hown3 hg2 hg3
            go_roundw
            case rel => exact ⟨j + 1, A3, c3, by omega, by go_num, rfl, by rw [← HL3.out]; exact HO3.out, HE.out, fun h => by omega⟩
            case measure => first | (simp [intOf]; done) | (simp [intOf]; omega)
          | succ p =>
            have hpl : p < (ordTo xs j).length := by have := HLN.out; omega
            have hcp := HCE.out p (.int .i64 ((ordTo xs j).getD p 0)) (by simp [nums, hpl])
            have hy0 := (ordTo_mem xs j ((ordTo xs j).getD p 0)).1 (by simp [hpl])
            obtain ⟨y, hy⟩ : ∃ y : Nat, (y : Int) = (ordTo xs j).getD p 0 := ⟨((ordTo xs j).getD p 0).toNat, by omega⟩
            have hyn : y < n := by omega
            have hyx : y < xs.length := by have := HX.out; omega
            obtain ⟨b2, o2, hab, -, hct⟩ := (hA.below HB.out).look (k := y) (by rw [nums_len]; exact hyx)
            obtain ⟨rfl, rfl⟩ : b1 = b2 ∧ o1 = o2 := by simpa using hab
            simp only [nums, List.getElem_map] at hct
            rw [← tm_at hyx] at hct
            rw [← hy] at hcp
            clear hab hy0 hyx
            by_cases hx : tm xs j < tm xs y
            · rw [spotO_down hpl (by rw [← hy]; exact hx)] at hsp
              clear hy
              have HSP := Lib.hid hsp
              clear hsp
              go_wp2
              go_round
              case rel => exact ⟨p, by omega, by go_num, HSP.out⟩
              case measure => first | (simp [intOf]; done) | (simp [intOf]; omega)
            · rw [spotO_here hpl (by rw [← hy]; exact hx)] at hsp
              clear hy
              by_cases hdp : d = p + 1
              · obtain rfl : j = p + 1 := by omega
                subst hdp
                have HSP := Lib.hid hsp
                have hpd : (p + 1) ≤ (p + 1) := by omega
                have hp0 : (0 : Int) ≤ (((p + 1) : Nat) : Int) := by omega
                have hpdi : (((p + 1) : Nat) : Int) ≤ (((p + 1) : Nat) : Int) := by omega
                have hpji : (((p + 1) : Nat) : Int) ≤ (((p + 1) : Nat) : Int) := by omega
                have HTK : Hid (((ordTo xs (p + 1)).take (p + 1)).length = (p + 1)) := by show _ = _; have := HLN.out; simp only [List.length_take]; omega
                have HDR : Hid (((ordTo xs (p + 1)).drop (p + 1)).length = 0) := by show _ = _; have := HLN.out; simp only [List.length_drop]; omega
                have HDL : Hid ((nums ((ordTo xs (p + 1)).drop (p + 1))).length = 0 * 1) := by show _ = _; rw [nums_len, HDR.out, Nat.mul_one]
                have HDO := Lib.hid (ints_one ((ordTo xs (p + 1)).drop (p + 1)))
                have hAl : Holds wo (some ⟨g, 0, none⟩) (nums ((ordTo xs (p + 1)).take (p + 1))) := by
                  refine .inr ⟨g, 0, rfl, hgl, fun i u hu => ?_⟩
                  rw [Nat.zero_add]
                  refine HCE.out i u ?_
                  have hi : i < (p + 1) := by have := (List.getElem?_eq_some_iff.1 hu).1; rw [nums_len, HTK.out] at this; exact this
                  first | (exfalso; omega) | (rw [← hu]; simp only [nums, List.map_take, List.getElem?_take, if_pos hi])
                clear hsp
                go_wp2_with fail
                refine (l1Own_any (some ⟨g, 0, none⟩) _ _ ((ordTo xs (p + 1)).take (p + 1)) _ hAl HTK.out (by omega) (fun h => by cases h)).mono ?_
                rintro e w1 ⟨E1, c1, rfl, hown1, hb1⟩
                rw [HTK.out] at hown1 ⊢
                have HO1 := Lib.hid (hown1.alloc (.cells #[.int .i64 ((p + 1 : Nat) : Int)] 3))
                have HNEW := Lib.hid (cells_fresh w1 3 #[.int .i64 ((p + 1 : Nat) : Int)])
                have HONE : Hid (∀ u ∈ [Value.int .i64 ((p + 1 : Nat) : Int)], u.oneCell' = true) := fun u hu => by simp at hu; subst hu; rfl
                have HBB := Lib.hid ((below_then HB.out hb1 HB.out.size).alloc (Nat.le_trans HB.out.size hb1.size) (.cells #[.int .i64 ((p + 1 : Nat) : Int)] 3))
                have HC1 : Hid (∀ i u, (nums (ordTo xs (p + 1)))[i]? = some u → (w1.alloc (.cells #[.int .i64 ((p + 1 : Nat) : Int)] 3)).cell? ⟨g, i, none⟩ = some u) := fun i u hu => ((World.cell?_alloc_lt w1 _ ⟨g, i, none⟩ (Nat.lt_of_lt_of_le hgl hb1.size)).trans (hb1.cell (p := ⟨g, i, none⟩) hgl)).trans (HCE.out i u hu)
                have hs1 := hb1.size
                clear hown1 hb1
                go_wp2_with (first | (at_builtin; refine wpList_append_own _ rfl (.tmp 36) (.tmp 38) 22 rfl wo.heap.size 3 i0 (.int .i64 0) 1 8 Try.underlying22 HI.out HZ0.out HZ1.out HZ2.out rfl (by decide) _ (p + 1) (nums ((ordTo xs (p + 1)).take (p + 1))) rfl HO1.out ⟨w1.heap.size, 0, none⟩ 1 1 [.int .i64 ((p + 1 : Nat) : Int)] rfl rfl HNEW.out HONE.out (by unfold maxLen; omega) (by omega) (by simp; omega) ?_; intro v2 w2 hown2 hg2 _; obtain ⟨g2, c2, hv2⟩ := own_slice hown2; subst hv2; have HN2 : Hid (∀ i u, (nums ((ordTo xs (p + 1)).drop (p + 1)))[i]? = some u → w2.cell? ((⟨g, 0, none⟩ : Addr).add i) = some u) := (fun i u hu => by rw [show (⟨g, 0, none⟩ : Addr).add i = ⟨g, 0 + i, none⟩ from by unfold Addr.add; split <;> simp_all]; exfalso; have h1 := (List.getElem?_eq_some_iff.1 hu).1; rw [nums_len, HDR.out] at h1; omega)) | (at_builtin; refine wpList_append_own _ rfl (.tmp 40) (.tmp 43) 22 rfl wo.heap.size 3 i0 (.int .i64 0) 1 8 Try.underlying22 HI.out HZ0.out HZ1.out HZ2.out rfl (by decide) (.slice (some ⟨g2, 0, none⟩) ((p + 1) + 1) c2) _ _ rfl hown2 ⟨g, 0, none⟩ 0 0 (nums ((ordTo xs (p + 1)).drop (p + 1))) rfl HDL.out HN2.out HDO.out (by unfold maxLen; omega) (by omega) (by have := hg2.size; simp at this; omega) ?_; intro v3 w3 hown3 hg3 _))
                rw [show (p + 1) + 1 + 0 = (p + 1) + 1 by omega] at hown3
                obtain ⟨A3, c3, rfl⟩ := own_shape hown3
                have HO3 := Lib.hid (own_lower hown3 hbs)
                have HE := Lib.hid ((HBB.out.grown hg2 (by simp; omega) (fun k hk => Nat.le_trans hbs (HO1.out.lt k hk).1)).grown hg3 (by have := hg2.size; simp at this; omega) (fun k hk => Nat.le_trans hbs (hown2.lt k hk).1))
                have HL3 : Hid ((nums ((ordTo xs (p + 1)).take (p + 1)) ++ [.int .i64 ((p + 1 : Nat) : Int)]) ++ nums ((ordTo xs (p + 1)).drop (p + 1)) = nums (ordTo xs ((p + 1) + 1))) := by
                  show _ = _
                  rw [HNX.out, insO, HLN.out, HSP.out]
                  simp [nums]
                clear hown2 hown3 hg2 hg3
                go_roundw
                case rel => exact ⟨(p + 1) + 1, A3, c3, by omega, by go_num, rfl, by rw [← HL3.out]; exact HO3.out, HE.out, fun h => by omega⟩
                case measure => first | (simp [intOf]; done) | (simp [intOf]; omega)
              · have HSP := Lib.hid hsp
                have hpd : (p + 1) ≤ d := by omega
                have hp0 : (0 : Int) ≤ (((p + 1) : Nat) : Int) := by omega
                have hpdi : (((p + 1) : Nat) : Int) ≤ ((d : Nat) : Int) := by omega
                have hpji : (((p + 1) : Nat) : Int) ≤ ((j : Nat) : Int) := by omega
                have HTK : Hid (((ordTo xs j).take (p + 1)).length = (p + 1)) := by show _ = _; have := HLN.out; simp only [List.length_take]; omega
                have HDR : Hid (((ordTo xs j).drop (p + 1)).length = (j - (p + 1))) := by show _ = _; have := HLN.out; simp only [List.length_drop]; omega
                have HDL : Hid ((nums ((ordTo xs j).drop (p + 1))).length = (j - (p + 1)) * 1) := by show _ = _; rw [nums_len, HDR.out, Nat.mul_one]
                have HDO := Lib.hid (ints_one ((ordTo xs j).drop (p + 1)))
                have hAl : Holds wo (some ⟨g, 0, none⟩) (nums ((ordTo xs j).take (p + 1))) := by
                  refine .inr ⟨g, 0, rfl, hgl, fun i u hu => ?_⟩
                  rw [Nat.zero_add]
                  refine HCE.out i u ?_
                  have hi : i < (p + 1) := by have := (List.getElem?_eq_some_iff.1 hu).1; rw [nums_len, HTK.out] at this; exact this
                  first | (exfalso; omega) | (rw [← hu]; simp only [nums, List.map_take, List.getElem?_take, if_pos hi])
                clear hsp
                go_wp2_with fail
                refine (l1Own_any (some ⟨g, 0, none⟩) _ _ ((ordTo xs j).take (p + 1)) _ hAl HTK.out (by omega) (fun h => by cases h)).mono ?_
                rintro e w1 ⟨E1, c1, rfl, hown1, hb1⟩
                rw [HTK.out] at hown1 ⊢
                have HO1 := Lib.hid (hown1.alloc (.cells #[.int .i64 j] 3))
                have HNEW := Lib.hid (cells_fresh w1 3 #[.int .i64 j])
                have HONE : Hid (∀ u ∈ [Value.int .i64 j], u.oneCell' = true) := fun u hu => by simp at hu; subst hu; rfl
                have HBB := Lib.hid ((below_then HB.out hb1 HB.out.size).alloc (Nat.le_trans HB.out.size hb1.size) (.cells #[.int .i64 j] 3))
                have HC1 : Hid (∀ i u, (nums (ordTo xs j))[i]? = some u → (w1.alloc (.cells #[.int .i64 j] 3)).cell? ⟨g, i, none⟩ = some u) := fun i u hu => ((World.cell?_alloc_lt w1 _ ⟨g, i, none⟩ (Nat.lt_of_lt_of_le hgl hb1.size)).trans (hb1.cell (p := ⟨g, i, none⟩) hgl)).trans (HCE.out i u hu)
                have hs1 := hb1.size
                clear hown1 hb1
                go_wp2_with (first | (at_builtin; refine wpList_append_own _ rfl (.tmp 36) (.tmp 38) 22 rfl wo.heap.size 3 i0 (.int .i64 0) 1 8 Try.underlying22 HI.out HZ0.out HZ1.out HZ2.out rfl (by decide) _ (p + 1) (nums ((ordTo xs j).take (p + 1))) rfl HO1.out ⟨w1.heap.size, 0, none⟩ 1 1 [.int .i64 j] rfl rfl HNEW.out HONE.out (by unfold maxLen; omega) (by omega) (by simp; omega) ?_; intro v2 w2 hown2 hg2 _; obtain ⟨g2, c2, hv2⟩ := own_slice hown2; subst hv2; have HN2 : Hid (∀ i u, (nums ((ordTo xs j).drop (p + 1)))[i]? = some u → w2.cell? ((⟨g, (p + 1), none⟩ : Addr).add i) = some u) := (fun i u hu => by rw [show (⟨g, (p + 1), none⟩ : Addr).add i = ⟨g, (p + 1) + i, none⟩ from by unfold Addr.add; split <;> simp_all]; exact (cell_grown hg2 (by simp; omega) (fun hh => by have := (HO1.out.lt g hh).1; omega)).trans (HC1.out _ u (by rw [← hu]; simp [nums])))) | (at_builtin; refine wpList_append_own _ rfl (.tmp 40) (.tmp 43) 22 rfl wo.heap.size 3 i0 (.int .i64 0) 1 8 Try.underlying22 HI.out HZ0.out HZ1.out HZ2.out rfl (by decide) (.slice (some ⟨g2, 0, none⟩) ((p + 1) + 1) c2) _ _ rfl hown2 ⟨g, (p + 1), none⟩ (j - (p + 1)) (d - (p + 1)) (nums ((ordTo xs j).drop (p + 1))) rfl HDL.out HN2.out HDO.out (by unfold maxLen; omega) (by omega) (by have := hg2.size; simp at this; omega) ?_; intro v3 w3 hown3 hg3 _))
                rw [show (p + 1) + 1 + (j - (p + 1)) = j + 1 by omega] at hown3
                obtain ⟨A3, c3, rfl⟩ := own_shape hown3
                have HO3 := Lib.hid (own_lower hown3 hbs)
                have HE := Lib.hid ((HBB.out.grown hg2 (by simp; omega) (fun k hk => Nat.le_trans hbs (HO1.out.lt k hk).1)).grown hg3 (by have := hg2.size; simp at this; omega) (fun k hk => Nat.le_trans hbs (hown2.lt k hk).1))
                have HL3 : Hid ((nums ((ordTo xs j).take (p + 1)) ++ [.int .i64 j]) ++ nums ((ordTo xs j).drop (p + 1)) = nums (ordTo xs (j + 1))) := by
                  show _ = _
                  rw [HNX.out, insO, HLN.out, HSP.out]
                  simp [nums]
                clear hown2 hown3 hg2 hg3
                go_roundw
                case rel => exact ⟨j + 1, A3, c3, by omega, by go_num, rfl, by rw [← HL3.out]; exact HO3.out, HE.out, fun h => by omega⟩
                case measure => first | (simp [intOf]; done) | (simp [intOf]; omega)
    · have hjn : j = n := by omega
      subst hjn
      go_wp2
      go_ret
      have hl := ordTo_len xs j
      exact ⟨E, d, by rw [hl]; rfl, by rw [hl]; exact hown, hb⟩
end Go.Proofs.Ytpefgleipjjneaa
