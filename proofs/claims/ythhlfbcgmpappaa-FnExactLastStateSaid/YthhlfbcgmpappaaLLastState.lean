/-
  What is proved: the law FnExactLastState returns true at every party-like argument, and leaves all that was there as it was. Conditions: the argument's times are read as they lie.
-/
import Derived.Test.YthhlfbcgmpappaaLast
import Derived.Deep.RegionHeld3
namespace Go.Proofs.Ythhlfbcgmpappaa
open Go.RowKit

set_option maxHeartbeats 400000 in
theorem lawLastState_big (A : Option Addr) (n c : Nat) (s : Int) (w : World) (hn : n ≤ 9223372036854775807) (hbig : 1048576 < n) :
    Calls Try.prog 8 #[.agg #[.slice A n c, .int .i64 s]] w fun e w' => e = .returned (.bool true) ∧ Below w.heap.size w w' := by
  go_enter Try.func8, Try.ntmps8
  go_wp2_with fail
  refine (szParty_any A n c s 1048576 _ hn (by omega) (by omega)).mono ?_
  rintro e w1 ⟨rfl, hb1⟩
  rw [if_pos (by omega)]
  go_wp2
  go_ret
  exact ⟨rfl, below_then (below1 w _) hb1 (by simp)⟩

set_option maxHeartbeats 3200000 in
set_option maxRecDepth 100000 in
theorem lawLastState_small (A : Option Addr) (n c : Nat) (xs : List Int) (s : Int) (w : World) (hA : Holds w A (nums xs)) (hx : xs.length = n) (hn : n ≤ 1048576) :
    Calls Try.prog 8 #[.agg #[.slice A n c, .int .i64 s]] w fun e w' => e = .returned (.bool true) ∧ Below w.heap.size w w' := by
  have HX := Lib.hid hx
  have hlen : (lastBits xs n s).length ≤ 1048576 := Nat.le_trans (lastBits_le xs n s) hn
  clear hx
  have hp := Whole.fresh w 55 #[.slice A n c, .int .i64 s]
  go_enter Try.func8, Try.ntmps8
  go_wp2_with fail
  refine (szParty_any A n c s 1048576 _ (by omega) (by omega) (by omega)).mono ?_
  rintro e w1 ⟨rfl, hb⟩
  rw [if_neg (by omega)]
  have ht := below_then (below1 w _) hb (by simp)
  replace hp := hp.below hb
  clear hb
  obtain ⟨hp_a, hp_b, -, -⟩ := hp.two
  have hleft : (0 : Int) ≤ 1048576 - n := by omega
  go_wp2_with fail
  refine (toParty_own A n c xs s _ (hA.below ht) HX.out (by omega)).mono ?_
  rintro e w2 ⟨g2, rfl, hg2, hw2, hb⟩
  replace ht := below_then ht hb ht.size
  replace hp := hp.below hb
  clear hb hg2
  clear hp_a hp_b
  obtain ⟨hp_a, hp_b, -, -⟩ := hp.two
  go_wp2_with fail
  refine (specLastState_any _ _ _ xs s _ hw2.holds HX.out (by omega)).mono ?_
  rintro e w3 ⟨A0, q0, rfl, hF0, hb⟩
  have hz3 : w2.heap.size ≤ w3.heap.size := hb.size
  have hz0 : w.heap.size ≤ w2.heap.size := ht.size
  replace ht := below_then ht hb ht.size
  replace hp := hp.below hb
  clear hb hw2
  have hb0 := Whole.fresh w3 29 #[.slice A0 (lastBits xs n s).length q0, .bool (isParty xs s)]
  replace ht := ht.alloc ht.size (.cells #[.slice A0 (lastBits xs n s).length q0, .bool (isParty xs s)] 29)
  replace hp := hp.alloc (.cells #[.slice A0 (lastBits xs n s).length q0, .bool (isParty xs s)] 29)
  replace hF0 := hF0.alloc (.cells #[.slice A0 (lastBits xs n s).length q0, .bool (isParty xs s)] 29)
  clear hp_a hp_b
  obtain ⟨hp_a, hp_b, -, -⟩ := hp.two
  obtain ⟨hb0_a, hb0_b, -, -⟩ := hb0.two
  have hp_l := hp.lt
  have hb0_l := hb0.lt
  go_wp2_with fail
  refine (toParty_own A n c xs s _ (hA.below ht) HX.out (by omega)).mono ?_
  rintro e w4 ⟨g4, rfl, hg4, hw4, hb⟩
  have hz4 : w3.heap.size + 1 ≤ w4.heap.size := by have := hb.size; simpa using this
  replace ht := below_then ht hb ht.size
  replace hp := hp.below hb
  replace hF0 := hF0.below hb
  replace hb0 := hb0.below hb
  have hG := Fresh.of_whole (lo := w3.heap.size + 1) (hi := w4.heap.size) hw4 (by simpa using hg4) hw4.lt
  clear hb hg4 hw4
  have hx := Whole.fresh w4 26 #[.slice (some ⟨g4, 0, none⟩) n n, .int .i64 s]
  replace ht := ht.alloc ht.size (.cells #[.slice (some ⟨g4, 0, none⟩) n n, .int .i64 s] 26)
  replace hp := hp.alloc (.cells #[.slice (some ⟨g4, 0, none⟩) n n, .int .i64 s] 26)
  replace hF0 := hF0.alloc (.cells #[.slice (some ⟨g4, 0, none⟩) n n, .int .i64 s] 26)
  replace hb0 := hb0.alloc (.cells #[.slice (some ⟨g4, 0, none⟩) n n, .int .i64 s] 26)
  replace hG := hG.alloc (.cells #[.slice (some ⟨g4, 0, none⟩) n n, .int .i64 s] 26)
  clear hp_a hp_b hb0_a hb0_b
  obtain ⟨hp_a, hp_b, -, -⟩ := hp.two
  obtain ⟨hb0_a, hb0_b, -, -⟩ := hb0.two
  obtain ⟨hx_a, hx_b, -, -⟩ := hx.two
  clear hp_l hb0_l
  have hp_l := hp.lt
  have hb0_l := hb0.lt
  have hx_l := hx.lt
  go_wp2_with fail
  refine (implLastState_any _ _ _ xs s _ hG.holds HX.out (by omega)).mono ?_
  rintro e w5 ⟨A1, q1, rfl, hF1, hb⟩
  have hz5 : w4.heap.size + 1 ≤ w5.heap.size := by have := hb.size; simpa using this
  replace hF1 := hF1.more (lo' := w4.heap.size + 1) (hi' := w5.heap.size) (by simp) (Nat.le_refl _)
  replace ht := below_then ht hb ht.size
  replace hp := hp.below hb
  replace hF0 := hF0.below hb
  replace hb0 := hb0.below hb
  replace hG := hG.below hb
  replace hx := hx.below hb
  clear hb
  have hb1 := Whole.fresh w5 29 #[.slice A1 (lastBits xs n s).length q1, .bool (isParty xs s)]
  replace ht := ht.alloc ht.size (.cells #[.slice A1 (lastBits xs n s).length q1, .bool (isParty xs s)] 29)
  replace hp := hp.alloc (.cells #[.slice A1 (lastBits xs n s).length q1, .bool (isParty xs s)] 29)
  replace hF0 := hF0.alloc (.cells #[.slice A1 (lastBits xs n s).length q1, .bool (isParty xs s)] 29)
  replace hb0 := hb0.alloc (.cells #[.slice A1 (lastBits xs n s).length q1, .bool (isParty xs s)] 29)
  replace hG := hG.alloc (.cells #[.slice A1 (lastBits xs n s).length q1, .bool (isParty xs s)] 29)
  replace hx := hx.alloc (.cells #[.slice A1 (lastBits xs n s).length q1, .bool (isParty xs s)] 29)
  replace hF1 := hF1.alloc (.cells #[.slice A1 (lastBits xs n s).length q1, .bool (isParty xs s)] 29)
  clear hp_a hp_b hb0_a hb0_b hx_a hx_b
  obtain ⟨hp_a, hp_b, -, -⟩ := hp.two
  obtain ⟨hb0_a, hb0_b, -, -⟩ := hb0.two
  obtain ⟨hx_a, hx_b, -, -⟩ := hx.two
  obtain ⟨hb1_a, hb1_b, -, -⟩ := hb1.two
  clear hp_l hb0_l hx_l
  have hp_l := hp.lt
  have hb0_l := hb0.lt
  have hx_l := hx.lt
  have hb1_l := hb1.lt
  go_wp2_with fail
  refine (eqState_yes A1 A0 (lastBits xs n s).length q1 q0 (lastBits xs n s) (isParty xs s) _ hF1.holds hF0.holds rfl (by omega)).mono ?_
  rintro e w6 ⟨rfl, hb⟩
  replace ht := below_then ht hb ht.size
  replace hp := hp.below hb
  replace hF0 := hF0.below hb
  replace hb0 := hb0.below hb
  replace hG := hG.below hb
  replace hx := hx.below hb
  replace hF1 := hF1.below hb
  replace hb1 := hb1.below hb
  clear hb
  clear hp_a hp_b hb0_a hb0_b hx_a hx_b hb1_a hb1_b
  obtain ⟨hp_a, hp_b, -, -⟩ := hp.two
  obtain ⟨hx_a, hx_b, -, -⟩ := hx.two
  clear hp_l hb0_l hx_l hb1_l
  have hp_l := hp.lt
  have hb0_l := hb0.lt
  have hx_l := hx.lt
  have hb1_l := hb1.lt
  go_wp2_with fail
  go_region_held3 (fun w' => (w'.cell? ⟨w4.heap.size, 0, none⟩ = some (.slice (some ⟨g4, 0, none⟩) n n) ∧ w'.cell? ⟨w4.heap.size, 1, none⟩ = some (.int .i64 s)) ∧ (w'.cell? ⟨w.heap.size, 0, none⟩ = some (.slice A n c) ∧ w'.cell? ⟨w.heap.size, 1, none⟩ = some (.int .i64 s))) (go_keep)
    (first | (go_at_call 50; refine (toParty_own A n c xs s _ (by exact hA.below ht.drew) HX.out (by omega)).mono ?_; rintro e w7 ⟨g7, rfl, hg7, hw7, hb7⟩; obtain ⟨k0, k1, -, -⟩ := (hx.drew.below hb7).two; obtain ⟨k2, k3, -, -⟩ := (hp.drew.below hb7).two) | (go_at_call 51; refine (eqParty_yes _ _ n _ _ xs s _ (hG.drew.below hb7).holds hw7.holds HX.out (by omega)).mono ?_; rintro e w8 ⟨rfl, hb8⟩; obtain ⟨l0, l1, -, -⟩ := ((hx.drew.below hb7).below hb8).two; obtain ⟨l2, l3, -, -⟩ := ((hp.drew.below hb7).below hb8).two))
  replace ht := below_then (below_then ht.drew hb7 ht.size) hb8 (Nat.le_trans ht.size hb7.size)
  replace hp := (hp.drew.below hb7).below hb8
  replace hF0 := (hF0.drew.below hb7).below hb8
  replace hb0 := (hb0.drew.below hb7).below hb8
  replace hG := (hG.drew.below hb7).below hb8
  replace hx := (hx.drew.below hb7).below hb8
  replace hF1 := (hF1.drew.below hb7).below hb8
  replace hb1 := (hb1.drew.below hb7).below hb8
  clear hb7 hb8 hw7 hg7
  clear hp_a hp_b hx_a hx_b
  obtain ⟨hp_a, hp_b, -, -⟩ := hp.two
  obtain ⟨hb0_a, hb0_b, -, -⟩ := hb0.two
  obtain ⟨hx_a, hx_b, -, -⟩ := hx.two
  obtain ⟨hb1_a, hb1_b, -, -⟩ := hb1.two
  clear hp_l hb0_l hx_l hb1_l
  go_wp2_with fail
  refine (markParty_any (some ⟨g4, 0, none⟩) n n _ _ _ s 1 _ hG (by rw [nums_len]; exact HX.out) (by omega) (by omega) hn).mono ?_
  rintro e w9 ⟨rfl, hs, -⟩
  have hsz := ht.size
  replace ht := hs.below ht (by omega) hsz
  replace hp := hs.whole hp (by omega)
  replace hb0 := hs.whole hb0 (by omega)
  replace hb1 := hs.whole hb1 (by omega)
  replace hF0 := hs.fresh hF0 (by omega)
  replace hF1 := hs.fresh hF1 (by omega)
  clear hs hG hx hsz hx_a hx_b
  clear hp_a hp_b hb0_a hb0_b hb1_a hb1_b
  obtain ⟨hp_a, hp_b, -, -⟩ := hp.two
  obtain ⟨hb0_a, hb0_b, -, -⟩ := hb0.two
  obtain ⟨hb1_a, hb1_b, -, -⟩ := hb1.two
  have hk0 : (0 : Int) ≤ 1 + n := by omega
  go_wp2_with fail
  refine (eqState_yes A1 A0 (lastBits xs n s).length q1 q0 (lastBits xs n s) (isParty xs s) _ hF1.holds hF0.holds rfl (by omega)).mono ?_
  rintro e w10 ⟨rfl, hb⟩
  replace ht := below_then ht hb ht.size
  replace hp := hp.below hb
  replace hb0 := hb0.below hb
  replace hb1 := hb1.below hb
  replace hF0 := hF0.below hb
  replace hF1 := hF1.below hb
  clear hb
  clear hp_a hp_b hb0_a hb0_b hb1_a hb1_b
  obtain ⟨hp_a, hp_b, -, -⟩ := hp.two
  obtain ⟨hb0_a, hb0_b, -, -⟩ := hb0.two
  obtain ⟨hb1_a, hb1_b, -, -⟩ := hb1.two
  go_wp2_with fail
  refine (markState_any A1 (lastBits xs n s).length q1 _ _ _ (isParty xs s) 1 _ hF1 (by rw [bits_len]) (by omega) (by omega) hlen).mono ?_
  rintro e w11 ⟨rfl, hs, hF2⟩
  have hsz := ht.size
  replace ht := hs.below ht (by omega) hsz
  replace hp := hs.whole hp (by omega)
  replace hb0 := hs.whole hb0 (by omega)
  replace hb1 := hs.whole hb1 (by omega)
  replace hF0 := hs.fresh hF0 (by omega)
  clear hs hF1 hsz
  clear hp_a hp_b hb0_a hb0_b hb1_a hb1_b
  obtain ⟨hp_a, hp_b, -, -⟩ := hp.two
  obtain ⟨hb0_a, hb0_b, -, -⟩ := hb0.two
  obtain ⟨hb1_a, hb1_b, -, -⟩ := hb1.two
  go_wp2_with fail
  refine (heldState_any A1 (lastBits xs n s).length q1 (isParty xs s) 1 _ hF2.holds (by omega) (by omega) hlen).mono ?_
  rintro e w12 ⟨rfl, hb⟩
  replace ht := below_then ht hb ht.size
  have hm0 : (0 : Int) ≤ 1 + ((lastBits xs n s).length : Int) := by omega
  replace hp := hp.below hb
  replace hb0 := hb0.below hb
  replace hb1 := hb1.below hb
  replace hF0 := hF0.below hb
  replace hF2 := hF2.below hb
  clear hb
  clear hp_a hp_b hb0_a hb0_b hb1_a hb1_b
  obtain ⟨hp_a, hp_b, -, -⟩ := hp.two
  obtain ⟨hb0_a, hb0_b, -, -⟩ := hb0.two
  obtain ⟨hb1_a, hb1_b, -, -⟩ := hb1.two
  go_wp2_with fail
  refine (toParty_own A n c xs s _ (hA.below ht) HX.out (by omega)).mono ?_
  rintro e w13 ⟨g13, rfl, hg13, hw13, hb⟩
  replace ht := below_then ht hb ht.size
  replace hp := hp.below hb
  replace hb0 := hb0.below hb
  replace hb1 := hb1.below hb
  replace hF0 := hF0.below hb
  replace hF2 := hF2.below hb
  clear hb hg13
  clear hp_a hp_b hb0_a hb0_b hb1_a hb1_b
  obtain ⟨hp_a, hp_b, -, -⟩ := hp.two
  obtain ⟨hb0_a, hb0_b, -, -⟩ := hb0.two
  obtain ⟨hb1_a, hb1_b, -, -⟩ := hb1.two
  go_wp2_with fail
  refine (implLastState_any _ _ _ xs s _ hw13.holds HX.out (by omega)).mono ?_
  rintro e w14 ⟨A2, q2, rfl, hF3, hb⟩
  replace ht := below_then ht hb ht.size
  replace hp := hp.below hb
  replace hb0 := hb0.below hb
  replace hb1 := hb1.below hb
  replace hF0 := hF0.below hb
  replace hF2 := hF2.below hb
  clear hb hw13
  have hb2 := Whole.fresh w14 29 #[.slice A2 (lastBits xs n s).length q2, .bool (isParty xs s)]
  replace ht := ht.alloc ht.size (.cells #[.slice A2 (lastBits xs n s).length q2, .bool (isParty xs s)] 29)
  replace hp := hp.alloc (.cells #[.slice A2 (lastBits xs n s).length q2, .bool (isParty xs s)] 29)
  replace hb0 := hb0.alloc (.cells #[.slice A2 (lastBits xs n s).length q2, .bool (isParty xs s)] 29)
  replace hb1 := hb1.alloc (.cells #[.slice A2 (lastBits xs n s).length q2, .bool (isParty xs s)] 29)
  replace hF0 := hF0.alloc (.cells #[.slice A2 (lastBits xs n s).length q2, .bool (isParty xs s)] 29)
  replace hF2 := hF2.alloc (.cells #[.slice A2 (lastBits xs n s).length q2, .bool (isParty xs s)] 29)
  replace hF3 := hF3.alloc (.cells #[.slice A2 (lastBits xs n s).length q2, .bool (isParty xs s)] 29)
  clear hp_a hp_b hb0_a hb0_b hb1_a hb1_b
  obtain ⟨hp_a, hp_b, -, -⟩ := hp.two
  obtain ⟨hb0_a, hb0_b, -, -⟩ := hb0.two
  obtain ⟨hb1_a, hb1_b, -, -⟩ := hb1.two
  obtain ⟨hb2_a, hb2_b, -, -⟩ := hb2.two
  have hp_l := hp.lt
  have hb0_l := hb0.lt
  have hb1_l := hb1.lt
  have hb2_l := hb2.lt
  go_wp2_with fail
  refine (eqState_yes A2 A0 (lastBits xs n s).length q2 q0 (lastBits xs n s) (isParty xs s) _ hF3.holds hF0.holds rfl (by omega)).mono ?_
  rintro e w15 ⟨rfl, hb⟩
  replace ht := below_then ht hb ht.size
  replace hp := hp.below hb
  replace hb0 := hb0.below hb
  replace hb1 := hb1.below hb
  replace hF0 := hF0.below hb
  replace hF2 := hF2.below hb
  replace hF3 := hF3.below hb
  replace hb2 := hb2.below hb
  clear hb
  clear hp_a hp_b hb0_a hb0_b hb1_a hb1_b hb2_a hb2_b
  obtain ⟨hb1_a, hb1_b, -, -⟩ := hb1.two
  clear hp_l hb0_l hb1_l hb2_l
  go_wp2_with fail
  refine (heldState_any A1 (lastBits xs n s).length q1 (isParty xs s) 1 _ hF2.holds (by omega) (by omega) hlen).mono ?_
  rintro e w16 ⟨rfl, hb⟩
  replace ht := below_then ht hb ht.size
  go_wp2
  go_ret
  exact ⟨rfl, ht⟩

theorem lawLastState_all (A : Option Addr) (n c : Nat) (xs : List Int) (s : Int) (w : World) (hA : Holds w A (nums xs)) (hx : xs.length = n) (hn : n ≤ 9223372036854775807) :
    Calls Try.prog 8 #[.agg #[.slice A n c, .int .i64 s]] w fun e w' => e = .returned (.bool true) ∧ Below w.heap.size w w' := by
  by_cases h : n ≤ 1048576
  · exact lawLastState_small A n c xs s w hA hx h
  · exact lawLastState_big A n c s w hn (by omega)
end Go.Proofs.Ythhlfbcgmpappaa
