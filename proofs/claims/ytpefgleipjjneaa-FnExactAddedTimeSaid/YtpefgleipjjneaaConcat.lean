/-
  What is proved: contracts of slices.Grow at the nil list and of slices.Concat at lists of numbers. Conditions: at least one number, at most 1,048,576; the lists are read as they lie.
-/
import Derived.Test.YtpefgleipjjneaaOwn
import Derived.Test.YtpefgleipjjneaaPaPlay
import Derived.Lib.AppendZeros
namespace Go.Proofs.Ytpefgleipjjneaa
open Go.RowKit

set_option maxHeartbeats 1600000 in
set_option maxRecDepth 100000 in
theorem growNil_any (n : Nat) (w : World) (h0 : 0 < n) (hn : n ≤ 1048576) :
    Calls Try.prog 25 #[.slice none 0 0, .int .i64 n] w (OwnPost [] w) := by
  obtain ⟨i0, hi, hz0, hz1, hz2⟩ := info_parts info_int
  have hrun := fun W : World => Lib.run_append_nil_zeros (P := Try.prog) W 22 3 22 3 i0 (.int .i64 0) .i64 .i64 Try.underlying22 Try.underlying3 hi hz0 n h0 (by omega) (by omega) (by rw [hz2]; omega)
  have HR := Lib.hid hrun
  have hg0 : n ≤ grownCap w n 0 3 := grownCap_ge w n 0 _
  have hg1 : grownCap w n 0 3 ≤ maxLen := grownCap_le_maxLen w n 0 _ (by unfold maxLen; omega)
  have hg2 : (grownCap w n 0 3 : Int) ≤ 9223372036854775807 := by unfold maxLen at hg1; omega
  have hn0 : (0 : Int) < n := by omega
  have hn1 : ¬ (n : Int) < 0 := by omega
  have HG := Lib.hid hg1
  clear hi hz0 hz1 hz2 hrun hg1
  go_enter Try.func25, Try.ntmps25
  go_wp2_with (at_builtin; refine Lib.wpList_append_run _ rfl (.tmp 20) (.tmp 21) 22 3 rfl (.slice none 0 0) (.int .i64 n) rfl rfl _ _ (HR.out _) ?_)
  go_ret
  have hsz : (Builtin.zeroCells #[Value.int .i64 0] n ++ Builtin.zeroCells #[Value.int .i64 0] (grownCap w n 0 3 - n)).size = grownCap w n 0 3 * 1 := by
    rw [Array.size_append, size_zeroCells, size_zeroCells]
    simp
    omega
  exact ⟨_, _, rfl, (World.ownsRow_made (base := w.heap.size) (e := 3) (size := 1) w _ _ (Nat.le_refl _) HG.out hsz).drew, (below1 w _).drew⟩

/-- The first k lists one behind the other. -/
def joined (rs : List RowV) (k : Nat) : List Int := (rs.take k).flatMap RowV.xs
theorem joined_next {rs : List RowV} {k : Nat} (hk : k < rs.length) : joined rs (k + 1) = joined rs k ++ rs[k].xs := by
  rw [joined, joined, List.take_succ_eq_append_getElem hk, List.flatMap_append]
  simp
theorem joined_len {w : World} {A : Option Addr} {rs : List RowV} (h : Grid w A rs) : ∀ {k : Nat}, k ≤ rs.length → (joined rs k).length = part rs k
  | 0, _ => by simp [joined, part]
  | k + 1, hk => by
    have hkr : k < rs.length := by omega
    rw [joined_next hkr, List.length_append, joined_len h (by omega), part_next hkr, (h.2 _ (List.getElem_mem hkr)).2.1]

set_option maxHeartbeats 3200000 in
set_option maxRecDepth 100000 in
theorem concat_any (A : Option Addr) (n c : Nat) (rs : List RowV) (w : World) (hA : Grid w A rs) (hx : rs.length = n) (hn : n ≤ 1048576) (hp : 0 < part rs n) (hp2 : part rs n ≤ 1048576) (hnil : ∀ r ∈ rs, r.A = none → r.c = 0) :
    Calls Try.prog 16 #[.slice A n c] w (OwnPost (joined rs n) w) := by
  have HX := Lib.hid hx
  have HN := Lib.hid hnil
  have HP := Lib.hid (fun k (hk : k ≤ n) => part_le (rs := rs) (k := n) (by omega) hk)
  obtain ⟨i0, hi, hz0, hz1, hz2⟩ := info_parts info_int
  have HI := Lib.hid hi
  have HZ0 := Lib.hid hz0
  have HZ1 := Lib.hid hz1
  have HZ2 := Lib.hid hz2
  clear hx hnil hi hz0 hz1 hz2
  go_enter Try.func16, Try.ntmps16
  go_wp2
  go_loop [3, 11] (fun v i => ∃ k : Nat, k ≤ n ∧ i = .int .i64 k ∧ v = .int .i64 (part rs k)) (fun _ i => n - (intOf i).toNat)
  case atStart => exact ⟨0, Nat.zero_le _, rfl, by simp [part_zero]⟩
  case round =>
    obtain ⟨k, hk, rfl, rfl⟩ := hrel
    by_cases hlt : k < n
    · have hkr : k < rs.length := by have := HX.out; omega
      obtain ⟨b, o, rfl, hb, hc, hok⟩ := hA.look hkr
      have hpn := part_next hkr
      have hpl := HP.out (k + 1) (by omega)
      have hs0 : (0 : Int) ≤ (part rs k : Int) + rs[k].n := by omega
      have hs1 : (part rs k : Int) + rs[k].n ≤ 1048576 := by omega
      have hs2 : ¬ (part rs k : Int) + rs[k].n < 0 := by omega
      have HPN := Lib.hid hpn
      clear hok hpn
      go_wp2
      go_round
      case rel => exact ⟨k + 1, by omega, by go_num, by rw [HPN.out]; first | exact congrArg _ (by omega) | (simp; omega)⟩
      case measure => simp [intOf]; omega
    · obtain rfl : k = n := by omega
      go_wp2_with fail
      refine (growNil_any (part rs k) _ hp hp2).mono ?_
      rintro e w1 ⟨A1, c1, rfl, hown1, hb1⟩
      have HO1 := Lib.hid hown1
      have HB1 := Lib.hid hb1
      have hwz := hb1.size
      clear hown1 hb1
      go_wp2
      go_loopw [6, 27] (fun v i wr => ∃ (j : Nat) (E : Option Addr) (d : Nat), j ≤ k ∧ i = .int .i64 j ∧ v = .slice E (part rs j) d ∧ wr.ownsRow w.heap.size 3 1 (.slice E (part rs j) d) (part rs j) (nums (joined rs j)) ∧ Below w.heap.size w wr) (fun _ i _ => k - (intOf i).toNat)
      case atStart => exact ⟨0, A1, c1, Nat.zero_le _, rfl, rfl, HO1.out, HB1.out⟩
      case round =>
        obtain ⟨j, E, d, hj, rfl, rfl, hown, hb⟩ := hrel
        clear HO1 HB1
        by_cases hjk : j < k
        · have hjr : j < rs.length := by have := HX.out; omega
          obtain ⟨b, o, rfl, hbl, hc, hok⟩ := (hA.below hb).look hjr
          have hmem := List.getElem_mem hjr
          have hpn := part_next hjr
          have hjn := joined_next hjr
          have hpl := HP.out (j + 1) (by omega)
          have hnl := HN.out _ hmem
          generalize rs[j] = r at hc hok hpn hjn hnl
          obtain ⟨B1, n1, d1, x1⟩ := r
          obtain ⟨ok1, ok2, ok3⟩ := hok
          dsimp only at hc hpn hjn hnl ok1 ok2 ok3
          have HPN := Lib.hid hpn
          have HJN := Lib.hid hjn
          have HOWN := Lib.hid hown
          have HB := Lib.hid hb
          have hbs := hb.size
          have hn1 : part rs j + n1 ≤ 1048576 := by omega
          cases B1 with
          | none =>
            have h0 : x1 = [] := by
              rcases ok1 with h | ⟨b, o, h, -⟩
              · simpa [nums] using h
              · cases h
            obtain rfl : n1 = 0 := by rw [← ok2, h0]; rfl
            obtain rfl := hnl rfl
            subst h0
            clear ok1 ok2 hpn hjn hown hb
            go_wp2_with (at_builtin; refine wpList_append_own_none rfl (.tmp 31) (.tmp 32) 22 rfl w.heap.size 3 i0 1 Try.underlying22 HI.out _ (part rs j) _ rfl HOWN.out rfl ?_)
            go_roundw
            case rel => exact ⟨j + 1, E, d, by omega, by go_num, by rw [HPN.out]; rfl, by rw [HPN.out, HJN.out, List.append_nil]; exact HOWN.out, HB.out⟩
            case measure => simp [intOf]; omega
          | some ad =>
            have hnews : ∀ j u, (nums x1)[j]? = some u → wr.cell? (ad.add j) = some u := fun j u hu => by
              rcases ok1 with h | ⟨b, o, h, hb, hcell⟩
              · rw [h] at hu; simp at hu
              · obtain rfl : ad = ⟨b, o, none⟩ := by simpa using h
                rw [show (⟨b, o, none⟩ : Addr).add j = ⟨b, o + j, none⟩ from by unfold Addr.add; split <;> simp_all]
                exact hcell j u hu
            have HNEWS := Lib.hid hnews
            have HLEN : Hid ((nums x1).length = n1 * 1) := by show _ = _; rw [nums_len, ok2, Nat.mul_one]
            have HONE := Lib.hid (ints_one x1)
            clear ok1 ok2 hpn hjn hown hb hnews hnl
            go_wp2_with (at_builtin; refine wpList_append_own _ rfl (.tmp 31) (.tmp 32) 22 rfl w.heap.size 3 i0 (.int .i64 0) 1 8 Try.underlying22 HI.out HZ0.out HZ1.out HZ2.out rfl (by decide) (.slice E (part rs j) d) (part rs j) _ rfl HOWN.out ad n1 d1 (nums x1) rfl HLEN.out HNEWS.out HONE.out (by unfold maxLen; omega) (by omega) hbs ?_; intro v' w2 hown2 hg2 _)
            obtain ⟨E2, d2, rfl⟩ := own_shape hown2
            have HO2 := Lib.hid hown2
            have HE := Lib.hid (HB.out.grown hg2 hbs (fun kk hkk => (HOWN.out.lt kk hkk).1))
            clear hown2 hg2
            go_roundw
            case rel => exact ⟨j + 1, E2, d2, by omega, by go_num, by rw [HPN.out], by rw [HPN.out, HJN.out, show nums (joined rs j ++ x1) = nums (joined rs j) ++ nums x1 by simp [nums]]; exact HO2.out, HE.out⟩
            case measure => simp [intOf]; omega
        · obtain rfl : j = k := by omega
          go_wp2
          go_ret
          have hl := joined_len hA (k := j) (by have := HX.out; omega)
          exact ⟨E, d, by rw [hl]; rfl, by rw [hl]; exact hown, hb⟩
end Go.Proofs.Ytpefgleipjjneaa
