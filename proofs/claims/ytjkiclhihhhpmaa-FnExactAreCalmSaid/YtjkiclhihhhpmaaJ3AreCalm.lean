/-
  What is proved: contracts of calm places of isles, of the model and of the program. Conditions: there are isles; the lists are read as they lie.
  What is proved: contracts of the laws' own helpers for places: their size, their copy, their comparison, their marks. Conditions: the given lists are read as they lie; a copy is of at most 1,048,576 values.
  What is proved: the law FnExactAreCalm returns true at every argument, and leaves all that was there as it was. Conditions: the arguments are read as they lie.
-/
import Derived.Deep.RegionHeld3
import Derived.Test.YtjkiclhihhhpmaaJ2AreCalm
namespace Go.Proofs.Ytjkiclhihhhpmaa
open Go.RowKit

/-- Is a person at a place. -/
def atP (xs : List Int) (p i : Nat) : Bool := gd xs i == (p : Int)
/-- The same, of the first so many people. -/
def atN (xs : List Int) (p n i : Nat) : Bool := decide (i < n) && atP xs p i
theorem atN_next (xs : List Int) (p j : Nat) (h : j < 6) : (cells8 (atN xs p j)).setIfInBounds j (.bool (atP xs p j)) = cells8 (atN xs p (j + 1)) := by
  match j, h with
  | 0, _ => simp [cells8, atN]
  | 1, _ => simp [cells8, atN]
  | 2, _ => simp [cells8, atN]
  | 3, _ => simp [cells8, atN]
  | 4, _ => simp [cells8, atN]
  | 5, _ => simp [cells8, atN]
theorem calm_atN (k : Nat) (xs : List Int) (p : Nat) : calm k (atN xs p (2 * k)) = calm k (atP xs p) := calm_congr fun i hi => by simp [atN, hi]
theorem atN_zero (xs : List Int) (p : Nat) : cells8 (atN xs p 0) = cells8 (fun _ => false) := by simp [cells8, atN]
/-- Are the people of each of the first places calm. -/
def islTo (k : Nat) (xs : List Int) : Nat → Bool
  | 0 => true
  | p + 1 => islTo k xs p && calm k (atP xs p)
theorem islTo_no {k p : Nat} {xs : List Int} (h : calm k (atP xs p) = false) : ∀ {n : Nat}, p < n → islTo k xs n = false
  | 0, hn => absurd hn (by omega)
  | n + 1, hn => by
    rcases Nat.lt_succ_iff_lt_or_eq.1 hn with h1 | rfl
    · simp [islTo, islTo_no h h1]
    · simp [islTo, h]
theorem islTo_yes {k p : Nat} {xs : List Int} (h1 : islTo k xs p = true) (h2 : calm k (atP xs p) = true) : islTo k xs (p + 1) = true := by simp [islTo, h1, h2]
theorem mask_or {f : Nat → Bool} {k : Nat} (h : f k = true) : maskUp f k ||| 2 ^ k = maskUp f (k + 1) := by
  have hlt := maskUp_lt f k
  have h2 := Nat.two_pow_add_eq_or_of_lt (i := k) (b := maskUp f k) hlt 1
  rw [Nat.mul_one] at h2
  rw [Nat.or_comm, ← h2, maskUp, h]
  simp
  omega
theorem mask_no {f : Nat → Bool} {k : Nat} (h : f k = false) : maskUp f (k + 1) = maskUp f k := by rw [maskUp, h]; simp
theorem mask_62 (f : Nat → Bool) {k : Nat} (h : k ≤ 7) : maskUp f k < 9223372036854775808 := Nat.lt_of_lt_of_le (maskUp_lt f k) (Nat.le_trans (Nat.pow_le_pow_right (by omega) h) (by decide))
theorem calm_maskP (k : Nat) (xs : List Int) (p : Nat) : calm k (bitAt (maskUp (atP xs p) (2 * k))) = calm k (atP xs p) := calm_congr fun i hi => by rw [bit_maskUp]; simp [hi]

set_option maxHeartbeats 1600000 in
set_option maxRecDepth 100000 in
theorem isCalm_any (k d : Nat) (b : Int) (A : Option Addr) (n c : Nat) (xs : List Int) (s : Int) (w : World) (hA : Holds w A (nums xs)) (hx : xs.length = n) (hn : n = 2 * k) (hk : k ≤ 3) (hd : d ≤ 2) :
    Calls Try.prog 88 #[.agg #[.int .i64 k, .int .i64 b, .int .i64 d], .agg #[.slice A n c, .int .i64 s]] w fun e w' => e = .returned (.bool (islTo k xs (d + 2))) ∧ Below w.heap.size w w' := by
  subst hn
  have HX := Lib.hid hx
  have hA2 := (hA.alloc (.cells #[.int .i64 k, .int .i64 b, .int .i64 d] 59)).alloc (.cells #[.slice A (2 * k) c, .int .i64 s] 66)
  clear hx
  go_enter Try.func88, Try.ntmps88
  go_wp2
  go_loop [5] (fun i => ∃ p : Nat, p ≤ d + 2 ∧ i = .int .i64 p ∧ islTo k xs p = true) (fun i => d + 2 - (intOf i).toNat)
  case atStart => exact ⟨0, Nat.zero_le _, rfl, rfl⟩
  case round =>
    obtain ⟨p, hp, rfl, ht⟩ := hrel
    have HT := Lib.hid ht
    clear ht
    by_cases hlt : p < d + 2
    · have hd1 : decide ((p : Int) ≤ (d : Int) + 1) = true := by simp; omega
      have HQM := Lib.hid (calm_maskP k xs p)
      go_wp2
      go_loop [6, 19] (fun m i => ∃ j : Nat, j ≤ 2 * k ∧ i = .int .i64 j ∧ m = .int .i64 (maskUp (atP xs p) j)) (fun _ i => 2 * k - (intOf i).toNat)
      case atStart => exact ⟨0, Nat.zero_le _, rfl, rfl⟩
      case round =>
        obtain ⟨j, hj, rfl, rfl⟩ := hrel
        by_cases hjl : j < 2 * k
        · have hj7 : j ≤ 7 := by omega
          have hjx : j < xs.length := by have := HX.out; omega
          have hd2 : decide ((j : Int) < ((2 * k : Nat) : Int)) = true := by simp; omega
          have hd3 : decide ((j : Int) < 2 * (k : Int)) = true := by simp; omega
          obtain ⟨bb, o, rfl, hb, hc⟩ := hA2.look (k := j) (by simpa [nums] using hjx)
          simp only [nums, List.getElem_map] at hc
          have hgd : gd xs j = xs[j] := by simp [gd, hjx]
          cases he : atP xs p j
          · have hbe : (xs[j] == (p : Int)) = false := by rw [← hgd]; exact he
            have HN : Hid ((maskUp (atP xs p) (j + 1)) = maskUp (atP xs p) j) := mask_no he
            clear he hgd
            go_wp2
            go_round
            case rel => exact ⟨j + 1, by omega, by go_num, by rw [HN.out]⟩
            case measure => simp [intOf]; omega
          · have hbe : (xs[j] == (p : Int)) = true := by rw [← hgd]; exact he
            have HN : Hid (Go.bits .or .i64 (maskUp (atP xs p) j) (wrap64 ((2 : Int) ^ j)) = (maskUp (atP xs p) (j + 1) : Int)) := by
              show _ = _
              rw [wrap_pow hj7, bits_or_nat _ _ (mask_62 _ hj7) (pow_small hj7), mask_or he]
            clear he hgd
            go_wp2
            go_round
            case rel => exact ⟨j + 1, by omega, by go_num, by rw [HN.out]⟩
            case measure => simp [intOf]; omega
        · obtain rfl : j = 2 * k := by omega
          have hd2 : decide (((2 * k : Nat) : Int) < ((2 * k : Nat) : Int)) = false := by simp
          have hd3 : decide (((2 * k : Nat) : Int) < 2 * (k : Int)) = false := by simp
          have hd4 : decide (2 * (k : Int) < 2 * (k : Int)) = false := by simp
          cases hq : calm k (atP xs p)
          · have HN := Lib.hid (islTo_no hq hlt)
            have HQ := Lib.hid hq
            clear hq
            go_wp2_with fail
            refine (cuCalm_any k (maskUp (atP xs p) (2 * k)) _ (by omega)).mono ?_
            rintro e w1 ⟨rfl, rfl⟩
            rw [HQM.out, HQ.out]
            go_wp2
            go_ret
            exact ⟨ret_of (by rw [HN.out]; rfl), below2 w _ _⟩
          · have HN := Lib.hid (islTo_yes HT.out hq)
            have HQ := Lib.hid hq
            clear hq
            go_wp2_with fail
            refine (cuCalm_any k (maskUp (atP xs p) (2 * k)) _ (by omega)).mono ?_
            rintro e w1 ⟨rfl, rfl⟩
            rw [HQM.out, HQ.out]
            go_wp2
            go_round
            case rel => exact ⟨p + 1, by omega, by go_num, HN.out⟩
            case measure => simp [intOf]; omega
    · obtain rfl : p = d + 2 := by omega
      have hd1 : decide (((d + 2 : Nat) : Int) ≤ (d : Int) + 1) = false := by rw [decide_eq_false_iff_not]; omega
      go_wp2
      go_ret
      exact ⟨ret_of (by rw [HT.out]; rfl), below2 w _ _⟩

/-- Are places of isles calm. -/
def calmAt (a b d : Int) (xs : List Int) (s : Int) : Bool := isPl a b d xs s && islTo a.toNat xs (d.toNat + 2)
theorem calmAt_no {a b d : Int} {xs : List Int} {s : Int} (h : isPl a b d xs s = false) : calmAt a b d xs s = false := by simp [calmAt, h]
theorem calmAt_yes {k d : Nat} {b : Int} {xs : List Int} {s : Int} (h : isPl k b d xs s = true) : calmAt k b d xs s = islTo k xs (d + 2) := by simp [calmAt, h]

set_option maxHeartbeats 1600000 in
set_option maxRecDepth 100000 in
theorem specAreCalm_any (a b d : Int) (A : Option Addr) (n c : Nat) (xs : List Int) (s : Int) (w : World) (hA : Holds w A (nums xs)) (hx : xs.length = n) (hn : n ≤ 1048576) :
    Calls Try.prog 53 #[.agg #[.int .i64 a, .int .i64 b, .int .i64 d], .agg #[.slice A n c, .int .i64 s]] w fun e w' => e = .returned (.tuple #[.bool (calmAt a b d xs s), .bool (isPl a b d xs s)]) ∧ Below w.heap.size w w' := by
  have HX := Lib.hid hx
  cases hp : isPl a b d xs s
  · have HC := Lib.hid (calmAt_no hp)
    have HP := Lib.hid hp
    have hA2 := (hA.alloc (.cells #[.int .i64 a, .int .i64 b, .int .i64 d] 59)).alloc (.cells #[.slice A n c, .int .i64 s] 66)
    have ht := below2 w (.cells #[.int .i64 a, .int .i64 b, .int .i64 d] 59) (.cells #[.slice A n c, .int .i64 s] 66)
    clear hp hx
    go_enter Try.func53, Try.ntmps53
    go_wp2_with fail
    refine (isPlaces_any a b d A n c xs s _ (by exact hA2) HX.out hn).mono ?_
    rintro e w1 ⟨rfl, hb⟩
    rw [HP.out]
    replace ht := below_then ht hb ht.size
    clear hb
    go_wp2
    go_ret2
    exact ⟨by rw [HC.out]; rfl, ht⟩
  · obtain ⟨h1, h2, -, -⟩ := isPl_parts hp
    have hiff := isIsl_iff.1 h1
    obtain ⟨k, rfl⟩ := Int.eq_ofNat_of_zero_le (show 0 ≤ a by omega)
    obtain ⟨dn, rfl⟩ := Int.eq_ofNat_of_zero_le (show 0 ≤ d by omega)
    have HC := Lib.hid (calmAt_yes hp)
    have HP := Lib.hid hp
    have hA2 := (hA.alloc (.cells #[.int .i64 k, .int .i64 b, .int .i64 dn] 59)).alloc (.cells #[.slice A n c, .int .i64 s] 66)
    have hi := (Whole.fresh w 59 #[.int .i64 k, .int .i64 b, .int .i64 dn]).alloc (.cells #[.slice A n c, .int .i64 s] 66)
    have hpl := Whole.fresh (w.alloc (.cells #[.int .i64 k, .int .i64 b, .int .i64 dn] 59)) 66 #[.slice A n c, .int .i64 s]
    rw [World.size_alloc] at hpl
    have ht := below2 w (.cells #[.int .i64 k, .int .i64 b, .int .i64 dn] 59) (.cells #[.slice A n c, .int .i64 s] 66)
    have HN2 := Lib.hid (show n = 2 * k by omega)
    clear hp hx h1 h2
    go_enter Try.func53, Try.ntmps53
    go_wp2_with fail
    refine (isPlaces_any k b dn A n c xs s _ (by exact hA2) HX.out hn).mono ?_
    rintro e w1 ⟨rfl, hb⟩
    rw [HP.out]
    replace ht := below_then ht hb ht.size
    replace hA2 := hA2.below hb
    replace hi := hi.below hb
    replace hpl := hpl.below hb
    clear hb
    obtain ⟨c0, c1, c2⟩ := hi.cells3
    obtain ⟨p0, p1⟩ := hpl.cells2
    go_wp2_with fail
    refine (isCalm_any k dn b A n c xs s _ (by exact hA2) HX.out HN2.out (by omega) (by omega)).mono ?_
    rintro e w2 ⟨rfl, hb⟩
    replace ht := below_then ht hb ht.size
    clear hb c0 c1 c2 p0 p1
    go_wp2
    go_ret2
    exact ⟨by rw [HC.out]; rfl, ht⟩


set_option maxHeartbeats 1600000 in
set_option maxRecDepth 100000 in
theorem crowdAt_any (xs : List Int) (s : Int) (p n : Nat) (w : World) (hn : n ≤ 6) :
    Calls Try.prog 122 #[.agg (whOf xs s), .int .i64 p, .int .i64 n] w fun e w' => e = .returned (.agg (cells8 (atN xs p n))) ∧ Below w.heap.size w w' := by
  have h0 := ((Whole.fresh w 109 (whOf xs s)).alloc (.cells (cells8 (fun _ => false)) 87)).alloc (.cells (cells8 (atN xs p 0)) 87)
  have h1 := (Whole.fresh (w.alloc (.cells (whOf xs s) 109)) 87 (cells8 (fun _ => false))).alloc (.cells (cells8 (atN xs p 0)) 87)
  have h2 := Whole.fresh ((w.alloc (.cells (whOf xs s) 109)).alloc (.cells (cells8 (fun _ => false)) 87)) 87 (cells8 (atN xs p 0))
  have hb0 := below3 w (.cells (whOf xs s) 109) (.cells (cells8 (fun _ => false)) 87) (.cells (cells8 (atN xs p 0)) 87)
  simp only [World.size_alloc] at h1 h2
  rw [atN_zero] at h0 h1 hb0
  have h2' : Whole (((w.alloc (.cells (whOf xs s) 109)).alloc (.cells (cells8 (fun _ => false)) 87)).alloc (.cells (cells8 (fun _ => false)) 87)) (w.heap.size + 1 + 1) 87 (cells8 (atN xs p 0)) := by have h := h2; rw [atN_zero] at h ⊢; exact h
  clear h2
  unfold whOf at h0 h1 hb0 h2'
  unfold whOf
  go_enter Try.func122, Try.ntmps122
  go_wp2
  go_loopw [10] (fun i wr => ∃ j : Nat, j ≤ n ∧ i = .int .i64 j ∧ Whole wr w.heap.size 109 (whOf xs s) ∧ Whole wr (w.heap.size + 1) 87 (cells8 (fun _ => false)) ∧ Whole wr (w.heap.size + 1 + 1) 87 (cells8 (atN xs p j)) ∧ Below w.heap.size w wr) (fun i _ => n - (intOf i).toNat)
  case atStart => exact ⟨0, Nat.zero_le _, rfl, h0, h1, h2', hb0⟩
  case round =>
    clear h0 h1 h2' hb0
    obtain ⟨j, hj, rfl, h0, h1, h2, hb⟩ := hrel
    by_cases hlt : j < n
    · have hj6 : j < 6 := by omega
      have hji : (j : Int) < 6 := by omega
      have hj8 : (j : Int) < 8 := by omega
      have hcell := (h0.cell j).trans (wh_at xs s hj6)
      have hcell2 := (h2.cell j).trans (cells8_at (atN xs p j) (by omega : j < 8))
      have hfr := h2.open_ j
      have hset := h2.set_ j (.bool (atP xs p j))
      rw [atN_next xs p j hj6] at hset
      have hat : (gd xs j == (p : Int)) = atP xs p j := rfl
      have H0 := Lib.hid (h0.off (b := w.heap.size + 1 + 1) (o := j) (u := .bool (atP xs p j)) (by omega))
      have H1 := Lib.hid (h1.off (b := w.heap.size + 1 + 1) (o := j) (u := .bool (atP xs p j)) (by omega))
      have H2 := Lib.hid hset
      have HB := Lib.hid (below_set (b := w.heap.size + 1 + 1) (o := j) (u := .bool (atP xs p j)) hb (by omega))
      clear h0 h1 hset hb
      go_wp2
      go_roundw
      case rel => exact ⟨j + 1, by omega, by go_num, H0.out, H1.out, H2.out, HB.out⟩
      case measure => simp [intOf]; omega
    · obtain rfl : j = n := by omega
      go_wp2_with (first | (refine wpList_load_row rfl 87 (.tmp 7) rfl (w.heap.size + 1 + 1) rfl 87 (cells8 (atN xs p j)) (0, 0) _ h2 Try.underlying87 rfl size_crowd8 ?_) | (refine wpList_store_whole rfl 87 (.tmp 6) (.tmp 23) rfl (w.heap.size + 1) (cells8 (atN xs p j)) rfl rfl 87 (cells8 (fun _ => false)) h1 size_crowd8 rfl (cells8_one _) ?_; intro w2 hw2 ho2))
      have hb2 := ho2.below hb (by omega)
      obtain ⟨r0, r1, r2, r3, r4, r5, r6, r7⟩ := cells8_cells hw2
      refine bodyPost_ret (v := .agg (cells8 (atN xs p j))) (by simp [results, Try.results122, go_sem, r0, r1, r2, r3, r4, r5, r6, r7, cells8]) rfl ⟨rfl, hb2⟩

def islFnV (g1 g2 : Nat) : Value := .func (.func 121) #[] #[.pointer (some ⟨g1, 0, none⟩), .pointer (some ⟨g2, 0, none⟩)]
/-- What the closure that tells calm places has captured. -/
structure IslFn (w : World) (k : Nat) (b d : Int) (g1 g2 gQ : Nat) : Prop where
  b1 : Whole w g1 59 #[.int .i64 k, .int .i64 b, .int .i64 d]
  b2 : Whole w g2 135 #[groupFnV gQ]
  b3 : Whole w gQ 3 #[.int .i64 k]
theorem IslFn.below {w w' : World} {k : Nat} {b d : Int} {g1 g2 gQ : Nat} (h : IslFn w k b d g1 g2 gQ) (hb : Below w.heap.size w w') : IslFn w' k b d g1 g2 gQ := ⟨h.b1.below hb, h.b2.below hb, h.b3.below hb⟩
theorem IslFn.alloc {w : World} {k : Nat} {b d : Int} {g1 g2 gQ : Nat} (h : IslFn w k b d g1 g2 gQ) (o : Obj) : IslFn (w.alloc o) k b d g1 g2 gQ := ⟨h.b1.alloc o, h.b2.alloc o, h.b3.alloc o⟩
theorem IslFn.drew {w : World} {k : Nat} {b d : Int} {g1 g2 gQ : Nat} (h : IslFn w k b d g1 g2 gQ) : IslFn w.drew k b d g1 g2 gQ := ⟨h.b1, h.b2, h.b3⟩
def Wh7 (g : Nat) (xs : List Int) (s : Int) (w : World) : Prop :=
  w.cell? ⟨g, 0, none⟩ = some (.int .i64 (gd xs 0)) ∧ w.cell? ⟨g, 1, none⟩ = some (.int .i64 (gd xs 1)) ∧ w.cell? ⟨g, 2, none⟩ = some (.int .i64 (gd xs 2)) ∧ w.cell? ⟨g, 3, none⟩ = some (.int .i64 (gd xs 3)) ∧
    w.cell? ⟨g, 4, none⟩ = some (.int .i64 (gd xs 4)) ∧ w.cell? ⟨g, 5, none⟩ = some (.int .i64 (gd xs 5)) ∧ w.cell? ⟨g, 6, none⟩ = some (.int .i64 s)
def WhS (g : Nat) (xs : List Int) (s : Int) (g1 g2 : Nat) (x y z u : Value) (w : World) : Prop := Wh7 g xs s w ∧ Box3 g1 x y z w ∧ w.cell? ⟨g2, 0, none⟩ = some u
def Whs2 (g1 g : Nat) (xs : List Int) (s : Int) (x y z : Value) (w : World) : Prop := Wh7 g xs s w ∧ Box3 g1 x y z w
theorem whS_of {w : World} {g g1 g2 gQ k : Nat} {xs : List Int} {s b d : Int} (h : Whole w g 109 (whOf xs s)) (hF : IslFn w k b d g1 g2 gQ) : WhS g xs s g1 g2 (.int .i64 k) (.int .i64 b) (.int .i64 d) (groupFnV gQ) w := ⟨wh_cells h, hF.b1.cells3, hF.b2.cell 0⟩
theorem whs2_of {w : World} {g g1 : Nat} {xs : List Int} {s : Int} {x y z : Value} {t : TypeId} (h : Whole w g 109 (whOf xs s)) (hF : Whole w g1 t #[x, y, z]) : Whs2 g1 g xs s x y z w := ⟨wh_cells h, hF.cells3⟩

set_option maxHeartbeats 6400000 in
set_option maxRecDepth 100000 in
set_option linter.unusedSimpArgs false in
theorem islFn_any (k d g1 g2 gQ : Nat) (b : Int) (xs : List Int) (s : Int) (w : World) (hk : k ≤ 3) (hd : d ≤ 2) (hxl : xs.length = 2 * k) (hF0 : IslFn w k b d g1 g2 gQ) :
    Calls Try.prog 121 #[.agg (whOf xs s), .pointer (some ⟨g1, 0, none⟩), .pointer (some ⟨g2, 0, none⟩)] w fun e w' => e = .returned (.bool (islTo k xs (d + 2))) ∧ Below w.heap.size w w' := by
  have hW := Whole.fresh w 109 (whOf xs s)
  have hF := hF0.alloc (.cells (whOf xs s) 109)
  have ht := below1 w (.cells (whOf xs s) 109)
  clear hxl hF0
  unfold whOf at hW hF ht
  unfold whOf
  go_enter Try.func121, Try.ntmps121
  obtain ⟨c0, c1, c2⟩ := hF.b1.cells3
  go_wp2_with fail
  refine (otherBank_any k b d _ hk (by omega) (by omega)).mono ?_
  rintro e w1 ⟨rfl, hb⟩
  have HF0 := Lib.hid (hF.below hb)
  have HW0 := Lib.hid (hW.below hb)
  have HT0 := Lib.hid (below_then ht hb ht.size)
  clear hF hW ht hb c0 c1 c2
  go_wp2
  go_loopw [9] (fun i wr => ∃ p : Nat, p ≤ d + 2 ∧ i = .int .i64 p ∧ islTo k xs p = true ∧ IslFn wr k b d g1 g2 gQ ∧ Whole wr w.heap.size 109 (whOf xs s) ∧ Below w.heap.size w wr) (fun i _ => d + 2 - (intOf i).toNat)
  case atStart => exact ⟨0, Nat.zero_le _, rfl, rfl, HF0.out, HW0.out, HT0.out⟩
  case round =>
    clear HF0 HW0 HT0
    obtain ⟨p, hp, rfl, hTo, hF, hW, ht⟩ := hrel
    have HTO := Lib.hid hTo
    clear hTo
    by_cases hlt : p < d + 2
    · have hd1 : decide ((p : Int) < (d : Int) + 1 + 1) = true := by simp; omega
      cases hq : calm k (atP xs p)
      · have HN := Lib.hid (islTo_no hq hlt)
        have HQ := Lib.hid hq
        clear hq
        go_wp2_with fail
        · skip
          refine wp_region_held_drew (S := (WhS w.heap.size xs s g1 g2 (.int .i64 k) (.int .i64 b) (.int .i64 d) (groupFnV gQ))) (by kernel_rfl) (whS_of hW.drew hF.drew) (fun hHeld => ?_)
          replace hF := hF.drew
          replace hW := hW.drew
          replace ht := ht.drew
          refine wpAnyH_take (i := 0) (v := ?_) rfl (by kernel_rfl) (by kernel_rfl) (by kernel_rfl) (fun _ _ _ h => h) (Or.inl ⟨rfl, ?_⟩) hHeld ?_
          rotate_left
          · intro w' hS; obtain ⟨⟨s0, s1, s2, s3, s4, s5, s6⟩, ⟨s7, s8, s9⟩, s10⟩ := hS; go_simp <;> with_reducible rfl
          simp only [Act.put, List.getElem_toArray, List.getElem_cons_succ, List.getElem_cons_zero, List.setIfInBounds_toArray, List.set_cons_succ, List.set_cons_zero]
          refine wpAnyH_take (i := 1) (v := ?_) rfl (by kernel_rfl) (by kernel_rfl) (by kernel_rfl) (fun _ _ _ h => h) (Or.inl ⟨rfl, ?_⟩) hHeld ?_
          rotate_left
          · intro w' hS; obtain ⟨⟨s0, s1, s2, s3, s4, s5, s6⟩, ⟨s7, s8, s9⟩, s10⟩ := hS; go_simp <;> with_reducible rfl
          simp only [Act.put, List.getElem_toArray, List.getElem_cons_succ, List.getElem_cons_zero, List.setIfInBounds_toArray, List.set_cons_succ, List.set_cons_zero]
          refine wpAnyH_take (i := 2) (v := ?_) rfl (by kernel_rfl) (by kernel_rfl) (by kernel_rfl) (fun _ _ _ h => h) (Or.inl ⟨rfl, ?_⟩) hHeld ?_
          rotate_left
          · intro w' hS; obtain ⟨⟨s0, s1, s2, s3, s4, s5, s6⟩, ⟨s7, s8, s9⟩, s10⟩ := hS; go_simp <;> with_reducible rfl
          simp only [Act.put, List.getElem_toArray, List.getElem_cons_succ, List.getElem_cons_zero, List.setIfInBounds_toArray, List.set_cons_succ, List.set_cons_zero]
          refine wpAnyH_take (i := 3) (v := ?_) rfl (by kernel_rfl) (by kernel_rfl) (by kernel_rfl) (fun _ _ _ h => h) (Or.inl ⟨rfl, ?_⟩) hHeld ?_
          rotate_left
          · intro w' hS; obtain ⟨⟨s0, s1, s2, s3, s4, s5, s6⟩, ⟨s7, s8, s9⟩, s10⟩ := hS; go_simp <;> with_reducible rfl
          simp only [Act.put, List.getElem_toArray, List.getElem_cons_succ, List.getElem_cons_zero, List.setIfInBounds_toArray, List.set_cons_succ, List.set_cons_zero]
          refine wpAnyH_take (i := 4) (v := ?_) rfl (by kernel_rfl) (by kernel_rfl) (by kernel_rfl) (fun _ _ _ h => h) (Or.inl ⟨rfl, ?_⟩) hHeld ?_
          rotate_left
          · intro w' hS; obtain ⟨⟨s0, s1, s2, s3, s4, s5, s6⟩, ⟨s7, s8, s9⟩, s10⟩ := hS; go_simp <;> with_reducible rfl
          simp only [Act.put, List.getElem_toArray, List.getElem_cons_succ, List.getElem_cons_zero, List.setIfInBounds_toArray, List.set_cons_succ, List.set_cons_zero]
          refine wpAnyH_take (i := 5) (v := ?_) rfl (by kernel_rfl) (by kernel_rfl) (by kernel_rfl) (fun _ _ _ h => h) (Or.inl ⟨rfl, ?_⟩) hHeld ?_
          rotate_left
          · intro w' hS; obtain ⟨⟨s0, s1, s2, s3, s4, s5, s6⟩, ⟨s7, s8, s9⟩, s10⟩ := hS; go_simp <;> with_reducible rfl
          simp only [Act.put, List.getElem_toArray, List.getElem_cons_succ, List.getElem_cons_zero, List.setIfInBounds_toArray, List.set_cons_succ, List.set_cons_zero]
          refine wpAnyH_ready (rs := [6]) (by kernel_rfl) (by simp) (AllReadyH.cons rfl (fun K hK => ?_) AllReadyH.nil)
          go_simp
          have hw6 : IntKind.i64.wrap (2 * (k : Int)) = 2 * (k : Int) := IntWalk.i64_in _ (by omega)
          try rw [hw6]
          clear hw6
          rw [show 2 * (k : Int) = ((2 * k : Nat) : Int) by omega]
          refine (crowdAt_any xs s p (2 * k) _ (by omega)).mono ?_
          rintro e w4 ⟨rfl, hb⟩
          replace ht := below_then ht hb ht.size
          replace hF := hF.below hb
          replace hW := hW.below hb
          clear hb
          refine hK.out _ _ (whS_of hW hF) (fun hHeld => ?_)
          clear hK K
          try simp only [Act.put, List.getElem_toArray, List.getElem_cons_succ, List.getElem_cons_zero, List.setIfInBounds_toArray, List.set_cons_succ, List.set_cons_zero]
          refine wpAnyH_ready (rs := [7]) (by kernel_rfl) (by simp) (AllReadyH.cons rfl (fun K hK => ?_) AllReadyH.nil)
          go_simp
          refine (calmClosure_any k gQ (atN xs p (2 * k)) _ (by omega) (by exact hF.b3.cell 0) hF.b3.lt).mono ?_
          rintro e w5 ⟨rfl, hb⟩
          rw [calm_atN, HQ.out]
          replace ht := below_then ht hb ht.size
          replace hF := hF.below hb
          replace hW := hW.below hb
          clear hb
          refine hK.out _ _ (whS_of hW hF) (fun hHeld => ?_)
          clear hK K
          try simp only [Act.put, List.getElem_toArray, List.getElem_cons_succ, List.getElem_cons_zero, List.setIfInBounds_toArray, List.set_cons_succ, List.set_cons_zero]
          refine wpAnyH_take (i := 8) (v := ?_) rfl (by kernel_rfl) (by kernel_rfl) (by kernel_rfl) (fun _ _ _ h => h) (Or.inl ⟨rfl, ?_⟩) hHeld ?_
          rotate_left
          · intro w' hS; obtain ⟨⟨s0, s1, s2, s3, s4, s5, s6⟩, ⟨s7, s8, s9⟩, s10⟩ := hS; go_simp <;> with_reducible rfl
          simp only [Act.put, List.getElem_toArray, List.getElem_cons_succ, List.getElem_cons_zero, List.setIfInBounds_toArray, List.set_cons_succ, List.set_cons_zero]
          refine wpAnyH_done (by kernel_rfl) ?_ _
          clear hHeld
          obtain ⟨⟨s0, s1, s2, s3, s4, s5, s6⟩, ⟨s7, s8, s9⟩, s10⟩ := whS_of hW hF
          go_wp2
          go_ret
          exact ⟨ret_of (by rw [HN.out]; rfl), ht⟩
      · have HN := Lib.hid (islTo_yes HTO.out hq)
        have HQ := Lib.hid hq
        clear hq
        go_wp2_with fail
        · skip
          refine wp_region_held_drew (S := (WhS w.heap.size xs s g1 g2 (.int .i64 k) (.int .i64 b) (.int .i64 d) (groupFnV gQ))) (by kernel_rfl) (whS_of hW.drew hF.drew) (fun hHeld => ?_)
          replace hF := hF.drew
          replace hW := hW.drew
          replace ht := ht.drew
          refine wpAnyH_take (i := 0) (v := ?_) rfl (by kernel_rfl) (by kernel_rfl) (by kernel_rfl) (fun _ _ _ h => h) (Or.inl ⟨rfl, ?_⟩) hHeld ?_
          rotate_left
          · intro w' hS; obtain ⟨⟨s0, s1, s2, s3, s4, s5, s6⟩, ⟨s7, s8, s9⟩, s10⟩ := hS; go_simp <;> with_reducible rfl
          simp only [Act.put, List.getElem_toArray, List.getElem_cons_succ, List.getElem_cons_zero, List.setIfInBounds_toArray, List.set_cons_succ, List.set_cons_zero]
          refine wpAnyH_take (i := 1) (v := ?_) rfl (by kernel_rfl) (by kernel_rfl) (by kernel_rfl) (fun _ _ _ h => h) (Or.inl ⟨rfl, ?_⟩) hHeld ?_
          rotate_left
          · intro w' hS; obtain ⟨⟨s0, s1, s2, s3, s4, s5, s6⟩, ⟨s7, s8, s9⟩, s10⟩ := hS; go_simp <;> with_reducible rfl
          simp only [Act.put, List.getElem_toArray, List.getElem_cons_succ, List.getElem_cons_zero, List.setIfInBounds_toArray, List.set_cons_succ, List.set_cons_zero]
          refine wpAnyH_take (i := 2) (v := ?_) rfl (by kernel_rfl) (by kernel_rfl) (by kernel_rfl) (fun _ _ _ h => h) (Or.inl ⟨rfl, ?_⟩) hHeld ?_
          rotate_left
          · intro w' hS; obtain ⟨⟨s0, s1, s2, s3, s4, s5, s6⟩, ⟨s7, s8, s9⟩, s10⟩ := hS; go_simp <;> with_reducible rfl
          simp only [Act.put, List.getElem_toArray, List.getElem_cons_succ, List.getElem_cons_zero, List.setIfInBounds_toArray, List.set_cons_succ, List.set_cons_zero]
          refine wpAnyH_take (i := 3) (v := ?_) rfl (by kernel_rfl) (by kernel_rfl) (by kernel_rfl) (fun _ _ _ h => h) (Or.inl ⟨rfl, ?_⟩) hHeld ?_
          rotate_left
          · intro w' hS; obtain ⟨⟨s0, s1, s2, s3, s4, s5, s6⟩, ⟨s7, s8, s9⟩, s10⟩ := hS; go_simp <;> with_reducible rfl
          simp only [Act.put, List.getElem_toArray, List.getElem_cons_succ, List.getElem_cons_zero, List.setIfInBounds_toArray, List.set_cons_succ, List.set_cons_zero]
          refine wpAnyH_take (i := 4) (v := ?_) rfl (by kernel_rfl) (by kernel_rfl) (by kernel_rfl) (fun _ _ _ h => h) (Or.inl ⟨rfl, ?_⟩) hHeld ?_
          rotate_left
          · intro w' hS; obtain ⟨⟨s0, s1, s2, s3, s4, s5, s6⟩, ⟨s7, s8, s9⟩, s10⟩ := hS; go_simp <;> with_reducible rfl
          simp only [Act.put, List.getElem_toArray, List.getElem_cons_succ, List.getElem_cons_zero, List.setIfInBounds_toArray, List.set_cons_succ, List.set_cons_zero]
          refine wpAnyH_take (i := 5) (v := ?_) rfl (by kernel_rfl) (by kernel_rfl) (by kernel_rfl) (fun _ _ _ h => h) (Or.inl ⟨rfl, ?_⟩) hHeld ?_
          rotate_left
          · intro w' hS; obtain ⟨⟨s0, s1, s2, s3, s4, s5, s6⟩, ⟨s7, s8, s9⟩, s10⟩ := hS; go_simp <;> with_reducible rfl
          simp only [Act.put, List.getElem_toArray, List.getElem_cons_succ, List.getElem_cons_zero, List.setIfInBounds_toArray, List.set_cons_succ, List.set_cons_zero]
          refine wpAnyH_ready (rs := [6]) (by kernel_rfl) (by simp) (AllReadyH.cons rfl (fun K hK => ?_) AllReadyH.nil)
          go_simp
          have hw6 : IntKind.i64.wrap (2 * (k : Int)) = 2 * (k : Int) := IntWalk.i64_in _ (by omega)
          try rw [hw6]
          clear hw6
          rw [show 2 * (k : Int) = ((2 * k : Nat) : Int) by omega]
          refine (crowdAt_any xs s p (2 * k) _ (by omega)).mono ?_
          rintro e w4 ⟨rfl, hb⟩
          replace ht := below_then ht hb ht.size
          replace hF := hF.below hb
          replace hW := hW.below hb
          clear hb
          refine hK.out _ _ (whS_of hW hF) (fun hHeld => ?_)
          clear hK K
          try simp only [Act.put, List.getElem_toArray, List.getElem_cons_succ, List.getElem_cons_zero, List.setIfInBounds_toArray, List.set_cons_succ, List.set_cons_zero]
          refine wpAnyH_ready (rs := [7]) (by kernel_rfl) (by simp) (AllReadyH.cons rfl (fun K hK => ?_) AllReadyH.nil)
          go_simp
          refine (calmClosure_any k gQ (atN xs p (2 * k)) _ (by omega) (by exact hF.b3.cell 0) hF.b3.lt).mono ?_
          rintro e w5 ⟨rfl, hb⟩
          rw [calm_atN, HQ.out]
          replace ht := below_then ht hb ht.size
          replace hF := hF.below hb
          replace hW := hW.below hb
          clear hb
          refine hK.out _ _ (whS_of hW hF) (fun hHeld => ?_)
          clear hK K
          try simp only [Act.put, List.getElem_toArray, List.getElem_cons_succ, List.getElem_cons_zero, List.setIfInBounds_toArray, List.set_cons_succ, List.set_cons_zero]
          refine wpAnyH_take (i := 8) (v := ?_) rfl (by kernel_rfl) (by kernel_rfl) (by kernel_rfl) (fun _ _ _ h => h) (Or.inl ⟨rfl, ?_⟩) hHeld ?_
          rotate_left
          · intro w' hS; obtain ⟨⟨s0, s1, s2, s3, s4, s5, s6⟩, ⟨s7, s8, s9⟩, s10⟩ := hS; go_simp <;> with_reducible rfl
          simp only [Act.put, List.getElem_toArray, List.getElem_cons_succ, List.getElem_cons_zero, List.setIfInBounds_toArray, List.set_cons_succ, List.set_cons_zero]
          refine wpAnyH_done (by kernel_rfl) ?_ _
          clear hHeld
          have HF := Lib.hid hF
          have HW := Lib.hid hW
          have HT := Lib.hid ht
          clear hF hW ht
          go_wp2
          go_roundw
          case rel => exact ⟨p + 1, by omega, by go_num, HN.out, HF.out, HW.out, HT.out⟩
          case measure => simp [intOf]; omega
    · obtain rfl : p = d + 2 := by omega
      have hd1 : decide (((d + 2 : Nat) : Int) < (d : Int) + 1 + 1) = false := by rw [decide_eq_false_iff_not]; omega
      have HT := Lib.hid ht
      clear hF hW ht
      go_wp2
      go_ret
      exact ⟨ret_of (by rw [HTO.out]; rfl), HT.out⟩

set_option maxHeartbeats 1600000 in
theorem calmIsles_any (k : Nat) (b d : Int) (w : World) (hk : k ≤ 3) :
    Calls Try.prog 89 #[.agg #[.int .i64 k, .int .i64 b, .int .i64 d]] w fun e w' => ∃ g1 g2 gQ : Nat, e = .returned (islFnV g1 g2) ∧ IslFn w' k b d g1 g2 gQ ∧ Below w.heap.size w w' := by
  have hmf : ∀ (fn : Fn) (first cap : Array Value) (w : World), (Instr.makeFunc fn first cap).run Try.prog w = .ok (.func fn first cap) w := fun _ _ _ _ => rfl
  have h1 := Whole.fresh w 59 #[.int .i64 k, .int .i64 b, .int .i64 d]
  have ht := below1 w (.cells #[.int .i64 k, .int .i64 b, .int .i64 d] 59)
  go_enter Try.func89, Try.ntmps89
  go_wp2_with fail
  refine (calmGroups_any _ _).mono ?_
  rintro e w2 ⟨rfl, rfl⟩
  have h3 := Whole.fresh (w.alloc (.cells #[.int .i64 k, .int .i64 b, .int .i64 d] 59)) 3 #[.int .i64 k]
  replace h1 := h1.alloc (.cells #[.int .i64 k] 3)
  replace ht := ht.alloc ht.size (.cells #[.int .i64 k] 3)
  obtain ⟨gq, hgq⟩ : ∃ g : Nat, g = (w.alloc (.cells #[.int .i64 k, .int .i64 b, .int .i64 d] 59)).heap.size := ⟨_, rfl⟩
  rw [← hgq] at h3
  generalize World.alloc (w.alloc (.cells #[.int .i64 k, .int .i64 b, .int .i64 d] 59)) (.cells #[.int .i64 k] 3) = wa at h1 h3 ht ⊢
  rw [← hgq]
  have h1' := h1.alloc (.cells #[groupFnV gq] 135)
  have h2' := Whole.fresh wa 135 #[groupFnV gq]
  have h3' := h3.alloc (.cells #[groupFnV gq] 135)
  have ht' := ht.alloc ht.size (.cells #[groupFnV gq] 135)
  clear hgq h1 h3 ht
  go_wp2
  go_ret
  exact ⟨w.heap.size, wa.heap.size, gq, rfl, ⟨h1', h2', h3'⟩, ht'⟩

set_option maxHeartbeats 6400000 in
set_option maxRecDepth 100000 in
set_option linter.unusedSimpArgs false in
theorem implAreCalm_any (a b d : Int) (A : Option Addr) (n c : Nat) (xs : List Int) (s : Int) (w : World) (hA : Holds w A (nums xs)) (hx : xs.length = n) (hn : n ≤ 1048576) :
    Calls Try.prog 54 #[.agg #[.int .i64 a, .int .i64 b, .int .i64 d], .agg #[.slice A n c, .int .i64 s]] w fun e w' => e = .returned (.tuple #[.bool (calmAt a b d xs s), .bool (isPl a b d xs s)]) ∧ Below w.heap.size w w' := by
  have HX := Lib.hid hx
  have hA2 := (hA.alloc (.cells #[.int .i64 a, .int .i64 b, .int .i64 d] 59)).alloc (.cells #[.slice A n c, .int .i64 s] 66)
  have hi := (Whole.fresh w 59 #[.int .i64 a, .int .i64 b, .int .i64 d]).alloc (.cells #[.slice A n c, .int .i64 s] 66)
  have ht := below2 w (.cells #[.int .i64 a, .int .i64 b, .int .i64 d] 59) (.cells #[.slice A n c, .int .i64 s] 66)
  go_enter Try.func54, Try.ntmps54
  go_wp2_with fail
  refine (whereaboutsOf_any a b d A n c xs s _ (by exact hA2) HX.out hn).mono ?_
  rintro e w1 ⟨⟨hp, rfl⟩ | ⟨hp, rfl⟩, hb⟩
  · obtain ⟨h1, h2, -, -⟩ := isPl_parts hp
    have hiff := isIsl_iff.1 h1
    obtain ⟨k, rfl⟩ := Int.eq_ofNat_of_zero_le (show 0 ≤ a by omega)
    obtain ⟨dn, rfl⟩ := Int.eq_ofNat_of_zero_le (show 0 ≤ d by omega)
    have hk : k ≤ 3 := by omega
    have hdn : dn ≤ 2 := by omega
    have HXL := Lib.hid (show xs.length = 2 * k by omega)
    have HC : Hid (Value.tuple #[.bool (calmAt k b dn xs s), .bool (isPl k b dn xs s)] = .tuple #[.bool (islTo k xs (dn + 2)), .bool true]) := by show _ = _; rw [calmAt_yes hp, hp]
    replace ht := below_then ht hb ht.size
    replace hi := hi.below hb
    have hW := Whole.fresh w1 109 (whOf xs s)
    replace hi := hi.alloc (.cells (whOf xs s) 109)
    replace ht := ht.alloc ht.size (.cells (whOf xs s) 109)
    obtain ⟨gw, hgw⟩ : ∃ g : Nat, g = w1.heap.size := ⟨_, rfl⟩
    rw [← hgw] at hW
    have HGW := Lib.hid hgw
    clear hgw
    clear hp h1 h2 hb hA2 hx
    unfold whOf at hW hi ht
    unfold whOf
    go_wp2_with fail
    rw [← HGW.out]
    refine wp_region_held_drew (S := (Whs2 w.heap.size gw xs s (.int .i64 k) (.int .i64 b) (.int .i64 dn))) (by kernel_rfl) (whs2_of hW.drew hi.drew) (fun hHeld => ?_)
    replace hi := hi.drew
    replace hW := hW.drew
    replace ht := ht.drew
    refine wpAnyH_take (i := 0) (v := ?_) rfl (by kernel_rfl) (by kernel_rfl) (by kernel_rfl) (fun _ _ _ h => h) (Or.inl ⟨rfl, ?_⟩) hHeld ?_
    rotate_left
    · intro w' hS; obtain ⟨⟨s0, s1, s2, s3, s4, s5, s6⟩, s7, s8, s9⟩ := hS; go_simp <;> with_reducible rfl
    simp only [Act.put, List.getElem_toArray, List.getElem_cons_succ, List.getElem_cons_zero, List.setIfInBounds_toArray, List.set_cons_succ, List.set_cons_zero]
    refine wpAnyH_take (i := 1) (v := ?_) rfl (by kernel_rfl) (by kernel_rfl) (by kernel_rfl) (fun _ _ _ h => h) (Or.inl ⟨rfl, ?_⟩) hHeld ?_
    rotate_left
    · intro w' hS; obtain ⟨⟨s0, s1, s2, s3, s4, s5, s6⟩, s7, s8, s9⟩ := hS; go_simp <;> with_reducible rfl
    simp only [Act.put, List.getElem_toArray, List.getElem_cons_succ, List.getElem_cons_zero, List.setIfInBounds_toArray, List.set_cons_succ, List.set_cons_zero]
    refine wpAnyH_take (i := 2) (v := ?_) rfl (by kernel_rfl) (by kernel_rfl) (by kernel_rfl) (fun _ _ _ h => h) (Or.inl ⟨rfl, ?_⟩) hHeld ?_
    rotate_left
    · intro w' hS; obtain ⟨⟨s0, s1, s2, s3, s4, s5, s6⟩, s7, s8, s9⟩ := hS; go_simp <;> with_reducible rfl
    simp only [Act.put, List.getElem_toArray, List.getElem_cons_succ, List.getElem_cons_zero, List.setIfInBounds_toArray, List.set_cons_succ, List.set_cons_zero]
    refine wpAnyH_take (i := 4) (v := ?_) rfl (by kernel_rfl) (by kernel_rfl) (by kernel_rfl) (fun _ _ _ h => h) (Or.inl ⟨rfl, ?_⟩) hHeld ?_
    rotate_left
    · intro w' hS; obtain ⟨⟨s0, s1, s2, s3, s4, s5, s6⟩, s7, s8, s9⟩ := hS; go_simp <;> with_reducible rfl
    simp only [Act.put, List.getElem_toArray, List.getElem_cons_succ, List.getElem_cons_zero, List.setIfInBounds_toArray, List.set_cons_succ, List.set_cons_zero]
    refine wpAnyH_take (i := 7) (v := ?_) rfl (by kernel_rfl) (by kernel_rfl) (by kernel_rfl) (fun _ _ _ h => h) (Or.inl ⟨rfl, ?_⟩) hHeld ?_
    rotate_left
    · intro w' hS; obtain ⟨⟨s0, s1, s2, s3, s4, s5, s6⟩, s7, s8, s9⟩ := hS; go_simp <;> with_reducible rfl
    simp only [Act.put, List.getElem_toArray, List.getElem_cons_succ, List.getElem_cons_zero, List.setIfInBounds_toArray, List.set_cons_succ, List.set_cons_zero]
    refine wpAnyH_ready (rs := [3]) (by kernel_rfl) (by simp) (AllReadyH.cons rfl (fun K hK => ?_) AllReadyH.nil)
    go_simp
    refine (calmIsles_any k b dn _ (by omega)).mono ?_
    rintro e w3 ⟨g1, g2, gQ, rfl, hF, hb⟩
    replace ht := below_then ht hb ht.size
    replace hi := hi.below hb
    replace hW := hW.below hb
    clear hb
    unfold islFnV
    refine hK.out _ _ (whs2_of hW hi) (fun hHeld => ?_)
    clear hK K
    try simp only [Act.put, List.getElem_toArray, List.getElem_cons_succ, List.getElem_cons_zero, List.setIfInBounds_toArray, List.set_cons_succ, List.set_cons_zero]
    refine wpAnyH_ready (rs := [5]) (by kernel_rfl) (by simp) (AllReadyH.cons rfl (fun K hK => ?_) AllReadyH.nil)
    go_simp
    refine (islFn_any k dn g1 g2 gQ b xs s _ hk hdn HXL.out hF).mono ?_
    rintro e w4 ⟨rfl, hb⟩
    replace ht := below_then ht hb ht.size
    replace hi := hi.below hb
    replace hW := hW.below hb
    replace hF := hF.below hb
    clear hb
    refine hK.out _ _ (whs2_of hW hi) (fun hHeld => ?_)
    clear hK K
    try simp only [Act.put, List.getElem_toArray, List.getElem_cons_succ, List.getElem_cons_zero, List.setIfInBounds_toArray, List.set_cons_succ, List.set_cons_zero]
    refine wpAnyH_take (i := 6) (v := ?_) rfl (by kernel_rfl) (by kernel_rfl) (by kernel_rfl) (fun _ _ _ h => h) (Or.inl ⟨rfl, ?_⟩) hHeld ?_
    rotate_left
    · intro w' hS; obtain ⟨⟨s0, s1, s2, s3, s4, s5, s6⟩, s7, s8, s9⟩ := hS; go_simp <;> with_reducible rfl
    simp only [Act.put, List.getElem_toArray, List.getElem_cons_succ, List.getElem_cons_zero, List.setIfInBounds_toArray, List.set_cons_succ, List.set_cons_zero]
    refine wpAnyH_take (i := 8) (v := ?_) rfl (by kernel_rfl) (by kernel_rfl) (by kernel_rfl) (fun _ _ _ h => h) (Or.inl ⟨rfl, ?_⟩) hHeld ?_
    rotate_left
    · intro w' hS; obtain ⟨⟨s0, s1, s2, s3, s4, s5, s6⟩, s7, s8, s9⟩ := hS; go_simp <;> with_reducible rfl
    simp only [Act.put, List.getElem_toArray, List.getElem_cons_succ, List.getElem_cons_zero, List.setIfInBounds_toArray, List.set_cons_succ, List.set_cons_zero]
    refine wpAnyH_take (i := 9) (v := ?_) rfl (by kernel_rfl) (by kernel_rfl) (by kernel_rfl) (fun _ _ _ h => h) (Or.inl ⟨rfl, ?_⟩) hHeld ?_
    rotate_left
    · intro w' hS; obtain ⟨⟨s0, s1, s2, s3, s4, s5, s6⟩, s7, s8, s9⟩ := hS; go_simp <;> with_reducible rfl
    simp only [Act.put, List.getElem_toArray, List.getElem_cons_succ, List.getElem_cons_zero, List.setIfInBounds_toArray, List.set_cons_succ, List.set_cons_zero]
    refine wpAnyH_done (by kernel_rfl) ?_ _
    clear hHeld
    clear hi hW hF
    go_wp2
    go_ret2
    exact ⟨by rw [HC.out]; rfl, ht⟩
  · have HC : Hid (Value.tuple #[.bool (calmAt a b d xs s), .bool (isPl a b d xs s)] = .tuple #[.bool false, .bool false]) := by show _ = _; rw [calmAt_no hp, hp]
    replace ht := below_then ht hb ht.size
    replace hi := hi.below hb
    have hW := Whole.fresh w1 109 (whOf [] 0)
    replace hi := hi.alloc (.cells (whOf [] 0) 109)
    replace ht := ht.alloc ht.size (.cells (whOf [] 0) 109)
    obtain ⟨gw, hgw⟩ : ∃ g : Nat, g = w1.heap.size := ⟨_, rfl⟩
    rw [← hgw] at hW
    have HGW := Lib.hid hgw
    clear hgw
    clear hp hb hA2 hx
    unfold whOf at hW hi ht
    unfold whOf
    go_wp2_with fail
    rw [← HGW.out]
    refine wp_region_held_drew (S := (Whs2 w.heap.size gw [] 0 (.int .i64 a) (.int .i64 b) (.int .i64 d))) (by kernel_rfl) (whs2_of hW.drew hi.drew) (fun hHeld => ?_)
    replace hi := hi.drew
    replace hW := hW.drew
    replace ht := ht.drew
    refine wpAnyH_take (i := 0) (v := ?_) rfl (by kernel_rfl) (by kernel_rfl) (by kernel_rfl) (fun _ _ _ h => h) (Or.inl ⟨rfl, ?_⟩) hHeld ?_
    rotate_left
    · intro w' hS; obtain ⟨⟨s0, s1, s2, s3, s4, s5, s6⟩, s7, s8, s9⟩ := hS; go_simp <;> with_reducible rfl
    simp only [Act.put, List.getElem_toArray, List.getElem_cons_succ, List.getElem_cons_zero, List.setIfInBounds_toArray, List.set_cons_succ, List.set_cons_zero]
    refine wpAnyH_take (i := 1) (v := ?_) rfl (by kernel_rfl) (by kernel_rfl) (by kernel_rfl) (fun _ _ _ h => h) (Or.inl ⟨rfl, ?_⟩) hHeld ?_
    rotate_left
    · intro w' hS; obtain ⟨⟨s0, s1, s2, s3, s4, s5, s6⟩, s7, s8, s9⟩ := hS; go_simp <;> with_reducible rfl
    simp only [Act.put, List.getElem_toArray, List.getElem_cons_succ, List.getElem_cons_zero, List.setIfInBounds_toArray, List.set_cons_succ, List.set_cons_zero]
    refine wpAnyH_take (i := 2) (v := undef) rfl (by kernel_rfl) (by kernel_rfl) (by kernel_rfl) (fun _ _ _ h => h) (Or.inr ⟨by simp [Region.wanted, yielded], rfl⟩) hHeld ?_
    simp only [Act.put, List.getElem_toArray, List.getElem_cons_succ, List.getElem_cons_zero, List.setIfInBounds_toArray, List.set_cons_succ, List.set_cons_zero]
    refine wpAnyH_take (i := 3) (v := undef) rfl (by kernel_rfl) (by kernel_rfl) (by kernel_rfl) (fun _ _ _ h => h) (Or.inr ⟨by simp [Region.wanted, yielded], rfl⟩) hHeld ?_
    simp only [Act.put, List.getElem_toArray, List.getElem_cons_succ, List.getElem_cons_zero, List.setIfInBounds_toArray, List.set_cons_succ, List.set_cons_zero]
    refine wpAnyH_take (i := 4) (v := undef) rfl (by kernel_rfl) (by kernel_rfl) (by kernel_rfl) (fun _ _ _ h => h) (Or.inr ⟨by simp [Region.wanted, yielded], rfl⟩) hHeld ?_
    simp only [Act.put, List.getElem_toArray, List.getElem_cons_succ, List.getElem_cons_zero, List.setIfInBounds_toArray, List.set_cons_succ, List.set_cons_zero]
    refine wpAnyH_take (i := 5) (v := undef) rfl (by kernel_rfl) (by kernel_rfl) (by kernel_rfl) (fun _ _ _ h => h) (Or.inr ⟨by simp [Region.wanted, yielded], rfl⟩) hHeld ?_
    simp only [Act.put, List.getElem_toArray, List.getElem_cons_succ, List.getElem_cons_zero, List.setIfInBounds_toArray, List.set_cons_succ, List.set_cons_zero]
    refine wpAnyH_take (i := 6) (v := ?_) rfl (by kernel_rfl) (by kernel_rfl) (by kernel_rfl) (fun _ _ _ h => h) (Or.inl ⟨rfl, ?_⟩) hHeld ?_
    rotate_left
    · intro w' hS; obtain ⟨⟨s0, s1, s2, s3, s4, s5, s6⟩, s7, s8, s9⟩ := hS; go_simp <;> with_reducible rfl
    simp only [Act.put, List.getElem_toArray, List.getElem_cons_succ, List.getElem_cons_zero, List.setIfInBounds_toArray, List.set_cons_succ, List.set_cons_zero]
    refine wpAnyH_take (i := 7) (v := ?_) rfl (by kernel_rfl) (by kernel_rfl) (by kernel_rfl) (fun _ _ _ h => h) (Or.inl ⟨rfl, ?_⟩) hHeld ?_
    rotate_left
    · intro w' hS; obtain ⟨⟨s0, s1, s2, s3, s4, s5, s6⟩, s7, s8, s9⟩ := hS; go_simp <;> with_reducible rfl
    simp only [Act.put, List.getElem_toArray, List.getElem_cons_succ, List.getElem_cons_zero, List.setIfInBounds_toArray, List.set_cons_succ, List.set_cons_zero]
    refine wpAnyH_take (i := 8) (v := ?_) rfl (by kernel_rfl) (by kernel_rfl) (by kernel_rfl) (fun _ _ _ h => h) (Or.inl ⟨rfl, ?_⟩) hHeld ?_
    rotate_left
    · intro w' hS; obtain ⟨⟨s0, s1, s2, s3, s4, s5, s6⟩, s7, s8, s9⟩ := hS; go_simp <;> with_reducible rfl
    simp only [Act.put, List.getElem_toArray, List.getElem_cons_succ, List.getElem_cons_zero, List.setIfInBounds_toArray, List.set_cons_succ, List.set_cons_zero]
    refine wpAnyH_take (i := 9) (v := ?_) rfl (by kernel_rfl) (by kernel_rfl) (by kernel_rfl) (fun _ _ _ h => h) (Or.inl ⟨rfl, ?_⟩) hHeld ?_
    rotate_left
    · intro w' hS; obtain ⟨⟨s0, s1, s2, s3, s4, s5, s6⟩, s7, s8, s9⟩ := hS; go_simp <;> with_reducible rfl
    simp only [Act.put, List.getElem_toArray, List.getElem_cons_succ, List.getElem_cons_zero, List.setIfInBounds_toArray, List.set_cons_succ, List.set_cons_zero]
    refine wpAnyH_done (by kernel_rfl) ?_ _
    clear hHeld
    clear hi hW
    go_wp2
    go_ret2
    exact ⟨by rw [HC.out]; rfl, ht⟩
end Go.Proofs.Ytjkiclhihhhpmaa

namespace Go.Proofs.Ytjkiclhihhhpmaa
open Go.RowKit

set_option maxHeartbeats 400000 in
theorem szPlaces_any (A : Option Addr) (n c : Nat) (s l : Int) (w : World) (hn : n ≤ 9223372036854775807) (h0 : 0 ≤ l) (h1 : l ≤ 1048576) :
    Calls Try.prog 42 #[.agg #[.slice A n c, .int .i64 s], .int .i64 l] w fun e w' => e = .returned (.int .i64 (if l < n then -1 else l - n)) ∧ Below w.heap.size w w' := by
  by_cases h : l < n
  all_goals
    go_enter Try.func42, Try.ntmps42
    go_wp2_with fail
    refine (szIntS_any A n c l _ hn h0 h1).mono ?_
    rintro e w' ⟨rfl, rfl⟩
    first | rw [if_pos (by assumption)] | rw [if_neg (by omega)]
    go_wp2
    go_ret
    exact ⟨rfl, (Below.refl _ _).alloc (Nat.le_refl _) _⟩

set_option maxHeartbeats 400000 in
theorem toPlaces_any (A : Option Addr) (n c : Nat) (xs : List Int) (s : Int) (w : World) (hA : Holds w A (nums xs)) (hx : xs.length = n) (hn : n ≤ 1048576) :
    Calls Try.prog 44 #[.agg #[.slice A n c, .int .i64 s]] w fun e w' => e = .returned (.agg #[.slice (some ⟨w.heap.size + 1 + 1 + 1, 0, none⟩) n n, .int .i64 s]) ∧ Whole w' (w.heap.size + 1 + 1 + 1) 3 (nums xs).toArray ∧ Below w.heap.size w w' := by
  have HX := Lib.hid hx
  clear hx
  go_enter Try.func44, Try.ntmps44
  go_wp2_with fail
  refine (toIntS_any A n c xs _ (((hA.alloc _).alloc _).alloc _) HX.out hn).mono ?_
  rintro e w1 ⟨rfl, hw, hb, hs⟩
  obtain ⟨hc, hf⟩ := kept hb
  have HS := Lib.hid hs
  have hz : w.heap.size + 3 < w1.heap.size := by have := HS.out; simp at this; omega
  clear hs
  have hw' : Whole w1 (w.heap.size + 1 + 1 + 1) 3 (nums xs).toArray := by simpa using hw
  have hb' : Below w.heap.size w w1 := below_then (below3 w _ _ _) hb (by simp; omega)
  clear hw
  go_wp2
  refine bodyPost_ret (v := .agg #[.slice (some ⟨w.heap.size + 1 + 1 + 1, 0, none⟩) n n, .int .i64 s]) (by simp [results, Try.results44, go_sem, hc]) rfl ⟨rfl, ?_, ?_⟩
  · exact (((hw'.off (by omega)).off (by omega)).off (by omega)).off (by omega)
  · exact below_set (below_set (below_set (below_set hb' (by omega)) (by omega)) (by omega)) (by omega)

/-- The same, the new row's block told by a letter. -/
theorem toPlaces_own (A : Option Addr) (n c : Nat) (xs : List Int) (s : Int) (w : World) (hA : Holds w A (nums xs)) (hx : xs.length = n) (hn : n ≤ 1048576) :
    Calls Try.prog 44 #[.agg #[.slice A n c, .int .i64 s]] w fun e w' => ∃ g, e = .returned (.agg #[.slice (some ⟨g, 0, none⟩) n n, .int .i64 s]) ∧ w.heap.size ≤ g ∧ Whole w' g 3 (nums xs).toArray ∧ Below w.heap.size w w' :=
  (toPlaces_any A n c xs s w hA hx hn).mono fun _ _ ⟨he, hw, hb⟩ => ⟨_, he, by omega, hw, hb⟩

set_option maxHeartbeats 400000 in
theorem eqPlaces_any (A B : Option Addr) (n m c d : Nat) (xs ys : List Int) (s t : Int) (w : World) (hA : Holds w A (nums xs)) (hB : Holds w B (nums ys)) (hx : xs.length = n) (hy : ys.length = m)
    (hn : n ≤ 9223372036854775807) (hm : m ≤ 9223372036854775807) :
    Calls Try.prog 46 #[.agg #[.slice A n c, .int .i64 s], .agg #[.slice B m d, .int .i64 t]] w fun e w' => e = .returned (.bool (sameInts xs ys && s == t)) ∧ Below w.heap.size w w' := by
  have HX := Lib.hid hx
  have HY := Lib.hid hy
  clear hx hy
  rcases (inferInstance : Decidable (s = t)) with hst | hst
  all_goals
    have hst1 : (s != t) = !decide (s = t) := by simp [bne, hst]
    simp only [hst, decide_false, decide_true, Bool.not_false, Bool.not_true] at hst1
    cases he : sameInts xs ys
  all_goals
    have HE := Lib.hid he
    clear he
    go_enter Try.func46, Try.ntmps46
    go_wp2_with fail
    refine (eqIntS_any A B n m c d xs ys _ ((hA.alloc _).alloc _) ((hB.alloc _).alloc _) HX.out HY.out hn hm).mono ?_
    rintro e w1 ⟨rfl, k, rfl⟩
    rw [HE.out]
    go_wp2
    go_ret
    exact ⟨ret_of (by simp_all), below_draws (below2 w _ _) k⟩

/-- Two parties of one reading are the same. -/
theorem eqPlaces_yes (A B : Option Addr) (n c d : Nat) (xs : List Int) (s : Int) (w : World) (hA : Holds w A (nums xs)) (hB : Holds w B (nums xs)) (hx : xs.length = n) (hn : n ≤ 9223372036854775807) :
    Calls Try.prog 46 #[.agg #[.slice A n c, .int .i64 s], .agg #[.slice B n d, .int .i64 s]] w fun e w' => e = .returned (.bool true) ∧ Below w.heap.size w w' :=
  (eqPlaces_any A B n n c d xs xs s s w hA hB hx hx hn hn).mono fun _ _ ⟨he, hb⟩ => ⟨by rw [he, sameInts_yes rfl]; simp, hb⟩

set_option maxHeartbeats 400000 in
theorem markPlaces_any (A : Option Addr) (n c lo hi : Nat) (xs : List Value) (s q : Int) (w : World) (hf : Fresh w lo hi 3 A xs) (hx : xs.length = n) (h0 : 0 ≤ q) (h1 : q ≤ 4611686018427387904) (hn : n ≤ 1048576) :
    Calls Try.prog 49 #[.agg #[.slice A n c, .int .i64 s], .int .i64 q] w fun e w' => e = .returned (.int .i64 (q + n)) ∧ Span lo hi w w' ∧ Fresh w' lo hi 3 A (nums (marksI q n)) := by
  have HX := Lib.hid hx
  clear hx
  go_enter Try.func49, Try.ntmps49
  go_wp2_with fail
  refine (markIntS_any A n c lo hi xs q _ (hf.alloc _) HX.out h0 h1 hn).mono ?_
  rintro e w1 ⟨rfl, hs, hf1⟩
  go_wp2
  go_ret
  exact ⟨rfl, (Span.of_below (below1 w _) lo hi).trans hs, hf1⟩

set_option maxHeartbeats 400000 in
theorem heldPlaces_any (A : Option Addr) (n c : Nat) (s q : Int) (w : World) (hA : Holds w A (nums (marksI q n))) (h0 : 0 ≤ q) (h1 : q ≤ 4611686018427387904) (hn : n ≤ 1048576) :
    Calls Try.prog 50 #[.agg #[.slice A n c, .int .i64 s], .int .i64 q] w fun e w' => e = .returned (.int .i64 (q + n)) ∧ Below w.heap.size w w' := by
  have hq0 : (0 : Int) ≤ q + n := by omega
  go_enter Try.func50, Try.ntmps50
  go_wp2_with fail
  refine (heldIntS_any A n c q _ (hA.alloc _) h0 h1 hn).mono ?_
  rintro e w1 ⟨rfl, rfl⟩
  go_wp2
  go_ret
  exact ⟨rfl, below1 w _⟩
end Go.Proofs.Ytjkiclhihhhpmaa

namespace Go.Proofs.Ytjkiclhihhhpmaa
open Go.RowKit

set_option maxHeartbeats 800000 in
set_option linter.unusedVariables false in
theorem lawAreCalm_big0 (k0 : Int) (k1 : Int) (k2 : Int) (A0 : Option Addr) (n0 c0 : Nat) (x0 : List Int) (k3 : Int) (w : World) (h0 : Holds w A0 (nums x0)) (hx0 : x0.length = n0) (hn0 : n0 ≤ 9223372036854775807)  (hbig : 1048576 - (n0 : Int) < 0) :
    Calls Try.prog 12 #[.agg #[.int .i64 k0, .int .i64 k1, .int .i64 k2], .agg #[.slice A0 n0 c0, .int .i64 k3]] w fun e w' => e = .returned (.bool true) ∧ Below w.heap.size w w' := by
  have hb0 := ((Whole.fresh w 57 #[.int .i64 k0, .int .i64 k1, .int .i64 k2]).alloc (.cells #[.slice A0 n0 c0, .int .i64 k3] 63))
  have hb1 := (Whole.fresh (w.alloc (.cells #[.int .i64 k0, .int .i64 k1, .int .i64 k2] 57)) 63 #[.slice A0 n0 c0, .int .i64 k3])
  simp only [World.size_alloc] at hb1
  have ht := below2 w (.cells #[.int .i64 k0, .int .i64 k1, .int .i64 k2] 57) (.cells #[.slice A0 n0 c0, .int .i64 k3] 63)
  have HX0 := Lib.hid hx0
  clear hx0
  obtain ⟨hb0_0, hb0_1, hb0_2⟩ := hb0.cells3
  have hb0_l := hb0.lt
  obtain ⟨hb1_0, hb1_1⟩ := hb1.cells2
  have hb1_l := hb1.lt
  go_enter Try.func12, Try.ntmps12
  go_wp2_with fail
  refine (szPlaces_any A0 n0 c0 k3 (1048576) _ (by omega) (by omega) (by omega)).mono ?_
  rintro e v1 ⟨rfl, hb⟩
  rw [if_pos (by omega)]
  have hz1 : w.heap.size + 1 + 1 ≤ v1.heap.size := by have := hb.size; simpa using this
  replace ht := below_then ht hb ht.size
  replace hb0 := hb0.below hb
  replace hb1 := hb1.below hb
  clear hb
  clear hb0_0 hb0_1 hb0_2 hb0_l hb1_0 hb1_1 hb1_l
  go_wp2
  go_ret
  exact ⟨rfl, ht⟩

set_option maxHeartbeats 12800000 in
set_option maxRecDepth 100000 in
set_option linter.unusedSimpArgs false in
set_option linter.unusedVariables false in
theorem lawAreCalm_small (k0 : Int) (k1 : Int) (k2 : Int) (A0 : Option Addr) (n0 c0 : Nat) (x0 : List Int) (k3 : Int) (w : World) (h0 : Holds w A0 (nums x0)) (hx0 : x0.length = n0) (hn0 : n0 ≤ 9223372036854775807) (g0 : 0 ≤ 1048576 - (n0 : Int)) :
    Calls Try.prog 12 #[.agg #[.int .i64 k0, .int .i64 k1, .int .i64 k2], .agg #[.slice A0 n0 c0, .int .i64 k3]] w fun e w' => e = .returned (.bool true) ∧ Below w.heap.size w w' := by
  have hb0 := ((Whole.fresh w 57 #[.int .i64 k0, .int .i64 k1, .int .i64 k2]).alloc (.cells #[.slice A0 n0 c0, .int .i64 k3] 63))
  have hb1 := (Whole.fresh (w.alloc (.cells #[.int .i64 k0, .int .i64 k1, .int .i64 k2] 57)) 63 #[.slice A0 n0 c0, .int .i64 k3])
  simp only [World.size_alloc] at hb1
  have ht := below2 w (.cells #[.int .i64 k0, .int .i64 k1, .int .i64 k2] 57) (.cells #[.slice A0 n0 c0, .int .i64 k3] 63)
  have HX0 := Lib.hid hx0
  clear hx0
  obtain ⟨hb0_0, hb0_1, hb0_2⟩ := hb0.cells3
  have hb0_l := hb0.lt
  obtain ⟨hb1_0, hb1_1⟩ := hb1.cells2
  have hb1_l := hb1.lt
  go_enter Try.func12, Try.ntmps12
  -- region 2
  go_wp2_with fail
  refine (szPlaces_any A0 n0 c0 k3 (1048576) _ (by omega) (by omega) (by omega)).mono ?_
  rintro e v1 ⟨rfl, hb⟩
  rw [if_neg (by omega)]
  have hz1 : w.heap.size + 1 + 1 ≤ v1.heap.size := by have := hb.size; simpa using this
  replace ht := below_then ht hb ht.size
  replace hb0 := hb0.below hb
  replace hb1 := hb1.below hb
  clear hb
  clear hb0_0 hb0_1 hb0_2 hb0_l hb1_0 hb1_1 hb1_l
  obtain ⟨hb0_0, hb0_1, hb0_2⟩ := hb0.cells3
  have hb0_l := hb0.lt
  obtain ⟨hb1_0, hb1_1⟩ := hb1.cells2
  have hb1_l := hb1.lt
  -- region 5
  clear hb0_0 hb0_1 hb0_2 hb0_l hb1_0 hb1_1 hb1_l
  go_wp2_with fail
  refine wp_region_held_drew (S := (fun w' => w'.cell? ⟨w.heap.size, 0, none⟩ = some (.int .i64 k0) ∧ w'.cell? ⟨w.heap.size, 1, none⟩ = some (.int .i64 k1) ∧ w'.cell? ⟨w.heap.size, 2, none⟩ = some (.int .i64 k2) ∧ w'.cell? ⟨w.heap.size + 1, 0, none⟩ = some (.slice A0 n0 c0) ∧ w'.cell? ⟨w.heap.size + 1, 1, none⟩ = some (.int .i64 k3))) (by kernel_rfl) ⟨hb0.drew.cell 0, hb0.drew.cell 1, hb0.drew.cell 2, hb1.drew.cell 0, hb1.drew.cell 1⟩ (fun hHeld => ?_)
  replace ht := ht.drew
  replace hb0 := hb0.drew
  replace hb1 := hb1.drew
  refine wpAnyH_take (i := 0) (v := ?_) rfl (by kernel_rfl) (by kernel_rfl) (by kernel_rfl) (fun _ _ _ h => h) (Or.inl ⟨rfl, ?_⟩) hHeld ?_
  rotate_left
  · intro w' hS; obtain ⟨s0, s1, s2, s3, s4⟩ := hS; go_simp <;> with_reducible rfl
  simp only [Act.put, List.getElem_toArray, List.getElem_cons_succ, List.getElem_cons_zero, List.setIfInBounds_toArray, List.set_cons_succ, List.set_cons_zero]
  refine wpAnyH_take (i := 2) (v := ?_) rfl (by kernel_rfl) (by kernel_rfl) (by kernel_rfl) (fun _ _ _ h => h) (Or.inl ⟨rfl, ?_⟩) hHeld ?_
  rotate_left
  · intro w' hS; obtain ⟨s0, s1, s2, s3, s4⟩ := hS; go_simp <;> with_reducible rfl
  simp only [Act.put, List.getElem_toArray, List.getElem_cons_succ, List.getElem_cons_zero, List.setIfInBounds_toArray, List.set_cons_succ, List.set_cons_zero]
  refine wpAnyH_ready (rs := [1]) (by kernel_rfl) (by simp) (AllReadyH.cons rfl (fun K hK => ?_) AllReadyH.nil)
  go_simp
  refine (toIsles_any k0 k1 k2 _).mono ?_
  rintro e v2 ⟨rfl, hb⟩
  have hz2 : v1.heap.size ≤ v2.heap.size := by have := hb.size; simpa using this
  replace ht := below_then ht hb ht.size
  replace hb0 := hb0.below hb
  replace hb1 := hb1.below hb
  clear hb
  refine hK.out _ _ ⟨hb0.cell 0, hb0.cell 1, hb0.cell 2, hb1.cell 0, hb1.cell 1⟩ (fun hHeld => ?_)
  clear hK K
  try simp only [Act.put, List.getElem_toArray, List.getElem_cons_succ, List.getElem_cons_zero, List.setIfInBounds_toArray, List.set_cons_succ, List.set_cons_zero]
  refine wpAnyH_ready (rs := [3]) (by kernel_rfl) (by simp) (AllReadyH.cons rfl (fun K hK => ?_) AllReadyH.nil)
  go_simp
  refine (toPlaces_own A0 n0 c0 x0 k3 _ (by exact h0.below ht) HX0.out (by omega)).mono ?_
  rintro e v3 ⟨gp0, rfl, hgp0, hwp0, hb⟩
  have hz3 : v2.heap.size ≤ v3.heap.size := by have := hb.size; simpa using this
  replace ht := below_then ht hb ht.size
  replace hb0 := hb0.below hb
  replace hb1 := hb1.below hb
  have hp0 := Fresh.of_whole (lo := v2.heap.size) (hi := v3.heap.size) hwp0 (by simpa using hgp0) hwp0.lt
  clear hgp0 hwp0
  clear hb
  refine hK.out _ _ ⟨hb0.cell 0, hb0.cell 1, hb0.cell 2, hb1.cell 0, hb1.cell 1⟩ (fun hHeld => ?_)
  clear hK K
  try simp only [Act.put, List.getElem_toArray, List.getElem_cons_succ, List.getElem_cons_zero, List.setIfInBounds_toArray, List.set_cons_succ, List.set_cons_zero]
  refine wpAnyH_ready (rs := [4]) (by kernel_rfl) (by simp) (AllReadyH.cons rfl (fun K hK => ?_) AllReadyH.nil)
  go_simp
  refine (specAreCalm_any k0 k1 k2 _ n0 _ x0 k3 _ (by exact hp0.holds) HX0.out (by omega)).mono ?_
  rintro e v4 ⟨rfl, hb⟩
  have hz4 : v3.heap.size ≤ v4.heap.size := by have := hb.size; simpa using this
  replace ht := below_then ht hb ht.size
  replace hb0 := hb0.below hb
  replace hb1 := hb1.below hb
  replace hp0 := hp0.below hb
  clear hb
  clear hp0
  refine hK.out _ _ ⟨hb0.cell 0, hb0.cell 1, hb0.cell 2, hb1.cell 0, hb1.cell 1⟩ (fun hHeld => ?_)
  clear hK K
  try simp only [Act.put, List.getElem_toArray, List.getElem_cons_succ, List.getElem_cons_zero, List.setIfInBounds_toArray, List.set_cons_succ, List.set_cons_zero]
  refine wpAnyH_take (i := 5) (v := ?_) rfl (by kernel_rfl) (by kernel_rfl) (by kernel_rfl) (fun _ _ _ h => h) (Or.inl ⟨rfl, ?_⟩) hHeld ?_
  rotate_left
  · intro w' hS; obtain ⟨s0, s1, s2, s3, s4⟩ := hS; go_simp <;> with_reducible rfl
  simp only [Act.put, List.getElem_toArray, List.getElem_cons_succ, List.getElem_cons_zero, List.setIfInBounds_toArray, List.set_cons_succ, List.set_cons_zero]
  refine wpAnyH_take (i := 6) (v := ?_) rfl (by kernel_rfl) (by kernel_rfl) (by kernel_rfl) (fun _ _ _ h => h) (Or.inl ⟨rfl, ?_⟩) hHeld ?_
  rotate_left
  · intro w' hS; obtain ⟨s0, s1, s2, s3, s4⟩ := hS; go_simp <;> with_reducible rfl
  simp only [Act.put, List.getElem_toArray, List.getElem_cons_succ, List.getElem_cons_zero, List.setIfInBounds_toArray, List.set_cons_succ, List.set_cons_zero]
  refine wpAnyH_take (i := 7) (v := ?_) rfl (by kernel_rfl) (by kernel_rfl) (by kernel_rfl) (fun _ _ _ h => h) (Or.inl ⟨rfl, ?_⟩) hHeld ?_
  rotate_left
  · intro w' hS; obtain ⟨s0, s1, s2, s3, s4⟩ := hS; go_simp <;> with_reducible rfl
  simp only [Act.put, List.getElem_toArray, List.getElem_cons_succ, List.getElem_cons_zero, List.setIfInBounds_toArray, List.set_cons_succ, List.set_cons_zero]
  refine wpAnyH_take (i := 8) (v := ?_) rfl (by kernel_rfl) (by kernel_rfl) (by kernel_rfl) (fun _ _ _ h => h) (Or.inl ⟨rfl, ?_⟩) hHeld ?_
  rotate_left
  · intro w' hS; obtain ⟨s0, s1, s2, s3, s4⟩ := hS; go_simp <;> with_reducible rfl
  simp only [Act.put, List.getElem_toArray, List.getElem_cons_succ, List.getElem_cons_zero, List.setIfInBounds_toArray, List.set_cons_succ, List.set_cons_zero]
  refine wpAnyH_take (i := 9) (v := ?_) rfl (by kernel_rfl) (by kernel_rfl) (by kernel_rfl) (fun _ _ _ h => h) (Or.inl ⟨rfl, ?_⟩) hHeld ?_
  rotate_left
  · intro w' hS; obtain ⟨s0, s1, s2, s3, s4⟩ := hS; go_simp <;> with_reducible rfl
  simp only [Act.put, List.getElem_toArray, List.getElem_cons_succ, List.getElem_cons_zero, List.setIfInBounds_toArray, List.set_cons_succ, List.set_cons_zero]
  refine wpAnyH_done (by kernel_rfl) ?_ _
  clear hHeld
  obtain ⟨hb0_0, hb0_1, hb0_2⟩ := hb0.cells3
  have hb0_l := hb0.lt
  obtain ⟨hb1_0, hb1_1⟩ := hb1.cells2
  have hb1_l := hb1.lt
  -- region 6
  go_wp2_with fail
  refine (toPlaces_own A0 n0 c0 x0 k3 _ (by exact h0.below ht) HX0.out (by omega)).mono ?_
  rintro e v5 ⟨gx0, rfl, hgx0, hwx0, hb⟩
  have hz5 : v4.heap.size ≤ v5.heap.size := by have := hb.size; simpa using this
  replace ht := below_then ht hb ht.size
  replace hb0 := hb0.below hb
  replace hb1 := hb1.below hb
  have hx0 := Fresh.of_whole (lo := v4.heap.size) (hi := v5.heap.size) hwx0 (by simpa using hgx0) hwx0.lt
  clear hgx0 hwx0
  clear hb
  have hx91 := Whole.fresh v5 66 #[.slice (some ⟨gx0, 0, none⟩) n0 n0, .int .i64 k3]
  replace ht := ht.alloc ht.size (.cells #[.slice (some ⟨gx0, 0, none⟩) n0 n0, .int .i64 k3] 66)
  replace hb0 := hb0.alloc (.cells #[.slice (some ⟨gx0, 0, none⟩) n0 n0, .int .i64 k3] 66)
  replace hb1 := hb1.alloc (.cells #[.slice (some ⟨gx0, 0, none⟩) n0 n0, .int .i64 k3] 66)
  replace hx0 := hx0.alloc (.cells #[.slice (some ⟨gx0, 0, none⟩) n0 n0, .int .i64 k3] 66)
  clear hb0_0 hb0_1 hb0_2 hb0_l hb1_0 hb1_1 hb1_l
  obtain ⟨hb0_0, hb0_1, hb0_2⟩ := hb0.cells3
  have hb0_l := hb0.lt
  obtain ⟨hb1_0, hb1_1⟩ := hb1.cells2
  have hb1_l := hb1.lt
  obtain ⟨hx91_0, hx91_1⟩ := hx91.cells2
  have hx91_l := hx91.lt
  -- region 7
  clear hb0_0 hb0_1 hb0_2 hb0_l hb1_0 hb1_1 hb1_l hx91_0 hx91_1 hx91_l
  go_wp2_with fail
  refine wp_region_held_drew (S := (fun w' => w'.cell? ⟨w.heap.size, 0, none⟩ = some (.int .i64 k0) ∧ w'.cell? ⟨w.heap.size, 1, none⟩ = some (.int .i64 k1) ∧ w'.cell? ⟨w.heap.size, 2, none⟩ = some (.int .i64 k2) ∧ w'.cell? ⟨w.heap.size + 1, 0, none⟩ = some (.slice A0 n0 c0) ∧ w'.cell? ⟨w.heap.size + 1, 1, none⟩ = some (.int .i64 k3) ∧ w'.cell? ⟨v5.heap.size, 0, none⟩ = some (.slice (some ⟨gx0, 0, none⟩) n0 n0) ∧ w'.cell? ⟨v5.heap.size, 1, none⟩ = some (.int .i64 k3))) (by kernel_rfl) ⟨hb0.drew.cell 0, hb0.drew.cell 1, hb0.drew.cell 2, hb1.drew.cell 0, hb1.drew.cell 1, hx91.drew.cell 0, hx91.drew.cell 1⟩ (fun hHeld => ?_)
  replace ht := ht.drew
  replace hb0 := hb0.drew
  replace hb1 := hb1.drew
  replace hx0 := hx0.drew
  replace hx91 := hx91.drew
  refine wpAnyH_take (i := 0) (v := ?_) rfl (by kernel_rfl) (by kernel_rfl) (by kernel_rfl) (fun _ _ _ h => h) (Or.inl ⟨rfl, ?_⟩) hHeld ?_
  rotate_left
  · intro w' hS; obtain ⟨s0, s1, s2, s3, s4, s5, s6⟩ := hS; go_simp <;> with_reducible rfl
  simp only [Act.put, List.getElem_toArray, List.getElem_cons_succ, List.getElem_cons_zero, List.setIfInBounds_toArray, List.set_cons_succ, List.set_cons_zero]
  refine wpAnyH_take (i := 2) (v := ?_) rfl (by kernel_rfl) (by kernel_rfl) (by kernel_rfl) (fun _ _ _ h => h) (Or.inl ⟨rfl, ?_⟩) hHeld ?_
  rotate_left
  · intro w' hS; obtain ⟨s0, s1, s2, s3, s4, s5, s6⟩ := hS; go_simp <;> with_reducible rfl
  simp only [Act.put, List.getElem_toArray, List.getElem_cons_succ, List.getElem_cons_zero, List.setIfInBounds_toArray, List.set_cons_succ, List.set_cons_zero]
  refine wpAnyH_ready (rs := [1]) (by kernel_rfl) (by simp) (AllReadyH.cons rfl (fun K hK => ?_) AllReadyH.nil)
  go_simp
  refine (toIsles_any k0 k1 k2 _).mono ?_
  rintro e v6 ⟨rfl, hb⟩
  have hz6 : v5.heap.size + 1 ≤ v6.heap.size := by have := hb.size; simpa using this
  replace ht := below_then ht hb ht.size
  replace hb0 := hb0.below hb
  replace hb1 := hb1.below hb
  replace hx0 := hx0.below hb
  replace hx91 := hx91.below hb
  clear hb
  refine hK.out _ _ ⟨hb0.cell 0, hb0.cell 1, hb0.cell 2, hb1.cell 0, hb1.cell 1, hx91.cell 0, hx91.cell 1⟩ (fun hHeld => ?_)
  clear hK K
  try simp only [Act.put, List.getElem_toArray, List.getElem_cons_succ, List.getElem_cons_zero, List.setIfInBounds_toArray, List.set_cons_succ, List.set_cons_zero]
  refine wpAnyH_ready (rs := [3]) (by kernel_rfl) (by simp) (AllReadyH.cons rfl (fun K hK => ?_) AllReadyH.nil)
  go_simp
  refine (implAreCalm_any k0 k1 k2 _ n0 _ x0 k3 _ (by exact hx0.holds) HX0.out (by omega)).mono ?_
  rintro e v7 ⟨rfl, hb⟩
  have hz7 : v6.heap.size ≤ v7.heap.size := by have := hb.size; simpa using this
  replace ht := below_then ht hb ht.size
  replace hb0 := hb0.below hb
  replace hb1 := hb1.below hb
  replace hx0 := hx0.below hb
  replace hx91 := hx91.below hb
  clear hb
  refine hK.out _ _ ⟨hb0.cell 0, hb0.cell 1, hb0.cell 2, hb1.cell 0, hb1.cell 1, hx91.cell 0, hx91.cell 1⟩ (fun hHeld => ?_)
  clear hK K
  try simp only [Act.put, List.getElem_toArray, List.getElem_cons_succ, List.getElem_cons_zero, List.setIfInBounds_toArray, List.set_cons_succ, List.set_cons_zero]
  refine wpAnyH_take (i := 4) (v := ?_) rfl (by kernel_rfl) (by kernel_rfl) (by kernel_rfl) (fun _ _ _ h => h) (Or.inl ⟨rfl, ?_⟩) hHeld ?_
  rotate_left
  · intro w' hS; obtain ⟨s0, s1, s2, s3, s4, s5, s6⟩ := hS; go_simp <;> with_reducible rfl
  simp only [Act.put, List.getElem_toArray, List.getElem_cons_succ, List.getElem_cons_zero, List.setIfInBounds_toArray, List.set_cons_succ, List.set_cons_zero]
  refine wpAnyH_take (i := 5) (v := ?_) rfl (by kernel_rfl) (by kernel_rfl) (by kernel_rfl) (fun _ _ _ h => h) (Or.inl ⟨rfl, ?_⟩) hHeld ?_
  rotate_left
  · intro w' hS; obtain ⟨s0, s1, s2, s3, s4, s5, s6⟩ := hS; go_simp <;> with_reducible rfl
  simp only [Act.put, List.getElem_toArray, List.getElem_cons_succ, List.getElem_cons_zero, List.setIfInBounds_toArray, List.set_cons_succ, List.set_cons_zero]
  refine wpAnyH_take (i := 6) (v := ?_) rfl (by kernel_rfl) (by kernel_rfl) (by kernel_rfl) (fun _ _ _ h => h) (Or.inl ⟨rfl, ?_⟩) hHeld ?_
  rotate_left
  · intro w' hS; obtain ⟨s0, s1, s2, s3, s4, s5, s6⟩ := hS; go_simp <;> with_reducible rfl
  simp only [Act.put, List.getElem_toArray, List.getElem_cons_succ, List.getElem_cons_zero, List.setIfInBounds_toArray, List.set_cons_succ, List.set_cons_zero]
  refine wpAnyH_take (i := 7) (v := ?_) rfl (by kernel_rfl) (by kernel_rfl) (by kernel_rfl) (fun _ _ _ h => h) (Or.inl ⟨rfl, ?_⟩) hHeld ?_
  rotate_left
  · intro w' hS; obtain ⟨s0, s1, s2, s3, s4, s5, s6⟩ := hS; go_simp <;> with_reducible rfl
  simp only [Act.put, List.getElem_toArray, List.getElem_cons_succ, List.getElem_cons_zero, List.setIfInBounds_toArray, List.set_cons_succ, List.set_cons_zero]
  refine wpAnyH_take (i := 8) (v := ?_) rfl (by kernel_rfl) (by kernel_rfl) (by kernel_rfl) (fun _ _ _ h => h) (Or.inl ⟨rfl, ?_⟩) hHeld ?_
  rotate_left
  · intro w' hS; obtain ⟨s0, s1, s2, s3, s4, s5, s6⟩ := hS; go_simp <;> with_reducible rfl
  simp only [Act.put, List.getElem_toArray, List.getElem_cons_succ, List.getElem_cons_zero, List.setIfInBounds_toArray, List.set_cons_succ, List.set_cons_zero]
  refine wpAnyH_done (by kernel_rfl) ?_ _
  clear hHeld
  obtain ⟨hb0_0, hb0_1, hb0_2⟩ := hb0.cells3
  have hb0_l := hb0.lt
  obtain ⟨hb1_0, hb1_1⟩ := hb1.cells2
  have hb1_l := hb1.lt
  obtain ⟨hx91_0, hx91_1⟩ := hx91.cells2
  have hx91_l := hx91.lt
  -- region 10
  clear hb0_0 hb0_1 hb0_2 hb0_l hb1_0 hb1_1 hb1_l hx91_0 hx91_1 hx91_l
  go_wp2_with fail
  refine wp_region_held_drew (S := (fun w' => w'.cell? ⟨w.heap.size, 0, none⟩ = some (.int .i64 k0) ∧ w'.cell? ⟨w.heap.size, 1, none⟩ = some (.int .i64 k1) ∧ w'.cell? ⟨w.heap.size, 2, none⟩ = some (.int .i64 k2) ∧ w'.cell? ⟨w.heap.size + 1, 0, none⟩ = some (.slice A0 n0 c0) ∧ w'.cell? ⟨w.heap.size + 1, 1, none⟩ = some (.int .i64 k3) ∧ w'.cell? ⟨v5.heap.size, 0, none⟩ = some (.slice (some ⟨gx0, 0, none⟩) n0 n0) ∧ w'.cell? ⟨v5.heap.size, 1, none⟩ = some (.int .i64 k3))) (by kernel_rfl) ⟨hb0.drew.cell 0, hb0.drew.cell 1, hb0.drew.cell 2, hb1.drew.cell 0, hb1.drew.cell 1, hx91.drew.cell 0, hx91.drew.cell 1⟩ (fun hHeld => ?_)
  replace ht := ht.drew
  replace hb0 := hb0.drew
  replace hb1 := hb1.drew
  replace hx0 := hx0.drew
  replace hx91 := hx91.drew
  refine wpAnyH_take (i := 0) (v := ?_) rfl (by kernel_rfl) (by kernel_rfl) (by kernel_rfl) (fun _ _ _ h => h) (Or.inl ⟨rfl, ?_⟩) hHeld ?_
  rotate_left
  · intro w' hS; obtain ⟨s0, s1, s2, s3, s4, s5, s6⟩ := hS; go_simp <;> with_reducible rfl
  simp only [Act.put, List.getElem_toArray, List.getElem_cons_succ, List.getElem_cons_zero, List.setIfInBounds_toArray, List.set_cons_succ, List.set_cons_zero]
  refine wpAnyH_take (i := 1) (v := ?_) rfl (by kernel_rfl) (by kernel_rfl) (by kernel_rfl) (fun _ _ _ h => h) (Or.inl ⟨rfl, ?_⟩) hHeld ?_
  rotate_left
  · intro w' hS; obtain ⟨s0, s1, s2, s3, s4, s5, s6⟩ := hS; go_simp <;> with_reducible rfl
  simp only [Act.put, List.getElem_toArray, List.getElem_cons_succ, List.getElem_cons_zero, List.setIfInBounds_toArray, List.set_cons_succ, List.set_cons_zero]
  refine wpAnyH_ready (rs := [2]) (by kernel_rfl) (by simp) (AllReadyH.cons rfl (fun K hK => ?_) AllReadyH.nil)
  go_simp
  refine (toPlaces_own A0 n0 c0 x0 k3 _ (by exact h0.below ht) HX0.out (by omega)).mono ?_
  rintro e v8 ⟨gy0, rfl, hgy0, hwy0, hb⟩
  have hz8 : v7.heap.size ≤ v8.heap.size := by have := hb.size; simpa using this
  replace ht := below_then ht hb ht.size
  replace hb0 := hb0.below hb
  replace hb1 := hb1.below hb
  replace hx0 := hx0.below hb
  replace hx91 := hx91.below hb
  have hy0 := Fresh.of_whole (lo := v7.heap.size) (hi := v8.heap.size) hwy0 (by simpa using hgy0) hwy0.lt
  clear hgy0 hwy0
  clear hb
  refine hK.out _ _ ⟨hb0.cell 0, hb0.cell 1, hb0.cell 2, hb1.cell 0, hb1.cell 1, hx91.cell 0, hx91.cell 1⟩ (fun hHeld => ?_)
  clear hK K
  try simp only [Act.put, List.getElem_toArray, List.getElem_cons_succ, List.getElem_cons_zero, List.setIfInBounds_toArray, List.set_cons_succ, List.set_cons_zero]
  refine wpAnyH_ready (rs := [3]) (by kernel_rfl) (by simp) (AllReadyH.cons rfl (fun K hK => ?_) AllReadyH.nil)
  go_simp
  refine (eqPlaces_yes _ _ n0 _ _ x0 k3 _ (by exact hx0.holds) (by exact hy0.holds) HX0.out (by omega)).mono ?_
  rintro e v9 ⟨rfl, hb⟩
  have hz9 : v8.heap.size ≤ v9.heap.size := by have := hb.size; simpa using this
  replace ht := below_then ht hb ht.size
  replace hb0 := hb0.below hb
  replace hb1 := hb1.below hb
  replace hx0 := hx0.below hb
  replace hx91 := hx91.below hb
  replace hy0 := hy0.below hb
  clear hb
  clear hy0
  refine hK.out _ _ ⟨hb0.cell 0, hb0.cell 1, hb0.cell 2, hb1.cell 0, hb1.cell 1, hx91.cell 0, hx91.cell 1⟩ (fun hHeld => ?_)
  clear hK K
  try simp only [Act.put, List.getElem_toArray, List.getElem_cons_succ, List.getElem_cons_zero, List.setIfInBounds_toArray, List.set_cons_succ, List.set_cons_zero]
  refine wpAnyH_take (i := 4) (v := ?_) rfl (by kernel_rfl) (by kernel_rfl) (by kernel_rfl) (fun _ _ _ h => h) (Or.inl ⟨rfl, ?_⟩) hHeld ?_
  rotate_left
  · intro w' hS; obtain ⟨s0, s1, s2, s3, s4, s5, s6⟩ := hS; go_simp <;> with_reducible rfl
  simp only [Act.put, List.getElem_toArray, List.getElem_cons_succ, List.getElem_cons_zero, List.setIfInBounds_toArray, List.set_cons_succ, List.set_cons_zero]
  refine wpAnyH_done (by kernel_rfl) ?_ _
  clear hHeld
  obtain ⟨hb0_0, hb0_1, hb0_2⟩ := hb0.cells3
  have hb0_l := hb0.lt
  obtain ⟨hb1_0, hb1_1⟩ := hb1.cells2
  have hb1_l := hb1.lt
  obtain ⟨hx91_0, hx91_1⟩ := hx91.cells2
  have hx91_l := hx91.lt
  go_wp2
  go_ret
  exact ⟨rfl, ht⟩

theorem lawAreCalm_all (k0 : Int) (k1 : Int) (k2 : Int) (A0 : Option Addr) (n0 c0 : Nat) (x0 : List Int) (k3 : Int) (w : World) (h0 : Holds w A0 (nums x0)) (hx0 : x0.length = n0) (hn0 : n0 ≤ 9223372036854775807) :
    Calls Try.prog 12 #[.agg #[.int .i64 k0, .int .i64 k1, .int .i64 k2], .agg #[.slice A0 n0 c0, .int .i64 k3]] w fun e w' => e = .returned (.bool true) ∧ Below w.heap.size w w' := by
  rcases (inferInstance : Decidable (0 ≤ 1048576 - (n0 : Int))) with g0 | g0
  · exact lawAreCalm_big0 k0 k1 k2 A0 n0 c0 x0 k3 w h0 hx0 hn0  (by omega)
  exact lawAreCalm_small k0 k1 k2 A0 n0 c0 x0 k3 w h0 hx0 hn0 g0
end Go.Proofs.Ytjkiclhihhhpmaa
