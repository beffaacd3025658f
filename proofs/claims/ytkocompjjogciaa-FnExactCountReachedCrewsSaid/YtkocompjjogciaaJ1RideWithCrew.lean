/-
  What is proved: a contract of the model's RideWithCrew. Conditions: the arguments are read as they lie.
  What is proved: the law FnExactRideWithCrew returns true at every argument, and leaves all that was there as it was. Conditions: the arguments are read as they lie.
-/
import Derived.Deep.RegionHeld3
import Derived.Test.YtkocompjjogciaaJ5RidesOfCrew
set_option linter.unusedSimpArgs false
set_option linter.unusedVariables false
namespace Go.Proofs.Ytkocompjjogciaa
open Go.RowKit

set_option maxHeartbeats 6400000 in
set_option maxRecDepth 100000 in
set_option linter.unusedSimpArgs false in
set_option linter.unusedVariables false in
theorem specRideWithCrew_any (A : Option Addr) (n0 c0 : Nat) (B : Option Addr) (m d : Nat) (xs : List Int) (bs : List Bool) (s : Int) (D : Option Addr) (q z : Nat) (sb : List Bool) (t : Bool) (E : Option Addr) (r y : Nat) (l : List Int) (w : World) (hA : Holds w A (nums xs)) (hB : Holds w B (bits bs)) (hD : Holds w D (bits sb)) (hE : Holds w E (nums l)) (hx : xs.length = n0) (hy : bs.length = m) (hqq : sb.length = q) (hl : l.length = r) (hn : n0 ≤ 9223372036854775807) (hq : q ≤ 9223372036854775807) (hrr : r ≤ 9223372036854775807) :
    Calls Try.prog 33 #[.agg #[.slice A n0 c0, .slice B m d, .int .i64 s], .agg #[.slice D q z, .bool t], .slice E r y] w (StatePost (rideBits xs bs m s sb t l) (rideTorch xs bs m s sb t l) (rideOk xs bs m s sb t l) w) := by
  have HX := Lib.hid hx
  have HY := Lib.hid hy
  have HQ := Lib.hid hqq
  have HL := Lib.hid hl
  have h0 := ((Whole.fresh w 40 #[.slice A n0 c0, .slice B m d, .int .i64 s]).alloc (.cells #[.slice D q z, .bool t] 38)).alloc (.cells #[.slice none 0 0, .bool false] 38)
  have h1 := (Whole.fresh (w.alloc (.cells #[.slice A n0 c0, .slice B m d, .int .i64 s] 40)) 38 #[.slice D q z, .bool t]).alloc (.cells #[.slice none 0 0, .bool false] 38)
  have hr := Whole.fresh ((w.alloc (.cells #[.slice A n0 c0, .slice B m d, .int .i64 s] 40)).alloc (.cells #[.slice D q z, .bool t] 38)) 38 #[.slice none 0 0, .bool false]
  have ht := below3 w (.cells #[.slice A n0 c0, .slice B m d, .int .i64 s] 40) (.cells #[.slice D q z, .bool t] 38) (.cells #[.slice none 0 0, .bool false] 38)
  rw [World.size_alloc] at h1
  rw [World.size_alloc, World.size_alloc] at hr
  cases hp : crewState xs m s sb t
  · have HP := Lib.hid hp
    have HF := Lib.hid (rideW_no (show rideOk xs bs m s sb t l = false by simp [rideOk, hp]))
    rw [HF.out.1, HF.out.2.1, HF.out.2.2]
    clear hp hx hy hqq hl
    go_enter Try.func33, Try.ntmps33
    go_wp2_with fail
    refine (loAsked_any A n0 c0 B m d xs s D q z sb t _ (by exact hA.below ht) (by exact hD.below ht) HX.out HQ.out hn hq).mono ?_
    rintro e w1 ⟨rfl, hb⟩
    rw [HP.out]
    replace ht := below_then ht hb ht.size
    replace hr := hr.below hb
    obtain ⟨r0, r1, g0, g1⟩ := hr.two
    have hrl := hr.lt
    clear hb h0 h1 hr
    go_wp2
    refine bodyPost_ret (v := .tuple #[.agg #[.slice none 0 0, .bool false], .bool false]) (by simp [results, Try.results33, go_sem, r0, r1]) rfl ⟨none, 0, rfl, .inl rfl, below_set (below_set ht (by omega)) (by omega)⟩
  have HP := Lib.hid hp
  obtain ⟨hok, hsl⟩ := crewState_ok hp
  have HOK := Lib.hid hok
  have HSL := Lib.hid hsl
  have hn7 : n0 ≤ 7 := by have := hok.seven; omega
  have hn1 : 1 ≤ n0 := by have := hok.one; omega
  have HQN := Lib.hid (show q = n0 by omega)
  obtain ⟨ok, hok2⟩ : ∃ ok, ok = canRide xs bs s sb t l := ⟨_, rfl⟩
  have HC : Hid (canRide xs bs s sb t l = ok) := by show _ = _; exact hok2.symm
  have HRO : Hid (rideOk xs bs m s sb t l = ok) := by show _ = _; rw [hok2]; simp [rideOk, hp]
  clear hok2 hp hx hy hqq hl hok hsl
  cases ok
  · have HFN := Lib.hid (rideW_no HRO.out)
    rw [HFN.out.1, HFN.out.2.1, HFN.out.2.2]
    go_enter Try.func33, Try.ntmps33
    go_wp2_with fail
    refine (loAsked_any A n0 c0 B m d xs s D q z sb t _ (by exact hA.below ht) (by exact hD.below ht) HX.out HQ.out hn hq).mono ?_
    rintro e w1 ⟨rfl, hb⟩
    rw [HP.out]
    replace ht := below_then ht hb ht.size
    replace hr := hr.below hb
    replace h1 := h1.below hb
    replace h0 := h0.below hb
    obtain ⟨a0, a1, a2⟩ := h0.cells3
    obtain ⟨d0, d1, -, -⟩ := h1.two
    have hrl := hr.lt
    clear hb
    go_wp2_with fail
    refine (loCan_any A n0 c0 B m d xs bs s D q z sb t E r y l _ (by exact hA.below ht) (by exact hB.below ht) (by exact hD.below ht) (by exact hE.below ht) HX.out HY.out HQ.out HL.out hrr HOK.out HSL.out).mono ?_
    rintro e w2 ⟨rfl, hb⟩
    rw [HC.out]
    replace ht := below_then ht hb ht.size
    replace hr := hr.below hb
    replace h1 := h1.below hb
    have hrl2 := hr.lt
    clear hb a0 a1 a2 d0 d1 h0
    obtain ⟨r0, r1, g0, g1⟩ := hr.two
    clear hr
    go_wp2
    refine bodyPost_ret (v := .tuple #[.agg #[.slice none 0 0, .bool false], .bool false]) (by simp [results, Try.results33, go_sem, r0, r1]) rfl ⟨none, 0, rfl, .inl rfl, below_set (below_set ht (by omega)) (by omega)⟩
  · have HFN := Lib.hid (rideW_yes HRO.out)
    rw [HFN.out.1, HFN.out.2.1, HFN.out.2.2]
    go_enter Try.func33, Try.ntmps33
    go_wp2_with fail
    refine (loAsked_any A n0 c0 B m d xs s D q z sb t _ (by exact hA.below ht) (by exact hD.below ht) HX.out HQ.out hn hq).mono ?_
    rintro e w1 ⟨rfl, hb⟩
    rw [HP.out]
    replace ht := below_then ht hb ht.size
    replace hr := hr.below hb
    replace h1 := h1.below hb
    replace h0 := h0.below hb
    obtain ⟨a0, a1, a2⟩ := h0.cells3
    obtain ⟨d0, d1, -, -⟩ := h1.two
    have hrl := hr.lt
    clear hb
    go_wp2_with fail
    refine (loCan_any A n0 c0 B m d xs bs s D q z sb t E r y l _ (by exact hA.below ht) (by exact hB.below ht) (by exact hD.below ht) (by exact hE.below ht) HX.out HY.out HQ.out HL.out hrr HOK.out HSL.out).mono ?_
    rintro e w2 ⟨rfl, hb⟩
    rw [HC.out]
    replace ht := below_then ht hb ht.size
    replace hr := hr.below hb
    replace h1 := h1.below hb
    have hrl2 := hr.lt
    clear hb a0 a1 a2 d0 d1 h0
    have hri : rising l ((xs.length : Int) - 1) = true := by
      have h := HC.out
      simp only [canRide, Bool.and_eq_true] at h; exact h.2.1
    have HSTP : Hid (StepsTo l ((q : Int) - 1) l.length) := by have h := rising_steps hri; rw [HX.out, ← HQN.out] at h; exact h
    obtain ⟨b, o, rfl, hbl, hcell⟩ := (hD.below ht).spot (by rw [bits_len, HQ.out, HQN.out]; omega)
    obtain ⟨d0, d1, -, -⟩ := h1.two
    have hqn0 : 0 < q := by have := HQN.out; omega
    have hqn8 : q ≤ 1048576 := by have := HQN.out; omega
    clear h1 hri
    go_wp2_with fail
    refine (paCross_any b o q z E r y sb l t _ hcell HQ.out hqn0 hqn8 (by exact hE.below ht) HL.out hrr HSTP.out).mono ?_
    rintro e w3 ⟨A2, q2, rfl, hf, hb⟩
    replace ht := below_then ht hb ht.size
    replace hr := hr.below hb
    obtain ⟨r0, r1, g0, g1⟩ := hr.two
    have hl5 := hr.lt
    have hFF := ((hf.set_out (b := w.heap.size + 1 + 1) (o := 0) (u := .slice A2 (flipped sb l).length q2) (.inl (by omega))).set_out (b := w.heap.size + 1 + 1) (o := 1) (u := .bool (!t)) (.inl (by omega))).more (lo' := w.heap.size) (hi' := w3.heap.size) (by omega) (Nat.le_refl _)
    have HFF := Lib.hid hFF
    clear hb hr hf hFF d0 d1 hcell
    go_wp2
    refine bodyPost_ret (v := .tuple #[.agg #[.slice A2 (flipped sb l).length q2, .bool (!t)], .bool true]) (by simp [results, Try.results33, go_sem, r0, r1]) rfl ⟨A2, q2, rfl, ?_, below_set (below_set ht (by omega)) (by omega)⟩
    have h := HFF.out
    simpa [World.setCell] using h
end Go.Proofs.Ytkocompjjogciaa

namespace Go.Proofs.Ytkocompjjogciaa
open Go.RowKit

set_option maxHeartbeats 800000 in
set_option linter.unusedVariables false in
theorem lawRideWithCrew_big0 (A0 : Option Addr) (n0 c0 : Nat) (x0 : List Int) (A1 : Option Addr) (n1 c1 : Nat) (x1 : List Bool) (k0 : Int) (A2 : Option Addr) (n2 c2 : Nat) (x2 : List Bool) (t0 : Bool) (A3 : Option Addr) (n3 c3 : Nat) (x3 : List Int) (w : World) (h0 : Holds w A0 (nums x0)) (hx0 : x0.length = n0) (hn0 : n0 ≤ 9223372036854775807) (h1 : Holds w A1 (bits x1)) (hx1 : x1.length = n1) (hn1 : n1 ≤ 9223372036854775807) (h2 : Holds w A2 (bits x2)) (hx2 : x2.length = n2) (hn2 : n2 ≤ 9223372036854775807) (h3 : Holds w A3 (nums x3)) (hx3 : x3.length = n3) (hn3 : n3 ≤ 9223372036854775807)  (hbig : (1048576 : Int) < n3) :
    Calls Try.prog 5 #[.agg #[.slice A0 n0 c0, .slice A1 n1 c1, .int .i64 k0], .agg #[.slice A2 n2 c2, .bool t0], .slice A3 n3 c3] w fun e w' => e = .returned (.bool true) ∧ Below w.heap.size w w' := by
  have hb0 := ((Whole.fresh w 32 #[.slice A0 n0 c0, .slice A1 n1 c1, .int .i64 k0]).alloc (.cells #[.slice A2 n2 c2, .bool t0] 27))
  have hb1 := (Whole.fresh (w.alloc (.cells #[.slice A0 n0 c0, .slice A1 n1 c1, .int .i64 k0] 32)) 27 #[.slice A2 n2 c2, .bool t0])
  simp only [World.size_alloc] at hb1
  have ht := below2 w (.cells #[.slice A0 n0 c0, .slice A1 n1 c1, .int .i64 k0] 32) (.cells #[.slice A2 n2 c2, .bool t0] 27)
  have HX0 := Lib.hid hx0
  have HX1 := Lib.hid hx1
  have HX2 := Lib.hid hx2
  have HX3 := Lib.hid hx3
  clear hx0 hx1 hx2 hx3
  obtain ⟨hb0_0, hb0_1, hb0_2⟩ := hb0.cells3
  have hb0_l := hb0.lt
  obtain ⟨hb1_0, hb1_1⟩ := hb1.cells2
  have hb1_l := hb1.lt
  go_enter Try.func5, Try.ntmps5
  go_wp2
  go_ret
  exact ⟨rfl, ht⟩

set_option maxHeartbeats 800000 in
set_option linter.unusedVariables false in
theorem lawRideWithCrew_big1 (A0 : Option Addr) (n0 c0 : Nat) (x0 : List Int) (A1 : Option Addr) (n1 c1 : Nat) (x1 : List Bool) (k0 : Int) (A2 : Option Addr) (n2 c2 : Nat) (x2 : List Bool) (t0 : Bool) (A3 : Option Addr) (n3 c3 : Nat) (x3 : List Int) (w : World) (h0 : Holds w A0 (nums x0)) (hx0 : x0.length = n0) (hn0 : n0 ≤ 9223372036854775807) (h1 : Holds w A1 (bits x1)) (hx1 : x1.length = n1) (hn1 : n1 ≤ 9223372036854775807) (h2 : Holds w A2 (bits x2)) (hx2 : x2.length = n2) (hn2 : n2 ≤ 9223372036854775807) (h3 : Holds w A3 (nums x3)) (hx3 : x3.length = n3) (hn3 : n3 ≤ 9223372036854775807) (g0 : (n3 : Int) ≤ 1048576) (hbig : 1048576 - (n0 : Int) - (n1 : Int) < 0) :
    Calls Try.prog 5 #[.agg #[.slice A0 n0 c0, .slice A1 n1 c1, .int .i64 k0], .agg #[.slice A2 n2 c2, .bool t0], .slice A3 n3 c3] w fun e w' => e = .returned (.bool true) ∧ Below w.heap.size w w' := by
  have hb0 := ((Whole.fresh w 32 #[.slice A0 n0 c0, .slice A1 n1 c1, .int .i64 k0]).alloc (.cells #[.slice A2 n2 c2, .bool t0] 27))
  have hb1 := (Whole.fresh (w.alloc (.cells #[.slice A0 n0 c0, .slice A1 n1 c1, .int .i64 k0] 32)) 27 #[.slice A2 n2 c2, .bool t0])
  simp only [World.size_alloc] at hb1
  have ht := below2 w (.cells #[.slice A0 n0 c0, .slice A1 n1 c1, .int .i64 k0] 32) (.cells #[.slice A2 n2 c2, .bool t0] 27)
  have HX0 := Lib.hid hx0
  have HX1 := Lib.hid hx1
  have HX2 := Lib.hid hx2
  have HX3 := Lib.hid hx3
  clear hx0 hx1 hx2 hx3
  obtain ⟨hb0_0, hb0_1, hb0_2⟩ := hb0.cells3
  have hb0_l := hb0.lt
  obtain ⟨hb1_0, hb1_1⟩ := hb1.cells2
  have hb1_l := hb1.lt
  go_enter Try.func5, Try.ntmps5
  go_wp2_with fail
  refine (szCrew_any A0 n0 c0 A1 n1 c1 k0 (1048576) _ (by omega) (by omega) (by omega) (by omega)).mono ?_
  rintro e v1 ⟨rfl, hb⟩
  rw [crewLeft_bad (by omega)]
  have hz1 : w.heap.size + 1 + 1 ≤ v1.heap.size := by have := hb.size; simpa using this
  replace ht := below_then ht hb ht.size
  replace hb0 := hb0.below hb
  replace hb1 := hb1.below hb
  clear hb
  clear hb0_0 hb0_1 hb0_2 hb0_l hb1_0 hb1_1 hb1_l
  go_wp2
  go_ret
  exact ⟨rfl, ht⟩

set_option maxHeartbeats 800000 in
set_option linter.unusedVariables false in
theorem lawRideWithCrew_big2 (A0 : Option Addr) (n0 c0 : Nat) (x0 : List Int) (A1 : Option Addr) (n1 c1 : Nat) (x1 : List Bool) (k0 : Int) (A2 : Option Addr) (n2 c2 : Nat) (x2 : List Bool) (t0 : Bool) (A3 : Option Addr) (n3 c3 : Nat) (x3 : List Int) (w : World) (h0 : Holds w A0 (nums x0)) (hx0 : x0.length = n0) (hn0 : n0 ≤ 9223372036854775807) (h1 : Holds w A1 (bits x1)) (hx1 : x1.length = n1) (hn1 : n1 ≤ 9223372036854775807) (h2 : Holds w A2 (bits x2)) (hx2 : x2.length = n2) (hn2 : n2 ≤ 9223372036854775807) (h3 : Holds w A3 (nums x3)) (hx3 : x3.length = n3) (hn3 : n3 ≤ 9223372036854775807) (g0 : (n3 : Int) ≤ 1048576) (g1 : 0 ≤ 1048576 - (n0 : Int) - (n1 : Int)) (hbig : 1048576 - (n0 : Int) - (n1 : Int) - (n2 : Int) < 0) :
    Calls Try.prog 5 #[.agg #[.slice A0 n0 c0, .slice A1 n1 c1, .int .i64 k0], .agg #[.slice A2 n2 c2, .bool t0], .slice A3 n3 c3] w fun e w' => e = .returned (.bool true) ∧ Below w.heap.size w w' := by
  have hb0 := ((Whole.fresh w 32 #[.slice A0 n0 c0, .slice A1 n1 c1, .int .i64 k0]).alloc (.cells #[.slice A2 n2 c2, .bool t0] 27))
  have hb1 := (Whole.fresh (w.alloc (.cells #[.slice A0 n0 c0, .slice A1 n1 c1, .int .i64 k0] 32)) 27 #[.slice A2 n2 c2, .bool t0])
  simp only [World.size_alloc] at hb1
  have ht := below2 w (.cells #[.slice A0 n0 c0, .slice A1 n1 c1, .int .i64 k0] 32) (.cells #[.slice A2 n2 c2, .bool t0] 27)
  have HX0 := Lib.hid hx0
  have HX1 := Lib.hid hx1
  have HX2 := Lib.hid hx2
  have HX3 := Lib.hid hx3
  clear hx0 hx1 hx2 hx3
  obtain ⟨hb0_0, hb0_1, hb0_2⟩ := hb0.cells3
  have hb0_l := hb0.lt
  obtain ⟨hb1_0, hb1_1⟩ := hb1.cells2
  have hb1_l := hb1.lt
  go_enter Try.func5, Try.ntmps5
  go_wp2_with fail
  refine (szCrew_any A0 n0 c0 A1 n1 c1 k0 (1048576) _ (by omega) (by omega) (by omega) (by omega)).mono ?_
  rintro e v1 ⟨rfl, hb⟩
  rw [crewLeft_ok (by omega)]
  have hz1 : w.heap.size + 1 + 1 ≤ v1.heap.size := by have := hb.size; simpa using this
  replace ht := below_then ht hb ht.size
  replace hb0 := hb0.below hb
  replace hb1 := hb1.below hb
  clear hb
  clear hb0_0 hb0_1 hb0_2 hb0_l hb1_0 hb1_1 hb1_l
  obtain ⟨hb0_0, hb0_1, hb0_2⟩ := hb0.cells3
  have hb0_l := hb0.lt
  obtain ⟨hb1_0, hb1_1⟩ := hb1.cells2
  have hb1_l := hb1.lt
  go_wp2_with fail
  refine (szState_any A2 n2 c2 t0 (1048576 - (n0 : Int) - (n1 : Int)) _ (by omega) (by omega) (by omega)).mono ?_
  rintro e v2 ⟨rfl, hb⟩
  rw [if_pos (by omega)]
  have hz2 : v1.heap.size ≤ v2.heap.size := by have := hb.size; simpa using this
  replace ht := below_then ht hb ht.size
  replace hb0 := hb0.below hb
  replace hb1 := hb1.below hb
  clear hb
  clear hb0_0 hb0_1 hb0_2 hb0_l hb1_0 hb1_1 hb1_l
  go_wp2
  go_ret
  exact ⟨rfl, ht⟩

set_option maxHeartbeats 12800000 in
set_option maxRecDepth 100000 in
set_option linter.unusedSimpArgs false in
set_option linter.unusedVariables false in
theorem lawRideWithCrew_small (A0 : Option Addr) (n0 c0 : Nat) (x0 : List Int) (A1 : Option Addr) (n1 c1 : Nat) (x1 : List Bool) (k0 : Int) (A2 : Option Addr) (n2 c2 : Nat) (x2 : List Bool) (t0 : Bool) (A3 : Option Addr) (n3 c3 : Nat) (x3 : List Int) (w : World) (h0 : Holds w A0 (nums x0)) (hx0 : x0.length = n0) (hn0 : n0 ≤ 9223372036854775807) (h1 : Holds w A1 (bits x1)) (hx1 : x1.length = n1) (hn1 : n1 ≤ 9223372036854775807) (h2 : Holds w A2 (bits x2)) (hx2 : x2.length = n2) (hn2 : n2 ≤ 9223372036854775807) (h3 : Holds w A3 (nums x3)) (hx3 : x3.length = n3) (hn3 : n3 ≤ 9223372036854775807) (g0 : (n3 : Int) ≤ 1048576) (g1 : 0 ≤ 1048576 - (n0 : Int) - (n1 : Int)) (g2 : 0 ≤ 1048576 - (n0 : Int) - (n1 : Int) - (n2 : Int)) :
    Calls Try.prog 5 #[.agg #[.slice A0 n0 c0, .slice A1 n1 c1, .int .i64 k0], .agg #[.slice A2 n2 c2, .bool t0], .slice A3 n3 c3] w fun e w' => e = .returned (.bool true) ∧ Below w.heap.size w w' := by
  have hb0 := ((Whole.fresh w 32 #[.slice A0 n0 c0, .slice A1 n1 c1, .int .i64 k0]).alloc (.cells #[.slice A2 n2 c2, .bool t0] 27))
  have hb1 := (Whole.fresh (w.alloc (.cells #[.slice A0 n0 c0, .slice A1 n1 c1, .int .i64 k0] 32)) 27 #[.slice A2 n2 c2, .bool t0])
  simp only [World.size_alloc] at hb1
  have ht := below2 w (.cells #[.slice A0 n0 c0, .slice A1 n1 c1, .int .i64 k0] 32) (.cells #[.slice A2 n2 c2, .bool t0] 27)
  have HX0 := Lib.hid hx0
  have HX1 := Lib.hid hx1
  have HX2 := Lib.hid hx2
  have HX3 := Lib.hid hx3
  clear hx0 hx1 hx2 hx3
  have hlen : (rideBits x0 x1 n1 k0 x2 t0 x3).length ≤ 1048576 := (Nat.le_trans rideBits_le (by have := HX2.out; omega))
  obtain ⟨hb0_0, hb0_1, hb0_2⟩ := hb0.cells3
  have hb0_l := hb0.lt
  obtain ⟨hb1_0, hb1_1⟩ := hb1.cells2
  have hb1_l := hb1.lt
  go_enter Try.func5, Try.ntmps5
  -- region 4
  go_wp2_with fail
  refine (szCrew_any A0 n0 c0 A1 n1 c1 k0 (1048576) _ (by omega) (by omega) (by omega) (by omega)).mono ?_
  rintro e v1 ⟨rfl, hb⟩
  rw [crewLeft_ok (by omega)]
  have hz1 : w.heap.size + 1 + 1 ≤ v1.heap.size := by have := hb.size; simpa using this
  replace ht := below_then ht hb ht.size
  replace hb0 := hb0.below hb
  replace hb1 := hb1.below hb
  clear hb
  clear hb0_0 hb0_1 hb0_2 hb0_l hb1_0 hb1_1 hb1_l
  obtain ⟨hb0_0, hb0_1, hb0_2⟩ := hb0.cells3
  have hb0_l := hb0.lt
  obtain ⟨hb1_0, hb1_1⟩ := hb1.cells2
  have hb1_l := hb1.lt
  -- region 7
  go_wp2_with fail
  refine (szState_any A2 n2 c2 t0 (1048576 - (n0 : Int) - (n1 : Int)) _ (by omega) (by omega) (by omega)).mono ?_
  rintro e v2 ⟨rfl, hb⟩
  rw [if_neg (by omega)]
  have hz2 : v1.heap.size ≤ v2.heap.size := by have := hb.size; simpa using this
  replace ht := below_then ht hb ht.size
  replace hb0 := hb0.below hb
  replace hb1 := hb1.below hb
  clear hb
  clear hb0_0 hb0_1 hb0_2 hb0_l hb1_0 hb1_1 hb1_l
  obtain ⟨hb0_0, hb0_1, hb0_2⟩ := hb0.cells3
  have hb0_l := hb0.lt
  obtain ⟨hb1_0, hb1_1⟩ := hb1.cells2
  have hb1_l := hb1.lt
  -- region 10
  have hbzphb0 := hb0.lt
  have hbzphb1 := hb1.lt
  go_upto_region 10 with fail
  go_cut [8, 9] (fun s8 s9 wx => ResMid 38 4 (fun A q => #[.slice A (rideBits x0 x1 n1 k0 x2 t0 x3).length q, .bool (rideTorch x0 x1 n1 k0 x2 t0 x3)]) (bits (rideBits x0 x1 n1 k0 x2 t0 x3)) (rideOk x0 x1 n1 k0 x2 t0 x3) v2 s8 s9 wx)
  case first =>
    go_region_held3 (fun w' => w'.cell? ⟨w.heap.size, 0, none⟩ = some (.slice A0 n0 c0) ∧ w'.cell? ⟨w.heap.size, 1, none⟩ = some (.slice A1 n1 c1) ∧ w'.cell? ⟨w.heap.size, 2, none⟩ = some (.int .i64 k0) ∧ w'.cell? ⟨w.heap.size + 1, 0, none⟩ = some (.slice A2 n2 c2) ∧ w'.cell? ⟨w.heap.size + 1, 1, none⟩ = some (.bool t0)) (go_keep)
      (first | (go_at_call 23; first | (refine (toCrew_own A0 n0 c0 x0 A1 n1 c1 x1 k0 _ (by exact h0.below (below_then ht (Below.refl v2.heap.size v2).drew ht.size)) (by exact h1.below (below_then ht (Below.refl v2.heap.size v2).drew ht.size)) HX0.out HX1.out (by omega) (by omega)).mono ?_; rintro e wp0 ⟨gp0, gp1, rfl, hgp0, hwp0, hgp1, hwp1, hbp0⟩; have hcp0 := below_then (Below.refl v2.heap.size v2).drew hbp0 (Nat.le_refl _); have hzp0 := hcp0.size; (try (replace hbox := hbox.below hbp0; clear x0_ x1_ x2_ x3_; obtain ⟨x0_, x1_, x2_, x3_⟩ := hbox.two)); obtain ⟨kp0hb0_0, kp0hb0_1, kp0hb0_2⟩ := (hb0.below hcp0).cells3; obtain ⟨kp0hb1_0, kp0hb1_1⟩ := (hb1.below hcp0).cells2) | (have hbox := Whole.fresh v2 38 #[.slice none 0 0, .bool false]; replace hbox := hbox.drew; refine (toCrew_own A0 n0 c0 x0 A1 n1 c1 x1 k0 _ (by exact h0.below (below_then ht ((Below.refl v2.heap.size v2).alloc (Nat.le_refl _) (.cells #[.slice none 0 0, .bool false] 38)).drew ht.size)) (by exact h1.below (below_then ht ((Below.refl v2.heap.size v2).alloc (Nat.le_refl _) (.cells #[.slice none 0 0, .bool false] 38)).drew ht.size)) HX0.out HX1.out (by omega) (by omega)).mono ?_; rintro e wp0 ⟨gp0, gp1, rfl, hgp0, hwp0, hgp1, hwp1, hbp0⟩; have hcp0 := below_then ((Below.refl v2.heap.size v2).alloc (Nat.le_refl _) (.cells #[.slice none 0 0, .bool false] 38)).drew hbp0 (by simp); have hzp0 := hcp0.size; have hy0_ : w.heap.size < v2.heap.size := (by omega); have hn0_ : ¬ v2.heap.size = w.heap.size := (by omega); have hv0_ : ¬ w.heap.size = v2.heap.size := (by omega); have hy1_ : w.heap.size + 1 < v2.heap.size := (by omega); have hn1_ : ¬ v2.heap.size = w.heap.size + 1 := (by omega); have hv1_ : ¬ w.heap.size + 1 = v2.heap.size := (by omega); replace hbox := hbox.below hbp0; obtain ⟨x0_, x1_, x2_, x3_⟩ := hbox.two; obtain ⟨kp0hb0_0, kp0hb0_1, kp0hb0_2⟩ := (hb0.below hcp0).cells3; obtain ⟨kp0hb1_0, kp0hb1_1⟩ := (hb1.below hcp0).cells2)) | (go_at_call 24; first | (refine (toState_own A2 n2 c2 x2 t0 _ (by exact h2.below (below_then ht hcp0 ht.size)) HX2.out (by omega)).mono ?_; rintro e wp1 ⟨gp2, rfl, hgp2, hwp2, hbp1⟩; have hcp1 := below_then hcp0 hbp1 hcp0.size; have hzp1 := hcp1.size; replace hwp0 := hwp0.below hbp1; replace hwp1 := hwp1.below hbp1; (try (replace hbox := hbox.below hbp1; clear x0_ x1_ x2_ x3_; obtain ⟨x0_, x1_, x2_, x3_⟩ := hbox.two)); obtain ⟨kp1hb0_0, kp1hb0_1, kp1hb0_2⟩ := (hb0.below hcp1).cells3; obtain ⟨kp1hb1_0, kp1hb1_1⟩ := (hb1.below hcp1).cells2) | (have hbox := Whole.fresh wp0 38 #[.slice none 0 0, .bool false]; refine (toState_own A2 n2 c2 x2 t0 _ (by exact h2.below (below_then ht (hcp0.alloc hcp0.size (.cells #[.slice none 0 0, .bool false] 38)) ht.size)) HX2.out (by omega)).mono ?_; rintro e wp1 ⟨gp2, rfl, hgp2, hwp2, hbp1⟩; have hcp1 := below_then (hcp0.alloc hcp0.size (.cells #[.slice none 0 0, .bool false] 38)) hbp1 (Nat.le_trans hcp0.size (by simp)); have hzp1 := hcp1.size; replace hwp0 := (hwp0.alloc (.cells #[.slice none 0 0, .bool false] 38)).below hbp1; replace hwp1 := (hwp1.alloc (.cells #[.slice none 0 0, .bool false] 38)).below hbp1; have hy0_ : w.heap.size < wp0.heap.size := (by omega); have hn0_ : ¬ wp0.heap.size = w.heap.size := (by omega); have hv0_ : ¬ w.heap.size = wp0.heap.size := (by omega); have hy1_ : w.heap.size + 1 < wp0.heap.size := (by omega); have hn1_ : ¬ wp0.heap.size = w.heap.size + 1 := (by omega); have hv1_ : ¬ w.heap.size + 1 = wp0.heap.size := (by omega); replace hbox := hbox.below hbp1; obtain ⟨x0_, x1_, x2_, x3_⟩ := hbox.two; obtain ⟨kp1hb0_0, kp1hb0_1, kp1hb0_2⟩ := (hb0.below hcp1).cells3; obtain ⟨kp1hb1_0, kp1hb1_1⟩ := (hb1.below hcp1).cells2)) | (go_at_call 34; first | (refine (toIntS_own A3 n3 c3 x3 _ (by exact h3.below (below_then ht hcp1 ht.size)) HX3.out (by omega)).mono ?_; rintro e wp2 ⟨gp3, rfl, hgp3, hwp3, hbp2⟩; have hcp2 := below_then hcp1 hbp2 hcp1.size; have hzp2 := hcp2.size; replace hwp0 := hwp0.below hbp2; replace hwp1 := hwp1.below hbp2; replace hwp2 := hwp2.below hbp2; (try (replace hbox := hbox.below hbp2; clear x0_ x1_ x2_ x3_; obtain ⟨x0_, x1_, x2_, x3_⟩ := hbox.two)); obtain ⟨kp2hb0_0, kp2hb0_1, kp2hb0_2⟩ := (hb0.below hcp2).cells3; obtain ⟨kp2hb1_0, kp2hb1_1⟩ := (hb1.below hcp2).cells2) | (have hbox := Whole.fresh wp1 38 #[.slice none 0 0, .bool false]; refine (toIntS_own A3 n3 c3 x3 _ (by exact h3.below (below_then ht (hcp1.alloc hcp1.size (.cells #[.slice none 0 0, .bool false] 38)) ht.size)) HX3.out (by omega)).mono ?_; rintro e wp2 ⟨gp3, rfl, hgp3, hwp3, hbp2⟩; have hcp2 := below_then (hcp1.alloc hcp1.size (.cells #[.slice none 0 0, .bool false] 38)) hbp2 (Nat.le_trans hcp1.size (by simp)); have hzp2 := hcp2.size; replace hwp0 := (hwp0.alloc (.cells #[.slice none 0 0, .bool false] 38)).below hbp2; replace hwp1 := (hwp1.alloc (.cells #[.slice none 0 0, .bool false] 38)).below hbp2; replace hwp2 := (hwp2.alloc (.cells #[.slice none 0 0, .bool false] 38)).below hbp2; have hy0_ : w.heap.size < wp1.heap.size := (by omega); have hn0_ : ¬ wp1.heap.size = w.heap.size := (by omega); have hv0_ : ¬ w.heap.size = wp1.heap.size := (by omega); have hy1_ : w.heap.size + 1 < wp1.heap.size := (by omega); have hn1_ : ¬ wp1.heap.size = w.heap.size + 1 := (by omega); have hv1_ : ¬ w.heap.size + 1 = wp1.heap.size := (by omega); replace hbox := hbox.below hbp2; obtain ⟨x0_, x1_, x2_, x3_⟩ := hbox.two; obtain ⟨kp2hb0_0, kp2hb0_1, kp2hb0_2⟩ := (hb0.below hcp2).cells3; obtain ⟨kp2hb1_0, kp2hb1_1⟩ := (hb1.below hcp2).cells2)) | (go_at_call 33; first | ((try (have hbxl := hbox.lt)); refine (specRideWithCrew_any _ n0 _ _ n1 _ x0 x1 k0 _ n2 _ x2 t0 _ n3 _ x3 _ (by exact hwp0.holds) (by exact hwp1.holds) (by exact hwp2.holds) (by exact hwp3.holds) HX0.out HX1.out HX2.out HX3.out (by omega) (by omega) (by omega)).mono ?_; rintro e wps ⟨A0, q0, rfl, hF0_, hbps⟩; have hcps := below_then hcp2 hbps hcp2.size; have hzps := hcps.size; replace hwp0 := hwp0.below hbps; replace hwp1 := hwp1.below hbps; replace hwp2 := hwp2.below hbps; replace hwp3 := hwp3.below hbps; (try (replace hbox := hbox.below hbps; clear x0_ x1_ x2_ x3_; obtain ⟨x0_, x1_, x2_, x3_⟩ := hbox.two)); obtain ⟨kpshb0_0, kpshb0_1, kpshb0_2⟩ := (hb0.below hcps).cells3; obtain ⟨kpshb1_0, kpshb1_1⟩ := (hb1.below hcps).cells2) | (have hbox := Whole.fresh wp2 38 #[.slice none 0 0, .bool false]; have hbxl := hbox.lt; refine (specRideWithCrew_any _ n0 _ _ n1 _ x0 x1 k0 _ n2 _ x2 t0 _ n3 _ x3 _ (by exact (hwp0.alloc (.cells #[.slice none 0 0, .bool false] 38)).holds) (by exact (hwp1.alloc (.cells #[.slice none 0 0, .bool false] 38)).holds) (by exact (hwp2.alloc (.cells #[.slice none 0 0, .bool false] 38)).holds) (by exact (hwp3.alloc (.cells #[.slice none 0 0, .bool false] 38)).holds) HX0.out HX1.out HX2.out HX3.out (by omega) (by omega) (by omega)).mono ?_; rintro e wps ⟨A0, q0, rfl, hF0_, hbps⟩; have hcps := below_then (hcp2.alloc hcp2.size (.cells #[.slice none 0 0, .bool false] 38)) hbps (Nat.le_trans hcp2.size (by simp)); have hzps := hcps.size; replace hwp0 := (hwp0.alloc (.cells #[.slice none 0 0, .bool false] 38)).below hbps; replace hwp1 := (hwp1.alloc (.cells #[.slice none 0 0, .bool false] 38)).below hbps; replace hwp2 := (hwp2.alloc (.cells #[.slice none 0 0, .bool false] 38)).below hbps; replace hwp3 := (hwp3.alloc (.cells #[.slice none 0 0, .bool false] 38)).below hbps; have hy0_ : w.heap.size < wp2.heap.size := (by omega); have hn0_ : ¬ wp2.heap.size = w.heap.size := (by omega); have hv0_ : ¬ w.heap.size = wp2.heap.size := (by omega); have hy1_ : w.heap.size + 1 < wp2.heap.size := (by omega); have hn1_ : ¬ wp2.heap.size = w.heap.size + 1 := (by omega); have hv1_ : ¬ w.heap.size + 1 = wp2.heap.size := (by omega); replace hbox := hbox.below hbps; obtain ⟨x0_, x1_, x2_, x3_⟩ := hbox.two; obtain ⟨kpshb0_0, kpshb0_1, kpshb0_2⟩ := (hb0.below hcps).cells3; obtain ⟨kpshb1_0, kpshb1_1⟩ := (hb1.below hcps).cells2)))
    all_goals (go_wp2_with fail; go_meet)
    all_goals first | exact ResMid.first hcps (by first | omega | (simp; omega)) hF0_ (by first | omega | (simp; omega)) (by first | omega | (simp; omega)) hbox rfl | exact ResMid.last hcps (by first | omega | (simp; omega)) hF0_
  obtain ⟨wkp, rfl⟩ : ∃ W : World, W = wc := ⟨_, rfl⟩
  obtain ⟨grp, B0, q0, lop, hip, rfl, rfl, hgrp, hglp, hlop, hdp, hhip, hR0, hF0, hb⟩ := hcut
  have hz3 : v2.heap.size ≤ wkp.heap.size := by have := hb.size; simpa using this
  replace ht := below_then ht hb ht.size
  replace hb0 := hb0.below hb
  replace hb1 := hb1.below hb
  clear hb
  replace hR0 : Whole wkp grp 38 #[.slice B0 (rideBits x0 x1 n1 k0 x2 t0 x3).length q0, .bool (rideTorch x0 x1 n1 k0 x2 t0 x3)] := hR0
  clear hb0_0 hb0_1 hb0_2 hb0_l hb1_0 hb1_1 hb1_l
  obtain ⟨hb0_0, hb0_1, hb0_2⟩ := hb0.cells3
  have hb0_l := hb0.lt
  obtain ⟨hb1_0, hb1_1⟩ := hb1.cells2
  have hb1_l := hb1.lt
  obtain ⟨hR0_0, hR0_1⟩ := hR0.cells2
  have hR0_l := hR0.lt
  -- region 11
  go_wp2_with fail
  refine (toCrew_own A0 n0 c0 x0 A1 n1 c1 x1 k0 _ (by exact h0.below ht) (by exact h1.below ht) HX0.out HX1.out (by omega) (by omega)).mono ?_
  rintro e v3 ⟨gx0, gx1, rfl, hgx0, hwx0, hgx1, hwx1, hb⟩
  have hz4 : wkp.heap.size ≤ v3.heap.size := by have := hb.size; simpa using this
  replace ht := below_then ht hb ht.size
  replace hb0 := hb0.below hb
  replace hb1 := hb1.below hb
  replace hR0 := hR0.below hb
  replace hF0 := hF0.below hb
  have hgmx0 : wkp.heap.size ≤ gx1 ∧ gx1 < v3.heap.size := ⟨by have := hgx0; (try simp at this); omega, hwx1.lt⟩
  have hx0 := Fresh.of_whole (lo := wkp.heap.size) (hi := gx1) hwx0 (by simpa using hgx0) hgx1
  have hx1 := Fresh.of_whole (lo := gx1) (hi := v3.heap.size) hwx1 (Nat.le_refl _) hwx1.lt
  clear hgx0 hwx0 hgx1 hwx1
  clear hb
  have hx90 := Whole.fresh v3 40 #[.slice (some ⟨gx0, 0, none⟩) n0 n0, .slice (some ⟨gx1, 0, none⟩) n1 n1, .int .i64 k0]
  replace ht := ht.alloc ht.size (.cells #[.slice (some ⟨gx0, 0, none⟩) n0 n0, .slice (some ⟨gx1, 0, none⟩) n1 n1, .int .i64 k0] 40)
  replace hb0 := hb0.alloc (.cells #[.slice (some ⟨gx0, 0, none⟩) n0 n0, .slice (some ⟨gx1, 0, none⟩) n1 n1, .int .i64 k0] 40)
  replace hb1 := hb1.alloc (.cells #[.slice (some ⟨gx0, 0, none⟩) n0 n0, .slice (some ⟨gx1, 0, none⟩) n1 n1, .int .i64 k0] 40)
  replace hR0 := hR0.alloc (.cells #[.slice (some ⟨gx0, 0, none⟩) n0 n0, .slice (some ⟨gx1, 0, none⟩) n1 n1, .int .i64 k0] 40)
  replace hF0 := hF0.alloc (.cells #[.slice (some ⟨gx0, 0, none⟩) n0 n0, .slice (some ⟨gx1, 0, none⟩) n1 n1, .int .i64 k0] 40)
  replace hx0 := hx0.alloc (.cells #[.slice (some ⟨gx0, 0, none⟩) n0 n0, .slice (some ⟨gx1, 0, none⟩) n1 n1, .int .i64 k0] 40)
  replace hx1 := hx1.alloc (.cells #[.slice (some ⟨gx0, 0, none⟩) n0 n0, .slice (some ⟨gx1, 0, none⟩) n1 n1, .int .i64 k0] 40)
  clear hb0_0 hb0_1 hb0_2 hb0_l hb1_0 hb1_1 hb1_l hR0_0 hR0_1 hR0_l
  obtain ⟨hb0_0, hb0_1, hb0_2⟩ := hb0.cells3
  have hb0_l := hb0.lt
  obtain ⟨hb1_0, hb1_1⟩ := hb1.cells2
  have hb1_l := hb1.lt
  obtain ⟨hR0_0, hR0_1⟩ := hR0.cells2
  have hR0_l := hR0.lt
  obtain ⟨hx90_0, hx90_1, hx90_2⟩ := hx90.cells3
  have hx90_l := hx90.lt
  -- region 12
  go_wp2_with fail
  refine (toState_own A2 n2 c2 x2 t0 _ (by exact h2.below ht) HX2.out (by omega)).mono ?_
  rintro e v4 ⟨gx2, rfl, hgx2, hwx2, hb⟩
  have hz5 : v3.heap.size + 1 ≤ v4.heap.size := by have := hb.size; simpa using this
  replace ht := below_then ht hb ht.size
  replace hb0 := hb0.below hb
  replace hb1 := hb1.below hb
  replace hR0 := hR0.below hb
  replace hF0 := hF0.below hb
  replace hx0 := hx0.below hb
  replace hx1 := hx1.below hb
  replace hx90 := hx90.below hb
  have hx2 := Fresh.of_whole (lo := v3.heap.size + 1) (hi := v4.heap.size) hwx2 (by simpa using hgx2) hwx2.lt
  clear hgx2 hwx2
  clear hb
  have hx91 := Whole.fresh v4 38 #[.slice (some ⟨gx2, 0, none⟩) n2 n2, .bool t0]
  replace ht := ht.alloc ht.size (.cells #[.slice (some ⟨gx2, 0, none⟩) n2 n2, .bool t0] 38)
  replace hb0 := hb0.alloc (.cells #[.slice (some ⟨gx2, 0, none⟩) n2 n2, .bool t0] 38)
  replace hb1 := hb1.alloc (.cells #[.slice (some ⟨gx2, 0, none⟩) n2 n2, .bool t0] 38)
  replace hR0 := hR0.alloc (.cells #[.slice (some ⟨gx2, 0, none⟩) n2 n2, .bool t0] 38)
  replace hF0 := hF0.alloc (.cells #[.slice (some ⟨gx2, 0, none⟩) n2 n2, .bool t0] 38)
  replace hx0 := hx0.alloc (.cells #[.slice (some ⟨gx2, 0, none⟩) n2 n2, .bool t0] 38)
  replace hx1 := hx1.alloc (.cells #[.slice (some ⟨gx2, 0, none⟩) n2 n2, .bool t0] 38)
  replace hx90 := hx90.alloc (.cells #[.slice (some ⟨gx2, 0, none⟩) n2 n2, .bool t0] 38)
  replace hx2 := hx2.alloc (.cells #[.slice (some ⟨gx2, 0, none⟩) n2 n2, .bool t0] 38)
  clear hb0_0 hb0_1 hb0_2 hb0_l hb1_0 hb1_1 hb1_l hR0_0 hR0_1 hR0_l hx90_0 hx90_1 hx90_2 hx90_l
  obtain ⟨hb0_0, hb0_1, hb0_2⟩ := hb0.cells3
  have hb0_l := hb0.lt
  obtain ⟨hb1_0, hb1_1⟩ := hb1.cells2
  have hb1_l := hb1.lt
  obtain ⟨hR0_0, hR0_1⟩ := hR0.cells2
  have hR0_l := hR0.lt
  obtain ⟨hx90_0, hx90_1, hx90_2⟩ := hx90.cells3
  have hx90_l := hx90.lt
  obtain ⟨hx91_0, hx91_1⟩ := hx91.cells2
  have hx91_l := hx91.lt
  -- region 13
  go_wp2_with fail
  refine (toIntS_own A3 n3 c3 x3 _ (by exact h3.below ht) HX3.out (by omega)).mono ?_
  rintro e v5 ⟨gx3, rfl, hgx3, hwx3, hb⟩
  have hz6 : v4.heap.size + 1 ≤ v5.heap.size := by have := hb.size; simpa using this
  replace ht := below_then ht hb ht.size
  replace hb0 := hb0.below hb
  replace hb1 := hb1.below hb
  replace hR0 := hR0.below hb
  replace hF0 := hF0.below hb
  replace hx0 := hx0.below hb
  replace hx1 := hx1.below hb
  replace hx90 := hx90.below hb
  replace hx2 := hx2.below hb
  replace hx91 := hx91.below hb
  have hx3 := Fresh.of_whole (lo := v4.heap.size + 1) (hi := v5.heap.size) hwx3 (by simpa using hgx3) hwx3.lt
  clear hgx3 hwx3
  clear hb
  clear hb0_0 hb0_1 hb0_2 hb0_l hb1_0 hb1_1 hb1_l hR0_0 hR0_1 hR0_l hx90_0 hx90_1 hx90_2 hx90_l hx91_0 hx91_1 hx91_l
  obtain ⟨hb0_0, hb0_1, hb0_2⟩ := hb0.cells3
  have hb0_l := hb0.lt
  obtain ⟨hb1_0, hb1_1⟩ := hb1.cells2
  have hb1_l := hb1.lt
  obtain ⟨hR0_0, hR0_1⟩ := hR0.cells2
  have hR0_l := hR0.lt
  obtain ⟨hx90_0, hx90_1, hx90_2⟩ := hx90.cells3
  have hx90_l := hx90.lt
  obtain ⟨hx91_0, hx91_1⟩ := hx91.cells2
  have hx91_l := hx91.lt
  -- region 14
  go_wp2_with fail
  refine (implRideWithCrew_any _ n0 _ n1 _ x0 x1 k0 _ n2 _ x2 t0 _ n3 _ x3 _ (by exact hx0.holds) (by exact hx1.holds) (by exact hx2.holds) (by exact hx3.holds) HX0.out HX1.out HX2.out HX3.out (by omega) (by omega) (by omega)).mono ?_
  rintro e v6 ⟨B1, q1, rfl, hF1, hb⟩
  have hz7 : v5.heap.size ≤ v6.heap.size := by have := hb.size; simpa using this
  replace ht := below_then ht hb ht.size
  replace hb0 := hb0.below hb
  replace hb1 := hb1.below hb
  replace hR0 := hR0.below hb
  replace hF0 := hF0.below hb
  replace hx0 := hx0.below hb
  replace hx1 := hx1.below hb
  replace hx90 := hx90.below hb
  replace hx2 := hx2.below hb
  replace hx91 := hx91.below hb
  replace hx3 := hx3.below hb
  replace hF1 := hF1.more (lo' := v5.heap.size) (hi' := v6.heap.size) (by simp) (Nat.le_refl _)
  have hR1 := Whole.fresh v6 38 #[.slice B1 (rideBits x0 x1 n1 k0 x2 t0 x3).length q1, .bool (rideTorch x0 x1 n1 k0 x2 t0 x3)]
  replace ht := ht.alloc ht.size (.cells #[.slice B1 (rideBits x0 x1 n1 k0 x2 t0 x3).length q1, .bool (rideTorch x0 x1 n1 k0 x2 t0 x3)] 38)
  replace hb0 := hb0.alloc (.cells #[.slice B1 (rideBits x0 x1 n1 k0 x2 t0 x3).length q1, .bool (rideTorch x0 x1 n1 k0 x2 t0 x3)] 38)
  replace hb1 := hb1.alloc (.cells #[.slice B1 (rideBits x0 x1 n1 k0 x2 t0 x3).length q1, .bool (rideTorch x0 x1 n1 k0 x2 t0 x3)] 38)
  replace hR0 := hR0.alloc (.cells #[.slice B1 (rideBits x0 x1 n1 k0 x2 t0 x3).length q1, .bool (rideTorch x0 x1 n1 k0 x2 t0 x3)] 38)
  replace hF0 := hF0.alloc (.cells #[.slice B1 (rideBits x0 x1 n1 k0 x2 t0 x3).length q1, .bool (rideTorch x0 x1 n1 k0 x2 t0 x3)] 38)
  replace hx0 := hx0.alloc (.cells #[.slice B1 (rideBits x0 x1 n1 k0 x2 t0 x3).length q1, .bool (rideTorch x0 x1 n1 k0 x2 t0 x3)] 38)
  replace hx1 := hx1.alloc (.cells #[.slice B1 (rideBits x0 x1 n1 k0 x2 t0 x3).length q1, .bool (rideTorch x0 x1 n1 k0 x2 t0 x3)] 38)
  replace hx90 := hx90.alloc (.cells #[.slice B1 (rideBits x0 x1 n1 k0 x2 t0 x3).length q1, .bool (rideTorch x0 x1 n1 k0 x2 t0 x3)] 38)
  replace hx2 := hx2.alloc (.cells #[.slice B1 (rideBits x0 x1 n1 k0 x2 t0 x3).length q1, .bool (rideTorch x0 x1 n1 k0 x2 t0 x3)] 38)
  replace hx91 := hx91.alloc (.cells #[.slice B1 (rideBits x0 x1 n1 k0 x2 t0 x3).length q1, .bool (rideTorch x0 x1 n1 k0 x2 t0 x3)] 38)
  replace hx3 := hx3.alloc (.cells #[.slice B1 (rideBits x0 x1 n1 k0 x2 t0 x3).length q1, .bool (rideTorch x0 x1 n1 k0 x2 t0 x3)] 38)
  replace hF1 := hF1.alloc (.cells #[.slice B1 (rideBits x0 x1 n1 k0 x2 t0 x3).length q1, .bool (rideTorch x0 x1 n1 k0 x2 t0 x3)] 38)
  clear hb
  clear hb0_0 hb0_1 hb0_2 hb0_l hb1_0 hb1_1 hb1_l hR0_0 hR0_1 hR0_l hx90_0 hx90_1 hx90_2 hx90_l hx91_0 hx91_1 hx91_l
  obtain ⟨hb0_0, hb0_1, hb0_2⟩ := hb0.cells3
  have hb0_l := hb0.lt
  obtain ⟨hb1_0, hb1_1⟩ := hb1.cells2
  have hb1_l := hb1.lt
  obtain ⟨hR0_0, hR0_1⟩ := hR0.cells2
  have hR0_l := hR0.lt
  obtain ⟨hx90_0, hx90_1, hx90_2⟩ := hx90.cells3
  have hx90_l := hx90.lt
  obtain ⟨hx91_0, hx91_1⟩ := hx91.cells2
  have hx91_l := hx91.lt
  obtain ⟨hR1_0, hR1_1⟩ := hR1.cells2
  have hR1_l := hR1.lt
  -- region 15
  go_wp2_with fail
  refine (eqState_yes B1 B0 (rideBits x0 x1 n1 k0 x2 t0 x3).length q1 q0 (rideBits x0 x1 n1 k0 x2 t0 x3) (rideTorch x0 x1 n1 k0 x2 t0 x3) _ (by exact hF1.holds) (by exact hF0.holds) rfl (by omega)).mono ?_
  rintro e v7 ⟨rfl, hb⟩
  have hz8 : v6.heap.size + 1 ≤ v7.heap.size := by have := hb.size; simpa using this
  replace ht := below_then ht hb ht.size
  replace hb0 := hb0.below hb
  replace hb1 := hb1.below hb
  replace hR0 := hR0.below hb
  replace hF0 := hF0.below hb
  replace hx0 := hx0.below hb
  replace hx1 := hx1.below hb
  replace hx90 := hx90.below hb
  replace hx2 := hx2.below hb
  replace hx91 := hx91.below hb
  replace hx3 := hx3.below hb
  replace hF1 := hF1.below hb
  replace hR1 := hR1.below hb
  clear hb
  clear hb0_0 hb0_1 hb0_2 hb0_l hb1_0 hb1_1 hb1_l hR0_0 hR0_1 hR0_l hx90_0 hx90_1 hx90_2 hx90_l hx91_0 hx91_1 hx91_l hR1_0 hR1_1 hR1_l
  obtain ⟨hb0_0, hb0_1, hb0_2⟩ := hb0.cells3
  have hb0_l := hb0.lt
  obtain ⟨hb1_0, hb1_1⟩ := hb1.cells2
  have hb1_l := hb1.lt
  obtain ⟨hR0_0, hR0_1⟩ := hR0.cells2
  have hR0_l := hR0.lt
  obtain ⟨hx90_0, hx90_1, hx90_2⟩ := hx90.cells3
  have hx90_l := hx90.lt
  obtain ⟨hx91_0, hx91_1⟩ := hx91.cells2
  have hx91_l := hx91.lt
  obtain ⟨hR1_0, hR1_1⟩ := hR1.cells2
  have hR1_l := hR1.lt
  -- region 17
  clear hb0_0 hb0_1 hb0_2 hb0_l hb1_0 hb1_1 hb1_l hR0_0 hR0_1 hR0_l hx90_0 hx90_1 hx90_2 hx90_l hx91_0 hx91_1 hx91_l hR1_0 hR1_1 hR1_l
  go_wp2_with fail
  refine wp_region_held_drew (S := (fun w' => w'.cell? ⟨w.heap.size, 0, none⟩ = some (.slice A0 n0 c0) ∧ w'.cell? ⟨w.heap.size, 1, none⟩ = some (.slice A1 n1 c1) ∧ w'.cell? ⟨w.heap.size, 2, none⟩ = some (.int .i64 k0) ∧ w'.cell? ⟨w.heap.size + 1, 0, none⟩ = some (.slice A2 n2 c2) ∧ w'.cell? ⟨w.heap.size + 1, 1, none⟩ = some (.bool t0) ∧ w'.cell? ⟨grp, 0, none⟩ = some (.slice B0 (rideBits x0 x1 n1 k0 x2 t0 x3).length q0) ∧ w'.cell? ⟨grp, 1, none⟩ = some (.bool (rideTorch x0 x1 n1 k0 x2 t0 x3)) ∧ w'.cell? ⟨v3.heap.size, 0, none⟩ = some (.slice (some ⟨gx0, 0, none⟩) n0 n0) ∧ w'.cell? ⟨v3.heap.size, 1, none⟩ = some (.slice (some ⟨gx1, 0, none⟩) n1 n1) ∧ w'.cell? ⟨v3.heap.size, 2, none⟩ = some (.int .i64 k0) ∧ w'.cell? ⟨v4.heap.size, 0, none⟩ = some (.slice (some ⟨gx2, 0, none⟩) n2 n2) ∧ w'.cell? ⟨v4.heap.size, 1, none⟩ = some (.bool t0) ∧ w'.cell? ⟨v6.heap.size, 0, none⟩ = some (.slice B1 (rideBits x0 x1 n1 k0 x2 t0 x3).length q1) ∧ w'.cell? ⟨v6.heap.size, 1, none⟩ = some (.bool (rideTorch x0 x1 n1 k0 x2 t0 x3)))) (by kernel_rfl) ⟨hb0.drew.cell 0, hb0.drew.cell 1, hb0.drew.cell 2, hb1.drew.cell 0, hb1.drew.cell 1, hR0.drew.cell 0, hR0.drew.cell 1, hx90.drew.cell 0, hx90.drew.cell 1, hx90.drew.cell 2, hx91.drew.cell 0, hx91.drew.cell 1, hR1.drew.cell 0, hR1.drew.cell 1⟩ (fun hHeld => ?_)
  replace ht := ht.drew
  replace hb0 := hb0.drew
  replace hb1 := hb1.drew
  replace hR0 := hR0.drew
  replace hF0 := hF0.drew
  replace hx0 := hx0.drew
  replace hx1 := hx1.drew
  replace hx90 := hx90.drew
  replace hx2 := hx2.drew
  replace hx91 := hx91.drew
  replace hx3 := hx3.drew
  replace hF1 := hF1.drew
  replace hR1 := hR1.drew
  refine wpAnyH_take (i := 0) (v := ?_) rfl (by kernel_rfl) (by kernel_rfl) (by kernel_rfl) (fun _ _ _ h => h) (Or.inl ⟨rfl, ?_⟩) hHeld ?_
  rotate_left
  · intro w' hS; obtain ⟨s0, s1, s2, s3, s4, s5, s6, s7, s8, s9, s10, s11, s12, s13⟩ := hS; go_simp <;> with_reducible rfl
  simp only [Act.put, List.getElem_toArray, List.getElem_cons_succ, List.getElem_cons_zero, List.setIfInBounds_toArray, List.set_cons_succ, List.set_cons_zero]
  refine wpAnyH_take (i := 1) (v := ?_) rfl (by kernel_rfl) (by kernel_rfl) (by kernel_rfl) (fun _ _ _ h => h) (Or.inl ⟨rfl, ?_⟩) hHeld ?_
  rotate_left
  · intro w' hS; obtain ⟨s0, s1, s2, s3, s4, s5, s6, s7, s8, s9, s10, s11, s12, s13⟩ := hS; go_simp <;> with_reducible rfl
  simp only [Act.put, List.getElem_toArray, List.getElem_cons_succ, List.getElem_cons_zero, List.setIfInBounds_toArray, List.set_cons_succ, List.set_cons_zero]
  refine wpAnyH_ready (rs := [2]) (by kernel_rfl) (by simp) (AllReadyH.cons rfl (fun K hK => ?_) AllReadyH.nil)
  go_simp
  refine (toCrew_own A0 n0 c0 x0 A1 n1 c1 x1 k0 _ (by exact h0.below ht) (by exact h1.below ht) HX0.out HX1.out (by omega) (by omega)).mono ?_
  rintro e v8 ⟨gy0, gy1, rfl, hgy0, hwy0, hgy1, hwy1, hb⟩
  have hz9 : v7.heap.size ≤ v8.heap.size := by have := hb.size; simpa using this
  replace ht := below_then ht hb ht.size
  replace hb0 := hb0.below hb
  replace hb1 := hb1.below hb
  replace hR0 := hR0.below hb
  replace hF0 := hF0.below hb
  replace hx0 := hx0.below hb
  replace hx1 := hx1.below hb
  replace hx90 := hx90.below hb
  replace hx2 := hx2.below hb
  replace hx91 := hx91.below hb
  replace hx3 := hx3.below hb
  replace hF1 := hF1.below hb
  replace hR1 := hR1.below hb
  have hgmy0 : v7.heap.size ≤ gy1 ∧ gy1 < v8.heap.size := ⟨by have := hgy0; (try simp at this); omega, hwy1.lt⟩
  have hy0 := Fresh.of_whole (lo := v7.heap.size) (hi := gy1) hwy0 (by simpa using hgy0) hgy1
  have hy1 := Fresh.of_whole (lo := gy1) (hi := v8.heap.size) hwy1 (Nat.le_refl _) hwy1.lt
  clear hgy0 hwy0 hgy1 hwy1
  clear hb
  refine hK.out _ _ ⟨hb0.cell 0, hb0.cell 1, hb0.cell 2, hb1.cell 0, hb1.cell 1, hR0.cell 0, hR0.cell 1, hx90.cell 0, hx90.cell 1, hx90.cell 2, hx91.cell 0, hx91.cell 1, hR1.cell 0, hR1.cell 1⟩ (fun hHeld => ?_)
  clear hK K
  try simp only [Act.put, List.getElem_toArray, List.getElem_cons_succ, List.getElem_cons_zero, List.setIfInBounds_toArray, List.set_cons_succ, List.set_cons_zero]
  refine wpAnyH_ready (rs := [3]) (by kernel_rfl) (by simp) (AllReadyH.cons rfl (fun K hK => ?_) AllReadyH.nil)
  go_simp
  refine (eqCrew_yes _ _ n0 _ _ x0 _ _ n1 _ _ x1 k0 _ (by exact hx0.holds) (by exact hy0.holds) (by exact hx1.holds) (by exact hy1.holds) HX0.out HX1.out (by omega) (by omega)).mono ?_
  rintro e v9 ⟨rfl, hb⟩
  have hz10 : v8.heap.size ≤ v9.heap.size := by have := hb.size; simpa using this
  replace ht := below_then ht hb ht.size
  replace hb0 := hb0.below hb
  replace hb1 := hb1.below hb
  replace hR0 := hR0.below hb
  replace hF0 := hF0.below hb
  replace hx0 := hx0.below hb
  replace hx1 := hx1.below hb
  replace hx90 := hx90.below hb
  replace hx2 := hx2.below hb
  replace hx91 := hx91.below hb
  replace hx3 := hx3.below hb
  replace hF1 := hF1.below hb
  replace hR1 := hR1.below hb
  replace hy0 := hy0.below hb
  replace hy1 := hy1.below hb
  clear hb
  clear hy0 hy1
  refine hK.out _ _ ⟨hb0.cell 0, hb0.cell 1, hb0.cell 2, hb1.cell 0, hb1.cell 1, hR0.cell 0, hR0.cell 1, hx90.cell 0, hx90.cell 1, hx90.cell 2, hx91.cell 0, hx91.cell 1, hR1.cell 0, hR1.cell 1⟩ (fun hHeld => ?_)
  clear hK K
  try simp only [Act.put, List.getElem_toArray, List.getElem_cons_succ, List.getElem_cons_zero, List.setIfInBounds_toArray, List.set_cons_succ, List.set_cons_zero]
  refine wpAnyH_take (i := 4) (v := ?_) rfl (by kernel_rfl) (by kernel_rfl) (by kernel_rfl) (fun _ _ _ h => h) (Or.inl ⟨rfl, ?_⟩) hHeld ?_
  rotate_left
  · intro w' hS; obtain ⟨s0, s1, s2, s3, s4, s5, s6, s7, s8, s9, s10, s11, s12, s13⟩ := hS; go_simp <;> with_reducible rfl
  simp only [Act.put, List.getElem_toArray, List.getElem_cons_succ, List.getElem_cons_zero, List.setIfInBounds_toArray, List.set_cons_succ, List.set_cons_zero]
  refine wpAnyH_done (by kernel_rfl) ?_ _
  clear hHeld
  obtain ⟨hb0_0, hb0_1, hb0_2⟩ := hb0.cells3
  have hb0_l := hb0.lt
  obtain ⟨hb1_0, hb1_1⟩ := hb1.cells2
  have hb1_l := hb1.lt
  obtain ⟨hR0_0, hR0_1⟩ := hR0.cells2
  have hR0_l := hR0.lt
  obtain ⟨hx90_0, hx90_1, hx90_2⟩ := hx90.cells3
  have hx90_l := hx90.lt
  obtain ⟨hx91_0, hx91_1⟩ := hx91.cells2
  have hx91_l := hx91.lt
  obtain ⟨hR1_0, hR1_1⟩ := hR1.cells2
  have hR1_l := hR1.lt
  -- region 19
  clear hb0_0 hb0_1 hb0_2 hb0_l hb1_0 hb1_1 hb1_l hR0_0 hR0_1 hR0_l hx90_0 hx90_1 hx90_2 hx90_l hx91_0 hx91_1 hx91_l hR1_0 hR1_1 hR1_l
  go_wp2_with fail
  refine wp_region_held_drew (S := (fun w' => w'.cell? ⟨w.heap.size, 0, none⟩ = some (.slice A0 n0 c0) ∧ w'.cell? ⟨w.heap.size, 1, none⟩ = some (.slice A1 n1 c1) ∧ w'.cell? ⟨w.heap.size, 2, none⟩ = some (.int .i64 k0) ∧ w'.cell? ⟨w.heap.size + 1, 0, none⟩ = some (.slice A2 n2 c2) ∧ w'.cell? ⟨w.heap.size + 1, 1, none⟩ = some (.bool t0) ∧ w'.cell? ⟨grp, 0, none⟩ = some (.slice B0 (rideBits x0 x1 n1 k0 x2 t0 x3).length q0) ∧ w'.cell? ⟨grp, 1, none⟩ = some (.bool (rideTorch x0 x1 n1 k0 x2 t0 x3)) ∧ w'.cell? ⟨v3.heap.size, 0, none⟩ = some (.slice (some ⟨gx0, 0, none⟩) n0 n0) ∧ w'.cell? ⟨v3.heap.size, 1, none⟩ = some (.slice (some ⟨gx1, 0, none⟩) n1 n1) ∧ w'.cell? ⟨v3.heap.size, 2, none⟩ = some (.int .i64 k0) ∧ w'.cell? ⟨v4.heap.size, 0, none⟩ = some (.slice (some ⟨gx2, 0, none⟩) n2 n2) ∧ w'.cell? ⟨v4.heap.size, 1, none⟩ = some (.bool t0) ∧ w'.cell? ⟨v6.heap.size, 0, none⟩ = some (.slice B1 (rideBits x0 x1 n1 k0 x2 t0 x3).length q1) ∧ w'.cell? ⟨v6.heap.size, 1, none⟩ = some (.bool (rideTorch x0 x1 n1 k0 x2 t0 x3)))) (by kernel_rfl) ⟨hb0.drew.cell 0, hb0.drew.cell 1, hb0.drew.cell 2, hb1.drew.cell 0, hb1.drew.cell 1, hR0.drew.cell 0, hR0.drew.cell 1, hx90.drew.cell 0, hx90.drew.cell 1, hx90.drew.cell 2, hx91.drew.cell 0, hx91.drew.cell 1, hR1.drew.cell 0, hR1.drew.cell 1⟩ (fun hHeld => ?_)
  replace ht := ht.drew
  replace hb0 := hb0.drew
  replace hb1 := hb1.drew
  replace hR0 := hR0.drew
  replace hF0 := hF0.drew
  replace hx0 := hx0.drew
  replace hx1 := hx1.drew
  replace hx90 := hx90.drew
  replace hx2 := hx2.drew
  replace hx91 := hx91.drew
  replace hx3 := hx3.drew
  replace hF1 := hF1.drew
  replace hR1 := hR1.drew
  refine wpAnyH_take (i := 0) (v := ?_) rfl (by kernel_rfl) (by kernel_rfl) (by kernel_rfl) (fun _ _ _ h => h) (Or.inl ⟨rfl, ?_⟩) hHeld ?_
  rotate_left
  · intro w' hS; obtain ⟨s0, s1, s2, s3, s4, s5, s6, s7, s8, s9, s10, s11, s12, s13⟩ := hS; go_simp <;> with_reducible rfl
  simp only [Act.put, List.getElem_toArray, List.getElem_cons_succ, List.getElem_cons_zero, List.setIfInBounds_toArray, List.set_cons_succ, List.set_cons_zero]
  refine wpAnyH_take (i := 1) (v := ?_) rfl (by kernel_rfl) (by kernel_rfl) (by kernel_rfl) (fun _ _ _ h => h) (Or.inl ⟨rfl, ?_⟩) hHeld ?_
  rotate_left
  · intro w' hS; obtain ⟨s0, s1, s2, s3, s4, s5, s6, s7, s8, s9, s10, s11, s12, s13⟩ := hS; go_simp <;> with_reducible rfl
  simp only [Act.put, List.getElem_toArray, List.getElem_cons_succ, List.getElem_cons_zero, List.setIfInBounds_toArray, List.set_cons_succ, List.set_cons_zero]
  refine wpAnyH_ready (rs := [2]) (by kernel_rfl) (by simp) (AllReadyH.cons rfl (fun K hK => ?_) AllReadyH.nil)
  go_simp
  refine (toState_own A2 n2 c2 x2 t0 _ (by exact h2.below ht) HX2.out (by omega)).mono ?_
  rintro e v10 ⟨gy2, rfl, hgy2, hwy2, hb⟩
  have hz11 : v9.heap.size ≤ v10.heap.size := by have := hb.size; simpa using this
  replace ht := below_then ht hb ht.size
  replace hb0 := hb0.below hb
  replace hb1 := hb1.below hb
  replace hR0 := hR0.below hb
  replace hF0 := hF0.below hb
  replace hx0 := hx0.below hb
  replace hx1 := hx1.below hb
  replace hx90 := hx90.below hb
  replace hx2 := hx2.below hb
  replace hx91 := hx91.below hb
  replace hx3 := hx3.below hb
  replace hF1 := hF1.below hb
  replace hR1 := hR1.below hb
  have hy2 := Fresh.of_whole (lo := v9.heap.size) (hi := v10.heap.size) hwy2 (by simpa using hgy2) hwy2.lt
  clear hgy2 hwy2
  clear hb
  refine hK.out _ _ ⟨hb0.cell 0, hb0.cell 1, hb0.cell 2, hb1.cell 0, hb1.cell 1, hR0.cell 0, hR0.cell 1, hx90.cell 0, hx90.cell 1, hx90.cell 2, hx91.cell 0, hx91.cell 1, hR1.cell 0, hR1.cell 1⟩ (fun hHeld => ?_)
  clear hK K
  try simp only [Act.put, List.getElem_toArray, List.getElem_cons_succ, List.getElem_cons_zero, List.setIfInBounds_toArray, List.set_cons_succ, List.set_cons_zero]
  refine wpAnyH_ready (rs := [3]) (by kernel_rfl) (by simp) (AllReadyH.cons rfl (fun K hK => ?_) AllReadyH.nil)
  go_simp
  refine (eqState_yes _ _ n2 _ _ x2 t0 _ (by exact hx2.holds) (by exact hy2.holds) HX2.out (by omega)).mono ?_
  rintro e v11 ⟨rfl, hb⟩
  have hz12 : v10.heap.size ≤ v11.heap.size := by have := hb.size; simpa using this
  replace ht := below_then ht hb ht.size
  replace hb0 := hb0.below hb
  replace hb1 := hb1.below hb
  replace hR0 := hR0.below hb
  replace hF0 := hF0.below hb
  replace hx0 := hx0.below hb
  replace hx1 := hx1.below hb
  replace hx90 := hx90.below hb
  replace hx2 := hx2.below hb
  replace hx91 := hx91.below hb
  replace hx3 := hx3.below hb
  replace hF1 := hF1.below hb
  replace hR1 := hR1.below hb
  replace hy2 := hy2.below hb
  clear hb
  clear hy2
  refine hK.out _ _ ⟨hb0.cell 0, hb0.cell 1, hb0.cell 2, hb1.cell 0, hb1.cell 1, hR0.cell 0, hR0.cell 1, hx90.cell 0, hx90.cell 1, hx90.cell 2, hx91.cell 0, hx91.cell 1, hR1.cell 0, hR1.cell 1⟩ (fun hHeld => ?_)
  clear hK K
  try simp only [Act.put, List.getElem_toArray, List.getElem_cons_succ, List.getElem_cons_zero, List.setIfInBounds_toArray, List.set_cons_succ, List.set_cons_zero]
  refine wpAnyH_take (i := 4) (v := ?_) rfl (by kernel_rfl) (by kernel_rfl) (by kernel_rfl) (fun _ _ _ h => h) (Or.inl ⟨rfl, ?_⟩) hHeld ?_
  rotate_left
  · intro w' hS; obtain ⟨s0, s1, s2, s3, s4, s5, s6, s7, s8, s9, s10, s11, s12, s13⟩ := hS; go_simp <;> with_reducible rfl
  simp only [Act.put, List.getElem_toArray, List.getElem_cons_succ, List.getElem_cons_zero, List.setIfInBounds_toArray, List.set_cons_succ, List.set_cons_zero]
  refine wpAnyH_done (by kernel_rfl) ?_ _
  clear hHeld
  obtain ⟨hb0_0, hb0_1, hb0_2⟩ := hb0.cells3
  have hb0_l := hb0.lt
  obtain ⟨hb1_0, hb1_1⟩ := hb1.cells2
  have hb1_l := hb1.lt
  obtain ⟨hR0_0, hR0_1⟩ := hR0.cells2
  have hR0_l := hR0.lt
  obtain ⟨hx90_0, hx90_1, hx90_2⟩ := hx90.cells3
  have hx90_l := hx90.lt
  obtain ⟨hx91_0, hx91_1⟩ := hx91.cells2
  have hx91_l := hx91.lt
  obtain ⟨hR1_0, hR1_1⟩ := hR1.cells2
  have hR1_l := hR1.lt
  -- region 21
  go_wp2_with fail
  refine (toIntS_own A3 n3 c3 x3 _ (by exact h3.below ht) HX3.out (by omega)).mono ?_
  rintro e v12 ⟨gy3, rfl, hgy3, hwy3, hb⟩
  have hz13 : v11.heap.size ≤ v12.heap.size := by have := hb.size; simpa using this
  replace ht := below_then ht hb ht.size
  replace hb0 := hb0.below hb
  replace hb1 := hb1.below hb
  replace hR0 := hR0.below hb
  replace hF0 := hF0.below hb
  replace hx0 := hx0.below hb
  replace hx1 := hx1.below hb
  replace hx90 := hx90.below hb
  replace hx2 := hx2.below hb
  replace hx91 := hx91.below hb
  replace hx3 := hx3.below hb
  replace hF1 := hF1.below hb
  replace hR1 := hR1.below hb
  have hy3 := Fresh.of_whole (lo := v11.heap.size) (hi := v12.heap.size) hwy3 (by simpa using hgy3) hwy3.lt
  clear hgy3 hwy3
  clear hb
  clear hb0_0 hb0_1 hb0_2 hb0_l hb1_0 hb1_1 hb1_l hR0_0 hR0_1 hR0_l hx90_0 hx90_1 hx90_2 hx90_l hx91_0 hx91_1 hx91_l hR1_0 hR1_1 hR1_l
  obtain ⟨hb0_0, hb0_1, hb0_2⟩ := hb0.cells3
  have hb0_l := hb0.lt
  obtain ⟨hb1_0, hb1_1⟩ := hb1.cells2
  have hb1_l := hb1.lt
  obtain ⟨hR0_0, hR0_1⟩ := hR0.cells2
  have hR0_l := hR0.lt
  obtain ⟨hx90_0, hx90_1, hx90_2⟩ := hx90.cells3
  have hx90_l := hx90.lt
  obtain ⟨hx91_0, hx91_1⟩ := hx91.cells2
  have hx91_l := hx91.lt
  obtain ⟨hR1_0, hR1_1⟩ := hR1.cells2
  have hR1_l := hR1.lt
  go_wp2_with fail
  refine (eqIntS_yes _ _ n3 _ _ x3 _ (by exact hx3.holds) (by exact hy3.holds) HX3.out (by omega)).mono ?_
  rintro e v13 ⟨rfl, hb⟩
  have hz14 : v12.heap.size ≤ v13.heap.size := by have := hb.size; simpa using this
  replace ht := below_then ht hb ht.size
  replace hb0 := hb0.below hb
  replace hb1 := hb1.below hb
  replace hR0 := hR0.below hb
  replace hF0 := hF0.below hb
  replace hx0 := hx0.below hb
  replace hx1 := hx1.below hb
  replace hx90 := hx90.below hb
  replace hx2 := hx2.below hb
  replace hx91 := hx91.below hb
  replace hx3 := hx3.below hb
  replace hF1 := hF1.below hb
  replace hR1 := hR1.below hb
  replace hy3 := hy3.below hb
  clear hb
  clear hy3
  clear hb0_0 hb0_1 hb0_2 hb0_l hb1_0 hb1_1 hb1_l hR0_0 hR0_1 hR0_l hx90_0 hx90_1 hx90_2 hx90_l hx91_0 hx91_1 hx91_l hR1_0 hR1_1 hR1_l
  obtain ⟨hb0_0, hb0_1, hb0_2⟩ := hb0.cells3
  have hb0_l := hb0.lt
  obtain ⟨hb1_0, hb1_1⟩ := hb1.cells2
  have hb1_l := hb1.lt
  obtain ⟨hR0_0, hR0_1⟩ := hR0.cells2
  have hR0_l := hR0.lt
  obtain ⟨hx90_0, hx90_1, hx90_2⟩ := hx90.cells3
  have hx90_l := hx90.lt
  obtain ⟨hx91_0, hx91_1⟩ := hx91.cells2
  have hx91_l := hx91.lt
  obtain ⟨hR1_0, hR1_1⟩ := hR1.cells2
  have hR1_l := hR1.lt
  -- region 24
  go_wp2_with fail
  refine (markCrew_any (some ⟨gx0, 0, none⟩) n0 n0 _ _ _ _ (some ⟨gx1, 0, none⟩) n1 n1 _ k0 (1) _ hx0 hx1 (by rw [nums_len]; exact HX0.out) (by rw [bits_len]; exact HX1.out) (by omega) (by omega) (by omega) (by omega) (by omega) (by omega) (by omega)).mono ?_
  rintro e v14 ⟨rfl, hs, -⟩
  have hsz := ht.size
  replace ht := hs.below ht (by omega) hsz
  replace hb0 := hs.whole hb0 (by omega)
  replace hb1 := hs.whole hb1 (by omega)
  replace hR0 := hs.whole hR0 (by omega)
  replace hF0 := hs.fresh hF0 (by omega)
  replace hx2 := hs.fresh hx2 (by omega)
  replace hx91 := hs.whole hx91 (by omega)
  replace hx3 := hs.fresh hx3 (by omega)
  replace hF1 := hs.fresh hF1 (by omega)
  replace hR1 := hs.whole hR1 (by omega)
  clear hs hsz hx0 hx1 hx90
  have hk_1 : (0 : Int) ≤ 1 + (n0 : Int) + (n1 : Int) := by omega
  clear hb0_0 hb0_1 hb0_2 hb0_l hb1_0 hb1_1 hb1_l hR0_0 hR0_1 hR0_l hx90_0 hx90_1 hx90_2 hx90_l hx91_0 hx91_1 hx91_l hR1_0 hR1_1 hR1_l
  obtain ⟨hb0_0, hb0_1, hb0_2⟩ := hb0.cells3
  have hb0_l := hb0.lt
  obtain ⟨hb1_0, hb1_1⟩ := hb1.cells2
  have hb1_l := hb1.lt
  obtain ⟨hR0_0, hR0_1⟩ := hR0.cells2
  have hR0_l := hR0.lt
  obtain ⟨hx91_0, hx91_1⟩ := hx91.cells2
  have hx91_l := hx91.lt
  obtain ⟨hR1_0, hR1_1⟩ := hR1.cells2
  have hR1_l := hR1.lt
  -- region 25
  go_wp2_with fail
  refine (markState_any (some ⟨gx2, 0, none⟩) n2 n2 _ _ _ t0 (1 + (n0 : Int) + (n1 : Int)) _ hx2 (by rw [bits_len]; exact HX2.out) (by omega) (by omega) (by omega)).mono ?_
  rintro e v15 ⟨rfl, hs, -⟩
  have hsz := ht.size
  replace ht := hs.below ht (by omega) hsz
  replace hb0 := hs.whole hb0 (by omega)
  replace hb1 := hs.whole hb1 (by omega)
  replace hR0 := hs.whole hR0 (by omega)
  replace hF0 := hs.fresh hF0 (by omega)
  replace hx3 := hs.fresh hx3 (by omega)
  replace hF1 := hs.fresh hF1 (by omega)
  replace hR1 := hs.whole hR1 (by omega)
  clear hs hsz hx2 hx91
  have hk_2 : (0 : Int) ≤ 1 + (n0 : Int) + (n1 : Int) + (n2 : Int) := by omega
  clear hb0_0 hb0_1 hb0_2 hb0_l hb1_0 hb1_1 hb1_l hR0_0 hR0_1 hR0_l hx91_0 hx91_1 hx91_l hR1_0 hR1_1 hR1_l
  obtain ⟨hb0_0, hb0_1, hb0_2⟩ := hb0.cells3
  have hb0_l := hb0.lt
  obtain ⟨hb1_0, hb1_1⟩ := hb1.cells2
  have hb1_l := hb1.lt
  obtain ⟨hR0_0, hR0_1⟩ := hR0.cells2
  have hR0_l := hR0.lt
  obtain ⟨hR1_0, hR1_1⟩ := hR1.cells2
  have hR1_l := hR1.lt
  -- region 26
  go_wp2_with fail
  refine (markIntS_any (some ⟨gx3, 0, none⟩) n3 n3 _ _ _ (1 + (n0 : Int) + (n1 : Int) + (n2 : Int)) _ hx3 (by rw [nums_len]; exact HX3.out) (by omega) (by omega) (by omega)).mono ?_
  rintro e v16 ⟨rfl, hs, -⟩
  have hsz := ht.size
  replace ht := hs.below ht (by omega) hsz
  replace hb0 := hs.whole hb0 (by omega)
  replace hb1 := hs.whole hb1 (by omega)
  replace hR0 := hs.whole hR0 (by omega)
  replace hF0 := hs.fresh hF0 (by omega)
  replace hF1 := hs.fresh hF1 (by omega)
  replace hR1 := hs.whole hR1 (by omega)
  clear hs hsz hx3
  have hk_3 : (0 : Int) ≤ 1 + (n0 : Int) + (n1 : Int) + (n2 : Int) + (n3 : Int) := by omega
  clear hb0_0 hb0_1 hb0_2 hb0_l hb1_0 hb1_1 hb1_l hR0_0 hR0_1 hR0_l hR1_0 hR1_1 hR1_l
  obtain ⟨hb0_0, hb0_1, hb0_2⟩ := hb0.cells3
  have hb0_l := hb0.lt
  obtain ⟨hb1_0, hb1_1⟩ := hb1.cells2
  have hb1_l := hb1.lt
  obtain ⟨hR0_0, hR0_1⟩ := hR0.cells2
  have hR0_l := hR0.lt
  obtain ⟨hR1_0, hR1_1⟩ := hR1.cells2
  have hR1_l := hR1.lt
  -- region 27
  go_wp2_with fail
  refine (eqState_yes B1 B0 (rideBits x0 x1 n1 k0 x2 t0 x3).length q1 q0 (rideBits x0 x1 n1 k0 x2 t0 x3) (rideTorch x0 x1 n1 k0 x2 t0 x3) _ (by exact hF1.holds) (by exact hF0.holds) rfl (by omega)).mono ?_
  rintro e v17 ⟨rfl, hb⟩
  have hz18 : v16.heap.size ≤ v17.heap.size := by have := hb.size; simpa using this
  replace ht := below_then ht hb ht.size
  replace hb0 := hb0.below hb
  replace hb1 := hb1.below hb
  replace hR0 := hR0.below hb
  replace hF0 := hF0.below hb
  replace hF1 := hF1.below hb
  replace hR1 := hR1.below hb
  clear hb
  clear hb0_0 hb0_1 hb0_2 hb0_l hb1_0 hb1_1 hb1_l hR0_0 hR0_1 hR0_l hR1_0 hR1_1 hR1_l
  obtain ⟨hb0_0, hb0_1, hb0_2⟩ := hb0.cells3
  have hb0_l := hb0.lt
  obtain ⟨hb1_0, hb1_1⟩ := hb1.cells2
  have hb1_l := hb1.lt
  obtain ⟨hR0_0, hR0_1⟩ := hR0.cells2
  have hR0_l := hR0.lt
  obtain ⟨hR1_0, hR1_1⟩ := hR1.cells2
  have hR1_l := hR1.lt
  -- region 30
  go_wp2_with fail
  refine (markState_any B1 (rideBits x0 x1 n1 k0 x2 t0 x3).length q1 _ _ _ (rideTorch x0 x1 n1 k0 x2 t0 x3) 1 _ hF1 (by rw [bits_len]) (by omega) (by omega) hlen).mono ?_
  rintro e v18 ⟨rfl, hs, hM⟩
  have hsz := ht.size
  replace ht := hs.below ht (by omega) hsz
  replace hb0 := hs.whole hb0 (by omega)
  replace hb1 := hs.whole hb1 (by omega)
  replace hR0 := hs.whole hR0 (by omega)
  replace hF0 := hs.fresh hF0 (by omega)
  replace hR1 := hs.whole hR1 (by omega)
  clear hs hF1 hsz
  clear hb0_0 hb0_1 hb0_2 hb0_l hb1_0 hb1_1 hb1_l hR0_0 hR0_1 hR0_l hR1_0 hR1_1 hR1_l
  obtain ⟨hb0_0, hb0_1, hb0_2⟩ := hb0.cells3
  have hb0_l := hb0.lt
  obtain ⟨hb1_0, hb1_1⟩ := hb1.cells2
  have hb1_l := hb1.lt
  obtain ⟨hR0_0, hR0_1⟩ := hR0.cells2
  have hR0_l := hR0.lt
  obtain ⟨hR1_0, hR1_1⟩ := hR1.cells2
  have hR1_l := hR1.lt
  -- region 32
  go_wp2_with fail
  refine (heldState_any B1 (rideBits x0 x1 n1 k0 x2 t0 x3).length q1 (rideTorch x0 x1 n1 k0 x2 t0 x3) 1 _ (by exact hM.holds) (by omega) (by omega) hlen).mono ?_
  rintro e v19 ⟨rfl, hb⟩
  have hz20 : v18.heap.size ≤ v19.heap.size := by have := hb.size; simpa using this
  replace ht := below_then ht hb ht.size
  replace hb0 := hb0.below hb
  replace hb1 := hb1.below hb
  replace hR0 := hR0.below hb
  replace hF0 := hF0.below hb
  replace hR1 := hR1.below hb
  replace hM := hM.below hb
  clear hb
  have hm0 : (0 : Int) ≤ 1 + ((rideBits x0 x1 n1 k0 x2 t0 x3).length : Int) := by omega
  clear hb0_0 hb0_1 hb0_2 hb0_l hb1_0 hb1_1 hb1_l hR0_0 hR0_1 hR0_l hR1_0 hR1_1 hR1_l
  obtain ⟨hb0_0, hb0_1, hb0_2⟩ := hb0.cells3
  have hb0_l := hb0.lt
  obtain ⟨hb1_0, hb1_1⟩ := hb1.cells2
  have hb1_l := hb1.lt
  obtain ⟨hR0_0, hR0_1⟩ := hR0.cells2
  have hR0_l := hR0.lt
  obtain ⟨hR1_0, hR1_1⟩ := hR1.cells2
  have hR1_l := hR1.lt
  -- region 37
  have hbzrhb0 := hb0.lt
  have hbzrhb1 := hb1.lt
  go_upto_region 37 with fail
  go_cut [18, 19] (fun s8 s9 wx => ResMid 38 4 (fun A q => #[.slice A (rideBits x0 x1 n1 k0 x2 t0 x3).length q, .bool (rideTorch x0 x1 n1 k0 x2 t0 x3)]) (bits (rideBits x0 x1 n1 k0 x2 t0 x3)) (rideOk x0 x1 n1 k0 x2 t0 x3) v19 s8 s9 wx)
  case first =>
    go_region_held3 (fun w' => w'.cell? ⟨w.heap.size, 0, none⟩ = some (.slice A0 n0 c0) ∧ w'.cell? ⟨w.heap.size, 1, none⟩ = some (.slice A1 n1 c1) ∧ w'.cell? ⟨w.heap.size, 2, none⟩ = some (.int .i64 k0) ∧ w'.cell? ⟨w.heap.size + 1, 0, none⟩ = some (.slice A2 n2 c2) ∧ w'.cell? ⟨w.heap.size + 1, 1, none⟩ = some (.bool t0)) (go_keep)
      (first | (go_at_call 23; first | (refine (toCrew_own A0 n0 c0 x0 A1 n1 c1 x1 k0 _ (by exact h0.below (below_then ht (Below.refl v19.heap.size v19).drew ht.size)) (by exact h1.below (below_then ht (Below.refl v19.heap.size v19).drew ht.size)) HX0.out HX1.out (by omega) (by omega)).mono ?_; rintro e wr0 ⟨gr0, gr1, rfl, hgr0, hwr0, hgr1, hwr1, hbr0⟩; have hcr0 := below_then (Below.refl v19.heap.size v19).drew hbr0 (Nat.le_refl _); have hzr0 := hcr0.size; (try (replace hbox := hbox.below hbr0; clear x0_ x1_ x2_ x3_; obtain ⟨x0_, x1_, x2_, x3_⟩ := hbox.two)); obtain ⟨kr0hb0_0, kr0hb0_1, kr0hb0_2⟩ := (hb0.below hcr0).cells3; obtain ⟨kr0hb1_0, kr0hb1_1⟩ := (hb1.below hcr0).cells2) | (have hbox := Whole.fresh v19 38 #[.slice none 0 0, .bool false]; replace hbox := hbox.drew; refine (toCrew_own A0 n0 c0 x0 A1 n1 c1 x1 k0 _ (by exact h0.below (below_then ht ((Below.refl v19.heap.size v19).alloc (Nat.le_refl _) (.cells #[.slice none 0 0, .bool false] 38)).drew ht.size)) (by exact h1.below (below_then ht ((Below.refl v19.heap.size v19).alloc (Nat.le_refl _) (.cells #[.slice none 0 0, .bool false] 38)).drew ht.size)) HX0.out HX1.out (by omega) (by omega)).mono ?_; rintro e wr0 ⟨gr0, gr1, rfl, hgr0, hwr0, hgr1, hwr1, hbr0⟩; have hcr0 := below_then ((Below.refl v19.heap.size v19).alloc (Nat.le_refl _) (.cells #[.slice none 0 0, .bool false] 38)).drew hbr0 (by simp); have hzr0 := hcr0.size; have hy0_ : w.heap.size < v19.heap.size := (by omega); have hn0_ : ¬ v19.heap.size = w.heap.size := (by omega); have hv0_ : ¬ w.heap.size = v19.heap.size := (by omega); have hy1_ : w.heap.size + 1 < v19.heap.size := (by omega); have hn1_ : ¬ v19.heap.size = w.heap.size + 1 := (by omega); have hv1_ : ¬ w.heap.size + 1 = v19.heap.size := (by omega); replace hbox := hbox.below hbr0; obtain ⟨x0_, x1_, x2_, x3_⟩ := hbox.two; obtain ⟨kr0hb0_0, kr0hb0_1, kr0hb0_2⟩ := (hb0.below hcr0).cells3; obtain ⟨kr0hb1_0, kr0hb1_1⟩ := (hb1.below hcr0).cells2)) | (go_at_call 24; first | (refine (toState_own A2 n2 c2 x2 t0 _ (by exact h2.below (below_then ht hcr0 ht.size)) HX2.out (by omega)).mono ?_; rintro e wr1 ⟨gr2, rfl, hgr2, hwr2, hbr1⟩; have hcr1 := below_then hcr0 hbr1 hcr0.size; have hzr1 := hcr1.size; replace hwr0 := hwr0.below hbr1; replace hwr1 := hwr1.below hbr1; (try (replace hbox := hbox.below hbr1; clear x0_ x1_ x2_ x3_; obtain ⟨x0_, x1_, x2_, x3_⟩ := hbox.two)); obtain ⟨kr1hb0_0, kr1hb0_1, kr1hb0_2⟩ := (hb0.below hcr1).cells3; obtain ⟨kr1hb1_0, kr1hb1_1⟩ := (hb1.below hcr1).cells2) | (have hbox := Whole.fresh wr0 38 #[.slice none 0 0, .bool false]; refine (toState_own A2 n2 c2 x2 t0 _ (by exact h2.below (below_then ht (hcr0.alloc hcr0.size (.cells #[.slice none 0 0, .bool false] 38)) ht.size)) HX2.out (by omega)).mono ?_; rintro e wr1 ⟨gr2, rfl, hgr2, hwr2, hbr1⟩; have hcr1 := below_then (hcr0.alloc hcr0.size (.cells #[.slice none 0 0, .bool false] 38)) hbr1 (Nat.le_trans hcr0.size (by simp)); have hzr1 := hcr1.size; replace hwr0 := (hwr0.alloc (.cells #[.slice none 0 0, .bool false] 38)).below hbr1; replace hwr1 := (hwr1.alloc (.cells #[.slice none 0 0, .bool false] 38)).below hbr1; have hy0_ : w.heap.size < wr0.heap.size := (by omega); have hn0_ : ¬ wr0.heap.size = w.heap.size := (by omega); have hv0_ : ¬ w.heap.size = wr0.heap.size := (by omega); have hy1_ : w.heap.size + 1 < wr0.heap.size := (by omega); have hn1_ : ¬ wr0.heap.size = w.heap.size + 1 := (by omega); have hv1_ : ¬ w.heap.size + 1 = wr0.heap.size := (by omega); replace hbox := hbox.below hbr1; obtain ⟨x0_, x1_, x2_, x3_⟩ := hbox.two; obtain ⟨kr1hb0_0, kr1hb0_1, kr1hb0_2⟩ := (hb0.below hcr1).cells3; obtain ⟨kr1hb1_0, kr1hb1_1⟩ := (hb1.below hcr1).cells2)) | (go_at_call 34; first | (refine (toIntS_own A3 n3 c3 x3 _ (by exact h3.below (below_then ht hcr1 ht.size)) HX3.out (by omega)).mono ?_; rintro e wr2 ⟨gr3, rfl, hgr3, hwr3, hbr2⟩; have hcr2 := below_then hcr1 hbr2 hcr1.size; have hzr2 := hcr2.size; replace hwr0 := hwr0.below hbr2; replace hwr1 := hwr1.below hbr2; replace hwr2 := hwr2.below hbr2; (try (replace hbox := hbox.below hbr2; clear x0_ x1_ x2_ x3_; obtain ⟨x0_, x1_, x2_, x3_⟩ := hbox.two)); obtain ⟨kr2hb0_0, kr2hb0_1, kr2hb0_2⟩ := (hb0.below hcr2).cells3; obtain ⟨kr2hb1_0, kr2hb1_1⟩ := (hb1.below hcr2).cells2) | (have hbox := Whole.fresh wr1 38 #[.slice none 0 0, .bool false]; refine (toIntS_own A3 n3 c3 x3 _ (by exact h3.below (below_then ht (hcr1.alloc hcr1.size (.cells #[.slice none 0 0, .bool false] 38)) ht.size)) HX3.out (by omega)).mono ?_; rintro e wr2 ⟨gr3, rfl, hgr3, hwr3, hbr2⟩; have hcr2 := below_then (hcr1.alloc hcr1.size (.cells #[.slice none 0 0, .bool false] 38)) hbr2 (Nat.le_trans hcr1.size (by simp)); have hzr2 := hcr2.size; replace hwr0 := (hwr0.alloc (.cells #[.slice none 0 0, .bool false] 38)).below hbr2; replace hwr1 := (hwr1.alloc (.cells #[.slice none 0 0, .bool false] 38)).below hbr2; replace hwr2 := (hwr2.alloc (.cells #[.slice none 0 0, .bool false] 38)).below hbr2; have hy0_ : w.heap.size < wr1.heap.size := (by omega); have hn0_ : ¬ wr1.heap.size = w.heap.size := (by omega); have hv0_ : ¬ w.heap.size = wr1.heap.size := (by omega); have hy1_ : w.heap.size + 1 < wr1.heap.size := (by omega); have hn1_ : ¬ wr1.heap.size = w.heap.size + 1 := (by omega); have hv1_ : ¬ w.heap.size + 1 = wr1.heap.size := (by omega); replace hbox := hbox.below hbr2; obtain ⟨x0_, x1_, x2_, x3_⟩ := hbox.two; obtain ⟨kr2hb0_0, kr2hb0_1, kr2hb0_2⟩ := (hb0.below hcr2).cells3; obtain ⟨kr2hb1_0, kr2hb1_1⟩ := (hb1.below hcr2).cells2)) | (go_at_call 35; first | ((try (have hbxl := hbox.lt)); refine (implRideWithCrew_any _ n0 _ n1 _ x0 x1 k0 _ n2 _ x2 t0 _ n3 _ x3 _ (by exact hwr0.holds) (by exact hwr1.holds) (by exact hwr2.holds) (by exact hwr3.holds) HX0.out HX1.out HX2.out HX3.out (by omega) (by omega) (by omega)).mono ?_; rintro e wrs ⟨A0, q0, rfl, hF0_, hbrs⟩; have hcrs := below_then hcr2 hbrs hcr2.size; have hzrs := hcrs.size; replace hwr0 := hwr0.below hbrs; replace hwr1 := hwr1.below hbrs; replace hwr2 := hwr2.below hbrs; replace hwr3 := hwr3.below hbrs; (try (replace hbox := hbox.below hbrs; clear x0_ x1_ x2_ x3_; obtain ⟨x0_, x1_, x2_, x3_⟩ := hbox.two)); obtain ⟨krshb0_0, krshb0_1, krshb0_2⟩ := (hb0.below hcrs).cells3; obtain ⟨krshb1_0, krshb1_1⟩ := (hb1.below hcrs).cells2) | (have hbox := Whole.fresh wr2 38 #[.slice none 0 0, .bool false]; have hbxl := hbox.lt; refine (implRideWithCrew_any _ n0 _ n1 _ x0 x1 k0 _ n2 _ x2 t0 _ n3 _ x3 _ (by exact (hwr0.alloc (.cells #[.slice none 0 0, .bool false] 38)).holds) (by exact (hwr1.alloc (.cells #[.slice none 0 0, .bool false] 38)).holds) (by exact (hwr2.alloc (.cells #[.slice none 0 0, .bool false] 38)).holds) (by exact (hwr3.alloc (.cells #[.slice none 0 0, .bool false] 38)).holds) HX0.out HX1.out HX2.out HX3.out (by omega) (by omega) (by omega)).mono ?_; rintro e wrs ⟨A0, q0, rfl, hF0_, hbrs⟩; have hcrs := below_then (hcr2.alloc hcr2.size (.cells #[.slice none 0 0, .bool false] 38)) hbrs (Nat.le_trans hcr2.size (by simp)); have hzrs := hcrs.size; replace hwr0 := (hwr0.alloc (.cells #[.slice none 0 0, .bool false] 38)).below hbrs; replace hwr1 := (hwr1.alloc (.cells #[.slice none 0 0, .bool false] 38)).below hbrs; replace hwr2 := (hwr2.alloc (.cells #[.slice none 0 0, .bool false] 38)).below hbrs; replace hwr3 := (hwr3.alloc (.cells #[.slice none 0 0, .bool false] 38)).below hbrs; have hy0_ : w.heap.size < wr2.heap.size := (by omega); have hn0_ : ¬ wr2.heap.size = w.heap.size := (by omega); have hv0_ : ¬ w.heap.size = wr2.heap.size := (by omega); have hy1_ : w.heap.size + 1 < wr2.heap.size := (by omega); have hn1_ : ¬ wr2.heap.size = w.heap.size + 1 := (by omega); have hv1_ : ¬ w.heap.size + 1 = wr2.heap.size := (by omega); replace hbox := hbox.below hbrs; obtain ⟨x0_, x1_, x2_, x3_⟩ := hbox.two; obtain ⟨krshb0_0, krshb0_1, krshb0_2⟩ := (hb0.below hcrs).cells3; obtain ⟨krshb1_0, krshb1_1⟩ := (hb1.below hcrs).cells2)))
    all_goals (go_wp2_with fail; go_meet)
    all_goals first | exact ResMid.first hcrs (by first | omega | (simp; omega)) hF0_ (by first | omega | (simp; omega)) (by first | omega | (simp; omega)) hbox rfl | exact ResMid.last hcrs (by first | omega | (simp; omega)) hF0_
  obtain ⟨wkr, rfl⟩ : ∃ W : World, W = wc := ⟨_, rfl⟩
  obtain ⟨grr, B2, q2, lor, hir, rfl, rfl, hgrr, hglr, hlor, hdr, hhir, hR2, hF2, hb⟩ := hcut
  have hz21 : v19.heap.size ≤ wkr.heap.size := by have := hb.size; simpa using this
  replace ht := below_then ht hb ht.size
  replace hb0 := hb0.below hb
  replace hb1 := hb1.below hb
  replace hR0 := hR0.below hb
  replace hF0 := hF0.below hb
  replace hR1 := hR1.below hb
  replace hM := hM.below hb
  clear hb
  replace hR2 : Whole wkr grr 38 #[.slice B2 (rideBits x0 x1 n1 k0 x2 t0 x3).length q2, .bool (rideTorch x0 x1 n1 k0 x2 t0 x3)] := hR2
  clear hb0_0 hb0_1 hb0_2 hb0_l hb1_0 hb1_1 hb1_l hR0_0 hR0_1 hR0_l hR1_0 hR1_1 hR1_l
  obtain ⟨hb0_0, hb0_1, hb0_2⟩ := hb0.cells3
  have hb0_l := hb0.lt
  obtain ⟨hb1_0, hb1_1⟩ := hb1.cells2
  have hb1_l := hb1.lt
  obtain ⟨hR0_0, hR0_1⟩ := hR0.cells2
  have hR0_l := hR0.lt
  obtain ⟨hR1_0, hR1_1⟩ := hR1.cells2
  have hR1_l := hR1.lt
  obtain ⟨hR2_0, hR2_1⟩ := hR2.cells2
  have hR2_l := hR2.lt
  -- region 38
  go_wp2_with fail
  refine (eqState_yes B2 B0 (rideBits x0 x1 n1 k0 x2 t0 x3).length q2 q0 (rideBits x0 x1 n1 k0 x2 t0 x3) (rideTorch x0 x1 n1 k0 x2 t0 x3) _ (by exact hF2.holds) (by exact hF0.holds) rfl (by omega)).mono ?_
  rintro e v20 ⟨rfl, hb⟩
  have hz22 : wkr.heap.size ≤ v20.heap.size := by have := hb.size; simpa using this
  replace ht := below_then ht hb ht.size
  replace hb0 := hb0.below hb
  replace hb1 := hb1.below hb
  replace hR0 := hR0.below hb
  replace hF0 := hF0.below hb
  replace hR1 := hR1.below hb
  replace hM := hM.below hb
  replace hR2 := hR2.below hb
  replace hF2 := hF2.below hb
  clear hb
  clear hb0_0 hb0_1 hb0_2 hb0_l hb1_0 hb1_1 hb1_l hR0_0 hR0_1 hR0_l hR1_0 hR1_1 hR1_l hR2_0 hR2_1 hR2_l
  obtain ⟨hb0_0, hb0_1, hb0_2⟩ := hb0.cells3
  have hb0_l := hb0.lt
  obtain ⟨hb1_0, hb1_1⟩ := hb1.cells2
  have hb1_l := hb1.lt
  obtain ⟨hR0_0, hR0_1⟩ := hR0.cells2
  have hR0_l := hR0.lt
  obtain ⟨hR1_0, hR1_1⟩ := hR1.cells2
  have hR1_l := hR1.lt
  obtain ⟨hR2_0, hR2_1⟩ := hR2.cells2
  have hR2_l := hR2.lt
  -- region 41
  go_wp2_with fail
  refine (heldState_any B1 (rideBits x0 x1 n1 k0 x2 t0 x3).length q1 (rideTorch x0 x1 n1 k0 x2 t0 x3) 1 _ (by exact hM.holds) (by omega) (by omega) hlen).mono ?_
  rintro e v21 ⟨rfl, hb⟩
  have hz23 : v20.heap.size ≤ v21.heap.size := by have := hb.size; simpa using this
  replace ht := below_then ht hb ht.size
  replace hb0 := hb0.below hb
  replace hb1 := hb1.below hb
  replace hR0 := hR0.below hb
  replace hF0 := hF0.below hb
  replace hR1 := hR1.below hb
  replace hM := hM.below hb
  replace hR2 := hR2.below hb
  replace hF2 := hF2.below hb
  clear hb
  clear hb0_0 hb0_1 hb0_2 hb0_l hb1_0 hb1_1 hb1_l hR0_0 hR0_1 hR0_l hR1_0 hR1_1 hR1_l hR2_0 hR2_1 hR2_l
  obtain ⟨hb0_0, hb0_1, hb0_2⟩ := hb0.cells3
  have hb0_l := hb0.lt
  obtain ⟨hb1_0, hb1_1⟩ := hb1.cells2
  have hb1_l := hb1.lt
  obtain ⟨hR0_0, hR0_1⟩ := hR0.cells2
  have hR0_l := hR0.lt
  obtain ⟨hR1_0, hR1_1⟩ := hR1.cells2
  have hR1_l := hR1.lt
  obtain ⟨hR2_0, hR2_1⟩ := hR2.cells2
  have hR2_l := hR2.lt
  go_wp2
  go_ret
  exact ⟨rfl, ht⟩

theorem lawRideWithCrew_all (A0 : Option Addr) (n0 c0 : Nat) (x0 : List Int) (A1 : Option Addr) (n1 c1 : Nat) (x1 : List Bool) (k0 : Int) (A2 : Option Addr) (n2 c2 : Nat) (x2 : List Bool) (t0 : Bool) (A3 : Option Addr) (n3 c3 : Nat) (x3 : List Int) (w : World) (h0 : Holds w A0 (nums x0)) (hx0 : x0.length = n0) (hn0 : n0 ≤ 9223372036854775807) (h1 : Holds w A1 (bits x1)) (hx1 : x1.length = n1) (hn1 : n1 ≤ 9223372036854775807) (h2 : Holds w A2 (bits x2)) (hx2 : x2.length = n2) (hn2 : n2 ≤ 9223372036854775807) (h3 : Holds w A3 (nums x3)) (hx3 : x3.length = n3) (hn3 : n3 ≤ 9223372036854775807) :
    Calls Try.prog 5 #[.agg #[.slice A0 n0 c0, .slice A1 n1 c1, .int .i64 k0], .agg #[.slice A2 n2 c2, .bool t0], .slice A3 n3 c3] w fun e w' => e = .returned (.bool true) ∧ Below w.heap.size w w' := by
  rcases (inferInstance : Decidable ((n3 : Int) ≤ 1048576)) with g0 | g0
  · exact lawRideWithCrew_big0 A0 n0 c0 x0 A1 n1 c1 x1 k0 A2 n2 c2 x2 t0 A3 n3 c3 x3 w h0 hx0 hn0 h1 hx1 hn1 h2 hx2 hn2 h3 hx3 hn3  (by omega)
  rcases (inferInstance : Decidable (0 ≤ 1048576 - (n0 : Int) - (n1 : Int))) with g1 | g1
  · exact lawRideWithCrew_big1 A0 n0 c0 x0 A1 n1 c1 x1 k0 A2 n2 c2 x2 t0 A3 n3 c3 x3 w h0 hx0 hn0 h1 hx1 hn1 h2 hx2 hn2 h3 hx3 hn3 g0 (by omega)
  rcases (inferInstance : Decidable (0 ≤ 1048576 - (n0 : Int) - (n1 : Int) - (n2 : Int))) with g2 | g2
  · exact lawRideWithCrew_big2 A0 n0 c0 x0 A1 n1 c1 x1 k0 A2 n2 c2 x2 t0 A3 n3 c3 x3 w h0 hx0 hn0 h1 hx1 hn1 h2 hx2 hn2 h3 hx3 hn3 g0 g1 (by omega)
  exact lawRideWithCrew_small A0 n0 c0 x0 A1 n1 c1 x1 k0 A2 n2 c2 x2 t0 A3 n3 c3 x3 w h0 hx0 hn0 h1 hx1 hn1 h2 hx2 hn2 h3 hx3 hn3 g0 g1 g2
end Go.Proofs.Ytkocompjjogciaa
