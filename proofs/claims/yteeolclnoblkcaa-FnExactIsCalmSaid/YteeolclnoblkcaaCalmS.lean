/-
  What is proved: contracts of the model's numbers of states of a company, of its tests of a state and of a calm one, and of its IsCalm. Conditions: the arguments are read as they lie.
-/
import Derived.Test.YteeolclnoblkcaaCalmH
import Derived.Test.YteeolclnoblkcaaCo
import Derived.Test.YteeolclnoblkcaaIsSt
import Derived.Deep.RegionHeld3
namespace Go.Proofs.Yteeolclnoblkcaa
open Go.RowKit

/-- What two boxes of two cells each hold. -/
def Boxes2 (g h : Nat) (x y u v : Value) (w : World) : Prop :=
  w.cell? ⟨g, 0, none⟩ = some x ∧ w.cell? ⟨g, 1, none⟩ = some y ∧ w.cell? ⟨h, 0, none⟩ = some u ∧ w.cell? ⟨h, 1, none⟩ = some v
theorem boxes2_of {g h : Nat} {t t' : TypeId} {x y u v : Value} {w : World} (h1 : Whole w g t #[x, y]) (h2 : Whole w h t' #[u, v]) : Boxes2 g h x y u v w :=
  ⟨h1.cell 0, h1.cell 1, h2.cell 0, h2.cell 1⟩
def Box1 (g : Nat) (x y : Value) (w : World) : Prop := w.cell? ⟨g, 0, none⟩ = some x ∧ w.cell? ⟨g, 1, none⟩ = some y
theorem box1_of {g : Nat} {t : TypeId} {x y : Value} {w : World} (h1 : Whole w g t #[x, y]) : Box1 g x y w := ⟨h1.cell 0, h1.cell 1⟩

/-- The number whose bits tell what f says of the first ones. -/
def maskUp (f : Nat → Bool) : Nat → Nat
  | 0 => 0
  | k + 1 => maskUp f k + (if f k then 2 ^ k else 0)
theorem maskUp_lt (f : Nat → Bool) : ∀ k, maskUp f k < 2 ^ k
  | 0 => by simp [maskUp]
  | k + 1 => by
    have := maskUp_lt f k
    rw [maskUp, Nat.pow_succ]
    split <;> omega
theorem bit_maskUp (f : Nat → Bool) : ∀ k i, bitAt (maskUp f k) i = (decide (i < k) && f i)
  | 0, i => by simp [maskUp, bitAt]
  | k + 1, i => by
    have ih := bit_maskUp f k i
    have hlt := maskUp_lt f k
    unfold bitAt at ih ⊢
    rw [maskUp]
    cases hf : f k
    · have e : (decide (i < k + 1) && f i) = (decide (i < k) && f i) := by
        rcases Nat.lt_trichotomy i k with h | h | h
        · simp [h, Nat.lt_succ_of_lt h]
        · subst h; simp [hf]
        · have h1 : ¬ i < k + 1 := by omega
          have h3 : ¬ i < k := by omega
          simp [h1, h3]
      simp only [Bool.false_eq_true, if_false, Nat.add_zero]
      rw [ih, e]
    · simp only [if_true]
      have h2 := Nat.two_pow_add_eq_or_of_lt hlt 1
      rw [Nat.mul_one] at h2
      rw [Nat.add_comm, h2, Nat.testBit_or, ih, Nat.testBit_two_pow]
      rcases Nat.lt_trichotomy i k with h | h | h
      · simp [h, Nat.lt_succ_of_lt h]; omega
      · subst h; simp [hf]
      · have h1 : ¬ i < k + 1 := by omega
        have h3 : ¬ i < k := by omega
        have h4 : k ≠ i := by omega
        simp [h1, h3, h4]
theorem mask_up_or {f : Nat → Bool} {k : Nat} (h : f k = true) : (2 * maskUp f k) ||| 2 ^ (k + 1) = 2 * maskUp f (k + 1) := by
  have hlt := maskUp_lt f k
  have h2 := Nat.two_pow_add_eq_or_of_lt (i := k + 1) (b := 2 * maskUp f k) (by rw [Nat.pow_succ]; omega) 1
  rw [Nat.mul_one] at h2
  rw [Nat.or_comm, ← h2, maskUp, h, Nat.pow_succ]
  simp
  omega
theorem mask_up_no {f : Nat → Bool} {k : Nat} (h : f k = false) : maskUp f (k + 1) = maskUp f k := by rw [maskUp, h]; simp
/-- The number of a state. -/
def codeOf (bs : List Bool) (t : Bool) : Nat := 2 * maskUp (fun i => bs.getD i false) bs.length + t.toNat
theorem code_half (bs : List Bool) (t : Bool) : codeOf bs t / 2 = maskUp (fun i => bs.getD i false) bs.length := by unfold codeOf; cases t <;> simp <;> omega
theorem code_lt (bs : List Bool) (t : Bool) : codeOf bs t / 2 < 2 ^ bs.length := by rw [code_half]; exact maskUp_lt _ _
/-- A calm state: who is over, and who is not. -/
def quiet (c : Nat) (f : Nat → Bool) : Bool := calm c f && calm c (fun i => !f i)
theorem quiet_no {c : Nat} {f : Nat → Bool} (h : calm c f = false) : quiet c f = false := by simp [quiet, h]
theorem quiet_yes {c : Nat} {f : Nat → Bool} (h : calm c f = true) : quiet c f = calm c (fun i => !f i) := by simp [quiet, h]
theorem quiet_congr {c : Nat} {f g : Nat → Bool} (h : ∀ i, i < 2 * c → f i = g i) : quiet c f = quiet c g := by
  rw [quiet, quiet, calm_congr h, calm_congr (f := fun i => !f i) (g := fun i => !g i) (fun i hi => by rw [h i hi])]
theorem rest_bit {n m : Nat} (h : m < 2 ^ n) (i : Nat) : bitAt (2 ^ n - 1 - m) i = (decide (i < n) && !bitAt m i) := by
  rw [Nat.sub_sub, Nat.add_comm]; exact Nat.testBit_two_pow_sub_succ h i
theorem calm_rest {c m : Nat} (h : m < 2 ^ (2 * c)) : calm c (bitAt (2 ^ (2 * c) - 1 - m)) = calm c (fun i => !bitAt m i) :=
  calm_congr fun i hi => by rw [rest_bit h]; simp [hi]
theorem quiet_code {c : Nat} {bs : List Bool} {t : Bool} (h : bs.length = 2 * c) : quiet c (bitAt (codeOf bs t / 2)) = quiet c (fun i => bs.getD i false) :=
  quiet_congr fun i hi => by rw [code_half, bit_maskUp]; simp [h, hi]

theorem pow_c {c : Nat} (h : c ≤ 4) : 2 ^ (2 * c) ≤ 256 := by
  match c, h with
  | 0, _ => decide
  | 1, _ => decide
  | 2, _ => decide
  | 3, _ => decide
  | 4, _ => decide
theorem wrap_size {c : Nat} (h : c ≤ 4) : wrap64 ((2 : Int) ^ (2 * c)) = ((2 ^ (2 * c) : Nat) : Int) := by
  have h1 := pow_c h
  rw [show (2 : Int) ^ (2 * c) = ((2 ^ (2 * c) : Nat) : Int) by push_cast; rfl]
  generalize 2 ^ (2 * c) = y at h1 ⊢
  unfold wrap64
  omega
theorem wrap_twice {k : Nat} (h : k ≤ 7) : wrap64 (2 * (2 : Int) ^ k) = ((2 ^ (k + 1) : Nat) : Int) := by
  have h1 : 2 ^ k ≤ 2 ^ 7 := Nat.pow_le_pow_right (by omega) h
  rw [show (2 : Int) ^ k = ((2 ^ k : Nat) : Int) by push_cast; rfl, Nat.pow_succ]
  generalize 2 ^ k = y at h1 ⊢
  unfold wrap64
  omega

set_option maxHeartbeats 400000 in
theorem cuSize_any (c : Nat) (s : Int) (w : World) (hc : c ≤ 4) :
    Calls Try.prog 81 #[.agg #[.int .i64 c, .int .i64 s]] w fun e w' => e = .returned (.int .i64 ((2 ^ (2 * c) : Nat) : Int)) ∧ Below w.heap.size w w' := by
  have HW := Lib.hid (wrap_size hc)
  go_enter Try.func81, Try.ntmps81
  go_wp2
  go_ret
  exact ⟨ret_of (by rw [← HW.out]; rfl), below1 w _⟩

set_option maxHeartbeats 1600000 in
theorem cuCode_any (B : Option Addr) (m d : Nat) (bs : List Bool) (t : Bool) (w : World) (hB : Holds w B (bits bs)) (hy : bs.length = m) (hm : m ≤ 8) :
    Calls Try.prog 63 #[.agg #[.slice B m d, .bool t]] w fun e w' => e = .returned (.int .i64 (codeOf bs t)) ∧ Below w.heap.size w w' := by
  subst hy
  have hB2 := hB.alloc (.cells #[.slice B bs.length d, .bool t] 39)
  have hs := Whole.fresh w 39 #[.slice B bs.length d, .bool t]
  have s1 : (w.alloc (.cells #[.slice B bs.length d, .bool t] 39)).cell? ⟨w.heap.size, 1, none⟩ = some (.bool t) := hs.cell 1
  have HC : Hid ((codeOf bs t : Nat) = 2 * maskUp (fun i => bs.getD i false) bs.length + t.toNat) := rfl
  go_enter Try.func63, Try.ntmps63
  go_wp2
  go_loop [3, 9] (fun v i => ∃ k : Nat, k ≤ bs.length ∧ i = .int .i64 k ∧ v = .int .i64 ((2 * maskUp (fun i => bs.getD i false) k : Nat) : Int)) (fun _ i => bs.length - (intOf i).toNat)
  case atStart => exact ⟨0, Nat.zero_le _, rfl, rfl⟩
  case round =>
    obtain ⟨k, hk, rfl, rfl⟩ := hrel
    by_cases hlt : k < bs.length
    · obtain ⟨b, o, rfl, hb, hc⟩ := hB2.look (k := k) (by simpa [bits] using hlt)
      simp only [bits, List.getElem_map] at hc
      have hg : bs.getD k false = bs[k] := by simp [hlt]
      have hml := maskUp_lt (fun i => bs.getD i false) k
      have hpk : 2 ^ k ≤ 2 ^ 7 := Nat.pow_le_pow_right (by omega) (by omega)
      cases hbk : bs[k]
      · rw [hbk] at hc hg
        have HN := Lib.hid (mask_up_no (f := fun i => bs.getD i false) hg)
        clear hg hbk hml hpk
        go_wp2
        go_round
        case rel => exact ⟨k + 1, by omega, by go_num, by rw [HN.out]⟩
        case measure => simp [intOf]; omega
      · rw [hbk] at hc hg
        have HN : Hid (Go.bits .or .i64 ((2 * maskUp (fun i => bs.getD i false) k : Nat) : Int) (wrap64 (2 * (2 : Int) ^ k)) = ((2 * maskUp (fun i => bs.getD i false) (k + 1) : Nat) : Int)) := by
          show _ = _
          rw [wrap_twice (by omega), bits_or_nat _ _ (by omega) (by rw [Nat.pow_succ]; omega), mask_up_or hg]
        clear hg hbk hml hpk
        go_wp2
        go_round
        case rel => exact ⟨k + 1, by omega, by go_num, by rw [← HN.out]; simp⟩
        case measure => simp [intOf]; omega
    · obtain rfl : k = bs.length := by omega
      have hml := maskUp_lt (fun i => bs.getD i false) bs.length
      have hpk : 2 ^ bs.length ≤ 2 ^ 8 := Nat.pow_le_pow_right (by omega) (by omega)
      generalize maskUp (fun i => bs.getD i false) bs.length = M at HC hml
      have hM : M ≤ 256 := by omega
      clear hml hpk
      cases t
      · go_wp2
        go_ret
        exact ⟨ret_of (by rw [HC.out]; simp), below1 w _⟩
      · go_wp2
        go_ret
        exact ⟨ret_of (by rw [HC.out]; simp), below1 w _⟩


set_option maxHeartbeats 3200000 in
set_option maxRecDepth 100000 in
theorem cuQuiet_any (c x : Nat) (s : Int) (w : World) (hcc : c ≤ 4) (hx : x / 2 < 2 ^ (2 * c)) :
    Calls Try.prog 62 #[.agg #[.int .i64 c, .int .i64 s], .int .i64 x] w fun e w' => e = .returned (.bool (quiet c (bitAt (x / 2)))) ∧ Below w.heap.size w w' := by
  have hc := Whole.fresh w 25 #[.int .i64 c, .int .i64 s]
  have hxs : x / 2 < 256 := Nat.lt_of_lt_of_le hx (pow_c hcc)
  have HX2 := Lib.hid (show IntKind.i64.wrap ((x : Int) / 2) = ((x / 2 : Nat) : Int) by rw [IntWalk.i64_in _ (by omega)]; omega)
  cases h1 : calm c (bitAt (x / 2))
  · have HP := Lib.hid (quiet_no h1)
    have H1 := Lib.hid h1
    clear h1
    go_enter Try.func62, Try.ntmps62
    go_wp2_with fail
    refine wp_region_held_drew (S := (Box1 w.heap.size (.int .i64 c) (.int .i64 s))) (by kernel_rfl) (box1_of hc.drew) (fun hHeld => ?_)
    refine wpAnyH_take (i := 0) (v := ?_) rfl (by kernel_rfl) (by kernel_rfl) (by kernel_rfl) (fun _ _ _ h => h) (Or.inl ⟨rfl, ?_⟩) hHeld ?_
    rotate_left
    · intro w' hS; obtain ⟨s0, s1⟩ := hS; go_simp <;> with_reducible rfl
    simp only [Act.put, List.getElem_toArray, List.getElem_cons_succ, List.getElem_cons_zero, List.setIfInBounds_toArray, List.set_cons_succ, List.set_cons_zero]
    refine wpAnyH_take (i := 1) (v := ?_) rfl (by kernel_rfl) (by kernel_rfl) (by kernel_rfl) (fun _ _ _ h => h) (Or.inl ⟨rfl, ?_⟩) hHeld ?_
    rotate_left
    · intro w' hS; obtain ⟨s0, s1⟩ := hS; go_simp <;> with_reducible rfl
    simp only [Act.put, List.getElem_toArray, List.getElem_cons_succ, List.getElem_cons_zero, List.setIfInBounds_toArray, List.set_cons_succ, List.set_cons_zero]
    refine wpAnyH_take (i := 2) (v := ?_) rfl (by kernel_rfl) (by kernel_rfl) (by kernel_rfl) (fun _ _ _ h => h) (Or.inl ⟨rfl, ?_⟩) hHeld ?_
    rotate_left
    · intro w' hS; obtain ⟨s0, s1⟩ := hS; go_simp <;> with_reducible rfl
    simp only [Act.put, List.getElem_toArray, List.getElem_cons_succ, List.getElem_cons_zero, List.setIfInBounds_toArray, List.set_cons_succ, List.set_cons_zero]
    refine wpAnyH_take (i := 3) (v := ?_) rfl (by kernel_rfl) (by kernel_rfl) (by kernel_rfl) (fun _ _ _ h => h) (Or.inl ⟨rfl, ?_⟩) hHeld ?_
    rotate_left
    · intro w' hS; obtain ⟨s0, s1⟩ := hS; go_simp <;> with_reducible rfl
    simp only [Act.put, List.getElem_toArray, List.getElem_cons_succ, List.getElem_cons_zero, List.setIfInBounds_toArray, List.set_cons_succ, List.set_cons_zero]
    refine wpAnyH_ready (rs := [4]) (by kernel_rfl) (by simp) (AllReadyH.cons rfl (fun K hK => ?_) AllReadyH.nil)
    go_simp
    rw [HX2.out]
    refine (cuCalm_any c _ _ (by omega)).mono ?_
    rintro e w1 ⟨rfl, rfl⟩
    rw [H1.out]
    refine hK.out _ _ (box1_of hc.drew) (fun hHeld => ?_)
    clear hK K
    try simp only [Act.put, List.getElem_toArray, List.getElem_cons_succ, List.getElem_cons_zero, List.setIfInBounds_toArray, List.set_cons_succ, List.set_cons_zero]
    refine wpAnyH_take (i := 5) (v := ?_) rfl (by kernel_rfl) (by kernel_rfl) (by kernel_rfl) (fun _ _ _ h => h) (Or.inl ⟨rfl, ?_⟩) hHeld ?_
    rotate_left
    · intro w' hS; obtain ⟨s0, s1⟩ := hS; go_simp <;> with_reducible rfl
    simp only [Act.put, List.getElem_toArray, List.getElem_cons_succ, List.getElem_cons_zero, List.setIfInBounds_toArray, List.set_cons_succ, List.set_cons_zero]
    refine wpAnyH_take (i := 6) (v := undef) rfl (by kernel_rfl) (by kernel_rfl) (by kernel_rfl) (fun _ _ _ h => h) (Or.inr ⟨by simp [Region.wanted, yielded], rfl⟩) hHeld ?_
    simp only [Act.put, List.getElem_toArray, List.getElem_cons_succ, List.getElem_cons_zero, List.setIfInBounds_toArray, List.set_cons_succ, List.set_cons_zero]
    refine wpAnyH_take (i := 7) (v := undef) rfl (by kernel_rfl) (by kernel_rfl) (by kernel_rfl) (fun _ _ _ h => h) (Or.inr ⟨by simp [Region.wanted, yielded], rfl⟩) hHeld ?_
    simp only [Act.put, List.getElem_toArray, List.getElem_cons_succ, List.getElem_cons_zero, List.setIfInBounds_toArray, List.set_cons_succ, List.set_cons_zero]
    refine wpAnyH_take (i := 8) (v := undef) rfl (by kernel_rfl) (by kernel_rfl) (by kernel_rfl) (fun _ _ _ h => h) (Or.inr ⟨by simp [Region.wanted, yielded], rfl⟩) hHeld ?_
    simp only [Act.put, List.getElem_toArray, List.getElem_cons_succ, List.getElem_cons_zero, List.setIfInBounds_toArray, List.set_cons_succ, List.set_cons_zero]
    refine wpAnyH_take (i := 9) (v := undef) rfl (by kernel_rfl) (by kernel_rfl) (by kernel_rfl) (fun _ _ _ h => h) (Or.inr ⟨by simp [Region.wanted, yielded], rfl⟩) hHeld ?_
    simp only [Act.put, List.getElem_toArray, List.getElem_cons_succ, List.getElem_cons_zero, List.setIfInBounds_toArray, List.set_cons_succ, List.set_cons_zero]
    refine wpAnyH_take (i := 10) (v := undef) rfl (by kernel_rfl) (by kernel_rfl) (by kernel_rfl) (fun _ _ _ h => h) (Or.inr ⟨by simp [Region.wanted, yielded], rfl⟩) hHeld ?_
    simp only [Act.put, List.getElem_toArray, List.getElem_cons_succ, List.getElem_cons_zero, List.setIfInBounds_toArray, List.set_cons_succ, List.set_cons_zero]
    refine wpAnyH_take (i := 11) (v := undef) rfl (by kernel_rfl) (by kernel_rfl) (by kernel_rfl) (fun _ _ _ h => h) (Or.inr ⟨by simp [Region.wanted, yielded], rfl⟩) hHeld ?_
    simp only [Act.put, List.getElem_toArray, List.getElem_cons_succ, List.getElem_cons_zero, List.setIfInBounds_toArray, List.set_cons_succ, List.set_cons_zero]
    refine wpAnyH_take (i := 12) (v := undef) rfl (by kernel_rfl) (by kernel_rfl) (by kernel_rfl) (fun _ _ _ h => h) (Or.inr ⟨by simp [Region.wanted, yielded], rfl⟩) hHeld ?_
    simp only [Act.put, List.getElem_toArray, List.getElem_cons_succ, List.getElem_cons_zero, List.setIfInBounds_toArray, List.set_cons_succ, List.set_cons_zero]
    refine wpAnyH_take (i := 13) (v := undef) rfl (by kernel_rfl) (by kernel_rfl) (by kernel_rfl) (fun _ _ _ h => h) (Or.inr ⟨by simp [Region.wanted, yielded], rfl⟩) hHeld ?_
    simp only [Act.put, List.getElem_toArray, List.getElem_cons_succ, List.getElem_cons_zero, List.setIfInBounds_toArray, List.set_cons_succ, List.set_cons_zero]
    refine wpAnyH_take (i := 14) (v := undef) rfl (by kernel_rfl) (by kernel_rfl) (by kernel_rfl) (fun _ _ _ h => h) (Or.inr ⟨by simp [Region.wanted, yielded], rfl⟩) hHeld ?_
    simp only [Act.put, List.getElem_toArray, List.getElem_cons_succ, List.getElem_cons_zero, List.setIfInBounds_toArray, List.set_cons_succ, List.set_cons_zero]
    refine wpAnyH_take (i := 15) (v := ?_) rfl (by kernel_rfl) (by kernel_rfl) (by kernel_rfl) (fun _ _ _ h => h) (Or.inl ⟨rfl, ?_⟩) hHeld ?_
    rotate_left
    · intro w' hS; obtain ⟨s0, s1⟩ := hS; go_simp <;> with_reducible rfl
    simp only [Act.put, List.getElem_toArray, List.getElem_cons_succ, List.getElem_cons_zero, List.setIfInBounds_toArray, List.set_cons_succ, List.set_cons_zero]
    refine wpAnyH_take (i := 16) (v := ?_) rfl (by kernel_rfl) (by kernel_rfl) (by kernel_rfl) (fun _ _ _ h => h) (Or.inl ⟨rfl, ?_⟩) hHeld ?_
    rotate_left
    · intro w' hS; obtain ⟨s0, s1⟩ := hS; go_simp <;> with_reducible rfl
    simp only [Act.put, List.getElem_toArray, List.getElem_cons_succ, List.getElem_cons_zero, List.setIfInBounds_toArray, List.set_cons_succ, List.set_cons_zero]
    refine wpAnyH_done (by kernel_rfl) ?_ _
    clear hHeld
    go_wp2
    go_ret
    exact ⟨ret_of (by rw [HP.out]; rfl), (below1 w _).drew⟩
  · have HP := Lib.hid (quiet_yes h1)
    have H1 := Lib.hid h1
    have HR := Lib.hid (calm_rest hx)
    have hp := pow_c hcc
    obtain ⟨N, hN⟩ : ∃ N : Nat, N = 2 ^ (2 * c) := ⟨_, rfl⟩
    rw [← hN] at hp hx
    have HX3 : Hid (IntKind.i64.wrap (IntKind.i64.wrap ((N : Int) - 1) - IntKind.i64.wrap ((x : Int) / 2)) = ((2 ^ (2 * c) - 1 - x / 2 : Nat) : Int)) := by
      show _ = _
      have e1 : IntKind.i64.wrap ((N : Int) - 1) = (N : Int) - 1 := IntWalk.i64_in _ (by omega)
      have e2 : IntKind.i64.wrap ((x : Int) / 2) = (x : Int) / 2 := IntWalk.i64_in _ (by omega)
      have e3 : IntKind.i64.wrap ((N : Int) - 1 - (x : Int) / 2) = (N : Int) - 1 - (x : Int) / 2 := IntWalk.i64_in _ (by omega)
      rw [← hN, e1, e2, e3]
      omega
    have HN := Lib.hid hN
    clear h1 hN
    go_enter Try.func62, Try.ntmps62
    go_wp2_with fail
    refine wp_region_held_drew (S := (Box1 w.heap.size (.int .i64 c) (.int .i64 s))) (by kernel_rfl) (box1_of hc.drew) (fun hHeld => ?_)
    refine wpAnyH_take (i := 0) (v := ?_) rfl (by kernel_rfl) (by kernel_rfl) (by kernel_rfl) (fun _ _ _ h => h) (Or.inl ⟨rfl, ?_⟩) hHeld ?_
    rotate_left
    · intro w' hS; obtain ⟨s0, s1⟩ := hS; go_simp <;> with_reducible rfl
    simp only [Act.put, List.getElem_toArray, List.getElem_cons_succ, List.getElem_cons_zero, List.setIfInBounds_toArray, List.set_cons_succ, List.set_cons_zero]
    refine wpAnyH_take (i := 1) (v := ?_) rfl (by kernel_rfl) (by kernel_rfl) (by kernel_rfl) (fun _ _ _ h => h) (Or.inl ⟨rfl, ?_⟩) hHeld ?_
    rotate_left
    · intro w' hS; obtain ⟨s0, s1⟩ := hS; go_simp <;> with_reducible rfl
    simp only [Act.put, List.getElem_toArray, List.getElem_cons_succ, List.getElem_cons_zero, List.setIfInBounds_toArray, List.set_cons_succ, List.set_cons_zero]
    refine wpAnyH_take (i := 2) (v := ?_) rfl (by kernel_rfl) (by kernel_rfl) (by kernel_rfl) (fun _ _ _ h => h) (Or.inl ⟨rfl, ?_⟩) hHeld ?_
    rotate_left
    · intro w' hS; obtain ⟨s0, s1⟩ := hS; go_simp <;> with_reducible rfl
    simp only [Act.put, List.getElem_toArray, List.getElem_cons_succ, List.getElem_cons_zero, List.setIfInBounds_toArray, List.set_cons_succ, List.set_cons_zero]
    refine wpAnyH_take (i := 3) (v := ?_) rfl (by kernel_rfl) (by kernel_rfl) (by kernel_rfl) (fun _ _ _ h => h) (Or.inl ⟨rfl, ?_⟩) hHeld ?_
    rotate_left
    · intro w' hS; obtain ⟨s0, s1⟩ := hS; go_simp <;> with_reducible rfl
    simp only [Act.put, List.getElem_toArray, List.getElem_cons_succ, List.getElem_cons_zero, List.setIfInBounds_toArray, List.set_cons_succ, List.set_cons_zero]
    refine wpAnyH_ready (rs := [4]) (by kernel_rfl) (by simp) (AllReadyH.cons rfl (fun K hK => ?_) AllReadyH.nil)
    go_simp
    rw [HX2.out]
    refine (cuCalm_any c _ _ (by omega)).mono ?_
    rintro e w1 ⟨rfl, rfl⟩
    rw [H1.out]
    refine hK.out _ _ (box1_of hc.drew) (fun hHeld => ?_)
    clear hK K
    try simp only [Act.put, List.getElem_toArray, List.getElem_cons_succ, List.getElem_cons_zero, List.setIfInBounds_toArray, List.set_cons_succ, List.set_cons_zero]
    refine wpAnyH_take (i := 5) (v := ?_) rfl (by kernel_rfl) (by kernel_rfl) (by kernel_rfl) (fun _ _ _ h => h) (Or.inl ⟨rfl, ?_⟩) hHeld ?_
    rotate_left
    · intro w' hS; obtain ⟨s0, s1⟩ := hS; go_simp <;> with_reducible rfl
    simp only [Act.put, List.getElem_toArray, List.getElem_cons_succ, List.getElem_cons_zero, List.setIfInBounds_toArray, List.set_cons_succ, List.set_cons_zero]
    refine wpAnyH_take (i := 6) (v := ?_) rfl (by kernel_rfl) (by kernel_rfl) (by kernel_rfl) (fun _ _ _ h => h) (Or.inl ⟨rfl, ?_⟩) hHeld ?_
    rotate_left
    · intro w' hS; obtain ⟨s0, s1⟩ := hS; go_simp <;> with_reducible rfl
    simp only [Act.put, List.getElem_toArray, List.getElem_cons_succ, List.getElem_cons_zero, List.setIfInBounds_toArray, List.set_cons_succ, List.set_cons_zero]
    refine wpAnyH_take (i := 7) (v := ?_) rfl (by kernel_rfl) (by kernel_rfl) (by kernel_rfl) (fun _ _ _ h => h) (Or.inl ⟨rfl, ?_⟩) hHeld ?_
    rotate_left
    · intro w' hS; obtain ⟨s0, s1⟩ := hS; go_simp <;> with_reducible rfl
    simp only [Act.put, List.getElem_toArray, List.getElem_cons_succ, List.getElem_cons_zero, List.setIfInBounds_toArray, List.set_cons_succ, List.set_cons_zero]
    refine wpAnyH_take (i := 8) (v := ?_) rfl (by kernel_rfl) (by kernel_rfl) (by kernel_rfl) (fun _ _ _ h => h) (Or.inl ⟨rfl, ?_⟩) hHeld ?_
    rotate_left
    · intro w' hS; obtain ⟨s0, s1⟩ := hS; go_simp <;> with_reducible rfl
    simp only [Act.put, List.getElem_toArray, List.getElem_cons_succ, List.getElem_cons_zero, List.setIfInBounds_toArray, List.set_cons_succ, List.set_cons_zero]
    refine wpAnyH_take (i := 11) (v := ?_) rfl (by kernel_rfl) (by kernel_rfl) (by kernel_rfl) (fun _ _ _ h => h) (Or.inl ⟨rfl, ?_⟩) hHeld ?_
    rotate_left
    · intro w' hS; obtain ⟨s0, s1⟩ := hS; go_simp <;> with_reducible rfl
    simp only [Act.put, List.getElem_toArray, List.getElem_cons_succ, List.getElem_cons_zero, List.setIfInBounds_toArray, List.set_cons_succ, List.set_cons_zero]
    refine wpAnyH_take (i := 12) (v := ?_) rfl (by kernel_rfl) (by kernel_rfl) (by kernel_rfl) (fun _ _ _ h => h) (Or.inl ⟨rfl, ?_⟩) hHeld ?_
    rotate_left
    · intro w' hS; obtain ⟨s0, s1⟩ := hS; go_simp <;> with_reducible rfl
    simp only [Act.put, List.getElem_toArray, List.getElem_cons_succ, List.getElem_cons_zero, List.setIfInBounds_toArray, List.set_cons_succ, List.set_cons_zero]
    refine wpAnyH_ready (rs := [9]) (by kernel_rfl) (by simp) (AllReadyH.cons rfl (fun K hK => ?_) AllReadyH.nil)
    go_simp
    refine (cuSize_any c s _ (by omega)).mono ?_
    rintro e w2 ⟨rfl, hb⟩
    have hc2 := hc.drew.below hb
    have ht := below_then (below1 w _).drew hb (by simp)
    rw [← HN.out]
    refine hK.out _ _ (box1_of hc2) (fun hHeld => ?_)
    clear hK K
    try simp only [Act.put, List.getElem_toArray, List.getElem_cons_succ, List.getElem_cons_zero, List.setIfInBounds_toArray, List.set_cons_succ, List.set_cons_zero]
    refine wpAnyH_take (i := 10) (v := ?_) rfl (by kernel_rfl) (by kernel_rfl) (by kernel_rfl) (fun _ _ _ h => h) (Or.inl ⟨rfl, ?_⟩) hHeld ?_
    rotate_left
    · intro w' hS; obtain ⟨s0, s1⟩ := hS; go_simp <;> with_reducible rfl
    simp only [Act.put, List.getElem_toArray, List.getElem_cons_succ, List.getElem_cons_zero, List.setIfInBounds_toArray, List.set_cons_succ, List.set_cons_zero]
    refine wpAnyH_take (i := 13) (v := ?_) rfl (by kernel_rfl) (by kernel_rfl) (by kernel_rfl) (fun _ _ _ h => h) (Or.inl ⟨rfl, ?_⟩) hHeld ?_
    rotate_left
    · intro w' hS; obtain ⟨s0, s1⟩ := hS; go_simp <;> with_reducible rfl
    simp only [Act.put, List.getElem_toArray, List.getElem_cons_succ, List.getElem_cons_zero, List.setIfInBounds_toArray, List.set_cons_succ, List.set_cons_zero]
    refine wpAnyH_ready (rs := [14]) (by kernel_rfl) (by simp) (AllReadyH.cons rfl (fun K hK => ?_) AllReadyH.nil)
    go_simp
    rw [HX3.out]
    refine (cuCalm_any c _ _ (by omega)).mono ?_
    rintro e w3 ⟨rfl, rfl⟩
    rw [HR.out]
    refine hK.out _ _ (box1_of hc2) (fun hHeld => ?_)
    clear hK K
    try simp only [Act.put, List.getElem_toArray, List.getElem_cons_succ, List.getElem_cons_zero, List.setIfInBounds_toArray, List.set_cons_succ, List.set_cons_zero]
    refine wpAnyH_take (i := 15) (v := ?_) rfl (by kernel_rfl) (by kernel_rfl) (by kernel_rfl) (fun _ _ _ h => h) (Or.inl ⟨rfl, ?_⟩) hHeld ?_
    rotate_left
    · intro w' hS; obtain ⟨s0, s1⟩ := hS; go_simp <;> with_reducible rfl
    simp only [Act.put, List.getElem_toArray, List.getElem_cons_succ, List.getElem_cons_zero, List.setIfInBounds_toArray, List.set_cons_succ, List.set_cons_zero]
    refine wpAnyH_take (i := 16) (v := ?_) rfl (by kernel_rfl) (by kernel_rfl) (by kernel_rfl) (fun _ _ _ h => h) (Or.inl ⟨rfl, ?_⟩) hHeld ?_
    rotate_left
    · intro w' hS; obtain ⟨s0, s1⟩ := hS; go_simp <;> with_reducible rfl
    simp only [Act.put, List.getElem_toArray, List.getElem_cons_succ, List.getElem_cons_zero, List.setIfInBounds_toArray, List.set_cons_succ, List.set_cons_zero]
    refine wpAnyH_done (by kernel_rfl) ?_ _
    clear hHeld
    go_wp2
    go_ret
    exact ⟨ret_of (by rw [HP.out]; rfl), ht⟩
end Go.Proofs.Yteeolclnoblkcaa
