/-
  What is proved: contracts of the model's numbers of states of a company, of its tests of a state and of a calm one, and of its IsCalm. Conditions: the arguments are read as they lie.
  What is proved: contracts of the model's test of a state of a company and of its IsCalm. Conditions: the arguments are read as they lie.
  What is proved: contracts of the last state, as the model and the program make it. Conditions: the party's times are read as they lie.
  What is proved: a crowd without the people of another one, as the program makes it. Conditions: none.
  What is proved: contracts of the program's closure that tells calm places, and of calmPlaces, which makes it. Conditions: at most four couples.
  What is proved: contracts of the program's calmPlaces, of its place of a company's state, and of its IsCalm. Conditions: the arguments are read as they lie.
  What is proved: the cells of a small block that is known whole. Conditions: none.
  What is proved: plain facts on lists of crowds that the call itself makes. Conditions: none.
  What is proved: the contract of the model's state with a number. Conditions: at most four couples.
  What is proved: the contract of the model's CountCalm. Conditions: none.
  What is proved: plain facts on a struct of the call's own that is handed back by a call in a statement whose order is open. Conditions: none.
  What is proved: the contract of the model's copy of a list (l1Own), and plain facts on lists of the call's own. Conditions: the list is read as it lies; at most 1,048,576 numbers.
-/
import Derived.Deep.RegionHeld3
import Derived.Laws.EntriesVeiled
import Derived.Deep.AppendLies
import Derived.Laws.AppendOwnNone
import Derived.Test.YteeolclnoblkcaaJ1CountCalm
namespace Go.Proofs.Yteeolclnoblkcaa
open Go.RowKit

/-- What two boxes of two cells each hold. -/
def Boxes2 (g h : Nat) (x y u v : Value) (w : World) : Prop :=
  w.cell? ⟨g, 0, none⟩ = some x ∧ w.cell? ⟨g, 1, none⟩ = some y ∧ w.cell? ⟨h, 0, none⟩ = some u ∧ w.cell? ⟨h, 1, none⟩ = some v
theorem boxes2_of {g h : Nat} {t t' : TypeId} {x y u v : Value} {w : World} (h1 : Whole w g t #[x, y]) (h2 : Whole w h t' #[u, v]) : Boxes2 g h x y u v w :=
  ⟨h1.cell 0, h1.cell 1, h2.cell 0, h2.cell 1⟩
def Box1 (g : Nat) (x y : Value) (w : World) : Prop := w.cell? ⟨g, 0, none⟩ = some x ∧ w.cell? ⟨g, 1, none⟩ = some y
theorem box1_of {g : Nat} {t : TypeId} {x y : Value} {w : World} (h1 : Whole w g t #[x, y]) : Box1 g x y w := ⟨h1.cell 0, h1.cell 1⟩

/-- The number whose bits tell what f says of the first ones. -/
def maskUp (f : Nat → Bool) : Nat → Nat
  | 0 => 0
  | k + 1 => maskUp f k + (if f k then 2 ^ k else 0)
theorem maskUp_lt (f : Nat → Bool) : ∀ k, maskUp f k < 2 ^ k
  | 0 => by simp [maskUp]
  | k + 1 => by
    have := maskUp_lt f k
    rw [maskUp, Nat.pow_succ]
    split <;> omega
theorem bit_maskUp (f : Nat → Bool) : ∀ k i, bitAt (maskUp f k) i = (decide (i < k) && f i)
  | 0, i => by simp [maskUp, bitAt]
  | k + 1, i => by
    have ih := bit_maskUp f k i
    have hlt := maskUp_lt f k
    unfold bitAt at ih ⊢
    rw [maskUp]
    cases hf : f k
    · have e : (decide (i < k + 1) && f i) = (decide (i < k) && f i) := by
        rcases Nat.lt_trichotomy i k with h | h | h
        · simp [h, Nat.lt_succ_of_lt h]
        · subst h; simp [hf]
        · have h1 : ¬ i < k + 1 := by omega
          have h3 : ¬ i < k := by omega
          simp [h1, h3]
      simp only [Bool.false_eq_true, if_false, Nat.add_zero]
      rw [ih, e]
    · simp only [if_true]
      have h2 := Nat.two_pow_add_eq_or_of_lt hlt 1
      rw [Nat.mul_one] at h2
      rw [Nat.add_comm, h2, Nat.testBit_or, ih, Nat.testBit_two_pow]
      rcases Nat.lt_trichotomy i k with h | h | h
      · simp [h, Nat.lt_succ_of_lt h]; omega
      · subst h; simp [hf]
      · have h1 : ¬ i < k + 1 := by omega
        have h3 : ¬ i < k := by omega
        have h4 : k ≠ i := by omega
        simp [h1, h3, h4]
theorem mask_up_or {f : Nat → Bool} {k : Nat} (h : f k = true) : (2 * maskUp f k) ||| 2 ^ (k + 1) = 2 * maskUp f (k + 1) := by
  have hlt := maskUp_lt f k
  have h2 := Nat.two_pow_add_eq_or_of_lt (i := k + 1) (b := 2 * maskUp f k) (by rw [Nat.pow_succ]; omega) 1
  rw [Nat.mul_one] at h2
  rw [Nat.or_comm, ← h2, maskUp, h, Nat.pow_succ]
  simp
  omega
theorem mask_up_no {f : Nat → Bool} {k : Nat} (h : f k = false) : maskUp f (k + 1) = maskUp f k := by rw [maskUp, h]; simp
/-- The number of a state. -/
def codeOf (bs : List Bool) (t : Bool) : Nat := 2 * maskUp (fun i => bs.getD i false) bs.length + t.toNat
theorem code_half (bs : List Bool) (t : Bool) : codeOf bs t / 2 = maskUp (fun i => bs.getD i false) bs.length := by unfold codeOf; cases t <;> simp <;> omega
theorem code_lt (bs : List Bool) (t : Bool) : codeOf bs t / 2 < 2 ^ bs.length := by rw [code_half]; exact maskUp_lt _ _
/-- A calm state: who is over, and who is not. -/
def quiet (c : Nat) (f : Nat → Bool) : Bool := calm c f && calm c (fun i => !f i)
theorem quiet_no {c : Nat} {f : Nat → Bool} (h : calm c f = false) : quiet c f = false := by simp [quiet, h]
theorem quiet_yes {c : Nat} {f : Nat → Bool} (h : calm c f = true) : quiet c f = calm c (fun i => !f i) := by simp [quiet, h]
theorem quiet_congr {c : Nat} {f g : Nat → Bool} (h : ∀ i, i < 2 * c → f i = g i) : quiet c f = quiet c g := by
  rw [quiet, quiet, calm_congr h, calm_congr (f := fun i => !f i) (g := fun i => !g i) (fun i hi => by rw [h i hi])]
theorem rest_bit {n m : Nat} (h : m < 2 ^ n) (i : Nat) : bitAt (2 ^ n - 1 - m) i = (decide (i < n) && !bitAt m i) := by
  rw [Nat.sub_sub, Nat.add_comm]; exact Nat.testBit_two_pow_sub_succ h i
theorem calm_rest {c m : Nat} (h : m < 2 ^ (2 * c)) : calm c (bitAt (2 ^ (2 * c) - 1 - m)) = calm c (fun i => !bitAt m i) :=
  calm_congr fun i hi => by rw [rest_bit h]; simp [hi]
theorem quiet_code {c : Nat} {bs : List Bool} {t : Bool} (h : bs.length = 2 * c) : quiet c (bitAt (codeOf bs t / 2)) = quiet c (fun i => bs.getD i false) :=
  quiet_congr fun i hi => by rw [code_half, bit_maskUp]; simp [h, hi]

theorem pow_c {c : Nat} (h : c ≤ 4) : 2 ^ (2 * c) ≤ 256 := by
  match c, h with
  | 0, _ => decide
  | 1, _ => decide
  | 2, _ => decide
  | 3, _ => decide
  | 4, _ => decide
theorem wrap_size {c : Nat} (h : c ≤ 4) : wrap64 ((2 : Int) ^ (2 * c)) = ((2 ^ (2 * c) : Nat) : Int) := by
  have h1 := pow_c h
  rw [show (2 : Int) ^ (2 * c) = ((2 ^ (2 * c) : Nat) : Int) by push_cast; rfl]
  generalize 2 ^ (2 * c) = y at h1 ⊢
  unfold wrap64
  omega
theorem wrap_twice {k : Nat} (h : k ≤ 7) : wrap64 (2 * (2 : Int) ^ k) = ((2 ^ (k + 1) : Nat) : Int) := by
  have h1 : 2 ^ k ≤ 2 ^ 7 := Nat.pow_le_pow_right (by omega) h
  rw [show (2 : Int) ^ k = ((2 ^ k : Nat) : Int) by push_cast; rfl, Nat.pow_succ]
  generalize 2 ^ k = y at h1 ⊢
  unfold wrap64
  omega

set_option maxHeartbeats 400000 in
theorem cuSize_any (c : Nat) (s : Int) (w : World) (hc : c ≤ 4) :
    Calls Try.prog 81 #[.agg #[.int .i64 c, .int .i64 s]] w fun e w' => e = .returned (.int .i64 ((2 ^ (2 * c) : Nat) : Int)) ∧ Below w.heap.size w w' := by
  have HW := Lib.hid (wrap_size hc)
  go_enter Try.func81, Try.ntmps81
  go_wp2
  go_ret
  exact ⟨ret_of (by rw [← HW.out]; rfl), below1 w _⟩

set_option maxHeartbeats 1600000 in
theorem cuCode_any (B : Option Addr) (m d : Nat) (bs : List Bool) (t : Bool) (w : World) (hB : Holds w B (bits bs)) (hy : bs.length = m) (hm : m ≤ 8) :
    Calls Try.prog 63 #[.agg #[.slice B m d, .bool t]] w fun e w' => e = .returned (.int .i64 (codeOf bs t)) ∧ Below w.heap.size w w' := by
  subst hy
  have hB2 := hB.alloc (.cells #[.slice B bs.length d, .bool t] 39)
  have hs := Whole.fresh w 39 #[.slice B bs.length d, .bool t]
  have s1 : (w.alloc (.cells #[.slice B bs.length d, .bool t] 39)).cell? ⟨w.heap.size, 1, none⟩ = some (.bool t) := hs.cell 1
  have HC : Hid ((codeOf bs t : Nat) = 2 * maskUp (fun i => bs.getD i false) bs.length + t.toNat) := rfl
  go_enter Try.func63, Try.ntmps63
  go_wp2
  go_loop [3, 9] (fun v i => ∃ k : Nat, k ≤ bs.length ∧ i = .int .i64 k ∧ v = .int .i64 ((2 * maskUp (fun i => bs.getD i false) k : Nat) : Int)) (fun _ i => bs.length - (intOf i).toNat)
  case atStart => exact ⟨0, Nat.zero_le _, rfl, rfl⟩
  case round =>
    obtain ⟨k, hk, rfl, rfl⟩ := hrel
    by_cases hlt : k < bs.length
    · obtain ⟨b, o, rfl, hb, hc⟩ := hB2.look (k := k) (by simpa [bits] using hlt)
      simp only [bits, List.getElem_map] at hc
      have hg : bs.getD k false = bs[k] := by simp [hlt]
      have hml := maskUp_lt (fun i => bs.getD i false) k
      have hpk : 2 ^ k ≤ 2 ^ 7 := Nat.pow_le_pow_right (by omega) (by omega)
      cases hbk : bs[k]
      · rw [hbk] at hc hg
        have HN := Lib.hid (mask_up_no (f := fun i => bs.getD i false) hg)
        clear hg hbk hml hpk
        go_wp2
        go_round
        case rel => exact ⟨k + 1, by omega, by go_num, by rw [HN.out]⟩
        case measure => simp [intOf]; omega
      · rw [hbk] at hc hg
        have HN : Hid (Go.bits .or .i64 ((2 * maskUp (fun i => bs.getD i false) k : Nat) : Int) (wrap64 (2 * (2 : Int) ^ k)) = ((2 * maskUp (fun i => bs.getD i false) (k + 1) : Nat) : Int)) := by
          show _ = _
          rw [wrap_twice (by omega), bits_or_nat _ _ (by omega) (by rw [Nat.pow_succ]; omega), mask_up_or hg]
        clear hg hbk hml hpk
        go_wp2
        go_round
        case rel => exact ⟨k + 1, by omega, by go_num, by rw [← HN.out]; simp⟩
        case measure => simp [intOf]; omega
    · obtain rfl : k = bs.length := by omega
      have hml := maskUp_lt (fun i => bs.getD i false) bs.length
      have hpk : 2 ^ bs.length ≤ 2 ^ 8 := Nat.pow_le_pow_right (by omega) (by omega)
      generalize maskUp (fun i => bs.getD i false) bs.length = M at HC hml
      have hM : M ≤ 256 := by omega
      clear hml hpk
      cases t
      · go_wp2
        go_ret
        exact ⟨ret_of (by rw [HC.out]; simp), below1 w _⟩
      · go_wp2
        go_ret
        exact ⟨ret_of (by rw [HC.out]; simp), below1 w _⟩


set_option maxHeartbeats 3200000 in
set_option maxRecDepth 100000 in
theorem cuQuiet_any (c x : Nat) (s : Int) (w : World) (hcc : c ≤ 4) (hx : x / 2 < 2 ^ (2 * c)) :
    Calls Try.prog 62 #[.agg #[.int .i64 c, .int .i64 s], .int .i64 x] w fun e w' => e = .returned (.bool (quiet c (bitAt (x / 2)))) ∧ Below w.heap.size w w' := by
  have hc := Whole.fresh w 25 #[.int .i64 c, .int .i64 s]
  have hxs : x / 2 < 256 := Nat.lt_of_lt_of_le hx (pow_c hcc)
  have HX2 := Lib.hid (show IntKind.i64.wrap ((x : Int) / 2) = ((x / 2 : Nat) : Int) by rw [IntWalk.i64_in _ (by omega)]; omega)
  cases h1 : calm c (bitAt (x / 2))
  · have HP := Lib.hid (quiet_no h1)
    have H1 := Lib.hid h1
    clear h1
    go_enter Try.func62, Try.ntmps62
    go_wp2_with fail
    refine wp_region_held_drew (S := (Box1 w.heap.size (.int .i64 c) (.int .i64 s))) (by kernel_rfl) (box1_of hc.drew) (fun hHeld => ?_)
    refine wpAnyH_take (i := 0) (v := ?_) rfl (by kernel_rfl) (by kernel_rfl) (by kernel_rfl) (fun _ _ _ h => h) (Or.inl ⟨rfl, ?_⟩) hHeld ?_
    rotate_left
    · intro w' hS; obtain ⟨s0, s1⟩ := hS; go_simp <;> with_reducible rfl
    simp only [Act.put, List.getElem_toArray, List.getElem_cons_succ, List.getElem_cons_zero, List.setIfInBounds_toArray, List.set_cons_succ, List.set_cons_zero]
    refine wpAnyH_take (i := 1) (v := ?_) rfl (by kernel_rfl) (by kernel_rfl) (by kernel_rfl) (fun _ _ _ h => h) (Or.inl ⟨rfl, ?_⟩) hHeld ?_
    rotate_left
    · intro w' hS; obtain ⟨s0, s1⟩ := hS; go_simp <;> with_reducible rfl
    simp only [Act.put, List.getElem_toArray, List.getElem_cons_succ, List.getElem_cons_zero, List.setIfInBounds_toArray, List.set_cons_succ, List.set_cons_zero]
    refine wpAnyH_take (i := 2) (v := ?_) rfl (by kernel_rfl) (by kernel_rfl) (by kernel_rfl) (fun _ _ _ h => h) (Or.inl ⟨rfl, ?_⟩) hHeld ?_
    rotate_left
    · intro w' hS; obtain ⟨s0, s1⟩ := hS; go_simp <;> with_reducible rfl
    simp only [Act.put, List.getElem_toArray, List.getElem_cons_succ, List.getElem_cons_zero, List.setIfInBounds_toArray, List.set_cons_succ, List.set_cons_zero]
    refine wpAnyH_take (i := 3) (v := ?_) rfl (by kernel_rfl) (by kernel_rfl) (by kernel_rfl) (fun _ _ _ h => h) (Or.inl ⟨rfl, ?_⟩) hHeld ?_
    rotate_left
    · intro w' hS; obtain ⟨s0, s1⟩ := hS; go_simp <;> with_reducible rfl
    simp only [Act.put, List.getElem_toArray, List.getElem_cons_succ, List.getElem_cons_zero, List.setIfInBounds_toArray, List.set_cons_succ, List.set_cons_zero]
    refine wpAnyH_ready (rs := [4]) (by kernel_rfl) (by simp) (AllReadyH.cons rfl (fun K hK => ?_) AllReadyH.nil)
    go_simp
    rw [HX2.out]
    refine (cuCalm_any c _ _ (by omega)).mono ?_
    rintro e w1 ⟨rfl, rfl⟩
    rw [H1.out]
    refine hK.out _ _ (box1_of hc.drew) (fun hHeld => ?_)
    clear hK K
    try simp only [Act.put, List.getElem_toArray, List.getElem_cons_succ, List.getElem_cons_zero, List.setIfInBounds_toArray, List.set_cons_succ, List.set_cons_zero]
    refine wpAnyH_take (i := 5) (v := ?_) rfl (by kernel_rfl) (by kernel_rfl) (by kernel_rfl) (fun _ _ _ h => h) (Or.inl ⟨rfl, ?_⟩) hHeld ?_
    rotate_left
    · intro w' hS; obtain ⟨s0, s1⟩ := hS; go_simp <;> with_reducible rfl
    simp only [Act.put, List.getElem_toArray, List.getElem_cons_succ, List.getElem_cons_zero, List.setIfInBounds_toArray, List.set_cons_succ, List.set_cons_zero]
    refine wpAnyH_take (i := 6) (v := undef) rfl (by kernel_rfl) (by kernel_rfl) (by kernel_rfl) (fun _ _ _ h => h) (Or.inr ⟨by simp [Region.wanted, yielded], rfl⟩) hHeld ?_
    simp only [Act.put, List.getElem_toArray, List.getElem_cons_succ, List.getElem_cons_zero, List.setIfInBounds_toArray, List.set_cons_succ, List.set_cons_zero]
    refine wpAnyH_take (i := 7) (v := undef) rfl (by kernel_rfl) (by kernel_rfl) (by kernel_rfl) (fun _ _ _ h => h) (Or.inr ⟨by simp [Region.wanted, yielded], rfl⟩) hHeld ?_
    simp only [Act.put, List.getElem_toArray, List.getElem_cons_succ, List.getElem_cons_zero, List.setIfInBounds_toArray, List.set_cons_succ, List.set_cons_zero]
    refine wpAnyH_take (i := 8) (v := undef) rfl (by kernel_rfl) (by kernel_rfl) (by kernel_rfl) (fun _ _ _ h => h) (Or.inr ⟨by simp [Region.wanted, yielded], rfl⟩) hHeld ?_
    simp only [Act.put, List.getElem_toArray, List.getElem_cons_succ, List.getElem_cons_zero, List.setIfInBounds_toArray, List.set_cons_succ, List.set_cons_zero]
    refine wpAnyH_take (i := 9) (v := undef) rfl (by kernel_rfl) (by kernel_rfl) (by kernel_rfl) (fun _ _ _ h => h) (Or.inr ⟨by simp [Region.wanted, yielded], rfl⟩) hHeld ?_
    simp only [Act.put, List.getElem_toArray, List.getElem_cons_succ, List.getElem_cons_zero, List.setIfInBounds_toArray, List.set_cons_succ, List.set_cons_zero]
    refine wpAnyH_take (i := 10) (v := undef) rfl (by kernel_rfl) (by kernel_rfl) (by kernel_rfl) (fun _ _ _ h => h) (Or.inr ⟨by simp [Region.wanted, yielded], rfl⟩) hHeld ?_
    simp only [Act.put, List.getElem_toArray, List.getElem_cons_succ, List.getElem_cons_zero, List.setIfInBounds_toArray, List.set_cons_succ, List.set_cons_zero]
    refine wpAnyH_take (i := 11) (v := undef) rfl (by kernel_rfl) (by kernel_rfl) (by kernel_rfl) (fun _ _ _ h => h) (Or.inr ⟨by simp [Region.wanted, yielded], rfl⟩) hHeld ?_
    simp only [Act.put, List.getElem_toArray, List.getElem_cons_succ, List.getElem_cons_zero, List.setIfInBounds_toArray, List.set_cons_succ, List.set_cons_zero]
    refine wpAnyH_take (i := 12) (v := undef) rfl (by kernel_rfl) (by kernel_rfl) (by kernel_rfl) (fun _ _ _ h => h) (Or.inr ⟨by simp [Region.wanted, yielded], rfl⟩) hHeld ?_
    simp only [Act.put, List.getElem_toArray, List.getElem_cons_succ, List.getElem_cons_zero, List.setIfInBounds_toArray, List.set_cons_succ, List.set_cons_zero]
    refine wpAnyH_take (i := 13) (v := undef) rfl (by kernel_rfl) (by kernel_rfl) (by kernel_rfl) (fun _ _ _ h => h) (Or.inr ⟨by simp [Region.wanted, yielded], rfl⟩) hHeld ?_
    simp only [Act.put, List.getElem_toArray, List.getElem_cons_succ, List.getElem_cons_zero, List.setIfInBounds_toArray, List.set_cons_succ, List.set_cons_zero]
    refine wpAnyH_take (i := 14) (v := undef) rfl (by kernel_rfl) (by kernel_rfl) (by kernel_rfl) (fun _ _ _ h => h) (Or.inr ⟨by simp [Region.wanted, yielded], rfl⟩) hHeld ?_
    simp only [Act.put, List.getElem_toArray, List.getElem_cons_succ, List.getElem_cons_zero, List.setIfInBounds_toArray, List.set_cons_succ, List.set_cons_zero]
    refine wpAnyH_take (i := 15) (v := ?_) rfl (by kernel_rfl) (by kernel_rfl) (by kernel_rfl) (fun _ _ _ h => h) (Or.inl ⟨rfl, ?_⟩) hHeld ?_
    rotate_left
    · intro w' hS; obtain ⟨s0, s1⟩ := hS; go_simp <;> with_reducible rfl
    simp only [Act.put, List.getElem_toArray, List.getElem_cons_succ, List.getElem_cons_zero, List.setIfInBounds_toArray, List.set_cons_succ, List.set_cons_zero]
    refine wpAnyH_take (i := 16) (v := ?_) rfl (by kernel_rfl) (by kernel_rfl) (by kernel_rfl) (fun _ _ _ h => h) (Or.inl ⟨rfl, ?_⟩) hHeld ?_
    rotate_left
    · intro w' hS; obtain ⟨s0, s1⟩ := hS; go_simp <;> with_reducible rfl
    simp only [Act.put, List.getElem_toArray, List.getElem_cons_succ, List.getElem_cons_zero, List.setIfInBounds_toArray, List.set_cons_succ, List.set_cons_zero]
    refine wpAnyH_done (by kernel_rfl) ?_ _
    clear hHeld
    go_wp2
    go_ret
    exact ⟨ret_of (by rw [HP.out]; rfl), (below1 w _).drew⟩
  · have HP := Lib.hid (quiet_yes h1)
    have H1 := Lib.hid h1
    have HR := Lib.hid (calm_rest hx)
    have hp := pow_c hcc
    obtain ⟨N, hN⟩ : ∃ N : Nat, N = 2 ^ (2 * c) := ⟨_, rfl⟩
    rw [← hN] at hp hx
    have HX3 : Hid (IntKind.i64.wrap (IntKind.i64.wrap ((N : Int) - 1) - IntKind.i64.wrap ((x : Int) / 2)) = ((2 ^ (2 * c) - 1 - x / 2 : Nat) : Int)) := by
      show _ = _
      have e1 : IntKind.i64.wrap ((N : Int) - 1) = (N : Int) - 1 := IntWalk.i64_in _ (by omega)
      have e2 : IntKind.i64.wrap ((x : Int) / 2) = (x : Int) / 2 := IntWalk.i64_in _ (by omega)
      have e3 : IntKind.i64.wrap ((N : Int) - 1 - (x : Int) / 2) = (N : Int) - 1 - (x : Int) / 2 := IntWalk.i64_in _ (by omega)
      rw [← hN, e1, e2, e3]
      omega
    have HN := Lib.hid hN
    clear h1 hN
    go_enter Try.func62, Try.ntmps62
    go_wp2_with fail
    refine wp_region_held_drew (S := (Box1 w.heap.size (.int .i64 c) (.int .i64 s))) (by kernel_rfl) (box1_of hc.drew) (fun hHeld => ?_)
    refine wpAnyH_take (i := 0) (v := ?_) rfl (by kernel_rfl) (by kernel_rfl) (by kernel_rfl) (fun _ _ _ h => h) (Or.inl ⟨rfl, ?_⟩) hHeld ?_
    rotate_left
    · intro w' hS; obtain ⟨s0, s1⟩ := hS; go_simp <;> with_reducible rfl
    simp only [Act.put, List.getElem_toArray, List.getElem_cons_succ, List.getElem_cons_zero, List.setIfInBounds_toArray, List.set_cons_succ, List.set_cons_zero]
    refine wpAnyH_take (i := 1) (v := ?_) rfl (by kernel_rfl) (by kernel_rfl) (by kernel_rfl) (fun _ _ _ h => h) (Or.inl ⟨rfl, ?_⟩) hHeld ?_
    rotate_left
    · intro w' hS; obtain ⟨s0, s1⟩ := hS; go_simp <;> with_reducible rfl
    simp only [Act.put, List.getElem_toArray, List.getElem_cons_succ, List.getElem_cons_zero, List.setIfInBounds_toArray, List.set_cons_succ, List.set_cons_zero]
    refine wpAnyH_take (i := 2) (v := ?_) rfl (by kernel_rfl) (by kernel_rfl) (by kernel_rfl) (fun _ _ _ h => h) (Or.inl ⟨rfl, ?_⟩) hHeld ?_
    rotate_left
    · intro w' hS; obtain ⟨s0, s1⟩ := hS; go_simp <;> with_reducible rfl
    simp only [Act.put, List.getElem_toArray, List.getElem_cons_succ, List.getElem_cons_zero, List.setIfInBounds_toArray, List.set_cons_succ, List.set_cons_zero]
    refine wpAnyH_take (i := 3) (v := ?_) rfl (by kernel_rfl) (by kernel_rfl) (by kernel_rfl) (fun _ _ _ h => h) (Or.inl ⟨rfl, ?_⟩) hHeld ?_
    rotate_left
    · intro w' hS; obtain ⟨s0, s1⟩ := hS; go_simp <;> with_reducible rfl
    simp only [Act.put, List.getElem_toArray, List.getElem_cons_succ, List.getElem_cons_zero, List.setIfInBounds_toArray, List.set_cons_succ, List.set_cons_zero]
    refine wpAnyH_ready (rs := [4]) (by kernel_rfl) (by simp) (AllReadyH.cons rfl (fun K hK => ?_) AllReadyH.nil)
    go_simp
    rw [HX2.out]
    refine (cuCalm_any c _ _ (by omega)).mono ?_
    rintro e w1 ⟨rfl, rfl⟩
    rw [H1.out]
    refine hK.out _ _ (box1_of hc.drew) (fun hHeld => ?_)
    clear hK K
    try simp only [Act.put, List.getElem_toArray, List.getElem_cons_succ, List.getElem_cons_zero, List.setIfInBounds_toArray, List.set_cons_succ, List.set_cons_zero]
    refine wpAnyH_take (i := 5) (v := ?_) rfl (by kernel_rfl) (by kernel_rfl) (by kernel_rfl) (fun _ _ _ h => h) (Or.inl ⟨rfl, ?_⟩) hHeld ?_
    rotate_left
    · intro w' hS; obtain ⟨s0, s1⟩ := hS; go_simp <;> with_reducible rfl
    simp only [Act.put, List.getElem_toArray, List.getElem_cons_succ, List.getElem_cons_zero, List.setIfInBounds_toArray, List.set_cons_succ, List.set_cons_zero]
    refine wpAnyH_take (i := 6) (v := ?_) rfl (by kernel_rfl) (by kernel_rfl) (by kernel_rfl) (fun _ _ _ h => h) (Or.inl ⟨rfl, ?_⟩) hHeld ?_
    rotate_left
    · intro w' hS; obtain ⟨s0, s1⟩ := hS; go_simp <;> with_reducible rfl
    simp only [Act.put, List.getElem_toArray, List.getElem_cons_succ, List.getElem_cons_zero, List.setIfInBounds_toArray, List.set_cons_succ, List.set_cons_zero]
    refine wpAnyH_take (i := 7) (v := ?_) rfl (by kernel_rfl) (by kernel_rfl) (by kernel_rfl) (fun _ _ _ h => h) (Or.inl ⟨rfl, ?_⟩) hHeld ?_
    rotate_left
    · intro w' hS; obtain ⟨s0, s1⟩ := hS; go_simp <;> with_reducible rfl
    simp only [Act.put, List.getElem_toArray, List.getElem_cons_succ, List.getElem_cons_zero, List.setIfInBounds_toArray, List.set_cons_succ, List.set_cons_zero]
    refine wpAnyH_take (i := 8) (v := ?_) rfl (by kernel_rfl) (by kernel_rfl) (by kernel_rfl) (fun _ _ _ h => h) (Or.inl ⟨rfl, ?_⟩) hHeld ?_
    rotate_left
    · intro w' hS; obtain ⟨s0, s1⟩ := hS; go_simp <;> with_reducible rfl
    simp only [Act.put, List.getElem_toArray, List.getElem_cons_succ, List.getElem_cons_zero, List.setIfInBounds_toArray, List.set_cons_succ, List.set_cons_zero]
    refine wpAnyH_take (i := 11) (v := ?_) rfl (by kernel_rfl) (by kernel_rfl) (by kernel_rfl) (fun _ _ _ h => h) (Or.inl ⟨rfl, ?_⟩) hHeld ?_
    rotate_left
    · intro w' hS; obtain ⟨s0, s1⟩ := hS; go_simp <;> with_reducible rfl
    simp only [Act.put, List.getElem_toArray, List.getElem_cons_succ, List.getElem_cons_zero, List.setIfInBounds_toArray, List.set_cons_succ, List.set_cons_zero]
    refine wpAnyH_take (i := 12) (v := ?_) rfl (by kernel_rfl) (by kernel_rfl) (by kernel_rfl) (fun _ _ _ h => h) (Or.inl ⟨rfl, ?_⟩) hHeld ?_
    rotate_left
    · intro w' hS; obtain ⟨s0, s1⟩ := hS; go_simp <;> with_reducible rfl
    simp only [Act.put, List.getElem_toArray, List.getElem_cons_succ, List.getElem_cons_zero, List.setIfInBounds_toArray, List.set_cons_succ, List.set_cons_zero]
    refine wpAnyH_ready (rs := [9]) (by kernel_rfl) (by simp) (AllReadyH.cons rfl (fun K hK => ?_) AllReadyH.nil)
    go_simp
    refine (cuSize_any c s _ (by omega)).mono ?_
    rintro e w2 ⟨rfl, hb⟩
    have hc2 := hc.drew.below hb
    have ht := below_then (below1 w _).drew hb (by simp)
    rw [← HN.out]
    refine hK.out _ _ (box1_of hc2) (fun hHeld => ?_)
    clear hK K
    try simp only [Act.put, List.getElem_toArray, List.getElem_cons_succ, List.getElem_cons_zero, List.setIfInBounds_toArray, List.set_cons_succ, List.set_cons_zero]
    refine wpAnyH_take (i := 10) (v := ?_) rfl (by kernel_rfl) (by kernel_rfl) (by kernel_rfl) (fun _ _ _ h => h) (Or.inl ⟨rfl, ?_⟩) hHeld ?_
    rotate_left
    · intro w' hS; obtain ⟨s0, s1⟩ := hS; go_simp <;> with_reducible rfl
    simp only [Act.put, List.getElem_toArray, List.getElem_cons_succ, List.getElem_cons_zero, List.setIfInBounds_toArray, List.set_cons_succ, List.set_cons_zero]
    refine wpAnyH_take (i := 13) (v := ?_) rfl (by kernel_rfl) (by kernel_rfl) (by kernel_rfl) (fun _ _ _ h => h) (Or.inl ⟨rfl, ?_⟩) hHeld ?_
    rotate_left
    · intro w' hS; obtain ⟨s0, s1⟩ := hS; go_simp <;> with_reducible rfl
    simp only [Act.put, List.getElem_toArray, List.getElem_cons_succ, List.getElem_cons_zero, List.setIfInBounds_toArray, List.set_cons_succ, List.set_cons_zero]
    refine wpAnyH_ready (rs := [14]) (by kernel_rfl) (by simp) (AllReadyH.cons rfl (fun K hK => ?_) AllReadyH.nil)
    go_simp
    rw [HX3.out]
    refine (cuCalm_any c _ _ (by omega)).mono ?_
    rintro e w3 ⟨rfl, rfl⟩
    rw [HR.out]
    refine hK.out _ _ (box1_of hc2) (fun hHeld => ?_)
    clear hK K
    try simp only [Act.put, List.getElem_toArray, List.getElem_cons_succ, List.getElem_cons_zero, List.setIfInBounds_toArray, List.set_cons_succ, List.set_cons_zero]
    refine wpAnyH_take (i := 15) (v := ?_) rfl (by kernel_rfl) (by kernel_rfl) (by kernel_rfl) (fun _ _ _ h => h) (Or.inl ⟨rfl, ?_⟩) hHeld ?_
    rotate_left
    · intro w' hS; obtain ⟨s0, s1⟩ := hS; go_simp <;> with_reducible rfl
    simp only [Act.put, List.getElem_toArray, List.getElem_cons_succ, List.getElem_cons_zero, List.setIfInBounds_toArray, List.set_cons_succ, List.set_cons_zero]
    refine wpAnyH_take (i := 16) (v := ?_) rfl (by kernel_rfl) (by kernel_rfl) (by kernel_rfl) (fun _ _ _ h => h) (Or.inl ⟨rfl, ?_⟩) hHeld ?_
    rotate_left
    · intro w' hS; obtain ⟨s0, s1⟩ := hS; go_simp <;> with_reducible rfl
    simp only [Act.put, List.getElem_toArray, List.getElem_cons_succ, List.getElem_cons_zero, List.setIfInBounds_toArray, List.set_cons_succ, List.set_cons_zero]
    refine wpAnyH_done (by kernel_rfl) ?_ _
    clear hHeld
    go_wp2
    go_ret
    exact ⟨ret_of (by rw [HP.out]; rfl), ht⟩
end Go.Proofs.Yteeolclnoblkcaa

namespace Go.Proofs.Yteeolclnoblkcaa
open Go.RowKit

/-- There are a company and a state of it. -/
def isPlace (a b : Int) (bs : List Bool) (t : Bool) : Bool := isCo a b && isState (2 * a.toNat) bs t
theorem place_no {a b : Int} {bs : List Bool} {t : Bool} (h : isCo a b = false) : isPlace a b bs t = false := by simp [isPlace, h]
theorem place_on {k : Nat} {b : Int} {bs : List Bool} {t : Bool} (h : isCo k b = true) : isPlace k b bs t = isState (2 * k) bs t := by simp [isPlace, h]
theorem place_co {a b : Int} {bs : List Bool} {t : Bool} (h : isPlace a b bs t = true) : ∃ k : Nat, a = k ∧ 1 ≤ k ∧ k ≤ 4 ∧ 1 ≤ b ∧ b ≤ 4 ∧ isCo k b = true ∧ isState (2 * k) bs t = true ∧ bs.length = 2 * k := by
  simp only [isPlace, Bool.and_eq_true] at h
  have h1 := isCo_iff.1 h.1
  obtain ⟨k, rfl⟩ := Int.eq_ofNat_of_zero_le (show 0 ≤ a by omega)
  rw [Int.toNat_natCast] at h
  refine ⟨k, rfl, by omega, by omega, h1.2.1, h1.2.2, h.1, h.2, ?_⟩
  by_cases hl : bs.length = 2 * k
  · exact hl
  · rw [isState_len hl] at h; cases h.2

set_option maxHeartbeats 6400000 in
set_option maxRecDepth 100000 in
theorem cuIs_any (a b : Int) (B : Option Addr) (m d : Nat) (bs : List Bool) (t : Bool) (w : World) (hB : Holds w B (bits bs)) (hy : bs.length = m) (hm : m ≤ 9223372036854775807) :
    Calls Try.prog 61 #[.agg #[.int .i64 a, .int .i64 b], .agg #[.slice B m d, .bool t]] w fun e w' => e = .returned (.bool (isPlace a b bs t)) ∧ Below w.heap.size w w' := by
  have hB2 := (hB.alloc (.cells #[.int .i64 a, .int .i64 b] 25)).alloc (.cells #[.slice B m d, .bool t] 39)
  have hc := (Whole.fresh w 25 #[.int .i64 a, .int .i64 b]).alloc (.cells #[.slice B m d, .bool t] 39)
  have hs := Whole.fresh (w.alloc (.cells #[.int .i64 a, .int .i64 b] 25)) 39 #[.slice B m d, .bool t]
  rw [World.size_alloc] at hs
  cases h1 : isCo a b
  · have HP := Lib.hid (place_no (bs := bs) (t := t) h1)
    have H1 := Lib.hid h1
    clear h1 hy
    go_enter Try.func61, Try.ntmps61
    go_wp2_with fail
    refine wp_region_held_drew (S := (Boxes2 w.heap.size (w.heap.size + 1) (.int .i64 a) (.int .i64 b) (.slice B m d) (.bool t))) (by kernel_rfl) (boxes2_of hc.drew hs.drew) (fun hHeld => ?_)
    refine wpAnyH_take (i := 0) (v := ?_) rfl (by kernel_rfl) (by kernel_rfl) (by kernel_rfl) (fun _ _ _ h => h) (Or.inl ⟨rfl, ?_⟩) hHeld ?_
    rotate_left
    · intro w' hS; obtain ⟨s0, s1, s2, s3⟩ := hS; go_simp <;> with_reducible rfl
    simp only [Act.put, List.getElem_toArray, List.getElem_cons_succ, List.getElem_cons_zero, List.setIfInBounds_toArray, List.set_cons_succ, List.set_cons_zero]
    refine wpAnyH_ready (rs := [1]) (by kernel_rfl) (by simp) (AllReadyH.cons rfl (fun K hK => ?_) AllReadyH.nil)
    go_simp
    refine (cuGood_any a b _).mono ?_
    rintro e w1 ⟨rfl, hb⟩
    rw [H1.out]
    have ht := below_then (below2 w _ _).drew hb (by simp; omega)
    have hc1 := hc.drew.below hb
    have hs1 := hs.drew.below hb
    have hB3 := (hB2.drew).below hb
    refine hK.out _ _ (boxes2_of hc1 hs1) (fun hHeld => ?_)
    clear hK K
    try simp only [Act.put, List.getElem_toArray, List.getElem_cons_succ, List.getElem_cons_zero, List.setIfInBounds_toArray, List.set_cons_succ, List.set_cons_zero]
    refine wpAnyH_take (i := 2) (v := ?_) rfl (by kernel_rfl) (by kernel_rfl) (by kernel_rfl) (fun _ _ _ h => h) (Or.inl ⟨rfl, ?_⟩) hHeld ?_
    rotate_left
    · intro w' hS; obtain ⟨s0, s1, s2, s3⟩ := hS; go_simp <;> with_reducible rfl
    simp only [Act.put, List.getElem_toArray, List.getElem_cons_succ, List.getElem_cons_zero, List.setIfInBounds_toArray, List.set_cons_succ, List.set_cons_zero]
    refine wpAnyH_take (i := 3) (v := undef) rfl (by kernel_rfl) (by kernel_rfl) (by kernel_rfl) (fun _ _ _ h => h) (Or.inr ⟨by simp [Region.wanted, yielded], rfl⟩) hHeld ?_
    simp only [Act.put, List.getElem_toArray, List.getElem_cons_succ, List.getElem_cons_zero, List.setIfInBounds_toArray, List.set_cons_succ, List.set_cons_zero]
    refine wpAnyH_take (i := 4) (v := undef) rfl (by kernel_rfl) (by kernel_rfl) (by kernel_rfl) (fun _ _ _ h => h) (Or.inr ⟨by simp [Region.wanted, yielded], rfl⟩) hHeld ?_
    simp only [Act.put, List.getElem_toArray, List.getElem_cons_succ, List.getElem_cons_zero, List.setIfInBounds_toArray, List.set_cons_succ, List.set_cons_zero]
    refine wpAnyH_take (i := 5) (v := undef) rfl (by kernel_rfl) (by kernel_rfl) (by kernel_rfl) (fun _ _ _ h => h) (Or.inr ⟨by simp [Region.wanted, yielded], rfl⟩) hHeld ?_
    simp only [Act.put, List.getElem_toArray, List.getElem_cons_succ, List.getElem_cons_zero, List.setIfInBounds_toArray, List.set_cons_succ, List.set_cons_zero]
    refine wpAnyH_take (i := 6) (v := undef) rfl (by kernel_rfl) (by kernel_rfl) (by kernel_rfl) (fun _ _ _ h => h) (Or.inr ⟨by simp [Region.wanted, yielded], rfl⟩) hHeld ?_
    simp only [Act.put, List.getElem_toArray, List.getElem_cons_succ, List.getElem_cons_zero, List.setIfInBounds_toArray, List.set_cons_succ, List.set_cons_zero]
    refine wpAnyH_take (i := 7) (v := undef) rfl (by kernel_rfl) (by kernel_rfl) (by kernel_rfl) (fun _ _ _ h => h) (Or.inr ⟨by simp [Region.wanted, yielded], rfl⟩) hHeld ?_
    simp only [Act.put, List.getElem_toArray, List.getElem_cons_succ, List.getElem_cons_zero, List.setIfInBounds_toArray, List.set_cons_succ, List.set_cons_zero]
    refine wpAnyH_take (i := 8) (v := undef) rfl (by kernel_rfl) (by kernel_rfl) (by kernel_rfl) (fun _ _ _ h => h) (Or.inr ⟨by simp [Region.wanted, yielded], rfl⟩) hHeld ?_
    simp only [Act.put, List.getElem_toArray, List.getElem_cons_succ, List.getElem_cons_zero, List.setIfInBounds_toArray, List.set_cons_succ, List.set_cons_zero]
    refine wpAnyH_take (i := 9) (v := undef) rfl (by kernel_rfl) (by kernel_rfl) (by kernel_rfl) (fun _ _ _ h => h) (Or.inr ⟨by simp [Region.wanted, yielded], rfl⟩) hHeld ?_
    simp only [Act.put, List.getElem_toArray, List.getElem_cons_succ, List.getElem_cons_zero, List.setIfInBounds_toArray, List.set_cons_succ, List.set_cons_zero]
    refine wpAnyH_take (i := 10) (v := ?_) rfl (by kernel_rfl) (by kernel_rfl) (by kernel_rfl) (fun _ _ _ h => h) (Or.inl ⟨rfl, ?_⟩) hHeld ?_
    rotate_left
    · intro w' hS; obtain ⟨s0, s1, s2, s3⟩ := hS; go_simp <;> with_reducible rfl
    simp only [Act.put, List.getElem_toArray, List.getElem_cons_succ, List.getElem_cons_zero, List.setIfInBounds_toArray, List.set_cons_succ, List.set_cons_zero]
    refine wpAnyH_take (i := 11) (v := ?_) rfl (by kernel_rfl) (by kernel_rfl) (by kernel_rfl) (fun _ _ _ h => h) (Or.inl ⟨rfl, ?_⟩) hHeld ?_
    rotate_left
    · intro w' hS; obtain ⟨s0, s1, s2, s3⟩ := hS; go_simp <;> with_reducible rfl
    simp only [Act.put, List.getElem_toArray, List.getElem_cons_succ, List.getElem_cons_zero, List.setIfInBounds_toArray, List.set_cons_succ, List.set_cons_zero]
    refine wpAnyH_take (i := 12) (v := undef) rfl (by kernel_rfl) (by kernel_rfl) (by kernel_rfl) (fun _ _ _ h => h) (Or.inr ⟨by simp [Region.wanted, yielded], rfl⟩) hHeld ?_
    simp only [Act.put, List.getElem_toArray, List.getElem_cons_succ, List.getElem_cons_zero, List.setIfInBounds_toArray, List.set_cons_succ, List.set_cons_zero]
    refine wpAnyH_take (i := 13) (v := undef) rfl (by kernel_rfl) (by kernel_rfl) (by kernel_rfl) (fun _ _ _ h => h) (Or.inr ⟨by simp [Region.wanted, yielded], rfl⟩) hHeld ?_
    simp only [Act.put, List.getElem_toArray, List.getElem_cons_succ, List.getElem_cons_zero, List.setIfInBounds_toArray, List.set_cons_succ, List.set_cons_zero]
    refine wpAnyH_take (i := 14) (v := undef) rfl (by kernel_rfl) (by kernel_rfl) (by kernel_rfl) (fun _ _ _ h => h) (Or.inr ⟨by simp [Region.wanted, yielded], rfl⟩) hHeld ?_
    simp only [Act.put, List.getElem_toArray, List.getElem_cons_succ, List.getElem_cons_zero, List.setIfInBounds_toArray, List.set_cons_succ, List.set_cons_zero]
    refine wpAnyH_take (i := 15) (v := undef) rfl (by kernel_rfl) (by kernel_rfl) (by kernel_rfl) (fun _ _ _ h => h) (Or.inr ⟨by simp [Region.wanted, yielded], rfl⟩) hHeld ?_
    simp only [Act.put, List.getElem_toArray, List.getElem_cons_succ, List.getElem_cons_zero, List.setIfInBounds_toArray, List.set_cons_succ, List.set_cons_zero]
    refine wpAnyH_take (i := 16) (v := undef) rfl (by kernel_rfl) (by kernel_rfl) (by kernel_rfl) (fun _ _ _ h => h) (Or.inr ⟨by simp [Region.wanted, yielded], rfl⟩) hHeld ?_
    simp only [Act.put, List.getElem_toArray, List.getElem_cons_succ, List.getElem_cons_zero, List.setIfInBounds_toArray, List.set_cons_succ, List.set_cons_zero]
    refine wpAnyH_take (i := 17) (v := undef) rfl (by kernel_rfl) (by kernel_rfl) (by kernel_rfl) (fun _ _ _ h => h) (Or.inr ⟨by simp [Region.wanted, yielded], rfl⟩) hHeld ?_
    simp only [Act.put, List.getElem_toArray, List.getElem_cons_succ, List.getElem_cons_zero, List.setIfInBounds_toArray, List.set_cons_succ, List.set_cons_zero]
    refine wpAnyH_take (i := 18) (v := undef) rfl (by kernel_rfl) (by kernel_rfl) (by kernel_rfl) (fun _ _ _ h => h) (Or.inr ⟨by simp [Region.wanted, yielded], rfl⟩) hHeld ?_
    simp only [Act.put, List.getElem_toArray, List.getElem_cons_succ, List.getElem_cons_zero, List.setIfInBounds_toArray, List.set_cons_succ, List.set_cons_zero]
    refine wpAnyH_take (i := 19) (v := ?_) rfl (by kernel_rfl) (by kernel_rfl) (by kernel_rfl) (fun _ _ _ h => h) (Or.inl ⟨rfl, ?_⟩) hHeld ?_
    rotate_left
    · intro w' hS; obtain ⟨s0, s1, s2, s3⟩ := hS; go_simp <;> with_reducible rfl
    simp only [Act.put, List.getElem_toArray, List.getElem_cons_succ, List.getElem_cons_zero, List.setIfInBounds_toArray, List.set_cons_succ, List.set_cons_zero]
    refine wpAnyH_take (i := 20) (v := ?_) rfl (by kernel_rfl) (by kernel_rfl) (by kernel_rfl) (fun _ _ _ h => h) (Or.inl ⟨rfl, ?_⟩) hHeld ?_
    rotate_left
    · intro w' hS; obtain ⟨s0, s1, s2, s3⟩ := hS; go_simp <;> with_reducible rfl
    simp only [Act.put, List.getElem_toArray, List.getElem_cons_succ, List.getElem_cons_zero, List.setIfInBounds_toArray, List.set_cons_succ, List.set_cons_zero]
    refine wpAnyH_done (by kernel_rfl) ?_ _
    clear hHeld
    go_wp2
    go_ret
    exact ⟨ret_of (by rw [HP.out]; rfl), ht⟩
  have hb4 := isCo_iff.1 h1
  obtain ⟨k, rfl⟩ := Int.eq_ofNat_of_zero_le (show 0 ≤ a by omega)
  have hk : k ≤ 4 := by omega
  have hw2 : IntKind.i64.wrap (2 * (k : Int)) = 2 * (k : Int) := IntWalk.i64_in _ (by omega)
  by_cases hl : bs.length = 2 * k
  · have HP : Hid (isPlace k b bs t = isState (2 * k) bs t) := place_on h1
    have H1 : Hid (isCo k b = true) := h1
    obtain ⟨i0, hi, hz0, hz1, hz2⟩ := info_parts info_int
    have hmk : ∀ W : World, (Instr.makeSlice 28 (.int .i64 (2 * (k : Int))) (.int .i64 (2 * (k : Int)))).run Try.prog W = .ok (.slice (some ⟨W.heap.size, 0, none⟩) (2 * k) (2 * k)) (W.alloc (.cells (madeCells (Value.int .i64 0).cells (2 * k)) 3)) := by
      intro W
      have h := run_make (P := Try.prog) W 28 3 i0 _ Try.underlying28 hi hz0 .i64 .i64 ((2 * k : Nat) : Int) ((2 * k : Nat) : Int) (by omega) (by omega) (by rw [hz2]; omega) (by omega)
      simp only [Int.toNat_natCast, hz1, Nat.mul_one] at h
      rw [show ((2 * k : Nat) : Int) = 2 * (k : Int) by omega] at h
      exact h
    have hle : ((m : Int) == 2 * (k : Int)) = true := by simp; omega
    have hm8 : m ≤ 8 := by omega
    have HY := Lib.hid hy
    clear h1 hi hz0 hz1 hz2 hl hy
    go_enter Try.func61, Try.ntmps61
    go_wp2_with fail
    refine wp_region_held_drew (S := (Boxes2 w.heap.size (w.heap.size + 1) (.int .i64 k) (.int .i64 b) (.slice B m d) (.bool t))) (by kernel_rfl) (boxes2_of hc.drew hs.drew) (fun hHeld => ?_)
    refine wpAnyH_take (i := 0) (v := ?_) rfl (by kernel_rfl) (by kernel_rfl) (by kernel_rfl) (fun _ _ _ h => h) (Or.inl ⟨rfl, ?_⟩) hHeld ?_
    rotate_left
    · intro w' hS; obtain ⟨s0, s1, s2, s3⟩ := hS; go_simp <;> with_reducible rfl
    simp only [Act.put, List.getElem_toArray, List.getElem_cons_succ, List.getElem_cons_zero, List.setIfInBounds_toArray, List.set_cons_succ, List.set_cons_zero]
    refine wpAnyH_ready (rs := [1]) (by kernel_rfl) (by simp) (AllReadyH.cons rfl (fun K hK => ?_) AllReadyH.nil)
    go_simp
    refine (cuGood_any k b _).mono ?_
    rintro e w1 ⟨rfl, hb⟩
    rw [H1.out]
    have ht := below_then (below2 w _ _).drew hb (by simp; omega)
    have hc1 := hc.drew.below hb
    have hs1 := hs.drew.below hb
    have hB3 := (hB2.drew).below hb
    refine hK.out _ _ (boxes2_of hc1 hs1) (fun hHeld => ?_)
    clear hK K
    try simp only [Act.put, List.getElem_toArray, List.getElem_cons_succ, List.getElem_cons_zero, List.setIfInBounds_toArray, List.set_cons_succ, List.set_cons_zero]
    refine wpAnyH_take (i := 2) (v := ?_) rfl (by kernel_rfl) (by kernel_rfl) (by kernel_rfl) (fun _ _ _ h => h) (Or.inl ⟨rfl, ?_⟩) hHeld ?_
    rotate_left
    · intro w' hS; obtain ⟨s0, s1, s2, s3⟩ := hS; go_simp <;> with_reducible rfl
    simp only [Act.put, List.getElem_toArray, List.getElem_cons_succ, List.getElem_cons_zero, List.setIfInBounds_toArray, List.set_cons_succ, List.set_cons_zero]
    refine wpAnyH_take (i := 3) (v := ?_) rfl (by kernel_rfl) (by kernel_rfl) (by kernel_rfl) (fun _ _ _ h => h) (Or.inl ⟨rfl, ?_⟩) hHeld ?_
    rotate_left
    · intro w' hS; obtain ⟨s0, s1, s2, s3⟩ := hS; go_simp <;> with_reducible rfl
    simp only [Act.put, List.getElem_toArray, List.getElem_cons_succ, List.getElem_cons_zero, List.setIfInBounds_toArray, List.set_cons_succ, List.set_cons_zero]
    refine wpAnyH_take (i := 4) (v := ?_) rfl (by kernel_rfl) (by kernel_rfl) (by kernel_rfl) (fun _ _ _ h => h) (Or.inl ⟨rfl, ?_⟩) hHeld ?_
    rotate_left
    · intro w' hS; obtain ⟨s0, s1, s2, s3⟩ := hS; go_simp <;> with_reducible rfl
    simp only [Act.put, List.getElem_toArray, List.getElem_cons_succ, List.getElem_cons_zero, List.setIfInBounds_toArray, List.set_cons_succ, List.set_cons_zero]
    refine wpAnyH_take (i := 5) (v := ?_) rfl (by kernel_rfl) (by kernel_rfl) (by kernel_rfl) (fun _ _ _ h => h) (Or.inl ⟨rfl, ?_⟩) hHeld ?_
    rotate_left
    · intro w' hS; obtain ⟨s0, s1, s2, s3⟩ := hS; go_simp <;> with_reducible rfl
    simp only [Act.put, List.getElem_toArray, List.getElem_cons_succ, List.getElem_cons_zero, List.setIfInBounds_toArray, List.set_cons_succ, List.set_cons_zero]
    refine wpAnyH_take (i := 6) (v := ?_) rfl (by kernel_rfl) (by kernel_rfl) (by kernel_rfl) (fun _ _ _ h => h) (Or.inl ⟨rfl, ?_⟩) hHeld ?_
    rotate_left
    · intro w' hS; obtain ⟨s0, s1, s2, s3⟩ := hS; go_simp <;> with_reducible rfl
    simp only [Act.put, List.getElem_toArray, List.getElem_cons_succ, List.getElem_cons_zero, List.setIfInBounds_toArray, List.set_cons_succ, List.set_cons_zero]
    refine wpAnyH_take (i := 7) (v := ?_) rfl (by kernel_rfl) (by kernel_rfl) (by kernel_rfl) (fun _ _ _ h => h) (Or.inl ⟨rfl, ?_⟩) hHeld ?_
    rotate_left
    · intro w' hS; obtain ⟨s0, s1, s2, s3⟩ := hS; go_simp <;> with_reducible rfl
    simp only [Act.put, List.getElem_toArray, List.getElem_cons_succ, List.getElem_cons_zero, List.setIfInBounds_toArray, List.set_cons_succ, List.set_cons_zero]
    refine wpAnyH_take (i := 8) (v := ?_) rfl (by kernel_rfl) (by kernel_rfl) (by kernel_rfl) (fun _ _ _ h => h) (Or.inl ⟨rfl, ?_⟩) hHeld ?_
    rotate_left
    · intro w' hS; obtain ⟨s0, s1, s2, s3⟩ := hS; go_simp <;> with_reducible rfl
    simp only [Act.put, List.getElem_toArray, List.getElem_cons_succ, List.getElem_cons_zero, List.setIfInBounds_toArray, List.set_cons_succ, List.set_cons_zero]
    refine wpAnyH_take (i := 9) (v := ?_) rfl (by kernel_rfl) (by kernel_rfl) (by kernel_rfl) (fun _ _ _ h => h) (Or.inl ⟨rfl, ?_⟩) hHeld ?_
    rotate_left
    · intro w' hS; obtain ⟨s0, s1, s2, s3⟩ := hS; go_simp <;> with_reducible rfl
    simp only [Act.put, List.getElem_toArray, List.getElem_cons_succ, List.getElem_cons_zero, List.setIfInBounds_toArray, List.set_cons_succ, List.set_cons_zero]
    refine wpAnyH_take (i := 10) (v := ?_) rfl (by kernel_rfl) (by kernel_rfl) (by kernel_rfl) (fun _ _ _ h => h) (Or.inl ⟨rfl, ?_⟩) hHeld ?_
    rotate_left
    · intro w' hS; obtain ⟨s0, s1, s2, s3⟩ := hS; go_simp <;> with_reducible rfl
    simp only [Act.put, List.getElem_toArray, List.getElem_cons_succ, List.getElem_cons_zero, List.setIfInBounds_toArray, List.set_cons_succ, List.set_cons_zero]
    refine wpAnyH_take (i := 11) (v := ?_) rfl (by kernel_rfl) (by kernel_rfl) (by kernel_rfl) (fun _ _ _ h => h) (Or.inl ⟨rfl, ?_⟩) hHeld ?_
    rotate_left
    · intro w' hS; obtain ⟨s0, s1, s2, s3⟩ := hS; go_simp <;> with_reducible rfl
    simp only [Act.put, List.getElem_toArray, List.getElem_cons_succ, List.getElem_cons_zero, List.setIfInBounds_toArray, List.set_cons_succ, List.set_cons_zero]
    refine wpAnyH_take (i := 12) (v := ?_) rfl (by kernel_rfl) (by kernel_rfl) (by kernel_rfl) (fun _ _ _ h => h) (Or.inl ⟨rfl, ?_⟩) hHeld ?_
    rotate_left
    · intro w' hS; obtain ⟨s0, s1, s2, s3⟩ := hS; go_simp <;> with_reducible rfl
    simp only [Act.put, List.getElem_toArray, List.getElem_cons_succ, List.getElem_cons_zero, List.setIfInBounds_toArray, List.set_cons_succ, List.set_cons_zero]
    refine wpAnyH_take (i := 13) (v := ?_) rfl (by kernel_rfl) (by kernel_rfl) (by kernel_rfl) (fun _ _ _ h => h) (Or.inl ⟨rfl, ?_⟩) hHeld ?_
    rotate_left
    · intro w' hS; obtain ⟨s0, s1, s2, s3⟩ := hS; go_simp <;> with_reducible rfl
    simp only [Act.put, List.getElem_toArray, List.getElem_cons_succ, List.getElem_cons_zero, List.setIfInBounds_toArray, List.set_cons_succ, List.set_cons_zero]
    refine wpAnyH_take (i := 14) (v := ?_) rfl (by kernel_rfl) (by kernel_rfl) (by kernel_rfl) (fun _ _ _ h => h) (Or.inl ⟨rfl, ?_⟩) hHeld ?_
    rotate_left
    · intro w' hS; obtain ⟨s0, s1, s2, s3⟩ := hS; go_simp <;> with_reducible rfl
    simp only [Act.put, List.getElem_toArray, List.getElem_cons_succ, List.getElem_cons_zero, List.setIfInBounds_toArray, List.set_cons_succ, List.set_cons_zero]
    refine wpAnyH_take (i := 17) (v := ?_) rfl (by kernel_rfl) (by kernel_rfl) (by kernel_rfl) (fun _ _ _ h => h) (Or.inl ⟨rfl, ?_⟩) hHeld ?_
    rotate_left
    · intro w' hS; obtain ⟨s0, s1, s2, s3⟩ := hS; go_simp <;> with_reducible rfl
    simp only [Act.put, List.getElem_toArray, List.getElem_cons_succ, List.getElem_cons_zero, List.setIfInBounds_toArray, List.set_cons_succ, List.set_cons_zero]
    refine wpAnyH_ready (rs := [15]) (by kernel_rfl) (by simp) (AllReadyH.cons rfl (fun K hK => ?_) AllReadyH.nil)
    go_simp
    refine hK.out _ _ (boxes2_of (hc1.alloc _) (hs1.alloc _)) (fun hHeld => ?_)
    clear hK K
    try simp only [Act.put, List.getElem_toArray, List.getElem_cons_succ, List.getElem_cons_zero, List.setIfInBounds_toArray, List.set_cons_succ, List.set_cons_zero]
    refine wpAnyH_take (i := 16) (v := ?_) rfl (by kernel_rfl) (by kernel_rfl) (by kernel_rfl) (fun _ _ _ h => h) (Or.inl ⟨rfl, ?_⟩) hHeld ?_
    rotate_left
    · intro w' hS; obtain ⟨s0, s1, s2, s3⟩ := hS; go_simp <;> with_reducible rfl
    simp only [Act.put, List.getElem_toArray, List.getElem_cons_succ, List.getElem_cons_zero, List.setIfInBounds_toArray, List.set_cons_succ, List.set_cons_zero]
    refine wpAnyH_ready (rs := [18]) (by kernel_rfl) (by simp) (AllReadyH.cons rfl (fun K hK => ?_) AllReadyH.nil)
    go_simp
    refine (paState_any _ B (2 * k) (2 * k) m d bs 0 t _ (by exact hB3.alloc _) HY.out (by omega)).mono ?_
    rintro e w2 ⟨rfl, hb2⟩
    have ht2 := below_then (ht.alloc ht.size _) hb2 (by simp; have := ht.size; omega)
    refine hK.out _ _ (boxes2_of ((hc1.alloc _).below hb2) ((hs1.alloc _).below hb2)) (fun hHeld => ?_)
    clear hK K
    try simp only [Act.put, List.getElem_toArray, List.getElem_cons_succ, List.getElem_cons_zero, List.setIfInBounds_toArray, List.set_cons_succ, List.set_cons_zero]
    refine wpAnyH_take (i := 19) (v := ?_) rfl (by kernel_rfl) (by kernel_rfl) (by kernel_rfl) (fun _ _ _ h => h) (Or.inl ⟨rfl, ?_⟩) hHeld ?_
    rotate_left
    · intro w' hS; obtain ⟨s0, s1, s2, s3⟩ := hS; go_simp <;> with_reducible rfl
    simp only [Act.put, List.getElem_toArray, List.getElem_cons_succ, List.getElem_cons_zero, List.setIfInBounds_toArray, List.set_cons_succ, List.set_cons_zero]
    refine wpAnyH_take (i := 20) (v := ?_) rfl (by kernel_rfl) (by kernel_rfl) (by kernel_rfl) (fun _ _ _ h => h) (Or.inl ⟨rfl, ?_⟩) hHeld ?_
    rotate_left
    · intro w' hS; obtain ⟨s0, s1, s2, s3⟩ := hS; go_simp <;> with_reducible rfl
    simp only [Act.put, List.getElem_toArray, List.getElem_cons_succ, List.getElem_cons_zero, List.setIfInBounds_toArray, List.set_cons_succ, List.set_cons_zero]
    refine wpAnyH_done (by kernel_rfl) ?_ _
    clear hHeld
    go_wp2
    go_ret
    exact ⟨ret_of (by rw [HP.out]; rfl), ht2⟩
  · have HP : Hid (isPlace k b bs t = false) := by show _ = _; rw [place_on h1, isState_len hl]
    have H1 : Hid (isCo k b = true) := h1
    have hle : ((m : Int) == 2 * (k : Int)) = false := by simp; omega
    clear h1 hl hy
    go_enter Try.func61, Try.ntmps61
    go_wp2_with fail
    refine wp_region_held_drew (S := (Boxes2 w.heap.size (w.heap.size + 1) (.int .i64 k) (.int .i64 b) (.slice B m d) (.bool t))) (by kernel_rfl) (boxes2_of hc.drew hs.drew) (fun hHeld => ?_)
    refine wpAnyH_take (i := 0) (v := ?_) rfl (by kernel_rfl) (by kernel_rfl) (by kernel_rfl) (fun _ _ _ h => h) (Or.inl ⟨rfl, ?_⟩) hHeld ?_
    rotate_left
    · intro w' hS; obtain ⟨s0, s1, s2, s3⟩ := hS; go_simp <;> with_reducible rfl
    simp only [Act.put, List.getElem_toArray, List.getElem_cons_succ, List.getElem_cons_zero, List.setIfInBounds_toArray, List.set_cons_succ, List.set_cons_zero]
    refine wpAnyH_ready (rs := [1]) (by kernel_rfl) (by simp) (AllReadyH.cons rfl (fun K hK => ?_) AllReadyH.nil)
    go_simp
    refine (cuGood_any k b _).mono ?_
    rintro e w1 ⟨rfl, hb⟩
    rw [H1.out]
    have ht := below_then (below2 w _ _).drew hb (by simp; omega)
    have hc1 := hc.drew.below hb
    have hs1 := hs.drew.below hb
    have hB3 := (hB2.drew).below hb
    refine hK.out _ _ (boxes2_of hc1 hs1) (fun hHeld => ?_)
    clear hK K
    try simp only [Act.put, List.getElem_toArray, List.getElem_cons_succ, List.getElem_cons_zero, List.setIfInBounds_toArray, List.set_cons_succ, List.set_cons_zero]
    refine wpAnyH_take (i := 2) (v := ?_) rfl (by kernel_rfl) (by kernel_rfl) (by kernel_rfl) (fun _ _ _ h => h) (Or.inl ⟨rfl, ?_⟩) hHeld ?_
    rotate_left
    · intro w' hS; obtain ⟨s0, s1, s2, s3⟩ := hS; go_simp <;> with_reducible rfl
    simp only [Act.put, List.getElem_toArray, List.getElem_cons_succ, List.getElem_cons_zero, List.setIfInBounds_toArray, List.set_cons_succ, List.set_cons_zero]
    refine wpAnyH_take (i := 3) (v := ?_) rfl (by kernel_rfl) (by kernel_rfl) (by kernel_rfl) (fun _ _ _ h => h) (Or.inl ⟨rfl, ?_⟩) hHeld ?_
    rotate_left
    · intro w' hS; obtain ⟨s0, s1, s2, s3⟩ := hS; go_simp <;> with_reducible rfl
    simp only [Act.put, List.getElem_toArray, List.getElem_cons_succ, List.getElem_cons_zero, List.setIfInBounds_toArray, List.set_cons_succ, List.set_cons_zero]
    refine wpAnyH_take (i := 4) (v := ?_) rfl (by kernel_rfl) (by kernel_rfl) (by kernel_rfl) (fun _ _ _ h => h) (Or.inl ⟨rfl, ?_⟩) hHeld ?_
    rotate_left
    · intro w' hS; obtain ⟨s0, s1, s2, s3⟩ := hS; go_simp <;> with_reducible rfl
    simp only [Act.put, List.getElem_toArray, List.getElem_cons_succ, List.getElem_cons_zero, List.setIfInBounds_toArray, List.set_cons_succ, List.set_cons_zero]
    refine wpAnyH_take (i := 5) (v := ?_) rfl (by kernel_rfl) (by kernel_rfl) (by kernel_rfl) (fun _ _ _ h => h) (Or.inl ⟨rfl, ?_⟩) hHeld ?_
    rotate_left
    · intro w' hS; obtain ⟨s0, s1, s2, s3⟩ := hS; go_simp <;> with_reducible rfl
    simp only [Act.put, List.getElem_toArray, List.getElem_cons_succ, List.getElem_cons_zero, List.setIfInBounds_toArray, List.set_cons_succ, List.set_cons_zero]
    refine wpAnyH_take (i := 6) (v := ?_) rfl (by kernel_rfl) (by kernel_rfl) (by kernel_rfl) (fun _ _ _ h => h) (Or.inl ⟨rfl, ?_⟩) hHeld ?_
    rotate_left
    · intro w' hS; obtain ⟨s0, s1, s2, s3⟩ := hS; go_simp <;> with_reducible rfl
    simp only [Act.put, List.getElem_toArray, List.getElem_cons_succ, List.getElem_cons_zero, List.setIfInBounds_toArray, List.set_cons_succ, List.set_cons_zero]
    refine wpAnyH_take (i := 7) (v := ?_) rfl (by kernel_rfl) (by kernel_rfl) (by kernel_rfl) (fun _ _ _ h => h) (Or.inl ⟨rfl, ?_⟩) hHeld ?_
    rotate_left
    · intro w' hS; obtain ⟨s0, s1, s2, s3⟩ := hS; go_simp <;> with_reducible rfl
    simp only [Act.put, List.getElem_toArray, List.getElem_cons_succ, List.getElem_cons_zero, List.setIfInBounds_toArray, List.set_cons_succ, List.set_cons_zero]
    refine wpAnyH_take (i := 8) (v := ?_) rfl (by kernel_rfl) (by kernel_rfl) (by kernel_rfl) (fun _ _ _ h => h) (Or.inl ⟨rfl, ?_⟩) hHeld ?_
    rotate_left
    · intro w' hS; obtain ⟨s0, s1, s2, s3⟩ := hS; go_simp <;> with_reducible rfl
    simp only [Act.put, List.getElem_toArray, List.getElem_cons_succ, List.getElem_cons_zero, List.setIfInBounds_toArray, List.set_cons_succ, List.set_cons_zero]
    refine wpAnyH_take (i := 9) (v := ?_) rfl (by kernel_rfl) (by kernel_rfl) (by kernel_rfl) (fun _ _ _ h => h) (Or.inl ⟨rfl, ?_⟩) hHeld ?_
    rotate_left
    · intro w' hS; obtain ⟨s0, s1, s2, s3⟩ := hS; go_simp <;> with_reducible rfl
    simp only [Act.put, List.getElem_toArray, List.getElem_cons_succ, List.getElem_cons_zero, List.setIfInBounds_toArray, List.set_cons_succ, List.set_cons_zero]
    refine wpAnyH_take (i := 10) (v := ?_) rfl (by kernel_rfl) (by kernel_rfl) (by kernel_rfl) (fun _ _ _ h => h) (Or.inl ⟨rfl, ?_⟩) hHeld ?_
    rotate_left
    · intro w' hS; obtain ⟨s0, s1, s2, s3⟩ := hS; go_simp <;> with_reducible rfl
    simp only [Act.put, List.getElem_toArray, List.getElem_cons_succ, List.getElem_cons_zero, List.setIfInBounds_toArray, List.set_cons_succ, List.set_cons_zero]
    refine wpAnyH_take (i := 11) (v := ?_) rfl (by kernel_rfl) (by kernel_rfl) (by kernel_rfl) (fun _ _ _ h => h) (Or.inl ⟨rfl, ?_⟩) hHeld ?_
    rotate_left
    · intro w' hS; obtain ⟨s0, s1, s2, s3⟩ := hS; go_simp <;> with_reducible rfl
    simp only [Act.put, List.getElem_toArray, List.getElem_cons_succ, List.getElem_cons_zero, List.setIfInBounds_toArray, List.set_cons_succ, List.set_cons_zero]
    refine wpAnyH_take (i := 12) (v := undef) rfl (by kernel_rfl) (by kernel_rfl) (by kernel_rfl) (fun _ _ _ h => h) (Or.inr ⟨by simp [Region.wanted, yielded], rfl⟩) hHeld ?_
    simp only [Act.put, List.getElem_toArray, List.getElem_cons_succ, List.getElem_cons_zero, List.setIfInBounds_toArray, List.set_cons_succ, List.set_cons_zero]
    refine wpAnyH_take (i := 13) (v := undef) rfl (by kernel_rfl) (by kernel_rfl) (by kernel_rfl) (fun _ _ _ h => h) (Or.inr ⟨by simp [Region.wanted, yielded], rfl⟩) hHeld ?_
    simp only [Act.put, List.getElem_toArray, List.getElem_cons_succ, List.getElem_cons_zero, List.setIfInBounds_toArray, List.set_cons_succ, List.set_cons_zero]
    refine wpAnyH_take (i := 14) (v := undef) rfl (by kernel_rfl) (by kernel_rfl) (by kernel_rfl) (fun _ _ _ h => h) (Or.inr ⟨by simp [Region.wanted, yielded], rfl⟩) hHeld ?_
    simp only [Act.put, List.getElem_toArray, List.getElem_cons_succ, List.getElem_cons_zero, List.setIfInBounds_toArray, List.set_cons_succ, List.set_cons_zero]
    refine wpAnyH_take (i := 15) (v := undef) rfl (by kernel_rfl) (by kernel_rfl) (by kernel_rfl) (fun _ _ _ h => h) (Or.inr ⟨by simp [Region.wanted, yielded], rfl⟩) hHeld ?_
    simp only [Act.put, List.getElem_toArray, List.getElem_cons_succ, List.getElem_cons_zero, List.setIfInBounds_toArray, List.set_cons_succ, List.set_cons_zero]
    refine wpAnyH_take (i := 16) (v := undef) rfl (by kernel_rfl) (by kernel_rfl) (by kernel_rfl) (fun _ _ _ h => h) (Or.inr ⟨by simp [Region.wanted, yielded], rfl⟩) hHeld ?_
    simp only [Act.put, List.getElem_toArray, List.getElem_cons_succ, List.getElem_cons_zero, List.setIfInBounds_toArray, List.set_cons_succ, List.set_cons_zero]
    refine wpAnyH_take (i := 17) (v := undef) rfl (by kernel_rfl) (by kernel_rfl) (by kernel_rfl) (fun _ _ _ h => h) (Or.inr ⟨by simp [Region.wanted, yielded], rfl⟩) hHeld ?_
    simp only [Act.put, List.getElem_toArray, List.getElem_cons_succ, List.getElem_cons_zero, List.setIfInBounds_toArray, List.set_cons_succ, List.set_cons_zero]
    refine wpAnyH_take (i := 18) (v := undef) rfl (by kernel_rfl) (by kernel_rfl) (by kernel_rfl) (fun _ _ _ h => h) (Or.inr ⟨by simp [Region.wanted, yielded], rfl⟩) hHeld ?_
    simp only [Act.put, List.getElem_toArray, List.getElem_cons_succ, List.getElem_cons_zero, List.setIfInBounds_toArray, List.set_cons_succ, List.set_cons_zero]
    refine wpAnyH_take (i := 19) (v := ?_) rfl (by kernel_rfl) (by kernel_rfl) (by kernel_rfl) (fun _ _ _ h => h) (Or.inl ⟨rfl, ?_⟩) hHeld ?_
    rotate_left
    · intro w' hS; obtain ⟨s0, s1, s2, s3⟩ := hS; go_simp <;> with_reducible rfl
    simp only [Act.put, List.getElem_toArray, List.getElem_cons_succ, List.getElem_cons_zero, List.setIfInBounds_toArray, List.set_cons_succ, List.set_cons_zero]
    refine wpAnyH_take (i := 20) (v := ?_) rfl (by kernel_rfl) (by kernel_rfl) (by kernel_rfl) (fun _ _ _ h => h) (Or.inl ⟨rfl, ?_⟩) hHeld ?_
    rotate_left
    · intro w' hS; obtain ⟨s0, s1, s2, s3⟩ := hS; go_simp <;> with_reducible rfl
    simp only [Act.put, List.getElem_toArray, List.getElem_cons_succ, List.getElem_cons_zero, List.setIfInBounds_toArray, List.set_cons_succ, List.set_cons_zero]
    refine wpAnyH_done (by kernel_rfl) ?_ _
    clear hHeld
    go_wp2
    go_ret
    exact ⟨ret_of (by rw [HP.out]; rfl), ht⟩

/-- What IsCalm hands back. -/
def calmIn (a b : Int) (bs : List Bool) (t : Bool) : Bool := isPlace a b bs t && quiet a.toNat (fun i => bs.getD i false)
theorem calmIn_no {a b : Int} {bs : List Bool} {t : Bool} (h : isPlace a b bs t = false) : calmIn a b bs t = false := by simp [calmIn, h]
theorem calmIn_yes {k : Nat} {b : Int} {bs : List Bool} {t : Bool} (h : isPlace k b bs t = true) : calmIn k b bs t = quiet k (fun i => bs.getD i false) := by simp [calmIn, h]

set_option maxHeartbeats 6400000 in
set_option maxRecDepth 100000 in
theorem specIsCalm_any (a b : Int) (B : Option Addr) (m d : Nat) (bs : List Bool) (t : Bool) (w : World) (hB : Holds w B (bits bs)) (hy : bs.length = m) (hm : m ≤ 9223372036854775807) :
    Calls Try.prog 23 #[.agg #[.int .i64 a, .int .i64 b], .agg #[.slice B m d, .bool t]] w fun e w' => e = .returned (.tuple #[.bool (calmIn a b bs t), .bool (isPlace a b bs t)]) ∧ Below w.heap.size w w' := by
  have hB2 := (hB.alloc (.cells #[.int .i64 a, .int .i64 b] 25)).alloc (.cells #[.slice B m d, .bool t] 39)
  have hc := (Whole.fresh w 25 #[.int .i64 a, .int .i64 b]).alloc (.cells #[.slice B m d, .bool t] 39)
  have hs := Whole.fresh (w.alloc (.cells #[.int .i64 a, .int .i64 b] 25)) 39 #[.slice B m d, .bool t]
  rw [World.size_alloc] at hs
  have HY := Lib.hid hy
  cases h1 : isPlace a b bs t
  · have HC := Lib.hid (calmIn_no h1)
    have H1 := Lib.hid h1
    clear h1 hy
    go_enter Try.func23, Try.ntmps23
    go_wp2_with fail
    refine (cuIs_any a b B m d bs t _ hB2 HY.out hm).mono ?_
    rintro e w1 ⟨rfl, hb⟩
    have ht := below_then (below2 w _ _) hb (by simp; omega)
    rw [H1.out]
    go_wp2
    go_ret2
    exact ⟨by rw [HC.out]; rfl, ht⟩
  · obtain ⟨k, rfl, hk1, hk, -, -, -, -, hl⟩ := place_co h1
    have HC := Lib.hid (calmIn_yes h1)
    have HQ := Lib.hid (quiet_code (c := k) (t := t) hl)
    have HLT := Lib.hid (show codeOf bs t / 2 < 2 ^ (2 * k) by rw [← hl]; exact code_lt bs t)
    have H1 := Lib.hid h1
    have hm8 : m ≤ 8 := by omega
    clear h1 hy hl
    go_enter Try.func23, Try.ntmps23
    go_wp2_with fail
    refine (cuIs_any k b B m d bs t _ hB2 HY.out hm).mono ?_
    rintro e w1 ⟨rfl, hb⟩
    have ht := below_then (below2 w _ _) hb (by simp; omega)
    have hc1 := hc.below hb
    have hs1 := hs.below hb
    have hB3 := hB2.below hb
    rw [H1.out]
    clear hb hc hs
    go_wp2_with fail
    refine wp_region_held_drew (S := (Boxes2 w.heap.size (w.heap.size + 1) (.int .i64 k) (.int .i64 b) (.slice B m d) (.bool t))) (by kernel_rfl) (boxes2_of hc1.drew hs1.drew) (fun hHeld => ?_)
    refine wpAnyH_take (i := 0) (v := ?_) rfl (by kernel_rfl) (by kernel_rfl) (by kernel_rfl) (fun _ _ _ h => h) (Or.inl ⟨rfl, ?_⟩) hHeld ?_
    rotate_left
    · intro w' hS; obtain ⟨s0, s1, s2, s3⟩ := hS; go_simp <;> with_reducible rfl
    simp only [Act.put, List.getElem_toArray, List.getElem_cons_succ, List.getElem_cons_zero, List.setIfInBounds_toArray, List.set_cons_succ, List.set_cons_zero]
    refine wpAnyH_take (i := 1) (v := ?_) rfl (by kernel_rfl) (by kernel_rfl) (by kernel_rfl) (fun _ _ _ h => h) (Or.inl ⟨rfl, ?_⟩) hHeld ?_
    rotate_left
    · intro w' hS; obtain ⟨s0, s1, s2, s3⟩ := hS; go_simp <;> with_reducible rfl
    simp only [Act.put, List.getElem_toArray, List.getElem_cons_succ, List.getElem_cons_zero, List.setIfInBounds_toArray, List.set_cons_succ, List.set_cons_zero]
    refine wpAnyH_ready (rs := [2]) (by kernel_rfl) (by simp) (AllReadyH.cons rfl (fun K hK => ?_) AllReadyH.nil)
    go_simp
    refine (cuCode_any B m d bs t _ (by exact hB3.drew) HY.out (by omega)).mono ?_
    rintro e w2 ⟨rfl, hb2⟩
    have hc2 := hc1.drew.below hb2
    have hs2 := hs1.drew.below hb2
    have ht2 := below_then ht.drew hb2 ht.size
    refine hK.out _ _ (boxes2_of hc2 hs2) (fun hHeld => ?_)
    clear hK K
    try simp only [Act.put, List.getElem_toArray, List.getElem_cons_succ, List.getElem_cons_zero, List.setIfInBounds_toArray, List.set_cons_succ, List.set_cons_zero]
    refine wpAnyH_ready (rs := [3]) (by kernel_rfl) (by simp) (AllReadyH.cons rfl (fun K hK => ?_) AllReadyH.nil)
    go_simp
    refine (cuQuiet_any k _ b _ (by omega) HLT.out).mono ?_
    rintro e w3 ⟨rfl, hb3⟩
    have ht3 := below_then ht2 hb3 ht2.size
    rw [HQ.out]
    refine hK.out _ _ (boxes2_of (hc2.below hb3) (hs2.below hb3)) (fun hHeld => ?_)
    clear hK K
    try simp only [Act.put, List.getElem_toArray, List.getElem_cons_succ, List.getElem_cons_zero, List.setIfInBounds_toArray, List.set_cons_succ, List.set_cons_zero]
    refine wpAnyH_take (i := 4) (v := ?_) rfl (by kernel_rfl) (by kernel_rfl) (by kernel_rfl) (fun _ _ _ h => h) (Or.inl ⟨rfl, ?_⟩) hHeld ?_
    rotate_left
    · intro w' hS; obtain ⟨s0, s1, s2, s3⟩ := hS; go_simp <;> with_reducible rfl
    simp only [Act.put, List.getElem_toArray, List.getElem_cons_succ, List.getElem_cons_zero, List.setIfInBounds_toArray, List.set_cons_succ, List.set_cons_zero]
    refine wpAnyH_take (i := 5) (v := ?_) rfl (by kernel_rfl) (by kernel_rfl) (by kernel_rfl) (fun _ _ _ h => h) (Or.inl ⟨rfl, ?_⟩) hHeld ?_
    rotate_left
    · intro w' hS; obtain ⟨s0, s1, s2, s3⟩ := hS; go_simp <;> with_reducible rfl
    simp only [Act.put, List.getElem_toArray, List.getElem_cons_succ, List.getElem_cons_zero, List.setIfInBounds_toArray, List.set_cons_succ, List.set_cons_zero]
    refine wpAnyH_done (by kernel_rfl) ?_ _
    clear hHeld
    go_wp2
    go_ret2
    exact ⟨by rw [HC.out]; rfl, ht3⟩
end Go.Proofs.Yteeolclnoblkcaa

namespace Go.Proofs.Yteeolclnoblkcaa
open Go.RowKit

/-- So many people, all over. -/
def trues (n : Nat) : List Bool := List.replicate n true
theorem trues_len (n : Nat) : (trues n).length = n := by simp [trues]
theorem trues_next (n : Nat) : bits (trues n) ++ [.bool true] = bits (trues (n + 1)) := by
  simp [bits, trues, List.replicate_succ']

/-- The places of the last state: none where there is no party. -/
def lastBits (xs : List Int) (n : Nat) (s : Int) : List Bool := if isParty xs s then trues n else []
theorem lastBits_le (xs : List Int) (n : Nat) (s : Int) : (lastBits xs n s).length ≤ n := by
  rw [lastBits]
  split
  · rw [trues_len]; exact Nat.le_refl _
  · simp

theorem place_over (n : Nat) (h : n < 8) : (placeCells (trues n) true).setIfInBounds n (.bool true) = placeCells (trues (n + 1)) true := by
  match n, h with
  | 0, _ => rfl
  | 1, _ => rfl
  | 2, _ => rfl
  | 3, _ => rfl
  | 4, _ => rfl
  | 5, _ => rfl
  | 6, _ => rfl
  | 7, _ => rfl
theorem size_place : (Try.prog.info? 80).map (·.size) = some 9 := by kernel_rfl
theorem place_one (bs : List Bool) (t : Bool) : (placeCells bs t).all (·.oneCell') = true := by simp [placeCells, Value.oneCell']

set_option maxHeartbeats 1600000 in
theorem everybodyOver_any (n : Nat) (w : World) (hn : n ≤ 8) :
    Calls Try.prog 97 #[.int .i64 n] w fun e w' => e = .returned (.agg (placeCells (trues n) true)) ∧ Below w.heap.size w w' := by
  have h1 := (Whole.fresh w 80 (placeCells [] false)).alloc (.cells (placeCells (trues 0) true) 80)
  have h2 := Whole.fresh (w.alloc (.cells (placeCells [] false) 80)) 80 (placeCells (trues 0) true)
  have hb0 := below2 w (.cells (placeCells [] false) 80) (.cells (placeCells (trues 0) true) 80)
  simp only [World.size_alloc] at h1 h2
  go_enter Try.func97, Try.ntmps97
  go_wp2
  go_loopw [7] (fun i wr => ∃ k : Nat, k ≤ n ∧ i = .int .i64 k ∧ Whole wr w.heap.size 80 (placeCells [] false) ∧ Whole wr (w.heap.size + 1) 80 (placeCells (trues k) true) ∧ Below w.heap.size w wr) (fun i _ => n - (intOf i).toNat)
  case atStart => exact ⟨0, Nat.zero_le _, rfl, h1, h2, hb0⟩
  case round =>
    clear h1 h2 hb0
    obtain ⟨k, hk, rfl, h1, h2, hb⟩ := hrel
    by_cases hlt : k < n
    · have hk8 : k < 8 := by omega
      have hki : (k : Int) < 8 := by omega
      have hcell := (h2.cell k).trans (place_at (trues k) true hk8)
      have hfr := h2.open_ k
      have hset := h2.set_ k (.bool true)
      rw [place_over k hk8] at hset
      go_wp2
      go_roundw
      case rel => exact ⟨k + 1, by omega, by go_num, h1.off (by omega), hset, below_set hb (by omega)⟩
      case measure => simp [intOf]; omega
    · have hkn : k = n := by omega
      subst hkn
      go_wp2_with (first | (refine wpList_load_row rfl 80 (.tmp 3) rfl (w.heap.size + 1) rfl 80 (placeCells (trues k) true) (0, 0) _ h2 Try.underlying80 rfl size_place ?_) | (refine wpList_store_whole rfl 80 (.tmp 2) (.tmp 15) rfl w.heap.size (placeCells (trues k) true) rfl rfl 80 (placeCells [] false) h1 size_place rfl (place_one _ _) ?_; intro w2 hw2 ho2))
      have hb2 := ho2.below hb (by omega)
      obtain ⟨r0, r1, r2, r3, r4, r5, r6, r7, r8⟩ := place_cells hw2
      refine bodyPost_ret (v := .agg (placeCells (trues k) true)) (by simp [results, Try.results97, go_sem, r0, r1, r2, r3, r4, r5, r6, r7, r8, placeCells]) rfl ⟨rfl, hb2⟩

end Go.Proofs.Yteeolclnoblkcaa

namespace Go.Proofs.Yteeolclnoblkcaa
open Go.RowKit

theorem index8 (f : Nat → Bool) {k : Nat} (h : k < 8) (w : World) : (Instr.index 67 (.agg #[.bool (f 0), .bool (f 1), .bool (f 2), .bool (f 3), .bool (f 4), .bool (f 5), .bool (f 6), .bool (f 7)]) (.int .i64 k)).run Try.prog w = .ok (.bool (f k)) w :=
  match k, h with
  | 0, _ => by kernel_rfl
  | 1, _ => by kernel_rfl
  | 2, _ => by kernel_rfl
  | 3, _ => by kernel_rfl
  | 4, _ => by kernel_rfl
  | 5, _ => by kernel_rfl
  | 6, _ => by kernel_rfl
  | 7, _ => by kernel_rfl
theorem cells8_one (f : Nat → Bool) : (cells8 f).all (·.oneCell') = true := by simp [cells8, Value.oneCell']
theorem size_crowd8 : (Try.prog.info? 69).map (·.size) = some 8 := by kernel_rfl
theorem cells8_cells {w : World} {g : Nat} {ty : TypeId} {f : Nat → Bool} (h : Whole w g ty (cells8 f)) :
    w.cell? ⟨g, 0, none⟩ = some (.bool (f 0)) ∧ w.cell? ⟨g, 1, none⟩ = some (.bool (f 1)) ∧ w.cell? ⟨g, 2, none⟩ = some (.bool (f 2)) ∧ w.cell? ⟨g, 3, none⟩ = some (.bool (f 3)) ∧
    w.cell? ⟨g, 4, none⟩ = some (.bool (f 4)) ∧ w.cell? ⟨g, 5, none⟩ = some (.bool (f 5)) ∧ w.cell? ⟨g, 6, none⟩ = some (.bool (f 6)) ∧ w.cell? ⟨g, 7, none⟩ = some (.bool (f 7)) :=
  ⟨h.cell 0, h.cell 1, h.cell 2, h.cell 3, h.cell 4, h.cell 5, h.cell 6, h.cell 7⟩

/-- The first k people have been looked at. -/
def withTo (f g : Nat → Bool) (k i : Nat) : Bool := if i < k then f i && !g i else f i
theorem with_zero (f g : Nat → Bool) : withTo f g 0 = f := by funext i; simp [withTo]
theorem with_all (f g : Nat → Bool) : cells8 (withTo f g 8) = cells8 (fun i => f i && !g i) := by simp [cells8, withTo]
theorem with_here (f g : Nat → Bool) (k : Nat) : withTo f g k k = f k := by simp [withTo]
theorem with_set (f g : Nat → Bool) {k : Nat} (h : k < 8) : (cells8 (withTo f g k)).setIfInBounds k (.bool (f k && !g k)) = cells8 (withTo f g (k + 1)) := by
  have h1 : withTo f g (k + 1) k = (f k && !g k) := by simp [withTo]
  have hh : ∀ i, i ≠ k → withTo f g (k + 1) i = withTo f g k i := by
    intro i hi
    unfold withTo
    by_cases h1 : i < k
    · rw [if_pos h1, if_pos (by omega)]
    · rw [if_neg h1, if_neg (by omega)]
  rw [← h1]
  unfold cells8
  match k, h with
  | 0, _ => simp [hh]
  | 1, _ => simp [hh]
  | 2, _ => simp [hh]
  | 3, _ => simp [hh]
  | 4, _ => simp [hh]
  | 5, _ => simp [hh]
  | 6, _ => simp [hh]
  | 7, _ => simp [hh]

set_option maxHeartbeats 3200000 in
theorem without_any (f g : Nat → Bool) (w : World) :
    Calls Try.prog 99 #[.agg (cells8 f), .agg (cells8 g)] w fun e w' => e = .returned (.agg (cells8 (fun i => f i && !g i))) ∧ Below w.heap.size w w' := by
  have h0 := ((Whole.fresh w 69 (cells8 f)).alloc (.cells (cells8 g) 69)).alloc (.cells (cells8 (fun _ => false)) 69)
  have h2 := Whole.fresh ((w.alloc (.cells (cells8 f) 69)).alloc (.cells (cells8 g) 69)) 69 (cells8 (fun _ => false))
  simp only [World.size_alloc] at h2
  have hb := below3 w (.cells (cells8 f) 69) (.cells (cells8 g) 69) (.cells (cells8 (fun _ => false)) 69)
  have H0 := Lib.hid h0
  have HZ := Lib.hid (with_zero f g)
  have H2 := Lib.hid h2
  have HB := Lib.hid hb
  have HEND := Lib.hid (with_all f g)
  clear h0 h2 hb
  unfold cells8
  go_enter Try.func99, Try.ntmps99
  go_wp2
  go_loopw [9] (fun i wr => ∃ k : Nat, k ≤ 8 ∧ i = .int .i64 k ∧ Whole wr w.heap.size 69 (cells8 (withTo f g k)) ∧ Whole wr (w.heap.size + 1 + 1) 69 (cells8 (fun _ => false)) ∧ Below w.heap.size w wr) (fun i _ => 8 - (intOf i).toNat)
  case atStart => exact ⟨0, Nat.zero_le _, rfl, by rw [HZ.out]; exact H0.out, H2.out, HB.out⟩
  case round =>
    obtain ⟨k, hk, rfl, g0, g2, hb⟩ := hrel
    clear H0 H2 HB
    have hl0 := g0.lt
    have hl2 := g2.lt
    by_cases hlt : k < 8
    · have hix := index8 g hlt
      have hkk : (k : Int) < 8 := by omega
      have hcell := (g0.cell k).trans (cells8_at (withTo f g k) hlt)
      rw [with_here] at hcell
      have hfr := g0.open_ k
      have hs := g0.set_ k (.bool (f k && !g k))
      rw [with_set f g hlt] at hs
      have HF := Lib.hid (g2.off (b := w.heap.size) (o := k) (u := .bool (f k && !g k)) (by omega))
      cases hp : f k <;> cases hq : g k
      all_goals
        rw [hq] at hix
        rw [hp] at hcell
        rw [hp, hq] at hs HF
        have HS := Lib.hid hs
        clear hs hp hq
        go_wp2
        go_roundw
        case rel => exact ⟨k + 1, by omega, by go_num, HS.out, HF.out, below_set hb (Nat.le_refl _)⟩
        case measure => simp [intOf]; omega
    · have hk8 : k = 8 := by omega
      subst hk8
      rw [HEND.out] at g0
      go_wp2_with (first | (refine wpList_load_row rfl 69 (.tmp 2) rfl w.heap.size rfl 69 (cells8 (fun i => f i && !g i)) (0, 0) _ g0 Try.underlying69 rfl size_crowd8 ?_) | (refine wpList_store_whole rfl 69 (.tmp 4) (.tmp 25) rfl (w.heap.size + 1 + 1) (cells8 (fun i => f i && !g i)) rfl rfl 69 (cells8 (fun _ => false)) g2 size_crowd8 rfl (cells8_one _) ?_; intro w2 hw2 ho2))
      have hb2 := ho2.below hb (by omega)
      obtain ⟨r0, r1, r2, r3, r4, r5, r6, r7⟩ := cells8_cells hw2
      refine bodyPost_ret (v := .agg (cells8 (fun i => f i && !g i))) (by simp [results, Try.results99, go_sem, r0, r1, r2, r3, r4, r5, r6, r7, cells8]) rfl ⟨rfl, hb2⟩
end Go.Proofs.Yteeolclnoblkcaa

namespace Go.Proofs.Yteeolclnoblkcaa
open Go.RowKit

/-- The cells of a place. -/
def place9 (f : Nat → Bool) (t : Bool) : Array Value := #[.bool (f 0), .bool (f 1), .bool (f 2), .bool (f 3), .bool (f 4), .bool (f 5), .bool (f 6), .bool (f 7), .bool t]
theorem place_nine9 (bs : List Bool) (t : Bool) : placeCells bs t = place9 (fun i => bs.getD i false) t := rfl
/-- The first n. -/
def firstN (n i : Nat) : Bool := decide (i < n)
theorem trues_at (n i : Nat) : (trues n).getD i false = firstN n i := by
  unfold firstN
  by_cases h : i < n
  · simp [trues, List.getD_eq_getElem?_getD, List.getElem?_replicate, h]
  · simp [trues, List.getD_eq_getElem?_getD, List.getElem?_replicate, h]
theorem place_trues (n : Nat) (t : Bool) : placeCells (trues n) t = place9 (firstN n) t := by
  simp only [placeCells, place9, trues_at]
/-- The eight cells of a crowd. -/
def Row8 (g : Nat) (f : Nat → Bool) (w : World) : Prop :=
  w.cell? ⟨g, 0, none⟩ = some (.bool (f 0)) ∧ w.cell? ⟨g, 1, none⟩ = some (.bool (f 1)) ∧ w.cell? ⟨g, 2, none⟩ = some (.bool (f 2)) ∧ w.cell? ⟨g, 3, none⟩ = some (.bool (f 3)) ∧
  w.cell? ⟨g, 4, none⟩ = some (.bool (f 4)) ∧ w.cell? ⟨g, 5, none⟩ = some (.bool (f 5)) ∧ w.cell? ⟨g, 6, none⟩ = some (.bool (f 6)) ∧ w.cell? ⟨g, 7, none⟩ = some (.bool (f 7))
theorem row8_of {w : World} {g : Nat} {ty : TypeId} {f : Nat → Bool} {t : Bool} (h : Whole w g ty (place9 f t)) : Row8 g f w :=
  ⟨h.cell 0, h.cell 1, h.cell 2, h.cell 3, h.cell 4, h.cell 5, h.cell 6, h.cell 7⟩

def groupFnV (g1 : Nat) : Value := .func (.func 94) #[] #[.pointer (some ⟨g1, 0, none⟩)]
def calmFnV (g3 g4 : Nat) : Value := .func (.func 98) #[] #[.pointer (some ⟨g3, 0, none⟩), .pointer (some ⟨g4, 0, none⟩)]
/-- What the closure that tells calm places has captured. -/
structure CalmFn (w : World) (k g1 g3 g4 : Nat) : Prop where
  b1 : Whole w g1 3 #[.int .i64 k]
  b3 : Whole w g3 72 #[groupFnV g1]
  b4 : Whole w g4 80 (place9 (firstN (2 * k)) true)
theorem CalmFn.below {w w' : World} {k g1 g3 g4 : Nat} (h : CalmFn w k g1 g3 g4) (hb : Below w.heap.size w w') : CalmFn w' k g1 g3 g4 := ⟨h.b1.below hb, h.b3.below hb, h.b4.below hb⟩
theorem CalmFn.drew {w : World} {k g1 g3 g4 : Nat} (h : CalmFn w k g1 g3 g4) : CalmFn w.drew k g1 g3 g4 := ⟨h.b1, h.b3, h.b4⟩
theorem CalmFn.alloc {w : World} {k g1 g3 g4 : Nat} (h : CalmFn w k g1 g3 g4) (o : Obj) : CalmFn (w.alloc o) k g1 g3 g4 := ⟨h.b1.alloc o, h.b3.alloc o, h.b4.alloc o⟩
theorem CalmFn.c1 {w : World} {k g1 g3 g4 : Nat} (h : CalmFn w k g1 g3 g4) : w.cell? ⟨g1, 0, none⟩ = some (.int .i64 k) := h.b1.cell 0
theorem CalmFn.l1 {w : World} {k g1 g3 g4 : Nat} (h : CalmFn w k g1 g3 g4) : g1 < w.heap.size := h.b1.lt

/-- What the closure reads while it runs. -/
def CalmS (g g1 g3 g4 : Nat) (f fa : Nat → Bool) (w : World) : Prop :=
  w.cell? ⟨g3, 0, none⟩ = some (.func (.func 94) #[] #[.pointer (some ⟨g1, 0, none⟩)]) ∧ Row8 g f w ∧ Row8 g4 fa w
theorem calmS_of {w : World} {k g g1 g3 g4 : Nat} {f : Nat → Bool} {t : Bool} (h : CalmFn w k g1 g3 g4) (hp : Whole w g 80 (place9 f t)) : CalmS g g1 g3 g4 f (firstN (2 * k)) w :=
  ⟨h.b3.cell 0, row8_of hp, row8_of h.b4⟩
theorem calm_out {k : Nat} {f : Nat → Bool} : calm k (fun i => firstN (2 * k) i && !f i) = calm k (fun i => !f i) := calm_congr fun i hi => by simp [firstN, hi]

set_option maxHeartbeats 6400000 in
set_option maxRecDepth 100000 in
theorem calmPlaceFn_any (k g1 g3 g4 : Nat) (f : Nat → Bool) (t : Bool) (w : World) (hk : k ≤ 4) (h : CalmFn w k g1 g3 g4) :
    Calls Try.prog 98 #[.agg (place9 f t), .pointer (some ⟨g3, 0, none⟩), .pointer (some ⟨g4, 0, none⟩)] w fun e w' => e = .returned (.bool (quiet k f)) ∧ Below w.heap.size w w' := by
  have hp := Whole.fresh w 80 (place9 f t)
  have hc := (h.alloc (.cells (place9 f t) 80)).drew
  cases h1 : calm k f
  · have HP := Lib.hid (quiet_no h1)
    have H1 := Lib.hid h1
    clear h1
    unfold place9 at *
    go_enter Try.func98, Try.ntmps98
    go_wp2_with fail
    refine wp_region_held_drew (S := (CalmS w.heap.size g1 g3 g4 f (firstN (2 * k)))) (by kernel_rfl) (calmS_of hc hp.drew) (fun hHeld => ?_)
    refine wpAnyH_take (i := 0) (v := ?_) rfl (by kernel_rfl) (by kernel_rfl) (by kernel_rfl) (fun _ _ _ h => h) (Or.inl ⟨rfl, ?_⟩) hHeld ?_
    rotate_left
    · intro w' hS; obtain ⟨sF, ⟨a0, a1, a2, a3, a4, a5, a6, a7⟩, ⟨b0, b1, b2, b3, b4, b5, b6, b7⟩⟩ := hS; go_simp <;> with_reducible rfl
    simp only [Act.put, List.getElem_toArray, List.getElem_cons_succ, List.getElem_cons_zero, List.setIfInBounds_toArray, List.set_cons_succ, List.set_cons_zero]
    refine wpAnyH_take (i := 1) (v := ?_) rfl (by kernel_rfl) (by kernel_rfl) (by kernel_rfl) (fun _ _ _ h => h) (Or.inl ⟨rfl, ?_⟩) hHeld ?_
    rotate_left
    · intro w' hS; obtain ⟨sF, ⟨a0, a1, a2, a3, a4, a5, a6, a7⟩, ⟨b0, b1, b2, b3, b4, b5, b6, b7⟩⟩ := hS; go_simp <;> with_reducible rfl
    simp only [Act.put, List.getElem_toArray, List.getElem_cons_succ, List.getElem_cons_zero, List.setIfInBounds_toArray, List.set_cons_succ, List.set_cons_zero]
    refine wpAnyH_take (i := 2) (v := ?_) rfl (by kernel_rfl) (by kernel_rfl) (by kernel_rfl) (fun _ _ _ h => h) (Or.inl ⟨rfl, ?_⟩) hHeld ?_
    rotate_left
    · intro w' hS; obtain ⟨sF, ⟨a0, a1, a2, a3, a4, a5, a6, a7⟩, ⟨b0, b1, b2, b3, b4, b5, b6, b7⟩⟩ := hS; go_simp <;> with_reducible rfl
    simp only [Act.put, List.getElem_toArray, List.getElem_cons_succ, List.getElem_cons_zero, List.setIfInBounds_toArray, List.set_cons_succ, List.set_cons_zero]
    refine wpAnyH_ready (rs := [3]) (by kernel_rfl) (by simp) (AllReadyH.cons rfl (fun K hK => ?_) AllReadyH.nil)
    go_simp
    refine (calmClosure_any k g1 f _ hk (by exact hc.c1) (by exact hc.l1)).mono ?_
    rintro e w1 ⟨rfl, hb⟩
    rw [H1.out]
    have ht := below_then (below1 w _).drew hb (by simp)
    have hc1 := hc.below hb
    have hp1 := hp.drew.below hb
    refine hK.out _ _ (calmS_of hc1 hp1) (fun hHeld => ?_)
    clear hK K
    try simp only [Act.put, List.getElem_toArray, List.getElem_cons_succ, List.getElem_cons_zero, List.setIfInBounds_toArray, List.set_cons_succ, List.set_cons_zero]
    refine wpAnyH_take (i := 4) (v := ?_) rfl (by kernel_rfl) (by kernel_rfl) (by kernel_rfl) (fun _ _ _ h => h) (Or.inl ⟨rfl, ?_⟩) hHeld ?_
    rotate_left
    · intro w' hS; obtain ⟨sF, ⟨a0, a1, a2, a3, a4, a5, a6, a7⟩, ⟨b0, b1, b2, b3, b4, b5, b6, b7⟩⟩ := hS; go_simp <;> with_reducible rfl
    simp only [Act.put, List.getElem_toArray, List.getElem_cons_succ, List.getElem_cons_zero, List.setIfInBounds_toArray, List.set_cons_succ, List.set_cons_zero]
    refine wpAnyH_take (i := 5) (v := undef) rfl (by kernel_rfl) (by kernel_rfl) (by kernel_rfl) (fun _ _ _ h => h) (Or.inr ⟨by simp [Region.wanted, yielded], rfl⟩) hHeld ?_
    simp only [Act.put, List.getElem_toArray, List.getElem_cons_succ, List.getElem_cons_zero, List.setIfInBounds_toArray, List.set_cons_succ, List.set_cons_zero]
    refine wpAnyH_take (i := 6) (v := undef) rfl (by kernel_rfl) (by kernel_rfl) (by kernel_rfl) (fun _ _ _ h => h) (Or.inr ⟨by simp [Region.wanted, yielded], rfl⟩) hHeld ?_
    simp only [Act.put, List.getElem_toArray, List.getElem_cons_succ, List.getElem_cons_zero, List.setIfInBounds_toArray, List.set_cons_succ, List.set_cons_zero]
    refine wpAnyH_take (i := 7) (v := undef) rfl (by kernel_rfl) (by kernel_rfl) (by kernel_rfl) (fun _ _ _ h => h) (Or.inr ⟨by simp [Region.wanted, yielded], rfl⟩) hHeld ?_
    simp only [Act.put, List.getElem_toArray, List.getElem_cons_succ, List.getElem_cons_zero, List.setIfInBounds_toArray, List.set_cons_succ, List.set_cons_zero]
    refine wpAnyH_take (i := 8) (v := undef) rfl (by kernel_rfl) (by kernel_rfl) (by kernel_rfl) (fun _ _ _ h => h) (Or.inr ⟨by simp [Region.wanted, yielded], rfl⟩) hHeld ?_
    simp only [Act.put, List.getElem_toArray, List.getElem_cons_succ, List.getElem_cons_zero, List.setIfInBounds_toArray, List.set_cons_succ, List.set_cons_zero]
    refine wpAnyH_take (i := 9) (v := undef) rfl (by kernel_rfl) (by kernel_rfl) (by kernel_rfl) (fun _ _ _ h => h) (Or.inr ⟨by simp [Region.wanted, yielded], rfl⟩) hHeld ?_
    simp only [Act.put, List.getElem_toArray, List.getElem_cons_succ, List.getElem_cons_zero, List.setIfInBounds_toArray, List.set_cons_succ, List.set_cons_zero]
    refine wpAnyH_take (i := 10) (v := undef) rfl (by kernel_rfl) (by kernel_rfl) (by kernel_rfl) (fun _ _ _ h => h) (Or.inr ⟨by simp [Region.wanted, yielded], rfl⟩) hHeld ?_
    simp only [Act.put, List.getElem_toArray, List.getElem_cons_succ, List.getElem_cons_zero, List.setIfInBounds_toArray, List.set_cons_succ, List.set_cons_zero]
    refine wpAnyH_take (i := 11) (v := undef) rfl (by kernel_rfl) (by kernel_rfl) (by kernel_rfl) (fun _ _ _ h => h) (Or.inr ⟨by simp [Region.wanted, yielded], rfl⟩) hHeld ?_
    simp only [Act.put, List.getElem_toArray, List.getElem_cons_succ, List.getElem_cons_zero, List.setIfInBounds_toArray, List.set_cons_succ, List.set_cons_zero]
    refine wpAnyH_take (i := 12) (v := ?_) rfl (by kernel_rfl) (by kernel_rfl) (by kernel_rfl) (fun _ _ _ h => h) (Or.inl ⟨rfl, ?_⟩) hHeld ?_
    rotate_left
    · intro w' hS; obtain ⟨sF, ⟨a0, a1, a2, a3, a4, a5, a6, a7⟩, ⟨b0, b1, b2, b3, b4, b5, b6, b7⟩⟩ := hS; go_simp <;> with_reducible rfl
    simp only [Act.put, List.getElem_toArray, List.getElem_cons_succ, List.getElem_cons_zero, List.setIfInBounds_toArray, List.set_cons_succ, List.set_cons_zero]
    refine wpAnyH_take (i := 13) (v := ?_) rfl (by kernel_rfl) (by kernel_rfl) (by kernel_rfl) (fun _ _ _ h => h) (Or.inl ⟨rfl, ?_⟩) hHeld ?_
    rotate_left
    · intro w' hS; obtain ⟨sF, ⟨a0, a1, a2, a3, a4, a5, a6, a7⟩, ⟨b0, b1, b2, b3, b4, b5, b6, b7⟩⟩ := hS; go_simp <;> with_reducible rfl
    simp only [Act.put, List.getElem_toArray, List.getElem_cons_succ, List.getElem_cons_zero, List.setIfInBounds_toArray, List.set_cons_succ, List.set_cons_zero]
    refine wpAnyH_done (by kernel_rfl) ?_ _
    clear hHeld
    go_wp2
    go_ret
    exact ⟨ret_of (by rw [HP.out]; rfl), ht⟩
  · have HP := Lib.hid (quiet_yes h1)
    have HR := Lib.hid (calm_out (k := k) (f := f))
    have H1 := Lib.hid h1
    clear h1
    unfold place9 at *
    go_enter Try.func98, Try.ntmps98
    go_wp2_with fail
    refine wp_region_held_drew (S := (CalmS w.heap.size g1 g3 g4 f (firstN (2 * k)))) (by kernel_rfl) (calmS_of hc hp.drew) (fun hHeld => ?_)
    refine wpAnyH_take (i := 0) (v := ?_) rfl (by kernel_rfl) (by kernel_rfl) (by kernel_rfl) (fun _ _ _ h => h) (Or.inl ⟨rfl, ?_⟩) hHeld ?_
    rotate_left
    · intro w' hS; obtain ⟨sF, ⟨a0, a1, a2, a3, a4, a5, a6, a7⟩, ⟨b0, b1, b2, b3, b4, b5, b6, b7⟩⟩ := hS; go_simp <;> with_reducible rfl
    simp only [Act.put, List.getElem_toArray, List.getElem_cons_succ, List.getElem_cons_zero, List.setIfInBounds_toArray, List.set_cons_succ, List.set_cons_zero]
    refine wpAnyH_take (i := 1) (v := ?_) rfl (by kernel_rfl) (by kernel_rfl) (by kernel_rfl) (fun _ _ _ h => h) (Or.inl ⟨rfl, ?_⟩) hHeld ?_
    rotate_left
    · intro w' hS; obtain ⟨sF, ⟨a0, a1, a2, a3, a4, a5, a6, a7⟩, ⟨b0, b1, b2, b3, b4, b5, b6, b7⟩⟩ := hS; go_simp <;> with_reducible rfl
    simp only [Act.put, List.getElem_toArray, List.getElem_cons_succ, List.getElem_cons_zero, List.setIfInBounds_toArray, List.set_cons_succ, List.set_cons_zero]
    refine wpAnyH_take (i := 2) (v := ?_) rfl (by kernel_rfl) (by kernel_rfl) (by kernel_rfl) (fun _ _ _ h => h) (Or.inl ⟨rfl, ?_⟩) hHeld ?_
    rotate_left
    · intro w' hS; obtain ⟨sF, ⟨a0, a1, a2, a3, a4, a5, a6, a7⟩, ⟨b0, b1, b2, b3, b4, b5, b6, b7⟩⟩ := hS; go_simp <;> with_reducible rfl
    simp only [Act.put, List.getElem_toArray, List.getElem_cons_succ, List.getElem_cons_zero, List.setIfInBounds_toArray, List.set_cons_succ, List.set_cons_zero]
    refine wpAnyH_ready (rs := [3]) (by kernel_rfl) (by simp) (AllReadyH.cons rfl (fun K hK => ?_) AllReadyH.nil)
    go_simp
    refine (calmClosure_any k g1 f _ hk (by exact hc.c1) (by exact hc.l1)).mono ?_
    rintro e w1 ⟨rfl, hb⟩
    rw [H1.out]
    have ht := below_then (below1 w _).drew hb (by simp)
    have hc1 := hc.below hb
    have hp1 := hp.drew.below hb
    refine hK.out _ _ (calmS_of hc1 hp1) (fun hHeld => ?_)
    clear hK K
    try simp only [Act.put, List.getElem_toArray, List.getElem_cons_succ, List.getElem_cons_zero, List.setIfInBounds_toArray, List.set_cons_succ, List.set_cons_zero]
    refine wpAnyH_take (i := 4) (v := ?_) rfl (by kernel_rfl) (by kernel_rfl) (by kernel_rfl) (fun _ _ _ h => h) (Or.inl ⟨rfl, ?_⟩) hHeld ?_
    rotate_left
    · intro w' hS; obtain ⟨sF, ⟨a0, a1, a2, a3, a4, a5, a6, a7⟩, ⟨b0, b1, b2, b3, b4, b5, b6, b7⟩⟩ := hS; go_simp <;> with_reducible rfl
    simp only [Act.put, List.getElem_toArray, List.getElem_cons_succ, List.getElem_cons_zero, List.setIfInBounds_toArray, List.set_cons_succ, List.set_cons_zero]
    refine wpAnyH_take (i := 5) (v := ?_) rfl (by kernel_rfl) (by kernel_rfl) (by kernel_rfl) (fun _ _ _ h => h) (Or.inl ⟨rfl, ?_⟩) hHeld ?_
    rotate_left
    · intro w' hS; obtain ⟨sF, ⟨a0, a1, a2, a3, a4, a5, a6, a7⟩, ⟨b0, b1, b2, b3, b4, b5, b6, b7⟩⟩ := hS; go_simp <;> with_reducible rfl
    simp only [Act.put, List.getElem_toArray, List.getElem_cons_succ, List.getElem_cons_zero, List.setIfInBounds_toArray, List.set_cons_succ, List.set_cons_zero]
    refine wpAnyH_take (i := 6) (v := ?_) rfl (by kernel_rfl) (by kernel_rfl) (by kernel_rfl) (fun _ _ _ h => h) (Or.inl ⟨rfl, ?_⟩) hHeld ?_
    rotate_left
    · intro w' hS; obtain ⟨sF, ⟨a0, a1, a2, a3, a4, a5, a6, a7⟩, ⟨b0, b1, b2, b3, b4, b5, b6, b7⟩⟩ := hS; go_simp <;> with_reducible rfl
    simp only [Act.put, List.getElem_toArray, List.getElem_cons_succ, List.getElem_cons_zero, List.setIfInBounds_toArray, List.set_cons_succ, List.set_cons_zero]
    refine wpAnyH_take (i := 7) (v := ?_) rfl (by kernel_rfl) (by kernel_rfl) (by kernel_rfl) (fun _ _ _ h => h) (Or.inl ⟨rfl, ?_⟩) hHeld ?_
    rotate_left
    · intro w' hS; obtain ⟨sF, ⟨a0, a1, a2, a3, a4, a5, a6, a7⟩, ⟨b0, b1, b2, b3, b4, b5, b6, b7⟩⟩ := hS; go_simp <;> with_reducible rfl
    simp only [Act.put, List.getElem_toArray, List.getElem_cons_succ, List.getElem_cons_zero, List.setIfInBounds_toArray, List.set_cons_succ, List.set_cons_zero]
    refine wpAnyH_take (i := 8) (v := ?_) rfl (by kernel_rfl) (by kernel_rfl) (by kernel_rfl) (fun _ _ _ h => h) (Or.inl ⟨rfl, ?_⟩) hHeld ?_
    rotate_left
    · intro w' hS; obtain ⟨sF, ⟨a0, a1, a2, a3, a4, a5, a6, a7⟩, ⟨b0, b1, b2, b3, b4, b5, b6, b7⟩⟩ := hS; go_simp <;> with_reducible rfl
    simp only [Act.put, List.getElem_toArray, List.getElem_cons_succ, List.getElem_cons_zero, List.setIfInBounds_toArray, List.set_cons_succ, List.set_cons_zero]
    refine wpAnyH_take (i := 9) (v := ?_) rfl (by kernel_rfl) (by kernel_rfl) (by kernel_rfl) (fun _ _ _ h => h) (Or.inl ⟨rfl, ?_⟩) hHeld ?_
    rotate_left
    · intro w' hS; obtain ⟨sF, ⟨a0, a1, a2, a3, a4, a5, a6, a7⟩, ⟨b0, b1, b2, b3, b4, b5, b6, b7⟩⟩ := hS; go_simp <;> with_reducible rfl
    simp only [Act.put, List.getElem_toArray, List.getElem_cons_succ, List.getElem_cons_zero, List.setIfInBounds_toArray, List.set_cons_succ, List.set_cons_zero]
    refine wpAnyH_ready (rs := [10]) (by kernel_rfl) (by simp) (AllReadyH.cons rfl (fun K hK => ?_) AllReadyH.nil)
    go_simp
    refine (without_any (firstN (2 * k)) f _).mono ?_
    rintro e w2 ⟨rfl, hb⟩
    replace ht := below_then ht hb ht.size
    have hc2 := hc1.below hb
    have hp2 := hp1.below hb
    refine hK.out _ _ (calmS_of hc2 hp2) (fun hHeld => ?_)
    clear hK K
    try simp only [Act.put, List.getElem_toArray, List.getElem_cons_succ, List.getElem_cons_zero, List.setIfInBounds_toArray, List.set_cons_succ, List.set_cons_zero]
    refine wpAnyH_ready (rs := [11]) (by kernel_rfl) (by simp) (AllReadyH.cons rfl (fun K hK => ?_) AllReadyH.nil)
    go_simp
    refine (calmClosure_any k g1 (fun i => firstN (2 * k) i && !f i) _ hk (by exact hc2.c1) (by exact hc2.l1)).mono ?_
    rintro e w3 ⟨rfl, hb⟩
    replace ht := below_then ht hb ht.size
    rw [HR.out]
    refine hK.out _ _ (calmS_of (hc2.below hb) (hp2.below hb)) (fun hHeld => ?_)
    clear hK K
    try simp only [Act.put, List.getElem_toArray, List.getElem_cons_succ, List.getElem_cons_zero, List.setIfInBounds_toArray, List.set_cons_succ, List.set_cons_zero]
    refine wpAnyH_take (i := 12) (v := ?_) rfl (by kernel_rfl) (by kernel_rfl) (by kernel_rfl) (fun _ _ _ h => h) (Or.inl ⟨rfl, ?_⟩) hHeld ?_
    rotate_left
    · intro w' hS; obtain ⟨sF, ⟨a0, a1, a2, a3, a4, a5, a6, a7⟩, ⟨b0, b1, b2, b3, b4, b5, b6, b7⟩⟩ := hS; go_simp <;> with_reducible rfl
    simp only [Act.put, List.getElem_toArray, List.getElem_cons_succ, List.getElem_cons_zero, List.setIfInBounds_toArray, List.set_cons_succ, List.set_cons_zero]
    refine wpAnyH_take (i := 13) (v := ?_) rfl (by kernel_rfl) (by kernel_rfl) (by kernel_rfl) (fun _ _ _ h => h) (Or.inl ⟨rfl, ?_⟩) hHeld ?_
    rotate_left
    · intro w' hS; obtain ⟨sF, ⟨a0, a1, a2, a3, a4, a5, a6, a7⟩, ⟨b0, b1, b2, b3, b4, b5, b6, b7⟩⟩ := hS; go_simp <;> with_reducible rfl
    simp only [Act.put, List.getElem_toArray, List.getElem_cons_succ, List.getElem_cons_zero, List.setIfInBounds_toArray, List.set_cons_succ, List.set_cons_zero]
    refine wpAnyH_done (by kernel_rfl) ?_ _
    clear hHeld
    go_wp2
    go_ret
    exact ⟨ret_of (by rw [HP.out]; rfl), ht⟩
end Go.Proofs.Yteeolclnoblkcaa

namespace Go.Proofs.Yteeolclnoblkcaa
open Go.RowKit

def CalmFnPost (k : Nat) (w : World) (e : Ending) (w' : World) : Prop :=
  ∃ g1 g3 g4, e = .returned (calmFnV g3 g4) ∧ CalmFn w' k g1 g3 g4 ∧ Below w.heap.size w w'

set_option maxHeartbeats 1600000 in
theorem calmPlaces_any (k : Nat) (w : World) (hk : k ≤ 4) :
    Calls Try.prog 66 #[.int .i64 k] w (CalmFnPost k w) := by
  have hmf : ∀ (fn : Fn) (first cap : Array Value) (w : World), (Instr.makeFunc fn first cap).run Try.prog w = .ok (.func fn first cap) w := fun _ _ _ _ => rfl
  have h0 := Whole.fresh w 3 #[.int .i64 k]
  have HT := Lib.hid (place_trues (2 * k) true)
  go_enter Try.func66, Try.ntmps66
  go_wp2_with fail
  refine (calmGroups_any _ _).mono ?_
  rintro e w' ⟨rfl, rfl⟩
  go_wp2_with fail
  have he := everybodyOver_any (2 * k) (w.alloc (.cells #[.int .i64 k] 3)) (by omega)
  rw [show ((2 * k : Nat) : Int) = 2 * (k : Int) by omega] at he
  refine he.mono ?_
  clear he
  rintro e w1 ⟨rfl, hb⟩
  rw [HT.out]
  have ht := below_then (below1 w _) hb (by simp)
  have h1 := h0.below hb
  have hs1 : w.heap.size < w1.heap.size := h1.lt
  clear hb h0
  unfold place9
  go_wp2
  go_ret
  have h4 := Whole.fresh (w1.alloc (.cells #[groupFnV w.heap.size] 72)) 80 (place9 (firstN (2 * k)) true)
  rw [World.size_alloc] at h4
  exact ⟨w.heap.size, w1.heap.size, w1.heap.size + 1, rfl, ⟨(h1.alloc _).alloc _, (Whole.fresh w1 72 #[groupFnV w.heap.size]).alloc _, h4⟩, (ht.alloc (by omega) _).alloc (by simp; omega) _⟩

/-- What companyPlace hands back. -/
def CPlacePost (a b : Int) (bs : List Bool) (t : Bool) (w : World) (e : Ending) (w' : World) : Prop :=
  ((isPlace a b bs t = true ∧ e = .returned (.tuple #[.agg (placeCells bs t), .bool true])) ∨ (isPlace a b bs t = false ∧ e = .returned (.tuple #[.agg (placeCells [] false), .bool false]))) ∧ Below w.heap.size w w'

set_option maxHeartbeats 1600000 in
theorem companyPlace_any (a b : Int) (B : Option Addr) (m d : Nat) (bs : List Bool) (t : Bool) (w : World) (hB : Holds w B (bits bs)) (hy : bs.length = m) (hm : m ≤ 9223372036854775807) :
    Calls Try.prog 65 #[.agg #[.int .i64 a, .int .i64 b], .agg #[.slice B m d, .bool t]] w (CPlacePost a b bs t w) := by
  have HY := Lib.hid hy
  have hB2 := ((hB.alloc (.cells #[.int .i64 a, .int .i64 b] 25)).alloc (.cells #[.slice B m d, .bool t] 39)).alloc (.cells (placeCells [] false) 80)
  have h0 := ((Whole.fresh w 25 #[.int .i64 a, .int .i64 b]).alloc (.cells #[.slice B m d, .bool t] 39)).alloc (.cells (placeCells [] false) 80)
  have h1 := (Whole.fresh (w.alloc (.cells #[.int .i64 a, .int .i64 b] 25)) 39 #[.slice B m d, .bool t]).alloc (.cells (placeCells [] false) 80)
  have h2 := Whole.fresh ((w.alloc (.cells #[.int .i64 a, .int .i64 b] 25)).alloc (.cells #[.slice B m d, .bool t] 39)) 80 (placeCells [] false)
  simp only [World.size_alloc] at h1 h2
  cases hp : isCo a b
  · have HP := Lib.hid (place_no (bs := bs) (t := t) hp)
    have HPP := Lib.hid hp
    clear hp hy
    go_enter Try.func65, Try.ntmps65
    go_wp2_with fail
    refine (isCompany_any a b _).mono ?_
    rintro e w1 ⟨rfl, hb1⟩
    rw [HPP.out]
    have ht := below_then (below3 w _ _ _) hb1 (by simp; omega)
    have hr := h2.below hb1
    obtain ⟨r0, r1, r2, r3, r4, r5, r6, r7, r8⟩ := place_cells hr
    obtain ⟨f0, f1, f2, f3, f4, f5, f6, f7, f8⟩ := place_open hr
    clear h0 h1 h2 hb1 hB2
    go_wp2
    refine bodyPost_ret (v := .tuple #[.agg (placeCells [] false), .bool false]) (by simp [results, Try.results65, go_sem, r0, r1, r2, r3, r4, r5, r6, r7, r8, placeCells]) rfl ⟨.inr ⟨HP.out, rfl⟩, ?_⟩
    exact set_place ht (by omega)
  · have hb4 := isCo_iff.1 hp
    obtain ⟨k, rfl⟩ := Int.eq_ofNat_of_zero_le (show 0 ≤ a by omega)
    have hk : k ≤ 4 := by omega
    have HPP : Hid (isCo k b = true) := hp
    cases hst : isState (2 * k) bs t
    all_goals
      have HST := Lib.hid hst
      have HP : Hid (isPlace k b bs t = _) := (place_on hp).trans hst
      clear hp hst hy hb4
      go_enter Try.func65, Try.ntmps65
      go_wp2_with fail
      refine (isCompany_any k b _).mono ?_
      rintro e w1 ⟨rfl, hb1⟩
      rw [HPP.out]
      have ht := below_then (below3 w _ _ _) hb1 (by simp; omega)
      have hr := h2.below hb1
      have hB3 := hB2.below hb1
      obtain ⟨c0, c1, -, -⟩ := (h0.below hb1).two
      obtain ⟨d0, d1, -, -⟩ := (h1.below hb1).two
      clear h0 h1 h2 hb1 hB2
      go_wp2_with fail
    · have hpo := placeOf_no B (2 * k) m d bs t w1 hB3 HY.out hm HST.out
      rw [show ((2 * k : Nat) : Int) = 2 * (k : Int) by omega] at hpo
      refine hpo.mono ?_
      clear hpo
      rintro e w2 ⟨rfl, hb⟩
      replace ht := below_then ht hb ht.size
      replace hr := hr.below hb
      obtain ⟨r0, r1, r2, r3, r4, r5, r6, r7, r8⟩ := place_cells hr
      obtain ⟨f0, f1, f2, f3, f4, f5, f6, f7, f8⟩ := place_open hr
      clear hb c0 c1 d0 d1
      unfold placeCells
      go_wp2
      refine bodyPost_ret (v := .tuple #[.agg (placeCells [] false), .bool false]) (by simp [results, Try.results65, go_sem, r0, r1, r2, r3, r4, r5, r6, r7, r8, placeCells]) rfl ⟨.inr ⟨HP.out, rfl⟩, ?_⟩
      exact set_place ht (by omega)
    · have hpo := placeOf_yes B (2 * k) m d bs t w1 hB3 HY.out (by omega) HST.out
      rw [show ((2 * k : Nat) : Int) = 2 * (k : Int) by omega] at hpo
      refine hpo.mono ?_
      clear hpo
      rintro e w2 ⟨rfl, hb⟩
      replace ht := below_then ht hb ht.size
      replace hr := hr.below hb
      obtain ⟨r0, r1, r2, r3, r4, r5, r6, r7, r8⟩ := place_cells hr
      obtain ⟨f0, f1, f2, f3, f4, f5, f6, f7, f8⟩ := place_open hr
      clear hb c0 c1 d0 d1
      unfold placeCells
      go_wp2
      refine bodyPost_ret (v := .tuple #[.agg (placeCells bs t), .bool true]) (by simp [results, Try.results65, go_sem, r0, r1, r2, r3, r4, r5, r6, r7, r8, placeCells]) rfl ⟨.inl ⟨HP.out, rfl⟩, ?_⟩
      exact set_place ht (by omega)

/-- What IsCalm reads while it asks. -/
def CIs (g h : Nat) (a b : Int) (f : Nat → Bool) (t : Bool) (w : World) : Prop := Box1 g (.int .i64 a) (.int .i64 b) w ∧ Row8 h f w ∧ w.cell? ⟨h, 8, none⟩ = some (.bool t)
theorem cis_of {w : World} {g h : Nat} {a b : Int} {f : Nat → Bool} {t : Bool} {y z : TypeId} (h1 : Whole w g y #[.int .i64 a, .int .i64 b]) (h2 : Whole w h z (place9 f t)) : CIs g h a b f t w := ⟨box1_of h1, row8_of h2, h2.cell 8⟩

set_option maxHeartbeats 6400000 in
set_option maxRecDepth 100000 in
theorem implIsCalm_any (a b : Int) (B : Option Addr) (m d : Nat) (bs : List Bool) (t : Bool) (w : World) (hB : Holds w B (bits bs)) (hy : bs.length = m) (hm : m ≤ 9223372036854775807) :
    Calls Try.prog 25 #[.agg #[.int .i64 a, .int .i64 b], .agg #[.slice B m d, .bool t]] w fun e w' => e = .returned (.tuple #[.bool (calmIn a b bs t), .bool (isPlace a b bs t)]) ∧ Below w.heap.size w w' := by
  have hB2 := (hB.alloc (.cells #[.int .i64 a, .int .i64 b] 25)).alloc (.cells #[.slice B m d, .bool t] 39)
  have hc := (Whole.fresh w 25 #[.int .i64 a, .int .i64 b]).alloc (.cells #[.slice B m d, .bool t] 39)
  have HY := Lib.hid hy
  clear hy
  go_enter Try.func25, Try.ntmps25
  go_wp2_with fail
  refine (companyPlace_any a b B m d bs t _ hB2 HY.out hm).mono ?_
  rintro e w1 ⟨⟨hp, rfl⟩ | ⟨hp, rfl⟩, hb⟩
  · have HP := Lib.hid hp
    obtain ⟨k, rfl, hk1, hk4, hb1, hb4, -, -, -⟩ := place_co hp
    have HC := Lib.hid (calmIn_yes hp)
    have ht := below_then (below2 w _ _) hb (by simp; omega)
    have hc1 := (hc.below hb).alloc (.cells (placeCells bs t) 80)
    have hp1 := Whole.fresh w1 80 (placeCells bs t)
    replace ht := ht.alloc ht.size (.cells (placeCells bs t) 80)
    clear hp hb hc hB2
    rw [place_nine9] at hc1 hp1 ht ⊢
    unfold place9 at *
    go_wp2_with fail
    refine wp_region_held_drew (S := (CIs w.heap.size w1.heap.size k b (fun i => bs.getD i false) t)) (by kernel_rfl) (cis_of hc1.drew hp1.drew) (fun hHeld => ?_)
    refine wpAnyH_take (i := 0) (v := ?_) rfl (by kernel_rfl) (by kernel_rfl) (by kernel_rfl) (fun _ _ _ h => h) (Or.inl ⟨rfl, ?_⟩) hHeld ?_
    rotate_left
    · intro w' hS; obtain ⟨⟨s0, s1⟩, ⟨a0, a1, a2, a3, a4, a5, a6, a7⟩, a8⟩ := hS; go_simp <;> with_reducible rfl
    simp only [Act.put, List.getElem_toArray, List.getElem_cons_succ, List.getElem_cons_zero, List.setIfInBounds_toArray, List.set_cons_succ, List.set_cons_zero]
    refine wpAnyH_take (i := 1) (v := ?_) rfl (by kernel_rfl) (by kernel_rfl) (by kernel_rfl) (fun _ _ _ h => h) (Or.inl ⟨rfl, ?_⟩) hHeld ?_
    rotate_left
    · intro w' hS; obtain ⟨⟨s0, s1⟩, ⟨a0, a1, a2, a3, a4, a5, a6, a7⟩, a8⟩ := hS; go_simp <;> with_reducible rfl
    simp only [Act.put, List.getElem_toArray, List.getElem_cons_succ, List.getElem_cons_zero, List.setIfInBounds_toArray, List.set_cons_succ, List.set_cons_zero]
    refine wpAnyH_take (i := 2) (v := ?_) rfl (by kernel_rfl) (by kernel_rfl) (by kernel_rfl) (fun _ _ _ h => h) (Or.inl ⟨rfl, ?_⟩) hHeld ?_
    rotate_left
    · intro w' hS; obtain ⟨⟨s0, s1⟩, ⟨a0, a1, a2, a3, a4, a5, a6, a7⟩, a8⟩ := hS; go_simp <;> with_reducible rfl
    simp only [Act.put, List.getElem_toArray, List.getElem_cons_succ, List.getElem_cons_zero, List.setIfInBounds_toArray, List.set_cons_succ, List.set_cons_zero]
    refine wpAnyH_take (i := 3) (v := ?_) rfl (by kernel_rfl) (by kernel_rfl) (by kernel_rfl) (fun _ _ _ h => h) (Or.inl ⟨rfl, ?_⟩) hHeld ?_
    rotate_left
    · intro w' hS; obtain ⟨⟨s0, s1⟩, ⟨a0, a1, a2, a3, a4, a5, a6, a7⟩, a8⟩ := hS; go_simp <;> with_reducible rfl
    simp only [Act.put, List.getElem_toArray, List.getElem_cons_succ, List.getElem_cons_zero, List.setIfInBounds_toArray, List.set_cons_succ, List.set_cons_zero]
    refine wpAnyH_take (i := 5) (v := ?_) rfl (by kernel_rfl) (by kernel_rfl) (by kernel_rfl) (fun _ _ _ h => h) (Or.inl ⟨rfl, ?_⟩) hHeld ?_
    rotate_left
    · intro w' hS; obtain ⟨⟨s0, s1⟩, ⟨a0, a1, a2, a3, a4, a5, a6, a7⟩, a8⟩ := hS; go_simp <;> with_reducible rfl
    simp only [Act.put, List.getElem_toArray, List.getElem_cons_succ, List.getElem_cons_zero, List.setIfInBounds_toArray, List.set_cons_succ, List.set_cons_zero]
    refine wpAnyH_take (i := 8) (v := ?_) rfl (by kernel_rfl) (by kernel_rfl) (by kernel_rfl) (fun _ _ _ h => h) (Or.inl ⟨rfl, ?_⟩) hHeld ?_
    rotate_left
    · intro w' hS; obtain ⟨⟨s0, s1⟩, ⟨a0, a1, a2, a3, a4, a5, a6, a7⟩, a8⟩ := hS; go_simp <;> with_reducible rfl
    simp only [Act.put, List.getElem_toArray, List.getElem_cons_succ, List.getElem_cons_zero, List.setIfInBounds_toArray, List.set_cons_succ, List.set_cons_zero]
    refine wpAnyH_ready (rs := [4]) (by kernel_rfl) (by simp) (AllReadyH.cons rfl (fun K hK => ?_) AllReadyH.nil)
    go_simp
    refine (calmPlaces_any k _ hk4).mono ?_
    rintro e w2 ⟨g1, g3, g4, rfl, hF, hb2⟩
    have ht2 := below_then ht.drew hb2 ht.size
    have hc2 := hc1.drew.below hb2
    have hp2 := hp1.drew.below hb2
    unfold calmFnV
    refine hK.out _ _ (cis_of hc2 hp2) (fun hHeld => ?_)
    clear hK K
    try simp only [Act.put, List.getElem_toArray, List.getElem_cons_succ, List.getElem_cons_zero, List.setIfInBounds_toArray, List.set_cons_succ, List.set_cons_zero]
    refine wpAnyH_ready (rs := [6]) (by kernel_rfl) (by simp) (AllReadyH.cons rfl (fun K hK => ?_) AllReadyH.nil)
    go_simp
    refine (calmPlaceFn_any k g1 g3 g4 (fun i => bs.getD i false) t _ hk4 (by exact hF)).mono ?_
    rintro e w3 ⟨rfl, hb3⟩
    have ht3 := below_then ht2 hb3 ht2.size
    refine hK.out _ _ (cis_of (hc2.below hb3) (hp2.below hb3)) (fun hHeld => ?_)
    clear hK K
    try simp only [Act.put, List.getElem_toArray, List.getElem_cons_succ, List.getElem_cons_zero, List.setIfInBounds_toArray, List.set_cons_succ, List.set_cons_zero]
    refine wpAnyH_take (i := 7) (v := ?_) rfl (by kernel_rfl) (by kernel_rfl) (by kernel_rfl) (fun _ _ _ h => h) (Or.inl ⟨rfl, ?_⟩) hHeld ?_
    rotate_left
    · intro w' hS; obtain ⟨⟨s0, s1⟩, ⟨a0, a1, a2, a3, a4, a5, a6, a7⟩, a8⟩ := hS; go_simp <;> with_reducible rfl
    simp only [Act.put, List.getElem_toArray, List.getElem_cons_succ, List.getElem_cons_zero, List.setIfInBounds_toArray, List.set_cons_succ, List.set_cons_zero]
    refine wpAnyH_take (i := 9) (v := ?_) rfl (by kernel_rfl) (by kernel_rfl) (by kernel_rfl) (fun _ _ _ h => h) (Or.inl ⟨rfl, ?_⟩) hHeld ?_
    rotate_left
    · intro w' hS; obtain ⟨⟨s0, s1⟩, ⟨a0, a1, a2, a3, a4, a5, a6, a7⟩, a8⟩ := hS; go_simp <;> with_reducible rfl
    simp only [Act.put, List.getElem_toArray, List.getElem_cons_succ, List.getElem_cons_zero, List.setIfInBounds_toArray, List.set_cons_succ, List.set_cons_zero]
    refine wpAnyH_take (i := 10) (v := ?_) rfl (by kernel_rfl) (by kernel_rfl) (by kernel_rfl) (fun _ _ _ h => h) (Or.inl ⟨rfl, ?_⟩) hHeld ?_
    rotate_left
    · intro w' hS; obtain ⟨⟨s0, s1⟩, ⟨a0, a1, a2, a3, a4, a5, a6, a7⟩, a8⟩ := hS; go_simp <;> with_reducible rfl
    simp only [Act.put, List.getElem_toArray, List.getElem_cons_succ, List.getElem_cons_zero, List.setIfInBounds_toArray, List.set_cons_succ, List.set_cons_zero]
    refine wpAnyH_done (by kernel_rfl) ?_ _
    clear hHeld
    go_wp2
    go_ret2
    exact ⟨by rw [HC.out, HP.out]; rfl, ht3⟩
  · have HP := Lib.hid hp
    have HC := Lib.hid (calmIn_no hp)
    have ht := below_then (below2 w _ _) hb (by simp; omega)
    clear hp hb
    unfold placeCells
    go_wp2
    go_quiet (fail)
    go_wp2
    go_ret2
    exact ⟨by rw [HC.out, HP.out]; rfl, below_draws (ht.alloc ht.size _) _⟩
end Go.Proofs.Yteeolclnoblkcaa

namespace Go.Proofs.Yteeolclnoblkcaa
open Go.RowKit

theorem Whole.cells1 {w : World} {g : Nat} {t : TypeId} {a : Value} (h : Whole w g t #[a]) : w.cell? ⟨g, 0, none⟩ = some a := h.cell 0
theorem Whole.cells2 {w : World} {g : Nat} {t : TypeId} {a b : Value} (h : Whole w g t #[a, b]) : w.cell? ⟨g, 0, none⟩ = some a ∧ w.cell? ⟨g, 1, none⟩ = some b := ⟨h.cell 0, h.cell 1⟩
theorem Whole.cells3 {w : World} {g : Nat} {t : TypeId} {a b c : Value} (h : Whole w g t #[a, b, c]) : w.cell? ⟨g, 0, none⟩ = some a ∧ w.cell? ⟨g, 1, none⟩ = some b ∧ w.cell? ⟨g, 2, none⟩ = some c := ⟨h.cell 0, h.cell 1, h.cell 2⟩
end Go.Proofs.Yteeolclnoblkcaa

namespace Go.Proofs.Yteeolclnoblkcaa
open Go.RowKit

/-- The cells of the trips' own list. -/
def crowdsOf (ls : List (List Int)) : List Value := ls.flatMap fun l => (crowdCells l).toList
theorem crowdsOf_len (ls : List (List Int)) : (crowdsOf ls).length = ls.length * 8 := by
  induction ls with
  | nil => rfl
  | cons l ls ih => simp only [crowdsOf, List.flatMap_cons, List.length_append] at ih ⊢; rw [ih]; simp [crowdCells]; omega
theorem crowdsOf_next {ls : List (List Int)} {k : Nat} (hk : k < ls.length) : crowdsOf (ls.take k) ++ (crowdCells ls[k]).toList = crowdsOf (ls.take (k + 1)) := by
  rw [List.take_succ_eq_append_getElem hk]
  simp only [crowdsOf, List.flatMap_append, List.flatMap_cons, List.flatMap_nil, List.append_nil]
theorem info_crowd : (Try.prog.info? 69).map (fun i => (i.zero, i.size, i.bytes)) = some (some (.agg #[.bool false, .bool false, .bool false, .bool false, .bool false, .bool false, .bool false, .bool false]), 8, 8) := by kernel_rfl

theorem ownsRow_below {w w' : World} {base : Nat} {e : TypeId} {size : Nat} {v : Value} {n : Nat} {xs : List Value} (h : w.ownsRow base e size v n xs) (hb : Below w.heap.size w w') : w'.ownsRow base e size v n xs := by
  obtain ⟨hl, h | ⟨g, cap, cur, hv, hg, hh, r⟩⟩ := h
  · exact ⟨hl, .inl h⟩
  · exact ⟨hl, .inr ⟨g, cap, cur, hv, hg, (hb.block g (Array.getElem?_eq_some_iff.1 hh).1).trans hh, r⟩⟩
theorem ownsRow_only {w w' : World} {base g : Nat} {e : TypeId} {size : Nat} {v : Value} {n : Nat} {xs : List Value} (h : w.ownsRow base e size v n xs) (ho : Only g w w') (hg : g < base) : w'.ownsRow base e size v n xs := by
  obtain ⟨hl, h | ⟨q, cap, cur, hv, hq, hh, r⟩⟩ := h
  · exact ⟨hl, .inl h⟩
  · exact ⟨hl, .inr ⟨q, cap, cur, hv, hq, (ho.block q (by omega)).trans hh, r⟩⟩
theorem own_form {w : World} {base : Nat} {e : TypeId} {size : Nat} {v : Value} {n : Nat} {xs : List Value} (h : w.ownsRow base e size v (n + 1) xs) : ∃ g cap, v = .slice (some ⟨g, 0, none⟩) (n + 1) cap := by
  obtain ⟨-, ⟨-, h⟩ | ⟨g, cap, -, hv, -⟩⟩ := h
  · omega
  · exact ⟨g, cap, hv⟩
theorem cells_new (w : World) (ty : TypeId) (cs : Array Value) : ∀ j u, cs.toList[j]? = some u → (w.alloc (.cells cs ty)).cell? ((⟨w.heap.size, 0, none⟩ : Addr).add j) = some u := fun j u hu => by
  rw [show (⟨w.heap.size, 0, none⟩ : Addr).add j = ⟨w.heap.size, j, none⟩ from by unfold Addr.add; split <;> simp_all, (Whole.fresh w ty cs).cell j]
  simpa using hu
theorem crowd_ones (l : List Int) : ∀ u ∈ (crowdCells l).toList, u.oneCell' = true := by
  have h := crowd_one l
  rw [Array.all_eq_true_iff_forall_mem] at h
  exact fun u hu => h u (by simpa using hu)
end Go.Proofs.Yteeolclnoblkcaa

namespace Go.Proofs.Yteeolclnoblkcaa
open Go.RowKit

/-- The first n bits of a number. -/
def bitsOf (m n : Nat) : List Bool := (List.range n).map (bitAt m)
theorem bitsOf_len (m n : Nat) : (bitsOf m n).length = n := by simp [bitsOf]
theorem bitsOf_next (m n : Nat) : bitsOf m (n + 1) = bitsOf m n ++ [bitAt m n] := by simp [bitsOf, List.range_succ]
theorem bit_half (x j : Nat) : bitAt (x / 2) j = bitAt x (j + 1) := by rw [bitAt_def, bitAt_def, Nat.pow_succ', Nat.div_div_eq_div_mul]
theorem shr_bit (x j : Nat) : (((x : Int) / 2 ^ (j + 1)).tmod 2 == 1) = bitAt (x / 2) j := by
  rw [bit_half, shr_nat, Int.tmod_eq_emod_of_nonneg (Int.natCast_nonneg _), bitAt_def]
  generalize x / 2 ^ (j + 1) = y
  by_cases h : y % 2 = 1
  · have : ((y : Int) % 2) = 1 := by omega
    simp [h, this]
  · have : ((y : Int) % 2) ≠ 1 := by omega
    simp [h, this]
theorem odd_bit (x : Nat) : (((x : Int)) % 2 == 1) = bitAt x 0 := by
  rw [bitAt_def]
  by_cases h : x % 2 = 1
  · have : ((x : Int) % 2) = 1 := by omega
    simp [h, this]
  · have : ((x : Int) % 2) ≠ 1 := by omega
    simp [h, this]

set_option maxHeartbeats 6400000 in
set_option maxRecDepth 100000 in
theorem cuState_any (k x : Nat) (s : Int) (w : World) (hk : k ≤ 4) (hx : x < 1048576) :
    Calls Try.prog 75 #[.agg #[.int .i64 k, .int .i64 s], .int .i64 x] w (fun e w' => ∃ (E : Option Addr) (r : Nat), e = .returned (.agg #[.slice E (2 * k) r, .bool (bitAt x 0)]) ∧ Holds w' E (bits (bitsOf (x / 2) (2 * k))) ∧ Below w.heap.size w w') := by
  obtain ⟨i0, hi, hz0, hz1, hz2⟩ := info_parts info_bool
  have HI := Lib.hid hi
  have HZ0 := Lib.hid hz0
  have HZ1' := Lib.hid hz1
  have HZ2 := Lib.hid hz2
  have hob := odd_bit x
  generalize bitAt x 0 = tb at hob ⊢
  have h0 := ((Whole.fresh w 25 #[.int .i64 k, .int .i64 s]).alloc (.cells #[.slice none 0 0, .bool false] 39)).alloc (.cells #[.slice none 0 0, .bool tb] 39)
  have h1 := (Whole.fresh (w.alloc (.cells #[.int .i64 k, .int .i64 s] 25)) 39 #[.slice none 0 0, .bool false]).alloc (.cells #[.slice none 0 0, .bool tb] 39)
  have h2 := Whole.fresh ((w.alloc (.cells #[.int .i64 k, .int .i64 s] 25)).alloc (.cells #[.slice none 0 0, .bool false] 39)) 39 #[.slice none 0 0, .bool tb]
  simp only [World.size_alloc] at h1 h2
  have hb := below3 w (.cells #[.int .i64 k, .int .i64 s] 25) (.cells #[.slice none 0 0, .bool false] 39) (.cells #[.slice none 0 0, .bool tb] 39)
  have H0 := Lib.hid h0
  have H1 := Lib.hid h1
  have H2 := Lib.hid h2
  have HB := Lib.hid hb
  clear hi hz0 hz1 hz2 h0 h1 h2 hb
  go_enter Try.func75, Try.ntmps75
  go_wp2
  go_loopw [6] (fun i wr => ∃ (j : Nat) (E : Option Addr) (r : Nat), j ≤ 2 * k ∧ i = .int .i64 j ∧ Whole wr w.heap.size 25 #[.int .i64 k, .int .i64 s] ∧ Whole wr (w.heap.size + 1) 39 #[.slice none 0 0, .bool false] ∧ Whole wr (w.heap.size + 1 + 1) 39 #[.slice E j r, .bool tb] ∧ wr.ownsRow (w.heap.size + 1 + 1 + 1) 4 1 (.slice E j r) j (bits (bitsOf (x / 2) j)) ∧ Below w.heap.size w wr) (fun i _ => 2 * k - (intOf i).toNat)
  case atStart => exact ⟨0, none, 0, Nat.zero_le _, rfl, H0.out, H1.out, H2.out, World.ownsRow_nil _ _ _ _, HB.out⟩
  case round =>
    clear H0 H1 H2 HB
    obtain ⟨j, E, r, hj, rfl, g0, g1, g2, hown, hb⟩ := hrel
    obtain ⟨c0, c1, -, -⟩ := g0.two
    by_cases hlt : j < 2 * k
    · obtain ⟨d0, d1, f0, f1⟩ := g2.two
      have hbit := shr_bit x j
      have hd : decide ((j : Int) < 2 * (k : Int)) = true := by simp; omega
      have hw1 : IntKind.i64.wrap ((j : Int) + 1) = (j : Int) + 1 := IntWalk.i64_in _ (by omega)
      have htn : ((j : Int) + 1).toNat = j + 1 := by omega
      have HG0 := Lib.hid g0
      have HG1 := Lib.hid g1
      have HG2 := Lib.hid g2
      have HOWN := Lib.hid hown
      have HB := Lib.hid hb
      have HMX := Lib.hid (show j + 1 ≤ maxLen by unfold maxLen; omega)
      have HBY := Lib.hid (show (j + 1) * 1 ≤ 140737488355328 by omega)
      have HNX := Lib.hid (bitsOf_next (x / 2) j)
      have hl2 := g2.lt
      generalize bitAt (x / 2) j = b at hbit HNX
      clear g0 g1 g2 hown hb
      go_wp2_with fail
      refine wp_region_held_drew (S := (fun _ => True)) (by kernel_rfl) trivial (fun hHeld => ?_)
      refine wpAnyH_take (i := 0) (v := ?_) rfl (by kernel_rfl) (by kernel_rfl) (by kernel_rfl) (fun _ _ _ h => h) (Or.inl ⟨rfl, ?_⟩) hHeld ?_
      rotate_left
      · intro w' hS; skip; go_simp <;> with_reducible rfl
      simp only [Act.put, List.getElem_toArray, List.getElem_cons_succ, List.getElem_cons_zero, List.setIfInBounds_toArray, List.set_cons_succ, List.set_cons_zero]
      refine wpAnyH_take (i := 2) (v := ?_) rfl (by kernel_rfl) (by kernel_rfl) (by kernel_rfl) (fun _ _ _ h => h) (Or.inl ⟨rfl, ?_⟩) hHeld ?_
      rotate_left
      · intro w' hS; skip; go_simp <;> with_reducible rfl
      simp only [Act.put, List.getElem_toArray, List.getElem_cons_succ, List.getElem_cons_zero, List.setIfInBounds_toArray, List.set_cons_succ, List.set_cons_zero]
      refine wpAnyH_take (i := 3) (v := ?_) rfl (by kernel_rfl) (by kernel_rfl) (by kernel_rfl) (fun _ _ _ h => h) (Or.inl ⟨rfl, ?_⟩) hHeld ?_
      rotate_left
      · intro w' hS; skip; go_simp <;> with_reducible rfl
      simp only [Act.put, List.getElem_toArray, List.getElem_cons_succ, List.getElem_cons_zero, List.setIfInBounds_toArray, List.set_cons_succ, List.set_cons_zero]
      refine wpAnyH_take (i := 4) (v := ?_) rfl (by kernel_rfl) (by kernel_rfl) (by kernel_rfl) (fun _ _ _ h => h) (Or.inl ⟨rfl, ?_⟩) hHeld ?_
      rotate_left
      · intro w' hS; skip; go_simp <;> with_reducible rfl
      simp only [Act.put, List.getElem_toArray, List.getElem_cons_succ, List.getElem_cons_zero, List.setIfInBounds_toArray, List.set_cons_succ, List.set_cons_zero]
      refine wpAnyH_take (i := 5) (v := ?_) rfl (by kernel_rfl) (by kernel_rfl) (by kernel_rfl) (fun _ _ _ h => h) (Or.inl ⟨rfl, ?_⟩) hHeld ?_
      rotate_left
      · intro w' hS; skip; go_simp <;> with_reducible rfl
      simp only [Act.put, List.getElem_toArray, List.getElem_cons_succ, List.getElem_cons_zero, List.setIfInBounds_toArray, List.set_cons_succ, List.set_cons_zero]
      refine wpAnyH_take (i := 6) (v := ?_) rfl (by kernel_rfl) (by kernel_rfl) (by kernel_rfl) (fun _ _ _ h => h) (Or.inl ⟨rfl, ?_⟩) hHeld ?_
      rotate_left
      · intro w' hS; skip; go_simp <;> with_reducible rfl
      simp only [Act.put, List.getElem_toArray, List.getElem_cons_succ, List.getElem_cons_zero, List.setIfInBounds_toArray, List.set_cons_succ, List.set_cons_zero]
      refine wpAnyH_take (i := 7) (v := ?_) rfl (by kernel_rfl) (by kernel_rfl) (by kernel_rfl) (fun _ _ _ h => h) (Or.inl ⟨rfl, ?_⟩) hHeld ?_
      rotate_left
      · intro w' hS; skip; go_simp <;> with_reducible rfl
      simp only [Act.put, List.getElem_toArray, List.getElem_cons_succ, List.getElem_cons_zero, List.setIfInBounds_toArray, List.set_cons_succ, List.set_cons_zero]
      refine wpAnyH_ready (rs := [1, 8]) (by kernel_rfl) (by simp) (AllReadyH.cons rfl (fun K hK => ?_) (AllReadyH.cons rfl (fun K hK => ?_) AllReadyH.nil))
      · go_simp
        refine hK.out _ _ trivial (fun hHeld => ?_)
        clear hK K
        try simp only [Act.put, List.getElem_toArray, List.getElem_cons_succ, List.getElem_cons_zero, List.setIfInBounds_toArray, List.set_cons_succ, List.set_cons_zero]
        refine wpAnyH_ready (rs := [8]) (by kernel_rfl) (by simp) (AllReadyH.cons rfl (fun K hK => ?_) AllReadyH.nil)
        go_simp
        refine hK.out _ _ trivial (fun hHeld => ?_)
        clear hK K
        try simp only [Act.put, List.getElem_toArray, List.getElem_cons_succ, List.getElem_cons_zero, List.setIfInBounds_toArray, List.set_cons_succ, List.set_cons_zero]
        refine wpAnyH_ready (rs := [9]) (by kernel_rfl) (by simp) (AllReadyH.cons rfl (fun K hK => ?_) AllReadyH.nil)
        have HO1 := Lib.hid ((ownsRow_below HOWN.out (Below.refl _ wr).drew).alloc (.cells #[.bool b] 4))
        have HB1 := Lib.hid (HB.out.drew.alloc HB.out.size (.cells #[.bool b] 4))
        have HZ1 := Lib.hid (show w.heap.size + 1 + 1 + 1 ≤ ((World.drew wr).alloc (.cells #[.bool b] 4)).heap.size by simp; omega)
        refine step_append_lies _ rfl (.tmp 19) (.tmp 26) 34 rfl (w.heap.size + 1 + 1 + 1) 4 i0 (.bool false) 1 1 Try.underlying34 HI.out HZ0.out HZ1'.out HZ2.out rfl (by decide) (.slice E j r) j (bits (bitsOf (x / 2) j)) (by simp [Act.eval]) HO1.out ⟨wr.heap.size, 0, none⟩ 1 1 [.bool b] (by simp [Act.eval]) rfl (cell_one_new _ _ _) (by simp [Value.oneCell']) (by decide) HMX.out HBY.out HZ1.out (wr.heap.size + 1) (by simp) ?_
        intro g3 c3 w3 hown3 hg3 hat3 hlt3
        have hg2' : Whole w3 (w.heap.size + 1 + 1) 39 #[.slice E j r, .bool tb] := (hg3.block _ (HG2.out.drew.alloc _).lt (fun e => absurd (HO1.out.lt _ e.symm).1 (by omega))).trans (HG2.out.drew.alloc _)
        obtain ⟨d3, d4, f3, f4⟩ := hg2'.two
        have hl3 := hg2'.lt
        refine hK.out _ _ trivial (fun hHeld => ?_)
        clear hK K
        try simp only [Act.put, List.getElem_toArray, List.getElem_cons_succ, List.getElem_cons_zero, List.setIfInBounds_toArray, List.set_cons_succ, List.set_cons_zero]
        refine wpAnyH_take (i := 10) (v := ?_) rfl (by kernel_rfl) (by kernel_rfl) (by kernel_rfl) (fun _ _ _ h => h) (Or.inl ⟨rfl, ?_⟩) hHeld ?_
        rotate_left
        · intro w' hS; skip; go_simp <;> with_reducible rfl
        simp only [Act.put, List.getElem_toArray, List.getElem_cons_succ, List.getElem_cons_zero, List.setIfInBounds_toArray, List.set_cons_succ, List.set_cons_zero]
        refine wpAnyH_ready (rs := [11]) (by kernel_rfl) (by simp) (AllReadyH.cons rfl (fun K hK => ?_) AllReadyH.nil)
        go_simp
        refine hK.out _ _ trivial (fun hHeld => ?_)
        clear hK K
        try simp only [Act.put, List.getElem_toArray, List.getElem_cons_succ, List.getElem_cons_zero, List.setIfInBounds_toArray, List.set_cons_succ, List.set_cons_zero]
        refine wpAnyH_done (by kernel_rfl) ?_ _
        clear hHeld
        have keep : ∀ {q : Nat} {ty : TypeId} {cs : Array Value}, Whole wr q ty cs → q < w.heap.size + 1 + 1 + 1 → Whole w3 q ty cs := fun h hq => (hg3.block _ (h.drew.alloc _).lt (fun e => absurd (HO1.out.lt _ e.symm).1 (by omega))).trans (h.drew.alloc _)
        have K0 := Lib.hid ((keep HG0.out (by omega)).off (b := w.heap.size + 1 + 1) (o := 0) (u := .slice (some ⟨g3, 0, none⟩) (j + 1) c3) (by omega))
        have K1 := Lib.hid ((keep HG1.out (by omega)).off (b := w.heap.size + 1 + 1) (o := 0) (u := .slice (some ⟨g3, 0, none⟩) (j + 1) c3) (by omega))
        have K2 := Lib.hid (hg2'.set_ 0 (.slice (some ⟨g3, 0, none⟩) (j + 1) c3))
        have KB := Lib.hid (below_set (b := w.heap.size + 1 + 1) (o := 0) (u := .slice (some ⟨g3, 0, none⟩) (j + 1) c3) (HB1.out.grown hg3 (by have := HB1.out.size; omega) (fun kk e => by have := (HO1.out.lt _ e).1; omega)) (by omega))
        have KO := Lib.hid (ownsRow_setCell_below (a := ⟨w.heap.size + 1 + 1, 0, none⟩) hown3 (by show w.heap.size + 1 + 1 < _; omega) (.slice (some ⟨g3, 0, none⟩) (j + 1) c3))
        clear keep hg2' d3 d4 f3 f4 hl3 hown3 hg3 hat3 hlt3
        go_wp2
        go_roundw
        case rel => exact ⟨j + 1, some ⟨g3, 0, none⟩, c3, by omega, by go_num, K0.out, K1.out, K2.out, by rw [HNX.out, show bits (bitsOf (x / 2) j ++ [b]) = bits (bitsOf (x / 2) j) ++ [.bool b] by simp [bits]]; exact KO.out, KB.out⟩
        case measure => simp [intOf]; omega
      · go_simp
        refine hK.out _ _ trivial (fun hHeld => ?_)
        clear hK K
        try simp only [Act.put, List.getElem_toArray, List.getElem_cons_succ, List.getElem_cons_zero, List.setIfInBounds_toArray, List.set_cons_succ, List.set_cons_zero]
        refine wpAnyH_ready (rs := [1]) (by kernel_rfl) (by simp) (AllReadyH.cons rfl (fun K hK => ?_) AllReadyH.nil)
        go_simp
        refine hK.out _ _ trivial (fun hHeld => ?_)
        clear hK K
        try simp only [Act.put, List.getElem_toArray, List.getElem_cons_succ, List.getElem_cons_zero, List.setIfInBounds_toArray, List.set_cons_succ, List.set_cons_zero]
        refine wpAnyH_ready (rs := [9]) (by kernel_rfl) (by simp) (AllReadyH.cons rfl (fun K hK => ?_) AllReadyH.nil)
        have HO1 := Lib.hid ((ownsRow_below HOWN.out (Below.refl _ wr).drew).alloc (.cells #[.bool b] 4))
        have HB1 := Lib.hid (HB.out.drew.alloc HB.out.size (.cells #[.bool b] 4))
        have HZ1 := Lib.hid (show w.heap.size + 1 + 1 + 1 ≤ ((World.drew wr).alloc (.cells #[.bool b] 4)).heap.size by simp; omega)
        refine step_append_lies _ rfl (.tmp 19) (.tmp 26) 34 rfl (w.heap.size + 1 + 1 + 1) 4 i0 (.bool false) 1 1 Try.underlying34 HI.out HZ0.out HZ1'.out HZ2.out rfl (by decide) (.slice E j r) j (bits (bitsOf (x / 2) j)) (by simp [Act.eval]) HO1.out ⟨wr.heap.size, 0, none⟩ 1 1 [.bool b] (by simp [Act.eval]) rfl (cell_one_new _ _ _) (by simp [Value.oneCell']) (by decide) HMX.out HBY.out HZ1.out (wr.heap.size + 1) (by simp) ?_
        intro g3 c3 w3 hown3 hg3 hat3 hlt3
        have hg2' : Whole w3 (w.heap.size + 1 + 1) 39 #[.slice E j r, .bool tb] := (hg3.block _ (HG2.out.drew.alloc _).lt (fun e => absurd (HO1.out.lt _ e.symm).1 (by omega))).trans (HG2.out.drew.alloc _)
        obtain ⟨d3, d4, f3, f4⟩ := hg2'.two
        have hl3 := hg2'.lt
        refine hK.out _ _ trivial (fun hHeld => ?_)
        clear hK K
        try simp only [Act.put, List.getElem_toArray, List.getElem_cons_succ, List.getElem_cons_zero, List.setIfInBounds_toArray, List.set_cons_succ, List.set_cons_zero]
        refine wpAnyH_take (i := 10) (v := ?_) rfl (by kernel_rfl) (by kernel_rfl) (by kernel_rfl) (fun _ _ _ h => h) (Or.inl ⟨rfl, ?_⟩) hHeld ?_
        rotate_left
        · intro w' hS; skip; go_simp <;> with_reducible rfl
        simp only [Act.put, List.getElem_toArray, List.getElem_cons_succ, List.getElem_cons_zero, List.setIfInBounds_toArray, List.set_cons_succ, List.set_cons_zero]
        refine wpAnyH_ready (rs := [11]) (by kernel_rfl) (by simp) (AllReadyH.cons rfl (fun K hK => ?_) AllReadyH.nil)
        go_simp
        refine hK.out _ _ trivial (fun hHeld => ?_)
        clear hK K
        try simp only [Act.put, List.getElem_toArray, List.getElem_cons_succ, List.getElem_cons_zero, List.setIfInBounds_toArray, List.set_cons_succ, List.set_cons_zero]
        refine wpAnyH_done (by kernel_rfl) ?_ _
        clear hHeld
        have keep : ∀ {q : Nat} {ty : TypeId} {cs : Array Value}, Whole wr q ty cs → q < w.heap.size + 1 + 1 + 1 → Whole w3 q ty cs := fun h hq => (hg3.block _ (h.drew.alloc _).lt (fun e => absurd (HO1.out.lt _ e.symm).1 (by omega))).trans (h.drew.alloc _)
        have K0 := Lib.hid ((keep HG0.out (by omega)).off (b := w.heap.size + 1 + 1) (o := 0) (u := .slice (some ⟨g3, 0, none⟩) (j + 1) c3) (by omega))
        have K1 := Lib.hid ((keep HG1.out (by omega)).off (b := w.heap.size + 1 + 1) (o := 0) (u := .slice (some ⟨g3, 0, none⟩) (j + 1) c3) (by omega))
        have K2 := Lib.hid (hg2'.set_ 0 (.slice (some ⟨g3, 0, none⟩) (j + 1) c3))
        have KB := Lib.hid (below_set (b := w.heap.size + 1 + 1) (o := 0) (u := .slice (some ⟨g3, 0, none⟩) (j + 1) c3) (HB1.out.grown hg3 (by have := HB1.out.size; omega) (fun kk e => by have := (HO1.out.lt _ e).1; omega)) (by omega))
        have KO := Lib.hid (ownsRow_setCell_below (a := ⟨w.heap.size + 1 + 1, 0, none⟩) hown3 (by show w.heap.size + 1 + 1 < _; omega) (.slice (some ⟨g3, 0, none⟩) (j + 1) c3))
        clear keep hg2' d3 d4 f3 f4 hl3 hown3 hg3 hat3 hlt3
        go_wp2
        go_roundw
        case rel => exact ⟨j + 1, some ⟨g3, 0, none⟩, c3, by omega, by go_num, K0.out, K1.out, K2.out, by rw [HNX.out, show bits (bitsOf (x / 2) j ++ [b]) = bits (bitsOf (x / 2) j) ++ [.bool b] by simp [bits]]; exact KO.out, KB.out⟩
        case measure => simp [intOf]; omega
    · obtain rfl : j = 2 * k := by omega
      have hd : decide (((2 * k : Nat) : Int) < 2 * (k : Int)) = false := by simp
      obtain ⟨d0, d1, -, -⟩ := g2.two
      obtain ⟨e0, e1, f0, f1⟩ := g1.two
      have hl1 := g1.lt
      have HO := Lib.hid (ownsRow_setCell_below (a := ⟨w.heap.size + 1, 1, none⟩) (ownsRow_setCell_below (a := ⟨w.heap.size + 1, 0, none⟩) hown (by show w.heap.size + 1 < _; omega) (.slice E (2 * k) r)) (by show w.heap.size + 1 < _; omega) (.bool tb))
      have HB := Lib.hid (below_set (b := w.heap.size + 1) (o := 1) (u := .bool tb) (below_set (b := w.heap.size + 1) (o := 0) (u := .slice E (2 * k) r) hb (by omega)) (by omega))
      clear g0 g1 g2 hown hb
      go_wp2
      refine bodyPost_ret (v := .agg #[.slice E (2 * k) r, .bool tb]) (by simp [results, Try.results75, go_sem, e0, e1]) rfl ⟨E, r, rfl, ?_, HB.out⟩
      obtain ⟨A', c', hv, hf⟩ := Fresh.of_own HO.out (Nat.le_refl _)
      obtain ⟨rfl, -⟩ : E = A' ∧ r = c' := by simpa using hv
      exact hf.holds
end Go.Proofs.Yteeolclnoblkcaa

namespace Go.Proofs.Yteeolclnoblkcaa
open Go.RowKit

/-- The state with a number is one, and calm. -/
def isIn (k x : Nat) : Bool := quiet k (bitAt (x / 2)) && isState (2 * k) (bitsOf (x / 2) (2 * k)) (bitAt x 0)
/-- How many numbers below x tell such a state. -/
def calmTo (k : Nat) : Nat → Nat
  | 0 => 0
  | x + 1 => calmTo k x + (if isIn k x then 1 else 0)
theorem calmTo_le (k : Nat) : ∀ x, calmTo k x ≤ x
  | 0 => Nat.le_refl _
  | x + 1 => by have := calmTo_le k x; rw [calmTo]; split <;> omega
theorem calmTo_no {k x : Nat} (h : isIn k x = false) : (calmTo k (x + 1) : Int) = calmTo k x := by rw [calmTo, h]; simp
theorem calmTo_yes {k x : Nat} (h : isIn k x = true) : (calmTo k (x + 1) : Int) = calmTo k x + 1 := by rw [calmTo, h]; simp
theorem isIn_no {k x : Nat} (h : quiet k (bitAt (x / 2)) = false) : isIn k x = false := by simp [isIn, h]
theorem isIn_on {k x : Nat} (h : quiet k (bitAt (x / 2)) = true) {b : Bool} (h2 : isState (2 * k) (bitsOf (x / 2) (2 * k)) (bitAt x 0) = b) : isIn k x = b := by rw [isIn, h, h2]; simp
/-- What CountCalm hands back. -/
def calmN (a b : Int) : Int := if isCo a b then (calmTo a.toNat (2 * 2 ^ (2 * a.toNat)) : Nat) else 0
theorem calmN_no {a b : Int} (h : isCo a b = false) : calmN a b = 0 := by simp [calmN, h]
theorem calmN_yes {k : Nat} {b : Int} (h : isCo k b = true) : calmN k b = (calmTo k (2 * 2 ^ (2 * k)) : Nat) := by simp [calmN, h]

set_option maxHeartbeats 12800000 in
set_option maxRecDepth 100000 in
theorem specCountCalm_any (a s : Int) (w : World) :
    Calls Try.prog 41 #[.agg #[.int .i64 a, .int .i64 s]] w fun e w' => e = .returned (.tuple #[.int .i64 (calmN a s), .bool (isCo a s)]) ∧ Below w.heap.size w w' := by
  have hc := Whole.fresh w 25 #[.int .i64 a, .int .i64 s]
  cases h1 : isCo a s
  · have HN := Lib.hid (calmN_no h1)
    have H1 := Lib.hid h1
    clear h1
    go_enter Try.func41, Try.ntmps41
    go_wp2_with fail
    refine (cuGood_any a s _).mono ?_
    rintro e w1 ⟨rfl, hb⟩
    have ht := below_then (below1 w _) hb (by simp)
    rw [H1.out]
    go_wp2
    go_ret2
    exact ⟨by rw [HN.out]; rfl, ht⟩
  · have hb4 := isCo_iff.1 h1
    obtain ⟨k, rfl⟩ := Int.eq_ofNat_of_zero_le (show 0 ≤ a by omega)
    have hk : k ≤ 4 := by omega
    have HCO : Hid (isCo k s = true) := h1
    have HCN := Lib.hid (calmN_yes h1)
    obtain ⟨N, hN⟩ : ∃ N : Nat, N = 2 ^ (2 * k) := ⟨_, rfl⟩
    have hp := pow_c hk
    rw [← hN] at hp
    have HNN := Lib.hid hN
    clear h1 hN hb4
    go_enter Try.func41, Try.ntmps41
    go_wp2_with fail
    refine (cuGood_any k s _).mono ?_
    rintro e w1 ⟨rfl, hb⟩
    have ht := below_then (below1 w _) hb (by simp)
    rw [HCO.out]
    have hc1 := hc.below hb
    clear hb hc
    go_wp2
    go_loopw [4, 5] (fun n i wr => ∃ x : Nat, x ≤ 2 * N ∧ i = .int .i64 x ∧ n = .int .i64 (calmTo k x) ∧ Whole wr w.heap.size 25 #[.int .i64 k, .int .i64 s] ∧ Below w.heap.size w wr) (fun _ i _ => 2 * N - (intOf i).toNat)
    case atStart => exact ⟨0, Nat.zero_le _, rfl, rfl, hc1, ht⟩
    case round =>
      clear hc1 ht
      obtain ⟨x, hx, rfl, rfl, hc1, ht⟩ := hrel
      obtain ⟨c0, c1, -, -⟩ := hc1.two
      have hcl := calmTo_le k x
      go_wp2_with fail
      refine (cuSize_any k s _ hk).mono ?_
      rintro e w2 ⟨rfl, hb⟩
      rw [← HNN.out]
      replace ht := below_then ht hb ht.size
      replace hc1 := hc1.below hb
      clear hb c0 c1
      obtain ⟨c0, c1, -, -⟩ := hc1.two
      by_cases hlt : x < 2 * N
      · have hd : decide ((x : Int) < 2 * (N : Int)) = true := by simp; omega
        have HXL := Lib.hid (show x / 2 < 2 ^ (2 * k) by rw [← HNN.out]; omega)
        have HBL := Lib.hid (bitsOf_len (x / 2) (2 * k))
        cases hq : quiet k (bitAt (x / 2))
        · have HQ := Lib.hid hq
          have HN := Lib.hid (calmTo_no (isIn_no hq))
          clear hq
          go_wp2_with fail
          refine wp_region_held_drew (S := (Box1 w.heap.size (.int .i64 k) (.int .i64 s))) (by kernel_rfl) (box1_of hc1.drew) (fun hHeld => ?_)
          replace ht := ht.drew
          replace hc1 := hc1.drew
          refine wpAnyH_take (i := 0) (v := ?_) rfl (by kernel_rfl) (by kernel_rfl) (by kernel_rfl) (fun _ _ _ h => h) (Or.inl ⟨rfl, ?_⟩) hHeld ?_
          rotate_left
          · intro w' hS; obtain ⟨s0, s1⟩ := hS; go_simp <;> with_reducible rfl
          simp only [Act.put, List.getElem_toArray, List.getElem_cons_succ, List.getElem_cons_zero, List.setIfInBounds_toArray, List.set_cons_succ, List.set_cons_zero]
          refine wpAnyH_take (i := 1) (v := ?_) rfl (by kernel_rfl) (by kernel_rfl) (by kernel_rfl) (fun _ _ _ h => h) (Or.inl ⟨rfl, ?_⟩) hHeld ?_
          rotate_left
          · intro w' hS; obtain ⟨s0, s1⟩ := hS; go_simp <;> with_reducible rfl
          simp only [Act.put, List.getElem_toArray, List.getElem_cons_succ, List.getElem_cons_zero, List.setIfInBounds_toArray, List.set_cons_succ, List.set_cons_zero]
          refine wpAnyH_ready (rs := [2]) (by kernel_rfl) (by simp) (AllReadyH.cons rfl (fun K hK => ?_) AllReadyH.nil)
          go_simp
          refine (cuQuiet_any k x s _ hk HXL.out).mono ?_
          rintro e w2 ⟨rfl, hb⟩
          rw [HQ.out]
          have ht2 := below_then ht hb ht.size
          have hc2 := hc1.below hb
          clear hb
          refine hK.out _ _ (box1_of hc2) (fun hHeld => ?_)
          clear hK K
          try simp only [Act.put, List.getElem_toArray, List.getElem_cons_succ, List.getElem_cons_zero, List.setIfInBounds_toArray, List.set_cons_succ, List.set_cons_zero]
          refine wpAnyH_take (i := 3) (v := ?_) rfl (by kernel_rfl) (by kernel_rfl) (by kernel_rfl) (fun _ _ _ h => h) (Or.inl ⟨rfl, ?_⟩) hHeld ?_
          rotate_left
          · intro w' hS; obtain ⟨s0, s1⟩ := hS; go_simp <;> with_reducible rfl
          simp only [Act.put, List.getElem_toArray, List.getElem_cons_succ, List.getElem_cons_zero, List.setIfInBounds_toArray, List.set_cons_succ, List.set_cons_zero]
          refine wpAnyH_take (i := 4) (v := undef) rfl (by kernel_rfl) (by kernel_rfl) (by kernel_rfl) (fun _ _ _ h => h) (Or.inr ⟨by simp [Region.wanted, yielded], rfl⟩) hHeld ?_
          simp only [Act.put, List.getElem_toArray, List.getElem_cons_succ, List.getElem_cons_zero, List.setIfInBounds_toArray, List.set_cons_succ, List.set_cons_zero]
          refine wpAnyH_take (i := 5) (v := undef) rfl (by kernel_rfl) (by kernel_rfl) (by kernel_rfl) (fun _ _ _ h => h) (Or.inr ⟨by simp [Region.wanted, yielded], rfl⟩) hHeld ?_
          simp only [Act.put, List.getElem_toArray, List.getElem_cons_succ, List.getElem_cons_zero, List.setIfInBounds_toArray, List.set_cons_succ, List.set_cons_zero]
          refine wpAnyH_take (i := 6) (v := undef) rfl (by kernel_rfl) (by kernel_rfl) (by kernel_rfl) (fun _ _ _ h => h) (Or.inr ⟨by simp [Region.wanted, yielded], rfl⟩) hHeld ?_
          simp only [Act.put, List.getElem_toArray, List.getElem_cons_succ, List.getElem_cons_zero, List.setIfInBounds_toArray, List.set_cons_succ, List.set_cons_zero]
          refine wpAnyH_take (i := 7) (v := undef) rfl (by kernel_rfl) (by kernel_rfl) (by kernel_rfl) (fun _ _ _ h => h) (Or.inr ⟨by simp [Region.wanted, yielded], rfl⟩) hHeld ?_
          simp only [Act.put, List.getElem_toArray, List.getElem_cons_succ, List.getElem_cons_zero, List.setIfInBounds_toArray, List.set_cons_succ, List.set_cons_zero]
          refine wpAnyH_take (i := 8) (v := undef) rfl (by kernel_rfl) (by kernel_rfl) (by kernel_rfl) (fun _ _ _ h => h) (Or.inr ⟨by simp [Region.wanted, yielded], rfl⟩) hHeld ?_
          simp only [Act.put, List.getElem_toArray, List.getElem_cons_succ, List.getElem_cons_zero, List.setIfInBounds_toArray, List.set_cons_succ, List.set_cons_zero]
          refine wpAnyH_take (i := 9) (v := ?_) rfl (by kernel_rfl) (by kernel_rfl) (by kernel_rfl) (fun _ _ _ h => h) (Or.inl ⟨rfl, ?_⟩) hHeld ?_
          rotate_left
          · intro w' hS; obtain ⟨s0, s1⟩ := hS; go_simp <;> with_reducible rfl
          simp only [Act.put, List.getElem_toArray, List.getElem_cons_succ, List.getElem_cons_zero, List.setIfInBounds_toArray, List.set_cons_succ, List.set_cons_zero]
          refine wpAnyH_done (by kernel_rfl) ?_ _
          clear hHeld
          go_wp2
          go_roundw
          case rel => exact ⟨x + 1, by omega, by go_num, by rw [HN.out], hc2, ht2⟩
          case measure => simp [intOf]; omega
        · have HQ := Lib.hid hq
          cases hp2 : isState (2 * k) (bitsOf (x / 2) (2 * k)) (bitAt x 0)
          · have HPL := Lib.hid ((place_on HCO.out).trans hp2)
            have HN := Lib.hid (calmTo_no (isIn_on hq hp2))
            clear hq hp2
            go_wp2_with fail
            refine wp_region_held_drew (S := (Box1 w.heap.size (.int .i64 k) (.int .i64 s))) (by kernel_rfl) (box1_of hc1.drew) (fun hHeld => ?_)
            replace ht := ht.drew
            replace hc1 := hc1.drew
            refine wpAnyH_take (i := 0) (v := ?_) rfl (by kernel_rfl) (by kernel_rfl) (by kernel_rfl) (fun _ _ _ h => h) (Or.inl ⟨rfl, ?_⟩) hHeld ?_
            rotate_left
            · intro w' hS; obtain ⟨s0, s1⟩ := hS; go_simp <;> with_reducible rfl
            simp only [Act.put, List.getElem_toArray, List.getElem_cons_succ, List.getElem_cons_zero, List.setIfInBounds_toArray, List.set_cons_succ, List.set_cons_zero]
            refine wpAnyH_take (i := 1) (v := ?_) rfl (by kernel_rfl) (by kernel_rfl) (by kernel_rfl) (fun _ _ _ h => h) (Or.inl ⟨rfl, ?_⟩) hHeld ?_
            rotate_left
            · intro w' hS; obtain ⟨s0, s1⟩ := hS; go_simp <;> with_reducible rfl
            simp only [Act.put, List.getElem_toArray, List.getElem_cons_succ, List.getElem_cons_zero, List.setIfInBounds_toArray, List.set_cons_succ, List.set_cons_zero]
            refine wpAnyH_ready (rs := [2]) (by kernel_rfl) (by simp) (AllReadyH.cons rfl (fun K hK => ?_) AllReadyH.nil)
            go_simp
            refine (cuQuiet_any k x s _ hk HXL.out).mono ?_
            rintro e w2 ⟨rfl, hb⟩
            rw [HQ.out]
            have ht2 := below_then ht hb ht.size
            have hc2 := hc1.below hb
            clear hb
            refine hK.out _ _ (box1_of hc2) (fun hHeld => ?_)
            clear hK K
            try simp only [Act.put, List.getElem_toArray, List.getElem_cons_succ, List.getElem_cons_zero, List.setIfInBounds_toArray, List.set_cons_succ, List.set_cons_zero]
            refine wpAnyH_take (i := 3) (v := ?_) rfl (by kernel_rfl) (by kernel_rfl) (by kernel_rfl) (fun _ _ _ h => h) (Or.inl ⟨rfl, ?_⟩) hHeld ?_
            rotate_left
            · intro w' hS; obtain ⟨s0, s1⟩ := hS; go_simp <;> with_reducible rfl
            simp only [Act.put, List.getElem_toArray, List.getElem_cons_succ, List.getElem_cons_zero, List.setIfInBounds_toArray, List.set_cons_succ, List.set_cons_zero]
            refine wpAnyH_take (i := 4) (v := ?_) rfl (by kernel_rfl) (by kernel_rfl) (by kernel_rfl) (fun _ _ _ h => h) (Or.inl ⟨rfl, ?_⟩) hHeld ?_
            rotate_left
            · intro w' hS; obtain ⟨s0, s1⟩ := hS; go_simp <;> with_reducible rfl
            simp only [Act.put, List.getElem_toArray, List.getElem_cons_succ, List.getElem_cons_zero, List.setIfInBounds_toArray, List.set_cons_succ, List.set_cons_zero]
            refine wpAnyH_take (i := 5) (v := ?_) rfl (by kernel_rfl) (by kernel_rfl) (by kernel_rfl) (fun _ _ _ h => h) (Or.inl ⟨rfl, ?_⟩) hHeld ?_
            rotate_left
            · intro w' hS; obtain ⟨s0, s1⟩ := hS; go_simp <;> with_reducible rfl
            simp only [Act.put, List.getElem_toArray, List.getElem_cons_succ, List.getElem_cons_zero, List.setIfInBounds_toArray, List.set_cons_succ, List.set_cons_zero]
            refine wpAnyH_take (i := 6) (v := ?_) rfl (by kernel_rfl) (by kernel_rfl) (by kernel_rfl) (fun _ _ _ h => h) (Or.inl ⟨rfl, ?_⟩) hHeld ?_
            rotate_left
            · intro w' hS; obtain ⟨s0, s1⟩ := hS; go_simp <;> with_reducible rfl
            simp only [Act.put, List.getElem_toArray, List.getElem_cons_succ, List.getElem_cons_zero, List.setIfInBounds_toArray, List.set_cons_succ, List.set_cons_zero]
            refine wpAnyH_ready (rs := [7]) (by kernel_rfl) (by simp) (AllReadyH.cons rfl (fun K hK => ?_) AllReadyH.nil)
            go_simp
            refine (cuState_any k x s _ hk (by omega)).mono ?_
            rintro e w3 ⟨E, r, rfl, hE, hb⟩
            have ht3 := below_then ht2 hb ht2.size
            have hc3 := hc2.below hb
            clear hb
            refine hK.out _ _ (box1_of hc3) (fun hHeld => ?_)
            clear hK K
            try simp only [Act.put, List.getElem_toArray, List.getElem_cons_succ, List.getElem_cons_zero, List.setIfInBounds_toArray, List.set_cons_succ, List.set_cons_zero]
            refine wpAnyH_ready (rs := [8]) (by kernel_rfl) (by simp) (AllReadyH.cons rfl (fun K hK => ?_) AllReadyH.nil)
            go_simp
            refine (cuIs_any k s E (2 * k) r (bitsOf (x / 2) (2 * k)) (bitAt x 0) _ (by exact hE) HBL.out (by omega)).mono ?_
            rintro e w4 ⟨rfl, hb⟩
            rw [HPL.out]
            have ht4 := below_then ht3 hb ht3.size
            have hc4 := hc3.below hb
            clear hb
            refine hK.out _ _ (box1_of hc4) (fun hHeld => ?_)
            clear hK K
            try simp only [Act.put, List.getElem_toArray, List.getElem_cons_succ, List.getElem_cons_zero, List.setIfInBounds_toArray, List.set_cons_succ, List.set_cons_zero]
            refine wpAnyH_take (i := 9) (v := ?_) rfl (by kernel_rfl) (by kernel_rfl) (by kernel_rfl) (fun _ _ _ h => h) (Or.inl ⟨rfl, ?_⟩) hHeld ?_
            rotate_left
            · intro w' hS; obtain ⟨s0, s1⟩ := hS; go_simp <;> with_reducible rfl
            simp only [Act.put, List.getElem_toArray, List.getElem_cons_succ, List.getElem_cons_zero, List.setIfInBounds_toArray, List.set_cons_succ, List.set_cons_zero]
            refine wpAnyH_done (by kernel_rfl) ?_ _
            clear hHeld
            go_wp2
            go_roundw
            case rel => exact ⟨x + 1, by omega, by go_num, by rw [HN.out], hc4, ht4⟩
            case measure => simp [intOf]; omega
          · have HPL := Lib.hid ((place_on HCO.out).trans hp2)
            have HN := Lib.hid (calmTo_yes (isIn_on hq hp2))
            clear hq hp2
            go_wp2_with fail
            refine wp_region_held_drew (S := (Box1 w.heap.size (.int .i64 k) (.int .i64 s))) (by kernel_rfl) (box1_of hc1.drew) (fun hHeld => ?_)
            replace ht := ht.drew
            replace hc1 := hc1.drew
            refine wpAnyH_take (i := 0) (v := ?_) rfl (by kernel_rfl) (by kernel_rfl) (by kernel_rfl) (fun _ _ _ h => h) (Or.inl ⟨rfl, ?_⟩) hHeld ?_
            rotate_left
            · intro w' hS; obtain ⟨s0, s1⟩ := hS; go_simp <;> with_reducible rfl
            simp only [Act.put, List.getElem_toArray, List.getElem_cons_succ, List.getElem_cons_zero, List.setIfInBounds_toArray, List.set_cons_succ, List.set_cons_zero]
            refine wpAnyH_take (i := 1) (v := ?_) rfl (by kernel_rfl) (by kernel_rfl) (by kernel_rfl) (fun _ _ _ h => h) (Or.inl ⟨rfl, ?_⟩) hHeld ?_
            rotate_left
            · intro w' hS; obtain ⟨s0, s1⟩ := hS; go_simp <;> with_reducible rfl
            simp only [Act.put, List.getElem_toArray, List.getElem_cons_succ, List.getElem_cons_zero, List.setIfInBounds_toArray, List.set_cons_succ, List.set_cons_zero]
            refine wpAnyH_ready (rs := [2]) (by kernel_rfl) (by simp) (AllReadyH.cons rfl (fun K hK => ?_) AllReadyH.nil)
            go_simp
            refine (cuQuiet_any k x s _ hk HXL.out).mono ?_
            rintro e w2 ⟨rfl, hb⟩
            rw [HQ.out]
            have ht2 := below_then ht hb ht.size
            have hc2 := hc1.below hb
            clear hb
            refine hK.out _ _ (box1_of hc2) (fun hHeld => ?_)
            clear hK K
            try simp only [Act.put, List.getElem_toArray, List.getElem_cons_succ, List.getElem_cons_zero, List.setIfInBounds_toArray, List.set_cons_succ, List.set_cons_zero]
            refine wpAnyH_take (i := 3) (v := ?_) rfl (by kernel_rfl) (by kernel_rfl) (by kernel_rfl) (fun _ _ _ h => h) (Or.inl ⟨rfl, ?_⟩) hHeld ?_
            rotate_left
            · intro w' hS; obtain ⟨s0, s1⟩ := hS; go_simp <;> with_reducible rfl
            simp only [Act.put, List.getElem_toArray, List.getElem_cons_succ, List.getElem_cons_zero, List.setIfInBounds_toArray, List.set_cons_succ, List.set_cons_zero]
            refine wpAnyH_take (i := 4) (v := ?_) rfl (by kernel_rfl) (by kernel_rfl) (by kernel_rfl) (fun _ _ _ h => h) (Or.inl ⟨rfl, ?_⟩) hHeld ?_
            rotate_left
            · intro w' hS; obtain ⟨s0, s1⟩ := hS; go_simp <;> with_reducible rfl
            simp only [Act.put, List.getElem_toArray, List.getElem_cons_succ, List.getElem_cons_zero, List.setIfInBounds_toArray, List.set_cons_succ, List.set_cons_zero]
            refine wpAnyH_take (i := 5) (v := ?_) rfl (by kernel_rfl) (by kernel_rfl) (by kernel_rfl) (fun _ _ _ h => h) (Or.inl ⟨rfl, ?_⟩) hHeld ?_
            rotate_left
            · intro w' hS; obtain ⟨s0, s1⟩ := hS; go_simp <;> with_reducible rfl
            simp only [Act.put, List.getElem_toArray, List.getElem_cons_succ, List.getElem_cons_zero, List.setIfInBounds_toArray, List.set_cons_succ, List.set_cons_zero]
            refine wpAnyH_take (i := 6) (v := ?_) rfl (by kernel_rfl) (by kernel_rfl) (by kernel_rfl) (fun _ _ _ h => h) (Or.inl ⟨rfl, ?_⟩) hHeld ?_
            rotate_left
            · intro w' hS; obtain ⟨s0, s1⟩ := hS; go_simp <;> with_reducible rfl
            simp only [Act.put, List.getElem_toArray, List.getElem_cons_succ, List.getElem_cons_zero, List.setIfInBounds_toArray, List.set_cons_succ, List.set_cons_zero]
            refine wpAnyH_ready (rs := [7]) (by kernel_rfl) (by simp) (AllReadyH.cons rfl (fun K hK => ?_) AllReadyH.nil)
            go_simp
            refine (cuState_any k x s _ hk (by omega)).mono ?_
            rintro e w3 ⟨E, r, rfl, hE, hb⟩
            have ht3 := below_then ht2 hb ht2.size
            have hc3 := hc2.below hb
            clear hb
            refine hK.out _ _ (box1_of hc3) (fun hHeld => ?_)
            clear hK K
            try simp only [Act.put, List.getElem_toArray, List.getElem_cons_succ, List.getElem_cons_zero, List.setIfInBounds_toArray, List.set_cons_succ, List.set_cons_zero]
            refine wpAnyH_ready (rs := [8]) (by kernel_rfl) (by simp) (AllReadyH.cons rfl (fun K hK => ?_) AllReadyH.nil)
            go_simp
            refine (cuIs_any k s E (2 * k) r (bitsOf (x / 2) (2 * k)) (bitAt x 0) _ (by exact hE) HBL.out (by omega)).mono ?_
            rintro e w4 ⟨rfl, hb⟩
            rw [HPL.out]
            have ht4 := below_then ht3 hb ht3.size
            have hc4 := hc3.below hb
            clear hb
            refine hK.out _ _ (box1_of hc4) (fun hHeld => ?_)
            clear hK K
            try simp only [Act.put, List.getElem_toArray, List.getElem_cons_succ, List.getElem_cons_zero, List.setIfInBounds_toArray, List.set_cons_succ, List.set_cons_zero]
            refine wpAnyH_take (i := 9) (v := ?_) rfl (by kernel_rfl) (by kernel_rfl) (by kernel_rfl) (fun _ _ _ h => h) (Or.inl ⟨rfl, ?_⟩) hHeld ?_
            rotate_left
            · intro w' hS; obtain ⟨s0, s1⟩ := hS; go_simp <;> with_reducible rfl
            simp only [Act.put, List.getElem_toArray, List.getElem_cons_succ, List.getElem_cons_zero, List.setIfInBounds_toArray, List.set_cons_succ, List.set_cons_zero]
            refine wpAnyH_done (by kernel_rfl) ?_ _
            clear hHeld
            go_wp2
            go_roundw
            case rel => exact ⟨x + 1, by omega, by go_num, by rw [HN.out], hc4, ht4⟩
            case measure => simp [intOf]; omega
      · obtain rfl : x = 2 * N := by omega
        have hd : decide (((2 * N : Nat) : Int) < 2 * (N : Int)) = false := by simp
        rw [← HNN.out] at HCN
        go_wp2
        go_ret2
        exact ⟨by rw [HCN.out]; rfl, ht⟩
end Go.Proofs.Yteeolclnoblkcaa

namespace Go.Proofs.Yteeolclnoblkcaa
open Go.RowKit

/-- Behind such a statement: the struct lies in block g, its list in blocks from lo on and before hi. -/
def ResMid (ty ety : TypeId) (mk : Option Addr → Nat → Array Value) (xs : List Value) (ok : Bool) (W : World) (v u : Value) (wx : World) : Prop :=
  ∃ (g : Nat) (A : Option Addr) (q lo hi : Nat), v = .pointer (some ⟨g, 0, none⟩) ∧ u = .bool ok ∧ W.heap.size ≤ g ∧ g < wx.heap.size ∧ W.heap.size ≤ lo ∧ (g < lo ∨ hi ≤ g) ∧ hi ≤ wx.heap.size ∧ Whole wx g ty (mk A q) ∧ Fresh wx lo hi ety A xs ∧ Below W.heap.size W wx
theorem ResMid.last {ty ety : TypeId} {mk : Option Addr → Nat → Array Value} {xs : List Value} {ok : Bool} {W w : World} {A : Option Addr} {q lo : Nat} (hc : Below W.heap.size W w) (hl : W.heap.size ≤ lo) (hF : Fresh w lo w.heap.size ety A xs) :
    ResMid ty ety mk xs ok W (.pointer (some ⟨w.heap.size, 0, none⟩)) (.bool ok) (w.alloc (.cells (mk A q) ty)) :=
  ⟨_, A, q, lo, w.heap.size, rfl, rfl, hc.size, by simp, hl, .inr (Nat.le_refl _), by simp, Whole.fresh _ _ _, hF.alloc _, hc.alloc hc.size _⟩
theorem ResMid.first {ty ety : TypeId} {mk : Option Addr → Nat → Array Value} {xs : List Value} {ok : Bool} {W w : World} {A : Option Addr} {q lo g : Nat} {a b c d : Value} (hc : Below W.heap.size W w) (hl : W.heap.size ≤ lo) (hF : Fresh w lo w.heap.size ety A xs) (hg : W.heap.size ≤ g) (hgl : g < lo) (hw : Whole w g ty #[a, b]) (hm : mk A q = #[c, d]) :
    ResMid ty ety mk xs ok W (.pointer (some ⟨g, 0, none⟩)) (.bool ok) ((w.setCell ⟨g, 0, none⟩ c).setCell ⟨g, 1, none⟩ d) := by
  have h := hw.lt
  refine ⟨g, A, q, lo, w.heap.size, rfl, rfl, hg, by simpa [World.setCell] using h, hl, .inl hgl, by simp [World.setCell], ?_, (hF.set_out (.inl hgl)).set_out (.inl hgl), below_set (below_set hc hg) hg⟩
  rw [hm]
  exact (hw.set_ 0 c).set_ 1 d
end Go.Proofs.Yteeolclnoblkcaa

namespace Go.Proofs.Yteeolclnoblkcaa
open Go.RowKit

/-- What a call hands back that makes a list to which more can be appended. -/
def OwnPost (xs : List Int) (w : World) (e : Ending) (w' : World) : Prop :=
  ∃ (A : Option Addr) (c : Nat), e = .returned (.slice A xs.length c) ∧ w'.ownsRow w.heap.size 3 1 (.slice A xs.length c) xs.length (nums xs) ∧ Below w.heap.size w w'
theorem ints_one (xs : List Int) : ∀ u ∈ nums xs, u.oneCell' = true := by
  intro v hv
  simp only [nums, List.mem_map] at hv
  obtain ⟨x, -, rfl⟩ := hv
  rfl
theorem own_some {w : World} {base : Nat} {e : TypeId} {A : Option Addr} {n c : Nat} {xs : List Value} (h : w.ownsRow base e 1 (.slice A n c) n xs) : (A = none ∧ n = 0 ∧ c = 0) ∨ ∃ g, A = some ⟨g, 0, none⟩ ∧ n ≤ c := by
  obtain ⟨-, ⟨hv, hn⟩ | ⟨g, cap, cur, hv, -, -, h1, -⟩⟩ := h
  · obtain ⟨rfl, -, rfl⟩ : A = none ∧ n = 0 ∧ c = 0 := by simpa using hv
    exact .inl ⟨rfl, hn, rfl⟩
  · obtain ⟨rfl, -, rfl⟩ : A = some ⟨g, 0, none⟩ ∧ n = n ∧ c = cap := by simpa using hv
    exact .inr ⟨g, rfl, h1⟩

theorem own_shape {w : World} {base : Nat} {e : TypeId} {v : Value} {n : Nat} {xs : List Value} (h : w.ownsRow base e 1 v n xs) : ∃ (A : Option Addr) (c : Nat), v = .slice A n c := by
  obtain ⟨-, ⟨rfl, rfl⟩ | ⟨g, cap, cur, hv, -⟩⟩ := h
  · exact ⟨none, 0, rfl⟩
  · exact ⟨_, _, hv⟩

set_option maxHeartbeats 800000 in
set_option maxRecDepth 100000 in
theorem l1Own_any (A : Option Addr) (n c : Nat) (xs : List Int) (w : World) (hA : Holds w A (nums xs)) (hx : xs.length = n) (hn : n ≤ 1048576) (hc : A = none → c = 0) :
    Calls Try.prog 102 #[.slice A n c] w (OwnPost xs w) := by
  subst hx
  obtain ⟨i0, hi, hz0, hz1, hz2⟩ := info_parts info_int
  have HI := Lib.hid hi
  have HZ0 := Lib.hid hz0
  have HZ1 := Lib.hid hz1
  have HZ2 := Lib.hid hz2
  have HOWN := Lib.hid (World.ownsRow_made (base := w.heap.size) (e := 3) (size := 1) w #[] 0 (Nat.le_refl _) (by unfold maxLen; omega) rfl)
  have HB := Lib.hid (below1 w (.cells #[] 3))
  clear hi hz0 hz1 hz2
  cases A with
  | none =>
    have h0 : xs = [] := by
      rcases hA with h | ⟨b, o, h, -⟩
      · simpa [nums] using h
      · cases h
    subst h0
    obtain rfl := hc rfl
    go_enter Try.func102, Try.ntmps102
    go_wp2_with (at_builtin; refine wpList_append_own_none rfl (.tmp 3) (.tmp 4) 28 rfl w.heap.size 3 i0 1 Try.underlying28 HI.out _ 0 [] rfl HOWN.out rfl ?_)
    go_ret
    exact ⟨_, 0, rfl, HOWN.out, HB.out⟩
  | some ad =>
    have hnews : ∀ j u, (nums xs)[j]? = some u → (w.alloc (.cells #[] 3)).cell? (ad.add j) = some u := fun j u hu => by
      rcases hA with h | ⟨b, o, h, hb, hcell⟩
      · rw [h] at hu; simp at hu
      · obtain rfl : ad = ⟨b, o, none⟩ := by simpa using h
        rw [show (⟨b, o, none⟩ : Addr).add j = ⟨b, o + j, none⟩ from by unfold Addr.add; split <;> simp_all, World.cell?_alloc_lt _ _ _ hb]
        exact hcell j u hu
    have HNEWS := Lib.hid hnews
    have HLEN := Lib.hid (show (nums xs).length = xs.length * 1 by rw [nums_len, Nat.mul_one])
    have HONE := Lib.hid (ints_one xs)
    have HMAX := Lib.hid (show 0 + xs.length ≤ maxLen by unfold maxLen; omega)
    have HBYT := Lib.hid (show (0 + xs.length) * 8 ≤ 140737488355328 by omega)
    clear hnews hc
    go_enter Try.func102, Try.ntmps102
    go_wp2_with (at_builtin; refine wpList_append_own _ rfl (.tmp 3) (.tmp 4) 28 rfl w.heap.size 3 i0 (.int .i64 0) 1 8 Try.underlying28 HI.out HZ0.out HZ1.out HZ2.out rfl (by decide) _ 0 [] rfl HOWN.out ad xs.length c (nums xs) rfl HLEN.out HNEWS.out HONE.out HMAX.out HBYT.out (by simp) ?_; intro v' w1 hown1 hg1 _)
    go_ret
    simp only [Nat.zero_add, List.nil_append] at hown1
    have hbe := HB.out.grown hg1 (by simp) (fun k hk => Nat.le_of_eq (Option.some.inj (show some w.heap.size = some k from hk)))
    obtain ⟨A1, c1, rfl⟩ := own_shape hown1
    exact ⟨A1, c1, rfl, hown1, hbe⟩
end Go.Proofs.Yteeolclnoblkcaa
