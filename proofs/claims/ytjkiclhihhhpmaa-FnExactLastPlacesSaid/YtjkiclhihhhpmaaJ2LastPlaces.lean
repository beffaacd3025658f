/-
  What is proved: contracts of the first and the last places of isles, as the model and the program make them. Conditions: none but those that each names.
  What is proved: plain facts on a struct of the call's own that is handed back by a call in a statement whose order is open. Conditions: none.
  What is proved: contracts of the laws' own helpers for places: their size, their copy, their comparison, their marks. Conditions: the given lists are read as they lie; a copy is of at most 1,048,576 values.
  What is proved: the law FnExactLastPlaces returns true at every argument, and leaves all that was there as it was. Conditions: the arguments are read as they lie.
-/
import Derived.Deep.RegionHeld3
import Derived.Test.YtjkiclhihhhpmaaJ1LastPlaces
namespace Go.Proofs.Ytjkiclhihhhpmaa
open Go.RowKit

/-- What a call hands back that makes places. -/
def PlacesRes (xs : List Int) (s : Int) (w : World) (e : Ending) (w' : World) : Prop :=
  ∃ (A : Option Addr) (c : Nat), e = .returned (.agg #[.slice A xs.length c, .int .i64 s]) ∧ Fresh w' w.heap.size w'.heap.size 3 A (nums xs) ∧ Below w.heap.size w w'
/-- Where a person is: 0 where there is none. -/
def gd (xs : List Int) (i : Nat) : Int := xs.getD i 0
/-- Whereabouts: where six people are, and the boat. -/
def whOf (xs : List Int) (s : Int) : Array Value := #[.int .i64 (gd xs 0), .int .i64 (gd xs 1), .int .i64 (gd xs 2), .int .i64 (gd xs 3), .int .i64 (gd xs 4), .int .i64 (gd xs 5), .int .i64 s]
theorem wh_at (xs : List Int) (s : Int) {i : Nat} (h : i < 6) : (whOf xs s)[i]? = some (.int .i64 (gd xs i)) := by
  match i, h with
  | 0, _ => rfl
  | 1, _ => rfl
  | 2, _ => rfl
  | 3, _ => rfl
  | 4, _ => rfl
  | 5, _ => rfl
def repl (n : Nat) (p : Int) : List Int := List.replicate n p
theorem repl_len (n : Nat) (p : Int) : (repl n p).length = n := by simp [repl]
theorem repl_next (n : Nat) (p : Int) : nums (repl n p) ++ [.int .i64 p] = nums (repl (n + 1) p) := by simp [nums, repl, List.replicate_succ']
theorem repl_zero (n : Nat) (i : Nat) : (repl n 0).getD i 0 = 0 := by
  simp only [repl, List.getD_eq_getElem?_getD, List.getElem?_replicate]
  split <;> rfl
theorem wh_repl_zero (n : Nat) : whOf (repl n 0) 0 = whOf [] 0 := by
  simp only [whOf, gd, repl_zero]
  rfl
theorem wh_next (p : Int) (n : Nat) (h : n < 6) : (whOf (repl n p) p).setIfInBounds n (.int .i64 p) = whOf (repl (n + 1) p) p := by
  match n, h with
  | 0, _ => rfl
  | 1, _ => rfl
  | 2, _ => rfl
  | 3, _ => rfl
  | 4, _ => rfl
  | 5, _ => rfl
theorem size_wh : (Try.prog.info? 109).map (·.size) = some 7 := by kernel_rfl
theorem wh_one (xs : List Int) (s : Int) : (whOf xs s).all (·.oneCell') = true := by simp [whOf, Value.oneCell']
def cellLen (w : World) (g : Nat) : Nat := match w.cell? ⟨g, 0, none⟩ with | some (.slice _ n _) => n | _ => 0
theorem cellLen_of {w : World} {g n c : Nat} {t : TypeId} {D : Option Addr} {v : Value} (h : Whole w g t #[.slice D n c, v]) : cellLen w g = n := by
  have h0 : w.cell? ⟨g, 0, none⟩ = some (.slice D n c) := h.cell 0
  simp [cellLen, h0]

set_option maxHeartbeats 1600000 in
set_option maxRecDepth 100000 in
theorem isAll_any (k : Nat) (b d p : Int) (w : World) (hk : k ≤ 3) :
    Calls Try.prog 84 #[.agg #[.int .i64 k, .int .i64 b, .int .i64 d], .int .i64 p] w (PlacesRes (repl (2 * k) p) p w) := by
  obtain ⟨i0, hi, hz0, hz1, hz2⟩ := info_parts info_int
  have HI := Lib.hid hi
  have HZ0 := Lib.hid hz0
  have HZ1 := Lib.hid hz1
  have HZ2 := Lib.hid hz2
  clear hi hz0 hz1 hz2
  have h0 := ((Whole.fresh w 59 #[.int .i64 k, .int .i64 b, .int .i64 d]).alloc (.cells #[.slice none 0 0, .int .i64 0] 66)).alloc (.cells #[.slice none 0 0, .int .i64 p] 66)
  have h1 := (Whole.fresh (w.alloc (.cells #[.int .i64 k, .int .i64 b, .int .i64 d] 59)) 66 #[.slice none 0 0, .int .i64 0]).alloc (.cells #[.slice none 0 0, .int .i64 p] 66)
  have h2 := Whole.fresh ((w.alloc (.cells #[.int .i64 k, .int .i64 b, .int .i64 d] 59)).alloc (.cells #[.slice none 0 0, .int .i64 0] 66)) 66 #[.slice none 0 0, .int .i64 p]
  have hb0 := below3 w (.cells #[.int .i64 k, .int .i64 b, .int .i64 d] 59) (.cells #[.slice none 0 0, .int .i64 0] 66) (.cells #[.slice none 0 0, .int .i64 p] 66)
  simp only [World.size_alloc] at h0 h1 h2
  go_enter Try.func84, Try.ntmps84
  go_wp2
  go_loopw [8] (fun _ wr => ∃ (j : Nat) (D : Option Addr) (q : Nat), j ≤ 2 * k ∧ wr.ownsRow (w.heap.size + 1 + 1 + 1) 3 1 (.slice D j q) j (nums (repl j p)) ∧ Whole wr w.heap.size 59 #[.int .i64 k, .int .i64 b, .int .i64 d] ∧ Whole wr (w.heap.size + 1) 66 #[.slice none 0 0, .int .i64 0] ∧ Whole wr (w.heap.size + 1 + 1) 66 #[.slice D j q, .int .i64 p] ∧ Below w.heap.size w wr) (fun _ wr => 2 * k - cellLen wr (w.heap.size + 1 + 1))
  case atStart => exact ⟨0, none, 0, Nat.zero_le _, World.ownsRow_nil _ _ _ _, h0, h1, h2, hb0⟩
  case round =>
    clear h0 h1 h2 hb0
    obtain ⟨j, D, q, hj, hown, h0, h1, h2, hb⟩ := hrel
    obtain ⟨c0, c1, c2⟩ := h0.cells3
    obtain ⟨a0, a1, e0, e1⟩ := h2.two
    have hl2 := h2.lt
    have HCL := Lib.hid (cellLen_of h2)
    by_cases hlt : j < 2 * k
    · have hd : decide ((j : Int) < 2 * (k : Int)) = true := by simp; omega
      have hOW := Lib.hid (hown.alloc (.cells #[.int .i64 p] 3))
      have h0' := Lib.hid (h0.alloc (.cells #[.int .i64 p] 3))
      have h1' := Lib.hid (h1.alloc (.cells #[.int .i64 p] 3))
      have h2' := Lib.hid (h2.alloc (.cells #[.int .i64 p] 3))
      have hb' := Lib.hid (hb.alloc hb.size (.cells #[.int .i64 p] 3))
      have hbase : w.heap.size + 1 + 1 + 1 ≤ (wr.alloc (.cells #[.int .i64 p] 3)).heap.size := by simp; omega
      have HBASE := Lib.hid hbase
      have HMAX := Lib.hid (show j + 1 ≤ maxLen by unfold maxLen; omega)
      have HBYT := Lib.hid (show (j + 1) * 8 ≤ 140737488355328 by omega)
      clear hown h0 h1 h2 hb hbase
      go_wp2_with (at_builtin; refine wpList_append_own _ rfl (.tmp 16) (.tmp 18) 25 rfl (w.heap.size + 1 + 1 + 1) 3 i0 (.int .i64 0) 1 8 Try.underlying25 HI.out HZ0.out HZ1.out HZ2.out rfl (by decide) (.slice D j q) j (nums (repl j p)) rfl hOW.out ⟨wr.heap.size, 0, none⟩ 1 1 [.int .i64 p] rfl rfl (cell_one_new _ _ _) (by simp [Value.oneCell']) HMAX.out HBYT.out HBASE.out ?_; intro v' w1 hown1 hg1 _; obtain ⟨D', q', hv', -⟩ := Fresh.of_own hown1 (Nat.le_refl _); rw [hv'] at hown1 ⊢; clear hv'; have g2 : Whole w1 (w.heap.size + 1 + 1) 66 #[.slice D j q, .int .i64 p] := (hg1.block _ h2'.out.lt (fun e => by have := (hOW.out.lt _ e.symm).1; omega)).trans h2'.out; have g1 : Whole w1 (w.heap.size + 1) 66 #[.slice none 0 0, .int .i64 0] := (hg1.block _ h1'.out.lt (fun e => by have := (hOW.out.lt _ e.symm).1; omega)).trans h1'.out; have g0 : Whole w1 w.heap.size 59 #[.int .i64 k, .int .i64 b, .int .i64 d] := (hg1.block _ h0'.out.lt (fun e => by have := (hOW.out.lt _ e.symm).1; omega)).trans h0'.out; obtain ⟨b0, b1, f0, f1⟩ := g2.two)
      have hbw : Below w.heap.size w w1 := hb'.out.grown hg1 (by have := hb'.out.size; omega) (fun kk e => by have := (hOW.out.lt _ e).1; omega)
      rw [repl_next] at hown1
      have hown2 := ownsRow_setCell_below hown1 (a := ⟨w.heap.size + 1 + 1, 0, none⟩) (by show w.heap.size + 1 + 1 < _; omega) (.slice D' (j + 1) q')
      have hset := g2.set_ 0 (.slice D' (j + 1) q')
      have HC2 := Lib.hid (cellLen_of hset)
      go_roundw
      case rel => exact ⟨j + 1, D', q', by omega, hown2, g0.off (by omega), g1.off (by omega), hset, below_set hbw (by omega)⟩
      case measure => rw [HC2.out, HCL.out]; omega
    · obtain rfl : j = 2 * k := by omega
      have hd : decide (((2 * k : Nat) : Int) < 2 * (k : Int)) = false := by simp
      obtain ⟨r0, r1, f0, f1⟩ := h1.two
      obtain ⟨D', q', hv', hf⟩ := Fresh.of_own hown (Nat.le_refl _)
      simp only [Value.slice.injEq, true_and] at hv'
      obtain ⟨rfl, rfl⟩ := hv'
      have HF := Lib.hid (((hf.set_out (b := w.heap.size + 1) (o := 0) (u := .slice D (2 * k) q) (.inl (by omega))).set_out (b := w.heap.size + 1) (o := 1) (u := .int .i64 p) (.inl (by omega))).more (lo' := w.heap.size) (hi' := wr.heap.size) (by omega) (Nat.le_refl _))
      clear hf hown
      go_wp2
      refine bodyPost_ret (v := .agg #[.slice D (2 * k) q, .int .i64 p]) (by simp [results, Try.results84, go_sem, r0, r1]) rfl ⟨D, q, by rw [repl_len], ?_, ?_⟩
      · have h := HF.out
        simpa [World.setCell] using h
      · exact below_set (below_set hb (by omega)) (by omega)

/-- First and last places: none where there are no isles. -/
def firstAt (a b d : Int) : List Int := if isIsl a b d then repl (2 * a.toNat) 0 else []
def lastAt (a b d : Int) : List Int := if isIsl a b d then repl (2 * a.toNat) (d + 1) else []
def lastBoat (a b d : Int) : Int := if isIsl a b d then d + 1 else 0
theorem firstAt_le (a b d : Int) : (firstAt a b d).length ≤ 1048576 := by
  rw [firstAt]; split
  · rename_i h; have := isIsl_iff.1 h; rw [repl_len]; omega
  · simp
theorem lastAt_le (a b d : Int) : (lastAt a b d).length ≤ 1048576 := by
  rw [lastAt]; split
  · rename_i h; have := isIsl_iff.1 h; rw [repl_len]; omega
  · simp
set_option maxHeartbeats 1600000 in
set_option maxRecDepth 100000 in
theorem specFirstPlaces_any (a b d : Int) (w : World) :
    Calls Try.prog 47 #[.agg #[.int .i64 a, .int .i64 b, .int .i64 d]] w (PartyPost (firstAt a b d) 0 (isIsl a b d) w) := by
  unfold firstAt
  cases hp : isIsl a b d
  · have h0 := (Whole.fresh w 59 #[.int .i64 a, .int .i64 b, .int .i64 d]).alloc (.cells #[.slice none 0 0, .int .i64 0] 66)
    have h1 := Whole.fresh (w.alloc (.cells #[.int .i64 a, .int .i64 b, .int .i64 d] 59)) 66 #[.slice none 0 0, .int .i64 0]
    rw [World.size_alloc] at h1
    have HP := Lib.hid hp
    clear hp
    go_enter Try.func47, Try.ntmps47
    go_wp2_with fail
    refine (isGood_any a b d _).mono ?_
    rintro e w1 ⟨rfl, hb⟩
    rw [HP.out]
    have ht := below_then (below2 w _ _) hb (by simp; omega)
    have hr := h1.below hb
    have hlr := hr.lt
    obtain ⟨r0, r1, f0, f1⟩ := hr.two
    clear h0 h1 hb
    go_wp2
    refine bodyPost_ret (v := .tuple #[.agg #[.slice none 0 0, .int .i64 0], .bool false]) (by simp [results, Try.results47, go_sem, r0, r1]) rfl ⟨none, 0, rfl, .inl rfl, ?_⟩
    exact below_set (below_set ht (by omega)) (by omega)
  · have hiff := isIsl_iff.1 hp
    obtain ⟨k, rfl⟩ := Int.eq_ofNat_of_zero_le (show 0 ≤ a by omega)
    have hk : k ≤ 3 := by omega
    simp only [if_true, Int.toNat_natCast]
    have h0 := (Whole.fresh w 59 #[.int .i64 k, .int .i64 b, .int .i64 d]).alloc (.cells #[.slice none 0 0, .int .i64 0] 66)
    have h1 := Whole.fresh (w.alloc (.cells #[.int .i64 k, .int .i64 b, .int .i64 d] 59)) 66 #[.slice none 0 0, .int .i64 0]
    rw [World.size_alloc] at h1
    have HP := Lib.hid hp
    clear hp
    go_enter Try.func47, Try.ntmps47
    go_wp2_with fail
    refine (isGood_any k b d _).mono ?_
    rintro e w1 ⟨rfl, hb⟩
    rw [HP.out]
    have ht := below_then (below2 w _ _) hb (by simp; omega)
    obtain ⟨c0, c1, c2⟩ := (h0.below hb).cells3
    have hr := h1.below hb
    clear h0 h1 hb
    go_wp2_with fail
    refine (isAll_any k b d 0 _ hk).mono ?_
    rintro e w2 ⟨A2, q2, rfl, hf, hb⟩
    have hlo : w.heap.size + 1 < w1.heap.size := hr.lt
    replace ht := below_then ht hb ht.size
    replace hr := hr.below hb
    obtain ⟨r0, r1, f0, f1⟩ := hr.two
    have HF := Lib.hid (((hf.set_out (b := w.heap.size + 1) (o := 0) (u := .slice A2 (repl (2 * k) 0).length q2) (.inl (by omega))).set_out (b := w.heap.size + 1) (o := 1) (u := .int .i64 0) (.inl (by omega))).more (lo' := w.heap.size) (hi' := w2.heap.size) (by omega) (Nat.le_refl _))
    clear hf
    go_wp2
    refine bodyPost_ret (v := .tuple #[.agg #[.slice A2 (repl (2 * k) 0).length q2, .int .i64 0], .bool true]) (by simp [results, Try.results47, go_sem, r0, r1]) rfl ⟨A2, q2, rfl, ?_, ?_⟩
    · have h := HF.out
      simpa [World.setCell] using h
    · exact below_set (below_set ht (by omega)) (by omega)

set_option maxHeartbeats 1600000 in
set_option maxRecDepth 100000 in
theorem specLastPlaces_any (a b d : Int) (w : World) :
    Calls Try.prog 51 #[.agg #[.int .i64 a, .int .i64 b, .int .i64 d]] w (PartyPost (lastAt a b d) (lastBoat a b d) (isIsl a b d) w) := by
  unfold lastAt lastBoat
  cases hp : isIsl a b d
  · have h0 := (Whole.fresh w 59 #[.int .i64 a, .int .i64 b, .int .i64 d]).alloc (.cells #[.slice none 0 0, .int .i64 0] 66)
    have h1 := Whole.fresh (w.alloc (.cells #[.int .i64 a, .int .i64 b, .int .i64 d] 59)) 66 #[.slice none 0 0, .int .i64 0]
    rw [World.size_alloc] at h1
    have HP := Lib.hid hp
    clear hp
    go_enter Try.func51, Try.ntmps51
    go_wp2_with fail
    refine (isGood_any a b d _).mono ?_
    rintro e w1 ⟨rfl, hb⟩
    rw [HP.out]
    have ht := below_then (below2 w _ _) hb (by simp; omega)
    have hr := h1.below hb
    have hlr := hr.lt
    obtain ⟨r0, r1, f0, f1⟩ := hr.two
    clear h0 h1 hb
    go_wp2
    refine bodyPost_ret (v := .tuple #[.agg #[.slice none 0 0, .int .i64 0], .bool false]) (by simp [results, Try.results51, go_sem, r0, r1]) rfl ⟨none, 0, rfl, .inl rfl, ?_⟩
    exact below_set (below_set ht (by omega)) (by omega)
  · have hiff := isIsl_iff.1 hp
    obtain ⟨k, rfl⟩ := Int.eq_ofNat_of_zero_le (show 0 ≤ a by omega)
    have hk : k ≤ 3 := by omega
    simp only [if_true, Int.toNat_natCast]
    have h0 := (Whole.fresh w 59 #[.int .i64 k, .int .i64 b, .int .i64 d]).alloc (.cells #[.slice none 0 0, .int .i64 0] 66)
    have h1 := Whole.fresh (w.alloc (.cells #[.int .i64 k, .int .i64 b, .int .i64 d] 59)) 66 #[.slice none 0 0, .int .i64 0]
    rw [World.size_alloc] at h1
    have HP := Lib.hid hp
    clear hp
    go_enter Try.func51, Try.ntmps51
    go_wp2_with fail
    refine (isGood_any k b d _).mono ?_
    rintro e w1 ⟨rfl, hb⟩
    rw [HP.out]
    have ht := below_then (below2 w _ _) hb (by simp; omega)
    obtain ⟨c0, c1, c2⟩ := (h0.below hb).cells3
    have hr := h1.below hb
    clear h0 h1 hb
    go_wp2_with fail
    refine (isAll_any k b d (d + 1) _ hk).mono ?_
    rintro e w2 ⟨A2, q2, rfl, hf, hb⟩
    have hlo : w.heap.size + 1 < w1.heap.size := hr.lt
    replace ht := below_then ht hb ht.size
    replace hr := hr.below hb
    obtain ⟨r0, r1, f0, f1⟩ := hr.two
    have HF := Lib.hid (((hf.set_out (b := w.heap.size + 1) (o := 0) (u := .slice A2 (repl (2 * k) (d + 1)).length q2) (.inl (by omega))).set_out (b := w.heap.size + 1) (o := 1) (u := .int .i64 (d + 1)) (.inl (by omega))).more (lo' := w.heap.size) (hi' := w2.heap.size) (by omega) (Nat.le_refl _))
    clear hf
    go_wp2
    refine bodyPost_ret (v := .tuple #[.agg #[.slice A2 (repl (2 * k) (d + 1)).length q2, .int .i64 (d + 1)], .bool true]) (by simp [results, Try.results51, go_sem, r0, r1]) rfl ⟨A2, q2, rfl, ?_, ?_⟩
    · have h := HF.out
      simpa [World.setCell] using h
    · exact below_set (below_set ht (by omega)) (by omega)

theorem elem_six (W : World) : (sizeOf (Try.prog.elem 107)).run Try.prog W = .ok 1 W := by kernel_rfl
theorem len_six : Try.prog.arrayLen 107 = 6 := by kernel_rfl
theorem arr_six : Try.prog.underlying 107 = some (.array (Try.prog.arrayLen 107) (Try.prog.elem 107)) := by kernel_rfl
theorem slice_six (W : World) (g n : Nat) (h : n ≤ 6) : (Instr.sliceAt 107 (.pointer (some ⟨g, 0, none⟩)) none (some (.int .i64 (n : Int))) none).run Try.prog W = .ok (.slice (some ⟨g, 0, none⟩) n 6) W := by
  rw [run_sliceAt_array_h W 107 _ arr_six .i64 (n : Int) (by omega) (by rw [len_six]; omega), elem_six]
  simp [slicedAt, len_six, Result.andThen, Addr.add]

set_option maxHeartbeats 800000 in
set_option maxRecDepth 100000 in
theorem places_any (xs : List Int) (s : Int) (n : Nat) (w : World) (hy : xs.length = n) (hn : n ≤ 6) :
    Calls Try.prog 85 #[.agg (whOf xs s), .int .i64 n] w (PlacesRes xs s w) := by
  subst hy
  have hp := (Whole.fresh w 109 (whOf xs s)).alloc (.cells #[.slice none 0 0, .int .i64 0] 66)
  have hr := Whole.fresh (w.alloc (.cells (whOf xs s) 109)) 66 #[.slice none 0 0, .int .i64 0]
  rw [World.size_alloc] at hr
  have hb2 := below2 w (.cells (whOf xs s) 109) (.cells #[.slice none 0 0, .int .i64 0] 66)
  have ht6 := (hp.cell 6).trans (show (whOf xs s)[6]? = some (.int .i64 s) from rfl)
  have hB : ∀ j u, (nums xs)[j]? = some u → ((w.alloc (.cells (whOf xs s) 109)).alloc (.cells #[.slice none 0 0, .int .i64 0] 66)).cell? ⟨w.heap.size, 0 + j, none⟩ = some u := fun j u hu => by
    have hj : j < xs.length := by have := (List.getElem?_eq_some_iff.1 hu).1; rwa [nums_len] at this
    rw [Nat.zero_add, hp.cell j, wh_at xs s (by omega), ← hu]
    simp [nums, hj, gd]
  have HB := Lib.hid hB
  clear hB
  have hsl := fun W : World => slice_six W w.heap.size xs.length hn
  go_enter Try.func85, Try.ntmps85
  go_wp2
  go_region_held3 (fun w' => w'.cell? ⟨w.heap.size, 6, none⟩ = some (.int .i64 s)) (go_keep)
    (first | (go_at_call 99; refine (cloneI_any w.heap.size 0 xs.length 6 xs _ (by exact HB.out) rfl (by omega)).mono ?_; rintro e w1 ⟨A, c, rfl, hf, hb⟩; have k6 := ((hp.drew.below hb).cell 6).trans (show (whOf xs s)[6]? = some (.int .i64 s) from rfl); obtain ⟨r0, r1, f0, f1⟩ := (hr.drew.below hb).two))
  have hlw : w.heap.size + 1 + 1 ≤ w1.heap.size := by have := hb.size; simpa using this
  have HF := Lib.hid ((hf.set_out (b := w.heap.size + 1) (o := 0) (u := .slice A xs.length c) (.inl (by simp))).set_out (b := w.heap.size + 1) (o := 1) (u := .int .i64 s) (.inl (by simp)))
  have HBW := Lib.hid (below_then hb2.drew hb (by simp; omega))
  clear hf hb
  go_wp2
  refine bodyPost_ret (v := .agg #[.slice A xs.length c, .int .i64 s]) (by simp [results, Try.results85, go_sem, r0, r1]) rfl ⟨A, c, rfl, ?_, ?_⟩
  · have h := HF.out.more (lo' := w.heap.size) (hi' := w1.heap.size) (by simp; omega) (Nat.le_refl _)
    simpa [World.setCell] using h
  · exact below_set (below_set HBW.out (by omega)) (by omega)

set_option maxHeartbeats 400000 in
theorem otherBank_any (k : Nat) (b d : Int) (w : World) (hk : k ≤ 3) (h0 : 0 ≤ d) (h2 : d ≤ 2) :
    Calls Try.prog 87 #[.agg #[.int .i64 k, .int .i64 b, .int .i64 d]] w fun e w' => e = .returned (.int .i64 (d + 1)) ∧ Below w.heap.size w w' := by
  go_enter Try.func87, Try.ntmps87
  go_wp2
  go_ret
  exact ⟨rfl, below1 w _⟩

theorem wh_cells {w : World} {g : Nat} {ty : TypeId} {xs : List Int} {s : Int} (h : Whole w g ty (whOf xs s)) :
    w.cell? ⟨g, 0, none⟩ = some (.int .i64 (gd xs 0)) ∧ w.cell? ⟨g, 1, none⟩ = some (.int .i64 (gd xs 1)) ∧ w.cell? ⟨g, 2, none⟩ = some (.int .i64 (gd xs 2)) ∧ w.cell? ⟨g, 3, none⟩ = some (.int .i64 (gd xs 3)) ∧
    w.cell? ⟨g, 4, none⟩ = some (.int .i64 (gd xs 4)) ∧ w.cell? ⟨g, 5, none⟩ = some (.int .i64 (gd xs 5)) ∧ w.cell? ⟨g, 6, none⟩ = some (.int .i64 s) :=
  ⟨h.cell 0, h.cell 1, h.cell 2, h.cell 3, h.cell 4, h.cell 5, h.cell 6⟩

set_option maxHeartbeats 1600000 in
theorem allAt_any (k : Nat) (b d p : Int) (w : World) (hk : k ≤ 3) :
    Calls Try.prog 86 #[.agg #[.int .i64 k, .int .i64 b, .int .i64 d], .int .i64 p] w fun e w' => e = .returned (.agg (whOf (repl (2 * k) p) p)) ∧ Below w.heap.size w w' := by
  have h0 := ((Whole.fresh w 59 #[.int .i64 k, .int .i64 b, .int .i64 d]).alloc (.cells (whOf [] 0) 109)).alloc (.cells (whOf (repl 0 p) p) 109)
  have h1 := (Whole.fresh (w.alloc (.cells #[.int .i64 k, .int .i64 b, .int .i64 d] 59)) 109 (whOf [] 0)).alloc (.cells (whOf (repl 0 p) p) 109)
  have h2 := Whole.fresh ((w.alloc (.cells #[.int .i64 k, .int .i64 b, .int .i64 d] 59)).alloc (.cells (whOf [] 0) 109)) 109 (whOf (repl 0 p) p)
  have hb0 := below3 w (.cells #[.int .i64 k, .int .i64 b, .int .i64 d] 59) (.cells (whOf [] 0) 109) (.cells (whOf (repl 0 p) p) 109)
  simp only [World.size_alloc] at h0 h1 h2
  obtain ⟨c0, c1, c2⟩ := h0.cells3
  go_enter Try.func86, Try.ntmps86
  go_wp2
  go_loopw [12] (fun i wr => ∃ j : Nat, j ≤ 2 * k ∧ i = .int .i64 j ∧ Whole wr (w.heap.size + 1) 109 (whOf [] 0) ∧ Whole wr (w.heap.size + 1 + 1) 109 (whOf (repl j p) p) ∧ Below w.heap.size w wr) (fun i _ => 2 * k - (intOf i).toNat)
  case atStart => exact ⟨0, Nat.zero_le _, rfl, h1, h2, hb0⟩
  case round =>
    clear h0 h1 h2 hb0 c0 c1 c2
    obtain ⟨j, hj, rfl, h1, h2, hb⟩ := hrel
    by_cases hlt : j < 2 * k
    · have hd : decide ((j : Int) < 2 * (k : Int)) = true := by simp; omega
      have hj6 : j < 6 := by omega
      have hji : (j : Int) < 6 := by omega
      have hcell := (h2.cell j).trans (wh_at (repl j p) p hj6)
      have hfr := h2.open_ j
      have hset := h2.set_ j (.int .i64 p)
      rw [wh_next p j hj6] at hset
      go_wp2
      go_roundw
      case rel => exact ⟨j + 1, by omega, by go_num, h1.off (by omega), hset, below_set hb (by omega)⟩
      case measure => simp [intOf]; omega
    · obtain rfl : j = 2 * k := by omega
      have hd : decide (((2 * k : Nat) : Int) < 2 * (k : Int)) = false := by simp
      go_wp2_with (first | (refine wpList_load_row rfl 109 (.tmp 5) rfl (w.heap.size + 1 + 1) rfl 109 (whOf (repl (2 * k) p) p) (0, 0) _ h2 Try.underlying109 rfl size_wh ?_) | (refine wpList_store_whole rfl 109 (.tmp 4) (.tmp 20) rfl (w.heap.size + 1) (whOf (repl (2 * k) p) p) rfl rfl 109 (whOf [] 0) h1 size_wh rfl (wh_one _ _) ?_; intro w2 hw2 ho2))
      have hb2 := ho2.below hb (by omega)
      obtain ⟨r0, r1, r2, r3, r4, r5, r6⟩ := wh_cells hw2
      refine bodyPost_ret (v := .agg (whOf (repl (2 * k) p) p)) (by simp [results, Try.results86, go_sem, r0, r1, r2, r3, r4, r5, r6, whOf]) rfl ⟨rfl, hb2⟩

set_option maxHeartbeats 1600000 in
set_option maxRecDepth 100000 in
theorem implFirstPlaces_any (a b d : Int) (w : World) :
    Calls Try.prog 48 #[.agg #[.int .i64 a, .int .i64 b, .int .i64 d]] w (PartyPost (firstAt a b d) 0 (isIsl a b d) w) := by
  unfold firstAt
  cases hp : isIsl a b d
  · have h0 := (Whole.fresh w 59 #[.int .i64 a, .int .i64 b, .int .i64 d]).alloc (.cells #[.slice none 0 0, .int .i64 0] 66)
    have h1 := Whole.fresh (w.alloc (.cells #[.int .i64 a, .int .i64 b, .int .i64 d] 59)) 66 #[.slice none 0 0, .int .i64 0]
    rw [World.size_alloc] at h1
    have HP := Lib.hid hp
    clear hp
    go_enter Try.func48, Try.ntmps48
    go_wp2_with fail
    refine (isIsles_any a b d _).mono ?_
    rintro e w1 ⟨rfl, hb⟩
    rw [HP.out]
    have ht := below_then (below2 w _ _) hb (by simp; omega)
    have hr := h1.below hb
    have hlr := hr.lt
    obtain ⟨r0, r1, f0, f1⟩ := hr.two
    clear h0 h1 hb
    go_wp2
    refine bodyPost_ret (v := .tuple #[.agg #[.slice none 0 0, .int .i64 0], .bool false]) (by simp [results, Try.results48, go_sem, r0, r1]) rfl ⟨none, 0, rfl, .inl rfl, ?_⟩
    exact below_set (below_set ht (by omega)) (by omega)
  · have hiff := isIsl_iff.1 hp
    obtain ⟨k, rfl⟩ := Int.eq_ofNat_of_zero_le (show 0 ≤ a by omega)
    have hk : k ≤ 3 := by omega
    simp only [if_true, Int.toNat_natCast]
    have h0 := (Whole.fresh w 59 #[.int .i64 k, .int .i64 b, .int .i64 d]).alloc (.cells #[.slice none 0 0, .int .i64 0] 66)
    have h1 := Whole.fresh (w.alloc (.cells #[.int .i64 k, .int .i64 b, .int .i64 d] 59)) 66 #[.slice none 0 0, .int .i64 0]
    rw [World.size_alloc] at h1
    have HP := Lib.hid hp
    clear hp
    go_enter Try.func48, Try.ntmps48
    go_wp2_with fail
    refine (isIsles_any k b d _).mono ?_
    rintro e w1 ⟨rfl, hb⟩
    rw [HP.out]
    have ht := below_then (below2 w _ _) hb (by simp; omega)
    obtain ⟨c0, c1, c2⟩ := (h0.below hb).cells3
    have hr := h1.below hb
    clear h0 h1 hb
    go_wp2_with fail
    have hpl := places_any (repl (2 * k) 0) 0 (2 * k) w1 (repl_len _ _) (by omega)
    rw [wh_repl_zero, show ((2 * k : Nat) : Int) = 2 * (k : Int) by omega] at hpl
    refine hpl.mono ?_
    clear hpl
    rintro e w2 ⟨A2, q2, rfl, hf, hb⟩
    have hlo : w.heap.size + 1 < w1.heap.size := hr.lt
    replace ht := below_then ht hb ht.size
    replace hr := hr.below hb
    obtain ⟨r0, r1, f0, f1⟩ := hr.two
    have HF := Lib.hid (((hf.set_out (b := w.heap.size + 1) (o := 0) (u := .slice A2 (repl (2 * k) 0).length q2) (.inl (by omega))).set_out (b := w.heap.size + 1) (o := 1) (u := .int .i64 0) (.inl (by omega))).more (lo' := w.heap.size) (hi' := w2.heap.size) (by omega) (Nat.le_refl _))
    clear hf
    go_wp2
    refine bodyPost_ret (v := .tuple #[.agg #[.slice A2 (repl (2 * k) 0).length q2, .int .i64 0], .bool true]) (by simp [results, Try.results48, go_sem, r0, r1]) rfl ⟨A2, q2, rfl, ?_, ?_⟩
    · have h := HF.out
      simpa [World.setCell] using h
    · exact below_set (below_set ht (by omega)) (by omega)

set_option maxHeartbeats 1600000 in
set_option maxRecDepth 100000 in
theorem implLastPlaces_any (a b d : Int) (w : World) :
    Calls Try.prog 52 #[.agg #[.int .i64 a, .int .i64 b, .int .i64 d]] w (PartyPost (lastAt a b d) (lastBoat a b d) (isIsl a b d) w) := by
  unfold lastAt lastBoat
  cases hp : isIsl a b d
  · have h0 := (Whole.fresh w 59 #[.int .i64 a, .int .i64 b, .int .i64 d]).alloc (.cells #[.slice none 0 0, .int .i64 0] 66)
    have h1 := Whole.fresh (w.alloc (.cells #[.int .i64 a, .int .i64 b, .int .i64 d] 59)) 66 #[.slice none 0 0, .int .i64 0]
    rw [World.size_alloc] at h1
    have HP := Lib.hid hp
    clear hp
    go_enter Try.func52, Try.ntmps52
    go_wp2_with fail
    refine (isIsles_any a b d _).mono ?_
    rintro e w1 ⟨rfl, hb⟩
    rw [HP.out]
    have ht := below_then (below2 w _ _) hb (by simp; omega)
    have hr := h1.below hb
    have hlr := hr.lt
    obtain ⟨r0, r1, f0, f1⟩ := hr.two
    clear h0 h1 hb
    go_wp2
    refine bodyPost_ret (v := .tuple #[.agg #[.slice none 0 0, .int .i64 0], .bool false]) (by simp [results, Try.results52, go_sem, r0, r1]) rfl ⟨none, 0, rfl, .inl rfl, ?_⟩
    exact below_set (below_set ht (by omega)) (by omega)
  · have hiff := isIsl_iff.1 hp
    obtain ⟨k, rfl⟩ := Int.eq_ofNat_of_zero_le (show 0 ≤ a by omega)
    have hk : k ≤ 3 := by omega
    simp only [if_true, Int.toNat_natCast]
    have h0 := (Whole.fresh w 59 #[.int .i64 k, .int .i64 b, .int .i64 d]).alloc (.cells #[.slice none 0 0, .int .i64 0] 66)
    have h1 := Whole.fresh (w.alloc (.cells #[.int .i64 k, .int .i64 b, .int .i64 d] 59)) 66 #[.slice none 0 0, .int .i64 0]
    rw [World.size_alloc] at h1
    have HP := Lib.hid hp
    clear hp
    go_enter Try.func52, Try.ntmps52
    go_wp2_with fail
    refine (isIsles_any k b d _).mono ?_
    rintro e w1 ⟨rfl, hb⟩
    rw [HP.out]
    have ht := below_then (below2 w _ _) hb (by simp; omega)
    have h0' := h0.below hb
    obtain ⟨c0, c1, c2⟩ := h0'.cells3
    have hr := h1.below hb
    clear h0 h1 hb
    have hpl := fun W : World => places_any (repl (2 * k) (d + 1)) (d + 1) (2 * k) W (repl_len _ _) (by omega)
    rw [show ((2 * k : Nat) : Int) = 2 * (k : Int) by omega] at hpl
    have HPL := Lib.hid hpl
    clear hpl
    have hwr : IntKind.i64.wrap (2 * (k : Int)) = 2 * (k : Int) := IntWalk.i64_in _ (by omega)
    go_wp2_with fail
    go_region_held3 (fun w' => w'.cell? ⟨w.heap.size, 0, none⟩ = some (.int .i64 k) ∧ w'.cell? ⟨w.heap.size, 1, none⟩ = some (.int .i64 b) ∧ w'.cell? ⟨w.heap.size, 2, none⟩ = some (.int .i64 d)) (go_keep)
      (first | (go_at_call 87; refine (otherBank_any k b d _ hk (by omega) (by omega)).mono ?_; rintro e w2 ⟨rfl, hb2⟩; obtain ⟨k0, k1, k2⟩ := (h0'.drew.below hb2).cells3) | (go_at_call 86; refine (allAt_any k b d (d + 1) _ hk).mono ?_; rintro e w3 ⟨rfl, hb3⟩; obtain ⟨l0, l1, l2⟩ := ((h0'.drew.below hb2).below hb3).cells3) | (go_at_call 85; refine (HPL.out _).mono ?_; rintro e w4 ⟨A2, q2, rfl, hf, hb4⟩; obtain ⟨m0, m1, m2⟩ := (((h0'.drew.below hb2).below hb3).below hb4).cells3; obtain ⟨r0, r1, f0, f1⟩ := (((hr.drew.below hb2).below hb3).below hb4).two))
    have hlo0 : w.heap.size + 1 < w1.heap.size := hr.lt
    have hlo2 : w1.heap.size ≤ w2.heap.size := hb2.size
    have hlo3 : w2.heap.size ≤ w3.heap.size := hb3.size
    have ht3 := below_then (below_then ht.drew hb2 ht.size) hb3 (Nat.le_trans ht.size hb2.size)
    replace ht := below_then ht3 hb4 ht3.size
    clear hb2 hb3 hb4 ht3
    have HF := Lib.hid (((hf.set_out (b := w.heap.size + 1) (o := 0) (u := .slice A2 (repl (2 * k) (d + 1)).length q2) (.inl (by omega))).set_out (b := w.heap.size + 1) (o := 1) (u := .int .i64 (d + 1)) (.inl (by omega))).more (lo' := w.heap.size) (hi' := w4.heap.size) (by omega) (Nat.le_refl _))
    clear hf
    go_wp2
    refine bodyPost_ret (v := .tuple #[.agg #[.slice A2 (repl (2 * k) (d + 1)).length q2, .int .i64 (d + 1)], .bool true]) (by simp [results, Try.results52, go_sem, r0, r1]) rfl ⟨A2, q2, rfl, ?_, ?_⟩
    · have h := HF.out
      simpa [World.setCell] using h
    · exact below_set (below_set ht (by omega)) (by omega)
end Go.Proofs.Ytjkiclhihhhpmaa

namespace Go.Proofs.Ytjkiclhihhhpmaa
open Go.RowKit

/-- Behind such a statement: the struct lies in block g, its list in blocks from lo on and before hi. -/
def ResMid (ty ety : TypeId) (mk : Option Addr → Nat → Array Value) (xs : List Value) (ok : Bool) (W : World) (v u : Value) (wx : World) : Prop :=
  ∃ (g : Nat) (A : Option Addr) (q lo hi : Nat), v = .pointer (some ⟨g, 0, none⟩) ∧ u = .bool ok ∧ W.heap.size ≤ g ∧ g < wx.heap.size ∧ W.heap.size ≤ lo ∧ (g < lo ∨ hi ≤ g) ∧ hi ≤ wx.heap.size ∧ Whole wx g ty (mk A q) ∧ Fresh wx lo hi ety A xs ∧ Below W.heap.size W wx
theorem ResMid.last {ty ety : TypeId} {mk : Option Addr → Nat → Array Value} {xs : List Value} {ok : Bool} {W w : World} {A : Option Addr} {q lo : Nat} (hc : Below W.heap.size W w) (hl : W.heap.size ≤ lo) (hF : Fresh w lo w.heap.size ety A xs) :
    ResMid ty ety mk xs ok W (.pointer (some ⟨w.heap.size, 0, none⟩)) (.bool ok) (w.alloc (.cells (mk A q) ty)) :=
  ⟨_, A, q, lo, w.heap.size, rfl, rfl, hc.size, by simp, hl, .inr (Nat.le_refl _), by simp, Whole.fresh _ _ _, hF.alloc _, hc.alloc hc.size _⟩
theorem ResMid.first {ty ety : TypeId} {mk : Option Addr → Nat → Array Value} {xs : List Value} {ok : Bool} {W w : World} {A : Option Addr} {q lo g : Nat} {a b c d : Value} (hc : Below W.heap.size W w) (hl : W.heap.size ≤ lo) (hF : Fresh w lo w.heap.size ety A xs) (hg : W.heap.size ≤ g) (hgl : g < lo) (hw : Whole w g ty #[a, b]) (hm : mk A q = #[c, d]) :
    ResMid ty ety mk xs ok W (.pointer (some ⟨g, 0, none⟩)) (.bool ok) ((w.setCell ⟨g, 0, none⟩ c).setCell ⟨g, 1, none⟩ d) := by
  have h := hw.lt
  refine ⟨g, A, q, lo, w.heap.size, rfl, rfl, hg, by simpa [World.setCell] using h, hl, .inl hgl, by simp [World.setCell], ?_, (hF.set_out (.inl hgl)).set_out (.inl hgl), below_set (below_set hc hg) hg⟩
  rw [hm]
  exact (hw.set_ 0 c).set_ 1 d
end Go.Proofs.Ytjkiclhihhhpmaa

namespace Go.Proofs.Ytjkiclhihhhpmaa
open Go.RowKit

set_option maxHeartbeats 400000 in
theorem szPlaces_any (A : Option Addr) (n c : Nat) (s l : Int) (w : World) (hn : n ≤ 9223372036854775807) (h0 : 0 ≤ l) (h1 : l ≤ 1048576) :
    Calls Try.prog 42 #[.agg #[.slice A n c, .int .i64 s], .int .i64 l] w fun e w' => e = .returned (.int .i64 (if l < n then -1 else l - n)) ∧ Below w.heap.size w w' := by
  by_cases h : l < n
  all_goals
    go_enter Try.func42, Try.ntmps42
    go_wp2_with fail
    refine (szIntS_any A n c l _ hn h0 h1).mono ?_
    rintro e w' ⟨rfl, rfl⟩
    first | rw [if_pos (by assumption)] | rw [if_neg (by omega)]
    go_wp2
    go_ret
    exact ⟨rfl, (Below.refl _ _).alloc (Nat.le_refl _) _⟩

set_option maxHeartbeats 400000 in
theorem toPlaces_any (A : Option Addr) (n c : Nat) (xs : List Int) (s : Int) (w : World) (hA : Holds w A (nums xs)) (hx : xs.length = n) (hn : n ≤ 1048576) :
    Calls Try.prog 44 #[.agg #[.slice A n c, .int .i64 s]] w fun e w' => e = .returned (.agg #[.slice (some ⟨w.heap.size + 1 + 1 + 1, 0, none⟩) n n, .int .i64 s]) ∧ Whole w' (w.heap.size + 1 + 1 + 1) 3 (nums xs).toArray ∧ Below w.heap.size w w' := by
  have HX := Lib.hid hx
  clear hx
  go_enter Try.func44, Try.ntmps44
  go_wp2_with fail
  refine (toIntS_any A n c xs _ (((hA.alloc _).alloc _).alloc _) HX.out hn).mono ?_
  rintro e w1 ⟨rfl, hw, hb, hs⟩
  obtain ⟨hc, hf⟩ := kept hb
  have HS := Lib.hid hs
  have hz : w.heap.size + 3 < w1.heap.size := by have := HS.out; simp at this; omega
  clear hs
  have hw' : Whole w1 (w.heap.size + 1 + 1 + 1) 3 (nums xs).toArray := by simpa using hw
  have hb' : Below w.heap.size w w1 := below_then (below3 w _ _ _) hb (by simp; omega)
  clear hw
  go_wp2
  refine bodyPost_ret (v := .agg #[.slice (some ⟨w.heap.size + 1 + 1 + 1, 0, none⟩) n n, .int .i64 s]) (by simp [results, Try.results44, go_sem, hc]) rfl ⟨rfl, ?_, ?_⟩
  · exact (((hw'.off (by omega)).off (by omega)).off (by omega)).off (by omega)
  · exact below_set (below_set (below_set (below_set hb' (by omega)) (by omega)) (by omega)) (by omega)

/-- The same, the new row's block told by a letter. -/
theorem toPlaces_own (A : Option Addr) (n c : Nat) (xs : List Int) (s : Int) (w : World) (hA : Holds w A (nums xs)) (hx : xs.length = n) (hn : n ≤ 1048576) :
    Calls Try.prog 44 #[.agg #[.slice A n c, .int .i64 s]] w fun e w' => ∃ g, e = .returned (.agg #[.slice (some ⟨g, 0, none⟩) n n, .int .i64 s]) ∧ w.heap.size ≤ g ∧ Whole w' g 3 (nums xs).toArray ∧ Below w.heap.size w w' :=
  (toPlaces_any A n c xs s w hA hx hn).mono fun _ _ ⟨he, hw, hb⟩ => ⟨_, he, by omega, hw, hb⟩

set_option maxHeartbeats 400000 in
theorem eqPlaces_any (A B : Option Addr) (n m c d : Nat) (xs ys : List Int) (s t : Int) (w : World) (hA : Holds w A (nums xs)) (hB : Holds w B (nums ys)) (hx : xs.length = n) (hy : ys.length = m)
    (hn : n ≤ 9223372036854775807) (hm : m ≤ 9223372036854775807) :
    Calls Try.prog 46 #[.agg #[.slice A n c, .int .i64 s], .agg #[.slice B m d, .int .i64 t]] w fun e w' => e = .returned (.bool (sameInts xs ys && s == t)) ∧ Below w.heap.size w w' := by
  have HX := Lib.hid hx
  have HY := Lib.hid hy
  clear hx hy
  rcases (inferInstance : Decidable (s = t)) with hst | hst
  all_goals
    have hst1 : (s != t) = !decide (s = t) := by simp [bne, hst]
    simp only [hst, decide_false, decide_true, Bool.not_false, Bool.not_true] at hst1
    cases he : sameInts xs ys
  all_goals
    have HE := Lib.hid he
    clear he
    go_enter Try.func46, Try.ntmps46
    go_wp2_with fail
    refine (eqIntS_any A B n m c d xs ys _ ((hA.alloc _).alloc _) ((hB.alloc _).alloc _) HX.out HY.out hn hm).mono ?_
    rintro e w1 ⟨rfl, k, rfl⟩
    rw [HE.out]
    go_wp2
    go_ret
    exact ⟨ret_of (by simp_all), below_draws (below2 w _ _) k⟩

/-- Two parties of one reading are the same. -/
theorem eqPlaces_yes (A B : Option Addr) (n c d : Nat) (xs : List Int) (s : Int) (w : World) (hA : Holds w A (nums xs)) (hB : Holds w B (nums xs)) (hx : xs.length = n) (hn : n ≤ 9223372036854775807) :
    Calls Try.prog 46 #[.agg #[.slice A n c, .int .i64 s], .agg #[.slice B n d, .int .i64 s]] w fun e w' => e = .returned (.bool true) ∧ Below w.heap.size w w' :=
  (eqPlaces_any A B n n c d xs xs s s w hA hB hx hx hn hn).mono fun _ _ ⟨he, hb⟩ => ⟨by rw [he, sameInts_yes rfl]; simp, hb⟩

set_option maxHeartbeats 400000 in
theorem markPlaces_any (A : Option Addr) (n c lo hi : Nat) (xs : List Value) (s q : Int) (w : World) (hf : Fresh w lo hi 3 A xs) (hx : xs.length = n) (h0 : 0 ≤ q) (h1 : q ≤ 4611686018427387904) (hn : n ≤ 1048576) :
    Calls Try.prog 49 #[.agg #[.slice A n c, .int .i64 s], .int .i64 q] w fun e w' => e = .returned (.int .i64 (q + n)) ∧ Span lo hi w w' ∧ Fresh w' lo hi 3 A (nums (marksI q n)) := by
  have HX := Lib.hid hx
  clear hx
  go_enter Try.func49, Try.ntmps49
  go_wp2_with fail
  refine (markIntS_any A n c lo hi xs q _ (hf.alloc _) HX.out h0 h1 hn).mono ?_
  rintro e w1 ⟨rfl, hs, hf1⟩
  go_wp2
  go_ret
  exact ⟨rfl, (Span.of_below (below1 w _) lo hi).trans hs, hf1⟩

set_option maxHeartbeats 400000 in
theorem heldPlaces_any (A : Option Addr) (n c : Nat) (s q : Int) (w : World) (hA : Holds w A (nums (marksI q n))) (h0 : 0 ≤ q) (h1 : q ≤ 4611686018427387904) (hn : n ≤ 1048576) :
    Calls Try.prog 50 #[.agg #[.slice A n c, .int .i64 s], .int .i64 q] w fun e w' => e = .returned (.int .i64 (q + n)) ∧ Below w.heap.size w w' := by
  have hq0 : (0 : Int) ≤ q + n := by omega
  go_enter Try.func50, Try.ntmps50
  go_wp2_with fail
  refine (heldIntS_any A n c q _ (hA.alloc _) h0 h1 hn).mono ?_
  rintro e w1 ⟨rfl, rfl⟩
  go_wp2
  go_ret
  exact ⟨rfl, below1 w _⟩
end Go.Proofs.Ytjkiclhihhhpmaa

namespace Go.Proofs.Ytjkiclhihhhpmaa
open Go.RowKit

set_option maxHeartbeats 12800000 in
set_option maxRecDepth 100000 in
set_option linter.unusedSimpArgs false in
set_option linter.unusedVariables false in
theorem lawLastPlaces_small (k0 : Int) (k1 : Int) (k2 : Int) (w : World)   :
    Calls Try.prog 11 #[.agg #[.int .i64 k0, .int .i64 k1, .int .i64 k2]] w fun e w' => e = .returned (.bool true) ∧ Below w.heap.size w w' := by
  have hb0 := (Whole.fresh w 57 #[.int .i64 k0, .int .i64 k1, .int .i64 k2])
  have ht := below1 w (.cells #[.int .i64 k0, .int .i64 k1, .int .i64 k2] 57)
  have hlen : ((lastAt k0 k1 k2)).length ≤ 1048576 := lastAt_le _ _ _
  obtain ⟨hb0_0, hb0_1, hb0_2⟩ := hb0.cells3
  have hb0_l := hb0.lt
  go_enter Try.func11, Try.ntmps11
  -- region 1
  go_wp2_with fail
  refine (toIsles_any k0 k1 k2 _).mono ?_
  rintro e v1 ⟨rfl, hb⟩
  have hz1 : w.heap.size + 1 ≤ v1.heap.size := by have := hb.size; simpa using this
  replace ht := below_then ht hb ht.size
  replace hb0 := hb0.below hb
  clear hb
  clear hb0_0 hb0_1 hb0_2 hb0_l
  obtain ⟨hb0_0, hb0_1, hb0_2⟩ := hb0.cells3
  have hb0_l := hb0.lt
  go_wp2_with fail
  refine (specLastPlaces_any k0 k1 k2 _).mono ?_
  rintro e v2 ⟨B0, q0, rfl, hF0, hb⟩
  have hz2 : v1.heap.size ≤ v2.heap.size := by have := hb.size; simpa using this
  replace ht := below_then ht hb ht.size
  replace hb0 := hb0.below hb
  replace hF0 := hF0.more (lo' := v1.heap.size) (hi' := v2.heap.size) (by simp) (Nat.le_refl _)
  have hR0 := Whole.fresh v2 66 #[.slice B0 ((lastAt k0 k1 k2)).length q0, .int .i64 (lastBoat k0 k1 k2)]
  replace ht := ht.alloc ht.size (.cells #[.slice B0 ((lastAt k0 k1 k2)).length q0, .int .i64 (lastBoat k0 k1 k2)] 66)
  replace hb0 := hb0.alloc (.cells #[.slice B0 ((lastAt k0 k1 k2)).length q0, .int .i64 (lastBoat k0 k1 k2)] 66)
  replace hF0 := hF0.alloc (.cells #[.slice B0 ((lastAt k0 k1 k2)).length q0, .int .i64 (lastBoat k0 k1 k2)] 66)
  clear hb
  clear hb0_0 hb0_1 hb0_2 hb0_l
  obtain ⟨hb0_0, hb0_1, hb0_2⟩ := hb0.cells3
  have hb0_l := hb0.lt
  obtain ⟨hR0_0, hR0_1⟩ := hR0.cells2
  have hR0_l := hR0.lt
  -- region 2
  go_wp2_with fail
  refine (toIsles_any k0 k1 k2 _).mono ?_
  rintro e v3 ⟨rfl, hb⟩
  have hz3 : v2.heap.size + 1 ≤ v3.heap.size := by have := hb.size; simpa using this
  replace ht := below_then ht hb ht.size
  replace hb0 := hb0.below hb
  replace hF0 := hF0.below hb
  replace hR0 := hR0.below hb
  clear hb
  clear hb0_0 hb0_1 hb0_2 hb0_l hR0_0 hR0_1 hR0_l
  obtain ⟨hb0_0, hb0_1, hb0_2⟩ := hb0.cells3
  have hb0_l := hb0.lt
  obtain ⟨hR0_0, hR0_1⟩ := hR0.cells2
  have hR0_l := hR0.lt
  go_wp2_with fail
  refine (implLastPlaces_any k0 k1 k2 _).mono ?_
  rintro e v4 ⟨B1, q1, rfl, hF1, hb⟩
  have hz4 : v3.heap.size ≤ v4.heap.size := by have := hb.size; simpa using this
  replace ht := below_then ht hb ht.size
  replace hb0 := hb0.below hb
  replace hF0 := hF0.below hb
  replace hR0 := hR0.below hb
  replace hF1 := hF1.more (lo' := v3.heap.size) (hi' := v4.heap.size) (by simp) (Nat.le_refl _)
  have hR1 := Whole.fresh v4 66 #[.slice B1 ((lastAt k0 k1 k2)).length q1, .int .i64 (lastBoat k0 k1 k2)]
  replace ht := ht.alloc ht.size (.cells #[.slice B1 ((lastAt k0 k1 k2)).length q1, .int .i64 (lastBoat k0 k1 k2)] 66)
  replace hb0 := hb0.alloc (.cells #[.slice B1 ((lastAt k0 k1 k2)).length q1, .int .i64 (lastBoat k0 k1 k2)] 66)
  replace hF0 := hF0.alloc (.cells #[.slice B1 ((lastAt k0 k1 k2)).length q1, .int .i64 (lastBoat k0 k1 k2)] 66)
  replace hR0 := hR0.alloc (.cells #[.slice B1 ((lastAt k0 k1 k2)).length q1, .int .i64 (lastBoat k0 k1 k2)] 66)
  replace hF1 := hF1.alloc (.cells #[.slice B1 ((lastAt k0 k1 k2)).length q1, .int .i64 (lastBoat k0 k1 k2)] 66)
  clear hb
  clear hb0_0 hb0_1 hb0_2 hb0_l hR0_0 hR0_1 hR0_l
  obtain ⟨hb0_0, hb0_1, hb0_2⟩ := hb0.cells3
  have hb0_l := hb0.lt
  obtain ⟨hR0_0, hR0_1⟩ := hR0.cells2
  have hR0_l := hR0.lt
  obtain ⟨hR1_0, hR1_1⟩ := hR1.cells2
  have hR1_l := hR1.lt
  -- region 3
  go_wp2_with fail
  refine (eqPlaces_yes B1 B0 ((lastAt k0 k1 k2)).length q1 q0 ((lastAt k0 k1 k2)) (lastBoat k0 k1 k2) _ (by exact hF1.holds) (by exact hF0.holds) rfl (by omega)).mono ?_
  rintro e v5 ⟨rfl, hb⟩
  have hz5 : v4.heap.size + 1 ≤ v5.heap.size := by have := hb.size; simpa using this
  replace ht := below_then ht hb ht.size
  replace hb0 := hb0.below hb
  replace hF0 := hF0.below hb
  replace hR0 := hR0.below hb
  replace hF1 := hF1.below hb
  replace hR1 := hR1.below hb
  clear hb
  clear hb0_0 hb0_1 hb0_2 hb0_l hR0_0 hR0_1 hR0_l hR1_0 hR1_1 hR1_l
  obtain ⟨hb0_0, hb0_1, hb0_2⟩ := hb0.cells3
  have hb0_l := hb0.lt
  obtain ⟨hR0_0, hR0_1⟩ := hR0.cells2
  have hR0_l := hR0.lt
  obtain ⟨hR1_0, hR1_1⟩ := hR1.cells2
  have hR1_l := hR1.lt
  -- region 6
  go_wp2_with fail
  refine (markPlaces_any B1 ((lastAt k0 k1 k2)).length q1 _ _ _ (lastBoat k0 k1 k2) 1 _ hF1 (by rw [nums_len]) (by omega) (by omega) hlen).mono ?_
  rintro e v6 ⟨rfl, hs, hM⟩
  have hsz := ht.size
  replace ht := hs.below ht (by omega) hsz
  replace hb0 := hs.whole hb0 (by omega)
  replace hF0 := hs.fresh hF0 (by omega)
  replace hR0 := hs.whole hR0 (by omega)
  replace hR1 := hs.whole hR1 (by omega)
  clear hs hF1 hsz
  clear hb0_0 hb0_1 hb0_2 hb0_l hR0_0 hR0_1 hR0_l hR1_0 hR1_1 hR1_l
  obtain ⟨hb0_0, hb0_1, hb0_2⟩ := hb0.cells3
  have hb0_l := hb0.lt
  obtain ⟨hR0_0, hR0_1⟩ := hR0.cells2
  have hR0_l := hR0.lt
  obtain ⟨hR1_0, hR1_1⟩ := hR1.cells2
  have hR1_l := hR1.lt
  -- region 8
  go_wp2_with fail
  refine (heldPlaces_any B1 ((lastAt k0 k1 k2)).length q1 (lastBoat k0 k1 k2) 1 _ (by exact hM.holds) (by omega) (by omega) hlen).mono ?_
  rintro e v7 ⟨rfl, hb⟩
  have hz7 : v6.heap.size ≤ v7.heap.size := by have := hb.size; simpa using this
  replace ht := below_then ht hb ht.size
  replace hb0 := hb0.below hb
  replace hF0 := hF0.below hb
  replace hR0 := hR0.below hb
  replace hR1 := hR1.below hb
  replace hM := hM.below hb
  clear hb
  have hm0 : (0 : Int) ≤ 1 + (((lastAt k0 k1 k2)).length : Int) := by omega
  clear hb0_0 hb0_1 hb0_2 hb0_l hR0_0 hR0_1 hR0_l hR1_0 hR1_1 hR1_l
  obtain ⟨hb0_0, hb0_1, hb0_2⟩ := hb0.cells3
  have hb0_l := hb0.lt
  obtain ⟨hR0_0, hR0_1⟩ := hR0.cells2
  have hR0_l := hR0.lt
  obtain ⟨hR1_0, hR1_1⟩ := hR1.cells2
  have hR1_l := hR1.lt
  -- region 13
  go_wp2_with fail
  refine (toIsles_any k0 k1 k2 _).mono ?_
  rintro e v8 ⟨rfl, hb⟩
  have hz8 : v7.heap.size ≤ v8.heap.size := by have := hb.size; simpa using this
  replace ht := below_then ht hb ht.size
  replace hb0 := hb0.below hb
  replace hF0 := hF0.below hb
  replace hR0 := hR0.below hb
  replace hR1 := hR1.below hb
  replace hM := hM.below hb
  clear hb
  clear hb0_0 hb0_1 hb0_2 hb0_l hR0_0 hR0_1 hR0_l hR1_0 hR1_1 hR1_l
  obtain ⟨hb0_0, hb0_1, hb0_2⟩ := hb0.cells3
  have hb0_l := hb0.lt
  obtain ⟨hR0_0, hR0_1⟩ := hR0.cells2
  have hR0_l := hR0.lt
  obtain ⟨hR1_0, hR1_1⟩ := hR1.cells2
  have hR1_l := hR1.lt
  go_wp2_with fail
  refine (implLastPlaces_any k0 k1 k2 _).mono ?_
  rintro e v9 ⟨B2, q2, rfl, hF2, hb⟩
  have hz9 : v8.heap.size ≤ v9.heap.size := by have := hb.size; simpa using this
  replace ht := below_then ht hb ht.size
  replace hb0 := hb0.below hb
  replace hF0 := hF0.below hb
  replace hR0 := hR0.below hb
  replace hR1 := hR1.below hb
  replace hM := hM.below hb
  replace hF2 := hF2.more (lo' := v8.heap.size) (hi' := v9.heap.size) (by simp) (Nat.le_refl _)
  have hR2 := Whole.fresh v9 66 #[.slice B2 ((lastAt k0 k1 k2)).length q2, .int .i64 (lastBoat k0 k1 k2)]
  replace ht := ht.alloc ht.size (.cells #[.slice B2 ((lastAt k0 k1 k2)).length q2, .int .i64 (lastBoat k0 k1 k2)] 66)
  replace hb0 := hb0.alloc (.cells #[.slice B2 ((lastAt k0 k1 k2)).length q2, .int .i64 (lastBoat k0 k1 k2)] 66)
  replace hF0 := hF0.alloc (.cells #[.slice B2 ((lastAt k0 k1 k2)).length q2, .int .i64 (lastBoat k0 k1 k2)] 66)
  replace hR0 := hR0.alloc (.cells #[.slice B2 ((lastAt k0 k1 k2)).length q2, .int .i64 (lastBoat k0 k1 k2)] 66)
  replace hR1 := hR1.alloc (.cells #[.slice B2 ((lastAt k0 k1 k2)).length q2, .int .i64 (lastBoat k0 k1 k2)] 66)
  replace hM := hM.alloc (.cells #[.slice B2 ((lastAt k0 k1 k2)).length q2, .int .i64 (lastBoat k0 k1 k2)] 66)
  replace hF2 := hF2.alloc (.cells #[.slice B2 ((lastAt k0 k1 k2)).length q2, .int .i64 (lastBoat k0 k1 k2)] 66)
  clear hb
  clear hb0_0 hb0_1 hb0_2 hb0_l hR0_0 hR0_1 hR0_l hR1_0 hR1_1 hR1_l
  obtain ⟨hb0_0, hb0_1, hb0_2⟩ := hb0.cells3
  have hb0_l := hb0.lt
  obtain ⟨hR0_0, hR0_1⟩ := hR0.cells2
  have hR0_l := hR0.lt
  obtain ⟨hR1_0, hR1_1⟩ := hR1.cells2
  have hR1_l := hR1.lt
  obtain ⟨hR2_0, hR2_1⟩ := hR2.cells2
  have hR2_l := hR2.lt
  -- region 14
  go_wp2_with fail
  refine (eqPlaces_yes B2 B0 ((lastAt k0 k1 k2)).length q2 q0 ((lastAt k0 k1 k2)) (lastBoat k0 k1 k2) _ (by exact hF2.holds) (by exact hF0.holds) rfl (by omega)).mono ?_
  rintro e v10 ⟨rfl, hb⟩
  have hz10 : v9.heap.size + 1 ≤ v10.heap.size := by have := hb.size; simpa using this
  replace ht := below_then ht hb ht.size
  replace hb0 := hb0.below hb
  replace hF0 := hF0.below hb
  replace hR0 := hR0.below hb
  replace hR1 := hR1.below hb
  replace hM := hM.below hb
  replace hF2 := hF2.below hb
  replace hR2 := hR2.below hb
  clear hb
  clear hb0_0 hb0_1 hb0_2 hb0_l hR0_0 hR0_1 hR0_l hR1_0 hR1_1 hR1_l hR2_0 hR2_1 hR2_l
  obtain ⟨hb0_0, hb0_1, hb0_2⟩ := hb0.cells3
  have hb0_l := hb0.lt
  obtain ⟨hR0_0, hR0_1⟩ := hR0.cells2
  have hR0_l := hR0.lt
  obtain ⟨hR1_0, hR1_1⟩ := hR1.cells2
  have hR1_l := hR1.lt
  obtain ⟨hR2_0, hR2_1⟩ := hR2.cells2
  have hR2_l := hR2.lt
  -- region 17
  go_wp2_with fail
  refine (heldPlaces_any B1 ((lastAt k0 k1 k2)).length q1 (lastBoat k0 k1 k2) 1 _ (by exact hM.holds) (by omega) (by omega) hlen).mono ?_
  rintro e v11 ⟨rfl, hb⟩
  have hz11 : v10.heap.size ≤ v11.heap.size := by have := hb.size; simpa using this
  replace ht := below_then ht hb ht.size
  replace hb0 := hb0.below hb
  replace hF0 := hF0.below hb
  replace hR0 := hR0.below hb
  replace hR1 := hR1.below hb
  replace hM := hM.below hb
  replace hF2 := hF2.below hb
  replace hR2 := hR2.below hb
  clear hb
  clear hb0_0 hb0_1 hb0_2 hb0_l hR0_0 hR0_1 hR0_l hR1_0 hR1_1 hR1_l hR2_0 hR2_1 hR2_l
  obtain ⟨hb0_0, hb0_1, hb0_2⟩ := hb0.cells3
  have hb0_l := hb0.lt
  obtain ⟨hR0_0, hR0_1⟩ := hR0.cells2
  have hR0_l := hR0.lt
  obtain ⟨hR1_0, hR1_1⟩ := hR1.cells2
  have hR1_l := hR1.lt
  obtain ⟨hR2_0, hR2_1⟩ := hR2.cells2
  have hR2_l := hR2.lt
  go_wp2
  go_ret
  exact ⟨rfl, ht⟩

theorem lawLastPlaces_all (k0 : Int) (k1 : Int) (k2 : Int) (w : World)  :
    Calls Try.prog 11 #[.agg #[.int .i64 k0, .int .i64 k1, .int .i64 k2]] w fun e w' => e = .returned (.bool true) ∧ Below w.heap.size w w' := by
  exact lawLastPlaces_small k0 k1 k2 w  
end Go.Proofs.Ytjkiclhihhhpmaa
