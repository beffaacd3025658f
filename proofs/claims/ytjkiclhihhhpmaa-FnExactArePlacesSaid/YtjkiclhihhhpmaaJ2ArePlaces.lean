/-
  What is proved: contracts of the first and the last places of isles, as the model and the program make them. Conditions: none but those that each names.
  What is proved: contracts of the model's and the program's tests of places of isles. Conditions: the lists are read as they lie.
  What is proved: contracts of the laws' own helpers for places: their size, their copy, their comparison, their marks. Conditions: the given lists are read as they lie; a copy is of at most 1,048,576 values.
  What is proved: the law FnExactArePlaces returns true at every argument, and leaves all that was there as it was. Conditions: the arguments are read as they lie.
-/
import Derived.Laws.CopyOwn
import Derived.Deep.RegionHeld3
import Derived.Test.YtjkiclhihhhpmaaJ1ArePlaces
namespace Go.Proofs.Ytjkiclhihhhpmaa
open Go.RowKit

/-- What a call hands back that makes places. -/
def PlacesRes (xs : List Int) (s : Int) (w : World) (e : Ending) (w' : World) : Prop :=
  ∃ (A : Option Addr) (c : Nat), e = .returned (.agg #[.slice A xs.length c, .int .i64 s]) ∧ Fresh w' w.heap.size w'.heap.size 3 A (nums xs) ∧ Below w.heap.size w w'
/-- Where a person is: 0 where there is none. -/
def gd (xs : List Int) (i : Nat) : Int := xs.getD i 0
/-- Whereabouts: where six people are, and the boat. -/
def whOf (xs : List Int) (s : Int) : Array Value := #[.int .i64 (gd xs 0), .int .i64 (gd xs 1), .int .i64 (gd xs 2), .int .i64 (gd xs 3), .int .i64 (gd xs 4), .int .i64 (gd xs 5), .int .i64 s]
theorem wh_at (xs : List Int) (s : Int) {i : Nat} (h : i < 6) : (whOf xs s)[i]? = some (.int .i64 (gd xs i)) := by
  match i, h with
  | 0, _ => rfl
  | 1, _ => rfl
  | 2, _ => rfl
  | 3, _ => rfl
  | 4, _ => rfl
  | 5, _ => rfl
def repl (n : Nat) (p : Int) : List Int := List.replicate n p
theorem repl_len (n : Nat) (p : Int) : (repl n p).length = n := by simp [repl]
theorem repl_next (n : Nat) (p : Int) : nums (repl n p) ++ [.int .i64 p] = nums (repl (n + 1) p) := by simp [nums, repl, List.replicate_succ']
theorem repl_zero (n : Nat) (i : Nat) : (repl n 0).getD i 0 = 0 := by
  simp only [repl, List.getD_eq_getElem?_getD, List.getElem?_replicate]
  split <;> rfl
theorem wh_repl_zero (n : Nat) : whOf (repl n 0) 0 = whOf [] 0 := by
  simp only [whOf, gd, repl_zero]
  rfl
theorem wh_next (p : Int) (n : Nat) (h : n < 6) : (whOf (repl n p) p).setIfInBounds n (.int .i64 p) = whOf (repl (n + 1) p) p := by
  match n, h with
  | 0, _ => rfl
  | 1, _ => rfl
  | 2, _ => rfl
  | 3, _ => rfl
  | 4, _ => rfl
  | 5, _ => rfl
theorem size_wh : (Try.prog.info? 109).map (·.size) = some 7 := by kernel_rfl
theorem wh_one (xs : List Int) (s : Int) : (whOf xs s).all (·.oneCell') = true := by simp [whOf, Value.oneCell']
def cellLen (w : World) (g : Nat) : Nat := match w.cell? ⟨g, 0, none⟩ with | some (.slice _ n _) => n | _ => 0
theorem cellLen_of {w : World} {g n c : Nat} {t : TypeId} {D : Option Addr} {v : Value} (h : Whole w g t #[.slice D n c, v]) : cellLen w g = n := by
  have h0 : w.cell? ⟨g, 0, none⟩ = some (.slice D n c) := h.cell 0
  simp [cellLen, h0]

set_option maxHeartbeats 1600000 in
set_option maxRecDepth 100000 in
theorem isAll_any (k : Nat) (b d p : Int) (w : World) (hk : k ≤ 3) :
    Calls Try.prog 84 #[.agg #[.int .i64 k, .int .i64 b, .int .i64 d], .int .i64 p] w (PlacesRes (repl (2 * k) p) p w) := by
  obtain ⟨i0, hi, hz0, hz1, hz2⟩ := info_parts info_int
  have HI := Lib.hid hi
  have HZ0 := Lib.hid hz0
  have HZ1 := Lib.hid hz1
  have HZ2 := Lib.hid hz2
  clear hi hz0 hz1 hz2
  have h0 := ((Whole.fresh w 59 #[.int .i64 k, .int .i64 b, .int .i64 d]).alloc (.cells #[.slice none 0 0, .int .i64 0] 66)).alloc (.cells #[.slice none 0 0, .int .i64 p] 66)
  have h1 := (Whole.fresh (w.alloc (.cells #[.int .i64 k, .int .i64 b, .int .i64 d] 59)) 66 #[.slice none 0 0, .int .i64 0]).alloc (.cells #[.slice none 0 0, .int .i64 p] 66)
  have h2 := Whole.fresh ((w.alloc (.cells #[.int .i64 k, .int .i64 b, .int .i64 d] 59)).alloc (.cells #[.slice none 0 0, .int .i64 0] 66)) 66 #[.slice none 0 0, .int .i64 p]
  have hb0 := below3 w (.cells #[.int .i64 k, .int .i64 b, .int .i64 d] 59) (.cells #[.slice none 0 0, .int .i64 0] 66) (.cells #[.slice none 0 0, .int .i64 p] 66)
  simp only [World.size_alloc] at h0 h1 h2
  go_enter Try.func84, Try.ntmps84
  go_wp2
  go_loopw [8] (fun _ wr => ∃ (j : Nat) (D : Option Addr) (q : Nat), j ≤ 2 * k ∧ wr.ownsRow (w.heap.size + 1 + 1 + 1) 3 1 (.slice D j q) j (nums (repl j p)) ∧ Whole wr w.heap.size 59 #[.int .i64 k, .int .i64 b, .int .i64 d] ∧ Whole wr (w.heap.size + 1) 66 #[.slice none 0 0, .int .i64 0] ∧ Whole wr (w.heap.size + 1 + 1) 66 #[.slice D j q, .int .i64 p] ∧ Below w.heap.size w wr) (fun _ wr => 2 * k - cellLen wr (w.heap.size + 1 + 1))
  case atStart => exact ⟨0, none, 0, Nat.zero_le _, World.ownsRow_nil _ _ _ _, h0, h1, h2, hb0⟩
  case round =>
    clear h0 h1 h2 hb0
    obtain ⟨j, D, q, hj, hown, h0, h1, h2, hb⟩ := hrel
    obtain ⟨c0, c1, c2⟩ := h0.cells3
    obtain ⟨a0, a1, e0, e1⟩ := h2.two
    have hl2 := h2.lt
    have HCL := Lib.hid (cellLen_of h2)
    by_cases hlt : j < 2 * k
    · have hd : decide ((j : Int) < 2 * (k : Int)) = true := by simp; omega
      have hOW := Lib.hid (hown.alloc (.cells #[.int .i64 p] 3))
      have h0' := Lib.hid (h0.alloc (.cells #[.int .i64 p] 3))
      have h1' := Lib.hid (h1.alloc (.cells #[.int .i64 p] 3))
      have h2' := Lib.hid (h2.alloc (.cells #[.int .i64 p] 3))
      have hb' := Lib.hid (hb.alloc hb.size (.cells #[.int .i64 p] 3))
      have hbase : w.heap.size + 1 + 1 + 1 ≤ (wr.alloc (.cells #[.int .i64 p] 3)).heap.size := by simp; omega
      have HBASE := Lib.hid hbase
      have HMAX := Lib.hid (show j + 1 ≤ maxLen by unfold maxLen; omega)
      have HBYT := Lib.hid (show (j + 1) * 8 ≤ 140737488355328 by omega)
      clear hown h0 h1 h2 hb hbase
      go_wp2_with (at_builtin; refine wpList_append_own _ rfl (.tmp 16) (.tmp 18) 25 rfl (w.heap.size + 1 + 1 + 1) 3 i0 (.int .i64 0) 1 8 Try.underlying25 HI.out HZ0.out HZ1.out HZ2.out rfl (by decide) (.slice D j q) j (nums (repl j p)) rfl hOW.out ⟨wr.heap.size, 0, none⟩ 1 1 [.int .i64 p] rfl rfl (cell_one_new _ _ _) (by simp [Value.oneCell']) HMAX.out HBYT.out HBASE.out ?_; intro v' w1 hown1 hg1 _; obtain ⟨D', q', hv', -⟩ := Fresh.of_own hown1 (Nat.le_refl _); rw [hv'] at hown1 ⊢; clear hv'; have g2 : Whole w1 (w.heap.size + 1 + 1) 66 #[.slice D j q, .int .i64 p] := (hg1.block _ h2'.out.lt (fun e => by have := (hOW.out.lt _ e.symm).1; omega)).trans h2'.out; have g1 : Whole w1 (w.heap.size + 1) 66 #[.slice none 0 0, .int .i64 0] := (hg1.block _ h1'.out.lt (fun e => by have := (hOW.out.lt _ e.symm).1; omega)).trans h1'.out; have g0 : Whole w1 w.heap.size 59 #[.int .i64 k, .int .i64 b, .int .i64 d] := (hg1.block _ h0'.out.lt (fun e => by have := (hOW.out.lt _ e.symm).1; omega)).trans h0'.out; obtain ⟨b0, b1, f0, f1⟩ := g2.two)
      have hbw : Below w.heap.size w w1 := hb'.out.grown hg1 (by have := hb'.out.size; omega) (fun kk e => by have := (hOW.out.lt _ e).1; omega)
      rw [repl_next] at hown1
      have hown2 := ownsRow_setCell_below hown1 (a := ⟨w.heap.size + 1 + 1, 0, none⟩) (by show w.heap.size + 1 + 1 < _; omega) (.slice D' (j + 1) q')
      have hset := g2.set_ 0 (.slice D' (j + 1) q')
      have HC2 := Lib.hid (cellLen_of hset)
      go_roundw
      case rel => exact ⟨j + 1, D', q', by omega, hown2, g0.off (by omega), g1.off (by omega), hset, below_set hbw (by omega)⟩
      case measure => rw [HC2.out, HCL.out]; omega
    · obtain rfl : j = 2 * k := by omega
      have hd : decide (((2 * k : Nat) : Int) < 2 * (k : Int)) = false := by simp
      obtain ⟨r0, r1, f0, f1⟩ := h1.two
      obtain ⟨D', q', hv', hf⟩ := Fresh.of_own hown (Nat.le_refl _)
      simp only [Value.slice.injEq, true_and] at hv'
      obtain ⟨rfl, rfl⟩ := hv'
      have HF := Lib.hid (((hf.set_out (b := w.heap.size + 1) (o := 0) (u := .slice D (2 * k) q) (.inl (by omega))).set_out (b := w.heap.size + 1) (o := 1) (u := .int .i64 p) (.inl (by omega))).more (lo' := w.heap.size) (hi' := wr.heap.size) (by omega) (Nat.le_refl _))
      clear hf hown
      go_wp2
      refine bodyPost_ret (v := .agg #[.slice D (2 * k) q, .int .i64 p]) (by simp [results, Try.results84, go_sem, r0, r1]) rfl ⟨D, q, by rw [repl_len], ?_, ?_⟩
      · have h := HF.out
        simpa [World.setCell] using h
      · exact below_set (below_set hb (by omega)) (by omega)

/-- First and last places: none where there are no isles. -/
def firstAt (a b d : Int) : List Int := if isIsl a b d then repl (2 * a.toNat) 0 else []
def lastAt (a b d : Int) : List Int := if isIsl a b d then repl (2 * a.toNat) (d + 1) else []
def lastBoat (a b d : Int) : Int := if isIsl a b d then d + 1 else 0
theorem firstAt_le (a b d : Int) : (firstAt a b d).length ≤ 1048576 := by
  rw [firstAt]; split
  · rename_i h; have := isIsl_iff.1 h; rw [repl_len]; omega
  · simp
theorem lastAt_le (a b d : Int) : (lastAt a b d).length ≤ 1048576 := by
  rw [lastAt]; split
  · rename_i h; have := isIsl_iff.1 h; rw [repl_len]; omega
  · simp
set_option maxHeartbeats 1600000 in
set_option maxRecDepth 100000 in
theorem specFirstPlaces_any (a b d : Int) (w : World) :
    Calls Try.prog 47 #[.agg #[.int .i64 a, .int .i64 b, .int .i64 d]] w (PartyPost (firstAt a b d) 0 (isIsl a b d) w) := by
  unfold firstAt
  cases hp : isIsl a b d
  · have h0 := (Whole.fresh w 59 #[.int .i64 a, .int .i64 b, .int .i64 d]).alloc (.cells #[.slice none 0 0, .int .i64 0] 66)
    have h1 := Whole.fresh (w.alloc (.cells #[.int .i64 a, .int .i64 b, .int .i64 d] 59)) 66 #[.slice none 0 0, .int .i64 0]
    rw [World.size_alloc] at h1
    have HP := Lib.hid hp
    clear hp
    go_enter Try.func47, Try.ntmps47
    go_wp2_with fail
    refine (isGood_any a b d _).mono ?_
    rintro e w1 ⟨rfl, hb⟩
    rw [HP.out]
    have ht := below_then (below2 w _ _) hb (by simp; omega)
    have hr := h1.below hb
    have hlr := hr.lt
    obtain ⟨r0, r1, f0, f1⟩ := hr.two
    clear h0 h1 hb
    go_wp2
    refine bodyPost_ret (v := .tuple #[.agg #[.slice none 0 0, .int .i64 0], .bool false]) (by simp [results, Try.results47, go_sem, r0, r1]) rfl ⟨none, 0, rfl, .inl rfl, ?_⟩
    exact below_set (below_set ht (by omega)) (by omega)
  · have hiff := isIsl_iff.1 hp
    obtain ⟨k, rfl⟩ := Int.eq_ofNat_of_zero_le (show 0 ≤ a by omega)
    have hk : k ≤ 3 := by omega
    simp only [if_true, Int.toNat_natCast]
    have h0 := (Whole.fresh w 59 #[.int .i64 k, .int .i64 b, .int .i64 d]).alloc (.cells #[.slice none 0 0, .int .i64 0] 66)
    have h1 := Whole.fresh (w.alloc (.cells #[.int .i64 k, .int .i64 b, .int .i64 d] 59)) 66 #[.slice none 0 0, .int .i64 0]
    rw [World.size_alloc] at h1
    have HP := Lib.hid hp
    clear hp
    go_enter Try.func47, Try.ntmps47
    go_wp2_with fail
    refine (isGood_any k b d _).mono ?_
    rintro e w1 ⟨rfl, hb⟩
    rw [HP.out]
    have ht := below_then (below2 w _ _) hb (by simp; omega)
    obtain ⟨c0, c1, c2⟩ := (h0.below hb).cells3
    have hr := h1.below hb
    clear h0 h1 hb
    go_wp2_with fail
    refine (isAll_any k b d 0 _ hk).mono ?_
    rintro e w2 ⟨A2, q2, rfl, hf, hb⟩
    have hlo : w.heap.size + 1 < w1.heap.size := hr.lt
    replace ht := below_then ht hb ht.size
    replace hr := hr.below hb
    obtain ⟨r0, r1, f0, f1⟩ := hr.two
    have HF := Lib.hid (((hf.set_out (b := w.heap.size + 1) (o := 0) (u := .slice A2 (repl (2 * k) 0).length q2) (.inl (by omega))).set_out (b := w.heap.size + 1) (o := 1) (u := .int .i64 0) (.inl (by omega))).more (lo' := w.heap.size) (hi' := w2.heap.size) (by omega) (Nat.le_refl _))
    clear hf
    go_wp2
    refine bodyPost_ret (v := .tuple #[.agg #[.slice A2 (repl (2 * k) 0).length q2, .int .i64 0], .bool true]) (by simp [results, Try.results47, go_sem, r0, r1]) rfl ⟨A2, q2, rfl, ?_, ?_⟩
    · have h := HF.out
      simpa [World.setCell] using h
    · exact below_set (below_set ht (by omega)) (by omega)

set_option maxHeartbeats 1600000 in
set_option maxRecDepth 100000 in
theorem specLastPlaces_any (a b d : Int) (w : World) :
    Calls Try.prog 51 #[.agg #[.int .i64 a, .int .i64 b, .int .i64 d]] w (PartyPost (lastAt a b d) (lastBoat a b d) (isIsl a b d) w) := by
  unfold lastAt lastBoat
  cases hp : isIsl a b d
  · have h0 := (Whole.fresh w 59 #[.int .i64 a, .int .i64 b, .int .i64 d]).alloc (.cells #[.slice none 0 0, .int .i64 0] 66)
    have h1 := Whole.fresh (w.alloc (.cells #[.int .i64 a, .int .i64 b, .int .i64 d] 59)) 66 #[.slice none 0 0, .int .i64 0]
    rw [World.size_alloc] at h1
    have HP := Lib.hid hp
    clear hp
    go_enter Try.func51, Try.ntmps51
    go_wp2_with fail
    refine (isGood_any a b d _).mono ?_
    rintro e w1 ⟨rfl, hb⟩
    rw [HP.out]
    have ht := below_then (below2 w _ _) hb (by simp; omega)
    have hr := h1.below hb
    have hlr := hr.lt
    obtain ⟨r0, r1, f0, f1⟩ := hr.two
    clear h0 h1 hb
    go_wp2
    refine bodyPost_ret (v := .tuple #[.agg #[.slice none 0 0, .int .i64 0], .bool false]) (by simp [results, Try.results51, go_sem, r0, r1]) rfl ⟨none, 0, rfl, .inl rfl, ?_⟩
    exact below_set (below_set ht (by omega)) (by omega)
  · have hiff := isIsl_iff.1 hp
    obtain ⟨k, rfl⟩ := Int.eq_ofNat_of_zero_le (show 0 ≤ a by omega)
    have hk : k ≤ 3 := by omega
    simp only [if_true, Int.toNat_natCast]
    have h0 := (Whole.fresh w 59 #[.int .i64 k, .int .i64 b, .int .i64 d]).alloc (.cells #[.slice none 0 0, .int .i64 0] 66)
    have h1 := Whole.fresh (w.alloc (.cells #[.int .i64 k, .int .i64 b, .int .i64 d] 59)) 66 #[.slice none 0 0, .int .i64 0]
    rw [World.size_alloc] at h1
    have HP := Lib.hid hp
    clear hp
    go_enter Try.func51, Try.ntmps51
    go_wp2_with fail
    refine (isGood_any k b d _).mono ?_
    rintro e w1 ⟨rfl, hb⟩
    rw [HP.out]
    have ht := below_then (below2 w _ _) hb (by simp; omega)
    obtain ⟨c0, c1, c2⟩ := (h0.below hb).cells3
    have hr := h1.below hb
    clear h0 h1 hb
    go_wp2_with fail
    refine (isAll_any k b d (d + 1) _ hk).mono ?_
    rintro e w2 ⟨A2, q2, rfl, hf, hb⟩
    have hlo : w.heap.size + 1 < w1.heap.size := hr.lt
    replace ht := below_then ht hb ht.size
    replace hr := hr.below hb
    obtain ⟨r0, r1, f0, f1⟩ := hr.two
    have HF := Lib.hid (((hf.set_out (b := w.heap.size + 1) (o := 0) (u := .slice A2 (repl (2 * k) (d + 1)).length q2) (.inl (by omega))).set_out (b := w.heap.size + 1) (o := 1) (u := .int .i64 (d + 1)) (.inl (by omega))).more (lo' := w.heap.size) (hi' := w2.heap.size) (by omega) (Nat.le_refl _))
    clear hf
    go_wp2
    refine bodyPost_ret (v := .tuple #[.agg #[.slice A2 (repl (2 * k) (d + 1)).length q2, .int .i64 (d + 1)], .bool true]) (by simp [results, Try.results51, go_sem, r0, r1]) rfl ⟨A2, q2, rfl, ?_, ?_⟩
    · have h := HF.out
      simpa [World.setCell] using h
    · exact below_set (below_set ht (by omega)) (by omega)

theorem elem_six (W : World) : (sizeOf (Try.prog.elem 107)).run Try.prog W = .ok 1 W := by kernel_rfl
theorem len_six : Try.prog.arrayLen 107 = 6 := by kernel_rfl
theorem arr_six : Try.prog.underlying 107 = some (.array (Try.prog.arrayLen 107) (Try.prog.elem 107)) := by kernel_rfl
theorem slice_six (W : World) (g n : Nat) (h : n ≤ 6) : (Instr.sliceAt 107 (.pointer (some ⟨g, 0, none⟩)) none (some (.int .i64 (n : Int))) none).run Try.prog W = .ok (.slice (some ⟨g, 0, none⟩) n 6) W := by
  rw [run_sliceAt_array_h W 107 _ arr_six .i64 (n : Int) (by omega) (by rw [len_six]; omega), elem_six]
  simp [slicedAt, len_six, Result.andThen, Addr.add]

set_option maxHeartbeats 800000 in
set_option maxRecDepth 100000 in
theorem places_any (xs : List Int) (s : Int) (n : Nat) (w : World) (hy : xs.length = n) (hn : n ≤ 6) :
    Calls Try.prog 85 #[.agg (whOf xs s), .int .i64 n] w (PlacesRes xs s w) := by
  subst hy
  have hp := (Whole.fresh w 109 (whOf xs s)).alloc (.cells #[.slice none 0 0, .int .i64 0] 66)
  have hr := Whole.fresh (w.alloc (.cells (whOf xs s) 109)) 66 #[.slice none 0 0, .int .i64 0]
  rw [World.size_alloc] at hr
  have hb2 := below2 w (.cells (whOf xs s) 109) (.cells #[.slice none 0 0, .int .i64 0] 66)
  have ht6 := (hp.cell 6).trans (show (whOf xs s)[6]? = some (.int .i64 s) from rfl)
  have hB : ∀ j u, (nums xs)[j]? = some u → ((w.alloc (.cells (whOf xs s) 109)).alloc (.cells #[.slice none 0 0, .int .i64 0] 66)).cell? ⟨w.heap.size, 0 + j, none⟩ = some u := fun j u hu => by
    have hj : j < xs.length := by have := (List.getElem?_eq_some_iff.1 hu).1; rwa [nums_len] at this
    rw [Nat.zero_add, hp.cell j, wh_at xs s (by omega), ← hu]
    simp [nums, hj, gd]
  have HB := Lib.hid hB
  clear hB
  have hsl := fun W : World => slice_six W w.heap.size xs.length hn
  go_enter Try.func85, Try.ntmps85
  go_wp2
  go_region_held3 (fun w' => w'.cell? ⟨w.heap.size, 6, none⟩ = some (.int .i64 s)) (go_keep)
    (first | (go_at_call 99; refine (cloneI_any w.heap.size 0 xs.length 6 xs _ (by exact HB.out) rfl (by omega)).mono ?_; rintro e w1 ⟨A, c, rfl, hf, hb⟩; have k6 := ((hp.drew.below hb).cell 6).trans (show (whOf xs s)[6]? = some (.int .i64 s) from rfl); obtain ⟨r0, r1, f0, f1⟩ := (hr.drew.below hb).two))
  have hlw : w.heap.size + 1 + 1 ≤ w1.heap.size := by have := hb.size; simpa using this
  have HF := Lib.hid ((hf.set_out (b := w.heap.size + 1) (o := 0) (u := .slice A xs.length c) (.inl (by simp))).set_out (b := w.heap.size + 1) (o := 1) (u := .int .i64 s) (.inl (by simp)))
  have HBW := Lib.hid (below_then hb2.drew hb (by simp; omega))
  clear hf hb
  go_wp2
  refine bodyPost_ret (v := .agg #[.slice A xs.length c, .int .i64 s]) (by simp [results, Try.results85, go_sem, r0, r1]) rfl ⟨A, c, rfl, ?_, ?_⟩
  · have h := HF.out.more (lo' := w.heap.size) (hi' := w1.heap.size) (by simp; omega) (Nat.le_refl _)
    simpa [World.setCell] using h
  · exact below_set (below_set HBW.out (by omega)) (by omega)

set_option maxHeartbeats 400000 in
theorem otherBank_any (k : Nat) (b d : Int) (w : World) (hk : k ≤ 3) (h0 : 0 ≤ d) (h2 : d ≤ 2) :
    Calls Try.prog 87 #[.agg #[.int .i64 k, .int .i64 b, .int .i64 d]] w fun e w' => e = .returned (.int .i64 (d + 1)) ∧ Below w.heap.size w w' := by
  go_enter Try.func87, Try.ntmps87
  go_wp2
  go_ret
  exact ⟨rfl, below1 w _⟩

theorem wh_cells {w : World} {g : Nat} {ty : TypeId} {xs : List Int} {s : Int} (h : Whole w g ty (whOf xs s)) :
    w.cell? ⟨g, 0, none⟩ = some (.int .i64 (gd xs 0)) ∧ w.cell? ⟨g, 1, none⟩ = some (.int .i64 (gd xs 1)) ∧ w.cell? ⟨g, 2, none⟩ = some (.int .i64 (gd xs 2)) ∧ w.cell? ⟨g, 3, none⟩ = some (.int .i64 (gd xs 3)) ∧
    w.cell? ⟨g, 4, none⟩ = some (.int .i64 (gd xs 4)) ∧ w.cell? ⟨g, 5, none⟩ = some (.int .i64 (gd xs 5)) ∧ w.cell? ⟨g, 6, none⟩ = some (.int .i64 s) :=
  ⟨h.cell 0, h.cell 1, h.cell 2, h.cell 3, h.cell 4, h.cell 5, h.cell 6⟩

set_option maxHeartbeats 1600000 in
theorem allAt_any (k : Nat) (b d p : Int) (w : World) (hk : k ≤ 3) :
    Calls Try.prog 86 #[.agg #[.int .i64 k, .int .i64 b, .int .i64 d], .int .i64 p] w fun e w' => e = .returned (.agg (whOf (repl (2 * k) p) p)) ∧ Below w.heap.size w w' := by
  have h0 := ((Whole.fresh w 59 #[.int .i64 k, .int .i64 b, .int .i64 d]).alloc (.cells (whOf [] 0) 109)).alloc (.cells (whOf (repl 0 p) p) 109)
  have h1 := (Whole.fresh (w.alloc (.cells #[.int .i64 k, .int .i64 b, .int .i64 d] 59)) 109 (whOf [] 0)).alloc (.cells (whOf (repl 0 p) p) 109)
  have h2 := Whole.fresh ((w.alloc (.cells #[.int .i64 k, .int .i64 b, .int .i64 d] 59)).alloc (.cells (whOf [] 0) 109)) 109 (whOf (repl 0 p) p)
  have hb0 := below3 w (.cells #[.int .i64 k, .int .i64 b, .int .i64 d] 59) (.cells (whOf [] 0) 109) (.cells (whOf (repl 0 p) p) 109)
  simp only [World.size_alloc] at h0 h1 h2
  obtain ⟨c0, c1, c2⟩ := h0.cells3
  go_enter Try.func86, Try.ntmps86
  go_wp2
  go_loopw [12] (fun i wr => ∃ j : Nat, j ≤ 2 * k ∧ i = .int .i64 j ∧ Whole wr (w.heap.size + 1) 109 (whOf [] 0) ∧ Whole wr (w.heap.size + 1 + 1) 109 (whOf (repl j p) p) ∧ Below w.heap.size w wr) (fun i _ => 2 * k - (intOf i).toNat)
  case atStart => exact ⟨0, Nat.zero_le _, rfl, h1, h2, hb0⟩
  case round =>
    clear h0 h1 h2 hb0 c0 c1 c2
    obtain ⟨j, hj, rfl, h1, h2, hb⟩ := hrel
    by_cases hlt : j < 2 * k
    · have hd : decide ((j : Int) < 2 * (k : Int)) = true := by simp; omega
      have hj6 : j < 6 := by omega
      have hji : (j : Int) < 6 := by omega
      have hcell := (h2.cell j).trans (wh_at (repl j p) p hj6)
      have hfr := h2.open_ j
      have hset := h2.set_ j (.int .i64 p)
      rw [wh_next p j hj6] at hset
      go_wp2
      go_roundw
      case rel => exact ⟨j + 1, by omega, by go_num, h1.off (by omega), hset, below_set hb (by omega)⟩
      case measure => simp [intOf]; omega
    · obtain rfl : j = 2 * k := by omega
      have hd : decide (((2 * k : Nat) : Int) < 2 * (k : Int)) = false := by simp
      go_wp2_with (first | (refine wpList_load_row rfl 109 (.tmp 5) rfl (w.heap.size + 1 + 1) rfl 109 (whOf (repl (2 * k) p) p) (0, 0) _ h2 Try.underlying109 rfl size_wh ?_) | (refine wpList_store_whole rfl 109 (.tmp 4) (.tmp 20) rfl (w.heap.size + 1) (whOf (repl (2 * k) p) p) rfl rfl 109 (whOf [] 0) h1 size_wh rfl (wh_one _ _) ?_; intro w2 hw2 ho2))
      have hb2 := ho2.below hb (by omega)
      obtain ⟨r0, r1, r2, r3, r4, r5, r6⟩ := wh_cells hw2
      refine bodyPost_ret (v := .agg (whOf (repl (2 * k) p) p)) (by simp [results, Try.results86, go_sem, r0, r1, r2, r3, r4, r5, r6, whOf]) rfl ⟨rfl, hb2⟩

set_option maxHeartbeats 1600000 in
set_option maxRecDepth 100000 in
theorem implFirstPlaces_any (a b d : Int) (w : World) :
    Calls Try.prog 48 #[.agg #[.int .i64 a, .int .i64 b, .int .i64 d]] w (PartyPost (firstAt a b d) 0 (isIsl a b d) w) := by
  unfold firstAt
  cases hp : isIsl a b d
  · have h0 := (Whole.fresh w 59 #[.int .i64 a, .int .i64 b, .int .i64 d]).alloc (.cells #[.slice none 0 0, .int .i64 0] 66)
    have h1 := Whole.fresh (w.alloc (.cells #[.int .i64 a, .int .i64 b, .int .i64 d] 59)) 66 #[.slice none 0 0, .int .i64 0]
    rw [World.size_alloc] at h1
    have HP := Lib.hid hp
    clear hp
    go_enter Try.func48, Try.ntmps48
    go_wp2_with fail
    refine (isIsles_any a b d _).mono ?_
    rintro e w1 ⟨rfl, hb⟩
    rw [HP.out]
    have ht := below_then (below2 w _ _) hb (by simp; omega)
    have hr := h1.below hb
    have hlr := hr.lt
    obtain ⟨r0, r1, f0, f1⟩ := hr.two
    clear h0 h1 hb
    go_wp2
    refine bodyPost_ret (v := .tuple #[.agg #[.slice none 0 0, .int .i64 0], .bool false]) (by simp [results, Try.results48, go_sem, r0, r1]) rfl ⟨none, 0, rfl, .inl rfl, ?_⟩
    exact below_set (below_set ht (by omega)) (by omega)
  · have hiff := isIsl_iff.1 hp
    obtain ⟨k, rfl⟩ := Int.eq_ofNat_of_zero_le (show 0 ≤ a by omega)
    have hk : k ≤ 3 := by omega
    simp only [if_true, Int.toNat_natCast]
    have h0 := (Whole.fresh w 59 #[.int .i64 k, .int .i64 b, .int .i64 d]).alloc (.cells #[.slice none 0 0, .int .i64 0] 66)
    have h1 := Whole.fresh (w.alloc (.cells #[.int .i64 k, .int .i64 b, .int .i64 d] 59)) 66 #[.slice none 0 0, .int .i64 0]
    rw [World.size_alloc] at h1
    have HP := Lib.hid hp
    clear hp
    go_enter Try.func48, Try.ntmps48
    go_wp2_with fail
    refine (isIsles_any k b d _).mono ?_
    rintro e w1 ⟨rfl, hb⟩
    rw [HP.out]
    have ht := below_then (below2 w _ _) hb (by simp; omega)
    obtain ⟨c0, c1, c2⟩ := (h0.below hb).cells3
    have hr := h1.below hb
    clear h0 h1 hb
    go_wp2_with fail
    have hpl := places_any (repl (2 * k) 0) 0 (2 * k) w1 (repl_len _ _) (by omega)
    rw [wh_repl_zero, show ((2 * k : Nat) : Int) = 2 * (k : Int) by omega] at hpl
    refine hpl.mono ?_
    clear hpl
    rintro e w2 ⟨A2, q2, rfl, hf, hb⟩
    have hlo : w.heap.size + 1 < w1.heap.size := hr.lt
    replace ht := below_then ht hb ht.size
    replace hr := hr.below hb
    obtain ⟨r0, r1, f0, f1⟩ := hr.two
    have HF := Lib.hid (((hf.set_out (b := w.heap.size + 1) (o := 0) (u := .slice A2 (repl (2 * k) 0).length q2) (.inl (by omega))).set_out (b := w.heap.size + 1) (o := 1) (u := .int .i64 0) (.inl (by omega))).more (lo' := w.heap.size) (hi' := w2.heap.size) (by omega) (Nat.le_refl _))
    clear hf
    go_wp2
    refine bodyPost_ret (v := .tuple #[.agg #[.slice A2 (repl (2 * k) 0).length q2, .int .i64 0], .bool true]) (by simp [results, Try.results48, go_sem, r0, r1]) rfl ⟨A2, q2, rfl, ?_, ?_⟩
    · have h := HF.out
      simpa [World.setCell] using h
    · exact below_set (below_set ht (by omega)) (by omega)

set_option maxHeartbeats 1600000 in
set_option maxRecDepth 100000 in
theorem implLastPlaces_any (a b d : Int) (w : World) :
    Calls Try.prog 52 #[.agg #[.int .i64 a, .int .i64 b, .int .i64 d]] w (PartyPost (lastAt a b d) (lastBoat a b d) (isIsl a b d) w) := by
  unfold lastAt lastBoat
  cases hp : isIsl a b d
  · have h0 := (Whole.fresh w 59 #[.int .i64 a, .int .i64 b, .int .i64 d]).alloc (.cells #[.slice none 0 0, .int .i64 0] 66)
    have h1 := Whole.fresh (w.alloc (.cells #[.int .i64 a, .int .i64 b, .int .i64 d] 59)) 66 #[.slice none 0 0, .int .i64 0]
    rw [World.size_alloc] at h1
    have HP := Lib.hid hp
    clear hp
    go_enter Try.func52, Try.ntmps52
    go_wp2_with fail
    refine (isIsles_any a b d _).mono ?_
    rintro e w1 ⟨rfl, hb⟩
    rw [HP.out]
    have ht := below_then (below2 w _ _) hb (by simp; omega)
    have hr := h1.below hb
    have hlr := hr.lt
    obtain ⟨r0, r1, f0, f1⟩ := hr.two
    clear h0 h1 hb
    go_wp2
    refine bodyPost_ret (v := .tuple #[.agg #[.slice none 0 0, .int .i64 0], .bool false]) (by simp [results, Try.results52, go_sem, r0, r1]) rfl ⟨none, 0, rfl, .inl rfl, ?_⟩
    exact below_set (below_set ht (by omega)) (by omega)
  · have hiff := isIsl_iff.1 hp
    obtain ⟨k, rfl⟩ := Int.eq_ofNat_of_zero_le (show 0 ≤ a by omega)
    have hk : k ≤ 3 := by omega
    simp only [if_true, Int.toNat_natCast]
    have h0 := (Whole.fresh w 59 #[.int .i64 k, .int .i64 b, .int .i64 d]).alloc (.cells #[.slice none 0 0, .int .i64 0] 66)
    have h1 := Whole.fresh (w.alloc (.cells #[.int .i64 k, .int .i64 b, .int .i64 d] 59)) 66 #[.slice none 0 0, .int .i64 0]
    rw [World.size_alloc] at h1
    have HP := Lib.hid hp
    clear hp
    go_enter Try.func52, Try.ntmps52
    go_wp2_with fail
    refine (isIsles_any k b d _).mono ?_
    rintro e w1 ⟨rfl, hb⟩
    rw [HP.out]
    have ht := below_then (below2 w _ _) hb (by simp; omega)
    have h0' := h0.below hb
    obtain ⟨c0, c1, c2⟩ := h0'.cells3
    have hr := h1.below hb
    clear h0 h1 hb
    have hpl := fun W : World => places_any (repl (2 * k) (d + 1)) (d + 1) (2 * k) W (repl_len _ _) (by omega)
    rw [show ((2 * k : Nat) : Int) = 2 * (k : Int) by omega] at hpl
    have HPL := Lib.hid hpl
    clear hpl
    have hwr : IntKind.i64.wrap (2 * (k : Int)) = 2 * (k : Int) := IntWalk.i64_in _ (by omega)
    go_wp2_with fail
    go_region_held3 (fun w' => w'.cell? ⟨w.heap.size, 0, none⟩ = some (.int .i64 k) ∧ w'.cell? ⟨w.heap.size, 1, none⟩ = some (.int .i64 b) ∧ w'.cell? ⟨w.heap.size, 2, none⟩ = some (.int .i64 d)) (go_keep)
      (first | (go_at_call 87; refine (otherBank_any k b d _ hk (by omega) (by omega)).mono ?_; rintro e w2 ⟨rfl, hb2⟩; obtain ⟨k0, k1, k2⟩ := (h0'.drew.below hb2).cells3) | (go_at_call 86; refine (allAt_any k b d (d + 1) _ hk).mono ?_; rintro e w3 ⟨rfl, hb3⟩; obtain ⟨l0, l1, l2⟩ := ((h0'.drew.below hb2).below hb3).cells3) | (go_at_call 85; refine (HPL.out _).mono ?_; rintro e w4 ⟨A2, q2, rfl, hf, hb4⟩; obtain ⟨m0, m1, m2⟩ := (((h0'.drew.below hb2).below hb3).below hb4).cells3; obtain ⟨r0, r1, f0, f1⟩ := (((hr.drew.below hb2).below hb3).below hb4).two))
    have hlo0 : w.heap.size + 1 < w1.heap.size := hr.lt
    have hlo2 : w1.heap.size ≤ w2.heap.size := hb2.size
    have hlo3 : w2.heap.size ≤ w3.heap.size := hb3.size
    have ht3 := below_then (below_then ht.drew hb2 ht.size) hb3 (Nat.le_trans ht.size hb2.size)
    replace ht := below_then ht3 hb4 ht3.size
    clear hb2 hb3 hb4 ht3
    have HF := Lib.hid (((hf.set_out (b := w.heap.size + 1) (o := 0) (u := .slice A2 (repl (2 * k) (d + 1)).length q2) (.inl (by omega))).set_out (b := w.heap.size + 1) (o := 1) (u := .int .i64 (d + 1)) (.inl (by omega))).more (lo' := w.heap.size) (hi' := w4.heap.size) (by omega) (Nat.le_refl _))
    clear hf
    go_wp2
    refine bodyPost_ret (v := .tuple #[.agg #[.slice A2 (repl (2 * k) (d + 1)).length q2, .int .i64 (d + 1)], .bool true]) (by simp [results, Try.results52, go_sem, r0, r1]) rfl ⟨A2, q2, rfl, ?_, ?_⟩
    · have h := HF.out
      simpa [World.setCell] using h
    · exact below_set (below_set ht (by omega)) (by omega)
end Go.Proofs.Ytjkiclhihhhpmaa

namespace Go.Proofs.Ytjkiclhihhhpmaa
open Go.RowKit

/-- Places of isles, told in plain words. -/
def isPl (a b d : Int) (xs : List Int) (s : Int) : Bool := isIsl a b d && (decide ((xs.length : Int) = 2 * a) && (allIn xs 0 (d + 1) && hasK xs s))
theorem isPl_isl {a b d : Int} {xs : List Int} {s : Int} (h : isIsl a b d = false) : isPl a b d xs s = false := by simp [isPl, h]
theorem isPl_len {a b d : Int} {xs : List Int} {s : Int} (h : ¬ (xs.length : Int) = 2 * a) : isPl a b d xs s = false := by simp [isPl, h]
theorem isPl_in {a b d : Int} {xs : List Int} {s : Int} (h : allIn xs 0 (d + 1) = false) : isPl a b d xs s = false := by simp [isPl, h]
theorem isPl_has {a b d : Int} {xs : List Int} {s : Int} (h : hasK xs s = false) : isPl a b d xs s = false := by simp [isPl, h]
theorem isPl_yes {a b d : Int} {xs : List Int} {s : Int} (h1 : isIsl a b d = true) (h2 : (xs.length : Int) = 2 * a) (h3 : allIn xs 0 (d + 1) = true) : isPl a b d xs s = hasK xs s := by simp [isPl, h1, h2, h3]
theorem has_any (xs : List Int) (s : Int) : xs.any (· == s) = hasK xs s := by
  rw [Bool.eq_iff_iff, hasK, List.contains_iff_mem, List.any_eq_true]
  constructor
  · rintro ⟨x, h1, h2⟩; have : x = s := by simpa using h2
    exact this ▸ h1
  · intro h; exact ⟨s, h, by simp⟩
theorem isPl_low {a b d : Int} {xs : List Int} {s : Int} (h0 : xs ≠ []) (h : leastOf xs < 0) : isPl a b d xs s = false := by
  refine isPl_in ?_
  cases h3 : allIn xs 0 (d + 1)
  · rfl
  · have := (le_leastOf h0 0).2 fun y hy => ((allIn_iff _ _ _).1 h3 y hy).1
    omega
theorem isPl_high {a b d : Int} {xs : List Int} {s : Int} (h0 : xs ≠ []) (h : d + 1 < mostOf xs) : isPl a b d xs s = false := by
  refine isPl_in ?_
  cases h3 : allIn xs 0 (d + 1)
  · rfl
  · have := (mostOf_le h0 (d + 1)).2 fun y hy => ((allIn_iff _ _ _).1 h3 y hy).2
    omega
theorem isPl_all {a b d : Int} {xs : List Int} {s : Int} (h0 : xs ≠ []) (h1 : isIsl a b d = true) (h2 : (xs.length : Int) = 2 * a) (h3 : hasK xs s = true) (h4 : 0 ≤ leastOf xs) (h5 : mostOf xs ≤ d + 1) : isPl a b d xs s = true := by
  have h6 : allIn xs 0 (d + 1) = true := (allIn_iff _ _ _).2 fun y hy => ⟨(le_leastOf h0 0).1 h4 y hy, (mostOf_le h0 _).1 h5 y hy⟩
  rw [isPl_yes h1 h2 h6, h3]
theorem isPl_parts {a b d : Int} {xs : List Int} {s : Int} (h : isPl a b d xs s = true) : isIsl a b d = true ∧ (xs.length : Int) = 2 * a ∧ allIn xs 0 (d + 1) = true ∧ hasK xs s = true := by
  simpa [isPl] using h

set_option maxHeartbeats 1600000 in
set_option maxRecDepth 100000 in
theorem isPlaces_any (a b d : Int) (A : Option Addr) (n c : Nat) (xs : List Int) (s : Int) (w : World) (hA : Holds w A (nums xs)) (hx : xs.length = n) (hn : n ≤ 1048576) :
    Calls Try.prog 82 #[.agg #[.int .i64 a, .int .i64 b, .int .i64 d], .agg #[.slice A n c, .int .i64 s]] w fun e w' => e = .returned (.bool (isPl a b d xs s)) ∧ Below w.heap.size w w' := by
  have HX := Lib.hid hx
  have hA2 := (hA.alloc (.cells #[.int .i64 a, .int .i64 b, .int .i64 d] 59)).alloc (.cells #[.slice A n c, .int .i64 s] 66)
  have hi := (Whole.fresh w 59 #[.int .i64 a, .int .i64 b, .int .i64 d]).alloc (.cells #[.slice A n c, .int .i64 s] 66)
  have hp := Whole.fresh (w.alloc (.cells #[.int .i64 a, .int .i64 b, .int .i64 d] 59)) 66 #[.slice A n c, .int .i64 s]
  rw [World.size_alloc] at hp
  have ht := below2 w (.cells #[.int .i64 a, .int .i64 b, .int .i64 d] 59) (.cells #[.slice A n c, .int .i64 s] 66)
  obtain ⟨c0, c1, c2⟩ := hi.cells3
  obtain ⟨p0, p1⟩ := hp.cells2
  cases h1 : isIsl a b d
  · have HP := Lib.hid (isPl_isl (xs := xs) (s := s) h1)
    have H1 := Lib.hid h1
    clear h1 hx
    go_enter Try.func82, Try.ntmps82
    go_wp2_with fail
    refine (isGood_any a b d _).mono ?_
    rintro e w1 ⟨rfl, hb⟩
    rw [H1.out]
    replace ht := below_then ht hb ht.size
    replace hA2 := hA2.below hb
    replace hi := hi.below hb
    replace hp := hp.below hb
    clear hb c0 c1 c2 p0 p1
    obtain ⟨c0, c1, c2⟩ := hi.cells3
    obtain ⟨p0, p1⟩ := hp.cells2
    go_wp2
    go_ret
    exact ⟨ret_of (by rw [HP.out]; rfl), ht⟩
  · have hiff := isIsl_iff.1 h1
    by_cases h2 : (xs.length : Int) = 2 * a
    · have hd2 : decide ((n : Int) = 2 * a) = true := by rw [← hx]; simpa using h2
      have hq2 : ((n : Int) == 2 * a) = true := by rw [← hx]; simpa using h2
      cases h3 : allIn xs 0 (d + 1)
      · have HP := Lib.hid (isPl_in (a := a) (b := b) (s := s) h3)
        have H1 := Lib.hid h1
        have H3 := Lib.hid h3
        clear h1 h3 h2 hx
        go_enter Try.func82, Try.ntmps82
        go_wp2_with fail
        refine (isGood_any a b d _).mono ?_
        rintro e w1 ⟨rfl, hb⟩
        rw [H1.out]
        replace ht := below_then ht hb ht.size
        replace hA2 := hA2.below hb
        replace hi := hi.below hb
        replace hp := hp.below hb
        clear hb c0 c1 c2 p0 p1
        obtain ⟨c0, c1, c2⟩ := hi.cells3
        obtain ⟨p0, p1⟩ := hp.cells2
        go_wp2_with fail
        refine (l1All_any A n c xs 0 (d + 1) _ (by exact hA2) HX.out (by omega)).mono ?_
        rintro e w2 ⟨rfl, rfl⟩
        rw [H3.out]
        go_wp2
        go_ret
        exact ⟨ret_of (by rw [HP.out]; rfl), ht⟩
      · have HP := Lib.hid (isPl_yes (s := s) h1 h2 h3)
        have H1 := Lib.hid h1
        have H3 := Lib.hid h3
        clear h1 h3 h2 hx
        go_enter Try.func82, Try.ntmps82
        go_wp2_with fail
        refine (isGood_any a b d _).mono ?_
        rintro e w1 ⟨rfl, hb⟩
        rw [H1.out]
        replace ht := below_then ht hb ht.size
        replace hA2 := hA2.below hb
        replace hi := hi.below hb
        replace hp := hp.below hb
        clear hb c0 c1 c2 p0 p1
        obtain ⟨c0, c1, c2⟩ := hi.cells3
        obtain ⟨p0, p1⟩ := hp.cells2
        go_wp2_with fail
        refine (l1All_any A n c xs 0 (d + 1) _ (by exact hA2) HX.out (by omega)).mono ?_
        rintro e w2 ⟨rfl, rfl⟩
        rw [H3.out]
        go_wp2_with fail
        refine (l1Has_any A n c xs s _ (by exact hA2) HX.out hn).mono ?_
        rintro e w3 ⟨rfl, rfl⟩
        go_wp2
        go_ret
        exact ⟨ret_of (by rw [HP.out]; rfl), ht⟩
    · have HP := Lib.hid (isPl_len (b := b) (d := d) (s := s) h2)
      have hd2 : decide ((n : Int) = 2 * a) = false := by rw [← hx]; simpa using h2
      have hq2 : ((n : Int) == 2 * a) = false := by rw [← hx]; simpa using h2
      have H1 := Lib.hid h1
      clear h1 h2 hx
      go_enter Try.func82, Try.ntmps82
      go_wp2_with fail
      refine (isGood_any a b d _).mono ?_
      rintro e w1 ⟨rfl, hb⟩
      rw [H1.out]
      replace ht := below_then ht hb ht.size
      replace hA2 := hA2.below hb
      replace hi := hi.below hb
      replace hp := hp.below hb
      clear hb c0 c1 c2 p0 p1
      obtain ⟨c0, c1, c2⟩ := hi.cells3
      obtain ⟨p0, p1⟩ := hp.cells2
      go_wp2
      go_ret
      exact ⟨ret_of (by rw [HP.out]; rfl), ht⟩

set_option maxHeartbeats 400000 in
theorem specArePlaces_any (a b d : Int) (A : Option Addr) (n c : Nat) (xs : List Int) (s : Int) (w : World) (hA : Holds w A (nums xs)) (hx : xs.length = n) (hn : n ≤ 1048576) :
    Calls Try.prog 43 #[.agg #[.int .i64 a, .int .i64 b, .int .i64 d], .agg #[.slice A n c, .int .i64 s]] w fun e w' => e = .returned (.bool (isPl a b d xs s)) ∧ Below w.heap.size w w' := by
  have HX := Lib.hid hx
  have hA2 := (hA.alloc (.cells #[.int .i64 a, .int .i64 b, .int .i64 d] 59)).alloc (.cells #[.slice A n c, .int .i64 s] 66)
  clear hx
  go_enter Try.func43, Try.ntmps43
  go_wp2_with fail
  refine (isPlaces_any a b d A n c xs s _ hA2 HX.out hn).mono ?_
  rintro e w1 ⟨rfl, hb⟩
  have ht := below_then (below2 w (.cells #[.int .i64 a, .int .i64 b, .int .i64 d] 59) (.cells #[.slice A n c, .int .i64 s] 66)) hb (by simp; omega)
  clear hb
  go_wp2
  go_ret
  exact ⟨rfl, ht⟩

def Box3 (g : Nat) (x y z : Value) (w : World) : Prop := w.cell? ⟨g, 0, none⟩ = some x ∧ w.cell? ⟨g, 1, none⟩ = some y ∧ w.cell? ⟨g, 2, none⟩ = some z
theorem otherBank_any' (a b d : Int) (w : World) (h0 : 0 ≤ d) (h2 : d ≤ 2) :
    Calls Try.prog 87 #[.agg #[.int .i64 a, .int .i64 b, .int .i64 d]] w fun e w' => e = .returned (.int .i64 (d + 1)) ∧ Below w.heap.size w w' := by
  go_enter Try.func87, Try.ntmps87
  go_wp2
  go_ret
  exact ⟨rfl, below1 w _⟩

/-- What whereaboutsOf hands back. -/
def WhPost (a b d : Int) (xs : List Int) (s : Int) (w : World) (e : Ending) (w' : World) : Prop :=
  ((isPl a b d xs s = true ∧ e = .returned (.tuple #[.agg (whOf xs s), .bool true])) ∨ (isPl a b d xs s = false ∧ e = .returned (.tuple #[.agg (whOf [] 0), .bool false]))) ∧ Below w.heap.size w w'
theorem size_int : (Try.prog.info? 3).map (·.size) = some 1 := by kernel_rfl
theorem splice_wh (xs : List Int) (s : Int) (h : xs.length ≤ 6) : splice (whOf [] s).toList 0 (nums xs) = (whOf xs s).toList := by
  match xs, h with
  | [], _ => rfl
  | [_], _ => rfl
  | [_, _], _ => rfl
  | [_, _, _], _ => rfl
  | [_, _, _, _], _ => rfl
  | [_, _, _, _, _], _ => rfl
  | [_, _, _, _, _, _], _ => rfl
  | _ :: _ :: _ :: _ :: _ :: _ :: _ :: _, h => simp at h
theorem set_wh {B g : Nat} {a w : World} {v0 v1 v2 v3 v4 v5 v6 : Value} (h : Below B a w) (hg : B ≤ g) :
    Below B a (((((((w.setCell ⟨g, 0, none⟩ v0).setCell ⟨g, 1, none⟩ v1).setCell ⟨g, 2, none⟩ v2).setCell ⟨g, 3, none⟩ v3).setCell ⟨g, 4, none⟩ v4).setCell ⟨g, 5, none⟩ v5).setCell ⟨g, 6, none⟩ v6) :=
  below_set (below_set (below_set (below_set (below_set (below_set (below_set h hg) hg) hg) hg) hg) hg) hg

set_option maxHeartbeats 6400000 in
set_option maxRecDepth 100000 in
set_option linter.unusedSimpArgs false in
theorem whereaboutsOf_any (a b d : Int) (A : Option Addr) (n c : Nat) (xs : List Int) (s : Int) (w : World) (hA : Holds w A (nums xs)) (hx : xs.length = n) (hn : n ≤ 1048576) :
    Calls Try.prog 83 #[.agg #[.int .i64 a, .int .i64 b, .int .i64 d], .agg #[.slice A n c, .int .i64 s]] w (WhPost a b d xs s w) := by
  have HX := Lib.hid hx
  have hA2 := ((hA.alloc (.cells #[.int .i64 a, .int .i64 b, .int .i64 d] 59)).alloc (.cells #[.slice A n c, .int .i64 s] 66)).alloc (.cells (whOf [] 0) 109)
  have hi := ((Whole.fresh w 59 #[.int .i64 a, .int .i64 b, .int .i64 d]).alloc (.cells #[.slice A n c, .int .i64 s] 66)).alloc (.cells (whOf [] 0) 109)
  have hp := (Whole.fresh (w.alloc (.cells #[.int .i64 a, .int .i64 b, .int .i64 d] 59)) 66 #[.slice A n c, .int .i64 s]).alloc (.cells (whOf [] 0) 109)
  have hz := Whole.fresh ((w.alloc (.cells #[.int .i64 a, .int .i64 b, .int .i64 d] 59)).alloc (.cells #[.slice A n c, .int .i64 s] 66)) 109 (whOf [] 0)
  simp only [World.size_alloc] at hp hz
  have ht := below3 w (.cells #[.int .i64 a, .int .i64 b, .int .i64 d] 59) (.cells #[.slice A n c, .int .i64 s] 66) (.cells (whOf [] 0) 109)
  obtain ⟨c0, c1, c2⟩ := hi.cells3
  obtain ⟨p0, p1⟩ := hp.cells2
  cases h1 : isIsl a b d
  · have HP := Lib.hid (isPl_isl (xs := xs) (s := s) h1)
    have H1 := Lib.hid h1
    clear h1 hx
    go_enter Try.func83, Try.ntmps83
    go_wp2_with fail
    refine (isIsles_any a b d _).mono ?_
    rintro e w1 ⟨rfl, hb⟩
    rw [H1.out]
    replace ht := below_then ht hb ht.size
    replace hA2 := hA2.below hb
    replace hi := hi.below hb
    replace hp := hp.below hb
    replace hz := hz.below hb
    clear hb c0 c1 c2 p0 p1
    obtain ⟨c0, c1, c2⟩ := hi.cells3
    obtain ⟨p0, p1⟩ := hp.cells2
    go_wp2_with (refine wpList_store_whole rfl 109 (.tmp 4) (.tmp 27) rfl (w.heap.size + 1 + 1) (whOf [] 0) rfl rfl 109 (whOf [] 0) hz size_wh rfl (wh_one _ _) ?_; intro w9 hw9 ho9)
    obtain ⟨r0, r1, r2, r3, r4, r5, r6⟩ := wh_cells hw9
    refine bodyPost_ret (v := .tuple #[.agg (whOf [] 0), .bool false]) (by simp [results, Try.results83, go_sem, r0, r1, r2, r3, r4, r5, r6, whOf]) rfl ⟨.inr ⟨HP.out, rfl⟩, ho9.below ht (by omega)⟩
  · have hiff := isIsl_iff.1 h1
    by_cases h2 : (xs.length : Int) = 2 * a
    · have hd2 : ((n : Int) != 2 * a) = false := by rw [← hx]; simpa using h2
      have h0 : 0 < n := by omega
      have hne : xs ≠ [] := by intro h; rw [h] at hx; simp at hx; omega
      have hn6 : n ≤ 6 := by omega
      cases h3 : hasK xs s
      · have HP := Lib.hid (isPl_has (a := a) (b := b) (d := d) h3)
        have H1 := Lib.hid h1
        have H3 := Lib.hid h3
        clear h1 h3 h2 hx
        go_enter Try.func83, Try.ntmps83
        go_wp2_with fail
        refine (isIsles_any a b d _).mono ?_
        rintro e w1 ⟨rfl, hb⟩
        rw [H1.out]
        replace ht := below_then ht hb ht.size
        replace hA2 := hA2.below hb
        replace hi := hi.below hb
        replace hp := hp.below hb
        replace hz := hz.below hb
        clear hb c0 c1 c2 p0 p1
        obtain ⟨c0, c1, c2⟩ := hi.cells3
        obtain ⟨p0, p1⟩ := hp.cells2
        go_wp2_with fail
        refine (containsI_any A n c xs s _ (by exact hA2) HX.out (by omega)).mono ?_
        rintro e w2 ⟨rfl, rfl⟩
        rw [has_any, H3.out]
        go_wp2_with (refine wpList_store_whole rfl 109 (.tmp 4) (.tmp 27) rfl (w.heap.size + 1 + 1) (whOf [] 0) rfl rfl 109 (whOf [] 0) hz size_wh rfl (wh_one _ _) ?_; intro w9 hw9 ho9)
        obtain ⟨r0, r1, r2, r3, r4, r5, r6⟩ := wh_cells hw9
        refine bodyPost_ret (v := .tuple #[.agg (whOf [] 0), .bool false]) (by simp [results, Try.results83, go_sem, r0, r1, r2, r3, r4, r5, r6, whOf]) rfl ⟨.inr ⟨HP.out, rfl⟩, ho9.below ht (by omega)⟩
      · by_cases h4 : leastOf xs < 0
        · have HP := Lib.hid (isPl_low (a := a) (b := b) (d := d) (s := s) hne h4)
          have H1 := Lib.hid h1
          have H3 := Lib.hid h3
          clear h1 h3 h2 hx
          go_enter Try.func83, Try.ntmps83
          go_wp2_with fail
          refine (isIsles_any a b d _).mono ?_
          rintro e w1 ⟨rfl, hb⟩
          rw [H1.out]
          replace ht := below_then ht hb ht.size
          replace hA2 := hA2.below hb
          replace hi := hi.below hb
          replace hp := hp.below hb
          replace hz := hz.below hb
          clear hb c0 c1 c2 p0 p1
          obtain ⟨c0, c1, c2⟩ := hi.cells3
          obtain ⟨p0, p1⟩ := hp.cells2
          go_wp2_with fail
          refine (containsI_any A n c xs s _ (by exact hA2) HX.out (by omega)).mono ?_
          rintro e w2 ⟨rfl, rfl⟩
          rw [has_any, H3.out]
          clear c0 c1 c2 p0 p1
          go_wp2_with fail
          refine wp_region_held_drew (S := (fun w' => Holds w' A (nums xs) ∧ w'.cell? ⟨w.heap.size + 1, 0, none⟩ = some (.slice A n c) ∧ Box3 w.heap.size (.int .i64 a) (.int .i64 b) (.int .i64 d) w')) (by kernel_rfl) ⟨hA2.drew, hp.drew.cell 0, hi.drew.cell 0, hi.drew.cell 1, hi.drew.cell 2⟩ (fun hHeld => ?_)
          replace hA2 := hA2.drew
          replace hi := hi.drew
          replace hp := hp.drew
          replace hz := hz.drew
          replace ht := ht.drew
          have hd4 : decide (leastOf xs < 0) = true := by simp; omega
          refine wpAnyH_take (i := 0) (v := ?_) rfl (by kernel_rfl) (by kernel_rfl) (by kernel_rfl) (fun _ _ _ h => h) (Or.inl ⟨rfl, ?_⟩) hHeld ?_
          rotate_left
          · intro w' hS; obtain ⟨s0, s1, s2, s3, s4⟩ := hS; go_simp <;> with_reducible rfl
          simp only [Act.put, List.getElem_toArray, List.getElem_cons_succ, List.getElem_cons_zero, List.setIfInBounds_toArray, List.set_cons_succ, List.set_cons_zero]
          refine wpAnyH_take (i := 1) (v := ?_) rfl (by kernel_rfl) (by kernel_rfl) (by kernel_rfl) (fun _ _ _ h => h) (Or.inl ⟨rfl, ?_⟩) hHeld ?_
          rotate_left
          · intro w' hS; obtain ⟨s0, s1, s2, s3, s4⟩ := hS; go_simp <;> with_reducible rfl
          simp only [Act.put, List.getElem_toArray, List.getElem_cons_succ, List.getElem_cons_zero, List.setIfInBounds_toArray, List.set_cons_succ, List.set_cons_zero]
          refine wpAnyH_ready (rs := [2]) (by kernel_rfl) (by simp) (AllReadyH.cons rfl (fun K hK => ?_) AllReadyH.nil)
          go_simp
          refine (sliceMin_any A n c xs _ (by exact hA2) HX.out h0 (by omega)).mono ?_
          rintro e w3 ⟨rfl, hw3⟩
          subst hw3
          refine hK.out _ _ ⟨hA2, hp.cell 0, hi.cell 0, hi.cell 1, hi.cell 2⟩ (fun hHeld => ?_)
          clear hK K
          try simp only [Act.put, List.getElem_toArray, List.getElem_cons_succ, List.getElem_cons_zero, List.setIfInBounds_toArray, List.set_cons_succ, List.set_cons_zero]
          refine wpAnyH_take (i := 3) (v := ?_) rfl (by kernel_rfl) (by kernel_rfl) (by kernel_rfl) (fun _ _ _ h => h) (Or.inl ⟨rfl, ?_⟩) hHeld ?_
          rotate_left
          · intro w' hS; obtain ⟨s0, s1, s2, s3, s4⟩ := hS; go_simp <;> with_reducible rfl
          simp only [Act.put, List.getElem_toArray, List.getElem_cons_succ, List.getElem_cons_zero, List.setIfInBounds_toArray, List.set_cons_succ, List.set_cons_zero]
          refine wpAnyH_take (i := 4) (v := ?_) rfl (by kernel_rfl) (by kernel_rfl) (by kernel_rfl) (fun _ _ _ h => h) (Or.inl ⟨rfl, ?_⟩) hHeld ?_
          rotate_left
          · intro w' hS; obtain ⟨s0, s1, s2, s3, s4⟩ := hS; go_simp <;> with_reducible rfl
          simp only [Act.put, List.getElem_toArray, List.getElem_cons_succ, List.getElem_cons_zero, List.setIfInBounds_toArray, List.set_cons_succ, List.set_cons_zero]
          refine wpAnyH_take (i := 5) (v := undef) rfl (by kernel_rfl) (by kernel_rfl) (by kernel_rfl) (fun _ _ _ h => h) (Or.inr ⟨by simp [Region.wanted, yielded], rfl⟩) hHeld ?_
          simp only [Act.put, List.getElem_toArray, List.getElem_cons_succ, List.getElem_cons_zero, List.setIfInBounds_toArray, List.set_cons_succ, List.set_cons_zero]
          refine wpAnyH_take (i := 6) (v := undef) rfl (by kernel_rfl) (by kernel_rfl) (by kernel_rfl) (fun _ _ _ h => h) (Or.inr ⟨by simp [Region.wanted, yielded], rfl⟩) hHeld ?_
          simp only [Act.put, List.getElem_toArray, List.getElem_cons_succ, List.getElem_cons_zero, List.setIfInBounds_toArray, List.set_cons_succ, List.set_cons_zero]
          refine wpAnyH_take (i := 7) (v := undef) rfl (by kernel_rfl) (by kernel_rfl) (by kernel_rfl) (fun _ _ _ h => h) (Or.inr ⟨by simp [Region.wanted, yielded], rfl⟩) hHeld ?_
          simp only [Act.put, List.getElem_toArray, List.getElem_cons_succ, List.getElem_cons_zero, List.setIfInBounds_toArray, List.set_cons_succ, List.set_cons_zero]
          refine wpAnyH_take (i := 8) (v := undef) rfl (by kernel_rfl) (by kernel_rfl) (by kernel_rfl) (fun _ _ _ h => h) (Or.inr ⟨by simp [Region.wanted, yielded], rfl⟩) hHeld ?_
          simp only [Act.put, List.getElem_toArray, List.getElem_cons_succ, List.getElem_cons_zero, List.setIfInBounds_toArray, List.set_cons_succ, List.set_cons_zero]
          refine wpAnyH_take (i := 9) (v := undef) rfl (by kernel_rfl) (by kernel_rfl) (by kernel_rfl) (fun _ _ _ h => h) (Or.inr ⟨by simp [Region.wanted, yielded], rfl⟩) hHeld ?_
          simp only [Act.put, List.getElem_toArray, List.getElem_cons_succ, List.getElem_cons_zero, List.setIfInBounds_toArray, List.set_cons_succ, List.set_cons_zero]
          refine wpAnyH_take (i := 10) (v := undef) rfl (by kernel_rfl) (by kernel_rfl) (by kernel_rfl) (fun _ _ _ h => h) (Or.inr ⟨by simp [Region.wanted, yielded], rfl⟩) hHeld ?_
          simp only [Act.put, List.getElem_toArray, List.getElem_cons_succ, List.getElem_cons_zero, List.setIfInBounds_toArray, List.set_cons_succ, List.set_cons_zero]
          refine wpAnyH_take (i := 11) (v := ?_) rfl (by kernel_rfl) (by kernel_rfl) (by kernel_rfl) (fun _ _ _ h => h) (Or.inl ⟨rfl, ?_⟩) hHeld ?_
          rotate_left
          · intro w' hS; obtain ⟨s0, s1, s2, s3, s4⟩ := hS; go_simp <;> with_reducible rfl
          simp only [Act.put, List.getElem_toArray, List.getElem_cons_succ, List.getElem_cons_zero, List.setIfInBounds_toArray, List.set_cons_succ, List.set_cons_zero]
          refine wpAnyH_done (by kernel_rfl) ?_ _
          clear hHeld
          obtain ⟨c0, c1, c2⟩ := hi.cells3
          obtain ⟨p0, p1⟩ := hp.cells2
          go_wp2_with (refine wpList_store_whole rfl 109 (.tmp 4) (.tmp 40) rfl (w.heap.size + 1 + 1) (whOf [] 0) rfl rfl 109 (whOf [] 0) hz size_wh rfl (wh_one _ _) ?_; intro w9 hw9 ho9)
          obtain ⟨r0, r1, r2, r3, r4, r5, r6⟩ := wh_cells hw9
          refine bodyPost_ret (v := .tuple #[.agg (whOf [] 0), .bool false]) (by simp [results, Try.results83, go_sem, r0, r1, r2, r3, r4, r5, r6, whOf]) rfl ⟨.inr ⟨HP.out, rfl⟩, ho9.below ht (by omega)⟩
        · by_cases h5 : d + 1 < mostOf xs
          · have HP := Lib.hid (isPl_high (a := a) (b := b) (s := s) hne h5)
            have H1 := Lib.hid h1
            have H3 := Lib.hid h3
            clear h1 h3 h2 hx
            go_enter Try.func83, Try.ntmps83
            go_wp2_with fail
            refine (isIsles_any a b d _).mono ?_
            rintro e w1 ⟨rfl, hb⟩
            rw [H1.out]
            replace ht := below_then ht hb ht.size
            replace hA2 := hA2.below hb
            replace hi := hi.below hb
            replace hp := hp.below hb
            replace hz := hz.below hb
            clear hb c0 c1 c2 p0 p1
            obtain ⟨c0, c1, c2⟩ := hi.cells3
            obtain ⟨p0, p1⟩ := hp.cells2
            go_wp2_with fail
            refine (containsI_any A n c xs s _ (by exact hA2) HX.out (by omega)).mono ?_
            rintro e w2 ⟨rfl, rfl⟩
            rw [has_any, H3.out]
            clear c0 c1 c2 p0 p1
            go_wp2_with fail
            refine wp_region_held_drew (S := (fun w' => Holds w' A (nums xs) ∧ w'.cell? ⟨w.heap.size + 1, 0, none⟩ = some (.slice A n c) ∧ Box3 w.heap.size (.int .i64 a) (.int .i64 b) (.int .i64 d) w')) (by kernel_rfl) ⟨hA2.drew, hp.drew.cell 0, hi.drew.cell 0, hi.drew.cell 1, hi.drew.cell 2⟩ (fun hHeld => ?_)
            replace hA2 := hA2.drew
            replace hi := hi.drew
            replace hp := hp.drew
            replace hz := hz.drew
            replace ht := ht.drew
            have hd4 : decide (leastOf xs < 0) = false := by simp; omega
            refine wpAnyH_take (i := 0) (v := ?_) rfl (by kernel_rfl) (by kernel_rfl) (by kernel_rfl) (fun _ _ _ h => h) (Or.inl ⟨rfl, ?_⟩) hHeld ?_
            rotate_left
            · intro w' hS; obtain ⟨s0, s1, s2, s3, s4⟩ := hS; go_simp <;> with_reducible rfl
            simp only [Act.put, List.getElem_toArray, List.getElem_cons_succ, List.getElem_cons_zero, List.setIfInBounds_toArray, List.set_cons_succ, List.set_cons_zero]
            refine wpAnyH_take (i := 1) (v := ?_) rfl (by kernel_rfl) (by kernel_rfl) (by kernel_rfl) (fun _ _ _ h => h) (Or.inl ⟨rfl, ?_⟩) hHeld ?_
            rotate_left
            · intro w' hS; obtain ⟨s0, s1, s2, s3, s4⟩ := hS; go_simp <;> with_reducible rfl
            simp only [Act.put, List.getElem_toArray, List.getElem_cons_succ, List.getElem_cons_zero, List.setIfInBounds_toArray, List.set_cons_succ, List.set_cons_zero]
            refine wpAnyH_ready (rs := [2]) (by kernel_rfl) (by simp) (AllReadyH.cons rfl (fun K hK => ?_) AllReadyH.nil)
            go_simp
            refine (sliceMin_any A n c xs _ (by exact hA2) HX.out h0 (by omega)).mono ?_
            rintro e w3 ⟨rfl, hw3⟩
            subst hw3
            refine hK.out _ _ ⟨hA2, hp.cell 0, hi.cell 0, hi.cell 1, hi.cell 2⟩ (fun hHeld => ?_)
            clear hK K
            try simp only [Act.put, List.getElem_toArray, List.getElem_cons_succ, List.getElem_cons_zero, List.setIfInBounds_toArray, List.set_cons_succ, List.set_cons_zero]
            refine wpAnyH_take (i := 3) (v := ?_) rfl (by kernel_rfl) (by kernel_rfl) (by kernel_rfl) (fun _ _ _ h => h) (Or.inl ⟨rfl, ?_⟩) hHeld ?_
            rotate_left
            · intro w' hS; obtain ⟨s0, s1, s2, s3, s4⟩ := hS; go_simp <;> with_reducible rfl
            simp only [Act.put, List.getElem_toArray, List.getElem_cons_succ, List.getElem_cons_zero, List.setIfInBounds_toArray, List.set_cons_succ, List.set_cons_zero]
            refine wpAnyH_take (i := 4) (v := ?_) rfl (by kernel_rfl) (by kernel_rfl) (by kernel_rfl) (fun _ _ _ h => h) (Or.inl ⟨rfl, ?_⟩) hHeld ?_
            rotate_left
            · intro w' hS; obtain ⟨s0, s1, s2, s3, s4⟩ := hS; go_simp <;> with_reducible rfl
            simp only [Act.put, List.getElem_toArray, List.getElem_cons_succ, List.getElem_cons_zero, List.setIfInBounds_toArray, List.set_cons_succ, List.set_cons_zero]
            refine wpAnyH_take (i := 5) (v := ?_) rfl (by kernel_rfl) (by kernel_rfl) (by kernel_rfl) (fun _ _ _ h => h) (Or.inl ⟨rfl, ?_⟩) hHeld ?_
            rotate_left
            · intro w' hS; obtain ⟨s0, s1, s2, s3, s4⟩ := hS; go_simp <;> with_reducible rfl
            simp only [Act.put, List.getElem_toArray, List.getElem_cons_succ, List.getElem_cons_zero, List.setIfInBounds_toArray, List.set_cons_succ, List.set_cons_zero]
            refine wpAnyH_take (i := 6) (v := ?_) rfl (by kernel_rfl) (by kernel_rfl) (by kernel_rfl) (fun _ _ _ h => h) (Or.inl ⟨rfl, ?_⟩) hHeld ?_
            rotate_left
            · intro w' hS; obtain ⟨s0, s1, s2, s3, s4⟩ := hS; go_simp <;> with_reducible rfl
            simp only [Act.put, List.getElem_toArray, List.getElem_cons_succ, List.getElem_cons_zero, List.setIfInBounds_toArray, List.set_cons_succ, List.set_cons_zero]
            refine wpAnyH_take (i := 8) (v := ?_) rfl (by kernel_rfl) (by kernel_rfl) (by kernel_rfl) (fun _ _ _ h => h) (Or.inl ⟨rfl, ?_⟩) hHeld ?_
            rotate_left
            · intro w' hS; obtain ⟨s0, s1, s2, s3, s4⟩ := hS; go_simp <;> with_reducible rfl
            simp only [Act.put, List.getElem_toArray, List.getElem_cons_succ, List.getElem_cons_zero, List.setIfInBounds_toArray, List.set_cons_succ, List.set_cons_zero]
            refine wpAnyH_ready (rs := [7]) (by kernel_rfl) (by simp) (AllReadyH.cons rfl (fun K hK => ?_) AllReadyH.nil)
            go_simp
            refine (sliceMax_any A n c xs _ (by exact hA2) HX.out h0 (by omega)).mono ?_
            rintro e w3 ⟨rfl, hw3⟩
            subst hw3
            refine hK.out _ _ ⟨hA2, hp.cell 0, hi.cell 0, hi.cell 1, hi.cell 2⟩ (fun hHeld => ?_)
            clear hK K
            try simp only [Act.put, List.getElem_toArray, List.getElem_cons_succ, List.getElem_cons_zero, List.setIfInBounds_toArray, List.set_cons_succ, List.set_cons_zero]
            refine wpAnyH_ready (rs := [9]) (by kernel_rfl) (by simp) (AllReadyH.cons rfl (fun K hK => ?_) AllReadyH.nil)
            go_simp
            refine (otherBank_any' a b d _ (by omega) (by omega)).mono ?_
            rintro e w4 ⟨rfl, hb⟩
            replace ht := below_then ht hb ht.size
            replace hA2 := hA2.below hb
            replace hi := hi.below hb
            replace hp := hp.below hb
            replace hz := hz.below hb
            clear hb
            refine hK.out _ _ ⟨hA2, hp.cell 0, hi.cell 0, hi.cell 1, hi.cell 2⟩ (fun hHeld => ?_)
            clear hK K
            try simp only [Act.put, List.getElem_toArray, List.getElem_cons_succ, List.getElem_cons_zero, List.setIfInBounds_toArray, List.set_cons_succ, List.set_cons_zero]
            refine wpAnyH_take (i := 10) (v := ?_) rfl (by kernel_rfl) (by kernel_rfl) (by kernel_rfl) (fun _ _ _ h => h) (Or.inl ⟨rfl, ?_⟩) hHeld ?_
            rotate_left
            · intro w' hS; obtain ⟨s0, s1, s2, s3, s4⟩ := hS; go_simp <;> with_reducible rfl
            simp only [Act.put, List.getElem_toArray, List.getElem_cons_succ, List.getElem_cons_zero, List.setIfInBounds_toArray, List.set_cons_succ, List.set_cons_zero]
            refine wpAnyH_take (i := 11) (v := ?_) rfl (by kernel_rfl) (by kernel_rfl) (by kernel_rfl) (fun _ _ _ h => h) (Or.inl ⟨rfl, ?_⟩) hHeld ?_
            rotate_left
            · intro w' hS; obtain ⟨s0, s1, s2, s3, s4⟩ := hS; go_simp <;> with_reducible rfl
            simp only [Act.put, List.getElem_toArray, List.getElem_cons_succ, List.getElem_cons_zero, List.setIfInBounds_toArray, List.set_cons_succ, List.set_cons_zero]
            refine wpAnyH_done (by kernel_rfl) ?_ _
            clear hHeld
            obtain ⟨c0, c1, c2⟩ := hi.cells3
            obtain ⟨p0, p1⟩ := hp.cells2
            have hd5 : decide (d + 1 < mostOf xs) = true := by simp; omega
            go_wp2_with (refine wpList_store_whole rfl 109 (.tmp 4) (.tmp 40) rfl (w.heap.size + 1 + 1) (whOf [] 0) rfl rfl 109 (whOf [] 0) hz size_wh rfl (wh_one _ _) ?_; intro w9 hw9 ho9)
            obtain ⟨r0, r1, r2, r3, r4, r5, r6⟩ := wh_cells hw9
            refine bodyPost_ret (v := .tuple #[.agg (whOf [] 0), .bool false]) (by simp [results, Try.results83, go_sem, r0, r1, r2, r3, r4, r5, r6, whOf]) rfl ⟨.inr ⟨HP.out, rfl⟩, ho9.below ht (by omega)⟩
          · have HP := Lib.hid (isPl_all hne h1 h2 h3 (by omega) (by omega))
            have H1 := Lib.hid h1
            have H3 := Lib.hid h3
            clear h1 h3 h2 hx
            go_enter Try.func83, Try.ntmps83
            go_wp2_with fail
            refine (isIsles_any a b d _).mono ?_
            rintro e w1 ⟨rfl, hb⟩
            rw [H1.out]
            replace ht := below_then ht hb ht.size
            replace hA2 := hA2.below hb
            replace hi := hi.below hb
            replace hp := hp.below hb
            replace hz := hz.below hb
            clear hb c0 c1 c2 p0 p1
            obtain ⟨c0, c1, c2⟩ := hi.cells3
            obtain ⟨p0, p1⟩ := hp.cells2
            go_wp2_with fail
            refine (containsI_any A n c xs s _ (by exact hA2) HX.out (by omega)).mono ?_
            rintro e w2 ⟨rfl, rfl⟩
            rw [has_any, H3.out]
            clear c0 c1 c2 p0 p1
            go_wp2_with fail
            refine wp_region_held_drew (S := (fun w' => Holds w' A (nums xs) ∧ w'.cell? ⟨w.heap.size + 1, 0, none⟩ = some (.slice A n c) ∧ Box3 w.heap.size (.int .i64 a) (.int .i64 b) (.int .i64 d) w')) (by kernel_rfl) ⟨hA2.drew, hp.drew.cell 0, hi.drew.cell 0, hi.drew.cell 1, hi.drew.cell 2⟩ (fun hHeld => ?_)
            replace hA2 := hA2.drew
            replace hi := hi.drew
            replace hp := hp.drew
            replace hz := hz.drew
            replace ht := ht.drew
            have hd4 : decide (leastOf xs < 0) = false := by simp; omega
            refine wpAnyH_take (i := 0) (v := ?_) rfl (by kernel_rfl) (by kernel_rfl) (by kernel_rfl) (fun _ _ _ h => h) (Or.inl ⟨rfl, ?_⟩) hHeld ?_
            rotate_left
            · intro w' hS; obtain ⟨s0, s1, s2, s3, s4⟩ := hS; go_simp <;> with_reducible rfl
            simp only [Act.put, List.getElem_toArray, List.getElem_cons_succ, List.getElem_cons_zero, List.setIfInBounds_toArray, List.set_cons_succ, List.set_cons_zero]
            refine wpAnyH_take (i := 1) (v := ?_) rfl (by kernel_rfl) (by kernel_rfl) (by kernel_rfl) (fun _ _ _ h => h) (Or.inl ⟨rfl, ?_⟩) hHeld ?_
            rotate_left
            · intro w' hS; obtain ⟨s0, s1, s2, s3, s4⟩ := hS; go_simp <;> with_reducible rfl
            simp only [Act.put, List.getElem_toArray, List.getElem_cons_succ, List.getElem_cons_zero, List.setIfInBounds_toArray, List.set_cons_succ, List.set_cons_zero]
            refine wpAnyH_ready (rs := [2]) (by kernel_rfl) (by simp) (AllReadyH.cons rfl (fun K hK => ?_) AllReadyH.nil)
            go_simp
            refine (sliceMin_any A n c xs _ (by exact hA2) HX.out h0 (by omega)).mono ?_
            rintro e w3 ⟨rfl, hw3⟩
            subst hw3
            refine hK.out _ _ ⟨hA2, hp.cell 0, hi.cell 0, hi.cell 1, hi.cell 2⟩ (fun hHeld => ?_)
            clear hK K
            try simp only [Act.put, List.getElem_toArray, List.getElem_cons_succ, List.getElem_cons_zero, List.setIfInBounds_toArray, List.set_cons_succ, List.set_cons_zero]
            refine wpAnyH_take (i := 3) (v := ?_) rfl (by kernel_rfl) (by kernel_rfl) (by kernel_rfl) (fun _ _ _ h => h) (Or.inl ⟨rfl, ?_⟩) hHeld ?_
            rotate_left
            · intro w' hS; obtain ⟨s0, s1, s2, s3, s4⟩ := hS; go_simp <;> with_reducible rfl
            simp only [Act.put, List.getElem_toArray, List.getElem_cons_succ, List.getElem_cons_zero, List.setIfInBounds_toArray, List.set_cons_succ, List.set_cons_zero]
            refine wpAnyH_take (i := 4) (v := ?_) rfl (by kernel_rfl) (by kernel_rfl) (by kernel_rfl) (fun _ _ _ h => h) (Or.inl ⟨rfl, ?_⟩) hHeld ?_
            rotate_left
            · intro w' hS; obtain ⟨s0, s1, s2, s3, s4⟩ := hS; go_simp <;> with_reducible rfl
            simp only [Act.put, List.getElem_toArray, List.getElem_cons_succ, List.getElem_cons_zero, List.setIfInBounds_toArray, List.set_cons_succ, List.set_cons_zero]
            refine wpAnyH_take (i := 5) (v := ?_) rfl (by kernel_rfl) (by kernel_rfl) (by kernel_rfl) (fun _ _ _ h => h) (Or.inl ⟨rfl, ?_⟩) hHeld ?_
            rotate_left
            · intro w' hS; obtain ⟨s0, s1, s2, s3, s4⟩ := hS; go_simp <;> with_reducible rfl
            simp only [Act.put, List.getElem_toArray, List.getElem_cons_succ, List.getElem_cons_zero, List.setIfInBounds_toArray, List.set_cons_succ, List.set_cons_zero]
            refine wpAnyH_take (i := 6) (v := ?_) rfl (by kernel_rfl) (by kernel_rfl) (by kernel_rfl) (fun _ _ _ h => h) (Or.inl ⟨rfl, ?_⟩) hHeld ?_
            rotate_left
            · intro w' hS; obtain ⟨s0, s1, s2, s3, s4⟩ := hS; go_simp <;> with_reducible rfl
            simp only [Act.put, List.getElem_toArray, List.getElem_cons_succ, List.getElem_cons_zero, List.setIfInBounds_toArray, List.set_cons_succ, List.set_cons_zero]
            refine wpAnyH_take (i := 8) (v := ?_) rfl (by kernel_rfl) (by kernel_rfl) (by kernel_rfl) (fun _ _ _ h => h) (Or.inl ⟨rfl, ?_⟩) hHeld ?_
            rotate_left
            · intro w' hS; obtain ⟨s0, s1, s2, s3, s4⟩ := hS; go_simp <;> with_reducible rfl
            simp only [Act.put, List.getElem_toArray, List.getElem_cons_succ, List.getElem_cons_zero, List.setIfInBounds_toArray, List.set_cons_succ, List.set_cons_zero]
            refine wpAnyH_ready (rs := [7]) (by kernel_rfl) (by simp) (AllReadyH.cons rfl (fun K hK => ?_) AllReadyH.nil)
            go_simp
            refine (sliceMax_any A n c xs _ (by exact hA2) HX.out h0 (by omega)).mono ?_
            rintro e w3 ⟨rfl, hw3⟩
            subst hw3
            refine hK.out _ _ ⟨hA2, hp.cell 0, hi.cell 0, hi.cell 1, hi.cell 2⟩ (fun hHeld => ?_)
            clear hK K
            try simp only [Act.put, List.getElem_toArray, List.getElem_cons_succ, List.getElem_cons_zero, List.setIfInBounds_toArray, List.set_cons_succ, List.set_cons_zero]
            refine wpAnyH_ready (rs := [9]) (by kernel_rfl) (by simp) (AllReadyH.cons rfl (fun K hK => ?_) AllReadyH.nil)
            go_simp
            refine (otherBank_any' a b d _ (by omega) (by omega)).mono ?_
            rintro e w4 ⟨rfl, hb⟩
            replace ht := below_then ht hb ht.size
            replace hA2 := hA2.below hb
            replace hi := hi.below hb
            replace hp := hp.below hb
            replace hz := hz.below hb
            clear hb
            refine hK.out _ _ ⟨hA2, hp.cell 0, hi.cell 0, hi.cell 1, hi.cell 2⟩ (fun hHeld => ?_)
            clear hK K
            try simp only [Act.put, List.getElem_toArray, List.getElem_cons_succ, List.getElem_cons_zero, List.setIfInBounds_toArray, List.set_cons_succ, List.set_cons_zero]
            refine wpAnyH_take (i := 10) (v := ?_) rfl (by kernel_rfl) (by kernel_rfl) (by kernel_rfl) (fun _ _ _ h => h) (Or.inl ⟨rfl, ?_⟩) hHeld ?_
            rotate_left
            · intro w' hS; obtain ⟨s0, s1, s2, s3, s4⟩ := hS; go_simp <;> with_reducible rfl
            simp only [Act.put, List.getElem_toArray, List.getElem_cons_succ, List.getElem_cons_zero, List.setIfInBounds_toArray, List.set_cons_succ, List.set_cons_zero]
            refine wpAnyH_take (i := 11) (v := ?_) rfl (by kernel_rfl) (by kernel_rfl) (by kernel_rfl) (fun _ _ _ h => h) (Or.inl ⟨rfl, ?_⟩) hHeld ?_
            rotate_left
            · intro w' hS; obtain ⟨s0, s1, s2, s3, s4⟩ := hS; go_simp <;> with_reducible rfl
            simp only [Act.put, List.getElem_toArray, List.getElem_cons_succ, List.getElem_cons_zero, List.setIfInBounds_toArray, List.set_cons_succ, List.set_cons_zero]
            refine wpAnyH_done (by kernel_rfl) ?_ _
            clear hHeld
            obtain ⟨c0, c1, c2⟩ := hi.cells3
            obtain ⟨p0, p1⟩ := hp.cells2
            have hd5 : decide (d + 1 < mostOf xs) = false := by simp; omega
            have hpl := hp.lt
            have hzl := hz.lt
            have hsz4 := ht.size
            go_wp2
            have hblk : Whole (w4.alloc (.cells #[.int .i64 0, .int .i64 0, .int .i64 0, .int .i64 0, .int .i64 0, .int .i64 0, .int .i64 s] 109)) w4.heap.size 109 (whOf [] s) := Whole.fresh w4 109 (whOf [] s)
            have hfar := hA2.alloc (.cells #[.int .i64 0, .int .i64 0, .int .i64 0, .int .i64 0, .int .i64 0, .int .i64 0, .int .i64 s] 109)
            have hb3 := below1 w4 (.cells #[.int .i64 0, .int .i64 0, .int .i64 0, .int .i64 0, .int .i64 0, .int .i64 0, .int .i64 s] 109)
            have hsrc : 0 < (nums xs).length → (some ⟨w4.heap.size, 0, none⟩ : Option Addr) = some ⟨w4.heap.size, 0, none⟩ ∧ ∃ ad : Addr, A = some ad ∧ ∀ j v, (nums xs)[j]? = some v → (w4.alloc (.cells #[.int .i64 0, .int .i64 0, .int .i64 0, .int .i64 0, .int .i64 0, .int .i64 0, .int .i64 s] 109)).cell? (ad.add j) = some v := by
              intro h0
              refine ⟨rfl, ?_⟩
              rcases hfar with h | ⟨b, o, hA, hb, hc⟩
              · rw [h] at h0; simp at h0
              · exact ⟨_, hA, fun j v hv => by rw [show (⟨b, o, none⟩ : Addr).add j = ⟨b, o + j, none⟩ from by unfold Addr.add; split <;> simp_all]; exact hc j v hv⟩
            have HSRC := Lib.hid hsrc
            have HBL := Lib.hid (show (nums xs).length = Nat.min n 6 by rw [nums_len, HX.out]; exact (Nat.min_eq_left hn6).symm)
            have HONE := Lib.hid (nums_one xs)
            have HFIT := Lib.hid (show 0 + (nums xs).length ≤ (whOf [] s).toList.length by rw [nums_len, HX.out]; show 0 + n ≤ 7; omega)
            have HT4 := Lib.hid ht
            clear hsrc hfar ht
            go_region_law (refine step_copy_splice rfl (.tmp 45) (.tmp 47) 25 25 rfl 3 Try.underlying25 size_int (some ⟨w4.heap.size, 0, none⟩) A 6 6 n c (by simp [Act.eval]) (by simp [Act.eval]) w4.heap.size 0 (whOf [] s).toList 109 (by exact hblk.drew) (nums xs) HBL.out (by exact HSRC.out) HFIT.out HONE.out w4.heap.size _ (by exact hb3.drew) (Nat.le_refl _) ?_; intro w' hw' hb')
            have hq : Whole w' w4.heap.size 109 (whOf xs s) := by
              have h := hw'.out
              rw [splice_wh xs s (by rw [HX.out]; exact hn6)] at h
              exact h
            have hr := hz.below' hb' (by omega)
            have hbw : Below w.heap.size w w' := below_then HT4.out (by simpa using hb') (by omega)
            go_wp2_with (first | (refine wpList_load_row rfl 109 (.tmp 6) rfl w4.heap.size rfl 109 (whOf xs s) (0, 0) _ hq Try.underlying109 rfl size_wh ?_) | (refine wpList_store_whole rfl 109 (.tmp 4) (.tmp 49) rfl (w.heap.size + 1 + 1) (whOf xs s) rfl rfl 109 _ hr size_wh rfl (wh_one _ _) ?_; intro w9 hw9 ho9))
            obtain ⟨r0, r1, r2, r3, r4, r5, r6⟩ := wh_cells hw9
            refine bodyPost_ret (v := .tuple #[.agg (whOf xs s), .bool true]) (by simp [results, Try.results83, go_sem, r0, r1, r2, r3, r4, r5, r6, whOf]) rfl ⟨.inl ⟨HP.out, rfl⟩, ho9.below hbw (by omega)⟩
    · have HP := Lib.hid (isPl_len (b := b) (d := d) (s := s) h2)
      have hd2 : ((n : Int) != 2 * a) = true := by rw [← hx]; simpa using h2
      have H1 := Lib.hid h1
      clear h1 h2 hx
      go_enter Try.func83, Try.ntmps83
      go_wp2_with fail
      refine (isIsles_any a b d _).mono ?_
      rintro e w1 ⟨rfl, hb⟩
      rw [H1.out]
      replace ht := below_then ht hb ht.size
      replace hA2 := hA2.below hb
      replace hi := hi.below hb
      replace hp := hp.below hb
      replace hz := hz.below hb
      clear hb c0 c1 c2 p0 p1
      obtain ⟨c0, c1, c2⟩ := hi.cells3
      obtain ⟨p0, p1⟩ := hp.cells2
      go_wp2_with (refine wpList_store_whole rfl 109 (.tmp 4) (.tmp 27) rfl (w.heap.size + 1 + 1) (whOf [] 0) rfl rfl 109 (whOf [] 0) hz size_wh rfl (wh_one _ _) ?_; intro w9 hw9 ho9)
      obtain ⟨r0, r1, r2, r3, r4, r5, r6⟩ := wh_cells hw9
      refine bodyPost_ret (v := .tuple #[.agg (whOf [] 0), .bool false]) (by simp [results, Try.results83, go_sem, r0, r1, r2, r3, r4, r5, r6, whOf]) rfl ⟨.inr ⟨HP.out, rfl⟩, ho9.below ht (by omega)⟩

set_option maxHeartbeats 1600000 in
theorem implArePlaces_any (a b d : Int) (A : Option Addr) (n c : Nat) (xs : List Int) (s : Int) (w : World) (hA : Holds w A (nums xs)) (hx : xs.length = n) (hn : n ≤ 1048576) :
    Calls Try.prog 45 #[.agg #[.int .i64 a, .int .i64 b, .int .i64 d], .agg #[.slice A n c, .int .i64 s]] w fun e w' => e = .returned (.bool (isPl a b d xs s)) ∧ Below w.heap.size w w' := by
  have HX := Lib.hid hx
  have hA2 := (hA.alloc (.cells #[.int .i64 a, .int .i64 b, .int .i64 d] 59)).alloc (.cells #[.slice A n c, .int .i64 s] 66)
  have ht := below2 w (.cells #[.int .i64 a, .int .i64 b, .int .i64 d] 59) (.cells #[.slice A n c, .int .i64 s] 66)
  go_enter Try.func45, Try.ntmps45
  go_wp2_with fail
  refine (whereaboutsOf_any a b d A n c xs s _ (by exact hA2) HX.out hn).mono ?_
  rintro e w1 ⟨⟨hp, rfl⟩ | ⟨hp, rfl⟩, hb⟩
  · have HP := Lib.hid hp
    have HT := Lib.hid ((below_then ht hb ht.size).alloc (below_then ht hb ht.size).size (.cells (whOf xs s) 109))
    clear hp hb hA2 ht hx
    unfold whOf at HT
    unfold whOf
    go_wp2
    go_ret
    exact ⟨ret_of (by rw [HP.out]; rfl), HT.out⟩
  · have HP := Lib.hid hp
    have HT := Lib.hid ((below_then ht hb ht.size).alloc (below_then ht hb ht.size).size (.cells (whOf [] 0) 109))
    clear hp hb hA2 ht hx
    unfold whOf at HT
    unfold whOf
    go_wp2
    go_ret
    exact ⟨ret_of (by rw [HP.out]; rfl), HT.out⟩
end Go.Proofs.Ytjkiclhihhhpmaa

namespace Go.Proofs.Ytjkiclhihhhpmaa
open Go.RowKit

set_option maxHeartbeats 400000 in
theorem szPlaces_any (A : Option Addr) (n c : Nat) (s l : Int) (w : World) (hn : n ≤ 9223372036854775807) (h0 : 0 ≤ l) (h1 : l ≤ 1048576) :
    Calls Try.prog 42 #[.agg #[.slice A n c, .int .i64 s], .int .i64 l] w fun e w' => e = .returned (.int .i64 (if l < n then -1 else l - n)) ∧ Below w.heap.size w w' := by
  by_cases h : l < n
  all_goals
    go_enter Try.func42, Try.ntmps42
    go_wp2_with fail
    refine (szIntS_any A n c l _ hn h0 h1).mono ?_
    rintro e w' ⟨rfl, rfl⟩
    first | rw [if_pos (by assumption)] | rw [if_neg (by omega)]
    go_wp2
    go_ret
    exact ⟨rfl, (Below.refl _ _).alloc (Nat.le_refl _) _⟩

set_option maxHeartbeats 400000 in
theorem toPlaces_any (A : Option Addr) (n c : Nat) (xs : List Int) (s : Int) (w : World) (hA : Holds w A (nums xs)) (hx : xs.length = n) (hn : n ≤ 1048576) :
    Calls Try.prog 44 #[.agg #[.slice A n c, .int .i64 s]] w fun e w' => e = .returned (.agg #[.slice (some ⟨w.heap.size + 1 + 1 + 1, 0, none⟩) n n, .int .i64 s]) ∧ Whole w' (w.heap.size + 1 + 1 + 1) 3 (nums xs).toArray ∧ Below w.heap.size w w' := by
  have HX := Lib.hid hx
  clear hx
  go_enter Try.func44, Try.ntmps44
  go_wp2_with fail
  refine (toIntS_any A n c xs _ (((hA.alloc _).alloc _).alloc _) HX.out hn).mono ?_
  rintro e w1 ⟨rfl, hw, hb, hs⟩
  obtain ⟨hc, hf⟩ := kept hb
  have HS := Lib.hid hs
  have hz : w.heap.size + 3 < w1.heap.size := by have := HS.out; simp at this; omega
  clear hs
  have hw' : Whole w1 (w.heap.size + 1 + 1 + 1) 3 (nums xs).toArray := by simpa using hw
  have hb' : Below w.heap.size w w1 := below_then (below3 w _ _ _) hb (by simp; omega)
  clear hw
  go_wp2
  refine bodyPost_ret (v := .agg #[.slice (some ⟨w.heap.size + 1 + 1 + 1, 0, none⟩) n n, .int .i64 s]) (by simp [results, Try.results44, go_sem, hc]) rfl ⟨rfl, ?_, ?_⟩
  · exact (((hw'.off (by omega)).off (by omega)).off (by omega)).off (by omega)
  · exact below_set (below_set (below_set (below_set hb' (by omega)) (by omega)) (by omega)) (by omega)

/-- The same, the new row's block told by a letter. -/
theorem toPlaces_own (A : Option Addr) (n c : Nat) (xs : List Int) (s : Int) (w : World) (hA : Holds w A (nums xs)) (hx : xs.length = n) (hn : n ≤ 1048576) :
    Calls Try.prog 44 #[.agg #[.slice A n c, .int .i64 s]] w fun e w' => ∃ g, e = .returned (.agg #[.slice (some ⟨g, 0, none⟩) n n, .int .i64 s]) ∧ w.heap.size ≤ g ∧ Whole w' g 3 (nums xs).toArray ∧ Below w.heap.size w w' :=
  (toPlaces_any A n c xs s w hA hx hn).mono fun _ _ ⟨he, hw, hb⟩ => ⟨_, he, by omega, hw, hb⟩

set_option maxHeartbeats 400000 in
theorem eqPlaces_any (A B : Option Addr) (n m c d : Nat) (xs ys : List Int) (s t : Int) (w : World) (hA : Holds w A (nums xs)) (hB : Holds w B (nums ys)) (hx : xs.length = n) (hy : ys.length = m)
    (hn : n ≤ 9223372036854775807) (hm : m ≤ 9223372036854775807) :
    Calls Try.prog 46 #[.agg #[.slice A n c, .int .i64 s], .agg #[.slice B m d, .int .i64 t]] w fun e w' => e = .returned (.bool (sameInts xs ys && s == t)) ∧ Below w.heap.size w w' := by
  have HX := Lib.hid hx
  have HY := Lib.hid hy
  clear hx hy
  rcases (inferInstance : Decidable (s = t)) with hst | hst
  all_goals
    have hst1 : (s != t) = !decide (s = t) := by simp [bne, hst]
    simp only [hst, decide_false, decide_true, Bool.not_false, Bool.not_true] at hst1
    cases he : sameInts xs ys
  all_goals
    have HE := Lib.hid he
    clear he
    go_enter Try.func46, Try.ntmps46
    go_wp2_with fail
    refine (eqIntS_any A B n m c d xs ys _ ((hA.alloc _).alloc _) ((hB.alloc _).alloc _) HX.out HY.out hn hm).mono ?_
    rintro e w1 ⟨rfl, k, rfl⟩
    rw [HE.out]
    go_wp2
    go_ret
    exact ⟨ret_of (by simp_all), below_draws (below2 w _ _) k⟩

/-- Two parties of one reading are the same. -/
theorem eqPlaces_yes (A B : Option Addr) (n c d : Nat) (xs : List Int) (s : Int) (w : World) (hA : Holds w A (nums xs)) (hB : Holds w B (nums xs)) (hx : xs.length = n) (hn : n ≤ 9223372036854775807) :
    Calls Try.prog 46 #[.agg #[.slice A n c, .int .i64 s], .agg #[.slice B n d, .int .i64 s]] w fun e w' => e = .returned (.bool true) ∧ Below w.heap.size w w' :=
  (eqPlaces_any A B n n c d xs xs s s w hA hB hx hx hn hn).mono fun _ _ ⟨he, hb⟩ => ⟨by rw [he, sameInts_yes rfl]; simp, hb⟩

set_option maxHeartbeats 400000 in
theorem markPlaces_any (A : Option Addr) (n c lo hi : Nat) (xs : List Value) (s q : Int) (w : World) (hf : Fresh w lo hi 3 A xs) (hx : xs.length = n) (h0 : 0 ≤ q) (h1 : q ≤ 4611686018427387904) (hn : n ≤ 1048576) :
    Calls Try.prog 49 #[.agg #[.slice A n c, .int .i64 s], .int .i64 q] w fun e w' => e = .returned (.int .i64 (q + n)) ∧ Span lo hi w w' ∧ Fresh w' lo hi 3 A (nums (marksI q n)) := by
  have HX := Lib.hid hx
  clear hx
  go_enter Try.func49, Try.ntmps49
  go_wp2_with fail
  refine (markIntS_any A n c lo hi xs q _ (hf.alloc _) HX.out h0 h1 hn).mono ?_
  rintro e w1 ⟨rfl, hs, hf1⟩
  go_wp2
  go_ret
  exact ⟨rfl, (Span.of_below (below1 w _) lo hi).trans hs, hf1⟩

set_option maxHeartbeats 400000 in
theorem heldPlaces_any (A : Option Addr) (n c : Nat) (s q : Int) (w : World) (hA : Holds w A (nums (marksI q n))) (h0 : 0 ≤ q) (h1 : q ≤ 4611686018427387904) (hn : n ≤ 1048576) :
    Calls Try.prog 50 #[.agg #[.slice A n c, .int .i64 s], .int .i64 q] w fun e w' => e = .returned (.int .i64 (q + n)) ∧ Below w.heap.size w w' := by
  have hq0 : (0 : Int) ≤ q + n := by omega
  go_enter Try.func50, Try.ntmps50
  go_wp2_with fail
  refine (heldIntS_any A n c q _ (hA.alloc _) h0 h1 hn).mono ?_
  rintro e w1 ⟨rfl, rfl⟩
  go_wp2
  go_ret
  exact ⟨rfl, below1 w _⟩
end Go.Proofs.Ytjkiclhihhhpmaa

namespace Go.Proofs.Ytjkiclhihhhpmaa
open Go.RowKit

set_option maxHeartbeats 800000 in
set_option linter.unusedVariables false in
theorem lawArePlaces_big0 (k0 : Int) (k1 : Int) (k2 : Int) (A0 : Option Addr) (n0 c0 : Nat) (x0 : List Int) (k3 : Int) (w : World) (h0 : Holds w A0 (nums x0)) (hx0 : x0.length = n0) (hn0 : n0 ≤ 9223372036854775807)  (hbig : 1048576 - (n0 : Int) < 0) :
    Calls Try.prog 9 #[.agg #[.int .i64 k0, .int .i64 k1, .int .i64 k2], .agg #[.slice A0 n0 c0, .int .i64 k3]] w fun e w' => e = .returned (.bool true) ∧ Below w.heap.size w w' := by
  have hb0 := ((Whole.fresh w 57 #[.int .i64 k0, .int .i64 k1, .int .i64 k2]).alloc (.cells #[.slice A0 n0 c0, .int .i64 k3] 63))
  have hb1 := (Whole.fresh (w.alloc (.cells #[.int .i64 k0, .int .i64 k1, .int .i64 k2] 57)) 63 #[.slice A0 n0 c0, .int .i64 k3])
  simp only [World.size_alloc] at hb1
  have ht := below2 w (.cells #[.int .i64 k0, .int .i64 k1, .int .i64 k2] 57) (.cells #[.slice A0 n0 c0, .int .i64 k3] 63)
  have HX0 := Lib.hid hx0
  clear hx0
  obtain ⟨hb0_0, hb0_1, hb0_2⟩ := hb0.cells3
  have hb0_l := hb0.lt
  obtain ⟨hb1_0, hb1_1⟩ := hb1.cells2
  have hb1_l := hb1.lt
  go_enter Try.func9, Try.ntmps9
  go_wp2_with fail
  refine (szPlaces_any A0 n0 c0 k3 (1048576) _ (by omega) (by omega) (by omega)).mono ?_
  rintro e v1 ⟨rfl, hb⟩
  rw [if_pos (by omega)]
  have hz1 : w.heap.size + 1 + 1 ≤ v1.heap.size := by have := hb.size; simpa using this
  replace ht := below_then ht hb ht.size
  replace hb0 := hb0.below hb
  replace hb1 := hb1.below hb
  clear hb
  clear hb0_0 hb0_1 hb0_2 hb0_l hb1_0 hb1_1 hb1_l
  go_wp2
  go_ret
  exact ⟨rfl, ht⟩

set_option maxHeartbeats 12800000 in
set_option maxRecDepth 100000 in
set_option linter.unusedSimpArgs false in
set_option linter.unusedVariables false in
theorem lawArePlaces_small (k0 : Int) (k1 : Int) (k2 : Int) (A0 : Option Addr) (n0 c0 : Nat) (x0 : List Int) (k3 : Int) (w : World) (h0 : Holds w A0 (nums x0)) (hx0 : x0.length = n0) (hn0 : n0 ≤ 9223372036854775807) (g0 : 0 ≤ 1048576 - (n0 : Int)) :
    Calls Try.prog 9 #[.agg #[.int .i64 k0, .int .i64 k1, .int .i64 k2], .agg #[.slice A0 n0 c0, .int .i64 k3]] w fun e w' => e = .returned (.bool true) ∧ Below w.heap.size w w' := by
  have hb0 := ((Whole.fresh w 57 #[.int .i64 k0, .int .i64 k1, .int .i64 k2]).alloc (.cells #[.slice A0 n0 c0, .int .i64 k3] 63))
  have hb1 := (Whole.fresh (w.alloc (.cells #[.int .i64 k0, .int .i64 k1, .int .i64 k2] 57)) 63 #[.slice A0 n0 c0, .int .i64 k3])
  simp only [World.size_alloc] at hb1
  have ht := below2 w (.cells #[.int .i64 k0, .int .i64 k1, .int .i64 k2] 57) (.cells #[.slice A0 n0 c0, .int .i64 k3] 63)
  have HX0 := Lib.hid hx0
  clear hx0
  obtain ⟨hb0_0, hb0_1, hb0_2⟩ := hb0.cells3
  have hb0_l := hb0.lt
  obtain ⟨hb1_0, hb1_1⟩ := hb1.cells2
  have hb1_l := hb1.lt
  go_enter Try.func9, Try.ntmps9
  -- region 2
  go_wp2_with fail
  refine (szPlaces_any A0 n0 c0 k3 (1048576) _ (by omega) (by omega) (by omega)).mono ?_
  rintro e v1 ⟨rfl, hb⟩
  rw [if_neg (by omega)]
  have hz1 : w.heap.size + 1 + 1 ≤ v1.heap.size := by have := hb.size; simpa using this
  replace ht := below_then ht hb ht.size
  replace hb0 := hb0.below hb
  replace hb1 := hb1.below hb
  clear hb
  clear hb0_0 hb0_1 hb0_2 hb0_l hb1_0 hb1_1 hb1_l
  obtain ⟨hb0_0, hb0_1, hb0_2⟩ := hb0.cells3
  have hb0_l := hb0.lt
  obtain ⟨hb1_0, hb1_1⟩ := hb1.cells2
  have hb1_l := hb1.lt
  -- region 5
  clear hb0_0 hb0_1 hb0_2 hb0_l hb1_0 hb1_1 hb1_l
  go_wp2_with fail
  refine wp_region_held_drew (S := (fun w' => w'.cell? ⟨w.heap.size, 0, none⟩ = some (.int .i64 k0) ∧ w'.cell? ⟨w.heap.size, 1, none⟩ = some (.int .i64 k1) ∧ w'.cell? ⟨w.heap.size, 2, none⟩ = some (.int .i64 k2) ∧ w'.cell? ⟨w.heap.size + 1, 0, none⟩ = some (.slice A0 n0 c0) ∧ w'.cell? ⟨w.heap.size + 1, 1, none⟩ = some (.int .i64 k3))) (by kernel_rfl) ⟨hb0.drew.cell 0, hb0.drew.cell 1, hb0.drew.cell 2, hb1.drew.cell 0, hb1.drew.cell 1⟩ (fun hHeld => ?_)
  replace ht := ht.drew
  replace hb0 := hb0.drew
  replace hb1 := hb1.drew
  refine wpAnyH_take (i := 0) (v := ?_) rfl (by kernel_rfl) (by kernel_rfl) (by kernel_rfl) (fun _ _ _ h => h) (Or.inl ⟨rfl, ?_⟩) hHeld ?_
  rotate_left
  · intro w' hS; obtain ⟨s0, s1, s2, s3, s4⟩ := hS; go_simp <;> with_reducible rfl
  simp only [Act.put, List.getElem_toArray, List.getElem_cons_succ, List.getElem_cons_zero, List.setIfInBounds_toArray, List.set_cons_succ, List.set_cons_zero]
  refine wpAnyH_take (i := 2) (v := ?_) rfl (by kernel_rfl) (by kernel_rfl) (by kernel_rfl) (fun _ _ _ h => h) (Or.inl ⟨rfl, ?_⟩) hHeld ?_
  rotate_left
  · intro w' hS; obtain ⟨s0, s1, s2, s3, s4⟩ := hS; go_simp <;> with_reducible rfl
  simp only [Act.put, List.getElem_toArray, List.getElem_cons_succ, List.getElem_cons_zero, List.setIfInBounds_toArray, List.set_cons_succ, List.set_cons_zero]
  refine wpAnyH_ready (rs := [1]) (by kernel_rfl) (by simp) (AllReadyH.cons rfl (fun K hK => ?_) AllReadyH.nil)
  go_simp
  refine (toIsles_any k0 k1 k2 _).mono ?_
  rintro e v2 ⟨rfl, hb⟩
  have hz2 : v1.heap.size ≤ v2.heap.size := by have := hb.size; simpa using this
  replace ht := below_then ht hb ht.size
  replace hb0 := hb0.below hb
  replace hb1 := hb1.below hb
  clear hb
  refine hK.out _ _ ⟨hb0.cell 0, hb0.cell 1, hb0.cell 2, hb1.cell 0, hb1.cell 1⟩ (fun hHeld => ?_)
  clear hK K
  try simp only [Act.put, List.getElem_toArray, List.getElem_cons_succ, List.getElem_cons_zero, List.setIfInBounds_toArray, List.set_cons_succ, List.set_cons_zero]
  refine wpAnyH_ready (rs := [3]) (by kernel_rfl) (by simp) (AllReadyH.cons rfl (fun K hK => ?_) AllReadyH.nil)
  go_simp
  refine (toPlaces_own A0 n0 c0 x0 k3 _ (by exact h0.below ht) HX0.out (by omega)).mono ?_
  rintro e v3 ⟨gp0, rfl, hgp0, hwp0, hb⟩
  have hz3 : v2.heap.size ≤ v3.heap.size := by have := hb.size; simpa using this
  replace ht := below_then ht hb ht.size
  replace hb0 := hb0.below hb
  replace hb1 := hb1.below hb
  have hp0 := Fresh.of_whole (lo := v2.heap.size) (hi := v3.heap.size) hwp0 (by simpa using hgp0) hwp0.lt
  clear hgp0 hwp0
  clear hb
  refine hK.out _ _ ⟨hb0.cell 0, hb0.cell 1, hb0.cell 2, hb1.cell 0, hb1.cell 1⟩ (fun hHeld => ?_)
  clear hK K
  try simp only [Act.put, List.getElem_toArray, List.getElem_cons_succ, List.getElem_cons_zero, List.setIfInBounds_toArray, List.set_cons_succ, List.set_cons_zero]
  refine wpAnyH_ready (rs := [4]) (by kernel_rfl) (by simp) (AllReadyH.cons rfl (fun K hK => ?_) AllReadyH.nil)
  go_simp
  refine (specArePlaces_any k0 k1 k2 _ n0 _ x0 k3 _ (by exact hp0.holds) HX0.out (by omega)).mono ?_
  rintro e v4 ⟨rfl, hb⟩
  have hz4 : v3.heap.size ≤ v4.heap.size := by have := hb.size; simpa using this
  replace ht := below_then ht hb ht.size
  replace hb0 := hb0.below hb
  replace hb1 := hb1.below hb
  replace hp0 := hp0.below hb
  clear hb
  clear hp0
  refine hK.out _ _ ⟨hb0.cell 0, hb0.cell 1, hb0.cell 2, hb1.cell 0, hb1.cell 1⟩ (fun hHeld => ?_)
  clear hK K
  try simp only [Act.put, List.getElem_toArray, List.getElem_cons_succ, List.getElem_cons_zero, List.setIfInBounds_toArray, List.set_cons_succ, List.set_cons_zero]
  refine wpAnyH_take (i := 5) (v := ?_) rfl (by kernel_rfl) (by kernel_rfl) (by kernel_rfl) (fun _ _ _ h => h) (Or.inl ⟨rfl, ?_⟩) hHeld ?_
  rotate_left
  · intro w' hS; obtain ⟨s0, s1, s2, s3, s4⟩ := hS; go_simp <;> with_reducible rfl
  simp only [Act.put, List.getElem_toArray, List.getElem_cons_succ, List.getElem_cons_zero, List.setIfInBounds_toArray, List.set_cons_succ, List.set_cons_zero]
  refine wpAnyH_done (by kernel_rfl) ?_ _
  clear hHeld
  obtain ⟨hb0_0, hb0_1, hb0_2⟩ := hb0.cells3
  have hb0_l := hb0.lt
  obtain ⟨hb1_0, hb1_1⟩ := hb1.cells2
  have hb1_l := hb1.lt
  -- region 6
  go_wp2_with fail
  refine (toPlaces_own A0 n0 c0 x0 k3 _ (by exact h0.below ht) HX0.out (by omega)).mono ?_
  rintro e v5 ⟨gx0, rfl, hgx0, hwx0, hb⟩
  have hz5 : v4.heap.size ≤ v5.heap.size := by have := hb.size; simpa using this
  replace ht := below_then ht hb ht.size
  replace hb0 := hb0.below hb
  replace hb1 := hb1.below hb
  have hx0 := Fresh.of_whole (lo := v4.heap.size) (hi := v5.heap.size) hwx0 (by simpa using hgx0) hwx0.lt
  clear hgx0 hwx0
  clear hb
  have hx91 := Whole.fresh v5 66 #[.slice (some ⟨gx0, 0, none⟩) n0 n0, .int .i64 k3]
  replace ht := ht.alloc ht.size (.cells #[.slice (some ⟨gx0, 0, none⟩) n0 n0, .int .i64 k3] 66)
  replace hb0 := hb0.alloc (.cells #[.slice (some ⟨gx0, 0, none⟩) n0 n0, .int .i64 k3] 66)
  replace hb1 := hb1.alloc (.cells #[.slice (some ⟨gx0, 0, none⟩) n0 n0, .int .i64 k3] 66)
  replace hx0 := hx0.alloc (.cells #[.slice (some ⟨gx0, 0, none⟩) n0 n0, .int .i64 k3] 66)
  clear hb0_0 hb0_1 hb0_2 hb0_l hb1_0 hb1_1 hb1_l
  obtain ⟨hb0_0, hb0_1, hb0_2⟩ := hb0.cells3
  have hb0_l := hb0.lt
  obtain ⟨hb1_0, hb1_1⟩ := hb1.cells2
  have hb1_l := hb1.lt
  obtain ⟨hx91_0, hx91_1⟩ := hx91.cells2
  have hx91_l := hx91.lt
  -- region 7
  clear hb0_0 hb0_1 hb0_2 hb0_l hb1_0 hb1_1 hb1_l hx91_0 hx91_1 hx91_l
  go_wp2_with fail
  refine wp_region_held_drew (S := (fun w' => w'.cell? ⟨w.heap.size, 0, none⟩ = some (.int .i64 k0) ∧ w'.cell? ⟨w.heap.size, 1, none⟩ = some (.int .i64 k1) ∧ w'.cell? ⟨w.heap.size, 2, none⟩ = some (.int .i64 k2) ∧ w'.cell? ⟨w.heap.size + 1, 0, none⟩ = some (.slice A0 n0 c0) ∧ w'.cell? ⟨w.heap.size + 1, 1, none⟩ = some (.int .i64 k3) ∧ w'.cell? ⟨v5.heap.size, 0, none⟩ = some (.slice (some ⟨gx0, 0, none⟩) n0 n0) ∧ w'.cell? ⟨v5.heap.size, 1, none⟩ = some (.int .i64 k3))) (by kernel_rfl) ⟨hb0.drew.cell 0, hb0.drew.cell 1, hb0.drew.cell 2, hb1.drew.cell 0, hb1.drew.cell 1, hx91.drew.cell 0, hx91.drew.cell 1⟩ (fun hHeld => ?_)
  replace ht := ht.drew
  replace hb0 := hb0.drew
  replace hb1 := hb1.drew
  replace hx0 := hx0.drew
  replace hx91 := hx91.drew
  refine wpAnyH_take (i := 0) (v := ?_) rfl (by kernel_rfl) (by kernel_rfl) (by kernel_rfl) (fun _ _ _ h => h) (Or.inl ⟨rfl, ?_⟩) hHeld ?_
  rotate_left
  · intro w' hS; obtain ⟨s0, s1, s2, s3, s4, s5, s6⟩ := hS; go_simp <;> with_reducible rfl
  simp only [Act.put, List.getElem_toArray, List.getElem_cons_succ, List.getElem_cons_zero, List.setIfInBounds_toArray, List.set_cons_succ, List.set_cons_zero]
  refine wpAnyH_take (i := 2) (v := ?_) rfl (by kernel_rfl) (by kernel_rfl) (by kernel_rfl) (fun _ _ _ h => h) (Or.inl ⟨rfl, ?_⟩) hHeld ?_
  rotate_left
  · intro w' hS; obtain ⟨s0, s1, s2, s3, s4, s5, s6⟩ := hS; go_simp <;> with_reducible rfl
  simp only [Act.put, List.getElem_toArray, List.getElem_cons_succ, List.getElem_cons_zero, List.setIfInBounds_toArray, List.set_cons_succ, List.set_cons_zero]
  refine wpAnyH_ready (rs := [1]) (by kernel_rfl) (by simp) (AllReadyH.cons rfl (fun K hK => ?_) AllReadyH.nil)
  go_simp
  refine (toIsles_any k0 k1 k2 _).mono ?_
  rintro e v6 ⟨rfl, hb⟩
  have hz6 : v5.heap.size + 1 ≤ v6.heap.size := by have := hb.size; simpa using this
  replace ht := below_then ht hb ht.size
  replace hb0 := hb0.below hb
  replace hb1 := hb1.below hb
  replace hx0 := hx0.below hb
  replace hx91 := hx91.below hb
  clear hb
  refine hK.out _ _ ⟨hb0.cell 0, hb0.cell 1, hb0.cell 2, hb1.cell 0, hb1.cell 1, hx91.cell 0, hx91.cell 1⟩ (fun hHeld => ?_)
  clear hK K
  try simp only [Act.put, List.getElem_toArray, List.getElem_cons_succ, List.getElem_cons_zero, List.setIfInBounds_toArray, List.set_cons_succ, List.set_cons_zero]
  refine wpAnyH_ready (rs := [3]) (by kernel_rfl) (by simp) (AllReadyH.cons rfl (fun K hK => ?_) AllReadyH.nil)
  go_simp
  refine (implArePlaces_any k0 k1 k2 _ n0 _ x0 k3 _ (by exact hx0.holds) HX0.out (by omega)).mono ?_
  rintro e v7 ⟨rfl, hb⟩
  have hz7 : v6.heap.size ≤ v7.heap.size := by have := hb.size; simpa using this
  replace ht := below_then ht hb ht.size
  replace hb0 := hb0.below hb
  replace hb1 := hb1.below hb
  replace hx0 := hx0.below hb
  replace hx91 := hx91.below hb
  clear hb
  refine hK.out _ _ ⟨hb0.cell 0, hb0.cell 1, hb0.cell 2, hb1.cell 0, hb1.cell 1, hx91.cell 0, hx91.cell 1⟩ (fun hHeld => ?_)
  clear hK K
  try simp only [Act.put, List.getElem_toArray, List.getElem_cons_succ, List.getElem_cons_zero, List.setIfInBounds_toArray, List.set_cons_succ, List.set_cons_zero]
  refine wpAnyH_take (i := 4) (v := ?_) rfl (by kernel_rfl) (by kernel_rfl) (by kernel_rfl) (fun _ _ _ h => h) (Or.inl ⟨rfl, ?_⟩) hHeld ?_
  rotate_left
  · intro w' hS; obtain ⟨s0, s1, s2, s3, s4, s5, s6⟩ := hS; go_simp <;> with_reducible rfl
  simp only [Act.put, List.getElem_toArray, List.getElem_cons_succ, List.getElem_cons_zero, List.setIfInBounds_toArray, List.set_cons_succ, List.set_cons_zero]
  refine wpAnyH_done (by kernel_rfl) ?_ _
  clear hHeld
  obtain ⟨hb0_0, hb0_1, hb0_2⟩ := hb0.cells3
  have hb0_l := hb0.lt
  obtain ⟨hb1_0, hb1_1⟩ := hb1.cells2
  have hb1_l := hb1.lt
  obtain ⟨hx91_0, hx91_1⟩ := hx91.cells2
  have hx91_l := hx91.lt
  -- region 10
  clear hb0_0 hb0_1 hb0_2 hb0_l hb1_0 hb1_1 hb1_l hx91_0 hx91_1 hx91_l
  go_wp2_with fail
  refine wp_region_held_drew (S := (fun w' => w'.cell? ⟨w.heap.size, 0, none⟩ = some (.int .i64 k0) ∧ w'.cell? ⟨w.heap.size, 1, none⟩ = some (.int .i64 k1) ∧ w'.cell? ⟨w.heap.size, 2, none⟩ = some (.int .i64 k2) ∧ w'.cell? ⟨w.heap.size + 1, 0, none⟩ = some (.slice A0 n0 c0) ∧ w'.cell? ⟨w.heap.size + 1, 1, none⟩ = some (.int .i64 k3) ∧ w'.cell? ⟨v5.heap.size, 0, none⟩ = some (.slice (some ⟨gx0, 0, none⟩) n0 n0) ∧ w'.cell? ⟨v5.heap.size, 1, none⟩ = some (.int .i64 k3))) (by kernel_rfl) ⟨hb0.drew.cell 0, hb0.drew.cell 1, hb0.drew.cell 2, hb1.drew.cell 0, hb1.drew.cell 1, hx91.drew.cell 0, hx91.drew.cell 1⟩ (fun hHeld => ?_)
  replace ht := ht.drew
  replace hb0 := hb0.drew
  replace hb1 := hb1.drew
  replace hx0 := hx0.drew
  replace hx91 := hx91.drew
  refine wpAnyH_take (i := 0) (v := ?_) rfl (by kernel_rfl) (by kernel_rfl) (by kernel_rfl) (fun _ _ _ h => h) (Or.inl ⟨rfl, ?_⟩) hHeld ?_
  rotate_left
  · intro w' hS; obtain ⟨s0, s1, s2, s3, s4, s5, s6⟩ := hS; go_simp <;> with_reducible rfl
  simp only [Act.put, List.getElem_toArray, List.getElem_cons_succ, List.getElem_cons_zero, List.setIfInBounds_toArray, List.set_cons_succ, List.set_cons_zero]
  refine wpAnyH_take (i := 1) (v := ?_) rfl (by kernel_rfl) (by kernel_rfl) (by kernel_rfl) (fun _ _ _ h => h) (Or.inl ⟨rfl, ?_⟩) hHeld ?_
  rotate_left
  · intro w' hS; obtain ⟨s0, s1, s2, s3, s4, s5, s6⟩ := hS; go_simp <;> with_reducible rfl
  simp only [Act.put, List.getElem_toArray, List.getElem_cons_succ, List.getElem_cons_zero, List.setIfInBounds_toArray, List.set_cons_succ, List.set_cons_zero]
  refine wpAnyH_ready (rs := [2]) (by kernel_rfl) (by simp) (AllReadyH.cons rfl (fun K hK => ?_) AllReadyH.nil)
  go_simp
  refine (toPlaces_own A0 n0 c0 x0 k3 _ (by exact h0.below ht) HX0.out (by omega)).mono ?_
  rintro e v8 ⟨gy0, rfl, hgy0, hwy0, hb⟩
  have hz8 : v7.heap.size ≤ v8.heap.size := by have := hb.size; simpa using this
  replace ht := below_then ht hb ht.size
  replace hb0 := hb0.below hb
  replace hb1 := hb1.below hb
  replace hx0 := hx0.below hb
  replace hx91 := hx91.below hb
  have hy0 := Fresh.of_whole (lo := v7.heap.size) (hi := v8.heap.size) hwy0 (by simpa using hgy0) hwy0.lt
  clear hgy0 hwy0
  clear hb
  refine hK.out _ _ ⟨hb0.cell 0, hb0.cell 1, hb0.cell 2, hb1.cell 0, hb1.cell 1, hx91.cell 0, hx91.cell 1⟩ (fun hHeld => ?_)
  clear hK K
  try simp only [Act.put, List.getElem_toArray, List.getElem_cons_succ, List.getElem_cons_zero, List.setIfInBounds_toArray, List.set_cons_succ, List.set_cons_zero]
  refine wpAnyH_ready (rs := [3]) (by kernel_rfl) (by simp) (AllReadyH.cons rfl (fun K hK => ?_) AllReadyH.nil)
  go_simp
  refine (eqPlaces_yes _ _ n0 _ _ x0 k3 _ (by exact hx0.holds) (by exact hy0.holds) HX0.out (by omega)).mono ?_
  rintro e v9 ⟨rfl, hb⟩
  have hz9 : v8.heap.size ≤ v9.heap.size := by have := hb.size; simpa using this
  replace ht := below_then ht hb ht.size
  replace hb0 := hb0.below hb
  replace hb1 := hb1.below hb
  replace hx0 := hx0.below hb
  replace hx91 := hx91.below hb
  replace hy0 := hy0.below hb
  clear hb
  clear hy0
  refine hK.out _ _ ⟨hb0.cell 0, hb0.cell 1, hb0.cell 2, hb1.cell 0, hb1.cell 1, hx91.cell 0, hx91.cell 1⟩ (fun hHeld => ?_)
  clear hK K
  try simp only [Act.put, List.getElem_toArray, List.getElem_cons_succ, List.getElem_cons_zero, List.setIfInBounds_toArray, List.set_cons_succ, List.set_cons_zero]
  refine wpAnyH_take (i := 4) (v := ?_) rfl (by kernel_rfl) (by kernel_rfl) (by kernel_rfl) (fun _ _ _ h => h) (Or.inl ⟨rfl, ?_⟩) hHeld ?_
  rotate_left
  · intro w' hS; obtain ⟨s0, s1, s2, s3, s4, s5, s6⟩ := hS; go_simp <;> with_reducible rfl
  simp only [Act.put, List.getElem_toArray, List.getElem_cons_succ, List.getElem_cons_zero, List.setIfInBounds_toArray, List.set_cons_succ, List.set_cons_zero]
  refine wpAnyH_done (by kernel_rfl) ?_ _
  clear hHeld
  obtain ⟨hb0_0, hb0_1, hb0_2⟩ := hb0.cells3
  have hb0_l := hb0.lt
  obtain ⟨hb1_0, hb1_1⟩ := hb1.cells2
  have hb1_l := hb1.lt
  obtain ⟨hx91_0, hx91_1⟩ := hx91.cells2
  have hx91_l := hx91.lt
  go_wp2
  go_ret
  exact ⟨rfl, ht⟩

theorem lawArePlaces_all (k0 : Int) (k1 : Int) (k2 : Int) (A0 : Option Addr) (n0 c0 : Nat) (x0 : List Int) (k3 : Int) (w : World) (h0 : Holds w A0 (nums x0)) (hx0 : x0.length = n0) (hn0 : n0 ≤ 9223372036854775807) :
    Calls Try.prog 9 #[.agg #[.int .i64 k0, .int .i64 k1, .int .i64 k2], .agg #[.slice A0 n0 c0, .int .i64 k3]] w fun e w' => e = .returned (.bool true) ∧ Below w.heap.size w w' := by
  rcases (inferInstance : Decidable (0 ≤ 1048576 - (n0 : Int))) with g0 | g0
  · exact lawArePlaces_big0 k0 k1 k2 A0 n0 c0 x0 k3 w h0 hx0 hn0  (by omega)
  exact lawArePlaces_small k0 k1 k2 A0 n0 c0 x0 k3 w h0 hx0 hn0 g0
end Go.Proofs.Ytjkiclhihhhpmaa
