/-
  What is proved: contracts of the last state, as the model and the program make it. Conditions: the party's times are read as they lie.
-/
import Derived.Test.YtionmcgaicijkaaFirstI
import Derived.Test.YtionmcgaicijkaaRow
namespace Go.Proofs.Ytionmcgaicijkaa
open Go.RowKit

/-- So many people, all over. -/
def trues (n : Nat) : List Bool := List.replicate n true
theorem trues_len (n : Nat) : (trues n).length = n := by simp [trues]
theorem trues_next (n : Nat) : bits (trues n) ++ [.bool true] = bits (trues (n + 1)) := by
  simp [bits, trues, List.replicate_succ']

set_option maxHeartbeats 1600000 in
set_option maxRecDepth 100000 in
theorem paLast_any (A : Option Addr) (n c : Nat) (s : Int) (w : World) (hn : n ≤ 1048576) :
    Calls Try.prog 103 #[.agg #[.slice A n c, .int .i64 s]] w (StateRes (trues n) true w) := by
  obtain ⟨i0, hi, hz0, hz1, hz2⟩ := info_parts info_bool
  have HI := Lib.hid hi
  have HZ0 := Lib.hid hz0
  have HZ1 := Lib.hid hz1
  have HZ2 := Lib.hid hz2
  clear hi hz0 hz1 hz2
  have h1 := (Whole.fresh (w.alloc (.cells #[.slice A n c, .int .i64 s] 33)) 30 #[.slice none 0 0, .bool false]).alloc (.cells #[.slice none 0 0, .bool true] 30)
  have h2 := Whole.fresh ((w.alloc (.cells #[.slice A n c, .int .i64 s] 33)).alloc (.cells #[.slice none 0 0, .bool false] 30)) 30 #[.slice none 0 0, .bool true]
  have hb0 := below3 w (.cells #[.slice A n c, .int .i64 s] 33) (.cells #[.slice none 0 0, .bool false] 30) (.cells #[.slice none 0 0, .bool true] 30)
  simp only [World.size_alloc] at h1 h2
  go_enter Try.func103, Try.ntmps103
  go_wp2
  go_loopw [8] (fun i wr => ∃ (k : Nat) (D : Option Addr) (q : Nat), k ≤ n ∧ i = .int .i64 k ∧ wr.ownsRow (w.heap.size + 1 + 1 + 1) 4 1 (.slice D k q) k (bits (trues k)) ∧ Whole wr (w.heap.size + 1) 30 #[.slice none 0 0, .bool false] ∧ Whole wr (w.heap.size + 1 + 1) 30 #[.slice D k q, .bool true] ∧ Below w.heap.size w wr) (fun i _ => n - (intOf i).toNat)
  case atStart => exact ⟨0, none, 0, Nat.zero_le _, rfl, World.ownsRow_nil _ _ _ _, h1, h2, hb0⟩
  case round =>
    clear h1 h2 hb0
    obtain ⟨k, D, q, hk, rfl, hown, h1, h2, hb⟩ := hrel
    obtain ⟨a0, a1, e0, e1⟩ := h2.two
    have hl2 := h2.lt
    by_cases hlt : k < n
    · have hOW := Lib.hid (hown.alloc (.cells #[.bool true] 4))
      have h1' := Lib.hid (h1.alloc (.cells #[.bool true] 4))
      have h2' := Lib.hid (h2.alloc (.cells #[.bool true] 4))
      have hb' := Lib.hid (hb.alloc hb.size (.cells #[.bool true] 4))
      have hbase : w.heap.size + 1 + 1 + 1 ≤ (wr.alloc (.cells #[.bool true] 4)).heap.size := by simp; omega
      have HBASE := Lib.hid hbase
      have HMAX := Lib.hid (show k + 1 ≤ maxLen by unfold maxLen; omega)
      have HBYT := Lib.hid (show (k + 1) * 1 ≤ 140737488355328 by omega)
      clear hown h1 h2 hb hbase
      go_wp2_with (at_builtin; refine wpList_append_own _ rfl (.tmp 11) (.tmp 12) 25 rfl (w.heap.size + 1 + 1 + 1) 4 i0 (.bool false) 1 1 Try.underlying25 HI.out HZ0.out HZ1.out HZ2.out rfl (by decide) (.slice D k q) k (bits (trues k)) rfl hOW.out ⟨wr.heap.size, 0, none⟩ 1 1 [.bool true] rfl rfl (cell_one_new _ _ _) (by simp [Value.oneCell']) HMAX.out HBYT.out HBASE.out ?_; intro v' w1 hown1 hg1 _; obtain ⟨D', q', hv', -⟩ := Fresh.of_own hown1 (Nat.le_refl _); rw [hv'] at hown1 ⊢; clear hv'; have g2 : Whole w1 (w.heap.size + 1 + 1) 30 #[.slice D k q, .bool true] := (hg1.block _ h2'.out.lt (fun e => by have := (hOW.out.lt _ e.symm).1; omega)).trans h2'.out; have g1 : Whole w1 (w.heap.size + 1) 30 #[.slice none 0 0, .bool false] := (hg1.block _ h1'.out.lt (fun e => by have := (hOW.out.lt _ e.symm).1; omega)).trans h1'.out; obtain ⟨b0, b1, f0, f1⟩ := g2.two)
      have hbw : Below w.heap.size w w1 := hb'.out.grown hg1 (by have := hb'.out.size; omega) (fun kk e => by have := (hOW.out.lt _ e).1; omega)
      rw [trues_next] at hown1
      have hown2 := ownsRow_setCell_below hown1 (a := ⟨w.heap.size + 1 + 1, 0, none⟩) (by show w.heap.size + 1 + 1 < _; omega) (.slice D' (k + 1) q')
      go_roundw
      case rel => exact ⟨k + 1, D', q', by omega, by go_num, hown2, g1.off (by omega), g2.set_ 0 (.slice D' (k + 1) q'), below_set hbw (by omega)⟩
      case measure => simp [intOf]; omega
    · have hkn : k = n := by omega
      subst hkn
      obtain ⟨r0, r1, f0, f1⟩ := h1.two
      obtain ⟨D', q', hv', hf⟩ := Fresh.of_own hown (Nat.le_refl _)
      simp only [Value.slice.injEq, true_and] at hv'
      obtain ⟨rfl, rfl⟩ := hv'
      have HF := Lib.hid (((hf.set_out (b := w.heap.size + 1) (o := 0) (u := .slice D k q) (.inl (by omega))).set_out (b := w.heap.size + 1) (o := 1) (u := .bool true) (.inl (by omega))).more (lo' := w.heap.size) (hi' := wr.heap.size) (by omega) (Nat.le_refl _))
      clear hf hown
      go_wp2
      refine bodyPost_ret (v := .agg #[.slice D k q, .bool true]) (by simp [results, Try.results103, go_sem, r0, r1]) rfl ⟨D, q, by rw [trues_len], ?_, ?_⟩
      · have h := HF.out
        simpa [World.setCell] using h
      · exact below_set (below_set hb (by omega)) (by omega)

/-- The places of the last state: none where there is no party. -/
def lastBits (xs : List Int) (n : Nat) (s : Int) : List Bool := if isParty xs s then trues n else []
theorem lastBits_le (xs : List Int) (n : Nat) (s : Int) : (lastBits xs n s).length ≤ n := by
  rw [lastBits]
  split
  · rw [trues_len]; exact Nat.le_refl _
  · simp

theorem place_over (n : Nat) (h : n < 8) : (placeCells (trues n) true).setIfInBounds n (.bool true) = placeCells (trues (n + 1)) true := by
  match n, h with
  | 0, _ => rfl
  | 1, _ => rfl
  | 2, _ => rfl
  | 3, _ => rfl
  | 4, _ => rfl
  | 5, _ => rfl
  | 6, _ => rfl
  | 7, _ => rfl
theorem size_place : (Try.prog.info? 82).map (·.size) = some 9 := by kernel_rfl
theorem place_one (bs : List Bool) (t : Bool) : (placeCells bs t).all (·.oneCell') = true := by simp [placeCells, Value.oneCell']

set_option maxHeartbeats 1600000 in
theorem everybodyOver_any (n : Nat) (w : World) (hn : n ≤ 8) :
    Calls Try.prog 105 #[.int .i64 n] w fun e w' => e = .returned (.agg (placeCells (trues n) true)) ∧ Below w.heap.size w w' := by
  have h1 := (Whole.fresh w 82 (placeCells [] false)).alloc (.cells (placeCells (trues 0) true) 82)
  have h2 := Whole.fresh (w.alloc (.cells (placeCells [] false) 82)) 82 (placeCells (trues 0) true)
  have hb0 := below2 w (.cells (placeCells [] false) 82) (.cells (placeCells (trues 0) true) 82)
  simp only [World.size_alloc] at h1 h2
  go_enter Try.func105, Try.ntmps105
  go_wp2
  go_loopw [7] (fun i wr => ∃ k : Nat, k ≤ n ∧ i = .int .i64 k ∧ Whole wr w.heap.size 82 (placeCells [] false) ∧ Whole wr (w.heap.size + 1) 82 (placeCells (trues k) true) ∧ Below w.heap.size w wr) (fun i _ => n - (intOf i).toNat)
  case atStart => exact ⟨0, Nat.zero_le _, rfl, h1, h2, hb0⟩
  case round =>
    clear h1 h2 hb0
    obtain ⟨k, hk, rfl, h1, h2, hb⟩ := hrel
    by_cases hlt : k < n
    · have hk8 : k < 8 := by omega
      have hki : (k : Int) < 8 := by omega
      have hcell := (h2.cell k).trans (place_at (trues k) true hk8)
      have hfr := h2.open_ k
      have hset := h2.set_ k (.bool true)
      rw [place_over k hk8] at hset
      go_wp2
      go_roundw
      case rel => exact ⟨k + 1, by omega, by go_num, h1.off (by omega), hset, below_set hb (by omega)⟩
      case measure => simp [intOf]; omega
    · have hkn : k = n := by omega
      subst hkn
      go_wp2_with (first | (refine wpList_load_row rfl 82 (.tmp 3) rfl (w.heap.size + 1) rfl 82 (placeCells (trues k) true) (0, 0) _ h2 Try.underlying82 rfl size_place ?_) | (refine wpList_store_whole rfl 82 (.tmp 2) (.tmp 15) rfl w.heap.size (placeCells (trues k) true) rfl rfl 82 (placeCells [] false) h1 size_place rfl (place_one _ _) ?_; intro w2 hw2 ho2))
      have hb2 := ho2.below hb (by omega)
      obtain ⟨r0, r1, r2, r3, r4, r5, r6, r7, r8⟩ := place_cells hw2
      refine bodyPost_ret (v := .agg (placeCells (trues k) true)) (by simp [results, Try.results105, go_sem, r0, r1, r2, r3, r4, r5, r6, r7, r8, placeCells]) rfl ⟨rfl, hb2⟩

end Go.Proofs.Ytionmcgaicijkaa
