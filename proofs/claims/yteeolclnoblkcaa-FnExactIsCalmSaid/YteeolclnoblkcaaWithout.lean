/-
  What is proved: a crowd without the people of another one, as the program makes it. Conditions: none.
-/
import Derived.Test.YteeolclnoblkcaaCalmG
import Derived.Test.YteeolclnoblkcaaCanI
import Derived.Test.YteeolclnoblkcaaRow
namespace Go.Proofs.Yteeolclnoblkcaa
open Go.RowKit

theorem index8 (f : Nat → Bool) {k : Nat} (h : k < 8) (w : World) : (Instr.index 67 (.agg #[.bool (f 0), .bool (f 1), .bool (f 2), .bool (f 3), .bool (f 4), .bool (f 5), .bool (f 6), .bool (f 7)]) (.int .i64 k)).run Try.prog w = .ok (.bool (f k)) w :=
  match k, h with
  | 0, _ => by kernel_rfl
  | 1, _ => by kernel_rfl
  | 2, _ => by kernel_rfl
  | 3, _ => by kernel_rfl
  | 4, _ => by kernel_rfl
  | 5, _ => by kernel_rfl
  | 6, _ => by kernel_rfl
  | 7, _ => by kernel_rfl
theorem cells8_one (f : Nat → Bool) : (cells8 f).all (·.oneCell') = true := by simp [cells8, Value.oneCell']
theorem size_crowd8 : (Try.prog.info? 69).map (·.size) = some 8 := by kernel_rfl
theorem cells8_cells {w : World} {g : Nat} {ty : TypeId} {f : Nat → Bool} (h : Whole w g ty (cells8 f)) :
    w.cell? ⟨g, 0, none⟩ = some (.bool (f 0)) ∧ w.cell? ⟨g, 1, none⟩ = some (.bool (f 1)) ∧ w.cell? ⟨g, 2, none⟩ = some (.bool (f 2)) ∧ w.cell? ⟨g, 3, none⟩ = some (.bool (f 3)) ∧
    w.cell? ⟨g, 4, none⟩ = some (.bool (f 4)) ∧ w.cell? ⟨g, 5, none⟩ = some (.bool (f 5)) ∧ w.cell? ⟨g, 6, none⟩ = some (.bool (f 6)) ∧ w.cell? ⟨g, 7, none⟩ = some (.bool (f 7)) :=
  ⟨h.cell 0, h.cell 1, h.cell 2, h.cell 3, h.cell 4, h.cell 5, h.cell 6, h.cell 7⟩

/-- The first k people have been looked at. -/
def withTo (f g : Nat → Bool) (k i : Nat) : Bool := if i < k then f i && !g i else f i
theorem with_zero (f g : Nat → Bool) : withTo f g 0 = f := by funext i; simp [withTo]
theorem with_all (f g : Nat → Bool) : cells8 (withTo f g 8) = cells8 (fun i => f i && !g i) := by simp [cells8, withTo]
theorem with_here (f g : Nat → Bool) (k : Nat) : withTo f g k k = f k := by simp [withTo]
theorem with_set (f g : Nat → Bool) {k : Nat} (h : k < 8) : (cells8 (withTo f g k)).setIfInBounds k (.bool (f k && !g k)) = cells8 (withTo f g (k + 1)) := by
  have h1 : withTo f g (k + 1) k = (f k && !g k) := by simp [withTo]
  have hh : ∀ i, i ≠ k → withTo f g (k + 1) i = withTo f g k i := by
    intro i hi
    unfold withTo
    by_cases h1 : i < k
    · rw [if_pos h1, if_pos (by omega)]
    · rw [if_neg h1, if_neg (by omega)]
  rw [← h1]
  unfold cells8
  match k, h with
  | 0, _ => simp [hh]
  | 1, _ => simp [hh]
  | 2, _ => simp [hh]
  | 3, _ => simp [hh]
  | 4, _ => simp [hh]
  | 5, _ => simp [hh]
  | 6, _ => simp [hh]
  | 7, _ => simp [hh]

set_option maxHeartbeats 3200000 in
theorem without_any (f g : Nat → Bool) (w : World) :
    Calls Try.prog 99 #[.agg (cells8 f), .agg (cells8 g)] w fun e w' => e = .returned (.agg (cells8 (fun i => f i && !g i))) ∧ Below w.heap.size w w' := by
  have h0 := ((Whole.fresh w 69 (cells8 f)).alloc (.cells (cells8 g) 69)).alloc (.cells (cells8 (fun _ => false)) 69)
  have h2 := Whole.fresh ((w.alloc (.cells (cells8 f) 69)).alloc (.cells (cells8 g) 69)) 69 (cells8 (fun _ => false))
  simp only [World.size_alloc] at h2
  have hb := below3 w (.cells (cells8 f) 69) (.cells (cells8 g) 69) (.cells (cells8 (fun _ => false)) 69)
  have H0 := Lib.hid h0
  have HZ := Lib.hid (with_zero f g)
  have H2 := Lib.hid h2
  have HB := Lib.hid hb
  have HEND := Lib.hid (with_all f g)
  clear h0 h2 hb
  unfold cells8
  go_enter Try.func99, Try.ntmps99
  go_wp2
  go_loopw [9] (fun i wr => ∃ k : Nat, k ≤ 8 ∧ i = .int .i64 k ∧ Whole wr w.heap.size 69 (cells8 (withTo f g k)) ∧ Whole wr (w.heap.size + 1 + 1) 69 (cells8 (fun _ => false)) ∧ Below w.heap.size w wr) (fun i _ => 8 - (intOf i).toNat)
  case atStart => exact ⟨0, Nat.zero_le _, rfl, by rw [HZ.out]; exact H0.out, H2.out, HB.out⟩
  case round =>
    obtain ⟨k, hk, rfl, g0, g2, hb⟩ := hrel
    clear H0 H2 HB
    have hl0 := g0.lt
    have hl2 := g2.lt
    by_cases hlt : k < 8
    · have hix := index8 g hlt
      have hkk : (k : Int) < 8 := by omega
      have hcell := (g0.cell k).trans (cells8_at (withTo f g k) hlt)
      rw [with_here] at hcell
      have hfr := g0.open_ k
      have hs := g0.set_ k (.bool (f k && !g k))
      rw [with_set f g hlt] at hs
      have HF := Lib.hid (g2.off (b := w.heap.size) (o := k) (u := .bool (f k && !g k)) (by omega))
      cases hp : f k <;> cases hq : g k
      all_goals
        rw [hq] at hix
        rw [hp] at hcell
        rw [hp, hq] at hs HF
        have HS := Lib.hid hs
        clear hs hp hq
        go_wp2
        go_roundw
        case rel => exact ⟨k + 1, by omega, by go_num, HS.out, HF.out, below_set hb (Nat.le_refl _)⟩
        case measure => simp [intOf]; omega
    · have hk8 : k = 8 := by omega
      subst hk8
      rw [HEND.out] at g0
      go_wp2_with (first | (refine wpList_load_row rfl 69 (.tmp 2) rfl w.heap.size rfl 69 (cells8 (fun i => f i && !g i)) (0, 0) _ g0 Try.underlying69 rfl size_crowd8 ?_) | (refine wpList_store_whole rfl 69 (.tmp 4) (.tmp 25) rfl (w.heap.size + 1 + 1) (cells8 (fun i => f i && !g i)) rfl rfl 69 (cells8 (fun _ => false)) g2 size_crowd8 rfl (cells8_one _) ?_; intro w2 hw2 ho2))
      have hb2 := ho2.below hb (by omega)
      obtain ⟨r0, r1, r2, r3, r4, r5, r6, r7⟩ := cells8_cells hw2
      refine bodyPost_ret (v := .agg (cells8 (fun i => f i && !g i))) (by simp [results, Try.results99, go_sem, r0, r1, r2, r3, r4, r5, r6, r7, cells8]) rfl ⟨rfl, hb2⟩
end Go.Proofs.Yteeolclnoblkcaa
