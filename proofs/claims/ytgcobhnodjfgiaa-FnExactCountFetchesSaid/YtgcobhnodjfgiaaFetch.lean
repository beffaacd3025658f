/-
  What is proved: the contract of the program's fetchGains: what is gained in each round. Conditions: at most twelve people, times from 0 to 1000.
-/
import Derived.Test.YtgcobhnodjfgiaaPTrip
import Derived.Test.YtgcobhnodjfgiaaPrM
namespace Go.Proofs.Ytgcobhnodjfgiaa
open Go.RowKit

theorem gainsT_step (W : List Wk) {k y : Nat} (h4 : 4 ≤ k) (hy : y + 2 = k) : gainsT W k = gainOf W y :: gainsT W y := by
  obtain ⟨m, rfl⟩ : ∃ m, k = m + 4 := ⟨k - 4, by omega⟩
  obtain rfl : y = m + 2 := by omega
  rw [gainsT]
theorem gainsT_end (W : List Wk) {k : Nat} (h : k ≤ 3) : gainsT W k = [] := by
  match k, h with
  | 0, _ => rfl
  | 1, _ => rfl
  | 2, _ => rfl
  | 3, _ => rfl
theorem gainsT_len (W : List Wk) (k : Nat) : (gainsT W k).length ≤ k := by
  induction k using Nat.strongRecOn with
  | _ k ih =>
    by_cases h : k ≤ 3
    · rw [gainsT_end W h]; simp
    · rw [gainsT_step W (k := k) (y := k - 2) (by omega) (by omega), List.length_cons]
      have := ih (k - 2) (by omega)
      omega
theorem signs_gains (W : List Wk) (k : Nat) : signsT true W k = (gainsT W k).map (fun g => if 0 < g then (102 : UInt8) else 101) := by
  induction k using Nat.strongRecOn with
  | _ k ih =>
    by_cases h : k ≤ 3
    · match k, h with
      | 0, _ => rfl
      | 1, _ => rfl
      | 2, _ => rfl
      | 3, _ => rfl
    · rw [gainsT_step W (k := k) (y := k - 2) (by omega) (by omega), signsT_step true W (k := k) (y := k - 2) (by omega) (by omega), ih (k - 2) (by omega), List.map_cons]
      simp [signR]
theorem even_gains (W : List Wk) (k : Nat) : evenT W k = (gainsT W k).any (· == 0) := by
  induction k using Nat.strongRecOn with
  | _ k ih =>
    by_cases h : k ≤ 3
    · match k, h with
      | 0, _ => rfl
      | 1, _ => rfl
      | 2, _ => rfl
      | 3, _ => rfl
    · rw [gainsT_step W (k := k) (y := k - 2) (by omega) (by omega), evenT_step W (k := k) (y := k - 2) (by omega) (by omega), ih (k - 2) (by omega), List.any_cons]
      rfl

theorem yields_squad {ops : Array Oper} {S : World → Prop} {o : Oper} {a : Act} {g : Nat} {W : List Wk} {n : Int} (hw : Region.wanted o (yielded ops a.tmps) = true) (x : Operand) (ho : o.op = .load 85 x) (hx : a.eval x = .pointer (some ⟨g, 0, none⟩))
    (hS : ∀ w, S w → Whole w g 85 (squadCells W n)) : YieldsIf Try.prog ops S o (.agg (squadCells W n)) a :=
  .inl ⟨hw, fun w hw' => by
    unfold execOp
    simp only [ho, hx, Instr.loadAt, Instr.sureAddr, Sem.run_bind, Sem.run_pure, Result.andThen_ok, run_loadVar_row (P := Try.prog) w g 85 85 (squadCells W n) (0, 0) _ (hS w hw') Try.underlying85 rfl size_squad]⟩
/-- What the region reads. -/
def Reads (g y : Nat) (W : List Wk) (n : Int) (Y : Wk) (w : World) : Prop :=
  Whole w g 85 (squadCells W n) ∧ w.cell? ⟨g, y * 2, none⟩ = some (.int .i64 Y.1) ∧ w.cell? ⟨g, y * 2 + 1, none⟩ = some (.int .i64 Y.2)
theorem reads_of {g y : Nat} {W : List Wk} {n : Int} {Y : Wk} {w : World} (h : Whole w g 85 (squadCells W n)) (hy : y < 12) (hY : Y = wk W y) : Reads g y W n Y w := by
  have h0 := (h.cell (2 * y)).trans (squad_who W n (k := y) hy)
  have h1 := (h.cell (2 * y + 1)).trans (squad_time W n (k := y) hy)
  rw [show 2 * y = y * 2 from Nat.mul_comm _ _] at h0 h1
  subst hY
  exact ⟨h, h0, h1⟩

set_option maxHeartbeats 6400000 in
set_option maxRecDepth 100000 in
theorem fetchGains_any (W : List Wk) (w : World) (h12 : W.length ≤ 12) (hmild : Mild W) :
    Calls Try.prog 71 #[.agg (squadCells W W.length)] w (OwnPost (gainsT W W.length) w) := by
  obtain ⟨i1, ri, rz0, rz1, rz2⟩ := info_parts info_int
  have RI := Lib.hid ri
  have RZ0 := Lib.hid rz0
  have RZ1 := Lib.hid rz1
  have RZ2 := Lib.hid rz2
  have HTL := Lib.hid (gainsT_len W W.length)
  have h0 := Whole.fresh w 85 (squadCells W W.length)
  have hb0 := below1 w (.cells (squadCells W W.length) 85)
  obtain ⟨W1, hW1⟩ : ∃ W1, W1 = w.alloc (.cells (squadCells W W.length) 85) := ⟨_, rfl⟩
  rw [← hW1] at h0 hb0
  have hl0 := h0.lt
  have HW1 := Lib.hid hW1
  have H0 := Lib.hid h0
  have HB0 := Lib.hid hb0
  have HMILD := Lib.hid hmild
  have h24 := (h0.cell 24).trans (squad_n _ _)
  rw [hW1] at h24
  clear hW1 h0 hb0 hmild ri rz0 rz1 rz2
  go_enter Try.func71, Try.ntmps71
  go_wp2_with fail
  rw [← HW1.out]
  clear h24
  go_loopw [3, 4] (fun v l wr => ∃ (k : Nat) (acc : List Int) (E : Option Addr) (d : Nat), k ≤ W.length ∧ l = .int .i64 k ∧ v = .slice E acc.length d ∧ wr.ownsRow W1.heap.size 3 1 (.slice E acc.length d) acc.length (nums acc) ∧ acc ++ gainsT W k = gainsT W W.length ∧ Below W1.heap.size W1 wr) (fun _ l _ => (intOf l).toNat)
  case atStart => exact ⟨W.length, [], none, 0, Nat.le_refl _, rfl, rfl, World.ownsRow_nil _ _ _ _, rfl, Below.refl _ _⟩
  case round =>
    obtain ⟨k, acc, E, d, hkn, rfl, rfl, hown, hacc, hb⟩ := hrel
    have hwz : W1.heap.size ≤ wr.heap.size := hb.size
    have hsw := H0.out.below hb
    have hal : acc.length ≤ 12 := by
      have h := congrArg List.length hacc
      have := HTL.out
      simp at h
      omega
    have HO := Lib.hid hown
    have HB := Lib.hid hb
    by_cases hk3 : k ≤ 3
    · have HACC : Hid (acc = gainsT W W.length) := by show _ = _; rw [← hacc, gainsT_end W hk3, List.append_nil]
      have hkd : ¬ (3 : Int) < (k : Int) := by omega
      have hkn3 : ¬ 3 < k := by omega
      have hkb : decide ((3 : Int) < (k : Int)) = false := by simp; omega
      have hkb2 : decide (3 < k) = false := by simp; omega
      have HOE := Lib.hid (own_lower HO.out (Nat.le_of_lt hl0))
      have HBE := Lib.hid (HB0.out.trans (HB.out.mono (Nat.le_of_lt hl0)))
      clear hsw hown hacc hb
      go_wp2
      go_ret
      exact ⟨E, d, by rw [← HACC.out]; rfl, by rw [← HACC.out]; exact HOE.out, HBE.out⟩
    have hk4 : 4 ≤ k := by omega
    obtain ⟨y, hky⟩ : ∃ y, y + 2 = k := ⟨k - 2, by omega⟩
    have hs2 : (k : Int) - 2 = (y : Int) := by omega
    have hw2 : IntKind.i64.wrap ((k : Int) - 2) = (y : Int) := by rw [hs2]; exact IntWalk.i64_in _ (by omega)
    have hwy : IntKind.i64.wrap (y : Int) = (y : Int) := IntWalk.i64_in _ (by omega)
    have hkd : (3 : Int) < (k : Int) := by omega
    have hkd2 : 3 < k := by omega
    have hy0 : (0 : Int) ≤ (y : Int) := by omega
    have hy12 : (y : Int) < 12 := by omega
    have HACC : Hid (acc ++ (gainOf W y :: gainsT W y) = gainsT W W.length) := by show _ = _; rw [← gainsT_step W hk4 hky]; exact hacc
    obtain ⟨Y, hY⟩ : ∃ Y, Y = wk W y := ⟨_, rfl⟩
    have HY := Lib.hid hY
    have hyn : y ≤ W.length := by omega
    have hyk : y < k := by omega
    have hgl : w.heap.size < wr.heap.size := by omega
    have HGL := Lib.hid hgl
    have HY12 : Hid (y < 12) := by show _ < _; omega
    obtain ⟨G, hG⟩ : ∃ G, G = (wk W 0).2 + Y.2 - 2 * (wk W 1).2 := ⟨_, rfl⟩
    have HG : Hid (G = gainOf W y) := by show _ = _; rw [hG, hY]; rfl
    have HGG := Lib.hid hG
    have HSW := Lib.hid hsw
    clear hsw hown hacc hb hk3 hky hY hG
    go_wp2_with fail
    refine wp_region_held_drew (S := Reads w.heap.size y W (W.length : Int) Y) (by kernel_rfl) (reads_of HSW.out.drew HY12.out HY.out) (fun hHeld => ?_)
    refine wpAnyH_take (i := 0) (v := .slice E acc.length d) rfl (by kernel_rfl) (by kernel_rfl) (by kernel_rfl) (fun _ _ _ h => h) (Or.inl ⟨rfl, fun w' hS => by go_simp⟩) hHeld ?_
    simp only [Act.put, List.getElem_toArray, List.getElem_cons_succ, List.getElem_cons_zero, List.setIfInBounds_toArray, List.set_cons_succ, List.set_cons_zero]
    refine wpAnyH_take (i := 1) (v := .agg (squadCells W (W.length : Int))) rfl (by kernel_rfl) (by kernel_rfl) (by kernel_rfl) (fun _ _ _ h => h) (yields_squad rfl _ rfl rfl (fun _ h => h.1)) hHeld ?_
    simp only [Act.put, List.getElem_toArray, List.getElem_cons_succ, List.getElem_cons_zero, List.setIfInBounds_toArray, List.set_cons_succ, List.set_cons_zero]
    refine wpAnyH_take (i := 2) (v := .int .i64 (k : Int)) rfl (by kernel_rfl) (by kernel_rfl) (by kernel_rfl) (fun _ _ _ h => h) (Or.inl ⟨rfl, fun w' hS => by go_simp⟩) hHeld ?_
    simp only [Act.put, List.getElem_toArray, List.getElem_cons_succ, List.getElem_cons_zero, List.setIfInBounds_toArray, List.set_cons_succ, List.set_cons_zero]
    refine wpAnyH_take (i := 3) (v := .int .i64 (y : Int)) rfl (by kernel_rfl) (by kernel_rfl) (by kernel_rfl) (fun _ _ _ h => h) (Or.inl ⟨rfl, fun w' hS => by go_simp⟩) hHeld ?_
    simp only [Act.put, List.getElem_toArray, List.getElem_cons_succ, List.getElem_cons_zero, List.setIfInBounds_toArray, List.set_cons_succ, List.set_cons_zero]
    refine wpAnyH_take (i := 4) (v := .pointer (some ⟨w.heap.size, 0, none⟩)) rfl (by kernel_rfl) (by kernel_rfl) (by kernel_rfl) (fun _ _ _ h => h) (Or.inl ⟨rfl, fun w' hS => by go_simp⟩) hHeld ?_
    simp only [Act.put, List.getElem_toArray, List.getElem_cons_succ, List.getElem_cons_zero, List.setIfInBounds_toArray, List.set_cons_succ, List.set_cons_zero]
    refine wpAnyH_take (i := 5) (v := .pointer (some ⟨w.heap.size, y * 2, none⟩)) rfl (by kernel_rfl) (by kernel_rfl) (by kernel_rfl) (fun _ _ _ h => h) (Or.inl ⟨rfl, fun w' hS => by go_simp⟩) hHeld ?_
    simp only [Act.put, List.getElem_toArray, List.getElem_cons_succ, List.getElem_cons_zero, List.setIfInBounds_toArray, List.set_cons_succ, List.set_cons_zero]
    refine wpAnyH_take (i := 6) (v := .agg #[.int .i64 Y.1, .int .i64 Y.2]) rfl (by kernel_rfl) (by kernel_rfl) (by kernel_rfl) (fun _ _ _ h => h) (Or.inl ⟨rfl, fun w' hS => by obtain ⟨-, r0, r1⟩ := hS; go_simp⟩) hHeld ?_
    simp only [Act.put, List.getElem_toArray, List.getElem_cons_succ, List.getElem_cons_zero, List.setIfInBounds_toArray, List.set_cons_succ, List.set_cons_zero]
    refine wpAnyH_ready (rs := [7]) (by kernel_rfl) (by simp) (AllReadyH.cons rfl (fun K hK => ?_) AllReadyH.nil)
    go_simp
    refine (fetchGain_any W Y _ (HMILD.out 0).1 (HMILD.out 0).2 (HMILD.out 1).1 (HMILD.out 1).2 (by rw [HY.out]; exact (HMILD.out y).1) (by rw [HY.out]; exact (HMILD.out y).2)).mono ?_
    rintro e w6 ⟨rfl, hb6⟩
    rw [← HGG.out]
    have hs6 : wr.heap.size ≤ w6.heap.size := hb6.size
    have H46 := Lib.hid (HSW.out.drew.below hb6)
    have HO6 := Lib.hid (own_below (own_below HO.out (Below.refl wr.heap.size wr).drew) hb6)
    have HB6 := Lib.hid (below_then HB.out.drew hb6 hwz)
    have HOW := Lib.hid (HO6.out.alloc (.cells #[.int .i64 G] 3))
    have HBB := Lib.hid (HB6.out.alloc (Nat.le_trans hwz hs6) (.cells #[.int .i64 G] 3))
    have HMX := Lib.hid (show acc.length + 1 ≤ maxLen by unfold maxLen; omega)
    have HBY := Lib.hid (show (acc.length + 1) * 8 ≤ 140737488355328 by omega)
    have HBS := Lib.hid (show W1.heap.size ≤ (w6.alloc (.cells #[.int .i64 G] 3)).heap.size by simp; omega)
    clear hb6
    refine hK.out _ _ (reads_of H46.out HY12.out HY.out) (fun hHeld => ?_)
    clear hK K
    try simp only [Act.put, List.getElem_toArray, List.getElem_cons_succ, List.getElem_cons_zero, List.setIfInBounds_toArray, List.set_cons_succ, List.set_cons_zero]
    refine wpAnyH_ready (rs := [8]) (by kernel_rfl) (by simp) (AllReadyH.cons rfl (fun K hK => ?_) AllReadyH.nil)
    go_simp
    refine hK.out _ _ (reads_of (H46.out.alloc _) HY12.out HY.out) (fun hHeld => ?_)
    clear hK K
    try simp only [Act.put, List.getElem_toArray, List.getElem_cons_succ, List.getElem_cons_zero, List.setIfInBounds_toArray, List.set_cons_succ, List.set_cons_zero]
    refine wpAnyH_ready (rs := [9]) (by kernel_rfl) (by simp) (AllReadyH.cons rfl (fun K hK => ?_) AllReadyH.nil)
    refine step_append_lies _ rfl (.tmp 11) (.tmp 19) 22 rfl W1.heap.size 3 i1 (.int .i64 0) 1 8 Try.underlying22 RI.out RZ0.out RZ1.out RZ2.out rfl (by decide) (.slice E acc.length d) acc.length (nums acc) (by simp [Act.eval]) HOW.out ⟨w6.heap.size, 0, none⟩ 1 1 [.int .i64 G] (by simp [Act.eval]) rfl (cell_one_new _ _ _) (by simp [Value.oneCell']) (by decide) HMX.out HBY.out HBS.out (w6.heap.size + 1) (by simp) ?_
    intro g3 c3 w3 hown3 hg3 hat3 hlt3
    have HBF := Lib.hid (HBB.out.grown hg3 HBS.out (fun kk e => (HOW.out.lt kk e).1))
    have HG3 := Lib.hid hown3
    have hm2 : Whole w3 w.heap.size 85 (squadCells W (W.length : Int)) := (hg3.block w.heap.size (H46.out.alloc _).lt (fun e => absurd (HOW.out.lt _ e.symm).1 (by omega))).trans (H46.out.alloc _)
    clear hown3 hg3 hat3
    refine hK.out _ _ (reads_of hm2 HY12.out HY.out) (fun hHeld => ?_)
    clear hK K
    try simp only [Act.put, List.getElem_toArray, List.getElem_cons_succ, List.getElem_cons_zero, List.setIfInBounds_toArray, List.set_cons_succ, List.set_cons_zero]
    refine wpAnyH_take (i := 10) (v := .slice (some ⟨g3, 0, none⟩) (acc.length + 1) c3) rfl (by kernel_rfl) (by kernel_rfl) (by kernel_rfl) (fun _ _ _ h => h) (Or.inl ⟨rfl, fun w' hS => by go_simp⟩) hHeld ?_
    simp only [Act.put, List.getElem_toArray, List.getElem_cons_succ, List.getElem_cons_zero, List.setIfInBounds_toArray, List.set_cons_succ, List.set_cons_zero]
    refine wpAnyH_done (by kernel_rfl) ?_ _
    clear hHeld hm2
    have HLA : Hid ((acc ++ [G]).length = acc.length + 1) := by show _ = _; simp
    go_wp2
    go_roundw
    case rel => exact ⟨y, acc ++ [G], some ⟨g3, 0, none⟩, c3, hyn, by go_num, by rw [HLA.out], by rw [HLA.out, show nums (acc ++ [G]) = nums acc ++ [.int .i64 G] by simp [nums]]; exact HG3.out, by rw [List.append_assoc, HG.out]; exact HACC.out, HBF.out⟩
    case measure => simp [intOf]; omega
end Go.Proofs.Ytgcobhnodjfgiaa
