/-
  What is proved: the given statement on FnExactFewestRows: at every argument of its kinds the law returns true and the arguments read as before. Conditions: none beyond the statement's own.
  Beside it, what it stands on:
  What is proved: the model's searches of a company tell how far the last state is, and how many states are reached, as the program's do. Conditions: at most four couples and four seats.
  What is proved: contracts of the program's fewest rows of a company, its count of the states that are reached, and its seats for couples. Conditions: none.
  What is proved: contracts of the model's fewest rows of a company, its count of the states that are reached. Conditions: none.
  What is proved: how a law's arguments, as they come in, are opened: a list of numbers, a party. Conditions: none beyond the reading itself.
  What is proved: how further arguments of a law, as they come in, are opened: a number, a list of lists of numbers. Conditions: none beyond the reading itself.
  What is proved: how a company among a law's arguments, as it comes in, is opened. Conditions: none beyond the reading itself.
  What is proved: the law FnExactFewestRows returns true at every argument, and leaves all that was there as it was. Conditions: the arguments are read as they lie.
-/
import Derived.Test.YtjadoehdhbilcaaRows
import Derived.WalkKit
import Derived.ProofKit
import Derived.OpenShut
import Derived.ChangeOld
import Derived.Below
import Derived.Lib.SmallJoins
import Derived.Deep.Slices
import Derived.Deep.Grids
import Derived.Deep.Matrix
import Derived.Deep.RegionHeld3
import Derived.JoinedOf
import Derived.Test.YtjadoehdhbilcaaJ7FirstRows
set_option linter.unusedSimpArgs false
set_option linter.unusedVariables false
namespace Go.Proofs.Ytjadoehdhbilcaa
open Go.RowKit

noncomputable def fewSame (k q : Nat) : Bool := lk (finP k q (2 * 2 ^ (2 * k) - 1)).1 0 == lk (finA k q 0).m (2 * 2 ^ (2 * k) - 1)
noncomputable def cntSame (k q : Nat) : Bool := ((sts k).filter fun x => (lk (finP k q 0).1 x).isSome).length == ((sts k).filter fun x => (lk (finA k q 0).m x).isSome).length
theorem fewSame11 : fewSame 1 1 = true := by decide +kernel
theorem cntSame11 : cntSame 1 1 = true := by decide +kernel
theorem fewSame12 : fewSame 1 2 = true := by decide +kernel
theorem cntSame12 : cntSame 1 2 = true := by decide +kernel
theorem fewSame13 : fewSame 1 3 = true := by decide +kernel
theorem cntSame13 : cntSame 1 3 = true := by decide +kernel
theorem fewSame14 : fewSame 1 4 = true := by decide +kernel
theorem cntSame14 : cntSame 1 4 = true := by decide +kernel
theorem fewSame21 : fewSame 2 1 = true := by decide +kernel
theorem cntSame21 : cntSame 2 1 = true := by decide +kernel
theorem fewSame22 : fewSame 2 2 = true := by decide +kernel
theorem cntSame22 : cntSame 2 2 = true := by decide +kernel
theorem fewSame23 : fewSame 2 3 = true := by decide +kernel
theorem cntSame23 : cntSame 2 3 = true := by decide +kernel
theorem fewSame24 : fewSame 2 4 = true := by decide +kernel
theorem cntSame24 : cntSame 2 4 = true := by decide +kernel
theorem fewSame31 : fewSame 3 1 = true := by decide +kernel
theorem cntSame31 : cntSame 3 1 = true := by decide +kernel
theorem fewSame32 : fewSame 3 2 = true := by decide +kernel
theorem cntSame32 : cntSame 3 2 = true := by decide +kernel
theorem fewSame33 : fewSame 3 3 = true := by decide +kernel
theorem cntSame33 : cntSame 3 3 = true := by decide +kernel
theorem fewSame34 : fewSame 3 4 = true := by decide +kernel
theorem cntSame34 : cntSame 3 4 = true := by decide +kernel
theorem fewSame41 : fewSame 4 1 = true := by decide +kernel
theorem cntSame41 : cntSame 4 1 = true := by decide +kernel
theorem fewSame42 : fewSame 4 2 = true := by decide +kernel
theorem cntSame42 : cntSame 4 2 = true := by decide +kernel
theorem fewSame43 : fewSame 4 3 = true := by decide +kernel
theorem cntSame43 : cntSame 4 3 = true := by decide +kernel
theorem fewSame44 : fewSame 4 4 = true := by decide +kernel
theorem cntSame44 : cntSame 4 4 = true := by decide +kernel
theorem fewSame_all {k q : Nat} (h1 : 1 ≤ k) (h4 : k ≤ 4) (q1 : 1 ≤ q) (q4 : q ≤ 4) : fewSame k q = true := by
  have hk : k = 1 ∨ k = 2 ∨ k = 3 ∨ k = 4 := by omega
  have hq : q = 1 ∨ q = 2 ∨ q = 3 ∨ q = 4 := by omega
  rcases hk with rfl | rfl | rfl | rfl <;> rcases hq with rfl | rfl | rfl | rfl
  · exact fewSame11
  · exact fewSame12
  · exact fewSame13
  · exact fewSame14
  · exact fewSame21
  · exact fewSame22
  · exact fewSame23
  · exact fewSame24
  · exact fewSame31
  · exact fewSame32
  · exact fewSame33
  · exact fewSame34
  · exact fewSame41
  · exact fewSame42
  · exact fewSame43
  · exact fewSame44
theorem cntSame_all {k q : Nat} (h1 : 1 ≤ k) (h4 : k ≤ 4) (q1 : 1 ≤ q) (q4 : q ≤ 4) : cntSame k q = true := by
  have hk : k = 1 ∨ k = 2 ∨ k = 3 ∨ k = 4 := by omega
  have hq : q = 1 ∨ q = 2 ∨ q = 3 ∨ q = 4 := by omega
  rcases hk with rfl | rfl | rfl | rfl <;> rcases hq with rfl | rfl | rfl | rfl
  · exact cntSame11
  · exact cntSame12
  · exact cntSame13
  · exact cntSame14
  · exact cntSame21
  · exact cntSame22
  · exact cntSame23
  · exact cntSame24
  · exact cntSame31
  · exact cntSame32
  · exact cntSame33
  · exact cntSame34
  · exact cntSame41
  · exact cntSame42
  · exact cntSame43
  · exact cntSame44
theorem far_few {k q : Nat} (h1 : 1 ≤ k) (h4 : k ≤ 4) (q1 : 1 ≤ q) (q4 : q ≤ 4) :
    (finF k q 0).F.getD (2 * 2 ^ (2 * k) - 1) 0 = fA (finP k q (2 * 2 ^ (2 * k) - 1)).1 0 ∧ cntP (finF k q 0).F = ((sts k).filter fun x => (lk (finP k q 0).1 x).isSome).length := by
  have hp := Nat.two_pow_pos (2 * k)
  have hr := Rep.run (q := q) h4 (src := 0) (sts_mem.2 (by omega)) (turns k)
  have e1 := eq_of_beq (fewSame_all h1 h4 q1 q4)
  have e2 := eq_of_beq (cntSame_all h1 h4 q1 q4)
  refine ⟨?_, ?_⟩
  · have h3 := hr.f (2 * 2 ^ (2 * k) - 1) (by omega)
    rw [show finF k q 0 = runF k q 0 (turns k) from rfl, h3]
    show fA (finA k q 0).m _ = _
    rw [fA, fA, ← e1]
  · rw [show finF k q 0 = runF k q 0 (turns k) from rfl, hr.cnt]
    exact e2.symm
end Go.Proofs.Ytjadoehdhbilcaa

namespace Go.Proofs.Ytjadoehdhbilcaa
open Go.RowKit Go.Maps Go.WideShapes

theorem plc_first {k : Nat} (hk : k ≤ 4) : plc k 0 = .agg #[.bool false, .bool false, .bool false, .bool false, .bool false, .bool false, .bool false, .bool false, .bool false] := by
  have h : k = 0 ∨ k = 1 ∨ k = 2 ∨ k = 3 ∨ k = 4 := by omega
  rcases h with rfl | rfl | rfl | rfl | rfl <;> rfl
theorem plc_last {k : Nat} (h1 : 1 ≤ k) (hk : k ≤ 4) : plcC k (2 * 2 ^ (2 * k) - 1) = place9 (firstN (2 * k)) true := by
  have h : k = 1 ∨ k = 2 ∨ k = 3 ∨ k = 4 := by omega
  rcases h with rfl | rfl | rfl | rfl <;> rfl
theorem first_mem (k : Nat) : 0 ∈ sts k := sts_mem.2 (by have := Nat.two_pow_pos (2 * k); omega)
noncomputable def fewN (k q : Nat) : Int := (lk (finP k q (2 * 2 ^ (2 * k) - 1)).1 0).getD 0
noncomputable def fewB (k q : Nat) : Bool := (lk (finP k q (2 * 2 ^ (2 * k) - 1)).1 0).isSome
noncomputable def fewI (a b : Int) : Int := if isCo a b then fewN a.toNat b.toNat else 0
noncomputable def fewO (a b : Int) : Bool := isCo a b && fewB a.toNat b.toNat
theorem yields_river {ops : Array Oper} {S : World → Prop} {o : Oper} {a : Act} {g k gG gC : Nat} (hw : Region.wanted o (yielded ops a.tmps) = true) (x : Operand) (ho : o.op = .load 74 x) (hx : a.eval x = .pointer (some ⟨g, 0, none⟩))
    (hS : ∀ w, S w → Whole w g 74 (riverCells k gG gC)) : YieldsIf Try.prog ops S o (.agg (riverCells k gG gC)) a :=
  .inl ⟨hw, fun w hw' => by
    unfold execOp
    simp only [ho, hx, Instr.loadAt, Instr.sureAddr, Sem.run_bind, Sem.run_pure, Result.andThen_ok, run_loadVar_row (P := Try.prog) w g 74 74 (riverCells k gG gC) (0, 0) _ (hS w hw') Try.underlying74 rfl size_river]⟩
theorem r9f_of {w : World} {g k gG gC : Nat} {t : TypeId} (h : Whole w g t (riverCells k gG gC)) : w.cell? ⟨g, 0, none⟩ = some (.bool false) ∧ w.cell? ⟨g, 1, none⟩ = some (.bool false) ∧ w.cell? ⟨g, 2, none⟩ = some (.bool false) ∧ w.cell? ⟨g, 3, none⟩ = some (.bool false) ∧ w.cell? ⟨g, 4, none⟩ = some (.bool false) ∧ w.cell? ⟨g, 5, none⟩ = some (.bool false) ∧ w.cell? ⟨g, 6, none⟩ = some (.bool false) ∧ w.cell? ⟨g, 7, none⟩ = some (.bool false) ∧ w.cell? ⟨g, 8, none⟩ = some (.bool false) := ⟨h.cell 0, h.cell 1, h.cell 2, h.cell 3, h.cell 4, h.cell 5, h.cell 6, h.cell 7, h.cell 8⟩
theorem r9l_of {w : World} {g k gG gC : Nat} {t : TypeId} (h : Whole w g t (riverCells k gG gC)) : w.cell? ⟨g, 9, none⟩ = some (.bool (firstN (2 * k) 0)) ∧ w.cell? ⟨g, 10, none⟩ = some (.bool (firstN (2 * k) 1)) ∧ w.cell? ⟨g, 11, none⟩ = some (.bool (firstN (2 * k) 2)) ∧ w.cell? ⟨g, 12, none⟩ = some (.bool (firstN (2 * k) 3)) ∧ w.cell? ⟨g, 13, none⟩ = some (.bool (firstN (2 * k) 4)) ∧ w.cell? ⟨g, 14, none⟩ = some (.bool (firstN (2 * k) 5)) ∧ w.cell? ⟨g, 15, none⟩ = some (.bool (firstN (2 * k) 6)) ∧ w.cell? ⟨g, 16, none⟩ = some (.bool (firstN (2 * k) 7)) ∧ w.cell? ⟨g, 17, none⟩ = some (.bool true) := ⟨h.cell 9, h.cell 10, h.cell 11, h.cell 12, h.cell 13, h.cell 14, h.cell 15, h.cell 16, h.cell 17⟩

set_option maxHeartbeats 6400000 in
set_option maxRecDepth 100000 in
set_option linter.unusedSimpArgs false in
theorem fewestMoves_any (k q gG gC g1 g3 g4 g : Nat) (A : Option Addr) (c : Nat) (w : World) (hk1 : 1 ≤ k) (hk : k ≤ 4) (hq1 : 1 ≤ q) (hq4 : q ≤ 4) (hF0 : RowsFn w k gG gC g1 g3 g4 g A c (groupsOf k q)) :
    Calls Try.prog 65 #[.agg (riverCells k gG gC)] w fun e w' => e = .returned (.tuple #[.int .i64 (fewN k q), .bool (fewB k q)]) ∧ Below w.heap.size w w' := by
  have hR := Whole.fresh w 74 (riverCells k gG gC)
  have hF := hF0.alloc (.cells (riverCells k gG gC) 74)
  have ht := below1 w (.cells (riverCells k gG gC) 74)
  clear hF0
  go_enter Try.func65, Try.ntmps65
  go_wp2_with fail
  refine wp_region_held_drew (S := (fun w' => Whole w' w.heap.size 74 (riverCells k gG gC))) (by kernel_rfl) hR.drew (fun hHeld => ?_)
  replace hR := hR.drew
  replace hF := hF.drew
  replace ht := ht.drew
  refine wpAnyH_take (i := 0) (v := .agg (riverCells k gG gC)) rfl (by kernel_rfl) (by kernel_rfl) (by kernel_rfl) (fun _ _ _ h => h) (yields_river rfl _ rfl rfl (fun _ h => h)) hHeld ?_
  simp only [Act.put, List.getElem_toArray, List.getElem_cons_succ, List.getElem_cons_zero, List.setIfInBounds_toArray, List.set_cons_succ, List.set_cons_zero]
  refine wpAnyH_take (i := 1) (v := ?_) rfl (by kernel_rfl) (by kernel_rfl) (by kernel_rfl) (fun _ _ _ h => h) (Or.inl ⟨rfl, ?_⟩) hHeld ?_
  rotate_left
  · intro w' hS; skip; go_simp <;> with_reducible rfl
  simp only [Act.put, List.getElem_toArray, List.getElem_cons_succ, List.getElem_cons_zero, List.setIfInBounds_toArray, List.set_cons_succ, List.set_cons_zero]
  refine wpAnyH_take (i := 2) (v := .agg #[.bool (firstN (2 * k) 0), .bool (firstN (2 * k) 1), .bool (firstN (2 * k) 2), .bool (firstN (2 * k) 3), .bool (firstN (2 * k) 4), .bool (firstN (2 * k) 5), .bool (firstN (2 * k) 6), .bool (firstN (2 * k) 7), .bool true]) rfl (by kernel_rfl) (by kernel_rfl) (by kernel_rfl) (fun _ _ _ h => h) (Or.inl ⟨rfl, fun w' hS => by obtain ⟨s0, s1, s2, s3, s4, s5, s6, s7, s8⟩ := r9l_of hS; go_simp⟩) hHeld ?_
  simp only [Act.put, List.getElem_toArray, List.getElem_cons_succ, List.getElem_cons_zero, List.setIfInBounds_toArray, List.set_cons_succ, List.set_cons_zero]
  refine wpAnyH_take (i := 4) (v := ?_) rfl (by kernel_rfl) (by kernel_rfl) (by kernel_rfl) (fun _ _ _ h => h) (Or.inl ⟨rfl, ?_⟩) hHeld ?_
  rotate_left
  · intro w' hS; skip; go_simp <;> with_reducible rfl
  simp only [Act.put, List.getElem_toArray, List.getElem_cons_succ, List.getElem_cons_zero, List.setIfInBounds_toArray, List.set_cons_succ, List.set_cons_zero]
  refine wpAnyH_take (i := 5) (v := .agg #[.bool false, .bool false, .bool false, .bool false, .bool false, .bool false, .bool false, .bool false, .bool false]) rfl (by kernel_rfl) (by kernel_rfl) (by kernel_rfl) (fun _ _ _ h => h) (Or.inl ⟨rfl, fun w' hS => by obtain ⟨s0, s1, s2, s3, s4, s5, s6, s7, s8⟩ := r9f_of hS; go_simp⟩) hHeld ?_
  simp only [Act.put, List.getElem_toArray, List.getElem_cons_succ, List.getElem_cons_zero, List.setIfInBounds_toArray, List.set_cons_succ, List.set_cons_zero]
  refine wpAnyH_ready (rs := [3]) (by kernel_rfl) (by simp) (AllReadyH.cons rfl (fun K hK => ?_) AllReadyH.nil)
  go_simp
  have hma := movesApart_any k q gG gC g1 g3 g4 g A c (2 * 2 ^ (2 * k) - 1) _ hk1 hk hq1 hq4 (.inr rfl) hF
  rw [plc_last hk1 hk] at hma
  unfold place9 at hma
  refine hma.mono ?_
  clear hma
  rintro e w3 ⟨b, rfl, hM, hb⟩
  replace hR := hR.below hb
  replace ht := below_then ht hb ht.size
  clear hb hF
  refine hK.out _ _ hR (fun hHeld => ?_)
  clear hK K
  try simp only [Act.put, List.getElem_toArray, List.getElem_cons_succ, List.getElem_cons_zero, List.setIfInBounds_toArray, List.set_cons_succ, List.set_cons_zero]
  refine wpAnyH_ready (rs := [6]) (by kernel_rfl) (by simp) (AllReadyH.cons rfl (fun K hK => ?_) AllReadyH.nil)
  have hlk : (Instr.lookup 98 (.map (some b)) (.agg #[.bool false, .bool false, .bool false, .bool false, .bool false, .bool false, .bool false, .bool false, .bool false]) true).run Try.prog w3 = .ok (.tuple #[.int .i64 (fewN k q), .bool (fewB k q)]) w3 := by have h := MapIs.look_ok hM (place_keys hk) Try.underlying98 Try.underlying3 (hzero _) 0 (first_mem k); rw [plc_first hk] at h; exact h
  go_simp
  clear hlk hM
  refine hK.out _ _ hR (fun hHeld => ?_)
  clear hK K
  try simp only [Act.put, List.getElem_toArray, List.getElem_cons_succ, List.getElem_cons_zero, List.setIfInBounds_toArray, List.set_cons_succ, List.set_cons_zero]
  refine wpAnyH_take (i := 7) (v := ?_) rfl (by kernel_rfl) (by kernel_rfl) (by kernel_rfl) (fun _ _ _ h => h) (Or.inl ⟨rfl, ?_⟩) hHeld ?_
  rotate_left
  · intro w' hS; skip; go_simp <;> with_reducible rfl
  simp only [Act.put, List.getElem_toArray, List.getElem_cons_succ, List.getElem_cons_zero, List.setIfInBounds_toArray, List.set_cons_succ, List.set_cons_zero]
  refine wpAnyH_take (i := 8) (v := ?_) rfl (by kernel_rfl) (by kernel_rfl) (by kernel_rfl) (fun _ _ _ h => h) (Or.inl ⟨rfl, ?_⟩) hHeld ?_
  rotate_left
  · intro w' hS; skip; go_simp <;> with_reducible rfl
  simp only [Act.put, List.getElem_toArray, List.getElem_cons_succ, List.getElem_cons_zero, List.setIfInBounds_toArray, List.set_cons_succ, List.set_cons_zero]
  refine wpAnyH_take (i := 9) (v := ?_) rfl (by kernel_rfl) (by kernel_rfl) (by kernel_rfl) (fun _ _ _ h => h) (Or.inl ⟨rfl, ?_⟩) hHeld ?_
  rotate_left
  · intro w' hS; skip; go_simp <;> with_reducible rfl
  simp only [Act.put, List.getElem_toArray, List.getElem_cons_succ, List.getElem_cons_zero, List.setIfInBounds_toArray, List.set_cons_succ, List.set_cons_zero]
  refine wpAnyH_take (i := 10) (v := ?_) rfl (by kernel_rfl) (by kernel_rfl) (by kernel_rfl) (fun _ _ _ h => h) (Or.inl ⟨rfl, ?_⟩) hHeld ?_
  rotate_left
  · intro w' hS; skip; go_simp <;> with_reducible rfl
  simp only [Act.put, List.getElem_toArray, List.getElem_cons_succ, List.getElem_cons_zero, List.setIfInBounds_toArray, List.set_cons_succ, List.set_cons_zero]
  refine wpAnyH_take (i := 11) (v := ?_) rfl (by kernel_rfl) (by kernel_rfl) (by kernel_rfl) (fun _ _ _ h => h) (Or.inl ⟨rfl, ?_⟩) hHeld ?_
  rotate_left
  · intro w' hS; skip; go_simp <;> with_reducible rfl
  simp only [Act.put, List.getElem_toArray, List.getElem_cons_succ, List.getElem_cons_zero, List.setIfInBounds_toArray, List.set_cons_succ, List.set_cons_zero]
  refine wpAnyH_done (by kernel_rfl) ?_ _
  clear hHeld
  go_wp2
  go_ret2
  exact ⟨rfl, ht⟩

set_option maxHeartbeats 1600000 in
set_option maxRecDepth 100000 in
theorem implFewestRows_any (a b : Int) (w : World) :
    Calls Try.prog 32 #[.agg #[.int .i64 a, .int .i64 b]] w fun e w' => e = .returned (.tuple #[.int .i64 (fewI a b), .bool (fewO a b)]) ∧ Below w.heap.size w w' := by
  have hc := Whole.fresh w 31 #[.int .i64 a, .int .i64 b]
  cases h1 : isCo a b
  · have HV : Hid (fewI a b = 0 ∧ fewO a b = false) := by show _ ∧ _; simp [fewI, fewO, h1]
    have H1 := Lib.hid h1
    clear h1
    go_enter Try.func32, Try.ntmps32
    go_wp2_with fail
    refine (isCompany_any a b _).mono ?_
    rintro e w1 ⟨rfl, hb⟩
    rw [H1.out]
    have ht := below_then (below1 w _) hb (by simp)
    clear hb hc
    go_wp2
    go_ret2
    exact ⟨by rw [HV.out.1, HV.out.2]; rfl, ht⟩
  · obtain ⟨⟨ha1, ha4⟩, hb1, hb4⟩ := isCo_iff.1 h1
    obtain ⟨k, rfl⟩ := Int.eq_ofNat_of_zero_le (show 0 ≤ a by omega)
    obtain ⟨q, rfl⟩ := Int.eq_ofNat_of_zero_le (show 0 ≤ b by omega)
    have HV : Hid (fewI k q = fewN k q ∧ fewO k q = fewB k q) := by show _ ∧ _; simp [fewI, fewO, h1]
    have H1 := Lib.hid h1
    clear h1
    go_enter Try.func32, Try.ntmps32
    go_wp2_with fail
    refine (isCompany_any k q _).mono ?_
    rintro e w1 ⟨rfl, hb⟩
    rw [H1.out]
    have ht := below_then (below1 w _) hb (by simp)
    replace hc := hc.below hb
    clear hb
    obtain ⟨c0, c1, -, -⟩ := hc.two
    go_wp2_with fail
    refine (companyRiver_any k q _ (by omega) (by omega)).mono ?_
    rintro e w2 ⟨gG, gC, g1, g3, g4, g, A, c, rfl, hF, hb⟩
    replace ht := below_then ht hb ht.size
    clear hb c0 c1 hc
    have hfm := fewestMoves_any k q gG gC g1 g3 g4 g A c w2 (by omega) (by omega) (by omega) (by omega) hF
    go_wp2_with fail
    refine hfm.mono ?_
    clear hfm
    rintro e w3 ⟨rfl, hb⟩
    replace ht := below_then ht hb ht.size
    clear hb hF
    go_wp2
    go_ret2
    exact ⟨by rw [HV.out.1, HV.out.2]; rfl, ht⟩

/-- How many states are reached. -/
noncomputable def reachN (k q : Nat) : Nat := ((sts k).filter fun x => (lk (finP k q 0).1 x).isSome).length
noncomputable def reachI (a b : Int) : Int := if isCo a b then (reachN a.toNat b.toNat : Nat) else 0

set_option maxHeartbeats 1600000 in
set_option maxRecDepth 100000 in
theorem implReached_any (a b : Int) (w : World) :
    Calls Try.prog 38 #[.agg #[.int .i64 a, .int .i64 b]] w fun e w' => e = .returned (.tuple #[.int .i64 (reachI a b), .bool (isCo a b)]) ∧ Below w.heap.size w w' := by
  have hc := Whole.fresh w 31 #[.int .i64 a, .int .i64 b]
  cases h1 : isCo a b
  · have HV : Hid (reachI a b = 0) := by show _ = _; simp [reachI, h1]
    have H1 := Lib.hid h1
    clear h1
    go_enter Try.func38, Try.ntmps38
    go_wp2_with fail
    refine (isCompany_any a b _).mono ?_
    rintro e w1 ⟨rfl, hb⟩
    rw [H1.out]
    have ht := below_then (below1 w _) hb (by simp)
    clear hb hc
    go_wp2
    go_ret2
    exact ⟨by rw [HV.out]; rfl, ht⟩
  · obtain ⟨⟨ha1, ha4⟩, hb1, hb4⟩ := isCo_iff.1 h1
    obtain ⟨k, rfl⟩ := Int.eq_ofNat_of_zero_le (show 0 ≤ a by omega)
    obtain ⟨q, rfl⟩ := Int.eq_ofNat_of_zero_le (show 0 ≤ b by omega)
    have hk : k ≤ 4 := by omega
    have HV : Hid (reachI k q = (countIs (sts k) (lk (finP k q 0).1) : Nat)) := by show _ = _; simp [reachI, h1]; rfl
    have H1 := Lib.hid h1
    clear h1
    go_enter Try.func38, Try.ntmps38
    go_wp2_with fail
    refine (isCompany_any k q _).mono ?_
    rintro e w1 ⟨rfl, hb⟩
    rw [H1.out]
    have ht := below_then (below1 w _) hb (by simp)
    replace hc := hc.below hb
    clear hb
    obtain ⟨c0, c1, -, -⟩ := hc.two
    go_wp2_with fail
    refine (companyRiver_any k q _ (by omega) (by omega)).mono ?_
    rintro e w2 ⟨gG, gC, g1, g3, g4, g, A, c, rfl, hF, hb⟩
    replace ht := below_then ht hb ht.size
    have HLO := Lib.hid ht.size
    clear hb c0 c1 hc
    have hz := Whole.fresh w2 74 riverZero
    replace hF := hF.alloc (.cells riverZero 74)
    replace ht := ht.alloc ht.size (.cells riverZero 74)
    have htl := hz.lt
    unfold riverZero at hz hF ht htl
    go_wp2_with (first | (refine wpList_store_whole rfl 74 (.tmp 4) (.tmp 9) rfl w2.heap.size (riverCells k gG gC) rfl rfl 74 _ hz size_river rfl (river_one _ _ _) ?_; intro w7 hw7 ho7; obtain ⟨s0, s1, s2, s3, s4, s5, s6, s7, s8⟩ := r9f_of hw7; have hl7 := hw7.lt) | (refine wpList_load_row rfl 74 (.tmp 4) rfl w2.heap.size rfl 74 (riverCells k gG gC) (0, 0) _ hw7 Try.underlying74 rfl size_river ?_))
    have hF7 : RowsFn w7 k gG gC g1 g3 g4 g A c (groupsOf k q) := by
      have hne : ∀ {x : Nat} {ty : TypeId} {cs : Array Value}, Whole (w2.alloc _) x ty cs → ty ≠ 74 → x ≠ w2.heap.size := fun h hn => whole_ne h hz hn
      exact ⟨⟨ho7.whole hF.f.b1 (hne hF.f.b1 (by decide)), ho7.whole hF.f.b3 (hne hF.f.b3 (by decide)), ho7.whole hF.f.b4 (hne hF.f.b4 (by decide))⟩, ho7.whole hF.p (hne hF.p (by decide)), ho7.whole hF.gr (hne hF.gr (by decide)), own_only hF.own ho7 hz (by decide)⟩
    replace ht := ho7.below ht (by have := HLO.out; omega)
    have hma := movesApart_any k q gG gC g1 g3 g4 g A c 0 w7 (by omega) (by omega) (by omega) (by omega) (.inl rfl) hF7
    rw [show plcC k 0 = #[.bool false, .bool false, .bool false, .bool false, .bool false, .bool false, .bool false, .bool false, .bool false] from by have h := plc_first hk; rw [plc] at h; exact Value.agg.inj h] at hma
    refine hma.mono ?_
    clear hma
    rintro e w3 ⟨b, rfl, hM, hb⟩
    replace ht := below_then ht hb ht.size
    clear hb hF
    go_wp2_with (at_len; refine wpList_map_len _ rfl _ rfl (place_keys hk) (sts_nodup k) Try.underlying98 rfl hM ?_)
    go_ret2
    exact ⟨by rw [HV.out]; rfl, ht⟩
end Go.Proofs.Ytjadoehdhbilcaa

namespace Go.Proofs.Ytjadoehdhbilcaa
open Go.RowKit

theorem fin_len {k q src : Nat} (hk : k ≤ 4) (hs : src ∈ sts k) : (finF k q src).F.length = 2 * 2 ^ (2 * k) ∧ (finF k q src).W.length = 2 * 2 ^ (2 * k) := by
  have h := MildF.run (q := q) hk hs (turns k)
  exact ⟨h.lf, h.lw⟩
theorem far_sign {k q : Nat} (h1 : 1 ≤ k) (h4 : k ≤ 4) (q1 : 1 ≤ q) (q4 : q ≤ 4) :
    (fewB k q = true → (finF k q 0).F.getD (2 * 2 ^ (2 * k) - 1) 0 = fewN k q ∧ 0 ≤ fewN k q) ∧ (fewB k q = false → (finF k q 0).F.getD (2 * 2 ^ (2 * k) - 1) 0 = -1) := by
  have hp := Nat.two_pow_pos (2 * k)
  have hr := Rep.run (q := q) h4 (src := 0) (sts_mem.2 (by omega)) (turns k)
  have he := (far_few h1 h4 q1 q4).1
  have hf := hr.f (2 * 2 ^ (2 * k) - 1) (by omega)
  have he2 : (finF k q 0).F.getD (2 * 2 ^ (2 * k) - 1) 0 = fA (runA k q 0 (turns k)).m (2 * 2 ^ (2 * k) - 1) := hf
  refine ⟨fun hb => ?_, fun hb => ?_⟩
  · unfold fewB at hb
    have hN : (finF k q 0).F.getD (2 * 2 ^ (2 * k) - 1) 0 = fewN k q := by
      rw [he, fA, fewN]
      cases h : lk (finP k q (2 * 2 ^ (2 * k) - 1)).1 0
      · rw [h] at hb; simp at hb
      · rfl
    refine ⟨hN, ?_⟩
    rw [← hN, he2, fA]
    cases h : lk (runA k q 0 (turns k)).m (2 * 2 ^ (2 * k) - 1)
    · exfalso
      rw [he2, fA, h] at he
      rw [fA] at he
      have hsame := eq_of_beq (fewSame_all h1 h4 q1 q4)
      have h' : lk (finA k q 0).m (2 * 2 ^ (2 * k) - 1) = none := h
      rw [h'] at hsame
      rw [hsame] at hb; simp at hb
    · exact hr.pos _ (lk_mem h)
  · rw [he, fA]
    unfold fewB at hb
    cases h : lk (finP k q (2 * 2 ^ (2 * k) - 1)).1 0
    · rfl
    · rw [h] at hb; simp at hb

theorem few_no {k q : Nat} (h : fewB k q = false) : fewN k q = 0 := by
  unfold fewB at h
  unfold fewN
  cases h2 : lk (finP k q (2 * 2 ^ (2 * k) - 1)).1 0
  · rfl
  · rw [h2] at h; simp at h
theorem cuFar0_any (k q : Nat) (w : World) (hk1 : 1 ≤ k) (hk : k ≤ 4) (hq1 : 1 ≤ q) (hq4 : q ≤ 4) :
    Calls Try.prog 66 #[.agg #[.int .i64 k, .int .i64 q], .int .i64 0] w (FarPost k q 0 w) := cuFar_any k q 0 w hk1 hk hq1 hq4 (.inl rfl)
/-- How far the last state is, and in how many ways it is reached, as the model says. -/
noncomputable def farV (k q : Nat) : Int := (finF k q 0).F.getD (2 * 2 ^ (2 * k) - 1) 0
noncomputable def waysV (k q : Nat) : Int := (finF k q 0).W.getD (2 * 2 ^ (2 * k) - 1) 0

set_option maxHeartbeats 1600000 in
set_option maxRecDepth 100000 in
theorem cuFewest_any (k q : Nat) (w : World) (hk1 : 1 ≤ k) (hk : k ≤ 4) (hq1 : 1 ≤ q) (hq4 : q ≤ 4) :
    Calls Try.prog 64 #[.agg #[.int .i64 k, .int .i64 q]] w fun e w' => e = .returned (.tuple #[.int .i64 (farV k q), .int .i64 (waysV k q)]) ∧ Below w.heap.size w w' := by
  have hc := Whole.fresh w 31 #[.int .i64 k, .int .i64 q]
  have HL := Lib.hid (fin_len (q := q) hk (first_mem k))
  have HP := Lib.hid (Nat.two_pow_pos (2 * k))
  go_enter Try.func64, Try.ntmps64
  obtain ⟨c0, c1, -, -⟩ := hc.two
  go_wp2_with fail
  refine (cuFar0_any k q _ hk1 hk hq1 hq4).mono ?_
  rintro e w1 ⟨gF, gW, rfl, hF, hW, hb⟩
  have ht := below_then (below1 w _) hb (by simp)
  clear hb hc c0 c1
  have a0 := num_cell hF (i := 2 * 2 ^ (2 * k) - 1) (v := farV k q) (by rw [HL.out.1]; have := HP.out; omega) rfl
  have a1 := num_cell hW (i := 2 * 2 ^ (2 * k) - 1) (v := waysV k q) (by rw [HL.out.2]; have := HP.out; omega) rfl
  have hs3 := pow_c hk
  have HT := Lib.hid ht
  clear ht hF hW HL
  have hp := HP.out
  clear HP
  generalize 2 ^ (2 * k) = z at *
  have hwr : IntKind.i64.wrap ((2 * z : Nat) - 1 : Int) = (2 * z - 1 : Nat) := by rw [IntWalk.i64_in _ (by omega)]; omega
  go_wp2_with fail
  go_region
  go_wp2
  go_ret2
  exact ⟨rfl, HT.out.drew⟩

set_option maxHeartbeats 1600000 in
set_option maxRecDepth 100000 in
theorem specFewestRows_any (a b : Int) (w : World) :
    Calls Try.prog 31 #[.agg #[.int .i64 a, .int .i64 b]] w fun e w' => e = .returned (.tuple #[.int .i64 (fewI a b), .bool (fewO a b)]) ∧ Below w.heap.size w w' := by
  have hc := Whole.fresh w 31 #[.int .i64 a, .int .i64 b]
  cases h1 : isCo a b
  · have HV : Hid (fewI a b = 0 ∧ fewO a b = false) := by show _ ∧ _; simp [fewI, fewO, h1]
    have H1 := Lib.hid h1
    clear h1
    go_enter Try.func31, Try.ntmps31
    obtain ⟨c0, c1, -, -⟩ := hc.two
    go_wp2_with fail
    refine (cuGood_any a b _).mono ?_
    rintro e w1 ⟨rfl, hb⟩
    rw [H1.out]
    have ht := below_then (below1 w _) hb (by simp)
    clear hb hc c0 c1
    go_wp2
    go_ret2
    exact ⟨by rw [HV.out.1, HV.out.2]; rfl, ht⟩
  · obtain ⟨⟨ha1, ha4⟩, hb1, hb4⟩ := isCo_iff.1 h1
    obtain ⟨k, rfl⟩ := Int.eq_ofNat_of_zero_le (show 0 ≤ a by omega)
    obtain ⟨q, rfl⟩ := Int.eq_ofNat_of_zero_le (show 0 ≤ b by omega)
    have hs := far_sign (k := k) (q := q) (by omega) (by omega) (by omega) (by omega)
    rw [show (finF k q 0).F.getD (2 * 2 ^ (2 * k) - 1) 0 = farV k q from rfl] at hs
    have HV : Hid (fewI k q = fewN k q ∧ fewO k q = fewB k q) := by show _ ∧ _; simp [fewI, fewO, h1]
    have H1 := Lib.hid h1
    clear h1
    go_enter Try.func31, Try.ntmps31
    obtain ⟨c0, c1, -, -⟩ := hc.two
    go_wp2_with fail
    refine (cuGood_any k q _).mono ?_
    rintro e w1 ⟨rfl, hb⟩
    rw [H1.out]
    have ht := below_then (below1 w _) hb (by simp)
    replace hc := hc.below hb
    clear hb c0 c1
    obtain ⟨c0, c1, -, -⟩ := hc.two
    go_wp2_with fail
    refine (cuFewest_any k q _ (by omega) (by omega) (by omega) (by omega)).mono ?_
    rintro e w2 ⟨rfl, hb⟩
    replace ht := below_then ht hb ht.size
    clear hb c0 c1 hc
    have HS := Lib.hid hs
    clear hs
    generalize hfv : farV k q = fv at *
    cases hB : fewB k q
    · have hn : fv = -1 := HS.out.2 hB
      subst hn
      have HB := Lib.hid hB
      clear hB
      have hd : decide ((-1 : Int) < 0) = true := by decide
      go_wp2
      go_ret2
      exact ⟨by rw [HV.out.1, HV.out.2, HB.out, few_no HB.out]; rfl, ht⟩
    · have hn := HS.out.1 hB
      have HB := Lib.hid hB
      clear hB
      have h0 : 0 ≤ fv := by omega
      have HE := Lib.hid hn.1
      clear hn
      have hd : decide (fv < 0) = false := by simp; omega
      go_wp2
      go_ret2
      exact ⟨by rw [HV.out.1, HV.out.2, HB.out, HE.out]; rfl, ht⟩

/-- How many of the first j are reached. -/
def cntJ (F : List Int) (j : Nat) : Nat := cntP (F.take j)
theorem cntJ_next {F : List Int} {j : Nat} (h : j < F.length) : cntJ F (j + 1) = cntJ F j + (if 0 ≤ F.getD j 0 then 1 else 0) := by
  unfold cntJ cntP
  rw [List.take_add_one, List.filter_append, List.length_append, List.getElem?_eq_getElem h, show F.getD j 0 = F[j] by simp [h]]
  by_cases h0 : 0 ≤ F[j] <;> simp [h0]
theorem cntJ_le (F : List Int) (j : Nat) : cntJ F j ≤ j := by
  unfold cntJ cntP
  exact Nat.le_trans (List.length_filter_le _ _) (List.length_take_le _ _)
theorem cntJ_all {F : List Int} {n : Nat} (h : F.length = n) : cntJ F n = cntP F := by unfold cntJ; rw [List.take_of_length_le (by omega)]

set_option maxHeartbeats 1600000 in
set_option maxRecDepth 100000 in
theorem specReached_any (a b : Int) (w : World) :
    Calls Try.prog 37 #[.agg #[.int .i64 a, .int .i64 b]] w fun e w' => e = .returned (.tuple #[.int .i64 (reachI a b), .bool (isCo a b)]) ∧ Below w.heap.size w w' := by
  have hc := Whole.fresh w 31 #[.int .i64 a, .int .i64 b]
  cases h1 : isCo a b
  · have HV : Hid (reachI a b = 0) := by show _ = _; simp [reachI, h1]
    have H1 := Lib.hid h1
    clear h1
    go_enter Try.func37, Try.ntmps37
    obtain ⟨c0, c1, -, -⟩ := hc.two
    go_wp2_with fail
    refine (cuGood_any a b _).mono ?_
    rintro e w1 ⟨rfl, hb⟩
    rw [H1.out]
    have ht := below_then (below1 w _) hb (by simp)
    clear hb hc c0 c1
    go_wp2
    go_ret2
    exact ⟨by rw [HV.out]; rfl, ht⟩
  · obtain ⟨⟨ha1, ha4⟩, hb1, hb4⟩ := isCo_iff.1 h1
    obtain ⟨k, rfl⟩ := Int.eq_ofNat_of_zero_le (show 0 ≤ a by omega)
    obtain ⟨q, rfl⟩ := Int.eq_ofNat_of_zero_le (show 0 ≤ b by omega)
    have hk : k ≤ 4 := by omega
    have HL := (fin_len (q := q) hk (first_mem k)).1
    have HV : Hid (reachI k q = (cntP (finF k q 0).F : Nat)) := by show _ = _; rw [(far_few (by omega) hk (by omega) (by omega)).2]; simp [reachI, h1]; rfl
    have H1 := Lib.hid h1
    clear h1
    go_enter Try.func37, Try.ntmps37
    obtain ⟨c0, c1, -, -⟩ := hc.two
    go_wp2_with fail
    refine (cuGood_any k q _).mono ?_
    rintro e w1 ⟨rfl, hb⟩
    rw [H1.out]
    have ht := below_then (below1 w _) hb (by simp)
    replace hc := hc.below hb
    clear hb c0 c1
    obtain ⟨c0, c1, -, -⟩ := hc.two
    go_wp2_with fail
    refine (cuFar0_any k q _ (by omega) hk (by omega) (by omega)).mono ?_
    rintro e w2 ⟨gF, gW, rfl, hF, -, hb⟩
    replace ht := below_then ht hb ht.size
    clear hb c0 c1 hc
    have hs3 := pow_c hk
    generalize (finF k q 0).F = F at *
    generalize 2 ^ (2 * k) = z at *
    have HF := Lib.hid (show Whole w2 gF 3 (nums F).toArray ∧ Below w.heap.size w w2 from ⟨hF, ht⟩)
    have HLL := Lib.hid HL
    clear hF ht HL
    go_wp2
    go_loopw [6, 19] (fun v i wr => ∃ j : Nat, j ≤ 2 * z ∧ i = .int .i64 j ∧ v = .int .i64 (cntJ F j : Nat) ∧ Whole wr gF 3 (nums F).toArray ∧ Below w.heap.size w wr) (fun _ i _ => 2 * z - (intOf i).toNat)
    case atStart => exact ⟨0, Nat.zero_le _, rfl, by rfl, HF.out.1, HF.out.2⟩
    case round =>
      clear HF
      obtain ⟨j, hj, rfl, rfl, hf, ht⟩ := hrel
      have HT := Lib.hid ht
      have hcl := cntJ_le F j
      clear ht
      by_cases hlt : j < 2 * z
      · have hd1 : decide ((j : Int) < ((2 * z : Nat) : Int)) = true := by simp; omega
        have hd2 : decide ((j : Int) < 2 * (z : Int)) = true := by simp; omega
        obtain ⟨fv, hfv⟩ : ∃ v, F.getD j 0 = v := ⟨_, rfl⟩
        have hcell := num_cell hf (by rw [HLL.out]; exact hlt) hfv
        have hnx := cntJ_next (F := F) (j := j) (by rw [HLL.out]; exact hlt)
        rw [hfv] at hnx
        have HF := Lib.hid hf
        have HFV := Lib.hid hfv
        clear hf hfv
        by_cases h0 : 0 ≤ fv
        · rw [if_pos h0] at hnx
          have HNX := Lib.hid hnx
          have hd3 : decide (0 ≤ fv) = true := by simp; omega
          generalize hcj : cntJ F j = cj at *
          clear hnx hcj
          go_wp2
          go_roundw
          case rel => exact ⟨j + 1, by omega, by go_num, by rw [HNX.out]; go_num, HF.out, HT.out⟩
          case measure => simp [intOf]; omega
        · rw [if_neg h0] at hnx
          have HNX := Lib.hid hnx
          have hd3 : decide (0 ≤ fv) = false := by simp; omega
          generalize hcj : cntJ F j = cj at *
          clear hnx hcj
          go_wp2
          go_roundw
          case rel => exact ⟨j + 1, by omega, by go_num, by rw [HNX.out]; rfl, HF.out, HT.out⟩
          case measure => simp [intOf]; omega
      · obtain rfl : j = 2 * z := by omega
        have hd1 : decide (((2 * z : Nat) : Int) < ((2 * z : Nat) : Int)) = false := by simp
        have hd2 : decide (((2 * z : Nat) : Int) < 2 * (z : Int)) = false := by simp
        have hd3 : decide (2 * (z : Int) < 2 * (z : Int)) = false := by simp
        rw [cntJ_all HLL.out] at hcl ⊢
        clear hf
        go_wp2
        go_ret2
        exact ⟨by rw [HV.out]; rfl, HT.out⟩
end Go.Proofs.Ytjadoehdhbilcaa

namespace Go.Proofs.Ytjadoehdhbilcaa
open Go.ChangeShapes Go.WideShapes Go.ChangeAt Go.RowKit Go.Joins

theorem own : ownKnob Try.prog.godebug = none := by kernel_rfl
theorem laidOut : laidOutB Try.prog = true := by kernel_rfl
theorem cells_state : Try.prog.cellsOf 26 = 2 := by kernel_rfl

theorem holds_row {w : World} {x : Addr} {len : Nat} {zs : List Int} (hl : len ≤ zs.length) (hc : ∀ i, i < zs.length → w.cell? (x.add i) = some (.int .i64 (zs.getD i 0))) : Holds w (some x) (nums (zs.take len)) := by
  by_cases h0 : len = 0
  · subst h0; exact .inl rfl
  · obtain ⟨b, o, spot⟩ := x
    have hf := hc 0 (by omega)
    have hs : spot = none := by simpa [Addr.add] using World.cell?_spot hf
    subst hs
    refine .inr ⟨b, o, rfl, ?_, fun j u hu => ?_⟩
    · rcases Nat.lt_or_ge b w.heap.size with h | h
      · exact h
      · have : w.cell? ((⟨b, o, none⟩ : Addr).add 0) = none := by simp [World.cell?, Addr.add, Array.getElem?_eq_none h]
        rw [this] at hf; cases hf
    · have hj : j < len := by
        have h := List.getElem?_eq_some_iff.1 hu
        obtain ⟨h, -⟩ := h
        rw [nums_len, List.length_take] at h
        omega
      have h := hc j (by omega)
      rw [show (⟨b, o + j, none⟩ : Addr) = (⟨b, o, none⟩ : Addr).add j from by unfold Addr.add; split <;> simp_all, h]
      simp only [nums, List.getElem?_map, List.getElem?_take, hj, if_true] at hu
      rw [← hu, List.getD_eq_getElem?_getD, List.getElem?_eq_getElem (show j < zs.length by omega)]
      rfl

set_option maxRecDepth 100000 in
theorem open_nums {H : Type} {enc : TypeId × Value → H} {W : World} {n : Nat} {c : Value} {y : DataW H × List MemPlace} (h : DataW.trod enc Try.prog W 0 (fun _ => true) true n 40 [c] = some y) :
    ∃ (A : Option Addr) (len cap : Nat) (xs : List Int), c = .slice A len cap ∧ Holds W A (nums xs) ∧ xs.length = len ∧ len ≤ 9223372036854775807 := by
  rcases open_ints Try.underlying40 Try.underlying3 (by kernel_rfl) h with ⟨hcs, _⟩ | ⟨x, l, cp, zs, hcs, _, hl, hm, hz, _, hcell, _⟩
  · simp only [List.cons.injEq, and_true] at hcs
    exact ⟨none, 0, 0, [], hcs, .inl rfl, rfl, by omega⟩
  · simp only [List.cons.injEq, and_true] at hcs
    have hz' : zs.length = cp := by simpa using hz
    unfold maxLen at hm
    exact ⟨some x, l, cp, zs.take l, hcs, holds_row (by omega) hcell, by simp; omega, by omega⟩

theorem holds_bits {w : World} {x : Addr} {len : Nat} {zs : List Bool} (hl : len ≤ zs.length) (hc : ∀ i, i < zs.length → w.cell? (x.add i) = some (.bool (zs.getD i false))) : Holds w (some x) (bits (zs.take len)) := by
  by_cases h0 : len = 0
  · subst h0; exact .inl rfl
  · obtain ⟨b, o, spot⟩ := x
    have hf := hc 0 (by omega)
    have hs : spot = none := by simpa [Addr.add] using World.cell?_spot hf
    subst hs
    refine .inr ⟨b, o, rfl, ?_, fun j u hu => ?_⟩
    · rcases Nat.lt_or_ge b w.heap.size with h | h
      · exact h
      · have : w.cell? ((⟨b, o, none⟩ : Addr).add 0) = none := by simp [World.cell?, Addr.add, Array.getElem?_eq_none h]
        rw [this] at hf; cases hf
    · have hj : j < len := by
        have h := List.getElem?_eq_some_iff.1 hu
        obtain ⟨h, -⟩ := h
        rw [bits_len, List.length_take] at h
        omega
      have h := hc j (by omega)
      rw [show (⟨b, o + j, none⟩ : Addr) = (⟨b, o, none⟩ : Addr).add j from by unfold Addr.add; split <;> simp_all, h]
      simp only [bits, List.getElem?_map, List.getElem?_take, hj, if_true] at hu
      rw [← hu, List.getD_eq_getElem?_getD, List.getElem?_eq_getElem (show j < zs.length by omega)]
      rfl

set_option maxRecDepth 100000 in
theorem open_bits {H : Type} {enc : TypeId × Value → H} {W : World} {n : Nat} {c : Value} {y : DataW H × List MemPlace} (h : DataW.trod enc Try.prog W 0 (fun _ => true) true n 24 [c] = some y) :
    ∃ (A : Option Addr) (len cap : Nat) (xs : List Bool), c = .slice A len cap ∧ Holds W A (bits xs) ∧ xs.length = len ∧ len ≤ 9223372036854775807 := by
  rcases Go.Deep.open_bools Try.underlying24 Try.underlying4 (by kernel_rfl) h with ⟨hcs, _⟩ | ⟨x, l, cp, f, hcs, _, hl, hm, _, hcell⟩
  · simp only [List.cons.injEq, and_true] at hcs
    exact ⟨none, 0, 0, [], hcs, .inl rfl, rfl, by omega⟩
  · simp only [List.cons.injEq, and_true] at hcs
    unfold maxLen at hm
    have hz' : ((List.range cp).map f).length = cp := by simp
    exact ⟨some x, l, cp, ((List.range cp).map f).take l, hcs, holds_bits (by omega) (fun i hi => by
      have hi' : i < cp := by omega
      rw [hcell i hi']
      simp [List.getD_eq_getElem?_getD, hi']), by simp; omega, by omega⟩

set_option maxRecDepth 100000 in
theorem open_state {H : Type} {enc : TypeId × Value → H} {W : World} {base : Nat} {v : Value} {d : DataW H} {p : List MemPlace} (hv : Value.okWide Try.prog W .any base 26 v)
    (h : DataW.Trod enc Try.prog W 0 (fun _ => true) true 26 v d p) :
    ∃ (A : Option Addr) (n c : Nat) (xs : List Bool) (s : Bool), v = .agg #[.slice A n c, .bool s] ∧ Holds W A (bits xs) ∧ xs.length = n ∧ n ≤ 9223372036854775807 := by
  obtain ⟨c0, c1, y0, y1, m, rfl, rfl, rfl, hy0, hy1⟩ := open_agg2 Try.underlying26 (by kernel_rfl) cells_state hv h
  obtain ⟨s, e1, -⟩ := DataW.trod_bool Try.underlying4 hy1
  simp only [List.cons.injEq, and_true] at e1
  obtain ⟨A, n, c, xs, rfl, hA, hx, hn⟩ := open_bits hy0
  exact ⟨A, n, c, xs, s, by rw [e1], hA, hx, hn⟩

set_option maxRecDepth 100000 in
theorem open_list {H : Type} {enc : TypeId × Value → H} {W : World} {base : Nat} {v : Value} {d : DataW H} {p : List MemPlace} (hv : Value.okWide Try.prog W .any base 40 v)
    (h : DataW.Trod enc Try.prog W 0 (fun _ => true) true 40 v d p) :
    ∃ (A : Option Addr) (n c : Nat) (xs : List Int), v = .slice A n c ∧ Holds W A (nums xs) ∧ xs.length = n ∧ n ≤ 9223372036854775807 := by
  obtain ⟨a0, len, cap, rfl⟩ := okWide_slice Try.underlying40 hv
  obtain ⟨fuel, hf⟩ := h
  exact open_nums (by simpa [Value.cells] using hf)
end Go.Proofs.Ytjadoehdhbilcaa

namespace Go.Proofs.Ytjadoehdhbilcaa
open Go.ChangeShapes Go.WideShapes Go.ChangeAt Go.RowKit Go.Joins

set_option maxRecDepth 100000 in
theorem open_whole {H : Type} {enc : TypeId × Value → H} {W : World} {base : Nat} {v : Value} {d : DataW H} {p : List MemPlace} (hv : Value.okWide Try.prog W .any base 3 v)
    (h : DataW.Trod enc Try.prog W 0 (fun _ => true) true 3 v d p) : ∃ k : Int, v = .int .i64 k ∧ -9223372036854775808 ≤ k ∧ k ≤ 9223372036854775807 := by
  obtain ⟨n, rfl, -, -, hw⟩ := open_int Try.underlying3 hv h
  simp only [Lit.wf, Bool.and_eq_true, decide_eq_true_eq] at hw
  exact ⟨n, rfl, hw.1, hw.2⟩

theorem holds_fn {w : World} {x : Addr} {len cap : Nat} {f : Nat → Value} (hl : len ≤ cap) (hc : ∀ i, i < cap → w.cell? (x.add i) = some (f i)) : Holds w (some x) ((List.range len).map f) := by
  by_cases h0 : len = 0
  · subst h0; exact .inl rfl
  · obtain ⟨b, o, spot⟩ := x
    have hf := hc 0 (by omega)
    have hs : spot = none := by simpa [Addr.add] using World.cell?_spot hf
    subst hs
    refine .inr ⟨b, o, rfl, ?_, fun j u hu => ?_⟩
    · rcases Nat.lt_or_ge b w.heap.size with h | h
      · exact h
      · have : w.cell? ((⟨b, o, none⟩ : Addr).add 0) = none := by simp [World.cell?, Addr.add, Array.getElem?_eq_none h]
        rw [this] at hf; cases hf
    · have hj : j < len := by
        have h := List.getElem?_eq_some_iff.1 hu
        obtain ⟨h, -⟩ := h
        simpa using h
      have h := hc j (by omega)
      rw [show (⟨b, o + j, none⟩ : Addr) = (⟨b, o, none⟩ : Addr).add j from by unfold Addr.add; split <;> simp_all, h]
      simp only [List.getElem?_map, List.getElem?_range hj, Option.map_some] at hu
      exact hu

set_option maxRecDepth 100000 in
theorem open_grid {H : Type} {enc : TypeId × Value → H} {W : World} {base : Nat} {v : Value} {d : DataW H} {p : List MemPlace} (hv : Value.okWide Try.prog W .any base 28 v)
    (h : DataW.Trod enc Try.prog W 0 (fun _ => true) true 28 v d p) :
    ∃ (A : Option Addr) (n c : Nat) (rs : List RowV), v = .slice A n c ∧ Grid W A rs ∧ rs.length = n ∧ n ≤ 9223372036854775807 := by
  obtain ⟨a0, len0, cap0, rfl⟩ := okWide_slice Try.underlying28 hv
  obtain ⟨fuel, hf⟩ := h
  have hf' : DataW.trod enc Try.prog W 0 (fun _ => true) true fuel 28 [.slice a0 len0 cap0] = some (d, p) := by simpa [Value.cells] using hf
  rcases Go.Deep.open_int_rows Try.underlying28 Try.underlying40 Try.underlying3 (by kernel_rfl) (by kernel_rfl) hf' with ⟨hcs, _⟩ | ⟨a, len, cap, A, L, C, Z, hcs, _, hl, hm, _, hrow⟩
  · simp only [List.cons.injEq, and_true] at hcs
    exact ⟨none, 0, 0, [], hcs, ⟨.inl rfl, fun r hr => by cases hr⟩, rfl, by omega⟩
  · simp only [List.cons.injEq, and_true] at hcs
    unfold maxLen at hm
    refine ⟨some a, len, cap, (List.range len).map fun r => ⟨A r, L r, C r, (Z r).take (L r)⟩, hcs, ⟨?_, fun r hr => ?_⟩, by simp, by omega⟩
    · have h1 := holds_fn (f := fun r => Value.slice (A r) (L r) (C r)) hl (fun i hi => (hrow i hi).1)
      simpa [rowVals, RowV.val, Function.comp_def] using h1
    · simp only [List.mem_map, List.mem_range] at hr
      obtain ⟨j, hj, rfl⟩ := hr
      obtain ⟨-, hLC, hCm, hZ, -, hnone, hsome⟩ := hrow j (by omega)
      unfold maxLen at hCm
      refine ⟨?_, by simp; omega, by show L j ≤ _; omega⟩
      show Holds W (A j) (nums ((Z j).take (L j)))
      cases hA : A j with
      | none =>
        have h0 := hnone hA
        have : Z j = [] := List.eq_nil_of_length_eq_zero (by omega)
        rw [this]
        exact .inl (by simp [nums])
      | some a' => exact holds_row (by omega) (fun i hi => (hsome a' hA).2 i (by omega))
end Go.Proofs.Ytjadoehdhbilcaa

namespace Go.Proofs.Ytjadoehdhbilcaa
open Go.ChangeShapes Go.WideShapes Go.ChangeAt Go.RowKit Go.Joins

theorem cells_company : Try.prog.cellsOf 23 = 2 := by kernel_rfl

set_option maxRecDepth 100000 in
theorem open_company {H : Type} {enc : TypeId × Value → H} {W : World} {base : Nat} {v : Value} {d : DataW H} {p : List MemPlace} (hv : Value.okWide Try.prog W .any base 23 v)
    (h : DataW.Trod enc Try.prog W 0 (fun _ => true) true 23 v d p) :
    ∃ a b : Int, v = .agg #[.int .i64 a, .int .i64 b] := by
  obtain ⟨c0, c1, y0, y1, m, rfl, rfl, rfl, hy0, hy1⟩ := open_agg2 Try.underlying23 (by kernel_rfl) cells_company hv h
  obtain ⟨a, e0, -, -⟩ := DataW.trod_int Try.underlying3 hy0
  obtain ⟨b, e1, -, -⟩ := DataW.trod_int Try.underlying3 hy1
  simp only [List.cons.injEq, and_true] at e0 e1
  exact ⟨a, b, by rw [e0, e1]⟩
end Go.Proofs.Ytjadoehdhbilcaa

namespace Go.Proofs.Ytjadoehdhbilcaa
open Go.RowKit

set_option maxHeartbeats 12800000 in
set_option maxRecDepth 100000 in
set_option linter.unusedSimpArgs false in
set_option linter.unusedVariables false in
theorem lawFewestRows_small (k0 : Int) (k1 : Int) (w : World)   :
    Calls Try.prog 6 #[.agg #[.int .i64 k0, .int .i64 k1]] w fun e w' => e = .returned (.bool true) ∧ Below w.heap.size w w' := by
  have hb0 := (Whole.fresh w 23 #[.int .i64 k0, .int .i64 k1])
  have ht := below1 w (.cells #[.int .i64 k0, .int .i64 k1] 23)
  obtain ⟨hb0_0, hb0_1⟩ := hb0.cells2
  have hb0_l := hb0.lt
  go_enter Try.func6, Try.ntmps6
  -- region 1
  go_wp2_with fail
  refine (toCompany_any k0 k1 _).mono ?_
  rintro e v1 ⟨rfl, hb⟩
  have hz1 : w.heap.size + 1 ≤ v1.heap.size := by have := hb.size; simpa using this
  replace ht := below_then ht hb ht.size
  replace hb0 := hb0.below hb
  clear hb
  clear hb0_0 hb0_1 hb0_l
  obtain ⟨hb0_0, hb0_1⟩ := hb0.cells2
  have hb0_l := hb0.lt
  go_wp2_with fail
  refine (specFewestRows_any k0 k1 _).mono ?_
  rintro e v2 ⟨rfl, hb⟩
  have hz2 : v1.heap.size ≤ v2.heap.size := by have := hb.size; simpa using this
  replace ht := below_then ht hb ht.size
  replace hb0 := hb0.below hb
  clear hb
  clear hb0_0 hb0_1 hb0_l
  obtain ⟨hb0_0, hb0_1⟩ := hb0.cells2
  have hb0_l := hb0.lt
  -- region 2
  go_wp2_with fail
  refine (toCompany_any k0 k1 _).mono ?_
  rintro e v3 ⟨rfl, hb⟩
  have hz3 : v2.heap.size ≤ v3.heap.size := by have := hb.size; simpa using this
  replace ht := below_then ht hb ht.size
  replace hb0 := hb0.below hb
  clear hb
  clear hb0_0 hb0_1 hb0_l
  obtain ⟨hb0_0, hb0_1⟩ := hb0.cells2
  have hb0_l := hb0.lt
  go_wp2_with fail
  refine (implFewestRows_any k0 k1 _).mono ?_
  rintro e v4 ⟨rfl, hb⟩
  have hz4 : v3.heap.size ≤ v4.heap.size := by have := hb.size; simpa using this
  replace ht := below_then ht hb ht.size
  replace hb0 := hb0.below hb
  clear hb
  clear hb0_0 hb0_1 hb0_l
  obtain ⟨hb0_0, hb0_1⟩ := hb0.cells2
  have hb0_l := hb0.lt
  go_wp2
  go_ret
  exact ⟨rfl, ht⟩

theorem lawFewestRows_all (k0 : Int) (k1 : Int) (w : World)  :
    Calls Try.prog 6 #[.agg #[.int .i64 k0, .int .i64 k1]] w fun e w' => e = .returned (.bool true) ∧ Below w.heap.size w w' := by
  exact lawFewestRows_small k0 k1 w  
end Go.Proofs.Ytjadoehdhbilcaa

namespace Go.Proofs.Ytjadoehdhbilcaa.fewestRows
open Go.ChangeShapes Go.WideShapes Go.ChangeAt Go.RowKit Go.Joins

set_option maxRecDepth 100000 in
theorem lifted (os : Os) (started : os.Started) (H : Type) (enc : TypeId × Value → H) :
    ReturnsInHanded {} Try.checked os 6 .any (Rows.fnExactFewestRowsSpec.pre6 enc Try.prog Try.f6 Rows.fnExactFewestRowsRow.domain false) (Rows.fnExactFewestRowsSpec.post enc Try.prog Try.f6 false true false false) := by
  refine returnsInHanded_of_change (C := Try.checked) own started (by kernel_rfl) Try.func6
    (ChangeSpec.witness6 (enc := enc) (C := Try.checked) false ⟨#[], #[.agg #[.int .i64 0, .int .i64 0]], []⟩ 8 (by kernel_rfl) (by kernel_rfl) (by kernel_rfl) (by kernel_rfl)) ?_
  intro W base args ds gs before hval0 hW hcnd _
  have hval : ∀ (j : Nat) t v, Try.f6.params[j]? = some t → args[j]? = some v → Value.okWide Try.prog W .any base t v := hval0
  have hW' := hW
  obtain ⟨p, q, hA0, hV, rfl, hfz, hnd⟩ := hW
  have hA : DataW.TrodAll enc Try.prog W 0 (fun _ => true) true Try.f6.params.toList args.toList ds p := hA0
  rw [Try.params6] at hA hval
  obtain ⟨v0, vs0, d0, ds0, p0, q0, hargs, rfl, rfl, h0, r0⟩ := trodAll_cons hA
  obtain ⟨rfl, rfl, rfl⟩ := trodAll_nil r0
  obtain rfl : args = #[v0] := by cases args; simp_all
  obtain ⟨rfl, rfl⟩ := trodVars_none hV
  have lt0 : ∀ x ∈ p0, x.block < W.heap.size := by obtain ⟨m, hm⟩ := h0; exact DataW.trod_lt m _ _ _ hm
  obtain ⟨k0, m0, hv0⟩ := open_company (hval 0 23 v0 rfl rfl) h0
  subst hv0
  clear hA0 hval0
  refine (lawFewestRows_all k0 m0 W ).mono fun e W' ⟨he, bel⟩ => ?_
  subst he
  exact ⟨_, rfl, _, _, _, [], _, [], hW', trodAll_mk1 (shut_bool Try.underlying4 _), (trodAll_cons_mk (Below.trod laidOut (by kernel_rfl) (of_decide_eq_true (by kernel_rfl)) h0 bel lt0) trodAll_mk0), rfl, bel.frame _, fun h => by cases h⟩

set_option maxHeartbeats 8000000 in
theorem facts : joinedFacts Try.prog 6 Try.f6 Rows.fnExactFewestRowsSpec Rows.fnExactFewestRowsRow = true := by
  unfold joinedFacts
  rw [enter.laid, enter.rowed, enter.heard, enter.keys, enter.mayEnter, enter.liftsFinal, enter.make]
  simp only [Bool.and_eq_true]
  repeat' apply And.intro
  all_goals (first | exact True.intro | (as_aux_lemma => kernel_rfl))

theorem named_ : Try.prog.funcNamed Rows.fnExactFewestRowsRow.func = some 6 := by kernel_rfl
theorem instance_ : Try.f6.isInstance Try.prog Rows.fnExactFewestRowsRow.origin Rows.fnExactFewestRowsRow.targs := of_decide_eq_true (by kernel_rfl)
theorem wrapper_ : Try.f6.isWrapper Try.prog Rows.fnExactFewestRowsRow.wrapper Rows.fnExactFewestRowsRow.mainSum := by
  unfold Func.isWrapper; first | (rw [if_pos (by decide +kernel)]; kernel_rfl) | (rw [if_neg (by decide +kernel)]; exact ⟨rfl, rfl⟩)

theorem proved : Rows.FnExactFewestRowsSaid :=
  OpenClaim.holds_of_wide 6 Try.f6 rfl rfl rfl rfl rfl rfl rfl ⟨rfl, rfl, rfl, rfl, rfl⟩ rfl rfl rfl rfl rfl named_ Try.func6 facts
    instance_ wrapper_ (fun os started H enc _ => lifted os started H enc)
#print axioms proved
end Go.Proofs.Ytjadoehdhbilcaa.fewestRows
