/-
  What is proved: contracts of the program's least number of moves over a crew's river, and of its FewestOfCrew. Conditions: the arguments are read as they lie.
  What is proved: the contract of the program's moves that lead nearer (onward) over a company's river. Conditions: there is a company; the map has a number for each state that it knows.
  What is proved: the contract of the program's moves that lead nearer (onward) over a crew's river. Conditions: at most eight people; the rides are rising lists of them.
  What is proved: two places compared by == are the same exactly if their numbers are. Conditions: at most eight people.
  What is proved: the contract of the program's first shortest list of moves over a crew's river. Conditions: at most seven people; the rides are rising lists of them.
  What is proved: plain facts on the model's queue of a crew's states, beside the program's search: the same states in the same order. Conditions: at most seven people.
  What is proved: the contract of the model's number of a crew's first state. Conditions: at most eight people.
  What is proved: a contract of the model's CountReachedCrews. Conditions: the arguments are read as they lie.
  What is proved: the contract of the model's loFar: the least cost from each state of a crew to the last one, by their numbers. Conditions: a crew, whose boat may carry up to 4000.
  What is proved: contracts of the model's loLeast, FewestOfCrew and LeastCarried: the least cost of a plan of a crew. Conditions: the arguments are read as they lie.
  What is proved: the program's and the model's least numbers of rides of a crew are one; contracts of both FewestOfCrew in the same words. Conditions: the arguments are read as they lie.
  What is proved: how a law's arguments, as they come in, are opened: a list of numbers, a party. Conditions: none beyond the reading itself.
  What is proved: how further arguments of a law, as they come in, are opened: a number, a list of lists of numbers. Conditions: none beyond the reading itself.
  What is proved: how a crew among a law's arguments, as it comes in, is opened. Conditions: none beyond the reading itself.
  What is proved: the law FnExactFewestOfCrew returns true at every argument, and leaves all that was there as it was. Conditions: the arguments are read as they lie.
-/
import Derived.Deep.DeepCutAuto
import Derived.Deep.LoopGhost
import Derived.Test.YtlpeimlbpiofkaaRows
import Derived.WalkKit
import Derived.ProofKit
import Derived.OpenShut
import Derived.ChangeOld
import Derived.Below
import Derived.Lib.SmallJoins
import Derived.Deep.Slices
import Derived.Deep.Grids
import Derived.Deep.Matrix
import Derived.Deep.RegionHeld3
import Derived.Test.YtlpeimlbpiofkaaJ6FewestOfCrew
set_option linter.unusedSimpArgs false
set_option linter.unusedVariables false
namespace Go.Proofs.Ytlpeimlbpiofkaa
open Go.RowKit Go.Maps Go.WideShapes

theorem plcW_last {p : Nat} (h1 : 1 ≤ p) (hp : p ≤ 7) : plcC 4 (2 * 2 ^ p - 1) = place9 (firstN p) true := by
  have h : p = 1 ∨ p = 2 ∨ p = 3 ∨ p = 4 ∨ p = 5 ∨ p = 6 ∨ p = 7 := by omega
  rcases h with rfl | rfl | rfl | rfl | rfl | rfl | rfl <;> rfl
theorem lastW_mem {p : Nat} (hp : p ≤ 7) : 2 * 2 ^ p - 1 ∈ sts 4 := by
  have h : 2 ^ p ≤ 2 ^ (2 * 4) := Nat.pow_le_pow_right (by omega) (by omega)
  have h2 := Nat.two_pow_pos p
  exact sts_mem.2 (by omega)
noncomputable def fewNW (p : Nat) (L : List (List Int)) : Int := (lk (finW 4 L (2 * 2 ^ p - 1)).1 0).getD 0
noncomputable def fewBW (p : Nat) (L : List (List Int)) : Bool := (lk (finW 4 L (2 * 2 ^ p - 1)).1 0).isSome
noncomputable def fewW (xs : List Int) (bs : List Bool) (m : Nat) (s : Int) : Int := if isCrew xs m s then fewNW xs.length (crewLists xs bs s) else 0
noncomputable def fewWO (xs : List Int) (bs : List Bool) (m : Nat) (s : Int) : Bool := isCrew xs m s && fewBW xs.length (crewLists xs bs s)
theorem yields_crew {ops : Array Oper} {S : World → Prop} {o : Oper} {a : Act} {g p gL : Nat} (hw : Region.wanted o (yielded ops a.tmps) = true) (x : Operand) (ho : o.op = .load 115 x) (hx : a.eval x = .pointer (some ⟨g, 0, none⟩))
    (hS : ∀ w, S w → Whole w g 115 (crewCells p gL)) : YieldsIf Try.prog ops S o (.agg (crewCells p gL)) a :=
  .inl ⟨hw, fun w hw' => by
    unfold execOp
    simp only [ho, hx, Instr.loadAt, Instr.sureAddr, Sem.run_bind, Sem.run_pure, Result.andThen_ok, run_loadVar_row (P := Try.prog) w g 115 115 (crewCells p gL) (0, 0) _ (hS w hw') Try.underlying115 rfl size_river]⟩
theorem w9l_of {w : World} {g p gL : Nat} {t : TypeId} (h : Whole w g t (crewCells p gL)) : w.cell? ⟨g, 9, none⟩ = some (.bool (firstN p 0)) ∧ w.cell? ⟨g, 10, none⟩ = some (.bool (firstN p 1)) ∧ w.cell? ⟨g, 11, none⟩ = some (.bool (firstN p 2)) ∧ w.cell? ⟨g, 12, none⟩ = some (.bool (firstN p 3)) ∧ w.cell? ⟨g, 13, none⟩ = some (.bool (firstN p 4)) ∧ w.cell? ⟨g, 14, none⟩ = some (.bool (firstN p 5)) ∧ w.cell? ⟨g, 15, none⟩ = some (.bool (firstN p 6)) ∧ w.cell? ⟨g, 16, none⟩ = some (.bool (firstN p 7)) ∧ w.cell? ⟨g, 17, none⟩ = some (.bool true) := ⟨h.cell 9, h.cell 10, h.cell 11, h.cell 12, h.cell 13, h.cell 14, h.cell 15, h.cell 16, h.cell 17⟩

set_option maxHeartbeats 6400000 in
set_option maxRecDepth 100000 in
set_option linter.unusedSimpArgs false in
theorem fewestMovesW_any (T : List Int → Int) (p gL g : Nat) (E0 : Option Addr) (c : Nat) (L : List (List Int)) (w : World) (hp1 : 1 ≤ p) (hp : p ≤ 7) (hL : L.length ≤ 255) (hup : ∀ l ∈ L, l ∈ upLists (2 * 4) (2 * 4)) (hF0 : RidesFn w T gL g E0 c L) :
    Calls Try.prog 95 #[.agg (crewCells p gL)] w fun e w' => e = .returned (.tuple #[.int .i64 (fewNW p L), .bool (fewBW p L)]) ∧ Below w.heap.size w w' := by
  have hR := Whole.fresh w 115 (crewCells p gL)
  have hF := hF0.alloc (.cells (crewCells p gL) 115)
  have ht := below1 w (.cells (crewCells p gL) 115)
  clear hF0
  go_enter Try.func95, Try.ntmps95
  go_wp2_with fail
  refine wp_region_held_drew (S := (fun w' => Whole w' w.heap.size 115 (crewCells p gL))) (by kernel_rfl) hR.drew (fun hHeld => ?_)
  replace hR := hR.drew
  replace hF := hF.drew
  replace ht := ht.drew
  refine wpAnyH_take (i := 0) (v := .agg (crewCells p gL)) rfl (by kernel_rfl) (by kernel_rfl) (by kernel_rfl) (fun _ _ _ h => h) (yields_crew rfl _ rfl rfl (fun _ h => h)) hHeld ?_
  simp only [Act.put, List.getElem_toArray, List.getElem_cons_succ, List.getElem_cons_zero, List.setIfInBounds_toArray, List.set_cons_succ, List.set_cons_zero]
  refine wpAnyH_take (i := 1) (v := ?_) rfl (by kernel_rfl) (by kernel_rfl) (by kernel_rfl) (fun _ _ _ h => h) (Or.inl ⟨rfl, ?_⟩) hHeld ?_
  rotate_left
  · intro w' hS; skip; go_simp <;> with_reducible rfl
  simp only [Act.put, List.getElem_toArray, List.getElem_cons_succ, List.getElem_cons_zero, List.setIfInBounds_toArray, List.set_cons_succ, List.set_cons_zero]
  refine wpAnyH_take (i := 2) (v := .agg #[.bool (firstN p 0), .bool (firstN p 1), .bool (firstN p 2), .bool (firstN p 3), .bool (firstN p 4), .bool (firstN p 5), .bool (firstN p 6), .bool (firstN p 7), .bool true]) rfl (by kernel_rfl) (by kernel_rfl) (by kernel_rfl) (fun _ _ _ h => h) (Or.inl ⟨rfl, fun w' hS => by obtain ⟨s0, s1, s2, s3, s4, s5, s6, s7, s8⟩ := w9l_of hS; go_simp⟩) hHeld ?_
  simp only [Act.put, List.getElem_toArray, List.getElem_cons_succ, List.getElem_cons_zero, List.setIfInBounds_toArray, List.set_cons_succ, List.set_cons_zero]
  refine wpAnyH_take (i := 4) (v := ?_) rfl (by kernel_rfl) (by kernel_rfl) (by kernel_rfl) (fun _ _ _ h => h) (Or.inl ⟨rfl, ?_⟩) hHeld ?_
  rotate_left
  · intro w' hS; skip; go_simp <;> with_reducible rfl
  simp only [Act.put, List.getElem_toArray, List.getElem_cons_succ, List.getElem_cons_zero, List.setIfInBounds_toArray, List.set_cons_succ, List.set_cons_zero]
  refine wpAnyH_take (i := 5) (v := .agg #[.bool false, .bool false, .bool false, .bool false, .bool false, .bool false, .bool false, .bool false, .bool false]) rfl (by kernel_rfl) (by kernel_rfl) (by kernel_rfl) (fun _ _ _ h => h) (Or.inl ⟨rfl, fun w' hS => by obtain ⟨s0, s1, s2, s3, s4, s5, s6, s7, s8⟩ := w9f_of hS; go_simp⟩) hHeld ?_
  simp only [Act.put, List.getElem_toArray, List.getElem_cons_succ, List.getElem_cons_zero, List.setIfInBounds_toArray, List.set_cons_succ, List.set_cons_zero]
  refine wpAnyH_ready (rs := [3]) (by kernel_rfl) (by simp) (AllReadyH.cons rfl (fun K hK => ?_) AllReadyH.nil)
  go_simp
  have hma := movesApartW_any T 4 p gL g E0 c (2 * 2 ^ p - 1) L _ (by omega) hL hup (lastW_mem hp) hF
  rw [plcW_last hp1 hp] at hma
  unfold place9 at hma
  refine hma.mono ?_
  clear hma
  rintro e w3 ⟨b, rfl, hM, hb⟩
  replace hR := hR.below hb
  replace ht := below_then ht hb ht.size
  clear hb hF
  refine hK.out _ _ hR (fun hHeld => ?_)
  clear hK K
  try simp only [Act.put, List.getElem_toArray, List.getElem_cons_succ, List.getElem_cons_zero, List.setIfInBounds_toArray, List.set_cons_succ, List.set_cons_zero]
  refine wpAnyH_ready (rs := [6]) (by kernel_rfl) (by simp) (AllReadyH.cons rfl (fun K hK => ?_) AllReadyH.nil)
  have hlk : (Instr.lookup 76 (.map (some b)) (.agg #[.bool false, .bool false, .bool false, .bool false, .bool false, .bool false, .bool false, .bool false, .bool false]) true).run Try.prog w3 = .ok (.tuple #[.int .i64 (fewNW p L), .bool (fewBW p L)]) w3 := by have h := MapIs.look_ok hM (place_keys (show 4 ≤ 4 by omega)) Try.underlying76 Try.underlying3 (hzero _) 0 (first_mem 4); rw [plc_first (show 4 ≤ 4 by omega)] at h; exact h
  go_simp
  clear hlk hM
  refine hK.out _ _ hR (fun hHeld => ?_)
  clear hK K
  try simp only [Act.put, List.getElem_toArray, List.getElem_cons_succ, List.getElem_cons_zero, List.setIfInBounds_toArray, List.set_cons_succ, List.set_cons_zero]
  refine wpAnyH_take (i := 7) (v := ?_) rfl (by kernel_rfl) (by kernel_rfl) (by kernel_rfl) (fun _ _ _ h => h) (Or.inl ⟨rfl, ?_⟩) hHeld ?_
  rotate_left
  · intro w' hS; skip; go_simp <;> with_reducible rfl
  simp only [Act.put, List.getElem_toArray, List.getElem_cons_succ, List.getElem_cons_zero, List.setIfInBounds_toArray, List.set_cons_succ, List.set_cons_zero]
  refine wpAnyH_take (i := 8) (v := ?_) rfl (by kernel_rfl) (by kernel_rfl) (by kernel_rfl) (fun _ _ _ h => h) (Or.inl ⟨rfl, ?_⟩) hHeld ?_
  rotate_left
  · intro w' hS; skip; go_simp <;> with_reducible rfl
  simp only [Act.put, List.getElem_toArray, List.getElem_cons_succ, List.getElem_cons_zero, List.setIfInBounds_toArray, List.set_cons_succ, List.set_cons_zero]
  refine wpAnyH_take (i := 9) (v := ?_) rfl (by kernel_rfl) (by kernel_rfl) (by kernel_rfl) (fun _ _ _ h => h) (Or.inl ⟨rfl, ?_⟩) hHeld ?_
  rotate_left
  · intro w' hS; skip; go_simp <;> with_reducible rfl
  simp only [Act.put, List.getElem_toArray, List.getElem_cons_succ, List.getElem_cons_zero, List.setIfInBounds_toArray, List.set_cons_succ, List.set_cons_zero]
  refine wpAnyH_take (i := 10) (v := ?_) rfl (by kernel_rfl) (by kernel_rfl) (by kernel_rfl) (fun _ _ _ h => h) (Or.inl ⟨rfl, ?_⟩) hHeld ?_
  rotate_left
  · intro w' hS; skip; go_simp <;> with_reducible rfl
  simp only [Act.put, List.getElem_toArray, List.getElem_cons_succ, List.getElem_cons_zero, List.setIfInBounds_toArray, List.set_cons_succ, List.set_cons_zero]
  refine wpAnyH_take (i := 11) (v := ?_) rfl (by kernel_rfl) (by kernel_rfl) (by kernel_rfl) (fun _ _ _ h => h) (Or.inl ⟨rfl, ?_⟩) hHeld ?_
  rotate_left
  · intro w' hS; skip; go_simp <;> with_reducible rfl
  simp only [Act.put, List.getElem_toArray, List.getElem_cons_succ, List.getElem_cons_zero, List.setIfInBounds_toArray, List.set_cons_succ, List.set_cons_zero]
  refine wpAnyH_done (by kernel_rfl) ?_ _
  clear hHeld
  go_wp2
  go_ret2
  exact ⟨rfl, ht⟩


set_option maxHeartbeats 1600000 in
set_option maxRecDepth 100000 in
theorem implFewestWC_any (A : Option Addr) (n kA : Nat) (B : Option Addr) (m d : Nat) (xs : List Int) (bs : List Bool) (s : Int) (w : World) (hA : Holds w A (nums xs)) (hB : Holds w B (bits bs)) (hx : xs.length = n) (hy : bs.length = m) (hn : n ≤ 9223372036854775807) (hkA : n ≤ kA) (hkB : kA ≤ 9223372036854775807) :
    Calls Try.prog 43 #[.agg #[.slice A n kA, .slice B m d, .int .i64 s]] w fun e w' => e = .returned (.tuple #[.int .i64 (fewW xs bs m s), .bool (fewWO xs bs m s)]) ∧ Below w.heap.size w w' := by
  have HX := Lib.hid hx
  have HY := Lib.hid hy
  have hc := Whole.fresh w 57 #[.slice A n kA, .slice B m d, .int .i64 s]
  have ht := below1 w (.cells #[.slice A n kA, .slice B m d, .int .i64 s] 57)
  have hic := isCrew_any A n kA B m d xs s _ (hA.below ht) HX.out hn
  cases h1 : isCrew xs m s
  · have HV : Hid (fewW xs bs m s = 0 ∧ fewWO xs bs m s = false) := by show _ ∧ _; simp [fewW, fewWO, h1]
    have H1 := Lib.hid h1
    clear h1
    go_enter Try.func43, Try.ntmps43
    go_wp2_with fail
    refine hic.mono ?_
    clear hic
    rintro e w1 ⟨rfl, hb⟩
    rw [H1.out]
    replace ht := below_then ht hb (by simp)
    clear hb hc
    go_wp2
    go_ret2
    exact ⟨by rw [HV.out.1, HV.out.2]; rfl, ht⟩
  · have hok := isCrew_ok h1
    have hn7 : n ≤ 7 := by have := hok.seven; omega
    have hn1 : 1 ≤ n := by have := hok.one; omega
    have hm8 : m ≤ 8 := by have := hok.rows; omega
    have HW := Lib.hid hok.weights
    have HSM := Lib.hid (crew_small (xs := xs) bs s (by omega))
    have HUP := Lib.hid (crew_up8 (xs := xs) (bs := bs) (s := s) (by omega))
    have HV : Hid (fewW xs bs m s = fewNW n (crewLists xs bs s) ∧ fewWO xs bs m s = fewBW n (crewLists xs bs s)) := by show _ ∧ _; simp [fewW, fewWO, h1, hx]
    have H1 := Lib.hid h1
    clear h1 hok hx hy
    obtain ⟨L, hL⟩ : ∃ L, L = crewLists xs bs s := ⟨_, rfl⟩
    have HL := Lib.hid hL
    rw [← HL.out] at HSM HUP HV
    clear hL
    go_enter Try.func43, Try.ntmps43
    go_wp2_with fail
    refine hic.mono ?_
    clear hic
    rintro e w1 ⟨rfl, hb⟩
    rw [H1.out]
    replace ht := below_then ht hb (by simp)
    replace hc := hc.below hb
    clear hb
    obtain ⟨c0, c1, c2⟩ := hc.cells3
    have hlw := hc.lt
    go_wp2_with fail
    have hcr := crewRiverC_any A n kA B m d xs bs s w1 (hA.below ht) (hB.below ht) HX.out HY.out hn1 hn7 hm8 HW.out hkA hkB
    rw [← HL.out] at hcr
    refine hcr.mono ?_
    clear hcr
    rintro e w2 ⟨gL, g, E, c, rfl, hF, hb⟩
    replace ht := below_then ht hb ht.size
    clear hb c0 c1 c2 hc hlw
    have hfm := fewestMovesW_any (loadOf xs) n gL g E c L w2 hn1 hn7 HSM.out HUP.out hF
    go_wp2_with fail
    refine hfm.mono ?_
    clear hfm
    rintro e w3 ⟨rfl, hb⟩
    replace ht := below_then ht hb ht.size
    clear hb hF
    go_wp2
    go_ret2
    exact ⟨by rw [HV.out.1, HV.out.2]; rfl, ht⟩
theorem implFewestW_any (A : Option Addr) (n : Nat) (B : Option Addr) (m d : Nat) (xs : List Int) (bs : List Bool) (s : Int) (w : World) (hA : Holds w A (nums xs)) (hB : Holds w B (bits bs)) (hx : xs.length = n) (hy : bs.length = m) (hn : n ≤ 9223372036854775807) :
    Calls Try.prog 43 #[.agg #[.slice A n n, .slice B m d, .int .i64 s]] w fun e w' => e = .returned (.tuple #[.int .i64 (fewW xs bs m s), .bool (fewWO xs bs m s)]) ∧ Below w.heap.size w w' := implFewestWC_any A n n B m d xs bs s w hA hB hx hy hn (Nat.le_refl _) hn
end Go.Proofs.Ytlpeimlbpiofkaa

namespace Go.Proofs.Ytlpeimlbpiofkaa
open Go.RowKit Go.Maps Go.WideShapes

/-- How many moves are left, as the program reads it. -/
def leftI (m : List (Nat × Int)) (y : Nat) : Int := (lk m y).getD 0
noncomputable def nearer (m : List (Nat × Int)) (x : Nat) (l : List Int) : Bool := decide (leftI m (stepC x l) < leftI m x)
noncomputable def onM (k q : Nat) (m : List (Nat × Int)) (x : Nat) : List (List Int) := (mvs k q x).filter (nearer m x)
noncomputable def nearJ (m : List (Nat × Int)) (x : Nat) (rs : List RowV) (j : Nat) : List RowV := (rs.take j).filter fun r => nearer m x r.xs
theorem nearJ_yes {m : List (Nat × Int)} {x : Nat} {rs : List RowV} {j : Nat} (hj : j < rs.length) (h : nearer m x rs[j].xs = true) : nearJ m x rs (j + 1) = nearJ m x rs j ++ [rs[j]] := by
  rw [nearJ, List.take_succ_eq_append_getElem hj, List.filter_append, nearJ]; simp only [List.filter_cons, h]; simp
theorem nearJ_no {m : List (Nat × Int)} {x : Nat} {rs : List RowV} {j : Nat} (hj : j < rs.length) (h : nearer m x rs[j].xs = false) : nearJ m x rs (j + 1) = nearJ m x rs j := by
  rw [nearJ, List.take_succ_eq_append_getElem hj, List.filter_append, nearJ]; simp only [List.filter_cons, h]; simp
theorem nearJ_len (m : List (Nat × Int)) (x : Nat) (rs : List RowV) (j : Nat) : (nearJ m x rs j).length ≤ rs.length :=
  Nat.le_trans (List.length_filter_le _ _) (List.length_take_le' _ _)
theorem nearJ_all {m : List (Nat × Int)} {x : Nat} {rs : List RowV} {ls : List (List Int)} (h : rowNums rs = ls) : rowNums (nearJ m x rs rs.length) = ls.filter (nearer m x) := by
  rw [nearJ, List.take_length, ← h, rowNums, rowNums, List.filter_map]; rfl
theorem nearJ_mem {m : List (Nat × Int)} {x : Nat} {rs : List RowV} {j : Nat} {r : RowV} (h : r ∈ nearJ m x rs j) : r ∈ rs := List.mem_of_mem_take (List.mem_filter.1 h).1
theorem fresh_lower {w : World} {lo lo' hi : Nat} {ty : TypeId} {A : Option Addr} {xs : List Value} (h : Fresh w lo hi ty A xs) (hl : lo' ≤ lo) : Fresh w lo' hi ty A xs := by
  rcases h with f1 | ⟨g, cs, e1, e2, e3, e4⟩
  · exact .inl f1
  · exact .inr ⟨g, cs, e1, by omega, e3, e4⟩
/-- Each of the rows lies in memory of the call's own. -/
theorem Spread.fresh {w : World} {lo : Nat} {A : Option Addr} {rs : List RowV} (h : Spread w lo A rs) : ∀ r ∈ rs, Fresh w lo w.heap.size 3 r.A (nums r.xs) ∧ r.xs.length = r.n ∧ r.n ≤ 1048576 := by
  obtain ⟨ps, ⟨h1, h2, -⟩, h3, -⟩ := h
  intro r hr
  obtain ⟨i, hi, rfl⟩ := List.getElem_of_mem hr
  obtain ⟨f1, f2, f3⟩ := h2 i rs[i] (ps[i]'(by omega)) (List.getElem?_eq_getElem hi) (List.getElem?_eq_getElem (by omega))
  obtain ⟨p1, p2⟩ := h3 (ps[i]'(by omega)) (List.getElem_mem _)
  refine ⟨?_, f2, f3⟩
  rcases f1 with f1 | ⟨g, cs, e1, e2, e3, e4⟩
  · exact .inl f1
  · exact .inr ⟨g, cs, e1, by omega, by omega, e4⟩
def OnwardPost (k q : Nat) (m : List (Nat × Int)) (x : Nat) (w : World) (e : Ending) (w' : World) : Prop :=
  ∃ (A : Option Addr) (c : Nat) (rs : List RowV), e = .returned (.slice A rs.length c) ∧ rowNums rs = onM k q m x ∧ w'.ownsRow w.heap.size 155 10 (.slice A rs.length c) rs.length (movesCells (bitsOf (x / 2) (2 * k)) (bitAt x 0) rs) ∧ (∀ r ∈ rs, Fresh w' w.heap.size w'.heap.size 3 r.A (nums r.xs) ∧ r.xs.length = r.n ∧ r.n ≤ 1048576) ∧ Below w.heap.size w w'

end Go.Proofs.Ytlpeimlbpiofkaa

namespace Go.Proofs.Ytlpeimlbpiofkaa
open Go.RowKit Go.Maps Go.WideShapes

noncomputable def onW (k : Nat) (L : List (List Int)) (m : List (Nat × Int)) (x : Nat) : List (List Int) := (mvsW k L x).filter (nearer m x)
def OnwardPostW (k : Nat) (L : List (List Int)) (m : List (Nat × Int)) (x : Nat) (w : World) (e : Ending) (w' : World) : Prop :=
  ∃ (A : Option Addr) (c : Nat) (rs : List RowV), e = .returned (.slice A rs.length c) ∧ rowNums rs = onW k L m x ∧ w'.ownsRow w.heap.size 155 10 (.slice A rs.length c) rs.length (movesCells (bitsOf (x / 2) (2 * k)) (bitAt x 0) rs) ∧ (∀ r ∈ rs, Fresh w' w.heap.size w'.heap.size 3 r.A (nums r.xs) ∧ r.xs.length = r.n ∧ r.n ≤ 1048576) ∧ Below w.heap.size w w'

set_option maxHeartbeats 12800000 in
set_option maxRecDepth 100000 in
set_option linter.unusedSimpArgs false in
theorem onwardW_any (T : List Int → Int) (k p gL g : Nat) (E0 : Option Addr) (c0 b x : Nat) (L : List (List Int)) (m : List (Nat × Int)) (w : World) (hk : k ≤ 4) (hL : L.length ≤ 255) (hup : ∀ l ∈ L, l ∈ upLists (2 * k) (2 * k)) (hxd : x ∈ sts k) (hM : SeaMap k w b m) (hF : RidesFn w T gL g E0 c0 L) :
    Calls Try.prog 135 #[.agg (crewCells p gL), .map (some b), .agg (plcC k x)] w (OnwardPostW k L m x w) := by
  have HLL := Lib.hid hL
  have HUP := Lib.hid hup
  clear hL hup
  obtain ⟨i0, hi, hz0, hz1, hz2⟩ := info_parts info_move
  have HI := Lib.hid hi
  have HZ0 := Lib.hid hz0
  have HZ1 := Lib.hid hz1
  have HZ2 := Lib.hid hz2
  have HR := (Whole.fresh w 115 (crewCells p gL)).alloc (.cells (plcC k x) 75)
  have hat := Whole.fresh (w.alloc (.cells (crewCells p gL) 115)) 75 (plcC k x)
  rw [World.size_alloc] at hat
  have ht := below2 w (.cells (crewCells p gL) 115) (.cells (plcC k x) 75)
  have HM := Lib.hid ((hM.alloc (.cells (crewCells p gL) 115)).alloc (.cells (plcC k x) 75))
  have HFN := Lib.hid ((hF.alloc (.cells (crewCells p gL) 115)).alloc (.cells (plcC k x) 75))
  have e18 := crew_cell HR
  have hrl0 := HR.lt
  have HT := Lib.hid ht
  have HAT := Lib.hid hat
  obtain ⟨e0, e1, e2, e3, e4, e5, e6, e7, e8⟩ := nine0_of hat
  have hal := hat.lt
  clear hi hz0 hz1 hz2 hM hF ht hat HR
  unfold plcC place9 crewCells ridesFnV at HM HFN HT HAT e18 hrl0 e0 e1 e2 e3 e4 e5 e6 e7 e8 hal
  unfold plcC place9 crewCells ridesFnV
  go_enter Try.func135, Try.ntmps135
  go_wp2_with fail
  have hrf := ridesFn_any T (2 * k) gL g E0 c0 L (bitsOf (x / 2) (2 * k)) (bitAt x 0) _ (by omega) (bitsOf_len _ _) HLL.out HUP.out HFN.out
  rw [show placeCells (bitsOf (x / 2) (2 * k)) (bitAt x 0) = plcC k x from rfl] at hrf
  unfold plcC place9 at hrf
  refine hrf.mono ?_
  clear hrf
  rintro e w2 ⟨A1, c1, rs, rfl, hrn, hMv, hb⟩
  have HRN : Hid (rowNums rs = mvsW k L x) := hrn
  have hrl : rs.length ≤ 255 := by have h1 := congrArg List.length hrn; have h2 := mvsW_len (k := k) (x := x) HLL.out; rw [rowNums_len] at h1; rw [h1]; exact h2
  have hw12 := hb.size
  simp only [World.size_alloc] at hw12
  have HLO : Hid (w.heap.size + 1 + 1 ≤ w2.heap.size) := hw12
  have HT2 := Lib.hid (below_then HT.out hb HT.out.size)
  have HA2 := Lib.hid (HAT.out.below hb)
  have HM2 := Lib.hid (HM.out.below hb)
  have HMV := Lib.hid hMv
  clear hb hMv hrn e0 e1 e2 e3 e4 e5 e6 e7 e8 e18 hrl0 hal hw12 HT HAT HM HFN
  go_wp2
  go_loopw [7, 15] (fun v i wr => ∃ (j : Nat) (D : Option Addr) (c : Nat), j ≤ rs.length ∧ i = .int .i64 j ∧ v = .slice D (nearJ m x rs j).length c ∧ wr.ownsRow w2.heap.size 155 10 (.slice D (nearJ m x rs j).length c) (nearJ m x rs j).length (movesCells (bitsOf (x / 2) (2 * k)) (bitAt x 0) (nearJ m x rs j)) ∧ Below w2.heap.size w2 wr) (fun _ i _ => rs.length - (intOf i).toNat)
  case atStart => exact ⟨0, none, 0, Nat.zero_le _, rfl, rfl, World.ownsRow_nil _ _ _ _, Below.refl _ _⟩
  case round =>
    obtain ⟨j, D, c, hj, rfl, rfl, hown, hb⟩ := hrel
    obtain ⟨wz, rfl⟩ : ∃ W : World, W = wr := ⟨_, rfl⟩
    by_cases hlt : j < rs.length
    · have hd1 : decide ((j : Int) < (rs.length : Int)) = true := by simp; omega
      have hjm : j < (mvsW k L x).length := by have h := congrArg List.length HRN.out; rw [rowNums_len] at h; omega
      have hlj : (mvsW k L x)[j] = rs[j].xs := by have h := rowNums_get hlt; simp only [HRN.out] at h; exact h
      have hmem : rs[j].xs ∈ mvsW k L x := by rw [← hlj]; exact List.getElem_mem hjm
      obtain ⟨hpc, hyd⟩ := plcW_step HUP.out hxd hmem
      obtain ⟨gr, hA1, hgrl, a0, a1, a2, a3, a4, a5, a6, a7, a8, a9⟩ := own_moves_row (HMV.out.below hb).1 hlt hpc
      subst hA1
      have hjy := nearJ_yes (m := m) (x := x) hlt
      have hjn := nearJ_no (m := m) (x := x) hlt
      have HMC : Hid (moveCells (bitsOf (x / 2) (2 * k)) (bitAt x 0) rs[j] = rs[j].val :: (plcC k (stepC x rs[j].xs)).toList) := by show _ = _; rw [moveCells, hpc]
      have hjl := nearJ_len m x rs j
      unfold nearer at hjy hjn
      obtain ⟨y, hy⟩ : ∃ y, stepC x rs[j].xs = y := ⟨_, rfl⟩
      rw [hy] at hyd a1 a2 a3 a4 a5 a6 a7 a8 a9 hjy hjn HMC
      obtain ⟨r, hr⟩ : ∃ r, rs[j] = r := ⟨_, rfl⟩
      rw [hr] at a0 hjy HMC
      have hrv : r.val = .slice r.A r.n r.c := rfl
      rw [hrv] at a0 HMC
      generalize r.A = rA at a0 HMC
      generalize r.n = rn at a0 HMC
      generalize r.c = rc at a0 HMC
      clear hpc hmem hlj hjm hy hr hrv
      generalize nearJ m x rs j = ns at hown hjy hjn hjl ⊢
      obtain ⟨dy, hdy⟩ : ∃ d, leftI m y = d := ⟨_, rfl⟩
      obtain ⟨dx, hdx⟩ : ∃ d, leftI m x = d := ⟨_, rfl⟩
      rw [hdy, hdx] at hjy hjn
      have HSY := Lib.hid hjy
      have HSN := Lib.hid hjn
      have HB := Lib.hid (hb.alloc hb.size (.cells #[.slice rA rn rc, .bool (pf k y 0), .bool (pf k y 1), .bool (pf k y 2), .bool (pf k y 3), .bool (pf k y 4), .bool (pf k y 5), .bool (pf k y 6), .bool (pf k y 7), .bool (pt y)] 155))
      have HOWN := Lib.hid (ownsRow_below hown (below1 wz (.cells #[.slice rA rn rc, .bool (pf k y 0), .bool (pf k y 1), .bool (pf k y 2), .bool (pf k y 3), .bool (pf k y 4), .bool (pf k y 5), .bool (pf k y 6), .bool (pf k y 7), .bool (pt y)] 155)))
      have HX := Whole.fresh wz 155 #[.slice rA rn rc, .bool (pf k y 0), .bool (pf k y 1), .bool (pf k y 2), .bool (pf k y 3), .bool (pf k y 4), .bool (pf k y 5), .bool (pf k y 6), .bool (pf k y 7), .bool (pt y)]
      have HXR : wz.heap.size < (wz.alloc (.cells #[.slice rA rn rc, .bool (pf k y 0), .bool (pf k y 1), .bool (pf k y 2), .bool (pf k y 3), .bool (pf k y 4), .bool (pf k y 5), .bool (pf k y 6), .bool (pf k y 7), .bool (pt y)] 155)).heap.size := by simp
      have hx0 := HX.cell 0
      obtain ⟨t0, t1, t2, t3, t4, t5, t6, t7, t8⟩ := nine1_of HX
      obtain ⟨n0, n1, n2, n3, n4, n5, n6, n7, n8⟩ := nine0_of (HA2.out.below HB.out)
      have HMB := (HM2.out.below HB.out)
      have hlk1 : (Instr.lookup 76 (.map (some b)) (.agg #[.bool (pf k y 0), .bool (pf k y 1), .bool (pf k y 2), .bool (pf k y 3), .bool (pf k y 4), .bool (pf k y 5), .bool (pf k y 6), .bool (pf k y 7), .bool (pt y)]) false).run Try.prog (World.drew (wz.alloc (.cells #[.slice rA rn rc, .bool (pf k y 0), .bool (pf k y 1), .bool (pf k y 2), .bool (pf k y 3), .bool (pf k y 4), .bool (pf k y 5), .bool (pf k y 6), .bool (pf k y 7), .bool (pt y)] 155))) = .ok (.int .i64 dy) (World.drew (wz.alloc (.cells #[.slice rA rn rc, .bool (pf k y 0), .bool (pf k y 1), .bool (pf k y 2), .bool (pf k y 3), .bool (pf k y 4), .bool (pf k y 5), .bool (pf k y 6), .bool (pf k y 7), .bool (pt y)] 155))) := by have h := MapIs.look (map_drew HMB) (place_keys hk) Try.underlying76 Try.underlying3 (hzero _) y hyd; rw [show (lk m y).getD 0 = dy from hdy] at h; exact h
      have hlk2 : (Instr.lookup 76 (.map (some b)) (.agg #[.bool (pf k x 0), .bool (pf k x 1), .bool (pf k x 2), .bool (pf k x 3), .bool (pf k x 4), .bool (pf k x 5), .bool (pf k x 6), .bool (pf k x 7), .bool (pt x)]) false).run Try.prog (World.drew (wz.alloc (.cells #[.slice rA rn rc, .bool (pf k y 0), .bool (pf k y 1), .bool (pf k y 2), .bool (pf k y 3), .bool (pf k y 4), .bool (pf k y 5), .bool (pf k y 6), .bool (pf k y 7), .bool (pt y)] 155))) = .ok (.int .i64 dx) (World.drew (wz.alloc (.cells #[.slice rA rn rc, .bool (pf k y 0), .bool (pf k y 1), .bool (pf k y 2), .bool (pf k y 3), .bool (pf k y 4), .bool (pf k y 5), .bool (pf k y 6), .bool (pf k y 7), .bool (pt y)] 155))) := by have h := MapIs.look (map_drew HMB) (place_keys hk) Try.underlying76 Try.underlying3 (hzero _) x hxd; rw [show (lk m x).getD 0 = dx from hdx] at h; exact h
      have hbs := hb.size
      have HBS := Lib.hid hbs
      have hlo2 := HLO.out
      have hxl := HX.lt
      have hal2 := (HA2.out.below HB.out).lt
      clear hown hb hjy hjn hdy hdx HMB
      go_wp2_with fail
      go_region
      clear n0 n1 n2 n3 n4 n5 n6 n7 n8 hlk1 hlk2 hal2 a0 a1 a2 a3 a4 a5 a6 a7 a8 a9
      by_cases hd : dy < dx
      · have hdd : decide (dy < dx) = true := by simpa using hd
        have HNX := Lib.hid (HSY.out hdd)
        have HB1 := Lib.hid (HB.out.drew.alloc (by have := HB.out.size; simpa using this) (.cells #[.slice rA rn rc, .bool (pf k y 0), .bool (pf k y 1), .bool (pf k y 2), .bool (pf k y 3), .bool (pf k y 4), .bool (pf k y 5), .bool (pf k y 6), .bool (pf k y 7), .bool (pt y)] 155))
        have HO1 := Lib.hid (ownsRow_below HOWN.out ((Below.refl (wz.alloc (.cells #[.slice rA rn rc, .bool (pf k y 0), .bool (pf k y 1), .bool (pf k y 2), .bool (pf k y 3), .bool (pf k y 4), .bool (pf k y 5), .bool (pf k y 6), .bool (pf k y 7), .bool (pt y)] 155)).heap.size (wz.alloc (.cells #[.slice rA rn rc, .bool (pf k y 0), .bool (pf k y 1), .bool (pf k y 2), .bool (pf k y 3), .bool (pf k y 4), .bool (pf k y 5), .bool (pf k y 6), .bool (pf k y 7), .bool (pt y)] 155))).drew.alloc (by simp) (.cells #[.slice rA rn rc, .bool (pf k y 0), .bool (pf k y 1), .bool (pf k y 2), .bool (pf k y 3), .bool (pf k y 4), .bool (pf k y 5), .bool (pf k y 6), .bool (pf k y 7), .bool (pt y)] 155)))
        have hne := cells_new (World.drew (wz.alloc (.cells #[.slice rA rn rc, .bool (pf k y 0), .bool (pf k y 1), .bool (pf k y 2), .bool (pf k y 3), .bool (pf k y 4), .bool (pf k y 5), .bool (pf k y 6), .bool (pf k y 7), .bool (pt y)] 155))) 155 #[.slice rA rn rc, .bool (pf k y 0), .bool (pf k y 1), .bool (pf k y 2), .bool (pf k y 3), .bool (pf k y 4), .bool (pf k y 5), .bool (pf k y 6), .bool (pf k y 7), .bool (pt y)]
        rw [show (World.drew (wz.alloc (.cells #[.slice rA rn rc, .bool (pf k y 0), .bool (pf k y 1), .bool (pf k y 2), .bool (pf k y 3), .bool (pf k y 4), .bool (pf k y 5), .bool (pf k y 6), .bool (pf k y 7), .bool (pt y)] 155))).heap.size = wz.heap.size + 1 by simp [World.drew]] at hne
        have HNEW := Lib.hid hne
        have HMAX := Lib.hid (show ns.length + 1 ≤ maxLen by unfold maxLen; omega)
        have HBYT := Lib.hid (show (ns.length + 1) * 40 ≤ 140737488355328 by omega)
        have HBASE := Lib.hid (show w2.heap.size ≤ ((World.drew (wz.alloc (.cells #[.slice rA rn rc, .bool (pf k y 0), .bool (pf k y 1), .bool (pf k y 2), .bool (pf k y 3), .bool (pf k y 4), .bool (pf k y 5), .bool (pf k y 6), .bool (pf k y 7), .bool (pt y)] 155))).alloc (.cells #[.slice rA rn rc, .bool (pf k y 0), .bool (pf k y 1), .bool (pf k y 2), .bool (pf k y 3), .bool (pf k y 4), .bool (pf k y 5), .bool (pf k y 6), .bool (pf k y 7), .bool (pt y)] 155)).heap.size by have := HBS.out; simp [World.drew]; omega)
        clear hne
        go_wp2_with (at_builtin; refine wpList_append_lies _ rfl (.tmp 27) (.tmp 29) 153 rfl w2.heap.size 155 i0 (.agg #[.slice none 0 0, .bool false, .bool false, .bool false, .bool false, .bool false, .bool false, .bool false, .bool false, .bool false]) 10 40 Try.underlying153 HI.out HZ0.out HZ1.out HZ2.out rfl (by decide) (.slice D ns.length c) ns.length (movesCells (bitsOf (x / 2) (2 * k)) (bitAt x 0) ns) rfl HO1.out ⟨wz.heap.size + 1, 0, none⟩ 1 1 [.slice rA rn rc, .bool (pf k y 0), .bool (pf k y 1), .bool (pf k y 2), .bool (pf k y 3), .bool (pf k y 4), .bool (pf k y 5), .bool (pf k y 6), .bool (pf k y 7), .bool (pt y)] rfl rfl HNEW.out (by simp [Value.oneCell']) (by decide) HMAX.out HBYT.out HBASE.out (wz.heap.size + 1 + 1) (by simp [World.drew]) ?_; intro g1 cap w5 hown4 hg4 hat4 hlt4)
        have HBN := Lib.hid (HB1.out.grown hg4 HBASE.out (fun kk hkk => (HO1.out.lt kk hkk).1))
        have HO4 : Hid (w5.ownsRow w2.heap.size 155 10 (.slice (some ⟨g1, 0, none⟩) (ns.length + 1) cap) (ns.length + 1) (movesCells (bitsOf (x / 2) (2 * k)) (bitAt x 0) (ns ++ [r]))) := by show World.ownsRow _ _ _ _ _ _ _; rw [movesCells_snoc, HMC.out]; exact hown4
        clear hown4 hg4 hat4 hlt4 hx0 t0 t1 t2 t3 t4 t5 t6 t7 t8
        go_roundw
        case rel => exact ⟨j + 1, some ⟨g1, 0, none⟩, cap, by omega, by go_num, by rw [HNX.out, List.length_append]; rfl, by rw [HNX.out, List.length_append]; exact HO4.out, HBN.out⟩
        case measure => simp [intOf]; omega
      · have hdd : decide (dy < dx) = false := by simpa using hd
        have HNX := Lib.hid (HSN.out hdd)
        have HB1 := Lib.hid HB.out.drew
        have HO1 := Lib.hid (ownsRow_below HOWN.out ((Below.refl (wz.alloc (.cells #[.slice rA rn rc, .bool (pf k y 0), .bool (pf k y 1), .bool (pf k y 2), .bool (pf k y 3), .bool (pf k y 4), .bool (pf k y 5), .bool (pf k y 6), .bool (pf k y 7), .bool (pt y)] 155)).heap.size (wz.alloc (.cells #[.slice rA rn rc, .bool (pf k y 0), .bool (pf k y 1), .bool (pf k y 2), .bool (pf k y 3), .bool (pf k y 4), .bool (pf k y 5), .bool (pf k y 6), .bool (pf k y 7), .bool (pt y)] 155))).drew))
        clear hx0 t0 t1 t2 t3 t4 t5 t6 t7 t8
        go_wp2
        go_roundw
        case rel => exact ⟨j + 1, D, c, by omega, by go_num, by rw [HNX.out], by rw [HNX.out]; exact HO1.out, HB1.out⟩
        case measure => simp [intOf]; omega
    · obtain rfl : j = rs.length := by omega
      have hd1 : decide ((rs.length : Int) < (rs.length : Int)) = false := by simp
      have HO := Lib.hid (own_lower hown (show w.heap.size ≤ w2.heap.size by have := HLO.out; omega))
      have HBN := Lib.hid (below_then HT2.out hb HT2.out.size)
      have HFR : Hid (∀ r ∈ nearJ m x rs rs.length, Fresh wz w.heap.size wz.heap.size 3 r.A (nums r.xs) ∧ r.xs.length = r.n ∧ r.n ≤ 1048576) := fun r hr => by
        obtain ⟨h1, h2, h3⟩ := (HMV.out.2.below hb).fresh r (nearJ_mem hr)
        exact ⟨fresh_lower h1 (by simp; omega), h2, h3⟩
      have HAL := Lib.hid (nearJ_all (m := m) (x := x) HRN.out)
      clear hown hb
      generalize nearJ m x rs rs.length = ns at *
      go_wp2
      go_ret
      exact ⟨_, _, _, rfl, HAL.out, HO.out, HFR.out, HBN.out⟩
end Go.Proofs.Ytlpeimlbpiofkaa

namespace Go.Proofs.Ytlpeimlbpiofkaa

theorem same_place {x y : Nat} (hx : x ∈ sts 4) (hy : y ∈ sts 4) : (samePlace (pf 4 x 0) (pf 4 x 1) (pf 4 x 2) (pf 4 x 3) (pf 4 x 4) (pf 4 x 5) (pf 4 x 6) (pf 4 x 7) (pt x) (pf 4 y 0) (pf 4 y 1) (pf 4 y 2) (pf 4 y 3) (pf 4 y 4) (pf 4 y 5) (pf 4 y 6) (pf 4 y 7) (pt y)) = decide (x = y) := by
  by_cases h : x = y
  · subst h
    simp [samePlace, sameEight]
  · rw [decide_eq_false h]
    cases hs : (samePlace (pf 4 x 0) (pf 4 x 1) (pf 4 x 2) (pf 4 x 3) (pf 4 x 4) (pf 4 x 5) (pf 4 x 6) (pf 4 x 7) (pt x) (pf 4 y 0) (pf 4 y 1) (pf 4 y 2) (pf 4 y 3) (pf 4 y 4) (pf 4 y 5) (pf 4 y 6) (pf 4 y 7) (pt y)) with
    | false => rfl
    | true =>
      simp only [samePlace, sameEight, Bool.and_eq_true, beq_iff_eq] at hs
      obtain ⟨⟨⟨⟨⟨⟨⟨⟨h0, h1⟩, h2⟩, h3⟩, h4⟩, h5⟩, h6⟩, h7⟩, h8⟩ := hs
      have hp : plc 4 x = plc 4 y := by rw [plc, plc, plcC, plcC, place9, place9, h0, h1, h2, h3, h4, h5, h6, h7, h8]
      have h9 := unplc_plc (k := 4) (by omega) hx
      rw [hp, unplc_plc (by omega) hy] at h9
      exact absurd h9.symm h
end Go.Proofs.Ytlpeimlbpiofkaa

namespace Go.Proofs.Ytlpeimlbpiofkaa
open Go.RowKit Go.Maps Go.WideShapes

theorem heads_only {w w' : World} {lo c b : Nat} {A : Option Addr} {rs : List RowV} {t : TypeId} {cs : Array Value} (h : Heads w lo A c rs) (ho : Only b w w') (hb : Whole w b t cs) (h1 : t ≠ 22) (h2 : t ≠ 3) : Heads w' lo A c rs := by
  obtain ⟨h0, ps, ⟨k1, k2, k3⟩, h3, h4⟩ := h
  refine ⟨own_only h0 ho hb h1, ps, ⟨k1, fun i r p hr hp => ?_, k3⟩, fun p hp => ⟨(h3 p hp).1, by rw [ho.size]; exact (h3 p hp).2⟩, h4⟩
  obtain ⟨f1, f2, f3⟩ := k2 i r p hr hp
  refine ⟨?_, f2, f3⟩
  rcases f1 with f1 | ⟨g, cs', e1, e2, e3, e4, e5⟩
  · exact .inl f1
  · exact .inr ⟨g, cs', e1, e2, e3, ho.whole e4 (whole_ne e4 hb h2.symm), e5⟩
theorem own_apart {w : World} {base size n b : Nat} {e t : TypeId} {v : Value} {xs : List Value} {cs : Array Value} (h : w.ownsRow base e size v n xs) (hb : Whole w b t cs) (hn : t ≠ e) : v.ownBlock ≠ some b := by
  obtain ⟨-, ⟨hv, -⟩ | ⟨q, cap, cur, hv, hq, hh, r⟩⟩ := h
  · rw [hv]; simp [Value.ownBlock]
  · have hw : Whole w q e cur := hh
    have h1 := whole_ne hb hw hn
    rw [hv]
    simp only [Value.ownBlock, Option.map_some]
    exact fun e => h1 (Option.some.inj e).symm
theorem fresh_wide {w : World} {lo hi hi' : Nat} {ty : TypeId} {A : Option Addr} {xs : List Value} (h : Fresh w lo hi ty A xs) (hl : hi ≤ hi') : Fresh w lo hi' ty A xs := by
  rcases h with f1 | ⟨g, cs, e1, e2, e3, e4⟩
  · exact .inl f1
  · exact .inr ⟨g, cs, e1, e2, by omega, e4⟩
theorem same_lastW {p x : Nat} (hp1 : 1 ≤ p) (hp : p ≤ 7) (hx : x ∈ sts 4) : (samePlace (pf 4 x 0) (pf 4 x 1) (pf 4 x 2) (pf 4 x 3) (pf 4 x 4) (pf 4 x 5) (pf 4 x 6) (pf 4 x 7) (pt x) (firstN p 0) (firstN p 1) (firstN p 2) (firstN p 3) (firstN p 4) (firstN p 5) (firstN p 6) (firstN p 7) true) = decide (x = 2 * 2 ^ p - 1) := by
  have h := same_place hx (lastW_mem hp)
  have h2 := plcW_last hp1 hp
  unfold plcC place9 at h2
  simp only [Array.mk.injEq, List.cons.injEq, Value.bool.injEq, and_true] at h2
  obtain ⟨e0, e1, e2, e3, e4, e5, e6, e7, e8⟩ := h2
  rw [e0, e1, e2, e3, e4, e5, e6, e7, e8] at h
  exact h
def oneT : List Int → Int := fun _ => 1
theorem one_leg (k : Nat) (L : List (List Int)) : One (RideE k L) = LegE oneT k L := by
  funext x t y
  refine propext ⟨?_, ?_⟩
  · rintro ⟨rfl, l, hl, rfl⟩
    exact ⟨l, hl, rfl, rfl⟩
  · rintro ⟨l, hl, h1, rfl⟩
    exact ⟨h1, l, hl, rfl⟩
theorem ones_ok {p : Nat} {L : List (List Int)} (hp1 : 1 ≤ p) (hp : p ≤ 7) (hL : L.length ≤ 255) (hup : ∀ l ∈ L, l ∈ upLists (2 * 4) (2 * 4)) : LeftOk oneT L (2 * 2 ^ p - 1) (lk (finW 4 L (2 * 2 ^ p - 1)).1) where
  least := by have h := leastW (k := 4) hL hup (lastW_mem hp); rwa [one_leg] at h
  dom := fun y v hy => (count_run hup (lastW_mem hp) (fun n y hy => (mild_runW hL hup (lastW_mem hp) n).dom y hy) (turns 4)).dom (y, v) (lk_mem hy)
  time := fun l _ => ⟨Int.le_refl _, by show (1 : Int) ≤ _; decide⟩
  up := hup
theorem onW_best {L : List (List Int)} {e x : Nat} {m : List (Nat × Int)} {v : Int} (h : LeftOk oneT L e (lk m)) (hx : lk m x = some v) : onW 4 L m x = bestOf oneT L (lk m) x := by
  have h3 : bestOf oneT L (lk m) x = (mvsW 4 L x).filter fun l => decide (oneT l + lf (lk m) (stepC x l) = lf (lk m) x) := by
    rw [bestOf, mvsW, ridesAt, List.filter_filter]
    exact List.filter_congr fun l _ => Bool.and_comm _ _
  rw [onW, h3]
  refine List.filter_congr fun l hl => ?_
  obtain ⟨u, hu⟩ := h.step hx hl
  obtain ⟨b, hb, hle⟩ := h.least.edge _ (oneT l) x u hu ⟨l, mvs_back h.up (h.dom _ _ hx) hl, rfl, (step_back l).symm⟩
  rw [hx] at hb
  obtain rfl := Option.some.inj hb
  unfold nearer leftI lf
  rw [hx, hu]
  show decide (u < v) = decide ((1 : Int) + u = v)
  rw [decide_eq_decide]
  unfold oneT at hle
  omega
theorem first_rowW {k x : Nat} {L : List (List Int)} {m : List (Nat × Int)} {rs : List RowV} {l : List Int} (hrn : rowNums rs = onW k L m x) (hh : (onW k L m x).head? = some l) : ∃ h : 0 < rs.length, rs[0].xs = l ∧ l ∈ mvsW k L x := by
  have hm : l ∈ onW k L m x := List.mem_of_head? hh
  rw [← hrn] at hh
  cases rs with
  | nil => simp [rowNums] at hh
  | cons r t =>
    simp [rowNums] at hh
    exact ⟨by simp, by simpa using hh, (List.mem_filter.1 hm).1⟩
/-- The first shortest list of rides. -/
noncomputable def planW (p : Nat) (L : List (List Int)) : List (List Int) := if fewBW p L then goB oneT L (lk (finW 4 L (2 * 2 ^ p - 1)).1) 512 0 else []

set_option maxHeartbeats 12800000 in
set_option maxRecDepth 100000 in
set_option linter.unusedSimpArgs false in
theorem firstMovesW_any (T : List Int → Int) (p gL g : Nat) (E0 : Option Addr) (c0 : Nat) (L : List (List Int)) (w : World) (hp1 : 1 ≤ p) (hp : p ≤ 7) (hL : L.length ≤ 255) (hup : ∀ l ∈ L, l ∈ upLists (2 * 4) (2 * 4)) (hF0 : RidesFn w T gL g E0 c0 L) :
    Calls Try.prog 98 #[.agg (crewCells p gL)] w (BackPost (planW p L) (fewBW p L) w) := by
  obtain ⟨i0, hi, hz0, hz1, hz2⟩ := info_parts info_row
  have HI := Lib.hid hi
  have HZ0 := Lib.hid hz0
  have HZ1 := Lib.hid hz1
  have HZ2 := Lib.hid hz2
  have hR := Whole.fresh w 115 (crewCells p gL)
  have hF := hF0.alloc (.cells (crewCells p gL) 115)
  have ht := below1 w (.cells (crewCells p gL) 115)
  clear hF0 hi hz0 hz1 hz2
  obtain ⟨l0, l1, l2, l3, l4, l5, l6, l7, l8⟩ := w9l_of hR
  have hrl := hR.lt
  go_enter Try.func98, Try.ntmps98
  go_wp2_with (refine wpList_load_row rfl 115 (.tmp 1) rfl w.heap.size rfl 115 (crewCells p gL) (0, 0) _ hR Try.underlying115 rfl size_river ?_)
  have hma := movesApartW_any T 4 p gL g E0 c0 (2 * 2 ^ p - 1) L _ (by omega) hL hup (lastW_mem hp) hF
  rw [plcW_last hp1 hp] at hma
  unfold place9 at hma
  refine hma.mono ?_
  clear hma
  rintro e w1 ⟨b, rfl, hM, hb⟩
  replace hR := hR.below hb
  replace hF := hF.below hb
  have hsz1 := hb.size
  rw [World.size_alloc] at hsz1
  replace ht := below_then ht hb ht.size
  clear hb l0 l1 l2 l3 l4 l5 l6 l7 l8 hrl
  obtain ⟨f0, f1, f2, f3, f4, f5, f6, f7, f8⟩ := w9f_of hR
  have hrl := hR.lt
  have hlk : (Instr.lookup 76 (.map (some b)) (.agg #[.bool false, .bool false, .bool false, .bool false, .bool false, .bool false, .bool false, .bool false, .bool false]) true).run Try.prog w1 = .ok (.tuple #[.int .i64 (fewNW p L), .bool (fewBW p L)]) w1 := by have h := MapIs.look_ok hM (place_keys (show 4 ≤ 4 by omega)) Try.underlying76 Try.underlying3 (hzero _) 0 (first_mem 4); rw [plc_first (show 4 ≤ 4 by omega)] at h; exact h
  have HM := Lib.hid (show SeaMap 4 w1 b (finW 4 L (2 * 2 ^ p - 1)).1 from hM)
  have HF := Lib.hid hF
  have HR := Lib.hid hR
  have HT := Lib.hid ht
  clear hM hF ht
  cases hB : fewBW p L
  · have HL : Hid (planW p L = [] ∧ fewBW p L = false) := by show _ ∧ _; simp [planW, hB]
    rw [hB] at hlk
    clear hB
    go_wp2
    go_ret2
    rw [HL.out.1, HL.out.2]
    exact BackPost.no HT.out
  · have HL : Hid (planW p L = goB oneT L (lk (finW 4 L (2 * 2 ^ p - 1)).1) 512 0 ∧ fewBW p L = true) := by show _ ∧ _; simp [planW, hB]
    have HOK := Lib.hid (ones_ok hp1 hp hL hup)
    have HUP := Lib.hid hup
    have HLL := Lib.hid hL
    obtain ⟨v0, hv0⟩ : ∃ v0, lk (finW 4 L (2 * 2 ^ p - 1)).1 0 = some v0 := Option.isSome_iff_exists.1 hB
    have HG := Lib.hid hv0
    clear hv0
    rw [hB] at hlk
    clear hB
    have hp0 := Whole.fresh w1 75 #[.bool false, .bool false, .bool false, .bool false, .bool false, .bool false, .bool false, .bool false, .bool false]
    have HP0 : Hid (Whole (w1.alloc (.cells #[.bool false, .bool false, .bool false, .bool false, .bool false, .bool false, .bool false, .bool false, .bool false] 75)) w1.heap.size 75 (plcC 4 0)) := by
      have e : plcC 4 0 = #[.bool false, .bool false, .bool false, .bool false, .bool false, .bool false, .bool false, .bool false, .bool false] := by have h := plc_first (show 4 ≤ 4 by omega); rw [plc] at h; exact Value.agg.inj h
      show Whole _ _ _ _
      rw [e]; exact hp0
    have hpl0 := hp0.lt
    clear hp0
    generalize (finW 4 L (2 * 2 ^ p - 1)).1 = m at HM HG HOK HL
    go_wp2
    go_loopg [7, 8] 512 (fun gh v pv wr => ∃ (x gp : Nat) (u : Int) (rs : List RowV) (D : Option Addr) (cD : Nat), lk m x = some u ∧ lessN (sts 4) (lk m) u ≤ gh ∧ rowNums rs ++ goB oneT L (lk m) gh x = goB oneT L (lk m) 512 0 ∧ v = .slice D rs.length cD ∧ pv = .pointer (some ⟨gp, 0, none⟩) ∧ rs.length + gh = 512 ∧ Heads wr w1.heap.size D cD rs ∧ Whole wr gp 75 (plcC 4 x) ∧ w1.heap.size ≤ gp ∧ Below w1.heap.size w1 wr)
    case atStart => exact ⟨0, w1.heap.size, v0, [], none, 0, HG.out, Nat.le_trans (less_le _ _ _) (by rw [show (sts 4).length = 512 from List.length_range]; exact Nat.le_refl _), rfl, rfl, rfl, rfl, Heads.nil _ _, HP0.out, Nat.le_refl _, below1 _ _⟩
    case round =>
      clear HP0 HG f0 f1 f2 f3 f4 f5 f6 f7 f8 hlk hrl hpl0
      obtain ⟨x, gp, u, rs, D, cD, hg, hless, hls, rfl, rfl, hlen, hH, hP, hgp, hb⟩ := hrel
      have hxd := HOK.out.dom x u hg
      obtain ⟨wz, rfl⟩ : ∃ W : World, W = wr := ⟨_, rfl⟩
      have hR1 := HR.out.below hb
      have hrl := hR1.lt
      obtain ⟨l0, l1, l2, l3, l4, l5, l6, l7, l8⟩ := w9l_of hR1
      obtain ⟨p0, p1, p2, p3, p4, p5, p6, p7, p8⟩ := nine0_of hP
      have hpl := hP.lt
      have hsp := same_lastW hp1 hp hxd
      have HB := Lib.hid hb
      have HHD := Lib.hid hH
      have HPP := Lib.hid hP
      have HR1 := Lib.hid hR1
      have HLS := Lib.hid hls
      clear hb hH hP hR1 hls
      by_cases hx : x = 2 * 2 ^ p - 1
      · rw [decide_eq_true hx] at hsp
        have HDN : Hid (rowNums rs = goB oneT L (lk m) 512 0) := by
          have h := HLS.out
          have h0 := (HOK.out.zero hg).2 hx
          rw [goB_stop (by unfold lf; rw [hg]; exact h0), List.append_nil] at h
          exact h
        clear hg hless hx hxd
        go_wp2
        go_ret2
        rw [HL.out.1, HL.out.2]
        exact ⟨D, rs.length, cD, rs, rfl, HDN.out, rfl, (HHD.out.raise (show w.heap.size ≤ w1.heap.size by omega)).free, below_then HT.out HB.out HT.out.size⟩
      · rw [decide_eq_false hx] at hsp
        have hu1 : ¬ u ≤ 0 := fun h => hx ((HOK.out.zero hg).1 h)
        obtain ⟨f', l, r9, u2, rfl, hhd, hgo, hlm9, hg2, hl2, -⟩ := goB_next HOK.out hg (by omega) hless
        have HG := Lib.hid hg2
        have HLE := Lib.hid hl2
        have HGO := Lib.hid hgo
        have HHL : Hid ((onW 4 L m x).head? = some l) := by show _ = _; rw [onW_best HOK.out hg, hhd]; rfl
        clear hg hg2 hl2 hgo hhd hx hless hu1 hlm9
        go_wp2_with (refine wpList_load_row rfl 115 (.tmp 1) rfl w.heap.size rfl 115 (crewCells p gL) (0, 0) _ HR1.out Try.underlying115 rfl size_river ?_)
        have HON := onwardW_any T 4 p gL g E0 c0 b x L m wz (by omega) HLL.out HUP.out hxd (HM.out.below HB.out) (HF.out.below HB.out)
        unfold plcC place9 at HON
        refine HON.mono ?_
        clear HON l0 l1 l2 l3 l4 l5 l6 l7 l8 p0 p1 p2 p3 p4 p5 p6 p7 p8 hrl hpl hsp
        rintro e w2 ⟨A1, c1, rs1, rfl, hrn, hown, hfr, hb⟩
        obtain ⟨h0, hl0, hlm⟩ := first_rowW hrn HHL.out
        obtain ⟨hpc, hyd⟩ := plcW_step HUP.out hxd hlm
        obtain ⟨gr, hA1, hgrl, a0, a1, a2, a3, a4, a5, a6, a7, a8, a9⟩ := own_moves_row hown h0 (by rw [hl0]; exact hpc)
        subst hA1
        simp only [Nat.zero_mul, Nat.zero_add] at a0 a1 a2 a3 a4 a5 a6 a7 a8 a9
        obtain ⟨hf1, hf2, hf3⟩ := hfr rs1[0] (List.getElem_mem h0)
        obtain ⟨r, hr⟩ : ∃ r, rs1[0] = r := ⟨_, rfl⟩
        rw [hr] at a0 hf1 hf2 hf3 hl0
        obtain ⟨rA, rn, rc, rx⟩ := r
        simp only [RowV.val] at a0
        simp only at hl0 hf1 hf2 hf3
        subst hl0
        obtain ⟨y, hy⟩ : ∃ y, stepC x rx = y := ⟨_, rfl⟩
        have HG' : Hid (lk m y = some u2) := by rw [← hy]; exact HG
        have HGO' : Hid (goB oneT L (lk m) (f' + 1) x = rx :: goB oneT L (lk m) f' y) := by rw [← hy]; exact HGO
        rw [hy] at hyd a1 a2 a3 a4 a5 a6 a7 a8 a9
        clear hr hpc hown hfr hrn HG HGO hy hlm HHL
        generalize rs1.length = n1 at h0
        have hsz2 := hb.size
        have hlo := HB.out.size
        have HBY := Lib.hid (hb.alloc hsz2 (.cells #[.slice rA rn rc, .bool (pf 4 y 0), .bool (pf 4 y 1), .bool (pf 4 y 2), .bool (pf 4 y 3), .bool (pf 4 y 4), .bool (pf 4 y 5), .bool (pf 4 y 6), .bool (pf 4 y 7), .bool (pt y)] 155))
        have HBZ := Lib.hid ((hb.alloc hsz2 (.cells #[.slice rA rn rc, .bool (pf 4 y 0), .bool (pf 4 y 1), .bool (pf 4 y 2), .bool (pf 4 y 3), .bool (pf 4 y 4), .bool (pf 4 y 5), .bool (pf 4 y 6), .bool (pf 4 y 7), .bool (pt y)] 155)).alloc (by simp; omega) (.cells #[.slice rA rn rc] 22))
        have HX := Lib.hid (Whole.fresh w2 155 #[.slice rA rn rc, .bool (pf 4 y 0), .bool (pf 4 y 1), .bool (pf 4 y 2), .bool (pf 4 y 3), .bool (pf 4 y 4), .bool (pf 4 y 5), .bool (pf 4 y 6), .bool (pf 4 y 7), .bool (pt y)])
        have hx0 := HX.out.cell 0
        have hxl := HX.out.lt
        have HFR := Lib.hid (fresh_wide (hf1.alloc (.cells #[.slice rA rn rc, .bool (pf 4 y 0), .bool (pf 4 y 1), .bool (pf 4 y 2), .bool (pf 4 y 3), .bool (pf 4 y 4), .bool (pf 4 y 5), .bool (pf 4 y 6), .bool (pf 4 y 7), .bool (pt y)] 155)) (show w2.heap.size ≤ (w2.alloc (.cells #[.slice rA rn rc, .bool (pf 4 y 0), .bool (pf 4 y 1), .bool (pf 4 y 2), .bool (pf 4 y 3), .bool (pf 4 y 4), .bool (pf 4 y 5), .bool (pf 4 y 6), .bool (pf 4 y 7), .bool (pt y)] 155)).heap.size by simp))
        have HOWN := Lib.hid (ownsRow_below HHD.out.1 HBZ.out)
        have hcn := cell_one_new (w2.alloc (.cells #[.slice rA rn rc, .bool (pf 4 y 0), .bool (pf 4 y 1), .bool (pf 4 y 2), .bool (pf 4 y 3), .bool (pf 4 y 4), .bool (pf 4 y 5), .bool (pf 4 y 6), .bool (pf 4 y 7), .bool (pt y)] 155)) (.slice rA rn rc) 22
        rw [World.size_alloc] at hcn
        have HCN := Lib.hid hcn
        have HMAX := Lib.hid (show rs.length + 1 ≤ maxLen by unfold maxLen; omega)
        have HBYT := Lib.hid (show (rs.length + 1) * 24 ≤ 140737488355328 by omega)
        have HBASE := Lib.hid (show w1.heap.size ≤ ((w2.alloc (.cells #[.slice rA rn rc, .bool (pf 4 y 0), .bool (pf 4 y 1), .bool (pf 4 y 2), .bool (pf 4 y 3), .bool (pf 4 y 4), .bool (pf 4 y 5), .bool (pf 4 y 6), .bool (pf 4 y 7), .bool (pt y)] 155)).alloc (.cells #[.slice rA rn rc] 22)).heap.size by simp; omega)
        have HF2 := Lib.hid hf2
        have HF3 := Lib.hid hf3
        have HLEN := Lib.hid hlen
        clear hcn hf1 hf2 hf3 hb hlen
        go_upto_region 10 with (at_builtin; refine wpList_append_lies _ rfl (.tmp 35) (.tmp 38) 32 rfl w1.heap.size 22 i0 (.slice none 0 0) 1 24 Try.underlying32 HI.out HZ0.out HZ1.out HZ2.out rfl (by decide) (.slice D rs.length cD) rs.length (rowVals rs) rfl HOWN.out ⟨w2.heap.size + 1, 0, none⟩ 1 1 [.slice rA rn rc] rfl rfl HCN.out (by simp [Value.oneCell']) (by decide) HMAX.out HBYT.out HBASE.out (w2.heap.size + 1 + 1) (by simp) ?_; intro g5 cap w5 hown4 hg4 hat4 hlt4)
        have hwp2 := HPP.out.below HBZ.out
        have HP5 := Lib.hid (whole_apart hwp2 hg4 (fun e => own_apart HOWN.out hwp2 (by decide) e.symm))
        have hwx2 := HX.out.alloc (.cells #[.slice rA rn rc] 22)
        have hx5 := whole_apart hwx2 hg4 (fun e => own_apart HOWN.out hwx2 (by decide) e.symm)
        have hat5 : (Value.slice D rs.length cD).ownBlock = some g5 ∨ g5 = (w2.alloc (.cells #[.slice rA rn rc, .bool (pf 4 y 0), .bool (pf 4 y 1), .bool (pf 4 y 2), .bool (pf 4 y 3), .bool (pf 4 y 4), .bool (pf 4 y 5), .bool (pf 4 y 6), .bool (pf 4 y 7), .bool (pt y)] 155)).heap.size + 1 := by
          rcases hat4 with h | h
          · exact .inl h
          · exact .inr (by rw [h]; simp)
        have HH5 := Lib.hid (Heads.push (r := ⟨rA, rn, rc, rx⟩) HHD.out hlo HBY.out HFR.out HF2.out HF3.out hown4 hg4 hat5)
        have HB5 := Lib.hid ((below_then HB.out HBZ.out HB.out.size).grown hg4 HBASE.out (fun kk hkk => (HOWN.out.lt kk hkk).1))
        obtain ⟨t0, t1, t2, t3, t4, t5, t6, t7, t8⟩ := nine1_of hx5
        have hxl5 := hx5.lt
        clear hown4 hg4 hat4 hlt4 hwp2 hwx2 hx5 hx0 hxl a0 a1 a2 a3 a4 a5 a6 a7 a8 a9
        go_upto_region 11 with (refine wpList_store_whole rfl 75 (.tmp 8) (.tmp 41) rfl gp #[.bool (pf 4 y 0), .bool (pf 4 y 1), .bool (pf 4 y 2), .bool (pf 4 y 3), .bool (pf 4 y 4), .bool (pf 4 y 5), .bool (pf 4 y 6), .bool (pf 4 y 7), .bool (pt y)] rfl rfl 75 _ HP5.out size_place rfl (by simp [Value.oneCell']) ?_; intro W5 hw5 ho5)
        have HH6 := Lib.hid (heads_only HH5.out ho5 HP5.out (by decide) (by decide))
        have HB6 := Lib.hid (ho5.below HB5.out hgp)
        obtain ⟨s0, s1, s2, s3, s4, s5, s6, s7, s8⟩ := nine0_of (show Whole W5 gp 75 (plcC 4 y) from hw5)
        have hl6 := hw5.lt
        clear ho5 hw5 t0 t1 t2 t3 t4 t5 t6 t7 t8 hxl5
        go_wp2
        go_roundg f'
        case measure => omega
        case rel => exact ⟨y, W5.heap.size, u2, rs ++ [⟨rA, rn, rc, rx⟩], some ⟨g5, 0, none⟩, cap, HG'.out, HLE.out, by have h := HLS.out; rw [HGO'.out] at h; rw [rowNums, List.map_append]; simpa [rowNums] using h, by rw [List.length_append]; rfl, rfl, by have h := HLEN.out; rw [List.length_append, List.length_singleton]; omega, HH6.out.alloc _, Whole.fresh _ _ _, HB6.out.size, HB6.out.alloc HB6.out.size _⟩
end Go.Proofs.Ytlpeimlbpiofkaa

namespace Go.Proofs.Ytlpeimlbpiofkaa
open Go.RowKit Go.Maps

/-- The states that are told, in order. -/
def qOf (m : List (Nat × Int)) : List Nat := (m.map Prod.fst).reverse
theorem qOf_new (m : List (Nat × Int)) (y : Nat) (v : Int) : qOf ((y, v) :: m) = qOf m ++ [y] := by simp [qOf]
theorem lk_known : ∀ {m : List (Nat × Int)} {y : Nat} {v : Int}, lk m y = some v → y ∈ m.map Prod.fst
  | [], y, v, h => by cases h
  | (a, b) :: m, y, v, h => by
    rw [lk_cons] at h
    by_cases hq : y = a
    · subst hq; exact List.mem_cons_self ..
    · have h' : lk m y = some v := by simpa [put, hq] using h
      exact List.mem_cons_of_mem _ (lk_known h')
/-- The model's queue. -/
def qN (p : Nat) (m : List (Nat × Int)) : List Int := (qOf m).map fun z => ((phi p z : Nat) : Int)
theorem qN_new (p : Nat) (m : List (Nat × Int)) (y : Nat) (v : Int) : qN p ((y, v) :: m) = qN p m ++ [((phi p y : Nat) : Int)] := by simp [qN, qOf_new]
theorem qN_len (p : Nat) (m : List (Nat × Int)) : (qN p m).length = m.length := by simp [qN, qOf]
theorem has_known {p y : Nat} {m : List (Nat × Int)} {v : Int} (h : lk m y = some v) : hasK (qN p m) ((phi p y : Nat) : Int) = true := by
  unfold hasK
  rw [List.contains_iff_mem]
  exact List.mem_map.2 ⟨y, by simpa [qOf] using lk_known h, rfl⟩
theorem has_fresh {p y : Nat} {m : List (Nat × Int)} (hs : ∀ z ∈ qOf m, z / 2 < 2 ^ p) (hy : y / 2 < 2 ^ p) (h : lk m y = none) : hasK (qN p m) ((phi p y : Nat) : Int) = false := by
  rw [Bool.eq_false_iff]
  intro hc
  unfold hasK at hc
  rw [List.contains_iff_mem] at hc
  obtain ⟨z, hz, he⟩ := List.mem_map.1 hc
  have he' : phi p z = phi p y := by exact_mod_cast he
  obtain rfl := phi_inj (hs z hz) hy he'
  exact lk_none h (by simpa [qOf] using hz)
/-- The model's queue beside the program's search. -/
structure QIs (p n : Nat) (st : SeaSt) : Prop where
  small : ∀ z ∈ qOf st.1, z / 2 < 2 ^ p
  drop : st.2 = (qOf st.1).drop n
theorem QIs.step {p n x : Nat} {st : SeaSt} {l : List Int} (h : QIs p n st) (hn : n ≤ (qOf st.1).length) (hy : stepC x l / 2 < 2 ^ p) : QIs p n (stepP x st l) ∧ n ≤ (qOf (stepP x st l).1).length := by
  cases hs : lk st.1 (stepC x l) with
  | some v => rw [stepP_some hs]; exact ⟨h, hn⟩
  | none =>
    rw [stepP_none hs]
    refine ⟨⟨fun z hz => ?_, ?_⟩, ?_⟩
    · rw [qOf_new] at hz
      rcases List.mem_append.1 hz with hz | hz
      · exact h.small z hz
      · obtain rfl : z = stepC x l := by simpa using hz
        exact hy
    · rw [qOf_new, List.drop_append_of_le_length hn, ← h.drop]
    · rw [qOf_new, List.length_append]; omega
theorem QIs.exp {p n x : Nat} : ∀ (ls : List (List Int)) {st : SeaSt}, QIs p n st → n ≤ (qOf st.1).length → (∀ l ∈ ls, stepC x l / 2 < 2 ^ p) → QIs p n (ls.foldl (stepP x) st) ∧ n ≤ (qOf (ls.foldl (stepP x) st).1).length
  | [], _, h, hn, _ => ⟨h, hn⟩
  | l :: ls, st, h, hn, hl => by
    obtain ⟨h1, h2⟩ := h.step hn (hl l (List.mem_cons_self ..))
    exact QIs.exp ls h1 h2 fun m hm => hl m (List.mem_cons_of_mem _ hm)
theorem QIs.run {p : Nat} {L : List (List Int)} (hup : ∀ l ∈ L, l ∈ upLists p p) : ∀ n, QIs p n (runW 4 L 0 n)
  | 0 => ⟨fun z hz => by obtain rfl : z = 0 := by simpa [runW, qOf] using hz
                         simpa using Nat.two_pow_pos p, by simp [runW, qOf]⟩
  | n + 1 => by
    have h := QIs.run hup n
    rw [runW_next]
    cases hq : (runW 4 L 0 n).2 with
    | nil =>
      rw [nextW_nil hq]
      refine ⟨h.small, ?_⟩
      have h2 := h.drop
      rw [hq] at h2
      have h3 : (qOf (runW 4 L 0 n).1).length ≤ n := List.drop_eq_nil_iff.1 h2.symm
      rw [hq, List.drop_eq_nil_of_le (by omega)]
    | cons x r =>
      rw [nextW_at hq]
      have h2 := h.drop
      rw [hq] at h2
      have hn : n < (qOf (runW 4 L 0 n).1).length := by
        rcases Nat.lt_or_ge n (qOf (runW 4 L 0 n).1).length with h3 | h3
        · exact h3
        · rw [List.drop_eq_nil_of_le h3] at h2; cases h2
      have hx : x / 2 < 2 ^ p := h.small x (List.mem_of_mem_drop (by rw [← h2]; exact List.mem_cons_self ..))
      obtain ⟨h4, h5⟩ := QIs.exp (x := x) (mvsW 4 L x) h (by omega) (fun l hl => (phi_step hx (mvsW_up hup hl)).2)
      refine ⟨h4.small, ?_⟩
      show (expW 4 L x (runW 4 L 0 n)).2.tail = _
      have h6 : (expW 4 L x (runW 4 L 0 n)).2 = (qOf (expW 4 L x (runW 4 L 0 n)).1).drop n := h4.drop
      rw [h6, List.tail_drop]
theorem count_len {dom : List Nat} {m : List (Nat × Int)} (hd : dom.Nodup) (h1 : (m.map Prod.fst).Nodup) (h2 : ∀ q ∈ m, q.1 ∈ dom) : countIs dom (lk m) = m.length := by
  have ha : (dom.filter fun a => (lk m a).isSome).length ≤ (m.map Prod.fst).length := sub_len (hd.filter _) fun y hy => by
    obtain ⟨-, h⟩ := List.mem_filter.1 hy
    obtain ⟨v, hv⟩ := Option.isSome_iff_exists.1 h
    exact lk_known hv
  have hb : (m.map Prod.fst).length ≤ (dom.filter fun a => (lk m a).isSome).length := sub_len h1 fun y hy => by
    obtain ⟨q, hq, rfl⟩ := List.mem_map.1 hy
    refine List.mem_filter.2 ⟨h2 q hq, ?_⟩
    cases hn : lk m q.1 with
    | some v => rfl
    | none => exact absurd hy (lk_none hn)
  rw [List.length_map] at ha hb
  unfold countIs
  omega
/-- What the model counts is what the program counts. -/
theorem reach_len {xs : List Int} {bs : List Bool} {s : Int} (h7 : xs.length ≤ 7) {n : Nat} (hn : n ≤ turns 4) (hq : (runW 4 (crewLists xs bs s) 0 n).2 = []) : reachL xs bs s = (runW 4 (crewLists xs bs s) 0 n).1.length := by
  have hst := runW_stay hq (turns 4 - n)
  rw [show n + (turns 4 - n) = turns 4 by omega] at hst
  have hL := crew_small (xs := xs) bs s h7
  have hup := crew_up8 (xs := xs) (bs := bs) (s := s) h7
  have hc := count_run hup (first_mem 4) (fun n y hy => (mild_runW hL hup (first_mem 4) n).dom y hy) n
  rw [reachL, finW, hst]
  exact count_len (sts_nodup 4) hc.nodup hc.dom
end Go.Proofs.Ytlpeimlbpiofkaa

namespace Go.Proofs.Ytlpeimlbpiofkaa
open Go.RowKit

theorem num_zero (n : Nat) : num (bitsOf 0 n) 0 = 0 := by
  have h : bitsOf 0 n = List.replicate n false := by
    refine List.ext_getElem (by simp [bitsOf]) fun i h1 h2 => ?_
    simp [bitsOf, bitAt]
  rw [h]
  clear h
  induction n with
  | zero => rfl
  | succ n ih => rw [List.replicate_succ, num_cons]; exact ih
theorem num_falses (n : Nat) : num (falses n) 0 = 0 := by
  induction n with
  | zero => rfl
  | succ n ih =>
    have h : falses (n + 1) = falses n ++ [false] := by simp [falses, List.replicate_succ']
    rw [h, num_snoc, ih]; rfl

set_option maxHeartbeats 1600000 in
set_option linter.unusedSimpArgs false in
theorem loStart_any (A : Option Addr) (n c : Nat) (B : Option Addr) (m d : Nat) (s : Int) (w : World) (hn : n ≤ 8) :
    Calls Try.prog 128 #[.agg #[.slice A n c, .slice B m d, .int .i64 s]] w fun e w' => e = .returned (.int .i64 0) ∧ Below w.heap.size w w' := by
  have hc := Whole.fresh w 57 #[.slice A n c, .slice B m d, .int .i64 s]
  have ht := below1 w (.cells #[.slice A n c, .slice B m d, .int .i64 s] 57)
  obtain ⟨c0, c1, c2⟩ := hc.cells3
  go_enter Try.func128, Try.ntmps128
  go_wp2_with fail
  refine (loParty_any A n c B m d s _).mono ?_
  rintro e w1 ⟨rfl, hb⟩
  replace ht := below_then ht hb (by simp)
  clear hb c0 c1 c2 hc
  go_wp2_with fail
  refine (paFirst_any A n c 0 _ (by omega)).mono ?_
  rintro e w2 ⟨rfl, hW, hb⟩
  replace ht := below_then ht hb ht.size
  clear hb
  go_wp2_with fail
  have hsi := seIndex_any (some ⟨w1.heap.size + 1 + 1, 0, none⟩) n n (falses n) false w2 (by have h := hW.holds; simpa using h) (by simp [falses]) hn
  rw [show Bool.toNat false = 0 from rfl, num_falses] at hsi
  refine hsi.mono ?_
  clear hsi
  rintro e w3 ⟨rfl, hb⟩
  replace ht := below_then ht hb ht.size
  go_wp2
  go_ret
  exact ⟨ret_of rfl, ht⟩
end Go.Proofs.Ytlpeimlbpiofkaa

namespace Go.Proofs.Ytlpeimlbpiofkaa
open Go.RowKit

/-- Behind the making of a state out of its number. -/
def StMade (bs : List Bool) (t : Bool) (w : World) (v : Value) (wx : World) : Prop :=
  ∃ (gb : Nat) (D : Option Addr) (z : Nat), v = .pointer (some ⟨gb, 0, none⟩) ∧ w.heap.size ≤ gb ∧ Whole wx gb 44 #[.slice D bs.length z, .bool t] ∧ Fresh wx w.heap.size wx.heap.size 4 D (bits bs) ∧ Below w.heap.size w wx

theorem win_holds {w : World} {base n c : Nat} {e : TypeId} {Q : Option Addr} {xs : List Value} (h : Win w base e 1 (.slice Q n c) n xs) : Holds w Q xs := by
  obtain ⟨g, o, cap, hv, -, hl, -, -, hc⟩ := h.cellAt
  obtain ⟨rfl, rfl⟩ : Q = some ⟨g, o, none⟩ ∧ c = cap := by simpa using hv
  exact .inr ⟨g, o, rfl, hl, hc⟩
theorem span_grown {w w' w'' : World} {b : Nat} {row : Option Nat} (h : Span b (b + 1) w w') (hg : w'.grownBy w'' row) (hr : ∀ k, row = some k → k = b ∨ w.heap.size ≤ k) : Span b (b + 1) w w'' :=
  ⟨hg.os.trans h.os, hg.tape.trans h.tape, hg.output.trans h.output, Nat.le_trans h.size hg.size, fun k hk hd => (hg.block k (Nat.lt_of_lt_of_le hk h.size) (fun e => by rcases hr k e.symm with h1 | h1 <;> omega)).trans (h.block k hk hd)⟩
theorem holds_cell {w : World} {b o k : Nat} {xs : List Value} {v : Value} (h : Holds w (some ⟨b, o, none⟩) xs) (hk : xs[k]? = some v) : w.cell? ⟨b, o + k, none⟩ = some v := by
  rcases h with rfl | ⟨b', o', h1, -, h2⟩
  · simp at hk
  · obtain ⟨rfl, rfl⟩ : b = b' ∧ o = o' := by simpa using h1
    exact h2 k v hk

end Go.Proofs.Ytlpeimlbpiofkaa

namespace Go.Proofs.Ytlpeimlbpiofkaa
open Go.RowKit

theorem make_intsW {z : Nat} (hz : z ≤ 256) (W : World) : (Instr.makeSlice 22 (.int .i64 (z : Int)) (.int .i64 (z : Int))).run Try.prog W = .ok (.slice (some ⟨W.heap.size, 0, none⟩) z z) (W.alloc (.cells (nums (List.replicate z 0)).toArray 3)) := by
  obtain ⟨i0, hi, hz0, hz1, hz2⟩ := info_parts info_int
  have h := run_make (P := Try.prog) W 22 3 i0 _ Try.underlying22 hi hz0 .i64 .i64 ((z : Nat) : Int) ((z : Nat) : Int) (by omega) (by omega) (by rw [hz2]; omega) (by omega)
  simp only [Int.toNat_natCast, hz1, made_zeros] at h
  rw [h]
theorem make_boolsW {z : Nat} (hz : z ≤ 256) (W : World) : (Instr.makeSlice 38 (.int .i64 (z : Int)) (.int .i64 (z : Int))).run Try.prog W = .ok (.slice (some ⟨W.heap.size, 0, none⟩) z z) (W.alloc (.cells (bits (falses z)).toArray 4)) := by
  obtain ⟨i0, hi, hz0, hz1, hz2⟩ := info_parts info_bool
  have h := run_make (P := Try.prog) W 38 4 i0 _ Try.underlying38 hi hz0 .i64 .i64 ((z : Nat) : Int) ((z : Nat) : Int) (by omega) (by omega) (by rw [hz2]; omega) (by omega)
  simp only [Int.toNat_natCast, hz1, made_falses] at h
  rw [h]
  rfl
/-- Behind the making of the two lists of numbers. -/
def LoCut (w : World) (z : Nat) (cs : Array Value) (s7 s8 : Value) (wx : World) : Prop :=
  ∃ gF gW : Nat, s7 = .slice (some ⟨gF, 0, none⟩) z z ∧ s8 = .slice (some ⟨gW, 0, none⟩) z z ∧ Whole wx gF 3 (nums (List.replicate z 0)).toArray ∧ Whole wx gW 3 (nums (List.replicate z 0)).toArray ∧ Whole wx w.heap.size 57 cs ∧ gF ≠ gW ∧ w.heap.size < gF ∧ w.heap.size < gW ∧ gF < w.heap.size + 3 ∧ gW < w.heap.size + 3 ∧ Below w.heap.size w wx
theorem lo_cut (w : World) (z : Nat) (cs : Array Value) {w0 : World} (h0 : w0 = (w.alloc (.cells cs 57)).drew) : LoCut w z cs (.slice (some ⟨w.heap.size + 1, 0, none⟩) z z) (.slice (some ⟨w.heap.size + 1 + 1, 0, none⟩) z z) ((w0.alloc (.cells (nums (List.replicate z 0)).toArray 3)).alloc (.cells (nums (List.replicate z 0)).toArray 3)) ∧
    LoCut w z cs (.slice (some ⟨w.heap.size + 1 + 1, 0, none⟩) z z) (.slice (some ⟨w.heap.size + 1, 0, none⟩) z z) ((w0.alloc (.cells (nums (List.replicate z 0)).toArray 3)).alloc (.cells (nums (List.replicate z 0)).toArray 3)) := by
  subst h0
  have hs : (w.alloc (.cells cs 57)).drew.heap.size = w.heap.size + 1 := by simp [World.drew]
  have h1 := (Whole.fresh (w.alloc (.cells cs 57)).drew 3 (nums (List.replicate z 0)).toArray).alloc (.cells (nums (List.replicate z 0)).toArray 3)
  have h2 := Whole.fresh ((w.alloc (.cells cs 57)).drew.alloc (.cells (nums (List.replicate z 0)).toArray 3)) 3 (nums (List.replicate z 0)).toArray
  have h3 := (((Whole.fresh w 57 cs).drew).alloc (.cells (nums (List.replicate z 0)).toArray 3)).alloc (.cells (nums (List.replicate z 0)).toArray 3)
  have hb := (((below1 w (.cells cs 57)).drew).alloc (by rw [hs]; omega) (.cells (nums (List.replicate z 0)).toArray 3)).alloc (by rw [World.size_alloc, hs]; omega) (.cells (nums (List.replicate z 0)).toArray 3)
  rw [World.size_alloc, hs] at h2
  rw [hs] at h1
  exact ⟨⟨_, _, rfl, rfl, h1, h2, h3, by omega, by omega, by omega, by omega, by omega, hb⟩, ⟨_, _, rfl, rfl, h2, h1, h3, by omega, by omega, by omega, by omega, by omega, hb⟩⟩

theorem num_cellW {w : World} {g i : Nat} {t : TypeId} {F : List Int} {v : Int} (h : Whole w g t (nums F).toArray) (hi : i < F.length) (hv : F.getD i 0 = v) : w.cell? ⟨g, i, none⟩ = some (.int .i64 v) := by rw [h.cell, nums_at hi, hv]
theorem getD_m1W {o : List Int} {i : Nat} (h : i < o.length) : o.getD i 0 = o.getD i (-1) := by rw [List.getD_eq_getElem?_getD, List.getD_eq_getElem?_getD, List.getElem?_eq_getElem h]; rfl
theorem cost_one {xs : List Int} {n : Nat} {b : Bool} {l : List Int} (hx : xs.length = n) (hn : n ≤ 7) (hw : ∀ y ∈ xs, 1 ≤ y ∧ y ≤ 500) (hl : l ∈ upLists n n) : 1 ≤ costOf xs b l ∧ costOf xs b l ≤ 4000 := by
  obtain ⟨h1, h2, h3⟩ := mem_up.1 hl
  cases b
  · simp [costOf]
  · have h4 := loadOf_bound hw l
    have h5 := steps_len h1 (by omega)
    refine ⟨?_, by show loadOf xs l ≤ 4000; omega⟩
    obtain ⟨k, r, rfl⟩ := List.exists_cons_of_ne_nil (show l ≠ [] by rintro rfl; simp at h2)
    have hk := mem_steps h1 (show k ∈ k :: r from List.mem_cons_self ..)
    have hkx : k.toNat < xs.length := by omega
    have h6 := hw _ (List.getElem_mem hkx)
    have h7 := loadOf_bound hw r
    have h8 : loadOf xs (k :: r) = xs.getD k.toNat 0 + loadOf xs r := by simp [loadOf]
    show 1 ≤ loadOf xs (k :: r)
    rw [h8, getD_at xs hkx]
    omega
theorem below_spanW {lo hi : Nat} {a w w' : World} (h : Below a.heap.size a w) (hs : Span lo hi w w') (hl : a.heap.size ≤ lo) : Below a.heap.size a w' := hs.below h hl h.size
theorem span_setW (w : World) (lo hi b o : Nat) (u : Value) (h1 : lo ≤ b) (h2 : b < hi) : Span lo hi w (w.setCell ⟨b, o, none⟩ u) := by
  have h := below_set (Below.refl b w) (b := b) (o := o) (u := u) (Nat.le_refl _)
  refine ⟨h.os, h.tape, h.output, h.size, fun k hk hd => ?_⟩
  rcases hd with hd | hd
  · exact h.block k (by omega)
  · exact Below.heap_setCell _ _ _ _ (by show k ≠ b; omega)
theorem set_numW {w : World} {g : Nat} {t : TypeId} {F : List Int} (h : Whole w g t (nums F).toArray) (i : Nat) (x : Int) : Whole (w.setCell ⟨g, i, none⟩ (.int .i64 x)) g t (nums (F.set i x)).toArray := by
  have h2 := h.set_ i (.int .i64 x)
  rw [nums_set] at h2
  exact h2
theorem bits_setW (d : List Bool) (i : Nat) (v : Bool) : (bits d).toArray.setIfInBounds i (.bool v) = (bits (d.set i v)).toArray := by
  rw [List.setIfInBounds_toArray]
  congr 1
  simp [bits, List.map_set]
theorem own_partsW {w : World} {lo size c n : Nat} {e : TypeId} {A : Option Addr} {xs : List Value} (h : w.ownsRow lo e size (.slice A n c) n xs) : n ≤ 9223372036854775807 := by
  obtain ⟨-, ⟨hv, h0⟩ | ⟨g, cap, cur, hv, hlo, hh, hnc, hcm, -⟩⟩ := h
  · omega
  · unfold maxLen at hcm
    omega
/-- What stands between two rounds: the three lists, the crew. -/
structure LoO (w wr : World) (cs : Array Value) (gF gW gD : Nat) (done : List Bool) (o W : List Int) : Prop where
  far : Whole wr gF 3 (nums o).toArray
  ways : Whole wr gW 3 (nums W).toArray
  len : W.length = o.length
  don : Whole wr gD 4 (bits done).toArray
  cur : Whole wr w.heap.size 57 cs
  bel : Below w.heap.size w wr

/-- What loFar hands back. -/
def LoPost (xs : List Int) (bs : List Bool) (s : Int) (b : Bool) (n : Nat) (w : World) (e' : Ending) (w' : World) : Prop :=
  ∃ (gF gW : Nat) (done : List Bool) (o W : List Int), e' = .returned (.tuple #[.slice (some ⟨gF, 0, none⟩) o.length o.length, .slice (some ⟨gW, 0, none⟩) o.length o.length]) ∧ o.length = 2 ^ (n + 1) ∧ Whole w' gF 3 (nums o).toArray ∧ Whole w' gW 3 (nums W).toArray ∧ W.length = o.length ∧ Least (LegW (crewLists xs bs s) (costOf xs b) n) (trues n, true) (settledS n done o) ∧ (∀ i, i < 2 ^ (n + 1) → done.getD i false = false → o.getD i (-1) < 0) ∧ (∀ i, -1 ≤ o.getD i (-1) ∧ o.getD i (-1) ≤ 2048000) ∧ w.heap.size ≤ gF ∧ Below w.heap.size w w'

set_option maxHeartbeats 12800000 in
set_option maxRecDepth 100000 in
set_option linter.unusedVariables false in
set_option linter.unusedSimpArgs false in
theorem loFar_any (A : Option Addr) (n c : Nat) (B : Option Addr) (m d : Nat) (xs : List Int) (bs : List Bool) (s : Int) (b : Bool) (w : World) (hA : Holds w A (nums xs)) (hB : Holds w B (bits bs)) (hx : xs.length = n) (hy : bs.length = m) (hok : CrewOk xs m s) :
    Calls Try.prog 127 #[.agg #[.slice A n c, .slice B m d, .int .i64 s], .bool b] w (LoPost xs bs s b n w) := by
  have HX := Lib.hid hx
  have HY := Lib.hid hy
  have hc := Whole.fresh w 57 #[.slice A n c, .slice B m d, .int .i64 s]
  have ht := below1 w (.cells #[.slice A n c, .slice B m d, .int .i64 s] 57)
  obtain ⟨c0, c1, c2⟩ := hc.cells3
  have hn7 : n ≤ 7 := by have := hok.seven; omega
  have HOK := Lib.hid hok
  have HUPL : Hid (∀ l ∈ crewLists xs bs s, l ∈ upLists n n) := fun l hl => by have h := crew_up hl; rw [hx] at h; exact h
  have HCO : Hid (∀ l ∈ crewLists xs bs s, 1 ≤ costOf xs b l ∧ costOf xs b l ≤ 4000) := fun l hl => cost_one hx hn7 hok.weights (HUPL.out l hl)
  have HCO1 : Hid (∀ l ∈ crewLists xs bs s, 1 ≤ costOf xs b l) := fun l hl => (HCO.out l hl).1
  have HA := Lib.hid hA
  have HB := Lib.hid hB
  have HSN : Hid (stateS n (num (trues n) (Bool.toNat true)) = (trues n, true)) := stateS_num (a := (trues n, true)) (by simp [trues])
  clear hx hy hok hA hB
  go_enter Try.func127, Try.ntmps127
  go_upto_region 2 with fail
  obtain ⟨z, hz⟩ : ∃ z, z = 2 ^ (n + 1) := ⟨_, rfl⟩
  have hz256 : z ≤ 256 := by rw [hz]; exact Nat.le_trans (Nat.pow_le_pow_right (by omega) (show n + 1 ≤ 8 by omega)) (by decide)
  have hzi : (2 * 2 ^ n : Int) = ((z : Nat) : Int) := by rw [hz, Nat.pow_succ]; push_cast; omega
  have hwr : IntKind.i64.wrap (2 * 2 ^ n) = ((z : Nat) : Int) := by rw [hzi]; exact IntWalk.i64_in _ (by omega)
  have hwr2 : IntKind.i64.wrap (2 ^ (n + 1)) = ((z : Nat) : Int) := by rw [← hwr, Int.pow_succ, Int.mul_comm]
  have HZ := Lib.hid hz
  clear hz hzi
  have hmk := fun W : World => make_intsW (z := z) hz256 W
  go_cut [7, 8] (fun s7 s8 wx => LoCut w z #[.slice A n c, .slice B m d, .int .i64 s] s7 s8 wx)
  case first =>
    go_region_held3 (fun w' => True) (go_keep) (fail)
    all_goals (go_wp2_with fail; go_meet)
    all_goals first | exact (lo_cut w z _ rfl).1 | exact (lo_cut w z _ rfl).2
  case rest =>
    obtain ⟨gF, gW, rfl, rfl, hf, hw, hcw, hne, hgf, hgw, hgf3, hgw3, ht1⟩ := hcut
    have hlF := hf.lt
    have hlW := hw.lt
    have hmkb := make_boolsW (z := z) hz256 wc
    have hd := Whole.fresh wc 4 (bits (falses z)).toArray
    have H1 := Lib.hid (hf.alloc (.cells (bits (falses z)).toArray 4))
    have H2 := Lib.hid (hw.alloc (.cells (bits (falses z)).toArray 4))
    have H3 := Lib.hid (hcw.alloc (.cells (bits (falses z)).toArray 4))
    have H4 := Lib.hid (ht1.alloc ht1.size (.cells (bits (falses z)).toArray 4))
    have H5 := Lib.hid hd
    have hnd1 : gF ≠ wc.heap.size := by omega
    have hnd2 : gW ≠ wc.heap.size := by omega
    have hgd : w.heap.size + 3 ≤ wc.heap.size := by have := hcw.lt; have := hlF; have := hlW; omega
    clear hf hw hcw ht1 hd ht hc c0 c1 c2 hmk hlF hlW
    go_wp2
    go_loopw [34] (fun i wr => ∃ j : Nat, j ≤ z ∧ i = .int .i64 j ∧ Whole wr gF 3 (nums (negs z j)).toArray ∧ Whole wr gW 3 (nums (List.replicate z 0)).toArray ∧ Whole wr w.heap.size 57 #[.slice A n c, .slice B m d, .int .i64 s] ∧ Whole wr wc.heap.size 4 (bits (falses z)).toArray ∧ Below w.heap.size w wr) (fun i _ => z - (intOf i).toNat)
    case atStart => exact ⟨0, Nat.zero_le _, rfl, by rw [negs_zero]; exact H1.out, H2.out, H3.out, H5.out, H4.out⟩
    case round =>
      clear H1 H2 H3 H4 H5 hmkb
      obtain ⟨j, hj, rfl, hf, hw, hcw, hd, ht⟩ := hrel
      obtain ⟨wo, rfl⟩ : ∃ W : World, W = wr := ⟨_, rfl⟩
      have hlF := hf.lt
      by_cases hlt : j < z
      · have hd1 : decide ((j : Int) < (z : Int)) = true := by simp; omega
        have hcell := (hf.cell j).trans (nums_at (by rw [negs_len]; exact hlt))
        have hfr := hf.open_ j
        have G1 := Lib.hid (show Whole (wo.setCell ⟨gF, j, none⟩ (.int .i64 (-1))) gF 3 (nums (negs z (j + 1))).toArray by have h := hf.set_ j (.int .i64 (-1)); rw [nums_set, negs_next] at h; exact h)
        have G2 := Lib.hid (hw.off (b := gF) (o := j) (u := .int .i64 (-1)) (fun e => hne e.symm))
        have G3 := Lib.hid (hcw.off (b := gF) (o := j) (u := .int .i64 (-1)) (by omega))
        have G5 := Lib.hid (hd.off (b := gF) (o := j) (u := .int .i64 (-1)) (fun e => hnd1 e.symm))
        have G4 := Lib.hid (below_set (b := gF) (o := j) (u := .int .i64 (-1)) ht (by omega))
        clear hf hw hcw hd ht
        go_wp2
        go_roundw
        case rel => exact ⟨j + 1, by omega, by go_num, G1.out, G2.out, G3.out, G5.out, G4.out⟩
        case measure => simp [intOf]; omega
      · obtain rfl : j = z := by omega
        have hd1 : decide ((j : Int) < (j : Int)) = false := by simp
        rw [negs_all] at hf
        obtain ⟨c0, c1, c2⟩ := hcw.cells3
        have hlc := hcw.lt
        go_wp2_with fail
        refine (loParty_any A n c B m d s _).mono ?_
        rintro e w1 ⟨rfl, hb1⟩
        go_wp2_with fail
        refine (paLast_any A n c 0 _ (by omega)).mono ?_
        rintro e w2 ⟨A2, c2', rfl, hf2, hb2⟩
        have hlen2 : (trues n).length = n := by simp [trues]
        rw [hlen2]
        go_wp2_with fail
        refine (seIndex_any A2 n c2' (trues n) true _ hf2.holds hlen2 (by omega)).mono ?_
        rintro e w3 ⟨rfl, hb3⟩
        have hbb := below_then (below_then hb1 hb2 hb1.size) hb3 (Nat.le_trans hb1.size hb2.size)
        obtain ⟨en, hen⟩ : ∃ en, en = num (trues n) (Bool.toNat true) := ⟨_, rfl⟩
        have hel : en < j := by
          have h := num_lt (trues n) true
          rw [hlen2] at h
          rw [hen, HZ.out]
          exact h
        rw [← hen]
        replace hf := hf.below hbb
        replace hw := hw.below hbb
        replace hcw := hcw.below hbb
        replace hd := hd.below hbb
        replace ht := below_then ht hbb ht.size
        have HEN := Lib.hid hen
        clear hb1 hb2 hb3 hbb hf2 hen c0 c1 c2 hlc
        have a0 := num_cellW (v := -1) hf (i := en) (by simpa using hel) (by simp [hel])
        have a1 := hf.open_ en
        have hf1 := hf.set_ en (.int .i64 0)
        rw [nums_set] at hf1
        have hw1 := hw.off (b := gF) (o := en) (u := .int .i64 0) (fun e => hne e.symm)
        have a2 := num_cellW (v := 0) hw1 (i := en) (by simpa using hel) (by simp [hel])
        have a3 := hw1.open_ en
        have a4 := hf.lt
        have a5 := hw.lt
        have hw2 := hw1.set_ en (.int .i64 1)
        rw [nums_set] at hw2
        have hdj : decide ((en : Int) < (j : Int)) = true := by simp; omega
        have HS0 : Hid (LoO w (World.setCell (World.setCell w3 ⟨gF, en, none⟩ (.int .i64 0)) ⟨gW, en, none⟩ (.int .i64 1)) #[.slice A n c, .slice B m d, .int .i64 s] gF gW wc.heap.size (falses j) ((List.replicate j (-1)).set en 0) ((List.replicate j 0).set en 1)) :=
          ⟨hf1.off (b := gW) (o := en) (u := .int .i64 1) hne, hw2, by simp, (hd.off (fun e => hnd1 e.symm)).off (fun e => hnd2 e.symm), (hcw.off (by omega)).off (by omega), below_set (below_set ht (by omega)) (by omega)⟩
        clear hf hw hcw hd ht hf1 hw1 hw2
        go_wp2
        go_loopg [12] j (fun gh v wr => ∃ (done : List Bool) (o W : List Int), done.count true + gh = j ∧ LoSt (crewLists xs bs s) (costOf xs b) n en done o ∧ (∀ i, -1 ≤ o.getD i (-1) ∧ o.getD i (-1) ≤ 4000 * (done.count true : Nat)) ∧ LoO w wr #[.slice A n c, .slice B m d, .int .i64 s] gF gW wc.heap.size done o W)
        case atStart =>
          refine ⟨falses j, _, _, by simp [falses, List.count_replicate], ?_, fun i => ?_, HS0.out⟩
          · have h := lo_start (L := crewLists xs bs s) (C := costOf xs b) (n := n) (e := en) (by rw [← HZ.out]; exact hel)
            rw [← HZ.out] at h
            exact h
          · have h0 : (falses j).count true = 0 := by simp [falses, List.count_replicate]
            rw [h0]
            by_cases hi : en = i
            · subst hi
              rw [List.getD_eq_getElem?_getD, List.getElem?_set_self (by simpa using hel)]
              exact ⟨by show (-1 : Int) ≤ 0; decide, Int.le_refl _⟩
            · rw [List.getD_eq_getElem?_getD, List.getElem?_set_ne hi, List.getElem?_replicate]
              split <;> simp
        case round =>
          clear HS0 a0 a1 a2 a3 a4 a5
          obtain ⟨done, o, W, hcn, hst, hbd, hS⟩ := hrel
          obtain ⟨wz, rfl⟩ : ∃ X : World, X = wr := ⟨_, rfl⟩
          have hdl : done.length = j := by rw [HZ.out]; exact hst.hd
          have hol : o.length = j := by rw [HZ.out]; exact hst.ho
          have HST := Lib.hid hst
          have HBD := Lib.hid hbd
          have HSS := Lib.hid hS
          have HCN := Lib.hid hcn
          have hfar := hS.far
          have hdon := hS.don
          clear hst hbd hS hcn
          go_wp2
          go_loop [12, 53] (fun a i => ∃ k : Nat, k ≤ j ∧ i = .int .i64 k ∧ a = .int .i64 (pickTo done o k)) (fun _ i => j - (intOf i).toNat)
          case atStart => exact ⟨0, Nat.zero_le _, rfl, rfl⟩
          case round =>
            obtain ⟨k, hk, rfl, rfl⟩ := hrel
            by_cases hlt : k < j
            · have hk1 : decide ((k : Int) < (j : Int)) = true := by simp; omega
              have hnx := pick_next done o k
              unfold pickStep at hnx
              have hpi := pick_is done o k
              have b0 := num_cellW (v := o.getD k 0) hfar (i := k) (by omega) rfl
              have hok2 : o.getD k 0 = o.getD k (-1) := by rw [List.getD_eq_getElem?_getD, List.getD_eq_getElem?_getD, List.getElem?_eq_getElem (show k < o.length by omega)]; rfl
              rw [hok2] at b0
              have b1 : wz.cell? ⟨wc.heap.size, k, none⟩ = some (.bool (done.getD k false)) := by rw [hdon.cell k]; simp [bits, show k < done.length by omega]
              generalize o.getD k (-1) = v at b0 hnx
              generalize done.getD k false = dk at b1 hnx
              have hge : ∀ x : Int, decide (0 ≤ x) = true ↔ 0 ≤ x := fun x => by simp
              rcases hpi with ⟨hp, -⟩ | ⟨p, hp0, hp, -, hp3, -⟩
              · rw [hp] at hnx ⊢
                have HNX := Lib.hid hnx
                clear hnx hp
                cases dk
                · by_cases hv : 0 ≤ v
                  · have hd0 : decide (0 ≤ v) = true := by simp [hv]
                    go_wp2
                    go_round
                    case rel => exact ⟨k + 1, by omega, by go_num, by rw [HNX.out, if_pos ⟨rfl, hv, .inl (by omega)⟩]⟩
                    case measure => simp [intOf]; omega
                  · have hd0 : decide (0 ≤ v) = false := by simp; omega
                    go_wp2
                    go_round
                    case rel => exact ⟨k + 1, by omega, by go_num, by rw [HNX.out, if_neg (fun h => hv h.2.1)]⟩
                    case measure => simp [intOf]; omega
                · go_wp2
                  go_round
                  case rel => exact ⟨k + 1, by omega, by go_num, by rw [HNX.out, if_neg (fun h => by cases h.1)]⟩
                  case measure => simp [intOf]; omega
              · have b2 := num_cellW (v := o.getD p 0) hfar (i := p) (by omega) rfl
                have hop2 : o.getD p 0 = o.getD p (-1) := by rw [List.getD_eq_getElem?_getD, List.getD_eq_getElem?_getD, List.getElem?_eq_getElem (show p < o.length by omega)]; rfl
                rw [hop2] at b2
                rw [hp] at hnx ⊢
                simp only [Int.toNat_natCast] at hnx
                have hpj : p < j := by omega
                clear hop2 hp
                obtain ⟨u, hu0⟩ : ∃ u, o.getD p (-1) = u := ⟨_, rfl⟩
                simp only [hu0] at b2 hnx hp3
                clear hu0
                have HNX := Lib.hid hnx
                clear hnx
                cases dk
                · by_cases hv : 0 ≤ v
                  · have hd0 : decide (0 ≤ v) = true := by simp [hv]
                    have hd2 : decide ((p : Int) < 0) = false := by simp
                    by_cases hu : v < u
                    · have hd3 : decide (v < u) = true := by simp [hu]
                      go_wp2
                      go_round
                      case rel => exact ⟨k + 1, by omega, by go_num, by rw [HNX.out, if_pos ⟨rfl, hv, .inr hu⟩]⟩
                      case measure => simp [intOf]; omega
                    · have hd3 : decide (v < u) = false := by simp; omega
                      go_wp2
                      go_round
                      case rel => exact ⟨k + 1, by omega, by go_num, by rw [HNX.out, if_neg (fun h => by rcases h.2.2 with h | h <;> omega)]⟩
                      case measure => simp [intOf]; omega
                  · have hd0 : decide (0 ≤ v) = false := by simp; omega
                    go_wp2
                    go_round
                    case rel => exact ⟨k + 1, by omega, by go_num, by rw [HNX.out, if_neg (fun h => hv h.2.1)]⟩
                    case measure => simp [intOf]; omega
                · go_wp2
                  go_round
                  case rel => exact ⟨k + 1, by omega, by go_num, by rw [HNX.out, if_neg (fun h => by cases h.1)]⟩
                  case measure => simp [intOf]; omega
            · obtain rfl : k = j := by omega
              have hk1 : decide ((k : Int) < (k : Int)) = false := by simp
              have hpi := pick_is done o k
              rcases hpi with ⟨hp, hnone⟩ | ⟨p, hpk, hp, hpd, hp0, -⟩
              · rw [hp]
                have HEND := Lib.hid (lo_end HST.out (by rw [← HZ.out, hp]; omega))
                have hcl : done.count true ≤ 512 := by have h := List.count_le_length (a := true) (l := done); omega
                have HBE : Hid (∀ i, -1 ≤ o.getD i (-1) ∧ o.getD i (-1) ≤ 2048000) := fun i => by have := HBD.out i; omega
                have HOL := Lib.hid hol
                have HLW := Lib.hid HSS.out.len
                clear hp hnone hdl hol hfar hdon
                go_wp2
                go_ret2
                exact ⟨gF, gW, done, o, W, (by rw [HOL.out]; rfl), by rw [HOL.out]; exact HZ.out, HSS.out.far, HSS.out.ways, HLW.out, by have h := HEND.out.1; rw [HEN.out, HSN.out] at h; exact h, HEND.out.2, HBE.out, by omega, HSS.out.bel⟩
              · rw [hp]
                obtain ⟨hst2, -, -, -⟩ := lo_round HCO1.out HST.out (by rw [← HZ.out]; exact hp)
                obtain ⟨v, hv⟩ : ∃ v, o.getD p (-1) = v := ⟨_, rfl⟩
                rw [hv] at hst2 hp0
                have HST2 := Lib.hid hst2
                have hcd := count_setW done p (by omega) hpd
                have hcl : done.count true ≤ 512 := by have h := List.count_le_length (a := true) (l := done); omega
                have hmB : v ≤ 2048000 := by have := (HBD.out p).2; omega
                have HCD := Lib.hid hcd
                have b1 : wz.cell? ⟨wc.heap.size, p, none⟩ = some (.bool (done.getD p false)) := by rw [hdon.cell p]; simp [bits, show p < done.length by omega]
                have b2 := hdon.open_ p
                have b3 := hdon.lt
                have hfar1 := hfar.off (b := wc.heap.size) (o := p) (u := .bool true) hnd1
                have hway1 := HSS.out.ways.off (b := wc.heap.size) (o := p) (u := .bool true) hnd2
                have hdon1 : Whole (wz.setCell ⟨wc.heap.size, p, none⟩ (.bool true)) wc.heap.size 4 (bits (done.set p true)).toArray := by have h := hdon.set_ p (.bool true); rw [bits_setW] at h; exact h
                have hcur1 := HSS.out.cur.off (b := wc.heap.size) (o := p) (u := .bool true) (by omega)
                have hbel1 := below_set (b := wc.heap.size) (o := p) (u := .bool true) HSS.out.bel (by omega)
                have hlow1 : wc.heap.size < (wz.setCell ⟨wc.heap.size, p, none⟩ (.bool true)).heap.size := by simpa [World.setCell] using b3
                have HWL : Hid (W.length = k) := by show _ = _; rw [HSS.out.len]; exact hol
                clear hp hpd hst2 hcd hfar hdon
                go_upto_region 22 with fail
                clear b1 b2 b3
                generalize wz.setCell ⟨wc.heap.size, p, none⟩ (.bool true) = w5 at hfar1 hway1 hdon1 hcur1 hbel1 hlow1 ⊢
                have hdig := digits_len n p
                have htop : topBit n p = (stateS n p).2 := by show _ = decide _; rw [topBit, Bool.eq_iff_iff]; simp
                go_wp2_with fail
                refine (seState_own n p w5 (by omega) (by omega)).mono ?_
                rintro e w6 ⟨E, r, rfl, hE, hb6⟩
                obtain ⟨bE, oE, rfl⟩ : ∃ bE oE, E = some ⟨bE, oE, none⟩ := by
                  rcases hE.holds with h | ⟨bE, oE, h, -, -⟩
                  · have h2 := congrArg List.length h
                    have h1 := HOK.out.one
                    rw [HX.out] at h1
                    simp [bits, hdig] at h2
                    omega
                  · exact ⟨bE, oE, h⟩
                replace hfar1 := hfar1.below hb6
                replace hway1 := hway1.below hb6
                replace hdon1 := hdon1.below hb6
                replace hcur1 := hcur1.below hb6
                replace hbel1 := below_then hbel1 hb6 hbel1.size
                have hlow6 : wc.heap.size < w6.heap.size := by have := hb6.size; omega
                clear hb6
                have hs7 := Whole.fresh w6 44 #[.slice (some ⟨bE, oE, none⟩) n r, .bool (topBit n p)]
                replace hfar1 := hfar1.alloc (.cells #[.slice (some ⟨bE, oE, none⟩) n r, .bool (topBit n p)] 44)
                replace hway1 := hway1.alloc (.cells #[.slice (some ⟨bE, oE, none⟩) n r, .bool (topBit n p)] 44)
                replace hdon1 := hdon1.alloc (.cells #[.slice (some ⟨bE, oE, none⟩) n r, .bool (topBit n p)] 44)
                replace hcur1 := hcur1.alloc (.cells #[.slice (some ⟨bE, oE, none⟩) n r, .bool (topBit n p)] 44)
                replace hbel1 := hbel1.alloc hbel1.size (.cells #[.slice (some ⟨bE, oE, none⟩) n r, .bool (topBit n p)] 44)
                have hE7 := hE.alloc (.cells #[.slice (some ⟨bE, oE, none⟩) n r, .bool (topBit n p)] 44)
                obtain ⟨c0, c1, c2⟩ := hcur1.cells3
                have hcl5 := hcur1.lt
                obtain ⟨d0, d1, -, -⟩ := hs7.two
                have hsl7 := hs7.lt
                have HDIG := Lib.hid hdig
                have HTOP := Lib.hid htop
                clear hdig htop hE
                go_wp2_with fail
                refine (loRides_any A n c B m d xs bs s (some ⟨bE, oE, none⟩) n r (digits n p) (topBit n p) _ (HA.out.below hbel1) (HB.out.below hbel1) hE7.holds HX.out HY.out HDIG.out HOK.out (by rw [HX.out]; exact HDIG.out)).mono ?_
                rintro e w8 ⟨G, cG, rs, rfl, hrn, hG, hb8⟩
                have HRN : Hid (rowNums rs = ridesAt (stateS n p).1 (stateS n p).2 (crewLists xs bs s)) := by show _ = _; rw [hrn, ← HTOP.out]; rfl
                replace hfar1 := hfar1.below hb8
                replace hway1 := hway1.below hb8
                replace hdon1 := hdon1.below hb8
                replace hcur1 := hcur1.below hb8
                replace hbel1 := below_then hbel1 hb8 hbel1.size
                have hs8 := hs7.below hb8
                have hE8 := hE7.below hb8
                have hG8 := hG.free
                have hrl := (own_partsW hG.1)
                have hz68 : w6.heap.size < (w6.alloc (.cells #[.slice (some ⟨bE, oE, none⟩) n r, .bool (topBit n p)] 44)).heap.size := by simp
                have hz8 : w6.heap.size < w8.heap.size := by have := hb8.size; omega
                clear hb8 c0 c1 c2 hcl5 d0 d1 hsl7 hrn hs7 hE7 hG
                have HF8 := Lib.hid hfar1
                have HW8 := Lib.hid hway1
                have HD8 := Lib.hid hdon1
                have HC8 := Lib.hid hcur1
                have HB8 := Lib.hid hbel1
                have HS8 := Lib.hid hs8
                have HE8 := Lib.hid hE8
                have HG8 := Lib.hid hG8
                clear hfar1 hway1 hdon1 hcur1 hbel1 hs8 hE8 hG8
                have HLEG : Hid ((ridesAt (stateS n p).1 (stateS n p).2 (crewLists xs bs s)).map (fun l => (numS (flipped (stateS n p).1 l, !(stateS n p).2), costOf xs b l)) = legsW (crewLists xs bs s) (costOf xs b) (stateS n p)) := rfl
                obtain ⟨es, hes⟩ : ∃ es, es = legsW (crewLists xs bs s) (costOf xs b) (stateS n p) := ⟨_, rfl⟩
                have hrlen : rs.length = es.length := by rw [hes, ← HLEG.out, List.length_map, ← HRN.out, rowNums_len]
                have HES : Hid (∀ (k : Nat) (hk : k < rs.length), ∃ h : k < es.length, es[k] = (num (flipped (digits n p) rs[k].xs) (!topBit n p).toNat, costOf xs b rs[k].xs) ∧ rs[k].xs ∈ crewLists xs bs s) := fun k hk => by
                  have h1 : k < (ridesAt (stateS n p).1 (stateS n p).2 (crewLists xs bs s)).length := by rw [← HRN.out, rowNums_len]; exact hk
                  have h2 : (ridesAt (stateS n p).1 (stateS n p).2 (crewLists xs bs s))[k] = rs[k].xs := by have h := rowNums_get hk; simp only [HRN.out] at h; exact h
                  refine ⟨by omega, ?_, ?_⟩
                  · subst hes
                    simp only [legsW, List.getElem_map, h2, numS]
                    rw [HTOP.out]
                    rfl
                  · have h3 : rs[k].xs ∈ ridesAt (stateS n p).1 (stateS n p).2 (crewLists xs bs s) := by rw [← h2]; exact List.getElem_mem h1
                    exact (List.mem_filter.1 h3).1
                have HE0 := Lib.hid hes
                have HRL := Lib.hid hrlen
                clear hes hrlen
                go_wp2
                go_loopw [95] (fun i wr => ∃ (k' : Nat) (W' : List Int), k' ≤ rs.length ∧ i = .int .i64 k' ∧ Whole wr gF 3 (nums (relax v (es.take k') o)).toArray ∧ Whole wr gW 3 (nums W').toArray ∧ W'.length = k ∧ Span (w.heap.size + 1) (w.heap.size + 3) w8 wr) (fun i _ => rs.length - (intOf i).toNat)
                case atStart => exact ⟨0, W, Nat.zero_le _, rfl, HF8.out, HW8.out, HWL.out, Span.refl _ _ _⟩
                case round =>
                  obtain ⟨i, W', hi, rfl, hf, hway, hwl, hsp⟩ := hrel
                  obtain ⟨wv, rfl⟩ : ∃ X : World, X = wr := ⟨_, rfl⟩
                  by_cases hlt : i < rs.length
                  · have hd2 : decide ((i : Int) < (rs.length : Int)) = true := by simp; omega
                    obtain ⟨hlt2, hei, hup⟩ := HES.out i hlt
                    have hRX : relax v (es.take (i + 1)) o = relax1 v (relax v (es.take i) o) es[i] := by rw [List.take_succ_eq_append_getElem hlt2, relax_snoc]
                    rw [hei] at hRX
                    have hgz := hsp.freeGrid HG8.out (.inr (by omega))
                    obtain ⟨b6, o6, rfl, hbl6, hcell6, hrow6, hrl6, hrn6⟩ := hgz.grid.look hlt
                    have hst1 := (up_steps (HUPL.out _ hup)).1
                    have hsz := hsp.whole HS8.out (.inr (by omega))
                    have hcz := hsp.whole HC8.out (.inl (by omega))
                    have hez := hsp.fresh HE8.out (.inr (by omega))
                    obtain ⟨e0, e1, -, -⟩ := hsz.two
                    have hlz := hsz.lt
                    obtain ⟨y, hy⟩ : ∃ y, num (flipped (digits n p) rs[i].xs) (!topBit n p).toNat = y := ⟨_, rfl⟩
                    obtain ⟨l, hl⟩ : ∃ l, rs[i].xs = l := ⟨_, rfl⟩
                    rw [hl] at hy hRX hst1 hrow6 hrl6 hup
                    rw [hy] at hRX
                    obtain ⟨T, hT⟩ : ∃ T, costOf xs b l = T := ⟨_, rfl⟩
                    rw [hT] at hRX
                    have HY9 := Lib.hid hy
                    have HT9 := Lib.hid hT
                    have HRX := Lib.hid hRX
                    have HROW := Lib.hid hrow6
                    have HLR := Lib.hid hrl6
                    have HF9 := Lib.hid hf
                    have HW9 := Lib.hid hway
                    have HWL9 := Lib.hid hwl
                    have HSP := Lib.hid hsp
                    have HCZ := Lib.hid hcz
                    have HCE : Hid (∀ j u, (bits (digits n p))[j]? = some u → wv.cell? ⟨bE, oE + j, none⟩ = some u) := fun j u hu => by
                      rcases hez.holds with h | ⟨b9, o9, h9, -, hcell⟩
                      · rw [h] at hu; simp at hu
                      · cases h9; exact hcell j u hu
                    have hT0 : 1 ≤ T ∧ T ≤ 4000 := by
                      rw [← hT]
                      exact HCO.out _ hup
                    have hT1 := hT0.1
                    have hT2 := hT0.2
                    have hyj : y < k := by
                      have h := num_lt (flipped (digits n p) l) (!topBit n p)
                      rw [flipped_len, HDIG.out, hy] at h
                      rw [HZ.out]
                      exact h
                    have HLIN : Hid (∀ y ∈ l, 0 ≤ y ∧ y < (n : Int)) := fun y hy => by have := mem_steps hst1 hy; omega
                    have HL8 : Hid (l.length ≤ 8) := by show _ ≤ _; have h := (up_steps (HUPL.out _ hup)).2; omega
                    obtain ⟨rA, hrA⟩ : ∃ rA, rs[i].A = rA := ⟨_, rfl⟩
                    obtain ⟨rN, hrN⟩ : ∃ rN, rs[i].n = rN := ⟨_, rfl⟩
                    obtain ⟨rC, hrC⟩ : ∃ rC, rs[i].c = rC := ⟨_, rfl⟩
                    rw [hrA, hrN, hrC] at hcell6
                    rw [hrA] at HROW
                    rw [hrN] at HLR hrn6
                    have h1n : 1 ≤ n := by have h1 := HOK.out.one; rw [HX.out] at h1; exact h1
                    clear hei hlt2 hgz hf hway hwl hsp hcz hez hsz hT hT0 hy hl hrA hrN hrC hrow6 hrl6 hRX hup
                    have HST1 := Lib.hid hst1
                    clear hst1
                    go_wp2_with fail
                    refine (paCross_any bE oE n r rA rN rC (digits n p) l (topBit n p) wv HCE.out HDIG.out (by omega) (by omega) HROW.out HLR.out hrn6 HST1.out).mono ?_
                    rintro e wa ⟨A3, c3, rfl, hf3, hba⟩
                    go_wp2_with fail
                    refine (seIndex_any A3 (flipped (digits n p) l).length c3 (flipped (digits n p) l) (!topBit n p) wa hf3.holds rfl (by rw [flipped_len, HDIG.out]; omega)).mono ?_
                    rintro e wb ⟨rfl, hbb⟩
                    rw [HY9.out]
                    have hbw := below_then hba hbb hba.size
                    have hFb := HF9.out.below hbw
                    have hWb := HW9.out.below hbw
                    have hSPb : Span (w.heap.size + 1) (w.heap.size + 3) w8 wb := HSP.out.trans (Span.of_below hbw _ _)
                    have hCb := HCZ.out.below hbw
                    have HROWb := Lib.hid (HROW.out.below hbw)
                    have hol2 : (relax v (es.take i) o).length = k := by rw [relax_len]; exact hol
                    have hpm : (relax v (es.take i) o).getD p (-1) = v := by
                      have h := relax_low (m := v) (es.take i) o p (fun e he => by
                        obtain ⟨k9, hk9, rfl⟩ := List.getElem_of_mem (List.mem_of_mem_take he)
                        have h9 := HES.out k9 (by rw [HRL.out]; exact hk9)
                        rw [h9.2.1]
                        have := (HCO.out _ h9.2.2).1
                        show 0 ≤ costOf xs b _
                        omega) (by omega) (by rw [hv]; exact hp0) (by rw [hv]; exact Int.le_refl _)
                      rw [h]
                      exact hv
                    clear hba hbb hbw hf3 e0 e1 hlz hcell6 hbl6
                    have f0 := num_cellW (v := v) hFb (i := p) (by omega) (by rw [getD_m1W (by omega)]; exact hpm)
                    obtain ⟨k0, k1, k2⟩ := hCb.cells3
                    have hkl := hCb.lt
                    have hfl := hFb.lt
                    have hpj : p < k := hpk
                    have HFb := Lib.hid hFb
                    have HWb := Lib.hid hWb
                    have HSPb := Lib.hid hSPb
                    have HCb := Lib.hid hCb
                    have HOL2 := Lib.hid hol2
                    have HPM0 : Hid ((relax v (es.take i) o).getD p 0 = v) := by show _ = _; rw [getD_m1W (by omega)]; exact hpm
                    have hwr9 : IntKind.i64.wrap (v + T) = v + T := IntWalk.i64_in _ (by omega)
                    clear hFb hWb hSPb hCb hol2 hpm
                    go_wp2_with fail
                    go_region_held3 (fun w' => w'.cell? ⟨gF, p, none⟩ = some (.int .i64 v) ∧ w'.cell? ⟨w.heap.size, 0, none⟩ = some (.slice A n c) ∧ w'.cell? ⟨w.heap.size, 1, none⟩ = some (.slice B m d) ∧ w'.cell? ⟨w.heap.size, 2, none⟩ = some (.int .i64 s)) (go_keep)
                      (first | (go_at_call 134; refine (loCost_any A n c B m d xs s rA rN rC l b wb.drew (by exact (HA.out.below (below_spanW HB8.out HSPb.out (by omega))).drew) (by exact HROWb.out.drew) HX.out HLR.out (by omega) (by omega) HOK.out.weights HLIN.out (by have := HLR.out; have := HL8.out; omega)).mono ?_; rintro e wd ⟨rfl, hbd⟩; rw [HT9.out]; have hbd2 : Below wb.heap.size wb wd := (below_then (Below.refl wb.heap.size wb).drew hbd (Nat.le_refl _)); have HBD2 := Lib.hid hbd2; have f2 := num_cellW (v := v) (HFb.out.below hbd2) (i := p) (by rw [HOL2.out]; exact hpj) HPM0.out; have k3 := (HCb.out.below hbd2).cells3.1; have k4 := (HCb.out.below hbd2).cells3.2.1; have k5 := (HCb.out.below hbd2).cells3.2.2; have hfl2 := (HFb.out.below hbd2).lt; clear hbd hbd2))
                    have hF2 := HFb.out.below HBD2.out
                    have hW2 := HWb.out.below HBD2.out
                    obtain ⟨u, hu⟩ : ∃ u, (relax v (es.take i) o).getD y (-1) = u := ⟨_, rfl⟩
                    have g0 := num_cellW (v := u) hF2 (i := y) (by rw [HOL2.out]; exact hyj) (by rw [getD_m1W (by rw [HOL2.out]; exact hyj)]; exact hu)
                    have g1 := hF2.open_ y
                    have gw1 := hW2.open_ y
                    have hRX9 := HRX.out
                    rw [relax1, hu] at hRX9
                    have HSPd : Hid (Span (w.heap.size + 1) (w.heap.size + 3) w8 wd) := HSPb.out.trans (Span.of_below HBD2.out _ _)
                    have HF2 := Lib.hid hF2
                    have HW2 := Lib.hid hW2
                    clear hF2 hu f2 k3 k4 k5 f0 k0 k1 k2
                    have hy0 : (y : Int) < (k : Int) := by omega
                    by_cases h0 : u < 0
                    · have HE1 : Hid (relax v (es.take (i + 1)) o = (relax v (es.take i) o).set y (v + T)) := by show _ = _; rw [hRX9, if_pos (.inl h0)]
                      have hd7 : decide (u < 0) = true := by simpa using h0
                      have hFn := set_numW HF2.out y (v + T)
                      have hWn := HW2.out.off (b := gF) (o := y) (u := .int .i64 (v + T)) (fun e => hne e.symm)
                      have hSn := HSPd.out.trans (span_setW wd (w.heap.size + 1) (w.heap.size + 3) gF y (.int .i64 (v + T)) (by omega) (by omega))
                      have gw3 := hWn.open_ y
                      have gwl := hWn.lt
                      have gwc := num_cellW (v := W'.getD y 0) hWn (i := y) (by rw [HWL9.out]; exact hyj) rfl
                      have hFn2 := hFn.off (b := gW) (o := y) (u := .int .i64 0) hne
                      have hWn2 := set_numW hWn y 0
                      have hSn2 := hSn.trans (span_setW (wd.setCell ⟨gF, y, none⟩ (.int .i64 (v + T))) (w.heap.size + 1) (w.heap.size + 3) gW y (.int .i64 0) (by omega) (by omega))
                      clear hFn hWn hSn hRX9
                      go_upto_region 31 with fail
                      clear g0 g1 gw1 gw3 gwl gwc
                      generalize (wd.setCell ⟨gF, y, none⟩ (.int .i64 (v + T))).setCell ⟨gW, y, none⟩ (.int .i64 0) = we at hFn2 hWn2 hSn2 ⊢
                      have g2 := num_cellW (v := v + T) hFn2 (i := y) (by rw [List.length_set, HOL2.out]; exact hyj) (by rw [List.getD_eq_getElem?_getD, List.getElem?_set_self (by rw [HOL2.out]; exact hyj)]; rfl)
                      obtain ⟨z9, hz9⟩ : ∃ z9, (W'.set y 0).getD p 0 = z9 := ⟨_, rfl⟩
                      have a0 := num_cellW (v := 0) hWn2 (i := y) (by rw [List.length_set, HWL9.out]; exact hyj) (by rw [List.getD_eq_getElem?_getD, List.getElem?_set_self (by rw [HWL9.out]; exact hyj)]; rfl)
                      have a1 := num_cellW (v := z9) hWn2 (i := p) (by rw [List.length_set, HWL9.out]; exact hpj) hz9
                      have a2 := hWn2.open_ y
                      have a3 := hFn2.lt
                      have a4 := hWn2.lt
                      have HF7 := Lib.hid hFn2
                      have HW7 := Lib.hid hWn2
                      have HS7 := Lib.hid hSn2
                      clear hFn2 hWn2 hSn2 hz9
                      go_wp2_with fail
                      go_region
                      go_wp2
                      go_roundw
                      case rel => exact ⟨i + 1, _, by omega, by go_num, by rw [HE1.out]; exact (HF7.out.drew).off hne, set_numW HW7.out.drew y _, by simp [HWL9.out], (HS7.out.trans (Span.of_below (Below.refl _ _).drew _ _)).trans (span_setW _ _ _ _ _ _ (by omega) (by omega))⟩
                      case measure => simp [intOf]; omega
                    · have hd7 : decide (u < 0) = false := by simpa using h0
                      by_cases h2 : v + T < u
                      · have HE1 : Hid (relax v (es.take (i + 1)) o = (relax v (es.take i) o).set y (v + T)) := by show _ = _; rw [hRX9, if_pos (.inr h2)]
                        have hd8 : decide (v + T < u) = true := by simpa using h2
                        have hFn := set_numW HF2.out y (v + T)
                        have hWn := HW2.out.off (b := gF) (o := y) (u := .int .i64 (v + T)) (fun e => hne e.symm)
                        have hSn := HSPd.out.trans (span_setW wd (w.heap.size + 1) (w.heap.size + 3) gF y (.int .i64 (v + T)) (by omega) (by omega))
                        have gw3 := hWn.open_ y
                        have gwl := hWn.lt
                        have gwc := num_cellW (v := W'.getD y 0) hWn (i := y) (by rw [HWL9.out]; exact hyj) rfl
                        have hFn2 := hFn.off (b := gW) (o := y) (u := .int .i64 0) hne
                        have hWn2 := set_numW hWn y 0
                        have hSn2 := hSn.trans (span_setW (wd.setCell ⟨gF, y, none⟩ (.int .i64 (v + T))) (w.heap.size + 1) (w.heap.size + 3) gW y (.int .i64 0) (by omega) (by omega))
                        clear hFn hWn hSn hRX9
                        go_upto_region 31 with fail
                        clear g0 g1 gw1 gw3 gwl gwc
                        generalize (wd.setCell ⟨gF, y, none⟩ (.int .i64 (v + T))).setCell ⟨gW, y, none⟩ (.int .i64 0) = we at hFn2 hWn2 hSn2 ⊢
                        have g2 := num_cellW (v := v + T) hFn2 (i := y) (by rw [List.length_set, HOL2.out]; exact hyj) (by rw [List.getD_eq_getElem?_getD, List.getElem?_set_self (by rw [HOL2.out]; exact hyj)]; rfl)
                        obtain ⟨z9, hz9⟩ : ∃ z9, (W'.set y 0).getD p 0 = z9 := ⟨_, rfl⟩
                        have a0 := num_cellW (v := 0) hWn2 (i := y) (by rw [List.length_set, HWL9.out]; exact hyj) (by rw [List.getD_eq_getElem?_getD, List.getElem?_set_self (by rw [HWL9.out]; exact hyj)]; rfl)
                        have a1 := num_cellW (v := z9) hWn2 (i := p) (by rw [List.length_set, HWL9.out]; exact hpj) hz9
                        have a2 := hWn2.open_ y
                        have a3 := hFn2.lt
                        have a4 := hWn2.lt
                        have HF7 := Lib.hid hFn2
                        have HW7 := Lib.hid hWn2
                        have HS7 := Lib.hid hSn2
                        clear hFn2 hWn2 hSn2 hz9
                        go_wp2_with fail
                        go_region
                        go_wp2
                        go_roundw
                        case rel => exact ⟨i + 1, _, by omega, by go_num, by rw [HE1.out]; exact (HF7.out.drew).off hne, set_numW HW7.out.drew y _, by simp [HWL9.out], (HS7.out.trans (Span.of_below (Below.refl _ _).drew _ _)).trans (span_setW _ _ _ _ _ _ (by omega) (by omega))⟩
                        case measure => simp [intOf]; omega
                      · have HE1 : Hid (relax v (es.take (i + 1)) o = relax v (es.take i) o) := by show _ = _; rw [hRX9, if_neg (fun h => h.elim h0 h2)]
                        have hd8 : decide (v + T < u) = false := by simpa using h2
                        by_cases h3 : v + T = u
                        · have hd9 : (v + T == u) = true := by simpa using h3
                          obtain ⟨z8, hz8⟩ : ∃ z8, W'.getD y 0 = z8 := ⟨_, rfl⟩
                          obtain ⟨z9, hz9⟩ : ∃ z9, W'.getD p 0 = z9 := ⟨_, rfl⟩
                          have a0 := num_cellW (v := z8) HW2.out (i := y) (by rw [HWL9.out]; exact hyj) hz8
                          have a1 := num_cellW (v := z9) HW2.out (i := p) (by rw [HWL9.out]; exact hpj) hz9
                          have a3 := HF2.out.lt
                          have a4 := HW2.out.lt
                          clear hz8 hz9 hRX9
                          go_upto_region 32 with fail
                          go_wp2_with fail
                          go_region
                          go_wp2
                          go_roundw
                          case rel => exact ⟨i + 1, _, by omega, by go_num, by rw [HE1.out]; exact (HF2.out.drew).off hne, set_numW HW2.out.drew y _, by simp [HWL9.out], (HSPd.out.trans (Span.of_below (Below.refl _ _).drew _ _)).trans (span_setW _ _ _ _ _ _ (by omega) (by omega))⟩
                          case measure => simp [intOf]; omega
                        · have hd9 : (v + T == u) = false := by simpa using h3
                          clear hRX9
                          go_wp2
                          go_roundw
                          case rel => exact ⟨i + 1, W', by omega, by go_num, by rw [HE1.out]; exact HF2.out, HW2.out, HWL9.out, HSPd.out⟩
                          case measure => simp [intOf]; omega
                  · have hd2 : decide ((i : Int) < (rs.length : Int)) = false := by simp; omega
                    have hir : i = rs.length := by omega
                    rw [hir, HRL.out, List.take_length, HE0.out] at hf
                    have HF9 := Lib.hid hf
                    have HW9 := Lib.hid hway
                    have HWL9 := Lib.hid hwl
                    have HSP := Lib.hid hsp
                    have HGG : Hid (∃ gh, gh < gk ∧ (done.set p true).count true + gh = k) := by
                      have h := HCN.out
                      have h2 := HCD.out
                      have h3 := List.count_le_length (a := true) (l := done.set p true)
                      rw [List.length_set] at h3
                      exact ⟨gk - 1, by omega, by omega⟩
                    have HBN : Hid (∀ i, -1 ≤ (relax v (legsW (crewLists xs bs s) (costOf xs b) (stateS n p)) o).getD i (-1) ∧ (relax v (legsW (crewLists xs bs s) (costOf xs b) (stateS n p)) o).getD i (-1) ≤ 4000 * ((done.set p true).count true : Nat)) := fun i => by
                      have h2 := HCD.out
                      have hmp := (HBD.out p).2
                      rw [hv] at hmp
                      by_cases hi2 : i < o.length
                      · rcases relax_from v (legsW (crewLists xs bs s) (costOf xs b) (stateS n p)) o i hi2 with h | ⟨e, he, -, h⟩
                        · rw [h]; have := HBD.out i; omega
                        · rw [h]
                          simp only [legsW, List.mem_map] at he
                          obtain ⟨l, hl9, rfl⟩ := he
                          have := HCO.out l (List.mem_filter.1 hl9).1
                          show -1 ≤ v + costOf xs b l ∧ v + costOf xs b l ≤ _
                          omega
                      · rw [List.getD_eq_getElem?_getD, List.getElem?_eq_none (by rw [relax_len]; omega)]
                        show (-1 : Int) ≤ -1 ∧ (-1 : Int) ≤ _
                        omega
                    have HOLN : Hid ((relax v (legsW (crewLists xs bs s) (costOf xs b) (stateS n p)) o).length = k) := by show _ = _; rw [relax_len]; exact hol
                    clear hf hway hwl hsp hir
                    go_wp2
                    obtain ⟨gh, hg1, hg2⟩ := HGG.out
                    go_roundg gh
                    case measure => exact hg1
                    case rel => exact ⟨done.set p true, relax v (legsW (crewLists xs bs s) (costOf xs b) (stateS n p)) o, W', hg2, HST2.out, HBN.out, ⟨HF9.out, HW9.out, by rw [HWL9.out, HOLN.out], HSP.out.whole HD8.out (.inr (by omega)), HSP.out.whole HC8.out (.inl (by omega)), below_spanW HB8.out HSP.out (by omega)⟩⟩
end Go.Proofs.Ytlpeimlbpiofkaa

namespace Go.Proofs.Ytlpeimlbpiofkaa
open Go.RowKit

/-- The least costs from a crew's states to the last one. -/
noncomputable def costM (xs : List Int) (bs : List Bool) (s : Int) (b : Bool) (n : Nat) : Nat → Option Int := leastD (LegE (costOf xs b) 4 (crewLists xs bs s)) (codeOf (trues n) true)
section
variable {xs : List Int} {bs : List Bool} {m n : Nat} {s : Int} {b : Bool}
theorem cost_bound (hok : CrewOk xs m s) (hx : xs.length = n) : ∀ l ∈ crewLists xs bs s, 1 ≤ costOf xs b l ∧ costOf xs b l ≤ 1000000 := fun l hl => by
  have h1 := crew_up hl
  rw [hx] at h1
  have h2 := cost_one (b := b) hx (by have := hok.seven; omega) hok.weights h1
  omega
theorem cost_ok (hok : CrewOk xs m s) (hx : xs.length = n) : LeftOk (costOf xs b) (crewLists xs bs s) (codeOf (trues n) true) (costM xs bs s b n) :=
  leftG_ok (n := n) (a := (trues n, true)) (by have := hok.seven; omega) (fun l hl => by have := crew_up hl; rw [hx] at this; exact this) (cost_bound hok hx) (by simp [trues])
theorem cost_tells {done : List Bool} {o : List Int} (hok : CrewOk xs m s) (hx : xs.length = n) (hL : Least (LegW (crewLists xs bs s) (costOf xs b) n) (trues n, true) (settledS n done o)) (hno : ∀ i, i < 2 ^ (n + 1) → done.getD i false = false → o.getD i (-1) < 0) (hm : ∀ i, -1 ≤ o.getD i (-1)) : TellsO n (costM xs bs s b n) o :=
  tellsG (n := n) (a := (trues n, true)) (by have := hok.seven; omega) (fun l hl => by have := crew_up hl; rw [hx] at this; exact this) (cost_bound hok hx) (by simp [trues]) hL hno hm
theorem num_first (n : Nat) : num (falses n) (Bool.toNat false) = 0 := by
  have h : falses n = bitsOf 0 n := by
    refine List.ext_getElem (by simp [falses, bitsOf]) fun i h1 h2 => ?_
    simp [falses, bitsOf, bitAt]
  rw [h]
  exact num_zero n
/-- The least cost of a plan, or -1. -/
noncomputable def loV (xs : List Int) (bs : List Bool) (s : Int) (b : Bool) (n : Nat) : Int := (costM xs bs s b n 0).getD (-1)
theorem loV_at {o : List Int} (h : TellsO n (costM xs bs s b n) o) : o.getD 0 (-1) = loV xs bs s b n := by
  have h1 := h (falses n) false (by simp [falses])
  rw [farS, num_first, code_first] at h1
  exact h1
end

set_option maxHeartbeats 6400000 in
set_option maxRecDepth 100000 in
theorem loLeast_any (A : Option Addr) (n c : Nat) (B : Option Addr) (m d : Nat) (xs : List Int) (bs : List Bool) (s : Int) (b : Bool) (w : World) (hA : Holds w A (nums xs)) (hB : Holds w B (bits bs)) (hx : xs.length = n) (hy : bs.length = m) (hok : CrewOk xs m s) :
    Calls Try.prog 93 #[.agg #[.slice A n c, .slice B m d, .int .i64 s], .bool b] w fun e w' => e = .returned (.int .i64 (loV xs bs s b n)) ∧ Below w.heap.size w w' := by
  have HA := Lib.hid hA
  have HB := Lib.hid hB
  have HX := Lib.hid hx
  have HY := Lib.hid hy
  have HOK := Lib.hid hok
  have hn8 : n ≤ 8 := by have := hok.seven; omega
  have hc := Whole.fresh w 57 #[.slice A n c, .slice B m d, .int .i64 s]
  have ht := below1 w (.cells #[.slice A n c, .slice B m d, .int .i64 s] 57)
  obtain ⟨c0, c1, c2⟩ := hc.cells3
  clear hA hB hx hy hok
  go_enter Try.func93, Try.ntmps93
  go_wp2_with fail
  refine (loFar_any A n c B m d xs bs s b _ (HA.out.below ht) (HB.out.below ht) HX.out HY.out HOK.out).mono ?_
  rintro e w1 ⟨gF, gW, done, o, W, rfl, hol, hf, -, -, hL, hno, hbd, -, hb⟩
  have HTL := Lib.hid (cost_tells HOK.out HX.out hL hno (fun i => (hbd i).1))
  have HOL := Lib.hid hol
  replace ht := below_then ht hb (by simp)
  replace hc := hc.below hb
  have HF := Lib.hid hf
  clear hb c0 c1 c2 hL hno hbd hf hol
  obtain ⟨c0, c1, c2⟩ := hc.cells3
  have hlc := hc.lt
  go_wp2_with fail
  refine (loStart_any A n c B m d s _ hn8).mono ?_
  rintro e w2 ⟨rfl, hb⟩
  replace ht := below_then ht hb ht.size
  have hf2 := HF.out.below hb
  have h0 : 0 < o.length := by rw [HOL.out]; exact Nat.two_pow_pos _
  have k0 := num_cellW (v := loV xs bs s b n) hf2 (i := 0) h0 (by rw [getD_m1W h0]; exact loV_at HTL.out)
  have hl2 := hf2.lt
  have h0i : (0 : Int) < (o.length : Int) := by omega
  clear hb c0 c1 c2 hlc hc hf2
  go_wp2
  go_ret
  exact ⟨rfl, ht⟩

/-- What FewestOfCrew (b: no) and LeastCarried (b: yes) come to. -/
noncomputable def loOk (xs : List Int) (bs : List Bool) (m : Nat) (s : Int) (b : Bool) : Bool := isCrew xs m s && decide (0 ≤ loV xs bs s b xs.length)
noncomputable def loN (xs : List Int) (bs : List Bool) (m : Nat) (s : Int) (b : Bool) : Int := if loOk xs bs m s b then loV xs bs s b xs.length else 0

set_option maxHeartbeats 3200000 in
set_option maxRecDepth 100000 in
theorem specFewestW_any (A : Option Addr) (n c : Nat) (B : Option Addr) (m d : Nat) (xs : List Int) (bs : List Bool) (s : Int) (w : World) (hA : Holds w A (nums xs)) (hB : Holds w B (bits bs)) (hx : xs.length = n) (hy : bs.length = m) (hn : n ≤ 9223372036854775807) :
    Calls Try.prog 41 #[.agg #[.slice A n c, .slice B m d, .int .i64 s]] w fun e w' => e = .returned (.tuple #[.int .i64 (loN xs bs m s false), .bool (loOk xs bs m s false)]) ∧ Below w.heap.size w w' := by
  have HX := Lib.hid hx
  have HY := Lib.hid hy
  have HA := Lib.hid hA
  have HB := Lib.hid hB
  have hc := Whole.fresh w 57 #[.slice A n c, .slice B m d, .int .i64 s]
  have ht := below1 w (.cells #[.slice A n c, .slice B m d, .int .i64 s] 57)
  obtain ⟨c0, c1, c2⟩ := hc.cells3
  have hlg := loGood_any A n c B m d xs s _ (hA.below ht) HX.out hn
  cases h1 : isCrew xs m s
  · have HV : Hid (loN xs bs m s false = 0 ∧ loOk xs bs m s false = false) := by show _ ∧ _; simp [loN, loOk, h1]
    have H1 := Lib.hid h1
    clear h1 hA hB hx hy
    go_enter Try.func41, Try.ntmps41
    go_wp2_with fail
    refine hlg.mono ?_
    clear hlg
    rintro e w1 ⟨rfl, hb⟩
    rw [H1.out]
    replace ht := below_then ht hb (by simp)
    clear hb hc c0 c1 c2
    go_wp2
    go_ret2
    exact ⟨by rw [HV.out.1, HV.out.2]; rfl, ht⟩
  · have HOK := Lib.hid (isCrew_ok h1)
    have H1 := Lib.hid h1
    obtain ⟨v, hv⟩ : ∃ v, loV xs bs s false n = v := ⟨_, rfl⟩
    have HV0 := Lib.hid hv
    by_cases h0 : v < 0
    · have HV : Hid (loN xs bs m s false = 0 ∧ loOk xs bs m s false = false) := by show _ ∧ _; have h9 : loOk xs bs m s false = false := (by rw [loOk, hx, hv, decide_eq_false (show ¬ 0 ≤ v by omega), Bool.and_false]); exact ⟨by rw [loN, h9]; rfl, h9⟩
      have hd : decide (v < 0) = true := by simpa using h0
      clear h1 hv hA hB hx hy h0
      go_enter Try.func41, Try.ntmps41
      go_wp2_with fail
      refine hlg.mono ?_
      clear hlg
      rintro e w1 ⟨rfl, hb⟩
      rw [H1.out]
      replace ht := below_then ht hb (by simp)
      replace hc := hc.below hb
      clear hb c0 c1 c2
      obtain ⟨c0, c1, c2⟩ := hc.cells3
      have hlc := hc.lt
      go_wp2_with fail
      refine (loLeast_any A n c B m d xs bs s false _ (HA.out.below ht) (HB.out.below ht) HX.out HY.out HOK.out).mono ?_
      rintro e w2 ⟨rfl, hb⟩
      rw [HV0.out]
      replace ht := below_then ht hb ht.size
      clear hb c0 c1 c2 hc hlc
      go_wp2
      go_ret2
      exact ⟨by rw [HV.out.1, HV.out.2]; rfl, ht⟩
    · have h00 : 0 ≤ v := by omega
      have HV : Hid (loN xs bs m s false = v ∧ loOk xs bs m s false = true) := by show _ ∧ _; have h9 : loOk xs bs m s false = true := (by rw [loOk, hx, hv, h1, decide_eq_true h00, Bool.and_true]); exact ⟨by rw [loN, if_pos h9, hx, hv], h9⟩
      have hd : decide (v < 0) = false := by simpa using h00
      clear h1 hv hA hB hx hy h0 h00
      go_enter Try.func41, Try.ntmps41
      go_wp2_with fail
      refine hlg.mono ?_
      clear hlg
      rintro e w1 ⟨rfl, hb⟩
      rw [H1.out]
      replace ht := below_then ht hb (by simp)
      replace hc := hc.below hb
      clear hb c0 c1 c2
      obtain ⟨c0, c1, c2⟩ := hc.cells3
      have hlc := hc.lt
      go_wp2_with fail
      refine (loLeast_any A n c B m d xs bs s false _ (HA.out.below ht) (HB.out.below ht) HX.out HY.out HOK.out).mono ?_
      rintro e w2 ⟨rfl, hb⟩
      rw [HV0.out]
      replace ht := below_then ht hb ht.size
      replace hc := hc.below hb
      clear hb c0 c1 c2 hlc
      obtain ⟨c0, c1, c2⟩ := hc.cells3
      have hlc := hc.lt
      go_wp2_with fail
      refine (loLeast_any A n c B m d xs bs s false _ (HA.out.below ht) (HB.out.below ht) HX.out HY.out HOK.out).mono ?_
      rintro e w3 ⟨rfl, hb⟩
      rw [HV0.out]
      replace ht := below_then ht hb ht.size
      clear hb c0 c1 c2 hc hlc
      go_wp2
      go_ret2
      exact ⟨by rw [HV.out.1, HV.out.2]; rfl, ht⟩

set_option maxHeartbeats 3200000 in
set_option maxRecDepth 100000 in
theorem specLeastCarried_any (A : Option Addr) (n c : Nat) (B : Option Addr) (m d : Nat) (xs : List Int) (bs : List Bool) (s : Int) (w : World) (hA : Holds w A (nums xs)) (hB : Holds w B (bits bs)) (hx : xs.length = n) (hy : bs.length = m) (hn : n ≤ 9223372036854775807) :
    Calls Try.prog 50 #[.agg #[.slice A n c, .slice B m d, .int .i64 s]] w fun e w' => e = .returned (.tuple #[.int .i64 (loN xs bs m s true), .bool (loOk xs bs m s true)]) ∧ Below w.heap.size w w' := by
  have HX := Lib.hid hx
  have HY := Lib.hid hy
  have HA := Lib.hid hA
  have HB := Lib.hid hB
  have hc := Whole.fresh w 57 #[.slice A n c, .slice B m d, .int .i64 s]
  have ht := below1 w (.cells #[.slice A n c, .slice B m d, .int .i64 s] 57)
  obtain ⟨c0, c1, c2⟩ := hc.cells3
  have hlg := loGood_any A n c B m d xs s _ (hA.below ht) HX.out hn
  cases h1 : isCrew xs m s
  · have HV : Hid (loN xs bs m s true = 0 ∧ loOk xs bs m s true = false) := by show _ ∧ _; simp [loN, loOk, h1]
    have H1 := Lib.hid h1
    clear h1 hA hB hx hy
    go_enter Try.func50, Try.ntmps50
    go_wp2_with fail
    refine hlg.mono ?_
    clear hlg
    rintro e w1 ⟨rfl, hb⟩
    rw [H1.out]
    replace ht := below_then ht hb (by simp)
    clear hb hc c0 c1 c2
    go_wp2
    go_ret2
    exact ⟨by rw [HV.out.1, HV.out.2]; rfl, ht⟩
  · have HOK := Lib.hid (isCrew_ok h1)
    have H1 := Lib.hid h1
    obtain ⟨v, hv⟩ : ∃ v, loV xs bs s true n = v := ⟨_, rfl⟩
    have HV0 := Lib.hid hv
    by_cases h0 : v < 0
    · have HV : Hid (loN xs bs m s true = 0 ∧ loOk xs bs m s true = false) := by show _ ∧ _; have h9 : loOk xs bs m s true = false := (by rw [loOk, hx, hv, decide_eq_false (show ¬ 0 ≤ v by omega), Bool.and_false]); exact ⟨by rw [loN, h9]; rfl, h9⟩
      have hd : decide (v < 0) = true := by simpa using h0
      clear h1 hv hA hB hx hy h0
      go_enter Try.func50, Try.ntmps50
      go_wp2_with fail
      refine hlg.mono ?_
      clear hlg
      rintro e w1 ⟨rfl, hb⟩
      rw [H1.out]
      replace ht := below_then ht hb (by simp)
      replace hc := hc.below hb
      clear hb c0 c1 c2
      obtain ⟨c0, c1, c2⟩ := hc.cells3
      have hlc := hc.lt
      go_wp2_with fail
      refine (loLeast_any A n c B m d xs bs s true _ (HA.out.below ht) (HB.out.below ht) HX.out HY.out HOK.out).mono ?_
      rintro e w2 ⟨rfl, hb⟩
      rw [HV0.out]
      replace ht := below_then ht hb ht.size
      clear hb c0 c1 c2 hc hlc
      go_wp2
      go_ret2
      exact ⟨by rw [HV.out.1, HV.out.2]; rfl, ht⟩
    · have h00 : 0 ≤ v := by omega
      have HV : Hid (loN xs bs m s true = v ∧ loOk xs bs m s true = true) := by show _ ∧ _; have h9 : loOk xs bs m s true = true := (by rw [loOk, hx, hv, h1, decide_eq_true h00, Bool.and_true]); exact ⟨by rw [loN, if_pos h9, hx, hv], h9⟩
      have hd : decide (v < 0) = false := by simpa using h00
      clear h1 hv hA hB hx hy h0 h00
      go_enter Try.func50, Try.ntmps50
      go_wp2_with fail
      refine hlg.mono ?_
      clear hlg
      rintro e w1 ⟨rfl, hb⟩
      rw [H1.out]
      replace ht := below_then ht hb (by simp)
      replace hc := hc.below hb
      clear hb c0 c1 c2
      obtain ⟨c0, c1, c2⟩ := hc.cells3
      have hlc := hc.lt
      go_wp2_with fail
      refine (loLeast_any A n c B m d xs bs s true _ (HA.out.below ht) (HB.out.below ht) HX.out HY.out HOK.out).mono ?_
      rintro e w2 ⟨rfl, hb⟩
      rw [HV0.out]
      replace ht := below_then ht hb ht.size
      replace hc := hc.below hb
      clear hb c0 c1 c2 hlc
      obtain ⟨c0, c1, c2⟩ := hc.cells3
      have hlc := hc.lt
      go_wp2_with fail
      refine (loLeast_any A n c B m d xs bs s true _ (HA.out.below ht) (HB.out.below ht) HX.out HY.out HOK.out).mono ?_
      rintro e w3 ⟨rfl, hb⟩
      rw [HV0.out]
      replace ht := below_then ht hb ht.size
      clear hb c0 c1 c2 hc hlc
      go_wp2
      go_ret2
      exact ⟨by rw [HV.out.1, HV.out.2]; rfl, ht⟩

end Go.Proofs.Ytlpeimlbpiofkaa

namespace Go.Proofs.Ytlpeimlbpiofkaa
open Go.RowKit

section
variable {xs : List Int} {bs : List Bool} {m n : Nat} {s : Int} {b : Bool}
theorem cost_false (xs : List Int) : costOf xs false = oneT := by funext l; rfl
theorem last_code {n : Nat} (h : n ≤ 7) : codeOf (trues n) true = 2 * 2 ^ n - 1 := by
  have h0 : n = 0 ∨ n = 1 ∨ n = 2 ∨ n = 3 ∨ n = 4 ∨ n = 5 ∨ n = 6 ∨ n = 7 := by omega
  rcases h0 with rfl | rfl | rfl | rfl | rfl | rfl | rfl | rfl <;> rfl
theorem ones_cost (hok : CrewOk xs m s) (hx : xs.length = n) : lk (finW 4 (crewLists xs bs s) (2 * 2 ^ n - 1)).1 = costM xs bs s false n := by
  have h7 := hok.seven
  have h := leastW (k := 4) (crew_small (xs := xs) bs s h7) (crew_up8 (xs := xs) (bs := bs) (s := s) h7) (lastW_mem (p := n) (by omega))
  rw [one_leg] at h
  rw [costM, cost_false, last_code (by omega)]
  exact (leastD_of (legG_time (fun l _ => ⟨Int.le_refl _, by show (1 : Int) ≤ _; decide⟩)) h).symm
theorem lo_some (hok : CrewOk xs m s) (hx : xs.length = n) : decide (0 ≤ loV xs bs s b n) = (costM xs bs s b n 0).isSome := by
  unfold loV
  cases h : costM xs bs s b n 0 with
  | none => rfl
  | some v => exact decide_eq_true ((cost_ok (bs := bs) (b := b) hok hx).least.low _ _ h)
theorem few_both (xs : List Int) (bs : List Bool) (m : Nat) (s : Int) : fewW xs bs m s = loN xs bs m s false ∧ fewWO xs bs m s = loOk xs bs m s false := by
  cases h : isCrew xs m s
  · simp [fewW, fewWO, loN, loOk, h]
  · have hok := isCrew_ok h
    have h1 := ones_cost (bs := bs) hok rfl
    have h2 := lo_some (bs := bs) (b := false) hok rfl
    have h3 : loOk xs bs m s false = (costM xs bs s false xs.length 0).isSome := by rw [loOk, h, h2, Bool.true_and]
    have h4 : fewWO xs bs m s = (costM xs bs s false xs.length 0).isSome := by rw [fewWO, h, fewBW, h1, Bool.true_and]
    refine ⟨?_, h4.trans h3.symm⟩
    rw [fewW, if_pos h, fewNW, h1, loN, h3, loV]
    cases costM xs bs s false xs.length 0 <;> rfl
end
theorem implFewestW_on (A : Option Addr) (n kA : Nat) (B : Option Addr) (m d : Nat) (xs : List Int) (bs : List Bool) (s : Int) (w : World) (hA : Holds w A (nums xs)) (hB : Holds w B (bits bs)) (hx : xs.length = n) (hy : bs.length = m) (hn : n ≤ 9223372036854775807) (hkA : n ≤ kA) (hkB : kA ≤ 9223372036854775807) :
    Calls Try.prog 43 #[.agg #[.slice A n kA, .slice B m d, .int .i64 s]] w fun e w' => e = .returned (.tuple #[.int .i64 (loN xs bs m s false), .bool (loOk xs bs m s false)]) ∧ Below w.heap.size w w' := by
  have h := implFewestWC_any A n kA B m d xs bs s w hA hB hx hy hn hkA hkB
  rwa [(few_both xs bs m s).1, (few_both xs bs m s).2] at h
end Go.Proofs.Ytlpeimlbpiofkaa

namespace Go.Proofs.Ytlpeimlbpiofkaa
open Go.ChangeShapes Go.WideShapes Go.ChangeAt Go.RowKit Go.Joins

theorem own : ownKnob Try.prog.godebug = none := by kernel_rfl
theorem laidOut : laidOutB Try.prog = true := by kernel_rfl
theorem cells_party : Try.prog.cellsOf 24 = 2 := by kernel_rfl

theorem cells_state : Try.prog.cellsOf 40 = 2 := by kernel_rfl

theorem holds_row {w : World} {x : Addr} {len : Nat} {zs : List Int} (hl : len ≤ zs.length) (hc : ∀ i, i < zs.length → w.cell? (x.add i) = some (.int .i64 (zs.getD i 0))) : Holds w (some x) (nums (zs.take len)) := by
  by_cases h0 : len = 0
  · subst h0; exact .inl rfl
  · obtain ⟨b, o, spot⟩ := x
    have hf := hc 0 (by omega)
    have hs : spot = none := by simpa [Addr.add] using World.cell?_spot hf
    subst hs
    refine .inr ⟨b, o, rfl, ?_, fun j u hu => ?_⟩
    · rcases Nat.lt_or_ge b w.heap.size with h | h
      · exact h
      · have : w.cell? ((⟨b, o, none⟩ : Addr).add 0) = none := by simp [World.cell?, Addr.add, Array.getElem?_eq_none h]
        rw [this] at hf; cases hf
    · have hj : j < len := by
        have h := List.getElem?_eq_some_iff.1 hu
        obtain ⟨h, -⟩ := h
        rw [nums_len, List.length_take] at h
        omega
      have h := hc j (by omega)
      rw [show (⟨b, o + j, none⟩ : Addr) = (⟨b, o, none⟩ : Addr).add j from by unfold Addr.add; split <;> simp_all, h]
      simp only [nums, List.getElem?_map, List.getElem?_take, hj, if_true] at hu
      rw [← hu, List.getD_eq_getElem?_getD, List.getElem?_eq_getElem (show j < zs.length by omega)]
      rfl

set_option maxRecDepth 100000 in
theorem open_nums {H : Type} {enc : TypeId × Value → H} {W : World} {n : Nat} {c : Value} {y : DataW H × List MemPlace} (h : DataW.trod enc Try.prog W 0 (fun _ => true) true n 22 [c] = some y) :
    ∃ (A : Option Addr) (len cap : Nat) (xs : List Int), c = .slice A len cap ∧ Holds W A (nums xs) ∧ xs.length = len ∧ len ≤ 9223372036854775807 := by
  rcases open_ints Try.underlying22 Try.underlying3 (by kernel_rfl) h with ⟨hcs, _⟩ | ⟨x, l, cp, zs, hcs, _, hl, hm, hz, _, hcell, _⟩
  · simp only [List.cons.injEq, and_true] at hcs
    exact ⟨none, 0, 0, [], hcs, .inl rfl, rfl, by omega⟩
  · simp only [List.cons.injEq, and_true] at hcs
    have hz' : zs.length = cp := by simpa using hz
    unfold maxLen at hm
    exact ⟨some x, l, cp, zs.take l, hcs, holds_row (by omega) hcell, by simp; omega, by omega⟩

set_option maxRecDepth 100000 in
theorem open_party {H : Type} {enc : TypeId × Value → H} {W : World} {base : Nat} {v : Value} {d : DataW H} {p : List MemPlace} (hv : Value.okWide Try.prog W .any base 24 v)
    (h : DataW.Trod enc Try.prog W 0 (fun _ => true) true 24 v d p) :
    ∃ (A : Option Addr) (n c : Nat) (xs : List Int) (s : Int), v = .agg #[.slice A n c, .int .i64 s] ∧ Holds W A (nums xs) ∧ xs.length = n ∧ n ≤ 9223372036854775807 := by
  obtain ⟨c0, c1, y0, y1, m, rfl, rfl, rfl, hy0, hy1⟩ := open_agg2 Try.underlying24 (by kernel_rfl) cells_party hv h
  obtain ⟨s, e1, -, -⟩ := DataW.trod_int Try.underlying3 hy1
  simp only [List.cons.injEq, and_true] at e1
  obtain ⟨A, n, c, xs, rfl, hA, hx, hn⟩ := open_nums hy0
  exact ⟨A, n, c, xs, s, by rw [e1], hA, hx, hn⟩

theorem holds_bits {w : World} {x : Addr} {len : Nat} {zs : List Bool} (hl : len ≤ zs.length) (hc : ∀ i, i < zs.length → w.cell? (x.add i) = some (.bool (zs.getD i false))) : Holds w (some x) (bits (zs.take len)) := by
  by_cases h0 : len = 0
  · subst h0; exact .inl rfl
  · obtain ⟨b, o, spot⟩ := x
    have hf := hc 0 (by omega)
    have hs : spot = none := by simpa [Addr.add] using World.cell?_spot hf
    subst hs
    refine .inr ⟨b, o, rfl, ?_, fun j u hu => ?_⟩
    · rcases Nat.lt_or_ge b w.heap.size with h | h
      · exact h
      · have : w.cell? ((⟨b, o, none⟩ : Addr).add 0) = none := by simp [World.cell?, Addr.add, Array.getElem?_eq_none h]
        rw [this] at hf; cases hf
    · have hj : j < len := by
        have h := List.getElem?_eq_some_iff.1 hu
        obtain ⟨h, -⟩ := h
        rw [bits_len, List.length_take] at h
        omega
      have h := hc j (by omega)
      rw [show (⟨b, o + j, none⟩ : Addr) = (⟨b, o, none⟩ : Addr).add j from by unfold Addr.add; split <;> simp_all, h]
      simp only [bits, List.getElem?_map, List.getElem?_take, hj, if_true] at hu
      rw [← hu, List.getD_eq_getElem?_getD, List.getElem?_eq_getElem (show j < zs.length by omega)]
      rfl

set_option maxRecDepth 100000 in
theorem open_bits {H : Type} {enc : TypeId × Value → H} {W : World} {n : Nat} {c : Value} {y : DataW H × List MemPlace} (h : DataW.trod enc Try.prog W 0 (fun _ => true) true n 38 [c] = some y) :
    ∃ (A : Option Addr) (len cap : Nat) (xs : List Bool), c = .slice A len cap ∧ Holds W A (bits xs) ∧ xs.length = len ∧ len ≤ 9223372036854775807 := by
  rcases Go.Deep.open_bools Try.underlying38 Try.underlying4 (by kernel_rfl) h with ⟨hcs, _⟩ | ⟨x, l, cp, f, hcs, _, hl, hm, _, hcell⟩
  · simp only [List.cons.injEq, and_true] at hcs
    exact ⟨none, 0, 0, [], hcs, .inl rfl, rfl, by omega⟩
  · simp only [List.cons.injEq, and_true] at hcs
    unfold maxLen at hm
    have hz' : ((List.range cp).map f).length = cp := by simp
    exact ⟨some x, l, cp, ((List.range cp).map f).take l, hcs, holds_bits (by omega) (fun i hi => by
      have hi' : i < cp := by omega
      rw [hcell i hi']
      simp [List.getD_eq_getElem?_getD, hi']), by simp; omega, by omega⟩

set_option maxRecDepth 100000 in
theorem open_state {H : Type} {enc : TypeId × Value → H} {W : World} {base : Nat} {v : Value} {d : DataW H} {p : List MemPlace} (hv : Value.okWide Try.prog W .any base 40 v)
    (h : DataW.Trod enc Try.prog W 0 (fun _ => true) true 40 v d p) :
    ∃ (A : Option Addr) (n c : Nat) (xs : List Bool) (s : Bool), v = .agg #[.slice A n c, .bool s] ∧ Holds W A (bits xs) ∧ xs.length = n ∧ n ≤ 9223372036854775807 := by
  obtain ⟨c0, c1, y0, y1, m, rfl, rfl, rfl, hy0, hy1⟩ := open_agg2 Try.underlying40 (by kernel_rfl) cells_state hv h
  obtain ⟨s, e1, -⟩ := DataW.trod_bool Try.underlying4 hy1
  simp only [List.cons.injEq, and_true] at e1
  obtain ⟨A, n, c, xs, rfl, hA, hx, hn⟩ := open_bits hy0
  exact ⟨A, n, c, xs, s, by rw [e1], hA, hx, hn⟩

set_option maxRecDepth 100000 in
theorem open_list {H : Type} {enc : TypeId × Value → H} {W : World} {base : Nat} {v : Value} {d : DataW H} {p : List MemPlace} (hv : Value.okWide Try.prog W .any base 22 v)
    (h : DataW.Trod enc Try.prog W 0 (fun _ => true) true 22 v d p) :
    ∃ (A : Option Addr) (n c : Nat) (xs : List Int), v = .slice A n c ∧ Holds W A (nums xs) ∧ xs.length = n ∧ n ≤ 9223372036854775807 := by
  obtain ⟨a0, len, cap, rfl⟩ := okWide_slice Try.underlying22 hv
  obtain ⟨fuel, hf⟩ := h
  exact open_nums (by simpa [Value.cells] using hf)
end Go.Proofs.Ytlpeimlbpiofkaa

namespace Go.Proofs.Ytlpeimlbpiofkaa
open Go.ChangeShapes Go.WideShapes Go.ChangeAt Go.RowKit Go.Joins

set_option maxRecDepth 100000 in
theorem open_whole {H : Type} {enc : TypeId × Value → H} {W : World} {base : Nat} {v : Value} {d : DataW H} {p : List MemPlace} (hv : Value.okWide Try.prog W .any base 3 v)
    (h : DataW.Trod enc Try.prog W 0 (fun _ => true) true 3 v d p) : ∃ k : Int, v = .int .i64 k ∧ -9223372036854775808 ≤ k ∧ k ≤ 9223372036854775807 := by
  obtain ⟨n, rfl, -, -, hw⟩ := open_int Try.underlying3 hv h
  simp only [Lit.wf, Bool.and_eq_true, decide_eq_true_eq] at hw
  exact ⟨n, rfl, hw.1, hw.2⟩

theorem holds_fn {w : World} {x : Addr} {len cap : Nat} {f : Nat → Value} (hl : len ≤ cap) (hc : ∀ i, i < cap → w.cell? (x.add i) = some (f i)) : Holds w (some x) ((List.range len).map f) := by
  by_cases h0 : len = 0
  · subst h0; exact .inl rfl
  · obtain ⟨b, o, spot⟩ := x
    have hf := hc 0 (by omega)
    have hs : spot = none := by simpa [Addr.add] using World.cell?_spot hf
    subst hs
    refine .inr ⟨b, o, rfl, ?_, fun j u hu => ?_⟩
    · rcases Nat.lt_or_ge b w.heap.size with h | h
      · exact h
      · have : w.cell? ((⟨b, o, none⟩ : Addr).add 0) = none := by simp [World.cell?, Addr.add, Array.getElem?_eq_none h]
        rw [this] at hf; cases hf
    · have hj : j < len := by
        have h := List.getElem?_eq_some_iff.1 hu
        obtain ⟨h, -⟩ := h
        simpa using h
      have h := hc j (by omega)
      rw [show (⟨b, o + j, none⟩ : Addr) = (⟨b, o, none⟩ : Addr).add j from by unfold Addr.add; split <;> simp_all, h]
      simp only [List.getElem?_map, List.getElem?_range hj, Option.map_some] at hu
      exact hu

set_option maxRecDepth 100000 in
theorem open_grid {H : Type} {enc : TypeId × Value → H} {W : World} {base : Nat} {v : Value} {d : DataW H} {p : List MemPlace} (hv : Value.okWide Try.prog W .any base 32 v)
    (h : DataW.Trod enc Try.prog W 0 (fun _ => true) true 32 v d p) :
    ∃ (A : Option Addr) (n c : Nat) (rs : List RowV), v = .slice A n c ∧ Grid W A rs ∧ rs.length = n ∧ n ≤ 9223372036854775807 := by
  obtain ⟨a0, len0, cap0, rfl⟩ := okWide_slice Try.underlying32 hv
  obtain ⟨fuel, hf⟩ := h
  have hf' : DataW.trod enc Try.prog W 0 (fun _ => true) true fuel 32 [.slice a0 len0 cap0] = some (d, p) := by simpa [Value.cells] using hf
  rcases Go.Deep.open_int_rows Try.underlying32 Try.underlying22 Try.underlying3 (by kernel_rfl) (by kernel_rfl) hf' with ⟨hcs, _⟩ | ⟨a, len, cap, A, L, C, Z, hcs, _, hl, hm, _, hrow⟩
  · simp only [List.cons.injEq, and_true] at hcs
    exact ⟨none, 0, 0, [], hcs, ⟨.inl rfl, fun r hr => by cases hr⟩, rfl, by omega⟩
  · simp only [List.cons.injEq, and_true] at hcs
    unfold maxLen at hm
    refine ⟨some a, len, cap, (List.range len).map fun r => ⟨A r, L r, C r, (Z r).take (L r)⟩, hcs, ⟨?_, fun r hr => ?_⟩, by simp, by omega⟩
    · have h1 := holds_fn (f := fun r => Value.slice (A r) (L r) (C r)) hl (fun i hi => (hrow i hi).1)
      simpa [rowVals, RowV.val, Function.comp_def] using h1
    · simp only [List.mem_map, List.mem_range] at hr
      obtain ⟨j, hj, rfl⟩ := hr
      obtain ⟨-, hLC, hCm, hZ, -, hnone, hsome⟩ := hrow j (by omega)
      unfold maxLen at hCm
      refine ⟨?_, by simp; omega, by show L j ≤ _; omega⟩
      show Holds W (A j) (nums ((Z j).take (L j)))
      cases hA : A j with
      | none =>
        have h0 := hnone hA
        have : Z j = [] := List.eq_nil_of_length_eq_zero (by omega)
        rw [this]
        exact .inl (by simp [nums])
      | some a' => exact holds_row (by omega) (fun i hi => (hsome a' hA).2 i (by omega))
end Go.Proofs.Ytlpeimlbpiofkaa

namespace Go.Proofs.Ytlpeimlbpiofkaa
open Go.ChangeShapes Go.WideShapes Go.ChangeAt Go.RowKit Go.Joins

theorem cells_crew : Try.prog.cellsOf 54 = 3 := by kernel_rfl

set_option maxRecDepth 100000 in
theorem open_crew {H : Type} {enc : TypeId × Value → H} {W : World} {base : Nat} {v : Value} {d : DataW H} {p : List MemPlace} (hv : Value.okWide Try.prog W .any base 54 v)
    (h : DataW.Trod enc Try.prog W 0 (fun _ => true) true 54 v d p) :
    ∃ (A : Option Addr) (n c : Nat) (xs : List Int) (B : Option Addr) (m d : Nat) (bs : List Bool) (s : Int), v = .agg #[.slice A n c, .slice B m d, .int .i64 s] ∧ Holds W A (nums xs) ∧ xs.length = n ∧ n ≤ 9223372036854775807 ∧ Holds W B (bits bs) ∧ bs.length = m ∧ m ≤ 9223372036854775807 := by
  obtain ⟨c0, c1, c2, y0, y1, y2, m, rfl, rfl, rfl, hy0, hy1, hy2⟩ := open_agg3 Try.underlying54 (by kernel_rfl) cells_crew hv h
  obtain ⟨s, e2, -, -⟩ := DataW.trod_int Try.underlying3 hy2
  simp only [List.cons.injEq, and_true] at e2
  obtain ⟨A, n, c, xs, rfl, hA, hx, hn⟩ := open_nums hy0
  obtain ⟨B, m, d, bs, rfl, hB, hy, hm⟩ := open_bits hy1
  exact ⟨A, n, c, xs, B, m, d, bs, s, by rw [e2], hA, hx, hn, hB, hy, hm⟩
end Go.Proofs.Ytlpeimlbpiofkaa

namespace Go.Proofs.Ytlpeimlbpiofkaa
open Go.RowKit

set_option maxHeartbeats 800000 in
set_option linter.unusedVariables false in
theorem lawFewestOfCrew_big0 (A0 : Option Addr) (n0 c0 : Nat) (x0 : List Int) (A1 : Option Addr) (n1 c1 : Nat) (x1 : List Bool) (k0 : Int) (w : World) (h0 : Holds w A0 (nums x0)) (hx0 : x0.length = n0) (hn0 : n0 ≤ 9223372036854775807) (h1 : Holds w A1 (bits x1)) (hx1 : x1.length = n1) (hn1 : n1 ≤ 9223372036854775807)  (hbig : 1048576 - (n0 : Int) - (n1 : Int) < 0) :
    Calls Try.prog 9 #[.agg #[.slice A0 n0 c0, .slice A1 n1 c1, .int .i64 k0]] w fun e w' => e = .returned (.bool true) ∧ Below w.heap.size w w' := by
  have hb0 := (Whole.fresh w 54 #[.slice A0 n0 c0, .slice A1 n1 c1, .int .i64 k0])
  have ht := below1 w (.cells #[.slice A0 n0 c0, .slice A1 n1 c1, .int .i64 k0] 54)
  have HX0 := Lib.hid hx0
  have HX1 := Lib.hid hx1
  clear hx0 hx1
  obtain ⟨hb0_0, hb0_1, hb0_2⟩ := hb0.cells3
  have hb0_l := hb0.lt
  go_enter Try.func9, Try.ntmps9
  go_wp2_with fail
  refine (szCrew_any A0 n0 c0 A1 n1 c1 k0 (1048576) _ (by omega) (by omega) (by omega) (by omega)).mono ?_
  rintro e v1 ⟨rfl, hb⟩
  rw [crewLeft_bad (by omega)]
  have hz1 : w.heap.size + 1 ≤ v1.heap.size := by have := hb.size; simpa using this
  replace ht := below_then ht hb ht.size
  replace hb0 := hb0.below hb
  clear hb
  clear hb0_0 hb0_1 hb0_2 hb0_l
  go_wp2
  go_ret
  exact ⟨rfl, ht⟩

set_option maxHeartbeats 12800000 in
set_option maxRecDepth 100000 in
set_option linter.unusedSimpArgs false in
set_option linter.unusedVariables false in
theorem lawFewestOfCrew_small (A0 : Option Addr) (n0 c0 : Nat) (x0 : List Int) (A1 : Option Addr) (n1 c1 : Nat) (x1 : List Bool) (k0 : Int) (w : World) (h0 : Holds w A0 (nums x0)) (hx0 : x0.length = n0) (hn0 : n0 ≤ 9223372036854775807) (h1 : Holds w A1 (bits x1)) (hx1 : x1.length = n1) (hn1 : n1 ≤ 9223372036854775807) (g0 : 0 ≤ 1048576 - (n0 : Int) - (n1 : Int)) :
    Calls Try.prog 9 #[.agg #[.slice A0 n0 c0, .slice A1 n1 c1, .int .i64 k0]] w fun e w' => e = .returned (.bool true) ∧ Below w.heap.size w w' := by
  have hb0 := (Whole.fresh w 54 #[.slice A0 n0 c0, .slice A1 n1 c1, .int .i64 k0])
  have ht := below1 w (.cells #[.slice A0 n0 c0, .slice A1 n1 c1, .int .i64 k0] 54)
  have HX0 := Lib.hid hx0
  have HX1 := Lib.hid hx1
  clear hx0 hx1
  obtain ⟨hb0_0, hb0_1, hb0_2⟩ := hb0.cells3
  have hb0_l := hb0.lt
  go_enter Try.func9, Try.ntmps9
  -- region 2
  go_wp2_with fail
  refine (szCrew_any A0 n0 c0 A1 n1 c1 k0 (1048576) _ (by omega) (by omega) (by omega) (by omega)).mono ?_
  rintro e v1 ⟨rfl, hb⟩
  rw [crewLeft_ok (by omega)]
  have hz1 : w.heap.size + 1 ≤ v1.heap.size := by have := hb.size; simpa using this
  replace ht := below_then ht hb ht.size
  replace hb0 := hb0.below hb
  clear hb
  clear hb0_0 hb0_1 hb0_2 hb0_l
  obtain ⟨hb0_0, hb0_1, hb0_2⟩ := hb0.cells3
  have hb0_l := hb0.lt
  -- region 5
  go_wp2_with fail
  refine (toCrew_own A0 n0 c0 x0 A1 n1 c1 x1 k0 _ (by exact h0.below ht) (by exact h1.below ht) HX0.out HX1.out (by omega) (by omega)).mono ?_
  rintro e v2 ⟨gp0, gp1, rfl, hgp0, hwp0, hgp1, hwp1, hb⟩
  have hz2 : v1.heap.size ≤ v2.heap.size := by have := hb.size; simpa using this
  replace ht := below_then ht hb ht.size
  replace hb0 := hb0.below hb
  have hgmp0 : v1.heap.size ≤ gp1 ∧ gp1 < v2.heap.size := ⟨by have := hgp0; (try simp at this); omega, hwp1.lt⟩
  have hp0 := Fresh.of_whole (lo := v1.heap.size) (hi := gp1) hwp0 (by simpa using hgp0) hgp1
  have hp1 := Fresh.of_whole (lo := gp1) (hi := v2.heap.size) hwp1 (Nat.le_refl _) hwp1.lt
  clear hgp0 hwp0 hgp1 hwp1
  clear hb
  clear hb0_0 hb0_1 hb0_2 hb0_l
  obtain ⟨hb0_0, hb0_1, hb0_2⟩ := hb0.cells3
  have hb0_l := hb0.lt
  go_wp2_with fail
  refine (specFewestW_any _ n0 _ _ n1 _ x0 x1 k0 _ (by exact hp0.holds) (by exact hp1.holds) HX0.out HX1.out (by omega)).mono ?_
  rintro e v3 ⟨rfl, hb⟩
  have hz3 : v2.heap.size ≤ v3.heap.size := by have := hb.size; simpa using this
  replace ht := below_then ht hb ht.size
  replace hb0 := hb0.below hb
  replace hp0 := hp0.below hb
  replace hp1 := hp1.below hb
  clear hb
  clear hp0 hp1
  clear hb0_0 hb0_1 hb0_2 hb0_l
  obtain ⟨hb0_0, hb0_1, hb0_2⟩ := hb0.cells3
  have hb0_l := hb0.lt
  -- region 6
  go_wp2_with fail
  refine (toCrew_own A0 n0 c0 x0 A1 n1 c1 x1 k0 _ (by exact h0.below ht) (by exact h1.below ht) HX0.out HX1.out (by omega) (by omega)).mono ?_
  rintro e v4 ⟨gx0, gx1, rfl, hgx0, hwx0, hgx1, hwx1, hb⟩
  have hz4 : v3.heap.size ≤ v4.heap.size := by have := hb.size; simpa using this
  replace ht := below_then ht hb ht.size
  replace hb0 := hb0.below hb
  have hgmx0 : v3.heap.size ≤ gx1 ∧ gx1 < v4.heap.size := ⟨by have := hgx0; (try simp at this); omega, hwx1.lt⟩
  have hx0 := Fresh.of_whole (lo := v3.heap.size) (hi := gx1) hwx0 (by simpa using hgx0) hgx1
  have hx1 := Fresh.of_whole (lo := gx1) (hi := v4.heap.size) hwx1 (Nat.le_refl _) hwx1.lt
  clear hgx0 hwx0 hgx1 hwx1
  clear hb
  have hx90 := Whole.fresh v4 57 #[.slice (some ⟨gx0, 0, none⟩) n0 n0, .slice (some ⟨gx1, 0, none⟩) n1 n1, .int .i64 k0]
  replace ht := ht.alloc ht.size (.cells #[.slice (some ⟨gx0, 0, none⟩) n0 n0, .slice (some ⟨gx1, 0, none⟩) n1 n1, .int .i64 k0] 57)
  replace hb0 := hb0.alloc (.cells #[.slice (some ⟨gx0, 0, none⟩) n0 n0, .slice (some ⟨gx1, 0, none⟩) n1 n1, .int .i64 k0] 57)
  replace hx0 := hx0.alloc (.cells #[.slice (some ⟨gx0, 0, none⟩) n0 n0, .slice (some ⟨gx1, 0, none⟩) n1 n1, .int .i64 k0] 57)
  replace hx1 := hx1.alloc (.cells #[.slice (some ⟨gx0, 0, none⟩) n0 n0, .slice (some ⟨gx1, 0, none⟩) n1 n1, .int .i64 k0] 57)
  clear hb0_0 hb0_1 hb0_2 hb0_l
  obtain ⟨hb0_0, hb0_1, hb0_2⟩ := hb0.cells3
  have hb0_l := hb0.lt
  obtain ⟨hx90_0, hx90_1, hx90_2⟩ := hx90.cells3
  have hx90_l := hx90.lt
  -- region 7
  go_wp2_with fail
  refine (implFewestW_on _ n0 _ _ n1 _ x0 x1 k0 _ (by exact hx0.holds) (by exact hx1.holds) HX0.out HX1.out (by omega) (Nat.le_refl _) (by omega)).mono ?_
  rintro e v5 ⟨rfl, hb⟩
  have hz5 : v4.heap.size + 1 ≤ v5.heap.size := by have := hb.size; simpa using this
  replace ht := below_then ht hb ht.size
  replace hb0 := hb0.below hb
  replace hx0 := hx0.below hb
  replace hx1 := hx1.below hb
  replace hx90 := hx90.below hb
  clear hb
  clear hb0_0 hb0_1 hb0_2 hb0_l hx90_0 hx90_1 hx90_2 hx90_l
  obtain ⟨hb0_0, hb0_1, hb0_2⟩ := hb0.cells3
  have hb0_l := hb0.lt
  obtain ⟨hx90_0, hx90_1, hx90_2⟩ := hx90.cells3
  have hx90_l := hx90.lt
  -- region 10
  clear hb0_0 hb0_1 hb0_2 hb0_l hx90_0 hx90_1 hx90_2 hx90_l
  go_wp2_with fail
  refine wp_region_held_drew (S := (fun w' => w'.cell? ⟨w.heap.size, 0, none⟩ = some (.slice A0 n0 c0) ∧ w'.cell? ⟨w.heap.size, 1, none⟩ = some (.slice A1 n1 c1) ∧ w'.cell? ⟨w.heap.size, 2, none⟩ = some (.int .i64 k0) ∧ w'.cell? ⟨v4.heap.size, 0, none⟩ = some (.slice (some ⟨gx0, 0, none⟩) n0 n0) ∧ w'.cell? ⟨v4.heap.size, 1, none⟩ = some (.slice (some ⟨gx1, 0, none⟩) n1 n1) ∧ w'.cell? ⟨v4.heap.size, 2, none⟩ = some (.int .i64 k0))) (by kernel_rfl) ⟨hb0.drew.cell 0, hb0.drew.cell 1, hb0.drew.cell 2, hx90.drew.cell 0, hx90.drew.cell 1, hx90.drew.cell 2⟩ (fun hHeld => ?_)
  replace ht := ht.drew
  replace hb0 := hb0.drew
  replace hx0 := hx0.drew
  replace hx1 := hx1.drew
  replace hx90 := hx90.drew
  refine wpAnyH_take (i := 0) (v := ?_) rfl (by kernel_rfl) (by kernel_rfl) (by kernel_rfl) (fun _ _ _ h => h) (Or.inl ⟨rfl, ?_⟩) hHeld ?_
  rotate_left
  · intro w' hS; obtain ⟨s0, s1, s2, s3, s4, s5⟩ := hS; go_simp <;> with_reducible rfl
  simp only [Act.put, List.getElem_toArray, List.getElem_cons_succ, List.getElem_cons_zero, List.setIfInBounds_toArray, List.set_cons_succ, List.set_cons_zero]
  refine wpAnyH_take (i := 1) (v := ?_) rfl (by kernel_rfl) (by kernel_rfl) (by kernel_rfl) (fun _ _ _ h => h) (Or.inl ⟨rfl, ?_⟩) hHeld ?_
  rotate_left
  · intro w' hS; obtain ⟨s0, s1, s2, s3, s4, s5⟩ := hS; go_simp <;> with_reducible rfl
  simp only [Act.put, List.getElem_toArray, List.getElem_cons_succ, List.getElem_cons_zero, List.setIfInBounds_toArray, List.set_cons_succ, List.set_cons_zero]
  refine wpAnyH_ready (rs := [2]) (by kernel_rfl) (by simp) (AllReadyH.cons rfl (fun K hK => ?_) AllReadyH.nil)
  go_simp
  refine (toCrew_own A0 n0 c0 x0 A1 n1 c1 x1 k0 _ (by exact h0.below ht) (by exact h1.below ht) HX0.out HX1.out (by omega) (by omega)).mono ?_
  rintro e v6 ⟨gy0, gy1, rfl, hgy0, hwy0, hgy1, hwy1, hb⟩
  have hz6 : v5.heap.size ≤ v6.heap.size := by have := hb.size; simpa using this
  replace ht := below_then ht hb ht.size
  replace hb0 := hb0.below hb
  replace hx0 := hx0.below hb
  replace hx1 := hx1.below hb
  replace hx90 := hx90.below hb
  have hgmy0 : v5.heap.size ≤ gy1 ∧ gy1 < v6.heap.size := ⟨by have := hgy0; (try simp at this); omega, hwy1.lt⟩
  have hy0 := Fresh.of_whole (lo := v5.heap.size) (hi := gy1) hwy0 (by simpa using hgy0) hgy1
  have hy1 := Fresh.of_whole (lo := gy1) (hi := v6.heap.size) hwy1 (Nat.le_refl _) hwy1.lt
  clear hgy0 hwy0 hgy1 hwy1
  clear hb
  refine hK.out _ _ ⟨hb0.cell 0, hb0.cell 1, hb0.cell 2, hx90.cell 0, hx90.cell 1, hx90.cell 2⟩ (fun hHeld => ?_)
  clear hK K
  try simp only [Act.put, List.getElem_toArray, List.getElem_cons_succ, List.getElem_cons_zero, List.setIfInBounds_toArray, List.set_cons_succ, List.set_cons_zero]
  refine wpAnyH_ready (rs := [3]) (by kernel_rfl) (by simp) (AllReadyH.cons rfl (fun K hK => ?_) AllReadyH.nil)
  go_simp
  refine (eqCrew_yes _ _ n0 _ _ x0 _ _ n1 _ _ x1 k0 _ (by exact hx0.holds) (by exact hy0.holds) (by exact hx1.holds) (by exact hy1.holds) HX0.out HX1.out (by omega) (by omega)).mono ?_
  rintro e v7 ⟨rfl, hb⟩
  have hz7 : v6.heap.size ≤ v7.heap.size := by have := hb.size; simpa using this
  replace ht := below_then ht hb ht.size
  replace hb0 := hb0.below hb
  replace hx0 := hx0.below hb
  replace hx1 := hx1.below hb
  replace hx90 := hx90.below hb
  replace hy0 := hy0.below hb
  replace hy1 := hy1.below hb
  clear hb
  clear hy0 hy1
  refine hK.out _ _ ⟨hb0.cell 0, hb0.cell 1, hb0.cell 2, hx90.cell 0, hx90.cell 1, hx90.cell 2⟩ (fun hHeld => ?_)
  clear hK K
  try simp only [Act.put, List.getElem_toArray, List.getElem_cons_succ, List.getElem_cons_zero, List.setIfInBounds_toArray, List.set_cons_succ, List.set_cons_zero]
  refine wpAnyH_take (i := 4) (v := ?_) rfl (by kernel_rfl) (by kernel_rfl) (by kernel_rfl) (fun _ _ _ h => h) (Or.inl ⟨rfl, ?_⟩) hHeld ?_
  rotate_left
  · intro w' hS; obtain ⟨s0, s1, s2, s3, s4, s5⟩ := hS; go_simp <;> with_reducible rfl
  simp only [Act.put, List.getElem_toArray, List.getElem_cons_succ, List.getElem_cons_zero, List.setIfInBounds_toArray, List.set_cons_succ, List.set_cons_zero]
  refine wpAnyH_done (by kernel_rfl) ?_ _
  clear hHeld
  obtain ⟨hb0_0, hb0_1, hb0_2⟩ := hb0.cells3
  have hb0_l := hb0.lt
  obtain ⟨hx90_0, hx90_1, hx90_2⟩ := hx90.cells3
  have hx90_l := hx90.lt
  go_wp2
  go_ret
  exact ⟨rfl, ht⟩

theorem lawFewestOfCrew_all (A0 : Option Addr) (n0 c0 : Nat) (x0 : List Int) (A1 : Option Addr) (n1 c1 : Nat) (x1 : List Bool) (k0 : Int) (w : World) (h0 : Holds w A0 (nums x0)) (hx0 : x0.length = n0) (hn0 : n0 ≤ 9223372036854775807) (h1 : Holds w A1 (bits x1)) (hx1 : x1.length = n1) (hn1 : n1 ≤ 9223372036854775807) :
    Calls Try.prog 9 #[.agg #[.slice A0 n0 c0, .slice A1 n1 c1, .int .i64 k0]] w fun e w' => e = .returned (.bool true) ∧ Below w.heap.size w w' := by
  rcases (inferInstance : Decidable (0 ≤ 1048576 - (n0 : Int) - (n1 : Int))) with g0 | g0
  · exact lawFewestOfCrew_big0 A0 n0 c0 x0 A1 n1 c1 x1 k0 w h0 hx0 hn0 h1 hx1 hn1  (by omega)
  exact lawFewestOfCrew_small A0 n0 c0 x0 A1 n1 c1 x1 k0 w h0 hx0 hn0 h1 hx1 hn1 g0
end Go.Proofs.Ytlpeimlbpiofkaa
