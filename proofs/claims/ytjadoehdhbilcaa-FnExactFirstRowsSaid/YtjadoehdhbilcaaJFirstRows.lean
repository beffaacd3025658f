/-
  What is proved: the given statement on FnExactFirstRows: at every argument of its kinds the law returns true and the arguments read as before. Conditions: none beyond the statement's own.
  Beside it, what it stands on:
  What is proved: contracts of the program's fewest rows of a company, its count of the states that are reached, and its seats for couples. Conditions: none.
  What is proved: the contract of the program's moves that lead nearer (onward) over a company's river. Conditions: there is a company; the map has a number for each state that it knows.
  What is proved: the first shortest list of rows as the program and as the model walk to it are one. Conditions: at most four couples and four seats.
  What is proved: contracts of the program's first shortest list of moves over a company's river, and of its FirstRows. Conditions: none.
  What is proved: contracts of the model's and the program's FirstRows. Conditions: none.
  What is proved: how a law's arguments, as they come in, are opened: a list of numbers, a party. Conditions: none beyond the reading itself.
  What is proved: how further arguments of a law, as they come in, are opened: a number, a list of lists of numbers. Conditions: none beyond the reading itself.
  What is proved: how a company among a law's arguments, as it comes in, is opened. Conditions: none beyond the reading itself.
  What is proved: the law FnExactFirstRows returns true at every argument, and leaves all that was there as it was. Conditions: the arguments are read as they lie.
-/
import Derived.Test.YtjadoehdhbilcaaRows
import Derived.WalkKit
import Derived.ProofKit
import Derived.OpenShut
import Derived.ChangeOld
import Derived.Below
import Derived.Lib.SmallJoins
import Derived.Deep.Slices
import Derived.Deep.Grids
import Derived.Deep.Matrix
import Derived.Deep.RegionHeld3
import Derived.JoinedOf
import Derived.Test.YtjadoehdhbilcaaJ7FirstRows
set_option linter.unusedSimpArgs false
set_option linter.unusedVariables false
namespace Go.Proofs.Ytjadoehdhbilcaa
open Go.RowKit Go.Maps Go.WideShapes

theorem plc_first {k : Nat} (hk : k ≤ 4) : plc k 0 = .agg #[.bool false, .bool false, .bool false, .bool false, .bool false, .bool false, .bool false, .bool false, .bool false] := by
  have h : k = 0 ∨ k = 1 ∨ k = 2 ∨ k = 3 ∨ k = 4 := by omega
  rcases h with rfl | rfl | rfl | rfl | rfl <;> rfl
theorem plc_last {k : Nat} (h1 : 1 ≤ k) (hk : k ≤ 4) : plcC k (2 * 2 ^ (2 * k) - 1) = place9 (firstN (2 * k)) true := by
  have h : k = 1 ∨ k = 2 ∨ k = 3 ∨ k = 4 := by omega
  rcases h with rfl | rfl | rfl | rfl <;> rfl
theorem first_mem (k : Nat) : 0 ∈ sts k := sts_mem.2 (by have := Nat.two_pow_pos (2 * k); omega)
noncomputable def fewN (k q : Nat) : Int := (lk (finP k q (2 * 2 ^ (2 * k) - 1)).1 0).getD 0
noncomputable def fewB (k q : Nat) : Bool := (lk (finP k q (2 * 2 ^ (2 * k) - 1)).1 0).isSome
noncomputable def fewI (a b : Int) : Int := if isCo a b then fewN a.toNat b.toNat else 0
noncomputable def fewO (a b : Int) : Bool := isCo a b && fewB a.toNat b.toNat
theorem yields_river {ops : Array Oper} {S : World → Prop} {o : Oper} {a : Act} {g k gG gC : Nat} (hw : Region.wanted o (yielded ops a.tmps) = true) (x : Operand) (ho : o.op = .load 74 x) (hx : a.eval x = .pointer (some ⟨g, 0, none⟩))
    (hS : ∀ w, S w → Whole w g 74 (riverCells k gG gC)) : YieldsIf Try.prog ops S o (.agg (riverCells k gG gC)) a :=
  .inl ⟨hw, fun w hw' => by
    unfold execOp
    simp only [ho, hx, Instr.loadAt, Instr.sureAddr, Sem.run_bind, Sem.run_pure, Result.andThen_ok, run_loadVar_row (P := Try.prog) w g 74 74 (riverCells k gG gC) (0, 0) _ (hS w hw') Try.underlying74 rfl size_river]⟩
theorem r9f_of {w : World} {g k gG gC : Nat} {t : TypeId} (h : Whole w g t (riverCells k gG gC)) : w.cell? ⟨g, 0, none⟩ = some (.bool false) ∧ w.cell? ⟨g, 1, none⟩ = some (.bool false) ∧ w.cell? ⟨g, 2, none⟩ = some (.bool false) ∧ w.cell? ⟨g, 3, none⟩ = some (.bool false) ∧ w.cell? ⟨g, 4, none⟩ = some (.bool false) ∧ w.cell? ⟨g, 5, none⟩ = some (.bool false) ∧ w.cell? ⟨g, 6, none⟩ = some (.bool false) ∧ w.cell? ⟨g, 7, none⟩ = some (.bool false) ∧ w.cell? ⟨g, 8, none⟩ = some (.bool false) := ⟨h.cell 0, h.cell 1, h.cell 2, h.cell 3, h.cell 4, h.cell 5, h.cell 6, h.cell 7, h.cell 8⟩
theorem r9l_of {w : World} {g k gG gC : Nat} {t : TypeId} (h : Whole w g t (riverCells k gG gC)) : w.cell? ⟨g, 9, none⟩ = some (.bool (firstN (2 * k) 0)) ∧ w.cell? ⟨g, 10, none⟩ = some (.bool (firstN (2 * k) 1)) ∧ w.cell? ⟨g, 11, none⟩ = some (.bool (firstN (2 * k) 2)) ∧ w.cell? ⟨g, 12, none⟩ = some (.bool (firstN (2 * k) 3)) ∧ w.cell? ⟨g, 13, none⟩ = some (.bool (firstN (2 * k) 4)) ∧ w.cell? ⟨g, 14, none⟩ = some (.bool (firstN (2 * k) 5)) ∧ w.cell? ⟨g, 15, none⟩ = some (.bool (firstN (2 * k) 6)) ∧ w.cell? ⟨g, 16, none⟩ = some (.bool (firstN (2 * k) 7)) ∧ w.cell? ⟨g, 17, none⟩ = some (.bool true) := ⟨h.cell 9, h.cell 10, h.cell 11, h.cell 12, h.cell 13, h.cell 14, h.cell 15, h.cell 16, h.cell 17⟩

set_option maxHeartbeats 6400000 in
set_option maxRecDepth 100000 in
set_option linter.unusedSimpArgs false in
theorem fewestMoves_any (k q gG gC g1 g3 g4 g : Nat) (A : Option Addr) (c : Nat) (w : World) (hk1 : 1 ≤ k) (hk : k ≤ 4) (hq1 : 1 ≤ q) (hq4 : q ≤ 4) (hF0 : RowsFn w k gG gC g1 g3 g4 g A c (groupsOf k q)) :
    Calls Try.prog 65 #[.agg (riverCells k gG gC)] w fun e w' => e = .returned (.tuple #[.int .i64 (fewN k q), .bool (fewB k q)]) ∧ Below w.heap.size w w' := by
  have hR := Whole.fresh w 74 (riverCells k gG gC)
  have hF := hF0.alloc (.cells (riverCells k gG gC) 74)
  have ht := below1 w (.cells (riverCells k gG gC) 74)
  clear hF0
  go_enter Try.func65, Try.ntmps65
  go_wp2_with fail
  refine wp_region_held_drew (S := (fun w' => Whole w' w.heap.size 74 (riverCells k gG gC))) (by kernel_rfl) hR.drew (fun hHeld => ?_)
  replace hR := hR.drew
  replace hF := hF.drew
  replace ht := ht.drew
  refine wpAnyH_take (i := 0) (v := .agg (riverCells k gG gC)) rfl (by kernel_rfl) (by kernel_rfl) (by kernel_rfl) (fun _ _ _ h => h) (yields_river rfl _ rfl rfl (fun _ h => h)) hHeld ?_
  simp only [Act.put, List.getElem_toArray, List.getElem_cons_succ, List.getElem_cons_zero, List.setIfInBounds_toArray, List.set_cons_succ, List.set_cons_zero]
  refine wpAnyH_take (i := 1) (v := ?_) rfl (by kernel_rfl) (by kernel_rfl) (by kernel_rfl) (fun _ _ _ h => h) (Or.inl ⟨rfl, ?_⟩) hHeld ?_
  rotate_left
  · intro w' hS; skip; go_simp <;> with_reducible rfl
  simp only [Act.put, List.getElem_toArray, List.getElem_cons_succ, List.getElem_cons_zero, List.setIfInBounds_toArray, List.set_cons_succ, List.set_cons_zero]
  refine wpAnyH_take (i := 2) (v := .agg #[.bool (firstN (2 * k) 0), .bool (firstN (2 * k) 1), .bool (firstN (2 * k) 2), .bool (firstN (2 * k) 3), .bool (firstN (2 * k) 4), .bool (firstN (2 * k) 5), .bool (firstN (2 * k) 6), .bool (firstN (2 * k) 7), .bool true]) rfl (by kernel_rfl) (by kernel_rfl) (by kernel_rfl) (fun _ _ _ h => h) (Or.inl ⟨rfl, fun w' hS => by obtain ⟨s0, s1, s2, s3, s4, s5, s6, s7, s8⟩ := r9l_of hS; go_simp⟩) hHeld ?_
  simp only [Act.put, List.getElem_toArray, List.getElem_cons_succ, List.getElem_cons_zero, List.setIfInBounds_toArray, List.set_cons_succ, List.set_cons_zero]
  refine wpAnyH_take (i := 4) (v := ?_) rfl (by kernel_rfl) (by kernel_rfl) (by kernel_rfl) (fun _ _ _ h => h) (Or.inl ⟨rfl, ?_⟩) hHeld ?_
  rotate_left
  · intro w' hS; skip; go_simp <;> with_reducible rfl
  simp only [Act.put, List.getElem_toArray, List.getElem_cons_succ, List.getElem_cons_zero, List.setIfInBounds_toArray, List.set_cons_succ, List.set_cons_zero]
  refine wpAnyH_take (i := 5) (v := .agg #[.bool false, .bool false, .bool false, .bool false, .bool false, .bool false, .bool false, .bool false, .bool false]) rfl (by kernel_rfl) (by kernel_rfl) (by kernel_rfl) (fun _ _ _ h => h) (Or.inl ⟨rfl, fun w' hS => by obtain ⟨s0, s1, s2, s3, s4, s5, s6, s7, s8⟩ := r9f_of hS; go_simp⟩) hHeld ?_
  simp only [Act.put, List.getElem_toArray, List.getElem_cons_succ, List.getElem_cons_zero, List.setIfInBounds_toArray, List.set_cons_succ, List.set_cons_zero]
  refine wpAnyH_ready (rs := [3]) (by kernel_rfl) (by simp) (AllReadyH.cons rfl (fun K hK => ?_) AllReadyH.nil)
  go_simp
  have hma := movesApart_any k q gG gC g1 g3 g4 g A c (2 * 2 ^ (2 * k) - 1) _ hk1 hk hq1 hq4 (.inr rfl) hF
  rw [plc_last hk1 hk] at hma
  unfold place9 at hma
  refine hma.mono ?_
  clear hma
  rintro e w3 ⟨b, rfl, hM, hb⟩
  replace hR := hR.below hb
  replace ht := below_then ht hb ht.size
  clear hb hF
  refine hK.out _ _ hR (fun hHeld => ?_)
  clear hK K
  try simp only [Act.put, List.getElem_toArray, List.getElem_cons_succ, List.getElem_cons_zero, List.setIfInBounds_toArray, List.set_cons_succ, List.set_cons_zero]
  refine wpAnyH_ready (rs := [6]) (by kernel_rfl) (by simp) (AllReadyH.cons rfl (fun K hK => ?_) AllReadyH.nil)
  have hlk : (Instr.lookup 98 (.map (some b)) (.agg #[.bool false, .bool false, .bool false, .bool false, .bool false, .bool false, .bool false, .bool false, .bool false]) true).run Try.prog w3 = .ok (.tuple #[.int .i64 (fewN k q), .bool (fewB k q)]) w3 := by have h := MapIs.look_ok hM (place_keys hk) Try.underlying98 Try.underlying3 (hzero _) 0 (first_mem k); rw [plc_first hk] at h; exact h
  go_simp
  clear hlk hM
  refine hK.out _ _ hR (fun hHeld => ?_)
  clear hK K
  try simp only [Act.put, List.getElem_toArray, List.getElem_cons_succ, List.getElem_cons_zero, List.setIfInBounds_toArray, List.set_cons_succ, List.set_cons_zero]
  refine wpAnyH_take (i := 7) (v := ?_) rfl (by kernel_rfl) (by kernel_rfl) (by kernel_rfl) (fun _ _ _ h => h) (Or.inl ⟨rfl, ?_⟩) hHeld ?_
  rotate_left
  · intro w' hS; skip; go_simp <;> with_reducible rfl
  simp only [Act.put, List.getElem_toArray, List.getElem_cons_succ, List.getElem_cons_zero, List.setIfInBounds_toArray, List.set_cons_succ, List.set_cons_zero]
  refine wpAnyH_take (i := 8) (v := ?_) rfl (by kernel_rfl) (by kernel_rfl) (by kernel_rfl) (fun _ _ _ h => h) (Or.inl ⟨rfl, ?_⟩) hHeld ?_
  rotate_left
  · intro w' hS; skip; go_simp <;> with_reducible rfl
  simp only [Act.put, List.getElem_toArray, List.getElem_cons_succ, List.getElem_cons_zero, List.setIfInBounds_toArray, List.set_cons_succ, List.set_cons_zero]
  refine wpAnyH_take (i := 9) (v := ?_) rfl (by kernel_rfl) (by kernel_rfl) (by kernel_rfl) (fun _ _ _ h => h) (Or.inl ⟨rfl, ?_⟩) hHeld ?_
  rotate_left
  · intro w' hS; skip; go_simp <;> with_reducible rfl
  simp only [Act.put, List.getElem_toArray, List.getElem_cons_succ, List.getElem_cons_zero, List.setIfInBounds_toArray, List.set_cons_succ, List.set_cons_zero]
  refine wpAnyH_take (i := 10) (v := ?_) rfl (by kernel_rfl) (by kernel_rfl) (by kernel_rfl) (fun _ _ _ h => h) (Or.inl ⟨rfl, ?_⟩) hHeld ?_
  rotate_left
  · intro w' hS; skip; go_simp <;> with_reducible rfl
  simp only [Act.put, List.getElem_toArray, List.getElem_cons_succ, List.getElem_cons_zero, List.setIfInBounds_toArray, List.set_cons_succ, List.set_cons_zero]
  refine wpAnyH_take (i := 11) (v := ?_) rfl (by kernel_rfl) (by kernel_rfl) (by kernel_rfl) (fun _ _ _ h => h) (Or.inl ⟨rfl, ?_⟩) hHeld ?_
  rotate_left
  · intro w' hS; skip; go_simp <;> with_reducible rfl
  simp only [Act.put, List.getElem_toArray, List.getElem_cons_succ, List.getElem_cons_zero, List.setIfInBounds_toArray, List.set_cons_succ, List.set_cons_zero]
  refine wpAnyH_done (by kernel_rfl) ?_ _
  clear hHeld
  go_wp2
  go_ret2
  exact ⟨rfl, ht⟩

set_option maxHeartbeats 1600000 in
set_option maxRecDepth 100000 in
theorem implFewestRows_any (a b : Int) (w : World) :
    Calls Try.prog 32 #[.agg #[.int .i64 a, .int .i64 b]] w fun e w' => e = .returned (.tuple #[.int .i64 (fewI a b), .bool (fewO a b)]) ∧ Below w.heap.size w w' := by
  have hc := Whole.fresh w 31 #[.int .i64 a, .int .i64 b]
  cases h1 : isCo a b
  · have HV : Hid (fewI a b = 0 ∧ fewO a b = false) := by show _ ∧ _; simp [fewI, fewO, h1]
    have H1 := Lib.hid h1
    clear h1
    go_enter Try.func32, Try.ntmps32
    go_wp2_with fail
    refine (isCompany_any a b _).mono ?_
    rintro e w1 ⟨rfl, hb⟩
    rw [H1.out]
    have ht := below_then (below1 w _) hb (by simp)
    clear hb hc
    go_wp2
    go_ret2
    exact ⟨by rw [HV.out.1, HV.out.2]; rfl, ht⟩
  · obtain ⟨⟨ha1, ha4⟩, hb1, hb4⟩ := isCo_iff.1 h1
    obtain ⟨k, rfl⟩ := Int.eq_ofNat_of_zero_le (show 0 ≤ a by omega)
    obtain ⟨q, rfl⟩ := Int.eq_ofNat_of_zero_le (show 0 ≤ b by omega)
    have HV : Hid (fewI k q = fewN k q ∧ fewO k q = fewB k q) := by show _ ∧ _; simp [fewI, fewO, h1]
    have H1 := Lib.hid h1
    clear h1
    go_enter Try.func32, Try.ntmps32
    go_wp2_with fail
    refine (isCompany_any k q _).mono ?_
    rintro e w1 ⟨rfl, hb⟩
    rw [H1.out]
    have ht := below_then (below1 w _) hb (by simp)
    replace hc := hc.below hb
    clear hb
    obtain ⟨c0, c1, -, -⟩ := hc.two
    go_wp2_with fail
    refine (companyRiver_any k q _ (by omega) (by omega)).mono ?_
    rintro e w2 ⟨gG, gC, g1, g3, g4, g, A, c, rfl, hF, hb⟩
    replace ht := below_then ht hb ht.size
    clear hb c0 c1 hc
    have hfm := fewestMoves_any k q gG gC g1 g3 g4 g A c w2 (by omega) (by omega) (by omega) (by omega) hF
    go_wp2_with fail
    refine hfm.mono ?_
    clear hfm
    rintro e w3 ⟨rfl, hb⟩
    replace ht := below_then ht hb ht.size
    clear hb hF
    go_wp2
    go_ret2
    exact ⟨by rw [HV.out.1, HV.out.2]; rfl, ht⟩

/-- How many states are reached. -/
noncomputable def reachN (k q : Nat) : Nat := ((sts k).filter fun x => (lk (finP k q 0).1 x).isSome).length
noncomputable def reachI (a b : Int) : Int := if isCo a b then (reachN a.toNat b.toNat : Nat) else 0

set_option maxHeartbeats 1600000 in
set_option maxRecDepth 100000 in
theorem implReached_any (a b : Int) (w : World) :
    Calls Try.prog 38 #[.agg #[.int .i64 a, .int .i64 b]] w fun e w' => e = .returned (.tuple #[.int .i64 (reachI a b), .bool (isCo a b)]) ∧ Below w.heap.size w w' := by
  have hc := Whole.fresh w 31 #[.int .i64 a, .int .i64 b]
  cases h1 : isCo a b
  · have HV : Hid (reachI a b = 0) := by show _ = _; simp [reachI, h1]
    have H1 := Lib.hid h1
    clear h1
    go_enter Try.func38, Try.ntmps38
    go_wp2_with fail
    refine (isCompany_any a b _).mono ?_
    rintro e w1 ⟨rfl, hb⟩
    rw [H1.out]
    have ht := below_then (below1 w _) hb (by simp)
    clear hb hc
    go_wp2
    go_ret2
    exact ⟨by rw [HV.out]; rfl, ht⟩
  · obtain ⟨⟨ha1, ha4⟩, hb1, hb4⟩ := isCo_iff.1 h1
    obtain ⟨k, rfl⟩ := Int.eq_ofNat_of_zero_le (show 0 ≤ a by omega)
    obtain ⟨q, rfl⟩ := Int.eq_ofNat_of_zero_le (show 0 ≤ b by omega)
    have hk : k ≤ 4 := by omega
    have HV : Hid (reachI k q = (countIs (sts k) (lk (finP k q 0).1) : Nat)) := by show _ = _; simp [reachI, h1]; rfl
    have H1 := Lib.hid h1
    clear h1
    go_enter Try.func38, Try.ntmps38
    go_wp2_with fail
    refine (isCompany_any k q _).mono ?_
    rintro e w1 ⟨rfl, hb⟩
    rw [H1.out]
    have ht := below_then (below1 w _) hb (by simp)
    replace hc := hc.below hb
    clear hb
    obtain ⟨c0, c1, -, -⟩ := hc.two
    go_wp2_with fail
    refine (companyRiver_any k q _ (by omega) (by omega)).mono ?_
    rintro e w2 ⟨gG, gC, g1, g3, g4, g, A, c, rfl, hF, hb⟩
    replace ht := below_then ht hb ht.size
    have HLO := Lib.hid ht.size
    clear hb c0 c1 hc
    have hz := Whole.fresh w2 74 riverZero
    replace hF := hF.alloc (.cells riverZero 74)
    replace ht := ht.alloc ht.size (.cells riverZero 74)
    have htl := hz.lt
    unfold riverZero at hz hF ht htl
    go_wp2_with (first | (refine wpList_store_whole rfl 74 (.tmp 4) (.tmp 9) rfl w2.heap.size (riverCells k gG gC) rfl rfl 74 _ hz size_river rfl (river_one _ _ _) ?_; intro w7 hw7 ho7; obtain ⟨s0, s1, s2, s3, s4, s5, s6, s7, s8⟩ := r9f_of hw7; have hl7 := hw7.lt) | (refine wpList_load_row rfl 74 (.tmp 4) rfl w2.heap.size rfl 74 (riverCells k gG gC) (0, 0) _ hw7 Try.underlying74 rfl size_river ?_))
    have hF7 : RowsFn w7 k gG gC g1 g3 g4 g A c (groupsOf k q) := by
      have hne : ∀ {x : Nat} {ty : TypeId} {cs : Array Value}, Whole (w2.alloc _) x ty cs → ty ≠ 74 → x ≠ w2.heap.size := fun h hn => whole_ne h hz hn
      exact ⟨⟨ho7.whole hF.f.b1 (hne hF.f.b1 (by decide)), ho7.whole hF.f.b3 (hne hF.f.b3 (by decide)), ho7.whole hF.f.b4 (hne hF.f.b4 (by decide))⟩, ho7.whole hF.p (hne hF.p (by decide)), ho7.whole hF.gr (hne hF.gr (by decide)), own_only hF.own ho7 hz (by decide)⟩
    replace ht := ho7.below ht (by have := HLO.out; omega)
    have hma := movesApart_any k q gG gC g1 g3 g4 g A c 0 w7 (by omega) (by omega) (by omega) (by omega) (.inl rfl) hF7
    rw [show plcC k 0 = #[.bool false, .bool false, .bool false, .bool false, .bool false, .bool false, .bool false, .bool false, .bool false] from by have h := plc_first hk; rw [plc] at h; exact Value.agg.inj h] at hma
    refine hma.mono ?_
    clear hma
    rintro e w3 ⟨b, rfl, hM, hb⟩
    replace ht := below_then ht hb ht.size
    clear hb hF
    go_wp2_with (at_len; refine wpList_map_len _ rfl _ rfl (place_keys hk) (sts_nodup k) Try.underlying98 rfl hM ?_)
    go_ret2
    exact ⟨by rw [HV.out]; rfl, ht⟩
end Go.Proofs.Ytjadoehdhbilcaa

namespace Go.Proofs.Ytjadoehdhbilcaa
open Go.RowKit Go.Maps Go.WideShapes

/-- How many moves are left, as the program reads it. -/
def leftI (m : List (Nat × Int)) (y : Nat) : Int := (lk m y).getD 0
noncomputable def nearer (m : List (Nat × Int)) (x : Nat) (l : List Int) : Bool := decide (leftI m (stepC x l) < leftI m x)
noncomputable def onM (k q : Nat) (m : List (Nat × Int)) (x : Nat) : List (List Int) := (mvs k q x).filter (nearer m x)
noncomputable def nearJ (m : List (Nat × Int)) (x : Nat) (rs : List RowV) (j : Nat) : List RowV := (rs.take j).filter fun r => nearer m x r.xs
theorem nearJ_yes {m : List (Nat × Int)} {x : Nat} {rs : List RowV} {j : Nat} (hj : j < rs.length) (h : nearer m x rs[j].xs = true) : nearJ m x rs (j + 1) = nearJ m x rs j ++ [rs[j]] := by
  rw [nearJ, List.take_succ_eq_append_getElem hj, List.filter_append, nearJ]; simp only [List.filter_cons, h]; simp
theorem nearJ_no {m : List (Nat × Int)} {x : Nat} {rs : List RowV} {j : Nat} (hj : j < rs.length) (h : nearer m x rs[j].xs = false) : nearJ m x rs (j + 1) = nearJ m x rs j := by
  rw [nearJ, List.take_succ_eq_append_getElem hj, List.filter_append, nearJ]; simp only [List.filter_cons, h]; simp
theorem nearJ_len (m : List (Nat × Int)) (x : Nat) (rs : List RowV) (j : Nat) : (nearJ m x rs j).length ≤ rs.length :=
  Nat.le_trans (List.length_filter_le _ _) (List.length_take_le' _ _)
theorem nearJ_all {m : List (Nat × Int)} {x : Nat} {rs : List RowV} {ls : List (List Int)} (h : rowNums rs = ls) : rowNums (nearJ m x rs rs.length) = ls.filter (nearer m x) := by
  rw [nearJ, List.take_length, ← h, rowNums, rowNums, List.filter_map]; rfl
theorem nearJ_mem {m : List (Nat × Int)} {x : Nat} {rs : List RowV} {j : Nat} {r : RowV} (h : r ∈ nearJ m x rs j) : r ∈ rs := List.mem_of_mem_take (List.mem_filter.1 h).1
theorem fresh_lower {w : World} {lo lo' hi : Nat} {ty : TypeId} {A : Option Addr} {xs : List Value} (h : Fresh w lo hi ty A xs) (hl : lo' ≤ lo) : Fresh w lo' hi ty A xs := by
  rcases h with f1 | ⟨g, cs, e1, e2, e3, e4⟩
  · exact .inl f1
  · exact .inr ⟨g, cs, e1, by omega, e3, e4⟩
/-- Each of the rows lies in memory of the call's own. -/
theorem Spread.fresh {w : World} {lo : Nat} {A : Option Addr} {rs : List RowV} (h : Spread w lo A rs) : ∀ r ∈ rs, Fresh w lo w.heap.size 3 r.A (nums r.xs) ∧ r.xs.length = r.n ∧ r.n ≤ 1048576 := by
  obtain ⟨ps, ⟨h1, h2, -⟩, h3, -⟩ := h
  intro r hr
  obtain ⟨i, hi, rfl⟩ := List.getElem_of_mem hr
  obtain ⟨f1, f2, f3⟩ := h2 i rs[i] (ps[i]'(by omega)) (List.getElem?_eq_getElem hi) (List.getElem?_eq_getElem (by omega))
  obtain ⟨p1, p2⟩ := h3 (ps[i]'(by omega)) (List.getElem_mem _)
  refine ⟨?_, f2, f3⟩
  rcases f1 with f1 | ⟨g, cs, e1, e2, e3, e4⟩
  · exact .inl f1
  · exact .inr ⟨g, cs, e1, by omega, by omega, e4⟩
def OnwardPost (k q : Nat) (m : List (Nat × Int)) (x : Nat) (w : World) (e : Ending) (w' : World) : Prop :=
  ∃ (A : Option Addr) (c : Nat) (rs : List RowV), e = .returned (.slice A rs.length c) ∧ rowNums rs = onM k q m x ∧ w'.ownsRow w.heap.size 77 10 (.slice A rs.length c) rs.length (movesCells (bitsOf (x / 2) (2 * k)) (bitAt x 0) rs) ∧ (∀ r ∈ rs, Fresh w' w.heap.size w'.heap.size 3 r.A (nums r.xs) ∧ r.xs.length = r.n ∧ r.n ≤ 1048576) ∧ Below w.heap.size w w'

set_option maxHeartbeats 12800000 in
set_option maxRecDepth 100000 in
set_option linter.unusedSimpArgs false in
theorem onward_any (k q gG gC g1 g3 g4 g : Nat) (A : Option Addr) (c b x : Nat) (m : List (Nat × Int)) (w : World) (hk : k ≤ 4) (hxd : x ∈ sts k) (hM : SeaMap k w b m) (hF : RowsFn w k gG gC g1 g3 g4 g A c (groupsOf k q)) :
    Calls Try.prog 88 #[.agg (riverCells k gG gC), .map (some b), .agg (plcC k x)] w (OnwardPost k q m x w) := by
  obtain ⟨i0, hi, hz0, hz1, hz2⟩ := info_parts info_move
  have HI := Lib.hid hi
  have HZ0 := Lib.hid hz0
  have HZ1 := Lib.hid hz1
  have HZ2 := Lib.hid hz2
  have HR := (Whole.fresh w 74 (riverCells k gG gC)).alloc (.cells (plcC k x) 68)
  have hat := Whole.fresh (w.alloc (.cells (riverCells k gG gC) 74)) 68 (plcC k x)
  rw [World.size_alloc] at hat
  have ht := below2 w (.cells (riverCells k gG gC) 74) (.cells (plcC k x) 68)
  have HM := Lib.hid ((hM.alloc (.cells (riverCells k gG gC) 74)).alloc (.cells (plcC k x) 68))
  have HFN := Lib.hid ((hF.alloc (.cells (riverCells k gG gC) 74)).alloc (.cells (plcC k x) 68))
  have e18 := river_cell HR
  have hrl0 := HR.lt
  have HT := Lib.hid ht
  have HAT := Lib.hid hat
  obtain ⟨e0, e1, e2, e3, e4, e5, e6, e7, e8⟩ := nine0_of hat
  have hal := hat.lt
  clear hi hz0 hz1 hz2 hM hF ht hat HR
  unfold plcC place9 riverCells rowsFnV at HM HFN HT HAT e18 hrl0 e0 e1 e2 e3 e4 e5 e6 e7 e8 hal
  unfold plcC place9 riverCells rowsFnV
  go_enter Try.func88, Try.ntmps88
  go_wp2_with fail
  have hrf := rowsFn_any k q gG gC g1 g3 g4 g A c (bitsOf (x / 2) (2 * k)) (bitAt x 0) _ hk (bitsOf_len _ _) HFN.out
  rw [show placeCells (bitsOf (x / 2) (2 * k)) (bitAt x 0) = plcC k x from rfl] at hrf
  unfold plcC place9 at hrf
  refine hrf.mono ?_
  clear hrf
  rintro e w2 ⟨A1, c1, rs, rfl, hrn, hMv, hb⟩
  have HRN : Hid (rowNums rs = mvs k q x) := hrn
  have hrl : rs.length ≤ 255 := by have h1 := congrArg List.length hrn; have h2 := mvs_len k q x hk; rw [rowNums_len] at h1; rw [h1]; exact h2
  have hw12 := hb.size
  simp only [World.size_alloc] at hw12
  have HLO : Hid (w.heap.size + 1 + 1 ≤ w2.heap.size) := hw12
  have HT2 := Lib.hid (below_then HT.out hb HT.out.size)
  have HA2 := Lib.hid (HAT.out.below hb)
  have HM2 := Lib.hid (HM.out.below hb)
  have HMV := Lib.hid hMv
  clear hb hMv hrn e0 e1 e2 e3 e4 e5 e6 e7 e8 e18 hrl0 hal hw12 HT HAT HM HFN
  go_wp2
  go_loopw [7, 15] (fun v i wr => ∃ (j : Nat) (D : Option Addr) (c : Nat), j ≤ rs.length ∧ i = .int .i64 j ∧ v = .slice D (nearJ m x rs j).length c ∧ wr.ownsRow w2.heap.size 77 10 (.slice D (nearJ m x rs j).length c) (nearJ m x rs j).length (movesCells (bitsOf (x / 2) (2 * k)) (bitAt x 0) (nearJ m x rs j)) ∧ Below w2.heap.size w2 wr) (fun _ i _ => rs.length - (intOf i).toNat)
  case atStart => exact ⟨0, none, 0, Nat.zero_le _, rfl, rfl, World.ownsRow_nil _ _ _ _, Below.refl _ _⟩
  case round =>
    obtain ⟨j, D, c, hj, rfl, rfl, hown, hb⟩ := hrel
    obtain ⟨wz, rfl⟩ : ∃ W : World, W = wr := ⟨_, rfl⟩
    by_cases hlt : j < rs.length
    · have hd1 : decide ((j : Int) < (rs.length : Int)) = true := by simp; omega
      have hjm : j < (mvs k q x).length := by have h := congrArg List.length HRN.out; rw [rowNums_len] at h; omega
      have hlj : (mvs k q x)[j] = rs[j].xs := by have h := rowNums_get hlt; simp only [HRN.out] at h; exact h
      have hmem : rs[j].xs ∈ mvs k q x := by rw [← hlj]; exact List.getElem_mem hjm
      obtain ⟨hpc, hyd⟩ := plc_step hxd hmem
      obtain ⟨gr, hA1, hgrl, a0, a1, a2, a3, a4, a5, a6, a7, a8, a9⟩ := own_moves_row (HMV.out.below hb).1 hlt hpc
      subst hA1
      have hjy := nearJ_yes (m := m) (x := x) hlt
      have hjn := nearJ_no (m := m) (x := x) hlt
      have HMC : Hid (moveCells (bitsOf (x / 2) (2 * k)) (bitAt x 0) rs[j] = rs[j].val :: (plcC k (stepC x rs[j].xs)).toList) := by show _ = _; rw [moveCells, hpc]
      have hjl := nearJ_len m x rs j
      unfold nearer at hjy hjn
      obtain ⟨y, hy⟩ : ∃ y, stepC x rs[j].xs = y := ⟨_, rfl⟩
      rw [hy] at hyd a1 a2 a3 a4 a5 a6 a7 a8 a9 hjy hjn HMC
      obtain ⟨r, hr⟩ : ∃ r, rs[j] = r := ⟨_, rfl⟩
      rw [hr] at a0 hjy HMC
      have hrv : r.val = .slice r.A r.n r.c := rfl
      rw [hrv] at a0 HMC
      generalize r.A = rA at a0 HMC
      generalize r.n = rn at a0 HMC
      generalize r.c = rc at a0 HMC
      clear hpc hmem hlj hjm hy hr hrv
      generalize nearJ m x rs j = ns at hown hjy hjn hjl ⊢
      obtain ⟨dy, hdy⟩ : ∃ d, leftI m y = d := ⟨_, rfl⟩
      obtain ⟨dx, hdx⟩ : ∃ d, leftI m x = d := ⟨_, rfl⟩
      rw [hdy, hdx] at hjy hjn
      have HSY := Lib.hid hjy
      have HSN := Lib.hid hjn
      have HB := Lib.hid (hb.alloc hb.size (.cells #[.slice rA rn rc, .bool (pf k y 0), .bool (pf k y 1), .bool (pf k y 2), .bool (pf k y 3), .bool (pf k y 4), .bool (pf k y 5), .bool (pf k y 6), .bool (pf k y 7), .bool (pt y)] 77))
      have HOWN := Lib.hid (ownsRow_below hown (below1 wz (.cells #[.slice rA rn rc, .bool (pf k y 0), .bool (pf k y 1), .bool (pf k y 2), .bool (pf k y 3), .bool (pf k y 4), .bool (pf k y 5), .bool (pf k y 6), .bool (pf k y 7), .bool (pt y)] 77)))
      have HX := Whole.fresh wz 77 #[.slice rA rn rc, .bool (pf k y 0), .bool (pf k y 1), .bool (pf k y 2), .bool (pf k y 3), .bool (pf k y 4), .bool (pf k y 5), .bool (pf k y 6), .bool (pf k y 7), .bool (pt y)]
      have HXR : wz.heap.size < (wz.alloc (.cells #[.slice rA rn rc, .bool (pf k y 0), .bool (pf k y 1), .bool (pf k y 2), .bool (pf k y 3), .bool (pf k y 4), .bool (pf k y 5), .bool (pf k y 6), .bool (pf k y 7), .bool (pt y)] 77)).heap.size := by simp
      have hx0 := HX.cell 0
      obtain ⟨t0, t1, t2, t3, t4, t5, t6, t7, t8⟩ := nine1_of HX
      obtain ⟨n0, n1, n2, n3, n4, n5, n6, n7, n8⟩ := nine0_of (HA2.out.below HB.out)
      have HMB := (HM2.out.below HB.out)
      have hlk1 : (Instr.lookup 98 (.map (some b)) (.agg #[.bool (pf k y 0), .bool (pf k y 1), .bool (pf k y 2), .bool (pf k y 3), .bool (pf k y 4), .bool (pf k y 5), .bool (pf k y 6), .bool (pf k y 7), .bool (pt y)]) false).run Try.prog (World.drew (wz.alloc (.cells #[.slice rA rn rc, .bool (pf k y 0), .bool (pf k y 1), .bool (pf k y 2), .bool (pf k y 3), .bool (pf k y 4), .bool (pf k y 5), .bool (pf k y 6), .bool (pf k y 7), .bool (pt y)] 77))) = .ok (.int .i64 dy) (World.drew (wz.alloc (.cells #[.slice rA rn rc, .bool (pf k y 0), .bool (pf k y 1), .bool (pf k y 2), .bool (pf k y 3), .bool (pf k y 4), .bool (pf k y 5), .bool (pf k y 6), .bool (pf k y 7), .bool (pt y)] 77))) := by have h := MapIs.look (map_drew HMB) (place_keys hk) Try.underlying98 Try.underlying3 (hzero _) y hyd; rw [show (lk m y).getD 0 = dy from hdy] at h; exact h
      have hlk2 : (Instr.lookup 98 (.map (some b)) (.agg #[.bool (pf k x 0), .bool (pf k x 1), .bool (pf k x 2), .bool (pf k x 3), .bool (pf k x 4), .bool (pf k x 5), .bool (pf k x 6), .bool (pf k x 7), .bool (pt x)]) false).run Try.prog (World.drew (wz.alloc (.cells #[.slice rA rn rc, .bool (pf k y 0), .bool (pf k y 1), .bool (pf k y 2), .bool (pf k y 3), .bool (pf k y 4), .bool (pf k y 5), .bool (pf k y 6), .bool (pf k y 7), .bool (pt y)] 77))) = .ok (.int .i64 dx) (World.drew (wz.alloc (.cells #[.slice rA rn rc, .bool (pf k y 0), .bool (pf k y 1), .bool (pf k y 2), .bool (pf k y 3), .bool (pf k y 4), .bool (pf k y 5), .bool (pf k y 6), .bool (pf k y 7), .bool (pt y)] 77))) := by have h := MapIs.look (map_drew HMB) (place_keys hk) Try.underlying98 Try.underlying3 (hzero _) x hxd; rw [show (lk m x).getD 0 = dx from hdx] at h; exact h
      have hbs := hb.size
      have HBS := Lib.hid hbs
      have hlo2 := HLO.out
      have hxl := HX.lt
      have hal2 := (HA2.out.below HB.out).lt
      clear hown hb hjy hjn hdy hdx HMB
      go_wp2_with fail
      go_region
      clear n0 n1 n2 n3 n4 n5 n6 n7 n8 hlk1 hlk2 hal2 a0 a1 a2 a3 a4 a5 a6 a7 a8 a9
      by_cases hd : dy < dx
      · have hdd : decide (dy < dx) = true := by simpa using hd
        have HNX := Lib.hid (HSY.out hdd)
        have HB1 := Lib.hid (HB.out.drew.alloc (by have := HB.out.size; simpa using this) (.cells #[.slice rA rn rc, .bool (pf k y 0), .bool (pf k y 1), .bool (pf k y 2), .bool (pf k y 3), .bool (pf k y 4), .bool (pf k y 5), .bool (pf k y 6), .bool (pf k y 7), .bool (pt y)] 77))
        have HO1 := Lib.hid (ownsRow_below HOWN.out ((Below.refl (wz.alloc (.cells #[.slice rA rn rc, .bool (pf k y 0), .bool (pf k y 1), .bool (pf k y 2), .bool (pf k y 3), .bool (pf k y 4), .bool (pf k y 5), .bool (pf k y 6), .bool (pf k y 7), .bool (pt y)] 77)).heap.size (wz.alloc (.cells #[.slice rA rn rc, .bool (pf k y 0), .bool (pf k y 1), .bool (pf k y 2), .bool (pf k y 3), .bool (pf k y 4), .bool (pf k y 5), .bool (pf k y 6), .bool (pf k y 7), .bool (pt y)] 77))).drew.alloc (by simp) (.cells #[.slice rA rn rc, .bool (pf k y 0), .bool (pf k y 1), .bool (pf k y 2), .bool (pf k y 3), .bool (pf k y 4), .bool (pf k y 5), .bool (pf k y 6), .bool (pf k y 7), .bool (pt y)] 77)))
        have hne := cells_new (World.drew (wz.alloc (.cells #[.slice rA rn rc, .bool (pf k y 0), .bool (pf k y 1), .bool (pf k y 2), .bool (pf k y 3), .bool (pf k y 4), .bool (pf k y 5), .bool (pf k y 6), .bool (pf k y 7), .bool (pt y)] 77))) 77 #[.slice rA rn rc, .bool (pf k y 0), .bool (pf k y 1), .bool (pf k y 2), .bool (pf k y 3), .bool (pf k y 4), .bool (pf k y 5), .bool (pf k y 6), .bool (pf k y 7), .bool (pt y)]
        rw [show (World.drew (wz.alloc (.cells #[.slice rA rn rc, .bool (pf k y 0), .bool (pf k y 1), .bool (pf k y 2), .bool (pf k y 3), .bool (pf k y 4), .bool (pf k y 5), .bool (pf k y 6), .bool (pf k y 7), .bool (pt y)] 77))).heap.size = wz.heap.size + 1 by simp [World.drew]] at hne
        have HNEW := Lib.hid hne
        have HMAX := Lib.hid (show ns.length + 1 ≤ maxLen by unfold maxLen; omega)
        have HBYT := Lib.hid (show (ns.length + 1) * 40 ≤ 140737488355328 by omega)
        have HBASE := Lib.hid (show w2.heap.size ≤ ((World.drew (wz.alloc (.cells #[.slice rA rn rc, .bool (pf k y 0), .bool (pf k y 1), .bool (pf k y 2), .bool (pf k y 3), .bool (pf k y 4), .bool (pf k y 5), .bool (pf k y 6), .bool (pf k y 7), .bool (pt y)] 77))).alloc (.cells #[.slice rA rn rc, .bool (pf k y 0), .bool (pf k y 1), .bool (pf k y 2), .bool (pf k y 3), .bool (pf k y 4), .bool (pf k y 5), .bool (pf k y 6), .bool (pf k y 7), .bool (pt y)] 77)).heap.size by have := HBS.out; simp [World.drew]; omega)
        clear hne
        go_wp2_with (at_builtin; refine wpList_append_lies _ rfl (.tmp 27) (.tmp 29) 71 rfl w2.heap.size 77 i0 (.agg #[.slice none 0 0, .bool false, .bool false, .bool false, .bool false, .bool false, .bool false, .bool false, .bool false, .bool false]) 10 40 Try.underlying71 HI.out HZ0.out HZ1.out HZ2.out rfl (by decide) (.slice D ns.length c) ns.length (movesCells (bitsOf (x / 2) (2 * k)) (bitAt x 0) ns) rfl HO1.out ⟨wz.heap.size + 1, 0, none⟩ 1 1 [.slice rA rn rc, .bool (pf k y 0), .bool (pf k y 1), .bool (pf k y 2), .bool (pf k y 3), .bool (pf k y 4), .bool (pf k y 5), .bool (pf k y 6), .bool (pf k y 7), .bool (pt y)] rfl rfl HNEW.out (by simp [Value.oneCell']) (by decide) HMAX.out HBYT.out HBASE.out (wz.heap.size + 1 + 1) (by simp [World.drew]) ?_; intro g1 cap w5 hown4 hg4 hat4 hlt4)
        have HBN := Lib.hid (HB1.out.grown hg4 HBASE.out (fun kk hkk => (HO1.out.lt kk hkk).1))
        have HO4 : Hid (w5.ownsRow w2.heap.size 77 10 (.slice (some ⟨g1, 0, none⟩) (ns.length + 1) cap) (ns.length + 1) (movesCells (bitsOf (x / 2) (2 * k)) (bitAt x 0) (ns ++ [r]))) := by show World.ownsRow _ _ _ _ _ _ _; rw [movesCells_snoc, HMC.out]; exact hown4
        clear hown4 hg4 hat4 hlt4 hx0 t0 t1 t2 t3 t4 t5 t6 t7 t8
        go_roundw
        case rel => exact ⟨j + 1, some ⟨g1, 0, none⟩, cap, by omega, by go_num, by rw [HNX.out, List.length_append]; rfl, by rw [HNX.out, List.length_append]; exact HO4.out, HBN.out⟩
        case measure => simp [intOf]; omega
      · have hdd : decide (dy < dx) = false := by simpa using hd
        have HNX := Lib.hid (HSN.out hdd)
        have HB1 := Lib.hid HB.out.drew
        have HO1 := Lib.hid (ownsRow_below HOWN.out ((Below.refl (wz.alloc (.cells #[.slice rA rn rc, .bool (pf k y 0), .bool (pf k y 1), .bool (pf k y 2), .bool (pf k y 3), .bool (pf k y 4), .bool (pf k y 5), .bool (pf k y 6), .bool (pf k y 7), .bool (pt y)] 77)).heap.size (wz.alloc (.cells #[.slice rA rn rc, .bool (pf k y 0), .bool (pf k y 1), .bool (pf k y 2), .bool (pf k y 3), .bool (pf k y 4), .bool (pf k y 5), .bool (pf k y 6), .bool (pf k y 7), .bool (pt y)] 77))).drew))
        clear hx0 t0 t1 t2 t3 t4 t5 t6 t7 t8
        go_wp2
        go_roundw
        case rel => exact ⟨j + 1, D, c, by omega, by go_num, by rw [HNX.out], by rw [HNX.out]; exact HO1.out, HB1.out⟩
        case measure => simp [intOf]; omega
    · obtain rfl : j = rs.length := by omega
      have hd1 : decide ((rs.length : Int) < (rs.length : Int)) = false := by simp
      have HO := Lib.hid (own_lower hown (show w.heap.size ≤ w2.heap.size by have := HLO.out; omega))
      have HBN := Lib.hid (below_then HT2.out hb HT2.out.size)
      have HFR : Hid (∀ r ∈ nearJ m x rs rs.length, Fresh wz w.heap.size wz.heap.size 3 r.A (nums r.xs) ∧ r.xs.length = r.n ∧ r.n ≤ 1048576) := fun r hr => by
        obtain ⟨h1, h2, h3⟩ := (HMV.out.2.below hb).fresh r (nearJ_mem hr)
        exact ⟨fresh_lower h1 (by simp; omega), h2, h3⟩
      have HAL := Lib.hid (nearJ_all (m := m) (x := x) HRN.out)
      clear hown hb
      generalize nearJ m x rs rs.length = ns at *
      go_wp2
      go_ret
      exact ⟨_, _, _, rfl, HAL.out, HO.out, HFR.out, HBN.out⟩
end Go.Proofs.Ytjadoehdhbilcaa

namespace Go.Proofs.Ytjadoehdhbilcaa
open Go.RowKit

/-- The last state. -/
def lastN (k : Nat) : Nat := 2 * 2 ^ (2 * k) - 1
/-- The rows that the program takes one after the other; none: it is not done by then, or stands still. -/
noncomputable def goI (k q : Nat) (m : List (Nat × Int)) : Nat → Nat → Option (List (List Int))
  | 0, x => if x = lastN k then some [] else none
  | f + 1, x => if x = lastN k then some [] else match (onM k q m x).head? with
    | none => none
    | some l => (goI k q m f (stepC x l)).map (l :: ·)
/-- The group that the model takes. -/
def pickS (k q : Nat) (F : Nat → Int) (x : Nat) : Option Nat := (rwsM k q x).find? fun g => F (ny x g) == F x - 1
/-- The rows that the model takes one after the other. -/
def goS (k q : Nat) (F : Nat → Int) : Nat → Nat → Option (List (List Int))
  | 0, x => if 0 < F x then none else some []
  | f + 1, x => if 0 < F x then (match pickS k q F x with
    | none => none
    | some g => (goS k q F f (ny x g)).map (listTo g 8 :: ·)) else some []
noncomputable def firstSame (k q : Nat) : Bool := ((lk (finA k q (lastN k)).m 0).isSome == (lk (finP k q (lastN k)).1 0).isSome) && (!(lk (finP k q (lastN k)).1 0).isSome || ((goI k q (finP k q (lastN k)).1 12 0 == goS k q (fA (finA k q (lastN k)).m) 12 0) && (goI k q (finP k q (lastN k)).1 12 0).isSome))
theorem firstSame11 : firstSame 1 1 = true := by decide +kernel
theorem firstSame12 : firstSame 1 2 = true := by decide +kernel
theorem firstSame13 : firstSame 1 3 = true := by decide +kernel
theorem firstSame14 : firstSame 1 4 = true := by decide +kernel
theorem firstSame21 : firstSame 2 1 = true := by decide +kernel
theorem firstSame22 : firstSame 2 2 = true := by decide +kernel
theorem firstSame23 : firstSame 2 3 = true := by decide +kernel
theorem firstSame24 : firstSame 2 4 = true := by decide +kernel
theorem firstSame31 : firstSame 3 1 = true := by decide +kernel
theorem firstSame32 : firstSame 3 2 = true := by decide +kernel
theorem firstSame33 : firstSame 3 3 = true := by decide +kernel
theorem firstSame34 : firstSame 3 4 = true := by decide +kernel
theorem firstSame41 : firstSame 4 1 = true := by decide +kernel
theorem firstSame42 : firstSame 4 2 = true := by decide +kernel
theorem firstSame43 : firstSame 4 3 = true := by decide +kernel
theorem firstSame44 : firstSame 4 4 = true := by decide +kernel
theorem firstSame_all {k q : Nat} (h1 : 1 ≤ k) (h4 : k ≤ 4) (q1 : 1 ≤ q) (q4 : q ≤ 4) : firstSame k q = true := by
  have hk : k = 1 ∨ k = 2 ∨ k = 3 ∨ k = 4 := by omega
  have hq : q = 1 ∨ q = 2 ∨ q = 3 ∨ q = 4 := by omega
  rcases hk with rfl | rfl | rfl | rfl <;> rcases hq with rfl | rfl | rfl | rfl
  · exact firstSame11
  · exact firstSame12
  · exact firstSame13
  · exact firstSame14
  · exact firstSame21
  · exact firstSame22
  · exact firstSame23
  · exact firstSame24
  · exact firstSame31
  · exact firstSame32
  · exact firstSame33
  · exact firstSame34
  · exact firstSame41
  · exact firstSame42
  · exact firstSame43
  · exact firstSame44
end Go.Proofs.Ytjadoehdhbilcaa

namespace Go.Proofs.Ytjadoehdhbilcaa
open Go.RowKit Go.Maps Go.WideShapes

theorem heads_only {w w' : World} {lo c b : Nat} {A : Option Addr} {rs : List RowV} {t : TypeId} {cs : Array Value} (h : Heads w lo A c rs) (ho : Only b w w') (hb : Whole w b t cs) (h1 : t ≠ 40) (h2 : t ≠ 3) : Heads w' lo A c rs := by
  obtain ⟨h0, ps, ⟨k1, k2, k3⟩, h3, h4⟩ := h
  refine ⟨own_only h0 ho hb h1, ps, ⟨k1, fun i r p hr hp => ?_, k3⟩, fun p hp => ⟨(h3 p hp).1, by rw [ho.size]; exact (h3 p hp).2⟩, h4⟩
  obtain ⟨f1, f2, f3⟩ := k2 i r p hr hp
  refine ⟨?_, f2, f3⟩
  rcases f1 with f1 | ⟨g, cs', e1, e2, e3, e4, e5⟩
  · exact .inl f1
  · exact .inr ⟨g, cs', e1, e2, e3, ho.whole e4 (whole_ne e4 hb h2.symm), e5⟩
theorem own_apart {w : World} {base size n b : Nat} {e t : TypeId} {v : Value} {xs : List Value} {cs : Array Value} (h : w.ownsRow base e size v n xs) (hb : Whole w b t cs) (hn : t ≠ e) : v.ownBlock ≠ some b := by
  obtain ⟨-, ⟨hv, -⟩ | ⟨q, cap, cur, hv, hq, hh, r⟩⟩ := h
  · rw [hv]; simp [Value.ownBlock]
  · have hw : Whole w q e cur := hh
    have h1 := whole_ne hb hw hn
    rw [hv]
    simp only [Value.ownBlock, Option.map_some]
    exact fun e => h1 (Option.some.inj e).symm
theorem fresh_wide {w : World} {lo hi hi' : Nat} {ty : TypeId} {A : Option Addr} {xs : List Value} (h : Fresh w lo hi ty A xs) (hl : hi ≤ hi') : Fresh w lo hi' ty A xs := by
  rcases h with f1 | ⟨g, cs, e1, e2, e3, e4⟩
  · exact .inl f1
  · exact .inr ⟨g, cs, e1, e2, by omega, e4⟩
theorem same_last_all : ([1, 2, 3, 4].all fun k => (sts k).all fun x => (samePlace (pf k x 0) (pf k x 1) (pf k x 2) (pf k x 3) (pf k x 4) (pf k x 5) (pf k x 6) (pf k x 7) (pt x) (firstN (2 * k) 0) (firstN (2 * k) 1) (firstN (2 * k) 2) (firstN (2 * k) 3) (firstN (2 * k) 4) (firstN (2 * k) 5) (firstN (2 * k) 6) (firstN (2 * k) 7) true) == decide (x = lastN k)) = true := by decide +kernel
theorem same_last {k x : Nat} (h1 : 1 ≤ k) (hk : k ≤ 4) (hx : x ∈ sts k) : (samePlace (pf k x 0) (pf k x 1) (pf k x 2) (pf k x 3) (pf k x 4) (pf k x 5) (pf k x 6) (pf k x 7) (pt x) (firstN (2 * k) 0) (firstN (2 * k) 1) (firstN (2 * k) 2) (firstN (2 * k) 3) (firstN (2 * k) 4) (firstN (2 * k) 5) (firstN (2 * k) 6) (firstN (2 * k) 7) true) = decide (x = lastN k) := by
  have h := List.all_eq_true.1 same_last_all k (by have : k = 1 ∨ k = 2 ∨ k = 3 ∨ k = 4 := by omega
                                                   rcases this with rfl | rfl | rfl | rfl <;> simp)
  exact eq_of_beq (List.all_eq_true.1 h x hx)
/-- What the program's walk comes to. -/
noncomputable def firstL (k q : Nat) : List (List Int) := (goI k q (finP k q (lastN k)).1 12 0).getD []
noncomputable def firstLs (k q : Nat) : List (List Int) := if fewB k q then firstL k q else []
theorem goI_done {k q f : Nat} {m : List (Nat × Int)} {rest : List (List Int)} (h : goI k q m f (lastN k) = some rest) : rest = [] := by
  cases f <;> simp [goI] at h <;> exact h
theorem goI_next {k q f x : Nat} {m : List (Nat × Int)} {rest : List (List Int)} (h : goI k q m f x = some rest) (hx : x ≠ lastN k) :
    ∃ f' l rest', f = f' + 1 ∧ (onM k q m x).head? = some l ∧ goI k q m f' (stepC x l) = some rest' ∧ rest = l :: rest' := by
  cases f with
  | zero => simp [goI, hx] at h
  | succ f =>
    rw [goI, if_neg hx] at h
    cases h2 : (onM k q m x).head? with
    | none => rw [h2] at h; cases h
    | some l =>
      rw [h2] at h
      simp only [Option.map_eq_some_iff] at h
      obtain ⟨r, h3, h4⟩ := h
      exact ⟨f, l, r, rfl, rfl, h3, h4.symm⟩
theorem first_row {k q x : Nat} {m : List (Nat × Int)} {rs : List RowV} {l : List Int} (hrn : rowNums rs = onM k q m x) (hh : (onM k q m x).head? = some l) : ∃ h : 0 < rs.length, rs[0].xs = l ∧ l ∈ mvs k q x := by
  have hm : l ∈ onM k q m x := List.mem_of_head? hh
  rw [← hrn] at hh
  cases rs with
  | nil => simp [rowNums] at hh
  | cons r t =>
    simp [rowNums] at hh
    exact ⟨by simp, by simpa using hh, (List.mem_filter.1 hm).1⟩
theorem goI_some {k q : Nat} (h1 : 1 ≤ k) (h4 : k ≤ 4) (q1 : 1 ≤ q) (q4 : q ≤ 4) (hB : fewB k q = true) : goI k q (finP k q (lastN k)).1 12 0 = some (firstL k q) := by
  have h := firstSame_all h1 h4 q1 q4
  unfold firstSame at h
  rw [show (lk (finP k q (lastN k)).1 0).isSome = true from hB] at h
  simp only [Bool.and_eq_true, Bool.not_true, Bool.false_or] at h
  unfold firstL
  cases h2 : goI k q (finP k q (lastN k)).1 12 0
  · rw [h2] at h; simp at h
  · rfl

set_option maxHeartbeats 12800000 in
set_option maxRecDepth 100000 in
set_option linter.unusedSimpArgs false in
theorem firstMoves_any (k q gG gC g1 g3 g4 g : Nat) (A : Option Addr) (c : Nat) (w : World) (hk1 : 1 ≤ k) (hk : k ≤ 4) (hq1 : 1 ≤ q) (hq4 : q ≤ 4) (hF0 : RowsFn w k gG gC g1 g3 g4 g A c (groupsOf k q)) :
    Calls Try.prog 68 #[.agg (riverCells k gG gC)] w (BackPost (firstLs k q) (fewB k q) w) := by
  obtain ⟨i0, hi, hz0, hz1, hz2⟩ := info_parts info_row
  have HI := Lib.hid hi
  have HZ0 := Lib.hid hz0
  have HZ1 := Lib.hid hz1
  have HZ2 := Lib.hid hz2
  have hR := Whole.fresh w 74 (riverCells k gG gC)
  have hF := hF0.alloc (.cells (riverCells k gG gC) 74)
  have ht := below1 w (.cells (riverCells k gG gC) 74)
  clear hF0 hi hz0 hz1 hz2
  obtain ⟨l0, l1, l2, l3, l4, l5, l6, l7, l8⟩ := r9l_of hR
  have hrl := hR.lt
  go_enter Try.func68, Try.ntmps68
  go_wp2_with (refine wpList_load_row rfl 74 (.tmp 1) rfl w.heap.size rfl 74 (riverCells k gG gC) (0, 0) _ hR Try.underlying74 rfl size_river ?_)
  have hma := movesApart_any k q gG gC g1 g3 g4 g A c (2 * 2 ^ (2 * k) - 1) _ hk1 hk hq1 hq4 (.inr rfl) hF
  rw [plc_last hk1 hk] at hma
  unfold place9 at hma
  refine hma.mono ?_
  clear hma
  rintro e w1 ⟨b, rfl, hM, hb⟩
  replace hR := hR.below hb
  replace hF := hF.below hb
  have hsz1 := hb.size
  rw [World.size_alloc] at hsz1
  replace ht := below_then ht hb ht.size
  clear hb l0 l1 l2 l3 l4 l5 l6 l7 l8 hrl
  obtain ⟨f0, f1, f2, f3, f4, f5, f6, f7, f8⟩ := r9f_of hR
  have hrl := hR.lt
  have hlk : (Instr.lookup 98 (.map (some b)) (.agg #[.bool false, .bool false, .bool false, .bool false, .bool false, .bool false, .bool false, .bool false, .bool false]) true).run Try.prog w1 = .ok (.tuple #[.int .i64 (fewN k q), .bool (fewB k q)]) w1 := by have h := MapIs.look_ok hM (place_keys hk) Try.underlying98 Try.underlying3 (hzero _) 0 (first_mem k); rw [plc_first hk] at h; exact h
  have HM := Lib.hid (show SeaMap k w1 b (finP k q (lastN k)).1 from hM)
  have HF := Lib.hid hF
  have HR := Lib.hid hR
  have HT := Lib.hid ht
  clear hM hF ht
  cases hB : fewB k q
  · have HL : Hid (firstLs k q = [] ∧ fewB k q = false) := by show _ ∧ _; simp [firstLs, hB]
    rw [hB] at hlk
    clear hB
    go_wp2
    go_ret2
    rw [HL.out.1, HL.out.2]
    exact BackPost.no HT.out
  · have HL : Hid (firstLs k q = firstL k q ∧ fewB k q = true) := by show _ ∧ _; simp [firstLs, hB]
    have HG := Lib.hid (goI_some hk1 hk hq1 hq4 hB)
    rw [hB] at hlk
    clear hB
    have hp0 := Whole.fresh w1 68 #[.bool false, .bool false, .bool false, .bool false, .bool false, .bool false, .bool false, .bool false, .bool false]
    have HP0 : Hid (Whole (w1.alloc (.cells #[.bool false, .bool false, .bool false, .bool false, .bool false, .bool false, .bool false, .bool false, .bool false] 68)) w1.heap.size 68 (plcC k 0)) := by
      have e : plcC k 0 = #[.bool false, .bool false, .bool false, .bool false, .bool false, .bool false, .bool false, .bool false, .bool false] := by have h := plc_first hk; rw [plc] at h; exact Value.agg.inj h
      show Whole _ _ _ _
      rw [e]; exact hp0
    have hpl0 := hp0.lt
    clear hp0
    generalize (finP k q (lastN k)).1 = m at HM HG
    go_wp2
    go_loopg [7, 8] 12 (fun gh v p wr => ∃ (x gp : Nat) (rest : List (List Int)) (rs : List RowV) (D : Option Addr) (cD : Nat), goI k q m gh x = some rest ∧ x ∈ sts k ∧ rowNums rs ++ rest = firstL k q ∧ v = .slice D rs.length cD ∧ p = .pointer (some ⟨gp, 0, none⟩) ∧ rs.length + gh = 12 ∧ Heads wr w1.heap.size D cD rs ∧ Whole wr gp 68 (plcC k x) ∧ w1.heap.size ≤ gp ∧ Below w1.heap.size w1 wr)
    case atStart => exact ⟨0, w1.heap.size, firstL k q, [], none, 0, HG.out, first_mem k, rfl, rfl, rfl, rfl, Heads.nil _ _, HP0.out, Nat.le_refl _, below1 _ _⟩
    case round =>
      clear HP0 HG f0 f1 f2 f3 f4 f5 f6 f7 f8 hlk hrl hpl0
      obtain ⟨x, gp, rest, rs, D, cD, hg, hxd, hls, rfl, rfl, hlen, hH, hP, hgp, hb⟩ := hrel
      obtain ⟨wz, rfl⟩ : ∃ W : World, W = wr := ⟨_, rfl⟩
      have hR1 := HR.out.below hb
      have hrl := hR1.lt
      obtain ⟨l0, l1, l2, l3, l4, l5, l6, l7, l8⟩ := r9l_of hR1
      obtain ⟨p0, p1, p2, p3, p4, p5, p6, p7, p8⟩ := nine0_of hP
      have hpl := hP.lt
      have hsp := same_last hk1 hk hxd
      have HB := Lib.hid hb
      have HHD := Lib.hid hH
      have HPP := Lib.hid hP
      have HR1 := Lib.hid hR1
      have HLS := Lib.hid hls
      clear hb hH hP hR1 hls
      by_cases hx : x = lastN k
      · rw [decide_eq_true hx] at hsp
        subst hx
        have hr0 := goI_done hg
        subst hr0
        have HLL : Hid (rowNums rs = firstL k q) := by have h := HLS.out; rw [List.append_nil] at h; exact h
        clear hg
        go_wp2
        go_ret2
        rw [HL.out.1, HL.out.2]
        exact ⟨D, rs.length, cD, rs, rfl, HLL.out, rfl, (HHD.out.raise (show w.heap.size ≤ w1.heap.size by omega)).free, below_then HT.out HB.out HT.out.size⟩
      · rw [decide_eq_false hx] at hsp
        obtain ⟨f', l, rest', rfl, hhd, hg', rfl⟩ := goI_next hg hx
        have HG := Lib.hid hg'
        have HHL := Lib.hid hhd
        clear hg hg' hhd hx
        go_wp2_with (refine wpList_load_row rfl 74 (.tmp 1) rfl w.heap.size rfl 74 (riverCells k gG gC) (0, 0) _ HR1.out Try.underlying74 rfl size_river ?_)
        have HON := onward_any k q gG gC g1 g3 g4 g A c b x m wz hk hxd (HM.out.below HB.out) (HF.out.below HB.out)
        unfold plcC place9 at HON
        refine HON.mono ?_
        clear HON l0 l1 l2 l3 l4 l5 l6 l7 l8 p0 p1 p2 p3 p4 p5 p6 p7 p8 hrl hpl hsp
        rintro e w2 ⟨A1, c1, rs1, rfl, hrn, hown, hfr, hb⟩
        obtain ⟨h0, hl0, hlm⟩ := first_row hrn HHL.out
        obtain ⟨hpc, hyd⟩ := plc_step hxd hlm
        obtain ⟨gr, hA1, hgrl, a0, a1, a2, a3, a4, a5, a6, a7, a8, a9⟩ := own_moves_row hown h0 (by rw [hl0]; exact hpc)
        subst hA1
        simp only [Nat.zero_mul, Nat.zero_add] at a0 a1 a2 a3 a4 a5 a6 a7 a8 a9
        obtain ⟨hf1, hf2, hf3⟩ := hfr rs1[0] (List.getElem_mem h0)
        obtain ⟨r, hr⟩ : ∃ r, rs1[0] = r := ⟨_, rfl⟩
        rw [hr] at a0 hf1 hf2 hf3 hl0
        obtain ⟨rA, rn, rc, rx⟩ := r
        simp only [RowV.val] at a0
        simp only at hl0 hf1 hf2 hf3
        subst hl0
        obtain ⟨y, hy⟩ : ∃ y, stepC x rx = y := ⟨_, rfl⟩
        have HG' : Hid (goI k q m f' y = some rest') := by rw [← hy]; exact HG
        rw [hy] at hyd a1 a2 a3 a4 a5 a6 a7 a8 a9
        clear hr hpc hown hfr hrn HG hy hlm HHL
        generalize rs1.length = n1 at h0
        have hsz2 := hb.size
        have hlo := HB.out.size
        have HBY := Lib.hid (hb.alloc hsz2 (.cells #[.slice rA rn rc, .bool (pf k y 0), .bool (pf k y 1), .bool (pf k y 2), .bool (pf k y 3), .bool (pf k y 4), .bool (pf k y 5), .bool (pf k y 6), .bool (pf k y 7), .bool (pt y)] 77))
        have HBZ := Lib.hid ((hb.alloc hsz2 (.cells #[.slice rA rn rc, .bool (pf k y 0), .bool (pf k y 1), .bool (pf k y 2), .bool (pf k y 3), .bool (pf k y 4), .bool (pf k y 5), .bool (pf k y 6), .bool (pf k y 7), .bool (pt y)] 77)).alloc (by simp; omega) (.cells #[.slice rA rn rc] 40))
        have HX := Lib.hid (Whole.fresh w2 77 #[.slice rA rn rc, .bool (pf k y 0), .bool (pf k y 1), .bool (pf k y 2), .bool (pf k y 3), .bool (pf k y 4), .bool (pf k y 5), .bool (pf k y 6), .bool (pf k y 7), .bool (pt y)])
        have hx0 := HX.out.cell 0
        have hxl := HX.out.lt
        have HFR := Lib.hid (fresh_wide (hf1.alloc (.cells #[.slice rA rn rc, .bool (pf k y 0), .bool (pf k y 1), .bool (pf k y 2), .bool (pf k y 3), .bool (pf k y 4), .bool (pf k y 5), .bool (pf k y 6), .bool (pf k y 7), .bool (pt y)] 77)) (show w2.heap.size ≤ (w2.alloc (.cells #[.slice rA rn rc, .bool (pf k y 0), .bool (pf k y 1), .bool (pf k y 2), .bool (pf k y 3), .bool (pf k y 4), .bool (pf k y 5), .bool (pf k y 6), .bool (pf k y 7), .bool (pt y)] 77)).heap.size by simp))
        have HOWN := Lib.hid (ownsRow_below HHD.out.1 HBZ.out)
        have hcn := cell_one_new (w2.alloc (.cells #[.slice rA rn rc, .bool (pf k y 0), .bool (pf k y 1), .bool (pf k y 2), .bool (pf k y 3), .bool (pf k y 4), .bool (pf k y 5), .bool (pf k y 6), .bool (pf k y 7), .bool (pt y)] 77)) (.slice rA rn rc) 40
        rw [World.size_alloc] at hcn
        have HCN := Lib.hid hcn
        have HMAX := Lib.hid (show rs.length + 1 ≤ maxLen by unfold maxLen; omega)
        have HBYT := Lib.hid (show (rs.length + 1) * 24 ≤ 140737488355328 by omega)
        have HBASE := Lib.hid (show w1.heap.size ≤ ((w2.alloc (.cells #[.slice rA rn rc, .bool (pf k y 0), .bool (pf k y 1), .bool (pf k y 2), .bool (pf k y 3), .bool (pf k y 4), .bool (pf k y 5), .bool (pf k y 6), .bool (pf k y 7), .bool (pt y)] 77)).alloc (.cells #[.slice rA rn rc] 40)).heap.size by simp; omega)
        have HF2 := Lib.hid hf2
        have HF3 := Lib.hid hf3
        have HLEN := Lib.hid hlen
        clear hcn hf1 hf2 hf3 hb hlen
        go_upto_region 10 with (at_builtin; refine wpList_append_lies _ rfl (.tmp 35) (.tmp 38) 28 rfl w1.heap.size 40 i0 (.slice none 0 0) 1 24 Try.underlying28 HI.out HZ0.out HZ1.out HZ2.out rfl (by decide) (.slice D rs.length cD) rs.length (rowVals rs) rfl HOWN.out ⟨w2.heap.size + 1, 0, none⟩ 1 1 [.slice rA rn rc] rfl rfl HCN.out (by simp [Value.oneCell']) (by decide) HMAX.out HBYT.out HBASE.out (w2.heap.size + 1 + 1) (by simp) ?_; intro g5 cap w5 hown4 hg4 hat4 hlt4)
        have hwp2 := HPP.out.below HBZ.out
        have HP5 := Lib.hid (whole_apart hwp2 hg4 (fun e => own_apart HOWN.out hwp2 (by decide) e.symm))
        have hwx2 := HX.out.alloc (.cells #[.slice rA rn rc] 40)
        have hx5 := whole_apart hwx2 hg4 (fun e => own_apart HOWN.out hwx2 (by decide) e.symm)
        have hat5 : (Value.slice D rs.length cD).ownBlock = some g5 ∨ g5 = (w2.alloc (.cells #[.slice rA rn rc, .bool (pf k y 0), .bool (pf k y 1), .bool (pf k y 2), .bool (pf k y 3), .bool (pf k y 4), .bool (pf k y 5), .bool (pf k y 6), .bool (pf k y 7), .bool (pt y)] 77)).heap.size + 1 := by
          rcases hat4 with h | h
          · exact .inl h
          · exact .inr (by rw [h]; simp)
        have HH5 := Lib.hid (Heads.push (r := ⟨rA, rn, rc, rx⟩) HHD.out hlo HBY.out HFR.out HF2.out HF3.out hown4 hg4 hat5)
        have HB5 := Lib.hid ((below_then HB.out HBZ.out HB.out.size).grown hg4 HBASE.out (fun kk hkk => (HOWN.out.lt kk hkk).1))
        obtain ⟨t0, t1, t2, t3, t4, t5, t6, t7, t8⟩ := nine1_of hx5
        have hxl5 := hx5.lt
        clear hown4 hg4 hat4 hlt4 hwp2 hwx2 hx5 hx0 hxl a0 a1 a2 a3 a4 a5 a6 a7 a8 a9
        go_upto_region 11 with (refine wpList_store_whole rfl 68 (.tmp 8) (.tmp 41) rfl gp #[.bool (pf k y 0), .bool (pf k y 1), .bool (pf k y 2), .bool (pf k y 3), .bool (pf k y 4), .bool (pf k y 5), .bool (pf k y 6), .bool (pf k y 7), .bool (pt y)] rfl rfl 68 _ HP5.out size_place rfl (by simp [Value.oneCell']) ?_; intro W5 hw5 ho5)
        have HH6 := Lib.hid (heads_only HH5.out ho5 HP5.out (by decide) (by decide))
        have HB6 := Lib.hid (ho5.below HB5.out hgp)
        obtain ⟨s0, s1, s2, s3, s4, s5, s6, s7, s8⟩ := nine0_of (show Whole W5 gp 68 (plcC k y) from hw5)
        have hl6 := hw5.lt
        clear ho5 hw5 t0 t1 t2 t3 t4 t5 t6 t7 t8 hxl5
        go_wp2
        go_roundg f'
        case measure => omega
        case rel => exact ⟨y, W5.heap.size, rest', rs ++ [⟨rA, rn, rc, rx⟩], some ⟨g5, 0, none⟩, cap, HG'.out, hyd, by have h := HLS.out; rw [rowNums, List.map_append]; simpa [rowNums] using h, by rw [List.length_append]; rfl, rfl, by have h := HLEN.out; rw [List.length_append, List.length_singleton]; omega, HH6.out.alloc _, Whole.fresh _ _ _, HB6.out.size, HB6.out.alloc HB6.out.size _⟩
end Go.Proofs.Ytjadoehdhbilcaa

namespace Go.Proofs.Ytjadoehdhbilcaa
open Go.RowKit

theorem fin_lens {k q src : Nat} (hk : k ≤ 4) (hs : src ∈ sts k) : (finF k q src).F.length = 2 * 2 ^ (2 * k) := (MildF.run (q := q) hk hs (turns k)).lf
theorem last_mem (k : Nat) : lastN k ∈ sts k := sts_mem.2 (by unfold lastN; have := Nat.two_pow_pos (2 * k); omega)
theorem cuFarL_any (k q : Nat) (w : World) (hk1 : 1 ≤ k) (hk : k ≤ 4) (hq1 : 1 ≤ q) (hq4 : q ≤ 4) :
    Calls Try.prog 66 #[.agg #[.int .i64 k, .int .i64 q], .int .i64 (2 * ((2 ^ (2 * k) : Nat) : Int) - 1)] w (FarPost k q (lastN k) w) := by
  have h := cuFar_any k q (lastN k) w hk1 hk hq1 hq4 (.inr rfl)
  rw [show ((lastN k : Nat) : Int) = 2 * ((2 ^ (2 * k) : Nat) : Int) - 1 by unfold lastN; have := Nat.two_pow_pos (2 * k); omega] at h
  exact h
noncomputable def phi (k q : Nat) : Nat → Int := fA (finA k q (lastN k)).m
theorem phi_at {k q y : Nat} (h4 : k ≤ 4) (hy : y ∈ sts k) : (finF k q (lastN k)).F.getD y 0 = phi k q y :=
  (Rep.run (q := q) h4 (last_mem k) (turns k)).f y (sts_mem.1 hy)
theorem phi_bd {k q y : Nat} (h4 : k ≤ 4) (hy : y ∈ sts k) : -1 ≤ phi k q y ∧ phi k q y ≤ 1000000 := by
  have h := (MildF.run (q := q) h4 (last_mem k) (turns k)).at_ y
  rw [← phi_at h4 hy]
  have h2 := pow_c h4
  have h3 : turns k ≤ 512 := by unfold turns; omega
  refine ⟨h.1, Int.le_trans h.2 (by omega)⟩
theorem phi_first {k q : Nat} (h1 : 1 ≤ k) (h4 : k ≤ 4) (q1 : 1 ≤ q) (q4 : q ≤ 4) : (fewB k q = true → 0 ≤ phi k q 0) ∧ (fewB k q = false → phi k q 0 = -1) := by
  have h := firstSame_all h1 h4 q1 q4
  unfold firstSame at h
  simp only [Bool.and_eq_true] at h
  have h0 := eq_of_beq h.1
  rw [show (lk (finP k q (lastN k)).1 0).isSome = fewB k q from rfl] at h0
  have hr := Rep.run (q := q) h4 (last_mem k) (turns k)
  refine ⟨fun hb => ?_, fun hb => ?_⟩
  · rw [hb] at h0
    unfold phi fA
    cases h2 : lk (finA k q (lastN k)).m 0
    · rw [h2] at h0; cases h0
    · exact hr.pos _ (lk_mem h2)
  · rw [hb] at h0
    unfold phi fA
    cases h2 : lk (finA k q (lastN k)).m 0
    · rfl
    · rw [h2] at h0; cases h0
theorem goS_some {k q : Nat} (h1 : 1 ≤ k) (h4 : k ≤ 4) (q1 : 1 ≤ q) (q4 : q ≤ 4) (hB : fewB k q = true) : goS k q (phi k q) 12 0 = some (firstL k q) := by
  have h := firstSame_all h1 h4 q1 q4
  unfold firstSame at h
  rw [show (lk (finP k q (lastN k)).1 0).isSome = true from hB] at h
  simp only [Bool.and_eq_true, Bool.not_true, Bool.false_or] at h
  rw [phi, ← eq_of_beq h.2.1]
  exact goI_some h1 h4 q1 q4 hB
theorem goS_le {k q : Nat} {F : Nat → Int} : ∀ (f x : Nat) (r : List (List Int)), goS k q F f x = some r → r.length ≤ f ∧ (r.map List.length).sum ≤ 8 * f
  | 0, x, r, h => by
    unfold goS at h
    split at h
    · cases h
    · cases h; simp
  | f + 1, x, r, h => by
    unfold goS at h
    split at h
    · split at h
      · cases h
      · rename_i g _
        simp only [Option.map_eq_some_iff] at h
        obtain ⟨r', h3, rfl⟩ := h
        have ih := goS_le f _ r' h3
        have h8 := listTo_len g 8
        simp only [List.length_cons, List.map_cons, List.sum_cons]
        omega
    · cases h; simp
theorem goS_done {k q f x : Nat} {F : Nat → Int} {rest : List (List Int)} (h : goS k q F f x = some rest) (hx : ¬ 0 < F x) : rest = [] := by
  cases f <;> simp [goS, hx] at h <;> exact h
theorem goS_next {k q f x : Nat} {F : Nat → Int} {rest : List (List Int)} (h : goS k q F f x = some rest) (hx : 0 < F x) :
    ∃ f' g rest', f = f' + 1 ∧ pickS k q F x = some g ∧ goS k q F f' (ny x g) = some rest' ∧ rest = listOf g :: rest' := by
  cases f with
  | zero => simp [goS, hx] at h
  | succ f =>
    rw [goS, if_pos hx] at h
    cases h2 : pickS k q F x with
    | none => rw [h2] at h; cases h
    | some g =>
      rw [h2] at h
      simp only [Option.map_eq_some_iff] at h
      obtain ⟨r, h3, h4⟩ := h
      exact ⟨f, g, r, rfl, rfl, h3, h4.symm⟩
theorem pick_at {k q x g : Nat} {F : Nat → Int} (h : pickS k q F x = some g) : ∃ (j0 : Nat) (hj : j0 < (rwsM k q x).length), (rwsM k q x)[j0] = g ∧ (F (ny x g) == F x - 1) = true ∧ ∀ (i : Nat) (hi : i < (rwsM k q x).length), i < j0 → (F (ny x (rwsM k q x)[i]) == F x - 1) = false := by
  unfold pickS at h
  obtain ⟨h1, i, hi, h2, h3⟩ := List.find?_eq_some_iff_getElem.1 h
  exact ⟨i, hi, h2, h1, fun j hj hlt => by have h4 := h3 j hlt; revert h4; cases (F (ny x (rwsM k q x)[j]) == F x - 1) <;> simp⟩
noncomputable def firstO (a b : Int) : List (List Int) := if isCo a b then firstLs a.toNat b.toNat else []
theorem firstO_le (a b : Int) : (firstO a b).length ≤ 1048576 ∧ ((firstO a b).map List.length).sum ≤ 1048576 := by
  unfold firstO
  split
  · rename_i h1
    obtain ⟨⟨ha1, ha4⟩, hb1, hb4⟩ := isCo_iff.1 h1
    unfold firstLs
    split
    · rename_i hB
      have h := goS_le 12 0 _ (goS_some (show 1 ≤ a.toNat by omega) (by omega) (show 1 ≤ b.toNat by omega) (by omega) hB)
      omega
    · simp
  · simp

theorem back_lower {ls : List (List Int)} {ok : Bool} {w w2 wf : World} {e : Ending} (h : BackPost ls ok w2 e wf) (hb : Below w.heap.size w w2) : BackPost ls ok w e wf := by
  obtain ⟨A, n, c, rs, rfl, h1, h2, h3, h4⟩ := h
  refine ⟨A, n, c, rs, rfl, h1, h2, ?_, below_then hb h4 hb.size⟩
  obtain ⟨ps, k1, k2, k3⟩ := h3
  have hsz := hb.size
  refine ⟨ps, k1, fun p hp => ⟨Nat.le_trans hsz (k2 p hp).1, (k2 p hp).2⟩, ?_⟩
  rcases k3 with k3 | ⟨b, o, j1, j2, j3, j4⟩
  · exact .inl k3
  · exact .inr ⟨b, o, j1, j2, Nat.le_trans hsz j3, j4⟩

set_option maxHeartbeats 1600000 in
set_option maxRecDepth 100000 in
theorem implFirstRows_any (a b : Int) (w : World) :
    Calls Try.prog 34 #[.agg #[.int .i64 a, .int .i64 b]] w (BackPost (firstO a b) (fewO a b) w) := by
  have hc := Whole.fresh w 31 #[.int .i64 a, .int .i64 b]
  cases h1 : isCo a b
  · have HV : Hid (firstO a b = [] ∧ fewO a b = false) := by show _ ∧ _; simp [firstO, fewO, h1]
    have H1 := Lib.hid h1
    clear h1
    go_enter Try.func34, Try.ntmps34
    go_wp2_with fail
    refine (isCompany_any a b _).mono ?_
    rintro e w1 ⟨rfl, hb⟩
    rw [H1.out]
    have ht := below_then (below1 w _) hb (by simp)
    clear hb hc
    go_wp2
    go_ret2
    rw [HV.out.1, HV.out.2]
    exact BackPost.no ht
  · obtain ⟨⟨ha1, ha4⟩, hb1, hb4⟩ := isCo_iff.1 h1
    obtain ⟨k, rfl⟩ := Int.eq_ofNat_of_zero_le (show 0 ≤ a by omega)
    obtain ⟨q, rfl⟩ := Int.eq_ofNat_of_zero_le (show 0 ≤ b by omega)
    have HV : Hid (firstO k q = firstLs k q ∧ fewO k q = fewB k q) := by show _ ∧ _; simp [firstO, fewO, h1]
    have H1 := Lib.hid h1
    clear h1
    go_enter Try.func34, Try.ntmps34
    go_wp2_with fail
    refine (isCompany_any k q _).mono ?_
    rintro e w1 ⟨rfl, hb⟩
    rw [H1.out]
    have ht := below_then (below1 w _) hb (by simp)
    replace hc := hc.below hb
    clear hb
    obtain ⟨c0, c1, -, -⟩ := hc.two
    go_wp2_with fail
    refine (companyRiver_any k q _ (by omega) (by omega)).mono ?_
    rintro e w2 ⟨gG, gC, g1, g3, g4, g, A, c, rfl, hF, hb⟩
    replace ht := below_then ht hb ht.size
    clear hb c0 c1 hc
    have hfm := firstMoves_any k q gG gC g1 g3 g4 g A c w2 (by omega) (by omega) (by omega) (by omega) hF
    go_wp2_with fail
    refine hfm.mono ?_
    clear hfm
    rintro e w3 hP
    have HP := Lib.hid (back_lower hP ht)
    obtain ⟨A', n', c', rs, rfl, -, -, -, -⟩ := hP
    clear hF
    go_wp2
    go_ret2
    rw [HV.out.1, HV.out.2]
    exact HP.out

set_option maxHeartbeats 800000 in
set_option maxRecDepth 100000 in
set_option linter.unusedSimpArgs false in
theorem specFirstRows_any (a b : Int) (w : World) :
    Calls Try.prog 33 #[.agg #[.int .i64 a, .int .i64 b]] w (BackPost (firstO a b) (fewO a b) w) := by
  have hc := Whole.fresh w 31 #[.int .i64 a, .int .i64 b]
  cases h1 : isCo a b
  · have HV : Hid (firstO a b = [] ∧ fewO a b = false) := by show _ ∧ _; simp [firstO, fewO, h1]
    have H1 := Lib.hid h1
    clear h1
    go_enter Try.func33, Try.ntmps33
    obtain ⟨c0, c1, -, -⟩ := hc.two
    go_wp2_with fail
    refine (cuGood_any a b _).mono ?_
    rintro e w1 ⟨rfl, hb⟩
    rw [H1.out]
    have ht := below_then (below1 w _) hb (by simp)
    clear hb hc c0 c1
    go_wp2
    go_ret2
    rw [HV.out.1, HV.out.2]
    exact BackPost.no ht
  · obtain ⟨⟨ha1, ha4⟩, hb1, hb4⟩ := isCo_iff.1 h1
    obtain ⟨k, rfl⟩ := Int.eq_ofNat_of_zero_le (show 0 ≤ a by omega)
    obtain ⟨q, rfl⟩ := Int.eq_ofNat_of_zero_le (show 0 ≤ b by omega)
    have hk1 : 1 ≤ k := by omega
    have hk : k ≤ 4 := by omega
    have hq1 : 1 ≤ q := by omega
    have hq4 : q ≤ 4 := by omega
    have HV : Hid (firstO k q = firstLs k q ∧ fewO k q = fewB k q) := by show _ ∧ _; simp [firstO, fewO, h1]
    have H1 := Lib.hid h1
    clear h1
    go_enter Try.func33, Try.ntmps33
    obtain ⟨c0, c1, -, -⟩ := hc.two
    go_wp2_with fail
    refine (cuGood_any k q _).mono ?_
    rintro e w1 ⟨rfl, hb⟩
    rw [H1.out]
    have ht := below_then (below1 w _) hb (by simp)
    replace hc := hc.below hb
    clear hb c0 c1
    obtain ⟨i0, hi, hzz0, hzz1, hzz2⟩ := info_parts info_row
    have HI := Lib.hid hi
    have HZ0 := Lib.hid hzz0
    have HZ1 := Lib.hid hzz1
    have HZ2' := Lib.hid hzz2
    clear hi hzz0 hzz1 hzz2
    have HVL := Lib.hid (show firstLs k q = if fewB k q then firstL k q else [] from rfl)
    obtain ⟨z, hz⟩ : ∃ z, 2 ^ (2 * k) = z := ⟨_, rfl⟩
    have hz256 : z ≤ 256 := by rw [← hz]; exact pow_c hk
    have hz0 : 0 < z := by rw [← hz]; exact Nat.two_pow_pos _
    have HST : Hid (∀ x, x ∈ sts k ↔ x < 2 * z) := fun x => by rw [sts_mem, hz]
    have HCS : Hid (∀ W, Calls Try.prog 67 #[.agg #[.int .i64 k, .int .i64 q]] W fun e w' => e = .returned (.int .i64 z) ∧ Below W.heap.size W w') := fun W => by have h := cuSize_any k q W hk; rw [hz] at h; exact h
    have HCF : Hid (∀ W, Calls Try.prog 66 #[.agg #[.int .i64 k, .int .i64 q], .int .i64 (2 * (z : Int) - 1)] W fun e w' => ∃ gF gW : Nat, e = .returned (.tuple #[.slice (some ⟨gF, 0, none⟩) (2 * z) (2 * z), .slice (some ⟨gW, 0, none⟩) (2 * z) (2 * z)]) ∧ Whole w' gF 3 (nums (finF k q (lastN k)).F).toArray ∧ Below W.heap.size W w') := fun W => by
      have h := cuFarL_any k q W hk1 hk hq1 hq4
      rw [hz] at h
      refine h.mono ?_
      rintro e w' ⟨gF, gW, rfl, h1, -, h2⟩
      exact ⟨gF, gW, by rw [hz], h1, h2⟩
    have HFL : Hid ((finF k q (lastN k)).F.length = 2 * z) := by show _ = _; rw [fin_lens (q := q) hk (last_mem k), hz]
    have HPH : Hid (∀ y, y < 2 * z → (finF k q (lastN k)).F.getD y 0 = phi k q y) := fun y hy => phi_at hk ((HST.out y).2 hy)
    generalize (finF k q (lastN k)).F = F at HCF HFL HPH
    have hwr : IntKind.i64.wrap (2 * (z : Int)) = 2 * (z : Int) := IntWalk.i64_in _ (by omega)
    have hwr2 : IntKind.i64.wrap (2 * (z : Int) - 1) = 2 * (z : Int) - 1 := IntWalk.i64_in _ (by omega)
    have HZ2 := Lib.hid hz
    clear hz
    go_wp2_with fail
    refine wp_region_held_drew (S := (Box1 w.heap.size (.int .i64 k) (.int .i64 q))) (by kernel_rfl) (box1_of hc.drew) (fun hHeld => ?_)
    replace hc := hc.drew
    replace ht := ht.drew
    refine wpAnyH_take (i := 0) (v := ?_) rfl (by kernel_rfl) (by kernel_rfl) (by kernel_rfl) (fun _ _ _ h => h) (Or.inl ⟨rfl, ?_⟩) hHeld ?_
    rotate_left
    · intro w' hS; obtain ⟨s0, s1⟩ := hS; go_simp <;> with_reducible rfl
    simp only [Act.put, List.getElem_toArray, List.getElem_cons_succ, List.getElem_cons_zero, List.setIfInBounds_toArray, List.set_cons_succ, List.set_cons_zero]
    refine wpAnyH_take (i := 1) (v := ?_) rfl (by kernel_rfl) (by kernel_rfl) (by kernel_rfl) (fun _ _ _ h => h) (Or.inl ⟨rfl, ?_⟩) hHeld ?_
    rotate_left
    · intro w' hS; obtain ⟨s0, s1⟩ := hS; go_simp <;> with_reducible rfl
    simp only [Act.put, List.getElem_toArray, List.getElem_cons_succ, List.getElem_cons_zero, List.setIfInBounds_toArray, List.set_cons_succ, List.set_cons_zero]
    refine wpAnyH_ready (rs := [2]) (by kernel_rfl) (by simp) (AllReadyH.cons rfl (fun K hK => ?_) AllReadyH.nil)
    go_simp
    refine (HCS.out _).mono ?_
    rintro e w2 ⟨rfl, hb⟩
    replace hc := hc.below hb
    replace ht := below_then ht hb ht.size
    clear hb
    refine hK.out _ _ (box1_of hc) (fun hHeld => ?_)
    clear hK K
    try simp only [Act.put, List.getElem_toArray, List.getElem_cons_succ, List.getElem_cons_zero, List.setIfInBounds_toArray, List.set_cons_succ, List.set_cons_zero]
    refine wpAnyH_take (i := 3) (v := ?_) rfl (by kernel_rfl) (by kernel_rfl) (by kernel_rfl) (fun _ _ _ h => h) (Or.inl ⟨rfl, ?_⟩) hHeld ?_
    rotate_left
    · intro w' hS; obtain ⟨s0, s1⟩ := hS; go_simp <;> with_reducible rfl
    simp only [Act.put, List.getElem_toArray, List.getElem_cons_succ, List.getElem_cons_zero, List.setIfInBounds_toArray, List.set_cons_succ, List.set_cons_zero]
    refine wpAnyH_take (i := 4) (v := ?_) rfl (by kernel_rfl) (by kernel_rfl) (by kernel_rfl) (fun _ _ _ h => h) (Or.inl ⟨rfl, ?_⟩) hHeld ?_
    rotate_left
    · intro w' hS; obtain ⟨s0, s1⟩ := hS; go_simp <;> with_reducible rfl
    simp only [Act.put, List.getElem_toArray, List.getElem_cons_succ, List.getElem_cons_zero, List.setIfInBounds_toArray, List.set_cons_succ, List.set_cons_zero]
    refine wpAnyH_ready (rs := [5]) (by kernel_rfl) (by simp) (AllReadyH.cons rfl (fun K hK => ?_) AllReadyH.nil)
    go_simp
    refine (HCF.out _).mono ?_
    rintro e w3 ⟨gF, gW, rfl, hf, hb⟩
    replace hc := hc.below hb
    replace ht := below_then ht hb ht.size
    clear hb
    refine hK.out _ _ (box1_of hc) (fun hHeld => ?_)
    clear hK K
    try simp only [Act.put, List.getElem_toArray, List.getElem_cons_succ, List.getElem_cons_zero, List.setIfInBounds_toArray, List.set_cons_succ, List.set_cons_zero]
    refine wpAnyH_take (i := 6) (v := ?_) rfl (by kernel_rfl) (by kernel_rfl) (by kernel_rfl) (fun _ _ _ h => h) (Or.inl ⟨rfl, ?_⟩) hHeld ?_
    rotate_left
    · intro w' hS; obtain ⟨s0, s1⟩ := hS; go_simp <;> with_reducible rfl
    simp only [Act.put, List.getElem_toArray, List.getElem_cons_succ, List.getElem_cons_zero, List.setIfInBounds_toArray, List.set_cons_succ, List.set_cons_zero]
    refine wpAnyH_take (i := 7) (v := ?_) rfl (by kernel_rfl) (by kernel_rfl) (by kernel_rfl) (fun _ _ _ h => h) (Or.inl ⟨rfl, ?_⟩) hHeld ?_
    rotate_left
    · intro w' hS; obtain ⟨s0, s1⟩ := hS; go_simp <;> with_reducible rfl
    simp only [Act.put, List.getElem_toArray, List.getElem_cons_succ, List.getElem_cons_zero, List.setIfInBounds_toArray, List.set_cons_succ, List.set_cons_zero]
    refine wpAnyH_take (i := 8) (v := ?_) rfl (by kernel_rfl) (by kernel_rfl) (by kernel_rfl) (fun _ _ _ h => h) (Or.inl ⟨rfl, ?_⟩) hHeld ?_
    rotate_left
    · intro w' hS; obtain ⟨s0, s1⟩ := hS; go_simp <;> with_reducible rfl
    simp only [Act.put, List.getElem_toArray, List.getElem_cons_succ, List.getElem_cons_zero, List.setIfInBounds_toArray, List.set_cons_succ, List.set_cons_zero]
    refine wpAnyH_take (i := 9) (v := ?_) rfl (by kernel_rfl) (by kernel_rfl) (by kernel_rfl) (fun _ _ _ h => h) (Or.inl ⟨rfl, ?_⟩) hHeld ?_
    rotate_left
    · intro w' hS; obtain ⟨s0, s1⟩ := hS; go_simp <;> with_reducible rfl
    simp only [Act.put, List.getElem_toArray, List.getElem_cons_succ, List.getElem_cons_zero, List.setIfInBounds_toArray, List.set_cons_succ, List.set_cons_zero]
    refine wpAnyH_take (i := 10) (v := ?_) rfl (by kernel_rfl) (by kernel_rfl) (by kernel_rfl) (fun _ _ _ h => h) (Or.inl ⟨rfl, ?_⟩) hHeld ?_
    rotate_left
    · intro w' hS; obtain ⟨s0, s1⟩ := hS; go_simp <;> with_reducible rfl
    simp only [Act.put, List.getElem_toArray, List.getElem_cons_succ, List.getElem_cons_zero, List.setIfInBounds_toArray, List.set_cons_succ, List.set_cons_zero]
    refine wpAnyH_done (by kernel_rfl) ?_ _
    clear hHeld
    have hfz3 := hf
    have a0 := num_cell hf (i := 0) (v := phi k q 0) (by rw [HFL.out]; omega) (HPH.out 0 (by omega))
    have hps := phi_first hk1 hk hq1 hq4
    have HBD : Hid (∀ y, y ∈ sts k → -1 ≤ phi k q y ∧ phi k q y ≤ 1000000) := fun y hy => phi_bd hk hy
    have HFW := Lib.hid hf
    have HCW := Lib.hid hc
    have HT := Lib.hid ht
    have hfl := hf.lt
    clear hf hc ht hfz3
    cases hB : fewB k q
    · have HVB : Hid (firstLs k q = [] ∧ fewB k q = false) := by show _ ∧ _; exact ⟨by simp [firstLs, hB], hB⟩
      have h0 := hps.2 hB
      rw [h0] at a0
      have hd0 : decide ((-1 : Int) < 0) = true := by decide
      clear hps hB h0 HBD HPH
      go_wp2
      go_ret2
      rw [HV.out.1, HV.out.2, HVB.out.1, HVB.out.2]
      exact BackPost.no HT.out
    · have HVB : Hid (firstLs k q = firstL k q ∧ fewB k q = true) := by show _ ∧ _; exact ⟨by simp [firstLs, hB], hB⟩
      have h0 := hps.1 hB
      have HG := Lib.hid (goS_some hk1 hk hq1 hq4 hB)
      clear hps hB
      generalize phi k q = Φ at HG h0 a0 HPH HBD
      obtain ⟨v0, hv0⟩ : ∃ v, Φ 0 = v := ⟨_, rfl⟩
      rw [hv0] at a0 h0
      have hd0 : decide (v0 < 0) = false := by simp; omega
      clear hv0
      go_wp2
      go_loopg [6, 7] 12 (fun gh v i wr => ∃ (x : Nat) (rest : List (List Int)) (rs : List RowV) (D : Option Addr) (cD : Nat), goS k q Φ gh x = some rest ∧ x ∈ sts k ∧ rowNums rs ++ rest = firstL k q ∧ v = .slice D rs.length cD ∧ i = .int .i64 x ∧ rs.length + gh = 12 ∧ Heads wr w3.heap.size D cD rs ∧ Below w3.heap.size w3 wr)
      case atStart => exact ⟨0, firstL k q, [], none, 0, HG.out, first_mem k, rfl, rfl, rfl, rfl, Heads.nil _ _, Below.refl _ _⟩
      case round =>
        clear HG a0 h0 hd0
        obtain ⟨x, rest, rs, D, cD, hg, hxd, hls, rfl, rfl, hlen, hH, hb⟩ := hrel
        obtain ⟨wz, rfl⟩ : ∃ W : World, W = wr := ⟨_, rfl⟩
        have hx2 := (HST.out x).1 hxd
        have hf1 := HFW.out.below hb
        have hfl1 := hf1.lt
        have ax := num_cell hf1 (i := x) (v := Φ x) (by rw [HFL.out]; exact hx2) (HPH.out x hx2)
        have hbx := HBD.out x hxd
        obtain ⟨fx, hfx⟩ : ∃ v, Φ x = v := ⟨_, rfl⟩
        rw [hfx] at ax hbx
        have hx3 : (x : Int) < 2 * (z : Int) := by omega
        have HB := Lib.hid hb
        have HHD := Lib.hid hH
        have HLS := Lib.hid hls
        have HLEN := Lib.hid hlen
        have HFX := Lib.hid hfx
        by_cases hp : 0 < fx
        · have hd : decide (0 < fx) = true := by simpa using hp
          obtain ⟨f', g, rest', rfl, hpk, hg', rfl⟩ := goS_next hg (by rw [hfx]; exact hp)
          have HPK := Lib.hid (pick_at hpk)
          have HG := Lib.hid hg'
          obtain ⟨c0, c1, -, -⟩ := (HCW.out.below hb).two
          have hcr := fun W : World => cuRows_any k q x W hk (by have := pow_c hk; rw [HZ2.out]; omega)
          clear hg hpk hg' hls hlen hH hb hfx hf1
          go_wp2_with fail
          refine (hcr _).mono ?_
          clear hcr
          rintro e w4 ⟨A1, c1', rfl, hrow, hb4⟩
          rw [ofN_len] at hrow ⊢
          rw [show rowsM k q x (2 ^ (2 * k) - 1) 1 [] = rwsM k q x from rfl] at hrow ⊢
          have HMEM : Hid (∀ g ∈ rwsM k q x, g < 256 ∧ ny x g ∈ sts k) := fun g hg => ⟨by have := rwsM_lt hg; have := pow_c hk; omega, ny_in hxd hg⟩
          have hgl2 := rwsM_len (k := k) (q := q) (x := x) hk
          generalize rwsM k q x = gs at hrow HPK HMEM hgl2 ⊢
          obtain ⟨j0, hj0, hgj, hm, hlow⟩ := HPK.out
          have HLOW := Lib.hid hlow
          have HGJ := Lib.hid hgj
          have HM := Lib.hid hm
          have HROW := Lib.hid hrow
          have HB4 := Lib.hid hb4
          have hj0l := hj0
          clear hlow hgj hm hrow hb4 c0 c1
          go_wp2
          go_loopw [6, 7, 36] (fun v p i wr => ∃ j : Nat, j ≤ j0 ∧ v = .slice D rs.length cD ∧ p = .int .i64 x ∧ i = .int .i64 j ∧ Below w4.heap.size w4 wr) (fun _ _ i _ => gs.length - (intOf i).toNat)
          case atStart => exact ⟨0, Nat.zero_le _, rfl, rfl, rfl, Below.refl _ _⟩
          case round =>
            obtain ⟨j, hj, rfl, rfl, rfl, hbj⟩ := hrel
            obtain ⟨wv, rfl⟩ : ∃ W : World, W = wr := ⟨_, rfl⟩
            have hjl : j < gs.length := by omega
            have hd5 : decide ((j : Int) < (gs.length : Int)) = true := by simp; omega
            obtain ⟨bb, o, hA1, hbb, hcg⟩ := (holds_of_own (ownsRow_below HROW.out hbj)).look (k := j) (by simpa [nums, ofN] using hjl)
            have hcg' : wv.cell? ⟨bb, o + j, none⟩ = some (.int .i64 (gs[j] : Int)) := by rw [hcg]; simp [nums, ofN]
            subst hA1
            obtain ⟨hg8, hyd⟩ := HMEM.out gs[j] (List.getElem_mem hjl)
            have hcase : (j = j0 ∧ gs[j] = g ∧ (Φ (ny x gs[j]) == Φ x - 1) = true) ∨ (j < j0 ∧ (Φ (ny x gs[j]) == Φ x - 1) = false) := by
              rcases Nat.lt_or_ge j j0 with h | h
              · exact .inr ⟨h, HLOW.out j hjl h⟩
              · have hje : j = j0 := by omega
                subst hje
                exact .inl ⟨rfl, HGJ.out, by rw [HGJ.out]; exact HM.out⟩
            generalize gs[j] = gg at hcg' hg8 hyd hcase
            obtain ⟨y, hy⟩ : ∃ y, ny x gg = y := ⟨_, rfl⟩
            have hxx : Go.bits .xor .i64 (x : Int) (2 * (gg : Int) + 1) = (y : Int) := by
              rw [show (2 * (gg : Int) + 1) = ((2 * gg + 1 : Nat) : Int) by omega, bits_xor_nat _ _ (by omega) (by omega), ← hy]; rfl
            rw [hy] at hyd hcase
            have hy2 := (HST.out y).1 hyd
            have hy3 : (y : Int) < 2 * (z : Int) := by omega
            have HZV := Lib.hid (below_then HB4.out hbj HB4.out.size)
            have HV3 := Lib.hid (below_then HB.out HZV.out HB.out.size)
            have HBJ := Lib.hid hbj
            have hF5 := HFW.out.below HV3.out
            have hfl5 := hF5.lt
            have ax5 := num_cell hF5 (i := x) (v := fx) (by rw [HFL.out]; exact hx2) (by rw [HPH.out x hx2]; exact HFX.out)
            obtain ⟨fy, hfy⟩ : ∃ v, Φ y = v := ⟨_, rfl⟩
            have ay5 := num_cell hF5 (i := y) (v := fy) (by rw [HFL.out]; exact hy2) (by rw [HPH.out y hy2]; exact hfy)
            rw [hfy, HFX.out] at hcase
            have hbx5 := hbx
            clear hfy hF5 hbj ax hfl1 hcg hj0l
            rcases hcase with ⟨rfl, rfl, hm⟩ | ⟨hjj, hm⟩
            · rw [hy] at HG
              have hws : w3.heap.size ≤ wv.heap.size := HV3.out.size
              have hgl := listOf_le gg
              have HGG := Lib.hid hg8
              have hzv : wz.heap.size ≤ wv.heap.size := HZV.out.size
              clear hy hj hjl hd5
              go_wp2_with fail
              go_region
              clear ax5 ay5 hm
              go_wp2_with fail
              refine (cuList_any gg _ HGG.out).mono ?_
              rintro e w5 ⟨A2, q2, rfl, hown2, hb2⟩
              have hle : wz.heap.size ≤ (World.drew wv).heap.size := HZV.out.drew.size
              have HB2 := Lib.hid (below_then HZV.out.drew hb2 hle)
              have hbs2 : wz.heap.size ≤ w5.heap.size := HB2.out.size
              have hws2 : w3.heap.size ≤ wz.heap.size := HB.out.size
              have HOWN := Lib.hid ((HHD.out.below HB2.out).alloc (.cells #[.slice A2 (listOf gg).length q2] 40)).1
              have HF := Lib.hid (Fresh.of_own hown2 (Nat.le_refl _))
              have HLE := Lib.hid hle
              have hlen' := HLEN.out
              have HMAX := Lib.hid (show rs.length + 1 ≤ maxLen by unfold maxLen; omega)
              have HBYT := Lib.hid (show (rs.length + 1) * 24 ≤ 140737488355328 by omega)
              have HBASE := Lib.hid (show w3.heap.size ≤ (w5.alloc (.cells #[.slice A2 (listOf gg).length q2] 40)).heap.size by simp; omega)
              clear hown2 hb2 hlen' hle
              go_wp2_with (at_builtin; refine wpList_append_lies _ rfl (.tmp 55) (.tmp 58) 28 rfl w3.heap.size 40 i0 (.slice none 0 0) 1 24 Try.underlying28 HI.out HZ0.out HZ1.out HZ2'.out rfl (by decide) (.slice D rs.length cD) rs.length (rowVals rs) rfl HOWN.out ⟨w5.heap.size, 0, none⟩ 1 1 [.slice A2 (listOf gg).length q2] rfl rfl (cell_one_new _ _ _) (by simp [Value.oneCell']) (by decide) HMAX.out HBYT.out HBASE.out (w5.heap.size + 1) (by simp) ?_; intro g1 cap w6 hown4 hg4 hat hlt4)
              obtain ⟨A3, q3, hv3, hf3⟩ := HF.out
              simp only [Value.slice.injEq, true_and] at hv3
              obtain ⟨rfl, rfl⟩ := hv3
              have HP2 := Lib.hid (Heads.push (r := ⟨A2, (listOf gg).length, q2, listOf gg⟩) HHD.out hws2 HB2.out (fresh_lower hf3 HLE.out) rfl (by show (listOf gg).length ≤ _; omega) hown4 hg4 hat)
              have HBN := Lib.hid (((below_then HB.out HB2.out hws2).alloc (by omega) (.cells #[.slice A2 (listOf gg).length q2] 40)).grown hg4 HBASE.out (fun kk hkk => (HOWN.out.lt kk hkk).1))
              clear hown4 hg4 hat hlt4 hf3
              go_roundg f'
              case measure => omega
              case rel => exact ⟨y, rest', rs ++ [⟨A2, (listOf gg).length, q2, listOf gg⟩], some ⟨g1, 0, none⟩, cap, HG.out, hyd, by have h := HLS.out; rw [rowNums, List.map_append]; simpa [rowNums] using h, by rw [List.length_append]; rfl, rfl, by have h := HLEN.out; rw [List.length_append, List.length_singleton]; omega, HP2.out, HBN.out⟩
            · clear hy
              go_wp2_with fail
              go_region
              go_wp2
              go_roundw
              case rel => exact ⟨j + 1, by omega, rfl, rfl, by go_num, HBJ.out.drew⟩
              case measure => simp [intOf]; omega
    
        · have hd : decide (0 < fx) = false := by simpa using hp
          have hr0 := goS_done hg (by rw [hfx]; exact hp)
          subst hr0
          have HLL : Hid (rowNums rs = firstL k q) := by have h := HLS.out; rw [List.append_nil] at h; exact h
          clear hg hls hlen hH hb hfx hf1
          go_wp2
          go_ret2
          rw [HV.out.1, HV.out.2, HVB.out.1, HVB.out.2]
          exact ⟨D, rs.length, cD, rs, rfl, HLL.out, rfl, (HHD.out.raise HT.out.size).free, below_then HT.out HB.out HT.out.size⟩
end Go.Proofs.Ytjadoehdhbilcaa

namespace Go.Proofs.Ytjadoehdhbilcaa
open Go.ChangeShapes Go.WideShapes Go.ChangeAt Go.RowKit Go.Joins

theorem own : ownKnob Try.prog.godebug = none := by kernel_rfl
theorem laidOut : laidOutB Try.prog = true := by kernel_rfl
theorem cells_state : Try.prog.cellsOf 26 = 2 := by kernel_rfl

theorem holds_row {w : World} {x : Addr} {len : Nat} {zs : List Int} (hl : len ≤ zs.length) (hc : ∀ i, i < zs.length → w.cell? (x.add i) = some (.int .i64 (zs.getD i 0))) : Holds w (some x) (nums (zs.take len)) := by
  by_cases h0 : len = 0
  · subst h0; exact .inl rfl
  · obtain ⟨b, o, spot⟩ := x
    have hf := hc 0 (by omega)
    have hs : spot = none := by simpa [Addr.add] using World.cell?_spot hf
    subst hs
    refine .inr ⟨b, o, rfl, ?_, fun j u hu => ?_⟩
    · rcases Nat.lt_or_ge b w.heap.size with h | h
      · exact h
      · have : w.cell? ((⟨b, o, none⟩ : Addr).add 0) = none := by simp [World.cell?, Addr.add, Array.getElem?_eq_none h]
        rw [this] at hf; cases hf
    · have hj : j < len := by
        have h := List.getElem?_eq_some_iff.1 hu
        obtain ⟨h, -⟩ := h
        rw [nums_len, List.length_take] at h
        omega
      have h := hc j (by omega)
      rw [show (⟨b, o + j, none⟩ : Addr) = (⟨b, o, none⟩ : Addr).add j from by unfold Addr.add; split <;> simp_all, h]
      simp only [nums, List.getElem?_map, List.getElem?_take, hj, if_true] at hu
      rw [← hu, List.getD_eq_getElem?_getD, List.getElem?_eq_getElem (show j < zs.length by omega)]
      rfl

set_option maxRecDepth 100000 in
theorem open_nums {H : Type} {enc : TypeId × Value → H} {W : World} {n : Nat} {c : Value} {y : DataW H × List MemPlace} (h : DataW.trod enc Try.prog W 0 (fun _ => true) true n 40 [c] = some y) :
    ∃ (A : Option Addr) (len cap : Nat) (xs : List Int), c = .slice A len cap ∧ Holds W A (nums xs) ∧ xs.length = len ∧ len ≤ 9223372036854775807 := by
  rcases open_ints Try.underlying40 Try.underlying3 (by kernel_rfl) h with ⟨hcs, _⟩ | ⟨x, l, cp, zs, hcs, _, hl, hm, hz, _, hcell, _⟩
  · simp only [List.cons.injEq, and_true] at hcs
    exact ⟨none, 0, 0, [], hcs, .inl rfl, rfl, by omega⟩
  · simp only [List.cons.injEq, and_true] at hcs
    have hz' : zs.length = cp := by simpa using hz
    unfold maxLen at hm
    exact ⟨some x, l, cp, zs.take l, hcs, holds_row (by omega) hcell, by simp; omega, by omega⟩

theorem holds_bits {w : World} {x : Addr} {len : Nat} {zs : List Bool} (hl : len ≤ zs.length) (hc : ∀ i, i < zs.length → w.cell? (x.add i) = some (.bool (zs.getD i false))) : Holds w (some x) (bits (zs.take len)) := by
  by_cases h0 : len = 0
  · subst h0; exact .inl rfl
  · obtain ⟨b, o, spot⟩ := x
    have hf := hc 0 (by omega)
    have hs : spot = none := by simpa [Addr.add] using World.cell?_spot hf
    subst hs
    refine .inr ⟨b, o, rfl, ?_, fun j u hu => ?_⟩
    · rcases Nat.lt_or_ge b w.heap.size with h | h
      · exact h
      · have : w.cell? ((⟨b, o, none⟩ : Addr).add 0) = none := by simp [World.cell?, Addr.add, Array.getElem?_eq_none h]
        rw [this] at hf; cases hf
    · have hj : j < len := by
        have h := List.getElem?_eq_some_iff.1 hu
        obtain ⟨h, -⟩ := h
        rw [bits_len, List.length_take] at h
        omega
      have h := hc j (by omega)
      rw [show (⟨b, o + j, none⟩ : Addr) = (⟨b, o, none⟩ : Addr).add j from by unfold Addr.add; split <;> simp_all, h]
      simp only [bits, List.getElem?_map, List.getElem?_take, hj, if_true] at hu
      rw [← hu, List.getD_eq_getElem?_getD, List.getElem?_eq_getElem (show j < zs.length by omega)]
      rfl

set_option maxRecDepth 100000 in
theorem open_bits {H : Type} {enc : TypeId × Value → H} {W : World} {n : Nat} {c : Value} {y : DataW H × List MemPlace} (h : DataW.trod enc Try.prog W 0 (fun _ => true) true n 24 [c] = some y) :
    ∃ (A : Option Addr) (len cap : Nat) (xs : List Bool), c = .slice A len cap ∧ Holds W A (bits xs) ∧ xs.length = len ∧ len ≤ 9223372036854775807 := by
  rcases Go.Deep.open_bools Try.underlying24 Try.underlying4 (by kernel_rfl) h with ⟨hcs, _⟩ | ⟨x, l, cp, f, hcs, _, hl, hm, _, hcell⟩
  · simp only [List.cons.injEq, and_true] at hcs
    exact ⟨none, 0, 0, [], hcs, .inl rfl, rfl, by omega⟩
  · simp only [List.cons.injEq, and_true] at hcs
    unfold maxLen at hm
    have hz' : ((List.range cp).map f).length = cp := by simp
    exact ⟨some x, l, cp, ((List.range cp).map f).take l, hcs, holds_bits (by omega) (fun i hi => by
      have hi' : i < cp := by omega
      rw [hcell i hi']
      simp [List.getD_eq_getElem?_getD, hi']), by simp; omega, by omega⟩

set_option maxRecDepth 100000 in
theorem open_state {H : Type} {enc : TypeId × Value → H} {W : World} {base : Nat} {v : Value} {d : DataW H} {p : List MemPlace} (hv : Value.okWide Try.prog W .any base 26 v)
    (h : DataW.Trod enc Try.prog W 0 (fun _ => true) true 26 v d p) :
    ∃ (A : Option Addr) (n c : Nat) (xs : List Bool) (s : Bool), v = .agg #[.slice A n c, .bool s] ∧ Holds W A (bits xs) ∧ xs.length = n ∧ n ≤ 9223372036854775807 := by
  obtain ⟨c0, c1, y0, y1, m, rfl, rfl, rfl, hy0, hy1⟩ := open_agg2 Try.underlying26 (by kernel_rfl) cells_state hv h
  obtain ⟨s, e1, -⟩ := DataW.trod_bool Try.underlying4 hy1
  simp only [List.cons.injEq, and_true] at e1
  obtain ⟨A, n, c, xs, rfl, hA, hx, hn⟩ := open_bits hy0
  exact ⟨A, n, c, xs, s, by rw [e1], hA, hx, hn⟩

set_option maxRecDepth 100000 in
theorem open_list {H : Type} {enc : TypeId × Value → H} {W : World} {base : Nat} {v : Value} {d : DataW H} {p : List MemPlace} (hv : Value.okWide Try.prog W .any base 40 v)
    (h : DataW.Trod enc Try.prog W 0 (fun _ => true) true 40 v d p) :
    ∃ (A : Option Addr) (n c : Nat) (xs : List Int), v = .slice A n c ∧ Holds W A (nums xs) ∧ xs.length = n ∧ n ≤ 9223372036854775807 := by
  obtain ⟨a0, len, cap, rfl⟩ := okWide_slice Try.underlying40 hv
  obtain ⟨fuel, hf⟩ := h
  exact open_nums (by simpa [Value.cells] using hf)
end Go.Proofs.Ytjadoehdhbilcaa

namespace Go.Proofs.Ytjadoehdhbilcaa
open Go.ChangeShapes Go.WideShapes Go.ChangeAt Go.RowKit Go.Joins

set_option maxRecDepth 100000 in
theorem open_whole {H : Type} {enc : TypeId × Value → H} {W : World} {base : Nat} {v : Value} {d : DataW H} {p : List MemPlace} (hv : Value.okWide Try.prog W .any base 3 v)
    (h : DataW.Trod enc Try.prog W 0 (fun _ => true) true 3 v d p) : ∃ k : Int, v = .int .i64 k ∧ -9223372036854775808 ≤ k ∧ k ≤ 9223372036854775807 := by
  obtain ⟨n, rfl, -, -, hw⟩ := open_int Try.underlying3 hv h
  simp only [Lit.wf, Bool.and_eq_true, decide_eq_true_eq] at hw
  exact ⟨n, rfl, hw.1, hw.2⟩

theorem holds_fn {w : World} {x : Addr} {len cap : Nat} {f : Nat → Value} (hl : len ≤ cap) (hc : ∀ i, i < cap → w.cell? (x.add i) = some (f i)) : Holds w (some x) ((List.range len).map f) := by
  by_cases h0 : len = 0
  · subst h0; exact .inl rfl
  · obtain ⟨b, o, spot⟩ := x
    have hf := hc 0 (by omega)
    have hs : spot = none := by simpa [Addr.add] using World.cell?_spot hf
    subst hs
    refine .inr ⟨b, o, rfl, ?_, fun j u hu => ?_⟩
    · rcases Nat.lt_or_ge b w.heap.size with h | h
      · exact h
      · have : w.cell? ((⟨b, o, none⟩ : Addr).add 0) = none := by simp [World.cell?, Addr.add, Array.getElem?_eq_none h]
        rw [this] at hf; cases hf
    · have hj : j < len := by
        have h := List.getElem?_eq_some_iff.1 hu
        obtain ⟨h, -⟩ := h
        simpa using h
      have h := hc j (by omega)
      rw [show (⟨b, o + j, none⟩ : Addr) = (⟨b, o, none⟩ : Addr).add j from by unfold Addr.add; split <;> simp_all, h]
      simp only [List.getElem?_map, List.getElem?_range hj, Option.map_some] at hu
      exact hu

set_option maxRecDepth 100000 in
theorem open_grid {H : Type} {enc : TypeId × Value → H} {W : World} {base : Nat} {v : Value} {d : DataW H} {p : List MemPlace} (hv : Value.okWide Try.prog W .any base 28 v)
    (h : DataW.Trod enc Try.prog W 0 (fun _ => true) true 28 v d p) :
    ∃ (A : Option Addr) (n c : Nat) (rs : List RowV), v = .slice A n c ∧ Grid W A rs ∧ rs.length = n ∧ n ≤ 9223372036854775807 := by
  obtain ⟨a0, len0, cap0, rfl⟩ := okWide_slice Try.underlying28 hv
  obtain ⟨fuel, hf⟩ := h
  have hf' : DataW.trod enc Try.prog W 0 (fun _ => true) true fuel 28 [.slice a0 len0 cap0] = some (d, p) := by simpa [Value.cells] using hf
  rcases Go.Deep.open_int_rows Try.underlying28 Try.underlying40 Try.underlying3 (by kernel_rfl) (by kernel_rfl) hf' with ⟨hcs, _⟩ | ⟨a, len, cap, A, L, C, Z, hcs, _, hl, hm, _, hrow⟩
  · simp only [List.cons.injEq, and_true] at hcs
    exact ⟨none, 0, 0, [], hcs, ⟨.inl rfl, fun r hr => by cases hr⟩, rfl, by omega⟩
  · simp only [List.cons.injEq, and_true] at hcs
    unfold maxLen at hm
    refine ⟨some a, len, cap, (List.range len).map fun r => ⟨A r, L r, C r, (Z r).take (L r)⟩, hcs, ⟨?_, fun r hr => ?_⟩, by simp, by omega⟩
    · have h1 := holds_fn (f := fun r => Value.slice (A r) (L r) (C r)) hl (fun i hi => (hrow i hi).1)
      simpa [rowVals, RowV.val, Function.comp_def] using h1
    · simp only [List.mem_map, List.mem_range] at hr
      obtain ⟨j, hj, rfl⟩ := hr
      obtain ⟨-, hLC, hCm, hZ, -, hnone, hsome⟩ := hrow j (by omega)
      unfold maxLen at hCm
      refine ⟨?_, by simp; omega, by show L j ≤ _; omega⟩
      show Holds W (A j) (nums ((Z j).take (L j)))
      cases hA : A j with
      | none =>
        have h0 := hnone hA
        have : Z j = [] := List.eq_nil_of_length_eq_zero (by omega)
        rw [this]
        exact .inl (by simp [nums])
      | some a' => exact holds_row (by omega) (fun i hi => (hsome a' hA).2 i (by omega))
end Go.Proofs.Ytjadoehdhbilcaa

namespace Go.Proofs.Ytjadoehdhbilcaa
open Go.ChangeShapes Go.WideShapes Go.ChangeAt Go.RowKit Go.Joins

theorem cells_company : Try.prog.cellsOf 23 = 2 := by kernel_rfl

set_option maxRecDepth 100000 in
theorem open_company {H : Type} {enc : TypeId × Value → H} {W : World} {base : Nat} {v : Value} {d : DataW H} {p : List MemPlace} (hv : Value.okWide Try.prog W .any base 23 v)
    (h : DataW.Trod enc Try.prog W 0 (fun _ => true) true 23 v d p) :
    ∃ a b : Int, v = .agg #[.int .i64 a, .int .i64 b] := by
  obtain ⟨c0, c1, y0, y1, m, rfl, rfl, rfl, hy0, hy1⟩ := open_agg2 Try.underlying23 (by kernel_rfl) cells_company hv h
  obtain ⟨a, e0, -, -⟩ := DataW.trod_int Try.underlying3 hy0
  obtain ⟨b, e1, -, -⟩ := DataW.trod_int Try.underlying3 hy1
  simp only [List.cons.injEq, and_true] at e0 e1
  exact ⟨a, b, by rw [e0, e1]⟩
end Go.Proofs.Ytjadoehdhbilcaa

namespace Go.Proofs.Ytjadoehdhbilcaa
open Go.RowKit

set_option maxHeartbeats 12800000 in
set_option maxRecDepth 100000 in
set_option linter.unusedSimpArgs false in
set_option linter.unusedVariables false in
theorem lawFirstRows_small (k0 : Int) (k1 : Int) (w : World)   :
    Calls Try.prog 7 #[.agg #[.int .i64 k0, .int .i64 k1]] w fun e w' => e = .returned (.bool true) ∧ Below w.heap.size w w' := by
  have hb0 := (Whole.fresh w 23 #[.int .i64 k0, .int .i64 k1])
  have ht := below1 w (.cells #[.int .i64 k0, .int .i64 k1] 23)
  have hlen : ((firstO k0 k1)).length ≤ 1048576 ∧ (((firstO k0 k1)).map List.length).sum ≤ 1048576 := firstO_le _ _
  obtain ⟨hb0_0, hb0_1⟩ := hb0.cells2
  have hb0_l := hb0.lt
  go_enter Try.func7, Try.ntmps7
  -- region 1
  go_wp2_with fail
  refine (toCompany_any k0 k1 _).mono ?_
  rintro e v1 ⟨rfl, hb⟩
  have hz1 : w.heap.size + 1 ≤ v1.heap.size := by have := hb.size; simpa using this
  replace ht := below_then ht hb ht.size
  replace hb0 := hb0.below hb
  clear hb
  clear hb0_0 hb0_1 hb0_l
  obtain ⟨hb0_0, hb0_1⟩ := hb0.cells2
  have hb0_l := hb0.lt
  go_wp2_with fail
  refine (specFirstRows_any k0 k1 _).mono ?_
  rintro e v2 ⟨B0, m0, q0, rs0, rfl, he0, hl0, hF0, hb⟩
  have hz2 : v1.heap.size ≤ v2.heap.size := by have := hb.size; simpa using this
  replace ht := below_then ht hb ht.size
  replace hb0 := hb0.below hb
  have HER0 := Lib.hid he0
  have HLR0 := Lib.hid hl0
  have hnr0 : m0 ≤ 1048576 := by have h1 := hl0; have h2 := congrArg List.length he0; rw [rowNums_len] at h2; have h3 := hlen.1; omega
  clear he0 hl0
  replace hF0 := hF0.more (lo' := v1.heap.size) (hi' := v2.heap.size) (by simp) (Nat.le_refl _)
  clear hb
  clear hb0_0 hb0_1 hb0_l
  obtain ⟨hb0_0, hb0_1⟩ := hb0.cells2
  have hb0_l := hb0.lt
  -- region 2
  go_wp2_with fail
  refine (toCompany_any k0 k1 _).mono ?_
  rintro e v3 ⟨rfl, hb⟩
  have hz3 : v2.heap.size ≤ v3.heap.size := by have := hb.size; simpa using this
  replace ht := below_then ht hb ht.size
  replace hb0 := hb0.below hb
  replace hF0 := hF0.below hb
  clear hb
  clear hb0_0 hb0_1 hb0_l
  obtain ⟨hb0_0, hb0_1⟩ := hb0.cells2
  have hb0_l := hb0.lt
  go_wp2_with fail
  refine (implFirstRows_any k0 k1 _).mono ?_
  rintro e v4 ⟨B1, m1, q1, rs1, rfl, he1, hl1, hF1, hb⟩
  have hz4 : v3.heap.size ≤ v4.heap.size := by have := hb.size; simpa using this
  replace ht := below_then ht hb ht.size
  replace hb0 := hb0.below hb
  replace hF0 := hF0.below hb
  have HER1 := Lib.hid he1
  have HLR1 := Lib.hid hl1
  have hnr1 : m1 ≤ 1048576 := by have h1 := hl1; have h2 := congrArg List.length he1; rw [rowNums_len] at h2; have h3 := hlen.1; omega
  clear he1 hl1
  replace hF1 := hF1.more (lo' := v3.heap.size) (hi' := v4.heap.size) (by simp) (Nat.le_refl _)
  clear hb
  clear hb0_0 hb0_1 hb0_l
  obtain ⟨hb0_0, hb0_1⟩ := hb0.cells2
  have hb0_l := hb0.lt
  -- region 3
  go_wp2_with fail
  refine (eqIntSS_yes B1 B0 m1 m0 q1 q0 rs1 rs0 _ (by exact hF1.grid) (by exact hF0.grid) (by rw [HER1.out, HER0.out]) HLR1.out HLR0.out (by omega)).mono ?_
  rintro e v5 ⟨rfl, hb⟩
  have hz5 : v4.heap.size ≤ v5.heap.size := by have := hb.size; simpa using this
  replace ht := below_then ht hb ht.size
  replace hb0 := hb0.below hb
  replace hF0 := hF0.below hb
  replace hF1 := hF1.below hb
  clear hb
  clear hb0_0 hb0_1 hb0_l
  obtain ⟨hb0_0, hb0_1⟩ := hb0.cells2
  have hb0_l := hb0.lt
  -- region 6
  go_wp2_with fail
  have hprt : part rs1 rs1.length ≤ 1048576 := by have h1 := part_lens hF1.grid; have h2 := hlen.2; rw [HER1.out] at h1; omega
  refine (markIntSS_any B1 m1 q1 _ _ rs1 1 _ hF1 HLR1.out (by omega) (by omega) hnr1 hprt).mono ?_
  rintro e v6 ⟨rfl, hs, hM⟩
  have hsz := ht.size
  replace ht := hs.below ht (by omega) hsz
  replace hb0 := hs.whole hb0 (by omega)
  replace hF0 := hs.freeGrid hF0 (by omega)
  clear hs hF1 hsz
  clear hb0_0 hb0_1 hb0_l
  obtain ⟨hb0_0, hb0_1⟩ := hb0.cells2
  have hb0_l := hb0.lt
  -- region 8
  go_wp2_with fail
  refine (heldIntSS_any B1 m1 q1 rs1 1 _ (by exact hM.grid) HLR1.out (by omega) (by omega) hnr1 hprt).mono ?_
  rintro e v7 ⟨rfl, hb⟩
  have hz7 : v6.heap.size ≤ v7.heap.size := by have := hb.size; simpa using this
  replace ht := below_then ht hb ht.size
  replace hb0 := hb0.below hb
  replace hF0 := hF0.below hb
  replace hM := hM.below hb
  clear hb
  have hm0 : (0 : Int) ≤ 1 + ((part rs1 rs1.length : Nat) : Int) := by omega
  clear hb0_0 hb0_1 hb0_l
  obtain ⟨hb0_0, hb0_1⟩ := hb0.cells2
  have hb0_l := hb0.lt
  -- region 13
  go_wp2_with fail
  refine (toCompany_any k0 k1 _).mono ?_
  rintro e v8 ⟨rfl, hb⟩
  have hz8 : v7.heap.size ≤ v8.heap.size := by have := hb.size; simpa using this
  replace ht := below_then ht hb ht.size
  replace hb0 := hb0.below hb
  replace hF0 := hF0.below hb
  replace hM := hM.below hb
  clear hb
  clear hb0_0 hb0_1 hb0_l
  obtain ⟨hb0_0, hb0_1⟩ := hb0.cells2
  have hb0_l := hb0.lt
  go_wp2_with fail
  refine (implFirstRows_any k0 k1 _).mono ?_
  rintro e v9 ⟨B2, m2, q2, rs2, rfl, he2, hl2, hF2, hb⟩
  have hz9 : v8.heap.size ≤ v9.heap.size := by have := hb.size; simpa using this
  replace ht := below_then ht hb ht.size
  replace hb0 := hb0.below hb
  replace hF0 := hF0.below hb
  replace hM := hM.below hb
  have HER2 := Lib.hid he2
  have HLR2 := Lib.hid hl2
  have hnr2 : m2 ≤ 1048576 := by have h1 := hl2; have h2 := congrArg List.length he2; rw [rowNums_len] at h2; have h3 := hlen.1; omega
  clear he2 hl2
  replace hF2 := hF2.more (lo' := v8.heap.size) (hi' := v9.heap.size) (by simp) (Nat.le_refl _)
  clear hb
  clear hb0_0 hb0_1 hb0_l
  obtain ⟨hb0_0, hb0_1⟩ := hb0.cells2
  have hb0_l := hb0.lt
  -- region 14
  go_wp2_with fail
  refine (eqIntSS_yes B2 B0 m2 m0 q2 q0 rs2 rs0 _ (by exact hF2.grid) (by exact hF0.grid) (by rw [HER2.out, HER0.out]) HLR2.out HLR0.out (by omega)).mono ?_
  rintro e v10 ⟨rfl, hb⟩
  have hz10 : v9.heap.size ≤ v10.heap.size := by have := hb.size; simpa using this
  replace ht := below_then ht hb ht.size
  replace hb0 := hb0.below hb
  replace hF0 := hF0.below hb
  replace hM := hM.below hb
  replace hF2 := hF2.below hb
  clear hb
  clear hb0_0 hb0_1 hb0_l
  obtain ⟨hb0_0, hb0_1⟩ := hb0.cells2
  have hb0_l := hb0.lt
  -- region 17
  go_wp2_with fail
  refine (heldIntSS_any B1 m1 q1 rs1 1 _ (by exact hM.grid) HLR1.out (by omega) (by omega) hnr1 hprt).mono ?_
  rintro e v11 ⟨rfl, hb⟩
  have hz11 : v10.heap.size ≤ v11.heap.size := by have := hb.size; simpa using this
  replace ht := below_then ht hb ht.size
  replace hb0 := hb0.below hb
  replace hF0 := hF0.below hb
  replace hM := hM.below hb
  replace hF2 := hF2.below hb
  clear hb
  clear hb0_0 hb0_1 hb0_l
  obtain ⟨hb0_0, hb0_1⟩ := hb0.cells2
  have hb0_l := hb0.lt
  go_wp2
  go_ret
  exact ⟨rfl, ht⟩

theorem lawFirstRows_all (k0 : Int) (k1 : Int) (w : World)  :
    Calls Try.prog 7 #[.agg #[.int .i64 k0, .int .i64 k1]] w fun e w' => e = .returned (.bool true) ∧ Below w.heap.size w w' := by
  exact lawFirstRows_small k0 k1 w  
end Go.Proofs.Ytjadoehdhbilcaa

namespace Go.Proofs.Ytjadoehdhbilcaa.firstRows
open Go.ChangeShapes Go.WideShapes Go.ChangeAt Go.RowKit Go.Joins

set_option maxRecDepth 100000 in
theorem lifted (os : Os) (started : os.Started) (H : Type) (enc : TypeId × Value → H) :
    ReturnsInHanded {} Try.checked os 7 .any (Rows.fnExactFirstRowsSpec.pre6 enc Try.prog Try.f7 Rows.fnExactFirstRowsRow.domain false) (Rows.fnExactFirstRowsSpec.post enc Try.prog Try.f7 false true false false) := by
  refine returnsInHanded_of_change (C := Try.checked) own started (by kernel_rfl) Try.func7
    (ChangeSpec.witness6 (enc := enc) (C := Try.checked) false ⟨#[], #[.agg #[.int .i64 0, .int .i64 0]], []⟩ 8 (by kernel_rfl) (by kernel_rfl) (by kernel_rfl) (by kernel_rfl)) ?_
  intro W base args ds gs before hval0 hW hcnd _
  have hval : ∀ (j : Nat) t v, Try.f7.params[j]? = some t → args[j]? = some v → Value.okWide Try.prog W .any base t v := hval0
  have hW' := hW
  obtain ⟨p, q, hA0, hV, rfl, hfz, hnd⟩ := hW
  have hA : DataW.TrodAll enc Try.prog W 0 (fun _ => true) true Try.f7.params.toList args.toList ds p := hA0
  rw [Try.params7] at hA hval
  obtain ⟨v0, vs0, d0, ds0, p0, q0, hargs, rfl, rfl, h0, r0⟩ := trodAll_cons hA
  obtain ⟨rfl, rfl, rfl⟩ := trodAll_nil r0
  obtain rfl : args = #[v0] := by cases args; simp_all
  obtain ⟨rfl, rfl⟩ := trodVars_none hV
  have lt0 : ∀ x ∈ p0, x.block < W.heap.size := by obtain ⟨m, hm⟩ := h0; exact DataW.trod_lt m _ _ _ hm
  obtain ⟨k0, m0, hv0⟩ := open_company (hval 0 23 v0 rfl rfl) h0
  subst hv0
  clear hA0 hval0
  refine (lawFirstRows_all k0 m0 W ).mono fun e W' ⟨he, bel⟩ => ?_
  subst he
  exact ⟨_, rfl, _, _, _, [], _, [], hW', trodAll_mk1 (shut_bool Try.underlying4 _), (trodAll_cons_mk (Below.trod laidOut (by kernel_rfl) (of_decide_eq_true (by kernel_rfl)) h0 bel lt0) trodAll_mk0), rfl, bel.frame _, fun h => by cases h⟩

set_option maxHeartbeats 8000000 in
theorem facts : joinedFacts Try.prog 7 Try.f7 Rows.fnExactFirstRowsSpec Rows.fnExactFirstRowsRow = true := by
  unfold joinedFacts
  rw [enter.laid, enter.rowed, enter.heard, enter.keys, enter.mayEnter, enter.liftsFinal, enter.make]
  simp only [Bool.and_eq_true]
  repeat' apply And.intro
  all_goals (first | exact True.intro | (as_aux_lemma => kernel_rfl))

theorem named_ : Try.prog.funcNamed Rows.fnExactFirstRowsRow.func = some 7 := by kernel_rfl
theorem instance_ : Try.f7.isInstance Try.prog Rows.fnExactFirstRowsRow.origin Rows.fnExactFirstRowsRow.targs := of_decide_eq_true (by kernel_rfl)
theorem wrapper_ : Try.f7.isWrapper Try.prog Rows.fnExactFirstRowsRow.wrapper Rows.fnExactFirstRowsRow.mainSum := by
  unfold Func.isWrapper; first | (rw [if_pos (by decide +kernel)]; kernel_rfl) | (rw [if_neg (by decide +kernel)]; exact ⟨rfl, rfl⟩)

theorem proved : Rows.FnExactFirstRowsSaid :=
  OpenClaim.holds_of_wide 7 Try.f7 rfl rfl rfl rfl rfl rfl rfl ⟨rfl, rfl, rfl, rfl, rfl⟩ rfl rfl rfl rfl rfl named_ Try.func7 facts
    instance_ wrapper_ (fun os started H enc _ => lifted os started H enc)
#print axioms proved
end Go.Proofs.Ytjadoehdhbilcaa.firstRows
