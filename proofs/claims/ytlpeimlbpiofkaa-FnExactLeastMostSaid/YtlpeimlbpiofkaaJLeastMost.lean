/-
  What is proved: the given statement on FnExactLeastMost: at every argument of its kinds the law returns true and the arguments read as before. Conditions: none beyond the statement's own.
  Beside it, what it stands on:
  What is proved: the least capacity of a boat with which a crew has a plan is the least load of some people with which it has one. Pure. Conditions: a crew in which somebody can row.
  What is proved: contracts of the library's search for a bool in a list, of the closure by which LeastMost asks whether a boat is enough, and of sort.Search over it. Conditions: the arguments are read as they lie.
  What is proved: the contract of the model's LeastMost. Conditions: the arguments are read as they lie.
  What is proved: the contract of the program's LeastMost. Conditions: the arguments are read as they lie.
  What is proved: the law FnExactLeastMost returns true at every argument, and leaves all that was there as it was. Conditions: the arguments are read as they lie.
-/
import Derived.Deep.RegionHeld3
import Derived.JoinedOf
import Derived.Test.YtlpeimlbpiofkaaJ1NeededRowers
set_option linter.unusedSimpArgs false
set_option linter.unusedVariables false
namespace Go.Proofs.Ytlpeimlbpiofkaa
open Go.RowKit

theorem least_wider {α : Type} {E F : α → Int → α → Prop} {src : α} {d f : α → Option Int} (hE : ∀ x t y, E x t y → 1 ≤ t) (hEF : ∀ x t y, E x t y → F x t y) (h1 : Least E src d) (h2 : Least F src f) :
    ∀ (n : Nat) (y : α) (b : Int), b ≤ n → d y = some b → ∃ c, f y = some c := by
  intro n
  induction n with
  | zero =>
    intro y b hb hy
    rcases h1.pred y b hy with ⟨rfl, rfl⟩ | ⟨x, t, a, hx, he, rfl⟩
    · exact ⟨0, h2.start⟩
    · have := h1.low x a hx
      have := hE _ _ _ he
      omega
  | succ n ih =>
    intro y b hb hy
    rcases h1.pred y b hy with ⟨rfl, rfl⟩ | ⟨x, t, a, hx, he, rfl⟩
    · exact ⟨0, h2.start⟩
    · have := hE _ _ _ he
      obtain ⟨c, hc⟩ := ih x a (by omega) hx
      obtain ⟨b, hb, -⟩ := h2.edge x t y c hc (hEF _ _ _ he)
      exact ⟨b, hb⟩
/-- Has the crew a plan with a boat that carries so much? -/
noncomputable def planP (xs : List Int) (bs : List Bool) (n : Nat) (s : Int) : Bool := (costM xs bs s false n 0).isSome
theorem leg_one (xs : List Int) {k : Nat} {L : List (List Int)} : ∀ x t y, LegE (costOf xs false) k L x t y → 1 ≤ t := by
  rintro x t y ⟨l, -, rfl, -⟩
  exact Int.le_refl _
theorem leg_wider {T : List Int → Int} {k : Nat} {L L' : List (List Int)} (h : ∀ l ∈ L, l ∈ L') : ∀ x t y, LegE T k L x t y → LegE T k L' x t y := by
  rintro x t y ⟨l, hl, h1, h2⟩
  exact ⟨l, List.mem_filter.2 ⟨h l (List.mem_filter.1 hl).1, (List.mem_filter.1 hl).2⟩, h1, h2⟩
section
variable {xs : List Int} {bs : List Bool} {m n : Nat} {s s' : Int}
theorem CrewOk.with (h : CrewOk xs m s) (h0 : 0 ≤ s') (h1 : s' ≤ 4000) : CrewOk xs m s' := ⟨h.one, h.seven, h.rows, h.weights, h0, h1⟩
theorem crew_wider (h : s ≤ s') : ∀ l ∈ crewLists xs bs s, l ∈ crewLists xs bs s' := fun l hl => by
  obtain ⟨h1, h2⟩ := List.mem_filter.1 hl
  refine List.mem_filter.2 ⟨h1, ?_⟩
  simp only [legOk, Bool.and_eq_true, decide_eq_true_eq] at h2 ⊢
  exact ⟨h2.1, by omega⟩
theorem plan_of (h1 : CrewOk xs m s) (h2 : CrewOk xs m s') (hx : xs.length = n) (hL : ∀ l ∈ crewLists xs bs s, l ∈ crewLists xs bs s') (h : planP xs bs n s = true) : planP xs bs n s' = true := by
  obtain ⟨v, hv⟩ := Option.isSome_iff_exists.1 h
  obtain ⟨c, hc⟩ := least_wider (leg_one xs) (leg_wider hL) (cost_ok (bs := bs) (b := false) h1 hx).least (cost_ok (bs := bs) (b := false) h2 hx).least v.toNat 0 v (by omega) hv
  rw [planP, hc]
  rfl
theorem plan_wider (h1 : CrewOk xs m s) (h2 : CrewOk xs m s') (hx : xs.length = n) (hs : s ≤ s') : planP xs bs n s = true → planP xs bs n s' = true := plan_of h1 h2 hx (crew_wider hs)
theorem step_all {n : Nat} (h : n ≤ 7) : stepC (codeOf (trues n) true) (firsts n) = 0 := by
  have h0 : n = 0 ∨ n = 1 ∨ n = 2 ∨ n = 3 ∨ n = 4 ∨ n = 5 ∨ n = 6 ∨ n = 7 := by omega
  rcases h0 with rfl | rfl | rfl | rfl | rfl | rfl | rfl | rfl <;> decide +kernel
theorem here_allW {n : Nat} (h : n ≤ 7) : allAt (bitsOf (codeOf (trues n) true / 2) (2 * 4)) (bitAt (codeOf (trues n) true) 0) (firsts n) = true := by
  have h0 : n = 0 ∨ n = 1 ∨ n = 2 ∨ n = 3 ∨ n = 4 ∨ n = 5 ∨ n = 6 ∨ n = 7 := by omega
  rcases h0 with rfl | rfl | rfl | rfl | rfl | rfl | rfl | rfl <;> decide +kernel
theorem firsts_up {n : Nat} (h : 1 ≤ n) : firsts n ∈ upLists n n := by
  rw [mem_up]
  refine ⟨fun j hj => ?_, by rw [firsts_len]; exact h, by rw [firsts_len]; exact Nat.le_refl _⟩
  rw [firsts_len] at hj
  have e : ∀ i, i < n → (firsts n).getD i 0 = (i : Int) := fun i hi => by simp [firsts, List.getD, hi]
  refine ⟨by rw [e j hj]; omega, by rw [e j hj]; omega, ?_⟩
  rcases Nat.eq_zero_or_pos j with h0 | h0
  · exact .inl h0
  · exact .inr (by rw [e j hj, e (j - 1) (by omega)]; omega)
theorem row_all (hy : bs.length = n) (hr : bs.any (fun b => b) = true) : canRow bs (firsts n) = true := by
  obtain ⟨b, hb, rfl⟩ : ∃ b ∈ bs, b = true := by simpa using hr
  obtain ⟨i, hi, he⟩ := List.getElem_of_mem hb
  rw [canRow, List.any_eq_true]
  exact ⟨(i : Int), List.mem_map.2 ⟨i, List.mem_range.2 (by omega), rfl⟩, by simp [List.getD, hi, he]⟩
/-- A boat that carries all is enough. -/
theorem plan_all (hok : CrewOk xs m s) (hx : xs.length = n) (hy : bs.length = n) (hr : bs.any (fun b => b) = true) (hs : loadOf xs (firsts n) ≤ s) : planP xs bs n s = true := by
  have h1 := hok.one
  have h7 := hok.seven
  have hL := (cost_ok (bs := bs) (b := false) hok hx).least
  have hm : firsts n ∈ crewLists xs bs s := by
    refine List.mem_filter.2 ⟨by rw [hx]; exact firsts_up (by omega), ?_⟩
    rw [legOk, row_all hy hr, decide_eq_true hs]
    rfl
  have hE : LegE (costOf xs false) 4 (crewLists xs bs s) (codeOf (trues n) true) 1 0 := ⟨firsts n, List.mem_filter.2 ⟨hm, here_allW (by omega)⟩, rfl, (step_all (by omega)).symm⟩
  obtain ⟨b, hb, -⟩ := hL.edge _ 1 0 0 hL.start hE
  rw [planP, hb]
  rfl
theorem max_load (f : List Int → Int) : ∀ (L : List (List Int)), L ≠ [] → ∃ l ∈ L, ∀ k ∈ L, f k ≤ f l
  | [], h => absurd rfl h
  | [a], _ => ⟨a, by simp, by simp⟩
  | a :: b :: L, _ => by
    obtain ⟨l, hl, hk⟩ := max_load f (b :: L) (by simp)
    by_cases h : f a ≤ f l
    · exact ⟨l, List.mem_cons_of_mem _ hl, fun k hk' => by
        rcases List.mem_cons.1 hk' with rfl | hk'
        · exact h
        · exact hk k hk'⟩
    · refine ⟨a, List.mem_cons_self .., fun k hk' => ?_⟩
      rcases List.mem_cons.1 hk' with rfl | hk'
      · exact Int.le_refl _
      · have := hk k hk'
        omega
theorem last_some {n : Nat} (h1 : 1 ≤ n) (h : n ≤ 7) : codeOf (trues n) true ≠ 0 := by
  rw [last_code h]
  have : 1 ≤ 2 ^ n := Nat.one_le_two_pow
  omega
/-- If there is a plan, there is one with a boat that just carries some people. -/
theorem plan_load (hok : CrewOk xs m s) (hx : xs.length = n) (h : planP xs bs n s = true) : ∃ l ∈ upLists n n, loadOf xs l ≤ s ∧ planP xs bs n (loadOf xs l) = true := by
  have h1 := hok.one
  have h7 := hok.seven
  have hne : crewLists xs bs s ≠ [] := fun h0 => by
    obtain ⟨v, hv⟩ := Option.isSome_iff_exists.1 h
    rcases (cost_ok (bs := bs) (b := false) hok hx).least.pred 0 v hv with ⟨h2, -⟩ | ⟨x, t, a, -, ⟨l, hl, -⟩, -⟩
    · exact last_some (by omega) (by omega) h2.symm
    · have := (List.mem_filter.1 hl).1
      rw [h0] at this
      cases this
  obtain ⟨l, hl, hmax⟩ := max_load (loadOf xs) _ hne
  obtain ⟨hu, ho⟩ := List.mem_filter.1 hl
  simp only [legOk, Bool.and_eq_true, decide_eq_true_eq] at ho
  rw [hx] at hu
  have hlo := (loadOf_bound hok.weights l).1
  have hm := hok.most
  refine ⟨l, hu, ho.2, plan_of hok (hok.with hlo (by omega)) hx (fun k hk => ?_) h⟩
  obtain ⟨h2, h3⟩ := List.mem_filter.1 hk
  simp only [legOk, Bool.and_eq_true, decide_eq_true_eq] at h3
  refine List.mem_filter.2 ⟨h2, ?_⟩
  rw [legOk, h3.1, decide_eq_true (hmax k hk)]
  rfl
end

/-- Some people's load, as the model adds it up. -/
def loadB (xs : List Int) (b : Nat) : Nat → Int
  | 0 => 0
  | k + 1 => loadB xs b k + if bitAt b k then xs.getD k 0 else 0
def lstB (n b : Nat) : List Int := (firsts n).filter fun k => bitAt b k.toNat
theorem loadB_lst (xs : List Int) (b : Nat) : ∀ n, loadB xs b n = loadOf xs (lstB n b)
  | 0 => rfl
  | n + 1 => by
    have h : firsts (n + 1) = firsts n ++ [(n : Int)] := by simp [firsts, List.range_succ]
    rw [loadB, loadB_lst xs b n, lstB, lstB, h, List.filter_append, loadOf, loadOf, List.map_append, List.sum_append]
    cases hb : bitAt b n <;> simp [hb]
theorem loadB_bound {xs : List Int} (hw : ∀ y ∈ xs, 1 ≤ y ∧ y ≤ 500) (b : Nat) : ∀ k, 0 ≤ loadB xs b k ∧ loadB xs b k ≤ 500 * k
  | 0 => by simp [loadB]
  | k + 1 => by
    have h := loadB_bound hw b k
    have hg : 0 ≤ xs.getD k 0 ∧ xs.getD k 0 ≤ 500 := by
      by_cases hk : k < xs.length
      · rw [List.getD_eq_getElem?_getD, List.getElem?_eq_getElem hk]
        have := hw _ (List.getElem_mem hk)
        simp; omega
      · rw [List.getD_eq_getElem?_getD, List.getElem?_eq_none (by omega)]
        simp
    rw [loadB]
    generalize xs.getD k 0 = g at hg ⊢
    rw [show ((k + 1 : Nat) : Int) = (k : Int) + 1 by omega]
    cases bitAt b k
    · rw [if_neg Bool.false_ne_true]; omega
    · rw [if_pos rfl]; omega
def allLst (n : Nat) : Bool := (upLists n n).all fun l => (List.range (2 ^ n)).any fun b => decide (1 ≤ b) && lstB n b == l
theorem all_lst {n : Nat} (h : n ≤ 7) : allLst n = true := by
  have h0 : n = 0 ∨ n = 1 ∨ n = 2 ∨ n = 3 ∨ n = 4 ∨ n = 5 ∨ n = 6 ∨ n = 7 := by omega
  rcases h0 with rfl | rfl | rfl | rfl | rfl | rfl | rfl | rfl <;> decide +kernel
theorem lst_up {n : Nat} (h : n ≤ 7) {l : List Int} (hl : l ∈ upLists n n) : ∃ b, 1 ≤ b ∧ b < 2 ^ n ∧ lstB n b = l := by
  have h1 := List.all_eq_true.1 (all_lst h) l hl
  obtain ⟨b, hb, he⟩ := List.any_eq_true.1 h1
  simp only [Bool.and_eq_true, decide_eq_true_eq, beq_iff_eq] at he
  exact ⟨b, he.1, List.mem_range.1 hb, he.2⟩
/-- The least number for which something is so, of those for 1 .. k; -1 if it is for none. -/
def bestB (P : Int → Bool) (f : Nat → Int) : Nat → Int
  | 0 => -1
  | k + 1 => if 0 ≤ bestB P f k ∧ bestB P f k ≤ f (k + 1) then bestB P f k else if P (f (k + 1)) then f (k + 1) else bestB P f k
theorem bestB_is {P : Int → Bool} {f : Nat → Int} (hf : ∀ b, 0 ≤ f b) : ∀ k, (bestB P f k = -1 ∧ ∀ b, 1 ≤ b → b ≤ k → P (f b) = false) ∨ ((∃ b, 1 ≤ b ∧ b ≤ k ∧ P (f b) = true ∧ bestB P f k = f b) ∧ ∀ b, 1 ≤ b → b ≤ k → P (f b) = true → bestB P f k ≤ f b)
  | 0 => .inl ⟨rfl, fun b h1 h2 => by omega⟩
  | k + 1 => by
    have hs := hf (k + 1)
    rcases bestB_is (P := P) hf k with ⟨h1, h2⟩ | ⟨⟨b, hb1, hb2, hb3, hb4⟩, h2⟩
    · cases hp : P (f (k + 1))
      · refine .inl ⟨?_, fun b h3 h4 => ?_⟩
        · rw [bestB, h1, hp, if_neg (by omega)]; rfl
        · rcases Nat.lt_succ_iff_lt_or_eq.1 (Nat.lt_succ_of_le h4) with h5 | rfl
          · exact h2 b h3 (by omega)
          · exact hp
      · have he : bestB P f (k + 1) = f (k + 1) := by rw [bestB, h1, hp, if_neg (by omega)]; rfl
        refine .inr ⟨⟨k + 1, by omega, Nat.le_refl _, hp, he⟩, fun b h3 h4 h5 => ?_⟩
        rcases Nat.lt_succ_iff_lt_or_eq.1 (Nat.lt_succ_of_le h4) with h6 | rfl
        · rw [h2 b h3 (by omega)] at h5; cases h5
        · rw [he]; exact Int.le_refl _
    · have h0 : 0 ≤ bestB P f k := by rw [hb4]; exact hf b
      refine .inr ?_
      by_cases hle : bestB P f k ≤ f (k + 1)
      · have he : bestB P f (k + 1) = bestB P f k := by rw [bestB, if_pos ⟨h0, hle⟩]
        refine ⟨⟨b, hb1, by omega, hb3, by rw [he]; exact hb4⟩, fun c h3 h4 h5 => ?_⟩
        rw [he]
        rcases Nat.lt_succ_iff_lt_or_eq.1 (Nat.lt_succ_of_le h4) with h6 | rfl
        · exact h2 c h3 (by omega) h5
        · exact hle
      · cases hp : P (f (k + 1))
        · have he : bestB P f (k + 1) = bestB P f k := by rw [bestB, if_neg (fun h => hle h.2), hp]; rfl
          refine ⟨⟨b, hb1, by omega, hb3, by rw [he]; exact hb4⟩, fun c h3 h4 h5 => ?_⟩
          rw [he]
          rcases Nat.lt_succ_iff_lt_or_eq.1 (Nat.lt_succ_of_le h4) with h6 | rfl
          · exact h2 c h3 (by omega) h5
          · rw [hp] at h5; cases h5
        · have he : bestB P f (k + 1) = f (k + 1) := by rw [bestB, if_neg (fun h => hle h.2), hp]; rfl
          refine ⟨⟨k + 1, by omega, Nat.le_refl _, hp, he⟩, fun c h3 h4 h5 => ?_⟩
          rw [he]
          rcases Nat.lt_succ_iff_lt_or_eq.1 (Nat.lt_succ_of_le h4) with h6 | rfl
          · have := h2 c h3 (by omega) h5; omega
          · exact Int.le_refl _
/-- What LeastMost comes to where somebody can row. -/
noncomputable def lmV (xs : List Int) (bs : List Bool) (n : Nat) : Int := bestB (planP xs bs n) (fun b => loadB xs b n) (2 ^ n - 1)
theorem lm_is {xs : List Int} {bs : List Bool} {m n : Nat} {s r : Int} (hok : CrewOk xs m s) (hx : xs.length = n) (h0 : 0 ≤ r) (h4 : r ≤ 4000) (hr : planP xs bs n r = true) (hno : ∀ q, 0 ≤ q → q < r → planP xs bs n q = false) : lmV xs bs n = r := by
  have h7 := hok.seven
  have hp : 1 ≤ 2 ^ n := Nat.one_le_two_pow
  have hf : ∀ b, 0 ≤ loadB xs b n := fun b => (loadB_bound hok.weights b n).1
  obtain ⟨l, hl, hle, hpl⟩ := plan_load (hok.with h0 h4) hx hr
  obtain ⟨b, hb1, hb2, hb3⟩ := lst_up (by omega) hl
  have hlb : loadB xs b n = loadOf xs l := by rw [loadB_lst, hb3]
  have hnl : loadOf xs l = r := by
    by_cases h : loadOf xs l < r
    · rw [hno _ (by rw [← hlb]; exact hf b) h] at hpl; cases hpl
    · omega
  rw [← hlb] at hpl hnl
  rcases bestB_is (P := planP xs bs n) hf (2 ^ n - 1) with ⟨-, h2⟩ | ⟨⟨c, hc1, hc2, hc3, hc4⟩, h2⟩
  · rw [h2 b hb1 (by omega)] at hpl; cases hpl
  · have h3 := h2 b hb1 (by omega) hpl
    rw [lmV, hc4]
    rw [hc4] at h3
    by_cases h : loadB xs c n < r
    · rw [hno _ (hf c) h] at hc3; cases hc3
    · have h3' : loadB xs c n ≤ loadB xs b n := h3
      show loadB xs c n = r
      omega
end Go.Proofs.Ytlpeimlbpiofkaa

namespace Go.Proofs.Ytlpeimlbpiofkaa
open Go.RowKit

set_option maxHeartbeats 6400000 in
set_option maxRecDepth 100000 in
set_option linter.unusedSimpArgs false in
set_option linter.unusedVariables false in
theorem lmAsk_any (A : Option Addr) (n kA : Nat) (B : Option Addr) (m d g : Nat) (xs : List Int) (bs : List Bool) (s q : Int) (w : World) (hg : Whole w g 57 #[.slice A n kA, .slice B m d, .int .i64 s]) (hA : Holds w A (nums xs)) (hB : Holds w B (bits bs)) (hx : xs.length = n) (hy : bs.length = m) (hok : CrewOk xs m q) (hkA : n ≤ kA) (hkB : kA ≤ 9223372036854775807) :
    Calls Try.prog 103 #[.int .i64 q, .pointer (some ⟨g, 0, none⟩)] w fun e w' => e = .returned (.bool (planP xs bs n q)) ∧ Below w.heap.size w w' := by
  have HX := Lib.hid hx
  have HY := Lib.hid hy
  have hn7 : n ≤ 7 := by have := hok.seven; omega
  have hn1 : 1 ≤ n := by have := hok.one; omega
  have hm8 : m ≤ 8 := by have := hok.rows; have := hok.seven; omega
  have HW := Lib.hid hok.weights
  have HSM := Lib.hid (crew_small (xs := xs) bs q (by omega))
  have HUP := Lib.hid (crew_up8 (xs := xs) (bs := bs) (s := q) (by omega))
  have HV : Hid (fewBW n (crewLists xs bs q) = planP xs bs n q) := by show _ = _; rw [fewBW, ones_cost hok hx, planP]
  obtain ⟨c0, c1, c2⟩ := hg.cells3
  have hlw := hg.lt
  clear hok hx hy
  obtain ⟨L, hL⟩ : ∃ L, L = crewLists xs bs q := ⟨_, rfl⟩
  have HL := Lib.hid hL
  rw [← HL.out] at HSM HUP HV
  clear hL
  go_enter Try.func103, Try.ntmps103
  go_wp2_with fail
  have hcr := crewRiverC_any A n kA B m d xs bs q w hA hB HX.out HY.out hn1 hn7 hm8 HW.out hkA hkB
  rw [← HL.out] at hcr
  refine hcr.mono ?_
  clear hcr
  rintro e w2 ⟨gL, g', E, c, rfl, hF, hb⟩
  have ht := hb
  clear hb c0 c1 c2 hlw
  have hfm := fewestMovesW_any (loadOf xs) n gL g' E c L w2 hn1 hn7 HSM.out HUP.out hF
  go_wp2_with fail
  refine hfm.mono ?_
  clear hfm
  rintro e w3 ⟨rfl, hb⟩
  replace ht := below_then ht hb ht.size
  clear hb hF
  rw [HV.out]
  go_wp2
  go_ret
  exact ⟨rfl, ht⟩
def lmFn (g : Nat) : Value := .func (.func 103) #[] #[.pointer (some ⟨g, 0, none⟩)]
set_option maxHeartbeats 6400000 in
set_option maxRecDepth 100000 in
set_option linter.unusedSimpArgs false in
set_option linter.unusedVariables false in
theorem lmSearch_any (A : Option Addr) (n kA : Nat) (B : Option Addr) (m d g N : Nat) (xs : List Int) (bs : List Bool) (s s0 : Int) (w : World) (hg : Whole w g 57 #[.slice A n kA, .slice B m d, .int .i64 s]) (hA : Holds w A (nums xs)) (hB : Holds w B (bits bs)) (hx : xs.length = n) (hy : bs.length = m) (hok : CrewOk xs m s0) (hkA : n ≤ kA) (hkB : kA ≤ 9223372036854775807) (hN : N ≤ 3500) :
    Calls Try.prog 102 #[.int .i64 (N : Int), lmFn g] w fun e w' => (∃ r : Nat, e = .returned (.int .i64 (r : Int)) ∧ r ≤ N ∧ (∀ q : Int, 0 ≤ q → q < r → planP xs bs n q = false) ∧ (r = N ∨ planP xs bs n r = true)) ∧ Below w.heap.size w w' := by
  have HG := Lib.hid hg
  have HA := Lib.hid hA
  have HB := Lib.hid hB
  have HX := Lib.hid hx
  have HY := Lib.hid hy
  have HOK := Lib.hid hok
  clear hg hA hB hx hy hok
  unfold lmFn
  go_enter Try.func102, Try.ntmps102
  go_wp2
  go_loopw [5, 6] (fun i j wr => ∃ a b : Nat, a ≤ b ∧ b ≤ N ∧ i = .int .i64 a ∧ j = .int .i64 b ∧ (∀ q : Int, 0 ≤ q → q < a → planP xs bs n q = false) ∧ (b = N ∨ planP xs bs n b = true) ∧ Below w.heap.size w wr) (fun i j _ => (intOf j).toNat - (intOf i).toNat)
  case atStart => exact ⟨0, N, Nat.zero_le _, Nat.le_refl _, rfl, rfl, fun q h1 h2 => by omega, .inl rfl, Below.refl _ _⟩
  case round =>
    obtain ⟨a, b, hab, hbN, rfl, rfl, hlow, hhi, ht⟩ := hrel
    obtain ⟨wo, rfl⟩ : ∃ X : World, X = wr := ⟨_, rfl⟩
    by_cases hlt : a < b
    · have hd1 : decide ((a : Int) < (b : Int)) = true := by simp; omega
      have HLOW := Lib.hid hlow
      have HHI := Lib.hid hhi
      have HT := Lib.hid ht
      obtain ⟨h, hh⟩ : ∃ h, (a + b) / 2 = h := ⟨_, rfl⟩
      have hah : a ≤ h := by omega
      have hhb : h < b := by omega
      have hh2 : ((a : Int) + (b : Int)) / 2 = (h : Int) := by omega
      clear hlow hhi ht
      go_wp2_with fail
      refine (lmAsk_any A n kA B m d g xs bs s (h : Int) _ (HG.out.below HT.out) (HA.out.below HT.out) (HB.out.below HT.out) HX.out HY.out (HOK.out.with (by omega) (by omega)) hkA hkB).mono ?_
      rintro e w2 ⟨rfl, hb⟩
      have ht2 := below_then HT.out hb HT.out.size
      clear hb HT
      cases hp : planP xs bs n (h : Int)
      · have HP := Lib.hid hp
        clear hp
        go_wp2
        go_roundw
        case rel =>
          refine ⟨h + 1, b, by omega, hbN, by go_num, rfl, fun q h1 h2 => ?_, HHI.out, ht2⟩
          cases hq : planP xs bs n q
          · rfl
          · have h3 := plan_wider (HOK.out.with (s' := q) h1 (by omega)) (HOK.out.with (s' := (h : Int)) (by omega) (by omega)) HX.out (by omega) hq
            rw [HP.out] at h3; cases h3
        case measure => simp [intOf]; omega
      · have HP := Lib.hid hp
        clear hp
        go_wp2
        go_roundw
        case rel => exact ⟨a, h, hah, by omega, rfl, rfl, HLOW.out, .inr HP.out, ht2⟩
        case measure => simp [intOf]; omega
    · obtain rfl : a = b := by omega
      have hd1 : decide ((a : Int) < (a : Int)) = false := by simp
      have HLOW := Lib.hid hlow
      have HHI := Lib.hid hhi
      have HT := Lib.hid ht
      clear hlow hhi ht
      go_wp2
      go_ret
      exact ⟨⟨a, rfl, hbN, HLOW.out, HHI.out⟩, HT.out⟩
end Go.Proofs.Ytlpeimlbpiofkaa

namespace Go.Proofs.Ytlpeimlbpiofkaa
open Go.RowKit

noncomputable def lmOk (xs : List Int) (bs : List Bool) (m : Nat) (s : Int) : Bool := isCrew xs m s && bs.any (fun b => b)
noncomputable def lmN (xs : List Int) (bs : List Bool) (m : Nat) (s : Int) : Int := if lmOk xs bs m s then lmV xs bs xs.length else 0
theorem lm_no {xs : List Int} {bs : List Bool} {m : Nat} {s : Int} (h : (isCrew xs m s && bs.any (fun b => b)) = false) : lmN xs bs m s = 0 ∧ lmOk xs bs m s = false := ⟨by rw [lmN, lmOk, h]; rfl, h⟩
theorem lm_yes {xs : List Int} {bs : List Bool} {m n : Nat} {s : Int} (hx : xs.length = n) (h : isCrew xs m s = true) (h2 : bs.any (fun b => b) = true) : lmN xs bs m s = lmV xs bs n ∧ lmOk xs bs m s = true := by subst hx; have h3 : lmOk xs bs m s = true := (by rw [lmOk, h, h2]; rfl); exact ⟨by rw [lmN, h3]; rfl, h3⟩
theorem lm_bit (b k : Nat) (h : b < 1048576) : (Go.bits BinOp.and IntKind.i64 ((b : Int) / 2 ^ k) 1 == 1) = bitAt b k := by
  have h1 : b / 2 ^ k ≤ b := Nat.div_le_self _ _
  rw [shr_nat, show (1 : Int) = ((1 : Nat) : Int) from rfl, bits_and_nat _ 1 (by omega) (by omega), Nat.and_one_is_mod, bitAt_def]
  generalize b / 2 ^ k = y
  by_cases h : y % 2 = 1
  · simp [h]
  · have : y % 2 = 0 := by omega
    simp [this]
theorem any_next {bs : List Bool} {k : Nat} (hk : k < bs.length) : (bs.take (k + 1)).any (fun b => b) = ((bs.take k).any (fun b => b) || bs[k]) := by
  rw [List.take_succ_eq_append_getElem hk, List.any_append]; simp

set_option maxHeartbeats 6400000 in
set_option maxRecDepth 100000 in
set_option linter.unusedSimpArgs false in
set_option linter.unusedVariables false in
theorem specLm_any (A : Option Addr) (n c : Nat) (B : Option Addr) (m d : Nat) (xs : List Int) (bs : List Bool) (s : Int) (w : World) (hA : Holds w A (nums xs)) (hB : Holds w B (bits bs)) (hx : xs.length = n) (hy : bs.length = m) (hn : n ≤ 9223372036854775807) (hm : m ≤ 9223372036854775807) :
    Calls Try.prog 48 #[.agg #[.slice A n c, .slice B m d, .int .i64 s]] w fun e w' => e = .returned (.tuple #[.int .i64 (lmN xs bs m s), .bool (lmOk xs bs m s)]) ∧ Below w.heap.size w w' := by
  have HX := Lib.hid hx
  have HY := Lib.hid hy
  have HA := Lib.hid hA
  have HB := Lib.hid hB
  have hc := Whole.fresh w 57 #[.slice A n c, .slice B m d, .int .i64 s]
  have ht := below1 w (.cells #[.slice A n c, .slice B m d, .int .i64 s] 57)
  obtain ⟨c0, c1, c2⟩ := hc.cells3
  have hlg := loGood_any A n c B m d xs s _ (hA.below ht) HX.out hn
  cases h1 : isCrew xs m s
  · have HV : Hid (lmN xs bs m s = 0 ∧ lmOk xs bs m s = false) := lm_no (by rw [h1]; rfl)
    have H1 := Lib.hid h1
    clear h1 hA hB hx hy
    go_enter Try.func48, Try.ntmps48
    go_wp2_with fail
    refine hlg.mono ?_
    clear hlg
    rintro e w1 ⟨rfl, hb⟩
    rw [H1.out]
    replace ht := below_then ht hb (by simp)
    clear hb hc c0 c1 c2
    go_wp2
    go_ret2
    exact ⟨by rw [HV.out.1, HV.out.2]; rfl, ht⟩
  · have HOK := Lib.hid (isCrew_ok h1)
    have H1 := Lib.hid h1
    have hn7 : n ≤ 7 := by have := HOK.out.seven; omega
    have hm7 : m ≤ 7 := by have := HOK.out.rows; omega
    clear h1 hA hB hx hy
    go_enter Try.func48, Try.ntmps48
    go_wp2_with fail
    refine hlg.mono ?_
    clear hlg
    rintro e w1 ⟨rfl, hb⟩
    rw [H1.out]
    replace ht := below_then ht hb (by simp)
    replace hc := hc.below hb
    clear hb c0 c1 c2
    obtain ⟨c0, c1, c2⟩ := hc.cells3
    have hlc := hc.lt
    have hB1 := HB.out.below ht
    go_wp2
    go_loop [4, 18] (fun r i => ∃ k : Nat, k ≤ m ∧ i = .int .i64 k ∧ r = .bool ((bs.take k).any (fun b => b))) (fun _ i => m - (intOf i).toNat)
    case atStart => exact ⟨0, Nat.zero_le _, rfl, by simp⟩
    case round =>
      obtain ⟨k, hk, rfl, rfl⟩ := hrel
      by_cases hlt : k < m
      · have hlt2 : k < bs.length := by rw [HY.out]; exact hlt
        obtain ⟨b, o, rfl, hbk, hcell⟩ := hB1.look (k := k) (by simpa [bits] using hlt2)
        simp only [bits, List.getElem_map] at hcell
        have HN := Lib.hid (any_next hlt2)
        have hd1 : decide ((k : Int) < (m : Int)) = true := by simp; omega
        generalize bs[k] = v at hcell HN
        generalize (bs.take k).any (fun b => b) = r at HN ⊢
        clear hlt2 hB1
        cases r
        · go_wp2
          go_round
          case rel => exact ⟨k + 1, by omega, by go_num, by rw [HN.out]; simp⟩
          case measure => simp [intOf]; omega
        · go_wp2
          go_round
          case rel => exact ⟨k + 1, by omega, by go_num, by rw [HN.out]; simp⟩
          case measure => simp [intOf]; omega
      · obtain rfl : k = m := by omega
        have hd1 : decide ((k : Int) < (k : Int)) = false := by simp
        have htk : bs.take k = bs := List.take_of_length_le (by rw [HY.out]; exact Nat.le_refl _)
        rw [htk]
        clear hB1 htk hlt hk
        cases hr : bs.any (fun b => b)
        · have HV : Hid (lmN xs bs k s = 0 ∧ lmOk xs bs k s = false) := lm_no (by rw [hr, Bool.and_false])
          clear hr c0 c1 c2 hlc hc
          go_wp2
          go_ret2
          exact ⟨by rw [HV.out.1, HV.out.2]; rfl, ht⟩
        · have HV : Hid (lmN xs bs k s = lmV xs bs n ∧ lmOk xs bs k s = true) := lm_yes HX.out H1.out hr
          have hp1 : 1 ≤ 2 ^ n := Nat.one_le_two_pow
          have hp2 : 2 ^ n ≤ 128 := Nat.le_trans (Nat.pow_le_pow_right (by omega) hn7) (by decide)
          have HC0 := Lib.hid hc
          have HT0 := Lib.hid ht
          clear hr c0 c1 c2 hlc hc ht
          go_wp2
          go_loopw [7, 8] (fun v i wr => ∃ b : Nat, b + 1 ≤ 2 ^ n ∧ i = .int .i64 ((b + 1 : Nat) : Int) ∧ v = .int .i64 (bestB (planP xs bs n) (fun b => loadB xs b n) b) ∧ Whole wr w.heap.size 57 #[.slice A n c, .slice B k d, .int .i64 s] ∧ Below w.heap.size w wr) (fun _ i _ => 2 ^ n - (intOf i).toNat)
          case atStart => exact ⟨0, hp1, rfl, rfl, HC0.out, HT0.out⟩
          case round =>
            clear HC0 HT0
            obtain ⟨b, hb, rfl, rfl, hc, ht⟩ := hrel
            obtain ⟨wo, rfl⟩ : ∃ X : World, X = wr := ⟨_, rfl⟩
            obtain ⟨c0, c1, c2⟩ := hc.cells3
            have hlc := hc.lt
            obtain ⟨i, hi⟩ : ∃ i : Nat, b + 1 = i := ⟨_, rfl⟩
            obtain ⟨v, hv⟩ : ∃ v, bestB (planP xs bs n) (fun b => loadB xs b n) b = v := ⟨_, rfl⟩
            have HI := Lib.hid hi
            have HVB := Lib.hid hv
            obtain ⟨P, hP⟩ : ∃ P : Nat, 2 ^ n = P := ⟨_, rfl⟩
            rw [hi, hv]
            by_cases hlt : i < P
            · have hd1 : decide ((i : Int) < (P : Int)) = true := by simp; omega
              have hshl : IntKind.i64.wrap ((2 : Int) ^ n) = (P : Int) := by rw [show (2 : Int) ^ n = ((2 ^ n : Nat) : Int) by push_cast; rfl, hP]; exact IntWalk.i64_in _ (by omega)
              have HC := Lib.hid hc
              have HT := Lib.hid ht
              clear hc ht hv hi
              have hA1 := HA.out.below HT.out
              go_wp2
              go_loop [9, 40] (fun t j => ∃ y : Nat, y ≤ n ∧ j = .int .i64 y ∧ t = .int .i64 (loadB xs i y)) (fun _ j => n - (intOf j).toNat)
              case atStart => exact ⟨0, Nat.zero_le _, rfl, rfl⟩
              case round =>
                obtain ⟨y, hyn, rfl, rfl⟩ := hrel
                by_cases hly : y < n
                · have hl2 : y < xs.length := by rw [HX.out]; exact hly
                  obtain ⟨b', o', rfl, hbk, hcell⟩ := hA1.look (k := y) (by simpa [nums] using hl2)
                  simp only [nums, List.getElem_map] at hcell
                  have hxb := HOK.out.weights _ (List.getElem_mem hl2)
                  have HN : Hid (loadB xs i (y + 1) = loadB xs i y + if bitAt i y then xs[y] else 0) := by show _ = _; rw [loadB, List.getD_eq_getElem?_getD, List.getElem?_eq_getElem hl2]; rfl
                  have hlb := loadB_bound HOK.out.weights i y
                  have hbit := lm_bit i y (by omega)
                  have hdy : decide ((y : Int) < (n : Int)) = true := by simp; omega
                  generalize xs[y] = x at hcell hxb HN
                  generalize loadB xs i y = L at HN hlb ⊢
                  obtain ⟨hlb0, hlb1⟩ := hlb
                  obtain ⟨hx0, hx1⟩ := hxb
                  clear hl2 hA1
                  cases hbv : bitAt i y
                  · rw [hbv] at hbit HN
                    clear hbv
                    go_wp2
                    go_round
                    case rel => exact ⟨y + 1, by omega, by go_num, by rw [HN.out]; simp⟩
                    case measure => simp [intOf]; omega
                  · rw [hbv] at hbit HN
                    clear hbv
                    go_wp2
                    go_round
                    case rel => exact ⟨y + 1, by omega, by go_num, by rw [HN.out]; simp⟩
                    case measure => simp [intOf]; omega
                · obtain rfl : y = n := by omega
                  have hdy : decide ((y : Int) < (y : Int)) = false := by simp
                  have hMb := loadB_bound HOK.out.weights i y
                  have HNB : Hid (bestB (planP xs bs y) (fun b => loadB xs b y) i = if 0 ≤ v ∧ v ≤ loadB xs i y then v else if planP xs bs y (loadB xs i y) = true then loadB xs i y else v) := by show _ = _; rw [← HI.out, bestB, HVB.out]
                  generalize loadB xs i y = M at hMb HNB ⊢
                  have hM0 := hMb.1
                  have hM1 : M ≤ 4000 := by omega
                  have hM9 : M ≤ 3500 := by omega
                  clear hMb hA1
                  by_cases hv0 : 0 ≤ v
                  · by_cases hle : v ≤ M
                    · have HN2 := Lib.hid (HNB.out.trans (if_pos ⟨hv0, hle⟩))
                      clear HNB
                      go_wp2
                      go_roundw
                      case rel => exact ⟨i, by omega, by go_num, by rw [HN2.out], HC.out, HT.out⟩
                      case measure => simp [intOf]; omega
                    · replace HNB := Lib.hid (HNB.out.trans (if_neg (fun h => hle h.2)))
                      go_wp2_with fail
                      refine (loLeast_any A y c B k d xs bs M false _ (HA.out.below HT.out) (HB.out.below HT.out) HX.out HY.out (HOK.out.with hM0 hM1)).mono ?_
                      rintro e w2 ⟨rfl, hb2⟩
                      have hlo : decide (0 ≤ loV xs bs M false y) = planP xs bs y M := lo_some (HOK.out.with hM0 hM1) HX.out
                      have ht2 := below_then HT.out hb2 HT.out.size
                      have hc2 := HC.out.below hb2
                      clear hb2 c0 c1 c2 hlc HT HC
                      generalize planP xs bs y M = pb at hlo HNB
                      generalize loV xs bs M false y = u at hlo ⊢
                      cases pb
                      · have HN2 := Lib.hid (HNB.out.trans (if_neg Bool.false_ne_true))
                        clear HNB
                        have hu : ¬ 0 ≤ u := of_decide_eq_false hlo
                        go_wp2
                        go_roundw
                        case rel => exact ⟨i, by omega, by go_num, by rw [HN2.out], hc2, ht2⟩
                        case measure => simp [intOf]; omega
                      · have HN2 := Lib.hid (HNB.out.trans (if_pos rfl))
                        clear HNB
                        have hu : 0 ≤ u := of_decide_eq_true hlo
                        go_wp2
                        go_roundw
                        case rel => exact ⟨i, by omega, by go_num, by rw [HN2.out], hc2, ht2⟩
                        case measure => simp [intOf]; omega
                  · replace HNB := Lib.hid (HNB.out.trans (if_neg (fun h => hv0 h.1)))
                    go_wp2_with fail
                    refine (loLeast_any A y c B k d xs bs M false _ (HA.out.below HT.out) (HB.out.below HT.out) HX.out HY.out (HOK.out.with hM0 hM1)).mono ?_
                    rintro e w2 ⟨rfl, hb2⟩
                    have hlo : decide (0 ≤ loV xs bs M false y) = planP xs bs y M := lo_some (HOK.out.with hM0 hM1) HX.out
                    have ht2 := below_then HT.out hb2 HT.out.size
                    have hc2 := HC.out.below hb2
                    clear hb2 c0 c1 c2 hlc HT HC
                    generalize planP xs bs y M = pb at hlo HNB
                    generalize loV xs bs M false y = u at hlo ⊢
                    cases pb
                    · have HN2 := Lib.hid (HNB.out.trans (if_neg Bool.false_ne_true))
                      clear HNB
                      have hu : ¬ 0 ≤ u := of_decide_eq_false hlo
                      go_wp2
                      go_roundw
                      case rel => exact ⟨i, by omega, by go_num, by rw [HN2.out], hc2, ht2⟩
                      case measure => simp [intOf]; omega
                    · have HN2 := Lib.hid (HNB.out.trans (if_pos rfl))
                      clear HNB
                      have hu : 0 ≤ u := of_decide_eq_true hlo
                      go_wp2
                      go_roundw
                      case rel => exact ⟨i, by omega, by go_num, by rw [HN2.out], hc2, ht2⟩
                      case measure => simp [intOf]; omega
            · obtain rfl : i = P := by omega
              have hd1 : decide ((i : Int) < (i : Int)) = false := by simp
              have hshl : IntKind.i64.wrap ((2 : Int) ^ n) = (i : Int) := by rw [show (2 : Int) ^ n = ((2 ^ n : Nat) : Int) by push_cast; rfl, hP]; exact IntWalk.i64_in _ (by omega)
              have HLV : Hid (lmV xs bs n = v) := by show bestB _ _ (2 ^ n - 1) = v; rw [hP, show i - 1 = b by omega]; exact HVB.out
              have HT := Lib.hid ht
              clear hc ht hv hi
              go_wp2
              go_ret2
              exact ⟨by rw [HV.out.1, HV.out.2, HLV.out]; rfl, HT.out⟩
end Go.Proofs.Ytlpeimlbpiofkaa

namespace Go.Proofs.Ytlpeimlbpiofkaa
open Go.RowKit

theorem firsts_crowd {n : Nat} (h : n ≤ 7) : (#[.bool (firstN n 0), .bool (firstN n 1), .bool (firstN n 2), .bool (firstN n 3), .bool (firstN n 4), .bool (firstN n 5), .bool (firstN n 6), .bool (firstN n 7)] : Array Value) = crowdCells (firsts n) := by
  have h0 : n = 0 ∨ n = 1 ∨ n = 2 ∨ n = 3 ∨ n = 4 ∨ n = 5 ∨ n = 6 ∨ n = 7 := by omega
  rcases h0 with rfl | rfl | rfl | rfl | rfl | rfl | rfl | rfl <;> rfl

set_option maxHeartbeats 6400000 in
set_option maxRecDepth 100000 in
set_option linter.unusedSimpArgs false in
set_option linter.unusedVariables false in
theorem implLm_any (A : Option Addr) (n kA : Nat) (B : Option Addr) (m d : Nat) (xs : List Int) (bs : List Bool) (s : Int) (w : World) (hA : Holds w A (nums xs)) (hB : Holds w B (bits bs)) (hx : xs.length = n) (hy : bs.length = m) (hn : n ≤ 9223372036854775807) (hm : m ≤ 9223372036854775807) (hkA : n ≤ kA) (hkB : kA ≤ 9223372036854775807) :
    Calls Try.prog 49 #[.agg #[.slice A n kA, .slice B m d, .int .i64 s]] w fun e w' => e = .returned (.tuple #[.int .i64 (lmN xs bs m s), .bool (lmOk xs bs m s)]) ∧ Below w.heap.size w w' := by
  have HX := Lib.hid hx
  have HY := Lib.hid hy
  have HA := Lib.hid hA
  have HB := Lib.hid hB
  have hc := Whole.fresh w 57 #[.slice A n kA, .slice B m d, .int .i64 s]
  have ht := below1 w (.cells #[.slice A n kA, .slice B m d, .int .i64 s] 57)
  have hic := isCrew_any A n kA B m d xs s _ (hA.below ht) HX.out hn
  obtain ⟨c0, c1, c2⟩ := hc.cells3
  have hlw := hc.lt
  cases h1 : isCrew xs m s
  · have HV : Hid (lmN xs bs m s = 0 ∧ lmOk xs bs m s = false) := lm_no (by rw [h1]; rfl)
    have H1 := Lib.hid h1
    clear h1 hA hB hx hy
    go_enter Try.func49, Try.ntmps49
    go_wp2_with fail
    refine hic.mono ?_
    clear hic
    rintro e w1 ⟨rfl, hb⟩
    rw [H1.out]
    replace ht := below_then ht hb (by simp)
    clear hb hc c0 c1 c2 hlw
    go_wp2
    go_ret2
    exact ⟨by rw [HV.out.1, HV.out.2]; rfl, ht⟩
  · have HOK := Lib.hid (isCrew_ok h1)
    have hn7 : n ≤ 7 := by have := HOK.out.seven; omega
    have hn1 : 1 ≤ n := by have := HOK.out.one; omega
    have HYN : Hid (bs.length = n) := by show _ = _; have := HOK.out.rows; omega
    have H1 := Lib.hid h1
    have HAN : Hid (bs.any (· == true) = bs.any (fun b => b)) := by show _ = _; congr 1; funext b; cases b <;> rfl
    cases hr : bs.any (fun b => b)
    · have HV : Hid (lmN xs bs m s = 0 ∧ lmOk xs bs m s = false) := lm_no (by rw [hr, Bool.and_false])
      have HR := Lib.hid hr
      clear h1 hr hA hB hx hy
      go_enter Try.func49, Try.ntmps49
      go_wp2_with fail
      refine hic.mono ?_
      clear hic
      rintro e w1 ⟨rfl, hb⟩
      rw [H1.out]
      replace ht := below_then ht hb (by simp)
      replace hc := hc.below hb
      clear hb c0 c1 c2 hlw
      obtain ⟨c0, c1, c2⟩ := hc.cells3
      have hlw := hc.lt
      go_wp2_with fail
      refine (containsB_any B m d bs true _ (HB.out.below ht) HY.out hm).mono ?_
      rintro e w2 ⟨rfl, rfl⟩
      rw [HAN.out, HR.out]
      clear hc c0 c1 c2 hlw
      go_wp2
      go_ret2
      exact ⟨by rw [HV.out.1, HV.out.2]; rfl, ht⟩
    · have HV : Hid (lmN xs bs m s = lmV xs bs n ∧ lmOk xs bs m s = true) := lm_yes HX.out h1 hr
      have HR := Lib.hid hr
      have hld := loadOf_bound HOK.out.weights (firsts n)
      rw [firsts_len] at hld
      obtain ⟨N, hNN⟩ : ∃ N : Nat, loadOf xs (firsts n) = (N : Int) := ⟨(loadOf xs (firsts n)).toNat, by omega⟩
      have hN : N ≤ 3500 := by omega
      have HPA : Hid (planP xs bs n (N : Int) = true) := plan_all (HOK.out.with (by omega) (by omega)) HX.out HYN.out hr (by omega)
      have HNN := Lib.hid hNN
      have HST := Lib.hid (mem_up.1 (firsts_up hn1)).1
      have HIN : Hid (∀ y ∈ firsts n, 0 ≤ y ∧ y < (n : Int)) := fun y hy => by have := firsts_mem hy; omega
      have HPT := Lib.hid (place_trues n true)
      have HLI : Hid (∀ W, Calls Try.prog 72 #[.agg #[.bool (firstN n 0), .bool (firstN n 1), .bool (firstN n 2), .bool (firstN n 3), .bool (firstN n 4), .bool (firstN n 5), .bool (firstN n 6), .bool (firstN n 7)]] W (OwnPost (firsts n) W)) := fun W => by rw [firsts_crowd hn7]; exact list_any (firsts n) ((n : Int) - 1) W HST.out (by omega)
      have hfd : ∀ W, (Instr.field 75 (.agg #[.bool (firstN n 0), .bool (firstN n 1), .bool (firstN n 2), .bool (firstN n 3), .bool (firstN n 4), .bool (firstN n 5), .bool (firstN n 6), .bool (firstN n 7), .bool true]) 0).run Try.prog W = .ok (.agg #[.bool (firstN n 0), .bool (firstN n 1), .bool (firstN n 2), .bool (firstN n 3), .bool (firstN n 4), .bool (firstN n 5), .bool (firstN n 6), .bool (firstN n 7)]) W := fun _ => by kernel_rfl
      clear h1 hr hA hB hx hy hNN hld
      go_enter Try.func49, Try.ntmps49
      go_wp2_with fail
      refine hic.mono ?_
      clear hic
      rintro e w1 ⟨rfl, hb⟩
      rw [H1.out]
      replace ht := below_then ht hb (by simp)
      replace hc := hc.below hb
      clear hb c0 c1 c2 hlw
      obtain ⟨c0, c1, c2⟩ := hc.cells3
      have hlw := hc.lt
      go_wp2_with fail
      refine (containsB_any B m d bs true _ (HB.out.below ht) HY.out hm).mono ?_
      rintro e w2 ⟨rfl, rfl⟩
      rw [HAN.out, HR.out]
      go_upto_region 3 with fail
      clear c0 c1 c2 hlw
      go_wp2_with fail
      refine wp_region_held_drew (S := (fun w' => Box3 w.heap.size (.slice A n kA) (.slice B m d) (.int .i64 s) w')) (by kernel_rfl) (box3_of hc.drew) (fun hHeld => ?_)
      replace hc := hc.drew
      replace ht := ht.drew
      generalize World.drew w1 = wd0 at hc ht hHeld ⊢
      refine wpAnyH_take (i := 0) (v := ?_) rfl (by kernel_rfl) (by kernel_rfl) (by kernel_rfl) (fun _ _ _ h => h) (Or.inl ⟨rfl, ?_⟩) hHeld ?_
      rotate_left
      · intro w' hS; obtain ⟨c0, c1, c2⟩ := hS; go_simp <;> with_reducible rfl
      simp only [Act.put, List.getElem_toArray, List.getElem_cons_succ, List.getElem_cons_zero, List.setIfInBounds_toArray, List.set_cons_succ, List.set_cons_zero]
      refine wpAnyH_take (i := 2) (v := ?_) rfl (by kernel_rfl) (by kernel_rfl) (by kernel_rfl) (fun _ _ _ h => h) (Or.inl ⟨rfl, ?_⟩) hHeld ?_
      rotate_left
      · intro w' hS; obtain ⟨c0, c1, c2⟩ := hS; go_simp <;> with_reducible rfl
      simp only [Act.put, List.getElem_toArray, List.getElem_cons_succ, List.getElem_cons_zero, List.setIfInBounds_toArray, List.set_cons_succ, List.set_cons_zero]
      refine wpAnyH_take (i := 3) (v := ?_) rfl (by kernel_rfl) (by kernel_rfl) (by kernel_rfl) (fun _ _ _ h => h) (Or.inl ⟨rfl, ?_⟩) hHeld ?_
      rotate_left
      · intro w' hS; obtain ⟨c0, c1, c2⟩ := hS; go_simp <;> with_reducible rfl
      simp only [Act.put, List.getElem_toArray, List.getElem_cons_succ, List.getElem_cons_zero, List.setIfInBounds_toArray, List.set_cons_succ, List.set_cons_zero]
      refine wpAnyH_take (i := 4) (v := ?_) rfl (by kernel_rfl) (by kernel_rfl) (by kernel_rfl) (fun _ _ _ h => h) (Or.inl ⟨rfl, ?_⟩) hHeld ?_
      rotate_left
      · intro w' hS; obtain ⟨c0, c1, c2⟩ := hS; go_simp <;> with_reducible rfl
      simp only [Act.put, List.getElem_toArray, List.getElem_cons_succ, List.getElem_cons_zero, List.setIfInBounds_toArray, List.set_cons_succ, List.set_cons_zero]
      refine wpAnyH_ready (rs := [1]) (by kernel_rfl) (by simp) (AllReadyH.cons rfl (fun K hK => ?_) AllReadyH.nil)
      go_simp
      refine (loader_any A n kA B m d s _ hn7 hkA hkB).mono ?_
      rintro e9 wa ⟨g, rfl, hga, hg, hb⟩
      replace hc := hc.below hb
      replace ht := below_then ht hb ht.size
      clear hb
      refine hK.out _ _ (box3_of hc) (fun hHeld => ?_)
      clear hK K
      try simp only [Act.put, List.getElem_toArray, List.getElem_cons_succ, List.getElem_cons_zero, List.setIfInBounds_toArray, List.set_cons_succ, List.set_cons_zero]
      refine wpAnyH_ready (rs := [5]) (by kernel_rfl) (by simp) (AllReadyH.cons rfl (fun K hK => ?_) AllReadyH.nil)
      go_simp
      refine (everybodyOver_any n _ (by omega)).mono ?_
      rintro e9 wb ⟨rfl, hb⟩
      rw [HPT.out]
      replace hc := hc.below hb
      replace ht := below_then ht hb ht.size
      replace hg := hg.below hb
      clear hb
      unfold place9
      refine hK.out _ _ (box3_of hc) (fun hHeld => ?_)
      clear hK K
      try simp only [Act.put, List.getElem_toArray, List.getElem_cons_succ, List.getElem_cons_zero, List.setIfInBounds_toArray, List.set_cons_succ, List.set_cons_zero]
      refine wpAnyH_take (i := 6) (v := .agg #[.bool (firstN n 0), .bool (firstN n 1), .bool (firstN n 2), .bool (firstN n 3), .bool (firstN n 4), .bool (firstN n 5), .bool (firstN n 6), .bool (firstN n 7)]) rfl (by kernel_rfl) (by kernel_rfl) (by kernel_rfl) (fun _ _ _ h => h) (Or.inl ⟨rfl, by intro w' hS; go_simp⟩) hHeld ?_
      simp only [Act.put, List.getElem_toArray, List.getElem_cons_succ, List.getElem_cons_zero, List.setIfInBounds_toArray, List.set_cons_succ, List.set_cons_zero]
      refine wpAnyH_ready (rs := [7]) (by kernel_rfl) (by simp) (AllReadyH.cons rfl (fun K hK => ?_) AllReadyH.nil)
      go_simp
      refine (HLI.out _).mono ?_
      rintro e9 wd ⟨D, cD, rfl, hown, hb⟩
      have hD := (Fresh.of_own' hown).holds
      replace hc := hc.below hb
      replace ht := below_then ht hb ht.size
      replace hg := hg.below hb
      clear hown hb
      refine hK.out _ _ (box3_of hc) (fun hHeld => ?_)
      clear hK K
      try simp only [Act.put, List.getElem_toArray, List.getElem_cons_succ, List.getElem_cons_zero, List.setIfInBounds_toArray, List.set_cons_succ, List.set_cons_zero]
      refine wpAnyH_ready (rs := [8]) (by kernel_rfl) (by simp) (AllReadyH.cons rfl (fun K hK => ?_) AllReadyH.nil)
      unfold loadFn
      go_simp
      refine (loadFn_any A n n g xs D _ cD (firsts n) _ hg (by exact HA.out.below ht) hD HX.out rfl hn7 (by rw [firsts_len]; omega) HOK.out.weights HIN.out (by rw [firsts_len]; omega)).mono ?_
      rintro e9 we ⟨rfl, hb⟩
      rw [HNN.out]
      replace hc := hc.below hb
      replace ht := below_then ht hb ht.size
      clear hb hg hD
      refine hK.out _ _ (box3_of hc) (fun hHeld => ?_)
      clear hK K
      try simp only [Act.put, List.getElem_toArray, List.getElem_cons_succ, List.getElem_cons_zero, List.setIfInBounds_toArray, List.set_cons_succ, List.set_cons_zero]
      refine wpAnyH_take (i := 9) (v := ?_) rfl (by kernel_rfl) (by kernel_rfl) (by kernel_rfl) (fun _ _ _ h => h) (Or.inl ⟨rfl, ?_⟩) hHeld ?_
      rotate_left
      · intro w' hS; obtain ⟨c0, c1, c2⟩ := hS; go_simp <;> with_reducible rfl
      simp only [Act.put, List.getElem_toArray, List.getElem_cons_succ, List.getElem_cons_zero, List.setIfInBounds_toArray, List.set_cons_succ, List.set_cons_zero]
      refine wpAnyH_done (by kernel_rfl) ?_ _
      clear hHeld
      have HTT := Lib.hid ht
      have HCC := Lib.hid hc
      clear ht hc
      have hse := fun W => lmSearch_any A n kA B m d w.heap.size N xs bs s s W
      unfold lmFn at hse
      go_wp2_with fail
      refine (hse _ HCC.out (HA.out.below HTT.out) (HB.out.below HTT.out) HX.out HY.out HOK.out hkA hkB hN).mono ?_
      clear hse
      rintro e w9 ⟨⟨r, rfl, hrN, hlow, hhi⟩, hb⟩
      have HT9 := Lib.hid (below_then HTT.out hb HTT.out.size)
      have hpr : planP xs bs n (r : Int) = true := by
        rcases hhi with rfl | h
        · exact HPA.out
        · exact h
      have HLV := Lib.hid (lm_is HOK.out HX.out (by omega) (by omega) hpr hlow)
      clear hb hlow hhi hpr HTT HCC
      go_wp2
      go_ret2
      exact ⟨by rw [HV.out.1, HV.out.2, HLV.out]; rfl, HT9.out⟩
end Go.Proofs.Ytlpeimlbpiofkaa

namespace Go.Proofs.Ytlpeimlbpiofkaa
open Go.RowKit

set_option maxHeartbeats 800000 in
set_option linter.unusedVariables false in
theorem lawLeastMost_big0 (A0 : Option Addr) (n0 c0 : Nat) (x0 : List Int) (A1 : Option Addr) (n1 c1 : Nat) (x1 : List Bool) (k0 : Int) (w : World) (h0 : Holds w A0 (nums x0)) (hx0 : x0.length = n0) (hn0 : n0 ≤ 9223372036854775807) (h1 : Holds w A1 (bits x1)) (hx1 : x1.length = n1) (hn1 : n1 ≤ 9223372036854775807)  (hbig : 1048576 - (n0 : Int) - (n1 : Int) < 0) :
    Calls Try.prog 11 #[.agg #[.slice A0 n0 c0, .slice A1 n1 c1, .int .i64 k0]] w fun e w' => e = .returned (.bool true) ∧ Below w.heap.size w w' := by
  have hb0 := (Whole.fresh w 54 #[.slice A0 n0 c0, .slice A1 n1 c1, .int .i64 k0])
  have ht := below1 w (.cells #[.slice A0 n0 c0, .slice A1 n1 c1, .int .i64 k0] 54)
  have HX0 := Lib.hid hx0
  have HX1 := Lib.hid hx1
  clear hx0 hx1
  obtain ⟨hb0_0, hb0_1, hb0_2⟩ := hb0.cells3
  have hb0_l := hb0.lt
  go_enter Try.func11, Try.ntmps11
  go_wp2_with fail
  refine (szCrew_any A0 n0 c0 A1 n1 c1 k0 (1048576) _ (by omega) (by omega) (by omega) (by omega)).mono ?_
  rintro e v1 ⟨rfl, hb⟩
  rw [crewLeft_bad (by omega)]
  have hz1 : w.heap.size + 1 ≤ v1.heap.size := by have := hb.size; simpa using this
  replace ht := below_then ht hb ht.size
  replace hb0 := hb0.below hb
  clear hb
  clear hb0_0 hb0_1 hb0_2 hb0_l
  go_wp2
  go_ret
  exact ⟨rfl, ht⟩

set_option maxHeartbeats 12800000 in
set_option maxRecDepth 100000 in
set_option linter.unusedSimpArgs false in
set_option linter.unusedVariables false in
theorem lawLeastMost_small (A0 : Option Addr) (n0 c0 : Nat) (x0 : List Int) (A1 : Option Addr) (n1 c1 : Nat) (x1 : List Bool) (k0 : Int) (w : World) (h0 : Holds w A0 (nums x0)) (hx0 : x0.length = n0) (hn0 : n0 ≤ 9223372036854775807) (h1 : Holds w A1 (bits x1)) (hx1 : x1.length = n1) (hn1 : n1 ≤ 9223372036854775807) (g0 : 0 ≤ 1048576 - (n0 : Int) - (n1 : Int)) :
    Calls Try.prog 11 #[.agg #[.slice A0 n0 c0, .slice A1 n1 c1, .int .i64 k0]] w fun e w' => e = .returned (.bool true) ∧ Below w.heap.size w w' := by
  have hb0 := (Whole.fresh w 54 #[.slice A0 n0 c0, .slice A1 n1 c1, .int .i64 k0])
  have ht := below1 w (.cells #[.slice A0 n0 c0, .slice A1 n1 c1, .int .i64 k0] 54)
  have HX0 := Lib.hid hx0
  have HX1 := Lib.hid hx1
  clear hx0 hx1
  obtain ⟨hb0_0, hb0_1, hb0_2⟩ := hb0.cells3
  have hb0_l := hb0.lt
  go_enter Try.func11, Try.ntmps11
  -- region 2
  go_wp2_with fail
  refine (szCrew_any A0 n0 c0 A1 n1 c1 k0 (1048576) _ (by omega) (by omega) (by omega) (by omega)).mono ?_
  rintro e v1 ⟨rfl, hb⟩
  rw [crewLeft_ok (by omega)]
  have hz1 : w.heap.size + 1 ≤ v1.heap.size := by have := hb.size; simpa using this
  replace ht := below_then ht hb ht.size
  replace hb0 := hb0.below hb
  clear hb
  clear hb0_0 hb0_1 hb0_2 hb0_l
  obtain ⟨hb0_0, hb0_1, hb0_2⟩ := hb0.cells3
  have hb0_l := hb0.lt
  -- region 5
  go_wp2_with fail
  refine (toCrew_own A0 n0 c0 x0 A1 n1 c1 x1 k0 _ (by exact h0.below ht) (by exact h1.below ht) HX0.out HX1.out (by omega) (by omega)).mono ?_
  rintro e v2 ⟨gp0, gp1, rfl, hgp0, hwp0, hgp1, hwp1, hb⟩
  have hz2 : v1.heap.size ≤ v2.heap.size := by have := hb.size; simpa using this
  replace ht := below_then ht hb ht.size
  replace hb0 := hb0.below hb
  have hgmp0 : v1.heap.size ≤ gp1 ∧ gp1 < v2.heap.size := ⟨by have := hgp0; (try simp at this); omega, hwp1.lt⟩
  have hp0 := Fresh.of_whole (lo := v1.heap.size) (hi := gp1) hwp0 (by simpa using hgp0) hgp1
  have hp1 := Fresh.of_whole (lo := gp1) (hi := v2.heap.size) hwp1 (Nat.le_refl _) hwp1.lt
  clear hgp0 hwp0 hgp1 hwp1
  clear hb
  clear hb0_0 hb0_1 hb0_2 hb0_l
  obtain ⟨hb0_0, hb0_1, hb0_2⟩ := hb0.cells3
  have hb0_l := hb0.lt
  go_wp2_with fail
  refine (specLm_any _ n0 _ _ n1 _ x0 x1 k0 _ (by exact hp0.holds) (by exact hp1.holds) HX0.out HX1.out (by omega) (by omega)).mono ?_
  rintro e v3 ⟨rfl, hb⟩
  have hz3 : v2.heap.size ≤ v3.heap.size := by have := hb.size; simpa using this
  replace ht := below_then ht hb ht.size
  replace hb0 := hb0.below hb
  replace hp0 := hp0.below hb
  replace hp1 := hp1.below hb
  clear hb
  clear hp0 hp1
  clear hb0_0 hb0_1 hb0_2 hb0_l
  obtain ⟨hb0_0, hb0_1, hb0_2⟩ := hb0.cells3
  have hb0_l := hb0.lt
  -- region 6
  go_wp2_with fail
  refine (toCrew_own A0 n0 c0 x0 A1 n1 c1 x1 k0 _ (by exact h0.below ht) (by exact h1.below ht) HX0.out HX1.out (by omega) (by omega)).mono ?_
  rintro e v4 ⟨gx0, gx1, rfl, hgx0, hwx0, hgx1, hwx1, hb⟩
  have hz4 : v3.heap.size ≤ v4.heap.size := by have := hb.size; simpa using this
  replace ht := below_then ht hb ht.size
  replace hb0 := hb0.below hb
  have hgmx0 : v3.heap.size ≤ gx1 ∧ gx1 < v4.heap.size := ⟨by have := hgx0; (try simp at this); omega, hwx1.lt⟩
  have hx0 := Fresh.of_whole (lo := v3.heap.size) (hi := gx1) hwx0 (by simpa using hgx0) hgx1
  have hx1 := Fresh.of_whole (lo := gx1) (hi := v4.heap.size) hwx1 (Nat.le_refl _) hwx1.lt
  clear hgx0 hwx0 hgx1 hwx1
  clear hb
  have hx90 := Whole.fresh v4 57 #[.slice (some ⟨gx0, 0, none⟩) n0 n0, .slice (some ⟨gx1, 0, none⟩) n1 n1, .int .i64 k0]
  replace ht := ht.alloc ht.size (.cells #[.slice (some ⟨gx0, 0, none⟩) n0 n0, .slice (some ⟨gx1, 0, none⟩) n1 n1, .int .i64 k0] 57)
  replace hb0 := hb0.alloc (.cells #[.slice (some ⟨gx0, 0, none⟩) n0 n0, .slice (some ⟨gx1, 0, none⟩) n1 n1, .int .i64 k0] 57)
  replace hx0 := hx0.alloc (.cells #[.slice (some ⟨gx0, 0, none⟩) n0 n0, .slice (some ⟨gx1, 0, none⟩) n1 n1, .int .i64 k0] 57)
  replace hx1 := hx1.alloc (.cells #[.slice (some ⟨gx0, 0, none⟩) n0 n0, .slice (some ⟨gx1, 0, none⟩) n1 n1, .int .i64 k0] 57)
  clear hb0_0 hb0_1 hb0_2 hb0_l
  obtain ⟨hb0_0, hb0_1, hb0_2⟩ := hb0.cells3
  have hb0_l := hb0.lt
  obtain ⟨hx90_0, hx90_1, hx90_2⟩ := hx90.cells3
  have hx90_l := hx90.lt
  -- region 7
  go_wp2_with fail
  refine (implLm_any _ n0 _ _ n1 _ x0 x1 k0 _ (by exact hx0.holds) (by exact hx1.holds) HX0.out HX1.out (by omega) (by omega) (Nat.le_refl _) (by omega)).mono ?_
  rintro e v5 ⟨rfl, hb⟩
  have hz5 : v4.heap.size + 1 ≤ v5.heap.size := by have := hb.size; simpa using this
  replace ht := below_then ht hb ht.size
  replace hb0 := hb0.below hb
  replace hx0 := hx0.below hb
  replace hx1 := hx1.below hb
  replace hx90 := hx90.below hb
  clear hb
  clear hb0_0 hb0_1 hb0_2 hb0_l hx90_0 hx90_1 hx90_2 hx90_l
  obtain ⟨hb0_0, hb0_1, hb0_2⟩ := hb0.cells3
  have hb0_l := hb0.lt
  obtain ⟨hx90_0, hx90_1, hx90_2⟩ := hx90.cells3
  have hx90_l := hx90.lt
  -- region 10
  clear hb0_0 hb0_1 hb0_2 hb0_l hx90_0 hx90_1 hx90_2 hx90_l
  go_wp2_with fail
  refine wp_region_held_drew (S := (fun w' => w'.cell? ⟨w.heap.size, 0, none⟩ = some (.slice A0 n0 c0) ∧ w'.cell? ⟨w.heap.size, 1, none⟩ = some (.slice A1 n1 c1) ∧ w'.cell? ⟨w.heap.size, 2, none⟩ = some (.int .i64 k0) ∧ w'.cell? ⟨v4.heap.size, 0, none⟩ = some (.slice (some ⟨gx0, 0, none⟩) n0 n0) ∧ w'.cell? ⟨v4.heap.size, 1, none⟩ = some (.slice (some ⟨gx1, 0, none⟩) n1 n1) ∧ w'.cell? ⟨v4.heap.size, 2, none⟩ = some (.int .i64 k0))) (by kernel_rfl) ⟨hb0.drew.cell 0, hb0.drew.cell 1, hb0.drew.cell 2, hx90.drew.cell 0, hx90.drew.cell 1, hx90.drew.cell 2⟩ (fun hHeld => ?_)
  replace ht := ht.drew
  replace hb0 := hb0.drew
  replace hx0 := hx0.drew
  replace hx1 := hx1.drew
  replace hx90 := hx90.drew
  refine wpAnyH_take (i := 0) (v := ?_) rfl (by kernel_rfl) (by kernel_rfl) (by kernel_rfl) (fun _ _ _ h => h) (Or.inl ⟨rfl, ?_⟩) hHeld ?_
  rotate_left
  · intro w' hS; obtain ⟨s0, s1, s2, s3, s4, s5⟩ := hS; go_simp <;> with_reducible rfl
  simp only [Act.put, List.getElem_toArray, List.getElem_cons_succ, List.getElem_cons_zero, List.setIfInBounds_toArray, List.set_cons_succ, List.set_cons_zero]
  refine wpAnyH_take (i := 1) (v := ?_) rfl (by kernel_rfl) (by kernel_rfl) (by kernel_rfl) (fun _ _ _ h => h) (Or.inl ⟨rfl, ?_⟩) hHeld ?_
  rotate_left
  · intro w' hS; obtain ⟨s0, s1, s2, s3, s4, s5⟩ := hS; go_simp <;> with_reducible rfl
  simp only [Act.put, List.getElem_toArray, List.getElem_cons_succ, List.getElem_cons_zero, List.setIfInBounds_toArray, List.set_cons_succ, List.set_cons_zero]
  refine wpAnyH_ready (rs := [2]) (by kernel_rfl) (by simp) (AllReadyH.cons rfl (fun K hK => ?_) AllReadyH.nil)
  go_simp
  refine (toCrew_own A0 n0 c0 x0 A1 n1 c1 x1 k0 _ (by exact h0.below ht) (by exact h1.below ht) HX0.out HX1.out (by omega) (by omega)).mono ?_
  rintro e v6 ⟨gy0, gy1, rfl, hgy0, hwy0, hgy1, hwy1, hb⟩
  have hz6 : v5.heap.size ≤ v6.heap.size := by have := hb.size; simpa using this
  replace ht := below_then ht hb ht.size
  replace hb0 := hb0.below hb
  replace hx0 := hx0.below hb
  replace hx1 := hx1.below hb
  replace hx90 := hx90.below hb
  have hgmy0 : v5.heap.size ≤ gy1 ∧ gy1 < v6.heap.size := ⟨by have := hgy0; (try simp at this); omega, hwy1.lt⟩
  have hy0 := Fresh.of_whole (lo := v5.heap.size) (hi := gy1) hwy0 (by simpa using hgy0) hgy1
  have hy1 := Fresh.of_whole (lo := gy1) (hi := v6.heap.size) hwy1 (Nat.le_refl _) hwy1.lt
  clear hgy0 hwy0 hgy1 hwy1
  clear hb
  refine hK.out _ _ ⟨hb0.cell 0, hb0.cell 1, hb0.cell 2, hx90.cell 0, hx90.cell 1, hx90.cell 2⟩ (fun hHeld => ?_)
  clear hK K
  try simp only [Act.put, List.getElem_toArray, List.getElem_cons_succ, List.getElem_cons_zero, List.setIfInBounds_toArray, List.set_cons_succ, List.set_cons_zero]
  refine wpAnyH_ready (rs := [3]) (by kernel_rfl) (by simp) (AllReadyH.cons rfl (fun K hK => ?_) AllReadyH.nil)
  go_simp
  refine (eqCrew_yes _ _ n0 _ _ x0 _ _ n1 _ _ x1 k0 _ (by exact hx0.holds) (by exact hy0.holds) (by exact hx1.holds) (by exact hy1.holds) HX0.out HX1.out (by omega) (by omega)).mono ?_
  rintro e v7 ⟨rfl, hb⟩
  have hz7 : v6.heap.size ≤ v7.heap.size := by have := hb.size; simpa using this
  replace ht := below_then ht hb ht.size
  replace hb0 := hb0.below hb
  replace hx0 := hx0.below hb
  replace hx1 := hx1.below hb
  replace hx90 := hx90.below hb
  replace hy0 := hy0.below hb
  replace hy1 := hy1.below hb
  clear hb
  clear hy0 hy1
  refine hK.out _ _ ⟨hb0.cell 0, hb0.cell 1, hb0.cell 2, hx90.cell 0, hx90.cell 1, hx90.cell 2⟩ (fun hHeld => ?_)
  clear hK K
  try simp only [Act.put, List.getElem_toArray, List.getElem_cons_succ, List.getElem_cons_zero, List.setIfInBounds_toArray, List.set_cons_succ, List.set_cons_zero]
  refine wpAnyH_take (i := 4) (v := ?_) rfl (by kernel_rfl) (by kernel_rfl) (by kernel_rfl) (fun _ _ _ h => h) (Or.inl ⟨rfl, ?_⟩) hHeld ?_
  rotate_left
  · intro w' hS; obtain ⟨s0, s1, s2, s3, s4, s5⟩ := hS; go_simp <;> with_reducible rfl
  simp only [Act.put, List.getElem_toArray, List.getElem_cons_succ, List.getElem_cons_zero, List.setIfInBounds_toArray, List.set_cons_succ, List.set_cons_zero]
  refine wpAnyH_done (by kernel_rfl) ?_ _
  clear hHeld
  obtain ⟨hb0_0, hb0_1, hb0_2⟩ := hb0.cells3
  have hb0_l := hb0.lt
  obtain ⟨hx90_0, hx90_1, hx90_2⟩ := hx90.cells3
  have hx90_l := hx90.lt
  go_wp2
  go_ret
  exact ⟨rfl, ht⟩

theorem lawLeastMost_all (A0 : Option Addr) (n0 c0 : Nat) (x0 : List Int) (A1 : Option Addr) (n1 c1 : Nat) (x1 : List Bool) (k0 : Int) (w : World) (h0 : Holds w A0 (nums x0)) (hx0 : x0.length = n0) (hn0 : n0 ≤ 9223372036854775807) (h1 : Holds w A1 (bits x1)) (hx1 : x1.length = n1) (hn1 : n1 ≤ 9223372036854775807) :
    Calls Try.prog 11 #[.agg #[.slice A0 n0 c0, .slice A1 n1 c1, .int .i64 k0]] w fun e w' => e = .returned (.bool true) ∧ Below w.heap.size w w' := by
  rcases (inferInstance : Decidable (0 ≤ 1048576 - (n0 : Int) - (n1 : Int))) with g0 | g0
  · exact lawLeastMost_big0 A0 n0 c0 x0 A1 n1 c1 x1 k0 w h0 hx0 hn0 h1 hx1 hn1  (by omega)
  exact lawLeastMost_small A0 n0 c0 x0 A1 n1 c1 x1 k0 w h0 hx0 hn0 h1 hx1 hn1 g0
end Go.Proofs.Ytlpeimlbpiofkaa

namespace Go.Proofs.Ytlpeimlbpiofkaa.leastMost
open Go.ChangeShapes Go.WideShapes Go.ChangeAt Go.RowKit Go.Joins

set_option maxRecDepth 100000 in
theorem lifted (os : Os) (started : os.Started) (H : Type) (enc : TypeId × Value → H) :
    ReturnsInHanded {} Try.checked os 11 .any (Rows.fnExactLeastMostSpec.pre6 enc Try.prog Try.f11 Rows.fnExactLeastMostRow.domain false) (Rows.fnExactLeastMostSpec.post enc Try.prog Try.f11 false true false false) := by
  refine returnsInHanded_of_change (C := Try.checked) own started (by kernel_rfl) Try.func11
    (ChangeSpec.witness6 (enc := enc) (C := Try.checked) false ⟨#[], #[.agg #[.slice none 0 0, .slice none 0 0, .int .i64 0]], []⟩ 8 (by kernel_rfl) (by kernel_rfl) (by kernel_rfl) (by kernel_rfl)) ?_
  intro W base args ds gs before hval0 hW hcnd _
  have hval : ∀ (j : Nat) t v, Try.f11.params[j]? = some t → args[j]? = some v → Value.okWide Try.prog W .any base t v := hval0
  have hW' := hW
  obtain ⟨p, q, hA0, hV, rfl, hfz, hnd⟩ := hW
  have hA : DataW.TrodAll enc Try.prog W 0 (fun _ => true) true Try.f11.params.toList args.toList ds p := hA0
  rw [Try.params11] at hA hval
  obtain ⟨v0, vs0, d0, ds0, p0, q0, hargs, rfl, rfl, h0, r0⟩ := trodAll_cons hA
  obtain ⟨rfl, rfl, rfl⟩ := trodAll_nil r0
  obtain rfl : args = #[v0] := by cases args; simp_all
  obtain ⟨rfl, rfl⟩ := trodVars_none hV
  have lt0 : ∀ x ∈ p0, x.block < W.heap.size := by obtain ⟨m, hm⟩ := h0; exact DataW.trod_lt m _ _ _ hm
  obtain ⟨A0, n0, c0, xs0, B0, q0_, d0, ys0, k0, hv0, hr0, hx0, hn0, hs0, hy0, hm0⟩ := open_crew (hval 0 54 v0 rfl rfl) h0
  subst hv0
  clear hA0 hval0
  refine (lawLeastMost_all A0 n0 c0 xs0 B0 q0_ d0 ys0 k0 W hr0 hx0 hn0 hs0 hy0 hm0).mono fun e W' ⟨he, bel⟩ => ?_
  subst he
  exact ⟨_, rfl, _, _, _, [], _, [], hW', trodAll_mk1 (shut_bool Try.underlying4 _), (trodAll_cons_mk (Below.trod laidOut (by kernel_rfl) (of_decide_eq_true (by kernel_rfl)) h0 bel lt0) trodAll_mk0), rfl, bel.frame _, fun h => by cases h⟩

set_option maxHeartbeats 8000000 in
theorem facts : joinedFacts Try.prog 11 Try.f11 Rows.fnExactLeastMostSpec Rows.fnExactLeastMostRow = true := by
  unfold joinedFacts
  rw [enter.laid, enter.rowed, enter.heard, enter.keys, enter.mayEnter, enter.liftsFinal, enter.make]
  simp only [Bool.and_eq_true]
  repeat' apply And.intro
  all_goals (first | exact True.intro | (as_aux_lemma => kernel_rfl))

theorem named_ : Try.prog.funcNamed Rows.fnExactLeastMostRow.func = some 11 := by kernel_rfl
theorem instance_ : Try.f11.isInstance Try.prog Rows.fnExactLeastMostRow.origin Rows.fnExactLeastMostRow.targs := of_decide_eq_true (by kernel_rfl)
theorem wrapper_ : Try.f11.isWrapper Try.prog Rows.fnExactLeastMostRow.wrapper Rows.fnExactLeastMostRow.mainSum := by
  unfold Func.isWrapper; first | (rw [if_pos (by decide +kernel)]; kernel_rfl) | (rw [if_neg (by decide +kernel)]; exact ⟨rfl, rfl⟩)

theorem proved : Rows.FnExactLeastMostSaid :=
  OpenClaim.holds_of_wide 11 Try.f11 rfl rfl rfl rfl rfl rfl rfl ⟨rfl, rfl, rfl, rfl, rfl⟩ rfl rfl rfl rfl rfl named_ Try.func11 facts
    instance_ wrapper_ (fun os started H enc _ => lifted os started H enc)
#print axioms proved
end Go.Proofs.Ytlpeimlbpiofkaa.leastMost
