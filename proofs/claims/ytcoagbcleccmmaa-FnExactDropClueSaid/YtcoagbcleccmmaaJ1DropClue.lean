/-
  What is proved: the contract of the model's DropPerson. Conditions: the party's times are read as they lie.
  What is proved: contracts of the model's and the library's search for a number in a list. Conditions: the list is read as it lies.
  What is proved: the contract of the library's search for the first place of a number that is in a list. Conditions: the list is read as it lies.
  What is proved: contracts of BestClue, of the model and of the program. Conditions: the clues are read as they lie.
  What is proved: contracts of a puzzle's clues without one, of the model. Conditions: the clues are read as they lie.
  What is proved: contracts of slices.Grow at the nil list and of slices.Concat at lists of clues. Conditions: at most 1,048,576 clues; the lists are read as they lie.
  What is proved: the contract of the program's DropClue. Conditions: the clues are read as they lie.
  What is proved: the contract of the model's DropClue; bounds of what it hands back. Conditions: the clues are read as they lie.
  What is proved: contracts of the laws' own marks of clues and puzzles. Conditions: what is marked is a row of the call's own; counts are small.
  What is proved: the law FnExactDropClue returns true at every argument, and leaves all that was there as it was. Conditions: the arguments are read as they lie.
-/
import Derived.Deep.RegionHeld3
import Derived.Deep.RegionLawGrows
import Derived.Lib.AppendZeros
import Derived.Test.YtcoagbcleccmmaaJ1CountSolutions
set_option linter.unusedSimpArgs false
set_option linter.unusedVariables false
namespace Go.Proofs.Ytcoagbcleccmmaa
open Go.RowKit

end Go.Proofs.Ytcoagbcleccmmaa

namespace Go.Proofs.Ytcoagbcleccmmaa
open Go.RowKit

def hasK (l : List Int) (x : Int) : Bool := l.contains x

def NoneI (bs : List Int) (t : Int) (k : Nat) : Prop := ∀ j (h : j < bs.length), j < k → bs[j] ≠ t
theorem NoneI.next {bs : List Int} {t : Int} {k : Nat} (h : NoneI bs t k) (hk : k < bs.length) (hne : bs[k] ≠ t) : NoneI bs t (k + 1) := fun j hj hlt => by
  rcases (show j < k ∨ j = k by omega) with h1 | h1
  · exact h j hj h1
  · subst h1
    exact hne
def IndexI (bs : List Int) (t : Int) (w : World) (e : Ending) (w' : World) : Prop := ∃ r : Int, e = .returned (.int .i64 r) ∧ decide (0 ≤ r) = bs.any (· == t) ∧ w = w'

end Go.Proofs.Ytcoagbcleccmmaa

namespace Go.Proofs.Ytcoagbcleccmmaa
open Go.RowKit

/-- The first place of a number. -/
def IndexF (bs : List Int) (t : Int) (w : World) (e : Ending) (w' : World) : Prop := ∃ (r : Nat) (h : r < bs.length), e = .returned (.int .i64 (r : Int)) ∧ bs[r] = t ∧ NoneI bs t r ∧ w = w'

theorem leastOf_le {l : List Int} {x : Int} (hx : x ∈ l) : leastOf l ≤ x :=
  (le_leastOf (List.ne_nil_of_mem hx) _).1 (Int.le_refl _) x hx
theorem leastOf_mem {l : List Int} (h : l ≠ []) : leastOf l ∈ l := by
  apply Classical.byContradiction
  intro hn
  have := (le_leastOf h (leastOf l + 1)).2 fun y hy => by
    have h1 := leastOf_le hy
    have h2 : leastOf l ≠ y := fun e => hn (by rw [e]; exact hy)
    omega
  omega
end Go.Proofs.Ytcoagbcleccmmaa

namespace Go.Proofs.Ytcoagbcleccmmaa
open Go.RowKit

/-- How many hidden times match a clue alone. -/
def oneC (cs : List Cl) (k : Nat) : List Cl := (cs.drop k).take 1
def cntAt (p : Int) (cs : List Cl) (k : Nat) : Int := ((solI p (oneC cs k)).length : Int)
def aloneI (p : Int) (cs : List Cl) (k : Nat) : List Int := (List.range k).map (cntAt p cs)
theorem aloneI_len (p : Int) (cs : List Cl) (k : Nat) : (aloneI p cs k).length = k := by simp [aloneI]
theorem aloneI_next (p : Int) (cs : List Cl) (k : Nat) : aloneI p cs (k + 1) = aloneI p cs k ++ [cntAt p cs k] := by simp [aloneI, List.range_succ]
theorem aloneI_at {p : Int} {cs : List Cl} {k j : Nat} (h : j < (aloneI p cs k).length) : (aloneI p cs k)[j] = cntAt p cs j := by simp [aloneI]
/-- The best one of the first clues, and its number. -/
def bestTo (p : Int) (cs : List Cl) : Nat → Int × Int
  | 0 => (0, 0)
  | k + 1 => if k = 0 ∨ cntAt p cs k < (bestTo p cs k).2 then ((k : Int), cntAt p cs k) else bestTo p cs k
theorem bestTo_take {p : Int} {cs : List Cl} {k : Nat} (h : k = 0 ∨ cntAt p cs k < (bestTo p cs k).2) : bestTo p cs (k + 1) = ((k : Int), cntAt p cs k) := by
  show (if _ then _ else _) = _
  exact if_pos h
theorem bestTo_keep {p : Int} {cs : List Cl} {k : Nat} (h : ¬ (k = 0 ∨ cntAt p cs k < (bestTo p cs k).2)) : bestTo p cs (k + 1) = bestTo p cs k := by
  show (if _ then _ else _) = _
  exact if_neg h
theorem bestTo_inv (p : Int) (cs : List Cl) : ∀ k, ∃ b : Nat, b < k + 1 ∧ (bestTo p cs (k + 1)).1 = b ∧ (bestTo p cs (k + 1)).2 = cntAt p cs b ∧ (∀ j, j < k + 1 → cntAt p cs b ≤ cntAt p cs j) ∧ ∀ j, j < b → cntAt p cs b < cntAt p cs j := by
  intro k
  induction k with
  | zero =>
    refine ⟨0, by omega, ?_, ?_, fun j hj => ?_, fun j hj => absurd hj (by omega)⟩
    · rw [bestTo_take (.inl rfl)]
    · rw [bestTo_take (.inl rfl)]
    · obtain rfl : j = 0 := by omega
      exact Int.le_refl _
  | succ k ih =>
    obtain ⟨b, h1, h2, h3, h4, h5⟩ := ih
    by_cases h : cntAt p cs (k + 1) < (bestTo p cs (k + 1)).2
    · rw [bestTo_take (.inr h)]
      rw [h3] at h
      refine ⟨k + 1, by omega, rfl, rfl, fun j hj => ?_, fun j hj => ?_⟩
      · rcases Nat.lt_or_ge j (k + 1) with hlt | hge
        · have := h4 j hlt; omega
        · obtain rfl : j = k + 1 := by omega
          exact Int.le_refl _
      · have := h4 j hj; omega
    · rw [bestTo_keep (fun h0 => h0.elim (fun h1 => by omega) h)]
      refine ⟨b, by omega, h2, h3, fun j hj => ?_, h5⟩
      rcases Nat.lt_or_ge j (k + 1) with hlt | hge
      · exact h4 j hlt
      · obtain rfl : j = k + 1 := by omega
        rw [h3] at h
        omega
theorem best_unique {p : Int} {cs : List Cl} {n r : Nat} (hn : 0 < n) (hr : r < (aloneI p cs n).length) (h1 : (aloneI p cs n)[r] = leastOf (aloneI p cs n)) (h2 : NoneI (aloneI p cs n) (leastOf (aloneI p cs n)) r) : (r : Int) = (bestTo p cs n).1 := by
  obtain ⟨k, rfl⟩ : ∃ k, n = k + 1 := ⟨n - 1, by omega⟩
  obtain ⟨b, g1, g2, -, g4, g5⟩ := bestTo_inv p cs k
  rw [g2]
  have hl := aloneI_len p cs (k + 1)
  have hbl : b < (aloneI p cs (k + 1)).length := by omega
  have hrb := aloneI_at hr
  have hbb := aloneI_at hbl
  have m1 : leastOf (aloneI p cs (k + 1)) ≤ cntAt p cs b := by rw [← hbb]; exact leastOf_le (List.getElem_mem hbl)
  have m2 : cntAt p cs b ≤ leastOf (aloneI p cs (k + 1)) := by rw [← h1, hrb]; exact g4 r (by omega)
  rcases Nat.lt_trichotomy r b with h | h | h
  · have := g5 r h; rw [← hrb, h1] at this; omega
  · rw [h]
  · exact absurd (by rw [hbb]; omega) (h2 b hbl h)
def bestOk (p : Int) (cs : List Cl) : Bool := pzOk p cs && decide (0 < cs.length)
def bestI (p : Int) (cs : List Cl) : Int := if bestOk p cs then (bestTo p cs cs.length).1 else 0
theorem best_no {p : Int} {cs : List Cl} (h : bestOk p cs = false) : bestI p cs = 0 := if_neg (by simp [h])
theorem best_yes {p : Int} {cs : List Cl} (h : bestOk p cs = true) : bestI p cs = (bestTo p cs cs.length).1 := if_pos h
theorem all_one {p : Int} {cs : List Cl} (h : cs.all (clOk p) = true) (k : Nat) : (oneC cs k).all (clOk p) = true :=
  List.all_eq_true.2 fun x hx => List.all_eq_true.1 h x (List.mem_of_mem_drop (List.mem_of_mem_take hx))
theorem oneC_len {cs : List Cl} {k : Nat} (hk : k < cs.length) : (oneC cs k).length = 1 := by simp [oneC]; omega
theorem pzOk_oneC {p : Int} {cs : List Cl} (h : pzOk p cs = true) {k : Nat} (hk : k < cs.length) : pzOk p (oneC cs k) = true := by
  obtain ⟨h1, h4, h6, ha⟩ := pzOk_parts h
  simp only [pzOk, Bool.and_eq_true, within_iff, decide_eq_true_eq]
  exact ⟨⟨h1, h4⟩, by rw [oneC_len hk]; omega, all_one ha k⟩
theorem count_one {p : Int} {cs : List Cl} (h : pzOk p cs = true) {k : Nat} (hk : k < cs.length) : ((solsI p (oneC cs k)).length : Int) = cntAt p cs k := by rw [solsI_yes (pzOk_oneC h hk)]; rfl
/-- One clue lies in the midst of the clues. -/
theorem cls_one {w : World} {b o k : Nat} {cs : List Cl} (h : Holds w (some ⟨b, o, none⟩) (clsC cs)) (hk : k < cs.length) : Holds w (some ⟨b, o + k * 3, none⟩) (clsC (oneC cs k)) := by
  rcases h with h | ⟨b', o', hA, hb, hc⟩
  · have := clsC_len cs
    rw [h] at this
    simp at this
    omega
  · cases hA
    refine .inr ⟨b, o + k * 3, rfl, hb, fun j u hu => ?_⟩
    have hs : clsC cs = clsC (cs.take k) ++ (clsC (oneC cs k) ++ clsC ((cs.drop k).drop 1)) := by
      rw [← clsC_app, ← clsC_app, oneC, List.take_append_drop, List.take_append_drop]
    have hl : (clsC (cs.take k)).length = k * 3 := by rw [clsC_len, List.length_take]; congr 1; omega
    have := hc (k * 3 + j) u (by
      rw [hs, List.getElem?_append_right (by omega), hl, show k * 3 + j - k * 3 = j by omega, List.getElem?_append_left (List.getElem?_eq_some_iff.1 hu).1]
      exact hu)
    rw [show o + k * 3 + j = o + (k * 3 + j) by omega]
    exact this
def BestPost (p : Int) (cs : List Cl) (w : World) (e : Ending) (w' : World) : Prop := e = .returned (.tuple #[.int .i64 (bestI p cs), .bool (bestOk p cs)]) ∧ Below w.heap.size w w'

set_option maxHeartbeats 800000 in
theorem part_one (p : Int) (b o n c k : Nat) (w : World) (hk : k < n) (hcc : c ≤ 1048576) (hc : n ≤ c) (hn : n ≤ 1048576) :
    Calls Try.prog 74 #[.agg #[.int .i64 p, .slice (some ⟨b, o, none⟩) n c], .int .i64 (k : Int), .int .i64 ((k : Int) + 1)] w fun e w' => e = .returned (.agg #[.int .i64 p, .slice (some ⟨b, o + k * 3, none⟩) 1 1]) ∧ Below w.heap.size w w' := by
  have h0 := (Whole.fresh w 35 #[.int .i64 p, .slice (some ⟨b, o, none⟩) n c]).alloc (.cells #[.int .i64 0, .slice none 0 0] 35)
  have h1 := Whole.fresh (w.alloc (.cells #[.int .i64 p, .slice (some ⟨b, o, none⟩) n c] 35)) 35 #[.int .i64 0, .slice none 0 0]
  have HB := Lib.hid (below2 w (.cells #[.int .i64 p, .slice (some ⟨b, o, none⟩) n c] 35) (.cells #[.int .i64 0, .slice none 0 0] 35))
  have hk0 : (0 : Int) ≤ k := by omega
  have hkk : (k : Int) ≤ (k : Int) + 1 := by omega
  have hkc : (k : Int) + 1 ≤ (c : Int) := by omega
  have hkc2 : k + 1 ≤ c := by omega
  have hk2 : k + 1 - k = 1 := by omega
  have hkp : (0 : Int) ≤ (k : Int) + 1 := by omega
  have hkt : ((k : Int) + 1).toNat = k + 1 := by omega
  go_enter Try.func74, Try.ntmps74
  go_wp2
  obtain ⟨c0, c1⟩ := h0.cells2
  obtain ⟨r0, r1, f0, f1⟩ := h1.two
  rw [World.size_alloc] at r0 r1 f0 f1
  have hl0 := h0.lt
  have hP := Whole.fresh (w.alloc (.cells #[.int .i64 p, .slice (some ⟨b, o, none⟩) n c] 35)) 35 #[.int .i64 p, .slice (some ⟨b, o + k * 3, none⟩) 1 1]
  have HB2 := Lib.hid ((below2 w (.cells #[.int .i64 p, .slice (some ⟨b, o, none⟩) n c] 35) (.cells #[.int .i64 p, .slice (some ⟨b, o + k * 3, none⟩) 1 1] 35)).drew)
  rw [World.size_alloc] at hP
  have hP2 := hP.drew
  go_region_held3 (fun w' => w'.cell? ⟨w.heap.size, 0, none⟩ = some (.int .i64 p) ∧ w'.cell? ⟨w.heap.size, 1, none⟩ = some (.slice (some ⟨b, o, none⟩) n c)) (go_keep) (fail)
  obtain ⟨s0, s1, -, -⟩ := hP2.two
  clear h0 h1 c0 c1 r0 r1 f0 f1 hP hP2
  go_wp2
  refine bodyPost_ret (v := .agg #[.int .i64 p, .slice (some ⟨b, o + k * 3, none⟩) 1 1]) (by simp [results, Try.results74, go_sem, s0, s1]) rfl ⟨rfl, HB2.out⟩
theorem numsC_snoc (l : List Int) (x : Int) : nums (l ++ [x]) = nums l ++ [.int .i64 x] := by simp [nums]
theorem own_freshC {w : World} {lo n c : Nat} {ty : TypeId} {A : Option Addr} {xs : List Value} (h : w.ownsRow lo ty 1 (.slice A n c) n xs) : Fresh w lo w.heap.size ty A xs := by
  obtain ⟨A', c', hv, hf⟩ := Fresh.of_own h (Nat.le_refl _)
  cases hv
  exact hf

end Go.Proofs.Ytcoagbcleccmmaa

namespace Go.Proofs.Ytcoagbcleccmmaa
open Go.RowKit

/-- The clues without one. -/
def woC (cs : List Cl) (k : Nat) : List Cl := cs.take k ++ cs.drop (k + 1)
theorem woC_len {cs : List Cl} {k : Nat} (hk : k < cs.length) : (woC cs k).length = cs.length - 1 := by
  simp only [woC, List.length_append, List.length_take, List.length_drop]
  omega
theorem all_wo {p : Int} {cs : List Cl} (h : cs.all (clOk p) = true) (k : Nat) : (woC cs k).all (clOk p) = true :=
  List.all_eq_true.2 fun x hx => List.all_eq_true.1 h x ((List.mem_append.1 hx).elim List.mem_of_mem_take List.mem_of_mem_drop)
theorem pzOk_wo {p : Int} {cs : List Cl} (h : pzOk p cs = true) {k : Nat} (hk : k < cs.length) : pzOk p (woC cs k) = true := by
  obtain ⟨h1, h4, h6, ha⟩ := pzOk_parts h
  simp only [pzOk, Bool.and_eq_true, within_iff, decide_eq_true_eq]
  exact ⟨⟨h1, h4⟩, by rw [woC_len hk]; omega, all_wo ha k⟩
theorem own_shapeC {w : World} {base size : Nat} {e : TypeId} {v : Value} {n : Nat} {xs : List Value} (h : w.ownsRow base e size v n xs) : ∃ (A : Option Addr) (c : Nat), v = .slice A n c := by
  obtain ⟨-, ⟨rfl, rfl⟩ | ⟨g, cap, cur, rfl, -⟩⟩ := h
  · exact ⟨_, _, rfl⟩
  · exact ⟨_, _, rfl⟩
/-- A list of clues of the call's own. -/
def CluesPost (l : List Cl) (w : World) (e : Ending) (w' : World) : Prop :=
  ∃ (A : Option Addr) (q : Nat), e = .returned (.slice A l.length q) ∧ w'.ownsRow w.heap.size 25 3 (.slice A l.length q) l.length (clsC l) ∧ Below w.heap.size w w'
theorem cls_parts {w : World} {b o n c k : Nat} {cs : List Cl} (h : Holds w (some ⟨b, o, none⟩) (clsC cs)) (hx : cs.length = n) (hk : k < n) (hc : n ≤ c) :
    Hid (∀ j u, (clsC (cs.take k))[j]? = some u → w.cell? ⟨b, o + j, none⟩ = some u) ∧ ∃ d, (if c = k + 1 then (some ⟨b, o, none⟩ : Option Addr) else some ⟨b, o + (k + 1) * 3, none⟩) = some ⟨b, d, none⟩ ∧ Hid (∀ j u, (clsC (cs.drop (k + 1)))[j]? = some u → w.cell? ⟨b, d + j, none⟩ = some u) := by
  rcases h with h | ⟨b', o', hA, hb, hcell⟩
  · have := clsC_len cs
    rw [h] at this
    simp at this
    omega
  · cases hA
    have hs : clsC cs = clsC (cs.take (k + 1)) ++ clsC (cs.drop (k + 1)) := by rw [← clsC_app, List.take_append_drop]
    have hs2 : clsC cs = clsC (cs.take k) ++ clsC (cs.drop k) := by rw [← clsC_app, List.take_append_drop]
    refine ⟨fun j u hu => hcell j u ?_, ?_⟩
    · rw [hs2, List.getElem?_append_left (List.getElem?_eq_some_iff.1 hu).1]
      exact hu
    · by_cases hck : c = k + 1
      · refine ⟨o, by simp [hck], fun j u hu => ?_⟩
        have h0 : cs.drop (k + 1) = [] := List.drop_eq_nil_of_le (by omega)
        rw [h0] at hu
        simp [clsC] at hu
      · refine ⟨o + (k + 1) * 3, by simp [hck], fun j u hu => ?_⟩
        have hl : (clsC (cs.take (k + 1))).length = (k + 1) * 3 := by rw [clsC_len, List.length_take]; congr 1; omega
        have := hcell ((k + 1) * 3 + j) u (by
          rw [hs, List.getElem?_append_right (by omega), hl, show (k + 1) * 3 + j - (k + 1) * 3 = j by omega]
          exact hu)
        rw [show o + (k + 1) * 3 + j = o + ((k + 1) * 3 + j) by omega]
        exact this

set_option maxHeartbeats 1600000 in
set_option maxRecDepth 100000 in
theorem pzWithout_any (b o n c k : Nat) (cs : List Cl) (w : World) (hA : Holds w (some ⟨b, o, none⟩) (clsC cs)) (hb : b < w.heap.size) (hx : cs.length = n) (hn : n ≤ 1048576) (hc : n ≤ c) (hcc : c ≤ 1048576) (hk : k < n) :
    Calls Try.prog 71 #[.slice (some ⟨b, o, none⟩) n c, .int .i64 (k : Int)] w (CluesPost (woC cs k) w) := by
  obtain ⟨i0, hi, hz0, hz1, hz2⟩ := info_parts info_clue
  have HI := Lib.hid hi
  have HZ0 := Lib.hid hz0
  have HZ1 := Lib.hid hz1
  have HZ2 := Lib.hid hz2
  obtain ⟨HHD, d, hd, HTL⟩ := cls_parts hA hx hk hc
  have hk0 : (0 : Int) ≤ k := by omega
  have hkc : (k : Int) ≤ c := by omega
  have hkc2 : k ≤ c := by omega
  have hp0 : (0 : Int) ≤ (k : Int) + 1 := by omega
  have hp1 : (k : Int) + 1 ≤ (n : Int) := by omega
  have hp2 : ((k : Int) + 1).toNat = k + 1 := by omega
  have hp3 : k + 1 ≤ n := by omega
  have HBB := Lib.hid hb
  have HLH : Hid ((clsC (cs.take k)).length = k * 3) := by show _ = _; rw [clsC_len, List.length_take]; congr 1; omega
  have HLT : Hid ((clsC (cs.drop (k + 1))).length = (n - (k + 1)) * 3) := by show _ = _; rw [clsC_len, List.length_drop, hx]
  have HWL : Hid ((woC cs k).length = k + (n - (k + 1))) := by show _ = _; rw [woC_len (by omega)]; omega
  have HM1 := Lib.hid (show 0 + k ≤ maxLen by unfold maxLen; omega)
  have HM2 := Lib.hid (show k + (n - (k + 1)) ≤ maxLen by unfold maxLen; omega)
  have HY1 := Lib.hid (show (0 + k) * 24 ≤ 140737488355328 by omega)
  have HY2 := Lib.hid (show (k + (n - (k + 1))) * 24 ≤ 140737488355328 by omega)
  have HB0 := Lib.hid ((below1 w (.cells #[] 25)))
  have HO0 : Hid ((w.alloc (.cells #[] 25)).ownsRow w.heap.size 25 3 (.slice (some ⟨w.heap.size, 0, none⟩) 0 0) 0 []) :=
    ⟨rfl, .inr ⟨w.heap.size, 0, #[], rfl, Nat.le_refl _, Whole.fresh w 25 #[], Nat.le_refl _, Nat.zero_le _, rfl, rfl⟩⟩
  have HON1 := Lib.hid (clsC_one (cs.take k))
  have HON2 := Lib.hid (clsC_one (cs.drop (k + 1)))
  have HN1 : Hid (∀ j u, (clsC (cs.take k))[j]? = some u → (w.alloc (.cells #[] 25)).cell? ((⟨b, o, none⟩ : Addr).add j) = some u) := fun j u hu => by rw [Addr.add_lit]; exact (HB0.out.cell (p := ⟨b, o + j, none⟩) HBB.out).trans (HHD.out j u hu)
  have hwr : IntKind.i64.wrap ((k : Int) + 1) = (k : Int) + 1 := IntWalk.i64_in _ (by omega)
  clear hi hz0 hz1 hz2 hA hx hb
  go_enter Try.func71, Try.ntmps71
  go_wp2_with fail
  go_region_law (first | (refine step_append_mine rfl (.tmp 5) (.tmp 8) 33 rfl w.heap.size 25 i0 (.agg #[.int .i64 0, .int .i64 0, .int .i64 0]) 3 24 Try.underlying33 HI.out HZ0.out HZ1.out HZ2.out rfl (by decide) (.slice (some ⟨w.heap.size, 0, none⟩) 0 0) 0 [] (by simp [Act.eval]) (by exact HO0.out) ⟨b, o, none⟩ k c (clsC (cs.take k)) (by simp [Act.eval]) HLH.out (by exact HN1.out) HON1.out HM1.out HY1.out (by simp) ?_; intro v1 w1 hown1 hg1; simp only [Nat.zero_add, List.nil_append] at hown1; obtain ⟨A1, q1, rfl⟩ := own_shapeC hown1; have hb1 := HB0.out.drew.grown hg1 (by simp) (fun kk e => by simp [Value.ownBlock] at e; omega); have HB1 := Lib.hid hb1; have HN2 : Hid (∀ j u, (clsC (cs.drop (k + 1)))[j]? = some u → w1.cell? ((⟨b, d, none⟩ : Addr).add j) = some u) := (fun j u hu => (by rw [Addr.add_lit]; exact (HB1.out.cell (p := ⟨b, d + j, none⟩) HBB.out).trans (HTL.out j u hu))); have HO1 := Lib.hid hown1; have HZ9 := Lib.hid hb1.size; clear hown1 hg1 hb1) | (refine step_append_mine rfl (.tmp 9) (.tmp 13) 33 rfl w.heap.size 25 i0 (.agg #[.int .i64 0, .int .i64 0, .int .i64 0]) 3 24 Try.underlying33 HI.out HZ0.out HZ1.out HZ2.out rfl (by decide) (.slice A1 k q1) k (clsC (cs.take k)) (by simp [Act.eval]) HO1.out ⟨b, d, none⟩ (n - (k + 1)) (c - (k + 1)) (clsC (cs.drop (k + 1))) (by simp [Act.eval, hd]) HLT.out HN2.out HON2.out HM2.out HY2.out HZ9.out ?_; intro v2 w2 hown2 hg2; obtain ⟨A2, q2, rfl⟩ := own_shapeC hown2))
  go_wp2
  go_ret
  exact ⟨A2, q2, by rw [HWL.out]; rfl, by rw [HWL.out, woC, clsC_app]; exact hown2, HB1.out.grown hg2 HZ9.out (fun kk e => (HO1.out.lt kk e).1)⟩
end Go.Proofs.Ytcoagbcleccmmaa

namespace Go.Proofs.Ytcoagbcleccmmaa
open Go.RowKit

set_option maxHeartbeats 1600000 in
set_option maxRecDepth 100000 in
theorem growNilK_any (n : Nat) (w : World) (h0 : 0 < n) (hn : n ≤ 1048576) :
    Calls Try.prog 87 #[.slice none 0 0, .int .i64 n] w (CluesPost [] w) := by
  obtain ⟨i0, hi, hz0, hz1, hz2⟩ := info_parts info_clue
  have hrun := fun W : World => Lib.run_append_nil_zeros (P := Try.prog) W 33 3 33 25 i0 (.agg #[.int .i64 0, .int .i64 0, .int .i64 0]) .i64 .i64 Try.underlying33 Try.underlying3 hi hz0 n h0 (by omega) (by omega) (by rw [hz2]; omega)
  have HR := Lib.hid hrun
  have hg0 : n ≤ grownCap w n 0 25 := grownCap_ge w n 0 _
  have hg1 : grownCap w n 0 25 ≤ maxLen := grownCap_le_maxLen w n 0 _ (by unfold maxLen; omega)
  have hg2 : (grownCap w n 0 25 : Int) ≤ 9223372036854775807 := by unfold maxLen at hg1; omega
  have hn0 : (0 : Int) < n := by omega
  have hn1 : ¬ (n : Int) < 0 := by omega
  have HG := Lib.hid hg1
  clear hi hz0 hz1 hz2 hrun hg1
  go_enter Try.func87, Try.ntmps87
  go_wp2_with (at_builtin; refine Lib.wpList_append_run _ rfl (.tmp 20) (.tmp 21) 33 3 rfl (.slice none 0 0) (.int .i64 n) rfl rfl _ _ (HR.out _) ?_)
  go_ret
  have hsz : (Builtin.zeroCells #[Value.int .i64 0, Value.int .i64 0, Value.int .i64 0] n ++ Builtin.zeroCells #[Value.int .i64 0, Value.int .i64 0, Value.int .i64 0] (grownCap w n 0 25 - n)).size = grownCap w n 0 25 * 3 := by
    rw [Array.size_append, size_zeroCells, size_zeroCells]
    simp
    omega
  exact ⟨_, _, rfl, (World.ownsRow_made (base := w.heap.size) (e := 25) (size := 3) w _ _ (Nat.le_refl _) HG.out hsz).drew, (below1 w _).drew⟩
theorem growNilK_zero (w : World) :
    Calls Try.prog 87 #[.slice none 0 0, .int .i64 ((0 : Nat) : Int)] w (CluesPost [] w) := by
  go_enter Try.func87, Try.ntmps87
  go_wp2
  go_ret
  exact ⟨none, 0, rfl, World.ownsRow_nil _ _ _ _, Below.refl _ _⟩

/-- A list of clues as it lies. -/
structure RowK where
  b : Nat
  o : Nat
  n : Nat
  c : Nat
  xs : List Cl
def RowK.val (r : RowK) : Value := .slice (some ⟨r.b, r.o, none⟩) r.n r.c
def partK (rs : List RowK) (k : Nat) : Nat := ((rs.take k).map RowK.n).sum
def joinK (rs : List RowK) (k : Nat) : List Cl := (rs.take k).flatMap RowK.xs
theorem partK_next {rs : List RowK} {k : Nat} (hk : k < rs.length) : partK rs (k + 1) = partK rs k + rs[k].n := by
  rw [partK, partK, List.take_succ_eq_append_getElem hk, List.map_append, List.sum_append]
  simp
theorem joinK_next {rs : List RowK} {k : Nat} (hk : k < rs.length) : joinK rs (k + 1) = joinK rs k ++ rs[k].xs := by
  rw [joinK, joinK, List.take_succ_eq_append_getElem hk, List.flatMap_append]
  simp
/-- The lists lie there, and so do their heads. -/
def GridK (w : World) (g : Nat) (rs : List RowK) : Prop :=
  g < w.heap.size ∧ (∀ k (h : k < rs.length), w.cell? ⟨g, k, none⟩ = some (rs[k]).val) ∧ ∀ k (h : k < rs.length), (rs[k]).b < w.heap.size ∧ (rs[k]).xs.length = (rs[k]).n ∧ ∀ j u, (clsC (rs[k]).xs)[j]? = some u → w.cell? ⟨(rs[k]).b, (rs[k]).o + j, none⟩ = some u
theorem GridK.below {w w' : World} {g : Nat} {rs : List RowK} (h : GridK w g rs) (hb : Below w.heap.size w w') : GridK w' g rs := by
  obtain ⟨h1, h2, h3⟩ := h
  refine ⟨Nat.lt_of_lt_of_le h1 hb.size, fun k hk => (hb.cell (p := ⟨g, k, none⟩) h1).trans (h2 k hk), fun k hk => ?_⟩
  obtain ⟨k1, k2, k3⟩ := h3 k hk
  exact ⟨Nat.lt_of_lt_of_le k1 hb.size, k2, fun j u hu => (hb.cell (p := ⟨(rs[k]).b, (rs[k]).o + j, none⟩) k1).trans (k3 j u hu)⟩
theorem joinK_len {w : World} {g : Nat} {rs : List RowK} (h : GridK w g rs) : ∀ {k : Nat}, k ≤ rs.length → (joinK rs k).length = partK rs k
  | 0, _ => by simp [joinK, partK]
  | k + 1, hk => by
    have hkr : k < rs.length := by omega
    rw [joinK_next hkr, List.length_append, joinK_len h (by omega), partK_next hkr, (h.2.2 k hkr).2.1]

set_option maxHeartbeats 3200000 in
set_option maxRecDepth 100000 in
theorem concatK_any (g n c : Nat) (rs : List RowK) (w : World) (hA : GridK w g rs) (hx : rs.length = n) (hn : n ≤ 1048576) (hp2 : ∀ k, k ≤ n → partK rs k ≤ 1048576) :
    Calls Try.prog 72 #[.slice (some ⟨g, 0, none⟩) n c] w (CluesPost (joinK rs n) w) := by
  have HX := Lib.hid hx
  have HP := Lib.hid hp2
  have HG := Lib.hid hA
  obtain ⟨i0, hi, hz0, hz1, hz2⟩ := info_parts info_clue
  have HI := Lib.hid hi
  have HZ0 := Lib.hid hz0
  have HZ1 := Lib.hid hz1
  have HZ2 := Lib.hid hz2
  clear hx hi hz0 hz1 hz2 hp2 hA
  go_enter Try.func72, Try.ntmps72
  go_wp2
  go_loop [3, 11] (fun v i => ∃ k : Nat, k ≤ n ∧ i = .int .i64 k ∧ v = .int .i64 (partK rs k)) (fun _ i => n - (intOf i).toNat)
  case atStart => exact ⟨0, Nat.zero_le _, rfl, rfl⟩
  case round =>
    obtain ⟨k, hk, rfl, rfl⟩ := hrel
    by_cases hlt : k < n
    · have hkr : k < rs.length := by have := HX.out; omega
      have hc := HG.out.2.1 k hkr
      rw [RowK.val] at hc
      have hgl := HG.out.1
      have hpn := partK_next hkr
      have hpl := HP.out (k + 1) (by omega)
      have hs0 : (0 : Int) ≤ (partK rs k : Int) + rs[k].n := by omega
      have hs1 : (partK rs k : Int) + rs[k].n ≤ 1048576 := by omega
      have hs2 : ¬ (partK rs k : Int) + rs[k].n < 0 := by omega
      have HPN := Lib.hid hpn
      clear hpn
      go_wp2
      go_round
      case rel => exact ⟨k + 1, by omega, by go_num, by rw [HPN.out]; first | exact congrArg _ (by omega) | (simp; omega)⟩
      case measure => simp [intOf]; omega
    · obtain rfl : k = n := by omega
      have HGROW : Hid (Calls Try.prog 87 #[.slice none 0 0, .int .i64 ((partK rs k : Nat) : Int)] w (CluesPost [] w)) := by
        show Calls _ _ _ _ _
        have h := HP.out k (Nat.le_refl _)
        generalize partK rs k = z at h
        cases z with
        | zero => exact growNilK_zero w
        | succ z => exact growNilK_any (z + 1) w (by omega) h
      go_wp2_with fail
      refine HGROW.out.mono ?_
      rintro e w1 ⟨A1, c1, rfl, hown1, hb1⟩
      have HO1 := Lib.hid hown1
      have HB1 := Lib.hid hb1
      have hwz := hb1.size
      clear hown1 hb1
      go_wp2
      go_loopw [6, 27] (fun v i wr => ∃ (j : Nat) (E : Option Addr) (d : Nat), j ≤ k ∧ i = .int .i64 j ∧ v = .slice E (partK rs j) d ∧ wr.ownsRow w.heap.size 25 3 (.slice E (partK rs j) d) (partK rs j) (clsC (joinK rs j)) ∧ Below w.heap.size w wr) (fun _ i _ => k - (intOf i).toNat)
      case atStart => exact ⟨0, A1, c1, Nat.zero_le _, rfl, rfl, HO1.out, HB1.out⟩
      case round =>
        obtain ⟨j, E, d, hj, rfl, rfl, hown, hb⟩ := hrel
        clear HO1 HB1
        by_cases hjk : j < k
        · have hjr : j < rs.length := by have := HX.out; omega
          have hGb := HG.out.below hb
          have hc := hGb.2.1 j hjr
          have hgl := hGb.1
          obtain ⟨ok0, ok2, ok3⟩ := hGb.2.2 j hjr
          have hpn := partK_next hjr
          have hjn := joinK_next hjr
          have hpl := HP.out (j + 1) (by omega)
          generalize rs[j] = r at hc ok0 ok2 ok3 hpn hjn
          obtain ⟨b1, o1, n1, d1, x1⟩ := r
          rw [RowK.val] at hc
          dsimp only at hc hpn hjn ok0 ok2 ok3
          have HPN := Lib.hid hpn
          have HJN := Lib.hid hjn
          have HOWN := Lib.hid hown
          have HB := Lib.hid hb
          have hbs := hb.size
          have hn1 : partK rs j + n1 ≤ 1048576 := by omega
          have HNEWS : Hid (∀ i u, (clsC x1)[i]? = some u → wr.cell? ((⟨b1, o1, none⟩ : Addr).add i) = some u) := fun i u hu => by rw [Addr.add_lit]; exact ok3 i u hu
          have HLEN : Hid ((clsC x1).length = n1 * 3) := by show _ = _; rw [clsC_len, ok2]
          have HONE := Lib.hid (clsC_one x1)
          clear ok0 ok2 ok3 hpn hjn hown hb hGb
          go_wp2_with (at_builtin; refine wpList_append_own _ rfl (.tmp 31) (.tmp 32) 33 rfl w.heap.size 25 i0 (.agg #[.int .i64 0, .int .i64 0, .int .i64 0]) 3 24 Try.underlying33 HI.out HZ0.out HZ1.out HZ2.out rfl (by decide) (.slice E (partK rs j) d) (partK rs j) _ rfl HOWN.out ⟨b1, o1, none⟩ n1 d1 (clsC x1) rfl HLEN.out HNEWS.out HONE.out (by unfold maxLen; omega) (by omega) hbs ?_; intro v' w2 hown2 hg2 _)
          obtain ⟨E2, d2, rfl⟩ := own_shapeC hown2
          have HO2 := Lib.hid hown2
          have HE := Lib.hid (HB.out.grown hg2 hbs (fun kk hkk => (HOWN.out.lt kk hkk).1))
          clear hown2 hg2
          go_roundw
          case rel => exact ⟨j + 1, E2, d2, by omega, by go_num, by rw [HPN.out], by rw [HPN.out, HJN.out, clsC_app]; exact HO2.out, HE.out⟩
          case measure => simp [intOf]; omega
        · obtain rfl : j = k := by omega
          go_wp2
          go_ret
          have hl := joinK_len HG.out (k := j) (by have := HX.out; omega)
          exact ⟨E, d, by rw [hl]; rfl, by rw [hl]; exact hown, hb⟩
end Go.Proofs.Ytcoagbcleccmmaa

namespace Go.Proofs.Ytcoagbcleccmmaa
open Go.RowKit

theorem own_freshK {w : World} {lo n c : Nat} {ty : TypeId} {A : Option Addr} {xs : List Value} (h : w.ownsRow lo ty 3 (.slice A n c) n xs) : Fresh w lo w.heap.size ty A xs := by
  obtain ⟨hl, ⟨-, h0⟩ | ⟨g, cap, cur, hv, hg, hh, hnc, -, hcs, ht⟩⟩ := h
  · left
    apply List.eq_nil_of_length_eq_zero
    omega
  · cases hv
    refine .inr ⟨g, cur, rfl, hg, (Array.getElem?_eq_some_iff.1 hh).1, hh, ?_, ?_⟩
    · omega
    · rw [hl]; exact ht
/-- What a call hands back that makes a puzzle and tells whether it did. -/
def PuzPost (p : Int) (l : List Cl) (ok : Bool) (w : World) (e : Ending) (w' : World) : Prop :=
  ∃ (A : Option Addr) (q : Nat), e = .returned (.tuple #[.agg #[.int .i64 p, .slice A l.length q], .bool ok]) ∧ Fresh w' w.heap.size w'.heap.size 25 A (clsC l) ∧ Below w.heap.size w w'
def drOk (p : Int) (cs : List Cl) (k : Int) : Bool := pzOk p cs && within k 0 ((cs.length : Int) - 1)
def drP (p : Int) (cs : List Cl) (k : Int) : Int := if drOk p cs k then p else 0
def drL (p : Int) (cs : List Cl) (k : Int) : List Cl := if drOk p cs k then woC cs k.toNat else []
theorem dr_no {p : Int} {cs : List Cl} {k : Int} (h : drOk p cs k = false) : drP p cs k = 0 ∧ drL p cs k = [] := by simp [drP, drL, h]
theorem dr_yes {p : Int} {cs : List Cl} {k : Int} (h : drOk p cs k = true) : drP p cs k = p ∧ drL p cs k = woC cs k.toNat := by simp [drP, drL, h]
theorem drOk_iff {p : Int} {cs : List Cl} {k : Int} : drOk p cs k = true ↔ pzOk p cs = true ∧ 0 ≤ k ∧ k < cs.length := by
  simp only [drOk, Bool.and_eq_true, within_iff]
  constructor
  · rintro ⟨h1, h2, h3⟩; exact ⟨h1, h2, by omega⟩
  · rintro ⟨h1, h2, h3⟩; exact ⟨h1, h2, by omega⟩

set_option maxHeartbeats 1600000 in
set_option maxRecDepth 100000 in
theorem implDropK_no (p : Int) (A : Option Addr) (n c : Nat) (cs : List Cl) (k : Int) (w : World) (hA : Holds w A (clsC cs)) (hx : cs.length = n) (hn : n ≤ 1048576) (hno : drOk p cs k = false) :
    Calls Try.prog 46 #[.agg #[.int .i64 p, .slice A n c], .int .i64 k] w (PuzPost (drP p cs k) (drL p cs k) (drOk p cs k) w) := by
  have HX := Lib.hid hx
  have HS := Lib.hid hno
  have hA2 := (hA.alloc (.cells #[.int .i64 p, .slice A n c] 35)).alloc (.cells #[.int .i64 0, .slice none 0 0] 35)
  have h0 := (Whole.fresh w 35 #[.int .i64 p, .slice A n c]).alloc (.cells #[.int .i64 0, .slice none 0 0] 35)
  have h1 := Whole.fresh (w.alloc (.cells #[.int .i64 p, .slice A n c] 35)) 35 #[.int .i64 0, .slice none 0 0]
  rw [World.size_alloc] at h1
  have HNO : Hid (pzOk p cs = true → k < 0 ∨ (n : Int) ≤ k) := by
    intro ha
    have h : ¬ (pzOk p cs = true ∧ 0 ≤ k ∧ k < cs.length) := fun h => by rw [drOk_iff.2 h] at hno; cases hno
    simp only [ha, true_and, hx] at h
    omega
  clear hx hno
  cases hp : pzOk p cs
  · have HP := Lib.hid hp
    clear hp
    go_enter Try.func46, Try.ntmps46
    go_wp2_with fail
    refine (isPuzzle_any p A n c cs _ hA2 HX.out hn).mono ?_
    rintro e w1 ⟨rfl, hb⟩
    rw [HP.out]
    have ht := below_then (below2 w _ _) hb (by simp; omega)
    have hr := h1.below hb
    have hlr := hr.lt
    obtain ⟨r0, r1, f0, f1⟩ := hr.two
    clear h0 h1 hb hA2
    go_wp2
    refine bodyPost_ret (v := .tuple #[.agg #[.int .i64 0, .slice none 0 0], .bool false]) (by simp [results, Try.results46, go_sem, r0, r1]) rfl ⟨none, 0, by rw [(dr_no HS.out).1, (dr_no HS.out).2, HS.out]; rfl, by rw [(dr_no HS.out).2]; exact .inl rfl, ?_⟩
    exact below_set (below_set ht (by omega)) (by omega)
  rcases (show k < 0 ∨ (¬ k < 0 ∧ (n : Int) ≤ k) by have := HNO.out hp; omega) with hk | ⟨hk, hkn⟩
  all_goals
    have HP := Lib.hid hp
    clear hp HNO
    go_enter Try.func46, Try.ntmps46
    go_wp2_with fail
    refine (isPuzzle_any p A n c cs _ hA2 HX.out hn).mono ?_
    rintro e w1 ⟨rfl, hb⟩
    rw [HP.out]
    have ht := below_then (below2 w _ _) hb (by simp; omega)
    have hp1 := h0.below hb
    obtain ⟨k0, k1, -, -⟩ := hp1.two
    have hr := h1.below hb
    have hlr := hr.lt
    obtain ⟨r0, r1, f0, f1⟩ := hr.two
    clear h0 h1 hb hA2
    go_wp2
    refine bodyPost_ret (v := .tuple #[.agg #[.int .i64 0, .slice none 0 0], .bool false]) (by simp [results, Try.results46, go_sem, r0, r1]) rfl ⟨none, 0, by rw [(dr_no HS.out).1, (dr_no HS.out).2, HS.out]; rfl, by rw [(dr_no HS.out).2]; exact .inl rfl, ?_⟩
    exact below_set (below_set ht (by omega)) (by omega)

set_option maxHeartbeats 3200000 in
set_option maxRecDepth 100000 in
theorem implDropK_on (p : Int) (b o n c k : Nat) (cs : List Cl) (w : World) (hA : Holds w (some ⟨b, o, none⟩) (clsC cs)) (hb0 : b < w.heap.size) (hx : cs.length = n) (hn : n ≤ 1048576) (hc : n ≤ c) (hcc : c ≤ 1048576) (hp : pzOk p cs = true) (hk : k < n) :
    Calls Try.prog 46 #[.agg #[.int .i64 p, .slice (some ⟨b, o, none⟩) n c], .int .i64 (k : Int)] w (PuzPost p (woC cs k) true w) := by
  have HX := Lib.hid hx
  have HP := Lib.hid hp
  have HA := Lib.hid ((hA.alloc (.cells #[.int .i64 p, .slice (some ⟨b, o, none⟩) n c] 35)).alloc (.cells #[.int .i64 0, .slice none 0 0] 35))
  have h0 := (Whole.fresh w 35 #[.int .i64 p, .slice (some ⟨b, o, none⟩) n c]).alloc (.cells #[.int .i64 0, .slice none 0 0] 35)
  have h1 := Whole.fresh (w.alloc (.cells #[.int .i64 p, .slice (some ⟨b, o, none⟩) n c] 35)) 35 #[.int .i64 0, .slice none 0 0]
  rw [World.size_alloc] at h1
  have HB0 := Lib.hid hb0
  have hnk : ¬ ((n : Int) ≤ k) := by omega
  have hnk2 : ¬ (n ≤ k) := by omega
  have hk00 : ¬ ((k : Int) < 0) := by omega
  clear hx hp hA hb0
  go_enter Try.func46, Try.ntmps46
  go_wp2_with fail
  refine (isPuzzle_any p _ n c cs _ HA.out HX.out hn).mono ?_
  rintro e w1 ⟨rfl, hb⟩
  rw [HP.out]
  have ht := below_then (below2 w _ _) hb (by simp; omega)
  have hq := h0.below hb
  obtain ⟨k0, k1⟩ := hq.cells2
  have hlq := hq.lt
  have hr := h1.below hb
  have hlr := hr.lt
  obtain ⟨r0, r1, f0, f1⟩ := hr.two
  have hA1 := HA.out.below hb
  have hbl1 : b < w1.heap.size := by have := HB0.out; have := ht.size; omega
  clear h0 h1 hb
  obtain ⟨HHD, d, hd, HTL⟩ := cls_parts hA1 HX.out hk hc
  have HHQ := Lib.hid hq
  have HHR := Lib.hid hr
  have HT := Lib.hid ht
  clear hq hr ht hA1
  have hki0 : (0 : Int) ≤ k := by omega
  have hkc : (k : Int) ≤ c := by omega
  have hkc2 : k ≤ c := by omega
  have hp0 : (0 : Int) ≤ (k : Int) + 1 := by omega
  have hp1 : (k : Int) + 1 ≤ (n : Int) := by omega
  have hp2 : ((k : Int) + 1).toNat = k + 1 := by omega
  have hp3 : k + 1 ≤ n := by omega
  have hwr : IntKind.i64.wrap ((k : Int) + 1) = (k : Int) + 1 := IntWalk.i64_in _ (by omega)
  go_wp2_with fail
  have hlen0 : ([⟨b, o, k, c, cs.take k⟩, ⟨b, d, n - (k + 1), c - (k + 1), cs.drop (k + 1)⟩] : List RowK).length = 2 := rfl
  have HG : Hid (GridK (w1.drew.alloc (.cells #[.slice (some ⟨b, o, none⟩) k c, .slice (some ⟨b, d, none⟩) (n - (k + 1)) (c - (k + 1))] 33)) w1.heap.size [⟨b, o, k, c, cs.take k⟩, ⟨b, d, n - (k + 1), c - (k + 1), cs.drop (k + 1)⟩]) := by
    have hW := Whole.fresh w1.drew 33 #[.slice (some ⟨b, o, none⟩) k c, .slice (some ⟨b, d, none⟩) (n - (k + 1)) (c - (k + 1))]
    have hbw := below1 w1.drew (.cells #[.slice (some ⟨b, o, none⟩) k c, .slice (some ⟨b, d, none⟩) (n - (k + 1)) (c - (k + 1))] 33)
    obtain ⟨e0, e1⟩ := hW.cells2
    refine ⟨hW.lt, fun j hj => ?_, fun j hj => ?_⟩
    · rcases (show j = 0 ∨ j = 1 by simp at hj; omega) with rfl | rfl
      · exact e0
      · exact e1
    · rcases (show j = 0 ∨ j = 1 by simp at hj; omega) with rfl | rfl
      · refine ⟨by simp [RowK.b]; omega, by show (cs.take k).length = k; rw [List.length_take, HX.out]; omega, fun i u hu => ?_⟩
        exact (hbw.cell (p := ⟨b, o + i, none⟩) hbl1).trans (HHD.out i u hu)
      · refine ⟨by simp [RowK.b]; omega, by show (cs.drop (k + 1)).length = n - (k + 1); rw [List.length_drop, HX.out], fun i u hu => ?_⟩
        exact (hbw.cell (p := ⟨b, d + i, none⟩) hbl1).trans (HTL.out i u hu)
  have HPT : Hid (∀ j, j ≤ 2 → partK [⟨b, o, k, c, cs.take k⟩, ⟨b, d, n - (k + 1), c - (k + 1), cs.drop (k + 1)⟩] j ≤ 1048576) := fun j hj => by
    rcases (show j = 0 ∨ j = 1 ∨ j = 2 by omega) with rfl | rfl | rfl
    · simp [partK]
    · simp [partK]; omega
    · simp [partK]; omega
  have HJN : Hid (joinK [⟨b, o, k, c, cs.take k⟩, ⟨b, d, n - (k + 1), c - (k + 1), cs.drop (k + 1)⟩] 2 = woC cs k) := by show _ = _; simp [joinK, woC]
  clear hlen0
  go_region_held3 (fun w' => w'.cell? ⟨w.heap.size, 0, none⟩ = some (.int .i64 p) ∧ w'.cell? ⟨w.heap.size, 1, none⟩ = some (.slice (some ⟨b, o, none⟩) n c)) (go_keep)
    (first | (go_at_call 72; refine (concatK_any w1.heap.size 2 2 [⟨b, o, k, c, cs.take k⟩, ⟨b, d, n - (k + 1), c - (k + 1), cs.drop (k + 1)⟩] _ HG.out rfl (by omega) HPT.out).mono ?_; rintro e w2 ⟨A2, q2, rfl, hown2, hb2⟩; rw [HJN.out] at hown2 ⊢; have hc2 : Below w1.heap.size w1 w2 := below_then ((Below.refl w1.heap.size w1).drew.alloc (Nat.le_refl _) (.cells #[.slice (some ⟨b, o, none⟩) k c, .slice (some ⟨b, d, none⟩) (n - (k + 1)) (c - (k + 1))] 33)) hb2 (by simp); have hq2 := HHQ.out.below hc2; obtain ⟨k2, k3⟩ := hq2.cells2; have hlq2 := hq2.lt; have hr2 := HHR.out.below hc2; obtain ⟨r2, r3, f2, f3⟩ := hr2.two; have hlr2 := hr2.lt; have HO2 := Lib.hid hown2; have HC2 := Lib.hid hc2; have HZ2 := Lib.hid hb2.size; clear hown2 hb2 hq2 hr2))
  have hsz3 : w1.heap.size ≤ w2.heap.size := HC2.out.size
  have hbw : Below w.heap.size w w2 := below_then HT.out HC2.out HT.out.size
  have hf := own_freshK HO2.out
  have HF := Lib.hid (((hf.set_out (b := w.heap.size + 1) (o := 0) (u := .int .i64 p) (.inl (by first | omega | (simp; omega)))).set_out (b := w.heap.size + 1) (o := 1) (u := .slice A2 (woC cs k).length q2) (.inl (by first | omega | (simp; omega)))).more (lo' := w.heap.size) (hi' := w2.heap.size) (by first | omega | (simp; omega)) (Nat.le_refl _))
  clear hf
  go_wp2
  refine bodyPost_ret (v := .tuple #[.agg #[.int .i64 p, .slice A2 (woC cs k).length q2], .bool true]) (by simp [results, Try.results46, go_sem, r2, r3]) rfl ⟨A2, q2, rfl, ?_, ?_⟩
  · have h := HF.out
    simpa [World.setCell] using h
  · exact below_set (below_set hbw (by omega)) (by omega)
theorem implDropK_any (p : Int) (b o n c : Nat) (cs : List Cl) (k : Int) (w : World) (hA : Holds w (some ⟨b, o, none⟩) (clsC cs)) (hb : b < w.heap.size) (hx : cs.length = n) (hn : n ≤ 1048576) (hc : n ≤ c) (hcc : c ≤ 1048576) :
    Calls Try.prog 46 #[.agg #[.int .i64 p, .slice (some ⟨b, o, none⟩) n c], .int .i64 k] w (PuzPost (drP p cs k) (drL p cs k) (drOk p cs k) w) := by
  cases hok : drOk p cs k
  · rw [← hok]
    exact implDropK_no p _ n c cs k w hA hx hn hok
  · obtain ⟨hp, h0, h1⟩ := drOk_iff.1 hok
    obtain ⟨e1, e2⟩ := dr_yes hok
    obtain ⟨j, rfl⟩ := Int.eq_ofNat_of_zero_le h0
    rw [e1, e2]
    exact implDropK_on p b o n c j cs w hA hb hx hn hc hcc hp (by omega)
end Go.Proofs.Ytcoagbcleccmmaa

namespace Go.Proofs.Ytcoagbcleccmmaa
open Go.RowKit

theorem drL_le {p : Int} {cs : List Cl} {k : Int} (h : cs.length ≤ 1048576) : (drL p cs k).length ≤ 1048576 := by
  cases hok : drOk p cs k
  · rw [(dr_no hok).2]; simp
  · rw [(dr_yes hok).2]
    simp only [woC, List.length_append, List.length_take, List.length_drop]
    omega
set_option maxHeartbeats 1600000 in
set_option maxRecDepth 100000 in
theorem specDropK_no (p : Int) (A : Option Addr) (n c : Nat) (cs : List Cl) (k : Int) (w : World) (hA : Holds w A (clsC cs)) (hx : cs.length = n) (hn : n ≤ 1048576) (hno : drOk p cs k = false) :
    Calls Try.prog 45 #[.agg #[.int .i64 p, .slice A n c], .int .i64 k] w (PuzPost (drP p cs k) (drL p cs k) (drOk p cs k) w) := by
  have HX := Lib.hid hx
  have HS := Lib.hid hno
  have hA2 := (hA.alloc (.cells #[.int .i64 p, .slice A n c] 35)).alloc (.cells #[.int .i64 0, .slice none 0 0] 35)
  have h0 := (Whole.fresh w 35 #[.int .i64 p, .slice A n c]).alloc (.cells #[.int .i64 0, .slice none 0 0] 35)
  have h1 := Whole.fresh (w.alloc (.cells #[.int .i64 p, .slice A n c] 35)) 35 #[.int .i64 0, .slice none 0 0]
  rw [World.size_alloc] at h1
  have HNO : Hid (pzOk p cs = true → k < 0 ∨ (n : Int) ≤ k) := by
    intro ha
    have h : ¬ (pzOk p cs = true ∧ 0 ≤ k ∧ k < cs.length) := fun h => by rw [drOk_iff.2 h] at hno; cases hno
    simp only [ha, true_and, hx] at h
    omega
  clear hx hno
  cases hp : pzOk p cs
  · have HP := Lib.hid hp
    clear hp
    go_enter Try.func45, Try.ntmps45
    go_wp2_with fail
    refine (pzGood_any p A n c cs _ hA2 HX.out (by omega)).mono ?_
    rintro e w1 ⟨rfl, hb⟩
    rw [HP.out]
    have ht := below_then (below2 w _ _) hb (by simp; omega)
    have hr := h1.below hb
    have hlr := hr.lt
    obtain ⟨r0, r1, f0, f1⟩ := hr.two
    clear h0 h1 hb hA2
    go_wp2
    refine bodyPost_ret (v := .tuple #[.agg #[.int .i64 0, .slice none 0 0], .bool false]) (by simp [results, Try.results45, go_sem, r0, r1]) rfl ⟨none, 0, by rw [(dr_no HS.out).1, (dr_no HS.out).2, HS.out]; rfl, by rw [(dr_no HS.out).2]; exact .inl rfl, ?_⟩
    exact below_set (below_set ht (by omega)) (by omega)
  have HW : Hid (within k 0 ((n : Int) - 1) = false) := by
    show _ = _
    have := HNO.out hp
    cases h : within k 0 ((n : Int) - 1)
    · rfl
    · obtain ⟨h1, h2⟩ := within_iff.1 h
      omega
  have HP := Lib.hid hp
  clear hp HNO
  go_enter Try.func45, Try.ntmps45
  go_wp2_with fail
  refine (pzGood_any p A n c cs _ hA2 HX.out (by omega)).mono ?_
  rintro e w1 ⟨rfl, hb⟩
  rw [HP.out]
  have ht := below_then (below2 w _ _) hb (by simp; omega)
  have hp1 := h0.below hb
  obtain ⟨k0, k1, -, -⟩ := hp1.two
  have hr := h1.below hb
  have hlr := hr.lt
  obtain ⟨r0, r1, f0, f1⟩ := hr.two
  clear h0 h1 hb hA2
  go_wp2_with fail
  refine (l1In_any _ _ _ _).mono ?_
  rintro e w' ⟨rfl, rfl⟩
  rw [HW.out]
  go_wp2
  refine bodyPost_ret (v := .tuple #[.agg #[.int .i64 0, .slice none 0 0], .bool false]) (by simp [results, Try.results45, go_sem, r0, r1]) rfl ⟨none, 0, by rw [(dr_no HS.out).1, (dr_no HS.out).2, HS.out]; rfl, by rw [(dr_no HS.out).2]; exact .inl rfl, ?_⟩
  exact below_set (below_set ht (by omega)) (by omega)

set_option maxHeartbeats 3200000 in
set_option maxRecDepth 100000 in
theorem specDropK_on (p : Int) (b o n c k : Nat) (cs : List Cl) (w : World) (hA : Holds w (some ⟨b, o, none⟩) (clsC cs)) (hb0 : b < w.heap.size) (hx : cs.length = n) (hn : n ≤ 1048576) (hc : n ≤ c) (hcc : c ≤ 1048576) (hp : pzOk p cs = true) (hk : k < n) :
    Calls Try.prog 45 #[.agg #[.int .i64 p, .slice (some ⟨b, o, none⟩) n c], .int .i64 (k : Int)] w (PuzPost p (woC cs k) true w) := by
  have HX := Lib.hid hx
  have HP := Lib.hid hp
  have HA := Lib.hid ((hA.alloc (.cells #[.int .i64 p, .slice (some ⟨b, o, none⟩) n c] 35)).alloc (.cells #[.int .i64 0, .slice none 0 0] 35))
  have h0 := (Whole.fresh w 35 #[.int .i64 p, .slice (some ⟨b, o, none⟩) n c]).alloc (.cells #[.int .i64 0, .slice none 0 0] 35)
  have h1 := Whole.fresh (w.alloc (.cells #[.int .i64 p, .slice (some ⟨b, o, none⟩) n c] 35)) 35 #[.int .i64 0, .slice none 0 0]
  rw [World.size_alloc] at h1
  have HB0 := Lib.hid hb0
  have hnk : ¬ ((n : Int) ≤ k) := by omega
  have hnk2 : ¬ (n ≤ k) := by omega
  have hk00 : ¬ ((k : Int) < 0) := by omega
  clear hx hp hA hb0
  go_enter Try.func45, Try.ntmps45
  go_wp2_with fail
  refine (pzGood_any p _ n c cs _ HA.out HX.out (by omega)).mono ?_
  rintro e w1 ⟨rfl, hb⟩
  rw [HP.out]
  have ht := below_then (below2 w _ _) hb (by simp; omega)
  have hq := h0.below hb
  obtain ⟨k0, k1⟩ := hq.cells2
  have hlq := hq.lt
  have hr := h1.below hb
  have hlr := hr.lt
  obtain ⟨r0, r1, f0, f1⟩ := hr.two
  have hA1 := HA.out.below hb
  have hbl1 : b < w1.heap.size := by have := HB0.out; have := ht.size; omega
  clear h0 h1 hb
  have HA1 := Lib.hid hA1
  have HBL1 := Lib.hid hbl1
  have HHQ := Lib.hid hq
  have HHR := Lib.hid hr
  have HT := Lib.hid ht
  have HW : Hid (within (k : Int) 0 ((n : Int) - 1) = true) := within_iff.2 ⟨by omega, by omega⟩
  clear hq hr ht hA1 hbl1
  go_wp2_with fail
  refine (l1In_any _ _ _ _).mono ?_
  rintro e w' ⟨rfl, rfl⟩
  rw [HW.out]
  go_wp2_with fail
  go_region_held3 (fun w' => w'.cell? ⟨w.heap.size, 0, none⟩ = some (.int .i64 p) ∧ w'.cell? ⟨w.heap.size, 1, none⟩ = some (.slice (some ⟨b, o, none⟩) n c)) (go_keep)
    (first | (go_at_call 71; refine (pzWithout_any b o n c k cs w1.drew (by exact HA1.out.drew) (by exact HBL1.out) HX.out hn hc hcc hk).mono ?_; rintro e w2 ⟨A2, q2, rfl, hown2, hb2⟩; have hc2 : Below w1.heap.size w1 w2 := below_then (Below.refl w1.heap.size w1).drew hb2 (Nat.le_refl _); have hq2 := HHQ.out.below hc2; obtain ⟨k2, k3⟩ := hq2.cells2; have hlq2 := hq2.lt; have hr2 := HHR.out.below hc2; obtain ⟨r2, r3, f2, f3⟩ := hr2.two; have hlr2 := hr2.lt; have HO2 := Lib.hid hown2; have HC2 := Lib.hid hc2; clear hown2 hb2 hq2 hr2))
  have hsz3 : w1.heap.size ≤ w2.heap.size := HC2.out.size
  have hbw : Below w.heap.size w w2 := below_then HT.out HC2.out HT.out.size
  have hf := own_freshK HO2.out
  have HF := Lib.hid (((hf.set_out (b := w.heap.size + 1) (o := 0) (u := .int .i64 p) (.inl (by first | omega | (simp; omega)))).set_out (b := w.heap.size + 1) (o := 1) (u := .slice A2 (woC cs k).length q2) (.inl (by first | omega | (simp; omega)))).more (lo' := w.heap.size) (hi' := w2.heap.size) (by first | omega | (simp; omega)) (Nat.le_refl _))
  clear hf
  go_wp2
  refine bodyPost_ret (v := .tuple #[.agg #[.int .i64 p, .slice A2 (woC cs k).length q2], .bool true]) (by simp [results, Try.results45, go_sem, r2, r3]) rfl ⟨A2, q2, rfl, ?_, ?_⟩
  · have h := HF.out
    simpa [World.setCell] using h
  · exact below_set (below_set hbw (by omega)) (by omega)
theorem specDropK_any (p : Int) (b o n c : Nat) (cs : List Cl) (k : Int) (w : World) (hA : Holds w (some ⟨b, o, none⟩) (clsC cs)) (hb : b < w.heap.size) (hx : cs.length = n) (hn : n ≤ 1048576) (hc : n ≤ c) (hcc : c ≤ 1048576) :
    Calls Try.prog 45 #[.agg #[.int .i64 p, .slice (some ⟨b, o, none⟩) n c], .int .i64 k] w (PuzPost (drP p cs k) (drL p cs k) (drOk p cs k) w) := by
  cases hok : drOk p cs k
  · rw [← hok]
    exact specDropK_no p _ n c cs k w hA hx hn hok
  · obtain ⟨hp, h0, h1⟩ := drOk_iff.1 hok
    obtain ⟨e1, e2⟩ := dr_yes hok
    obtain ⟨j, rfl⟩ := Int.eq_ofNat_of_zero_le h0
    rw [e1, e2]
    exact specDropK_on p b o n c j cs w hA hb hx hn hc hcc hp (by omega)
theorem drop_spot {w : World} {b o : Nat} {cs : List Cl} (h : Holds w (some ⟨b, o, none⟩) (clsC cs)) (h0 : 0 < cs.length) : b < w.heap.size := by
  rcases h with h | ⟨b', o', hA, hb, -⟩
  · have := clsC_len cs
    rw [h] at this
    simp at this
    omega
  · cases hA
    exact hb
theorem specDropK_at (p : Int) (b o n c : Nat) (cs : List Cl) (k : Int) (w : World) (hA : Holds w (some ⟨b, o, none⟩) (clsC cs)) (hx : cs.length = n) (hn : n ≤ 1048576) (hc : n ≤ c) (hcc : c ≤ 1048576) :
    Calls Try.prog 45 #[.agg #[.int .i64 p, .slice (some ⟨b, o, none⟩) n c], .int .i64 k] w (PuzPost (drP p cs k) (drL p cs k) (drOk p cs k) w) := by
  cases hok : drOk p cs k
  · rw [← hok]
    exact specDropK_no p _ n c cs k w hA hx hn hok
  · rw [← hok]
    obtain ⟨-, h0, h1⟩ := drOk_iff.1 hok
    exact specDropK_any p b o n c cs k w hA (drop_spot hA (by omega)) hx hn hc hcc
theorem implDropK_at (p : Int) (b o n c : Nat) (cs : List Cl) (k : Int) (w : World) (hA : Holds w (some ⟨b, o, none⟩) (clsC cs)) (hx : cs.length = n) (hn : n ≤ 1048576) (hc : n ≤ c) (hcc : c ≤ 1048576) :
    Calls Try.prog 46 #[.agg #[.int .i64 p, .slice (some ⟨b, o, none⟩) n c], .int .i64 k] w (PuzPost (drP p cs k) (drL p cs k) (drOk p cs k) w) := by
  cases hok : drOk p cs k
  · rw [← hok]
    exact implDropK_no p _ n c cs k w hA hx hn hok
  · rw [← hok]
    obtain ⟨-, h0, h1⟩ := drOk_iff.1 hok
    exact implDropK_any p b o n c cs k w hA (drop_spot hA (by omega)) hx hn hc hcc
end Go.Proofs.Ytcoagbcleccmmaa

namespace Go.Proofs.Ytcoagbcleccmmaa
open Go.RowKit

set_option maxHeartbeats 1600000 in
theorem markClueS_any (A : Option Addr) (n c lo hi : Nat) (cs : List Cl) (q : Int) (w : World) (hf : Fresh w lo hi 25 A (clsC cs)) (hx : cs.length = n) (h0 : 0 ≤ q) (h1 : q ≤ 2305843009213693952) (hn : n ≤ 1048576) :
    Calls Try.prog 68 #[.slice A n c, .int .i64 q] w fun e w' => e = .returned (.int .i64 (q + ((n * 3 : Nat) : Int))) ∧ Span lo hi w w' ∧ Fresh w' lo hi 25 A (nums (marksI q (n * 3))) := by
  subst hx
  have hlc := clsC_len cs
  generalize clsC cs = xs at hf hlc
  generalize cs.length = n at *
  rcases hf with rfl | ⟨g, cells, rfl, hlo, hhi, hw, hle, htk⟩
  · have hn0 : n = 0 := by simp at hlc; omega
    subst hn0
    go_enter Try.func68, Try.ntmps68
    go_wp2
    refine wp_loop_rounds 1 ?_
    rw [rounds_succ]
    go_wp2
    go_ret
    exact ⟨ret_of (by simp), Span.refl _ _ _, .inl (by simp [marksI, nums])⟩
  · have HT := Lib.hid htk
    have HLC := Lib.hid hlc
    have hsz : n * 3 ≤ cells.size := by omega
    have HSZ := Lib.hid hsz
    clear htk hlc hle hsz
    have hm0 : Whole w g 25 (marked (fun i : Nat => .int .i64 (q + (i : Int))) cells (0 * 3)) := by rw [Nat.zero_mul, marked_zero]; exact hw
    have hgl := hw.lt
    go_enter Try.func68, Try.ntmps68
    go_wp2
    go_loopw [1, 5] (fun v i wr => ∃ k : Nat, k ≤ n ∧ i = .int .i64 k ∧ v = .int .i64 (q + ((k * 3 : Nat) : Int)) ∧ Whole wr g 25 (marked (fun i : Nat => .int .i64 (q + (i : Int))) cells (k * 3)) ∧ Span lo hi w wr) (fun _ i _ => n - (intOf i).toNat)
    case atStart => exact ⟨0, Nat.zero_le _, rfl, by simp, hm0, Span.refl _ _ _⟩
    case round =>
      obtain ⟨k, hk, rfl, rfl, hm, hs⟩ := hrel
      clear hm0 hw
      by_cases hlt : k < n
      · have hs3 := HSZ.out
        have hks : k * 3 + 2 < cells.size := by omega
        have h00 : (marked (fun i : Nat => .int .i64 (q + (i : Int))) cells (k * 3)).size = cells.size := by simp [marked]; omega
        obtain ⟨u0, hu0⟩ : ∃ u, (marked (fun i : Nat => .int .i64 (q + (i : Int))) cells (k * 3))[k * 3]? = some u := ⟨_, Array.getElem?_eq_getElem (by omega)⟩
        obtain ⟨u1, hu1⟩ : ∃ u, (marked (fun i : Nat => .int .i64 (q + (i : Int))) cells (k * 3))[k * 3 + 1]? = some u := ⟨_, Array.getElem?_eq_getElem (by omega)⟩
        obtain ⟨u2, hu2⟩ : ∃ u, (marked (fun i : Nat => .int .i64 (q + (i : Int))) cells (k * 3))[k * 3 + 2]? = some u := ⟨_, Array.getElem?_eq_getElem (by omega)⟩
        have c0 := (hm.cell (k * 3)).trans hu0
        have c1 := (hm.cell (k * 3 + 1)).trans hu1
        have c2 := (hm.cell (k * 3 + 2)).trans hu2
        have f0 := hm.open_ (k * 3)
        have f1 := hm.open_ (k * 3 + 1)
        have f2 := hm.open_ (k * 3 + 2)
        obtain ⟨z, hz⟩ : ∃ z : Int, z = q + ((k * 3 : Nat) : Int) := ⟨_, rfl⟩
        have hset := ((hm.set_ (k * 3) (.int .i64 (q + ((k * 3 : Nat) : Int)))).set_ (k * 3 + 1) (.int .i64 (q + ((k * 3 + 1 : Nat) : Int)))).set_ (k * 3 + 2) (.int .i64 (q + ((k * 3 + 2 : Nat) : Int)))
        rw [marked_next (fun i : Nat => .int .i64 (q + (i : Int))) cells (k := k * 3) (by omega), marked_next (fun i : Nat => .int .i64 (q + (i : Int))) cells (k := k * 3 + 1) (by omega), marked_next (fun i : Nat => .int .i64 (q + (i : Int))) cells (k := k * 3 + 2) (by omega), show q + ((k * 3 + 1 : Nat) : Int) = z + 1 by omega, show q + ((k * 3 + 2 : Nat) : Int) = z + 1 + 1 by omega, ← hz] at hset
        have HSET := Lib.hid hset
        have HSP := Lib.hid hs
        have hz0 : 0 ≤ z := by omega
        have hz1 : z ≤ 4611686018427387904 := by omega
        have HZ := Lib.hid hz
        rw [← hz]
        have hkl : (k : Int) < n := by omega
        clear hm hs hset hu0 hu1 hu2 h00 hz hs3
        have hw1 : IntKind.i64.wrap (z + 1) = z + 1 := IntWalk.i64_in _ (by omega)
        have hw2 : IntKind.i64.wrap (z + 1 + 1) = z + 1 + 1 := IntWalk.i64_in _ (by omega)
        have hw3 : IntKind.i64.wrap (z + 1 + 1 + 1) = z + 1 + 1 + 1 := IntWalk.i64_in _ (by omega)
        go_wp2
        go_roundw
        case rel => exact ⟨k + 1, by omega, by go_num, congrArg _ (by have := HZ.out; omega), by rw [show (k + 1) * 3 = k * 3 + 2 + 1 by omega]; exact HSET.out, HSP.out.trans ⟨rfl, rfl, rfl, by simp [World.setCell], fun j _ hj => ((Below.heap_setCell _ _ _ _ (by show j ≠ g; omega)).trans (Below.heap_setCell _ _ _ _ (by show j ≠ g; omega))).trans (Below.heap_setCell _ _ _ _ (by show j ≠ g; omega))⟩⟩
        case measure => simp [intOf]; omega
      · have hkn : k = n := by omega
        subst hkn
        go_wp2
        go_ret
        refine ⟨rfl, hs, .inr ⟨g, _, rfl, hlo, hhi, hm, ?_, ?_⟩⟩
        · simp [nums_len, marksI_len, marked]
        · rw [nums_len, marksI_len, marked_take _ _ _]
          simp [nums, marksI]

set_option maxHeartbeats 1600000 in
theorem heldClueS_any (A : Option Addr) (n c : Nat) (q : Int) (w : World) (hA : Holds w A (nums (marksI q (n * 3)))) (h0 : 0 ≤ q) (h1 : q ≤ 2305843009213693952) (hn : n ≤ 1048576) :
    Calls Try.prog 73 #[.slice A n c, .int .i64 q] w fun e w' => e = .returned (.int .i64 (q + ((n * 3 : Nat) : Int))) ∧ w = w' := by
  have hl := marksI_len q (n * 3)
  have HL := Lib.hid hl
  clear hl
  go_enter Try.func73, Try.ntmps73
  go_wp2
  go_loop [1, 5] (fun v i => ∃ k : Nat, k ≤ n ∧ i = .int .i64 k ∧ v = .int .i64 (q + ((k * 3 : Nat) : Int))) (fun _ i => n - (intOf i).toNat)
  case atStart => exact ⟨0, Nat.zero_le _, rfl, by simp⟩
  case round =>
    obtain ⟨k, hk, rfl, rfl⟩ := hrel
    by_cases hlt : k < n
    · obtain ⟨b, o, rfl, hb, hc0⟩ := hA.look (k := k * 3) (by rw [nums_len, HL.out]; omega)
      obtain ⟨b1, o1, hA1, hb1, hc1⟩ := hA.look (k := k * 3 + 1) (by rw [nums_len, HL.out]; omega)
      obtain ⟨b2, o2, hA2, hb2, hc2⟩ := hA.look (k := k * 3 + 2) (by rw [nums_len, HL.out]; omega)
      obtain ⟨rfl, rfl⟩ : b = b1 ∧ o = o1 := by
        simp only [Option.some.injEq, Addr.mk.injEq] at hA1
        exact ⟨hA1.1, hA1.2.1⟩
      obtain ⟨rfl, rfl⟩ : b = b2 ∧ o = o2 := by
        simp only [Option.some.injEq, Addr.mk.injEq] at hA2
        exact ⟨hA2.1, hA2.2.1⟩
      obtain ⟨z, hz⟩ : ∃ z : Int, z = q + ((k * 3 : Nat) : Int) := ⟨_, rfl⟩
      have hv0 : (nums (marksI q (n * 3)))[k * 3]'(by rw [nums_len, HL.out]; omega) = .int .i64 z := by simp [nums, marksI, hz]
      have hv1 : (nums (marksI q (n * 3)))[k * 3 + 1]'(by rw [nums_len, HL.out]; omega) = .int .i64 (z + 1) := by simp [nums, marksI, hz]; omega
      have hv2 : (nums (marksI q (n * 3)))[k * 3 + 2]'(by rw [nums_len, HL.out]; omega) = .int .i64 (z + 1 + 1) := by simp [nums, marksI, hz]; omega
      rw [hv0] at hc0
      rw [hv1] at hc1
      rw [hv2] at hc2
      rw [← Nat.add_assoc] at hc1 hc2
      have hkl : (k : Int) < n := by omega
      have hw1 : IntKind.i64.wrap (z + 1) = z + 1 := IntWalk.i64_in _ (by omega)
      have hw2 : IntKind.i64.wrap (z + 1 + 1) = z + 1 + 1 := IntWalk.i64_in _ (by omega)
      have hw3 : IntKind.i64.wrap (z + 1 + 1 + 1) = z + 1 + 1 + 1 := IntWalk.i64_in _ (by omega)
      have hn0 : (z != z) = false := by simp
      have hn1 : (z + 1 != z + 1) = false := by simp
      have hn2 : (z + 1 + 1 != z + 1 + 1) = false := by simp
      have HZ := Lib.hid hz
      rw [← hz]
      clear hv0 hv1 hv2 hA1 hA2 hb1 hb2 hz
      go_wp2
      go_round
      case rel => exact ⟨k + 1, by omega, by go_num, congrArg _ (by have := HZ.out; omega)⟩
      case measure => simp [intOf]; omega
    · have hkn : k = n := by omega
      subst hkn
      go_wp2
      go_ret
      exact ⟨rfl, rfl⟩

set_option maxHeartbeats 400000 in
theorem markPuzzle_any (s : Int) (A : Option Addr) (n c lo hi : Nat) (cs : List Cl) (q : Int) (w : World) (hf : Fresh w lo hi 25 A (clsC cs)) (hx : cs.length = n) (h0 : 0 ≤ q) (h1 : q ≤ 2305843009213693952) (hn : n ≤ 1048576) :
    Calls Try.prog 34 #[.agg #[.int .i64 s, .slice A n c], .int .i64 q] w fun e w' => e = .returned (.int .i64 (q + ((n * 3 : Nat) : Int))) ∧ Span lo hi w w' ∧ Fresh w' lo hi 25 A (nums (marksI q (n * 3))) := by
  have HX := Lib.hid hx
  clear hx
  go_enter Try.func34, Try.ntmps34
  go_wp2_with fail
  refine (markClueS_any A n c lo hi cs q _ (hf.alloc _) HX.out h0 h1 hn).mono ?_
  rintro e w1 ⟨rfl, hs, hf1⟩
  have HS := Lib.hid hs
  have HF := Lib.hid hf1
  clear hs hf1
  go_wp2
  go_ret
  exact ⟨rfl, (Span.of_below (below1 w _) lo hi).trans HS.out, HF.out⟩

set_option maxHeartbeats 400000 in
theorem heldPuzzle_any (A : Option Addr) (n c : Nat) (s q : Int) (w : World) (hA : Holds w A (nums (marksI q (n * 3)))) (h0 : 0 ≤ q) (h1 : q ≤ 2305843009213693952) (hn : n ≤ 1048576) :
    Calls Try.prog 47 #[.agg #[.int .i64 s, .slice A n c], .int .i64 q] w fun e w' => e = .returned (.int .i64 (q + ((n * 3 : Nat) : Int))) ∧ Below w.heap.size w w' := by
  have hq0 : ¬ (q + ((n * 3 : Nat) : Int) < 0) := by omega
  obtain ⟨z, hz⟩ : ∃ z : Int, z = q + ((n * 3 : Nat) : Int) := ⟨_, rfl⟩
  have H := Lib.hid (heldClueS_any A n c q _ (hA.alloc (.cells #[.int .i64 s, .slice A n c] 35)) h0 h1 hn)
  rw [← hz] at H hq0 ⊢
  clear hA hz
  go_enter Try.func47, Try.ntmps47
  go_wp2_with fail
  refine H.out.mono ?_
  rintro e w1 ⟨rfl, rfl⟩
  go_wp2
  go_ret
  exact ⟨rfl, below1 w _⟩
end Go.Proofs.Ytcoagbcleccmmaa

namespace Go.Proofs.Ytcoagbcleccmmaa
open Go.RowKit

set_option maxHeartbeats 800000 in
set_option linter.unusedVariables false in
theorem lawDropClue_big0 (k0 : Int) (A0 : Option Addr) (n0 c0 : Nat) (x0 : List Cl) (k1 : Int) (w : World) (h0 : Holds w A0 (clsC x0)) (hx0 : x0.length = n0) (hn0 : n0 ≤ 9223372036854775807)  (hbig : 1048576 - (n0 : Int) < 0) :
    Calls Try.prog 12 #[.agg #[.int .i64 k0, .slice A0 n0 c0], .int .i64 k1] w fun e w' => e = .returned (.bool true) ∧ Below w.heap.size w w' := by
  have hb0 := (Whole.fresh w 30 #[.int .i64 k0, .slice A0 n0 c0])
  have ht := below1 w (.cells #[.int .i64 k0, .slice A0 n0 c0] 30)
  have HX0 := Lib.hid hx0
  clear hx0
  obtain ⟨hb0_0, hb0_1⟩ := hb0.cells2
  have hb0_l := hb0.lt
  go_enter Try.func12, Try.ntmps12
  go_wp2_with fail
  refine (szPuzzle_any k0 A0 n0 c0 (1048576) _ (by omega) (by omega) (by omega)).mono ?_
  rintro e v1 ⟨rfl, hb⟩
  rw [if_pos (by omega)]
  have hz1 : w.heap.size + 1 ≤ v1.heap.size := by have := hb.size; simpa using this
  replace ht := below_then ht hb ht.size
  replace hb0 := hb0.below hb
  clear hb
  clear hb0_0 hb0_1 hb0_l
  go_wp2
  go_ret
  exact ⟨rfl, ht⟩

set_option maxHeartbeats 12800000 in
set_option maxRecDepth 100000 in
set_option linter.unusedSimpArgs false in
set_option linter.unusedVariables false in
theorem lawDropClue_small (k0 : Int) (A0 : Option Addr) (n0 c0 : Nat) (x0 : List Cl) (k1 : Int) (w : World) (h0 : Holds w A0 (clsC x0)) (hx0 : x0.length = n0) (hn0 : n0 ≤ 9223372036854775807) (g0 : 0 ≤ 1048576 - (n0 : Int)) :
    Calls Try.prog 12 #[.agg #[.int .i64 k0, .slice A0 n0 c0], .int .i64 k1] w fun e w' => e = .returned (.bool true) ∧ Below w.heap.size w w' := by
  have hb0 := (Whole.fresh w 30 #[.int .i64 k0, .slice A0 n0 c0])
  have ht := below1 w (.cells #[.int .i64 k0, .slice A0 n0 c0] 30)
  have HX0 := Lib.hid hx0
  clear hx0
  have hlen : ((drL k0 x0 k1)).length ≤ 1048576 := drL_le (by rw [HX0.out]; omega)
  obtain ⟨hb0_0, hb0_1⟩ := hb0.cells2
  have hb0_l := hb0.lt
  go_enter Try.func12, Try.ntmps12
  -- region 2
  go_wp2_with fail
  refine (szPuzzle_any k0 A0 n0 c0 (1048576) _ (by omega) (by omega) (by omega)).mono ?_
  rintro e v1 ⟨rfl, hb⟩
  rw [if_neg (by omega)]
  have hz1 : w.heap.size + 1 ≤ v1.heap.size := by have := hb.size; simpa using this
  replace ht := below_then ht hb ht.size
  replace hb0 := hb0.below hb
  clear hb
  clear hb0_0 hb0_1 hb0_l
  obtain ⟨hb0_0, hb0_1⟩ := hb0.cells2
  have hb0_l := hb0.lt
  -- region 5
  go_wp2_with fail
  refine (toPuzzle_own k0 A0 n0 c0 x0 _ (by exact h0.below ht) HX0.out (by omega)).mono ?_
  rintro e v2 ⟨gp0, rfl, hgp0, hwp0, hb⟩
  have hz2 : v1.heap.size ≤ v2.heap.size := by have := hb.size; simpa using this
  replace ht := below_then ht hb ht.size
  replace hb0 := hb0.below hb
  have hp0 := Fresh.of_whole (lo := v1.heap.size) (hi := v2.heap.size) hwp0 (by simpa using hgp0) hwp0.lt
  clear hgp0 hwp0
  clear hb
  clear hb0_0 hb0_1 hb0_l
  obtain ⟨hb0_0, hb0_1⟩ := hb0.cells2
  have hb0_l := hb0.lt
  go_wp2_with fail
  refine (specDropK_at k0 _ _ n0 _ x0 k1 _ (by exact hp0.holds) HX0.out (by omega) (Nat.le_refl _) (by omega)).mono ?_
  rintro e v3 ⟨B0, q0, rfl, hF0, hb⟩
  have hz3 : v2.heap.size ≤ v3.heap.size := by have := hb.size; simpa using this
  replace ht := below_then ht hb ht.size
  replace hb0 := hb0.below hb
  replace hp0 := hp0.below hb
  replace hF0 := hF0.more (lo' := v2.heap.size) (hi' := v3.heap.size) (by simp) (Nat.le_refl _)
  have hR0 := Whole.fresh v3 35 #[.int .i64 (drP k0 x0 k1), .slice B0 ((drL k0 x0 k1)).length q0]
  replace ht := ht.alloc ht.size (.cells #[.int .i64 (drP k0 x0 k1), .slice B0 ((drL k0 x0 k1)).length q0] 35)
  replace hb0 := hb0.alloc (.cells #[.int .i64 (drP k0 x0 k1), .slice B0 ((drL k0 x0 k1)).length q0] 35)
  replace hp0 := hp0.alloc (.cells #[.int .i64 (drP k0 x0 k1), .slice B0 ((drL k0 x0 k1)).length q0] 35)
  replace hF0 := hF0.alloc (.cells #[.int .i64 (drP k0 x0 k1), .slice B0 ((drL k0 x0 k1)).length q0] 35)
  clear hb
  clear hp0
  clear hb0_0 hb0_1 hb0_l
  obtain ⟨hb0_0, hb0_1⟩ := hb0.cells2
  have hb0_l := hb0.lt
  obtain ⟨hR0_0, hR0_1⟩ := hR0.cells2
  have hR0_l := hR0.lt
  -- region 6
  go_wp2_with fail
  refine (toPuzzle_own k0 A0 n0 c0 x0 _ (by exact h0.below ht) HX0.out (by omega)).mono ?_
  rintro e v4 ⟨gx0, rfl, hgx0, hwx0, hb⟩
  have hz4 : v3.heap.size + 1 ≤ v4.heap.size := by have := hb.size; simpa using this
  replace ht := below_then ht hb ht.size
  replace hb0 := hb0.below hb
  replace hF0 := hF0.below hb
  replace hR0 := hR0.below hb
  have hx0 := Fresh.of_whole (lo := v3.heap.size + 1) (hi := v4.heap.size) hwx0 (by simpa using hgx0) hwx0.lt
  clear hgx0 hwx0
  clear hb
  have hx90 := Whole.fresh v4 35 #[.int .i64 k0, .slice (some ⟨gx0, 0, none⟩) n0 n0]
  replace ht := ht.alloc ht.size (.cells #[.int .i64 k0, .slice (some ⟨gx0, 0, none⟩) n0 n0] 35)
  replace hb0 := hb0.alloc (.cells #[.int .i64 k0, .slice (some ⟨gx0, 0, none⟩) n0 n0] 35)
  replace hF0 := hF0.alloc (.cells #[.int .i64 k0, .slice (some ⟨gx0, 0, none⟩) n0 n0] 35)
  replace hR0 := hR0.alloc (.cells #[.int .i64 k0, .slice (some ⟨gx0, 0, none⟩) n0 n0] 35)
  replace hx0 := hx0.alloc (.cells #[.int .i64 k0, .slice (some ⟨gx0, 0, none⟩) n0 n0] 35)
  clear hb0_0 hb0_1 hb0_l hR0_0 hR0_1 hR0_l
  obtain ⟨hb0_0, hb0_1⟩ := hb0.cells2
  have hb0_l := hb0.lt
  obtain ⟨hR0_0, hR0_1⟩ := hR0.cells2
  have hR0_l := hR0.lt
  obtain ⟨hx90_0, hx90_1⟩ := hx90.cells2
  have hx90_l := hx90.lt
  -- region 7
  go_wp2_with fail
  refine (implDropK_at k0 _ _ n0 _ x0 k1 _ (by exact hx0.holds) HX0.out (by omega) (Nat.le_refl _) (by omega)).mono ?_
  rintro e v5 ⟨B1, q1, rfl, hF1, hb⟩
  have hz5 : v4.heap.size + 1 ≤ v5.heap.size := by have := hb.size; simpa using this
  replace ht := below_then ht hb ht.size
  replace hb0 := hb0.below hb
  replace hF0 := hF0.below hb
  replace hR0 := hR0.below hb
  replace hx0 := hx0.below hb
  replace hx90 := hx90.below hb
  replace hF1 := hF1.more (lo' := v4.heap.size + 1) (hi' := v5.heap.size) (by simp) (Nat.le_refl _)
  have hR1 := Whole.fresh v5 35 #[.int .i64 (drP k0 x0 k1), .slice B1 ((drL k0 x0 k1)).length q1]
  replace ht := ht.alloc ht.size (.cells #[.int .i64 (drP k0 x0 k1), .slice B1 ((drL k0 x0 k1)).length q1] 35)
  replace hb0 := hb0.alloc (.cells #[.int .i64 (drP k0 x0 k1), .slice B1 ((drL k0 x0 k1)).length q1] 35)
  replace hF0 := hF0.alloc (.cells #[.int .i64 (drP k0 x0 k1), .slice B1 ((drL k0 x0 k1)).length q1] 35)
  replace hR0 := hR0.alloc (.cells #[.int .i64 (drP k0 x0 k1), .slice B1 ((drL k0 x0 k1)).length q1] 35)
  replace hx0 := hx0.alloc (.cells #[.int .i64 (drP k0 x0 k1), .slice B1 ((drL k0 x0 k1)).length q1] 35)
  replace hx90 := hx90.alloc (.cells #[.int .i64 (drP k0 x0 k1), .slice B1 ((drL k0 x0 k1)).length q1] 35)
  replace hF1 := hF1.alloc (.cells #[.int .i64 (drP k0 x0 k1), .slice B1 ((drL k0 x0 k1)).length q1] 35)
  clear hb
  clear hb0_0 hb0_1 hb0_l hR0_0 hR0_1 hR0_l hx90_0 hx90_1 hx90_l
  obtain ⟨hb0_0, hb0_1⟩ := hb0.cells2
  have hb0_l := hb0.lt
  obtain ⟨hR0_0, hR0_1⟩ := hR0.cells2
  have hR0_l := hR0.lt
  obtain ⟨hx90_0, hx90_1⟩ := hx90.cells2
  have hx90_l := hx90.lt
  obtain ⟨hR1_0, hR1_1⟩ := hR1.cells2
  have hR1_l := hR1.lt
  -- region 8
  go_wp2_with fail
  refine (eqPuzzle_yes B1 B0 ((drL k0 x0 k1)).length q1 q0 ((drL k0 x0 k1)) (drP k0 x0 k1) _ (by exact hF1.holds) (by exact hF0.holds) rfl (by omega)).mono ?_
  rintro e v6 ⟨rfl, hb⟩
  have hz6 : v5.heap.size + 1 ≤ v6.heap.size := by have := hb.size; simpa using this
  replace ht := below_then ht hb ht.size
  replace hb0 := hb0.below hb
  replace hF0 := hF0.below hb
  replace hR0 := hR0.below hb
  replace hx0 := hx0.below hb
  replace hx90 := hx90.below hb
  replace hF1 := hF1.below hb
  replace hR1 := hR1.below hb
  clear hb
  clear hb0_0 hb0_1 hb0_l hR0_0 hR0_1 hR0_l hx90_0 hx90_1 hx90_l hR1_0 hR1_1 hR1_l
  obtain ⟨hb0_0, hb0_1⟩ := hb0.cells2
  have hb0_l := hb0.lt
  obtain ⟨hR0_0, hR0_1⟩ := hR0.cells2
  have hR0_l := hR0.lt
  obtain ⟨hx90_0, hx90_1⟩ := hx90.cells2
  have hx90_l := hx90.lt
  obtain ⟨hR1_0, hR1_1⟩ := hR1.cells2
  have hR1_l := hR1.lt
  -- region 10
  clear hb0_0 hb0_1 hb0_l hR0_0 hR0_1 hR0_l hx90_0 hx90_1 hx90_l hR1_0 hR1_1 hR1_l
  go_wp2_with fail
  refine wp_region_held_drew (S := (fun w' => w'.cell? ⟨w.heap.size, 0, none⟩ = some (.int .i64 k0) ∧ w'.cell? ⟨w.heap.size, 1, none⟩ = some (.slice A0 n0 c0) ∧ w'.cell? ⟨v3.heap.size, 0, none⟩ = some (.int .i64 (drP k0 x0 k1)) ∧ w'.cell? ⟨v3.heap.size, 1, none⟩ = some (.slice B0 ((drL k0 x0 k1)).length q0) ∧ w'.cell? ⟨v4.heap.size, 0, none⟩ = some (.int .i64 k0) ∧ w'.cell? ⟨v4.heap.size, 1, none⟩ = some (.slice (some ⟨gx0, 0, none⟩) n0 n0) ∧ w'.cell? ⟨v5.heap.size, 0, none⟩ = some (.int .i64 (drP k0 x0 k1)) ∧ w'.cell? ⟨v5.heap.size, 1, none⟩ = some (.slice B1 ((drL k0 x0 k1)).length q1))) (by kernel_rfl) ⟨hb0.drew.cell 0, hb0.drew.cell 1, hR0.drew.cell 0, hR0.drew.cell 1, hx90.drew.cell 0, hx90.drew.cell 1, hR1.drew.cell 0, hR1.drew.cell 1⟩ (fun hHeld => ?_)
  replace ht := ht.drew
  replace hb0 := hb0.drew
  replace hF0 := hF0.drew
  replace hR0 := hR0.drew
  replace hx0 := hx0.drew
  replace hx90 := hx90.drew
  replace hF1 := hF1.drew
  replace hR1 := hR1.drew
  refine wpAnyH_take (i := 0) (v := ?_) rfl (by kernel_rfl) (by kernel_rfl) (by kernel_rfl) (fun _ _ _ h => h) (Or.inl ⟨rfl, ?_⟩) hHeld ?_
  rotate_left
  · intro w' hS; obtain ⟨s0, s1, s2, s3, s4, s5, s6, s7⟩ := hS; go_simp <;> with_reducible rfl
  simp only [Act.put, List.getElem_toArray, List.getElem_cons_succ, List.getElem_cons_zero, List.setIfInBounds_toArray, List.set_cons_succ, List.set_cons_zero]
  refine wpAnyH_take (i := 1) (v := ?_) rfl (by kernel_rfl) (by kernel_rfl) (by kernel_rfl) (fun _ _ _ h => h) (Or.inl ⟨rfl, ?_⟩) hHeld ?_
  rotate_left
  · intro w' hS; obtain ⟨s0, s1, s2, s3, s4, s5, s6, s7⟩ := hS; go_simp <;> with_reducible rfl
  simp only [Act.put, List.getElem_toArray, List.getElem_cons_succ, List.getElem_cons_zero, List.setIfInBounds_toArray, List.set_cons_succ, List.set_cons_zero]
  refine wpAnyH_ready (rs := [2]) (by kernel_rfl) (by simp) (AllReadyH.cons rfl (fun K hK => ?_) AllReadyH.nil)
  go_simp
  refine (toPuzzle_own k0 A0 n0 c0 x0 _ (by exact h0.below ht) HX0.out (by omega)).mono ?_
  rintro e v7 ⟨gy0, rfl, hgy0, hwy0, hb⟩
  have hz7 : v6.heap.size ≤ v7.heap.size := by have := hb.size; simpa using this
  replace ht := below_then ht hb ht.size
  replace hb0 := hb0.below hb
  replace hF0 := hF0.below hb
  replace hR0 := hR0.below hb
  replace hx0 := hx0.below hb
  replace hx90 := hx90.below hb
  replace hF1 := hF1.below hb
  replace hR1 := hR1.below hb
  have hy0 := Fresh.of_whole (lo := v6.heap.size) (hi := v7.heap.size) hwy0 (by simpa using hgy0) hwy0.lt
  clear hgy0 hwy0
  clear hb
  refine hK.out _ _ ⟨hb0.cell 0, hb0.cell 1, hR0.cell 0, hR0.cell 1, hx90.cell 0, hx90.cell 1, hR1.cell 0, hR1.cell 1⟩ (fun hHeld => ?_)
  clear hK K
  try simp only [Act.put, List.getElem_toArray, List.getElem_cons_succ, List.getElem_cons_zero, List.setIfInBounds_toArray, List.set_cons_succ, List.set_cons_zero]
  refine wpAnyH_ready (rs := [3]) (by kernel_rfl) (by simp) (AllReadyH.cons rfl (fun K hK => ?_) AllReadyH.nil)
  go_simp
  refine (eqPuzzle_yes _ _ n0 _ _ x0 k0 _ (by exact hx0.holds) (by exact hy0.holds) HX0.out (by omega)).mono ?_
  rintro e v8 ⟨rfl, hb⟩
  have hz8 : v7.heap.size ≤ v8.heap.size := by have := hb.size; simpa using this
  replace ht := below_then ht hb ht.size
  replace hb0 := hb0.below hb
  replace hF0 := hF0.below hb
  replace hR0 := hR0.below hb
  replace hx0 := hx0.below hb
  replace hx90 := hx90.below hb
  replace hF1 := hF1.below hb
  replace hR1 := hR1.below hb
  replace hy0 := hy0.below hb
  clear hb
  clear hy0
  refine hK.out _ _ ⟨hb0.cell 0, hb0.cell 1, hR0.cell 0, hR0.cell 1, hx90.cell 0, hx90.cell 1, hR1.cell 0, hR1.cell 1⟩ (fun hHeld => ?_)
  clear hK K
  try simp only [Act.put, List.getElem_toArray, List.getElem_cons_succ, List.getElem_cons_zero, List.setIfInBounds_toArray, List.set_cons_succ, List.set_cons_zero]
  refine wpAnyH_take (i := 4) (v := ?_) rfl (by kernel_rfl) (by kernel_rfl) (by kernel_rfl) (fun _ _ _ h => h) (Or.inl ⟨rfl, ?_⟩) hHeld ?_
  rotate_left
  · intro w' hS; obtain ⟨s0, s1, s2, s3, s4, s5, s6, s7⟩ := hS; go_simp <;> with_reducible rfl
  simp only [Act.put, List.getElem_toArray, List.getElem_cons_succ, List.getElem_cons_zero, List.setIfInBounds_toArray, List.set_cons_succ, List.set_cons_zero]
  refine wpAnyH_done (by kernel_rfl) ?_ _
  clear hHeld
  obtain ⟨hb0_0, hb0_1⟩ := hb0.cells2
  have hb0_l := hb0.lt
  obtain ⟨hR0_0, hR0_1⟩ := hR0.cells2
  have hR0_l := hR0.lt
  obtain ⟨hx90_0, hx90_1⟩ := hx90.cells2
  have hx90_l := hx90.lt
  obtain ⟨hR1_0, hR1_1⟩ := hR1.cells2
  have hR1_l := hR1.lt
  -- region 13
  go_wp2_with fail
  refine (markPuzzle_any k0 (some ⟨gx0, 0, none⟩) n0 n0 _ _ x0 (1) _ hx0 HX0.out (by omega) (by omega) (by omega)).mono ?_
  rintro e v9 ⟨rfl, hs, -⟩
  have hsz := ht.size
  replace ht := hs.below ht (by omega) hsz
  replace hb0 := hs.whole hb0 (by omega)
  replace hF0 := hs.fresh hF0 (by omega)
  replace hR0 := hs.whole hR0 (by omega)
  replace hF1 := hs.fresh hF1 (by omega)
  replace hR1 := hs.whole hR1 (by omega)
  clear hs hsz hx0 hx90
  have hk_1 : (0 : Int) ≤ 1 + ((n0 * 3 : Nat) : Int) := by omega
  clear hb0_0 hb0_1 hb0_l hR0_0 hR0_1 hR0_l hx90_0 hx90_1 hx90_l hR1_0 hR1_1 hR1_l
  obtain ⟨hb0_0, hb0_1⟩ := hb0.cells2
  have hb0_l := hb0.lt
  obtain ⟨hR0_0, hR0_1⟩ := hR0.cells2
  have hR0_l := hR0.lt
  obtain ⟨hR1_0, hR1_1⟩ := hR1.cells2
  have hR1_l := hR1.lt
  -- region 14
  go_wp2_with fail
  refine (eqPuzzle_yes B1 B0 ((drL k0 x0 k1)).length q1 q0 ((drL k0 x0 k1)) (drP k0 x0 k1) _ (by exact hF1.holds) (by exact hF0.holds) rfl (by omega)).mono ?_
  rintro e v10 ⟨rfl, hb⟩
  have hz10 : v9.heap.size ≤ v10.heap.size := by have := hb.size; simpa using this
  replace ht := below_then ht hb ht.size
  replace hb0 := hb0.below hb
  replace hF0 := hF0.below hb
  replace hR0 := hR0.below hb
  replace hF1 := hF1.below hb
  replace hR1 := hR1.below hb
  clear hb
  clear hb0_0 hb0_1 hb0_l hR0_0 hR0_1 hR0_l hR1_0 hR1_1 hR1_l
  obtain ⟨hb0_0, hb0_1⟩ := hb0.cells2
  have hb0_l := hb0.lt
  obtain ⟨hR0_0, hR0_1⟩ := hR0.cells2
  have hR0_l := hR0.lt
  obtain ⟨hR1_0, hR1_1⟩ := hR1.cells2
  have hR1_l := hR1.lt
  -- region 17
  go_wp2_with fail
  refine (markPuzzle_any (drP k0 x0 k1) B1 ((drL k0 x0 k1)).length q1 _ _ ((drL k0 x0 k1)) 1 _ hF1 rfl (by omega) (by omega) hlen).mono ?_
  rintro e v11 ⟨rfl, hs, hM⟩
  have hsz := ht.size
  replace ht := hs.below ht (by omega) hsz
  replace hb0 := hs.whole hb0 (by omega)
  replace hF0 := hs.fresh hF0 (by omega)
  replace hR0 := hs.whole hR0 (by omega)
  replace hR1 := hs.whole hR1 (by omega)
  clear hs hF1 hsz
  clear hb0_0 hb0_1 hb0_l hR0_0 hR0_1 hR0_l hR1_0 hR1_1 hR1_l
  obtain ⟨hb0_0, hb0_1⟩ := hb0.cells2
  have hb0_l := hb0.lt
  obtain ⟨hR0_0, hR0_1⟩ := hR0.cells2
  have hR0_l := hR0.lt
  obtain ⟨hR1_0, hR1_1⟩ := hR1.cells2
  have hR1_l := hR1.lt
  -- region 19
  go_wp2_with fail
  refine (heldPuzzle_any B1 ((drL k0 x0 k1)).length q1 (drP k0 x0 k1) 1 _ (by exact hM.holds) (by omega) (by omega) hlen).mono ?_
  rintro e v12 ⟨rfl, hb⟩
  have hz12 : v11.heap.size ≤ v12.heap.size := by have := hb.size; simpa using this
  replace ht := below_then ht hb ht.size
  replace hb0 := hb0.below hb
  replace hF0 := hF0.below hb
  replace hR0 := hR0.below hb
  replace hR1 := hR1.below hb
  replace hM := hM.below hb
  clear hb
  have hm0 : (0 : Int) ≤ 1 + ((((drL k0 x0 k1)).length * 3 : Nat) : Int) := by omega
  clear hb0_0 hb0_1 hb0_l hR0_0 hR0_1 hR0_l hR1_0 hR1_1 hR1_l
  obtain ⟨hb0_0, hb0_1⟩ := hb0.cells2
  have hb0_l := hb0.lt
  obtain ⟨hR0_0, hR0_1⟩ := hR0.cells2
  have hR0_l := hR0.lt
  obtain ⟨hR1_0, hR1_1⟩ := hR1.cells2
  have hR1_l := hR1.lt
  -- region 24
  go_wp2_with fail
  refine (toPuzzle_own k0 A0 n0 c0 x0 _ (by exact h0.below ht) HX0.out (by omega)).mono ?_
  rintro e v13 ⟨gr0, rfl, hgr0, hwr0, hb⟩
  have hz13 : v12.heap.size ≤ v13.heap.size := by have := hb.size; simpa using this
  replace ht := below_then ht hb ht.size
  replace hb0 := hb0.below hb
  replace hF0 := hF0.below hb
  replace hR0 := hR0.below hb
  replace hR1 := hR1.below hb
  replace hM := hM.below hb
  have hr0 := Fresh.of_whole (lo := v12.heap.size) (hi := v13.heap.size) hwr0 (by simpa using hgr0) hwr0.lt
  clear hgr0 hwr0
  clear hb
  clear hb0_0 hb0_1 hb0_l hR0_0 hR0_1 hR0_l hR1_0 hR1_1 hR1_l
  obtain ⟨hb0_0, hb0_1⟩ := hb0.cells2
  have hb0_l := hb0.lt
  obtain ⟨hR0_0, hR0_1⟩ := hR0.cells2
  have hR0_l := hR0.lt
  obtain ⟨hR1_0, hR1_1⟩ := hR1.cells2
  have hR1_l := hR1.lt
  go_wp2_with fail
  refine (implDropK_at k0 _ _ n0 _ x0 k1 _ (by exact hr0.holds) HX0.out (by omega) (Nat.le_refl _) (by omega)).mono ?_
  rintro e v14 ⟨B2, q2, rfl, hF2, hb⟩
  have hz14 : v13.heap.size ≤ v14.heap.size := by have := hb.size; simpa using this
  replace ht := below_then ht hb ht.size
  replace hb0 := hb0.below hb
  replace hF0 := hF0.below hb
  replace hR0 := hR0.below hb
  replace hR1 := hR1.below hb
  replace hM := hM.below hb
  replace hr0 := hr0.below hb
  replace hF2 := hF2.more (lo' := v13.heap.size) (hi' := v14.heap.size) (by simp) (Nat.le_refl _)
  have hR2 := Whole.fresh v14 35 #[.int .i64 (drP k0 x0 k1), .slice B2 ((drL k0 x0 k1)).length q2]
  replace ht := ht.alloc ht.size (.cells #[.int .i64 (drP k0 x0 k1), .slice B2 ((drL k0 x0 k1)).length q2] 35)
  replace hb0 := hb0.alloc (.cells #[.int .i64 (drP k0 x0 k1), .slice B2 ((drL k0 x0 k1)).length q2] 35)
  replace hF0 := hF0.alloc (.cells #[.int .i64 (drP k0 x0 k1), .slice B2 ((drL k0 x0 k1)).length q2] 35)
  replace hR0 := hR0.alloc (.cells #[.int .i64 (drP k0 x0 k1), .slice B2 ((drL k0 x0 k1)).length q2] 35)
  replace hR1 := hR1.alloc (.cells #[.int .i64 (drP k0 x0 k1), .slice B2 ((drL k0 x0 k1)).length q2] 35)
  replace hM := hM.alloc (.cells #[.int .i64 (drP k0 x0 k1), .slice B2 ((drL k0 x0 k1)).length q2] 35)
  replace hr0 := hr0.alloc (.cells #[.int .i64 (drP k0 x0 k1), .slice B2 ((drL k0 x0 k1)).length q2] 35)
  replace hF2 := hF2.alloc (.cells #[.int .i64 (drP k0 x0 k1), .slice B2 ((drL k0 x0 k1)).length q2] 35)
  clear hb
  clear hr0
  clear hb0_0 hb0_1 hb0_l hR0_0 hR0_1 hR0_l hR1_0 hR1_1 hR1_l
  obtain ⟨hb0_0, hb0_1⟩ := hb0.cells2
  have hb0_l := hb0.lt
  obtain ⟨hR0_0, hR0_1⟩ := hR0.cells2
  have hR0_l := hR0.lt
  obtain ⟨hR1_0, hR1_1⟩ := hR1.cells2
  have hR1_l := hR1.lt
  obtain ⟨hR2_0, hR2_1⟩ := hR2.cells2
  have hR2_l := hR2.lt
  -- region 25
  go_wp2_with fail
  refine (eqPuzzle_yes B2 B0 ((drL k0 x0 k1)).length q2 q0 ((drL k0 x0 k1)) (drP k0 x0 k1) _ (by exact hF2.holds) (by exact hF0.holds) rfl (by omega)).mono ?_
  rintro e v15 ⟨rfl, hb⟩
  have hz15 : v14.heap.size + 1 ≤ v15.heap.size := by have := hb.size; simpa using this
  replace ht := below_then ht hb ht.size
  replace hb0 := hb0.below hb
  replace hF0 := hF0.below hb
  replace hR0 := hR0.below hb
  replace hR1 := hR1.below hb
  replace hM := hM.below hb
  replace hF2 := hF2.below hb
  replace hR2 := hR2.below hb
  clear hb
  clear hb0_0 hb0_1 hb0_l hR0_0 hR0_1 hR0_l hR1_0 hR1_1 hR1_l hR2_0 hR2_1 hR2_l
  obtain ⟨hb0_0, hb0_1⟩ := hb0.cells2
  have hb0_l := hb0.lt
  obtain ⟨hR0_0, hR0_1⟩ := hR0.cells2
  have hR0_l := hR0.lt
  obtain ⟨hR1_0, hR1_1⟩ := hR1.cells2
  have hR1_l := hR1.lt
  obtain ⟨hR2_0, hR2_1⟩ := hR2.cells2
  have hR2_l := hR2.lt
  -- region 28
  go_wp2_with fail
  refine (heldPuzzle_any B1 ((drL k0 x0 k1)).length q1 (drP k0 x0 k1) 1 _ (by exact hM.holds) (by omega) (by omega) hlen).mono ?_
  rintro e v16 ⟨rfl, hb⟩
  have hz16 : v15.heap.size ≤ v16.heap.size := by have := hb.size; simpa using this
  replace ht := below_then ht hb ht.size
  replace hb0 := hb0.below hb
  replace hF0 := hF0.below hb
  replace hR0 := hR0.below hb
  replace hR1 := hR1.below hb
  replace hM := hM.below hb
  replace hF2 := hF2.below hb
  replace hR2 := hR2.below hb
  clear hb
  clear hb0_0 hb0_1 hb0_l hR0_0 hR0_1 hR0_l hR1_0 hR1_1 hR1_l hR2_0 hR2_1 hR2_l
  obtain ⟨hb0_0, hb0_1⟩ := hb0.cells2
  have hb0_l := hb0.lt
  obtain ⟨hR0_0, hR0_1⟩ := hR0.cells2
  have hR0_l := hR0.lt
  obtain ⟨hR1_0, hR1_1⟩ := hR1.cells2
  have hR1_l := hR1.lt
  obtain ⟨hR2_0, hR2_1⟩ := hR2.cells2
  have hR2_l := hR2.lt
  go_wp2
  go_ret
  exact ⟨rfl, ht⟩

theorem lawDropClue_all (k0 : Int) (A0 : Option Addr) (n0 c0 : Nat) (x0 : List Cl) (k1 : Int) (w : World) (h0 : Holds w A0 (clsC x0)) (hx0 : x0.length = n0) (hn0 : n0 ≤ 9223372036854775807) (_hk1 : -9223372036854775808 ≤ k1 ∧ k1 ≤ 9223372036854775807) :
    Calls Try.prog 12 #[.agg #[.int .i64 k0, .slice A0 n0 c0], .int .i64 k1] w fun e w' => e = .returned (.bool true) ∧ Below w.heap.size w w' := by
  rcases (inferInstance : Decidable (0 ≤ 1048576 - (n0 : Int))) with g0 | g0
  · exact lawDropClue_big0 k0 A0 n0 c0 x0 k1 w h0 hx0 hn0  (by omega)
  exact lawDropClue_small k0 A0 n0 c0 x0 k1 w h0 hx0 hn0 g0
end Go.Proofs.Ytcoagbcleccmmaa
