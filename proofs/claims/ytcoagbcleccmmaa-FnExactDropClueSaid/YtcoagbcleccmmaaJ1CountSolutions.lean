/-
  What is proved: plain facts on lists that go on from beginnings, and on a list of lists that is written through a pointer. Conditions: none.
  What is proved: the contract of the model's search for hidden times that fit all clues. Conditions: a puzzle whose clues are read as they lie.
  What is proved: contracts of the program's test whether some clue is not fit (slices.ContainsFunc with a closure). Conditions: the clues and the hidden times are read as they lie; they are clues of them.
  What is proved: the contract of the model's search for hidden times that fit all clues, at any beginning; of all solutions; of the model's Solutions and what counts them. Conditions: a puzzle whose clues are read as they lie.
  What is proved: some rows of a list of lists of the call's own are one of the call's own. Conditions: none beyond the reading itself.
  What is proved: the contract of slices.Repeat at the list that holds 1 alone. Conditions: one to four times.
  What is proved: contracts of slices.Backward at lists of numbers. Conditions: the list is read as its numbers lie in it, in blocks that were there.
  What is proved: the contract of the step to the next list. Conditions: a list of the call's own, of small numbers.
  What is proved: pure: that the lists that do not fall, listed by going on from each beginning, are those that the step to the next list runs through, in order. Conditions: at most four people, times of at most 12.
  What is proved: pure: the lists that do not fall are those that the step to the next list runs through, in order; the hidden times among them. Conditions: at most four people, times of at most 12.
  What is proved: the contract of all lists of so many times up to a most one that do not fall. Conditions: one to four people, times of 1 to 12.
  What is proved: contracts of Solutions, of the model and of the program. Conditions: the clues are read as they lie.
  What is proved: contracts of CountSolutions, CountHidden, IsSolved and FirstSolution, of the model and of the program. Conditions: the clues are read as they lie.
  What is proved: the law FnExactCountSolutions returns true at every argument, and leaves all that was there as it was. Conditions: the arguments are read as they lie.
-/
import Derived.Deep.AppendLies
import Derived.Laws.CopyOwn
import Derived.Laws.Bits64b
import Derived.RangeFuncNested
import Derived.RangeFuncBox
import Derived.RangeFuncBound
import Derived.RangeFuncCalls
import Derived.RangeFuncLeaves
import Derived.Shelf.Abstract
import Derived.Shelf.RegionOpen
import Derived.WalkKit
import Derived.OwnWalkIn
import Derived.TacticsInMore
import Derived.LoopNIn
import Derived.LoopIn
import Derived.Deep.RegionHeld3
import Derived.Test.YtcoagbcleccmmaaJ3DoesFit
set_option linter.unusedSimpArgs false
set_option linter.unusedVariables false
namespace Go.Proofs.Ytcoagbcleccmmaa
open Go.RowKit

/-- For each time from 7 - j to 6 what goes on with it. -/
def tailT (f : List Int → List (List Int)) (b : List Int) : Nat → List (List Int)
  | 0 => []
  | j + 1 => f (b ++ [6 - (j : Int)]) ++ tailT f b j
/-- The least time that may come next. -/
def fromL (b : List Int) : Int := b.getLastD 1
/-- All that go on from a beginning with n more times and pass. -/
def goOn (P : List Int → Bool) : Nat → List Int → List (List Int)
  | 0, b => if P b then [b] else []
  | n + 1, b => tailT (goOn P n) b (7 - fromL b).toNat
/-- A beginning of hidden times. -/
def BegL (b : List Int) : Prop := (∀ y ∈ b, 1 ≤ y ∧ y ≤ 6) ∧ sortI b = true
theorem begL_nil : BegL [] := ⟨fun y h => (by cases h), rfl⟩
theorem fromL_bd {b : List Int} (h : BegL b) : 1 ≤ fromL b ∧ fromL b ≤ 6 := by
  rcases List.eq_nil_or_concat b with rfl | ⟨l, x, rfl⟩
  · simp [fromL]
  · have := h.1 x (by simp)
    simpa [fromL] using this
theorem fromL_last {b : List Int} {k : Nat} (hk : k + 1 = b.length) : fromL b = b[k] := by
  rcases List.eq_nil_or_concat b with rfl | ⟨l, x, rfl⟩
  · simp at hk
  · have : k = l.length := by simpa using hk
    subst this
    simp [fromL]
theorem begL_snoc {b : List Int} {t : Int} (h : BegL b) (h1 : fromL b ≤ t) (h6 : t ≤ 6) : BegL (b ++ [t]) := by
  have hf := fromL_bd h
  refine ⟨fun y hy => ?_, sortI_yes fun k hk => ?_⟩
  · rcases List.mem_append.1 hy with hy | hy
    · exact h.1 y hy
    · obtain rfl : y = t := by simpa using hy
      omega
  · rw [List.length_append, List.length_singleton] at hk
    have hkb : k < b.length := by omega
    refine stepAt_of (by simp; omega) ?_
    rw [List.getElem_append_left hkb]
    rcases Nat.lt_or_ge (k + 1) b.length with h2 | h2
    · rw [List.getElem_append_left h2]
      have := sortI_at h.2 h2
      omega
    · have hk1 : k + 1 = b.length := by omega
      rw [List.getElem_append_right h2]
      have := fromL_last hk1
      simp
      omega
theorem begL_hid {b : List Int} (h : BegL b) (h1 : 1 ≤ b.length) (h4 : b.length ≤ 4) : hidI b = true :=
  hidI_yes h1 h4 ((allIn_iff _ _ _).2 h.1) h.2
theorem goOn_len (P : List Int → Bool) : ∀ (n : Nat) (b : List Int), (∀ y ∈ b, 1 ≤ y) → (goOn P n b).length ≤ 6 ^ n
  | 0, b, _ => by simp only [goOn]; split <;> simp
  | n + 1, b, hb => by
    have ht : ∀ j, j ≤ 6 → (tailT (goOn P n) b j).length ≤ j * 6 ^ n := by
      intro j
      induction j with
      | zero => intro _; simp [tailT]
      | succ j ih =>
        intro hj
        have h1 := ih (by omega)
        have h2 := goOn_len P n (b ++ [6 - (j : Int)]) (fun y hy => by
          rcases List.mem_append.1 hy with hy | hy
          · exact hb y hy
          · obtain rfl : y = 6 - (j : Int) := by simpa using hy
            omega)
        simp only [tailT, List.length_append]
        rw [Nat.succ_mul]
        omega
    have hf : 1 ≤ fromL b := by
      rcases List.eq_nil_or_concat b with rfl | ⟨l, x, rfl⟩
      · simp [fromL]
      · have := hb x (by simp)
        simpa [fromL] using this
    have hj : (7 - fromL b).toNat ≤ 6 := by omega
    have := ht _ hj
    have h3 : (7 - fromL b).toNat * 6 ^ n ≤ 6 * 6 ^ n := Nat.mul_le_mul_right _ hj
    simp only [goOn]
    rw [Nat.pow_succ]
    omega

/-- Of what was there only block og and the block of A may have turned. -/
structure Turned (og : Nat) (A : Option Addr) (w w' : World) : Prop where
  size : w.heap.size ≤ w'.heap.size
  block : ∀ k, k < w.heap.size → k ≠ og → (∀ a, A = some a → a.block ≠ k) → w'.heap[k]? = w.heap[k]?
/-- A list lies where the old one lay, or in a new block. -/
def NewOr (A A' : Option Addr) (w : World) : Prop := ∀ a', A' = some a' → (∃ a, A = some a ∧ a.block = a'.block) ∨ w.heap.size ≤ a'.block
theorem Turned.refl (og : Nat) (A : Option Addr) (w : World) : Turned og A w w := ⟨Nat.le_refl _, fun _ _ _ _ => rfl⟩
theorem NewOr.refl (A : Option Addr) (w : World) : NewOr A A w := fun a h => .inl ⟨a, h, rfl⟩
theorem Turned.of_below {og : Nat} {A : Option Addr} {w w' : World} (h : Below w.heap.size w w') : Turned og A w w' := ⟨h.size, fun k hk _ _ => h.block k hk⟩
theorem Turned.trans {og : Nat} {A A1 : Option Addr} {w w1 w2 : World} (h : Turned og A w w1) (hn : NewOr A A1 w) (k : Turned og A1 w1 w2) : Turned og A w w2 :=
  ⟨Nat.le_trans h.size k.size, fun j hj ho ha => (k.block j (Nat.lt_of_lt_of_le hj h.size) ho (fun a e => by
    rcases hn a e with ⟨a0, e0, hb⟩ | hb
    · rw [← hb]; exact ha a0 e0
    · omega)).trans (h.block j hj ho ha)⟩
theorem NewOr.trans {A A1 A2 : Option Addr} {w w1 : World} (h : NewOr A A1 w) (hs : w.heap.size ≤ w1.heap.size) (k : NewOr A1 A2 w1) : NewOr A A2 w := fun a e => by
  rcases k a e with ⟨a1, e1, hb⟩ | hb
  · rcases h a1 e1 with ⟨a0, e0, hb0⟩ | hb0
    · exact .inl ⟨a0, e0, hb0.trans hb⟩
    · exact .inr (by omega)
  · exact .inr (by omega)
theorem Heads.same {w w' : World} {lo c : Nat} {A : Option Addr} {rs : List RowV} (h : Heads w lo A c rs) (hs : w.heap.size ≤ w'.heap.size) (hk : ∀ k, lo ≤ k → k < w.heap.size → w'.heap[k]? = w.heap[k]?) : Heads w' lo A c rs := by
  obtain ⟨⟨hl, h1⟩, ps, ⟨k1, k2, k3⟩, h3, h4⟩ := h
  refine ⟨⟨hl, ?_⟩, ps, ⟨k1, fun k r p hr hp => ?_, k3⟩, fun p hp => ⟨(h3 p hp).1, Nat.le_trans (h3 p hp).2 hs⟩, h4⟩
  · rcases h1 with h | ⟨g, cap, cur, hv, hg, hh, r⟩
    · exact .inl h
    · exact .inr ⟨g, cap, cur, hv, hg, (hk g hg (Array.getElem?_eq_some_iff.1 hh).1).trans hh, r⟩
  · obtain ⟨f1, f2⟩ := k2 k r p hr hp
    refine ⟨?_, f2⟩
    have hp3 := h3 p (List.mem_of_getElem? hp)
    rcases f1 with h | ⟨g, cs, hA, g1, g2, hw, g3, g4⟩
    · exact .inl h
    · exact .inr ⟨g, cs, hA, g1, g2, (hk g (by omega) hw.lt).trans hw, g3, g4⟩
/-- A list of lists that is written through a pointer to block og; all of it lies from lo on. -/
structure LookAt (og lo : Nat) (wb w : World) (A : Option Addr) (c : Nat) (rs : List RowV) : Prop where
  cell : Whole w og 49 #[.slice A rs.length c]
  heads : Heads w lo A c rs
  below : Below og wb w
  og_lo : og < lo
  lo_sz : lo ≤ w.heap.size
theorem LookAt.later {og lo : Nat} {wb w w' : World} {A : Option Addr} {c : Nat} {rs : List RowV} (h : LookAt og lo wb w A c rs) (hb : Below w.heap.size w w') : LookAt og lo wb w' A c rs :=
  ⟨h.cell.below hb, h.heads.below hb, h.below.trans (hb.mono (Nat.le_of_lt h.cell.lt)), h.og_lo, Nat.le_trans h.lo_sz hb.size⟩
theorem LookAt.own_lt {og lo : Nat} {wb w : World} {A : Option Addr} {c : Nat} {rs : List RowV} (h : LookAt og lo wb w A c rs) : ∀ a, A = some a → lo ≤ a.block ∧ a.block < w.heap.size := fun a e => by
  subst e
  exact h.heads.1.lt a.block rfl
theorem LookAt.keep {og lo : Nat} {wb w w4 : World} {A : Option Addr} {c : Nat} {rs : List RowV} {o : Obj} (h : LookAt og lo wb w A c rs) (hg : (w.alloc o).grownBy w4 (Value.slice A rs.length c).ownBlock) : ∀ k, k < w.heap.size → (∀ a, A = some a → a.block ≠ k) → w4.heap[k]? = w.heap[k]? := fun k hk hne =>
  (hg.block k (by simp; omega) (fun e => by
    cases A with
    | none => simp [Value.ownBlock] at e
    | some a => exact hne a rfl (by simpa [Value.ownBlock, eq_comm] using e))).trans (Below.heap_alloc w _ k hk)
theorem LookAt.grown {og lo : Nat} {wb w w4 : World} {A : Option Addr} {c : Nat} {rs : List RowV} {o : Obj} (h : LookAt og lo wb w A c rs) (hg : (w.alloc o).grownBy w4 (Value.slice A rs.length c).ownBlock) : Whole w4 og 49 #[.slice A rs.length c] :=
  (h.keep hg og h.cell.lt (fun a e => by have := h.own_lt a e; have := h.og_lo; omega)).trans h.cell
/-- A new row outlives what turns the list alone. -/
theorem Fresh.turned {og : Nat} {A B : Option Addr} {w0 w w' : World} {ty : TypeId} {xs : List Value} (hf : Fresh w w0.heap.size w.heap.size ty B xs) (ho : og < w0.heap.size) (hA : ∀ a, A = some a → a.block < w0.heap.size ∨ w.heap.size ≤ a.block) (h : Turned og A w w') : Fresh w' w0.heap.size w'.heap.size ty B xs := by
  rcases hf with h0 | ⟨g, cs, hB, g1, g2, hw, g3, g4⟩
  · exact .inl h0
  · refine .inr ⟨g, cs, hB, g1, Nat.lt_of_lt_of_le g2 h.size, (h.block g g2 (by omega) fun a e => ?_).trans hw, g3, g4⟩
    rcases hA a e with h | h <;> omega
end Go.Proofs.Ytcoagbcleccmmaa

namespace Go.Proofs.Ytcoagbcleccmmaa
open Go.RowKit

/-- What the search leaves behind. -/
def LookPost (P : List Int → Bool) (og lo : Nat) (wb : World) (A : Option Addr) (w : World) (n : Nat) (b : List Int) (rs : List RowV) (e : Ending) (w' : World) : Prop :=
  e = .returned (.tuple #[]) ∧ ∃ A' c' rs', LookAt og lo wb w' A' c' rs' ∧ rowNums rs' = rowNums rs ++ goOn P n b ∧ Turned og A w w' ∧ NewOr A A' w
/-- Do times fit all clues? -/
def allFit (cs : List Cl) (xs : List Int) : Bool := cs.all fun c => fitC c xs
theorem allFit_no {cs : List Cl} {xs : List Int} {k : Nat} (hk : k < cs.length) (h : fitC cs[k] xs = false) : allFit cs xs = false := List.all_eq_false.2 ⟨_, List.getElem_mem hk, by simp [h]⟩
theorem allFit_yes {cs : List Cl} {xs : List Int} (h : ∀ k (hk : k < cs.length), fitC cs[k] xs = true) : allFit cs xs = true := by
  rw [allFit, List.all_eq_true]
  intro x hx
  obtain ⟨k, hk, rfl⟩ := List.getElem_of_mem hx
  exact h k hk

set_option maxHeartbeats 3200000 in
set_option maxRecDepth 100000 in
theorem pzLook_leaf (p : Int) (CA : Option Addr) (cn cc : Nat) (cs : List Cl) (wb : World) (og lo : Nat) (hog : wb.heap.size = og) (hCA : Holds wb CA (clsC cs)) (hcn : cs.length = cn) (hc6 : cn ≤ 6) (hok : cs.all (clOk p) = true)
    (B : Option Addr) (bn bc : Nat) (b : List Int) (w w0 : World) (A : Option Addr) (c : Nat) (rs : List RowV) (hl : LookAt og lo wb w0 A c rs) (hb : Below w0.heap.size w0 w) (hf : Fresh w w0.heap.size w.heap.size 3 B (nums b)) (hbn : b.length = bn) (hp : p = bn) (hh : hidI b = true) (hcnt : rs.length + (goOn (allFit cs) 0 b).length ≤ 10000) :
    Calls Try.prog 80 #[.int .i64 p, .slice CA cn cc, .slice B bn bc, .pointer (some ⟨og, 0, none⟩)] w (LookPost (allFit cs) og lo wb A w 0 b rs) := by
  subst hcn
  obtain ⟨i0, hi, hz0, hz1, hz2⟩ := info_parts info_row
  have HI := Lib.hid hi
  have HZ0 := Lib.hid hz0
  have HZ1 := Lib.hid hz1
  have HZ2 := Lib.hid hz2
  have HL := Lib.hid (hl.later hb)
  have HL0 := Lib.hid hl
  have HB := Lib.hid hb
  have HF := Lib.hid hf
  have HBN := Lib.hid hbn
  have HOK := Lib.hid (List.all_eq_true.1 hok)
  have HCL := Lib.hid (fun (W : World) (h : Below og wb W) => (hCA.below (by rw [hog]; exact h) : Holds W CA (clsC cs)))
  have HPN := Lib.hid hp
  have hpp : ((bn : Int) == p) = true := by simp [hp]
  clear hi hz0 hz1 hz2 hl hb hf hbn hok hCA hp
  go_enter Try.func80, Try.ntmps80
  go_wp2
  go_loopw [18] (fun i wr => ∃ k : Nat, i = .int .i64 k ∧ k ≤ cs.length ∧ Below w.heap.size w wr ∧ ∀ j (h : j < cs.length), j < k → fitC cs[j] b = true) (fun i _ => cs.length - (intOf i).toNat)
  case atStart => exact ⟨0, rfl, by omega, Below.refl _ _, fun j h1 h2 => absurd h2 (by omega)⟩
  case round =>
    obtain ⟨k, rfl, hk, hbr, hall⟩ := hrel
    have HALL := Lib.hid hall
    have HBR := Lib.hid hbr
    have HLR := Lib.hid (HL.out.later hbr)
    clear hall
    by_cases hlt : k < cs.length
    · obtain ⟨g, o, hCAe, hg, c0, c1, c2⟩ := cls_look (HCL.out _ HLR.out.below) hlt
      subst hCAe
      obtain ⟨⟨x1, x2, x3⟩, hx⟩ : ∃ x, x = cs[k] := ⟨_, rfl⟩
      rw [← hx] at c0 c1 c2
      dsimp only at c0 c1 c2
      have HCK : Hid (clOk p (x1, x2, x3) = true) := by show _ = _; rw [hx]; exact HOK.out _ (List.getElem_mem hlt)
      have hkl : (k : Int) < cs.length := by omega
      have hb1 : Below w.heap.size w (wr.alloc (.cells #[.int .i64 x1, .int .i64 x2, .int .i64 x3] 25)) := hbr.alloc hbr.size _
      have HB1 := Lib.hid hb1
      have hH1 := HF.out.holds.below hb1
      have HH1 := Lib.hid hH1
      cases hfit : fitC (x1, x2, x3) b
      · have HP2 := Lib.hid (allFit_no (cs := cs) (xs := b) hlt (by rw [← hx]; exact hfit))
        have HFIT := Lib.hid hfit
        clear hx hfit hbr hb1 hH1
        go_wp2_with fail
        refine (pzFits_any p x1 x2 x3 B bn bc b _ HH1.out HBN.out hh HCK.out HPN.out).mono ?_
        rintro e w2 ⟨rfl, hb2⟩
        rw [HFIT.out]
        have HF2 := Lib.hid (HB1.out.trans (hb2.mono HB1.out.size))
        clear hb2
        go_wp2
        go_end0
        exact ⟨rfl, A, c, rs, HL.out.later HF2.out, by simp [goOn, HP2.out], Turned.of_below HF2.out, NewOr.refl _ _⟩
      · have HFIT := Lib.hid hfit
        have HX := Lib.hid hx
        clear hx hfit hbr hb1 hH1
        go_wp2_with fail
        refine (pzFits_any p x1 x2 x3 B bn bc b _ HH1.out HBN.out hh HCK.out HPN.out).mono ?_
        rintro e w2 ⟨rfl, hb2⟩
        rw [HFIT.out]
        have HF2 := Lib.hid (HB1.out.trans (hb2.mono HB1.out.size))
        clear hb2
        go_wp2
        go_roundw
        case rel => exact ⟨k + 1, by go_num, by omega, HF2.out, fun j h1 h2 => by
          rcases Nat.lt_or_ge j k with h3 | h3
          · exact HALL.out j h1 h3
          · obtain rfl : j = k := by omega
            rw [← HX.out]; exact HFIT.out⟩
        case measure => simp [intOf]; omega
    · have hyes := allFit_yes (cs := cs) (xs := b) fun j hj => HALL.out j hj (by omega)
      have hg1 : goOn (allFit cs) 0 b = [b] := by simp [goOn, hyes]
      rw [hg1] at hcnt
      have HG := Lib.hid hg1
      have hcell := HLR.out.cell
      have c0 := hcell.cells1
      have hlo := HLR.out.og_lo
      have hogl := hcell.lt
      have HOWN := Lib.hid ((HLR.out.heads.alloc (.cells #[.slice B bn bc] 39)).1)
      have hal : rs.length + 1 ≤ 10000 := by simpa using hcnt
      have HMAX := Lib.hid (show rs.length + 1 ≤ maxLen by unfold maxLen; omega)
      have HBYT := Lib.hid (show (rs.length + 1) * 24 ≤ 140737488355328 by omega)
      have HBASE := Lib.hid (show lo ≤ (wr.alloc (.cells #[.slice B bn bc] 39)).heap.size by have := HLR.out.lo_sz; simp; omega)
      clear hcell hyes hg1 hcnt hbr
      go_wp2_with (at_builtin; refine wpList_append_lies _ rfl (.tmp 30) (.tmp 32) 49 rfl lo 39 i0 (.slice none 0 0) 1 24 Try.underlying49 HI.out HZ0.out HZ1.out HZ2.out rfl (by decide) (.slice A rs.length c) rs.length (rowVals rs) rfl HOWN.out ⟨wr.heap.size, 0, none⟩ 1 1 [.slice B bn bc] rfl rfl (cell_one_new _ _ _) (by simp [Value.oneCell']) (by decide) HMAX.out HBYT.out HBASE.out (wr.heap.size + 1) (by simp) ?_; intro g cap w4 hown4 hg4 hat hlt4; have hcell4 := HLR.out.grown hg4; have c4 := hcell4.cells1; have f4 := hcell4.open_ 0; have hl4 := hcell4.lt; clear c0)
      have hobk : ∀ q, (Value.slice A rs.length c).ownBlock = some q → ∃ a : Addr, A = some a ∧ a.block = q ∧ lo ≤ q ∧ q < wr.heap.size := fun q hq => by
        cases A with
        | none => simp [Value.ownBlock] at hq
        | some a =>
          have hq2 : a.block = q := by simpa [Value.ownBlock] using hq
          have := HLR.out.own_lt a rfl
          exact ⟨a, rfl, hq2, by omega, by omega⟩
      have hkeep := HLR.out.keep hg4
      have HP := Lib.hid (Heads.push (r := ⟨B, bn, bc, b⟩) HL0.out.heads HL0.out.lo_sz (HB.out.trans (HBR.out.mono HB.out.size)) ((HF.out.below HBR.out).more (Nat.le_refl _) HBR.out.size) HBN.out (by have := hidI_parts hh; have := HBN.out; show bn ≤ _; omega) hown4 hg4 hat)
      have hset := hcell4.set_ 0 (.slice (some ⟨g, 0, none⟩) (rs.length + 1) cap)
      have HSET := Lib.hid hset
      have hws : w.heap.size ≤ wr.heap.size := HBR.out.size
      have hsz4 : wr.heap.size ≤ w4.heap.size := by have := hg4.size; simp at this; omega
      have HB4 := Lib.hid (((HLR.out.below.alloc (Nat.le_of_lt hogl) (.cells #[.slice B bn bc] 39)).grown hg4 (by simp; omega) (fun kk e => by obtain ⟨a, -, -, h5, -⟩ := hobk kk e; omega)))
      have HKEEP := Lib.hid hkeep
      have HAT := Lib.hid (show ∀ a', (some ⟨g, 0, none⟩ : Option Addr) = some a' → (∃ a, A = some a ∧ a.block = a'.block) ∨ w.heap.size ≤ a'.block from fun a' e => by
        obtain rfl := Option.some.inj e
        rcases hat with h | h
        · obtain ⟨a, ha, hq, -⟩ := hobk g h
          exact .inl ⟨a, ha, hq⟩
        · exact .inr (by show w.heap.size ≤ g; omega))
      clear hobk hkeep hcell4 hown4 hg4 hat hset
      try go_wp2
      first | go_end0 | refine bodyPost_ret (results_none rfl _ _ _) rfl ?_
      refine ⟨rfl, some ⟨g, 0, none⟩, cap, rs ++ [⟨B, bn, bc, b⟩], ⟨?_, ?_, ?_, hlo, ?_⟩, ?_, ⟨?_, ?_⟩, HAT.out⟩
      · rw [List.length_append]; exact HSET.out
      · exact HP.out.same (by simp [World.setCell]) fun k hk _ => Below.heap_setCell _ _ _ _ (by show k ≠ og; omega)
      · exact below_set HB4.out (Nat.le_refl _)
      · have := HLR.out.lo_sz; simp [World.setCell]; omega
      · rw [HG.out]; simp [rowNums]
      · simp [World.setCell]; omega
      · exact fun k hk ho ha => ((Below.heap_setCell _ _ _ _ (by show k ≠ og; exact ho)).trans (HKEEP.out k (by omega) ha)).trans (HBR.out.block k hk)
end Go.Proofs.Ytcoagbcleccmmaa

namespace Go.Proofs.Ytcoagbcleccmmaa
open Go.RowKit

set_option maxHeartbeats 1600000 in
theorem notFit_any (p k a b : Int) (T : Option Addr) (tn tc : Nat) (xs : List Int) (tb : Nat) (w : World) (hb : Whole w tb 39 #[.slice T tn tc]) (hT : Holds w T (nums xs)) (hx : xs.length = tn) (hh : hidI xs = true) (hc : clOk p (k, a, b) = true) (hp : p = tn) :
    Calls Try.prog 67 #[.agg #[.int .i64 k, .int .i64 a, .int .i64 b], .pointer (some ⟨tb, 0, none⟩)] w fun e w' => e = .returned (.bool (!fitC (k, a, b) xs)) ∧ Below w.heap.size w w' := by
  have hbl := below1 w (.cells #[.int .i64 k, .int .i64 a, .int .i64 b] 25)
  have HBL := Lib.hid hbl
  have HT := Lib.hid (hT.below hbl)
  have c0 := (hb.below hbl).cells1
  have htl := hb.lt
  have ct := hb.cells1
  have HX := Lib.hid hx
  have HC := Lib.hid hc
  have HP := Lib.hid hp
  clear hbl hT hx hc hp hb
  go_enter Try.func67, Try.ntmps67
  go_wp2_with fail
  refine (fits_any p k a b T tn tc xs _ HT.out HX.out hh HC.out HP.out).mono ?_
  rintro e w2 ⟨rfl, hb2⟩
  have HF := Lib.hid (below_then HBL.out hb2 HBL.out.size)
  clear hb2
  go_wp2
  go_ret
  exact ⟨rfl, HF.out⟩

set_option maxHeartbeats 3200000 in
theorem indexC_any (p : Int) (A : Option Addr) (n c : Nat) (cs : List Cl) (T : Option Addr) (tn tc : Nat) (xs : List Int) (tb : Nat) (w : World) (hA : Holds w A (clsC cs)) (hcn : cs.length = n) (hn : n ≤ 1048576) (hb : Whole w tb 39 #[.slice T tn tc]) (hT : Holds w T (nums xs)) (hx : xs.length = tn) (hh : hidI xs = true) (hok : cs.all (clOk p) = true) (hp : p = tn) :
    Calls Try.prog 86 #[.slice A n c, .func (.func 67) #[] #[.pointer (some ⟨tb, 0, none⟩)]] w fun e w' => ∃ r : Int, e = .returned (.int .i64 r) ∧ decide (0 ≤ r) = !allFit cs xs ∧ Below w.heap.size w w' := by
  subst hcn
  have HA := Lib.hid hA
  have HBX := Lib.hid hb
  have HT := Lib.hid hT
  have HX := Lib.hid hx
  have HOK := Lib.hid (List.all_eq_true.1 hok)
  have HP := Lib.hid hp
  clear hA hb hT hx hok hp
  go_enter Try.func86, Try.ntmps86
  go_wp2
  go_loopw [8] (fun i wr => ∃ k : Nat, k ≤ cs.length ∧ i = .int .i64 k ∧ (∀ j (h : j < cs.length), j < k → fitC cs[j] xs = true) ∧ Below w.heap.size w wr) (fun i _ => cs.length - (intOf i).toNat)
  case atStart => exact ⟨0, Nat.zero_le _, rfl, fun j h1 h2 => absurd h2 (by omega), Below.refl _ _⟩
  case round =>
    obtain ⟨k, hk, rfl, hall, hb⟩ := hrel
    have HALL := Lib.hid hall
    have HB := Lib.hid hb
    clear hall
    by_cases hlt : k < cs.length
    · obtain ⟨g, o, rfl, hg, c0, c1, c2⟩ := cls_look (HA.out.below hb) hlt
      obtain ⟨⟨x1, x2, x3⟩, hx⟩ : ∃ x, x = cs[k] := ⟨_, rfl⟩
      rw [← hx] at c0 c1 c2
      dsimp only at c0 c1 c2
      have HCK : Hid (clOk p (x1, x2, x3) = true) := by show _ = _; rw [hx]; exact HOK.out _ (List.getElem_mem hlt)
      have hkl : (k : Int) < cs.length := by omega
      have HBX2 := Lib.hid (HBX.out.below hb)
      have HT2 := Lib.hid (HT.out.below hb)
      cases hfit : fitC (x1, x2, x3) xs
      · have HP2 := Lib.hid (allFit_no (cs := cs) (xs := xs) hlt (by rw [← hx]; exact hfit))
        have HFIT := Lib.hid hfit
        clear hx hfit hb
        go_wp2_with fail
        refine (notFit_any p x1 x2 x3 T tn tc xs tb _ HBX2.out HT2.out HX.out hh HCK.out HP.out).mono ?_
        rintro e w2 ⟨rfl, hb2⟩
        rw [HFIT.out]
        have HF := Lib.hid (below_then HB.out hb2 HB.out.size)
        clear hb2
        go_wp2
        go_ret
        exact ⟨_, rfl, by rw [HP2.out]; simp, HF.out⟩
      · have HFIT := Lib.hid hfit
        have HX2 := Lib.hid hx
        clear hx hfit hb
        go_wp2_with fail
        refine (notFit_any p x1 x2 x3 T tn tc xs tb _ HBX2.out HT2.out HX.out hh HCK.out HP.out).mono ?_
        rintro e w2 ⟨rfl, hb2⟩
        rw [HFIT.out]
        have HF := Lib.hid (below_then HB.out hb2 HB.out.size)
        clear hb2
        go_wp2
        go_roundw
        case rel => exact ⟨k + 1, by omega, by go_num, fun j h1 h2 => by
          rcases Nat.lt_or_ge j k with h3 | h3
          · exact HALL.out j h1 h3
          · obtain rfl : j = k := by omega
            rw [← HX2.out]; exact HFIT.out, HF.out⟩
        case measure => simp [intOf]; omega
    · have HP2 := Lib.hid (allFit_yes (cs := cs) (xs := xs) fun j hj => HALL.out j hj (by omega))
      clear hb
      go_wp2
      go_ret
      exact ⟨_, rfl, by rw [HP2.out]; rfl, HB.out⟩

set_option maxHeartbeats 800000 in
theorem containsC_any (p : Int) (A : Option Addr) (n c : Nat) (cs : List Cl) (T : Option Addr) (tn tc : Nat) (xs : List Int) (tb : Nat) (w : World) (hA : Holds w A (clsC cs)) (hcn : cs.length = n) (hn : n ≤ 1048576) (hb : Whole w tb 39 #[.slice T tn tc]) (hT : Holds w T (nums xs)) (hx : xs.length = tn) (hh : hidI xs = true) (hok : cs.all (clOk p) = true) (hp : p = tn) :
    Calls Try.prog 66 #[.slice A n c, .func (.func 67) #[] #[.pointer (some ⟨tb, 0, none⟩)]] w fun e w' => e = .returned (.bool (!allFit cs xs)) ∧ Below w.heap.size w w' := by
  have H := Lib.hid (indexC_any p A n c cs T tn tc xs tb w hA hcn hn hb hT hx hh hok hp)
  clear hA hb hT hx hok hp
  go_enter Try.func66, Try.ntmps66
  go_wp2_with fail
  refine H.out.mono ?_
  rintro e w2 ⟨r, rfl, hr, hb2⟩
  have HR := Lib.hid hr
  clear hr
  go_wp2
  go_ret
  exact ⟨ret_of (by rw [← HR.out]; rfl), hb2⟩
end Go.Proofs.Ytcoagbcleccmmaa

namespace Go.Proofs.Ytcoagbcleccmmaa
open Go.RowKit

/-- What is known where the search goes on with n more times. -/
def LookAll (p : Int) (CA : Option Addr) (cn cc : Nat) (cs : List Cl) (wb : World) (og lo n : Nat) : Prop :=
  ∀ (B : Option Addr) (bn bc : Nat) (b : List Int) (w w0 : World) (A : Option Addr) (c : Nat) (rs : List RowV), LookAt og lo wb w0 A c rs → Below w0.heap.size w0 w → Fresh w w0.heap.size w.heap.size 3 B (nums b) → b.length = bn → p = bn + n → BegL b → (B = none → bc = 0) → rs.length + (goOn (allFit cs) n b).length ≤ 10000 →
    Calls Try.prog 80 #[.int .i64 p, .slice CA cn cc, .slice B bn bc, .pointer (some ⟨og, 0, none⟩)] w (LookPost (allFit cs) og lo wb A w n b rs)

set_option maxHeartbeats 3200000 in
set_option maxRecDepth 100000 in
theorem pzLook_step (p : Int) (CA : Option Addr) (cn cc : Nat) (cs : List Cl) (wb : World) (og lo n : Nat) (hp4 : p ≤ 4) (IH : LookAll p CA cn cc cs wb og lo n) : LookAll p CA cn cc cs wb og lo (n + 1) := by
  intro B bn bc b w w0 A c rs hl hb hf hbn hp hbeg hnil hcnt
  obtain ⟨i0, hi, hz0, hz1, hz2⟩ := info_parts info_int
  have HI := Lib.hid hi
  have HZ0 := Lib.hid hz0
  have HZ1 := Lib.hid hz1
  have HZ2 := Lib.hid hz2
  have HL := Lib.hid (hl.later hb)
  have HL0 := Lib.hid hl
  have HB := Lib.hid hb
  have HF := Lib.hid hf
  have HBN := Lib.hid hbn
  have HBEG := Lib.hid hbeg
  have HNIL := Lib.hid hnil
  have HIH := Lib.hid IH
  have hbn4 : bn ≤ 3 := by omega
  have hpp : ((bn : Int) == p) = false := by simp; omega
  have HPN := Lib.hid hp
  have HCNT := Lib.hid hcnt
  obtain ⟨hf1, hf6⟩ := fromL_bd hbeg
  have hog0 : og < w0.heap.size := Nat.lt_of_lt_of_le hl.og_lo hl.lo_sz
  have hAlt : ∀ a, A = some a → a.block < w0.heap.size := fun a e => (hl.own_lt a e).2
  have HOG0 := Lib.hid hog0
  have HALT := Lib.hid hAlt
  obtain ⟨fr, hfr⟩ : ∃ fr, fr = fromL b := ⟨_, rfl⟩
  have HGO : Hid (goOn (allFit cs) (n + 1) b = tailT (goOn (allFit cs) n) b (7 - fr).toNat) := by show _ = _; rw [hfr]; rfl
  rw [← hfr] at hf1 hf6
  have HFR := Lib.hid hfr
  by_cases hb0 : b = []
  · have e0 : bn = 0 := by rw [← hbn, hb0]; rfl
    have hbz : ¬ (0 : Int) < bn := by omega
    have hfr1 : fr = 1 := by rw [hfr, hb0]; rfl
    have HN1 := Lib.hid hfr1
    clear hi hz0 hz1 hz2 hl hb hp hcnt hog0 hAlt IH hbeg hnil hf hbn hfr e0 hb0
    go_enter Try.func80, Try.ntmps80
    go_wp2_with fail
    go_loopw [11] (fun i wr => ∃ (j : Nat) (A1 : Option Addr) (c1 : Nat) (rs1 : List RowV), i = .int .i64 (7 - (j : Int)) ∧ j ≤ 6 ∧ fr ≤ 7 - (j : Int) ∧ LookAt og lo wb wr A1 c1 rs1 ∧ rowNums rs1 ++ tailT (goOn (allFit cs) n) b j = rowNums rs ++ goOn (allFit cs) (n + 1) b ∧ Turned og A w wr ∧ NewOr A A1 w) (fun i _ => (7 - intOf i).toNat)
    case atStart => exact ⟨(7 - fr).toNat, A, c, rs, congrArg _ (by omega), by omega, by omega, HL.out, by rw [HGO.out], Turned.refl _ _ _, NewOr.refl _ _⟩
    case round =>
      obtain ⟨j, A1, c1, rs1, rfl, hj, hjf, hl1, heq, htu, hno⟩ := hrel
      by_cases hj0 : 0 < j
      · obtain ⟨m, rfl⟩ : ∃ m, j = m + 1 := ⟨j - 1, by omega⟩
        obtain ⟨t, ht⟩ : ∃ t : Int, t = 6 - (m : Int) := ⟨_, rfl⟩
        have ht7 : (7 : Int) - ((m + 1 : Nat) : Int) = t := by omega
        have heq2 : rowNums rs1 ++ (goOn (allFit cs) n (b ++ [t]) ++ tailT (goOn (allFit cs) n) b m) = rowNums rs ++ goOn (allFit cs) (n + 1) b := by rw [ht]; exact heq
        have hlen := congrArg List.length heq2
        simp only [List.length_append, rowNums_len] at hlen
        have HC1 := Lib.hid (show rs1.length + (goOn (allFit cs) n (b ++ [t])).length ≤ 10000 by have := HCNT.out; omega)
        have HEQ := Lib.hid heq2
        have hfw := HF.out.turned HOG0.out (fun a e => .inl (HALT.out a e)) htu
        have HFW := Lib.hid hfw
        have HL1 := Lib.hid hl1
        have HTU := Lib.hid htu
        have HNO := Lib.hid hno
        have ht6 : t ≤ 6 := by omega
        have htf : fr ≤ t := by omega
        rw [ht7]
        clear heq heq2 hlen hfw hl1 htu hno hjf
        have HT := Lib.hid ht
        have HT7 := Lib.hid ht7
        clear ht ht7
        go_wp2_with fail
        refine (l1Own_any B bn bc b _ HFW.out.holds HBN.out (by omega) HNIL.out).mono ?_
        rintro e w3 ⟨A2, q2, rfl, hown2, hb2⟩
        rw [HBN.out] at hown2 ⊢
        have hs2 : wr.heap.size ≤ w3.heap.size := hb2.size
        have HO2 := Lib.hid (hown2.alloc (.cells #[.int .i64 t] 3))
        have HB3 := Lib.hid (hb2.alloc hs2 (.cells #[.int .i64 t] 3))
        have HMAX := Lib.hid (show bn + 1 ≤ maxLen by unfold maxLen; omega)
        have HBYT := Lib.hid (show (bn + 1) * 8 ≤ 140737488355328 by omega)
        have HBASE := Lib.hid (show wr.heap.size ≤ (w3.alloc (.cells #[.int .i64 t] 3)).heap.size by simp; omega)
        clear hown2 hb2 hs2
        go_wp2_with (at_builtin; refine wpList_append_lies _ rfl (.tmp 52) (.tmp 54) 39 rfl wr.heap.size 3 i0 (.int .i64 0) 1 8 Try.underlying39 HI.out HZ0.out HZ1.out HZ2.out rfl (by decide) (.slice A2 bn q2) bn (nums b) rfl HO2.out ⟨w3.heap.size, 0, none⟩ 1 1 [.int .i64 t] rfl rfl (cell_one_new _ _ _) (by simp [Value.oneCell']) (by decide) HMAX.out HBYT.out HBASE.out (w3.heap.size + 1) (by simp) ?_; intro g cap w4 hown4 hg4 hat hlt4)
        have HB4 := Lib.hid (HB3.out.grown hg4 HBASE.out (fun kk e => (HO2.out.lt kk e).1))
        have hnum : nums b ++ [.int .i64 t] = nums (b ++ [t]) := by simp [nums]
        rw [hnum] at hown4
        obtain ⟨A5, c5, hv5, hf5⟩ := Fresh.of_own hown4 (Nat.le_refl _)
        simp only [Value.slice.injEq, true_and] at hv5
        obtain ⟨rfl, rfl⟩ := hv5
        have HF5 := Lib.hid hf5
        clear hown4 hg4 hat hnum hf5
        refine (HIH.out (some ⟨g, 0, none⟩) (bn + 1) cap (b ++ [t]) w4 wr A1 c1 rs1 HL1.out HB4.out HF5.out (by simp [HBN.out]) (by have := HPN.out; omega) (begL_snoc HBEG.out (by rw [← HFR.out]; omega) ht6) (fun h => by cases h) HC1.out).mono ?_
        rintro e w5 ⟨rfl, A6, c6, rs6, hl6, hr6, htu6, hno6⟩
        have HL6 := Lib.hid hl6
        have HR6 := Lib.hid hr6
        have HTU6 := Lib.hid ((HTU.out.trans HNO.out (Turned.of_below HB4.out)).trans HNO.out htu6)
        have HNO6 := Lib.hid (HNO.out.trans (Nat.le_trans HTU.out.size HB4.out.size) hno6)
        clear hl6 hr6 htu6 hno6 hlt4
        go_wp2
        go_roundw
        case rel => exact ⟨m, A6, c6, rs6, congrArg _ (by have := HT.out; omega), by omega, by have := HT.out; omega, HL6.out, by rw [HR6.out, List.append_assoc]; exact HEQ.out, HTU6.out, HNO6.out⟩
        case measure => have := HT.out; simp [intOf]; omega
      · obtain rfl : j = 0 := by omega
        have HEQ : Hid (rowNums rs1 = rowNums rs ++ goOn (allFit cs) (n + 1) b) := by show _ = _; rw [← heq]; simp [tailT]
        have HL1 := Lib.hid hl1
        have HTU := Lib.hid htu
        have HNO := Lib.hid hno
        clear heq hl1 htu hno
        go_wp2
        go_end0
        exact ⟨rfl, A1, c1, rs1, HL1.out, HEQ.out, HTU.out, HNO.out⟩
  · have e0 : 0 < bn := by rw [← hbn]; exact List.length_pos_iff.2 hb0
    have hbz : (0 : Int) < bn := by omega
    have hbd : decide (0 < bn) = true := decide_eq_true e0
    obtain ⟨q, hq⟩ : ∃ q, q + 1 = bn := ⟨bn - 1, by omega⟩
    have hql : q < b.length := by omega
    obtain ⟨g0, o0, rfl, hgl, hc⟩ := hf.holds.look (k := q) (by rw [nums_len]; exact hql)
    simp only [nums, List.getElem_map] at hc
    rw [← fromL_last (by omega), ← hfr] at hc
    have hqm : (bn : Int) - 1 = q := by omega
    have hqw : IntKind.i64.wrap ((bn : Int) - 1) = q := by rw [hqm]; exact IntWalk.i64_in _ (by omega)
    have hq0 : (q : Int) < bn := by omega
    clear hi hz0 hz1 hz2 hl hb hp hcnt hog0 hAlt IH hbeg hnil hf hbn hfr e0 hb0 hq hql
    go_enter Try.func80, Try.ntmps80
    go_wp2_with fail
    clear hqm hqw hq0 hc
    go_loopw [11] (fun i wr => ∃ (j : Nat) (A1 : Option Addr) (c1 : Nat) (rs1 : List RowV), i = .int .i64 (7 - (j : Int)) ∧ j ≤ 6 ∧ fr ≤ 7 - (j : Int) ∧ LookAt og lo wb wr A1 c1 rs1 ∧ rowNums rs1 ++ tailT (goOn (allFit cs) n) b j = rowNums rs ++ goOn (allFit cs) (n + 1) b ∧ Turned og A w wr ∧ NewOr A A1 w) (fun i _ => (7 - intOf i).toNat)
    case atStart => exact ⟨(7 - fr).toNat, A, c, rs, congrArg _ (by omega), by omega, by omega, HL.out, by rw [HGO.out], Turned.refl _ _ _, NewOr.refl _ _⟩
    case round =>
      obtain ⟨j, A1, c1, rs1, rfl, hj, hjf, hl1, heq, htu, hno⟩ := hrel
      by_cases hj0 : 0 < j
      · obtain ⟨m, rfl⟩ : ∃ m, j = m + 1 := ⟨j - 1, by omega⟩
        obtain ⟨t, ht⟩ : ∃ t : Int, t = 6 - (m : Int) := ⟨_, rfl⟩
        have ht7 : (7 : Int) - ((m + 1 : Nat) : Int) = t := by omega
        have heq2 : rowNums rs1 ++ (goOn (allFit cs) n (b ++ [t]) ++ tailT (goOn (allFit cs) n) b m) = rowNums rs ++ goOn (allFit cs) (n + 1) b := by rw [ht]; exact heq
        have hlen := congrArg List.length heq2
        simp only [List.length_append, rowNums_len] at hlen
        have HC1 := Lib.hid (show rs1.length + (goOn (allFit cs) n (b ++ [t])).length ≤ 10000 by have := HCNT.out; omega)
        have HEQ := Lib.hid heq2
        have hfw := HF.out.turned HOG0.out (fun a e => .inl (HALT.out a e)) htu
        have HFW := Lib.hid hfw
        have HL1 := Lib.hid hl1
        have HTU := Lib.hid htu
        have HNO := Lib.hid hno
        have ht6 : t ≤ 6 := by omega
        have htf : fr ≤ t := by omega
        rw [ht7]
        clear heq heq2 hlen hfw hl1 htu hno hjf
        have HT := Lib.hid ht
        have HT7 := Lib.hid ht7
        clear ht ht7
        go_wp2_with fail
        refine (l1Own_any (some ⟨g0, o0, none⟩) bn bc b _ HFW.out.holds HBN.out (by omega) HNIL.out).mono ?_
        rintro e w3 ⟨A2, q2, rfl, hown2, hb2⟩
        rw [HBN.out] at hown2 ⊢
        have hs2 : wr.heap.size ≤ w3.heap.size := hb2.size
        have HO2 := Lib.hid (hown2.alloc (.cells #[.int .i64 t] 3))
        have HB3 := Lib.hid (hb2.alloc hs2 (.cells #[.int .i64 t] 3))
        have HMAX := Lib.hid (show bn + 1 ≤ maxLen by unfold maxLen; omega)
        have HBYT := Lib.hid (show (bn + 1) * 8 ≤ 140737488355328 by omega)
        have HBASE := Lib.hid (show wr.heap.size ≤ (w3.alloc (.cells #[.int .i64 t] 3)).heap.size by simp; omega)
        clear hown2 hb2 hs2
        go_wp2_with (at_builtin; refine wpList_append_lies _ rfl (.tmp 52) (.tmp 54) 39 rfl wr.heap.size 3 i0 (.int .i64 0) 1 8 Try.underlying39 HI.out HZ0.out HZ1.out HZ2.out rfl (by decide) (.slice A2 bn q2) bn (nums b) rfl HO2.out ⟨w3.heap.size, 0, none⟩ 1 1 [.int .i64 t] rfl rfl (cell_one_new _ _ _) (by simp [Value.oneCell']) (by decide) HMAX.out HBYT.out HBASE.out (w3.heap.size + 1) (by simp) ?_; intro g cap w4 hown4 hg4 hat hlt4)
        have HB4 := Lib.hid (HB3.out.grown hg4 HBASE.out (fun kk e => (HO2.out.lt kk e).1))
        have hnum : nums b ++ [.int .i64 t] = nums (b ++ [t]) := by simp [nums]
        rw [hnum] at hown4
        obtain ⟨A5, c5, hv5, hf5⟩ := Fresh.of_own hown4 (Nat.le_refl _)
        simp only [Value.slice.injEq, true_and] at hv5
        obtain ⟨rfl, rfl⟩ := hv5
        have HF5 := Lib.hid hf5
        clear hown4 hg4 hat hnum hf5
        refine (HIH.out (some ⟨g, 0, none⟩) (bn + 1) cap (b ++ [t]) w4 wr A1 c1 rs1 HL1.out HB4.out HF5.out (by simp [HBN.out]) (by have := HPN.out; omega) (begL_snoc HBEG.out (by rw [← HFR.out]; omega) ht6) (fun h => by cases h) HC1.out).mono ?_
        rintro e w5 ⟨rfl, A6, c6, rs6, hl6, hr6, htu6, hno6⟩
        have HL6 := Lib.hid hl6
        have HR6 := Lib.hid hr6
        have HTU6 := Lib.hid ((HTU.out.trans HNO.out (Turned.of_below HB4.out)).trans HNO.out htu6)
        have HNO6 := Lib.hid (HNO.out.trans (Nat.le_trans HTU.out.size HB4.out.size) hno6)
        clear hl6 hr6 htu6 hno6 hlt4
        go_wp2
        go_roundw
        case rel => exact ⟨m, A6, c6, rs6, congrArg _ (by have := HT.out; omega), by omega, by have := HT.out; omega, HL6.out, by rw [HR6.out, List.append_assoc]; exact HEQ.out, HTU6.out, HNO6.out⟩
        case measure => have := HT.out; simp [intOf]; omega
      · obtain rfl : j = 0 := by omega
        have HEQ : Hid (rowNums rs1 = rowNums rs ++ goOn (allFit cs) (n + 1) b) := by show _ = _; rw [← heq]; simp [tailT]
        have HL1 := Lib.hid hl1
        have HTU := Lib.hid htu
        have HNO := Lib.hid hno
        clear heq hl1 htu hno
        go_wp2
        go_end0
        exact ⟨rfl, A1, c1, rs1, HL1.out, HEQ.out, HTU.out, HNO.out⟩

theorem pzLook_any (p : Int) (CA : Option Addr) (cn cc : Nat) (cs : List Cl) (wb : World) (og lo : Nat) (hog : wb.heap.size = og) (hCA : Holds wb CA (clsC cs)) (hcn : cs.length = cn) (hc6 : cn ≤ 6) (hok : cs.all (clOk p) = true) (hp1 : 1 ≤ p) (hp4 : p ≤ 4) : ∀ n, LookAll p CA cn cc cs wb og lo n
  | 0 => fun B bn bc b w w0 A c rs hl hb hf hbn hp hbeg _ hcnt => pzLook_leaf p CA cn cc cs wb og lo hog hCA hcn hc6 hok B bn bc b w w0 A c rs hl hb hf hbn (by omega) (begL_hid hbeg (by omega) (by omega)) hcnt
  | n + 1 => pzLook_step p CA cn cc cs wb og lo n hp4 (pzLook_any p CA cn cc cs wb og lo hog hCA hcn hc6 hok hp1 hp4 n)

/-- All hidden times of p people that fit some clues, in order. -/
def solI (p : Int) (cs : List Cl) : List (List Int) := goOn (allFit cs) p.toNat []
theorem solI_len {p : Int} (cs : List Cl) (hp1 : 1 ≤ p) (hp4 : p ≤ 4) : (solI p cs).length ≤ 1296 := by
  have h := goOn_len (allFit cs) p.toNat [] (fun y h => by cases h)
  have h4 : p.toNat ≤ 4 := by omega
  have : 6 ^ p.toNat ≤ 6 ^ 4 := Nat.pow_le_pow_right (by omega) h4
  unfold solI
  omega
/-- What a call hands back that makes a list of lists, with what lies in it. -/
def MadePost (ls : List (List Int)) (w : World) (e : Ending) (w' : World) : Prop :=
  ∃ (A : Option Addr) (c : Nat) (rs : List RowV), e = .returned (.slice A rs.length c) ∧ rowNums rs = ls ∧ Heads w' w.heap.size A c rs ∧ Below w.heap.size w w'

set_option maxHeartbeats 800000 in
theorem pzAll_any (p : Int) (CA : Option Addr) (cn cc : Nat) (cs : List Cl) (w : World) (hCA : Holds w CA (clsC cs)) (hcn : cs.length = cn) (hc6 : cn ≤ 6) (hok : cs.all (clOk p) = true) (hp1 : 1 ≤ p) (hp4 : p ≤ 4) :
    Calls Try.prog 62 #[.int .i64 p, .slice CA cn cc] w (MadePost (solI p cs) w) := by
  have hw0 := Whole.fresh w 49 #[.slice none 0 0]
  have hbl := below1 w (.cells #[.slice none 0 0] 49)
  have hlk : LookAt w.heap.size (w.heap.size + 1) w (w.alloc (.cells #[.slice none 0 0] 49)) none 0 [] := ⟨hw0, Heads.nil _ _, hbl, by omega, by simp⟩
  have HL := Lib.hid hlk
  have HALL := Lib.hid (pzLook_any p CA cn cc cs w w.heap.size (w.heap.size + 1) rfl hCA hcn hc6 hok hp1 hp4 p.toNat)
  have HCNT := Lib.hid (solI_len cs hp1 hp4)
  clear hw0 hbl hlk
  go_enter Try.func62, Try.ntmps62
  go_wp2_with fail
  refine (HALL.out none 0 0 [] _ _ none 0 [] HL.out (Below.refl _ _) (.inl rfl) rfl (by omega) begL_nil (fun _ => rfl) (by have := HCNT.out; show 0 + (solI p cs).length ≤ _; omega)).mono ?_
  rintro e w2 ⟨rfl, A2, c2, rs2, hl2, hr2, -, -⟩
  have c0 := hl2.cell.cells1
  have hlt := hl2.cell.lt
  have HL2 := Lib.hid hl2
  have HR2 : Hid (rowNums rs2 = solI p cs) := by show _ = _; rw [hr2]; rfl
  clear hl2 hr2
  go_wp2
  go_ret
  have hh := HL2.out.heads
  refine ⟨A2, c2, rs2, rfl, HR2.out, ⟨own_lower hh.1 (by omega), ?_⟩, HL2.out.below⟩
  obtain ⟨-, ps, f1, f2, f3⟩ := hh
  exact ⟨ps, f1, fun q hq => ⟨by have := (f2 q hq).1; omega, (f2 q hq).2⟩, f3⟩

/-- The solutions of a puzzle, none where it is none. -/
def solsI (p : Int) (cs : List Cl) : List (List Int) := if pzOk p cs then solI p cs else []
theorem solsI_yes {p : Int} {cs : List Cl} (h : pzOk p cs = true) : solsI p cs = solI p cs := if_pos h
theorem solsI_no {p : Int} {cs : List Cl} (h : pzOk p cs = false) : solsI p cs = [] := if_neg (by simp [h])
theorem pzOk_parts {p : Int} {cs : List Cl} (h : pzOk p cs = true) : 1 ≤ p ∧ p ≤ 4 ∧ cs.length ≤ 6 ∧ cs.all (clOk p) = true := by
  simp only [pzOk, Bool.and_eq_true, within_iff, decide_eq_true_eq] at h
  exact ⟨h.1.1, h.1.2, h.2.1, h.2.2⟩
end Go.Proofs.Ytcoagbcleccmmaa

namespace Go.Proofs.Ytcoagbcleccmmaa
open Go.RowKit

/-- Some of the rows that lie spread lie spread. -/
theorem pair_free {w : World} {ps : List (Nat × Nat)} {rs : List RowV} (h : FreeRows w ps rs) : (∀ y ∈ rs.zip ps, Fresh w y.2.1 y.2.2 3 y.1.A (nums y.1.xs) ∧ y.1.xs.length = y.1.n ∧ y.1.n ≤ 1048576) ∧ (rs.zip ps).Pairwise (fun a b => a.2.2 ≤ b.2.1 ∨ b.2.2 ≤ a.2.1) := by
  obtain ⟨h1, h2, h3⟩ := h
  refine ⟨fun y hy => ?_, ?_⟩
  · obtain ⟨k, hk, rfl⟩ := List.getElem_of_mem hy
    have hk' : k < rs.length ∧ k < ps.length := by have h9 := hk; rw [List.length_zip] at h9; omega
    have := h2 k rs[k] ps[k] (by simp [hk'.1]) (by simp [hk'.2])
    simpa using this
  · rw [List.pairwise_iff_getElem]
    intro i j hi hj hij
    have hi' : i < rs.length ∧ i < ps.length := by have h9 := hi; rw [List.length_zip] at h9; omega
    have hj' : j < rs.length ∧ j < ps.length := by have h9 := hj; rw [List.length_zip] at h9; omega
    have := h3 i j ps[i] ps[j] (by omega) (by simp [hi'.2]) (by simp [hj'.2])
    simpa using this
theorem of_pairs {w : World} {zs : List (RowV × (Nat × Nat))} (h1 : ∀ y ∈ zs, Fresh w y.2.1 y.2.2 3 y.1.A (nums y.1.xs) ∧ y.1.xs.length = y.1.n ∧ y.1.n ≤ 1048576) (h2 : zs.Pairwise (fun a b => a.2.2 ≤ b.2.1 ∨ b.2.2 ≤ a.2.1)) : FreeRows w (zs.map Prod.snd) (zs.map Prod.fst) := by
  refine ⟨by simp, fun k r p hr hp => ?_, fun i j p p' hne hp hp' => ?_⟩
  · rw [List.getElem?_map] at hr hp
    obtain ⟨y, hy, rfl⟩ := Option.map_eq_some_iff.1 hr
    rw [hy] at hp
    obtain rfl : y.2 = p := by simpa using hp
    exact h1 y (List.mem_of_getElem? hy)
  · rw [List.getElem?_map] at hp hp'
    obtain ⟨y, hy, rfl⟩ := Option.map_eq_some_iff.1 hp
    obtain ⟨y', hy', rfl⟩ := Option.map_eq_some_iff.1 hp'
    obtain ⟨hi, rfl⟩ := List.getElem?_eq_some_iff.1 hy
    obtain ⟨hj, rfl⟩ := List.getElem?_eq_some_iff.1 hy'
    rcases Nat.lt_or_gt_of_ne hne with h | h
    · exact List.pairwise_iff_getElem.1 h2 i j hi hj h
    · exact (List.pairwise_iff_getElem.1 h2 j i hj hi h).symm
theorem Heads.part_of {w wr : World} {lo c c' : Nat} {A D : Option Addr} {rs : List RowV} (f : RowV → Bool) (h : Heads w lo A c rs) (hb : Below w.heap.size w wr) (ho : wr.ownsRow w.heap.size 39 1 (.slice D (rs.filter f).length c') (rs.filter f).length (rowVals (rs.filter f))) (hl : lo ≤ w.heap.size) : Heads wr lo D c' (rs.filter f) := by
  obtain ⟨-, ps, hf, hp, -⟩ := h
  obtain ⟨h1, h2⟩ := pair_free hf
  have hz : ((rs.zip ps).filter (fun y => f y.1)).map Prod.fst = rs.filter f := by
    have h0 : (rs.zip ps).map Prod.fst = rs := by rw [List.map_fst_zip]; rw [hf.1]; exact Nat.le_refl _
    have h6 : rs.filter f = ((rs.zip ps).map Prod.fst).filter f := by rw [h0]
    rw [h6, List.filter_map]
    rfl
  have hfree : FreeRows w (((rs.zip ps).filter (fun y => f y.1)).map Prod.snd) (rs.filter f) := by
    rw [← hz]
    exact of_pairs (fun y hy => h1 y (List.mem_filter.1 hy).1) (h2.sublist List.filter_sublist)
  have hps : ∀ p ∈ ((rs.zip ps).filter (fun y => f y.1)).map Prod.snd, p ∈ ps := fun p hp => by
    obtain ⟨y, hy, rfl⟩ := List.mem_map.1 hp
    exact (List.of_mem_zip (List.mem_filter.1 hy).1).2
  refine ⟨own_lower ho hl, _, hfree.below hb, fun p hp' => ⟨(hp p (hps p hp')).1, Nat.le_trans (hp p (hps p hp')).2 hb.size⟩, fun a ha p hp' => .inr ?_⟩
  subst ha
  exact Nat.le_trans (hp p (hps p hp')).2 (ho.lt a.block rfl).1
end Go.Proofs.Ytcoagbcleccmmaa

namespace Go.Proofs.Ytcoagbcleccmmaa
open Go.RowKit

set_option maxHeartbeats 1600000 in
theorem mul_one (p : Int) (h1 : 1 ≤ p) (h4 : p ≤ 4) (w : World) : Calls Try.prog 97 #[.int .u64 1, .int .u64 p] w fun e w' => e = .returned (.tuple #[.int .u64 0, .int .u64 p]) ∧ w = w' := by
  rcases (show p = 1 ∨ p = 2 ∨ p = 3 ∨ p = 4 by omega) with rfl | rfl | rfl | rfl
  all_goals
    go_enter Try.func97, Try.ntmps97
    go_wp2
    go_ret2
    exact ⟨by rfl, rfl⟩
theorem size_int : (Try.prog.info? 3).map (·.size) = some 1 := by kernel_rfl

theorem alloc_setRow (w : World) (cs ds : Array Value) (ty : TypeId) : (w.alloc (.cells cs ty)).setRow w.heap.size ds = w.alloc (.cells ds ty) := by
  have h : ((w.alloc (.cells cs ty)).setRow w.heap.size ds).heap = (w.alloc (.cells ds ty)).heap := by
    apply Array.ext_getElem?
    intro j
    by_cases hj : j = w.heap.size
    · subst hj
      exact (setRow_heap (w.alloc (.cells cs ty)) w.heap.size cs ds ty _ (Whole.fresh w ty cs)).trans (Whole.fresh w ty ds).symm
    · rw [setRow_other _ _ _ _ hj]
      by_cases hlt : j < w.heap.size
      · rw [Below.heap_alloc w _ j hlt, Below.heap_alloc w _ j hlt]
      · rw [Array.getElem?_eq_none (by simp; omega), Array.getElem?_eq_none (by simp; omega)]
  rw [show (w.alloc (.cells cs ty)).setRow w.heap.size ds = { (w.alloc (.cells cs ty)) with heap := ((w.alloc (.cells cs ty)).setRow w.heap.size ds).heap } from rfl, h]
  rfl

set_option maxHeartbeats 3200000 in
set_option maxRecDepth 100000 in
theorem repeat_1 (B : Nat) (w : World) (hB : Whole w B 3 #[.int .i64 1]) :
    Calls Try.prog 83 #[.slice (some ⟨B, 0, none⟩) 1 1, .int .i64 1] w fun e w' => e = .returned (.slice (some ⟨w.heap.size, 0, none⟩) 1 1) ∧ Whole w' w.heap.size 3 (nums (List.replicate 1 1)).toArray ∧ Below w.heap.size w w' := by
  obtain ⟨i0, hi, hz0, hz1, hz2⟩ := info_parts info_int
  have hmk : ∀ W : World, (Instr.makeSlice 39 (.int .i64 ((1 : Nat) : Int)) (.int .i64 ((1 : Nat) : Int))).run Try.prog W = .ok (.slice (some ⟨W.heap.size, 0, none⟩) 1 1) (W.alloc (.cells (nums (List.replicate 1 0)).toArray 3)) := by
    intro W
    have h := run_make (P := Try.prog) W 39 3 i0 _ Try.underlying39 hi hz0 .i64 .i64 (1 : Nat) (1 : Nat) (by omega) (by omega) (by rw [hz2]; omega) (by omega)
    simp only [Int.toNat_natCast, hz1, made_zeros] at h
    rw [h]
  have hmk1 : ∀ W : World, (Instr.makeSlice 39 (.int .i64 1) (.int .i64 1)).run Try.prog W = .ok (.slice (some ⟨W.heap.size, 0, none⟩) 1 1) (W.alloc (.cells (nums [0]).toArray 3)) := hmk
  clear hmk hi hz0 hz1 hz2
  have hBlt := hB.lt
  have hcp0 : (Builtin.copy_ #[39, 39] 3 #[.slice (some ⟨w.heap.size, 0, none⟩) 1 1, .slice (some ⟨B, 0, none⟩) 1 1]).run Try.prog (w.alloc (.cells (nums [0]).toArray 3)) = .ok (goInt 1) (w.alloc (.cells (nums [1]).toArray 3)) := by
    have h := run_copy_row (P := Try.prog) (w.alloc (.cells (nums [0]).toArray 3)) 39 39 3 3 w.heap.size 0 1 1 ⟨B, 0, none⟩ 1 1 (nums [0]).toArray 3 [.int .i64 1] Try.underlying39 size_int (Whole.fresh w 3 (nums [0]).toArray) (by rfl) (fun j v hv => (by
      have hj : j = 0 := by have := (List.getElem?_eq_some_iff.1 hv).1; simp at this; exact this
      subst hj
      simp only [List.getElem?_cons_zero, Option.some.injEq] at hv
      subst hv
      exact ((hB.alloc _).cell 0))) (by simp [nums]) (by simp [Value.oneCell'])
    rw [alloc_setRow] at h
    simpa [nums] using h
  go_enter Try.func83, Try.ntmps83
  go_wp2_with (go_at_call 97; refine (mul_one _ (by omega) (by omega) _).mono ?_; rintro e w' ⟨rfl, rfl⟩)
  refine wp_loop_rounds 1 ?_
  rw [rounds_succ]
  go_wp2
  go_ret
  exact ⟨rfl, Whole.fresh w 3 (nums [1]).toArray, (below1 w _)⟩

set_option maxHeartbeats 3200000 in
set_option maxRecDepth 100000 in
theorem repeat_2 (B : Nat) (w : World) (hB : Whole w B 3 #[.int .i64 1]) :
    Calls Try.prog 83 #[.slice (some ⟨B, 0, none⟩) 1 1, .int .i64 2] w fun e w' => e = .returned (.slice (some ⟨w.heap.size, 0, none⟩) 2 2) ∧ Whole w' w.heap.size 3 (nums (List.replicate 2 1)).toArray ∧ Below w.heap.size w w' := by
  obtain ⟨i0, hi, hz0, hz1, hz2⟩ := info_parts info_int
  have hmk : ∀ W : World, (Instr.makeSlice 39 (.int .i64 ((2 : Nat) : Int)) (.int .i64 ((2 : Nat) : Int))).run Try.prog W = .ok (.slice (some ⟨W.heap.size, 0, none⟩) 2 2) (W.alloc (.cells (nums (List.replicate 2 0)).toArray 3)) := by
    intro W
    have h := run_make (P := Try.prog) W 39 3 i0 _ Try.underlying39 hi hz0 .i64 .i64 (2 : Nat) (2 : Nat) (by omega) (by omega) (by rw [hz2]; omega) (by omega)
    simp only [Int.toNat_natCast, hz1, made_zeros] at h
    rw [h]
  have hmk1 : ∀ W : World, (Instr.makeSlice 39 (.int .i64 2) (.int .i64 2)).run Try.prog W = .ok (.slice (some ⟨W.heap.size, 0, none⟩) 2 2) (W.alloc (.cells (nums [0, 0]).toArray 3)) := hmk
  clear hmk hi hz0 hz1 hz2
  have hBlt := hB.lt
  have hcp0 : (Builtin.copy_ #[39, 39] 3 #[.slice (some ⟨w.heap.size, 0, none⟩) 2 2, .slice (some ⟨B, 0, none⟩) 1 1]).run Try.prog (w.alloc (.cells (nums [0, 0]).toArray 3)) = .ok (goInt 1) (w.alloc (.cells (nums [1, 0]).toArray 3)) := by
    have h := run_copy_row (P := Try.prog) (w.alloc (.cells (nums [0, 0]).toArray 3)) 39 39 3 3 w.heap.size 0 2 2 ⟨B, 0, none⟩ 1 1 (nums [0, 0]).toArray 3 [.int .i64 1] Try.underlying39 size_int (Whole.fresh w 3 (nums [0, 0]).toArray) (by rfl) (fun j v hv => (by
      have hj : j = 0 := by have := (List.getElem?_eq_some_iff.1 hv).1; simp at this; exact this
      subst hj
      simp only [List.getElem?_cons_zero, Option.some.injEq] at hv
      subst hv
      exact ((hB.alloc _).cell 0))) (by simp [nums]) (by simp [Value.oneCell'])
    rw [alloc_setRow] at h
    simpa [nums] using h
  have hcp1 : (Builtin.copy_ #[39, 39] 3 #[.slice (some ⟨w.heap.size, 1, none⟩) 1 1, .slice (some ⟨w.heap.size, 0, none⟩) 1 2]).run Try.prog (w.alloc (.cells (nums [1, 0]).toArray 3)).drew = .ok (goInt 1) (w.alloc (.cells (nums [1, 1]).toArray 3)).drew := by
    have h := run_copy_row (P := Try.prog) (w.alloc (.cells (nums [1, 0]).toArray 3)).drew 39 39 3 3 w.heap.size 1 1 1 ⟨w.heap.size, 0, none⟩ 1 2 (nums [1, 0]).toArray 3 [.int .i64 1] Try.underlying39 size_int (Whole.fresh w 3 (nums [1, 0]).toArray) (by rfl) (fun j v hv => (by
      have hw := (Whole.fresh w 3 (nums [1, 0]).toArray).cell j
      have hj : j < 1 := by have := (List.getElem?_eq_some_iff.1 hv).1; simpa using this
      rw [show (⟨w.heap.size, 0, none⟩ : Addr).add j = ⟨w.heap.size, j, none⟩ from by unfold Addr.add; split <;> simp_all]
      refine hw.trans ?_
      rcases (show j = 0 ∨ j = 1 by omega) with rfl | rfl <;> (simp [nums] at hv ⊢; try exact hv))) (by simp [nums]) (by simp [Value.oneCell'])
    have hs : ∀ ds, ((w.alloc (.cells (nums [1, 0]).toArray 3)).drew).setRow w.heap.size ds = (w.alloc (.cells ds 3)).drew := fun ds => by rw [← alloc_setRow w (nums [1, 0]).toArray ds 3]; rfl
    rw [hs] at h
    simpa [nums] using h
  go_enter Try.func83, Try.ntmps83
  go_wp2_with (go_at_call 97; refine (mul_one _ (by omega) (by omega) _).mono ?_; rintro e w' ⟨rfl, rfl⟩)
  refine wp_loop_rounds 2 ?_
  rw [rounds_succ]
  go_wp2
  go_region
  go_wp2
  rw [rounds_succ]
  go_wp2
  go_ret
  exact ⟨rfl, Whole.fresh w 3 (nums [1, 1]).toArray, (below1 w _).drew⟩

set_option maxHeartbeats 3200000 in
set_option maxRecDepth 100000 in
theorem repeat_3 (B : Nat) (w : World) (hB : Whole w B 3 #[.int .i64 1]) :
    Calls Try.prog 83 #[.slice (some ⟨B, 0, none⟩) 1 1, .int .i64 3] w fun e w' => e = .returned (.slice (some ⟨w.heap.size, 0, none⟩) 3 3) ∧ Whole w' w.heap.size 3 (nums (List.replicate 3 1)).toArray ∧ Below w.heap.size w w' := by
  obtain ⟨i0, hi, hz0, hz1, hz2⟩ := info_parts info_int
  have hmk : ∀ W : World, (Instr.makeSlice 39 (.int .i64 ((3 : Nat) : Int)) (.int .i64 ((3 : Nat) : Int))).run Try.prog W = .ok (.slice (some ⟨W.heap.size, 0, none⟩) 3 3) (W.alloc (.cells (nums (List.replicate 3 0)).toArray 3)) := by
    intro W
    have h := run_make (P := Try.prog) W 39 3 i0 _ Try.underlying39 hi hz0 .i64 .i64 (3 : Nat) (3 : Nat) (by omega) (by omega) (by rw [hz2]; omega) (by omega)
    simp only [Int.toNat_natCast, hz1, made_zeros] at h
    rw [h]
  have hmk1 : ∀ W : World, (Instr.makeSlice 39 (.int .i64 3) (.int .i64 3)).run Try.prog W = .ok (.slice (some ⟨W.heap.size, 0, none⟩) 3 3) (W.alloc (.cells (nums [0, 0, 0]).toArray 3)) := hmk
  clear hmk hi hz0 hz1 hz2
  have hBlt := hB.lt
  have hcp0 : (Builtin.copy_ #[39, 39] 3 #[.slice (some ⟨w.heap.size, 0, none⟩) 3 3, .slice (some ⟨B, 0, none⟩) 1 1]).run Try.prog (w.alloc (.cells (nums [0, 0, 0]).toArray 3)) = .ok (goInt 1) (w.alloc (.cells (nums [1, 0, 0]).toArray 3)) := by
    have h := run_copy_row (P := Try.prog) (w.alloc (.cells (nums [0, 0, 0]).toArray 3)) 39 39 3 3 w.heap.size 0 3 3 ⟨B, 0, none⟩ 1 1 (nums [0, 0, 0]).toArray 3 [.int .i64 1] Try.underlying39 size_int (Whole.fresh w 3 (nums [0, 0, 0]).toArray) (by rfl) (fun j v hv => (by
      have hj : j = 0 := by have := (List.getElem?_eq_some_iff.1 hv).1; simp at this; exact this
      subst hj
      simp only [List.getElem?_cons_zero, Option.some.injEq] at hv
      subst hv
      exact ((hB.alloc _).cell 0))) (by simp [nums]) (by simp [Value.oneCell'])
    rw [alloc_setRow] at h
    simpa [nums] using h
  have hcp1 : (Builtin.copy_ #[39, 39] 3 #[.slice (some ⟨w.heap.size, 1, none⟩) 2 2, .slice (some ⟨w.heap.size, 0, none⟩) 1 3]).run Try.prog (w.alloc (.cells (nums [1, 0, 0]).toArray 3)).drew = .ok (goInt 1) (w.alloc (.cells (nums [1, 1, 0]).toArray 3)).drew := by
    have h := run_copy_row (P := Try.prog) (w.alloc (.cells (nums [1, 0, 0]).toArray 3)).drew 39 39 3 3 w.heap.size 1 2 2 ⟨w.heap.size, 0, none⟩ 1 3 (nums [1, 0, 0]).toArray 3 [.int .i64 1] Try.underlying39 size_int (Whole.fresh w 3 (nums [1, 0, 0]).toArray) (by rfl) (fun j v hv => (by
      have hw := (Whole.fresh w 3 (nums [1, 0, 0]).toArray).cell j
      have hj : j < 1 := by have := (List.getElem?_eq_some_iff.1 hv).1; simpa using this
      rw [show (⟨w.heap.size, 0, none⟩ : Addr).add j = ⟨w.heap.size, j, none⟩ from by unfold Addr.add; split <;> simp_all]
      refine hw.trans ?_
      rcases (show j = 0 ∨ j = 1 by omega) with rfl | rfl <;> (simp [nums] at hv ⊢; try exact hv))) (by simp [nums]) (by simp [Value.oneCell'])
    have hs : ∀ ds, ((w.alloc (.cells (nums [1, 0, 0]).toArray 3)).drew).setRow w.heap.size ds = (w.alloc (.cells ds 3)).drew := fun ds => by rw [← alloc_setRow w (nums [1, 0, 0]).toArray ds 3]; rfl
    rw [hs] at h
    simpa [nums] using h
  have hcp2 : (Builtin.copy_ #[39, 39] 3 #[.slice (some ⟨w.heap.size, 2, none⟩) 1 1, .slice (some ⟨w.heap.size, 0, none⟩) 2 3]).run Try.prog (w.alloc (.cells (nums [1, 1, 0]).toArray 3)).drew.drew = .ok (goInt 1) (w.alloc (.cells (nums [1, 1, 1]).toArray 3)).drew.drew := by
    have h := run_copy_row (P := Try.prog) (w.alloc (.cells (nums [1, 1, 0]).toArray 3)).drew.drew 39 39 3 3 w.heap.size 2 1 1 ⟨w.heap.size, 0, none⟩ 2 3 (nums [1, 1, 0]).toArray 3 [.int .i64 1] Try.underlying39 size_int (Whole.fresh w 3 (nums [1, 1, 0]).toArray) (by rfl) (fun j v hv => (by
      have hw := (Whole.fresh w 3 (nums [1, 1, 0]).toArray).cell j
      have hj : j < 1 := by have := (List.getElem?_eq_some_iff.1 hv).1; simpa using this
      rw [show (⟨w.heap.size, 0, none⟩ : Addr).add j = ⟨w.heap.size, j, none⟩ from by unfold Addr.add; split <;> simp_all]
      refine hw.trans ?_
      rcases (show j = 0 ∨ j = 1 by omega) with rfl | rfl <;> (simp [nums] at hv ⊢; try exact hv))) (by simp [nums]) (by simp [Value.oneCell'])
    have hs : ∀ ds, ((w.alloc (.cells (nums [1, 1, 0]).toArray 3)).drew.drew).setRow w.heap.size ds = (w.alloc (.cells ds 3)).drew.drew := fun ds => by rw [← alloc_setRow w (nums [1, 1, 0]).toArray ds 3]; rfl
    rw [hs] at h
    simpa [nums] using h
  go_enter Try.func83, Try.ntmps83
  go_wp2_with (go_at_call 97; refine (mul_one _ (by omega) (by omega) _).mono ?_; rintro e w' ⟨rfl, rfl⟩)
  refine wp_loop_rounds 3 ?_
  rw [rounds_succ]
  go_wp2
  go_region
  go_wp2
  rw [rounds_succ]
  go_wp2
  go_region
  go_wp2
  rw [rounds_succ]
  go_wp2
  go_ret
  exact ⟨rfl, Whole.fresh w 3 (nums [1, 1, 1]).toArray, (below1 w _).drew.drew⟩

set_option maxHeartbeats 3200000 in
set_option maxRecDepth 100000 in
theorem repeat_4 (B : Nat) (w : World) (hB : Whole w B 3 #[.int .i64 1]) :
    Calls Try.prog 83 #[.slice (some ⟨B, 0, none⟩) 1 1, .int .i64 4] w fun e w' => e = .returned (.slice (some ⟨w.heap.size, 0, none⟩) 4 4) ∧ Whole w' w.heap.size 3 (nums (List.replicate 4 1)).toArray ∧ Below w.heap.size w w' := by
  obtain ⟨i0, hi, hz0, hz1, hz2⟩ := info_parts info_int
  have hmk : ∀ W : World, (Instr.makeSlice 39 (.int .i64 ((4 : Nat) : Int)) (.int .i64 ((4 : Nat) : Int))).run Try.prog W = .ok (.slice (some ⟨W.heap.size, 0, none⟩) 4 4) (W.alloc (.cells (nums (List.replicate 4 0)).toArray 3)) := by
    intro W
    have h := run_make (P := Try.prog) W 39 3 i0 _ Try.underlying39 hi hz0 .i64 .i64 (4 : Nat) (4 : Nat) (by omega) (by omega) (by rw [hz2]; omega) (by omega)
    simp only [Int.toNat_natCast, hz1, made_zeros] at h
    rw [h]
  have hmk1 : ∀ W : World, (Instr.makeSlice 39 (.int .i64 4) (.int .i64 4)).run Try.prog W = .ok (.slice (some ⟨W.heap.size, 0, none⟩) 4 4) (W.alloc (.cells (nums [0, 0, 0, 0]).toArray 3)) := hmk
  clear hmk hi hz0 hz1 hz2
  have hBlt := hB.lt
  have hcp0 : (Builtin.copy_ #[39, 39] 3 #[.slice (some ⟨w.heap.size, 0, none⟩) 4 4, .slice (some ⟨B, 0, none⟩) 1 1]).run Try.prog (w.alloc (.cells (nums [0, 0, 0, 0]).toArray 3)) = .ok (goInt 1) (w.alloc (.cells (nums [1, 0, 0, 0]).toArray 3)) := by
    have h := run_copy_row (P := Try.prog) (w.alloc (.cells (nums [0, 0, 0, 0]).toArray 3)) 39 39 3 3 w.heap.size 0 4 4 ⟨B, 0, none⟩ 1 1 (nums [0, 0, 0, 0]).toArray 3 [.int .i64 1] Try.underlying39 size_int (Whole.fresh w 3 (nums [0, 0, 0, 0]).toArray) (by rfl) (fun j v hv => (by
      have hj : j = 0 := by have := (List.getElem?_eq_some_iff.1 hv).1; simp at this; exact this
      subst hj
      simp only [List.getElem?_cons_zero, Option.some.injEq] at hv
      subst hv
      exact ((hB.alloc _).cell 0))) (by simp [nums]) (by simp [Value.oneCell'])
    rw [alloc_setRow] at h
    simpa [nums] using h
  have hcp1 : (Builtin.copy_ #[39, 39] 3 #[.slice (some ⟨w.heap.size, 1, none⟩) 3 3, .slice (some ⟨w.heap.size, 0, none⟩) 1 4]).run Try.prog (w.alloc (.cells (nums [1, 0, 0, 0]).toArray 3)).drew = .ok (goInt 1) (w.alloc (.cells (nums [1, 1, 0, 0]).toArray 3)).drew := by
    have h := run_copy_row (P := Try.prog) (w.alloc (.cells (nums [1, 0, 0, 0]).toArray 3)).drew 39 39 3 3 w.heap.size 1 3 3 ⟨w.heap.size, 0, none⟩ 1 4 (nums [1, 0, 0, 0]).toArray 3 [.int .i64 1] Try.underlying39 size_int (Whole.fresh w 3 (nums [1, 0, 0, 0]).toArray) (by rfl) (fun j v hv => (by
      have hw := (Whole.fresh w 3 (nums [1, 0, 0, 0]).toArray).cell j
      have hj : j < 1 := by have := (List.getElem?_eq_some_iff.1 hv).1; simpa using this
      rw [show (⟨w.heap.size, 0, none⟩ : Addr).add j = ⟨w.heap.size, j, none⟩ from by unfold Addr.add; split <;> simp_all]
      refine hw.trans ?_
      rcases (show j = 0 ∨ j = 1 by omega) with rfl | rfl <;> (simp [nums] at hv ⊢; try exact hv))) (by simp [nums]) (by simp [Value.oneCell'])
    have hs : ∀ ds, ((w.alloc (.cells (nums [1, 0, 0, 0]).toArray 3)).drew).setRow w.heap.size ds = (w.alloc (.cells ds 3)).drew := fun ds => by rw [← alloc_setRow w (nums [1, 0, 0, 0]).toArray ds 3]; rfl
    rw [hs] at h
    simpa [nums] using h
  have hcp2 : (Builtin.copy_ #[39, 39] 3 #[.slice (some ⟨w.heap.size, 2, none⟩) 2 2, .slice (some ⟨w.heap.size, 0, none⟩) 2 4]).run Try.prog (w.alloc (.cells (nums [1, 1, 0, 0]).toArray 3)).drew.drew = .ok (goInt 2) (w.alloc (.cells (nums [1, 1, 1, 1]).toArray 3)).drew.drew := by
    have h := run_copy_row (P := Try.prog) (w.alloc (.cells (nums [1, 1, 0, 0]).toArray 3)).drew.drew 39 39 3 3 w.heap.size 2 2 2 ⟨w.heap.size, 0, none⟩ 2 4 (nums [1, 1, 0, 0]).toArray 3 [.int .i64 1, .int .i64 1] Try.underlying39 size_int (Whole.fresh w 3 (nums [1, 1, 0, 0]).toArray) (by rfl) (fun j v hv => (by
      have hw := (Whole.fresh w 3 (nums [1, 1, 0, 0]).toArray).cell j
      have hj : j < 2 := by have := (List.getElem?_eq_some_iff.1 hv).1; simpa using this
      rw [show (⟨w.heap.size, 0, none⟩ : Addr).add j = ⟨w.heap.size, j, none⟩ from by unfold Addr.add; split <;> simp_all]
      refine hw.trans ?_
      rcases (show j = 0 ∨ j = 1 by omega) with rfl | rfl <;> (simp [nums] at hv ⊢; try exact hv))) (by simp [nums]) (by simp [Value.oneCell'])
    have hs : ∀ ds, ((w.alloc (.cells (nums [1, 1, 0, 0]).toArray 3)).drew.drew).setRow w.heap.size ds = (w.alloc (.cells ds 3)).drew.drew := fun ds => by rw [← alloc_setRow w (nums [1, 1, 0, 0]).toArray ds 3]; rfl
    rw [hs] at h
    simpa [nums] using h
  go_enter Try.func83, Try.ntmps83
  go_wp2_with (go_at_call 97; refine (mul_one _ (by omega) (by omega) _).mono ?_; rintro e w' ⟨rfl, rfl⟩)
  refine wp_loop_rounds 3 ?_
  rw [rounds_succ]
  go_wp2
  go_region
  go_wp2
  rw [rounds_succ]
  go_wp2
  go_region
  go_wp2
  rw [rounds_succ]
  go_wp2
  go_ret
  exact ⟨rfl, Whole.fresh w 3 (nums [1, 1, 1, 1]).toArray, (below1 w _).drew.drew⟩
end Go.Proofs.Ytcoagbcleccmmaa

namespace Go.Proofs.Ytcoagbcleccmmaa
open Go.RowKit Go.Shelf

attribute [local go_sem] Oper.semAt_some

/-- What has come when k rounds are over. -/
def comeUp {α : Type} (f : Nat → α) (k : Nat) : List α := (List.range k).map f
theorem comeUp_succ {α : Type} (f : Nat → α) (k : Nat) : comeUp f (k + 1) = comeUp f k ++ [f k] := by simp [comeUp, List.range_succ]
theorem comeUp_len {α : Type} (f : Nat → α) (k : Nat) : (comeUp f k).length = k := by simp [comeUp]
/-- What a round keeps: what lay below n₀, and the box that the iterator reads. -/
def KeepB (n₀ Bs : Nat) (W W' : World) : Prop := Below n₀ W W' ∧ W'.heap[Bs]? = W.heap[Bs]?
theorem KeepB.refl (n₀ Bs : Nat) (W : World) : KeepB n₀ Bs W W := ⟨Below.refl _ _, rfl⟩
theorem KeepB.trans {n₀ Bs : Nat} {X Y Z : World} (h : KeepB n₀ Bs X Y) (k : KeepB n₀ Bs Y Z) : KeepB n₀ Bs X Z := ⟨h.1.trans k.1, k.2.trans h.2⟩
/-- The number at a place of a list. -/
def gI (l : List Int) (k : Nat) : Int := l.getD k 0
theorem gI_at {l : List Int} {k : Nat} (h : k < l.length) : gI l k = l[k] := by simp [gI, h]
/-- A place of a list and its number. -/
abbrev PlI (ls : List Int) := { x : Nat × Int // x.1 < ls.length ∧ gI ls x.1 = x.2 }
/-- The k-th of a list from behind, and its place. -/
def bhS (ls : List Int) (h : 0 < ls.length) (k : Nat) : PlI ls := ⟨(ls.length - 1 - k, gI ls (ls.length - 1 - k)), by dsimp only; omega, rfl⟩

set_option maxRecDepth 100000 in
set_option maxHeartbeats 2000000 in
theorem bint1_in (F : Fence) (n : Nat) (hf : F.fn 106) (hro : F.round = none) (hn : 1 ≤ n) (l Bs n₀ b off len cap : Nat) (ls : List Int) (hne : 0 < ls.length) (hlen : ls.length = len) (h40 : len ≤ 40) (hb : b < n₀) (J Jx : List (PlI ls) → World → Prop)
    (hY : ∀ pre x W, J pre W → pre.length < len → YieldAt F (n - 1) Try.prog l #[.int .i64 (x.1.1 : Int), .int .i64 x.1.2] W fun e W' =>
      (e = .returned (.bool true) ∧ J (pre ++ [x]) W' ∧ KeepB n₀ Bs W W') ∨ (e = .returned (.bool false) ∧ Jx (pre ++ [x]) W'))
    (W : World) (hBs : W.cell? ⟨Bs, 0, none⟩ = some (.slice (some ⟨b, off, none⟩) len cap)) (hc : ∀ j u, (nums ls)[j]? = some u → W.cell? ⟨b, off + j, none⟩ = some u) (h0 : J [] W) :
    CallsIn F n Try.prog 106 #[.func (.yield l) #[] #[], .pointer (some ⟨Bs, 0, none⟩)] W fun e W' => (∃ v, e = .returned v) ∧
      ((∃ ys, ys = comeUp (bhS ls hne) len ∧ J ys W') ∨ (∃ pre, (∃ k, k ≤ len ∧ pre = comeUp (bhS ls hne) k) ∧ Jx pre W')) := by
  have hwq : IntKind.i64.wrap ((len : Int) - 1) = (len : Int) - 1 := IntWalk.i64_in _ (by omega)
  refine callsIn_of_wp Try.func106 rfl hf ?_ hro
  simp only [Try.ntmps106, List.size_toArray, List.length_cons, List.length_nil, Nat.reduceAdd, Nat.reduceSub, Array.replicate_succ, Array.replicate_zero, List.push_toArray, List.append_toArray, List.nil_append, List.cons_append]
  gi_wp2
  gi_loopw [3] (fun i wr => ∃ y : Int, -1 ≤ y ∧ y < len ∧ i = .int .i64 y ∧ J (comeUp (bhS ls hne) ((len : Int) - 1 - y).toNat) wr ∧ KeepB n₀ Bs W wr)
    (fun i _ => (intOf i + 1).toNat)
  case atStart => exact ⟨(len : Int) - 1, by omega, by omega, rfl, by rw [show ((len : Int) - 1 - ((len : Int) - 1)).toNat = 0 by omega]; exact h0, KeepB.refl _ _ _⟩
  case round =>
    obtain ⟨y, hy0, hyl, rfl, hJs, hnx⟩ := hrel
    have hbx := (World.cell?_of_block (a := ⟨Bs, 0, none⟩) hnx.2).trans hBs
    by_cases hy : 0 ≤ y
    · obtain ⟨k, rfl⟩ := Int.eq_ofNat_of_zero_le hy
      have hkl : k < ls.length := by omega
      have hc2 : ∀ j u, (nums ls)[j]? = some u → wr.cell? ⟨b, off + j, none⟩ = some u := fun j u hu => (hnx.1.cell (p := ⟨b, off + j, none⟩) hb).trans (hc j u hu)
      obtain ⟨v, hv⟩ : ∃ v, gI ls k = v := ⟨_, rfl⟩
      have m0 : wr.cell? ⟨b, off + k, none⟩ = some (.int .i64 v) := hc2 k _ (by rw [← hv, gI_at hkl]; simp [nums, hkl])
      obtain ⟨fn, tmps, assign, body, hyy, hR⟩ := hY _ ⟨(k, v), hkl, hv⟩ wr hJs (by rw [comeUp_len]; omega)
      have hnext : comeUp (bhS ls hne) ((len : Int) - 1 - (k : Int)).toNat ++ [⟨(k, v), hkl, hv⟩] = comeUp (bhS ls hne) (((len : Int) - 1 - (k : Int)).toNat + 1) := by
        rw [comeUp_succ]
        have hq : ls.length - 1 - ((len : Int) - 1 - (k : Int)).toNat = k := by omega
        congr 1
        simp only [bhS, hq, hv]
      have HNX := Lib.hid hnext
      have hwk : IntKind.i64.wrap ((k : Int) - 1) = (k : Int) - 1 := IntWalk.i64_in _ (by omega)
      have hk0 : (0 : Int) ≤ k := by omega
      have hkL : (k : Int) < len := by omega
      have hkn : k < len := by omega
      clear hnext hJs hc hc2
      gi_wp2
      refine hR.mono ?_
      rintro e W3 (⟨rfl, hJ3, hk3⟩ | ⟨rfl, hJx3⟩)
      · gi_wp2
        go_roundw
        case rel => exact ⟨(k : Int) - 1, by omega, by omega, by go_num, by rw [show ((len : Int) - 1 - ((k : Int) - 1)).toNat = ((len : Int) - 1 - (k : Int)).toNat + 1 by omega, ← HNX.out]; exact hJ3, hnx.trans hk3⟩
        case measure => simp [intOf]
      · gi_wp2
        refine bodyPost_ret (results_none rfl _ _ _) rfl ?_
        exact ⟨⟨_, rfl⟩, .inr ⟨_, ⟨((len : Int) - 1 - (k : Int)).toNat + 1, by omega, HNX.out⟩, hJx3⟩⟩
    · obtain rfl : y = -1 := by omega
      rw [show ((len : Int) - 1 - (-1 : Int)).toNat = len by omega] at hJs
      gi_wp2
      go_end0
      exact ⟨⟨_, rfl⟩, .inl hJs⟩

set_option maxHeartbeats 1000000 in
/-- The iterator's maker: the list's value is boxed, the function value captures the box. -/
theorem bint_in (F : Fence) (n : Nat) (hf : F.fn 98) (hro : F.round = none) (a : Option Addr) (len cap : Nat) (w : World) :
    CallsIn F n Try.prog 98 #[.slice a len cap] w fun e w' => e = .returned (.func (.func 106) #[] #[.pointer (some ⟨w.heap.size, 0, none⟩)]) ∧ w' = w.alloc (.cells #[.slice a len cap] 39) := by
  refine callsIn_of_wp Try.func98 rfl hf ?_ hro
  simp only [Try.ntmps98, List.size_toArray, List.length_cons, List.length_nil, Nat.reduceAdd, Nat.reduceSub, Array.replicate_succ, Array.replicate_zero, List.push_toArray, List.append_toArray, List.nil_append, List.cons_append]
  gi_wp2
  go_ret
  exact ⟨rfl, rfl⟩

theorem bint_stops (F : Fence) (n : Nat) (hf : F.fn 106) (hro : F.round = none) (hn : 1 ≤ n) (Bs n₀ b off len cap : Nat) (ls : List Int) (hne : 0 < ls.length) (hlen : ls.length = len) (h40 : len ≤ 40) (w : World) (hBs : Bs < w.heap.size) (hn₀ : n₀ ≤ w.heap.size)
    (hc : w.cell? ⟨Bs, 0, none⟩ = some (.slice (some ⟨b, off, none⟩) len cap)) (hb : b < n₀) (hcs : ∀ j u, (nums ls)[j]? = some u → w.cell? ⟨b, off + j, none⟩ = some u) :
    SeqStopsK F n Try.prog 106 #[.pointer (some ⟨Bs, 0, none⟩)] (fun x : PlI ls => #[Value.int .i64 (x.1.1 : Int), Value.int .i64 x.1.2]) (KeepB n₀ Bs) (fun ys => ys = comeUp (bhS ls hne) len)
      (fun pre => ∃ k, k ≤ len ∧ pre = comeUp (bhS ls hne) k) len w := fun l J Jx W hW _ _ hY h0 =>
  bint1_in F n hf hro hn l Bs n₀ b off len cap ls hne hlen h40 hb J Jx hY W ((hW.cell (p := ⟨Bs, 0, none⟩) hBs).trans hc) (fun j u hu => (hW.cell (p := ⟨b, off + j, none⟩) (by show b < _; omega)).trans (hcs j u hu)) h0
end Go.Proofs.Ytcoagbcleccmmaa

namespace Go.Proofs.Ytcoagbcleccmmaa
open Go.RowKit Go.Shelf Go.BigFrame

attribute [local go_sem] Oper.semAt_some

/-- From the k-th number on all are one more than the k-th was. -/
def nextI (l : List Int) (k : Nat) : List Int := l.take k ++ List.replicate (l.length - k) (gI l k + 1)
/-- The same, j of them laid. -/
def partI (l : List Int) (k j : Nat) : List Int := l.take k ++ List.replicate j (gI l k + 1) ++ l.drop (k + j)
theorem partI_zero (l : List Int) (k : Nat) : partI l k 0 = l := by simp [partI]
theorem partI_done (l : List Int) {k : Nat} (hk : k ≤ l.length) : partI l k (l.length - k) = nextI l k := by
  rw [partI, nextI, List.drop_eq_nil_of_le (by omega), List.append_nil]
theorem partI_len (l : List Int) {k j : Nat} (h : k + j ≤ l.length) : (partI l k j).length = l.length := by
  simp [partI]; omega
theorem partI_set (l : List Int) {k j : Nat} (h : k + j < l.length) : (partI l k j).set (k + j) (gI l k + 1) = partI l k (j + 1) := by
  have hA : (l.take k ++ List.replicate j (gI l k + 1)).length = k + j := by simp; omega
  rw [partI, partI, List.drop_eq_getElem_cons h, List.set_append_right _ _ (by omega), hA, Nat.sub_self, List.set_cons_zero, List.replicate_succ', ← List.append_assoc, List.append_assoc _ [_], List.singleton_append, Nat.add_assoc]
theorem partI_next (l : List Int) {k j : Nat} (h : k + j < l.length) : (nums (partI l k j)).toArray.setIfInBounds (k + j) (.int .i64 (gI l k + 1)) = (nums (partI l k (j + 1))).toArray := by
  rw [← partI_set l h]
  simp [nums, List.map_set]
theorem whole_kept {W W' : World} {g : Nat} {ty : TypeId} {cs : Array Value} {row : Option Nat} (h : Whole W g ty cs) (hg : W.grownBy W' row) (hr : ∀ r, row = some r → ∃ o : Obj, W.heap[r]? = some o ∧ o.isCells = false) : Whole W' g ty cs :=
  (hg.block g h.lt (fun e => by
    obtain ⟨o, ho, hn⟩ := hr g e.symm
    rw [show W.heap[g]? = _ from h] at ho
    obtain rfl := Option.some.inj ho
    cases hn)).trans h

/-- What is known while the step to the next list looks for a number. -/
structure NxI (w : World) (g n : Nat) (m : Int) (l : List Int) (W : World) : Prop where
  box : Whole W w.heap.size 39 #[.slice (some ⟨g, 0, none⟩) n n]
  most : Whole W (w.heap.size + 1) 3 #[.int .i64 m]
  res : Whole W (w.heap.size + 2) 4 #[.bool false]
  iter : Whole W (w.heap.size + 3) 39 #[.slice (some ⟨g, 0, none⟩) n n]
  list : Whole W g 3 (nums l).toArray
  below : Below w.heap.size w W
/-- None of these is less than m. -/
def Passed (m : Int) {l : List Int} (p : List (PlI l)) : Prop := ∀ y ∈ p, ¬ y.1.2 < m
/-- What the step to the next list hands back. -/
def NxPost (w : World) (g : Nat) (m : Int) (l : List Int) (e : Ending) (w' : World) : Prop :=
  (∃ k, k < l.length ∧ gI l k < m ∧ (∀ j, k < j → j < l.length → ¬ gI l j < m) ∧ e = .returned (.bool true) ∧ Whole w' g 3 (nums (nextI l k)).toArray ∧ Span g (g + 1) w w') ∨ ((∀ j, j < l.length → ¬ gI l j < m) ∧ e = .returned (.bool false) ∧ Below w.heap.size w w')
theorem passed_all {m : Int} {l : List Int} {hne : 0 < l.length} {q : Nat} (h : Passed m (comeUp (bhS l hne) q)) {j : Nat} (hj : j < l.length) (hq : l.length - 1 - j < q) : ¬ gI l j < m := by
  have hm : bhS l hne (l.length - 1 - j) ∈ comeUp (bhS l hne) q := List.mem_map.2 ⟨_, List.mem_range.2 hq, rfl⟩
  have := h _ hm
  simpa only [bhS, show l.length - 1 - (l.length - 1 - j) = j by omega] using this
/-- What the step to the next list leaves where it has found one. -/
structure NxX (w : World) (g k : Nat) (l : List Int) (W : World) : Prop where
  res : Whole W (w.heap.size + 2) 4 #[.bool true]
  list : Whole W g 3 (nums (nextI l k)).toArray
  span : Span g (g + 1) w W

set_option linter.unusedSimpArgs false in
set_option maxRecDepth 100000 in
set_option maxHeartbeats 4000000 in
theorem nextList_any (l : List Int) (n g : Nat) (m : Int) (w : World) (hw : Whole w g 3 (nums l).toArray) (hn : l.length = n) (h1 : 1 ≤ n) (h4 : n ≤ 4) (hm0 : 0 ≤ m) (hm : m ≤ 1000) (hl : ∀ y ∈ l, 0 ≤ y ∧ y ≤ 1000) :
    Calls Try.prog 84 #[.slice (some ⟨g, 0, none⟩) n n, .int .i64 m] w (NxPost w g m l) := by
  have HN := Lib.hid hn
  have hgl := hw.lt
  have hb1 := below1 w (.cells #[.slice (some ⟨g, 0, none⟩) n n] 39)
  have w0 := (((Whole.fresh w 39 #[.slice (some ⟨g, 0, none⟩) n n]).alloc (.cells #[.int .i64 m] 3)).alloc (.cells #[.bool false] 4)).alloc (.cells #[.slice (some ⟨g, 0, none⟩) n n] 39)
  have w1 := ((Whole.fresh (w.alloc (.cells #[.slice (some ⟨g, 0, none⟩) n n] 39)) 3 #[.int .i64 m]).alloc (.cells #[.bool false] 4)).alloc (.cells #[.slice (some ⟨g, 0, none⟩) n n] 39)
  have w2 := (Whole.fresh ((w.alloc (.cells #[.slice (some ⟨g, 0, none⟩) n n] 39)).alloc (.cells #[.int .i64 m] 3)) 4 #[.bool false]).alloc (.cells #[.slice (some ⟨g, 0, none⟩) n n] 39)
  have w3 := Whole.fresh (((w.alloc (.cells #[.slice (some ⟨g, 0, none⟩) n n] 39)).alloc (.cells #[.int .i64 m] 3)).alloc (.cells #[.bool false] 4)) 39 #[.slice (some ⟨g, 0, none⟩) n n]
  simp only [World.size_alloc] at w1 w2 w3
  have hb4 := below4 w (.cells #[.slice (some ⟨g, 0, none⟩) n n] 39) (.cells #[.int .i64 m] 3) (.cells #[.bool false] 4) (.cells #[.slice (some ⟨g, 0, none⟩) n n] 39)
  have hI : NxI w g n m l ((((w.alloc (.cells #[.slice (some ⟨g, 0, none⟩) n n] 39)).alloc (.cells #[.int .i64 m] 3)).alloc (.cells #[.bool false] 4)).alloc (.cells #[.slice (some ⟨g, 0, none⟩) n n] 39)) := ⟨w0, w1, w2, w3, hw.below hb4, hb4⟩
  have HI := Lib.hid hI
  have HL := Lib.hid hl
  clear w0 w1 w2 w3 hb4 hI hb1 hn hl
  refine (callsIn_wide (n := 9)).1 ?_
  refine callsIn_of_wp_marks Try.func84 rfl trivial ?_ rfl
  simp only [Try.ntmps84, List.size_toArray, List.length_cons, List.length_nil, Nat.reduceAdd, Nat.reduceSub, Array.replicate_succ, Array.replicate_zero, List.push_toArray, List.append_toArray, List.nil_append, List.cons_append]
  gi_wp2_with fail
  refine ⟨trivial, ?_⟩
  refine (bint_in Fence.wide 8 trivial rfl _ _ _ _).mono ?_
  rintro e w2 ⟨rfl, rfl⟩
  gi_wp2
  obtain ⟨W0, hW0⟩ : ∃ W0, (((w.alloc (.cells #[.slice (some ⟨g, 0, none⟩) n n] 39)).alloc (.cells #[.int .i64 m] 3)).alloc (.cells #[.bool false] 4)).alloc (.cells #[.slice (some ⟨g, 0, none⟩) n n] 39) = W0 := ⟨_, rfl⟩
  have hsz : W0.heap.size = w.heap.size + 4 := by rw [← hW0]; simp
  rw [hW0] at HI ⊢
  clear hW0
  have hne : 0 < l.length := by have := HN.out; omega
  have hints : ∀ j u, (nums l)[j]? = some u → W0.cell? ⟨g, 0 + j, none⟩ = some u := fun j u hu => by rw [Nat.zero_add, HI.out.list.cell j]; simpa using hu
  refine wpIn_rangeFunc_ownG_of_H rfl (by omega) (gf := 106) (lb := #[.pointer (some ⟨w.heap.size + 3, 0, none⟩)]) rfl trivial (enters_of Try.func106 (by kernel_rfl) rfl)
    (bint_stops Fence.wide _ trivial rfl (by omega) (w.heap.size + 3) w.heap.size g 0 n n l hne HN.out (by omega) W0 (by omega) (by omega) HI.out.iter.cells1 hgl hints) KeepB.trans (fun W l o o' hl ho hc hw => ⟨(belowK_b (n₀ := w.heap.size) (w := W0) (by omega) W l o o' hl ho hc hw), (belowK_b (n₀ := W0.heap.size) (w := W0) (Nat.le_refl _) W l o o' hl ho hc hw).block (w.heap.size + 3) (by omega)⟩) (Below.refl _ _) (fun _ => rfl)
    (fun pre W => NxI w g n m l W ∧ Passed m pre)
    (fun c p W => c = .ret ∧ ∃ (pre : List (PlI l)) (x : PlI l), p = pre ++ [x] ∧ Passed m pre ∧ x.1.2 < m ∧ NxX w g x.1.1 l W)
    (fun pre W W' row hs hg hr => by
      obtain ⟨⟨a1, a2, a3, a4, a5, a6⟩, h2⟩ := hs
      exact ⟨⟨whole_kept a1 hg (fun r e => (hr r e).2), whole_kept a2 hg (fun r e => (hr r e).2), whole_kept a3 hg (fun r e => (hr r e).2), whole_kept a4 hg (fun r e => (hr r e).2), whole_kept a5 hg (fun r e => (hr r e).2), a6.grown hg a6.size (fun r e => by have := (hr r e).1; omega)⟩, h2⟩)
    (fun c pre W W' row hs hg hr => by
      obtain ⟨hc, p, x, h1, h2, h3, ⟨a1, a2, a3⟩⟩ := hs
      exact ⟨hc, p, x, h1, h2, h3, ⟨whole_kept a1 hg (fun r e => (hr r e).2), whole_kept a2 hg (fun r e => (hr r e).2), ⟨hg.os.trans a3.os, hg.tape.trans a3.tape, hg.output.trans a3.output, Nat.le_trans a3.size hg.size, fun q hq hne => (hg.block q (Nat.lt_of_lt_of_le hq a3.size) (fun e => by have := (hr q e.symm).1; omega)).trans (a3.block q hq hne)⟩⟩⟩)
    ⟨HI.out, fun y hy => by cases hy⟩
    (fun x => { tmps := #[.slice (some ⟨g, 0, none⟩) n n, .int .i64 m, .pointer (some ⟨w.heap.size, 0, none⟩), .pointer (some ⟨w.heap.size + 1, 0, none⟩), .pointer (some ⟨w.heap.size + 2, 0, none⟩), .int .i64 (x.1.1 : Int), .int .i64 x.1.2, undef, .slice (some ⟨g, 0, none⟩) n n, .func (.func 106) #[] #[.pointer (some ⟨w.heap.size + 3, 0, none⟩)], .int .i64 (x.1.1 : Int), .int .i64 x.1.2, undef, undef, undef, undef, undef, undef, undef, undef, undef, undef, undef, undef, undef, undef, undef, undef, undef, undef], defers := [] })
    ?assign ?body ?done ?stop (fun W => KeepB.refl _ _ W)
  case assign =>
    rintro l pre W K hK
    gi_wp2
    exact hK
  case body =>
    rintro lp pre ⟨⟨i, x⟩, hil, hxl⟩ W ⟨hi, hno⟩ hlt
    dsimp only at hil hxl ⊢
    have cm := hi.most.cells1
    have cb := hi.box.cells1
    have hlb := hi.iter.lt
    have hgw : g < W.heap.size := hi.list.lt
    have HI2 := Lib.hid hi
    have HNO := Lib.hid hno
    have HXL := Lib.hid hxl
    have hin : i < n := by have := HN.out; omega
    have hxb := HL.out x (by rw [← hxl, gI_at hil]; exact List.getElem_mem hil)
    by_cases hxm : x < m
    · have hiI : (i : Int) ≤ n := by omega
      have hi0 : (0 : Int) ≤ i := by omega
      have hwx : IntKind.i64.wrap (x + 1) = x + 1 := IntWalk.i64_in _ (by omega)
      have hlw := hi.list.lt
      clear hi hno
      gi_wp2
      gi_loopw [19] (fun v wr => ∃ j : Nat, v = .int .i64 j ∧ i + j ≤ n ∧ Whole wr w.heap.size 39 #[.slice (some ⟨g, 0, none⟩) n n] ∧ Whole wr g 3 (nums (partI l i j)).toArray ∧ Whole wr (w.heap.size + 2) 4 #[.bool false] ∧ Span g (g + 1) w wr ∧ KeepsOthers W wr) (fun v _ => n - (intOf v).toNat)
      case atStart => exact ⟨0, rfl, by omega, HI2.out.box, by rw [partI_zero]; exact HI2.out.list, HI2.out.res, Span.of_below HI2.out.below _ _, KeepsOthers.refl _⟩
      case round =>
        obtain ⟨j, rfl, hj, hbx, hls, hrs, hsp, hko⟩ := hrel
        have cb := hbx.cells1
        have hgl2 := hls.lt
        by_cases hjn : i + j < n
        · have hjL : i + j < l.length := by have := HN.out; omega
          have hwj : IntKind.i64.wrap ((i : Int) + j) = ((i + j : Nat) : Int) := by rw [← Int.natCast_add]; exact IntWalk.i64_in _ (by omega)
          have hset := hls.set_ (i + j) (.int .i64 (x + 1))
          have hpn := partI_next l (k := i) (j := j) hjL
          rw [hxl] at hpn
          rw [hpn] at hset
          have hfz := hls.open_ (i + j)
          have hsz1 : (nums (partI l i j)).toArray.size = n := by simp [nums, partI_len l (show i + j ≤ l.length by omega)]; exact HN.out
          obtain ⟨u, hu⟩ : ∃ u, (nums (partI l i j)).toArray[i + j]? = some u := ⟨_, Array.getElem?_eq_getElem (by rw [hsz1]; exact hjn)⟩
          have hcell := (hls.cell (i + j)).trans hu
          have HSET := Lib.hid hset
          have HBX := Lib.hid hbx
          have HRS := Lib.hid hrs
          have HSP := Lib.hid hsp
          have HKO := Lib.hid hko
          clear hbx hls hrs hsp hko hset hpn hu hsz1
          gi_wp2
          go_roundw
          case rel => exact ⟨j + 1, by go_num, by omega, HBX.out.off (by omega), HSET.out, HRS.out.off (by omega), HSP.out.trans ⟨rfl, rfl, rfl, by simp [World.setCell], fun q hq hne => Below.heap_setCell _ _ _ _ (by show q ≠ g; omega)⟩, HKO.out.trans (KeepsOthers.setCell _ _ _)⟩
          case measure => simp [intOf]; omega
        · have hjn2 : j = l.length - i := by have := HN.out; omega
          rw [hjn2, partI_done l (Nat.le_of_lt hil)] at hls
          have cr := hrs.cells1
          have fr := hrs.open_ 0
          have HLS := Lib.hid hls
          have HRS := Lib.hid hrs
          have HSP := Lib.hid hsp
          have HKO := Lib.hid hko
          clear hls hrs hsp hko hbx
          gi_wp2
          refine ⟨(HKO.out.trans (KeepsOthers.setCell _ _ _)).from _, rfl, pre, ⟨(i, x), hil, hxl⟩, rfl, HNO.out, hxm, ⟨HRS.out.set_ 0 (.bool true), HLS.out.off (by omega), ⟨HSP.out.os, HSP.out.tape, HSP.out.output, by have := HSP.out.size; simp [World.setCell]; omega, fun q hq hne => (Below.heap_setCell _ _ _ _ (by show q ≠ w.heap.size + 1 + 1; omega)).trans (HSP.out.block q hq hne)⟩⟩⟩
    · clear hi hno
      gi_wp2
      refine ⟨KeepsFrom.refl _ _, KeepB.refl _ _ _, HI2.out, fun y hy => ?_⟩
      rcases List.mem_append.1 hy with hy | hy
      · exact HNO.out y hy
      · obtain rfl := List.mem_singleton.1 hy
        show ¬ x < m
        omega
  case done =>
    rintro D' ys W hD' rfl ⟨hi, hno⟩ hK
    have cr := hi.res.cells1
    have fr := hi.res.open_ 0
    have hlb := hi.iter.lt
    have HI2 := Lib.hid hi
    have HNO := Lib.hid hno
    have hK2 : (W.setCell ⟨w.heap.size + 1 + 1, 0, none⟩ (.bool false)).heap[D']? = some (Obj.deferred (some [])) := (Below.heap_setCell _ _ _ _ (by show D' ≠ w.heap.size + 1 + 1; omega)).trans hK
    clear hi hno
    gi_wp2
    refine ⟨by simp, .inl ⟨_, _, rfl, run_takeDeferred hK2, ?_⟩⟩
    have cr2 : ((W.setCell ⟨w.heap.size + 1 + 1, 0, none⟩ (.bool false)).putObj D' (Obj.deferred none)).cell? ⟨w.heap.size + 1 + 1, 0, none⟩ = some (.bool false) := by
      rw [World.cell?_of_block (World.putObj_heap_other (by show w.heap.size + 1 + 1 ≠ D'; omega))]
      exact (show Whole (W.setCell ⟨w.heap.size + 1 + 1, 0, none⟩ (.bool false)) (w.heap.size + 2) 4 #[.bool false] from HI2.out.res.set_ 0 (.bool false)).cells1
    have hz : w.heap.size ≤ W.heap.size := HI2.out.below.size
    exact ⟨.bool false, by simp [results, Try.results84, go_sem, cr2], .inr ⟨fun j hj => passed_all HNO.out hj (by have := HN.out; omega), rfl, (below_set HI2.out.below (by omega)).grown (grownBy_putObj' _ D' _) (by simp [World.setCell]; omega) (fun k e => by cases e; omega)⟩⟩
  case stop =>
    rintro D' c' p W hD' ⟨k, hk, hp⟩ ⟨rfl, pre, x, hpx, hno, hxm, hx⟩ hK
    have HX := Lib.hid hx
    have HNO := Lib.hid hno
    obtain ⟨q, rfl⟩ : ∃ q, k = q + 1 := by
      cases k with
      | zero => rw [hpx] at hp; simp [comeUp] at hp
      | succ q => exact ⟨q, rfl⟩
    rw [hpx, comeUp_succ] at hp
    obtain ⟨hp1, hp2⟩ := List.append_inj' hp rfl
    simp only [List.cons.injEq, and_true] at hp2
    have HP1 := Lib.hid hp1
    have HP2 := Lib.hid hp2
    have hqn : q < n := by omega
    have hxx : x.1.1 = l.length - 1 - q := by rw [hp2]; rfl
    have cr2 : (W.putObj D' (Obj.deferred none)).cell? ⟨w.heap.size + 1 + 1, 0, none⟩ = some (.bool true) := by
      rw [World.cell?_of_block (World.putObj_heap_other (by show w.heap.size + 1 + 1 ≠ D'; omega))]
      exact HX.out.res.cells1
    have hzW : w.heap.size ≤ W.heap.size := HX.out.span.size
    clear hno hp hp1 hp2 hpx hx
    gi_wp2
    refine ⟨by simp, .inl ⟨_, _, rfl, run_takeDeferred hK, ?_⟩⟩
    exact ⟨.bool true, by simp [results, Try.results84, go_sem, cr2], .inl ⟨x.1.1, x.2.1, by rw [x.2.2]; exact hxm, fun j h1 h2 => passed_all (hne := hne) (q := q) (by rw [← HP1.out]; exact HNO.out) h2 (by omega), rfl,
      whole_kept HX.out.list (grownBy_putObj' W D' _) (fun r e => by cases e; exact ⟨_, hK, rfl⟩), ⟨HX.out.span.os, HX.out.span.tape, HX.out.span.output, Nat.le_trans HX.out.span.size (grownBy_putObj' W D' (Obj.deferred none)).size, fun z hz hne2 => (World.putObj_heap_other (by omega)).trans (HX.out.span.block z hz hne2)⟩⟩⟩
end Go.Proofs.Ytcoagbcleccmmaa

namespace Go.Proofs.Ytcoagbcleccmmaa

/-- All lists that go on with n more times from a beginning, not falling. -/
def listsM (most : Nat) : Nat → List Nat → List (List Nat)
  | 0, b => [b]
  | n + 1, b => (List.range most).flatMap fun t => if b.getLastD 1 ≤ t + 1 then listsM most n (b ++ [t + 1]) else []
/-- The next list, told from its end: how many equal their greatest time at the end are passed over. -/
def nextR (most : Nat) : List Nat → Nat → Option (List Nat)
  | [], _ => none
  | x :: xs, n => if x < most then some (List.replicate (n + 1) (x + 1) ++ xs) else nextR most xs (n + 1)
/-- The next list. -/
def nextL (most : Nat) (l : List Nat) : Option (List Nat) := (nextR most l.reverse 0).map List.reverse
/-- Is each one followed by its next one, and the last one by none? -/
def chainOk (most : Nat) : List (List Nat) → Bool
  | [] => false
  | [l] => nextL most l == none
  | l :: m :: r => nextL most l == some m && chainOk most (m :: r)
def startOk (n : Nat) (ls : List (List Nat)) : Bool := ls.head? == some (List.replicate n 1)
set_option maxRecDepth 100000 in
theorem lists_chain : (List.range 4).all (fun p => (List.range 12).all fun m => startOk (p + 1) (listsM (m + 1) (p + 1) []) && chainOk (m + 1) (listsM (m + 1) (p + 1) [])) = true := by decide +kernel
theorem chain_next {most : Nat} : ∀ {ls : List (List Nat)}, chainOk most ls = true → ∀ i (h : i + 1 < ls.length), nextL most (ls[i]'(by omega)) = some ls[i + 1]
  | [], h, _, _ => by simp [chainOk] at h
  | [l], _, i, h => by simp at h
  | l :: m :: r, h, i, hi => by
    simp only [chainOk, Bool.and_eq_true, beq_iff_eq] at h
    cases i with
    | zero => simpa using h.1
    | succ i => exact chain_next h.2 i (by simp only [List.length_cons] at hi ⊢; omega)
theorem chain_last {most : Nat} : ∀ {ls : List (List Nat)}, chainOk most ls = true → ∀ (h : 0 < ls.length), nextL most (ls[ls.length - 1]'(by omega)) = none
  | [], h, _ => by simp [chainOk] at h
  | [l], h, _ => by
    simp only [chainOk, beq_iff_eq] at h
    exact h
  | l :: m :: r, h, _ => by
    simp only [chainOk, Bool.and_eq_true] at h
    have := chain_last h.2 (by simp)
    simpa using this
/-- What both sides list: the first one, each one's next one, the last one. -/
theorem lists_run {p m : Nat} (hp1 : 1 ≤ p) (hp : p ≤ 4) (hm1 : 1 ≤ m) (hm : m ≤ 12) :
    (listsM m p []).head? = some (List.replicate p 1) ∧ (∀ i (h : i + 1 < (listsM m p []).length), nextL m ((listsM m p [])[i]'(by omega)) = some (listsM m p [])[i + 1]) ∧ ∀ (h : 0 < (listsM m p []).length), nextL m ((listsM m p [])[(listsM m p []).length - 1]'(by omega)) = none := by
  have h := List.all_eq_true.1 (List.all_eq_true.1 lists_chain (p - 1) (List.mem_range.2 (by omega))) (m - 1) (List.mem_range.2 (by omega))
  rw [show p - 1 + 1 = p by omega, show m - 1 + 1 = m by omega, Bool.and_eq_true] at h
  exact ⟨by simpa [startOk] using h.1, chain_next h.2, chain_last h.2⟩
end Go.Proofs.Ytcoagbcleccmmaa

namespace Go.Proofs.Ytcoagbcleccmmaa
open Go.RowKit

/-- All lists of p times up to m that do not fall, in order. -/
def upL (p m : Nat) : List (List Int) := (listsM m p []).map (·.map Int.ofNat)
/-- The last place before n whose number is less than m. -/
def lastLess (m : Int) (l : List Int) : Nat → Option Nat
  | 0 => none
  | k + 1 => if gI l k < m then some k else lastLess m l k
theorem lastLess_some {m : Int} {l : List Int} {k : Nat} (hk : gI l k < m) : ∀ {n : Nat}, k < n → (∀ j, k < j → j < n → ¬ gI l j < m) → lastLess m l n = some k
  | 0, h, _ => absurd h (by omega)
  | n + 1, h, hr => by
    unfold lastLess
    by_cases he : n = k
    · subst he; rw [if_pos hk]
    · rw [if_neg (hr n (by omega) (by omega))]
      exact lastLess_some hk (by omega) fun j h1 h2 => hr j h1 (by omega)
theorem lastLess_none {m : Int} {l : List Int} : ∀ {n : Nat}, (∀ j, j < n → ¬ gI l j < m) → lastLess m l n = none
  | 0, _ => rfl
  | n + 1, h => by
    unfold lastLess
    rw [if_neg (h n (by omega))]
    exact lastLess_none fun j hj => h j (by omega)
/-- Is each one followed by its next one, and the last one by none? -/
def chI (m : Int) : List (List Int) → Bool
  | [] => false
  | [l] => lastLess m l l.length == none
  | l :: r :: t => (match lastLess m l l.length with | some k => nextI l k == r | none => false) && chI m (r :: t)
def upOk (p m : Nat) : Bool := (upL p m).head? == some (List.replicate p 1) && (chI m (upL p m) && (upL p m).all fun l => l.length == p && l.all fun y => decide (0 ≤ y ∧ y ≤ 1000))
set_option maxRecDepth 100000 in
theorem up_all : (List.range 4).all (fun p => (List.range 12).all fun m => upOk (p + 1) (m + 1)) = true := by decide +kernel
theorem chI_next {m : Int} : ∀ {ls : List (List Int)}, chI m ls = true → ∀ i (h : i + 1 < ls.length), ∃ k, lastLess m (ls[i]'(by omega)) (ls[i]'(by omega)).length = some k ∧ nextI (ls[i]'(by omega)) k = ls[i + 1]
  | [], h, _, _ => by simp [chI] at h
  | [l], h, i, hi => by simp at hi
  | l :: r :: t, h, i, hi => by
    simp only [chI, Bool.and_eq_true] at h
    cases i with
    | zero =>
      cases hl : lastLess m l l.length with
      | none => rw [hl] at h; exact absurd h.1 (by simp)
      | some k => rw [hl] at h; exact ⟨k, hl, by simpa using h.1⟩
    | succ i => exact chI_next h.2 i (by simp only [List.length_cons] at hi ⊢; omega)
theorem chI_last {m : Int} : ∀ {ls : List (List Int)}, chI m ls = true → ∀ (h : 0 < ls.length), lastLess m (ls[ls.length - 1]'(by omega)) (ls[ls.length - 1]'(by omega)).length = none
  | [], h, _ => by simp [chI] at h
  | [l], h, _ => by
    simp only [chI, beq_iff_eq] at h
    exact h
  | l :: r :: t, h, _ => by
    simp only [chI, Bool.and_eq_true] at h
    have := chI_last h.2 (by simp)
    simpa using this
theorem chI_pos {m : Int} {ls : List (List Int)} (h : chI m ls = true) : 0 < ls.length := by
  cases ls with
  | nil => simp [chI] at h
  | cons l r => simp
theorem upOk_of {p m : Nat} (hp1 : 1 ≤ p) (hp : p ≤ 4) (hm1 : 1 ≤ m) (hm : m ≤ 12) : (upL p m).head? = some (List.replicate p 1) ∧ chI m (upL p m) = true ∧ ∀ l ∈ upL p m, l.length = p ∧ ∀ y ∈ l, 0 ≤ y ∧ y ≤ 1000 := by
  have h := List.all_eq_true.1 (List.all_eq_true.1 up_all (p - 1) (List.mem_range.2 (by omega))) (m - 1) (List.mem_range.2 (by omega))
  rw [show p - 1 + 1 = p by omega, show m - 1 + 1 = m by omega] at h
  simp only [upOk, Bool.and_eq_true, beq_iff_eq, List.all_eq_true, decide_eq_true_eq] at h
  exact h
end Go.Proofs.Ytcoagbcleccmmaa

namespace Go.Proofs.Ytcoagbcleccmmaa
open Go.RowKit

/-- What a call hands back that makes a list of lists, with what lies in it. -/
def MadeUp (ls : List (List Int)) (w : World) (e : Ending) (w' : World) : Prop :=
  ∃ (A : Option Addr) (c : Nat) (rs : List RowV), e = .returned (.slice A rs.length c) ∧ rowNums rs = ls ∧ Heads w' w.heap.size A c rs ∧ Below w.heap.size w w'
theorem Heads.lower {w : World} {lo lo' c : Nat} {A : Option Addr} {rs : List RowV} (h : Heads w lo A c rs) (hl : lo' ≤ lo) : Heads w lo' A c rs := by
  obtain ⟨h1, ps, f1, f2, f3⟩ := h
  exact ⟨own_lower h1 hl, ps, f1, fun q hq => ⟨Nat.le_trans hl (f2 q hq).1, (f2 q hq).2⟩, f3⟩
def lenV : Value → Nat | .slice _ n _ => n | _ => 0

theorem repeat_any (p : Nat) (h1 : 1 ≤ p) (h4 : p ≤ 4) (B : Nat) (w : World) (hB : Whole w B 3 #[.int .i64 1]) :
    Calls Try.prog 83 #[.slice (some ⟨B, 0, none⟩) 1 1, .int .i64 (p : Int)] w fun e w' => e = .returned (.slice (some ⟨w.heap.size, 0, none⟩) p p) ∧ Whole w' w.heap.size 3 (nums (List.replicate p 1)).toArray ∧ Below w.heap.size w w' := by
  rcases (show p = 1 ∨ p = 2 ∨ p = 3 ∨ p = 4 by omega) with rfl | rfl | rfl | rfl
  · exact repeat_1 B w hB
  · exact repeat_2 B w hB
  · exact repeat_3 B w hB
  · exact repeat_4 B w hB

set_option maxHeartbeats 3200000 in
set_option maxRecDepth 100000 in
theorem listsUpTo_any (p m : Nat) (w : World) (hp1 : 1 ≤ p) (hp4 : p ≤ 4) (hm1 : 1 ≤ m) (hm12 : m ≤ 12) (hsz : (upL p m).length ≤ 5000) :
    Calls Try.prog 65 #[.int .i64 (p : Int), .int .i64 (m : Int)] w (MadeUp (upL p m) w) := by
  obtain ⟨i0, hi, hz0, hz1, hz2⟩ := info_parts info_row
  have HI := Lib.hid hi
  have HZ0 := Lib.hid hz0
  have HZ1 := Lib.hid hz1
  have HZ2 := Lib.hid hz2
  obtain ⟨hu1, hu2, hu3⟩ := upOk_of hp1 hp4 hm1 hm12
  obtain ⟨L, hL⟩ : ∃ L, L = upL p m := ⟨_, rfl⟩
  rw [← hL] at hu1 hu2 hu3 hsz ⊢
  have HCH := Lib.hid hu2
  have HROW := Lib.hid hu3
  have hpos := chI_pos hu2
  have HHD : Hid (L[0]'hpos = List.replicate p 1) := by
    show _ = _
    rw [List.head?_eq_getElem?, List.getElem?_eq_getElem hpos] at hu1
    exact Option.some.inj hu1
  have hw0 := Whole.fresh w 3 #[.int .i64 1]
  have hb0 := below1 w (.cells #[.int .i64 1] 3)
  have HB0 := Lib.hid hb0
  clear hi hz0 hz1 hz2 hu1 hu2 hu3 hL hb0
  go_enter Try.func65, Try.ntmps65
  go_wp2_with fail
  refine (repeat_any p hp1 hp4 w.heap.size _ hw0).mono ?_
  rintro e w1 ⟨rfl, hr1, hb1⟩
  simp only [World.size_alloc] at hr1 ⊢
  have hg1 := hr1.lt
  have HB1 := Lib.hid (below_then HB0.out hb1 HB0.out.size)
  have HR1 : Hid (Whole w1 (w.heap.size + 1) 3 (nums (L[0]'hpos)).toArray) := by show Whole _ _ _ _; rw [HHD.out]; exact hr1
  clear hw0 hr1 hb1
  go_wp2
  go_loopw [5, 7] (fun v b wr => ∃ (i : Nat) (A : Option Addr) (c : Nat) (rs : List RowV) (l : List Int), v = .slice A i c ∧ b = .bool (decide (i < L.length)) ∧ i ≤ L.length ∧ rs.length = i ∧ rowNums rs = L.take i ∧ Heads wr (w.heap.size + 2) A c rs ∧ Whole wr (w.heap.size + 1) 3 (nums l).toArray ∧ (∀ h : i < L.length, l = L[i]) ∧ Below w.heap.size w wr ∧ w.heap.size + 2 ≤ wr.heap.size) (fun v _ _ => L.length + 1 - lenV v)
  case atStart => exact ⟨0, none, 0, [], L[0]'hpos, rfl, by rw [decide_eq_true hpos], by omega, rfl, rfl, Heads.nil _ _, HR1.out, fun _ => rfl, HB1.out, by omega⟩
  case round =>
    obtain ⟨i, A, c, rs, l, rfl, rfl, hiL, hri, hrn, hh, hlw, hll, hb, hlo⟩ := hrel
    have HH := Lib.hid hh
    have HRN := Lib.hid hrn
    have HRI := Lib.hid hri
    have HB := Lib.hid hb
    by_cases hlt : i < L.length
    · have hl := hll hlt
      subst hl
      obtain ⟨hlen, hbd⟩ := HROW.out _ (List.getElem_mem hlt)
      have hd : decide (i < L.length) = true := decide_eq_true hlt
      have HLW := Lib.hid hlw
      have HLEN := Lib.hid hlen
      have HBD := Lib.hid hbd
      rw [hd]
      clear hd
      have hgl := hlw.lt
      clear hll hh hrn hri hb hlw hlen hbd
      go_wp2_with fail
      refine (cloneO_any (some ⟨w.heap.size + 1, 0, none⟩) p p L[i] _ (by have := HLW.out.holds; simpa using this) HLEN.out (by omega) (fun h => by cases h)).mono ?_
      rintro e w3 ⟨A2, q2, rfl, hown2, hb2⟩
      rw [HLEN.out] at hown2 ⊢
      have hbs2 : wr.heap.size ≤ w3.heap.size := hb2.size
      have hoh := ((HH.out.below hb2).alloc (.cells #[.slice A2 p q2] 39)).1
      rw [HRI.out] at hoh
      have HOWN := Lib.hid hoh
      have HF := Lib.hid (Fresh.of_own hown2 (Nat.le_refl _))
      have HB2 := Lib.hid hb2
      have HMAX := Lib.hid (show i + 1 ≤ maxLen by unfold maxLen; omega)
      have HBYT := Lib.hid (show (i + 1) * 24 ≤ 140737488355328 by omega)
      have HBASE := Lib.hid (show w.heap.size + 2 ≤ (w3.alloc (.cells #[.slice A2 p q2] 39)).heap.size by simp; omega)
      clear hown2 hb2 hoh
      go_wp2_with (at_builtin; refine wpList_append_lies _ rfl (.tmp 15) (.tmp 18) 49 rfl (w.heap.size + 2) 39 i0 (.slice none 0 0) 1 24 Try.underlying49 HI.out HZ0.out HZ1.out HZ2.out rfl (by decide) (.slice A i c) i (rowVals rs) rfl HOWN.out ⟨w3.heap.size, 0, none⟩ 1 1 [.slice A2 p q2] rfl rfl (cell_one_new _ _ _) (by simp [Value.oneCell']) (by decide) HMAX.out HBYT.out HBASE.out (w3.heap.size + 1) (by simp) ?_; intro g cap w4 hown4 hg4 hat hlt4)
      have hlw4 : Whole w4 (w.heap.size + 1) 3 (nums L[i]).toArray := (hg4.block (w.heap.size + 1) (by simp; omega) (fun e => by have := (HOWN.out.lt _ e.symm).1; omega)).trans ((HLW.out.below HB2.out).alloc _)
      have HB4 := Lib.hid (((below_then HB.out HB2.out HB.out.size).alloc (by have := HB.out.size; omega) (.cells #[.slice A2 p q2] 39)).grown hg4 (by have := HB.out.size; simp; omega) (fun kk e => by have := (HOWN.out.lt kk e).1; omega))
      obtain ⟨A3, q3, hv3, hf3⟩ := HF.out
      simp only [Value.slice.injEq, true_and] at hv3
      obtain ⟨rfl, rfl⟩ := hv3
      have hp2 : Heads w4 (w.heap.size + 2) (some ⟨g, 0, none⟩) cap (rs ++ [⟨A2, p, q2, L[i]⟩]) := by
        have hown5 := hown4
        have hg5 := hg4
        have hat5 := hat
        rw [← HRI.out] at hown5 hg5 hat5
        exact Heads.push (r := ⟨A2, p, q2, L[i]⟩) HH.out hlo HB2.out hf3 HLEN.out (by show p ≤ _; omega) hown5 hg5 hat5
      have HP2 := Lib.hid hp2
      have HRN2 : Hid (rowNums (rs ++ [⟨A2, p, q2, L[i]⟩]) = L.take (i + 1)) := by
        show _ = _
        rw [show rowNums (rs ++ [⟨A2, p, q2, L[i]⟩]) = rowNums rs ++ [L[i]] by simp [rowNums], HRN.out, List.take_succ_eq_append_getElem hlt]
      have HRI2 : Hid ((rs ++ [⟨A2, p, q2, L[i]⟩] : List RowV).length = i + 1) := by show _ = _; rw [List.length_append, HRI.out]; rfl
      have hz4 : w.heap.size + 2 ≤ w4.heap.size := by have := hp2.1.lt g rfl; omega
      clear hp2 hown4 hg4 hat hf3
      refine (nextList_any L[i] p (w.heap.size + 1) m w4 hlw4 HLEN.out hp1 hp4 (by omega) (by omega) HBD.out).mono ?_
      rintro e w5 hpost
      rcases hpost with ⟨k, hk, hkl, hrest, rfl, hw5, hsp⟩ | ⟨hno, rfl, hb5⟩
      · have hls := lastLess_some hkl hk hrest
        have hi1 : i + 1 < L.length := by
          rcases Nat.lt_or_ge (i + 1) L.length with h | h
          · exact h
          · have h0 := chI_last HCH.out hpos
            simp only [show L.length - 1 = i by omega] at h0
            rw [h0] at hls
            cases hls
        obtain ⟨k', hk', hnx⟩ := chI_next HCH.out i hi1
        rw [hls] at hk'
        obtain rfl := Option.some.inj hk'
        have HW5 : Hid (Whole w5 (w.heap.size + 1) 3 (nums L[i + 1]).toArray) := by show Whole _ _ _ _; rw [← hnx]; exact hw5
        have HH5 := Lib.hid (HP2.out.same hsp.size fun q h1 h2 => hsp.block q h2 (.inr (by omega)))
        have HB5 := Lib.hid (hsp.below HB4.out (by omega) (by omega))
        have hz5 : w.heap.size + 2 ≤ w5.heap.size := Nat.le_trans hz4 hsp.size
        clear hls hk' hnx hw5 hsp hlw4 hrest hkl hk
        go_wp2
        go_roundw
        case rel => exact ⟨i + 1, some ⟨g, 0, none⟩, cap, rs ++ [⟨A2, p, q2, L[i]⟩], L[i + 1], rfl, by rw [decide_eq_true hi1], by omega, HRI2.out, HRN2.out, HH5.out, HW5.out, fun _ => rfl, HB5.out, hz5⟩
        case measure => simp [lenV]; omega
      · have hls := lastLess_none hno
        have hi1 : i + 1 = L.length := by
          rcases Nat.lt_or_ge (i + 1) L.length with h | h
          · obtain ⟨k', hk', -⟩ := chI_next HCH.out i h
            rw [hls] at hk'
            cases hk'
          · omega
        have HW5 := Lib.hid (hlw4.below hb5)
        have HH5 := Lib.hid (HP2.out.below hb5)
        have HB5 := Lib.hid (below_then HB4.out hb5 (by omega))
        have hz5 : w.heap.size + 2 ≤ w5.heap.size := Nat.le_trans hz4 hb5.size
        clear hls hno hb5 hlw4
        go_wp2
        go_roundw
        case rel => exact ⟨i + 1, some ⟨g, 0, none⟩, cap, rs ++ [⟨A2, p, q2, L[i]⟩], L[i], by first | rfl | rw [hi1], by rw [decide_eq_false (by omega)], by omega, HRI2.out, HRN2.out, HH5.out, HW5.out, fun h => absurd h (by omega), HB5.out, hz5⟩
        case measure => simp [lenV]; omega
    · have hiE : i = L.length := by omega
      have hd : decide (i < L.length) = false := decide_eq_false hlt
      rw [hd]
      clear hd hll hh hrn hri hb hlw
      go_wp2
      go_ret
      subst hiE
      exact ⟨A, c, rs, by rw [HRI.out]; rfl, by rw [HRN.out, List.take_length], HH.out.lower (by omega), HB.out⟩
end Go.Proofs.Ytcoagbcleccmmaa

namespace Go.Proofs.Ytcoagbcleccmmaa
open Go.RowKit

theorem tailT_filter {f g : List Int → List (List Int)} {P : List Int → Bool} (h : ∀ b, f b = (g b).filter P) (b : List Int) : ∀ j, tailT f b j = (tailT g b j).filter P
  | 0 => rfl
  | j + 1 => by simp only [tailT, List.filter_append, h, tailT_filter h b j]
theorem goOn_filter (P : List Int → Bool) : ∀ (n : Nat) (b : List Int), goOn P n b = (goOn (fun _ => true) n b).filter P
  | 0, b => by
    simp only [goOn, if_true]
    by_cases h : P b = true
    · rw [if_pos h, List.filter_cons_of_pos h]; rfl
    · rw [if_neg h, List.filter_cons_of_neg h]; rfl
  | n + 1, b => tailT_filter (goOn_filter P n) b _
set_option maxRecDepth 100000 in
theorem up6_all : (List.range 4).all (fun p => goOn (fun _ => true) (p + 1) [] == upL (p + 1) 6 && ((upL (p + 1) 6).all hidI && decide ((upL (p + 1) 6).length ≤ 126))) = true := by decide +kernel
theorem up6_of {p : Nat} (h1 : 1 ≤ p) (h4 : p ≤ 4) : goOn (fun _ => true) p [] = upL p 6 ∧ (∀ l ∈ upL p 6, hidI l = true) ∧ (upL p 6).length ≤ 126 := by
  have h := List.all_eq_true.1 up6_all (p - 1) (List.mem_range.2 (by omega))
  rw [show p - 1 + 1 = p by omega] at h
  simp only [Bool.and_eq_true, beq_iff_eq, List.all_eq_true, decide_eq_true_eq] at h
  exact h
theorem solI_filter {p : Nat} (h1 : 1 ≤ p) (h4 : p ≤ 4) (cs : List Cl) : solI p cs = (upL p 6).filter (allFit cs) := by
  unfold solI
  rw [Int.toNat_natCast, goOn_filter, (up6_of h1 h4).1]

/-- What Solutions hands back. -/
def SolPost (ls : List (List Int)) (ok : Bool) (w : World) (e : Ending) (w' : World) : Prop :=
  ∃ (A : Option Addr) (c : Nat) (rs : List RowV), e = .returned (.tuple #[.slice A rs.length c, .bool ok]) ∧ rowNums rs = ls ∧ Heads w' w.heap.size A c rs ∧ Below w.heap.size w w'

set_option maxHeartbeats 800000 in
theorem specSolutions_any (p : Int) (A : Option Addr) (n c : Nat) (cs : List Cl) (w : World) (hA : Holds w A (clsC cs)) (hx : cs.length = n) (hn : n ≤ 1048576) :
    Calls Try.prog 31 #[.agg #[.int .i64 p, .slice A n c]] w (SolPost (solsI p cs) (pzOk p cs) w) := by
  have hbl := below1 w (.cells #[.int .i64 p, .slice A n c] 35)
  have hw0 := Whole.fresh w 35 #[.int .i64 p, .slice A n c]
  have HBL := Lib.hid hbl
  have HA := Lib.hid (hA.below hbl)
  have H0 := Lib.hid hw0
  have HX := Lib.hid hx
  cases hok : pzOk p cs
  · have HOK := Lib.hid hok
    have HS := Lib.hid (solsI_no hok)
    clear hbl hA hx hok hw0
    go_enter Try.func31, Try.ntmps31
    go_wp2_with fail
    refine (pzGood_any p A n c cs _ HA.out HX.out (by omega)).mono ?_
    rintro e w2 ⟨rfl, hb⟩
    rw [HOK.out]
    have HF := Lib.hid (below_then HBL.out hb HBL.out.size)
    clear hb
    go_wp2
    go_ret2
    exact ⟨none, 0, [], rfl, by rw [HS.out]; rfl, Heads.nil _ _, HF.out⟩
  · have HOK := Lib.hid hok
    have HS := Lib.hid (solsI_yes hok)
    obtain ⟨hp1, hp4, hl6, hall⟩ := pzOk_parts hok
    have HALL := Lib.hid hall
    clear hbl hA hx hok hw0 hall
    go_enter Try.func31, Try.ntmps31
    go_wp2_with fail
    refine (pzGood_any p A n c cs _ HA.out HX.out (by omega)).mono ?_
    rintro e w2 ⟨rfl, hb⟩
    rw [HOK.out]
    have HF := Lib.hid (below_then HBL.out hb HBL.out.size)
    have HA2 := Lib.hid (HA.out.below hb)
    obtain ⟨c0, c1⟩ := (H0.out.below hb).cells2
    clear hb
    go_wp2_with fail
    refine (pzAll_any p A n c cs _ HA2.out HX.out (by have := HX.out; omega) HALL.out hp1 hp4).mono ?_
    rintro e w3 ⟨A3, c3, rs, rfl, hr, hh, hb⟩
    have HR := Lib.hid hr
    have HH := Lib.hid (hh.lower HF.out.size)
    have HB := Lib.hid (below_then HF.out hb HF.out.size)
    clear hr hh hb
    go_wp2
    go_ret2
    exact ⟨A3, c3, rs, rfl, by rw [HR.out, HS.out], HH.out, HB.out⟩

/-- The rows of a list that hold what fits. -/
def fitR (cs : List Cl) (r : RowV) : Bool := allFit cs r.xs
theorem nums_filter (cs : List Cl) (rs : List RowV) : rowNums (rs.filter (fitR cs)) = (rowNums rs).filter (allFit cs) := by
  simp only [rowNums, List.filter_map]; rfl
theorem filter_next {cs : List Cl} {rs : List RowV} {i : Nat} (h : i < rs.length) (hf : fitR cs rs[i] = true) : (rs.take (i + 1)).filter (fitR cs) = (rs.take i).filter (fitR cs) ++ [rs[i]] := by
  rw [List.take_succ_eq_append_getElem h, List.filter_append, List.filter_cons_of_pos hf]; rfl
theorem filter_pass {cs : List Cl} {rs : List RowV} {i : Nat} (h : i < rs.length) (hf : fitR cs rs[i] = false) : (rs.take (i + 1)).filter (fitR cs) = (rs.take i).filter (fitR cs) := by
  rw [List.take_succ_eq_append_getElem h, List.filter_append, List.filter_cons_of_neg (by simp [hf])]; simp

set_option maxHeartbeats 3200000 in
set_option maxRecDepth 100000 in
theorem implSolutions_any (p : Int) (A : Option Addr) (n c : Nat) (cs : List Cl) (w : World) (hA : Holds w A (clsC cs)) (hx : cs.length = n) (hn : n ≤ 1048576) :
    Calls Try.prog 32 #[.agg #[.int .i64 p, .slice A n c]] w (SolPost (solsI p cs) (pzOk p cs) w) := by
  obtain ⟨i0, hi, hz0, hz1, hz2⟩ := info_parts info_row
  have HI := Lib.hid hi
  have HZ0 := Lib.hid hz0
  have HZ1 := Lib.hid hz1
  have HZ2 := Lib.hid hz2
  have hbl := below1 w (.cells #[.int .i64 p, .slice A n c] 35)
  have hw0 := Whole.fresh w 35 #[.int .i64 p, .slice A n c]
  have HBL := Lib.hid hbl
  have HA := Lib.hid (hA.below hbl)
  have H0 := Lib.hid hw0
  have HX := Lib.hid hx
  clear hi hz0 hz1 hz2
  obtain ⟨c0, c1⟩ := hw0.cells2
  have hlt0 := hw0.lt
  cases hok : pzOk p cs
  · have HOK := Lib.hid hok
    have HS := Lib.hid (solsI_no hok)
    clear hbl hA hx hok hw0
    go_enter Try.func32, Try.ntmps32
    go_wp2_with fail
    refine (isPuzzle_any p A n c cs _ HA.out HX.out hn).mono ?_
    rintro e w2 ⟨rfl, hb⟩
    rw [HOK.out]
    have HF := Lib.hid (below_then HBL.out hb HBL.out.size)
    clear hb
    go_wp2
    go_ret2
    exact ⟨none, 0, [], rfl, by rw [HS.out]; rfl, Heads.nil _ _, HF.out⟩
  · have HOK := Lib.hid hok
    obtain ⟨hp1, hp4, hl6, hall⟩ := pzOk_parts hok
    obtain ⟨P, rfl⟩ := Int.eq_ofNat_of_zero_le (show 0 ≤ p by omega)
    have hP1 : 1 ≤ P := by omega
    have hP4 : P ≤ 4 := by omega
    have HS : Hid (solsI (P : Int) cs = (upL P 6).filter (allFit cs)) := by show _ = _; rw [solsI_yes hok, solI_filter hP1 hP4]
    obtain ⟨-, hu1, hu2⟩ := up6_of hP1 hP4
    have hu3 := (upOk_of hP1 hP4 (show 1 ≤ 6 by omega) (by omega)).2.2
    obtain ⟨L, hL⟩ : ∃ L, L = upL P 6 := ⟨_, rfl⟩
    have HUP := Lib.hid (listsUpTo_any P 6)
    rw [← hL] at HS HUP hu1 hu2 hu3
    have HU1 := Lib.hid hu1
    have HU3 := Lib.hid hu3
    have HALL := Lib.hid hall
    have hmf : ∀ (fn : Fn) (first cap : Array Value) (w : World), (Instr.makeFunc fn first cap).run Try.prog w = .ok (.func fn first cap) w := fun _ _ _ _ => rfl
    clear hbl hA hx hok hw0 hall hu1 hu3 hL
    go_enter Try.func32, Try.ntmps32
    go_wp2_with fail
    refine (isPuzzle_any P A n c cs _ HA.out HX.out hn).mono ?_
    rintro e w2 ⟨rfl, hb⟩
    rw [HOK.out]
    have HF := Lib.hid (below_then HBL.out hb HBL.out.size)
    have HA2 := Lib.hid (HA.out.below hb)
    have hq2 := H0.out.below hb
    have HQ2 := Lib.hid hq2
    clear c0 c1 hlt0
    obtain ⟨c0, c1⟩ := hq2.cells2
    have hlt0 := hq2.lt
    clear hb hq2
    go_wp2_with fail
    refine (HUP.out w2 hP1 hP4 (by omega) (by omega) (by omega)).mono ?_
    rintro e w3 ⟨A3, c3, rs, rfl, hr, hh, hb⟩
    have hq3 := HQ2.out.below hb
    have HQ3 := Lib.hid hq3
    have HA3 := Lib.hid (HA2.out.below hb)
    have HB3 := Lib.hid (below_then HF.out hb HF.out.size)
    have HR := Lib.hid hr
    have HH := Lib.hid hh
    have HW23 := Lib.hid hb.size
    have hrl : rs.length ≤ 126 := by have h := congrArg List.length hr; rw [rowNums_len] at h; omega
    clear hr hh hb hq3 c0 c1 hlt0
    go_wp2
    go_loopw [4, 14] (fun v i wr => ∃ (k : Nat) (D : Option Addr) (d : Nat), k ≤ rs.length ∧ i = .int .i64 k ∧ v = .slice D ((rs.take k).filter (fitR cs)).length d ∧ wr.ownsRow w3.heap.size 39 1 (.slice D ((rs.take k).filter (fitR cs)).length d) ((rs.take k).filter (fitR cs)).length (rowVals ((rs.take k).filter (fitR cs))) ∧ Below w3.heap.size w3 wr) (fun _ i _ => rs.length - (intOf i).toNat)
    case atStart => exact ⟨0, none, 0, Nat.zero_le _, rfl, rfl, World.ownsRow_nil _ _ _ _, Below.refl _ _⟩
    case round =>
      obtain ⟨k, D, d, hk, rfl, rfl, hown, hb⟩ := hrel
      have HOWN := Lib.hid hown
      have HB := Lib.hid hb
      clear hown
      by_cases hlt : k < rs.length
      · have hG := HH.out.free.grid
        have hkl : k < (rowNums rs).length := by rw [rowNums_len]; exact hlt
        have hmem : rs[k].xs ∈ L := by rw [← HR.out, ← rowNums_get hlt]; exact List.getElem_mem hkl
        have hhid := HU1.out _ hmem
        obtain ⟨hrlen, -⟩ := HU3.out _ hmem
        obtain ⟨b1, o1, rfl, hbl1, hc, hok⟩ := (hG.below hb).look hlt
        obtain ⟨R, hR⟩ : ∃ R, R = rs[k] := ⟨_, rfl⟩
        rw [← hR] at hc hok hhid hrlen
        have HFN := Lib.hid (fun h => filter_next (cs := cs) hlt h)
        have HFP := Lib.hid (fun h => filter_pass (cs := cs) hlt h)
        rw [← hR] at HFN HFP
        obtain ⟨rA, rn, rc, rxs⟩ := R
        replace hc : World.cell? wr ⟨b1, o1 + k, none⟩ = some (.slice rA rn rc) := hc
        replace hhid : hidI rxs = true := hhid
        obtain ⟨hrow, hrn, -⟩ := hok
        replace hrow : Holds wr rA (nums rxs) := hrow
        replace hrn : rxs.length = rn := hrn
        replace hrlen : rxs.length = P := hrlen
        have hrP : (P : Int) = rn := by omega
        have hq4 := HQ3.out.below (hb.mono (Nat.le_refl _))
        obtain ⟨c0, c1⟩ := hq4.cells2
        have hlt0 := hq4.lt
        have HQ4 := Lib.hid hq4
        have hW4 := Whole.fresh wr 39 #[.slice rA rn rc]
        have hb4 := below1 wr (.cells #[.slice rA rn rc] 39)
        have HCON := Lib.hid (containsC_any P A n c cs rA rn rc rxs wr.heap.size _ ((HA3.out.below hb).below hb4) HX.out hn hW4 (hrow.below hb4) hrn hhid HALL.out hrP)
        have HW4 := Lib.hid hW4
        have HB4 := Lib.hid (below_then hb hb4 hb.size)
        have HOW4 := Lib.hid (own_below HOWN.out hb4)
        have hkI : (k : Int) < rs.length := by omega
        have hflt : ((rs.take k).filter (fitR cs)).length ≤ 126 := Nat.le_trans (List.length_filter_le _ _) (by simp; omega)
        have hwz : w3.heap.size ≤ wr.heap.size := hb.size
        obtain ⟨F, hF⟩ : ∃ F, F = (rs.take k).filter (fitR cs) := ⟨_, rfl⟩
        rw [← hF] at HFN HFP HOW4 hflt
        rw [← hF]
        have HFE := Lib.hid hF
        clear hG hkl hmem hrow hq4 hW4 hb4 hb hF hR HOWN hrP hrn hrlen hhid
        go_wp2_with fail
        refine HCON.out.mono ?_
        rintro e w5 ⟨rfl, hb5⟩
        have hw5 := HW4.out.below hb5
        have d0 := hw5.cells1
        have hlt5 := hw5.lt
        have HB5 := Lib.hid (below_then HB4.out hb5 HB4.out.size)
        have HOW5 := Lib.hid ((own_below HOW4.out hb5).alloc (.cells #[.slice rA rn rc] 39))
        have hz5 : w3.heap.size ≤ w5.heap.size := HB5.out.size
        cases hfit : allFit cs rxs
        · have HF2 := Lib.hid (HFP.out hfit)
          have HO5 := Lib.hid (own_below HOW4.out hb5)
          clear hb5 hw5 hfit
          go_wp2
          go_roundw
          case rel => exact ⟨k + 1, D, d, by omega, by go_num, by rw [HF2.out], by rw [HF2.out]; exact HO5.out, HB5.out⟩
          case measure => simp [intOf]; omega
        · have HF2 := Lib.hid (HFN.out hfit)
          have HMAX := Lib.hid (show F.length + 1 ≤ maxLen by unfold maxLen; omega)
          have HBYT := Lib.hid (show (F.length + 1) * 24 ≤ 140737488355328 by omega)
          have HBASE := Lib.hid (show w3.heap.size ≤ (w5.alloc (.cells #[.slice rA rn rc] 39)).heap.size by simp; omega)
          clear hb5 hw5 hfit
          go_wp2_with (at_builtin; refine wpList_append_lies _ rfl (.tmp 23) (.tmp 25) 49 rfl w3.heap.size 39 i0 (.slice none 0 0) 1 24 Try.underlying49 HI.out HZ0.out HZ1.out HZ2.out rfl (by decide) (.slice D F.length d) F.length (rowVals F) rfl HOW5.out ⟨w5.heap.size, 0, none⟩ 1 1 [.slice rA rn rc] rfl rfl (cell_one_new _ _ _) (by simp [Value.oneCell']) (by decide) HMAX.out HBYT.out HBASE.out (w5.heap.size + 1) (by simp) ?_; intro g cap w6 hown6 hg6 hat hlt6)
          have HB6 := Lib.hid ((HB5.out.alloc hz5 (.cells #[.slice rA rn rc] 39)).grown hg6 HBASE.out (fun kk e => (HOW5.out.lt kk e).1))
          have HO6 : Hid (w6.ownsRow w3.heap.size 39 1 (.slice (some ⟨g, 0, none⟩) (F.length + 1) cap) (F.length + 1) (rowVals (F ++ [⟨rA, rn, rc, rxs⟩]))) := by
            show World.ownsRow _ _ _ _ _ _ _
            rw [show rowVals (F ++ [⟨rA, rn, rc, rxs⟩]) = rowVals F ++ [.slice rA rn rc] by simp [rowVals, RowV.val]]
            exact hown6
          clear hown6 hg6 hat hlt6
          go_roundw
          case rel => exact ⟨k + 1, some ⟨g, 0, none⟩, cap, by omega, by go_num, by rw [HF2.out, List.length_append]; rfl, by rw [HF2.out, List.length_append]; exact HO6.out, HB6.out⟩
          case measure => simp [intOf]; omega
      · obtain rfl : k = rs.length := by omega
        rw [List.take_length]
        have ho := HOWN.out
        rw [List.take_length] at ho
        have HHD := Lib.hid ((Heads.part_of (fitR cs) HH.out HB.out ho HW23.out).lower (lo' := w.heap.size) HF.out.size)
        have HBB := Lib.hid (below_then HB3.out HB.out HB3.out.size)
        clear hb ho
        go_wp2
        go_ret2
        exact ⟨D, d, _, rfl, by rw [nums_filter, HR.out, HS.out], HHD.out, HBB.out⟩
end Go.Proofs.Ytcoagbcleccmmaa

namespace Go.Proofs.Ytcoagbcleccmmaa
open Go.RowKit

theorem solsI_len (p : Int) (cs : List Cl) : (solsI p cs).length ≤ 1296 := by
  cases h : pzOk p cs
  · rw [solsI_no h]; simp
  · obtain ⟨h1, h4, -⟩ := pzOk_parts h
    rw [solsI_yes h]
    exact solI_len cs h1 h4
theorem heads_len {w : World} {lo c : Nat} {A : Option Addr} {rs : List RowV} (h : Heads w lo A c rs) {ls : List (List Int)} (hr : rowNums rs = ls) : rs.length = ls.length := by rw [← hr, rowNums_len]
/-- The first row of a list of the call's own. -/
theorem heads_first {w : World} {lo c : Nat} {A : Option Addr} {rs : List RowV} (h : Heads w lo A c rs) (h0 : 0 < rs.length) : Fresh w lo w.heap.size 3 (rs[0]).A (nums (rs[0]).xs) ∧ (rs[0]).xs.length = (rs[0]).n := by
  obtain ⟨-, ps, ⟨k1, k2, k3⟩, h3, -⟩ := h
  have hp : ps[0]? = some (ps[0]'(by omega)) := List.getElem?_eq_getElem (by omega)
  obtain ⟨f1, f2, -⟩ := k2 0 rs[0] _ (List.getElem?_eq_getElem h0) hp
  have hm := h3 _ (List.mem_of_getElem? hp)
  exact ⟨f1.more hm.1 hm.2, f2⟩
theorem first_of {rs : List RowV} {ls : List (List Int)} (hr : rowNums rs = ls) (h0 : 0 < rs.length) : (rs[0]).xs = ls.headD [] := by
  subst hr
  cases rs with
  | nil => simp at h0
  | cons r t => rfl

set_option maxHeartbeats 1600000 in
theorem specCountSolutions_any (p : Int) (A : Option Addr) (n c : Nat) (cs : List Cl) (w : World) (hA : Holds w A (clsC cs)) (hx : cs.length = n) (hn : n ≤ 1048576) :
    Calls Try.prog 37 #[.agg #[.int .i64 p, .slice A n c]] w fun e w' => e = .returned (.tuple #[.int .i64 ((solsI p cs).length : Int), .bool (pzOk p cs)]) ∧ Below w.heap.size w w' := by
  have hbl := below1 w (.cells #[.int .i64 p, .slice A n c] 35)
  have hw0 := Whole.fresh w 35 #[.int .i64 p, .slice A n c]
  have HBL := Lib.hid hbl
  have HA := Lib.hid (hA.below hbl)
  have H0 := Lib.hid hw0
  have HX := Lib.hid hx
  cases hok : pzOk p cs
  · have HOK := Lib.hid hok
    have HS := Lib.hid (solsI_no hok)
    clear hbl hA hx hok hw0
    go_enter Try.func37, Try.ntmps37
    go_wp2_with fail
    refine (pzGood_any p A n c cs _ HA.out HX.out (by omega)).mono ?_
    rintro e w2 ⟨rfl, hb⟩
    rw [HOK.out]
    have HF := Lib.hid (below_then HBL.out hb HBL.out.size)
    clear hb
    go_wp2
    go_ret2
    rw [HS.out]
    exact ⟨rfl, HF.out⟩
  · have HOK := Lib.hid hok
    have HS := Lib.hid (solsI_yes hok)
    obtain ⟨hp1, hp4, hl6, hall⟩ := pzOk_parts hok
    have HALL := Lib.hid hall
    have HLE := Lib.hid (solI_len cs hp1 hp4)
    clear hbl hA hx hok hw0 hall
    go_enter Try.func37, Try.ntmps37
    go_wp2_with fail
    refine (pzGood_any p A n c cs _ HA.out HX.out (by omega)).mono ?_
    rintro e w2 ⟨rfl, hb⟩
    rw [HOK.out]
    have HF := Lib.hid (below_then HBL.out hb HBL.out.size)
    have HA2 := Lib.hid (HA.out.below hb)
    obtain ⟨c0, c1⟩ := (H0.out.below hb).cells2
    clear hb
    go_wp2_with fail
    refine (pzAll_any p A n c cs _ HA2.out HX.out (by have := HX.out; omega) HALL.out hp1 hp4).mono ?_
    rintro e w3 ⟨A3, c3, rs, rfl, hr, hh, hb⟩
    have HR := Lib.hid hr
    have hrl : rs.length ≤ 1296 := by rw [heads_len hh hr]; exact HLE.out
    have HRL := Lib.hid (heads_len hh hr)
    have HH := Lib.hid (hh.lower (lo' := w.heap.size) HF.out.size)
    have HB := Lib.hid (below_then HF.out hb HF.out.size)
    clear hr hh hb
    go_wp2
    go_ret2
    rw [HS.out, ← HRL.out]
    exact ⟨rfl, HB.out⟩

set_option maxHeartbeats 800000 in
theorem pzSolved_any (p : Int) (CA : Option Addr) (cn cc : Nat) (cs : List Cl) (w : World) (hCA : Holds w CA (clsC cs)) (hcn : cs.length = cn) (hc6 : cn ≤ 6) (hok : cs.all (clOk p) = true) (hp1 : 1 ≤ p) (hp4 : p ≤ 4) :
    Calls Try.prog 69 #[.int .i64 p, .slice CA cn cc] w fun e w' => e = .returned (.bool (decide ((solI p cs).length = 1))) ∧ Below w.heap.size w w' := by
  have HALL := Lib.hid (pzAll_any p CA cn cc cs w hCA hcn hc6 hok hp1 hp4)
  have HLE := Lib.hid (solI_len cs hp1 hp4)
  clear hCA hok
  go_enter Try.func69, Try.ntmps69
  go_wp2_with fail
  refine HALL.out.mono ?_
  rintro e w3 ⟨A3, c3, rs, rfl, hr, hh, hb⟩
  have HRL := Lib.hid (heads_len hh hr)
  have hrl : rs.length ≤ 1296 := by rw [heads_len hh hr]; exact HLE.out
  by_cases h1 : rs.length = 1
  · have hb1 : ((rs.length : Int) == 1) = true := by simp [h1]
    have H1 : Hid (decide ((solI p cs).length = 1) = true) := by show _ = _; rw [← HRL.out]; exact decide_eq_true h1
    clear hr hh h1
    go_wp2
    go_ret
    exact ⟨ret_of (by rw [H1.out]; first | rfl | simp_all), hb⟩
  · have hb1 : ((rs.length : Int) == 1) = false := by simp; omega
    have H1 : Hid (decide ((solI p cs).length = 1) = false) := by show _ = _; rw [← HRL.out]; exact decide_eq_false h1
    clear hr hh h1
    go_wp2
    go_ret
    exact ⟨ret_of (by rw [H1.out]; first | rfl | simp_all), hb⟩

set_option maxHeartbeats 1600000 in
theorem specIsSolved_any (p : Int) (A : Option Addr) (n c : Nat) (cs : List Cl) (w : World) (hA : Holds w A (clsC cs)) (hx : cs.length = n) (hn : n ≤ 1048576) :
    Calls Try.prog 43 #[.agg #[.int .i64 p, .slice A n c]] w fun e w' => e = .returned (.tuple #[.bool (decide ((solsI p cs).length = 1)), .bool (pzOk p cs)]) ∧ Below w.heap.size w w' := by
  have hbl := below1 w (.cells #[.int .i64 p, .slice A n c] 35)
  have hw0 := Whole.fresh w 35 #[.int .i64 p, .slice A n c]
  have HBL := Lib.hid hbl
  have HA := Lib.hid (hA.below hbl)
  have H0 := Lib.hid hw0
  have HX := Lib.hid hx
  cases hok : pzOk p cs
  · have HOK := Lib.hid hok
    have HS := Lib.hid (solsI_no hok)
    clear hbl hA hx hok hw0
    go_enter Try.func43, Try.ntmps43
    go_wp2_with fail
    refine (pzGood_any p A n c cs _ HA.out HX.out (by omega)).mono ?_
    rintro e w2 ⟨rfl, hb⟩
    rw [HOK.out]
    have HF := Lib.hid (below_then HBL.out hb HBL.out.size)
    clear hb
    go_wp2
    go_ret2
    rw [HS.out]
    exact ⟨rfl, HF.out⟩
  · have HOK := Lib.hid hok
    have HS := Lib.hid (solsI_yes hok)
    obtain ⟨hp1, hp4, hl6, hall⟩ := pzOk_parts hok
    have HALL := Lib.hid hall
    have HLE := Lib.hid (solI_len cs hp1 hp4)
    clear hbl hA hx hok hw0 hall
    go_enter Try.func43, Try.ntmps43
    go_wp2_with fail
    refine (pzGood_any p A n c cs _ HA.out HX.out (by omega)).mono ?_
    rintro e w2 ⟨rfl, hb⟩
    rw [HOK.out]
    have HF := Lib.hid (below_then HBL.out hb HBL.out.size)
    have HA2 := Lib.hid (HA.out.below hb)
    obtain ⟨c0, c1⟩ := (H0.out.below hb).cells2
    clear hb
    go_wp2_with fail
    refine (pzSolved_any p A n c cs _ HA2.out HX.out (by have := HX.out; omega) HALL.out hp1 hp4).mono ?_
    rintro e w3 ⟨rfl, hb⟩
    have HB := Lib.hid (below_then HF.out hb HF.out.size)
    clear hb
    go_wp2
    go_ret2
    rw [HS.out]
    exact ⟨rfl, HB.out⟩

/-- What FirstSolution hands back. -/
def FirstPost (ls : List (List Int)) (w : World) (e : Ending) (w' : World) : Prop :=
  ∃ (B : Option Addr) (q : Nat), e = .returned (.tuple #[.slice B (ls.headD []).length q, .bool (decide (0 < ls.length))]) ∧ Fresh w' w.heap.size w'.heap.size 3 B (nums (ls.headD [])) ∧ Below w.heap.size w w'

set_option maxHeartbeats 1600000 in
theorem specFirstSolution_any (p : Int) (A : Option Addr) (n c : Nat) (cs : List Cl) (w : World) (hA : Holds w A (clsC cs)) (hx : cs.length = n) (hn : n ≤ 1048576) :
    Calls Try.prog 39 #[.agg #[.int .i64 p, .slice A n c]] w (FirstPost (solsI p cs) w) := by
  have hbl := below1 w (.cells #[.int .i64 p, .slice A n c] 35)
  have hw0 := Whole.fresh w 35 #[.int .i64 p, .slice A n c]
  have HBL := Lib.hid hbl
  have HA := Lib.hid (hA.below hbl)
  have H0 := Lib.hid hw0
  have HX := Lib.hid hx
  cases hok : pzOk p cs
  · have HOK := Lib.hid hok
    have HS := Lib.hid (solsI_no hok)
    clear hbl hA hx hok hw0
    go_enter Try.func39, Try.ntmps39
    go_wp2_with fail
    refine (pzGood_any p A n c cs _ HA.out HX.out (by omega)).mono ?_
    rintro e w2 ⟨rfl, hb⟩
    rw [HOK.out]
    have HF := Lib.hid (below_then HBL.out hb HBL.out.size)
    clear hb
    go_wp2
    go_ret2
    exact ⟨none, 0, by rw [HS.out]; rfl, by rw [HS.out]; exact .inl rfl, HF.out⟩
  · have HOK := Lib.hid hok
    have HS := Lib.hid (solsI_yes hok)
    obtain ⟨hp1, hp4, hl6, hall⟩ := pzOk_parts hok
    have HALL := Lib.hid hall
    have HLE := Lib.hid (solI_len cs hp1 hp4)
    clear hbl hA hx hok hw0 hall
    go_enter Try.func39, Try.ntmps39
    go_wp2_with fail
    refine (pzGood_any p A n c cs _ HA.out HX.out (by omega)).mono ?_
    rintro e w2 ⟨rfl, hb⟩
    rw [HOK.out]
    have HF := Lib.hid (below_then HBL.out hb HBL.out.size)
    have HA2 := Lib.hid (HA.out.below hb)
    obtain ⟨c0, c1⟩ := (H0.out.below hb).cells2
    clear hb
    go_wp2_with fail
    refine (pzAll_any p A n c cs _ HA2.out HX.out (by have := HX.out; omega) HALL.out hp1 hp4).mono ?_
    rintro e w3 ⟨A3, c3, rs, rfl, hr, hh, hb⟩
    have HR := Lib.hid hr
    have hrl : rs.length ≤ 1296 := by rw [heads_len hh hr]; exact HLE.out
    have HRL := Lib.hid (heads_len hh hr)
    have HH := Lib.hid (hh.lower (lo' := w.heap.size) HF.out.size)
    have HB := Lib.hid (below_then HF.out hb HF.out.size)
    clear hr hh hb
    by_cases h0 : rs.length = 0
    · have hb0 : ((rs.length : Int) == 0) = true := by simp [h0]
      have HN : Hid (solsI p cs = []) := by show _ = _; rw [HS.out, ← HR.out]; exact List.eq_nil_of_length_eq_zero (by rw [rowNums_len]; exact h0)
      clear h0
      go_wp2
      go_ret2
      exact ⟨none, 0, by rw [HN.out]; rfl, by rw [HN.out]; exact .inl rfl, HB.out⟩
    · have hb0 : ((rs.length : Int) == 0) = false := by simp [h0]
      have hpos : 0 < rs.length := by omega
      have hposI : (0 : Int) < rs.length := by omega
      have hgrid := HH.out.free.grid
      obtain ⟨b1, o1, rfl, hbl1, hc, -⟩ := hgrid.look hpos
      obtain ⟨hf, hn1⟩ := heads_first HH.out hpos
      have hfx := first_of HR.out hpos
      rw [← HS.out] at hfx
      obtain ⟨R, hR⟩ : ∃ R, R = rs[0] := ⟨_, rfl⟩
      rw [← hR] at hc hf hn1 hfx
      obtain ⟨rA, rn, rc, rxs⟩ := R
      replace hc : World.cell? w3 ⟨b1, o1, none⟩ = some (.slice rA rn rc) := hc
      replace hn1 : rxs.length = rn := hn1
      replace hfx : rxs = (solsI p cs).headD [] := hfx
      have HPOS : Hid (decide (0 < (solsI p cs).length) = true) := by show _ = _; rw [HS.out, ← HRL.out]; exact decide_eq_true hpos
      have HFF : Hid (Fresh w3 w.heap.size w3.heap.size 3 rA (nums ((solsI p cs).headD []))) := by show Fresh _ _ _ _ _ _; rw [← hfx]; exact hf
      have HN1 : Hid (rn = ((solsI p cs).headD []).length) := by show _ = _; rw [← hfx]; exact hn1.symm
      clear hgrid hf hn1 hfx hR h0
      go_wp2
      go_ret2
      exact ⟨rA, rc, by rw [HPOS.out, ← HN1.out]; rfl, HFF.out, HB.out⟩

set_option maxHeartbeats 1600000 in
theorem implCountSolutions_any (p : Int) (A : Option Addr) (n c : Nat) (cs : List Cl) (w : World) (hA : Holds w A (clsC cs)) (hx : cs.length = n) (hn : n ≤ 1048576) :
    Calls Try.prog 38 #[.agg #[.int .i64 p, .slice A n c]] w fun e w' => e = .returned (.tuple #[.int .i64 ((solsI p cs).length : Int), .bool (pzOk p cs)]) ∧ Below w.heap.size w w' := by
  have hbl := below1 w (.cells #[.int .i64 p, .slice A n c] 35)
  have HBL := Lib.hid hbl
  have HC := Lib.hid (implSolutions_any p A n c cs _ (hA.below hbl) hx hn)
  have HLE := Lib.hid (solsI_len p cs)
  clear hbl hA hx
  go_enter Try.func38, Try.ntmps38
  go_wp2_with fail
  refine HC.out.mono ?_
  rintro e w3 ⟨A3, c3, rs, rfl, hr, hh, hb⟩
  have HR := Lib.hid hr
  have hrl : rs.length ≤ 1296 := by rw [heads_len hh hr]; exact HLE.out
  have HRL := Lib.hid (heads_len hh hr)
  have HH := Lib.hid (hh.lower (lo' := w.heap.size) HBL.out.size)
  have HB := Lib.hid (below_then HBL.out hb HBL.out.size)
  clear hr hh hb
  go_wp2
  go_ret2
  rw [← HRL.out]
  exact ⟨rfl, HB.out⟩

set_option maxHeartbeats 1600000 in
theorem implIsSolved_any (p : Int) (A : Option Addr) (n c : Nat) (cs : List Cl) (w : World) (hA : Holds w A (clsC cs)) (hx : cs.length = n) (hn : n ≤ 1048576) :
    Calls Try.prog 44 #[.agg #[.int .i64 p, .slice A n c]] w fun e w' => e = .returned (.tuple #[.bool (decide ((solsI p cs).length = 1)), .bool (pzOk p cs)]) ∧ Below w.heap.size w w' := by
  have hbl := below1 w (.cells #[.int .i64 p, .slice A n c] 35)
  have HBL := Lib.hid hbl
  have HC := Lib.hid (implCountSolutions_any p A n c cs _ (hA.below hbl) hx hn)
  have HLE := Lib.hid (solsI_len p cs)
  clear hbl hA hx
  go_enter Try.func44, Try.ntmps44
  go_wp2_with fail
  refine HC.out.mono ?_
  rintro e w3 ⟨rfl, hb⟩
  have HB := Lib.hid (below_then HBL.out hb HBL.out.size)
  obtain ⟨z, hz⟩ : ∃ z, z = (solsI p cs).length := ⟨_, rfl⟩
  rw [← hz]
  have HZ := Lib.hid hz
  clear hb hz
  by_cases h1 : z = 1
  · have hb1 : ((z : Int) == 1) = true := by simp [h1]
    have H1 : Hid (decide (z = 1) = true) := decide_eq_true h1
    clear h1
    go_wp2
    go_ret2
    rw [← HZ.out]
    exact ⟨by rw [H1.out]; first | rfl | simp_all, HB.out⟩
  · have hb1 : ((z : Int) == 1) = false := by simp; omega
    have H1 : Hid (decide (z = 1) = false) := decide_eq_false h1
    clear h1
    go_wp2
    go_ret2
    rw [← HZ.out]
    exact ⟨by rw [H1.out]; first | rfl | simp_all, HB.out⟩

set_option maxHeartbeats 1600000 in
theorem implFirstSolution_any (p : Int) (A : Option Addr) (n c : Nat) (cs : List Cl) (w : World) (hA : Holds w A (clsC cs)) (hx : cs.length = n) (hn : n ≤ 1048576) :
    Calls Try.prog 40 #[.agg #[.int .i64 p, .slice A n c]] w (FirstPost (solsI p cs) w) := by
  have hbl := below1 w (.cells #[.int .i64 p, .slice A n c] 35)
  have HBL := Lib.hid hbl
  have HC := Lib.hid (implSolutions_any p A n c cs _ (hA.below hbl) hx hn)
  have HLE := Lib.hid (solsI_len p cs)
  clear hbl hA hx
  go_enter Try.func40, Try.ntmps40
  go_wp2_with fail
  refine HC.out.mono ?_
  rintro e w3 ⟨A3, c3, rs, rfl, hr, hh, hb⟩
  have HR := Lib.hid hr
  have hrl : rs.length ≤ 1296 := by rw [heads_len hh hr]; exact HLE.out
  have HRL := Lib.hid (heads_len hh hr)
  have HH := Lib.hid (hh.lower (lo' := w.heap.size) HBL.out.size)
  have HB := Lib.hid (below_then HBL.out hb HBL.out.size)
  clear hr hh hb
  by_cases h0 : rs.length = 0
  · have hb0 : ((rs.length : Int) == 0) = true := by simp [h0]
    have HN : Hid (solsI p cs = []) := by show _ = _; rw [← HR.out]; exact List.eq_nil_of_length_eq_zero (by rw [rowNums_len]; exact h0)
    clear h0
    go_wp2
    go_ret2
    exact ⟨none, 0, by rw [HN.out]; rfl, by rw [HN.out]; exact .inl rfl, HB.out⟩
  · have hb0 : ((rs.length : Int) == 0) = false := by simp [h0]
    have hpos : 0 < rs.length := by omega
    have hposI : (0 : Int) < rs.length := by omega
    have hgrid := HH.out.free.grid
    obtain ⟨b1, o1, rfl, hbl1, hc, -⟩ := hgrid.look hpos
    obtain ⟨hf, hn1⟩ := heads_first HH.out hpos
    have hfx := first_of HR.out hpos
    obtain ⟨R, hR⟩ : ∃ R, R = rs[0] := ⟨_, rfl⟩
    rw [← hR] at hc hf hn1 hfx
    obtain ⟨rA, rn, rc, rxs⟩ := R
    replace hc : World.cell? w3 ⟨b1, o1, none⟩ = some (.slice rA rn rc) := hc
    replace hn1 : rxs.length = rn := hn1
    replace hfx : rxs = (solsI p cs).headD [] := hfx
    have HPOS : Hid (decide (0 < (solsI p cs).length) = true) := by show _ = _; rw [← HRL.out]; exact decide_eq_true hpos
    have HFF : Hid (Fresh w3 w.heap.size w3.heap.size 3 rA (nums ((solsI p cs).headD []))) := by show Fresh _ _ _ _ _ _; rw [← hfx]; exact hf
    have HN1 : Hid (rn = ((solsI p cs).headD []).length) := by show _ = _; rw [← hfx]; exact hn1.symm
    clear hgrid hf hn1 hfx hR h0
    go_wp2
    go_ret2
    exact ⟨rA, rc, by rw [HPOS.out, ← HN1.out]; rfl, HFF.out, HB.out⟩

theorem pzOk_nil (p : Int) : pzOk p [] = within p 1 4 := by simp [pzOk]
set_option maxHeartbeats 800000 in
theorem specCountHidden_any (p : Int) (w : World) :
    Calls Try.prog 27 #[.int .i64 p] w fun e w' => e = .returned (.tuple #[.int .i64 ((solsI p []).length : Int), .bool (within p 1 4)]) ∧ Below w.heap.size w w' := by
  cases hp : within p 1 4
  · have HP := Lib.hid hp
    have HS := Lib.hid (solsI_no (p := p) (cs := []) (by rw [pzOk_nil]; exact hp))
    clear hp
    go_enter Try.func27, Try.ntmps27
    go_wp2_with fail
    refine (pzPeople_any _ _).mono ?_
    rintro e w' ⟨rfl, rfl⟩
    rw [HP.out]
    go_wp2
    go_ret2
    rw [HS.out]
    exact ⟨rfl, Below.refl _ _⟩
  · have HP := Lib.hid hp
    have HS := Lib.hid (solsI_yes (p := p) (cs := []) (by rw [pzOk_nil]; exact hp))
    obtain ⟨hp1, hp4⟩ := within_iff.1 hp
    have HLE := Lib.hid (solI_len [] hp1 hp4)
    clear hp
    go_enter Try.func27, Try.ntmps27
    go_wp2_with fail
    refine (pzPeople_any _ _).mono ?_
    rintro e w' ⟨rfl, rfl⟩
    rw [HP.out]
    go_wp2_with fail
    refine (pzAll_any p none 0 0 [] _ (.inl rfl) rfl (by omega) rfl hp1 hp4).mono ?_
    rintro e w3 ⟨A3, c3, rs, rfl, hr, hh, hb⟩
    have hrl : rs.length ≤ 1296 := by rw [heads_len hh hr]; exact HLE.out
    have HRL := Lib.hid (heads_len hh hr)
    clear hr hh
    go_wp2
    go_ret2
    rw [HS.out, ← HRL.out]
    exact ⟨rfl, hb⟩
set_option maxHeartbeats 800000 in
theorem implCountHidden_any (p : Int) (w : World) :
    Calls Try.prog 28 #[.int .i64 p] w fun e w' => e = .returned (.tuple #[.int .i64 ((solsI p []).length : Int), .bool (within p 1 4)]) ∧ Below w.heap.size w w' := by
  have HC := Lib.hid (implCountSolutions_any p none 0 0 [] w (.inl rfl) rfl (by omega))
  have HP := Lib.hid (pzOk_nil p)
  go_enter Try.func28, Try.ntmps28
  go_wp2_with fail
  refine HC.out.mono ?_
  rintro e w3 ⟨rfl, hb⟩
  rw [HP.out]
  go_wp2
  go_ret2
  exact ⟨rfl, hb⟩
end Go.Proofs.Ytcoagbcleccmmaa

namespace Go.Proofs.Ytcoagbcleccmmaa
open Go.RowKit

set_option maxHeartbeats 800000 in
set_option linter.unusedVariables false in
theorem lawCountSolutions_big0 (k0 : Int) (A0 : Option Addr) (n0 c0 : Nat) (x0 : List Cl) (w : World) (h0 : Holds w A0 (clsC x0)) (hx0 : x0.length = n0) (hn0 : n0 ≤ 9223372036854775807)  (hbig : 1048576 - (n0 : Int) < 0) :
    Calls Try.prog 9 #[.agg #[.int .i64 k0, .slice A0 n0 c0]] w fun e w' => e = .returned (.bool true) ∧ Below w.heap.size w w' := by
  have hb0 := (Whole.fresh w 30 #[.int .i64 k0, .slice A0 n0 c0])
  have ht := below1 w (.cells #[.int .i64 k0, .slice A0 n0 c0] 30)
  have HX0 := Lib.hid hx0
  clear hx0
  obtain ⟨hb0_0, hb0_1⟩ := hb0.cells2
  have hb0_l := hb0.lt
  go_enter Try.func9, Try.ntmps9
  go_wp2_with fail
  refine (szPuzzle_any k0 A0 n0 c0 (1048576) _ (by omega) (by omega) (by omega)).mono ?_
  rintro e v1 ⟨rfl, hb⟩
  rw [if_pos (by omega)]
  have hz1 : w.heap.size + 1 ≤ v1.heap.size := by have := hb.size; simpa using this
  replace ht := below_then ht hb ht.size
  replace hb0 := hb0.below hb
  clear hb
  clear hb0_0 hb0_1 hb0_l
  go_wp2
  go_ret
  exact ⟨rfl, ht⟩

set_option maxHeartbeats 12800000 in
set_option maxRecDepth 100000 in
set_option linter.unusedSimpArgs false in
set_option linter.unusedVariables false in
theorem lawCountSolutions_small (k0 : Int) (A0 : Option Addr) (n0 c0 : Nat) (x0 : List Cl) (w : World) (h0 : Holds w A0 (clsC x0)) (hx0 : x0.length = n0) (hn0 : n0 ≤ 9223372036854775807) (g0 : 0 ≤ 1048576 - (n0 : Int)) :
    Calls Try.prog 9 #[.agg #[.int .i64 k0, .slice A0 n0 c0]] w fun e w' => e = .returned (.bool true) ∧ Below w.heap.size w w' := by
  have hb0 := (Whole.fresh w 30 #[.int .i64 k0, .slice A0 n0 c0])
  have ht := below1 w (.cells #[.int .i64 k0, .slice A0 n0 c0] 30)
  have HX0 := Lib.hid hx0
  clear hx0
  obtain ⟨hb0_0, hb0_1⟩ := hb0.cells2
  have hb0_l := hb0.lt
  go_enter Try.func9, Try.ntmps9
  -- region 2
  go_wp2_with fail
  refine (szPuzzle_any k0 A0 n0 c0 (1048576) _ (by omega) (by omega) (by omega)).mono ?_
  rintro e v1 ⟨rfl, hb⟩
  rw [if_neg (by omega)]
  have hz1 : w.heap.size + 1 ≤ v1.heap.size := by have := hb.size; simpa using this
  replace ht := below_then ht hb ht.size
  replace hb0 := hb0.below hb
  clear hb
  clear hb0_0 hb0_1 hb0_l
  obtain ⟨hb0_0, hb0_1⟩ := hb0.cells2
  have hb0_l := hb0.lt
  -- region 5
  go_wp2_with fail
  refine (toPuzzle_own k0 A0 n0 c0 x0 _ (by exact h0.below ht) HX0.out (by omega)).mono ?_
  rintro e v2 ⟨gp0, rfl, hgp0, hwp0, hb⟩
  have hz2 : v1.heap.size ≤ v2.heap.size := by have := hb.size; simpa using this
  replace ht := below_then ht hb ht.size
  replace hb0 := hb0.below hb
  have hp0 := Fresh.of_whole (lo := v1.heap.size) (hi := v2.heap.size) hwp0 (by simpa using hgp0) hwp0.lt
  clear hgp0 hwp0
  clear hb
  clear hb0_0 hb0_1 hb0_l
  obtain ⟨hb0_0, hb0_1⟩ := hb0.cells2
  have hb0_l := hb0.lt
  go_wp2_with fail
  refine (specCountSolutions_any k0 _ n0 _ x0 _ (by exact hp0.holds) HX0.out (by omega)).mono ?_
  rintro e v3 ⟨rfl, hb⟩
  have hz3 : v2.heap.size ≤ v3.heap.size := by have := hb.size; simpa using this
  replace ht := below_then ht hb ht.size
  replace hb0 := hb0.below hb
  replace hp0 := hp0.below hb
  clear hb
  clear hp0
  clear hb0_0 hb0_1 hb0_l
  obtain ⟨hb0_0, hb0_1⟩ := hb0.cells2
  have hb0_l := hb0.lt
  -- region 6
  go_wp2_with fail
  refine (toPuzzle_own k0 A0 n0 c0 x0 _ (by exact h0.below ht) HX0.out (by omega)).mono ?_
  rintro e v4 ⟨gx0, rfl, hgx0, hwx0, hb⟩
  have hz4 : v3.heap.size ≤ v4.heap.size := by have := hb.size; simpa using this
  replace ht := below_then ht hb ht.size
  replace hb0 := hb0.below hb
  have hx0 := Fresh.of_whole (lo := v3.heap.size) (hi := v4.heap.size) hwx0 (by simpa using hgx0) hwx0.lt
  clear hgx0 hwx0
  clear hb
  have hx90 := Whole.fresh v4 35 #[.int .i64 k0, .slice (some ⟨gx0, 0, none⟩) n0 n0]
  replace ht := ht.alloc ht.size (.cells #[.int .i64 k0, .slice (some ⟨gx0, 0, none⟩) n0 n0] 35)
  replace hb0 := hb0.alloc (.cells #[.int .i64 k0, .slice (some ⟨gx0, 0, none⟩) n0 n0] 35)
  replace hx0 := hx0.alloc (.cells #[.int .i64 k0, .slice (some ⟨gx0, 0, none⟩) n0 n0] 35)
  clear hb0_0 hb0_1 hb0_l
  obtain ⟨hb0_0, hb0_1⟩ := hb0.cells2
  have hb0_l := hb0.lt
  obtain ⟨hx90_0, hx90_1⟩ := hx90.cells2
  have hx90_l := hx90.lt
  -- region 7
  go_wp2_with fail
  refine (implCountSolutions_any k0 _ n0 _ x0 _ (by exact hx0.holds) HX0.out (by omega)).mono ?_
  rintro e v5 ⟨rfl, hb⟩
  have hz5 : v4.heap.size + 1 ≤ v5.heap.size := by have := hb.size; simpa using this
  replace ht := below_then ht hb ht.size
  replace hb0 := hb0.below hb
  replace hx0 := hx0.below hb
  replace hx90 := hx90.below hb
  clear hb
  clear hb0_0 hb0_1 hb0_l hx90_0 hx90_1 hx90_l
  obtain ⟨hb0_0, hb0_1⟩ := hb0.cells2
  have hb0_l := hb0.lt
  obtain ⟨hx90_0, hx90_1⟩ := hx90.cells2
  have hx90_l := hx90.lt
  -- region 10
  clear hb0_0 hb0_1 hb0_l hx90_0 hx90_1 hx90_l
  go_wp2_with fail
  refine wp_region_held_drew (S := (fun w' => w'.cell? ⟨w.heap.size, 0, none⟩ = some (.int .i64 k0) ∧ w'.cell? ⟨w.heap.size, 1, none⟩ = some (.slice A0 n0 c0) ∧ w'.cell? ⟨v4.heap.size, 0, none⟩ = some (.int .i64 k0) ∧ w'.cell? ⟨v4.heap.size, 1, none⟩ = some (.slice (some ⟨gx0, 0, none⟩) n0 n0))) (by kernel_rfl) ⟨hb0.drew.cell 0, hb0.drew.cell 1, hx90.drew.cell 0, hx90.drew.cell 1⟩ (fun hHeld => ?_)
  replace ht := ht.drew
  replace hb0 := hb0.drew
  replace hx0 := hx0.drew
  replace hx90 := hx90.drew
  refine wpAnyH_take (i := 0) (v := ?_) rfl (by kernel_rfl) (by kernel_rfl) (by kernel_rfl) (fun _ _ _ h => h) (Or.inl ⟨rfl, ?_⟩) hHeld ?_
  rotate_left
  · intro w' hS; obtain ⟨s0, s1, s2, s3⟩ := hS; go_simp <;> with_reducible rfl
  simp only [Act.put, List.getElem_toArray, List.getElem_cons_succ, List.getElem_cons_zero, List.setIfInBounds_toArray, List.set_cons_succ, List.set_cons_zero]
  refine wpAnyH_take (i := 1) (v := ?_) rfl (by kernel_rfl) (by kernel_rfl) (by kernel_rfl) (fun _ _ _ h => h) (Or.inl ⟨rfl, ?_⟩) hHeld ?_
  rotate_left
  · intro w' hS; obtain ⟨s0, s1, s2, s3⟩ := hS; go_simp <;> with_reducible rfl
  simp only [Act.put, List.getElem_toArray, List.getElem_cons_succ, List.getElem_cons_zero, List.setIfInBounds_toArray, List.set_cons_succ, List.set_cons_zero]
  refine wpAnyH_ready (rs := [2]) (by kernel_rfl) (by simp) (AllReadyH.cons rfl (fun K hK => ?_) AllReadyH.nil)
  go_simp
  refine (toPuzzle_own k0 A0 n0 c0 x0 _ (by exact h0.below ht) HX0.out (by omega)).mono ?_
  rintro e v6 ⟨gy0, rfl, hgy0, hwy0, hb⟩
  have hz6 : v5.heap.size ≤ v6.heap.size := by have := hb.size; simpa using this
  replace ht := below_then ht hb ht.size
  replace hb0 := hb0.below hb
  replace hx0 := hx0.below hb
  replace hx90 := hx90.below hb
  have hy0 := Fresh.of_whole (lo := v5.heap.size) (hi := v6.heap.size) hwy0 (by simpa using hgy0) hwy0.lt
  clear hgy0 hwy0
  clear hb
  refine hK.out _ _ ⟨hb0.cell 0, hb0.cell 1, hx90.cell 0, hx90.cell 1⟩ (fun hHeld => ?_)
  clear hK K
  try simp only [Act.put, List.getElem_toArray, List.getElem_cons_succ, List.getElem_cons_zero, List.setIfInBounds_toArray, List.set_cons_succ, List.set_cons_zero]
  refine wpAnyH_ready (rs := [3]) (by kernel_rfl) (by simp) (AllReadyH.cons rfl (fun K hK => ?_) AllReadyH.nil)
  go_simp
  refine (eqPuzzle_yes _ _ n0 _ _ x0 k0 _ (by exact hx0.holds) (by exact hy0.holds) HX0.out (by omega)).mono ?_
  rintro e v7 ⟨rfl, hb⟩
  have hz7 : v6.heap.size ≤ v7.heap.size := by have := hb.size; simpa using this
  replace ht := below_then ht hb ht.size
  replace hb0 := hb0.below hb
  replace hx0 := hx0.below hb
  replace hx90 := hx90.below hb
  replace hy0 := hy0.below hb
  clear hb
  clear hy0
  refine hK.out _ _ ⟨hb0.cell 0, hb0.cell 1, hx90.cell 0, hx90.cell 1⟩ (fun hHeld => ?_)
  clear hK K
  try simp only [Act.put, List.getElem_toArray, List.getElem_cons_succ, List.getElem_cons_zero, List.setIfInBounds_toArray, List.set_cons_succ, List.set_cons_zero]
  refine wpAnyH_take (i := 4) (v := ?_) rfl (by kernel_rfl) (by kernel_rfl) (by kernel_rfl) (fun _ _ _ h => h) (Or.inl ⟨rfl, ?_⟩) hHeld ?_
  rotate_left
  · intro w' hS; obtain ⟨s0, s1, s2, s3⟩ := hS; go_simp <;> with_reducible rfl
  simp only [Act.put, List.getElem_toArray, List.getElem_cons_succ, List.getElem_cons_zero, List.setIfInBounds_toArray, List.set_cons_succ, List.set_cons_zero]
  refine wpAnyH_done (by kernel_rfl) ?_ _
  clear hHeld
  obtain ⟨hb0_0, hb0_1⟩ := hb0.cells2
  have hb0_l := hb0.lt
  obtain ⟨hx90_0, hx90_1⟩ := hx90.cells2
  have hx90_l := hx90.lt
  go_wp2
  go_ret
  exact ⟨rfl, ht⟩

theorem lawCountSolutions_all (k0 : Int) (A0 : Option Addr) (n0 c0 : Nat) (x0 : List Cl) (w : World) (h0 : Holds w A0 (clsC x0)) (hx0 : x0.length = n0) (hn0 : n0 ≤ 9223372036854775807) :
    Calls Try.prog 9 #[.agg #[.int .i64 k0, .slice A0 n0 c0]] w fun e w' => e = .returned (.bool true) ∧ Below w.heap.size w w' := by
  rcases (inferInstance : Decidable (0 ≤ 1048576 - (n0 : Int))) with g0 | g0
  · exact lawCountSolutions_big0 k0 A0 n0 c0 x0 w h0 hx0 hn0  (by omega)
  exact lawCountSolutions_small k0 A0 n0 c0 x0 w h0 hx0 hn0 g0
end Go.Proofs.Ytcoagbcleccmmaa
