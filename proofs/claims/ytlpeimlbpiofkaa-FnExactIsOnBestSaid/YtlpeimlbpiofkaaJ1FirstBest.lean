/-
  What is proved: a scope in which the run jumps back to one label again and again, by a number that falls with every pass. Conditions: none.
  What is proved: the contract of the program's legsOf: all lists of people that may cross at once, each with its time. Conditions: at most eight people.
  What is proved: some rows of a list of lists of the call's own are one of the call's own. Conditions: none beyond the reading itself.
-/
import Derived.ScopeJumps
import Derived.WalkMore
import Derived.Deep.LoopGhost
import Derived.Test.YtlpeimlbpiofkaaJ7FewestOfCrew
set_option linter.unusedSimpArgs false
set_option linter.unusedVariables false
namespace Go.Proofs.Ytlpeimlbpiofkaa
open Go.RowKit

theorem wp_scope_again {P : Program} {a : Act} {w : World} {Q : Exit → Act → World → Prop} {c rest : Code} (l : Nat) (J : Nat → Act → World → Prop) (hf : findLabel c l = some (Code.skip.seq rest))
    (pass : ∀ n a w, J n a w → rest.wp P (Exit.jump l (fun a' w' => ∃ m, m < n ∧ J m a' w') Q) a w)
    (first : (∀ n a w, J n a w → rest.wp P (Exit.jump l (fun a' w' => ∃ m, J m a' w') Q) a w) → c.wp P (Exit.jump l (fun a' w' => ∃ m, J m a' w') Q) a w) : (Code.scope c).wp P Q a w := by
  refine wp_scope_jumps l (fun a w => ∃ n, J n a w) (fun a w => Go.leastOf (fun n => J n a w)) hf (first fun n a w h => wp_mono (pass n a w h) fun e a' w' hh => ?_) (fun a w h => wp_seq (wp_skip (wp_mono (pass _ a w (Go.leastOf_spec h).1) fun e a' w' hh => ?_)))
  · cases e with
    | goto l' => obtain ⟨h1, m, -, h2⟩ := hh; exact ⟨h1, m, h2⟩
    | normal => exact hh
    | exit id => exact hh
    | ret => exact hh
    | panic ch => exact hh
    | outgrown => exact hh
  · cases e with
    | goto l' => obtain ⟨h1, m, hm, h2⟩ := hh; exact ⟨h1, ⟨m, h2⟩, Nat.lt_of_le_of_lt ((Go.leastOf_spec ⟨m, h2⟩).2 m h2) hm⟩
    | normal => exact hh
    | exit id => exact hh
    | ret => exact hh
    | panic ch => exact hh
    | outgrown => exact hh
end Go.Proofs.Ytlpeimlbpiofkaa

namespace Go.Proofs.Ytlpeimlbpiofkaa
open Go.RowKit

/-- What the appending reads. -/
def LegS (g : Nat) (f : Nat → Bool) (h : Nat) (s : Value) (m : Int) (w : World) : Prop := Row8 g f w ∧ w.cell? ⟨h, 0, none⟩ = some s ∧ w.cell? ⟨h, 1, none⟩ = some (.int .i64 m)
theorem legS_of {w : World} {g h : Nat} {f : Nat → Bool} {s : Value} {m : Int} {y z : TypeId} (h1 : Whole w g y (cells8 f)) (h2 : Whole w h z #[s, .int .i64 m]) : LegS g f h s m w := ⟨⟨h1.cell 0, h1.cell 1, h1.cell 2, h1.cell 3, h1.cell 4, h1.cell 5, h1.cell 6, h1.cell 7⟩, h2.cell 0, h2.cell 1⟩
theorem own_otherL {w w' : World} {base size n : Nat} {e : TypeId} {v : Value} {xs : List Value} {row : Option Nat} (h : w.ownsRow base e size v n xs) (hg : w.grownBy w' row) (hne : ∀ g, v.ownBlock = some g → some g ≠ row) : w'.ownsRow base e size v n xs := by
  obtain ⟨hl, h | ⟨g, cap, cur, hv, hb, hh, r⟩⟩ := h
  · exact ⟨hl, .inl h⟩
  · exact ⟨hl, .inr ⟨g, cap, cur, hv, hb, (hg.block g (Array.getElem?_eq_some_iff.1 hh).1 (hne g (by rw [hv]; rfl))).trans hh, r⟩⟩

set_option maxHeartbeats 12800000 in
set_option maxRecDepth 100000 in
set_option linter.unusedSimpArgs false in
set_option linter.unusedVariables false in
theorem legsOf_any (A : Option Addr) (n c m : Nat) (xs : List Int) (w : World) (hA0 : Holds w A (nums xs)) (hx : xs.length = n) (hn : n ≤ 8) (hm : m ≤ 8) :
    Calls Try.prog 121 #[.agg #[.slice A n c, .int .i64 (m : Int)]] w (LegsPost (slowOf xs) (upLists n m) w) := by
  obtain ⟨i0, hi, hz0, hz1, hz2⟩ := info_parts info_leg
  have HI := Lib.hid hi
  have HZ0 := Lib.hid hz0
  have HZ1 := Lib.hid hz1
  have HZ2 := Lib.hid hz2
  have HX := Lib.hid hx
  have HSM := Lib.hid (upLists_small (n := n) (m := m) hn)
  have HUP : Hid (∀ l ∈ upLists n m, StepsTo l ((n : Int) - 1) l.length) := fun l h => (up_steps h).1
  have hA := Lib.hid hA0
  have hc0 := Whole.fresh w 28 #[.slice A n c, .int .i64 (m : Int)]
  have ht0 := below1 w (.cells #[.slice A n c, .int .i64 (m : Int)] 28)
  obtain ⟨k0, k1⟩ := hc0.cells2
  clear hi hz0 hz1 hz2 hx hA0
  go_enter Try.func121, Try.ntmps121
  go_wp2_with fail
  refine (crowdsUpTo_any n m _ hn hm).mono ?_
  rintro e w1 ⟨B, cS, rfl, hS, hb⟩
  have H3 := Lib.hid (hc0.below hb)
  have HB := Lib.hid (below_then ht0 hb ht0.size)
  have HS0 : Hid (w1.ownsRow (w.heap.size + 1) 73 8 (.slice B (upLists n m).length cS) (upLists n m).length (crowdsOf (upLists n m))) := by show World.ownsRow _ _ _ _ _ _ _; have h := hS; rw [World.size_alloc] at h; exact h
  have hlo : w.heap.size + 1 ≤ w1.heap.size := by have := hb.size; simpa using this
  have HSL0 := Lib.hid (fun q (hq : (Value.slice B (upLists n m).length cS).ownBlock = some q) => (HS0.out.lt q hq).2)
  clear hS hb k0 k1 hc0 ht0
  go_wp2
  go_loopw [3, 13] (fun v i wr => ∃ (j : Nat) (Q : Option Addr) (r : Nat), j ≤ (upLists n m).length ∧ i = .int .i64 j ∧ v = .slice Q j r ∧ wr.ownsRow w1.heap.size 89 9 (.slice Q j r) j (legsCells (slowOf xs) ((upLists n m).take j)) ∧ wr.ownsRow (w.heap.size + 1) 73 8 (.slice B (upLists n m).length cS) (upLists n m).length (crowdsOf (upLists n m)) ∧ Whole wr w.heap.size 28 #[.slice A n c, .int .i64 (m : Int)] ∧ Below w.heap.size w wr ∧ w1.heap.size ≤ wr.heap.size) (fun _ i _ => (upLists n m).length - (intOf i).toNat)
  case atStart => exact ⟨0, none, 0, Nat.zero_le _, rfl, rfl, World.ownsRow_nil _ _ _ _, HS0.out, H3.out, HB.out, Nat.le_refl _⟩
  case round =>
    clear H3 HB HS0
    obtain ⟨j, Q, r, hj, rfl, rfl, hM, hS, hc, ht, hlw⟩ := hrel
    obtain ⟨wz, rfl⟩ : ∃ X : World, X = wr := ⟨_, rfl⟩
    by_cases hlt : j < (upLists n m).length
    · have hd : decide ((j : Int) < ((upLists n m).length : Int)) = true := by simp; omega
      obtain ⟨gs, rfl, hgl, a0, a1, a2, a3, a4, a5, a6, a7⟩ := crowds_row hS rfl hlt
      have HOL : Hid (∀ q, (Value.slice Q j r).ownBlock = some q → w1.heap.size ≤ q ∧ q < wz.heap.size) := fun q hq => hM.lt q hq
      have HNB : Hid (∀ g, (Value.slice (some ⟨gs, 0, none⟩) (upLists n m).length cS).ownBlock = some g → some g ≠ (Value.slice Q j r).ownBlock) := fun g hg e => by
        have h1 := HSL0.out g hg
        have h2 := (HOL.out g e.symm).1
        omega
      have HST := Lib.hid (HUP.out _ (List.getElem_mem hlt))
      have HSL : Hid (slowTo xs (upLists n m)[j] n = slowOf xs (upLists n m)[j]) := slow_same HST.out
      have HRN0 : Hid (legsCells (slowOf xs) ((upLists n m).take (j + 1)) = legsCells (slowOf xs) ((upLists n m).take j) ++ (legCells (slowOf xs) (upLists n m)[j]).toList) := by show _ = _; rw [List.take_succ_eq_append_getElem hlt, legsCells_snoc]
      obtain ⟨l, hl⟩ : ∃ l, (upLists n m)[j] = l := ⟨_, rfl⟩
      rw [hl] at a0 a1 a2 a3 a4 a5 a6 a7 HST HSL HRN0
      obtain ⟨tl, htl⟩ : ∃ tl, slowOf xs l = tl := ⟨_, rfl⟩
      have HTL := Lib.hid htl
      have HRN : Hid (legsCells (slowOf xs) ((upLists n m).take (j + 1)) = legsCells (slowOf xs) ((upLists n m).take j) ++ [.bool (has l 0), .bool (has l 1), .bool (has l 2), .bool (has l 3), .bool (has l 4), .bool (has l 5), .bool (has l 6), .bool (has l 7), .int .i64 tl]) := by show _ = _; rw [HRN0.out, ← htl]; rfl
      have hjs := HSM.out
      have hx1 := Whole.fresh wz 73 (cells8 (has l))
      have hc1 := hc.alloc (.cells (cells8 (has l)) 73)
      have ht1 := ht.alloc ht.size (.cells (cells8 (has l)) 73)
      have hO1 := hM.alloc (.cells (cells8 (has l)) 73)
      have hS1 := hS.alloc (.cells (cells8 (has l)) 73)
      have HLOW0 := hlw
      have hcl := hc.lt
      have HMAX := Lib.hid (show j + 1 ≤ maxLen by unfold maxLen; omega)
      have HBYT := Lib.hid (show (j + 1) * 16 ≤ 140737488355328 by omega)
      clear hl htl HRN0 hM hS hc ht
      unfold cells8 at hx1 hc1 ht1 hO1 hS1
      go_wp2_with fail
      clear a0 a1 a2 a3 a4 a5 a6 a7 hgl
      refine wp_region_held_drew (S := (LegS wz.heap.size (has l) w.heap.size (.slice A n c) (m : Int))) (by kernel_rfl) (legS_of hx1.drew hc1.drew) (fun hHeld => ?_)
      replace hx1 := hx1.drew
      replace hc1 := hc1.drew
      replace ht1 := ht1.drew
      replace hO1 : (World.drew (wz.alloc (.cells #[.bool (has l 0), .bool (has l 1), .bool (has l 2), .bool (has l 3), .bool (has l 4), .bool (has l 5), .bool (has l 6), .bool (has l 7)] 73))).ownsRow w1.heap.size 89 9 (.slice Q j r) j (legsCells (slowOf xs) ((upLists n m).take j)) := hO1
      replace hS1 : (World.drew (wz.alloc (.cells #[.bool (has l 0), .bool (has l 1), .bool (has l 2), .bool (has l 3), .bool (has l 4), .bool (has l 5), .bool (has l 6), .bool (has l 7)] 73))).ownsRow (w.heap.size + 1) 73 8 (.slice (some ⟨gs, 0, none⟩) (upLists n m).length cS) (upLists n m).length (crowdsOf (upLists n m)) := hS1
      have hzd : wz.heap.size < (World.drew (wz.alloc (.cells #[.bool (has l 0), .bool (has l 1), .bool (has l 2), .bool (has l 3), .bool (has l 4), .bool (has l 5), .bool (has l 6), .bool (has l 7)] 73))).heap.size := by simp [World.drew]
      generalize World.drew (wz.alloc (.cells #[.bool (has l 0), .bool (has l 1), .bool (has l 2), .bool (has l 3), .bool (has l 4), .bool (has l 5), .bool (has l 6), .bool (has l 7)] 73)) = wd at hx1 hc1 ht1 hO1 hS1 hzd hHeld ⊢
      refine wpAnyH_take (i := 0) (v := ?_) rfl (by kernel_rfl) (by kernel_rfl) (by kernel_rfl) (fun _ _ _ h => h) (Or.inl ⟨rfl, ?_⟩) hHeld ?_
      rotate_left
      · intro w' hS; obtain ⟨⟨a0, a1, a2, a3, a4, a5, a6, a7⟩, a8, b8⟩ := hS; go_simp <;> with_reducible rfl
      simp only [Act.put, List.getElem_toArray, List.getElem_cons_succ, List.getElem_cons_zero, List.setIfInBounds_toArray, List.set_cons_succ, List.set_cons_zero]
      refine wpAnyH_take (i := 1) (v := ?_) rfl (by kernel_rfl) (by kernel_rfl) (by kernel_rfl) (fun _ _ _ h => h) (Or.inl ⟨rfl, ?_⟩) hHeld ?_
      rotate_left
      · intro w' hS; obtain ⟨⟨a0, a1, a2, a3, a4, a5, a6, a7⟩, a8, b8⟩ := hS; go_simp <;> with_reducible rfl
      simp only [Act.put, List.getElem_toArray, List.getElem_cons_succ, List.getElem_cons_zero, List.setIfInBounds_toArray, List.set_cons_succ, List.set_cons_zero]
      refine wpAnyH_take (i := 2) (v := ?_) rfl (by kernel_rfl) (by kernel_rfl) (by kernel_rfl) (fun _ _ _ h => h) (Or.inl ⟨rfl, ?_⟩) hHeld ?_
      rotate_left
      · intro w' hS; obtain ⟨⟨a0, a1, a2, a3, a4, a5, a6, a7⟩, a8, b8⟩ := hS; go_simp <;> with_reducible rfl
      simp only [Act.put, List.getElem_toArray, List.getElem_cons_succ, List.getElem_cons_zero, List.setIfInBounds_toArray, List.set_cons_succ, List.set_cons_zero]
      refine wpAnyH_take (i := 3) (v := ?_) rfl (by kernel_rfl) (by kernel_rfl) (by kernel_rfl) (fun _ _ _ h => h) (Or.inl ⟨rfl, ?_⟩) hHeld ?_
      rotate_left
      · intro w' hS; obtain ⟨⟨a0, a1, a2, a3, a4, a5, a6, a7⟩, a8, b8⟩ := hS; go_simp <;> with_reducible rfl
      simp only [Act.put, List.getElem_toArray, List.getElem_cons_succ, List.getElem_cons_zero, List.setIfInBounds_toArray, List.set_cons_succ, List.set_cons_zero]
      refine wpAnyH_take (i := 4) (v := ?_) rfl (by kernel_rfl) (by kernel_rfl) (by kernel_rfl) (fun _ _ _ h => h) (Or.inl ⟨rfl, ?_⟩) hHeld ?_
      rotate_left
      · intro w' hS; obtain ⟨⟨a0, a1, a2, a3, a4, a5, a6, a7⟩, a8, b8⟩ := hS; go_simp <;> with_reducible rfl
      simp only [Act.put, List.getElem_toArray, List.getElem_cons_succ, List.getElem_cons_zero, List.setIfInBounds_toArray, List.set_cons_succ, List.set_cons_zero]
      refine wpAnyH_ready (rs := [5]) (by kernel_rfl) (by simp) (AllReadyH.cons rfl (fun K hK => ?_) AllReadyH.nil)
      go_simp
      have hx := slowest_any A n c xs l wd (hA.out.below ht1) HX.out (by omega)
      rw [HSL.out, HTL.out, crowd8] at hx
      unfold cells8 at hx
      refine hx.mono ?_
      clear hx
      rintro e w7 ⟨rfl, hb⟩
      have hz7 := hb.size
      replace hx1 := hx1.below hb
      replace hc1 := hc1.below hb
      replace ht1 := below_then ht1 hb ht1.size
      replace hO1 := ownsRow_below hO1 hb
      replace hS1 := ownsRow_below hS1 hb
      clear hb
      refine hK.out _ _ (legS_of hx1 hc1) (fun hHeld => ?_)
      clear hK K
      try simp only [Act.put, List.getElem_toArray, List.getElem_cons_succ, List.getElem_cons_zero, List.setIfInBounds_toArray, List.set_cons_succ, List.set_cons_zero]
      refine wpAnyH_take (i := 6) (v := ?_) rfl (by kernel_rfl) (by kernel_rfl) (by kernel_rfl) (fun _ _ _ h => h) (Or.inl ⟨rfl, ?_⟩) hHeld ?_
      rotate_left
      · intro w' hS; obtain ⟨⟨a0, a1, a2, a3, a4, a5, a6, a7⟩, a8, b8⟩ := hS; go_simp <;> with_reducible rfl
      simp only [Act.put, List.getElem_toArray, List.getElem_cons_succ, List.getElem_cons_zero, List.setIfInBounds_toArray, List.set_cons_succ, List.set_cons_zero]
      refine wpAnyH_ready (rs := [7]) (by kernel_rfl) (by simp) (AllReadyH.cons rfl (fun K hK => ?_) AllReadyH.nil)
      go_simp
      have HNEW := Lib.hid (cells_new w7 89 #[.bool (has l 0), .bool (has l 1), .bool (has l 2), .bool (has l 3), .bool (has l 4), .bool (has l 5), .bool (has l 6), .bool (has l 7), .int .i64 tl])
      have HO6 := Lib.hid (hO1.alloc (.cells #[.bool (has l 0), .bool (has l 1), .bool (has l 2), .bool (has l 3), .bool (has l 4), .bool (has l 5), .bool (has l 6), .bool (has l 7), .int .i64 tl] 89))
      have HS6 := Lib.hid (hS1.alloc (.cells #[.bool (has l 0), .bool (has l 1), .bool (has l 2), .bool (has l 3), .bool (has l 4), .bool (has l 5), .bool (has l 6), .bool (has l 7), .int .i64 tl] 89))
      have hx2 := hx1.alloc (.cells #[.bool (has l 0), .bool (has l 1), .bool (has l 2), .bool (has l 3), .bool (has l 4), .bool (has l 5), .bool (has l 6), .bool (has l 7), .int .i64 tl] 89)
      have hc2 := hc1.alloc (.cells #[.bool (has l 0), .bool (has l 1), .bool (has l 2), .bool (has l 3), .bool (has l 4), .bool (has l 5), .bool (has l 6), .bool (has l 7), .int .i64 tl] 89)
      have ht2 := ht1.alloc ht1.size (.cells #[.bool (has l 0), .bool (has l 1), .bool (has l 2), .bool (has l 3), .bool (has l 4), .bool (has l 5), .bool (has l 6), .bool (has l 7), .int .i64 tl] 89)
      refine hK.out _ _ (legS_of hx2 hc2) (fun hHeld => ?_)
      clear hK K
      try simp only [Act.put, List.getElem_toArray, List.getElem_cons_succ, List.getElem_cons_zero, List.setIfInBounds_toArray, List.set_cons_succ, List.set_cons_zero]
      refine wpAnyH_ready (rs := [8]) (by kernel_rfl) (by simp) (AllReadyH.cons rfl (fun K hK => ?_) AllReadyH.nil)
      have HBASE := Lib.hid (show w1.heap.size ≤ (w7.alloc (.cells #[.bool (has l 0), .bool (has l 1), .bool (has l 2), .bool (has l 3), .bool (has l 4), .bool (has l 5), .bool (has l 6), .bool (has l 7), .int .i64 tl] 89)).heap.size by simp; omega)
      refine step_append_lies _ rfl (.tmp 17) (.tmp 24) 70 rfl w1.heap.size 89 i0 (.agg #[.bool false, .bool false, .bool false, .bool false, .bool false, .bool false, .bool false, .bool false, .int .i64 0]) 9 16 Try.underlying70 HI.out HZ0.out HZ1.out HZ2.out rfl (by decide) (.slice Q j r) j (legsCells (slowOf xs) ((upLists n m).take j)) (by simp [Act.eval]) HO6.out ⟨w7.heap.size, 0, none⟩ 1 1 [.bool (has l 0), .bool (has l 1), .bool (has l 2), .bool (has l 3), .bool (has l 4), .bool (has l 5), .bool (has l 6), .bool (has l 7), .int .i64 tl] (by simp [Act.eval]) rfl HNEW.out (by simp [Value.oneCell']) (by decide) HMAX.out HBYT.out HBASE.out (w7.heap.size + 1) (by simp) ?_
      intro g3 c3 w8 hown3 hg3 hat3 hlt3
      have hrr : ∀ q, (Value.slice Q j r).ownBlock = some q → w1.heap.size ≤ q ∧ q < wz.heap.size := HOL.out
      have q7 := whole_apart hx2 hg3 (fun e => absurd (hrr _ e.symm).2 (by omega))
      have q3 := whole_apart hc2 hg3 (fun e => absurd (hrr _ e.symm).1 (by omega))
      have q5 := own_otherL HS6.out hg3 HNB.out
      have hbt := Below.grown ht2 hg3 (by have := ht1.size; simp; omega) (fun q hq => by have := (hrr q hq).1; omega)
      have hz8 : w1.heap.size ≤ w8.heap.size := by have := hg3.size; have := HBASE.out; omega
      have P2 := Lib.hid hown3
      have P3 := Lib.hid q3
      have P4 := Lib.hid hbt
      have P5 := Lib.hid q5
      clear hown3 hg3 hat3 hlt3 hbt hrr q5
      refine hK.out _ _ (legS_of q7 q3) (fun hHeld => ?_)
      clear hK K
      try simp only [Act.put, List.getElem_toArray, List.getElem_cons_succ, List.getElem_cons_zero, List.setIfInBounds_toArray, List.set_cons_succ, List.set_cons_zero]
      refine wpAnyH_take (i := 9) (v := ?_) rfl (by kernel_rfl) (by kernel_rfl) (by kernel_rfl) (fun _ _ _ h => h) (Or.inl ⟨rfl, ?_⟩) hHeld ?_
      rotate_left
      · intro w' hS; obtain ⟨⟨a0, a1, a2, a3, a4, a5, a6, a7⟩, a8, b8⟩ := hS; go_simp <;> with_reducible rfl
      simp only [Act.put, List.getElem_toArray, List.getElem_cons_succ, List.getElem_cons_zero, List.setIfInBounds_toArray, List.set_cons_succ, List.set_cons_zero]
      refine wpAnyH_done (by kernel_rfl) ?_ _
      clear hHeld
      go_wp2
      go_roundw
      case rel => exact ⟨j + 1, some ⟨g3, 0, none⟩, c3, by omega, by go_num, rfl, by rw [HRN.out]; exact P2.out, P5.out, P3.out, P4.out, hz8⟩
      case measure => simp [intOf]; omega
    · obtain rfl : j = (upLists n m).length := by omega
      have hd : decide (((upLists n m).length : Int) < ((upLists n m).length : Int)) = false := by simp
      rw [List.take_length] at hM
      have HM := Lib.hid hM
      have HT := Lib.hid ht
      clear hM ht hS hc
      go_wp2
      go_ret
      exact ⟨Q, r, rfl, own_lower HM.out (by omega), HT.out⟩
end Go.Proofs.Ytlpeimlbpiofkaa

namespace Go.Proofs.Ytlpeimlbpiofkaa
open Go.RowKit

/-- Some of the rows that lie spread lie spread. -/
theorem pairS_free {w : World} {ps : List (Nat × Nat)} {rs : List RowV} (h : FreeRows w ps rs) : (∀ y ∈ rs.zip ps, Fresh w y.2.1 y.2.2 3 y.1.A (nums y.1.xs) ∧ y.1.xs.length = y.1.n ∧ y.1.n ≤ 1048576) ∧ (rs.zip ps).Pairwise (fun a b => a.2.2 ≤ b.2.1 ∨ b.2.2 ≤ a.2.1) := by
  obtain ⟨h1, h2, h3⟩ := h
  refine ⟨fun y hy => ?_, ?_⟩
  · obtain ⟨k, hk, rfl⟩ := List.getElem_of_mem hy
    have hk' : k < rs.length ∧ k < ps.length := by have h9 := hk; rw [List.length_zip] at h9; omega
    have := h2 k rs[k] ps[k] (by simp [hk'.1]) (by simp [hk'.2])
    simpa using this
  · rw [List.pairwise_iff_getElem]
    intro i j hi hj hij
    have hi' : i < rs.length ∧ i < ps.length := by have h9 := hi; rw [List.length_zip] at h9; omega
    have hj' : j < rs.length ∧ j < ps.length := by have h9 := hj; rw [List.length_zip] at h9; omega
    have := h3 i j ps[i] ps[j] (by omega) (by simp [hi'.2]) (by simp [hj'.2])
    simpa using this
theorem ofS_pairs {w : World} {zs : List (RowV × (Nat × Nat))} (h1 : ∀ y ∈ zs, Fresh w y.2.1 y.2.2 3 y.1.A (nums y.1.xs) ∧ y.1.xs.length = y.1.n ∧ y.1.n ≤ 1048576) (h2 : zs.Pairwise (fun a b => a.2.2 ≤ b.2.1 ∨ b.2.2 ≤ a.2.1)) : FreeRows w (zs.map Prod.snd) (zs.map Prod.fst) := by
  refine ⟨by simp, fun k r p hr hp => ?_, fun i j p p' hne hp hp' => ?_⟩
  · rw [List.getElem?_map] at hr hp
    obtain ⟨y, hy, rfl⟩ := Option.map_eq_some_iff.1 hr
    rw [hy] at hp
    obtain rfl : y.2 = p := by simpa using hp
    exact h1 y (List.mem_of_getElem? hy)
  · rw [List.getElem?_map] at hp hp'
    obtain ⟨y, hy, rfl⟩ := Option.map_eq_some_iff.1 hp
    obtain ⟨y', hy', rfl⟩ := Option.map_eq_some_iff.1 hp'
    obtain ⟨hi, rfl⟩ := List.getElem?_eq_some_iff.1 hy
    obtain ⟨hj, rfl⟩ := List.getElem?_eq_some_iff.1 hy'
    rcases Nat.lt_or_gt_of_ne hne with h | h
    · exact List.pairwise_iff_getElem.1 h2 i j hi hj h
    · exact (List.pairwise_iff_getElem.1 h2 j i hj hi h).symm
theorem Heads.chosen {w wr : World} {lo c c' : Nat} {A D : Option Addr} {rs : List RowV} (f : RowV → Bool) (h : Heads w lo A c rs) (hb : Below w.heap.size w wr) (ho : wr.ownsRow w.heap.size 22 1 (.slice D (rs.filter f).length c') (rs.filter f).length (rowVals (rs.filter f))) (hl : lo ≤ w.heap.size) : Heads wr lo D c' (rs.filter f) := by
  obtain ⟨-, ps, hf, hp, -⟩ := h
  obtain ⟨h1, h2⟩ := pairS_free hf
  have hz : ((rs.zip ps).filter (fun y => f y.1)).map Prod.fst = rs.filter f := by
    have h0 : (rs.zip ps).map Prod.fst = rs := by rw [List.map_fst_zip]; rw [hf.1]; exact Nat.le_refl _
    have h6 : rs.filter f = ((rs.zip ps).map Prod.fst).filter f := by rw [h0]
    rw [h6, List.filter_map]
    rfl
  have hfree : FreeRows w (((rs.zip ps).filter (fun y => f y.1)).map Prod.snd) (rs.filter f) := by
    rw [← hz]
    exact ofS_pairs (fun y hy => h1 y (List.mem_filter.1 hy).1) (h2.sublist List.filter_sublist)
  have hps : ∀ p ∈ ((rs.zip ps).filter (fun y => f y.1)).map Prod.snd, p ∈ ps := fun p hp => by
    obtain ⟨y, hy, rfl⟩ := List.mem_map.1 hp
    exact (List.of_mem_zip (List.mem_filter.1 hy).1).2
  refine ⟨own_lower ho hl, _, hfree.below hb, fun p hp' => ⟨(hp p (hps p hp')).1, Nat.le_trans (hp p (hps p hp')).2 hb.size⟩, fun a ha p hp' => .inr ?_⟩
  subst ha
  exact Nat.le_trans (hp p (hps p hp')).2 (ho.lt a.block rfl).1
end Go.Proofs.Ytlpeimlbpiofkaa
