/-
  What is proved: the contract of the model's AddClue. Conditions: the clues are read as they lie.
  What is proved: the contract of slices.Clone of a list of clues. Conditions: the list is read as it lies.
  What is proved: contracts of HarderPuzzle, of the model and of the program. Conditions: the clues are read as they lie.
  What is proved: the contract of the program's HarderPuzzle. Conditions: the clues are read as they lie.
  What is proved: contracts of the laws' own comparison and marks of clues and puzzles. Conditions: the clues are read as they lie; what is marked is a row of the call's own.
  What is proved: contracts of the laws' own marks of clues and puzzles. Conditions: what is marked is a row of the call's own; counts are small.
  What is proved: the law FnExactHarderPuzzle returns true at every argument, and leaves all that was there as it was. Conditions: the arguments are read as they lie.
-/
import Derived.Deep.RegionLawGrows
import Derived.Deep.LoopGhost
import Derived.Deep.DeepCutAuto
import Derived.Deep.RegionHeld3
import Derived.Test.YtkocompjjogciaaJ5HarderPuzzle
set_option linter.unusedSimpArgs false
set_option linter.unusedVariables false
namespace Go.Proofs.Ytkocompjjogciaa
open Go.RowKit

theorem whole_apartA {w w' : World} {q : Nat} {ty : TypeId} {cs : Array Value} {row : Option Nat} (h : Whole w q ty cs) (hg : w.grownBy w' row) (hne : some q ≠ row) : Whole w' q ty cs := (hg.block q h.lt hne).trans h
theorem whole_neA {w : World} {g h : Nat} {t u : TypeId} {a b : Array Value} (h1 : Whole w g t a) (h2 : Whole w h u b) (hn : t ≠ u) : g ≠ h := by
  rintro rfl
  have e : some (Obj.cells a t (0, 0)) = some (Obj.cells b u (0, 0)) := h1.symm.trans h2
  simp at e
  exact hn e.2
theorem own_onlyA {w w' : World} {b base size n : Nat} {t e : TypeId} {v : Value} {cs : Array Value} {xs : List Value} (h : w.ownsRow base e size v n xs) (ho : Only b w w') (hb : Whole w b t cs) (hn : t ≠ e) : w'.ownsRow base e size v n xs := by
  obtain ⟨hl, h | ⟨q, cap, cur, hv, hq, hh, r⟩⟩ := h
  · exact ⟨hl, .inl h⟩
  · have hw : Whole w q e cur := hh
    exact ⟨hl, .inr ⟨q, cap, cur, hv, hq, (ho.block q (whole_neA hw hb (fun h => hn h.symm))).trans hh, r⟩⟩
theorem own_lowerA {w : World} {base base' size : Nat} {e : TypeId} {v : Value} {n : Nat} {xs : List Value} (h : w.ownsRow base e size v n xs) (hb : base' ≤ base) : w.ownsRow base' e size v n xs := by
  obtain ⟨hl, h | ⟨g, cap, cur, hv, hg, r⟩⟩ := h
  · exact ⟨hl, .inl h⟩
  · exact ⟨hl, .inr ⟨g, cap, cur, hv, Nat.le_trans hb hg, r⟩⟩
theorem size_puzzle : (Try.prog.info? 83).map (·.size) = some 2 := by kernel_rfl
/-- The cells of the two arguments' boxes. -/
def Add5 (w : World) (p : Int) (s : Value) (x1 x2 x3 : Int) (w' : World) : Prop :=
  w'.cell? ⟨w.heap.size, 0, none⟩ = some (.int .i64 p) ∧ w'.cell? ⟨w.heap.size, 1, none⟩ = some s ∧ w'.cell? ⟨w.heap.size + 1, 0, none⟩ = some (.int .i64 x1) ∧ w'.cell? ⟨w.heap.size + 1, 1, none⟩ = some (.int .i64 x2) ∧ w'.cell? ⟨w.heap.size + 1, 2, none⟩ = some (.int .i64 x3)
theorem add5_of {w w' : World} {p x1 x2 x3 : Int} {s : Value} (h : Whole w' w.heap.size 83 #[.int .i64 p, s]) (k : Whole w' (w.heap.size + 1) 87 #[.int .i64 x1, .int .i64 x2, .int .i64 x3]) : Add5 w p s x1 x2 x3 w' := ⟨h.cell 0, h.cell 1, k.cell 0, k.cell 1, k.cell 2⟩

set_option maxHeartbeats 3200000 in
set_option maxRecDepth 100000 in
theorem specAddK_no (p : Int) (A : Option Addr) (n c : Nat) (cs : List Cl) (x1 x2 x3 : Int) (w : World) (hA : Holds w A (clsC cs)) (hx : cs.length = n) (hn : n ≤ 1048576) (hno : adOk p cs (x1, x2, x3) = false) :
    Calls Try.prog 55 #[.agg #[.int .i64 p, .slice A n c], .agg #[.int .i64 x1, .int .i64 x2, .int .i64 x3]] w (PuzPost (adP p cs (x1, x2, x3)) (adL p cs (x1, x2, x3)) (adOk p cs (x1, x2, x3)) w) := by
  have HX := Lib.hid hx
  have HS := Lib.hid hno
  have hA3 := ((hA.alloc (.cells #[.int .i64 p, .slice A n c] 83)).alloc (.cells #[.int .i64 x1, .int .i64 x2, .int .i64 x3] 87)).alloc (.cells #[.int .i64 0, .slice none 0 0] 83)
  have h0 := ((Whole.fresh w 83 #[.int .i64 p, .slice A n c]).alloc (.cells #[.int .i64 x1, .int .i64 x2, .int .i64 x3] 87)).alloc (.cells #[.int .i64 0, .slice none 0 0] 83)
  have h1 := (Whole.fresh (w.alloc (.cells #[.int .i64 p, .slice A n c] 83)) 87 #[.int .i64 x1, .int .i64 x2, .int .i64 x3]).alloc (.cells #[.int .i64 0, .slice none 0 0] 83)
  have h2 := Whole.fresh ((w.alloc (.cells #[.int .i64 p, .slice A n c] 83)).alloc (.cells #[.int .i64 x1, .int .i64 x2, .int .i64 x3] 87)) 83 #[.int .i64 0, .slice none 0 0]
  simp only [World.size_alloc] at h1 h2
  have HNO : Hid (pzOk p cs = true → clOk p (x1, x2, x3) = true → n = 6) := by
    intro ha hb
    have h : ¬ (pzOk p cs = true ∧ clOk p (x1, x2, x3) = true ∧ cs.length ≠ 6) := fun h => by rw [adOk_iff.2 h] at hno; cases hno
    simp only [ha, hb, true_and, hx] at h
    omega
  clear hx hno
  cases hp : pzOk p cs
  · have HP := Lib.hid hp
    clear hp
    go_enter Try.func55, Try.ntmps55
    go_wp2_with fail
    refine (pzGood_any p A n c cs _ hA3 HX.out (by omega)).mono ?_
    rintro e w1 ⟨rfl, hb⟩
    rw [HP.out]
    have ht := below_then (below3 w _ _ _) hb (by simp; omega)
    have hr := h2.below hb
    have hlr := hr.lt
    obtain ⟨r0, r1, f0, f1⟩ := hr.two
    clear h0 h1 h2 hb hA3
    go_wp2
    refine bodyPost_ret (v := .tuple #[.agg #[.int .i64 0, .slice none 0 0], .bool false]) (by simp [results, Try.results55, go_sem, r0, r1]) rfl ⟨none, 0, by rw [(ad_no HS.out).1, (ad_no HS.out).2, HS.out]; rfl, by rw [(ad_no HS.out).2]; exact .inl rfl, ?_⟩
    exact below_set (below_set ht (by omega)) (by omega)
  have HP := Lib.hid hp
  have hpp := (pzOk_parts hp).1
  have hpp4 := (pzOk_parts hp).2.1
  clear hp
  cases hk : clOk p (x1, x2, x3)
  all_goals
    have HK := Lib.hid hk
    clear hk
    go_enter Try.func55, Try.ntmps55
    go_wp2_with fail
    refine (pzGood_any p A n c cs _ hA3 HX.out (by omega)).mono ?_
    rintro e w1 ⟨rfl, hb⟩
    rw [HP.out]
    have ht := below_then (below3 w _ _ _) hb (by simp; omega)
    have hq := h0.below hb
    obtain ⟨k0, k1⟩ := hq.cells2
    have hlq := hq.lt
    have hc := h1.below hb
    have hlc := hc.lt
    obtain ⟨d0, d1, d2⟩ := hc.cells3
    have hr := h2.below hb
    clear h0 h1 h2 hb hA3
    go_wp2_with fail
    have hcl := pzClue_any p (x1, x2, x3) w1 hpp hpp4
    rw [show clC (x1, x2, x3) = #[.int .i64 x1, .int .i64 x2, .int .i64 x3] from rfl] at hcl
    refine hcl.mono ?_
    rintro e w2 ⟨rfl, hb⟩
    rw [HK.out]
    replace ht := below_then ht hb ht.size
    replace hq := hq.below hb
    replace hr := hr.below hb
    clear hb hcl k0 k1 hlq hc hlc d0 d1 d2
    have hlr := hr.lt
    have hlq := hq.lt
    obtain ⟨r0, r1, f0, f1⟩ := hr.two
    obtain ⟨k0, k1⟩ := hq.cells2
  · go_wp2
    refine bodyPost_ret (v := .tuple #[.agg #[.int .i64 0, .slice none 0 0], .bool false]) (by simp [results, Try.results55, go_sem, r0, r1]) rfl ⟨none, 0, by rw [(ad_no HS.out).1, (ad_no HS.out).2, HS.out]; rfl, by rw [(ad_no HS.out).2]; exact .inl rfl, ?_⟩
    exact below_set (below_set ht (by omega)) (by omega)
  · have h6 : ((n : Int) == 6) = true := by have := HNO.out HP.out HK.out; simp; omega
    go_wp2
    refine bodyPost_ret (v := .tuple #[.agg #[.int .i64 0, .slice none 0 0], .bool false]) (by simp [results, Try.results55, go_sem, r0, r1]) rfl ⟨none, 0, by rw [(ad_no HS.out).1, (ad_no HS.out).2, HS.out]; rfl, by rw [(ad_no HS.out).2]; exact .inl rfl, ?_⟩
    exact below_set (below_set ht (by omega)) (by omega)

set_option maxHeartbeats 6400000 in
set_option maxRecDepth 100000 in
set_option linter.unusedVariables false in
set_option linter.unusedSimpArgs false in
theorem specAddK_on (p : Int) (b o n c : Nat) (cs : List Cl) (x1 x2 x3 : Int) (w : World) (hA : Holds w (some ⟨b, o, none⟩) (clsC cs)) (hx : cs.length = n) (hn : n ≤ 1048576) (hp : pzOk p cs = true) (hk : clOk p (x1, x2, x3) = true) (h6 : n ≠ 6) :
    Calls Try.prog 55 #[.agg #[.int .i64 p, .slice (some ⟨b, o, none⟩) n c], .agg #[.int .i64 x1, .int .i64 x2, .int .i64 x3]] w (PuzPost p (cs ++ [(x1, x2, x3)]) true w) := by
  obtain ⟨i0, hi, hz0, hz1, hz2⟩ := info_parts info_clue
  have HI := Lib.hid hi
  have HZ0 := Lib.hid hz0
  have HZ1 := Lib.hid hz1
  have HZ2 := Lib.hid hz2
  have HX := Lib.hid hx
  have HP := Lib.hid hp
  have HK := Lib.hid hk
  have H6 : Hid (((n : Int) == 6) = false) := by show _ = _; simp; omega
  have hpp := (pzOk_parts hp).1
  have hpp4 := (pzOk_parts hp).2.1
  have HA3 := Lib.hid (((hA.alloc (.cells #[.int .i64 p, .slice (some ⟨b, o, none⟩) n c] 83)).alloc (.cells #[.int .i64 x1, .int .i64 x2, .int .i64 x3] 87)).alloc (.cells #[.int .i64 0, .slice none 0 0] 83))
  have h0 := ((Whole.fresh w 83 #[.int .i64 p, .slice (some ⟨b, o, none⟩) n c]).alloc (.cells #[.int .i64 x1, .int .i64 x2, .int .i64 x3] 87)).alloc (.cells #[.int .i64 0, .slice none 0 0] 83)
  have h1 := (Whole.fresh (w.alloc (.cells #[.int .i64 p, .slice (some ⟨b, o, none⟩) n c] 83)) 87 #[.int .i64 x1, .int .i64 x2, .int .i64 x3]).alloc (.cells #[.int .i64 0, .slice none 0 0] 83)
  have h2 := Whole.fresh ((w.alloc (.cells #[.int .i64 p, .slice (some ⟨b, o, none⟩) n c] 83)).alloc (.cells #[.int .i64 x1, .int .i64 x2, .int .i64 x3] 87)) 83 #[.int .i64 0, .slice none 0 0]
  simp only [World.size_alloc] at h1 h2
  have HLO : Hid ((clsC cs).length = n * 3) := by show _ = _; rw [clsC_len, hx]
  have HON := Lib.hid (clsC_one cs)
  have HM5 := Lib.hid (show 0 + n ≤ maxLen by unfold maxLen; omega)
  have HM8 := Lib.hid (show n + 1 ≤ maxLen by unfold maxLen; omega)
  have HY5 := Lib.hid (show (0 + n) * 24 ≤ 140737488355328 by omega)
  have HY8 := Lib.hid (show (n + 1) * 24 ≤ 140737488355328 by omega)
  have HXL : Hid ((cs ++ [(x1, x2, x3)]).length = n + 1) := by show _ = _; rw [List.length_append, hx]; rfl
  have HAP : Hid (clsC cs ++ [.int .i64 x1, .int .i64 x2, .int .i64 x3] = clsC (cs ++ [(x1, x2, x3)])) := by show _ = _; rw [clsC_app]; rfl
  clear hi hz0 hz1 hz2 hx hp hk hA h6
  go_enter Try.func55, Try.ntmps55
  go_wp2_with fail
  refine (pzGood_any p _ n c cs _ HA3.out HX.out (by omega)).mono ?_
  rintro e w1 ⟨rfl, hb⟩
  rw [HP.out]
  have ht := below_then (below3 w _ _ _) hb (by simp; omega)
  have hq := h0.below hb
  obtain ⟨k0, k1⟩ := hq.cells2
  have hlq := hq.lt
  have hk := h1.below hb
  have hlc := hk.lt
  obtain ⟨d0, d1, d2⟩ := hk.cells3
  have hr := h2.below hb
  have HA4 := Lib.hid (HA3.out.below hb)
  clear h0 h1 h2 hb
  go_wp2_with fail
  have hcl := pzClue_any p (x1, x2, x3) w1 hpp hpp4
  rw [show clC (x1, x2, x3) = #[.int .i64 x1, .int .i64 x2, .int .i64 x3] from rfl] at hcl
  refine hcl.mono ?_
  rintro e w1' ⟨rfl, hb⟩
  rw [HK.out]
  have HT := Lib.hid (below_then ht hb ht.size)
  replace hq := hq.below hb
  replace hk := hk.below hb
  replace hr := hr.below hb
  have HA5 := Lib.hid (HA4.out.below hb)
  have HCL : Hid (∀ j u, (clsC cs)[j]? = some u → b < w1'.heap.size ∧ w1'.cell? ⟨b, o + j, none⟩ = some u) := fun j u hu => by
    rcases HA5.out with h | ⟨b9, o9, h9, hb9, hcell⟩
    · rw [h] at hu; simp at hu
    · cases h9; exact ⟨hb9, hcell j u hu⟩
  clear hb hcl k0 k1 hlq hlc d0 d1 d2 ht
  rename_i w1o _
  obtain ⟨w1, rfl⟩ : ∃ W, W = w1' := ⟨_, rfl⟩
  have hlr := hr.lt
  have hlq := hq.lt
  obtain ⟨k0, k1⟩ := hq.cells2
  have h6 := H6.out
  go_wp2_with fail
  clear k0 k1 h6
  refine wp_region_held_drew (S := (Add5 w p (.slice (some ⟨b, o, none⟩) n c) x1 x2 x3)) (by kernel_rfl) (add5_of hq.drew hk.drew) (fun hHeld => ?_)
  replace hq := hq.drew
  replace hk := hk.drew
  replace hr := hr.drew
  have ht := (Below.refl w1.heap.size w1).drew
  generalize World.drew w1 = w0 at hq hk hr ht hHeld ⊢
  refine wpAnyH_take (i := 0) (v := ?_) rfl (by kernel_rfl) (by kernel_rfl) (by kernel_rfl) (fun _ _ _ h => h) (Or.inl ⟨rfl, ?_⟩) hHeld ?_
  rotate_left
  · intro w' hS; obtain ⟨s0, s1, s2, s3, s4⟩ := hS; go_simp <;> with_reducible rfl
  simp only [Act.put, List.getElem_toArray, List.getElem_cons_succ, List.getElem_cons_zero, List.setIfInBounds_toArray, List.set_cons_succ, List.set_cons_zero]
  refine wpAnyH_take (i := 1) (v := ?_) rfl (by kernel_rfl) (by kernel_rfl) (by kernel_rfl) (fun _ _ _ h => h) (Or.inl ⟨rfl, ?_⟩) hHeld ?_
  rotate_left
  · intro w' hS; obtain ⟨s0, s1, s2, s3, s4⟩ := hS; go_simp <;> with_reducible rfl
  simp only [Act.put, List.getElem_toArray, List.getElem_cons_succ, List.getElem_cons_zero, List.setIfInBounds_toArray, List.set_cons_succ, List.set_cons_zero]
  refine wpAnyH_take (i := 3) (v := ?_) rfl (by kernel_rfl) (by kernel_rfl) (by kernel_rfl) (fun _ _ _ h => h) (Or.inl ⟨rfl, ?_⟩) hHeld ?_
  rotate_left
  · intro w' hS; obtain ⟨s0, s1, s2, s3, s4⟩ := hS; go_simp <;> with_reducible rfl
  simp only [Act.put, List.getElem_toArray, List.getElem_cons_succ, List.getElem_cons_zero, List.setIfInBounds_toArray, List.set_cons_succ, List.set_cons_zero]
  refine wpAnyH_take (i := 4) (v := ?_) rfl (by kernel_rfl) (by kernel_rfl) (by kernel_rfl) (fun _ _ _ h => h) (Or.inl ⟨rfl, ?_⟩) hHeld ?_
  rotate_left
  · intro w' hS; obtain ⟨s0, s1, s2, s3, s4⟩ := hS; go_simp <;> with_reducible rfl
  simp only [Act.put, List.getElem_toArray, List.getElem_cons_succ, List.getElem_cons_zero, List.setIfInBounds_toArray, List.set_cons_succ, List.set_cons_zero]
  refine wpAnyH_take (i := 6) (v := ?_) rfl (by kernel_rfl) (by kernel_rfl) (by kernel_rfl) (fun _ _ _ h => h) (Or.inl ⟨rfl, ?_⟩) hHeld ?_
  rotate_left
  · intro w' hS; obtain ⟨s0, s1, s2, s3, s4⟩ := hS; go_simp <;> with_reducible rfl
  simp only [Act.put, List.getElem_toArray, List.getElem_cons_succ, List.getElem_cons_zero, List.setIfInBounds_toArray, List.set_cons_succ, List.set_cons_zero]
  refine wpAnyH_ready (rs := [2, 7]) (by kernel_rfl) (by simp) (AllReadyH.cons rfl (fun K hK => ?_) (AllReadyH.cons rfl (fun K hK => ?_) AllReadyH.nil))
  · go_simp
    have HRW2 := Lib.hid hr.lt
    have HBB2 := Lib.hid ht.size
    have hsz2 : w1.heap.size ≤ w0.heap.size := ht.size
    have hE : (World.alloc w0 (.cells #[] 87)).ownsRow w1.heap.size 87 3 (.slice (some ⟨w0.heap.size, 0, none⟩) 0 0) 0 [] := ⟨rfl, .inr ⟨w0.heap.size, 0, #[], rfl, hsz2, Whole.fresh w0 87 #[], Nat.le_refl _, Nat.zero_le _, rfl, rfl⟩⟩
    replace hq := hq.alloc (.cells #[] 87)
    replace hk := hk.alloc (.cells #[] 87)
    replace hr := hr.alloc (.cells #[] 87)
    replace ht := ht.alloc ht.size (.cells #[] 87)
    have hgr2 : w0.heap.size < (World.alloc w0 (.cells #[] 87)).heap.size := by rw [World.size_alloc]; omega
    generalize World.alloc w0 (.cells #[] 87) = wze at hq hk hr hE ht hgr2 ⊢
    refine hK.out _ _ (add5_of hq hk) (fun hHeld => ?_)
    clear hK K
    try simp only [Act.put, List.getElem_toArray, List.getElem_cons_succ, List.getElem_cons_zero, List.setIfInBounds_toArray, List.set_cons_succ, List.set_cons_zero]
    refine wpAnyH_ready (rs := [5, 7]) (by kernel_rfl) (by simp) (AllReadyH.cons rfl (fun K hK => ?_) (AllReadyH.cons rfl (fun K hK => ?_) AllReadyH.nil))
    · have hbs5 : w1.heap.size ≤ wze.heap.size := ht.size
      have HNW5 : Hid (∀ j u, (clsC cs)[j]? = some u → wze.cell? ((⟨b, o, none⟩ : Addr).add j) = some u) := fun j u hu => by rw [Addr.add_lit]; exact (ht.cell (p := ⟨b, o + j, none⟩) (HCL.out j u hu).1).trans (HCL.out j u hu).2
      refine step_append_mine rfl (.tmp 25) (.tmp 27) 81 rfl w1.heap.size 87 i0 (.agg #[.int .i64 0, .int .i64 0, .int .i64 0]) 3 24 Try.underlying81 HI.out HZ0.out HZ1.out HZ2.out rfl (by decide) (.slice (some ⟨w0.heap.size, 0, none⟩) 0 0) 0 ([]) (by simp [Act.eval]) (by exact hE) ⟨b, o, none⟩ n c (clsC cs) (by simp [Act.eval]) HLO.out HNW5.out HON.out HM5.out HY5.out hbs5 ?_
      intro v5 wzea hown5 hg
      simp only [Nat.zero_add, List.nil_append] at hown5
      obtain ⟨A5, q5, rfl⟩ := own_shapeC hown5
      have hrow5 : ∀ y, ((.slice (some ⟨w0.heap.size, 0, none⟩) 0 0) : Value).ownBlock = some y → w1.heap.size ≤ y := fun y hy => (hE.lt y hy).1
      replace hq := whole_apartA hq hg (fun e => absurd (hrow5 _ e.symm) (by omega))
      replace hk := whole_apartA hk hg (fun e => absurd (hrow5 _ e.symm) (by omega))
      replace hr := whole_apartA hr hg (fun e => absurd (hrow5 _ e.symm) (by omega))
      replace ht := ht.grown hg ht.size (fun y hy => hrow5 y hy)
      clear hg hrow5 hE
      have hown := hown5
      clear hown5
      refine hK.out _ _ (add5_of hq hk) (fun hHeld => ?_)
      clear hK K
      try simp only [Act.put, List.getElem_toArray, List.getElem_cons_succ, List.getElem_cons_zero, List.setIfInBounds_toArray, List.set_cons_succ, List.set_cons_zero]
      refine wpAnyH_ready (rs := [7]) (by kernel_rfl) (by simp) (AllReadyH.cons rfl (fun K hK => ?_) AllReadyH.nil)
      go_simp
      have HRW7 := Lib.hid hr.lt
      have HBB7 := Lib.hid ht.size
      have hsz7 : w1.heap.size ≤ wzea.heap.size := ht.size
      have hN := Whole.fresh wzea 87 #[.int .i64 x1, .int .i64 x2, .int .i64 x3]
      replace hq := hq.alloc (.cells #[.int .i64 x1, .int .i64 x2, .int .i64 x3] 87)
      replace hk := hk.alloc (.cells #[.int .i64 x1, .int .i64 x2, .int .i64 x3] 87)
      replace hr := hr.alloc (.cells #[.int .i64 x1, .int .i64 x2, .int .i64 x3] 87)
      replace hown := hown.alloc (.cells #[.int .i64 x1, .int .i64 x2, .int .i64 x3] 87)
      replace ht := ht.alloc ht.size (.cells #[.int .i64 x1, .int .i64 x2, .int .i64 x3] 87)
      have hgr7 : wzea.heap.size < (World.alloc wzea (.cells #[.int .i64 x1, .int .i64 x2, .int .i64 x3] 87)).heap.size := by rw [World.size_alloc]; omega
      generalize World.alloc wzea (.cells #[.int .i64 x1, .int .i64 x2, .int .i64 x3] 87) = wzean at hq hk hr hown hN ht hgr7 ⊢
      refine hK.out _ _ (add5_of hq hk) (fun hHeld => ?_)
      clear hK K
      try simp only [Act.put, List.getElem_toArray, List.getElem_cons_succ, List.getElem_cons_zero, List.setIfInBounds_toArray, List.set_cons_succ, List.set_cons_zero]
      refine wpAnyH_ready (rs := [8]) (by kernel_rfl) (by simp) (AllReadyH.cons rfl (fun K hK => ?_) AllReadyH.nil)
      have hbs8 : w1.heap.size ≤ wzean.heap.size := ht.size
      have HNW8 : Hid (∀ j u, ([.int .i64 x1, .int .i64 x2, .int .i64 x3])[j]? = some u → wzean.cell? ((⟨wzea.heap.size, 0, none⟩ : Addr).add j) = some u) := fun j u hu => by rw [Addr.add_lit, Nat.zero_add]; exact (hN.cell j).trans (by simpa using hu)
      refine step_append_mine rfl (.tmp 28) (.tmp 30) 81 rfl w1.heap.size 87 i0 (.agg #[.int .i64 0, .int .i64 0, .int .i64 0]) 3 24 Try.underlying81 HI.out HZ0.out HZ1.out HZ2.out rfl (by decide) (.slice A5 n q5) n (clsC cs) (by simp [Act.eval]) (by exact hown) ⟨wzea.heap.size, 0, none⟩ 1 1 ([.int .i64 x1, .int .i64 x2, .int .i64 x3]) (by simp [Act.eval]) rfl HNW8.out (by simp [Value.oneCell']) HM8.out HY8.out hbs8 ?_
      intro v8 wzeanb hown8 hg
      obtain ⟨A8, q8, rfl⟩ := own_shapeC hown8
      have hrow8 : ∀ y, ((.slice A5 n q5) : Value).ownBlock = some y → w1.heap.size ≤ y := fun y hy => (hown.lt y hy).1
      clear hN
      replace hq := whole_apartA hq hg (fun e => absurd (hrow8 _ e.symm) (by omega))
      replace hk := whole_apartA hk hg (fun e => absurd (hrow8 _ e.symm) (by omega))
      replace hr := whole_apartA hr hg (fun e => absurd (hrow8 _ e.symm) (by omega))
      replace ht := ht.grown hg ht.size (fun y hy => hrow8 y hy)
      clear hg hrow8 hown
      refine hK.out _ _ (add5_of hq hk) (fun hHeld => ?_)
      clear hK K
      try simp only [Act.put, List.getElem_toArray, List.getElem_cons_succ, List.getElem_cons_zero, List.setIfInBounds_toArray, List.set_cons_succ, List.set_cons_zero]
      refine wpAnyH_take (i := 9) (v := ?_) rfl (by kernel_rfl) (by kernel_rfl) (by kernel_rfl) (fun _ _ _ h => h) (Or.inl ⟨rfl, ?_⟩) hHeld ?_
      rotate_left
      · intro w' hS; obtain ⟨s0, s1, s2, s3, s4⟩ := hS; go_simp <;> with_reducible rfl
      simp only [Act.put, List.getElem_toArray, List.getElem_cons_succ, List.getElem_cons_zero, List.setIfInBounds_toArray, List.set_cons_succ, List.set_cons_zero]
      refine wpAnyH_ready (rs := [10]) (by kernel_rfl) (by simp) (AllReadyH.cons rfl (fun K hK => ?_) AllReadyH.nil)
      refine wp_store_row 83 (.tmp 4) (.tmp 32) rfl (w.heap.size + 1 + 1) #[.int .i64 p, .slice A8 (n + 1) q8] rfl rfl 83 #[.int .i64 0, .slice none 0 0] hr size_puzzle rfl (by simp [Value.oneCell']) ?_
      have o9 := only_setRow wzeanb (w.heap.size + 1 + 1) #[.int .i64 p, .slice A8 (n + 1) q8]
      have x9 := whole_setRow #[.int .i64 p, .slice A8 (n + 1) q8] hr
      have f9 := own_onlyA hown8 o9 hr (by decide)
      have q9 := o9.whole hq (by omega)
      have k9 := o9.whole hk (by omega)
      have t9 := o9.below (below_then HT.out ht HT.out.size) (by omega)
      generalize World.setRow wzeanb (w.heap.size + 1 + 1) #[.int .i64 p, .slice A8 (n + 1) q8] = w9 at o9 x9 f9 q9 k9 t9 ⊢
      refine hK.out _ _ (add5_of q9 k9) (fun hHeld => ?_)
      clear hK K
      try simp only [Act.put, List.getElem_toArray, List.getElem_cons_succ, List.getElem_cons_zero, List.setIfInBounds_toArray, List.set_cons_succ, List.set_cons_zero]
      refine wpAnyH_take (i := 11) (v := ?_) rfl (by kernel_rfl) (by kernel_rfl) (by kernel_rfl) (fun _ _ _ h => h) (Or.inl ⟨rfl, ?_⟩) hHeld ?_
      rotate_left
      · intro w' hS; obtain ⟨s0, s1, s2, s3, s4⟩ := hS; go_simp <;> with_reducible rfl
      simp only [Act.put, List.getElem_toArray, List.getElem_cons_succ, List.getElem_cons_zero, List.setIfInBounds_toArray, List.set_cons_succ, List.set_cons_zero]
      refine wpAnyH_done (by kernel_rfl) ?_ _
      clear hHeld
      obtain ⟨r0, r1⟩ := x9.cells2
      have F9 := Lib.hid (own_freshK (own_lowerA f9 (show w.heap.size ≤ w1.heap.size by omega)))
      have T9 := Lib.hid t9
      clear f9 t9 o9 q9 k9
      go_wp2
      refine bodyPost_ret (v := .tuple #[.agg #[.int .i64 p, .slice A8 (n + 1) q8], .bool true]) (by simp [results, Try.results55, go_sem, r0, r1]) rfl ⟨A8, q8, by rw [HXL.out], by have h := F9.out; rw [HAP.out] at h; exact h, T9.out⟩
    · go_simp
      have HRW7 := Lib.hid hr.lt
      have HBB7 := Lib.hid ht.size
      have hsz7 : w1.heap.size ≤ wze.heap.size := ht.size
      have hN := Whole.fresh wze 87 #[.int .i64 x1, .int .i64 x2, .int .i64 x3]
      replace hq := hq.alloc (.cells #[.int .i64 x1, .int .i64 x2, .int .i64 x3] 87)
      replace hk := hk.alloc (.cells #[.int .i64 x1, .int .i64 x2, .int .i64 x3] 87)
      replace hr := hr.alloc (.cells #[.int .i64 x1, .int .i64 x2, .int .i64 x3] 87)
      replace hE := hE.alloc (.cells #[.int .i64 x1, .int .i64 x2, .int .i64 x3] 87)
      replace ht := ht.alloc ht.size (.cells #[.int .i64 x1, .int .i64 x2, .int .i64 x3] 87)
      have hgr7 : wze.heap.size < (World.alloc wze (.cells #[.int .i64 x1, .int .i64 x2, .int .i64 x3] 87)).heap.size := by rw [World.size_alloc]; omega
      generalize World.alloc wze (.cells #[.int .i64 x1, .int .i64 x2, .int .i64 x3] 87) = wzen at hq hk hr hE hN ht hgr7 ⊢
      refine hK.out _ _ (add5_of hq hk) (fun hHeld => ?_)
      clear hK K
      try simp only [Act.put, List.getElem_toArray, List.getElem_cons_succ, List.getElem_cons_zero, List.setIfInBounds_toArray, List.set_cons_succ, List.set_cons_zero]
      refine wpAnyH_ready (rs := [5]) (by kernel_rfl) (by simp) (AllReadyH.cons rfl (fun K hK => ?_) AllReadyH.nil)
      have hbs5 : w1.heap.size ≤ wzen.heap.size := ht.size
      have HNW5 : Hid (∀ j u, (clsC cs)[j]? = some u → wzen.cell? ((⟨b, o, none⟩ : Addr).add j) = some u) := fun j u hu => by rw [Addr.add_lit]; exact (ht.cell (p := ⟨b, o + j, none⟩) (HCL.out j u hu).1).trans (HCL.out j u hu).2
      refine step_append_mine rfl (.tmp 25) (.tmp 27) 81 rfl w1.heap.size 87 i0 (.agg #[.int .i64 0, .int .i64 0, .int .i64 0]) 3 24 Try.underlying81 HI.out HZ0.out HZ1.out HZ2.out rfl (by decide) (.slice (some ⟨w0.heap.size, 0, none⟩) 0 0) 0 ([]) (by simp [Act.eval]) (by exact hE) ⟨b, o, none⟩ n c (clsC cs) (by simp [Act.eval]) HLO.out HNW5.out HON.out HM5.out HY5.out hbs5 ?_
      intro v5 wzena hown5 hg
      simp only [Nat.zero_add, List.nil_append] at hown5
      obtain ⟨A5, q5, rfl⟩ := own_shapeC hown5
      have hrow5 : ∀ y, ((.slice (some ⟨w0.heap.size, 0, none⟩) 0 0) : Value).ownBlock = some y → w1.heap.size ≤ y := fun y hy => (hE.lt y hy).1
      replace hN := whole_apartA hN hg (fun e => by simp [Value.ownBlock] at e; omega)
      replace hq := whole_apartA hq hg (fun e => absurd (hrow5 _ e.symm) (by omega))
      replace hk := whole_apartA hk hg (fun e => absurd (hrow5 _ e.symm) (by omega))
      replace hr := whole_apartA hr hg (fun e => absurd (hrow5 _ e.symm) (by omega))
      replace ht := ht.grown hg ht.size (fun y hy => hrow5 y hy)
      clear hg hrow5 hE
      have hown := hown5
      clear hown5
      refine hK.out _ _ (add5_of hq hk) (fun hHeld => ?_)
      clear hK K
      try simp only [Act.put, List.getElem_toArray, List.getElem_cons_succ, List.getElem_cons_zero, List.setIfInBounds_toArray, List.set_cons_succ, List.set_cons_zero]
      refine wpAnyH_ready (rs := [8]) (by kernel_rfl) (by simp) (AllReadyH.cons rfl (fun K hK => ?_) AllReadyH.nil)
      have hbs8 : w1.heap.size ≤ wzena.heap.size := ht.size
      have HNW8 : Hid (∀ j u, ([.int .i64 x1, .int .i64 x2, .int .i64 x3])[j]? = some u → wzena.cell? ((⟨wze.heap.size, 0, none⟩ : Addr).add j) = some u) := fun j u hu => by rw [Addr.add_lit, Nat.zero_add]; exact (hN.cell j).trans (by simpa using hu)
      refine step_append_mine rfl (.tmp 28) (.tmp 30) 81 rfl w1.heap.size 87 i0 (.agg #[.int .i64 0, .int .i64 0, .int .i64 0]) 3 24 Try.underlying81 HI.out HZ0.out HZ1.out HZ2.out rfl (by decide) (.slice A5 n q5) n (clsC cs) (by simp [Act.eval]) (by exact hown) ⟨wze.heap.size, 0, none⟩ 1 1 ([.int .i64 x1, .int .i64 x2, .int .i64 x3]) (by simp [Act.eval]) rfl HNW8.out (by simp [Value.oneCell']) HM8.out HY8.out hbs8 ?_
      intro v8 wzenab hown8 hg
      obtain ⟨A8, q8, rfl⟩ := own_shapeC hown8
      have hrow8 : ∀ y, ((.slice A5 n q5) : Value).ownBlock = some y → w1.heap.size ≤ y := fun y hy => (hown.lt y hy).1
      clear hN
      replace hq := whole_apartA hq hg (fun e => absurd (hrow8 _ e.symm) (by omega))
      replace hk := whole_apartA hk hg (fun e => absurd (hrow8 _ e.symm) (by omega))
      replace hr := whole_apartA hr hg (fun e => absurd (hrow8 _ e.symm) (by omega))
      replace ht := ht.grown hg ht.size (fun y hy => hrow8 y hy)
      clear hg hrow8 hown
      refine hK.out _ _ (add5_of hq hk) (fun hHeld => ?_)
      clear hK K
      try simp only [Act.put, List.getElem_toArray, List.getElem_cons_succ, List.getElem_cons_zero, List.setIfInBounds_toArray, List.set_cons_succ, List.set_cons_zero]
      refine wpAnyH_take (i := 9) (v := ?_) rfl (by kernel_rfl) (by kernel_rfl) (by kernel_rfl) (fun _ _ _ h => h) (Or.inl ⟨rfl, ?_⟩) hHeld ?_
      rotate_left
      · intro w' hS; obtain ⟨s0, s1, s2, s3, s4⟩ := hS; go_simp <;> with_reducible rfl
      simp only [Act.put, List.getElem_toArray, List.getElem_cons_succ, List.getElem_cons_zero, List.setIfInBounds_toArray, List.set_cons_succ, List.set_cons_zero]
      refine wpAnyH_ready (rs := [10]) (by kernel_rfl) (by simp) (AllReadyH.cons rfl (fun K hK => ?_) AllReadyH.nil)
      refine wp_store_row 83 (.tmp 4) (.tmp 32) rfl (w.heap.size + 1 + 1) #[.int .i64 p, .slice A8 (n + 1) q8] rfl rfl 83 #[.int .i64 0, .slice none 0 0] hr size_puzzle rfl (by simp [Value.oneCell']) ?_
      have o9 := only_setRow wzenab (w.heap.size + 1 + 1) #[.int .i64 p, .slice A8 (n + 1) q8]
      have x9 := whole_setRow #[.int .i64 p, .slice A8 (n + 1) q8] hr
      have f9 := own_onlyA hown8 o9 hr (by decide)
      have q9 := o9.whole hq (by omega)
      have k9 := o9.whole hk (by omega)
      have t9 := o9.below (below_then HT.out ht HT.out.size) (by omega)
      generalize World.setRow wzenab (w.heap.size + 1 + 1) #[.int .i64 p, .slice A8 (n + 1) q8] = w9 at o9 x9 f9 q9 k9 t9 ⊢
      refine hK.out _ _ (add5_of q9 k9) (fun hHeld => ?_)
      clear hK K
      try simp only [Act.put, List.getElem_toArray, List.getElem_cons_succ, List.getElem_cons_zero, List.setIfInBounds_toArray, List.set_cons_succ, List.set_cons_zero]
      refine wpAnyH_take (i := 11) (v := ?_) rfl (by kernel_rfl) (by kernel_rfl) (by kernel_rfl) (fun _ _ _ h => h) (Or.inl ⟨rfl, ?_⟩) hHeld ?_
      rotate_left
      · intro w' hS; obtain ⟨s0, s1, s2, s3, s4⟩ := hS; go_simp <;> with_reducible rfl
      simp only [Act.put, List.getElem_toArray, List.getElem_cons_succ, List.getElem_cons_zero, List.setIfInBounds_toArray, List.set_cons_succ, List.set_cons_zero]
      refine wpAnyH_done (by kernel_rfl) ?_ _
      clear hHeld
      obtain ⟨r0, r1⟩ := x9.cells2
      have F9 := Lib.hid (own_freshK (own_lowerA f9 (show w.heap.size ≤ w1.heap.size by omega)))
      have T9 := Lib.hid t9
      clear f9 t9 o9 q9 k9
      go_wp2
      refine bodyPost_ret (v := .tuple #[.agg #[.int .i64 p, .slice A8 (n + 1) q8], .bool true]) (by simp [results, Try.results55, go_sem, r0, r1]) rfl ⟨A8, q8, by rw [HXL.out], by have h := F9.out; rw [HAP.out] at h; exact h, T9.out⟩
  · go_simp
    have HRW7 := Lib.hid hr.lt
    have HBB7 := Lib.hid ht.size
    have hsz7 : w1.heap.size ≤ w0.heap.size := ht.size
    have hN := Whole.fresh w0 87 #[.int .i64 x1, .int .i64 x2, .int .i64 x3]
    replace hq := hq.alloc (.cells #[.int .i64 x1, .int .i64 x2, .int .i64 x3] 87)
    replace hk := hk.alloc (.cells #[.int .i64 x1, .int .i64 x2, .int .i64 x3] 87)
    replace hr := hr.alloc (.cells #[.int .i64 x1, .int .i64 x2, .int .i64 x3] 87)
    replace ht := ht.alloc ht.size (.cells #[.int .i64 x1, .int .i64 x2, .int .i64 x3] 87)
    have hgr7 : w0.heap.size < (World.alloc w0 (.cells #[.int .i64 x1, .int .i64 x2, .int .i64 x3] 87)).heap.size := by rw [World.size_alloc]; omega
    generalize World.alloc w0 (.cells #[.int .i64 x1, .int .i64 x2, .int .i64 x3] 87) = wzn at hq hk hr hN ht hgr7 ⊢
    refine hK.out _ _ (add5_of hq hk) (fun hHeld => ?_)
    clear hK K
    try simp only [Act.put, List.getElem_toArray, List.getElem_cons_succ, List.getElem_cons_zero, List.setIfInBounds_toArray, List.set_cons_succ, List.set_cons_zero]
    refine wpAnyH_ready (rs := [2]) (by kernel_rfl) (by simp) (AllReadyH.cons rfl (fun K hK => ?_) AllReadyH.nil)
    go_simp
    have HRW2 := Lib.hid hr.lt
    have HBB2 := Lib.hid ht.size
    have hsz2 : w1.heap.size ≤ wzn.heap.size := ht.size
    have hE : (World.alloc wzn (.cells #[] 87)).ownsRow w1.heap.size 87 3 (.slice (some ⟨wzn.heap.size, 0, none⟩) 0 0) 0 [] := ⟨rfl, .inr ⟨wzn.heap.size, 0, #[], rfl, hsz2, Whole.fresh wzn 87 #[], Nat.le_refl _, Nat.zero_le _, rfl, rfl⟩⟩
    replace hq := hq.alloc (.cells #[] 87)
    replace hk := hk.alloc (.cells #[] 87)
    replace hr := hr.alloc (.cells #[] 87)
    replace hN := hN.alloc (.cells #[] 87)
    replace ht := ht.alloc ht.size (.cells #[] 87)
    have hgr2 : wzn.heap.size < (World.alloc wzn (.cells #[] 87)).heap.size := by rw [World.size_alloc]; omega
    generalize World.alloc wzn (.cells #[] 87) = wzne at hq hk hr hN hE ht hgr2 ⊢
    refine hK.out _ _ (add5_of hq hk) (fun hHeld => ?_)
    clear hK K
    try simp only [Act.put, List.getElem_toArray, List.getElem_cons_succ, List.getElem_cons_zero, List.setIfInBounds_toArray, List.set_cons_succ, List.set_cons_zero]
    refine wpAnyH_ready (rs := [5]) (by kernel_rfl) (by simp) (AllReadyH.cons rfl (fun K hK => ?_) AllReadyH.nil)
    have hbs5 : w1.heap.size ≤ wzne.heap.size := ht.size
    have HNW5 : Hid (∀ j u, (clsC cs)[j]? = some u → wzne.cell? ((⟨b, o, none⟩ : Addr).add j) = some u) := fun j u hu => by rw [Addr.add_lit]; exact (ht.cell (p := ⟨b, o + j, none⟩) (HCL.out j u hu).1).trans (HCL.out j u hu).2
    refine step_append_mine rfl (.tmp 25) (.tmp 27) 81 rfl w1.heap.size 87 i0 (.agg #[.int .i64 0, .int .i64 0, .int .i64 0]) 3 24 Try.underlying81 HI.out HZ0.out HZ1.out HZ2.out rfl (by decide) (.slice (some ⟨wzn.heap.size, 0, none⟩) 0 0) 0 ([]) (by simp [Act.eval]) (by exact hE) ⟨b, o, none⟩ n c (clsC cs) (by simp [Act.eval]) HLO.out HNW5.out HON.out HM5.out HY5.out hbs5 ?_
    intro v5 wznea hown5 hg
    simp only [Nat.zero_add, List.nil_append] at hown5
    obtain ⟨A5, q5, rfl⟩ := own_shapeC hown5
    have hrow5 : ∀ y, ((.slice (some ⟨wzn.heap.size, 0, none⟩) 0 0) : Value).ownBlock = some y → w1.heap.size ≤ y := fun y hy => (hE.lt y hy).1
    replace hN := whole_apartA hN hg (fun e => by simp [Value.ownBlock] at e; omega)
    replace hq := whole_apartA hq hg (fun e => absurd (hrow5 _ e.symm) (by omega))
    replace hk := whole_apartA hk hg (fun e => absurd (hrow5 _ e.symm) (by omega))
    replace hr := whole_apartA hr hg (fun e => absurd (hrow5 _ e.symm) (by omega))
    replace ht := ht.grown hg ht.size (fun y hy => hrow5 y hy)
    clear hg hrow5 hE
    have hown := hown5
    clear hown5
    refine hK.out _ _ (add5_of hq hk) (fun hHeld => ?_)
    clear hK K
    try simp only [Act.put, List.getElem_toArray, List.getElem_cons_succ, List.getElem_cons_zero, List.setIfInBounds_toArray, List.set_cons_succ, List.set_cons_zero]
    refine wpAnyH_ready (rs := [8]) (by kernel_rfl) (by simp) (AllReadyH.cons rfl (fun K hK => ?_) AllReadyH.nil)
    have hbs8 : w1.heap.size ≤ wznea.heap.size := ht.size
    have HNW8 : Hid (∀ j u, ([.int .i64 x1, .int .i64 x2, .int .i64 x3])[j]? = some u → wznea.cell? ((⟨w0.heap.size, 0, none⟩ : Addr).add j) = some u) := fun j u hu => by rw [Addr.add_lit, Nat.zero_add]; exact (hN.cell j).trans (by simpa using hu)
    refine step_append_mine rfl (.tmp 28) (.tmp 30) 81 rfl w1.heap.size 87 i0 (.agg #[.int .i64 0, .int .i64 0, .int .i64 0]) 3 24 Try.underlying81 HI.out HZ0.out HZ1.out HZ2.out rfl (by decide) (.slice A5 n q5) n (clsC cs) (by simp [Act.eval]) (by exact hown) ⟨w0.heap.size, 0, none⟩ 1 1 ([.int .i64 x1, .int .i64 x2, .int .i64 x3]) (by simp [Act.eval]) rfl HNW8.out (by simp [Value.oneCell']) HM8.out HY8.out hbs8 ?_
    intro v8 wzneab hown8 hg
    obtain ⟨A8, q8, rfl⟩ := own_shapeC hown8
    have hrow8 : ∀ y, ((.slice A5 n q5) : Value).ownBlock = some y → w1.heap.size ≤ y := fun y hy => (hown.lt y hy).1
    clear hN
    replace hq := whole_apartA hq hg (fun e => absurd (hrow8 _ e.symm) (by omega))
    replace hk := whole_apartA hk hg (fun e => absurd (hrow8 _ e.symm) (by omega))
    replace hr := whole_apartA hr hg (fun e => absurd (hrow8 _ e.symm) (by omega))
    replace ht := ht.grown hg ht.size (fun y hy => hrow8 y hy)
    clear hg hrow8 hown
    refine hK.out _ _ (add5_of hq hk) (fun hHeld => ?_)
    clear hK K
    try simp only [Act.put, List.getElem_toArray, List.getElem_cons_succ, List.getElem_cons_zero, List.setIfInBounds_toArray, List.set_cons_succ, List.set_cons_zero]
    refine wpAnyH_take (i := 9) (v := ?_) rfl (by kernel_rfl) (by kernel_rfl) (by kernel_rfl) (fun _ _ _ h => h) (Or.inl ⟨rfl, ?_⟩) hHeld ?_
    rotate_left
    · intro w' hS; obtain ⟨s0, s1, s2, s3, s4⟩ := hS; go_simp <;> with_reducible rfl
    simp only [Act.put, List.getElem_toArray, List.getElem_cons_succ, List.getElem_cons_zero, List.setIfInBounds_toArray, List.set_cons_succ, List.set_cons_zero]
    refine wpAnyH_ready (rs := [10]) (by kernel_rfl) (by simp) (AllReadyH.cons rfl (fun K hK => ?_) AllReadyH.nil)
    refine wp_store_row 83 (.tmp 4) (.tmp 32) rfl (w.heap.size + 1 + 1) #[.int .i64 p, .slice A8 (n + 1) q8] rfl rfl 83 #[.int .i64 0, .slice none 0 0] hr size_puzzle rfl (by simp [Value.oneCell']) ?_
    have o9 := only_setRow wzneab (w.heap.size + 1 + 1) #[.int .i64 p, .slice A8 (n + 1) q8]
    have x9 := whole_setRow #[.int .i64 p, .slice A8 (n + 1) q8] hr
    have f9 := own_onlyA hown8 o9 hr (by decide)
    have q9 := o9.whole hq (by omega)
    have k9 := o9.whole hk (by omega)
    have t9 := o9.below (below_then HT.out ht HT.out.size) (by omega)
    generalize World.setRow wzneab (w.heap.size + 1 + 1) #[.int .i64 p, .slice A8 (n + 1) q8] = w9 at o9 x9 f9 q9 k9 t9 ⊢
    refine hK.out _ _ (add5_of q9 k9) (fun hHeld => ?_)
    clear hK K
    try simp only [Act.put, List.getElem_toArray, List.getElem_cons_succ, List.getElem_cons_zero, List.setIfInBounds_toArray, List.set_cons_succ, List.set_cons_zero]
    refine wpAnyH_take (i := 11) (v := ?_) rfl (by kernel_rfl) (by kernel_rfl) (by kernel_rfl) (fun _ _ _ h => h) (Or.inl ⟨rfl, ?_⟩) hHeld ?_
    rotate_left
    · intro w' hS; obtain ⟨s0, s1, s2, s3, s4⟩ := hS; go_simp <;> with_reducible rfl
    simp only [Act.put, List.getElem_toArray, List.getElem_cons_succ, List.getElem_cons_zero, List.setIfInBounds_toArray, List.set_cons_succ, List.set_cons_zero]
    refine wpAnyH_done (by kernel_rfl) ?_ _
    clear hHeld
    obtain ⟨r0, r1⟩ := x9.cells2
    have F9 := Lib.hid (own_freshK (own_lowerA f9 (show w.heap.size ≤ w1.heap.size by omega)))
    have T9 := Lib.hid t9
    clear f9 t9 o9 q9 k9
    go_wp2
    refine bodyPost_ret (v := .tuple #[.agg #[.int .i64 p, .slice A8 (n + 1) q8], .bool true]) (by simp [results, Try.results55, go_sem, r0, r1]) rfl ⟨A8, q8, by rw [HXL.out], by have h := F9.out; rw [HAP.out] at h; exact h, T9.out⟩
theorem specAddK_any (p : Int) (b o n c : Nat) (cs : List Cl) (x1 x2 x3 : Int) (w : World) (hA : Holds w (some ⟨b, o, none⟩) (clsC cs)) (hx : cs.length = n) (hn : n ≤ 1048576) :
    Calls Try.prog 55 #[.agg #[.int .i64 p, .slice (some ⟨b, o, none⟩) n c], .agg #[.int .i64 x1, .int .i64 x2, .int .i64 x3]] w (PuzPost (adP p cs (x1, x2, x3)) (adL p cs (x1, x2, x3)) (adOk p cs (x1, x2, x3)) w) := by
  cases hok : adOk p cs (x1, x2, x3)
  · rw [← hok]
    exact specAddK_no p _ n c cs x1 x2 x3 w hA hx hn hok
  · obtain ⟨hp, hk, h6⟩ := adOk_iff.1 hok
    obtain ⟨e1, e2⟩ := ad_yes hok
    rw [e1, e2]
    exact specAddK_on p b o n c cs x1 x2 x3 w hA hx hn hp hk (by omega)
end Go.Proofs.Ytkocompjjogciaa

namespace Go.Proofs.Ytkocompjjogciaa
open Go.RowKit

/-- slices.Clone of a list of clues, to which more can be appended. -/
def OwnOrK (xs : List Cl) (w : World) (e : Ending) (w' : World) : Prop :=
  ∃ (A : Option Addr) (c : Nat), e = .returned (.slice A xs.length c) ∧ w'.ownsRow w.heap.size 87 3 (.slice A xs.length c) xs.length (clsC xs) ∧ Below w.heap.size w w'

set_option maxHeartbeats 800000 in
set_option maxRecDepth 100000 in
theorem cloneK_any (A : Option Addr) (n d : Nat) (bs : List Cl) (w : World) (hB : Holds w A (clsC bs)) (hy : bs.length = n) (hn : n ≤ 1048576) (hnil : A = none → n = 0 ∧ d = 0) :
    Calls Try.prog 125 #[.slice A n d] w (OwnOrK bs w) := by
  subst hy
  cases A with
  | none =>
    obtain ⟨h0, rfl⟩ := hnil rfl
    obtain rfl := List.length_eq_zero_iff.1 h0
    clear h0
    go_enter Try.func125, Try.ntmps125
    have hnl := fun (W : World) => Lib.run_eql_slice_nil (P := Try.prog) W 81 87 none 0 0 0 0 Try.underlying81
    go_wp2
    go_ret
    exact ⟨none, 0, rfl, World.ownsRow_nil _ _ _ _, Below.refl _ _⟩
  | some ad =>
    obtain ⟨b, o, had⟩ : ∃ b o, (clsC bs = [] ∨ ad = ⟨b, o, none⟩) := by
      rcases hB with h | ⟨b, o, h, -, -⟩
      · exact ⟨0, 0, .inl h⟩
      · exact ⟨b, o, .inr (Option.some.inj h)⟩
    obtain ⟨i0, hi, hz0, hz1, hz2⟩ := info_parts info_clue
    have HI := Lib.hid hi
    have HZ0 := Lib.hid hz0
    have HZ1 := Lib.hid hz1
    have HZ2 := Lib.hid hz2
    have hnews : ∀ j u, (clsC bs)[j]? = some u → (w.alloc (.cells #[] 87)).cell? (ad.add j) = some u := fun j u hu => by
      rcases hB with h | ⟨b, o, h, hb, hcell⟩
      · rw [h] at hu; simp at hu
      · obtain rfl : ad = ⟨b, o, none⟩ := by simpa using h
        rw [show (⟨b, o, none⟩ : Addr).add j = ⟨b, o + j, none⟩ from by unfold Addr.add; split <;> simp_all, World.cell?_alloc_lt _ _ _ hb]
        exact hcell j u hu
    clear hi hz0 hz1 hz2 had hnil
    go_enter Try.func125, Try.ntmps125
    have hnl := fun (W : World) => Lib.run_eql_slice_nil (P := Try.prog) W 81 87 (some ad) bs.length d 0 0 Try.underlying81
    have HOWN := Lib.hid (World.ownsRow_made (base := w.heap.size) (e := 87) (size := 3) w #[] 0 (Nat.le_refl _) (by unfold maxLen; omega) rfl)
    have HNEWS := Lib.hid hnews
    have HLEN := Lib.hid (show (clsC bs).length = bs.length * 3 by rw [clsC_len])
    have HONE := Lib.hid (clsC_one bs)
    have HMAX := Lib.hid (show 0 + bs.length ≤ maxLen by unfold maxLen; omega)
    have HBYT := Lib.hid (show (0 + bs.length) * 24 ≤ 140737488355328 by omega)
    clear hnews
    go_wp2_with (at_builtin; refine wpList_append_own _ rfl (.tmp 5) (.tmp 6) 81 rfl w.heap.size 87 i0 (.agg #[.int .i64 0, .int .i64 0, .int .i64 0]) 3 24 Try.underlying81 HI.out HZ0.out HZ1.out HZ2.out rfl (by decide) _ 0 [] rfl HOWN.out ad bs.length d (clsC bs) rfl HLEN.out HNEWS.out HONE.out HMAX.out HBYT.out (by simp) ?_; intro v' w1 hown1 hg1 _)
    go_ret
    simp only [Nat.zero_add, List.nil_append] at hown1
    have hbe := (below1 w (.cells #[] 87)).grown hg1 (by simp) (fun k hk => Nat.le_of_eq (Option.some.inj (show some w.heap.size = some k from hk)))
    obtain ⟨A1, c1, rfl⟩ := own_shapeC hown1
    exact ⟨A1, c1, rfl, hown1, hbe⟩

end Go.Proofs.Ytkocompjjogciaa

namespace Go.Proofs.Ytkocompjjogciaa
open Go.RowKit

/-- The clues that are left: n turns at most, at the index k. -/
def hardN (p : Int) : Nat → List Cl → Nat → List Cl
  | 0, cs, _ => cs
  | n + 1, cs, k => if k < cs.length then (if decide ((solI p (woC cs k)).length = 1) then hardN p n (woC cs k) k else hardN p n cs (k + 1)) else cs
theorem hard_end {p : Int} {n k : Nat} {cs : List Cl} (h : ¬ k < cs.length) : hardN p n cs k = cs := by
  cases n with
  | zero => rfl
  | succ n => rw [hardN, if_neg h]
theorem hard_yes {p : Int} {n k : Nat} {cs : List Cl} (h : k < cs.length) (hs : decide ((solI p (woC cs k)).length = 1) = true) : hardN p (n + 1) cs k = hardN p n (woC cs k) k := by rw [hardN, if_pos h, if_pos hs]
theorem hard_no {p : Int} {n k : Nat} {cs : List Cl} (h : k < cs.length) (hs : decide ((solI p (woC cs k)).length = 1) = false) : hardN p (n + 1) cs k = hardN p n cs (k + 1) := by rw [hardN, if_pos h, if_neg (by rw [hs]; simp)]
theorem hard_len (p : Int) : ∀ (n : Nat) (cs : List Cl) (k : Nat), (hardN p n cs k).length ≤ cs.length
  | 0, cs, k => Nat.le_refl _
  | n + 1, cs, k => by
    rw [hardN]
    split
    · split
      · have := hard_len p n (woC cs k) k
        rename_i h _
        rw [woC_len h] at this
        omega
      · exact hard_len p n cs (k + 1)
    · exact Nat.le_refl _
def hdOk (p : Int) (cs : List Cl) : Bool := decide ((solsI p cs).length = 1)
def hdL (p : Int) (cs : List Cl) : List Cl := if hdOk p cs then hardN p (2 * cs.length) cs 0 else []
def hdP (p : Int) (cs : List Cl) : Int := if hdOk p cs then p else 0
theorem hd_no {p : Int} {cs : List Cl} (h : hdOk p cs = false) : hdP p cs = 0 ∧ hdL p cs = [] := by simp [hdP, hdL, h]
theorem hd_yes {p : Int} {cs : List Cl} (h : hdOk p cs = true) : hdP p cs = p ∧ hdL p cs = hardN p (2 * cs.length) cs 0 := by simp [hdP, hdL, h]
theorem hdOk_pz {p : Int} {cs : List Cl} (h : hdOk p cs = true) : pzOk p cs = true := by
  cases hp : pzOk p cs
  · rw [hdOk, solsI_no hp] at h; simp at h
  · rfl
theorem hdL_le {p : Int} {cs : List Cl} (h : cs.length ≤ 1048576) : (hdL p cs).length ≤ 1048576 := by
  cases hok : hdOk p cs
  · rw [(hd_no hok).2]; simp
  · rw [(hd_yes hok).2]
    have := hard_len p (2 * cs.length) cs 0
    omega
/-- Between two turns: the clues cs at the index k, at most gh turns to come. -/
structure HardSt (p : Int) (H : List Cl) (gh k : Nat) (cs : List Cl) : Prop where
  run : hardN p gh cs k = H
  room : 2 * cs.length ≤ gh + k
  le : k ≤ cs.length
  ok : pzOk p cs = true
theorem HardSt.less {p : Int} {H cs : List Cl} {gh k : Nat} (h : HardSt p H gh k cs) (hk : k < cs.length) : ∃ g, gh = g + 1 := ⟨gh - 1, by have := h.room; omega⟩
theorem HardSt.yes {p : Int} {H cs : List Cl} {g k : Nat} (h : HardSt p H (g + 1) k cs) (hk : k < cs.length) (hs : decide ((solI p (woC cs k)).length = 1) = true) : HardSt p H g k (woC cs k) := by
  have hl := woC_len hk
  exact ⟨by rw [← hard_yes hk hs]; exact h.run, by have := h.room; omega, by omega, pzOk_wo h.ok hk⟩
theorem HardSt.no {p : Int} {H cs : List Cl} {g k : Nat} (h : HardSt p H (g + 1) k cs) (hk : k < cs.length) (hs : decide ((solI p (woC cs k)).length = 1) = false) : HardSt p H g (k + 1) cs :=
  ⟨by rw [← hard_no hk hs]; exact h.run, by have := h.room; omega, hk, h.ok⟩
theorem HardSt.small {p : Int} {H cs : List Cl} {gh k : Nat} (h : HardSt p H gh k cs) : cs.length ≤ 6 := (pzOk_parts h.ok).2.2.1
theorem own_at {w : World} {base n q : Nat} {A : Option Addr} {cs : List Cl} (h : w.ownsRow base 87 3 (.slice A n q) n (clsC cs)) (hn : 0 < n) : ∃ g, A = some ⟨g, 0, none⟩ ∧ base ≤ g ∧ g < w.heap.size ∧ n ≤ q ∧ q ≤ 9223372036854775807 ∧ Holds w (some ⟨g, 0, none⟩) (clsC cs) := by
  have hf := own_freshK h
  obtain ⟨hl, ⟨-, h0⟩ | ⟨g, cap, cur, hv, hg, hh, hnc, hcm, r⟩⟩ := h
  · omega
  · cases hv
    have hw : Whole w g 87 cur := hh
    exact ⟨g, rfl, hg, hw.lt, hnc, by unfold maxLen at hcm; omega, hf.holds⟩

theorem own_belowH {w w' : World} {base : Nat} {e : TypeId} {size : Nat} {v : Value} {n : Nat} {xs : List Value} (h : w.ownsRow base e size v n xs) (hb : Below w.heap.size w w') : w'.ownsRow base e size v n xs := by
  obtain ⟨hl, h | ⟨g, cap, cur, hv, hg, hh, r⟩⟩ := h
  · exact ⟨hl, .inl h⟩
  · exact ⟨hl, .inr ⟨g, cap, cur, hv, hg, (hb.block g (Array.getElem?_eq_some_iff.1 hh).1).trans hh, r⟩⟩

set_option maxHeartbeats 3200000 in
set_option maxRecDepth 100000 in
theorem specHard_no (p : Int) (A : Option Addr) (n c : Nat) (cs : List Cl) (w : World) (hA : Holds w A (clsC cs)) (hx : cs.length = n) (hn : n ≤ 1048576) (hno : hdOk p cs = false) :
    Calls Try.prog 62 #[.agg #[.int .i64 p, .slice A n c]] w (PuzPost 0 [] false w) := by
  have HX := Lib.hid hx
  have hA2 := (hA.alloc (.cells #[.int .i64 p, .slice A n c] 83)).alloc (.cells #[.int .i64 0, .slice none 0 0] 83)
  have h0 := (Whole.fresh w 83 #[.int .i64 p, .slice A n c]).alloc (.cells #[.int .i64 0, .slice none 0 0] 83)
  have h1 := Whole.fresh (w.alloc (.cells #[.int .i64 p, .slice A n c] 83)) 83 #[.int .i64 0, .slice none 0 0]
  rw [World.size_alloc] at h1
  cases hp : pzOk p cs
  · have HP := Lib.hid hp
    clear hp hno hx
    go_enter Try.func62, Try.ntmps62
    go_wp2_with fail
    refine (pzGood_any p A n c cs _ hA2 HX.out (by omega)).mono ?_
    rintro e w1 ⟨rfl, hb⟩
    rw [HP.out]
    have ht := below_then (below2 w _ _) hb (by simp; omega)
    have hr := h1.below hb
    have hlr := hr.lt
    obtain ⟨r0, r1, f0, f1⟩ := hr.two
    clear h0 h1 hb hA2
    go_wp2
    refine bodyPost_ret (v := .tuple #[.agg #[.int .i64 0, .slice none 0 0], .bool false]) (by simp [results, Try.results62, go_sem, r0, r1]) rfl ⟨none, 0, rfl, .inl rfl, ?_⟩
    exact below_set (below_set ht (by omega)) (by omega)
  have HS : Hid (decide ((solI p cs).length = 1) = false) := by show _ = _; rw [← solsI_yes hp]; exact hno
  obtain ⟨q1, q4, q6, qa⟩ := pzOk_parts hp
  rw [hx] at q6
  have HQ := Lib.hid qa
  have HP := Lib.hid hp
  clear hp hno hx qa
  go_enter Try.func62, Try.ntmps62
  go_wp2_with fail
  refine (pzGood_any p A n c cs _ hA2 HX.out (by omega)).mono ?_
  rintro e w1 ⟨rfl, hb⟩
  rw [HP.out]
  have ht := below_then (below2 w _ _) hb (by simp; omega)
  have hq := h0.below hb
  obtain ⟨k0, k1⟩ := hq.cells2
  have hlq := hq.lt
  have hr := h1.below hb
  have hA3 := hA2.below hb
  clear h0 h1 hb hA2
  go_wp2_with fail
  refine (pzSolved_any p A n c cs w1 hA3 HX.out q6 HQ.out q1 q4).mono ?_
  rintro e w2 ⟨rfl, hb⟩
  rw [HS.out]
  replace ht := below_then ht hb ht.size
  have hr := hr.below hb
  have hlr := hr.lt
  obtain ⟨r0, r1, f0, f1⟩ := hr.two
  clear hb k0 k1 hlq hq hA3
  go_wp2
  refine bodyPost_ret (v := .tuple #[.agg #[.int .i64 0, .slice none 0 0], .bool false]) (by simp [results, Try.results62, go_sem, r0, r1]) rfl ⟨none, 0, rfl, .inl rfl, ?_⟩
  exact below_set (below_set ht (by omega)) (by omega)

theorem cls_lie {w : World} {b o : Nat} {cs : List Cl} (h : Holds w (some ⟨b, o, none⟩) (clsC cs)) : ∀ j u, (clsC cs)[j]? = some u → w.cell? ((⟨b, o, none⟩ : Addr).add j) = some u := fun j u hu => by
  rw [Addr.add_lit]
  rcases h with h | ⟨b9, o9, h9, -, hcell⟩
  · rw [h] at hu; simp at hu
  · cases h9; exact hcell j u hu

set_option maxHeartbeats 6400000 in
set_option maxRecDepth 100000 in
theorem specHard_on (p : Int) (b o n c : Nat) (cs : List Cl) (w : World) (hA : Holds w (some ⟨b, o, none⟩) (clsC cs)) (hx : cs.length = n) (hok : hdOk p cs = true) :
    Calls Try.prog 62 #[.agg #[.int .i64 p, .slice (some ⟨b, o, none⟩) n c]] w (PuzPost p (hardN p (2 * n) cs 0) true w) := by
  obtain ⟨i0, hi, hz0, hz1, hz2⟩ := info_parts info_clue
  have HI := Lib.hid hi
  have HZ0 := Lib.hid hz0
  have HZ1 := Lib.hid hz1
  have HZ2 := Lib.hid hz2
  have HX := Lib.hid hx
  have hp := hdOk_pz hok
  have hA2 := (hA.alloc (.cells #[.int .i64 p, .slice (some ⟨b, o, none⟩) n c] 83)).alloc (.cells #[.int .i64 0, .slice none 0 0] 83)
  have h0 := (Whole.fresh w 83 #[.int .i64 p, .slice (some ⟨b, o, none⟩) n c]).alloc (.cells #[.int .i64 0, .slice none 0 0] 83)
  have h1 := Whole.fresh (w.alloc (.cells #[.int .i64 p, .slice (some ⟨b, o, none⟩) n c] 83)) 83 #[.int .i64 0, .slice none 0 0]
  rw [World.size_alloc] at h1
  have HS : Hid (decide ((solI p cs).length = 1) = true) := by show _ = _; rw [← solsI_yes hp]; exact hok
  obtain ⟨q1, q4, q6, qa⟩ := pzOk_parts hp
  rw [hx] at q6
  have HQ := Lib.hid qa
  have HP := Lib.hid hp
  have HLEN : Hid ((clsC cs).length = n * 3) := by show _ = _; rw [clsC_len, hx]
  have HONE := Lib.hid (clsC_one cs)
  have HMAX := Lib.hid (show 0 + n ≤ maxLen by unfold maxLen; omega)
  have HBYT := Lib.hid (show (0 + n) * 24 ≤ 140737488355328 by omega)
  clear hp hok hx qa hi hz0 hz1 hz2
  go_enter Try.func62, Try.ntmps62
  go_wp2_with fail
  refine (pzGood_any p _ n c cs _ hA2 HX.out (by omega)).mono ?_
  rintro e w1 ⟨rfl, hb⟩
  rw [HP.out]
  have ht := below_then (below2 w _ _) hb (by simp; omega)
  have hq := h0.below hb
  obtain ⟨k0, k1⟩ := hq.cells2
  have hlq := hq.lt
  have hr := h1.below hb
  have hA3 := hA2.below hb
  clear h0 h1 hb hA2
  go_wp2_with fail
  refine (pzSolved_any p _ n c cs w1 hA3 HX.out q6 HQ.out q1 q4).mono ?_
  rintro e w2 ⟨rfl, hb⟩
  rw [HS.out]
  have HT := Lib.hid (below_then ht hb ht.size)
  have hq2 := hq.below hb
  have HR := Lib.hid (hr.below hb)
  have hA4 := hA3.below hb
  have hlo : w.heap.size + 1 < w2.heap.size := (hr.below hb).lt
  clear hb k0 k1 hlq hq hA3 hr ht
  obtain ⟨k0, k1⟩ := hq2.cells2
  have hlq := hq2.lt
  have HQB := Lib.hid hq2
  have HOWN := Lib.hid (World.ownsRow_made (base := w2.heap.size) (e := 87) (size := 3) w2 #[] 0 (Nat.le_refl _) (by unfold maxLen; omega) rfl)
  have hbe0 := below1 w2 (.cells #[] 87)
  have HBE0 := Lib.hid hbe0
  have HNEWS := Lib.hid (cls_lie (hA4.below hbe0))
  clear hq2 hA4 hbe0
  go_wp2_with (at_builtin; refine wpList_append_own _ rfl (.tmp 19) (.tmp 21) 81 rfl w2.heap.size 87 i0 (.agg #[.int .i64 0, .int .i64 0, .int .i64 0]) 3 24 Try.underlying81 HI.out HZ0.out HZ1.out HZ2.out rfl (by decide) _ 0 [] rfl HOWN.out ⟨b, o, none⟩ n c (clsC cs) rfl HLEN.out HNEWS.out HONE.out HMAX.out HBYT.out (by simp) ?_; intro v' w3 hown3 hg3 _)
  simp only [Nat.zero_add, List.nil_append] at hown3
  obtain ⟨A3, q3, rfl⟩ := own_shapeC hown3
  have HB3 := Lib.hid (HBE0.out.grown hg3 (by simp) (fun k hk => Nat.le_of_eq (Option.some.inj (show some w2.heap.size = some k from hk))))
  have HO3 := Lib.hid hown3
  obtain ⟨H, hH⟩ : ∃ H, H = hardN p (2 * n) cs 0 := ⟨_, rfl⟩
  have HH := Lib.hid hH
  have HST : Hid (HardSt p H (2 * n) 0 cs) := ⟨HH.out.symm, by rw [HX.out]; omega, by omega, HP.out⟩
  clear hown3 hg3 k0 k1 hlq hH
  go_loopg [4, 5] (2 * n) (fun gh v i wr => ∃ (ds : List Cl) (k : Nat) (B : Option Addr) (q : Nat), v = .slice B ds.length q ∧ i = .int .i64 k ∧ HardSt p H gh k ds ∧ wr.ownsRow w2.heap.size 87 3 (.slice B ds.length q) ds.length (clsC ds) ∧ Below w2.heap.size w2 wr)
  case atStart => exact ⟨cs, 0, A3, q3, by rw [HX.out], rfl, HST.out, by rw [HX.out]; exact HO3.out, HB3.out⟩
  case round =>
    clear HST HO3 HB3 HOWN HNEWS HBE0
    obtain ⟨ds, k, B, q, rfl, rfl, hst, hown, hb⟩ := hrel
    obtain ⟨wz, rfl⟩ : ∃ X : World, X = wr := ⟨_, rfl⟩
    have h6 := hst.small
    by_cases hlt : k < ds.length
    · obtain ⟨g, rfl⟩ := hst.less hlt
      have hd1 : decide ((k : Int) < (ds.length : Int)) = true := by simp; omega
      obtain ⟨gB, rfl, hgl, hgr, hnq, hqm, hD⟩ := own_at hown (by omega)
      have HB := Lib.hid hb
      have HD := Lib.hid hD
      have HOW := Lib.hid hown
      have HSTD := Lib.hid hst
      have hqz := HQB.out.below hb
      obtain ⟨m, hm⟩ : ∃ m, m = ds.length := ⟨_, rfl⟩
      have HM := Lib.hid hm
      rw [← hm] at h6 hlt hnq hd1 ⊢
      clear hb hD hown hst hm
      go_wp2_with fail
      refine (pzWithout_any gB 0 m q k ds wz HD.out hgr HM.out.symm (by omega) hnq hqm hlt).mono ?_
      rintro e w4 ⟨A4, q4', rfl, hown4, hb4⟩
      have hq4 := hqz.below hb4
      obtain ⟨k0, k1⟩ := hq4.cells2
      have hlq4 := hq4.lt
      have HO4 := Lib.hid hown4
      have HB4 := Lib.hid hb4
      have hw6 : (woC ds k).length ≤ 6 := by rw [woC_len (by have := HM.out; omega)]; have := HM.out; omega
      clear hown4 hb4 hqz hq4
      go_wp2_with fail
      refine (pzSolved_any p A4 (woC ds k).length q4' (woC ds k) w4 (own_freshK HO4.out).holds rfl hw6 (all_wo (pzOk_parts HSTD.out.ok).2.2.2 k) q1 q4).mono ?_
      rintro e w5 ⟨rfl, hb5⟩
      have HB5 := Lib.hid (below_then (below_then HB.out HB4.out HB.out.size) hb5 (Nat.le_trans HB.out.size HB4.out.size))
      have HO5 := Lib.hid (own_lowerK (own_belowH HO4.out hb5) HB.out.size)
      have HO6 := Lib.hid (own_belowH (own_belowH HOW.out HB4.out) hb5)
      clear hb5 k0 k1 hlq4
      cases hs : decide ((solI p (woC ds k)).length = 1)
      · have HN := Lib.hid (HSTD.out.no (by rw [← HM.out]; exact hlt) hs)
        clear hs
        have hwr : IntKind.i64.wrap ((k : Int) + 1) = (k : Int) + 1 := IntWalk.i64_in _ (by omega)
        go_wp2
        go_roundg g
        case measure => omega
        case rel => exact ⟨ds, k + 1, some ⟨gB, 0, none⟩, q, by rw [HM.out], by go_num, HN.out, HO6.out, HB5.out⟩
      · have HN := Lib.hid (HSTD.out.yes (by rw [← HM.out]; exact hlt) hs)
        clear hs
        go_wp2
        go_roundg g
        case measure => omega
        case rel => exact ⟨woC ds k, k, A4, q4', rfl, rfl, HN.out, HO5.out, HB5.out⟩
    · have hd1 : decide ((k : Int) < (ds.length : Int)) = false := by simp; omega
      have hend : ds = H := by have h := hst.run; rw [hard_end hlt] at h; exact h
      have HE := Lib.hid hend
      have hqz := HQB.out.below hb
      obtain ⟨k0, k1⟩ := hqz.cells2
      have hlq := hqz.lt
      have hrz := HR.out.below hb
      obtain ⟨r0, r1, f0, f1⟩ := hrz.two
      have hlr := hrz.lt
      have ht := below_then HT.out hb HT.out.size
      have HF := Lib.hid ((((own_freshK hown).set_out (b := w.heap.size + 1) (o := 0) (u := .int .i64 p) (.inl (by omega))).set_out (b := w.heap.size + 1) (o := 1) (u := .slice B ds.length q) (.inl (by omega))).more (lo' := w.heap.size) (hi' := wz.heap.size) (by omega) (Nat.le_refl _))
      have HT2 := Lib.hid ht
      clear hend hqz hrz ht hown hb hst
      go_wp2
      refine bodyPost_ret (v := .tuple #[.agg #[.int .i64 p, .slice B ds.length q], .bool true]) (by simp [results, Try.results62, go_sem, r0, r1]) rfl ⟨B, q, by rw [← HH.out, ← HE.out], ?_, ?_⟩
      · rw [← HH.out, ← HE.out]
        have h := HF.out
        simpa [World.setCell] using h
      · exact below_set (below_set HT2.out (by omega)) (by omega)
theorem specHard_any (p : Int) (b o n c : Nat) (cs : List Cl) (w : World) (hA : Holds w (some ⟨b, o, none⟩) (clsC cs)) (hx : cs.length = n) (hn : n ≤ 1048576) :
    Calls Try.prog 62 #[.agg #[.int .i64 p, .slice (some ⟨b, o, none⟩) n c]] w (PuzPost (hdP p cs) (hdL p cs) (hdOk p cs) w) := by
  cases hok : hdOk p cs
  · rw [(hd_no hok).1, (hd_no hok).2]
    exact specHard_no p _ n c cs w hA hx hn hok
  · rw [(hd_yes hok).1, (hd_yes hok).2, hx]
    exact specHard_on p b o n c cs w hA hx hok
end Go.Proofs.Ytkocompjjogciaa

namespace Go.Proofs.Ytkocompjjogciaa
open Go.RowKit

def Hard2 (w : World) (p : Int) (s : Value) (w' : World) : Prop := w'.cell? ⟨w.heap.size, 0, none⟩ = some (.int .i64 p) ∧ w'.cell? ⟨w.heap.size, 1, none⟩ = some s
theorem hard2_of {w w' : World} {p : Int} {s : Value} (h : Whole w' w.heap.size 83 #[.int .i64 p, s]) : Hard2 w p s w' := ⟨h.cell 0, h.cell 1⟩
/-- What stands behind the copy. -/
def HardCut (w w2 : World) (p : Int) (n : Nat) (cs : List Cl) (s6 : Value) (wx : World) : Prop :=
  ∃ (g : Nat) (A3 : Option Addr) (q3 : Nat), s6 = .pointer (some ⟨g, 0, none⟩) ∧ Whole wx g 83 #[.int .i64 p, .slice A3 n q3] ∧ wx.ownsRow w2.heap.size 87 3 (.slice A3 n q3) n (clsC cs) ∧ Whole wx (w.heap.size + 1) 83 #[.int .i64 0, .slice none 0 0] ∧ w2.heap.size ≤ g ∧ Below w2.heap.size w2 wx
theorem own_type {w : World} {base size n b o : Nat} {t e : TypeId} {v u : Value} {xs : List Value} {cs : Array Value} (h : w.ownsRow base e size v n xs) (hb : Whole w b t cs) (hn : t ≠ e) : (w.setCell ⟨b, o, none⟩ u).ownsRow base e size v n xs := by
  obtain ⟨hl, h | ⟨q, cap, cur, hv, hq, hh, r⟩⟩ := h
  · exact ⟨hl, .inl h⟩
  · have hw : Whole w q e cur := hh
    exact ⟨hl, .inr ⟨q, cap, cur, hv, hq, hw.off (b := b) (o := o) (u := u) (whole_neA hw hb (fun h => hn h.symm)), r⟩⟩

set_option maxHeartbeats 3200000 in
set_option maxRecDepth 100000 in
theorem implHard_no (p : Int) (A : Option Addr) (n c : Nat) (cs : List Cl) (w : World) (hA : Holds w A (clsC cs)) (hx : cs.length = n) (hn : n ≤ 1048576) (hno : hdOk p cs = false) :
    Calls Try.prog 63 #[.agg #[.int .i64 p, .slice A n c]] w (PuzPost 0 [] false w) := by
  have HX := Lib.hid hx
  have HS : Hid (decide ((solsI p cs).length = 1) = false) := hno
  have hA2 := (hA.alloc (.cells #[.int .i64 p, .slice A n c] 83)).alloc (.cells #[.int .i64 0, .slice none 0 0] 83)
  have h1 := Whole.fresh (w.alloc (.cells #[.int .i64 p, .slice A n c] 83)) 83 #[.int .i64 0, .slice none 0 0]
  rw [World.size_alloc] at h1
  clear hx hno
  go_enter Try.func63, Try.ntmps63
  go_wp2_with fail
  refine (implIsSolved_any p A n c cs _ hA2 HX.out hn).mono ?_
  rintro e w1 ⟨rfl, hb⟩
  rw [HS.out]
  have ht := below_then (below2 w _ _) hb (by simp; omega)
  have hr := h1.below hb
  have hlr := hr.lt
  obtain ⟨r0, r1, f0, f1⟩ := hr.two
  clear h1 hb hA2
  go_wp2
  refine bodyPost_ret (v := .tuple #[.agg #[.int .i64 0, .slice none 0 0], .bool false]) (by simp [results, Try.results63, go_sem, r0, r1]) rfl ⟨none, 0, rfl, .inl rfl, ?_⟩
  exact below_set (below_set ht (by omega)) (by omega)

set_option maxHeartbeats 6400000 in
set_option maxRecDepth 100000 in
set_option linter.unusedVariables false in
set_option linter.unusedSimpArgs false in
theorem implHard_on (p : Int) (b o n c : Nat) (cs : List Cl) (w : World) (hA : Holds w (some ⟨b, o, none⟩) (clsC cs)) (hx : cs.length = n) (hok : hdOk p cs = true) :
    Calls Try.prog 63 #[.agg #[.int .i64 p, .slice (some ⟨b, o, none⟩) n c]] w (PuzPost p (hardN p (2 * n) cs 0) true w) := by
  have HX := Lib.hid hx
  have hp := hdOk_pz hok
  have hA2 := (hA.alloc (.cells #[.int .i64 p, .slice (some ⟨b, o, none⟩) n c] 83)).alloc (.cells #[.int .i64 0, .slice none 0 0] 83)
  have h0 := (Whole.fresh w 83 #[.int .i64 p, .slice (some ⟨b, o, none⟩) n c]).alloc (.cells #[.int .i64 0, .slice none 0 0] 83)
  have h1 := Whole.fresh (w.alloc (.cells #[.int .i64 p, .slice (some ⟨b, o, none⟩) n c] 83)) 83 #[.int .i64 0, .slice none 0 0]
  rw [World.size_alloc] at h1
  have HS : Hid (decide ((solsI p cs).length = 1) = true) := hok
  obtain ⟨q1, q4, q6, qa⟩ := pzOk_parts hp
  rw [hx] at q6
  have HP := Lib.hid hp
  clear hp hok hx qa
  go_enter Try.func63, Try.ntmps63
  go_wp2_with fail
  refine (implIsSolved_any p _ n c cs _ hA2 HX.out (by omega)).mono ?_
  rintro e w2 ⟨rfl, hb⟩
  rw [HS.out]
  have HT := Lib.hid (below_then (below2 w _ _) hb (by simp; omega))
  have hq := h0.below hb
  obtain ⟨k0, k1⟩ := hq.cells2
  have hlq := hq.lt
  have hr := h1.below hb
  have hlo : w.heap.size + 1 < w2.heap.size := hr.lt
  have HA5 := Lib.hid (hA2.below hb)
  clear h0 h1 hb hA2
  go_upto_region 4 with fail
  go_cut [6] (fun s6 wx => HardCut w w2 p n cs s6 wx)
  case first =>
    clear k0 k1
    go_wp2_with fail
    refine wp_region_held_drew (S := (Hard2 w p (.slice (some ⟨b, o, none⟩) n c))) (by kernel_rfl) (hard2_of hq.drew) (fun hHeld => ?_)
    replace hq := hq.drew
    replace hr := hr.drew
    have ht := (Below.refl w2.heap.size w2).drew
    generalize World.drew w2 = w0 at hq hr ht hHeld ⊢
    refine wpAnyH_take (i := 0) (v := ?_) rfl (by kernel_rfl) (by kernel_rfl) (by kernel_rfl) (fun _ _ _ h => h) (Or.inl ⟨rfl, ?_⟩) hHeld ?_
    rotate_left
    · intro w' hS; obtain ⟨s0, s1⟩ := hS; go_simp <;> with_reducible rfl
    simp only [Act.put, List.getElem_toArray, List.getElem_cons_succ, List.getElem_cons_zero, List.setIfInBounds_toArray, List.set_cons_succ, List.set_cons_zero]
    refine wpAnyH_take (i := 1) (v := ?_) rfl (by kernel_rfl) (by kernel_rfl) (by kernel_rfl) (fun _ _ _ h => h) (Or.inl ⟨rfl, ?_⟩) hHeld ?_
    rotate_left
    · intro w' hS; obtain ⟨s0, s1⟩ := hS; go_simp <;> with_reducible rfl
    simp only [Act.put, List.getElem_toArray, List.getElem_cons_succ, List.getElem_cons_zero, List.setIfInBounds_toArray, List.set_cons_succ, List.set_cons_zero]
    refine wpAnyH_take (i := 2) (v := ?_) rfl (by kernel_rfl) (by kernel_rfl) (by kernel_rfl) (fun _ _ _ h => h) (Or.inl ⟨rfl, ?_⟩) hHeld ?_
    rotate_left
    · intro w' hS; obtain ⟨s0, s1⟩ := hS; go_simp <;> with_reducible rfl
    simp only [Act.put, List.getElem_toArray, List.getElem_cons_succ, List.getElem_cons_zero, List.setIfInBounds_toArray, List.set_cons_succ, List.set_cons_zero]
    refine wpAnyH_take (i := 3) (v := ?_) rfl (by kernel_rfl) (by kernel_rfl) (by kernel_rfl) (fun _ _ _ h => h) (Or.inl ⟨rfl, ?_⟩) hHeld ?_
    rotate_left
    · intro w' hS; obtain ⟨s0, s1⟩ := hS; go_simp <;> with_reducible rfl
    simp only [Act.put, List.getElem_toArray, List.getElem_cons_succ, List.getElem_cons_zero, List.setIfInBounds_toArray, List.set_cons_succ, List.set_cons_zero]
    refine wpAnyH_ready (rs := [4, 6]) (by kernel_rfl) (by simp) (AllReadyH.cons rfl (fun K hK => ?_) (AllReadyH.cons rfl (fun K hK => ?_) AllReadyH.nil))
    · go_simp
      refine (cloneK_any (some ⟨b, o, none⟩) n c cs w0 (HA5.out.below ht) HX.out (by omega) (fun e => by cases e)).mono ?_
      rintro e wzc ⟨A3, q3, rfl, hown, hb⟩
      rw [HX.out] at hown ⊢
      have hbs4 := ht.size
      replace hown := own_lowerK hown hbs4
      replace hq := hq.below hb
      replace hr := hr.below hb
      replace ht := below_then ht hb ht.size
      clear hb
      refine hK.out _ _ (hard2_of hq) (fun hHeld => ?_)
      clear hK K
      try simp only [Act.put, List.getElem_toArray, List.getElem_cons_succ, List.getElem_cons_zero, List.setIfInBounds_toArray, List.set_cons_succ, List.set_cons_zero]
      refine wpAnyH_take (i := 5) (v := ?_) rfl (by kernel_rfl) (by kernel_rfl) (by kernel_rfl) (fun _ _ _ h => h) (Or.inl ⟨rfl, ?_⟩) hHeld ?_
      rotate_left
      · intro w' hS; obtain ⟨s0, s1⟩ := hS; go_simp <;> with_reducible rfl
      simp only [Act.put, List.getElem_toArray, List.getElem_cons_succ, List.getElem_cons_zero, List.setIfInBounds_toArray, List.set_cons_succ, List.set_cons_zero]
      refine wpAnyH_ready (rs := [6]) (by kernel_rfl) (by simp) (AllReadyH.cons rfl (fun K hK => ?_) AllReadyH.nil)
      go_simp
      have hbs6 := ht.size
      have hrl6 := hr.lt
      have hx := Whole.fresh wzc 83 #[.int .i64 0, .slice none 0 0]
      replace hq := hq.alloc (.cells #[.int .i64 0, .slice none 0 0] 83)
      replace hr := hr.alloc (.cells #[.int .i64 0, .slice none 0 0] 83)
      replace ht := ht.alloc ht.size (.cells #[.int .i64 0, .slice none 0 0] 83)
      replace hown := hown.alloc (.cells #[.int .i64 0, .slice none 0 0] 83)
      generalize World.alloc wzc (.cells #[.int .i64 0, .slice none 0 0] 83) = wzca at hq hr ht hx hown ⊢
      refine hK.out _ _ (hard2_of hq) (fun hHeld => ?_)
      clear hK K
      try simp only [Act.put, List.getElem_toArray, List.getElem_cons_succ, List.getElem_cons_zero, List.setIfInBounds_toArray, List.set_cons_succ, List.set_cons_zero]
      refine wpAnyH_ready (rs := [7]) (by kernel_rfl) (by simp) (AllReadyH.cons rfl (fun K hK => ?_) AllReadyH.nil)
      refine wp_store_row 83 (.tmp 6) (.tmp 25) rfl (wzc.heap.size) #[.int .i64 p, .slice A3 n q3] rfl rfl 83 #[.int .i64 0, .slice none 0 0] hx size_puzzle rfl (by simp [Value.oneCell']) ?_
      have o9 := only_setRow wzca (wzc.heap.size) #[.int .i64 p, .slice A3 n q3]
      have x9 := whole_setRow #[.int .i64 p, .slice A3 n q3] hx
      have f9 := own_onlyA hown o9 hx (by decide)
      have q9 := o9.whole hq (by omega)
      have r9 := o9.whole hr (by omega)
      have t9 := o9.below ht (by omega)
      generalize World.setRow wzca (wzc.heap.size) #[.int .i64 p, .slice A3 n q3] = w9 at o9 x9 f9 q9 r9 t9 ⊢
      refine hK.out _ _ (hard2_of q9) (fun hHeld => ?_)
      clear hK K
      try simp only [Act.put, List.getElem_toArray, List.getElem_cons_succ, List.getElem_cons_zero, List.setIfInBounds_toArray, List.set_cons_succ, List.set_cons_zero]
      refine wpAnyH_done (by kernel_rfl) ?_ _
      clear hHeld
      go_wp2_with fail
      go_meet
      exact ⟨wzc.heap.size, A3, q3, rfl, x9, f9, r9, by omega, t9⟩
    · go_simp
      have hbs6 := ht.size
      have hrl6 := hr.lt
      have hx := Whole.fresh w0 83 #[.int .i64 0, .slice none 0 0]
      replace hq := hq.alloc (.cells #[.int .i64 0, .slice none 0 0] 83)
      replace hr := hr.alloc (.cells #[.int .i64 0, .slice none 0 0] 83)
      replace ht := ht.alloc ht.size (.cells #[.int .i64 0, .slice none 0 0] 83)
      generalize World.alloc w0 (.cells #[.int .i64 0, .slice none 0 0] 83) = wza at hq hr ht hx  ⊢
      refine hK.out _ _ (hard2_of hq) (fun hHeld => ?_)
      clear hK K
      try simp only [Act.put, List.getElem_toArray, List.getElem_cons_succ, List.getElem_cons_zero, List.setIfInBounds_toArray, List.set_cons_succ, List.set_cons_zero]
      refine wpAnyH_ready (rs := [4]) (by kernel_rfl) (by simp) (AllReadyH.cons rfl (fun K hK => ?_) AllReadyH.nil)
      go_simp
      refine (cloneK_any (some ⟨b, o, none⟩) n c cs wza (HA5.out.below ht) HX.out (by omega) (fun e => by cases e)).mono ?_
      rintro e wzac ⟨A3, q3, rfl, hown, hb⟩
      rw [HX.out] at hown ⊢
      have hbs4 := ht.size
      replace hown := own_lowerK hown hbs4
      replace hq := hq.below hb
      replace hr := hr.below hb
      replace hx := hx.below hb
      replace ht := below_then ht hb ht.size
      clear hb
      refine hK.out _ _ (hard2_of hq) (fun hHeld => ?_)
      clear hK K
      try simp only [Act.put, List.getElem_toArray, List.getElem_cons_succ, List.getElem_cons_zero, List.setIfInBounds_toArray, List.set_cons_succ, List.set_cons_zero]
      refine wpAnyH_take (i := 5) (v := ?_) rfl (by kernel_rfl) (by kernel_rfl) (by kernel_rfl) (fun _ _ _ h => h) (Or.inl ⟨rfl, ?_⟩) hHeld ?_
      rotate_left
      · intro w' hS; obtain ⟨s0, s1⟩ := hS; go_simp <;> with_reducible rfl
      simp only [Act.put, List.getElem_toArray, List.getElem_cons_succ, List.getElem_cons_zero, List.setIfInBounds_toArray, List.set_cons_succ, List.set_cons_zero]
      refine wpAnyH_ready (rs := [7]) (by kernel_rfl) (by simp) (AllReadyH.cons rfl (fun K hK => ?_) AllReadyH.nil)
      refine wp_store_row 83 (.tmp 6) (.tmp 25) rfl (w0.heap.size) #[.int .i64 p, .slice A3 n q3] rfl rfl 83 #[.int .i64 0, .slice none 0 0] hx size_puzzle rfl (by simp [Value.oneCell']) ?_
      have o9 := only_setRow wzac (w0.heap.size) #[.int .i64 p, .slice A3 n q3]
      have x9 := whole_setRow #[.int .i64 p, .slice A3 n q3] hx
      have f9 := own_onlyA hown o9 hx (by decide)
      have q9 := o9.whole hq (by omega)
      have r9 := o9.whole hr (by omega)
      have t9 := o9.below ht (by omega)
      generalize World.setRow wzac (w0.heap.size) #[.int .i64 p, .slice A3 n q3] = w9 at o9 x9 f9 q9 r9 t9 ⊢
      refine hK.out _ _ (hard2_of q9) (fun hHeld => ?_)
      clear hK K
      try simp only [Act.put, List.getElem_toArray, List.getElem_cons_succ, List.getElem_cons_zero, List.setIfInBounds_toArray, List.set_cons_succ, List.set_cons_zero]
      refine wpAnyH_done (by kernel_rfl) ?_ _
      clear hHeld
      go_wp2_with fail
      go_meet
      exact ⟨w0.heap.size, A3, q3, rfl, x9, f9, r9, by omega, t9⟩
  case rest =>
    obtain ⟨g, A3, q3, rfl, hx3, hown3, hr3, hg3, hb3⟩ := hcut
    have HX3 := Lib.hid hx3
    have HO3 := Lib.hid hown3
    have HR3 := Lib.hid hr3
    have HB3 := Lib.hid hb3
    have HW2 : Hid (w2.heap.size = w2.heap.size) := rfl
    obtain ⟨H, hH⟩ : ∃ H, H = hardN p (2 * n) cs 0 := ⟨_, rfl⟩
    have HH := Lib.hid hH
    have HST : Hid (HardSt p H (2 * n) 0 cs) := ⟨HH.out.symm, by rw [HX.out]; omega, by omega, HP.out⟩
    clear hx3 hown3 hr3 hb3 hH k0 k1 hq hlq hr
    go_wp2
    go_loopg [7] (2 * n) (fun gh i wr => ∃ (ds : List Cl) (k : Nat) (B : Option Addr) (q : Nat), i = .int .i64 k ∧ HardSt p H gh k ds ∧ Whole wr g 83 #[.int .i64 p, .slice B ds.length q] ∧ wr.ownsRow w2.heap.size 87 3 (.slice B ds.length q) ds.length (clsC ds) ∧ Whole wr (w.heap.size + 1) 83 #[.int .i64 0, .slice none 0 0] ∧ Below w2.heap.size w2 wr)
    case atStart => exact ⟨cs, 0, A3, q3, rfl, HST.out, by rw [HX.out]; exact HX3.out, by rw [HX.out]; exact HO3.out, HR3.out, HB3.out⟩
    case round =>
      clear HST HO3 HB3 HX3 HR3
      obtain ⟨ds, k, B, q, rfl, hst, hbx, hown, hr, hb⟩ := hrel
      obtain ⟨wz, rfl⟩ : ∃ X : World, X = wr := ⟨_, rfl⟩
      have h6 := hst.small
      obtain ⟨e0, e1, f0, f1⟩ := hbx.two
      have hgl := hbx.lt
      by_cases hlt : k < ds.length
      · obtain ⟨gh, rfl⟩ := hst.less hlt
        have hd1 : decide ((k : Int) < (ds.length : Int)) = true := by simp; omega
        obtain ⟨gB, rfl, hgb, hgr, hnq, hqm, hD⟩ := own_at hown (by omega)
        have HB := Lib.hid hb
        have HD := Lib.hid hD
        have HOW := Lib.hid hown
        have HSTD := Lib.hid hst
        have HBX := Lib.hid hbx
        have HRR := Lib.hid hr
        obtain ⟨m, hm⟩ : ∃ m, m = ds.length := ⟨_, rfl⟩
        have HM := Lib.hid hm
        rw [← hm] at h6 hlt hnq hd1 e1
        clear hb hD hown hst hbx hr hm
        go_wp2_with fail
        refine (implDropK_own p gB 0 m q k ds wz HD.out hgr HM.out.symm (by omega) hnq hqm HSTD.out.ok hlt).mono ?_
        rintro e w4 ⟨A4, q4', rfl, hown4, hb4⟩
        have hO4 := own_lowerK hown4 HB.out.size
        have hBX4 := HBX.out.below hb4
        have hR4 := HRR.out.below hb4
        have hOW4 := own_belowH HOW.out hb4
        have hB4 := below_then HB.out hb4 HB.out.size
        have hgw4 : g < w4.heap.size := hBX4.lt
        clear hown4 hb4 e0 e1 f0 f1 hgl
        have hv := Whole.fresh w4 83 #[.int .i64 p, .slice A4 (woC ds k).length q4']
        obtain ⟨v0, v1⟩ := hv.cells2
        have hvl := hv.lt
        have HV := Lib.hid hv
        have HO5 := Lib.hid (hO4.alloc (.cells #[.int .i64 p, .slice A4 (woC ds k).length q4'] 83))
        have HBX5 := Lib.hid (hBX4.alloc (.cells #[.int .i64 p, .slice A4 (woC ds k).length q4'] 83))
        have HR5 := Lib.hid (hR4.alloc (.cells #[.int .i64 p, .slice A4 (woC ds k).length q4'] 83))
        have HOW5 := Lib.hid (hOW4.alloc (.cells #[.int .i64 p, .slice A4 (woC ds k).length q4'] 83))
        have HB5 := Lib.hid (hB4.alloc hB4.size (.cells #[.int .i64 p, .slice A4 (woC ds k).length q4'] 83))
        have hw6 : (woC ds k).length ≤ 1048576 := by rw [woC_len (by have := HM.out; omega)]; have := HM.out; omega
        clear hO4 hBX4 hR4 hOW4 hB4 hv
        go_wp2_with fail
        refine (implIsSolved_any p A4 (woC ds k).length q4' (woC ds k) _ (own_freshK HO5.out).holds rfl hw6).mono ?_
        rintro e w5 ⟨rfl, hb5⟩
        rw [solsI_yes (pzOk_wo HSTD.out.ok (show k < ds.length by rw [← HM.out]; exact hlt))]
        have hV6 := HV.out.below hb5
        have HO6 := Lib.hid (own_belowH HO5.out hb5)
        have hBX6 := HBX5.out.below hb5
        have HR6 := Lib.hid (HR5.out.below hb5)
        have HOW6 := Lib.hid (own_belowH HOW5.out hb5)
        have HB6 := Lib.hid (below_then HB5.out hb5 HB5.out.size)
        clear hb5 v0 v1 hvl
        obtain ⟨v0, v1⟩ := hV6.cells2
        have hvl := hV6.lt
        obtain ⟨e0, e1, f0, f1⟩ := hBX6.two
        have hgl := hBX6.lt
        have HBX6 := Lib.hid hBX6
        clear hV6 hBX6
        cases hs : decide ((solI p (woC ds k)).length = 1)
        · have HN := Lib.hid (HSTD.out.no (by rw [← HM.out]; exact hlt) hs)
          clear hs
          have hwr : IntKind.i64.wrap ((k : Int) + 1) = (k : Int) + 1 := IntWalk.i64_in _ (by omega)
          go_wp2
          go_roundg gh
          case measure => omega
          case rel => exact ⟨ds, k + 1, some ⟨gB, 0, none⟩, q, by go_num, HN.out, HBX6.out, HOW6.out, HR6.out, HB6.out⟩
        · have HN := Lib.hid (HSTD.out.yes (by rw [← HM.out]; exact hlt) hs)
          clear hs
          have HBX7 := Lib.hid ((HBX6.out.set_ 0 (.int .i64 p)).set_ 1 (.slice A4 (woC ds k).length q4'))
          have HO7 := Lib.hid (own_type (b := g) (o := 1) (u := .slice A4 (woC ds k).length q4') (own_type (b := g) (o := 0) (u := .int .i64 p) HO6.out HBX6.out (by decide)) (HBX6.out.set_ 0 (.int .i64 p)) (by decide))
          have HR7 := Lib.hid ((HR6.out.off (b := g) (o := 0) (u := .int .i64 p) (by omega)).off (b := g) (o := 1) (u := .slice A4 (woC ds k).length q4') (by omega))
          have HB7 := Lib.hid (below_set (b := g) (o := 1) (u := .slice A4 (woC ds k).length q4') (below_set (b := g) (o := 0) (u := .int .i64 p) HB6.out (by omega)) (by omega))
          go_wp2
          go_roundg gh
          case measure => omega
          case rel => exact ⟨woC ds k, k, A4, q4', rfl, HN.out, by simpa using HBX7.out, HO7.out, HR7.out, HB7.out⟩
      · have hd1 : decide ((k : Int) < (ds.length : Int)) = false := by simp; omega
        have hend : ds = H := by have h := hst.run; rw [hard_end hlt] at h; exact h
        have HE := Lib.hid hend
        obtain ⟨r0, r1, g0, g1⟩ := hr.two
        have hlr := hr.lt
        have HF := Lib.hid ((((own_freshK hown).set_out (b := w.heap.size + 1) (o := 0) (u := .int .i64 p) (.inl (by omega))).set_out (b := w.heap.size + 1) (o := 1) (u := .slice B ds.length q) (.inl (by omega))).more (lo' := w.heap.size) (hi' := wz.heap.size) (by omega) (Nat.le_refl _))
        have HT2 := Lib.hid (below_then HT.out hb HT.out.size)
        clear hend hb hown hst hbx hr
        go_wp2
        refine bodyPost_ret (v := .tuple #[.agg #[.int .i64 p, .slice B ds.length q], .bool true]) (by simp [results, Try.results63, go_sem, r0, r1]) rfl ⟨B, q, by rw [← HH.out, ← HE.out], ?_, ?_⟩
        · rw [← HH.out, ← HE.out]
          have h := HF.out
          simpa [World.setCell] using h
        · exact below_set (below_set HT2.out (by omega)) (by omega)
theorem implHard_any (p : Int) (b o n c : Nat) (cs : List Cl) (w : World) (hA : Holds w (some ⟨b, o, none⟩) (clsC cs)) (hx : cs.length = n) (hn : n ≤ 1048576) :
    Calls Try.prog 63 #[.agg #[.int .i64 p, .slice (some ⟨b, o, none⟩) n c]] w (PuzPost (hdP p cs) (hdL p cs) (hdOk p cs) w) := by
  cases hok : hdOk p cs
  · rw [(hd_no hok).1, (hd_no hok).2]
    exact implHard_no p _ n c cs w hA hx hn hok
  · rw [(hd_yes hok).1, (hd_yes hok).2, hx]
    exact implHard_on p b o n c cs w hA hx hok
end Go.Proofs.Ytkocompjjogciaa

namespace Go.Proofs.Ytkocompjjogciaa
open Go.RowKit

set_option maxHeartbeats 400000 in
theorem eqClue_yes (k a b : Int) (w : World) : Calls Try.prog 162 #[.agg #[.int .i64 k, .int .i64 a, .int .i64 b], .agg #[.int .i64 k, .int .i64 a, .int .i64 b]] w fun e w' => e = .returned (.bool true) ∧ Below w.heap.size w w' := by
  have hk : (k != k) = false := by simp
  have ha : (a != a) = false := by simp
  have hb : (b != b) = false := by simp
  go_enter Try.func162, Try.ntmps162
  go_wp2
  go_ret
  exact ⟨rfl, below2 w _ _⟩

set_option maxHeartbeats 1600000 in
theorem eqClueS_yes (A B : Option Addr) (n c d : Nat) (cs : List Cl) (w : World) (hA : Holds w A (clsC cs)) (hB : Holds w B (clsC cs)) (hx : cs.length = n) (hn : n ≤ 9223372036854775807) :
    Calls Try.prog 119 #[.slice A n c, .slice B n d] w fun e w' => e = .returned (.bool true) ∧ Below w.heap.size w w' := by
  subst hx
  have hll : ((cs.length : Int) != (cs.length : Int)) = false := by simp
  go_enter Try.func119, Try.ntmps119
  go_wp2
  go_loopw [5] (fun i wr => ∃ k : Nat, k ≤ cs.length ∧ i = .int .i64 k ∧ Below w.heap.size w wr) (fun i _ => cs.length - (intOf i).toNat)
  case atStart => exact ⟨0, Nat.zero_le _, rfl, Below.refl _ _⟩
  case round =>
    obtain ⟨k, hk, rfl, hb⟩ := hrel
    by_cases hlt : k < cs.length
    · obtain ⟨b, o, rfl, hbl, c0, c1, c2⟩ := cls_look (hA.below hb) hlt
      obtain ⟨b', o', rfl, hbl', d0, d1, d2⟩ := cls_look (hB.below hb) hlt
      obtain ⟨⟨x1, x2, x3⟩, hx⟩ : ∃ x, x = cs[k] := ⟨_, rfl⟩
      rw [← hx] at c0 c1 c2 d0 d1 d2
      dsimp only at c0 c1 c2 d0 d1 d2
      have hkl : (k : Int) < cs.length := by omega
      have HB := Lib.hid hb
      clear hb hx
      go_wp2_with fail
      go_region_held3 (fun w' => (w'.cell? ⟨b, o + k * 3, none⟩ = some (.int .i64 x1) ∧ w'.cell? ⟨b, o + k * 3 + 1, none⟩ = some (.int .i64 x2) ∧ w'.cell? ⟨b, o + k * 3 + 2, none⟩ = some (.int .i64 x3)) ∧ (w'.cell? ⟨b', o' + k * 3, none⟩ = some (.int .i64 x1) ∧ w'.cell? ⟨b', o' + k * 3 + 1, none⟩ = some (.int .i64 x2) ∧ w'.cell? ⟨b', o' + k * 3 + 2, none⟩ = some (.int .i64 x3))) (go_keep)
        (first | (go_at_call 162; refine (eqClue_yes x1 x2 x3 _).mono ?_; rintro e w2 ⟨rfl, hb2⟩; have hb3 : Below wr.heap.size wr w2 := below_then (Below.refl wr.heap.size wr).drew hb2 (Nat.le_refl _); have e0 := (hb3.cell (p := ⟨b, o + k * 3, none⟩) hbl).trans c0; have e1 := (hb3.cell (p := ⟨b, o + k * 3 + 1, none⟩) hbl).trans c1; have e2 := (hb3.cell (p := ⟨b, o + k * 3 + 2, none⟩) hbl).trans c2; have g0 := (hb3.cell (p := ⟨b', o' + k * 3, none⟩) hbl').trans d0; have g1 := (hb3.cell (p := ⟨b', o' + k * 3 + 1, none⟩) hbl').trans d1; have g2 := (hb3.cell (p := ⟨b', o' + k * 3 + 2, none⟩) hbl').trans d2; have HB3 := Lib.hid (below_then HB.out hb3 HB.out.size); clear hb2 hb3) | fail)
      go_wp2
      go_roundw
      case rel => exact ⟨k + 1, by omega, by go_num, HB3.out⟩
      case measure => simp [intOf]; omega
    · have HB := Lib.hid hb
      clear hb
      go_wp2
      go_ret
      exact ⟨rfl, HB.out⟩

set_option maxHeartbeats 400000 in
theorem eqPuzzle_yes (A B : Option Addr) (n c d : Nat) (cs : List Cl) (s : Int) (w : World) (hA : Holds w A (clsC cs)) (hB : Holds w B (clsC cs)) (hx : cs.length = n) (hn : n ≤ 9223372036854775807) :
    Calls Try.prog 59 #[.agg #[.int .i64 s, .slice A n c], .agg #[.int .i64 s, .slice B n d]] w fun e w' => e = .returned (.bool true) ∧ Below w.heap.size w w' := by
  have HX := Lib.hid hx
  clear hx
  have hss : (s != s) = false := by simp
  have hb2 := below2 w (.cells #[.int .i64 s, .slice A n c] 83) (.cells #[.int .i64 s, .slice B n d] 83)
  have HB2 := Lib.hid hb2
  have HA := Lib.hid (hA.below hb2)
  have HB := Lib.hid (hB.below hb2)
  clear hA hB hb2
  go_enter Try.func59, Try.ntmps59
  go_wp2_with fail
  refine (eqClueS_yes A B n c d cs _ HA.out HB.out HX.out hn).mono ?_
  rintro e w1 ⟨rfl, hb⟩
  have HF := Lib.hid (below_then HB2.out hb HB2.out.size)
  clear hb
  go_wp2
  go_ret
  exact ⟨rfl, HF.out⟩
end Go.Proofs.Ytkocompjjogciaa

namespace Go.Proofs.Ytkocompjjogciaa
open Go.RowKit

set_option maxHeartbeats 1600000 in
theorem markClueS_any (A : Option Addr) (n c lo hi : Nat) (cs : List Cl) (q : Int) (w : World) (hf : Fresh w lo hi 87 A (clsC cs)) (hx : cs.length = n) (h0 : 0 ≤ q) (h1 : q ≤ 2305843009213693952) (hn : n ≤ 1048576) :
    Calls Try.prog 120 #[.slice A n c, .int .i64 q] w fun e w' => e = .returned (.int .i64 (q + ((n * 3 : Nat) : Int))) ∧ Span lo hi w w' ∧ Fresh w' lo hi 87 A (nums (marksI q (n * 3))) := by
  subst hx
  have hlc := clsC_len cs
  generalize clsC cs = xs at hf hlc
  generalize cs.length = n at *
  rcases hf with rfl | ⟨g, cells, rfl, hlo, hhi, hw, hle, htk⟩
  · have hn0 : n = 0 := by simp at hlc; omega
    subst hn0
    go_enter Try.func120, Try.ntmps120
    go_wp2
    refine wp_loop_rounds 1 ?_
    rw [rounds_succ]
    go_wp2
    go_ret
    exact ⟨ret_of (by simp), Span.refl _ _ _, .inl (by simp [marksI, nums])⟩
  · have HT := Lib.hid htk
    have HLC := Lib.hid hlc
    have hsz : n * 3 ≤ cells.size := by omega
    have HSZ := Lib.hid hsz
    clear htk hlc hle hsz
    have hm0 : Whole w g 87 (marked (fun i : Nat => .int .i64 (q + (i : Int))) cells (0 * 3)) := by rw [Nat.zero_mul, marked_zero]; exact hw
    have hgl := hw.lt
    go_enter Try.func120, Try.ntmps120
    go_wp2
    go_loopw [1, 5] (fun v i wr => ∃ k : Nat, k ≤ n ∧ i = .int .i64 k ∧ v = .int .i64 (q + ((k * 3 : Nat) : Int)) ∧ Whole wr g 87 (marked (fun i : Nat => .int .i64 (q + (i : Int))) cells (k * 3)) ∧ Span lo hi w wr) (fun _ i _ => n - (intOf i).toNat)
    case atStart => exact ⟨0, Nat.zero_le _, rfl, by simp, hm0, Span.refl _ _ _⟩
    case round =>
      obtain ⟨k, hk, rfl, rfl, hm, hs⟩ := hrel
      clear hm0 hw
      by_cases hlt : k < n
      · have hs3 := HSZ.out
        have hks : k * 3 + 2 < cells.size := by omega
        have h00 : (marked (fun i : Nat => .int .i64 (q + (i : Int))) cells (k * 3)).size = cells.size := by simp [marked]; omega
        obtain ⟨u0, hu0⟩ : ∃ u, (marked (fun i : Nat => .int .i64 (q + (i : Int))) cells (k * 3))[k * 3]? = some u := ⟨_, Array.getElem?_eq_getElem (by omega)⟩
        obtain ⟨u1, hu1⟩ : ∃ u, (marked (fun i : Nat => .int .i64 (q + (i : Int))) cells (k * 3))[k * 3 + 1]? = some u := ⟨_, Array.getElem?_eq_getElem (by omega)⟩
        obtain ⟨u2, hu2⟩ : ∃ u, (marked (fun i : Nat => .int .i64 (q + (i : Int))) cells (k * 3))[k * 3 + 2]? = some u := ⟨_, Array.getElem?_eq_getElem (by omega)⟩
        have c0 := (hm.cell (k * 3)).trans hu0
        have c1 := (hm.cell (k * 3 + 1)).trans hu1
        have c2 := (hm.cell (k * 3 + 2)).trans hu2
        have f0 := hm.open_ (k * 3)
        have f1 := hm.open_ (k * 3 + 1)
        have f2 := hm.open_ (k * 3 + 2)
        obtain ⟨z, hz⟩ : ∃ z : Int, z = q + ((k * 3 : Nat) : Int) := ⟨_, rfl⟩
        have hset := ((hm.set_ (k * 3) (.int .i64 (q + ((k * 3 : Nat) : Int)))).set_ (k * 3 + 1) (.int .i64 (q + ((k * 3 + 1 : Nat) : Int)))).set_ (k * 3 + 2) (.int .i64 (q + ((k * 3 + 2 : Nat) : Int)))
        rw [marked_next (fun i : Nat => .int .i64 (q + (i : Int))) cells (k := k * 3) (by omega), marked_next (fun i : Nat => .int .i64 (q + (i : Int))) cells (k := k * 3 + 1) (by omega), marked_next (fun i : Nat => .int .i64 (q + (i : Int))) cells (k := k * 3 + 2) (by omega), show q + ((k * 3 + 1 : Nat) : Int) = z + 1 by omega, show q + ((k * 3 + 2 : Nat) : Int) = z + 1 + 1 by omega, ← hz] at hset
        have HSET := Lib.hid hset
        have HSP := Lib.hid hs
        have hz0 : 0 ≤ z := by omega
        have hz1 : z ≤ 4611686018427387904 := by omega
        have HZ := Lib.hid hz
        rw [← hz]
        have hkl : (k : Int) < n := by omega
        clear hm hs hset hu0 hu1 hu2 h00 hz hs3
        have hw1 : IntKind.i64.wrap (z + 1) = z + 1 := IntWalk.i64_in _ (by omega)
        have hw2 : IntKind.i64.wrap (z + 1 + 1) = z + 1 + 1 := IntWalk.i64_in _ (by omega)
        have hw3 : IntKind.i64.wrap (z + 1 + 1 + 1) = z + 1 + 1 + 1 := IntWalk.i64_in _ (by omega)
        go_wp2
        go_roundw
        case rel => exact ⟨k + 1, by omega, by go_num, congrArg _ (by have := HZ.out; omega), by rw [show (k + 1) * 3 = k * 3 + 2 + 1 by omega]; exact HSET.out, HSP.out.trans ⟨rfl, rfl, rfl, by simp [World.setCell], fun j _ hj => ((Below.heap_setCell _ _ _ _ (by show j ≠ g; omega)).trans (Below.heap_setCell _ _ _ _ (by show j ≠ g; omega))).trans (Below.heap_setCell _ _ _ _ (by show j ≠ g; omega))⟩⟩
        case measure => simp [intOf]; omega
      · have hkn : k = n := by omega
        subst hkn
        go_wp2
        go_ret
        refine ⟨rfl, hs, .inr ⟨g, _, rfl, hlo, hhi, hm, ?_, ?_⟩⟩
        · simp [nums_len, marksI_len, marked]
        · rw [nums_len, marksI_len, marked_take _ _ _]
          simp [nums, marksI]

set_option maxHeartbeats 1600000 in
theorem heldClueS_any (A : Option Addr) (n c : Nat) (q : Int) (w : World) (hA : Holds w A (nums (marksI q (n * 3)))) (h0 : 0 ≤ q) (h1 : q ≤ 2305843009213693952) (hn : n ≤ 1048576) :
    Calls Try.prog 121 #[.slice A n c, .int .i64 q] w fun e w' => e = .returned (.int .i64 (q + ((n * 3 : Nat) : Int))) ∧ w = w' := by
  have hl := marksI_len q (n * 3)
  have HL := Lib.hid hl
  clear hl
  go_enter Try.func121, Try.ntmps121
  go_wp2
  go_loop [1, 5] (fun v i => ∃ k : Nat, k ≤ n ∧ i = .int .i64 k ∧ v = .int .i64 (q + ((k * 3 : Nat) : Int))) (fun _ i => n - (intOf i).toNat)
  case atStart => exact ⟨0, Nat.zero_le _, rfl, by simp⟩
  case round =>
    obtain ⟨k, hk, rfl, rfl⟩ := hrel
    by_cases hlt : k < n
    · obtain ⟨b, o, rfl, hb, hc0⟩ := hA.look (k := k * 3) (by rw [nums_len, HL.out]; omega)
      obtain ⟨b1, o1, hA1, hb1, hc1⟩ := hA.look (k := k * 3 + 1) (by rw [nums_len, HL.out]; omega)
      obtain ⟨b2, o2, hA2, hb2, hc2⟩ := hA.look (k := k * 3 + 2) (by rw [nums_len, HL.out]; omega)
      obtain ⟨rfl, rfl⟩ : b = b1 ∧ o = o1 := by
        simp only [Option.some.injEq, Addr.mk.injEq] at hA1
        exact ⟨hA1.1, hA1.2.1⟩
      obtain ⟨rfl, rfl⟩ : b = b2 ∧ o = o2 := by
        simp only [Option.some.injEq, Addr.mk.injEq] at hA2
        exact ⟨hA2.1, hA2.2.1⟩
      obtain ⟨z, hz⟩ : ∃ z : Int, z = q + ((k * 3 : Nat) : Int) := ⟨_, rfl⟩
      have hv0 : (nums (marksI q (n * 3)))[k * 3]'(by rw [nums_len, HL.out]; omega) = .int .i64 z := by simp [nums, marksI, hz]
      have hv1 : (nums (marksI q (n * 3)))[k * 3 + 1]'(by rw [nums_len, HL.out]; omega) = .int .i64 (z + 1) := by simp [nums, marksI, hz]; omega
      have hv2 : (nums (marksI q (n * 3)))[k * 3 + 2]'(by rw [nums_len, HL.out]; omega) = .int .i64 (z + 1 + 1) := by simp [nums, marksI, hz]; omega
      rw [hv0] at hc0
      rw [hv1] at hc1
      rw [hv2] at hc2
      rw [← Nat.add_assoc] at hc1 hc2
      have hkl : (k : Int) < n := by omega
      have hw1 : IntKind.i64.wrap (z + 1) = z + 1 := IntWalk.i64_in _ (by omega)
      have hw2 : IntKind.i64.wrap (z + 1 + 1) = z + 1 + 1 := IntWalk.i64_in _ (by omega)
      have hw3 : IntKind.i64.wrap (z + 1 + 1 + 1) = z + 1 + 1 + 1 := IntWalk.i64_in _ (by omega)
      have hn0 : (z != z) = false := by simp
      have hn1 : (z + 1 != z + 1) = false := by simp
      have hn2 : (z + 1 + 1 != z + 1 + 1) = false := by simp
      have HZ := Lib.hid hz
      rw [← hz]
      clear hv0 hv1 hv2 hA1 hA2 hb1 hb2 hz
      go_wp2
      go_round
      case rel => exact ⟨k + 1, by omega, by go_num, congrArg _ (by have := HZ.out; omega)⟩
      case measure => simp [intOf]; omega
    · have hkn : k = n := by omega
      subst hkn
      go_wp2
      go_ret
      exact ⟨rfl, rfl⟩

set_option maxHeartbeats 400000 in
theorem markPuzzle_any (s : Int) (A : Option Addr) (n c lo hi : Nat) (cs : List Cl) (q : Int) (w : World) (hf : Fresh w lo hi 87 A (clsC cs)) (hx : cs.length = n) (h0 : 0 ≤ q) (h1 : q ≤ 2305843009213693952) (hn : n ≤ 1048576) :
    Calls Try.prog 60 #[.agg #[.int .i64 s, .slice A n c], .int .i64 q] w fun e w' => e = .returned (.int .i64 (q + ((n * 3 : Nat) : Int))) ∧ Span lo hi w w' ∧ Fresh w' lo hi 87 A (nums (marksI q (n * 3))) := by
  have HX := Lib.hid hx
  clear hx
  go_enter Try.func60, Try.ntmps60
  go_wp2_with fail
  refine (markClueS_any A n c lo hi cs q _ (hf.alloc _) HX.out h0 h1 hn).mono ?_
  rintro e w1 ⟨rfl, hs, hf1⟩
  have HS := Lib.hid hs
  have HF := Lib.hid hf1
  clear hs hf1
  go_wp2
  go_ret
  exact ⟨rfl, (Span.of_below (below1 w _) lo hi).trans HS.out, HF.out⟩

set_option maxHeartbeats 400000 in
theorem heldPuzzle_any (A : Option Addr) (n c : Nat) (s q : Int) (w : World) (hA : Holds w A (nums (marksI q (n * 3)))) (h0 : 0 ≤ q) (h1 : q ≤ 2305843009213693952) (hn : n ≤ 1048576) :
    Calls Try.prog 61 #[.agg #[.int .i64 s, .slice A n c], .int .i64 q] w fun e w' => e = .returned (.int .i64 (q + ((n * 3 : Nat) : Int))) ∧ Below w.heap.size w w' := by
  have hq0 : ¬ (q + ((n * 3 : Nat) : Int) < 0) := by omega
  obtain ⟨z, hz⟩ : ∃ z : Int, z = q + ((n * 3 : Nat) : Int) := ⟨_, rfl⟩
  have H := Lib.hid (heldClueS_any A n c q _ (hA.alloc (.cells #[.int .i64 s, .slice A n c] 83)) h0 h1 hn)
  rw [← hz] at H hq0 ⊢
  clear hA hz
  go_enter Try.func61, Try.ntmps61
  go_wp2_with fail
  refine H.out.mono ?_
  rintro e w1 ⟨rfl, rfl⟩
  go_wp2
  go_ret
  exact ⟨rfl, below1 w _⟩
end Go.Proofs.Ytkocompjjogciaa

namespace Go.Proofs.Ytkocompjjogciaa
open Go.RowKit

set_option maxHeartbeats 800000 in
set_option linter.unusedVariables false in
theorem lawHarderPuzzle_big0 (k0 : Int) (A0 : Option Addr) (n0 c0 : Nat) (x0 : List Cl) (w : World) (h0 : Holds w A0 (clsC x0)) (hx0 : x0.length = n0) (hn0 : n0 ≤ 9223372036854775807)  (hbig : 1048576 - (n0 : Int) < 0) :
    Calls Try.prog 13 #[.agg #[.int .i64 k0, .slice A0 n0 c0]] w fun e w' => e = .returned (.bool true) ∧ Below w.heap.size w w' := by
  have hb0 := (Whole.fresh w 77 #[.int .i64 k0, .slice A0 n0 c0])
  have ht := below1 w (.cells #[.int .i64 k0, .slice A0 n0 c0] 77)
  have HX0 := Lib.hid hx0
  clear hx0
  obtain ⟨hb0_0, hb0_1⟩ := hb0.cells2
  have hb0_l := hb0.lt
  go_enter Try.func13, Try.ntmps13
  go_wp2_with fail
  refine (szPuzzle_any k0 A0 n0 c0 (1048576) _ (by omega) (by omega) (by omega)).mono ?_
  rintro e v1 ⟨rfl, hb⟩
  rw [if_pos (by omega)]
  have hz1 : w.heap.size + 1 ≤ v1.heap.size := by have := hb.size; simpa using this
  replace ht := below_then ht hb ht.size
  replace hb0 := hb0.below hb
  clear hb
  clear hb0_0 hb0_1 hb0_l
  go_wp2
  go_ret
  exact ⟨rfl, ht⟩

set_option maxHeartbeats 12800000 in
set_option maxRecDepth 100000 in
set_option linter.unusedSimpArgs false in
set_option linter.unusedVariables false in
theorem lawHarderPuzzle_small (k0 : Int) (A0 : Option Addr) (n0 c0 : Nat) (x0 : List Cl) (w : World) (h0 : Holds w A0 (clsC x0)) (hx0 : x0.length = n0) (hn0 : n0 ≤ 9223372036854775807) (g0 : 0 ≤ 1048576 - (n0 : Int)) :
    Calls Try.prog 13 #[.agg #[.int .i64 k0, .slice A0 n0 c0]] w fun e w' => e = .returned (.bool true) ∧ Below w.heap.size w w' := by
  have hb0 := (Whole.fresh w 77 #[.int .i64 k0, .slice A0 n0 c0])
  have ht := below1 w (.cells #[.int .i64 k0, .slice A0 n0 c0] 77)
  have HX0 := Lib.hid hx0
  clear hx0
  have hlen : ((hdL k0 x0)).length ≤ 1048576 := (hdL_le (by rw [HX0.out]; omega))
  obtain ⟨hb0_0, hb0_1⟩ := hb0.cells2
  have hb0_l := hb0.lt
  go_enter Try.func13, Try.ntmps13
  -- region 2
  go_wp2_with fail
  refine (szPuzzle_any k0 A0 n0 c0 (1048576) _ (by omega) (by omega) (by omega)).mono ?_
  rintro e v1 ⟨rfl, hb⟩
  rw [if_neg (by omega)]
  have hz1 : w.heap.size + 1 ≤ v1.heap.size := by have := hb.size; simpa using this
  replace ht := below_then ht hb ht.size
  replace hb0 := hb0.below hb
  clear hb
  clear hb0_0 hb0_1 hb0_l
  obtain ⟨hb0_0, hb0_1⟩ := hb0.cells2
  have hb0_l := hb0.lt
  -- region 5
  go_wp2_with fail
  refine (toPuzzle_own k0 A0 n0 c0 x0 _ (by exact h0.below ht) HX0.out (by omega)).mono ?_
  rintro e v2 ⟨gp0, rfl, hgp0, hwp0, hb⟩
  have hz2 : v1.heap.size ≤ v2.heap.size := by have := hb.size; simpa using this
  replace ht := below_then ht hb ht.size
  replace hb0 := hb0.below hb
  have hp0 := Fresh.of_whole (lo := v1.heap.size) (hi := v2.heap.size) hwp0 (by simpa using hgp0) hwp0.lt
  clear hgp0 hwp0
  clear hb
  clear hb0_0 hb0_1 hb0_l
  obtain ⟨hb0_0, hb0_1⟩ := hb0.cells2
  have hb0_l := hb0.lt
  go_wp2_with fail
  refine (specHard_any k0 _ _ n0 _ x0 _ (by exact hp0.holds) HX0.out (by omega)).mono ?_
  rintro e v3 ⟨B0, q0, rfl, hF0, hb⟩
  have hz3 : v2.heap.size ≤ v3.heap.size := by have := hb.size; simpa using this
  replace ht := below_then ht hb ht.size
  replace hb0 := hb0.below hb
  replace hp0 := hp0.below hb
  replace hF0 := hF0.more (lo' := v2.heap.size) (hi' := v3.heap.size) (by simp) (Nat.le_refl _)
  have hR0 := Whole.fresh v3 83 #[.int .i64 (hdP k0 x0), .slice B0 ((hdL k0 x0)).length q0]
  replace ht := ht.alloc ht.size (.cells #[.int .i64 (hdP k0 x0), .slice B0 ((hdL k0 x0)).length q0] 83)
  replace hb0 := hb0.alloc (.cells #[.int .i64 (hdP k0 x0), .slice B0 ((hdL k0 x0)).length q0] 83)
  replace hp0 := hp0.alloc (.cells #[.int .i64 (hdP k0 x0), .slice B0 ((hdL k0 x0)).length q0] 83)
  replace hF0 := hF0.alloc (.cells #[.int .i64 (hdP k0 x0), .slice B0 ((hdL k0 x0)).length q0] 83)
  clear hb
  clear hp0
  clear hb0_0 hb0_1 hb0_l
  obtain ⟨hb0_0, hb0_1⟩ := hb0.cells2
  have hb0_l := hb0.lt
  obtain ⟨hR0_0, hR0_1⟩ := hR0.cells2
  have hR0_l := hR0.lt
  -- region 6
  go_wp2_with fail
  refine (toPuzzle_own k0 A0 n0 c0 x0 _ (by exact h0.below ht) HX0.out (by omega)).mono ?_
  rintro e v4 ⟨gx0, rfl, hgx0, hwx0, hb⟩
  have hz4 : v3.heap.size + 1 ≤ v4.heap.size := by have := hb.size; simpa using this
  replace ht := below_then ht hb ht.size
  replace hb0 := hb0.below hb
  replace hF0 := hF0.below hb
  replace hR0 := hR0.below hb
  have hx0 := Fresh.of_whole (lo := v3.heap.size + 1) (hi := v4.heap.size) hwx0 (by simpa using hgx0) hwx0.lt
  clear hgx0 hwx0
  clear hb
  have hx90 := Whole.fresh v4 83 #[.int .i64 k0, .slice (some ⟨gx0, 0, none⟩) n0 n0]
  replace ht := ht.alloc ht.size (.cells #[.int .i64 k0, .slice (some ⟨gx0, 0, none⟩) n0 n0] 83)
  replace hb0 := hb0.alloc (.cells #[.int .i64 k0, .slice (some ⟨gx0, 0, none⟩) n0 n0] 83)
  replace hF0 := hF0.alloc (.cells #[.int .i64 k0, .slice (some ⟨gx0, 0, none⟩) n0 n0] 83)
  replace hR0 := hR0.alloc (.cells #[.int .i64 k0, .slice (some ⟨gx0, 0, none⟩) n0 n0] 83)
  replace hx0 := hx0.alloc (.cells #[.int .i64 k0, .slice (some ⟨gx0, 0, none⟩) n0 n0] 83)
  clear hb0_0 hb0_1 hb0_l hR0_0 hR0_1 hR0_l
  obtain ⟨hb0_0, hb0_1⟩ := hb0.cells2
  have hb0_l := hb0.lt
  obtain ⟨hR0_0, hR0_1⟩ := hR0.cells2
  have hR0_l := hR0.lt
  obtain ⟨hx90_0, hx90_1⟩ := hx90.cells2
  have hx90_l := hx90.lt
  -- region 7
  go_wp2_with fail
  refine (implHard_any k0 _ _ n0 _ x0 _ (by exact hx0.holds) HX0.out (by omega)).mono ?_
  rintro e v5 ⟨B1, q1, rfl, hF1, hb⟩
  have hz5 : v4.heap.size + 1 ≤ v5.heap.size := by have := hb.size; simpa using this
  replace ht := below_then ht hb ht.size
  replace hb0 := hb0.below hb
  replace hF0 := hF0.below hb
  replace hR0 := hR0.below hb
  replace hx0 := hx0.below hb
  replace hx90 := hx90.below hb
  replace hF1 := hF1.more (lo' := v4.heap.size + 1) (hi' := v5.heap.size) (by simp) (Nat.le_refl _)
  have hR1 := Whole.fresh v5 83 #[.int .i64 (hdP k0 x0), .slice B1 ((hdL k0 x0)).length q1]
  replace ht := ht.alloc ht.size (.cells #[.int .i64 (hdP k0 x0), .slice B1 ((hdL k0 x0)).length q1] 83)
  replace hb0 := hb0.alloc (.cells #[.int .i64 (hdP k0 x0), .slice B1 ((hdL k0 x0)).length q1] 83)
  replace hF0 := hF0.alloc (.cells #[.int .i64 (hdP k0 x0), .slice B1 ((hdL k0 x0)).length q1] 83)
  replace hR0 := hR0.alloc (.cells #[.int .i64 (hdP k0 x0), .slice B1 ((hdL k0 x0)).length q1] 83)
  replace hx0 := hx0.alloc (.cells #[.int .i64 (hdP k0 x0), .slice B1 ((hdL k0 x0)).length q1] 83)
  replace hx90 := hx90.alloc (.cells #[.int .i64 (hdP k0 x0), .slice B1 ((hdL k0 x0)).length q1] 83)
  replace hF1 := hF1.alloc (.cells #[.int .i64 (hdP k0 x0), .slice B1 ((hdL k0 x0)).length q1] 83)
  clear hb
  clear hb0_0 hb0_1 hb0_l hR0_0 hR0_1 hR0_l hx90_0 hx90_1 hx90_l
  obtain ⟨hb0_0, hb0_1⟩ := hb0.cells2
  have hb0_l := hb0.lt
  obtain ⟨hR0_0, hR0_1⟩ := hR0.cells2
  have hR0_l := hR0.lt
  obtain ⟨hx90_0, hx90_1⟩ := hx90.cells2
  have hx90_l := hx90.lt
  obtain ⟨hR1_0, hR1_1⟩ := hR1.cells2
  have hR1_l := hR1.lt
  -- region 8
  go_wp2_with fail
  refine (eqPuzzle_yes B1 B0 ((hdL k0 x0)).length q1 q0 ((hdL k0 x0)) (hdP k0 x0) _ (by exact hF1.holds) (by exact hF0.holds) rfl (by omega)).mono ?_
  rintro e v6 ⟨rfl, hb⟩
  have hz6 : v5.heap.size + 1 ≤ v6.heap.size := by have := hb.size; simpa using this
  replace ht := below_then ht hb ht.size
  replace hb0 := hb0.below hb
  replace hF0 := hF0.below hb
  replace hR0 := hR0.below hb
  replace hx0 := hx0.below hb
  replace hx90 := hx90.below hb
  replace hF1 := hF1.below hb
  replace hR1 := hR1.below hb
  clear hb
  clear hb0_0 hb0_1 hb0_l hR0_0 hR0_1 hR0_l hx90_0 hx90_1 hx90_l hR1_0 hR1_1 hR1_l
  obtain ⟨hb0_0, hb0_1⟩ := hb0.cells2
  have hb0_l := hb0.lt
  obtain ⟨hR0_0, hR0_1⟩ := hR0.cells2
  have hR0_l := hR0.lt
  obtain ⟨hx90_0, hx90_1⟩ := hx90.cells2
  have hx90_l := hx90.lt
  obtain ⟨hR1_0, hR1_1⟩ := hR1.cells2
  have hR1_l := hR1.lt
  -- region 10
  clear hb0_0 hb0_1 hb0_l hR0_0 hR0_1 hR0_l hx90_0 hx90_1 hx90_l hR1_0 hR1_1 hR1_l
  go_wp2_with fail
  refine wp_region_held_drew (S := (fun w' => w'.cell? ⟨w.heap.size, 0, none⟩ = some (.int .i64 k0) ∧ w'.cell? ⟨w.heap.size, 1, none⟩ = some (.slice A0 n0 c0) ∧ w'.cell? ⟨v3.heap.size, 0, none⟩ = some (.int .i64 (hdP k0 x0)) ∧ w'.cell? ⟨v3.heap.size, 1, none⟩ = some (.slice B0 ((hdL k0 x0)).length q0) ∧ w'.cell? ⟨v4.heap.size, 0, none⟩ = some (.int .i64 k0) ∧ w'.cell? ⟨v4.heap.size, 1, none⟩ = some (.slice (some ⟨gx0, 0, none⟩) n0 n0) ∧ w'.cell? ⟨v5.heap.size, 0, none⟩ = some (.int .i64 (hdP k0 x0)) ∧ w'.cell? ⟨v5.heap.size, 1, none⟩ = some (.slice B1 ((hdL k0 x0)).length q1))) (by kernel_rfl) ⟨hb0.drew.cell 0, hb0.drew.cell 1, hR0.drew.cell 0, hR0.drew.cell 1, hx90.drew.cell 0, hx90.drew.cell 1, hR1.drew.cell 0, hR1.drew.cell 1⟩ (fun hHeld => ?_)
  replace ht := ht.drew
  replace hb0 := hb0.drew
  replace hF0 := hF0.drew
  replace hR0 := hR0.drew
  replace hx0 := hx0.drew
  replace hx90 := hx90.drew
  replace hF1 := hF1.drew
  replace hR1 := hR1.drew
  refine wpAnyH_take (i := 0) (v := ?_) rfl (by kernel_rfl) (by kernel_rfl) (by kernel_rfl) (fun _ _ _ h => h) (Or.inl ⟨rfl, ?_⟩) hHeld ?_
  rotate_left
  · intro w' hS; obtain ⟨s0, s1, s2, s3, s4, s5, s6, s7⟩ := hS; go_simp <;> with_reducible rfl
  simp only [Act.put, List.getElem_toArray, List.getElem_cons_succ, List.getElem_cons_zero, List.setIfInBounds_toArray, List.set_cons_succ, List.set_cons_zero]
  refine wpAnyH_take (i := 1) (v := ?_) rfl (by kernel_rfl) (by kernel_rfl) (by kernel_rfl) (fun _ _ _ h => h) (Or.inl ⟨rfl, ?_⟩) hHeld ?_
  rotate_left
  · intro w' hS; obtain ⟨s0, s1, s2, s3, s4, s5, s6, s7⟩ := hS; go_simp <;> with_reducible rfl
  simp only [Act.put, List.getElem_toArray, List.getElem_cons_succ, List.getElem_cons_zero, List.setIfInBounds_toArray, List.set_cons_succ, List.set_cons_zero]
  refine wpAnyH_ready (rs := [2]) (by kernel_rfl) (by simp) (AllReadyH.cons rfl (fun K hK => ?_) AllReadyH.nil)
  go_simp
  refine (toPuzzle_own k0 A0 n0 c0 x0 _ (by exact h0.below ht) HX0.out (by omega)).mono ?_
  rintro e v7 ⟨gy0, rfl, hgy0, hwy0, hb⟩
  have hz7 : v6.heap.size ≤ v7.heap.size := by have := hb.size; simpa using this
  replace ht := below_then ht hb ht.size
  replace hb0 := hb0.below hb
  replace hF0 := hF0.below hb
  replace hR0 := hR0.below hb
  replace hx0 := hx0.below hb
  replace hx90 := hx90.below hb
  replace hF1 := hF1.below hb
  replace hR1 := hR1.below hb
  have hy0 := Fresh.of_whole (lo := v6.heap.size) (hi := v7.heap.size) hwy0 (by simpa using hgy0) hwy0.lt
  clear hgy0 hwy0
  clear hb
  refine hK.out _ _ ⟨hb0.cell 0, hb0.cell 1, hR0.cell 0, hR0.cell 1, hx90.cell 0, hx90.cell 1, hR1.cell 0, hR1.cell 1⟩ (fun hHeld => ?_)
  clear hK K
  try simp only [Act.put, List.getElem_toArray, List.getElem_cons_succ, List.getElem_cons_zero, List.setIfInBounds_toArray, List.set_cons_succ, List.set_cons_zero]
  refine wpAnyH_ready (rs := [3]) (by kernel_rfl) (by simp) (AllReadyH.cons rfl (fun K hK => ?_) AllReadyH.nil)
  go_simp
  refine (eqPuzzle_yes _ _ n0 _ _ x0 k0 _ (by exact hx0.holds) (by exact hy0.holds) HX0.out (by omega)).mono ?_
  rintro e v8 ⟨rfl, hb⟩
  have hz8 : v7.heap.size ≤ v8.heap.size := by have := hb.size; simpa using this
  replace ht := below_then ht hb ht.size
  replace hb0 := hb0.below hb
  replace hF0 := hF0.below hb
  replace hR0 := hR0.below hb
  replace hx0 := hx0.below hb
  replace hx90 := hx90.below hb
  replace hF1 := hF1.below hb
  replace hR1 := hR1.below hb
  replace hy0 := hy0.below hb
  clear hb
  clear hy0
  refine hK.out _ _ ⟨hb0.cell 0, hb0.cell 1, hR0.cell 0, hR0.cell 1, hx90.cell 0, hx90.cell 1, hR1.cell 0, hR1.cell 1⟩ (fun hHeld => ?_)
  clear hK K
  try simp only [Act.put, List.getElem_toArray, List.getElem_cons_succ, List.getElem_cons_zero, List.setIfInBounds_toArray, List.set_cons_succ, List.set_cons_zero]
  refine wpAnyH_take (i := 4) (v := ?_) rfl (by kernel_rfl) (by kernel_rfl) (by kernel_rfl) (fun _ _ _ h => h) (Or.inl ⟨rfl, ?_⟩) hHeld ?_
  rotate_left
  · intro w' hS; obtain ⟨s0, s1, s2, s3, s4, s5, s6, s7⟩ := hS; go_simp <;> with_reducible rfl
  simp only [Act.put, List.getElem_toArray, List.getElem_cons_succ, List.getElem_cons_zero, List.setIfInBounds_toArray, List.set_cons_succ, List.set_cons_zero]
  refine wpAnyH_done (by kernel_rfl) ?_ _
  clear hHeld
  obtain ⟨hb0_0, hb0_1⟩ := hb0.cells2
  have hb0_l := hb0.lt
  obtain ⟨hR0_0, hR0_1⟩ := hR0.cells2
  have hR0_l := hR0.lt
  obtain ⟨hx90_0, hx90_1⟩ := hx90.cells2
  have hx90_l := hx90.lt
  obtain ⟨hR1_0, hR1_1⟩ := hR1.cells2
  have hR1_l := hR1.lt
  -- region 13
  go_wp2_with fail
  refine (markPuzzle_any k0 (some ⟨gx0, 0, none⟩) n0 n0 _ _ x0 (1) _ hx0 HX0.out (by omega) (by omega) (by omega)).mono ?_
  rintro e v9 ⟨rfl, hs, -⟩
  have hsz := ht.size
  replace ht := hs.below ht (by omega) hsz
  replace hb0 := hs.whole hb0 (by omega)
  replace hF0 := hs.fresh hF0 (by omega)
  replace hR0 := hs.whole hR0 (by omega)
  replace hF1 := hs.fresh hF1 (by omega)
  replace hR1 := hs.whole hR1 (by omega)
  clear hs hsz hx0 hx90
  have hk_1 : (0 : Int) ≤ 1 + ((n0 * 3 : Nat) : Int) := by omega
  clear hb0_0 hb0_1 hb0_l hR0_0 hR0_1 hR0_l hx90_0 hx90_1 hx90_l hR1_0 hR1_1 hR1_l
  obtain ⟨hb0_0, hb0_1⟩ := hb0.cells2
  have hb0_l := hb0.lt
  obtain ⟨hR0_0, hR0_1⟩ := hR0.cells2
  have hR0_l := hR0.lt
  obtain ⟨hR1_0, hR1_1⟩ := hR1.cells2
  have hR1_l := hR1.lt
  -- region 14
  go_wp2_with fail
  refine (eqPuzzle_yes B1 B0 ((hdL k0 x0)).length q1 q0 ((hdL k0 x0)) (hdP k0 x0) _ (by exact hF1.holds) (by exact hF0.holds) rfl (by omega)).mono ?_
  rintro e v10 ⟨rfl, hb⟩
  have hz10 : v9.heap.size ≤ v10.heap.size := by have := hb.size; simpa using this
  replace ht := below_then ht hb ht.size
  replace hb0 := hb0.below hb
  replace hF0 := hF0.below hb
  replace hR0 := hR0.below hb
  replace hF1 := hF1.below hb
  replace hR1 := hR1.below hb
  clear hb
  clear hb0_0 hb0_1 hb0_l hR0_0 hR0_1 hR0_l hR1_0 hR1_1 hR1_l
  obtain ⟨hb0_0, hb0_1⟩ := hb0.cells2
  have hb0_l := hb0.lt
  obtain ⟨hR0_0, hR0_1⟩ := hR0.cells2
  have hR0_l := hR0.lt
  obtain ⟨hR1_0, hR1_1⟩ := hR1.cells2
  have hR1_l := hR1.lt
  -- region 17
  go_wp2_with fail
  refine (markPuzzle_any (hdP k0 x0) B1 ((hdL k0 x0)).length q1 _ _ ((hdL k0 x0)) 1 _ hF1 rfl (by omega) (by omega) hlen).mono ?_
  rintro e v11 ⟨rfl, hs, hM⟩
  have hsz := ht.size
  replace ht := hs.below ht (by omega) hsz
  replace hb0 := hs.whole hb0 (by omega)
  replace hF0 := hs.fresh hF0 (by omega)
  replace hR0 := hs.whole hR0 (by omega)
  replace hR1 := hs.whole hR1 (by omega)
  clear hs hF1 hsz
  clear hb0_0 hb0_1 hb0_l hR0_0 hR0_1 hR0_l hR1_0 hR1_1 hR1_l
  obtain ⟨hb0_0, hb0_1⟩ := hb0.cells2
  have hb0_l := hb0.lt
  obtain ⟨hR0_0, hR0_1⟩ := hR0.cells2
  have hR0_l := hR0.lt
  obtain ⟨hR1_0, hR1_1⟩ := hR1.cells2
  have hR1_l := hR1.lt
  -- region 19
  go_wp2_with fail
  refine (heldPuzzle_any B1 ((hdL k0 x0)).length q1 (hdP k0 x0) 1 _ (by exact hM.holds) (by omega) (by omega) hlen).mono ?_
  rintro e v12 ⟨rfl, hb⟩
  have hz12 : v11.heap.size ≤ v12.heap.size := by have := hb.size; simpa using this
  replace ht := below_then ht hb ht.size
  replace hb0 := hb0.below hb
  replace hF0 := hF0.below hb
  replace hR0 := hR0.below hb
  replace hR1 := hR1.below hb
  replace hM := hM.below hb
  clear hb
  have hm0 : (0 : Int) ≤ 1 + ((((hdL k0 x0)).length * 3 : Nat) : Int) := by omega
  clear hb0_0 hb0_1 hb0_l hR0_0 hR0_1 hR0_l hR1_0 hR1_1 hR1_l
  obtain ⟨hb0_0, hb0_1⟩ := hb0.cells2
  have hb0_l := hb0.lt
  obtain ⟨hR0_0, hR0_1⟩ := hR0.cells2
  have hR0_l := hR0.lt
  obtain ⟨hR1_0, hR1_1⟩ := hR1.cells2
  have hR1_l := hR1.lt
  -- region 24
  go_wp2_with fail
  refine (toPuzzle_own k0 A0 n0 c0 x0 _ (by exact h0.below ht) HX0.out (by omega)).mono ?_
  rintro e v13 ⟨gr0, rfl, hgr0, hwr0, hb⟩
  have hz13 : v12.heap.size ≤ v13.heap.size := by have := hb.size; simpa using this
  replace ht := below_then ht hb ht.size
  replace hb0 := hb0.below hb
  replace hF0 := hF0.below hb
  replace hR0 := hR0.below hb
  replace hR1 := hR1.below hb
  replace hM := hM.below hb
  have hr0 := Fresh.of_whole (lo := v12.heap.size) (hi := v13.heap.size) hwr0 (by simpa using hgr0) hwr0.lt
  clear hgr0 hwr0
  clear hb
  clear hb0_0 hb0_1 hb0_l hR0_0 hR0_1 hR0_l hR1_0 hR1_1 hR1_l
  obtain ⟨hb0_0, hb0_1⟩ := hb0.cells2
  have hb0_l := hb0.lt
  obtain ⟨hR0_0, hR0_1⟩ := hR0.cells2
  have hR0_l := hR0.lt
  obtain ⟨hR1_0, hR1_1⟩ := hR1.cells2
  have hR1_l := hR1.lt
  go_wp2_with fail
  refine (implHard_any k0 _ _ n0 _ x0 _ (by exact hr0.holds) HX0.out (by omega)).mono ?_
  rintro e v14 ⟨B2, q2, rfl, hF2, hb⟩
  have hz14 : v13.heap.size ≤ v14.heap.size := by have := hb.size; simpa using this
  replace ht := below_then ht hb ht.size
  replace hb0 := hb0.below hb
  replace hF0 := hF0.below hb
  replace hR0 := hR0.below hb
  replace hR1 := hR1.below hb
  replace hM := hM.below hb
  replace hr0 := hr0.below hb
  replace hF2 := hF2.more (lo' := v13.heap.size) (hi' := v14.heap.size) (by simp) (Nat.le_refl _)
  have hR2 := Whole.fresh v14 83 #[.int .i64 (hdP k0 x0), .slice B2 ((hdL k0 x0)).length q2]
  replace ht := ht.alloc ht.size (.cells #[.int .i64 (hdP k0 x0), .slice B2 ((hdL k0 x0)).length q2] 83)
  replace hb0 := hb0.alloc (.cells #[.int .i64 (hdP k0 x0), .slice B2 ((hdL k0 x0)).length q2] 83)
  replace hF0 := hF0.alloc (.cells #[.int .i64 (hdP k0 x0), .slice B2 ((hdL k0 x0)).length q2] 83)
  replace hR0 := hR0.alloc (.cells #[.int .i64 (hdP k0 x0), .slice B2 ((hdL k0 x0)).length q2] 83)
  replace hR1 := hR1.alloc (.cells #[.int .i64 (hdP k0 x0), .slice B2 ((hdL k0 x0)).length q2] 83)
  replace hM := hM.alloc (.cells #[.int .i64 (hdP k0 x0), .slice B2 ((hdL k0 x0)).length q2] 83)
  replace hr0 := hr0.alloc (.cells #[.int .i64 (hdP k0 x0), .slice B2 ((hdL k0 x0)).length q2] 83)
  replace hF2 := hF2.alloc (.cells #[.int .i64 (hdP k0 x0), .slice B2 ((hdL k0 x0)).length q2] 83)
  clear hb
  clear hr0
  clear hb0_0 hb0_1 hb0_l hR0_0 hR0_1 hR0_l hR1_0 hR1_1 hR1_l
  obtain ⟨hb0_0, hb0_1⟩ := hb0.cells2
  have hb0_l := hb0.lt
  obtain ⟨hR0_0, hR0_1⟩ := hR0.cells2
  have hR0_l := hR0.lt
  obtain ⟨hR1_0, hR1_1⟩ := hR1.cells2
  have hR1_l := hR1.lt
  obtain ⟨hR2_0, hR2_1⟩ := hR2.cells2
  have hR2_l := hR2.lt
  -- region 25
  go_wp2_with fail
  refine (eqPuzzle_yes B2 B0 ((hdL k0 x0)).length q2 q0 ((hdL k0 x0)) (hdP k0 x0) _ (by exact hF2.holds) (by exact hF0.holds) rfl (by omega)).mono ?_
  rintro e v15 ⟨rfl, hb⟩
  have hz15 : v14.heap.size + 1 ≤ v15.heap.size := by have := hb.size; simpa using this
  replace ht := below_then ht hb ht.size
  replace hb0 := hb0.below hb
  replace hF0 := hF0.below hb
  replace hR0 := hR0.below hb
  replace hR1 := hR1.below hb
  replace hM := hM.below hb
  replace hF2 := hF2.below hb
  replace hR2 := hR2.below hb
  clear hb
  clear hb0_0 hb0_1 hb0_l hR0_0 hR0_1 hR0_l hR1_0 hR1_1 hR1_l hR2_0 hR2_1 hR2_l
  obtain ⟨hb0_0, hb0_1⟩ := hb0.cells2
  have hb0_l := hb0.lt
  obtain ⟨hR0_0, hR0_1⟩ := hR0.cells2
  have hR0_l := hR0.lt
  obtain ⟨hR1_0, hR1_1⟩ := hR1.cells2
  have hR1_l := hR1.lt
  obtain ⟨hR2_0, hR2_1⟩ := hR2.cells2
  have hR2_l := hR2.lt
  -- region 28
  go_wp2_with fail
  refine (heldPuzzle_any B1 ((hdL k0 x0)).length q1 (hdP k0 x0) 1 _ (by exact hM.holds) (by omega) (by omega) hlen).mono ?_
  rintro e v16 ⟨rfl, hb⟩
  have hz16 : v15.heap.size ≤ v16.heap.size := by have := hb.size; simpa using this
  replace ht := below_then ht hb ht.size
  replace hb0 := hb0.below hb
  replace hF0 := hF0.below hb
  replace hR0 := hR0.below hb
  replace hR1 := hR1.below hb
  replace hM := hM.below hb
  replace hF2 := hF2.below hb
  replace hR2 := hR2.below hb
  clear hb
  clear hb0_0 hb0_1 hb0_l hR0_0 hR0_1 hR0_l hR1_0 hR1_1 hR1_l hR2_0 hR2_1 hR2_l
  obtain ⟨hb0_0, hb0_1⟩ := hb0.cells2
  have hb0_l := hb0.lt
  obtain ⟨hR0_0, hR0_1⟩ := hR0.cells2
  have hR0_l := hR0.lt
  obtain ⟨hR1_0, hR1_1⟩ := hR1.cells2
  have hR1_l := hR1.lt
  obtain ⟨hR2_0, hR2_1⟩ := hR2.cells2
  have hR2_l := hR2.lt
  go_wp2
  go_ret
  exact ⟨rfl, ht⟩

theorem lawHarderPuzzle_all (k0 : Int) (A0 : Option Addr) (n0 c0 : Nat) (x0 : List Cl) (w : World) (h0 : Holds w A0 (clsC x0)) (hx0 : x0.length = n0) (hn0 : n0 ≤ 9223372036854775807) :
    Calls Try.prog 13 #[.agg #[.int .i64 k0, .slice A0 n0 c0]] w fun e w' => e = .returned (.bool true) ∧ Below w.heap.size w w' := by
  rcases (inferInstance : Decidable (0 ≤ 1048576 - (n0 : Int))) with g0 | g0
  · exact lawHarderPuzzle_big0 k0 A0 n0 c0 x0 w h0 hx0 hn0  (by omega)
  exact lawHarderPuzzle_small k0 A0 n0 c0 x0 w h0 hx0 hn0 g0
end Go.Proofs.Ytkocompjjogciaa
