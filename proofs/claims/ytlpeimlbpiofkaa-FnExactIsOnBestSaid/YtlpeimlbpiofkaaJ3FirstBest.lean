/-
  What is proved: contracts of the program's onwardBy, routesBy and routesOf: the least times of a party to the end. Conditions: at most eight people, at most eight seats; each person's time is from 1 to 1000.
  What is proved: the contract of the program's bestLegs: the legs, in order, that lead on without losing time. Conditions: at most eight people; the lists are rising ones of people; what is left is told by a map, up to 512000000.
  What is proved: the trips on ways of least time of a party, told by the model's list of what is left and by the program's map, are the same. Conditions: at most eight people, each with a time from 1 to 1000.
  What is proved: contracts of the program's ifPlanned, planned, least and LeastTime. Conditions: the party's times are read as they lie.
  What is proved: contracts of LeastTime, of the model and of the program. Conditions: the party's times are read as they lie.
-/
import Derived.Test.YtlpeimlbpiofkaaJ2FirstBest
set_option linter.unusedSimpArgs false
set_option linter.unusedVariables false
namespace Go.Proofs.Ytlpeimlbpiofkaa
open Go.RowKit Go.Maps

theorem size_routes : (Try.prog.info? 78).map (·.size) = some 11 := by kernel_rfl
theorem place_code {bs : List Bool} {t : Bool} (h : bs.length ≤ 8) : placeCells bs t = plcC 4 (codeOf bs t) := by
  have key : ∀ i, i < 8 → bs.getD i false = pf 4 (codeOf bs t) i := fun i hi => by
    rw [pf, bitsOf_getD (show i < 2 * 4 by omega), bit_half, bit_code, if_neg (by omega), Nat.add_sub_cancel]
    by_cases hb : i < bs.length
    · simp [hb]
    · simp [hb]
  rw [placeCells, plcC, place9, key 0 (by omega), key 1 (by omega), key 2 (by omega), key 3 (by omega), key 4 (by omega), key 5 (by omega), key 6 (by omega), key 7 (by omega), pt, torch_back]
theorem code_mem {bs : List Bool} {t : Bool} (h : bs.length ≤ 8) : codeOf bs t ∈ sts 4 := by
  have h1 := code_lt bs t
  have h2 : 2 ^ bs.length ≤ 2 ^ 8 := Nat.pow_le_pow_right (by omega) h
  exact sts_mem.2 (by omega)
theorem cells11 {w : World} {g : Nat} {t : TypeId} {x0 x1 x2 x3 x4 x5 x6 x7 x8 x9 x10 : Value} (h : Whole w g t #[x0, x1, x2, x3, x4, x5, x6, x7, x8, x9, x10]) : w.cell? ⟨g, 0, none⟩ = some x0 ∧ w.cell? ⟨g, 1, none⟩ = some x1 ∧ w.cell? ⟨g, 2, none⟩ = some x2 ∧ w.cell? ⟨g, 3, none⟩ = some x3 ∧ w.cell? ⟨g, 4, none⟩ = some x4 ∧ w.cell? ⟨g, 5, none⟩ = some x5 ∧ w.cell? ⟨g, 6, none⟩ = some x6 ∧ w.cell? ⟨g, 7, none⟩ = some x7 ∧ w.cell? ⟨g, 8, none⟩ = some x8 ∧ w.cell? ⟨g, 9, none⟩ = some x9 ∧ w.cell? ⟨g, 10, none⟩ = some x10 := ⟨h.cell 0, h.cell 1, h.cell 2, h.cell 3, h.cell 4, h.cell 5, h.cell 6, h.cell 7, h.cell 8, h.cell 9, h.cell 10⟩
theorem map_only {w w' : World} {b g : Nat} {M : Nat → Option Int} {t : TypeId} {cs : Array Value} (h : PlaceMap w b M) (ho : Only g w w') (hg : Whole w g t cs) : PlaceMap w' b M := by
  obtain ⟨D, ⟨es, clock, hh, r⟩, hr⟩ := h
  have hne : b ≠ g := by
    rintro rfl
    have h1 : some (Obj.map es clock) = some (Obj.cells cs t (0, 0)) := hh.symm.trans hg
    simp at h1
  exact ⟨D, ⟨es, clock, (ho.block b hne).trans hh, r⟩, hr⟩
/-- The cells of routes. -/
def routeC (E : Option Addr) (k c x mb : Nat) : Array Value := #[.slice E k c, .bool (pf 4 x 0), .bool (pf 4 x 1), .bool (pf 4 x 2), .bool (pf 4 x 3), .bool (pf 4 x 4), .bool (pf 4 x 5), .bool (pf 4 x 6), .bool (pf 4 x 7), .bool (pt x), .map (some mb)]
theorem slow_one {xs : List Int} {n q : Nat} {l : List Int} (hx : xs.length = n) (hxs : ∀ y ∈ xs, 1 ≤ y) (hl : l ∈ upLists n q) : 1 ≤ slowOf xs l := by
  obtain ⟨h1, h2, -⟩ := mem_up.1 hl
  obtain ⟨k, r, rfl⟩ := List.exists_cons_of_ne_nil (show l ≠ [] by rintro rfl; simp at h2)
  have hk := mem_steps h1 (show k ∈ k :: r from List.mem_cons_self ..)
  have hkx : k.toNat < xs.length := by omega
  have h3 := hxs _ (List.getElem_mem hkx)
  have h4 := (foldl_max ((k :: r).map fun k => xs.getD k.toNat 0) 0).2 (xs.getD k.toNat 0) (by simp)
  have h5 : xs.getD k.toNat 0 = xs[k.toNat] := by simp [hkx]
  rw [h5] at h4
  exact Int.le_trans h3 h4
theorem onwardBy_any (T : List Int → Int) (lo : Nat) (E : Option Addr) (c : Nat) (Ls : List (List Int)) (w : World) (hown : w.ownsRow lo 89 9 (.slice E Ls.length c) Ls.length (legsCells T Ls)) :
    Calls Try.prog 118 #[.slice E Ls.length c] w fun e w' => ∃ gB, e = .returned (arrFnV gB) ∧ ArrFn w' T gB lo E c Ls ∧ Below w.heap.size w w' := by
  have HB := Lib.hid (below1 w (.cells #[.slice E Ls.length c] 70))
  have HW := Lib.hid (Whole.fresh w 70 #[.slice E Ls.length c])
  have HO := Lib.hid (hown.alloc (.cells #[.slice E Ls.length c] 70))
  clear hown
  go_enter Try.func118, Try.ntmps118
  go_wp2
  go_ret
  exact ⟨w.heap.size, rfl, ⟨HW.out, HO.out⟩, HB.out⟩

set_option maxHeartbeats 12800000 in
set_option maxRecDepth 100000 in
set_option linter.unusedVariables false in
set_option linter.unusedSimpArgs false in
theorem routesBy_any (T : List Int → Int) (lo : Nat) (E : Option Addr) (c : Nat) (Ls : List (List Int)) (n : Nat) (w : World) (hown0 : w.ownsRow lo 89 9 (.slice E Ls.length c) Ls.length (legsCells T Ls)) (hLs : Ls.length ≤ 255) (hup : ∀ l ∈ Ls, l ∈ upLists (2 * 4) (2 * 4)) (hT : ∀ l ∈ Ls, 1 ≤ T l ∧ T l ≤ 1000000) (h1 : 1 ≤ n) (hn : n ≤ 8) :
    Calls Try.prog 138 #[.slice E Ls.length c, .int .i64 (n : Int)] w fun e w' => ∃ mb, e = .returned (.agg (routeC E Ls.length c (codeOf (trues n) true) mb)) ∧ w'.ownsRow lo 89 9 (.slice E Ls.length c) Ls.length (legsCells T Ls) ∧ PlaceMap w' mb (leastD (LegE T 4 Ls) (codeOf (trues n) true)) ∧ Below w.heap.size w w' := by
  have HLS := Lib.hid hLs
  have HUP := Lib.hid hup
  have HTT := Lib.hid hT
  have HTL : Hid ((trues n).length = n) := by show _ = _; simp [trues]
  have HYD0 := Lib.hid (code_mem (bs := trues n) (t := true) (by rw [HTL.out]; exact hn))
  have HPC0 : Hid (placeCells (trues n) true = plcC 4 (codeOf (trues n) true)) := place_code (by rw [HTL.out]; exact hn)
  obtain ⟨y, hy⟩ : ∃ y, codeOf (trues n) true = y := ⟨_, rfl⟩
  rw [hy] at HYD0 HPC0 ⊢
  have HYD := HYD0
  clear hy
  have hr := Whole.fresh w 78 #[.slice none 0 0, .bool false, .bool false, .bool false, .bool false, .bool false, .bool false, .bool false, .bool false, .bool false, .map none]
  have ht := below1 w (.cells #[.slice none 0 0, .bool false, .bool false, .bool false, .bool false, .bool false, .bool false, .bool false, .bool false, .bool false, .map none] 78)
  have hown := hown0.alloc (.cells #[.slice none 0 0, .bool false, .bool false, .bool false, .bool false, .bool false, .bool false, .bool false, .bool false, .bool false, .map none] 78)
  clear hown0 hLs hup hT HYD0
  go_enter Try.func138, Try.ntmps138
  go_wp2_with fail
  refine (everybodyOver_any n _ hn).mono ?_
  rintro e w1 ⟨rfl, hb⟩
  rw [HPC0.out]
  replace hr := (hr.below hb).alloc (.cells #[.bool (pf 4 y 0), .bool (pf 4 y 1), .bool (pf 4 y 2), .bool (pf 4 y 3), .bool (pf 4 y 4), .bool (pf 4 y 5), .bool (pf 4 y 6), .bool (pf 4 y 7), .bool (pt y)] 75)
  have hp : Whole (w1.alloc (.cells #[.bool (pf 4 y 0), .bool (pf 4 y 1), .bool (pf 4 y 2), .bool (pf 4 y 3), .bool (pf 4 y 4), .bool (pf 4 y 5), .bool (pf 4 y 6), .bool (pf 4 y 7), .bool (pt y)] 75)) w1.heap.size 75 (plcC 4 y) := Whole.fresh _ _ _
  replace hown := (ownsRow_below hown hb).alloc (.cells #[.bool (pf 4 y 0), .bool (pf 4 y 1), .bool (pf 4 y 2), .bool (pf 4 y 3), .bool (pf 4 y 4), .bool (pf 4 y 5), .bool (pf 4 y 6), .bool (pf 4 y 7), .bool (pt y)] 75)
  have ht1 := below_then ht hb ht.size
  have hlo1 : w.heap.size + 1 ≤ w1.heap.size := by have := hb.size; simpa using this
  replace ht := ht1.alloc ht1.size (.cells #[.bool (pf 4 y 0), .bool (pf 4 y 1), .bool (pf 4 y 2), .bool (pf 4 y 3), .bool (pf 4 y 4), .bool (pf 4 y 5), .bool (pf 4 y 6), .bool (pf 4 y 7), .bool (pt y)] 75)
  clear hb ht1
  unfold plcC place9
  go_wp2_with fail
  refine wp_region_held_drew (S := (Nine0 w1.heap.size 4 y)) (by kernel_rfl) (nine0_of hp.drew) (fun hHeld => ?_)
  replace hp := hp.drew
  replace hr := hr.drew
  replace ht := ht.drew
  replace hown : (World.drew (w1.alloc (.cells #[.bool (pf 4 y 0), .bool (pf 4 y 1), .bool (pf 4 y 2), .bool (pf 4 y 3), .bool (pf 4 y 4), .bool (pf 4 y 5), .bool (pf 4 y 6), .bool (pf 4 y 7), .bool (pt y)] 75))).ownsRow lo 89 9 (.slice E Ls.length c) Ls.length (legsCells T Ls) := hown
  generalize World.drew (w1.alloc (.cells #[.bool (pf 4 y 0), .bool (pf 4 y 1), .bool (pf 4 y 2), .bool (pf 4 y 3), .bool (pf 4 y 4), .bool (pf 4 y 5), .bool (pf 4 y 6), .bool (pf 4 y 7), .bool (pt y)] 75)) = wd at hp hr ht hown hHeld ⊢
  refine wpAnyH_take (i := 0) (v := ?_) rfl (by kernel_rfl) (by kernel_rfl) (by kernel_rfl) (fun _ _ _ h => h) (Or.inl ⟨rfl, ?_⟩) hHeld ?_
  rotate_left
  · intro w' hS; obtain ⟨s0, s1, s2, s3, s4, s5, s6, s7, s8⟩ := hS; go_simp <;> with_reducible rfl
  simp only [Act.put, List.getElem_toArray, List.getElem_cons_succ, List.getElem_cons_zero, List.setIfInBounds_toArray, List.set_cons_succ, List.set_cons_zero]
  refine wpAnyH_take (i := 1) (v := ?_) rfl (by kernel_rfl) (by kernel_rfl) (by kernel_rfl) (fun _ _ _ h => h) (Or.inl ⟨rfl, ?_⟩) hHeld ?_
  rotate_left
  · intro w' hS; obtain ⟨s0, s1, s2, s3, s4, s5, s6, s7, s8⟩ := hS; go_simp <;> with_reducible rfl
  simp only [Act.put, List.getElem_toArray, List.getElem_cons_succ, List.getElem_cons_zero, List.setIfInBounds_toArray, List.set_cons_succ, List.set_cons_zero]
  refine wpAnyH_take (i := 2) (v := ?_) rfl (by kernel_rfl) (by kernel_rfl) (by kernel_rfl) (fun _ _ _ h => h) (Or.inl ⟨rfl, ?_⟩) hHeld ?_
  rotate_left
  · intro w' hS; obtain ⟨s0, s1, s2, s3, s4, s5, s6, s7, s8⟩ := hS; go_simp <;> with_reducible rfl
  simp only [Act.put, List.getElem_toArray, List.getElem_cons_succ, List.getElem_cons_zero, List.setIfInBounds_toArray, List.set_cons_succ, List.set_cons_zero]
  refine wpAnyH_take (i := 4) (v := ?_) rfl (by kernel_rfl) (by kernel_rfl) (by kernel_rfl) (fun _ _ _ h => h) (Or.inl ⟨rfl, ?_⟩) hHeld ?_
  rotate_left
  · intro w' hS; obtain ⟨s0, s1, s2, s3, s4, s5, s6, s7, s8⟩ := hS; go_simp <;> with_reducible rfl
  simp only [Act.put, List.getElem_toArray, List.getElem_cons_succ, List.getElem_cons_zero, List.setIfInBounds_toArray, List.set_cons_succ, List.set_cons_zero]
  refine wpAnyH_ready (rs := [3, 5]) (by kernel_rfl) (by simp) (AllReadyH.cons rfl (fun K hK => ?_) (AllReadyH.cons rfl (fun K hK => ?_) AllReadyH.nil))
  · go_simp
    refine (onwardBy_any T lo E c Ls _ hown).mono ?_
    rintro e wdo ⟨gB, rfl, hfn0, hb⟩
    replace hp := hp.below hb
    replace hr := hr.below hb
    replace hown := ownsRow_below hown hb
    replace ht := below_then ht hb ht.size
    clear hb
    have hfn := hfn0
    clear hfn0
    unfold arrFnV
    refine hK.out _ _ (nine0_of hp) (fun hHeld => ?_)
    clear hK K
    try simp only [Act.put, List.getElem_toArray, List.getElem_cons_succ, List.getElem_cons_zero, List.setIfInBounds_toArray, List.set_cons_succ, List.set_cons_zero]
    refine wpAnyH_ready (rs := [5]) (by kernel_rfl) (by simp) (AllReadyH.cons rfl (fun K hK => ?_) AllReadyH.nil)
    go_simp
    have hrow : Whole (World.alloc wdo (.cells #[.bool (pf 4 y 0), .bool (pf 4 y 1), .bool (pf 4 y 2), .bool (pf 4 y 3), .bool (pf 4 y 4), .bool (pf 4 y 5), .bool (pf 4 y 6), .bool (pf 4 y 7), .bool (pt y)] 75)) wdo.heap.size 75 (plcC 4 y) := Whole.fresh _ _ _
    have hb := below1 wdo (.cells #[.bool (pf 4 y 0), .bool (pf 4 y 1), .bool (pf 4 y 2), .bool (pf 4 y 3), .bool (pf 4 y 4), .bool (pf 4 y 5), .bool (pf 4 y 6), .bool (pf 4 y 7), .bool (pt y)] 75)
    obtain ⟨gR, hgR⟩ : ∃ g, g = wdo.heap.size := ⟨_, rfl⟩
    rw [← hgR] at hrow ⊢
    generalize World.alloc wdo (.cells #[.bool (pf 4 y 0), .bool (pf 4 y 1), .bool (pf 4 y 2), .bool (pf 4 y 3), .bool (pf 4 y 4), .bool (pf 4 y 5), .bool (pf 4 y 6), .bool (pf 4 y 7), .bool (pt y)] 75) = wdob at hrow hb ⊢
    replace hp := hp.below hb
    replace hr := hr.below hb
    replace hown := ownsRow_below hown hb
    replace hfn := hfn.below hb
    replace ht := below_then ht hb ht.size
    clear hb
    clear hgR
    refine hK.out _ _ (nine0_of hp) (fun hHeld => ?_)
    clear hK K
    try simp only [Act.put, List.getElem_toArray, List.getElem_cons_succ, List.getElem_cons_zero, List.setIfInBounds_toArray, List.set_cons_succ, List.set_cons_zero]
    refine wpAnyH_ready (rs := [6]) (by kernel_rfl) (by simp) (AllReadyH.cons rfl (fun K hK => ?_) AllReadyH.nil)
    go_simp
    have hlt := leastTimes_any T gB lo gR E c Ls y _ hfn HLS.out HUP.out HTT.out HYD.out hrow
    unfold arrFnV at hlt
    refine hlt.mono ?_
    clear hlt
    rintro e wdobt ⟨mb, rfl, hmap, hb⟩
    replace hp := hp.below hb
    replace hr := hr.below hb
    replace hown := ownsRow_below hown hb
    replace hfn := hfn.below hb
    replace hrow := hrow.below hb
    replace ht := below_then ht hb ht.size
    clear hb
    refine hK.out _ _ (nine0_of hp) (fun hHeld => ?_)
    clear hK K
    try simp only [Act.put, List.getElem_toArray, List.getElem_cons_succ, List.getElem_cons_zero, List.setIfInBounds_toArray, List.set_cons_succ, List.set_cons_zero]
    refine wpAnyH_take (i := 7) (v := ?_) rfl (by kernel_rfl) (by kernel_rfl) (by kernel_rfl) (fun _ _ _ h => h) (Or.inl ⟨rfl, ?_⟩) hHeld ?_
    rotate_left
    · intro w' hS; obtain ⟨s0, s1, s2, s3, s4, s5, s6, s7, s8⟩ := hS; go_simp <;> with_reducible rfl
    simp only [Act.put, List.getElem_toArray, List.getElem_cons_succ, List.getElem_cons_zero, List.setIfInBounds_toArray, List.set_cons_succ, List.set_cons_zero]
    refine wpAnyH_ready (rs := [8]) (by kernel_rfl) (by simp) (AllReadyH.cons rfl (fun K hK => ?_) AllReadyH.nil)
    refine wp_store_row 78 (.tmp 4) (.tmp 15) rfl (w.heap.size) #[.slice E Ls.length c, .bool (pf 4 y 0), .bool (pf 4 y 1), .bool (pf 4 y 2), .bool (pf 4 y 3), .bool (pf 4 y 4), .bool (pf 4 y 5), .bool (pf 4 y 6), .bool (pf 4 y 7), .bool (pt y), .map (some mb)] rfl rfl 78 #[.slice none 0 0, .bool false, .bool false, .bool false, .bool false, .bool false, .bool false, .bool false, .bool false, .bool false, .map none] hr size_routes rfl (by simp [Value.oneCell']) ?_
    have o9 := only_setRow wdobt (w.heap.size) #[.slice E Ls.length c, .bool (pf 4 y 0), .bool (pf 4 y 1), .bool (pf 4 y 2), .bool (pf 4 y 3), .bool (pf 4 y 4), .bool (pf 4 y 5), .bool (pf 4 y 6), .bool (pf 4 y 7), .bool (pt y), .map (some mb)]
    have x9 := whole_setRow #[.slice E Ls.length c, .bool (pf 4 y 0), .bool (pf 4 y 1), .bool (pf 4 y 2), .bool (pf 4 y 3), .bool (pf 4 y 4), .bool (pf 4 y 5), .bool (pf 4 y 6), .bool (pf 4 y 7), .bool (pt y), .map (some mb)] hr
    have p9 := o9.whole hp (by omega)
    have t9 := o9.below ht (Nat.le_refl _)
    have f9 := own_only hown o9 hr (by decide)
    have m9 := map_only hmap o9 hr
    generalize World.setRow wdobt (w.heap.size) #[.slice E Ls.length c, .bool (pf 4 y 0), .bool (pf 4 y 1), .bool (pf 4 y 2), .bool (pf 4 y 3), .bool (pf 4 y 4), .bool (pf 4 y 5), .bool (pf 4 y 6), .bool (pf 4 y 7), .bool (pt y), .map (some mb)] = w9 at o9 x9 p9 t9 f9 m9 ⊢
    refine hK.out _ _ (nine0_of p9) (fun hHeld => ?_)
    clear hK K
    try simp only [Act.put, List.getElem_toArray, List.getElem_cons_succ, List.getElem_cons_zero, List.setIfInBounds_toArray, List.set_cons_succ, List.set_cons_zero]
    refine wpAnyH_done (by kernel_rfl) ?_ _
    clear hHeld
    have X9 := Lib.hid x9
    have T9 := Lib.hid t9
    have F9 := Lib.hid f9
    have M9 := Lib.hid m9
    obtain ⟨r0, r1, r2, r3, r4, r5, r6, r7, r8, r9, r10⟩ := cells11 x9
    have hl9 := x9.lt
    clear x9 o9 p9 t9 f9 m9 hp hr hown hmap ht hfn hrow
    go_wp2_with fail
    exact bodyPost_ret (v := .agg #[.slice E Ls.length c, .bool (pf 4 y 0), .bool (pf 4 y 1), .bool (pf 4 y 2), .bool (pf 4 y 3), .bool (pf 4 y 4), .bool (pf 4 y 5), .bool (pf 4 y 6), .bool (pf 4 y 7), .bool (pt y), .map (some mb)]) (by simp [results, Try.results138, go_sem, r0, r1, r2, r3, r4, r5, r6, r7, r8, r9, r10]) rfl ⟨mb, by rw [routeC], F9.out, M9.out, T9.out⟩
  · go_simp
    have hrow : Whole (World.alloc wd (.cells #[.bool (pf 4 y 0), .bool (pf 4 y 1), .bool (pf 4 y 2), .bool (pf 4 y 3), .bool (pf 4 y 4), .bool (pf 4 y 5), .bool (pf 4 y 6), .bool (pf 4 y 7), .bool (pt y)] 75)) wd.heap.size 75 (plcC 4 y) := Whole.fresh _ _ _
    have hb := below1 wd (.cells #[.bool (pf 4 y 0), .bool (pf 4 y 1), .bool (pf 4 y 2), .bool (pf 4 y 3), .bool (pf 4 y 4), .bool (pf 4 y 5), .bool (pf 4 y 6), .bool (pf 4 y 7), .bool (pt y)] 75)
    obtain ⟨gR, hgR⟩ : ∃ g, g = wd.heap.size := ⟨_, rfl⟩
    rw [← hgR] at hrow ⊢
    generalize World.alloc wd (.cells #[.bool (pf 4 y 0), .bool (pf 4 y 1), .bool (pf 4 y 2), .bool (pf 4 y 3), .bool (pf 4 y 4), .bool (pf 4 y 5), .bool (pf 4 y 6), .bool (pf 4 y 7), .bool (pt y)] 75) = wdb at hrow hb ⊢
    replace hp := hp.below hb
    replace hr := hr.below hb
    replace hown := ownsRow_below hown hb
    replace ht := below_then ht hb ht.size
    clear hb
    clear hgR
    refine hK.out _ _ (nine0_of hp) (fun hHeld => ?_)
    clear hK K
    try simp only [Act.put, List.getElem_toArray, List.getElem_cons_succ, List.getElem_cons_zero, List.setIfInBounds_toArray, List.set_cons_succ, List.set_cons_zero]
    refine wpAnyH_ready (rs := [3]) (by kernel_rfl) (by simp) (AllReadyH.cons rfl (fun K hK => ?_) AllReadyH.nil)
    go_simp
    refine (onwardBy_any T lo E c Ls _ hown).mono ?_
    rintro e wdbo ⟨gB, rfl, hfn0, hb⟩
    replace hp := hp.below hb
    replace hr := hr.below hb
    replace hown := ownsRow_below hown hb
    replace hrow := hrow.below hb
    replace ht := below_then ht hb ht.size
    clear hb
    have hfn := hfn0
    clear hfn0
    unfold arrFnV
    refine hK.out _ _ (nine0_of hp) (fun hHeld => ?_)
    clear hK K
    try simp only [Act.put, List.getElem_toArray, List.getElem_cons_succ, List.getElem_cons_zero, List.setIfInBounds_toArray, List.set_cons_succ, List.set_cons_zero]
    refine wpAnyH_ready (rs := [6]) (by kernel_rfl) (by simp) (AllReadyH.cons rfl (fun K hK => ?_) AllReadyH.nil)
    go_simp
    have hlt := leastTimes_any T gB lo gR E c Ls y _ hfn HLS.out HUP.out HTT.out HYD.out hrow
    unfold arrFnV at hlt
    refine hlt.mono ?_
    clear hlt
    rintro e wdbot ⟨mb, rfl, hmap, hb⟩
    replace hp := hp.below hb
    replace hr := hr.below hb
    replace hown := ownsRow_below hown hb
    replace hfn := hfn.below hb
    replace hrow := hrow.below hb
    replace ht := below_then ht hb ht.size
    clear hb
    refine hK.out _ _ (nine0_of hp) (fun hHeld => ?_)
    clear hK K
    try simp only [Act.put, List.getElem_toArray, List.getElem_cons_succ, List.getElem_cons_zero, List.setIfInBounds_toArray, List.set_cons_succ, List.set_cons_zero]
    refine wpAnyH_take (i := 7) (v := ?_) rfl (by kernel_rfl) (by kernel_rfl) (by kernel_rfl) (fun _ _ _ h => h) (Or.inl ⟨rfl, ?_⟩) hHeld ?_
    rotate_left
    · intro w' hS; obtain ⟨s0, s1, s2, s3, s4, s5, s6, s7, s8⟩ := hS; go_simp <;> with_reducible rfl
    simp only [Act.put, List.getElem_toArray, List.getElem_cons_succ, List.getElem_cons_zero, List.setIfInBounds_toArray, List.set_cons_succ, List.set_cons_zero]
    refine wpAnyH_ready (rs := [8]) (by kernel_rfl) (by simp) (AllReadyH.cons rfl (fun K hK => ?_) AllReadyH.nil)
    refine wp_store_row 78 (.tmp 4) (.tmp 15) rfl (w.heap.size) #[.slice E Ls.length c, .bool (pf 4 y 0), .bool (pf 4 y 1), .bool (pf 4 y 2), .bool (pf 4 y 3), .bool (pf 4 y 4), .bool (pf 4 y 5), .bool (pf 4 y 6), .bool (pf 4 y 7), .bool (pt y), .map (some mb)] rfl rfl 78 #[.slice none 0 0, .bool false, .bool false, .bool false, .bool false, .bool false, .bool false, .bool false, .bool false, .bool false, .map none] hr size_routes rfl (by simp [Value.oneCell']) ?_
    have o9 := only_setRow wdbot (w.heap.size) #[.slice E Ls.length c, .bool (pf 4 y 0), .bool (pf 4 y 1), .bool (pf 4 y 2), .bool (pf 4 y 3), .bool (pf 4 y 4), .bool (pf 4 y 5), .bool (pf 4 y 6), .bool (pf 4 y 7), .bool (pt y), .map (some mb)]
    have x9 := whole_setRow #[.slice E Ls.length c, .bool (pf 4 y 0), .bool (pf 4 y 1), .bool (pf 4 y 2), .bool (pf 4 y 3), .bool (pf 4 y 4), .bool (pf 4 y 5), .bool (pf 4 y 6), .bool (pf 4 y 7), .bool (pt y), .map (some mb)] hr
    have p9 := o9.whole hp (by omega)
    have t9 := o9.below ht (Nat.le_refl _)
    have f9 := own_only hown o9 hr (by decide)
    have m9 := map_only hmap o9 hr
    generalize World.setRow wdbot (w.heap.size) #[.slice E Ls.length c, .bool (pf 4 y 0), .bool (pf 4 y 1), .bool (pf 4 y 2), .bool (pf 4 y 3), .bool (pf 4 y 4), .bool (pf 4 y 5), .bool (pf 4 y 6), .bool (pf 4 y 7), .bool (pt y), .map (some mb)] = w9 at o9 x9 p9 t9 f9 m9 ⊢
    refine hK.out _ _ (nine0_of p9) (fun hHeld => ?_)
    clear hK K
    try simp only [Act.put, List.getElem_toArray, List.getElem_cons_succ, List.getElem_cons_zero, List.setIfInBounds_toArray, List.set_cons_succ, List.set_cons_zero]
    refine wpAnyH_done (by kernel_rfl) ?_ _
    clear hHeld
    have X9 := Lib.hid x9
    have T9 := Lib.hid t9
    have F9 := Lib.hid f9
    have M9 := Lib.hid m9
    obtain ⟨r0, r1, r2, r3, r4, r5, r6, r7, r8, r9, r10⟩ := cells11 x9
    have hl9 := x9.lt
    clear x9 o9 p9 t9 f9 m9 hp hr hown hmap ht hfn hrow
    go_wp2_with fail
    exact bodyPost_ret (v := .agg #[.slice E Ls.length c, .bool (pf 4 y 0), .bool (pf 4 y 1), .bool (pf 4 y 2), .bool (pf 4 y 3), .bool (pf 4 y 4), .bool (pf 4 y 5), .bool (pf 4 y 6), .bool (pf 4 y 7), .bool (pt y), .map (some mb)]) (by simp [results, Try.results138, go_sem, r0, r1, r2, r3, r4, r5, r6, r7, r8, r9, r10]) rfl ⟨mb, by rw [routeC], F9.out, M9.out, T9.out⟩

set_option maxHeartbeats 12800000 in
set_option maxRecDepth 100000 in
set_option linter.unusedVariables false in
set_option linter.unusedSimpArgs false in
theorem routesOf_any (A : Option Addr) (n c q : Nat) (xs : List Int) (w : World) (hA0 : Holds w A (nums xs)) (hx : xs.length = n) (h1 : 1 ≤ n) (hn : n ≤ 8) (hq8 : q ≤ 8) (hxs : ∀ y ∈ xs, 1 ≤ y ∧ y ≤ 1000) :
    Calls Try.prog 109 #[.agg #[.slice A n c, .int .i64 (q : Int)]] w fun e w' => ∃ (E : Option Addr) (cE mb : Nat), e = .returned (.agg (routeC E (upLists n q).length cE (codeOf (trues n) true) mb)) ∧ w'.ownsRow w.heap.size 89 9 (.slice E (upLists n q).length cE) (upLists n q).length (legsCells (slowOf xs) (upLists n q)) ∧ PlaceMap w' mb (partyD xs n q (codeOf (trues n) true)) ∧ Below w.heap.size w w' := by
  have hA := Lib.hid hA0
  have HX := Lib.hid hx
  have HLS := Lib.hid (upLists_small (n := n) (m := q) hn)
  have HUP : Hid (∀ l ∈ upLists n q, l ∈ upLists (2 * 4) (2 * 4)) := fun l hl => up_wide (up_all hl) (by omega)
  have HTT : Hid (∀ l ∈ upLists n q, 1 ≤ slowOf xs l ∧ slowOf xs l ≤ 1000000) := fun l hl => by
    have h2 := (slow_boundF (l := l) (fun y hy => (hxs y hy).1) (fun y hy => (hxs y hy).2)).2
    exact ⟨slow_one hx (fun y hy => (hxs y hy).1) hl, by omega⟩
  have hq := (Whole.fresh w 28 #[.slice A n c, .int .i64 (q : Int)]).alloc (.cells #[.slice none 0 0, .bool false, .bool false, .bool false, .bool false, .bool false, .bool false, .bool false, .bool false, .bool false, .map none] 78)
  have hr := Whole.fresh (w.alloc (.cells #[.slice A n c, .int .i64 (q : Int)] 28)) 78 #[.slice none 0 0, .bool false, .bool false, .bool false, .bool false, .bool false, .bool false, .bool false, .bool false, .bool false, .map none]
  rw [World.size_alloc] at hr
  have ht := below2 w (.cells #[.slice A n c, .int .i64 (q : Int)] 28) (.cells #[.slice none 0 0, .bool false, .bool false, .bool false, .bool false, .bool false, .bool false, .bool false, .bool false, .bool false, .map none] 78)
  clear hA0 hx hxs
  go_enter Try.func109, Try.ntmps109
  go_wp2_with fail
  refine wp_region_held_drew (S := (Two w.heap.size (.slice A n c) (.int .i64 (q : Int)))) (by kernel_rfl) (two_of hq.drew) (fun hHeld => ?_)
  replace hq := hq.drew
  replace hr := hr.drew
  replace ht := ht.drew
  generalize World.drew ((w.alloc (.cells #[.slice A n c, .int .i64 (q : Int)] 28)).alloc (.cells #[.slice none 0 0, .bool false, .bool false, .bool false, .bool false, .bool false, .bool false, .bool false, .bool false, .bool false, .map none] 78)) = we at hq hr ht hHeld ⊢
  refine wpAnyH_take (i := 0) (v := ?_) rfl (by kernel_rfl) (by kernel_rfl) (by kernel_rfl) (fun _ _ _ h => h) (Or.inl ⟨rfl, ?_⟩) hHeld ?_
  rotate_left
  · intro w' hS; obtain ⟨s0, s1⟩ := hS; go_simp <;> with_reducible rfl
  simp only [Act.put, List.getElem_toArray, List.getElem_cons_succ, List.getElem_cons_zero, List.setIfInBounds_toArray, List.set_cons_succ, List.set_cons_zero]
  refine wpAnyH_take (i := 2) (v := ?_) rfl (by kernel_rfl) (by kernel_rfl) (by kernel_rfl) (fun _ _ _ h => h) (Or.inl ⟨rfl, ?_⟩) hHeld ?_
  rotate_left
  · intro w' hS; obtain ⟨s0, s1⟩ := hS; go_simp <;> with_reducible rfl
  simp only [Act.put, List.getElem_toArray, List.getElem_cons_succ, List.getElem_cons_zero, List.setIfInBounds_toArray, List.set_cons_succ, List.set_cons_zero]
  refine wpAnyH_take (i := 3) (v := ?_) rfl (by kernel_rfl) (by kernel_rfl) (by kernel_rfl) (fun _ _ _ h => h) (Or.inl ⟨rfl, ?_⟩) hHeld ?_
  rotate_left
  · intro w' hS; obtain ⟨s0, s1⟩ := hS; go_simp <;> with_reducible rfl
  simp only [Act.put, List.getElem_toArray, List.getElem_cons_succ, List.getElem_cons_zero, List.setIfInBounds_toArray, List.set_cons_succ, List.set_cons_zero]
  refine wpAnyH_take (i := 4) (v := ?_) rfl (by kernel_rfl) (by kernel_rfl) (by kernel_rfl) (fun _ _ _ h => h) (Or.inl ⟨rfl, ?_⟩) hHeld ?_
  rotate_left
  · intro w' hS; obtain ⟨s0, s1⟩ := hS; go_simp <;> with_reducible rfl
  simp only [Act.put, List.getElem_toArray, List.getElem_cons_succ, List.getElem_cons_zero, List.setIfInBounds_toArray, List.set_cons_succ, List.set_cons_zero]
  refine wpAnyH_ready (rs := [1]) (by kernel_rfl) (by simp) (AllReadyH.cons rfl (fun K hK => ?_) AllReadyH.nil)
  go_simp
  refine (legsOf_any A n c q xs _ (hA.out.below ht) HX.out hn hq8).mono ?_
  rintro e wel ⟨E, cE, rfl, hown, hb⟩
  have hbl := ht.size
  replace hq := hq.below hb
  replace hr := hr.below hb
  replace ht := below_then ht hb ht.size
  clear hb
  refine hK.out _ _ (two_of hq) (fun hHeld => ?_)
  clear hK K
  try simp only [Act.put, List.getElem_toArray, List.getElem_cons_succ, List.getElem_cons_zero, List.setIfInBounds_toArray, List.set_cons_succ, List.set_cons_zero]
  refine wpAnyH_ready (rs := [5]) (by kernel_rfl) (by simp) (AllReadyH.cons rfl (fun K hK => ?_) AllReadyH.nil)
  go_simp
  refine (routesBy_any (slowOf xs) _ E cE (upLists n q) n _ hown HLS.out HUP.out HTT.out h1 hn).mono ?_
  rintro e welb ⟨mb, rfl, hown2, hmap, hb⟩
  replace hq := hq.below hb
  replace hr := hr.below hb
  replace ht := below_then ht hb ht.size
  clear hb hown
  unfold routeC
  refine hK.out _ _ (two_of hq) (fun hHeld => ?_)
  clear hK K
  try simp only [Act.put, List.getElem_toArray, List.getElem_cons_succ, List.getElem_cons_zero, List.setIfInBounds_toArray, List.set_cons_succ, List.set_cons_zero]
  refine wpAnyH_ready (rs := [6]) (by kernel_rfl) (by simp) (AllReadyH.cons rfl (fun K hK => ?_) AllReadyH.nil)
  refine wp_store_row 78 (.tmp 2) (.tmp 8) rfl (w.heap.size + 1) #[.slice E (upLists n q).length cE, .bool (pf 4 (codeOf (trues n) true) 0), .bool (pf 4 (codeOf (trues n) true) 1), .bool (pf 4 (codeOf (trues n) true) 2), .bool (pf 4 (codeOf (trues n) true) 3), .bool (pf 4 (codeOf (trues n) true) 4), .bool (pf 4 (codeOf (trues n) true) 5), .bool (pf 4 (codeOf (trues n) true) 6), .bool (pf 4 (codeOf (trues n) true) 7), .bool (pt (codeOf (trues n) true)), .map (some mb)] rfl rfl 78 #[.slice none 0 0, .bool false, .bool false, .bool false, .bool false, .bool false, .bool false, .bool false, .bool false, .bool false, .map none] hr size_routes rfl (by simp [Value.oneCell']) ?_
  have o9 := only_setRow welb (w.heap.size + 1) #[.slice E (upLists n q).length cE, .bool (pf 4 (codeOf (trues n) true) 0), .bool (pf 4 (codeOf (trues n) true) 1), .bool (pf 4 (codeOf (trues n) true) 2), .bool (pf 4 (codeOf (trues n) true) 3), .bool (pf 4 (codeOf (trues n) true) 4), .bool (pf 4 (codeOf (trues n) true) 5), .bool (pf 4 (codeOf (trues n) true) 6), .bool (pf 4 (codeOf (trues n) true) 7), .bool (pt (codeOf (trues n) true)), .map (some mb)]
  have x9 := whole_setRow #[.slice E (upLists n q).length cE, .bool (pf 4 (codeOf (trues n) true) 0), .bool (pf 4 (codeOf (trues n) true) 1), .bool (pf 4 (codeOf (trues n) true) 2), .bool (pf 4 (codeOf (trues n) true) 3), .bool (pf 4 (codeOf (trues n) true) 4), .bool (pf 4 (codeOf (trues n) true) 5), .bool (pf 4 (codeOf (trues n) true) 6), .bool (pf 4 (codeOf (trues n) true) 7), .bool (pt (codeOf (trues n) true)), .map (some mb)] hr
  have q9 := o9.whole hq (by omega)
  have t9 := o9.below ht (by omega)
  have f9 := own_lower (own_only hown2 o9 hr (by decide)) hbl
  have m9 := map_only hmap o9 hr
  generalize World.setRow welb (w.heap.size + 1) #[.slice E (upLists n q).length cE, .bool (pf 4 (codeOf (trues n) true) 0), .bool (pf 4 (codeOf (trues n) true) 1), .bool (pf 4 (codeOf (trues n) true) 2), .bool (pf 4 (codeOf (trues n) true) 3), .bool (pf 4 (codeOf (trues n) true) 4), .bool (pf 4 (codeOf (trues n) true) 5), .bool (pf 4 (codeOf (trues n) true) 6), .bool (pf 4 (codeOf (trues n) true) 7), .bool (pt (codeOf (trues n) true)), .map (some mb)] = w9 at o9 x9 q9 t9 f9 m9 ⊢
  refine hK.out _ _ (two_of q9) (fun hHeld => ?_)
  clear hK K
  try simp only [Act.put, List.getElem_toArray, List.getElem_cons_succ, List.getElem_cons_zero, List.setIfInBounds_toArray, List.set_cons_succ, List.set_cons_zero]
  refine wpAnyH_done (by kernel_rfl) ?_ _
  clear hHeld
  have T9 := Lib.hid t9
  have F9 := Lib.hid f9
  have M9 := Lib.hid m9
  obtain ⟨r0, r1, r2, r3, r4, r5, r6, r7, r8, r9, r10⟩ := cells11 x9
  have hl9 := x9.lt
  clear x9 o9 q9 t9 f9 m9 hq hr hown2 hmap ht
  go_wp2_with fail
  exact bodyPost_ret (v := .agg #[.slice E (upLists n q).length cE, .bool (pf 4 (codeOf (trues n) true) 0), .bool (pf 4 (codeOf (trues n) true) 1), .bool (pf 4 (codeOf (trues n) true) 2), .bool (pf 4 (codeOf (trues n) true) 3), .bool (pf 4 (codeOf (trues n) true) 4), .bool (pf 4 (codeOf (trues n) true) 5), .bool (pf 4 (codeOf (trues n) true) 6), .bool (pf 4 (codeOf (trues n) true) 7), .bool (pt (codeOf (trues n) true)), .map (some mb)]) (by simp [results, Try.results109, go_sem, r0, r1, r2, r3, r4, r5, r6, r7, r8, r9, r10]) rfl ⟨E, cE, mb, by rw [routeC], F9.out, M9.out, T9.out⟩
end Go.Proofs.Ytlpeimlbpiofkaa

namespace Go.Proofs.Ytlpeimlbpiofkaa
open Go.RowKit Go.Maps

set_option maxHeartbeats 12800000 in
set_option maxRecDepth 100000 in
set_option linter.unusedSimpArgs false in
set_option linter.unusedVariables false in
theorem bestLegs_any (T : List Int → Int) (lo : Nat) (E : Option Addr) (c : Nat) (Ls : List (List Int)) (e mb : Nat) (M : Nat → Option Int) (x : Nat) (w : World) (hown0 : w.ownsRow lo 89 9 (.slice E Ls.length c) Ls.length (legsCells T Ls)) (hLs : Ls.length ≤ 255) (hup : ∀ l ∈ Ls, l ∈ upLists (2 * 4) (2 * 4)) (hx : x ∈ sts 4) (hM0 : PlaceMap w mb M) (hlow : ∀ y, 0 ≤ lf M y ∧ lf M y ≤ 512000000) (hTT : ∀ l ∈ Ls, 1 ≤ T l ∧ T l ≤ 1000000) :
    Calls Try.prog 71 #[.agg (routeC E Ls.length c e mb), .agg (plcC 4 x)] w (LegsPost T (bestOf T Ls M x) w) := by
  obtain ⟨i0, hi, hz0, hz1, hz2⟩ := info_parts info_leg
  have HI := Lib.hid hi
  have HZ0 := Lib.hid hz0
  have HZ1 := Lib.hid hz1
  have HZ2 := Lib.hid hz2
  have HUP := Lib.hid hup
  have HXD := Lib.hid hx
  have HTT := Lib.hid hTT
  have HLOW := Lib.hid hlow
  have h2 := (Whole.fresh w 78 (routeC E Ls.length c e mb)).alloc (.cells (plcC 4 x) 75)
  have h3 := Whole.fresh (w.alloc (.cells (routeC E Ls.length c e mb) 78)) 75 (plcC 4 x)
  rw [World.size_alloc] at h3
  have hb2 := below2 w (.cells (routeC E Ls.length c e mb) 78) (.cells (plcC 4 x) 75)
  have HOE0 := Lib.hid hown0
  have HME0 := Lib.hid hM0
  have k0 := (cells11 (x0 := .slice E Ls.length c) h2).1
  have hl2 := h2.lt
  have H2 := Lib.hid h2
  have H3 := Lib.hid h3
  have HB := Lib.hid hb2
  clear hi hz0 hz1 hz2 hown0 hM0 hup hx hTT hlow h2 h3 hb2
  unfold routeC at H2 HB k0 hl2 H3
  unfold plcC place9 at HB k0 hl2 H2
  unfold routeC plcC place9
  go_enter Try.func71, Try.ntmps71
  go_wp2
  go_loopw [5, 11] (fun v i wr => ∃ (j : Nat) (Q : Option Addr) (r : Nat), j ≤ Ls.length ∧ i = .int .i64 j ∧ v = .slice Q (bestOf T (Ls.take j) M x).length r ∧ wr.ownsRow (w.heap.size + 2) 89 9 (.slice Q (bestOf T (Ls.take j) M x).length r) (bestOf T (Ls.take j) M x).length (legsCells T (bestOf T (Ls.take j) M x)) ∧ Whole wr (w.heap.size + 1) 75 (plcC 4 x) ∧ Whole wr w.heap.size 78 #[.slice E Ls.length c, .bool (pf 4 e 0), .bool (pf 4 e 1), .bool (pf 4 e 2), .bool (pf 4 e 3), .bool (pf 4 e 4), .bool (pf 4 e 5), .bool (pf 4 e 6), .bool (pf 4 e 7), .bool (pt e), .map (some mb)] ∧ Below w.heap.size w wr) (fun _ i _ => Ls.length - (intOf i).toNat)
  case atStart => exact ⟨0, none, 0, Nat.zero_le _, rfl, rfl, World.ownsRow_nil _ _ _ _, H3.out, H2.out, HB.out⟩
  case round =>
    clear H3 H2 HB k0 hl2
    obtain ⟨j, Q, r, hj, rfl, rfl, hM, h3, h2, ht⟩ := hrel
    by_cases hlt : j < Ls.length
    · have hd : decide ((j : Int) < (Ls.length : Int)) = true := by simp; omega
      have hFr := ownsRow_below HOE0.out ht
      obtain ⟨gs, rfl, hgl, a0, a1, a2, a3, a4, a5, a6, a7, a8⟩ := legs_row hFr hlt
      have hst := up_steps (HUP.out _ (List.getElem_mem hlt))
      have HST := Lib.hid hst.1
      have HOUT : Hid (∀ i, (bitsOf (x / 2) (2 * 4)).length ≤ i → has Ls[j] i = false) := fun i hi => has_out hst.1 (by rw [bitsOf_len] at hi; omega)
      have hrl : (bestOf T (Ls.take j) M x).length ≤ Ls.length := Nat.le_trans (best_len _ _ _ _) (by rw [List.length_take]; omega)
      have HPC : Hid (placeCells (bitsOf (x / 2) (2 * 4)) (bitAt x 0) = plcC 4 x) := rfl
      have HNO := fun h => Lib.hid (best_no (T := T) (M := M) (x := x) hlt h)
      have HYES := fun h => Lib.hid (best_yes (T := T) (M := M) (x := x) hlt h)
      have hwl := h3.lt
      have hw0 : w.heap.size + 2 ≤ wr.heap.size := hwl
      have HOL : Hid (∀ q, (Value.slice Q (bestOf T (Ls.take j) M x).length r).ownBlock = some q → w.heap.size + 2 ≤ q ∧ q < wr.heap.size) := fun q hq => hM.lt q hq
      have hM1 := HME0.out.below ht
      have hTl := HTT.out _ (List.getElem_mem hlt)
      clear hst hFr
      obtain ⟨tl, htl⟩ : ∃ tl, T Ls[j] = tl := ⟨_, rfl⟩
      rw [htl] at a8 hTl
      have HTL := Lib.hid htl
      rw [htl] at HNO HYES
      clear htl
      obtain ⟨na, hna⟩ : ∃ na, (bestOf T (Ls.take j) M x).length = na := ⟨_, rfl⟩
      have HNA := Lib.hid hna
      rw [hna] at hM hrl HOL ⊢
      clear hna
      have hx1 := Whole.fresh wr 89 (legC (has Ls[j]) tl)
      have hp1 := h3.alloc (.cells (legC (has Ls[j]) tl) 89)
      have hr1 := h2.alloc (.cells (legC (has Ls[j]) tl) 89)
      have ht1 := ht.alloc ht.size (.cells (legC (has Ls[j]) tl) 89)
      have hO1 := hM.alloc (.cells (legC (has Ls[j]) tl) 89)
      replace hM1 := hM1.alloc (.cells (legC (has Ls[j]) tl) 89)
      cases ha : allAt (bitsOf (x / 2) (2 * 4)) (bitAt x 0) Ls[j]
      · have HN := HNO (by rw [ha]; rfl)
        have HA := Lib.hid ha
        clear HNO HYES ha hM ht h3 h2
        obtain ⟨l, hl⟩ : ∃ l, Ls[j] = l := ⟨_, rfl⟩
        rw [hl] at a0 a1 a2 a3 a4 a5 a6 a7 HST HA hx1 hp1 hr1 ht1 hO1 hM1
        clear hl HTL HOUT
        go_upto_region 5 with fail
        clear a0 a1 a2 a3 a4 a5 a6 a7 a8 hgl hwl
        have hz0 : wr.heap.size + 1 = (wr.alloc (.cells (legC (has l) tl) 89)).heap.size := by simp
        unfold legC at hx1 hp1 hr1 ht1 hO1 hM1 hz0
        generalize wr.alloc (.cells #[.bool (has l 0), .bool (has l 1), .bool (has l 2), .bool (has l 3), .bool (has l 4), .bool (has l 5), .bool (has l 6), .bool (has l 7), .int .i64 tl] 89) = w0 at hx1 hp1 hr1 ht1 hO1 hM1 hz0 ⊢
        go_wp2_with fail
        refine wp_region_held_drew (S := (fun w' => MdT wr.heap.size (has l) tl (w.heap.size + 1) (pf 4 x) (pt x) w' ∧ w'.cell? ⟨w.heap.size, 10, none⟩ = some (.map (some mb)))) (by kernel_rfl) ⟨mdt_of hx1.drew hp1.drew, hr1.drew.cell 10⟩ (fun hHeld => ?_)
        replace hx1 := hx1.drew
        replace hp1 := hp1.drew
        replace hr1 := hr1.drew
        replace ht1 := ht1.drew
        have hzd : (World.drew w0).heap.size = w0.heap.size := rfl
        replace hO1 : (World.drew w0).ownsRow (w.heap.size + 2) 89 9 (.slice Q na r) na (legsCells T (bestOf T (Ls.take j) M x)) := hO1
        replace hM1 := hM1.below (Below.refl w0.heap.size w0).drew
        generalize World.drew w0 = wd at hx1 hp1 hr1 ht1 hO1 hM1 hzd hHeld ⊢
        refine wpAnyH_take (i := 0) (v := ?_) rfl (by kernel_rfl) (by kernel_rfl) (by kernel_rfl) (fun _ _ _ h => h) (Or.inl ⟨rfl, ?_⟩) hHeld ?_
        rotate_left
        · intro w' hS; obtain ⟨⟨⟨a0, a1, a2, a3, a4, a5, a6, a7⟩, a8, ⟨b0, b1, b2, b3, b4, b5, b6, b7⟩, b8⟩, m9⟩ := hS; go_simp <;> with_reducible rfl
        simp only [Act.put, List.getElem_toArray, List.getElem_cons_succ, List.getElem_cons_zero, List.setIfInBounds_toArray, List.set_cons_succ, List.set_cons_zero]
        refine wpAnyH_take (i := 1) (v := ?_) rfl (by kernel_rfl) (by kernel_rfl) (by kernel_rfl) (fun _ _ _ h => h) (Or.inl ⟨rfl, ?_⟩) hHeld ?_
        rotate_left
        · intro w' hS; obtain ⟨⟨⟨a0, a1, a2, a3, a4, a5, a6, a7⟩, a8, ⟨b0, b1, b2, b3, b4, b5, b6, b7⟩, b8⟩, m9⟩ := hS; go_simp <;> with_reducible rfl
        simp only [Act.put, List.getElem_toArray, List.getElem_cons_succ, List.getElem_cons_zero, List.setIfInBounds_toArray, List.set_cons_succ, List.set_cons_zero]
        refine wpAnyH_take (i := 2) (v := ?_) rfl (by kernel_rfl) (by kernel_rfl) (by kernel_rfl) (fun _ _ _ h => h) (Or.inl ⟨rfl, ?_⟩) hHeld ?_
        rotate_left
        · intro w' hS; obtain ⟨⟨⟨a0, a1, a2, a3, a4, a5, a6, a7⟩, a8, ⟨b0, b1, b2, b3, b4, b5, b6, b7⟩, b8⟩, m9⟩ := hS; go_simp <;> with_reducible rfl
        simp only [Act.put, List.getElem_toArray, List.getElem_cons_succ, List.getElem_cons_zero, List.setIfInBounds_toArray, List.set_cons_succ, List.set_cons_zero]
        refine wpAnyH_ready (rs := [3]) (by kernel_rfl) (by simp) (AllReadyH.cons rfl (fun K hK => ?_) AllReadyH.nil)
        go_simp
        have hh := holds_any (2 * 4) (bitsOf (x / 2) (2 * 4)) l (bitAt x 0) wd HST.out (by omega)
        rw [HPC.out, crowd8] at hh
        unfold plcC place9 cells8 at hh
        refine hh.mono ?_
        clear hh
        rintro e9 w5 ⟨rfl, hb⟩
        rw [HA.out]
        have hz5 := hb.size
        replace hp1 := hp1.below hb
        replace hx1 := hx1.below hb
        replace hr1 := hr1.below hb
        replace ht1 := below_then ht1 hb ht1.size
        replace hO1 := ownsRow_below hO1 hb
        replace hM1 := hM1.below hb
        clear hb
        refine hK.out _ _ ⟨mdt_of hx1 hp1, hr1.cell 10⟩ (fun hHeld => ?_)
        clear hK K
        try simp only [Act.put, List.getElem_toArray, List.getElem_cons_succ, List.getElem_cons_zero, List.setIfInBounds_toArray, List.set_cons_succ, List.set_cons_zero]
        refine wpAnyH_take (i := 4) (v := ?_) rfl (by kernel_rfl) (by kernel_rfl) (by kernel_rfl) (fun _ _ _ h => h) (Or.inl ⟨rfl, ?_⟩) hHeld ?_
        rotate_left
        · intro w' hS; obtain ⟨⟨⟨a0, a1, a2, a3, a4, a5, a6, a7⟩, a8, ⟨b0, b1, b2, b3, b4, b5, b6, b7⟩, b8⟩, m9⟩ := hS; go_simp <;> with_reducible rfl
        simp only [Act.put, List.getElem_toArray, List.getElem_cons_succ, List.getElem_cons_zero, List.setIfInBounds_toArray, List.set_cons_succ, List.set_cons_zero]
        refine wpAnyH_take (i := 5) (v := undef) rfl (by kernel_rfl) (by kernel_rfl) (by kernel_rfl) (fun _ _ _ h => h) (Or.inr ⟨by simp [Region.wanted, yielded], rfl⟩) hHeld ?_
        simp only [Act.put, List.getElem_toArray, List.getElem_cons_succ, List.getElem_cons_zero, List.setIfInBounds_toArray, List.set_cons_succ, List.set_cons_zero]
        refine wpAnyH_take (i := 6) (v := undef) rfl (by kernel_rfl) (by kernel_rfl) (by kernel_rfl) (fun _ _ _ h => h) (Or.inr ⟨by simp [Region.wanted, yielded], rfl⟩) hHeld ?_
        simp only [Act.put, List.getElem_toArray, List.getElem_cons_succ, List.getElem_cons_zero, List.setIfInBounds_toArray, List.set_cons_succ, List.set_cons_zero]
        refine wpAnyH_take (i := 7) (v := undef) rfl (by kernel_rfl) (by kernel_rfl) (by kernel_rfl) (fun _ _ _ h => h) (Or.inr ⟨by simp [Region.wanted, yielded], rfl⟩) hHeld ?_
        simp only [Act.put, List.getElem_toArray, List.getElem_cons_succ, List.getElem_cons_zero, List.setIfInBounds_toArray, List.set_cons_succ, List.set_cons_zero]
        refine wpAnyH_take (i := 8) (v := undef) rfl (by kernel_rfl) (by kernel_rfl) (by kernel_rfl) (fun _ _ _ h => h) (Or.inr ⟨by simp [Region.wanted, yielded], rfl⟩) hHeld ?_
        simp only [Act.put, List.getElem_toArray, List.getElem_cons_succ, List.getElem_cons_zero, List.setIfInBounds_toArray, List.set_cons_succ, List.set_cons_zero]
        refine wpAnyH_take (i := 9) (v := undef) rfl (by kernel_rfl) (by kernel_rfl) (by kernel_rfl) (fun _ _ _ h => h) (Or.inr ⟨by simp [Region.wanted, yielded], rfl⟩) hHeld ?_
        simp only [Act.put, List.getElem_toArray, List.getElem_cons_succ, List.getElem_cons_zero, List.setIfInBounds_toArray, List.set_cons_succ, List.set_cons_zero]
        refine wpAnyH_take (i := 10) (v := undef) rfl (by kernel_rfl) (by kernel_rfl) (by kernel_rfl) (fun _ _ _ h => h) (Or.inr ⟨by simp [Region.wanted, yielded], rfl⟩) hHeld ?_
        simp only [Act.put, List.getElem_toArray, List.getElem_cons_succ, List.getElem_cons_zero, List.setIfInBounds_toArray, List.set_cons_succ, List.set_cons_zero]
        refine wpAnyH_take (i := 11) (v := undef) rfl (by kernel_rfl) (by kernel_rfl) (by kernel_rfl) (fun _ _ _ h => h) (Or.inr ⟨by simp [Region.wanted, yielded], rfl⟩) hHeld ?_
        simp only [Act.put, List.getElem_toArray, List.getElem_cons_succ, List.getElem_cons_zero, List.setIfInBounds_toArray, List.set_cons_succ, List.set_cons_zero]
        refine wpAnyH_take (i := 12) (v := undef) rfl (by kernel_rfl) (by kernel_rfl) (by kernel_rfl) (fun _ _ _ h => h) (Or.inr ⟨by simp [Region.wanted, yielded], rfl⟩) hHeld ?_
        simp only [Act.put, List.getElem_toArray, List.getElem_cons_succ, List.getElem_cons_zero, List.setIfInBounds_toArray, List.set_cons_succ, List.set_cons_zero]
        refine wpAnyH_take (i := 13) (v := undef) rfl (by kernel_rfl) (by kernel_rfl) (by kernel_rfl) (fun _ _ _ h => h) (Or.inr ⟨by simp [Region.wanted, yielded], rfl⟩) hHeld ?_
        simp only [Act.put, List.getElem_toArray, List.getElem_cons_succ, List.getElem_cons_zero, List.setIfInBounds_toArray, List.set_cons_succ, List.set_cons_zero]
        refine wpAnyH_take (i := 14) (v := undef) rfl (by kernel_rfl) (by kernel_rfl) (by kernel_rfl) (fun _ _ _ h => h) (Or.inr ⟨by simp [Region.wanted, yielded], rfl⟩) hHeld ?_
        simp only [Act.put, List.getElem_toArray, List.getElem_cons_succ, List.getElem_cons_zero, List.setIfInBounds_toArray, List.set_cons_succ, List.set_cons_zero]
        refine wpAnyH_take (i := 15) (v := undef) rfl (by kernel_rfl) (by kernel_rfl) (by kernel_rfl) (fun _ _ _ h => h) (Or.inr ⟨by simp [Region.wanted, yielded], rfl⟩) hHeld ?_
        simp only [Act.put, List.getElem_toArray, List.getElem_cons_succ, List.getElem_cons_zero, List.setIfInBounds_toArray, List.set_cons_succ, List.set_cons_zero]
        refine wpAnyH_take (i := 16) (v := undef) rfl (by kernel_rfl) (by kernel_rfl) (by kernel_rfl) (fun _ _ _ h => h) (Or.inr ⟨by simp [Region.wanted, yielded], rfl⟩) hHeld ?_
        simp only [Act.put, List.getElem_toArray, List.getElem_cons_succ, List.getElem_cons_zero, List.setIfInBounds_toArray, List.set_cons_succ, List.set_cons_zero]
        refine wpAnyH_take (i := 17) (v := undef) rfl (by kernel_rfl) (by kernel_rfl) (by kernel_rfl) (fun _ _ _ h => h) (Or.inr ⟨by simp [Region.wanted, yielded], rfl⟩) hHeld ?_
        simp only [Act.put, List.getElem_toArray, List.getElem_cons_succ, List.getElem_cons_zero, List.setIfInBounds_toArray, List.set_cons_succ, List.set_cons_zero]
        refine wpAnyH_take (i := 18) (v := undef) rfl (by kernel_rfl) (by kernel_rfl) (by kernel_rfl) (fun _ _ _ h => h) (Or.inr ⟨by simp [Region.wanted, yielded], rfl⟩) hHeld ?_
        simp only [Act.put, List.getElem_toArray, List.getElem_cons_succ, List.getElem_cons_zero, List.setIfInBounds_toArray, List.set_cons_succ, List.set_cons_zero]
        refine wpAnyH_take (i := 19) (v := undef) rfl (by kernel_rfl) (by kernel_rfl) (by kernel_rfl) (fun _ _ _ h => h) (Or.inr ⟨by simp [Region.wanted, yielded], rfl⟩) hHeld ?_
        simp only [Act.put, List.getElem_toArray, List.getElem_cons_succ, List.getElem_cons_zero, List.setIfInBounds_toArray, List.set_cons_succ, List.set_cons_zero]
        refine wpAnyH_take (i := 20) (v := ?_) rfl (by kernel_rfl) (by kernel_rfl) (by kernel_rfl) (fun _ _ _ h => h) (Or.inl ⟨rfl, ?_⟩) hHeld ?_
        rotate_left
        · intro w' hS; obtain ⟨⟨⟨a0, a1, a2, a3, a4, a5, a6, a7⟩, a8, ⟨b0, b1, b2, b3, b4, b5, b6, b7⟩, b8⟩, m9⟩ := hS; go_simp <;> with_reducible rfl
        simp only [Act.put, List.getElem_toArray, List.getElem_cons_succ, List.getElem_cons_zero, List.setIfInBounds_toArray, List.set_cons_succ, List.set_cons_zero]
        refine wpAnyH_done (by kernel_rfl) ?_ _
        clear hHeld
        have HM := Lib.hid hO1
        have HT1 := Lib.hid ht1
        have H3 := Lib.hid hp1
        have H4 := Lib.hid hr1
        clear hO1 ht1 hp1 hr1 hx1 hM1
        go_wp2
        go_roundw
        case rel => exact ⟨j + 1, Q, r, by omega, by go_num, by rw [HN.out, HNA.out], by rw [HN.out, HNA.out]; exact HM.out, H3.out, H4.out, HT1.out⟩
        case measure => simp [intOf]; omega
      · have hmem : Ls[j] ∈ mvsW 4 Ls x := List.mem_filter.2 ⟨List.getElem_mem hlt, ha⟩
        have hst2 := plcW_step (L := Ls) HUP.out HXD.out hmem
        have HA := Lib.hid ha
        rw [ha] at HNO HYES
        obtain ⟨l, hl⟩ : ∃ l, Ls[j] = l := ⟨_, rfl⟩
        rw [hl] at a0 a1 a2 a3 a4 a5 a6 a7 HST HA HOUT HTL hst2 hx1 hp1 hr1 ht1 hO1 hM1 HNO HYES
        obtain ⟨y, hy⟩ : ∃ y, stepC x l = y := ⟨_, rfl⟩
        rw [hy] at hst2 HNO HYES
        have HPF : Hid (placeCells (flipped (bitsOf (x / 2) (2 * 4)) l) (!bitAt x 0) = plcC 4 y) := hst2.1
        have HYD := Lib.hid hst2.2
        have HMC : Hid ((legCells T l).toList = [.bool (has l 0), .bool (has l 1), .bool (has l 2), .bool (has l 3), .bool (has l 4), .bool (has l 5), .bool (has l 6), .bool (has l 7), .int .i64 tl]) := by show _ = _; rw [legCells, HTL.out]
        obtain ⟨dy, hdy⟩ : ∃ d, lf M y = d := ⟨_, rfl⟩
        obtain ⟨dx, hdx⟩ : ∃ d, lf M x = d := ⟨_, rfl⟩
        have hly := HLOW.out y
        rw [hdy, hdx] at HNO HYES
        rw [hdy] at hly
        have HDY := Lib.hid hdy
        have HDX := Lib.hid hdx
        have hwrp : IntKind.i64.wrap (tl + dy) = tl + dy := IntWalk.i64_in _ (by omega)
        clear hst2 hl hy ha hM ht h3 h2 hdy hdx hmem
        have HMAX := Lib.hid (show na + 1 ≤ maxLen by unfold maxLen; omega)
        have HBYT := Lib.hid (show (na + 1) * 16 ≤ 140737488355328 by omega)
        by_cases heq : tl + dy = dx
        · have HRN := HYES (by rw [Bool.true_and]; exact decide_eq_true heq)
          have hbq : (tl + dy == dx) = true := by simpa using heq
          clear HNO HYES heq
          go_upto_region 5 with fail
          clear a0 a1 a2 a3 a4 a5 a6 a7 a8 hgl hwl
          have hz0 : wr.heap.size + 1 = (wr.alloc (.cells (legC (has l) tl) 89)).heap.size := by simp
          unfold legC at hx1 hp1 hr1 ht1 hO1 hM1 hz0
          generalize wr.alloc (.cells #[.bool (has l 0), .bool (has l 1), .bool (has l 2), .bool (has l 3), .bool (has l 4), .bool (has l 5), .bool (has l 6), .bool (has l 7), .int .i64 tl] 89) = w0 at hx1 hp1 hr1 ht1 hO1 hM1 hz0 ⊢
          go_wp2_with fail
          refine wp_region_held_drew (S := (fun w' => MdT wr.heap.size (has l) tl (w.heap.size + 1) (pf 4 x) (pt x) w' ∧ w'.cell? ⟨w.heap.size, 10, none⟩ = some (.map (some mb)))) (by kernel_rfl) ⟨mdt_of hx1.drew hp1.drew, hr1.drew.cell 10⟩ (fun hHeld => ?_)
          replace hx1 := hx1.drew
          replace hp1 := hp1.drew
          replace hr1 := hr1.drew
          replace ht1 := ht1.drew
          have hzd : (World.drew w0).heap.size = w0.heap.size := rfl
          replace hO1 : (World.drew w0).ownsRow (w.heap.size + 2) 89 9 (.slice Q na r) na (legsCells T (bestOf T (Ls.take j) M x)) := hO1
          replace hM1 := hM1.below (Below.refl w0.heap.size w0).drew
          generalize World.drew w0 = wd at hx1 hp1 hr1 ht1 hO1 hM1 hzd hHeld ⊢
          refine wpAnyH_take (i := 0) (v := ?_) rfl (by kernel_rfl) (by kernel_rfl) (by kernel_rfl) (fun _ _ _ h => h) (Or.inl ⟨rfl, ?_⟩) hHeld ?_
          rotate_left
          · intro w' hS; obtain ⟨⟨⟨a0, a1, a2, a3, a4, a5, a6, a7⟩, a8, ⟨b0, b1, b2, b3, b4, b5, b6, b7⟩, b8⟩, m9⟩ := hS; go_simp <;> with_reducible rfl
          simp only [Act.put, List.getElem_toArray, List.getElem_cons_succ, List.getElem_cons_zero, List.setIfInBounds_toArray, List.set_cons_succ, List.set_cons_zero]
          refine wpAnyH_take (i := 1) (v := ?_) rfl (by kernel_rfl) (by kernel_rfl) (by kernel_rfl) (fun _ _ _ h => h) (Or.inl ⟨rfl, ?_⟩) hHeld ?_
          rotate_left
          · intro w' hS; obtain ⟨⟨⟨a0, a1, a2, a3, a4, a5, a6, a7⟩, a8, ⟨b0, b1, b2, b3, b4, b5, b6, b7⟩, b8⟩, m9⟩ := hS; go_simp <;> with_reducible rfl
          simp only [Act.put, List.getElem_toArray, List.getElem_cons_succ, List.getElem_cons_zero, List.setIfInBounds_toArray, List.set_cons_succ, List.set_cons_zero]
          refine wpAnyH_take (i := 2) (v := ?_) rfl (by kernel_rfl) (by kernel_rfl) (by kernel_rfl) (fun _ _ _ h => h) (Or.inl ⟨rfl, ?_⟩) hHeld ?_
          rotate_left
          · intro w' hS; obtain ⟨⟨⟨a0, a1, a2, a3, a4, a5, a6, a7⟩, a8, ⟨b0, b1, b2, b3, b4, b5, b6, b7⟩, b8⟩, m9⟩ := hS; go_simp <;> with_reducible rfl
          simp only [Act.put, List.getElem_toArray, List.getElem_cons_succ, List.getElem_cons_zero, List.setIfInBounds_toArray, List.set_cons_succ, List.set_cons_zero]
          refine wpAnyH_ready (rs := [3]) (by kernel_rfl) (by simp) (AllReadyH.cons rfl (fun K hK => ?_) AllReadyH.nil)
          go_simp
          have hh := holds_any (2 * 4) (bitsOf (x / 2) (2 * 4)) l (bitAt x 0) wd HST.out (by omega)
          rw [HPC.out, crowd8] at hh
          unfold plcC place9 cells8 at hh
          refine hh.mono ?_
          clear hh
          rintro e9 w5 ⟨rfl, hb⟩
          rw [HA.out]
          have hz5 := hb.size
          replace hp1 := hp1.below hb
          replace hx1 := hx1.below hb
          replace hr1 := hr1.below hb
          replace ht1 := below_then ht1 hb ht1.size
          replace hO1 := ownsRow_below hO1 hb
          replace hM1 := hM1.below hb
          clear hb
          refine hK.out _ _ ⟨mdt_of hx1 hp1, hr1.cell 10⟩ (fun hHeld => ?_)
          clear hK K
          try simp only [Act.put, List.getElem_toArray, List.getElem_cons_succ, List.getElem_cons_zero, List.setIfInBounds_toArray, List.set_cons_succ, List.set_cons_zero]
          refine wpAnyH_take (i := 4) (v := ?_) rfl (by kernel_rfl) (by kernel_rfl) (by kernel_rfl) (fun _ _ _ h => h) (Or.inl ⟨rfl, ?_⟩) hHeld ?_
          rotate_left
          · intro w' hS; obtain ⟨⟨⟨a0, a1, a2, a3, a4, a5, a6, a7⟩, a8, ⟨b0, b1, b2, b3, b4, b5, b6, b7⟩, b8⟩, m9⟩ := hS; go_simp <;> with_reducible rfl
          simp only [Act.put, List.getElem_toArray, List.getElem_cons_succ, List.getElem_cons_zero, List.setIfInBounds_toArray, List.set_cons_succ, List.set_cons_zero]
          refine wpAnyH_take (i := 5) (v := ?_) rfl (by kernel_rfl) (by kernel_rfl) (by kernel_rfl) (fun _ _ _ h => h) (Or.inl ⟨rfl, ?_⟩) hHeld ?_
          rotate_left
          · intro w' hS; obtain ⟨⟨⟨a0, a1, a2, a3, a4, a5, a6, a7⟩, a8, ⟨b0, b1, b2, b3, b4, b5, b6, b7⟩, b8⟩, m9⟩ := hS; go_simp <;> with_reducible rfl
          simp only [Act.put, List.getElem_toArray, List.getElem_cons_succ, List.getElem_cons_zero, List.setIfInBounds_toArray, List.set_cons_succ, List.set_cons_zero]
          refine wpAnyH_take (i := 6) (v := ?_) rfl (by kernel_rfl) (by kernel_rfl) (by kernel_rfl) (fun _ _ _ h => h) (Or.inl ⟨rfl, ?_⟩) hHeld ?_
          rotate_left
          · intro w' hS; obtain ⟨⟨⟨a0, a1, a2, a3, a4, a5, a6, a7⟩, a8, ⟨b0, b1, b2, b3, b4, b5, b6, b7⟩, b8⟩, m9⟩ := hS; go_simp <;> with_reducible rfl
          simp only [Act.put, List.getElem_toArray, List.getElem_cons_succ, List.getElem_cons_zero, List.setIfInBounds_toArray, List.set_cons_succ, List.set_cons_zero]
          refine wpAnyH_take (i := 7) (v := ?_) rfl (by kernel_rfl) (by kernel_rfl) (by kernel_rfl) (fun _ _ _ h => h) (Or.inl ⟨rfl, ?_⟩) hHeld ?_
          rotate_left
          · intro w' hS; obtain ⟨⟨⟨a0, a1, a2, a3, a4, a5, a6, a7⟩, a8, ⟨b0, b1, b2, b3, b4, b5, b6, b7⟩, b8⟩, m9⟩ := hS; go_simp <;> with_reducible rfl
          simp only [Act.put, List.getElem_toArray, List.getElem_cons_succ, List.getElem_cons_zero, List.setIfInBounds_toArray, List.set_cons_succ, List.set_cons_zero]
          refine wpAnyH_take (i := 8) (v := ?_) rfl (by kernel_rfl) (by kernel_rfl) (by kernel_rfl) (fun _ _ _ h => h) (Or.inl ⟨rfl, ?_⟩) hHeld ?_
          rotate_left
          · intro w' hS; obtain ⟨⟨⟨a0, a1, a2, a3, a4, a5, a6, a7⟩, a8, ⟨b0, b1, b2, b3, b4, b5, b6, b7⟩, b8⟩, m9⟩ := hS; go_simp <;> with_reducible rfl
          simp only [Act.put, List.getElem_toArray, List.getElem_cons_succ, List.getElem_cons_zero, List.setIfInBounds_toArray, List.set_cons_succ, List.set_cons_zero]
          refine wpAnyH_take (i := 9) (v := ?_) rfl (by kernel_rfl) (by kernel_rfl) (by kernel_rfl) (fun _ _ _ h => h) (Or.inl ⟨rfl, ?_⟩) hHeld ?_
          rotate_left
          · intro w' hS; obtain ⟨⟨⟨a0, a1, a2, a3, a4, a5, a6, a7⟩, a8, ⟨b0, b1, b2, b3, b4, b5, b6, b7⟩, b8⟩, m9⟩ := hS; go_simp <;> with_reducible rfl
          simp only [Act.put, List.getElem_toArray, List.getElem_cons_succ, List.getElem_cons_zero, List.setIfInBounds_toArray, List.set_cons_succ, List.set_cons_zero]
          refine wpAnyH_take (i := 10) (v := ?_) rfl (by kernel_rfl) (by kernel_rfl) (by kernel_rfl) (fun _ _ _ h => h) (Or.inl ⟨rfl, ?_⟩) hHeld ?_
          rotate_left
          · intro w' hS; obtain ⟨⟨⟨a0, a1, a2, a3, a4, a5, a6, a7⟩, a8, ⟨b0, b1, b2, b3, b4, b5, b6, b7⟩, b8⟩, m9⟩ := hS; go_simp <;> with_reducible rfl
          simp only [Act.put, List.getElem_toArray, List.getElem_cons_succ, List.getElem_cons_zero, List.setIfInBounds_toArray, List.set_cons_succ, List.set_cons_zero]
          refine wpAnyH_take (i := 11) (v := ?_) rfl (by kernel_rfl) (by kernel_rfl) (by kernel_rfl) (fun _ _ _ h => h) (Or.inl ⟨rfl, ?_⟩) hHeld ?_
          rotate_left
          · intro w' hS; obtain ⟨⟨⟨a0, a1, a2, a3, a4, a5, a6, a7⟩, a8, ⟨b0, b1, b2, b3, b4, b5, b6, b7⟩, b8⟩, m9⟩ := hS; go_simp <;> with_reducible rfl
          simp only [Act.put, List.getElem_toArray, List.getElem_cons_succ, List.getElem_cons_zero, List.setIfInBounds_toArray, List.set_cons_succ, List.set_cons_zero]
          refine wpAnyH_take (i := 15) (v := ?_) rfl (by kernel_rfl) (by kernel_rfl) (by kernel_rfl) (fun _ _ _ h => h) (Or.inl ⟨rfl, ?_⟩) hHeld ?_
          rotate_left
          · intro w' hS; obtain ⟨⟨⟨a0, a1, a2, a3, a4, a5, a6, a7⟩, a8, ⟨b0, b1, b2, b3, b4, b5, b6, b7⟩, b8⟩, m9⟩ := hS; go_simp <;> with_reducible rfl
          simp only [Act.put, List.getElem_toArray, List.getElem_cons_succ, List.getElem_cons_zero, List.setIfInBounds_toArray, List.set_cons_succ, List.set_cons_zero]
          refine wpAnyH_take (i := 16) (v := ?_) rfl (by kernel_rfl) (by kernel_rfl) (by kernel_rfl) (fun _ _ _ h => h) (Or.inl ⟨rfl, ?_⟩) hHeld ?_
          rotate_left
          · intro w' hS; obtain ⟨⟨⟨a0, a1, a2, a3, a4, a5, a6, a7⟩, a8, ⟨b0, b1, b2, b3, b4, b5, b6, b7⟩, b8⟩, m9⟩ := hS; go_simp <;> with_reducible rfl
          simp only [Act.put, List.getElem_toArray, List.getElem_cons_succ, List.getElem_cons_zero, List.setIfInBounds_toArray, List.set_cons_succ, List.set_cons_zero]
          refine wpAnyH_take (i := 17) (v := ?_) rfl (by kernel_rfl) (by kernel_rfl) (by kernel_rfl) (fun _ _ _ h => h) (Or.inl ⟨rfl, ?_⟩) hHeld ?_
          rotate_left
          · intro w' hS; obtain ⟨⟨⟨a0, a1, a2, a3, a4, a5, a6, a7⟩, a8, ⟨b0, b1, b2, b3, b4, b5, b6, b7⟩, b8⟩, m9⟩ := hS; go_simp <;> with_reducible rfl
          simp only [Act.put, List.getElem_toArray, List.getElem_cons_succ, List.getElem_cons_zero, List.setIfInBounds_toArray, List.set_cons_succ, List.set_cons_zero]
          refine wpAnyH_ready (rs := [12, 18]) (by kernel_rfl) (by simp) (AllReadyH.cons rfl (fun K hK => ?_) (AllReadyH.cons rfl (fun K hK => ?_) AllReadyH.nil))
          · go_simp
            have hx := cross_any (bitsOf (x / 2) (2 * 4)) l (bitAt x 0) w5 HOUT.out
            rw [HPF.out, HPC.out, crowd8] at hx
            unfold plcC place9 cells8 at hx
            refine hx.mono ?_
            clear hx
            rintro e9 w7 ⟨rfl, hb⟩
            have hz7 := hb.size
            replace hp1 := hp1.below hb
            replace hx1 := hx1.below hb
            replace hr1 := hr1.below hb
            replace ht1 := below_then ht1 hb ht1.size
            replace hO1 := ownsRow_below hO1 hb
            replace hM1 := hM1.below hb
            clear hb
            refine hK.out _ _ ⟨mdt_of hx1 hp1, hr1.cell 10⟩ (fun hHeld => ?_)
            clear hK K
            try simp only [Act.put, List.getElem_toArray, List.getElem_cons_succ, List.getElem_cons_zero, List.setIfInBounds_toArray, List.set_cons_succ, List.set_cons_zero]
            refine wpAnyH_ready (rs := [13, 18]) (by kernel_rfl) (by simp) (AllReadyH.cons rfl (fun K hK => ?_) (AllReadyH.cons rfl (fun K hK => ?_) AllReadyH.nil))
            · have hlk := MapIs.look hM1 (place_keys (by omega)) Try.underlying76 Try.underlying3 (hzero _) y HYD.out
              rw [show (M y).getD 0 = dy from HDY.out] at hlk
              unfold plc plcC place9 at hlk
              go_simp
              clear hlk
              refine hK.out _ _ ⟨mdt_of hx1 hp1, hr1.cell 10⟩ (fun hHeld => ?_)
              clear hK K
              try simp only [Act.put, List.getElem_toArray, List.getElem_cons_succ, List.getElem_cons_zero, List.setIfInBounds_toArray, List.set_cons_succ, List.set_cons_zero]
              refine wpAnyH_take (i := 14) (v := ?_) rfl (by kernel_rfl) (by kernel_rfl) (by kernel_rfl) (fun _ _ _ h => h) (Or.inl ⟨rfl, ?_⟩) hHeld ?_
              rotate_left
              · intro w' hS; obtain ⟨⟨⟨a0, a1, a2, a3, a4, a5, a6, a7⟩, a8, ⟨b0, b1, b2, b3, b4, b5, b6, b7⟩, b8⟩, m9⟩ := hS; go_simp <;> with_reducible rfl
              simp only [Act.put, List.getElem_toArray, List.getElem_cons_succ, List.getElem_cons_zero, List.setIfInBounds_toArray, List.set_cons_succ, List.set_cons_zero]
              refine wpAnyH_ready (rs := [18]) (by kernel_rfl) (by simp) (AllReadyH.cons rfl (fun K hK => ?_) AllReadyH.nil)
              have hlk := MapIs.look hM1 (place_keys (by omega)) Try.underlying76 Try.underlying3 (hzero _) x HXD.out
              rw [show (M x).getD 0 = dx from HDX.out] at hlk
              unfold plc plcC place9 at hlk
              go_simp
              clear hlk
              refine hK.out _ _ ⟨mdt_of hx1 hp1, hr1.cell 10⟩ (fun hHeld => ?_)
              clear hK K
              try simp only [Act.put, List.getElem_toArray, List.getElem_cons_succ, List.getElem_cons_zero, List.setIfInBounds_toArray, List.set_cons_succ, List.set_cons_zero]
              refine wpAnyH_take (i := 19) (v := ?_) rfl (by kernel_rfl) (by kernel_rfl) (by kernel_rfl) (fun _ _ _ h => h) (Or.inl ⟨rfl, ?_⟩) hHeld ?_
              rotate_left
              · intro w' hS; obtain ⟨⟨⟨a0, a1, a2, a3, a4, a5, a6, a7⟩, a8, ⟨b0, b1, b2, b3, b4, b5, b6, b7⟩, b8⟩, m9⟩ := hS; go_simp <;> with_reducible rfl
              simp only [Act.put, List.getElem_toArray, List.getElem_cons_succ, List.getElem_cons_zero, List.setIfInBounds_toArray, List.set_cons_succ, List.set_cons_zero]
              refine wpAnyH_take (i := 20) (v := ?_) rfl (by kernel_rfl) (by kernel_rfl) (by kernel_rfl) (fun _ _ _ h => h) (Or.inl ⟨rfl, ?_⟩) hHeld ?_
              rotate_left
              · intro w' hS; obtain ⟨⟨⟨a0, a1, a2, a3, a4, a5, a6, a7⟩, a8, ⟨b0, b1, b2, b3, b4, b5, b6, b7⟩, b8⟩, m9⟩ := hS; go_simp <;> with_reducible rfl
              simp only [Act.put, List.getElem_toArray, List.getElem_cons_succ, List.getElem_cons_zero, List.setIfInBounds_toArray, List.set_cons_succ, List.set_cons_zero]
              refine wpAnyH_done (by kernel_rfl) ?_ _
              clear hHeld
              have hxl := hx1.lt
              obtain ⟨x0, x1, x2, x3, x4, x5, x6, x7⟩ : Row8 wr.heap.size (has l) w7 := (mdt_of hx1 hp1).1
              have x8 := (mdt_of hx1 hp1).2.1
              have HNEW := Lib.hid (cells_new w7 89 #[.bool (has l 0), .bool (has l 1), .bool (has l 2), .bool (has l 3), .bool (has l 4), .bool (has l 5), .bool (has l 6), .bool (has l 7), .int .i64 tl])
              have HO6 := Lib.hid (hO1.alloc (.cells #[.bool (has l 0), .bool (has l 1), .bool (has l 2), .bool (has l 3), .bool (has l 4), .bool (has l 5), .bool (has l 6), .bool (has l 7), .int .i64 tl] 89))
              have hp2 := hp1.alloc (.cells #[.bool (has l 0), .bool (has l 1), .bool (has l 2), .bool (has l 3), .bool (has l 4), .bool (has l 5), .bool (has l 6), .bool (has l 7), .int .i64 tl] 89)
              have hr2 := hr1.alloc (.cells #[.bool (has l 0), .bool (has l 1), .bool (has l 2), .bool (has l 3), .bool (has l 4), .bool (has l 5), .bool (has l 6), .bool (has l 7), .int .i64 tl] 89)
              have ht2 := ht1.alloc ht1.size (.cells #[.bool (has l 0), .bool (has l 1), .bool (has l 2), .bool (has l 3), .bool (has l 4), .bool (has l 5), .bool (has l 6), .bool (has l 7), .int .i64 tl] 89)
              have HBASE := Lib.hid (show w.heap.size + 2 ≤ (w7.alloc (.cells #[.bool (has l 0), .bool (has l 1), .bool (has l 2), .bool (has l 3), .bool (has l 4), .bool (has l 5), .bool (has l 6), .bool (has l 7), .int .i64 tl] 89)).heap.size by simp; omega)
              clear hp1 hr1 ht1 hO1 hM1 hx1
              go_wp2_with (at_builtin; refine wpList_append_lies _ rfl (.tmp 36) (.tmp 38) 70 rfl (w.heap.size + 2) 89 i0 (.agg #[.bool false, .bool false, .bool false, .bool false, .bool false, .bool false, .bool false, .bool false, .int .i64 0]) 9 16 Try.underlying70 HI.out HZ0.out HZ1.out HZ2.out rfl (by decide) (.slice Q na r) na (legsCells T (bestOf T (Ls.take j) M x)) rfl HO6.out ⟨w7.heap.size, 0, none⟩ 1 1 [.bool (has l 0), .bool (has l 1), .bool (has l 2), .bool (has l 3), .bool (has l 4), .bool (has l 5), .bool (has l 6), .bool (has l 7), .int .i64 tl] rfl rfl HNEW.out (by simp [Value.oneCell']) (by decide) HMAX.out HBYT.out HBASE.out (w7.heap.size + 1) (by simp) ?_; intro g3 c3 w8 hown3 hg3 hat3 hlt3)
              have hrr : ∀ q, (Value.slice Q na r).ownBlock = some q → w.heap.size + 2 ≤ q ∧ q < wr.heap.size := HOL.out
              have q3 := whole_apart hp2 hg3 (fun e => absurd (hrr _ e.symm).1 (by omega))
              have q4 := whole_apart hr2 hg3 (fun e => absurd (hrr _ e.symm).1 (by omega))
              have hbt := Below.grown ht2 hg3 (by have := ht2.size; simp; omega) (fun q hq => by have := (hrr q hq).1; omega)
              have P2 := Lib.hid hown3
              have P3 := Lib.hid q3
              have P5 := Lib.hid q4
              have P4 := Lib.hid hbt
              clear hown3 hg3 hat3 hlt3 hbt hrr
              go_roundw
              case rel => exact ⟨j + 1, some ⟨g3, 0, none⟩, c3, by omega, by go_num, by rw [HRN.out, List.length_append, HNA.out]; rfl, by rw [HRN.out, List.length_append, HNA.out, legsCells_snoc, HMC.out]; exact P2.out, P3.out, P5.out, P4.out⟩
              case measure => simp [intOf]; omega
            · have hlk := MapIs.look hM1 (place_keys (by omega)) Try.underlying76 Try.underlying3 (hzero _) x HXD.out
              rw [show (M x).getD 0 = dx from HDX.out] at hlk
              unfold plc plcC place9 at hlk
              go_simp
              clear hlk
              refine hK.out _ _ ⟨mdt_of hx1 hp1, hr1.cell 10⟩ (fun hHeld => ?_)
              clear hK K
              try simp only [Act.put, List.getElem_toArray, List.getElem_cons_succ, List.getElem_cons_zero, List.setIfInBounds_toArray, List.set_cons_succ, List.set_cons_zero]
              refine wpAnyH_ready (rs := [13]) (by kernel_rfl) (by simp) (AllReadyH.cons rfl (fun K hK => ?_) AllReadyH.nil)
              have hlk := MapIs.look hM1 (place_keys (by omega)) Try.underlying76 Try.underlying3 (hzero _) y HYD.out
              rw [show (M y).getD 0 = dy from HDY.out] at hlk
              unfold plc plcC place9 at hlk
              go_simp
              clear hlk
              refine hK.out _ _ ⟨mdt_of hx1 hp1, hr1.cell 10⟩ (fun hHeld => ?_)
              clear hK K
              try simp only [Act.put, List.getElem_toArray, List.getElem_cons_succ, List.getElem_cons_zero, List.setIfInBounds_toArray, List.set_cons_succ, List.set_cons_zero]
              refine wpAnyH_take (i := 14) (v := ?_) rfl (by kernel_rfl) (by kernel_rfl) (by kernel_rfl) (fun _ _ _ h => h) (Or.inl ⟨rfl, ?_⟩) hHeld ?_
              rotate_left
              · intro w' hS; obtain ⟨⟨⟨a0, a1, a2, a3, a4, a5, a6, a7⟩, a8, ⟨b0, b1, b2, b3, b4, b5, b6, b7⟩, b8⟩, m9⟩ := hS; go_simp <;> with_reducible rfl
              simp only [Act.put, List.getElem_toArray, List.getElem_cons_succ, List.getElem_cons_zero, List.setIfInBounds_toArray, List.set_cons_succ, List.set_cons_zero]
              refine wpAnyH_take (i := 19) (v := ?_) rfl (by kernel_rfl) (by kernel_rfl) (by kernel_rfl) (fun _ _ _ h => h) (Or.inl ⟨rfl, ?_⟩) hHeld ?_
              rotate_left
              · intro w' hS; obtain ⟨⟨⟨a0, a1, a2, a3, a4, a5, a6, a7⟩, a8, ⟨b0, b1, b2, b3, b4, b5, b6, b7⟩, b8⟩, m9⟩ := hS; go_simp <;> with_reducible rfl
              simp only [Act.put, List.getElem_toArray, List.getElem_cons_succ, List.getElem_cons_zero, List.setIfInBounds_toArray, List.set_cons_succ, List.set_cons_zero]
              refine wpAnyH_take (i := 20) (v := ?_) rfl (by kernel_rfl) (by kernel_rfl) (by kernel_rfl) (fun _ _ _ h => h) (Or.inl ⟨rfl, ?_⟩) hHeld ?_
              rotate_left
              · intro w' hS; obtain ⟨⟨⟨a0, a1, a2, a3, a4, a5, a6, a7⟩, a8, ⟨b0, b1, b2, b3, b4, b5, b6, b7⟩, b8⟩, m9⟩ := hS; go_simp <;> with_reducible rfl
              simp only [Act.put, List.getElem_toArray, List.getElem_cons_succ, List.getElem_cons_zero, List.setIfInBounds_toArray, List.set_cons_succ, List.set_cons_zero]
              refine wpAnyH_done (by kernel_rfl) ?_ _
              clear hHeld
              have hxl := hx1.lt
              obtain ⟨x0, x1, x2, x3, x4, x5, x6, x7⟩ : Row8 wr.heap.size (has l) w7 := (mdt_of hx1 hp1).1
              have x8 := (mdt_of hx1 hp1).2.1
              have HNEW := Lib.hid (cells_new w7 89 #[.bool (has l 0), .bool (has l 1), .bool (has l 2), .bool (has l 3), .bool (has l 4), .bool (has l 5), .bool (has l 6), .bool (has l 7), .int .i64 tl])
              have HO6 := Lib.hid (hO1.alloc (.cells #[.bool (has l 0), .bool (has l 1), .bool (has l 2), .bool (has l 3), .bool (has l 4), .bool (has l 5), .bool (has l 6), .bool (has l 7), .int .i64 tl] 89))
              have hp2 := hp1.alloc (.cells #[.bool (has l 0), .bool (has l 1), .bool (has l 2), .bool (has l 3), .bool (has l 4), .bool (has l 5), .bool (has l 6), .bool (has l 7), .int .i64 tl] 89)
              have hr2 := hr1.alloc (.cells #[.bool (has l 0), .bool (has l 1), .bool (has l 2), .bool (has l 3), .bool (has l 4), .bool (has l 5), .bool (has l 6), .bool (has l 7), .int .i64 tl] 89)
              have ht2 := ht1.alloc ht1.size (.cells #[.bool (has l 0), .bool (has l 1), .bool (has l 2), .bool (has l 3), .bool (has l 4), .bool (has l 5), .bool (has l 6), .bool (has l 7), .int .i64 tl] 89)
              have HBASE := Lib.hid (show w.heap.size + 2 ≤ (w7.alloc (.cells #[.bool (has l 0), .bool (has l 1), .bool (has l 2), .bool (has l 3), .bool (has l 4), .bool (has l 5), .bool (has l 6), .bool (has l 7), .int .i64 tl] 89)).heap.size by simp; omega)
              clear hp1 hr1 ht1 hO1 hM1 hx1
              go_wp2_with (at_builtin; refine wpList_append_lies _ rfl (.tmp 36) (.tmp 38) 70 rfl (w.heap.size + 2) 89 i0 (.agg #[.bool false, .bool false, .bool false, .bool false, .bool false, .bool false, .bool false, .bool false, .int .i64 0]) 9 16 Try.underlying70 HI.out HZ0.out HZ1.out HZ2.out rfl (by decide) (.slice Q na r) na (legsCells T (bestOf T (Ls.take j) M x)) rfl HO6.out ⟨w7.heap.size, 0, none⟩ 1 1 [.bool (has l 0), .bool (has l 1), .bool (has l 2), .bool (has l 3), .bool (has l 4), .bool (has l 5), .bool (has l 6), .bool (has l 7), .int .i64 tl] rfl rfl HNEW.out (by simp [Value.oneCell']) (by decide) HMAX.out HBYT.out HBASE.out (w7.heap.size + 1) (by simp) ?_; intro g3 c3 w8 hown3 hg3 hat3 hlt3)
              have hrr : ∀ q, (Value.slice Q na r).ownBlock = some q → w.heap.size + 2 ≤ q ∧ q < wr.heap.size := HOL.out
              have q3 := whole_apart hp2 hg3 (fun e => absurd (hrr _ e.symm).1 (by omega))
              have q4 := whole_apart hr2 hg3 (fun e => absurd (hrr _ e.symm).1 (by omega))
              have hbt := Below.grown ht2 hg3 (by have := ht2.size; simp; omega) (fun q hq => by have := (hrr q hq).1; omega)
              have P2 := Lib.hid hown3
              have P3 := Lib.hid q3
              have P5 := Lib.hid q4
              have P4 := Lib.hid hbt
              clear hown3 hg3 hat3 hlt3 hbt hrr
              go_roundw
              case rel => exact ⟨j + 1, some ⟨g3, 0, none⟩, c3, by omega, by go_num, by rw [HRN.out, List.length_append, HNA.out]; rfl, by rw [HRN.out, List.length_append, HNA.out, legsCells_snoc, HMC.out]; exact P2.out, P3.out, P5.out, P4.out⟩
              case measure => simp [intOf]; omega
          · have hlk := MapIs.look hM1 (place_keys (by omega)) Try.underlying76 Try.underlying3 (hzero _) x HXD.out
            rw [show (M x).getD 0 = dx from HDX.out] at hlk
            unfold plc plcC place9 at hlk
            go_simp
            clear hlk
            refine hK.out _ _ ⟨mdt_of hx1 hp1, hr1.cell 10⟩ (fun hHeld => ?_)
            clear hK K
            try simp only [Act.put, List.getElem_toArray, List.getElem_cons_succ, List.getElem_cons_zero, List.setIfInBounds_toArray, List.set_cons_succ, List.set_cons_zero]
            refine wpAnyH_ready (rs := [12]) (by kernel_rfl) (by simp) (AllReadyH.cons rfl (fun K hK => ?_) AllReadyH.nil)
            go_simp
            have hx := cross_any (bitsOf (x / 2) (2 * 4)) l (bitAt x 0) w5 HOUT.out
            rw [HPF.out, HPC.out, crowd8] at hx
            unfold plcC place9 cells8 at hx
            refine hx.mono ?_
            clear hx
            rintro e9 w7 ⟨rfl, hb⟩
            have hz7 := hb.size
            replace hp1 := hp1.below hb
            replace hx1 := hx1.below hb
            replace hr1 := hr1.below hb
            replace ht1 := below_then ht1 hb ht1.size
            replace hO1 := ownsRow_below hO1 hb
            replace hM1 := hM1.below hb
            clear hb
            refine hK.out _ _ ⟨mdt_of hx1 hp1, hr1.cell 10⟩ (fun hHeld => ?_)
            clear hK K
            try simp only [Act.put, List.getElem_toArray, List.getElem_cons_succ, List.getElem_cons_zero, List.setIfInBounds_toArray, List.set_cons_succ, List.set_cons_zero]
            refine wpAnyH_ready (rs := [13]) (by kernel_rfl) (by simp) (AllReadyH.cons rfl (fun K hK => ?_) AllReadyH.nil)
            have hlk := MapIs.look hM1 (place_keys (by omega)) Try.underlying76 Try.underlying3 (hzero _) y HYD.out
            rw [show (M y).getD 0 = dy from HDY.out] at hlk
            unfold plc plcC place9 at hlk
            go_simp
            clear hlk
            refine hK.out _ _ ⟨mdt_of hx1 hp1, hr1.cell 10⟩ (fun hHeld => ?_)
            clear hK K
            try simp only [Act.put, List.getElem_toArray, List.getElem_cons_succ, List.getElem_cons_zero, List.setIfInBounds_toArray, List.set_cons_succ, List.set_cons_zero]
            refine wpAnyH_take (i := 14) (v := ?_) rfl (by kernel_rfl) (by kernel_rfl) (by kernel_rfl) (fun _ _ _ h => h) (Or.inl ⟨rfl, ?_⟩) hHeld ?_
            rotate_left
            · intro w' hS; obtain ⟨⟨⟨a0, a1, a2, a3, a4, a5, a6, a7⟩, a8, ⟨b0, b1, b2, b3, b4, b5, b6, b7⟩, b8⟩, m9⟩ := hS; go_simp <;> with_reducible rfl
            simp only [Act.put, List.getElem_toArray, List.getElem_cons_succ, List.getElem_cons_zero, List.setIfInBounds_toArray, List.set_cons_succ, List.set_cons_zero]
            refine wpAnyH_take (i := 19) (v := ?_) rfl (by kernel_rfl) (by kernel_rfl) (by kernel_rfl) (fun _ _ _ h => h) (Or.inl ⟨rfl, ?_⟩) hHeld ?_
            rotate_left
            · intro w' hS; obtain ⟨⟨⟨a0, a1, a2, a3, a4, a5, a6, a7⟩, a8, ⟨b0, b1, b2, b3, b4, b5, b6, b7⟩, b8⟩, m9⟩ := hS; go_simp <;> with_reducible rfl
            simp only [Act.put, List.getElem_toArray, List.getElem_cons_succ, List.getElem_cons_zero, List.setIfInBounds_toArray, List.set_cons_succ, List.set_cons_zero]
            refine wpAnyH_take (i := 20) (v := ?_) rfl (by kernel_rfl) (by kernel_rfl) (by kernel_rfl) (fun _ _ _ h => h) (Or.inl ⟨rfl, ?_⟩) hHeld ?_
            rotate_left
            · intro w' hS; obtain ⟨⟨⟨a0, a1, a2, a3, a4, a5, a6, a7⟩, a8, ⟨b0, b1, b2, b3, b4, b5, b6, b7⟩, b8⟩, m9⟩ := hS; go_simp <;> with_reducible rfl
            simp only [Act.put, List.getElem_toArray, List.getElem_cons_succ, List.getElem_cons_zero, List.setIfInBounds_toArray, List.set_cons_succ, List.set_cons_zero]
            refine wpAnyH_done (by kernel_rfl) ?_ _
            clear hHeld
            have hxl := hx1.lt
            obtain ⟨x0, x1, x2, x3, x4, x5, x6, x7⟩ : Row8 wr.heap.size (has l) w7 := (mdt_of hx1 hp1).1
            have x8 := (mdt_of hx1 hp1).2.1
            have HNEW := Lib.hid (cells_new w7 89 #[.bool (has l 0), .bool (has l 1), .bool (has l 2), .bool (has l 3), .bool (has l 4), .bool (has l 5), .bool (has l 6), .bool (has l 7), .int .i64 tl])
            have HO6 := Lib.hid (hO1.alloc (.cells #[.bool (has l 0), .bool (has l 1), .bool (has l 2), .bool (has l 3), .bool (has l 4), .bool (has l 5), .bool (has l 6), .bool (has l 7), .int .i64 tl] 89))
            have hp2 := hp1.alloc (.cells #[.bool (has l 0), .bool (has l 1), .bool (has l 2), .bool (has l 3), .bool (has l 4), .bool (has l 5), .bool (has l 6), .bool (has l 7), .int .i64 tl] 89)
            have hr2 := hr1.alloc (.cells #[.bool (has l 0), .bool (has l 1), .bool (has l 2), .bool (has l 3), .bool (has l 4), .bool (has l 5), .bool (has l 6), .bool (has l 7), .int .i64 tl] 89)
            have ht2 := ht1.alloc ht1.size (.cells #[.bool (has l 0), .bool (has l 1), .bool (has l 2), .bool (has l 3), .bool (has l 4), .bool (has l 5), .bool (has l 6), .bool (has l 7), .int .i64 tl] 89)
            have HBASE := Lib.hid (show w.heap.size + 2 ≤ (w7.alloc (.cells #[.bool (has l 0), .bool (has l 1), .bool (has l 2), .bool (has l 3), .bool (has l 4), .bool (has l 5), .bool (has l 6), .bool (has l 7), .int .i64 tl] 89)).heap.size by simp; omega)
            clear hp1 hr1 ht1 hO1 hM1 hx1
            go_wp2_with (at_builtin; refine wpList_append_lies _ rfl (.tmp 36) (.tmp 38) 70 rfl (w.heap.size + 2) 89 i0 (.agg #[.bool false, .bool false, .bool false, .bool false, .bool false, .bool false, .bool false, .bool false, .int .i64 0]) 9 16 Try.underlying70 HI.out HZ0.out HZ1.out HZ2.out rfl (by decide) (.slice Q na r) na (legsCells T (bestOf T (Ls.take j) M x)) rfl HO6.out ⟨w7.heap.size, 0, none⟩ 1 1 [.bool (has l 0), .bool (has l 1), .bool (has l 2), .bool (has l 3), .bool (has l 4), .bool (has l 5), .bool (has l 6), .bool (has l 7), .int .i64 tl] rfl rfl HNEW.out (by simp [Value.oneCell']) (by decide) HMAX.out HBYT.out HBASE.out (w7.heap.size + 1) (by simp) ?_; intro g3 c3 w8 hown3 hg3 hat3 hlt3)
            have hrr : ∀ q, (Value.slice Q na r).ownBlock = some q → w.heap.size + 2 ≤ q ∧ q < wr.heap.size := HOL.out
            have q3 := whole_apart hp2 hg3 (fun e => absurd (hrr _ e.symm).1 (by omega))
            have q4 := whole_apart hr2 hg3 (fun e => absurd (hrr _ e.symm).1 (by omega))
            have hbt := Below.grown ht2 hg3 (by have := ht2.size; simp; omega) (fun q hq => by have := (hrr q hq).1; omega)
            have P2 := Lib.hid hown3
            have P3 := Lib.hid q3
            have P5 := Lib.hid q4
            have P4 := Lib.hid hbt
            clear hown3 hg3 hat3 hlt3 hbt hrr
            go_roundw
            case rel => exact ⟨j + 1, some ⟨g3, 0, none⟩, c3, by omega, by go_num, by rw [HRN.out, List.length_append, HNA.out]; rfl, by rw [HRN.out, List.length_append, HNA.out, legsCells_snoc, HMC.out]; exact P2.out, P3.out, P5.out, P4.out⟩
            case measure => simp [intOf]; omega
        · have HN := HNO (by rw [Bool.true_and]; exact decide_eq_false heq)
          have hbq : (tl + dy == dx) = false := by simpa using heq
          clear HNO HYES heq
          go_upto_region 5 with fail
          clear a0 a1 a2 a3 a4 a5 a6 a7 a8 hgl hwl
          have hz0 : wr.heap.size + 1 = (wr.alloc (.cells (legC (has l) tl) 89)).heap.size := by simp
          unfold legC at hx1 hp1 hr1 ht1 hO1 hM1 hz0
          generalize wr.alloc (.cells #[.bool (has l 0), .bool (has l 1), .bool (has l 2), .bool (has l 3), .bool (has l 4), .bool (has l 5), .bool (has l 6), .bool (has l 7), .int .i64 tl] 89) = w0 at hx1 hp1 hr1 ht1 hO1 hM1 hz0 ⊢
          go_wp2_with fail
          refine wp_region_held_drew (S := (fun w' => MdT wr.heap.size (has l) tl (w.heap.size + 1) (pf 4 x) (pt x) w' ∧ w'.cell? ⟨w.heap.size, 10, none⟩ = some (.map (some mb)))) (by kernel_rfl) ⟨mdt_of hx1.drew hp1.drew, hr1.drew.cell 10⟩ (fun hHeld => ?_)
          replace hx1 := hx1.drew
          replace hp1 := hp1.drew
          replace hr1 := hr1.drew
          replace ht1 := ht1.drew
          have hzd : (World.drew w0).heap.size = w0.heap.size := rfl
          replace hO1 : (World.drew w0).ownsRow (w.heap.size + 2) 89 9 (.slice Q na r) na (legsCells T (bestOf T (Ls.take j) M x)) := hO1
          replace hM1 := hM1.below (Below.refl w0.heap.size w0).drew
          generalize World.drew w0 = wd at hx1 hp1 hr1 ht1 hO1 hM1 hzd hHeld ⊢
          refine wpAnyH_take (i := 0) (v := ?_) rfl (by kernel_rfl) (by kernel_rfl) (by kernel_rfl) (fun _ _ _ h => h) (Or.inl ⟨rfl, ?_⟩) hHeld ?_
          rotate_left
          · intro w' hS; obtain ⟨⟨⟨a0, a1, a2, a3, a4, a5, a6, a7⟩, a8, ⟨b0, b1, b2, b3, b4, b5, b6, b7⟩, b8⟩, m9⟩ := hS; go_simp <;> with_reducible rfl
          simp only [Act.put, List.getElem_toArray, List.getElem_cons_succ, List.getElem_cons_zero, List.setIfInBounds_toArray, List.set_cons_succ, List.set_cons_zero]
          refine wpAnyH_take (i := 1) (v := ?_) rfl (by kernel_rfl) (by kernel_rfl) (by kernel_rfl) (fun _ _ _ h => h) (Or.inl ⟨rfl, ?_⟩) hHeld ?_
          rotate_left
          · intro w' hS; obtain ⟨⟨⟨a0, a1, a2, a3, a4, a5, a6, a7⟩, a8, ⟨b0, b1, b2, b3, b4, b5, b6, b7⟩, b8⟩, m9⟩ := hS; go_simp <;> with_reducible rfl
          simp only [Act.put, List.getElem_toArray, List.getElem_cons_succ, List.getElem_cons_zero, List.setIfInBounds_toArray, List.set_cons_succ, List.set_cons_zero]
          refine wpAnyH_take (i := 2) (v := ?_) rfl (by kernel_rfl) (by kernel_rfl) (by kernel_rfl) (fun _ _ _ h => h) (Or.inl ⟨rfl, ?_⟩) hHeld ?_
          rotate_left
          · intro w' hS; obtain ⟨⟨⟨a0, a1, a2, a3, a4, a5, a6, a7⟩, a8, ⟨b0, b1, b2, b3, b4, b5, b6, b7⟩, b8⟩, m9⟩ := hS; go_simp <;> with_reducible rfl
          simp only [Act.put, List.getElem_toArray, List.getElem_cons_succ, List.getElem_cons_zero, List.setIfInBounds_toArray, List.set_cons_succ, List.set_cons_zero]
          refine wpAnyH_ready (rs := [3]) (by kernel_rfl) (by simp) (AllReadyH.cons rfl (fun K hK => ?_) AllReadyH.nil)
          go_simp
          have hh := holds_any (2 * 4) (bitsOf (x / 2) (2 * 4)) l (bitAt x 0) wd HST.out (by omega)
          rw [HPC.out, crowd8] at hh
          unfold plcC place9 cells8 at hh
          refine hh.mono ?_
          clear hh
          rintro e9 w5 ⟨rfl, hb⟩
          rw [HA.out]
          have hz5 := hb.size
          replace hp1 := hp1.below hb
          replace hx1 := hx1.below hb
          replace hr1 := hr1.below hb
          replace ht1 := below_then ht1 hb ht1.size
          replace hO1 := ownsRow_below hO1 hb
          replace hM1 := hM1.below hb
          clear hb
          refine hK.out _ _ ⟨mdt_of hx1 hp1, hr1.cell 10⟩ (fun hHeld => ?_)
          clear hK K
          try simp only [Act.put, List.getElem_toArray, List.getElem_cons_succ, List.getElem_cons_zero, List.setIfInBounds_toArray, List.set_cons_succ, List.set_cons_zero]
          refine wpAnyH_take (i := 4) (v := ?_) rfl (by kernel_rfl) (by kernel_rfl) (by kernel_rfl) (fun _ _ _ h => h) (Or.inl ⟨rfl, ?_⟩) hHeld ?_
          rotate_left
          · intro w' hS; obtain ⟨⟨⟨a0, a1, a2, a3, a4, a5, a6, a7⟩, a8, ⟨b0, b1, b2, b3, b4, b5, b6, b7⟩, b8⟩, m9⟩ := hS; go_simp <;> with_reducible rfl
          simp only [Act.put, List.getElem_toArray, List.getElem_cons_succ, List.getElem_cons_zero, List.setIfInBounds_toArray, List.set_cons_succ, List.set_cons_zero]
          refine wpAnyH_take (i := 5) (v := ?_) rfl (by kernel_rfl) (by kernel_rfl) (by kernel_rfl) (fun _ _ _ h => h) (Or.inl ⟨rfl, ?_⟩) hHeld ?_
          rotate_left
          · intro w' hS; obtain ⟨⟨⟨a0, a1, a2, a3, a4, a5, a6, a7⟩, a8, ⟨b0, b1, b2, b3, b4, b5, b6, b7⟩, b8⟩, m9⟩ := hS; go_simp <;> with_reducible rfl
          simp only [Act.put, List.getElem_toArray, List.getElem_cons_succ, List.getElem_cons_zero, List.setIfInBounds_toArray, List.set_cons_succ, List.set_cons_zero]
          refine wpAnyH_take (i := 6) (v := ?_) rfl (by kernel_rfl) (by kernel_rfl) (by kernel_rfl) (fun _ _ _ h => h) (Or.inl ⟨rfl, ?_⟩) hHeld ?_
          rotate_left
          · intro w' hS; obtain ⟨⟨⟨a0, a1, a2, a3, a4, a5, a6, a7⟩, a8, ⟨b0, b1, b2, b3, b4, b5, b6, b7⟩, b8⟩, m9⟩ := hS; go_simp <;> with_reducible rfl
          simp only [Act.put, List.getElem_toArray, List.getElem_cons_succ, List.getElem_cons_zero, List.setIfInBounds_toArray, List.set_cons_succ, List.set_cons_zero]
          refine wpAnyH_take (i := 7) (v := ?_) rfl (by kernel_rfl) (by kernel_rfl) (by kernel_rfl) (fun _ _ _ h => h) (Or.inl ⟨rfl, ?_⟩) hHeld ?_
          rotate_left
          · intro w' hS; obtain ⟨⟨⟨a0, a1, a2, a3, a4, a5, a6, a7⟩, a8, ⟨b0, b1, b2, b3, b4, b5, b6, b7⟩, b8⟩, m9⟩ := hS; go_simp <;> with_reducible rfl
          simp only [Act.put, List.getElem_toArray, List.getElem_cons_succ, List.getElem_cons_zero, List.setIfInBounds_toArray, List.set_cons_succ, List.set_cons_zero]
          refine wpAnyH_take (i := 8) (v := ?_) rfl (by kernel_rfl) (by kernel_rfl) (by kernel_rfl) (fun _ _ _ h => h) (Or.inl ⟨rfl, ?_⟩) hHeld ?_
          rotate_left
          · intro w' hS; obtain ⟨⟨⟨a0, a1, a2, a3, a4, a5, a6, a7⟩, a8, ⟨b0, b1, b2, b3, b4, b5, b6, b7⟩, b8⟩, m9⟩ := hS; go_simp <;> with_reducible rfl
          simp only [Act.put, List.getElem_toArray, List.getElem_cons_succ, List.getElem_cons_zero, List.setIfInBounds_toArray, List.set_cons_succ, List.set_cons_zero]
          refine wpAnyH_take (i := 9) (v := ?_) rfl (by kernel_rfl) (by kernel_rfl) (by kernel_rfl) (fun _ _ _ h => h) (Or.inl ⟨rfl, ?_⟩) hHeld ?_
          rotate_left
          · intro w' hS; obtain ⟨⟨⟨a0, a1, a2, a3, a4, a5, a6, a7⟩, a8, ⟨b0, b1, b2, b3, b4, b5, b6, b7⟩, b8⟩, m9⟩ := hS; go_simp <;> with_reducible rfl
          simp only [Act.put, List.getElem_toArray, List.getElem_cons_succ, List.getElem_cons_zero, List.setIfInBounds_toArray, List.set_cons_succ, List.set_cons_zero]
          refine wpAnyH_take (i := 10) (v := ?_) rfl (by kernel_rfl) (by kernel_rfl) (by kernel_rfl) (fun _ _ _ h => h) (Or.inl ⟨rfl, ?_⟩) hHeld ?_
          rotate_left
          · intro w' hS; obtain ⟨⟨⟨a0, a1, a2, a3, a4, a5, a6, a7⟩, a8, ⟨b0, b1, b2, b3, b4, b5, b6, b7⟩, b8⟩, m9⟩ := hS; go_simp <;> with_reducible rfl
          simp only [Act.put, List.getElem_toArray, List.getElem_cons_succ, List.getElem_cons_zero, List.setIfInBounds_toArray, List.set_cons_succ, List.set_cons_zero]
          refine wpAnyH_take (i := 11) (v := ?_) rfl (by kernel_rfl) (by kernel_rfl) (by kernel_rfl) (fun _ _ _ h => h) (Or.inl ⟨rfl, ?_⟩) hHeld ?_
          rotate_left
          · intro w' hS; obtain ⟨⟨⟨a0, a1, a2, a3, a4, a5, a6, a7⟩, a8, ⟨b0, b1, b2, b3, b4, b5, b6, b7⟩, b8⟩, m9⟩ := hS; go_simp <;> with_reducible rfl
          simp only [Act.put, List.getElem_toArray, List.getElem_cons_succ, List.getElem_cons_zero, List.setIfInBounds_toArray, List.set_cons_succ, List.set_cons_zero]
          refine wpAnyH_take (i := 15) (v := ?_) rfl (by kernel_rfl) (by kernel_rfl) (by kernel_rfl) (fun _ _ _ h => h) (Or.inl ⟨rfl, ?_⟩) hHeld ?_
          rotate_left
          · intro w' hS; obtain ⟨⟨⟨a0, a1, a2, a3, a4, a5, a6, a7⟩, a8, ⟨b0, b1, b2, b3, b4, b5, b6, b7⟩, b8⟩, m9⟩ := hS; go_simp <;> with_reducible rfl
          simp only [Act.put, List.getElem_toArray, List.getElem_cons_succ, List.getElem_cons_zero, List.setIfInBounds_toArray, List.set_cons_succ, List.set_cons_zero]
          refine wpAnyH_take (i := 16) (v := ?_) rfl (by kernel_rfl) (by kernel_rfl) (by kernel_rfl) (fun _ _ _ h => h) (Or.inl ⟨rfl, ?_⟩) hHeld ?_
          rotate_left
          · intro w' hS; obtain ⟨⟨⟨a0, a1, a2, a3, a4, a5, a6, a7⟩, a8, ⟨b0, b1, b2, b3, b4, b5, b6, b7⟩, b8⟩, m9⟩ := hS; go_simp <;> with_reducible rfl
          simp only [Act.put, List.getElem_toArray, List.getElem_cons_succ, List.getElem_cons_zero, List.setIfInBounds_toArray, List.set_cons_succ, List.set_cons_zero]
          refine wpAnyH_take (i := 17) (v := ?_) rfl (by kernel_rfl) (by kernel_rfl) (by kernel_rfl) (fun _ _ _ h => h) (Or.inl ⟨rfl, ?_⟩) hHeld ?_
          rotate_left
          · intro w' hS; obtain ⟨⟨⟨a0, a1, a2, a3, a4, a5, a6, a7⟩, a8, ⟨b0, b1, b2, b3, b4, b5, b6, b7⟩, b8⟩, m9⟩ := hS; go_simp <;> with_reducible rfl
          simp only [Act.put, List.getElem_toArray, List.getElem_cons_succ, List.getElem_cons_zero, List.setIfInBounds_toArray, List.set_cons_succ, List.set_cons_zero]
          refine wpAnyH_ready (rs := [12, 18]) (by kernel_rfl) (by simp) (AllReadyH.cons rfl (fun K hK => ?_) (AllReadyH.cons rfl (fun K hK => ?_) AllReadyH.nil))
          · go_simp
            have hx := cross_any (bitsOf (x / 2) (2 * 4)) l (bitAt x 0) w5 HOUT.out
            rw [HPF.out, HPC.out, crowd8] at hx
            unfold plcC place9 cells8 at hx
            refine hx.mono ?_
            clear hx
            rintro e9 w7 ⟨rfl, hb⟩
            have hz7 := hb.size
            replace hp1 := hp1.below hb
            replace hx1 := hx1.below hb
            replace hr1 := hr1.below hb
            replace ht1 := below_then ht1 hb ht1.size
            replace hO1 := ownsRow_below hO1 hb
            replace hM1 := hM1.below hb
            clear hb
            refine hK.out _ _ ⟨mdt_of hx1 hp1, hr1.cell 10⟩ (fun hHeld => ?_)
            clear hK K
            try simp only [Act.put, List.getElem_toArray, List.getElem_cons_succ, List.getElem_cons_zero, List.setIfInBounds_toArray, List.set_cons_succ, List.set_cons_zero]
            refine wpAnyH_ready (rs := [13, 18]) (by kernel_rfl) (by simp) (AllReadyH.cons rfl (fun K hK => ?_) (AllReadyH.cons rfl (fun K hK => ?_) AllReadyH.nil))
            · have hlk := MapIs.look hM1 (place_keys (by omega)) Try.underlying76 Try.underlying3 (hzero _) y HYD.out
              rw [show (M y).getD 0 = dy from HDY.out] at hlk
              unfold plc plcC place9 at hlk
              go_simp
              clear hlk
              refine hK.out _ _ ⟨mdt_of hx1 hp1, hr1.cell 10⟩ (fun hHeld => ?_)
              clear hK K
              try simp only [Act.put, List.getElem_toArray, List.getElem_cons_succ, List.getElem_cons_zero, List.setIfInBounds_toArray, List.set_cons_succ, List.set_cons_zero]
              refine wpAnyH_take (i := 14) (v := ?_) rfl (by kernel_rfl) (by kernel_rfl) (by kernel_rfl) (fun _ _ _ h => h) (Or.inl ⟨rfl, ?_⟩) hHeld ?_
              rotate_left
              · intro w' hS; obtain ⟨⟨⟨a0, a1, a2, a3, a4, a5, a6, a7⟩, a8, ⟨b0, b1, b2, b3, b4, b5, b6, b7⟩, b8⟩, m9⟩ := hS; go_simp <;> with_reducible rfl
              simp only [Act.put, List.getElem_toArray, List.getElem_cons_succ, List.getElem_cons_zero, List.setIfInBounds_toArray, List.set_cons_succ, List.set_cons_zero]
              refine wpAnyH_ready (rs := [18]) (by kernel_rfl) (by simp) (AllReadyH.cons rfl (fun K hK => ?_) AllReadyH.nil)
              have hlk := MapIs.look hM1 (place_keys (by omega)) Try.underlying76 Try.underlying3 (hzero _) x HXD.out
              rw [show (M x).getD 0 = dx from HDX.out] at hlk
              unfold plc plcC place9 at hlk
              go_simp
              clear hlk
              refine hK.out _ _ ⟨mdt_of hx1 hp1, hr1.cell 10⟩ (fun hHeld => ?_)
              clear hK K
              try simp only [Act.put, List.getElem_toArray, List.getElem_cons_succ, List.getElem_cons_zero, List.setIfInBounds_toArray, List.set_cons_succ, List.set_cons_zero]
              refine wpAnyH_take (i := 19) (v := ?_) rfl (by kernel_rfl) (by kernel_rfl) (by kernel_rfl) (fun _ _ _ h => h) (Or.inl ⟨rfl, ?_⟩) hHeld ?_
              rotate_left
              · intro w' hS; obtain ⟨⟨⟨a0, a1, a2, a3, a4, a5, a6, a7⟩, a8, ⟨b0, b1, b2, b3, b4, b5, b6, b7⟩, b8⟩, m9⟩ := hS; go_simp <;> with_reducible rfl
              simp only [Act.put, List.getElem_toArray, List.getElem_cons_succ, List.getElem_cons_zero, List.setIfInBounds_toArray, List.set_cons_succ, List.set_cons_zero]
              refine wpAnyH_take (i := 20) (v := ?_) rfl (by kernel_rfl) (by kernel_rfl) (by kernel_rfl) (fun _ _ _ h => h) (Or.inl ⟨rfl, ?_⟩) hHeld ?_
              rotate_left
              · intro w' hS; obtain ⟨⟨⟨a0, a1, a2, a3, a4, a5, a6, a7⟩, a8, ⟨b0, b1, b2, b3, b4, b5, b6, b7⟩, b8⟩, m9⟩ := hS; go_simp <;> with_reducible rfl
              simp only [Act.put, List.getElem_toArray, List.getElem_cons_succ, List.getElem_cons_zero, List.setIfInBounds_toArray, List.set_cons_succ, List.set_cons_zero]
              refine wpAnyH_done (by kernel_rfl) ?_ _
              clear hHeld
              have HM := Lib.hid hO1
              have HT1 := Lib.hid ht1
              have H3 := Lib.hid hp1
              have H4 := Lib.hid hr1
              clear hO1 ht1 hp1 hr1 hx1 hM1
              go_wp2
              go_roundw
              case rel => exact ⟨j + 1, Q, r, by omega, by go_num, by rw [HN.out, HNA.out], by rw [HN.out, HNA.out]; exact HM.out, H3.out, H4.out, HT1.out⟩
              case measure => simp [intOf]; omega
            · have hlk := MapIs.look hM1 (place_keys (by omega)) Try.underlying76 Try.underlying3 (hzero _) x HXD.out
              rw [show (M x).getD 0 = dx from HDX.out] at hlk
              unfold plc plcC place9 at hlk
              go_simp
              clear hlk
              refine hK.out _ _ ⟨mdt_of hx1 hp1, hr1.cell 10⟩ (fun hHeld => ?_)
              clear hK K
              try simp only [Act.put, List.getElem_toArray, List.getElem_cons_succ, List.getElem_cons_zero, List.setIfInBounds_toArray, List.set_cons_succ, List.set_cons_zero]
              refine wpAnyH_ready (rs := [13]) (by kernel_rfl) (by simp) (AllReadyH.cons rfl (fun K hK => ?_) AllReadyH.nil)
              have hlk := MapIs.look hM1 (place_keys (by omega)) Try.underlying76 Try.underlying3 (hzero _) y HYD.out
              rw [show (M y).getD 0 = dy from HDY.out] at hlk
              unfold plc plcC place9 at hlk
              go_simp
              clear hlk
              refine hK.out _ _ ⟨mdt_of hx1 hp1, hr1.cell 10⟩ (fun hHeld => ?_)
              clear hK K
              try simp only [Act.put, List.getElem_toArray, List.getElem_cons_succ, List.getElem_cons_zero, List.setIfInBounds_toArray, List.set_cons_succ, List.set_cons_zero]
              refine wpAnyH_take (i := 14) (v := ?_) rfl (by kernel_rfl) (by kernel_rfl) (by kernel_rfl) (fun _ _ _ h => h) (Or.inl ⟨rfl, ?_⟩) hHeld ?_
              rotate_left
              · intro w' hS; obtain ⟨⟨⟨a0, a1, a2, a3, a4, a5, a6, a7⟩, a8, ⟨b0, b1, b2, b3, b4, b5, b6, b7⟩, b8⟩, m9⟩ := hS; go_simp <;> with_reducible rfl
              simp only [Act.put, List.getElem_toArray, List.getElem_cons_succ, List.getElem_cons_zero, List.setIfInBounds_toArray, List.set_cons_succ, List.set_cons_zero]
              refine wpAnyH_take (i := 19) (v := ?_) rfl (by kernel_rfl) (by kernel_rfl) (by kernel_rfl) (fun _ _ _ h => h) (Or.inl ⟨rfl, ?_⟩) hHeld ?_
              rotate_left
              · intro w' hS; obtain ⟨⟨⟨a0, a1, a2, a3, a4, a5, a6, a7⟩, a8, ⟨b0, b1, b2, b3, b4, b5, b6, b7⟩, b8⟩, m9⟩ := hS; go_simp <;> with_reducible rfl
              simp only [Act.put, List.getElem_toArray, List.getElem_cons_succ, List.getElem_cons_zero, List.setIfInBounds_toArray, List.set_cons_succ, List.set_cons_zero]
              refine wpAnyH_take (i := 20) (v := ?_) rfl (by kernel_rfl) (by kernel_rfl) (by kernel_rfl) (fun _ _ _ h => h) (Or.inl ⟨rfl, ?_⟩) hHeld ?_
              rotate_left
              · intro w' hS; obtain ⟨⟨⟨a0, a1, a2, a3, a4, a5, a6, a7⟩, a8, ⟨b0, b1, b2, b3, b4, b5, b6, b7⟩, b8⟩, m9⟩ := hS; go_simp <;> with_reducible rfl
              simp only [Act.put, List.getElem_toArray, List.getElem_cons_succ, List.getElem_cons_zero, List.setIfInBounds_toArray, List.set_cons_succ, List.set_cons_zero]
              refine wpAnyH_done (by kernel_rfl) ?_ _
              clear hHeld
              have HM := Lib.hid hO1
              have HT1 := Lib.hid ht1
              have H3 := Lib.hid hp1
              have H4 := Lib.hid hr1
              clear hO1 ht1 hp1 hr1 hx1 hM1
              go_wp2
              go_roundw
              case rel => exact ⟨j + 1, Q, r, by omega, by go_num, by rw [HN.out, HNA.out], by rw [HN.out, HNA.out]; exact HM.out, H3.out, H4.out, HT1.out⟩
              case measure => simp [intOf]; omega
          · have hlk := MapIs.look hM1 (place_keys (by omega)) Try.underlying76 Try.underlying3 (hzero _) x HXD.out
            rw [show (M x).getD 0 = dx from HDX.out] at hlk
            unfold plc plcC place9 at hlk
            go_simp
            clear hlk
            refine hK.out _ _ ⟨mdt_of hx1 hp1, hr1.cell 10⟩ (fun hHeld => ?_)
            clear hK K
            try simp only [Act.put, List.getElem_toArray, List.getElem_cons_succ, List.getElem_cons_zero, List.setIfInBounds_toArray, List.set_cons_succ, List.set_cons_zero]
            refine wpAnyH_ready (rs := [12]) (by kernel_rfl) (by simp) (AllReadyH.cons rfl (fun K hK => ?_) AllReadyH.nil)
            go_simp
            have hx := cross_any (bitsOf (x / 2) (2 * 4)) l (bitAt x 0) w5 HOUT.out
            rw [HPF.out, HPC.out, crowd8] at hx
            unfold plcC place9 cells8 at hx
            refine hx.mono ?_
            clear hx
            rintro e9 w7 ⟨rfl, hb⟩
            have hz7 := hb.size
            replace hp1 := hp1.below hb
            replace hx1 := hx1.below hb
            replace hr1 := hr1.below hb
            replace ht1 := below_then ht1 hb ht1.size
            replace hO1 := ownsRow_below hO1 hb
            replace hM1 := hM1.below hb
            clear hb
            refine hK.out _ _ ⟨mdt_of hx1 hp1, hr1.cell 10⟩ (fun hHeld => ?_)
            clear hK K
            try simp only [Act.put, List.getElem_toArray, List.getElem_cons_succ, List.getElem_cons_zero, List.setIfInBounds_toArray, List.set_cons_succ, List.set_cons_zero]
            refine wpAnyH_ready (rs := [13]) (by kernel_rfl) (by simp) (AllReadyH.cons rfl (fun K hK => ?_) AllReadyH.nil)
            have hlk := MapIs.look hM1 (place_keys (by omega)) Try.underlying76 Try.underlying3 (hzero _) y HYD.out
            rw [show (M y).getD 0 = dy from HDY.out] at hlk
            unfold plc plcC place9 at hlk
            go_simp
            clear hlk
            refine hK.out _ _ ⟨mdt_of hx1 hp1, hr1.cell 10⟩ (fun hHeld => ?_)
            clear hK K
            try simp only [Act.put, List.getElem_toArray, List.getElem_cons_succ, List.getElem_cons_zero, List.setIfInBounds_toArray, List.set_cons_succ, List.set_cons_zero]
            refine wpAnyH_take (i := 14) (v := ?_) rfl (by kernel_rfl) (by kernel_rfl) (by kernel_rfl) (fun _ _ _ h => h) (Or.inl ⟨rfl, ?_⟩) hHeld ?_
            rotate_left
            · intro w' hS; obtain ⟨⟨⟨a0, a1, a2, a3, a4, a5, a6, a7⟩, a8, ⟨b0, b1, b2, b3, b4, b5, b6, b7⟩, b8⟩, m9⟩ := hS; go_simp <;> with_reducible rfl
            simp only [Act.put, List.getElem_toArray, List.getElem_cons_succ, List.getElem_cons_zero, List.setIfInBounds_toArray, List.set_cons_succ, List.set_cons_zero]
            refine wpAnyH_take (i := 19) (v := ?_) rfl (by kernel_rfl) (by kernel_rfl) (by kernel_rfl) (fun _ _ _ h => h) (Or.inl ⟨rfl, ?_⟩) hHeld ?_
            rotate_left
            · intro w' hS; obtain ⟨⟨⟨a0, a1, a2, a3, a4, a5, a6, a7⟩, a8, ⟨b0, b1, b2, b3, b4, b5, b6, b7⟩, b8⟩, m9⟩ := hS; go_simp <;> with_reducible rfl
            simp only [Act.put, List.getElem_toArray, List.getElem_cons_succ, List.getElem_cons_zero, List.setIfInBounds_toArray, List.set_cons_succ, List.set_cons_zero]
            refine wpAnyH_take (i := 20) (v := ?_) rfl (by kernel_rfl) (by kernel_rfl) (by kernel_rfl) (fun _ _ _ h => h) (Or.inl ⟨rfl, ?_⟩) hHeld ?_
            rotate_left
            · intro w' hS; obtain ⟨⟨⟨a0, a1, a2, a3, a4, a5, a6, a7⟩, a8, ⟨b0, b1, b2, b3, b4, b5, b6, b7⟩, b8⟩, m9⟩ := hS; go_simp <;> with_reducible rfl
            simp only [Act.put, List.getElem_toArray, List.getElem_cons_succ, List.getElem_cons_zero, List.setIfInBounds_toArray, List.set_cons_succ, List.set_cons_zero]
            refine wpAnyH_done (by kernel_rfl) ?_ _
            clear hHeld
            have HM := Lib.hid hO1
            have HT1 := Lib.hid ht1
            have H3 := Lib.hid hp1
            have H4 := Lib.hid hr1
            clear hO1 ht1 hp1 hr1 hx1 hM1
            go_wp2
            go_roundw
            case rel => exact ⟨j + 1, Q, r, by omega, by go_num, by rw [HN.out, HNA.out], by rw [HN.out, HNA.out]; exact HM.out, H3.out, H4.out, HT1.out⟩
            case measure => simp [intOf]; omega
    · obtain rfl : j = Ls.length := by omega
      have hd : decide ((Ls.length : Int) < (Ls.length : Int)) = false := by simp
      rw [List.take_length] at hM ⊢
      have HM := Lib.hid hM
      have HT := Lib.hid ht
      clear hM ht h2 h3
      go_wp2
      go_ret
      exact ⟨Q, r, rfl, own_lower HM.out (by omega), HT.out⟩
end Go.Proofs.Ytlpeimlbpiofkaa

namespace Go.Proofs.Ytlpeimlbpiofkaa
open Go.RowKit

theorem slow_bound9 {xs : List Int} {n q : Nat} (hx : xs.length = n) (hxs : ∀ y ∈ xs, 1 ≤ y ∧ y ≤ 1000) : ∀ l ∈ upLists n q, 1 ≤ slowOf xs l ∧ slowOf xs l ≤ 1000000 := fun l hl => by
  refine ⟨?_, ?_⟩
  · exact leg_time (t := slowOf xs l) (a := (bitsOf 0 n, false)) (b := (flipped (bitsOf 0 n) l, !false)) hx (fun y hy => (hxs y hy).1) ⟨bitsOf_len _ _, l, (trips_mem n q _ _ l).2 ⟨hl, fun k hk => by
      have h0 : (bitsOf 0 n).getD k.toNat false = false := by
        rw [List.getD_eq_getElem?_getD]
        cases hq : (bitsOf 0 n)[k.toNat]? with
        | none => rfl
        | some b => 
          have := List.mem_of_getElem? hq
          simp [bitsOf, bitAt] at this
          simpa using this.2
      exact h0⟩, rfl, rfl⟩
  · refine Int.le_trans (?_ : slowOf xs l ≤ 1000) (by decide)
    have key : ∀ (f : List Int) (a : Int), a ≤ 1000 → (∀ x ∈ f, x ≤ 1000) → f.foldl max a ≤ 1000 := by
      intro f
      induction f with
      | nil => exact fun a h _ => h
      | cons b f ih =>
        intro a h1 hf
        have hb := hf b (List.mem_cons_self ..)
        exact ih (max a b) (by omega) (fun x hx => hf x (List.mem_cons_of_mem _ hx))
    refine key _ 0 (by decide) (fun x hx' => ?_)
    obtain ⟨k, -, rfl⟩ := List.mem_map.1 hx'
    rw [List.getD_eq_getElem?_getD]
    cases hk : xs[k.toNat]? with
    | none => simp
    | some v => exact (hxs v (List.mem_of_getElem? hk)).2
/-- The least times of a party to its last state. -/
noncomputable def leftM (xs : List Int) (n q : Nat) : Nat → Option Int := partyD xs n q (codeOf (trues n) true)
theorem left_ok {xs : List Int} {n q : Nat} (hx : xs.length = n) (hn : n ≤ 8) (hxs : ∀ y ∈ xs, 1 ≤ y ∧ y ≤ 1000) : LeftOk (slowOf xs) (upLists n q) (codeOf (trues n) true) (leftM xs n q) :=
  leftG_ok (a := (trues n, true)) hn (fun l hl => up_all hl) (slow_bound9 hx hxs) (by simp [trues])
theorem left_tells {xs : List Int} {n q : Nat} {done : List Bool} {o : List Int} (hx : xs.length = n) (hn : n ≤ 8) (hxs : ∀ y ∈ xs, 1 ≤ y ∧ y ≤ 1000)
    (hL : Least (Leg xs n q) (stateS n (num (trues n) true.toNat)) (settledS n done o)) (hno : ∀ i, i < 2 ^ (n + 1) → done.getD i false = false → o.getD i (-1) < 0) (hm : ∀ i, -1 ≤ o.getD i (-1)) : TellsO n (leftM xs n q) o := by
  rw [show num (trues n) true.toNat = numS (trues n, true) from rfl, stateS_num (by simp [trues]), leg_same] at hL
  exact tellsG (a := (trues n, true)) hn (fun l hl => up_all hl) (slow_bound9 hx hxs) (by simp [trues]) hL hno hm
theorem trips_next (T : List Int → Int) (n q : Nat) (o : List Int) (bs : List Bool) (t : Bool) : (tripsIn n (q : Int) bs t).filter (fun l => decide (0 ≤ farS o (flipped bs l) (!t)) && decide (farS o (flipped bs l) (!t) + T l = farS o bs t)) = nextO T (upLists n q) o bs t := by
  rw [nextO, trips_rides]
end Go.Proofs.Ytlpeimlbpiofkaa

namespace Go.Proofs.Ytlpeimlbpiofkaa
open Go.RowKit Go.Maps Go.WideShapes

theorem party_parts {xs : List Int} {q : Nat} (h : isParty xs (q : Int) = true) : 1 ≤ xs.length ∧ xs.length ≤ 8 ∧ 1 ≤ q ∧ q ≤ 8 ∧ ∀ y ∈ xs, 1 ≤ y ∧ y ≤ 1000 := by
  simp only [isParty, allIn, Bool.and_eq_true, within_iff, List.all_eq_true] at h
  obtain ⟨⟨h1, h2⟩, h3, h4, h5⟩ := h
  exact ⟨by omega, by omega, by omega, by omega, fun y hy => h3 y hy⟩
theorem zero_mem4 : 0 ∈ sts 4 := sts_mem.2 (by omega)
theorem route_one (E : Option Addr) (k c x mb : Nat) : (routeC E k c x mb).all (·.oneCell') = true := by simp [routeC, Value.oneCell']
def zero11 : Array Value := #[.slice none 0 0, .bool false, .bool false, .bool false, .bool false, .bool false, .bool false, .bool false, .bool false, .bool false, .map none]
theorem zero_one : zero11.all (·.oneCell') = true := by simp [zero11, Value.oneCell']
theorem code_none (n : Nat) : codeOf (falses n) false = 0 := by
  have h := code_lt (falses n) false
  refine nat_bits fun i => ?_
  rw [bit_code]
  have h0 : bitAt 0 i = false := by simp [bitAt]
  rw [h0]
  split
  · rfl
  · simp [falses, List.getD_eq_getElem?_getD, List.getElem?_replicate]
    intro h1
    rw [if_pos h1]
    rfl

set_option maxHeartbeats 6400000 in
set_option maxRecDepth 100000 in
theorem ifPlanned_yes (E : Option Addr) (k c x mb : Nat) (M : Nat → Option Int) (v : Int) (w : World) (hM0 : PlaceMap w mb M) (hv0 : M 0 = some v) :
    Calls Try.prog 110 #[.agg (routeC E k c x mb)] w fun e w' => e = .returned (.tuple #[.agg (routeC E k c x mb), .bool true]) ∧ Below w.heap.size w w' := by
  have hb := (Whole.fresh w 78 (routeC E k c x mb)).alloc (.cells #[.slice none 0 0, .bool false, .bool false, .bool false, .bool false, .bool false, .bool false, .bool false, .bool false, .bool false, .map none] 78)
  have hr := Whole.fresh (w.alloc (.cells (routeC E k c x mb) 78)) 78 #[.slice none 0 0, .bool false, .bool false, .bool false, .bool false, .bool false, .bool false, .bool false, .bool false, .bool false, .map none]
  rw [World.size_alloc] at hr
  have HM := Lib.hid ((hM0.alloc (.cells (routeC E k c x mb) 78)).alloc (.cells #[.slice none 0 0, .bool false, .bool false, .bool false, .bool false, .bool false, .bool false, .bool false, .bool false, .bool false, .map none] 78))
  have HV := Lib.hid hv0
  have HT := Lib.hid (below2 w (.cells (routeC E k c x mb) 78) (.cells #[.slice none 0 0, .bool false, .bool false, .bool false, .bool false, .bool false, .bool false, .bool false, .bool false, .bool false, .map none] 78))
  have hk10 := (cells11 (x0 := .slice E k c) hb).2.2.2.2.2.2.2.2.2.2
  have hbl := hb.lt
  clear hM0 hv0
  unfold routeC at HM HT hk10 hbl hb hr
  unfold routeC
  go_enter Try.func110, Try.ntmps110
  go_wp2_with (first
    | (at_lookup; refine wpList_map_some _ rfl _ _ rfl (place_keys (by omega)) Try.underlying76 Try.underlying3 (hzero _) rfl HM.out 0 zero_mem4 rfl HV.out ?_; go_frame)
    | (refine wpList_load_row rfl 78 (.tmp 1) rfl w.heap.size rfl 78 #[.slice E k c, .bool (pf 4 x 0), .bool (pf 4 x 1), .bool (pf 4 x 2), .bool (pf 4 x 3), .bool (pf 4 x 4), .bool (pf 4 x 5), .bool (pf 4 x 6), .bool (pf 4 x 7), .bool (pt x), .map (some mb)] (0, 0) _ hb Try.underlying78 rfl size_routes ?_)
    | (refine wpList_store_whole rfl 78 (.tmp 2) (.tmp 16) rfl (w.heap.size + 1) #[.slice E k c, .bool (pf 4 x 0), .bool (pf 4 x 1), .bool (pf 4 x 2), .bool (pf 4 x 3), .bool (pf 4 x 4), .bool (pf 4 x 5), .bool (pf 4 x 6), .bool (pf 4 x 7), .bool (pt x), .map (some mb)] rfl rfl 78 _ hr size_routes rfl (by simp [Value.oneCell']) ?_; intro w7 hw7 ho7))
  have HT7 := Lib.hid (ho7.below HT.out (by omega))
  obtain ⟨c0, c1, c2, c3, c4, c5, c6, c7, c8, c9, c10⟩ := cells11 hw7
  exact bodyPost_ret (v := .tuple #[.agg #[.slice E k c, .bool (pf 4 x 0), .bool (pf 4 x 1), .bool (pf 4 x 2), .bool (pf 4 x 3), .bool (pf 4 x 4), .bool (pf 4 x 5), .bool (pf 4 x 6), .bool (pf 4 x 7), .bool (pt x), .map (some mb)], .bool true]) (by simp [results, Try.results110, go_sem, c0, c1, c2, c3, c4, c5, c6, c7, c8, c9, c10]) rfl ⟨rfl, HT7.out⟩

set_option maxHeartbeats 6400000 in
set_option maxRecDepth 100000 in
theorem ifPlanned_no (E : Option Addr) (k c x mb : Nat) (M : Nat → Option Int) (w : World) (hM0 : PlaceMap w mb M) (hv0 : M 0 = none) :
    Calls Try.prog 110 #[.agg (routeC E k c x mb)] w fun e w' => e = .returned (.tuple #[.agg zero11, .bool false]) ∧ Below w.heap.size w w' := by
  have hb := (Whole.fresh w 78 (routeC E k c x mb)).alloc (.cells #[.slice none 0 0, .bool false, .bool false, .bool false, .bool false, .bool false, .bool false, .bool false, .bool false, .bool false, .map none] 78)
  have hr := Whole.fresh (w.alloc (.cells (routeC E k c x mb) 78)) 78 #[.slice none 0 0, .bool false, .bool false, .bool false, .bool false, .bool false, .bool false, .bool false, .bool false, .bool false, .map none]
  rw [World.size_alloc] at hr
  have HM := Lib.hid ((hM0.alloc (.cells (routeC E k c x mb) 78)).alloc (.cells #[.slice none 0 0, .bool false, .bool false, .bool false, .bool false, .bool false, .bool false, .bool false, .bool false, .bool false, .map none] 78))
  have HV := Lib.hid hv0
  have HT := Lib.hid (below2 w (.cells (routeC E k c x mb) 78) (.cells #[.slice none 0 0, .bool false, .bool false, .bool false, .bool false, .bool false, .bool false, .bool false, .bool false, .bool false, .map none] 78))
  have hk10 := (cells11 (x0 := .slice E k c) hb).2.2.2.2.2.2.2.2.2.2
  have hbl := hb.lt
  clear hM0 hv0
  unfold routeC at HM HT hk10 hbl hb hr
  unfold routeC
  go_enter Try.func110, Try.ntmps110
  go_wp2_with (first
    | (at_lookup; refine wpList_map_none _ rfl _ _ rfl (place_keys (by omega)) Try.underlying76 Try.underlying3 (hzero _) rfl HM.out 0 zero_mem4 rfl HV.out ?_; go_frame)
    | (refine wpList_store_whole rfl 78 (.tmp 2) (.tmp 15) rfl (w.heap.size + 1) #[.slice none 0 0, .bool false, .bool false, .bool false, .bool false, .bool false, .bool false, .bool false, .bool false, .bool false, .map none] rfl rfl 78 _ hr size_routes rfl (by simp [Value.oneCell']) ?_; intro w7 hw7 ho7))
  have HT7 := Lib.hid (ho7.below HT.out (by omega))
  obtain ⟨c0, c1, c2, c3, c4, c5, c6, c7, c8, c9, c10⟩ := cells11 hw7
  exact bodyPost_ret (v := .tuple #[.agg #[.slice none 0 0, .bool false, .bool false, .bool false, .bool false, .bool false, .bool false, .bool false, .bool false, .bool false, .map none], .bool false]) (by simp [results, Try.results110, go_sem, c0, c1, c2, c3, c4, c5, c6, c7, c8, c9, c10]) rfl ⟨rfl, HT7.out⟩

set_option maxHeartbeats 3200000 in
set_option maxRecDepth 100000 in
theorem least_yes (E : Option Addr) (k c x mb : Nat) (M : Nat → Option Int) (w : World) (hM0 : PlaceMap w mb M) :
    Calls Try.prog 64 #[.agg (routeC E k c x mb)] w fun e w' => e = .returned (.int .i64 ((M 0).getD 0)) ∧ Below w.heap.size w w' := by
  have hb := Whole.fresh w 78 (routeC E k c x mb)
  have HM := Lib.hid (hM0.alloc (.cells (routeC E k c x mb) 78))
  have HT := Lib.hid (below1 w (.cells (routeC E k c x mb) 78))
  have hk10 := (cells11 (x0 := .slice E k c) hb).2.2.2.2.2.2.2.2.2.2
  have hbl := hb.lt
  obtain ⟨v, hv⟩ : ∃ v, (M 0).getD 0 = v := ⟨_, rfl⟩
  have HV := Lib.hid hv
  rw [hv]
  clear hM0 hv
  unfold routeC at HM HT hk10 hbl hb
  unfold routeC
  go_enter Try.func64, Try.ntmps64
  go_wp2_with (at_lookup; refine wpList_map_look _ rfl _ _ rfl (place_keys (by omega)) Try.underlying76 Try.underlying3 (hzero _) rfl HM.out 0 zero_mem4 rfl ?_; rw [HV.out]; go_frame)
  go_ret
  exact ⟨rfl, HT.out⟩
set_option maxHeartbeats 3200000 in
set_option maxRecDepth 100000 in
theorem least_no (w : World) : Calls Try.prog 64 #[.agg zero11] w fun e w' => e = .returned (.int .i64 0) ∧ Below w.heap.size w w' := by
  have hb := Whole.fresh w 78 zero11
  have HT := Lib.hid (below1 w (.cells zero11 78))
  have hk10 := (cells11 (x0 := .slice none 0 0) hb).2.2.2.2.2.2.2.2.2.2
  have hbl := hb.lt
  have hnl : ∀ W : World, (Instr.lookup 76 (.map none) (plc 4 0) false).run Try.prog W = .ok (.int .i64 0) W := fun W => Maps.look_nil false law_place Try.underlying76 (hzero W) (plc_reads 4 0)
  have hz : plc 4 0 = .agg #[.bool false, .bool false, .bool false, .bool false, .bool false, .bool false, .bool false, .bool false, .bool false] := rfl
  rw [hz] at hnl
  clear hz hb
  unfold zero11 at HT hk10 hbl
  unfold zero11
  go_enter Try.func64, Try.ntmps64
  go_wp2
  go_ret
  exact ⟨rfl, HT.out⟩

/-- Is there a plan? -/
noncomputable def planOk (xs : List Int) (n q : Nat) : Bool := (timeST xs n q (falses n, false) (trues n, true)).isSome
theorem party_first {xs : List Int} {n q : Nat} (hx : xs.length = n) (hn : n ≤ 8) (hxs : ∀ y ∈ xs, 1 ≤ y) : partyD xs n q (codeOf (trues n) true) 0 = timeST xs n q (falses n, false) (trues n, true) := by
  have h := party_at (xs := xs) (n := n) (q := q) (a := (trues n, true)) (b := (falses n, false)) hx hn hxs (by simp [trues]) (by simp [falses])
  rw [show codeOf (falses n, false).1 (falses n, false).2 = 0 from code_none n] at h
  exact h.trans (time_turn hx hxs)
/-- What planned hands back where there is a plan. -/
def PlannedPost (xs : List Int) (n q : Nat) (w : World) (e : Ending) (w' : World) : Prop :=
  ∃ (E : Option Addr) (cE mb : Nat), e = .returned (.tuple #[.agg (routeC E (upLists n q).length cE (codeOf (trues n) true) mb), .bool true]) ∧ w'.ownsRow w.heap.size 89 9 (.slice E (upLists n q).length cE) (upLists n q).length (legsCells (slowOf xs) (upLists n q)) ∧ PlaceMap w' mb (partyD xs n q (codeOf (trues n) true)) ∧ Below w.heap.size w w'

set_option maxHeartbeats 6400000 in
set_option maxRecDepth 100000 in
theorem planned_none (A : Option Addr) (n c : Nat) (xs : List Int) (s : Int) (w : World) (hA0 : Holds w A (nums xs)) (hx : xs.length = n) (hn : n ≤ 9223372036854775807) (hp0 : isParty xs s = false) :
    Calls Try.prog 63 #[.agg #[.slice A n c, .int .i64 s]] w fun e w' => e = .returned (.tuple #[.agg zero11, .bool false]) ∧ Below w.heap.size w w' := by
  have HA := Lib.hid ((hA0.alloc (.cells #[.slice A n c, .int .i64 s] 28)).alloc (.cells #[.slice none 0 0, .bool false, .bool false, .bool false, .bool false, .bool false, .bool false, .bool false, .bool false, .bool false, .map none] 78))
  have HX := Lib.hid hx
  have HP := Lib.hid hp0
  have hr := Whole.fresh (w.alloc (.cells #[.slice A n c, .int .i64 s] 28)) 78 #[.slice none 0 0, .bool false, .bool false, .bool false, .bool false, .bool false, .bool false, .bool false, .bool false, .bool false, .map none]
  rw [World.size_alloc] at hr
  have HT := Lib.hid (below2 w (.cells #[.slice A n c, .int .i64 s] 28) (.cells #[.slice none 0 0, .bool false, .bool false, .bool false, .bool false, .bool false, .bool false, .bool false, .bool false, .bool false, .map none] 78))
  clear hA0 hx hp0
  go_enter Try.func63, Try.ntmps63
  go_wp2_with fail
  refine (isParty_any A n c xs s _ HA.out HX.out hn).mono ?_
  rintro e w1 ⟨rfl, hb⟩
  rw [HP.out]
  have HT1 := Lib.hid (below_then HT.out hb HT.out.size)
  replace hr := hr.below hb
  clear hb
  go_wp2_with (refine wpList_store_whole rfl 78 (.tmp 2) (.tmp 7) rfl (w.heap.size + 1) #[.slice none 0 0, .bool false, .bool false, .bool false, .bool false, .bool false, .bool false, .bool false, .bool false, .bool false, .map none] rfl rfl 78 _ hr size_routes rfl (by simp [Value.oneCell']) ?_; intro w7 hw7 ho7)
  have HT7 := Lib.hid (ho7.below HT1.out (by omega))
  obtain ⟨c0, c1, c2, c3, c4, c5, c6, c7, c8, c9, c10⟩ := cells11 hw7
  exact bodyPost_ret (v := .tuple #[.agg #[.slice none 0 0, .bool false, .bool false, .bool false, .bool false, .bool false, .bool false, .bool false, .bool false, .bool false, .map none], .bool false]) (by simp [results, Try.results63, go_sem, c0, c1, c2, c3, c4, c5, c6, c7, c8, c9, c10]) rfl ⟨rfl, HT7.out⟩

set_option maxHeartbeats 6400000 in
set_option maxRecDepth 100000 in
theorem planned_no (A : Option Addr) (n c q : Nat) (xs : List Int) (w : World) (hA0 : Holds w A (nums xs)) (hx : xs.length = n) (hp0 : isParty xs (q : Int) = true) (hno : planOk xs n q = false) :
    Calls Try.prog 63 #[.agg #[.slice A n c, .int .i64 (q : Int)]] w fun e w' => e = .returned (.tuple #[.agg zero11, .bool false]) ∧ Below w.heap.size w w' := by
  obtain ⟨g1, g8, gq1, gq8, gxs⟩ := party_parts hp0
  rw [hx] at g1 g8
  have HA := Lib.hid ((hA0.alloc (.cells #[.slice A n c, .int .i64 (q : Int)] 28)).alloc (.cells #[.slice none 0 0, .bool false, .bool false, .bool false, .bool false, .bool false, .bool false, .bool false, .bool false, .bool false, .map none] 78))
  have HX := Lib.hid hx
  have HP := Lib.hid hp0
  have HXS := Lib.hid gxs
  have HNO : Hid (partyD xs n q (codeOf (trues n) true) 0 = none) := by show _ = _; rw [party_first hx g8 (fun y hy => (gxs y hy).1)]; unfold planOk at hno; simpa using hno
  have hq := (Whole.fresh w 28 #[.slice A n c, .int .i64 (q : Int)]).alloc (.cells #[.slice none 0 0, .bool false, .bool false, .bool false, .bool false, .bool false, .bool false, .bool false, .bool false, .bool false, .map none] 78)
  have hr := Whole.fresh (w.alloc (.cells #[.slice A n c, .int .i64 (q : Int)] 28)) 78 #[.slice none 0 0, .bool false, .bool false, .bool false, .bool false, .bool false, .bool false, .bool false, .bool false, .bool false, .map none]
  rw [World.size_alloc] at hr
  have HT := Lib.hid (below2 w (.cells #[.slice A n c, .int .i64 (q : Int)] 28) (.cells #[.slice none 0 0, .bool false, .bool false, .bool false, .bool false, .bool false, .bool false, .bool false, .bool false, .bool false, .map none] 78))
  clear hA0 hx hp0 hno gxs
  go_enter Try.func63, Try.ntmps63
  go_wp2_with fail
  refine (isParty_any A n c xs (q : Int) _ HA.out HX.out (by omega)).mono ?_
  rintro e w1 ⟨rfl, hb⟩
  rw [HP.out]
  have HT1 := Lib.hid (below_then HT.out hb HT.out.size)
  have HA1 := Lib.hid (HA.out.below hb)
  replace hr := hr.below hb
  replace hq := hq.below hb
  obtain ⟨k0, k1⟩ := hq.cells2
  have hql := hq.lt
  clear hb
  go_wp2_with fail
  refine (routesOf_any A n c q xs _ HA1.out HX.out g1 g8 gq8 HXS.out).mono ?_
  rintro e w2 ⟨E, cE, mb, rfl, hown, hmap, hb⟩
  have HT2 := Lib.hid (below_then HT1.out hb HT1.out.size)
  replace hr := hr.below hb
  have HMAP := Lib.hid hmap
  clear hb k0 k1 hql hown hmap hq
  go_wp2_with fail
  refine (ifPlanned_no E (upLists n q).length cE (codeOf (trues n) true) mb _ w2 HMAP.out HNO.out).mono ?_
  rintro e w3 ⟨rfl, hb⟩
  have HT3 := Lib.hid (below_then HT2.out hb HT2.out.size)
  replace hr := hr.below hb
  clear hb
  unfold zero11
  go_wp2_with (refine wpList_store_whole rfl 78 (.tmp 2) (.tmp 11) rfl (w.heap.size + 1) #[.slice none 0 0, .bool false, .bool false, .bool false, .bool false, .bool false, .bool false, .bool false, .bool false, .bool false, .map none] rfl rfl 78 _ hr size_routes rfl (by simp [Value.oneCell']) ?_; intro w7 hw7 ho7)
  have HT7 := Lib.hid (ho7.below HT3.out (by omega))
  obtain ⟨c0, c1, c2, c3, c4, c5, c6, c7, c8, c9, c10⟩ := cells11 hw7
  exact bodyPost_ret (v := .tuple #[.agg #[.slice none 0 0, .bool false, .bool false, .bool false, .bool false, .bool false, .bool false, .bool false, .bool false, .bool false, .map none], .bool false]) (by simp [results, Try.results63, go_sem, c0, c1, c2, c3, c4, c5, c6, c7, c8, c9, c10]) rfl ⟨rfl, HT7.out⟩

set_option maxHeartbeats 6400000 in
set_option maxRecDepth 100000 in
theorem planned_yes (A : Option Addr) (n c q : Nat) (xs : List Int) (w : World) (hA0 : Holds w A (nums xs)) (hx : xs.length = n) (hp0 : isParty xs (q : Int) = true) (hyes : planOk xs n q = true) :
    Calls Try.prog 63 #[.agg #[.slice A n c, .int .i64 (q : Int)]] w (PlannedPost xs n q w) := by
  obtain ⟨g1, g8, gq1, gq8, gxs⟩ := party_parts hp0
  rw [hx] at g1 g8
  have HA := Lib.hid ((hA0.alloc (.cells #[.slice A n c, .int .i64 (q : Int)] 28)).alloc (.cells #[.slice none 0 0, .bool false, .bool false, .bool false, .bool false, .bool false, .bool false, .bool false, .bool false, .bool false, .map none] 78))
  have HX := Lib.hid hx
  have HP := Lib.hid hp0
  have HXS := Lib.hid gxs
  obtain ⟨v, hv⟩ : ∃ v, partyD xs n q (codeOf (trues n) true) 0 = some v := by rw [party_first hx g8 (fun y hy => (gxs y hy).1)]; exact Option.isSome_iff_exists.1 hyes
  have HNO := Lib.hid hv
  have hq := (Whole.fresh w 28 #[.slice A n c, .int .i64 (q : Int)]).alloc (.cells #[.slice none 0 0, .bool false, .bool false, .bool false, .bool false, .bool false, .bool false, .bool false, .bool false, .bool false, .map none] 78)
  have hr := Whole.fresh (w.alloc (.cells #[.slice A n c, .int .i64 (q : Int)] 28)) 78 #[.slice none 0 0, .bool false, .bool false, .bool false, .bool false, .bool false, .bool false, .bool false, .bool false, .bool false, .map none]
  rw [World.size_alloc] at hr
  have HT := Lib.hid (below2 w (.cells #[.slice A n c, .int .i64 (q : Int)] 28) (.cells #[.slice none 0 0, .bool false, .bool false, .bool false, .bool false, .bool false, .bool false, .bool false, .bool false, .bool false, .map none] 78))
  clear hA0 hx hp0 hyes gxs hv
  go_enter Try.func63, Try.ntmps63
  go_wp2_with fail
  refine (isParty_any A n c xs (q : Int) _ HA.out HX.out (by omega)).mono ?_
  rintro e w1 ⟨rfl, hb⟩
  rw [HP.out]
  have HT1 := Lib.hid (below_then HT.out hb HT.out.size)
  have HA1 := Lib.hid (HA.out.below hb)
  replace hr := hr.below hb
  replace hq := hq.below hb
  obtain ⟨k0, k1⟩ := hq.cells2
  have hql := hq.lt
  clear hb
  go_wp2_with fail
  refine (routesOf_any A n c q xs _ HA1.out HX.out g1 g8 gq8 HXS.out).mono ?_
  rintro e w2 ⟨E, cE, mb, rfl, hown, hmap, hb⟩
  have HT2 := Lib.hid (below_then HT1.out hb HT1.out.size)
  have hlw := HT1.out.size
  replace hr := hr.below hb
  have HMAP := Lib.hid hmap
  have HOWN := Lib.hid hown
  clear hb k0 k1 hql hown hmap hq
  go_wp2_with fail
  refine (ifPlanned_yes E (upLists n q).length cE (codeOf (trues n) true) mb _ v w2 HMAP.out HNO.out).mono ?_
  rintro e w3 ⟨rfl, hb⟩
  have HT3 := Lib.hid (below_then HT2.out hb HT2.out.size)
  replace hr := hr.below hb
  have HMAP3 := Lib.hid (HMAP.out.below hb)
  have HOWN3 := Lib.hid (ownsRow_below HOWN.out hb)
  clear hb
  obtain ⟨x, hxx⟩ : ∃ x, codeOf (trues n) true = x := ⟨_, rfl⟩
  obtain ⟨k, hk⟩ : ∃ k, (upLists n q).length = k := ⟨_, rfl⟩
  have HXX := Lib.hid hxx
  have HKK := Lib.hid hk
  rw [hxx, hk]
  clear hxx hk
  unfold routeC
  go_wp2_with (refine wpList_store_whole rfl 78 (.tmp 2) (.tmp 11) rfl (w.heap.size + 1) #[.slice E k cE, .bool (pf 4 x 0), .bool (pf 4 x 1), .bool (pf 4 x 2), .bool (pf 4 x 3), .bool (pf 4 x 4), .bool (pf 4 x 5), .bool (pf 4 x 6), .bool (pf 4 x 7), .bool (pt x), .map (some mb)] rfl rfl 78 _ hr size_routes rfl (by simp [Value.oneCell']) ?_; intro w7 hw7 ho7)
  have HT7 := Lib.hid (ho7.below HT3.out (by omega))
  have HM7 := Lib.hid (map_only HMAP3.out ho7 hr)
  have HO7 := Lib.hid (own_lower (own_only HOWN3.out ho7 hr (by decide)) hlw)
  obtain ⟨c0, c1, c2, c3, c4, c5, c6, c7, c8, c9, c10⟩ := cells11 hw7
  exact bodyPost_ret (v := .tuple #[.agg #[.slice E k cE, .bool (pf 4 x 0), .bool (pf 4 x 1), .bool (pf 4 x 2), .bool (pf 4 x 3), .bool (pf 4 x 4), .bool (pf 4 x 5), .bool (pf 4 x 6), .bool (pf 4 x 7), .bool (pt x), .map (some mb)], .bool true]) (by simp [results, Try.results63, go_sem, c0, c1, c2, c3, c4, c5, c6, c7, c8, c9, c10]) rfl ⟨E, cE, mb, by rw [HKK.out, HXX.out, routeC], HO7.out, HM7.out, HT7.out⟩
end Go.Proofs.Ytlpeimlbpiofkaa

namespace Go.Proofs.Ytlpeimlbpiofkaa
open Go.RowKit Go.Maps Go.WideShapes

noncomputable def leastOk (xs : List Int) (s : Int) : Bool := isParty xs s && planOk xs xs.length s.toNat
noncomputable def leastV (xs : List Int) (s : Int) : Int := if leastOk xs s then leastP xs xs.length s.toNat else 0
theorem leastOk_none {xs : List Int} {s : Int} (h : isParty xs s = false) : leastOk xs s = false ∧ leastV xs s = 0 := by simp [leastV, leastOk, h]
theorem leastOk_at {xs : List Int} {q : Nat} (h : isParty xs (q : Int) = true) : leastOk xs (q : Int) = planOk xs xs.length q := by simp [leastOk, h]
theorem leastV_yes {xs : List Int} {q : Nat} (h : isParty xs (q : Int) = true) (hp : planOk xs xs.length q = true) : leastV xs (q : Int) = leastP xs xs.length q := by simp [leastV, leastOk, h, hp]
theorem leastV_no {xs : List Int} {q : Nat} (h : isParty xs (q : Int) = true) (hp : planOk xs xs.length q = false) : leastV xs (q : Int) = 0 := by simp [leastV, leastOk, h, hp]
theorem leastP_yes {xs : List Int} {n q : Nat} (hx : xs.length = n) (hxs : ∀ y ∈ xs, 1 ≤ y) (hp : planOk xs n q = true) : 0 ≤ leastP xs n q := by
  obtain ⟨v, hv⟩ := Option.isSome_iff_exists.1 hp
  rw [leastP, hv]
  exact time_low hx hxs hv
theorem leastP_no {xs : List Int} {n q : Nat} (hp : planOk xs n q = false) : leastP xs n q = -1 := by
  unfold planOk at hp
  rw [leastP]
  cases hv : timeST xs n q (falses n, false) (trues n, true) with
  | none => rfl
  | some v => rw [hv] at hp; simp at hp
theorem leastP_val {xs : List Int} {n q : Nat} (hx : xs.length = n) (hn : n ≤ 8) (hxs : ∀ y ∈ xs, 1 ≤ y) (hp : planOk xs n q = true) : (partyD xs n q (codeOf (trues n) true) 0).getD 0 = leastP xs n q := by
  rw [party_first hx hn hxs, leastP]
  obtain ⟨v, hv⟩ := Option.isSome_iff_exists.1 hp
  rw [hv]
  rfl

set_option maxHeartbeats 3200000 in
set_option maxRecDepth 100000 in
theorem specLeastTime_any (A : Option Addr) (n c : Nat) (xs : List Int) (s : Int) (w : World) (hA0 : Holds w A (nums xs)) (hx : xs.length = n) (hn : n ≤ 9223372036854775807) :
    Calls Try.prog 16 #[.agg #[.slice A n c, .int .i64 s]] w fun e w' => e = .returned (.tuple #[.int .i64 (leastV xs s), .bool (leastOk xs s)]) ∧ Below w.heap.size w w' := by
  have hA := hA0.alloc (.cells #[.slice A n c, .int .i64 s] 28)
  have hq := Whole.fresh w 28 #[.slice A n c, .int .i64 s]
  have HT := Lib.hid (below1 w (.cells #[.slice A n c, .int .i64 s] 28))
  cases hp : isParty xs s
  · have HV := Lib.hid (leastOk_none hp)
    have HP := Lib.hid hp
    have HX := Lib.hid hx
    have HA := Lib.hid hA
    clear hp hA hA0 hx
    go_enter Try.func16, Try.ntmps16
    go_wp2_with fail
    refine (paGood_any A n c xs s _ HA.out HX.out hn).mono ?_
    rintro e w1 ⟨rfl, hb⟩
    rw [HP.out]
    have HT1 := Lib.hid (below_then HT.out hb HT.out.size)
    clear hb hq
    go_wp2
    go_ret2
    exact ⟨by rw [HV.out.1, HV.out.2]; rfl, HT1.out⟩
  · obtain ⟨q, rfl⟩ : ∃ q : Nat, s = (q : Int) := ⟨s.toNat, by simp only [isParty, Bool.and_eq_true, within_iff] at hp; omega⟩
    obtain ⟨g1, g8, gq1, gq8, gxs⟩ := party_parts hp
    subst hx
    have HP := Lib.hid hp
    have HA := Lib.hid hA
    have HXS := Lib.hid gxs
    have HOK := Lib.hid (leastOk_at hp)
    cases hpl : planOk xs xs.length q
    · have HV := Lib.hid (leastV_no hp hpl)
      have HLP := Lib.hid (leastP_no hpl)
      have HPL := Lib.hid hpl
      clear hp hA hA0 gxs hpl
      go_enter Try.func16, Try.ntmps16
      go_wp2_with fail
      refine (paGood_any A xs.length c xs (q : Int) _ HA.out rfl hn).mono ?_
      rintro e w1 ⟨rfl, hb⟩
      rw [HP.out]
      have HT1 := Lib.hid (below_then HT.out hb HT.out.size)
      have HA1 := Lib.hid (HA.out.below hb)
      replace hq := hq.below hb
      obtain ⟨k0, k1⟩ := hq.cells2
      have hql := hq.lt
      clear hb
      go_wp2_with fail
      refine (seLeast_any A xs.length c q xs _ HA1.out rfl g1 g8 gq8 HXS.out).mono ?_
      rintro e w2 ⟨rfl, hb⟩
      rw [HLP.out]
      have HT2 := Lib.hid (below_then HT1.out hb HT1.out.size)
      clear hb hq k0 k1 hql
      go_wp2
      go_ret2
      exact ⟨by rw [HV.out, HOK.out, HPL.out]; rfl, HT2.out⟩
    · have HV := Lib.hid (leastV_yes hp hpl)
      have HPL := Lib.hid hpl
      obtain ⟨v, hv⟩ : ∃ v, leastP xs xs.length q = v := ⟨_, rfl⟩
      have hv0 : 0 ≤ v := by rw [← hv]; exact leastP_yes rfl (fun y hy => (gxs y hy).1) hpl
      have hv1 : ¬ v < 0 := by omega
      have hd0 : decide (v < 0) = false := by simpa using hv1
      have HLV := Lib.hid hv
      clear hp hA hA0 gxs hpl hv
      go_enter Try.func16, Try.ntmps16
      go_wp2_with fail
      refine (paGood_any A xs.length c xs (q : Int) _ HA.out rfl hn).mono ?_
      rintro e w1 ⟨rfl, hb⟩
      rw [HP.out]
      have HT1 := Lib.hid (below_then HT.out hb HT.out.size)
      have HA1 := Lib.hid (HA.out.below hb)
      replace hq := hq.below hb
      obtain ⟨k0, k1⟩ := hq.cells2
      have hql := hq.lt
      clear hb
      go_wp2_with fail
      refine (seLeast_any A xs.length c q xs _ HA1.out rfl g1 g8 gq8 HXS.out).mono ?_
      rintro e w2 ⟨rfl, hb⟩
      rw [HLV.out]
      have HT2 := Lib.hid (below_then HT1.out hb HT1.out.size)
      have HA2 := Lib.hid (HA1.out.below hb)
      replace hq := hq.below hb
      clear k0 k1 hql hb
      obtain ⟨k0, k1⟩ := hq.cells2
      have hql := hq.lt
      go_wp2_with fail
      refine (seLeast_any A xs.length c q xs _ HA2.out rfl g1 g8 gq8 HXS.out).mono ?_
      rintro e w3 ⟨rfl, hb⟩
      rw [HLV.out]
      have HT3 := Lib.hid (below_then HT2.out hb HT2.out.size)
      clear hb hq k0 k1 hql
      go_wp2
      go_ret2
      exact ⟨by rw [HV.out, HLV.out, HOK.out, HPL.out]; rfl, HT3.out⟩

set_option maxHeartbeats 6400000 in
set_option maxRecDepth 100000 in
theorem implLeast_zero (A : Option Addr) (n c : Nat) (xs : List Int) (s : Int) (w : World)
    (hpl : Calls Try.prog 63 #[.agg #[.slice A n c, .int .i64 s]] (w.alloc (.cells #[.slice A n c, .int .i64 s] 28)) fun e w' => e = .returned (.tuple #[.agg zero11, .bool false]) ∧ Below (w.alloc (.cells #[.slice A n c, .int .i64 s] 28)).heap.size (w.alloc (.cells #[.slice A n c, .int .i64 s] 28)) w') :
    Calls Try.prog 18 #[.agg #[.slice A n c, .int .i64 s]] w fun e w' => e = .returned (.tuple #[.int .i64 0, .bool false]) ∧ Below w.heap.size w w' := by
  have HT := Lib.hid (below1 w (.cells #[.slice A n c, .int .i64 s] 28))
  have HPL := Lib.hid hpl
  clear hpl
  go_enter Try.func18, Try.ntmps18
  go_wp2_with fail
  refine HPL.out.mono ?_
  rintro e w1 ⟨rfl, hb⟩
  have HT1 := Lib.hid (below_then HT.out hb HT.out.size)
  have hbx : Whole (w1.alloc (.cells #[.slice none 0 0, .bool false, .bool false, .bool false, .bool false, .bool false, .bool false, .bool false, .bool false, .bool false, .map none] 78)) w1.heap.size 78 #[.slice none 0 0, .bool false, .bool false, .bool false, .bool false, .bool false, .bool false, .bool false, .bool false, .bool false, .map none] := Whole.fresh _ _ _
  have HT2 := Lib.hid (HT1.out.alloc HT1.out.size (.cells #[.slice none 0 0, .bool false, .bool false, .bool false, .bool false, .bool false, .bool false, .bool false, .bool false, .bool false, .map none] 78))
  clear hb
  unfold zero11
  obtain ⟨c0, c1, c2, c3, c4, c5, c6, c7, c8, c9, c10⟩ := cells11 hbx
  have hbl := hbx.lt
  go_wp2_with fail
  have hln := least_no (w1.alloc (.cells #[.slice none 0 0, .bool false, .bool false, .bool false, .bool false, .bool false, .bool false, .bool false, .bool false, .bool false, .map none] 78))
  unfold zero11 at hln
  refine hln.mono ?_
  clear hln
  rintro e w2 ⟨rfl, hb⟩
  have HT3 := Lib.hid (below_then HT2.out hb HT2.out.size)
  clear hb hbx c0 c1 c2 c3 c4 c5 c6 c7 c8 c9 c10 hbl
  go_wp2
  go_ret2
  exact ⟨rfl, HT3.out⟩
set_option maxHeartbeats 6400000 in
set_option maxRecDepth 100000 in
theorem implLeastTime_any (A : Option Addr) (n c : Nat) (xs : List Int) (s : Int) (w : World) (hA0 : Holds w A (nums xs)) (hx : xs.length = n) (hn : n ≤ 9223372036854775807) :
    Calls Try.prog 18 #[.agg #[.slice A n c, .int .i64 s]] w fun e w' => e = .returned (.tuple #[.int .i64 (leastV xs s), .bool (leastOk xs s)]) ∧ Below w.heap.size w w' := by
  have hA := hA0.alloc (.cells #[.slice A n c, .int .i64 s] 28)
  cases hp : isParty xs s
  · rw [(leastOk_none hp).1, (leastOk_none hp).2]
    exact implLeast_zero A n c xs s w (planned_none A n c xs s _ hA hx hn hp)
  · obtain ⟨q, rfl⟩ : ∃ q : Nat, s = (q : Int) := ⟨s.toNat, by simp only [isParty, Bool.and_eq_true, within_iff] at hp; omega⟩
    obtain ⟨g1, g8, gq1, gq8, gxs⟩ := party_parts hp
    cases hpl : planOk xs xs.length q
    · rw [leastV_no hp hpl, leastOk_at hp, hpl]
      exact implLeast_zero A n c xs (q : Int) w (planned_no A n c q xs _ hA hx hp (by rw [← hx]; exact hpl))
    · rw [leastV_yes hp hpl, leastOk_at hp, hpl]
      have hval := leastP_val rfl g8 (fun y hy => (gxs y hy).1) hpl
      rw [hx] at hval hpl ⊢
      have HVAL := Lib.hid hval
      have HPY := Lib.hid (planned_yes A n c q xs _ hA hx hp hpl)
      have HT := Lib.hid (below1 w (.cells #[.slice A n c, .int .i64 (q : Int)] 28))
      clear hp hA hA0 gxs hpl hx hval
      go_enter Try.func18, Try.ntmps18
      go_wp2_with fail
      refine HPY.out.mono ?_
      rintro e w1 ⟨E, cE, mb, rfl, hown, hmap, hb⟩
      have HT1 := Lib.hid (below_then HT.out hb HT.out.size)
      obtain ⟨x, hxx⟩ : ∃ x, codeOf (trues n) true = x := ⟨_, rfl⟩
      obtain ⟨k, hk⟩ : ∃ k, (upLists n q).length = k := ⟨_, rfl⟩
      obtain ⟨M, hM⟩ : ∃ M, partyD xs n q (codeOf (trues n) true) = M := ⟨_, rfl⟩
      rw [hM] at hmap HVAL
      rw [hxx, hk]
      have HMP := Lib.hid (hmap.alloc (.cells (routeC E k cE x mb) 78))
      have hbx : Whole (w1.alloc (.cells (routeC E k cE x mb) 78)) w1.heap.size 78 (routeC E k cE x mb) := Whole.fresh _ _ _
      have HT2 := Lib.hid (HT1.out.alloc HT1.out.size (.cells (routeC E k cE x mb) 78))
      clear hb hown hmap hxx hk hM
      have hln := least_yes E k cE x mb M _ HMP.out
      rw [HVAL.out] at hln
      have HLN := Lib.hid hln
      clear hln
      unfold routeC at HMP hbx HT2 HLN
      unfold routeC
      obtain ⟨c0, c1, c2, c3, c4, c5, c6, c7, c8, c9, c10⟩ := cells11 hbx
      have hbl := hbx.lt
      go_wp2_with fail
      refine HLN.out.mono ?_
      rintro e w2 ⟨rfl, hb⟩
      have HT3 := Lib.hid (below_then HT2.out hb HT2.out.size)
      clear hb hbx c0 c1 c2 c3 c4 c5 c6 c7 c8 c9 c10 hbl
      go_wp2
      go_ret2
      exact ⟨rfl, HT3.out⟩
end Go.Proofs.Ytlpeimlbpiofkaa
