/-
  What is proved: the contract of the program's river of a company. Conditions: there is a company.
  What is proved: the contract of the program's closure that tells the rows in a place. Conditions: at most four couples.
  What is proved: contracts of slices.Equal of numbers and of the program's state behind a row. Conditions: lists are read as they lie; at most four couples.
  What is proved: the contract of the model's list of a group told by bits. Conditions: eight bits.
-/
import Derived.Deep.DeepCutAuto
import Derived.Test.YtcikimjpjebflaaJ3SwapCouples
set_option linter.unusedSimpArgs false
set_option linter.unusedVariables false
namespace Go.Proofs.Ytcikimjpjebflaa
open Go.RowKit

theorem fresh_of {w : World} {g : Nat} {t : TypeId} {cs : Array Value} (_h : Whole w g t cs) (ty : TypeId) (c : Array Value) : Whole (w.alloc (.cells c ty)) w.heap.size ty c := Whole.fresh w ty c
/-- Two blocks of different element types are different. -/
theorem whole_ne {w : World} {g h : Nat} {t u : TypeId} {a b : Array Value} (h1 : Whole w g t a) (h2 : Whole w h u b) (hn : t ≠ u) : g ≠ h := by
  rintro rfl
  have e : some (Obj.cells a t (0, 0)) = some (Obj.cells b u (0, 0)) := h1.symm.trans h2
  simp at e
  exact hn e.2
theorem calmFn_off {w : World} {k g1 g3 g4 b : Nat} {u : Value} {cs : Array Value} (h : CalmFn w k g1 g3 g4) (hb : Whole w b 186 cs) : CalmFn (w.setCell ⟨b, 0, none⟩ u) k g1 g3 g4 :=
  ⟨h.b1.off (whole_ne h.b1 hb (by decide)), h.b3.off (whole_ne h.b3 hb (by decide)), h.b4.off (whole_ne h.b4 hb (by decide))⟩

/-- A river's cells before it is told. -/
def riverZero : Array Value := #[.bool false, .bool false, .bool false, .bool false, .bool false, .bool false, .bool false, .bool false, .bool false, .bool false, .bool false, .bool false, .bool false, .bool false, .bool false, .bool false, .bool false, .bool false, Value.nilFunc]
theorem own_off {w : World} {b o base size n : Nat} {t e : TypeId} {v u : Value} {cs : Array Value} {xs : List Value} (h : w.ownsRow base e size v n xs) (hb : Whole w b t cs) (hn : t ≠ e) : (w.setCell ⟨b, o, none⟩ u).ownsRow base e size v n xs := by
  obtain ⟨hl, h | ⟨q, cap, cur, hv, hq, hh, r⟩⟩ := h
  · exact ⟨hl, .inl h⟩
  · have hw : Whole w q e cur := hh
    exact ⟨hl, .inr ⟨q, cap, cur, hv, hq, (Below.heap_setCell w ⟨b, o, none⟩ u q (whole_ne hw hb (fun h => hn h.symm))).trans hh, r⟩⟩
theorem calmFn_off' {w : World} {k g1 g3 g4 b o : Nat} {t : TypeId} {u : Value} {cs : Array Value} (h : CalmFn w k g1 g3 g4) (hb : Whole w b t cs) (n1 : 3 ≠ t) (n2 : 175 ≠ t) (n3 : 83 ≠ t) : CalmFn (w.setCell ⟨b, o, none⟩ u) k g1 g3 g4 :=
  ⟨h.b1.off (whole_ne h.b1 hb (by first | exact n1 | exact n2 | exact n3)), h.b3.off (whole_ne h.b3 hb (by first | exact n1 | exact n2 | exact n3)), h.b4.off (whole_ne h.b4 hb (by first | exact n1 | exact n2 | exact n3))⟩

def rowsFnV (gG gC : Nat) : Value := .func (.func 160) #[] #[.pointer (some ⟨gG, 0, none⟩), .pointer (some ⟨gC, 0, none⟩)]
/-- A river's cells. -/
def riverCells (k gG gC : Nat) : Array Value := #[.bool false, .bool false, .bool false, .bool false, .bool false, .bool false, .bool false, .bool false, .bool false, .bool (firstN (2 * k) 0), .bool (firstN (2 * k) 1), .bool (firstN (2 * k) 2), .bool (firstN (2 * k) 3), .bool (firstN (2 * k) 4), .bool (firstN (2 * k) 5), .bool (firstN (2 * k) 6), .bool (firstN (2 * k) 7), .bool true, rowsFnV gG gC]
theorem size_river : (Try.prog.info? 162).map (·.size) = some 19 := by kernel_rfl
theorem river_one (k gG gC : Nat) : (riverCells k gG gC).all (·.oneCell') = true := by simp [riverCells, rowsFnV, Value.oneCell']
theorem river_ret {w : World} {tmps : Array Value} {g k gG gC : Nat} (h2 : tmps.getD 2 undef = .pointer (some ⟨g, 0, none⟩)) (hw : Whole w g 162 (riverCells k gG gC)) :
    (results Try.f136 tmps).run Try.prog w = .ok (.agg (riverCells k gG gC)) w := by
  have hl := run_loadVar_row (P := Try.prog) w g 162 162 (riverCells k gG gC) (0, 0) _ hw Try.underlying162 rfl size_river
  have h2' : tmps[2]?.getD undef = .pointer (some ⟨g, 0, none⟩) := by simpa using h2
  simp [results, Try.results136, h2', asAddr, hl]
/-- What the closure that tells rows has captured. -/
structure RowsFn (w : World) (k gG gC g1 g3 g4 g : Nat) (A : Option Addr) (c : Nat) (ls : List (List Int)) : Prop where
  f : CalmFn w k g1 g3 g4
  p : Whole w gC 186 #[calmFnV g3 g4]
  gr : Whole w gG 123 #[.slice A ls.length c]
  own : w.ownsRow g 81 8 (.slice A ls.length c) ls.length (crowdsOf ls)
theorem RowsFn.below {w w' : World} {k gG gC g1 g3 g4 g : Nat} {A : Option Addr} {c : Nat} {ls : List (List Int)} (h : RowsFn w k gG gC g1 g3 g4 g A c ls) (hb : Below w.heap.size w w') : RowsFn w' k gG gC g1 g3 g4 g A c ls := ⟨h.f.below hb, h.p.below hb, h.gr.below hb, ownsRow_below h.own hb⟩
theorem RowsFn.alloc {w : World} {k gG gC g1 g3 g4 g : Nat} {A : Option Addr} {c : Nat} {ls : List (List Int)} (h : RowsFn w k gG gC g1 g3 g4 g A c ls) (o : Obj) : RowsFn (w.alloc o) k gG gC g1 g3 g4 g A c ls := ⟨h.f.alloc o, h.p.alloc o, h.gr.alloc o, h.own.alloc o⟩
theorem RowsFn.drew {w : World} {k gG gC g1 g3 g4 g : Nat} {A : Option Addr} {c : Nat} {ls : List (List Int)} (h : RowsFn w k gG gC g1 g3 g4 g A c ls) : RowsFn w.drew k gG gC g1 g3 g4 g A c ls := ⟨h.f.drew, h.p, h.gr, h.own⟩
theorem own_only {w w' : World} {b base size n : Nat} {t e : TypeId} {v : Value} {cs : Array Value} {xs : List Value} (h : w.ownsRow base e size v n xs) (ho : Only b w w') (hb : Whole w b t cs) (hn : t ≠ e) : w'.ownsRow base e size v n xs := by
  obtain ⟨hl, h | ⟨q, cap, cur, hv, hq, hh, r⟩⟩ := h
  · exact ⟨hl, .inl h⟩
  · have hw : Whole w q e cur := hh
    exact ⟨hl, .inr ⟨q, cap, cur, hv, hq, (ho.block q (whole_ne hw hb (fun h => hn h.symm))).trans hh, r⟩⟩

/-- What stands behind the first statement. -/
def RivCut (w : World) (k q : Nat) (s : Int) (s3 s4 : Value) (wx : World) : Prop :=
  ∃ (gG gC g1 g3 g4 g : Nat) (A : Option Addr) (c : Nat), s3 = .pointer (some ⟨gC, 0, none⟩) ∧ s4 = .pointer (some ⟨gG, 0, none⟩) ∧ RowsFn wx k gG gC g1 g3 g4 g A c (groupsOf k q) ∧ Whole wx w.heap.size 61 #[.int .i64 k, .int .i64 s] ∧ Whole wx (w.heap.size + 1) 162 riverZero ∧ Below w.heap.size w wx
def RiverPost (k q : Nat) (w : World) (e : Ending) (w' : World) : Prop :=
  ∃ (gG gC g1 g3 g4 g : Nat) (A : Option Addr) (c : Nat), e = .returned (.agg (riverCells k gG gC)) ∧ RowsFn w' k gG gC g1 g3 g4 g A c (groupsOf k q) ∧ Below w.heap.size w w'

set_option maxHeartbeats 12800000 in
set_option maxRecDepth 100000 in
set_option linter.unusedSimpArgs false in
theorem companyRiver_any (k q : Nat) (w : World) (hk : k ≤ 4) (hq4 : q ≤ 4) :
    Calls Try.prog 136 #[.agg #[.int .i64 k, .int .i64 q]] w (RiverPost k q w) := by
  have HCC : Hid (∀ W, Calls Try.prog 159 #[.int .i64 k, .int .i64 q] W (CalmCrowdsPost k q W)) := fun W => calmCrowds_any k q W hk hq4
  obtain ⟨s, hsq⟩ : ∃ s : Int, s = (q : Int) := ⟨_, rfl⟩
  rw [← hsq] at HCC ⊢
  have hmf : ∀ (fn : Fn) (first cap : Array Value) (w : World), (Instr.makeFunc fn first cap).run Try.prog w = .ok (.func fn first cap) w := fun _ _ _ _ => rfl
  have HPT := Lib.hid (place_trues (2 * k) true)
  clear hsq
  have hcur := (Whole.fresh w 61 #[.int .i64 k, .int .i64 s]).alloc (.cells riverZero 162)
  have hrz := Whole.fresh (w.alloc (.cells #[.int .i64 k, .int .i64 s] 61)) 162 riverZero
  rw [World.size_alloc] at hrz
  have ht := below2 w (.cells #[.int .i64 k, .int .i64 s] 61) (.cells riverZero 162)
  go_enter Try.func136, Try.ntmps136
  go_upto_region 1 with fail
  go_cut [3, 4] (fun s3 s4 wx => RivCut w k q s s3 s4 wx)
  case first =>
    unfold riverZero at hcur hrz ht
    go_wp2_with fail
    refine wp_region_held_drew (S := (Box1 w.heap.size (.int .i64 k) (.int .i64 s))) (by kernel_rfl) (box1_of hcur.drew) (fun hHeld => ?_)
    replace hcur := hcur.drew
    replace hrz := hrz.drew
    replace ht := ht.drew
    generalize World.drew (World.alloc (World.alloc w (.cells #[.int .i64 k, .int .i64 s] 61)) (.cells #[.bool false, .bool false, .bool false, .bool false, .bool false, .bool false, .bool false, .bool false, .bool false, .bool false, .bool false, .bool false, .bool false, .bool false, .bool false, .bool false, .bool false, .bool false, Value.nilFunc] 162)) = w0 at hcur hrz ht hHeld ⊢
    refine wpAnyH_take (i := 0) (v := ?_) rfl (by kernel_rfl) (by kernel_rfl) (by kernel_rfl) (fun _ _ _ h => h) (Or.inl ⟨rfl, ?_⟩) hHeld ?_
    rotate_left
    · intro w' hS; obtain ⟨s0, s1⟩ := hS; go_simp <;> with_reducible rfl
    simp only [Act.put, List.getElem_toArray, List.getElem_cons_succ, List.getElem_cons_zero, List.setIfInBounds_toArray, List.set_cons_succ, List.set_cons_zero]
    refine wpAnyH_take (i := 1) (v := ?_) rfl (by kernel_rfl) (by kernel_rfl) (by kernel_rfl) (fun _ _ _ h => h) (Or.inl ⟨rfl, ?_⟩) hHeld ?_
    rotate_left
    · intro w' hS; obtain ⟨s0, s1⟩ := hS; go_simp <;> with_reducible rfl
    simp only [Act.put, List.getElem_toArray, List.getElem_cons_succ, List.getElem_cons_zero, List.setIfInBounds_toArray, List.set_cons_succ, List.set_cons_zero]
    refine wpAnyH_take (i := 3) (v := ?_) rfl (by kernel_rfl) (by kernel_rfl) (by kernel_rfl) (fun _ _ _ h => h) (Or.inl ⟨rfl, ?_⟩) hHeld ?_
    rotate_left
    · intro w' hS; obtain ⟨s0, s1⟩ := hS; go_simp <;> with_reducible rfl
    simp only [Act.put, List.getElem_toArray, List.getElem_cons_succ, List.getElem_cons_zero, List.setIfInBounds_toArray, List.set_cons_succ, List.set_cons_zero]
    refine wpAnyH_take (i := 4) (v := ?_) rfl (by kernel_rfl) (by kernel_rfl) (by kernel_rfl) (fun _ _ _ h => h) (Or.inl ⟨rfl, ?_⟩) hHeld ?_
    rotate_left
    · intro w' hS; obtain ⟨s0, s1⟩ := hS; go_simp <;> with_reducible rfl
    simp only [Act.put, List.getElem_toArray, List.getElem_cons_succ, List.getElem_cons_zero, List.setIfInBounds_toArray, List.set_cons_succ, List.set_cons_zero]
    refine wpAnyH_take (i := 5) (v := ?_) rfl (by kernel_rfl) (by kernel_rfl) (by kernel_rfl) (fun _ _ _ h => h) (Or.inl ⟨rfl, ?_⟩) hHeld ?_
    rotate_left
    · intro w' hS; obtain ⟨s0, s1⟩ := hS; go_simp <;> with_reducible rfl
    simp only [Act.put, List.getElem_toArray, List.getElem_cons_succ, List.getElem_cons_zero, List.setIfInBounds_toArray, List.set_cons_succ, List.set_cons_zero]
    refine wpAnyH_take (i := 6) (v := ?_) rfl (by kernel_rfl) (by kernel_rfl) (by kernel_rfl) (fun _ _ _ h => h) (Or.inl ⟨rfl, ?_⟩) hHeld ?_
    rotate_left
    · intro w' hS; obtain ⟨s0, s1⟩ := hS; go_simp <;> with_reducible rfl
    simp only [Act.put, List.getElem_toArray, List.getElem_cons_succ, List.getElem_cons_zero, List.setIfInBounds_toArray, List.set_cons_succ, List.set_cons_zero]
    refine wpAnyH_ready (rs := [2, 8, 9]) (by kernel_rfl) (by simp) (AllReadyH.cons rfl (fun K hK => ?_) (AllReadyH.cons rfl (fun K hK => ?_) (AllReadyH.cons rfl (fun K hK => ?_) AllReadyH.nil)))
    · go_simp
      refine (calmPlaces_any k _ hk).mono ?_
      rintro e wzc ⟨g1, g3, g4, rfl, hF, hb⟩
      replace hcur := hcur.below hb
      replace hrz := hrz.below hb
      replace ht := below_then ht hb ht.size
      clear hb
      unfold calmFnV
      refine hK.out _ _ (box1_of hcur) (fun hHeld => ?_)
      clear hK K
      try simp only [Act.put, List.getElem_toArray, List.getElem_cons_succ, List.getElem_cons_zero, List.setIfInBounds_toArray, List.set_cons_succ, List.set_cons_zero]
      refine wpAnyH_ready (rs := [7, 8, 9]) (by kernel_rfl) (by simp) (AllReadyH.cons rfl (fun K hK => ?_) (AllReadyH.cons rfl (fun K hK => ?_) (AllReadyH.cons rfl (fun K hK => ?_) AllReadyH.nil)))
      · go_simp
        refine (HCC.out _).mono ?_
        rintro e wzcd ⟨A, c, g, rfl, hown, hb⟩
        replace hcur := hcur.below hb
        replace hrz := hrz.below hb
        replace hF := hF.below hb
        replace ht := below_then ht hb ht.size
        clear hb
        refine hK.out _ _ (box1_of hcur) (fun hHeld => ?_)
        clear hK K
        try simp only [Act.put, List.getElem_toArray, List.getElem_cons_succ, List.getElem_cons_zero, List.setIfInBounds_toArray, List.set_cons_succ, List.set_cons_zero]
        refine wpAnyH_ready (rs := [8, 9]) (by kernel_rfl) (by simp) (AllReadyH.cons rfl (fun K hK => ?_) (AllReadyH.cons rfl (fun K hK => ?_) AllReadyH.nil))
        · go_simp
          have HLOa := Lib.hid ht.size
          have hP := Whole.fresh wzcd 186 #[Value.nilFunc]
          replace hcur := hcur.alloc (.cells #[Value.nilFunc] 186)
          replace hrz := hrz.alloc (.cells #[Value.nilFunc] 186)
          replace hF := hF.alloc (.cells #[Value.nilFunc] 186)
          replace hown := hown.alloc (.cells #[Value.nilFunc] 186)
          replace ht := ht.alloc ht.size (.cells #[Value.nilFunc] 186)
          generalize World.alloc wzcd (.cells #[Value.nilFunc] 186) = wzcda at hcur hrz hF hown ht hP ⊢
          refine hK.out _ _ (box1_of hcur) (fun hHeld => ?_)
          clear hK K
          try simp only [Act.put, List.getElem_toArray, List.getElem_cons_succ, List.getElem_cons_zero, List.setIfInBounds_toArray, List.set_cons_succ, List.set_cons_zero]
          refine wpAnyH_ready (rs := [9]) (by kernel_rfl) (by simp) (AllReadyH.cons rfl (fun K hK => ?_) AllReadyH.nil)
          go_simp
          have HLOb := Lib.hid ht.size
          have hG := Whole.fresh wzcda 123 #[.slice none 0 0]
          replace hcur := hcur.alloc (.cells #[.slice none 0 0] 123)
          replace hrz := hrz.alloc (.cells #[.slice none 0 0] 123)
          replace hF := hF.alloc (.cells #[.slice none 0 0] 123)
          replace hown := hown.alloc (.cells #[.slice none 0 0] 123)
          replace hP := hP.alloc (.cells #[.slice none 0 0] 123)
          replace ht := ht.alloc ht.size (.cells #[.slice none 0 0] 123)
          generalize World.alloc wzcda (.cells #[.slice none 0 0] 123) = wzcdab at hcur hrz hF hown hP ht hG ⊢
          refine hK.out _ _ (box1_of hcur) (fun hHeld => ?_)
          clear hK K
          try simp only [Act.put, List.getElem_toArray, List.getElem_cons_succ, List.getElem_cons_zero, List.setIfInBounds_toArray, List.set_cons_succ, List.set_cons_zero]
          refine wpAnyH_ready (rs := [10]) (by kernel_rfl) (by simp) (AllReadyH.cons rfl (fun K hK => ?_) AllReadyH.nil)
          have hp0 := hP.cells1
          have hpf := hP.open_ 0
          have hpl := hP.lt
          go_simp
          clear hp0 hpf hpl
          have hbw : w.heap.size ≤ wzcd.heap.size := (by have := HLOa.out; omega)
          replace hcur := hcur.off (b := wzcd.heap.size) (o := 0) (u := (.func (.func 175) #[] #[.pointer (some ⟨g3, 0, none⟩), .pointer (some ⟨g4, 0, none⟩)])) (whole_ne hcur hP (by decide))
          replace hrz := hrz.off (b := wzcd.heap.size) (o := 0) (u := (.func (.func 175) #[] #[.pointer (some ⟨g3, 0, none⟩), .pointer (some ⟨g4, 0, none⟩)])) (whole_ne hrz hP (by decide))
          replace hF := calmFn_off' (b := wzcd.heap.size) (o := 0) (u := (.func (.func 175) #[] #[.pointer (some ⟨g3, 0, none⟩), .pointer (some ⟨g4, 0, none⟩)])) hF hP (by decide) (by decide) (by decide)
          replace hown := own_off (b := wzcd.heap.size) (o := 0) (u := (.func (.func 175) #[] #[.pointer (some ⟨g3, 0, none⟩), .pointer (some ⟨g4, 0, none⟩)])) hown hP (by decide)
          replace hG := hG.off (b := wzcd.heap.size) (o := 0) (u := (.func (.func 175) #[] #[.pointer (some ⟨g3, 0, none⟩), .pointer (some ⟨g4, 0, none⟩)])) (whole_ne hG hP (by decide))
          replace ht := below_set (b := wzcd.heap.size) (o := 0) (u := (.func (.func 175) #[] #[.pointer (some ⟨g3, 0, none⟩), .pointer (some ⟨g4, 0, none⟩)])) ht hbw
          replace hP := hP.set_ 0 (.func (.func 175) #[] #[.pointer (some ⟨g3, 0, none⟩), .pointer (some ⟨g4, 0, none⟩)])
          generalize World.setCell wzcdab ⟨wzcd.heap.size, 0, none⟩ (.func (.func 175) #[] #[.pointer (some ⟨g3, 0, none⟩), .pointer (some ⟨g4, 0, none⟩)]) = wzcdabs at hcur hrz hF hown hP hG ht ⊢
          clear hbw
          refine hK.out _ _ (box1_of hcur) (fun hHeld => ?_)
          clear hK K
          try simp only [Act.put, List.getElem_toArray, List.getElem_cons_succ, List.getElem_cons_zero, List.setIfInBounds_toArray, List.set_cons_succ, List.set_cons_zero]
          refine wpAnyH_ready (rs := [11]) (by kernel_rfl) (by simp) (AllReadyH.cons rfl (fun K hK => ?_) AllReadyH.nil)
          have hp0 := hG.cells1
          have hpf := hG.open_ 0
          have hpl := hG.lt
          go_simp
          clear hp0 hpf hpl
          have hbw : w.heap.size ≤ wzcda.heap.size := (by have := HLOb.out; omega)
          replace hcur := hcur.off (b := wzcda.heap.size) (o := 0) (u := (.slice A (groupsOf k q).length c)) (whole_ne hcur hG (by decide))
          replace hrz := hrz.off (b := wzcda.heap.size) (o := 0) (u := (.slice A (groupsOf k q).length c)) (whole_ne hrz hG (by decide))
          replace hF := calmFn_off' (b := wzcda.heap.size) (o := 0) (u := (.slice A (groupsOf k q).length c)) hF hG (by decide) (by decide) (by decide)
          replace hown := own_off (b := wzcda.heap.size) (o := 0) (u := (.slice A (groupsOf k q).length c)) hown hG (by decide)
          replace hP := hP.off (b := wzcda.heap.size) (o := 0) (u := (.slice A (groupsOf k q).length c)) (whole_ne hP hG (by decide))
          replace ht := below_set (b := wzcda.heap.size) (o := 0) (u := (.slice A (groupsOf k q).length c)) ht hbw
          replace hG := hG.set_ 0 (.slice A (groupsOf k q).length c)
          generalize World.setCell wzcdabs ⟨wzcda.heap.size, 0, none⟩ (.slice A (groupsOf k q).length c) = wzcdabst at hcur hrz hF hown hP hG ht ⊢
          clear hbw
          refine hK.out _ _ (box1_of hcur) (fun hHeld => ?_)
          clear hK K
          try simp only [Act.put, List.getElem_toArray, List.getElem_cons_succ, List.getElem_cons_zero, List.setIfInBounds_toArray, List.set_cons_succ, List.set_cons_zero]
          refine wpAnyH_done (by kernel_rfl) ?_ _
          clear hHeld
          go_wp2_with fail
          go_meet
          exact ⟨wzcda.heap.size, wzcd.heap.size, g1, g3, g4, g, A, c, rfl, rfl, ⟨hF, hP, hG, hown⟩, hcur, hrz, ht⟩
        · go_simp
          have HLOb := Lib.hid ht.size
          have hG := Whole.fresh wzcd 123 #[.slice none 0 0]
          replace hcur := hcur.alloc (.cells #[.slice none 0 0] 123)
          replace hrz := hrz.alloc (.cells #[.slice none 0 0] 123)
          replace hF := hF.alloc (.cells #[.slice none 0 0] 123)
          replace hown := hown.alloc (.cells #[.slice none 0 0] 123)
          replace ht := ht.alloc ht.size (.cells #[.slice none 0 0] 123)
          generalize World.alloc wzcd (.cells #[.slice none 0 0] 123) = wzcdb at hcur hrz hF hown ht hG ⊢
          refine hK.out _ _ (box1_of hcur) (fun hHeld => ?_)
          clear hK K
          try simp only [Act.put, List.getElem_toArray, List.getElem_cons_succ, List.getElem_cons_zero, List.setIfInBounds_toArray, List.set_cons_succ, List.set_cons_zero]
          refine wpAnyH_ready (rs := [8]) (by kernel_rfl) (by simp) (AllReadyH.cons rfl (fun K hK => ?_) AllReadyH.nil)
          go_simp
          have HLOa := Lib.hid ht.size
          have hP := Whole.fresh wzcdb 186 #[Value.nilFunc]
          replace hcur := hcur.alloc (.cells #[Value.nilFunc] 186)
          replace hrz := hrz.alloc (.cells #[Value.nilFunc] 186)
          replace hF := hF.alloc (.cells #[Value.nilFunc] 186)
          replace hown := hown.alloc (.cells #[Value.nilFunc] 186)
          replace hG := hG.alloc (.cells #[Value.nilFunc] 186)
          replace ht := ht.alloc ht.size (.cells #[Value.nilFunc] 186)
          generalize World.alloc wzcdb (.cells #[Value.nilFunc] 186) = wzcdba at hcur hrz hF hown hG ht hP ⊢
          refine hK.out _ _ (box1_of hcur) (fun hHeld => ?_)
          clear hK K
          try simp only [Act.put, List.getElem_toArray, List.getElem_cons_succ, List.getElem_cons_zero, List.setIfInBounds_toArray, List.set_cons_succ, List.set_cons_zero]
          refine wpAnyH_ready (rs := [10]) (by kernel_rfl) (by simp) (AllReadyH.cons rfl (fun K hK => ?_) AllReadyH.nil)
          have hp0 := hP.cells1
          have hpf := hP.open_ 0
          have hpl := hP.lt
          go_simp
          clear hp0 hpf hpl
          have hbw : w.heap.size ≤ wzcdb.heap.size := (by have := HLOa.out; omega)
          replace hcur := hcur.off (b := wzcdb.heap.size) (o := 0) (u := (.func (.func 175) #[] #[.pointer (some ⟨g3, 0, none⟩), .pointer (some ⟨g4, 0, none⟩)])) (whole_ne hcur hP (by decide))
          replace hrz := hrz.off (b := wzcdb.heap.size) (o := 0) (u := (.func (.func 175) #[] #[.pointer (some ⟨g3, 0, none⟩), .pointer (some ⟨g4, 0, none⟩)])) (whole_ne hrz hP (by decide))
          replace hF := calmFn_off' (b := wzcdb.heap.size) (o := 0) (u := (.func (.func 175) #[] #[.pointer (some ⟨g3, 0, none⟩), .pointer (some ⟨g4, 0, none⟩)])) hF hP (by decide) (by decide) (by decide)
          replace hown := own_off (b := wzcdb.heap.size) (o := 0) (u := (.func (.func 175) #[] #[.pointer (some ⟨g3, 0, none⟩), .pointer (some ⟨g4, 0, none⟩)])) hown hP (by decide)
          replace hG := hG.off (b := wzcdb.heap.size) (o := 0) (u := (.func (.func 175) #[] #[.pointer (some ⟨g3, 0, none⟩), .pointer (some ⟨g4, 0, none⟩)])) (whole_ne hG hP (by decide))
          replace ht := below_set (b := wzcdb.heap.size) (o := 0) (u := (.func (.func 175) #[] #[.pointer (some ⟨g3, 0, none⟩), .pointer (some ⟨g4, 0, none⟩)])) ht hbw
          replace hP := hP.set_ 0 (.func (.func 175) #[] #[.pointer (some ⟨g3, 0, none⟩), .pointer (some ⟨g4, 0, none⟩)])
          generalize World.setCell wzcdba ⟨wzcdb.heap.size, 0, none⟩ (.func (.func 175) #[] #[.pointer (some ⟨g3, 0, none⟩), .pointer (some ⟨g4, 0, none⟩)]) = wzcdbas at hcur hrz hF hown hP hG ht ⊢
          clear hbw
          refine hK.out _ _ (box1_of hcur) (fun hHeld => ?_)
          clear hK K
          try simp only [Act.put, List.getElem_toArray, List.getElem_cons_succ, List.getElem_cons_zero, List.setIfInBounds_toArray, List.set_cons_succ, List.set_cons_zero]
          refine wpAnyH_ready (rs := [11]) (by kernel_rfl) (by simp) (AllReadyH.cons rfl (fun K hK => ?_) AllReadyH.nil)
          have hp0 := hG.cells1
          have hpf := hG.open_ 0
          have hpl := hG.lt
          go_simp
          clear hp0 hpf hpl
          have hbw : w.heap.size ≤ wzcd.heap.size := (by have := HLOb.out; omega)
          replace hcur := hcur.off (b := wzcd.heap.size) (o := 0) (u := (.slice A (groupsOf k q).length c)) (whole_ne hcur hG (by decide))
          replace hrz := hrz.off (b := wzcd.heap.size) (o := 0) (u := (.slice A (groupsOf k q).length c)) (whole_ne hrz hG (by decide))
          replace hF := calmFn_off' (b := wzcd.heap.size) (o := 0) (u := (.slice A (groupsOf k q).length c)) hF hG (by decide) (by decide) (by decide)
          replace hown := own_off (b := wzcd.heap.size) (o := 0) (u := (.slice A (groupsOf k q).length c)) hown hG (by decide)
          replace hP := hP.off (b := wzcd.heap.size) (o := 0) (u := (.slice A (groupsOf k q).length c)) (whole_ne hP hG (by decide))
          replace ht := below_set (b := wzcd.heap.size) (o := 0) (u := (.slice A (groupsOf k q).length c)) ht hbw
          replace hG := hG.set_ 0 (.slice A (groupsOf k q).length c)
          generalize World.setCell wzcdbas ⟨wzcd.heap.size, 0, none⟩ (.slice A (groupsOf k q).length c) = wzcdbast at hcur hrz hF hown hP hG ht ⊢
          clear hbw
          refine hK.out _ _ (box1_of hcur) (fun hHeld => ?_)
          clear hK K
          try simp only [Act.put, List.getElem_toArray, List.getElem_cons_succ, List.getElem_cons_zero, List.setIfInBounds_toArray, List.set_cons_succ, List.set_cons_zero]
          refine wpAnyH_done (by kernel_rfl) ?_ _
          clear hHeld
          go_wp2_with fail
          go_meet
          exact ⟨wzcd.heap.size, wzcdb.heap.size, g1, g3, g4, g, A, c, rfl, rfl, ⟨hF, hP, hG, hown⟩, hcur, hrz, ht⟩
      · go_simp
        have HLOa := Lib.hid ht.size
        have hP := Whole.fresh wzc 186 #[Value.nilFunc]
        replace hcur := hcur.alloc (.cells #[Value.nilFunc] 186)
        replace hrz := hrz.alloc (.cells #[Value.nilFunc] 186)
        replace hF := hF.alloc (.cells #[Value.nilFunc] 186)
        replace ht := ht.alloc ht.size (.cells #[Value.nilFunc] 186)
        generalize World.alloc wzc (.cells #[Value.nilFunc] 186) = wzca at hcur hrz hF ht hP ⊢
        refine hK.out _ _ (box1_of hcur) (fun hHeld => ?_)
        clear hK K
        try simp only [Act.put, List.getElem_toArray, List.getElem_cons_succ, List.getElem_cons_zero, List.setIfInBounds_toArray, List.set_cons_succ, List.set_cons_zero]
        refine wpAnyH_ready (rs := [7, 9]) (by kernel_rfl) (by simp) (AllReadyH.cons rfl (fun K hK => ?_) (AllReadyH.cons rfl (fun K hK => ?_) AllReadyH.nil))
        · go_simp
          refine (HCC.out _).mono ?_
          rintro e wzcad ⟨A, c, g, rfl, hown, hb⟩
          replace hcur := hcur.below hb
          replace hrz := hrz.below hb
          replace hF := hF.below hb
          replace hP := hP.below hb
          replace ht := below_then ht hb ht.size
          clear hb
          refine hK.out _ _ (box1_of hcur) (fun hHeld => ?_)
          clear hK K
          try simp only [Act.put, List.getElem_toArray, List.getElem_cons_succ, List.getElem_cons_zero, List.setIfInBounds_toArray, List.set_cons_succ, List.set_cons_zero]
          refine wpAnyH_ready (rs := [9]) (by kernel_rfl) (by simp) (AllReadyH.cons rfl (fun K hK => ?_) AllReadyH.nil)
          go_simp
          have HLOb := Lib.hid ht.size
          have hG := Whole.fresh wzcad 123 #[.slice none 0 0]
          replace hcur := hcur.alloc (.cells #[.slice none 0 0] 123)
          replace hrz := hrz.alloc (.cells #[.slice none 0 0] 123)
          replace hF := hF.alloc (.cells #[.slice none 0 0] 123)
          replace hown := hown.alloc (.cells #[.slice none 0 0] 123)
          replace hP := hP.alloc (.cells #[.slice none 0 0] 123)
          replace ht := ht.alloc ht.size (.cells #[.slice none 0 0] 123)
          generalize World.alloc wzcad (.cells #[.slice none 0 0] 123) = wzcadb at hcur hrz hF hown hP ht hG ⊢
          refine hK.out _ _ (box1_of hcur) (fun hHeld => ?_)
          clear hK K
          try simp only [Act.put, List.getElem_toArray, List.getElem_cons_succ, List.getElem_cons_zero, List.setIfInBounds_toArray, List.set_cons_succ, List.set_cons_zero]
          refine wpAnyH_ready (rs := [10]) (by kernel_rfl) (by simp) (AllReadyH.cons rfl (fun K hK => ?_) AllReadyH.nil)
          have hp0 := hP.cells1
          have hpf := hP.open_ 0
          have hpl := hP.lt
          go_simp
          clear hp0 hpf hpl
          have hbw : w.heap.size ≤ wzc.heap.size := (by have := HLOa.out; omega)
          replace hcur := hcur.off (b := wzc.heap.size) (o := 0) (u := (.func (.func 175) #[] #[.pointer (some ⟨g3, 0, none⟩), .pointer (some ⟨g4, 0, none⟩)])) (whole_ne hcur hP (by decide))
          replace hrz := hrz.off (b := wzc.heap.size) (o := 0) (u := (.func (.func 175) #[] #[.pointer (some ⟨g3, 0, none⟩), .pointer (some ⟨g4, 0, none⟩)])) (whole_ne hrz hP (by decide))
          replace hF := calmFn_off' (b := wzc.heap.size) (o := 0) (u := (.func (.func 175) #[] #[.pointer (some ⟨g3, 0, none⟩), .pointer (some ⟨g4, 0, none⟩)])) hF hP (by decide) (by decide) (by decide)
          replace hown := own_off (b := wzc.heap.size) (o := 0) (u := (.func (.func 175) #[] #[.pointer (some ⟨g3, 0, none⟩), .pointer (some ⟨g4, 0, none⟩)])) hown hP (by decide)
          replace hG := hG.off (b := wzc.heap.size) (o := 0) (u := (.func (.func 175) #[] #[.pointer (some ⟨g3, 0, none⟩), .pointer (some ⟨g4, 0, none⟩)])) (whole_ne hG hP (by decide))
          replace ht := below_set (b := wzc.heap.size) (o := 0) (u := (.func (.func 175) #[] #[.pointer (some ⟨g3, 0, none⟩), .pointer (some ⟨g4, 0, none⟩)])) ht hbw
          replace hP := hP.set_ 0 (.func (.func 175) #[] #[.pointer (some ⟨g3, 0, none⟩), .pointer (some ⟨g4, 0, none⟩)])
          generalize World.setCell wzcadb ⟨wzc.heap.size, 0, none⟩ (.func (.func 175) #[] #[.pointer (some ⟨g3, 0, none⟩), .pointer (some ⟨g4, 0, none⟩)]) = wzcadbs at hcur hrz hF hown hP hG ht ⊢
          clear hbw
          refine hK.out _ _ (box1_of hcur) (fun hHeld => ?_)
          clear hK K
          try simp only [Act.put, List.getElem_toArray, List.getElem_cons_succ, List.getElem_cons_zero, List.setIfInBounds_toArray, List.set_cons_succ, List.set_cons_zero]
          refine wpAnyH_ready (rs := [11]) (by kernel_rfl) (by simp) (AllReadyH.cons rfl (fun K hK => ?_) AllReadyH.nil)
          have hp0 := hG.cells1
          have hpf := hG.open_ 0
          have hpl := hG.lt
          go_simp
          clear hp0 hpf hpl
          have hbw : w.heap.size ≤ wzcad.heap.size := (by have := HLOb.out; omega)
          replace hcur := hcur.off (b := wzcad.heap.size) (o := 0) (u := (.slice A (groupsOf k q).length c)) (whole_ne hcur hG (by decide))
          replace hrz := hrz.off (b := wzcad.heap.size) (o := 0) (u := (.slice A (groupsOf k q).length c)) (whole_ne hrz hG (by decide))
          replace hF := calmFn_off' (b := wzcad.heap.size) (o := 0) (u := (.slice A (groupsOf k q).length c)) hF hG (by decide) (by decide) (by decide)
          replace hown := own_off (b := wzcad.heap.size) (o := 0) (u := (.slice A (groupsOf k q).length c)) hown hG (by decide)
          replace hP := hP.off (b := wzcad.heap.size) (o := 0) (u := (.slice A (groupsOf k q).length c)) (whole_ne hP hG (by decide))
          replace ht := below_set (b := wzcad.heap.size) (o := 0) (u := (.slice A (groupsOf k q).length c)) ht hbw
          replace hG := hG.set_ 0 (.slice A (groupsOf k q).length c)
          generalize World.setCell wzcadbs ⟨wzcad.heap.size, 0, none⟩ (.slice A (groupsOf k q).length c) = wzcadbst at hcur hrz hF hown hP hG ht ⊢
          clear hbw
          refine hK.out _ _ (box1_of hcur) (fun hHeld => ?_)
          clear hK K
          try simp only [Act.put, List.getElem_toArray, List.getElem_cons_succ, List.getElem_cons_zero, List.setIfInBounds_toArray, List.set_cons_succ, List.set_cons_zero]
          refine wpAnyH_done (by kernel_rfl) ?_ _
          clear hHeld
          go_wp2_with fail
          go_meet
          exact ⟨wzcad.heap.size, wzc.heap.size, g1, g3, g4, g, A, c, rfl, rfl, ⟨hF, hP, hG, hown⟩, hcur, hrz, ht⟩
        · go_simp
          have HLOb := Lib.hid ht.size
          have hG := Whole.fresh wzca 123 #[.slice none 0 0]
          replace hcur := hcur.alloc (.cells #[.slice none 0 0] 123)
          replace hrz := hrz.alloc (.cells #[.slice none 0 0] 123)
          replace hF := hF.alloc (.cells #[.slice none 0 0] 123)
          replace hP := hP.alloc (.cells #[.slice none 0 0] 123)
          replace ht := ht.alloc ht.size (.cells #[.slice none 0 0] 123)
          generalize World.alloc wzca (.cells #[.slice none 0 0] 123) = wzcab at hcur hrz hF hP ht hG ⊢
          refine hK.out _ _ (box1_of hcur) (fun hHeld => ?_)
          clear hK K
          try simp only [Act.put, List.getElem_toArray, List.getElem_cons_succ, List.getElem_cons_zero, List.setIfInBounds_toArray, List.set_cons_succ, List.set_cons_zero]
          refine wpAnyH_ready (rs := [7]) (by kernel_rfl) (by simp) (AllReadyH.cons rfl (fun K hK => ?_) AllReadyH.nil)
          go_simp
          refine (HCC.out _).mono ?_
          rintro e wzcabd ⟨A, c, g, rfl, hown, hb⟩
          replace hcur := hcur.below hb
          replace hrz := hrz.below hb
          replace hF := hF.below hb
          replace hP := hP.below hb
          replace hG := hG.below hb
          replace ht := below_then ht hb ht.size
          clear hb
          refine hK.out _ _ (box1_of hcur) (fun hHeld => ?_)
          clear hK K
          try simp only [Act.put, List.getElem_toArray, List.getElem_cons_succ, List.getElem_cons_zero, List.setIfInBounds_toArray, List.set_cons_succ, List.set_cons_zero]
          refine wpAnyH_ready (rs := [10]) (by kernel_rfl) (by simp) (AllReadyH.cons rfl (fun K hK => ?_) AllReadyH.nil)
          have hp0 := hP.cells1
          have hpf := hP.open_ 0
          have hpl := hP.lt
          go_simp
          clear hp0 hpf hpl
          have hbw : w.heap.size ≤ wzc.heap.size := (by have := HLOa.out; omega)
          replace hcur := hcur.off (b := wzc.heap.size) (o := 0) (u := (.func (.func 175) #[] #[.pointer (some ⟨g3, 0, none⟩), .pointer (some ⟨g4, 0, none⟩)])) (whole_ne hcur hP (by decide))
          replace hrz := hrz.off (b := wzc.heap.size) (o := 0) (u := (.func (.func 175) #[] #[.pointer (some ⟨g3, 0, none⟩), .pointer (some ⟨g4, 0, none⟩)])) (whole_ne hrz hP (by decide))
          replace hF := calmFn_off' (b := wzc.heap.size) (o := 0) (u := (.func (.func 175) #[] #[.pointer (some ⟨g3, 0, none⟩), .pointer (some ⟨g4, 0, none⟩)])) hF hP (by decide) (by decide) (by decide)
          replace hown := own_off (b := wzc.heap.size) (o := 0) (u := (.func (.func 175) #[] #[.pointer (some ⟨g3, 0, none⟩), .pointer (some ⟨g4, 0, none⟩)])) hown hP (by decide)
          replace hG := hG.off (b := wzc.heap.size) (o := 0) (u := (.func (.func 175) #[] #[.pointer (some ⟨g3, 0, none⟩), .pointer (some ⟨g4, 0, none⟩)])) (whole_ne hG hP (by decide))
          replace ht := below_set (b := wzc.heap.size) (o := 0) (u := (.func (.func 175) #[] #[.pointer (some ⟨g3, 0, none⟩), .pointer (some ⟨g4, 0, none⟩)])) ht hbw
          replace hP := hP.set_ 0 (.func (.func 175) #[] #[.pointer (some ⟨g3, 0, none⟩), .pointer (some ⟨g4, 0, none⟩)])
          generalize World.setCell wzcabd ⟨wzc.heap.size, 0, none⟩ (.func (.func 175) #[] #[.pointer (some ⟨g3, 0, none⟩), .pointer (some ⟨g4, 0, none⟩)]) = wzcabds at hcur hrz hF hown hP hG ht ⊢
          clear hbw
          refine hK.out _ _ (box1_of hcur) (fun hHeld => ?_)
          clear hK K
          try simp only [Act.put, List.getElem_toArray, List.getElem_cons_succ, List.getElem_cons_zero, List.setIfInBounds_toArray, List.set_cons_succ, List.set_cons_zero]
          refine wpAnyH_ready (rs := [11]) (by kernel_rfl) (by simp) (AllReadyH.cons rfl (fun K hK => ?_) AllReadyH.nil)
          have hp0 := hG.cells1
          have hpf := hG.open_ 0
          have hpl := hG.lt
          go_simp
          clear hp0 hpf hpl
          have hbw : w.heap.size ≤ wzca.heap.size := (by have := HLOb.out; omega)
          replace hcur := hcur.off (b := wzca.heap.size) (o := 0) (u := (.slice A (groupsOf k q).length c)) (whole_ne hcur hG (by decide))
          replace hrz := hrz.off (b := wzca.heap.size) (o := 0) (u := (.slice A (groupsOf k q).length c)) (whole_ne hrz hG (by decide))
          replace hF := calmFn_off' (b := wzca.heap.size) (o := 0) (u := (.slice A (groupsOf k q).length c)) hF hG (by decide) (by decide) (by decide)
          replace hown := own_off (b := wzca.heap.size) (o := 0) (u := (.slice A (groupsOf k q).length c)) hown hG (by decide)
          replace hP := hP.off (b := wzca.heap.size) (o := 0) (u := (.slice A (groupsOf k q).length c)) (whole_ne hP hG (by decide))
          replace ht := below_set (b := wzca.heap.size) (o := 0) (u := (.slice A (groupsOf k q).length c)) ht hbw
          replace hG := hG.set_ 0 (.slice A (groupsOf k q).length c)
          generalize World.setCell wzcabds ⟨wzca.heap.size, 0, none⟩ (.slice A (groupsOf k q).length c) = wzcabdst at hcur hrz hF hown hP hG ht ⊢
          clear hbw
          refine hK.out _ _ (box1_of hcur) (fun hHeld => ?_)
          clear hK K
          try simp only [Act.put, List.getElem_toArray, List.getElem_cons_succ, List.getElem_cons_zero, List.setIfInBounds_toArray, List.set_cons_succ, List.set_cons_zero]
          refine wpAnyH_done (by kernel_rfl) ?_ _
          clear hHeld
          go_wp2_with fail
          go_meet
          exact ⟨wzca.heap.size, wzc.heap.size, g1, g3, g4, g, A, c, rfl, rfl, ⟨hF, hP, hG, hown⟩, hcur, hrz, ht⟩
      · go_simp
        have HLOb := Lib.hid ht.size
        have hG := Whole.fresh wzc 123 #[.slice none 0 0]
        replace hcur := hcur.alloc (.cells #[.slice none 0 0] 123)
        replace hrz := hrz.alloc (.cells #[.slice none 0 0] 123)
        replace hF := hF.alloc (.cells #[.slice none 0 0] 123)
        replace ht := ht.alloc ht.size (.cells #[.slice none 0 0] 123)
        generalize World.alloc wzc (.cells #[.slice none 0 0] 123) = wzcb at hcur hrz hF ht hG ⊢
        refine hK.out _ _ (box1_of hcur) (fun hHeld => ?_)
        clear hK K
        try simp only [Act.put, List.getElem_toArray, List.getElem_cons_succ, List.getElem_cons_zero, List.setIfInBounds_toArray, List.set_cons_succ, List.set_cons_zero]
        refine wpAnyH_ready (rs := [7, 8]) (by kernel_rfl) (by simp) (AllReadyH.cons rfl (fun K hK => ?_) (AllReadyH.cons rfl (fun K hK => ?_) AllReadyH.nil))
        · go_simp
          refine (HCC.out _).mono ?_
          rintro e wzcbd ⟨A, c, g, rfl, hown, hb⟩
          replace hcur := hcur.below hb
          replace hrz := hrz.below hb
          replace hF := hF.below hb
          replace hG := hG.below hb
          replace ht := below_then ht hb ht.size
          clear hb
          refine hK.out _ _ (box1_of hcur) (fun hHeld => ?_)
          clear hK K
          try simp only [Act.put, List.getElem_toArray, List.getElem_cons_succ, List.getElem_cons_zero, List.setIfInBounds_toArray, List.set_cons_succ, List.set_cons_zero]
          refine wpAnyH_ready (rs := [8]) (by kernel_rfl) (by simp) (AllReadyH.cons rfl (fun K hK => ?_) AllReadyH.nil)
          go_simp
          have HLOa := Lib.hid ht.size
          have hP := Whole.fresh wzcbd 186 #[Value.nilFunc]
          replace hcur := hcur.alloc (.cells #[Value.nilFunc] 186)
          replace hrz := hrz.alloc (.cells #[Value.nilFunc] 186)
          replace hF := hF.alloc (.cells #[Value.nilFunc] 186)
          replace hown := hown.alloc (.cells #[Value.nilFunc] 186)
          replace hG := hG.alloc (.cells #[Value.nilFunc] 186)
          replace ht := ht.alloc ht.size (.cells #[Value.nilFunc] 186)
          generalize World.alloc wzcbd (.cells #[Value.nilFunc] 186) = wzcbda at hcur hrz hF hown hG ht hP ⊢
          refine hK.out _ _ (box1_of hcur) (fun hHeld => ?_)
          clear hK K
          try simp only [Act.put, List.getElem_toArray, List.getElem_cons_succ, List.getElem_cons_zero, List.setIfInBounds_toArray, List.set_cons_succ, List.set_cons_zero]
          refine wpAnyH_ready (rs := [10]) (by kernel_rfl) (by simp) (AllReadyH.cons rfl (fun K hK => ?_) AllReadyH.nil)
          have hp0 := hP.cells1
          have hpf := hP.open_ 0
          have hpl := hP.lt
          go_simp
          clear hp0 hpf hpl
          have hbw : w.heap.size ≤ wzcbd.heap.size := (by have := HLOa.out; omega)
          replace hcur := hcur.off (b := wzcbd.heap.size) (o := 0) (u := (.func (.func 175) #[] #[.pointer (some ⟨g3, 0, none⟩), .pointer (some ⟨g4, 0, none⟩)])) (whole_ne hcur hP (by decide))
          replace hrz := hrz.off (b := wzcbd.heap.size) (o := 0) (u := (.func (.func 175) #[] #[.pointer (some ⟨g3, 0, none⟩), .pointer (some ⟨g4, 0, none⟩)])) (whole_ne hrz hP (by decide))
          replace hF := calmFn_off' (b := wzcbd.heap.size) (o := 0) (u := (.func (.func 175) #[] #[.pointer (some ⟨g3, 0, none⟩), .pointer (some ⟨g4, 0, none⟩)])) hF hP (by decide) (by decide) (by decide)
          replace hown := own_off (b := wzcbd.heap.size) (o := 0) (u := (.func (.func 175) #[] #[.pointer (some ⟨g3, 0, none⟩), .pointer (some ⟨g4, 0, none⟩)])) hown hP (by decide)
          replace hG := hG.off (b := wzcbd.heap.size) (o := 0) (u := (.func (.func 175) #[] #[.pointer (some ⟨g3, 0, none⟩), .pointer (some ⟨g4, 0, none⟩)])) (whole_ne hG hP (by decide))
          replace ht := below_set (b := wzcbd.heap.size) (o := 0) (u := (.func (.func 175) #[] #[.pointer (some ⟨g3, 0, none⟩), .pointer (some ⟨g4, 0, none⟩)])) ht hbw
          replace hP := hP.set_ 0 (.func (.func 175) #[] #[.pointer (some ⟨g3, 0, none⟩), .pointer (some ⟨g4, 0, none⟩)])
          generalize World.setCell wzcbda ⟨wzcbd.heap.size, 0, none⟩ (.func (.func 175) #[] #[.pointer (some ⟨g3, 0, none⟩), .pointer (some ⟨g4, 0, none⟩)]) = wzcbdas at hcur hrz hF hown hP hG ht ⊢
          clear hbw
          refine hK.out _ _ (box1_of hcur) (fun hHeld => ?_)
          clear hK K
          try simp only [Act.put, List.getElem_toArray, List.getElem_cons_succ, List.getElem_cons_zero, List.setIfInBounds_toArray, List.set_cons_succ, List.set_cons_zero]
          refine wpAnyH_ready (rs := [11]) (by kernel_rfl) (by simp) (AllReadyH.cons rfl (fun K hK => ?_) AllReadyH.nil)
          have hp0 := hG.cells1
          have hpf := hG.open_ 0
          have hpl := hG.lt
          go_simp
          clear hp0 hpf hpl
          have hbw : w.heap.size ≤ wzc.heap.size := (by have := HLOb.out; omega)
          replace hcur := hcur.off (b := wzc.heap.size) (o := 0) (u := (.slice A (groupsOf k q).length c)) (whole_ne hcur hG (by decide))
          replace hrz := hrz.off (b := wzc.heap.size) (o := 0) (u := (.slice A (groupsOf k q).length c)) (whole_ne hrz hG (by decide))
          replace hF := calmFn_off' (b := wzc.heap.size) (o := 0) (u := (.slice A (groupsOf k q).length c)) hF hG (by decide) (by decide) (by decide)
          replace hown := own_off (b := wzc.heap.size) (o := 0) (u := (.slice A (groupsOf k q).length c)) hown hG (by decide)
          replace hP := hP.off (b := wzc.heap.size) (o := 0) (u := (.slice A (groupsOf k q).length c)) (whole_ne hP hG (by decide))
          replace ht := below_set (b := wzc.heap.size) (o := 0) (u := (.slice A (groupsOf k q).length c)) ht hbw
          replace hG := hG.set_ 0 (.slice A (groupsOf k q).length c)
          generalize World.setCell wzcbdas ⟨wzc.heap.size, 0, none⟩ (.slice A (groupsOf k q).length c) = wzcbdast at hcur hrz hF hown hP hG ht ⊢
          clear hbw
          refine hK.out _ _ (box1_of hcur) (fun hHeld => ?_)
          clear hK K
          try simp only [Act.put, List.getElem_toArray, List.getElem_cons_succ, List.getElem_cons_zero, List.setIfInBounds_toArray, List.set_cons_succ, List.set_cons_zero]
          refine wpAnyH_done (by kernel_rfl) ?_ _
          clear hHeld
          go_wp2_with fail
          go_meet
          exact ⟨wzc.heap.size, wzcbd.heap.size, g1, g3, g4, g, A, c, rfl, rfl, ⟨hF, hP, hG, hown⟩, hcur, hrz, ht⟩
        · go_simp
          have HLOa := Lib.hid ht.size
          have hP := Whole.fresh wzcb 186 #[Value.nilFunc]
          replace hcur := hcur.alloc (.cells #[Value.nilFunc] 186)
          replace hrz := hrz.alloc (.cells #[Value.nilFunc] 186)
          replace hF := hF.alloc (.cells #[Value.nilFunc] 186)
          replace hG := hG.alloc (.cells #[Value.nilFunc] 186)
          replace ht := ht.alloc ht.size (.cells #[Value.nilFunc] 186)
          generalize World.alloc wzcb (.cells #[Value.nilFunc] 186) = wzcba at hcur hrz hF hG ht hP ⊢
          refine hK.out _ _ (box1_of hcur) (fun hHeld => ?_)
          clear hK K
          try simp only [Act.put, List.getElem_toArray, List.getElem_cons_succ, List.getElem_cons_zero, List.setIfInBounds_toArray, List.set_cons_succ, List.set_cons_zero]
          refine wpAnyH_ready (rs := [7]) (by kernel_rfl) (by simp) (AllReadyH.cons rfl (fun K hK => ?_) AllReadyH.nil)
          go_simp
          refine (HCC.out _).mono ?_
          rintro e wzcbad ⟨A, c, g, rfl, hown, hb⟩
          replace hcur := hcur.below hb
          replace hrz := hrz.below hb
          replace hF := hF.below hb
          replace hP := hP.below hb
          replace hG := hG.below hb
          replace ht := below_then ht hb ht.size
          clear hb
          refine hK.out _ _ (box1_of hcur) (fun hHeld => ?_)
          clear hK K
          try simp only [Act.put, List.getElem_toArray, List.getElem_cons_succ, List.getElem_cons_zero, List.setIfInBounds_toArray, List.set_cons_succ, List.set_cons_zero]
          refine wpAnyH_ready (rs := [10]) (by kernel_rfl) (by simp) (AllReadyH.cons rfl (fun K hK => ?_) AllReadyH.nil)
          have hp0 := hP.cells1
          have hpf := hP.open_ 0
          have hpl := hP.lt
          go_simp
          clear hp0 hpf hpl
          have hbw : w.heap.size ≤ wzcb.heap.size := (by have := HLOa.out; omega)
          replace hcur := hcur.off (b := wzcb.heap.size) (o := 0) (u := (.func (.func 175) #[] #[.pointer (some ⟨g3, 0, none⟩), .pointer (some ⟨g4, 0, none⟩)])) (whole_ne hcur hP (by decide))
          replace hrz := hrz.off (b := wzcb.heap.size) (o := 0) (u := (.func (.func 175) #[] #[.pointer (some ⟨g3, 0, none⟩), .pointer (some ⟨g4, 0, none⟩)])) (whole_ne hrz hP (by decide))
          replace hF := calmFn_off' (b := wzcb.heap.size) (o := 0) (u := (.func (.func 175) #[] #[.pointer (some ⟨g3, 0, none⟩), .pointer (some ⟨g4, 0, none⟩)])) hF hP (by decide) (by decide) (by decide)
          replace hown := own_off (b := wzcb.heap.size) (o := 0) (u := (.func (.func 175) #[] #[.pointer (some ⟨g3, 0, none⟩), .pointer (some ⟨g4, 0, none⟩)])) hown hP (by decide)
          replace hG := hG.off (b := wzcb.heap.size) (o := 0) (u := (.func (.func 175) #[] #[.pointer (some ⟨g3, 0, none⟩), .pointer (some ⟨g4, 0, none⟩)])) (whole_ne hG hP (by decide))
          replace ht := below_set (b := wzcb.heap.size) (o := 0) (u := (.func (.func 175) #[] #[.pointer (some ⟨g3, 0, none⟩), .pointer (some ⟨g4, 0, none⟩)])) ht hbw
          replace hP := hP.set_ 0 (.func (.func 175) #[] #[.pointer (some ⟨g3, 0, none⟩), .pointer (some ⟨g4, 0, none⟩)])
          generalize World.setCell wzcbad ⟨wzcb.heap.size, 0, none⟩ (.func (.func 175) #[] #[.pointer (some ⟨g3, 0, none⟩), .pointer (some ⟨g4, 0, none⟩)]) = wzcbads at hcur hrz hF hown hP hG ht ⊢
          clear hbw
          refine hK.out _ _ (box1_of hcur) (fun hHeld => ?_)
          clear hK K
          try simp only [Act.put, List.getElem_toArray, List.getElem_cons_succ, List.getElem_cons_zero, List.setIfInBounds_toArray, List.set_cons_succ, List.set_cons_zero]
          refine wpAnyH_ready (rs := [11]) (by kernel_rfl) (by simp) (AllReadyH.cons rfl (fun K hK => ?_) AllReadyH.nil)
          have hp0 := hG.cells1
          have hpf := hG.open_ 0
          have hpl := hG.lt
          go_simp
          clear hp0 hpf hpl
          have hbw : w.heap.size ≤ wzc.heap.size := (by have := HLOb.out; omega)
          replace hcur := hcur.off (b := wzc.heap.size) (o := 0) (u := (.slice A (groupsOf k q).length c)) (whole_ne hcur hG (by decide))
          replace hrz := hrz.off (b := wzc.heap.size) (o := 0) (u := (.slice A (groupsOf k q).length c)) (whole_ne hrz hG (by decide))
          replace hF := calmFn_off' (b := wzc.heap.size) (o := 0) (u := (.slice A (groupsOf k q).length c)) hF hG (by decide) (by decide) (by decide)
          replace hown := own_off (b := wzc.heap.size) (o := 0) (u := (.slice A (groupsOf k q).length c)) hown hG (by decide)
          replace hP := hP.off (b := wzc.heap.size) (o := 0) (u := (.slice A (groupsOf k q).length c)) (whole_ne hP hG (by decide))
          replace ht := below_set (b := wzc.heap.size) (o := 0) (u := (.slice A (groupsOf k q).length c)) ht hbw
          replace hG := hG.set_ 0 (.slice A (groupsOf k q).length c)
          generalize World.setCell wzcbads ⟨wzc.heap.size, 0, none⟩ (.slice A (groupsOf k q).length c) = wzcbadst at hcur hrz hF hown hP hG ht ⊢
          clear hbw
          refine hK.out _ _ (box1_of hcur) (fun hHeld => ?_)
          clear hK K
          try simp only [Act.put, List.getElem_toArray, List.getElem_cons_succ, List.getElem_cons_zero, List.setIfInBounds_toArray, List.set_cons_succ, List.set_cons_zero]
          refine wpAnyH_done (by kernel_rfl) ?_ _
          clear hHeld
          go_wp2_with fail
          go_meet
          exact ⟨wzc.heap.size, wzcb.heap.size, g1, g3, g4, g, A, c, rfl, rfl, ⟨hF, hP, hG, hown⟩, hcur, hrz, ht⟩
    · go_simp
      have HLOa := Lib.hid ht.size
      have hP := Whole.fresh w0 186 #[Value.nilFunc]
      replace hcur := hcur.alloc (.cells #[Value.nilFunc] 186)
      replace hrz := hrz.alloc (.cells #[Value.nilFunc] 186)
      replace ht := ht.alloc ht.size (.cells #[Value.nilFunc] 186)
      generalize World.alloc w0 (.cells #[Value.nilFunc] 186) = wza at hcur hrz ht hP ⊢
      refine hK.out _ _ (box1_of hcur) (fun hHeld => ?_)
      clear hK K
      try simp only [Act.put, List.getElem_toArray, List.getElem_cons_succ, List.getElem_cons_zero, List.setIfInBounds_toArray, List.set_cons_succ, List.set_cons_zero]
      refine wpAnyH_ready (rs := [2, 9]) (by kernel_rfl) (by simp) (AllReadyH.cons rfl (fun K hK => ?_) (AllReadyH.cons rfl (fun K hK => ?_) AllReadyH.nil))
      · go_simp
        refine (calmPlaces_any k _ hk).mono ?_
        rintro e wzac ⟨g1, g3, g4, rfl, hF, hb⟩
        replace hcur := hcur.below hb
        replace hrz := hrz.below hb
        replace hP := hP.below hb
        replace ht := below_then ht hb ht.size
        clear hb
        unfold calmFnV
        refine hK.out _ _ (box1_of hcur) (fun hHeld => ?_)
        clear hK K
        try simp only [Act.put, List.getElem_toArray, List.getElem_cons_succ, List.getElem_cons_zero, List.setIfInBounds_toArray, List.set_cons_succ, List.set_cons_zero]
        refine wpAnyH_ready (rs := [7, 9]) (by kernel_rfl) (by simp) (AllReadyH.cons rfl (fun K hK => ?_) (AllReadyH.cons rfl (fun K hK => ?_) AllReadyH.nil))
        · go_simp
          refine (HCC.out _).mono ?_
          rintro e wzacd ⟨A, c, g, rfl, hown, hb⟩
          replace hcur := hcur.below hb
          replace hrz := hrz.below hb
          replace hF := hF.below hb
          replace hP := hP.below hb
          replace ht := below_then ht hb ht.size
          clear hb
          refine hK.out _ _ (box1_of hcur) (fun hHeld => ?_)
          clear hK K
          try simp only [Act.put, List.getElem_toArray, List.getElem_cons_succ, List.getElem_cons_zero, List.setIfInBounds_toArray, List.set_cons_succ, List.set_cons_zero]
          refine wpAnyH_ready (rs := [9]) (by kernel_rfl) (by simp) (AllReadyH.cons rfl (fun K hK => ?_) AllReadyH.nil)
          go_simp
          have HLOb := Lib.hid ht.size
          have hG := Whole.fresh wzacd 123 #[.slice none 0 0]
          replace hcur := hcur.alloc (.cells #[.slice none 0 0] 123)
          replace hrz := hrz.alloc (.cells #[.slice none 0 0] 123)
          replace hF := hF.alloc (.cells #[.slice none 0 0] 123)
          replace hown := hown.alloc (.cells #[.slice none 0 0] 123)
          replace hP := hP.alloc (.cells #[.slice none 0 0] 123)
          replace ht := ht.alloc ht.size (.cells #[.slice none 0 0] 123)
          generalize World.alloc wzacd (.cells #[.slice none 0 0] 123) = wzacdb at hcur hrz hF hown hP ht hG ⊢
          refine hK.out _ _ (box1_of hcur) (fun hHeld => ?_)
          clear hK K
          try simp only [Act.put, List.getElem_toArray, List.getElem_cons_succ, List.getElem_cons_zero, List.setIfInBounds_toArray, List.set_cons_succ, List.set_cons_zero]
          refine wpAnyH_ready (rs := [10]) (by kernel_rfl) (by simp) (AllReadyH.cons rfl (fun K hK => ?_) AllReadyH.nil)
          have hp0 := hP.cells1
          have hpf := hP.open_ 0
          have hpl := hP.lt
          go_simp
          clear hp0 hpf hpl
          have hbw : w.heap.size ≤ w0.heap.size := (by have := HLOa.out; omega)
          replace hcur := hcur.off (b := w0.heap.size) (o := 0) (u := (.func (.func 175) #[] #[.pointer (some ⟨g3, 0, none⟩), .pointer (some ⟨g4, 0, none⟩)])) (whole_ne hcur hP (by decide))
          replace hrz := hrz.off (b := w0.heap.size) (o := 0) (u := (.func (.func 175) #[] #[.pointer (some ⟨g3, 0, none⟩), .pointer (some ⟨g4, 0, none⟩)])) (whole_ne hrz hP (by decide))
          replace hF := calmFn_off' (b := w0.heap.size) (o := 0) (u := (.func (.func 175) #[] #[.pointer (some ⟨g3, 0, none⟩), .pointer (some ⟨g4, 0, none⟩)])) hF hP (by decide) (by decide) (by decide)
          replace hown := own_off (b := w0.heap.size) (o := 0) (u := (.func (.func 175) #[] #[.pointer (some ⟨g3, 0, none⟩), .pointer (some ⟨g4, 0, none⟩)])) hown hP (by decide)
          replace hG := hG.off (b := w0.heap.size) (o := 0) (u := (.func (.func 175) #[] #[.pointer (some ⟨g3, 0, none⟩), .pointer (some ⟨g4, 0, none⟩)])) (whole_ne hG hP (by decide))
          replace ht := below_set (b := w0.heap.size) (o := 0) (u := (.func (.func 175) #[] #[.pointer (some ⟨g3, 0, none⟩), .pointer (some ⟨g4, 0, none⟩)])) ht hbw
          replace hP := hP.set_ 0 (.func (.func 175) #[] #[.pointer (some ⟨g3, 0, none⟩), .pointer (some ⟨g4, 0, none⟩)])
          generalize World.setCell wzacdb ⟨w0.heap.size, 0, none⟩ (.func (.func 175) #[] #[.pointer (some ⟨g3, 0, none⟩), .pointer (some ⟨g4, 0, none⟩)]) = wzacdbs at hcur hrz hF hown hP hG ht ⊢
          clear hbw
          refine hK.out _ _ (box1_of hcur) (fun hHeld => ?_)
          clear hK K
          try simp only [Act.put, List.getElem_toArray, List.getElem_cons_succ, List.getElem_cons_zero, List.setIfInBounds_toArray, List.set_cons_succ, List.set_cons_zero]
          refine wpAnyH_ready (rs := [11]) (by kernel_rfl) (by simp) (AllReadyH.cons rfl (fun K hK => ?_) AllReadyH.nil)
          have hp0 := hG.cells1
          have hpf := hG.open_ 0
          have hpl := hG.lt
          go_simp
          clear hp0 hpf hpl
          have hbw : w.heap.size ≤ wzacd.heap.size := (by have := HLOb.out; omega)
          replace hcur := hcur.off (b := wzacd.heap.size) (o := 0) (u := (.slice A (groupsOf k q).length c)) (whole_ne hcur hG (by decide))
          replace hrz := hrz.off (b := wzacd.heap.size) (o := 0) (u := (.slice A (groupsOf k q).length c)) (whole_ne hrz hG (by decide))
          replace hF := calmFn_off' (b := wzacd.heap.size) (o := 0) (u := (.slice A (groupsOf k q).length c)) hF hG (by decide) (by decide) (by decide)
          replace hown := own_off (b := wzacd.heap.size) (o := 0) (u := (.slice A (groupsOf k q).length c)) hown hG (by decide)
          replace hP := hP.off (b := wzacd.heap.size) (o := 0) (u := (.slice A (groupsOf k q).length c)) (whole_ne hP hG (by decide))
          replace ht := below_set (b := wzacd.heap.size) (o := 0) (u := (.slice A (groupsOf k q).length c)) ht hbw
          replace hG := hG.set_ 0 (.slice A (groupsOf k q).length c)
          generalize World.setCell wzacdbs ⟨wzacd.heap.size, 0, none⟩ (.slice A (groupsOf k q).length c) = wzacdbst at hcur hrz hF hown hP hG ht ⊢
          clear hbw
          refine hK.out _ _ (box1_of hcur) (fun hHeld => ?_)
          clear hK K
          try simp only [Act.put, List.getElem_toArray, List.getElem_cons_succ, List.getElem_cons_zero, List.setIfInBounds_toArray, List.set_cons_succ, List.set_cons_zero]
          refine wpAnyH_done (by kernel_rfl) ?_ _
          clear hHeld
          go_wp2_with fail
          go_meet
          exact ⟨wzacd.heap.size, w0.heap.size, g1, g3, g4, g, A, c, rfl, rfl, ⟨hF, hP, hG, hown⟩, hcur, hrz, ht⟩
        · go_simp
          have HLOb := Lib.hid ht.size
          have hG := Whole.fresh wzac 123 #[.slice none 0 0]
          replace hcur := hcur.alloc (.cells #[.slice none 0 0] 123)
          replace hrz := hrz.alloc (.cells #[.slice none 0 0] 123)
          replace hF := hF.alloc (.cells #[.slice none 0 0] 123)
          replace hP := hP.alloc (.cells #[.slice none 0 0] 123)
          replace ht := ht.alloc ht.size (.cells #[.slice none 0 0] 123)
          generalize World.alloc wzac (.cells #[.slice none 0 0] 123) = wzacb at hcur hrz hF hP ht hG ⊢
          refine hK.out _ _ (box1_of hcur) (fun hHeld => ?_)
          clear hK K
          try simp only [Act.put, List.getElem_toArray, List.getElem_cons_succ, List.getElem_cons_zero, List.setIfInBounds_toArray, List.set_cons_succ, List.set_cons_zero]
          refine wpAnyH_ready (rs := [7]) (by kernel_rfl) (by simp) (AllReadyH.cons rfl (fun K hK => ?_) AllReadyH.nil)
          go_simp
          refine (HCC.out _).mono ?_
          rintro e wzacbd ⟨A, c, g, rfl, hown, hb⟩
          replace hcur := hcur.below hb
          replace hrz := hrz.below hb
          replace hF := hF.below hb
          replace hP := hP.below hb
          replace hG := hG.below hb
          replace ht := below_then ht hb ht.size
          clear hb
          refine hK.out _ _ (box1_of hcur) (fun hHeld => ?_)
          clear hK K
          try simp only [Act.put, List.getElem_toArray, List.getElem_cons_succ, List.getElem_cons_zero, List.setIfInBounds_toArray, List.set_cons_succ, List.set_cons_zero]
          refine wpAnyH_ready (rs := [10]) (by kernel_rfl) (by simp) (AllReadyH.cons rfl (fun K hK => ?_) AllReadyH.nil)
          have hp0 := hP.cells1
          have hpf := hP.open_ 0
          have hpl := hP.lt
          go_simp
          clear hp0 hpf hpl
          have hbw : w.heap.size ≤ w0.heap.size := (by have := HLOa.out; omega)
          replace hcur := hcur.off (b := w0.heap.size) (o := 0) (u := (.func (.func 175) #[] #[.pointer (some ⟨g3, 0, none⟩), .pointer (some ⟨g4, 0, none⟩)])) (whole_ne hcur hP (by decide))
          replace hrz := hrz.off (b := w0.heap.size) (o := 0) (u := (.func (.func 175) #[] #[.pointer (some ⟨g3, 0, none⟩), .pointer (some ⟨g4, 0, none⟩)])) (whole_ne hrz hP (by decide))
          replace hF := calmFn_off' (b := w0.heap.size) (o := 0) (u := (.func (.func 175) #[] #[.pointer (some ⟨g3, 0, none⟩), .pointer (some ⟨g4, 0, none⟩)])) hF hP (by decide) (by decide) (by decide)
          replace hown := own_off (b := w0.heap.size) (o := 0) (u := (.func (.func 175) #[] #[.pointer (some ⟨g3, 0, none⟩), .pointer (some ⟨g4, 0, none⟩)])) hown hP (by decide)
          replace hG := hG.off (b := w0.heap.size) (o := 0) (u := (.func (.func 175) #[] #[.pointer (some ⟨g3, 0, none⟩), .pointer (some ⟨g4, 0, none⟩)])) (whole_ne hG hP (by decide))
          replace ht := below_set (b := w0.heap.size) (o := 0) (u := (.func (.func 175) #[] #[.pointer (some ⟨g3, 0, none⟩), .pointer (some ⟨g4, 0, none⟩)])) ht hbw
          replace hP := hP.set_ 0 (.func (.func 175) #[] #[.pointer (some ⟨g3, 0, none⟩), .pointer (some ⟨g4, 0, none⟩)])
          generalize World.setCell wzacbd ⟨w0.heap.size, 0, none⟩ (.func (.func 175) #[] #[.pointer (some ⟨g3, 0, none⟩), .pointer (some ⟨g4, 0, none⟩)]) = wzacbds at hcur hrz hF hown hP hG ht ⊢
          clear hbw
          refine hK.out _ _ (box1_of hcur) (fun hHeld => ?_)
          clear hK K
          try simp only [Act.put, List.getElem_toArray, List.getElem_cons_succ, List.getElem_cons_zero, List.setIfInBounds_toArray, List.set_cons_succ, List.set_cons_zero]
          refine wpAnyH_ready (rs := [11]) (by kernel_rfl) (by simp) (AllReadyH.cons rfl (fun K hK => ?_) AllReadyH.nil)
          have hp0 := hG.cells1
          have hpf := hG.open_ 0
          have hpl := hG.lt
          go_simp
          clear hp0 hpf hpl
          have hbw : w.heap.size ≤ wzac.heap.size := (by have := HLOb.out; omega)
          replace hcur := hcur.off (b := wzac.heap.size) (o := 0) (u := (.slice A (groupsOf k q).length c)) (whole_ne hcur hG (by decide))
          replace hrz := hrz.off (b := wzac.heap.size) (o := 0) (u := (.slice A (groupsOf k q).length c)) (whole_ne hrz hG (by decide))
          replace hF := calmFn_off' (b := wzac.heap.size) (o := 0) (u := (.slice A (groupsOf k q).length c)) hF hG (by decide) (by decide) (by decide)
          replace hown := own_off (b := wzac.heap.size) (o := 0) (u := (.slice A (groupsOf k q).length c)) hown hG (by decide)
          replace hP := hP.off (b := wzac.heap.size) (o := 0) (u := (.slice A (groupsOf k q).length c)) (whole_ne hP hG (by decide))
          replace ht := below_set (b := wzac.heap.size) (o := 0) (u := (.slice A (groupsOf k q).length c)) ht hbw
          replace hG := hG.set_ 0 (.slice A (groupsOf k q).length c)
          generalize World.setCell wzacbds ⟨wzac.heap.size, 0, none⟩ (.slice A (groupsOf k q).length c) = wzacbdst at hcur hrz hF hown hP hG ht ⊢
          clear hbw
          refine hK.out _ _ (box1_of hcur) (fun hHeld => ?_)
          clear hK K
          try simp only [Act.put, List.getElem_toArray, List.getElem_cons_succ, List.getElem_cons_zero, List.setIfInBounds_toArray, List.set_cons_succ, List.set_cons_zero]
          refine wpAnyH_done (by kernel_rfl) ?_ _
          clear hHeld
          go_wp2_with fail
          go_meet
          exact ⟨wzac.heap.size, w0.heap.size, g1, g3, g4, g, A, c, rfl, rfl, ⟨hF, hP, hG, hown⟩, hcur, hrz, ht⟩
      · go_simp
        have HLOb := Lib.hid ht.size
        have hG := Whole.fresh wza 123 #[.slice none 0 0]
        replace hcur := hcur.alloc (.cells #[.slice none 0 0] 123)
        replace hrz := hrz.alloc (.cells #[.slice none 0 0] 123)
        replace hP := hP.alloc (.cells #[.slice none 0 0] 123)
        replace ht := ht.alloc ht.size (.cells #[.slice none 0 0] 123)
        generalize World.alloc wza (.cells #[.slice none 0 0] 123) = wzab at hcur hrz hP ht hG ⊢
        refine hK.out _ _ (box1_of hcur) (fun hHeld => ?_)
        clear hK K
        try simp only [Act.put, List.getElem_toArray, List.getElem_cons_succ, List.getElem_cons_zero, List.setIfInBounds_toArray, List.set_cons_succ, List.set_cons_zero]
        refine wpAnyH_ready (rs := [2]) (by kernel_rfl) (by simp) (AllReadyH.cons rfl (fun K hK => ?_) AllReadyH.nil)
        go_simp
        refine (calmPlaces_any k _ hk).mono ?_
        rintro e wzabc ⟨g1, g3, g4, rfl, hF, hb⟩
        replace hcur := hcur.below hb
        replace hrz := hrz.below hb
        replace hP := hP.below hb
        replace hG := hG.below hb
        replace ht := below_then ht hb ht.size
        clear hb
        unfold calmFnV
        refine hK.out _ _ (box1_of hcur) (fun hHeld => ?_)
        clear hK K
        try simp only [Act.put, List.getElem_toArray, List.getElem_cons_succ, List.getElem_cons_zero, List.setIfInBounds_toArray, List.set_cons_succ, List.set_cons_zero]
        refine wpAnyH_ready (rs := [7]) (by kernel_rfl) (by simp) (AllReadyH.cons rfl (fun K hK => ?_) AllReadyH.nil)
        go_simp
        refine (HCC.out _).mono ?_
        rintro e wzabcd ⟨A, c, g, rfl, hown, hb⟩
        replace hcur := hcur.below hb
        replace hrz := hrz.below hb
        replace hF := hF.below hb
        replace hP := hP.below hb
        replace hG := hG.below hb
        replace ht := below_then ht hb ht.size
        clear hb
        refine hK.out _ _ (box1_of hcur) (fun hHeld => ?_)
        clear hK K
        try simp only [Act.put, List.getElem_toArray, List.getElem_cons_succ, List.getElem_cons_zero, List.setIfInBounds_toArray, List.set_cons_succ, List.set_cons_zero]
        refine wpAnyH_ready (rs := [10]) (by kernel_rfl) (by simp) (AllReadyH.cons rfl (fun K hK => ?_) AllReadyH.nil)
        have hp0 := hP.cells1
        have hpf := hP.open_ 0
        have hpl := hP.lt
        go_simp
        clear hp0 hpf hpl
        have hbw : w.heap.size ≤ w0.heap.size := (by have := HLOa.out; omega)
        replace hcur := hcur.off (b := w0.heap.size) (o := 0) (u := (.func (.func 175) #[] #[.pointer (some ⟨g3, 0, none⟩), .pointer (some ⟨g4, 0, none⟩)])) (whole_ne hcur hP (by decide))
        replace hrz := hrz.off (b := w0.heap.size) (o := 0) (u := (.func (.func 175) #[] #[.pointer (some ⟨g3, 0, none⟩), .pointer (some ⟨g4, 0, none⟩)])) (whole_ne hrz hP (by decide))
        replace hF := calmFn_off' (b := w0.heap.size) (o := 0) (u := (.func (.func 175) #[] #[.pointer (some ⟨g3, 0, none⟩), .pointer (some ⟨g4, 0, none⟩)])) hF hP (by decide) (by decide) (by decide)
        replace hown := own_off (b := w0.heap.size) (o := 0) (u := (.func (.func 175) #[] #[.pointer (some ⟨g3, 0, none⟩), .pointer (some ⟨g4, 0, none⟩)])) hown hP (by decide)
        replace hG := hG.off (b := w0.heap.size) (o := 0) (u := (.func (.func 175) #[] #[.pointer (some ⟨g3, 0, none⟩), .pointer (some ⟨g4, 0, none⟩)])) (whole_ne hG hP (by decide))
        replace ht := below_set (b := w0.heap.size) (o := 0) (u := (.func (.func 175) #[] #[.pointer (some ⟨g3, 0, none⟩), .pointer (some ⟨g4, 0, none⟩)])) ht hbw
        replace hP := hP.set_ 0 (.func (.func 175) #[] #[.pointer (some ⟨g3, 0, none⟩), .pointer (some ⟨g4, 0, none⟩)])
        generalize World.setCell wzabcd ⟨w0.heap.size, 0, none⟩ (.func (.func 175) #[] #[.pointer (some ⟨g3, 0, none⟩), .pointer (some ⟨g4, 0, none⟩)]) = wzabcds at hcur hrz hF hown hP hG ht ⊢
        clear hbw
        refine hK.out _ _ (box1_of hcur) (fun hHeld => ?_)
        clear hK K
        try simp only [Act.put, List.getElem_toArray, List.getElem_cons_succ, List.getElem_cons_zero, List.setIfInBounds_toArray, List.set_cons_succ, List.set_cons_zero]
        refine wpAnyH_ready (rs := [11]) (by kernel_rfl) (by simp) (AllReadyH.cons rfl (fun K hK => ?_) AllReadyH.nil)
        have hp0 := hG.cells1
        have hpf := hG.open_ 0
        have hpl := hG.lt
        go_simp
        clear hp0 hpf hpl
        have hbw : w.heap.size ≤ wza.heap.size := (by have := HLOb.out; omega)
        replace hcur := hcur.off (b := wza.heap.size) (o := 0) (u := (.slice A (groupsOf k q).length c)) (whole_ne hcur hG (by decide))
        replace hrz := hrz.off (b := wza.heap.size) (o := 0) (u := (.slice A (groupsOf k q).length c)) (whole_ne hrz hG (by decide))
        replace hF := calmFn_off' (b := wza.heap.size) (o := 0) (u := (.slice A (groupsOf k q).length c)) hF hG (by decide) (by decide) (by decide)
        replace hown := own_off (b := wza.heap.size) (o := 0) (u := (.slice A (groupsOf k q).length c)) hown hG (by decide)
        replace hP := hP.off (b := wza.heap.size) (o := 0) (u := (.slice A (groupsOf k q).length c)) (whole_ne hP hG (by decide))
        replace ht := below_set (b := wza.heap.size) (o := 0) (u := (.slice A (groupsOf k q).length c)) ht hbw
        replace hG := hG.set_ 0 (.slice A (groupsOf k q).length c)
        generalize World.setCell wzabcds ⟨wza.heap.size, 0, none⟩ (.slice A (groupsOf k q).length c) = wzabcdst at hcur hrz hF hown hP hG ht ⊢
        clear hbw
        refine hK.out _ _ (box1_of hcur) (fun hHeld => ?_)
        clear hK K
        try simp only [Act.put, List.getElem_toArray, List.getElem_cons_succ, List.getElem_cons_zero, List.setIfInBounds_toArray, List.set_cons_succ, List.set_cons_zero]
        refine wpAnyH_done (by kernel_rfl) ?_ _
        clear hHeld
        go_wp2_with fail
        go_meet
        exact ⟨wza.heap.size, w0.heap.size, g1, g3, g4, g, A, c, rfl, rfl, ⟨hF, hP, hG, hown⟩, hcur, hrz, ht⟩
    · go_simp
      have HLOb := Lib.hid ht.size
      have hG := Whole.fresh w0 123 #[.slice none 0 0]
      replace hcur := hcur.alloc (.cells #[.slice none 0 0] 123)
      replace hrz := hrz.alloc (.cells #[.slice none 0 0] 123)
      replace ht := ht.alloc ht.size (.cells #[.slice none 0 0] 123)
      generalize World.alloc w0 (.cells #[.slice none 0 0] 123) = wzb at hcur hrz ht hG ⊢
      refine hK.out _ _ (box1_of hcur) (fun hHeld => ?_)
      clear hK K
      try simp only [Act.put, List.getElem_toArray, List.getElem_cons_succ, List.getElem_cons_zero, List.setIfInBounds_toArray, List.set_cons_succ, List.set_cons_zero]
      refine wpAnyH_ready (rs := [2, 8]) (by kernel_rfl) (by simp) (AllReadyH.cons rfl (fun K hK => ?_) (AllReadyH.cons rfl (fun K hK => ?_) AllReadyH.nil))
      · go_simp
        refine (calmPlaces_any k _ hk).mono ?_
        rintro e wzbc ⟨g1, g3, g4, rfl, hF, hb⟩
        replace hcur := hcur.below hb
        replace hrz := hrz.below hb
        replace hG := hG.below hb
        replace ht := below_then ht hb ht.size
        clear hb
        unfold calmFnV
        refine hK.out _ _ (box1_of hcur) (fun hHeld => ?_)
        clear hK K
        try simp only [Act.put, List.getElem_toArray, List.getElem_cons_succ, List.getElem_cons_zero, List.setIfInBounds_toArray, List.set_cons_succ, List.set_cons_zero]
        refine wpAnyH_ready (rs := [7, 8]) (by kernel_rfl) (by simp) (AllReadyH.cons rfl (fun K hK => ?_) (AllReadyH.cons rfl (fun K hK => ?_) AllReadyH.nil))
        · go_simp
          refine (HCC.out _).mono ?_
          rintro e wzbcd ⟨A, c, g, rfl, hown, hb⟩
          replace hcur := hcur.below hb
          replace hrz := hrz.below hb
          replace hF := hF.below hb
          replace hG := hG.below hb
          replace ht := below_then ht hb ht.size
          clear hb
          refine hK.out _ _ (box1_of hcur) (fun hHeld => ?_)
          clear hK K
          try simp only [Act.put, List.getElem_toArray, List.getElem_cons_succ, List.getElem_cons_zero, List.setIfInBounds_toArray, List.set_cons_succ, List.set_cons_zero]
          refine wpAnyH_ready (rs := [8]) (by kernel_rfl) (by simp) (AllReadyH.cons rfl (fun K hK => ?_) AllReadyH.nil)
          go_simp
          have HLOa := Lib.hid ht.size
          have hP := Whole.fresh wzbcd 186 #[Value.nilFunc]
          replace hcur := hcur.alloc (.cells #[Value.nilFunc] 186)
          replace hrz := hrz.alloc (.cells #[Value.nilFunc] 186)
          replace hF := hF.alloc (.cells #[Value.nilFunc] 186)
          replace hown := hown.alloc (.cells #[Value.nilFunc] 186)
          replace hG := hG.alloc (.cells #[Value.nilFunc] 186)
          replace ht := ht.alloc ht.size (.cells #[Value.nilFunc] 186)
          generalize World.alloc wzbcd (.cells #[Value.nilFunc] 186) = wzbcda at hcur hrz hF hown hG ht hP ⊢
          refine hK.out _ _ (box1_of hcur) (fun hHeld => ?_)
          clear hK K
          try simp only [Act.put, List.getElem_toArray, List.getElem_cons_succ, List.getElem_cons_zero, List.setIfInBounds_toArray, List.set_cons_succ, List.set_cons_zero]
          refine wpAnyH_ready (rs := [10]) (by kernel_rfl) (by simp) (AllReadyH.cons rfl (fun K hK => ?_) AllReadyH.nil)
          have hp0 := hP.cells1
          have hpf := hP.open_ 0
          have hpl := hP.lt
          go_simp
          clear hp0 hpf hpl
          have hbw : w.heap.size ≤ wzbcd.heap.size := (by have := HLOa.out; omega)
          replace hcur := hcur.off (b := wzbcd.heap.size) (o := 0) (u := (.func (.func 175) #[] #[.pointer (some ⟨g3, 0, none⟩), .pointer (some ⟨g4, 0, none⟩)])) (whole_ne hcur hP (by decide))
          replace hrz := hrz.off (b := wzbcd.heap.size) (o := 0) (u := (.func (.func 175) #[] #[.pointer (some ⟨g3, 0, none⟩), .pointer (some ⟨g4, 0, none⟩)])) (whole_ne hrz hP (by decide))
          replace hF := calmFn_off' (b := wzbcd.heap.size) (o := 0) (u := (.func (.func 175) #[] #[.pointer (some ⟨g3, 0, none⟩), .pointer (some ⟨g4, 0, none⟩)])) hF hP (by decide) (by decide) (by decide)
          replace hown := own_off (b := wzbcd.heap.size) (o := 0) (u := (.func (.func 175) #[] #[.pointer (some ⟨g3, 0, none⟩), .pointer (some ⟨g4, 0, none⟩)])) hown hP (by decide)
          replace hG := hG.off (b := wzbcd.heap.size) (o := 0) (u := (.func (.func 175) #[] #[.pointer (some ⟨g3, 0, none⟩), .pointer (some ⟨g4, 0, none⟩)])) (whole_ne hG hP (by decide))
          replace ht := below_set (b := wzbcd.heap.size) (o := 0) (u := (.func (.func 175) #[] #[.pointer (some ⟨g3, 0, none⟩), .pointer (some ⟨g4, 0, none⟩)])) ht hbw
          replace hP := hP.set_ 0 (.func (.func 175) #[] #[.pointer (some ⟨g3, 0, none⟩), .pointer (some ⟨g4, 0, none⟩)])
          generalize World.setCell wzbcda ⟨wzbcd.heap.size, 0, none⟩ (.func (.func 175) #[] #[.pointer (some ⟨g3, 0, none⟩), .pointer (some ⟨g4, 0, none⟩)]) = wzbcdas at hcur hrz hF hown hP hG ht ⊢
          clear hbw
          refine hK.out _ _ (box1_of hcur) (fun hHeld => ?_)
          clear hK K
          try simp only [Act.put, List.getElem_toArray, List.getElem_cons_succ, List.getElem_cons_zero, List.setIfInBounds_toArray, List.set_cons_succ, List.set_cons_zero]
          refine wpAnyH_ready (rs := [11]) (by kernel_rfl) (by simp) (AllReadyH.cons rfl (fun K hK => ?_) AllReadyH.nil)
          have hp0 := hG.cells1
          have hpf := hG.open_ 0
          have hpl := hG.lt
          go_simp
          clear hp0 hpf hpl
          have hbw : w.heap.size ≤ w0.heap.size := (by have := HLOb.out; omega)
          replace hcur := hcur.off (b := w0.heap.size) (o := 0) (u := (.slice A (groupsOf k q).length c)) (whole_ne hcur hG (by decide))
          replace hrz := hrz.off (b := w0.heap.size) (o := 0) (u := (.slice A (groupsOf k q).length c)) (whole_ne hrz hG (by decide))
          replace hF := calmFn_off' (b := w0.heap.size) (o := 0) (u := (.slice A (groupsOf k q).length c)) hF hG (by decide) (by decide) (by decide)
          replace hown := own_off (b := w0.heap.size) (o := 0) (u := (.slice A (groupsOf k q).length c)) hown hG (by decide)
          replace hP := hP.off (b := w0.heap.size) (o := 0) (u := (.slice A (groupsOf k q).length c)) (whole_ne hP hG (by decide))
          replace ht := below_set (b := w0.heap.size) (o := 0) (u := (.slice A (groupsOf k q).length c)) ht hbw
          replace hG := hG.set_ 0 (.slice A (groupsOf k q).length c)
          generalize World.setCell wzbcdas ⟨w0.heap.size, 0, none⟩ (.slice A (groupsOf k q).length c) = wzbcdast at hcur hrz hF hown hP hG ht ⊢
          clear hbw
          refine hK.out _ _ (box1_of hcur) (fun hHeld => ?_)
          clear hK K
          try simp only [Act.put, List.getElem_toArray, List.getElem_cons_succ, List.getElem_cons_zero, List.setIfInBounds_toArray, List.set_cons_succ, List.set_cons_zero]
          refine wpAnyH_done (by kernel_rfl) ?_ _
          clear hHeld
          go_wp2_with fail
          go_meet
          exact ⟨w0.heap.size, wzbcd.heap.size, g1, g3, g4, g, A, c, rfl, rfl, ⟨hF, hP, hG, hown⟩, hcur, hrz, ht⟩
        · go_simp
          have HLOa := Lib.hid ht.size
          have hP := Whole.fresh wzbc 186 #[Value.nilFunc]
          replace hcur := hcur.alloc (.cells #[Value.nilFunc] 186)
          replace hrz := hrz.alloc (.cells #[Value.nilFunc] 186)
          replace hF := hF.alloc (.cells #[Value.nilFunc] 186)
          replace hG := hG.alloc (.cells #[Value.nilFunc] 186)
          replace ht := ht.alloc ht.size (.cells #[Value.nilFunc] 186)
          generalize World.alloc wzbc (.cells #[Value.nilFunc] 186) = wzbca at hcur hrz hF hG ht hP ⊢
          refine hK.out _ _ (box1_of hcur) (fun hHeld => ?_)
          clear hK K
          try simp only [Act.put, List.getElem_toArray, List.getElem_cons_succ, List.getElem_cons_zero, List.setIfInBounds_toArray, List.set_cons_succ, List.set_cons_zero]
          refine wpAnyH_ready (rs := [7]) (by kernel_rfl) (by simp) (AllReadyH.cons rfl (fun K hK => ?_) AllReadyH.nil)
          go_simp
          refine (HCC.out _).mono ?_
          rintro e wzbcad ⟨A, c, g, rfl, hown, hb⟩
          replace hcur := hcur.below hb
          replace hrz := hrz.below hb
          replace hF := hF.below hb
          replace hP := hP.below hb
          replace hG := hG.below hb
          replace ht := below_then ht hb ht.size
          clear hb
          refine hK.out _ _ (box1_of hcur) (fun hHeld => ?_)
          clear hK K
          try simp only [Act.put, List.getElem_toArray, List.getElem_cons_succ, List.getElem_cons_zero, List.setIfInBounds_toArray, List.set_cons_succ, List.set_cons_zero]
          refine wpAnyH_ready (rs := [10]) (by kernel_rfl) (by simp) (AllReadyH.cons rfl (fun K hK => ?_) AllReadyH.nil)
          have hp0 := hP.cells1
          have hpf := hP.open_ 0
          have hpl := hP.lt
          go_simp
          clear hp0 hpf hpl
          have hbw : w.heap.size ≤ wzbc.heap.size := (by have := HLOa.out; omega)
          replace hcur := hcur.off (b := wzbc.heap.size) (o := 0) (u := (.func (.func 175) #[] #[.pointer (some ⟨g3, 0, none⟩), .pointer (some ⟨g4, 0, none⟩)])) (whole_ne hcur hP (by decide))
          replace hrz := hrz.off (b := wzbc.heap.size) (o := 0) (u := (.func (.func 175) #[] #[.pointer (some ⟨g3, 0, none⟩), .pointer (some ⟨g4, 0, none⟩)])) (whole_ne hrz hP (by decide))
          replace hF := calmFn_off' (b := wzbc.heap.size) (o := 0) (u := (.func (.func 175) #[] #[.pointer (some ⟨g3, 0, none⟩), .pointer (some ⟨g4, 0, none⟩)])) hF hP (by decide) (by decide) (by decide)
          replace hown := own_off (b := wzbc.heap.size) (o := 0) (u := (.func (.func 175) #[] #[.pointer (some ⟨g3, 0, none⟩), .pointer (some ⟨g4, 0, none⟩)])) hown hP (by decide)
          replace hG := hG.off (b := wzbc.heap.size) (o := 0) (u := (.func (.func 175) #[] #[.pointer (some ⟨g3, 0, none⟩), .pointer (some ⟨g4, 0, none⟩)])) (whole_ne hG hP (by decide))
          replace ht := below_set (b := wzbc.heap.size) (o := 0) (u := (.func (.func 175) #[] #[.pointer (some ⟨g3, 0, none⟩), .pointer (some ⟨g4, 0, none⟩)])) ht hbw
          replace hP := hP.set_ 0 (.func (.func 175) #[] #[.pointer (some ⟨g3, 0, none⟩), .pointer (some ⟨g4, 0, none⟩)])
          generalize World.setCell wzbcad ⟨wzbc.heap.size, 0, none⟩ (.func (.func 175) #[] #[.pointer (some ⟨g3, 0, none⟩), .pointer (some ⟨g4, 0, none⟩)]) = wzbcads at hcur hrz hF hown hP hG ht ⊢
          clear hbw
          refine hK.out _ _ (box1_of hcur) (fun hHeld => ?_)
          clear hK K
          try simp only [Act.put, List.getElem_toArray, List.getElem_cons_succ, List.getElem_cons_zero, List.setIfInBounds_toArray, List.set_cons_succ, List.set_cons_zero]
          refine wpAnyH_ready (rs := [11]) (by kernel_rfl) (by simp) (AllReadyH.cons rfl (fun K hK => ?_) AllReadyH.nil)
          have hp0 := hG.cells1
          have hpf := hG.open_ 0
          have hpl := hG.lt
          go_simp
          clear hp0 hpf hpl
          have hbw : w.heap.size ≤ w0.heap.size := (by have := HLOb.out; omega)
          replace hcur := hcur.off (b := w0.heap.size) (o := 0) (u := (.slice A (groupsOf k q).length c)) (whole_ne hcur hG (by decide))
          replace hrz := hrz.off (b := w0.heap.size) (o := 0) (u := (.slice A (groupsOf k q).length c)) (whole_ne hrz hG (by decide))
          replace hF := calmFn_off' (b := w0.heap.size) (o := 0) (u := (.slice A (groupsOf k q).length c)) hF hG (by decide) (by decide) (by decide)
          replace hown := own_off (b := w0.heap.size) (o := 0) (u := (.slice A (groupsOf k q).length c)) hown hG (by decide)
          replace hP := hP.off (b := w0.heap.size) (o := 0) (u := (.slice A (groupsOf k q).length c)) (whole_ne hP hG (by decide))
          replace ht := below_set (b := w0.heap.size) (o := 0) (u := (.slice A (groupsOf k q).length c)) ht hbw
          replace hG := hG.set_ 0 (.slice A (groupsOf k q).length c)
          generalize World.setCell wzbcads ⟨w0.heap.size, 0, none⟩ (.slice A (groupsOf k q).length c) = wzbcadst at hcur hrz hF hown hP hG ht ⊢
          clear hbw
          refine hK.out _ _ (box1_of hcur) (fun hHeld => ?_)
          clear hK K
          try simp only [Act.put, List.getElem_toArray, List.getElem_cons_succ, List.getElem_cons_zero, List.setIfInBounds_toArray, List.set_cons_succ, List.set_cons_zero]
          refine wpAnyH_done (by kernel_rfl) ?_ _
          clear hHeld
          go_wp2_with fail
          go_meet
          exact ⟨w0.heap.size, wzbc.heap.size, g1, g3, g4, g, A, c, rfl, rfl, ⟨hF, hP, hG, hown⟩, hcur, hrz, ht⟩
      · go_simp
        have HLOa := Lib.hid ht.size
        have hP := Whole.fresh wzb 186 #[Value.nilFunc]
        replace hcur := hcur.alloc (.cells #[Value.nilFunc] 186)
        replace hrz := hrz.alloc (.cells #[Value.nilFunc] 186)
        replace hG := hG.alloc (.cells #[Value.nilFunc] 186)
        replace ht := ht.alloc ht.size (.cells #[Value.nilFunc] 186)
        generalize World.alloc wzb (.cells #[Value.nilFunc] 186) = wzba at hcur hrz hG ht hP ⊢
        refine hK.out _ _ (box1_of hcur) (fun hHeld => ?_)
        clear hK K
        try simp only [Act.put, List.getElem_toArray, List.getElem_cons_succ, List.getElem_cons_zero, List.setIfInBounds_toArray, List.set_cons_succ, List.set_cons_zero]
        refine wpAnyH_ready (rs := [2]) (by kernel_rfl) (by simp) (AllReadyH.cons rfl (fun K hK => ?_) AllReadyH.nil)
        go_simp
        refine (calmPlaces_any k _ hk).mono ?_
        rintro e wzbac ⟨g1, g3, g4, rfl, hF, hb⟩
        replace hcur := hcur.below hb
        replace hrz := hrz.below hb
        replace hP := hP.below hb
        replace hG := hG.below hb
        replace ht := below_then ht hb ht.size
        clear hb
        unfold calmFnV
        refine hK.out _ _ (box1_of hcur) (fun hHeld => ?_)
        clear hK K
        try simp only [Act.put, List.getElem_toArray, List.getElem_cons_succ, List.getElem_cons_zero, List.setIfInBounds_toArray, List.set_cons_succ, List.set_cons_zero]
        refine wpAnyH_ready (rs := [7]) (by kernel_rfl) (by simp) (AllReadyH.cons rfl (fun K hK => ?_) AllReadyH.nil)
        go_simp
        refine (HCC.out _).mono ?_
        rintro e wzbacd ⟨A, c, g, rfl, hown, hb⟩
        replace hcur := hcur.below hb
        replace hrz := hrz.below hb
        replace hF := hF.below hb
        replace hP := hP.below hb
        replace hG := hG.below hb
        replace ht := below_then ht hb ht.size
        clear hb
        refine hK.out _ _ (box1_of hcur) (fun hHeld => ?_)
        clear hK K
        try simp only [Act.put, List.getElem_toArray, List.getElem_cons_succ, List.getElem_cons_zero, List.setIfInBounds_toArray, List.set_cons_succ, List.set_cons_zero]
        refine wpAnyH_ready (rs := [10]) (by kernel_rfl) (by simp) (AllReadyH.cons rfl (fun K hK => ?_) AllReadyH.nil)
        have hp0 := hP.cells1
        have hpf := hP.open_ 0
        have hpl := hP.lt
        go_simp
        clear hp0 hpf hpl
        have hbw : w.heap.size ≤ wzb.heap.size := (by have := HLOa.out; omega)
        replace hcur := hcur.off (b := wzb.heap.size) (o := 0) (u := (.func (.func 175) #[] #[.pointer (some ⟨g3, 0, none⟩), .pointer (some ⟨g4, 0, none⟩)])) (whole_ne hcur hP (by decide))
        replace hrz := hrz.off (b := wzb.heap.size) (o := 0) (u := (.func (.func 175) #[] #[.pointer (some ⟨g3, 0, none⟩), .pointer (some ⟨g4, 0, none⟩)])) (whole_ne hrz hP (by decide))
        replace hF := calmFn_off' (b := wzb.heap.size) (o := 0) (u := (.func (.func 175) #[] #[.pointer (some ⟨g3, 0, none⟩), .pointer (some ⟨g4, 0, none⟩)])) hF hP (by decide) (by decide) (by decide)
        replace hown := own_off (b := wzb.heap.size) (o := 0) (u := (.func (.func 175) #[] #[.pointer (some ⟨g3, 0, none⟩), .pointer (some ⟨g4, 0, none⟩)])) hown hP (by decide)
        replace hG := hG.off (b := wzb.heap.size) (o := 0) (u := (.func (.func 175) #[] #[.pointer (some ⟨g3, 0, none⟩), .pointer (some ⟨g4, 0, none⟩)])) (whole_ne hG hP (by decide))
        replace ht := below_set (b := wzb.heap.size) (o := 0) (u := (.func (.func 175) #[] #[.pointer (some ⟨g3, 0, none⟩), .pointer (some ⟨g4, 0, none⟩)])) ht hbw
        replace hP := hP.set_ 0 (.func (.func 175) #[] #[.pointer (some ⟨g3, 0, none⟩), .pointer (some ⟨g4, 0, none⟩)])
        generalize World.setCell wzbacd ⟨wzb.heap.size, 0, none⟩ (.func (.func 175) #[] #[.pointer (some ⟨g3, 0, none⟩), .pointer (some ⟨g4, 0, none⟩)]) = wzbacds at hcur hrz hF hown hP hG ht ⊢
        clear hbw
        refine hK.out _ _ (box1_of hcur) (fun hHeld => ?_)
        clear hK K
        try simp only [Act.put, List.getElem_toArray, List.getElem_cons_succ, List.getElem_cons_zero, List.setIfInBounds_toArray, List.set_cons_succ, List.set_cons_zero]
        refine wpAnyH_ready (rs := [11]) (by kernel_rfl) (by simp) (AllReadyH.cons rfl (fun K hK => ?_) AllReadyH.nil)
        have hp0 := hG.cells1
        have hpf := hG.open_ 0
        have hpl := hG.lt
        go_simp
        clear hp0 hpf hpl
        have hbw : w.heap.size ≤ w0.heap.size := (by have := HLOb.out; omega)
        replace hcur := hcur.off (b := w0.heap.size) (o := 0) (u := (.slice A (groupsOf k q).length c)) (whole_ne hcur hG (by decide))
        replace hrz := hrz.off (b := w0.heap.size) (o := 0) (u := (.slice A (groupsOf k q).length c)) (whole_ne hrz hG (by decide))
        replace hF := calmFn_off' (b := w0.heap.size) (o := 0) (u := (.slice A (groupsOf k q).length c)) hF hG (by decide) (by decide) (by decide)
        replace hown := own_off (b := w0.heap.size) (o := 0) (u := (.slice A (groupsOf k q).length c)) hown hG (by decide)
        replace hP := hP.off (b := w0.heap.size) (o := 0) (u := (.slice A (groupsOf k q).length c)) (whole_ne hP hG (by decide))
        replace ht := below_set (b := w0.heap.size) (o := 0) (u := (.slice A (groupsOf k q).length c)) ht hbw
        replace hG := hG.set_ 0 (.slice A (groupsOf k q).length c)
        generalize World.setCell wzbacds ⟨w0.heap.size, 0, none⟩ (.slice A (groupsOf k q).length c) = wzbacdst at hcur hrz hF hown hP hG ht ⊢
        clear hbw
        refine hK.out _ _ (box1_of hcur) (fun hHeld => ?_)
        clear hK K
        try simp only [Act.put, List.getElem_toArray, List.getElem_cons_succ, List.getElem_cons_zero, List.setIfInBounds_toArray, List.set_cons_succ, List.set_cons_zero]
        refine wpAnyH_done (by kernel_rfl) ?_ _
        clear hHeld
        go_wp2_with fail
        go_meet
        exact ⟨w0.heap.size, wzb.heap.size, g1, g3, g4, g, A, c, rfl, rfl, ⟨hF, hP, hG, hown⟩, hcur, hrz, ht⟩
  case rest =>
    clear hcur hrz ht
    obtain ⟨gG, gC, g1, g3, g4, g, A, c, rfl, rfl, hR, hcur, hrz, ht⟩ := hcut
    obtain ⟨c0, c1, -, -⟩ := hcur.two
    have he := everybodyOver_any (2 * k) wc (by omega)
    rw [show ((2 * k : Nat) : Int) = 2 * (k : Int) by omega] at he
    have HR := Lib.hid hR
    have HZ := Lib.hid hrz
    have HT := Lib.hid ht
    have HE := Lib.hid he
    clear hR hrz ht hcur he
    go_wp2_with fail
    refine HE.out.mono ?_
    clear HE
    rintro e w5 ⟨rfl, hb⟩
    rw [HPT.out]
    have hR5 := HR.out.below hb
    have hZ5 := HZ.out.below hb
    have hT5 := below_then HT.out hb HT.out.size
    have hgz : w.heap.size + 1 < g ∨ (groupsOf k q).length = 0 ∨ True := .inr (.inr trivial)
    have N1 := Lib.hid hR5
    have N2 := Lib.hid hZ5
    have N4 := Lib.hid hT5
    clear hR5 hZ5 hT5 hb c0 c1 hgz
    unfold place9
    go_wp2_with (refine wpList_store_whole rfl 162 (.tmp 2) (.tmp 21) rfl (w.heap.size + 1) (riverCells k gG gC) rfl rfl 162 riverZero N2.out size_river rfl (river_one _ _ _) ?_; intro w7 hw7 ho7)
    refine bodyPost_ret (v := .agg (riverCells k gG gC)) (river_ret rfl hw7) rfl ?_
    have hne : ∀ {x : Nat} {ty : TypeId} {cs : Array Value}, Whole w5 x ty cs → ty ≠ 162 → x ≠ w.heap.size + 1 := fun h hn => whole_ne h N2.out hn
    refine ⟨gG, gC, g1, g3, g4, g, A, c, rfl, ⟨⟨ho7.whole N1.out.f.b1 (hne N1.out.f.b1 (by decide)), ho7.whole N1.out.f.b3 (hne N1.out.f.b3 (by decide)), ho7.whole N1.out.f.b4 (hne N1.out.f.b4 (by decide))⟩, ho7.whole N1.out.p (hne N1.out.p (by decide)), ho7.whole N1.out.gr (hne N1.out.gr (by decide)), ?_⟩, ho7.below N4.out (by omega)⟩
    exact own_only N1.out.own ho7 N2.out (by decide)
end Go.Proofs.Ytcikimjpjebflaa

namespace Go.Proofs.Ytcikimjpjebflaa
open Go.RowKit

/-- The rows in a place, of some groups. -/
def rowsAmong (k : Nat) (bs : List Bool) (t : Bool) (ls : List (List Int)) : List (List Int) := ls.filter (fun l => allAt bs t l && quiet k (fun i => (flipped bs l).getD i false))
theorem among_no {k j : Nat} {bs : List Bool} {t : Bool} {ls : List (List Int)} (hj : j < ls.length) (h : (allAt bs t ls[j] && quiet k (fun i => (flipped bs ls[j]).getD i false)) = false) : rowsAmong k bs t (ls.take (j + 1)) = rowsAmong k bs t (ls.take j) := by
  rw [List.take_succ_eq_append_getElem hj, rowsAmong, List.filter_append, rowsAmong]; simp only [List.filter_cons, h]; simp
theorem among_yes {k j : Nat} {bs : List Bool} {t : Bool} {ls : List (List Int)} (hj : j < ls.length) (h : (allAt bs t ls[j] && quiet k (fun i => (flipped bs ls[j]).getD i false)) = true) : rowsAmong k bs t (ls.take (j + 1)) = rowsAmong k bs t (ls.take j) ++ [ls[j]] := by
  rw [List.take_succ_eq_append_getElem hj, rowsAmong, List.filter_append, rowsAmong]; simp only [List.filter_cons, h]; simp
theorem among_len (k : Nat) (bs : List Bool) (t : Bool) (ls : List (List Int)) : (rowsAmong k bs t ls).length ≤ ls.length := List.length_filter_le _ _
/-- The rows of a company in a place. -/
def rowsIn (k q : Nat) (bs : List Bool) (t : Bool) : List (List Int) := rowsAmong k bs t (groupsOf k q)
theorem groups_up {k q : Nat} {l : List Int} (h : l ∈ groupsOf k q) : l ∈ upLists (2 * k) q := (List.mem_filter.1 h).1
theorem groups_small {k q : Nat} (hk : k ≤ 4) : (groupsOf k q).length ≤ 255 := Nat.le_trans (grp_len _ _) (upLists_small (by omega))

/-- What the closure's appending reads. -/
def MvS (g h : Nat) (f f' : Nat → Bool) (t : Bool) (w : World) : Prop := Row8 g f w ∧ Row8 h f' w ∧ w.cell? ⟨h, 8, none⟩ = some (.bool t)
theorem row8_cells {w : World} {g : Nat} {ty : TypeId} {f : Nat → Bool} (h : Whole w g ty (cells8 f)) : Row8 g f w := ⟨h.cell 0, h.cell 1, h.cell 2, h.cell 3, h.cell 4, h.cell 5, h.cell 6, h.cell 7⟩
theorem mv_of {w : World} {g h : Nat} {f f' : Nat → Bool} {t : Bool} {y z : TypeId} (h1 : Whole w g y (cells8 f)) (h2 : Whole w h z (place9 f' t)) : MvS g h f f' t w := ⟨row8_cells h1, row8_of h2, h2.cell 8⟩
theorem below_undrew {w w' : World} (h : Below (World.drew w).heap.size (World.drew w) w') : Below w.heap.size w w' := ⟨h.os, h.tape, h.output, h.size, h.block⟩
theorem fresh_undrew {w w' : World} {ty : TypeId} {A : Option Addr} {xs : List Value} (h : Fresh w' (World.drew w).heap.size w'.heap.size ty A xs) : Fresh w' w.heap.size w'.heap.size ty A xs := h
theorem Fresh.of_own' {w : World} {lo n c : Nat} {ty : TypeId} {A : Option Addr} {xs : List Value} (h : w.ownsRow lo ty 1 (.slice A n c) n xs) : Fresh w lo w.heap.size ty A xs := by
  obtain ⟨A', c', hv, hf⟩ := Fresh.of_own h (Nat.le_refl _)
  obtain ⟨rfl, -⟩ : A = A' ∧ c = c' := by simpa using hv
  exact hf

theorem whole_apart {w w' : World} {q : Nat} {ty : TypeId} {cs : Array Value} {row : Option Nat} (h : Whole w q ty cs) (hg : w.grownBy w' row) (hne : some q ≠ row) : Whole w' q ty cs := (hg.block q h.lt hne).trans h
theorem Spread.raise {w : World} {lo lo' : Nat} {A : Option Addr} {rs : List RowV} (h : Spread w lo A rs) (hl : lo' ≤ lo) : Spread w lo' A rs := by
  obtain ⟨ps, h2, h3, h4⟩ := h
  exact ⟨ps, h2, fun p hp => ⟨Nat.le_trans hl (h3 p hp).1, (h3 p hp).2⟩, h4⟩

def MovesPost (bs : List Bool) (t : Bool) (ls : List (List Int)) (w : World) (e : Ending) (w' : World) : Prop :=
  ∃ (A : Option Addr) (c : Nat) (rs : List RowV), e = .returned (.slice A rs.length c) ∧ rowNums rs = ls ∧ Moves w' w.heap.size A c bs t rs ∧ Below w.heap.size w w'

set_option maxHeartbeats 12800000 in
set_option maxRecDepth 100000 in
set_option linter.unusedSimpArgs false in
theorem rowsFn_any (k q gG gC g1 g3 g4 g : Nat) (A : Option Addr) (c : Nat) (bs : List Bool) (t : Bool) (w : World) (hk : k ≤ 4) (hbs : bs.length = 2 * k) (hF : RowsFn w k gG gC g1 g3 g4 g A c (groupsOf k q)) :
    Calls Try.prog 160 #[.agg (placeCells bs t), .pointer (some ⟨gG, 0, none⟩), .pointer (some ⟨gC, 0, none⟩)] w (MovesPost bs t (rowsIn k q bs t) w) := by
  obtain ⟨i0, hi, hz0, hz1, hz2⟩ := info_parts info_move
  have HI := Lib.hid hi
  have HZ0 := Lib.hid hz0
  have HZ1 := Lib.hid hz1
  have HZ2 := Lib.hid hz2
  have HBS := Lib.hid hbs
  have hgs := groups_small (q := q) hk
  have HUP : Hid (∀ l ∈ groupsOf k q, l ∈ upLists (2 * k) q) := fun l h => groups_up h
  have HIN : Hid (rowsAmong k bs t (groupsOf k q) = rowsIn k q bs t) := rfl
  generalize groupsOf k q = ls at hF hgs HUP HIN
  obtain ⟨f, hf⟩ : ∃ f : Nat → Bool, f = fun i => bs.getD i false := ⟨_, rfl⟩
  have HPL : Hid (placeCells bs t = place9 f t) := by show _ = _; rw [place_nine9, hf]
  rw [HPL.out]
  have H3 := Lib.hid (Whole.fresh w 83 (place9 f t))
  have HB := Lib.hid (below1 w (.cells (place9 f t) 83))
  have HF := Lib.hid hF
  have hF1 := hF.alloc (.cells (place9 f t) 83)
  have e0 := hF1.gr.cells1
  clear hi hz0 hz1 hz2 hbs hF hF1 hf
  unfold place9 at e0
  unfold place9
  go_enter Try.func160, Try.ntmps160
  go_wp2
  go_loopw [5, 11] (fun v i wr => ∃ (j : Nat) (T : Option Addr) (r : Nat) (rs : List RowV), j ≤ ls.length ∧ i = .int .i64 j ∧ v = .slice T rs.length r ∧ rowNums rs = rowsAmong k bs t (ls.take j) ∧ Moves wr (w.heap.size + 1) T r bs t rs ∧ Whole wr w.heap.size 83 (place9 f t) ∧ Below w.heap.size w wr) (fun _ i _ => ls.length - (intOf i).toNat)
  case atStart => exact ⟨0, none, 0, [], Nat.zero_le _, rfl, rfl, rfl, Moves.nil _ _ _ _, H3.out, HB.out⟩
  case round =>
    clear H3 HB e0
    obtain ⟨j, T, r, rs, hj, rfl, rfl, hrn, hM, h3, ht⟩ := hrel
    have HOL : Hid (∀ x, (Value.slice T rs.length r).ownBlock = some x → w.heap.size + 1 ≤ x ∧ x < wr.heap.size) := fun x hx => hM.1.lt x hx
    have hrl : rs.length ≤ 255 := by have h1 := congrArg List.length hrn; have h2 := among_len k bs t (ls.take j); rw [rowNums_len] at h1; rw [List.length_take] at h2; omega
    by_cases hlt : j < ls.length
    · have hd : decide ((j : Int) < (ls.length : Int)) = true := by simp; omega
      have hFr := HF.out.below ht
      obtain ⟨gs, rfl, hgl, a0, a1, a2, a3, a4, a5, a6, a7⟩ := crowds_row hFr.own rfl hlt
      have hst := up_steps (HUP.out _ (List.getElem_mem hlt))
      have hl8 := steps_len hst.1 hst.2.1
      have HST := Lib.hid hst.1
      have HOUT : Hid (∀ i, bs.length ≤ i → has ls[j] i = false) := fun i hi => has_out hst.1 (by have := HBS.out; omega)
      have HNO := fun h => Lib.hid (among_no (k := k) (bs := bs) (t := t) hlt h)
      have HYES := fun h => Lib.hid (among_yes (k := k) (bs := bs) (t := t) hlt h)
      have HRS := Lib.hid hrn
      have hwl := h3.lt
      have hw0 : w.heap.size + 1 ≤ wr.heap.size := hwl
      obtain ⟨p0, p1, p2, p3, p4, p5, p6, p7⟩ := row8_of h3
      have p8 : wr.cell? ⟨w.heap.size, 8, none⟩ = some (.bool t) := h3.cell 8
      obtain ⟨f', hf'⟩ : ∃ f' : Nat → Bool, f' = fun i => (flipped bs ls[j]).getD i false := ⟨_, rfl⟩
      have HPF : Hid (placeCells (flipped bs ls[j]) (!t) = place9 f' (!t)) := by show _ = _; rw [place_nine9, hf']
      have HMC : Hid (∀ E n c2, moveCells bs t ⟨E, n, c2, ls[j]⟩ = [.slice E n c2, .bool (f' 0), .bool (f' 1), .bool (f' 2), .bool (f' 3), .bool (f' 4), .bool (f' 5), .bool (f' 6), .bool (f' 7), .bool (!t)]) := fun E n c2 => by rw [moveCells_at, hf']; rfl
      have HLEN : Hid (∀ x : RowV, (rs ++ [x]).length = rs.length + 1) := fun x => by simp
      rw [← hf'] at HNO HYES
      have HM0 := Lib.hid hM
      have HT0 := Lib.hid ht
      have HFR := Lib.hid hFr
      have H30 := Lib.hid h3
      clear hrn hst hf' hM ht hFr h3
      cases ha : allAt bs t ls[j]
      · have HN := HNO (by rw [ha]; rfl)
        have HA := Lib.hid ha
        clear HNO HYES ha
        generalize ls[j] = l at a0 a1 a2 a3 a4 a5 a6 a7 HPF HOUT HST HA HMC hl8
        go_wp2_with fail
        have hx := cross_any bs l t (wr.alloc (.cells (cells8 (has l)) 81)) HOUT.out
        rw [HPL.out, HPF.out, crowd8] at hx
        refine hx.mono ?_
        clear hx
        rintro e w4 ⟨rfl, hb⟩
        have hz4 : wr.heap.size + 1 ≤ w4.heap.size := by have := hb.size; simpa using this
        have hba := below_then (below1 wr (.cells (cells8 (has l)) 81)) hb (by simp)
        have h3b := (H30.out.below hba).alloc (.cells (place9 f' (!t)) 83)
        have h7b := ((Whole.fresh wr 81 (cells8 (has l))).below hb).alloc (.cells (place9 f' (!t)) 83)
        have h8b := Whole.fresh w4 83 (place9 f' (!t))
        have hbb := hba.alloc hba.size (.cells (place9 f' (!t)) 83)
        clear hb hba a0 a1 a2 a3 a4 a5 a6 a7 p0 p1 p2 p3 p4 p5 p6 p7 p8 hwl hgl
        have hwl := h3b.lt
        obtain ⟨p0, p1, p2, p3, p4, p5, p6, p7⟩ := row8_of h3b
        have p8 := h3b.cell 8
        replace p8 : World.cell? (w4.alloc (.cells (place9 f' (!t)) 83)) ⟨w.heap.size, 8, none⟩ = some (.bool t) := p8
        obtain ⟨a0, a1, a2, a3, a4, a5, a6, a7⟩ := row8_cells h7b
        unfold place9 at p0 p1 p2 p3 p4 p5 p6 p7 p8 a0 a1 a2 a3 a4 a5 a6 a7
        unfold place9
        go_wp2_with fail
        have hh := holds_any (2 * k) bs l t (w4.alloc (.cells (place9 f' (!t)) 83)) HST.out (by omega)
        rw [HPL.out, crowd8] at hh
        refine hh.mono ?_
        clear hh
        rintro e w5 ⟨rfl, hb⟩
        rw [HA.out]
        have hbc := below_then hbb hb hbb.size
        have h3c := h3b.below hb
        have h7c := h7b.below hb
        have h8c := h8b.below hb
        have HM := Lib.hid (HM0.out.below hbc)
        have ht := Lib.hid (below_then HT0.out hbc HT0.out.size)
        have hFc := HFR.out.below hbc
        clear hb hbb hbc h3b h7b h8b p0 p1 p2 p3 p4 p5 p6 p7 p8 a0 a1 a2 a3 a4 a5 a6 a7 hwl
        go_wp2
        go_roundw
        case rel => exact ⟨j + 1, T, r, rs, by omega, by go_num, rfl, by rw [HN.out]; exact HRS.out, HM.out, h3c, ht.out⟩
        case measure => simp [intOf]; omega
      · cases hq : quiet k f'
        · have HN := HNO (by rw [ha, hq]; rfl)
          have HA := Lib.hid ha
          have HQ := Lib.hid hq
          clear HNO HYES ha hq
          generalize ls[j] = l at a0 a1 a2 a3 a4 a5 a6 a7 HPF HOUT HST HA HMC hl8
          go_wp2_with fail
          have hx := cross_any bs l t (wr.alloc (.cells (cells8 (has l)) 81)) HOUT.out
          rw [HPL.out, HPF.out, crowd8] at hx
          refine hx.mono ?_
          clear hx
          rintro e w4 ⟨rfl, hb⟩
          have hz4 : wr.heap.size + 1 ≤ w4.heap.size := by have := hb.size; simpa using this
          have hba := below_then (below1 wr (.cells (cells8 (has l)) 81)) hb (by simp)
          have h3b := (H30.out.below hba).alloc (.cells (place9 f' (!t)) 83)
          have h7b := ((Whole.fresh wr 81 (cells8 (has l))).below hb).alloc (.cells (place9 f' (!t)) 83)
          have h8b := Whole.fresh w4 83 (place9 f' (!t))
          have hbb := hba.alloc hba.size (.cells (place9 f' (!t)) 83)
          clear hb hba a0 a1 a2 a3 a4 a5 a6 a7 p0 p1 p2 p3 p4 p5 p6 p7 p8 hwl hgl
          have hwl := h3b.lt
          obtain ⟨p0, p1, p2, p3, p4, p5, p6, p7⟩ := row8_of h3b
          have p8 := h3b.cell 8
          replace p8 : World.cell? (w4.alloc (.cells (place9 f' (!t)) 83)) ⟨w.heap.size, 8, none⟩ = some (.bool t) := p8
          obtain ⟨a0, a1, a2, a3, a4, a5, a6, a7⟩ := row8_cells h7b
          unfold place9 at p0 p1 p2 p3 p4 p5 p6 p7 p8 a0 a1 a2 a3 a4 a5 a6 a7
          unfold place9
          go_wp2_with fail
          have hh := holds_any (2 * k) bs l t (w4.alloc (.cells (place9 f' (!t)) 83)) HST.out (by omega)
          rw [HPL.out, crowd8] at hh
          refine hh.mono ?_
          clear hh
          rintro e w5 ⟨rfl, hb⟩
          rw [HA.out]
          have hbc := below_then hbb hb hbb.size
          have h3c := h3b.below hb
          have h7c := h7b.below hb
          have h8c := h8b.below hb
          have HM := Lib.hid (HM0.out.below hbc)
          have ht := Lib.hid (below_then HT0.out hbc HT0.out.size)
          have hFc := HFR.out.below hbc
          clear hb hbb hbc h3b h7b h8b p0 p1 p2 p3 p4 p5 p6 p7 p8 a0 a1 a2 a3 a4 a5 a6 a7 hwl
          have c0 := hFc.p.cells1
          unfold calmFnV at c0
          obtain ⟨b0, b1, b2, b3, b4, b5, b6, b7⟩ := row8_of h8c
          have b8 : w5.cell? ⟨w4.heap.size, 8, none⟩ = some (.bool (!t)) := h8c.cell 8
          go_wp2_with fail
          refine (calmPlaceFn_any k g1 g3 g4 f' (!t) _ hk hFc.f).mono ?_
          rintro e W5 ⟨rfl, hb⟩
          rw [HQ.out]
          have hz5 : w4.heap.size + 1 ≤ W5.heap.size := by have h1 := hb.size; have h2 := h8c.lt; omega
          have HM' := Lib.hid (HM.out.below hb)
          have HT := Lib.hid (below_then ht.out hb ht.out.size)
          have H3 := Lib.hid (h3c.below hb)
          have H7 := Lib.hid (h7c.below hb)
          have H8 := Lib.hid (h8c.below hb)
          clear hb c0 b0 b1 b2 b3 b4 b5 b6 b7 b8 h3c h7c h8c HM ht hFc
          have HM := HM'
          clear HM'
          go_wp2
          go_roundw
          case rel => exact ⟨j + 1, T, r, rs, by omega, by go_num, rfl, by rw [HN.out]; exact HRS.out, HM.out, H3.out, HT.out⟩
          case measure => simp [intOf]; omega
        · have HN := HYES (by rw [ha, hq]; rfl)
          have HA := Lib.hid ha
          have HQ := Lib.hid hq
          have HRN : Hid (∀ E n c2, rowNums (rs ++ [⟨E, n, c2, ls[j]⟩]) = rowsAmong k bs t (ls.take (j + 1))) := fun E n c2 => by rw [HN.out, ← HRS.out]; simp [rowNums]
          clear HNO HYES ha hq HN
          generalize ls[j] = l at a0 a1 a2 a3 a4 a5 a6 a7 HPF HOUT HST HA HMC hl8 HRN
          go_wp2_with fail
          have hx := cross_any bs l t (wr.alloc (.cells (cells8 (has l)) 81)) HOUT.out
          rw [HPL.out, HPF.out, crowd8] at hx
          refine hx.mono ?_
          clear hx
          rintro e w4 ⟨rfl, hb⟩
          have hz4 : wr.heap.size + 1 ≤ w4.heap.size := by have := hb.size; simpa using this
          have hba := below_then (below1 wr (.cells (cells8 (has l)) 81)) hb (by simp)
          have h3b := (H30.out.below hba).alloc (.cells (place9 f' (!t)) 83)
          have h7b := ((Whole.fresh wr 81 (cells8 (has l))).below hb).alloc (.cells (place9 f' (!t)) 83)
          have h8b := Whole.fresh w4 83 (place9 f' (!t))
          have hbb := hba.alloc hba.size (.cells (place9 f' (!t)) 83)
          clear hb hba a0 a1 a2 a3 a4 a5 a6 a7 p0 p1 p2 p3 p4 p5 p6 p7 p8 hwl hgl
          have hwl := h3b.lt
          obtain ⟨p0, p1, p2, p3, p4, p5, p6, p7⟩ := row8_of h3b
          have p8 := h3b.cell 8
          replace p8 : World.cell? (w4.alloc (.cells (place9 f' (!t)) 83)) ⟨w.heap.size, 8, none⟩ = some (.bool t) := p8
          obtain ⟨a0, a1, a2, a3, a4, a5, a6, a7⟩ := row8_cells h7b
          unfold place9 at p0 p1 p2 p3 p4 p5 p6 p7 p8 a0 a1 a2 a3 a4 a5 a6 a7
          unfold place9
          go_wp2_with fail
          have hh := holds_any (2 * k) bs l t (w4.alloc (.cells (place9 f' (!t)) 83)) HST.out (by omega)
          rw [HPL.out, crowd8] at hh
          refine hh.mono ?_
          clear hh
          rintro e w5 ⟨rfl, hb⟩
          rw [HA.out]
          have hbc := below_then hbb hb hbb.size
          have h3c := h3b.below hb
          have h7c := h7b.below hb
          have h8c := h8b.below hb
          have HM := Lib.hid (HM0.out.below hbc)
          have ht := Lib.hid (below_then HT0.out hbc HT0.out.size)
          have hFc := HFR.out.below hbc
          clear hb hbb hbc h3b h7b h8b p0 p1 p2 p3 p4 p5 p6 p7 p8 a0 a1 a2 a3 a4 a5 a6 a7 hwl
          have c0 := hFc.p.cells1
          unfold calmFnV at c0
          obtain ⟨b0, b1, b2, b3, b4, b5, b6, b7⟩ := row8_of h8c
          have b8 : w5.cell? ⟨w4.heap.size, 8, none⟩ = some (.bool (!t)) := h8c.cell 8
          go_wp2_with fail
          refine (calmPlaceFn_any k g1 g3 g4 f' (!t) _ hk hFc.f).mono ?_
          rintro e W5 ⟨rfl, hb⟩
          rw [HQ.out]
          have hz5 : w4.heap.size + 1 ≤ W5.heap.size := by have h1 := hb.size; have h2 := h8c.lt; omega
          have HM' := Lib.hid (HM.out.below hb)
          have HT := Lib.hid (below_then ht.out hb ht.out.size)
          have H3 := Lib.hid (h3c.below hb)
          have H7 := Lib.hid (h7c.below hb)
          have H8 := Lib.hid (h8c.below hb)
          clear hb c0 b0 b1 b2 b3 b4 b5 b6 b7 b8 h3c h7c h8c HM ht hFc
          have HM := HM'
          clear HM'
          have HMAX := Lib.hid (show rs.length + 1 ≤ maxLen by unfold maxLen; omega)
          have HBYT := Lib.hid (show (rs.length + 1) * 40 ≤ 140737488355328 by omega)
          go_wp2_with fail
          refine wp_region_held_drew (S := (MvS wr.heap.size w4.heap.size (has l) f' (!t))) (by kernel_rfl) (mv_of H7.out.drew H8.out.drew) (fun hHeld => ?_)
          have h3 := H3.out
          refine wpAnyH_take (i := 0) (v := ?_) rfl (by kernel_rfl) (by kernel_rfl) (by kernel_rfl) (fun _ _ _ h => h) (Or.inl ⟨rfl, ?_⟩) hHeld ?_
          rotate_left
          · intro w' hS; obtain ⟨⟨a0, a1, a2, a3, a4, a5, a6, a7⟩, ⟨b0, b1, b2, b3, b4, b5, b6, b7⟩, b8⟩ := hS; go_simp <;> with_reducible rfl
          simp only [Act.put, List.getElem_toArray, List.getElem_cons_succ, List.getElem_cons_zero, List.setIfInBounds_toArray, List.set_cons_succ, List.set_cons_zero]
          refine wpAnyH_take (i := 1) (v := ?_) rfl (by kernel_rfl) (by kernel_rfl) (by kernel_rfl) (fun _ _ _ h => h) (Or.inl ⟨rfl, ?_⟩) hHeld ?_
          rotate_left
          · intro w' hS; obtain ⟨⟨a0, a1, a2, a3, a4, a5, a6, a7⟩, ⟨b0, b1, b2, b3, b4, b5, b6, b7⟩, b8⟩ := hS; go_simp <;> with_reducible rfl
          simp only [Act.put, List.getElem_toArray, List.getElem_cons_succ, List.getElem_cons_zero, List.setIfInBounds_toArray, List.set_cons_succ, List.set_cons_zero]
          refine wpAnyH_take (i := 3) (v := ?_) rfl (by kernel_rfl) (by kernel_rfl) (by kernel_rfl) (fun _ _ _ h => h) (Or.inl ⟨rfl, ?_⟩) hHeld ?_
          rotate_left
          · intro w' hS; obtain ⟨⟨a0, a1, a2, a3, a4, a5, a6, a7⟩, ⟨b0, b1, b2, b3, b4, b5, b6, b7⟩, b8⟩ := hS; go_simp <;> with_reducible rfl
          simp only [Act.put, List.getElem_toArray, List.getElem_cons_succ, List.getElem_cons_zero, List.setIfInBounds_toArray, List.set_cons_succ, List.set_cons_zero]
          refine wpAnyH_ready (rs := [2]) (by kernel_rfl) (by simp) (AllReadyH.cons rfl (fun K hK => ?_) AllReadyH.nil)
          go_simp
          have hls := list_any l (((2 * k : Nat) : Int) - 1) (World.drew W5) HST.out (by omega)
          rw [crowd8] at hls
          refine hls.mono ?_
          clear hls
          rintro e w6 ⟨E, c2, rfl, hown, hb⟩
          have h7' := H7.out.drew.below hb
          have h8' := H8.out.drew.below hb
          have K1 := Lib.hid hown
          have K2 := Lib.hid hb
          have K7 := Lib.hid h7'
          have K8 := Lib.hid h8'
          have K3 := Lib.hid (h3.drew.below hb)
          have KT := Lib.hid (below_then HT.out.drew hb HT.out.size)
          have KO := Lib.hid (ownsRow_below (HM.out.1) (below_then (Below.refl _ _).drew hb (Nat.le_refl _)))
          clear hown hb
          refine hK.out _ _ (mv_of h7' h8') (fun hHeld => ?_)
          clear hK K
          try simp only [Act.put, List.getElem_toArray, List.getElem_cons_succ, List.getElem_cons_zero, List.setIfInBounds_toArray, List.set_cons_succ, List.set_cons_zero]
          refine wpAnyH_take (i := 4) (v := ?_) rfl (by kernel_rfl) (by kernel_rfl) (by kernel_rfl) (fun _ _ _ h => h) (Or.inl ⟨rfl, ?_⟩) hHeld ?_
          rotate_left
          · intro w' hS; obtain ⟨⟨a0, a1, a2, a3, a4, a5, a6, a7⟩, ⟨b0, b1, b2, b3, b4, b5, b6, b7⟩, b8⟩ := hS; go_simp <;> with_reducible rfl
          simp only [Act.put, List.getElem_toArray, List.getElem_cons_succ, List.getElem_cons_zero, List.setIfInBounds_toArray, List.set_cons_succ, List.set_cons_zero]
          refine wpAnyH_ready (rs := [5]) (by kernel_rfl) (by simp) (AllReadyH.cons rfl (fun K hK => ?_) AllReadyH.nil)
          go_simp
          have HO6 := Lib.hid (KO.out.alloc (.cells #[.slice E l.length c2, .bool (f' 0), .bool (f' 1), .bool (f' 2), .bool (f' 3), .bool (f' 4), .bool (f' 5), .bool (f' 6), .bool (f' 7), .bool (!t)] 190))
          have h7'' := K7.out.alloc (.cells #[.slice E l.length c2, .bool (f' 0), .bool (f' 1), .bool (f' 2), .bool (f' 3), .bool (f' 4), .bool (f' 5), .bool (f' 6), .bool (f' 7), .bool (!t)] 190)
          have h8'' := K8.out.alloc (.cells #[.slice E l.length c2, .bool (f' 0), .bool (f' 1), .bool (f' 2), .bool (f' 3), .bool (f' 4), .bool (f' 5), .bool (f' 6), .bool (f' 7), .bool (!t)] 190)
          refine hK.out _ _ (mv_of h7'' h8'') (fun hHeld => ?_)
          clear hK K
          try simp only [Act.put, List.getElem_toArray, List.getElem_cons_succ, List.getElem_cons_zero, List.setIfInBounds_toArray, List.set_cons_succ, List.set_cons_zero]
          refine wpAnyH_ready (rs := [6]) (by kernel_rfl) (by simp) (AllReadyH.cons rfl (fun K hK => ?_) AllReadyH.nil)
          have HNEW := Lib.hid (cells_new w6 190 #[.slice E l.length c2, .bool (f' 0), .bool (f' 1), .bool (f' 2), .bool (f' 3), .bool (f' 4), .bool (f' 5), .bool (f' 6), .bool (f' 7), .bool (!t)])
          have hz6 : W5.heap.size ≤ w6.heap.size := by have := K2.out.size; simpa using this
          have HBASE := Lib.hid (show w.heap.size + 1 ≤ (w6.alloc (.cells #[.slice E l.length c2, .bool (f' 0), .bool (f' 1), .bool (f' 2), .bool (f' 3), .bool (f' 4), .bool (f' 5), .bool (f' 6), .bool (f' 7), .bool (!t)] 190)).heap.size by simp; omega)
          refine step_append_lies _ rfl (.tmp 26) (.tmp 31) 188 rfl (w.heap.size + 1) 190 i0 (.agg #[.slice none 0 0, .bool false, .bool false, .bool false, .bool false, .bool false, .bool false, .bool false, .bool false, .bool false]) 10 40 Try.underlying188 HI.out HZ0.out HZ1.out HZ2.out rfl (by decide) (.slice T rs.length r) rs.length (movesCells bs t rs) (by simp [Act.eval]) HO6.out ⟨w6.heap.size, 0, none⟩ 1 1 [.slice E l.length c2, .bool (f' 0), .bool (f' 1), .bool (f' 2), .bool (f' 3), .bool (f' 4), .bool (f' 5), .bool (f' 6), .bool (f' 7), .bool (!t)] (by simp [Act.eval]) rfl HNEW.out (by simp [Value.oneCell']) (by decide) HMAX.out HBYT.out HBASE.out (w6.heap.size + 1) (by simp) ?_
          intro g3 c3 w7 hown3 hg3 hat3 hlt3
          have hrr : ∀ x, (Value.slice T rs.length r).ownBlock = some x → w.heap.size + 1 ≤ x ∧ x < wr.heap.size := HOL.out
          have q7 := whole_apart h7'' hg3 (fun e => absurd (hrr _ e.symm).2 (by omega))
          have q8 := whole_apart h8'' hg3 (fun e => absurd (hrr _ e.symm).2 (by omega))
          have q3 := whole_grown (lo := w.heap.size + 1) (K3.out.alloc _) hg3 (fun x hx => (hrr x hx).1) (by omega)
          have hsp := Spread.push (r := ⟨E, l.length, c2, l⟩) HM.out.2 (fun q hq => by obtain ⟨a, ha, hb⟩ := slice_own hq; exact ⟨a, ha, hb, by have := (hrr q hq).2; omega⟩) (by omega) (below_undrew K2.out) (fresh_undrew (Fresh.of_own' K1.out)) rfl (by show l.length ≤ _; omega) hg3 hat3
          have hbt := Below.grown (KT.out.alloc KT.out.size _) hg3 (by have := KT.out.size; simp; omega) (fun x hx => by have := (hrr x hx).1; omega)
          have P1 := Lib.hid hsp
          have P2 := Lib.hid hown3
          have P3 := Lib.hid q3
          have P4 := Lib.hid hbt
          clear hsp hown3 hg3 hat3 hlt3 q3 hbt hrr
          refine hK.out _ _ (mv_of q7 q8) (fun hHeld => ?_)
          clear hK K
          try simp only [Act.put, List.getElem_toArray, List.getElem_cons_succ, List.getElem_cons_zero, List.setIfInBounds_toArray, List.set_cons_succ, List.set_cons_zero]
          refine wpAnyH_take (i := 7) (v := ?_) rfl (by kernel_rfl) (by kernel_rfl) (by kernel_rfl) (fun _ _ _ h => h) (Or.inl ⟨rfl, ?_⟩) hHeld ?_
          rotate_left
          · intro w' hS; obtain ⟨⟨a0, a1, a2, a3, a4, a5, a6, a7⟩, ⟨b0, b1, b2, b3, b4, b5, b6, b7⟩, b8⟩ := hS; go_simp <;> with_reducible rfl
          simp only [Act.put, List.getElem_toArray, List.getElem_cons_succ, List.getElem_cons_zero, List.setIfInBounds_toArray, List.set_cons_succ, List.set_cons_zero]
          refine wpAnyH_done (by kernel_rfl) ?_ _
          clear hHeld
          go_wp2
          go_roundw
          case rel => exact ⟨j + 1, some ⟨g3, 0, none⟩, c3, rs ++ [⟨E, l.length, c2, l⟩], by omega, by go_num, by rw [HLEN.out], by rw [HRN.out], ⟨by rw [HLEN.out, movesCells_snoc, HMC.out]; exact P2.out, P1.out⟩, P3.out, P4.out⟩
          case measure => simp [intOf]; omega
    · obtain rfl : j = ls.length := by omega
      have hd : decide ((ls.length : Int) < (ls.length : Int)) = false := by simp
      rw [List.take_length] at hrn
      have HR := Lib.hid (hrn.trans HIN.out)
      have HM := Lib.hid hM
      have HT := Lib.hid ht
      clear hrn hM ht
      go_wp2
      go_ret
      exact ⟨T, r, rs, rfl, HR.out, ⟨own_lower HM.out.1 (by omega), Spread.raise HM.out.2 (by omega)⟩, HT.out⟩
end Go.Proofs.Ytcikimjpjebflaa

namespace Go.Proofs.Ytcikimjpjebflaa
open Go.RowKit

set_option maxHeartbeats 400000 in
theorem equalI_any (A B : Option Addr) (n m c d : Nat) (xs ys : List Int) (w : World) (hA : Holds w A (nums xs)) (hB : Holds w B (nums ys)) (hx : xs.length = n) (hy : ys.length = m)
    (hn : n ≤ 9223372036854775807) (hm : m ≤ 9223372036854775807) :
    Calls Try.prog 173 #[.slice A n c, .slice B m d] w fun e w' => e = .returned (.bool (sameInts xs ys)) ∧ ∃ k, w' = w.drewN k := by
  subst hx hy
  by_cases hl : xs.length = ys.length
  · have hl' : ((xs.length : Int) != (ys.length : Int)) = false := by simp [hl]
    have HL := Lib.hid hl
    clear hl
    go_enter Try.func173, Try.ntmps173
    go_wp2
    go_loopw [13] (fun i wr => ∃ k q : Nat, k ≤ xs.length ∧ i = .int .i64 k ∧ wr = w.drewN q ∧ xs.take k = ys.take k) (fun i _ => xs.length - (intOf i).toNat)
    case atStart => exact ⟨0, 0, Nat.zero_le _, rfl, rfl, rfl⟩
    case round =>
      obtain ⟨k, q, hk, rfl, rfl, ht⟩ := hrel
      have HT := Lib.hid ht
      clear ht
      by_cases hlt : k < xs.length
      · have hlt' : k < ys.length := by have := HL.out; omega
        obtain ⟨b, o, rfl, hb, hc⟩ := hA.look (k := k) (by simpa [nums] using hlt)
        obtain ⟨b', o', rfl, hb', hc'⟩ := hB.look (k := k) (by simpa [nums] using hlt')
        simp only [nums, List.getElem_map] at hc hc'
        by_cases he : xs[k] = ys[k]
        · have hne : (xs[k] != ys[k]) = false := by simp [he]
          have HE := Lib.hid he
          clear he
          go_wp2
          go_quiet (fail)
          go_wp2
          go_roundw
          case rel => exact ⟨k + 1, _, by omega, by go_num, rfl, take_next hlt hlt' HT.out HE.out⟩
          case measure => simp [intOf]; omega
        · have hne : (xs[k] != ys[k]) = true := by simp [he]
          have HN := Lib.hid (sameInts_no (fun h : xs = ys => he (by subst h; rfl)))
          clear he
          go_wp2
          go_quiet (fail)
          go_wp2
          go_ret
          exact ⟨by rw [HN.out]; rfl, q + _, World.drewN_drewN _ _ _⟩
      · have h1 := HT.out
        rw [List.take_of_length_le (by omega), List.take_of_length_le (by have := HL.out; omega)] at h1
        have HN := Lib.hid (sameInts_yes h1)
        clear h1
        go_wp2
        go_ret
        exact ⟨by rw [HN.out]; rfl, _, rfl⟩
  · have hl' : ((xs.length : Int) != (ys.length : Int)) = true := by simp; omega
    have HN := Lib.hid (sameInts_no (fun h : xs = ys => hl (by rw [h])))
    clear hl
    go_enter Try.func173, Try.ntmps173
    go_wp2
    go_ret
    exact ⟨by rw [HN.out]; rfl, 0, rfl⟩

theorem below_drewN {w : World} (k : Nat) : Below w.heap.size w (w.drewN k) := below_draws (Below.refl _ _) k

/-- The ten cells of a move in a list of moves. -/
theorem moves_row {w : World} {lo c : Nat} {A : Option Addr} {bs : List Bool} {t : Bool} {rs : List RowV} (h : Moves w lo A c bs t rs) {i : Nat} (hi : i < rs.length) :
    ∃ g, A = some ⟨g, 0, none⟩ ∧ g < w.heap.size ∧ w.cell? ⟨g, i * 10, none⟩ = some rs[i].val ∧ w.cell? ⟨g, i * 10 + 1, none⟩ = some (.bool ((flipped bs rs[i].xs).getD 0 false)) ∧ w.cell? ⟨g, i * 10 + 2, none⟩ = some (.bool ((flipped bs rs[i].xs).getD 1 false)) ∧ w.cell? ⟨g, i * 10 + 3, none⟩ = some (.bool ((flipped bs rs[i].xs).getD 2 false)) ∧ w.cell? ⟨g, i * 10 + 4, none⟩ = some (.bool ((flipped bs rs[i].xs).getD 3 false)) ∧ w.cell? ⟨g, i * 10 + 5, none⟩ = some (.bool ((flipped bs rs[i].xs).getD 4 false)) ∧ w.cell? ⟨g, i * 10 + 6, none⟩ = some (.bool ((flipped bs rs[i].xs).getD 5 false)) ∧ w.cell? ⟨g, i * 10 + 7, none⟩ = some (.bool ((flipped bs rs[i].xs).getD 6 false)) ∧ w.cell? ⟨g, i * 10 + 8, none⟩ = some (.bool ((flipped bs rs[i].xs).getD 7 false)) ∧ w.cell? ⟨g, i * 10 + 9, none⟩ = some (.bool (!t)) := by
  have hx := h.1
  obtain ⟨-, ⟨-, h0⟩ | ⟨g, cap, cur, hv, -, hh, -⟩⟩ := hx
  · omega
  · obtain ⟨rfl, rfl⟩ : A = some ⟨g, 0, none⟩ ∧ c = cap := by simpa using hv
    have hg : g < w.heap.size := (Array.getElem?_eq_some_iff.1 hh).1
    have hc : ∀ j, j < 10 → w.cell? ⟨g, i * 10 + j, none⟩ = (moveCells bs t rs[i])[j]? := fun j hj => (h.1.cellAt (i * 10 + j) (by omega)).trans (movesCells_get bs t rs i j hi hj)
    exact ⟨g, rfl, hg, hc 0 (by omega), hc 1 (by omega), hc 2 (by omega), hc 3 (by omega), hc 4 (by omega), hc 5 (by omega), hc 6 (by omega), hc 7 (by omega), hc 8 (by omega), hc 9 (by omega)⟩

/-- What stateBehind hands back. -/
def BehindPost (k q : Nat) (bs : List Bool) (t : Bool) (l : List Int) (w : World) (e : Ending) (w' : World) : Prop :=
  ((l ∈ rowsIn k q bs t ∧ e = .returned (.tuple #[.agg (placeCells (flipped bs l) (!t)), .bool true])) ∨ (l ∉ rowsIn k q bs t ∧ e = .returned (.tuple #[.agg (placeCells bs t), .bool false]))) ∧ Below w.heap.size w w'
theorem river_cell {w : World} {g k gG gC : Nat} {ty : TypeId} (h : Whole w g ty (riverCells k gG gC)) : w.cell? ⟨g, 18, none⟩ = some (.func (.func 160) #[] #[.pointer (some ⟨gG, 0, none⟩), .pointer (some ⟨gC, 0, none⟩)]) := h.cell 18

set_option maxHeartbeats 12800000 in
set_option maxRecDepth 100000 in
theorem stateBehind_any (k q gG gC g1 g3 g4 g : Nat) (A D : Option Addr) (c n d : Nat) (bs : List Bool) (t : Bool) (l : List Int) (w : World) (hk : k ≤ 4) (hbs : bs.length = 2 * k) (hF : RowsFn w k gG gC g1 g3 g4 g A c (groupsOf k q)) (hD : Holds w D (nums l)) (hl : l.length = n) (hn : n ≤ 9223372036854775807) :
    Calls Try.prog 157 #[.agg (riverCells k gG gC), .agg (placeCells bs t), .slice D n d] w (BehindPost k q bs t l w) := by
  have HL := Lib.hid hl
  have HBS := Lib.hid hbs
  obtain ⟨f, hf⟩ : ∃ f : Nat → Bool, f = fun i => bs.getD i false := ⟨_, rfl⟩
  have HPL : Hid (placeCells bs t = place9 f t) := by show _ = _; rw [place_nine9, hf]
  have hr := ((Whole.fresh w 162 (riverCells k gG gC)).alloc (.cells (place9 f t) 83)).alloc (.cells (place9 (fun _ => false) false) 83)
  have hp := (Whole.fresh (w.alloc (.cells (riverCells k gG gC) 162)) 83 (place9 f t)).alloc (.cells (place9 (fun _ => false) false) 83)
  have hz := Whole.fresh ((w.alloc (.cells (riverCells k gG gC) 162)).alloc (.cells (place9 f t) 83)) 83 (place9 (fun _ => false) false)
  simp only [World.size_alloc] at hp hz
  have ht := below3 w (.cells (riverCells k gG gC) 162) (.cells (place9 f t) 83) (.cells (place9 (fun _ => false) false) 83)
  have hF1 := ((hF.alloc (.cells (riverCells k gG gC) 162)).alloc (.cells (place9 f t) 83)).alloc (.cells (place9 (fun _ => false) false) 83)
  rw [HPL.out]
  have e18 := river_cell hr
  have HP := Lib.hid hp
  have HZ := Lib.hid hz
  have HT := Lib.hid ht
  have HF := Lib.hid hF1
  clear hl hbs hf hF hF1 hr hp hz ht
  unfold place9 at HP HZ HT HF e18
  unfold place9
  unfold riverCells rowsFnV at HP HZ HT HF e18
  unfold riverCells rowsFnV
  go_enter Try.func157, Try.ntmps157
  go_wp2_with fail
  have hrf := rowsFn_any k q gG gC g1 g3 g4 g A c bs t _ hk HBS.out HF.out
  rw [HPL.out] at hrf
  unfold place9 at hrf
  refine hrf.mono ?_
  clear hrf
  rintro e w1 ⟨A1, c1, rs, rfl, hrn, hM, hb⟩
  have HP1 := Lib.hid (HP.out.below hb)
  have HZ1 := Lib.hid (HZ.out.below hb)
  have HT1 := Lib.hid (below_then HT.out hb HT.out.size)
  have HM := Lib.hid hM
  have HRN := Lib.hid hrn
  have hrl : rs.length ≤ 255 := by have h1 := congrArg List.length hrn; have h2 := among_len k bs t (groupsOf k q); have h3 := groups_small (q := q) hk; rw [rowNums_len] at h1; rw [rowsIn] at h1; omega
  clear HP HZ HT HF e18 hb hM hrn
  go_wp2
  go_loopw [15] (fun i wr => ∃ j : Nat, j ≤ rs.length ∧ i = .int .i64 j ∧ Below w1.heap.size w1 wr ∧ ∀ i (hi : i < rs.length), i < j → rs[i].xs ≠ l) (fun i _ => rs.length - (intOf i).toNat)
  case atStart => exact ⟨0, Nat.zero_le _, rfl, Below.refl _ _, fun i _ h => absurd h (by omega)⟩
  case round =>
    obtain ⟨j, hj, rfl, hb, hno⟩ := hrel
    have HNO := Lib.hid hno
    have hT := below_then HT1.out hb HT1.out.size
    have hZ := HZ1.out.below hb
    have hP := HP1.out.below hb
    clear hno
    obtain ⟨z0, z1, z2, z3, z4, z5, z6, z7⟩ := row8_of (f := fun _ => false) (t := false) hZ
    have z8 : wr.cell? ⟨w.heap.size + 1 + 1, 8, none⟩ = some (.bool false) := hZ.cell 8
    obtain ⟨y0, y1, y2, y3, y4, y5, y6, y7, y8⟩ := place_open hZ
    have hzl := hZ.lt
    by_cases hlt : j < rs.length
    · have hd : decide ((j : Int) < (rs.length : Int)) = true := by simp; omega
      have hMr := HM.out.below hb
      obtain ⟨gm, rfl, hgl, a0, a1, a2, a3, a4, a5, a6, a7, a8, a9⟩ := moves_row hMr hlt
      have hok := hMr.2.ok rs[j] (List.getElem_mem hlt)
      have hmem : rs[j].xs ∈ rowNums rs := List.mem_map.2 ⟨rs[j], List.getElem_mem hlt, rfl⟩
      rw [HRN.out] at hmem
      have HMEM := Lib.hid hmem
      have HSTEP : Hid (rs[j].xs ≠ l → ∀ i (hi : i < rs.length), i < j + 1 → rs[i].xs ≠ l) := fun hne i hi hij => by
        rcases Nat.lt_succ_iff_lt_or_eq.1 hij with h | rfl
        · exact HNO.out i hi h
        · exact hne
      obtain ⟨f', hf'⟩ : ∃ f' : Nat → Bool, f' = fun i => (flipped bs rs[j].xs).getD i false := ⟨_, rfl⟩
      have HPF : Hid (placeCells (flipped bs rs[j].xs) (!t) = place9 f' (!t)) := by show _ = _; rw [place_nine9, hf']
      replace a1 : wr.cell? ⟨gm, j * 10 + 1, none⟩ = some (.bool (f' 0)) := by rw [a1, hf']
      replace a2 : wr.cell? ⟨gm, j * 10 + 2, none⟩ = some (.bool (f' 1)) := by rw [a2, hf']
      replace a3 : wr.cell? ⟨gm, j * 10 + 3, none⟩ = some (.bool (f' 2)) := by rw [a3, hf']
      replace a4 : wr.cell? ⟨gm, j * 10 + 4, none⟩ = some (.bool (f' 3)) := by rw [a4, hf']
      replace a5 : wr.cell? ⟨gm, j * 10 + 5, none⟩ = some (.bool (f' 4)) := by rw [a5, hf']
      replace a6 : wr.cell? ⟨gm, j * 10 + 6, none⟩ = some (.bool (f' 5)) := by rw [a6, hf']
      replace a7 : wr.cell? ⟨gm, j * 10 + 7, none⟩ = some (.bool (f' 6)) := by rw [a7, hf']
      replace a8 : wr.cell? ⟨gm, j * 10 + 8, none⟩ = some (.bool (f' 7)) := by rw [a8, hf']
      clear hmem hf' hMr
      generalize rs[j] = r at a0 hok HMEM HSTEP HPF
      obtain ⟨rA, rn, rc, rx⟩ := r
      obtain ⟨hk1, hk2, hk3⟩ := hok
      simp only at hk1 hk2 hk3 HMEM HSTEP HPF
      unfold RowV.val at a0
      simp only at a0
      have HK1 := Lib.hid hk1
      have HK2 := Lib.hid hk2
      have HDR := Lib.hid (hD.below hT)
      have HBW := Lib.hid hb
      have HTW := Lib.hid hT
      clear hk1 hk2 hb hT
      go_wp2_with fail
      refine (equalI_any rA D rn n rc d rx l _ (HK1.out.alloc _) (HDR.out.alloc _) HK2.out HL.out hk3 hn).mono ?_
      rintro e w2 ⟨rfl, kk, rfl⟩
      by_cases he : rx = l
      · subst he
        rw [sameInts_yes rfl]
        have HT2 := Lib.hid (below_draws (HTW.out.alloc HTW.out.size (.cells #[.slice rA rn rc, .bool (f' 0), .bool (f' 1), .bool (f' 2), .bool (f' 3), .bool (f' 4), .bool (f' 5), .bool (f' 6), .bool (f' 7), .bool (!t)] 190)) kk)
        have hZ2 : Whole (World.drewN (wr.alloc (.cells #[.slice rA rn rc, .bool (f' 0), .bool (f' 1), .bool (f' 2), .bool (f' 3), .bool (f' 4), .bool (f' 5), .bool (f' 6), .bool (f' 7), .bool (!t)] 190)) kk) (w.heap.size + 1 + 1) 83 (place9 (fun _ => false) false) := hZ.alloc _
        clear HK1 HK2 a0 a1 a2 a3 a4 a5 a6 a7 a8 a9 hP hZ z0 z1 z2 z3 z4 z5 z6 z7 z8 y0 y1 y2 y3 y4 y5 y6 y7 y8
        obtain ⟨z0, z1, z2, z3, z4, z5, z6, z7⟩ := row8_of hZ2
        have z8 := hZ2.cell 8
        replace z8 : World.cell? (World.drewN (wr.alloc (.cells #[.slice rA rn rc, .bool (f' 0), .bool (f' 1), .bool (f' 2), .bool (f' 3), .bool (f' 4), .bool (f' 5), .bool (f' 6), .bool (f' 7), .bool (!t)] 190)) kk) ⟨w.heap.size + 1 + 1, 8, none⟩ = some (.bool false) := z8
        obtain ⟨y0, y1, y2, y3, y4, y5, y6, y7, y8⟩ := place_open hZ2
        go_wp2
        refine bodyPost_ret (v := .tuple #[.agg (place9 f' (!t)), .bool true]) (by simp [results, Try.results157, go_sem, z0, z1, z2, z3, z4, z5, z6, z7, z8, place9]) rfl ⟨.inl ⟨HMEM.out, by rw [HPF.out]⟩, ?_⟩
        exact set_place HT2.out (by omega)
      · rw [sameInts_no he]
        have HST := Lib.hid (HSTEP.out he)
        have HB2 := Lib.hid (below_draws (HBW.out.alloc HBW.out.size (.cells #[.slice rA rn rc, .bool (f' 0), .bool (f' 1), .bool (f' 2), .bool (f' 3), .bool (f' 4), .bool (f' 5), .bool (f' 6), .bool (f' 7), .bool (!t)] 190)) kk)
        clear HK1 HK2 a0 a1 a2 a3 a4 a5 a6 a7 a8 a9 hP hZ
        go_wp2
        go_roundw
        case rel => exact ⟨j + 1, by omega, by go_num, HB2.out, HST.out⟩
        case measure => simp [intOf]; omega
    · obtain rfl : j = rs.length := by omega
      have hd : decide ((rs.length : Int) < (rs.length : Int)) = false := by simp
      have HNI : Hid (l ∉ rowsIn k q bs t) := fun h => by
        rw [← HRN.out] at h
        obtain ⟨r, hr, he⟩ := List.mem_map.1 h
        obtain ⟨i, hi, rfl⟩ := List.getElem_of_mem hr
        exact HNO.out i hi hi he
      obtain ⟨p0, p1, p2, p3, p4, p5, p6, p7⟩ := row8_of (f := f) (t := t) hP
      have p8 : wr.cell? ⟨w.heap.size + 1, 8, none⟩ = some (.bool t) := hP.cell 8
      have HTW := Lib.hid hT
      clear hP hZ hT hb
      go_wp2
      refine bodyPost_ret (v := .tuple #[.agg (place9 f t), .bool false]) (by simp [results, Try.results157, go_sem, z0, z1, z2, z3, z4, z5, z6, z7, z8, place9]) rfl ⟨.inr ⟨HNI.out, by rw [HPL.out]⟩, ?_⟩
      exact set_place HTW.out (by omega)
end Go.Proofs.Ytcikimjpjebflaa

namespace Go.Proofs.Ytcikimjpjebflaa
open Go.RowKit

/-- The first k bits that are set. -/
def listTo (g k : Nat) : List Int := ((List.range k).filter (fun i => bitAt g i)).map Int.ofNat
theorem listTo_yes {g k : Nat} (h : bitAt g k = true) : listTo g (k + 1) = listTo g k ++ [(k : Int)] := by
  simp only [listTo, List.range_succ, List.filter_append, List.map_append, List.filter_cons, h]; rfl
theorem listTo_no {g k : Nat} (h : bitAt g k = false) : listTo g (k + 1) = listTo g k := by
  simp only [listTo, List.range_succ, List.filter_append, List.map_append, List.filter_cons, h]; simp
theorem listTo_len (g k : Nat) : (listTo g k).length ≤ k := by
  have := List.length_filter_le (fun i => bitAt g i) (List.range k)
  simpa [listTo] using this
def listOf (g : Nat) : List Int := listTo g 8
theorem bit_high {g k i : Nat} (h : g / 2 ^ k = 0) (hi : k ≤ i) : bitAt g i = false := by
  rw [bitAt_def]
  have h1 : g < 2 ^ k := by
    rcases Nat.div_eq_zero_iff.1 h with h | h
    · exact absurd h (by have := Nat.two_pow_pos k; omega)
    · exact h
  have h2 : 2 ^ k ≤ 2 ^ i := Nat.pow_le_pow_right (by omega) hi
  rw [Nat.div_eq_of_lt (by omega)]
  rfl
theorem listTo_all {g k : Nat} (h : g / 2 ^ k = 0) : ∀ j, k ≤ j → listTo g j = listTo g k
  | 0, hj => by have : k = 0 := by omega
                subst this; rfl
  | j + 1, hj => by
    by_cases hk : k = j + 1
    · subst hk; rfl
    · rw [listTo_no (bit_high h (by omega)), listTo_all h j (by omega)]
theorem testk (m k : Nat) : (((m : Int) / 2 ^ k).tmod 2 == 1) = bitAt m k := by
  rw [shr_nat, Int.tmod_eq_emod_of_nonneg (Int.natCast_nonneg _), bitAt_def]
  generalize m / 2 ^ k = x
  by_cases h : x % 2 = 1
  · have : ((x : Int) % 2) = 1 := by omega
    simp [h, this]
  · have : ((x : Int) % 2) ≠ 1 := by omega
    simp [h, this]

set_option maxHeartbeats 1600000 in
theorem cuList_any (g : Nat) (w : World) (hg : g < 256) :
    Calls Try.prog 96 #[.int .i64 g] w (OwnPost (listOf g) w) := by
  obtain ⟨i0, hi, hz0, hz1, hz2⟩ := info_parts info_int
  have HI := Lib.hid hi
  have HZ0 := Lib.hid hz0
  have HZ1 := Lib.hid hz1
  have HZ2 := Lib.hid hz2
  clear hi hz0 hz1 hz2
  go_enter Try.func96, Try.ntmps96
  go_wp2
  go_loopw [3, 4] (fun v i wr => ∃ (k : Nat) (E : Option Addr) (r : Nat), k ≤ 8 ∧ i = .int .i64 k ∧ v = .slice E (listTo g k).length r ∧ wr.ownsRow w.heap.size 3 1 (.slice E (listTo g k).length r) (listTo g k).length (nums (listTo g k)) ∧ Below w.heap.size w wr) (fun _ i _ => 8 - (intOf i).toNat)
  case atStart => exact ⟨0, none, 0, Nat.zero_le _, rfl, rfl, World.ownsRow_nil _ _ _ _, Below.refl _ _⟩
  case round =>
    obtain ⟨k, E, r, hk, rfl, rfl, hown, hb⟩ := hrel
    have hhl := listTo_len g k
    have hs2 : w.heap.size ≤ wr.heap.size := hb.size
    by_cases hgt : 0 < g / 2 ^ k
    · have hd : decide ((0 : Int) < (g : Int) / 2 ^ k) = true := by rw [shr_nat]; exact decide_eq_true (Int.natCast_pos.2 hgt)
      have hk8 : k < 8 := by
        by_cases h8 : k < 8
        · exact h8
        · have : k = 8 := by omega
          subst this
          have : g / 2 ^ 8 = 0 := Nat.div_eq_of_lt (by omega)
          omega
      have htk := testk g k
      have HOWN := Lib.hid hown
      have HB := Lib.hid hb
      clear hown hb hgt
      cases hx : bitAt g k
      · rw [hx] at htk
        have HS := Lib.hid (listTo_no hx)
        clear hx
        go_wp2
        go_roundw
        case rel => exact ⟨k + 1, E, r, by omega, by go_num, by rw [HS.out], by rw [HS.out]; exact HOWN.out, HB.out⟩
        case measure => simp [intOf]; omega
      · rw [hx] at htk
        have HS := Lib.hid (listTo_yes hx)
        have HLEN : Hid ((listTo g (k + 1)).length = (listTo g k).length + 1) := by show _ = _; rw [HS.out]; simp
        clear hx
        have HOW := Lib.hid (HOWN.out.alloc (.cells #[.int .i64 k] 3))
        have HBB := Lib.hid (HB.out.alloc hs2 (.cells #[.int .i64 k] 3))
        have HBASE := Lib.hid (show w.heap.size ≤ (wr.alloc (.cells #[.int .i64 k] 3)).heap.size by simp; omega)
        have HMAX := Lib.hid (show (listTo g k).length + 1 ≤ maxLen by unfold maxLen; omega)
        have HBYT := Lib.hid (show ((listTo g k).length + 1) * 8 ≤ 140737488355328 by omega)
        go_wp2_with (at_builtin; refine wpList_append_own _ rfl (.tmp 16) (.tmp 18) 22 rfl w.heap.size 3 i0 (.int .i64 0) 1 8 Try.underlying22 HI.out HZ0.out HZ1.out HZ2.out rfl (by decide) (.slice E (listTo g k).length r) (listTo g k).length (nums (listTo g k)) rfl HOW.out ⟨wr.heap.size, 0, none⟩ 1 1 [.int .i64 k] rfl rfl (cell_one_new _ _ _) (by simp [Value.oneCell']) HMAX.out HBYT.out HBASE.out ?_; intro v' w1 hown1 hg1 _; obtain ⟨D', q', hv', -⟩ := Fresh.of_own hown1 (Nat.le_refl _); rw [hv'] at hown1 ⊢; clear hv')
        have HBN := Lib.hid (HBB.out.grown hg1 HBASE.out (fun kk e => (HOW.out.lt _ e).1))
        have HON := Lib.hid hown1
        clear hg1 hown1
        go_roundw
        case rel => exact ⟨k + 1, D', q', by omega, by go_num, by rw [HLEN.out], by rw [HLEN.out, HS.out, show nums (listTo g k ++ [(k : Int)]) = nums (listTo g k) ++ [.int .i64 k] by simp [nums]]; exact HON.out, HBN.out⟩
        case measure => simp [intOf]; omega
    · have h0 : g / 2 ^ k = 0 := Nat.eq_zero_of_not_pos hgt
      have hd : decide ((0 : Int) < (g : Int) / 2 ^ k) = false := by rw [shr_nat, h0]; rfl
      have HA := Lib.hid (listTo_all h0 8 hk)
      have HO := Lib.hid hown
      have HB := Lib.hid hb
      clear hown hb hgt h0
      go_wp2
      go_ret
      refine ⟨E, r, by rw [listOf, HA.out]; rfl, ?_, HB.out⟩
      rw [listOf, HA.out]
      exact HO.out
end Go.Proofs.Ytcikimjpjebflaa
