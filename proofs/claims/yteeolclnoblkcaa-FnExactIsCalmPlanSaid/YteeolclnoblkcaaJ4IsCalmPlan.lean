/-
  What is proved: the contract of the program's river of a company. Conditions: there is a company.
  What is proved: the contract of the program's closure that tells the rows in a place. Conditions: at most four couples.
  What is proved: contracts of slices.Equal of numbers and of the program's state behind a row. Conditions: lists are read as they lie; at most four couples.
  What is proved: the contract of the model's list of a group told by bits. Conditions: eight bits.
  What is proved: contracts of the model's tests of a row, told by bits and told as a list. Conditions: at most four couples.
-/
import Derived.Deep.DeepCutAuto
import Derived.Deep.RegionHeld3
import Derived.Test.YteeolclnoblkcaaJ3IsCalmPlan
namespace Go.Proofs.Yteeolclnoblkcaa
open Go.RowKit

theorem fresh_of {w : World} {g : Nat} {t : TypeId} {cs : Array Value} (_h : Whole w g t cs) (ty : TypeId) (c : Array Value) : Whole (w.alloc (.cells c ty)) w.heap.size ty c := Whole.fresh w ty c
/-- Two blocks of different element types are different. -/
theorem whole_ne {w : World} {g h : Nat} {t u : TypeId} {a b : Array Value} (h1 : Whole w g t a) (h2 : Whole w h u b) (hn : t ≠ u) : g ≠ h := by
  rintro rfl
  have e : some (Obj.cells a t (0, 0)) = some (Obj.cells b u (0, 0)) := h1.symm.trans h2
  simp at e
  exact hn e.2
theorem calmFn_off {w : World} {k g1 g3 g4 b : Nat} {u : Value} {cs : Array Value} (h : CalmFn w k g1 g3 g4) (hb : Whole w b 83 cs) : CalmFn (w.setCell ⟨b, 0, none⟩ u) k g1 g3 g4 :=
  ⟨h.b1.off (whole_ne h.b1 hb (by decide)), h.b3.off (whole_ne h.b3 hb (by decide)), h.b4.off (whole_ne h.b4 hb (by decide))⟩

/-- A river's cells before it is told. -/
def riverZero : Array Value := #[.bool false, .bool false, .bool false, .bool false, .bool false, .bool false, .bool false, .bool false, .bool false, .bool false, .bool false, .bool false, .bool false, .bool false, .bool false, .bool false, .bool false, .bool false, Value.nilFunc]
/-- What stands behind the first statement. -/
def RivCut (w : World) (k : Nat) (s : Int) (s3 s4 : Value) (wx : World) : Prop :=
  ∃ g0 g1 g3 g4 gC : Nat, s3 = groupFnV g0 ∧ s4 = .pointer (some ⟨gC, 0, none⟩) ∧ Whole wx g0 3 #[.int .i64 k] ∧ Whole wx gC 83 #[calmFnV g3 g4] ∧ CalmFn wx k g1 g3 g4 ∧ Whole wx w.heap.size 25 #[.int .i64 k, .int .i64 s] ∧ Whole wx (w.heap.size + 1) 91 riverZero ∧ w.heap.size + 1 < g0 ∧ w.heap.size + 1 < gC ∧ Below w.heap.size w wx

/-- What a river's making keeps. -/
structure RivBase (w : World) (a b g0 gC k g1 g3 g4 : Nat) (s : Int) : Prop where
  cur : Whole w a 25 #[.int .i64 k, .int .i64 s]
  rz : Whole w b 91 riverZero
  q : Whole w g0 3 #[.int .i64 k]
  p : Whole w gC 83 #[calmFnV g3 g4]
  f : CalmFn w k g1 g3 g4
section
variable {w w' : World} {a b g0 gC k g1 g3 g4 : Nat} {s : Int}
theorem RivBase.below (h : RivBase w a b g0 gC k g1 g3 g4 s) (hb : Below w.heap.size w w') : RivBase w' a b g0 gC k g1 g3 g4 s := ⟨h.cur.below hb, h.rz.below hb, h.q.below hb, h.p.below hb, h.f.below hb⟩
theorem RivBase.alloc (h : RivBase w a b g0 gC k g1 g3 g4 s) (o : Obj) : RivBase (w.alloc o) a b g0 gC k g1 g3 g4 s := ⟨h.cur.alloc o, h.rz.alloc o, h.q.alloc o, h.p.alloc o, h.f.alloc o⟩
theorem RivBase.off (h : RivBase w a b g0 gC k g1 g3 g4 s) {x : Nat} {cs : Array Value} (hx : Whole w x 101 cs) (u : Value) : RivBase (w.setCell ⟨x, 0, none⟩ u) a b g0 gC k g1 g3 g4 s :=
  ⟨h.cur.off (whole_ne h.cur hx (by decide)), h.rz.off (whole_ne h.rz hx (by decide)), h.q.off (whole_ne h.q hx (by decide)), h.p.off (whole_ne h.p hx (by decide)), h.f.b1.off (whole_ne h.f.b1 hx (by decide)), h.f.b3.off (whole_ne h.f.b3 hx (by decide)), h.f.b4.off (whole_ne h.f.b4 hx (by decide))⟩
/-- All lie below a bound. -/
def RivLt (lo a b g0 gC g1 g3 g4 : Nat) : Prop := a < lo ∧ b < lo ∧ g0 < lo ∧ gC < lo ∧ g1 < lo ∧ g3 < lo ∧ g4 < lo
theorem RivBase.lt (h : RivBase w a b g0 gC k g1 g3 g4 s) : RivLt w.heap.size a b g0 gC g1 g3 g4 := ⟨h.cur.lt, h.rz.lt, h.q.lt, h.p.lt, h.f.b1.lt, h.f.b3.lt, h.f.b4.lt⟩
theorem whole_grown {lo q : Nat} {ty : TypeId} {cs : Array Value} {row : Option Nat} (h : Whole w q ty cs) (hg : w.grownBy w' row) (hr : ∀ x, row = some x → lo ≤ x) (hq : q < lo) : Whole w' q ty cs :=
  (hg.block q h.lt (fun e => absurd (hr q e.symm) (by omega))).trans h
theorem RivBase.grown {lo : Nat} {row : Option Nat} (h : RivBase w a b g0 gC k g1 g3 g4 s) (hg : w.grownBy w' row) (hr : ∀ x, row = some x → lo ≤ x) (hl : RivLt lo a b g0 gC g1 g3 g4) : RivBase w' a b g0 gC k g1 g3 g4 s := by
  obtain ⟨l1, l2, l3, l4, l5, l6, l7⟩ := hl
  exact ⟨whole_grown h.cur hg hr l1, whole_grown h.rz hg hr l2, whole_grown h.q hg hr l3, whole_grown h.p hg hr l4, whole_grown h.f.b1 hg hr l5, whole_grown h.f.b3 hg hr l6, whole_grown h.f.b4 hg hr l7⟩
end

/-- The calm groups among some lists. -/
def grpOf (k : Nat) (ls : List (List Int)) : List (List Int) := ls.filter (fun l => calm k (has l))
theorem grp_no {k j : Nat} {ls : List (List Int)} (hj : j < ls.length) (h : calm k (has ls[j]) = false) : grpOf k (ls.take (j + 1)) = grpOf k (ls.take j) := by
  rw [List.take_succ_eq_append_getElem hj, grpOf, List.filter_append, grpOf]; simp [h]
theorem grp_yes {k j : Nat} {ls : List (List Int)} (hj : j < ls.length) (h : calm k (has ls[j]) = true) : grpOf k (ls.take (j + 1)) = grpOf k (ls.take j) ++ [ls[j]] := by
  rw [List.take_succ_eq_append_getElem hj, grpOf, List.filter_append, grpOf]; simp [h]
theorem grp_len (k : Nat) (ls : List (List Int)) : (grpOf k ls).length ≤ ls.length := List.length_filter_le _ _
theorem crowdsOf_snoc (ls : List (List Int)) (x : List Int) : crowdsOf (ls ++ [x]) = crowdsOf ls ++ (crowdCells x).toList := by simp [crowdsOf]

def rowsFnV (gG gC : Nat) : Value := .func (.func 103) #[] #[.pointer (some ⟨gG, 0, none⟩), .pointer (some ⟨gC, 0, none⟩)]
/-- A river's cells. -/
def riverCells (k gG gC : Nat) : Array Value := #[.bool false, .bool false, .bool false, .bool false, .bool false, .bool false, .bool false, .bool false, .bool false, .bool (firstN (2 * k) 0), .bool (firstN (2 * k) 1), .bool (firstN (2 * k) 2), .bool (firstN (2 * k) 3), .bool (firstN (2 * k) 4), .bool (firstN (2 * k) 5), .bool (firstN (2 * k) 6), .bool (firstN (2 * k) 7), .bool true, rowsFnV gG gC]
theorem size_river : (Try.prog.info? 91).map (·.size) = some 19 := by kernel_rfl
theorem river_one (k gG gC : Nat) : (riverCells k gG gC).all (·.oneCell') = true := by simp [riverCells, rowsFnV, Value.oneCell']
theorem river_ret {w : World} {tmps : Array Value} {g k gG gC : Nat} (h2 : tmps.getD 2 undef = .pointer (some ⟨g, 0, none⟩)) (hw : Whole w g 91 (riverCells k gG gC)) :
    (results Try.f71 tmps).run Try.prog w = .ok (.agg (riverCells k gG gC)) w := by
  have hl := run_loadVar_row (P := Try.prog) w g 91 91 (riverCells k gG gC) (0, 0) _ hw Try.underlying91 rfl size_river
  have h2' : tmps[2]?.getD undef = .pointer (some ⟨g, 0, none⟩) := by simpa using h2
  simp [results, Try.results71, h2', asAddr, hl]
/-- What the closure that tells rows has captured. -/
structure RowsFn (w : World) (k gG gC g1 g3 g4 g : Nat) (A : Option Addr) (c : Nat) (ls : List (List Int)) : Prop where
  f : CalmFn w k g1 g3 g4
  p : Whole w gC 83 #[calmFnV g3 g4]
  gr : Whole w gG 101 #[.slice A ls.length c]
  own : w.ownsRow g 69 8 (.slice A ls.length c) ls.length (crowdsOf ls)
theorem RowsFn.below {w w' : World} {k gG gC g1 g3 g4 g : Nat} {A : Option Addr} {c : Nat} {ls : List (List Int)} (h : RowsFn w k gG gC g1 g3 g4 g A c ls) (hb : Below w.heap.size w w') : RowsFn w' k gG gC g1 g3 g4 g A c ls := ⟨h.f.below hb, h.p.below hb, h.gr.below hb, ownsRow_below h.own hb⟩
theorem RowsFn.alloc {w : World} {k gG gC g1 g3 g4 g : Nat} {A : Option Addr} {c : Nat} {ls : List (List Int)} (h : RowsFn w k gG gC g1 g3 g4 g A c ls) (o : Obj) : RowsFn (w.alloc o) k gG gC g1 g3 g4 g A c ls := ⟨h.f.alloc o, h.p.alloc o, h.gr.alloc o, h.own.alloc o⟩
theorem RowsFn.drew {w : World} {k gG gC g1 g3 g4 g : Nat} {A : Option Addr} {c : Nat} {ls : List (List Int)} (h : RowsFn w k gG gC g1 g3 g4 g A c ls) : RowsFn w.drew k gG gC g1 g3 g4 g A c ls := ⟨h.f.drew, h.p, h.gr, h.own⟩
/-- The groups of a company. -/
def groupsOf (k q : Nat) : List (List Int) := grpOf k (upLists (2 * k) q)
def RiverPost (k q : Nat) (w : World) (e : Ending) (w' : World) : Prop :=
  ∃ (gG gC g1 g3 g4 g : Nat) (A : Option Addr) (c : Nat), e = .returned (.agg (riverCells k gG gC)) ∧ RowsFn w' k gG gC g1 g3 g4 g A c (groupsOf k q) ∧ Below w.heap.size w w'

set_option maxHeartbeats 12800000 in
set_option maxRecDepth 100000 in
theorem companyRiver_any (k q : Nat) (w : World) (hk : k ≤ 4) (hq4 : q ≤ 4) :
    Calls Try.prog 71 #[.agg #[.int .i64 k, .int .i64 q]] w (RiverPost k q w) := by
  obtain ⟨s, hsq⟩ : ∃ s : Int, s = (q : Int) := ⟨_, rfl⟩
  rw [← hsq]
  have hmf : ∀ (fn : Fn) (first cap : Array Value) (w : World), (Instr.makeFunc fn first cap).run Try.prog w = .ok (.func fn first cap) w := fun _ _ _ _ => rfl
  obtain ⟨i0, hi, hz0, hz1, hz2⟩ := info_parts info_crowd
  have HI := Lib.hid hi
  have HZ0 := Lib.hid hz0
  have HZ1 := Lib.hid hz1
  have HZ2 := Lib.hid hz2
  have HSQ := Lib.hid hsq
  have HPT := Lib.hid (place_trues (2 * k) true)
  have HSM := Lib.hid (upLists_small (n := 2 * k) (m := q) (by omega))
  clear hi hz0 hz1 hz2 hsq
  have hcur := (Whole.fresh w 25 #[.int .i64 k, .int .i64 s]).alloc (.cells riverZero 91)
  have hrz := Whole.fresh (w.alloc (.cells #[.int .i64 k, .int .i64 s] 25)) 91 riverZero
  rw [World.size_alloc] at hrz
  have ht := below2 w (.cells #[.int .i64 k, .int .i64 s] 25) (.cells riverZero 91)
  go_enter Try.func71, Try.ntmps71
  go_upto_region 1 with fail
  go_cut [3, 4] (fun s3 s4 wx => RivCut w k s s3 s4 wx)
  case first =>
    unfold riverZero at hcur hrz ht
    go_wp2_with fail
    refine wp_region_held_drew (S := (Box1 w.heap.size (.int .i64 k) (.int .i64 s))) (by kernel_rfl) (box1_of hcur.drew) (fun hHeld => ?_)
    replace hcur := hcur.drew
    replace hrz := hrz.drew
    replace ht := ht.drew
    refine wpAnyH_take (i := 0) (v := ?_) rfl (by kernel_rfl) (by kernel_rfl) (by kernel_rfl) (fun _ _ _ h => h) (Or.inl ⟨rfl, ?_⟩) hHeld ?_
    rotate_left
    · intro w' hS; obtain ⟨s0, s1⟩ := hS; go_simp <;> with_reducible rfl
    simp only [Act.put, List.getElem_toArray, List.getElem_cons_succ, List.getElem_cons_zero, List.setIfInBounds_toArray, List.set_cons_succ, List.set_cons_zero]
    refine wpAnyH_take (i := 1) (v := ?_) rfl (by kernel_rfl) (by kernel_rfl) (by kernel_rfl) (fun _ _ _ h => h) (Or.inl ⟨rfl, ?_⟩) hHeld ?_
    rotate_left
    · intro w' hS; obtain ⟨s0, s1⟩ := hS; go_simp <;> with_reducible rfl
    simp only [Act.put, List.getElem_toArray, List.getElem_cons_succ, List.getElem_cons_zero, List.setIfInBounds_toArray, List.set_cons_succ, List.set_cons_zero]
    refine wpAnyH_take (i := 3) (v := ?_) rfl (by kernel_rfl) (by kernel_rfl) (by kernel_rfl) (fun _ _ _ h => h) (Or.inl ⟨rfl, ?_⟩) hHeld ?_
    rotate_left
    · intro w' hS; obtain ⟨s0, s1⟩ := hS; go_simp <;> with_reducible rfl
    simp only [Act.put, List.getElem_toArray, List.getElem_cons_succ, List.getElem_cons_zero, List.setIfInBounds_toArray, List.set_cons_succ, List.set_cons_zero]
    refine wpAnyH_take (i := 4) (v := ?_) rfl (by kernel_rfl) (by kernel_rfl) (by kernel_rfl) (fun _ _ _ h => h) (Or.inl ⟨rfl, ?_⟩) hHeld ?_
    rotate_left
    · intro w' hS; obtain ⟨s0, s1⟩ := hS; go_simp <;> with_reducible rfl
    simp only [Act.put, List.getElem_toArray, List.getElem_cons_succ, List.getElem_cons_zero, List.setIfInBounds_toArray, List.set_cons_succ, List.set_cons_zero]
    refine wpAnyH_ready (rs := [2, 6]) (by kernel_rfl) (by simp) (AllReadyH.cons rfl (fun K hK => ?_) (AllReadyH.cons rfl (fun K hK => ?_) AllReadyH.nil))
    · go_simp
      refine (calmGroups_any _ _).mono ?_
      rintro e w2 ⟨rfl, rfl⟩
      have hQ := fresh_of hcur 3 #[.int .i64 k]
      try simp only [World.size_alloc, World.size_drew] at hQ
      replace hcur := hcur.alloc (.cells #[.int .i64 k] 3)
      replace hrz := hrz.alloc (.cells #[.int .i64 k] 3)
      replace ht := ht.alloc ht.size (.cells #[.int .i64 k] 3)
      refine hK.out _ _ (box1_of hcur) (fun hHeld => ?_)
      clear hK K
      try simp only [Act.put, List.getElem_toArray, List.getElem_cons_succ, List.getElem_cons_zero, List.setIfInBounds_toArray, List.set_cons_succ, List.set_cons_zero]
      refine wpAnyH_ready (rs := [5, 6]) (by kernel_rfl) (by simp) (AllReadyH.cons rfl (fun K hK => ?_) (AllReadyH.cons rfl (fun K hK => ?_) AllReadyH.nil))
      · go_simp
        refine (calmPlaces_any k _ hk).mono ?_
        rintro e w5 ⟨g1, g3, g4, rfl, hF, hb⟩
        replace hQ := hQ.below hb
        replace hcur := hcur.below hb
        replace hrz := hrz.below hb
        replace ht := below_then ht hb ht.size
        clear hb
        unfold calmFnV
        refine hK.out _ _ (box1_of hcur) (fun hHeld => ?_)
        clear hK K
        try simp only [Act.put, List.getElem_toArray, List.getElem_cons_succ, List.getElem_cons_zero, List.setIfInBounds_toArray, List.set_cons_succ, List.set_cons_zero]
        refine wpAnyH_ready (rs := [6]) (by kernel_rfl) (by simp) (AllReadyH.cons rfl (fun K hK => ?_) AllReadyH.nil)
        go_simp
        have hcur0 := hcur
        have hrz0 := hrz
        have hQ0 := hQ
        have hF0 := hF
        have ht0 := ht
        have hq0l := hQ.lt
        have hP := fresh_of hcur 83 #[Value.nilFunc]
        try simp only [World.size_alloc, World.size_drew] at hP
        replace hQ := hQ.alloc (.cells #[Value.nilFunc] 83)
        replace hF := hF.alloc (.cells #[Value.nilFunc] 83)
        replace hcur := hcur.alloc (.cells #[Value.nilFunc] 83)
        replace hrz := hrz.alloc (.cells #[Value.nilFunc] 83)
        replace ht := ht.alloc ht.size (.cells #[Value.nilFunc] 83)
        refine hK.out _ _ (box1_of hcur) (fun hHeld => ?_)
        clear hK K
        try simp only [Act.put, List.getElem_toArray, List.getElem_cons_succ, List.getElem_cons_zero, List.setIfInBounds_toArray, List.set_cons_succ, List.set_cons_zero]
        refine wpAnyH_take (i := 7) (v := ?_) rfl (by kernel_rfl) (by kernel_rfl) (by kernel_rfl) (fun _ _ _ h => h) (Or.inl ⟨rfl, ?_⟩) hHeld ?_
        rotate_left
        · intro w' hS; obtain ⟨s0, s1⟩ := hS; go_simp <;> with_reducible rfl
        simp only [Act.put, List.getElem_toArray, List.getElem_cons_succ, List.getElem_cons_zero, List.setIfInBounds_toArray, List.set_cons_succ, List.set_cons_zero]
        refine wpAnyH_ready (rs := [8]) (by kernel_rfl) (by simp) (AllReadyH.cons rfl (fun K hK => ?_) AllReadyH.nil)
        have hp0 := hP.cells1
        have hpf := hP.open_ 0
        have hpl := hP.lt
        go_simp
        replace hcur := hcur0.alloc (.cells #[(.func (.func 98) #[] #[.pointer (some ⟨g3, 0, none⟩), .pointer (some ⟨g4, 0, none⟩)])] 83)
        replace hrz := hrz0.alloc (.cells #[(.func (.func 98) #[] #[.pointer (some ⟨g3, 0, none⟩), .pointer (some ⟨g4, 0, none⟩)])] 83)
        replace hQ := hQ0.alloc (.cells #[(.func (.func 98) #[] #[.pointer (some ⟨g3, 0, none⟩), .pointer (some ⟨g4, 0, none⟩)])] 83)
        have hF2 := hF0.alloc (.cells #[(.func (.func 98) #[] #[.pointer (some ⟨g3, 0, none⟩), .pointer (some ⟨g4, 0, none⟩)])] 83)
        replace hP := Whole.fresh w5 83 #[(.func (.func 98) #[] #[.pointer (some ⟨g3, 0, none⟩), .pointer (some ⟨g4, 0, none⟩)])]
        replace ht := ht0.alloc ht0.size (.cells #[(.func (.func 98) #[] #[.pointer (some ⟨g3, 0, none⟩), .pointer (some ⟨g4, 0, none⟩)])] 83)
        refine hK.out _ _ (box1_of hcur) (fun hHeld => ?_)
        clear hK K
        try simp only [Act.put, List.getElem_toArray, List.getElem_cons_succ, List.getElem_cons_zero, List.setIfInBounds_toArray, List.set_cons_succ, List.set_cons_zero]
        refine wpAnyH_done (by kernel_rfl) ?_ _
        clear hHeld
        go_wp2_with fail
        go_meet
        exact ⟨w.heap.size + 1 + 1, g1, g3, g4, w5.heap.size, rfl, rfl, hQ, hP, hF2, hcur, hrz, by omega, by omega, ht⟩
      · go_simp
        have hP := fresh_of hcur 83 #[Value.nilFunc]
        try simp only [World.size_alloc, World.size_drew] at hP
        replace hQ := hQ.alloc (.cells #[Value.nilFunc] 83)
        replace hcur := hcur.alloc (.cells #[Value.nilFunc] 83)
        replace hrz := hrz.alloc (.cells #[Value.nilFunc] 83)
        replace ht := ht.alloc ht.size (.cells #[Value.nilFunc] 83)
        refine hK.out _ _ (box1_of hcur) (fun hHeld => ?_)
        clear hK K
        try simp only [Act.put, List.getElem_toArray, List.getElem_cons_succ, List.getElem_cons_zero, List.setIfInBounds_toArray, List.set_cons_succ, List.set_cons_zero]
        refine wpAnyH_ready (rs := [5]) (by kernel_rfl) (by simp) (AllReadyH.cons rfl (fun K hK => ?_) AllReadyH.nil)
        go_simp
        refine (calmPlaces_any k _ hk).mono ?_
        rintro e w5 ⟨g1, g3, g4, rfl, hF, hb⟩
        replace hQ := hQ.below hb
        replace hP := hP.below hb
        replace hcur := hcur.below hb
        replace hrz := hrz.below hb
        replace ht := below_then ht hb ht.size
        clear hb
        unfold calmFnV
        refine hK.out _ _ (box1_of hcur) (fun hHeld => ?_)
        clear hK K
        try simp only [Act.put, List.getElem_toArray, List.getElem_cons_succ, List.getElem_cons_zero, List.setIfInBounds_toArray, List.set_cons_succ, List.set_cons_zero]
        refine wpAnyH_take (i := 7) (v := ?_) rfl (by kernel_rfl) (by kernel_rfl) (by kernel_rfl) (fun _ _ _ h => h) (Or.inl ⟨rfl, ?_⟩) hHeld ?_
        rotate_left
        · intro w' hS; obtain ⟨s0, s1⟩ := hS; go_simp <;> with_reducible rfl
        simp only [Act.put, List.getElem_toArray, List.getElem_cons_succ, List.getElem_cons_zero, List.setIfInBounds_toArray, List.set_cons_succ, List.set_cons_zero]
        refine wpAnyH_ready (rs := [8]) (by kernel_rfl) (by simp) (AllReadyH.cons rfl (fun K hK => ?_) AllReadyH.nil)
        have hp0 := hP.cells1
        have hpf := hP.open_ 0
        have hpl := hP.lt
        have hql := hQ.lt
        have hrl := hrz.lt
        go_simp
        replace hcur := hcur.off (b := w.heap.size + 1 + 1 + 1) (o := 0) (u := (.func (.func 98) #[] #[.pointer (some ⟨g3, 0, none⟩), .pointer (some ⟨g4, 0, none⟩)])) (by omega)
        replace hrz := hrz.off (b := w.heap.size + 1 + 1 + 1) (o := 0) (u := (.func (.func 98) #[] #[.pointer (some ⟨g3, 0, none⟩), .pointer (some ⟨g4, 0, none⟩)])) (by omega)
        replace hQ := hQ.off (b := w.heap.size + 1 + 1 + 1) (o := 0) (u := (.func (.func 98) #[] #[.pointer (some ⟨g3, 0, none⟩), .pointer (some ⟨g4, 0, none⟩)])) (by omega)
        have hF2 := calmFn_off (b := w.heap.size + 1 + 1 + 1) (u := (.func (.func 98) #[] #[.pointer (some ⟨g3, 0, none⟩), .pointer (some ⟨g4, 0, none⟩)])) hF hP
        replace hP := hP.set_ 0 (.func (.func 98) #[] #[.pointer (some ⟨g3, 0, none⟩), .pointer (some ⟨g4, 0, none⟩)])
        replace ht := below_set (b := w.heap.size + 1 + 1 + 1) (o := 0) (u := (.func (.func 98) #[] #[.pointer (some ⟨g3, 0, none⟩), .pointer (some ⟨g4, 0, none⟩)])) ht (by omega)
        refine hK.out _ _ (box1_of hcur) (fun hHeld => ?_)
        clear hK K
        try simp only [Act.put, List.getElem_toArray, List.getElem_cons_succ, List.getElem_cons_zero, List.setIfInBounds_toArray, List.set_cons_succ, List.set_cons_zero]
        refine wpAnyH_done (by kernel_rfl) ?_ _
        clear hHeld
        go_wp2_with fail
        go_meet
        exact ⟨w.heap.size + 1 + 1, g1, g3, g4, w.heap.size + 1 + 1 + 1, rfl, rfl, hQ, hP, hF2, hcur, hrz, by omega, by omega, ht⟩
    · go_simp
      have hP := fresh_of hcur 83 #[Value.nilFunc]
      try simp only [World.size_alloc, World.size_drew] at hP
      replace hcur := hcur.alloc (.cells #[Value.nilFunc] 83)
      replace hrz := hrz.alloc (.cells #[Value.nilFunc] 83)
      replace ht := ht.alloc ht.size (.cells #[Value.nilFunc] 83)
      refine hK.out _ _ (box1_of hcur) (fun hHeld => ?_)
      clear hK K
      try simp only [Act.put, List.getElem_toArray, List.getElem_cons_succ, List.getElem_cons_zero, List.setIfInBounds_toArray, List.set_cons_succ, List.set_cons_zero]
      refine wpAnyH_ready (rs := [2]) (by kernel_rfl) (by simp) (AllReadyH.cons rfl (fun K hK => ?_) AllReadyH.nil)
      go_simp
      refine (calmGroups_any _ _).mono ?_
      rintro e w2 ⟨rfl, rfl⟩
      have hQ := fresh_of hcur 3 #[.int .i64 k]
      try simp only [World.size_alloc, World.size_drew] at hQ
      replace hP := hP.alloc (.cells #[.int .i64 k] 3)
      replace hcur := hcur.alloc (.cells #[.int .i64 k] 3)
      replace hrz := hrz.alloc (.cells #[.int .i64 k] 3)
      replace ht := ht.alloc ht.size (.cells #[.int .i64 k] 3)
      refine hK.out _ _ (box1_of hcur) (fun hHeld => ?_)
      clear hK K
      try simp only [Act.put, List.getElem_toArray, List.getElem_cons_succ, List.getElem_cons_zero, List.setIfInBounds_toArray, List.set_cons_succ, List.set_cons_zero]
      refine wpAnyH_ready (rs := [5]) (by kernel_rfl) (by simp) (AllReadyH.cons rfl (fun K hK => ?_) AllReadyH.nil)
      go_simp
      refine (calmPlaces_any k _ hk).mono ?_
      rintro e w5 ⟨g1, g3, g4, rfl, hF, hb⟩
      replace hQ := hQ.below hb
      replace hP := hP.below hb
      replace hcur := hcur.below hb
      replace hrz := hrz.below hb
      replace ht := below_then ht hb ht.size
      clear hb
      unfold calmFnV
      refine hK.out _ _ (box1_of hcur) (fun hHeld => ?_)
      clear hK K
      try simp only [Act.put, List.getElem_toArray, List.getElem_cons_succ, List.getElem_cons_zero, List.setIfInBounds_toArray, List.set_cons_succ, List.set_cons_zero]
      refine wpAnyH_take (i := 7) (v := ?_) rfl (by kernel_rfl) (by kernel_rfl) (by kernel_rfl) (fun _ _ _ h => h) (Or.inl ⟨rfl, ?_⟩) hHeld ?_
      rotate_left
      · intro w' hS; obtain ⟨s0, s1⟩ := hS; go_simp <;> with_reducible rfl
      simp only [Act.put, List.getElem_toArray, List.getElem_cons_succ, List.getElem_cons_zero, List.setIfInBounds_toArray, List.set_cons_succ, List.set_cons_zero]
      refine wpAnyH_ready (rs := [8]) (by kernel_rfl) (by simp) (AllReadyH.cons rfl (fun K hK => ?_) AllReadyH.nil)
      have hp0 := hP.cells1
      have hpf := hP.open_ 0
      have hpl := hP.lt
      have hql := hQ.lt
      have hrl := hrz.lt
      go_simp
      replace hcur := hcur.off (b := w.heap.size + 1 + 1) (o := 0) (u := (.func (.func 98) #[] #[.pointer (some ⟨g3, 0, none⟩), .pointer (some ⟨g4, 0, none⟩)])) (by omega)
      replace hrz := hrz.off (b := w.heap.size + 1 + 1) (o := 0) (u := (.func (.func 98) #[] #[.pointer (some ⟨g3, 0, none⟩), .pointer (some ⟨g4, 0, none⟩)])) (by omega)
      replace hQ := hQ.off (b := w.heap.size + 1 + 1) (o := 0) (u := (.func (.func 98) #[] #[.pointer (some ⟨g3, 0, none⟩), .pointer (some ⟨g4, 0, none⟩)])) (by omega)
      have hF2 := calmFn_off (b := w.heap.size + 1 + 1) (u := (.func (.func 98) #[] #[.pointer (some ⟨g3, 0, none⟩), .pointer (some ⟨g4, 0, none⟩)])) hF hP
      replace hP := hP.set_ 0 (.func (.func 98) #[] #[.pointer (some ⟨g3, 0, none⟩), .pointer (some ⟨g4, 0, none⟩)])
      replace ht := below_set (b := w.heap.size + 1 + 1) (o := 0) (u := (.func (.func 98) #[] #[.pointer (some ⟨g3, 0, none⟩), .pointer (some ⟨g4, 0, none⟩)])) ht (by omega)
      refine hK.out _ _ (box1_of hcur) (fun hHeld => ?_)
      clear hK K
      try simp only [Act.put, List.getElem_toArray, List.getElem_cons_succ, List.getElem_cons_zero, List.setIfInBounds_toArray, List.set_cons_succ, List.set_cons_zero]
      refine wpAnyH_done (by kernel_rfl) ?_ _
      clear hHeld
      go_wp2_with fail
      go_meet
      exact ⟨w.heap.size + 1 + 1 + 1, g1, g3, g4, w.heap.size + 1 + 1, rfl, rfl, hQ, hP, hF2, hcur, hrz, by omega, by omega, ht⟩
  case rest =>
    clear hcur hrz ht
    obtain ⟨g0, g1, g3, g4, gC, rfl, rfl, hQ, hP, hF, hcur, hrz, hg0, hgC, ht⟩ := hcut
    have hR : RivBase wc w.heap.size (w.heap.size + 1) g0 gC k g1 g3 g4 s := ⟨hcur, hrz, hQ, hP, hF⟩
    have hG := Whole.fresh wc 101 #[.slice none 0 0]
    have hgs := ht.size
    replace ht := ht.alloc ht.size (.cells #[.slice none 0 0] 101)
    replace hR := hR.alloc (.cells #[.slice none 0 0] 101)
    obtain ⟨c0, c1, -, -⟩ := hR.cur.two
    have hcl := hR.cur.lt
    clear hQ hP hF hcur hrz
    unfold groupFnV
    go_wp2_with fail
    have hu := crowdsUpTo_any (2 * k) q (wc.alloc (.cells #[.slice none 0 0] 101)) (by omega) (by omega)
    rw [show ((2 * k : Nat) : Int) = 2 * (k : Int) by omega, ← HSQ.out] at hu
    refine hu.mono ?_
    clear hu
    rintro e w3 ⟨A, c, rfl, hown, hb⟩
    generalize hls : upLists (2 * k) q = ls at HSM hown
    have HLS := Lib.hid hls
    rw [World.size_alloc] at hown
    replace ht := below_then ht hb ht.size
    replace hR := hR.below hb
    replace hG := hG.below hb
    have HLT := Lib.hid hR.lt
    have hGl := hG.lt
    have HR0 := Lib.hid hR
    have HG0 := Lib.hid hG
    have HS0 := Lib.hid hown
    have HT0 := Lib.hid ht
    have hl := HSM.out
    clear hb c0 c1 hcl ht hR hG hown hls
    go_wp2
    go_loopw [22] (fun i wr => ∃ (j : Nat) (T : Option Addr) (r : Nat), j ≤ ls.length ∧ i = .int .i64 j ∧ RivBase wr w.heap.size (w.heap.size + 1) g0 gC k g1 g3 g4 s ∧ Whole wr wc.heap.size 101 #[.slice T (grpOf k (ls.take j)).length r] ∧ wr.ownsRow (wc.heap.size + 1) 69 8 (.slice A ls.length c) ls.length (crowdsOf ls) ∧ wr.ownsRow w3.heap.size 69 8 (.slice T (grpOf k (ls.take j)).length r) (grpOf k (ls.take j)).length (crowdsOf (grpOf k (ls.take j))) ∧ Below w.heap.size w wr ∧ w3.heap.size ≤ wr.heap.size) (fun i _ => ls.length - (intOf i).toNat)
    case atStart => exact ⟨0, none, 0, Nat.zero_le _, rfl, HR0.out, HG0.out, HS0.out, World.ownsRow_nil _ _ _ _, HT0.out, Nat.le_refl _⟩
    case round =>
      clear HR0 HG0 HT0
      obtain ⟨j, T, r, hj, rfl, hR, hG, hS, hO, ht, hws⟩ := hrel
      have hgl := grp_len k (ls.take j)
      have htk : (ls.take j).length ≤ 255 := by rw [List.length_take]; omega
      by_cases hlt : j < ls.length
      · obtain ⟨gs, rfl, hgsl, a0, a1, a2, a3, a4, a5, a6, a7⟩ := crowds_row hS rfl hlt
        have hgs3 := (HS0.out.lt gs rfl).2
        have hd : decide ((j : Int) < (ls.length : Int)) = true := by simp; omega
        have HR := Lib.hid (hR.alloc (.cells (cells8 (has ls[j])) 69))
        have HG := Lib.hid (hG.alloc (.cells (cells8 (has ls[j])) 69))
        have HS := Lib.hid (hS.alloc (.cells (cells8 (has ls[j])) 69))
        have HO := Lib.hid (hO.alloc (.cells (cells8 (has ls[j])) 69))
        have HT := Lib.hid (ht.alloc ht.size (.cells (cells8 (has ls[j])) 69))
        have HX := Lib.hid (Whole.fresh wr 69 (cells8 (has ls[j])))
        clear hR hG hS hO ht
        cases hq : calm k (has ls[j])
        · have HN := Lib.hid (grp_no hlt hq)
          have HQ := Lib.hid hq
          clear hq
          generalize ls[j] = l at a0 a1 a2 a3 a4 a5 a6 a7 HQ HR HG HS HO HT HX
          go_wp2_with fail
          refine (calmClosure_any k g0 (has l) _ hk (by exact HR.out.q.cell 0) HR.out.q.lt).mono ?_
          rintro e w5 ⟨rfl, hb⟩
          rw [HQ.out]
          have hsz : w3.heap.size ≤ w5.heap.size := by have := hb.size; simp at this; omega
          have K1 := Lib.hid (HR.out.below hb)
          have K2 := Lib.hid (HG.out.below hb)
          have K3 := Lib.hid (ownsRow_below HS.out hb)
          have K4 := Lib.hid (ownsRow_below HO.out hb)
          have K5 := Lib.hid (below_then HT.out hb HT.out.size)
          clear hb a0 a1 a2 a3 a4 a5 a6 a7
          go_wp2
          go_roundw
          case rel => exact ⟨j + 1, T, r, by omega, by go_num, K1.out, by rw [HN.out]; exact K2.out, K3.out, by rw [HN.out]; exact K4.out, K5.out, hsz⟩
          case measure => simp [intOf]; omega
        · have HN := Lib.hid (grp_yes hlt hq)
          have HQ := Lib.hid hq
          clear hq
          generalize hm : grpOf k (ls.take j) = gr at hgl HN HG HO
          have HMG := Lib.hid hm
          clear hm
          generalize ls[j] = l at a0 a1 a2 a3 a4 a5 a6 a7 HQ HR HG HS HO HT HX HN
          go_wp2_with fail
          refine (calmClosure_any k g0 (has l) _ hk (by exact HR.out.q.cell 0) HR.out.q.lt).mono ?_
          rintro e w5 ⟨rfl, hb⟩
          rw [HQ.out]
          have hsz : w3.heap.size ≤ w5.heap.size := by have := hb.size; simp at this; omega
          have HX5 := HX.out.below hb
          obtain ⟨b0, b1, b2, b3, b4, b5, b6, b7⟩ := cells8_cells HX5
          have hG5 := HG.out.below hb
          have e0 := hG5.cells1
          have K1 := Lib.hid ((HR.out.below hb).alloc (.cells (crowdCells l) 69))
          have K2 := Lib.hid (hG5.alloc (.cells (crowdCells l) 69))
          have K3 := Lib.hid ((ownsRow_below HS.out hb).alloc (.cells (crowdCells l) 69))
          have K4 := Lib.hid ((ownsRow_below HO.out hb).alloc (.cells (crowdCells l) 69))
          have K5 := Lib.hid ((below_then HT.out hb HT.out.size).alloc (below_then HT.out hb HT.out.size).size (.cells (crowdCells l) 69))
          have HNEW := Lib.hid (cells_new w5 69 (crowdCells l))
          have HONE := Lib.hid (crowd_ones l)
          have HMAX := Lib.hid (show gr.length + 1 ≤ maxLen by unfold maxLen; omega)
          have HBYT := Lib.hid (show (gr.length + 1) * 8 ≤ 140737488355328 by omega)
          have HBASE := Lib.hid (show w3.heap.size ≤ (w5.alloc (.cells (crowdCells l) 69)).heap.size by simp; omega)
          have HLEN := Lib.hid (show (gr ++ [l]).length = gr.length + 1 by simp)
          clear hb a0 a1 a2 a3 a4 a5 a6 a7 hG5 HX5
          unfold crowdCells at HNEW HONE HBASE K1 K2 K3 K4 K5
          go_wp2_with (at_builtin; refine wpList_append_own _ rfl (.tmp 29) (.tmp 31) 101 rfl w3.heap.size 69 i0 (.agg #[.bool false, .bool false, .bool false, .bool false, .bool false, .bool false, .bool false, .bool false]) 8 8 Try.underlying101 HI.out HZ0.out HZ1.out HZ2.out rfl (by decide) (.slice T gr.length r) gr.length (crowdsOf gr) rfl K4.out ⟨w5.heap.size, 0, none⟩ 1 1 [.bool (has l 0), .bool (has l 1), .bool (has l 2), .bool (has l 3), .bool (has l 4), .bool (has l 5), .bool (has l 6), .bool (has l 7)] rfl rfl HNEW.out HONE.out HMAX.out HBYT.out HBASE.out ?_; intro v' w6 hown1 hg1 _; obtain ⟨g2, e2, hv2⟩ := own_form hown1; subst hv2; have hrr : ∀ x, (Value.slice T gr.length r).ownBlock = some x → w3.heap.size ≤ x := fun x hx => (K4.out.lt x hx).1; have L1 := Lib.hid (K1.out.grown hg1 hrr HLT.out); have L2 := whole_grown K2.out hg1 hrr hGl; have L3 := Lib.hid (K3.out.kept hg1 (.inr (fun e => by have := hrr gs (e ▸ rfl); omega))); have L5 := Lib.hid (K5.out.grown hg1 (by have := K5.out.size; omega) (fun x hx => by have := hrr x hx; omega)); have l0 := L2.cells1; have l1 := L2.open_ 0; have l2 := L2.lt)
          have hs6 := hg1.size
          have M1 := Lib.hid (L1.out.off L2 (.slice (some ⟨g2, 0, none⟩) (gr.length + 1) e2))
          have M2 := Lib.hid (L2.set_ 0 (.slice (some ⟨g2, 0, none⟩) (gr.length + 1) e2))
          have M3 := Lib.hid (ownsRow_setCell_below (a := ⟨wc.heap.size, 0, none⟩) L3.out (by show wc.heap.size < _; omega) (.slice (some ⟨g2, 0, none⟩) (gr.length + 1) e2))
          have M4 := Lib.hid (ownsRow_setCell_below (a := ⟨wc.heap.size, 0, none⟩) hown1 (by show wc.heap.size < _; omega) (.slice (some ⟨g2, 0, none⟩) (gr.length + 1) e2))
          have M5 := Lib.hid (below_set (b := wc.heap.size) (o := 0) (u := .slice (some ⟨g2, 0, none⟩) (gr.length + 1) e2) L5.out hgs)
          have hs7 : w3.heap.size ≤ w6.heap.size := by simp at hs6; omega
          clear hown1 hg1 hs6 hrr
          go_roundw
          case rel => exact ⟨j + 1, some ⟨g2, 0, none⟩, e2, by omega, by go_num, M1.out, by rw [HN.out, HLEN.out]; exact M2.out, M3.out, by rw [HN.out, HLEN.out, crowdsOf_snoc]; exact M4.out, M5.out, by simpa [World.setCell] using hs7⟩
          case measure => simp [intOf]; omega
      · obtain rfl : j = ls.length := by omega
        have hd : decide ((ls.length : Int) < (ls.length : Int)) = false := by simp
        rw [List.take_length] at hG hO hgl
        have HGS : Hid (grpOf k ls = groupsOf k q) := by show _ = _; rw [groupsOf, HLS.out]
        obtain ⟨c0, c1, -, -⟩ := hR.cur.two
        have he := everybodyOver_any (2 * k) wr (by omega)
        rw [show ((2 * k : Nat) : Int) = 2 * (k : Int) by omega] at he
        have HR := Lib.hid hR
        have HG := Lib.hid hG
        have HO := Lib.hid hO
        have HT := Lib.hid ht
        have HE := Lib.hid he
        clear hR hG hS hO ht he
        go_wp2_with fail
        refine HE.out.mono ?_
        clear HE
        rintro e w5 ⟨rfl, hb⟩
        rw [HPT.out]
        have hR5 := HR.out.below hb
        have hG5 := HG.out.below hb
        have hO5 := ownsRow_below HO.out hb
        have hT5 := below_then HT.out hb HT.out.size
        have N1 := Lib.hid hR5
        have N2 := Lib.hid hG5
        have N3 := Lib.hid hO5
        have N4 := Lib.hid hT5
        clear hR5 hG5 hO5 hT5 hb c0 c1
        unfold place9
        go_wp2_with (refine wpList_store_whole rfl 91 (.tmp 2) (.tmp 41) rfl (w.heap.size + 1) (riverCells k wc.heap.size gC) rfl rfl 91 riverZero N1.out.rz size_river rfl (river_one _ _ _) ?_; intro w7 hw7 ho7)
        refine bodyPost_ret (v := .agg (riverCells k wc.heap.size gC)) (river_ret rfl hw7) rfl ?_
        have hne : ∀ {x : Nat} {ty : TypeId} {cs : Array Value}, Whole w5 x ty cs → ty ≠ 91 → x ≠ w.heap.size + 1 := fun h hn => whole_ne h N1.out.rz hn
        refine ⟨wc.heap.size, gC, g1, g3, g4, w3.heap.size, T, r, rfl, ⟨⟨ho7.whole N1.out.f.b1 (hne N1.out.f.b1 (by decide)), ho7.whole N1.out.f.b3 (hne N1.out.f.b3 (by decide)), ho7.whole N1.out.f.b4 (hne N1.out.f.b4 (by decide))⟩, ho7.whole N1.out.p (hne N1.out.p (by decide)), ?_, ?_⟩, ho7.below N4.out (by omega)⟩
        · rw [← HGS.out]; exact ho7.whole N2.out (hne N2.out (by decide))
        · rw [← HGS.out]; exact ownsRow_only N3.out ho7 (by have := HLT.out.2.1; omega)
end Go.Proofs.Yteeolclnoblkcaa

namespace Go.Proofs.Yteeolclnoblkcaa
open Go.RowKit

/-- The rows in a place, of some groups. -/
def rowsAmong (k : Nat) (bs : List Bool) (t : Bool) (ls : List (List Int)) : List (List Int) := ls.filter (fun l => allAt bs t l && quiet k (fun i => (flipped bs l).getD i false))
theorem among_no {k j : Nat} {bs : List Bool} {t : Bool} {ls : List (List Int)} (hj : j < ls.length) (h : (allAt bs t ls[j] && quiet k (fun i => (flipped bs ls[j]).getD i false)) = false) : rowsAmong k bs t (ls.take (j + 1)) = rowsAmong k bs t (ls.take j) := by
  rw [List.take_succ_eq_append_getElem hj, rowsAmong, List.filter_append, rowsAmong]; simp only [List.filter_cons, h]; simp
theorem among_yes {k j : Nat} {bs : List Bool} {t : Bool} {ls : List (List Int)} (hj : j < ls.length) (h : (allAt bs t ls[j] && quiet k (fun i => (flipped bs ls[j]).getD i false)) = true) : rowsAmong k bs t (ls.take (j + 1)) = rowsAmong k bs t (ls.take j) ++ [ls[j]] := by
  rw [List.take_succ_eq_append_getElem hj, rowsAmong, List.filter_append, rowsAmong]; simp only [List.filter_cons, h]; simp
theorem among_len (k : Nat) (bs : List Bool) (t : Bool) (ls : List (List Int)) : (rowsAmong k bs t ls).length ≤ ls.length := List.length_filter_le _ _
/-- The rows of a company in a place. -/
def rowsIn (k q : Nat) (bs : List Bool) (t : Bool) : List (List Int) := rowsAmong k bs t (groupsOf k q)
theorem groups_up {k q : Nat} {l : List Int} (h : l ∈ groupsOf k q) : l ∈ upLists (2 * k) q := (List.mem_filter.1 h).1
theorem groups_small {k q : Nat} (hk : k ≤ 4) : (groupsOf k q).length ≤ 255 := Nat.le_trans (grp_len _ _) (upLists_small (by omega))

/-- What the closure's appending reads. -/
def MvS (g h : Nat) (f f' : Nat → Bool) (t : Bool) (w : World) : Prop := Row8 g f w ∧ Row8 h f' w ∧ w.cell? ⟨h, 8, none⟩ = some (.bool t)
theorem row8_cells {w : World} {g : Nat} {ty : TypeId} {f : Nat → Bool} (h : Whole w g ty (cells8 f)) : Row8 g f w := ⟨h.cell 0, h.cell 1, h.cell 2, h.cell 3, h.cell 4, h.cell 5, h.cell 6, h.cell 7⟩
theorem mv_of {w : World} {g h : Nat} {f f' : Nat → Bool} {t : Bool} {y z : TypeId} (h1 : Whole w g y (cells8 f)) (h2 : Whole w h z (place9 f' t)) : MvS g h f f' t w := ⟨row8_cells h1, row8_of h2, h2.cell 8⟩
theorem below_undrew {w w' : World} (h : Below (World.drew w).heap.size (World.drew w) w') : Below w.heap.size w w' := ⟨h.os, h.tape, h.output, h.size, h.block⟩
theorem fresh_undrew {w w' : World} {ty : TypeId} {A : Option Addr} {xs : List Value} (h : Fresh w' (World.drew w).heap.size w'.heap.size ty A xs) : Fresh w' w.heap.size w'.heap.size ty A xs := h
theorem Fresh.of_own' {w : World} {lo n c : Nat} {ty : TypeId} {A : Option Addr} {xs : List Value} (h : w.ownsRow lo ty 1 (.slice A n c) n xs) : Fresh w lo w.heap.size ty A xs := by
  obtain ⟨A', c', hv, hf⟩ := Fresh.of_own h (Nat.le_refl _)
  obtain ⟨rfl, -⟩ : A = A' ∧ c = c' := by simpa using hv
  exact hf

theorem whole_apart {w w' : World} {q : Nat} {ty : TypeId} {cs : Array Value} {row : Option Nat} (h : Whole w q ty cs) (hg : w.grownBy w' row) (hne : some q ≠ row) : Whole w' q ty cs := (hg.block q h.lt hne).trans h
theorem Spread.raise {w : World} {lo lo' : Nat} {A : Option Addr} {rs : List RowV} (h : Spread w lo A rs) (hl : lo' ≤ lo) : Spread w lo' A rs := by
  obtain ⟨ps, h2, h3, h4⟩ := h
  exact ⟨ps, h2, fun p hp => ⟨Nat.le_trans hl (h3 p hp).1, (h3 p hp).2⟩, h4⟩

def MovesPost (bs : List Bool) (t : Bool) (ls : List (List Int)) (w : World) (e : Ending) (w' : World) : Prop :=
  ∃ (A : Option Addr) (c : Nat) (rs : List RowV), e = .returned (.slice A rs.length c) ∧ rowNums rs = ls ∧ Moves w' w.heap.size A c bs t rs ∧ Below w.heap.size w w'

set_option maxHeartbeats 12800000 in
set_option maxRecDepth 100000 in
theorem rowsFn_any (k q gG gC g1 g3 g4 g : Nat) (A : Option Addr) (c : Nat) (bs : List Bool) (t : Bool) (w : World) (hk : k ≤ 4) (hbs : bs.length = 2 * k) (hF : RowsFn w k gG gC g1 g3 g4 g A c (groupsOf k q)) :
    Calls Try.prog 103 #[.agg (placeCells bs t), .pointer (some ⟨gG, 0, none⟩), .pointer (some ⟨gC, 0, none⟩)] w (MovesPost bs t (rowsIn k q bs t) w) := by
  obtain ⟨i0, hi, hz0, hz1, hz2⟩ := info_parts info_move
  have HI := Lib.hid hi
  have HZ0 := Lib.hid hz0
  have HZ1 := Lib.hid hz1
  have HZ2 := Lib.hid hz2
  have HBS := Lib.hid hbs
  have hgs := groups_small (q := q) hk
  have HUP : Hid (∀ l ∈ groupsOf k q, l ∈ upLists (2 * k) q) := fun l h => groups_up h
  have HIN : Hid (rowsAmong k bs t (groupsOf k q) = rowsIn k q bs t) := rfl
  generalize groupsOf k q = ls at hF hgs HUP HIN
  obtain ⟨f, hf⟩ : ∃ f : Nat → Bool, f = fun i => bs.getD i false := ⟨_, rfl⟩
  have HPL : Hid (placeCells bs t = place9 f t) := by show _ = _; rw [place_nine9, hf]
  rw [HPL.out]
  have H3 := Lib.hid (Whole.fresh w 80 (place9 f t))
  have HB := Lib.hid (below1 w (.cells (place9 f t) 80))
  have HF := Lib.hid hF
  have hF1 := hF.alloc (.cells (place9 f t) 80)
  have e0 := hF1.gr.cells1
  clear hi hz0 hz1 hz2 hbs hF hF1 hf
  unfold place9 at e0
  unfold place9
  go_enter Try.func103, Try.ntmps103
  go_wp2
  go_loopw [5, 11] (fun v i wr => ∃ (j : Nat) (T : Option Addr) (r : Nat) (rs : List RowV), j ≤ ls.length ∧ i = .int .i64 j ∧ v = .slice T rs.length r ∧ rowNums rs = rowsAmong k bs t (ls.take j) ∧ Moves wr (w.heap.size + 1) T r bs t rs ∧ Whole wr w.heap.size 80 (place9 f t) ∧ Below w.heap.size w wr) (fun _ i _ => ls.length - (intOf i).toNat)
  case atStart => exact ⟨0, none, 0, [], Nat.zero_le _, rfl, rfl, rfl, Moves.nil _ _ _ _, H3.out, HB.out⟩
  case round =>
    clear H3 HB e0
    obtain ⟨j, T, r, rs, hj, rfl, rfl, hrn, hM, h3, ht⟩ := hrel
    have HOL : Hid (∀ x, (Value.slice T rs.length r).ownBlock = some x → w.heap.size + 1 ≤ x ∧ x < wr.heap.size) := fun x hx => hM.1.lt x hx
    have hrl : rs.length ≤ 255 := by have h1 := congrArg List.length hrn; have h2 := among_len k bs t (ls.take j); rw [rowNums_len] at h1; rw [List.length_take] at h2; omega
    by_cases hlt : j < ls.length
    · have hd : decide ((j : Int) < (ls.length : Int)) = true := by simp; omega
      have hFr := HF.out.below ht
      obtain ⟨gs, rfl, hgl, a0, a1, a2, a3, a4, a5, a6, a7⟩ := crowds_row hFr.own rfl hlt
      have hst := up_steps (HUP.out _ (List.getElem_mem hlt))
      have hl8 := steps_len hst.1 hst.2.1
      have HST := Lib.hid hst.1
      have HOUT : Hid (∀ i, bs.length ≤ i → has ls[j] i = false) := fun i hi => has_out hst.1 (by have := HBS.out; omega)
      have HNO := fun h => Lib.hid (among_no (k := k) (bs := bs) (t := t) hlt h)
      have HYES := fun h => Lib.hid (among_yes (k := k) (bs := bs) (t := t) hlt h)
      have HRS := Lib.hid hrn
      have hwl := h3.lt
      have hw0 : w.heap.size + 1 ≤ wr.heap.size := hwl
      obtain ⟨p0, p1, p2, p3, p4, p5, p6, p7⟩ := row8_of h3
      have p8 : wr.cell? ⟨w.heap.size, 8, none⟩ = some (.bool t) := h3.cell 8
      obtain ⟨f', hf'⟩ : ∃ f' : Nat → Bool, f' = fun i => (flipped bs ls[j]).getD i false := ⟨_, rfl⟩
      have HPF : Hid (placeCells (flipped bs ls[j]) (!t) = place9 f' (!t)) := by show _ = _; rw [place_nine9, hf']
      have HMC : Hid (∀ E n c2, moveCells bs t ⟨E, n, c2, ls[j]⟩ = [.slice E n c2, .bool (f' 0), .bool (f' 1), .bool (f' 2), .bool (f' 3), .bool (f' 4), .bool (f' 5), .bool (f' 6), .bool (f' 7), .bool (!t)]) := fun E n c2 => by rw [moveCells_at, hf']; rfl
      have HLEN : Hid (∀ x : RowV, (rs ++ [x]).length = rs.length + 1) := fun x => by simp
      rw [← hf'] at HNO HYES
      have HM0 := Lib.hid hM
      have HT0 := Lib.hid ht
      have HFR := Lib.hid hFr
      have H30 := Lib.hid h3
      clear hrn hst hf' hM ht hFr h3
      cases ha : allAt bs t ls[j]
      · have HN := HNO (by rw [ha]; rfl)
        have HA := Lib.hid ha
        clear HNO HYES ha
        generalize ls[j] = l at a0 a1 a2 a3 a4 a5 a6 a7 HPF HOUT HST HA HMC hl8
        go_wp2_with fail
        have hx := cross_any bs l t (wr.alloc (.cells (cells8 (has l)) 69)) HOUT.out
        rw [HPL.out, HPF.out, crowd8] at hx
        refine hx.mono ?_
        clear hx
        rintro e w4 ⟨rfl, hb⟩
        have hz4 : wr.heap.size + 1 ≤ w4.heap.size := by have := hb.size; simpa using this
        have hba := below_then (below1 wr (.cells (cells8 (has l)) 69)) hb (by simp)
        have h3b := (H30.out.below hba).alloc (.cells (place9 f' (!t)) 80)
        have h7b := ((Whole.fresh wr 69 (cells8 (has l))).below hb).alloc (.cells (place9 f' (!t)) 80)
        have h8b := Whole.fresh w4 80 (place9 f' (!t))
        have hbb := hba.alloc hba.size (.cells (place9 f' (!t)) 80)
        clear hb hba a0 a1 a2 a3 a4 a5 a6 a7 p0 p1 p2 p3 p4 p5 p6 p7 p8 hwl hgl
        have hwl := h3b.lt
        obtain ⟨p0, p1, p2, p3, p4, p5, p6, p7⟩ := row8_of h3b
        have p8 := h3b.cell 8
        replace p8 : World.cell? (w4.alloc (.cells (place9 f' (!t)) 80)) ⟨w.heap.size, 8, none⟩ = some (.bool t) := p8
        obtain ⟨a0, a1, a2, a3, a4, a5, a6, a7⟩ := row8_cells h7b
        unfold place9 at p0 p1 p2 p3 p4 p5 p6 p7 p8 a0 a1 a2 a3 a4 a5 a6 a7
        unfold place9
        go_wp2_with fail
        have hh := holds_any (2 * k) bs l t (w4.alloc (.cells (place9 f' (!t)) 80)) HST.out (by omega)
        rw [HPL.out, crowd8] at hh
        refine hh.mono ?_
        clear hh
        rintro e w5 ⟨rfl, hb⟩
        rw [HA.out]
        have hbc := below_then hbb hb hbb.size
        have h3c := h3b.below hb
        have h7c := h7b.below hb
        have h8c := h8b.below hb
        have HM := Lib.hid (HM0.out.below hbc)
        have ht := Lib.hid (below_then HT0.out hbc HT0.out.size)
        have hFc := HFR.out.below hbc
        clear hb hbb hbc h3b h7b h8b p0 p1 p2 p3 p4 p5 p6 p7 p8 a0 a1 a2 a3 a4 a5 a6 a7 hwl
        go_wp2
        go_roundw
        case rel => exact ⟨j + 1, T, r, rs, by omega, by go_num, rfl, by rw [HN.out]; exact HRS.out, HM.out, h3c, ht.out⟩
        case measure => simp [intOf]; omega
      · cases hq : quiet k f'
        · have HN := HNO (by rw [ha, hq]; rfl)
          have HA := Lib.hid ha
          have HQ := Lib.hid hq
          clear HNO HYES ha hq
          generalize ls[j] = l at a0 a1 a2 a3 a4 a5 a6 a7 HPF HOUT HST HA HMC hl8
          go_wp2_with fail
          have hx := cross_any bs l t (wr.alloc (.cells (cells8 (has l)) 69)) HOUT.out
          rw [HPL.out, HPF.out, crowd8] at hx
          refine hx.mono ?_
          clear hx
          rintro e w4 ⟨rfl, hb⟩
          have hz4 : wr.heap.size + 1 ≤ w4.heap.size := by have := hb.size; simpa using this
          have hba := below_then (below1 wr (.cells (cells8 (has l)) 69)) hb (by simp)
          have h3b := (H30.out.below hba).alloc (.cells (place9 f' (!t)) 80)
          have h7b := ((Whole.fresh wr 69 (cells8 (has l))).below hb).alloc (.cells (place9 f' (!t)) 80)
          have h8b := Whole.fresh w4 80 (place9 f' (!t))
          have hbb := hba.alloc hba.size (.cells (place9 f' (!t)) 80)
          clear hb hba a0 a1 a2 a3 a4 a5 a6 a7 p0 p1 p2 p3 p4 p5 p6 p7 p8 hwl hgl
          have hwl := h3b.lt
          obtain ⟨p0, p1, p2, p3, p4, p5, p6, p7⟩ := row8_of h3b
          have p8 := h3b.cell 8
          replace p8 : World.cell? (w4.alloc (.cells (place9 f' (!t)) 80)) ⟨w.heap.size, 8, none⟩ = some (.bool t) := p8
          obtain ⟨a0, a1, a2, a3, a4, a5, a6, a7⟩ := row8_cells h7b
          unfold place9 at p0 p1 p2 p3 p4 p5 p6 p7 p8 a0 a1 a2 a3 a4 a5 a6 a7
          unfold place9
          go_wp2_with fail
          have hh := holds_any (2 * k) bs l t (w4.alloc (.cells (place9 f' (!t)) 80)) HST.out (by omega)
          rw [HPL.out, crowd8] at hh
          refine hh.mono ?_
          clear hh
          rintro e w5 ⟨rfl, hb⟩
          rw [HA.out]
          have hbc := below_then hbb hb hbb.size
          have h3c := h3b.below hb
          have h7c := h7b.below hb
          have h8c := h8b.below hb
          have HM := Lib.hid (HM0.out.below hbc)
          have ht := Lib.hid (below_then HT0.out hbc HT0.out.size)
          have hFc := HFR.out.below hbc
          clear hb hbb hbc h3b h7b h8b p0 p1 p2 p3 p4 p5 p6 p7 p8 a0 a1 a2 a3 a4 a5 a6 a7 hwl
          have c0 := hFc.p.cells1
          unfold calmFnV at c0
          obtain ⟨b0, b1, b2, b3, b4, b5, b6, b7⟩ := row8_of h8c
          have b8 : w5.cell? ⟨w4.heap.size, 8, none⟩ = some (.bool (!t)) := h8c.cell 8
          go_wp2_with fail
          refine (calmPlaceFn_any k g1 g3 g4 f' (!t) _ hk hFc.f).mono ?_
          rintro e W5 ⟨rfl, hb⟩
          rw [HQ.out]
          have hz5 : w4.heap.size + 1 ≤ W5.heap.size := by have h1 := hb.size; have h2 := h8c.lt; omega
          have HM' := Lib.hid (HM.out.below hb)
          have HT := Lib.hid (below_then ht.out hb ht.out.size)
          have H3 := Lib.hid (h3c.below hb)
          have H7 := Lib.hid (h7c.below hb)
          have H8 := Lib.hid (h8c.below hb)
          clear hb c0 b0 b1 b2 b3 b4 b5 b6 b7 b8 h3c h7c h8c HM ht hFc
          have HM := HM'
          clear HM'
          go_wp2
          go_roundw
          case rel => exact ⟨j + 1, T, r, rs, by omega, by go_num, rfl, by rw [HN.out]; exact HRS.out, HM.out, H3.out, HT.out⟩
          case measure => simp [intOf]; omega
        · have HN := HYES (by rw [ha, hq]; rfl)
          have HA := Lib.hid ha
          have HQ := Lib.hid hq
          have HRN : Hid (∀ E n c2, rowNums (rs ++ [⟨E, n, c2, ls[j]⟩]) = rowsAmong k bs t (ls.take (j + 1))) := fun E n c2 => by rw [HN.out, ← HRS.out]; simp [rowNums]
          clear HNO HYES ha hq HN
          generalize ls[j] = l at a0 a1 a2 a3 a4 a5 a6 a7 HPF HOUT HST HA HMC hl8 HRN
          go_wp2_with fail
          have hx := cross_any bs l t (wr.alloc (.cells (cells8 (has l)) 69)) HOUT.out
          rw [HPL.out, HPF.out, crowd8] at hx
          refine hx.mono ?_
          clear hx
          rintro e w4 ⟨rfl, hb⟩
          have hz4 : wr.heap.size + 1 ≤ w4.heap.size := by have := hb.size; simpa using this
          have hba := below_then (below1 wr (.cells (cells8 (has l)) 69)) hb (by simp)
          have h3b := (H30.out.below hba).alloc (.cells (place9 f' (!t)) 80)
          have h7b := ((Whole.fresh wr 69 (cells8 (has l))).below hb).alloc (.cells (place9 f' (!t)) 80)
          have h8b := Whole.fresh w4 80 (place9 f' (!t))
          have hbb := hba.alloc hba.size (.cells (place9 f' (!t)) 80)
          clear hb hba a0 a1 a2 a3 a4 a5 a6 a7 p0 p1 p2 p3 p4 p5 p6 p7 p8 hwl hgl
          have hwl := h3b.lt
          obtain ⟨p0, p1, p2, p3, p4, p5, p6, p7⟩ := row8_of h3b
          have p8 := h3b.cell 8
          replace p8 : World.cell? (w4.alloc (.cells (place9 f' (!t)) 80)) ⟨w.heap.size, 8, none⟩ = some (.bool t) := p8
          obtain ⟨a0, a1, a2, a3, a4, a5, a6, a7⟩ := row8_cells h7b
          unfold place9 at p0 p1 p2 p3 p4 p5 p6 p7 p8 a0 a1 a2 a3 a4 a5 a6 a7
          unfold place9
          go_wp2_with fail
          have hh := holds_any (2 * k) bs l t (w4.alloc (.cells (place9 f' (!t)) 80)) HST.out (by omega)
          rw [HPL.out, crowd8] at hh
          refine hh.mono ?_
          clear hh
          rintro e w5 ⟨rfl, hb⟩
          rw [HA.out]
          have hbc := below_then hbb hb hbb.size
          have h3c := h3b.below hb
          have h7c := h7b.below hb
          have h8c := h8b.below hb
          have HM := Lib.hid (HM0.out.below hbc)
          have ht := Lib.hid (below_then HT0.out hbc HT0.out.size)
          have hFc := HFR.out.below hbc
          clear hb hbb hbc h3b h7b h8b p0 p1 p2 p3 p4 p5 p6 p7 p8 a0 a1 a2 a3 a4 a5 a6 a7 hwl
          have c0 := hFc.p.cells1
          unfold calmFnV at c0
          obtain ⟨b0, b1, b2, b3, b4, b5, b6, b7⟩ := row8_of h8c
          have b8 : w5.cell? ⟨w4.heap.size, 8, none⟩ = some (.bool (!t)) := h8c.cell 8
          go_wp2_with fail
          refine (calmPlaceFn_any k g1 g3 g4 f' (!t) _ hk hFc.f).mono ?_
          rintro e W5 ⟨rfl, hb⟩
          rw [HQ.out]
          have hz5 : w4.heap.size + 1 ≤ W5.heap.size := by have h1 := hb.size; have h2 := h8c.lt; omega
          have HM' := Lib.hid (HM.out.below hb)
          have HT := Lib.hid (below_then ht.out hb ht.out.size)
          have H3 := Lib.hid (h3c.below hb)
          have H7 := Lib.hid (h7c.below hb)
          have H8 := Lib.hid (h8c.below hb)
          clear hb c0 b0 b1 b2 b3 b4 b5 b6 b7 b8 h3c h7c h8c HM ht hFc
          have HM := HM'
          clear HM'
          have HMAX := Lib.hid (show rs.length + 1 ≤ maxLen by unfold maxLen; omega)
          have HBYT := Lib.hid (show (rs.length + 1) * 40 ≤ 140737488355328 by omega)
          go_wp2_with fail
          refine wp_region_held_drew (S := (MvS wr.heap.size w4.heap.size (has l) f' (!t))) (by kernel_rfl) (mv_of H7.out.drew H8.out.drew) (fun hHeld => ?_)
          have h3 := H3.out
          refine wpAnyH_take (i := 0) (v := ?_) rfl (by kernel_rfl) (by kernel_rfl) (by kernel_rfl) (fun _ _ _ h => h) (Or.inl ⟨rfl, ?_⟩) hHeld ?_
          rotate_left
          · intro w' hS; obtain ⟨⟨a0, a1, a2, a3, a4, a5, a6, a7⟩, ⟨b0, b1, b2, b3, b4, b5, b6, b7⟩, b8⟩ := hS; go_simp <;> with_reducible rfl
          simp only [Act.put, List.getElem_toArray, List.getElem_cons_succ, List.getElem_cons_zero, List.setIfInBounds_toArray, List.set_cons_succ, List.set_cons_zero]
          refine wpAnyH_take (i := 1) (v := ?_) rfl (by kernel_rfl) (by kernel_rfl) (by kernel_rfl) (fun _ _ _ h => h) (Or.inl ⟨rfl, ?_⟩) hHeld ?_
          rotate_left
          · intro w' hS; obtain ⟨⟨a0, a1, a2, a3, a4, a5, a6, a7⟩, ⟨b0, b1, b2, b3, b4, b5, b6, b7⟩, b8⟩ := hS; go_simp <;> with_reducible rfl
          simp only [Act.put, List.getElem_toArray, List.getElem_cons_succ, List.getElem_cons_zero, List.setIfInBounds_toArray, List.set_cons_succ, List.set_cons_zero]
          refine wpAnyH_take (i := 3) (v := ?_) rfl (by kernel_rfl) (by kernel_rfl) (by kernel_rfl) (fun _ _ _ h => h) (Or.inl ⟨rfl, ?_⟩) hHeld ?_
          rotate_left
          · intro w' hS; obtain ⟨⟨a0, a1, a2, a3, a4, a5, a6, a7⟩, ⟨b0, b1, b2, b3, b4, b5, b6, b7⟩, b8⟩ := hS; go_simp <;> with_reducible rfl
          simp only [Act.put, List.getElem_toArray, List.getElem_cons_succ, List.getElem_cons_zero, List.setIfInBounds_toArray, List.set_cons_succ, List.set_cons_zero]
          refine wpAnyH_ready (rs := [2]) (by kernel_rfl) (by simp) (AllReadyH.cons rfl (fun K hK => ?_) AllReadyH.nil)
          go_simp
          have hls := list_any l (((2 * k : Nat) : Int) - 1) (World.drew W5) HST.out (by omega)
          rw [crowd8] at hls
          refine hls.mono ?_
          clear hls
          rintro e w6 ⟨E, c2, rfl, hown, hb⟩
          have h7' := H7.out.drew.below hb
          have h8' := H8.out.drew.below hb
          have K1 := Lib.hid hown
          have K2 := Lib.hid hb
          have K7 := Lib.hid h7'
          have K8 := Lib.hid h8'
          have K3 := Lib.hid (h3.drew.below hb)
          have KT := Lib.hid (below_then HT.out.drew hb HT.out.size)
          have KO := Lib.hid (ownsRow_below (HM.out.1) (below_then (Below.refl _ _).drew hb (Nat.le_refl _)))
          clear hown hb
          refine hK.out _ _ (mv_of h7' h8') (fun hHeld => ?_)
          clear hK K
          try simp only [Act.put, List.getElem_toArray, List.getElem_cons_succ, List.getElem_cons_zero, List.setIfInBounds_toArray, List.set_cons_succ, List.set_cons_zero]
          refine wpAnyH_take (i := 4) (v := ?_) rfl (by kernel_rfl) (by kernel_rfl) (by kernel_rfl) (fun _ _ _ h => h) (Or.inl ⟨rfl, ?_⟩) hHeld ?_
          rotate_left
          · intro w' hS; obtain ⟨⟨a0, a1, a2, a3, a4, a5, a6, a7⟩, ⟨b0, b1, b2, b3, b4, b5, b6, b7⟩, b8⟩ := hS; go_simp <;> with_reducible rfl
          simp only [Act.put, List.getElem_toArray, List.getElem_cons_succ, List.getElem_cons_zero, List.setIfInBounds_toArray, List.set_cons_succ, List.set_cons_zero]
          refine wpAnyH_ready (rs := [5]) (by kernel_rfl) (by simp) (AllReadyH.cons rfl (fun K hK => ?_) AllReadyH.nil)
          go_simp
          have HO6 := Lib.hid (KO.out.alloc (.cells #[.slice E l.length c2, .bool (f' 0), .bool (f' 1), .bool (f' 2), .bool (f' 3), .bool (f' 4), .bool (f' 5), .bool (f' 6), .bool (f' 7), .bool (!t)] 94))
          have h7'' := K7.out.alloc (.cells #[.slice E l.length c2, .bool (f' 0), .bool (f' 1), .bool (f' 2), .bool (f' 3), .bool (f' 4), .bool (f' 5), .bool (f' 6), .bool (f' 7), .bool (!t)] 94)
          have h8'' := K8.out.alloc (.cells #[.slice E l.length c2, .bool (f' 0), .bool (f' 1), .bool (f' 2), .bool (f' 3), .bool (f' 4), .bool (f' 5), .bool (f' 6), .bool (f' 7), .bool (!t)] 94)
          refine hK.out _ _ (mv_of h7'' h8'') (fun hHeld => ?_)
          clear hK K
          try simp only [Act.put, List.getElem_toArray, List.getElem_cons_succ, List.getElem_cons_zero, List.setIfInBounds_toArray, List.set_cons_succ, List.set_cons_zero]
          refine wpAnyH_ready (rs := [6]) (by kernel_rfl) (by simp) (AllReadyH.cons rfl (fun K hK => ?_) AllReadyH.nil)
          have HNEW := Lib.hid (cells_new w6 94 #[.slice E l.length c2, .bool (f' 0), .bool (f' 1), .bool (f' 2), .bool (f' 3), .bool (f' 4), .bool (f' 5), .bool (f' 6), .bool (f' 7), .bool (!t)])
          have hz6 : W5.heap.size ≤ w6.heap.size := by have := K2.out.size; simpa using this
          have HBASE := Lib.hid (show w.heap.size + 1 ≤ (w6.alloc (.cells #[.slice E l.length c2, .bool (f' 0), .bool (f' 1), .bool (f' 2), .bool (f' 3), .bool (f' 4), .bool (f' 5), .bool (f' 6), .bool (f' 7), .bool (!t)] 94)).heap.size by simp; omega)
          refine step_append_lies _ rfl (.tmp 26) (.tmp 31) 88 rfl (w.heap.size + 1) 94 i0 (.agg #[.slice none 0 0, .bool false, .bool false, .bool false, .bool false, .bool false, .bool false, .bool false, .bool false, .bool false]) 10 40 Try.underlying88 HI.out HZ0.out HZ1.out HZ2.out rfl (by decide) (.slice T rs.length r) rs.length (movesCells bs t rs) (by simp [Act.eval]) HO6.out ⟨w6.heap.size, 0, none⟩ 1 1 [.slice E l.length c2, .bool (f' 0), .bool (f' 1), .bool (f' 2), .bool (f' 3), .bool (f' 4), .bool (f' 5), .bool (f' 6), .bool (f' 7), .bool (!t)] (by simp [Act.eval]) rfl HNEW.out (by simp [Value.oneCell']) (by decide) HMAX.out HBYT.out HBASE.out (w6.heap.size + 1) (by simp) ?_
          intro g3 c3 w7 hown3 hg3 hat3 hlt3
          have hrr : ∀ x, (Value.slice T rs.length r).ownBlock = some x → w.heap.size + 1 ≤ x ∧ x < wr.heap.size := HOL.out
          have q7 := whole_apart h7'' hg3 (fun e => absurd (hrr _ e.symm).2 (by omega))
          have q8 := whole_apart h8'' hg3 (fun e => absurd (hrr _ e.symm).2 (by omega))
          have q3 := whole_grown (lo := w.heap.size + 1) (K3.out.alloc _) hg3 (fun x hx => (hrr x hx).1) (by omega)
          have hsp := Spread.push (r := ⟨E, l.length, c2, l⟩) HM.out.2 (fun q hq => by obtain ⟨a, ha, hb⟩ := slice_own hq; exact ⟨a, ha, hb, by have := (hrr q hq).2; omega⟩) (by omega) (below_undrew K2.out) (fresh_undrew (Fresh.of_own' K1.out)) rfl (by show l.length ≤ _; omega) hg3 hat3
          have hbt := Below.grown (KT.out.alloc KT.out.size _) hg3 (by have := KT.out.size; simp; omega) (fun x hx => by have := (hrr x hx).1; omega)
          have P1 := Lib.hid hsp
          have P2 := Lib.hid hown3
          have P3 := Lib.hid q3
          have P4 := Lib.hid hbt
          clear hsp hown3 hg3 hat3 hlt3 q3 hbt hrr
          refine hK.out _ _ (mv_of q7 q8) (fun hHeld => ?_)
          clear hK K
          try simp only [Act.put, List.getElem_toArray, List.getElem_cons_succ, List.getElem_cons_zero, List.setIfInBounds_toArray, List.set_cons_succ, List.set_cons_zero]
          refine wpAnyH_take (i := 7) (v := ?_) rfl (by kernel_rfl) (by kernel_rfl) (by kernel_rfl) (fun _ _ _ h => h) (Or.inl ⟨rfl, ?_⟩) hHeld ?_
          rotate_left
          · intro w' hS; obtain ⟨⟨a0, a1, a2, a3, a4, a5, a6, a7⟩, ⟨b0, b1, b2, b3, b4, b5, b6, b7⟩, b8⟩ := hS; go_simp <;> with_reducible rfl
          simp only [Act.put, List.getElem_toArray, List.getElem_cons_succ, List.getElem_cons_zero, List.setIfInBounds_toArray, List.set_cons_succ, List.set_cons_zero]
          refine wpAnyH_done (by kernel_rfl) ?_ _
          clear hHeld
          go_wp2
          go_roundw
          case rel => exact ⟨j + 1, some ⟨g3, 0, none⟩, c3, rs ++ [⟨E, l.length, c2, l⟩], by omega, by go_num, by rw [HLEN.out], by rw [HRN.out], ⟨by rw [HLEN.out, movesCells_snoc, HMC.out]; exact P2.out, P1.out⟩, P3.out, P4.out⟩
          case measure => simp [intOf]; omega
    · obtain rfl : j = ls.length := by omega
      have hd : decide ((ls.length : Int) < (ls.length : Int)) = false := by simp
      rw [List.take_length] at hrn
      have HR := Lib.hid (hrn.trans HIN.out)
      have HM := Lib.hid hM
      have HT := Lib.hid ht
      clear hrn hM ht
      go_wp2
      go_ret
      exact ⟨T, r, rs, rfl, HR.out, ⟨own_lower HM.out.1 (by omega), Spread.raise HM.out.2 (by omega)⟩, HT.out⟩
end Go.Proofs.Yteeolclnoblkcaa

namespace Go.Proofs.Yteeolclnoblkcaa
open Go.RowKit

set_option maxHeartbeats 400000 in
theorem equalI_any (A B : Option Addr) (n m c d : Nat) (xs ys : List Int) (w : World) (hA : Holds w A (nums xs)) (hB : Holds w B (nums ys)) (hx : xs.length = n) (hy : ys.length = m)
    (hn : n ≤ 9223372036854775807) (hm : m ≤ 9223372036854775807) :
    Calls Try.prog 107 #[.slice A n c, .slice B m d] w fun e w' => e = .returned (.bool (sameInts xs ys)) ∧ ∃ k, w' = w.drewN k := by
  subst hx hy
  by_cases hl : xs.length = ys.length
  · have hl' : ((xs.length : Int) != (ys.length : Int)) = false := by simp [hl]
    have HL := Lib.hid hl
    clear hl
    go_enter Try.func107, Try.ntmps107
    go_wp2
    go_loopw [13] (fun i wr => ∃ k q : Nat, k ≤ xs.length ∧ i = .int .i64 k ∧ wr = w.drewN q ∧ xs.take k = ys.take k) (fun i _ => xs.length - (intOf i).toNat)
    case atStart => exact ⟨0, 0, Nat.zero_le _, rfl, rfl, rfl⟩
    case round =>
      obtain ⟨k, q, hk, rfl, rfl, ht⟩ := hrel
      have HT := Lib.hid ht
      clear ht
      by_cases hlt : k < xs.length
      · have hlt' : k < ys.length := by have := HL.out; omega
        obtain ⟨b, o, rfl, hb, hc⟩ := hA.look (k := k) (by simpa [nums] using hlt)
        obtain ⟨b', o', rfl, hb', hc'⟩ := hB.look (k := k) (by simpa [nums] using hlt')
        simp only [nums, List.getElem_map] at hc hc'
        by_cases he : xs[k] = ys[k]
        · have hne : (xs[k] != ys[k]) = false := by simp [he]
          have HE := Lib.hid he
          clear he
          go_wp2
          go_quiet (fail)
          go_wp2
          go_roundw
          case rel => exact ⟨k + 1, _, by omega, by go_num, rfl, take_next hlt hlt' HT.out HE.out⟩
          case measure => simp [intOf]; omega
        · have hne : (xs[k] != ys[k]) = true := by simp [he]
          have HN := Lib.hid (sameInts_no (fun h : xs = ys => he (by subst h; rfl)))
          clear he
          go_wp2
          go_quiet (fail)
          go_wp2
          go_ret
          exact ⟨by rw [HN.out]; rfl, q + _, World.drewN_drewN _ _ _⟩
      · have h1 := HT.out
        rw [List.take_of_length_le (by omega), List.take_of_length_le (by have := HL.out; omega)] at h1
        have HN := Lib.hid (sameInts_yes h1)
        clear h1
        go_wp2
        go_ret
        exact ⟨by rw [HN.out]; rfl, _, rfl⟩
  · have hl' : ((xs.length : Int) != (ys.length : Int)) = true := by simp; omega
    have HN := Lib.hid (sameInts_no (fun h : xs = ys => hl (by rw [h])))
    clear hl
    go_enter Try.func107, Try.ntmps107
    go_wp2
    go_ret
    exact ⟨by rw [HN.out]; rfl, 0, rfl⟩

theorem below_drewN {w : World} (k : Nat) : Below w.heap.size w (w.drewN k) := below_draws (Below.refl _ _) k

/-- The ten cells of a move in a list of moves. -/
theorem moves_row {w : World} {lo c : Nat} {A : Option Addr} {bs : List Bool} {t : Bool} {rs : List RowV} (h : Moves w lo A c bs t rs) {i : Nat} (hi : i < rs.length) :
    ∃ g, A = some ⟨g, 0, none⟩ ∧ g < w.heap.size ∧ w.cell? ⟨g, i * 10, none⟩ = some rs[i].val ∧ w.cell? ⟨g, i * 10 + 1, none⟩ = some (.bool ((flipped bs rs[i].xs).getD 0 false)) ∧ w.cell? ⟨g, i * 10 + 2, none⟩ = some (.bool ((flipped bs rs[i].xs).getD 1 false)) ∧ w.cell? ⟨g, i * 10 + 3, none⟩ = some (.bool ((flipped bs rs[i].xs).getD 2 false)) ∧ w.cell? ⟨g, i * 10 + 4, none⟩ = some (.bool ((flipped bs rs[i].xs).getD 3 false)) ∧ w.cell? ⟨g, i * 10 + 5, none⟩ = some (.bool ((flipped bs rs[i].xs).getD 4 false)) ∧ w.cell? ⟨g, i * 10 + 6, none⟩ = some (.bool ((flipped bs rs[i].xs).getD 5 false)) ∧ w.cell? ⟨g, i * 10 + 7, none⟩ = some (.bool ((flipped bs rs[i].xs).getD 6 false)) ∧ w.cell? ⟨g, i * 10 + 8, none⟩ = some (.bool ((flipped bs rs[i].xs).getD 7 false)) ∧ w.cell? ⟨g, i * 10 + 9, none⟩ = some (.bool (!t)) := by
  have hx := h.1
  obtain ⟨-, ⟨-, h0⟩ | ⟨g, cap, cur, hv, -, hh, -⟩⟩ := hx
  · omega
  · obtain ⟨rfl, rfl⟩ : A = some ⟨g, 0, none⟩ ∧ c = cap := by simpa using hv
    have hg : g < w.heap.size := (Array.getElem?_eq_some_iff.1 hh).1
    have hc : ∀ j, j < 10 → w.cell? ⟨g, i * 10 + j, none⟩ = (moveCells bs t rs[i])[j]? := fun j hj => (h.1.cellAt (i * 10 + j) (by omega)).trans (movesCells_get bs t rs i j hi hj)
    exact ⟨g, rfl, hg, hc 0 (by omega), hc 1 (by omega), hc 2 (by omega), hc 3 (by omega), hc 4 (by omega), hc 5 (by omega), hc 6 (by omega), hc 7 (by omega), hc 8 (by omega), hc 9 (by omega)⟩

/-- What stateBehind hands back. -/
def BehindPost (k q : Nat) (bs : List Bool) (t : Bool) (l : List Int) (w : World) (e : Ending) (w' : World) : Prop :=
  ((l ∈ rowsIn k q bs t ∧ e = .returned (.tuple #[.agg (placeCells (flipped bs l) (!t)), .bool true])) ∨ (l ∉ rowsIn k q bs t ∧ e = .returned (.tuple #[.agg (placeCells bs t), .bool false]))) ∧ Below w.heap.size w w'
theorem river_cell {w : World} {g k gG gC : Nat} {ty : TypeId} (h : Whole w g ty (riverCells k gG gC)) : w.cell? ⟨g, 18, none⟩ = some (.func (.func 103) #[] #[.pointer (some ⟨gG, 0, none⟩), .pointer (some ⟨gC, 0, none⟩)]) := h.cell 18

set_option maxHeartbeats 12800000 in
set_option maxRecDepth 100000 in
theorem stateBehind_any (k q gG gC g1 g3 g4 g : Nat) (A D : Option Addr) (c n d : Nat) (bs : List Bool) (t : Bool) (l : List Int) (w : World) (hk : k ≤ 4) (hbs : bs.length = 2 * k) (hF : RowsFn w k gG gC g1 g3 g4 g A c (groupsOf k q)) (hD : Holds w D (nums l)) (hl : l.length = n) (hn : n ≤ 9223372036854775807) :
    Calls Try.prog 76 #[.agg (riverCells k gG gC), .agg (placeCells bs t), .slice D n d] w (BehindPost k q bs t l w) := by
  have HL := Lib.hid hl
  have HBS := Lib.hid hbs
  obtain ⟨f, hf⟩ : ∃ f : Nat → Bool, f = fun i => bs.getD i false := ⟨_, rfl⟩
  have HPL : Hid (placeCells bs t = place9 f t) := by show _ = _; rw [place_nine9, hf]
  have hr := ((Whole.fresh w 91 (riverCells k gG gC)).alloc (.cells (place9 f t) 80)).alloc (.cells (place9 (fun _ => false) false) 80)
  have hp := (Whole.fresh (w.alloc (.cells (riverCells k gG gC) 91)) 80 (place9 f t)).alloc (.cells (place9 (fun _ => false) false) 80)
  have hz := Whole.fresh ((w.alloc (.cells (riverCells k gG gC) 91)).alloc (.cells (place9 f t) 80)) 80 (place9 (fun _ => false) false)
  simp only [World.size_alloc] at hp hz
  have ht := below3 w (.cells (riverCells k gG gC) 91) (.cells (place9 f t) 80) (.cells (place9 (fun _ => false) false) 80)
  have hF1 := ((hF.alloc (.cells (riverCells k gG gC) 91)).alloc (.cells (place9 f t) 80)).alloc (.cells (place9 (fun _ => false) false) 80)
  rw [HPL.out]
  have e18 := river_cell hr
  have HP := Lib.hid hp
  have HZ := Lib.hid hz
  have HT := Lib.hid ht
  have HF := Lib.hid hF1
  clear hl hbs hf hF hF1 hr hp hz ht
  unfold place9 at HP HZ HT HF e18
  unfold place9
  unfold riverCells rowsFnV at HP HZ HT HF e18
  unfold riverCells rowsFnV
  go_enter Try.func76, Try.ntmps76
  go_wp2_with fail
  have hrf := rowsFn_any k q gG gC g1 g3 g4 g A c bs t _ hk HBS.out HF.out
  rw [HPL.out] at hrf
  unfold place9 at hrf
  refine hrf.mono ?_
  clear hrf
  rintro e w1 ⟨A1, c1, rs, rfl, hrn, hM, hb⟩
  have HP1 := Lib.hid (HP.out.below hb)
  have HZ1 := Lib.hid (HZ.out.below hb)
  have HT1 := Lib.hid (below_then HT.out hb HT.out.size)
  have HM := Lib.hid hM
  have HRN := Lib.hid hrn
  have hrl : rs.length ≤ 255 := by have h1 := congrArg List.length hrn; have h2 := among_len k bs t (groupsOf k q); have h3 := groups_small (q := q) hk; rw [rowNums_len] at h1; rw [rowsIn] at h1; omega
  clear HP HZ HT HF e18 hb hM hrn
  go_wp2
  go_loopw [15] (fun i wr => ∃ j : Nat, j ≤ rs.length ∧ i = .int .i64 j ∧ Below w1.heap.size w1 wr ∧ ∀ i (hi : i < rs.length), i < j → rs[i].xs ≠ l) (fun i _ => rs.length - (intOf i).toNat)
  case atStart => exact ⟨0, Nat.zero_le _, rfl, Below.refl _ _, fun i _ h => absurd h (by omega)⟩
  case round =>
    obtain ⟨j, hj, rfl, hb, hno⟩ := hrel
    have HNO := Lib.hid hno
    have hT := below_then HT1.out hb HT1.out.size
    have hZ := HZ1.out.below hb
    have hP := HP1.out.below hb
    clear hno
    obtain ⟨z0, z1, z2, z3, z4, z5, z6, z7⟩ := row8_of (f := fun _ => false) (t := false) hZ
    have z8 : wr.cell? ⟨w.heap.size + 1 + 1, 8, none⟩ = some (.bool false) := hZ.cell 8
    obtain ⟨y0, y1, y2, y3, y4, y5, y6, y7, y8⟩ := place_open hZ
    have hzl := hZ.lt
    by_cases hlt : j < rs.length
    · have hd : decide ((j : Int) < (rs.length : Int)) = true := by simp; omega
      have hMr := HM.out.below hb
      obtain ⟨gm, rfl, hgl, a0, a1, a2, a3, a4, a5, a6, a7, a8, a9⟩ := moves_row hMr hlt
      have hok := hMr.2.ok rs[j] (List.getElem_mem hlt)
      have hmem : rs[j].xs ∈ rowNums rs := List.mem_map.2 ⟨rs[j], List.getElem_mem hlt, rfl⟩
      rw [HRN.out] at hmem
      have HMEM := Lib.hid hmem
      have HSTEP : Hid (rs[j].xs ≠ l → ∀ i (hi : i < rs.length), i < j + 1 → rs[i].xs ≠ l) := fun hne i hi hij => by
        rcases Nat.lt_succ_iff_lt_or_eq.1 hij with h | rfl
        · exact HNO.out i hi h
        · exact hne
      obtain ⟨f', hf'⟩ : ∃ f' : Nat → Bool, f' = fun i => (flipped bs rs[j].xs).getD i false := ⟨_, rfl⟩
      have HPF : Hid (placeCells (flipped bs rs[j].xs) (!t) = place9 f' (!t)) := by show _ = _; rw [place_nine9, hf']
      replace a1 : wr.cell? ⟨gm, j * 10 + 1, none⟩ = some (.bool (f' 0)) := by rw [a1, hf']
      replace a2 : wr.cell? ⟨gm, j * 10 + 2, none⟩ = some (.bool (f' 1)) := by rw [a2, hf']
      replace a3 : wr.cell? ⟨gm, j * 10 + 3, none⟩ = some (.bool (f' 2)) := by rw [a3, hf']
      replace a4 : wr.cell? ⟨gm, j * 10 + 4, none⟩ = some (.bool (f' 3)) := by rw [a4, hf']
      replace a5 : wr.cell? ⟨gm, j * 10 + 5, none⟩ = some (.bool (f' 4)) := by rw [a5, hf']
      replace a6 : wr.cell? ⟨gm, j * 10 + 6, none⟩ = some (.bool (f' 5)) := by rw [a6, hf']
      replace a7 : wr.cell? ⟨gm, j * 10 + 7, none⟩ = some (.bool (f' 6)) := by rw [a7, hf']
      replace a8 : wr.cell? ⟨gm, j * 10 + 8, none⟩ = some (.bool (f' 7)) := by rw [a8, hf']
      clear hmem hf' hMr
      generalize rs[j] = r at a0 hok HMEM HSTEP HPF
      obtain ⟨rA, rn, rc, rx⟩ := r
      obtain ⟨hk1, hk2, hk3⟩ := hok
      simp only at hk1 hk2 hk3 HMEM HSTEP HPF
      unfold RowV.val at a0
      simp only at a0
      have HK1 := Lib.hid hk1
      have HK2 := Lib.hid hk2
      have HDR := Lib.hid (hD.below hT)
      have HBW := Lib.hid hb
      have HTW := Lib.hid hT
      clear hk1 hk2 hb hT
      go_wp2_with fail
      refine (equalI_any rA D rn n rc d rx l _ (HK1.out.alloc _) (HDR.out.alloc _) HK2.out HL.out hk3 hn).mono ?_
      rintro e w2 ⟨rfl, kk, rfl⟩
      by_cases he : rx = l
      · subst he
        rw [sameInts_yes rfl]
        have HT2 := Lib.hid (below_draws (HTW.out.alloc HTW.out.size (.cells #[.slice rA rn rc, .bool (f' 0), .bool (f' 1), .bool (f' 2), .bool (f' 3), .bool (f' 4), .bool (f' 5), .bool (f' 6), .bool (f' 7), .bool (!t)] 94)) kk)
        have hZ2 : Whole (World.drewN (wr.alloc (.cells #[.slice rA rn rc, .bool (f' 0), .bool (f' 1), .bool (f' 2), .bool (f' 3), .bool (f' 4), .bool (f' 5), .bool (f' 6), .bool (f' 7), .bool (!t)] 94)) kk) (w.heap.size + 1 + 1) 80 (place9 (fun _ => false) false) := hZ.alloc _
        clear HK1 HK2 a0 a1 a2 a3 a4 a5 a6 a7 a8 a9 hP hZ z0 z1 z2 z3 z4 z5 z6 z7 z8 y0 y1 y2 y3 y4 y5 y6 y7 y8
        obtain ⟨z0, z1, z2, z3, z4, z5, z6, z7⟩ := row8_of hZ2
        have z8 := hZ2.cell 8
        replace z8 : World.cell? (World.drewN (wr.alloc (.cells #[.slice rA rn rc, .bool (f' 0), .bool (f' 1), .bool (f' 2), .bool (f' 3), .bool (f' 4), .bool (f' 5), .bool (f' 6), .bool (f' 7), .bool (!t)] 94)) kk) ⟨w.heap.size + 1 + 1, 8, none⟩ = some (.bool false) := z8
        obtain ⟨y0, y1, y2, y3, y4, y5, y6, y7, y8⟩ := place_open hZ2
        go_wp2
        refine bodyPost_ret (v := .tuple #[.agg (place9 f' (!t)), .bool true]) (by simp [results, Try.results76, go_sem, z0, z1, z2, z3, z4, z5, z6, z7, z8, place9]) rfl ⟨.inl ⟨HMEM.out, by rw [HPF.out]⟩, ?_⟩
        exact set_place HT2.out (by omega)
      · rw [sameInts_no he]
        have HST := Lib.hid (HSTEP.out he)
        have HB2 := Lib.hid (below_draws (HBW.out.alloc HBW.out.size (.cells #[.slice rA rn rc, .bool (f' 0), .bool (f' 1), .bool (f' 2), .bool (f' 3), .bool (f' 4), .bool (f' 5), .bool (f' 6), .bool (f' 7), .bool (!t)] 94)) kk)
        clear HK1 HK2 a0 a1 a2 a3 a4 a5 a6 a7 a8 a9 hP hZ
        go_wp2
        go_roundw
        case rel => exact ⟨j + 1, by omega, by go_num, HB2.out, HST.out⟩
        case measure => simp [intOf]; omega
    · obtain rfl : j = rs.length := by omega
      have hd : decide ((rs.length : Int) < (rs.length : Int)) = false := by simp
      have HNI : Hid (l ∉ rowsIn k q bs t) := fun h => by
        rw [← HRN.out] at h
        obtain ⟨r, hr, he⟩ := List.mem_map.1 h
        obtain ⟨i, hi, rfl⟩ := List.getElem_of_mem hr
        exact HNO.out i hi hi he
      obtain ⟨p0, p1, p2, p3, p4, p5, p6, p7⟩ := row8_of (f := f) (t := t) hP
      have p8 : wr.cell? ⟨w.heap.size + 1, 8, none⟩ = some (.bool t) := hP.cell 8
      have HTW := Lib.hid hT
      clear hP hZ hT hb
      go_wp2
      refine bodyPost_ret (v := .tuple #[.agg (place9 f t), .bool false]) (by simp [results, Try.results76, go_sem, z0, z1, z2, z3, z4, z5, z6, z7, z8, place9]) rfl ⟨.inr ⟨HNI.out, by rw [HPL.out]⟩, ?_⟩
      exact set_place HTW.out (by omega)
end Go.Proofs.Yteeolclnoblkcaa

namespace Go.Proofs.Yteeolclnoblkcaa
open Go.RowKit

/-- The first k bits that are set. -/
def listTo (g k : Nat) : List Int := ((List.range k).filter (fun i => bitAt g i)).map Int.ofNat
theorem listTo_yes {g k : Nat} (h : bitAt g k = true) : listTo g (k + 1) = listTo g k ++ [(k : Int)] := by
  simp only [listTo, List.range_succ, List.filter_append, List.map_append, List.filter_cons, h]; rfl
theorem listTo_no {g k : Nat} (h : bitAt g k = false) : listTo g (k + 1) = listTo g k := by
  simp only [listTo, List.range_succ, List.filter_append, List.map_append, List.filter_cons, h]; simp
theorem listTo_len (g k : Nat) : (listTo g k).length ≤ k := by
  have := List.length_filter_le (fun i => bitAt g i) (List.range k)
  simpa [listTo] using this
def listOf (g : Nat) : List Int := listTo g 8
theorem bit_high {g k i : Nat} (h : g / 2 ^ k = 0) (hi : k ≤ i) : bitAt g i = false := by
  rw [bitAt_def]
  have h1 : g < 2 ^ k := by
    rcases Nat.div_eq_zero_iff.1 h with h | h
    · exact absurd h (by have := Nat.two_pow_pos k; omega)
    · exact h
  have h2 : 2 ^ k ≤ 2 ^ i := Nat.pow_le_pow_right (by omega) hi
  rw [Nat.div_eq_of_lt (by omega)]
  rfl
theorem listTo_all {g k : Nat} (h : g / 2 ^ k = 0) : ∀ j, k ≤ j → listTo g j = listTo g k
  | 0, hj => by have : k = 0 := by omega
                subst this; rfl
  | j + 1, hj => by
    by_cases hk : k = j + 1
    · subst hk; rfl
    · rw [listTo_no (bit_high h (by omega)), listTo_all h j (by omega)]
theorem testk (m k : Nat) : (((m : Int) / 2 ^ k).tmod 2 == 1) = bitAt m k := by
  rw [shr_nat, Int.tmod_eq_emod_of_nonneg (Int.natCast_nonneg _), bitAt_def]
  generalize m / 2 ^ k = x
  by_cases h : x % 2 = 1
  · have : ((x : Int) % 2) = 1 := by omega
    simp [h, this]
  · have : ((x : Int) % 2) ≠ 1 := by omega
    simp [h, this]

set_option maxHeartbeats 1600000 in
theorem cuList_any (g : Nat) (w : World) (hg : g < 256) :
    Calls Try.prog 69 #[.int .i64 g] w (OwnPost (listOf g) w) := by
  obtain ⟨i0, hi, hz0, hz1, hz2⟩ := info_parts info_int
  have HI := Lib.hid hi
  have HZ0 := Lib.hid hz0
  have HZ1 := Lib.hid hz1
  have HZ2 := Lib.hid hz2
  clear hi hz0 hz1 hz2
  go_enter Try.func69, Try.ntmps69
  go_wp2
  go_loopw [3, 4] (fun v i wr => ∃ (k : Nat) (E : Option Addr) (r : Nat), k ≤ 8 ∧ i = .int .i64 k ∧ v = .slice E (listTo g k).length r ∧ wr.ownsRow w.heap.size 3 1 (.slice E (listTo g k).length r) (listTo g k).length (nums (listTo g k)) ∧ Below w.heap.size w wr) (fun _ i _ => 8 - (intOf i).toNat)
  case atStart => exact ⟨0, none, 0, Nat.zero_le _, rfl, rfl, World.ownsRow_nil _ _ _ _, Below.refl _ _⟩
  case round =>
    obtain ⟨k, E, r, hk, rfl, rfl, hown, hb⟩ := hrel
    have hhl := listTo_len g k
    have hs2 : w.heap.size ≤ wr.heap.size := hb.size
    by_cases hgt : 0 < g / 2 ^ k
    · have hd : decide ((0 : Int) < (g : Int) / 2 ^ k) = true := by rw [shr_nat]; exact decide_eq_true (Int.natCast_pos.2 hgt)
      have hk8 : k < 8 := by
        by_cases h8 : k < 8
        · exact h8
        · have : k = 8 := by omega
          subst this
          have : g / 2 ^ 8 = 0 := Nat.div_eq_of_lt (by omega)
          omega
      have htk := testk g k
      have HOWN := Lib.hid hown
      have HB := Lib.hid hb
      clear hown hb hgt
      cases hx : bitAt g k
      · rw [hx] at htk
        have HS := Lib.hid (listTo_no hx)
        clear hx
        go_wp2
        go_roundw
        case rel => exact ⟨k + 1, E, r, by omega, by go_num, by rw [HS.out], by rw [HS.out]; exact HOWN.out, HB.out⟩
        case measure => simp [intOf]; omega
      · rw [hx] at htk
        have HS := Lib.hid (listTo_yes hx)
        have HLEN : Hid ((listTo g (k + 1)).length = (listTo g k).length + 1) := by show _ = _; rw [HS.out]; simp
        clear hx
        have HOW := Lib.hid (HOWN.out.alloc (.cells #[.int .i64 k] 3))
        have HBB := Lib.hid (HB.out.alloc hs2 (.cells #[.int .i64 k] 3))
        have HBASE := Lib.hid (show w.heap.size ≤ (wr.alloc (.cells #[.int .i64 k] 3)).heap.size by simp; omega)
        have HMAX := Lib.hid (show (listTo g k).length + 1 ≤ maxLen by unfold maxLen; omega)
        have HBYT := Lib.hid (show ((listTo g k).length + 1) * 8 ≤ 140737488355328 by omega)
        go_wp2_with (at_builtin; refine wpList_append_own _ rfl (.tmp 16) (.tmp 18) 28 rfl w.heap.size 3 i0 (.int .i64 0) 1 8 Try.underlying28 HI.out HZ0.out HZ1.out HZ2.out rfl (by decide) (.slice E (listTo g k).length r) (listTo g k).length (nums (listTo g k)) rfl HOW.out ⟨wr.heap.size, 0, none⟩ 1 1 [.int .i64 k] rfl rfl (cell_one_new _ _ _) (by simp [Value.oneCell']) HMAX.out HBYT.out HBASE.out ?_; intro v' w1 hown1 hg1 _; obtain ⟨D', q', hv', -⟩ := Fresh.of_own hown1 (Nat.le_refl _); rw [hv'] at hown1 ⊢; clear hv')
        have HBN := Lib.hid (HBB.out.grown hg1 HBASE.out (fun kk e => (HOW.out.lt _ e).1))
        have HON := Lib.hid hown1
        clear hg1 hown1
        go_roundw
        case rel => exact ⟨k + 1, D', q', by omega, by go_num, by rw [HLEN.out], by rw [HLEN.out, HS.out, show nums (listTo g k ++ [(k : Int)]) = nums (listTo g k) ++ [.int .i64 k] by simp [nums]]; exact HON.out, HBN.out⟩
        case measure => simp [intOf]; omega
    · have h0 : g / 2 ^ k = 0 := Nat.eq_zero_of_not_pos hgt
      have hd : decide ((0 : Int) < (g : Int) / 2 ^ k) = false := by rw [shr_nat, h0]; rfl
      have HA := Lib.hid (listTo_all h0 8 hk)
      have HO := Lib.hid hown
      have HB := Lib.hid hb
      clear hown hb hgt h0
      go_wp2
      go_ret
      refine ⟨E, r, by rw [listOf, HA.out]; rfl, ?_, HB.out⟩
      rw [listOf, HA.out]
      exact HO.out
end Go.Proofs.Yteeolclnoblkcaa

namespace Go.Proofs.Yteeolclnoblkcaa
open Go.RowKit

/-- Those on the boat's side. -/
def hereM (k x : Nat) : Nat := if x % 2 = 0 then 2 ^ (2 * k) - 1 - x / 2 else x / 2
/-- A row, told by bits. -/
def canM (k : Nat) (q : Int) (x g : Nat) : Bool := decide (g &&& hereM k x = g) && (decide (((listOf g).length : Int) ≤ q) && (calm k (bitAt g) && quiet k (bitAt ((x ^^^ (2 * g + 1)) / 2))))
theorem can_no1 {k : Nat} {q : Int} {x g : Nat} (h : g &&& hereM k x ≠ g) : canM k q x g = false := by simp [canM, h]
theorem can_no2 {k : Nat} {q : Int} {x g : Nat} (h : q < ((listOf g).length : Int)) : canM k q x g = false := by simp [canM]; omega
theorem can_no3 {k : Nat} {q : Int} {x g : Nat} (h : calm k (bitAt g) = false) : canM k q x g = false := by simp [canM, h]
theorem can_on {k : Nat} {q : Int} {x g : Nat} (h1 : g &&& hereM k x = g) (h2 : ¬ q < ((listOf g).length : Int)) (h3 : calm k (bitAt g) = true) : canM k q x g = quiet k (bitAt ((x ^^^ (2 * g + 1)) / 2)) := by
  have h2' : ((listOf g).length : Int) ≤ q := by omega
  simp [canM, h1, h2', h3]

set_option maxHeartbeats 12800000 in
set_option maxRecDepth 100000 in
theorem cuCan_any (k : Nat) (q : Int) (x g : Nat) (w : World) (hk : k ≤ 4) (hx : x / 2 < 2 ^ (2 * k)) (hg0 : 1 ≤ g) (hg : g < 2 ^ (2 * k)) :
    Calls Try.prog 100 #[.agg #[.int .i64 k, .int .i64 q], .int .i64 x, .int .i64 g] w fun e w' => e = .returned (.bool (canM k q x g)) ∧ Below w.heap.size w w' := by
  have hp := pow_c hk
  have hg8 : g < 256 := by omega
  have hx8 : x / 2 < 256 := by omega
  have hc := Whole.fresh w 25 #[.int .i64 k, .int .i64 q]
  have ht := below1 w (.cells #[.int .i64 k, .int .i64 q] 25)
  have HXL := Lib.hid hx
  have HGL := Lib.hid hg
  obtain ⟨H, hH⟩ : ∃ H : Nat, H = hereM k x := ⟨_, rfl⟩
  have hHs : H < 256 := by rw [hH, hereM]; split <;> omega
  have HH := Lib.hid hH
  have hz : ((g : Int) == 0) = false := by simp; omega
  clear hx hg hH
  go_enter Try.func100, Try.ntmps100
  go_upto_if 12 with fail
  go_cut [7] (fun s7 wx => s7 = .int .i64 (H : Int) ∧ Whole wx w.heap.size 25 #[.int .i64 k, .int .i64 q] ∧ Below w.heap.size w wx)
  case first =>
    by_cases hev : x % 2 = 0
    · have h2 : ((x : Int) % 2 == 0) = true := by simp; omega
      have HE : Hid ((H : Int) = ((2 ^ (2 * k) : Nat) : Int) - 1 - (x : Int) / 2) := by show _ = _; rw [HH.out, hereM, if_pos hev]; have := HXL.out; omega
      obtain ⟨N, hN⟩ : ∃ N : Nat, N = 2 ^ (2 * k) := ⟨_, rfl⟩
      rw [← hN] at hp HE
      have HNN := Lib.hid hN
      clear hev hN
      go_wp2_with fail
      refine (cuSize_any k q _ hk).mono ?_
      rintro e w1 ⟨rfl, hb⟩
      rw [← HNN.out]
      have hc1 := hc.below hb
      have ht1 := below_then ht hb ht.size
      clear hb hc ht
      go_wp2_with fail
      go_meet
      exact ⟨by rw [HE.out], hc1, ht1⟩
    · have h2 : ((x : Int) % 2 == 0) = false := by simp; omega
      have HE : Hid ((H : Int) = (x : Int) / 2) := by show _ = _; rw [HH.out, hereM, if_neg hev]; omega
      clear hev
      go_wp2_with fail
      go_meet
      exact ⟨by rw [HE.out], hc, ht⟩
  case rest =>
    clear hc ht
    obtain ⟨rfl, hc, ht⟩ := hcut
    by_cases h1 : g &&& H = g
    · have hne : (Go.bits .and .i64 (g : Int) (H : Int) != (g : Int)) = false := by rw [bits_and_nat _ _ (by omega) (by omega), h1]; simp
      have H1 : Hid (g &&& hereM k x = g) := by show _ = _; rw [← HH.out]; exact h1
      clear h1
      by_cases h2 : q < ((listOf g).length : Int)
      · have hgt : decide (q < ((listOf g).length : Int)) = true := by simpa using h2
        have HP := Lib.hid (can_no2 (k := k) (x := x) h2)
        clear h2
        go_wp2_with fail
        refine wp_region_held_drew (S := (Box1 w.heap.size (.int .i64 k) (.int .i64 q))) (by kernel_rfl) (box1_of hc.drew) (fun hHeld => ?_)
        replace ht := ht.drew
        replace hc := hc.drew
        refine wpAnyH_take (i := 0) (v := ?_) rfl (by kernel_rfl) (by kernel_rfl) (by kernel_rfl) (fun _ _ _ h => h) (Or.inl ⟨rfl, ?_⟩) hHeld ?_
        rotate_left
        · intro w' hS; obtain ⟨s0, s1⟩ := hS; go_simp <;> with_reducible rfl
        simp only [Act.put, List.getElem_toArray, List.getElem_cons_succ, List.getElem_cons_zero, List.setIfInBounds_toArray, List.set_cons_succ, List.set_cons_zero]
        refine wpAnyH_take (i := 1) (v := ?_) rfl (by kernel_rfl) (by kernel_rfl) (by kernel_rfl) (fun _ _ _ h => h) (Or.inl ⟨rfl, ?_⟩) hHeld ?_
        rotate_left
        · intro w' hS; obtain ⟨s0, s1⟩ := hS; go_simp <;> with_reducible rfl
        simp only [Act.put, List.getElem_toArray, List.getElem_cons_succ, List.getElem_cons_zero, List.setIfInBounds_toArray, List.set_cons_succ, List.set_cons_zero]
        refine wpAnyH_take (i := 2) (v := ?_) rfl (by kernel_rfl) (by kernel_rfl) (by kernel_rfl) (fun _ _ _ h => h) (Or.inl ⟨rfl, ?_⟩) hHeld ?_
        rotate_left
        · intro w' hS; obtain ⟨s0, s1⟩ := hS; go_simp <;> with_reducible rfl
        simp only [Act.put, List.getElem_toArray, List.getElem_cons_succ, List.getElem_cons_zero, List.setIfInBounds_toArray, List.set_cons_succ, List.set_cons_zero]
        refine wpAnyH_take (i := 3) (v := ?_) rfl (by kernel_rfl) (by kernel_rfl) (by kernel_rfl) (fun _ _ _ h => h) (Or.inl ⟨rfl, ?_⟩) hHeld ?_
        rotate_left
        · intro w' hS; obtain ⟨s0, s1⟩ := hS; go_simp <;> with_reducible rfl
        simp only [Act.put, List.getElem_toArray, List.getElem_cons_succ, List.getElem_cons_zero, List.setIfInBounds_toArray, List.set_cons_succ, List.set_cons_zero]
        refine wpAnyH_take (i := 4) (v := ?_) rfl (by kernel_rfl) (by kernel_rfl) (by kernel_rfl) (fun _ _ _ h => h) (Or.inl ⟨rfl, ?_⟩) hHeld ?_
        rotate_left
        · intro w' hS; obtain ⟨s0, s1⟩ := hS; go_simp <;> with_reducible rfl
        simp only [Act.put, List.getElem_toArray, List.getElem_cons_succ, List.getElem_cons_zero, List.setIfInBounds_toArray, List.set_cons_succ, List.set_cons_zero]
        refine wpAnyH_take (i := 5) (v := ?_) rfl (by kernel_rfl) (by kernel_rfl) (by kernel_rfl) (fun _ _ _ h => h) (Or.inl ⟨rfl, ?_⟩) hHeld ?_
        rotate_left
        · intro w' hS; obtain ⟨s0, s1⟩ := hS; go_simp <;> with_reducible rfl
        simp only [Act.put, List.getElem_toArray, List.getElem_cons_succ, List.getElem_cons_zero, List.setIfInBounds_toArray, List.set_cons_succ, List.set_cons_zero]
        refine wpAnyH_take (i := 6) (v := ?_) rfl (by kernel_rfl) (by kernel_rfl) (by kernel_rfl) (fun _ _ _ h => h) (Or.inl ⟨rfl, ?_⟩) hHeld ?_
        rotate_left
        · intro w' hS; obtain ⟨s0, s1⟩ := hS; go_simp <;> with_reducible rfl
        simp only [Act.put, List.getElem_toArray, List.getElem_cons_succ, List.getElem_cons_zero, List.setIfInBounds_toArray, List.set_cons_succ, List.set_cons_zero]
        refine wpAnyH_take (i := 7) (v := ?_) rfl (by kernel_rfl) (by kernel_rfl) (by kernel_rfl) (fun _ _ _ h => h) (Or.inl ⟨rfl, ?_⟩) hHeld ?_
        rotate_left
        · intro w' hS; obtain ⟨s0, s1⟩ := hS; go_simp <;> with_reducible rfl
        simp only [Act.put, List.getElem_toArray, List.getElem_cons_succ, List.getElem_cons_zero, List.setIfInBounds_toArray, List.set_cons_succ, List.set_cons_zero]
        refine wpAnyH_take (i := 8) (v := ?_) rfl (by kernel_rfl) (by kernel_rfl) (by kernel_rfl) (fun _ _ _ h => h) (Or.inl ⟨rfl, ?_⟩) hHeld ?_
        rotate_left
        · intro w' hS; obtain ⟨s0, s1⟩ := hS; go_simp <;> with_reducible rfl
        simp only [Act.put, List.getElem_toArray, List.getElem_cons_succ, List.getElem_cons_zero, List.setIfInBounds_toArray, List.set_cons_succ, List.set_cons_zero]
        refine wpAnyH_take (i := 9) (v := ?_) rfl (by kernel_rfl) (by kernel_rfl) (by kernel_rfl) (fun _ _ _ h => h) (Or.inl ⟨rfl, ?_⟩) hHeld ?_
        rotate_left
        · intro w' hS; obtain ⟨s0, s1⟩ := hS; go_simp <;> with_reducible rfl
        simp only [Act.put, List.getElem_toArray, List.getElem_cons_succ, List.getElem_cons_zero, List.setIfInBounds_toArray, List.set_cons_succ, List.set_cons_zero]
        refine wpAnyH_take (i := 10) (v := ?_) rfl (by kernel_rfl) (by kernel_rfl) (by kernel_rfl) (fun _ _ _ h => h) (Or.inl ⟨rfl, ?_⟩) hHeld ?_
        rotate_left
        · intro w' hS; obtain ⟨s0, s1⟩ := hS; go_simp <;> with_reducible rfl
        simp only [Act.put, List.getElem_toArray, List.getElem_cons_succ, List.getElem_cons_zero, List.setIfInBounds_toArray, List.set_cons_succ, List.set_cons_zero]
        refine wpAnyH_take (i := 13) (v := ?_) rfl (by kernel_rfl) (by kernel_rfl) (by kernel_rfl) (fun _ _ _ h => h) (Or.inl ⟨rfl, ?_⟩) hHeld ?_
        rotate_left
        · intro w' hS; obtain ⟨s0, s1⟩ := hS; go_simp <;> with_reducible rfl
        simp only [Act.put, List.getElem_toArray, List.getElem_cons_succ, List.getElem_cons_zero, List.setIfInBounds_toArray, List.set_cons_succ, List.set_cons_zero]
        refine wpAnyH_take (i := 14) (v := ?_) rfl (by kernel_rfl) (by kernel_rfl) (by kernel_rfl) (fun _ _ _ h => h) (Or.inl ⟨rfl, ?_⟩) hHeld ?_
        rotate_left
        · intro w' hS; obtain ⟨s0, s1⟩ := hS; go_simp <;> with_reducible rfl
        simp only [Act.put, List.getElem_toArray, List.getElem_cons_succ, List.getElem_cons_zero, List.setIfInBounds_toArray, List.set_cons_succ, List.set_cons_zero]
        refine wpAnyH_ready (rs := [11]) (by kernel_rfl) (by simp) (AllReadyH.cons rfl (fun K hK => ?_) AllReadyH.nil)
        go_simp
        refine (cuList_any g _ hg8).mono ?_
        rintro e w1 ⟨E, r, rfl, -, hb⟩
        replace ht := below_then ht hb ht.size
        replace hc := hc.below hb
        clear hb
        refine hK.out _ _ (box1_of hc) (fun hHeld => ?_)
        clear hK K
        try simp only [Act.put, List.getElem_toArray, List.getElem_cons_succ, List.getElem_cons_zero, List.setIfInBounds_toArray, List.set_cons_succ, List.set_cons_zero]
        refine wpAnyH_take (i := 12) (v := ?_) rfl (by kernel_rfl) (by kernel_rfl) (by kernel_rfl) (fun _ _ _ h => h) (Or.inl ⟨rfl, ?_⟩) hHeld ?_
        rotate_left
        · intro w' hS; obtain ⟨s0, s1⟩ := hS; go_simp <;> with_reducible rfl
        simp only [Act.put, List.getElem_toArray, List.getElem_cons_succ, List.getElem_cons_zero, List.setIfInBounds_toArray, List.set_cons_succ, List.set_cons_zero]
        refine wpAnyH_take (i := 15) (v := ?_) rfl (by kernel_rfl) (by kernel_rfl) (by kernel_rfl) (fun _ _ _ h => h) (Or.inl ⟨rfl, ?_⟩) hHeld ?_
        rotate_left
        · intro w' hS; obtain ⟨s0, s1⟩ := hS; go_simp <;> with_reducible rfl
        simp only [Act.put, List.getElem_toArray, List.getElem_cons_succ, List.getElem_cons_zero, List.setIfInBounds_toArray, List.set_cons_succ, List.set_cons_zero]
        refine wpAnyH_take (i := 16) (v := ?_) rfl (by kernel_rfl) (by kernel_rfl) (by kernel_rfl) (fun _ _ _ h => h) (Or.inl ⟨rfl, ?_⟩) hHeld ?_
        rotate_left
        · intro w' hS; obtain ⟨s0, s1⟩ := hS; go_simp <;> with_reducible rfl
        simp only [Act.put, List.getElem_toArray, List.getElem_cons_succ, List.getElem_cons_zero, List.setIfInBounds_toArray, List.set_cons_succ, List.set_cons_zero]
        refine wpAnyH_take (i := 17) (v := ?_) rfl (by kernel_rfl) (by kernel_rfl) (by kernel_rfl) (fun _ _ _ h => h) (Or.inl ⟨rfl, ?_⟩) hHeld ?_
        rotate_left
        · intro w' hS; obtain ⟨s0, s1⟩ := hS; go_simp <;> with_reducible rfl
        simp only [Act.put, List.getElem_toArray, List.getElem_cons_succ, List.getElem_cons_zero, List.setIfInBounds_toArray, List.set_cons_succ, List.set_cons_zero]
        refine wpAnyH_take (i := 18) (v := undef) rfl (by kernel_rfl) (by kernel_rfl) (by kernel_rfl) (fun _ _ _ h => h) (Or.inr ⟨by simp [Region.wanted, yielded], rfl⟩) hHeld ?_
        simp only [Act.put, List.getElem_toArray, List.getElem_cons_succ, List.getElem_cons_zero, List.setIfInBounds_toArray, List.set_cons_succ, List.set_cons_zero]
        refine wpAnyH_take (i := 19) (v := undef) rfl (by kernel_rfl) (by kernel_rfl) (by kernel_rfl) (fun _ _ _ h => h) (Or.inr ⟨by simp [Region.wanted, yielded], rfl⟩) hHeld ?_
        simp only [Act.put, List.getElem_toArray, List.getElem_cons_succ, List.getElem_cons_zero, List.setIfInBounds_toArray, List.set_cons_succ, List.set_cons_zero]
        refine wpAnyH_take (i := 20) (v := undef) rfl (by kernel_rfl) (by kernel_rfl) (by kernel_rfl) (fun _ _ _ h => h) (Or.inr ⟨by simp [Region.wanted, yielded], rfl⟩) hHeld ?_
        simp only [Act.put, List.getElem_toArray, List.getElem_cons_succ, List.getElem_cons_zero, List.setIfInBounds_toArray, List.set_cons_succ, List.set_cons_zero]
        refine wpAnyH_take (i := 21) (v := undef) rfl (by kernel_rfl) (by kernel_rfl) (by kernel_rfl) (fun _ _ _ h => h) (Or.inr ⟨by simp [Region.wanted, yielded], rfl⟩) hHeld ?_
        simp only [Act.put, List.getElem_toArray, List.getElem_cons_succ, List.getElem_cons_zero, List.setIfInBounds_toArray, List.set_cons_succ, List.set_cons_zero]
        refine wpAnyH_take (i := 22) (v := undef) rfl (by kernel_rfl) (by kernel_rfl) (by kernel_rfl) (fun _ _ _ h => h) (Or.inr ⟨by simp [Region.wanted, yielded], rfl⟩) hHeld ?_
        simp only [Act.put, List.getElem_toArray, List.getElem_cons_succ, List.getElem_cons_zero, List.setIfInBounds_toArray, List.set_cons_succ, List.set_cons_zero]
        refine wpAnyH_take (i := 23) (v := ?_) rfl (by kernel_rfl) (by kernel_rfl) (by kernel_rfl) (fun _ _ _ h => h) (Or.inl ⟨rfl, ?_⟩) hHeld ?_
        rotate_left
        · intro w' hS; obtain ⟨s0, s1⟩ := hS; go_simp <;> with_reducible rfl
        simp only [Act.put, List.getElem_toArray, List.getElem_cons_succ, List.getElem_cons_zero, List.setIfInBounds_toArray, List.set_cons_succ, List.set_cons_zero]
        refine wpAnyH_done (by kernel_rfl) ?_ _
        clear hHeld
        go_wp2
        go_ret
        exact ⟨ret_of (by rw [HP.out]; rfl), ht⟩
      · have hgt : decide (q < ((listOf g).length : Int)) = false := by simpa using h2
        cases h3 : calm k (bitAt g)
        · have HP := Lib.hid (can_no3 (q := q) (x := x) h3)
          have HCA := Lib.hid h3
          clear h2 h3
          go_wp2_with fail
          refine wp_region_held_drew (S := (Box1 w.heap.size (.int .i64 k) (.int .i64 q))) (by kernel_rfl) (box1_of hc.drew) (fun hHeld => ?_)
          replace ht := ht.drew
          replace hc := hc.drew
          refine wpAnyH_take (i := 0) (v := ?_) rfl (by kernel_rfl) (by kernel_rfl) (by kernel_rfl) (fun _ _ _ h => h) (Or.inl ⟨rfl, ?_⟩) hHeld ?_
          rotate_left
          · intro w' hS; obtain ⟨s0, s1⟩ := hS; go_simp <;> with_reducible rfl
          simp only [Act.put, List.getElem_toArray, List.getElem_cons_succ, List.getElem_cons_zero, List.setIfInBounds_toArray, List.set_cons_succ, List.set_cons_zero]
          refine wpAnyH_take (i := 1) (v := ?_) rfl (by kernel_rfl) (by kernel_rfl) (by kernel_rfl) (fun _ _ _ h => h) (Or.inl ⟨rfl, ?_⟩) hHeld ?_
          rotate_left
          · intro w' hS; obtain ⟨s0, s1⟩ := hS; go_simp <;> with_reducible rfl
          simp only [Act.put, List.getElem_toArray, List.getElem_cons_succ, List.getElem_cons_zero, List.setIfInBounds_toArray, List.set_cons_succ, List.set_cons_zero]
          refine wpAnyH_take (i := 2) (v := ?_) rfl (by kernel_rfl) (by kernel_rfl) (by kernel_rfl) (fun _ _ _ h => h) (Or.inl ⟨rfl, ?_⟩) hHeld ?_
          rotate_left
          · intro w' hS; obtain ⟨s0, s1⟩ := hS; go_simp <;> with_reducible rfl
          simp only [Act.put, List.getElem_toArray, List.getElem_cons_succ, List.getElem_cons_zero, List.setIfInBounds_toArray, List.set_cons_succ, List.set_cons_zero]
          refine wpAnyH_take (i := 3) (v := ?_) rfl (by kernel_rfl) (by kernel_rfl) (by kernel_rfl) (fun _ _ _ h => h) (Or.inl ⟨rfl, ?_⟩) hHeld ?_
          rotate_left
          · intro w' hS; obtain ⟨s0, s1⟩ := hS; go_simp <;> with_reducible rfl
          simp only [Act.put, List.getElem_toArray, List.getElem_cons_succ, List.getElem_cons_zero, List.setIfInBounds_toArray, List.set_cons_succ, List.set_cons_zero]
          refine wpAnyH_take (i := 4) (v := ?_) rfl (by kernel_rfl) (by kernel_rfl) (by kernel_rfl) (fun _ _ _ h => h) (Or.inl ⟨rfl, ?_⟩) hHeld ?_
          rotate_left
          · intro w' hS; obtain ⟨s0, s1⟩ := hS; go_simp <;> with_reducible rfl
          simp only [Act.put, List.getElem_toArray, List.getElem_cons_succ, List.getElem_cons_zero, List.setIfInBounds_toArray, List.set_cons_succ, List.set_cons_zero]
          refine wpAnyH_take (i := 5) (v := ?_) rfl (by kernel_rfl) (by kernel_rfl) (by kernel_rfl) (fun _ _ _ h => h) (Or.inl ⟨rfl, ?_⟩) hHeld ?_
          rotate_left
          · intro w' hS; obtain ⟨s0, s1⟩ := hS; go_simp <;> with_reducible rfl
          simp only [Act.put, List.getElem_toArray, List.getElem_cons_succ, List.getElem_cons_zero, List.setIfInBounds_toArray, List.set_cons_succ, List.set_cons_zero]
          refine wpAnyH_take (i := 6) (v := ?_) rfl (by kernel_rfl) (by kernel_rfl) (by kernel_rfl) (fun _ _ _ h => h) (Or.inl ⟨rfl, ?_⟩) hHeld ?_
          rotate_left
          · intro w' hS; obtain ⟨s0, s1⟩ := hS; go_simp <;> with_reducible rfl
          simp only [Act.put, List.getElem_toArray, List.getElem_cons_succ, List.getElem_cons_zero, List.setIfInBounds_toArray, List.set_cons_succ, List.set_cons_zero]
          refine wpAnyH_take (i := 7) (v := ?_) rfl (by kernel_rfl) (by kernel_rfl) (by kernel_rfl) (fun _ _ _ h => h) (Or.inl ⟨rfl, ?_⟩) hHeld ?_
          rotate_left
          · intro w' hS; obtain ⟨s0, s1⟩ := hS; go_simp <;> with_reducible rfl
          simp only [Act.put, List.getElem_toArray, List.getElem_cons_succ, List.getElem_cons_zero, List.setIfInBounds_toArray, List.set_cons_succ, List.set_cons_zero]
          refine wpAnyH_take (i := 8) (v := ?_) rfl (by kernel_rfl) (by kernel_rfl) (by kernel_rfl) (fun _ _ _ h => h) (Or.inl ⟨rfl, ?_⟩) hHeld ?_
          rotate_left
          · intro w' hS; obtain ⟨s0, s1⟩ := hS; go_simp <;> with_reducible rfl
          simp only [Act.put, List.getElem_toArray, List.getElem_cons_succ, List.getElem_cons_zero, List.setIfInBounds_toArray, List.set_cons_succ, List.set_cons_zero]
          refine wpAnyH_take (i := 9) (v := ?_) rfl (by kernel_rfl) (by kernel_rfl) (by kernel_rfl) (fun _ _ _ h => h) (Or.inl ⟨rfl, ?_⟩) hHeld ?_
          rotate_left
          · intro w' hS; obtain ⟨s0, s1⟩ := hS; go_simp <;> with_reducible rfl
          simp only [Act.put, List.getElem_toArray, List.getElem_cons_succ, List.getElem_cons_zero, List.setIfInBounds_toArray, List.set_cons_succ, List.set_cons_zero]
          refine wpAnyH_take (i := 10) (v := ?_) rfl (by kernel_rfl) (by kernel_rfl) (by kernel_rfl) (fun _ _ _ h => h) (Or.inl ⟨rfl, ?_⟩) hHeld ?_
          rotate_left
          · intro w' hS; obtain ⟨s0, s1⟩ := hS; go_simp <;> with_reducible rfl
          simp only [Act.put, List.getElem_toArray, List.getElem_cons_succ, List.getElem_cons_zero, List.setIfInBounds_toArray, List.set_cons_succ, List.set_cons_zero]
          refine wpAnyH_take (i := 13) (v := ?_) rfl (by kernel_rfl) (by kernel_rfl) (by kernel_rfl) (fun _ _ _ h => h) (Or.inl ⟨rfl, ?_⟩) hHeld ?_
          rotate_left
          · intro w' hS; obtain ⟨s0, s1⟩ := hS; go_simp <;> with_reducible rfl
          simp only [Act.put, List.getElem_toArray, List.getElem_cons_succ, List.getElem_cons_zero, List.setIfInBounds_toArray, List.set_cons_succ, List.set_cons_zero]
          refine wpAnyH_take (i := 14) (v := ?_) rfl (by kernel_rfl) (by kernel_rfl) (by kernel_rfl) (fun _ _ _ h => h) (Or.inl ⟨rfl, ?_⟩) hHeld ?_
          rotate_left
          · intro w' hS; obtain ⟨s0, s1⟩ := hS; go_simp <;> with_reducible rfl
          simp only [Act.put, List.getElem_toArray, List.getElem_cons_succ, List.getElem_cons_zero, List.setIfInBounds_toArray, List.set_cons_succ, List.set_cons_zero]
          refine wpAnyH_ready (rs := [11]) (by kernel_rfl) (by simp) (AllReadyH.cons rfl (fun K hK => ?_) AllReadyH.nil)
          go_simp
          refine (cuList_any g _ hg8).mono ?_
          rintro e w1 ⟨E, r, rfl, -, hb⟩
          replace ht := below_then ht hb ht.size
          replace hc := hc.below hb
          clear hb
          refine hK.out _ _ (box1_of hc) (fun hHeld => ?_)
          clear hK K
          try simp only [Act.put, List.getElem_toArray, List.getElem_cons_succ, List.getElem_cons_zero, List.setIfInBounds_toArray, List.set_cons_succ, List.set_cons_zero]
          refine wpAnyH_take (i := 12) (v := ?_) rfl (by kernel_rfl) (by kernel_rfl) (by kernel_rfl) (fun _ _ _ h => h) (Or.inl ⟨rfl, ?_⟩) hHeld ?_
          rotate_left
          · intro w' hS; obtain ⟨s0, s1⟩ := hS; go_simp <;> with_reducible rfl
          simp only [Act.put, List.getElem_toArray, List.getElem_cons_succ, List.getElem_cons_zero, List.setIfInBounds_toArray, List.set_cons_succ, List.set_cons_zero]
          refine wpAnyH_take (i := 15) (v := ?_) rfl (by kernel_rfl) (by kernel_rfl) (by kernel_rfl) (fun _ _ _ h => h) (Or.inl ⟨rfl, ?_⟩) hHeld ?_
          rotate_left
          · intro w' hS; obtain ⟨s0, s1⟩ := hS; go_simp <;> with_reducible rfl
          simp only [Act.put, List.getElem_toArray, List.getElem_cons_succ, List.getElem_cons_zero, List.setIfInBounds_toArray, List.set_cons_succ, List.set_cons_zero]
          refine wpAnyH_take (i := 16) (v := ?_) rfl (by kernel_rfl) (by kernel_rfl) (by kernel_rfl) (fun _ _ _ h => h) (Or.inl ⟨rfl, ?_⟩) hHeld ?_
          rotate_left
          · intro w' hS; obtain ⟨s0, s1⟩ := hS; go_simp <;> with_reducible rfl
          simp only [Act.put, List.getElem_toArray, List.getElem_cons_succ, List.getElem_cons_zero, List.setIfInBounds_toArray, List.set_cons_succ, List.set_cons_zero]
          refine wpAnyH_take (i := 17) (v := ?_) rfl (by kernel_rfl) (by kernel_rfl) (by kernel_rfl) (fun _ _ _ h => h) (Or.inl ⟨rfl, ?_⟩) hHeld ?_
          rotate_left
          · intro w' hS; obtain ⟨s0, s1⟩ := hS; go_simp <;> with_reducible rfl
          simp only [Act.put, List.getElem_toArray, List.getElem_cons_succ, List.getElem_cons_zero, List.setIfInBounds_toArray, List.set_cons_succ, List.set_cons_zero]
          refine wpAnyH_take (i := 18) (v := ?_) rfl (by kernel_rfl) (by kernel_rfl) (by kernel_rfl) (fun _ _ _ h => h) (Or.inl ⟨rfl, ?_⟩) hHeld ?_
          rotate_left
          · intro w' hS; obtain ⟨s0, s1⟩ := hS; go_simp <;> with_reducible rfl
          simp only [Act.put, List.getElem_toArray, List.getElem_cons_succ, List.getElem_cons_zero, List.setIfInBounds_toArray, List.set_cons_succ, List.set_cons_zero]
          refine wpAnyH_take (i := 19) (v := ?_) rfl (by kernel_rfl) (by kernel_rfl) (by kernel_rfl) (fun _ _ _ h => h) (Or.inl ⟨rfl, ?_⟩) hHeld ?_
          rotate_left
          · intro w' hS; obtain ⟨s0, s1⟩ := hS; go_simp <;> with_reducible rfl
          simp only [Act.put, List.getElem_toArray, List.getElem_cons_succ, List.getElem_cons_zero, List.setIfInBounds_toArray, List.set_cons_succ, List.set_cons_zero]
          refine wpAnyH_take (i := 20) (v := ?_) rfl (by kernel_rfl) (by kernel_rfl) (by kernel_rfl) (fun _ _ _ h => h) (Or.inl ⟨rfl, ?_⟩) hHeld ?_
          rotate_left
          · intro w' hS; obtain ⟨s0, s1⟩ := hS; go_simp <;> with_reducible rfl
          simp only [Act.put, List.getElem_toArray, List.getElem_cons_succ, List.getElem_cons_zero, List.setIfInBounds_toArray, List.set_cons_succ, List.set_cons_zero]
          refine wpAnyH_ready (rs := [21]) (by kernel_rfl) (by simp) (AllReadyH.cons rfl (fun K hK => ?_) AllReadyH.nil)
          go_simp
          refine (cuCalm_any k g _ hk).mono ?_
          rintro e w2 ⟨rfl, rfl⟩
          rw [HCA.out]
          refine hK.out _ _ (box1_of hc) (fun hHeld => ?_)
          clear hK K
          try simp only [Act.put, List.getElem_toArray, List.getElem_cons_succ, List.getElem_cons_zero, List.setIfInBounds_toArray, List.set_cons_succ, List.set_cons_zero]
          refine wpAnyH_take (i := 22) (v := ?_) rfl (by kernel_rfl) (by kernel_rfl) (by kernel_rfl) (fun _ _ _ h => h) (Or.inl ⟨rfl, ?_⟩) hHeld ?_
          rotate_left
          · intro w' hS; obtain ⟨s0, s1⟩ := hS; go_simp <;> with_reducible rfl
          simp only [Act.put, List.getElem_toArray, List.getElem_cons_succ, List.getElem_cons_zero, List.setIfInBounds_toArray, List.set_cons_succ, List.set_cons_zero]
          refine wpAnyH_take (i := 23) (v := ?_) rfl (by kernel_rfl) (by kernel_rfl) (by kernel_rfl) (fun _ _ _ h => h) (Or.inl ⟨rfl, ?_⟩) hHeld ?_
          rotate_left
          · intro w' hS; obtain ⟨s0, s1⟩ := hS; go_simp <;> with_reducible rfl
          simp only [Act.put, List.getElem_toArray, List.getElem_cons_succ, List.getElem_cons_zero, List.setIfInBounds_toArray, List.set_cons_succ, List.set_cons_zero]
          refine wpAnyH_done (by kernel_rfl) ?_ _
          clear hHeld
          go_wp2
          go_ret
          exact ⟨ret_of (by rw [HP.out]; rfl), ht⟩
        · have HP := Lib.hid (can_on H1.out h2 h3)
          have HCA := Lib.hid h3
          have HXX := Lib.hid (show Go.bits .xor .i64 (x : Int) (2 * (g : Int) + 1) = ((x ^^^ (2 * g + 1) : Nat) : Int) by
            rw [show (2 * (g : Int) + 1) = ((2 * g + 1 : Nat) : Int) by omega]; exact bits_xor_nat _ _ (by omega) (by omega))
          have HYL : Hid ((x ^^^ (2 * g + 1)) / 2 < 2 ^ (2 * k)) := by
            show _ < _
            have ha : x < 2 ^ (2 * k + 1) := by have := HXL.out; rw [Nat.pow_succ]; omega
            have hb : 2 * g + 1 < 2 ^ (2 * k + 1) := by have := HGL.out; rw [Nat.pow_succ]; omega
            have := Nat.xor_lt_two_pow ha hb
            rw [Nat.pow_succ] at this
            omega
          clear h2 h3
          go_wp2_with fail
          refine wp_region_held_drew (S := (Box1 w.heap.size (.int .i64 k) (.int .i64 q))) (by kernel_rfl) (box1_of hc.drew) (fun hHeld => ?_)
          replace ht := ht.drew
          replace hc := hc.drew
          refine wpAnyH_take (i := 0) (v := ?_) rfl (by kernel_rfl) (by kernel_rfl) (by kernel_rfl) (fun _ _ _ h => h) (Or.inl ⟨rfl, ?_⟩) hHeld ?_
          rotate_left
          · intro w' hS; obtain ⟨s0, s1⟩ := hS; go_simp <;> with_reducible rfl
          simp only [Act.put, List.getElem_toArray, List.getElem_cons_succ, List.getElem_cons_zero, List.setIfInBounds_toArray, List.set_cons_succ, List.set_cons_zero]
          refine wpAnyH_take (i := 1) (v := ?_) rfl (by kernel_rfl) (by kernel_rfl) (by kernel_rfl) (fun _ _ _ h => h) (Or.inl ⟨rfl, ?_⟩) hHeld ?_
          rotate_left
          · intro w' hS; obtain ⟨s0, s1⟩ := hS; go_simp <;> with_reducible rfl
          simp only [Act.put, List.getElem_toArray, List.getElem_cons_succ, List.getElem_cons_zero, List.setIfInBounds_toArray, List.set_cons_succ, List.set_cons_zero]
          refine wpAnyH_take (i := 2) (v := ?_) rfl (by kernel_rfl) (by kernel_rfl) (by kernel_rfl) (fun _ _ _ h => h) (Or.inl ⟨rfl, ?_⟩) hHeld ?_
          rotate_left
          · intro w' hS; obtain ⟨s0, s1⟩ := hS; go_simp <;> with_reducible rfl
          simp only [Act.put, List.getElem_toArray, List.getElem_cons_succ, List.getElem_cons_zero, List.setIfInBounds_toArray, List.set_cons_succ, List.set_cons_zero]
          refine wpAnyH_take (i := 3) (v := ?_) rfl (by kernel_rfl) (by kernel_rfl) (by kernel_rfl) (fun _ _ _ h => h) (Or.inl ⟨rfl, ?_⟩) hHeld ?_
          rotate_left
          · intro w' hS; obtain ⟨s0, s1⟩ := hS; go_simp <;> with_reducible rfl
          simp only [Act.put, List.getElem_toArray, List.getElem_cons_succ, List.getElem_cons_zero, List.setIfInBounds_toArray, List.set_cons_succ, List.set_cons_zero]
          refine wpAnyH_take (i := 4) (v := ?_) rfl (by kernel_rfl) (by kernel_rfl) (by kernel_rfl) (fun _ _ _ h => h) (Or.inl ⟨rfl, ?_⟩) hHeld ?_
          rotate_left
          · intro w' hS; obtain ⟨s0, s1⟩ := hS; go_simp <;> with_reducible rfl
          simp only [Act.put, List.getElem_toArray, List.getElem_cons_succ, List.getElem_cons_zero, List.setIfInBounds_toArray, List.set_cons_succ, List.set_cons_zero]
          refine wpAnyH_take (i := 5) (v := ?_) rfl (by kernel_rfl) (by kernel_rfl) (by kernel_rfl) (fun _ _ _ h => h) (Or.inl ⟨rfl, ?_⟩) hHeld ?_
          rotate_left
          · intro w' hS; obtain ⟨s0, s1⟩ := hS; go_simp <;> with_reducible rfl
          simp only [Act.put, List.getElem_toArray, List.getElem_cons_succ, List.getElem_cons_zero, List.setIfInBounds_toArray, List.set_cons_succ, List.set_cons_zero]
          refine wpAnyH_take (i := 6) (v := ?_) rfl (by kernel_rfl) (by kernel_rfl) (by kernel_rfl) (fun _ _ _ h => h) (Or.inl ⟨rfl, ?_⟩) hHeld ?_
          rotate_left
          · intro w' hS; obtain ⟨s0, s1⟩ := hS; go_simp <;> with_reducible rfl
          simp only [Act.put, List.getElem_toArray, List.getElem_cons_succ, List.getElem_cons_zero, List.setIfInBounds_toArray, List.set_cons_succ, List.set_cons_zero]
          refine wpAnyH_take (i := 7) (v := ?_) rfl (by kernel_rfl) (by kernel_rfl) (by kernel_rfl) (fun _ _ _ h => h) (Or.inl ⟨rfl, ?_⟩) hHeld ?_
          rotate_left
          · intro w' hS; obtain ⟨s0, s1⟩ := hS; go_simp <;> with_reducible rfl
          simp only [Act.put, List.getElem_toArray, List.getElem_cons_succ, List.getElem_cons_zero, List.setIfInBounds_toArray, List.set_cons_succ, List.set_cons_zero]
          refine wpAnyH_take (i := 8) (v := ?_) rfl (by kernel_rfl) (by kernel_rfl) (by kernel_rfl) (fun _ _ _ h => h) (Or.inl ⟨rfl, ?_⟩) hHeld ?_
          rotate_left
          · intro w' hS; obtain ⟨s0, s1⟩ := hS; go_simp <;> with_reducible rfl
          simp only [Act.put, List.getElem_toArray, List.getElem_cons_succ, List.getElem_cons_zero, List.setIfInBounds_toArray, List.set_cons_succ, List.set_cons_zero]
          refine wpAnyH_take (i := 9) (v := ?_) rfl (by kernel_rfl) (by kernel_rfl) (by kernel_rfl) (fun _ _ _ h => h) (Or.inl ⟨rfl, ?_⟩) hHeld ?_
          rotate_left
          · intro w' hS; obtain ⟨s0, s1⟩ := hS; go_simp <;> with_reducible rfl
          simp only [Act.put, List.getElem_toArray, List.getElem_cons_succ, List.getElem_cons_zero, List.setIfInBounds_toArray, List.set_cons_succ, List.set_cons_zero]
          refine wpAnyH_take (i := 10) (v := ?_) rfl (by kernel_rfl) (by kernel_rfl) (by kernel_rfl) (fun _ _ _ h => h) (Or.inl ⟨rfl, ?_⟩) hHeld ?_
          rotate_left
          · intro w' hS; obtain ⟨s0, s1⟩ := hS; go_simp <;> with_reducible rfl
          simp only [Act.put, List.getElem_toArray, List.getElem_cons_succ, List.getElem_cons_zero, List.setIfInBounds_toArray, List.set_cons_succ, List.set_cons_zero]
          refine wpAnyH_take (i := 13) (v := ?_) rfl (by kernel_rfl) (by kernel_rfl) (by kernel_rfl) (fun _ _ _ h => h) (Or.inl ⟨rfl, ?_⟩) hHeld ?_
          rotate_left
          · intro w' hS; obtain ⟨s0, s1⟩ := hS; go_simp <;> with_reducible rfl
          simp only [Act.put, List.getElem_toArray, List.getElem_cons_succ, List.getElem_cons_zero, List.setIfInBounds_toArray, List.set_cons_succ, List.set_cons_zero]
          refine wpAnyH_take (i := 14) (v := ?_) rfl (by kernel_rfl) (by kernel_rfl) (by kernel_rfl) (fun _ _ _ h => h) (Or.inl ⟨rfl, ?_⟩) hHeld ?_
          rotate_left
          · intro w' hS; obtain ⟨s0, s1⟩ := hS; go_simp <;> with_reducible rfl
          simp only [Act.put, List.getElem_toArray, List.getElem_cons_succ, List.getElem_cons_zero, List.setIfInBounds_toArray, List.set_cons_succ, List.set_cons_zero]
          refine wpAnyH_ready (rs := [11]) (by kernel_rfl) (by simp) (AllReadyH.cons rfl (fun K hK => ?_) AllReadyH.nil)
          go_simp
          refine (cuList_any g _ hg8).mono ?_
          rintro e w1 ⟨E, r, rfl, -, hb⟩
          replace ht := below_then ht hb ht.size
          replace hc := hc.below hb
          clear hb
          refine hK.out _ _ (box1_of hc) (fun hHeld => ?_)
          clear hK K
          try simp only [Act.put, List.getElem_toArray, List.getElem_cons_succ, List.getElem_cons_zero, List.setIfInBounds_toArray, List.set_cons_succ, List.set_cons_zero]
          refine wpAnyH_take (i := 12) (v := ?_) rfl (by kernel_rfl) (by kernel_rfl) (by kernel_rfl) (fun _ _ _ h => h) (Or.inl ⟨rfl, ?_⟩) hHeld ?_
          rotate_left
          · intro w' hS; obtain ⟨s0, s1⟩ := hS; go_simp <;> with_reducible rfl
          simp only [Act.put, List.getElem_toArray, List.getElem_cons_succ, List.getElem_cons_zero, List.setIfInBounds_toArray, List.set_cons_succ, List.set_cons_zero]
          refine wpAnyH_take (i := 15) (v := ?_) rfl (by kernel_rfl) (by kernel_rfl) (by kernel_rfl) (fun _ _ _ h => h) (Or.inl ⟨rfl, ?_⟩) hHeld ?_
          rotate_left
          · intro w' hS; obtain ⟨s0, s1⟩ := hS; go_simp <;> with_reducible rfl
          simp only [Act.put, List.getElem_toArray, List.getElem_cons_succ, List.getElem_cons_zero, List.setIfInBounds_toArray, List.set_cons_succ, List.set_cons_zero]
          refine wpAnyH_take (i := 16) (v := ?_) rfl (by kernel_rfl) (by kernel_rfl) (by kernel_rfl) (fun _ _ _ h => h) (Or.inl ⟨rfl, ?_⟩) hHeld ?_
          rotate_left
          · intro w' hS; obtain ⟨s0, s1⟩ := hS; go_simp <;> with_reducible rfl
          simp only [Act.put, List.getElem_toArray, List.getElem_cons_succ, List.getElem_cons_zero, List.setIfInBounds_toArray, List.set_cons_succ, List.set_cons_zero]
          refine wpAnyH_take (i := 17) (v := ?_) rfl (by kernel_rfl) (by kernel_rfl) (by kernel_rfl) (fun _ _ _ h => h) (Or.inl ⟨rfl, ?_⟩) hHeld ?_
          rotate_left
          · intro w' hS; obtain ⟨s0, s1⟩ := hS; go_simp <;> with_reducible rfl
          simp only [Act.put, List.getElem_toArray, List.getElem_cons_succ, List.getElem_cons_zero, List.setIfInBounds_toArray, List.set_cons_succ, List.set_cons_zero]
          refine wpAnyH_take (i := 18) (v := ?_) rfl (by kernel_rfl) (by kernel_rfl) (by kernel_rfl) (fun _ _ _ h => h) (Or.inl ⟨rfl, ?_⟩) hHeld ?_
          rotate_left
          · intro w' hS; obtain ⟨s0, s1⟩ := hS; go_simp <;> with_reducible rfl
          simp only [Act.put, List.getElem_toArray, List.getElem_cons_succ, List.getElem_cons_zero, List.setIfInBounds_toArray, List.set_cons_succ, List.set_cons_zero]
          refine wpAnyH_take (i := 19) (v := ?_) rfl (by kernel_rfl) (by kernel_rfl) (by kernel_rfl) (fun _ _ _ h => h) (Or.inl ⟨rfl, ?_⟩) hHeld ?_
          rotate_left
          · intro w' hS; obtain ⟨s0, s1⟩ := hS; go_simp <;> with_reducible rfl
          simp only [Act.put, List.getElem_toArray, List.getElem_cons_succ, List.getElem_cons_zero, List.setIfInBounds_toArray, List.set_cons_succ, List.set_cons_zero]
          refine wpAnyH_take (i := 20) (v := ?_) rfl (by kernel_rfl) (by kernel_rfl) (by kernel_rfl) (fun _ _ _ h => h) (Or.inl ⟨rfl, ?_⟩) hHeld ?_
          rotate_left
          · intro w' hS; obtain ⟨s0, s1⟩ := hS; go_simp <;> with_reducible rfl
          simp only [Act.put, List.getElem_toArray, List.getElem_cons_succ, List.getElem_cons_zero, List.setIfInBounds_toArray, List.set_cons_succ, List.set_cons_zero]
          refine wpAnyH_ready (rs := [21]) (by kernel_rfl) (by simp) (AllReadyH.cons rfl (fun K hK => ?_) AllReadyH.nil)
          go_simp
          refine (cuCalm_any k g _ hk).mono ?_
          rintro e w2 ⟨rfl, rfl⟩
          rw [HCA.out]
          refine hK.out _ _ (box1_of hc) (fun hHeld => ?_)
          clear hK K
          try simp only [Act.put, List.getElem_toArray, List.getElem_cons_succ, List.getElem_cons_zero, List.setIfInBounds_toArray, List.set_cons_succ, List.set_cons_zero]
          refine wpAnyH_take (i := 22) (v := ?_) rfl (by kernel_rfl) (by kernel_rfl) (by kernel_rfl) (fun _ _ _ h => h) (Or.inl ⟨rfl, ?_⟩) hHeld ?_
          rotate_left
          · intro w' hS; obtain ⟨s0, s1⟩ := hS; go_simp <;> with_reducible rfl
          simp only [Act.put, List.getElem_toArray, List.getElem_cons_succ, List.getElem_cons_zero, List.setIfInBounds_toArray, List.set_cons_succ, List.set_cons_zero]
          refine wpAnyH_take (i := 23) (v := ?_) rfl (by kernel_rfl) (by kernel_rfl) (by kernel_rfl) (fun _ _ _ h => h) (Or.inl ⟨rfl, ?_⟩) hHeld ?_
          rotate_left
          · intro w' hS; obtain ⟨s0, s1⟩ := hS; go_simp <;> with_reducible rfl
          simp only [Act.put, List.getElem_toArray, List.getElem_cons_succ, List.getElem_cons_zero, List.setIfInBounds_toArray, List.set_cons_succ, List.set_cons_zero]
          refine wpAnyH_done (by kernel_rfl) ?_ _
          clear hHeld
          obtain ⟨c0, c1⟩ : Box1 w.heap.size (.int .i64 k) (.int .i64 q) _ := box1_of hc
          go_wp2_with fail
          rw [HXX.out]
          refine (cuQuiet_any k _ q _ hk HYL.out).mono ?_
          rintro e w5 ⟨rfl, hb⟩
          have ht5 := below_then ht hb ht.size
          go_wp2
          go_ret
          exact ⟨ret_of (by rw [HP.out]; rfl), ht5⟩
    · have hne : (Go.bits .and .i64 (g : Int) (H : Int) != (g : Int)) = true := by rw [bits_and_nat _ _ (by omega) (by omega)]; simp; omega
      have HP := Lib.hid (can_no1 (k := k) (q := q) (x := x) (g := g) (by rw [← HH.out]; exact h1))
      clear h1
      go_wp2_with fail
      refine wp_region_held_drew (S := (Box1 w.heap.size (.int .i64 k) (.int .i64 q))) (by kernel_rfl) (box1_of hc.drew) (fun hHeld => ?_)
      replace ht := ht.drew
      replace hc := hc.drew
      refine wpAnyH_take (i := 0) (v := ?_) rfl (by kernel_rfl) (by kernel_rfl) (by kernel_rfl) (fun _ _ _ h => h) (Or.inl ⟨rfl, ?_⟩) hHeld ?_
      rotate_left
      · intro w' hS; obtain ⟨s0, s1⟩ := hS; go_simp <;> with_reducible rfl
      simp only [Act.put, List.getElem_toArray, List.getElem_cons_succ, List.getElem_cons_zero, List.setIfInBounds_toArray, List.set_cons_succ, List.set_cons_zero]
      refine wpAnyH_take (i := 1) (v := ?_) rfl (by kernel_rfl) (by kernel_rfl) (by kernel_rfl) (fun _ _ _ h => h) (Or.inl ⟨rfl, ?_⟩) hHeld ?_
      rotate_left
      · intro w' hS; obtain ⟨s0, s1⟩ := hS; go_simp <;> with_reducible rfl
      simp only [Act.put, List.getElem_toArray, List.getElem_cons_succ, List.getElem_cons_zero, List.setIfInBounds_toArray, List.set_cons_succ, List.set_cons_zero]
      refine wpAnyH_take (i := 2) (v := ?_) rfl (by kernel_rfl) (by kernel_rfl) (by kernel_rfl) (fun _ _ _ h => h) (Or.inl ⟨rfl, ?_⟩) hHeld ?_
      rotate_left
      · intro w' hS; obtain ⟨s0, s1⟩ := hS; go_simp <;> with_reducible rfl
      simp only [Act.put, List.getElem_toArray, List.getElem_cons_succ, List.getElem_cons_zero, List.setIfInBounds_toArray, List.set_cons_succ, List.set_cons_zero]
      refine wpAnyH_take (i := 3) (v := ?_) rfl (by kernel_rfl) (by kernel_rfl) (by kernel_rfl) (fun _ _ _ h => h) (Or.inl ⟨rfl, ?_⟩) hHeld ?_
      rotate_left
      · intro w' hS; obtain ⟨s0, s1⟩ := hS; go_simp <;> with_reducible rfl
      simp only [Act.put, List.getElem_toArray, List.getElem_cons_succ, List.getElem_cons_zero, List.setIfInBounds_toArray, List.set_cons_succ, List.set_cons_zero]
      refine wpAnyH_take (i := 4) (v := ?_) rfl (by kernel_rfl) (by kernel_rfl) (by kernel_rfl) (fun _ _ _ h => h) (Or.inl ⟨rfl, ?_⟩) hHeld ?_
      rotate_left
      · intro w' hS; obtain ⟨s0, s1⟩ := hS; go_simp <;> with_reducible rfl
      simp only [Act.put, List.getElem_toArray, List.getElem_cons_succ, List.getElem_cons_zero, List.setIfInBounds_toArray, List.set_cons_succ, List.set_cons_zero]
      refine wpAnyH_take (i := 5) (v := ?_) rfl (by kernel_rfl) (by kernel_rfl) (by kernel_rfl) (fun _ _ _ h => h) (Or.inl ⟨rfl, ?_⟩) hHeld ?_
      rotate_left
      · intro w' hS; obtain ⟨s0, s1⟩ := hS; go_simp <;> with_reducible rfl
      simp only [Act.put, List.getElem_toArray, List.getElem_cons_succ, List.getElem_cons_zero, List.setIfInBounds_toArray, List.set_cons_succ, List.set_cons_zero]
      refine wpAnyH_take (i := 6) (v := ?_) rfl (by kernel_rfl) (by kernel_rfl) (by kernel_rfl) (fun _ _ _ h => h) (Or.inl ⟨rfl, ?_⟩) hHeld ?_
      rotate_left
      · intro w' hS; obtain ⟨s0, s1⟩ := hS; go_simp <;> with_reducible rfl
      simp only [Act.put, List.getElem_toArray, List.getElem_cons_succ, List.getElem_cons_zero, List.setIfInBounds_toArray, List.set_cons_succ, List.set_cons_zero]
      refine wpAnyH_take (i := 7) (v := ?_) rfl (by kernel_rfl) (by kernel_rfl) (by kernel_rfl) (fun _ _ _ h => h) (Or.inl ⟨rfl, ?_⟩) hHeld ?_
      rotate_left
      · intro w' hS; obtain ⟨s0, s1⟩ := hS; go_simp <;> with_reducible rfl
      simp only [Act.put, List.getElem_toArray, List.getElem_cons_succ, List.getElem_cons_zero, List.setIfInBounds_toArray, List.set_cons_succ, List.set_cons_zero]
      refine wpAnyH_take (i := 8) (v := ?_) rfl (by kernel_rfl) (by kernel_rfl) (by kernel_rfl) (fun _ _ _ h => h) (Or.inl ⟨rfl, ?_⟩) hHeld ?_
      rotate_left
      · intro w' hS; obtain ⟨s0, s1⟩ := hS; go_simp <;> with_reducible rfl
      simp only [Act.put, List.getElem_toArray, List.getElem_cons_succ, List.getElem_cons_zero, List.setIfInBounds_toArray, List.set_cons_succ, List.set_cons_zero]
      refine wpAnyH_take (i := 9) (v := ?_) rfl (by kernel_rfl) (by kernel_rfl) (by kernel_rfl) (fun _ _ _ h => h) (Or.inl ⟨rfl, ?_⟩) hHeld ?_
      rotate_left
      · intro w' hS; obtain ⟨s0, s1⟩ := hS; go_simp <;> with_reducible rfl
      simp only [Act.put, List.getElem_toArray, List.getElem_cons_succ, List.getElem_cons_zero, List.setIfInBounds_toArray, List.set_cons_succ, List.set_cons_zero]
      refine wpAnyH_take (i := 10) (v := undef) rfl (by kernel_rfl) (by kernel_rfl) (by kernel_rfl) (fun _ _ _ h => h) (Or.inr ⟨by simp [Region.wanted, yielded], rfl⟩) hHeld ?_
      simp only [Act.put, List.getElem_toArray, List.getElem_cons_succ, List.getElem_cons_zero, List.setIfInBounds_toArray, List.set_cons_succ, List.set_cons_zero]
      refine wpAnyH_take (i := 11) (v := undef) rfl (by kernel_rfl) (by kernel_rfl) (by kernel_rfl) (fun _ _ _ h => h) (Or.inr ⟨by simp [Region.wanted, yielded], rfl⟩) hHeld ?_
      simp only [Act.put, List.getElem_toArray, List.getElem_cons_succ, List.getElem_cons_zero, List.setIfInBounds_toArray, List.set_cons_succ, List.set_cons_zero]
      refine wpAnyH_take (i := 12) (v := undef) rfl (by kernel_rfl) (by kernel_rfl) (by kernel_rfl) (fun _ _ _ h => h) (Or.inr ⟨by simp [Region.wanted, yielded], rfl⟩) hHeld ?_
      simp only [Act.put, List.getElem_toArray, List.getElem_cons_succ, List.getElem_cons_zero, List.setIfInBounds_toArray, List.set_cons_succ, List.set_cons_zero]
      refine wpAnyH_take (i := 13) (v := undef) rfl (by kernel_rfl) (by kernel_rfl) (by kernel_rfl) (fun _ _ _ h => h) (Or.inr ⟨by simp [Region.wanted, yielded], rfl⟩) hHeld ?_
      simp only [Act.put, List.getElem_toArray, List.getElem_cons_succ, List.getElem_cons_zero, List.setIfInBounds_toArray, List.set_cons_succ, List.set_cons_zero]
      refine wpAnyH_take (i := 14) (v := undef) rfl (by kernel_rfl) (by kernel_rfl) (by kernel_rfl) (fun _ _ _ h => h) (Or.inr ⟨by simp [Region.wanted, yielded], rfl⟩) hHeld ?_
      simp only [Act.put, List.getElem_toArray, List.getElem_cons_succ, List.getElem_cons_zero, List.setIfInBounds_toArray, List.set_cons_succ, List.set_cons_zero]
      refine wpAnyH_take (i := 15) (v := undef) rfl (by kernel_rfl) (by kernel_rfl) (by kernel_rfl) (fun _ _ _ h => h) (Or.inr ⟨by simp [Region.wanted, yielded], rfl⟩) hHeld ?_
      simp only [Act.put, List.getElem_toArray, List.getElem_cons_succ, List.getElem_cons_zero, List.setIfInBounds_toArray, List.set_cons_succ, List.set_cons_zero]
      refine wpAnyH_take (i := 16) (v := ?_) rfl (by kernel_rfl) (by kernel_rfl) (by kernel_rfl) (fun _ _ _ h => h) (Or.inl ⟨rfl, ?_⟩) hHeld ?_
      rotate_left
      · intro w' hS; obtain ⟨s0, s1⟩ := hS; go_simp <;> with_reducible rfl
      simp only [Act.put, List.getElem_toArray, List.getElem_cons_succ, List.getElem_cons_zero, List.setIfInBounds_toArray, List.set_cons_succ, List.set_cons_zero]
      refine wpAnyH_take (i := 17) (v := ?_) rfl (by kernel_rfl) (by kernel_rfl) (by kernel_rfl) (fun _ _ _ h => h) (Or.inl ⟨rfl, ?_⟩) hHeld ?_
      rotate_left
      · intro w' hS; obtain ⟨s0, s1⟩ := hS; go_simp <;> with_reducible rfl
      simp only [Act.put, List.getElem_toArray, List.getElem_cons_succ, List.getElem_cons_zero, List.setIfInBounds_toArray, List.set_cons_succ, List.set_cons_zero]
      refine wpAnyH_take (i := 18) (v := undef) rfl (by kernel_rfl) (by kernel_rfl) (by kernel_rfl) (fun _ _ _ h => h) (Or.inr ⟨by simp [Region.wanted, yielded], rfl⟩) hHeld ?_
      simp only [Act.put, List.getElem_toArray, List.getElem_cons_succ, List.getElem_cons_zero, List.setIfInBounds_toArray, List.set_cons_succ, List.set_cons_zero]
      refine wpAnyH_take (i := 19) (v := undef) rfl (by kernel_rfl) (by kernel_rfl) (by kernel_rfl) (fun _ _ _ h => h) (Or.inr ⟨by simp [Region.wanted, yielded], rfl⟩) hHeld ?_
      simp only [Act.put, List.getElem_toArray, List.getElem_cons_succ, List.getElem_cons_zero, List.setIfInBounds_toArray, List.set_cons_succ, List.set_cons_zero]
      refine wpAnyH_take (i := 20) (v := undef) rfl (by kernel_rfl) (by kernel_rfl) (by kernel_rfl) (fun _ _ _ h => h) (Or.inr ⟨by simp [Region.wanted, yielded], rfl⟩) hHeld ?_
      simp only [Act.put, List.getElem_toArray, List.getElem_cons_succ, List.getElem_cons_zero, List.setIfInBounds_toArray, List.set_cons_succ, List.set_cons_zero]
      refine wpAnyH_take (i := 21) (v := undef) rfl (by kernel_rfl) (by kernel_rfl) (by kernel_rfl) (fun _ _ _ h => h) (Or.inr ⟨by simp [Region.wanted, yielded], rfl⟩) hHeld ?_
      simp only [Act.put, List.getElem_toArray, List.getElem_cons_succ, List.getElem_cons_zero, List.setIfInBounds_toArray, List.set_cons_succ, List.set_cons_zero]
      refine wpAnyH_take (i := 22) (v := undef) rfl (by kernel_rfl) (by kernel_rfl) (by kernel_rfl) (fun _ _ _ h => h) (Or.inr ⟨by simp [Region.wanted, yielded], rfl⟩) hHeld ?_
      simp only [Act.put, List.getElem_toArray, List.getElem_cons_succ, List.getElem_cons_zero, List.setIfInBounds_toArray, List.set_cons_succ, List.set_cons_zero]
      refine wpAnyH_take (i := 23) (v := ?_) rfl (by kernel_rfl) (by kernel_rfl) (by kernel_rfl) (fun _ _ _ h => h) (Or.inl ⟨rfl, ?_⟩) hHeld ?_
      rotate_left
      · intro w' hS; obtain ⟨s0, s1⟩ := hS; go_simp <;> with_reducible rfl
      simp only [Act.put, List.getElem_toArray, List.getElem_cons_succ, List.getElem_cons_zero, List.setIfInBounds_toArray, List.set_cons_succ, List.set_cons_zero]
      refine wpAnyH_done (by kernel_rfl) ?_ _
      clear hHeld
      go_wp2
      go_ret
      exact ⟨ret_of (by rw [HP.out]; rfl), ht⟩

end Go.Proofs.Yteeolclnoblkcaa
