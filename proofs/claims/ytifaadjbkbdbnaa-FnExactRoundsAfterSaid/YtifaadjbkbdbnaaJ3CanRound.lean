/-
  What is proved: contracts of the program's sides of a site and of its test whether groups may go there (lets). Conditions: the groups' people are some of the night's.
  What is proved: contracts of the model's order of lists (cuBefore), of slices.Compare on lists of numbers and of slices.IsSortedFunc by it. Conditions: the lists are read as they lie.
  What is proved: what a round in a camp is, and a contract of the model's test of it (toCan). Conditions: the night is one, the camp one of it; the arguments are read as they lie.
  What is proved: contracts of the program's outings (outingWith, outingOf) and of its RoundTime. Conditions: the arguments are read as they lie.
  What is proved: a contract of the program's test of a round (roundIn). Conditions: the night is one, the camp one of it; the list is read as it lies.
  What is proved: contracts of CanRound, of the model and of the program. Conditions: the arguments are read as they lie.
  What is proved: lists of lists of the call's own, and contracts of the laws' marks on them. Conditions: the rows are new, open to writes and apart from each other; counts are small.
  What is proved: contracts of the laws' own helpers for nights and camps: their size, their copy, their comparison, their marks. Conditions: the given lists are read as they lie; a copy is of at most 1,048,576 values.
-/
import Derived.Lib.Small
import Derived.BigQuiet
import Derived.Deep.QuietTactic
import Derived.Deep.RegionHeld3
import Derived.Deep.DeepCutAuto
import Derived.Test.YtifaadjbkbdbnaaJ2CanRound
set_option linter.unusedSimpArgs false
set_option linter.unusedVariables false
namespace Go.Proofs.Ytifaadjbkbdbnaa
open Go.RowKit

/-- The cells of a place and of a site, by who is over. -/
def pl9 (f : Nat → Bool) (t : Bool) : Array Value := #[.bool (f 0), .bool (f 1), .bool (f 2), .bool (f 3), .bool (f 4), .bool (f 5), .bool (f 6), .bool (f 7), .bool t]
def si9 (f : Nat → Bool) (u : Int) : Array Value := #[.bool (f 0), .bool (f 1), .bool (f 2), .bool (f 3), .bool (f 4), .bool (f 5), .bool (f 6), .bool (f 7), .int .i64 u]
theorem pl9_of (bs : List Bool) (t : Bool) : placeCells bs t = pl9 (fun i => bs.getD i false) t := rfl
theorem si9_of (bs : List Bool) (u : Int) : siteCells bs u = si9 (fun i => bs.getD i false) u := rfl
theorem pl9_one (f : Nat → Bool) (t : Bool) : (pl9 f t).all (·.oneCell') = true := by simp [pl9, Value.oneCell']
theorem si9_one (f : Nat → Bool) (u : Int) : (si9 f u).all (·.oneCell') = true := by simp [si9, Value.oneCell']
def SiteS (g : Nat) (f : Nat → Bool) (u : Int) (w : World) : Prop :=
  w.cell? ⟨g, 0, none⟩ = some (.bool (f 0)) ∧ w.cell? ⟨g, 1, none⟩ = some (.bool (f 1)) ∧ w.cell? ⟨g, 2, none⟩ = some (.bool (f 2)) ∧ w.cell? ⟨g, 3, none⟩ = some (.bool (f 3)) ∧
  w.cell? ⟨g, 4, none⟩ = some (.bool (f 4)) ∧ w.cell? ⟨g, 5, none⟩ = some (.bool (f 5)) ∧ w.cell? ⟨g, 6, none⟩ = some (.bool (f 6)) ∧ w.cell? ⟨g, 7, none⟩ = some (.bool (f 7)) ∧ w.cell? ⟨g, 8, none⟩ = some (.int .i64 u)
theorem siteS {w : World} {g : Nat} {ty : TypeId} {f : Nat → Bool} {u : Int} (h : Whole w g ty (si9 f u)) : SiteS g f u w := ⟨h.cell 0, h.cell 1, h.cell 2, h.cell 3, h.cell 4, h.cell 5, h.cell 6, h.cell 7, h.cell 8⟩
theorem pl9_cells {w : World} {g : Nat} {ty : TypeId} {f : Nat → Bool} {t : Bool} (h : Whole w g ty (pl9 f t)) :
    w.cell? ⟨g, 0, none⟩ = some (.bool (f 0)) ∧ w.cell? ⟨g, 1, none⟩ = some (.bool (f 1)) ∧ w.cell? ⟨g, 2, none⟩ = some (.bool (f 2)) ∧ w.cell? ⟨g, 3, none⟩ = some (.bool (f 3)) ∧
    w.cell? ⟨g, 4, none⟩ = some (.bool (f 4)) ∧ w.cell? ⟨g, 5, none⟩ = some (.bool (f 5)) ∧ w.cell? ⟨g, 6, none⟩ = some (.bool (f 6)) ∧ w.cell? ⟨g, 7, none⟩ = some (.bool (f 7)) ∧ w.cell? ⟨g, 8, none⟩ = some (.bool t) := ⟨h.cell 0, h.cell 1, h.cell 2, h.cell 3, h.cell 4, h.cell 5, h.cell 6, h.cell 7, h.cell 8⟩

set_option maxHeartbeats 1600000 in
theorem side9_any (f : Nat → Bool) (u : Int) (t : Bool) (w : World) :
    Calls Try.prog 132 #[.agg (si9 f u), .bool t] w fun e w' => e = .returned (.agg (pl9 f t)) ∧ Below w.heap.size w w' := by
  have h0 := (Whole.fresh w 103 (si9 f u)).alloc (.cells (pl9 (fun _ => false) false) 94)
  have h1 := Whole.fresh (w.alloc (.cells (si9 f u) 103)) 94 (pl9 (fun _ => false) false)
  rw [World.size_alloc] at h1
  have ht := below2 w (.cells (si9 f u) 103) (.cells (pl9 (fun _ => false) false) 94)
  obtain ⟨s0, s1, s2, s3, s4, s5, s6, s7, s8⟩ := siteS h0
  unfold si9 pl9 at s0 s1 s2 s3 s4 s5 s6 s7 s8
  have H1 := Lib.hid h1
  have HT := Lib.hid ht
  clear h0 h1 ht
  unfold si9
  go_enter Try.func132, Try.ntmps132
  go_wp2_with (refine wpList_store_whole rfl 94 (.tmp 4) (.tmp 8) rfl (w.heap.size + 1) (pl9 f t) rfl rfl 94 _ H1.out size_place rfl (pl9_one _ _) ?_; intro w2 hw2 ho2)
  have hb2 := ho2.below HT.out (by omega)
  obtain ⟨r0, r1, r2, r3, r4, r5, r6, r7, r8⟩ := pl9_cells hw2
  refine bodyPost_ret (v := .agg (pl9 f t)) (by simp [results, Try.results132, go_sem, r0, r1, r2, r3, r4, r5, r6, r7, r8, pl9]) rfl ⟨rfl, hb2⟩
theorem holds9_any (n : Nat) (bs : List Bool) (f : Nat → Bool) (hf : f = (fun i => bs.getD i false)) (l : List Int) (t : Bool) (w : World) (hs : StepsTo l ((n : Int) - 1) l.length) (hn : n ≤ 8) :
    Calls Try.prog 133 #[.agg (pl9 f t), .agg (cells8 (has l))] w fun e w' => e = .returned (.bool (allAt bs t l)) ∧ Below w.heap.size w w' := by
  subst hf
  exact holds_any n bs l t w hs hn

/-- Is a group on one side? -/
def sided (bs : List Bool) (l : List Int) : Bool := allAt bs false l || allAt bs true l
/-- How many groups are on the near side, and on the far one. -/
def nearN (bs : List Bool) (G : List (List Int)) : Nat := (G.filter fun l => allAt bs false l).length
def farN (bs : List Bool) (G : List (List Int)) : Nat := (G.filter fun l => !allAt bs false l && allAt bs true l).length
theorem filter_next {G : List (List Int)} (p : List Int → Bool) {k : Nat} (hk : k < G.length) : ((G.take (k + 1)).filter p).length = ((G.take k).filter p).length + if p G[k] then 1 else 0 := by
  rw [List.take_succ_eq_append_getElem hk, List.filter_append, List.length_append]
  congr 1
  rw [List.filter_cons]
  split <;> rfl
theorem near_yes {bs : List Bool} {G : List (List Int)} {k : Nat} (hk : k < G.length) (h : allAt bs false G[k] = true) : nearN bs (G.take (k + 1)) = nearN bs (G.take k) + 1 ∧ farN bs (G.take (k + 1)) = farN bs (G.take k) :=
  ⟨by rw [nearN, filter_next _ hk, h]; rfl, by rw [farN, filter_next _ hk, h]; rfl⟩
theorem far_yes {bs : List Bool} {G : List (List Int)} {k : Nat} (hk : k < G.length) (h : allAt bs false G[k] = false) (h' : allAt bs true G[k] = true) : nearN bs (G.take (k + 1)) = nearN bs (G.take k) ∧ farN bs (G.take (k + 1)) = farN bs (G.take k) + 1 :=
  ⟨by rw [nearN, filter_next _ hk, h]; rfl, by rw [farN, filter_next _ hk, h, h']; rfl⟩
theorem near_le (bs : List Bool) (G : List (List Int)) : nearN bs G ≤ G.length := List.length_filter_le _ _
theorem far_le (bs : List Bool) (G : List (List Int)) : farN bs G ≤ G.length := List.length_filter_le _ _
/-- May these groups go at the same time, as far as sides and torches go? -/
def letsG (bs : List Bool) (t u : Int) (G : List (List Int)) : Bool := (List.range G.length).all (fun k => sided bs (G.getD k [])) && (decide ((nearN bs G : Int) ≤ t - u) && decide ((farN bs G : Int) ≤ u))
theorem letsG_no {bs : List Bool} {t u : Int} {G : List (List Int)} {k : Nat} (hk : k < G.length) (h : allAt bs false G[k] = false) (h' : allAt bs true G[k] = false) : letsG bs t u G = false := by
  have : (List.range G.length).all (fun k => sided bs (G.getD k [])) = false := by
    cases he : (List.range G.length).all (fun k => sided bs (G.getD k []))
    · rfl
    · rw [List.all_eq_true] at he
      have := he k (List.mem_range.2 hk)
      rw [sided, getG hk, h, h'] at this; cases this
  rw [letsG, this, Bool.false_and]
theorem letsG_all {bs : List Bool} {t u : Int} {G : List (List Int)} (h : ∀ k (hk : k < G.length), sided bs G[k] = true) : letsG bs t u G = (decide ((nearN bs G : Int) ≤ t - u) && decide ((farN bs G : Int) ≤ u)) := by
  have : (List.range G.length).all (fun k => sided bs (G.getD k [])) = true := List.all_eq_true.2 fun k hk => by
    have hk := List.mem_range.1 hk
    rw [getG hk]; exact h k hk
  rw [letsG, this, Bool.true_and]


set_option maxHeartbeats 12800000 in
set_option maxRecDepth 100000 in
set_option linter.unusedVariables false in
theorem lets9_any (f : Nat → Bool) (u t : Int) (T : Option Addr) (q c n : Nat) (bs : List Bool) (hf : f = (fun i => bs.getD i false)) (ls : List (List Int)) (w : World) (hT : Holds w T (crowdsOf ls)) (hq : ls.length = q) (hq8 : q ≤ 1048576) (hn : n ≤ 8) (hst : ∀ k (hk : k < ls.length), StepsTo ls[k] ((n : Int) - 1) ls[k].length) (hu : -1048576 ≤ u ∧ u ≤ 1048576) (ht2 : -1048576 ≤ t ∧ t ≤ 1048576) :
    Calls Try.prog 114 #[.agg (si9 f u), .int .i64 t, .slice T q c] w fun e w' => e = .returned (.bool (letsG bs t u ls)) ∧ Below w.heap.size w w' := by
  subst hq
  have HF := Lib.hid hf
  have HSS := Lib.hid hst
  have h0 := Whole.fresh w 103 (si9 f u)
  have hb0 := below1 w (.cells (si9 f u) 103)
  have H0 := Lib.hid h0
  have HB0 := Lib.hid hb0
  clear h0 hb0 hst hf
  unfold si9
  go_enter Try.func114, Try.ntmps114
  go_wp2
  go_loopw [7, 8, 13] (fun v y i wr => ∃ k : Nat, k ≤ ls.length ∧ i = .int .i64 k ∧ v = .int .i64 (nearN bs (ls.take k)) ∧ y = .int .i64 (farN bs (ls.take k)) ∧ Whole wr w.heap.size 103 (si9 f u) ∧ Below w.heap.size w wr ∧ ∀ j (hj : j < ls.length), j < k → sided bs ls[j] = true) (fun _ _ i _ => ls.length - (intOf i).toNat)
  case atStart => exact ⟨0, Nat.zero_le _, rfl, rfl, rfl, H0.out, HB0.out, fun j _ hj => absurd hj (by omega)⟩
  case round =>
    obtain ⟨k, hk, rfl, rfl, rfl, hC, ht, hall⟩ := hrel
    clear H0 HB0
    have HALL := Lib.hid hall
    clear hall
    by_cases hlt : k < ls.length
    · obtain ⟨b1, o1, rfl, hbl1, hcells⟩ := (hT.below ht).spot (by rw [crowdsOf_len]; omega)
      obtain ⟨e0, e1, e2, e3, e4, e5, e6, e7⟩ := crowdG_row hcells hlt
      have HST := Lib.hid (HSS.out k hlt)
      have HNO := Lib.hid (fun h h' => letsG_no (t := t) (u := u) (bs := bs) (k := k) hlt h h')
      have HNE := Lib.hid (fun h => near_yes (bs := bs) (k := k) hlt h)
      have HFA := Lib.hid (fun h h' => far_yes (bs := bs) (k := k) hlt h h')
      have HSI : Hid (∀ b, allAt bs b ls[k] = true → sided bs ls[k] = true) := fun b h => by cases b <;> simp [sided, h]
      have hnl : nearN bs (ls.take k) ≤ k := Nat.le_trans (near_le _ _) (by simp; omega)
      have hfl : farN bs (ls.take k) ≤ k := Nat.le_trans (far_le _ _) (by simp; omega)
      have HNX : Hid (sided bs ls[k] = true → ∀ j (hj : j < ls.length), j < k + 1 → sided bs ls[j] = true) := fun h j hj hjk => by
        rcases Nat.lt_or_ge j k with h1 | h1
        · exact HALL.out j hj h1
        · obtain rfl : j = k := by omega
          exact h
      obtain ⟨l, hl⟩ : ∃ l, l = ls[k] := ⟨_, rfl⟩
      rw [← hl] at e0 e1 e2 e3 e4 e5 e6 e7 HNO HNE HFA HSI HST HNX
      clear hl hcells
      have hx := Whole.fresh wr 92 (cells8 (has l))
      have hlb := hC.lt
      replace hC := hC.alloc (.cells (cells8 (has l)) 92)
      have hsz := ht.size
      replace ht := ht.alloc ht.size (.cells (cells8 (has l)) 92)
      cases ha : allAt bs false l
      · cases hb : allAt bs true l
        · have HA := Lib.hid ha
          have HB := Lib.hid hb
          have HP := Lib.hid (HNO.out ha hb)
          clear ha hb HNO HNE HFA HSI HNX
          unfold cells8 at hC hx ht
          go_wp2_with fail
          refine wp_region_held_drew (S := (fun w' => RowG wr.heap.size (has l) w' ∧ SiteS w.heap.size f u w')) (by kernel_rfl) ⟨rowG hx.drew, siteS hC.drew⟩ (fun hHeld => ?_)
          replace hC := hC.drew
          replace hx := hx.drew
          replace ht := ht.drew
          generalize hwd : World.drew _ = wd at hC hx ht hHeld ⊢
          clear hwd
          refine wpAnyH_take (i := 0) (v := ?_) rfl (by kernel_rfl) (by kernel_rfl) (by kernel_rfl) (fun _ _ _ h => h) (Or.inl ⟨rfl, ?_⟩) hHeld ?_
          rotate_left
          · intro w' hS; obtain ⟨⟨s0, s1, s2, s3, s4, s5, s6, s7⟩, ⟨q0, q1, q2, q3, q4, q5, q6, q7, q8⟩⟩ := hS; go_simp <;> with_reducible rfl
          simp only [Act.put, List.getElem_toArray, List.getElem_cons_succ, List.getElem_cons_zero, List.setIfInBounds_toArray, List.set_cons_succ, List.set_cons_zero]
          refine wpAnyH_take (i := 2) (v := ?_) rfl (by kernel_rfl) (by kernel_rfl) (by kernel_rfl) (fun _ _ _ h => h) (Or.inl ⟨rfl, ?_⟩) hHeld ?_
          rotate_left
          · intro w' hS; obtain ⟨⟨s0, s1, s2, s3, s4, s5, s6, s7⟩, ⟨q0, q1, q2, q3, q4, q5, q6, q7, q8⟩⟩ := hS; go_simp <;> with_reducible rfl
          simp only [Act.put, List.getElem_toArray, List.getElem_cons_succ, List.getElem_cons_zero, List.setIfInBounds_toArray, List.set_cons_succ, List.set_cons_zero]
          refine wpAnyH_ready (rs := [1]) (by kernel_rfl) (by simp) (AllReadyH.cons rfl (fun K hK => ?_) AllReadyH.nil)
          go_simp
          have hsd := side9_any f u false wd
          unfold si9 pl9 at hsd
          refine hsd.mono ?_
          clear hsd
          rintro e w5 ⟨rfl, hbb⟩
          replace hC := hC.below hbb
          replace hx := hx.below hbb
          have hz5 := hbb.size
          replace ht := below_then ht hbb ht.size
          clear hbb
          refine hK.out _ _ ⟨rowG hx, siteS hC⟩ (fun hHeld => ?_)
          clear hK K
          try simp only [Act.put, List.getElem_toArray, List.getElem_cons_succ, List.getElem_cons_zero, List.setIfInBounds_toArray, List.set_cons_succ, List.set_cons_zero]
          refine wpAnyH_ready (rs := [3]) (by kernel_rfl) (by simp) (AllReadyH.cons rfl (fun K hK => ?_) AllReadyH.nil)
          go_simp
          have hhd := holds9_any n bs f HF.out l false w5 HST.out hn
          unfold pl9 cells8 at hhd
          refine hhd.mono ?_
          clear hhd
          rintro e w6 ⟨rfl, hbb⟩
          replace hC := hC.below hbb
          replace hx := hx.below hbb
          have hz6 := hbb.size
          replace ht := below_then ht hbb ht.size
          clear hbb
          refine hK.out _ _ ⟨rowG hx, siteS hC⟩ (fun hHeld => ?_)
          clear hK K
          try simp only [Act.put, List.getElem_toArray, List.getElem_cons_succ, List.getElem_cons_zero, List.setIfInBounds_toArray, List.set_cons_succ, List.set_cons_zero]
          refine wpAnyH_take (i := 4) (v := ?_) rfl (by kernel_rfl) (by kernel_rfl) (by kernel_rfl) (fun _ _ _ h => h) (Or.inl ⟨rfl, ?_⟩) hHeld ?_
          rotate_left
          · intro w' hS; obtain ⟨⟨s0, s1, s2, s3, s4, s5, s6, s7⟩, ⟨q0, q1, q2, q3, q4, q5, q6, q7, q8⟩⟩ := hS; go_simp <;> with_reducible rfl
          simp only [Act.put, List.getElem_toArray, List.getElem_cons_succ, List.getElem_cons_zero, List.setIfInBounds_toArray, List.set_cons_succ, List.set_cons_zero]
          refine wpAnyH_done (by kernel_rfl) ?_ _
          clear hHeld
          rw [HA.out]
          go_wp2_with fail
          refine wp_region_held_drew (S := (fun w' => RowG wr.heap.size (has l) w' ∧ SiteS w.heap.size f u w')) (by kernel_rfl) ⟨rowG hx.drew, siteS hC.drew⟩ (fun hHeld => ?_)
          replace hC := hC.drew
          replace hx := hx.drew
          replace ht := ht.drew
          generalize hwd : World.drew _ = wd at hC hx ht hHeld ⊢
          clear hwd
          refine wpAnyH_take (i := 0) (v := ?_) rfl (by kernel_rfl) (by kernel_rfl) (by kernel_rfl) (fun _ _ _ h => h) (Or.inl ⟨rfl, ?_⟩) hHeld ?_
          rotate_left
          · intro w' hS; obtain ⟨⟨s0, s1, s2, s3, s4, s5, s6, s7⟩, ⟨q0, q1, q2, q3, q4, q5, q6, q7, q8⟩⟩ := hS; go_simp <;> with_reducible rfl
          simp only [Act.put, List.getElem_toArray, List.getElem_cons_succ, List.getElem_cons_zero, List.setIfInBounds_toArray, List.set_cons_succ, List.set_cons_zero]
          refine wpAnyH_take (i := 2) (v := ?_) rfl (by kernel_rfl) (by kernel_rfl) (by kernel_rfl) (fun _ _ _ h => h) (Or.inl ⟨rfl, ?_⟩) hHeld ?_
          rotate_left
          · intro w' hS; obtain ⟨⟨s0, s1, s2, s3, s4, s5, s6, s7⟩, ⟨q0, q1, q2, q3, q4, q5, q6, q7, q8⟩⟩ := hS; go_simp <;> with_reducible rfl
          simp only [Act.put, List.getElem_toArray, List.getElem_cons_succ, List.getElem_cons_zero, List.setIfInBounds_toArray, List.set_cons_succ, List.set_cons_zero]
          refine wpAnyH_ready (rs := [1]) (by kernel_rfl) (by simp) (AllReadyH.cons rfl (fun K hK => ?_) AllReadyH.nil)
          go_simp
          have hsd := side9_any f u true wd
          unfold si9 pl9 at hsd
          refine hsd.mono ?_
          clear hsd
          rintro e w5 ⟨rfl, hbb⟩
          replace hC := hC.below hbb
          replace hx := hx.below hbb
          have hz5 := hbb.size
          replace ht := below_then ht hbb ht.size
          clear hbb
          refine hK.out _ _ ⟨rowG hx, siteS hC⟩ (fun hHeld => ?_)
          clear hK K
          try simp only [Act.put, List.getElem_toArray, List.getElem_cons_succ, List.getElem_cons_zero, List.setIfInBounds_toArray, List.set_cons_succ, List.set_cons_zero]
          refine wpAnyH_ready (rs := [3]) (by kernel_rfl) (by simp) (AllReadyH.cons rfl (fun K hK => ?_) AllReadyH.nil)
          go_simp
          have hhd := holds9_any n bs f HF.out l true w5 HST.out hn
          unfold pl9 cells8 at hhd
          refine hhd.mono ?_
          clear hhd
          rintro e w6 ⟨rfl, hbb⟩
          replace hC := hC.below hbb
          replace hx := hx.below hbb
          have hz6 := hbb.size
          replace ht := below_then ht hbb ht.size
          clear hbb
          refine hK.out _ _ ⟨rowG hx, siteS hC⟩ (fun hHeld => ?_)
          clear hK K
          try simp only [Act.put, List.getElem_toArray, List.getElem_cons_succ, List.getElem_cons_zero, List.setIfInBounds_toArray, List.set_cons_succ, List.set_cons_zero]
          refine wpAnyH_take (i := 4) (v := ?_) rfl (by kernel_rfl) (by kernel_rfl) (by kernel_rfl) (fun _ _ _ h => h) (Or.inl ⟨rfl, ?_⟩) hHeld ?_
          rotate_left
          · intro w' hS; obtain ⟨⟨s0, s1, s2, s3, s4, s5, s6, s7⟩, ⟨q0, q1, q2, q3, q4, q5, q6, q7, q8⟩⟩ := hS; go_simp <;> with_reducible rfl
          simp only [Act.put, List.getElem_toArray, List.getElem_cons_succ, List.getElem_cons_zero, List.setIfInBounds_toArray, List.set_cons_succ, List.set_cons_zero]
          refine wpAnyH_done (by kernel_rfl) ?_ _
          clear hHeld
          rw [HB.out]
          go_wp2
          go_ret
          exact ⟨ret_of (by rw [HP.out]; rfl), ht⟩
        · have HA := Lib.hid ha
          have HB := Lib.hid hb
          have HCN := Lib.hid (HFA.out ha hb)
          have HN2 := Lib.hid (HNX.out (HSI.out true hb))
          clear ha hb HNO HNE HFA HSI HNX
          unfold cells8 at hC hx ht
          go_wp2_with fail
          refine wp_region_held_drew (S := (fun w' => RowG wr.heap.size (has l) w' ∧ SiteS w.heap.size f u w')) (by kernel_rfl) ⟨rowG hx.drew, siteS hC.drew⟩ (fun hHeld => ?_)
          replace hC := hC.drew
          replace hx := hx.drew
          replace ht := ht.drew
          generalize hwd : World.drew _ = wd at hC hx ht hHeld ⊢
          clear hwd
          refine wpAnyH_take (i := 0) (v := ?_) rfl (by kernel_rfl) (by kernel_rfl) (by kernel_rfl) (fun _ _ _ h => h) (Or.inl ⟨rfl, ?_⟩) hHeld ?_
          rotate_left
          · intro w' hS; obtain ⟨⟨s0, s1, s2, s3, s4, s5, s6, s7⟩, ⟨q0, q1, q2, q3, q4, q5, q6, q7, q8⟩⟩ := hS; go_simp <;> with_reducible rfl
          simp only [Act.put, List.getElem_toArray, List.getElem_cons_succ, List.getElem_cons_zero, List.setIfInBounds_toArray, List.set_cons_succ, List.set_cons_zero]
          refine wpAnyH_take (i := 2) (v := ?_) rfl (by kernel_rfl) (by kernel_rfl) (by kernel_rfl) (fun _ _ _ h => h) (Or.inl ⟨rfl, ?_⟩) hHeld ?_
          rotate_left
          · intro w' hS; obtain ⟨⟨s0, s1, s2, s3, s4, s5, s6, s7⟩, ⟨q0, q1, q2, q3, q4, q5, q6, q7, q8⟩⟩ := hS; go_simp <;> with_reducible rfl
          simp only [Act.put, List.getElem_toArray, List.getElem_cons_succ, List.getElem_cons_zero, List.setIfInBounds_toArray, List.set_cons_succ, List.set_cons_zero]
          refine wpAnyH_ready (rs := [1]) (by kernel_rfl) (by simp) (AllReadyH.cons rfl (fun K hK => ?_) AllReadyH.nil)
          go_simp
          have hsd := side9_any f u false wd
          unfold si9 pl9 at hsd
          refine hsd.mono ?_
          clear hsd
          rintro e w5 ⟨rfl, hbb⟩
          replace hC := hC.below hbb
          replace hx := hx.below hbb
          have hz5 := hbb.size
          replace ht := below_then ht hbb ht.size
          clear hbb
          refine hK.out _ _ ⟨rowG hx, siteS hC⟩ (fun hHeld => ?_)
          clear hK K
          try simp only [Act.put, List.getElem_toArray, List.getElem_cons_succ, List.getElem_cons_zero, List.setIfInBounds_toArray, List.set_cons_succ, List.set_cons_zero]
          refine wpAnyH_ready (rs := [3]) (by kernel_rfl) (by simp) (AllReadyH.cons rfl (fun K hK => ?_) AllReadyH.nil)
          go_simp
          have hhd := holds9_any n bs f HF.out l false w5 HST.out hn
          unfold pl9 cells8 at hhd
          refine hhd.mono ?_
          clear hhd
          rintro e w6 ⟨rfl, hbb⟩
          replace hC := hC.below hbb
          replace hx := hx.below hbb
          have hz6 := hbb.size
          replace ht := below_then ht hbb ht.size
          clear hbb
          refine hK.out _ _ ⟨rowG hx, siteS hC⟩ (fun hHeld => ?_)
          clear hK K
          try simp only [Act.put, List.getElem_toArray, List.getElem_cons_succ, List.getElem_cons_zero, List.setIfInBounds_toArray, List.set_cons_succ, List.set_cons_zero]
          refine wpAnyH_take (i := 4) (v := ?_) rfl (by kernel_rfl) (by kernel_rfl) (by kernel_rfl) (fun _ _ _ h => h) (Or.inl ⟨rfl, ?_⟩) hHeld ?_
          rotate_left
          · intro w' hS; obtain ⟨⟨s0, s1, s2, s3, s4, s5, s6, s7⟩, ⟨q0, q1, q2, q3, q4, q5, q6, q7, q8⟩⟩ := hS; go_simp <;> with_reducible rfl
          simp only [Act.put, List.getElem_toArray, List.getElem_cons_succ, List.getElem_cons_zero, List.setIfInBounds_toArray, List.set_cons_succ, List.set_cons_zero]
          refine wpAnyH_done (by kernel_rfl) ?_ _
          clear hHeld
          rw [HA.out]
          go_wp2_with fail
          refine wp_region_held_drew (S := (fun w' => RowG wr.heap.size (has l) w' ∧ SiteS w.heap.size f u w')) (by kernel_rfl) ⟨rowG hx.drew, siteS hC.drew⟩ (fun hHeld => ?_)
          replace hC := hC.drew
          replace hx := hx.drew
          replace ht := ht.drew
          generalize hwd : World.drew _ = wd at hC hx ht hHeld ⊢
          clear hwd
          refine wpAnyH_take (i := 0) (v := ?_) rfl (by kernel_rfl) (by kernel_rfl) (by kernel_rfl) (fun _ _ _ h => h) (Or.inl ⟨rfl, ?_⟩) hHeld ?_
          rotate_left
          · intro w' hS; obtain ⟨⟨s0, s1, s2, s3, s4, s5, s6, s7⟩, ⟨q0, q1, q2, q3, q4, q5, q6, q7, q8⟩⟩ := hS; go_simp <;> with_reducible rfl
          simp only [Act.put, List.getElem_toArray, List.getElem_cons_succ, List.getElem_cons_zero, List.setIfInBounds_toArray, List.set_cons_succ, List.set_cons_zero]
          refine wpAnyH_take (i := 2) (v := ?_) rfl (by kernel_rfl) (by kernel_rfl) (by kernel_rfl) (fun _ _ _ h => h) (Or.inl ⟨rfl, ?_⟩) hHeld ?_
          rotate_left
          · intro w' hS; obtain ⟨⟨s0, s1, s2, s3, s4, s5, s6, s7⟩, ⟨q0, q1, q2, q3, q4, q5, q6, q7, q8⟩⟩ := hS; go_simp <;> with_reducible rfl
          simp only [Act.put, List.getElem_toArray, List.getElem_cons_succ, List.getElem_cons_zero, List.setIfInBounds_toArray, List.set_cons_succ, List.set_cons_zero]
          refine wpAnyH_ready (rs := [1]) (by kernel_rfl) (by simp) (AllReadyH.cons rfl (fun K hK => ?_) AllReadyH.nil)
          go_simp
          have hsd := side9_any f u true wd
          unfold si9 pl9 at hsd
          refine hsd.mono ?_
          clear hsd
          rintro e w5 ⟨rfl, hbb⟩
          replace hC := hC.below hbb
          replace hx := hx.below hbb
          have hz5 := hbb.size
          replace ht := below_then ht hbb ht.size
          clear hbb
          refine hK.out _ _ ⟨rowG hx, siteS hC⟩ (fun hHeld => ?_)
          clear hK K
          try simp only [Act.put, List.getElem_toArray, List.getElem_cons_succ, List.getElem_cons_zero, List.setIfInBounds_toArray, List.set_cons_succ, List.set_cons_zero]
          refine wpAnyH_ready (rs := [3]) (by kernel_rfl) (by simp) (AllReadyH.cons rfl (fun K hK => ?_) AllReadyH.nil)
          go_simp
          have hhd := holds9_any n bs f HF.out l true w5 HST.out hn
          unfold pl9 cells8 at hhd
          refine hhd.mono ?_
          clear hhd
          rintro e w6 ⟨rfl, hbb⟩
          replace hC := hC.below hbb
          replace hx := hx.below hbb
          have hz6 := hbb.size
          replace ht := below_then ht hbb ht.size
          clear hbb
          refine hK.out _ _ ⟨rowG hx, siteS hC⟩ (fun hHeld => ?_)
          clear hK K
          try simp only [Act.put, List.getElem_toArray, List.getElem_cons_succ, List.getElem_cons_zero, List.setIfInBounds_toArray, List.set_cons_succ, List.set_cons_zero]
          refine wpAnyH_take (i := 4) (v := ?_) rfl (by kernel_rfl) (by kernel_rfl) (by kernel_rfl) (fun _ _ _ h => h) (Or.inl ⟨rfl, ?_⟩) hHeld ?_
          rotate_left
          · intro w' hS; obtain ⟨⟨s0, s1, s2, s3, s4, s5, s6, s7⟩, ⟨q0, q1, q2, q3, q4, q5, q6, q7, q8⟩⟩ := hS; go_simp <;> with_reducible rfl
          simp only [Act.put, List.getElem_toArray, List.getElem_cons_succ, List.getElem_cons_zero, List.setIfInBounds_toArray, List.set_cons_succ, List.set_cons_zero]
          refine wpAnyH_done (by kernel_rfl) ?_ _
          clear hHeld
          rw [HB.out]
          have HC := Lib.hid hC
          have HT2 := Lib.hid ht
          clear hC ht hx
          go_wp2
          go_roundw
          case rel => exact ⟨k + 1, by omega, by go_num, by rw [HCN.out.1], by rw [HCN.out.2]; go_num, HC.out, HT2.out, HN2.out⟩
          case measure => simp [intOf]; omega
      · have HA := Lib.hid ha
        have HCN := Lib.hid (HNE.out ha)
        have HN2 := Lib.hid (HNX.out (HSI.out false ha))
        clear ha HNO HNE HFA HSI HNX
        unfold cells8 at hC hx ht
        go_wp2_with fail
        refine wp_region_held_drew (S := (fun w' => RowG wr.heap.size (has l) w' ∧ SiteS w.heap.size f u w')) (by kernel_rfl) ⟨rowG hx.drew, siteS hC.drew⟩ (fun hHeld => ?_)
        replace hC := hC.drew
        replace hx := hx.drew
        replace ht := ht.drew
        generalize hwd : World.drew _ = wd at hC hx ht hHeld ⊢
        clear hwd
        refine wpAnyH_take (i := 0) (v := ?_) rfl (by kernel_rfl) (by kernel_rfl) (by kernel_rfl) (fun _ _ _ h => h) (Or.inl ⟨rfl, ?_⟩) hHeld ?_
        rotate_left
        · intro w' hS; obtain ⟨⟨s0, s1, s2, s3, s4, s5, s6, s7⟩, ⟨q0, q1, q2, q3, q4, q5, q6, q7, q8⟩⟩ := hS; go_simp <;> with_reducible rfl
        simp only [Act.put, List.getElem_toArray, List.getElem_cons_succ, List.getElem_cons_zero, List.setIfInBounds_toArray, List.set_cons_succ, List.set_cons_zero]
        refine wpAnyH_take (i := 2) (v := ?_) rfl (by kernel_rfl) (by kernel_rfl) (by kernel_rfl) (fun _ _ _ h => h) (Or.inl ⟨rfl, ?_⟩) hHeld ?_
        rotate_left
        · intro w' hS; obtain ⟨⟨s0, s1, s2, s3, s4, s5, s6, s7⟩, ⟨q0, q1, q2, q3, q4, q5, q6, q7, q8⟩⟩ := hS; go_simp <;> with_reducible rfl
        simp only [Act.put, List.getElem_toArray, List.getElem_cons_succ, List.getElem_cons_zero, List.setIfInBounds_toArray, List.set_cons_succ, List.set_cons_zero]
        refine wpAnyH_ready (rs := [1]) (by kernel_rfl) (by simp) (AllReadyH.cons rfl (fun K hK => ?_) AllReadyH.nil)
        go_simp
        have hsd := side9_any f u false wd
        unfold si9 pl9 at hsd
        refine hsd.mono ?_
        clear hsd
        rintro e w5 ⟨rfl, hbb⟩
        replace hC := hC.below hbb
        replace hx := hx.below hbb
        have hz5 := hbb.size
        replace ht := below_then ht hbb ht.size
        clear hbb
        refine hK.out _ _ ⟨rowG hx, siteS hC⟩ (fun hHeld => ?_)
        clear hK K
        try simp only [Act.put, List.getElem_toArray, List.getElem_cons_succ, List.getElem_cons_zero, List.setIfInBounds_toArray, List.set_cons_succ, List.set_cons_zero]
        refine wpAnyH_ready (rs := [3]) (by kernel_rfl) (by simp) (AllReadyH.cons rfl (fun K hK => ?_) AllReadyH.nil)
        go_simp
        have hhd := holds9_any n bs f HF.out l false w5 HST.out hn
        unfold pl9 cells8 at hhd
        refine hhd.mono ?_
        clear hhd
        rintro e w6 ⟨rfl, hbb⟩
        replace hC := hC.below hbb
        replace hx := hx.below hbb
        have hz6 := hbb.size
        replace ht := below_then ht hbb ht.size
        clear hbb
        refine hK.out _ _ ⟨rowG hx, siteS hC⟩ (fun hHeld => ?_)
        clear hK K
        try simp only [Act.put, List.getElem_toArray, List.getElem_cons_succ, List.getElem_cons_zero, List.setIfInBounds_toArray, List.set_cons_succ, List.set_cons_zero]
        refine wpAnyH_take (i := 4) (v := ?_) rfl (by kernel_rfl) (by kernel_rfl) (by kernel_rfl) (fun _ _ _ h => h) (Or.inl ⟨rfl, ?_⟩) hHeld ?_
        rotate_left
        · intro w' hS; obtain ⟨⟨s0, s1, s2, s3, s4, s5, s6, s7⟩, ⟨q0, q1, q2, q3, q4, q5, q6, q7, q8⟩⟩ := hS; go_simp <;> with_reducible rfl
        simp only [Act.put, List.getElem_toArray, List.getElem_cons_succ, List.getElem_cons_zero, List.setIfInBounds_toArray, List.set_cons_succ, List.set_cons_zero]
        refine wpAnyH_done (by kernel_rfl) ?_ _
        clear hHeld
        rw [HA.out]
        have HC := Lib.hid hC
        have HT2 := Lib.hid ht
        clear hC ht hx
        go_wp2
        go_roundw
        case rel => exact ⟨k + 1, by omega, by go_num, by rw [HCN.out.1]; go_num, by rw [HCN.out.2], HC.out, HT2.out, HN2.out⟩
        case measure => simp [intOf]; omega
    · obtain rfl : k = ls.length := by omega
      have HP := Lib.hid (letsG_all (t := t) (u := u) (fun k hk => HALL.out k hk hk))
      rw [List.take_length]
      have hnl : nearN bs ls ≤ ls.length := near_le _ _
      have hfl : farN bs ls ≤ ls.length := far_le _ _
      obtain ⟨s0, s1, s2, s3, s4, s5, s6, s7, s8⟩ := siteS hC
      clear s0 s1 s2 s3 s4 s5 s6 s7 hC
      generalize nearN bs ls = N1 at *
      generalize farN bs ls = N2 at *
      by_cases h1 : (N1 : Int) ≤ t - u
      · by_cases h2 : (N2 : Int) ≤ u
        · go_wp2
          go_ret
          exact ⟨ret_of (by rw [HP.out]; first | (simp [h1, h2]; done) | (simp [h1, h2]; omega)), ht⟩
        · go_wp2
          go_ret
          exact ⟨ret_of (by rw [HP.out]; first | (simp [h1, h2]; done) | (simp [h1, h2]; omega)), ht⟩
      · go_wp2
        go_ret
        exact ⟨ret_of (by rw [HP.out]; first | (simp [h1]; done) | (simp; omega)), ht⟩
theorem lets_any (u t : Int) (T : Option Addr) (q c n : Nat) (bs : List Bool) (ls : List (List Int)) (w : World) (hT : Holds w T (crowdsOf ls)) (hq : ls.length = q) (hq8 : q ≤ 1048576) (hn : n ≤ 8) (hst : ∀ k (hk : k < ls.length), StepsTo ls[k] ((n : Int) - 1) ls[k].length) (hu : -1048576 ≤ u ∧ u ≤ 1048576) (ht2 : -1048576 ≤ t ∧ t ≤ 1048576) :
    Calls Try.prog 114 #[.agg (siteCells bs u), .int .i64 t, .slice T q c] w fun e w' => e = .returned (.bool (letsG bs t u ls)) ∧ Below w.heap.size w w' :=
  lets9_any _ u t T q c n bs rfl ls w hT hq hq8 hn hst hu ht2
end Go.Proofs.Ytifaadjbkbdbnaa

namespace Go.Proofs.Ytifaadjbkbdbnaa
open Go.RowKit

/-- Does a list come before another one? -/
def lexG : List Int → List Int → Bool
  | [], [] => false
  | [], _ :: _ => true
  | _ :: _, [] => false
  | a :: xs, b :: ys => if a = b then lexG xs ys else decide (a < b)
theorem lexG_same {a b : List Int} {k : Nat} (ha : k < a.length) (hb : k < b.length) (he : a[k] = b[k]) : lexG (a.drop k) (b.drop k) = lexG (a.drop (k + 1)) (b.drop (k + 1)) := by
  rw [List.drop_eq_getElem_cons ha, List.drop_eq_getElem_cons hb, lexG, if_pos he]
theorem lexG_part {a b : List Int} {k : Nat} (ha : k < a.length) (hb : k < b.length) (he : a[k] ≠ b[k]) : lexG (a.drop k) (b.drop k) = decide (a[k] < b[k]) := by
  rw [List.drop_eq_getElem_cons ha, List.drop_eq_getElem_cons hb, lexG, if_neg he]
theorem lexG_end {a b : List Int} {k : Nat} (ha : k ≤ a.length) (hb : k ≤ b.length) (h : ¬ (k < a.length ∧ k < b.length)) : lexG (a.drop k) (b.drop k) = decide (a.length < b.length) := by
  by_cases h1 : k < a.length
  · have h2 : b.length ≤ k := by omega
    rw [List.drop_eq_getElem_cons h1, List.drop_of_length_le h2, lexG]
    simp; omega
  · have h2 : a.length ≤ k := by omega
    rw [List.drop_of_length_le h2]
    by_cases h3 : k < b.length
    · rw [List.drop_eq_getElem_cons h3, lexG]
      simp; omega
    · rw [List.drop_of_length_le (by omega), lexG]
      simp; omega

set_option maxHeartbeats 1600000 in
theorem cuBeforeG_any (A B : Option Addr) (n c m d : Nat) (x y : List Int) (w : World) (hA : Holds w A (nums x)) (hB : Holds w B (nums y)) (hx : x.length = n) (hy : y.length = m) (hn : n ≤ 1048576) (hm : m ≤ 1048576) :
    Calls Try.prog 119 #[.slice A n c, .slice B m d] w fun e w' => e = .returned (.bool (lexG x y)) ∧ Below w.heap.size w w' := by
  subst hx hy
  go_enter Try.func119, Try.ntmps119
  go_wp2
  go_loopw [5] (fun i wr => ∃ k q : Nat, k ≤ x.length ∧ k ≤ y.length ∧ i = .int .i64 k ∧ wr = w.drewN q ∧ lexG x y = lexG (x.drop k) (y.drop k)) (fun i _ => x.length - (intOf i).toNat)
  case atStart => exact ⟨0, 0, Nat.zero_le _, Nat.zero_le _, rfl, rfl, rfl⟩
  case round =>
    obtain ⟨k, q, hk1, hk2, rfl, rfl, hl⟩ := hrel
    by_cases h1 : k < x.length
    · by_cases h2 : k < y.length
      · have e1 : decide ((k : Int) < (x.length : Int)) = true := by simp; omega
        have e2 : decide ((k : Int) < (y.length : Int)) = true := by simp; omega
        obtain ⟨b, o, rfl, hb, hc⟩ := hA.look (k := k) (by simpa [nums] using h1)
        obtain ⟨b', o', rfl, hb', hc'⟩ := hB.look (k := k) (by simpa [nums] using h2)
        simp only [nums, List.getElem_map] at hc hc'
        by_cases he : x[k] = y[k]
        · have hne : (!(x[k] == y[k])) = false := by simp [he]
          have hne2 : (x[k] != y[k]) = false := by simp [he]
          have HL := Lib.hid (hl.trans (lexG_same h1 h2 he))
          clear he hl
          go_wp2
          go_quiet (fail)
          go_wp2
          go_roundw
          case rel => exact ⟨k + 1, _, by omega, by omega, by go_num, rfl, HL.out⟩
          case measure => simp [intOf]; omega
        · have hne : (!(x[k] == y[k])) = true := by simp [he]
          have hne2 : (x[k] != y[k]) = true := by simp [he]
          have HL := Lib.hid (hl.trans (lexG_part h1 h2 he))
          clear he hl
          go_wp2
          go_quiet (fail)
          go_wp2
          go_quiet (fail)
          go_wp2
          go_ret
          exact ⟨ret_of (by rw [HL.out]; rfl), below_draws (below_draws (below_draws (Below.refl _ _) q) _) _⟩
      · have e1 : decide ((k : Int) < (x.length : Int)) = true := by simp; omega
        have e2 : decide ((k : Int) < (y.length : Int)) = false := by simp; omega
        have HL := Lib.hid (hl.trans (lexG_end hk1 hk2 (by omega)))
        clear hl
        go_wp2
        go_ret
        exact ⟨ret_of (by rw [HL.out]; simp), below_draws (Below.refl _ _) q⟩
    · have e1 : decide ((k : Int) < (x.length : Int)) = false := by simp; omega
      have HL := Lib.hid (hl.trans (lexG_end hk1 hk2 (by omega)))
      clear hl
      go_wp2
      go_ret
      exact ⟨ret_of (by rw [HL.out]; simp), below_draws (Below.refl _ _) q⟩

set_option maxHeartbeats 400000 in
theorem isNaNg_any (x : Int) (w : World) : Calls Try.prog 145 #[.int .i64 x] w fun e w' => e = .returned (.bool false) ∧ w = w' := by
  go_enter Try.func145, Try.ntmps145
  go_wp2
  go_ret
  exact ⟨by simp, rfl⟩
set_option maxHeartbeats 800000 in
theorem compareg_any (x y : Int) (w : World) : Calls Try.prog 139 #[.int .i64 x, .int .i64 y] w fun e w' => e = .returned (.int .i64 (Go.Lib.compareInt x y)) ∧ w = w' := by
  by_cases h : x < y
  · have HC : Hid (Go.Lib.compareInt x y = -1) := if_pos h
    go_enter Try.func139, Try.ntmps139
    go_wp2_with (go_at_call 145; refine (isNaNg_any _ _).mono ?_; rintro e w' ⟨rfl, rfl⟩)
    go_ret
    exact ⟨ret_of (by rw [HC.out]; rfl), rfl⟩
  · by_cases h2 : y < x
    · have HC : Hid (Go.Lib.compareInt x y = 1) := by show _ = _; rw [Go.Lib.compareInt, if_neg h, if_pos h2]
      go_enter Try.func139, Try.ntmps139
      go_wp2_with (go_at_call 145; refine (isNaNg_any _ _).mono ?_; rintro e w' ⟨rfl, rfl⟩)
      go_ret
      exact ⟨ret_of (by rw [HC.out]; rfl), rfl⟩
    · have HC : Hid (Go.Lib.compareInt x y = 0) := by show _ = _; rw [Go.Lib.compareInt, if_neg h, if_neg h2]
      go_enter Try.func139, Try.ntmps139
      go_wp2_with (go_at_call 145; refine (isNaNg_any _ _).mono ?_; rintro e w' ⟨rfl, rfl⟩)
      go_ret
      exact ⟨ret_of (by rw [HC.out]; rfl), rfl⟩


/-- What slices.Compare tells. -/
def cmpG : List Int → List Int → Int
  | [], [] => 0
  | [], _ :: _ => -1
  | _ :: _, [] => 1
  | a :: xs, b :: ys => if a = b then cmpG xs ys else Go.Lib.compareInt a b
theorem cmpG_neg : ∀ a b : List Int, decide (cmpG a b < 0) = lexG a b
  | [], [] => rfl
  | [], _ :: _ => rfl
  | _ :: _, [] => rfl
  | a :: xs, b :: ys => by
    rw [cmpG, lexG]
    by_cases h : a = b
    · rw [if_pos h, if_pos h]; exact cmpG_neg xs ys
    · rw [if_neg h, if_neg h]
      unfold Go.Lib.compareInt
      by_cases h1 : a < b
      · rw [if_pos h1]; simp [h1]
      · rw [if_neg h1, if_pos (by omega)]; simp; omega
theorem cmpG_bd : ∀ a b : List Int, -1 ≤ cmpG a b ∧ cmpG a b ≤ 1
  | [], [] => by decide
  | [], _ :: _ => by simp [cmpG]
  | _ :: _, [] => by simp [cmpG]
  | a :: xs, b :: ys => by
    rw [cmpG]
    split
    · exact cmpG_bd xs ys
    · unfold Go.Lib.compareInt; repeat' split
      all_goals omega
theorem cmpG_same {a b : List Int} {k : Nat} (ha : k < a.length) (hb : k < b.length) (he : a[k] = b[k]) : cmpG (a.drop k) (b.drop k) = cmpG (a.drop (k + 1)) (b.drop (k + 1)) := by
  rw [List.drop_eq_getElem_cons ha, List.drop_eq_getElem_cons hb, cmpG, if_pos he]
theorem cmpG_part {a b : List Int} {k : Nat} (ha : k < a.length) (hb : k < b.length) (he : a[k] ≠ b[k]) : cmpG (a.drop k) (b.drop k) = Go.Lib.compareInt a[k] b[k] := by
  rw [List.drop_eq_getElem_cons ha, List.drop_eq_getElem_cons hb, cmpG, if_neg he]
theorem cmpG_long {a b : List Int} {k : Nat} (ha : k < a.length) (hb : b.length ≤ k) : cmpG (a.drop k) (b.drop k) = 1 := by
  rw [List.drop_eq_getElem_cons ha, List.drop_of_length_le hb, cmpG]
theorem cmpG_short {a b : List Int} {k : Nat} (ha : a.length ≤ k) (hb : k < b.length) : cmpG (a.drop k) (b.drop k) = -1 := by
  rw [List.drop_eq_getElem_cons hb, List.drop_of_length_le ha, cmpG]
theorem cmpG_end {a b : List Int} {k : Nat} (ha : a.length ≤ k) (hb : b.length ≤ k) : cmpG (a.drop k) (b.drop k) = 0 := by
  rw [List.drop_of_length_le ha, List.drop_of_length_le hb, cmpG]

set_option maxHeartbeats 3200000 in
set_option linter.unusedVariables false in
theorem compareG_any (A B : Option Addr) (n c m d : Nat) (x y : List Int) (w : World) (hA : Holds w A (nums x)) (hB : Holds w B (nums y)) (hx : x.length = n) (hy : y.length = m) (hn : n ≤ 9223372036854775807) (hm : m ≤ 9223372036854775807) :
    Calls Try.prog 121 #[.slice A n c, .slice B m d] w fun e w' => e = .returned (.int .i64 (cmpG x y)) ∧ w = w' := by
  subst hx hy
  go_enter Try.func121, Try.ntmps121
  go_wp2
  go_loop [11] (fun i => ∃ k : Nat, k ≤ x.length ∧ k ≤ y.length ∧ i = .int .i64 k ∧ cmpG x y = cmpG (x.drop k) (y.drop k)) (fun i => x.length - (intOf i).toNat)
  case atStart => exact ⟨0, Nat.zero_le _, Nat.zero_le _, rfl, rfl⟩
  case round =>
    obtain ⟨k, hk1, hk2, rfl, hl⟩ := hrel
    by_cases h1 : k < x.length
    · by_cases h2 : k < y.length
      · obtain ⟨b, o, rfl, hb, hc⟩ := hA.look (k := k) (by simpa [nums] using h1)
        obtain ⟨b', o', rfl, hb', hc'⟩ := hB.look (k := k) (by simpa [nums] using h2)
        simp only [nums, List.getElem_map] at hc hc'
        by_cases he : x[k] = y[k]
        · have HC : Hid (Go.Lib.compareInt x[k] y[k] = 0) := by show _ = _; unfold Go.Lib.compareInt; rw [if_neg (by omega), if_neg (by omega)]
          have HL := Lib.hid (hl.trans (cmpG_same h1 h2 he))
          clear he hl
          go_wp2_with (go_at_call 139; refine (compareg_any _ _ _).mono ?_; rintro e w' ⟨rfl, rfl⟩; rw [HC.out])
          go_round
          case rel => exact ⟨k + 1, by omega, by omega, by go_num, HL.out⟩
          case measure => simp [intOf]; omega
        · have HC : Hid ((Go.Lib.compareInt x[k] y[k] != 0) = true) := by show _ = _; unfold Go.Lib.compareInt; by_cases h1 : x[k] < y[k] <;> by_cases h2 : y[k] < x[k] <;> simp [h1, h2]; omega
          have HL := Lib.hid (hl.trans (cmpG_part h1 h2 he))
          have hc9 := HC.out
          clear he hl
          go_wp2_with (go_at_call 139; refine (compareg_any _ _ _).mono ?_; rintro e w' ⟨rfl, rfl⟩)
          go_ret
          exact ⟨ret_of (by rw [HL.out]; rfl), rfl⟩
      · obtain ⟨b, o, rfl, hb, hc⟩ := hA.look (k := k) (by simpa [nums] using h1)
        simp only [nums, List.getElem_map] at hc
        have HL := Lib.hid (hl.trans (cmpG_long h1 (by omega)))
        clear hl
        go_wp2
        go_ret
        exact ⟨ret_of (by rw [HL.out]; rfl), rfl⟩
    · by_cases h2 : k < y.length
      · have HL := Lib.hid (hl.trans (cmpG_short (by omega) h2))
        clear hl
        go_wp2
        go_ret
        exact ⟨ret_of (by rw [HL.out]; rfl), rfl⟩
      · have HL := Lib.hid (hl.trans (cmpG_end (by omega) (by omega)))
        clear hl
        go_wp2
        go_ret
        exact ⟨ret_of (by rw [HL.out]; rfl), rfl⟩

/-- No list comes before the one ahead of it. -/
def sortedAt (G : List (List Int)) (k : Nat) : Bool := !lexG (G.getD (k + 1) []) (G.getD k [])
def sortedG (G : List (List Int)) : Bool := (List.range (G.length - 1)).all (sortedAt G)
theorem sortedG_no {G : List (List Int)} {k : Nat} (hk : k + 1 < G.length) (h : lexG (G[k + 1]) (G[k]) = true) : sortedG G = false := by
  cases he : sortedG G
  · rfl
  · rw [sortedG, List.all_eq_true] at he
    have := he k (List.mem_range.2 (by omega))
    simp only [sortedAt, List.getD_eq_getElem?_getD, List.getElem?_eq_getElem hk, List.getElem?_eq_getElem (show k < G.length by omega), Option.getD_some, h] at this
    cases this
theorem sortedG_yes {G : List (List Int)} (h : ∀ k, k + 1 < G.length → sortedAt G k = true) : sortedG G = true := by
  rw [sortedG, List.all_eq_true]; exact fun k hk => h k (by have := List.mem_range.1 hk; omega)
theorem sortedAt_of {G : List (List Int)} {k : Nat} (hk : k + 1 < G.length) (h : lexG (G[k + 1]) (G[k]) = false) : sortedAt G k = true := by
  simp [sortedAt, List.getD_eq_getElem?_getD, List.getElem?_eq_getElem hk, List.getElem?_eq_getElem (show k < G.length by omega), h]
theorem Below.of_drewN (w : World) : Below w.heap.size w w.drew := (Below.refl _ _).drew
theorem compareG_drawn (A B : Option Addr) (n c m d : Nat) (x y : List Int) (v : Bool) (w : World) (k : Nat) (hA : Holds (w.drewN k) A (nums x)) (hB : Holds (w.drewN k) B (nums y)) (hx : x.length = n) (hy : y.length = m) (hn : n ≤ 9223372036854775807) (hm : m ≤ 9223372036854775807) :
    Calls Try.prog 121 #[.slice A n c, .slice B m d] (w.drewN k) fun e w'' => e = .returned (.int .i64 (cmpG x y)) ∧ ∃ q, w'' = w.drewN q :=
  (compareG_any A B n c m d x y _ hA hB hx hy hn hm).mono fun _ _ ⟨h, q⟩ => ⟨h, k, q.symm⟩

set_option maxHeartbeats 3200000 in
set_option maxRecDepth 100000 in
set_option linter.unusedVariables false in
theorem isSortedG_any (A : Option Addr) (n c : Nat) (rs : List RowV) (w : World) (hA : Grid w A rs) (hx : rs.length = n) (hn : n ≤ 1048576) :
    Calls Try.prog 120 #[.slice A n c, .func (.func 121) #[] #[]] w fun e w' => e = .returned (.bool (sortedG (rowNums rs))) ∧ ∃ q, w' = w.drewN q := by
  subst hx
  have hRL := rowNums_len rs
  have HRL := Lib.hid hRL
  clear hRL
  go_enter Try.func120, Try.ntmps120
  go_wp2
  go_loopw [5] (fun i wr => ∃ (x : Int) (q : Nat), i = .int .i64 x ∧ -1 ≤ x ∧ x ≤ (rs.length : Int) - 1 ∧ wr = w.drewN q ∧ ∀ j : Nat, x ≤ (j : Int) → j + 1 < rs.length → sortedAt (rowNums rs) j = true) (fun i _ => (intOf i).toNat)
  case atStart => exact ⟨_, 0, rfl, by omega, by omega, rfl, fun j h1 h2 => by omega⟩
  case round =>
    obtain ⟨x, q, rfl, hx0, hx1, rfl, hall⟩ := hrel
    have HALL := Lib.hid hall
    clear hall
    by_cases hpos : 0 < x
    · obtain ⟨k, rfl⟩ : ∃ k : Nat, x = (k : Int) + 1 := ⟨(x - 1).toNat, by omega⟩
      have hk1 : k + 1 < rs.length := by omega
      have hk0 : k < rs.length := by omega
      have hAq : Grid (w.drewN q) A rs := hA.below (below_draws (Below.refl _ _) q)
      obtain ⟨b, o, hAe, hb, hc1, hr1⟩ := hAq.look hk1
      obtain ⟨b2, o2, hAe2, hb2, hc0, hr0⟩ := hAq.look hk0
      obtain ⟨rfl, rfl⟩ : b = b2 ∧ o = o2 := by
        rw [hAe] at hAe2
        simp only [Option.some.injEq, Addr.mk.injEq] at hAe2
        exact ⟨hAe2.1, hAe2.2.1⟩
      subst hAe
      clear hAe2 hb2
      have HR1 := Lib.hid hr1
      have HR0 := Lib.hid hr0
      have HG1 := Lib.hid (rowNums_get hk1)
      have HG0 := Lib.hid (rowNums_get hk0)
      have HNEG := Lib.hid (cmpG_neg rs[k + 1].xs rs[k].xs)
      have hbd := cmpG_bd rs[k + 1].xs rs[k].xs
      have hkw : IntKind.i64.wrap (k : Int) = k := IntWalk.i64_in _ (by omega)
      have hkw1 : IntKind.i64.wrap ((k : Int) + 1 - 1) = k := by rw [show (k : Int) + 1 - 1 = k by omega]; exact hkw
      obtain ⟨wr, hwr⟩ : ∃ wr, wr = w.drewN q := ⟨_, rfl⟩
      rw [← hwr] at hc1 hc0 hr1 hr0 hb HR1 HR0 ⊢
      have HWR := Lib.hid hwr
      clear hwr hr1 hr0
      cases hlx : lexG rs[k + 1].xs rs[k].xs
      · have hd := hlx ▸ HNEG.out
        have HAT := Lib.hid (sortedAt_of (G := rowNums rs) (by rw [HRL.out]; exact hk1) (by rw [HG1.out, HG0.out]; exact hlx))
        clear hlx
        go_wp2
        go_quiet ((refine compareG_drawn _ _ _ _ _ _ rs[k + 1].xs rs[k].xs true wr _ (HR1.out.1.below (below_draws (Below.refl _ _) _)) (HR0.out.1.below (below_draws (Below.refl _ _) _)) HR1.out.2.1 HR0.out.2.1 HR1.out.2.2 HR0.out.2.2))
        rw [HWR.out]
        go_wp2
        go_roundw
        case rel => exact ⟨k, _, by go_num, by omega, by omega, rfl, fun j h1 h2 => by
          rcases Nat.lt_or_ge k j with h3 | h3
          · exact HALL.out j (by omega) h2
          · obtain rfl : j = k := by omega
            exact HAT.out⟩
        case measure => simp [intOf]
      · have hd := hlx ▸ HNEG.out
        have HP := Lib.hid (sortedG_no (G := rowNums rs) (k := k) (by rw [HRL.out]; exact hk1) (by rw [HG1.out, HG0.out]; exact hlx))
        clear hlx
        go_wp2
        go_quiet ((refine compareG_drawn _ _ _ _ _ _ rs[k + 1].xs rs[k].xs true wr _ (HR1.out.1.below (below_draws (Below.refl _ _) _)) (HR0.out.1.below (below_draws (Below.refl _ _) _)) HR1.out.2.1 HR0.out.2.1 HR1.out.2.2 HR0.out.2.2))
        rw [HWR.out]
        go_wp2
        go_ret
        exact ⟨ret_of (by rw [HP.out]; rfl), _, World.drewN_drewN _ _ _⟩
    · have HP := Lib.hid (sortedG_yes (G := rowNums rs) fun k hk => HALL.out k (by omega) (by rw [← HRL.out]; exact hk))
      go_wp2
      go_ret
      exact ⟨ret_of (by rw [HP.out]; rfl), q, rfl⟩
end Go.Proofs.Ytifaadjbkbdbnaa

namespace Go.Proofs.Ytifaadjbkbdbnaa
open Go.RowKit

/-- Is a list a round in a camp in which bs tells who is over, and u torches are? -/
noncomputable def canG (n : Nat) (s t : Int) (bs : List Bool) (u : Int) (G : List (List Int)) : Bool := areGroups n s t G && (sortedG G && letsG bs t u G)
theorem lexG_total : ∀ a b : List Int, a ≠ b → lexG b a = !lexG a b
  | [], [], h => absurd rfl h
  | [], _ :: _, _ => rfl
  | _ :: _, [], _ => rfl
  | a :: xs, b :: ys, h => by
    rw [lexG, lexG]
    by_cases e : a = b
    · subst e
      rw [if_pos rfl, if_pos rfl]
      exact lexG_total xs ys (fun h' => h (by rw [h']))
    · rw [if_neg e, if_neg (fun h' => e h'.symm)]
      rw [Bool.eq_iff_iff]; simp; omega
theorem has_flat {G : List (List Int)} {k j i : Nat} (hj : j < G.length) (hjk : j < k) (h : has G[j] i = true) : has (flat (G.take k)) i = true := by
  rw [has_iff] at h ⊢
  refine List.mem_flatten.2 ⟨G[j], ?_, h⟩
  exact List.mem_take_iff_getElem.2 ⟨j, by omega, rfl⟩
/-- Two groups of a round, one behind the other, are not the same. -/
theorem groups_differ {n : Nat} {s : Int} {G : List (List Int)} (h : OkTo n s G G.length) (hn : n ≤ 8) {k : Nat} (hk : k + 1 < G.length) : G[k] ≠ G[k + 1] := by
  intro he
  have h0 := trip_parts (ok_trip (show k < G.length by omega) (h k (by omega)))
  have h1 := ok_apart hk (h (k + 1) hk)
  have hl : 0 < G[k].length := by have := h0.1.1; omega
  have hm := mem_steps h0.2 (List.getElem_mem hl)
  have hh : has G[k] (G[k][0]).toNat = true := by rw [has_iff, Int.toNat_of_nonneg hm.1]; exact List.getElem_mem hl
  have h2 := meets_no.1 h1 (G[k][0]).toNat (by omega) (has_flat (show k < G.length by omega) (by omega) hh)
  rw [← he, hh] at h2
  cases h2
theorem sided_at {bs : List Bool} {l : List Int} (hl : 0 < l.length) (b : Bool) (hb : b = bs.getD (l[0]).toNat false) : allAt bs b l = sided bs l := by
  have key : ∀ t, allAt bs t l = true → t = b := fun t h => by
    rw [allAt, List.all_eq_true] at h
    have := h _ (List.getElem_mem hl)
    rw [beq_iff_eq] at this
    rw [hb, ← this]
  unfold sided
  cases b
  · cases ht : allAt bs true l
    · simp
    · have := key true ht; cases this
  · cases ht : allAt bs false l
    · simp
    · have := key false ht; cases this
theorem near_at {bs : List Bool} {l : List Int} (hl : 0 < l.length) (b : Bool) (hb : b = bs.getD (l[0]).toNat false) (h : allAt bs b l = true) : allAt bs false l = !b := by
  cases b
  · exact h
  · cases ht : allAt bs false l
    · rfl
    · rw [allAt, List.all_eq_true] at ht
      have := ht _ (List.getElem_mem hl)
      rw [beq_iff_eq] at this
      rw [this] at hb; cases hb
theorem canG_groups {n : Nat} {s t : Int} {bs : List Bool} {u : Int} {G : List (List Int)} (h : areGroups n s t G = false) : canG n s t bs u G = false := by rw [canG, h, Bool.false_and]
theorem canG_order {n : Nat} {s t : Int} {bs : List Bool} {u : Int} {G : List (List Int)} (ho : OkTo n s G G.length) (hn : n ≤ 8) {k : Nat} (hk : k + 1 < G.length) (h : lexG (G[k]) (G[k + 1]) = false) : canG n s t bs u G = false := by
  have : lexG (G[k + 1]) (G[k]) = true := by rw [lexG_total _ _ (groups_differ ho hn hk), h]; rfl
  rw [canG, sortedG_no hk this, Bool.false_and, Bool.and_false]
theorem canG_at {n : Nat} {s : Int} {G : List (List Int)} (ho : OkTo n s G G.length) (hn : n ≤ 8) {k : Nat} (hk : k + 1 < G.length) (h : lexG (G[k]) (G[k + 1]) = true) : sortedAt G k = true :=
  sortedAt_of hk (by rw [lexG_total _ _ (groups_differ ho hn hk), h]; rfl)
theorem canG_sides {n : Nat} {s t : Int} {bs : List Bool} {u : Int} {G : List (List Int)} {k : Nat} (hk : k < G.length) (h : sided bs G[k] = false) : canG n s t bs u G = false := by
  rw [sided, Bool.or_eq_false_iff] at h
  rw [canG, letsG_no hk h.1 h.2, Bool.and_false, Bool.and_false]
theorem canG_all {n : Nat} {s t : Int} {bs : List Bool} {u : Int} {G : List (List Int)} (h : areGroups n s t G = true) (h1 : ∀ k, k + 1 < G.length → sortedAt G k = true) (h2 : ∀ k (hk : k < G.length), sided bs G[k] = true) : canG n s t bs u G = (decide ((nearN bs G : Int) ≤ t - u) && decide ((farN bs G : Int) ≤ u)) := by
  rw [canG, h, sortedG_yes h1, letsG_all h2, Bool.true_and, Bool.true_and]
theorem nums_spot {w : World} {A : Option Addr} {xs : List Int} (h : Holds w A (nums xs)) (h0 : 0 < xs.length) : ∃ b o, A = some ⟨b, o, none⟩ ∧ b < w.heap.size ∧ ∀ i (hi : i < xs.length), w.cell? ⟨b, o + i, none⟩ = some (.int .i64 xs[i]) := by
  obtain ⟨b, o, hB, hb, hc⟩ := h.spot (by rw [nums_len]; exact h0)
  refine ⟨b, o, hB, hb, fun i hi => hc i _ ?_⟩
  simp [nums, hi]
theorem bits_spot {w : World} {B : Option Addr} {bs : List Bool} (h : Holds w B (bits bs)) (h0 : 0 < bs.length) : ∃ b o, B = some ⟨b, o, none⟩ ∧ b < w.heap.size ∧ ∀ i, i < bs.length → w.cell? ⟨b, o + i, none⟩ = some (.bool (bs.getD i false)) := by
  obtain ⟨b, o, hB, hb, hc⟩ := h.spot (by rw [bits_len]; exact h0)
  refine ⟨b, o, hB, hb, fun i hi => hc i _ ?_⟩
  simp [bits, hi]

set_option maxHeartbeats 12800000 in
set_option maxRecDepth 100000 in
set_option linter.unusedVariables false in
theorem toCan_any (A : Option Addr) (n c : Nat) (xs : List Int) (s t : Int) (B : Option Addr) (m d : Nat) (bs : List Bool) (u : Int) (D : Option Addr) (q z : Nat) (rs : List RowV) (w : World) (hn : n ≤ 8) (hn1 : 1 ≤ n) (ht8 : t ≤ 8) (hB : Holds w B (bits bs)) (hy : bs.length = m) (hm : m = n) (hu : 0 ≤ u ∧ u ≤ 8) (hD : Grid w D rs) (hz : rs.length = q) (hq : q ≤ 1048576) (hs8 : s ≤ 8) :
    Calls Try.prog 90 #[.agg #[.slice A n c, .int .i64 s, .int .i64 t], .agg #[.slice B m d, .int .i64 u], .slice D q z] w fun e w' => e = .returned (.bool (canG n s t bs u (rowNums rs))) ∧ Below w.heap.size w w' := by
  subst hz
  have HY := Lib.hid hy
  have HM := Lib.hid hm
  have h0 := (Whole.fresh w 48 #[.slice A n c, .int .i64 s, .int .i64 t]).alloc (.cells #[.slice B m d, .int .i64 u] 56)
  have h1 := Whole.fresh (w.alloc (.cells #[.slice A n c, .int .i64 s, .int .i64 t] 48)) 56 #[.slice B m d, .int .i64 u]
  rw [World.size_alloc] at h1
  have ht := below2 w (.cells #[.slice A n c, .int .i64 s, .int .i64 t] 48) (.cells #[.slice B m d, .int .i64 u] 56)
  clear hy hm
  have hRL := rowNums_len rs
  have HRL := Lib.hid hRL
  clear hRL
  cases hg : areGroups n s t (rowNums rs)
  · have HP := Lib.hid (canG_groups (bs := bs) (u := u) hg)
    have HG := Lib.hid hg
    clear hg
    obtain ⟨c0, c1, c2⟩ := h0.cells3
    go_enter Try.func90, Try.ntmps90
    go_wp2_with fail
    refine (toGroups_any A n c xs s t D _ z rs _ (by exact hD.below ht) rfl (by omega) hn ht8).mono ?_
    rintro e w1 ⟨rfl, hb⟩
    rw [HG.out]
    replace ht := below_then ht hb ht.size
    go_wp2
    go_ret
    exact ⟨ret_of (by rw [HP.out]; rfl), ht⟩
  have HG := Lib.hid hg
  have hgk := groups_ok hg
  have HOK := Lib.hid hgk.2
  have hr8 : rs.length ≤ 8 := by have := hgk.1.2; rw [HRL.out] at this; omega
  have ht0 : 1 ≤ t := by have := hgk.1; omega
  clear hg hgk
  have hwr : IntKind.i64.wrap (t - u) = t - u := IntWalk.i64_in _ (by omega)
  obtain ⟨c0, c1, c2⟩ := h0.cells3
  go_enter Try.func90, Try.ntmps90
  go_wp2_with fail
  refine (toGroups_any A n c xs s t D _ z rs _ (by exact hD.below ht) rfl (by omega) hn ht8).mono ?_
  rintro e w1 ⟨rfl, hb⟩
  rw [HG.out]
  replace ht := below_then ht hb ht.size
  replace h0 := h0.below hb
  replace h1 := h1.below hb
  clear hb c0 c1 c2
  obtain ⟨c0, c1, c2⟩ := h0.cells3
  obtain ⟨d0, d1, -, -⟩ := h1.two
  have H0 := Lib.hid h0
  have H1 := Lib.hid h1
  have HT := Lib.hid ht
  go_wp2
  go_quiet (fail)
  clear c0 c1 c2 d0 d1 h0 h1 ht hwr
  go_wp2
  go_loopw [7, 8, 26] (fun v y i wr => ∃ k : Nat, k ≤ rs.length ∧ i = .int .i64 k ∧ v = .int .i64 (t - u - nearN bs ((rowNums rs).take k)) ∧ y = .int .i64 (u - farN bs ((rowNums rs).take k)) ∧ Whole wr w.heap.size 48 #[.slice A n c, .int .i64 s, .int .i64 t] ∧ Whole wr (w.heap.size + 1) 56 #[.slice B m d, .int .i64 u] ∧ Below w.heap.size w wr ∧ (∀ j (hj : j < (rowNums rs).length), j < k → sided bs (rowNums rs)[j] = true) ∧ (∀ j, j + 1 < k → sortedAt (rowNums rs) j = true)) (fun _ _ i _ => rs.length - (intOf i).toNat)
  case atStart => exact ⟨0, Nat.zero_le _, rfl, by simp [nearN], by simp [farN], H0.out, H1.out, below_draws HT.out _, fun j _ hj => absurd hj (by omega), fun j hj => absurd hj (by omega)⟩
  case round =>
    obtain ⟨k, hk, rfl, rfl, rfl, h0, h1, ht, hsid, hsrt⟩ := hrel
    clear H0 H1 HT
    have HSID := Lib.hid hsid
    have HSRT := Lib.hid hsrt
    clear hsid hsrt
    by_cases hlt : k < rs.length
    · have hkr : k < (rowNums rs).length := by have := HRL.out; omega
      obtain ⟨b, o, hDa, hbl, hc, hrow⟩ := (hD.below ht).look hlt
      have HGT := Lib.hid (rowNums_get hlt)
      have HROW := Lib.hid hrow
      have HTP := Lib.hid (trip_parts (ok_trip hkr (HOK.out k (by have := HRL.out; omega))))
      have hln : 0 < rs[k].xs.length := by have := HTP.out.1.1; rw [HGT.out] at this; omega
      have hls : rs[k].xs.length ≤ 8 := by have := HTP.out.1.2; rw [HGT.out] at this; omega
      have HRN : Hid (rs[k].xs.length = rs[k].n) := hrow.2.1
      obtain ⟨br, or, hre, hbr, hcrs⟩ := nums_spot hrow.1 hln
      have HRE := Lib.hid hre
      have HCR := Lib.hid hcrs
      rw [hre] at hc
      clear hre hcrs
      have HST : Hid (StepsTo rs[k].xs ((n : Int) - 1) rs[k].xs.length) := by have := HTP.out.2; rw [HGT.out] at this; exact this
      obtain ⟨b0, hb0⟩ : ∃ b0, b0 = bs.getD (rs[k].xs[0]).toNat false := ⟨_, rfl⟩
      have HB0 := Lib.hid hb0
      have HSA := Lib.hid (sided_at hln b0 hb0)
      have HNA := Lib.hid (near_at hln b0 hb0)
      clear hb0 hrow
      have hnl : nearN bs ((rowNums rs).take k) ≤ k := Nat.le_trans (near_le _ _) (by simp; omega)
      have hfl : farN bs ((rowNums rs).take k) ≤ k := Nat.le_trans (far_le _ _) (by simp; omega)
      obtain ⟨N1, hN1⟩ : ∃ N1, N1 = nearN bs ((rowNums rs).take k) := ⟨_, rfl⟩
      obtain ⟨N2, hN2⟩ : ∃ N2, N2 = farN bs ((rowNums rs).take k) := ⟨_, rfl⟩
      rw [← hN1, ← hN2]
      rw [← hN1] at hnl
      rw [← hN2] at hfl
      have HN1 := Lib.hid hN1.symm
      have HN2 := Lib.hid hN2.symm
      clear hN1 hN2
      have hN18 : N1 ≤ 8 := by omega
      have hN28 : N2 ≤ 8 := by omega
      -- the order
      have hdone : (k = 0 ∨ ∃ j : Nat, ∃ hj : j < rs.length, k = j + 1 ∧ lexG rs[j].xs rs[k].xs = true) ∨ ∃ j : Nat, ∃ hj : j < rs.length, k = j + 1 ∧ lexG rs[j].xs rs[k].xs = false := by
        rcases Nat.eq_zero_or_pos k with h | h
        · exact .inl (.inl h)
        · have hj : k - 1 < rs.length := by omega
          cases hx : lexG rs[k - 1].xs rs[k].xs
          · exact .inr ⟨k - 1, hj, by omega, hx⟩
          · exact .inl (.inr ⟨k - 1, hj, by omega, hx⟩)
      rcases hdone with hgood | ⟨j, hj, rfl, hbad⟩
      rotate_left
      · -- it does not come behind the one before
        have HP : Hid (canG n s t bs u (rowNums rs) = false) := canG_order (t := t) (bs := bs) (u := u) (by exact HOK.out) hn (k := j) hkr (by rw [HGT.out, rowNums_get hj]; exact hbad)
        have HBAD := Lib.hid hbad
        obtain ⟨b2, o2, hDa2, hbl2, hc2, hrow2⟩ := (hD.below ht).look hj
        obtain ⟨rfl, rfl⟩ : b = b2 ∧ o = o2 := by
          rw [hDa] at hDa2
          simp only [Option.some.injEq, Addr.mk.injEq] at hDa2
          exact ⟨hDa2.1, hDa2.2.1⟩
        subst hDa
        have HROW2 := Lib.hid hrow2
        have hl2 : rs[j].xs.length ≤ 8 := by
          have h3 := (trip_parts (ok_trip (show j < (rowNums rs).length by omega) (HOK.out j (by omega)))).1.2
          rw [rowNums_get hj] at h3; omega
        have hrn1 : rs[j].n ≤ 1048576 := by have := HROW2.out.2.1; omega
        have hrn2 : rs[j + 1].n ≤ 1048576 := by have := HRN.out; omega
        have hwk : IntKind.i64.wrap ((j : Int) + 1 - 1) = j := IntWalk.i64_in _ (by omega) |>.trans (by omega)
        clear hbad hrow2 hDa2 hbl2
        go_wp2_with fail
        refine (cuBeforeG_any _ _ _ _ _ _ rs[j].xs rs[j + 1].xs _ (by first | exact HROW2.out.1 | exact HROW2.out.1.below (Below.of_drewN _)) (by rw [← HRE.out]; first | exact HROW.out.1 | exact HROW.out.1.below (Below.of_drewN _)) HROW2.out.2.1 HROW.out.2.1 hrn1 hrn2).mono ?_
        rintro e w5 ⟨rfl, hb5⟩
        rw [HBAD.out]
        replace ht := below_then ht hb5 ht.size
        go_wp2
        go_ret
        exact ⟨ret_of (by rw [HP.out]; rfl), ht⟩
      have HSR2 : Hid (∀ j, j + 1 < k + 1 → sortedAt (rowNums rs) j = true) := fun j hj => by
        rcases Nat.lt_or_ge (j + 1) k with h | h
        · exact HSRT.out j h
        · rcases hgood with h2 | ⟨j2, hj2, rfl, h2⟩
          · omega
          · obtain rfl : j = j2 := by omega
            exact canG_at (by exact HOK.out) hn hkr (by rw [HGT.out, rowNums_get hj2]; exact h2)
      -- behind the test of the order
      obtain ⟨bB, oB, hBe, hbB, hcb⟩ := bits_spot hB (by have := HY.out; have := HM.out; omega)
      subst hBe
      rcases hgood with rfl | ⟨j, hj, rfl, hgd⟩
      · subst hDa
        rw [Nat.add_zero] at hc
        go_wp2
        obtain ⟨wr2, hwr2⟩ : ∃ wr2, wr2 = wr := ⟨_, rfl⟩
        subst hwr2
        -- all on one side?
        go_loopw [45] (fun i wi => ∃ (j2 qq : Nat), j2 ≤ rs[0].n ∧ i = .int .i64 j2 ∧ wi = wr2.drewN qq ∧ AtTo bs b0 rs[0].xs j2) (fun i _ => rs[0].n - (intOf i).toNat)
        case atStart => exact ⟨0, 0, Nat.zero_le _, rfl, rfl, fun j _ hj => absurd hj (by omega)⟩
        case round =>
          obtain ⟨j2, qq, hj2, rfl, rfl, hat⟩ := hrel
          have HAT := Lib.hid hat
          clear hat
          have h02 := h0.below (below_draws (Below.refl _ _) qq)
          have h12 := h1.below (below_draws (Below.refl _ _) qq)
          obtain ⟨d0, d1, -, -⟩ := h1.two
          have hcq : ∀ i, i < bs.length → wr2.cell? ⟨bB, oB + i, none⟩ = some (.bool (bs.getD i false)) := fun i hi => (ht.cell (p := ⟨bB, oB + i, none⟩) hbB).trans (hcb i hi)
          have hcr0 := HCR.out 0 hln
          rw [Nat.add_zero] at hcr0
          have hm0 := mem_steps HST.out (List.getElem_mem hln)
          have hx0 : (rs[0].xs[0]).toNat < bs.length := by have := HY.out; have := HM.out; omega
          have hz0 : rs[0].xs[0] < (m : Int) := by have := HM.out; omega
          have hz00 := hm0.1
          have hv0 := hcq _ hx0
          rw [← HB0.out] at hv0
          by_cases hlt2 : j2 < rs[0].n
          · have hjl : j2 < rs[0].xs.length := by have := HRN.out; omega
            have hcrj := HCR.out j2 hjl
            have hmj := mem_steps HST.out (List.getElem_mem hjl)
            have hxj : (rs[0].xs[j2]).toNat < bs.length := by have := HY.out; have := HM.out; omega
            have hzj : rs[0].xs[j2] < (m : Int) := by have := HM.out; omega
            have hzj0 := hmj.1
            have hvj := hcq _ hxj
            obtain ⟨vj, hvje⟩ : ∃ vj, vj = bs.getD (rs[0].xs[j2]).toNat false := ⟨_, rfl⟩
            rw [← hvje] at hvj
            by_cases hvb : vj = b0
            · have HAT2 : Hid (AtTo bs b0 rs[0].xs (j2 + 1)) := fun j3 h3 h4 => by
                rcases Nat.lt_or_ge j3 j2 with h5 | h5
                · exact HAT.out j3 h3 h5
                · obtain rfl : j3 = j2 := by omega
                  rw [← hvje, hvb]
              rw [hvb] at hvj
              clear hvb hvje hmj hm0 hcq
              cases b0
              all_goals
                go_wp2
                go_quiet (fail)
                go_wp2
                go_roundw
                case rel => exact ⟨j2 + 1, _, by omega, by go_num, rfl, HAT2.out⟩
                case measure => simp [intOf]; omega
            · have HP : Hid (canG n s t bs u (rowNums rs) = false) := by
                refine canG_sides hkr ?_
                rw [HGT.out, ← HSA.out]
                exact allAt_no hjl (by rw [← hvje]; exact hvb)
              clear hvje hmj hm0 hcq
              cases vj <;> cases b0
              all_goals first | exact absurd rfl hvb | skip
              all_goals
                clear hvb
                go_wp2
                go_quiet (fail)
                go_wp2
                go_ret
                exact ⟨ret_of (by rw [HP.out]; rfl), by first | exact below_draws ht _ | exact below_draws (below_draws ht _) _⟩
          · have hjn : j2 = rs[0].xs.length := by have := HRN.out; omega
            have HALL : Hid (allAt bs b0 rs[0].xs = true) := allAt_yes fun j3 h3 => HAT.out j3 h3 (by omega)
            have HSD : Hid (sided bs (rowNums rs)[0] = true) := by show _ = _; rw [HGT.out, ← HSA.out]; exact HALL.out
            have HNR := Lib.hid (HNA.out HALL.out)
            have HNX : Hid (∀ jj (hj : jj < (rowNums rs).length), jj < 0 + 1 → sided bs (rowNums rs)[jj] = true) := fun j3 h3 h4 => by
              rcases Nat.lt_or_ge j3 (0) with h5 | h5
              · exact HSID.out j3 h3 h5
              · obtain rfl : j3 = 0 := by omega
                exact HSD.out
            have hn0 : 0 < rs[0].n := by have := HRN.out; omega
            have hn0' : (0 : Int) < (rs[0].n : Int) := by omega
            clear hm0 hcq hjn
            cases b0
            · have HCN := Lib.hid (near_yes hkr (show allAt bs false (rowNums rs)[0] = true by rw [HGT.out]; exact HNR.out))
              go_wp2
              go_quiet (fail)
              go_wp2
              go_roundw
              case rel => exact ⟨0 + 1, by omega, by go_num, by rw [HCN.out.1, HN1.out]; exact congrArg _ (by omega), by rw [HCN.out.2, HN2.out], h0.below (below_draws (Below.refl _ _) _), h1.below (below_draws (Below.refl _ _) _), below_draws ht _, HNX.out, HSR2.out⟩
              case measure => simp [intOf]; omega
            · have HCN := Lib.hid (far_yes hkr (show allAt bs false (rowNums rs)[0] = false by rw [HGT.out]; exact HNR.out) (show allAt bs true (rowNums rs)[0] = true by rw [HGT.out]; exact HALL.out))
              go_wp2
              go_quiet (fail)
              go_wp2
              go_roundw
              case rel => exact ⟨0 + 1, by omega, by go_num, by rw [HCN.out.1, HN1.out], by rw [HCN.out.2, HN2.out]; exact congrArg _ (by omega), h0.below (below_draws (Below.refl _ _) _), h1.below (below_draws (Below.refl _ _) _), below_draws ht _, HNX.out, HSR2.out⟩
              case measure => simp [intOf]; omega
      · subst hDa
        obtain ⟨b2, o2, hDa2, hbl2, hc2, hrow2⟩ := (hD.below ht).look hj
        obtain ⟨rfl, rfl⟩ : b = b2 ∧ o = o2 := by
          simp only [Option.some.injEq, Addr.mk.injEq] at hDa2
          exact ⟨hDa2.1, hDa2.2.1⟩
        have HROW2 := Lib.hid hrow2
        have hl2 : rs[j].xs.length ≤ 8 := by
          have h3 := (trip_parts (ok_trip (show j < (rowNums rs).length by omega) (HOK.out j (by omega)))).1.2
          rw [rowNums_get hj] at h3; omega
        have hrn1 : rs[j].n ≤ 1048576 := by have := HROW2.out.2.1; omega
        have hrn2 : rs[j + 1].n ≤ 1048576 := by have := HRN.out; omega
        have hwk : IntKind.i64.wrap ((j : Int) + 1 - 1) = j := IntWalk.i64_in _ (by omega) |>.trans (by omega)
        have HGD := Lib.hid hgd
        clear hgd hrow2 hDa2 hbl2
        go_wp2_with fail
        refine (cuBeforeG_any _ _ _ _ _ _ rs[j].xs rs[j + 1].xs _ (by first | exact HROW2.out.1 | exact HROW2.out.1.below (Below.of_drewN _)) (by rw [← HRE.out]; first | exact HROW.out.1 | exact HROW.out.1.below (Below.of_drewN _)) HROW2.out.2.1 HROW.out.2.1 hrn1 hrn2).mono ?_
        rintro e wr2 ⟨rfl, hb5⟩
        rw [HGD.out]
        replace h0 := h0.below hb5
        replace h1 := h1.below hb5
        replace ht := below_then ht hb5 ht.size
        have HCR := Lib.hid (fun i hi => (hb5.cell (p := ⟨br, or + i, none⟩) hbr).trans (HCR.out i hi))
        clear hb5 hc hc2
        go_wp2
        -- all on one side?
        go_loopw [45] (fun i wi => ∃ (j2 qq : Nat), j2 ≤ rs[j + 1].n ∧ i = .int .i64 j2 ∧ wi = wr2.drewN qq ∧ AtTo bs b0 rs[j + 1].xs j2) (fun i _ => rs[j + 1].n - (intOf i).toNat)
        case atStart => exact ⟨0, 0, Nat.zero_le _, rfl, rfl, fun j _ hj => absurd hj (by omega)⟩
        case round =>
          obtain ⟨j2, qq, hj2, rfl, rfl, hat⟩ := hrel
          have HAT := Lib.hid hat
          clear hat
          have h02 := h0.below (below_draws (Below.refl _ _) qq)
          have h12 := h1.below (below_draws (Below.refl _ _) qq)
          obtain ⟨d0, d1, -, -⟩ := h1.two
          have hcq : ∀ i, i < bs.length → wr2.cell? ⟨bB, oB + i, none⟩ = some (.bool (bs.getD i false)) := fun i hi => (ht.cell (p := ⟨bB, oB + i, none⟩) hbB).trans (hcb i hi)
          have hcr0 := HCR.out 0 hln
          rw [Nat.add_zero] at hcr0
          have hm0 := mem_steps HST.out (List.getElem_mem hln)
          have hx0 : (rs[j + 1].xs[0]).toNat < bs.length := by have := HY.out; have := HM.out; omega
          have hz0 : rs[j + 1].xs[0] < (m : Int) := by have := HM.out; omega
          have hz00 := hm0.1
          have hv0 := hcq _ hx0
          rw [← HB0.out] at hv0
          by_cases hlt2 : j2 < rs[j + 1].n
          · have hjl : j2 < rs[j + 1].xs.length := by have := HRN.out; omega
            have hcrj := HCR.out j2 hjl
            have hmj := mem_steps HST.out (List.getElem_mem hjl)
            have hxj : (rs[j + 1].xs[j2]).toNat < bs.length := by have := HY.out; have := HM.out; omega
            have hzj : rs[j + 1].xs[j2] < (m : Int) := by have := HM.out; omega
            have hzj0 := hmj.1
            have hvj := hcq _ hxj
            obtain ⟨vj, hvje⟩ : ∃ vj, vj = bs.getD (rs[j + 1].xs[j2]).toNat false := ⟨_, rfl⟩
            rw [← hvje] at hvj
            by_cases hvb : vj = b0
            · have HAT2 : Hid (AtTo bs b0 rs[j + 1].xs (j2 + 1)) := fun j3 h3 h4 => by
                rcases Nat.lt_or_ge j3 j2 with h5 | h5
                · exact HAT.out j3 h3 h5
                · obtain rfl : j3 = j2 := by omega
                  rw [← hvje, hvb]
              rw [hvb] at hvj
              clear hvb hvje hmj hm0 hcq
              cases b0
              all_goals
                go_wp2
                go_quiet (fail)
                go_wp2
                go_roundw
                case rel => exact ⟨j2 + 1, _, by omega, by go_num, rfl, HAT2.out⟩
                case measure => simp [intOf]; omega
            · have HP : Hid (canG n s t bs u (rowNums rs) = false) := by
                refine canG_sides hkr ?_
                rw [HGT.out, ← HSA.out]
                exact allAt_no hjl (by rw [← hvje]; exact hvb)
              clear hvje hmj hm0 hcq
              cases vj <;> cases b0
              all_goals first | exact absurd rfl hvb | skip
              all_goals
                clear hvb
                go_wp2
                go_quiet (fail)
                go_wp2
                go_ret
                exact ⟨ret_of (by rw [HP.out]; rfl), by first | exact below_draws ht _ | exact below_draws (below_draws ht _) _⟩
          · have hjn : j2 = rs[j + 1].xs.length := by have := HRN.out; omega
            have HALL : Hid (allAt bs b0 rs[j + 1].xs = true) := allAt_yes fun j3 h3 => HAT.out j3 h3 (by omega)
            have HSD : Hid (sided bs (rowNums rs)[j + 1] = true) := by show _ = _; rw [HGT.out, ← HSA.out]; exact HALL.out
            have HNR := Lib.hid (HNA.out HALL.out)
            have HNX : Hid (∀ jj (hj : jj < (rowNums rs).length), jj < j + 1 + 1 → sided bs (rowNums rs)[jj] = true) := fun j3 h3 h4 => by
              rcases Nat.lt_or_ge j3 (j + 1) with h5 | h5
              · exact HSID.out j3 h3 h5
              · obtain rfl : j3 = j + 1 := by omega
                exact HSD.out
            have hn0 : 0 < rs[j + 1].n := by have := HRN.out; omega
            have hn0' : (0 : Int) < (rs[j + 1].n : Int) := by omega
            clear hm0 hcq hjn
            cases b0
            · have HCN := Lib.hid (near_yes hkr (show allAt bs false (rowNums rs)[j + 1] = true by rw [HGT.out]; exact HNR.out))
              go_wp2
              go_quiet (fail)
              go_wp2
              go_roundw
              case rel => exact ⟨j + 1 + 1, by omega, by go_num, by rw [HCN.out.1, HN1.out]; exact congrArg _ (by omega), by rw [HCN.out.2, HN2.out], h0.below (below_draws (Below.refl _ _) _), h1.below (below_draws (Below.refl _ _) _), below_draws ht _, HNX.out, HSR2.out⟩
              case measure => simp [intOf]; omega
            · have HCN := Lib.hid (far_yes hkr (show allAt bs false (rowNums rs)[j + 1] = false by rw [HGT.out]; exact HNR.out) (show allAt bs true (rowNums rs)[j + 1] = true by rw [HGT.out]; exact HALL.out))
              go_wp2
              go_quiet (fail)
              go_wp2
              go_roundw
              case rel => exact ⟨j + 1 + 1, by omega, by go_num, by rw [HCN.out.1, HN1.out], by rw [HCN.out.2, HN2.out]; exact congrArg _ (by omega), h0.below (below_draws (Below.refl _ _) _), h1.below (below_draws (Below.refl _ _) _), below_draws ht _, HNX.out, HSR2.out⟩
              case measure => simp [intOf]; omega
    · obtain rfl : k = rs.length := by omega
      have HP := Lib.hid (canG_all (bs := bs) (u := u) HG.out (fun k hk => HSRT.out k (by have := HRL.out; omega)) (fun k hk => HSID.out k hk (by have := HRL.out; omega)))
      have HTK : Hid ((rowNums rs).take rs.length = rowNums rs) := List.take_of_length_le (by have := HRL.out; omega)
      rw [HTK.out]
      have hnl : nearN bs (rowNums rs) ≤ rs.length := by have := near_le bs (rowNums rs); have := HRL.out; omega
      have hfl : farN bs (rowNums rs) ≤ rs.length := by have := far_le bs (rowNums rs); have := HRL.out; omega
      clear HTK
      generalize nearN bs (rowNums rs) = N1 at *
      generalize farN bs (rowNums rs) = N2 at *
      by_cases h1 : (N1 : Int) ≤ t - u
      · have h1' : 0 ≤ t - u - (N1 : Int) := by omega
        by_cases h2 : (N2 : Int) ≤ u
        · have h2' : 0 ≤ u - (N2 : Int) := by omega
          go_wp2
          go_ret
          exact ⟨ret_of (by rw [HP.out]; simp; omega), ht⟩
        · have h2' : ¬ 0 ≤ u - (N2 : Int) := by omega
          go_wp2
          go_ret
          exact ⟨ret_of (by rw [HP.out]; simp; omega), ht⟩
      · have h1' : ¬ 0 ≤ t - u - (N1 : Int) := by omega
        go_wp2
        go_ret
        exact ⟨ret_of (by rw [HP.out]; simp; omega), ht⟩
end Go.Proofs.Ytifaadjbkbdbnaa

namespace Go.Proofs.Ytifaadjbkbdbnaa
open Go.RowKit

theorem own_lowerG {w : World} {base base' size : Nat} {e : TypeId} {v : Value} {n : Nat} {xs : List Value} (h : w.ownsRow base e size v n xs) (hb : base' ≤ base) : w.ownsRow base' e size v n xs := by
  obtain ⟨hl, h | ⟨g, cap, cur, hv, hg, r⟩⟩ := h
  · exact ⟨hl, .inl h⟩
  · exact ⟨hl, .inr ⟨g, cap, cur, hv, Nat.le_trans hb hg, r⟩⟩
theorem slow_in {xs l : List Int} {n : Nat} (hs : ∀ x ∈ l, 0 ≤ x ∧ x ≤ (n : Int) - 1) : slowTo xs l n = slowOf xs l := by
  apply Int.le_antisymm
  · rw [slowTo_le]
    have h := (slowOf_le xs l (slowOf xs l)).1 (Int.le_refl _)
    exact ⟨h.1, fun i _ hp => by have := h.2 _ (has_iff.1 hp); simpa using this⟩
  · rw [slowOf_le]
    have h := (slowTo_le xs l n (slowTo xs l n)).1 (Int.le_refl _)
    refine ⟨h.1, fun x hx => ?_⟩
    have hm := hs x hx
    obtain ⟨i, rfl⟩ := Int.eq_ofNat_of_zero_le hm.1
    exact h.2 i (by omega) (has_iff.2 hx)

set_option maxHeartbeats 1600000 in
set_option linter.unusedVariables false in
theorem outingWith_any (A : Option Addr) (n d : Nat) (xs : List Int) (T : Option Addr) (q c : Nat) (ls : List (List Int)) (w : World) (hA : Holds w A (nums xs)) (hx : xs.length = n) (hn : n ≤ 8) (hT : Holds w T (crowdsOf ls)) (hq : ls.length = q) (hq8 : q ≤ 1048576) (hin : ∀ x ∈ flat ls, 0 ≤ x ∧ x ≤ (n : Int) - 1) :
    Calls Try.prog 117 #[.slice A n d, .slice T q c] w fun e w' => e = .returned (.agg #[.slice T q c, .int .i64 (slowOf xs (flat ls))]) ∧ Below w.heap.size w w' := by
  have HX := Lib.hid hx
  have HQ := Lib.hid hq
  have HS := Lib.hid (slow_in (xs := xs) hin)
  have hr := Whole.fresh w 115 #[.slice none 0 0, .int .i64 0]
  have ht := below1 w (.cells #[.slice none 0 0, .int .i64 0] 115)
  clear hx hq hin
  have had := addAllWith_any T q c ls (w.alloc (.cells #[.slice none 0 0, .int .i64 0] 115)) (hT.below ht) HQ.out hq8
  rw [nobody8] at had
  go_enter Try.func117, Try.ntmps117
  go_wp2_with fail
  refine had.mono ?_
  clear had
  rintro e w1 ⟨rfl, hb⟩
  replace hr := hr.below hb
  replace ht := below_then ht hb ht.size
  clear hb
  have hsl := slowest_any A n d xs (flat ls) w1 (hA.below ht) HX.out hn
  rw [crowd8] at hsl
  unfold cells8 at hsl
  unfold cells8
  go_wp2_with fail
  refine hsl.mono ?_
  clear hsl
  rintro e w2 ⟨rfl, hb⟩
  replace hr := hr.below hb
  replace ht := below_then ht hb ht.size
  clear hb
  rw [HS.out]
  obtain ⟨r0, r1, f0, f1⟩ := hr.two
  have hlr := hr.lt
  go_wp2
  refine bodyPost_ret (v := .agg #[.slice T q c, .int .i64 (slowOf xs (flat ls))]) (by simp [results, Try.results117, go_sem, r0, r1]) rfl ⟨rfl, below_set (below_set ht (by omega)) (by omega)⟩

/-- What outingOf hands back. -/
def OutPost (n : Nat) (s t : Int) (xs : List Int) (G : List (List Int)) (w : World) (e : Ending) (w' : World) : Prop :=
  ((areGroups n s t G = true ∧ ∃ (T : Option Addr) (c : Nat), e = .returned (.tuple #[.agg #[.slice T G.length c, .int .i64 (slowOf xs (flat G))], .bool true]) ∧ w'.ownsRow w.heap.size 92 8 (.slice T G.length c) G.length (crowdsOf G)) ∨
    (areGroups n s t G = false ∧ e = .returned (.tuple #[.agg #[.slice none 0 0, .int .i64 0], .bool false]))) ∧ Below w.heap.size w w'
theorem groups_trip {n : Nat} {s t : Int} {G : List (List Int)} {k : Nat} (hk : k < G.length) (h : isTrip n s G[k] = false) : areGroups n s t G = false := groups_no hk (okAt_trip hk h)
theorem groups_apart {n : Nat} {s t : Int} {G : List (List Int)} (h : apartG G = false) : areGroups n s t G = false := by
  cases hg : areGroups n s t G
  · rfl
  · have h1 := (groups_ok hg).2
    rw [apartG_yes (fun k hk => apartAt_yes hk (ok_apart hk (h1 k hk)))] at h; cases h
theorem groups_all {n : Nat} {s t : Int} {G : List (List Int)} (h : within G.length 1 t = true) (ht : ∀ k (hk : k < G.length), isTrip n s G[k] = true) (ha : apartG G = true) : areGroups n s t G = true :=
  groups_yes h fun k hk => okAt_yes hk (ht k hk) (apartG_at ha hk)

set_option maxHeartbeats 6400000 in
set_option maxRecDepth 100000 in
set_option linter.unusedVariables false in
theorem outingOf_any (A : Option Addr) (n c : Nat) (xs : List Int) (s t : Int) (D : Option Addr) (q z : Nat) (rs : List RowV) (w : World) (hA : Holds w A (nums xs)) (hx : xs.length = n) (hn : n ≤ 8) (ht8 : t ≤ 8) (hD : Grid w D rs) (hz : rs.length = q) (hq : q ≤ 9223372036854775807) :
    Calls Try.prog 97 #[.agg #[.slice A n c, .int .i64 s, .int .i64 t], .slice D q z] w (OutPost n s t xs (rowNums rs) w) := by
  subst hz
  obtain ⟨i0, hi, hz0, hz1, hz2⟩ := info_parts info_crowd
  have HI := Lib.hid hi
  have HZ0 := Lib.hid hz0
  have HZ1 := Lib.hid hz1
  have HZ2 := Lib.hid hz2
  have HX := Lib.hid hx
  have h0 := (Whole.fresh w 48 #[.slice A n c, .int .i64 s, .int .i64 t]).alloc (.cells #[.slice none 0 0, .int .i64 0] 115)
  have hr := Whole.fresh (w.alloc (.cells #[.slice A n c, .int .i64 s, .int .i64 t] 48)) 115 #[.slice none 0 0, .int .i64 0]
  rw [World.size_alloc] at hr
  have ht := below2 w (.cells #[.slice A n c, .int .i64 s, .int .i64 t] 48) (.cells #[.slice none 0 0, .int .i64 0] 115)
  have hzw : ((w.alloc (.cells #[.slice A n c, .int .i64 s, .int .i64 t] 48)).alloc (.cells #[.slice none 0 0, .int .i64 0] 115)).heap.size = w.heap.size + 2 := by simp
  clear hi hz0 hz1 hz2 hx
  by_cases hl1 : rs.length < 1
  · have HP := Lib.hid (groups_len (n := n) (s := s) (G := rowNums rs) (show within _ 1 t = false by rw [rowNums_len]; exact within_no (.inl (by omega))))
    have hl1' : ((rs.length : Int) < 1) := by omega
    go_enter Try.func97, Try.ntmps97
    obtain ⟨r0, r1, f0, f1⟩ := hr.two
    have hlr := hr.lt
    go_wp2
    refine bodyPost_ret (v := .tuple #[.agg #[.slice none 0 0, .int .i64 0], .bool false]) (by simp [results, Try.results97, go_sem, r0, r1]) rfl ⟨.inr ⟨HP.out, rfl⟩, by with_reducible first | exact ht | exact below_set (below_set ht (by omega)) (by omega)⟩
  by_cases hlt : t < (rs.length : Int)
  · have HP := Lib.hid (groups_len (n := n) (s := s) (G := rowNums rs) (show within _ 1 t = false by rw [rowNums_len]; exact within_no (.inr (by omega))))
    obtain ⟨c0, c1, c2⟩ := h0.cells3
    go_enter Try.func97, Try.ntmps97
    obtain ⟨r0, r1, f0, f1⟩ := hr.two
    have hlr := hr.lt
    go_wp2
    refine bodyPost_ret (v := .tuple #[.agg #[.slice none 0 0, .int .i64 0], .bool false]) (by simp [results, Try.results97, go_sem, r0, r1]) rfl ⟨.inr ⟨HP.out, rfl⟩, by with_reducible first | exact ht | exact below_set (below_set ht (by omega)) (by omega)⟩
  have HW : Hid (within (rowNums rs).length 1 t = true) := by show _ = _; rw [rowNums_len]; exact within_yes (by omega) (by omega)
  obtain ⟨c0, c1, c2⟩ := h0.cells3
  have hr8 : rs.length ≤ 8 := by omega
  go_enter Try.func97, Try.ntmps97
  go_upto_region 3 with fail
  generalize (w.alloc (.cells #[.slice A n c, .int .i64 s, .int .i64 t] 48)).alloc (.cells #[.slice none 0 0, .int .i64 0] 115) = w2 at h0 hr ht hzw c0 c1 c2 ⊢
  have hA2 := hA.below ht
  have hD2 := hD.below ht
  have HT0 := Lib.hid ht
  have HR0 := Lib.hid hr
  have H00 := Lib.hid h0
  clear ht hr h0 c0 c1 c2
  go_wp2
  go_loopw [6, 24] (fun v i wr => ∃ (k : Nat) (T : Option Addr) (r : Nat), k ≤ rs.length ∧ i = .int .i64 k ∧ v = .slice T k r ∧ wr.ownsRow w2.heap.size 92 8 (.slice T k r) k (crowdsOf ((rowNums rs).take k)) ∧ Below w2.heap.size w2 wr ∧ ∀ j (hj : j < (rowNums rs).length), j < k → isTrip n s (rowNums rs)[j] = true) (fun _ i _ => rs.length - (intOf i).toNat)
  case atStart => exact ⟨0, none, 0, Nat.zero_le _, rfl, rfl, World.ownsRow_nil _ _ _ _, Below.refl _ _, fun j _ hj => absurd hj (by omega)⟩
  case round =>
    obtain ⟨k, T, r, hk, rfl, rfl, hown, hb, hall⟩ := hrel
    have HOWN := Lib.hid hown
    have HALL := Lib.hid hall
    clear hown hall
    have ht := below_then HT0.out hb HT0.out.size
    have hr := HR0.out.below hb
    have h0 := H00.out.below hb
    obtain ⟨c0, c1, c2⟩ := h0.cells3
    by_cases hlt2 : k < rs.length
    · have hkl : k < (rowNums rs).length := by rw [rowNums_len]; exact hlt2
      obtain ⟨b1, o1, rfl, hbl1, hc, hok⟩ := (hD2.below hb).look hlt2
      have HG := Lib.hid (rowNums_get hlt2)
      have hcn := crowdsOf_next hkl
      rw [HG.out] at hcn
      have HCN := Lib.hid hcn
      clear hcn
      go_wp2_with fail
      refine (crowdOf_any _ n _ _ rs[k].xs s _ hok.1 hok.2.1 hok.2.2 hn).mono ?_
      rintro e1 w3 ⟨⟨htr, rfl⟩ | ⟨htr, rfl⟩, hb3⟩
      · have HTR := Lib.hid htr
        have HBB := Lib.hid (((below_then hb hb3 hb.size).alloc (below_then hb hb3 hb.size).size (.cells (crowdCells rs[k].xs) 92)).alloc (Nat.le_trans (below_then hb hb3 hb.size).size (by simp)) (.cells (crowdCells rs[k].xs) 92))
        have HOW := Lib.hid (((ownsRow_below HOWN.out hb3).alloc (.cells (crowdCells rs[k].xs) 92)).alloc (.cells (crowdCells rs[k].xs) 92))
        have hnew := cells_new (w3.alloc (.cells (crowdCells rs[k].xs) 92)) 92 (crowdCells rs[k].xs)
        rw [World.size_alloc] at hnew
        have HNEW := Lib.hid hnew
        have HONE := Lib.hid (crowd_ones rs[k].xs)
        have HMAX := Lib.hid (show k + 1 ≤ maxLen by unfold maxLen; omega)
        have HBYT := Lib.hid (show (k + 1) * 8 ≤ 140737488355328 by omega)
        have HBASE := Lib.hid (show w2.heap.size ≤ ((w3.alloc (.cells (crowdCells rs[k].xs) 92)).alloc (.cells (crowdCells rs[k].xs) 92)).heap.size by have := (below_then hb hb3 hb.size).size; simp; omega)
        clear htr hb hb3 hok hc hnew c0 c1 c2 h0 hr ht
        unfold crowdCells at HNEW HONE HOW HBASE HBB
        unfold crowdCells
        go_wp2_with (at_builtin; refine wpList_append_own _ rfl (.tmp 41) (.tmp 43) 109 rfl w2.heap.size 92 i0 (.agg #[.bool false, .bool false, .bool false, .bool false, .bool false, .bool false, .bool false, .bool false]) 8 8 Try.underlying109 HI.out HZ0.out HZ1.out HZ2.out rfl (by decide) (.slice T k r) k (crowdsOf ((rowNums rs).take k)) rfl HOW.out ⟨w3.heap.size + 1, 0, none⟩ 1 1 [.bool (has rs[k].xs 0), .bool (has rs[k].xs 1), .bool (has rs[k].xs 2), .bool (has rs[k].xs 3), .bool (has rs[k].xs 4), .bool (has rs[k].xs 5), .bool (has rs[k].xs 6), .bool (has rs[k].xs 7)] rfl rfl HNEW.out HONE.out HMAX.out HBYT.out HBASE.out ?_; intro v' w4 hown1 hg1 _; obtain ⟨g2, e2, hv2⟩ := own_form hown1; subst hv2)
        have hbb2 := HBB.out.grown hg1 HBASE.out (fun kk x => by have := (HOW.out.lt _ x).1; omega)
        have hown2 : w4.ownsRow w2.heap.size 92 8 (.slice (some ⟨g2, 0, none⟩) (k + 1) e2) (k + 1) (crowdsOf ((rowNums rs).take (k + 1))) := by rw [← HCN.out]; exact hown1
        have HO2 := Lib.hid hown2
        clear hown1 hown2 hg1
        go_roundw
        case rel => exact ⟨k + 1, _, e2, by omega, by go_num, rfl, HO2.out, hbb2, fun j hj hjk => by
          rcases Nat.lt_or_ge j k with h1 | h1
          · exact HALL.out j hj h1
          · obtain rfl : j = k := by omega
            rw [HG.out]; exact HTR.out⟩
        case measure => simp [intOf]; omega
      · have HP := Lib.hid (groups_trip (t := t) hkl (show isTrip n s (rowNums rs)[k] = false by rw [HG.out]; exact htr))
        replace ht := below_then ht hb3 ht.size
        replace hr := hr.below hb3
        have hlr0 := hr.lt
        clear htr hb hb3 hok hc c0 c1 c2 h0
        have ht1 := below_set (below_set ht (b := w.heap.size + 1) (o := 0) (u := .slice none 0 0) (by omega)) (b := w.heap.size + 1) (o := 1) (u := .int .i64 0) (by omega)
        have ht2 := ht1.alloc ht1.size (.cells (crowdCells []) 92)
        have hr1 := ((hr.set_ 0 (.slice none 0 0)).set_ 1 (.int .i64 0)).alloc (.cells (crowdCells []) 92)
        unfold crowdCells at ht2 hr1
        unfold crowdCells
        obtain ⟨r0, r1, f0, f1⟩ := hr.two
        have HR1 := Lib.hid hr1
        have HT2 := Lib.hid ht2
        clear hr1 ht1 ht2
        go_wp2
        obtain ⟨q0, q1, -, -⟩ := (show Whole _ (w.heap.size + 1) 115 #[.slice none 0 0, .int .i64 0] by simpa using HR1.out).two
        refine bodyPost_ret (v := .tuple #[.agg #[.slice none 0 0, .int .i64 0], .bool false]) (by simp [results, Try.results97, go_sem, q0, q1]) rfl ⟨.inr ⟨HP.out, rfl⟩, HT2.out⟩
    · obtain rfl : k = rs.length := by omega
      have hRL : (rowNums rs).length = rs.length := rowNums_len rs
      have HRL := Lib.hid hRL
      have hTK : (rowNums rs).take rs.length = rowNums rs := List.take_of_length_le (by rw [hRL]; exact Nat.le_refl _)
      have hown := HOWN.out
      rw [hTK] at hown
      have HO := Lib.hid hown
      have HTR : Hid (∀ k (hk : k < (rowNums rs).length), isTrip n s (rowNums rs)[k] = true) := fun k hk => HALL.out k hk (by rw [← hRL]; exact hk)
      clear hTK hRL hown
      have hT := own_holdsG HO.out
      go_wp2_with fail
      refine (areApart_any T rs.length r (rowNums rs) _ hT HRL.out (by omega)).mono ?_
      rintro e w3 ⟨rfl, hb3⟩
      replace ht := below_then ht hb3 ht.size
      replace hr := hr.below hb3
      replace h0 := h0.below hb3
      have hO3 := ownsRow_below HO.out hb3
      have hlr := hr.lt
      clear c0 c1 c2 hT
      cases hap : apartG (rowNums rs)
      · have HP := Lib.hid (groups_apart (n := n) (s := s) (t := t) hap)
        clear hap hb hb3 hO3 h0
        obtain ⟨r0, r1, f0, f1⟩ := hr.two
        go_wp2
        refine bodyPost_ret (v := .tuple #[.agg #[.slice none 0 0, .int .i64 0], .bool false]) (by simp [results, Try.results97, go_sem, r0, r1]) rfl ⟨.inr ⟨HP.out, rfl⟩, below_set (below_set ht (by omega)) (by omega)⟩
      · have HP := Lib.hid (groups_all (s := s) HW.out HTR.out hap)
        have HIN : Hid (∀ x ∈ flat (rowNums rs), 0 ≤ x ∧ x ≤ (n : Int) - 1) := by
          intro x hx
          have := flat_in (groups_ok HP.out).2 (Nat.le_refl _)
          rw [List.take_length] at this
          exact this x hx
        obtain ⟨c0, c1, c2⟩ := h0.cells3
        have HO3 := Lib.hid hO3
        clear hap hb hb3 hO3 h0
        go_wp2_with fail
        refine (outingWith_any A n c xs T rs.length r (rowNums rs) _ (hA.below ht) HX.out hn (own_holdsG HO3.out) HRL.out (by omega) HIN.out).mono ?_
        rintro e w4 ⟨rfl, hb4⟩
        replace ht := below_then ht hb4 ht.size
        replace hr := hr.below hb4
        have HO4 := Lib.hid (ownsRow_below HO3.out hb4)
        clear hb4 c0 c1 c2
        have hlr4 := hr.lt
        have hr4 := hr
        obtain ⟨r0, r1, f0, f1⟩ := hr.two
        clear hr
        have HOS := Lib.hid (hr4.set_ 0 (.slice T rs.length r))
        go_wp2
        refine bodyPost_ret (v := .tuple #[.agg #[.slice T rs.length r, .int .i64 (slowOf xs (flat (rowNums rs)))], .bool true]) (by simp [results, Try.results97, go_sem, r0, r1]) rfl ⟨.inl ⟨HP.out, T, r, by rw [HRL.out], ?_⟩, below_set (below_set ht (by omega)) (by omega)⟩
        rw [HRL.out]
        exact own_lowerG (ownsRow_setCell_below (ownsRow_setCell_below HO4.out (a := ⟨w.heap.size + 1, 0, none⟩) (by show w.heap.size + 1 < _; omega) _) (a := ⟨w.heap.size + 1, 1, none⟩) (by show w.heap.size + 1 < _; omega) _) (by omega)
end Go.Proofs.Ytifaadjbkbdbnaa

namespace Go.Proofs.Ytifaadjbkbdbnaa
open Go.RowKit

/-- What roundIn hands back. -/
def RoundPost (n : Nat) (s t : Int) (xs : List Int) (bs : List Bool) (u : Int) (G : List (List Int)) (w : World) (e : Ending) (w' : World) : Prop :=
  ((canG n s t bs u G = true ∧ ∃ (T : Option Addr) (c : Nat), e = .returned (.tuple #[.agg #[.slice T G.length c, .int .i64 (slowOf xs (flat G))], .bool true]) ∧ w'.ownsRow w.heap.size 92 8 (.slice T G.length c) G.length (crowdsOf G)) ∨
    (canG n s t bs u G = false ∧ e = .returned (.tuple #[.agg #[.slice none 0 0, .int .i64 0], .bool false]))) ∧ Below w.heap.size w w'

set_option maxHeartbeats 6400000 in
set_option maxRecDepth 100000 in
set_option linter.unusedVariables false in
theorem roundIn9_any (A : Option Addr) (n c : Nat) (xs : List Int) (s t : Int) (bs : List Bool) (f : Nat → Bool) (hf : f = (fun i => bs.getD i false)) (u : Int) (D : Option Addr) (q z : Nat) (rs : List RowV) (w : World) (hA : Holds w A (nums xs)) (hx : xs.length = n) (hn : n ≤ 8) (ht8 : t ≤ 8) (hu : 0 ≤ u ∧ u ≤ 8) (hD : Grid w D rs) (hz : rs.length = q) (hq : q ≤ 9223372036854775807) :
    Calls Try.prog 91 #[.agg #[.slice A n c, .int .i64 s, .int .i64 t], .agg (si9 f u), .slice D q z] w (RoundPost n s t xs bs u (rowNums rs) w) := by
  subst hz
  have HX := Lib.hid hx
  have HF := Lib.hid hf
  have HRL := Lib.hid (rowNums_len rs)
  have h0 := ((Whole.fresh w 48 #[.slice A n c, .int .i64 s, .int .i64 t]).alloc (.cells (si9 f u) 103)).alloc (.cells #[.slice none 0 0, .int .i64 0] 115)
  have h1 := (Whole.fresh (w.alloc (.cells #[.slice A n c, .int .i64 s, .int .i64 t] 48)) 103 (si9 f u)).alloc (.cells #[.slice none 0 0, .int .i64 0] 115)
  have hr := Whole.fresh ((w.alloc (.cells #[.slice A n c, .int .i64 s, .int .i64 t] 48)).alloc (.cells (si9 f u) 103)) 115 #[.slice none 0 0, .int .i64 0]
  simp only [World.size_alloc] at h1 hr
  have ht := below3 w (.cells #[.slice A n c, .int .i64 s, .int .i64 t] 48) (.cells (si9 f u) 103) (.cells #[.slice none 0 0, .int .i64 0] 115)
  clear hx hf
  obtain ⟨c0, c1, c2⟩ := h0.cells3
  unfold si9
  go_enter Try.func91, Try.ntmps91
  go_wp2_with fail
  have hou := outingOf_any A n c xs s t D _ z rs _ (by exact hA.below ht) HX.out hn ht8 (by exact hD.below ht) rfl hq
  unfold si9 at hou ht h0 h1 hr
  refine hou.mono ?_
  clear hou
  rintro e w1 ⟨hcase, hb⟩
  have htz := ht.size
  have hrb := hr.lt
  replace h0 := h0.below hb
  replace h1 := h1.below hb
  replace hr := hr.below hb
  clear c0 c1 c2
  rcases hcase with ⟨hg, T, r, rfl, hown⟩ | ⟨hg, rfl⟩
  rotate_left
  · have HP := Lib.hid (canG_groups (bs := bs) (u := u) hg)
    have hlr := hr.lt
    replace ht := below_then ht hb ht.size
    clear hg hb h0 h1
    have hb2 := below_set (below_set ht (b := w.heap.size + 1 + 1) (o := 0) (u := .slice none 0 0) (by omega)) (b := w.heap.size + 1 + 1) (o := 1) (u := .int .i64 0) (by omega)
    have hb3 := hb2.alloc hb2.size (.cells #[.slice none 0 0, .int .i64 0] 115)
    have hr3 := ((hr.set_ 0 (.slice none 0 0)).set_ 1 (.int .i64 0)).alloc (.cells #[.slice none 0 0, .int .i64 0] 115)
    obtain ⟨r0, r1, f0, f1⟩ := hr.two
    have HR3 := Lib.hid hr3
    have HB3 := Lib.hid hb3
    clear hr hr3 hb2 hb3
    go_wp2
    obtain ⟨q0, q1, -, -⟩ := (show Whole _ (w.heap.size + 1 + 1) 115 #[.slice none 0 0, .int .i64 0] by simpa using HR3.out).two
    refine bodyPost_ret (v := .tuple #[.agg #[.slice none 0 0, .int .i64 0], .bool false]) (by simp [results, Try.results91, go_sem, q0, q1]) rfl ⟨.inr ⟨HP.out, rfl⟩, HB3.out⟩
  have HO1 := Lib.hid (own_lowerG hown (base' := w.heap.size + 1 + 1 + 1) (by simp))
  replace ht := below_then ht hb ht.size
  have HG := Lib.hid hg
  have hgk := groups_ok hg
  have hr8 : (rowNums rs).length ≤ 8 := by have := hgk.1.2; omega
  have hrs8 : rs.length ≤ 1048576 := by rw [HRL.out] at hr8; omega
  have ht0 : 1 ≤ t := by have := hgk.1; omega
  have HST : Hid (∀ k (hk : k < (rowNums rs).length), StepsTo (rowNums rs)[k] ((n : Int) - 1) (rowNums rs)[k].length) := fun k hk => (trip_parts (ok_trip hk (hgk.2 k hk))).2
  clear hg hb hown hgk
  -- the outing's own block
  have hw1 := hr.lt
  have ho := Whole.fresh w1 115 #[.slice T (rowNums rs).length r, .int .i64 (slowOf xs (flat (rowNums rs)))]
  have HO2 := Lib.hid (HO1.out.alloc (.cells #[.slice T (rowNums rs).length r, .int .i64 (slowOf xs (flat (rowNums rs)))] 115))
  replace h0 := h0.alloc (.cells #[.slice T (rowNums rs).length r, .int .i64 (slowOf xs (flat (rowNums rs)))] 115)
  replace h1 := h1.alloc (.cells #[.slice T (rowNums rs).length r, .int .i64 (slowOf xs (flat (rowNums rs)))] 115)
  replace hr := hr.alloc (.cells #[.slice T (rowNums rs).length r, .int .i64 (slowOf xs (flat (rowNums rs)))] 115)
  replace ht := ht.alloc ht.size (.cells #[.slice T (rowNums rs).length r, .int .i64 (slowOf xs (flat (rowNums rs)))] 115)
  go_upto_region 2 with fail
  generalize hw2 : w1.alloc (.cells #[.slice T (rowNums rs).length r, .int .i64 (slowOf xs (flat (rowNums rs)))] 115) = w2 at h0 h1 hr ht ho HO2 ⊢
  clear hw2 HO1
  cases hso : sortedG (rowNums rs)
  · have HP : Hid (canG n s t bs u (rowNums rs) = false) := by show _ = _; rw [canG, hso, Bool.false_and, Bool.and_false]
    have HSO := Lib.hid hso
    clear hso
    go_wp2_with fail
    refine (isSortedG_any D _ z rs _ (by exact hD.below ht) rfl hrs8).mono ?_
    rintro e w3 ⟨rfl, qq, rfl⟩
    rw [HSO.out]
    have hb3 : Below w2.heap.size w2 (w2.drewN qq) := below_draws (Below.refl _ _) qq
    replace hr := hr.below hb3
    replace ht := below_then ht hb3 ht.size
    generalize w2.drewN qq = w3 at hr ht ⊢
    clear hb3
    obtain ⟨r0, r1, f0, f1⟩ := hr.two
    have hlr := hr.lt
    clear hr h0 h1
    go_wp2
    refine bodyPost_ret (v := .tuple #[.agg #[.slice none 0 0, .int .i64 0], .bool false]) (by simp [results, Try.results91, go_sem, r0, r1]) rfl ⟨.inr ⟨HP.out, rfl⟩, below_set (below_set ht (by omega)) (by omega)⟩
  have HSO := Lib.hid hso
  go_wp2_with fail
  refine (isSortedG_any D _ z rs _ (by exact hD.below ht) rfl hrs8).mono ?_
  rintro e w3 ⟨rfl, qq, rfl⟩
  rw [HSO.out]
  have hb3 : Below w2.heap.size w2 (w2.drewN qq) := below_draws (Below.refl _ _) qq
  replace hr := hr.below hb3
  replace h0 := h0.below hb3
  replace h1 := h1.below hb3
  replace ho := ho.below hb3
  replace ht := below_then ht hb3 ht.size
  have HO3 := Lib.hid (ownsRow_below HO2.out hb3)
  generalize w2.drewN qq = w3 at hr h0 h1 ho ht HO3 ⊢
  clear hb3 HO2
  obtain ⟨c0, c1, c2⟩ := h0.cells3
  obtain ⟨s0, s1, s2, s3, s4, s5, s6, s7, s8⟩ := siteS h1
  obtain ⟨o0, o1, -, -⟩ := ho.two
  have hle := lets9_any f u t T _ r n bs HF.out (rowNums rs) w3 (own_holdsG HO3.out) rfl (by omega) hn HST.out (by omega) (by omega)
  unfold si9 at hle
  go_wp2_with fail
  refine hle.mono ?_
  clear hle
  rintro e w4 ⟨rfl, hb4⟩
  replace hr := hr.below hb4
  replace h0 := h0.below hb4
  replace h1 := h1.below hb4
  replace ho := ho.below hb4
  replace ht := below_then ht hb4 ht.size
  have HO4 := Lib.hid (ownsRow_below HO3.out hb4)
  clear hb4 c0 c1 c2 s0 s1 s2 s3 s4 s5 s6 s7 s8 o0 o1 HO3
  cases hl : letsG bs t u (rowNums rs)
  · have HP : Hid (canG n s t bs u (rowNums rs) = false) := by show _ = _; rw [canG, hl, Bool.and_false, Bool.and_false]
    clear hl hso
    obtain ⟨r0, r1, f0, f1⟩ := hr.two
    have hlr := hr.lt
    clear hr h0 h1
    go_wp2
    refine bodyPost_ret (v := .tuple #[.agg #[.slice none 0 0, .int .i64 0], .bool false]) (by simp [results, Try.results91, go_sem, r0, r1]) rfl ⟨.inr ⟨HP.out, rfl⟩, below_set (below_set ht (by omega)) (by omega)⟩
  · have HP : Hid (canG n s t bs u (rowNums rs) = true) := by show _ = _; rw [canG, hl, HSO.out, HG.out]; rfl
    clear hl hso
    obtain ⟨o0, o1, -, -⟩ := ho.two
    obtain ⟨r0, r1, f0, f1⟩ := hr.two
    have hlr := hr.lt
    have hlo := ho.lt
    clear hr h0 h1 ho
    go_wp2
    refine bodyPost_ret (v := .tuple #[.agg #[.slice T (rowNums rs).length r, .int .i64 (slowOf xs (flat (rowNums rs)))], .bool true]) (by simp [results, Try.results91, go_sem, r0, r1]) rfl ⟨.inl ⟨HP.out, T, r, rfl, ?_⟩, below_set (below_set ht (by omega)) (by omega)⟩
    exact own_lowerG (ownsRow_setCell_below (ownsRow_setCell_below HO4.out (a := ⟨w.heap.size + 1 + 1, 0, none⟩) (by show w.heap.size + 1 + 1 < _; omega) _) (a := ⟨w.heap.size + 1 + 1, 1, none⟩) (by show w.heap.size + 1 + 1 < _; omega) _) (by omega)
end Go.Proofs.Ytifaadjbkbdbnaa

namespace Go.Proofs.Ytifaadjbkbdbnaa
open Go.RowKit

/-- Is a list a round in what should be a camp? -/
noncomputable def canRnd (xs : List Int) (s t : Int) (bs : List Bool) (u : Int) (G : List (List Int)) : Bool := isCamp xs s t bs.length u && canG xs.length s t bs u G
theorem camp_parts {xs : List Int} {s t : Int} {m : Nat} {u : Int} (h : isCamp xs s t m u = true) : NightOk xs s t ∧ m = xs.length ∧ 0 ≤ u ∧ u ≤ t := by
  rw [isCamp, Bool.and_eq_true, Bool.and_eq_true, decide_eq_true_eq, within_iff] at h
  exact ⟨isNight_ok h.1, h.2.1, h.2.2⟩

set_option maxHeartbeats 1600000 in
set_option linter.unusedVariables false in
theorem specCanRound_any (A : Option Addr) (n c : Nat) (xs : List Int) (s t : Int) (B : Option Addr) (m d : Nat) (bs : List Bool) (u : Int) (D : Option Addr) (q z : Nat) (rs : List RowV) (w : World) (hA : Holds w A (nums xs)) (hx : xs.length = n) (hn : n ≤ 9223372036854775807) (hB : Holds w B (bits bs)) (hy : bs.length = m) (hm : m ≤ 9223372036854775807) (hD : Grid w D rs) (hz : rs.length = q) (hq : q ≤ 1048576) :
    Calls Try.prog 49 #[.agg #[.slice A n c, .int .i64 s, .int .i64 t], .agg #[.slice B m d, .int .i64 u], .slice D q z] w fun e w' => e = .returned (.tuple #[.bool (canRnd xs s t bs u (rowNums rs)), .bool (isCamp xs s t bs.length u)]) ∧ Below w.heap.size w w' := by
  subst hy
  have HX := Lib.hid hx
  have h0 := (Whole.fresh w 48 #[.slice A n c, .int .i64 s, .int .i64 t]).alloc (.cells #[.slice B bs.length d, .int .i64 u] 56)
  have h1 := Whole.fresh (w.alloc (.cells #[.slice A n c, .int .i64 s, .int .i64 t] 48)) 56 #[.slice B bs.length d, .int .i64 u]
  rw [World.size_alloc] at h1
  have ht := below2 w (.cells #[.slice A n c, .int .i64 s, .int .i64 t] 48) (.cells #[.slice B bs.length d, .int .i64 u] 56)
  obtain ⟨c0, c1, c2⟩ := h0.cells3
  obtain ⟨d0, d1, -, -⟩ := h1.two
  cases hc : isCamp xs s t bs.length u
  · have HC := Lib.hid hc
    have HR : Hid (canRnd xs s t bs u (rowNums rs) = false) := by show _ = _; rw [canRnd, hc, Bool.false_and]
    clear hc hx
    go_enter Try.func49, Try.ntmps49
    go_wp2_with fail
    refine (toCamp_any8 A n c xs s t B _ d u _ (by exact hA.below ht) HX.out hn).mono ?_
    rintro e w1 ⟨rfl, hb⟩
    rw [HC.out]
    replace ht := below_then ht hb ht.size
    go_wp2
    go_ret2
    exact ⟨by rw [HR.out]; rfl, ht⟩
  · have HC := Lib.hid hc
    have hp := camp_parts hc
    have hok := hp.1
    have hn6 := hok.six
    have hn1 := hok.one
    have htt := hok.torches
    have hss := hok.seats
    have hmm : bs.length = n := by have := hp.2.1; omega
    have huu := hp.2.2
    have HM := Lib.hid hmm
    have HR : Hid (canRnd xs s t bs u (rowNums rs) = canG n s t bs u (rowNums rs)) := by show _ = _; rw [canRnd, hc, Bool.true_and, hx]
    rw [hx] at hn6 hn1
    clear hc hx hp hok hmm
    go_enter Try.func49, Try.ntmps49
    go_wp2_with fail
    refine (toCamp_any8 A n c xs s t B _ d u _ (by exact hA.below ht) HX.out hn).mono ?_
    rintro e w1 ⟨rfl, hb⟩
    rw [HC.out]
    replace ht := below_then ht hb ht.size
    replace h0 := h0.below hb
    replace h1 := h1.below hb
    clear hb c0 c1 c2 d0 d1
    obtain ⟨c0, c1, c2⟩ := h0.cells3
    obtain ⟨d0, d1, -, -⟩ := h1.two
    go_wp2_with fail
    refine (toCan_any A n c xs s t B _ d bs u D q z rs _ (by omega) hn1 (by omega) (by exact hB.below ht) rfl HM.out (by omega) (by exact hD.below ht) hz hq (by omega)).mono ?_
    rintro e w2 ⟨rfl, hb⟩
    replace ht := below_then ht hb ht.size
    clear hb c0 c1 c2 d0 d1
    go_wp2
    go_ret2
    exact ⟨by rw [HR.out]; rfl, ht⟩

set_option maxHeartbeats 3200000 in
set_option maxRecDepth 100000 in
set_option linter.unusedVariables false in
theorem implCanRound_any (A : Option Addr) (n c : Nat) (xs : List Int) (s t : Int) (B : Option Addr) (m d : Nat) (bs : List Bool) (u : Int) (D : Option Addr) (q z : Nat) (rs : List RowV) (w : World) (hA : Holds w A (nums xs)) (hx : xs.length = n) (hn : n ≤ 9223372036854775807) (hB : Holds w B (bits bs)) (hy : bs.length = m) (hm : m ≤ 9223372036854775807) (hD : Grid w D rs) (hz : rs.length = q) (hq : q ≤ 1048576) :
    Calls Try.prog 51 #[.agg #[.slice A n c, .int .i64 s, .int .i64 t], .agg #[.slice B m d, .int .i64 u], .slice D q z] w fun e w' => e = .returned (.tuple #[.bool (canRnd xs s t bs u (rowNums rs)), .bool (isCamp xs s t bs.length u)]) ∧ Below w.heap.size w w' := by
  subst hy
  have HX := Lib.hid hx
  have h0 := (Whole.fresh w 48 #[.slice A n c, .int .i64 s, .int .i64 t]).alloc (.cells #[.slice B bs.length d, .int .i64 u] 56)
  have h1 := Whole.fresh (w.alloc (.cells #[.slice A n c, .int .i64 s, .int .i64 t] 48)) 56 #[.slice B bs.length d, .int .i64 u]
  rw [World.size_alloc] at h1
  have ht := below2 w (.cells #[.slice A n c, .int .i64 s, .int .i64 t] 48) (.cells #[.slice B bs.length d, .int .i64 u] 56)
  obtain ⟨c0, c1, c2⟩ := h0.cells3
  obtain ⟨d0, d1, -, -⟩ := h1.two
  clear hx
  go_enter Try.func51, Try.ntmps51
  go_wp2_with fail
  refine (siteOf_any A n c xs s t B _ d bs u _ (by exact hA.below ht) HX.out hn (by exact hB.below ht) rfl hm).mono ?_
  rintro e w1 ⟨⟨hc, rfl⟩ | ⟨hc, rfl⟩, hb⟩
  rotate_left
  · have HC := Lib.hid hc
    have HR : Hid (canRnd xs s t bs u (rowNums rs) = false) := by show _ = _; rw [canRnd, hc, Bool.false_and]
    replace ht := below_then ht hb ht.size
    clear hc hb c0 c1 c2 d0 d1
    unfold siteCells
    go_wp2
    go_ret2
    exact ⟨by rw [HR.out, HC.out]; rfl, by with_reducible first | exact ht | exact ht.alloc ht.size _⟩
  have HC := Lib.hid hc
  have hp := camp_parts hc
  have hok := hp.1
  have hxl := HX.out
  have hn6 := hok.six
  have htt := hok.torches
  have huu := hp.2.2
  have HR : Hid (canRnd xs s t bs u (rowNums rs) = canG n s t bs u (rowNums rs)) := by show _ = _; rw [canRnd, hc, Bool.true_and, hxl]
  rw [hxl] at hn6
  obtain ⟨f, hf⟩ : ∃ f : Nat → Bool, f = fun i => bs.getD i false := ⟨_, rfl⟩
  have HSF : Hid (siteCells bs u = si9 f u) := by show _ = _; rw [si9_of, hf]
  rw [HSF.out]
  replace ht := below_then ht hb ht.size
  replace h0 := h0.below hb
  clear hc hp hok hxl hb c0 c1 c2 d0 d1 h1
  obtain ⟨c0, c1, c2⟩ := h0.cells3
  have hl0 := h0.lt
  have hs := Whole.fresh w1 103 (si9 f u)
  obtain ⟨s0, s1, s2, s3, s4, s5, s6, s7, s8⟩ := siteS hs
  have ht2 := ht.alloc ht.size (.cells (si9 f u) 103)
  have hri := roundIn9_any A n c xs s t bs f hf u D q z rs (w1.alloc (.cells (si9 f u) 103)) (hA.below ht2) HX.out (by omega) (by omega) (by omega) (hD.below ht2) hz (by omega)
  clear hs hf
  unfold si9 at s0 s1 s2 s3 s4 s5 s6 s7 s8 ht2 hri
  unfold si9
  go_wp2_with fail
  refine hri.mono ?_
  clear hri
  rintro e w2 ⟨⟨hg, T, r, rfl, -⟩ | ⟨hg, rfl⟩, hb⟩
  all_goals
    have HG := Lib.hid hg
    replace ht2 := below_then ht2 hb ht2.size
    clear hg hb c0 c1 c2 s0 s1 s2 s3 s4 s5 s6 s7 s8 h0
    go_wp2
    go_ret2
    exact ⟨by rw [HR.out, HG.out, HC.out]; rfl, by with_reducible first | exact ht2 | exact ht2.alloc ht2.size _⟩

theorem specCanRound_on (A : Option Addr) (n c : Nat) (xs : List Int) (s t : Int) (B : Option Addr) (m d : Nat) (bs : List Bool) (u : Int) (D : Option Addr) (q z : Nat) (rs : List RowV) (w : World) (hA : Holds w A (nums xs)) (hx : xs.length = n) (hn : n ≤ 9223372036854775807) (hB : Holds w B (bits bs)) (hy : bs.length = m) (hm : m ≤ 9223372036854775807) (hD : Grid w D rs) (hz : rs.length = q) (hq : q ≤ 1048576) (ls : List (List Int)) (he : rowNums rs = ls) :
    Calls Try.prog 49 #[.agg #[.slice A n c, .int .i64 s, .int .i64 t], .agg #[.slice B m d, .int .i64 u], .slice D q z] w fun e w' => e = .returned (.tuple #[.bool (canRnd xs s t bs u ls), .bool (isCamp xs s t bs.length u)]) ∧ Below w.heap.size w w' := by
  subst he
  exact specCanRound_any A n c xs s t B m d bs u D q z rs w hA hx hn hB hy hm hD hz hq
theorem implCanRound_on (A : Option Addr) (n c : Nat) (xs : List Int) (s t : Int) (B : Option Addr) (m d : Nat) (bs : List Bool) (u : Int) (D : Option Addr) (q z : Nat) (rs : List RowV) (w : World) (hA : Holds w A (nums xs)) (hx : xs.length = n) (hn : n ≤ 9223372036854775807) (hB : Holds w B (bits bs)) (hy : bs.length = m) (hm : m ≤ 9223372036854775807) (hD : Grid w D rs) (hz : rs.length = q) (hq : q ≤ 1048576) (ls : List (List Int)) (he : rowNums rs = ls) :
    Calls Try.prog 51 #[.agg #[.slice A n c, .int .i64 s, .int .i64 t], .agg #[.slice B m d, .int .i64 u], .slice D q z] w fun e w' => e = .returned (.tuple #[.bool (canRnd xs s t bs u ls), .bool (isCamp xs s t bs.length u)]) ∧ Below w.heap.size w w' := by
  subst he
  exact implCanRound_any A n c xs s t B m d bs u D q z rs w hA hx hn hB hy hm hD hz hq
end Go.Proofs.Ytifaadjbkbdbnaa

namespace Go.Proofs.Ytifaadjbkbdbnaa
open Go.RowKit

/-- The same place with other numbers. -/
def RowV.put (r : RowV) (ys : List Int) : RowV := ⟨r.A, r.n, r.c, ys⟩
/-- Rows of the call's own, each in a range of blocks that no other one meets. -/
def FreeRows (w : World) (ps : List (Nat × Nat)) (rs : List RowV) : Prop :=
  ps.length = rs.length ∧ (∀ (k : Nat) r p, rs[k]? = some r → ps[k]? = some p → Fresh w p.1 p.2 3 r.A (nums r.xs) ∧ r.xs.length = r.n ∧ r.n ≤ 1048576) ∧
    ∀ (i j : Nat) p p', i ≠ j → ps[i]? = some p → ps[j]? = some p' → p.2 ≤ p'.1 ∨ p'.2 ≤ p.1
/-- A list of lists of the call's own, all of it in blocks from lo on and before hi. -/
def FreeGrid (w : World) (lo hi : Nat) (A : Option Addr) (rs : List RowV) : Prop :=
  ∃ ps, FreeRows w ps rs ∧ (∀ p ∈ ps, lo ≤ p.1 ∧ p.2 ≤ hi) ∧ (rs = [] ∨ ∃ b o, A = some ⟨b, o, none⟩ ∧ b < w.heap.size ∧ lo ≤ b ∧ b < hi ∧ (∀ p ∈ ps, b < p.1 ∨ p.2 ≤ b) ∧ ∀ j u, (rowVals rs)[j]? = some u → w.cell? ⟨b, o + j, none⟩ = some u)
section
variable {w w' : World} {lo hi lo' hi' : Nat} {A : Option Addr} {rs : List RowV} {ps : List (Nat × Nat)}
theorem FreeRows.below (h : FreeRows w ps rs) (hb : Below w.heap.size w w') : FreeRows w' ps rs :=
  ⟨h.1, fun k r p hr hp => ⟨(h.2.1 k r p hr hp).1.below hb, (h.2.1 k r p hr hp).2⟩, h.2.2⟩
theorem FreeGrid.below (h : FreeGrid w lo hi A rs) (hb : Below w.heap.size w w') : FreeGrid w' lo hi A rs := by
  obtain ⟨ps, h1, h2, h3⟩ := h
  refine ⟨ps, h1.below hb, h2, ?_⟩
  rcases h3 with h3 | ⟨b, o, hA, hl, g1, g2, hd, hc⟩
  · exact .inl h3
  · exact .inr ⟨b, o, hA, Nat.lt_of_lt_of_le hl hb.size, g1, g2, hd, fun j u hu => (hb.cell (p := ⟨b, o + j, none⟩) hl).trans (hc j u hu)⟩
theorem FreeGrid.alloc (h : FreeGrid w lo hi A rs) (o : Obj) : FreeGrid (w.alloc o) lo hi A rs := h.below (below1 w o)
theorem FreeGrid.drew (h : FreeGrid w lo hi A rs) : FreeGrid w.drew lo hi A rs := h.below ⟨rfl, rfl, rfl, Nat.le_refl _, fun _ _ => rfl⟩
theorem FreeGrid.more (h : FreeGrid w lo hi A rs) (h1 : lo' ≤ lo) (h2 : hi ≤ hi') : FreeGrid w lo' hi' A rs := by
  obtain ⟨ps, g1, g2, g3⟩ := h
  refine ⟨ps, g1, fun p hp => ⟨Nat.le_trans h1 (g2 p hp).1, Nat.le_trans (g2 p hp).2 h2⟩, ?_⟩
  rcases g3 with g3 | ⟨b, o, hA, hl, k1, k2, hd, hc⟩
  · exact .inl g3
  · exact .inr ⟨b, o, hA, hl, Nat.le_trans h1 k1, Nat.lt_of_lt_of_le k2 h2, hd, hc⟩
theorem FreeGrid.grid (h : FreeGrid w lo hi A rs) : Grid w A rs := by
  obtain ⟨ps, g1, g2, g3⟩ := h
  refine ⟨?_, fun r hr => ?_⟩
  · rcases g3 with rfl | ⟨b, o, hA, hl, -, -, -, hc⟩
    · exact .inl rfl
    · exact .inr ⟨b, o, hA, hl, hc⟩
  · obtain ⟨k, hk, rfl⟩ := List.getElem_of_mem hr
    obtain ⟨a1, a2, a3⟩ := g1.2.1 k rs[k] (ps[k]'(by rw [g1.1]; exact hk)) (List.getElem?_eq_getElem hk) (List.getElem?_eq_getElem (by rw [g1.1]; exact hk))
    exact ⟨a1.holds, a2, by omega⟩
theorem Span.wider (h : Span lo' hi' w w') (h1 : lo ≤ lo') (h2 : hi' ≤ hi) : Span lo hi w w' := ⟨h.os, h.tape, h.output, h.size, fun k hk hd => h.block k hk (by omega)⟩
theorem Span.cell (h : Span lo hi w w') {p : Addr} (hl : p.block < w.heap.size) (hg : p.block < lo ∨ hi ≤ p.block) : w'.cell? p = w.cell? p := by
  unfold World.cell?
  rw [h.block p.block hl hg]
theorem Span.freeRows (h : Span lo hi w w') (hf : FreeRows w ps rs) (hd : ∀ p ∈ ps, p.2 ≤ lo ∨ hi ≤ p.1) : FreeRows w' ps rs :=
  ⟨hf.1, fun k r p hr hp => ⟨h.fresh (hf.2.1 k r p hr hp).1 (hd p (List.mem_of_getElem? hp)), (hf.2.1 k r p hr hp).2⟩, hf.2.2⟩
theorem Span.freeGrid (h : Span lo hi w w') (hf : FreeGrid w lo' hi' A rs) (hd : hi' ≤ lo ∨ hi ≤ lo') : FreeGrid w' lo' hi' A rs := by
  obtain ⟨ps, g1, g2, g3⟩ := hf
  refine ⟨ps, h.freeRows g1 (fun p hp => by have := g2 p hp; omega), g2, ?_⟩
  rcases g3 with g3 | ⟨b, o, hA, hl, k1, k2, hdd, hc⟩
  · exact .inl g3
  · exact .inr ⟨b, o, hA, Nat.lt_of_lt_of_le hl h.size, k1, k2, hdd, fun j u hu => (h.cell (p := ⟨b, o + j, none⟩) hl (by show b < lo ∨ hi ≤ b; omega)).trans (hc j u hu)⟩
/-- Behind a row that has turned: the others stand as they were. -/
theorem FreeRows.turn (h : FreeRows w ps rs) {k : Nat} {r : RowV} {p : Nat × Nat} (hr : rs[k]? = some r) (hp : ps[k]? = some p) (hs : Span p.1 p.2 w w') {ys : List Int} (hf : Fresh w' p.1 p.2 3 r.A (nums ys)) (hy : ys.length = r.n) : FreeRows w' ps (rs.set k (r.put ys)) := by
  refine ⟨by simp [h.1], fun i r' p' hi hp' => ?_, h.2.2⟩
  rw [List.getElem?_set] at hi
  by_cases he : k = i
  · subst he
    obtain rfl : p = p' := by rw [hp] at hp'; exact Option.some.inj hp'
    rw [if_pos rfl] at hi
    split at hi
    · obtain rfl := Option.some.inj hi
      exact ⟨hf, hy, (h.2.1 k r p hr hp).2.2⟩
    · cases hi
  · rw [if_neg he] at hi
    exact ⟨hs.fresh (h.2.1 i r' p' hi hp').1 (by have := h.2.2 i k p' p (fun e => he e.symm) hp' hp; omega), (h.2.1 i r' p' hi hp').2⟩
theorem FreeGrid.turn (h : FreeGrid w lo hi A rs) {k : Nat} (hk : k < rs.length) : ∃ a b, lo ≤ a ∧ b ≤ hi ∧ Fresh w a b 3 rs[k].A (nums rs[k].xs) ∧ rs[k].xs.length = rs[k].n ∧ rs[k].n ≤ 1048576 ∧
    ∀ w' ys, Span a b w w' → Fresh w' a b 3 rs[k].A (nums ys) → ys.length = rs[k].n → FreeGrid w' lo hi A (rs.set k (rs[k].put ys)) := by
  obtain ⟨ps, g1, g2, g3⟩ := h
  have hk' : k < ps.length := by rw [g1.1]; exact hk
  have e1 : rs[k]? = some rs[k] := List.getElem?_eq_getElem hk
  have e2 : ps[k]? = some ps[k] := List.getElem?_eq_getElem hk'
  have hb := g2 _ (List.getElem_mem hk')
  obtain ⟨f1, f2, f3⟩ := g1.2.1 k _ _ e1 e2
  refine ⟨ps[k].1, ps[k].2, hb.1, hb.2, f1, f2, f3, fun w' ys hs hf hy => ⟨ps, g1.turn e1 e2 hs hf hy, g2, ?_⟩⟩
  rcases g3 with g3 | ⟨b, o, hA, hl, k1, k2, hdd, hc⟩
  · subst g3; simp at hk
  · refine .inr ⟨b, o, hA, Nat.lt_of_lt_of_le hl hs.size, k1, k2, hdd, fun j u hu => (hs.cell (p := ⟨b, o + j, none⟩) hl (by have := hdd _ (List.getElem_mem hk'); show b < ps[k].1 ∨ ps[k].2 ≤ b; omega)).trans (hc j u ?_)⟩
    rw [← hu]
    simp only [rowVals, List.getElem?_map, List.getElem?_set]
    by_cases he : k = j
    · subst he
      rw [if_pos rfl, if_pos hk, e1]
      rfl
    · rw [if_neg he]
end
/-- The ranges of lists that lie one behind the other. -/
theorem OwnRows.free {w : World} : ∀ {rs : List RowV} {lo hi : Nat}, OwnRows w lo hi rs → ∃ ps, FreeRows w ps rs ∧ ∀ p ∈ ps, lo ≤ p.1 ∧ p.2 ≤ hi
  | [], _, _, _ => ⟨[], ⟨rfl, fun k r p hr => by simp at hr, fun i j p p' _ hi => by simp at hi⟩, fun p hp => by cases hp⟩
  | r :: rs, lo, hi, ⟨mid, h1, hf, hl, hn, h2⟩ => by
    obtain ⟨ps, g, hg⟩ := h2.free
    have hle := h2.le
    refine ⟨(lo, mid) :: ps, ⟨by simp [g.1], fun k r' p hr hp => ?_, fun i j p p' hij hi hj => ?_⟩, fun p hp => ?_⟩
    · cases k with
      | zero => simp only [List.getElem?_cons_zero, Option.some.injEq] at hr hp; subst hr hp; exact ⟨hf, hl, hn⟩
      | succ k => simp only [List.getElem?_cons_succ] at hr hp; exact g.2.1 k r' p hr hp
    · cases i with
      | zero =>
        cases j with
        | zero => exact absurd rfl hij
        | succ j =>
          simp only [List.getElem?_cons_zero, List.getElem?_cons_succ, Option.some.injEq] at hi hj
          subst hi
          exact .inl (hg p' (List.mem_of_getElem? hj)).1
      | succ i =>
        cases j with
        | zero =>
          simp only [List.getElem?_cons_zero, List.getElem?_cons_succ, Option.some.injEq] at hi hj
          subst hj
          exact .inr (hg p (List.mem_of_getElem? hi)).1
        | succ j =>
          simp only [List.getElem?_cons_succ] at hi hj
          exact g.2.2 i j p p' (by omega) hi hj
    · rcases List.mem_cons.1 hp with rfl | hp
      · exact ⟨Nat.le_refl _, hle⟩
      · exact ⟨Nat.le_trans h1 (hg p hp).1, (hg p hp).2⟩
theorem OwnGrid.free {w : World} {g hi : Nat} {rs : List RowV} (h : OwnGrid w g hi rs) : FreeGrid w g hi (some ⟨g, 0, none⟩) rs := by
  obtain ⟨ps, h1, h2⟩ := h.2.free
  refine ⟨ps, h1, fun p hp => ⟨by have := (h2 p hp).1; omega, (h2 p hp).2⟩, .inr ⟨g, 0, rfl, h.1.lt, Nat.le_refl _, h.2.le, fun p hp => .inl (h2 p hp).1, fun j u hu => ?_⟩⟩
  rw [Nat.zero_add, h.1.cell j]
  simpa using hu

theorem part_sum {rs : List RowV} : part rs rs.length = (rs.map RowV.n).sum := by simp [part]
theorem part_nums {w : World} {A B : Option Addr} {rs ss : List RowV} (hA : Grid w A rs) {w' : World} (hB : Grid w' B ss) (h : rowNums rs = rowNums ss) : part rs rs.length = part ss ss.length := by
  rw [part_sum, part_sum]
  have e : ∀ {u : World} {C : Option Addr} {ts : List RowV}, Grid u C ts → ts.map RowV.n = (rowNums ts).map List.length := by
    intro u C ts hC
    rw [rowNums, List.map_map]
    exact List.map_congr_left fun r hr => (hC.2 r hr).2.1.symm
  rw [e hA, e hB, h]
theorem part_total (rs : List RowV) : part rs rs.length ≤ total rs := by unfold total; omega

/-- The first k lists overwritten by a count from q on. -/
def markTo (q : Int) (rs : List RowV) (k : Nat) : List RowV := (List.range rs.length).map fun j => if j < k then (rs.getD j ⟨none, 0, 0, []⟩).put (marksI (q + part rs j) (rs.getD j ⟨none, 0, 0, []⟩).n) else rs.getD j ⟨none, 0, 0, []⟩
theorem markTo_len (q : Int) (rs : List RowV) (k : Nat) : (markTo q rs k).length = rs.length := by simp [markTo]
theorem markTo_zero (q : Int) (rs : List RowV) : markTo q rs 0 = rs := by
  apply List.ext_getElem
  · simp [markTo]
  · intro i h1 h2
    simp [markTo, h2]
theorem markTo_at (q : Int) (rs : List RowV) (k i : Nat) (h : i < (markTo q rs k).length) : (markTo q rs k)[i] = if i < k then (rs[i]'(by rw [markTo_len] at h; exact h)).put (marksI (q + part rs i) (rs[i]'(by rw [markTo_len] at h; exact h)).n) else rs[i]'(by rw [markTo_len] at h; exact h) := by
  have h' : i < rs.length := by rw [markTo_len] at h; exact h
  simp [markTo, h']
theorem markTo_here (q : Int) (rs : List RowV) (k : Nat) (h : k < (markTo q rs k).length) : (markTo q rs k)[k] = rs[k]'(by rw [markTo_len] at h; exact h) := by
  rw [markTo_at, if_neg (by omega)]
theorem markTo_next (q : Int) (rs : List RowV) {k : Nat} (h : k < rs.length) : (markTo q rs k).set k (rs[k].put (marksI (q + part rs k) rs[k].n)) = markTo q rs (k + 1) := by
  apply List.ext_getElem
  · simp [markTo_len]
  · intro i h1 h2
    rw [List.getElem_set]
    by_cases he : k = i
    · subst he
      rw [if_pos rfl, markTo_at, if_pos (by omega)]
    · rw [if_neg he, markTo_at, markTo_at]
      by_cases hi : i < k
      · rw [if_pos hi, if_pos (by omega)]
      · rw [if_neg hi, if_neg (by omega)]

set_option maxHeartbeats 800000 in
theorem markIntSS_any (A : Option Addr) (n c lo hi : Nat) (rs : List RowV) (q : Int) (w : World) (hf : FreeGrid w lo hi A rs) (hx : rs.length = n) (h0 : 0 ≤ q) (h1 : q ≤ 2305843009213693952) (hn : n ≤ 1048576) (hp : part rs rs.length ≤ 1048576) :
    Calls Try.prog 26 #[.slice A n c, .int .i64 q] w fun e w' => e = .returned (.int .i64 (q + (part rs rs.length : Nat))) ∧ Span lo hi w w' ∧ FreeGrid w' lo hi A (markTo q rs rs.length) := by
  have HX := Lib.hid hx
  have HM : Hid (FreeGrid w lo hi A (markTo q rs 0)) := by show FreeGrid _ _ _ _ _; rw [markTo_zero]; exact hf
  clear hx hf
  go_enter Try.func26, Try.ntmps26
  go_wp2
  go_loopw [1, 5] (fun v i wr => ∃ k : Nat, k ≤ n ∧ i = .int .i64 k ∧ v = .int .i64 (q + part rs k) ∧ FreeGrid wr lo hi A (markTo q rs k) ∧ Span lo hi w wr) (fun _ i _ => n - (intOf i).toNat)
  case atStart => exact ⟨0, Nat.zero_le _, rfl, by simp [part_zero], HM.out, Span.refl _ _ _⟩
  case round =>
    obtain ⟨k, hk, rfl, rfl, hm, hs⟩ := hrel
    clear HM
    by_cases hlt : k < n
    · have hkr : k < rs.length := by have := HX.out; omega
      have hkm : k < (markTo q rs k).length := by rw [markTo_len]; exact hkr
      obtain ⟨b, o, rfl, hb, hc, hok⟩ := hm.grid.look hkm
      obtain ⟨lo1, hi1, l1, l2, hf, hl, hs1, hturn⟩ := hm.turn hkm
      have hpl := part_le (rs := rs) (Nat.le_refl _) (j := k) (by omega)
      have hpn := part_next hkr
      have HPN := Lib.hid hpn
      have HT := Lib.hid hturn
      have HN := Lib.hid (markTo_next q rs hkr)
      have HF := Lib.hid hf
      have HL := Lib.hid hl
      have HE := Lib.hid (markTo_here q rs k hkm)
      rw [HE.out] at hc
      rw [HE.out] at hs1
      have HS := Lib.hid hs
      clear hm hf hl hturn hok hpn hs
      have hq0 : (0 : Int) ≤ q + part rs k := by omega
      have hq1 : q + (part rs k : Int) ≤ 4611686018427387904 := by omega
      go_wp2_with fail
      refine (markIntS_any rs[k].A rs[k].n _ lo1 hi1 (nums rs[k].xs) _ _ (by rw [← HE.out]; exact HF.out) (by rw [nums_len, ← HE.out]; exact HL.out) hq0 hq1 hs1).mono ?_
      rintro e w1 ⟨rfl, hs2, hf2⟩
      have hsz : Span lo hi w w1 := HS.out.trans (hs2.wider l1 l2)
      have HG : Hid (FreeGrid w1 lo hi (some ⟨b, o, none⟩) (markTo q rs (k + 1))) := by
        show FreeGrid _ _ _ _ _
        rw [← HN.out]
        have h := HT.out w1 (marksI (q + part rs k) rs[k].n) hs2 (by rw [HE.out]; exact hf2) (by rw [marksI_len, HE.out])
        rw [HE.out] at h
        exact h
      clear hs2 hf2 HT
      go_wp2
      go_roundw
      case rel => exact ⟨k + 1, by omega, by go_num, by rw [HPN.out]; first | exact congrArg _ (by omega) | (simp; omega), HG.out, hsz⟩
      case measure => simp [intOf]; omega
    · have hkn : k = rs.length := by have := HX.out; omega
      subst hkn
      go_wp2
      go_ret
      exact ⟨rfl, hs, hm⟩

set_option maxHeartbeats 800000 in
theorem heldIntSS_any (A : Option Addr) (n c : Nat) (rs : List RowV) (q : Int) (w : World) (hA : Grid w A (markTo q rs rs.length)) (hx : rs.length = n) (h0 : 0 ≤ q) (h1 : q ≤ 2305843009213693952) (hn : n ≤ 1048576) (hp : part rs rs.length ≤ 1048576) :
    Calls Try.prog 27 #[.slice A n c, .int .i64 q] w fun e w' => e = .returned (.int .i64 (q + (part rs rs.length : Nat))) ∧ Below w.heap.size w w' := by
  have HX := Lib.hid hx
  clear hx
  go_enter Try.func27, Try.ntmps27
  go_wp2
  go_loop [1, 5] (fun v i => ∃ k : Nat, k ≤ n ∧ i = .int .i64 k ∧ v = .int .i64 (q + part rs k)) (fun _ i => n - (intOf i).toNat)
  case atStart => exact ⟨0, Nat.zero_le _, rfl, by simp [part_zero]⟩
  case round =>
    obtain ⟨k, hk, rfl, rfl⟩ := hrel
    by_cases hlt : k < n
    · have hkr : k < rs.length := by have := HX.out; omega
      have hkm : k < (markTo q rs rs.length).length := by rw [markTo_len]; exact hkr
      obtain ⟨b, o, rfl, hb, hc, hok⟩ := hA.look hkm
      have he : (markTo q rs rs.length)[k] = (rs[k].put (marksI (q + part rs k) rs[k].n)) := by rw [markTo_at, if_pos hkr]
      rw [he] at hc hok
      have hpl := part_le (rs := rs) (Nat.le_refl _) (j := k + 1) (by omega)
      have hpn := part_next hkr
      have hs1 : rs[k].n ≤ 1048576 := by omega
      have HPN := Lib.hid hpn
      have HOK := Lib.hid hok.1
      have hq0 : (0 : Int) ≤ q + part rs k := by omega
      have hq1 : q + (part rs k : Int) ≤ 4611686018427387904 := by omega
      have hq2 : (0 : Int) ≤ q + part rs k + rs[k].n := by omega
      clear he hok hpn
      simp only [RowV.put] at hc
      go_wp2_with fail
      refine (heldIntS_any rs[k].A rs[k].n _ _ _ HOK.out hq0 hq1 hs1).mono ?_
      rintro e w1 ⟨rfl, rfl⟩
      go_wp2
      go_round
      case rel => exact ⟨k + 1, by omega, by go_num, by rw [HPN.out]; first | exact congrArg _ (by omega) | (simp; omega)⟩
      case measure => simp [intOf]; omega
    · have hkn : k = rs.length := by have := HX.out; omega
      subst hkn
      go_wp2
      go_ret
      exact ⟨rfl, Below.refl _ _⟩
end Go.Proofs.Ytifaadjbkbdbnaa

namespace Go.Proofs.Ytifaadjbkbdbnaa
open Go.RowKit


set_option maxHeartbeats 400000 in
theorem szNight_any (A : Option Addr) (n c : Nat) (s u l : Int) (w : World) (hn : n ≤ 9223372036854775807) (h0 : 0 ≤ l) (h1 : l ≤ 1048576) :
    Calls Try.prog 28 #[.agg #[.slice A n c, .int .i64 s, .int .i64 u], .int .i64 l] w fun e w' => e = .returned (.int .i64 (if l < n then -1 else l - n)) ∧ Below w.heap.size w w' := by
  by_cases h : l < n
  all_goals
    go_enter Try.func28, Try.ntmps28
    go_wp2_with fail
    refine (szIntS_any A n c l _ hn h0 h1).mono ?_
    rintro e w' ⟨rfl, rfl⟩
    first | rw [if_pos (by assumption)] | rw [if_neg (by omega)]
    go_wp2
    go_ret
    exact ⟨rfl, (Below.refl _ _).alloc (Nat.le_refl _) _⟩

set_option maxHeartbeats 400000 in
theorem toNight_any (A : Option Addr) (n c : Nat) (xs : List Int) (s u : Int) (w : World) (hA : Holds w A (nums xs)) (hx : xs.length = n) (hn : n ≤ 1048576) :
    Calls Try.prog 30 #[.agg #[.slice A n c, .int .i64 s, .int .i64 u]] w fun e w' => e = .returned (.agg #[.slice (some ⟨w.heap.size + 1 + 1 + 1, 0, none⟩) n n, .int .i64 s, .int .i64 u]) ∧ Whole w' (w.heap.size + 1 + 1 + 1) 3 (nums xs).toArray ∧ Below w.heap.size w w' := by
  have HX := Lib.hid hx
  clear hx
  go_enter Try.func30, Try.ntmps30
  go_wp2_with fail
  refine (toIntS_any A n c xs _ (((hA.alloc _).alloc _).alloc _) HX.out hn).mono ?_
  rintro e w1 ⟨rfl, hw, hb, hs⟩
  have hy0 := ((Whole.fresh (w.alloc (.cells #[.slice A n c, .int .i64 s, .int .i64 u] 45)) 48 #[.slice none 0 0, .int .i64 0, .int .i64 0]).alloc (.cells #[.slice none 0 0, .int .i64 0, .int .i64 0] 48)).below hb
  have hz0 := (Whole.fresh ((w.alloc (.cells #[.slice A n c, .int .i64 s, .int .i64 u] 45)).alloc (.cells #[.slice none 0 0, .int .i64 0, .int .i64 0] 48)) 48 #[.slice none 0 0, .int .i64 0, .int .i64 0]).below hb
  have ha0 := (((Whole.fresh w 45 #[.slice A n c, .int .i64 s, .int .i64 u]).alloc (.cells #[.slice none 0 0, .int .i64 0, .int .i64 0] 48)).alloc (.cells #[.slice none 0 0, .int .i64 0, .int .i64 0] 48)).below hb
  simp only [World.size_alloc] at hy0 hz0
  obtain ⟨ac0, ac1, ac2⟩ := ha0.cells3
  obtain ⟨yc0, yc1, yc2⟩ := hy0.cells3
  obtain ⟨zc0, zc1, zc2⟩ := hz0.cells3
  have yf0 := hy0.open_ 0
  have yf1 := hy0.open_ 1
  have yf2 := hy0.open_ 2
  have zf0 := hz0.open_ 0
  have zf1 := hz0.open_ 1
  have zf2 := hz0.open_ 2
  have HS := Lib.hid hs
  have hz : w.heap.size + 3 < w1.heap.size := by have := HS.out; simp at this; omega
  clear hs
  have hw' : Whole w1 (w.heap.size + 1 + 1 + 1) 3 (nums xs).toArray := by simpa using hw
  have hb' : Below w.heap.size w w1 := below_then (below3 w _ _ _) hb (by simp; omega)
  clear hw hy0 hz0 ha0 hb hA
  go_wp2
  refine bodyPost_ret (v := .agg #[.slice (some ⟨w.heap.size + 1 + 1 + 1, 0, none⟩) n n, .int .i64 s, .int .i64 u]) (by simp [results, Try.results30, go_sem, yc0, yc1, yc2, zc0, zc1, zc2]) rfl ⟨rfl, ?_, ?_⟩
  · exact (((((hw'.off (by omega)).off (by omega)).off (by omega)).off (by omega)).off (by omega)).off (by omega)
  · exact below_set (below_set (below_set (below_set (below_set (below_set hb' (by omega)) (by omega)) (by omega)) (by omega)) (by omega)) (by omega)

/-- The same, the new row's block told by a letter. -/
theorem toNight_own (A : Option Addr) (n c : Nat) (xs : List Int) (s u : Int) (w : World) (hA : Holds w A (nums xs)) (hx : xs.length = n) (hn : n ≤ 1048576) :
    Calls Try.prog 30 #[.agg #[.slice A n c, .int .i64 s, .int .i64 u]] w fun e w' => ∃ g, e = .returned (.agg #[.slice (some ⟨g, 0, none⟩) n n, .int .i64 s, .int .i64 u]) ∧ w.heap.size ≤ g ∧ Whole w' g 3 (nums xs).toArray ∧ Below w.heap.size w w' :=
  (toNight_any A n c xs s u w hA hx hn).mono fun _ _ ⟨he, hw, hb⟩ => ⟨_, he, by omega, hw, hb⟩

/-- Two parties of one reading are the same. -/
theorem eqNight_yes (A B : Option Addr) (n c d : Nat) (xs : List Int) (s u : Int) (w : World) (hA : Holds w A (nums xs)) (hB : Holds w B (nums xs)) (hx : xs.length = n) (hn : n ≤ 9223372036854775807) :
    Calls Try.prog 32 #[.agg #[.slice A n c, .int .i64 s, .int .i64 u], .agg #[.slice B n d, .int .i64 s, .int .i64 u]] w fun e w' => e = .returned (.bool true) ∧ Below w.heap.size w w' := by
  have HX := Lib.hid hx
  have HI := Lib.hid (sameInts_yes (a := xs) (b := xs) rfl)
  clear hx
  have hss : (s != s) = false := by simp
  have huu : (u != u) = false := by simp
  have hb2 := below2 w (.cells #[.slice A n c, .int .i64 s, .int .i64 u] 48) (.cells #[.slice B n d, .int .i64 s, .int .i64 u] 48)
  go_enter Try.func32, Try.ntmps32
  go_wp2_with fail
  refine (eqIntS_any A B n n c d xs xs _ (by exact hA.below hb2) (by exact hB.below hb2) HX.out HX.out hn hn).mono ?_
  rintro e w1 ⟨rfl, k, rfl⟩
  rw [HI.out]
  go_wp2
  go_ret
  exact ⟨rfl, below_draws hb2 k⟩

set_option maxHeartbeats 400000 in
theorem markNight_any (A : Option Addr) (n c lo hi : Nat) (xs : List Value) (s u q : Int) (w : World) (hf : Fresh w lo hi 3 A xs) (hx : xs.length = n) (h0 : 0 ≤ q) (h1 : q ≤ 4611686018427387904) (hn : n ≤ 1048576) :
    Calls Try.prog 40 #[.agg #[.slice A n c, .int .i64 s, .int .i64 u], .int .i64 q] w fun e w' => e = .returned (.int .i64 (q + n)) ∧ Span lo hi w w' ∧ Fresh w' lo hi 3 A (nums (marksI q n)) := by
  have HX := Lib.hid hx
  clear hx
  go_enter Try.func40, Try.ntmps40
  go_wp2_with fail
  refine (markIntS_any A n c lo hi xs q _ (hf.alloc _) HX.out h0 h1 hn).mono ?_
  rintro e w1 ⟨rfl, hs, hf1⟩
  go_wp2
  go_ret
  exact ⟨rfl, (Span.of_below (below1 w _) lo hi).trans hs, hf1⟩

set_option maxHeartbeats 400000 in
theorem szCamp_any (A : Option Addr) (n c : Nat) (s : Int) (l : Int) (w : World) (hn : n ≤ 9223372036854775807) (h0 : 0 ≤ l) (h1 : l ≤ 1048576) :
    Calls Try.prog 33 #[.agg #[.slice A n c, .int .i64 s], .int .i64 l] w fun e w' => e = .returned (.int .i64 (if l < n then -1 else l - n)) ∧ Below w.heap.size w w' := by
  by_cases h : l < n
  all_goals
    go_enter Try.func33, Try.ntmps33
    go_wp2_with fail
    refine (szBoolS_any A n c l _ hn h0 h1).mono ?_
    rintro e w' ⟨rfl, rfl⟩
    first | rw [if_pos (by assumption)] | rw [if_neg (by omega)]
    go_wp2
    go_ret
    exact ⟨rfl, (Below.refl _ _).alloc (Nat.le_refl _) _⟩

set_option maxHeartbeats 400000 in
theorem toCamp_any (A : Option Addr) (n c : Nat) (xs : List Bool) (s : Int) (w : World) (hA : Holds w A (bits xs)) (hx : xs.length = n) (hn : n ≤ 1048576) :
    Calls Try.prog 35 #[.agg #[.slice A n c, .int .i64 s]] w fun e w' => e = .returned (.agg #[.slice (some ⟨w.heap.size + 1 + 1 + 1, 0, none⟩) n n, .int .i64 s]) ∧ Whole w' (w.heap.size + 1 + 1 + 1) 4 (bits xs).toArray ∧ Below w.heap.size w w' := by
  have HX := Lib.hid hx
  clear hx
  go_enter Try.func35, Try.ntmps35
  go_wp2_with fail
  refine (toBoolS_any A n c xs _ (((hA.alloc _).alloc _).alloc _) HX.out hn).mono ?_
  rintro e w1 ⟨rfl, hw, hb, hs⟩
  obtain ⟨hc, hf⟩ := kept hb
  have HS := Lib.hid hs
  have hz : w.heap.size + 3 < w1.heap.size := by have := HS.out; simp at this; omega
  clear hs
  have hw' : Whole w1 (w.heap.size + 1 + 1 + 1) 4 (bits xs).toArray := by simpa using hw
  have hb' : Below w.heap.size w w1 := below_then (below3 w _ _ _) hb (by simp; omega)
  clear hw
  go_wp2
  refine bodyPost_ret (v := .agg #[.slice (some ⟨w.heap.size + 1 + 1 + 1, 0, none⟩) n n, .int .i64 s]) (by simp [results, Try.results35, go_sem, hc]) rfl ⟨rfl, ?_, ?_⟩
  · exact (((hw'.off (by omega)).off (by omega)).off (by omega)).off (by omega)
  · exact below_set (below_set (below_set (below_set hb' (by omega)) (by omega)) (by omega)) (by omega)

/-- The same, the new row's block told by a letter. -/
theorem toCamp_own (A : Option Addr) (n c : Nat) (xs : List Bool) (s : Int) (w : World) (hA : Holds w A (bits xs)) (hx : xs.length = n) (hn : n ≤ 1048576) :
    Calls Try.prog 35 #[.agg #[.slice A n c, .int .i64 s]] w fun e w' => ∃ g, e = .returned (.agg #[.slice (some ⟨g, 0, none⟩) n n, .int .i64 s]) ∧ w.heap.size ≤ g ∧ Whole w' g 4 (bits xs).toArray ∧ Below w.heap.size w w' :=
  (toCamp_any A n c xs s w hA hx hn).mono fun _ _ ⟨he, hw, hb⟩ => ⟨_, he, by omega, hw, hb⟩

/-- Two parties of one reading are the same. -/
theorem eqCamp_yes (A B : Option Addr) (n c d : Nat) (xs : List Bool) (s : Int) (w : World) (hA : Holds w A (bits xs)) (hB : Holds w B (bits xs)) (hx : xs.length = n) (hn : n ≤ 9223372036854775807) :
    Calls Try.prog 37 #[.agg #[.slice A n c, .int .i64 s], .agg #[.slice B n d, .int .i64 s]] w fun e w' => e = .returned (.bool true) ∧ Below w.heap.size w w' := by
  have HX := Lib.hid hx
  have HI := Lib.hid (sameBits_yes (a := xs) (b := xs) rfl)
  clear hx
  have hss : (s != s) = false := by simp
  have hb2 := below2 w (.cells #[.slice A n c, .int .i64 s] 56) (.cells #[.slice B n d, .int .i64 s] 56)
  go_enter Try.func37, Try.ntmps37
  go_wp2_with fail
  refine (eqBoolS_any A B n n c d xs xs _ (by exact hA.below hb2) (by exact hB.below hb2) HX.out HX.out hn hn).mono ?_
  rintro e w1 ⟨rfl, k, rfl⟩
  rw [HI.out]
  go_wp2
  go_ret
  exact ⟨rfl, below_draws hb2 k⟩

set_option maxHeartbeats 400000 in
theorem markCamp_any (A : Option Addr) (n c lo hi : Nat) (xs : List Value) (t : Int) (q : Int) (w : World) (hf : Fresh w lo hi 4 A xs) (hx : xs.length = n) (h0 : 0 ≤ q) (h1 : q ≤ 4611686018427387904) (hn : n ≤ 1048576) :
    Calls Try.prog 41 #[.agg #[.slice A n c, .int .i64 t], .int .i64 q] w fun e w' => e = .returned (.int .i64 (q + n)) ∧ Span lo hi w w' ∧ Fresh w' lo hi 4 A (bits (marksB q n)) := by
  have HX := Lib.hid hx
  clear hx
  go_enter Try.func41, Try.ntmps41
  go_wp2_with fail
  refine (markBoolS_any A n c lo hi xs q _ (hf.alloc _) HX.out h0 h1 hn).mono ?_
  rintro e w1 ⟨rfl, hs, hf1⟩
  go_wp2
  go_ret
  exact ⟨rfl, (Span.of_below (below1 w _) lo hi).trans hs, hf1⟩

set_option maxHeartbeats 400000 in
theorem heldCamp_any (A : Option Addr) (n c : Nat) (t : Int) (q : Int) (w : World) (hA : Holds w A (bits (marksB q n))) (h0 : 0 ≤ q) (h1 : q ≤ 4611686018427387904) (hn : n ≤ 1048576) :
    Calls Try.prog 42 #[.agg #[.slice A n c, .int .i64 t], .int .i64 q] w fun e w' => e = .returned (.int .i64 (q + n)) ∧ Below w.heap.size w w' := by
  have hq0 : (0 : Int) ≤ q + n := by omega
  go_enter Try.func42, Try.ntmps42
  go_wp2_with fail
  refine (heldBoolS_any A n c q _ (hA.alloc _) h0 h1 hn).mono ?_
  rintro e w1 ⟨rfl, rfl⟩
  go_wp2
  go_ret
  exact ⟨rfl, below1 w _⟩

end Go.Proofs.Ytifaadjbkbdbnaa
