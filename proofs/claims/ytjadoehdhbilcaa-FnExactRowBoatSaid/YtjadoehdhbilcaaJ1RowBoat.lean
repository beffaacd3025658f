/-
  What is proved: a contract of the program's RowBoat. Conditions: the arguments are read as they lie.
  What is proved: the law FnExactRowBoat returns true at every argument, and leaves all that was there as it was. Conditions: the arguments are read as they lie.
-/
import Derived.Deep.DeepCutAuto
import Derived.Deep.RegionHeld3
import Derived.Test.YtjadoehdhbilcaaJ7FirstRows
set_option linter.unusedSimpArgs false
set_option linter.unusedVariables false
namespace Go.Proofs.Ytjadoehdhbilcaa
open Go.RowKit

theorem behind_is (k q gG gC g1 g3 g4 g : Nat) (A D : Option Addr) (c n d : Nat) (bs : List Bool) (t : Bool) (l : List Int) (w : World) (P : Array Value) (ok : Bool) (hk : k ≤ 4) (hbs : bs.length = 2 * k) (hF : RowsFn w k gG gC g1 g3 g4 g A c (groupsOf k q)) (hD : Holds w D (nums l)) (hl : l.length = n) (hn : n ≤ 9223372036854775807)
    (h : (l ∈ rowsIn k q bs t ∧ P = placeCells (flipped bs l) (!t) ∧ ok = true) ∨ (l ∉ rowsIn k q bs t ∧ P = placeCells bs t ∧ ok = false)) :
    Calls Try.prog 56 #[.agg (riverCells k gG gC), .agg (placeCells bs t), .slice D n d] w fun e w' => e = .returned (.tuple #[.agg P, .bool ok]) ∧ Below w.heap.size w w' :=
  (stateBehind_any k q gG gC g1 g3 g4 g A D c n d bs t l w hk hbs hF hD hl hn).mono fun e w' ⟨h1, h2⟩ => by
    refine ⟨?_, h2⟩
    rcases h with ⟨ha, rfl, rfl⟩ | ⟨ha, rfl, rfl⟩ <;> rcases h1 with ⟨hb, rfl⟩ | ⟨hb, rfl⟩
    · rfl
    · exact absurd ha hb
    · exact absurd hb ha
    · rfl
/-- What stands behind the search for the row. -/
def BoatCut (w : World) (k q : Nat) (P : Array Value) (ok : Bool) (v u : Value) (wx : World) : Prop :=
  ∃ g : Nat, v = .bool ok ∧ u = .pointer (some ⟨g, 0, none⟩) ∧ Whole wx g 68 P ∧ Whole wx w.heap.size 31 #[.int .i64 k, .int .i64 q] ∧ Whole wx (w.heap.size + 1 + 1) 33 #[.slice none 0 0, .bool false] ∧ w.heap.size + 1 + 1 < g ∧ Below w.heap.size w wx

set_option maxHeartbeats 12800000 in
set_option maxRecDepth 100000 in
set_option linter.unusedSimpArgs false in
theorem implRowBoat_any (a b : Int) (B D : Option Addr) (m d0 n d : Nat) (bs : List Bool) (t : Bool) (l : List Int) (w : World) (hB : Holds w B (bits bs)) (hD : Holds w D (nums l)) (hy : bs.length = m) (hz : l.length = n) (hm : m ≤ 9223372036854775807) (hn : n ≤ 9223372036854775807) :
    Calls Try.prog 23 #[.agg #[.int .i64 a, .int .i64 b], .agg #[.slice B m d0, .bool t], .slice D n d] w (StatePost (boatBits a b bs t l) (boatTorch a b bs t l) (boatOk a b bs t l) w) := by
  have HY := Lib.hid hy
  have HZ := Lib.hid hz
  have hB2 := ((hB.alloc (.cells #[.int .i64 a, .int .i64 b] 31)).alloc (.cells #[.slice B m d0, .bool t] 33)).alloc (.cells #[.slice none 0 0, .bool false] 33)
  have hD2 := ((hD.alloc (.cells #[.int .i64 a, .int .i64 b] 31)).alloc (.cells #[.slice B m d0, .bool t] 33)).alloc (.cells #[.slice none 0 0, .bool false] 33)
  have hc := ((Whole.fresh w 31 #[.int .i64 a, .int .i64 b]).alloc (.cells #[.slice B m d0, .bool t] 33)).alloc (.cells #[.slice none 0 0, .bool false] 33)
  have hr := Whole.fresh ((w.alloc (.cells #[.int .i64 a, .int .i64 b] 31)).alloc (.cells #[.slice B m d0, .bool t] 33)) 33 #[.slice none 0 0, .bool false]
  have ht := below3 w (.cells #[.int .i64 a, .int .i64 b] 31) (.cells #[.slice B m d0, .bool t] 33) (.cells #[.slice none 0 0, .bool false] 33)
  rw [World.size_alloc, World.size_alloc] at hr
  clear hy hz hB hD
  have hcp := calmPlaceOf_any a b B m d0 bs t _ hB2 HY.out hm
  go_enter Try.func23, Try.ntmps23
  go_wp2_with fail
  refine hcp.mono ?_
  clear hcp
  rintro e w1 ⟨⟨hp1, rfl⟩ | ⟨hp1, rfl⟩, hb⟩
  all_goals
    replace ht := below_then ht hb (by simp; omega)
    replace hc := hc.below hb
    replace hr := hr.below hb
    replace hD2 := hD2.below hb
    have hlr := hr.lt
    clear hb hB2
  rotate_left
  · have HF := Lib.hid (boat_no (l := l) (show boatOk a b bs t l = false by simp [boatOk, calmIn_no hp1]))
    clear hp1
    unfold placeCells
    replace ht := ht.alloc ht.size (.cells #[.bool false, .bool false, .bool false, .bool false, .bool false, .bool false, .bool false, .bool false, .bool false] 68)
    replace hc := hc.alloc (.cells #[.bool false, .bool false, .bool false, .bool false, .bool false, .bool false, .bool false, .bool false, .bool false] 68)
    replace hr := hr.alloc (.cells #[.bool false, .bool false, .bool false, .bool false, .bool false, .bool false, .bool false, .bool false, .bool false] 68)
    go_upto_region 2 with fail
    generalize w1.alloc (.cells #[.bool false, .bool false, .bool false, .bool false, .bool false, .bool false, .bool false, .bool false, .bool false] 68) = W1 at hc hr ht ⊢
    obtain ⟨r0, r1, g0, g1⟩ := hr.two
    have hrl := hr.lt
    clear hc hr
    go_wp2
    refine bodyPost_ret (v := .tuple #[.agg #[.slice none 0 0, .bool false], .bool false]) (by simp [results, Try.results23, go_sem, r0, r1]) rfl (by rw [HF.out.1, HF.out.2.1, HF.out.2.2]; exact ⟨none, 0, rfl, .inl rfl, below_set (below_set ht (by omega)) (by omega)⟩)
  obtain ⟨k, rfl, hk1, hk, hb1, hb4, -, -, hl⟩ := place_co hp1
  obtain ⟨q, rfl⟩ : ∃ q : Nat, b = q := ⟨b.toNat, by omega⟩
  have hq4 : q ≤ 4 := by omega
  have HBS := Lib.hid hl
  obtain ⟨f, hf⟩ : ∃ f : Nat → Bool, f = fun i => bs.getD i false := ⟨_, rfl⟩
  have HPL : Hid (placeCells bs t = place9 f t) := by show _ = _; rw [place_nine9, hf]
  have hp := Whole.fresh w1 68 (place9 f t)
  replace ht := ht.alloc ht.size (.cells (place9 f t) 68)
  replace hc := hc.alloc (.cells (place9 f t) 68)
  replace hr := hr.alloc (.cells (place9 f t) 68)
  replace hD2 := hD2.alloc (.cells (place9 f t) 68)
  rw [HPL.out]
  clear hf
  cases h2 : calmIn k q bs t
  · have HF := Lib.hid (boat_no (l := l) (show boatOk k q bs t l = false by rw [boatOk, h2]; rfl))
    clear hp1 h2 hl hp hD2
    unfold place9 at hc hr ht
    unfold place9
    go_upto_region 2 with fail
    generalize w1.alloc (.cells #[.bool (f 0), .bool (f 1), .bool (f 2), .bool (f 3), .bool (f 4), .bool (f 5), .bool (f 6), .bool (f 7), .bool t] 68) = W1 at hc hr ht ⊢
    obtain ⟨r0, r1, g0, g1⟩ := hr.two
    have hrl := hr.lt
    clear hc hr
    go_wp2
    refine bodyPost_ret (v := .tuple #[.agg #[.slice none 0 0, .bool false], .bool false]) (by simp [results, Try.results23, go_sem, r0, r1]) rfl (by rw [HF.out.1, HF.out.2.1, HF.out.2.2]; exact ⟨none, 0, rfl, .inl rfl, below_set (below_set ht (by omega)) (by omega)⟩)
  obtain ⟨P, ok, hPok⟩ : ∃ (P : Array Value) (ok : Bool), ((l ∈ rowsIn k q bs t ∧ P = placeCells (flipped bs l) (!t) ∧ ok = true) ∨ (l ∉ rowsIn k q bs t ∧ P = placeCells bs t ∧ ok = false)) := by
    by_cases hm : l ∈ rowsIn k q bs t
    · exact ⟨_, _, .inl ⟨hm, rfl, rfl⟩⟩
    · exact ⟨_, _, .inr ⟨hm, rfl, rfl⟩⟩
  have HIS := Lib.hid hPok
  have HSZ : Hid (P.size = 9) := by show _ = _; rcases hPok with ⟨-, rfl, -⟩ | ⟨-, rfl, -⟩ <;> rfl
  have HONE : Hid (P.all (·.oneCell') = true) := by show _ = _; rcases hPok with ⟨-, rfl, -⟩ | ⟨-, rfl, -⟩ <;> exact place_one _ _
  have HOK : Hid (boatOk k q bs t l = ok) := by
    show _ = _
    rw [boatOk, h2, Int.toNat_natCast, trip_rows hk hl]
    rcases hPok with ⟨hm, -, rfl⟩ | ⟨hm, -, rfl⟩ <;> simp [hm]
  obtain ⟨gP, hgP⟩ : ∃ g : Nat, g = w1.heap.size := ⟨_, rfl⟩
  rw [← hgP] at hp
  have hgl : w.heap.size + 1 + 1 < gP := by omega
  clear hp1 h2 hl hPok
  unfold place9 at hc hr hp ht hD2
  unfold place9
  go_upto_region 4 with fail
  rw [← hgP]
  clear hgP
  generalize w1.alloc (.cells #[.bool (f 0), .bool (f 1), .bool (f 2), .bool (f 3), .bool (f 4), .bool (f 5), .bool (f 6), .bool (f 7), .bool t] 68) = W1 at hc hr hp ht hD2 ⊢
  have hpl := hp.lt
  go_cut [9, 10] (fun s9 s10 wx => BoatCut w k q P ok s9 s10 wx)
  case first =>
    refine wp_region_held_drew (S := (CIs w.heap.size gP k q f t)) (by kernel_rfl) (cis_of hc.drew hp.drew) (fun hHeld => ?_)
    replace ht := ht.drew
    replace hc := hc.drew
    replace hp := hp.drew
    replace hr := hr.drew
    replace hD2 := hD2.drew
    refine wpAnyH_take (i := 0) (v := ?_) rfl (by kernel_rfl) (by kernel_rfl) (by kernel_rfl) (fun _ _ _ h => h) (Or.inl ⟨rfl, ?_⟩) hHeld ?_
    rotate_left
    · intro w' hS; obtain ⟨⟨s0, s1⟩, ⟨a0, a1, a2, a3, a4, a5, a6, a7⟩, a8⟩ := hS; go_simp <;> with_reducible rfl
    simp only [Act.put, List.getElem_toArray, List.getElem_cons_succ, List.getElem_cons_zero, List.setIfInBounds_toArray, List.set_cons_succ, List.set_cons_zero]
    refine wpAnyH_take (i := 2) (v := ?_) rfl (by kernel_rfl) (by kernel_rfl) (by kernel_rfl) (fun _ _ _ h => h) (Or.inl ⟨rfl, ?_⟩) hHeld ?_
    rotate_left
    · intro w' hS; obtain ⟨⟨s0, s1⟩, ⟨a0, a1, a2, a3, a4, a5, a6, a7⟩, a8⟩ := hS; go_simp <;> with_reducible rfl
    simp only [Act.put, List.getElem_toArray, List.getElem_cons_succ, List.getElem_cons_zero, List.setIfInBounds_toArray, List.set_cons_succ, List.set_cons_zero]
    refine wpAnyH_take (i := 3) (v := ?_) rfl (by kernel_rfl) (by kernel_rfl) (by kernel_rfl) (fun _ _ _ h => h) (Or.inl ⟨rfl, ?_⟩) hHeld ?_
    rotate_left
    · intro w' hS; obtain ⟨⟨s0, s1⟩, ⟨a0, a1, a2, a3, a4, a5, a6, a7⟩, a8⟩ := hS; go_simp <;> with_reducible rfl
    simp only [Act.put, List.getElem_toArray, List.getElem_cons_succ, List.getElem_cons_zero, List.setIfInBounds_toArray, List.set_cons_succ, List.set_cons_zero]
    refine wpAnyH_ready (rs := [1, 8]) (by kernel_rfl) (by simp) (AllReadyH.cons rfl (fun K hK => ?_) (AllReadyH.cons rfl (fun K hK => ?_) AllReadyH.nil))
    · go_simp
      refine (companyRiver_any k q _ hk hq4).mono ?_
      rintro e w2 ⟨gG, gC, g1, g3, g4, g, A, c, rfl, hF, hb⟩
      replace ht := below_then ht hb ht.size
      replace hc := hc.below hb
      replace hp := hp.below hb
      replace hr := hr.below hb
      replace hD2 := hD2.below hb
      clear hb
      refine hK.out _ _ (cis_of hc hp) (fun hHeld => ?_)
      clear hK K
      try simp only [Act.put, List.getElem_toArray, List.getElem_cons_succ, List.getElem_cons_zero, List.setIfInBounds_toArray, List.set_cons_succ, List.set_cons_zero]
      refine wpAnyH_ready (rs := [4, 8]) (by kernel_rfl) (by simp) (AllReadyH.cons rfl (fun K hK => ?_) (AllReadyH.cons rfl (fun K hK => ?_) AllReadyH.nil))
      · go_simp
        have hsb := behind_is k q gG gC g1 g3 g4 g A D c n d bs t l _ P ok hk HBS.out hF hD2 HZ.out hn HIS.out
        rw [HPL.out] at hsb
        unfold place9 at hsb
        refine hsb.mono ?_
        clear hsb
        rintro e w4 ⟨rfl, hb⟩
        replace ht := below_then ht hb ht.size
        replace hc := hc.below hb
        replace hp := hp.below hb
        replace hr := hr.below hb
        replace hD2 := hD2.below hb
        clear hb
        refine hK.out _ _ (cis_of hc hp) (fun hHeld => ?_)
        clear hK K
        try simp only [Act.put, List.getElem_toArray, List.getElem_cons_succ, List.getElem_cons_zero, List.setIfInBounds_toArray, List.set_cons_succ, List.set_cons_zero]
        refine wpAnyH_take (i := 5) (v := ?_) rfl (by kernel_rfl) (by kernel_rfl) (by kernel_rfl) (fun _ _ _ h => h) (Or.inl ⟨rfl, ?_⟩) hHeld ?_
        rotate_left
        · intro w' hS; obtain ⟨⟨s0, s1⟩, ⟨a0, a1, a2, a3, a4, a5, a6, a7⟩, a8⟩ := hS; go_simp <;> with_reducible rfl
        simp only [Act.put, List.getElem_toArray, List.getElem_cons_succ, List.getElem_cons_zero, List.setIfInBounds_toArray, List.set_cons_succ, List.set_cons_zero]
        refine wpAnyH_take (i := 6) (v := ?_) rfl (by kernel_rfl) (by kernel_rfl) (by kernel_rfl) (fun _ _ _ h => h) (Or.inl ⟨rfl, ?_⟩) hHeld ?_
        rotate_left
        · intro w' hS; obtain ⟨⟨s0, s1⟩, ⟨a0, a1, a2, a3, a4, a5, a6, a7⟩, a8⟩ := hS; go_simp <;> with_reducible rfl
        simp only [Act.put, List.getElem_toArray, List.getElem_cons_succ, List.getElem_cons_zero, List.setIfInBounds_toArray, List.set_cons_succ, List.set_cons_zero]
        refine wpAnyH_take (i := 7) (v := ?_) rfl (by kernel_rfl) (by kernel_rfl) (by kernel_rfl) (fun _ _ _ h => h) (Or.inl ⟨rfl, ?_⟩) hHeld ?_
        rotate_left
        · intro w' hS; obtain ⟨⟨s0, s1⟩, ⟨a0, a1, a2, a3, a4, a5, a6, a7⟩, a8⟩ := hS; go_simp <;> with_reducible rfl
        simp only [Act.put, List.getElem_toArray, List.getElem_cons_succ, List.getElem_cons_zero, List.setIfInBounds_toArray, List.set_cons_succ, List.set_cons_zero]
        refine wpAnyH_ready (rs := [8]) (by kernel_rfl) (by simp) (AllReadyH.cons rfl (fun K hK => ?_) AllReadyH.nil)
        go_simp
        have hx := fresh_of hc 68 #[.bool false, .bool false, .bool false, .bool false, .bool false, .bool false, .bool false, .bool false, .bool false]
        try simp only [World.size_drew] at hx
        have hlx := hr.lt
        have hlp := hp.lt
        try simp only [World.size_drew] at hlx hlp
        replace ht := ht.alloc ht.size (.cells #[.bool false, .bool false, .bool false, .bool false, .bool false, .bool false, .bool false, .bool false, .bool false] 68)
        replace hc := hc.alloc (.cells #[.bool false, .bool false, .bool false, .bool false, .bool false, .bool false, .bool false, .bool false, .bool false] 68)
        replace hp := hp.alloc (.cells #[.bool false, .bool false, .bool false, .bool false, .bool false, .bool false, .bool false, .bool false, .bool false] 68)
        replace hr := hr.alloc (.cells #[.bool false, .bool false, .bool false, .bool false, .bool false, .bool false, .bool false, .bool false, .bool false] 68)
        replace hD2 := hD2.alloc (.cells #[.bool false, .bool false, .bool false, .bool false, .bool false, .bool false, .bool false, .bool false, .bool false] 68)
        replace hF := hF.alloc (.cells #[.bool false, .bool false, .bool false, .bool false, .bool false, .bool false, .bool false, .bool false, .bool false] 68)
        refine hK.out _ _ (cis_of hc hp) (fun hHeld => ?_)
        clear hK K
        try simp only [Act.put, List.getElem_toArray, List.getElem_cons_succ, List.getElem_cons_zero, List.setIfInBounds_toArray, List.set_cons_succ, List.set_cons_zero]
        refine wpAnyH_ready (rs := [9]) (by kernel_rfl) (by simp) (AllReadyH.cons rfl (fun K hK => ?_) AllReadyH.nil)
        have hrl := hr.lt
        refine wp_store_row 68 (.tmp 10) (.tmp 26) rfl w4.heap.size P rfl rfl 68 #[.bool false, .bool false, .bool false, .bool false, .bool false, .bool false, .bool false, .bool false, .bool false] hx (by rw [HSZ.out]; exact size_place) (by rw [HSZ.out]; rfl) HONE.out ?_
        have o9 := only_setRow (w4.alloc (.cells #[.bool false, .bool false, .bool false, .bool false, .bool false, .bool false, .bool false, .bool false, .bool false] 68)) w4.heap.size P
        have x9 := whole_setRow P hx
        have c9 := o9.whole hc (by omega)
        have p9 := o9.whole hp (by omega)
        have r9 := o9.whole hr (by omega)
        have t9 := o9.below ht (by omega)
        generalize World.setRow (w4.alloc (.cells #[.bool false, .bool false, .bool false, .bool false, .bool false, .bool false, .bool false, .bool false, .bool false] 68)) w4.heap.size P = w9 at o9 x9 c9 p9 r9 t9 ⊢
        refine hK.out _ _ (cis_of c9 p9) (fun hHeld => ?_)
        clear hK K
        try simp only [Act.put, List.getElem_toArray, List.getElem_cons_succ, List.getElem_cons_zero, List.setIfInBounds_toArray, List.set_cons_succ, List.set_cons_zero]
        refine wpAnyH_take (i := 10) (v := ?_) rfl (by kernel_rfl) (by kernel_rfl) (by kernel_rfl) (fun _ _ _ h => h) (Or.inl ⟨rfl, ?_⟩) hHeld ?_
        rotate_left
        · intro w' hS; obtain ⟨⟨s0, s1⟩, ⟨a0, a1, a2, a3, a4, a5, a6, a7⟩, a8⟩ := hS; go_simp <;> with_reducible rfl
        simp only [Act.put, List.getElem_toArray, List.getElem_cons_succ, List.getElem_cons_zero, List.setIfInBounds_toArray, List.set_cons_succ, List.set_cons_zero]
        refine wpAnyH_done (by kernel_rfl) ?_ _
        clear hHeld
        go_wp2_with fail
        go_meet
        exact ⟨w4.heap.size, rfl, rfl, x9, c9, r9, by omega, t9⟩
      · go_simp
        have hx := fresh_of hc 68 #[.bool false, .bool false, .bool false, .bool false, .bool false, .bool false, .bool false, .bool false, .bool false]
        try simp only [World.size_drew] at hx
        have hlx := hr.lt
        have hlp := hp.lt
        try simp only [World.size_drew] at hlx hlp
        replace ht := ht.alloc ht.size (.cells #[.bool false, .bool false, .bool false, .bool false, .bool false, .bool false, .bool false, .bool false, .bool false] 68)
        replace hc := hc.alloc (.cells #[.bool false, .bool false, .bool false, .bool false, .bool false, .bool false, .bool false, .bool false, .bool false] 68)
        replace hp := hp.alloc (.cells #[.bool false, .bool false, .bool false, .bool false, .bool false, .bool false, .bool false, .bool false, .bool false] 68)
        replace hr := hr.alloc (.cells #[.bool false, .bool false, .bool false, .bool false, .bool false, .bool false, .bool false, .bool false, .bool false] 68)
        replace hD2 := hD2.alloc (.cells #[.bool false, .bool false, .bool false, .bool false, .bool false, .bool false, .bool false, .bool false, .bool false] 68)
        replace hF := hF.alloc (.cells #[.bool false, .bool false, .bool false, .bool false, .bool false, .bool false, .bool false, .bool false, .bool false] 68)
        refine hK.out _ _ (cis_of hc hp) (fun hHeld => ?_)
        clear hK K
        try simp only [Act.put, List.getElem_toArray, List.getElem_cons_succ, List.getElem_cons_zero, List.setIfInBounds_toArray, List.set_cons_succ, List.set_cons_zero]
        refine wpAnyH_ready (rs := [4]) (by kernel_rfl) (by simp) (AllReadyH.cons rfl (fun K hK => ?_) AllReadyH.nil)
        go_simp
        have hsb := behind_is k q gG gC g1 g3 g4 g A D c n d bs t l _ P ok hk HBS.out hF hD2 HZ.out hn HIS.out
        rw [HPL.out] at hsb
        unfold place9 at hsb
        refine hsb.mono ?_
        clear hsb
        rintro e w4 ⟨rfl, hb⟩
        replace ht := below_then ht hb ht.size
        replace hc := hc.below hb
        replace hp := hp.below hb
        replace hr := hr.below hb
        replace hD2 := hD2.below hb
        replace hx := hx.below hb
        clear hb
        refine hK.out _ _ (cis_of hc hp) (fun hHeld => ?_)
        clear hK K
        try simp only [Act.put, List.getElem_toArray, List.getElem_cons_succ, List.getElem_cons_zero, List.setIfInBounds_toArray, List.set_cons_succ, List.set_cons_zero]
        refine wpAnyH_take (i := 5) (v := ?_) rfl (by kernel_rfl) (by kernel_rfl) (by kernel_rfl) (fun _ _ _ h => h) (Or.inl ⟨rfl, ?_⟩) hHeld ?_
        rotate_left
        · intro w' hS; obtain ⟨⟨s0, s1⟩, ⟨a0, a1, a2, a3, a4, a5, a6, a7⟩, a8⟩ := hS; go_simp <;> with_reducible rfl
        simp only [Act.put, List.getElem_toArray, List.getElem_cons_succ, List.getElem_cons_zero, List.setIfInBounds_toArray, List.set_cons_succ, List.set_cons_zero]
        refine wpAnyH_take (i := 6) (v := ?_) rfl (by kernel_rfl) (by kernel_rfl) (by kernel_rfl) (fun _ _ _ h => h) (Or.inl ⟨rfl, ?_⟩) hHeld ?_
        rotate_left
        · intro w' hS; obtain ⟨⟨s0, s1⟩, ⟨a0, a1, a2, a3, a4, a5, a6, a7⟩, a8⟩ := hS; go_simp <;> with_reducible rfl
        simp only [Act.put, List.getElem_toArray, List.getElem_cons_succ, List.getElem_cons_zero, List.setIfInBounds_toArray, List.set_cons_succ, List.set_cons_zero]
        refine wpAnyH_take (i := 7) (v := ?_) rfl (by kernel_rfl) (by kernel_rfl) (by kernel_rfl) (fun _ _ _ h => h) (Or.inl ⟨rfl, ?_⟩) hHeld ?_
        rotate_left
        · intro w' hS; obtain ⟨⟨s0, s1⟩, ⟨a0, a1, a2, a3, a4, a5, a6, a7⟩, a8⟩ := hS; go_simp <;> with_reducible rfl
        simp only [Act.put, List.getElem_toArray, List.getElem_cons_succ, List.getElem_cons_zero, List.setIfInBounds_toArray, List.set_cons_succ, List.set_cons_zero]
        refine wpAnyH_ready (rs := [9]) (by kernel_rfl) (by simp) (AllReadyH.cons rfl (fun K hK => ?_) AllReadyH.nil)
        have hrl := hr.lt
        refine wp_store_row 68 (.tmp 10) (.tmp 26) rfl w2.heap.size P rfl rfl 68 #[.bool false, .bool false, .bool false, .bool false, .bool false, .bool false, .bool false, .bool false, .bool false] hx (by rw [HSZ.out]; exact size_place) (by rw [HSZ.out]; rfl) HONE.out ?_
        have o9 := only_setRow w4 w2.heap.size P
        have x9 := whole_setRow P hx
        have c9 := o9.whole hc (by omega)
        have p9 := o9.whole hp (by omega)
        have r9 := o9.whole hr (by omega)
        have t9 := o9.below ht (by omega)
        generalize World.setRow w4 w2.heap.size P = w9 at o9 x9 c9 p9 r9 t9 ⊢
        refine hK.out _ _ (cis_of c9 p9) (fun hHeld => ?_)
        clear hK K
        try simp only [Act.put, List.getElem_toArray, List.getElem_cons_succ, List.getElem_cons_zero, List.setIfInBounds_toArray, List.set_cons_succ, List.set_cons_zero]
        refine wpAnyH_take (i := 10) (v := ?_) rfl (by kernel_rfl) (by kernel_rfl) (by kernel_rfl) (fun _ _ _ h => h) (Or.inl ⟨rfl, ?_⟩) hHeld ?_
        rotate_left
        · intro w' hS; obtain ⟨⟨s0, s1⟩, ⟨a0, a1, a2, a3, a4, a5, a6, a7⟩, a8⟩ := hS; go_simp <;> with_reducible rfl
        simp only [Act.put, List.getElem_toArray, List.getElem_cons_succ, List.getElem_cons_zero, List.setIfInBounds_toArray, List.set_cons_succ, List.set_cons_zero]
        refine wpAnyH_done (by kernel_rfl) ?_ _
        clear hHeld
        go_wp2_with fail
        go_meet
        exact ⟨w2.heap.size, rfl, rfl, x9, c9, r9, by omega, t9⟩
    · go_simp
      have hx := fresh_of hc 68 #[.bool false, .bool false, .bool false, .bool false, .bool false, .bool false, .bool false, .bool false, .bool false]
      try simp only [World.size_drew] at hx
      have hlx := hr.lt
      have hlp := hp.lt
      try simp only [World.size_drew] at hlx hlp
      replace ht := ht.alloc ht.size (.cells #[.bool false, .bool false, .bool false, .bool false, .bool false, .bool false, .bool false, .bool false, .bool false] 68)
      replace hc := hc.alloc (.cells #[.bool false, .bool false, .bool false, .bool false, .bool false, .bool false, .bool false, .bool false, .bool false] 68)
      replace hp := hp.alloc (.cells #[.bool false, .bool false, .bool false, .bool false, .bool false, .bool false, .bool false, .bool false, .bool false] 68)
      replace hr := hr.alloc (.cells #[.bool false, .bool false, .bool false, .bool false, .bool false, .bool false, .bool false, .bool false, .bool false] 68)
      replace hD2 := hD2.alloc (.cells #[.bool false, .bool false, .bool false, .bool false, .bool false, .bool false, .bool false, .bool false, .bool false] 68)
      refine hK.out _ _ (cis_of hc hp) (fun hHeld => ?_)
      clear hK K
      try simp only [Act.put, List.getElem_toArray, List.getElem_cons_succ, List.getElem_cons_zero, List.setIfInBounds_toArray, List.set_cons_succ, List.set_cons_zero]
      refine wpAnyH_ready (rs := [1]) (by kernel_rfl) (by simp) (AllReadyH.cons rfl (fun K hK => ?_) AllReadyH.nil)
      go_simp
      refine (companyRiver_any k q _ hk hq4).mono ?_
      rintro e w2 ⟨gG, gC, g1, g3, g4, g, A, c, rfl, hF, hb⟩
      replace ht := below_then ht hb ht.size
      replace hc := hc.below hb
      replace hp := hp.below hb
      replace hr := hr.below hb
      replace hD2 := hD2.below hb
      replace hx := hx.below hb
      clear hb
      refine hK.out _ _ (cis_of hc hp) (fun hHeld => ?_)
      clear hK K
      try simp only [Act.put, List.getElem_toArray, List.getElem_cons_succ, List.getElem_cons_zero, List.setIfInBounds_toArray, List.set_cons_succ, List.set_cons_zero]
      refine wpAnyH_ready (rs := [4]) (by kernel_rfl) (by simp) (AllReadyH.cons rfl (fun K hK => ?_) AllReadyH.nil)
      go_simp
      have hsb := behind_is k q gG gC g1 g3 g4 g A D c n d bs t l _ P ok hk HBS.out hF hD2 HZ.out hn HIS.out
      rw [HPL.out] at hsb
      unfold place9 at hsb
      refine hsb.mono ?_
      clear hsb
      rintro e w4 ⟨rfl, hb⟩
      replace ht := below_then ht hb ht.size
      replace hc := hc.below hb
      replace hp := hp.below hb
      replace hr := hr.below hb
      replace hD2 := hD2.below hb
      replace hx := hx.below hb
      clear hb
      refine hK.out _ _ (cis_of hc hp) (fun hHeld => ?_)
      clear hK K
      try simp only [Act.put, List.getElem_toArray, List.getElem_cons_succ, List.getElem_cons_zero, List.setIfInBounds_toArray, List.set_cons_succ, List.set_cons_zero]
      refine wpAnyH_take (i := 5) (v := ?_) rfl (by kernel_rfl) (by kernel_rfl) (by kernel_rfl) (fun _ _ _ h => h) (Or.inl ⟨rfl, ?_⟩) hHeld ?_
      rotate_left
      · intro w' hS; obtain ⟨⟨s0, s1⟩, ⟨a0, a1, a2, a3, a4, a5, a6, a7⟩, a8⟩ := hS; go_simp <;> with_reducible rfl
      simp only [Act.put, List.getElem_toArray, List.getElem_cons_succ, List.getElem_cons_zero, List.setIfInBounds_toArray, List.set_cons_succ, List.set_cons_zero]
      refine wpAnyH_take (i := 6) (v := ?_) rfl (by kernel_rfl) (by kernel_rfl) (by kernel_rfl) (fun _ _ _ h => h) (Or.inl ⟨rfl, ?_⟩) hHeld ?_
      rotate_left
      · intro w' hS; obtain ⟨⟨s0, s1⟩, ⟨a0, a1, a2, a3, a4, a5, a6, a7⟩, a8⟩ := hS; go_simp <;> with_reducible rfl
      simp only [Act.put, List.getElem_toArray, List.getElem_cons_succ, List.getElem_cons_zero, List.setIfInBounds_toArray, List.set_cons_succ, List.set_cons_zero]
      refine wpAnyH_take (i := 7) (v := ?_) rfl (by kernel_rfl) (by kernel_rfl) (by kernel_rfl) (fun _ _ _ h => h) (Or.inl ⟨rfl, ?_⟩) hHeld ?_
      rotate_left
      · intro w' hS; obtain ⟨⟨s0, s1⟩, ⟨a0, a1, a2, a3, a4, a5, a6, a7⟩, a8⟩ := hS; go_simp <;> with_reducible rfl
      simp only [Act.put, List.getElem_toArray, List.getElem_cons_succ, List.getElem_cons_zero, List.setIfInBounds_toArray, List.set_cons_succ, List.set_cons_zero]
      refine wpAnyH_ready (rs := [9]) (by kernel_rfl) (by simp) (AllReadyH.cons rfl (fun K hK => ?_) AllReadyH.nil)
      have hrl := hr.lt
      refine wp_store_row 68 (.tmp 10) (.tmp 26) rfl W1.heap.size P rfl rfl 68 #[.bool false, .bool false, .bool false, .bool false, .bool false, .bool false, .bool false, .bool false, .bool false] hx (by rw [HSZ.out]; exact size_place) (by rw [HSZ.out]; rfl) HONE.out ?_
      have o9 := only_setRow w4 W1.heap.size P
      have x9 := whole_setRow P hx
      have c9 := o9.whole hc (by omega)
      have p9 := o9.whole hp (by omega)
      have r9 := o9.whole hr (by omega)
      have t9 := o9.below ht (by omega)
      generalize World.setRow w4 W1.heap.size P = w9 at o9 x9 c9 p9 r9 t9 ⊢
      refine hK.out _ _ (cis_of c9 p9) (fun hHeld => ?_)
      clear hK K
      try simp only [Act.put, List.getElem_toArray, List.getElem_cons_succ, List.getElem_cons_zero, List.setIfInBounds_toArray, List.set_cons_succ, List.set_cons_zero]
      refine wpAnyH_take (i := 10) (v := ?_) rfl (by kernel_rfl) (by kernel_rfl) (by kernel_rfl) (fun _ _ _ h => h) (Or.inl ⟨rfl, ?_⟩) hHeld ?_
      rotate_left
      · intro w' hS; obtain ⟨⟨s0, s1⟩, ⟨a0, a1, a2, a3, a4, a5, a6, a7⟩, a8⟩ := hS; go_simp <;> with_reducible rfl
      simp only [Act.put, List.getElem_toArray, List.getElem_cons_succ, List.getElem_cons_zero, List.setIfInBounds_toArray, List.set_cons_succ, List.set_cons_zero]
      refine wpAnyH_done (by kernel_rfl) ?_ _
      clear hHeld
      go_wp2_with fail
      go_meet
      exact ⟨W1.heap.size, rfl, rfl, x9, c9, r9, by omega, t9⟩
  case rest =>
    clear hp hc hr ht hD2 hpl hgl
    obtain ⟨g, rfl, rfl, hx, hc, hr, hg, ht⟩ := hcut
    cases ok
    · have HF := Lib.hid (boat_no HOK.out)
      obtain ⟨r0, r1, g0, g1⟩ := hr.two
      have hrl := hr.lt
      clear hc hr
      go_wp2
      refine bodyPost_ret (v := .tuple #[.agg #[.slice none 0 0, .bool false], .bool false]) (by simp [results, Try.results23, go_sem, r0, r1]) rfl (by rw [HF.out.1, HF.out.2.1, HF.out.2.2]; exact ⟨none, 0, rfl, .inl rfl, below_set (below_set ht (by omega)) (by omega)⟩)
    · have HF := Lib.hid (boat_yes HOK.out)
      have HPC : Hid (P = placeCells (flipped bs l) (!t)) := by
        show _ = _
        rcases HIS.out with ⟨-, h, -⟩ | ⟨-, -, h⟩
        · exact h
        · cases h
      rw [HPC.out] at hx
      have HFL := Lib.hid (show (flipped bs l).length = 2 * k by rw [flipped_len]; exact HBS.out)
      obtain ⟨c0, c1, -, -⟩ := hc.two
      go_wp2_with (refine wpList_load_row rfl 68 (.tmp 10) rfl g rfl 68 (placeCells (flipped bs l) (!t)) (0, 0) _ hx Try.underlying68 rfl size_place ?_)
      have hps := placeState_any (flipped bs l) (!t) (2 * k) wc HFL.out (by omega)
      rw [show ((2 * k : Nat) : Int) = 2 * (k : Int) by omega] at hps
      refine hps.mono ?_
      clear hps
      rintro e w5 ⟨E, r, rfl, hf, hb⟩
      replace ht := below_then ht hb ht.size
      have hlo := hr.lt
      replace hr := hr.below hb
      obtain ⟨r0, r1, g0, g1⟩ := hr.two
      have hFF := ((hf.set_out (b := w.heap.size + 1 + 1) (o := 0) (u := .slice E (flipped bs l).length r) (.inl (by omega))).set_out (b := w.heap.size + 1 + 1) (o := 1) (u := .bool (!t)) (.inl (by omega))).more (lo' := w.heap.size) (hi' := w5.heap.size) (by omega) (Nat.le_refl _)
      have HFF := Lib.hid hFF
      clear hb hr hf hFF hx hc c0 c1
      go_wp2
      refine bodyPost_ret (v := .tuple #[.agg #[.slice E (flipped bs l).length r, .bool (!t)], .bool true]) (by simp [results, Try.results23, go_sem, r0, r1]) rfl ?_
      rw [HF.out.1, HF.out.2.1, HF.out.2.2]
      refine ⟨E, r, rfl, ?_, below_set (below_set ht (by omega)) (by omega)⟩
      have h := HFF.out
      simpa [World.setCell] using h
end Go.Proofs.Ytjadoehdhbilcaa

namespace Go.Proofs.Ytjadoehdhbilcaa
open Go.RowKit

set_option maxHeartbeats 800000 in
set_option linter.unusedVariables false in
theorem lawRowBoat_big0 (k0 : Int) (k1 : Int) (A0 : Option Addr) (n0 c0 : Nat) (x0 : List Bool) (t0 : Bool) (A1 : Option Addr) (n1 c1 : Nat) (x1 : List Int) (w : World) (h0 : Holds w A0 (bits x0)) (hx0 : x0.length = n0) (hn0 : n0 ≤ 9223372036854775807) (h1 : Holds w A1 (nums x1)) (hx1 : x1.length = n1) (hn1 : n1 ≤ 9223372036854775807)  (hbig : (1048576 : Int) < n1) :
    Calls Try.prog 4 #[.agg #[.int .i64 k0, .int .i64 k1], .agg #[.slice A0 n0 c0, .bool t0], .slice A1 n1 c1] w fun e w' => e = .returned (.bool true) ∧ Below w.heap.size w w' := by
  have hb0 := ((Whole.fresh w 23 #[.int .i64 k0, .int .i64 k1]).alloc (.cells #[.slice A0 n0 c0, .bool t0] 26))
  have hb1 := (Whole.fresh (w.alloc (.cells #[.int .i64 k0, .int .i64 k1] 23)) 26 #[.slice A0 n0 c0, .bool t0])
  simp only [World.size_alloc] at hb1
  have ht := below2 w (.cells #[.int .i64 k0, .int .i64 k1] 23) (.cells #[.slice A0 n0 c0, .bool t0] 26)
  have HX0 := Lib.hid hx0
  have HX1 := Lib.hid hx1
  clear hx0 hx1
  obtain ⟨hb0_0, hb0_1⟩ := hb0.cells2
  have hb0_l := hb0.lt
  obtain ⟨hb1_0, hb1_1⟩ := hb1.cells2
  have hb1_l := hb1.lt
  go_enter Try.func4, Try.ntmps4
  go_wp2
  go_ret
  exact ⟨rfl, ht⟩

set_option maxHeartbeats 800000 in
set_option linter.unusedVariables false in
theorem lawRowBoat_big1 (k0 : Int) (k1 : Int) (A0 : Option Addr) (n0 c0 : Nat) (x0 : List Bool) (t0 : Bool) (A1 : Option Addr) (n1 c1 : Nat) (x1 : List Int) (w : World) (h0 : Holds w A0 (bits x0)) (hx0 : x0.length = n0) (hn0 : n0 ≤ 9223372036854775807) (h1 : Holds w A1 (nums x1)) (hx1 : x1.length = n1) (hn1 : n1 ≤ 9223372036854775807) (g0 : (n1 : Int) ≤ 1048576) (hbig : 1048576 - (n0 : Int) < 0) :
    Calls Try.prog 4 #[.agg #[.int .i64 k0, .int .i64 k1], .agg #[.slice A0 n0 c0, .bool t0], .slice A1 n1 c1] w fun e w' => e = .returned (.bool true) ∧ Below w.heap.size w w' := by
  have hb0 := ((Whole.fresh w 23 #[.int .i64 k0, .int .i64 k1]).alloc (.cells #[.slice A0 n0 c0, .bool t0] 26))
  have hb1 := (Whole.fresh (w.alloc (.cells #[.int .i64 k0, .int .i64 k1] 23)) 26 #[.slice A0 n0 c0, .bool t0])
  simp only [World.size_alloc] at hb1
  have ht := below2 w (.cells #[.int .i64 k0, .int .i64 k1] 23) (.cells #[.slice A0 n0 c0, .bool t0] 26)
  have HX0 := Lib.hid hx0
  have HX1 := Lib.hid hx1
  clear hx0 hx1
  obtain ⟨hb0_0, hb0_1⟩ := hb0.cells2
  have hb0_l := hb0.lt
  obtain ⟨hb1_0, hb1_1⟩ := hb1.cells2
  have hb1_l := hb1.lt
  go_enter Try.func4, Try.ntmps4
  go_wp2_with fail
  refine (szState_any A0 n0 c0 t0 (1048576) _ (by omega) (by omega) (by omega)).mono ?_
  rintro e v1 ⟨rfl, hb⟩
  rw [if_pos (by omega)]
  have hz1 : w.heap.size + 1 + 1 ≤ v1.heap.size := by have := hb.size; simpa using this
  replace ht := below_then ht hb ht.size
  replace hb0 := hb0.below hb
  replace hb1 := hb1.below hb
  clear hb
  clear hb0_0 hb0_1 hb0_l hb1_0 hb1_1 hb1_l
  go_wp2
  go_ret
  exact ⟨rfl, ht⟩

set_option maxHeartbeats 12800000 in
set_option maxRecDepth 100000 in
set_option linter.unusedSimpArgs false in
set_option linter.unusedVariables false in
theorem lawRowBoat_small (k0 : Int) (k1 : Int) (A0 : Option Addr) (n0 c0 : Nat) (x0 : List Bool) (t0 : Bool) (A1 : Option Addr) (n1 c1 : Nat) (x1 : List Int) (w : World) (h0 : Holds w A0 (bits x0)) (hx0 : x0.length = n0) (hn0 : n0 ≤ 9223372036854775807) (h1 : Holds w A1 (nums x1)) (hx1 : x1.length = n1) (hn1 : n1 ≤ 9223372036854775807) (g0 : (n1 : Int) ≤ 1048576) (g1 : 0 ≤ 1048576 - (n0 : Int)) :
    Calls Try.prog 4 #[.agg #[.int .i64 k0, .int .i64 k1], .agg #[.slice A0 n0 c0, .bool t0], .slice A1 n1 c1] w fun e w' => e = .returned (.bool true) ∧ Below w.heap.size w w' := by
  have hb0 := ((Whole.fresh w 23 #[.int .i64 k0, .int .i64 k1]).alloc (.cells #[.slice A0 n0 c0, .bool t0] 26))
  have hb1 := (Whole.fresh (w.alloc (.cells #[.int .i64 k0, .int .i64 k1] 23)) 26 #[.slice A0 n0 c0, .bool t0])
  simp only [World.size_alloc] at hb1
  have ht := below2 w (.cells #[.int .i64 k0, .int .i64 k1] 23) (.cells #[.slice A0 n0 c0, .bool t0] 26)
  have HX0 := Lib.hid hx0
  have HX1 := Lib.hid hx1
  clear hx0 hx1
  have hlen : (boatBits k0 k1 x0 t0 x1).length ≤ 1048576 := (by unfold boatBits; split; { rw [flipped_len]; have := HX0.out; omega }; { simp })
  obtain ⟨hb0_0, hb0_1⟩ := hb0.cells2
  have hb0_l := hb0.lt
  obtain ⟨hb1_0, hb1_1⟩ := hb1.cells2
  have hb1_l := hb1.lt
  go_enter Try.func4, Try.ntmps4
  -- region 4
  go_wp2_with fail
  refine (szState_any A0 n0 c0 t0 (1048576) _ (by omega) (by omega) (by omega)).mono ?_
  rintro e v1 ⟨rfl, hb⟩
  rw [if_neg (by omega)]
  have hz1 : w.heap.size + 1 + 1 ≤ v1.heap.size := by have := hb.size; simpa using this
  replace ht := below_then ht hb ht.size
  replace hb0 := hb0.below hb
  replace hb1 := hb1.below hb
  clear hb
  clear hb0_0 hb0_1 hb0_l hb1_0 hb1_1 hb1_l
  obtain ⟨hb0_0, hb0_1⟩ := hb0.cells2
  have hb0_l := hb0.lt
  obtain ⟨hb1_0, hb1_1⟩ := hb1.cells2
  have hb1_l := hb1.lt
  -- region 7
  have hbzphb0 := hb0.lt
  have hbzphb1 := hb1.lt
  go_upto_region 7 with fail
  go_cut [8, 9] (fun s8 s9 wx => ResMid 33 4 (fun A q => #[.slice A (boatBits k0 k1 x0 t0 x1).length q, .bool (boatTorch k0 k1 x0 t0 x1)]) (bits (boatBits k0 k1 x0 t0 x1)) (boatOk k0 k1 x0 t0 x1) v1 s8 s9 wx)
  case first =>
    go_region_held3 (fun w' => w'.cell? ⟨w.heap.size, 0, none⟩ = some (.int .i64 k0) ∧ w'.cell? ⟨w.heap.size, 1, none⟩ = some (.int .i64 k1) ∧ w'.cell? ⟨w.heap.size + 1, 0, none⟩ = some (.slice A0 n0 c0) ∧ w'.cell? ⟨w.heap.size + 1, 1, none⟩ = some (.bool t0)) (go_keep)
      (first | (go_at_call 13; first | (refine (toCompany_any k0 k1 _).mono ?_; rintro e wp0 ⟨rfl, hbp0⟩; have hcp0 := below_then (Below.refl v1.heap.size v1).drew hbp0 (Nat.le_refl _); have hzp0 := hcp0.size; (try (replace hbox := hbox.below hbp0; clear x0_ x1_ x2_ x3_; obtain ⟨x0_, x1_, x2_, x3_⟩ := hbox.two)); obtain ⟨kp0hb0_0, kp0hb0_1⟩ := (hb0.below hcp0).cells2; obtain ⟨kp0hb1_0, kp0hb1_1⟩ := (hb1.below hcp0).cells2) | (have hbox := Whole.fresh v1 33 #[.slice none 0 0, .bool false]; replace hbox := hbox.drew; refine (toCompany_any k0 k1 _).mono ?_; rintro e wp0 ⟨rfl, hbp0⟩; have hcp0 := below_then ((Below.refl v1.heap.size v1).alloc (Nat.le_refl _) (.cells #[.slice none 0 0, .bool false] 33)).drew hbp0 (by simp); have hzp0 := hcp0.size; have hy0_ : w.heap.size < v1.heap.size := (by omega); have hn0_ : ¬ v1.heap.size = w.heap.size := (by omega); have hv0_ : ¬ w.heap.size = v1.heap.size := (by omega); have hy1_ : w.heap.size + 1 < v1.heap.size := (by omega); have hn1_ : ¬ v1.heap.size = w.heap.size + 1 := (by omega); have hv1_ : ¬ w.heap.size + 1 = v1.heap.size := (by omega); replace hbox := hbox.below hbp0; obtain ⟨x0_, x1_, x2_, x3_⟩ := hbox.two; obtain ⟨kp0hb0_0, kp0hb0_1⟩ := (hb0.below hcp0).cells2; obtain ⟨kp0hb1_0, kp0hb1_1⟩ := (hb1.below hcp0).cells2)) | (go_at_call 14; first | (refine (toState_own A0 n0 c0 x0 t0 _ (by exact h0.below (below_then ht hcp0 ht.size)) HX0.out (by omega)).mono ?_; rintro e wp1 ⟨gp0, rfl, hgp0, hwp0, hbp1⟩; have hcp1 := below_then hcp0 hbp1 hcp0.size; have hzp1 := hcp1.size; (try (replace hbox := hbox.below hbp1; clear x0_ x1_ x2_ x3_; obtain ⟨x0_, x1_, x2_, x3_⟩ := hbox.two)); obtain ⟨kp1hb0_0, kp1hb0_1⟩ := (hb0.below hcp1).cells2; obtain ⟨kp1hb1_0, kp1hb1_1⟩ := (hb1.below hcp1).cells2) | (have hbox := Whole.fresh wp0 33 #[.slice none 0 0, .bool false]; refine (toState_own A0 n0 c0 x0 t0 _ (by exact h0.below (below_then ht (hcp0.alloc hcp0.size (.cells #[.slice none 0 0, .bool false] 33)) ht.size)) HX0.out (by omega)).mono ?_; rintro e wp1 ⟨gp0, rfl, hgp0, hwp0, hbp1⟩; have hcp1 := below_then (hcp0.alloc hcp0.size (.cells #[.slice none 0 0, .bool false] 33)) hbp1 (Nat.le_trans hcp0.size (by simp)); have hzp1 := hcp1.size; have hy0_ : w.heap.size < wp0.heap.size := (by omega); have hn0_ : ¬ wp0.heap.size = w.heap.size := (by omega); have hv0_ : ¬ w.heap.size = wp0.heap.size := (by omega); have hy1_ : w.heap.size + 1 < wp0.heap.size := (by omega); have hn1_ : ¬ wp0.heap.size = w.heap.size + 1 := (by omega); have hv1_ : ¬ w.heap.size + 1 = wp0.heap.size := (by omega); replace hbox := hbox.below hbp1; obtain ⟨x0_, x1_, x2_, x3_⟩ := hbox.two; obtain ⟨kp1hb0_0, kp1hb0_1⟩ := (hb0.below hcp1).cells2; obtain ⟨kp1hb1_0, kp1hb1_1⟩ := (hb1.below hcp1).cells2)) | (go_at_call 22; first | (refine (toIntS_own A1 n1 c1 x1 _ (by exact h1.below (below_then ht hcp1 ht.size)) HX1.out (by omega)).mono ?_; rintro e wp2 ⟨gp1, rfl, hgp1, hwp1, hbp2⟩; have hcp2 := below_then hcp1 hbp2 hcp1.size; have hzp2 := hcp2.size; replace hwp0 := hwp0.below hbp2; (try (replace hbox := hbox.below hbp2; clear x0_ x1_ x2_ x3_; obtain ⟨x0_, x1_, x2_, x3_⟩ := hbox.two)); obtain ⟨kp2hb0_0, kp2hb0_1⟩ := (hb0.below hcp2).cells2; obtain ⟨kp2hb1_0, kp2hb1_1⟩ := (hb1.below hcp2).cells2) | (have hbox := Whole.fresh wp1 33 #[.slice none 0 0, .bool false]; refine (toIntS_own A1 n1 c1 x1 _ (by exact h1.below (below_then ht (hcp1.alloc hcp1.size (.cells #[.slice none 0 0, .bool false] 33)) ht.size)) HX1.out (by omega)).mono ?_; rintro e wp2 ⟨gp1, rfl, hgp1, hwp1, hbp2⟩; have hcp2 := below_then (hcp1.alloc hcp1.size (.cells #[.slice none 0 0, .bool false] 33)) hbp2 (Nat.le_trans hcp1.size (by simp)); have hzp2 := hcp2.size; replace hwp0 := (hwp0.alloc (.cells #[.slice none 0 0, .bool false] 33)).below hbp2; have hy0_ : w.heap.size < wp1.heap.size := (by omega); have hn0_ : ¬ wp1.heap.size = w.heap.size := (by omega); have hv0_ : ¬ w.heap.size = wp1.heap.size := (by omega); have hy1_ : w.heap.size + 1 < wp1.heap.size := (by omega); have hn1_ : ¬ wp1.heap.size = w.heap.size + 1 := (by omega); have hv1_ : ¬ w.heap.size + 1 = wp1.heap.size := (by omega); replace hbox := hbox.below hbp2; obtain ⟨x0_, x1_, x2_, x3_⟩ := hbox.two; obtain ⟨kp2hb0_0, kp2hb0_1⟩ := (hb0.below hcp2).cells2; obtain ⟨kp2hb1_0, kp2hb1_1⟩ := (hb1.below hcp2).cells2)) | (go_at_call 21; first | ((try (have hbxl := hbox.lt)); refine (specRowBoat_any k0 k1 _ _ n0 _ n1 _ x0 t0 x1 _ (by exact hwp0.holds) (by exact hwp1.holds) HX0.out HX1.out (by omega) (by omega)).mono ?_; rintro e wps ⟨A0, q0, rfl, hF0_, hbps⟩; have hcps := below_then hcp2 hbps hcp2.size; have hzps := hcps.size; replace hwp0 := hwp0.below hbps; replace hwp1 := hwp1.below hbps; (try (replace hbox := hbox.below hbps; clear x0_ x1_ x2_ x3_; obtain ⟨x0_, x1_, x2_, x3_⟩ := hbox.two)); obtain ⟨kpshb0_0, kpshb0_1⟩ := (hb0.below hcps).cells2; obtain ⟨kpshb1_0, kpshb1_1⟩ := (hb1.below hcps).cells2) | (have hbox := Whole.fresh wp2 33 #[.slice none 0 0, .bool false]; have hbxl := hbox.lt; refine (specRowBoat_any k0 k1 _ _ n0 _ n1 _ x0 t0 x1 _ (by exact (hwp0.alloc (.cells #[.slice none 0 0, .bool false] 33)).holds) (by exact (hwp1.alloc (.cells #[.slice none 0 0, .bool false] 33)).holds) HX0.out HX1.out (by omega) (by omega)).mono ?_; rintro e wps ⟨A0, q0, rfl, hF0_, hbps⟩; have hcps := below_then (hcp2.alloc hcp2.size (.cells #[.slice none 0 0, .bool false] 33)) hbps (Nat.le_trans hcp2.size (by simp)); have hzps := hcps.size; replace hwp0 := (hwp0.alloc (.cells #[.slice none 0 0, .bool false] 33)).below hbps; replace hwp1 := (hwp1.alloc (.cells #[.slice none 0 0, .bool false] 33)).below hbps; have hy0_ : w.heap.size < wp2.heap.size := (by omega); have hn0_ : ¬ wp2.heap.size = w.heap.size := (by omega); have hv0_ : ¬ w.heap.size = wp2.heap.size := (by omega); have hy1_ : w.heap.size + 1 < wp2.heap.size := (by omega); have hn1_ : ¬ wp2.heap.size = w.heap.size + 1 := (by omega); have hv1_ : ¬ w.heap.size + 1 = wp2.heap.size := (by omega); replace hbox := hbox.below hbps; obtain ⟨x0_, x1_, x2_, x3_⟩ := hbox.two; obtain ⟨kpshb0_0, kpshb0_1⟩ := (hb0.below hcps).cells2; obtain ⟨kpshb1_0, kpshb1_1⟩ := (hb1.below hcps).cells2)))
    all_goals (go_wp2_with fail; go_meet)
    all_goals first | exact ResMid.first hcps (by first | omega | (simp; omega)) hF0_ (by first | omega | (simp; omega)) (by first | omega | (simp; omega)) hbox rfl | exact ResMid.last hcps (by first | omega | (simp; omega)) hF0_
  obtain ⟨wkp, rfl⟩ : ∃ W : World, W = wc := ⟨_, rfl⟩
  obtain ⟨grp, B0, q0, lop, hip, rfl, rfl, hgrp, hglp, hlop, hdp, hhip, hR0, hF0, hb⟩ := hcut
  have hz2 : v1.heap.size ≤ wkp.heap.size := by have := hb.size; simpa using this
  replace ht := below_then ht hb ht.size
  replace hb0 := hb0.below hb
  replace hb1 := hb1.below hb
  clear hb
  replace hR0 : Whole wkp grp 33 #[.slice B0 (boatBits k0 k1 x0 t0 x1).length q0, .bool (boatTorch k0 k1 x0 t0 x1)] := hR0
  clear hb0_0 hb0_1 hb0_l hb1_0 hb1_1 hb1_l
  obtain ⟨hb0_0, hb0_1⟩ := hb0.cells2
  have hb0_l := hb0.lt
  obtain ⟨hb1_0, hb1_1⟩ := hb1.cells2
  have hb1_l := hb1.lt
  obtain ⟨hR0_0, hR0_1⟩ := hR0.cells2
  have hR0_l := hR0.lt
  -- region 8
  go_wp2_with fail
  refine (toState_own A0 n0 c0 x0 t0 _ (by exact h0.below ht) HX0.out (by omega)).mono ?_
  rintro e v2 ⟨gx0, rfl, hgx0, hwx0, hb⟩
  have hz3 : wkp.heap.size ≤ v2.heap.size := by have := hb.size; simpa using this
  replace ht := below_then ht hb ht.size
  replace hb0 := hb0.below hb
  replace hb1 := hb1.below hb
  replace hR0 := hR0.below hb
  replace hF0 := hF0.below hb
  have hx0 := Fresh.of_whole (lo := wkp.heap.size) (hi := v2.heap.size) hwx0 (by simpa using hgx0) hwx0.lt
  clear hgx0 hwx0
  clear hb
  have hx91 := Whole.fresh v2 33 #[.slice (some ⟨gx0, 0, none⟩) n0 n0, .bool t0]
  replace ht := ht.alloc ht.size (.cells #[.slice (some ⟨gx0, 0, none⟩) n0 n0, .bool t0] 33)
  replace hb0 := hb0.alloc (.cells #[.slice (some ⟨gx0, 0, none⟩) n0 n0, .bool t0] 33)
  replace hb1 := hb1.alloc (.cells #[.slice (some ⟨gx0, 0, none⟩) n0 n0, .bool t0] 33)
  replace hR0 := hR0.alloc (.cells #[.slice (some ⟨gx0, 0, none⟩) n0 n0, .bool t0] 33)
  replace hF0 := hF0.alloc (.cells #[.slice (some ⟨gx0, 0, none⟩) n0 n0, .bool t0] 33)
  replace hx0 := hx0.alloc (.cells #[.slice (some ⟨gx0, 0, none⟩) n0 n0, .bool t0] 33)
  clear hb0_0 hb0_1 hb0_l hb1_0 hb1_1 hb1_l hR0_0 hR0_1 hR0_l
  obtain ⟨hb0_0, hb0_1⟩ := hb0.cells2
  have hb0_l := hb0.lt
  obtain ⟨hb1_0, hb1_1⟩ := hb1.cells2
  have hb1_l := hb1.lt
  obtain ⟨hR0_0, hR0_1⟩ := hR0.cells2
  have hR0_l := hR0.lt
  obtain ⟨hx91_0, hx91_1⟩ := hx91.cells2
  have hx91_l := hx91.lt
  -- region 9
  go_wp2_with fail
  refine (toIntS_own A1 n1 c1 x1 _ (by exact h1.below ht) HX1.out (by omega)).mono ?_
  rintro e v3 ⟨gx1, rfl, hgx1, hwx1, hb⟩
  have hz4 : v2.heap.size + 1 ≤ v3.heap.size := by have := hb.size; simpa using this
  replace ht := below_then ht hb ht.size
  replace hb0 := hb0.below hb
  replace hb1 := hb1.below hb
  replace hR0 := hR0.below hb
  replace hF0 := hF0.below hb
  replace hx0 := hx0.below hb
  replace hx91 := hx91.below hb
  have hx1 := Fresh.of_whole (lo := v2.heap.size + 1) (hi := v3.heap.size) hwx1 (by simpa using hgx1) hwx1.lt
  clear hgx1 hwx1
  clear hb
  clear hb0_0 hb0_1 hb0_l hb1_0 hb1_1 hb1_l hR0_0 hR0_1 hR0_l hx91_0 hx91_1 hx91_l
  obtain ⟨hb0_0, hb0_1⟩ := hb0.cells2
  have hb0_l := hb0.lt
  obtain ⟨hb1_0, hb1_1⟩ := hb1.cells2
  have hb1_l := hb1.lt
  obtain ⟨hR0_0, hR0_1⟩ := hR0.cells2
  have hR0_l := hR0.lt
  obtain ⟨hx91_0, hx91_1⟩ := hx91.cells2
  have hx91_l := hx91.lt
  -- region 10
  have hbzxhb0 := hb0.lt
  have hbzxhb1 := hb1.lt
  have hbzxhx91 := hx91.lt
  go_upto_region 10 with fail
  go_cut [12, 13] (fun s8 s9 wx => ResMid 33 4 (fun A q => #[.slice A (boatBits k0 k1 x0 t0 x1).length q, .bool (boatTorch k0 k1 x0 t0 x1)]) (bits (boatBits k0 k1 x0 t0 x1)) (boatOk k0 k1 x0 t0 x1) v3 s8 s9 wx)
  case first =>
    go_region_held3 (fun w' => w'.cell? ⟨w.heap.size, 0, none⟩ = some (.int .i64 k0) ∧ w'.cell? ⟨w.heap.size, 1, none⟩ = some (.int .i64 k1) ∧ w'.cell? ⟨w.heap.size + 1, 0, none⟩ = some (.slice A0 n0 c0) ∧ w'.cell? ⟨w.heap.size + 1, 1, none⟩ = some (.bool t0) ∧ w'.cell? ⟨v2.heap.size, 0, none⟩ = some (.slice (some ⟨gx0, 0, none⟩) n0 n0) ∧ w'.cell? ⟨v2.heap.size, 1, none⟩ = some (.bool t0)) (go_keep)
      (first | (go_at_call 13; first | (refine (toCompany_any k0 k1 _).mono ?_; rintro e wx0 ⟨rfl, hbx0⟩; have hcx0 := below_then (Below.refl v3.heap.size v3).drew hbx0 (Nat.le_refl _); have hzx0 := hcx0.size; (try (replace hbox := hbox.below hbx0; clear x0_ x1_ x2_ x3_; obtain ⟨x0_, x1_, x2_, x3_⟩ := hbox.two)); obtain ⟨kx0hb0_0, kx0hb0_1⟩ := (hb0.below hcx0).cells2; obtain ⟨kx0hb1_0, kx0hb1_1⟩ := (hb1.below hcx0).cells2; obtain ⟨kx0hx91_0, kx0hx91_1⟩ := (hx91.below hcx0).cells2) | (have hbox := Whole.fresh v3 33 #[.slice none 0 0, .bool false]; replace hbox := hbox.drew; refine (toCompany_any k0 k1 _).mono ?_; rintro e wx0 ⟨rfl, hbx0⟩; have hcx0 := below_then ((Below.refl v3.heap.size v3).alloc (Nat.le_refl _) (.cells #[.slice none 0 0, .bool false] 33)).drew hbx0 (by simp); have hzx0 := hcx0.size; have hy0_ : w.heap.size < v3.heap.size := (by omega); have hn0_ : ¬ v3.heap.size = w.heap.size := (by omega); have hv0_ : ¬ w.heap.size = v3.heap.size := (by omega); have hy1_ : w.heap.size + 1 < v3.heap.size := (by omega); have hn1_ : ¬ v3.heap.size = w.heap.size + 1 := (by omega); have hv1_ : ¬ w.heap.size + 1 = v3.heap.size := (by omega); have hy2_ : v2.heap.size < v3.heap.size := (by omega); have hn2_ : ¬ v3.heap.size = v2.heap.size := (by omega); have hv2_ : ¬ v2.heap.size = v3.heap.size := (by omega); replace hbox := hbox.below hbx0; obtain ⟨x0_, x1_, x2_, x3_⟩ := hbox.two; obtain ⟨kx0hb0_0, kx0hb0_1⟩ := (hb0.below hcx0).cells2; obtain ⟨kx0hb1_0, kx0hb1_1⟩ := (hb1.below hcx0).cells2; obtain ⟨kx0hx91_0, kx0hx91_1⟩ := (hx91.below hcx0).cells2)) | (go_at_call 23; first | ((try (have hbxl := hbox.lt)); refine (implRowBoat_any k0 k1 _ _ n0 _ n1 _ x0 t0 x1 _ (by exact (hx0.below hcx0).holds) (by exact (hx1.below hcx0).holds) HX0.out HX1.out (by omega) (by omega)).mono ?_; rintro e wxs ⟨A0, q0, rfl, hF0_, hbxs⟩; have hcxs := below_then hcx0 hbxs hcx0.size; have hzxs := hcxs.size; (try (replace hbox := hbox.below hbxs; clear x0_ x1_ x2_ x3_; obtain ⟨x0_, x1_, x2_, x3_⟩ := hbox.two)); obtain ⟨kxshb0_0, kxshb0_1⟩ := (hb0.below hcxs).cells2; obtain ⟨kxshb1_0, kxshb1_1⟩ := (hb1.below hcxs).cells2; obtain ⟨kxshx91_0, kxshx91_1⟩ := (hx91.below hcxs).cells2) | (have hbox := Whole.fresh wx0 33 #[.slice none 0 0, .bool false]; have hbxl := hbox.lt; refine (implRowBoat_any k0 k1 _ _ n0 _ n1 _ x0 t0 x1 _ (by exact (hx0.below (hcx0.alloc hcx0.size (.cells #[.slice none 0 0, .bool false] 33))).holds) (by exact (hx1.below (hcx0.alloc hcx0.size (.cells #[.slice none 0 0, .bool false] 33))).holds) HX0.out HX1.out (by omega) (by omega)).mono ?_; rintro e wxs ⟨A0, q0, rfl, hF0_, hbxs⟩; have hcxs := below_then (hcx0.alloc hcx0.size (.cells #[.slice none 0 0, .bool false] 33)) hbxs (Nat.le_trans hcx0.size (by simp)); have hzxs := hcxs.size; have hy0_ : w.heap.size < wx0.heap.size := (by omega); have hn0_ : ¬ wx0.heap.size = w.heap.size := (by omega); have hv0_ : ¬ w.heap.size = wx0.heap.size := (by omega); have hy1_ : w.heap.size + 1 < wx0.heap.size := (by omega); have hn1_ : ¬ wx0.heap.size = w.heap.size + 1 := (by omega); have hv1_ : ¬ w.heap.size + 1 = wx0.heap.size := (by omega); have hy2_ : v2.heap.size < wx0.heap.size := (by omega); have hn2_ : ¬ wx0.heap.size = v2.heap.size := (by omega); have hv2_ : ¬ v2.heap.size = wx0.heap.size := (by omega); replace hbox := hbox.below hbxs; obtain ⟨x0_, x1_, x2_, x3_⟩ := hbox.two; obtain ⟨kxshb0_0, kxshb0_1⟩ := (hb0.below hcxs).cells2; obtain ⟨kxshb1_0, kxshb1_1⟩ := (hb1.below hcxs).cells2; obtain ⟨kxshx91_0, kxshx91_1⟩ := (hx91.below hcxs).cells2)))
    all_goals (go_wp2_with fail; go_meet)
    all_goals first | exact ResMid.first hcxs (by first | omega | (simp; omega)) hF0_ (by first | omega | (simp; omega)) (by first | omega | (simp; omega)) hbox rfl | exact ResMid.last hcxs (by first | omega | (simp; omega)) hF0_
  obtain ⟨wkx, rfl⟩ : ∃ W : World, W = wc := ⟨_, rfl⟩
  obtain ⟨grx, B1, q1, lox, hix, rfl, rfl, hgrx, hglx, hlox, hdx, hhix, hR1, hF1, hb⟩ := hcut
  have hz5 : v3.heap.size ≤ wkx.heap.size := by have := hb.size; simpa using this
  replace ht := below_then ht hb ht.size
  replace hb0 := hb0.below hb
  replace hb1 := hb1.below hb
  replace hR0 := hR0.below hb
  replace hF0 := hF0.below hb
  replace hx0 := hx0.below hb
  replace hx91 := hx91.below hb
  replace hx1 := hx1.below hb
  clear hb
  replace hR1 : Whole wkx grx 33 #[.slice B1 (boatBits k0 k1 x0 t0 x1).length q1, .bool (boatTorch k0 k1 x0 t0 x1)] := hR1
  clear hb0_0 hb0_1 hb0_l hb1_0 hb1_1 hb1_l hR0_0 hR0_1 hR0_l hx91_0 hx91_1 hx91_l
  obtain ⟨hb0_0, hb0_1⟩ := hb0.cells2
  have hb0_l := hb0.lt
  obtain ⟨hb1_0, hb1_1⟩ := hb1.cells2
  have hb1_l := hb1.lt
  obtain ⟨hR0_0, hR0_1⟩ := hR0.cells2
  have hR0_l := hR0.lt
  obtain ⟨hx91_0, hx91_1⟩ := hx91.cells2
  have hx91_l := hx91.lt
  obtain ⟨hR1_0, hR1_1⟩ := hR1.cells2
  have hR1_l := hR1.lt
  -- region 11
  go_wp2_with fail
  refine (eqState_yes B1 B0 (boatBits k0 k1 x0 t0 x1).length q1 q0 (boatBits k0 k1 x0 t0 x1) (boatTorch k0 k1 x0 t0 x1) _ (by exact hF1.holds) (by exact hF0.holds) rfl (by omega)).mono ?_
  rintro e v4 ⟨rfl, hb⟩
  have hz6 : wkx.heap.size ≤ v4.heap.size := by have := hb.size; simpa using this
  replace ht := below_then ht hb ht.size
  replace hb0 := hb0.below hb
  replace hb1 := hb1.below hb
  replace hR0 := hR0.below hb
  replace hF0 := hF0.below hb
  replace hx0 := hx0.below hb
  replace hx91 := hx91.below hb
  replace hx1 := hx1.below hb
  replace hR1 := hR1.below hb
  replace hF1 := hF1.below hb
  clear hb
  clear hb0_0 hb0_1 hb0_l hb1_0 hb1_1 hb1_l hR0_0 hR0_1 hR0_l hx91_0 hx91_1 hx91_l hR1_0 hR1_1 hR1_l
  obtain ⟨hb0_0, hb0_1⟩ := hb0.cells2
  have hb0_l := hb0.lt
  obtain ⟨hb1_0, hb1_1⟩ := hb1.cells2
  have hb1_l := hb1.lt
  obtain ⟨hR0_0, hR0_1⟩ := hR0.cells2
  have hR0_l := hR0.lt
  obtain ⟨hx91_0, hx91_1⟩ := hx91.cells2
  have hx91_l := hx91.lt
  obtain ⟨hR1_0, hR1_1⟩ := hR1.cells2
  have hR1_l := hR1.lt
  -- region 13
  clear hb0_0 hb0_1 hb0_l hb1_0 hb1_1 hb1_l hR0_0 hR0_1 hR0_l hx91_0 hx91_1 hx91_l hR1_0 hR1_1 hR1_l
  go_wp2_with fail
  refine wp_region_held_drew (S := (fun w' => w'.cell? ⟨w.heap.size, 0, none⟩ = some (.int .i64 k0) ∧ w'.cell? ⟨w.heap.size, 1, none⟩ = some (.int .i64 k1) ∧ w'.cell? ⟨w.heap.size + 1, 0, none⟩ = some (.slice A0 n0 c0) ∧ w'.cell? ⟨w.heap.size + 1, 1, none⟩ = some (.bool t0) ∧ w'.cell? ⟨grp, 0, none⟩ = some (.slice B0 (boatBits k0 k1 x0 t0 x1).length q0) ∧ w'.cell? ⟨grp, 1, none⟩ = some (.bool (boatTorch k0 k1 x0 t0 x1)) ∧ w'.cell? ⟨v2.heap.size, 0, none⟩ = some (.slice (some ⟨gx0, 0, none⟩) n0 n0) ∧ w'.cell? ⟨v2.heap.size, 1, none⟩ = some (.bool t0) ∧ w'.cell? ⟨grx, 0, none⟩ = some (.slice B1 (boatBits k0 k1 x0 t0 x1).length q1) ∧ w'.cell? ⟨grx, 1, none⟩ = some (.bool (boatTorch k0 k1 x0 t0 x1)))) (by kernel_rfl) ⟨hb0.drew.cell 0, hb0.drew.cell 1, hb1.drew.cell 0, hb1.drew.cell 1, hR0.drew.cell 0, hR0.drew.cell 1, hx91.drew.cell 0, hx91.drew.cell 1, hR1.drew.cell 0, hR1.drew.cell 1⟩ (fun hHeld => ?_)
  replace ht := ht.drew
  replace hb0 := hb0.drew
  replace hb1 := hb1.drew
  replace hR0 := hR0.drew
  replace hF0 := hF0.drew
  replace hx0 := hx0.drew
  replace hx91 := hx91.drew
  replace hx1 := hx1.drew
  replace hR1 := hR1.drew
  replace hF1 := hF1.drew
  refine wpAnyH_take (i := 0) (v := ?_) rfl (by kernel_rfl) (by kernel_rfl) (by kernel_rfl) (fun _ _ _ h => h) (Or.inl ⟨rfl, ?_⟩) hHeld ?_
  rotate_left
  · intro w' hS; obtain ⟨s0, s1, s2, s3, s4, s5, s6, s7, s8, s9⟩ := hS; go_simp <;> with_reducible rfl
  simp only [Act.put, List.getElem_toArray, List.getElem_cons_succ, List.getElem_cons_zero, List.setIfInBounds_toArray, List.set_cons_succ, List.set_cons_zero]
  refine wpAnyH_take (i := 1) (v := ?_) rfl (by kernel_rfl) (by kernel_rfl) (by kernel_rfl) (fun _ _ _ h => h) (Or.inl ⟨rfl, ?_⟩) hHeld ?_
  rotate_left
  · intro w' hS; obtain ⟨s0, s1, s2, s3, s4, s5, s6, s7, s8, s9⟩ := hS; go_simp <;> with_reducible rfl
  simp only [Act.put, List.getElem_toArray, List.getElem_cons_succ, List.getElem_cons_zero, List.setIfInBounds_toArray, List.set_cons_succ, List.set_cons_zero]
  refine wpAnyH_ready (rs := [2]) (by kernel_rfl) (by simp) (AllReadyH.cons rfl (fun K hK => ?_) AllReadyH.nil)
  go_simp
  refine (toState_own A0 n0 c0 x0 t0 _ (by exact h0.below ht) HX0.out (by omega)).mono ?_
  rintro e v5 ⟨gy0, rfl, hgy0, hwy0, hb⟩
  have hz7 : v4.heap.size ≤ v5.heap.size := by have := hb.size; simpa using this
  replace ht := below_then ht hb ht.size
  replace hb0 := hb0.below hb
  replace hb1 := hb1.below hb
  replace hR0 := hR0.below hb
  replace hF0 := hF0.below hb
  replace hx0 := hx0.below hb
  replace hx91 := hx91.below hb
  replace hx1 := hx1.below hb
  replace hR1 := hR1.below hb
  replace hF1 := hF1.below hb
  have hy0 := Fresh.of_whole (lo := v4.heap.size) (hi := v5.heap.size) hwy0 (by simpa using hgy0) hwy0.lt
  clear hgy0 hwy0
  clear hb
  refine hK.out _ _ ⟨hb0.cell 0, hb0.cell 1, hb1.cell 0, hb1.cell 1, hR0.cell 0, hR0.cell 1, hx91.cell 0, hx91.cell 1, hR1.cell 0, hR1.cell 1⟩ (fun hHeld => ?_)
  clear hK K
  try simp only [Act.put, List.getElem_toArray, List.getElem_cons_succ, List.getElem_cons_zero, List.setIfInBounds_toArray, List.set_cons_succ, List.set_cons_zero]
  refine wpAnyH_ready (rs := [3]) (by kernel_rfl) (by simp) (AllReadyH.cons rfl (fun K hK => ?_) AllReadyH.nil)
  go_simp
  refine (eqState_yes _ _ n0 _ _ x0 t0 _ (by exact hx0.holds) (by exact hy0.holds) HX0.out (by omega)).mono ?_
  rintro e v6 ⟨rfl, hb⟩
  have hz8 : v5.heap.size ≤ v6.heap.size := by have := hb.size; simpa using this
  replace ht := below_then ht hb ht.size
  replace hb0 := hb0.below hb
  replace hb1 := hb1.below hb
  replace hR0 := hR0.below hb
  replace hF0 := hF0.below hb
  replace hx0 := hx0.below hb
  replace hx91 := hx91.below hb
  replace hx1 := hx1.below hb
  replace hR1 := hR1.below hb
  replace hF1 := hF1.below hb
  replace hy0 := hy0.below hb
  clear hb
  clear hy0
  refine hK.out _ _ ⟨hb0.cell 0, hb0.cell 1, hb1.cell 0, hb1.cell 1, hR0.cell 0, hR0.cell 1, hx91.cell 0, hx91.cell 1, hR1.cell 0, hR1.cell 1⟩ (fun hHeld => ?_)
  clear hK K
  try simp only [Act.put, List.getElem_toArray, List.getElem_cons_succ, List.getElem_cons_zero, List.setIfInBounds_toArray, List.set_cons_succ, List.set_cons_zero]
  refine wpAnyH_take (i := 4) (v := ?_) rfl (by kernel_rfl) (by kernel_rfl) (by kernel_rfl) (fun _ _ _ h => h) (Or.inl ⟨rfl, ?_⟩) hHeld ?_
  rotate_left
  · intro w' hS; obtain ⟨s0, s1, s2, s3, s4, s5, s6, s7, s8, s9⟩ := hS; go_simp <;> with_reducible rfl
  simp only [Act.put, List.getElem_toArray, List.getElem_cons_succ, List.getElem_cons_zero, List.setIfInBounds_toArray, List.set_cons_succ, List.set_cons_zero]
  refine wpAnyH_done (by kernel_rfl) ?_ _
  clear hHeld
  obtain ⟨hb0_0, hb0_1⟩ := hb0.cells2
  have hb0_l := hb0.lt
  obtain ⟨hb1_0, hb1_1⟩ := hb1.cells2
  have hb1_l := hb1.lt
  obtain ⟨hR0_0, hR0_1⟩ := hR0.cells2
  have hR0_l := hR0.lt
  obtain ⟨hx91_0, hx91_1⟩ := hx91.cells2
  have hx91_l := hx91.lt
  obtain ⟨hR1_0, hR1_1⟩ := hR1.cells2
  have hR1_l := hR1.lt
  -- region 15
  go_wp2_with fail
  refine (toIntS_own A1 n1 c1 x1 _ (by exact h1.below ht) HX1.out (by omega)).mono ?_
  rintro e v7 ⟨gy1, rfl, hgy1, hwy1, hb⟩
  have hz9 : v6.heap.size ≤ v7.heap.size := by have := hb.size; simpa using this
  replace ht := below_then ht hb ht.size
  replace hb0 := hb0.below hb
  replace hb1 := hb1.below hb
  replace hR0 := hR0.below hb
  replace hF0 := hF0.below hb
  replace hx0 := hx0.below hb
  replace hx91 := hx91.below hb
  replace hx1 := hx1.below hb
  replace hR1 := hR1.below hb
  replace hF1 := hF1.below hb
  have hy1 := Fresh.of_whole (lo := v6.heap.size) (hi := v7.heap.size) hwy1 (by simpa using hgy1) hwy1.lt
  clear hgy1 hwy1
  clear hb
  clear hb0_0 hb0_1 hb0_l hb1_0 hb1_1 hb1_l hR0_0 hR0_1 hR0_l hx91_0 hx91_1 hx91_l hR1_0 hR1_1 hR1_l
  obtain ⟨hb0_0, hb0_1⟩ := hb0.cells2
  have hb0_l := hb0.lt
  obtain ⟨hb1_0, hb1_1⟩ := hb1.cells2
  have hb1_l := hb1.lt
  obtain ⟨hR0_0, hR0_1⟩ := hR0.cells2
  have hR0_l := hR0.lt
  obtain ⟨hx91_0, hx91_1⟩ := hx91.cells2
  have hx91_l := hx91.lt
  obtain ⟨hR1_0, hR1_1⟩ := hR1.cells2
  have hR1_l := hR1.lt
  go_wp2_with fail
  refine (eqIntS_yes _ _ n1 _ _ x1 _ (by exact hx1.holds) (by exact hy1.holds) HX1.out (by omega)).mono ?_
  rintro e v8 ⟨rfl, hb⟩
  have hz10 : v7.heap.size ≤ v8.heap.size := by have := hb.size; simpa using this
  replace ht := below_then ht hb ht.size
  replace hb0 := hb0.below hb
  replace hb1 := hb1.below hb
  replace hR0 := hR0.below hb
  replace hF0 := hF0.below hb
  replace hx0 := hx0.below hb
  replace hx91 := hx91.below hb
  replace hx1 := hx1.below hb
  replace hR1 := hR1.below hb
  replace hF1 := hF1.below hb
  replace hy1 := hy1.below hb
  clear hb
  clear hy1
  clear hb0_0 hb0_1 hb0_l hb1_0 hb1_1 hb1_l hR0_0 hR0_1 hR0_l hx91_0 hx91_1 hx91_l hR1_0 hR1_1 hR1_l
  obtain ⟨hb0_0, hb0_1⟩ := hb0.cells2
  have hb0_l := hb0.lt
  obtain ⟨hb1_0, hb1_1⟩ := hb1.cells2
  have hb1_l := hb1.lt
  obtain ⟨hR0_0, hR0_1⟩ := hR0.cells2
  have hR0_l := hR0.lt
  obtain ⟨hx91_0, hx91_1⟩ := hx91.cells2
  have hx91_l := hx91.lt
  obtain ⟨hR1_0, hR1_1⟩ := hR1.cells2
  have hR1_l := hR1.lt
  -- region 18
  go_wp2_with fail
  refine (markState_any (some ⟨gx0, 0, none⟩) n0 n0 _ _ _ t0 (1) _ hx0 (by rw [bits_len]; exact HX0.out) (by omega) (by omega) (by omega)).mono ?_
  rintro e v9 ⟨rfl, hs, -⟩
  have hsz := ht.size
  replace ht := hs.below ht (by omega) hsz
  replace hb0 := hs.whole hb0 (by omega)
  replace hb1 := hs.whole hb1 (by omega)
  replace hR0 := hs.whole hR0 (by omega)
  replace hF0 := hs.fresh hF0 (by omega)
  replace hx1 := hs.fresh hx1 (by omega)
  replace hR1 := hs.whole hR1 (by omega)
  replace hF1 := hs.fresh hF1 (by omega)
  clear hs hsz hx0 hx91
  have hk_1 : (0 : Int) ≤ 1 + (n0 : Int) := by omega
  clear hb0_0 hb0_1 hb0_l hb1_0 hb1_1 hb1_l hR0_0 hR0_1 hR0_l hx91_0 hx91_1 hx91_l hR1_0 hR1_1 hR1_l
  obtain ⟨hb0_0, hb0_1⟩ := hb0.cells2
  have hb0_l := hb0.lt
  obtain ⟨hb1_0, hb1_1⟩ := hb1.cells2
  have hb1_l := hb1.lt
  obtain ⟨hR0_0, hR0_1⟩ := hR0.cells2
  have hR0_l := hR0.lt
  obtain ⟨hR1_0, hR1_1⟩ := hR1.cells2
  have hR1_l := hR1.lt
  -- region 19
  go_wp2_with fail
  refine (markIntS_any (some ⟨gx1, 0, none⟩) n1 n1 _ _ _ (1 + (n0 : Int)) _ hx1 (by rw [nums_len]; exact HX1.out) (by omega) (by omega) (by omega)).mono ?_
  rintro e v10 ⟨rfl, hs, -⟩
  have hsz := ht.size
  replace ht := hs.below ht (by omega) hsz
  replace hb0 := hs.whole hb0 (by omega)
  replace hb1 := hs.whole hb1 (by omega)
  replace hR0 := hs.whole hR0 (by omega)
  replace hF0 := hs.fresh hF0 (by omega)
  replace hR1 := hs.whole hR1 (by omega)
  replace hF1 := hs.fresh hF1 (by omega)
  clear hs hsz hx1
  have hk_2 : (0 : Int) ≤ 1 + (n0 : Int) + (n1 : Int) := by omega
  clear hb0_0 hb0_1 hb0_l hb1_0 hb1_1 hb1_l hR0_0 hR0_1 hR0_l hR1_0 hR1_1 hR1_l
  obtain ⟨hb0_0, hb0_1⟩ := hb0.cells2
  have hb0_l := hb0.lt
  obtain ⟨hb1_0, hb1_1⟩ := hb1.cells2
  have hb1_l := hb1.lt
  obtain ⟨hR0_0, hR0_1⟩ := hR0.cells2
  have hR0_l := hR0.lt
  obtain ⟨hR1_0, hR1_1⟩ := hR1.cells2
  have hR1_l := hR1.lt
  -- region 20
  go_wp2_with fail
  refine (eqState_yes B1 B0 (boatBits k0 k1 x0 t0 x1).length q1 q0 (boatBits k0 k1 x0 t0 x1) (boatTorch k0 k1 x0 t0 x1) _ (by exact hF1.holds) (by exact hF0.holds) rfl (by omega)).mono ?_
  rintro e v11 ⟨rfl, hb⟩
  have hz13 : v10.heap.size ≤ v11.heap.size := by have := hb.size; simpa using this
  replace ht := below_then ht hb ht.size
  replace hb0 := hb0.below hb
  replace hb1 := hb1.below hb
  replace hR0 := hR0.below hb
  replace hF0 := hF0.below hb
  replace hR1 := hR1.below hb
  replace hF1 := hF1.below hb
  clear hb
  clear hb0_0 hb0_1 hb0_l hb1_0 hb1_1 hb1_l hR0_0 hR0_1 hR0_l hR1_0 hR1_1 hR1_l
  obtain ⟨hb0_0, hb0_1⟩ := hb0.cells2
  have hb0_l := hb0.lt
  obtain ⟨hb1_0, hb1_1⟩ := hb1.cells2
  have hb1_l := hb1.lt
  obtain ⟨hR0_0, hR0_1⟩ := hR0.cells2
  have hR0_l := hR0.lt
  obtain ⟨hR1_0, hR1_1⟩ := hR1.cells2
  have hR1_l := hR1.lt
  -- region 23
  go_wp2_with fail
  refine (markState_any B1 (boatBits k0 k1 x0 t0 x1).length q1 _ _ _ (boatTorch k0 k1 x0 t0 x1) 1 _ hF1 (by rw [bits_len]) (by omega) (by omega) hlen).mono ?_
  rintro e v12 ⟨rfl, hs, hM⟩
  have hsz := ht.size
  replace ht := hs.below ht (by omega) hsz
  replace hb0 := hs.whole hb0 (by omega)
  replace hb1 := hs.whole hb1 (by omega)
  replace hR0 := hs.whole hR0 (by omega)
  replace hF0 := hs.fresh hF0 (by omega)
  replace hR1 := hs.whole hR1 (by omega)
  clear hs hF1 hsz
  clear hb0_0 hb0_1 hb0_l hb1_0 hb1_1 hb1_l hR0_0 hR0_1 hR0_l hR1_0 hR1_1 hR1_l
  obtain ⟨hb0_0, hb0_1⟩ := hb0.cells2
  have hb0_l := hb0.lt
  obtain ⟨hb1_0, hb1_1⟩ := hb1.cells2
  have hb1_l := hb1.lt
  obtain ⟨hR0_0, hR0_1⟩ := hR0.cells2
  have hR0_l := hR0.lt
  obtain ⟨hR1_0, hR1_1⟩ := hR1.cells2
  have hR1_l := hR1.lt
  -- region 25
  go_wp2_with fail
  refine (heldState_any B1 (boatBits k0 k1 x0 t0 x1).length q1 (boatTorch k0 k1 x0 t0 x1) 1 _ (by exact hM.holds) (by omega) (by omega) hlen).mono ?_
  rintro e v13 ⟨rfl, hb⟩
  have hz15 : v12.heap.size ≤ v13.heap.size := by have := hb.size; simpa using this
  replace ht := below_then ht hb ht.size
  replace hb0 := hb0.below hb
  replace hb1 := hb1.below hb
  replace hR0 := hR0.below hb
  replace hF0 := hF0.below hb
  replace hR1 := hR1.below hb
  replace hM := hM.below hb
  clear hb
  have hm0 : (0 : Int) ≤ 1 + ((boatBits k0 k1 x0 t0 x1).length : Int) := by omega
  clear hb0_0 hb0_1 hb0_l hb1_0 hb1_1 hb1_l hR0_0 hR0_1 hR0_l hR1_0 hR1_1 hR1_l
  obtain ⟨hb0_0, hb0_1⟩ := hb0.cells2
  have hb0_l := hb0.lt
  obtain ⟨hb1_0, hb1_1⟩ := hb1.cells2
  have hb1_l := hb1.lt
  obtain ⟨hR0_0, hR0_1⟩ := hR0.cells2
  have hR0_l := hR0.lt
  obtain ⟨hR1_0, hR1_1⟩ := hR1.cells2
  have hR1_l := hR1.lt
  -- region 30
  have hbzrhb0 := hb0.lt
  have hbzrhb1 := hb1.lt
  go_upto_region 30 with fail
  go_cut [17, 18] (fun s8 s9 wx => ResMid 33 4 (fun A q => #[.slice A (boatBits k0 k1 x0 t0 x1).length q, .bool (boatTorch k0 k1 x0 t0 x1)]) (bits (boatBits k0 k1 x0 t0 x1)) (boatOk k0 k1 x0 t0 x1) v13 s8 s9 wx)
  case first =>
    go_region_held3 (fun w' => w'.cell? ⟨w.heap.size, 0, none⟩ = some (.int .i64 k0) ∧ w'.cell? ⟨w.heap.size, 1, none⟩ = some (.int .i64 k1) ∧ w'.cell? ⟨w.heap.size + 1, 0, none⟩ = some (.slice A0 n0 c0) ∧ w'.cell? ⟨w.heap.size + 1, 1, none⟩ = some (.bool t0)) (go_keep)
      (first | (go_at_call 13; first | (refine (toCompany_any k0 k1 _).mono ?_; rintro e wr0 ⟨rfl, hbr0⟩; have hcr0 := below_then (Below.refl v13.heap.size v13).drew hbr0 (Nat.le_refl _); have hzr0 := hcr0.size; (try (replace hbox := hbox.below hbr0; clear x0_ x1_ x2_ x3_; obtain ⟨x0_, x1_, x2_, x3_⟩ := hbox.two)); obtain ⟨kr0hb0_0, kr0hb0_1⟩ := (hb0.below hcr0).cells2; obtain ⟨kr0hb1_0, kr0hb1_1⟩ := (hb1.below hcr0).cells2) | (have hbox := Whole.fresh v13 33 #[.slice none 0 0, .bool false]; replace hbox := hbox.drew; refine (toCompany_any k0 k1 _).mono ?_; rintro e wr0 ⟨rfl, hbr0⟩; have hcr0 := below_then ((Below.refl v13.heap.size v13).alloc (Nat.le_refl _) (.cells #[.slice none 0 0, .bool false] 33)).drew hbr0 (by simp); have hzr0 := hcr0.size; have hy0_ : w.heap.size < v13.heap.size := (by omega); have hn0_ : ¬ v13.heap.size = w.heap.size := (by omega); have hv0_ : ¬ w.heap.size = v13.heap.size := (by omega); have hy1_ : w.heap.size + 1 < v13.heap.size := (by omega); have hn1_ : ¬ v13.heap.size = w.heap.size + 1 := (by omega); have hv1_ : ¬ w.heap.size + 1 = v13.heap.size := (by omega); replace hbox := hbox.below hbr0; obtain ⟨x0_, x1_, x2_, x3_⟩ := hbox.two; obtain ⟨kr0hb0_0, kr0hb0_1⟩ := (hb0.below hcr0).cells2; obtain ⟨kr0hb1_0, kr0hb1_1⟩ := (hb1.below hcr0).cells2)) | (go_at_call 14; first | (refine (toState_own A0 n0 c0 x0 t0 _ (by exact h0.below (below_then ht hcr0 ht.size)) HX0.out (by omega)).mono ?_; rintro e wr1 ⟨gr0, rfl, hgr0, hwr0, hbr1⟩; have hcr1 := below_then hcr0 hbr1 hcr0.size; have hzr1 := hcr1.size; (try (replace hbox := hbox.below hbr1; clear x0_ x1_ x2_ x3_; obtain ⟨x0_, x1_, x2_, x3_⟩ := hbox.two)); obtain ⟨kr1hb0_0, kr1hb0_1⟩ := (hb0.below hcr1).cells2; obtain ⟨kr1hb1_0, kr1hb1_1⟩ := (hb1.below hcr1).cells2) | (have hbox := Whole.fresh wr0 33 #[.slice none 0 0, .bool false]; refine (toState_own A0 n0 c0 x0 t0 _ (by exact h0.below (below_then ht (hcr0.alloc hcr0.size (.cells #[.slice none 0 0, .bool false] 33)) ht.size)) HX0.out (by omega)).mono ?_; rintro e wr1 ⟨gr0, rfl, hgr0, hwr0, hbr1⟩; have hcr1 := below_then (hcr0.alloc hcr0.size (.cells #[.slice none 0 0, .bool false] 33)) hbr1 (Nat.le_trans hcr0.size (by simp)); have hzr1 := hcr1.size; have hy0_ : w.heap.size < wr0.heap.size := (by omega); have hn0_ : ¬ wr0.heap.size = w.heap.size := (by omega); have hv0_ : ¬ w.heap.size = wr0.heap.size := (by omega); have hy1_ : w.heap.size + 1 < wr0.heap.size := (by omega); have hn1_ : ¬ wr0.heap.size = w.heap.size + 1 := (by omega); have hv1_ : ¬ w.heap.size + 1 = wr0.heap.size := (by omega); replace hbox := hbox.below hbr1; obtain ⟨x0_, x1_, x2_, x3_⟩ := hbox.two; obtain ⟨kr1hb0_0, kr1hb0_1⟩ := (hb0.below hcr1).cells2; obtain ⟨kr1hb1_0, kr1hb1_1⟩ := (hb1.below hcr1).cells2)) | (go_at_call 22; first | (refine (toIntS_own A1 n1 c1 x1 _ (by exact h1.below (below_then ht hcr1 ht.size)) HX1.out (by omega)).mono ?_; rintro e wr2 ⟨gr1, rfl, hgr1, hwr1, hbr2⟩; have hcr2 := below_then hcr1 hbr2 hcr1.size; have hzr2 := hcr2.size; replace hwr0 := hwr0.below hbr2; (try (replace hbox := hbox.below hbr2; clear x0_ x1_ x2_ x3_; obtain ⟨x0_, x1_, x2_, x3_⟩ := hbox.two)); obtain ⟨kr2hb0_0, kr2hb0_1⟩ := (hb0.below hcr2).cells2; obtain ⟨kr2hb1_0, kr2hb1_1⟩ := (hb1.below hcr2).cells2) | (have hbox := Whole.fresh wr1 33 #[.slice none 0 0, .bool false]; refine (toIntS_own A1 n1 c1 x1 _ (by exact h1.below (below_then ht (hcr1.alloc hcr1.size (.cells #[.slice none 0 0, .bool false] 33)) ht.size)) HX1.out (by omega)).mono ?_; rintro e wr2 ⟨gr1, rfl, hgr1, hwr1, hbr2⟩; have hcr2 := below_then (hcr1.alloc hcr1.size (.cells #[.slice none 0 0, .bool false] 33)) hbr2 (Nat.le_trans hcr1.size (by simp)); have hzr2 := hcr2.size; replace hwr0 := (hwr0.alloc (.cells #[.slice none 0 0, .bool false] 33)).below hbr2; have hy0_ : w.heap.size < wr1.heap.size := (by omega); have hn0_ : ¬ wr1.heap.size = w.heap.size := (by omega); have hv0_ : ¬ w.heap.size = wr1.heap.size := (by omega); have hy1_ : w.heap.size + 1 < wr1.heap.size := (by omega); have hn1_ : ¬ wr1.heap.size = w.heap.size + 1 := (by omega); have hv1_ : ¬ w.heap.size + 1 = wr1.heap.size := (by omega); replace hbox := hbox.below hbr2; obtain ⟨x0_, x1_, x2_, x3_⟩ := hbox.two; obtain ⟨kr2hb0_0, kr2hb0_1⟩ := (hb0.below hcr2).cells2; obtain ⟨kr2hb1_0, kr2hb1_1⟩ := (hb1.below hcr2).cells2)) | (go_at_call 23; first | ((try (have hbxl := hbox.lt)); refine (implRowBoat_any k0 k1 _ _ n0 _ n1 _ x0 t0 x1 _ (by exact hwr0.holds) (by exact hwr1.holds) HX0.out HX1.out (by omega) (by omega)).mono ?_; rintro e wrs ⟨A0, q0, rfl, hF0_, hbrs⟩; have hcrs := below_then hcr2 hbrs hcr2.size; have hzrs := hcrs.size; replace hwr0 := hwr0.below hbrs; replace hwr1 := hwr1.below hbrs; (try (replace hbox := hbox.below hbrs; clear x0_ x1_ x2_ x3_; obtain ⟨x0_, x1_, x2_, x3_⟩ := hbox.two)); obtain ⟨krshb0_0, krshb0_1⟩ := (hb0.below hcrs).cells2; obtain ⟨krshb1_0, krshb1_1⟩ := (hb1.below hcrs).cells2) | (have hbox := Whole.fresh wr2 33 #[.slice none 0 0, .bool false]; have hbxl := hbox.lt; refine (implRowBoat_any k0 k1 _ _ n0 _ n1 _ x0 t0 x1 _ (by exact (hwr0.alloc (.cells #[.slice none 0 0, .bool false] 33)).holds) (by exact (hwr1.alloc (.cells #[.slice none 0 0, .bool false] 33)).holds) HX0.out HX1.out (by omega) (by omega)).mono ?_; rintro e wrs ⟨A0, q0, rfl, hF0_, hbrs⟩; have hcrs := below_then (hcr2.alloc hcr2.size (.cells #[.slice none 0 0, .bool false] 33)) hbrs (Nat.le_trans hcr2.size (by simp)); have hzrs := hcrs.size; replace hwr0 := (hwr0.alloc (.cells #[.slice none 0 0, .bool false] 33)).below hbrs; replace hwr1 := (hwr1.alloc (.cells #[.slice none 0 0, .bool false] 33)).below hbrs; have hy0_ : w.heap.size < wr2.heap.size := (by omega); have hn0_ : ¬ wr2.heap.size = w.heap.size := (by omega); have hv0_ : ¬ w.heap.size = wr2.heap.size := (by omega); have hy1_ : w.heap.size + 1 < wr2.heap.size := (by omega); have hn1_ : ¬ wr2.heap.size = w.heap.size + 1 := (by omega); have hv1_ : ¬ w.heap.size + 1 = wr2.heap.size := (by omega); replace hbox := hbox.below hbrs; obtain ⟨x0_, x1_, x2_, x3_⟩ := hbox.two; obtain ⟨krshb0_0, krshb0_1⟩ := (hb0.below hcrs).cells2; obtain ⟨krshb1_0, krshb1_1⟩ := (hb1.below hcrs).cells2)))
    all_goals (go_wp2_with fail; go_meet)
    all_goals first | exact ResMid.first hcrs (by first | omega | (simp; omega)) hF0_ (by first | omega | (simp; omega)) (by first | omega | (simp; omega)) hbox rfl | exact ResMid.last hcrs (by first | omega | (simp; omega)) hF0_
  obtain ⟨wkr, rfl⟩ : ∃ W : World, W = wc := ⟨_, rfl⟩
  obtain ⟨grr, B2, q2, lor, hir, rfl, rfl, hgrr, hglr, hlor, hdr, hhir, hR2, hF2, hb⟩ := hcut
  have hz16 : v13.heap.size ≤ wkr.heap.size := by have := hb.size; simpa using this
  replace ht := below_then ht hb ht.size
  replace hb0 := hb0.below hb
  replace hb1 := hb1.below hb
  replace hR0 := hR0.below hb
  replace hF0 := hF0.below hb
  replace hR1 := hR1.below hb
  replace hM := hM.below hb
  clear hb
  replace hR2 : Whole wkr grr 33 #[.slice B2 (boatBits k0 k1 x0 t0 x1).length q2, .bool (boatTorch k0 k1 x0 t0 x1)] := hR2
  clear hb0_0 hb0_1 hb0_l hb1_0 hb1_1 hb1_l hR0_0 hR0_1 hR0_l hR1_0 hR1_1 hR1_l
  obtain ⟨hb0_0, hb0_1⟩ := hb0.cells2
  have hb0_l := hb0.lt
  obtain ⟨hb1_0, hb1_1⟩ := hb1.cells2
  have hb1_l := hb1.lt
  obtain ⟨hR0_0, hR0_1⟩ := hR0.cells2
  have hR0_l := hR0.lt
  obtain ⟨hR1_0, hR1_1⟩ := hR1.cells2
  have hR1_l := hR1.lt
  obtain ⟨hR2_0, hR2_1⟩ := hR2.cells2
  have hR2_l := hR2.lt
  -- region 31
  go_wp2_with fail
  refine (eqState_yes B2 B0 (boatBits k0 k1 x0 t0 x1).length q2 q0 (boatBits k0 k1 x0 t0 x1) (boatTorch k0 k1 x0 t0 x1) _ (by exact hF2.holds) (by exact hF0.holds) rfl (by omega)).mono ?_
  rintro e v14 ⟨rfl, hb⟩
  have hz17 : wkr.heap.size ≤ v14.heap.size := by have := hb.size; simpa using this
  replace ht := below_then ht hb ht.size
  replace hb0 := hb0.below hb
  replace hb1 := hb1.below hb
  replace hR0 := hR0.below hb
  replace hF0 := hF0.below hb
  replace hR1 := hR1.below hb
  replace hM := hM.below hb
  replace hR2 := hR2.below hb
  replace hF2 := hF2.below hb
  clear hb
  clear hb0_0 hb0_1 hb0_l hb1_0 hb1_1 hb1_l hR0_0 hR0_1 hR0_l hR1_0 hR1_1 hR1_l hR2_0 hR2_1 hR2_l
  obtain ⟨hb0_0, hb0_1⟩ := hb0.cells2
  have hb0_l := hb0.lt
  obtain ⟨hb1_0, hb1_1⟩ := hb1.cells2
  have hb1_l := hb1.lt
  obtain ⟨hR0_0, hR0_1⟩ := hR0.cells2
  have hR0_l := hR0.lt
  obtain ⟨hR1_0, hR1_1⟩ := hR1.cells2
  have hR1_l := hR1.lt
  obtain ⟨hR2_0, hR2_1⟩ := hR2.cells2
  have hR2_l := hR2.lt
  -- region 34
  go_wp2_with fail
  refine (heldState_any B1 (boatBits k0 k1 x0 t0 x1).length q1 (boatTorch k0 k1 x0 t0 x1) 1 _ (by exact hM.holds) (by omega) (by omega) hlen).mono ?_
  rintro e v15 ⟨rfl, hb⟩
  have hz18 : v14.heap.size ≤ v15.heap.size := by have := hb.size; simpa using this
  replace ht := below_then ht hb ht.size
  replace hb0 := hb0.below hb
  replace hb1 := hb1.below hb
  replace hR0 := hR0.below hb
  replace hF0 := hF0.below hb
  replace hR1 := hR1.below hb
  replace hM := hM.below hb
  replace hR2 := hR2.below hb
  replace hF2 := hF2.below hb
  clear hb
  clear hb0_0 hb0_1 hb0_l hb1_0 hb1_1 hb1_l hR0_0 hR0_1 hR0_l hR1_0 hR1_1 hR1_l hR2_0 hR2_1 hR2_l
  obtain ⟨hb0_0, hb0_1⟩ := hb0.cells2
  have hb0_l := hb0.lt
  obtain ⟨hb1_0, hb1_1⟩ := hb1.cells2
  have hb1_l := hb1.lt
  obtain ⟨hR0_0, hR0_1⟩ := hR0.cells2
  have hR0_l := hR0.lt
  obtain ⟨hR1_0, hR1_1⟩ := hR1.cells2
  have hR1_l := hR1.lt
  obtain ⟨hR2_0, hR2_1⟩ := hR2.cells2
  have hR2_l := hR2.lt
  go_wp2
  go_ret
  exact ⟨rfl, ht⟩

theorem lawRowBoat_all (k0 : Int) (k1 : Int) (A0 : Option Addr) (n0 c0 : Nat) (x0 : List Bool) (t0 : Bool) (A1 : Option Addr) (n1 c1 : Nat) (x1 : List Int) (w : World) (h0 : Holds w A0 (bits x0)) (hx0 : x0.length = n0) (hn0 : n0 ≤ 9223372036854775807) (h1 : Holds w A1 (nums x1)) (hx1 : x1.length = n1) (hn1 : n1 ≤ 9223372036854775807) :
    Calls Try.prog 4 #[.agg #[.int .i64 k0, .int .i64 k1], .agg #[.slice A0 n0 c0, .bool t0], .slice A1 n1 c1] w fun e w' => e = .returned (.bool true) ∧ Below w.heap.size w w' := by
  rcases (inferInstance : Decidable ((n1 : Int) ≤ 1048576)) with g0 | g0
  · exact lawRowBoat_big0 k0 k1 A0 n0 c0 x0 t0 A1 n1 c1 x1 w h0 hx0 hn0 h1 hx1 hn1  (by omega)
  rcases (inferInstance : Decidable (0 ≤ 1048576 - (n0 : Int))) with g1 | g1
  · exact lawRowBoat_big1 k0 k1 A0 n0 c0 x0 t0 A1 n1 c1 x1 w h0 hx0 hn0 h1 hx1 hn1 g0 (by omega)
  exact lawRowBoat_small k0 k1 A0 n0 c0 x0 t0 A1 n1 c1 x1 w h0 hx0 hn0 h1 hx1 hn1 g0 g1
end Go.Proofs.Ytjadoehdhbilcaa
