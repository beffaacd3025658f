/-
  What is proved: a contract of the model's RowBoat. Conditions: the arguments are read as they lie.
  What is proved: plain facts on lists of lists that a call hands back. Conditions: none.
  What is proved: a contract of the model's RowsOf. Conditions: the arguments are read as they lie.
  What is proved: a contract of the program's RowsOf. Conditions: the arguments are read as they lie.
  What is proved: the law FnExactRowsOf returns true at every argument, and leaves all that was there as it was. Conditions: the arguments are read as they lie.
-/
import Derived.Deep.DeepCutAuto
import Derived.Deep.RegionHeld3
import Derived.Test.YtjkiclhihhhpmaaJ5RowsOf
namespace Go.Proofs.Ytjkiclhihhhpmaa
open Go.RowKit

theorem size_st : (Try.prog.info? 41).map (·.size) = some 2 := by kernel_rfl
theorem Fresh.only {w w' : World} {lo hi b : Nat} {ty : TypeId} {A : Option Addr} {xs : List Value} (hf : Fresh w lo hi ty A xs) (o : Only b w w') (hb : b < lo) : Fresh w' lo hi ty A xs := by
  rcases hf with rfl | ⟨g, cs, hA, h1, h2, hw, h3, h4⟩
  · exact .inl rfl
  · exact .inr ⟨g, cs, hA, h1, h2, o.whole hw (by omega), h3, h4⟩
/-- Is the list a row in a calm state? -/
noncomputable def boatOk (a b : Int) (bs : List Bool) (t : Bool) (l : List Int) : Bool := calmIn a b bs t && tripM a.toNat b (codeOf bs t) l
noncomputable def boatBits (a b : Int) (bs : List Bool) (t : Bool) (l : List Int) : List Bool := if boatOk a b bs t l then flipped bs l else []
noncomputable def boatTorch (a b : Int) (bs : List Bool) (t : Bool) (l : List Int) : Bool := boatOk a b bs t l && !t
theorem boat_no {a b : Int} {bs : List Bool} {t : Bool} {l : List Int} (h : boatOk a b bs t l = false) : boatBits a b bs t l = [] ∧ boatTorch a b bs t l = false ∧ boatOk a b bs t l = false := by simp [boatBits, boatTorch, h]
theorem boat_yes {a b : Int} {bs : List Bool} {t : Bool} {l : List Int} (h : boatOk a b bs t l = true) : boatBits a b bs t l = flipped bs l ∧ boatTorch a b bs t l = !t ∧ boatOk a b bs t l = true := by simp [boatBits, boatTorch, h]
theorem bits_back {n : Nat} {cs : List Bool} {u : Bool} (h : cs.length = n) : bitsOf (codeOf cs u / 2) n = cs := by
  refine List.ext_getElem (by rw [bitsOf_len, h]) fun i h1 h2 => ?_
  have hb := bit_maskUp (fun i => cs.getD i false) cs.length i
  rw [← code_half cs u] at hb
  simp only [bitsOf, List.getElem_map, List.getElem_range]
  rw [hb]
  simp [h2]
theorem torch_back (cs : List Bool) (u : Bool) : bitAt (codeOf cs u) 0 = u := by rw [bit_code]; rfl

set_option maxHeartbeats 12800000 in
set_option maxRecDepth 100000 in
set_option linter.unusedSimpArgs false in
theorem specRowBoat_any (a b : Int) (B D : Option Addr) (m d q z : Nat) (bs : List Bool) (t : Bool) (l : List Int) (w : World) (hB : Holds w B (bits bs)) (hD : Holds w D (nums l)) (hy : bs.length = m) (hz : l.length = q) (hm : m ≤ 9223372036854775807) (hq : q ≤ 9223372036854775807) :
    Calls Try.prog 31 #[.agg #[.int .i64 a, .int .i64 b], .agg #[.slice B m d, .bool t], .slice D q z] w (StatePost (boatBits a b bs t l) (boatTorch a b bs t l) (boatOk a b bs t l) w) := by
  have HY := Lib.hid hy
  have HZ := Lib.hid hz
  have hB2 := ((hB.alloc (.cells #[.int .i64 a, .int .i64 b] 39)).alloc (.cells #[.slice B m d, .bool t] 41)).alloc (.cells #[.slice none 0 0, .bool false] 41)
  have hD2 := ((hD.alloc (.cells #[.int .i64 a, .int .i64 b] 39)).alloc (.cells #[.slice B m d, .bool t] 41)).alloc (.cells #[.slice none 0 0, .bool false] 41)
  have hc := ((Whole.fresh w 39 #[.int .i64 a, .int .i64 b]).alloc (.cells #[.slice B m d, .bool t] 41)).alloc (.cells #[.slice none 0 0, .bool false] 41)
  have hs := (Whole.fresh (w.alloc (.cells #[.int .i64 a, .int .i64 b] 39)) 41 #[.slice B m d, .bool t]).alloc (.cells #[.slice none 0 0, .bool false] 41)
  have hr := Whole.fresh ((w.alloc (.cells #[.int .i64 a, .int .i64 b] 39)).alloc (.cells #[.slice B m d, .bool t] 41)) 41 #[.slice none 0 0, .bool false]
  have ht := below3 w (.cells #[.int .i64 a, .int .i64 b] 39) (.cells #[.slice B m d, .bool t] 41) (.cells #[.slice none 0 0, .bool false] 41)
  rw [World.size_alloc] at hs
  rw [World.size_alloc, World.size_alloc] at hr
  cases h1 : isPlace a b bs t
  · obtain ⟨f1, f2, f3⟩ := boat_no (l := l) (show boatOk a b bs t l = false by simp [boatOk, calmIn_no h1])
    rw [f1, f2, f3]
    have H1 := Lib.hid h1
    clear h1 hy hz f1 f2 f3 hB hD
    go_enter Try.func31, Try.ntmps31
    go_wp2_with fail
    refine wp_region_held_drew (S := (Boxes2 w.heap.size (w.heap.size + 1) (.int .i64 a) (.int .i64 b) (.slice B m d) (.bool t))) (by kernel_rfl) (boxes2_of hc.drew hs.drew) (fun hHeld => ?_)
    replace ht := ht.drew
    replace hc := hc.drew
    replace hs := hs.drew
    replace hr := hr.drew
    replace hB2 := hB2.drew
    replace hD2 := hD2.drew
    refine wpAnyH_take (i := 0) (v := ?_) rfl (by kernel_rfl) (by kernel_rfl) (by kernel_rfl) (fun _ _ _ h => h) (Or.inl ⟨rfl, ?_⟩) hHeld ?_
    rotate_left
    · intro w' hS; obtain ⟨s0, s1, s2, s3⟩ := hS; go_simp <;> with_reducible rfl
    simp only [Act.put, List.getElem_toArray, List.getElem_cons_succ, List.getElem_cons_zero, List.setIfInBounds_toArray, List.set_cons_succ, List.set_cons_zero]
    refine wpAnyH_take (i := 1) (v := ?_) rfl (by kernel_rfl) (by kernel_rfl) (by kernel_rfl) (fun _ _ _ h => h) (Or.inl ⟨rfl, ?_⟩) hHeld ?_
    rotate_left
    · intro w' hS; obtain ⟨s0, s1, s2, s3⟩ := hS; go_simp <;> with_reducible rfl
    simp only [Act.put, List.getElem_toArray, List.getElem_cons_succ, List.getElem_cons_zero, List.setIfInBounds_toArray, List.set_cons_succ, List.set_cons_zero]
    refine wpAnyH_ready (rs := [2]) (by kernel_rfl) (by simp) (AllReadyH.cons rfl (fun K hK => ?_) AllReadyH.nil)
    go_simp
    refine (cuIs_any a b B m d bs t _ hB2 HY.out hm).mono ?_
    rintro e w1 ⟨rfl, hb⟩
    rw [H1.out]
    replace ht := below_then ht hb ht.size
    replace hc := hc.below hb
    replace hs := hs.below hb
    replace hr := hr.below hb
    replace hB2 := hB2.below hb
    replace hD2 := hD2.below hb
    clear hb
    refine hK.out _ _ (boxes2_of hc hs) (fun hHeld => ?_)
    clear hK K
    try simp only [Act.put, List.getElem_toArray, List.getElem_cons_succ, List.getElem_cons_zero, List.setIfInBounds_toArray, List.set_cons_succ, List.set_cons_zero]
    refine wpAnyH_take (i := 3) (v := ?_) rfl (by kernel_rfl) (by kernel_rfl) (by kernel_rfl) (fun _ _ _ h => h) (Or.inl ⟨rfl, ?_⟩) hHeld ?_
    rotate_left
    · intro w' hS; obtain ⟨s0, s1, s2, s3⟩ := hS; go_simp <;> with_reducible rfl
    simp only [Act.put, List.getElem_toArray, List.getElem_cons_succ, List.getElem_cons_zero, List.setIfInBounds_toArray, List.set_cons_succ, List.set_cons_zero]
    refine wpAnyH_take (i := 4) (v := ?_) rfl (by kernel_rfl) (by kernel_rfl) (by kernel_rfl) (fun _ _ _ h => h) (Or.inl ⟨rfl, ?_⟩) hHeld ?_
    rotate_left
    · intro w' hS; obtain ⟨s0, s1, s2, s3⟩ := hS; go_simp <;> with_reducible rfl
    simp only [Act.put, List.getElem_toArray, List.getElem_cons_succ, List.getElem_cons_zero, List.setIfInBounds_toArray, List.set_cons_succ, List.set_cons_zero]
    refine wpAnyH_take (i := 5) (v := undef) rfl (by kernel_rfl) (by kernel_rfl) (by kernel_rfl) (fun _ _ _ h => h) (Or.inr ⟨by simp [Region.wanted, yielded], rfl⟩) hHeld ?_
    simp only [Act.put, List.getElem_toArray, List.getElem_cons_succ, List.getElem_cons_zero, List.setIfInBounds_toArray, List.set_cons_succ, List.set_cons_zero]
    refine wpAnyH_take (i := 6) (v := undef) rfl (by kernel_rfl) (by kernel_rfl) (by kernel_rfl) (fun _ _ _ h => h) (Or.inr ⟨by simp [Region.wanted, yielded], rfl⟩) hHeld ?_
    simp only [Act.put, List.getElem_toArray, List.getElem_cons_succ, List.getElem_cons_zero, List.setIfInBounds_toArray, List.set_cons_succ, List.set_cons_zero]
    refine wpAnyH_take (i := 7) (v := undef) rfl (by kernel_rfl) (by kernel_rfl) (by kernel_rfl) (fun _ _ _ h => h) (Or.inr ⟨by simp [Region.wanted, yielded], rfl⟩) hHeld ?_
    simp only [Act.put, List.getElem_toArray, List.getElem_cons_succ, List.getElem_cons_zero, List.setIfInBounds_toArray, List.set_cons_succ, List.set_cons_zero]
    refine wpAnyH_take (i := 8) (v := undef) rfl (by kernel_rfl) (by kernel_rfl) (by kernel_rfl) (fun _ _ _ h => h) (Or.inr ⟨by simp [Region.wanted, yielded], rfl⟩) hHeld ?_
    simp only [Act.put, List.getElem_toArray, List.getElem_cons_succ, List.getElem_cons_zero, List.setIfInBounds_toArray, List.set_cons_succ, List.set_cons_zero]
    refine wpAnyH_take (i := 9) (v := undef) rfl (by kernel_rfl) (by kernel_rfl) (by kernel_rfl) (fun _ _ _ h => h) (Or.inr ⟨by simp [Region.wanted, yielded], rfl⟩) hHeld ?_
    simp only [Act.put, List.getElem_toArray, List.getElem_cons_succ, List.getElem_cons_zero, List.setIfInBounds_toArray, List.set_cons_succ, List.set_cons_zero]
    refine wpAnyH_take (i := 10) (v := ?_) rfl (by kernel_rfl) (by kernel_rfl) (by kernel_rfl) (fun _ _ _ h => h) (Or.inl ⟨rfl, ?_⟩) hHeld ?_
    rotate_left
    · intro w' hS; obtain ⟨s0, s1, s2, s3⟩ := hS; go_simp <;> with_reducible rfl
    simp only [Act.put, List.getElem_toArray, List.getElem_cons_succ, List.getElem_cons_zero, List.setIfInBounds_toArray, List.set_cons_succ, List.set_cons_zero]
    refine wpAnyH_take (i := 11) (v := ?_) rfl (by kernel_rfl) (by kernel_rfl) (by kernel_rfl) (fun _ _ _ h => h) (Or.inl ⟨rfl, ?_⟩) hHeld ?_
    rotate_left
    · intro w' hS; obtain ⟨s0, s1, s2, s3⟩ := hS; go_simp <;> with_reducible rfl
    simp only [Act.put, List.getElem_toArray, List.getElem_cons_succ, List.getElem_cons_zero, List.setIfInBounds_toArray, List.set_cons_succ, List.set_cons_zero]
    refine wpAnyH_take (i := 12) (v := undef) rfl (by kernel_rfl) (by kernel_rfl) (by kernel_rfl) (fun _ _ _ h => h) (Or.inr ⟨by simp [Region.wanted, yielded], rfl⟩) hHeld ?_
    simp only [Act.put, List.getElem_toArray, List.getElem_cons_succ, List.getElem_cons_zero, List.setIfInBounds_toArray, List.set_cons_succ, List.set_cons_zero]
    refine wpAnyH_take (i := 13) (v := undef) rfl (by kernel_rfl) (by kernel_rfl) (by kernel_rfl) (fun _ _ _ h => h) (Or.inr ⟨by simp [Region.wanted, yielded], rfl⟩) hHeld ?_
    simp only [Act.put, List.getElem_toArray, List.getElem_cons_succ, List.getElem_cons_zero, List.setIfInBounds_toArray, List.set_cons_succ, List.set_cons_zero]
    refine wpAnyH_take (i := 14) (v := undef) rfl (by kernel_rfl) (by kernel_rfl) (by kernel_rfl) (fun _ _ _ h => h) (Or.inr ⟨by simp [Region.wanted, yielded], rfl⟩) hHeld ?_
    simp only [Act.put, List.getElem_toArray, List.getElem_cons_succ, List.getElem_cons_zero, List.setIfInBounds_toArray, List.set_cons_succ, List.set_cons_zero]
    refine wpAnyH_take (i := 15) (v := undef) rfl (by kernel_rfl) (by kernel_rfl) (by kernel_rfl) (fun _ _ _ h => h) (Or.inr ⟨by simp [Region.wanted, yielded], rfl⟩) hHeld ?_
    simp only [Act.put, List.getElem_toArray, List.getElem_cons_succ, List.getElem_cons_zero, List.setIfInBounds_toArray, List.set_cons_succ, List.set_cons_zero]
    refine wpAnyH_take (i := 16) (v := undef) rfl (by kernel_rfl) (by kernel_rfl) (by kernel_rfl) (fun _ _ _ h => h) (Or.inr ⟨by simp [Region.wanted, yielded], rfl⟩) hHeld ?_
    simp only [Act.put, List.getElem_toArray, List.getElem_cons_succ, List.getElem_cons_zero, List.setIfInBounds_toArray, List.set_cons_succ, List.set_cons_zero]
    refine wpAnyH_take (i := 17) (v := undef) rfl (by kernel_rfl) (by kernel_rfl) (by kernel_rfl) (fun _ _ _ h => h) (Or.inr ⟨by simp [Region.wanted, yielded], rfl⟩) hHeld ?_
    simp only [Act.put, List.getElem_toArray, List.getElem_cons_succ, List.getElem_cons_zero, List.setIfInBounds_toArray, List.set_cons_succ, List.set_cons_zero]
    refine wpAnyH_take (i := 18) (v := ?_) rfl (by kernel_rfl) (by kernel_rfl) (by kernel_rfl) (fun _ _ _ h => h) (Or.inl ⟨rfl, ?_⟩) hHeld ?_
    rotate_left
    · intro w' hS; obtain ⟨s0, s1, s2, s3⟩ := hS; go_simp <;> with_reducible rfl
    simp only [Act.put, List.getElem_toArray, List.getElem_cons_succ, List.getElem_cons_zero, List.setIfInBounds_toArray, List.set_cons_succ, List.set_cons_zero]
    refine wpAnyH_done (by kernel_rfl) ?_ _
    clear hHeld
    obtain ⟨r0, r1, g0, g1⟩ := hr.two
    clear hc hs hr hB2 hD2
    go_wp2
    refine bodyPost_ret (v := .tuple #[.agg #[.slice none 0 0, .bool false], .bool false]) (by simp [results, Try.results31, go_sem, r0, r1]) rfl ⟨none, 0, rfl, .inl rfl, below_set (below_set ht (by omega)) (by omega)⟩
  obtain ⟨k, rfl, hk1, hk, -, -, -, -, hl⟩ := place_co h1
  have HQ := Lib.hid (quiet_code (c := k) (t := t) hl)
  have HLT := Lib.hid (show codeOf bs t / 2 < 2 ^ (2 * k) by rw [← hl]; exact code_lt bs t)
  have H1 := Lib.hid h1
  have hm8 : m ≤ 8 := by omega
  have hcy := calmIn_yes h1
  cases h2 : quiet k (fun i => bs.getD i false)
  · obtain ⟨f1, f2, f3⟩ := boat_no (l := l) (show boatOk k b bs t l = false by rw [boatOk, hcy, h2]; rfl)
    rw [f1, f2, f3]
    have H2 := Lib.hid h2
    clear h1 h2 hcy hy hz hl f1 f2 f3 hB hD
    go_enter Try.func31, Try.ntmps31
    go_wp2_with fail
    refine wp_region_held_drew (S := (Boxes2 w.heap.size (w.heap.size + 1) (.int .i64 k) (.int .i64 b) (.slice B m d) (.bool t))) (by kernel_rfl) (boxes2_of hc.drew hs.drew) (fun hHeld => ?_)
    replace ht := ht.drew
    replace hc := hc.drew
    replace hs := hs.drew
    replace hr := hr.drew
    replace hB2 := hB2.drew
    replace hD2 := hD2.drew
    refine wpAnyH_take (i := 0) (v := ?_) rfl (by kernel_rfl) (by kernel_rfl) (by kernel_rfl) (fun _ _ _ h => h) (Or.inl ⟨rfl, ?_⟩) hHeld ?_
    rotate_left
    · intro w' hS; obtain ⟨s0, s1, s2, s3⟩ := hS; go_simp <;> with_reducible rfl
    simp only [Act.put, List.getElem_toArray, List.getElem_cons_succ, List.getElem_cons_zero, List.setIfInBounds_toArray, List.set_cons_succ, List.set_cons_zero]
    refine wpAnyH_take (i := 1) (v := ?_) rfl (by kernel_rfl) (by kernel_rfl) (by kernel_rfl) (fun _ _ _ h => h) (Or.inl ⟨rfl, ?_⟩) hHeld ?_
    rotate_left
    · intro w' hS; obtain ⟨s0, s1, s2, s3⟩ := hS; go_simp <;> with_reducible rfl
    simp only [Act.put, List.getElem_toArray, List.getElem_cons_succ, List.getElem_cons_zero, List.setIfInBounds_toArray, List.set_cons_succ, List.set_cons_zero]
    refine wpAnyH_ready (rs := [2]) (by kernel_rfl) (by simp) (AllReadyH.cons rfl (fun K hK => ?_) AllReadyH.nil)
    go_simp
    refine (cuIs_any k b B m d bs t _ hB2 HY.out hm).mono ?_
    rintro e w1 ⟨rfl, hb⟩
    rw [H1.out]
    replace ht := below_then ht hb ht.size
    replace hc := hc.below hb
    replace hs := hs.below hb
    replace hr := hr.below hb
    replace hB2 := hB2.below hb
    replace hD2 := hD2.below hb
    clear hb
    refine hK.out _ _ (boxes2_of hc hs) (fun hHeld => ?_)
    clear hK K
    try simp only [Act.put, List.getElem_toArray, List.getElem_cons_succ, List.getElem_cons_zero, List.setIfInBounds_toArray, List.set_cons_succ, List.set_cons_zero]
    refine wpAnyH_take (i := 3) (v := ?_) rfl (by kernel_rfl) (by kernel_rfl) (by kernel_rfl) (fun _ _ _ h => h) (Or.inl ⟨rfl, ?_⟩) hHeld ?_
    rotate_left
    · intro w' hS; obtain ⟨s0, s1, s2, s3⟩ := hS; go_simp <;> with_reducible rfl
    simp only [Act.put, List.getElem_toArray, List.getElem_cons_succ, List.getElem_cons_zero, List.setIfInBounds_toArray, List.set_cons_succ, List.set_cons_zero]
    refine wpAnyH_take (i := 4) (v := ?_) rfl (by kernel_rfl) (by kernel_rfl) (by kernel_rfl) (fun _ _ _ h => h) (Or.inl ⟨rfl, ?_⟩) hHeld ?_
    rotate_left
    · intro w' hS; obtain ⟨s0, s1, s2, s3⟩ := hS; go_simp <;> with_reducible rfl
    simp only [Act.put, List.getElem_toArray, List.getElem_cons_succ, List.getElem_cons_zero, List.setIfInBounds_toArray, List.set_cons_succ, List.set_cons_zero]
    refine wpAnyH_take (i := 5) (v := ?_) rfl (by kernel_rfl) (by kernel_rfl) (by kernel_rfl) (fun _ _ _ h => h) (Or.inl ⟨rfl, ?_⟩) hHeld ?_
    rotate_left
    · intro w' hS; obtain ⟨s0, s1, s2, s3⟩ := hS; go_simp <;> with_reducible rfl
    simp only [Act.put, List.getElem_toArray, List.getElem_cons_succ, List.getElem_cons_zero, List.setIfInBounds_toArray, List.set_cons_succ, List.set_cons_zero]
    refine wpAnyH_take (i := 6) (v := ?_) rfl (by kernel_rfl) (by kernel_rfl) (by kernel_rfl) (fun _ _ _ h => h) (Or.inl ⟨rfl, ?_⟩) hHeld ?_
    rotate_left
    · intro w' hS; obtain ⟨s0, s1, s2, s3⟩ := hS; go_simp <;> with_reducible rfl
    simp only [Act.put, List.getElem_toArray, List.getElem_cons_succ, List.getElem_cons_zero, List.setIfInBounds_toArray, List.set_cons_succ, List.set_cons_zero]
    refine wpAnyH_ready (rs := [7]) (by kernel_rfl) (by simp) (AllReadyH.cons rfl (fun K hK => ?_) AllReadyH.nil)
    go_simp
    refine (cuCode_any B m d bs t _ hB2 HY.out (by omega)).mono ?_
    rintro e w2 ⟨rfl, hb⟩
    replace ht := below_then ht hb ht.size
    replace hc := hc.below hb
    replace hs := hs.below hb
    replace hr := hr.below hb
    replace hB2 := hB2.below hb
    replace hD2 := hD2.below hb
    clear hb
    refine hK.out _ _ (boxes2_of hc hs) (fun hHeld => ?_)
    clear hK K
    try simp only [Act.put, List.getElem_toArray, List.getElem_cons_succ, List.getElem_cons_zero, List.setIfInBounds_toArray, List.set_cons_succ, List.set_cons_zero]
    refine wpAnyH_ready (rs := [8]) (by kernel_rfl) (by simp) (AllReadyH.cons rfl (fun K hK => ?_) AllReadyH.nil)
    go_simp
    refine (cuQuiet_any k _ b _ (by omega) HLT.out).mono ?_
    rintro e w3 ⟨rfl, hb⟩
    rw [HQ.out, H2.out]
    replace ht := below_then ht hb ht.size
    replace hc := hc.below hb
    replace hs := hs.below hb
    replace hr := hr.below hb
    replace hB2 := hB2.below hb
    replace hD2 := hD2.below hb
    clear hb
    refine hK.out _ _ (boxes2_of hc hs) (fun hHeld => ?_)
    clear hK K
    try simp only [Act.put, List.getElem_toArray, List.getElem_cons_succ, List.getElem_cons_zero, List.setIfInBounds_toArray, List.set_cons_succ, List.set_cons_zero]
    refine wpAnyH_take (i := 9) (v := ?_) rfl (by kernel_rfl) (by kernel_rfl) (by kernel_rfl) (fun _ _ _ h => h) (Or.inl ⟨rfl, ?_⟩) hHeld ?_
    rotate_left
    · intro w' hS; obtain ⟨s0, s1, s2, s3⟩ := hS; go_simp <;> with_reducible rfl
    simp only [Act.put, List.getElem_toArray, List.getElem_cons_succ, List.getElem_cons_zero, List.setIfInBounds_toArray, List.set_cons_succ, List.set_cons_zero]
    refine wpAnyH_take (i := 10) (v := ?_) rfl (by kernel_rfl) (by kernel_rfl) (by kernel_rfl) (fun _ _ _ h => h) (Or.inl ⟨rfl, ?_⟩) hHeld ?_
    rotate_left
    · intro w' hS; obtain ⟨s0, s1, s2, s3⟩ := hS; go_simp <;> with_reducible rfl
    simp only [Act.put, List.getElem_toArray, List.getElem_cons_succ, List.getElem_cons_zero, List.setIfInBounds_toArray, List.set_cons_succ, List.set_cons_zero]
    refine wpAnyH_take (i := 11) (v := ?_) rfl (by kernel_rfl) (by kernel_rfl) (by kernel_rfl) (fun _ _ _ h => h) (Or.inl ⟨rfl, ?_⟩) hHeld ?_
    rotate_left
    · intro w' hS; obtain ⟨s0, s1, s2, s3⟩ := hS; go_simp <;> with_reducible rfl
    simp only [Act.put, List.getElem_toArray, List.getElem_cons_succ, List.getElem_cons_zero, List.setIfInBounds_toArray, List.set_cons_succ, List.set_cons_zero]
    refine wpAnyH_take (i := 12) (v := undef) rfl (by kernel_rfl) (by kernel_rfl) (by kernel_rfl) (fun _ _ _ h => h) (Or.inr ⟨by simp [Region.wanted, yielded], rfl⟩) hHeld ?_
    simp only [Act.put, List.getElem_toArray, List.getElem_cons_succ, List.getElem_cons_zero, List.setIfInBounds_toArray, List.set_cons_succ, List.set_cons_zero]
    refine wpAnyH_take (i := 13) (v := undef) rfl (by kernel_rfl) (by kernel_rfl) (by kernel_rfl) (fun _ _ _ h => h) (Or.inr ⟨by simp [Region.wanted, yielded], rfl⟩) hHeld ?_
    simp only [Act.put, List.getElem_toArray, List.getElem_cons_succ, List.getElem_cons_zero, List.setIfInBounds_toArray, List.set_cons_succ, List.set_cons_zero]
    refine wpAnyH_take (i := 14) (v := undef) rfl (by kernel_rfl) (by kernel_rfl) (by kernel_rfl) (fun _ _ _ h => h) (Or.inr ⟨by simp [Region.wanted, yielded], rfl⟩) hHeld ?_
    simp only [Act.put, List.getElem_toArray, List.getElem_cons_succ, List.getElem_cons_zero, List.setIfInBounds_toArray, List.set_cons_succ, List.set_cons_zero]
    refine wpAnyH_take (i := 15) (v := undef) rfl (by kernel_rfl) (by kernel_rfl) (by kernel_rfl) (fun _ _ _ h => h) (Or.inr ⟨by simp [Region.wanted, yielded], rfl⟩) hHeld ?_
    simp only [Act.put, List.getElem_toArray, List.getElem_cons_succ, List.getElem_cons_zero, List.setIfInBounds_toArray, List.set_cons_succ, List.set_cons_zero]
    refine wpAnyH_take (i := 16) (v := undef) rfl (by kernel_rfl) (by kernel_rfl) (by kernel_rfl) (fun _ _ _ h => h) (Or.inr ⟨by simp [Region.wanted, yielded], rfl⟩) hHeld ?_
    simp only [Act.put, List.getElem_toArray, List.getElem_cons_succ, List.getElem_cons_zero, List.setIfInBounds_toArray, List.set_cons_succ, List.set_cons_zero]
    refine wpAnyH_take (i := 17) (v := undef) rfl (by kernel_rfl) (by kernel_rfl) (by kernel_rfl) (fun _ _ _ h => h) (Or.inr ⟨by simp [Region.wanted, yielded], rfl⟩) hHeld ?_
    simp only [Act.put, List.getElem_toArray, List.getElem_cons_succ, List.getElem_cons_zero, List.setIfInBounds_toArray, List.set_cons_succ, List.set_cons_zero]
    refine wpAnyH_take (i := 18) (v := ?_) rfl (by kernel_rfl) (by kernel_rfl) (by kernel_rfl) (fun _ _ _ h => h) (Or.inl ⟨rfl, ?_⟩) hHeld ?_
    rotate_left
    · intro w' hS; obtain ⟨s0, s1, s2, s3⟩ := hS; go_simp <;> with_reducible rfl
    simp only [Act.put, List.getElem_toArray, List.getElem_cons_succ, List.getElem_cons_zero, List.setIfInBounds_toArray, List.set_cons_succ, List.set_cons_zero]
    refine wpAnyH_done (by kernel_rfl) ?_ _
    clear hHeld
    obtain ⟨r0, r1, g0, g1⟩ := hr.two
    clear hc hs hr hB2 hD2
    go_wp2
    refine bodyPost_ret (v := .tuple #[.agg #[.slice none 0 0, .bool false], .bool false]) (by simp [results, Try.results31, go_sem, r0, r1]) rfl ⟨none, 0, rfl, .inl rfl, below_set (below_set ht (by omega)) (by omega)⟩
  have H2 := Lib.hid h2
  cases h3 : tripM k b (codeOf bs t) l
  · obtain ⟨f1, f2, f3⟩ := boat_no (show boatOk k b bs t l = false by simp [boatOk, h3])
    rw [f1, f2, f3]
    have H3 := Lib.hid h3
    clear h1 h2 h3 hcy hy hz hl f1 f2 f3 hB hD
    go_enter Try.func31, Try.ntmps31
    go_wp2_with fail
    refine wp_region_held_drew (S := (Boxes2 w.heap.size (w.heap.size + 1) (.int .i64 k) (.int .i64 b) (.slice B m d) (.bool t))) (by kernel_rfl) (boxes2_of hc.drew hs.drew) (fun hHeld => ?_)
    replace ht := ht.drew
    replace hc := hc.drew
    replace hs := hs.drew
    replace hr := hr.drew
    replace hB2 := hB2.drew
    replace hD2 := hD2.drew
    refine wpAnyH_take (i := 0) (v := ?_) rfl (by kernel_rfl) (by kernel_rfl) (by kernel_rfl) (fun _ _ _ h => h) (Or.inl ⟨rfl, ?_⟩) hHeld ?_
    rotate_left
    · intro w' hS; obtain ⟨s0, s1, s2, s3⟩ := hS; go_simp <;> with_reducible rfl
    simp only [Act.put, List.getElem_toArray, List.getElem_cons_succ, List.getElem_cons_zero, List.setIfInBounds_toArray, List.set_cons_succ, List.set_cons_zero]
    refine wpAnyH_take (i := 1) (v := ?_) rfl (by kernel_rfl) (by kernel_rfl) (by kernel_rfl) (fun _ _ _ h => h) (Or.inl ⟨rfl, ?_⟩) hHeld ?_
    rotate_left
    · intro w' hS; obtain ⟨s0, s1, s2, s3⟩ := hS; go_simp <;> with_reducible rfl
    simp only [Act.put, List.getElem_toArray, List.getElem_cons_succ, List.getElem_cons_zero, List.setIfInBounds_toArray, List.set_cons_succ, List.set_cons_zero]
    refine wpAnyH_ready (rs := [2]) (by kernel_rfl) (by simp) (AllReadyH.cons rfl (fun K hK => ?_) AllReadyH.nil)
    go_simp
    refine (cuIs_any k b B m d bs t _ hB2 HY.out hm).mono ?_
    rintro e w1 ⟨rfl, hb⟩
    rw [H1.out]
    replace ht := below_then ht hb ht.size
    replace hc := hc.below hb
    replace hs := hs.below hb
    replace hr := hr.below hb
    replace hB2 := hB2.below hb
    replace hD2 := hD2.below hb
    clear hb
    refine hK.out _ _ (boxes2_of hc hs) (fun hHeld => ?_)
    clear hK K
    try simp only [Act.put, List.getElem_toArray, List.getElem_cons_succ, List.getElem_cons_zero, List.setIfInBounds_toArray, List.set_cons_succ, List.set_cons_zero]
    refine wpAnyH_take (i := 3) (v := ?_) rfl (by kernel_rfl) (by kernel_rfl) (by kernel_rfl) (fun _ _ _ h => h) (Or.inl ⟨rfl, ?_⟩) hHeld ?_
    rotate_left
    · intro w' hS; obtain ⟨s0, s1, s2, s3⟩ := hS; go_simp <;> with_reducible rfl
    simp only [Act.put, List.getElem_toArray, List.getElem_cons_succ, List.getElem_cons_zero, List.setIfInBounds_toArray, List.set_cons_succ, List.set_cons_zero]
    refine wpAnyH_take (i := 4) (v := ?_) rfl (by kernel_rfl) (by kernel_rfl) (by kernel_rfl) (fun _ _ _ h => h) (Or.inl ⟨rfl, ?_⟩) hHeld ?_
    rotate_left
    · intro w' hS; obtain ⟨s0, s1, s2, s3⟩ := hS; go_simp <;> with_reducible rfl
    simp only [Act.put, List.getElem_toArray, List.getElem_cons_succ, List.getElem_cons_zero, List.setIfInBounds_toArray, List.set_cons_succ, List.set_cons_zero]
    refine wpAnyH_take (i := 5) (v := ?_) rfl (by kernel_rfl) (by kernel_rfl) (by kernel_rfl) (fun _ _ _ h => h) (Or.inl ⟨rfl, ?_⟩) hHeld ?_
    rotate_left
    · intro w' hS; obtain ⟨s0, s1, s2, s3⟩ := hS; go_simp <;> with_reducible rfl
    simp only [Act.put, List.getElem_toArray, List.getElem_cons_succ, List.getElem_cons_zero, List.setIfInBounds_toArray, List.set_cons_succ, List.set_cons_zero]
    refine wpAnyH_take (i := 6) (v := ?_) rfl (by kernel_rfl) (by kernel_rfl) (by kernel_rfl) (fun _ _ _ h => h) (Or.inl ⟨rfl, ?_⟩) hHeld ?_
    rotate_left
    · intro w' hS; obtain ⟨s0, s1, s2, s3⟩ := hS; go_simp <;> with_reducible rfl
    simp only [Act.put, List.getElem_toArray, List.getElem_cons_succ, List.getElem_cons_zero, List.setIfInBounds_toArray, List.set_cons_succ, List.set_cons_zero]
    refine wpAnyH_ready (rs := [7]) (by kernel_rfl) (by simp) (AllReadyH.cons rfl (fun K hK => ?_) AllReadyH.nil)
    go_simp
    refine (cuCode_any B m d bs t _ hB2 HY.out (by omega)).mono ?_
    rintro e w2 ⟨rfl, hb⟩
    replace ht := below_then ht hb ht.size
    replace hc := hc.below hb
    replace hs := hs.below hb
    replace hr := hr.below hb
    replace hB2 := hB2.below hb
    replace hD2 := hD2.below hb
    clear hb
    refine hK.out _ _ (boxes2_of hc hs) (fun hHeld => ?_)
    clear hK K
    try simp only [Act.put, List.getElem_toArray, List.getElem_cons_succ, List.getElem_cons_zero, List.setIfInBounds_toArray, List.set_cons_succ, List.set_cons_zero]
    refine wpAnyH_ready (rs := [8]) (by kernel_rfl) (by simp) (AllReadyH.cons rfl (fun K hK => ?_) AllReadyH.nil)
    go_simp
    refine (cuQuiet_any k _ b _ (by omega) HLT.out).mono ?_
    rintro e w3 ⟨rfl, hb⟩
    rw [HQ.out, H2.out]
    replace ht := below_then ht hb ht.size
    replace hc := hc.below hb
    replace hs := hs.below hb
    replace hr := hr.below hb
    replace hB2 := hB2.below hb
    replace hD2 := hD2.below hb
    clear hb
    refine hK.out _ _ (boxes2_of hc hs) (fun hHeld => ?_)
    clear hK K
    try simp only [Act.put, List.getElem_toArray, List.getElem_cons_succ, List.getElem_cons_zero, List.setIfInBounds_toArray, List.set_cons_succ, List.set_cons_zero]
    refine wpAnyH_take (i := 9) (v := ?_) rfl (by kernel_rfl) (by kernel_rfl) (by kernel_rfl) (fun _ _ _ h => h) (Or.inl ⟨rfl, ?_⟩) hHeld ?_
    rotate_left
    · intro w' hS; obtain ⟨s0, s1, s2, s3⟩ := hS; go_simp <;> with_reducible rfl
    simp only [Act.put, List.getElem_toArray, List.getElem_cons_succ, List.getElem_cons_zero, List.setIfInBounds_toArray, List.set_cons_succ, List.set_cons_zero]
    refine wpAnyH_take (i := 10) (v := ?_) rfl (by kernel_rfl) (by kernel_rfl) (by kernel_rfl) (fun _ _ _ h => h) (Or.inl ⟨rfl, ?_⟩) hHeld ?_
    rotate_left
    · intro w' hS; obtain ⟨s0, s1, s2, s3⟩ := hS; go_simp <;> with_reducible rfl
    simp only [Act.put, List.getElem_toArray, List.getElem_cons_succ, List.getElem_cons_zero, List.setIfInBounds_toArray, List.set_cons_succ, List.set_cons_zero]
    refine wpAnyH_take (i := 11) (v := ?_) rfl (by kernel_rfl) (by kernel_rfl) (by kernel_rfl) (fun _ _ _ h => h) (Or.inl ⟨rfl, ?_⟩) hHeld ?_
    rotate_left
    · intro w' hS; obtain ⟨s0, s1, s2, s3⟩ := hS; go_simp <;> with_reducible rfl
    simp only [Act.put, List.getElem_toArray, List.getElem_cons_succ, List.getElem_cons_zero, List.setIfInBounds_toArray, List.set_cons_succ, List.set_cons_zero]
    refine wpAnyH_take (i := 12) (v := ?_) rfl (by kernel_rfl) (by kernel_rfl) (by kernel_rfl) (fun _ _ _ h => h) (Or.inl ⟨rfl, ?_⟩) hHeld ?_
    rotate_left
    · intro w' hS; obtain ⟨s0, s1, s2, s3⟩ := hS; go_simp <;> with_reducible rfl
    simp only [Act.put, List.getElem_toArray, List.getElem_cons_succ, List.getElem_cons_zero, List.setIfInBounds_toArray, List.set_cons_succ, List.set_cons_zero]
    refine wpAnyH_take (i := 13) (v := ?_) rfl (by kernel_rfl) (by kernel_rfl) (by kernel_rfl) (fun _ _ _ h => h) (Or.inl ⟨rfl, ?_⟩) hHeld ?_
    rotate_left
    · intro w' hS; obtain ⟨s0, s1, s2, s3⟩ := hS; go_simp <;> with_reducible rfl
    simp only [Act.put, List.getElem_toArray, List.getElem_cons_succ, List.getElem_cons_zero, List.setIfInBounds_toArray, List.set_cons_succ, List.set_cons_zero]
    refine wpAnyH_take (i := 15) (v := ?_) rfl (by kernel_rfl) (by kernel_rfl) (by kernel_rfl) (fun _ _ _ h => h) (Or.inl ⟨rfl, ?_⟩) hHeld ?_
    rotate_left
    · intro w' hS; obtain ⟨s0, s1, s2, s3⟩ := hS; go_simp <;> with_reducible rfl
    simp only [Act.put, List.getElem_toArray, List.getElem_cons_succ, List.getElem_cons_zero, List.setIfInBounds_toArray, List.set_cons_succ, List.set_cons_zero]
    refine wpAnyH_ready (rs := [14]) (by kernel_rfl) (by simp) (AllReadyH.cons rfl (fun K hK => ?_) AllReadyH.nil)
    go_simp
    refine (cuCode_any B m d bs t _ hB2 HY.out (by omega)).mono ?_
    rintro e w2 ⟨rfl, hb⟩
    replace ht := below_then ht hb ht.size
    replace hc := hc.below hb
    replace hs := hs.below hb
    replace hr := hr.below hb
    replace hB2 := hB2.below hb
    replace hD2 := hD2.below hb
    clear hb
    refine hK.out _ _ (boxes2_of hc hs) (fun hHeld => ?_)
    clear hK K
    try simp only [Act.put, List.getElem_toArray, List.getElem_cons_succ, List.getElem_cons_zero, List.setIfInBounds_toArray, List.set_cons_succ, List.set_cons_zero]
    refine wpAnyH_ready (rs := [16]) (by kernel_rfl) (by simp) (AllReadyH.cons rfl (fun K hK => ?_) AllReadyH.nil)
    go_simp
    refine (cuTrip_any k b _ D q z l _ hk HLT.out hD2 HZ.out hq).mono ?_
    rintro e w5 ⟨rfl, hb⟩
    rw [H3.out]
    replace ht := below_then ht hb ht.size
    replace hc := hc.below hb
    replace hs := hs.below hb
    replace hr := hr.below hb
    replace hB2 := hB2.below hb
    replace hD2 := hD2.below hb
    clear hb
    refine hK.out _ _ (boxes2_of hc hs) (fun hHeld => ?_)
    clear hK K
    try simp only [Act.put, List.getElem_toArray, List.getElem_cons_succ, List.getElem_cons_zero, List.setIfInBounds_toArray, List.set_cons_succ, List.set_cons_zero]
    refine wpAnyH_take (i := 17) (v := ?_) rfl (by kernel_rfl) (by kernel_rfl) (by kernel_rfl) (fun _ _ _ h => h) (Or.inl ⟨rfl, ?_⟩) hHeld ?_
    rotate_left
    · intro w' hS; obtain ⟨s0, s1, s2, s3⟩ := hS; go_simp <;> with_reducible rfl
    simp only [Act.put, List.getElem_toArray, List.getElem_cons_succ, List.getElem_cons_zero, List.setIfInBounds_toArray, List.set_cons_succ, List.set_cons_zero]
    refine wpAnyH_take (i := 18) (v := ?_) rfl (by kernel_rfl) (by kernel_rfl) (by kernel_rfl) (fun _ _ _ h => h) (Or.inl ⟨rfl, ?_⟩) hHeld ?_
    rotate_left
    · intro w' hS; obtain ⟨s0, s1, s2, s3⟩ := hS; go_simp <;> with_reducible rfl
    simp only [Act.put, List.getElem_toArray, List.getElem_cons_succ, List.getElem_cons_zero, List.setIfInBounds_toArray, List.set_cons_succ, List.set_cons_zero]
    refine wpAnyH_done (by kernel_rfl) ?_ _
    clear hHeld
    obtain ⟨r0, r1, g0, g1⟩ := hr.two
    clear hc hs hr hB2 hD2
    go_wp2
    refine bodyPost_ret (v := .tuple #[.agg #[.slice none 0 0, .bool false], .bool false]) (by simp [results, Try.results31, go_sem, r0, r1]) rfl ⟨none, 0, rfl, .inl rfl, below_set (below_set ht (by omega)) (by omega)⟩
  obtain ⟨f1, f2, f3⟩ := boat_yes (show boatOk k b bs t l = true by rw [boatOk, hcy, h2]; simpa using h3)
  rw [f1, f2, f3]
  have H3 := Lib.hid h3
  obtain ⟨hst, hmk⟩ := trip_mask hk h3
  have hbd : ∀ x ∈ l, 0 ≤ x ∧ x < ((2 * k : Nat) : Int) := fun x hx => by have := mem_steps hst hx; omega
  have hp := pow_c hk
  have hm8' : maskOf l < 256 := by omega
  have HST := Lib.hid hst
  have hwA : IntKind.i64.wrap (2 * (maskOf l : Int)) = 2 * (maskOf l : Int) := IntWalk.i64_in _ (by omega)
  have hwB : IntKind.i64.wrap (2 * (maskOf l : Int) + 1) = 2 * (maskOf l : Int) + 1 := IntWalk.i64_in _ (by omega)
  have hsc := step_code (t := t) hl hbd
  have hc9 : codeOf bs t / 2 < 256 := Nat.lt_of_lt_of_le HLT.out hp
  obtain ⟨X, hX⟩ : ∃ X : Nat, X = stepC (codeOf bs t) l := ⟨_, rfl⟩
  have HFL := Lib.hid (show (flipped bs l).length = 2 * k by rw [flipped_len]; exact hl)
  have HE1 : Hid (bitsOf (X / 2) (2 * k) = flipped bs l) := by show _ = _; rw [hX, hsc]; exact bits_back HFL.out
  have HE2 : Hid (bitAt X 0 = !t) := by show _ = _; rw [hX, hsc]; exact torch_back _ _
  have HXX : Hid (Go.bits .xor .i64 (codeOf bs t : Int) (2 * (maskOf l : Int) + 1) = (X : Int)) := by
    show _ = _
    rw [show (2 * (maskOf l : Int) + 1) = ((2 * maskOf l + 1 : Nat) : Int) by omega, bits_xor_nat _ _ (by omega) (by omega), hX]
    rfl
  replace hX : X < 1048576 := by
    have := stepC_lt (k := k) (l := l) HLT.out hmk
    rw [← hX] at this
    omega
  clear h1 h2 h3 hcy hy hz hl f1 f2 f3 hB hD hst hmk hbd hp hsc
  go_enter Try.func31, Try.ntmps31
  go_wp2_with fail
  refine wp_region_held_drew (S := (Boxes2 w.heap.size (w.heap.size + 1) (.int .i64 k) (.int .i64 b) (.slice B m d) (.bool t))) (by kernel_rfl) (boxes2_of hc.drew hs.drew) (fun hHeld => ?_)
  replace ht := ht.drew
  replace hc := hc.drew
  replace hs := hs.drew
  replace hr := hr.drew
  replace hB2 := hB2.drew
  replace hD2 := hD2.drew
  refine wpAnyH_take (i := 0) (v := ?_) rfl (by kernel_rfl) (by kernel_rfl) (by kernel_rfl) (fun _ _ _ h => h) (Or.inl ⟨rfl, ?_⟩) hHeld ?_
  rotate_left
  · intro w' hS; obtain ⟨s0, s1, s2, s3⟩ := hS; go_simp <;> with_reducible rfl
  simp only [Act.put, List.getElem_toArray, List.getElem_cons_succ, List.getElem_cons_zero, List.setIfInBounds_toArray, List.set_cons_succ, List.set_cons_zero]
  refine wpAnyH_take (i := 1) (v := ?_) rfl (by kernel_rfl) (by kernel_rfl) (by kernel_rfl) (fun _ _ _ h => h) (Or.inl ⟨rfl, ?_⟩) hHeld ?_
  rotate_left
  · intro w' hS; obtain ⟨s0, s1, s2, s3⟩ := hS; go_simp <;> with_reducible rfl
  simp only [Act.put, List.getElem_toArray, List.getElem_cons_succ, List.getElem_cons_zero, List.setIfInBounds_toArray, List.set_cons_succ, List.set_cons_zero]
  refine wpAnyH_ready (rs := [2]) (by kernel_rfl) (by simp) (AllReadyH.cons rfl (fun K hK => ?_) AllReadyH.nil)
  go_simp
  refine (cuIs_any k b B m d bs t _ hB2 HY.out hm).mono ?_
  rintro e w1 ⟨rfl, hb⟩
  rw [H1.out]
  replace ht := below_then ht hb ht.size
  replace hc := hc.below hb
  replace hs := hs.below hb
  replace hr := hr.below hb
  replace hB2 := hB2.below hb
  replace hD2 := hD2.below hb
  clear hb
  refine hK.out _ _ (boxes2_of hc hs) (fun hHeld => ?_)
  clear hK K
  try simp only [Act.put, List.getElem_toArray, List.getElem_cons_succ, List.getElem_cons_zero, List.setIfInBounds_toArray, List.set_cons_succ, List.set_cons_zero]
  refine wpAnyH_take (i := 3) (v := ?_) rfl (by kernel_rfl) (by kernel_rfl) (by kernel_rfl) (fun _ _ _ h => h) (Or.inl ⟨rfl, ?_⟩) hHeld ?_
  rotate_left
  · intro w' hS; obtain ⟨s0, s1, s2, s3⟩ := hS; go_simp <;> with_reducible rfl
  simp only [Act.put, List.getElem_toArray, List.getElem_cons_succ, List.getElem_cons_zero, List.setIfInBounds_toArray, List.set_cons_succ, List.set_cons_zero]
  refine wpAnyH_take (i := 4) (v := ?_) rfl (by kernel_rfl) (by kernel_rfl) (by kernel_rfl) (fun _ _ _ h => h) (Or.inl ⟨rfl, ?_⟩) hHeld ?_
  rotate_left
  · intro w' hS; obtain ⟨s0, s1, s2, s3⟩ := hS; go_simp <;> with_reducible rfl
  simp only [Act.put, List.getElem_toArray, List.getElem_cons_succ, List.getElem_cons_zero, List.setIfInBounds_toArray, List.set_cons_succ, List.set_cons_zero]
  refine wpAnyH_take (i := 5) (v := ?_) rfl (by kernel_rfl) (by kernel_rfl) (by kernel_rfl) (fun _ _ _ h => h) (Or.inl ⟨rfl, ?_⟩) hHeld ?_
  rotate_left
  · intro w' hS; obtain ⟨s0, s1, s2, s3⟩ := hS; go_simp <;> with_reducible rfl
  simp only [Act.put, List.getElem_toArray, List.getElem_cons_succ, List.getElem_cons_zero, List.setIfInBounds_toArray, List.set_cons_succ, List.set_cons_zero]
  refine wpAnyH_take (i := 6) (v := ?_) rfl (by kernel_rfl) (by kernel_rfl) (by kernel_rfl) (fun _ _ _ h => h) (Or.inl ⟨rfl, ?_⟩) hHeld ?_
  rotate_left
  · intro w' hS; obtain ⟨s0, s1, s2, s3⟩ := hS; go_simp <;> with_reducible rfl
  simp only [Act.put, List.getElem_toArray, List.getElem_cons_succ, List.getElem_cons_zero, List.setIfInBounds_toArray, List.set_cons_succ, List.set_cons_zero]
  refine wpAnyH_ready (rs := [7]) (by kernel_rfl) (by simp) (AllReadyH.cons rfl (fun K hK => ?_) AllReadyH.nil)
  go_simp
  refine (cuCode_any B m d bs t _ hB2 HY.out (by omega)).mono ?_
  rintro e w2 ⟨rfl, hb⟩
  replace ht := below_then ht hb ht.size
  replace hc := hc.below hb
  replace hs := hs.below hb
  replace hr := hr.below hb
  replace hB2 := hB2.below hb
  replace hD2 := hD2.below hb
  clear hb
  refine hK.out _ _ (boxes2_of hc hs) (fun hHeld => ?_)
  clear hK K
  try simp only [Act.put, List.getElem_toArray, List.getElem_cons_succ, List.getElem_cons_zero, List.setIfInBounds_toArray, List.set_cons_succ, List.set_cons_zero]
  refine wpAnyH_ready (rs := [8]) (by kernel_rfl) (by simp) (AllReadyH.cons rfl (fun K hK => ?_) AllReadyH.nil)
  go_simp
  refine (cuQuiet_any k _ b _ (by omega) HLT.out).mono ?_
  rintro e w3 ⟨rfl, hb⟩
  rw [HQ.out, H2.out]
  replace ht := below_then ht hb ht.size
  replace hc := hc.below hb
  replace hs := hs.below hb
  replace hr := hr.below hb
  replace hB2 := hB2.below hb
  replace hD2 := hD2.below hb
  clear hb
  refine hK.out _ _ (boxes2_of hc hs) (fun hHeld => ?_)
  clear hK K
  try simp only [Act.put, List.getElem_toArray, List.getElem_cons_succ, List.getElem_cons_zero, List.setIfInBounds_toArray, List.set_cons_succ, List.set_cons_zero]
  refine wpAnyH_take (i := 9) (v := ?_) rfl (by kernel_rfl) (by kernel_rfl) (by kernel_rfl) (fun _ _ _ h => h) (Or.inl ⟨rfl, ?_⟩) hHeld ?_
  rotate_left
  · intro w' hS; obtain ⟨s0, s1, s2, s3⟩ := hS; go_simp <;> with_reducible rfl
  simp only [Act.put, List.getElem_toArray, List.getElem_cons_succ, List.getElem_cons_zero, List.setIfInBounds_toArray, List.set_cons_succ, List.set_cons_zero]
  refine wpAnyH_take (i := 10) (v := ?_) rfl (by kernel_rfl) (by kernel_rfl) (by kernel_rfl) (fun _ _ _ h => h) (Or.inl ⟨rfl, ?_⟩) hHeld ?_
  rotate_left
  · intro w' hS; obtain ⟨s0, s1, s2, s3⟩ := hS; go_simp <;> with_reducible rfl
  simp only [Act.put, List.getElem_toArray, List.getElem_cons_succ, List.getElem_cons_zero, List.setIfInBounds_toArray, List.set_cons_succ, List.set_cons_zero]
  refine wpAnyH_take (i := 11) (v := ?_) rfl (by kernel_rfl) (by kernel_rfl) (by kernel_rfl) (fun _ _ _ h => h) (Or.inl ⟨rfl, ?_⟩) hHeld ?_
  rotate_left
  · intro w' hS; obtain ⟨s0, s1, s2, s3⟩ := hS; go_simp <;> with_reducible rfl
  simp only [Act.put, List.getElem_toArray, List.getElem_cons_succ, List.getElem_cons_zero, List.setIfInBounds_toArray, List.set_cons_succ, List.set_cons_zero]
  refine wpAnyH_take (i := 12) (v := ?_) rfl (by kernel_rfl) (by kernel_rfl) (by kernel_rfl) (fun _ _ _ h => h) (Or.inl ⟨rfl, ?_⟩) hHeld ?_
  rotate_left
  · intro w' hS; obtain ⟨s0, s1, s2, s3⟩ := hS; go_simp <;> with_reducible rfl
  simp only [Act.put, List.getElem_toArray, List.getElem_cons_succ, List.getElem_cons_zero, List.setIfInBounds_toArray, List.set_cons_succ, List.set_cons_zero]
  refine wpAnyH_take (i := 13) (v := ?_) rfl (by kernel_rfl) (by kernel_rfl) (by kernel_rfl) (fun _ _ _ h => h) (Or.inl ⟨rfl, ?_⟩) hHeld ?_
  rotate_left
  · intro w' hS; obtain ⟨s0, s1, s2, s3⟩ := hS; go_simp <;> with_reducible rfl
  simp only [Act.put, List.getElem_toArray, List.getElem_cons_succ, List.getElem_cons_zero, List.setIfInBounds_toArray, List.set_cons_succ, List.set_cons_zero]
  refine wpAnyH_take (i := 15) (v := ?_) rfl (by kernel_rfl) (by kernel_rfl) (by kernel_rfl) (fun _ _ _ h => h) (Or.inl ⟨rfl, ?_⟩) hHeld ?_
  rotate_left
  · intro w' hS; obtain ⟨s0, s1, s2, s3⟩ := hS; go_simp <;> with_reducible rfl
  simp only [Act.put, List.getElem_toArray, List.getElem_cons_succ, List.getElem_cons_zero, List.setIfInBounds_toArray, List.set_cons_succ, List.set_cons_zero]
  refine wpAnyH_ready (rs := [14]) (by kernel_rfl) (by simp) (AllReadyH.cons rfl (fun K hK => ?_) AllReadyH.nil)
  go_simp
  refine (cuCode_any B m d bs t _ hB2 HY.out (by omega)).mono ?_
  rintro e w2 ⟨rfl, hb⟩
  replace ht := below_then ht hb ht.size
  replace hc := hc.below hb
  replace hs := hs.below hb
  replace hr := hr.below hb
  replace hB2 := hB2.below hb
  replace hD2 := hD2.below hb
  clear hb
  refine hK.out _ _ (boxes2_of hc hs) (fun hHeld => ?_)
  clear hK K
  try simp only [Act.put, List.getElem_toArray, List.getElem_cons_succ, List.getElem_cons_zero, List.setIfInBounds_toArray, List.set_cons_succ, List.set_cons_zero]
  refine wpAnyH_ready (rs := [16]) (by kernel_rfl) (by simp) (AllReadyH.cons rfl (fun K hK => ?_) AllReadyH.nil)
  go_simp
  refine (cuTrip_any k b _ D q z l _ hk HLT.out hD2 HZ.out hq).mono ?_
  rintro e w5 ⟨rfl, hb⟩
  rw [H3.out]
  replace ht := below_then ht hb ht.size
  replace hc := hc.below hb
  replace hs := hs.below hb
  replace hr := hr.below hb
  replace hB2 := hB2.below hb
  replace hD2 := hD2.below hb
  clear hb
  refine hK.out _ _ (boxes2_of hc hs) (fun hHeld => ?_)
  clear hK K
  try simp only [Act.put, List.getElem_toArray, List.getElem_cons_succ, List.getElem_cons_zero, List.setIfInBounds_toArray, List.set_cons_succ, List.set_cons_zero]
  refine wpAnyH_take (i := 17) (v := ?_) rfl (by kernel_rfl) (by kernel_rfl) (by kernel_rfl) (fun _ _ _ h => h) (Or.inl ⟨rfl, ?_⟩) hHeld ?_
  rotate_left
  · intro w' hS; obtain ⟨s0, s1, s2, s3⟩ := hS; go_simp <;> with_reducible rfl
  simp only [Act.put, List.getElem_toArray, List.getElem_cons_succ, List.getElem_cons_zero, List.setIfInBounds_toArray, List.set_cons_succ, List.set_cons_zero]
  refine wpAnyH_take (i := 18) (v := ?_) rfl (by kernel_rfl) (by kernel_rfl) (by kernel_rfl) (fun _ _ _ h => h) (Or.inl ⟨rfl, ?_⟩) hHeld ?_
  rotate_left
  · intro w' hS; obtain ⟨s0, s1, s2, s3⟩ := hS; go_simp <;> with_reducible rfl
  simp only [Act.put, List.getElem_toArray, List.getElem_cons_succ, List.getElem_cons_zero, List.setIfInBounds_toArray, List.set_cons_succ, List.set_cons_zero]
  refine wpAnyH_done (by kernel_rfl) ?_ _
  clear hHeld
  go_wp2_with fail
  refine wp_region_held_drew (S := (Boxes2 w.heap.size (w.heap.size + 1) (.int .i64 k) (.int .i64 b) (.slice B m d) (.bool t))) (by kernel_rfl) (boxes2_of hc.drew hs.drew) (fun hHeld => ?_)
  replace ht := ht.drew
  replace hc := hc.drew
  replace hs := hs.drew
  replace hr := hr.drew
  replace hB2 := hB2.drew
  replace hD2 := hD2.drew
  refine wpAnyH_take (i := 0) (v := ?_) rfl (by kernel_rfl) (by kernel_rfl) (by kernel_rfl) (fun _ _ _ h => h) (Or.inl ⟨rfl, ?_⟩) hHeld ?_
  rotate_left
  · intro w' hS; obtain ⟨s0, s1, s2, s3⟩ := hS; go_simp <;> with_reducible rfl
  simp only [Act.put, List.getElem_toArray, List.getElem_cons_succ, List.getElem_cons_zero, List.setIfInBounds_toArray, List.set_cons_succ, List.set_cons_zero]
  refine wpAnyH_take (i := 1) (v := ?_) rfl (by kernel_rfl) (by kernel_rfl) (by kernel_rfl) (fun _ _ _ h => h) (Or.inl ⟨rfl, ?_⟩) hHeld ?_
  rotate_left
  · intro w' hS; obtain ⟨s0, s1, s2, s3⟩ := hS; go_simp <;> with_reducible rfl
  simp only [Act.put, List.getElem_toArray, List.getElem_cons_succ, List.getElem_cons_zero, List.setIfInBounds_toArray, List.set_cons_succ, List.set_cons_zero]
  refine wpAnyH_take (i := 3) (v := ?_) rfl (by kernel_rfl) (by kernel_rfl) (by kernel_rfl) (fun _ _ _ h => h) (Or.inl ⟨rfl, ?_⟩) hHeld ?_
  rotate_left
  · intro w' hS; obtain ⟨s0, s1, s2, s3⟩ := hS; go_simp <;> with_reducible rfl
  simp only [Act.put, List.getElem_toArray, List.getElem_cons_succ, List.getElem_cons_zero, List.setIfInBounds_toArray, List.set_cons_succ, List.set_cons_zero]
  refine wpAnyH_ready (rs := [2]) (by kernel_rfl) (by simp) (AllReadyH.cons rfl (fun K hK => ?_) AllReadyH.nil)
  go_simp
  refine (cuCode_any B m d bs t _ hB2 HY.out (by omega)).mono ?_
  rintro e w2 ⟨rfl, hb⟩
  replace ht := below_then ht hb ht.size
  replace hc := hc.below hb
  replace hs := hs.below hb
  replace hr := hr.below hb
  replace hB2 := hB2.below hb
  replace hD2 := hD2.below hb
  clear hb
  refine hK.out _ _ (boxes2_of hc hs) (fun hHeld => ?_)
  clear hK K
  try simp only [Act.put, List.getElem_toArray, List.getElem_cons_succ, List.getElem_cons_zero, List.setIfInBounds_toArray, List.set_cons_succ, List.set_cons_zero]
  refine wpAnyH_ready (rs := [4]) (by kernel_rfl) (by simp) (AllReadyH.cons rfl (fun K hK => ?_) AllReadyH.nil)
  go_simp
  refine (cuBits_any D q z l (2 * k - 1) _ hD2 HZ.out hq HST.out (by omega)).mono ?_
  rintro e w6 ⟨rfl, rfl⟩
  refine hK.out _ _ (boxes2_of hc hs) (fun hHeld => ?_)
  clear hK K
  try simp only [Act.put, List.getElem_toArray, List.getElem_cons_succ, List.getElem_cons_zero, List.setIfInBounds_toArray, List.set_cons_succ, List.set_cons_zero]
  refine wpAnyH_take (i := 5) (v := ?_) rfl (by kernel_rfl) (by kernel_rfl) (by kernel_rfl) (fun _ _ _ h => h) (Or.inl ⟨rfl, ?_⟩) hHeld ?_
  rotate_left
  · intro w' hS; obtain ⟨s0, s1, s2, s3⟩ := hS; go_simp <;> with_reducible rfl
  simp only [Act.put, List.getElem_toArray, List.getElem_cons_succ, List.getElem_cons_zero, List.setIfInBounds_toArray, List.set_cons_succ, List.set_cons_zero]
  refine wpAnyH_take (i := 6) (v := ?_) rfl (by kernel_rfl) (by kernel_rfl) (by kernel_rfl) (fun _ _ _ h => h) (Or.inl ⟨rfl, ?_⟩) hHeld ?_
  rotate_left
  · intro w' hS; obtain ⟨s0, s1, s2, s3⟩ := hS; go_simp <;> with_reducible rfl
  simp only [Act.put, List.getElem_toArray, List.getElem_cons_succ, List.getElem_cons_zero, List.setIfInBounds_toArray, List.set_cons_succ, List.set_cons_zero]
  refine wpAnyH_take (i := 7) (v := ?_) rfl (by kernel_rfl) (by kernel_rfl) (by kernel_rfl) (fun _ _ _ h => h) (Or.inl ⟨rfl, ?_⟩) hHeld ?_
  rotate_left
  · intro w' hS; obtain ⟨s0, s1, s2, s3⟩ := hS; go_simp <;> with_reducible rfl
  simp only [Act.put, List.getElem_toArray, List.getElem_cons_succ, List.getElem_cons_zero, List.setIfInBounds_toArray, List.set_cons_succ, List.set_cons_zero]
  refine wpAnyH_ready (rs := [8]) (by kernel_rfl) (by simp) (AllReadyH.cons rfl (fun K hK => ?_) AllReadyH.nil)
  go_simp
  try simp only [hwA, hwB]
  rw [HXX.out]
  have hlo := hr.lt
  refine (cuState_own k X b _ hk hX).mono ?_
  rintro e w8 ⟨E, r, rfl, hf, hb⟩
  rw [HE1.out] at hf
  rw [HE2.out]
  replace ht := below_then ht hb ht.size
  replace hc := hc.below hb
  replace hs := hs.below hb
  replace hr := hr.below hb
  replace hB2 := hB2.below hb
  replace hD2 := hD2.below hb
  clear hb
  refine hK.out _ _ (boxes2_of hc hs) (fun hHeld => ?_)
  clear hK K
  try simp only [Act.put, List.getElem_toArray, List.getElem_cons_succ, List.getElem_cons_zero, List.setIfInBounds_toArray, List.set_cons_succ, List.set_cons_zero]
  refine wpAnyH_ready (rs := [9]) (by kernel_rfl) (by simp) (AllReadyH.cons rfl (fun K hK => ?_) AllReadyH.nil)
  refine wp_store_row 41 (.tmp 6) (.tmp 36) rfl (w.heap.size + 1 + 1) #[.slice E (2 * k : Nat) r, .bool (!t)] rfl rfl 41 #[.slice none 0 0, .bool false] hr size_st rfl (by simp [Value.oneCell']) ?_
  have o9 := only_setRow w8 (w.heap.size + 1 + 1) #[.slice E (2 * k : Nat) r, .bool (!t)]
  have r9 := whole_setRow #[.slice E (2 * k : Nat) r, .bool (!t)] hr
  have c9 := o9.whole hc (by omega)
  have s9 := o9.whole hs (by omega)
  have t9 := o9.below ht (by omega)
  have f9 := (hf.only o9 (by omega)).more (lo' := w.heap.size) (by omega) (Nat.le_of_eq o9.size.symm)
  generalize World.setRow w8 (w.heap.size + 1 + 1) #[.slice E (2 * k : Nat) r, .bool (!t)] = w9 at o9 r9 c9 s9 t9 f9 ⊢
  refine hK.out _ _ (boxes2_of c9 s9) (fun hHeld => ?_)
  clear hK K
  try simp only [Act.put, List.getElem_toArray, List.getElem_cons_succ, List.getElem_cons_zero, List.setIfInBounds_toArray, List.set_cons_succ, List.set_cons_zero]
  refine wpAnyH_take (i := 10) (v := ?_) rfl (by kernel_rfl) (by kernel_rfl) (by kernel_rfl) (fun _ _ _ h => h) (Or.inl ⟨rfl, ?_⟩) hHeld ?_
  rotate_left
  · intro w' hS; obtain ⟨s0, s1, s2, s3⟩ := hS; go_simp <;> with_reducible rfl
  simp only [Act.put, List.getElem_toArray, List.getElem_cons_succ, List.getElem_cons_zero, List.setIfInBounds_toArray, List.set_cons_succ, List.set_cons_zero]
  refine wpAnyH_done (by kernel_rfl) ?_ _
  clear hHeld
  obtain ⟨r0, r1, -, -⟩ := r9.two
  clear hc hs hr hB2 hD2 c9 s9 o9
  go_wp2
  refine bodyPost_ret (v := .tuple #[.agg #[.slice E (2 * k) r, .bool (!t)], .bool true]) (by simp [results, Try.results31, go_sem, r0, r1]) rfl ⟨E, r, by rw [HFL.out], f9, t9⟩
end Go.Proofs.Ytjkiclhihhhpmaa

namespace Go.Proofs.Ytjkiclhihhhpmaa
open Go.RowKit

/-- What a call hands back that makes a list of lists and tells whether it did. -/
def BackPost (ls : List (List Int)) (ok : Bool) (w : World) (e : Ending) (w' : World) : Prop :=
  ∃ (A : Option Addr) (n c : Nat) (rs : List RowV), e = .returned (.tuple #[.slice A n c, .bool ok]) ∧ rowNums rs = ls ∧ rs.length = n ∧ FreeGrid w' w.heap.size w'.heap.size A rs ∧ Below w.heap.size w w'
theorem BackPost.no {w w' : World} (h : Below w.heap.size w w') : BackPost [] false w (.returned (.tuple #[.slice none 0 0, .bool false])) w' :=
  ⟨none, 0, 0, [], rfl, rfl, rfl, (Heads.nil w' w.heap.size).free, h⟩
theorem part_lens {w : World} {A : Option Addr} {rs : List RowV} (h : Grid w A rs) : part rs rs.length = ((rowNums rs).map List.length).sum := by
  rw [part_sum]
  have : ∀ ts : List RowV, (∀ r ∈ ts, r.xs.length = r.n) → ts.map RowV.n = (rowNums ts).map List.length := by
    intro ts ht
    simp only [rowNums, List.map_map]
    exact List.map_congr_left fun r hr => (ht r hr).symm
  rw [this rs fun r hr => (h.2 r hr).2.1]
theorem sum_lens {ls : List (List Int)} {k : Nat} (h : ∀ l ∈ ls, l.length ≤ k) : (ls.map List.length).sum ≤ k * ls.length := by
  induction ls with
  | nil => simp
  | cons l ls ih =>
    have h1 := h l (by simp)
    have h2 := ih fun x hx => h x (List.mem_cons_of_mem _ hx)
    rw [List.map_cons, List.sum_cons, List.length_cons, Nat.mul_succ]
    omega
end Go.Proofs.Ytjkiclhihhhpmaa

namespace Go.Proofs.Ytjkiclhihhhpmaa
open Go.RowKit

theorem rows_of_same {k q x : Nat} (h : (!quiet k (bitAt (x / 2)) || rowsSame k q x) = true) (hq : quiet k (bitAt (x / 2)) = true) : (rowsM k q x (2 ^ (2 * k) - 1) 1 []).map listOf = rowsIn k q (bitsOf (x / 2) (2 * k)) (bitAt x 0) := by
  rw [hq, Bool.not_true, Bool.false_or] at h
  exact eq_of_beq h
theorem rows_list {k q : Nat} {bs : List Bool} {t : Bool} (hk1 : 1 ≤ k) (hk : k ≤ 4) (hq1 : 1 ≤ q) (hq4 : q ≤ 4) (hl : bs.length = 2 * k) (hq : quiet k (bitAt (codeOf bs t / 2)) = true) : (rowsM k q (codeOf bs t) (2 ^ (2 * k) - 1) 1 []).map listOf = rowsIn k q bs t := by
  have hx := code_lt bs t
  rw [hl] at hx
  have key : (rowsM k q (codeOf bs t) (2 ^ (2 * k) - 1) 1 []).map listOf = rowsIn k q (bitsOf (codeOf bs t / 2) (2 * k)) (bitAt (codeOf bs t) 0) := by
    obtain ⟨p, rfl⟩ : ∃ p, q = p + 1 := ⟨q - 1, by omega⟩
    refine rows_of_same ?_ hq
    generalize codeOf bs t = x at hx
    obtain rfl | rfl | rfl | rfl : k = 1 ∨ k = 2 ∨ k = 3 ∨ k = 4 := by omega
    · exact List.all_eq_true.1 (List.all_eq_true.1 rows_same1 p (List.mem_range.2 (by omega))) x (List.mem_range.2 (by omega))
    · exact List.all_eq_true.1 (List.all_eq_true.1 rows_same2 p (List.mem_range.2 (by omega))) x (List.mem_range.2 (by omega))
    · exact List.all_eq_true.1 (List.all_eq_true.1 rows_same3 p (List.mem_range.2 (by omega))) x (List.mem_range.2 (by omega))
    · exact List.all_eq_true.1 (List.all_eq_true.1 rows_same4 p (List.mem_range.2 (by omega))) x (List.mem_range.2 (by omega))
  rw [key, bits_back hl, torch_back]
theorem rowsM_mem (k : Nat) (q : Int) (x : Nat) : ∀ (n g : Nat) (out : List Nat), (∀ y ∈ out, y < 256) → g + n ≤ 256 → ∀ y ∈ rowsM k q x n g out, y < 256
  | 0, _, _, h, _ => h
  | n + 1, g, out, h, hg => rowsM_mem k q x n (g + 1) _ (by split; { exact insG_mem h (by omega) }; { exact h }) (by omega)
theorem rowsM_len (k : Nat) (q : Int) (x : Nat) : ∀ (n g : Nat) (out : List Nat), (rowsM k q x n g out).length ≤ out.length + n
  | 0, _, out => Nat.le_refl _
  | n + 1, g, out => by
    rw [rowsM_next]
    refine Nat.le_trans (rowsM_len k q x n (g + 1) _) ?_
    split
    · rw [insG_len]; omega
    · omega
/-- The rows of a state: none where it isn't calm. -/
noncomputable def rowsLs (a b : Int) (bs : List Bool) (t : Bool) : List (List Int) := if calmIn a b bs t then rowsIn a.toNat b.toNat bs t else []
theorem rowsLs_le {a b : Int} {bs : List Bool} {t : Bool} : (rowsLs a b bs t).length ≤ 1048576 ∧ ((rowsLs a b bs t).map List.length).sum ≤ 1048576 := by
  cases h : calmIn a b bs t
  · simp [rowsLs, h]
  · have hp : isPlace a b bs t = true := by
      cases hp : isPlace a b bs t
      · rw [calmIn_no hp] at h; cases h
      · rfl
    obtain ⟨k, rfl, hk1, hk, hb1, hb4, -, -, hl⟩ := place_co hp
    obtain ⟨q, rfl⟩ : ∃ q : Nat, b = q := ⟨b.toNat, by omega⟩
    have hq : quiet k (bitAt (codeOf bs t / 2)) = true := by rw [quiet_code (c := k) (t := t) hl, ← calmIn_yes hp]; exact h
    have hr := rows_list (q := q) hk1 hk (by omega) (by omega) hl hq
    rw [show rowsLs k q bs t = rowsIn k q bs t by simp [rowsLs, h], ← hr]
    have h1 := rowsM_len k q (codeOf bs t) (2 ^ (2 * k) - 1) 1 []
    have hp4 := pow_c hk
    generalize rowsM k q (codeOf bs t) (2 ^ (2 * k) - 1) 1 [] = R at h1
    have h2 := sum_lens (k := 8) (ls := R.map listOf) fun l hl => by obtain ⟨g, -, rfl⟩ := List.mem_map.1 hl; exact listOf_le g
    rw [List.length_map] at h2 ⊢
    simp only [List.length_nil] at h1
    omega

set_option maxHeartbeats 12800000 in
set_option maxRecDepth 100000 in
set_option linter.unusedSimpArgs false in
theorem specRowsOf_any (a b : Int) (B : Option Addr) (m d : Nat) (bs : List Bool) (t : Bool) (w : World) (hB : Holds w B (bits bs)) (hy : bs.length = m) (hm : m ≤ 9223372036854775807) :
    Calls Try.prog 22 #[.agg #[.int .i64 a, .int .i64 b], .agg #[.slice B m d, .bool t]] w (BackPost (rowsLs a b bs t) (calmIn a b bs t) w) := by
  have HY := Lib.hid hy
  have hB2 := (hB.alloc (.cells #[.int .i64 a, .int .i64 b] 39)).alloc (.cells #[.slice B m d, .bool t] 41)
  have hc := (Whole.fresh w 39 #[.int .i64 a, .int .i64 b]).alloc (.cells #[.slice B m d, .bool t] 41)
  have hs := Whole.fresh (w.alloc (.cells #[.int .i64 a, .int .i64 b] 39)) 41 #[.slice B m d, .bool t]
  have ht := below2 w (.cells #[.int .i64 a, .int .i64 b] 39) (.cells #[.slice B m d, .bool t] 41)
  rw [World.size_alloc] at hs
  cases h1 : isPlace a b bs t
  · have hcn := calmIn_no h1
    rw [show rowsLs a b bs t = [] by simp [rowsLs, hcn], hcn]
    have H1 := Lib.hid h1
    clear h1 hy hB hcn
    go_enter Try.func22, Try.ntmps22
    go_wp2_with fail
    refine wp_region_held_drew (S := (Boxes2 w.heap.size (w.heap.size + 1) (.int .i64 a) (.int .i64 b) (.slice B m d) (.bool t))) (by kernel_rfl) (boxes2_of hc.drew hs.drew) (fun hHeld => ?_)
    replace ht := ht.drew
    replace hc := hc.drew
    replace hs := hs.drew
    replace hB2 := hB2.drew
    refine wpAnyH_take (i := 0) (v := ?_) rfl (by kernel_rfl) (by kernel_rfl) (by kernel_rfl) (fun _ _ _ h => h) (Or.inl ⟨rfl, ?_⟩) hHeld ?_
    rotate_left
    · intro w' hS; obtain ⟨s0, s1, s2, s3⟩ := hS; go_simp <;> with_reducible rfl
    simp only [Act.put, List.getElem_toArray, List.getElem_cons_succ, List.getElem_cons_zero, List.setIfInBounds_toArray, List.set_cons_succ, List.set_cons_zero]
    refine wpAnyH_take (i := 1) (v := ?_) rfl (by kernel_rfl) (by kernel_rfl) (by kernel_rfl) (fun _ _ _ h => h) (Or.inl ⟨rfl, ?_⟩) hHeld ?_
    rotate_left
    · intro w' hS; obtain ⟨s0, s1, s2, s3⟩ := hS; go_simp <;> with_reducible rfl
    simp only [Act.put, List.getElem_toArray, List.getElem_cons_succ, List.getElem_cons_zero, List.setIfInBounds_toArray, List.set_cons_succ, List.set_cons_zero]
    refine wpAnyH_ready (rs := [2]) (by kernel_rfl) (by simp) (AllReadyH.cons rfl (fun K hK => ?_) AllReadyH.nil)
    go_simp
    refine (cuIs_any a b B m d bs t _ hB2 HY.out hm).mono ?_
    rintro e w1 ⟨rfl, hb⟩
    rw [H1.out]
    replace ht := below_then ht hb ht.size
    replace hc := hc.below hb
    replace hs := hs.below hb
    replace hB2 := hB2.below hb
    clear hb
    refine hK.out _ _ (boxes2_of hc hs) (fun hHeld => ?_)
    clear hK K
    try simp only [Act.put, List.getElem_toArray, List.getElem_cons_succ, List.getElem_cons_zero, List.setIfInBounds_toArray, List.set_cons_succ, List.set_cons_zero]
    refine wpAnyH_take (i := 3) (v := ?_) rfl (by kernel_rfl) (by kernel_rfl) (by kernel_rfl) (fun _ _ _ h => h) (Or.inl ⟨rfl, ?_⟩) hHeld ?_
    rotate_left
    · intro w' hS; obtain ⟨s0, s1, s2, s3⟩ := hS; go_simp <;> with_reducible rfl
    simp only [Act.put, List.getElem_toArray, List.getElem_cons_succ, List.getElem_cons_zero, List.setIfInBounds_toArray, List.set_cons_succ, List.set_cons_zero]
    refine wpAnyH_take (i := 4) (v := ?_) rfl (by kernel_rfl) (by kernel_rfl) (by kernel_rfl) (fun _ _ _ h => h) (Or.inl ⟨rfl, ?_⟩) hHeld ?_
    rotate_left
    · intro w' hS; obtain ⟨s0, s1, s2, s3⟩ := hS; go_simp <;> with_reducible rfl
    simp only [Act.put, List.getElem_toArray, List.getElem_cons_succ, List.getElem_cons_zero, List.setIfInBounds_toArray, List.set_cons_succ, List.set_cons_zero]
    refine wpAnyH_take (i := 5) (v := undef) rfl (by kernel_rfl) (by kernel_rfl) (by kernel_rfl) (fun _ _ _ h => h) (Or.inr ⟨by simp [Region.wanted, yielded], rfl⟩) hHeld ?_
    simp only [Act.put, List.getElem_toArray, List.getElem_cons_succ, List.getElem_cons_zero, List.setIfInBounds_toArray, List.set_cons_succ, List.set_cons_zero]
    refine wpAnyH_take (i := 6) (v := undef) rfl (by kernel_rfl) (by kernel_rfl) (by kernel_rfl) (fun _ _ _ h => h) (Or.inr ⟨by simp [Region.wanted, yielded], rfl⟩) hHeld ?_
    simp only [Act.put, List.getElem_toArray, List.getElem_cons_succ, List.getElem_cons_zero, List.setIfInBounds_toArray, List.set_cons_succ, List.set_cons_zero]
    refine wpAnyH_take (i := 7) (v := undef) rfl (by kernel_rfl) (by kernel_rfl) (by kernel_rfl) (fun _ _ _ h => h) (Or.inr ⟨by simp [Region.wanted, yielded], rfl⟩) hHeld ?_
    simp only [Act.put, List.getElem_toArray, List.getElem_cons_succ, List.getElem_cons_zero, List.setIfInBounds_toArray, List.set_cons_succ, List.set_cons_zero]
    refine wpAnyH_take (i := 8) (v := undef) rfl (by kernel_rfl) (by kernel_rfl) (by kernel_rfl) (fun _ _ _ h => h) (Or.inr ⟨by simp [Region.wanted, yielded], rfl⟩) hHeld ?_
    simp only [Act.put, List.getElem_toArray, List.getElem_cons_succ, List.getElem_cons_zero, List.setIfInBounds_toArray, List.set_cons_succ, List.set_cons_zero]
    refine wpAnyH_take (i := 9) (v := undef) rfl (by kernel_rfl) (by kernel_rfl) (by kernel_rfl) (fun _ _ _ h => h) (Or.inr ⟨by simp [Region.wanted, yielded], rfl⟩) hHeld ?_
    simp only [Act.put, List.getElem_toArray, List.getElem_cons_succ, List.getElem_cons_zero, List.setIfInBounds_toArray, List.set_cons_succ, List.set_cons_zero]
    refine wpAnyH_take (i := 10) (v := ?_) rfl (by kernel_rfl) (by kernel_rfl) (by kernel_rfl) (fun _ _ _ h => h) (Or.inl ⟨rfl, ?_⟩) hHeld ?_
    rotate_left
    · intro w' hS; obtain ⟨s0, s1, s2, s3⟩ := hS; go_simp <;> with_reducible rfl
    simp only [Act.put, List.getElem_toArray, List.getElem_cons_succ, List.getElem_cons_zero, List.setIfInBounds_toArray, List.set_cons_succ, List.set_cons_zero]
    refine wpAnyH_done (by kernel_rfl) ?_ _
    clear hHeld
    clear hc hs hB2
    go_wp2
    go_ret2
    exact BackPost.no ht
  obtain ⟨k, rfl, hk1, hk, hb1, hb4, -, -, hl⟩ := place_co h1
  have HQ := Lib.hid (quiet_code (c := k) (t := t) hl)
  have HLT := Lib.hid (show codeOf bs t / 2 < 2 ^ (2 * k) by rw [← hl]; exact code_lt bs t)
  have H1 := Lib.hid h1
  have hm8 : m ≤ 8 := by omega
  have hcy := calmIn_yes h1
  cases h2 : quiet k (fun i => bs.getD i false)
  · rw [h2] at hcy
    rw [show rowsLs k b bs t = [] by simp [rowsLs, hcy], hcy]
    have H2 := Lib.hid h2
    clear h1 h2 hcy hy hl hB
    go_enter Try.func22, Try.ntmps22
    go_wp2_with fail
    refine wp_region_held_drew (S := (Boxes2 w.heap.size (w.heap.size + 1) (.int .i64 k) (.int .i64 b) (.slice B m d) (.bool t))) (by kernel_rfl) (boxes2_of hc.drew hs.drew) (fun hHeld => ?_)
    replace ht := ht.drew
    replace hc := hc.drew
    replace hs := hs.drew
    replace hB2 := hB2.drew
    refine wpAnyH_take (i := 0) (v := ?_) rfl (by kernel_rfl) (by kernel_rfl) (by kernel_rfl) (fun _ _ _ h => h) (Or.inl ⟨rfl, ?_⟩) hHeld ?_
    rotate_left
    · intro w' hS; obtain ⟨s0, s1, s2, s3⟩ := hS; go_simp <;> with_reducible rfl
    simp only [Act.put, List.getElem_toArray, List.getElem_cons_succ, List.getElem_cons_zero, List.setIfInBounds_toArray, List.set_cons_succ, List.set_cons_zero]
    refine wpAnyH_take (i := 1) (v := ?_) rfl (by kernel_rfl) (by kernel_rfl) (by kernel_rfl) (fun _ _ _ h => h) (Or.inl ⟨rfl, ?_⟩) hHeld ?_
    rotate_left
    · intro w' hS; obtain ⟨s0, s1, s2, s3⟩ := hS; go_simp <;> with_reducible rfl
    simp only [Act.put, List.getElem_toArray, List.getElem_cons_succ, List.getElem_cons_zero, List.setIfInBounds_toArray, List.set_cons_succ, List.set_cons_zero]
    refine wpAnyH_ready (rs := [2]) (by kernel_rfl) (by simp) (AllReadyH.cons rfl (fun K hK => ?_) AllReadyH.nil)
    go_simp
    refine (cuIs_any k b B m d bs t _ hB2 HY.out hm).mono ?_
    rintro e w1 ⟨rfl, hb⟩
    rw [H1.out]
    replace ht := below_then ht hb ht.size
    replace hc := hc.below hb
    replace hs := hs.below hb
    replace hB2 := hB2.below hb
    clear hb
    refine hK.out _ _ (boxes2_of hc hs) (fun hHeld => ?_)
    clear hK K
    try simp only [Act.put, List.getElem_toArray, List.getElem_cons_succ, List.getElem_cons_zero, List.setIfInBounds_toArray, List.set_cons_succ, List.set_cons_zero]
    refine wpAnyH_take (i := 3) (v := ?_) rfl (by kernel_rfl) (by kernel_rfl) (by kernel_rfl) (fun _ _ _ h => h) (Or.inl ⟨rfl, ?_⟩) hHeld ?_
    rotate_left
    · intro w' hS; obtain ⟨s0, s1, s2, s3⟩ := hS; go_simp <;> with_reducible rfl
    simp only [Act.put, List.getElem_toArray, List.getElem_cons_succ, List.getElem_cons_zero, List.setIfInBounds_toArray, List.set_cons_succ, List.set_cons_zero]
    refine wpAnyH_take (i := 4) (v := ?_) rfl (by kernel_rfl) (by kernel_rfl) (by kernel_rfl) (fun _ _ _ h => h) (Or.inl ⟨rfl, ?_⟩) hHeld ?_
    rotate_left
    · intro w' hS; obtain ⟨s0, s1, s2, s3⟩ := hS; go_simp <;> with_reducible rfl
    simp only [Act.put, List.getElem_toArray, List.getElem_cons_succ, List.getElem_cons_zero, List.setIfInBounds_toArray, List.set_cons_succ, List.set_cons_zero]
    refine wpAnyH_take (i := 5) (v := ?_) rfl (by kernel_rfl) (by kernel_rfl) (by kernel_rfl) (fun _ _ _ h => h) (Or.inl ⟨rfl, ?_⟩) hHeld ?_
    rotate_left
    · intro w' hS; obtain ⟨s0, s1, s2, s3⟩ := hS; go_simp <;> with_reducible rfl
    simp only [Act.put, List.getElem_toArray, List.getElem_cons_succ, List.getElem_cons_zero, List.setIfInBounds_toArray, List.set_cons_succ, List.set_cons_zero]
    refine wpAnyH_take (i := 6) (v := ?_) rfl (by kernel_rfl) (by kernel_rfl) (by kernel_rfl) (fun _ _ _ h => h) (Or.inl ⟨rfl, ?_⟩) hHeld ?_
    rotate_left
    · intro w' hS; obtain ⟨s0, s1, s2, s3⟩ := hS; go_simp <;> with_reducible rfl
    simp only [Act.put, List.getElem_toArray, List.getElem_cons_succ, List.getElem_cons_zero, List.setIfInBounds_toArray, List.set_cons_succ, List.set_cons_zero]
    refine wpAnyH_ready (rs := [7]) (by kernel_rfl) (by simp) (AllReadyH.cons rfl (fun K hK => ?_) AllReadyH.nil)
    go_simp
    refine (cuCode_any B m d bs t _ hB2 HY.out (by omega)).mono ?_
    rintro e w2 ⟨rfl, hb⟩
    replace ht := below_then ht hb ht.size
    replace hc := hc.below hb
    replace hs := hs.below hb
    replace hB2 := hB2.below hb
    clear hb
    refine hK.out _ _ (boxes2_of hc hs) (fun hHeld => ?_)
    clear hK K
    try simp only [Act.put, List.getElem_toArray, List.getElem_cons_succ, List.getElem_cons_zero, List.setIfInBounds_toArray, List.set_cons_succ, List.set_cons_zero]
    refine wpAnyH_ready (rs := [8]) (by kernel_rfl) (by simp) (AllReadyH.cons rfl (fun K hK => ?_) AllReadyH.nil)
    go_simp
    refine (cuQuiet_any k _ b _ (by omega) HLT.out).mono ?_
    rintro e w3 ⟨rfl, hb⟩
    rw [HQ.out, H2.out]
    replace ht := below_then ht hb ht.size
    replace hc := hc.below hb
    replace hs := hs.below hb
    replace hB2 := hB2.below hb
    clear hb
    refine hK.out _ _ (boxes2_of hc hs) (fun hHeld => ?_)
    clear hK K
    try simp only [Act.put, List.getElem_toArray, List.getElem_cons_succ, List.getElem_cons_zero, List.setIfInBounds_toArray, List.set_cons_succ, List.set_cons_zero]
    refine wpAnyH_take (i := 9) (v := ?_) rfl (by kernel_rfl) (by kernel_rfl) (by kernel_rfl) (fun _ _ _ h => h) (Or.inl ⟨rfl, ?_⟩) hHeld ?_
    rotate_left
    · intro w' hS; obtain ⟨s0, s1, s2, s3⟩ := hS; go_simp <;> with_reducible rfl
    simp only [Act.put, List.getElem_toArray, List.getElem_cons_succ, List.getElem_cons_zero, List.setIfInBounds_toArray, List.set_cons_succ, List.set_cons_zero]
    refine wpAnyH_take (i := 10) (v := ?_) rfl (by kernel_rfl) (by kernel_rfl) (by kernel_rfl) (fun _ _ _ h => h) (Or.inl ⟨rfl, ?_⟩) hHeld ?_
    rotate_left
    · intro w' hS; obtain ⟨s0, s1, s2, s3⟩ := hS; go_simp <;> with_reducible rfl
    simp only [Act.put, List.getElem_toArray, List.getElem_cons_succ, List.getElem_cons_zero, List.setIfInBounds_toArray, List.set_cons_succ, List.set_cons_zero]
    refine wpAnyH_done (by kernel_rfl) ?_ _
    clear hHeld
    clear hc hs hB2
    go_wp2
    go_ret2
    exact BackPost.no ht
  have H2 := Lib.hid h2
  rw [h2] at hcy
  have hrl : rowsLs k b bs t = rowsIn k b.toNat bs t := by simp [rowsLs, hcy]
  obtain ⟨q, rfl⟩ : ∃ q : Nat, b = q := ⟨b.toNat, by omega⟩
  rw [Int.toNat_natCast, ← rows_list hk1 hk (by omega) (by omega) hl (by rw [HQ.out, h2])] at hrl
  have hp := pow_c hk
  have hMM := rowsM_mem k q (codeOf bs t) (2 ^ (2 * k) - 1) 1 [] (fun y hy => absurd hy (List.not_mem_nil)) (by omega)
  have hML := rowsM_len k q (codeOf bs t) (2 ^ (2 * k) - 1) 1 []
  obtain ⟨R, hR⟩ : ∃ R, R = rowsM k q (codeOf bs t) (2 ^ (2 * k) - 1) 1 [] := ⟨_, rfl⟩
  rw [← hR] at hrl hMM hML
  rw [hrl, hcy]
  have HR := Lib.hid hR.symm
  have HMM := Lib.hid hMM
  have hR255 : R.length ≤ 255 := by simp at hML; omega
  obtain ⟨i0, hi, hz0, hz1, hz2⟩ := info_parts info_row
  have HI := Lib.hid hi
  have HZ0 := Lib.hid hz0
  have HZ1 := Lib.hid hz1
  have HZ2 := Lib.hid hz2
  clear h1 h2 hcy hy hl hB hrl hp hMM hML hR hi hz0 hz1 hz2
  go_enter Try.func22, Try.ntmps22
  go_wp2_with fail
  refine wp_region_held_drew (S := (Boxes2 w.heap.size (w.heap.size + 1) (.int .i64 k) (.int .i64 q) (.slice B m d) (.bool t))) (by kernel_rfl) (boxes2_of hc.drew hs.drew) (fun hHeld => ?_)
  replace ht := ht.drew
  replace hc := hc.drew
  replace hs := hs.drew
  replace hB2 := hB2.drew
  refine wpAnyH_take (i := 0) (v := ?_) rfl (by kernel_rfl) (by kernel_rfl) (by kernel_rfl) (fun _ _ _ h => h) (Or.inl ⟨rfl, ?_⟩) hHeld ?_
  rotate_left
  · intro w' hS; obtain ⟨s0, s1, s2, s3⟩ := hS; go_simp <;> with_reducible rfl
  simp only [Act.put, List.getElem_toArray, List.getElem_cons_succ, List.getElem_cons_zero, List.setIfInBounds_toArray, List.set_cons_succ, List.set_cons_zero]
  refine wpAnyH_take (i := 1) (v := ?_) rfl (by kernel_rfl) (by kernel_rfl) (by kernel_rfl) (fun _ _ _ h => h) (Or.inl ⟨rfl, ?_⟩) hHeld ?_
  rotate_left
  · intro w' hS; obtain ⟨s0, s1, s2, s3⟩ := hS; go_simp <;> with_reducible rfl
  simp only [Act.put, List.getElem_toArray, List.getElem_cons_succ, List.getElem_cons_zero, List.setIfInBounds_toArray, List.set_cons_succ, List.set_cons_zero]
  refine wpAnyH_ready (rs := [2]) (by kernel_rfl) (by simp) (AllReadyH.cons rfl (fun K hK => ?_) AllReadyH.nil)
  go_simp
  refine (cuIs_any k q B m d bs t _ hB2 HY.out hm).mono ?_
  rintro e w1 ⟨rfl, hb⟩
  rw [H1.out]
  replace ht := below_then ht hb ht.size
  replace hc := hc.below hb
  replace hs := hs.below hb
  replace hB2 := hB2.below hb
  clear hb
  refine hK.out _ _ (boxes2_of hc hs) (fun hHeld => ?_)
  clear hK K
  try simp only [Act.put, List.getElem_toArray, List.getElem_cons_succ, List.getElem_cons_zero, List.setIfInBounds_toArray, List.set_cons_succ, List.set_cons_zero]
  refine wpAnyH_take (i := 3) (v := ?_) rfl (by kernel_rfl) (by kernel_rfl) (by kernel_rfl) (fun _ _ _ h => h) (Or.inl ⟨rfl, ?_⟩) hHeld ?_
  rotate_left
  · intro w' hS; obtain ⟨s0, s1, s2, s3⟩ := hS; go_simp <;> with_reducible rfl
  simp only [Act.put, List.getElem_toArray, List.getElem_cons_succ, List.getElem_cons_zero, List.setIfInBounds_toArray, List.set_cons_succ, List.set_cons_zero]
  refine wpAnyH_take (i := 4) (v := ?_) rfl (by kernel_rfl) (by kernel_rfl) (by kernel_rfl) (fun _ _ _ h => h) (Or.inl ⟨rfl, ?_⟩) hHeld ?_
  rotate_left
  · intro w' hS; obtain ⟨s0, s1, s2, s3⟩ := hS; go_simp <;> with_reducible rfl
  simp only [Act.put, List.getElem_toArray, List.getElem_cons_succ, List.getElem_cons_zero, List.setIfInBounds_toArray, List.set_cons_succ, List.set_cons_zero]
  refine wpAnyH_take (i := 5) (v := ?_) rfl (by kernel_rfl) (by kernel_rfl) (by kernel_rfl) (fun _ _ _ h => h) (Or.inl ⟨rfl, ?_⟩) hHeld ?_
  rotate_left
  · intro w' hS; obtain ⟨s0, s1, s2, s3⟩ := hS; go_simp <;> with_reducible rfl
  simp only [Act.put, List.getElem_toArray, List.getElem_cons_succ, List.getElem_cons_zero, List.setIfInBounds_toArray, List.set_cons_succ, List.set_cons_zero]
  refine wpAnyH_take (i := 6) (v := ?_) rfl (by kernel_rfl) (by kernel_rfl) (by kernel_rfl) (fun _ _ _ h => h) (Or.inl ⟨rfl, ?_⟩) hHeld ?_
  rotate_left
  · intro w' hS; obtain ⟨s0, s1, s2, s3⟩ := hS; go_simp <;> with_reducible rfl
  simp only [Act.put, List.getElem_toArray, List.getElem_cons_succ, List.getElem_cons_zero, List.setIfInBounds_toArray, List.set_cons_succ, List.set_cons_zero]
  refine wpAnyH_ready (rs := [7]) (by kernel_rfl) (by simp) (AllReadyH.cons rfl (fun K hK => ?_) AllReadyH.nil)
  go_simp
  refine (cuCode_any B m d bs t _ hB2 HY.out (by omega)).mono ?_
  rintro e w2 ⟨rfl, hb⟩
  replace ht := below_then ht hb ht.size
  replace hc := hc.below hb
  replace hs := hs.below hb
  replace hB2 := hB2.below hb
  clear hb
  refine hK.out _ _ (boxes2_of hc hs) (fun hHeld => ?_)
  clear hK K
  try simp only [Act.put, List.getElem_toArray, List.getElem_cons_succ, List.getElem_cons_zero, List.setIfInBounds_toArray, List.set_cons_succ, List.set_cons_zero]
  refine wpAnyH_ready (rs := [8]) (by kernel_rfl) (by simp) (AllReadyH.cons rfl (fun K hK => ?_) AllReadyH.nil)
  go_simp
  refine (cuQuiet_any k _ q _ (by omega) HLT.out).mono ?_
  rintro e w3 ⟨rfl, hb⟩
  rw [HQ.out, H2.out]
  replace ht := below_then ht hb ht.size
  replace hc := hc.below hb
  replace hs := hs.below hb
  replace hB2 := hB2.below hb
  clear hb
  refine hK.out _ _ (boxes2_of hc hs) (fun hHeld => ?_)
  clear hK K
  try simp only [Act.put, List.getElem_toArray, List.getElem_cons_succ, List.getElem_cons_zero, List.setIfInBounds_toArray, List.set_cons_succ, List.set_cons_zero]
  refine wpAnyH_take (i := 9) (v := ?_) rfl (by kernel_rfl) (by kernel_rfl) (by kernel_rfl) (fun _ _ _ h => h) (Or.inl ⟨rfl, ?_⟩) hHeld ?_
  rotate_left
  · intro w' hS; obtain ⟨s0, s1, s2, s3⟩ := hS; go_simp <;> with_reducible rfl
  simp only [Act.put, List.getElem_toArray, List.getElem_cons_succ, List.getElem_cons_zero, List.setIfInBounds_toArray, List.set_cons_succ, List.set_cons_zero]
  refine wpAnyH_take (i := 10) (v := ?_) rfl (by kernel_rfl) (by kernel_rfl) (by kernel_rfl) (fun _ _ _ h => h) (Or.inl ⟨rfl, ?_⟩) hHeld ?_
  rotate_left
  · intro w' hS; obtain ⟨s0, s1, s2, s3⟩ := hS; go_simp <;> with_reducible rfl
  simp only [Act.put, List.getElem_toArray, List.getElem_cons_succ, List.getElem_cons_zero, List.setIfInBounds_toArray, List.set_cons_succ, List.set_cons_zero]
  refine wpAnyH_done (by kernel_rfl) ?_ _
  clear hHeld
  go_wp2_with fail
  refine wp_region_held_drew (S := (Boxes2 w.heap.size (w.heap.size + 1) (.int .i64 k) (.int .i64 q) (.slice B m d) (.bool t))) (by kernel_rfl) (boxes2_of hc.drew hs.drew) (fun hHeld => ?_)
  replace ht := ht.drew
  replace hc := hc.drew
  replace hs := hs.drew
  replace hB2 := hB2.drew
  refine wpAnyH_take (i := 0) (v := ?_) rfl (by kernel_rfl) (by kernel_rfl) (by kernel_rfl) (fun _ _ _ h => h) (Or.inl ⟨rfl, ?_⟩) hHeld ?_
  rotate_left
  · intro w' hS; obtain ⟨s0, s1, s2, s3⟩ := hS; go_simp <;> with_reducible rfl
  simp only [Act.put, List.getElem_toArray, List.getElem_cons_succ, List.getElem_cons_zero, List.setIfInBounds_toArray, List.set_cons_succ, List.set_cons_zero]
  refine wpAnyH_take (i := 1) (v := ?_) rfl (by kernel_rfl) (by kernel_rfl) (by kernel_rfl) (fun _ _ _ h => h) (Or.inl ⟨rfl, ?_⟩) hHeld ?_
  rotate_left
  · intro w' hS; obtain ⟨s0, s1, s2, s3⟩ := hS; go_simp <;> with_reducible rfl
  simp only [Act.put, List.getElem_toArray, List.getElem_cons_succ, List.getElem_cons_zero, List.setIfInBounds_toArray, List.set_cons_succ, List.set_cons_zero]
  refine wpAnyH_take (i := 5) (v := ?_) rfl (by kernel_rfl) (by kernel_rfl) (by kernel_rfl) (fun _ _ _ h => h) (Or.inl ⟨rfl, ?_⟩) hHeld ?_
  rotate_left
  · intro w' hS; obtain ⟨s0, s1, s2, s3⟩ := hS; go_simp <;> with_reducible rfl
  simp only [Act.put, List.getElem_toArray, List.getElem_cons_succ, List.getElem_cons_zero, List.setIfInBounds_toArray, List.set_cons_succ, List.set_cons_zero]
  refine wpAnyH_ready (rs := [2]) (by kernel_rfl) (by simp) (AllReadyH.cons rfl (fun K hK => ?_) AllReadyH.nil)
  go_simp
  refine (cuCode_any B m d bs t _ hB2 HY.out (by omega)).mono ?_
  rintro e w2 ⟨rfl, hb⟩
  replace ht := below_then ht hb ht.size
  replace hc := hc.below hb
  replace hs := hs.below hb
  replace hB2 := hB2.below hb
  clear hb
  refine hK.out _ _ (boxes2_of hc hs) (fun hHeld => ?_)
  clear hK K
  try simp only [Act.put, List.getElem_toArray, List.getElem_cons_succ, List.getElem_cons_zero, List.setIfInBounds_toArray, List.set_cons_succ, List.set_cons_zero]
  refine wpAnyH_ready (rs := [3]) (by kernel_rfl) (by simp) (AllReadyH.cons rfl (fun K hK => ?_) AllReadyH.nil)
  go_simp
  refine (cuRows_any k q _ _ hk HLT.out).mono ?_
  rintro e w4 ⟨E, r, rfl, hown, hb⟩
  rw [ofN_len] at hown
  try rw [ofN_len]
  rw [HR.out] at hown
  try rw [HR.out]
  replace ht := below_then ht hb ht.size
  replace hc := hc.below hb
  replace hs := hs.below hb
  replace hB2 := hB2.below hb
  clear hb
  refine hK.out _ _ (boxes2_of hc hs) (fun hHeld => ?_)
  clear hK K
  try simp only [Act.put, List.getElem_toArray, List.getElem_cons_succ, List.getElem_cons_zero, List.setIfInBounds_toArray, List.set_cons_succ, List.set_cons_zero]
  refine wpAnyH_take (i := 4) (v := ?_) rfl (by kernel_rfl) (by kernel_rfl) (by kernel_rfl) (fun _ _ _ h => h) (Or.inl ⟨rfl, ?_⟩) hHeld ?_
  rotate_left
  · intro w' hS; obtain ⟨s0, s1, s2, s3⟩ := hS; go_simp <;> with_reducible rfl
  simp only [Act.put, List.getElem_toArray, List.getElem_cons_succ, List.getElem_cons_zero, List.setIfInBounds_toArray, List.set_cons_succ, List.set_cons_zero]
  refine wpAnyH_done (by kernel_rfl) ?_ _
  clear hHeld
  clear hc hs hB2
  have HHO := Lib.hid (holds_of_own hown)
  have HT := Lib.hid ht
  have hws := ht.size
  clear hown ht
  go_wp2
  go_loopw [6, 25] (fun v i wr => ∃ (y : Nat) (D : Option Addr) (c : Nat) (acc : List RowV), y ≤ R.length ∧ i = .int .i64 y ∧ v = .slice D acc.length c ∧ acc.length = y ∧ rowNums acc = (R.take y).map listOf ∧ Heads wr w4.heap.size D c acc ∧ Below w4.heap.size w4 wr) (fun _ i _ => R.length - (intOf i).toNat)
  case atStart => exact ⟨0, none, 0, [], Nat.zero_le _, rfl, rfl, rfl, rfl, Heads.nil _ _, Below.refl _ _⟩
  case round =>
    obtain ⟨y, D, c, acc, hy0, rfl, rfl, hla, hra, hh, hb⟩ := hrel
    by_cases hlt : y < R.length
    · have hlti : (y : Int) < (R.length : Int) := by omega
      obtain ⟨b1, o1, rfl, hbl1, hcell⟩ := (HHO.out.below hb).look (k := y) (by rw [nums_len, ofN_len]; exact hlt)
      have hcell' : wr.cell? ⟨b1, o1 + y, none⟩ = some (.int .i64 ((R[y] : Nat) : Int)) := by simpa [nums, ofN] using hcell
      have hg := HMM.out _ (List.getElem_mem hlt)
      have hnx : (R.take (y + 1)).map listOf = (R.take y).map listOf ++ [listOf R[y]] := by rw [List.take_succ_eq_append_getElem hlt, List.map_append, List.map_cons, List.map_nil]
      generalize R[y] = g at hcell' hg hnx
      have hgl := listOf_le g
      have HRA := Lib.hid hra
      have HNX := Lib.hid hnx
      have HH := Lib.hid hh
      have HB := Lib.hid hb
      have HLA := Lib.hid hla
      have hbs : w4.heap.size ≤ wr.heap.size := hb.size
      have hacc : acc.length ≤ 255 := by omega
      clear hra hnx hh hb hcell hla
      go_wp2_with fail
      refine (cuList_any g _ hg).mono ?_
      rintro e w3 ⟨A2, q2, rfl, hown2, hb2⟩
      have hbs2 : wr.heap.size ≤ w3.heap.size := hb2.size
      have HOWN := Lib.hid ((HH.out.below hb2).alloc (.cells #[.slice A2 (listOf g).length q2] 25)).1
      have HF := Lib.hid (Fresh.of_own hown2 (Nat.le_refl _))
      have HB2 := Lib.hid hb2
      have HMAX := Lib.hid (show acc.length + 1 ≤ maxLen by unfold maxLen; omega)
      have HBYT := Lib.hid (show (acc.length + 1) * 24 ≤ 140737488355328 by omega)
      have HBASE := Lib.hid (show w4.heap.size ≤ (w3.alloc (.cells #[.slice A2 (listOf g).length q2] 25)).heap.size by simp; omega)
      clear hown2 hb2
      go_wp2_with (at_builtin; refine wpList_append_lies _ rfl (.tmp 29) (.tmp 32) 36 rfl w4.heap.size 25 i0 (.slice none 0 0) 1 24 Try.underlying36 HI.out HZ0.out HZ1.out HZ2.out rfl (by decide) (.slice D acc.length c) acc.length (rowVals acc) rfl HOWN.out ⟨w3.heap.size, 0, none⟩ 1 1 [.slice A2 (listOf g).length q2] rfl rfl (cell_one_new _ _ _) (by simp [Value.oneCell']) (by decide) HMAX.out HBYT.out HBASE.out (w3.heap.size + 1) (by simp) ?_; intro g1 cap w5 hown4 hg4 hat hlt4)
      obtain ⟨A3, q3, hv3, hf3⟩ := HF.out
      simp only [Value.slice.injEq, true_and] at hv3
      obtain ⟨rfl, rfl⟩ := hv3
      have HP2 := Lib.hid (Heads.push (r := ⟨A2, (listOf g).length, q2, listOf g⟩) HH.out hbs HB2.out hf3 rfl (by show (listOf g).length ≤ _; omega) hown4 hg4 hat)
      have HBN := Lib.hid (((below_then HB.out HB2.out hbs).alloc (by omega) (.cells #[.slice A2 (listOf g).length q2] 25)).grown hg4 HBASE.out (fun kk hkk => (HOWN.out.lt kk hkk).1))
      clear hown4 hg4 hat hlt4 hf3
      go_roundw
      case rel => exact ⟨y + 1, some ⟨g1, 0, none⟩, cap, acc ++ [⟨A2, (listOf g).length, q2, listOf g⟩], by omega, by go_num, by simp, by rw [List.length_append, HLA.out]; rfl, by rw [HNX.out, show rowNums (acc ++ [⟨A2, (listOf g).length, q2, listOf g⟩]) = rowNums acc ++ [listOf g] by simp [rowNums], HRA.out], HP2.out, HBN.out⟩
      case measure => simp [intOf]; omega
    · obtain rfl : y = R.length := by omega
      have HH := Lib.hid (hh.raise hws)
      have HRA : Hid (rowNums acc = R.map listOf) := by show _ = _; rw [hra, List.take_length]
      have HBN := Lib.hid (below_then HT.out hb hws)
      clear hh hra hb hla
      go_wp2
      go_ret2
      exact ⟨D, acc.length, c, acc, rfl, HRA.out, rfl, HH.out.free, HBN.out⟩
end Go.Proofs.Ytjkiclhihhhpmaa

namespace Go.Proofs.Ytjkiclhihhhpmaa
open Go.RowKit

/-- Heads of the call's own over rows that lie spread below them. -/
theorem heads_of_spread {w4 wr : World} {lo c : Nat} {A D : Option Addr} {rs : List RowV} (hs : Spread w4 lo A rs) (hb : Below w4.heap.size w4 wr) (ho : wr.ownsRow w4.heap.size 25 1 (.slice D rs.length c) rs.length (rowVals rs)) (hl : lo ≤ w4.heap.size) : Heads wr lo D c rs := by
  obtain ⟨ps, h2, h3, -⟩ := hs
  refine ⟨own_lower ho hl, ps, h2.below hb, fun p hp => ⟨(h3 p hp).1, Nat.le_trans (h3 p hp).2 hb.size⟩, fun a ha p hp => .inr ?_⟩
  subst ha
  exact Nat.le_trans (h3 p hp).2 (ho.lt a.block rfl).1

set_option maxHeartbeats 12800000 in
set_option maxRecDepth 100000 in
set_option linter.unusedSimpArgs false in
theorem implRowsOf_any (a b : Int) (B : Option Addr) (m d0 : Nat) (bs : List Bool) (t : Bool) (w : World) (hB : Holds w B (bits bs)) (hy : bs.length = m) (hm : m ≤ 9223372036854775807) :
    Calls Try.prog 25 #[.agg #[.int .i64 a, .int .i64 b], .agg #[.slice B m d0, .bool t]] w (BackPost (rowsLs a b bs t) (calmIn a b bs t) w) := by
  have HY := Lib.hid hy
  have hB2 := (hB.alloc (.cells #[.int .i64 a, .int .i64 b] 39)).alloc (.cells #[.slice B m d0, .bool t] 41)
  have hc := (Whole.fresh w 39 #[.int .i64 a, .int .i64 b]).alloc (.cells #[.slice B m d0, .bool t] 41)
  have ht := below2 w (.cells #[.int .i64 a, .int .i64 b] 39) (.cells #[.slice B m d0, .bool t] 41)
  clear hy hB
  have hcp := calmPlaceOf_any a b B m d0 bs t _ hB2 HY.out hm
  go_enter Try.func25, Try.ntmps25
  go_wp2_with fail
  refine hcp.mono ?_
  clear hcp
  rintro e w1 ⟨⟨hp1, rfl⟩ | ⟨hp1, rfl⟩, hb⟩
  all_goals
    replace ht := below_then ht hb (by simp; omega)
    replace hc := hc.below hb
    have hlc := hc.lt
    clear hb hB2
  rotate_left
  · have hcn := calmIn_no hp1
    have HF : Hid (rowsLs a b bs t = [] ∧ calmIn a b bs t = false) := ⟨by simp [rowsLs, hcn], hcn⟩
    clear hp1 hcn
    unfold placeCells
    replace ht := ht.alloc ht.size (.cells #[.bool false, .bool false, .bool false, .bool false, .bool false, .bool false, .bool false, .bool false, .bool false] 89)
    replace hc := hc.alloc (.cells #[.bool false, .bool false, .bool false, .bool false, .bool false, .bool false, .bool false, .bool false, .bool false] 89)
    go_upto_region 2 with fail
    generalize w1.alloc (.cells #[.bool false, .bool false, .bool false, .bool false, .bool false, .bool false, .bool false, .bool false, .bool false] 89) = W1 at hc ht ⊢
    clear hc
    go_wp2
    go_ret2
    rw [HF.out.1, HF.out.2]
    exact BackPost.no ht
  obtain ⟨k, rfl, hk1, hk, hb1, hb4, -, -, hl⟩ := place_co hp1
  obtain ⟨q, rfl⟩ : ∃ q : Nat, b = q := ⟨b.toNat, by omega⟩
  have hq4 : q ≤ 4 := by omega
  have HBS := Lib.hid hl
  obtain ⟨f, hf⟩ : ∃ f : Nat → Bool, f = fun i => bs.getD i false := ⟨_, rfl⟩
  have HPL : Hid (placeCells bs t = place9 f t) := by show _ = _; rw [place_nine9, hf]
  have hp := Whole.fresh w1 89 (place9 f t)
  replace ht := ht.alloc ht.size (.cells (place9 f t) 89)
  replace hc := hc.alloc (.cells (place9 f t) 89)
  rw [HPL.out]
  clear hf
  cases h2 : calmIn k q bs t
  · have HF : Hid (rowsLs k q bs t = [] ∧ calmIn k q bs t = false) := ⟨by simp [rowsLs, h2], h2⟩
    clear hp1 h2 hl hp
    unfold place9 at hc ht
    unfold place9
    go_upto_region 2 with fail
    generalize w1.alloc (.cells #[.bool (f 0), .bool (f 1), .bool (f 2), .bool (f 3), .bool (f 4), .bool (f 5), .bool (f 6), .bool (f 7), .bool t] 89) = W1 at hc ht ⊢
    clear hc
    go_wp2
    go_ret2
    rw [HF.out.1, HF.out.2]
    exact BackPost.no ht
  have HF : Hid (rowsLs k q bs t = rowsIn k q bs t ∧ calmIn k q bs t = true) := ⟨by simp [rowsLs, h2], h2⟩
  obtain ⟨gP, hgP⟩ : ∃ g : Nat, g = w1.heap.size := ⟨_, rfl⟩
  rw [← hgP] at hp
  obtain ⟨i0, hi, hz0, hz1, hz2⟩ := info_parts info_row
  have HI := Lib.hid hi
  have HZ0 := Lib.hid hz0
  have HZ1 := Lib.hid hz1
  have HZ2 := Lib.hid hz2
  clear hp1 h2 hl hi hz0 hz1 hz2
  unfold place9 at hc hp ht
  unfold place9
  go_upto_region 5 with fail
  rw [← hgP]
  clear hgP
  generalize w1.alloc (.cells #[.bool (f 0), .bool (f 1), .bool (f 2), .bool (f 3), .bool (f 4), .bool (f 5), .bool (f 6), .bool (f 7), .bool t] 89) = W1 at hc hp ht ⊢
  refine wp_region_held_drew (S := (CIs w.heap.size gP k q f t)) (by kernel_rfl) (cis_of hc.drew hp.drew) (fun hHeld => ?_)
  replace ht := ht.drew
  replace hc := hc.drew
  replace hp := hp.drew
  refine wpAnyH_take (i := 0) (v := ?_) rfl (by kernel_rfl) (by kernel_rfl) (by kernel_rfl) (fun _ _ _ h => h) (Or.inl ⟨rfl, ?_⟩) hHeld ?_
  rotate_left
  · intro w' hS; obtain ⟨⟨s0, s1⟩, ⟨a0, a1, a2, a3, a4, a5, a6, a7⟩, a8⟩ := hS; go_simp <;> with_reducible rfl
  simp only [Act.put, List.getElem_toArray, List.getElem_cons_succ, List.getElem_cons_zero, List.setIfInBounds_toArray, List.set_cons_succ, List.set_cons_zero]
  refine wpAnyH_take (i := 3) (v := ?_) rfl (by kernel_rfl) (by kernel_rfl) (by kernel_rfl) (fun _ _ _ h => h) (Or.inl ⟨rfl, ?_⟩) hHeld ?_
  rotate_left
  · intro w' hS; obtain ⟨⟨s0, s1⟩, ⟨a0, a1, a2, a3, a4, a5, a6, a7⟩, a8⟩ := hS; go_simp <;> with_reducible rfl
  simp only [Act.put, List.getElem_toArray, List.getElem_cons_succ, List.getElem_cons_zero, List.setIfInBounds_toArray, List.set_cons_succ, List.set_cons_zero]
  refine wpAnyH_take (i := 6) (v := ?_) rfl (by kernel_rfl) (by kernel_rfl) (by kernel_rfl) (fun _ _ _ h => h) (Or.inl ⟨rfl, ?_⟩) hHeld ?_
  rotate_left
  · intro w' hS; obtain ⟨⟨s0, s1⟩, ⟨a0, a1, a2, a3, a4, a5, a6, a7⟩, a8⟩ := hS; go_simp <;> with_reducible rfl
  simp only [Act.put, List.getElem_toArray, List.getElem_cons_succ, List.getElem_cons_zero, List.setIfInBounds_toArray, List.set_cons_succ, List.set_cons_zero]
  refine wpAnyH_ready (rs := [1]) (by kernel_rfl) (by simp) (AllReadyH.cons rfl (fun K hK => ?_) AllReadyH.nil)
  go_simp
  refine (companyRiver_any k q _ hk hq4).mono ?_
  rintro e w2 ⟨gG, gC, g1, g3, g4, g, A, c, rfl, hF, hb⟩
  replace ht := below_then ht hb ht.size
  replace hc := hc.below hb
  replace hp := hp.below hb
  clear hb
  have HT2 := Lib.hid ht
  have hfd : ∀ W : World, (Instr.field 95 (.agg (riverCells k gG gC)) 2).run Try.prog W = .ok (rowsFnV gG gC) W := fun _ => by kernel_rfl
  unfold riverCells rowsFnV at hfd
  unfold riverCells rowsFnV
  refine hK.out _ _ (cis_of hc hp) (fun hHeld => ?_)
  clear hK K
  try simp only [Act.put, List.getElem_toArray, List.getElem_cons_succ, List.getElem_cons_zero, List.setIfInBounds_toArray, List.set_cons_succ, List.set_cons_zero]
  refine wpAnyH_take (i := 2) (v := ?_) rfl (by kernel_rfl) (by kernel_rfl) (by kernel_rfl) (fun _ _ _ h => h) (Or.inl ⟨rfl, ?_⟩) hHeld ?_
  rotate_left
  · intro w' hS; obtain ⟨⟨s0, s1⟩, ⟨a0, a1, a2, a3, a4, a5, a6, a7⟩, a8⟩ := hS; go_simp <;> with_reducible rfl
  simp only [Act.put, List.getElem_toArray, List.getElem_cons_succ, List.getElem_cons_zero, List.setIfInBounds_toArray, List.set_cons_succ, List.set_cons_zero]
  refine wpAnyH_ready (rs := [4]) (by kernel_rfl) (by simp) (AllReadyH.cons rfl (fun K hK => ?_) AllReadyH.nil)
  go_simp
  have hrf := rowsFn_any k q gG gC g1 g3 g4 g A c bs t _ hk HBS.out hF
  rw [HPL.out] at hrf
  unfold place9 at hrf
  refine hrf.mono ?_
  clear hrf
  rintro e w4 ⟨A1, c1, rs, rfl, hrn, hM, hb⟩
  have hw24 := hb.size
  replace ht := below_then ht hb ht.size
  replace hc := hc.below hb
  replace hp := hp.below hb
  clear hb
  refine hK.out _ _ (cis_of hc hp) (fun hHeld => ?_)
  clear hK K
  try simp only [Act.put, List.getElem_toArray, List.getElem_cons_succ, List.getElem_cons_zero, List.setIfInBounds_toArray, List.set_cons_succ, List.set_cons_zero]
  refine wpAnyH_take (i := 5) (v := ?_) rfl (by kernel_rfl) (by kernel_rfl) (by kernel_rfl) (fun _ _ _ h => h) (Or.inl ⟨rfl, ?_⟩) hHeld ?_
  rotate_left
  · intro w' hS; obtain ⟨⟨s0, s1⟩, ⟨a0, a1, a2, a3, a4, a5, a6, a7⟩, a8⟩ := hS; go_simp <;> with_reducible rfl
  simp only [Act.put, List.getElem_toArray, List.getElem_cons_succ, List.getElem_cons_zero, List.setIfInBounds_toArray, List.set_cons_succ, List.set_cons_zero]
  refine wpAnyH_done (by kernel_rfl) ?_ _
  clear hHeld
  clear hc hp hF
  have HM := Lib.hid hM
  have HRN := Lib.hid hrn
  have hrl : rs.length ≤ 255 := by have h1 := congrArg List.length hrn; have h2 := among_len k bs t (groupsOf k q); have h3 := groups_small (q := q) hk; rw [rowNums_len] at h1; rw [rowsIn] at h1; omega
  have HT := Lib.hid ht
  have hws := ht.size
  have HWS : Hid (w.heap.size ≤ w2.heap.size) := HT2.out.size
  clear hM hrn ht
  go_wp2
  go_loopw [8, 25] (fun v i wr => ∃ (j : Nat) (D : Option Addr) (c : Nat), j ≤ rs.length ∧ i = .int .i64 j ∧ v = .slice D j c ∧ wr.ownsRow w4.heap.size 25 1 (.slice D j c) j (rowVals (rs.take j)) ∧ Below w4.heap.size w4 wr) (fun _ i _ => rs.length - (intOf i).toNat)
  case atStart => exact ⟨0, none, 0, Nat.zero_le _, rfl, rfl, World.ownsRow_nil _ _ _ _, Below.refl _ _⟩
  case round =>
    obtain ⟨j, D, c, hj, rfl, rfl, hown, hb⟩ := hrel
    by_cases hlt : j < rs.length
    · have hd : decide ((j : Int) < (rs.length : Int)) = true := by simp; omega
      obtain ⟨gm, rfl, hgl, a0, a1, a2, a3, a4, a5, a6, a7, a8, a9⟩ := moves_row (HM.out.below hb) hlt
      obtain ⟨f', hf'⟩ : ∃ f' : Nat → Bool, f' = fun i => (flipped bs rs[j].xs).getD i false := ⟨_, rfl⟩
      replace a1 : wr.cell? ⟨gm, j * 10 + 1, none⟩ = some (.bool (f' 0)) := by rw [a1, hf']
      replace a2 : wr.cell? ⟨gm, j * 10 + 2, none⟩ = some (.bool (f' 1)) := by rw [a2, hf']
      replace a3 : wr.cell? ⟨gm, j * 10 + 3, none⟩ = some (.bool (f' 2)) := by rw [a3, hf']
      replace a4 : wr.cell? ⟨gm, j * 10 + 4, none⟩ = some (.bool (f' 3)) := by rw [a4, hf']
      replace a5 : wr.cell? ⟨gm, j * 10 + 5, none⟩ = some (.bool (f' 4)) := by rw [a5, hf']
      replace a6 : wr.cell? ⟨gm, j * 10 + 6, none⟩ = some (.bool (f' 5)) := by rw [a6, hf']
      replace a7 : wr.cell? ⟨gm, j * 10 + 7, none⟩ = some (.bool (f' 6)) := by rw [a7, hf']
      replace a8 : wr.cell? ⟨gm, j * 10 + 8, none⟩ = some (.bool (f' 7)) := by rw [a8, hf']
      have hnx : rowVals (rs.take (j + 1)) = rowVals (rs.take j) ++ [rs[j].val] := by
        unfold rowVals
        rw [List.take_succ_eq_append_getElem hlt, List.map_append, List.map_cons, List.map_nil]
      have HNX := Lib.hid hnx
      clear hf' hnx
      generalize rs[j] = r at a0 HNX
      obtain ⟨rA, rn, rc, rx⟩ := r
      unfold RowV.val at a0 HNX
      simp only at a0 HNX
      have hbs := hb.size
      obtain ⟨X, hX⟩ : ∃ X : Obj, X = (.cells #[.slice rA rn rc, .bool (f' 0), .bool (f' 1), .bool (f' 2), .bool (f' 3), .bool (f' 4), .bool (f' 5), .bool (f' 6), .bool (f' 7), .bool (!t)] 98) := ⟨_, rfl⟩
      have HOWN := Lib.hid ((own_keep hown (below1 wr X)).alloc (.cells #[.slice rA rn rc] 25))
      have HB := Lib.hid (hb.alloc hbs X)
      have HMAX := Lib.hid (show j + 1 ≤ maxLen by unfold maxLen; omega)
      have HBYT := Lib.hid (show (j + 1) * 24 ≤ 140737488355328 by omega)
      have HBASE := Lib.hid (show w4.heap.size ≤ ((wr.alloc X).alloc (.cells #[.slice rA rn rc] 25)).heap.size by simp; omega)
      have HB2 := Lib.hid (HB.out.alloc (by simp; omega) (.cells #[.slice rA rn rc] 25))
      have hcn := cell_one_new (wr.alloc X) (.slice rA rn rc) 25
      rw [World.size_alloc] at hcn
      have HCN := Lib.hid hcn
      clear hcn
      subst hX
      clear hown hb
      go_wp2_with (at_builtin; refine wpList_append_lies _ rfl (.tmp 29) (.tmp 32) 36 rfl w4.heap.size 25 i0 (.slice none 0 0) 1 24 Try.underlying36 HI.out HZ0.out HZ1.out HZ2.out rfl (by decide) (.slice D j c) j (rowVals (rs.take j)) rfl HOWN.out ⟨wr.heap.size + 1, 0, none⟩ 1 1 [.slice rA rn rc] rfl rfl HCN.out (by simp [Value.oneCell']) (by decide) HMAX.out HBYT.out HBASE.out (wr.heap.size + 1 + 1) (by simp) ?_; intro g1 cap w5 hown4 hg4 hat hlt4)
      have HBN := Lib.hid (HB2.out.grown hg4 HBASE.out (fun kk hkk => (HOWN.out.lt kk hkk).1))
      have HO4 := Lib.hid hown4
      clear hown4 hg4 hat hlt4 a0 a1 a2 a3 a4 a5 a6 a7 a8 a9
      go_roundw
      case rel => exact ⟨j + 1, some ⟨g1, 0, none⟩, cap, by omega, by go_num, rfl, by rw [HNX.out]; exact HO4.out, HBN.out⟩
      case measure => simp [intOf]; omega
    · obtain rfl : j = rs.length := by omega
      have hd : decide ((rs.length : Int) < (rs.length : Int)) = false := by simp
      rw [List.take_length] at hown
      have HH := Lib.hid ((heads_of_spread HM.out.2 hb hown hw24).raise HWS.out)
      have HBN := Lib.hid (below_then HT.out hb hws)
      clear hown hb
      go_wp2
      go_ret2
      rw [HF.out.1, HF.out.2]
      exact ⟨D, rs.length, c, rs, rfl, HRN.out, rfl, HH.out.free, HBN.out⟩
end Go.Proofs.Ytjkiclhihhhpmaa

namespace Go.Proofs.Ytjkiclhihhhpmaa
open Go.RowKit

set_option maxHeartbeats 800000 in
set_option linter.unusedVariables false in
theorem lawRowsOf_big0 (k0 : Int) (k1 : Int) (A0 : Option Addr) (n0 c0 : Nat) (x0 : List Bool) (t0 : Bool) (w : World) (h0 : Holds w A0 (bits x0)) (hx0 : x0.length = n0) (hn0 : n0 ≤ 9223372036854775807)  (hbig : 1048576 - (n0 : Int) < 0) :
    Calls Try.prog 5 #[.agg #[.int .i64 k0, .int .i64 k1], .agg #[.slice A0 n0 c0, .bool t0]] w fun e w' => e = .returned (.bool true) ∧ Below w.heap.size w w' := by
  have hb0 := ((Whole.fresh w 31 #[.int .i64 k0, .int .i64 k1]).alloc (.cells #[.slice A0 n0 c0, .bool t0] 34))
  have hb1 := (Whole.fresh (w.alloc (.cells #[.int .i64 k0, .int .i64 k1] 31)) 34 #[.slice A0 n0 c0, .bool t0])
  simp only [World.size_alloc] at hb1
  have ht := below2 w (.cells #[.int .i64 k0, .int .i64 k1] 31) (.cells #[.slice A0 n0 c0, .bool t0] 34)
  have HX0 := Lib.hid hx0
  clear hx0
  obtain ⟨hb0_0, hb0_1⟩ := hb0.cells2
  have hb0_l := hb0.lt
  obtain ⟨hb1_0, hb1_1⟩ := hb1.cells2
  have hb1_l := hb1.lt
  go_enter Try.func5, Try.ntmps5
  go_wp2_with fail
  refine (szState_any A0 n0 c0 t0 (1048576) _ (by omega) (by omega) (by omega)).mono ?_
  rintro e v1 ⟨rfl, hb⟩
  rw [if_pos (by omega)]
  have hz1 : w.heap.size + 1 + 1 ≤ v1.heap.size := by have := hb.size; simpa using this
  replace ht := below_then ht hb ht.size
  replace hb0 := hb0.below hb
  replace hb1 := hb1.below hb
  clear hb
  clear hb0_0 hb0_1 hb0_l hb1_0 hb1_1 hb1_l
  go_wp2
  go_ret
  exact ⟨rfl, ht⟩

set_option maxHeartbeats 12800000 in
set_option maxRecDepth 100000 in
set_option linter.unusedSimpArgs false in
set_option linter.unusedVariables false in
theorem lawRowsOf_small (k0 : Int) (k1 : Int) (A0 : Option Addr) (n0 c0 : Nat) (x0 : List Bool) (t0 : Bool) (w : World) (h0 : Holds w A0 (bits x0)) (hx0 : x0.length = n0) (hn0 : n0 ≤ 9223372036854775807) (g0 : 0 ≤ 1048576 - (n0 : Int)) :
    Calls Try.prog 5 #[.agg #[.int .i64 k0, .int .i64 k1], .agg #[.slice A0 n0 c0, .bool t0]] w fun e w' => e = .returned (.bool true) ∧ Below w.heap.size w w' := by
  have hb0 := ((Whole.fresh w 31 #[.int .i64 k0, .int .i64 k1]).alloc (.cells #[.slice A0 n0 c0, .bool t0] 34))
  have hb1 := (Whole.fresh (w.alloc (.cells #[.int .i64 k0, .int .i64 k1] 31)) 34 #[.slice A0 n0 c0, .bool t0])
  simp only [World.size_alloc] at hb1
  have ht := below2 w (.cells #[.int .i64 k0, .int .i64 k1] 31) (.cells #[.slice A0 n0 c0, .bool t0] 34)
  have HX0 := Lib.hid hx0
  clear hx0
  have hlen : (rowsLs k0 k1 x0 t0).length ≤ 1048576 ∧ ((rowsLs k0 k1 x0 t0).map List.length).sum ≤ 1048576 := rowsLs_le
  obtain ⟨hb0_0, hb0_1⟩ := hb0.cells2
  have hb0_l := hb0.lt
  obtain ⟨hb1_0, hb1_1⟩ := hb1.cells2
  have hb1_l := hb1.lt
  go_enter Try.func5, Try.ntmps5
  -- region 2
  go_wp2_with fail
  refine (szState_any A0 n0 c0 t0 (1048576) _ (by omega) (by omega) (by omega)).mono ?_
  rintro e v1 ⟨rfl, hb⟩
  rw [if_neg (by omega)]
  have hz1 : w.heap.size + 1 + 1 ≤ v1.heap.size := by have := hb.size; simpa using this
  replace ht := below_then ht hb ht.size
  replace hb0 := hb0.below hb
  replace hb1 := hb1.below hb
  clear hb
  clear hb0_0 hb0_1 hb0_l hb1_0 hb1_1 hb1_l
  obtain ⟨hb0_0, hb0_1⟩ := hb0.cells2
  have hb0_l := hb0.lt
  obtain ⟨hb1_0, hb1_1⟩ := hb1.cells2
  have hb1_l := hb1.lt
  -- region 5
  clear hb0_0 hb0_1 hb0_l hb1_0 hb1_1 hb1_l
  go_wp2_with fail
  refine wp_region_held_drew (S := (fun w' => w'.cell? ⟨w.heap.size, 0, none⟩ = some (.int .i64 k0) ∧ w'.cell? ⟨w.heap.size, 1, none⟩ = some (.int .i64 k1) ∧ w'.cell? ⟨w.heap.size + 1, 0, none⟩ = some (.slice A0 n0 c0) ∧ w'.cell? ⟨w.heap.size + 1, 1, none⟩ = some (.bool t0))) (by kernel_rfl) ⟨hb0.drew.cell 0, hb0.drew.cell 1, hb1.drew.cell 0, hb1.drew.cell 1⟩ (fun hHeld => ?_)
  replace ht := ht.drew
  replace hb0 := hb0.drew
  replace hb1 := hb1.drew
  refine wpAnyH_take (i := 0) (v := ?_) rfl (by kernel_rfl) (by kernel_rfl) (by kernel_rfl) (fun _ _ _ h => h) (Or.inl ⟨rfl, ?_⟩) hHeld ?_
  rotate_left
  · intro w' hS; obtain ⟨s0, s1, s2, s3⟩ := hS; go_simp <;> with_reducible rfl
  simp only [Act.put, List.getElem_toArray, List.getElem_cons_succ, List.getElem_cons_zero, List.setIfInBounds_toArray, List.set_cons_succ, List.set_cons_zero]
  refine wpAnyH_take (i := 2) (v := ?_) rfl (by kernel_rfl) (by kernel_rfl) (by kernel_rfl) (fun _ _ _ h => h) (Or.inl ⟨rfl, ?_⟩) hHeld ?_
  rotate_left
  · intro w' hS; obtain ⟨s0, s1, s2, s3⟩ := hS; go_simp <;> with_reducible rfl
  simp only [Act.put, List.getElem_toArray, List.getElem_cons_succ, List.getElem_cons_zero, List.setIfInBounds_toArray, List.set_cons_succ, List.set_cons_zero]
  refine wpAnyH_ready (rs := [1]) (by kernel_rfl) (by simp) (AllReadyH.cons rfl (fun K hK => ?_) AllReadyH.nil)
  go_simp
  refine (toCompany_any k0 k1 _).mono ?_
  rintro e v2 ⟨rfl, hb⟩
  have hz2 : v1.heap.size ≤ v2.heap.size := by have := hb.size; simpa using this
  replace ht := below_then ht hb ht.size
  replace hb0 := hb0.below hb
  replace hb1 := hb1.below hb
  clear hb
  refine hK.out _ _ ⟨hb0.cell 0, hb0.cell 1, hb1.cell 0, hb1.cell 1⟩ (fun hHeld => ?_)
  clear hK K
  try simp only [Act.put, List.getElem_toArray, List.getElem_cons_succ, List.getElem_cons_zero, List.setIfInBounds_toArray, List.set_cons_succ, List.set_cons_zero]
  refine wpAnyH_ready (rs := [3]) (by kernel_rfl) (by simp) (AllReadyH.cons rfl (fun K hK => ?_) AllReadyH.nil)
  go_simp
  refine (toState_own A0 n0 c0 x0 t0 _ (by exact h0.below ht) HX0.out (by omega)).mono ?_
  rintro e v3 ⟨gp0, rfl, hgp0, hwp0, hb⟩
  have hz3 : v2.heap.size ≤ v3.heap.size := by have := hb.size; simpa using this
  replace ht := below_then ht hb ht.size
  replace hb0 := hb0.below hb
  replace hb1 := hb1.below hb
  have hp0 := Fresh.of_whole (lo := v2.heap.size) (hi := v3.heap.size) hwp0 (by simpa using hgp0) hwp0.lt
  clear hgp0 hwp0
  clear hb
  refine hK.out _ _ ⟨hb0.cell 0, hb0.cell 1, hb1.cell 0, hb1.cell 1⟩ (fun hHeld => ?_)
  clear hK K
  try simp only [Act.put, List.getElem_toArray, List.getElem_cons_succ, List.getElem_cons_zero, List.setIfInBounds_toArray, List.set_cons_succ, List.set_cons_zero]
  refine wpAnyH_ready (rs := [4]) (by kernel_rfl) (by simp) (AllReadyH.cons rfl (fun K hK => ?_) AllReadyH.nil)
  go_simp
  refine (specRowsOf_any k0 k1 _ n0 _ x0 t0 _ (by exact hp0.holds) HX0.out (by omega)).mono ?_
  rintro e v4 ⟨B0, m0, q0, rs0, rfl, he0, hl0, hF0, hb⟩
  have hz4 : v3.heap.size ≤ v4.heap.size := by have := hb.size; simpa using this
  replace ht := below_then ht hb ht.size
  replace hb0 := hb0.below hb
  replace hb1 := hb1.below hb
  replace hp0 := hp0.below hb
  have HER0 := Lib.hid he0
  have HLR0 := Lib.hid hl0
  have hnr0 : m0 ≤ 1048576 := by have h1 := hl0; have h2 := congrArg List.length he0; rw [rowNums_len] at h2; have h3 := hlen.1; omega
  clear he0 hl0
  replace hF0 := hF0.more (lo' := v3.heap.size) (hi' := v4.heap.size) (by simp) (Nat.le_refl _)
  clear hb
  clear hp0
  refine hK.out _ _ ⟨hb0.cell 0, hb0.cell 1, hb1.cell 0, hb1.cell 1⟩ (fun hHeld => ?_)
  clear hK K
  try simp only [Act.put, List.getElem_toArray, List.getElem_cons_succ, List.getElem_cons_zero, List.setIfInBounds_toArray, List.set_cons_succ, List.set_cons_zero]
  refine wpAnyH_take (i := 5) (v := ?_) rfl (by kernel_rfl) (by kernel_rfl) (by kernel_rfl) (fun _ _ _ h => h) (Or.inl ⟨rfl, ?_⟩) hHeld ?_
  rotate_left
  · intro w' hS; obtain ⟨s0, s1, s2, s3⟩ := hS; go_simp <;> with_reducible rfl
  simp only [Act.put, List.getElem_toArray, List.getElem_cons_succ, List.getElem_cons_zero, List.setIfInBounds_toArray, List.set_cons_succ, List.set_cons_zero]
  refine wpAnyH_take (i := 6) (v := ?_) rfl (by kernel_rfl) (by kernel_rfl) (by kernel_rfl) (fun _ _ _ h => h) (Or.inl ⟨rfl, ?_⟩) hHeld ?_
  rotate_left
  · intro w' hS; obtain ⟨s0, s1, s2, s3⟩ := hS; go_simp <;> with_reducible rfl
  simp only [Act.put, List.getElem_toArray, List.getElem_cons_succ, List.getElem_cons_zero, List.setIfInBounds_toArray, List.set_cons_succ, List.set_cons_zero]
  refine wpAnyH_take (i := 7) (v := ?_) rfl (by kernel_rfl) (by kernel_rfl) (by kernel_rfl) (fun _ _ _ h => h) (Or.inl ⟨rfl, ?_⟩) hHeld ?_
  rotate_left
  · intro w' hS; obtain ⟨s0, s1, s2, s3⟩ := hS; go_simp <;> with_reducible rfl
  simp only [Act.put, List.getElem_toArray, List.getElem_cons_succ, List.getElem_cons_zero, List.setIfInBounds_toArray, List.set_cons_succ, List.set_cons_zero]
  refine wpAnyH_take (i := 8) (v := ?_) rfl (by kernel_rfl) (by kernel_rfl) (by kernel_rfl) (fun _ _ _ h => h) (Or.inl ⟨rfl, ?_⟩) hHeld ?_
  rotate_left
  · intro w' hS; obtain ⟨s0, s1, s2, s3⟩ := hS; go_simp <;> with_reducible rfl
  simp only [Act.put, List.getElem_toArray, List.getElem_cons_succ, List.getElem_cons_zero, List.setIfInBounds_toArray, List.set_cons_succ, List.set_cons_zero]
  refine wpAnyH_take (i := 9) (v := ?_) rfl (by kernel_rfl) (by kernel_rfl) (by kernel_rfl) (fun _ _ _ h => h) (Or.inl ⟨rfl, ?_⟩) hHeld ?_
  rotate_left
  · intro w' hS; obtain ⟨s0, s1, s2, s3⟩ := hS; go_simp <;> with_reducible rfl
  simp only [Act.put, List.getElem_toArray, List.getElem_cons_succ, List.getElem_cons_zero, List.setIfInBounds_toArray, List.set_cons_succ, List.set_cons_zero]
  refine wpAnyH_done (by kernel_rfl) ?_ _
  clear hHeld
  obtain ⟨hb0_0, hb0_1⟩ := hb0.cells2
  have hb0_l := hb0.lt
  obtain ⟨hb1_0, hb1_1⟩ := hb1.cells2
  have hb1_l := hb1.lt
  -- region 6
  go_wp2_with fail
  refine (toState_own A0 n0 c0 x0 t0 _ (by exact h0.below ht) HX0.out (by omega)).mono ?_
  rintro e v5 ⟨gx0, rfl, hgx0, hwx0, hb⟩
  have hz5 : v4.heap.size ≤ v5.heap.size := by have := hb.size; simpa using this
  replace ht := below_then ht hb ht.size
  replace hb0 := hb0.below hb
  replace hb1 := hb1.below hb
  replace hF0 := hF0.below hb
  have hx0 := Fresh.of_whole (lo := v4.heap.size) (hi := v5.heap.size) hwx0 (by simpa using hgx0) hwx0.lt
  clear hgx0 hwx0
  clear hb
  have hx91 := Whole.fresh v5 41 #[.slice (some ⟨gx0, 0, none⟩) n0 n0, .bool t0]
  replace ht := ht.alloc ht.size (.cells #[.slice (some ⟨gx0, 0, none⟩) n0 n0, .bool t0] 41)
  replace hb0 := hb0.alloc (.cells #[.slice (some ⟨gx0, 0, none⟩) n0 n0, .bool t0] 41)
  replace hb1 := hb1.alloc (.cells #[.slice (some ⟨gx0, 0, none⟩) n0 n0, .bool t0] 41)
  replace hF0 := hF0.alloc (.cells #[.slice (some ⟨gx0, 0, none⟩) n0 n0, .bool t0] 41)
  replace hx0 := hx0.alloc (.cells #[.slice (some ⟨gx0, 0, none⟩) n0 n0, .bool t0] 41)
  clear hb0_0 hb0_1 hb0_l hb1_0 hb1_1 hb1_l
  obtain ⟨hb0_0, hb0_1⟩ := hb0.cells2
  have hb0_l := hb0.lt
  obtain ⟨hb1_0, hb1_1⟩ := hb1.cells2
  have hb1_l := hb1.lt
  obtain ⟨hx91_0, hx91_1⟩ := hx91.cells2
  have hx91_l := hx91.lt
  -- region 7
  clear hb0_0 hb0_1 hb0_l hb1_0 hb1_1 hb1_l hx91_0 hx91_1 hx91_l
  go_wp2_with fail
  refine wp_region_held_drew (S := (fun w' => w'.cell? ⟨w.heap.size, 0, none⟩ = some (.int .i64 k0) ∧ w'.cell? ⟨w.heap.size, 1, none⟩ = some (.int .i64 k1) ∧ w'.cell? ⟨w.heap.size + 1, 0, none⟩ = some (.slice A0 n0 c0) ∧ w'.cell? ⟨w.heap.size + 1, 1, none⟩ = some (.bool t0) ∧ w'.cell? ⟨v5.heap.size, 0, none⟩ = some (.slice (some ⟨gx0, 0, none⟩) n0 n0) ∧ w'.cell? ⟨v5.heap.size, 1, none⟩ = some (.bool t0))) (by kernel_rfl) ⟨hb0.drew.cell 0, hb0.drew.cell 1, hb1.drew.cell 0, hb1.drew.cell 1, hx91.drew.cell 0, hx91.drew.cell 1⟩ (fun hHeld => ?_)
  replace ht := ht.drew
  replace hb0 := hb0.drew
  replace hb1 := hb1.drew
  replace hF0 := hF0.drew
  replace hx0 := hx0.drew
  replace hx91 := hx91.drew
  refine wpAnyH_take (i := 0) (v := ?_) rfl (by kernel_rfl) (by kernel_rfl) (by kernel_rfl) (fun _ _ _ h => h) (Or.inl ⟨rfl, ?_⟩) hHeld ?_
  rotate_left
  · intro w' hS; obtain ⟨s0, s1, s2, s3, s4, s5⟩ := hS; go_simp <;> with_reducible rfl
  simp only [Act.put, List.getElem_toArray, List.getElem_cons_succ, List.getElem_cons_zero, List.setIfInBounds_toArray, List.set_cons_succ, List.set_cons_zero]
  refine wpAnyH_take (i := 2) (v := ?_) rfl (by kernel_rfl) (by kernel_rfl) (by kernel_rfl) (fun _ _ _ h => h) (Or.inl ⟨rfl, ?_⟩) hHeld ?_
  rotate_left
  · intro w' hS; obtain ⟨s0, s1, s2, s3, s4, s5⟩ := hS; go_simp <;> with_reducible rfl
  simp only [Act.put, List.getElem_toArray, List.getElem_cons_succ, List.getElem_cons_zero, List.setIfInBounds_toArray, List.set_cons_succ, List.set_cons_zero]
  refine wpAnyH_ready (rs := [1]) (by kernel_rfl) (by simp) (AllReadyH.cons rfl (fun K hK => ?_) AllReadyH.nil)
  go_simp
  refine (toCompany_any k0 k1 _).mono ?_
  rintro e v6 ⟨rfl, hb⟩
  have hz6 : v5.heap.size + 1 ≤ v6.heap.size := by have := hb.size; simpa using this
  replace ht := below_then ht hb ht.size
  replace hb0 := hb0.below hb
  replace hb1 := hb1.below hb
  replace hF0 := hF0.below hb
  replace hx0 := hx0.below hb
  replace hx91 := hx91.below hb
  clear hb
  refine hK.out _ _ ⟨hb0.cell 0, hb0.cell 1, hb1.cell 0, hb1.cell 1, hx91.cell 0, hx91.cell 1⟩ (fun hHeld => ?_)
  clear hK K
  try simp only [Act.put, List.getElem_toArray, List.getElem_cons_succ, List.getElem_cons_zero, List.setIfInBounds_toArray, List.set_cons_succ, List.set_cons_zero]
  refine wpAnyH_ready (rs := [3]) (by kernel_rfl) (by simp) (AllReadyH.cons rfl (fun K hK => ?_) AllReadyH.nil)
  go_simp
  refine (implRowsOf_any k0 k1 _ n0 _ x0 t0 _ (by exact hx0.holds) HX0.out (by omega)).mono ?_
  rintro e v7 ⟨B1, m1, q1, rs1, rfl, he1, hl1, hF1, hb⟩
  have hz7 : v6.heap.size ≤ v7.heap.size := by have := hb.size; simpa using this
  replace ht := below_then ht hb ht.size
  replace hb0 := hb0.below hb
  replace hb1 := hb1.below hb
  replace hF0 := hF0.below hb
  replace hx0 := hx0.below hb
  replace hx91 := hx91.below hb
  have HER1 := Lib.hid he1
  have HLR1 := Lib.hid hl1
  have hnr1 : m1 ≤ 1048576 := by have h1 := hl1; have h2 := congrArg List.length he1; rw [rowNums_len] at h2; have h3 := hlen.1; omega
  clear he1 hl1
  replace hF1 := hF1.more (lo' := v6.heap.size) (hi' := v7.heap.size) (by simp) (Nat.le_refl _)
  clear hb
  refine hK.out _ _ ⟨hb0.cell 0, hb0.cell 1, hb1.cell 0, hb1.cell 1, hx91.cell 0, hx91.cell 1⟩ (fun hHeld => ?_)
  clear hK K
  try simp only [Act.put, List.getElem_toArray, List.getElem_cons_succ, List.getElem_cons_zero, List.setIfInBounds_toArray, List.set_cons_succ, List.set_cons_zero]
  refine wpAnyH_take (i := 4) (v := ?_) rfl (by kernel_rfl) (by kernel_rfl) (by kernel_rfl) (fun _ _ _ h => h) (Or.inl ⟨rfl, ?_⟩) hHeld ?_
  rotate_left
  · intro w' hS; obtain ⟨s0, s1, s2, s3, s4, s5⟩ := hS; go_simp <;> with_reducible rfl
  simp only [Act.put, List.getElem_toArray, List.getElem_cons_succ, List.getElem_cons_zero, List.setIfInBounds_toArray, List.set_cons_succ, List.set_cons_zero]
  refine wpAnyH_take (i := 5) (v := ?_) rfl (by kernel_rfl) (by kernel_rfl) (by kernel_rfl) (fun _ _ _ h => h) (Or.inl ⟨rfl, ?_⟩) hHeld ?_
  rotate_left
  · intro w' hS; obtain ⟨s0, s1, s2, s3, s4, s5⟩ := hS; go_simp <;> with_reducible rfl
  simp only [Act.put, List.getElem_toArray, List.getElem_cons_succ, List.getElem_cons_zero, List.setIfInBounds_toArray, List.set_cons_succ, List.set_cons_zero]
  refine wpAnyH_take (i := 6) (v := ?_) rfl (by kernel_rfl) (by kernel_rfl) (by kernel_rfl) (fun _ _ _ h => h) (Or.inl ⟨rfl, ?_⟩) hHeld ?_
  rotate_left
  · intro w' hS; obtain ⟨s0, s1, s2, s3, s4, s5⟩ := hS; go_simp <;> with_reducible rfl
  simp only [Act.put, List.getElem_toArray, List.getElem_cons_succ, List.getElem_cons_zero, List.setIfInBounds_toArray, List.set_cons_succ, List.set_cons_zero]
  refine wpAnyH_take (i := 7) (v := ?_) rfl (by kernel_rfl) (by kernel_rfl) (by kernel_rfl) (fun _ _ _ h => h) (Or.inl ⟨rfl, ?_⟩) hHeld ?_
  rotate_left
  · intro w' hS; obtain ⟨s0, s1, s2, s3, s4, s5⟩ := hS; go_simp <;> with_reducible rfl
  simp only [Act.put, List.getElem_toArray, List.getElem_cons_succ, List.getElem_cons_zero, List.setIfInBounds_toArray, List.set_cons_succ, List.set_cons_zero]
  refine wpAnyH_take (i := 8) (v := ?_) rfl (by kernel_rfl) (by kernel_rfl) (by kernel_rfl) (fun _ _ _ h => h) (Or.inl ⟨rfl, ?_⟩) hHeld ?_
  rotate_left
  · intro w' hS; obtain ⟨s0, s1, s2, s3, s4, s5⟩ := hS; go_simp <;> with_reducible rfl
  simp only [Act.put, List.getElem_toArray, List.getElem_cons_succ, List.getElem_cons_zero, List.setIfInBounds_toArray, List.set_cons_succ, List.set_cons_zero]
  refine wpAnyH_done (by kernel_rfl) ?_ _
  clear hHeld
  obtain ⟨hb0_0, hb0_1⟩ := hb0.cells2
  have hb0_l := hb0.lt
  obtain ⟨hb1_0, hb1_1⟩ := hb1.cells2
  have hb1_l := hb1.lt
  obtain ⟨hx91_0, hx91_1⟩ := hx91.cells2
  have hx91_l := hx91.lt
  -- region 8
  go_wp2_with fail
  refine (eqIntSS_yes B1 B0 m1 m0 q1 q0 rs1 rs0 _ (by exact hF1.grid) (by exact hF0.grid) (by rw [HER1.out, HER0.out]) HLR1.out HLR0.out (by omega)).mono ?_
  rintro e v8 ⟨rfl, hb⟩
  have hz8 : v7.heap.size ≤ v8.heap.size := by have := hb.size; simpa using this
  replace ht := below_then ht hb ht.size
  replace hb0 := hb0.below hb
  replace hb1 := hb1.below hb
  replace hF0 := hF0.below hb
  replace hx0 := hx0.below hb
  replace hx91 := hx91.below hb
  replace hF1 := hF1.below hb
  clear hb
  clear hb0_0 hb0_1 hb0_l hb1_0 hb1_1 hb1_l hx91_0 hx91_1 hx91_l
  obtain ⟨hb0_0, hb0_1⟩ := hb0.cells2
  have hb0_l := hb0.lt
  obtain ⟨hb1_0, hb1_1⟩ := hb1.cells2
  have hb1_l := hb1.lt
  obtain ⟨hx91_0, hx91_1⟩ := hx91.cells2
  have hx91_l := hx91.lt
  -- region 10
  clear hb0_0 hb0_1 hb0_l hb1_0 hb1_1 hb1_l hx91_0 hx91_1 hx91_l
  go_wp2_with fail
  refine wp_region_held_drew (S := (fun w' => w'.cell? ⟨w.heap.size, 0, none⟩ = some (.int .i64 k0) ∧ w'.cell? ⟨w.heap.size, 1, none⟩ = some (.int .i64 k1) ∧ w'.cell? ⟨w.heap.size + 1, 0, none⟩ = some (.slice A0 n0 c0) ∧ w'.cell? ⟨w.heap.size + 1, 1, none⟩ = some (.bool t0) ∧ w'.cell? ⟨v5.heap.size, 0, none⟩ = some (.slice (some ⟨gx0, 0, none⟩) n0 n0) ∧ w'.cell? ⟨v5.heap.size, 1, none⟩ = some (.bool t0))) (by kernel_rfl) ⟨hb0.drew.cell 0, hb0.drew.cell 1, hb1.drew.cell 0, hb1.drew.cell 1, hx91.drew.cell 0, hx91.drew.cell 1⟩ (fun hHeld => ?_)
  replace ht := ht.drew
  replace hb0 := hb0.drew
  replace hb1 := hb1.drew
  replace hF0 := hF0.drew
  replace hx0 := hx0.drew
  replace hx91 := hx91.drew
  replace hF1 := hF1.drew
  refine wpAnyH_take (i := 0) (v := ?_) rfl (by kernel_rfl) (by kernel_rfl) (by kernel_rfl) (fun _ _ _ h => h) (Or.inl ⟨rfl, ?_⟩) hHeld ?_
  rotate_left
  · intro w' hS; obtain ⟨s0, s1, s2, s3, s4, s5⟩ := hS; go_simp <;> with_reducible rfl
  simp only [Act.put, List.getElem_toArray, List.getElem_cons_succ, List.getElem_cons_zero, List.setIfInBounds_toArray, List.set_cons_succ, List.set_cons_zero]
  refine wpAnyH_take (i := 1) (v := ?_) rfl (by kernel_rfl) (by kernel_rfl) (by kernel_rfl) (fun _ _ _ h => h) (Or.inl ⟨rfl, ?_⟩) hHeld ?_
  rotate_left
  · intro w' hS; obtain ⟨s0, s1, s2, s3, s4, s5⟩ := hS; go_simp <;> with_reducible rfl
  simp only [Act.put, List.getElem_toArray, List.getElem_cons_succ, List.getElem_cons_zero, List.setIfInBounds_toArray, List.set_cons_succ, List.set_cons_zero]
  refine wpAnyH_ready (rs := [2]) (by kernel_rfl) (by simp) (AllReadyH.cons rfl (fun K hK => ?_) AllReadyH.nil)
  go_simp
  refine (toState_own A0 n0 c0 x0 t0 _ (by exact h0.below ht) HX0.out (by omega)).mono ?_
  rintro e v9 ⟨gy0, rfl, hgy0, hwy0, hb⟩
  have hz9 : v8.heap.size ≤ v9.heap.size := by have := hb.size; simpa using this
  replace ht := below_then ht hb ht.size
  replace hb0 := hb0.below hb
  replace hb1 := hb1.below hb
  replace hF0 := hF0.below hb
  replace hx0 := hx0.below hb
  replace hx91 := hx91.below hb
  replace hF1 := hF1.below hb
  have hy0 := Fresh.of_whole (lo := v8.heap.size) (hi := v9.heap.size) hwy0 (by simpa using hgy0) hwy0.lt
  clear hgy0 hwy0
  clear hb
  refine hK.out _ _ ⟨hb0.cell 0, hb0.cell 1, hb1.cell 0, hb1.cell 1, hx91.cell 0, hx91.cell 1⟩ (fun hHeld => ?_)
  clear hK K
  try simp only [Act.put, List.getElem_toArray, List.getElem_cons_succ, List.getElem_cons_zero, List.setIfInBounds_toArray, List.set_cons_succ, List.set_cons_zero]
  refine wpAnyH_ready (rs := [3]) (by kernel_rfl) (by simp) (AllReadyH.cons rfl (fun K hK => ?_) AllReadyH.nil)
  go_simp
  refine (eqState_yes _ _ n0 _ _ x0 t0 _ (by exact hx0.holds) (by exact hy0.holds) HX0.out (by omega)).mono ?_
  rintro e v10 ⟨rfl, hb⟩
  have hz10 : v9.heap.size ≤ v10.heap.size := by have := hb.size; simpa using this
  replace ht := below_then ht hb ht.size
  replace hb0 := hb0.below hb
  replace hb1 := hb1.below hb
  replace hF0 := hF0.below hb
  replace hx0 := hx0.below hb
  replace hx91 := hx91.below hb
  replace hF1 := hF1.below hb
  replace hy0 := hy0.below hb
  clear hb
  clear hy0
  refine hK.out _ _ ⟨hb0.cell 0, hb0.cell 1, hb1.cell 0, hb1.cell 1, hx91.cell 0, hx91.cell 1⟩ (fun hHeld => ?_)
  clear hK K
  try simp only [Act.put, List.getElem_toArray, List.getElem_cons_succ, List.getElem_cons_zero, List.setIfInBounds_toArray, List.set_cons_succ, List.set_cons_zero]
  refine wpAnyH_take (i := 4) (v := ?_) rfl (by kernel_rfl) (by kernel_rfl) (by kernel_rfl) (fun _ _ _ h => h) (Or.inl ⟨rfl, ?_⟩) hHeld ?_
  rotate_left
  · intro w' hS; obtain ⟨s0, s1, s2, s3, s4, s5⟩ := hS; go_simp <;> with_reducible rfl
  simp only [Act.put, List.getElem_toArray, List.getElem_cons_succ, List.getElem_cons_zero, List.setIfInBounds_toArray, List.set_cons_succ, List.set_cons_zero]
  refine wpAnyH_done (by kernel_rfl) ?_ _
  clear hHeld
  obtain ⟨hb0_0, hb0_1⟩ := hb0.cells2
  have hb0_l := hb0.lt
  obtain ⟨hb1_0, hb1_1⟩ := hb1.cells2
  have hb1_l := hb1.lt
  obtain ⟨hx91_0, hx91_1⟩ := hx91.cells2
  have hx91_l := hx91.lt
  -- region 13
  go_wp2_with fail
  refine (markState_any (some ⟨gx0, 0, none⟩) n0 n0 _ _ _ t0 (1) _ hx0 (by rw [bits_len]; exact HX0.out) (by omega) (by omega) (by omega)).mono ?_
  rintro e v11 ⟨rfl, hs, -⟩
  have hsz := ht.size
  replace ht := hs.below ht (by omega) hsz
  replace hb0 := hs.whole hb0 (by omega)
  replace hb1 := hs.whole hb1 (by omega)
  replace hF0 := hs.freeGrid hF0 (by omega)
  replace hF1 := hs.freeGrid hF1 (by omega)
  clear hs hsz hx0 hx91
  have hk_1 : (0 : Int) ≤ 1 + (n0 : Int) := by omega
  clear hb0_0 hb0_1 hb0_l hb1_0 hb1_1 hb1_l hx91_0 hx91_1 hx91_l
  obtain ⟨hb0_0, hb0_1⟩ := hb0.cells2
  have hb0_l := hb0.lt
  obtain ⟨hb1_0, hb1_1⟩ := hb1.cells2
  have hb1_l := hb1.lt
  -- region 14
  go_wp2_with fail
  refine (eqIntSS_yes B1 B0 m1 m0 q1 q0 rs1 rs0 _ (by exact hF1.grid) (by exact hF0.grid) (by rw [HER1.out, HER0.out]) HLR1.out HLR0.out (by omega)).mono ?_
  rintro e v12 ⟨rfl, hb⟩
  have hz12 : v11.heap.size ≤ v12.heap.size := by have := hb.size; simpa using this
  replace ht := below_then ht hb ht.size
  replace hb0 := hb0.below hb
  replace hb1 := hb1.below hb
  replace hF0 := hF0.below hb
  replace hF1 := hF1.below hb
  clear hb
  clear hb0_0 hb0_1 hb0_l hb1_0 hb1_1 hb1_l
  obtain ⟨hb0_0, hb0_1⟩ := hb0.cells2
  have hb0_l := hb0.lt
  obtain ⟨hb1_0, hb1_1⟩ := hb1.cells2
  have hb1_l := hb1.lt
  -- region 17
  go_wp2_with fail
  have hprt : part rs1 rs1.length ≤ 1048576 := by have h1 := part_lens hF1.grid; have h2 := hlen.2; rw [HER1.out] at h1; omega
  refine (markIntSS_any B1 m1 q1 _ _ rs1 1 _ hF1 HLR1.out (by omega) (by omega) hnr1 hprt).mono ?_
  rintro e v13 ⟨rfl, hs, hM⟩
  have hsz := ht.size
  replace ht := hs.below ht (by omega) hsz
  replace hb0 := hs.whole hb0 (by omega)
  replace hb1 := hs.whole hb1 (by omega)
  replace hF0 := hs.freeGrid hF0 (by omega)
  clear hs hF1 hsz
  clear hb0_0 hb0_1 hb0_l hb1_0 hb1_1 hb1_l
  obtain ⟨hb0_0, hb0_1⟩ := hb0.cells2
  have hb0_l := hb0.lt
  obtain ⟨hb1_0, hb1_1⟩ := hb1.cells2
  have hb1_l := hb1.lt
  -- region 19
  go_wp2_with fail
  refine (heldIntSS_any B1 m1 q1 rs1 1 _ (by exact hM.grid) HLR1.out (by omega) (by omega) hnr1 hprt).mono ?_
  rintro e v14 ⟨rfl, hb⟩
  have hz14 : v13.heap.size ≤ v14.heap.size := by have := hb.size; simpa using this
  replace ht := below_then ht hb ht.size
  replace hb0 := hb0.below hb
  replace hb1 := hb1.below hb
  replace hF0 := hF0.below hb
  replace hM := hM.below hb
  clear hb
  have hm0 : (0 : Int) ≤ 1 + ((part rs1 rs1.length : Nat) : Int) := by omega
  clear hb0_0 hb0_1 hb0_l hb1_0 hb1_1 hb1_l
  obtain ⟨hb0_0, hb0_1⟩ := hb0.cells2
  have hb0_l := hb0.lt
  obtain ⟨hb1_0, hb1_1⟩ := hb1.cells2
  have hb1_l := hb1.lt
  -- region 24
  clear hb0_0 hb0_1 hb0_l hb1_0 hb1_1 hb1_l
  go_wp2_with fail
  refine wp_region_held_drew (S := (fun w' => w'.cell? ⟨w.heap.size, 0, none⟩ = some (.int .i64 k0) ∧ w'.cell? ⟨w.heap.size, 1, none⟩ = some (.int .i64 k1) ∧ w'.cell? ⟨w.heap.size + 1, 0, none⟩ = some (.slice A0 n0 c0) ∧ w'.cell? ⟨w.heap.size + 1, 1, none⟩ = some (.bool t0))) (by kernel_rfl) ⟨hb0.drew.cell 0, hb0.drew.cell 1, hb1.drew.cell 0, hb1.drew.cell 1⟩ (fun hHeld => ?_)
  replace ht := ht.drew
  replace hb0 := hb0.drew
  replace hb1 := hb1.drew
  replace hF0 := hF0.drew
  replace hM := hM.drew
  refine wpAnyH_take (i := 0) (v := ?_) rfl (by kernel_rfl) (by kernel_rfl) (by kernel_rfl) (fun _ _ _ h => h) (Or.inl ⟨rfl, ?_⟩) hHeld ?_
  rotate_left
  · intro w' hS; obtain ⟨s0, s1, s2, s3⟩ := hS; go_simp <;> with_reducible rfl
  simp only [Act.put, List.getElem_toArray, List.getElem_cons_succ, List.getElem_cons_zero, List.setIfInBounds_toArray, List.set_cons_succ, List.set_cons_zero]
  refine wpAnyH_take (i := 2) (v := ?_) rfl (by kernel_rfl) (by kernel_rfl) (by kernel_rfl) (fun _ _ _ h => h) (Or.inl ⟨rfl, ?_⟩) hHeld ?_
  rotate_left
  · intro w' hS; obtain ⟨s0, s1, s2, s3⟩ := hS; go_simp <;> with_reducible rfl
  simp only [Act.put, List.getElem_toArray, List.getElem_cons_succ, List.getElem_cons_zero, List.setIfInBounds_toArray, List.set_cons_succ, List.set_cons_zero]
  refine wpAnyH_ready (rs := [1]) (by kernel_rfl) (by simp) (AllReadyH.cons rfl (fun K hK => ?_) AllReadyH.nil)
  go_simp
  refine (toCompany_any k0 k1 _).mono ?_
  rintro e v15 ⟨rfl, hb⟩
  have hz15 : v14.heap.size ≤ v15.heap.size := by have := hb.size; simpa using this
  replace ht := below_then ht hb ht.size
  replace hb0 := hb0.below hb
  replace hb1 := hb1.below hb
  replace hF0 := hF0.below hb
  replace hM := hM.below hb
  clear hb
  refine hK.out _ _ ⟨hb0.cell 0, hb0.cell 1, hb1.cell 0, hb1.cell 1⟩ (fun hHeld => ?_)
  clear hK K
  try simp only [Act.put, List.getElem_toArray, List.getElem_cons_succ, List.getElem_cons_zero, List.setIfInBounds_toArray, List.set_cons_succ, List.set_cons_zero]
  refine wpAnyH_ready (rs := [3]) (by kernel_rfl) (by simp) (AllReadyH.cons rfl (fun K hK => ?_) AllReadyH.nil)
  go_simp
  refine (toState_own A0 n0 c0 x0 t0 _ (by exact h0.below ht) HX0.out (by omega)).mono ?_
  rintro e v16 ⟨gr0, rfl, hgr0, hwr0, hb⟩
  have hz16 : v15.heap.size ≤ v16.heap.size := by have := hb.size; simpa using this
  replace ht := below_then ht hb ht.size
  replace hb0 := hb0.below hb
  replace hb1 := hb1.below hb
  replace hF0 := hF0.below hb
  replace hM := hM.below hb
  have hr0 := Fresh.of_whole (lo := v15.heap.size) (hi := v16.heap.size) hwr0 (by simpa using hgr0) hwr0.lt
  clear hgr0 hwr0
  clear hb
  refine hK.out _ _ ⟨hb0.cell 0, hb0.cell 1, hb1.cell 0, hb1.cell 1⟩ (fun hHeld => ?_)
  clear hK K
  try simp only [Act.put, List.getElem_toArray, List.getElem_cons_succ, List.getElem_cons_zero, List.setIfInBounds_toArray, List.set_cons_succ, List.set_cons_zero]
  refine wpAnyH_ready (rs := [4]) (by kernel_rfl) (by simp) (AllReadyH.cons rfl (fun K hK => ?_) AllReadyH.nil)
  go_simp
  refine (implRowsOf_any k0 k1 _ n0 _ x0 t0 _ (by exact hr0.holds) HX0.out (by omega)).mono ?_
  rintro e v17 ⟨B2, m2, q2, rs2, rfl, he2, hl2, hF2, hb⟩
  have hz17 : v16.heap.size ≤ v17.heap.size := by have := hb.size; simpa using this
  replace ht := below_then ht hb ht.size
  replace hb0 := hb0.below hb
  replace hb1 := hb1.below hb
  replace hF0 := hF0.below hb
  replace hM := hM.below hb
  replace hr0 := hr0.below hb
  have HER2 := Lib.hid he2
  have HLR2 := Lib.hid hl2
  have hnr2 : m2 ≤ 1048576 := by have h1 := hl2; have h2 := congrArg List.length he2; rw [rowNums_len] at h2; have h3 := hlen.1; omega
  clear he2 hl2
  replace hF2 := hF2.more (lo' := v16.heap.size) (hi' := v17.heap.size) (by simp) (Nat.le_refl _)
  clear hb
  clear hr0
  refine hK.out _ _ ⟨hb0.cell 0, hb0.cell 1, hb1.cell 0, hb1.cell 1⟩ (fun hHeld => ?_)
  clear hK K
  try simp only [Act.put, List.getElem_toArray, List.getElem_cons_succ, List.getElem_cons_zero, List.setIfInBounds_toArray, List.set_cons_succ, List.set_cons_zero]
  refine wpAnyH_take (i := 5) (v := ?_) rfl (by kernel_rfl) (by kernel_rfl) (by kernel_rfl) (fun _ _ _ h => h) (Or.inl ⟨rfl, ?_⟩) hHeld ?_
  rotate_left
  · intro w' hS; obtain ⟨s0, s1, s2, s3⟩ := hS; go_simp <;> with_reducible rfl
  simp only [Act.put, List.getElem_toArray, List.getElem_cons_succ, List.getElem_cons_zero, List.setIfInBounds_toArray, List.set_cons_succ, List.set_cons_zero]
  refine wpAnyH_take (i := 6) (v := ?_) rfl (by kernel_rfl) (by kernel_rfl) (by kernel_rfl) (fun _ _ _ h => h) (Or.inl ⟨rfl, ?_⟩) hHeld ?_
  rotate_left
  · intro w' hS; obtain ⟨s0, s1, s2, s3⟩ := hS; go_simp <;> with_reducible rfl
  simp only [Act.put, List.getElem_toArray, List.getElem_cons_succ, List.getElem_cons_zero, List.setIfInBounds_toArray, List.set_cons_succ, List.set_cons_zero]
  refine wpAnyH_take (i := 7) (v := ?_) rfl (by kernel_rfl) (by kernel_rfl) (by kernel_rfl) (fun _ _ _ h => h) (Or.inl ⟨rfl, ?_⟩) hHeld ?_
  rotate_left
  · intro w' hS; obtain ⟨s0, s1, s2, s3⟩ := hS; go_simp <;> with_reducible rfl
  simp only [Act.put, List.getElem_toArray, List.getElem_cons_succ, List.getElem_cons_zero, List.setIfInBounds_toArray, List.set_cons_succ, List.set_cons_zero]
  refine wpAnyH_take (i := 8) (v := ?_) rfl (by kernel_rfl) (by kernel_rfl) (by kernel_rfl) (fun _ _ _ h => h) (Or.inl ⟨rfl, ?_⟩) hHeld ?_
  rotate_left
  · intro w' hS; obtain ⟨s0, s1, s2, s3⟩ := hS; go_simp <;> with_reducible rfl
  simp only [Act.put, List.getElem_toArray, List.getElem_cons_succ, List.getElem_cons_zero, List.setIfInBounds_toArray, List.set_cons_succ, List.set_cons_zero]
  refine wpAnyH_take (i := 9) (v := ?_) rfl (by kernel_rfl) (by kernel_rfl) (by kernel_rfl) (fun _ _ _ h => h) (Or.inl ⟨rfl, ?_⟩) hHeld ?_
  rotate_left
  · intro w' hS; obtain ⟨s0, s1, s2, s3⟩ := hS; go_simp <;> with_reducible rfl
  simp only [Act.put, List.getElem_toArray, List.getElem_cons_succ, List.getElem_cons_zero, List.setIfInBounds_toArray, List.set_cons_succ, List.set_cons_zero]
  refine wpAnyH_done (by kernel_rfl) ?_ _
  clear hHeld
  obtain ⟨hb0_0, hb0_1⟩ := hb0.cells2
  have hb0_l := hb0.lt
  obtain ⟨hb1_0, hb1_1⟩ := hb1.cells2
  have hb1_l := hb1.lt
  -- region 25
  go_wp2_with fail
  refine (eqIntSS_yes B2 B0 m2 m0 q2 q0 rs2 rs0 _ (by exact hF2.grid) (by exact hF0.grid) (by rw [HER2.out, HER0.out]) HLR2.out HLR0.out (by omega)).mono ?_
  rintro e v18 ⟨rfl, hb⟩
  have hz18 : v17.heap.size ≤ v18.heap.size := by have := hb.size; simpa using this
  replace ht := below_then ht hb ht.size
  replace hb0 := hb0.below hb
  replace hb1 := hb1.below hb
  replace hF0 := hF0.below hb
  replace hM := hM.below hb
  replace hF2 := hF2.below hb
  clear hb
  clear hb0_0 hb0_1 hb0_l hb1_0 hb1_1 hb1_l
  obtain ⟨hb0_0, hb0_1⟩ := hb0.cells2
  have hb0_l := hb0.lt
  obtain ⟨hb1_0, hb1_1⟩ := hb1.cells2
  have hb1_l := hb1.lt
  -- region 28
  go_wp2_with fail
  refine (heldIntSS_any B1 m1 q1 rs1 1 _ (by exact hM.grid) HLR1.out (by omega) (by omega) hnr1 hprt).mono ?_
  rintro e v19 ⟨rfl, hb⟩
  have hz19 : v18.heap.size ≤ v19.heap.size := by have := hb.size; simpa using this
  replace ht := below_then ht hb ht.size
  replace hb0 := hb0.below hb
  replace hb1 := hb1.below hb
  replace hF0 := hF0.below hb
  replace hM := hM.below hb
  replace hF2 := hF2.below hb
  clear hb
  clear hb0_0 hb0_1 hb0_l hb1_0 hb1_1 hb1_l
  obtain ⟨hb0_0, hb0_1⟩ := hb0.cells2
  have hb0_l := hb0.lt
  obtain ⟨hb1_0, hb1_1⟩ := hb1.cells2
  have hb1_l := hb1.lt
  go_wp2
  go_ret
  exact ⟨rfl, ht⟩

theorem lawRowsOf_all (k0 : Int) (k1 : Int) (A0 : Option Addr) (n0 c0 : Nat) (x0 : List Bool) (t0 : Bool) (w : World) (h0 : Holds w A0 (bits x0)) (hx0 : x0.length = n0) (hn0 : n0 ≤ 9223372036854775807) :
    Calls Try.prog 5 #[.agg #[.int .i64 k0, .int .i64 k1], .agg #[.slice A0 n0 c0, .bool t0]] w fun e w' => e = .returned (.bool true) ∧ Below w.heap.size w w' := by
  rcases (inferInstance : Decidable (0 ≤ 1048576 - (n0 : Int))) with g0 | g0
  · exact lawRowsOf_big0 k0 k1 A0 n0 c0 x0 t0 w h0 hx0 hn0  (by omega)
  exact lawRowsOf_small k0 k1 A0 n0 c0 x0 t0 w h0 hx0 hn0 g0
end Go.Proofs.Ytjkiclhihhhpmaa
