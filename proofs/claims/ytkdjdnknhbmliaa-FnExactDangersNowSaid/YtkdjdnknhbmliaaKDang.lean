/-
  What is proved: contracts of IsSafe and DangersNow, of the model and of the program. Conditions: the arguments are read as they lie.
-/
import Derived.Test.YtkdjdnknhbmliaaKNow
import Derived.Test.YtkdjdnknhbmliaaSubsI
namespace Go.Proofs.Ytkdjdnknhbmliaa
open Go.RowKit

def placeK (f : Nat → Bool) (t : Bool) : Array Value := #[.bool (f 0), .bool (f 1), .bool (f 2), .bool (f 3), .bool (f 4), .bool (f 5), .bool (f 6), .bool (f 7), .bool t]
theorem place_K (bs : List Bool) (t : Bool) : placeCells bs t = placeK (fun i => bs.getD i false) t := rfl
/-- What IsSafe and DangersNow tell. -/
noncomputable def safeB (k s : Int) (ls : List (List Int)) (bs : List Bool) (t : Bool) : Bool := asked k s ls bs && !ls.any (leftBy bs t)
noncomputable def dangersLs (k s : Int) (ls : List (List Int)) (bs : List Bool) (t : Bool) : List (List Int) := if asked k s ls bs then nowOf bs t ls else []
theorem asked_dg {k s : Int} {ls : List (List Int)} {bs : List Bool} (h : asked k s ls bs = true) : ∀ d ∈ ls, IsDg (bs.length : Int) d := by
  obtain ⟨h1, h2⟩ := asked_parts h
  intro d hd
  obtain ⟨j, hj, rfl⟩ := List.getElem_of_mem hd
  rw [h2]
  exact dg_at h1 hj

set_option maxHeartbeats 1600000 in
theorem specIsSafe_any (k s : Int) (A B : Option Addr) (m c q z : Nat) (rs : List RowV) (bs : List Bool) (t : Bool) (w : World) (hA : Grid w A rs) (hB : Holds w B (bits bs)) (hx : rs.length = m) (hm : m ≤ 1048576) (hy : bs.length = q) (hq : q ≤ 1048576) :
    Calls Try.prog 40 #[.agg #[.int .i64 k, .slice A m c, .int .i64 s], .agg #[.slice B q z, .bool t]] w fun e w' => e = .returned (.tuple #[.bool (safeB k s (rowNums rs) bs t), .bool (asked k s (rowNums rs) bs)]) ∧ Below w.heap.size w w' := by
  have HX := Lib.hid hx
  have HY := Lib.hid hy
  have h0 := (Whole.fresh w 54 #[.int .i64 k, .slice A m c, .int .i64 s]).alloc (.cells #[.slice B q z, .bool t] 63)
  have h1 := Whole.fresh (w.alloc (.cells #[.int .i64 k, .slice A m c, .int .i64 s] 54)) 63 #[.slice B q z, .bool t]
  rw [World.size_alloc] at h1
  have hbw := below2 w (.cells #[.int .i64 k, .slice A m c, .int .i64 s] 54) (.cells #[.slice B q z, .bool t] 63)
  have hA2 := hA.below hbw
  have hB2 := hB.below hbw
  clear hx hy
  cases hk : asked k s (rowNums rs) bs
  · have HK := Lib.hid hk
    have HS : Hid (safeB k s (rowNums rs) bs t = false) := by show _ = _; rw [safeB, hk]; rfl
    rw [HS.out]
    clear hk
    go_enter Try.func40, Try.ntmps40
    go_wp2_with fail
    refine (keAsked_any k s A B m c q z rs bs t _ hA2 hB2 HX.out hm HY.out hq).mono ?_
    rintro e w1 ⟨rfl, hb⟩
    rw [HK.out]
    have ht := below_then hbw hb (by simp; omega)
    clear hb
    go_wp2
    go_ret2
    exact ⟨rfl, ht⟩
  · have HK := Lib.hid hk
    have HDG : Hid (∀ d ∈ rowNums rs, IsDg (q : Int) d) := fun d hd => by have h := asked_dg hk d hd; rw [HY.out] at h; exact h
    have HS : Hid (safeB k s (rowNums rs) bs t = !(rowNums rs).any (leftBy bs t)) := by show _ = _; rw [safeB, hk]; rfl
    rw [HS.out]
    clear hk
    go_enter Try.func40, Try.ntmps40
    go_wp2_with fail
    refine (keAsked_any k s A B m c q z rs bs t _ hA2 hB2 HX.out hm HY.out hq).mono ?_
    rintro e w1 ⟨rfl, hb⟩
    rw [HK.out]
    have ht := below_then hbw hb (by simp; omega)
    have hA3 := hA2.below hb
    have hB3 := hB2.below hb
    obtain ⟨f0, f1, f2⟩ := (h0.below hb).cells3
    obtain ⟨g0, g1, -, -⟩ := (h1.below hb).two
    clear hb
    go_wp2_with fail
    refine (keNow_any k s A B m c q z rs bs t _ hA3 hB3 HX.out hm HY.out hq HDG.out).mono ?_
    rintro e w2 ⟨E, d, acc, rfl, hra, hh, hb⟩
    have hw1 : w.heap.size ≤ w1.heap.size := ht.size
    replace ht := below_then ht hb ht.size
    have HRA := Lib.hid hra
    clear hra hb f0 f1 f2 g0 g1
    have HV : Hid (((acc.length : Int) == 0) = !(rowNums rs).any (leftBy bs t)) := by
      show _ = _
      rw [now_some, ← HRA.out, rowNums_len]
      cases acc <;> simp <;> omega
    clear hh
    go_wp2
    go_ret2
    exact ⟨ret_of (by rw [← HV.out]; rfl), ht⟩

set_option maxHeartbeats 1600000 in
theorem specDangersNow_any (k s : Int) (A B : Option Addr) (m c q z : Nat) (rs : List RowV) (bs : List Bool) (t : Bool) (w : World) (hA : Grid w A rs) (hB : Holds w B (bits bs)) (hx : rs.length = m) (hm : m ≤ 1048576) (hy : bs.length = q) (hq : q ≤ 1048576) :
    Calls Try.prog 44 #[.agg #[.int .i64 k, .slice A m c, .int .i64 s], .agg #[.slice B q z, .bool t]] w (BackPost (dangersLs k s (rowNums rs) bs t) (asked k s (rowNums rs) bs) w) := by
  have HX := Lib.hid hx
  have HY := Lib.hid hy
  have h0 := (Whole.fresh w 54 #[.int .i64 k, .slice A m c, .int .i64 s]).alloc (.cells #[.slice B q z, .bool t] 63)
  have h1 := Whole.fresh (w.alloc (.cells #[.int .i64 k, .slice A m c, .int .i64 s] 54)) 63 #[.slice B q z, .bool t]
  rw [World.size_alloc] at h1
  have hbw := below2 w (.cells #[.int .i64 k, .slice A m c, .int .i64 s] 54) (.cells #[.slice B q z, .bool t] 63)
  have hA2 := hA.below hbw
  have hB2 := hB.below hbw
  clear hx hy
  cases hk : asked k s (rowNums rs) bs
  · have HK := Lib.hid hk
    have HS : Hid (dangersLs k s (rowNums rs) bs t = []) := by show _ = _; rw [dangersLs, hk]; rfl
    rw [HS.out]
    clear hk
    go_enter Try.func44, Try.ntmps44
    go_wp2_with fail
    refine (keAsked_any k s A B m c q z rs bs t _ hA2 hB2 HX.out hm HY.out hq).mono ?_
    rintro e w1 ⟨rfl, hb⟩
    rw [HK.out]
    have ht := below_then hbw hb (by simp; omega)
    clear hb
    go_wp2
    go_ret2
    exact BackPost.no ht
  · have HK := Lib.hid hk
    have HDG : Hid (∀ d ∈ rowNums rs, IsDg (q : Int) d) := fun d hd => by have h := asked_dg hk d hd; rw [HY.out] at h; exact h
    have HS : Hid (dangersLs k s (rowNums rs) bs t = nowOf bs t (rowNums rs)) := by show _ = _; rw [dangersLs, hk]; rfl
    rw [HS.out]
    clear hk
    go_enter Try.func44, Try.ntmps44
    go_wp2_with fail
    refine (keAsked_any k s A B m c q z rs bs t _ hA2 hB2 HX.out hm HY.out hq).mono ?_
    rintro e w1 ⟨rfl, hb⟩
    rw [HK.out]
    have ht := below_then hbw hb (by simp; omega)
    have hA3 := hA2.below hb
    have hB3 := hB2.below hb
    obtain ⟨f0, f1, f2⟩ := (h0.below hb).cells3
    obtain ⟨g0, g1, -, -⟩ := (h1.below hb).two
    clear hb
    go_wp2_with fail
    refine (keNow_any k s A B m c q z rs bs t _ hA3 hB3 HX.out hm HY.out hq HDG.out).mono ?_
    rintro e w2 ⟨E, d, acc, rfl, hra, hh, hb⟩
    have hw1 : w.heap.size ≤ w1.heap.size := ht.size
    replace ht := below_then ht hb ht.size
    have HRA := Lib.hid hra
    clear hra hb f0 f1 f2 g0 g1
    have HFR := Lib.hid (hh.free.more (lo' := w.heap.size) (hi' := w2.heap.size) (by omega) (Nat.le_refl _))
    clear hh
    go_wp2
    go_ret2
    exact ⟨E, acc.length, d, acc, rfl, HRA.out, rfl, HFR.out, ht⟩

def BankPlacePost (k s : Int) (ls : List (List Int)) (bs : List Bool) (t : Bool) (w : World) (e : Ending) (w' : World) : Prop :=
  ((asked k s ls bs = true ∧ e = .returned (.tuple #[.agg (placeCells bs t), .bool true])) ∨ (asked k s ls bs = false ∧ e = .returned (.tuple #[.agg (placeCells [] false), .bool false]))) ∧ Below w.heap.size w w'

set_option maxHeartbeats 3200000 in
theorem bankPlace_any (k s : Int) (A B : Option Addr) (m c q z : Nat) (rs : List RowV) (bs : List Bool) (t : Bool) (w : World) (hA : Grid w A rs) (hB : Holds w B (bits bs)) (hx : rs.length = m) (hm : m ≤ 1048576) (hy : bs.length = q) (hq : q ≤ 1048576) :
    Calls Try.prog 89 #[.agg #[.int .i64 k, .slice A m c, .int .i64 s], .agg #[.slice B q z, .bool t]] w (BankPlacePost k s (rowNums rs) bs t w) := by
  have HX := Lib.hid hx
  have HY := Lib.hid hy
  have h0 := (Whole.fresh w 54 #[.int .i64 k, .slice A m c, .int .i64 s]).alloc (.cells #[.slice B q z, .bool t] 63)
  have h1 := Whole.fresh (w.alloc (.cells #[.int .i64 k, .slice A m c, .int .i64 s] 54)) 63 #[.slice B q z, .bool t]
  rw [World.size_alloc] at h1
  have hbw := below2 w (.cells #[.int .i64 k, .slice A m c, .int .i64 s] 54) (.cells #[.slice B q z, .bool t] 63)
  have hA2 := hA.below hbw
  have hB2 := hB.below hbw
  clear hx
  have hbw3 := below3 w (.cells #[.int .i64 k, .slice A m c, .int .i64 s] 54) (.cells #[.slice B q z, .bool t] 63) (.cells (placeCells [] false) 90)
  have h0' := h0.alloc (.cells (placeCells [] false) 90)
  have h1' := h1.alloc (.cells (placeCells [] false) 90)
  have hres := Whole.fresh ((w.alloc (.cells #[.int .i64 k, .slice A m c, .int .i64 s] 54)).alloc (.cells #[.slice B q z, .bool t] 63)) 90 (placeCells [] false)
  rw [World.size_alloc, World.size_alloc] at hres
  have hA3 := hA2.alloc (.cells (placeCells [] false) 90)
  have hB3 := hB2.alloc (.cells (placeCells [] false) 90)
  clear h0 h1 hA2 hB2 hbw
  cases hk : keepOk k s (rowNums rs)
  · have HQ : Hid (asked k s (rowNums rs) bs = false) := by show _ = _; simp [asked, hk]
    have HK := Lib.hid hk
    clear hk hy
    go_enter Try.func89, Try.ntmps89
    go_wp2_with fail
    refine (isKeep_any k s A m c rs _ hA3 HX.out hm).mono ?_
    rintro e w1 ⟨rfl, hb⟩
    rw [HK.out]
    have ht := below_then hbw3 hb (by simp; omega)
    have hres' := hres.below hb
    have hlr := hres'.lt
    obtain ⟨r0, r1, r2, r3, r4, r5, r6, r7, r8⟩ := place_cells hres'
    obtain ⟨f0, f1, f2, f3, f4, f5, f6, f7, f8⟩ := place_open hres'
    clear hb
    go_wp2
    refine bodyPost_ret (v := .tuple #[.agg (placeCells [] false), .bool false]) (by simp [results, Try.results89, go_sem, r0, r1, r2, r3, r4, r5, r6, r7, r8, placeCells]) rfl ⟨.inr ⟨HQ.out, rfl⟩, ?_⟩
    exact set_place ht (by omega)
  · have h8 := (keepOk_iff.1 hk).1
    have HK := Lib.hid hk
    by_cases hl : (q : Int) = k
    · have HQ : Hid (asked k s (rowNums rs) bs = true) := by show _ = _; simp [asked, hk, hy, hl]
      subst hl
      have hl' : ((q : Int) != (q : Int)) = false := by simp
      have hq8 : q ≤ 8 := by omega
      have hn : bs.length ≤ 8 := by rw [hy]; exact hq8
      clear hk h8 hy
      go_enter Try.func89, Try.ntmps89
      go_wp2_with fail
      refine (isKeep_any (q : Int) s A m c rs _ hA3 HX.out hm).mono ?_
      rintro e w1 ⟨rfl, hb⟩
      rw [HK.out]
      have ht := below_then hbw3 hb (by simp; omega)
      have hres' := hres.below hb
      obtain ⟨x0, x1, x2⟩ := (h0'.below hb).cells3
      obtain ⟨y0, y1, -, -⟩ := (h1'.below hb).two
      have v0 : World.cell? (w1.alloc (.cells #[.bool false, .bool false, .bool false, .bool false, .bool false, .bool false, .bool false, .bool false, .bool t] 90)) ⟨w.heap.size + 1, 0, none⟩ = some (.slice B q z) := ((h1'.below hb).alloc (.cells (placeCells [] t) 90)).two.1
      have hlr := hres'.lt
      have hlw : w.heap.size + 3 ≤ w1.heap.size := by omega
      go_wp2
      have hfar := (hB3.below hb).alloc (.cells (placeCells [] t) 90)
      have hblk := Whole.fresh w1 90 (placeCells [] t)
      have hb3 := below1 w1 (.cells (placeCells [] t) 90)
      have hsrc : 0 < (bits bs).length → (some ⟨w1.heap.size, 0, none⟩ : Option Addr) = some ⟨w1.heap.size, 0, none⟩ ∧ ∃ ad : Addr, B = some ad ∧ ∀ j v, (bits bs)[j]? = some v → (w1.alloc (.cells (placeCells [] t) 90)).cell? (ad.add j) = some v := by
        intro h0
        refine ⟨rfl, ?_⟩
        rcases hfar with h | ⟨b, o, hA, hb, hc⟩
        · rw [h] at h0; simp at h0
        · exact ⟨_, hA, fun j v hv => by rw [show (⟨b, o, none⟩ : Addr).add j = ⟨b, o + j, none⟩ from by unfold Addr.add; split <;> simp_all]; exact hc j v hv⟩
      have HSRC := Lib.hid hsrc
      have HBL : Hid ((bits bs).length = Nat.min q 8) := by show _ = _; rw [bits_len, HY.out]; exact (Nat.min_eq_left hq8).symm
      have HONE : Hid (∀ v ∈ bits bs, v.oneCell' = true) := by
        intro v hv
        simp only [bits, List.mem_map] at hv
        obtain ⟨x, -, rfl⟩ := hv
        rfl
      have HFIT : Hid (0 + (bits bs).length ≤ (placeCells [] t).toList.length) := by show _ ≤ _; rw [bits_len]; show 0 + bs.length ≤ 9; omega
      clear hsrc hfar hb
      go_region_law (refine step_copy_splice rfl (.tmp 24) (.tmp 26) 24 24 rfl 4 Try.underlying24 size_bool (some ⟨w1.heap.size, 0, none⟩) B 8 8 q z (by simp [Act.eval]) (by simp [Act.eval]) w1.heap.size 0 (placeCells [] t).toList 90 (by exact hblk.drew) (bits bs) HBL.out (by exact HSRC.out) HFIT.out HONE.out w1.heap.size _ (by exact hb3.drew) (Nat.le_refl _) ?_; intro w' hw' hb')
      have hq' : Whole w' w1.heap.size 90 (placeCells bs t) := by
        have h := hw'.out
        rw [splice_place bs t hn] at h
        exact h
      have hr := hres'.below' hb' (by omega)
      obtain ⟨a0, a1, a2, a3, a4, a5, a6, a7, a8⟩ := place_cells hq'
      obtain ⟨r0, r1, r2, r3, r4, r5, r6, r7, r8⟩ := place_cells hr
      obtain ⟨f0, f1, f2, f3, f4, f5, f6, f7, f8⟩ := place_open hr
      have hlt1 := hr.lt
      clear hw' hblk hres hb3 HSRC HBL HONE HFIT hq' x0 x1 x2 y0 y1 v0
      go_wp2
      have hbw : Below w.heap.size w w' := below_then ht (by simpa using hb') (by omega)
      refine bodyPost_ret (v := .tuple #[.agg (placeCells bs t), .bool true]) (by simp [results, Try.results89, go_sem, r0, r1, r2, r3, r4, r5, r6, r7, r8, placeCells]) rfl ⟨.inl ⟨HQ.out, rfl⟩, ?_⟩
      exact set_place hbw (by omega)
    · have HQ : Hid (asked k s (rowNums rs) bs = false) := by show _ = _; simp [asked, hy, hl]
      have hl' : ((q : Int) != k) = true := by simp; exact hl
      clear hk h8 hy hl
      go_enter Try.func89, Try.ntmps89
      go_wp2_with fail
      refine (isKeep_any k s A m c rs _ hA3 HX.out hm).mono ?_
      rintro e w1 ⟨rfl, hb⟩
      rw [HK.out]
      have ht := below_then hbw3 hb (by simp; omega)
      have hres' := hres.below hb
      have hlr := hres'.lt
      obtain ⟨x0, x1, x2⟩ := (h0'.below hb).cells3
      obtain ⟨y0, y1, -, -⟩ := (h1'.below hb).two
      obtain ⟨r0, r1, r2, r3, r4, r5, r6, r7, r8⟩ := place_cells hres'
      obtain ⟨f0, f1, f2, f3, f4, f5, f6, f7, f8⟩ := place_open hres'
      clear hb
      go_wp2
      refine bodyPost_ret (v := .tuple #[.agg (placeCells [] false), .bool false]) (by simp [results, Try.results89, go_sem, r0, r1, r2, r3, r4, r5, r6, r7, r8, placeCells]) rfl ⟨.inr ⟨HQ.out, rfl⟩, ?_⟩
      exact set_place ht (by omega)

set_option maxHeartbeats 3200000 in
theorem implIsSafe_any (k s : Int) (A B : Option Addr) (m c q z : Nat) (rs : List RowV) (bs : List Bool) (t : Bool) (w : World) (hA : Grid w A rs) (hB : Holds w B (bits bs)) (hx : rs.length = m) (hm : m ≤ 1048576) (hy : bs.length = q) (hq : q ≤ 1048576) :
    Calls Try.prog 42 #[.agg #[.int .i64 k, .slice A m c, .int .i64 s], .agg #[.slice B q z, .bool t]] w fun e w' => e = .returned (.tuple #[.bool (safeB k s (rowNums rs) bs t), .bool (asked k s (rowNums rs) bs)]) ∧ Below w.heap.size w w' := by
  have HX := Lib.hid hx
  have HY := Lib.hid hy
  have h0 := (Whole.fresh w 54 #[.int .i64 k, .slice A m c, .int .i64 s]).alloc (.cells #[.slice B q z, .bool t] 63)
  have h1 := Whole.fresh (w.alloc (.cells #[.int .i64 k, .slice A m c, .int .i64 s] 54)) 63 #[.slice B q z, .bool t]
  rw [World.size_alloc] at h1
  have hbw := below2 w (.cells #[.int .i64 k, .slice A m c, .int .i64 s] 54) (.cells #[.slice B q z, .bool t] 63)
  have hA2 := hA.below hbw
  have hB2 := hB.below hbw
  clear hx hy
  go_enter Try.func42, Try.ntmps42
  go_wp2_with fail
  refine (bankPlace_any k s A B m c q z rs bs t _ hA2 hB2 HX.out hm HY.out hq).mono ?_
  rintro e w1 ⟨⟨hk, rfl⟩ | ⟨hk, rfl⟩, hb⟩
  · have HK := Lib.hid hk
    have HDG : Hid (DgAll (rowNums rs)) := keep_all (asked_parts hk).1
    have HS : Hid (safeB k s (rowNums rs) bs t = !(rowNums rs).any (leftBy bs t)) := by show _ = _; rw [safeB, hk]; rfl
    have ht := below_then hbw hb (by simp; omega)
    obtain ⟨f, hf⟩ : ∃ f : Nat → Bool, f = fun i => bs.getD i false := ⟨_, rfl⟩
    have HPL : Hid (placeCells bs t = placeK f t) := by show _ = _; rw [place_K, hf]
    have hA3 := (hA2.below hb).alloc (.cells (placeK f t) 90)
    have h0' := (h0.below hb).alloc (.cells (placeK f t) 90)
    have hp := Whole.fresh w1 90 (placeK f t)
    have ht2 := ht.alloc ht.size (.cells (placeK f t) 90)
    obtain ⟨f0, f1, f2⟩ := h0'.cells3
    have p0 := hp.cell 0
    have p1 := hp.cell 1
    have p2 := hp.cell 2
    have p3 := hp.cell 3
    have p4 := hp.cell 4
    have p5 := hp.cell 5
    have p6 := hp.cell 6
    have p7 := hp.cell 7
    have p8 := hp.cell 8
    rw [HPL.out]
    have hcall := fun W hG => isSafePlace_any k s A m c rs bs t W hG HX.out hm HDG.out
    rw [HPL.out] at hcall
    clear hb hk hf h0 h1 h0' hp
    unfold placeK at p0 p1 p2 p3 p4 p5 p6 p7 p8 f0 f1 f2 hA3 ht2 hcall
    unfold placeK
    replace p0 : World.cell? _ _ = some (Value.bool (f 0)) := p0
    replace p1 : World.cell? _ _ = some (Value.bool (f 1)) := p1
    replace p2 : World.cell? _ _ = some (Value.bool (f 2)) := p2
    replace p3 : World.cell? _ _ = some (Value.bool (f 3)) := p3
    replace p4 : World.cell? _ _ = some (Value.bool (f 4)) := p4
    replace p5 : World.cell? _ _ = some (Value.bool (f 5)) := p5
    replace p6 : World.cell? _ _ = some (Value.bool (f 6)) := p6
    replace p7 : World.cell? _ _ = some (Value.bool (f 7)) := p7
    replace p8 : World.cell? _ _ = some (Value.bool t) := p8
    go_wp2_with fail
    refine (hcall _ hA3).mono ?_
    rintro e w2 ⟨rfl, hb⟩
    replace ht2 := below_then ht2 hb ht2.size
    clear hb hcall p0 p1 p2 p3 p4 p5 p6 p7 p8 f0 f1 f2
    go_wp2
    go_ret2
    exact ⟨by rw [HS.out, HK.out]; rfl, ht2⟩
  · have HK := Lib.hid hk
    have HS : Hid (safeB k s (rowNums rs) bs t = false) := by show _ = _; rw [safeB, hk]; rfl
    have ht := below_then hbw hb (by simp; omega)
    have ht2 := ht.alloc ht.size (.cells (placeCells [] false) 90)
    clear hb hk h0 h1
    rw [show placeCells [] false = #[.bool false, .bool false, .bool false, .bool false, .bool false, .bool false, .bool false, .bool false, .bool false] from rfl] at ht2 ⊢
    go_wp2
    go_ret2
    exact ⟨by rw [HS.out, HK.out]; rfl, ht2⟩

end Go.Proofs.Ytkdjdnknhbmliaa
