/-
  What is proved: the contract of PlayTrips of the program. Conditions: the arguments are read as they lie.
-/
import Derived.Test.YtionmcgaicijkaaPlays
namespace Go.Proofs.Ytionmcgaicijkaa
open Go.RowKit

set_option maxHeartbeats 1600000 in
set_option maxRecDepth 100000 in
theorem implPlayTrips_any (A B D : Option Addr) (n c m d q z : Nat) (xs : List Int) (bs : List Bool) (rs : List RowV) (s : Int) (t : Bool) (w : World) (hA : Holds w A (nums xs)) (hB : Holds w B (bits bs)) (hD : Grid w D rs) (hx : xs.length = n) (hy : bs.length = m) (hz : rs.length = q) (hn : n ≤ 9223372036854775807) (hm : m ≤ 9223372036854775807) (hq : q ≤ 9223372036854775807) :
    Calls Try.prog 32 #[.agg #[.slice A n c, .int .i64 s], .agg #[.slice B m d, .bool t], .slice D q z] w (StatePost (playBits xs n s bs t (rowNums rs)) (playTorch xs n s bs t (rowNums rs)) (playOk xs n s bs t (rowNums rs)) w) := by
  have HX := Lib.hid hx
  have HY := Lib.hid hy
  have HZ := Lib.hid hz
  have HLS := Lib.hid (rowNums_len rs)
  have hA2 := hA.below (below3 w (.cells #[.slice A n c, .int .i64 s] 33) (.cells #[.slice B m d, .bool t] 30) (.cells #[.slice none 0 0, .bool false] 30))
  have hB2 := hB.below (below3 w (.cells #[.slice A n c, .int .i64 s] 33) (.cells #[.slice B m d, .bool t] 30) (.cells #[.slice none 0 0, .bool false] 30))
  have hD2 := hD.below (below3 w (.cells #[.slice A n c, .int .i64 s] 33) (.cells #[.slice B m d, .bool t] 30) (.cells #[.slice none 0 0, .bool false] 30))
  have h0 := ((Whole.fresh w 33 #[.slice A n c, .int .i64 s]).alloc (.cells #[.slice B m d, .bool t] 30)).alloc (.cells #[.slice none 0 0, .bool false] 30)
  have h2 := Whole.fresh ((w.alloc (.cells #[.slice A n c, .int .i64 s] 33)).alloc (.cells #[.slice B m d, .bool t] 30)) 30 #[.slice none 0 0, .bool false]
  rw [World.size_alloc, World.size_alloc] at h2
  generalize hR : StatePost (playBits xs n s bs t (rowNums rs)) (playTorch xs n s bs t (rowNums rs)) (playOk xs n s bs t (rowNums rs)) w = R
  have HR := Lib.hid hR
  clear hR
  go_enter Try.func32, Try.ntmps32
  go_wp2_with fail
  refine (partyPlace_any A B n c m d xs bs s t _ hA2 hB2 hx hy hn hm).mono ?_
  rintro e w1 ⟨⟨hp, rfl⟩ | ⟨hp, rfl⟩, hb⟩
  · have HP := Lib.hid hp
    obtain ⟨h8, hpos, hbl⟩ := asked_len (show asked xs n s bs t = true from hp) hx
    have HBL := Lib.hid hbl
    have ht := below_then (below3 w _ _ _) hb (by simp; omega)
    have h0' := h0.below hb
    have h2' := h2.below hb
    have hl := h0'.lt
    have hl2 := h2'.lt
    obtain ⟨c0, c1, -, -⟩ := h0'.two
    obtain ⟨r0, r1, g0, g1⟩ := h2'.two
    have hD3 := (hD2.below hb).alloc (.cells (placeCells bs t) 82)
    clear hp hb h0 h2 hA2 hB2 hD2 hx hy hz hbl
    by_cases h40 : 40 < q
    · obtain ⟨f1, f2, f3⟩ := play_no (xs := xs) (n := n) (s := s) (bs := bs) (t := t) (ls := rowNums rs) (.inr (.inl (by have := HLS.out; have := HZ.out; omega)))
      have HF := Lib.hid (And.intro f1 (And.intro f2 f3))
      clear f1 f2 f3 h0' h2' c0 c1
      unfold placeCells at *
      go_wp2
      refine bodyPost_ret (v := .tuple #[.agg #[.slice none 0 0, .bool false], .bool false]) (by simp [results, Try.results32, go_sem, r0, r1, hl2]) rfl ?_
      rw [← HR.out, HF.out.1, HF.out.2.1, HF.out.2.2]
      exact ⟨none, 0, rfl, .inl rfl, (below_set (below_set ht (by omega)) (by omega)).alloc (by simp [World.setCell]; exact ht.size) _⟩
    · have hmle : made n s bs t (rowNums rs) ≤ q := by have := made_le n s (rowNums rs) bs t; have := HLS.out; have := HZ.out; omega
      have HT := Lib.hid (ht.alloc ht.size (.cells (placeCells bs t) 82))
      have H0 := Lib.hid (h0'.alloc (.cells (placeCells bs t) 82))
      have H2 := Lib.hid (h2'.alloc (.cells (placeCells bs t) 82))
      clear ht h0' h2' r0 r1 g0 g1
      unfold placeCells
      go_wp2_with fail
      refine (walk_any A D n c q z bs rs s t _ hD3 HBL.out HZ.out h8 (by omega)).mono ?_
      rintro e w2 ⟨T, c2, rfl, -, hb⟩
      have ht := below_then HT.out hb HT.out.size
      have h0' := H0.out.below hb
      have h2' := H2.out.below hb
      have hl3 := h2'.lt
      have hl4 := h0'.lt
      obtain ⟨k0, k1, -, -⟩ := h0'.two
      obtain ⟨r0, r1, g0, g1⟩ := h2'.two
      clear c0 c1 hl hl2 HT H0 H2
      by_cases hmd : made n s bs t (rowNums rs) < q
      · obtain ⟨f1, f2, f3⟩ := play_no (xs := xs) (n := n) (s := s) (bs := bs) (t := t) (ls := rowNums rs) (.inr (.inr (by have := HLS.out; have := HZ.out; omega)))
        have HF := Lib.hid (And.intro f1 (And.intro f2 f3))
        clear f1 f2 f3 h0' h2' k0 k1 hb
        unfold placeCells
        go_wp2
        refine bodyPost_ret (v := .tuple #[.agg #[.slice none 0 0, .bool false], .bool false]) (by simp [results, Try.results32, go_sem, r0, r1, hl3]) rfl ?_
        rw [← HR.out, HF.out.1, HF.out.2.1, HF.out.2.2]
        exact ⟨none, 0, rfl, .inl rfl, (below_set (below_set ht (by omega)) (by omega)).alloc (by simp [World.setCell]; exact ht.size) _⟩
      · obtain ⟨f1, f2, f3⟩ := play_yes (show asked xs n s bs t = true from HP.out) (show (rowNums rs).length ≤ 40 by have := HLS.out; have := HZ.out; omega) (show made n s bs t (rowNums rs) = (rowNums rs).length by have := HLS.out; have := HZ.out; omega)
        have HF := Lib.hid (And.intro f1 (And.intro f2 f3))
        have H0 := Lib.hid (h0'.alloc (.cells (placeCells (ended n s bs t (rowNums rs)).1 (ended n s bs t (rowNums rs)).2) 82))
        have H2 := Lib.hid (h2'.alloc (.cells (placeCells (ended n s bs t (rowNums rs)).1 (ended n s bs t (rowNums rs)).2) 82))
        have HE := Lib.hid (Whole.fresh w2 82 (placeCells (ended n s bs t (rowNums rs)).1 (ended n s bs t (rowNums rs)).2))
        have HT := Lib.hid (ht.alloc ht.size (.cells (placeCells (ended n s bs t (rowNums rs)).1 (ended n s bs t (rowNums rs)).2) 82))
        have HEL := Lib.hid ((ended_len n s bs t (rowNums rs)).trans HBL.out)
        clear f1 f2 f3 h0' h2' hb r0 r1 g0 g1 ht
        unfold placeCells
        go_wp2_with (refine wpList_load_row rfl 82 (.tmp 11) rfl w2.heap.size rfl 82 (placeCells (ended n s bs t (rowNums rs)).1 (ended n s bs t (rowNums rs)).2) (0, 0) _ HE.out Try.underlying82 rfl size_place ?_)
        refine (placeState_any _ _ n _ HEL.out h8).mono ?_
        rintro e w3 ⟨A2, q2, rfl, hf, hb⟩
        have ht := below_then HT.out hb HT.out.size
        have h2' := H2.out.below hb
        obtain ⟨r0, r1, g0, g1⟩ := h2'.two
        have hl5 := h2'.lt
        have hF := hf
        rw [World.size_alloc] at hF
        have hFF := ((hF.set_out (b := w.heap.size + 1 + 1) (o := 0) (u := .slice A2 (ended n s bs t (rowNums rs)).1.length q2) (.inl (by omega))).set_out (b := w.heap.size + 1 + 1) (o := 1) (u := .bool (ended n s bs t (rowNums rs)).2) (.inl (by omega))).more (lo' := w.heap.size) (hi' := w3.heap.size) (by omega) (Nat.le_refl _)
        have HFF := Lib.hid hFF
        clear hb h2' hf hF hFF k0 k1
        go_wp2
        refine bodyPost_ret (v := .tuple #[.agg #[.slice A2 (ended n s bs t (rowNums rs)).1.length q2, .bool (ended n s bs t (rowNums rs)).2], .bool true]) (by simp [results, Try.results32, go_sem, r0, r1]) rfl ?_
        rw [← HR.out, HF.out.1, HF.out.2.1, HF.out.2.2]
        refine ⟨A2, q2, rfl, ?_, below_set (below_set ht (by omega)) (by omega)⟩
        have h := HFF.out
        simpa [World.setCell] using h
  · obtain ⟨f1, f2, f3⟩ := play_no (ls := rowNums rs) (.inl (show asked xs n s bs t = false from hp))
    have HF := Lib.hid (And.intro f1 (And.intro f2 f3))
    have ht := below_then (below3 w _ _ _) hb (by simp; omega)
    have h2' := h2.below hb
    have hl2 := h2'.lt
    obtain ⟨r0, r1, g0, g1⟩ := h2'.two
    clear hp hb h0 h2 hA2 hB2 hD2 hx hy hz f1 f2 f3 h2'
    unfold placeCells at *
    go_wp2
    refine bodyPost_ret (v := .tuple #[.agg #[.slice none 0 0, .bool false], .bool false]) (by simp [results, Try.results32, go_sem, r0, r1, hl2]) rfl ?_
    rw [← HR.out, HF.out.1, HF.out.2.1, HF.out.2.2]
    exact ⟨none, 0, rfl, .inl rfl, (below_set (below_set ht (by omega)) (by omega)).alloc (by simp [World.setCell]; exact ht.size) _⟩

theorem specPlayTrips_on (A B D : Option Addr) (n c m d q z : Nat) (xs : List Int) (bs : List Bool) (rs : List RowV) (ls : List (List Int)) (s : Int) (t : Bool) (w : World) (hA : Holds w A (nums xs)) (hB : Holds w B (bits bs)) (hD : Grid w D rs) (he : rowNums rs = ls) (hx : xs.length = n) (hy : bs.length = m) (hz : rs.length = q) (hn : n ≤ 9223372036854775807) (hm : m ≤ 9223372036854775807) (hq : q ≤ 9223372036854775807) :
    Calls Try.prog 30 #[.agg #[.slice A n c, .int .i64 s], .agg #[.slice B m d, .bool t], .slice D q z] w (StatePost (playBits xs n s bs t ls) (playTorch xs n s bs t ls) (playOk xs n s bs t ls) w) := by
  subst he
  exact specPlayTrips_any A B D n c m d q z xs bs rs s t w hA hB hD hx hy hz hn hm hq
theorem implPlayTrips_on (A B D : Option Addr) (n c m d q z : Nat) (xs : List Int) (bs : List Bool) (rs : List RowV) (ls : List (List Int)) (s : Int) (t : Bool) (w : World) (hA : Holds w A (nums xs)) (hB : Holds w B (bits bs)) (hD : Grid w D rs) (he : rowNums rs = ls) (hx : xs.length = n) (hy : bs.length = m) (hz : rs.length = q) (hn : n ≤ 9223372036854775807) (hm : m ≤ 9223372036854775807) (hq : q ≤ 9223372036854775807) :
    Calls Try.prog 32 #[.agg #[.slice A n c, .int .i64 s], .agg #[.slice B m d, .bool t], .slice D q z] w (StatePost (playBits xs n s bs t ls) (playTorch xs n s bs t ls) (playOk xs n s bs t ls) w) := by
  subst he
  exact implPlayTrips_any A B D n c m d q z xs bs rs s t w hA hB hD hx hy hz hn hm hq
end Go.Proofs.Ytionmcgaicijkaa
