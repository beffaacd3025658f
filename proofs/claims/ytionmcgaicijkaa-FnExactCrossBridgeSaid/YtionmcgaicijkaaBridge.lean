/-
  What is proved: contracts of CrossBridge, of the model and of the program. Conditions: the arguments are read as they lie.
-/
import Derived.Test.YtionmcgaicijkaaPlaysI
namespace Go.Proofs.Ytionmcgaicijkaa
open Go.RowKit

theorem bridge_no {xs : List Int} {n : Nat} {s : Int} {bs : List Bool} {t : Bool} {l : List Int} (h : asked xs n s bs t = false ∨ canGo n s bs t l = false) : playOk xs n s bs t [l] = false ∧ playBits xs n s bs t [l] = [] ∧ playTorch xs n s bs t [l] = false := by
  rcases h with h | h
  · exact play_no (.inl h)
  · exact play_no (.inr (.inr (by simp [made, h])))
theorem bridge_yes {xs : List Int} {n : Nat} {s : Int} {bs : List Bool} {t : Bool} {l : List Int} (h : asked xs n s bs t = true) (hc : canGo n s bs t l = true) : playOk xs n s bs t [l] = true ∧ playBits xs n s bs t [l] = flipped bs l ∧ playTorch xs n s bs t [l] = !t := by
  have hm : made n s bs t [l] = [l].length := by simp [made, hc]
  obtain ⟨h1, h2, h3⟩ := play_yes h (show [l].length ≤ 40 by simp) hm
  have he : ended n s bs t [l] = (flipped bs l, !t) := by rw [ended, hm]; rfl
  exact ⟨h1, by rw [h2, he], by rw [h3, he]⟩

set_option maxHeartbeats 1600000 in
set_option maxRecDepth 100000 in
theorem specCrossBridge_any (A B D : Option Addr) (n c m d q z : Nat) (xs : List Int) (bs : List Bool) (l : List Int) (s : Int) (t : Bool) (w : World) (hA : Holds w A (nums xs)) (hB : Holds w B (bits bs)) (hD : Holds w D (nums l)) (hx : xs.length = n) (hy : bs.length = m) (hz : l.length = q) (hn : n ≤ 9223372036854775807) (hm : m ≤ 9223372036854775807) (hq : q ≤ 9223372036854775807) :
    Calls Try.prog 17 #[.agg #[.slice A n c, .int .i64 s], .agg #[.slice B m d, .bool t], .slice D q z] w (StatePost (playBits xs n s bs t [l]) (playTorch xs n s bs t [l]) (playOk xs n s bs t [l]) w) := by
  have HX := Lib.hid hx
  have HY := Lib.hid hy
  have HZ := Lib.hid hz
  have hA2 := hA.below (below3 w (.cells #[.slice A n c, .int .i64 s] 33) (.cells #[.slice B m d, .bool t] 30) (.cells #[.slice none 0 0, .bool false] 30))
  have hB2 := hB.below (below3 w (.cells #[.slice A n c, .int .i64 s] 33) (.cells #[.slice B m d, .bool t] 30) (.cells #[.slice none 0 0, .bool false] 30))
  have hD2 := hD.below (below3 w (.cells #[.slice A n c, .int .i64 s] 33) (.cells #[.slice B m d, .bool t] 30) (.cells #[.slice none 0 0, .bool false] 30))
  have h0 := ((Whole.fresh w 33 #[.slice A n c, .int .i64 s]).alloc (.cells #[.slice B m d, .bool t] 30)).alloc (.cells #[.slice none 0 0, .bool false] 30)
  have h1 := (Whole.fresh (w.alloc (.cells #[.slice A n c, .int .i64 s] 33)) 30 #[.slice B m d, .bool t]).alloc (.cells #[.slice none 0 0, .bool false] 30)
  have h2 := Whole.fresh ((w.alloc (.cells #[.slice A n c, .int .i64 s] 33)).alloc (.cells #[.slice B m d, .bool t] 30)) 30 #[.slice none 0 0, .bool false]
  rw [World.size_alloc] at h1
  rw [World.size_alloc, World.size_alloc] at h2
  cases hp : asked xs n s bs t
  · have HP := Lib.hid (show (isParty xs s && isState n bs t) = false from hp)
    obtain ⟨f1, f2, f3⟩ := bridge_no (l := l) (.inl hp)
    rw [f1, f2, f3]
    clear hp hx hy hz f1 f2 f3
    go_enter Try.func17, Try.ntmps17
    go_wp2_with fail
    refine (paAsked_any A B n c m d xs bs s t _ hA2 hB2 HX.out HY.out hn hm).mono ?_
    rintro e w1 ⟨rfl, hb1⟩
    rw [HP.out]
    have ht := below_then (below3 w _ _ _) hb1 (by simp; omega)
    have hr := h2.below hb1
    obtain ⟨r0, r1, g0, g1⟩ := hr.two
    have hrl := hr.lt
    clear h0 h1 h2 hb1 hA2 hB2 hD2 hr
    go_wp2
    refine bodyPost_ret (v := .tuple #[.agg #[.slice none 0 0, .bool false], .bool false]) (by simp [results, Try.results17, go_sem, r0, r1]) rfl ⟨none, 0, rfl, .inl rfl, below_set (below_set ht (by omega)) (by omega)⟩
  · have HP := Lib.hid (show (isParty xs s && isState n bs t) = true from hp)
    have HAS := Lib.hid hp
    obtain ⟨h8, hpos, hbl⟩ := asked_len hp hx
    have HBL := Lib.hid hbl
    have hmn : m = n := by omega
    have HMN := Lib.hid hmn
    clear hp hx hy hz hbl hmn
    cases hcan : canGo n s bs t l
    all_goals
      have HC := Lib.hid hcan
      clear hcan
      first
        | (obtain ⟨f1, f2, f3⟩ := bridge_no (xs := xs) (.inr HC.out); have tok := HC)
        | (obtain ⟨f1, f2, f3⟩ := bridge_yes HAS.out HC.out)
      rw [f1, f2, f3]
      clear f1 f2 f3
      go_enter Try.func17, Try.ntmps17
      go_wp2_with fail
      refine (paAsked_any A B n c m d xs bs s t _ hA2 hB2 HX.out HY.out hn hm).mono ?_
      rintro e w1 ⟨rfl, hb1⟩
      rw [HP.out]
      have ht := below_then (below3 w _ _ _) hb1 (by simp; omega)
      have hr := h2.below hb1
      replace h1 := h1.below hb1
      replace hB2 := hB2.below hb1
      replace hD2 := hD2.below hb1
      obtain ⟨c0, c1, -, -⟩ := (h0.below hb1).two
      obtain ⟨d0, d1, -, -⟩ := h1.two
      have hrl := hr.lt
      clear h0 h2 hb1 hA2
      go_wp2_with fail
      refine (paCan_any A B D n c m d q z bs l s t _ hB2 hD2 HY.out HZ.out HMN.out (by have := HMN.out; omega) hq).mono ?_
      rintro e w2 ⟨rfl, hb⟩
      rw [HC.out]
      replace ht := below_then ht hb ht.size
      replace hr := hr.below hb
      replace h1 := h1.below hb
      have hrl2 := hr.lt
      replace hB2 := hB2.below hb
      replace hD2 := hD2.below hb
      clear hb c0 c1 d0 d1
    · obtain ⟨r0, r1, g0, g1⟩ := hr.two
      clear hr
      go_wp2
      refine bodyPost_ret (v := .tuple #[.agg #[.slice none 0 0, .bool false], .bool false]) (by simp [results, Try.results17, go_sem, r0, r1]) rfl ⟨none, 0, rfl, .inl rfl, below_set (below_set ht (by omega)) (by omega)⟩
    · obtain ⟨b, o, rfl, hbl, hcell⟩ := hB2.spot (by rw [bits_len, HBL.out]; exact hpos)
      have hm0 : 0 < m := by have := HMN.out; omega
      have hm8 : m ≤ 1048576 := by have := HMN.out; omega
      have HST : Hid (StepsTo l (m - 1) l.length) := by show StepsTo _ _ _; rw [HMN.out]; exact can_steps HC.out
      obtain ⟨d0, d1, -, -⟩ := h1.two
      clear h1
      go_wp2_with fail
      refine (paCross_any b o m d D q z bs l t _ hcell HY.out hm0 hm8 hD2 HZ.out hq HST.out).mono ?_
      rintro e w3 ⟨A2, q2, rfl, hf, hb⟩
      replace ht := below_then ht hb ht.size
      replace hr := hr.below hb
      obtain ⟨r0, r1, g0, g1⟩ := hr.two
      have hl5 := hr.lt
      have hFF := ((hf.set_out (b := w.heap.size + 1 + 1) (o := 0) (u := .slice A2 (flipped bs l).length q2) (.inl (by omega))).set_out (b := w.heap.size + 1 + 1) (o := 1) (u := .bool (!t)) (.inl (by omega))).more (lo' := w.heap.size) (hi' := w3.heap.size) (by omega) (Nat.le_refl _)
      have HFF := Lib.hid hFF
      clear hb hr hf hFF d0 d1 hcell hD2 hB2
      go_wp2
      refine bodyPost_ret (v := .tuple #[.agg #[.slice A2 (flipped bs l).length q2, .bool (!t)], .bool true]) (by simp [results, Try.results17, go_sem, r0, r1]) rfl ⟨A2, q2, rfl, ?_, below_set (below_set ht (by omega)) (by omega)⟩
      have h := HFF.out
      simpa [World.setCell] using h

set_option maxHeartbeats 1600000 in
set_option maxRecDepth 100000 in
theorem implCrossBridge_any (A B D : Option Addr) (n c m d q z : Nat) (xs : List Int) (bs : List Bool) (l : List Int) (s : Int) (t : Bool) (w : World) (hA : Holds w A (nums xs)) (hB : Holds w B (bits bs)) (hD : Holds w D (nums l)) (hx : xs.length = n) (hy : bs.length = m) (hz : l.length = q) (hn : n ≤ 9223372036854775807) (hm : m ≤ 9223372036854775807) (hq : q ≤ 9223372036854775807) :
    Calls Try.prog 21 #[.agg #[.slice A n c, .int .i64 s], .agg #[.slice B m d, .bool t], .slice D q z] w (StatePost (playBits xs n s bs t [l]) (playTorch xs n s bs t [l]) (playOk xs n s bs t [l]) w) := by
  have HX := Lib.hid hx
  have HY := Lib.hid hy
  have HZ := Lib.hid hz
  have h2 := (Whole.fresh ((w.alloc (.cells #[.slice A n c, .int .i64 s] 33)).alloc (.cells #[.slice B m d, .bool t] 30)) 30 #[.slice none 0 0, .bool false]).alloc (.cells #[.slice D q z] 22)
  rw [World.size_alloc, World.size_alloc] at h2
  have hb4 := below4 w (.cells #[.slice A n c, .int .i64 s] 33) (.cells #[.slice B m d, .bool t] 30) (.cells #[.slice none 0 0, .bool false] 30) (.cells #[.slice D q z] 22)
  have hg := Whole.fresh (((w.alloc (.cells #[.slice A n c, .int .i64 s] 33)).alloc (.cells #[.slice B m d, .bool t] 30)).alloc (.cells #[.slice none 0 0, .bool false] 30)) 22 #[.slice D q z]
  rw [World.size_alloc, World.size_alloc, World.size_alloc] at hg
  have hG : Grid ((((w.alloc (.cells #[.slice A n c, .int .i64 s] 33)).alloc (.cells #[.slice B m d, .bool t] 30)).alloc (.cells #[.slice none 0 0, .bool false] 30)).alloc (.cells #[.slice D q z] 22)) (some ⟨w.heap.size + 1 + 1 + 1, 0, none⟩) [⟨D, q, z, l⟩] := by
    refine ⟨hg.holds, fun r hr => ?_⟩
    obtain rfl := List.mem_singleton.1 hr
    exact ⟨hD.below hb4, hz, hq⟩
  have hA4 := hA.below hb4
  have hB4 := hB.below hb4
  have HBB := Lib.hid hb4
  clear hg hx hy hz hb4
  go_enter Try.func21, Try.ntmps21
  go_wp2_with fail
  refine (implPlayTrips_on A B _ n c m d 1 1 xs bs [⟨D, q, z, l⟩] [l] s t _ hA4 hB4 hG rfl HX.out HY.out rfl hn hm (by omega)).mono ?_
  rintro e w1 ⟨A2, q2, rfl, hf, hb⟩
  have ht := below_then HBB.out hb HBB.out.size
  have hr := h2.below hb
  obtain ⟨r0, r1, g0, g1⟩ := hr.two
  have hl5 := hr.lt
  have hFF := ((hf.set_out (b := w.heap.size + 1 + 1) (o := 0) (u := .slice A2 (playBits xs n s bs t [l]).length q2) (.inl (by simp))).set_out (b := w.heap.size + 1 + 1) (o := 1) (u := .bool (playTorch xs n s bs t [l])) (.inl (by simp))).more (lo' := w.heap.size) (hi' := w1.heap.size) (by simp; omega) (Nat.le_refl _)
  have HFF := Lib.hid hFF
  clear hb hr hf hFF hG hA4 hB4 h2 HBB
  go_wp2
  refine bodyPost_ret (v := .tuple #[.agg #[.slice A2 (playBits xs n s bs t [l]).length q2, .bool (playTorch xs n s bs t [l])], .bool (playOk xs n s bs t [l])]) (by simp [results, Try.results21, go_sem, r0, r1]) rfl ⟨A2, q2, rfl, ?_, below_set (below_set ht (by omega)) (by omega)⟩
  have h := HFF.out
  simpa [World.setCell] using h
end Go.Proofs.Ytionmcgaicijkaa
