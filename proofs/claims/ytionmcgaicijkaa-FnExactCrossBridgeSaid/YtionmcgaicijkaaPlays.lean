/-
  What is proved: contracts of PlayTrips, of the model and of the program. Conditions: the arguments are read as they lie.
-/
import Derived.Test.YtionmcgaicijkaaFails
import Derived.Deep.RegionLawGrows
namespace Go.Proofs.Ytionmcgaicijkaa
open Go.RowKit

noncomputable def playOk (xs : List Int) (n : Nat) (s : Int) (bs : List Bool) (t : Bool) (ls : List (List Int)) : Bool := asked xs n s bs t && (decide (ls.length ≤ 40) && decide (made n s bs t ls = ls.length))
noncomputable def playBits (xs : List Int) (n : Nat) (s : Int) (bs : List Bool) (t : Bool) (ls : List (List Int)) : List Bool := if playOk xs n s bs t ls then (ended n s bs t ls).1 else []
noncomputable def playTorch (xs : List Int) (n : Nat) (s : Int) (bs : List Bool) (t : Bool) (ls : List (List Int)) : Bool := if playOk xs n s bs t ls then (ended n s bs t ls).2 else false
section
variable {xs : List Int} {n : Nat} {s : Int} {bs : List Bool} {t : Bool} {ls : List (List Int)}
theorem play_no (h : asked xs n s bs t = false ∨ 40 < ls.length ∨ made n s bs t ls ≠ ls.length) : playOk xs n s bs t ls = false ∧ playBits xs n s bs t ls = [] ∧ playTorch xs n s bs t ls = false := by
  have h0 : playOk xs n s bs t ls = false := by
    rcases h with h | h | h
    · simp [playOk, h]
    · simp [playOk]; omega
    · simp [playOk, h]
  exact ⟨h0, by simp [playBits, h0], by simp [playTorch, h0]⟩
theorem play_yes (h : asked xs n s bs t = true) (h40 : ls.length ≤ 40) (hm : made n s bs t ls = ls.length) : playOk xs n s bs t ls = true ∧ playBits xs n s bs t ls = (ended n s bs t ls).1 ∧ playTorch xs n s bs t ls = (ended n s bs t ls).2 := by
  have h0 : playOk xs n s bs t ls = true := by simp [playOk, h, h40, hm]
  exact ⟨h0, by simp [playBits, h0], by simp [playTorch, h0]⟩
theorem playBits_le (hx : xs.length = n) : (playBits xs n s bs t ls).length ≤ 1048576 := by
  unfold playBits
  split
  · rename_i h
    simp only [playOk, Bool.and_eq_true] at h
    have := asked_len h.1 hx
    rw [ended_len]; omega
  · simp
end

set_option maxHeartbeats 1600000 in
set_option maxRecDepth 100000 in
theorem specPlayTrips_any (A B D : Option Addr) (n c m d q z : Nat) (xs : List Int) (bs : List Bool) (rs : List RowV) (s : Int) (t : Bool) (w : World) (hA : Holds w A (nums xs)) (hB : Holds w B (bits bs)) (hD : Grid w D rs) (hx : xs.length = n) (hy : bs.length = m) (hz : rs.length = q) (hn : n ≤ 9223372036854775807) (hm : m ≤ 9223372036854775807) (hq : q ≤ 9223372036854775807) :
    Calls Try.prog 30 #[.agg #[.slice A n c, .int .i64 s], .agg #[.slice B m d, .bool t], .slice D q z] w (StatePost (playBits xs n s bs t (rowNums rs)) (playTorch xs n s bs t (rowNums rs)) (playOk xs n s bs t (rowNums rs)) w) := by
  have HX := Lib.hid hx
  have HY := Lib.hid hy
  have HZ := Lib.hid hz
  have HLS := Lib.hid (rowNums_len rs)
  have hA2 := hA.below (below3 w (.cells #[.slice A n c, .int .i64 s] 33) (.cells #[.slice B m d, .bool t] 30) (.cells #[.slice none 0 0, .bool false] 30))
  have hB2 := hB.below (below3 w (.cells #[.slice A n c, .int .i64 s] 33) (.cells #[.slice B m d, .bool t] 30) (.cells #[.slice none 0 0, .bool false] 30))
  have hD2 := hD.below (below3 w (.cells #[.slice A n c, .int .i64 s] 33) (.cells #[.slice B m d, .bool t] 30) (.cells #[.slice none 0 0, .bool false] 30))
  have h0 := ((Whole.fresh w 33 #[.slice A n c, .int .i64 s]).alloc (.cells #[.slice B m d, .bool t] 30)).alloc (.cells #[.slice none 0 0, .bool false] 30)
  have h1 := (Whole.fresh (w.alloc (.cells #[.slice A n c, .int .i64 s] 33)) 30 #[.slice B m d, .bool t]).alloc (.cells #[.slice none 0 0, .bool false] 30)
  have h2 := Whole.fresh ((w.alloc (.cells #[.slice A n c, .int .i64 s] 33)).alloc (.cells #[.slice B m d, .bool t] 30)) 30 #[.slice none 0 0, .bool false]
  rw [World.size_alloc] at h1
  rw [World.size_alloc, World.size_alloc] at h2
  cases hp : asked xs n s bs t
  · have HP := Lib.hid (show (isParty xs s && isState n bs t) = false from hp)
    obtain ⟨f1, f2, f3⟩ := play_no (ls := rowNums rs) (.inl hp)
    rw [f1, f2, f3]
    clear hp hx hy hz f1 f2 f3
    go_enter Try.func30, Try.ntmps30
    go_wp2_with fail
    refine (paAsked_any A B n c m d xs bs s t _ hA2 hB2 HX.out HY.out hn hm).mono ?_
    rintro e w1 ⟨rfl, hb1⟩
    rw [HP.out]
    have ht := below_then (below3 w _ _ _) hb1 (by simp; omega)
    have hr := h2.below hb1
    obtain ⟨r0, r1, g0, g1⟩ := hr.two
    have hrl := hr.lt
    clear h0 h1 h2 hb1 hA2 hB2 hD2 hr
    go_wp2
    refine bodyPost_ret (v := .tuple #[.agg #[.slice none 0 0, .bool false], .bool false]) (by simp [results, Try.results30, go_sem, r0, r1]) rfl ⟨none, 0, rfl, .inl rfl, below_set (below_set ht (by omega)) (by omega)⟩
  · have HP := Lib.hid (show (isParty xs s && isState n bs t) = true from hp)
    have HAS := Lib.hid hp
    obtain ⟨h8, hpos, hbl⟩ := asked_len hp hx
    have HBL := Lib.hid hbl
    have hmn : m = n := by omega
    have HMN := Lib.hid hmn
    clear hp hx hy hz hbl hmn
    by_cases h40 : 40 < q
    · obtain ⟨f1, f2, f3⟩ := play_no (xs := xs) (n := n) (s := s) (bs := bs) (t := t) (ls := rowNums rs) (.inr (.inl (by have := HLS.out; have := HZ.out; omega)))
      rw [f1, f2, f3]
      clear f1 f2 f3
      go_enter Try.func30, Try.ntmps30
      go_wp2_with fail
      refine (paAsked_any A B n c m d xs bs s t _ hA2 hB2 HX.out HY.out hn hm).mono ?_
      rintro e w1 ⟨rfl, hb1⟩
      rw [HP.out]
      have ht := below_then (below3 w _ _ _) hb1 (by simp; omega)
      have hr := h2.below hb1
      obtain ⟨r0, r1, g0, g1⟩ := hr.two
      have hrl := hr.lt
      clear h0 h1 h2 hb1 hA2 hB2 hD2 hr
      go_wp2
      refine bodyPost_ret (v := .tuple #[.agg #[.slice none 0 0, .bool false], .bool false]) (by simp [results, Try.results30, go_sem, r0, r1]) rfl ⟨none, 0, rfl, .inl rfl, below_set (below_set ht (by omega)) (by omega)⟩
    · have hmle : made n s bs t (rowNums rs) ≤ q := by have := made_le n s (rowNums rs) bs t; have := HLS.out; have := HZ.out; omega
      by_cases hmd : made n s bs t (rowNums rs) < q
      · obtain ⟨f1, f2, f3⟩ := play_no (xs := xs) (n := n) (s := s) (bs := bs) (t := t) (ls := rowNums rs) (.inr (.inr (by have := HLS.out; have := HZ.out; omega)))
        rw [f1, f2, f3]
        clear f1 f2 f3
        go_enter Try.func30, Try.ntmps30
        go_wp2_with fail
        refine (paAsked_any A B n c m d xs bs s t _ hA2 hB2 HX.out HY.out hn hm).mono ?_
        rintro e w1 ⟨rfl, hb1⟩
        rw [HP.out]
        have ht := below_then (below3 w _ _ _) hb1 (by simp; omega)
        have hr := h2.below hb1
        replace hB2 := hB2.below hb1
        replace hD2 := hD2.below hb1
        obtain ⟨c0, c1, -, -⟩ := (h0.below hb1).two
        obtain ⟨d0, d1, -, -⟩ := (h1.below hb1).two
        have hrl := hr.lt
        clear h0 h1 h2 hb1 hA2
        go_wp2_with fail
        refine (paPlay_any A B D n c m d q z bs rs s t _ hB2 hD2 HY.out HZ.out HMN.out (by have := HMN.out; omega) (by have := HMN.out; omega) hq).mono ?_
        rintro e w2 ⟨A2, c2, rfl, -, hb⟩
        replace ht := below_then ht hb ht.size
        obtain ⟨r0, r1, g0, g1⟩ := (hr.below hb).two
        have hrl2 : w.heap.size + 1 + 1 < w2.heap.size := by have := hb.size; omega
        clear hb hr c0 c1 d0 d1
        go_wp2
        refine bodyPost_ret (v := .tuple #[.agg #[.slice none 0 0, .bool false], .bool false]) (by simp [results, Try.results30, go_sem, r0, r1, hrl2]) rfl ⟨none, 0, rfl, .inl rfl, (below_set (below_set ht (by omega)) (by omega)).alloc (by simp [World.setCell]; exact ht.size) _⟩
      · obtain ⟨f1, f2, f3⟩ := play_yes HAS.out (show (rowNums rs).length ≤ 40 by have := HLS.out; have := HZ.out; omega) (show made n s bs t (rowNums rs) = (rowNums rs).length by have := HLS.out; have := HZ.out; omega)
        rw [f1, f2, f3]
        clear f1 f2 f3
        obtain ⟨i0, hi, hz0, hz1, hz2⟩ := info_parts info_bool
        have HI := Lib.hid hi
        have HZ0 := Lib.hid hz0
        have HZ1 := Lib.hid hz1
        have HZ2 := Lib.hid hz2
        clear hi hz0 hz1 hz2
        go_enter Try.func30, Try.ntmps30
        go_wp2_with fail
        refine (paAsked_any A B n c m d xs bs s t _ hA2 hB2 HX.out HY.out hn hm).mono ?_
        rintro e w1 ⟨rfl, hb1⟩
        rw [HP.out]
        have ht := below_then (below3 w _ _ _) hb1 (by simp; omega)
        have hr := h2.below hb1
        replace hB2 := hB2.below hb1
        replace hD2 := hD2.below hb1
        obtain ⟨c0, c1, -, -⟩ := (h0.below hb1).two
        obtain ⟨d0, d1, -, -⟩ := (h1.below hb1).two
        have hrl := hr.lt
        clear h0 h1 h2 hb1 hA2
        go_wp2_with fail
        refine (paPlay_any A B D n c m d q z bs rs s t _ hB2 hD2 HY.out HZ.out HMN.out (by have := HMN.out; omega) (by have := HMN.out; omega) hq).mono ?_
        rintro e w2 ⟨A2, c2, rfl, hA2, hb⟩
        have hEL := Lib.hid (ended_len n s bs t (rowNums rs))
        obtain ⟨b, o, rfl, hbl, hcell⟩ := hA2.spot (by rw [bits_len, hEL.out, HBL.out]; exact hpos)
        replace ht := below_then ht hb ht.size
        have hrl2 : w.heap.size + 1 + 1 < w2.heap.size := by have := hb.size; omega
        have HR := Lib.hid (((hr.below hb).alloc (.cells #[.slice (some ⟨b, o, none⟩) m c2, .bool (ended n s bs t (rowNums rs)).2] 30)).alloc (.cells #[] 4)).drew
        have HE := Lib.hid ((Whole.fresh w2 30 #[.slice (some ⟨b, o, none⟩) m c2, .bool (ended n s bs t (rowNums rs)).2]).alloc (.cells #[] 4)).drew
        have HT := Lib.hid ((ht.alloc ht.size (.cells #[.slice (some ⟨b, o, none⟩) m c2, .bool (ended n s bs t (rowNums rs)).2] 30)).alloc (Nat.le_trans ht.size (by simp)) (.cells #[] 4)).drew
        have hnews : ∀ j u, (bits (ended n s bs t (rowNums rs)).1)[j]? = some u → World.cell? (World.drew ((w2.alloc (.cells #[.slice (some ⟨b, o, none⟩) m c2, .bool (ended n s bs t (rowNums rs)).2] 30)).alloc (.cells #[] 4))) ((⟨b, o, none⟩ : Addr).add j) = some u := fun j u hu => by
          rw [show (⟨b, o, none⟩ : Addr).add j = ⟨b, o + j, none⟩ from by unfold Addr.add; split <;> simp_all]
          have h := hcell j u hu
          rw [← h]
          exact (below2 w2 _ _).cell (p := ⟨b, o + j, none⟩) hbl
        have HNEWS := Lib.hid hnews
        have HLEN := Lib.hid (show (bits (ended n s bs t (rowNums rs)).1).length = m * 1 by rw [bits_len, hEL.out, HBL.out, HMN.out, Nat.mul_one])
        have HONE := Lib.hid (bits_one (ended n s bs t (rowNums rs)).1)
        have hm0 : 0 < m := by have := HMN.out; omega
        have hm8 : m ≤ 8 := by have := HMN.out; omega
        have HML := Lib.hid (show (ended n s bs t (rowNums rs)).1.length = m by rw [hEL.out, HBL.out, HMN.out])
        clear hb hr c0 c1 d0 d1 hnews hcell hA2 hB2 hD2
        have hme : ¬ made n s bs t (rowNums rs) < q := hmd
        obtain ⟨e0, e1, -, -⟩ := (Whole.fresh w2 30 #[.slice (some ⟨b, o, none⟩) m c2, .bool (ended n s bs t (rowNums rs)).2]).two
        obtain ⟨k0, k1, -, -⟩ := HE.out.two
        go_wp2_with fail
        go_region_law (refine step_append_grows rfl (.tmp 32) (.tmp 34) 25 rfl 4 i0 (.bool false) 1 1 Try.underlying25 HI.out HZ0.out HZ1.out HZ2.out rfl (by decide) (some ⟨w2.heap.size + 1, 0, none⟩) 0 0 [] rfl (by intro h; cases h) rfl (by intro x hx j u hu; simp at hu) ⟨b, o, none⟩ m c2 (bits (ended n s bs t (rowNums rs)).1) rfl HLEN.out HNEWS.out HONE.out (by omega) (by unfold maxLen; omega) (by omega) ?_; intro v' w3 hown1 hg1; simp only [Nat.zero_add, List.nil_append] at hown1; obtain ⟨A3, c3, hv', hf⟩ := Fresh.of_own hown1 (Nat.le_refl _); subst hv'; have he1 : Whole w3 w2.heap.size 30 #[.slice (some ⟨b, o, none⟩) m c2, .bool (ended n s bs t (rowNums rs)).2] := (hg1.block _ HE.out.lt (fun e => by cases e)).trans HE.out; have hr1 : Whole w3 (w.heap.size + 1 + 1) 30 #[.slice none 0 0, .bool false] := (hg1.block _ HR.out.lt (fun e => by cases e)).trans HR.out; obtain ⟨l0, l1, -, -⟩ := he1.two; obtain ⟨r0, r1, g0, g1⟩ := hr1.two; have hbl := HT.out.grown hg1 (by simp; omega) (fun k e => by cases e); clear hown1 he1)
        all_goals (have hr1l := hr1.lt; clear HR HE HT HNEWS HLEN HONE HI HZ0 HZ1 HZ2; go_wp2)
        all_goals
          refine bodyPost_ret (v := .tuple #[.agg #[.slice A3 m c3, .bool (ended n s bs t (rowNums rs)).2], .bool true]) (by simp [results, Try.results30, go_sem, r0, r1]) rfl ⟨A3, c3, by rw [HML.out], ?_, below_set (below_set hbl (by omega)) (by omega)⟩
          have h := ((hf.set_out (b := w.heap.size + 1 + 1) (o := 0) (u := .slice A3 m c3) (.inl (by simp; omega))).set_out (b := w.heap.size + 1 + 1) (o := 1) (u := .bool (ended n s bs t (rowNums rs)).2) (.inl (by simp; omega))).more (lo' := w.heap.size) (hi' := w3.heap.size) (by simp; omega) (Nat.le_refl _)
          simpa [World.setCell] using h
end Go.Proofs.Ytionmcgaicijkaa
