/-
  What is proved: a contract of the laws' marks on lists of lists of lists of the call's own. Conditions: they are new, open to writes and apart from each other; counts are small.
  What is proved: a contract of the model's RoundsAfter; both read at given rounds. Conditions: the arguments are read as they lie.
  What is proved: the law FnExactRoundsAfter returns true at every argument, and leaves all that was there as it was. Conditions: the arguments are read as they lie.
-/
import Derived.Deep.RegionHeld3
import Derived.Test.YtifaadjbkbdbnaaJ1NightTime
set_option linter.unusedSimpArgs false
set_option linter.unusedVariables false
namespace Go.Proofs.Ytifaadjbkbdbnaa
open Go.RowKit

/-- How many numbers the first k lists of lists hold. -/
def lensC (Gs : List (List (List Int))) (k : Nat) : Nat := ((Gs.take k).map fun G => (G.map List.length).sum).sum
theorem lensC_zero (Gs : List (List (List Int))) : lensC Gs 0 = 0 := rfl
theorem lensC_next {Gs : List (List (List Int))} {k : Nat} (hk : k < Gs.length) : lensC Gs (k + 1) = lensC Gs k + (Gs[k].map List.length).sum := by
  rw [lensC, lensC, List.take_succ_eq_append_getElem hk, List.map_append, List.sum_append]
  simp
theorem lensC_le {Gs : List (List (List Int))} : ∀ {k : Nat}, k ≤ Gs.length → ∀ {j : Nat}, j ≤ k → lensC Gs j ≤ lensC Gs k
  | 0, _, j, hj => by obtain rfl : j = 0 := by omega
                      exact Nat.le_refl _
  | k + 1, hk, j, hj => by
    rcases Nat.lt_or_ge j (k + 1) with h | h
    · have h1 := lensC_le (Gs := Gs) (k := k) (by omega) (j := j) (by omega)
      have h2 := lensC_next (Gs := Gs) (k := k) (by omega)
      omega
    · obtain rfl : j = k + 1 := by omega
      exact Nat.le_refl _
theorem part_lensC {w : World} {A : Option Addr} {rs : List RowV} (h : Grid w A rs) : part rs rs.length = ((rowNums rs).map List.length).sum := by
  rw [part_sum, rowNums, List.map_map]
  congr 1
  exact List.map_congr_left fun r hr => by simp [(h.2 r hr).2.1]
theorem lensC_total {w : World} {A : Option Addr} {gs : List GridV} (h : Cube w A gs) : lensC (cubeNums gs) (cubeNums gs).length ≤ totalC gs := by
  have hk : ∀ k, k ≤ gs.length → lensC (cubeNums gs) k ≤ partC gs k := by
    intro k
    induction k with
    | zero => intro _; exact Nat.le_refl _
    | succ k ih =>
      intro hk
      have h1 := ih (by omega)
      have h2 := lensC_next (Gs := cubeNums gs) (k := k) (by rw [cubeNums_len]; omega)
      have h3 := partC_next (gs := gs) (k := k) (by omega)
      rw [cubeNums_get (by omega)] at h2
      have h4 := part_lensC (h.2 gs[k] (List.getElem_mem (by omega))).1
      have h5 := part_total gs[k].rs
      omega
  rw [cubeNums_len]
  have := hk gs.length (Nat.le_refl _)
  unfold totalC
  omega
theorem lensC_own {w : World} {A : Option Addr} {gs ws : List GridV} (h : Cube w A gs) (he : cubeNums ws = cubeNums gs) : lensC (cubeNums ws) (cubeNums ws).length ≤ totalC gs := by rw [he]; exact lensC_total h
theorem Span.ownGrids {w w' : World} {lo hi : Nat} (h : Span lo hi w w') : ∀ {gs : List GridV} {lo' hi' : Nat}, OwnGrids w lo' hi' gs → (hi' ≤ lo ∨ hi ≤ lo') → OwnGrids w' lo' hi' gs
  | [], _, _, hf, _ => hf
  | _ :: _, _, _, ⟨m, h1, hf, hl, hn, h2⟩, hd => ⟨m, h1, h.freeGrid hf (by have := h2.le; omega), hl, hn, h.ownGrids h2 (by omega)⟩
theorem Span.cube {w w' : World} {lo hi g hi' : Nat} {gs : List GridV} (h : Span lo hi w w') (hf : OwnCube w g hi' gs) (hd : hi' ≤ lo ∨ hi ≤ g) : OwnCube w' g hi' gs :=
  ⟨h.whole hf.1 (by have := hf.2.le; omega), h.ownGrids hf.2 (by omega)⟩
theorem own_at {w : World} {lo hi : Nat} {gs : List GridV} {k : Nat} (h : OwnGrids w lo hi (gs.drop k)) (hk : k < gs.length) : ∃ mid, lo ≤ mid ∧ FreeGrid w lo mid gs[k].A gs[k].rs ∧ gs[k].rs.length = gs[k].n ∧ gs[k].n ≤ 1048576 ∧ OwnGrids w mid hi (gs.drop (k + 1)) := by
  rw [List.drop_eq_getElem_cons hk] at h
  exact h

set_option maxHeartbeats 800000 in
theorem markIntSSS_any (g hi n c : Nat) (gs : List GridV) (q : Int) (w : World) (hf : OwnCube w g hi gs) (hx : gs.length = n) (h0 : 0 ≤ q) (h1 : q ≤ 1152921504606846976) (hn : n ≤ 1048576) (Gs : List (List (List Int))) (he : cubeNums gs = Gs) (hp : lensC Gs Gs.length ≤ 1048576) :
    Calls Try.prog 46 #[.slice (some ⟨g, 0, none⟩) n c, .int .i64 q] w fun e w' => e = .returned (.int .i64 (q + (lensC Gs Gs.length : Nat))) ∧ Span g hi w w' := by
  subst he hx
  have HCL := Lib.hid (cubeNums_len gs)
  have hw0 := hf.1
  have ho0 := hf.2
  clear hf
  go_enter Try.func46, Try.ntmps46
  go_wp2
  go_loopw [1, 5] (fun v i wr => ∃ k mid : Nat, k ≤ gs.length ∧ i = .int .i64 k ∧ v = .int .i64 (q + lensC (cubeNums gs) k) ∧ g + 1 ≤ mid ∧ Whole wr g 30 (gridVals gs).toArray ∧ OwnGrids wr mid hi (gs.drop k) ∧ Span g hi w wr) (fun _ i _ => gs.length - (intOf i).toNat)
  case atStart => exact ⟨0, g + 1, Nat.zero_le _, rfl, by simp [lensC_zero], Nat.le_refl _, hw0, ho0, Span.refl _ _ _⟩
  case round =>
    obtain ⟨k, mid, hk, rfl, rfl, hmid, hw, ho, hs⟩ := hrel
    clear hw0 ho0
    by_cases hlt : k < gs.length
    · have hkc : k < (cubeNums gs).length := by have := HCL.out; omega
      obtain ⟨m2, hm2, hfg, hl, hsn, hrest⟩ := own_at ho hlt
      have hrl := hrest.le
      have hc : wr.cell? ⟨g, k, none⟩ = some (.slice gs[k].A gs[k].n gs[k].c) := (hw.cell k).trans (by simp [gridVals, GridV.val, hlt])
      have hlw := hw.lt
      have hpl := lensC_le (Gs := cubeNums gs) (Nat.le_refl _) (j := k) (by omega)
      have hpl2 := lensC_le (Gs := cubeNums gs) (Nat.le_refl _) (j := k + 1) (by omega)
      have hpn := lensC_next hkc
      rw [cubeNums_get hlt, ← part_lensC hfg.grid] at hpn
      have HPN := Lib.hid hpn
      have hq0 : (0 : Int) ≤ q + lensC (cubeNums gs) k := by omega
      have hq1 : q + (lensC (cubeNums gs) k : Int) ≤ 2305843009213693952 := by omega
      have hpp : part gs[k].rs gs[k].rs.length ≤ 1048576 := by omega
      have HF := Lib.hid hfg
      have HL := Lib.hid hl
      have HR := Lib.hid hrest
      have HS := Lib.hid hs
      have HW := Lib.hid hw
      clear hfg hl hrest hs hw ho hpn hpl hpl2
      go_wp2_with fail
      refine (markIntSS_any gs[k].A gs[k].n _ mid m2 gs[k].rs _ _ HF.out HL.out hq0 hq1 hsn hpp).mono ?_
      rintro e w1 ⟨rfl, hs2, -⟩
      have HS2 := Lib.hid (HS.out.trans (hs2.wider (by omega) hrl))
      have HW2 := Lib.hid (hs2.whole HW.out (by omega))
      have HR2 := Lib.hid (hs2.ownGrids HR.out (.inr (Nat.le_refl _)))
      clear hs2
      go_wp2
      go_roundw
      case rel => exact ⟨k + 1, m2, by omega, by go_num, by rw [HPN.out]; first | exact congrArg _ (by omega) | (simp; omega), by omega, HW2.out, HR2.out, HS2.out⟩
      case measure => simp [intOf]; omega
    · have hkn : k = (cubeNums gs).length := by have := HCL.out; omega
      have HK := Lib.hid hkn
      clear hkn
      go_wp2
      go_ret
      exact ⟨by rw [HK.out]; rfl, hs⟩
end Go.Proofs.Ytifaadjbkbdbnaa

namespace Go.Proofs.Ytifaadjbkbdbnaa
open Go.RowKit

set_option maxHeartbeats 6400000 in
set_option maxRecDepth 100000 in
set_option linter.unusedVariables false in
theorem specRoundsAfter_any (A : Option Addr) (n c : Nat) (xs : List Int) (s t : Int) (B : Option Addr) (m d : Nat) (bs : List Bool) (u : Int) (D : Option Addr) (q z : Nat) (gs : List GridV) (w : World) (hA : Holds w A (nums xs)) (hx : xs.length = n) (hn : n ≤ 9223372036854775807) (hB : Holds w B (bits bs)) (hy : bs.length = m) (hm : m ≤ 9223372036854775807) (hD : Cube w D gs) (hz : gs.length = q) (hq : q ≤ 9223372036854775807) (hsm : ∀ k (hk : k < gs.length), gs[k].n ≤ 1048576) :
    Calls Try.prog 55 #[.agg #[.slice A n c, .int .i64 s, .int .i64 t], .agg #[.slice B m d, .int .i64 u], .slice D q z] w (CampPost (rsBits xs s t bs u (cubeNums gs)) (rsTorch xs s t bs u (cubeNums gs)) (rsOk xs s t bs u (cubeNums gs)) w) := by
  subst hy
  have HX := Lib.hid hx
  have h0 := ((Whole.fresh w 48 #[.slice A n c, .int .i64 s, .int .i64 t]).alloc (.cells #[.slice B bs.length d, .int .i64 u] 56)).alloc (.cells #[.slice none 0 0, .int .i64 0] 56)
  have h1 := (Whole.fresh (w.alloc (.cells #[.slice A n c, .int .i64 s, .int .i64 t] 48)) 56 #[.slice B bs.length d, .int .i64 u]).alloc (.cells #[.slice none 0 0, .int .i64 0] 56)
  have hr := Whole.fresh ((w.alloc (.cells #[.slice A n c, .int .i64 s, .int .i64 t] 48)).alloc (.cells #[.slice B bs.length d, .int .i64 u] 56)) 56 #[.slice none 0 0, .int .i64 0]
  simp only [World.size_alloc] at h1 hr
  have ht := below3 w (.cells #[.slice A n c, .int .i64 s, .int .i64 t] 48) (.cells #[.slice B bs.length d, .int .i64 u] 56) (.cells #[.slice none 0 0, .int .i64 0] 56)
  obtain ⟨c0, c1, c2⟩ := h0.cells3
  obtain ⟨d0, d1, -, -⟩ := h1.two
  have HCL := Lib.hid (cubeNums_len gs)
  cases hc : isCamp xs s t bs.length u
  · have HC := Lib.hid hc
    have HO : Hid (rsOk xs s t bs u (cubeNums gs) = false) := by show _ = _; rw [rsOk, hc, Bool.false_and]
    clear hc hx
    go_enter Try.func55, Try.ntmps55
    go_wp2_with fail
    refine (toCamp_any8 A n c xs s t B _ d u _ (by exact hA.below ht) HX.out hn).mono ?_
    rintro e w1 ⟨rfl, hb⟩
    rw [HC.out]
    replace ht := below_then ht hb ht.size
    replace hr := hr.below hb
    clear hb c0 c1 c2 d0 d1 h0 h1
    obtain ⟨r0, r1, f0, f1⟩ := hr.two
    have hlr := hr.lt
    go_wp2
    refine bodyPost_ret (v := .tuple #[.agg #[.slice none 0 0, .int .i64 0], .bool false]) (by simp [results, Try.results55, go_sem, r0, r1]) rfl ⟨none, 0, by rw [HO.out, rsBits_no HO.out, rsTorch_no HO.out]; rfl, .inl (by rw [rsBits_no HO.out]; rfl), below_set (below_set ht (by omega)) (by omega)⟩
  have HC := Lib.hid hc
  have hp := camp_parts hc
  have hok := hp.1
  have hn6 := hok.six
  have hn1 := hok.one
  have htt := hok.torches
  have hss := hok.seats
  have hmm : bs.length = n := by have := hp.2.1; omega
  have huu := hp.2.2
  have HM := Lib.hid hmm
  have HR : Hid (rsOk xs s t bs u (cubeNums gs) = followOk n s t (bs, u) (cubeNums gs)) := by show _ = _; rw [rsOk, hc, Bool.true_and, hx]
  rw [hx] at hn6 hn1
  clear hc hx hp hok hmm
  by_cases hl : 30 < gs.length
  · have HO : Hid (rsOk xs s t bs u (cubeNums gs) = false) := HR.out.trans (by rw [followOk, HCL.out, decide_eq_false (by omega), Bool.false_and])
    have hlq : 30 < q := by omega
    clear hl hz
    go_enter Try.func55, Try.ntmps55
    go_wp2_with fail
    refine (toCamp_any8 A n c xs s t B _ d u _ (by exact hA.below ht) HX.out hn).mono ?_
    rintro e w1 ⟨rfl, hb⟩
    rw [HC.out]
    replace ht := below_then ht hb ht.size
    replace hr := hr.below hb
    clear hb c0 c1 c2 d0 d1 h0 h1
    obtain ⟨r0, r1, f0, f1⟩ := hr.two
    have hlr := hr.lt
    go_wp2
    refine bodyPost_ret (v := .tuple #[.agg #[.slice none 0 0, .int .i64 0], .bool false]) (by simp [results, Try.results55, go_sem, r0, r1]) rfl ⟨none, 0, by rw [HO.out, rsBits_no HO.out, rsTorch_no HO.out]; rfl, .inl (by rw [rsBits_no HO.out]; rfl), below_set (below_set ht (by omega)) (by omega)⟩
  have hlq : ¬ 30 < q := by omega
  have HRR : Hid (rsOk xs s t bs u (cubeNums gs) = playOk n s t (bs, u) (cubeNums gs)) := by show _ = _; rw [HR.out, followOk, HCL.out, decide_eq_true (by omega), Bool.true_and]
  obtain ⟨b, o, hBe, hbl, -⟩ := bits_spot hB (by have := HM.out; omega)
  obtain ⟨b', o', hBe', hbl', hcb⟩ := hB.spot (by rw [bits_len]; have := HM.out; omega)
  obtain ⟨rfl, rfl⟩ : b = b' ∧ o = o' := by
    rw [hBe] at hBe'
    simp only [Option.some.injEq, Addr.mk.injEq] at hBe'
    exact ⟨hBe'.1, hBe'.2.1⟩
  subst hBe
  have HPL : ∀ W, Below w.heap.size w W → _ := fun W hW => toPlay_any A n c s t b o bs.length d bs u D q z gs W (by omega) hn1 (by omega) (by omega) (fun j x hj => (hW.cell (p := ⟨b, o + j, none⟩) hbl).trans (hcb j x hj)) rfl HM.out huu (hD.below hW) hz hq hsm
  have HP := Lib.hid HPL
  clear HPL hcb hBe' hl hz hsm
  go_enter Try.func55, Try.ntmps55
  go_wp2_with fail
  refine (toCamp_any8 A n c xs s t (some ⟨b, o, none⟩) _ d u _ (by exact hA.below ht) HX.out hn).mono ?_
  rintro e w1 ⟨rfl, hb⟩
  rw [HC.out]
  replace ht := below_then ht hb ht.size
  replace h0 := h0.below hb
  replace h1 := h1.below hb
  replace hr := hr.below hb
  clear hb c0 c1 c2 d0 d1
  obtain ⟨c0, c1, c2⟩ := h0.cells3
  obtain ⟨d0, d1, -, -⟩ := h1.two
  go_wp2_with fail
  refine (HP.out _ ht).mono ?_
  clear HP c0 c1 c2 d0 d1 h0 h1
  rintro e w3 ⟨⟨hg, A3, q3, rfl, hF⟩ | ⟨hg, A3, q3, v3, rfl⟩, hb⟩
  · have HO := Lib.hid (HRR.out.trans hg)
    have HBI : Hid (rsBits xs s t bs u (cubeNums gs) = (afterAll (bs, u) (cubeNums gs)).1) := rsBits_yes HO.out
    have HTO : Hid (rsTorch xs s t bs u (cubeNums gs) = (afterAll (bs, u) (cubeNums gs)).2) := rsTorch_yes HO.out
    have hel : (afterAll (bs, u) (cubeNums gs)).1.length = bs.length := afterAll_len _ _
    have HEL := Lib.hid hel
    obtain ⟨be, hbe⟩ : ∃ be, be = (afterAll (bs, u) (cubeNums gs)).1 := ⟨_, rfl⟩
    obtain ⟨ue, hue⟩ : ∃ ue, ue = (afterAll (bs, u) (cubeNums gs)).2 := ⟨_, rfl⟩
    rw [← hbe] at hF HBI HEL
    rw [← hue] at HTO ⊢
    clear hel hbe hue hg
    have hsz := ht.size
    have hlr0 := hr.lt
    replace ht := below_then ht hb ht.size
    replace hr := hr.below hb
    have hlr := hr.lt
    obtain ⟨r0, r1, f0, f1⟩ := hr.two
    have HFF := Lib.hid ((((hF.set_out (b := w.heap.size + 1 + 1) (o := 0) (u := .slice A3 bs.length q3) (.inl (by omega))).set_out (b := w.heap.size + 1 + 1) (o := 1) (u := .int .i64 ue) (.inl (by omega))).alloc (.cells #[.slice A3 bs.length q3, .int .i64 ue] 56)).more (lo' := w.heap.size) (hi' := w3.heap.size + 1) (by omega) (Nat.le_succ _))
    have hb2 := below_set (below_set ht (b := w.heap.size + 1 + 1) (o := 0) (u := .slice A3 bs.length q3) (by omega)) (b := w.heap.size + 1 + 1) (o := 1) (u := .int .i64 ue) (by omega)
    have HB3 := Lib.hid (hb2.alloc hb2.size (.cells #[.slice A3 bs.length q3, .int .i64 ue] 56))
    have HR3 := Lib.hid (((hr.set_ 0 (.slice A3 bs.length q3)).set_ 1 (.int .i64 ue)).alloc (.cells #[.slice A3 bs.length q3, .int .i64 ue] 56))
    clear hb hF hb2 hr
    go_wp2
    obtain ⟨q0, q1, -, -⟩ := (show Whole _ (w.heap.size + 1 + 1) 56 #[.slice A3 bs.length q3, .int .i64 ue] by simpa using HR3.out).two
    refine bodyPost_ret (v := .tuple #[.agg #[.slice A3 bs.length q3, .int .i64 ue], .bool true]) (by simp [results, Try.results55, go_sem, q0, q1]) rfl ⟨A3, q3, by rw [HO.out, HBI.out, HTO.out, HEL.out], ?_, HB3.out⟩
    rw [HBI.out]
    simpa [World.setCell] using HFF.out
  · have HO := Lib.hid (HRR.out.trans hg)
    clear hg
    replace ht := below_then ht hb ht.size
    replace hr := hr.below hb
    have hlr := hr.lt
    obtain ⟨r0, r1, f0, f1⟩ := hr.two
    have hb2 := below_set (below_set ht (b := w.heap.size + 1 + 1) (o := 0) (u := .slice none 0 0) (by omega)) (b := w.heap.size + 1 + 1) (o := 1) (u := .int .i64 0) (by omega)
    have HB3 := Lib.hid (hb2.alloc hb2.size (.cells #[.slice A3 bs.length q3, .int .i64 v3] 56))
    have HR3 := Lib.hid (((hr.set_ 0 (.slice none 0 0)).set_ 1 (.int .i64 0)).alloc (.cells #[.slice A3 bs.length q3, .int .i64 v3] 56))
    clear hb hb2 hr
    go_wp2
    obtain ⟨q0, q1, -, -⟩ := (show Whole _ (w.heap.size + 1 + 1) 56 #[.slice none 0 0, .int .i64 0] by simpa using HR3.out).two
    refine bodyPost_ret (v := .tuple #[.agg #[.slice none 0 0, .int .i64 0], .bool false]) (by simp [results, Try.results55, go_sem, q0, q1]) rfl ⟨none, 0, by rw [HO.out, rsBits_no HO.out, rsTorch_no HO.out]; rfl, .inl (by rw [rsBits_no HO.out]; rfl), by simpa using HB3.out⟩
set_option maxRecDepth 100000 in
theorem specRoundsAfter_on (A : Option Addr) (n c : Nat) (xs : List Int) (s t : Int) (B : Option Addr) (m d : Nat) (bs : List Bool) (u : Int) (D : Option Addr) (q z : Nat) (gs : List GridV) (w : World) (hA : Holds w A (nums xs)) (hx : xs.length = n) (hn : n ≤ 9223372036854775807) (hB : Holds w B (bits bs)) (hy : bs.length = m) (hm : m ≤ 9223372036854775807) (hD : Cube w D gs) (hz : gs.length = q) (hq : q ≤ 9223372036854775807) (hsm : ∀ k (hk : k < gs.length), gs[k].n ≤ 1048576) (Gs : List (List (List Int))) (he : cubeNums gs = Gs) :
    Calls Try.prog 55 #[.agg #[.slice A n c, .int .i64 s, .int .i64 t], .agg #[.slice B m d, .int .i64 u], .slice D q z] w (CampPost (rsBits xs s t bs u Gs) (rsTorch xs s t bs u Gs) (rsOk xs s t bs u Gs) w) := by
  subst he
  exact specRoundsAfter_any A n c xs s t B m d bs u D q z gs w hA hx hn hB hy hm hD hz hq hsm
set_option maxRecDepth 100000 in
theorem implRoundsAfter_on (A : Option Addr) (n c : Nat) (xs : List Int) (s t : Int) (B : Option Addr) (m d : Nat) (bs : List Bool) (u : Int) (D : Option Addr) (q z : Nat) (gs : List GridV) (w : World) (hA : Holds w A (nums xs)) (hx : xs.length = n) (hn : n ≤ 9223372036854775807) (hB : Holds w B (bits bs)) (hy : bs.length = m) (hm : m ≤ 9223372036854775807) (hD : Cube w D gs) (hz : gs.length = q) (hq : q ≤ 9223372036854775807) (Gs : List (List (List Int))) (he : cubeNums gs = Gs) :
    Calls Try.prog 57 #[.agg #[.slice A n c, .int .i64 s, .int .i64 t], .agg #[.slice B m d, .int .i64 u], .slice D q z] w (CampPost (rsBits xs s t bs u Gs) (rsTorch xs s t bs u Gs) (rsOk xs s t bs u Gs) w) := by
  subst he
  exact implRoundsAfter_any A n c xs s t B m d bs u D q z gs w hA hx hn hB hy hm hD hz hq
end Go.Proofs.Ytifaadjbkbdbnaa

namespace Go.Proofs.Ytifaadjbkbdbnaa
open Go.RowKit

set_option maxHeartbeats 800000 in
set_option linter.unusedVariables false in
theorem lawRoundsAfter_big0 (A0 : Option Addr) (n0 c0 : Nat) (x0 : List Int) (k0 : Int) (k1 : Int) (A1 : Option Addr) (n1 c1 : Nat) (x1 : List Bool) (k2 : Int) (A2 : Option Addr) (n2 c2 : Nat) (x2 : List GridV) (w : World) (h0 : Holds w A0 (nums x0)) (hx0 : x0.length = n0) (hn0 : n0 ≤ 9223372036854775807) (h1 : Holds w A1 (bits x1)) (hx1 : x1.length = n1) (hn1 : n1 ≤ 9223372036854775807) (h2 : Cube w A2 x2) (hx2 : x2.length = n2) (hn2 : n2 ≤ 9223372036854775807)  (hbig : 1048576 - (n0 : Int) < 0) :
    Calls Try.prog 10 #[.agg #[.slice A0 n0 c0, .int .i64 k0, .int .i64 k1], .agg #[.slice A1 n1 c1, .int .i64 k2], .slice A2 n2 c2] w fun e w' => e = .returned (.bool true) ∧ Below w.heap.size w w' := by
  have hb0 := ((Whole.fresh w 45 #[.slice A0 n0 c0, .int .i64 k0, .int .i64 k1]).alloc (.cells #[.slice A1 n1 c1, .int .i64 k2] 53))
  have hb1 := (Whole.fresh (w.alloc (.cells #[.slice A0 n0 c0, .int .i64 k0, .int .i64 k1] 45)) 53 #[.slice A1 n1 c1, .int .i64 k2])
  simp only [World.size_alloc] at hb1
  have ht := below2 w (.cells #[.slice A0 n0 c0, .int .i64 k0, .int .i64 k1] 45) (.cells #[.slice A1 n1 c1, .int .i64 k2] 53)
  have HX0 := Lib.hid hx0
  have HX1 := Lib.hid hx1
  have HX2 := Lib.hid hx2
  clear hx0 hx1 hx2
  obtain ⟨hb0_0, hb0_1, hb0_2⟩ := hb0.cells3
  have hb0_l := hb0.lt
  obtain ⟨hb1_0, hb1_1⟩ := hb1.cells2
  have hb1_l := hb1.lt
  go_enter Try.func10, Try.ntmps10
  go_wp2_with fail
  refine (szNight_any A0 n0 c0 k0 k1 (1048576) _ (by omega) (by omega) (by omega)).mono ?_
  rintro e v1 ⟨rfl, hb⟩
  rw [if_pos (by omega)]
  have hz1 : w.heap.size + 1 + 1 ≤ v1.heap.size := by have := hb.size; simpa using this
  replace ht := below_then ht hb ht.size
  replace hb0 := hb0.below hb
  replace hb1 := hb1.below hb
  clear hb
  clear hb0_0 hb0_1 hb0_2 hb0_l hb1_0 hb1_1 hb1_l
  go_wp2
  go_ret
  exact ⟨rfl, ht⟩

set_option maxHeartbeats 800000 in
set_option linter.unusedVariables false in
theorem lawRoundsAfter_big1 (A0 : Option Addr) (n0 c0 : Nat) (x0 : List Int) (k0 : Int) (k1 : Int) (A1 : Option Addr) (n1 c1 : Nat) (x1 : List Bool) (k2 : Int) (A2 : Option Addr) (n2 c2 : Nat) (x2 : List GridV) (w : World) (h0 : Holds w A0 (nums x0)) (hx0 : x0.length = n0) (hn0 : n0 ≤ 9223372036854775807) (h1 : Holds w A1 (bits x1)) (hx1 : x1.length = n1) (hn1 : n1 ≤ 9223372036854775807) (h2 : Cube w A2 x2) (hx2 : x2.length = n2) (hn2 : n2 ≤ 9223372036854775807) (g0 : 0 ≤ 1048576 - (n0 : Int)) (hbig : 1048576 - (n0 : Int) - (n1 : Int) < 0) :
    Calls Try.prog 10 #[.agg #[.slice A0 n0 c0, .int .i64 k0, .int .i64 k1], .agg #[.slice A1 n1 c1, .int .i64 k2], .slice A2 n2 c2] w fun e w' => e = .returned (.bool true) ∧ Below w.heap.size w w' := by
  have hb0 := ((Whole.fresh w 45 #[.slice A0 n0 c0, .int .i64 k0, .int .i64 k1]).alloc (.cells #[.slice A1 n1 c1, .int .i64 k2] 53))
  have hb1 := (Whole.fresh (w.alloc (.cells #[.slice A0 n0 c0, .int .i64 k0, .int .i64 k1] 45)) 53 #[.slice A1 n1 c1, .int .i64 k2])
  simp only [World.size_alloc] at hb1
  have ht := below2 w (.cells #[.slice A0 n0 c0, .int .i64 k0, .int .i64 k1] 45) (.cells #[.slice A1 n1 c1, .int .i64 k2] 53)
  have HX0 := Lib.hid hx0
  have HX1 := Lib.hid hx1
  have HX2 := Lib.hid hx2
  clear hx0 hx1 hx2
  obtain ⟨hb0_0, hb0_1, hb0_2⟩ := hb0.cells3
  have hb0_l := hb0.lt
  obtain ⟨hb1_0, hb1_1⟩ := hb1.cells2
  have hb1_l := hb1.lt
  go_enter Try.func10, Try.ntmps10
  go_wp2_with fail
  refine (szNight_any A0 n0 c0 k0 k1 (1048576) _ (by omega) (by omega) (by omega)).mono ?_
  rintro e v1 ⟨rfl, hb⟩
  rw [if_neg (by omega)]
  have hz1 : w.heap.size + 1 + 1 ≤ v1.heap.size := by have := hb.size; simpa using this
  replace ht := below_then ht hb ht.size
  replace hb0 := hb0.below hb
  replace hb1 := hb1.below hb
  clear hb
  clear hb0_0 hb0_1 hb0_2 hb0_l hb1_0 hb1_1 hb1_l
  obtain ⟨hb0_0, hb0_1, hb0_2⟩ := hb0.cells3
  have hb0_l := hb0.lt
  obtain ⟨hb1_0, hb1_1⟩ := hb1.cells2
  have hb1_l := hb1.lt
  go_wp2_with fail
  refine (szCamp_any A1 n1 c1 k2 (1048576 - (n0 : Int)) _ (by omega) (by omega) (by omega)).mono ?_
  rintro e v2 ⟨rfl, hb⟩
  rw [if_pos (by omega)]
  have hz2 : v1.heap.size ≤ v2.heap.size := by have := hb.size; simpa using this
  replace ht := below_then ht hb ht.size
  replace hb0 := hb0.below hb
  replace hb1 := hb1.below hb
  clear hb
  clear hb0_0 hb0_1 hb0_2 hb0_l hb1_0 hb1_1 hb1_l
  go_wp2
  go_ret
  exact ⟨rfl, ht⟩

set_option maxHeartbeats 800000 in
set_option linter.unusedVariables false in
theorem lawRoundsAfter_big2 (A0 : Option Addr) (n0 c0 : Nat) (x0 : List Int) (k0 : Int) (k1 : Int) (A1 : Option Addr) (n1 c1 : Nat) (x1 : List Bool) (k2 : Int) (A2 : Option Addr) (n2 c2 : Nat) (x2 : List GridV) (w : World) (h0 : Holds w A0 (nums x0)) (hx0 : x0.length = n0) (hn0 : n0 ≤ 9223372036854775807) (h1 : Holds w A1 (bits x1)) (hx1 : x1.length = n1) (hn1 : n1 ≤ 9223372036854775807) (h2 : Cube w A2 x2) (hx2 : x2.length = n2) (hn2 : n2 ≤ 9223372036854775807) (g0 : 0 ≤ 1048576 - (n0 : Int)) (g1 : 0 ≤ 1048576 - (n0 : Int) - (n1 : Int)) (hbig : 1048576 - (n0 : Int) - (n1 : Int) - (totalC x2 : Int) < 0) :
    Calls Try.prog 10 #[.agg #[.slice A0 n0 c0, .int .i64 k0, .int .i64 k1], .agg #[.slice A1 n1 c1, .int .i64 k2], .slice A2 n2 c2] w fun e w' => e = .returned (.bool true) ∧ Below w.heap.size w w' := by
  have hb0 := ((Whole.fresh w 45 #[.slice A0 n0 c0, .int .i64 k0, .int .i64 k1]).alloc (.cells #[.slice A1 n1 c1, .int .i64 k2] 53))
  have hb1 := (Whole.fresh (w.alloc (.cells #[.slice A0 n0 c0, .int .i64 k0, .int .i64 k1] 45)) 53 #[.slice A1 n1 c1, .int .i64 k2])
  simp only [World.size_alloc] at hb1
  have ht := below2 w (.cells #[.slice A0 n0 c0, .int .i64 k0, .int .i64 k1] 45) (.cells #[.slice A1 n1 c1, .int .i64 k2] 53)
  have HX0 := Lib.hid hx0
  have HX1 := Lib.hid hx1
  have HX2 := Lib.hid hx2
  clear hx0 hx1 hx2
  obtain ⟨hb0_0, hb0_1, hb0_2⟩ := hb0.cells3
  have hb0_l := hb0.lt
  obtain ⟨hb1_0, hb1_1⟩ := hb1.cells2
  have hb1_l := hb1.lt
  go_enter Try.func10, Try.ntmps10
  go_wp2_with fail
  refine (szNight_any A0 n0 c0 k0 k1 (1048576) _ (by omega) (by omega) (by omega)).mono ?_
  rintro e v1 ⟨rfl, hb⟩
  rw [if_neg (by omega)]
  have hz1 : w.heap.size + 1 + 1 ≤ v1.heap.size := by have := hb.size; simpa using this
  replace ht := below_then ht hb ht.size
  replace hb0 := hb0.below hb
  replace hb1 := hb1.below hb
  clear hb
  clear hb0_0 hb0_1 hb0_2 hb0_l hb1_0 hb1_1 hb1_l
  obtain ⟨hb0_0, hb0_1, hb0_2⟩ := hb0.cells3
  have hb0_l := hb0.lt
  obtain ⟨hb1_0, hb1_1⟩ := hb1.cells2
  have hb1_l := hb1.lt
  go_wp2_with fail
  refine (szCamp_any A1 n1 c1 k2 (1048576 - (n0 : Int)) _ (by omega) (by omega) (by omega)).mono ?_
  rintro e v2 ⟨rfl, hb⟩
  rw [if_neg (by omega)]
  have hz2 : v1.heap.size ≤ v2.heap.size := by have := hb.size; simpa using this
  replace ht := below_then ht hb ht.size
  replace hb0 := hb0.below hb
  replace hb1 := hb1.below hb
  clear hb
  clear hb0_0 hb0_1 hb0_2 hb0_l hb1_0 hb1_1 hb1_l
  obtain ⟨hb0_0, hb0_1, hb0_2⟩ := hb0.cells3
  have hb0_l := hb0.lt
  obtain ⟨hb1_0, hb1_1⟩ := hb1.cells2
  have hb1_l := hb1.lt
  go_wp2_with fail
  refine (szIntSSS_any A2 n2 c2 x2 (1048576 - (n0 : Int) - (n1 : Int)) _ (by exact h2.below ht) HX2.out (by omega) (by omega) (by omega)).mono ?_
  rintro e v3 ⟨rfl, rfl⟩
  rw [cubeLeft, if_pos (by omega)]
  clear hb0_0 hb0_1 hb0_2 hb0_l hb1_0 hb1_1 hb1_l
  go_wp2
  go_ret
  exact ⟨rfl, ht⟩

set_option maxHeartbeats 12800000 in
set_option maxRecDepth 100000 in
set_option linter.unusedSimpArgs false in
set_option linter.unusedVariables false in
theorem lawRoundsAfter_small (A0 : Option Addr) (n0 c0 : Nat) (x0 : List Int) (k0 : Int) (k1 : Int) (A1 : Option Addr) (n1 c1 : Nat) (x1 : List Bool) (k2 : Int) (A2 : Option Addr) (n2 c2 : Nat) (x2 : List GridV) (w : World) (h0 : Holds w A0 (nums x0)) (hx0 : x0.length = n0) (hn0 : n0 ≤ 9223372036854775807) (h1 : Holds w A1 (bits x1)) (hx1 : x1.length = n1) (hn1 : n1 ≤ 9223372036854775807) (h2 : Cube w A2 x2) (hx2 : x2.length = n2) (hn2 : n2 ≤ 9223372036854775807) (g0 : 0 ≤ 1048576 - (n0 : Int)) (g1 : 0 ≤ 1048576 - (n0 : Int) - (n1 : Int)) (g2 : 0 ≤ 1048576 - (n0 : Int) - (n1 : Int) - (totalC x2 : Int)) :
    Calls Try.prog 10 #[.agg #[.slice A0 n0 c0, .int .i64 k0, .int .i64 k1], .agg #[.slice A1 n1 c1, .int .i64 k2], .slice A2 n2 c2] w fun e w' => e = .returned (.bool true) ∧ Below w.heap.size w w' := by
  have hb0 := ((Whole.fresh w 45 #[.slice A0 n0 c0, .int .i64 k0, .int .i64 k1]).alloc (.cells #[.slice A1 n1 c1, .int .i64 k2] 53))
  have hb1 := (Whole.fresh (w.alloc (.cells #[.slice A0 n0 c0, .int .i64 k0, .int .i64 k1] 45)) 53 #[.slice A1 n1 c1, .int .i64 k2])
  simp only [World.size_alloc] at hb1
  have ht := below2 w (.cells #[.slice A0 n0 c0, .int .i64 k0, .int .i64 k1] 45) (.cells #[.slice A1 n1 c1, .int .i64 k2] 53)
  have HX0 := Lib.hid hx0
  have HX1 := Lib.hid hx1
  have HX2 := Lib.hid hx2
  clear hx0 hx1 hx2
  have hlen : ((rsBits x0 k0 k1 x1 k2 (cubeNums x2))).length ≤ 1048576 := (Nat.le_trans rsBits_le (by have := HX1.out; omega))
  obtain ⟨hb0_0, hb0_1, hb0_2⟩ := hb0.cells3
  have hb0_l := hb0.lt
  obtain ⟨hb1_0, hb1_1⟩ := hb1.cells2
  have hb1_l := hb1.lt
  go_enter Try.func10, Try.ntmps10
  -- region 2
  go_wp2_with fail
  refine (szNight_any A0 n0 c0 k0 k1 (1048576) _ (by omega) (by omega) (by omega)).mono ?_
  rintro e v1 ⟨rfl, hb⟩
  rw [if_neg (by omega)]
  have hz1 : w.heap.size + 1 + 1 ≤ v1.heap.size := by have := hb.size; simpa using this
  replace ht := below_then ht hb ht.size
  replace hb0 := hb0.below hb
  replace hb1 := hb1.below hb
  clear hb
  clear hb0_0 hb0_1 hb0_2 hb0_l hb1_0 hb1_1 hb1_l
  obtain ⟨hb0_0, hb0_1, hb0_2⟩ := hb0.cells3
  have hb0_l := hb0.lt
  obtain ⟨hb1_0, hb1_1⟩ := hb1.cells2
  have hb1_l := hb1.lt
  -- region 5
  go_wp2_with fail
  refine (szCamp_any A1 n1 c1 k2 (1048576 - (n0 : Int)) _ (by omega) (by omega) (by omega)).mono ?_
  rintro e v2 ⟨rfl, hb⟩
  rw [if_neg (by omega)]
  have hz2 : v1.heap.size ≤ v2.heap.size := by have := hb.size; simpa using this
  replace ht := below_then ht hb ht.size
  replace hb0 := hb0.below hb
  replace hb1 := hb1.below hb
  clear hb
  clear hb0_0 hb0_1 hb0_2 hb0_l hb1_0 hb1_1 hb1_l
  obtain ⟨hb0_0, hb0_1, hb0_2⟩ := hb0.cells3
  have hb0_l := hb0.lt
  obtain ⟨hb1_0, hb1_1⟩ := hb1.cells2
  have hb1_l := hb1.lt
  -- region 8
  go_wp2_with fail
  refine (szIntSSS_any A2 n2 c2 x2 (1048576 - (n0 : Int) - (n1 : Int)) _ (by exact h2.below ht) HX2.out (by omega) (by omega) (by omega)).mono ?_
  rintro e v3 ⟨rfl, rfl⟩
  rw [cubeLeft, if_neg (by omega)]
  clear hb0_0 hb0_1 hb0_2 hb0_l hb1_0 hb1_1 hb1_l
  obtain ⟨hb0_0, hb0_1, hb0_2⟩ := hb0.cells3
  have hb0_l := hb0.lt
  obtain ⟨hb1_0, hb1_1⟩ := hb1.cells2
  have hb1_l := hb1.lt
  -- region 11
  have hbzphb0 := hb0.lt
  have hbzphb1 := hb1.lt
  go_upto_region 11 with fail
  go_cut [8, 9] (fun s8 s9 wx => ResMid 56 4 (fun A q => #[.slice A ((rsBits x0 k0 k1 x1 k2 (cubeNums x2))).length q, .int .i64 (rsTorch x0 k0 k1 x1 k2 (cubeNums x2))]) (bits ((rsBits x0 k0 k1 x1 k2 (cubeNums x2)))) (rsOk x0 k0 k1 x1 k2 (cubeNums x2)) v2 s8 s9 wx)
  case first =>
    go_region_held3 (fun w' => w'.cell? ⟨w.heap.size, 0, none⟩ = some (.slice A0 n0 c0) ∧ w'.cell? ⟨w.heap.size, 1, none⟩ = some (.int .i64 k0) ∧ w'.cell? ⟨w.heap.size, 2, none⟩ = some (.int .i64 k1) ∧ w'.cell? ⟨w.heap.size + 1, 0, none⟩ = some (.slice A1 n1 c1) ∧ w'.cell? ⟨w.heap.size + 1, 1, none⟩ = some (.int .i64 k2)) (go_keep)
      (first | (go_at_call 30; first | (refine (toNight_own A0 n0 c0 x0 k0 k1 _ (by exact h0.below (below_then ht (Below.refl v2.heap.size v2).drew ht.size)) HX0.out (by omega)).mono ?_; rintro e wp0 ⟨gp0, rfl, hgp0, hwp0, hbp0⟩; have hcp0 := below_then (Below.refl v2.heap.size v2).drew hbp0 (Nat.le_refl _); have hzp0 := hcp0.size; (try (replace hbox := hbox.below hbp0; clear x0_ x1_ x2_ x3_; obtain ⟨x0_, x1_, x2_, x3_⟩ := hbox.two)); obtain ⟨kp0hb0_0, kp0hb0_1, kp0hb0_2⟩ := (hb0.below hcp0).cells3; obtain ⟨kp0hb1_0, kp0hb1_1⟩ := (hb1.below hcp0).cells2) | (have hbox := Whole.fresh v2 56 #[.slice none 0 0, .int .i64 0]; replace hbox := hbox.drew; refine (toNight_own A0 n0 c0 x0 k0 k1 _ (by exact h0.below (below_then ht ((Below.refl v2.heap.size v2).alloc (Nat.le_refl _) (.cells #[.slice none 0 0, .int .i64 0] 56)).drew ht.size)) HX0.out (by omega)).mono ?_; rintro e wp0 ⟨gp0, rfl, hgp0, hwp0, hbp0⟩; have hcp0 := below_then ((Below.refl v2.heap.size v2).alloc (Nat.le_refl _) (.cells #[.slice none 0 0, .int .i64 0] 56)).drew hbp0 (by simp); have hzp0 := hcp0.size; have hy0_ : w.heap.size < v2.heap.size := (by omega); have hn0_ : ¬ v2.heap.size = w.heap.size := (by omega); have hv0_ : ¬ w.heap.size = v2.heap.size := (by omega); have hy1_ : w.heap.size + 1 < v2.heap.size := (by omega); have hn1_ : ¬ v2.heap.size = w.heap.size + 1 := (by omega); have hv1_ : ¬ w.heap.size + 1 = v2.heap.size := (by omega); replace hbox := hbox.below hbp0; obtain ⟨x0_, x1_, x2_, x3_⟩ := hbox.two; obtain ⟨kp0hb0_0, kp0hb0_1, kp0hb0_2⟩ := (hb0.below hcp0).cells3; obtain ⟨kp0hb1_0, kp0hb1_1⟩ := (hb1.below hcp0).cells2)) | (go_at_call 35; first | (refine (toCamp_own A1 n1 c1 x1 k2 _ (by exact h1.below (below_then ht hcp0 ht.size)) HX1.out (by omega)).mono ?_; rintro e wp1 ⟨gp1, rfl, hgp1, hwp1, hbp1⟩; have hcp1 := below_then hcp0 hbp1 hcp0.size; have hzp1 := hcp1.size; replace hwp0 := hwp0.below hbp1; (try (replace hbox := hbox.below hbp1; clear x0_ x1_ x2_ x3_; obtain ⟨x0_, x1_, x2_, x3_⟩ := hbox.two)); obtain ⟨kp1hb0_0, kp1hb0_1, kp1hb0_2⟩ := (hb0.below hcp1).cells3; obtain ⟨kp1hb1_0, kp1hb1_1⟩ := (hb1.below hcp1).cells2) | (have hbox := Whole.fresh wp0 56 #[.slice none 0 0, .int .i64 0]; refine (toCamp_own A1 n1 c1 x1 k2 _ (by exact h1.below (below_then ht (hcp0.alloc hcp0.size (.cells #[.slice none 0 0, .int .i64 0] 56)) ht.size)) HX1.out (by omega)).mono ?_; rintro e wp1 ⟨gp1, rfl, hgp1, hwp1, hbp1⟩; have hcp1 := below_then (hcp0.alloc hcp0.size (.cells #[.slice none 0 0, .int .i64 0] 56)) hbp1 (Nat.le_trans hcp0.size (by simp)); have hzp1 := hcp1.size; replace hwp0 := (hwp0.alloc (.cells #[.slice none 0 0, .int .i64 0] 56)).below hbp1; have hy0_ : w.heap.size < wp0.heap.size := (by omega); have hn0_ : ¬ wp0.heap.size = w.heap.size := (by omega); have hv0_ : ¬ w.heap.size = wp0.heap.size := (by omega); have hy1_ : w.heap.size + 1 < wp0.heap.size := (by omega); have hn1_ : ¬ wp0.heap.size = w.heap.size + 1 := (by omega); have hv1_ : ¬ w.heap.size + 1 = wp0.heap.size := (by omega); replace hbox := hbox.below hbp1; obtain ⟨x0_, x1_, x2_, x3_⟩ := hbox.two; obtain ⟨kp1hb0_0, kp1hb0_1, kp1hb0_2⟩ := (hb0.below hcp1).cells3; obtain ⟨kp1hb1_0, kp1hb1_1⟩ := (hb1.below hcp1).cells2)) | (go_at_call 56; first | (refine (toIntSSS_any A2 n2 c2 x2 _ (by exact h2.below (below_then ht hcp1 ht.size)) HX2.out (by omega)).mono ?_; rintro e wp2 ⟨gp2, wsp2, rfl, hgp2, hwp2, hep2, hlp2, hbp2⟩; have HEp2 := Lib.hid hep2; have HLp2 := Lib.hid hlp2; clear hep2 hlp2; have hcp2 := below_then hcp1 hbp2 hcp1.size; have hzp2 := hcp2.size; replace hwp0 := hwp0.below hbp2; replace hwp1 := hwp1.below hbp2; (try (replace hbox := hbox.below hbp2; clear x0_ x1_ x2_ x3_; obtain ⟨x0_, x1_, x2_, x3_⟩ := hbox.two)); obtain ⟨kp2hb0_0, kp2hb0_1, kp2hb0_2⟩ := (hb0.below hcp2).cells3; obtain ⟨kp2hb1_0, kp2hb1_1⟩ := (hb1.below hcp2).cells2) | (have hbox := Whole.fresh wp1 56 #[.slice none 0 0, .int .i64 0]; refine (toIntSSS_any A2 n2 c2 x2 _ (by exact h2.below (below_then ht (hcp1.alloc hcp1.size (.cells #[.slice none 0 0, .int .i64 0] 56)) ht.size)) HX2.out (by omega)).mono ?_; rintro e wp2 ⟨gp2, wsp2, rfl, hgp2, hwp2, hep2, hlp2, hbp2⟩; have HEp2 := Lib.hid hep2; have HLp2 := Lib.hid hlp2; clear hep2 hlp2; have hcp2 := below_then (hcp1.alloc hcp1.size (.cells #[.slice none 0 0, .int .i64 0] 56)) hbp2 (Nat.le_trans hcp1.size (by simp)); have hzp2 := hcp2.size; replace hwp0 := (hwp0.alloc (.cells #[.slice none 0 0, .int .i64 0] 56)).below hbp2; replace hwp1 := (hwp1.alloc (.cells #[.slice none 0 0, .int .i64 0] 56)).below hbp2; have hy0_ : w.heap.size < wp1.heap.size := (by omega); have hn0_ : ¬ wp1.heap.size = w.heap.size := (by omega); have hv0_ : ¬ w.heap.size = wp1.heap.size := (by omega); have hy1_ : w.heap.size + 1 < wp1.heap.size := (by omega); have hn1_ : ¬ wp1.heap.size = w.heap.size + 1 := (by omega); have hv1_ : ¬ w.heap.size + 1 = wp1.heap.size := (by omega); replace hbox := hbox.below hbp2; obtain ⟨x0_, x1_, x2_, x3_⟩ := hbox.two; obtain ⟨kp2hb0_0, kp2hb0_1, kp2hb0_2⟩ := (hb0.below hcp2).cells3; obtain ⟨kp2hb1_0, kp2hb1_1⟩ := (hb1.below hcp2).cells2)) | (go_at_call 55; first | ((try (have hbxl := hbox.lt)); refine (specRoundsAfter_on _ n0 _ x0 k0 k1 _ n1 _ x1 k2 _ n2 _ wsp2 _ (by exact hwp0.holds) HX0.out (by omega) (by exact hwp1.holds) HX1.out (by omega) (by exact hwp2.cube) HLp2.out (by omega) hwp2.small (cubeNums x2) HEp2.out).mono ?_; rintro e wps ⟨A0, q0, rfl, hF0_, hbps⟩; have hcps := below_then hcp2 hbps hcp2.size; have hzps := hcps.size; replace hwp0 := hwp0.below hbps; replace hwp1 := hwp1.below hbps; replace hwp2 := hwp2.below hbps; (try (replace hbox := hbox.below hbps; clear x0_ x1_ x2_ x3_; obtain ⟨x0_, x1_, x2_, x3_⟩ := hbox.two)); obtain ⟨kpshb0_0, kpshb0_1, kpshb0_2⟩ := (hb0.below hcps).cells3; obtain ⟨kpshb1_0, kpshb1_1⟩ := (hb1.below hcps).cells2) | (have hbox := Whole.fresh wp2 56 #[.slice none 0 0, .int .i64 0]; have hbxl := hbox.lt; refine (specRoundsAfter_on _ n0 _ x0 k0 k1 _ n1 _ x1 k2 _ n2 _ wsp2 _ (by exact (hwp0.alloc (.cells #[.slice none 0 0, .int .i64 0] 56)).holds) HX0.out (by omega) (by exact (hwp1.alloc (.cells #[.slice none 0 0, .int .i64 0] 56)).holds) HX1.out (by omega) (by exact (hwp2.alloc (.cells #[.slice none 0 0, .int .i64 0] 56)).cube) HLp2.out (by omega) (hwp2.alloc (.cells #[.slice none 0 0, .int .i64 0] 56)).small (cubeNums x2) HEp2.out).mono ?_; rintro e wps ⟨A0, q0, rfl, hF0_, hbps⟩; have hcps := below_then (hcp2.alloc hcp2.size (.cells #[.slice none 0 0, .int .i64 0] 56)) hbps (Nat.le_trans hcp2.size (by simp)); have hzps := hcps.size; replace hwp0 := (hwp0.alloc (.cells #[.slice none 0 0, .int .i64 0] 56)).below hbps; replace hwp1 := (hwp1.alloc (.cells #[.slice none 0 0, .int .i64 0] 56)).below hbps; replace hwp2 := (hwp2.alloc (.cells #[.slice none 0 0, .int .i64 0] 56)).below hbps; have hy0_ : w.heap.size < wp2.heap.size := (by omega); have hn0_ : ¬ wp2.heap.size = w.heap.size := (by omega); have hv0_ : ¬ w.heap.size = wp2.heap.size := (by omega); have hy1_ : w.heap.size + 1 < wp2.heap.size := (by omega); have hn1_ : ¬ wp2.heap.size = w.heap.size + 1 := (by omega); have hv1_ : ¬ w.heap.size + 1 = wp2.heap.size := (by omega); replace hbox := hbox.below hbps; obtain ⟨x0_, x1_, x2_, x3_⟩ := hbox.two; obtain ⟨kpshb0_0, kpshb0_1, kpshb0_2⟩ := (hb0.below hcps).cells3; obtain ⟨kpshb1_0, kpshb1_1⟩ := (hb1.below hcps).cells2)))
    all_goals (go_wp2_with fail; go_meet)
    all_goals first | exact ResMid.first hcps (by first | omega | (simp; omega)) hF0_ (by first | omega | (simp; omega)) (by first | omega | (simp; omega)) hbox rfl | exact ResMid.last hcps (by first | omega | (simp; omega)) hF0_
  obtain ⟨wkp, rfl⟩ : ∃ W : World, W = wc := ⟨_, rfl⟩
  obtain ⟨grp, B0, q0, lop, hip, rfl, rfl, hgrp, hglp, hlop, hdp, hhip, hR0, hF0, hb⟩ := hcut
  have hz3 : v2.heap.size ≤ wkp.heap.size := by have := hb.size; simpa using this
  replace ht := below_then ht hb ht.size
  replace hb0 := hb0.below hb
  replace hb1 := hb1.below hb
  clear hb
  replace hR0 : Whole wkp grp 56 #[.slice B0 ((rsBits x0 k0 k1 x1 k2 (cubeNums x2))).length q0, .int .i64 (rsTorch x0 k0 k1 x1 k2 (cubeNums x2))] := hR0
  clear hb0_0 hb0_1 hb0_2 hb0_l hb1_0 hb1_1 hb1_l
  obtain ⟨hb0_0, hb0_1, hb0_2⟩ := hb0.cells3
  have hb0_l := hb0.lt
  obtain ⟨hb1_0, hb1_1⟩ := hb1.cells2
  have hb1_l := hb1.lt
  obtain ⟨hR0_0, hR0_1⟩ := hR0.cells2
  have hR0_l := hR0.lt
  -- region 12
  go_wp2_with fail
  refine (toNight_own A0 n0 c0 x0 k0 k1 _ (by exact h0.below ht) HX0.out (by omega)).mono ?_
  rintro e v3 ⟨gx0, rfl, hgx0, hwx0, hb⟩
  have hz4 : wkp.heap.size ≤ v3.heap.size := by have := hb.size; simpa using this
  replace ht := below_then ht hb ht.size
  replace hb0 := hb0.below hb
  replace hb1 := hb1.below hb
  replace hR0 := hR0.below hb
  replace hF0 := hF0.below hb
  have hx0 := Fresh.of_whole (lo := wkp.heap.size) (hi := v3.heap.size) hwx0 (by simpa using hgx0) hwx0.lt
  clear hgx0 hwx0
  clear hb
  have hx90 := Whole.fresh v3 48 #[.slice (some ⟨gx0, 0, none⟩) n0 n0, .int .i64 k0, .int .i64 k1]
  replace ht := ht.alloc ht.size (.cells #[.slice (some ⟨gx0, 0, none⟩) n0 n0, .int .i64 k0, .int .i64 k1] 48)
  replace hb0 := hb0.alloc (.cells #[.slice (some ⟨gx0, 0, none⟩) n0 n0, .int .i64 k0, .int .i64 k1] 48)
  replace hb1 := hb1.alloc (.cells #[.slice (some ⟨gx0, 0, none⟩) n0 n0, .int .i64 k0, .int .i64 k1] 48)
  replace hR0 := hR0.alloc (.cells #[.slice (some ⟨gx0, 0, none⟩) n0 n0, .int .i64 k0, .int .i64 k1] 48)
  replace hF0 := hF0.alloc (.cells #[.slice (some ⟨gx0, 0, none⟩) n0 n0, .int .i64 k0, .int .i64 k1] 48)
  replace hx0 := hx0.alloc (.cells #[.slice (some ⟨gx0, 0, none⟩) n0 n0, .int .i64 k0, .int .i64 k1] 48)
  clear hb0_0 hb0_1 hb0_2 hb0_l hb1_0 hb1_1 hb1_l hR0_0 hR0_1 hR0_l
  obtain ⟨hb0_0, hb0_1, hb0_2⟩ := hb0.cells3
  have hb0_l := hb0.lt
  obtain ⟨hb1_0, hb1_1⟩ := hb1.cells2
  have hb1_l := hb1.lt
  obtain ⟨hR0_0, hR0_1⟩ := hR0.cells2
  have hR0_l := hR0.lt
  obtain ⟨hx90_0, hx90_1, hx90_2⟩ := hx90.cells3
  have hx90_l := hx90.lt
  -- region 13
  go_wp2_with fail
  refine (toCamp_own A1 n1 c1 x1 k2 _ (by exact h1.below ht) HX1.out (by omega)).mono ?_
  rintro e v4 ⟨gx1, rfl, hgx1, hwx1, hb⟩
  have hz5 : v3.heap.size + 1 ≤ v4.heap.size := by have := hb.size; simpa using this
  replace ht := below_then ht hb ht.size
  replace hb0 := hb0.below hb
  replace hb1 := hb1.below hb
  replace hR0 := hR0.below hb
  replace hF0 := hF0.below hb
  replace hx0 := hx0.below hb
  replace hx90 := hx90.below hb
  have hx1 := Fresh.of_whole (lo := v3.heap.size + 1) (hi := v4.heap.size) hwx1 (by simpa using hgx1) hwx1.lt
  clear hgx1 hwx1
  clear hb
  have hx91 := Whole.fresh v4 56 #[.slice (some ⟨gx1, 0, none⟩) n1 n1, .int .i64 k2]
  replace ht := ht.alloc ht.size (.cells #[.slice (some ⟨gx1, 0, none⟩) n1 n1, .int .i64 k2] 56)
  replace hb0 := hb0.alloc (.cells #[.slice (some ⟨gx1, 0, none⟩) n1 n1, .int .i64 k2] 56)
  replace hb1 := hb1.alloc (.cells #[.slice (some ⟨gx1, 0, none⟩) n1 n1, .int .i64 k2] 56)
  replace hR0 := hR0.alloc (.cells #[.slice (some ⟨gx1, 0, none⟩) n1 n1, .int .i64 k2] 56)
  replace hF0 := hF0.alloc (.cells #[.slice (some ⟨gx1, 0, none⟩) n1 n1, .int .i64 k2] 56)
  replace hx0 := hx0.alloc (.cells #[.slice (some ⟨gx1, 0, none⟩) n1 n1, .int .i64 k2] 56)
  replace hx90 := hx90.alloc (.cells #[.slice (some ⟨gx1, 0, none⟩) n1 n1, .int .i64 k2] 56)
  replace hx1 := hx1.alloc (.cells #[.slice (some ⟨gx1, 0, none⟩) n1 n1, .int .i64 k2] 56)
  clear hb0_0 hb0_1 hb0_2 hb0_l hb1_0 hb1_1 hb1_l hR0_0 hR0_1 hR0_l hx90_0 hx90_1 hx90_2 hx90_l
  obtain ⟨hb0_0, hb0_1, hb0_2⟩ := hb0.cells3
  have hb0_l := hb0.lt
  obtain ⟨hb1_0, hb1_1⟩ := hb1.cells2
  have hb1_l := hb1.lt
  obtain ⟨hR0_0, hR0_1⟩ := hR0.cells2
  have hR0_l := hR0.lt
  obtain ⟨hx90_0, hx90_1, hx90_2⟩ := hx90.cells3
  have hx90_l := hx90.lt
  obtain ⟨hx91_0, hx91_1⟩ := hx91.cells2
  have hx91_l := hx91.lt
  -- region 14
  go_wp2_with fail
  refine (toIntSSS_any A2 n2 c2 x2 _ (by exact h2.below ht) HX2.out (by omega)).mono ?_
  rintro e v5 ⟨gx2, wsx2, rfl, hgx2, hwx2, hex2, hlx2, hb⟩
  have hz6 : v4.heap.size + 1 ≤ v5.heap.size := by have := hb.size; simpa using this
  replace ht := below_then ht hb ht.size
  replace hb0 := hb0.below hb
  replace hb1 := hb1.below hb
  replace hR0 := hR0.below hb
  replace hF0 := hF0.below hb
  replace hx0 := hx0.below hb
  replace hx90 := hx90.below hb
  replace hx1 := hx1.below hb
  replace hx91 := hx91.below hb
  have HEx2 := Lib.hid hex2
  have HLx2 := Lib.hid hlx2
  clear hex2 hlx2
  have hx2 := hwx2
  have hgcx2 : v4.heap.size + 1 ≤ gx2 := by simpa using hgx2
  have hcapx2 : n2 ≤ 1048576 := by have := totalC_len x2; have := HX2.out; omega
  clear hgx2 hwx2
  clear hb
  clear hb0_0 hb0_1 hb0_2 hb0_l hb1_0 hb1_1 hb1_l hR0_0 hR0_1 hR0_l hx90_0 hx90_1 hx90_2 hx90_l hx91_0 hx91_1 hx91_l
  obtain ⟨hb0_0, hb0_1, hb0_2⟩ := hb0.cells3
  have hb0_l := hb0.lt
  obtain ⟨hb1_0, hb1_1⟩ := hb1.cells2
  have hb1_l := hb1.lt
  obtain ⟨hR0_0, hR0_1⟩ := hR0.cells2
  have hR0_l := hR0.lt
  obtain ⟨hx90_0, hx90_1, hx90_2⟩ := hx90.cells3
  have hx90_l := hx90.lt
  obtain ⟨hx91_0, hx91_1⟩ := hx91.cells2
  have hx91_l := hx91.lt
  -- region 15
  go_wp2_with fail
  refine (implRoundsAfter_on _ n0 _ x0 k0 k1 _ n1 _ x1 k2 _ n2 _ wsx2 _ (by exact hx0.holds) HX0.out (by omega) (by exact hx1.holds) HX1.out (by omega) (by exact hx2.cube) HLx2.out (by omega) (cubeNums x2) HEx2.out).mono ?_
  rintro e v6 ⟨B1, q1, rfl, hF1, hb⟩
  have hz7 : v5.heap.size ≤ v6.heap.size := by have := hb.size; simpa using this
  replace ht := below_then ht hb ht.size
  replace hb0 := hb0.below hb
  replace hb1 := hb1.below hb
  replace hR0 := hR0.below hb
  replace hF0 := hF0.below hb
  replace hx0 := hx0.below hb
  replace hx90 := hx90.below hb
  replace hx1 := hx1.below hb
  replace hx91 := hx91.below hb
  replace hx2 := hx2.below hb
  replace hF1 := hF1.more (lo' := v5.heap.size) (hi' := v6.heap.size) (by simp) (Nat.le_refl _)
  have hR1 := Whole.fresh v6 56 #[.slice B1 ((rsBits x0 k0 k1 x1 k2 (cubeNums x2))).length q1, .int .i64 (rsTorch x0 k0 k1 x1 k2 (cubeNums x2))]
  replace ht := ht.alloc ht.size (.cells #[.slice B1 ((rsBits x0 k0 k1 x1 k2 (cubeNums x2))).length q1, .int .i64 (rsTorch x0 k0 k1 x1 k2 (cubeNums x2))] 56)
  replace hb0 := hb0.alloc (.cells #[.slice B1 ((rsBits x0 k0 k1 x1 k2 (cubeNums x2))).length q1, .int .i64 (rsTorch x0 k0 k1 x1 k2 (cubeNums x2))] 56)
  replace hb1 := hb1.alloc (.cells #[.slice B1 ((rsBits x0 k0 k1 x1 k2 (cubeNums x2))).length q1, .int .i64 (rsTorch x0 k0 k1 x1 k2 (cubeNums x2))] 56)
  replace hR0 := hR0.alloc (.cells #[.slice B1 ((rsBits x0 k0 k1 x1 k2 (cubeNums x2))).length q1, .int .i64 (rsTorch x0 k0 k1 x1 k2 (cubeNums x2))] 56)
  replace hF0 := hF0.alloc (.cells #[.slice B1 ((rsBits x0 k0 k1 x1 k2 (cubeNums x2))).length q1, .int .i64 (rsTorch x0 k0 k1 x1 k2 (cubeNums x2))] 56)
  replace hx0 := hx0.alloc (.cells #[.slice B1 ((rsBits x0 k0 k1 x1 k2 (cubeNums x2))).length q1, .int .i64 (rsTorch x0 k0 k1 x1 k2 (cubeNums x2))] 56)
  replace hx90 := hx90.alloc (.cells #[.slice B1 ((rsBits x0 k0 k1 x1 k2 (cubeNums x2))).length q1, .int .i64 (rsTorch x0 k0 k1 x1 k2 (cubeNums x2))] 56)
  replace hx1 := hx1.alloc (.cells #[.slice B1 ((rsBits x0 k0 k1 x1 k2 (cubeNums x2))).length q1, .int .i64 (rsTorch x0 k0 k1 x1 k2 (cubeNums x2))] 56)
  replace hx91 := hx91.alloc (.cells #[.slice B1 ((rsBits x0 k0 k1 x1 k2 (cubeNums x2))).length q1, .int .i64 (rsTorch x0 k0 k1 x1 k2 (cubeNums x2))] 56)
  replace hx2 := hx2.alloc (.cells #[.slice B1 ((rsBits x0 k0 k1 x1 k2 (cubeNums x2))).length q1, .int .i64 (rsTorch x0 k0 k1 x1 k2 (cubeNums x2))] 56)
  replace hF1 := hF1.alloc (.cells #[.slice B1 ((rsBits x0 k0 k1 x1 k2 (cubeNums x2))).length q1, .int .i64 (rsTorch x0 k0 k1 x1 k2 (cubeNums x2))] 56)
  clear hb
  clear hb0_0 hb0_1 hb0_2 hb0_l hb1_0 hb1_1 hb1_l hR0_0 hR0_1 hR0_l hx90_0 hx90_1 hx90_2 hx90_l hx91_0 hx91_1 hx91_l
  obtain ⟨hb0_0, hb0_1, hb0_2⟩ := hb0.cells3
  have hb0_l := hb0.lt
  obtain ⟨hb1_0, hb1_1⟩ := hb1.cells2
  have hb1_l := hb1.lt
  obtain ⟨hR0_0, hR0_1⟩ := hR0.cells2
  have hR0_l := hR0.lt
  obtain ⟨hx90_0, hx90_1, hx90_2⟩ := hx90.cells3
  have hx90_l := hx90.lt
  obtain ⟨hx91_0, hx91_1⟩ := hx91.cells2
  have hx91_l := hx91.lt
  obtain ⟨hR1_0, hR1_1⟩ := hR1.cells2
  have hR1_l := hR1.lt
  -- region 16
  go_wp2_with fail
  refine (eqCamp_yes B1 B0 ((rsBits x0 k0 k1 x1 k2 (cubeNums x2))).length q1 q0 ((rsBits x0 k0 k1 x1 k2 (cubeNums x2))) (rsTorch x0 k0 k1 x1 k2 (cubeNums x2)) _ (by exact hF1.holds) (by exact hF0.holds) rfl (by omega)).mono ?_
  rintro e v7 ⟨rfl, hb⟩
  have hz8 : v6.heap.size + 1 ≤ v7.heap.size := by have := hb.size; simpa using this
  replace ht := below_then ht hb ht.size
  replace hb0 := hb0.below hb
  replace hb1 := hb1.below hb
  replace hR0 := hR0.below hb
  replace hF0 := hF0.below hb
  replace hx0 := hx0.below hb
  replace hx90 := hx90.below hb
  replace hx1 := hx1.below hb
  replace hx91 := hx91.below hb
  replace hx2 := hx2.below hb
  replace hF1 := hF1.below hb
  replace hR1 := hR1.below hb
  clear hb
  clear hb0_0 hb0_1 hb0_2 hb0_l hb1_0 hb1_1 hb1_l hR0_0 hR0_1 hR0_l hx90_0 hx90_1 hx90_2 hx90_l hx91_0 hx91_1 hx91_l hR1_0 hR1_1 hR1_l
  obtain ⟨hb0_0, hb0_1, hb0_2⟩ := hb0.cells3
  have hb0_l := hb0.lt
  obtain ⟨hb1_0, hb1_1⟩ := hb1.cells2
  have hb1_l := hb1.lt
  obtain ⟨hR0_0, hR0_1⟩ := hR0.cells2
  have hR0_l := hR0.lt
  obtain ⟨hx90_0, hx90_1, hx90_2⟩ := hx90.cells3
  have hx90_l := hx90.lt
  obtain ⟨hx91_0, hx91_1⟩ := hx91.cells2
  have hx91_l := hx91.lt
  obtain ⟨hR1_0, hR1_1⟩ := hR1.cells2
  have hR1_l := hR1.lt
  -- region 18
  clear hb0_0 hb0_1 hb0_2 hb0_l hb1_0 hb1_1 hb1_l hR0_0 hR0_1 hR0_l hx90_0 hx90_1 hx90_2 hx90_l hx91_0 hx91_1 hx91_l hR1_0 hR1_1 hR1_l
  go_wp2_with fail
  refine wp_region_held_drew (S := (fun w' => w'.cell? ⟨w.heap.size, 0, none⟩ = some (.slice A0 n0 c0) ∧ w'.cell? ⟨w.heap.size, 1, none⟩ = some (.int .i64 k0) ∧ w'.cell? ⟨w.heap.size, 2, none⟩ = some (.int .i64 k1) ∧ w'.cell? ⟨w.heap.size + 1, 0, none⟩ = some (.slice A1 n1 c1) ∧ w'.cell? ⟨w.heap.size + 1, 1, none⟩ = some (.int .i64 k2) ∧ w'.cell? ⟨grp, 0, none⟩ = some (.slice B0 ((rsBits x0 k0 k1 x1 k2 (cubeNums x2))).length q0) ∧ w'.cell? ⟨grp, 1, none⟩ = some (.int .i64 (rsTorch x0 k0 k1 x1 k2 (cubeNums x2))) ∧ w'.cell? ⟨v3.heap.size, 0, none⟩ = some (.slice (some ⟨gx0, 0, none⟩) n0 n0) ∧ w'.cell? ⟨v3.heap.size, 1, none⟩ = some (.int .i64 k0) ∧ w'.cell? ⟨v3.heap.size, 2, none⟩ = some (.int .i64 k1) ∧ w'.cell? ⟨v4.heap.size, 0, none⟩ = some (.slice (some ⟨gx1, 0, none⟩) n1 n1) ∧ w'.cell? ⟨v4.heap.size, 1, none⟩ = some (.int .i64 k2) ∧ w'.cell? ⟨v6.heap.size, 0, none⟩ = some (.slice B1 ((rsBits x0 k0 k1 x1 k2 (cubeNums x2))).length q1) ∧ w'.cell? ⟨v6.heap.size, 1, none⟩ = some (.int .i64 (rsTorch x0 k0 k1 x1 k2 (cubeNums x2))))) (by kernel_rfl) ⟨hb0.drew.cell 0, hb0.drew.cell 1, hb0.drew.cell 2, hb1.drew.cell 0, hb1.drew.cell 1, hR0.drew.cell 0, hR0.drew.cell 1, hx90.drew.cell 0, hx90.drew.cell 1, hx90.drew.cell 2, hx91.drew.cell 0, hx91.drew.cell 1, hR1.drew.cell 0, hR1.drew.cell 1⟩ (fun hHeld => ?_)
  replace ht := ht.drew
  replace hb0 := hb0.drew
  replace hb1 := hb1.drew
  replace hR0 := hR0.drew
  replace hF0 := hF0.drew
  replace hx0 := hx0.drew
  replace hx90 := hx90.drew
  replace hx1 := hx1.drew
  replace hx91 := hx91.drew
  replace hx2 := hx2.drew
  replace hF1 := hF1.drew
  replace hR1 := hR1.drew
  refine wpAnyH_take (i := 0) (v := ?_) rfl (by kernel_rfl) (by kernel_rfl) (by kernel_rfl) (fun _ _ _ h => h) (Or.inl ⟨rfl, ?_⟩) hHeld ?_
  rotate_left
  · intro w' hS; obtain ⟨s0, s1, s2, s3, s4, s5, s6, s7, s8, s9, s10, s11, s12, s13⟩ := hS; go_simp <;> with_reducible rfl
  simp only [Act.put, List.getElem_toArray, List.getElem_cons_succ, List.getElem_cons_zero, List.setIfInBounds_toArray, List.set_cons_succ, List.set_cons_zero]
  refine wpAnyH_take (i := 1) (v := ?_) rfl (by kernel_rfl) (by kernel_rfl) (by kernel_rfl) (fun _ _ _ h => h) (Or.inl ⟨rfl, ?_⟩) hHeld ?_
  rotate_left
  · intro w' hS; obtain ⟨s0, s1, s2, s3, s4, s5, s6, s7, s8, s9, s10, s11, s12, s13⟩ := hS; go_simp <;> with_reducible rfl
  simp only [Act.put, List.getElem_toArray, List.getElem_cons_succ, List.getElem_cons_zero, List.setIfInBounds_toArray, List.set_cons_succ, List.set_cons_zero]
  refine wpAnyH_ready (rs := [2]) (by kernel_rfl) (by simp) (AllReadyH.cons rfl (fun K hK => ?_) AllReadyH.nil)
  go_simp
  refine (toNight_own A0 n0 c0 x0 k0 k1 _ (by exact h0.below ht) HX0.out (by omega)).mono ?_
  rintro e v8 ⟨gy0, rfl, hgy0, hwy0, hb⟩
  have hz9 : v7.heap.size ≤ v8.heap.size := by have := hb.size; simpa using this
  replace ht := below_then ht hb ht.size
  replace hb0 := hb0.below hb
  replace hb1 := hb1.below hb
  replace hR0 := hR0.below hb
  replace hF0 := hF0.below hb
  replace hx0 := hx0.below hb
  replace hx90 := hx90.below hb
  replace hx1 := hx1.below hb
  replace hx91 := hx91.below hb
  replace hx2 := hx2.below hb
  replace hF1 := hF1.below hb
  replace hR1 := hR1.below hb
  have hy0 := Fresh.of_whole (lo := v7.heap.size) (hi := v8.heap.size) hwy0 (by simpa using hgy0) hwy0.lt
  clear hgy0 hwy0
  clear hb
  refine hK.out _ _ ⟨hb0.cell 0, hb0.cell 1, hb0.cell 2, hb1.cell 0, hb1.cell 1, hR0.cell 0, hR0.cell 1, hx90.cell 0, hx90.cell 1, hx90.cell 2, hx91.cell 0, hx91.cell 1, hR1.cell 0, hR1.cell 1⟩ (fun hHeld => ?_)
  clear hK K
  try simp only [Act.put, List.getElem_toArray, List.getElem_cons_succ, List.getElem_cons_zero, List.setIfInBounds_toArray, List.set_cons_succ, List.set_cons_zero]
  refine wpAnyH_ready (rs := [3]) (by kernel_rfl) (by simp) (AllReadyH.cons rfl (fun K hK => ?_) AllReadyH.nil)
  go_simp
  refine (eqNight_yes _ _ n0 _ _ x0 k0 k1 _ (by exact hx0.holds) (by exact hy0.holds) HX0.out (by omega)).mono ?_
  rintro e v9 ⟨rfl, hb⟩
  have hz10 : v8.heap.size ≤ v9.heap.size := by have := hb.size; simpa using this
  replace ht := below_then ht hb ht.size
  replace hb0 := hb0.below hb
  replace hb1 := hb1.below hb
  replace hR0 := hR0.below hb
  replace hF0 := hF0.below hb
  replace hx0 := hx0.below hb
  replace hx90 := hx90.below hb
  replace hx1 := hx1.below hb
  replace hx91 := hx91.below hb
  replace hx2 := hx2.below hb
  replace hF1 := hF1.below hb
  replace hR1 := hR1.below hb
  replace hy0 := hy0.below hb
  clear hb
  clear hy0
  refine hK.out _ _ ⟨hb0.cell 0, hb0.cell 1, hb0.cell 2, hb1.cell 0, hb1.cell 1, hR0.cell 0, hR0.cell 1, hx90.cell 0, hx90.cell 1, hx90.cell 2, hx91.cell 0, hx91.cell 1, hR1.cell 0, hR1.cell 1⟩ (fun hHeld => ?_)
  clear hK K
  try simp only [Act.put, List.getElem_toArray, List.getElem_cons_succ, List.getElem_cons_zero, List.setIfInBounds_toArray, List.set_cons_succ, List.set_cons_zero]
  refine wpAnyH_take (i := 4) (v := ?_) rfl (by kernel_rfl) (by kernel_rfl) (by kernel_rfl) (fun _ _ _ h => h) (Or.inl ⟨rfl, ?_⟩) hHeld ?_
  rotate_left
  · intro w' hS; obtain ⟨s0, s1, s2, s3, s4, s5, s6, s7, s8, s9, s10, s11, s12, s13⟩ := hS; go_simp <;> with_reducible rfl
  simp only [Act.put, List.getElem_toArray, List.getElem_cons_succ, List.getElem_cons_zero, List.setIfInBounds_toArray, List.set_cons_succ, List.set_cons_zero]
  refine wpAnyH_done (by kernel_rfl) ?_ _
  clear hHeld
  obtain ⟨hb0_0, hb0_1, hb0_2⟩ := hb0.cells3
  have hb0_l := hb0.lt
  obtain ⟨hb1_0, hb1_1⟩ := hb1.cells2
  have hb1_l := hb1.lt
  obtain ⟨hR0_0, hR0_1⟩ := hR0.cells2
  have hR0_l := hR0.lt
  obtain ⟨hx90_0, hx90_1, hx90_2⟩ := hx90.cells3
  have hx90_l := hx90.lt
  obtain ⟨hx91_0, hx91_1⟩ := hx91.cells2
  have hx91_l := hx91.lt
  obtain ⟨hR1_0, hR1_1⟩ := hR1.cells2
  have hR1_l := hR1.lt
  -- region 20
  clear hb0_0 hb0_1 hb0_2 hb0_l hb1_0 hb1_1 hb1_l hR0_0 hR0_1 hR0_l hx90_0 hx90_1 hx90_2 hx90_l hx91_0 hx91_1 hx91_l hR1_0 hR1_1 hR1_l
  go_wp2_with fail
  refine wp_region_held_drew (S := (fun w' => w'.cell? ⟨w.heap.size, 0, none⟩ = some (.slice A0 n0 c0) ∧ w'.cell? ⟨w.heap.size, 1, none⟩ = some (.int .i64 k0) ∧ w'.cell? ⟨w.heap.size, 2, none⟩ = some (.int .i64 k1) ∧ w'.cell? ⟨w.heap.size + 1, 0, none⟩ = some (.slice A1 n1 c1) ∧ w'.cell? ⟨w.heap.size + 1, 1, none⟩ = some (.int .i64 k2) ∧ w'.cell? ⟨grp, 0, none⟩ = some (.slice B0 ((rsBits x0 k0 k1 x1 k2 (cubeNums x2))).length q0) ∧ w'.cell? ⟨grp, 1, none⟩ = some (.int .i64 (rsTorch x0 k0 k1 x1 k2 (cubeNums x2))) ∧ w'.cell? ⟨v3.heap.size, 0, none⟩ = some (.slice (some ⟨gx0, 0, none⟩) n0 n0) ∧ w'.cell? ⟨v3.heap.size, 1, none⟩ = some (.int .i64 k0) ∧ w'.cell? ⟨v3.heap.size, 2, none⟩ = some (.int .i64 k1) ∧ w'.cell? ⟨v4.heap.size, 0, none⟩ = some (.slice (some ⟨gx1, 0, none⟩) n1 n1) ∧ w'.cell? ⟨v4.heap.size, 1, none⟩ = some (.int .i64 k2) ∧ w'.cell? ⟨v6.heap.size, 0, none⟩ = some (.slice B1 ((rsBits x0 k0 k1 x1 k2 (cubeNums x2))).length q1) ∧ w'.cell? ⟨v6.heap.size, 1, none⟩ = some (.int .i64 (rsTorch x0 k0 k1 x1 k2 (cubeNums x2))))) (by kernel_rfl) ⟨hb0.drew.cell 0, hb0.drew.cell 1, hb0.drew.cell 2, hb1.drew.cell 0, hb1.drew.cell 1, hR0.drew.cell 0, hR0.drew.cell 1, hx90.drew.cell 0, hx90.drew.cell 1, hx90.drew.cell 2, hx91.drew.cell 0, hx91.drew.cell 1, hR1.drew.cell 0, hR1.drew.cell 1⟩ (fun hHeld => ?_)
  replace ht := ht.drew
  replace hb0 := hb0.drew
  replace hb1 := hb1.drew
  replace hR0 := hR0.drew
  replace hF0 := hF0.drew
  replace hx0 := hx0.drew
  replace hx90 := hx90.drew
  replace hx1 := hx1.drew
  replace hx91 := hx91.drew
  replace hx2 := hx2.drew
  replace hF1 := hF1.drew
  replace hR1 := hR1.drew
  refine wpAnyH_take (i := 0) (v := ?_) rfl (by kernel_rfl) (by kernel_rfl) (by kernel_rfl) (fun _ _ _ h => h) (Or.inl ⟨rfl, ?_⟩) hHeld ?_
  rotate_left
  · intro w' hS; obtain ⟨s0, s1, s2, s3, s4, s5, s6, s7, s8, s9, s10, s11, s12, s13⟩ := hS; go_simp <;> with_reducible rfl
  simp only [Act.put, List.getElem_toArray, List.getElem_cons_succ, List.getElem_cons_zero, List.setIfInBounds_toArray, List.set_cons_succ, List.set_cons_zero]
  refine wpAnyH_take (i := 1) (v := ?_) rfl (by kernel_rfl) (by kernel_rfl) (by kernel_rfl) (fun _ _ _ h => h) (Or.inl ⟨rfl, ?_⟩) hHeld ?_
  rotate_left
  · intro w' hS; obtain ⟨s0, s1, s2, s3, s4, s5, s6, s7, s8, s9, s10, s11, s12, s13⟩ := hS; go_simp <;> with_reducible rfl
  simp only [Act.put, List.getElem_toArray, List.getElem_cons_succ, List.getElem_cons_zero, List.setIfInBounds_toArray, List.set_cons_succ, List.set_cons_zero]
  refine wpAnyH_ready (rs := [2]) (by kernel_rfl) (by simp) (AllReadyH.cons rfl (fun K hK => ?_) AllReadyH.nil)
  go_simp
  refine (toCamp_own A1 n1 c1 x1 k2 _ (by exact h1.below ht) HX1.out (by omega)).mono ?_
  rintro e v10 ⟨gy1, rfl, hgy1, hwy1, hb⟩
  have hz11 : v9.heap.size ≤ v10.heap.size := by have := hb.size; simpa using this
  replace ht := below_then ht hb ht.size
  replace hb0 := hb0.below hb
  replace hb1 := hb1.below hb
  replace hR0 := hR0.below hb
  replace hF0 := hF0.below hb
  replace hx0 := hx0.below hb
  replace hx90 := hx90.below hb
  replace hx1 := hx1.below hb
  replace hx91 := hx91.below hb
  replace hx2 := hx2.below hb
  replace hF1 := hF1.below hb
  replace hR1 := hR1.below hb
  have hy1 := Fresh.of_whole (lo := v9.heap.size) (hi := v10.heap.size) hwy1 (by simpa using hgy1) hwy1.lt
  clear hgy1 hwy1
  clear hb
  refine hK.out _ _ ⟨hb0.cell 0, hb0.cell 1, hb0.cell 2, hb1.cell 0, hb1.cell 1, hR0.cell 0, hR0.cell 1, hx90.cell 0, hx90.cell 1, hx90.cell 2, hx91.cell 0, hx91.cell 1, hR1.cell 0, hR1.cell 1⟩ (fun hHeld => ?_)
  clear hK K
  try simp only [Act.put, List.getElem_toArray, List.getElem_cons_succ, List.getElem_cons_zero, List.setIfInBounds_toArray, List.set_cons_succ, List.set_cons_zero]
  refine wpAnyH_ready (rs := [3]) (by kernel_rfl) (by simp) (AllReadyH.cons rfl (fun K hK => ?_) AllReadyH.nil)
  go_simp
  refine (eqCamp_yes _ _ n1 _ _ x1 k2 _ (by exact hx1.holds) (by exact hy1.holds) HX1.out (by omega)).mono ?_
  rintro e v11 ⟨rfl, hb⟩
  have hz12 : v10.heap.size ≤ v11.heap.size := by have := hb.size; simpa using this
  replace ht := below_then ht hb ht.size
  replace hb0 := hb0.below hb
  replace hb1 := hb1.below hb
  replace hR0 := hR0.below hb
  replace hF0 := hF0.below hb
  replace hx0 := hx0.below hb
  replace hx90 := hx90.below hb
  replace hx1 := hx1.below hb
  replace hx91 := hx91.below hb
  replace hx2 := hx2.below hb
  replace hF1 := hF1.below hb
  replace hR1 := hR1.below hb
  replace hy1 := hy1.below hb
  clear hb
  clear hy1
  refine hK.out _ _ ⟨hb0.cell 0, hb0.cell 1, hb0.cell 2, hb1.cell 0, hb1.cell 1, hR0.cell 0, hR0.cell 1, hx90.cell 0, hx90.cell 1, hx90.cell 2, hx91.cell 0, hx91.cell 1, hR1.cell 0, hR1.cell 1⟩ (fun hHeld => ?_)
  clear hK K
  try simp only [Act.put, List.getElem_toArray, List.getElem_cons_succ, List.getElem_cons_zero, List.setIfInBounds_toArray, List.set_cons_succ, List.set_cons_zero]
  refine wpAnyH_take (i := 4) (v := ?_) rfl (by kernel_rfl) (by kernel_rfl) (by kernel_rfl) (fun _ _ _ h => h) (Or.inl ⟨rfl, ?_⟩) hHeld ?_
  rotate_left
  · intro w' hS; obtain ⟨s0, s1, s2, s3, s4, s5, s6, s7, s8, s9, s10, s11, s12, s13⟩ := hS; go_simp <;> with_reducible rfl
  simp only [Act.put, List.getElem_toArray, List.getElem_cons_succ, List.getElem_cons_zero, List.setIfInBounds_toArray, List.set_cons_succ, List.set_cons_zero]
  refine wpAnyH_done (by kernel_rfl) ?_ _
  clear hHeld
  obtain ⟨hb0_0, hb0_1, hb0_2⟩ := hb0.cells3
  have hb0_l := hb0.lt
  obtain ⟨hb1_0, hb1_1⟩ := hb1.cells2
  have hb1_l := hb1.lt
  obtain ⟨hR0_0, hR0_1⟩ := hR0.cells2
  have hR0_l := hR0.lt
  obtain ⟨hx90_0, hx90_1, hx90_2⟩ := hx90.cells3
  have hx90_l := hx90.lt
  obtain ⟨hx91_0, hx91_1⟩ := hx91.cells2
  have hx91_l := hx91.lt
  obtain ⟨hR1_0, hR1_1⟩ := hR1.cells2
  have hR1_l := hR1.lt
  -- region 22
  go_wp2_with fail
  refine (toIntSSS_any A2 n2 c2 x2 _ (by exact h2.below ht) HX2.out (by omega)).mono ?_
  rintro e v12 ⟨gy2, wsy2, rfl, hgy2, hwy2, hey2, hly2, hb⟩
  have hz13 : v11.heap.size ≤ v12.heap.size := by have := hb.size; simpa using this
  replace ht := below_then ht hb ht.size
  replace hb0 := hb0.below hb
  replace hb1 := hb1.below hb
  replace hR0 := hR0.below hb
  replace hF0 := hF0.below hb
  replace hx0 := hx0.below hb
  replace hx90 := hx90.below hb
  replace hx1 := hx1.below hb
  replace hx91 := hx91.below hb
  replace hx2 := hx2.below hb
  replace hF1 := hF1.below hb
  replace hR1 := hR1.below hb
  have HEy2 := Lib.hid hey2
  have HLy2 := Lib.hid hly2
  clear hey2 hly2
  have hy2 := hwy2
  have hgcy2 : v11.heap.size ≤ gy2 := by simpa using hgy2
  have hcapy2 : n2 ≤ 1048576 := by have := totalC_len x2; have := HX2.out; omega
  clear hgy2 hwy2
  clear hb
  clear hb0_0 hb0_1 hb0_2 hb0_l hb1_0 hb1_1 hb1_l hR0_0 hR0_1 hR0_l hx90_0 hx90_1 hx90_2 hx90_l hx91_0 hx91_1 hx91_l hR1_0 hR1_1 hR1_l
  obtain ⟨hb0_0, hb0_1, hb0_2⟩ := hb0.cells3
  have hb0_l := hb0.lt
  obtain ⟨hb1_0, hb1_1⟩ := hb1.cells2
  have hb1_l := hb1.lt
  obtain ⟨hR0_0, hR0_1⟩ := hR0.cells2
  have hR0_l := hR0.lt
  obtain ⟨hx90_0, hx90_1, hx90_2⟩ := hx90.cells3
  have hx90_l := hx90.lt
  obtain ⟨hx91_0, hx91_1⟩ := hx91.cells2
  have hx91_l := hx91.lt
  obtain ⟨hR1_0, hR1_1⟩ := hR1.cells2
  have hR1_l := hR1.lt
  go_wp2_with fail
  refine (eqIntSSS_yes _ _ n2 n2 _ _ wsx2 wsy2 _ (by exact hx2.cube) (by exact hy2.cube) (by rw [HEx2.out, HEy2.out]) HLx2.out HLy2.out (by omega)).mono ?_
  rintro e v13 ⟨rfl, hb⟩
  have hz14 : v12.heap.size ≤ v13.heap.size := by have := hb.size; simpa using this
  replace ht := below_then ht hb ht.size
  replace hb0 := hb0.below hb
  replace hb1 := hb1.below hb
  replace hR0 := hR0.below hb
  replace hF0 := hF0.below hb
  replace hx0 := hx0.below hb
  replace hx90 := hx90.below hb
  replace hx1 := hx1.below hb
  replace hx91 := hx91.below hb
  replace hx2 := hx2.below hb
  replace hF1 := hF1.below hb
  replace hR1 := hR1.below hb
  replace hy2 := hy2.below hb
  clear hb
  clear hy2
  clear hb0_0 hb0_1 hb0_2 hb0_l hb1_0 hb1_1 hb1_l hR0_0 hR0_1 hR0_l hx90_0 hx90_1 hx90_2 hx90_l hx91_0 hx91_1 hx91_l hR1_0 hR1_1 hR1_l
  obtain ⟨hb0_0, hb0_1, hb0_2⟩ := hb0.cells3
  have hb0_l := hb0.lt
  obtain ⟨hb1_0, hb1_1⟩ := hb1.cells2
  have hb1_l := hb1.lt
  obtain ⟨hR0_0, hR0_1⟩ := hR0.cells2
  have hR0_l := hR0.lt
  obtain ⟨hx90_0, hx90_1, hx90_2⟩ := hx90.cells3
  have hx90_l := hx90.lt
  obtain ⟨hx91_0, hx91_1⟩ := hx91.cells2
  have hx91_l := hx91.lt
  obtain ⟨hR1_0, hR1_1⟩ := hR1.cells2
  have hR1_l := hR1.lt
  -- region 25
  go_wp2_with fail
  refine (markNight_any (some ⟨gx0, 0, none⟩) n0 n0 _ _ _ k0 k1 (1) _ hx0 (by rw [nums_len]; exact HX0.out) (by omega) (by omega) (by omega)).mono ?_
  rintro e v14 ⟨rfl, hs, -⟩
  have hsz := ht.size
  replace ht := hs.below ht (by omega) hsz
  replace hb0 := hs.whole hb0 (by omega)
  replace hb1 := hs.whole hb1 (by omega)
  replace hR0 := hs.whole hR0 (by omega)
  replace hF0 := hs.fresh hF0 (by omega)
  replace hx1 := hs.fresh hx1 (by omega)
  replace hx91 := hs.whole hx91 (by omega)
  replace hx2 := hs.cube hx2 (by omega)
  replace hF1 := hs.fresh hF1 (by omega)
  replace hR1 := hs.whole hR1 (by omega)
  clear hs hsz hx0 hx90
  have hk_1 : (0 : Int) ≤ 1 + (n0 : Int) := by omega
  clear hb0_0 hb0_1 hb0_2 hb0_l hb1_0 hb1_1 hb1_l hR0_0 hR0_1 hR0_l hx90_0 hx90_1 hx90_2 hx90_l hx91_0 hx91_1 hx91_l hR1_0 hR1_1 hR1_l
  obtain ⟨hb0_0, hb0_1, hb0_2⟩ := hb0.cells3
  have hb0_l := hb0.lt
  obtain ⟨hb1_0, hb1_1⟩ := hb1.cells2
  have hb1_l := hb1.lt
  obtain ⟨hR0_0, hR0_1⟩ := hR0.cells2
  have hR0_l := hR0.lt
  obtain ⟨hx91_0, hx91_1⟩ := hx91.cells2
  have hx91_l := hx91.lt
  obtain ⟨hR1_0, hR1_1⟩ := hR1.cells2
  have hR1_l := hR1.lt
  -- region 26
  go_wp2_with fail
  refine (markCamp_any (some ⟨gx1, 0, none⟩) n1 n1 _ _ _ k2 (1 + (n0 : Int)) _ hx1 (by rw [bits_len]; exact HX1.out) (by omega) (by omega) (by omega)).mono ?_
  rintro e v15 ⟨rfl, hs, -⟩
  have hsz := ht.size
  replace ht := hs.below ht (by omega) hsz
  replace hb0 := hs.whole hb0 (by omega)
  replace hb1 := hs.whole hb1 (by omega)
  replace hR0 := hs.whole hR0 (by omega)
  replace hF0 := hs.fresh hF0 (by omega)
  replace hx2 := hs.cube hx2 (by omega)
  replace hF1 := hs.fresh hF1 (by omega)
  replace hR1 := hs.whole hR1 (by omega)
  clear hs hsz hx1 hx91
  have hk_2 : (0 : Int) ≤ 1 + (n0 : Int) + (n1 : Int) := by omega
  clear hb0_0 hb0_1 hb0_2 hb0_l hb1_0 hb1_1 hb1_l hR0_0 hR0_1 hR0_l hx91_0 hx91_1 hx91_l hR1_0 hR1_1 hR1_l
  obtain ⟨hb0_0, hb0_1, hb0_2⟩ := hb0.cells3
  have hb0_l := hb0.lt
  obtain ⟨hb1_0, hb1_1⟩ := hb1.cells2
  have hb1_l := hb1.lt
  obtain ⟨hR0_0, hR0_1⟩ := hR0.cells2
  have hR0_l := hR0.lt
  obtain ⟨hR1_0, hR1_1⟩ := hR1.cells2
  have hR1_l := hR1.lt
  -- region 27
  go_wp2_with fail
  have hsum2 : lensC (cubeNums x2) (List.length (cubeNums x2)) ≤ 1048576 := by have := lensC_total h2; omega
  refine (markIntSSS_any gx2 _ n2 n2 wsx2 (1 + (n0 : Int) + (n1 : Int)) _ hx2 HLx2.out (by omega) (by omega) (by omega) (cubeNums x2) HEx2.out hsum2).mono ?_
  rintro e v16 ⟨rfl, hs⟩
  have hsz := ht.size
  replace ht := hs.below ht (by omega) hsz
  replace hb0 := hs.whole hb0 (by omega)
  replace hb1 := hs.whole hb1 (by omega)
  replace hR0 := hs.whole hR0 (by omega)
  replace hF0 := hs.fresh hF0 (by omega)
  replace hF1 := hs.fresh hF1 (by omega)
  replace hR1 := hs.whole hR1 (by omega)
  clear hs hsz hx2
  have hk_3 : (0 : Int) ≤ 1 + (n0 : Int) + (n1 : Int) + ((lensC (cubeNums x2) (List.length (cubeNums x2)) : Nat) : Int) := by omega
  clear hb0_0 hb0_1 hb0_2 hb0_l hb1_0 hb1_1 hb1_l hR0_0 hR0_1 hR0_l hR1_0 hR1_1 hR1_l
  obtain ⟨hb0_0, hb0_1, hb0_2⟩ := hb0.cells3
  have hb0_l := hb0.lt
  obtain ⟨hb1_0, hb1_1⟩ := hb1.cells2
  have hb1_l := hb1.lt
  obtain ⟨hR0_0, hR0_1⟩ := hR0.cells2
  have hR0_l := hR0.lt
  obtain ⟨hR1_0, hR1_1⟩ := hR1.cells2
  have hR1_l := hR1.lt
  -- region 28
  go_wp2_with fail
  refine (eqCamp_yes B1 B0 ((rsBits x0 k0 k1 x1 k2 (cubeNums x2))).length q1 q0 ((rsBits x0 k0 k1 x1 k2 (cubeNums x2))) (rsTorch x0 k0 k1 x1 k2 (cubeNums x2)) _ (by exact hF1.holds) (by exact hF0.holds) rfl (by omega)).mono ?_
  rintro e v17 ⟨rfl, hb⟩
  have hz18 : v16.heap.size ≤ v17.heap.size := by have := hb.size; simpa using this
  replace ht := below_then ht hb ht.size
  replace hb0 := hb0.below hb
  replace hb1 := hb1.below hb
  replace hR0 := hR0.below hb
  replace hF0 := hF0.below hb
  replace hF1 := hF1.below hb
  replace hR1 := hR1.below hb
  clear hb
  clear hb0_0 hb0_1 hb0_2 hb0_l hb1_0 hb1_1 hb1_l hR0_0 hR0_1 hR0_l hR1_0 hR1_1 hR1_l
  obtain ⟨hb0_0, hb0_1, hb0_2⟩ := hb0.cells3
  have hb0_l := hb0.lt
  obtain ⟨hb1_0, hb1_1⟩ := hb1.cells2
  have hb1_l := hb1.lt
  obtain ⟨hR0_0, hR0_1⟩ := hR0.cells2
  have hR0_l := hR0.lt
  obtain ⟨hR1_0, hR1_1⟩ := hR1.cells2
  have hR1_l := hR1.lt
  -- region 31
  go_wp2_with fail
  refine (markCamp_any B1 ((rsBits x0 k0 k1 x1 k2 (cubeNums x2))).length q1 _ _ _ (rsTorch x0 k0 k1 x1 k2 (cubeNums x2)) 1 _ hF1 (by rw [bits_len]) (by omega) (by omega) hlen).mono ?_
  rintro e v18 ⟨rfl, hs, hM⟩
  have hsz := ht.size
  replace ht := hs.below ht (by omega) hsz
  replace hb0 := hs.whole hb0 (by omega)
  replace hb1 := hs.whole hb1 (by omega)
  replace hR0 := hs.whole hR0 (by omega)
  replace hF0 := hs.fresh hF0 (by omega)
  replace hR1 := hs.whole hR1 (by omega)
  clear hs hF1 hsz
  clear hb0_0 hb0_1 hb0_2 hb0_l hb1_0 hb1_1 hb1_l hR0_0 hR0_1 hR0_l hR1_0 hR1_1 hR1_l
  obtain ⟨hb0_0, hb0_1, hb0_2⟩ := hb0.cells3
  have hb0_l := hb0.lt
  obtain ⟨hb1_0, hb1_1⟩ := hb1.cells2
  have hb1_l := hb1.lt
  obtain ⟨hR0_0, hR0_1⟩ := hR0.cells2
  have hR0_l := hR0.lt
  obtain ⟨hR1_0, hR1_1⟩ := hR1.cells2
  have hR1_l := hR1.lt
  -- region 33
  go_wp2_with fail
  refine (heldCamp_any B1 ((rsBits x0 k0 k1 x1 k2 (cubeNums x2))).length q1 (rsTorch x0 k0 k1 x1 k2 (cubeNums x2)) 1 _ (by exact hM.holds) (by omega) (by omega) hlen).mono ?_
  rintro e v19 ⟨rfl, hb⟩
  have hz20 : v18.heap.size ≤ v19.heap.size := by have := hb.size; simpa using this
  replace ht := below_then ht hb ht.size
  replace hb0 := hb0.below hb
  replace hb1 := hb1.below hb
  replace hR0 := hR0.below hb
  replace hF0 := hF0.below hb
  replace hR1 := hR1.below hb
  replace hM := hM.below hb
  clear hb
  have hm0 : (0 : Int) ≤ 1 + (((rsBits x0 k0 k1 x1 k2 (cubeNums x2))).length : Int) := by omega
  clear hb0_0 hb0_1 hb0_2 hb0_l hb1_0 hb1_1 hb1_l hR0_0 hR0_1 hR0_l hR1_0 hR1_1 hR1_l
  obtain ⟨hb0_0, hb0_1, hb0_2⟩ := hb0.cells3
  have hb0_l := hb0.lt
  obtain ⟨hb1_0, hb1_1⟩ := hb1.cells2
  have hb1_l := hb1.lt
  obtain ⟨hR0_0, hR0_1⟩ := hR0.cells2
  have hR0_l := hR0.lt
  obtain ⟨hR1_0, hR1_1⟩ := hR1.cells2
  have hR1_l := hR1.lt
  -- region 38
  have hbzrhb0 := hb0.lt
  have hbzrhb1 := hb1.lt
  go_upto_region 38 with fail
  go_cut [18, 19] (fun s8 s9 wx => ResMid 56 4 (fun A q => #[.slice A ((rsBits x0 k0 k1 x1 k2 (cubeNums x2))).length q, .int .i64 (rsTorch x0 k0 k1 x1 k2 (cubeNums x2))]) (bits ((rsBits x0 k0 k1 x1 k2 (cubeNums x2)))) (rsOk x0 k0 k1 x1 k2 (cubeNums x2)) v19 s8 s9 wx)
  case first =>
    go_region_held3 (fun w' => w'.cell? ⟨w.heap.size, 0, none⟩ = some (.slice A0 n0 c0) ∧ w'.cell? ⟨w.heap.size, 1, none⟩ = some (.int .i64 k0) ∧ w'.cell? ⟨w.heap.size, 2, none⟩ = some (.int .i64 k1) ∧ w'.cell? ⟨w.heap.size + 1, 0, none⟩ = some (.slice A1 n1 c1) ∧ w'.cell? ⟨w.heap.size + 1, 1, none⟩ = some (.int .i64 k2)) (go_keep)
      (first | (go_at_call 30; first | (refine (toNight_own A0 n0 c0 x0 k0 k1 _ (by exact h0.below (below_then ht (Below.refl v19.heap.size v19).drew ht.size)) HX0.out (by omega)).mono ?_; rintro e wr0 ⟨gr0, rfl, hgr0, hwr0, hbr0⟩; have hcr0 := below_then (Below.refl v19.heap.size v19).drew hbr0 (Nat.le_refl _); have hzr0 := hcr0.size; (try (replace hbox := hbox.below hbr0; clear x0_ x1_ x2_ x3_; obtain ⟨x0_, x1_, x2_, x3_⟩ := hbox.two)); obtain ⟨kr0hb0_0, kr0hb0_1, kr0hb0_2⟩ := (hb0.below hcr0).cells3; obtain ⟨kr0hb1_0, kr0hb1_1⟩ := (hb1.below hcr0).cells2) | (have hbox := Whole.fresh v19 56 #[.slice none 0 0, .int .i64 0]; replace hbox := hbox.drew; refine (toNight_own A0 n0 c0 x0 k0 k1 _ (by exact h0.below (below_then ht ((Below.refl v19.heap.size v19).alloc (Nat.le_refl _) (.cells #[.slice none 0 0, .int .i64 0] 56)).drew ht.size)) HX0.out (by omega)).mono ?_; rintro e wr0 ⟨gr0, rfl, hgr0, hwr0, hbr0⟩; have hcr0 := below_then ((Below.refl v19.heap.size v19).alloc (Nat.le_refl _) (.cells #[.slice none 0 0, .int .i64 0] 56)).drew hbr0 (by simp); have hzr0 := hcr0.size; have hy0_ : w.heap.size < v19.heap.size := (by omega); have hn0_ : ¬ v19.heap.size = w.heap.size := (by omega); have hv0_ : ¬ w.heap.size = v19.heap.size := (by omega); have hy1_ : w.heap.size + 1 < v19.heap.size := (by omega); have hn1_ : ¬ v19.heap.size = w.heap.size + 1 := (by omega); have hv1_ : ¬ w.heap.size + 1 = v19.heap.size := (by omega); replace hbox := hbox.below hbr0; obtain ⟨x0_, x1_, x2_, x3_⟩ := hbox.two; obtain ⟨kr0hb0_0, kr0hb0_1, kr0hb0_2⟩ := (hb0.below hcr0).cells3; obtain ⟨kr0hb1_0, kr0hb1_1⟩ := (hb1.below hcr0).cells2)) | (go_at_call 35; first | (refine (toCamp_own A1 n1 c1 x1 k2 _ (by exact h1.below (below_then ht hcr0 ht.size)) HX1.out (by omega)).mono ?_; rintro e wr1 ⟨gr1, rfl, hgr1, hwr1, hbr1⟩; have hcr1 := below_then hcr0 hbr1 hcr0.size; have hzr1 := hcr1.size; replace hwr0 := hwr0.below hbr1; (try (replace hbox := hbox.below hbr1; clear x0_ x1_ x2_ x3_; obtain ⟨x0_, x1_, x2_, x3_⟩ := hbox.two)); obtain ⟨kr1hb0_0, kr1hb0_1, kr1hb0_2⟩ := (hb0.below hcr1).cells3; obtain ⟨kr1hb1_0, kr1hb1_1⟩ := (hb1.below hcr1).cells2) | (have hbox := Whole.fresh wr0 56 #[.slice none 0 0, .int .i64 0]; refine (toCamp_own A1 n1 c1 x1 k2 _ (by exact h1.below (below_then ht (hcr0.alloc hcr0.size (.cells #[.slice none 0 0, .int .i64 0] 56)) ht.size)) HX1.out (by omega)).mono ?_; rintro e wr1 ⟨gr1, rfl, hgr1, hwr1, hbr1⟩; have hcr1 := below_then (hcr0.alloc hcr0.size (.cells #[.slice none 0 0, .int .i64 0] 56)) hbr1 (Nat.le_trans hcr0.size (by simp)); have hzr1 := hcr1.size; replace hwr0 := (hwr0.alloc (.cells #[.slice none 0 0, .int .i64 0] 56)).below hbr1; have hy0_ : w.heap.size < wr0.heap.size := (by omega); have hn0_ : ¬ wr0.heap.size = w.heap.size := (by omega); have hv0_ : ¬ w.heap.size = wr0.heap.size := (by omega); have hy1_ : w.heap.size + 1 < wr0.heap.size := (by omega); have hn1_ : ¬ wr0.heap.size = w.heap.size + 1 := (by omega); have hv1_ : ¬ w.heap.size + 1 = wr0.heap.size := (by omega); replace hbox := hbox.below hbr1; obtain ⟨x0_, x1_, x2_, x3_⟩ := hbox.two; obtain ⟨kr1hb0_0, kr1hb0_1, kr1hb0_2⟩ := (hb0.below hcr1).cells3; obtain ⟨kr1hb1_0, kr1hb1_1⟩ := (hb1.below hcr1).cells2)) | (go_at_call 56; first | (refine (toIntSSS_any A2 n2 c2 x2 _ (by exact h2.below (below_then ht hcr1 ht.size)) HX2.out (by omega)).mono ?_; rintro e wr2 ⟨gr2, wsr2, rfl, hgr2, hwr2, her2, hlr2, hbr2⟩; have HEr2 := Lib.hid her2; have HLr2 := Lib.hid hlr2; clear her2 hlr2; have hcr2 := below_then hcr1 hbr2 hcr1.size; have hzr2 := hcr2.size; replace hwr0 := hwr0.below hbr2; replace hwr1 := hwr1.below hbr2; (try (replace hbox := hbox.below hbr2; clear x0_ x1_ x2_ x3_; obtain ⟨x0_, x1_, x2_, x3_⟩ := hbox.two)); obtain ⟨kr2hb0_0, kr2hb0_1, kr2hb0_2⟩ := (hb0.below hcr2).cells3; obtain ⟨kr2hb1_0, kr2hb1_1⟩ := (hb1.below hcr2).cells2) | (have hbox := Whole.fresh wr1 56 #[.slice none 0 0, .int .i64 0]; refine (toIntSSS_any A2 n2 c2 x2 _ (by exact h2.below (below_then ht (hcr1.alloc hcr1.size (.cells #[.slice none 0 0, .int .i64 0] 56)) ht.size)) HX2.out (by omega)).mono ?_; rintro e wr2 ⟨gr2, wsr2, rfl, hgr2, hwr2, her2, hlr2, hbr2⟩; have HEr2 := Lib.hid her2; have HLr2 := Lib.hid hlr2; clear her2 hlr2; have hcr2 := below_then (hcr1.alloc hcr1.size (.cells #[.slice none 0 0, .int .i64 0] 56)) hbr2 (Nat.le_trans hcr1.size (by simp)); have hzr2 := hcr2.size; replace hwr0 := (hwr0.alloc (.cells #[.slice none 0 0, .int .i64 0] 56)).below hbr2; replace hwr1 := (hwr1.alloc (.cells #[.slice none 0 0, .int .i64 0] 56)).below hbr2; have hy0_ : w.heap.size < wr1.heap.size := (by omega); have hn0_ : ¬ wr1.heap.size = w.heap.size := (by omega); have hv0_ : ¬ w.heap.size = wr1.heap.size := (by omega); have hy1_ : w.heap.size + 1 < wr1.heap.size := (by omega); have hn1_ : ¬ wr1.heap.size = w.heap.size + 1 := (by omega); have hv1_ : ¬ w.heap.size + 1 = wr1.heap.size := (by omega); replace hbox := hbox.below hbr2; obtain ⟨x0_, x1_, x2_, x3_⟩ := hbox.two; obtain ⟨kr2hb0_0, kr2hb0_1, kr2hb0_2⟩ := (hb0.below hcr2).cells3; obtain ⟨kr2hb1_0, kr2hb1_1⟩ := (hb1.below hcr2).cells2)) | (go_at_call 57; first | ((try (have hbxl := hbox.lt)); refine (implRoundsAfter_on _ n0 _ x0 k0 k1 _ n1 _ x1 k2 _ n2 _ wsr2 _ (by exact hwr0.holds) HX0.out (by omega) (by exact hwr1.holds) HX1.out (by omega) (by exact hwr2.cube) HLr2.out (by omega) (cubeNums x2) HEr2.out).mono ?_; rintro e wrs ⟨A0, q0, rfl, hF0_, hbrs⟩; have hcrs := below_then hcr2 hbrs hcr2.size; have hzrs := hcrs.size; replace hwr0 := hwr0.below hbrs; replace hwr1 := hwr1.below hbrs; replace hwr2 := hwr2.below hbrs; (try (replace hbox := hbox.below hbrs; clear x0_ x1_ x2_ x3_; obtain ⟨x0_, x1_, x2_, x3_⟩ := hbox.two)); obtain ⟨krshb0_0, krshb0_1, krshb0_2⟩ := (hb0.below hcrs).cells3; obtain ⟨krshb1_0, krshb1_1⟩ := (hb1.below hcrs).cells2) | (have hbox := Whole.fresh wr2 56 #[.slice none 0 0, .int .i64 0]; have hbxl := hbox.lt; refine (implRoundsAfter_on _ n0 _ x0 k0 k1 _ n1 _ x1 k2 _ n2 _ wsr2 _ (by exact (hwr0.alloc (.cells #[.slice none 0 0, .int .i64 0] 56)).holds) HX0.out (by omega) (by exact (hwr1.alloc (.cells #[.slice none 0 0, .int .i64 0] 56)).holds) HX1.out (by omega) (by exact (hwr2.alloc (.cells #[.slice none 0 0, .int .i64 0] 56)).cube) HLr2.out (by omega) (cubeNums x2) HEr2.out).mono ?_; rintro e wrs ⟨A0, q0, rfl, hF0_, hbrs⟩; have hcrs := below_then (hcr2.alloc hcr2.size (.cells #[.slice none 0 0, .int .i64 0] 56)) hbrs (Nat.le_trans hcr2.size (by simp)); have hzrs := hcrs.size; replace hwr0 := (hwr0.alloc (.cells #[.slice none 0 0, .int .i64 0] 56)).below hbrs; replace hwr1 := (hwr1.alloc (.cells #[.slice none 0 0, .int .i64 0] 56)).below hbrs; replace hwr2 := (hwr2.alloc (.cells #[.slice none 0 0, .int .i64 0] 56)).below hbrs; have hy0_ : w.heap.size < wr2.heap.size := (by omega); have hn0_ : ¬ wr2.heap.size = w.heap.size := (by omega); have hv0_ : ¬ w.heap.size = wr2.heap.size := (by omega); have hy1_ : w.heap.size + 1 < wr2.heap.size := (by omega); have hn1_ : ¬ wr2.heap.size = w.heap.size + 1 := (by omega); have hv1_ : ¬ w.heap.size + 1 = wr2.heap.size := (by omega); replace hbox := hbox.below hbrs; obtain ⟨x0_, x1_, x2_, x3_⟩ := hbox.two; obtain ⟨krshb0_0, krshb0_1, krshb0_2⟩ := (hb0.below hcrs).cells3; obtain ⟨krshb1_0, krshb1_1⟩ := (hb1.below hcrs).cells2)))
    all_goals (go_wp2_with fail; go_meet)
    all_goals first | exact ResMid.first hcrs (by first | omega | (simp; omega)) hF0_ (by first | omega | (simp; omega)) (by first | omega | (simp; omega)) hbox rfl | exact ResMid.last hcrs (by first | omega | (simp; omega)) hF0_
  obtain ⟨wkr, rfl⟩ : ∃ W : World, W = wc := ⟨_, rfl⟩
  obtain ⟨grr, B2, q2, lor, hir, rfl, rfl, hgrr, hglr, hlor, hdr, hhir, hR2, hF2, hb⟩ := hcut
  have hz21 : v19.heap.size ≤ wkr.heap.size := by have := hb.size; simpa using this
  replace ht := below_then ht hb ht.size
  replace hb0 := hb0.below hb
  replace hb1 := hb1.below hb
  replace hR0 := hR0.below hb
  replace hF0 := hF0.below hb
  replace hR1 := hR1.below hb
  replace hM := hM.below hb
  clear hb
  replace hR2 : Whole wkr grr 56 #[.slice B2 ((rsBits x0 k0 k1 x1 k2 (cubeNums x2))).length q2, .int .i64 (rsTorch x0 k0 k1 x1 k2 (cubeNums x2))] := hR2
  clear hb0_0 hb0_1 hb0_2 hb0_l hb1_0 hb1_1 hb1_l hR0_0 hR0_1 hR0_l hR1_0 hR1_1 hR1_l
  obtain ⟨hb0_0, hb0_1, hb0_2⟩ := hb0.cells3
  have hb0_l := hb0.lt
  obtain ⟨hb1_0, hb1_1⟩ := hb1.cells2
  have hb1_l := hb1.lt
  obtain ⟨hR0_0, hR0_1⟩ := hR0.cells2
  have hR0_l := hR0.lt
  obtain ⟨hR1_0, hR1_1⟩ := hR1.cells2
  have hR1_l := hR1.lt
  obtain ⟨hR2_0, hR2_1⟩ := hR2.cells2
  have hR2_l := hR2.lt
  -- region 39
  go_wp2_with fail
  refine (eqCamp_yes B2 B0 ((rsBits x0 k0 k1 x1 k2 (cubeNums x2))).length q2 q0 ((rsBits x0 k0 k1 x1 k2 (cubeNums x2))) (rsTorch x0 k0 k1 x1 k2 (cubeNums x2)) _ (by exact hF2.holds) (by exact hF0.holds) rfl (by omega)).mono ?_
  rintro e v20 ⟨rfl, hb⟩
  have hz22 : wkr.heap.size ≤ v20.heap.size := by have := hb.size; simpa using this
  replace ht := below_then ht hb ht.size
  replace hb0 := hb0.below hb
  replace hb1 := hb1.below hb
  replace hR0 := hR0.below hb
  replace hF0 := hF0.below hb
  replace hR1 := hR1.below hb
  replace hM := hM.below hb
  replace hR2 := hR2.below hb
  replace hF2 := hF2.below hb
  clear hb
  clear hb0_0 hb0_1 hb0_2 hb0_l hb1_0 hb1_1 hb1_l hR0_0 hR0_1 hR0_l hR1_0 hR1_1 hR1_l hR2_0 hR2_1 hR2_l
  obtain ⟨hb0_0, hb0_1, hb0_2⟩ := hb0.cells3
  have hb0_l := hb0.lt
  obtain ⟨hb1_0, hb1_1⟩ := hb1.cells2
  have hb1_l := hb1.lt
  obtain ⟨hR0_0, hR0_1⟩ := hR0.cells2
  have hR0_l := hR0.lt
  obtain ⟨hR1_0, hR1_1⟩ := hR1.cells2
  have hR1_l := hR1.lt
  obtain ⟨hR2_0, hR2_1⟩ := hR2.cells2
  have hR2_l := hR2.lt
  -- region 42
  go_wp2_with fail
  refine (heldCamp_any B1 ((rsBits x0 k0 k1 x1 k2 (cubeNums x2))).length q1 (rsTorch x0 k0 k1 x1 k2 (cubeNums x2)) 1 _ (by exact hM.holds) (by omega) (by omega) hlen).mono ?_
  rintro e v21 ⟨rfl, hb⟩
  have hz23 : v20.heap.size ≤ v21.heap.size := by have := hb.size; simpa using this
  replace ht := below_then ht hb ht.size
  replace hb0 := hb0.below hb
  replace hb1 := hb1.below hb
  replace hR0 := hR0.below hb
  replace hF0 := hF0.below hb
  replace hR1 := hR1.below hb
  replace hM := hM.below hb
  replace hR2 := hR2.below hb
  replace hF2 := hF2.below hb
  clear hb
  clear hb0_0 hb0_1 hb0_2 hb0_l hb1_0 hb1_1 hb1_l hR0_0 hR0_1 hR0_l hR1_0 hR1_1 hR1_l hR2_0 hR2_1 hR2_l
  obtain ⟨hb0_0, hb0_1, hb0_2⟩ := hb0.cells3
  have hb0_l := hb0.lt
  obtain ⟨hb1_0, hb1_1⟩ := hb1.cells2
  have hb1_l := hb1.lt
  obtain ⟨hR0_0, hR0_1⟩ := hR0.cells2
  have hR0_l := hR0.lt
  obtain ⟨hR1_0, hR1_1⟩ := hR1.cells2
  have hR1_l := hR1.lt
  obtain ⟨hR2_0, hR2_1⟩ := hR2.cells2
  have hR2_l := hR2.lt
  go_wp2
  go_ret
  exact ⟨rfl, ht⟩

theorem lawRoundsAfter_all (A0 : Option Addr) (n0 c0 : Nat) (x0 : List Int) (k0 : Int) (k1 : Int) (A1 : Option Addr) (n1 c1 : Nat) (x1 : List Bool) (k2 : Int) (A2 : Option Addr) (n2 c2 : Nat) (x2 : List GridV) (w : World) (h0 : Holds w A0 (nums x0)) (hx0 : x0.length = n0) (hn0 : n0 ≤ 9223372036854775807) (h1 : Holds w A1 (bits x1)) (hx1 : x1.length = n1) (hn1 : n1 ≤ 9223372036854775807) (h2 : Cube w A2 x2) (hx2 : x2.length = n2) (hn2 : n2 ≤ 9223372036854775807) :
    Calls Try.prog 10 #[.agg #[.slice A0 n0 c0, .int .i64 k0, .int .i64 k1], .agg #[.slice A1 n1 c1, .int .i64 k2], .slice A2 n2 c2] w fun e w' => e = .returned (.bool true) ∧ Below w.heap.size w w' := by
  rcases (inferInstance : Decidable (0 ≤ 1048576 - (n0 : Int))) with g0 | g0
  · exact lawRoundsAfter_big0 A0 n0 c0 x0 k0 k1 A1 n1 c1 x1 k2 A2 n2 c2 x2 w h0 hx0 hn0 h1 hx1 hn1 h2 hx2 hn2  (by omega)
  rcases (inferInstance : Decidable (0 ≤ 1048576 - (n0 : Int) - (n1 : Int))) with g1 | g1
  · exact lawRoundsAfter_big1 A0 n0 c0 x0 k0 k1 A1 n1 c1 x1 k2 A2 n2 c2 x2 w h0 hx0 hn0 h1 hx1 hn1 h2 hx2 hn2 g0 (by omega)
  rcases (inferInstance : Decidable (0 ≤ 1048576 - (n0 : Int) - (n1 : Int) - (totalC x2 : Int))) with g2 | g2
  · exact lawRoundsAfter_big2 A0 n0 c0 x0 k0 k1 A1 n1 c1 x1 k2 A2 n2 c2 x2 w h0 hx0 hn0 h1 hx1 hn1 h2 hx2 hn2 g0 g1 (by omega)
  exact lawRoundsAfter_small A0 n0 c0 x0 k0 k1 A1 n1 c1 x1 k2 A2 n2 c2 x2 w h0 hx0 hn0 h1 hx1 hn1 h2 hx2 hn2 g0 g1 g2
end Go.Proofs.Ytifaadjbkbdbnaa
