/-
  What is proved: contracts of BestClue, of the model and of the program. Conditions: the clues are read as they lie.
  What is proved: contracts of the laws' own helpers for clues and puzzles: their size, their copy, their comparison. Conditions: the given clues are read as they lie; a copy is of at most 1,048,576 clues.
  What is proved: contracts of the laws' own comparison and marks of clues and puzzles. Conditions: the clues are read as they lie; what is marked is a row of the call's own.
  What is proved: the law FnExactBestClue returns true at every argument, and leaves all that was there as it was. Conditions: the arguments are read as they lie.
-/
import Derived.Deep.RegionHeld3
import Derived.Test.YtgojakcepbdajaaJ4BestClue
set_option linter.unusedSimpArgs false
set_option linter.unusedVariables false
namespace Go.Proofs.Ytgojakcepbdajaa
open Go.RowKit

/-- How many hidden times match a clue alone. -/
def oneC (cs : List Cl) (k : Nat) : List Cl := (cs.drop k).take 1
def cntAt (p : Int) (cs : List Cl) (k : Nat) : Int := ((solI p (oneC cs k)).length : Int)
def aloneI (p : Int) (cs : List Cl) (k : Nat) : List Int := (List.range k).map (cntAt p cs)
theorem aloneI_len (p : Int) (cs : List Cl) (k : Nat) : (aloneI p cs k).length = k := by simp [aloneI]
theorem aloneI_next (p : Int) (cs : List Cl) (k : Nat) : aloneI p cs (k + 1) = aloneI p cs k ++ [cntAt p cs k] := by simp [aloneI, List.range_succ]
theorem aloneI_at {p : Int} {cs : List Cl} {k j : Nat} (h : j < (aloneI p cs k).length) : (aloneI p cs k)[j] = cntAt p cs j := by simp [aloneI]
/-- The best one of the first clues, and its number. -/
def bestTo (p : Int) (cs : List Cl) : Nat → Int × Int
  | 0 => (0, 0)
  | k + 1 => if k = 0 ∨ cntAt p cs k < (bestTo p cs k).2 then ((k : Int), cntAt p cs k) else bestTo p cs k
theorem bestTo_take {p : Int} {cs : List Cl} {k : Nat} (h : k = 0 ∨ cntAt p cs k < (bestTo p cs k).2) : bestTo p cs (k + 1) = ((k : Int), cntAt p cs k) := by
  show (if _ then _ else _) = _
  exact if_pos h
theorem bestTo_keep {p : Int} {cs : List Cl} {k : Nat} (h : ¬ (k = 0 ∨ cntAt p cs k < (bestTo p cs k).2)) : bestTo p cs (k + 1) = bestTo p cs k := by
  show (if _ then _ else _) = _
  exact if_neg h
theorem bestTo_inv (p : Int) (cs : List Cl) : ∀ k, ∃ b : Nat, b < k + 1 ∧ (bestTo p cs (k + 1)).1 = b ∧ (bestTo p cs (k + 1)).2 = cntAt p cs b ∧ (∀ j, j < k + 1 → cntAt p cs b ≤ cntAt p cs j) ∧ ∀ j, j < b → cntAt p cs b < cntAt p cs j := by
  intro k
  induction k with
  | zero =>
    refine ⟨0, by omega, ?_, ?_, fun j hj => ?_, fun j hj => absurd hj (by omega)⟩
    · rw [bestTo_take (.inl rfl)]
    · rw [bestTo_take (.inl rfl)]
    · obtain rfl : j = 0 := by omega
      exact Int.le_refl _
  | succ k ih =>
    obtain ⟨b, h1, h2, h3, h4, h5⟩ := ih
    by_cases h : cntAt p cs (k + 1) < (bestTo p cs (k + 1)).2
    · rw [bestTo_take (.inr h)]
      rw [h3] at h
      refine ⟨k + 1, by omega, rfl, rfl, fun j hj => ?_, fun j hj => ?_⟩
      · rcases Nat.lt_or_ge j (k + 1) with hlt | hge
        · have := h4 j hlt; omega
        · obtain rfl : j = k + 1 := by omega
          exact Int.le_refl _
      · have := h4 j hj; omega
    · rw [bestTo_keep (fun h0 => h0.elim (fun h1 => by omega) h)]
      refine ⟨b, by omega, h2, h3, fun j hj => ?_, h5⟩
      rcases Nat.lt_or_ge j (k + 1) with hlt | hge
      · exact h4 j hlt
      · obtain rfl : j = k + 1 := by omega
        rw [h3] at h
        omega
theorem best_unique {p : Int} {cs : List Cl} {n r : Nat} (hn : 0 < n) (hr : r < (aloneI p cs n).length) (h1 : (aloneI p cs n)[r] = leastOf (aloneI p cs n)) (h2 : NoneI (aloneI p cs n) (leastOf (aloneI p cs n)) r) : (r : Int) = (bestTo p cs n).1 := by
  obtain ⟨k, rfl⟩ : ∃ k, n = k + 1 := ⟨n - 1, by omega⟩
  obtain ⟨b, g1, g2, -, g4, g5⟩ := bestTo_inv p cs k
  rw [g2]
  have hl := aloneI_len p cs (k + 1)
  have hbl : b < (aloneI p cs (k + 1)).length := by omega
  have hrb := aloneI_at hr
  have hbb := aloneI_at hbl
  have m1 : leastOf (aloneI p cs (k + 1)) ≤ cntAt p cs b := by rw [← hbb]; exact leastOf_le (List.getElem_mem hbl)
  have m2 : cntAt p cs b ≤ leastOf (aloneI p cs (k + 1)) := by rw [← h1, hrb]; exact g4 r (by omega)
  rcases Nat.lt_trichotomy r b with h | h | h
  · have := g5 r h; rw [← hrb, h1] at this; omega
  · rw [h]
  · exact absurd (by rw [hbb]; omega) (h2 b hbl h)
def bestOk (p : Int) (cs : List Cl) : Bool := pzOk p cs && decide (0 < cs.length)
def bestI (p : Int) (cs : List Cl) : Int := if bestOk p cs then (bestTo p cs cs.length).1 else 0
theorem best_no {p : Int} {cs : List Cl} (h : bestOk p cs = false) : bestI p cs = 0 := if_neg (by simp [h])
theorem best_yes {p : Int} {cs : List Cl} (h : bestOk p cs = true) : bestI p cs = (bestTo p cs cs.length).1 := if_pos h
theorem all_one {p : Int} {cs : List Cl} (h : cs.all (clOk p) = true) (k : Nat) : (oneC cs k).all (clOk p) = true :=
  List.all_eq_true.2 fun x hx => List.all_eq_true.1 h x (List.mem_of_mem_drop (List.mem_of_mem_take hx))
theorem oneC_len {cs : List Cl} {k : Nat} (hk : k < cs.length) : (oneC cs k).length = 1 := by simp [oneC]; omega
theorem pzOk_oneC {p : Int} {cs : List Cl} (h : pzOk p cs = true) {k : Nat} (hk : k < cs.length) : pzOk p (oneC cs k) = true := by
  obtain ⟨h1, h4, h6, ha⟩ := pzOk_parts h
  simp only [pzOk, Bool.and_eq_true, within_iff, decide_eq_true_eq]
  exact ⟨⟨h1, h4⟩, by rw [oneC_len hk]; omega, all_one ha k⟩
theorem count_one {p : Int} {cs : List Cl} (h : pzOk p cs = true) {k : Nat} (hk : k < cs.length) : ((solsI p (oneC cs k)).length : Int) = cntAt p cs k := by rw [solsI_yes (pzOk_oneC h hk)]; rfl
/-- One clue lies in the midst of the clues. -/
theorem cls_one {w : World} {b o k : Nat} {cs : List Cl} (h : Holds w (some ⟨b, o, none⟩) (clsC cs)) (hk : k < cs.length) : Holds w (some ⟨b, o + k * 3, none⟩) (clsC (oneC cs k)) := by
  rcases h with h | ⟨b', o', hA, hb, hc⟩
  · have := clsC_len cs
    rw [h] at this
    simp at this
    omega
  · cases hA
    refine .inr ⟨b, o + k * 3, rfl, hb, fun j u hu => ?_⟩
    have hs : clsC cs = clsC (cs.take k) ++ (clsC (oneC cs k) ++ clsC ((cs.drop k).drop 1)) := by
      rw [← clsC_app, ← clsC_app, oneC, List.take_append_drop, List.take_append_drop]
    have hl : (clsC (cs.take k)).length = k * 3 := by rw [clsC_len, List.length_take]; congr 1; omega
    have := hc (k * 3 + j) u (by
      rw [hs, List.getElem?_append_right (by omega), hl, show k * 3 + j - k * 3 = j by omega, List.getElem?_append_left (List.getElem?_eq_some_iff.1 hu).1]
      exact hu)
    rw [show o + k * 3 + j = o + (k * 3 + j) by omega]
    exact this
def BestPost (p : Int) (cs : List Cl) (w : World) (e : Ending) (w' : World) : Prop := e = .returned (.tuple #[.int .i64 (bestI p cs), .bool (bestOk p cs)]) ∧ Below w.heap.size w w'

set_option maxHeartbeats 1600000 in
set_option maxRecDepth 100000 in
theorem specBestClue_any (p : Int) (b o n c : Nat) (cs : List Cl) (w : World) (hA : Holds w (some ⟨b, o, none⟩) (clsC cs)) (hx : cs.length = n) (hn : n ≤ 1048576) (hc : n ≤ c) (hcc : c ≤ 1048576) :
    Calls Try.prog 25 #[.agg #[.int .i64 p, .slice (some ⟨b, o, none⟩) n c]] w (BestPost p cs w) := by
  have hbl := below1 w (.cells #[.int .i64 p, .slice (some ⟨b, o, none⟩) n c] 37)
  have hw0 := Whole.fresh w 37 #[.int .i64 p, .slice (some ⟨b, o, none⟩) n c]
  have HBL := Lib.hid hbl
  have HA := Lib.hid (hA.below hbl)
  have H0 := Lib.hid hw0
  have HX := Lib.hid hx
  cases hok : pzOk p cs
  · have HOK := Lib.hid hok
    have HB := Lib.hid (show bestOk p cs = false by simp [bestOk, hok])
    clear hbl hA hx hok hw0
    go_enter Try.func25, Try.ntmps25
    go_wp2_with fail
    refine (pzGood_any p _ n c cs _ HA.out HX.out (by omega)).mono ?_
    rintro e w2 ⟨rfl, hb⟩
    rw [HOK.out]
    have HF := Lib.hid (below_then HBL.out hb HBL.out.size)
    clear hb
    go_wp2
    go_ret2
    exact ⟨by rw [best_no HB.out, HB.out]; rfl, HF.out⟩
  · have HOK := Lib.hid hok
    obtain ⟨hp1, hp4, hl6, hall⟩ := pzOk_parts hok
    have HALL := Lib.hid hall
    have hn6 : n ≤ 6 := by omega
    by_cases hn0 : n = 0
    · have HB := Lib.hid (show bestOk p cs = false by simp only [bestOk, Bool.and_eq_false_iff, decide_eq_false_iff_not]; right; omega)
      subst hn0
      clear hbl hA hx hok hw0 hall
      go_enter Try.func25, Try.ntmps25
      go_wp2_with fail
      refine (pzGood_any p _ 0 c cs _ HA.out HX.out (by omega)).mono ?_
      rintro e w2 ⟨rfl, hb⟩
      rw [HOK.out]
      have HF := Lib.hid (below_then HBL.out hb HBL.out.size)
      obtain ⟨c0, c1⟩ := (H0.out.below hb).cells2
      clear hb
      go_wp2
      go_ret2
      exact ⟨by rw [best_no HB.out, HB.out]; rfl, HF.out⟩
    · have HB := Lib.hid (show bestOk p cs = true by simp only [bestOk, Bool.and_eq_true, decide_eq_true_eq]; exact ⟨hok, by omega⟩)
      have hne : ((n : Int) == 0) = false := by simp [hn0]
      clear hbl hA hx hok hw0 hall
      go_enter Try.func25, Try.ntmps25
      go_wp2_with fail
      refine (pzGood_any p _ n c cs _ HA.out HX.out (by omega)).mono ?_
      rintro e w2 ⟨rfl, hb⟩
      rw [HOK.out]
      have HF := Lib.hid (below_then HBL.out hb HBL.out.size)
      have HA2 := Lib.hid (HA.out.below hb)
      have h2 := H0.out.below hb
      have HQ2 := Lib.hid h2
      obtain ⟨c0, c1⟩ := h2.cells2
      have hlt0 := h2.lt
      clear hb h2
      go_wp2
      clear hne
      go_loopw [4, 5, 20] (fun v l i wr => ∃ k : Nat, k ≤ n ∧ i = .int .i64 k ∧ v = .int .i64 (bestTo p cs k).1 ∧ l = .int .i64 (bestTo p cs k).2 ∧ Below w2.heap.size w2 wr) (fun _ _ i _ => n - (intOf i).toNat)
      case atStart => exact ⟨0, Nat.zero_le _, rfl, rfl, rfl, Below.refl _ _⟩
      case round =>
        obtain ⟨k, hk, rfl, rfl, rfl, hb⟩ := hrel
        have HB9 := Lib.hid hb
        have hq := HQ2.out.below hb
        clear c0 c1 hlt0
        obtain ⟨c0, c1⟩ := hq.cells2
        have hlt0 := hq.lt
        clear hq hb
        by_cases hlt : k < n
        · have hkI : (k : Int) < n := by omega
          have HK := Lib.hid (show k < cs.length by have := HX.out; omega)
          have hk0 : (0 : Int) ≤ k := by omega
          have hkk : (k : Int) ≤ (k : Int) + 1 := by omega
          have hkc : (k : Int) + 1 ≤ (c : Int) := by omega
          have hkc2 : k + 1 ≤ c := by omega
          have hck : ¬ c - k = 0 := by omega
          have hck2 : ¬ c = k := by omega
          have hk2 : k + 1 - k = 1 := by omega
          have hkp : (0 : Int) ≤ (k : Int) + 1 := by omega
          have hkt : ((k : Int) + 1).toNat = k + 1 := by omega
          have HLE := Lib.hid (solI_len (oneC cs k) hp1 hp4)
          have HQR := Lib.hid (HQ2.out.below HB9.out)
          have HTA := Lib.hid (cls_one (k := k) (HA2.out.below HB9.out) HK.out)
          have HALK := Lib.hid (all_one HALL.out k)
          have hwr : IntKind.i64.wrap ((k : Int) + 1) = (k : Int) + 1 := IntWalk.i64_in _ (by omega)
          go_wp2_with fail
          go_region_held3 (fun w' => w'.cell? ⟨w.heap.size, 0, none⟩ = some (.int .i64 p) ∧ w'.cell? ⟨w.heap.size, 1, none⟩ = some (.slice (some ⟨b, o, none⟩) n c)) (go_keep)
            (first | (go_at_call 38; refine (pzAll_any p (some ⟨b, o + k * 3, none⟩) 1 (c - k) (oneC cs k) _ (by exact HTA.out.drew) (oneC_len HK.out) (by omega) HALK.out hp1 hp4).mono ?_; rintro e w3 ⟨A3, c3, rs, rfl, hr, hh, hb3⟩; have HRL := Lib.hid (show (rs.length : Int) = cntAt p cs k from congrArg Int.ofNat (heads_len hh hr)); have hrl : rs.length ≤ 1296 := (by rw [heads_len hh hr]; exact HLE.out); have hq3 := HQR.out.drew.below hb3; have HQ3 := Lib.hid hq3; obtain ⟨k2, k3⟩ := hq3.cells2; have hbd : Below wr.heap.size wr w3 := below_then (Below.refl wr.heap.size wr).drew hb3 (Nat.le_refl _); have HBD := Lib.hid (below_then HB9.out hbd HB9.out.size); clear hr hh hb3 hq3 hbd))
          have HRL2 := Lib.hid HRL.out.symm
          clear hkk hkc hkc2 hck hck2 hk2 hkp hkt hwr
          by_cases hk00 : k = 0
          · have hb0 : ((k : Int) == 0) = true := by simp [hk00]
            have HT := Lib.hid (bestTo_take (p := p) (cs := cs) (k := k) (.inl hk00))
            clear hk00
            go_wp2
            go_roundw
            case rel => exact ⟨k + 1, by omega, by go_num, by rw [HT.out], by rw [HT.out, HRL2.out], HBD.out⟩
            case measure => simp [intOf]; omega
          · have hb0 : ((k : Int) == 0) = false := by simp [hk00]
            by_cases hls : (rs.length : Int) < (bestTo p cs k).2
            · have HT := Lib.hid (bestTo_take (p := p) (cs := cs) (k := k) (.inr (by rw [HRL2.out]; exact hls)))
              clear hk00
              go_wp2
              go_roundw
              case rel => exact ⟨k + 1, by omega, by go_num, by rw [HT.out], by rw [HT.out, HRL2.out], HBD.out⟩
              case measure => simp [intOf]; omega
            · have HT := Lib.hid (bestTo_keep (p := p) (cs := cs) (k := k) (fun h => h.elim hk00 (by rw [HRL2.out]; exact hls)))
              clear hk00
              go_wp2
              go_roundw
              case rel => exact ⟨k + 1, by omega, by go_num, by rw [HT.out], by rw [HT.out], HBD.out⟩
              case measure => simp [intOf]; omega
        · obtain rfl : k = n := by omega
          go_wp2
          go_ret2
          exact ⟨by rw [best_yes HB.out, HB.out, HX.out]; rfl, (below_then HF.out HB9.out HF.out.size)⟩

set_option maxHeartbeats 800000 in
theorem part_one (p : Int) (b o n c k : Nat) (w : World) (hk : k < n) (hcc : c ≤ 1048576) (hc : n ≤ c) (hn : n ≤ 1048576) :
    Calls Try.prog 48 #[.agg #[.int .i64 p, .slice (some ⟨b, o, none⟩) n c], .int .i64 (k : Int), .int .i64 ((k : Int) + 1)] w fun e w' => e = .returned (.agg #[.int .i64 p, .slice (some ⟨b, o + k * 3, none⟩) 1 1]) ∧ Below w.heap.size w w' := by
  have h0 := (Whole.fresh w 37 #[.int .i64 p, .slice (some ⟨b, o, none⟩) n c]).alloc (.cells #[.int .i64 0, .slice none 0 0] 37)
  have h1 := Whole.fresh (w.alloc (.cells #[.int .i64 p, .slice (some ⟨b, o, none⟩) n c] 37)) 37 #[.int .i64 0, .slice none 0 0]
  have HB := Lib.hid (below2 w (.cells #[.int .i64 p, .slice (some ⟨b, o, none⟩) n c] 37) (.cells #[.int .i64 0, .slice none 0 0] 37))
  have hk0 : (0 : Int) ≤ k := by omega
  have hkk : (k : Int) ≤ (k : Int) + 1 := by omega
  have hkc : (k : Int) + 1 ≤ (c : Int) := by omega
  have hkc2 : k + 1 ≤ c := by omega
  have hk2 : k + 1 - k = 1 := by omega
  have hkp : (0 : Int) ≤ (k : Int) + 1 := by omega
  have hkt : ((k : Int) + 1).toNat = k + 1 := by omega
  go_enter Try.func48, Try.ntmps48
  go_wp2
  obtain ⟨c0, c1⟩ := h0.cells2
  obtain ⟨r0, r1, f0, f1⟩ := h1.two
  rw [World.size_alloc] at r0 r1 f0 f1
  have hl0 := h0.lt
  have hP := Whole.fresh (w.alloc (.cells #[.int .i64 p, .slice (some ⟨b, o, none⟩) n c] 37)) 37 #[.int .i64 p, .slice (some ⟨b, o + k * 3, none⟩) 1 1]
  have HB2 := Lib.hid ((below2 w (.cells #[.int .i64 p, .slice (some ⟨b, o, none⟩) n c] 37) (.cells #[.int .i64 p, .slice (some ⟨b, o + k * 3, none⟩) 1 1] 37)).drew)
  rw [World.size_alloc] at hP
  have hP2 := hP.drew
  go_region_held3 (fun w' => w'.cell? ⟨w.heap.size, 0, none⟩ = some (.int .i64 p) ∧ w'.cell? ⟨w.heap.size, 1, none⟩ = some (.slice (some ⟨b, o, none⟩) n c)) (go_keep) (fail)
  obtain ⟨s0, s1, -, -⟩ := hP2.two
  clear h0 h1 c0 c1 r0 r1 f0 f1 hP hP2
  go_wp2
  refine bodyPost_ret (v := .agg #[.int .i64 p, .slice (some ⟨b, o + k * 3, none⟩) 1 1]) (by simp [results, Try.results48, go_sem, s0, s1]) rfl ⟨rfl, HB2.out⟩
theorem numsC_snoc (l : List Int) (x : Int) : nums (l ++ [x]) = nums l ++ [.int .i64 x] := by simp [nums]
theorem own_freshC {w : World} {lo n c : Nat} {ty : TypeId} {A : Option Addr} {xs : List Value} (h : w.ownsRow lo ty 1 (.slice A n c) n xs) : Fresh w lo w.heap.size ty A xs := by
  obtain ⟨A', c', hv, hf⟩ := Fresh.of_own h (Nat.le_refl _)
  cases hv
  exact hf

set_option maxHeartbeats 1600000 in
set_option maxRecDepth 100000 in
theorem implBestClue_any (p : Int) (b o n c : Nat) (cs : List Cl) (w : World) (hA : Holds w (some ⟨b, o, none⟩) (clsC cs)) (hx : cs.length = n) (hn : n ≤ 1048576) (hc : n ≤ c) (hcc : c ≤ 1048576) :
    Calls Try.prog 26 #[.agg #[.int .i64 p, .slice (some ⟨b, o, none⟩) n c]] w (BestPost p cs w) := by
  obtain ⟨i0, hi, hz0, hz1, hz2⟩ := info_parts info_int
  have HI := Lib.hid hi
  have HZ0 := Lib.hid hz0
  have HZ1 := Lib.hid hz1
  have HZ2 := Lib.hid hz2
  have hbl := below1 w (.cells #[.int .i64 p, .slice (some ⟨b, o, none⟩) n c] 37)
  have hw0 := Whole.fresh w 37 #[.int .i64 p, .slice (some ⟨b, o, none⟩) n c]
  have HBL := Lib.hid hbl
  have HA := Lib.hid (hA.below hbl)
  have H0 := Lib.hid hw0
  have HX := Lib.hid hx
  clear hi hz0 hz1 hz2
  obtain ⟨c0, c1⟩ := hw0.cells2
  have hlt0 := hw0.lt
  cases hok : pzOk p cs
  · have HOK := Lib.hid hok
    have HB := Lib.hid (show bestOk p cs = false by simp [bestOk, hok])
    clear hbl hA hx hok hw0
    go_enter Try.func26, Try.ntmps26
    go_wp2_with fail
    refine (isPuzzle_any p _ n c cs _ HA.out HX.out (by omega)).mono ?_
    rintro e w2 ⟨rfl, hb⟩
    rw [HOK.out]
    have HF := Lib.hid (below_then HBL.out hb HBL.out.size)
    clear hb
    go_wp2
    go_ret2
    exact ⟨by rw [best_no HB.out, HB.out]; rfl, HF.out⟩
  · have HOK := Lib.hid hok
    have hn6 : n ≤ 6 := by have := (pzOk_parts hok).2.2.1; omega
    by_cases hn0 : n = 0
    · have HB := Lib.hid (show bestOk p cs = false by simp only [bestOk, Bool.and_eq_false_iff, decide_eq_false_iff_not]; right; omega)
      subst hn0
      clear hbl hA hx hok hw0
      go_enter Try.func26, Try.ntmps26
      go_wp2_with fail
      refine (isPuzzle_any p _ 0 c cs _ HA.out HX.out (by omega)).mono ?_
      rintro e w2 ⟨rfl, hb⟩
      rw [HOK.out]
      have HF := Lib.hid (below_then HBL.out hb HBL.out.size)
      clear c0 c1 hlt0
      obtain ⟨c0, c1⟩ := (H0.out.below hb).cells2
      clear hb
      go_wp2
      go_ret2
      exact ⟨by rw [best_no HB.out, HB.out]; rfl, HF.out⟩
    · have HB := Lib.hid (show bestOk p cs = true by simp only [bestOk, Bool.and_eq_true, decide_eq_true_eq]; exact ⟨hok, by omega⟩)
      have hne : ((n : Int) == 0) = false := by simp [hn0]
      clear hbl hA hx hok hw0
      go_enter Try.func26, Try.ntmps26
      go_wp2_with fail
      refine (isPuzzle_any p _ n c cs _ HA.out HX.out (by omega)).mono ?_
      rintro e w2 ⟨rfl, hb⟩
      rw [HOK.out]
      have HF := Lib.hid (below_then HBL.out hb HBL.out.size)
      have HA2 := Lib.hid (HA.out.below hb)
      have h2 := H0.out.below hb
      have HQ2 := Lib.hid h2
      have hls := HBL.out.size
      have hls2 : w.heap.size + 1 ≤ w2.heap.size := by have := hb.size; simp at this; omega
      clear c0 c1 hlt0
      obtain ⟨c0, c1⟩ := h2.cells2
      have hlt0 := h2.lt
      clear hb h2 hls
      go_wp2
      clear hne
      go_loopw [4, 20] (fun v i wr => ∃ (k : Nat) (D : Option Addr) (d : Nat), k ≤ n ∧ i = .int .i64 k ∧ v = .slice D k d ∧ wr.ownsRow w2.heap.size 3 1 (.slice D k d) k (nums (aloneI p cs k)) ∧ Below w2.heap.size w2 wr) (fun _ i _ => n - (intOf i).toNat)
      case atStart => exact ⟨0, none, 0, Nat.zero_le _, rfl, rfl, World.ownsRow_nil _ _ _ _, Below.refl _ _⟩
      case round =>
        obtain ⟨k, D, d, hk, rfl, rfl, hown, hb⟩ := hrel
        have HOWN := Lib.hid hown
        have HB9 := Lib.hid hb
        have hq := HQ2.out.below hb
        clear c0 c1 hlt0
        obtain ⟨c0, c1⟩ := hq.cells2
        have hlt0 := hq.lt
        have hzr : w2.heap.size ≤ wr.heap.size := hb.size
        clear hown hq hb
        by_cases hlt : k < n
        · have hkI : (k : Int) < n := by omega
          have HK := Lib.hid (show k < cs.length by have := HX.out; omega)
          have HNX := Lib.hid (aloneI_next p cs k)
          have HTA := Lib.hid (cls_one (k := k) (HA2.out.below HB9.out) HK.out)
          have HL1 := Lib.hid (oneC_len HK.out)
          have HCT := Lib.hid (count_one HOK.out HK.out)
          have HCLE : Hid (0 ≤ cntAt p cs k ∧ cntAt p cs k ≤ 1296) := by
            have := solI_len (oneC cs k) (pzOk_parts HOK.out).1 (pzOk_parts HOK.out).2.1
            show _ ∧ _
            unfold cntAt
            omega
          have HMAX := Lib.hid (show k + 1 ≤ maxLen by unfold maxLen; omega)
          have HBYT := Lib.hid (show (k + 1) * 8 ≤ 140737488355328 by omega)
          go_wp2_with fail
          refine (part_one p b o n c k wr hlt hcc hc hn).mono ?_
          rintro e w3 ⟨rfl, hb3⟩
          have HB3 := Lib.hid hb3
          have hz3 : wr.heap.size ≤ w3.heap.size := hb3.size
          have HTA3 := Lib.hid (HTA.out.below hb3)
          clear hb3
          go_wp2_with fail
          refine (implCountSolutions_any p _ 1 1 (oneC cs k) _ HTA3.out HL1.out (by omega)).mono ?_
          rintro e w4 ⟨rfl, hb4⟩
          have hbd := below_then HB3.out hb4 HB3.out.size
          rw [HCT.out]
          obtain ⟨z, hz⟩ : ∃ z, z = cntAt p cs k := ⟨_, rfl⟩
          rw [← hz] at HNX HCLE ⊢
          have hz0 : 0 ≤ z := HCLE.out.1
          have hz1 : z ≤ 1296 := HCLE.out.2
          have HBD := Lib.hid hbd
          have hsz4 : wr.heap.size ≤ w4.heap.size := hbd.size
          have HOW := Lib.hid ((own_below HOWN.out hbd).alloc (.cells #[.int .i64 z] 3))
          have HBASE := Lib.hid (show w2.heap.size ≤ (w4.alloc (.cells #[.int .i64 z] 3)).heap.size by rw [World.size_alloc]; omega)
          clear hb4 hbd hz
          go_wp2_with (at_builtin; refine wpList_append_lies _ rfl (.tmp 32) (.tmp 34) 25 rfl w2.heap.size 3 i0 (.int .i64 0) 1 8 Try.underlying25 HI.out HZ0.out HZ1.out HZ2.out rfl (by decide) (.slice D k d) k (nums (aloneI p cs k)) rfl HOW.out ⟨w4.heap.size, 0, none⟩ 1 1 [.int .i64 z] rfl rfl (cell_one_new _ _ _) (by simp [Value.oneCell']) (by decide) HMAX.out HBYT.out HBASE.out (w4.heap.size + 1) (by simp) ?_; intro g cap w5 hown5 hg5 hat5 hlt5)
          have HON := Lib.hid hown5
          have HBN := Lib.hid ((below_then HB9.out (HBD.out.alloc hsz4 (.cells #[.int .i64 z] 3)) HB9.out.size).grown hg5 HBASE.out (fun kk e => (HOW.out.lt _ e).1))
          clear hown5 hg5 hat5 hlt5
          go_wp2
          go_roundw
          case rel => exact ⟨k + 1, some ⟨g, 0, none⟩, cap, by omega, by go_num, rfl, by rw [HNX.out, numsC_snoc]; exact HON.out, HBN.out⟩
          case measure => simp [intOf]; omega
        · obtain rfl : k = n := by omega
          have HFR := Lib.hid (own_freshC HOWN.out)
          have HBB := Lib.hid (below_then HF.out HB9.out HF.out.size)
          have hk1 : 1 ≤ k := by omega
          have HLEN := Lib.hid (aloneI_len p cs k)
          have HNE : Hid (aloneI p cs k ≠ []) := fun h => by have := HLEN.out; rw [h] at this; simp at this; omega
          go_wp2_with fail
          refine (sliceMin_any D k d (aloneI p cs k) _ HFR.out.holds HLEN.out (by omega) (by omega)).mono ?_
          rintro e w5 ⟨rfl, rfl⟩
          go_wp2_with fail
          refine (sliceIndexF_any D k d (aloneI p cs k) (leastOf (aloneI p cs k)) _ HFR.out.holds HLEN.out (by omega) (leastOf_mem HNE.out)).mono ?_
          rintro e w5 ⟨r, hr, rfl, h1, h2, rfl⟩
          have HR := Lib.hid (best_unique (p := p) (cs := cs) (by omega) hr h1 h2)
          clear hr h1 h2
          go_wp2
          go_ret2
          exact ⟨by rw [best_yes HB.out, HB.out, HX.out, ← HR.out]; rfl, HBB.out⟩
end Go.Proofs.Ytgojakcepbdajaa

namespace Go.Proofs.Ytgojakcepbdajaa
open Go.RowKit

/-- The numbers of clues, one behind the other. -/
def flat (cs : List Cl) : List Int := cs.flatMap fun c => [c.1, c.2.1, c.2.2]
theorem clsC_flat (cs : List Cl) : clsC cs = nums (flat cs) := by
  induction cs with
  | nil => rfl
  | cons c cs ih =>
    show (clC c).toList ++ clsC cs = _
    rw [ih]
    simp [flat, nums, clC]
theorem flat_len (cs : List Cl) : (flat cs).length = cs.length * 3 := by
  have h := clsC_len cs
  rw [clsC_flat, nums_len] at h
  exact h
theorem flat_get {cs : List Cl} {k : Nat} (hk : k < cs.length) :
    (flat cs)[k * 3]'(by rw [flat_len]; omega) = cs[k].1 ∧ (flat cs)[k * 3 + 1]'(by rw [flat_len]; omega) = cs[k].2.1 ∧ (flat cs)[k * 3 + 2]'(by rw [flat_len]; omega) = cs[k].2.2 := by
  have h0 := clsC_at (cs := cs) hk (j := 0) (by omega)
  have h1 := clsC_at (cs := cs) hk (j := 1) (by omega)
  have h2 := clsC_at (cs := cs) hk (j := 2) (by omega)
  simp only [clsC_flat, nums, List.getElem?_map, List.getElem?_eq_getElem (show k * 3 + 0 < (flat cs).length by rw [flat_len]; omega), List.getElem?_eq_getElem (show k * 3 + 1 < (flat cs).length by rw [flat_len]; omega), List.getElem?_eq_getElem (show k * 3 + 2 < (flat cs).length by rw [flat_len]; omega), clC, Option.map_some] at h0 h1 h2
  simp at h0 h1 h2
  exact ⟨h0, h1, h2⟩
theorem filled_row {cs : List Cl} {k : Nat} (hk : k < cs.length) : (((filled (flat cs) (k * 3)).setIfInBounds (k * 3) (.int .i64 cs[k].1)).setIfInBounds (k * 3 + 1) (.int .i64 cs[k].2.1)).setIfInBounds (k * 3 + 2) (.int .i64 cs[k].2.2) = filled (flat cs) ((k + 1) * 3) := by
  obtain ⟨h0, h1, h2⟩ := flat_get hk
  rw [← h0, ← h1, ← h2, filled_next _ (by rw [flat_len]; omega), filled_next _ (by rw [flat_len]; omega), filled_next _ (by rw [flat_len]; omega)]
  rw [show k * 3 + 2 + 1 = (k + 1) * 3 by omega]
theorem filled_some (xs : List Int) (k : Nat) {j : Nat} (hj : j < xs.length) : ∃ u, (filled xs k)[j]? = some u := by
  have h : j < (filled xs k).size := by simp [filled, nums]; omega
  exact ⟨_, Array.getElem?_eq_getElem h⟩
theorem made_zeros3 (n : Nat) : madeCells (Value.agg #[.int .i64 0, .int .i64 0, .int .i64 0]).cells (n * 3) = (nums (List.replicate (n * 3) 0)).toArray := by
  apply Array.ext_getElem?
  intro j
  have hm : j % 3 = 0 ∨ j % 3 = 1 ∨ j % 3 = 2 := by omega
  simp only [madeCells, nums, Value.cells]
  by_cases h : j < n * 3
  · rcases hm with hm | hm | hm <;> simp [h, hm]
  · simp [h]
theorem info_clue : (Try.prog.info? 69).map (fun i => (i.zero, i.size, i.bytes)) = some (some (.agg #[.int .i64 0, .int .i64 0, .int .i64 0]), 3, 24) := by kernel_rfl

set_option maxHeartbeats 400000 in
theorem toClue_any (k a b : Int) (w : World) : Calls Try.prog 68 #[.agg #[.int .i64 k, .int .i64 a, .int .i64 b]] w fun e w' => e = .returned (.agg #[.int .i64 k, .int .i64 a, .int .i64 b]) ∧ Below w.heap.size w w' := by
  go_enter Try.func68, Try.ntmps68
  go_wp2
  exact bodyPost_ret (v := .agg #[.int .i64 k, .int .i64 a, .int .i64 b]) (by simp [results, Try.results68, go_sem]) rfl ⟨rfl, below3 w _ _ _⟩

set_option maxHeartbeats 400000 in
theorem szClueS_any (A : Option Addr) (n c : Nat) (l : Int) (w : World) (hn : n ≤ 9223372036854775807) (h0 : 0 ≤ l) (h1 : l ≤ 1048576) :
    Calls Try.prog 36 #[.slice A n c, .int .i64 l] w fun e w' => e = .returned (.int .i64 (if l < n then -1 else l - n)) ∧ w = w' := by
  by_cases h : l < n
  · have h' : l - n < 0 := by omega
    go_enter Try.func36, Try.ntmps36
    go_wp2
    go_ret
    exact ⟨rfl, rfl⟩
  · have h' : ¬ l - n < 0 := by omega
    go_enter Try.func36, Try.ntmps36
    go_wp2
    go_ret
    exact ⟨rfl, rfl⟩

set_option maxHeartbeats 400000 in
theorem szPuzzle_any (s : Int) (A : Option Addr) (n c : Nat) (l : Int) (w : World) (hn : n ≤ 9223372036854775807) (h0 : 0 ≤ l) (h1 : l ≤ 1048576) :
    Calls Try.prog 17 #[.agg #[.int .i64 s, .slice A n c], .int .i64 l] w fun e w' => e = .returned (.int .i64 (if l < n then -1 else l - n)) ∧ Below w.heap.size w w' := by
  by_cases h : l < n
  all_goals
    go_enter Try.func17, Try.ntmps17
    go_wp2_with fail
    refine (szClueS_any A n c l _ hn h0 h1).mono ?_
    rintro e w' ⟨rfl, rfl⟩
    first | rw [if_pos (by assumption)] | rw [if_neg (by omega)]
    go_wp2
    go_ret
    exact ⟨rfl, (Below.refl _ _).alloc (Nat.le_refl _) _⟩

set_option maxHeartbeats 1600000 in
theorem toClueS_own (A : Option Addr) (n c : Nat) (cs : List Cl) (w : World) (hA : Holds w A (clsC cs)) (hx : cs.length = n) (hn : n ≤ 1048576) :
    Calls Try.prog 40 #[.slice A n c] w fun e w' => e = .returned (.slice (some ⟨w.heap.size, 0, none⟩) n n) ∧ Whole w' w.heap.size 69 (clsC cs).toArray ∧ Below w.heap.size w w' := by
  subst hx
  obtain ⟨i0, hi, hz0, hz1, hz2⟩ := info_parts info_clue
  have hmk : ∀ W : World, (Instr.makeSlice 35 (.int .i64 (cs.length : Int)) (.int .i64 (cs.length : Int))).run Try.prog W = .ok (.slice (some ⟨W.heap.size, 0, none⟩) cs.length cs.length) (W.alloc (.cells (filled (flat cs) 0) 69)) := by
    intro W
    have h := run_make (P := Try.prog) W 35 69 i0 _ Try.underlying35 hi hz0 .i64 .i64 cs.length cs.length (by omega) (by omega) (by rw [hz2]; omega) (by omega)
    simp only [Int.toNat_natCast, hz1, made_zeros3] at h
    rw [h]
    simp [filled, flat_len]
  clear hi hz0 hz1 hz2
  go_enter Try.func40, Try.ntmps40
  go_wp2
  have h0 := Whole.fresh w 69 (filled (flat cs) 0)
  have hb0 : Below w.heap.size w (w.alloc (.cells (filled (flat cs) 0) 69)) := (Below.refl _ _).alloc (Nat.le_refl _) _
  go_loopw [4] (fun i wr => ∃ k : Nat, k ≤ cs.length ∧ i = .int .i64 k ∧ Whole wr w.heap.size 69 (filled (flat cs) (k * 3)) ∧ Below w.heap.size w wr) (fun i _ => cs.length - (intOf i).toNat)
  case atStart => exact ⟨0, Nat.zero_le _, rfl, h0, hb0⟩
  case round =>
    obtain ⟨k, hk, rfl, hw, hb⟩ := hrel
    clear hmk h0 hb0
    by_cases hlt : k < cs.length
    · obtain ⟨b, o, rfl, hbl, c0, c1, c2⟩ := cls_look (hA.below hb) hlt
      obtain ⟨⟨x1, x2, x3⟩, hx⟩ : ∃ x, x = cs[k] := ⟨_, rfl⟩
      rw [← hx] at c0 c1 c2
      dsimp only at c0 c1 c2
      have hkl : (k : Int) < cs.length := by omega
      have HW := Lib.hid hw
      have HB := Lib.hid hb
      have HX := Lib.hid hx
      clear hw hb hx
      go_wp2_with fail
      refine (toClue_any x1 x2 x3 _).mono ?_
      rintro e w2 ⟨rfl, hb2⟩
      have hw2 := HW.out.below hb2
      have hlt2 := hw2.lt
      obtain ⟨v0, d0⟩ := filled_some (flat cs) (k * 3) (j := k * 3) (by rw [flat_len]; omega)
      obtain ⟨v1, d1⟩ := filled_some (flat cs) (k * 3) (j := k * 3 + 1) (by rw [flat_len]; omega)
      obtain ⟨v2, d2⟩ := filled_some (flat cs) (k * 3) (j := k * 3 + 2) (by rw [flat_len]; omega)
      have e0 := (hw2.cell (k * 3)).trans d0
      have e1 := (hw2.cell (k * 3 + 1)).trans d1
      have e2 := (hw2.cell (k * 3 + 2)).trans d2
      have f0 := hw2.open_ (k * 3)
      have f1 := hw2.open_ (k * 3 + 1)
      have f2 := hw2.open_ (k * 3 + 2)
      have hn2 := ((hw2.set_ (k * 3) (.int .i64 x1)).set_ (k * 3 + 1) (.int .i64 x2)).set_ (k * 3 + 2) (.int .i64 x3)
      have hrow := filled_row hlt
      rw [← HX.out] at hrow
      dsimp only at hrow
      rw [hrow] at hn2
      have HN := Lib.hid hn2
      have HB2 := Lib.hid (HB.out.trans (hb2.mono HB.out.size))
      clear hn2 hrow hw2 hb2 d0 d1 d2
      go_wp2
      go_roundw
      case rel => exact ⟨k + 1, by omega, by go_num, HN.out, ((HB2.out.setCell (p := ⟨w.heap.size, k * 3, none⟩) (Nat.le_refl _) _).setCell (p := ⟨w.heap.size, k * 3 + 1, none⟩) (Nat.le_refl _) _).setCell (p := ⟨w.heap.size, k * 3 + 2, none⟩) (Nat.le_refl _) _⟩
      case measure => simp [intOf]; omega
    · have hkn : k = cs.length := by omega
      subst hkn
      have hd : filled (flat cs) (cs.length * 3) = (clsC cs).toArray := by rw [← flat_len, filled_done, clsC_flat]
      rw [hd] at hw
      have HW := Lib.hid hw
      clear hw hd
      go_wp2
      go_ret
      exact ⟨rfl, HW.out, hb⟩

set_option maxHeartbeats 800000 in
theorem toPuzzle_own (s : Int) (A : Option Addr) (n c : Nat) (cs : List Cl) (w : World) (hA : Holds w A (clsC cs)) (hx : cs.length = n) (hn : n ≤ 1048576) :
    Calls Try.prog 19 #[.agg #[.int .i64 s, .slice A n c]] w fun e w' => ∃ g, e = .returned (.agg #[.int .i64 s, .slice (some ⟨g, 0, none⟩) n n]) ∧ w.heap.size ≤ g ∧ Whole w' g 69 (clsC cs).toArray ∧ Below w.heap.size w w' := by
  have HX := Lib.hid hx
  clear hx
  have hy0 := (Whole.fresh (w.alloc (.cells #[.int .i64 s, .slice A n c] 32)) 37 #[.int .i64 0, .slice none 0 0]).alloc (.cells #[.int .i64 s, .slice none 0 0] 37)
  have hz0 := Whole.fresh ((w.alloc (.cells #[.int .i64 s, .slice A n c] 32)).alloc (.cells #[.int .i64 0, .slice none 0 0] 37)) 37 #[.int .i64 s, .slice none 0 0]
  simp only [World.size_alloc] at hy0 hz0
  have HY := Lib.hid hy0
  have HZ := Lib.hid hz0
  clear hy0 hz0
  go_enter Try.func19, Try.ntmps19
  go_wp2_with fail
  refine (toClueS_own A n c cs _ (((hA.alloc _).alloc _).alloc _) HX.out hn).mono ?_
  rintro e w1 ⟨rfl, hw, hb⟩
  have hy1 := HY.out.below hb
  have hz1 := HZ.out.below hb
  obtain ⟨y0, y1⟩ := hy1.cells2
  obtain ⟨z0, z1⟩ := hz1.cells2
  have yf0 := hy1.open_ 0
  have yf1 := hy1.open_ 1
  have zf1 := hz1.open_ 1
  have hbs := hb.size
  have hz : w.heap.size + 3 < w1.heap.size := by have := hw.lt; simp at this; omega
  have hw' : Whole w1 (w.heap.size + 1 + 1 + 1) 69 (clsC cs).toArray := by simpa using hw
  have hb' : Below w.heap.size w w1 := below_then (below3 w _ _ _) hb (by simp; omega)
  have HW := Lib.hid hw'
  have HB := Lib.hid hb'
  clear hw hb hy1 hz1 hw' hb'
  go_wp2
  refine bodyPost_ret (v := .agg #[.int .i64 s, .slice (some ⟨w.heap.size + 1 + 1 + 1, 0, none⟩) n n]) (by simp [results, Try.results19, go_sem, y0, y1, z0, z1]) rfl ⟨_, rfl, by omega, ?_, ?_⟩
  · exact ((HW.out.off (by omega)).off (by omega)).off (by omega)
  · exact below_set (below_set (below_set HB.out (by omega)) (by omega)) (by omega)
end Go.Proofs.Ytgojakcepbdajaa

namespace Go.Proofs.Ytgojakcepbdajaa
open Go.RowKit

set_option maxHeartbeats 400000 in
theorem eqClue_yes (k a b : Int) (w : World) : Calls Try.prog 72 #[.agg #[.int .i64 k, .int .i64 a, .int .i64 b], .agg #[.int .i64 k, .int .i64 a, .int .i64 b]] w fun e w' => e = .returned (.bool true) ∧ Below w.heap.size w w' := by
  have hk : (k != k) = false := by simp
  have ha : (a != a) = false := by simp
  have hb : (b != b) = false := by simp
  go_enter Try.func72, Try.ntmps72
  go_wp2
  go_ret
  exact ⟨rfl, below2 w _ _⟩

set_option maxHeartbeats 1600000 in
theorem eqClueS_yes (A B : Option Addr) (n c d : Nat) (cs : List Cl) (w : World) (hA : Holds w A (clsC cs)) (hB : Holds w B (clsC cs)) (hx : cs.length = n) (hn : n ≤ 9223372036854775807) :
    Calls Try.prog 42 #[.slice A n c, .slice B n d] w fun e w' => e = .returned (.bool true) ∧ Below w.heap.size w w' := by
  subst hx
  have hll : ((cs.length : Int) != (cs.length : Int)) = false := by simp
  go_enter Try.func42, Try.ntmps42
  go_wp2
  go_loopw [5] (fun i wr => ∃ k : Nat, k ≤ cs.length ∧ i = .int .i64 k ∧ Below w.heap.size w wr) (fun i _ => cs.length - (intOf i).toNat)
  case atStart => exact ⟨0, Nat.zero_le _, rfl, Below.refl _ _⟩
  case round =>
    obtain ⟨k, hk, rfl, hb⟩ := hrel
    by_cases hlt : k < cs.length
    · obtain ⟨b, o, rfl, hbl, c0, c1, c2⟩ := cls_look (hA.below hb) hlt
      obtain ⟨b', o', rfl, hbl', d0, d1, d2⟩ := cls_look (hB.below hb) hlt
      obtain ⟨⟨x1, x2, x3⟩, hx⟩ : ∃ x, x = cs[k] := ⟨_, rfl⟩
      rw [← hx] at c0 c1 c2 d0 d1 d2
      dsimp only at c0 c1 c2 d0 d1 d2
      have hkl : (k : Int) < cs.length := by omega
      have HB := Lib.hid hb
      clear hb hx
      go_wp2_with fail
      go_region_held3 (fun w' => (w'.cell? ⟨b, o + k * 3, none⟩ = some (.int .i64 x1) ∧ w'.cell? ⟨b, o + k * 3 + 1, none⟩ = some (.int .i64 x2) ∧ w'.cell? ⟨b, o + k * 3 + 2, none⟩ = some (.int .i64 x3)) ∧ (w'.cell? ⟨b', o' + k * 3, none⟩ = some (.int .i64 x1) ∧ w'.cell? ⟨b', o' + k * 3 + 1, none⟩ = some (.int .i64 x2) ∧ w'.cell? ⟨b', o' + k * 3 + 2, none⟩ = some (.int .i64 x3))) (go_keep)
        (first | (go_at_call 72; refine (eqClue_yes x1 x2 x3 _).mono ?_; rintro e w2 ⟨rfl, hb2⟩; have hb3 : Below wr.heap.size wr w2 := below_then (Below.refl wr.heap.size wr).drew hb2 (Nat.le_refl _); have e0 := (hb3.cell (p := ⟨b, o + k * 3, none⟩) hbl).trans c0; have e1 := (hb3.cell (p := ⟨b, o + k * 3 + 1, none⟩) hbl).trans c1; have e2 := (hb3.cell (p := ⟨b, o + k * 3 + 2, none⟩) hbl).trans c2; have g0 := (hb3.cell (p := ⟨b', o' + k * 3, none⟩) hbl').trans d0; have g1 := (hb3.cell (p := ⟨b', o' + k * 3 + 1, none⟩) hbl').trans d1; have g2 := (hb3.cell (p := ⟨b', o' + k * 3 + 2, none⟩) hbl').trans d2; have HB3 := Lib.hid (below_then HB.out hb3 HB.out.size); clear hb2 hb3) | fail)
      go_wp2
      go_roundw
      case rel => exact ⟨k + 1, by omega, by go_num, HB3.out⟩
      case measure => simp [intOf]; omega
    · have HB := Lib.hid hb
      clear hb
      go_wp2
      go_ret
      exact ⟨rfl, HB.out⟩

set_option maxHeartbeats 400000 in
theorem eqPuzzle_yes (A B : Option Addr) (n c d : Nat) (cs : List Cl) (s : Int) (w : World) (hA : Holds w A (clsC cs)) (hB : Holds w B (clsC cs)) (hx : cs.length = n) (hn : n ≤ 9223372036854775807) :
    Calls Try.prog 21 #[.agg #[.int .i64 s, .slice A n c], .agg #[.int .i64 s, .slice B n d]] w fun e w' => e = .returned (.bool true) ∧ Below w.heap.size w w' := by
  have HX := Lib.hid hx
  clear hx
  have hss : (s != s) = false := by simp
  have hb2 := below2 w (.cells #[.int .i64 s, .slice A n c] 37) (.cells #[.int .i64 s, .slice B n d] 37)
  have HB2 := Lib.hid hb2
  have HA := Lib.hid (hA.below hb2)
  have HB := Lib.hid (hB.below hb2)
  clear hA hB hb2
  go_enter Try.func21, Try.ntmps21
  go_wp2_with fail
  refine (eqClueS_yes A B n c d cs _ HA.out HB.out HX.out hn).mono ?_
  rintro e w1 ⟨rfl, hb⟩
  have HF := Lib.hid (below_then HB2.out hb HB2.out.size)
  clear hb
  go_wp2
  go_ret
  exact ⟨rfl, HF.out⟩
end Go.Proofs.Ytgojakcepbdajaa

namespace Go.Proofs.Ytgojakcepbdajaa
open Go.RowKit

set_option maxHeartbeats 800000 in
set_option linter.unusedVariables false in
theorem lawBestClue_big0 (k0 : Int) (A0 : Option Addr) (n0 c0 : Nat) (x0 : List Cl) (w : World) (h0 : Holds w A0 (clsC x0)) (hx0 : x0.length = n0) (hn0 : n0 ≤ 9223372036854775807)  (hbig : 1048576 - (n0 : Int) < 0) :
    Calls Try.prog 7 #[.agg #[.int .i64 k0, .slice A0 n0 c0]] w fun e w' => e = .returned (.bool true) ∧ Below w.heap.size w w' := by
  have hb0 := (Whole.fresh w 32 #[.int .i64 k0, .slice A0 n0 c0])
  have ht := below1 w (.cells #[.int .i64 k0, .slice A0 n0 c0] 32)
  have HX0 := Lib.hid hx0
  clear hx0
  obtain ⟨hb0_0, hb0_1⟩ := hb0.cells2
  have hb0_l := hb0.lt
  go_enter Try.func7, Try.ntmps7
  go_wp2_with fail
  refine (szPuzzle_any k0 A0 n0 c0 (1048576) _ (by omega) (by omega) (by omega)).mono ?_
  rintro e v1 ⟨rfl, hb⟩
  rw [if_pos (by omega)]
  have hz1 : w.heap.size + 1 ≤ v1.heap.size := by have := hb.size; simpa using this
  replace ht := below_then ht hb ht.size
  replace hb0 := hb0.below hb
  clear hb
  clear hb0_0 hb0_1 hb0_l
  go_wp2
  go_ret
  exact ⟨rfl, ht⟩

set_option maxHeartbeats 12800000 in
set_option maxRecDepth 100000 in
set_option linter.unusedSimpArgs false in
set_option linter.unusedVariables false in
theorem lawBestClue_small (k0 : Int) (A0 : Option Addr) (n0 c0 : Nat) (x0 : List Cl) (w : World) (h0 : Holds w A0 (clsC x0)) (hx0 : x0.length = n0) (hn0 : n0 ≤ 9223372036854775807) (g0 : 0 ≤ 1048576 - (n0 : Int)) :
    Calls Try.prog 7 #[.agg #[.int .i64 k0, .slice A0 n0 c0]] w fun e w' => e = .returned (.bool true) ∧ Below w.heap.size w w' := by
  have hb0 := (Whole.fresh w 32 #[.int .i64 k0, .slice A0 n0 c0])
  have ht := below1 w (.cells #[.int .i64 k0, .slice A0 n0 c0] 32)
  have HX0 := Lib.hid hx0
  clear hx0
  obtain ⟨hb0_0, hb0_1⟩ := hb0.cells2
  have hb0_l := hb0.lt
  go_enter Try.func7, Try.ntmps7
  -- region 2
  go_wp2_with fail
  refine (szPuzzle_any k0 A0 n0 c0 (1048576) _ (by omega) (by omega) (by omega)).mono ?_
  rintro e v1 ⟨rfl, hb⟩
  rw [if_neg (by omega)]
  have hz1 : w.heap.size + 1 ≤ v1.heap.size := by have := hb.size; simpa using this
  replace ht := below_then ht hb ht.size
  replace hb0 := hb0.below hb
  clear hb
  clear hb0_0 hb0_1 hb0_l
  obtain ⟨hb0_0, hb0_1⟩ := hb0.cells2
  have hb0_l := hb0.lt
  -- region 5
  go_wp2_with fail
  refine (toPuzzle_own k0 A0 n0 c0 x0 _ (by exact h0.below ht) HX0.out (by omega)).mono ?_
  rintro e v2 ⟨gp0, rfl, hgp0, hwp0, hb⟩
  have hz2 : v1.heap.size ≤ v2.heap.size := by have := hb.size; simpa using this
  replace ht := below_then ht hb ht.size
  replace hb0 := hb0.below hb
  have hp0 := Fresh.of_whole (lo := v1.heap.size) (hi := v2.heap.size) hwp0 (by simpa using hgp0) hwp0.lt
  clear hgp0 hwp0
  clear hb
  clear hb0_0 hb0_1 hb0_l
  obtain ⟨hb0_0, hb0_1⟩ := hb0.cells2
  have hb0_l := hb0.lt
  go_wp2_with fail
  refine (specBestClue_any k0 _ _ n0 _ x0 _ (by exact hp0.holds) HX0.out (by omega) (Nat.le_refl _) (by omega)).mono ?_
  rintro e v3 ⟨rfl, hb⟩
  have hz3 : v2.heap.size ≤ v3.heap.size := by have := hb.size; simpa using this
  replace ht := below_then ht hb ht.size
  replace hb0 := hb0.below hb
  replace hp0 := hp0.below hb
  clear hb
  clear hp0
  clear hb0_0 hb0_1 hb0_l
  obtain ⟨hb0_0, hb0_1⟩ := hb0.cells2
  have hb0_l := hb0.lt
  -- region 6
  go_wp2_with fail
  refine (toPuzzle_own k0 A0 n0 c0 x0 _ (by exact h0.below ht) HX0.out (by omega)).mono ?_
  rintro e v4 ⟨gx0, rfl, hgx0, hwx0, hb⟩
  have hz4 : v3.heap.size ≤ v4.heap.size := by have := hb.size; simpa using this
  replace ht := below_then ht hb ht.size
  replace hb0 := hb0.below hb
  have hx0 := Fresh.of_whole (lo := v3.heap.size) (hi := v4.heap.size) hwx0 (by simpa using hgx0) hwx0.lt
  clear hgx0 hwx0
  clear hb
  have hx90 := Whole.fresh v4 37 #[.int .i64 k0, .slice (some ⟨gx0, 0, none⟩) n0 n0]
  replace ht := ht.alloc ht.size (.cells #[.int .i64 k0, .slice (some ⟨gx0, 0, none⟩) n0 n0] 37)
  replace hb0 := hb0.alloc (.cells #[.int .i64 k0, .slice (some ⟨gx0, 0, none⟩) n0 n0] 37)
  replace hx0 := hx0.alloc (.cells #[.int .i64 k0, .slice (some ⟨gx0, 0, none⟩) n0 n0] 37)
  clear hb0_0 hb0_1 hb0_l
  obtain ⟨hb0_0, hb0_1⟩ := hb0.cells2
  have hb0_l := hb0.lt
  obtain ⟨hx90_0, hx90_1⟩ := hx90.cells2
  have hx90_l := hx90.lt
  -- region 7
  go_wp2_with fail
  refine (implBestClue_any k0 _ _ n0 _ x0 _ (by exact hx0.holds) HX0.out (by omega) (Nat.le_refl _) (by omega)).mono ?_
  rintro e v5 ⟨rfl, hb⟩
  have hz5 : v4.heap.size + 1 ≤ v5.heap.size := by have := hb.size; simpa using this
  replace ht := below_then ht hb ht.size
  replace hb0 := hb0.below hb
  replace hx0 := hx0.below hb
  replace hx90 := hx90.below hb
  clear hb
  clear hb0_0 hb0_1 hb0_l hx90_0 hx90_1 hx90_l
  obtain ⟨hb0_0, hb0_1⟩ := hb0.cells2
  have hb0_l := hb0.lt
  obtain ⟨hx90_0, hx90_1⟩ := hx90.cells2
  have hx90_l := hx90.lt
  -- region 10
  clear hb0_0 hb0_1 hb0_l hx90_0 hx90_1 hx90_l
  go_wp2_with fail
  refine wp_region_held_drew (S := (fun w' => w'.cell? ⟨w.heap.size, 0, none⟩ = some (.int .i64 k0) ∧ w'.cell? ⟨w.heap.size, 1, none⟩ = some (.slice A0 n0 c0) ∧ w'.cell? ⟨v4.heap.size, 0, none⟩ = some (.int .i64 k0) ∧ w'.cell? ⟨v4.heap.size, 1, none⟩ = some (.slice (some ⟨gx0, 0, none⟩) n0 n0))) (by kernel_rfl) ⟨hb0.drew.cell 0, hb0.drew.cell 1, hx90.drew.cell 0, hx90.drew.cell 1⟩ (fun hHeld => ?_)
  replace ht := ht.drew
  replace hb0 := hb0.drew
  replace hx0 := hx0.drew
  replace hx90 := hx90.drew
  refine wpAnyH_take (i := 0) (v := ?_) rfl (by kernel_rfl) (by kernel_rfl) (by kernel_rfl) (fun _ _ _ h => h) (Or.inl ⟨rfl, ?_⟩) hHeld ?_
  rotate_left
  · intro w' hS; obtain ⟨s0, s1, s2, s3⟩ := hS; go_simp <;> with_reducible rfl
  simp only [Act.put, List.getElem_toArray, List.getElem_cons_succ, List.getElem_cons_zero, List.setIfInBounds_toArray, List.set_cons_succ, List.set_cons_zero]
  refine wpAnyH_take (i := 1) (v := ?_) rfl (by kernel_rfl) (by kernel_rfl) (by kernel_rfl) (fun _ _ _ h => h) (Or.inl ⟨rfl, ?_⟩) hHeld ?_
  rotate_left
  · intro w' hS; obtain ⟨s0, s1, s2, s3⟩ := hS; go_simp <;> with_reducible rfl
  simp only [Act.put, List.getElem_toArray, List.getElem_cons_succ, List.getElem_cons_zero, List.setIfInBounds_toArray, List.set_cons_succ, List.set_cons_zero]
  refine wpAnyH_ready (rs := [2]) (by kernel_rfl) (by simp) (AllReadyH.cons rfl (fun K hK => ?_) AllReadyH.nil)
  go_simp
  refine (toPuzzle_own k0 A0 n0 c0 x0 _ (by exact h0.below ht) HX0.out (by omega)).mono ?_
  rintro e v6 ⟨gy0, rfl, hgy0, hwy0, hb⟩
  have hz6 : v5.heap.size ≤ v6.heap.size := by have := hb.size; simpa using this
  replace ht := below_then ht hb ht.size
  replace hb0 := hb0.below hb
  replace hx0 := hx0.below hb
  replace hx90 := hx90.below hb
  have hy0 := Fresh.of_whole (lo := v5.heap.size) (hi := v6.heap.size) hwy0 (by simpa using hgy0) hwy0.lt
  clear hgy0 hwy0
  clear hb
  refine hK.out _ _ ⟨hb0.cell 0, hb0.cell 1, hx90.cell 0, hx90.cell 1⟩ (fun hHeld => ?_)
  clear hK K
  try simp only [Act.put, List.getElem_toArray, List.getElem_cons_succ, List.getElem_cons_zero, List.setIfInBounds_toArray, List.set_cons_succ, List.set_cons_zero]
  refine wpAnyH_ready (rs := [3]) (by kernel_rfl) (by simp) (AllReadyH.cons rfl (fun K hK => ?_) AllReadyH.nil)
  go_simp
  refine (eqPuzzle_yes _ _ n0 _ _ x0 k0 _ (by exact hx0.holds) (by exact hy0.holds) HX0.out (by omega)).mono ?_
  rintro e v7 ⟨rfl, hb⟩
  have hz7 : v6.heap.size ≤ v7.heap.size := by have := hb.size; simpa using this
  replace ht := below_then ht hb ht.size
  replace hb0 := hb0.below hb
  replace hx0 := hx0.below hb
  replace hx90 := hx90.below hb
  replace hy0 := hy0.below hb
  clear hb
  clear hy0
  refine hK.out _ _ ⟨hb0.cell 0, hb0.cell 1, hx90.cell 0, hx90.cell 1⟩ (fun hHeld => ?_)
  clear hK K
  try simp only [Act.put, List.getElem_toArray, List.getElem_cons_succ, List.getElem_cons_zero, List.setIfInBounds_toArray, List.set_cons_succ, List.set_cons_zero]
  refine wpAnyH_take (i := 4) (v := ?_) rfl (by kernel_rfl) (by kernel_rfl) (by kernel_rfl) (fun _ _ _ h => h) (Or.inl ⟨rfl, ?_⟩) hHeld ?_
  rotate_left
  · intro w' hS; obtain ⟨s0, s1, s2, s3⟩ := hS; go_simp <;> with_reducible rfl
  simp only [Act.put, List.getElem_toArray, List.getElem_cons_succ, List.getElem_cons_zero, List.setIfInBounds_toArray, List.set_cons_succ, List.set_cons_zero]
  refine wpAnyH_done (by kernel_rfl) ?_ _
  clear hHeld
  obtain ⟨hb0_0, hb0_1⟩ := hb0.cells2
  have hb0_l := hb0.lt
  obtain ⟨hx90_0, hx90_1⟩ := hx90.cells2
  have hx90_l := hx90.lt
  go_wp2
  go_ret
  exact ⟨rfl, ht⟩

theorem lawBestClue_all (k0 : Int) (A0 : Option Addr) (n0 c0 : Nat) (x0 : List Cl) (w : World) (h0 : Holds w A0 (clsC x0)) (hx0 : x0.length = n0) (hn0 : n0 ≤ 9223372036854775807) :
    Calls Try.prog 7 #[.agg #[.int .i64 k0, .slice A0 n0 c0]] w fun e w' => e = .returned (.bool true) ∧ Below w.heap.size w w' := by
  rcases (inferInstance : Decidable (0 ≤ 1048576 - (n0 : Int))) with g0 | g0
  · exact lawBestClue_big0 k0 A0 n0 c0 x0 w h0 hx0 hn0  (by omega)
  exact lawBestClue_small k0 A0 n0 c0 x0 w h0 hx0 hn0 g0
end Go.Proofs.Ytgojakcepbdajaa
