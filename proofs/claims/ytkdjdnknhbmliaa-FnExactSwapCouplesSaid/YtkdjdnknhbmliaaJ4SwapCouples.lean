/-
  What is proved: contracts of slices.Equal of numbers and of the program's state behind a row. Conditions: lists are read as they lie; at most four couples.
  What is proved: the contract of the model's list of a group told by bits. Conditions: eight bits.
  What is proved: contracts of the model's tests of a row, told by bits and told as a list. Conditions: at most four couples.
  What is proved: a contract of the model's test of a row told as a list. Conditions: at most four couples.
  What is proved: contracts of the model's test of a plan of rows. Conditions: the lists are read as they lie; at most four couples.
  What is proved: a contract of the model's IsCalmPlan. Conditions: the arguments are read as they lie.
  What is proved: two places compared by ==. Conditions: none.
  What is proved: the model's test of a row, on numbers of states, and the program's list of rows, on places, tell the same rows. Conditions: at most four couples.
  What is proved: a contract of the program's IsCalmPlan. Conditions: the arguments are read as they lie.
  What is proved: plain facts on lists of lists that a call hands back. Conditions: none.
  What is proved: the contract of slices.Sort at a list of numbers, in this program's numbers. Conditions: as each says.
  What is proved: contracts of SortParty, of the model and of the program. Conditions: the party's times are read as they lie.
-/
import Derived.Deep.RegionHeld3
import Derived.Deep.DeepCutAuto
import Derived.Shelf.Sort.Plain
import Derived.Test.YtkdjdnknhbmliaaProg
import Derived.Test.YtkdjdnknhbmliaaJ3SwapCouples
namespace Go.Proofs.Ytkdjdnknhbmliaa
open Go.RowKit

set_option maxHeartbeats 400000 in
theorem equalI_any (A B : Option Addr) (n m c d : Nat) (xs ys : List Int) (w : World) (hA : Holds w A (nums xs)) (hB : Holds w B (nums ys)) (hx : xs.length = n) (hy : ys.length = m)
    (hn : n ≤ 9223372036854775807) (hm : m ≤ 9223372036854775807) :
    Calls Try.prog 121 #[.slice A n c, .slice B m d] w fun e w' => e = .returned (.bool (sameInts xs ys)) ∧ ∃ k, w' = w.drewN k := by
  subst hx hy
  by_cases hl : xs.length = ys.length
  · have hl' : ((xs.length : Int) != (ys.length : Int)) = false := by simp [hl]
    have HL := Lib.hid hl
    clear hl
    go_enter Try.func121, Try.ntmps121
    go_wp2
    go_loopw [13] (fun i wr => ∃ k q : Nat, k ≤ xs.length ∧ i = .int .i64 k ∧ wr = w.drewN q ∧ xs.take k = ys.take k) (fun i _ => xs.length - (intOf i).toNat)
    case atStart => exact ⟨0, 0, Nat.zero_le _, rfl, rfl, rfl⟩
    case round =>
      obtain ⟨k, q, hk, rfl, rfl, ht⟩ := hrel
      have HT := Lib.hid ht
      clear ht
      by_cases hlt : k < xs.length
      · have hlt' : k < ys.length := by have := HL.out; omega
        obtain ⟨b, o, rfl, hb, hc⟩ := hA.look (k := k) (by simpa [nums] using hlt)
        obtain ⟨b', o', rfl, hb', hc'⟩ := hB.look (k := k) (by simpa [nums] using hlt')
        simp only [nums, List.getElem_map] at hc hc'
        by_cases he : xs[k] = ys[k]
        · have hne : (xs[k] != ys[k]) = false := by simp [he]
          have HE := Lib.hid he
          clear he
          go_wp2
          go_quiet (fail)
          go_wp2
          go_roundw
          case rel => exact ⟨k + 1, _, by omega, by go_num, rfl, take_next hlt hlt' HT.out HE.out⟩
          case measure => simp [intOf]; omega
        · have hne : (xs[k] != ys[k]) = true := by simp [he]
          have HN := Lib.hid (sameInts_no (fun h : xs = ys => he (by subst h; rfl)))
          clear he
          go_wp2
          go_quiet (fail)
          go_wp2
          go_ret
          exact ⟨by rw [HN.out]; rfl, q + _, World.drewN_drewN _ _ _⟩
      · have h1 := HT.out
        rw [List.take_of_length_le (by omega), List.take_of_length_le (by have := HL.out; omega)] at h1
        have HN := Lib.hid (sameInts_yes h1)
        clear h1
        go_wp2
        go_ret
        exact ⟨by rw [HN.out]; rfl, _, rfl⟩
  · have hl' : ((xs.length : Int) != (ys.length : Int)) = true := by simp; omega
    have HN := Lib.hid (sameInts_no (fun h : xs = ys => hl (by rw [h])))
    clear hl
    go_enter Try.func121, Try.ntmps121
    go_wp2
    go_ret
    exact ⟨by rw [HN.out]; rfl, 0, rfl⟩

theorem below_drewN {w : World} (k : Nat) : Below w.heap.size w (w.drewN k) := below_draws (Below.refl _ _) k

/-- The ten cells of a move in a list of moves. -/
theorem moves_row {w : World} {lo c : Nat} {A : Option Addr} {bs : List Bool} {t : Bool} {rs : List RowV} (h : Moves w lo A c bs t rs) {i : Nat} (hi : i < rs.length) :
    ∃ g, A = some ⟨g, 0, none⟩ ∧ g < w.heap.size ∧ w.cell? ⟨g, i * 10, none⟩ = some rs[i].val ∧ w.cell? ⟨g, i * 10 + 1, none⟩ = some (.bool ((flipped bs rs[i].xs).getD 0 false)) ∧ w.cell? ⟨g, i * 10 + 2, none⟩ = some (.bool ((flipped bs rs[i].xs).getD 1 false)) ∧ w.cell? ⟨g, i * 10 + 3, none⟩ = some (.bool ((flipped bs rs[i].xs).getD 2 false)) ∧ w.cell? ⟨g, i * 10 + 4, none⟩ = some (.bool ((flipped bs rs[i].xs).getD 3 false)) ∧ w.cell? ⟨g, i * 10 + 5, none⟩ = some (.bool ((flipped bs rs[i].xs).getD 4 false)) ∧ w.cell? ⟨g, i * 10 + 6, none⟩ = some (.bool ((flipped bs rs[i].xs).getD 5 false)) ∧ w.cell? ⟨g, i * 10 + 7, none⟩ = some (.bool ((flipped bs rs[i].xs).getD 6 false)) ∧ w.cell? ⟨g, i * 10 + 8, none⟩ = some (.bool ((flipped bs rs[i].xs).getD 7 false)) ∧ w.cell? ⟨g, i * 10 + 9, none⟩ = some (.bool (!t)) := by
  have hx := h.1
  obtain ⟨-, ⟨-, h0⟩ | ⟨g, cap, cur, hv, -, hh, -⟩⟩ := hx
  · omega
  · obtain ⟨rfl, rfl⟩ : A = some ⟨g, 0, none⟩ ∧ c = cap := by simpa using hv
    have hg : g < w.heap.size := (Array.getElem?_eq_some_iff.1 hh).1
    have hc : ∀ j, j < 10 → w.cell? ⟨g, i * 10 + j, none⟩ = (moveCells bs t rs[i])[j]? := fun j hj => (h.1.cellAt (i * 10 + j) (by omega)).trans (movesCells_get bs t rs i j hi hj)
    exact ⟨g, rfl, hg, hc 0 (by omega), hc 1 (by omega), hc 2 (by omega), hc 3 (by omega), hc 4 (by omega), hc 5 (by omega), hc 6 (by omega), hc 7 (by omega), hc 8 (by omega), hc 9 (by omega)⟩

/-- What stateBehind hands back. -/
def BehindPost (k q : Nat) (bs : List Bool) (t : Bool) (l : List Int) (w : World) (e : Ending) (w' : World) : Prop :=
  ((l ∈ rowsIn k q bs t ∧ e = .returned (.tuple #[.agg (placeCells (flipped bs l) (!t)), .bool true])) ∨ (l ∉ rowsIn k q bs t ∧ e = .returned (.tuple #[.agg (placeCells bs t), .bool false]))) ∧ Below w.heap.size w w'
theorem river_cell {w : World} {g k gG gC : Nat} {ty : TypeId} (h : Whole w g ty (riverCells k gG gC)) : w.cell? ⟨g, 18, none⟩ = some (.func (.func 117) #[] #[.pointer (some ⟨gG, 0, none⟩), .pointer (some ⟨gC, 0, none⟩)]) := h.cell 18

set_option maxHeartbeats 12800000 in
set_option maxRecDepth 100000 in
theorem stateBehind_any (k q gG gC g1 g3 g4 g : Nat) (A D : Option Addr) (c n d : Nat) (bs : List Bool) (t : Bool) (l : List Int) (w : World) (hk : k ≤ 4) (hbs : bs.length = 2 * k) (hF : RowsFn w k gG gC g1 g3 g4 g A c (groupsOf k q)) (hD : Holds w D (nums l)) (hl : l.length = n) (hn : n ≤ 9223372036854775807) :
    Calls Try.prog 75 #[.agg (riverCells k gG gC), .agg (placeCells bs t), .slice D n d] w (BehindPost k q bs t l w) := by
  have HL := Lib.hid hl
  have HBS := Lib.hid hbs
  obtain ⟨f, hf⟩ : ∃ f : Nat → Bool, f = fun i => bs.getD i false := ⟨_, rfl⟩
  have HPL : Hid (placeCells bs t = place9 f t) := by show _ = _; rw [place_nine9, hf]
  have hr := ((Whole.fresh w 96 (riverCells k gG gC)).alloc (.cells (place9 f t) 90)).alloc (.cells (place9 (fun _ => false) false) 90)
  have hp := (Whole.fresh (w.alloc (.cells (riverCells k gG gC) 96)) 90 (place9 f t)).alloc (.cells (place9 (fun _ => false) false) 90)
  have hz := Whole.fresh ((w.alloc (.cells (riverCells k gG gC) 96)).alloc (.cells (place9 f t) 90)) 90 (place9 (fun _ => false) false)
  simp only [World.size_alloc] at hp hz
  have ht := below3 w (.cells (riverCells k gG gC) 96) (.cells (place9 f t) 90) (.cells (place9 (fun _ => false) false) 90)
  have hF1 := ((hF.alloc (.cells (riverCells k gG gC) 96)).alloc (.cells (place9 f t) 90)).alloc (.cells (place9 (fun _ => false) false) 90)
  rw [HPL.out]
  have e18 := river_cell hr
  have HP := Lib.hid hp
  have HZ := Lib.hid hz
  have HT := Lib.hid ht
  have HF := Lib.hid hF1
  clear hl hbs hf hF hF1 hr hp hz ht
  unfold place9 at HP HZ HT HF e18
  unfold place9
  unfold riverCells rowsFnV at HP HZ HT HF e18
  unfold riverCells rowsFnV
  go_enter Try.func75, Try.ntmps75
  go_wp2_with fail
  have hrf := rowsFn_any k q gG gC g1 g3 g4 g A c bs t _ hk HBS.out HF.out
  rw [HPL.out] at hrf
  unfold place9 at hrf
  refine hrf.mono ?_
  clear hrf
  rintro e w1 ⟨A1, c1, rs, rfl, hrn, hM, hb⟩
  have HP1 := Lib.hid (HP.out.below hb)
  have HZ1 := Lib.hid (HZ.out.below hb)
  have HT1 := Lib.hid (below_then HT.out hb HT.out.size)
  have HM := Lib.hid hM
  have HRN := Lib.hid hrn
  have hrl : rs.length ≤ 255 := by have h1 := congrArg List.length hrn; have h2 := among_len k bs t (groupsOf k q); have h3 := groups_small (q := q) hk; rw [rowNums_len] at h1; rw [rowsIn] at h1; omega
  clear HP HZ HT HF e18 hb hM hrn
  go_wp2
  go_loopw [15] (fun i wr => ∃ j : Nat, j ≤ rs.length ∧ i = .int .i64 j ∧ Below w1.heap.size w1 wr ∧ ∀ i (hi : i < rs.length), i < j → rs[i].xs ≠ l) (fun i _ => rs.length - (intOf i).toNat)
  case atStart => exact ⟨0, Nat.zero_le _, rfl, Below.refl _ _, fun i _ h => absurd h (by omega)⟩
  case round =>
    obtain ⟨j, hj, rfl, hb, hno⟩ := hrel
    have HNO := Lib.hid hno
    have hT := below_then HT1.out hb HT1.out.size
    have hZ := HZ1.out.below hb
    have hP := HP1.out.below hb
    clear hno
    obtain ⟨z0, z1, z2, z3, z4, z5, z6, z7⟩ := row8_of (f := fun _ => false) (t := false) hZ
    have z8 : wr.cell? ⟨w.heap.size + 1 + 1, 8, none⟩ = some (.bool false) := hZ.cell 8
    obtain ⟨y0, y1, y2, y3, y4, y5, y6, y7, y8⟩ := place_open hZ
    have hzl := hZ.lt
    by_cases hlt : j < rs.length
    · have hd : decide ((j : Int) < (rs.length : Int)) = true := by simp; omega
      have hMr := HM.out.below hb
      obtain ⟨gm, rfl, hgl, a0, a1, a2, a3, a4, a5, a6, a7, a8, a9⟩ := moves_row hMr hlt
      have hok := hMr.2.ok rs[j] (List.getElem_mem hlt)
      have hmem : rs[j].xs ∈ rowNums rs := List.mem_map.2 ⟨rs[j], List.getElem_mem hlt, rfl⟩
      rw [HRN.out] at hmem
      have HMEM := Lib.hid hmem
      have HSTEP : Hid (rs[j].xs ≠ l → ∀ i (hi : i < rs.length), i < j + 1 → rs[i].xs ≠ l) := fun hne i hi hij => by
        rcases Nat.lt_succ_iff_lt_or_eq.1 hij with h | rfl
        · exact HNO.out i hi h
        · exact hne
      obtain ⟨f', hf'⟩ : ∃ f' : Nat → Bool, f' = fun i => (flipped bs rs[j].xs).getD i false := ⟨_, rfl⟩
      have HPF : Hid (placeCells (flipped bs rs[j].xs) (!t) = place9 f' (!t)) := by show _ = _; rw [place_nine9, hf']
      replace a1 : wr.cell? ⟨gm, j * 10 + 1, none⟩ = some (.bool (f' 0)) := by rw [a1, hf']
      replace a2 : wr.cell? ⟨gm, j * 10 + 2, none⟩ = some (.bool (f' 1)) := by rw [a2, hf']
      replace a3 : wr.cell? ⟨gm, j * 10 + 3, none⟩ = some (.bool (f' 2)) := by rw [a3, hf']
      replace a4 : wr.cell? ⟨gm, j * 10 + 4, none⟩ = some (.bool (f' 3)) := by rw [a4, hf']
      replace a5 : wr.cell? ⟨gm, j * 10 + 5, none⟩ = some (.bool (f' 4)) := by rw [a5, hf']
      replace a6 : wr.cell? ⟨gm, j * 10 + 6, none⟩ = some (.bool (f' 5)) := by rw [a6, hf']
      replace a7 : wr.cell? ⟨gm, j * 10 + 7, none⟩ = some (.bool (f' 6)) := by rw [a7, hf']
      replace a8 : wr.cell? ⟨gm, j * 10 + 8, none⟩ = some (.bool (f' 7)) := by rw [a8, hf']
      clear hmem hf' hMr
      generalize rs[j] = r at a0 hok HMEM HSTEP HPF
      obtain ⟨rA, rn, rc, rx⟩ := r
      obtain ⟨hk1, hk2, hk3⟩ := hok
      simp only at hk1 hk2 hk3 HMEM HSTEP HPF
      unfold RowV.val at a0
      simp only at a0
      have HK1 := Lib.hid hk1
      have HK2 := Lib.hid hk2
      have HDR := Lib.hid (hD.below hT)
      have HBW := Lib.hid hb
      have HTW := Lib.hid hT
      clear hk1 hk2 hb hT
      go_wp2_with fail
      refine (equalI_any rA D rn n rc d rx l _ (HK1.out.alloc _) (HDR.out.alloc _) HK2.out HL.out hk3 hn).mono ?_
      rintro e w2 ⟨rfl, kk, rfl⟩
      by_cases he : rx = l
      · subst he
        rw [sameInts_yes rfl]
        have HT2 := Lib.hid (below_draws (HTW.out.alloc HTW.out.size (.cells #[.slice rA rn rc, .bool (f' 0), .bool (f' 1), .bool (f' 2), .bool (f' 3), .bool (f' 4), .bool (f' 5), .bool (f' 6), .bool (f' 7), .bool (!t)] 99)) kk)
        have hZ2 : Whole (World.drewN (wr.alloc (.cells #[.slice rA rn rc, .bool (f' 0), .bool (f' 1), .bool (f' 2), .bool (f' 3), .bool (f' 4), .bool (f' 5), .bool (f' 6), .bool (f' 7), .bool (!t)] 99)) kk) (w.heap.size + 1 + 1) 90 (place9 (fun _ => false) false) := hZ.alloc _
        clear HK1 HK2 a0 a1 a2 a3 a4 a5 a6 a7 a8 a9 hP hZ z0 z1 z2 z3 z4 z5 z6 z7 z8 y0 y1 y2 y3 y4 y5 y6 y7 y8
        obtain ⟨z0, z1, z2, z3, z4, z5, z6, z7⟩ := row8_of hZ2
        have z8 := hZ2.cell 8
        replace z8 : World.cell? (World.drewN (wr.alloc (.cells #[.slice rA rn rc, .bool (f' 0), .bool (f' 1), .bool (f' 2), .bool (f' 3), .bool (f' 4), .bool (f' 5), .bool (f' 6), .bool (f' 7), .bool (!t)] 99)) kk) ⟨w.heap.size + 1 + 1, 8, none⟩ = some (.bool false) := z8
        obtain ⟨y0, y1, y2, y3, y4, y5, y6, y7, y8⟩ := place_open hZ2
        go_wp2
        refine bodyPost_ret (v := .tuple #[.agg (place9 f' (!t)), .bool true]) (by simp [results, Try.results75, go_sem, z0, z1, z2, z3, z4, z5, z6, z7, z8, place9]) rfl ⟨.inl ⟨HMEM.out, by rw [HPF.out]⟩, ?_⟩
        exact set_place HT2.out (by omega)
      · rw [sameInts_no he]
        have HST := Lib.hid (HSTEP.out he)
        have HB2 := Lib.hid (below_draws (HBW.out.alloc HBW.out.size (.cells #[.slice rA rn rc, .bool (f' 0), .bool (f' 1), .bool (f' 2), .bool (f' 3), .bool (f' 4), .bool (f' 5), .bool (f' 6), .bool (f' 7), .bool (!t)] 99)) kk)
        clear HK1 HK2 a0 a1 a2 a3 a4 a5 a6 a7 a8 a9 hP hZ
        go_wp2
        go_roundw
        case rel => exact ⟨j + 1, by omega, by go_num, HB2.out, HST.out⟩
        case measure => simp [intOf]; omega
    · obtain rfl : j = rs.length := by omega
      have hd : decide ((rs.length : Int) < (rs.length : Int)) = false := by simp
      have HNI : Hid (l ∉ rowsIn k q bs t) := fun h => by
        rw [← HRN.out] at h
        obtain ⟨r, hr, he⟩ := List.mem_map.1 h
        obtain ⟨i, hi, rfl⟩ := List.getElem_of_mem hr
        exact HNO.out i hi hi he
      obtain ⟨p0, p1, p2, p3, p4, p5, p6, p7⟩ := row8_of (f := f) (t := t) hP
      have p8 : wr.cell? ⟨w.heap.size + 1, 8, none⟩ = some (.bool t) := hP.cell 8
      have HTW := Lib.hid hT
      clear hP hZ hT hb
      go_wp2
      refine bodyPost_ret (v := .tuple #[.agg (place9 f t), .bool false]) (by simp [results, Try.results75, go_sem, z0, z1, z2, z3, z4, z5, z6, z7, z8, place9]) rfl ⟨.inr ⟨HNI.out, by rw [HPL.out]⟩, ?_⟩
      exact set_place HTW.out (by omega)
end Go.Proofs.Ytkdjdnknhbmliaa

namespace Go.Proofs.Ytkdjdnknhbmliaa
open Go.RowKit

/-- The first k bits that are set. -/
def listTo (g k : Nat) : List Int := ((List.range k).filter (fun i => bitAt g i)).map Int.ofNat
theorem listTo_yes {g k : Nat} (h : bitAt g k = true) : listTo g (k + 1) = listTo g k ++ [(k : Int)] := by
  simp only [listTo, List.range_succ, List.filter_append, List.map_append, List.filter_cons, h]; rfl
theorem listTo_no {g k : Nat} (h : bitAt g k = false) : listTo g (k + 1) = listTo g k := by
  simp only [listTo, List.range_succ, List.filter_append, List.map_append, List.filter_cons, h]; simp
theorem listTo_len (g k : Nat) : (listTo g k).length ≤ k := by
  have := List.length_filter_le (fun i => bitAt g i) (List.range k)
  simpa [listTo] using this
def listOf (g : Nat) : List Int := listTo g 8
theorem bit_high {g k i : Nat} (h : g / 2 ^ k = 0) (hi : k ≤ i) : bitAt g i = false := by
  rw [bitAt_def]
  have h1 : g < 2 ^ k := by
    rcases Nat.div_eq_zero_iff.1 h with h | h
    · exact absurd h (by have := Nat.two_pow_pos k; omega)
    · exact h
  have h2 : 2 ^ k ≤ 2 ^ i := Nat.pow_le_pow_right (by omega) hi
  rw [Nat.div_eq_of_lt (by omega)]
  rfl
theorem listTo_all {g k : Nat} (h : g / 2 ^ k = 0) : ∀ j, k ≤ j → listTo g j = listTo g k
  | 0, hj => by have : k = 0 := by omega
                subst this; rfl
  | j + 1, hj => by
    by_cases hk : k = j + 1
    · subst hk; rfl
    · rw [listTo_no (bit_high h (by omega)), listTo_all h j (by omega)]
theorem testk (m k : Nat) : (((m : Int) / 2 ^ k).tmod 2 == 1) = bitAt m k := by
  rw [shr_nat, Int.tmod_eq_emod_of_nonneg (Int.natCast_nonneg _), bitAt_def]
  generalize m / 2 ^ k = x
  by_cases h : x % 2 = 1
  · have : ((x : Int) % 2) = 1 := by omega
    simp [h, this]
  · have : ((x : Int) % 2) ≠ 1 := by omega
    simp [h, this]

set_option maxHeartbeats 1600000 in
theorem cuList_any (g : Nat) (w : World) (hg : g < 256) :
    Calls Try.prog 66 #[.int .i64 g] w (OwnPost (listOf g) w) := by
  obtain ⟨i0, hi, hz0, hz1, hz2⟩ := info_parts info_int
  have HI := Lib.hid hi
  have HZ0 := Lib.hid hz0
  have HZ1 := Lib.hid hz1
  have HZ2 := Lib.hid hz2
  clear hi hz0 hz1 hz2
  go_enter Try.func66, Try.ntmps66
  go_wp2
  go_loopw [3, 4] (fun v i wr => ∃ (k : Nat) (E : Option Addr) (r : Nat), k ≤ 8 ∧ i = .int .i64 k ∧ v = .slice E (listTo g k).length r ∧ wr.ownsRow w.heap.size 3 1 (.slice E (listTo g k).length r) (listTo g k).length (nums (listTo g k)) ∧ Below w.heap.size w wr) (fun _ i _ => 8 - (intOf i).toNat)
  case atStart => exact ⟨0, none, 0, Nat.zero_le _, rfl, rfl, World.ownsRow_nil _ _ _ _, Below.refl _ _⟩
  case round =>
    obtain ⟨k, E, r, hk, rfl, rfl, hown, hb⟩ := hrel
    have hhl := listTo_len g k
    have hs2 : w.heap.size ≤ wr.heap.size := hb.size
    by_cases hgt : 0 < g / 2 ^ k
    · have hd : decide ((0 : Int) < (g : Int) / 2 ^ k) = true := by rw [shr_nat]; exact decide_eq_true (Int.natCast_pos.2 hgt)
      have hk8 : k < 8 := by
        by_cases h8 : k < 8
        · exact h8
        · have : k = 8 := by omega
          subst this
          have : g / 2 ^ 8 = 0 := Nat.div_eq_of_lt (by omega)
          omega
      have htk := testk g k
      have HOWN := Lib.hid hown
      have HB := Lib.hid hb
      clear hown hb hgt
      cases hx : bitAt g k
      · rw [hx] at htk
        have HS := Lib.hid (listTo_no hx)
        clear hx
        go_wp2
        go_roundw
        case rel => exact ⟨k + 1, E, r, by omega, by go_num, by rw [HS.out], by rw [HS.out]; exact HOWN.out, HB.out⟩
        case measure => simp [intOf]; omega
      · rw [hx] at htk
        have HS := Lib.hid (listTo_yes hx)
        have HLEN : Hid ((listTo g (k + 1)).length = (listTo g k).length + 1) := by show _ = _; rw [HS.out]; simp
        clear hx
        have HOW := Lib.hid (HOWN.out.alloc (.cells #[.int .i64 k] 3))
        have HBB := Lib.hid (HB.out.alloc hs2 (.cells #[.int .i64 k] 3))
        have HBASE := Lib.hid (show w.heap.size ≤ (wr.alloc (.cells #[.int .i64 k] 3)).heap.size by simp; omega)
        have HMAX := Lib.hid (show (listTo g k).length + 1 ≤ maxLen by unfold maxLen; omega)
        have HBYT := Lib.hid (show ((listTo g k).length + 1) * 8 ≤ 140737488355328 by omega)
        go_wp2_with (at_builtin; refine wpList_append_own _ rfl (.tmp 16) (.tmp 18) 40 rfl w.heap.size 3 i0 (.int .i64 0) 1 8 Try.underlying40 HI.out HZ0.out HZ1.out HZ2.out rfl (by decide) (.slice E (listTo g k).length r) (listTo g k).length (nums (listTo g k)) rfl HOW.out ⟨wr.heap.size, 0, none⟩ 1 1 [.int .i64 k] rfl rfl (cell_one_new _ _ _) (by simp [Value.oneCell']) HMAX.out HBYT.out HBASE.out ?_; intro v' w1 hown1 hg1 _; obtain ⟨D', q', hv', -⟩ := Fresh.of_own hown1 (Nat.le_refl _); rw [hv'] at hown1 ⊢; clear hv')
        have HBN := Lib.hid (HBB.out.grown hg1 HBASE.out (fun kk e => (HOW.out.lt _ e).1))
        have HON := Lib.hid hown1
        clear hg1 hown1
        go_roundw
        case rel => exact ⟨k + 1, D', q', by omega, by go_num, by rw [HLEN.out], by rw [HLEN.out, HS.out, show nums (listTo g k ++ [(k : Int)]) = nums (listTo g k) ++ [.int .i64 k] by simp [nums]]; exact HON.out, HBN.out⟩
        case measure => simp [intOf]; omega
    · have h0 : g / 2 ^ k = 0 := Nat.eq_zero_of_not_pos hgt
      have hd : decide ((0 : Int) < (g : Int) / 2 ^ k) = false := by rw [shr_nat, h0]; rfl
      have HA := Lib.hid (listTo_all h0 8 hk)
      have HO := Lib.hid hown
      have HB := Lib.hid hb
      clear hown hb hgt h0
      go_wp2
      go_ret
      refine ⟨E, r, by rw [listOf, HA.out]; rfl, ?_, HB.out⟩
      rw [listOf, HA.out]
      exact HO.out
end Go.Proofs.Ytkdjdnknhbmliaa

namespace Go.Proofs.Ytkdjdnknhbmliaa
open Go.RowKit

/-- Those on the boat's side. -/
def hereM (k x : Nat) : Nat := if x % 2 = 0 then 2 ^ (2 * k) - 1 - x / 2 else x / 2
/-- A row, told by bits. -/
def canM (k : Nat) (q : Int) (x g : Nat) : Bool := decide (g &&& hereM k x = g) && (decide (((listOf g).length : Int) ≤ q) && (calm k (bitAt g) && quiet k (bitAt ((x ^^^ (2 * g + 1)) / 2))))
theorem can_no1 {k : Nat} {q : Int} {x g : Nat} (h : g &&& hereM k x ≠ g) : canM k q x g = false := by simp [canM, h]
theorem can_no2 {k : Nat} {q : Int} {x g : Nat} (h : q < ((listOf g).length : Int)) : canM k q x g = false := by simp [canM]; omega
theorem can_no3 {k : Nat} {q : Int} {x g : Nat} (h : calm k (bitAt g) = false) : canM k q x g = false := by simp [canM, h]
theorem can_on {k : Nat} {q : Int} {x g : Nat} (h1 : g &&& hereM k x = g) (h2 : ¬ q < ((listOf g).length : Int)) (h3 : calm k (bitAt g) = true) : canM k q x g = quiet k (bitAt ((x ^^^ (2 * g + 1)) / 2)) := by
  have h2' : ((listOf g).length : Int) ≤ q := by omega
  simp [canM, h1, h2', h3]

set_option maxHeartbeats 12800000 in
set_option maxRecDepth 100000 in
set_option linter.unusedSimpArgs false in
theorem cuCan_any (k : Nat) (q : Int) (x g : Nat) (w : World) (hk : k ≤ 4) (hx : x / 2 < 2 ^ (2 * k)) (hg0 : 1 ≤ g) (hg : g < 2 ^ (2 * k)) :
    Calls Try.prog 111 #[.agg #[.int .i64 k, .int .i64 q], .int .i64 x, .int .i64 g] w fun e w' => e = .returned (.bool (canM k q x g)) ∧ Below w.heap.size w w' := by
  have hp := pow_c hk
  have hg8 : g < 256 := by omega
  have hx8 : x / 2 < 256 := by omega
  have hc := Whole.fresh w 31 #[.int .i64 k, .int .i64 q]
  have ht := below1 w (.cells #[.int .i64 k, .int .i64 q] 31)
  have HXL := Lib.hid hx
  have HGL := Lib.hid hg
  obtain ⟨H, hH⟩ : ∃ H : Nat, H = hereM k x := ⟨_, rfl⟩
  have hHs : H < 256 := by rw [hH, hereM]; split <;> omega
  have HH := Lib.hid hH
  have hz : ((g : Int) == 0) = false := by simp; omega
  clear hx hg hH
  go_enter Try.func111, Try.ntmps111
  go_upto_if 12 with fail
  go_cut [7] (fun s7 wx => s7 = .int .i64 (H : Int) ∧ Whole wx w.heap.size 31 #[.int .i64 k, .int .i64 q] ∧ Below w.heap.size w wx)
  case first =>
    by_cases hev : x % 2 = 0
    · have h2 : ((x : Int) % 2 == 0) = true := by simp; omega
      have HE : Hid ((H : Int) = ((2 ^ (2 * k) : Nat) : Int) - 1 - (x : Int) / 2) := by show _ = _; rw [HH.out, hereM, if_pos hev]; have := HXL.out; omega
      obtain ⟨N, hN⟩ : ∃ N : Nat, N = 2 ^ (2 * k) := ⟨_, rfl⟩
      rw [← hN] at hp HE
      have HNN := Lib.hid hN
      clear hev hN
      go_wp2_with fail
      refine (cuSize_any k q _ hk).mono ?_
      rintro e w1 ⟨rfl, hb⟩
      rw [← HNN.out]
      have hc1 := hc.below hb
      have ht1 := below_then ht hb ht.size
      clear hb hc ht
      go_wp2_with fail
      go_meet
      exact ⟨by rw [HE.out], hc1, ht1⟩
    · have h2 : ((x : Int) % 2 == 0) = false := by simp; omega
      have HE : Hid ((H : Int) = (x : Int) / 2) := by show _ = _; rw [HH.out, hereM, if_neg hev]; omega
      clear hev
      go_wp2_with fail
      go_meet
      exact ⟨by rw [HE.out], hc, ht⟩
  case rest =>
    clear hc ht
    obtain ⟨rfl, hc, ht⟩ := hcut
    by_cases h1 : g &&& H = g
    · have hne : (Go.bits .and .i64 (g : Int) (H : Int) != (g : Int)) = false := by rw [bits_and_nat _ _ (by omega) (by omega), h1]; simp
      have H1 : Hid (g &&& hereM k x = g) := by show _ = _; rw [← HH.out]; exact h1
      clear h1
      by_cases h2 : q < ((listOf g).length : Int)
      · have hgt : decide (q < ((listOf g).length : Int)) = true := by simpa using h2
        have HP := Lib.hid (can_no2 (k := k) (x := x) h2)
        clear h2
        go_wp2_with fail
        refine wp_region_held_drew (S := (Box1 w.heap.size (.int .i64 k) (.int .i64 q))) (by kernel_rfl) (box1_of hc.drew) (fun hHeld => ?_)
        replace ht := ht.drew
        replace hc := hc.drew
        refine wpAnyH_take (i := 0) (v := ?_) rfl (by kernel_rfl) (by kernel_rfl) (by kernel_rfl) (fun _ _ _ h => h) (Or.inl ⟨rfl, ?_⟩) hHeld ?_
        rotate_left
        · intro w' hS; obtain ⟨s0, s1⟩ := hS; go_simp <;> with_reducible rfl
        simp only [Act.put, List.getElem_toArray, List.getElem_cons_succ, List.getElem_cons_zero, List.setIfInBounds_toArray, List.set_cons_succ, List.set_cons_zero]
        refine wpAnyH_take (i := 1) (v := ?_) rfl (by kernel_rfl) (by kernel_rfl) (by kernel_rfl) (fun _ _ _ h => h) (Or.inl ⟨rfl, ?_⟩) hHeld ?_
        rotate_left
        · intro w' hS; obtain ⟨s0, s1⟩ := hS; go_simp <;> with_reducible rfl
        simp only [Act.put, List.getElem_toArray, List.getElem_cons_succ, List.getElem_cons_zero, List.setIfInBounds_toArray, List.set_cons_succ, List.set_cons_zero]
        refine wpAnyH_take (i := 2) (v := ?_) rfl (by kernel_rfl) (by kernel_rfl) (by kernel_rfl) (fun _ _ _ h => h) (Or.inl ⟨rfl, ?_⟩) hHeld ?_
        rotate_left
        · intro w' hS; obtain ⟨s0, s1⟩ := hS; go_simp <;> with_reducible rfl
        simp only [Act.put, List.getElem_toArray, List.getElem_cons_succ, List.getElem_cons_zero, List.setIfInBounds_toArray, List.set_cons_succ, List.set_cons_zero]
        refine wpAnyH_take (i := 3) (v := ?_) rfl (by kernel_rfl) (by kernel_rfl) (by kernel_rfl) (fun _ _ _ h => h) (Or.inl ⟨rfl, ?_⟩) hHeld ?_
        rotate_left
        · intro w' hS; obtain ⟨s0, s1⟩ := hS; go_simp <;> with_reducible rfl
        simp only [Act.put, List.getElem_toArray, List.getElem_cons_succ, List.getElem_cons_zero, List.setIfInBounds_toArray, List.set_cons_succ, List.set_cons_zero]
        refine wpAnyH_take (i := 4) (v := ?_) rfl (by kernel_rfl) (by kernel_rfl) (by kernel_rfl) (fun _ _ _ h => h) (Or.inl ⟨rfl, ?_⟩) hHeld ?_
        rotate_left
        · intro w' hS; obtain ⟨s0, s1⟩ := hS; go_simp <;> with_reducible rfl
        simp only [Act.put, List.getElem_toArray, List.getElem_cons_succ, List.getElem_cons_zero, List.setIfInBounds_toArray, List.set_cons_succ, List.set_cons_zero]
        refine wpAnyH_take (i := 5) (v := ?_) rfl (by kernel_rfl) (by kernel_rfl) (by kernel_rfl) (fun _ _ _ h => h) (Or.inl ⟨rfl, ?_⟩) hHeld ?_
        rotate_left
        · intro w' hS; obtain ⟨s0, s1⟩ := hS; go_simp <;> with_reducible rfl
        simp only [Act.put, List.getElem_toArray, List.getElem_cons_succ, List.getElem_cons_zero, List.setIfInBounds_toArray, List.set_cons_succ, List.set_cons_zero]
        refine wpAnyH_take (i := 6) (v := ?_) rfl (by kernel_rfl) (by kernel_rfl) (by kernel_rfl) (fun _ _ _ h => h) (Or.inl ⟨rfl, ?_⟩) hHeld ?_
        rotate_left
        · intro w' hS; obtain ⟨s0, s1⟩ := hS; go_simp <;> with_reducible rfl
        simp only [Act.put, List.getElem_toArray, List.getElem_cons_succ, List.getElem_cons_zero, List.setIfInBounds_toArray, List.set_cons_succ, List.set_cons_zero]
        refine wpAnyH_take (i := 7) (v := ?_) rfl (by kernel_rfl) (by kernel_rfl) (by kernel_rfl) (fun _ _ _ h => h) (Or.inl ⟨rfl, ?_⟩) hHeld ?_
        rotate_left
        · intro w' hS; obtain ⟨s0, s1⟩ := hS; go_simp <;> with_reducible rfl
        simp only [Act.put, List.getElem_toArray, List.getElem_cons_succ, List.getElem_cons_zero, List.setIfInBounds_toArray, List.set_cons_succ, List.set_cons_zero]
        refine wpAnyH_take (i := 8) (v := ?_) rfl (by kernel_rfl) (by kernel_rfl) (by kernel_rfl) (fun _ _ _ h => h) (Or.inl ⟨rfl, ?_⟩) hHeld ?_
        rotate_left
        · intro w' hS; obtain ⟨s0, s1⟩ := hS; go_simp <;> with_reducible rfl
        simp only [Act.put, List.getElem_toArray, List.getElem_cons_succ, List.getElem_cons_zero, List.setIfInBounds_toArray, List.set_cons_succ, List.set_cons_zero]
        refine wpAnyH_take (i := 9) (v := ?_) rfl (by kernel_rfl) (by kernel_rfl) (by kernel_rfl) (fun _ _ _ h => h) (Or.inl ⟨rfl, ?_⟩) hHeld ?_
        rotate_left
        · intro w' hS; obtain ⟨s0, s1⟩ := hS; go_simp <;> with_reducible rfl
        simp only [Act.put, List.getElem_toArray, List.getElem_cons_succ, List.getElem_cons_zero, List.setIfInBounds_toArray, List.set_cons_succ, List.set_cons_zero]
        refine wpAnyH_take (i := 10) (v := ?_) rfl (by kernel_rfl) (by kernel_rfl) (by kernel_rfl) (fun _ _ _ h => h) (Or.inl ⟨rfl, ?_⟩) hHeld ?_
        rotate_left
        · intro w' hS; obtain ⟨s0, s1⟩ := hS; go_simp <;> with_reducible rfl
        simp only [Act.put, List.getElem_toArray, List.getElem_cons_succ, List.getElem_cons_zero, List.setIfInBounds_toArray, List.set_cons_succ, List.set_cons_zero]
        refine wpAnyH_take (i := 13) (v := ?_) rfl (by kernel_rfl) (by kernel_rfl) (by kernel_rfl) (fun _ _ _ h => h) (Or.inl ⟨rfl, ?_⟩) hHeld ?_
        rotate_left
        · intro w' hS; obtain ⟨s0, s1⟩ := hS; go_simp <;> with_reducible rfl
        simp only [Act.put, List.getElem_toArray, List.getElem_cons_succ, List.getElem_cons_zero, List.setIfInBounds_toArray, List.set_cons_succ, List.set_cons_zero]
        refine wpAnyH_take (i := 14) (v := ?_) rfl (by kernel_rfl) (by kernel_rfl) (by kernel_rfl) (fun _ _ _ h => h) (Or.inl ⟨rfl, ?_⟩) hHeld ?_
        rotate_left
        · intro w' hS; obtain ⟨s0, s1⟩ := hS; go_simp <;> with_reducible rfl
        simp only [Act.put, List.getElem_toArray, List.getElem_cons_succ, List.getElem_cons_zero, List.setIfInBounds_toArray, List.set_cons_succ, List.set_cons_zero]
        refine wpAnyH_ready (rs := [11]) (by kernel_rfl) (by simp) (AllReadyH.cons rfl (fun K hK => ?_) AllReadyH.nil)
        go_simp
        refine (cuList_any g _ hg8).mono ?_
        rintro e w1 ⟨E, r, rfl, -, hb⟩
        replace ht := below_then ht hb ht.size
        replace hc := hc.below hb
        clear hb
        refine hK.out _ _ (box1_of hc) (fun hHeld => ?_)
        clear hK K
        try simp only [Act.put, List.getElem_toArray, List.getElem_cons_succ, List.getElem_cons_zero, List.setIfInBounds_toArray, List.set_cons_succ, List.set_cons_zero]
        refine wpAnyH_take (i := 12) (v := ?_) rfl (by kernel_rfl) (by kernel_rfl) (by kernel_rfl) (fun _ _ _ h => h) (Or.inl ⟨rfl, ?_⟩) hHeld ?_
        rotate_left
        · intro w' hS; obtain ⟨s0, s1⟩ := hS; go_simp <;> with_reducible rfl
        simp only [Act.put, List.getElem_toArray, List.getElem_cons_succ, List.getElem_cons_zero, List.setIfInBounds_toArray, List.set_cons_succ, List.set_cons_zero]
        refine wpAnyH_take (i := 15) (v := ?_) rfl (by kernel_rfl) (by kernel_rfl) (by kernel_rfl) (fun _ _ _ h => h) (Or.inl ⟨rfl, ?_⟩) hHeld ?_
        rotate_left
        · intro w' hS; obtain ⟨s0, s1⟩ := hS; go_simp <;> with_reducible rfl
        simp only [Act.put, List.getElem_toArray, List.getElem_cons_succ, List.getElem_cons_zero, List.setIfInBounds_toArray, List.set_cons_succ, List.set_cons_zero]
        refine wpAnyH_take (i := 16) (v := ?_) rfl (by kernel_rfl) (by kernel_rfl) (by kernel_rfl) (fun _ _ _ h => h) (Or.inl ⟨rfl, ?_⟩) hHeld ?_
        rotate_left
        · intro w' hS; obtain ⟨s0, s1⟩ := hS; go_simp <;> with_reducible rfl
        simp only [Act.put, List.getElem_toArray, List.getElem_cons_succ, List.getElem_cons_zero, List.setIfInBounds_toArray, List.set_cons_succ, List.set_cons_zero]
        refine wpAnyH_take (i := 17) (v := ?_) rfl (by kernel_rfl) (by kernel_rfl) (by kernel_rfl) (fun _ _ _ h => h) (Or.inl ⟨rfl, ?_⟩) hHeld ?_
        rotate_left
        · intro w' hS; obtain ⟨s0, s1⟩ := hS; go_simp <;> with_reducible rfl
        simp only [Act.put, List.getElem_toArray, List.getElem_cons_succ, List.getElem_cons_zero, List.setIfInBounds_toArray, List.set_cons_succ, List.set_cons_zero]
        refine wpAnyH_take (i := 18) (v := undef) rfl (by kernel_rfl) (by kernel_rfl) (by kernel_rfl) (fun _ _ _ h => h) (Or.inr ⟨by simp [Region.wanted, yielded], rfl⟩) hHeld ?_
        simp only [Act.put, List.getElem_toArray, List.getElem_cons_succ, List.getElem_cons_zero, List.setIfInBounds_toArray, List.set_cons_succ, List.set_cons_zero]
        refine wpAnyH_take (i := 19) (v := undef) rfl (by kernel_rfl) (by kernel_rfl) (by kernel_rfl) (fun _ _ _ h => h) (Or.inr ⟨by simp [Region.wanted, yielded], rfl⟩) hHeld ?_
        simp only [Act.put, List.getElem_toArray, List.getElem_cons_succ, List.getElem_cons_zero, List.setIfInBounds_toArray, List.set_cons_succ, List.set_cons_zero]
        refine wpAnyH_take (i := 20) (v := undef) rfl (by kernel_rfl) (by kernel_rfl) (by kernel_rfl) (fun _ _ _ h => h) (Or.inr ⟨by simp [Region.wanted, yielded], rfl⟩) hHeld ?_
        simp only [Act.put, List.getElem_toArray, List.getElem_cons_succ, List.getElem_cons_zero, List.setIfInBounds_toArray, List.set_cons_succ, List.set_cons_zero]
        refine wpAnyH_take (i := 21) (v := undef) rfl (by kernel_rfl) (by kernel_rfl) (by kernel_rfl) (fun _ _ _ h => h) (Or.inr ⟨by simp [Region.wanted, yielded], rfl⟩) hHeld ?_
        simp only [Act.put, List.getElem_toArray, List.getElem_cons_succ, List.getElem_cons_zero, List.setIfInBounds_toArray, List.set_cons_succ, List.set_cons_zero]
        refine wpAnyH_take (i := 22) (v := undef) rfl (by kernel_rfl) (by kernel_rfl) (by kernel_rfl) (fun _ _ _ h => h) (Or.inr ⟨by simp [Region.wanted, yielded], rfl⟩) hHeld ?_
        simp only [Act.put, List.getElem_toArray, List.getElem_cons_succ, List.getElem_cons_zero, List.setIfInBounds_toArray, List.set_cons_succ, List.set_cons_zero]
        refine wpAnyH_take (i := 23) (v := ?_) rfl (by kernel_rfl) (by kernel_rfl) (by kernel_rfl) (fun _ _ _ h => h) (Or.inl ⟨rfl, ?_⟩) hHeld ?_
        rotate_left
        · intro w' hS; obtain ⟨s0, s1⟩ := hS; go_simp <;> with_reducible rfl
        simp only [Act.put, List.getElem_toArray, List.getElem_cons_succ, List.getElem_cons_zero, List.setIfInBounds_toArray, List.set_cons_succ, List.set_cons_zero]
        refine wpAnyH_done (by kernel_rfl) ?_ _
        clear hHeld
        go_wp2
        go_ret
        exact ⟨ret_of (by rw [HP.out]; rfl), ht⟩
      · have hgt : decide (q < ((listOf g).length : Int)) = false := by simpa using h2
        cases h3 : calm k (bitAt g)
        · have HP := Lib.hid (can_no3 (q := q) (x := x) h3)
          have HCA := Lib.hid h3
          clear h2 h3
          go_wp2_with fail
          refine wp_region_held_drew (S := (Box1 w.heap.size (.int .i64 k) (.int .i64 q))) (by kernel_rfl) (box1_of hc.drew) (fun hHeld => ?_)
          replace ht := ht.drew
          replace hc := hc.drew
          refine wpAnyH_take (i := 0) (v := ?_) rfl (by kernel_rfl) (by kernel_rfl) (by kernel_rfl) (fun _ _ _ h => h) (Or.inl ⟨rfl, ?_⟩) hHeld ?_
          rotate_left
          · intro w' hS; obtain ⟨s0, s1⟩ := hS; go_simp <;> with_reducible rfl
          simp only [Act.put, List.getElem_toArray, List.getElem_cons_succ, List.getElem_cons_zero, List.setIfInBounds_toArray, List.set_cons_succ, List.set_cons_zero]
          refine wpAnyH_take (i := 1) (v := ?_) rfl (by kernel_rfl) (by kernel_rfl) (by kernel_rfl) (fun _ _ _ h => h) (Or.inl ⟨rfl, ?_⟩) hHeld ?_
          rotate_left
          · intro w' hS; obtain ⟨s0, s1⟩ := hS; go_simp <;> with_reducible rfl
          simp only [Act.put, List.getElem_toArray, List.getElem_cons_succ, List.getElem_cons_zero, List.setIfInBounds_toArray, List.set_cons_succ, List.set_cons_zero]
          refine wpAnyH_take (i := 2) (v := ?_) rfl (by kernel_rfl) (by kernel_rfl) (by kernel_rfl) (fun _ _ _ h => h) (Or.inl ⟨rfl, ?_⟩) hHeld ?_
          rotate_left
          · intro w' hS; obtain ⟨s0, s1⟩ := hS; go_simp <;> with_reducible rfl
          simp only [Act.put, List.getElem_toArray, List.getElem_cons_succ, List.getElem_cons_zero, List.setIfInBounds_toArray, List.set_cons_succ, List.set_cons_zero]
          refine wpAnyH_take (i := 3) (v := ?_) rfl (by kernel_rfl) (by kernel_rfl) (by kernel_rfl) (fun _ _ _ h => h) (Or.inl ⟨rfl, ?_⟩) hHeld ?_
          rotate_left
          · intro w' hS; obtain ⟨s0, s1⟩ := hS; go_simp <;> with_reducible rfl
          simp only [Act.put, List.getElem_toArray, List.getElem_cons_succ, List.getElem_cons_zero, List.setIfInBounds_toArray, List.set_cons_succ, List.set_cons_zero]
          refine wpAnyH_take (i := 4) (v := ?_) rfl (by kernel_rfl) (by kernel_rfl) (by kernel_rfl) (fun _ _ _ h => h) (Or.inl ⟨rfl, ?_⟩) hHeld ?_
          rotate_left
          · intro w' hS; obtain ⟨s0, s1⟩ := hS; go_simp <;> with_reducible rfl
          simp only [Act.put, List.getElem_toArray, List.getElem_cons_succ, List.getElem_cons_zero, List.setIfInBounds_toArray, List.set_cons_succ, List.set_cons_zero]
          refine wpAnyH_take (i := 5) (v := ?_) rfl (by kernel_rfl) (by kernel_rfl) (by kernel_rfl) (fun _ _ _ h => h) (Or.inl ⟨rfl, ?_⟩) hHeld ?_
          rotate_left
          · intro w' hS; obtain ⟨s0, s1⟩ := hS; go_simp <;> with_reducible rfl
          simp only [Act.put, List.getElem_toArray, List.getElem_cons_succ, List.getElem_cons_zero, List.setIfInBounds_toArray, List.set_cons_succ, List.set_cons_zero]
          refine wpAnyH_take (i := 6) (v := ?_) rfl (by kernel_rfl) (by kernel_rfl) (by kernel_rfl) (fun _ _ _ h => h) (Or.inl ⟨rfl, ?_⟩) hHeld ?_
          rotate_left
          · intro w' hS; obtain ⟨s0, s1⟩ := hS; go_simp <;> with_reducible rfl
          simp only [Act.put, List.getElem_toArray, List.getElem_cons_succ, List.getElem_cons_zero, List.setIfInBounds_toArray, List.set_cons_succ, List.set_cons_zero]
          refine wpAnyH_take (i := 7) (v := ?_) rfl (by kernel_rfl) (by kernel_rfl) (by kernel_rfl) (fun _ _ _ h => h) (Or.inl ⟨rfl, ?_⟩) hHeld ?_
          rotate_left
          · intro w' hS; obtain ⟨s0, s1⟩ := hS; go_simp <;> with_reducible rfl
          simp only [Act.put, List.getElem_toArray, List.getElem_cons_succ, List.getElem_cons_zero, List.setIfInBounds_toArray, List.set_cons_succ, List.set_cons_zero]
          refine wpAnyH_take (i := 8) (v := ?_) rfl (by kernel_rfl) (by kernel_rfl) (by kernel_rfl) (fun _ _ _ h => h) (Or.inl ⟨rfl, ?_⟩) hHeld ?_
          rotate_left
          · intro w' hS; obtain ⟨s0, s1⟩ := hS; go_simp <;> with_reducible rfl
          simp only [Act.put, List.getElem_toArray, List.getElem_cons_succ, List.getElem_cons_zero, List.setIfInBounds_toArray, List.set_cons_succ, List.set_cons_zero]
          refine wpAnyH_take (i := 9) (v := ?_) rfl (by kernel_rfl) (by kernel_rfl) (by kernel_rfl) (fun _ _ _ h => h) (Or.inl ⟨rfl, ?_⟩) hHeld ?_
          rotate_left
          · intro w' hS; obtain ⟨s0, s1⟩ := hS; go_simp <;> with_reducible rfl
          simp only [Act.put, List.getElem_toArray, List.getElem_cons_succ, List.getElem_cons_zero, List.setIfInBounds_toArray, List.set_cons_succ, List.set_cons_zero]
          refine wpAnyH_take (i := 10) (v := ?_) rfl (by kernel_rfl) (by kernel_rfl) (by kernel_rfl) (fun _ _ _ h => h) (Or.inl ⟨rfl, ?_⟩) hHeld ?_
          rotate_left
          · intro w' hS; obtain ⟨s0, s1⟩ := hS; go_simp <;> with_reducible rfl
          simp only [Act.put, List.getElem_toArray, List.getElem_cons_succ, List.getElem_cons_zero, List.setIfInBounds_toArray, List.set_cons_succ, List.set_cons_zero]
          refine wpAnyH_take (i := 13) (v := ?_) rfl (by kernel_rfl) (by kernel_rfl) (by kernel_rfl) (fun _ _ _ h => h) (Or.inl ⟨rfl, ?_⟩) hHeld ?_
          rotate_left
          · intro w' hS; obtain ⟨s0, s1⟩ := hS; go_simp <;> with_reducible rfl
          simp only [Act.put, List.getElem_toArray, List.getElem_cons_succ, List.getElem_cons_zero, List.setIfInBounds_toArray, List.set_cons_succ, List.set_cons_zero]
          refine wpAnyH_take (i := 14) (v := ?_) rfl (by kernel_rfl) (by kernel_rfl) (by kernel_rfl) (fun _ _ _ h => h) (Or.inl ⟨rfl, ?_⟩) hHeld ?_
          rotate_left
          · intro w' hS; obtain ⟨s0, s1⟩ := hS; go_simp <;> with_reducible rfl
          simp only [Act.put, List.getElem_toArray, List.getElem_cons_succ, List.getElem_cons_zero, List.setIfInBounds_toArray, List.set_cons_succ, List.set_cons_zero]
          refine wpAnyH_ready (rs := [11]) (by kernel_rfl) (by simp) (AllReadyH.cons rfl (fun K hK => ?_) AllReadyH.nil)
          go_simp
          refine (cuList_any g _ hg8).mono ?_
          rintro e w1 ⟨E, r, rfl, -, hb⟩
          replace ht := below_then ht hb ht.size
          replace hc := hc.below hb
          clear hb
          refine hK.out _ _ (box1_of hc) (fun hHeld => ?_)
          clear hK K
          try simp only [Act.put, List.getElem_toArray, List.getElem_cons_succ, List.getElem_cons_zero, List.setIfInBounds_toArray, List.set_cons_succ, List.set_cons_zero]
          refine wpAnyH_take (i := 12) (v := ?_) rfl (by kernel_rfl) (by kernel_rfl) (by kernel_rfl) (fun _ _ _ h => h) (Or.inl ⟨rfl, ?_⟩) hHeld ?_
          rotate_left
          · intro w' hS; obtain ⟨s0, s1⟩ := hS; go_simp <;> with_reducible rfl
          simp only [Act.put, List.getElem_toArray, List.getElem_cons_succ, List.getElem_cons_zero, List.setIfInBounds_toArray, List.set_cons_succ, List.set_cons_zero]
          refine wpAnyH_take (i := 15) (v := ?_) rfl (by kernel_rfl) (by kernel_rfl) (by kernel_rfl) (fun _ _ _ h => h) (Or.inl ⟨rfl, ?_⟩) hHeld ?_
          rotate_left
          · intro w' hS; obtain ⟨s0, s1⟩ := hS; go_simp <;> with_reducible rfl
          simp only [Act.put, List.getElem_toArray, List.getElem_cons_succ, List.getElem_cons_zero, List.setIfInBounds_toArray, List.set_cons_succ, List.set_cons_zero]
          refine wpAnyH_take (i := 16) (v := ?_) rfl (by kernel_rfl) (by kernel_rfl) (by kernel_rfl) (fun _ _ _ h => h) (Or.inl ⟨rfl, ?_⟩) hHeld ?_
          rotate_left
          · intro w' hS; obtain ⟨s0, s1⟩ := hS; go_simp <;> with_reducible rfl
          simp only [Act.put, List.getElem_toArray, List.getElem_cons_succ, List.getElem_cons_zero, List.setIfInBounds_toArray, List.set_cons_succ, List.set_cons_zero]
          refine wpAnyH_take (i := 17) (v := ?_) rfl (by kernel_rfl) (by kernel_rfl) (by kernel_rfl) (fun _ _ _ h => h) (Or.inl ⟨rfl, ?_⟩) hHeld ?_
          rotate_left
          · intro w' hS; obtain ⟨s0, s1⟩ := hS; go_simp <;> with_reducible rfl
          simp only [Act.put, List.getElem_toArray, List.getElem_cons_succ, List.getElem_cons_zero, List.setIfInBounds_toArray, List.set_cons_succ, List.set_cons_zero]
          refine wpAnyH_take (i := 18) (v := ?_) rfl (by kernel_rfl) (by kernel_rfl) (by kernel_rfl) (fun _ _ _ h => h) (Or.inl ⟨rfl, ?_⟩) hHeld ?_
          rotate_left
          · intro w' hS; obtain ⟨s0, s1⟩ := hS; go_simp <;> with_reducible rfl
          simp only [Act.put, List.getElem_toArray, List.getElem_cons_succ, List.getElem_cons_zero, List.setIfInBounds_toArray, List.set_cons_succ, List.set_cons_zero]
          refine wpAnyH_take (i := 19) (v := ?_) rfl (by kernel_rfl) (by kernel_rfl) (by kernel_rfl) (fun _ _ _ h => h) (Or.inl ⟨rfl, ?_⟩) hHeld ?_
          rotate_left
          · intro w' hS; obtain ⟨s0, s1⟩ := hS; go_simp <;> with_reducible rfl
          simp only [Act.put, List.getElem_toArray, List.getElem_cons_succ, List.getElem_cons_zero, List.setIfInBounds_toArray, List.set_cons_succ, List.set_cons_zero]
          refine wpAnyH_take (i := 20) (v := ?_) rfl (by kernel_rfl) (by kernel_rfl) (by kernel_rfl) (fun _ _ _ h => h) (Or.inl ⟨rfl, ?_⟩) hHeld ?_
          rotate_left
          · intro w' hS; obtain ⟨s0, s1⟩ := hS; go_simp <;> with_reducible rfl
          simp only [Act.put, List.getElem_toArray, List.getElem_cons_succ, List.getElem_cons_zero, List.setIfInBounds_toArray, List.set_cons_succ, List.set_cons_zero]
          refine wpAnyH_ready (rs := [21]) (by kernel_rfl) (by simp) (AllReadyH.cons rfl (fun K hK => ?_) AllReadyH.nil)
          go_simp
          refine (cuCalm_any k g _ hk).mono ?_
          rintro e w2 ⟨rfl, rfl⟩
          rw [HCA.out]
          refine hK.out _ _ (box1_of hc) (fun hHeld => ?_)
          clear hK K
          try simp only [Act.put, List.getElem_toArray, List.getElem_cons_succ, List.getElem_cons_zero, List.setIfInBounds_toArray, List.set_cons_succ, List.set_cons_zero]
          refine wpAnyH_take (i := 22) (v := ?_) rfl (by kernel_rfl) (by kernel_rfl) (by kernel_rfl) (fun _ _ _ h => h) (Or.inl ⟨rfl, ?_⟩) hHeld ?_
          rotate_left
          · intro w' hS; obtain ⟨s0, s1⟩ := hS; go_simp <;> with_reducible rfl
          simp only [Act.put, List.getElem_toArray, List.getElem_cons_succ, List.getElem_cons_zero, List.setIfInBounds_toArray, List.set_cons_succ, List.set_cons_zero]
          refine wpAnyH_take (i := 23) (v := ?_) rfl (by kernel_rfl) (by kernel_rfl) (by kernel_rfl) (fun _ _ _ h => h) (Or.inl ⟨rfl, ?_⟩) hHeld ?_
          rotate_left
          · intro w' hS; obtain ⟨s0, s1⟩ := hS; go_simp <;> with_reducible rfl
          simp only [Act.put, List.getElem_toArray, List.getElem_cons_succ, List.getElem_cons_zero, List.setIfInBounds_toArray, List.set_cons_succ, List.set_cons_zero]
          refine wpAnyH_done (by kernel_rfl) ?_ _
          clear hHeld
          go_wp2
          go_ret
          exact ⟨ret_of (by rw [HP.out]; rfl), ht⟩
        · have HP := Lib.hid (can_on H1.out h2 h3)
          have HCA := Lib.hid h3
          have HXX := Lib.hid (show Go.bits .xor .i64 (x : Int) (2 * (g : Int) + 1) = ((x ^^^ (2 * g + 1) : Nat) : Int) by
            rw [show (2 * (g : Int) + 1) = ((2 * g + 1 : Nat) : Int) by omega]; exact bits_xor_nat _ _ (by omega) (by omega))
          have HYL : Hid ((x ^^^ (2 * g + 1)) / 2 < 2 ^ (2 * k)) := by
            show _ < _
            have ha : x < 2 ^ (2 * k + 1) := by have := HXL.out; rw [Nat.pow_succ]; omega
            have hb : 2 * g + 1 < 2 ^ (2 * k + 1) := by have := HGL.out; rw [Nat.pow_succ]; omega
            have := Nat.xor_lt_two_pow ha hb
            rw [Nat.pow_succ] at this
            omega
          clear h2 h3
          go_wp2_with fail
          refine wp_region_held_drew (S := (Box1 w.heap.size (.int .i64 k) (.int .i64 q))) (by kernel_rfl) (box1_of hc.drew) (fun hHeld => ?_)
          replace ht := ht.drew
          replace hc := hc.drew
          refine wpAnyH_take (i := 0) (v := ?_) rfl (by kernel_rfl) (by kernel_rfl) (by kernel_rfl) (fun _ _ _ h => h) (Or.inl ⟨rfl, ?_⟩) hHeld ?_
          rotate_left
          · intro w' hS; obtain ⟨s0, s1⟩ := hS; go_simp <;> with_reducible rfl
          simp only [Act.put, List.getElem_toArray, List.getElem_cons_succ, List.getElem_cons_zero, List.setIfInBounds_toArray, List.set_cons_succ, List.set_cons_zero]
          refine wpAnyH_take (i := 1) (v := ?_) rfl (by kernel_rfl) (by kernel_rfl) (by kernel_rfl) (fun _ _ _ h => h) (Or.inl ⟨rfl, ?_⟩) hHeld ?_
          rotate_left
          · intro w' hS; obtain ⟨s0, s1⟩ := hS; go_simp <;> with_reducible rfl
          simp only [Act.put, List.getElem_toArray, List.getElem_cons_succ, List.getElem_cons_zero, List.setIfInBounds_toArray, List.set_cons_succ, List.set_cons_zero]
          refine wpAnyH_take (i := 2) (v := ?_) rfl (by kernel_rfl) (by kernel_rfl) (by kernel_rfl) (fun _ _ _ h => h) (Or.inl ⟨rfl, ?_⟩) hHeld ?_
          rotate_left
          · intro w' hS; obtain ⟨s0, s1⟩ := hS; go_simp <;> with_reducible rfl
          simp only [Act.put, List.getElem_toArray, List.getElem_cons_succ, List.getElem_cons_zero, List.setIfInBounds_toArray, List.set_cons_succ, List.set_cons_zero]
          refine wpAnyH_take (i := 3) (v := ?_) rfl (by kernel_rfl) (by kernel_rfl) (by kernel_rfl) (fun _ _ _ h => h) (Or.inl ⟨rfl, ?_⟩) hHeld ?_
          rotate_left
          · intro w' hS; obtain ⟨s0, s1⟩ := hS; go_simp <;> with_reducible rfl
          simp only [Act.put, List.getElem_toArray, List.getElem_cons_succ, List.getElem_cons_zero, List.setIfInBounds_toArray, List.set_cons_succ, List.set_cons_zero]
          refine wpAnyH_take (i := 4) (v := ?_) rfl (by kernel_rfl) (by kernel_rfl) (by kernel_rfl) (fun _ _ _ h => h) (Or.inl ⟨rfl, ?_⟩) hHeld ?_
          rotate_left
          · intro w' hS; obtain ⟨s0, s1⟩ := hS; go_simp <;> with_reducible rfl
          simp only [Act.put, List.getElem_toArray, List.getElem_cons_succ, List.getElem_cons_zero, List.setIfInBounds_toArray, List.set_cons_succ, List.set_cons_zero]
          refine wpAnyH_take (i := 5) (v := ?_) rfl (by kernel_rfl) (by kernel_rfl) (by kernel_rfl) (fun _ _ _ h => h) (Or.inl ⟨rfl, ?_⟩) hHeld ?_
          rotate_left
          · intro w' hS; obtain ⟨s0, s1⟩ := hS; go_simp <;> with_reducible rfl
          simp only [Act.put, List.getElem_toArray, List.getElem_cons_succ, List.getElem_cons_zero, List.setIfInBounds_toArray, List.set_cons_succ, List.set_cons_zero]
          refine wpAnyH_take (i := 6) (v := ?_) rfl (by kernel_rfl) (by kernel_rfl) (by kernel_rfl) (fun _ _ _ h => h) (Or.inl ⟨rfl, ?_⟩) hHeld ?_
          rotate_left
          · intro w' hS; obtain ⟨s0, s1⟩ := hS; go_simp <;> with_reducible rfl
          simp only [Act.put, List.getElem_toArray, List.getElem_cons_succ, List.getElem_cons_zero, List.setIfInBounds_toArray, List.set_cons_succ, List.set_cons_zero]
          refine wpAnyH_take (i := 7) (v := ?_) rfl (by kernel_rfl) (by kernel_rfl) (by kernel_rfl) (fun _ _ _ h => h) (Or.inl ⟨rfl, ?_⟩) hHeld ?_
          rotate_left
          · intro w' hS; obtain ⟨s0, s1⟩ := hS; go_simp <;> with_reducible rfl
          simp only [Act.put, List.getElem_toArray, List.getElem_cons_succ, List.getElem_cons_zero, List.setIfInBounds_toArray, List.set_cons_succ, List.set_cons_zero]
          refine wpAnyH_take (i := 8) (v := ?_) rfl (by kernel_rfl) (by kernel_rfl) (by kernel_rfl) (fun _ _ _ h => h) (Or.inl ⟨rfl, ?_⟩) hHeld ?_
          rotate_left
          · intro w' hS; obtain ⟨s0, s1⟩ := hS; go_simp <;> with_reducible rfl
          simp only [Act.put, List.getElem_toArray, List.getElem_cons_succ, List.getElem_cons_zero, List.setIfInBounds_toArray, List.set_cons_succ, List.set_cons_zero]
          refine wpAnyH_take (i := 9) (v := ?_) rfl (by kernel_rfl) (by kernel_rfl) (by kernel_rfl) (fun _ _ _ h => h) (Or.inl ⟨rfl, ?_⟩) hHeld ?_
          rotate_left
          · intro w' hS; obtain ⟨s0, s1⟩ := hS; go_simp <;> with_reducible rfl
          simp only [Act.put, List.getElem_toArray, List.getElem_cons_succ, List.getElem_cons_zero, List.setIfInBounds_toArray, List.set_cons_succ, List.set_cons_zero]
          refine wpAnyH_take (i := 10) (v := ?_) rfl (by kernel_rfl) (by kernel_rfl) (by kernel_rfl) (fun _ _ _ h => h) (Or.inl ⟨rfl, ?_⟩) hHeld ?_
          rotate_left
          · intro w' hS; obtain ⟨s0, s1⟩ := hS; go_simp <;> with_reducible rfl
          simp only [Act.put, List.getElem_toArray, List.getElem_cons_succ, List.getElem_cons_zero, List.setIfInBounds_toArray, List.set_cons_succ, List.set_cons_zero]
          refine wpAnyH_take (i := 13) (v := ?_) rfl (by kernel_rfl) (by kernel_rfl) (by kernel_rfl) (fun _ _ _ h => h) (Or.inl ⟨rfl, ?_⟩) hHeld ?_
          rotate_left
          · intro w' hS; obtain ⟨s0, s1⟩ := hS; go_simp <;> with_reducible rfl
          simp only [Act.put, List.getElem_toArray, List.getElem_cons_succ, List.getElem_cons_zero, List.setIfInBounds_toArray, List.set_cons_succ, List.set_cons_zero]
          refine wpAnyH_take (i := 14) (v := ?_) rfl (by kernel_rfl) (by kernel_rfl) (by kernel_rfl) (fun _ _ _ h => h) (Or.inl ⟨rfl, ?_⟩) hHeld ?_
          rotate_left
          · intro w' hS; obtain ⟨s0, s1⟩ := hS; go_simp <;> with_reducible rfl
          simp only [Act.put, List.getElem_toArray, List.getElem_cons_succ, List.getElem_cons_zero, List.setIfInBounds_toArray, List.set_cons_succ, List.set_cons_zero]
          refine wpAnyH_ready (rs := [11]) (by kernel_rfl) (by simp) (AllReadyH.cons rfl (fun K hK => ?_) AllReadyH.nil)
          go_simp
          refine (cuList_any g _ hg8).mono ?_
          rintro e w1 ⟨E, r, rfl, -, hb⟩
          replace ht := below_then ht hb ht.size
          replace hc := hc.below hb
          clear hb
          refine hK.out _ _ (box1_of hc) (fun hHeld => ?_)
          clear hK K
          try simp only [Act.put, List.getElem_toArray, List.getElem_cons_succ, List.getElem_cons_zero, List.setIfInBounds_toArray, List.set_cons_succ, List.set_cons_zero]
          refine wpAnyH_take (i := 12) (v := ?_) rfl (by kernel_rfl) (by kernel_rfl) (by kernel_rfl) (fun _ _ _ h => h) (Or.inl ⟨rfl, ?_⟩) hHeld ?_
          rotate_left
          · intro w' hS; obtain ⟨s0, s1⟩ := hS; go_simp <;> with_reducible rfl
          simp only [Act.put, List.getElem_toArray, List.getElem_cons_succ, List.getElem_cons_zero, List.setIfInBounds_toArray, List.set_cons_succ, List.set_cons_zero]
          refine wpAnyH_take (i := 15) (v := ?_) rfl (by kernel_rfl) (by kernel_rfl) (by kernel_rfl) (fun _ _ _ h => h) (Or.inl ⟨rfl, ?_⟩) hHeld ?_
          rotate_left
          · intro w' hS; obtain ⟨s0, s1⟩ := hS; go_simp <;> with_reducible rfl
          simp only [Act.put, List.getElem_toArray, List.getElem_cons_succ, List.getElem_cons_zero, List.setIfInBounds_toArray, List.set_cons_succ, List.set_cons_zero]
          refine wpAnyH_take (i := 16) (v := ?_) rfl (by kernel_rfl) (by kernel_rfl) (by kernel_rfl) (fun _ _ _ h => h) (Or.inl ⟨rfl, ?_⟩) hHeld ?_
          rotate_left
          · intro w' hS; obtain ⟨s0, s1⟩ := hS; go_simp <;> with_reducible rfl
          simp only [Act.put, List.getElem_toArray, List.getElem_cons_succ, List.getElem_cons_zero, List.setIfInBounds_toArray, List.set_cons_succ, List.set_cons_zero]
          refine wpAnyH_take (i := 17) (v := ?_) rfl (by kernel_rfl) (by kernel_rfl) (by kernel_rfl) (fun _ _ _ h => h) (Or.inl ⟨rfl, ?_⟩) hHeld ?_
          rotate_left
          · intro w' hS; obtain ⟨s0, s1⟩ := hS; go_simp <;> with_reducible rfl
          simp only [Act.put, List.getElem_toArray, List.getElem_cons_succ, List.getElem_cons_zero, List.setIfInBounds_toArray, List.set_cons_succ, List.set_cons_zero]
          refine wpAnyH_take (i := 18) (v := ?_) rfl (by kernel_rfl) (by kernel_rfl) (by kernel_rfl) (fun _ _ _ h => h) (Or.inl ⟨rfl, ?_⟩) hHeld ?_
          rotate_left
          · intro w' hS; obtain ⟨s0, s1⟩ := hS; go_simp <;> with_reducible rfl
          simp only [Act.put, List.getElem_toArray, List.getElem_cons_succ, List.getElem_cons_zero, List.setIfInBounds_toArray, List.set_cons_succ, List.set_cons_zero]
          refine wpAnyH_take (i := 19) (v := ?_) rfl (by kernel_rfl) (by kernel_rfl) (by kernel_rfl) (fun _ _ _ h => h) (Or.inl ⟨rfl, ?_⟩) hHeld ?_
          rotate_left
          · intro w' hS; obtain ⟨s0, s1⟩ := hS; go_simp <;> with_reducible rfl
          simp only [Act.put, List.getElem_toArray, List.getElem_cons_succ, List.getElem_cons_zero, List.setIfInBounds_toArray, List.set_cons_succ, List.set_cons_zero]
          refine wpAnyH_take (i := 20) (v := ?_) rfl (by kernel_rfl) (by kernel_rfl) (by kernel_rfl) (fun _ _ _ h => h) (Or.inl ⟨rfl, ?_⟩) hHeld ?_
          rotate_left
          · intro w' hS; obtain ⟨s0, s1⟩ := hS; go_simp <;> with_reducible rfl
          simp only [Act.put, List.getElem_toArray, List.getElem_cons_succ, List.getElem_cons_zero, List.setIfInBounds_toArray, List.set_cons_succ, List.set_cons_zero]
          refine wpAnyH_ready (rs := [21]) (by kernel_rfl) (by simp) (AllReadyH.cons rfl (fun K hK => ?_) AllReadyH.nil)
          go_simp
          refine (cuCalm_any k g _ hk).mono ?_
          rintro e w2 ⟨rfl, rfl⟩
          rw [HCA.out]
          refine hK.out _ _ (box1_of hc) (fun hHeld => ?_)
          clear hK K
          try simp only [Act.put, List.getElem_toArray, List.getElem_cons_succ, List.getElem_cons_zero, List.setIfInBounds_toArray, List.set_cons_succ, List.set_cons_zero]
          refine wpAnyH_take (i := 22) (v := ?_) rfl (by kernel_rfl) (by kernel_rfl) (by kernel_rfl) (fun _ _ _ h => h) (Or.inl ⟨rfl, ?_⟩) hHeld ?_
          rotate_left
          · intro w' hS; obtain ⟨s0, s1⟩ := hS; go_simp <;> with_reducible rfl
          simp only [Act.put, List.getElem_toArray, List.getElem_cons_succ, List.getElem_cons_zero, List.setIfInBounds_toArray, List.set_cons_succ, List.set_cons_zero]
          refine wpAnyH_take (i := 23) (v := ?_) rfl (by kernel_rfl) (by kernel_rfl) (by kernel_rfl) (fun _ _ _ h => h) (Or.inl ⟨rfl, ?_⟩) hHeld ?_
          rotate_left
          · intro w' hS; obtain ⟨s0, s1⟩ := hS; go_simp <;> with_reducible rfl
          simp only [Act.put, List.getElem_toArray, List.getElem_cons_succ, List.getElem_cons_zero, List.setIfInBounds_toArray, List.set_cons_succ, List.set_cons_zero]
          refine wpAnyH_done (by kernel_rfl) ?_ _
          clear hHeld
          obtain ⟨c0, c1⟩ : Box1 w.heap.size (.int .i64 k) (.int .i64 q) _ := box1_of hc
          go_wp2_with fail
          rw [HXX.out]
          refine (cuQuiet_any k _ q _ hk HYL.out).mono ?_
          rintro e w5 ⟨rfl, hb⟩
          have ht5 := below_then ht hb ht.size
          go_wp2
          go_ret
          exact ⟨ret_of (by rw [HP.out]; rfl), ht5⟩
    · have hne : (Go.bits .and .i64 (g : Int) (H : Int) != (g : Int)) = true := by rw [bits_and_nat _ _ (by omega) (by omega)]; simp; omega
      have HP := Lib.hid (can_no1 (k := k) (q := q) (x := x) (g := g) (by rw [← HH.out]; exact h1))
      clear h1
      go_wp2_with fail
      refine wp_region_held_drew (S := (Box1 w.heap.size (.int .i64 k) (.int .i64 q))) (by kernel_rfl) (box1_of hc.drew) (fun hHeld => ?_)
      replace ht := ht.drew
      replace hc := hc.drew
      refine wpAnyH_take (i := 0) (v := ?_) rfl (by kernel_rfl) (by kernel_rfl) (by kernel_rfl) (fun _ _ _ h => h) (Or.inl ⟨rfl, ?_⟩) hHeld ?_
      rotate_left
      · intro w' hS; obtain ⟨s0, s1⟩ := hS; go_simp <;> with_reducible rfl
      simp only [Act.put, List.getElem_toArray, List.getElem_cons_succ, List.getElem_cons_zero, List.setIfInBounds_toArray, List.set_cons_succ, List.set_cons_zero]
      refine wpAnyH_take (i := 1) (v := ?_) rfl (by kernel_rfl) (by kernel_rfl) (by kernel_rfl) (fun _ _ _ h => h) (Or.inl ⟨rfl, ?_⟩) hHeld ?_
      rotate_left
      · intro w' hS; obtain ⟨s0, s1⟩ := hS; go_simp <;> with_reducible rfl
      simp only [Act.put, List.getElem_toArray, List.getElem_cons_succ, List.getElem_cons_zero, List.setIfInBounds_toArray, List.set_cons_succ, List.set_cons_zero]
      refine wpAnyH_take (i := 2) (v := ?_) rfl (by kernel_rfl) (by kernel_rfl) (by kernel_rfl) (fun _ _ _ h => h) (Or.inl ⟨rfl, ?_⟩) hHeld ?_
      rotate_left
      · intro w' hS; obtain ⟨s0, s1⟩ := hS; go_simp <;> with_reducible rfl
      simp only [Act.put, List.getElem_toArray, List.getElem_cons_succ, List.getElem_cons_zero, List.setIfInBounds_toArray, List.set_cons_succ, List.set_cons_zero]
      refine wpAnyH_take (i := 3) (v := ?_) rfl (by kernel_rfl) (by kernel_rfl) (by kernel_rfl) (fun _ _ _ h => h) (Or.inl ⟨rfl, ?_⟩) hHeld ?_
      rotate_left
      · intro w' hS; obtain ⟨s0, s1⟩ := hS; go_simp <;> with_reducible rfl
      simp only [Act.put, List.getElem_toArray, List.getElem_cons_succ, List.getElem_cons_zero, List.setIfInBounds_toArray, List.set_cons_succ, List.set_cons_zero]
      refine wpAnyH_take (i := 4) (v := ?_) rfl (by kernel_rfl) (by kernel_rfl) (by kernel_rfl) (fun _ _ _ h => h) (Or.inl ⟨rfl, ?_⟩) hHeld ?_
      rotate_left
      · intro w' hS; obtain ⟨s0, s1⟩ := hS; go_simp <;> with_reducible rfl
      simp only [Act.put, List.getElem_toArray, List.getElem_cons_succ, List.getElem_cons_zero, List.setIfInBounds_toArray, List.set_cons_succ, List.set_cons_zero]
      refine wpAnyH_take (i := 5) (v := ?_) rfl (by kernel_rfl) (by kernel_rfl) (by kernel_rfl) (fun _ _ _ h => h) (Or.inl ⟨rfl, ?_⟩) hHeld ?_
      rotate_left
      · intro w' hS; obtain ⟨s0, s1⟩ := hS; go_simp <;> with_reducible rfl
      simp only [Act.put, List.getElem_toArray, List.getElem_cons_succ, List.getElem_cons_zero, List.setIfInBounds_toArray, List.set_cons_succ, List.set_cons_zero]
      refine wpAnyH_take (i := 6) (v := ?_) rfl (by kernel_rfl) (by kernel_rfl) (by kernel_rfl) (fun _ _ _ h => h) (Or.inl ⟨rfl, ?_⟩) hHeld ?_
      rotate_left
      · intro w' hS; obtain ⟨s0, s1⟩ := hS; go_simp <;> with_reducible rfl
      simp only [Act.put, List.getElem_toArray, List.getElem_cons_succ, List.getElem_cons_zero, List.setIfInBounds_toArray, List.set_cons_succ, List.set_cons_zero]
      refine wpAnyH_take (i := 7) (v := ?_) rfl (by kernel_rfl) (by kernel_rfl) (by kernel_rfl) (fun _ _ _ h => h) (Or.inl ⟨rfl, ?_⟩) hHeld ?_
      rotate_left
      · intro w' hS; obtain ⟨s0, s1⟩ := hS; go_simp <;> with_reducible rfl
      simp only [Act.put, List.getElem_toArray, List.getElem_cons_succ, List.getElem_cons_zero, List.setIfInBounds_toArray, List.set_cons_succ, List.set_cons_zero]
      refine wpAnyH_take (i := 8) (v := ?_) rfl (by kernel_rfl) (by kernel_rfl) (by kernel_rfl) (fun _ _ _ h => h) (Or.inl ⟨rfl, ?_⟩) hHeld ?_
      rotate_left
      · intro w' hS; obtain ⟨s0, s1⟩ := hS; go_simp <;> with_reducible rfl
      simp only [Act.put, List.getElem_toArray, List.getElem_cons_succ, List.getElem_cons_zero, List.setIfInBounds_toArray, List.set_cons_succ, List.set_cons_zero]
      refine wpAnyH_take (i := 9) (v := ?_) rfl (by kernel_rfl) (by kernel_rfl) (by kernel_rfl) (fun _ _ _ h => h) (Or.inl ⟨rfl, ?_⟩) hHeld ?_
      rotate_left
      · intro w' hS; obtain ⟨s0, s1⟩ := hS; go_simp <;> with_reducible rfl
      simp only [Act.put, List.getElem_toArray, List.getElem_cons_succ, List.getElem_cons_zero, List.setIfInBounds_toArray, List.set_cons_succ, List.set_cons_zero]
      refine wpAnyH_take (i := 10) (v := undef) rfl (by kernel_rfl) (by kernel_rfl) (by kernel_rfl) (fun _ _ _ h => h) (Or.inr ⟨by simp [Region.wanted, yielded], rfl⟩) hHeld ?_
      simp only [Act.put, List.getElem_toArray, List.getElem_cons_succ, List.getElem_cons_zero, List.setIfInBounds_toArray, List.set_cons_succ, List.set_cons_zero]
      refine wpAnyH_take (i := 11) (v := undef) rfl (by kernel_rfl) (by kernel_rfl) (by kernel_rfl) (fun _ _ _ h => h) (Or.inr ⟨by simp [Region.wanted, yielded], rfl⟩) hHeld ?_
      simp only [Act.put, List.getElem_toArray, List.getElem_cons_succ, List.getElem_cons_zero, List.setIfInBounds_toArray, List.set_cons_succ, List.set_cons_zero]
      refine wpAnyH_take (i := 12) (v := undef) rfl (by kernel_rfl) (by kernel_rfl) (by kernel_rfl) (fun _ _ _ h => h) (Or.inr ⟨by simp [Region.wanted, yielded], rfl⟩) hHeld ?_
      simp only [Act.put, List.getElem_toArray, List.getElem_cons_succ, List.getElem_cons_zero, List.setIfInBounds_toArray, List.set_cons_succ, List.set_cons_zero]
      refine wpAnyH_take (i := 13) (v := undef) rfl (by kernel_rfl) (by kernel_rfl) (by kernel_rfl) (fun _ _ _ h => h) (Or.inr ⟨by simp [Region.wanted, yielded], rfl⟩) hHeld ?_
      simp only [Act.put, List.getElem_toArray, List.getElem_cons_succ, List.getElem_cons_zero, List.setIfInBounds_toArray, List.set_cons_succ, List.set_cons_zero]
      refine wpAnyH_take (i := 14) (v := undef) rfl (by kernel_rfl) (by kernel_rfl) (by kernel_rfl) (fun _ _ _ h => h) (Or.inr ⟨by simp [Region.wanted, yielded], rfl⟩) hHeld ?_
      simp only [Act.put, List.getElem_toArray, List.getElem_cons_succ, List.getElem_cons_zero, List.setIfInBounds_toArray, List.set_cons_succ, List.set_cons_zero]
      refine wpAnyH_take (i := 15) (v := undef) rfl (by kernel_rfl) (by kernel_rfl) (by kernel_rfl) (fun _ _ _ h => h) (Or.inr ⟨by simp [Region.wanted, yielded], rfl⟩) hHeld ?_
      simp only [Act.put, List.getElem_toArray, List.getElem_cons_succ, List.getElem_cons_zero, List.setIfInBounds_toArray, List.set_cons_succ, List.set_cons_zero]
      refine wpAnyH_take (i := 16) (v := ?_) rfl (by kernel_rfl) (by kernel_rfl) (by kernel_rfl) (fun _ _ _ h => h) (Or.inl ⟨rfl, ?_⟩) hHeld ?_
      rotate_left
      · intro w' hS; obtain ⟨s0, s1⟩ := hS; go_simp <;> with_reducible rfl
      simp only [Act.put, List.getElem_toArray, List.getElem_cons_succ, List.getElem_cons_zero, List.setIfInBounds_toArray, List.set_cons_succ, List.set_cons_zero]
      refine wpAnyH_take (i := 17) (v := ?_) rfl (by kernel_rfl) (by kernel_rfl) (by kernel_rfl) (fun _ _ _ h => h) (Or.inl ⟨rfl, ?_⟩) hHeld ?_
      rotate_left
      · intro w' hS; obtain ⟨s0, s1⟩ := hS; go_simp <;> with_reducible rfl
      simp only [Act.put, List.getElem_toArray, List.getElem_cons_succ, List.getElem_cons_zero, List.setIfInBounds_toArray, List.set_cons_succ, List.set_cons_zero]
      refine wpAnyH_take (i := 18) (v := undef) rfl (by kernel_rfl) (by kernel_rfl) (by kernel_rfl) (fun _ _ _ h => h) (Or.inr ⟨by simp [Region.wanted, yielded], rfl⟩) hHeld ?_
      simp only [Act.put, List.getElem_toArray, List.getElem_cons_succ, List.getElem_cons_zero, List.setIfInBounds_toArray, List.set_cons_succ, List.set_cons_zero]
      refine wpAnyH_take (i := 19) (v := undef) rfl (by kernel_rfl) (by kernel_rfl) (by kernel_rfl) (fun _ _ _ h => h) (Or.inr ⟨by simp [Region.wanted, yielded], rfl⟩) hHeld ?_
      simp only [Act.put, List.getElem_toArray, List.getElem_cons_succ, List.getElem_cons_zero, List.setIfInBounds_toArray, List.set_cons_succ, List.set_cons_zero]
      refine wpAnyH_take (i := 20) (v := undef) rfl (by kernel_rfl) (by kernel_rfl) (by kernel_rfl) (fun _ _ _ h => h) (Or.inr ⟨by simp [Region.wanted, yielded], rfl⟩) hHeld ?_
      simp only [Act.put, List.getElem_toArray, List.getElem_cons_succ, List.getElem_cons_zero, List.setIfInBounds_toArray, List.set_cons_succ, List.set_cons_zero]
      refine wpAnyH_take (i := 21) (v := undef) rfl (by kernel_rfl) (by kernel_rfl) (by kernel_rfl) (fun _ _ _ h => h) (Or.inr ⟨by simp [Region.wanted, yielded], rfl⟩) hHeld ?_
      simp only [Act.put, List.getElem_toArray, List.getElem_cons_succ, List.getElem_cons_zero, List.setIfInBounds_toArray, List.set_cons_succ, List.set_cons_zero]
      refine wpAnyH_take (i := 22) (v := undef) rfl (by kernel_rfl) (by kernel_rfl) (by kernel_rfl) (fun _ _ _ h => h) (Or.inr ⟨by simp [Region.wanted, yielded], rfl⟩) hHeld ?_
      simp only [Act.put, List.getElem_toArray, List.getElem_cons_succ, List.getElem_cons_zero, List.setIfInBounds_toArray, List.set_cons_succ, List.set_cons_zero]
      refine wpAnyH_take (i := 23) (v := ?_) rfl (by kernel_rfl) (by kernel_rfl) (by kernel_rfl) (fun _ _ _ h => h) (Or.inl ⟨rfl, ?_⟩) hHeld ?_
      rotate_left
      · intro w' hS; obtain ⟨s0, s1⟩ := hS; go_simp <;> with_reducible rfl
      simp only [Act.put, List.getElem_toArray, List.getElem_cons_succ, List.getElem_cons_zero, List.setIfInBounds_toArray, List.set_cons_succ, List.set_cons_zero]
      refine wpAnyH_done (by kernel_rfl) ?_ _
      clear hHeld
      go_wp2
      go_ret
      exact ⟨ret_of (by rw [HP.out]; rfl), ht⟩

end Go.Proofs.Ytkdjdnknhbmliaa

namespace Go.Proofs.Ytkdjdnknhbmliaa
open Go.RowKit

/-- A row, told as a list. -/
noncomputable def tripM (k : Nat) (q : Int) (x : Nat) (l : List Int) : Bool := within l.length 1 q && (rising l (2 * k - 1) && canM k q x (maskOf l))
theorem tripM_no1 {k : Nat} {q : Int} {x : Nat} {l : List Int} (h : within l.length 1 q = false) : tripM k q x l = false := by simp [tripM, h]
theorem tripM_no2 {k : Nat} {q : Int} {x : Nat} {l : List Int} (h : rising l (2 * k - 1) = false) : tripM k q x l = false := by simp [tripM, h]
theorem tripM_on {k : Nat} {q : Int} {x : Nat} {l : List Int} (h : within l.length 1 q = true) (h2 : rising l (2 * k - 1) = true) : tripM k q x l = canM k q x (maskOf l) := by simp [tripM, h, h2]
theorem mask_pos {l : List Int} {hi : Int} (hs : StepsTo l hi l.length) (h0 : 0 < l.length) : 1 ≤ maskOf l := by
  by_cases hm : maskOf l = 0
  · have h1 := mask_bit l (fun x hx => (mem_steps hs hx).1) (l[0]).toNat
    rw [hm] at h1
    have h2 : has l (l[0]).toNat = true := has_iff.2 (by rw [Int.toNat_of_nonneg (mem_steps hs (List.getElem_mem h0)).1]; exact List.getElem_mem h0)
    rw [h2] at h1
    simp [bitAt] at h1
  · omega

set_option maxHeartbeats 12800000 in
set_option maxRecDepth 100000 in
set_option linter.unusedSimpArgs false in
theorem cuTrip_any (k : Nat) (q : Int) (x : Nat) (D : Option Addr) (n d : Nat) (l : List Int) (w : World) (hk : k ≤ 4) (hx : x / 2 < 2 ^ (2 * k)) (hD : Holds w D (nums l)) (hl : l.length = n) (hn : n ≤ 9223372036854775807) :
    Calls Try.prog 72 #[.agg #[.int .i64 k, .int .i64 q], .int .i64 x, .slice D n d] w fun e w' => e = .returned (.bool (tripM k q x l)) ∧ Below w.heap.size w w' := by
  have hc := Whole.fresh w 31 #[.int .i64 k, .int .i64 q]
  have ht := below1 w (.cells #[.int .i64 k, .int .i64 q] 31)
  have hD2 := hD.alloc (.cells #[.int .i64 k, .int .i64 q] 31)
  have HX := Lib.hid hl
  have HXL := Lib.hid hx
  have hw2 : IntKind.i64.wrap (2 * (k : Int)) = 2 * (k : Int) := IntWalk.i64_in _ (by omega)
  have hw3 : IntKind.i64.wrap (2 * (k : Int) - 1) = 2 * (k : Int) - 1 := IntWalk.i64_in _ (by omega)
  rw [← hl] at hn ⊢
  obtain rfl : l.length = n := hl
  cases h1 : within l.length 1 q
  · have HP := Lib.hid (tripM_no1 (k := k) (x := x) h1)
    have HW1 := Lib.hid h1
    clear h1 hx hD
    go_enter Try.func72, Try.ntmps72
    go_wp2_with fail
    refine wp_region_held_drew (S := (Box1 w.heap.size (.int .i64 k) (.int .i64 q))) (by kernel_rfl) (box1_of hc.drew) (fun hHeld => ?_)
    replace ht := ht.drew
    replace hc := hc.drew
    replace hD2 := hD2.drew
    refine wpAnyH_take (i := 0) (v := ?_) rfl (by kernel_rfl) (by kernel_rfl) (by kernel_rfl) (fun _ _ _ h => h) (Or.inl ⟨rfl, ?_⟩) hHeld ?_
    rotate_left
    · intro w' hS; obtain ⟨s0, s1⟩ := hS; go_simp <;> with_reducible rfl
    simp only [Act.put, List.getElem_toArray, List.getElem_cons_succ, List.getElem_cons_zero, List.setIfInBounds_toArray, List.set_cons_succ, List.set_cons_zero]
    refine wpAnyH_take (i := 1) (v := ?_) rfl (by kernel_rfl) (by kernel_rfl) (by kernel_rfl) (fun _ _ _ h => h) (Or.inl ⟨rfl, ?_⟩) hHeld ?_
    rotate_left
    · intro w' hS; obtain ⟨s0, s1⟩ := hS; go_simp <;> with_reducible rfl
    simp only [Act.put, List.getElem_toArray, List.getElem_cons_succ, List.getElem_cons_zero, List.setIfInBounds_toArray, List.set_cons_succ, List.set_cons_zero]
    refine wpAnyH_take (i := 2) (v := ?_) rfl (by kernel_rfl) (by kernel_rfl) (by kernel_rfl) (fun _ _ _ h => h) (Or.inl ⟨rfl, ?_⟩) hHeld ?_
    rotate_left
    · intro w' hS; obtain ⟨s0, s1⟩ := hS; go_simp <;> with_reducible rfl
    simp only [Act.put, List.getElem_toArray, List.getElem_cons_succ, List.getElem_cons_zero, List.setIfInBounds_toArray, List.set_cons_succ, List.set_cons_zero]
    refine wpAnyH_take (i := 3) (v := ?_) rfl (by kernel_rfl) (by kernel_rfl) (by kernel_rfl) (fun _ _ _ h => h) (Or.inl ⟨rfl, ?_⟩) hHeld ?_
    rotate_left
    · intro w' hS; obtain ⟨s0, s1⟩ := hS; go_simp <;> with_reducible rfl
    simp only [Act.put, List.getElem_toArray, List.getElem_cons_succ, List.getElem_cons_zero, List.setIfInBounds_toArray, List.set_cons_succ, List.set_cons_zero]
    refine wpAnyH_ready (rs := [4]) (by kernel_rfl) (by simp) (AllReadyH.cons rfl (fun K hK => ?_) AllReadyH.nil)
    go_simp
    refine (l1In_any _ _ _ _).mono ?_
    rintro e w1 ⟨rfl, rfl⟩
    rw [HW1.out]
    refine hK.out _ _ (box1_of hc) (fun hHeld => ?_)
    clear hK K
    try simp only [Act.put, List.getElem_toArray, List.getElem_cons_succ, List.getElem_cons_zero, List.setIfInBounds_toArray, List.set_cons_succ, List.set_cons_zero]
    refine wpAnyH_take (i := 5) (v := ?_) rfl (by kernel_rfl) (by kernel_rfl) (by kernel_rfl) (fun _ _ _ h => h) (Or.inl ⟨rfl, ?_⟩) hHeld ?_
    rotate_left
    · intro w' hS; obtain ⟨s0, s1⟩ := hS; go_simp <;> with_reducible rfl
    simp only [Act.put, List.getElem_toArray, List.getElem_cons_succ, List.getElem_cons_zero, List.setIfInBounds_toArray, List.set_cons_succ, List.set_cons_zero]
    refine wpAnyH_take (i := 6) (v := undef) rfl (by kernel_rfl) (by kernel_rfl) (by kernel_rfl) (fun _ _ _ h => h) (Or.inr ⟨by simp [Region.wanted, yielded], rfl⟩) hHeld ?_
    simp only [Act.put, List.getElem_toArray, List.getElem_cons_succ, List.getElem_cons_zero, List.setIfInBounds_toArray, List.set_cons_succ, List.set_cons_zero]
    refine wpAnyH_take (i := 7) (v := undef) rfl (by kernel_rfl) (by kernel_rfl) (by kernel_rfl) (fun _ _ _ h => h) (Or.inr ⟨by simp [Region.wanted, yielded], rfl⟩) hHeld ?_
    simp only [Act.put, List.getElem_toArray, List.getElem_cons_succ, List.getElem_cons_zero, List.setIfInBounds_toArray, List.set_cons_succ, List.set_cons_zero]
    refine wpAnyH_take (i := 8) (v := undef) rfl (by kernel_rfl) (by kernel_rfl) (by kernel_rfl) (fun _ _ _ h => h) (Or.inr ⟨by simp [Region.wanted, yielded], rfl⟩) hHeld ?_
    simp only [Act.put, List.getElem_toArray, List.getElem_cons_succ, List.getElem_cons_zero, List.setIfInBounds_toArray, List.set_cons_succ, List.set_cons_zero]
    refine wpAnyH_take (i := 9) (v := undef) rfl (by kernel_rfl) (by kernel_rfl) (by kernel_rfl) (fun _ _ _ h => h) (Or.inr ⟨by simp [Region.wanted, yielded], rfl⟩) hHeld ?_
    simp only [Act.put, List.getElem_toArray, List.getElem_cons_succ, List.getElem_cons_zero, List.setIfInBounds_toArray, List.set_cons_succ, List.set_cons_zero]
    refine wpAnyH_take (i := 10) (v := undef) rfl (by kernel_rfl) (by kernel_rfl) (by kernel_rfl) (fun _ _ _ h => h) (Or.inr ⟨by simp [Region.wanted, yielded], rfl⟩) hHeld ?_
    simp only [Act.put, List.getElem_toArray, List.getElem_cons_succ, List.getElem_cons_zero, List.setIfInBounds_toArray, List.set_cons_succ, List.set_cons_zero]
    refine wpAnyH_take (i := 11) (v := undef) rfl (by kernel_rfl) (by kernel_rfl) (by kernel_rfl) (fun _ _ _ h => h) (Or.inr ⟨by simp [Region.wanted, yielded], rfl⟩) hHeld ?_
    simp only [Act.put, List.getElem_toArray, List.getElem_cons_succ, List.getElem_cons_zero, List.setIfInBounds_toArray, List.set_cons_succ, List.set_cons_zero]
    refine wpAnyH_take (i := 12) (v := ?_) rfl (by kernel_rfl) (by kernel_rfl) (by kernel_rfl) (fun _ _ _ h => h) (Or.inl ⟨rfl, ?_⟩) hHeld ?_
    rotate_left
    · intro w' hS; obtain ⟨s0, s1⟩ := hS; go_simp <;> with_reducible rfl
    simp only [Act.put, List.getElem_toArray, List.getElem_cons_succ, List.getElem_cons_zero, List.setIfInBounds_toArray, List.set_cons_succ, List.set_cons_zero]
    refine wpAnyH_take (i := 13) (v := ?_) rfl (by kernel_rfl) (by kernel_rfl) (by kernel_rfl) (fun _ _ _ h => h) (Or.inl ⟨rfl, ?_⟩) hHeld ?_
    rotate_left
    · intro w' hS; obtain ⟨s0, s1⟩ := hS; go_simp <;> with_reducible rfl
    simp only [Act.put, List.getElem_toArray, List.getElem_cons_succ, List.getElem_cons_zero, List.setIfInBounds_toArray, List.set_cons_succ, List.set_cons_zero]
    refine wpAnyH_take (i := 14) (v := undef) rfl (by kernel_rfl) (by kernel_rfl) (by kernel_rfl) (fun _ _ _ h => h) (Or.inr ⟨by simp [Region.wanted, yielded], rfl⟩) hHeld ?_
    simp only [Act.put, List.getElem_toArray, List.getElem_cons_succ, List.getElem_cons_zero, List.setIfInBounds_toArray, List.set_cons_succ, List.set_cons_zero]
    refine wpAnyH_take (i := 15) (v := undef) rfl (by kernel_rfl) (by kernel_rfl) (by kernel_rfl) (fun _ _ _ h => h) (Or.inr ⟨by simp [Region.wanted, yielded], rfl⟩) hHeld ?_
    simp only [Act.put, List.getElem_toArray, List.getElem_cons_succ, List.getElem_cons_zero, List.setIfInBounds_toArray, List.set_cons_succ, List.set_cons_zero]
    refine wpAnyH_take (i := 16) (v := undef) rfl (by kernel_rfl) (by kernel_rfl) (by kernel_rfl) (fun _ _ _ h => h) (Or.inr ⟨by simp [Region.wanted, yielded], rfl⟩) hHeld ?_
    simp only [Act.put, List.getElem_toArray, List.getElem_cons_succ, List.getElem_cons_zero, List.setIfInBounds_toArray, List.set_cons_succ, List.set_cons_zero]
    refine wpAnyH_take (i := 17) (v := undef) rfl (by kernel_rfl) (by kernel_rfl) (by kernel_rfl) (fun _ _ _ h => h) (Or.inr ⟨by simp [Region.wanted, yielded], rfl⟩) hHeld ?_
    simp only [Act.put, List.getElem_toArray, List.getElem_cons_succ, List.getElem_cons_zero, List.setIfInBounds_toArray, List.set_cons_succ, List.set_cons_zero]
    refine wpAnyH_take (i := 18) (v := undef) rfl (by kernel_rfl) (by kernel_rfl) (by kernel_rfl) (fun _ _ _ h => h) (Or.inr ⟨by simp [Region.wanted, yielded], rfl⟩) hHeld ?_
    simp only [Act.put, List.getElem_toArray, List.getElem_cons_succ, List.getElem_cons_zero, List.setIfInBounds_toArray, List.set_cons_succ, List.set_cons_zero]
    refine wpAnyH_take (i := 19) (v := ?_) rfl (by kernel_rfl) (by kernel_rfl) (by kernel_rfl) (fun _ _ _ h => h) (Or.inl ⟨rfl, ?_⟩) hHeld ?_
    rotate_left
    · intro w' hS; obtain ⟨s0, s1⟩ := hS; go_simp <;> with_reducible rfl
    simp only [Act.put, List.getElem_toArray, List.getElem_cons_succ, List.getElem_cons_zero, List.setIfInBounds_toArray, List.set_cons_succ, List.set_cons_zero]
    refine wpAnyH_take (i := 20) (v := ?_) rfl (by kernel_rfl) (by kernel_rfl) (by kernel_rfl) (fun _ _ _ h => h) (Or.inl ⟨rfl, ?_⟩) hHeld ?_
    rotate_left
    · intro w' hS; obtain ⟨s0, s1⟩ := hS; go_simp <;> with_reducible rfl
    simp only [Act.put, List.getElem_toArray, List.getElem_cons_succ, List.getElem_cons_zero, List.setIfInBounds_toArray, List.set_cons_succ, List.set_cons_zero]
    refine wpAnyH_done (by kernel_rfl) ?_ _
    clear hHeld
    go_wp2
    go_ret
    exact ⟨ret_of (by rw [HP.out]; rfl), ht⟩
  · cases h2 : rising l (2 * k - 1)
    · have HP := Lib.hid (tripM_no2 (q := q) (x := x) h2)
      have HW1 := Lib.hid h1
      have HRI := Lib.hid h2
      clear h1 h2 hx hD
      go_enter Try.func72, Try.ntmps72
      go_wp2_with fail
      refine wp_region_held_drew (S := (Box1 w.heap.size (.int .i64 k) (.int .i64 q))) (by kernel_rfl) (box1_of hc.drew) (fun hHeld => ?_)
      replace ht := ht.drew
      replace hc := hc.drew
      replace hD2 := hD2.drew
      refine wpAnyH_take (i := 0) (v := ?_) rfl (by kernel_rfl) (by kernel_rfl) (by kernel_rfl) (fun _ _ _ h => h) (Or.inl ⟨rfl, ?_⟩) hHeld ?_
      rotate_left
      · intro w' hS; obtain ⟨s0, s1⟩ := hS; go_simp <;> with_reducible rfl
      simp only [Act.put, List.getElem_toArray, List.getElem_cons_succ, List.getElem_cons_zero, List.setIfInBounds_toArray, List.set_cons_succ, List.set_cons_zero]
      refine wpAnyH_take (i := 1) (v := ?_) rfl (by kernel_rfl) (by kernel_rfl) (by kernel_rfl) (fun _ _ _ h => h) (Or.inl ⟨rfl, ?_⟩) hHeld ?_
      rotate_left
      · intro w' hS; obtain ⟨s0, s1⟩ := hS; go_simp <;> with_reducible rfl
      simp only [Act.put, List.getElem_toArray, List.getElem_cons_succ, List.getElem_cons_zero, List.setIfInBounds_toArray, List.set_cons_succ, List.set_cons_zero]
      refine wpAnyH_take (i := 2) (v := ?_) rfl (by kernel_rfl) (by kernel_rfl) (by kernel_rfl) (fun _ _ _ h => h) (Or.inl ⟨rfl, ?_⟩) hHeld ?_
      rotate_left
      · intro w' hS; obtain ⟨s0, s1⟩ := hS; go_simp <;> with_reducible rfl
      simp only [Act.put, List.getElem_toArray, List.getElem_cons_succ, List.getElem_cons_zero, List.setIfInBounds_toArray, List.set_cons_succ, List.set_cons_zero]
      refine wpAnyH_take (i := 3) (v := ?_) rfl (by kernel_rfl) (by kernel_rfl) (by kernel_rfl) (fun _ _ _ h => h) (Or.inl ⟨rfl, ?_⟩) hHeld ?_
      rotate_left
      · intro w' hS; obtain ⟨s0, s1⟩ := hS; go_simp <;> with_reducible rfl
      simp only [Act.put, List.getElem_toArray, List.getElem_cons_succ, List.getElem_cons_zero, List.setIfInBounds_toArray, List.set_cons_succ, List.set_cons_zero]
      refine wpAnyH_ready (rs := [4]) (by kernel_rfl) (by simp) (AllReadyH.cons rfl (fun K hK => ?_) AllReadyH.nil)
      go_simp
      refine (l1In_any _ _ _ _).mono ?_
      rintro e w1 ⟨rfl, rfl⟩
      rw [HW1.out]
      refine hK.out _ _ (box1_of hc) (fun hHeld => ?_)
      clear hK K
      try simp only [Act.put, List.getElem_toArray, List.getElem_cons_succ, List.getElem_cons_zero, List.setIfInBounds_toArray, List.set_cons_succ, List.set_cons_zero]
      refine wpAnyH_take (i := 5) (v := ?_) rfl (by kernel_rfl) (by kernel_rfl) (by kernel_rfl) (fun _ _ _ h => h) (Or.inl ⟨rfl, ?_⟩) hHeld ?_
      rotate_left
      · intro w' hS; obtain ⟨s0, s1⟩ := hS; go_simp <;> with_reducible rfl
      simp only [Act.put, List.getElem_toArray, List.getElem_cons_succ, List.getElem_cons_zero, List.setIfInBounds_toArray, List.set_cons_succ, List.set_cons_zero]
      refine wpAnyH_take (i := 6) (v := ?_) rfl (by kernel_rfl) (by kernel_rfl) (by kernel_rfl) (fun _ _ _ h => h) (Or.inl ⟨rfl, ?_⟩) hHeld ?_
      rotate_left
      · intro w' hS; obtain ⟨s0, s1⟩ := hS; go_simp <;> with_reducible rfl
      simp only [Act.put, List.getElem_toArray, List.getElem_cons_succ, List.getElem_cons_zero, List.setIfInBounds_toArray, List.set_cons_succ, List.set_cons_zero]
      refine wpAnyH_take (i := 7) (v := ?_) rfl (by kernel_rfl) (by kernel_rfl) (by kernel_rfl) (fun _ _ _ h => h) (Or.inl ⟨rfl, ?_⟩) hHeld ?_
      rotate_left
      · intro w' hS; obtain ⟨s0, s1⟩ := hS; go_simp <;> with_reducible rfl
      simp only [Act.put, List.getElem_toArray, List.getElem_cons_succ, List.getElem_cons_zero, List.setIfInBounds_toArray, List.set_cons_succ, List.set_cons_zero]
      refine wpAnyH_take (i := 8) (v := ?_) rfl (by kernel_rfl) (by kernel_rfl) (by kernel_rfl) (fun _ _ _ h => h) (Or.inl ⟨rfl, ?_⟩) hHeld ?_
      rotate_left
      · intro w' hS; obtain ⟨s0, s1⟩ := hS; go_simp <;> with_reducible rfl
      simp only [Act.put, List.getElem_toArray, List.getElem_cons_succ, List.getElem_cons_zero, List.setIfInBounds_toArray, List.set_cons_succ, List.set_cons_zero]
      refine wpAnyH_take (i := 9) (v := ?_) rfl (by kernel_rfl) (by kernel_rfl) (by kernel_rfl) (fun _ _ _ h => h) (Or.inl ⟨rfl, ?_⟩) hHeld ?_
      rotate_left
      · intro w' hS; obtain ⟨s0, s1⟩ := hS; go_simp <;> with_reducible rfl
      simp only [Act.put, List.getElem_toArray, List.getElem_cons_succ, List.getElem_cons_zero, List.setIfInBounds_toArray, List.set_cons_succ, List.set_cons_zero]
      refine wpAnyH_take (i := 10) (v := ?_) rfl (by kernel_rfl) (by kernel_rfl) (by kernel_rfl) (fun _ _ _ h => h) (Or.inl ⟨rfl, ?_⟩) hHeld ?_
      rotate_left
      · intro w' hS; obtain ⟨s0, s1⟩ := hS; go_simp <;> with_reducible rfl
      simp only [Act.put, List.getElem_toArray, List.getElem_cons_succ, List.getElem_cons_zero, List.setIfInBounds_toArray, List.set_cons_succ, List.set_cons_zero]
      refine wpAnyH_ready (rs := [11]) (by kernel_rfl) (by simp) (AllReadyH.cons rfl (fun K hK => ?_) AllReadyH.nil)
      go_simp
      refine (l1Rising_any D l.length d l _ _ hD2 rfl hn).mono ?_
      rintro e w2 ⟨rfl, rfl⟩
      rw [HRI.out]
      refine hK.out _ _ (box1_of hc) (fun hHeld => ?_)
      clear hK K
      try simp only [Act.put, List.getElem_toArray, List.getElem_cons_succ, List.getElem_cons_zero, List.setIfInBounds_toArray, List.set_cons_succ, List.set_cons_zero]
      refine wpAnyH_take (i := 12) (v := ?_) rfl (by kernel_rfl) (by kernel_rfl) (by kernel_rfl) (fun _ _ _ h => h) (Or.inl ⟨rfl, ?_⟩) hHeld ?_
      rotate_left
      · intro w' hS; obtain ⟨s0, s1⟩ := hS; go_simp <;> with_reducible rfl
      simp only [Act.put, List.getElem_toArray, List.getElem_cons_succ, List.getElem_cons_zero, List.setIfInBounds_toArray, List.set_cons_succ, List.set_cons_zero]
      refine wpAnyH_take (i := 13) (v := ?_) rfl (by kernel_rfl) (by kernel_rfl) (by kernel_rfl) (fun _ _ _ h => h) (Or.inl ⟨rfl, ?_⟩) hHeld ?_
      rotate_left
      · intro w' hS; obtain ⟨s0, s1⟩ := hS; go_simp <;> with_reducible rfl
      simp only [Act.put, List.getElem_toArray, List.getElem_cons_succ, List.getElem_cons_zero, List.setIfInBounds_toArray, List.set_cons_succ, List.set_cons_zero]
      refine wpAnyH_take (i := 14) (v := undef) rfl (by kernel_rfl) (by kernel_rfl) (by kernel_rfl) (fun _ _ _ h => h) (Or.inr ⟨by simp [Region.wanted, yielded], rfl⟩) hHeld ?_
      simp only [Act.put, List.getElem_toArray, List.getElem_cons_succ, List.getElem_cons_zero, List.setIfInBounds_toArray, List.set_cons_succ, List.set_cons_zero]
      refine wpAnyH_take (i := 15) (v := undef) rfl (by kernel_rfl) (by kernel_rfl) (by kernel_rfl) (fun _ _ _ h => h) (Or.inr ⟨by simp [Region.wanted, yielded], rfl⟩) hHeld ?_
      simp only [Act.put, List.getElem_toArray, List.getElem_cons_succ, List.getElem_cons_zero, List.setIfInBounds_toArray, List.set_cons_succ, List.set_cons_zero]
      refine wpAnyH_take (i := 16) (v := undef) rfl (by kernel_rfl) (by kernel_rfl) (by kernel_rfl) (fun _ _ _ h => h) (Or.inr ⟨by simp [Region.wanted, yielded], rfl⟩) hHeld ?_
      simp only [Act.put, List.getElem_toArray, List.getElem_cons_succ, List.getElem_cons_zero, List.setIfInBounds_toArray, List.set_cons_succ, List.set_cons_zero]
      refine wpAnyH_take (i := 17) (v := undef) rfl (by kernel_rfl) (by kernel_rfl) (by kernel_rfl) (fun _ _ _ h => h) (Or.inr ⟨by simp [Region.wanted, yielded], rfl⟩) hHeld ?_
      simp only [Act.put, List.getElem_toArray, List.getElem_cons_succ, List.getElem_cons_zero, List.setIfInBounds_toArray, List.set_cons_succ, List.set_cons_zero]
      refine wpAnyH_take (i := 18) (v := undef) rfl (by kernel_rfl) (by kernel_rfl) (by kernel_rfl) (fun _ _ _ h => h) (Or.inr ⟨by simp [Region.wanted, yielded], rfl⟩) hHeld ?_
      simp only [Act.put, List.getElem_toArray, List.getElem_cons_succ, List.getElem_cons_zero, List.setIfInBounds_toArray, List.set_cons_succ, List.set_cons_zero]
      refine wpAnyH_take (i := 19) (v := ?_) rfl (by kernel_rfl) (by kernel_rfl) (by kernel_rfl) (fun _ _ _ h => h) (Or.inl ⟨rfl, ?_⟩) hHeld ?_
      rotate_left
      · intro w' hS; obtain ⟨s0, s1⟩ := hS; go_simp <;> with_reducible rfl
      simp only [Act.put, List.getElem_toArray, List.getElem_cons_succ, List.getElem_cons_zero, List.setIfInBounds_toArray, List.set_cons_succ, List.set_cons_zero]
      refine wpAnyH_take (i := 20) (v := ?_) rfl (by kernel_rfl) (by kernel_rfl) (by kernel_rfl) (fun _ _ _ h => h) (Or.inl ⟨rfl, ?_⟩) hHeld ?_
      rotate_left
      · intro w' hS; obtain ⟨s0, s1⟩ := hS; go_simp <;> with_reducible rfl
      simp only [Act.put, List.getElem_toArray, List.getElem_cons_succ, List.getElem_cons_zero, List.setIfInBounds_toArray, List.set_cons_succ, List.set_cons_zero]
      refine wpAnyH_done (by kernel_rfl) ?_ _
      clear hHeld
      go_wp2
      go_ret
      exact ⟨ret_of (by rw [HP.out]; rfl), ht⟩
    · have hst := rising_steps h2
      have hlen := (within_iff.1 h1).1
      have HP := Lib.hid (tripM_on (x := x) h1 h2)
      have HW1 := Lib.hid h1
      have HRI := Lib.hid h2
      have HST := Lib.hid hst
      have HM1 := Lib.hid (mask_pos hst (by omega))
      have HM2 := Lib.hid (mask_lt (n := 2 * k) (by have := steps_len hst (by omega); omega) l (fun x hx => by have := (mem_steps hst hx).2; omega))
      clear h1 h2 hx hD hst
      go_enter Try.func72, Try.ntmps72
      go_wp2_with fail
      refine wp_region_held_drew (S := (Box1 w.heap.size (.int .i64 k) (.int .i64 q))) (by kernel_rfl) (box1_of hc.drew) (fun hHeld => ?_)
      replace ht := ht.drew
      replace hc := hc.drew
      replace hD2 := hD2.drew
      refine wpAnyH_take (i := 0) (v := ?_) rfl (by kernel_rfl) (by kernel_rfl) (by kernel_rfl) (fun _ _ _ h => h) (Or.inl ⟨rfl, ?_⟩) hHeld ?_
      rotate_left
      · intro w' hS; obtain ⟨s0, s1⟩ := hS; go_simp <;> with_reducible rfl
      simp only [Act.put, List.getElem_toArray, List.getElem_cons_succ, List.getElem_cons_zero, List.setIfInBounds_toArray, List.set_cons_succ, List.set_cons_zero]
      refine wpAnyH_take (i := 1) (v := ?_) rfl (by kernel_rfl) (by kernel_rfl) (by kernel_rfl) (fun _ _ _ h => h) (Or.inl ⟨rfl, ?_⟩) hHeld ?_
      rotate_left
      · intro w' hS; obtain ⟨s0, s1⟩ := hS; go_simp <;> with_reducible rfl
      simp only [Act.put, List.getElem_toArray, List.getElem_cons_succ, List.getElem_cons_zero, List.setIfInBounds_toArray, List.set_cons_succ, List.set_cons_zero]
      refine wpAnyH_take (i := 2) (v := ?_) rfl (by kernel_rfl) (by kernel_rfl) (by kernel_rfl) (fun _ _ _ h => h) (Or.inl ⟨rfl, ?_⟩) hHeld ?_
      rotate_left
      · intro w' hS; obtain ⟨s0, s1⟩ := hS; go_simp <;> with_reducible rfl
      simp only [Act.put, List.getElem_toArray, List.getElem_cons_succ, List.getElem_cons_zero, List.setIfInBounds_toArray, List.set_cons_succ, List.set_cons_zero]
      refine wpAnyH_take (i := 3) (v := ?_) rfl (by kernel_rfl) (by kernel_rfl) (by kernel_rfl) (fun _ _ _ h => h) (Or.inl ⟨rfl, ?_⟩) hHeld ?_
      rotate_left
      · intro w' hS; obtain ⟨s0, s1⟩ := hS; go_simp <;> with_reducible rfl
      simp only [Act.put, List.getElem_toArray, List.getElem_cons_succ, List.getElem_cons_zero, List.setIfInBounds_toArray, List.set_cons_succ, List.set_cons_zero]
      refine wpAnyH_ready (rs := [4]) (by kernel_rfl) (by simp) (AllReadyH.cons rfl (fun K hK => ?_) AllReadyH.nil)
      go_simp
      refine (l1In_any _ _ _ _).mono ?_
      rintro e w1 ⟨rfl, rfl⟩
      rw [HW1.out]
      refine hK.out _ _ (box1_of hc) (fun hHeld => ?_)
      clear hK K
      try simp only [Act.put, List.getElem_toArray, List.getElem_cons_succ, List.getElem_cons_zero, List.setIfInBounds_toArray, List.set_cons_succ, List.set_cons_zero]
      refine wpAnyH_take (i := 5) (v := ?_) rfl (by kernel_rfl) (by kernel_rfl) (by kernel_rfl) (fun _ _ _ h => h) (Or.inl ⟨rfl, ?_⟩) hHeld ?_
      rotate_left
      · intro w' hS; obtain ⟨s0, s1⟩ := hS; go_simp <;> with_reducible rfl
      simp only [Act.put, List.getElem_toArray, List.getElem_cons_succ, List.getElem_cons_zero, List.setIfInBounds_toArray, List.set_cons_succ, List.set_cons_zero]
      refine wpAnyH_take (i := 6) (v := ?_) rfl (by kernel_rfl) (by kernel_rfl) (by kernel_rfl) (fun _ _ _ h => h) (Or.inl ⟨rfl, ?_⟩) hHeld ?_
      rotate_left
      · intro w' hS; obtain ⟨s0, s1⟩ := hS; go_simp <;> with_reducible rfl
      simp only [Act.put, List.getElem_toArray, List.getElem_cons_succ, List.getElem_cons_zero, List.setIfInBounds_toArray, List.set_cons_succ, List.set_cons_zero]
      refine wpAnyH_take (i := 7) (v := ?_) rfl (by kernel_rfl) (by kernel_rfl) (by kernel_rfl) (fun _ _ _ h => h) (Or.inl ⟨rfl, ?_⟩) hHeld ?_
      rotate_left
      · intro w' hS; obtain ⟨s0, s1⟩ := hS; go_simp <;> with_reducible rfl
      simp only [Act.put, List.getElem_toArray, List.getElem_cons_succ, List.getElem_cons_zero, List.setIfInBounds_toArray, List.set_cons_succ, List.set_cons_zero]
      refine wpAnyH_take (i := 8) (v := ?_) rfl (by kernel_rfl) (by kernel_rfl) (by kernel_rfl) (fun _ _ _ h => h) (Or.inl ⟨rfl, ?_⟩) hHeld ?_
      rotate_left
      · intro w' hS; obtain ⟨s0, s1⟩ := hS; go_simp <;> with_reducible rfl
      simp only [Act.put, List.getElem_toArray, List.getElem_cons_succ, List.getElem_cons_zero, List.setIfInBounds_toArray, List.set_cons_succ, List.set_cons_zero]
      refine wpAnyH_take (i := 9) (v := ?_) rfl (by kernel_rfl) (by kernel_rfl) (by kernel_rfl) (fun _ _ _ h => h) (Or.inl ⟨rfl, ?_⟩) hHeld ?_
      rotate_left
      · intro w' hS; obtain ⟨s0, s1⟩ := hS; go_simp <;> with_reducible rfl
      simp only [Act.put, List.getElem_toArray, List.getElem_cons_succ, List.getElem_cons_zero, List.setIfInBounds_toArray, List.set_cons_succ, List.set_cons_zero]
      refine wpAnyH_take (i := 10) (v := ?_) rfl (by kernel_rfl) (by kernel_rfl) (by kernel_rfl) (fun _ _ _ h => h) (Or.inl ⟨rfl, ?_⟩) hHeld ?_
      rotate_left
      · intro w' hS; obtain ⟨s0, s1⟩ := hS; go_simp <;> with_reducible rfl
      simp only [Act.put, List.getElem_toArray, List.getElem_cons_succ, List.getElem_cons_zero, List.setIfInBounds_toArray, List.set_cons_succ, List.set_cons_zero]
      refine wpAnyH_ready (rs := [11]) (by kernel_rfl) (by simp) (AllReadyH.cons rfl (fun K hK => ?_) AllReadyH.nil)
      go_simp
      refine (l1Rising_any D l.length d l _ _ hD2 rfl hn).mono ?_
      rintro e w2 ⟨rfl, rfl⟩
      rw [HRI.out]
      refine hK.out _ _ (box1_of hc) (fun hHeld => ?_)
      clear hK K
      try simp only [Act.put, List.getElem_toArray, List.getElem_cons_succ, List.getElem_cons_zero, List.setIfInBounds_toArray, List.set_cons_succ, List.set_cons_zero]
      refine wpAnyH_take (i := 12) (v := ?_) rfl (by kernel_rfl) (by kernel_rfl) (by kernel_rfl) (fun _ _ _ h => h) (Or.inl ⟨rfl, ?_⟩) hHeld ?_
      rotate_left
      · intro w' hS; obtain ⟨s0, s1⟩ := hS; go_simp <;> with_reducible rfl
      simp only [Act.put, List.getElem_toArray, List.getElem_cons_succ, List.getElem_cons_zero, List.setIfInBounds_toArray, List.set_cons_succ, List.set_cons_zero]
      refine wpAnyH_take (i := 13) (v := ?_) rfl (by kernel_rfl) (by kernel_rfl) (by kernel_rfl) (fun _ _ _ h => h) (Or.inl ⟨rfl, ?_⟩) hHeld ?_
      rotate_left
      · intro w' hS; obtain ⟨s0, s1⟩ := hS; go_simp <;> with_reducible rfl
      simp only [Act.put, List.getElem_toArray, List.getElem_cons_succ, List.getElem_cons_zero, List.setIfInBounds_toArray, List.set_cons_succ, List.set_cons_zero]
      refine wpAnyH_take (i := 14) (v := ?_) rfl (by kernel_rfl) (by kernel_rfl) (by kernel_rfl) (fun _ _ _ h => h) (Or.inl ⟨rfl, ?_⟩) hHeld ?_
      rotate_left
      · intro w' hS; obtain ⟨s0, s1⟩ := hS; go_simp <;> with_reducible rfl
      simp only [Act.put, List.getElem_toArray, List.getElem_cons_succ, List.getElem_cons_zero, List.setIfInBounds_toArray, List.set_cons_succ, List.set_cons_zero]
      refine wpAnyH_take (i := 15) (v := ?_) rfl (by kernel_rfl) (by kernel_rfl) (by kernel_rfl) (fun _ _ _ h => h) (Or.inl ⟨rfl, ?_⟩) hHeld ?_
      rotate_left
      · intro w' hS; obtain ⟨s0, s1⟩ := hS; go_simp <;> with_reducible rfl
      simp only [Act.put, List.getElem_toArray, List.getElem_cons_succ, List.getElem_cons_zero, List.setIfInBounds_toArray, List.set_cons_succ, List.set_cons_zero]
      refine wpAnyH_take (i := 16) (v := ?_) rfl (by kernel_rfl) (by kernel_rfl) (by kernel_rfl) (fun _ _ _ h => h) (Or.inl ⟨rfl, ?_⟩) hHeld ?_
      rotate_left
      · intro w' hS; obtain ⟨s0, s1⟩ := hS; go_simp <;> with_reducible rfl
      simp only [Act.put, List.getElem_toArray, List.getElem_cons_succ, List.getElem_cons_zero, List.setIfInBounds_toArray, List.set_cons_succ, List.set_cons_zero]
      refine wpAnyH_ready (rs := [17]) (by kernel_rfl) (by simp) (AllReadyH.cons rfl (fun K hK => ?_) AllReadyH.nil)
      go_simp
      refine (cuBits_any D l.length d l _ _ hD2 rfl hn HST.out (by omega)).mono ?_
      rintro e w3 ⟨rfl, rfl⟩
      refine hK.out _ _ (box1_of hc) (fun hHeld => ?_)
      clear hK K
      try simp only [Act.put, List.getElem_toArray, List.getElem_cons_succ, List.getElem_cons_zero, List.setIfInBounds_toArray, List.set_cons_succ, List.set_cons_zero]
      refine wpAnyH_ready (rs := [18]) (by kernel_rfl) (by simp) (AllReadyH.cons rfl (fun K hK => ?_) AllReadyH.nil)
      go_simp
      refine (cuCan_any k q x (maskOf l) _ hk HXL.out HM1.out HM2.out).mono ?_
      rintro e w4 ⟨rfl, hb⟩
      replace ht := below_then ht hb ht.size
      replace hc := hc.below hb
      clear hb
      refine hK.out _ _ (box1_of hc) (fun hHeld => ?_)
      clear hK K
      try simp only [Act.put, List.getElem_toArray, List.getElem_cons_succ, List.getElem_cons_zero, List.setIfInBounds_toArray, List.set_cons_succ, List.set_cons_zero]
      refine wpAnyH_take (i := 19) (v := ?_) rfl (by kernel_rfl) (by kernel_rfl) (by kernel_rfl) (fun _ _ _ h => h) (Or.inl ⟨rfl, ?_⟩) hHeld ?_
      rotate_left
      · intro w' hS; obtain ⟨s0, s1⟩ := hS; go_simp <;> with_reducible rfl
      simp only [Act.put, List.getElem_toArray, List.getElem_cons_succ, List.getElem_cons_zero, List.setIfInBounds_toArray, List.set_cons_succ, List.set_cons_zero]
      refine wpAnyH_take (i := 20) (v := ?_) rfl (by kernel_rfl) (by kernel_rfl) (by kernel_rfl) (fun _ _ _ h => h) (Or.inl ⟨rfl, ?_⟩) hHeld ?_
      rotate_left
      · intro w' hS; obtain ⟨s0, s1⟩ := hS; go_simp <;> with_reducible rfl
      simp only [Act.put, List.getElem_toArray, List.getElem_cons_succ, List.getElem_cons_zero, List.setIfInBounds_toArray, List.set_cons_succ, List.set_cons_zero]
      refine wpAnyH_done (by kernel_rfl) ?_ _
      clear hHeld
      go_wp2
      go_ret
      exact ⟨ret_of (by rw [HP.out]; rfl), ht⟩
end Go.Proofs.Ytkdjdnknhbmliaa

namespace Go.Proofs.Ytkdjdnknhbmliaa
open Go.RowKit

/-- The number of the state behind a row. -/
noncomputable def stepC (x : Nat) (l : List Int) : Nat := x ^^^ (2 * maskOf l + 1)
/-- Are the lists rows, one after the other, and does the last one end at e? -/
noncomputable def planM (k : Nat) (q : Int) (e : Nat) : Nat → List (List Int) → Bool
  | x, [] => decide (x = e)
  | x, l :: ls => tripM k q x l && planM k q e (stepC x l) ls
theorem planM_stop {k : Nat} {q : Int} {e x : Nat} {ls : List (List Int)} {j : Nat} (hj : j < ls.length) (h : tripM k q x ls[j] = false) : planM k q e x (ls.drop j) = false := by
  rw [List.drop_eq_getElem_cons hj, planM, h]; rfl
theorem planM_next {k : Nat} {q : Int} {e x : Nat} {ls : List (List Int)} {j : Nat} (hj : j < ls.length) (h : tripM k q x ls[j] = true) : planM k q e x (ls.drop j) = planM k q e (stepC x ls[j]) (ls.drop (j + 1)) := by
  rw [List.drop_eq_getElem_cons hj, planM, h]; rfl
theorem trip_mask {k : Nat} {q : Int} {x : Nat} {l : List Int} (hk : k ≤ 4) (h : tripM k q x l = true) : StepsTo l (2 * k - 1) l.length ∧ maskOf l < 2 ^ (2 * k) := by
  simp only [tripM, Bool.and_eq_true] at h
  have hst := rising_steps h.2.1
  have hlen := (within_iff.1 h.1).1
  exact ⟨hst, mask_lt (n := 2 * k) (by have := steps_len hst (by omega); omega) l (fun x hx => by have := (mem_steps hst hx).2; omega)⟩
theorem stepC_lt {k x : Nat} {l : List Int} (hx : x / 2 < 2 ^ (2 * k)) (hm : maskOf l < 2 ^ (2 * k)) : stepC x l / 2 < 2 ^ (2 * k) := by
  have ha : x < 2 ^ (2 * k + 1) := by rw [Nat.pow_succ]; omega
  have hb : 2 * maskOf l + 1 < 2 ^ (2 * k + 1) := by rw [Nat.pow_succ]; omega
  have := Nat.xor_lt_two_pow ha hb
  rw [Nat.pow_succ] at this
  unfold stepC
  omega

set_option maxHeartbeats 3200000 in
set_option maxRecDepth 100000 in
theorem cuPlan_any (k : Nat) (q : Int) (D : Option Addr) (n z : Nat) (rs : List RowV) (w : World) (hk : k ≤ 4) (hD : Grid w D rs) (hz : rs.length = n) (hn : n ≤ 9223372036854775807) :
    Calls Try.prog 80 #[.agg #[.int .i64 k, .int .i64 q], .slice D n z] w fun e w' => e = .returned (.bool (planM k q (2 * 2 ^ (2 * k) - 1) 0 (rowNums rs))) ∧ Below w.heap.size w w' := by
  obtain rfl : rs.length = n := hz
  have hp := pow_c hk
  have h1p : 1 ≤ 2 ^ (2 * k) := Nat.one_le_two_pow
  have hp0 := Whole.fresh w 31 #[.int .i64 k, .int .i64 q]
  have ht0 := below1 w (.cells #[.int .i64 k, .int .i64 q] 31)
  have hD0 := hD.alloc (.cells #[.int .i64 k, .int .i64 q] 31)
  obtain ⟨N, hN⟩ : ∃ N : Nat, N = 2 ^ (2 * k) := ⟨_, rfl⟩
  rw [← hN] at hp h1p
  have HNN := Lib.hid hN
  obtain ⟨P, hP⟩ : ∃ P : Bool, P = planM k q (2 * 2 ^ (2 * k) - 1) 0 (rowNums rs) := ⟨_, rfl⟩
  rw [← hP]
  have HP := Lib.hid hP
  have HLS := Lib.hid (rowNums_len rs)
  clear hP hN hD
  go_enter Try.func80, Try.ntmps80
  go_wp2_with fail
  go_loopw [5, 10] (fun v i wr => ∃ j x : Nat, j ≤ rs.length ∧ i = .int .i64 j ∧ v = .int .i64 x ∧ x / 2 < N ∧ P = planM k q (2 * N - 1) x ((rowNums rs).drop j) ∧ Whole wr w.heap.size 31 #[.int .i64 k, .int .i64 q] ∧ Grid wr D rs ∧ Below w.heap.size w wr) (fun _ i _ => rs.length - (intOf i).toNat)
  case atStart => exact ⟨0, 0, Nat.zero_le _, rfl, rfl, by omega, by rw [HP.out, HNN.out]; rfl, hp0, hD0, ht0⟩
  case round =>
    obtain ⟨j, x, hj, rfl, rfl, hxN, hpl, hc, hG, ht⟩ := hrel
    have HPL := Lib.hid hpl
    have HXN : Hid (x / 2 < 2 ^ (2 * k)) := by show _ < _; rw [← HNN.out]; exact hxN
    obtain ⟨c0, c1, -, -⟩ := hc.two
    clear hpl hp0 ht0 hD0
    by_cases hlt : j < rs.length
    · obtain ⟨b, o, rfl, hb, hcell, hrow, hrl, hrn⟩ := hG.look hlt
      have hlj : j < (rowNums rs).length := by rw [HLS.out]; exact hlt
      have HGT : Hid ((rowNums rs)[j] = rs[j].xs) := by show _ = _; simp [rowNums]
      cases hd : tripM k q x rs[j].xs
      · have HD := Lib.hid hd
        have HST : Hid (P = false) := by show _ = _; rw [HPL.out]; exact planM_stop hlj (by rw [HGT.out]; exact hd)
        clear hd
        go_wp2_with fail
        refine (cuTrip_any k q x _ _ _ rs[j].xs _ hk HXN.out hrow hrl hrn).mono ?_
        rintro e w1 ⟨rfl, hb1⟩
        rw [HD.out]
        have ht1 := below_then ht hb1 ht.size
        go_wp2
        go_ret
        exact ⟨ret_of (by rw [HST.out]; rfl), ht1⟩
      · have HD := Lib.hid hd
        obtain ⟨hst, hm⟩ := trip_mask hk hd
        have HM := Lib.hid hm
        have HSP := Lib.hid hst
        have hm8 : maskOf rs[j].xs < 256 := by have := HM.out; rw [← HNN.out] at this; omega
        have HNX : Hid (P = planM k q (2 * N - 1) (stepC x rs[j].xs) ((rowNums rs).drop (j + 1))) := by
          show _ = _
          rw [HPL.out, planM_next hlj (by rw [HGT.out]; exact hd), HGT.out]
        clear hd hst hm
        have HXX := Lib.hid (show Go.bits .xor .i64 (x : Int) (2 * (maskOf rs[j].xs : Int) + 1) = ((stepC x rs[j].xs : Nat) : Int) by
          rw [show (2 * (maskOf rs[j].xs : Int) + 1) = ((2 * maskOf rs[j].xs + 1 : Nat) : Int) by omega]; exact bits_xor_nat _ _ (by omega) (by omega))
        go_wp2_with fail
        refine (cuTrip_any k q x _ _ _ rs[j].xs _ hk HXN.out hrow hrl hrn).mono ?_
        rintro e w1 ⟨rfl, hb1⟩
        rw [HD.out]
        have ht1 := below_then ht hb1 ht.size
        have hc1 := hc.below hb1
        have hG1 := hG.below hb1
        have hrow1 := hrow.below hb1
        clear c0 c1 hc hG ht hcell
        go_wp2_with fail
        refine (cuBits_any _ _ _ rs[j].xs (2 * k - 1) _ hrow1 hrl hrn HSP.out (by omega)).mono ?_
        rintro e w2 ⟨rfl, rfl⟩
        go_wp2
        go_roundw
        case measure => simp [intOf]; omega
        case rel => exact ⟨j + 1, stepC x rs[j].xs, by omega, by go_num, by rw [HXX.out], by have := stepC_lt HXN.out HM.out; rw [← HNN.out] at this; exact this, HNX.out, hc1, hG1, ht1⟩
    · have hje : j = rs.length := by omega
      have HEN : Hid (P = decide (x = 2 * N - 1)) := by
        show _ = _
        rw [HPL.out, List.drop_eq_nil_of_le (by rw [HLS.out]; omega), planM]
      clear hje
      go_wp2_with fail
      refine (cuSize_any k q _ hk).mono ?_
      rintro e w1 ⟨rfl, hb1⟩
      rw [← HNN.out]
      have ht1 := below_then ht hb1 ht.size
      have HEQ : Hid (((x : Int) == 2 * (N : Int) - 1) = decide (x = 2 * N - 1)) := by
        show _ = _
        rw [Bool.eq_iff_iff]
        simp
        omega
      clear c0 c1 hc hG ht hb1
      go_wp2
      go_ret
      exact ⟨ret_of (by rw [HEN.out, HEQ.out]; rfl), ht1⟩
end Go.Proofs.Ytkdjdnknhbmliaa

namespace Go.Proofs.Ytkdjdnknhbmliaa
open Go.RowKit

/-- What IsCalmPlan hands back. -/
def TwoTold (a b : Bool) (w : World) (e : Ending) (w' : World) : Prop := e = .returned (.tuple #[.bool a, .bool b]) ∧ Below w.heap.size w w'
def cpOk (a b : Int) (ls : List (List Int)) : Bool := isCo a b && decide (ls.length ≤ 40)
noncomputable def isCP (a b : Int) (ls : List (List Int)) : Bool := cpOk a b ls && planM a.toNat b (2 * 2 ^ (2 * a.toNat) - 1) 0 ls
theorem cp_no {a b : Int} {ls : List (List Int)} (h : isCo a b = false ∨ 40 < ls.length) : cpOk a b ls = false ∧ isCP a b ls = false := by
  have h0 : cpOk a b ls = false := by
    rcases h with h | h
    · simp [cpOk, h]
    · simp [cpOk]; omega
  exact ⟨h0, by simp [isCP, h0]⟩
theorem cp_yes {k : Nat} {b : Int} {ls : List (List Int)} (h : isCo k b = true) (h40 : ls.length ≤ 40) : cpOk k b ls = true ∧ isCP k b ls = planM k b (2 * 2 ^ (2 * k) - 1) 0 ls := by
  have h0 : cpOk k b ls = true := by simp [cpOk, h, h40]
  exact ⟨h0, by simp [isCP, h0]⟩

end Go.Proofs.Ytkdjdnknhbmliaa

namespace Go.Proofs.Ytkdjdnknhbmliaa
open Go.RowKit

/-- Two places compared. -/
def sameEight (v0 v1 v2 v3 v4 v5 v6 v7 u0 u1 u2 u3 u4 u5 u6 u7 : Bool) : Bool := v0 == u0 && v1 == u1 && v2 == u2 && v3 == u3 && v4 == u4 && v5 == u5 && v6 == u6 && v7 == u7
def samePlace (v0 v1 v2 v3 v4 v5 v6 v7 v8 u0 u1 u2 u3 u4 u5 u6 u7 u8 : Bool) : Bool := sameEight v0 v1 v2 v3 v4 v5 v6 v7 u0 u1 u2 u3 u4 u5 u6 u7 && v8 == u8
set_option maxHeartbeats 1600000 in
theorem eight_eq (v0 v1 v2 v3 v4 v5 v6 v7 u0 u1 u2 u3 u4 u5 u6 u7 : Bool) (w : World) : (Op.equalIn 9998 86 (.agg #[.bool v0, .bool v1, .bool v2, .bool v3, .bool v4, .bool v5, .bool v6, .bool v7]) (.agg #[.bool u0, .bool u1, .bool u2, .bool u3, .bool u4, .bool u5, .bool u6, .bool u7])).run Try.prog w = .ok (sameEight v0 v1 v2 v3 v4 v5 v6 v7 u0 u1 u2 u3 u4 u5 u6 u7) w := by
  unfold sameEight
  have uB := Try.underlying4
  have aB := Try.isAgg4
  have zB := Try.sizeOf4
  rw [show (9998 : Nat) = 9997 + 1 from rfl, Op.equalIn]
  simp only [Sem.run_bind, run_underlying Try.underlying86, Result.andThen_ok]
  simp only [Std.Legacy.Range.forIn_eq_forIn_range', Std.Legacy.Range.size, Nat.sub_zero, Nat.add_sub_cancel, Nat.div_one, List.range'_succ, List.range'_zero, List.forIn_cons, List.forIn_nil]
  go_simp
  by_cases h0 : v0 = u0
  case neg => simp [h0]
  case pos =>
    subst h0
    by_cases h1 : v1 = u1
    case neg => simp [h1]
    case pos =>
      subst h1
      by_cases h2 : v2 = u2
      case neg => simp [h2]
      case pos =>
        subst h2
        by_cases h3 : v3 = u3
        case neg => simp [h3]
        case pos =>
          subst h3
          by_cases h4 : v4 = u4
          case neg => simp [h4]
          case pos =>
            subst h4
            by_cases h5 : v5 = u5
            case neg => simp [h5]
            case pos =>
              subst h5
              by_cases h6 : v6 = u6
              case neg => simp [h6]
              case pos =>
                subst h6
                by_cases h7 : v7 = u7
                case neg => simp [h7]
                case pos =>
                  subst h7
                  simp
set_option maxHeartbeats 1600000 in
@[go_sem high] theorem place_eq (v0 v1 v2 v3 v4 v5 v6 v7 v8 u0 u1 u2 u3 u4 u5 u6 u7 u8 : Bool) (w : World) : (Op.equalIn 10000 90 (.agg #[.bool v0, .bool v1, .bool v2, .bool v3, .bool v4, .bool v5, .bool v6, .bool v7, .bool v8]) (.agg #[.bool u0, .bool u1, .bool u2, .bool u3, .bool u4, .bool u5, .bool u6, .bool u7, .bool u8])).run Try.prog w = .ok (samePlace v0 v1 v2 v3 v4 v5 v6 v7 v8 u0 u1 u2 u3 u4 u5 u6 u7 u8) w := by
  have h := eight_eq v0 v1 v2 v3 v4 v5 v6 v7 u0 u1 u2 u3 u4 u5 u6 u7
  unfold samePlace
  generalize sameEight v0 v1 v2 v3 v4 v5 v6 v7 u0 u1 u2 u3 u4 u5 u6 u7 = b at h ⊢
  go_simp
  by_cases h8 : v8 = u8 <;> cases b <;> simp [h8]

theorem sameBits_ext {bs cs : List Bool} (hl : bs.length = cs.length) (h8 : bs.length ≤ 8) : sameEight (bs.getD 0 false) (bs.getD 1 false) (bs.getD 2 false) (bs.getD 3 false) (bs.getD 4 false) (bs.getD 5 false) (bs.getD 6 false) (bs.getD 7 false) (cs.getD 0 false) (cs.getD 1 false) (cs.getD 2 false) (cs.getD 3 false) (cs.getD 4 false) (cs.getD 5 false) (cs.getD 6 false) (cs.getD 7 false) = sameBits bs cs := by
  by_cases h : bs = cs
  · subst h
    rw [sameBits_yes rfl]
    simp [sameEight]
  · rw [sameBits_no h]
    cases hs : sameEight (bs.getD 0 false) (bs.getD 1 false) (bs.getD 2 false) (bs.getD 3 false) (bs.getD 4 false) (bs.getD 5 false) (bs.getD 6 false) (bs.getD 7 false) (cs.getD 0 false) (cs.getD 1 false) (cs.getD 2 false) (cs.getD 3 false) (cs.getD 4 false) (cs.getD 5 false) (cs.getD 6 false) (cs.getD 7 false)
    · rfl
    · exfalso
      apply h
      simp only [sameEight, Bool.and_eq_true, beq_iff_eq] at hs
      obtain ⟨⟨⟨⟨⟨⟨⟨e0, e1⟩, e2⟩, e3⟩, e4⟩, e5⟩, e6⟩, e7⟩ := hs
      apply List.ext_getElem hl
      intro i h1 h2
      have g : ∀ (l : List Bool) (h : i < l.length), l[i] = l.getD i false := fun l h => by simp [h]
      rw [g bs h1, g cs h2]
      match i, h1 with
      | 0, _ => exact e0
      | 1, _ => exact e1
      | 2, _ => exact e2
      | 3, _ => exact e3
      | 4, _ => exact e4
      | 5, _ => exact e5
      | 6, _ => exact e6
      | 7, _ => exact e7
      | k + 8, h => omega
end Go.Proofs.Ytkdjdnknhbmliaa

namespace Go.Proofs.Ytkdjdnknhbmliaa
open Go.RowKit

theorem nat_bits {a b : Nat} (h : ∀ i, bitAt a i = bitAt b i) : a = b := Nat.eq_of_testBit_eq h
theorem bit_code (bs : List Bool) (t : Bool) (i : Nat) : bitAt (codeOf bs t) i = if i = 0 then t else (decide (i - 1 < bs.length) && bs.getD (i - 1) false) := by
  cases i with
  | zero =>
    rw [bitAt_def]
    unfold codeOf
    cases t <;> simp <;> omega
  | succ j =>
    have h := bit_maskUp (fun i => bs.getD i false) bs.length j
    rw [← code_half bs t] at h
    simp only [Nat.add_one_ne_zero, if_false, Nat.add_one_sub_one]
    rw [← h, bitAt, bitAt, Nat.testBit_succ]
theorem bit_step (l : List Int) (h0 : ∀ x ∈ l, 0 ≤ x) (i : Nat) : bitAt (2 * maskOf l + 1) i = if i = 0 then true else has l (i - 1) := by
  cases i with
  | zero => rw [bitAt_def]; simp
  | succ j =>
    simp only [Nat.add_one_ne_zero, if_false, Nat.add_one_sub_one]
    rw [← mask_bit l h0 j, bitAt, bitAt, Nat.testBit_succ]
    congr 1
    omega
/-- The number of the state behind a row. -/
theorem step_code {n : Nat} {bs : List Bool} {t : Bool} {l : List Int} (hb : bs.length = n) (h0 : ∀ x ∈ l, 0 ≤ x ∧ x < n) : stepC (codeOf bs t) l = codeOf (flipped bs l) (!t) := by
  apply nat_bits
  intro i
  have h1 := bit_code bs t i
  have h2 := bit_step l (fun x hx => (h0 x hx).1) i
  rw [bit_code, stepC, bitAt, Nat.testBit_xor]
  unfold bitAt at h1 h2
  rw [h1, h2]
  cases i with
  | zero => cases t <;> rfl
  | succ j =>
    simp only [Nat.add_one_ne_zero, if_false, Nat.add_one_sub_one]
    rw [flipped_len]
    by_cases hj : j < bs.length
    · rw [flipped_get _ _ hj]
      simp [hj]
    · have hn : has l j = false := by
        cases hh : has l j
        · rfl
        · have := (h0 _ (has_iff.1 hh)).2
          omega
      simp [hj, hn]

/-- Two rising lists of the same numbers are one list. -/
theorem rising_same : ∀ {a b : List Int}, a.Pairwise (· < ·) → b.Pairwise (· < ·) → (∀ x, x ∈ a ↔ x ∈ b) → a = b
  | [], [], _, _, _ => rfl
  | [], y :: ys, _, _, h => absurd ((h y).2 (by simp)) (by simp)
  | x :: xs, [], _, _, h => absurd ((h x).1 (by simp)) (by simp)
  | x :: xs, y :: ys, ha, hb, h => by
    obtain ⟨ha1, ha2⟩ := List.pairwise_cons.1 ha
    obtain ⟨hb1, hb2⟩ := List.pairwise_cons.1 hb
    have hxy : x = y := by
      rcases List.mem_cons.1 ((h x).1 (by simp)) with e | hx
      · exact e
      · rcases List.mem_cons.1 ((h y).2 (by simp)) with e | hy
        · exact e.symm
        · have h1 := hb1 _ hx
          have h2 := ha1 _ hy
          omega
    subst hxy
    rw [rising_same ha2 hb2 fun z => ⟨fun hz => ?_, fun hz => ?_⟩]
    · rcases List.mem_cons.1 ((h z).1 (List.mem_cons_of_mem _ hz)) with e | hz'
      · have := ha1 _ hz; omega
      · exact hz'
    · rcases List.mem_cons.1 ((h z).2 (List.mem_cons_of_mem _ hz)) with e | hz'
      · have := hb1 _ hz; omega
      · exact hz'
theorem mem_firsts {n : Nat} {x : Int} : x ∈ firsts n ↔ 0 ≤ x ∧ x < n := by
  constructor
  · intro h
    have := firsts_mem h
    omega
  · intro h
    exact List.mem_map.2 ⟨x.toNat, List.mem_range.2 (by omega), by simp; omega⟩
theorem steps_sub {n : Nat} {l : List Int} (hs : StepsTo l ((n : Int) - 1) l.length) : l.Sublist (firsts n) := by
  have hm : ∀ x, x ∈ l → x ∈ firsts n := fun x hx => mem_firsts.2 (by have := mem_steps hs hx; omega)
  have he : l = (firsts n).filter (fun x => decide (x ∈ l)) := rising_same (steps_pair hs) ((firsts_pair n).filter _) fun x => by
    rw [List.mem_filter, decide_eq_true_eq]
    exact ⟨fun h => ⟨hm x h, h⟩, fun h => h.2⟩
  rw [he]
  exact List.filter_sublist
/-- The rising lists of people of so many, so many at most. -/
theorem mem_up {n m : Nat} {l : List Int} : l ∈ upLists n m ↔ StepsTo l ((n : Int) - 1) l.length ∧ 1 ≤ l.length ∧ l.length ≤ m := by
  refine ⟨up_steps, fun ⟨h1, h2, h3⟩ => ?_⟩
  rw [upLists, subs_mem]
  exact ⟨l, rfl, by intro h; rw [h] at h2; simp at h2, steps_sub h1, h3⟩
theorem list_mask {l : List Int} (hs : StepsTo l 7 l.length) : listOf (maskOf l) = l := by
  have h8 : ∀ x ∈ l, 0 ≤ x ∧ x ≤ 7 := fun x hx => mem_steps hs hx
  refine rising_same ?_ (steps_pair hs) fun x => ?_
  · have h := (firsts_pair 8).sublist (l₁ := listOf (maskOf l)) (by unfold listOf listTo firsts; exact List.filter_sublist.map _)
    exact h
  · unfold listOf listTo
    rw [List.mem_map]
    constructor
    · rintro ⟨i, hi, rfl⟩
      rw [List.mem_filter, mask_bit l (fun x hx => (h8 x hx).1)] at hi
      exact has_iff.1 hi.2
    · intro hx
      have hb := h8 x hx
      refine ⟨x.toNat, List.mem_filter.2 ⟨List.mem_range.2 (by omega), ?_⟩, by simp; omega⟩
      rw [mask_bit l (fun x hx => (h8 x hx).1), has_iff]
      rw [Int.toNat_of_nonneg hb.1]
      exact hx
theorem bit_here {k : Nat} {bs : List Bool} {t : Bool} (hb : bs.length = 2 * k) (i : Nat) : bitAt (hereM k (codeOf bs t)) i = (decide (i < 2 * k) && (bs.getD i false == t)) := by
  have hm := bit_maskUp (fun i => bs.getD i false) bs.length
  have hlt := maskUp_lt (fun i => bs.getD i false) bs.length
  unfold hereM
  rw [code_half]
  cases t
  · rw [if_pos (by unfold codeOf; simp), ← hb, rest_bit hlt, hm]
    by_cases h : i < bs.length <;> simp [h]
  · rw [if_neg (by unfold codeOf; simp), hm, hb]
    by_cases h : i < 2 * k <;> simp [h]
theorem here_all {k : Nat} {bs : List Bool} {t : Bool} {l : List Int} (hb : bs.length = 2 * k) (h0 : ∀ x ∈ l, 0 ≤ x ∧ x < 2 * k) : decide (maskOf l &&& hereM k (codeOf bs t) = maskOf l) = allAt bs t l := by
  have hbit : ∀ i, bitAt (maskOf l &&& hereM k (codeOf bs t)) i = (has l i && (decide (i < 2 * k) && (bs.getD i false == t))) := fun i => by
    rw [← bit_here hb i, ← mask_bit l (fun x hx => (h0 x hx).1) i]
    exact Nat.testBit_and _ _ _
  have hml := mask_bit l (fun x hx => (h0 x hx).1)
  rw [Bool.eq_iff_iff, decide_eq_true_eq, allAt, List.all_eq_true]
  constructor
  · intro h x hx
    have hb0 := h0 x hx
    have h1 := hbit x.toNat
    rw [h, hml, has_iff.2 (by rw [Int.toNat_of_nonneg hb0.1]; exact hx)] at h1
    simp only [Bool.true_and] at h1
    exact (Bool.and_eq_true_iff.1 h1.symm).2
  · intro h
    refine nat_bits fun i => ?_
    rw [hbit, hml]
    cases hh : has l i
    · rfl
    · have hi := has_iff.1 hh
      have h1 := h _ hi
      have h2 := h0 _ hi
      simp only [Int.toNat_natCast] at h1
      rw [h1, Bool.true_and, Bool.and_true, decide_eq_true_eq]
      omega
/-- The model's rows and the program's are the same. -/
theorem trip_rows {k q : Nat} {bs : List Bool} {t : Bool} {l : List Int} (hk : k ≤ 4) (hb : bs.length = 2 * k) : tripM k q (codeOf bs t) l = decide (l ∈ rowsIn k q bs t) := by
  rw [Bool.eq_iff_iff, decide_eq_true_eq, rowsIn, rowsAmong, List.mem_filter, groupsOf, grpOf, List.mem_filter, mem_up]
  simp only [tripM, canM, Bool.and_eq_true, within_iff]
  constructor
  · rintro ⟨⟨h1, h2⟩, h3, h4, h5, h6, h7⟩
    have hst := rising_steps h3
    have hm : ∀ x ∈ l, 0 ≤ x ∧ x < 2 * k := fun x hx => by have := mem_steps hst hx; omega
    rw [here_all hb hm] at h4
    rw [calm_congr (g := has l) (fun i _ => mask_bit l (fun x hx => (hm x hx).1) i)] at h6
    have hs := step_code (t := t) hb (l := l) (fun x hx => by have := hm x hx; omega)
    rw [stepC] at hs
    rw [hs, quiet_code (by rw [flipped_len]; exact hb)] at h7
    exact ⟨⟨⟨by push_cast; exact hst, by omega, by omega⟩, h6⟩, h4, h7⟩
  · rintro ⟨⟨⟨hst, h1, h2⟩, h6⟩, h4, h7⟩
    have hm : ∀ x ∈ l, 0 ≤ x ∧ x < 2 * k := fun x hx => by have := mem_steps hst hx; omega
    rw [← here_all hb hm] at h4
    have hs := step_code (t := t) hb (l := l) (fun x hx => by have := hm x hx; omega)
    rw [stepC] at hs
    rw [hs, quiet_code (by rw [flipped_len]; exact hb)]
    rw [← calm_congr (f := bitAt (maskOf l)) (g := has l) (fun i _ => mask_bit l (fun x hx => (hm x hx).1) i)] at h6
    have h7' : StepsTo l 7 l.length := fun j hj => by
      have := hst j hj
      unfold Step at this ⊢
      omega
    refine ⟨⟨by omega, by omega⟩, rising_yes (by push_cast at hst; exact hst) (Nat.le_refl _), h4, ?_, h6, h7⟩
    rw [list_mask h7', decide_eq_true_eq]
    omega

/-- Are the lists rows, one after the other, told by places? -/
def playP (k q : Nat) : List Bool → Bool → List (List Int) → Bool
  | bs, t, [] => sameBits bs (trues (2 * k)) && t
  | bs, t, l :: ls => decide (l ∈ rowsIn k q bs t) && playP k q (flipped bs l) (!t) ls
theorem play_stop {k q : Nat} {bs : List Bool} {t : Bool} {ls : List (List Int)} {j : Nat} (hj : j < ls.length) (h : ls[j] ∉ rowsIn k q bs t) : playP k q bs t (ls.drop j) = false := by
  rw [List.drop_eq_getElem_cons hj, playP, decide_eq_false h]; rfl
theorem play_next {k q : Nat} {bs : List Bool} {t : Bool} {ls : List (List Int)} {j : Nat} (hj : j < ls.length) (h : ls[j] ∈ rowsIn k q bs t) : playP k q bs t (ls.drop j) = playP k q (flipped bs ls[j]) (!t) (ls.drop (j + 1)) := by
  rw [List.drop_eq_getElem_cons hj, playP, decide_eq_true h]; rfl
theorem rows_bound {k q : Nat} {bs : List Bool} {t : Bool} {l : List Int} (h : l ∈ rowsIn k q bs t) : ∀ x ∈ l, 0 ≤ x ∧ x < ((2 * k : Nat) : Int) := fun x hx => by
  have h1 := (mem_up.1 (groups_up (List.mem_filter.1 h).1)).1
  have := mem_steps h1 hx
  omega
theorem code_end {n : Nat} {bs : List Bool} {t : Bool} (hb : bs.length = n) : decide (codeOf bs t = 2 * 2 ^ n - 1) = (sameBits bs (trues n) && t) := by
  have hp : 1 ≤ 2 ^ n := Nat.one_le_two_pow
  have he : (2 : Nat) * 2 ^ n - 1 = 2 ^ (n + 1) - 1 := by rw [Nat.pow_succ]; omega
  rw [Bool.eq_iff_iff, decide_eq_true_eq, Bool.and_eq_true]
  constructor
  · intro h
    have hbit : ∀ i, bitAt (codeOf bs t) i = decide (i < n + 1) := fun i => by rw [h, he]; exact Nat.testBit_two_pow_sub_one ..
    have h0 := hbit 0
    rw [bit_code] at h0
    have ht : t = true := by simpa using h0
    refine ⟨sameBits_yes (List.ext_getElem (by rw [hb, trues_len]) fun i h1 h2 => ?_), ht⟩
    have h3 := hbit (i + 1)
    rw [bit_code] at h3
    simp only [Nat.add_one_ne_zero, if_false, Nat.add_one_sub_one] at h3
    have h4 : bs.getD i false = true := by
      have : decide (i + 1 < n + 1) = true := by simp; omega
      rw [this] at h3
      exact (Bool.and_eq_true_iff.1 h3).2
    rw [show bs[i] = bs.getD i false by simp [h1], h4]
    simp [trues]
  · rintro ⟨h, ht⟩
    have h : bs = trues n := by simpa [sameBits] using h
    refine nat_bits fun i => ?_
    rw [bit_code, he, h, ht, trues_len]
    cases i with
    | zero => rw [bitAt, Nat.testBit_two_pow_sub_one]; simp
    | succ j =>
      rw [bitAt, Nat.testBit_two_pow_sub_one]
      simp only [Nat.add_one_ne_zero, if_false, Nat.add_one_sub_one]
      by_cases hj : j < n <;> simp [hj, trues]
/-- Both tests of a plan tell the same. -/
theorem plan_play {k q : Nat} (hk : k ≤ 4) : ∀ (ls : List (List Int)) (bs : List Bool) (t : Bool), bs.length = 2 * k → planM k q (2 * 2 ^ (2 * k) - 1) (codeOf bs t) ls = playP k q bs t ls
  | [], bs, t, hb => by rw [planM, playP, code_end hb]
  | l :: ls, bs, t, hb => by
    rw [planM, playP, trip_rows hk hb]
    by_cases h : l ∈ rowsIn k q bs t
    · rw [step_code hb (rows_bound h), plan_play hk ls (flipped bs l) (!t) (by rw [flipped_len]; exact hb)]
    · rw [decide_eq_false h]; rfl
theorem code_first (n : Nat) : codeOf (falses n) false = 0 := by
  refine nat_bits fun i => ?_
  rw [bit_code, bitAt, Nat.zero_testBit]
  cases i <;> simp [falses, List.getElem?_replicate]
  split <;> (intro; rfl)
end Go.Proofs.Ytkdjdnknhbmliaa

namespace Go.Proofs.Ytkdjdnknhbmliaa
open Go.RowKit

set_option maxHeartbeats 12800000 in
set_option maxRecDepth 100000 in
theorem implIsCalmPlan_any (D : Option Addr) (n z : Nat) (a b : Int) (rs : List RowV) (w : World) (hD : Grid w D rs) (hz : rs.length = n) (hn : n ≤ 9223372036854775807) :
    Calls Try.prog 82 #[.agg #[.int .i64 a, .int .i64 b], .slice D n z] w (TwoTold (isCP a b (rowNums rs)) (cpOk a b (rowNums rs)) w) := by
  have HZ := Lib.hid hz
  have HLS := Lib.hid (rowNums_len rs)
  have hD2 := hD.alloc (.cells #[.int .i64 a, .int .i64 b] 31)
  have h0 := Whole.fresh w 31 #[.int .i64 a, .int .i64 b]
  have hbw := below1 w (.cells #[.int .i64 a, .int .i64 b] 31)
  clear hz
  cases hp : isCo a b
  · have HP := Lib.hid hp
    have HF := Lib.hid (cp_no (ls := rowNums rs) (.inl hp))
    clear hp
    go_enter Try.func82, Try.ntmps82
    go_wp2_with fail
    refine (isCompany_any a b _).mono ?_
    rintro e w1 ⟨rfl, hb⟩
    rw [HP.out]
    have ht := below_then hbw hb (by simp)
    clear hb
    go_wp2
    go_ret2
    exact ⟨by rw [HF.out.1, HF.out.2]; rfl, ht⟩
  obtain ⟨⟨ha1, ha4⟩, hb1, hb4⟩ := isCo_iff.1 hp
  obtain ⟨k, rfl⟩ : ∃ k : Nat, a = k := ⟨a.toNat, by omega⟩
  obtain ⟨q, rfl⟩ : ∃ q : Nat, b = q := ⟨b.toNat, by omega⟩
  have HP := Lib.hid hp
  have hk : k ≤ 4 := by omega
  have hq : q ≤ 4 := by omega
  by_cases h40 : 40 < n
  · have hd : decide ((n : Int) > 40) = true := by simp; omega
    have HF := Lib.hid (cp_no (a := k) (b := q) (ls := rowNums rs) (.inr (by have := HLS.out; have := HZ.out; omega)))
    clear hp
    go_enter Try.func82, Try.ntmps82
    go_wp2_with fail
    refine (isCompany_any k q _).mono ?_
    rintro e w1 ⟨rfl, hb⟩
    rw [HP.out]
    have ht := below_then hbw hb (by simp)
    clear hb
    go_wp2
    go_ret2
    exact ⟨by rw [HF.out.1, HF.out.2]; rfl, ht⟩
  have hd : decide ((n : Int) > 40) = false := by simp; omega
  obtain ⟨P, hP⟩ : ∃ P : Bool, P = playP k q (falses (2 * k)) false (rowNums rs) := ⟨_, rfl⟩
  have HF : Hid (cpOk k q (rowNums rs) = true ∧ isCP k q (rowNums rs) = P) := by
    have h := cp_yes (ls := rowNums rs) hp (by have := HLS.out; have := HZ.out; omega)
    refine ⟨h.1, ?_⟩
    rw [h.2, hP, ← plan_play hk _ _ _ (falses_len _), code_first]
  have HPP := Lib.hid hP
  clear hp hP
  go_enter Try.func82, Try.ntmps82
  go_wp2_with fail
  refine (isCompany_any k q _).mono ?_
  rintro e w0 ⟨rfl, hb⟩
  rw [HP.out]
  have ht := below_then hbw hb (by simp)
  have hD3 := hD2.below hb
  obtain ⟨c0, c1, -, -⟩ := (h0.below hb).two
  clear hb
  go_wp2_with fail
  refine (companyRiver_any k q _ hk hq).mono ?_
  rintro e w1 ⟨gG, gC, g1, g3, g4, g, A, c, rfl, hF, hb⟩
  have HT := Lib.hid (below_then ht hb ht.size)
  have HD := Lib.hid (hD3.below hb)
  have HRF := Lib.hid hF
  clear ht hb hF hD3 hD2 c0 c1 h0 hbw
  go_upto_region 4 with (refine wpList_store_whole rfl 96 (.tmp 6) (.tmp 21) rfl w1.heap.size (riverCells k gG gC) rfl rfl 96 _ (Whole.fresh _ _ _) size_river rfl (river_one _ _ _) ?_; intro W2 hw2 ho2)
  have hb2 : Below w1.heap.size w1 W2 := ho2.below (below1 w1 _) (Nat.le_refl _)
  have hl2 := hw2.lt
  have e0 : W2.cell? ⟨w1.heap.size, 0, none⟩ = some (.bool false) := hw2.cell 0
  have e1 : W2.cell? ⟨w1.heap.size, 1, none⟩ = some (.bool false) := hw2.cell 1
  have e2 : W2.cell? ⟨w1.heap.size, 2, none⟩ = some (.bool false) := hw2.cell 2
  have e3 : W2.cell? ⟨w1.heap.size, 3, none⟩ = some (.bool false) := hw2.cell 3
  have e4 : W2.cell? ⟨w1.heap.size, 4, none⟩ = some (.bool false) := hw2.cell 4
  have e5 : W2.cell? ⟨w1.heap.size, 5, none⟩ = some (.bool false) := hw2.cell 5
  have e6 : W2.cell? ⟨w1.heap.size, 6, none⟩ = some (.bool false) := hw2.cell 6
  have e7 : W2.cell? ⟨w1.heap.size, 7, none⟩ = some (.bool false) := hw2.cell 7
  have e8 : W2.cell? ⟨w1.heap.size, 8, none⟩ = some (.bool false) := hw2.cell 8
  have HW2 := Lib.hid hw2
  have HB2 := Lib.hid hb2
  clear hw2 ho2 hb2
  go_upto_region 5 with (refine wpList_store_whole rfl 90 (.tmp 7) (.tmp 23) rfl W2.heap.size (placeCells [] false) rfl rfl 90 _ (Whole.fresh _ _ _) size_place rfl (place_one _ _) ?_; intro W3 hw3 ho3)
  have hne : w1.heap.size ≠ W2.heap.size := by omega
  have HR3 := Lib.hid (ho3.whole (HW2.out.alloc _) hne)
  have HB3 := Lib.hid (ho3.below (HB2.out.alloc HB2.out.size _) HB2.out.size)
  rw [← place_falses (2 * k)] at hw3
  have HW3 := Lib.hid hw3
  clear hw3 ho3 e0 e1 e2 e3 e4 e5 e6 e7 e8
  go_wp2_with fail
  go_loopw [26] (fun i wr => ∃ (j : Nat) (bs : List Bool) (t : Bool), j ≤ n ∧ i = .int .i64 j ∧ bs.length = 2 * k ∧ P = playP k q bs t ((rowNums rs).drop j) ∧ Whole wr w1.heap.size 96 (riverCells k gG gC) ∧ Whole wr W2.heap.size 90 (placeCells bs t) ∧ Below w1.heap.size w1 wr) (fun i _ => n - (intOf i).toNat)
  case atStart => exact ⟨0, falses (2 * k), false, Nat.zero_le _, rfl, falses_len _, HPP.out, HR3.out, HW3.out, HB3.out⟩
  case round =>
    obtain ⟨j, bs, t, hj, rfl, hbs, hpl, hR, hPl, hb⟩ := hrel
    have HBS := Lib.hid hbs
    have HPL := Lib.hid hpl
    have HR := Lib.hid hR
    have HPC := Lib.hid hPl
    have HB := Lib.hid hb
    have hpll := hPl.lt
    clear hbs hpl
    by_cases hlt : j < n
    · have hlt' : j < rs.length := by have := HZ.out; omega
      have hlj : j < (rowNums rs).length := by rw [HLS.out]; exact hlt'
      have hDr := HD.out.below hb
      obtain ⟨b, o, rfl, hbl, hcell, hrow, hrl, hrn⟩ := hDr.look hlt'
      have HRW := Lib.hid hrow
      have HRL := Lib.hid hrl
      have HGT : Hid ((rowNums rs)[j] = rs[j].xs) := by show _ = _; simp [rowNums]
      clear hR hPl hb hDr hrow hrl
      go_wp2_with (first | (refine wpList_load_row rfl 96 (.tmp 6) rfl w1.heap.size rfl 96 (riverCells k gG gC) (0, 0) _ HR.out Try.underlying96 rfl size_river ?_) | (refine wpList_load_row rfl 90 (.tmp 7) rfl W2.heap.size rfl 90 (placeCells bs t) (0, 0) _ HPC.out Try.underlying90 rfl size_place ?_))
      refine (stateBehind_any k q gG gC g1 g3 g4 g A _ c _ _ bs t rs[j].xs _ hk HBS.out (HRF.out.below HB.out) HRW.out HRL.out hrn).mono ?_
      rintro e w4 ⟨⟨hmem, rfl⟩ | ⟨hmem, rfl⟩, hb4⟩
      · have HNX : Hid (P = playP k q (flipped bs rs[j].xs) (!t) ((rowNums rs).drop (j + 1))) := by
          show _ = _
          rw [HPL.out, play_next hlj (by rw [HGT.out]; exact hmem), HGT.out]
        have hPl4 := HPC.out.below hb4
        have hp4 := hPl4.lt
        have hR4 := HR.out.below hb4
        have HB4 := Lib.hid (below_then HB.out hb4 HB.out.size)
        have hn4 : W2.heap.size ≠ w4.heap.size := by omega
        have hn4' : w1.heap.size ≠ w4.heap.size := by omega
        have HP4 := Lib.hid hPl4
        have HR4 := Lib.hid hR4
        clear hmem hb4 hcell hPl4 hR4
        go_upto_region 9 with (refine wpList_store_whole rfl 90 (.tmp 10) (.tmp 35) rfl w4.heap.size (placeCells (flipped bs rs[j].xs) (!t)) rfl rfl 90 _ (Whole.fresh _ _ _) size_place rfl (place_one _ _) ?_; intro W5 hw5 ho5)
        have HW5 := Lib.hid hw5
        have HP5 := Lib.hid (ho5.whole (HP4.out.alloc _) hn4)
        have HR5 := Lib.hid (ho5.whole (HR4.out.alloc _) hn4')
        have HB5 := Lib.hid (ho5.below (HB4.out.alloc HB4.out.size _) HB4.out.size)
        clear hw5 ho5
        go_upto_region 12 with (first | (refine wpList_load_row rfl 90 (.tmp 10) rfl w4.heap.size rfl 90 (placeCells (flipped bs rs[j].xs) (!t)) (0, 0) _ HW5.out Try.underlying90 rfl size_place ?_) | (refine wpList_store_whole rfl 90 (.tmp 7) (.tmp 39) rfl W2.heap.size (placeCells (flipped bs rs[j].xs) (!t)) rfl rfl 90 _ HP5.out size_place rfl (place_one _ _) ?_; intro W6 hw6 ho6))
        have HW6 := Lib.hid hw6
        have HR6 := Lib.hid (ho6.whole HR5.out hne)
        have HB6 := Lib.hid (ho6.below HB5.out HB2.out.size)
        clear hw6 ho6
        go_wp2
        go_roundw
        case measure => simp [intOf]; omega
        case rel => exact ⟨j + 1, flipped bs rs[j].xs, !t, by omega, by go_num, by rw [flipped_len]; exact HBS.out, HNX.out, HR6.out, HW6.out, HB6.out⟩
      · have HST : Hid (P = false) := by show _ = _; rw [HPL.out]; exact play_stop hlj (by rw [HGT.out]; exact hmem)
        have HB4 := Lib.hid (below_then HB.out hb4 HB.out.size)
        clear hmem hb4 hcell
        go_upto_region 9 with (refine wpList_store_whole rfl 90 (.tmp 10) (.tmp 35) rfl w4.heap.size (placeCells bs t) rfl rfl 90 _ (Whole.fresh _ _ _) size_place rfl (place_one _ _) ?_; intro W5 hw5 ho5)
        have HB5 := Lib.hid (ho5.below (HB4.out.alloc HB4.out.size _) HB4.out.size)
        clear hw5 ho5
        go_wp2
        go_ret2
        exact ⟨by rw [HF.out.1, HF.out.2, HST.out]; rfl, below_then HT.out HB5.out HT.out.size⟩
    · have hje : j = n := by omega
      obtain ⟨f, hf⟩ : ∃ f : Nat → Bool, f = fun i => bs.getD i false := ⟨_, rfl⟩
      obtain ⟨u, hu⟩ : ∃ u : Nat → Bool, u = firstN (2 * k) := ⟨_, rfl⟩
      have HEN : Hid (P = samePlace (f 0) (f 1) (f 2) (f 3) (f 4) (f 5) (f 6) (f 7) t (u 0) (u 1) (u 2) (u 3) (u 4) (u 5) (u 6) (u 7) true) := by
        show _ = _
        have h := sameBits_ext (bs := bs) (cs := trues (2 * k)) (HBS.out.trans (trues_len _).symm) (by have := HBS.out; omega)
        simp only [trues_at] at h
        rw [HPL.out, List.drop_eq_nil_of_le (by rw [HLS.out]; have := HZ.out; omega), playP]
        simp only [samePlace, hf, hu, h]
        simp
      rw [place_nine9, ← hf] at hPl
      obtain ⟨p0, p1, p2, p3, p4, p5, p6, p7⟩ := row8_of hPl
      have p8 : wr.cell? ⟨W2.heap.size, 8, none⟩ = some (.bool t) := hPl.cell 8
      have r0 : wr.cell? ⟨w1.heap.size, 9, none⟩ = some (.bool (u 0)) := by rw [hu]; exact hR.cell 9
      have r1 : wr.cell? ⟨w1.heap.size, 10, none⟩ = some (.bool (u 1)) := by rw [hu]; exact hR.cell 10
      have r2 : wr.cell? ⟨w1.heap.size, 11, none⟩ = some (.bool (u 2)) := by rw [hu]; exact hR.cell 11
      have r3 : wr.cell? ⟨w1.heap.size, 12, none⟩ = some (.bool (u 3)) := by rw [hu]; exact hR.cell 12
      have r4 : wr.cell? ⟨w1.heap.size, 13, none⟩ = some (.bool (u 4)) := by rw [hu]; exact hR.cell 13
      have r5 : wr.cell? ⟨w1.heap.size, 14, none⟩ = some (.bool (u 5)) := by rw [hu]; exact hR.cell 14
      have r6 : wr.cell? ⟨w1.heap.size, 15, none⟩ = some (.bool (u 6)) := by rw [hu]; exact hR.cell 15
      have r7 : wr.cell? ⟨w1.heap.size, 16, none⟩ = some (.bool (u 7)) := by rw [hu]; exact hR.cell 16
      have r8 : wr.cell? ⟨w1.heap.size, 17, none⟩ = some (.bool true) := hR.cell 17
      clear hR hPl hb hje hf hu
      go_wp2
      go_ret2
      exact ⟨by rw [HF.out.1, HF.out.2, HEN.out]; rfl, below_then HT.out HB.out HT.out.size⟩
theorem implIsCalmPlan_on (D : Option Addr) (n z : Nat) (a b : Int) (rs : List RowV) (ls : List (List Int)) (w : World) (hD : Grid w D rs) (he : rowNums rs = ls) (hz : rs.length = n) (hn : n ≤ 9223372036854775807) :
    Calls Try.prog 82 #[.agg #[.int .i64 a, .int .i64 b], .slice D n z] w (TwoTold (isCP a b ls) (cpOk a b ls) w) := by
  subst he
  exact implIsCalmPlan_any D n z a b rs w hD hz hn
end Go.Proofs.Ytkdjdnknhbmliaa

namespace Go.Proofs.Ytkdjdnknhbmliaa
open Go.RowKit

/-- What a call hands back that makes a list of lists and tells whether it did. -/
def BackPost (ls : List (List Int)) (ok : Bool) (w : World) (e : Ending) (w' : World) : Prop :=
  ∃ (A : Option Addr) (n c : Nat) (rs : List RowV), e = .returned (.tuple #[.slice A n c, .bool ok]) ∧ rowNums rs = ls ∧ rs.length = n ∧ FreeGrid w' w.heap.size w'.heap.size A rs ∧ Below w.heap.size w w'
theorem BackPost.no {w w' : World} (h : Below w.heap.size w w') : BackPost [] false w (.returned (.tuple #[.slice none 0 0, .bool false])) w' :=
  ⟨none, 0, 0, [], rfl, rfl, rfl, (Heads.nil w' w.heap.size).free, h⟩
theorem part_lens {w : World} {A : Option Addr} {rs : List RowV} (h : Grid w A rs) : part rs rs.length = ((rowNums rs).map List.length).sum := by
  rw [part_sum]
  have : ∀ ts : List RowV, (∀ r ∈ ts, r.xs.length = r.n) → ts.map RowV.n = (rowNums ts).map List.length := by
    intro ts ht
    simp only [rowNums, List.map_map]
    exact List.map_congr_left fun r hr => (ht r hr).symm
  rw [this rs fun r hr => (h.2 r hr).2.1]
theorem sum_lens {ls : List (List Int)} {k : Nat} (h : ∀ l ∈ ls, l.length ≤ k) : (ls.map List.length).sum ≤ k * ls.length := by
  induction ls with
  | nil => simp
  | cons l ls ih =>
    have h1 := h l (by simp)
    have h2 := ih fun x hx => h x (List.mem_cons_of_mem _ hx)
    rw [List.map_cons, List.sum_cons, List.length_cons, Nat.mul_succ]
    omega
end Go.Proofs.Ytkdjdnknhbmliaa

namespace Go.Proofs
open Go.Shelf
def Try.lays189_ren : Go.Shelf.Ren := ⟨fun | 189 => 124 | 125 => 129 | 257 => 137 | 128 => 148 | 129 => 149 | 294 => 151 | 295 => 152 | 296 => 153 | 297 => 154 | 298 => 155 | 299 => 156 | 216 => 157 | 300 => 158 | 301 => 159 | 328 => 166 | 329 => 161 | 330 => 162 | 331 => 167 | 332 => 168 | 215 => 138 | 343 => 170 | n => n, fun | 28 => 40 | 3 => 3 | 46 => 145 | 0 => 0 | 51 => 162 | 53 => 164 | 4 => 4 | 183 => 156 | 182 => 155 | 131 => 74 | 5 => 5 | 9 => 9 | 218 => 170 | 222 => 174 | 228 => 179 | 229 => 180 | n => n, fun | n => n⟩
theorem Try.lays189 : Go.Proofs.Lays.n189 Try.prog Try.lays189_ren := {
  mixed := by kernel_rfl
  f125 := Try.func129.trans (congrArg some (by kernel_rfl))
  f128 := Try.func148.trans (congrArg some (by kernel_rfl))
  f129 := Try.func149.trans (congrArg some (by kernel_rfl))
  f189 := Try.func124.trans (congrArg some (by kernel_rfl))
  f215 := Try.func138.trans (congrArg some (by kernel_rfl))
  f216 := Try.func157.trans (congrArg some (by kernel_rfl))
  f257 := Try.func137.trans (congrArg some (by kernel_rfl))
  f294 := Try.func151.trans (congrArg some (by kernel_rfl))
  f295 := Try.func152.trans (congrArg some (by kernel_rfl))
  f296 := Try.func153.trans (congrArg some (by kernel_rfl))
  f297 := Try.func154.trans (congrArg some (by kernel_rfl))
  f298 := Try.func155.trans (congrArg some (by kernel_rfl))
  f299 := Try.func156.trans (congrArg some (by kernel_rfl))
  f300 := Try.func158.trans (congrArg some (by kernel_rfl))
  f301 := Try.func159.trans (congrArg some (by kernel_rfl))
  f328 := Try.func166.trans (congrArg some (by kernel_rfl))
  f329 := Try.func161.trans (congrArg some (by kernel_rfl))
  f330 := Try.func162.trans (congrArg some (by kernel_rfl))
  f331 := Try.func167.trans (congrArg some (by kernel_rfl))
  f332 := Try.func168.trans (congrArg some (by kernel_rfl))
  f343 := Try.func170.trans (congrArg some (by kernel_rfl))
  t0 := Try.underlying0
  a0 := Try.isAgg0
  z0 := Try.sizeOf0
  v0 := Try.zeroValue0
  t3 := Try.underlying3
  a3 := Try.isAgg3
  z3 := Try.sizeOf3
  v3 := Try.zeroValue3
  t4 := Try.underlying4
  a4 := Try.isAgg4
  z4 := Try.sizeOf4
  v4 := Try.zeroValue4
  t5 := Try.underlying5
  a5 := Try.isAgg5
  z5 := Try.sizeOf5
  v5 := Try.zeroValue5
  t9 := Try.underlying9
  a9 := Try.isAgg9
  z9 := Try.sizeOf9
  v9 := Try.zeroValue9
  t28 := Try.underlying40
  a28 := Try.isAgg40
  z28 := Try.sizeOf40
  v28 := Try.zeroValue40
  t46 := Try.underlying145
  a46 := Try.isAgg145
  z46 := Try.sizeOf145
  v46 := Try.zeroValue145
  t51 := Try.underlying162
  a51 := Try.isAgg162
  z51 := Try.sizeOf162
  v51 := Try.zeroValue162
  t53 := Try.underlying164
  a53 := Try.isAgg164
  z53 := Try.sizeOf164
  v53 := Try.zeroValue164
  t131 := Try.underlying74
  a131 := Try.isAgg74
  z131 := Try.sizeOf74
  v131 := Try.zeroValue74
  t182 := Try.underlying155
  a182 := Try.isAgg155
  z182 := Try.sizeOf155
  v182 := Try.zeroValue155
  t183 := Try.underlying156
  a183 := Try.isAgg156
  z183 := Try.sizeOf156
  v183 := Try.zeroValue156
  t218 := Try.underlying170
  a218 := Try.isAgg170
  z218 := Try.sizeOf170
  v218 := Try.zeroValue170
  t222 := Try.underlying174
  a222 := Try.isAgg174
  z222 := Try.sizeOf174
  v222 := Try.zeroValue174
  t228 := Try.underlying179
  a228 := Try.isAgg179
  z228 := Try.sizeOf179
  v228 := Try.zeroValue179
  t229 := Try.underlying180
  a229 := Try.isAgg180
  z229 := Try.sizeOf180
  v229 := Try.zeroValue180 }
open Go.Sort Go.RowKit in
theorem Try.slices_Sort_int (blk off cap : Nat) (zs : List Int) (w : World) (hH : Holds (Value.int .i64) w blk off zs.toArray) (hblk : blk < w.heap.size) (hsz : zs.length < 4611686018427387904) :
    Calls Try.prog 124 #[.slice (some ⟨blk, off, none⟩) zs.length cap] w fun e w' =>
      e = .returned (.tuple #[]) ∧ ∃ n os, w' = grow (putRow (Value.int .i64) (Sort.ahead w n) blk off (zs.mergeSort fun x y => decide (x ≤ y)).toArray) os := Any.slices_Sort_int Try.lays189 blk off cap zs w hH hblk hsz
end Go.Proofs

namespace Go.Proofs.Ytkdjdnknhbmliaa
open Go.RowKit

theorem spot_low {l : List Int} {x : Int} (hs : l.Pairwise (· ≤ ·)) : ∀ {k i : Nat}, k ≤ l.length → i < spot l x k → ∀ (h : i < l.length), l[i] ≤ x
  | 0, i, _, hi, _ => by simp [spot] at hi
  | k + 1, i, hk, hi, h => by
    by_cases hx : x < l.getD k 0
    · rw [spot_down hx] at hi
      exact spot_low hs (by omega) hi h
    · rw [spot_here hx] at hi
      have hkl : k < l.length := by omega
      have hkx : l[k] ≤ x := by
        have : l.getD k 0 = l[k] := by simp [hkl]
        omega
      rcases Nat.lt_or_ge i k with h1 | h1
      · exact Int.le_trans (List.pairwise_iff_getElem.1 hs i k h hkl h1) hkx
      · obtain rfl : i = k := by omega
        exact hkx
theorem spot_high {l : List Int} {x : Int} : ∀ {k i : Nat}, spot l x k ≤ i → i < k → ∀ (h : i < l.length), x < l[i]
  | 0, i, _, hi, _ => by omega
  | k + 1, i, hs, hi, h => by
    by_cases hx : x < l.getD k 0
    · rw [spot_down hx] at hs
      rcases Nat.lt_or_ge i k with h1 | h1
      · exact spot_high hs h1 h
      · obtain rfl : i = k := by omega
        have : l.getD i 0 = l[i] := by simp [h]
        omega
    · rw [spot_here hx] at hs
      omega
theorem ins_perm (l : List Int) (x : Int) : (ins l x).Perm (x :: l) := by
  have h := List.perm_middle (a := x) (l₁ := l.take (spot l x l.length)) (l₂ := l.drop (spot l x l.length))
  rw [List.take_append_drop] at h
  simpa [ins] using h
theorem ins_sorted {l : List Int} (x : Int) (hs : l.Pairwise (· ≤ ·)) : (ins l x).Pairwise (· ≤ ·) := by
  rw [ins, List.append_assoc, List.pairwise_append]
  refine ⟨hs.sublist (List.take_sublist _ _), ?_, fun a ha b hb => ?_⟩
  · rw [List.singleton_append, List.pairwise_cons]
    refine ⟨fun b hb => ?_, hs.sublist (List.drop_sublist _ _)⟩
    obtain ⟨i, hi, rfl⟩ := List.getElem_of_mem hb
    rw [List.getElem_drop]
    exact Int.le_of_lt (spot_high (k := l.length) (by omega) (by simp at hi; omega) (by simp at hi; omega))
  · obtain ⟨i, hi, rfl⟩ := List.getElem_of_mem ha
    rw [List.getElem_take]
    have hip : i < spot l x l.length := by simp at hi; omega
    have hil : i < l.length := by simp at hi; omega
    have hlx := spot_low hs (Nat.le_refl _) hip hil
    rw [List.singleton_append, List.mem_cons] at hb
    rcases hb with rfl | hb
    · exact hlx
    · obtain ⟨j, hj, rfl⟩ := List.getElem_of_mem hb
      rw [List.getElem_drop]
      exact Int.le_of_lt (Int.lt_of_le_of_lt hlx (spot_high (k := l.length) (by omega) (by simp at hj; omega) (by simp at hj; omega)))
theorem insTo_sorted (xs : List Int) : ∀ {j : Nat}, j ≤ xs.length → (insTo xs j).Pairwise (· ≤ ·) ∧ (insTo xs j).Perm (xs.take j)
  | 0, _ => ⟨List.Pairwise.nil, List.Perm.refl _⟩
  | j + 1, h => by
    obtain ⟨h1, h2⟩ := insTo_sorted xs (j := j) (by omega)
    rw [insTo_next h]
    refine ⟨ins_sorted _ h1, (ins_perm _ _).trans ?_⟩
    rw [List.take_succ_eq_append_getElem h]
    exact (h2.cons _).trans (List.perm_append_singleton _ _).symm
theorem insTo_merge (xs : List Int) : insTo xs xs.length = xs.mergeSort fun x y => decide (x ≤ y) := by
  obtain ⟨h1, h2⟩ := insTo_sorted xs (Nat.le_refl _)
  rw [List.take_length] at h2
  have h3 := List.pairwise_mergeSort (le := fun x y : Int => decide (x ≤ y)) (fun a b c h h' => by simp at h h' ⊢; omega) (fun a b => by simp; omega) xs
  have h4 : (xs.mergeSort fun x y => decide (x ≤ y)).Pairwise (· ≤ ·) := h3.imp (fun h => by simpa using h)
  exact List.Perm.eq_of_pairwise (fun a b _ _ h h' => Int.le_antisymm h h') h1 h4 (h2.trans (List.mergeSort_perm xs _).symm)

/-- slices.Sort at a list of the call's own. -/
theorem sliceSort_any (A : Option Addr) (n c lo hi : Nat) (xs : List Int) (w : World) (hf : Fresh w lo hi 3 A (nums xs)) (hx : xs.length = n) (h0 : 0 < n) (hn : n ≤ 1048576) :
    Calls Try.prog 124 #[.slice A n c] w fun e w' => e = .returned (.tuple #[]) ∧ Span lo hi w w' ∧ Fresh w' lo hi 3 A (nums (insTo xs n)) := by
  subst hx
  rcases hf with h | ⟨g, cs, rfl, hlo, hhi, hw, hle, htk⟩
  · have := congrArg List.length h
    rw [nums_len, List.length_nil] at this
    omega
  · have hcell : ∀ j (h : j < xs.length), cs[j]? = some (.int .i64 xs[j]) := fun j h => by
      have h1 := congrArg (fun l : List Value => l[j]?) htk
      simp only [List.getElem?_take] at h1
      rw [if_pos (by rw [nums_len]; exact h)] at h1
      rw [← Array.getElem?_toList, h1]
      simp [nums, h]
    refine (Try.slices_Sort_int g 0 c xs w (fun j hj => ?_) hw.lt (by omega)).mono ?_
    · have hj' : j < xs.length := by simpa using hj
      refine ⟨?_, hw.open_ _⟩
      rw [Nat.zero_add, hw.cell j, hcell j hj']
      simp [hj']
    · rintro e w' ⟨rfl, m, os, rfl⟩
      have hgl := hw.lt
      have hold : ∀ k, k < w.heap.size → k ≠ g → (Go.Sort.grow (Go.Sort.putRow (Value.int .i64) (Go.Sort.ahead w m) g 0 (xs.mergeSort fun x y => decide (x ≤ y)).toArray) os).heap[k]? = w.heap[k]? := fun k hk hne => by
        have hne' : ¬ g = k := fun h => hne h.symm
        rw [Go.Sort.heap_grow_old _ _ (by simpa [Go.Sort.ahead] using hk)]
        simp only [Go.Sort.putRow, Go.Sort.mapBlock, Go.Sort.ahead, Array.getElem?_modify, if_neg hne']
      refine ⟨rfl, ⟨rfl, rfl, rfl, ?_, fun k hk hd => hold k hk (by omega)⟩, ?_⟩
      · simp [Go.Sort.grow, Go.Sort.putRow, Go.Sort.mapBlock, Go.Sort.ahead]
      · have hlen : (xs.mergeSort fun x y => decide (x ≤ y)).length = xs.length := List.length_mergeSort xs
        refine .inr ⟨g, Go.Sort.putCells (Value.int .i64) 0 (xs.mergeSort fun x y => decide (x ≤ y)).toArray cs, rfl, hlo, hhi, ?_, ?_, ?_⟩
        · unfold Whole at hw ⊢
          rw [Go.Sort.heap_grow_old _ _ (by simpa [Go.Sort.ahead] using hgl)]
          simp only [Go.Sort.putRow, Go.Sort.mapBlock, Go.Sort.ahead, Array.getElem?_modify, hw]
          rfl
        · rw [nums_len, insTo_len xs (Nat.le_refl _)]
          simp [Go.Sort.putCells]
          rw [nums_len] at hle
          exact hle
        · rw [nums_len, insTo_len xs (Nat.le_refl _), insTo_merge]
          rw [nums_len] at hle
          apply List.ext_getElem?
          intro j
          rw [List.getElem?_take]
          by_cases hj : j < xs.length
          · have hjc : j < cs.size := by omega
            rw [if_pos hj, Array.getElem?_toList]
            simp [Go.Sort.putCells, nums, hjc, hj, hlen]
          · rw [if_neg hj, List.getElem?_eq_none (by rw [nums_len, hlen]; omega)]
end Go.Proofs.Ytkdjdnknhbmliaa
