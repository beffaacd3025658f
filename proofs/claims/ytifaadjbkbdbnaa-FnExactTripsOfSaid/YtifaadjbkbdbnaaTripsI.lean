/-
  What is proved: contracts of TripsOf, of the model and of the program. Conditions: the arguments are read as they lie.
-/
import Derived.Test.YtifaadjbkbdbnaaTrips
import Derived.Test.YtifaadjbkbdbnaaFails
namespace Go.Proofs.Ytifaadjbkbdbnaa
open Go.RowKit

theorem place_nine {w : World} {g : Nat} {bs : List Bool} {t : Bool} (h : Whole w g 94 (placeCells bs t)) :
    w.cell? ⟨g, 0, none⟩ = some (.bool (bs.getD 0 false)) ∧ w.cell? ⟨g, 1, none⟩ = some (.bool (bs.getD 1 false)) ∧ w.cell? ⟨g, 2, none⟩ = some (.bool (bs.getD 2 false)) ∧ w.cell? ⟨g, 3, none⟩ = some (.bool (bs.getD 3 false)) ∧ w.cell? ⟨g, 4, none⟩ = some (.bool (bs.getD 4 false)) ∧ w.cell? ⟨g, 5, none⟩ = some (.bool (bs.getD 5 false)) ∧ w.cell? ⟨g, 6, none⟩ = some (.bool (bs.getD 6 false)) ∧ w.cell? ⟨g, 7, none⟩ = some (.bool (bs.getD 7 false)) ∧ w.cell? ⟨g, 8, none⟩ = some (.bool t) :=
  ⟨(h.cell 0).trans rfl, (h.cell 1).trans rfl, (h.cell 2).trans rfl, (h.cell 3).trans rfl, (h.cell 4).trans rfl, (h.cell 5).trans rfl, (h.cell 6).trans rfl, (h.cell 7).trans rfl, (h.cell 8).trans rfl⟩

theorem seats_bd {xs : List Int} {s : Int} (h : isParty xs s = true) : 1 ≤ s ∧ s ≤ 3 := by
  simp only [isParty, Bool.and_eq_true] at h
  exact within_iff.1 h.2.2
noncomputable def tripsLs (xs : List Int) (n : Nat) (s : Int) (bs : List Bool) (t : Bool) : List (List Int) := if isParty xs s && isState n bs t then tripsIn n s bs t else []
theorem trips_yes {xs : List Int} {n : Nat} {s : Int} {bs : List Bool} {t : Bool} (h : (isParty xs s && isState n bs t) = true) : tripsLs xs n s bs t = tripsIn n s bs t := if_pos h
theorem trips_no {xs : List Int} {n : Nat} {s : Int} {bs : List Bool} {t : Bool} (h : (isParty xs s && isState n bs t) = false) : tripsLs xs n s bs t = [] := if_neg (by simp [h])
theorem BackPost.of {ls : List (List Int)} {w wb : World} {A : Option Addr} {c : Nat} {rs : List RowV} (hr : rowNums rs = ls) (hh : Heads wb w.heap.size A c rs) (hb : Below w.heap.size w wb) : BackPost ls true w (.returned (.tuple #[.slice A rs.length c, .bool true])) wb :=
  ⟨A, rs.length, c, rs, rfl, hr, rfl, hh.free, hb⟩

set_option maxHeartbeats 3200000 in
set_option maxRecDepth 100000 in
theorem specTripsOf_any (A B : Option Addr) (n c m d : Nat) (xs : List Int) (bs : List Bool) (s : Int) (t : Bool) (w : World) (hA : Holds w A (nums xs)) (hB : Holds w B (bits bs)) (hx : xs.length = n) (hy : bs.length = m) (hn : n ≤ 9223372036854775807) (hm : m ≤ 9223372036854775807) :
    Calls Try.prog 17 #[.agg #[.slice A n c, .int .i64 s], .agg #[.slice B m d, .bool t]] w (BackPost (tripsLs xs n s bs t) (isParty xs s && isState n bs t) w) := by
  have HX := Lib.hid hx
  have HY := Lib.hid hy
  have h0 := (Whole.fresh w 33 #[.slice A n c, .int .i64 s]).alloc (.cells #[.slice B m d, .bool t] 35)
  have h1 := Whole.fresh (w.alloc (.cells #[.slice A n c, .int .i64 s] 33)) 35 #[.slice B m d, .bool t]
  rw [World.size_alloc] at h1
  have hbw := below2 w (.cells #[.slice A n c, .int .i64 s] 33) (.cells #[.slice B m d, .bool t] 35)
  have hA2 := hA.below hbw
  have hB2 := hB.below hbw
  generalize hok : (isParty xs s && isState n bs t) = ok
  have HOK := Lib.hid hok
  obtain ⟨c0, c1, -, -⟩ := h0.two
  obtain ⟨e0, e1, -, -⟩ := h1.two
  cases ok
  · rw [trips_no hok]
    clear hok hx hy
    go_enter Try.func17, Try.ntmps17
    go_wp2_with fail
    refine (paAsked_any A B n c m d xs bs s t _ hA2 hB2 HX.out HY.out hn hm).mono ?_
    rintro e w1 ⟨rfl, hb⟩
    rw [HOK.out]
    have ht := below_then hbw hb (by simp; omega)
    clear hb h0 h1 c0 c1 e0 e1 hbw
    go_wp2
    go_ret2
    exact BackPost.no ht
  · have hp : isParty xs s = true := by cases h : isParty xs s <;> simp_all
    have h8 := isParty_le hp
    have hst := asked_len (show asked xs n s bs t = true from hok) hx
    obtain ⟨-, -, hbl⟩ := hst
    rw [hx] at h8
    have hs1 := seats_bd hp
    rw [trips_yes hok]
    obtain ⟨q, rfl⟩ := Int.eq_ofNat_of_zero_le (by omega : 0 ≤ s)
    have hm8 : m ≤ 8 := by omega
    have HMN : Hid (m = n) := by show _ = _; omega
    clear hok hx hy hbl
    go_enter Try.func17, Try.ntmps17
    go_wp2_with fail
    refine (paAsked_any A B n c m d xs bs _ t _ hA2 hB2 HX.out HY.out hn hm).mono ?_
    rintro e w1 ⟨rfl, hb⟩
    rw [HOK.out]
    have ht := below_then hbw hb (by simp; omega)
    have hB3 := hB2.below hb
    obtain ⟨c0, c1, -, -⟩ := (h0.below hb).two
    obtain ⟨e0, e1, -, -⟩ := (h1.below hb).two
    clear hb h0 h1 hbw
    go_wp2_with fail
    refine (paTrips_any A B n c m d q bs t _ hB3 HY.out hm8 (by omega)).mono ?_
    rintro e w4 ⟨A4, c4, rs4, rfl, hr4, hn4, hs4, hh4, hb4⟩
    have HR4 := Lib.hid hr4
    have HH4 := Lib.hid (hh4.raise ht.size)
    have HB4 := Lib.hid (below_then ht hb4 ht.size)
    clear hr4 hn4 hs4 hh4 hb4 c0 c1 e0 e1 ht
    go_wp2
    go_ret2
    refine BackPost.of ?_ HH4.out HB4.out
    rw [HR4.out, HMN.out]
    rfl

set_option maxHeartbeats 6400000 in
set_option maxRecDepth 100000 in
theorem implTripsOf_any (A B : Option Addr) (n c m d : Nat) (xs : List Int) (bs : List Bool) (s : Int) (t : Bool) (w : World) (hA : Holds w A (nums xs)) (hB : Holds w B (bits bs)) (hx : xs.length = n) (hy : bs.length = m) (hn : n ≤ 9223372036854775807) (hm : m ≤ 9223372036854775807) :
    Calls Try.prog 20 #[.agg #[.slice A n c, .int .i64 s], .agg #[.slice B m d, .bool t]] w (BackPost (tripsLs xs n s bs t) (isParty xs s && isState n bs t) w) := by
  have HX := Lib.hid hx
  have HY := Lib.hid hy
  have h0 := (Whole.fresh w 33 #[.slice A n c, .int .i64 s]).alloc (.cells #[.slice B m d, .bool t] 35)
  have h1 := Whole.fresh (w.alloc (.cells #[.slice A n c, .int .i64 s] 33)) 35 #[.slice B m d, .bool t]
  rw [World.size_alloc] at h1
  have hbw := below2 w (.cells #[.slice A n c, .int .i64 s] 33) (.cells #[.slice B m d, .bool t] 35)
  have hA2 := hA.below hbw
  have hB2 := hB.below hbw
  obtain ⟨c0, c1, -, -⟩ := h0.two
  obtain ⟨e0, e1, -, -⟩ := h1.two
  go_enter Try.func20, Try.ntmps20
  go_wp2_with fail
  refine (partyPlace_any A B n c m d xs bs s t _ hA2 hB2 HX.out HY.out hn hm).mono ?_
  rintro e w1 ⟨⟨hp, rfl⟩ | ⟨hp, rfl⟩, hb⟩
  · have HP := Lib.hid hp
    have ht := below_then hbw hb (by simp; omega)
    have hq := (h0.below hb).alloc (.cells (placeCells bs t) 94)
    have hpl := Whole.fresh w1 94 (placeCells bs t)
    have hsz : w.heap.size + 2 ≤ w1.heap.size := by have := hb.size; simpa using this
    obtain ⟨h8, hpos, hbl⟩ := asked_len (show asked xs n s bs t = true from hp) hx
    have hpp : isParty xs s = true := by cases h : isParty xs s <;> simp_all
    have hs1 := seats_bd hpp
    obtain ⟨q, rfl⟩ := Int.eq_ofNat_of_zero_le (by omega : 0 ≤ s)
    have hq3 : q ≤ 8 := by omega
    have HHQ := Lib.hid hq
    have HHP := Lib.hid hpl
    have HT := Lib.hid (ht.alloc ht.size (.cells (placeCells bs t) 94))
    have HSZ := Lib.hid hsz
    have hn8 : (n : Int) ≤ 8 := by omega
    clear hp hpp hb ht hbl hx hy hs1 h0 h1 hA2 hB2 hA hB hbw c0 c1 e0 e1
    unfold placeCells
    go_upto_region 4 with fail
    refine (?_ : ∀ W0, W0 = w1.alloc (.cells (placeCells bs t) 94) → Code.wp _ _ _ _ W0) _ rfl
    intro W0 hW0
    have hq0 := HHQ.out
    have hp0 := HHP.out
    have ht0 := HT.out
    rw [← hW0] at hq0 hp0 ht0
    have HHQ := Lib.hid hq0
    have HHP := Lib.hid hp0
    have HT := Lib.hid ht0
    obtain ⟨k0, k1, -, -⟩ := hq0.two
    obtain ⟨m0, m1, m2, m3, m4, m5, m6, m7, m8⟩ := place_nine hp0
    have hlw : w.heap.size < w1.heap.size := by omega
    clear hW0 hq0 hp0 ht0
    go_region_held3 (fun w' => (w'.cell? ⟨w.heap.size, 0, none⟩ = some (.slice A n c) ∧ w'.cell? ⟨w.heap.size, 1, none⟩ = some (.int .i64 q)) ∧ (w'.cell? ⟨w1.heap.size, 0, none⟩ = some (.bool (bs.getD 0 false)) ∧ w'.cell? ⟨w1.heap.size, 1, none⟩ = some (.bool (bs.getD 1 false)) ∧ w'.cell? ⟨w1.heap.size, 2, none⟩ = some (.bool (bs.getD 2 false)) ∧ w'.cell? ⟨w1.heap.size, 3, none⟩ = some (.bool (bs.getD 3 false)) ∧ w'.cell? ⟨w1.heap.size, 4, none⟩ = some (.bool (bs.getD 4 false)) ∧ w'.cell? ⟨w1.heap.size, 5, none⟩ = some (.bool (bs.getD 5 false)) ∧ w'.cell? ⟨w1.heap.size, 6, none⟩ = some (.bool (bs.getD 6 false)) ∧ w'.cell? ⟨w1.heap.size, 7, none⟩ = some (.bool (bs.getD 7 false)) ∧ w'.cell? ⟨w1.heap.size, 8, none⟩ = some (.bool t))) (go_keep)
      (first | (go_at_call 74; refine (atTorch_any n bs t _ h8).mono ?_; rintro e w2 ⟨A2, c2, rfl, hown2, hb2⟩; have hq2 := HHQ.out.drew.below hb2; have hp2 := HHP.out.drew.below hb2; obtain ⟨k2, k3, -, -⟩ := hq2.two; obtain ⟨n0, n1, n2, n3, n4, n5, n6, n7, n8⟩ := place_nine hp2; have HO2 := Lib.hid hown2; have HB2 := Lib.hid hb2; clear hown2 hb2) | (go_at_call 73; refine (listsFrom_any q hq3 9 none A2 0 0 (hereTo bs t n).length c2 [] (hereTo bs t n) _ (by have := here_len bs t n; omega) (Nat.le_refl _) (Holds.empty _ _) (holds_of_own HO2.out) rfl rfl (own_room HO2.out) (fun _ => ⟨rfl, rfl⟩)).mono ?_; rintro e w4 ⟨A4, c4, rs4, rfl, hr4, hn4, hs4, hh4, hb4⟩; have hq4 := hq2.below hb4; have hp4 := hp2.below hb4; obtain ⟨k4, k5, -, -⟩ := hq4.two; obtain ⟨p0, p1, p2, p3, p4, p5, p6, p7, p8⟩ := place_nine hp4; have HR4 := Lib.hid hr4; have HH4 := Lib.hid hh4; have HB4 := Lib.hid hb4; clear hr4 hn4 hs4 hh4 hb4) | fail)
    have hbt : Below w.heap.size w w4 := below_then (below_then HT.out.drew HB2.out HT.out.size) HB4.out (Nat.le_trans HT.out.size HB2.out.size)
    have HBT := Lib.hid hbt
    have hH : Heads w4 w.heap.size A4 c4 rs4 := HH4.out.raise (Nat.le_trans HT.out.size HB2.out.size)
    have HH := Lib.hid hH
    clear hbt hH hq2 hp2 hq4 hp4
    go_wp2
    go_ret2
    rw [trips_yes HP.out, HP.out]
    refine BackPost.of ?_ HH.out HBT.out
    rw [HR4.out]
    rfl
  · have HP := Lib.hid hp
    have ht := below_then hbw hb (by simp; omega)
    clear hp hb hx hy c0 c1 e0 e1
    unfold placeCells at *
    go_wp2
    go_ret2
    rw [trips_no HP.out, HP.out]
    exact BackPost.no (ht.alloc ht.size _)
theorem subs_rows (m : Nat) : ∀ (o b : List Int), ∀ l ∈ subs m o b, l.length ≤ b.length + o.length
  | [], _ => fun l h => by simp [subs] at h
  | k :: r, b => fun l h => by
    rw [subs] at h
    split at h
    · simp at h
    · rw [List.mem_append, List.mem_cons] at h
      rcases h with (rfl | h) | h
      · simp
      · have := subs_rows m r _ l h
        simp at this ⊢
        omega
      · have := subs_rows m r _ l h
        simp
        omega
theorem tripsLs_le {xs : List Int} {n : Nat} {s : Int} {bs : List Bool} {t : Bool} (hx : xs.length = n) : (tripsLs xs n s bs t).length ≤ 1048576 ∧ ((tripsLs xs n s bs t).map List.length).sum ≤ 1048576 := by
  cases h : isParty xs s && isState n bs t
  · rw [trips_no h]
    simp
  · have h8 := (asked_len (show asked xs n s bs t = true from h) hx).1
    have hl := here_len bs t n
    rw [trips_yes h, tripsIn]
    have h1 := subs_small (m := s.toNat) (o := hereTo bs t n) (b := []) (by omega)
    have h2 := sum_lens (ls := subs s.toNat (hereTo bs t n) []) (k := 8) fun l hl => by
      have := subs_rows _ _ _ l hl
      simp at this
      omega
    omega
end Go.Proofs.Ytifaadjbkbdbnaa
