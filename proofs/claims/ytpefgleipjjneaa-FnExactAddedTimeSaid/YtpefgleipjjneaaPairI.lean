/-
  What is proved: contracts of the program's pairTrips, timeOfTrips, pairTrip.list and listsOfTrips. Conditions: the arguments are read as they lie; at most 24 trips.
-/
import Derived.Test.YtpefgleipjjneaaPTrip
import Derived.Test.YtpefgleipjjneaaRowsP
import Derived.Test.YtpefgleipjjneaaSubsI
namespace Go.Proofs.Ytpefgleipjjneaa
open Go.RowKit

theorem mild_ord {xs : List Int} (h : ∀ y ∈ xs, 1 ≤ y ∧ y ≤ 1000) : Mild (mk xs (ord xs)) := by
  intro k
  by_cases hk : k < (ord xs).length
  · rw [wk_mk hk]
    have hm := ord_mem (List.getElem_mem hk)
    have hx : ((ord xs)[k]).toNat < xs.length := by omega
    have := h _ (List.getElem_mem hx)
    show 0 ≤ tm xs (ord xs)[k] ∧ tm xs (ord xs)[k] ≤ 1000
    simp only [tm, List.getD_eq_getElem?_getD, List.getElem?_eq_getElem hx, Option.getD_some]
    omega
  · have : wk (mk xs (ord xs)) k = (0, 0) := by
      simp [wk, List.getD_eq_getElem?_getD, List.getElem?_eq_none (show (mk xs (ord xs)).length ≤ k by rw [mk_len]; omega)]
    rw [this]
    simp
/-- All trips for some times, if they are times; else none. -/
def prTs (f : Bool) (xs : List Int) : List Pt := if prOk xs then tripsT f (mk xs (ord xs)) xs.length else []
theorem prTs_yes {f : Bool} {xs : List Int} (h : prOk xs = true) : prTs f xs = tripsT f (mk xs (ord xs)) xs.length := if_pos h
theorem prTs_no {f : Bool} {xs : List Int} (h : prOk xs = false) : prTs f xs = [] := if_neg (by simp [h])
theorem prTs_len (f : Bool) (xs : List Int) : (prTs f xs).length ≤ 24 := by
  cases h : prOk xs
  · rw [prTs_no h]; simp
  · rw [prTs_yes h]
    have := trips_len f (mk xs (ord xs)) xs.length
    have := (prOk_parts h).2.1
    omega
theorem prTs_ok {f : Bool} {xs : List Int} : ∀ t ∈ prTs f xs, OkT xs t := by
  cases h : prOk xs
  · rw [prTs_no h]; simp
  · rw [prTs_yes h]
    exact trips_ok (good_ord xs) f _ (by rw [mk_len, ord_len]; exact Nat.le_refl _)
theorem prTs_mild {f : Bool} {xs : List Int} : ∀ t ∈ prTs f xs, 0 ≤ t.2.2 ∧ t.2.2 ≤ 1000 := by
  intro t ht
  cases h : prOk xs
  · rw [prTs_no h] at ht; simp at ht
  · have ho := prTs_ok t ht
    have hm := (prOk_parts h).2.2
    obtain ⟨-, ⟨h1, h2, h3⟩, -⟩ := ho
    rw [h1]
    have hx : (t.2.1).toNat < xs.length := by omega
    have := hm _ (List.getElem_mem hx)
    simp only [tm, List.getD_eq_getElem?_getD, List.getElem?_eq_getElem hx, Option.getD_some]
    omega
/-- What pairTrips hands back. -/
def PairsPost (ts : List Pt) (ok : Bool) (w : World) (e : Ending) (w' : World) : Prop :=
  ∃ (E : Option Addr) (d : Nat), e = .returned (.tuple #[.slice E ts.length d, .bool ok]) ∧ w'.ownsRow w.heap.size 60 4 (.slice E ts.length d) ts.length (ptsCells ts) ∧ Below w.heap.size w w'

set_option maxHeartbeats 3200000 in
set_option maxRecDepth 100000 in
theorem pairTrips_any (A : Option Addr) (n c : Nat) (xs : List Int) (f : Bool) (w : World) (hA : Holds w A (nums xs)) (hx : xs.length = n) (hn : n ≤ 9223372036854775807) :
    Calls Try.prog 23 #[.slice A n c, .bool f] w (PairsPost (prTs f xs) (prOk xs) w) := by
  have HX := Lib.hid hx
  clear hx
  go_enter Try.func23, Try.ntmps23
  go_wp2_with fail
  refine (squadOf_any A n c xs _ hA HX.out hn).mono ?_
  rintro e w1 hpost
  rcases hpost with ⟨⟨hp, rfl⟩ | ⟨hp, rfl⟩, hb⟩
  · have HP := Lib.hid hp
    have hmp := prOk_parts hp
    have HM := Lib.hid (mild_ord hmp.2.2)
    have h12 := hmp.2.1
    have h1 := hmp.1
    have HB := Lib.hid hb
    have HWL : Hid ((mk xs (ord xs)).length = xs.length) := by show _ = _; rw [mk_len, ord_len]
    clear hp hmp hb
    generalize hW : mk xs (ord xs) = W at HM HWL ⊢
    have HW := Lib.hid hW
    clear hW
    go_upto_region 2 with (refine wpList_store_whole rfl 55 (.tmp 6) (.tmp 11) rfl w1.heap.size (squadCells W xs.length) rfl rfl 55 _ (Whole.fresh _ _ _) size_squad rfl (squad_one _ _) ?_; intro W2 hw2 ho2)
    have hb2 := ho2.below (HB.out.alloc HB.out.size (.cells (squadCells [] 0) 55)) HB.out.size
    have HW2 := Lib.hid hw2
    have HB2 := Lib.hid hb2
    clear hw2 ho2 hb2
    go_wp2_with (refine wpList_load_row rfl 55 (.tmp 6) rfl w1.heap.size rfl 55 (squadCells W xs.length) (0, 0) _ HW2.out Try.underlying55 rfl size_squad ?_)
    have htr := trips_any W f W2 (by rw [HWL.out]; exact h1) (by rw [HWL.out]; exact h12) HM.out
    rw [HWL.out] at htr
    refine htr.mono ?_
    clear htr
    rintro e w3 ⟨E, d, rfl, hown, hb3⟩
    have HO := Lib.hid (own_lower hown HB2.out.size)
    have HB3 := Lib.hid (below_then HB2.out hb3 HB2.out.size)
    clear hown hb3
    go_wp2
    go_ret2
    rw [prTs_yes HP.out, HP.out, HW.out]
    exact ⟨E, d, rfl, HO.out, HB3.out⟩
  · have HP := Lib.hid hp
    have HB := Lib.hid hb
    clear hp hb
    go_upto_region 2 with (refine wpList_store_whole rfl 55 (.tmp 6) (.tmp 11) rfl w1.heap.size (squadCells [] 0) rfl rfl 55 _ (Whole.fresh _ _ _) size_squad rfl (squad_one _ _) ?_; intro W2 hw2 ho2)
    have hb2 := ho2.below (HB.out.alloc HB.out.size (.cells (squadCells [] 0) 55)) HB.out.size
    have HB2 := Lib.hid hb2
    clear hw2 ho2 hb2
    go_wp2
    go_ret2
    rw [prTs_no HP.out, HP.out]
    exact ⟨none, 0, rfl, World.ownsRow_nil _ _ _ _, HB2.out⟩

theorem pts_at {ts : List Pt} {k j : Nat} (hk : k < ts.length) (hj : j < 4) : (ptsCells ts)[k * 4 + j]? = (ptCells ts[k])[j]? := by
  induction ts generalizing k with
  | nil => simp at hk
  | cons t ts ih =>
    have h4 : (ptCells t).toList.length = 4 := rfl
    have hc : ptsCells (t :: ts) = (ptCells t).toList ++ ptsCells ts := rfl
    rw [hc]
    cases k with
    | zero =>
      rw [List.getElem?_append_left (by rw [h4]; omega)]
      simp
    | succ k =>
      rw [List.getElem?_append_right (by rw [h4]; omega), h4]
      have := ih (k := k) (by simpa using hk)
      simp only [List.getElem_cons_succ]
      rw [← this]
      congr 1
      omega
theorem pt_row {w : World} {b o : Nat} {ts : List Pt} {k : Nat} (h : ∀ j u, (ptsCells ts)[j]? = some u → w.cell? ⟨b, o + j, none⟩ = some u) (hk : k < ts.length) :
    w.cell? ⟨b, o + k * 4, none⟩ = some (.int .i64 ts[k].1.1) ∧ w.cell? ⟨b, o + k * 4 + 1, none⟩ = some (.int .i64 ts[k].1.2) ∧ w.cell? ⟨b, o + k * 4 + 2, none⟩ = some (.int .i64 ts[k].2.1) ∧ w.cell? ⟨b, o + k * 4 + 3, none⟩ = some (.int .i64 ts[k].2.2) :=
  ⟨h _ _ (pts_at hk (j := 0) (by omega)), by rw [Nat.add_assoc]; exact h _ _ (pts_at hk (j := 1) (by omega)), by rw [Nat.add_assoc]; exact h _ _ (pts_at hk (j := 2) (by omega)), by rw [Nat.add_assoc]; exact h _ _ (pts_at hk (j := 3) (by omega))⟩
theorem holds_at {w : World} {A : Option Addr} {xs : List Value} (h : Holds w A xs) (h0 : 0 < xs.length) : ∃ b o, A = some ⟨b, o, none⟩ ∧ b < w.heap.size ∧ ∀ j u, xs[j]? = some u → w.cell? ⟨b, o + j, none⟩ = some u := by
  rcases h with rfl | h
  · simp at h0
  · exact h
theorem timeT_next {ts : List Pt} {k : Nat} (h : k < ts.length) : timeT (ts.take (k + 1)) = timeT (ts.take k) + ts[k].2.2 := by
  rw [timeT, timeT, List.take_succ_eq_append_getElem h, List.map_append, List.sum_append]
  simp
theorem timeT_bd {ts : List Pt} (h : ∀ t ∈ ts, 0 ≤ t.2.2 ∧ t.2.2 ≤ 1000) : 0 ≤ timeT ts ∧ timeT ts ≤ 1000 * ts.length := by
  induction ts with
  | nil => simp [timeT]
  | cons t ts ih =>
    have h1 := h t (by simp)
    have h2 := ih fun x hx => h x (List.mem_cons_of_mem _ hx)
    simp only [timeT, List.map_cons, List.sum_cons, List.length_cons] at h2 ⊢
    omega

set_option maxHeartbeats 3200000 in
set_option maxRecDepth 100000 in
theorem timeOfTrips_any (E : Option Addr) (n d : Nat) (ts : List Pt) (w : World) (hE : Holds w E (ptsCells ts)) (hn : ts.length = n) (h24 : n ≤ 24) (hm : ∀ t ∈ ts, 0 ≤ t.2.2 ∧ t.2.2 ≤ 1000) :
    Calls Try.prog 24 #[.slice E n d] w fun e w' => e = .returned (.int .i64 (timeT ts)) ∧ Below w.heap.size w w' := by
  have HN := Lib.hid hn
  have HM := Lib.hid hm
  clear hn hm
  go_enter Try.func24, Try.ntmps24
  go_wp2
  go_loopw [3, 8] (fun v i wr => ∃ k : Nat, k ≤ n ∧ i = .int .i64 k ∧ v = .int .i64 (timeT (ts.take k)) ∧ Below w.heap.size w wr) (fun _ i _ => n - (intOf i).toNat)
  case atStart => exact ⟨0, Nat.zero_le _, rfl, rfl, Below.refl _ _⟩
  case round =>
    obtain ⟨k, hk, rfl, rfl, hb⟩ := hrel
    by_cases hlt : k < n
    · have hkt : k < ts.length := by have := HN.out; omega
      obtain ⟨b1, o1, rfl, -, hcell⟩ := holds_at (hE.below hb) (by rw [pts_len]; omega)
      obtain ⟨c0, c1, c2, c3⟩ := pt_row hcell hkt
      have hbd := timeT_bd (ts := ts.take k) fun t ht => HM.out t (List.mem_of_mem_take ht)
      have hlen : (ts.take k).length ≤ 24 := by simp; omega
      have hs0 := hbd.1
      have hs1 : timeT (ts.take k) ≤ 24000 := by omega
      have ht := HM.out _ (List.getElem_mem hkt)
      have HNX := Lib.hid (timeT_next hkt)
      generalize ts[k] = t at c0 c1 c2 c3 ht HNX
      obtain ⟨⟨t1, t2⟩, t3, t4⟩ := t
      dsimp only at c0 c1 c2 c3 ht
      have ht1 := ht.1
      have ht2 := ht.2
      have HB := Lib.hid (hb.alloc hb.size (.cells #[.int .i64 t1, .int .i64 t2, .int .i64 t3, .int .i64 t4] 60))
      clear hcell hbd hlen ht hb
      go_wp2
      go_roundw
      case rel => exact ⟨k + 1, by omega, by go_num, by rw [HNX.out], HB.out⟩
      case measure => simp [intOf]; omega
    · obtain rfl : k = n := by omega
      have HT : Hid (ts.take k = ts) := List.take_of_length_le (by have := HN.out; omega)
      go_wp2
      go_ret
      exact ⟨ret_of (by rw [HT.out]; rfl), hb⟩
end Go.Proofs.Ytpefgleipjjneaa
