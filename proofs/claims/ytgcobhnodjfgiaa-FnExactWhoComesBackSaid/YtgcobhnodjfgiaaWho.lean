/-
  What is proved: contracts of WhoComesBack, of the model and of the program. Conditions: the times are read as they lie.
-/
import Derived.Test.YtgcobhnodjfgiaaPairT
namespace Go.Proofs.Ytgcobhnodjfgiaa
open Go.RowKit

/-- Who comes back in every second one of the first k trips. -/
def backs (ts : List Pt) (k : Nat) : List Int := ((List.range k).filter (fun i => i % 2 == 1)).map (fun i => (ts.getD i ((0, 0), 0, 0)).1.1)
theorem backs_odd {ts : List Pt} {k : Nat} (h : k % 2 = 1) : backs ts (k + 1) = backs ts k ++ [(ts.getD k ((0, 0), 0, 0)).1.1] := by
  simp [backs, List.range_succ, List.filter_append, h]
theorem backs_even {ts : List Pt} {k : Nat} (h : k % 2 = 0) : backs ts (k + 1) = backs ts k := by
  simp [backs, List.range_succ, List.filter_append, h]
theorem backs_len (ts : List Pt) (k : Nat) : (backs ts k).length ≤ k := by
  have := List.length_filter_le (fun i => i % 2 == 1) (List.range k)
  simpa [backs] using this
def backers (xs : List Int) : List Int := backs (prTs true xs) (prTs true xs).length
theorem backers_le (xs : List Int) : (backers xs).length ≤ 1048576 := by
  have := backs_len (prTs true xs) (prTs true xs).length
  have := prTs_len true xs
  unfold backers
  omega
theorem backers_no {xs : List Int} (h : prOk xs = false) : backers xs = [] := by rw [backers, prTs_no h]; rfl
theorem prTs_alone {xs : List Int} {k : Nat} (hk : k < (prTs true xs).length) (h : k % 2 = 1) : listT (prTs true xs)[k] = [((prTs true xs).getD k ((0, 0), 0, 0)).1.1] := by
  cases hp : prOk xs
  · rw [prTs_no hp] at hk
    simp at hk
  · have hd : (prTs true xs).getD k ((0, 0), 0, 0) = (prTs true xs)[k] := by simp [hk]
    rw [hd]
    have he : (prTs true xs)[k]? = some (prTs true xs)[k] := List.getElem?_eq_getElem hk
    have ha := trips_alone true (mk xs (ord xs)) xs.length (k / 2) (prTs true xs)[k] (by rw [← prTs_yes hp, show 2 * (k / 2) + 1 = k by omega]; exact he)
    rw [listT, if_pos ha]

set_option maxHeartbeats 3200000 in
set_option maxRecDepth 100000 in
theorem specWho_any (A : Option Addr) (n c : Nat) (xs : List Int) (w : World) (hA : Holds w A (nums xs)) (hx : xs.length = n) (hn : n ≤ 9223372036854775807) :
    Calls Try.prog 47 #[.slice A n c] w (ListPost (backers xs) (prOk xs) w) := by
  have HX := Lib.hid hx
  clear hx
  cases hp : prOk xs
  · have HP := Lib.hid hp
    clear hp
    go_enter Try.func47, Try.ntmps47
    go_wp2_with (go_at_call 64; refine (prGood_any A n c xs _ hA HX.out hn).mono ?_; rintro e w' ⟨rfl, rfl⟩; rw [HP.out])
    go_ret2
    rw [backers_no HP.out]
    exact ListPost.no (Below.refl _ _)
  · have HP := Lib.hid hp
    obtain ⟨i0, hi, hz0, hz1, hz2⟩ := info_parts info_int
    have HI := Lib.hid hi
    have HZ0 := Lib.hid hz0
    have HZ1 := Lib.hid hz1
    have HZ2 := Lib.hid hz2
    clear hp hi hz0 hz1 hz2
    go_enter Try.func47, Try.ntmps47
    go_wp2_with (go_at_call 64; refine (prGood_any A n c xs _ hA HX.out hn).mono ?_; rintro e w' ⟨rfl, rfl⟩; rw [HP.out])
    refine (prTrips_at A n c xs false _ hA HX.out HP.out).mono ?_
    rintro e w1 ⟨E, d, rs, rfl, hr, hh, hb⟩
    have hrl : rs.length = (prTs true xs).length := by
      have h := congrArg List.length hr
      rw [rowNums_len, List.length_map] at h
      exact h
    have hl24 := prTs_len true xs
    have hR : rowNums rs = (prTs true xs).map listT := hr
    have HR := Lib.hid hR
    have HRL := Lib.hid hrl
    have HAL := Lib.hid (fun k (hk : k < (prTs true xs).length) (h : k % 2 = 1) => prTs_alone (xs := xs) hk h)
    have hG := hh.free.grid
    have HB := Lib.hid hb
    have hbs : w.heap.size ≤ w1.heap.size := hb.size
    have hr24 : rs.length ≤ 24 := by omega
    clear hr hR hrl hh hb
    go_wp2_with fail
    go_loopw [7, 8] (fun v i wr => ∃ (k : Nat) (G : Option Addr) (q : Nat), k % 2 = 1 ∧ k ≤ rs.length + 1 ∧ i = .int .i64 k ∧ v = .slice G (backs (prTs true xs) k).length q ∧ wr.ownsRow w1.heap.size 3 1 (.slice G (backs (prTs true xs) k).length q) (backs (prTs true xs) k).length (nums (backs (prTs true xs) k)) ∧ Below w1.heap.size w1 wr) (fun _ i _ => rs.length + 1 - (intOf i).toNat)
    case atStart => exact ⟨1, none, 0, rfl, by omega, rfl, rfl, World.ownsRow_nil _ _ _ _, Below.refl _ _⟩
    case round =>
      obtain ⟨k, G, q, hodd, hk, rfl, rfl, hown, hb⟩ := hrel
      have hbl := backs_len (prTs true xs) k
      have hwz : w1.heap.size ≤ wr.heap.size := hb.size
      by_cases hlt : k < rs.length
      · obtain ⟨b1, o1, rfl, hbl1, hc, hok⟩ := (hG.below hb).look hlt
        have hkt : k < (prTs true xs).length := by have := HRL.out; omega
        have hrow : rs[k].xs = [((prTs true xs).getD k ((0, 0), 0, 0)).1.1] := by
          rw [← HAL.out k hkt hodd, ← rowNums_get hlt]
          simp [HR.out]
        have hnx : backs (prTs true xs) (k + 2) = backs (prTs true xs) k ++ [((prTs true xs).getD k ((0, 0), 0, 0)).1.1] := by rw [backs_even (by omega), backs_odd hodd]
        generalize ((prTs true xs).getD k ((0, 0), 0, 0)).1.1 = v at hrow hnx
        generalize rs[k] = r at hc hok hrow
        obtain ⟨B1, n1, d1, x1⟩ := r
        obtain ⟨ok1, ok2, ok3⟩ := hok
        dsimp only at hc ok1 ok2 ok3 hrow
        subst hrow
        obtain rfl : 1 = n1 := ok2
        obtain ⟨b2, o2, rfl, -, hcv⟩ := ok1.look (k := 0) (by simp [nums])
        have hcv' : wr.cell? ⟨b2, o2, none⟩ = some (.int .i64 v) := hcv
        have HOW := Lib.hid (hown.alloc (.cells #[.int .i64 v] 3))
        have HBB := Lib.hid (hb.alloc hb.size (.cells #[.int .i64 v] 3))
        have HBASE := Lib.hid (show w1.heap.size ≤ (wr.alloc (.cells #[.int .i64 v] 3)).heap.size by simp; omega)
        have HMAX := Lib.hid (show (backs (prTs true xs) k).length + 1 ≤ maxLen by unfold maxLen; omega)
        have HBYT := Lib.hid (show ((backs (prTs true xs) k).length + 1) * 8 ≤ 140737488355328 by omega)
        have HNX := Lib.hid hnx
        have HLEN : Hid ((backs (prTs true xs) (k + 2)).length = (backs (prTs true xs) k).length + 1) := by show _ = _; rw [hnx]; simp
        clear hown hb hnx hcv ok1
        go_wp2_with (at_builtin; refine wpList_append_own _ rfl (.tmp 24) (.tmp 31) 22 rfl w1.heap.size 3 i0 (.int .i64 0) 1 8 Try.underlying22 HI.out HZ0.out HZ1.out HZ2.out rfl (by decide) (.slice G (backs (prTs true xs) k).length q) (backs (prTs true xs) k).length (nums (backs (prTs true xs) k)) rfl HOW.out ⟨wr.heap.size, 0, none⟩ 1 1 [.int .i64 v] rfl rfl (cell_one_new _ _ _) (by simp [Value.oneCell']) HMAX.out HBYT.out HBASE.out ?_; intro v' w2 hown1 hg1 _; obtain ⟨D', q', hv', -⟩ := Fresh.of_own hown1 (Nat.le_refl _); rw [hv'] at hown1 ⊢; clear hv')
        have HBN := Lib.hid (HBB.out.grown hg1 HBASE.out (fun kk e => (HOW.out.lt _ e).1))
        have HON := Lib.hid hown1
        clear hg1 hown1
        go_roundw
        case rel => exact ⟨k + 2, D', q', by omega, by omega, by go_num, by rw [HLEN.out], by rw [HLEN.out, HNX.out, show nums (backs (prTs true xs) k ++ [v]) = nums (backs (prTs true xs) k) ++ [.int .i64 v] by simp [nums]]; exact HON.out, HBN.out⟩
        case measure => simp [intOf]; omega
      · have hall : backs (prTs true xs) k = backers xs := by
          have := HRL.out
          unfold backers
          rcases Nat.lt_or_ge k (rs.length + 1) with h | h
          · rw [show k = (prTs true xs).length by omega]
          · rw [show k = (prTs true xs).length + 1 by omega, backs_even (by omega)]
        rw [hall] at hown
        have HALL := Lib.hid hall
        have HO := Lib.hid (own_lower hown hbs)
        have HBE := Lib.hid (HB.out.trans (hb.mono hbs))
        clear hown hb hall hbl
        go_wp2
        go_ret2
        rw [HALL.out]
        exact ListPost.own HO.out HBE.out

set_option maxHeartbeats 3200000 in
set_option maxRecDepth 100000 in
theorem implWho_any (A : Option Addr) (n c : Nat) (xs : List Int) (w : World) (hA : Holds w A (nums xs)) (hx : xs.length = n) (hn : n ≤ 9223372036854775807) :
    Calls Try.prog 48 #[.slice A n c] w (ListPost (backers xs) (prOk xs) w) := by
  have HX := Lib.hid hx
  obtain ⟨i0, hi, hz0, hz1, hz2⟩ := info_parts info_int
  have HI := Lib.hid hi
  have HZ0 := Lib.hid hz0
  have HZ1 := Lib.hid hz1
  have HZ2 := Lib.hid hz2
  clear hi hz0 hz1 hz2 hx
  go_enter Try.func48, Try.ntmps48
  go_wp2_with fail
  refine (pairTrips_any A n c xs true _ hA HX.out hn).mono ?_
  rintro e w1 ⟨E, d, rfl, hown, hb⟩
  have hl24 := prTs_len true xs
  generalize hte : prTs true xs = ts at hown hl24 ⊢
  have HTE := Lib.hid hte
  have hE := own_holdsK hown
  have HB := Lib.hid hb
  have hbs : w.heap.size ≤ w1.heap.size := hb.size
  clear hown hb hte
  go_wp2_with fail
  go_loopw [6, 16] (fun v i wr => ∃ (k : Nat) (G : Option Addr) (q : Nat), k ≤ ts.length ∧ i = .int .i64 k ∧ v = .slice G (backs ts k).length q ∧ wr.ownsRow w1.heap.size 3 1 (.slice G (backs ts k).length q) (backs ts k).length (nums (backs ts k)) ∧ Below w1.heap.size w1 wr) (fun _ i _ => ts.length - (intOf i).toNat)
  case atStart => exact ⟨0, none, 0, Nat.zero_le _, rfl, rfl, World.ownsRow_nil _ _ _ _, Below.refl _ _⟩
  case round =>
    obtain ⟨k, G, q, hk, rfl, rfl, hown, hb⟩ := hrel
    have hbl := backs_len ts k
    have hwz : w1.heap.size ≤ wr.heap.size := hb.size
    by_cases hlt : k < ts.length
    · obtain ⟨b1, o1, rfl, -, hcell⟩ := holds_at (hE.below hb) (by rw [pts_len]; omega)
      obtain ⟨c0, c1, c2, c3⟩ := pt_row hcell hlt
      have hd : (ts.getD k ((0, 0), 0, 0)) = ts[k] := by simp [hlt]
      have hodd := backs_odd (ts := ts) (k := k)
      have heven := backs_even (ts := ts) (k := k)
      rw [hd] at hodd
      generalize ts[k] = t at c0 c1 c2 c3 hodd
      obtain ⟨⟨t1, t2⟩, t3, t4⟩ := t
      dsimp only at c0 c1 c2 c3 hodd
      clear hcell hd
      by_cases hp2 : k % 2 = 1
      · have hm : (k : Int) % 2 = 1 := by omega
        have HNX := Lib.hid (hodd hp2)
        have HLEN : Hid ((backs ts (k + 1)).length = (backs ts k).length + 1) := by show _ = _; rw [HNX.out]; simp
        have HOW := Lib.hid ((hown.alloc (.cells #[.int .i64 t1, .int .i64 t2, .int .i64 t3, .int .i64 t4] 101)).alloc (.cells #[.int .i64 t1] 3))
        have HBB := Lib.hid ((hb.alloc hb.size (.cells #[.int .i64 t1, .int .i64 t2, .int .i64 t3, .int .i64 t4] 101)).alloc (by simp; omega) (.cells #[.int .i64 t1] 3))
        have HBASE := Lib.hid (show w1.heap.size ≤ ((wr.alloc (.cells #[.int .i64 t1, .int .i64 t2, .int .i64 t3, .int .i64 t4] 101)).alloc (.cells #[.int .i64 t1] 3)).heap.size by simp; omega)
        have HMAX := Lib.hid (show (backs ts k).length + 1 ≤ maxLen by unfold maxLen; omega)
        have HBYT := Lib.hid (show ((backs ts k).length + 1) * 8 ≤ 140737488355328 by omega)
        clear hodd heven hown hb
        go_wp2_with (at_builtin; refine wpList_append_own _ rfl (.tmp 24) (.tmp 28) 22 rfl w1.heap.size 3 i0 (.int .i64 0) 1 8 Try.underlying22 HI.out HZ0.out HZ1.out HZ2.out rfl (by decide) (.slice G (backs ts k).length q) (backs ts k).length (nums (backs ts k)) rfl HOW.out ⟨wr.heap.size + 1, 0, none⟩ 1 1 [.int .i64 t1] rfl rfl (by have h := cell_one_new (wr.alloc (.cells #[.int .i64 t1, .int .i64 t2, .int .i64 t3, .int .i64 t4] 101)) (.int .i64 t1) 3; rw [World.size_alloc] at h; exact h) (by simp [Value.oneCell']) HMAX.out HBYT.out HBASE.out ?_; intro v' w2 hown1 hg1 _; obtain ⟨D', q', hv', -⟩ := Fresh.of_own hown1 (Nat.le_refl _); rw [hv'] at hown1 ⊢; clear hv')
        have HBN := Lib.hid (HBB.out.grown hg1 HBASE.out (fun kk e => (HOW.out.lt _ e).1))
        have HON := Lib.hid hown1
        clear hg1 hown1
        go_roundw
        case rel => exact ⟨k + 1, D', q', by omega, by go_num, by rw [HLEN.out], by rw [HLEN.out, HNX.out, show nums (backs ts k ++ [t1]) = nums (backs ts k) ++ [.int .i64 t1] by simp [nums]]; exact HON.out, HBN.out⟩
        case measure => simp [intOf]; omega
      · have hm : (k : Int) % 2 = 0 := by omega
        have HNX := Lib.hid (heven (by omega))
        have HO := Lib.hid (hown.alloc (.cells #[.int .i64 t1, .int .i64 t2, .int .i64 t3, .int .i64 t4] 101))
        have HBB := Lib.hid (hb.alloc hb.size (.cells #[.int .i64 t1, .int .i64 t2, .int .i64 t3, .int .i64 t4] 101))
        clear hodd heven hown hb
        go_wp2
        go_roundw
        case rel => exact ⟨k + 1, G, q, by omega, by go_num, by rw [HNX.out], by rw [HNX.out]; exact HO.out, HBB.out⟩
        case measure => simp [intOf]; omega
    · obtain rfl : k = ts.length := by omega
      have HO := Lib.hid (own_lower hown hbs)
      have HBE := Lib.hid (HB.out.trans (hb.mono hbs))
      clear hown hb
      go_wp2
      go_ret2
      have hall : backs ts ts.length = backers xs := by rw [backers, HTE.out]
      have ho := HO.out
      rw [hall] at ho ⊢
      exact ListPost.own ho HBE.out
end Go.Proofs.Ytgcobhnodjfgiaa
