/-
  What is proved: contracts of the model's and the program's tests of a state. Conditions: the party's times and the state's places are read as they lie.
-/
import Derived.Test.YtifaadjbkbdbnaaState
import Derived.Test.YtifaadjbkbdbnaaIsPa
import Derived.Laws.CopyOwn
namespace Go.Proofs.Ytifaadjbkbdbnaa
open Go.RowKit

/-- A state, told in plain words: as long as the party, and the torch is where somebody is. -/
def isState (n : Nat) (bs : List Bool) (t : Bool) : Bool := decide (bs.length = n) && bs.any (· == t)
theorem isState_len {n : Nat} {bs : List Bool} {t : Bool} (h : bs.length ≠ n) : isState n bs t = false := by simp [isState, h]
theorem isState_has {n : Nat} {bs : List Bool} {t : Bool} (h : bs.length = n) {k : Nat} (hk : k < bs.length) (he : bs[k] = t) : isState n bs t = true := by
  simp only [isState, h, decide_true, Bool.true_and, List.any_eq_true]
  exact ⟨bs[k], List.getElem_mem hk, by simp [he]⟩
theorem isState_none {n : Nat} {bs : List Bool} {t : Bool} (h : ∀ j (hj : j < bs.length), bs[j] ≠ t) : isState n bs t = false := by
  have : bs.any (· == t) = false := by
    rw [List.any_eq_false]
    intro x hx
    obtain ⟨j, hj, rfl⟩ := List.getElem_of_mem hx
    simpa using h j hj
  simp [isState, this]

/-- None of the first k stands where t is. -/
def NoneYet (bs : List Bool) (t : Bool) (k : Nat) : Prop := ∀ j (h : j < bs.length), j < k → bs[j] ≠ t
theorem NoneYet.start (bs : List Bool) (t : Bool) : NoneYet bs t 0 := fun _ _ h => absurd h (by omega)
theorem NoneYet.next {bs : List Bool} {t : Bool} {k : Nat} (h : NoneYet bs t k) (hk : k < bs.length) (hne : bs[k] ≠ t) : NoneYet bs t (k + 1) := fun j hj hlt =>
  (Nat.lt_succ_iff_lt_or_eq.1 hlt).elim (h j hj) (fun e => by subst e; exact hne)
theorem NoneYet.all {bs : List Bool} {t : Bool} {k : Nat} (h : NoneYet bs t k) (hk : bs.length ≤ k) : ∀ j (hj : j < bs.length), bs[j] ≠ t := fun j hj => h j hj (by omega)

set_option maxHeartbeats 400000 in
theorem paState_any (A B : Option Addr) (n c m d : Nat) (bs : List Bool) (s : Int) (t : Bool) (w : World) (hB : Holds w B (bits bs)) (hy : bs.length = m) (hm : m ≤ 9223372036854775807) :
    Calls Try.prog 103 #[.agg #[.slice A n c, .int .i64 s], .agg #[.slice B m d, .bool t]] w fun e w' => e = .returned (.bool (isState n bs t)) ∧ Below w.heap.size w w' := by
  subst hy
  have hB2 := (hB.alloc (.cells #[.slice A n c, .int .i64 s] 33)).alloc (.cells #[.slice B bs.length d, .bool t] 35)
  by_cases hl : bs.length = n
  · have hl' : ((bs.length : Int) != (n : Int)) = false := by simp [hl]
    have HL := Lib.hid hl
    clear hl
    go_enter Try.func103, Try.ntmps103
    go_wp2
    go_loop [17] (fun i => ∃ k : Nat, k ≤ bs.length ∧ i = .int .i64 k ∧ NoneYet bs t k) (fun i => bs.length - (intOf i).toNat)
    case atStart => exact ⟨0, Nat.zero_le _, rfl, NoneYet.start _ _⟩
    case round =>
      obtain ⟨k, hk, rfl, hs⟩ := hrel
      by_cases hlt : k < bs.length
      · obtain ⟨b, o, rfl, hb, hc⟩ := hB2.look (k := k) (by simpa [bits] using hlt)
        simp only [bits, List.getElem_map] at hc
        by_cases he : bs[k] = t
        · have HP := Lib.hid (isState_has HL.out hlt he)
          have ht : (bs[k] == t) = true := by simp [he]
          clear he
          go_wp2
          go_ret
          exact ⟨ret_of (by rw [HP.out]; rfl), below2 w _ _⟩
        · have ht : (bs[k] == t) = false := by simp [he]
          have HN := Lib.hid he
          clear he
          go_wp2
          go_round
          case rel => exact ⟨k + 1, by omega, by go_num, hs.next hlt HN.out⟩
          case measure => simp [intOf]; omega
      · have HP := Lib.hid (isState_none (n := n) (hs.all (by omega)))
        go_wp2
        go_ret
        exact ⟨ret_of (by rw [HP.out]; rfl), below2 w _ _⟩
  · have hl' : ((bs.length : Int) != (n : Int)) = true := by simp; omega
    have HP := Lib.hid (isState_len (t := t) hl)
    clear hl
    go_enter Try.func103, Try.ntmps103
    go_wp2
    go_ret
    exact ⟨ret_of (by rw [HP.out]; rfl), below2 w _ _⟩

/-- What Index hands back: a place from 0 on where t stands, or -1 where it stands nowhere. -/
def IndexPost (bs : List Bool) (t : Bool) (w : World) (e : Ending) (w' : World) : Prop := ∃ r : Int, e = .returned (.int .i64 r) ∧ decide (0 ≤ r) = bs.any (· == t) ∧ w = w'

set_option maxHeartbeats 400000 in
theorem sliceIndexB_any (B : Option Addr) (m d : Nat) (bs : List Bool) (t : Bool) (w : World) (hB : Holds w B (bits bs)) (hy : bs.length = m) (hm : m ≤ 9223372036854775807) :
    Calls Try.prog 144 #[.slice B m d, .bool t] w (IndexPost bs t w) := by
  subst hy
  go_enter Try.func144, Try.ntmps144
  go_wp2
  go_loop [8] (fun i => ∃ k : Nat, k ≤ bs.length ∧ i = .int .i64 k ∧ NoneYet bs t k) (fun i => bs.length - (intOf i).toNat)
  case atStart => exact ⟨0, Nat.zero_le _, rfl, NoneYet.start _ _⟩
  case round =>
    obtain ⟨k, hk, rfl, hs⟩ := hrel
    by_cases hlt : k < bs.length
    · obtain ⟨b, o, rfl, hb, hc⟩ := hB.look (k := k) (by simpa [bits] using hlt)
      simp only [bits, List.getElem_map] at hc
      by_cases he : bs[k] = t
      · have HP : Hid (bs.any (· == t) = true) := by
          show _ = _
          rw [List.any_eq_true]
          exact ⟨bs[k], List.getElem_mem hlt, by simp [he]⟩
        have ht : (t == bs[k]) = true := by simp [he]
        clear he
        go_wp2
        go_ret
        exact ⟨(k : Int), rfl, by rw [HP.out]; simp, rfl⟩
      · have ht : (t == bs[k]) = false := by simp; exact fun h => he h.symm
        have HN := Lib.hid he
        clear he
        go_wp2
        go_round
        case rel => exact ⟨k + 1, by omega, by go_num, hs.next hlt HN.out⟩
        case measure => simp [intOf]; omega
    · have HP : Hid (bs.any (· == t) = false) := by
        show _ = _
        rw [List.any_eq_false]
        intro x hx
        obtain ⟨j, hj, rfl⟩ := List.getElem_of_mem hx
        simpa using hs.all (by omega) j hj
      go_wp2
      go_ret
      exact ⟨-1, rfl, by rw [HP.out]; rfl, rfl⟩

set_option maxHeartbeats 400000 in
theorem containsB_any (B : Option Addr) (m d : Nat) (bs : List Bool) (t : Bool) (w : World) (hB : Holds w B (bits bs)) (hy : bs.length = m) (hm : m ≤ 9223372036854775807) :
    Calls Try.prog 131 #[.slice B m d, .bool t] w fun e w' => e = .returned (.bool (bs.any (· == t))) ∧ w = w' := by
  have HY := Lib.hid hy
  clear hy
  go_enter Try.func131, Try.ntmps131
  go_wp2_with fail
  refine (sliceIndexB_any B m d bs t _ hB HY.out hm).mono ?_
  rintro e w' ⟨r, rfl, hr, rfl⟩
  have HR := Lib.hid hr
  clear hr
  go_wp2
  go_ret
  exact ⟨ret_of (by rw [← HR.out]; rfl), rfl⟩

/-- The cells of a place: eight people, of whom the party's are told, and the torch. -/
def placeCells (bs : List Bool) (t : Bool) : Array Value := #[.bool (bs.getD 0 false), .bool (bs.getD 1 false), .bool (bs.getD 2 false), .bool (bs.getD 3 false), .bool (bs.getD 4 false), .bool (bs.getD 5 false), .bool (bs.getD 6 false), .bool (bs.getD 7 false), .bool t]

set_option maxHeartbeats 400000 in
theorem placeOf_no (B : Option Addr) (n m d : Nat) (bs : List Bool) (t : Bool) (w : World) (hB : Holds w B (bits bs)) (hy : bs.length = m) (hm : m ≤ 9223372036854775807) (h : isState n bs t = false) :
    Calls Try.prog 105 #[.int .i64 n, .agg #[.slice B m d, .bool t]] w fun e w' => e = .returned (.tuple #[.agg (placeCells [] false), .bool false]) ∧ Below w.heap.size w w' := by
  subst hy
  have HB := hB.alloc (.cells #[.slice B bs.length d, .bool t] 35)
  by_cases hl : bs.length = n
  · have hl' : ((bs.length : Int) != (n : Int)) = false := by simp [hl]
    have hc : bs.any (· == t) = false := by simpa [isState, hl] using h
    have HC := Lib.hid hc
    clear hl hc h
    go_enter Try.func105, Try.ntmps105
    go_wp2_with fail
    refine (containsB_any B _ d bs t _ (HB.alloc _) rfl hm).mono ?_
    rintro e w1 ⟨rfl, rfl⟩
    rw [HC.out]
    go_wp2
    go_returns
    exact ⟨rfl, below2 w _ _⟩
  · have hl' : ((bs.length : Int) != (n : Int)) = true := by simp; omega
    clear hl h
    go_enter Try.func105, Try.ntmps105
    go_wp2
    go_returns
    exact ⟨rfl, below2 w _ _⟩

theorem place_cells {w : World} {g : Nat} {ty : TypeId} {bs : List Bool} {t : Bool} (h : Whole w g ty (placeCells bs t)) :
    w.cell? ⟨g, 0, none⟩ = some (.bool (bs.getD 0 false)) ∧ w.cell? ⟨g, 1, none⟩ = some (.bool (bs.getD 1 false)) ∧ w.cell? ⟨g, 2, none⟩ = some (.bool (bs.getD 2 false)) ∧ w.cell? ⟨g, 3, none⟩ = some (.bool (bs.getD 3 false)) ∧
    w.cell? ⟨g, 4, none⟩ = some (.bool (bs.getD 4 false)) ∧ w.cell? ⟨g, 5, none⟩ = some (.bool (bs.getD 5 false)) ∧ w.cell? ⟨g, 6, none⟩ = some (.bool (bs.getD 6 false)) ∧ w.cell? ⟨g, 7, none⟩ = some (.bool (bs.getD 7 false)) ∧
    w.cell? ⟨g, 8, none⟩ = some (.bool t) :=
  ⟨(h.cell 0).trans rfl, (h.cell 1).trans rfl, (h.cell 2).trans rfl, (h.cell 3).trans rfl, (h.cell 4).trans rfl, (h.cell 5).trans rfl, (h.cell 6).trans rfl, (h.cell 7).trans rfl, (h.cell 8).trans rfl⟩
theorem place_open {w : World} {g : Nat} {ty : TypeId} {cs : Array Value} (h : Whole w g ty cs) :
    w.frozen? ⟨g, 0, none⟩ = false ∧ w.frozen? ⟨g, 1, none⟩ = false ∧ w.frozen? ⟨g, 2, none⟩ = false ∧ w.frozen? ⟨g, 3, none⟩ = false ∧ w.frozen? ⟨g, 4, none⟩ = false ∧ w.frozen? ⟨g, 5, none⟩ = false ∧ w.frozen? ⟨g, 6, none⟩ = false ∧ w.frozen? ⟨g, 7, none⟩ = false ∧ w.frozen? ⟨g, 8, none⟩ = false :=
  ⟨h.open_ 0, h.open_ 1, h.open_ 2, h.open_ 3, h.open_ 4, h.open_ 5, h.open_ 6, h.open_ 7, h.open_ 8⟩
theorem set_place {w : World} {g B : Nat} {a : World} {v0 v1 v2 v3 v4 v5 v6 v7 v8 : Value} (h : Below B a w) (hg : B ≤ g) :
    Below B a (((((((((w.setCell ⟨g, 0, none⟩ v0).setCell ⟨g, 1, none⟩ v1).setCell ⟨g, 2, none⟩ v2).setCell ⟨g, 3, none⟩ v3).setCell ⟨g, 4, none⟩ v4).setCell ⟨g, 5, none⟩ v5).setCell ⟨g, 6, none⟩ v6).setCell ⟨g, 7, none⟩ v7).setCell ⟨g, 8, none⟩ v8) :=
  below_set (below_set (below_set (below_set (below_set (below_set (below_set (below_set (below_set h hg) hg) hg) hg) hg) hg) hg) hg) hg

theorem size_bool : (Try.prog.info? 4).map (·.size) = some 1 := by kernel_rfl

theorem splice_place (bs : List Bool) (t : Bool) (h : bs.length ≤ 8) : splice (placeCells [] t).toList 0 (bits bs) = (placeCells bs t).toList := by
  match bs, h with
  | [], _ => rfl
  | [_], _ => rfl
  | [_, _], _ => rfl
  | [_, _, _], _ => rfl
  | [_, _, _, _], _ => rfl
  | [_, _, _, _, _], _ => rfl
  | [_, _, _, _, _, _], _ => rfl
  | [_, _, _, _, _, _, _], _ => rfl
  | [_, _, _, _, _, _, _, _], _ => rfl
  | _ :: _ :: _ :: _ :: _ :: _ :: _ :: _ :: _ :: _, h => simp at h

set_option maxHeartbeats 800000 in
theorem placeOf_yes (B : Option Addr) (n m d : Nat) (bs : List Bool) (t : Bool) (w : World) (hB : Holds w B (bits bs)) (hy : bs.length = m) (hn : n ≤ 8) (h : isState n bs t = true) :
    Calls Try.prog 105 #[.int .i64 n, .agg #[.slice B m d, .bool t]] w fun e w' => e = .returned (.tuple #[.agg (placeCells bs t), .bool true]) ∧ Below w.heap.size w w' := by
  subst hy
  have HB := hB.alloc (.cells #[.slice B bs.length d, .bool t] 35)
  simp only [isState, Bool.and_eq_true, decide_eq_true_eq] at h
  obtain ⟨hl, hc⟩ := h
  subst hl
  have HC := Lib.hid hc
  have hl' : ((bs.length : Int) != (bs.length : Int)) = false := by simp
  clear hc
  go_enter Try.func105, Try.ntmps105
  go_wp2_with fail
  refine (containsB_any B _ d bs t _ (HB.alloc _) rfl (by omega)).mono ?_
  rintro e w1 ⟨rfl, rfl⟩
  rw [HC.out]
  go_wp2
  have hres := Whole.fresh (w.alloc (.cells #[.slice B bs.length d, .bool t] 35)) 94 (placeCells [] false)
  have hblk := Whole.fresh ((w.alloc (.cells #[.slice B bs.length d, .bool t] 35)).alloc (.cells (placeCells [] false) 94)) 94 (placeCells [] t)
  simp only [World.size_alloc] at hblk hres
  have hfar := (HB.alloc (.cells (placeCells [] false) 94)).alloc (.cells (placeCells [] t) 94)
  have hb2 := below2 w (.cells #[.slice B bs.length d, .bool t] 35) (.cells (placeCells [] false) 94)
  have hb3 := below1 ((w.alloc (.cells #[.slice B bs.length d, .bool t] 35)).alloc (.cells (placeCells [] false) 94)) (.cells (placeCells [] t) 94)
  simp only [World.size_alloc] at hb3
  have hsrc : 0 < (bits bs).length → (some ⟨w.heap.size + 1 + 1, 0, none⟩ : Option Addr) = some ⟨w.heap.size + 1 + 1, 0, none⟩ ∧ ∃ ad : Addr, B = some ad ∧ ∀ j v, (bits bs)[j]? = some v → (((w.alloc (.cells #[.slice B bs.length d, .bool t] 35)).alloc (.cells (placeCells [] false) 94)).alloc (.cells (placeCells [] t) 94)).cell? (ad.add j) = some v := by
    intro h0
    refine ⟨rfl, ?_⟩
    rcases hfar with h | ⟨b, o, hA, hb, hc⟩
    · rw [h] at h0; simp at h0
    · exact ⟨_, hA, fun j v hv => by rw [show (⟨b, o, none⟩ : Addr).add j = ⟨b, o + j, none⟩ from by unfold Addr.add; split <;> simp_all]; exact hc j v hv⟩
  have HSRC := Lib.hid hsrc
  have hbl : (bits bs).length = Nat.min bs.length 8 := by rw [bits_len]; exact (Nat.min_eq_left hn).symm
  have HBL := Lib.hid hbl
  have hone : ∀ v ∈ bits bs, v.oneCell' = true := by
    intro v hv
    simp only [bits, List.mem_map] at hv
    obtain ⟨x, -, rfl⟩ := hv
    rfl
  have HONE := Lib.hid hone
  have hfit : 0 + (bits bs).length ≤ (placeCells [] t).toList.length := by rw [bits_len]; show 0 + bs.length ≤ 9; omega
  have HFIT := Lib.hid hfit
  clear hsrc hbl hone hfit hfar HB
  go_region_law (refine step_copy_splice rfl (.tmp 26) (.tmp 28) 25 25 rfl 4 Try.underlying25 size_bool (some ⟨w.heap.size + 1 + 1, 0, none⟩) B 8 8 bs.length d (by simp [Act.eval]) (by simp [Act.eval]) (w.heap.size + 1 + 1) 0 (placeCells [] t).toList 94 (by exact hblk.drew) (bits bs) HBL.out (by exact HSRC.out) HFIT.out HONE.out (w.heap.size + 1 + 1) _ (by exact hb3.drew) (Nat.le_refl _) ?_; intro w' hw' hb')
  have hq : Whole w' (w.heap.size + 1 + 1) 94 (placeCells bs t) := by
    have h := hw'.out
    rw [splice_place bs t hn] at h
    exact h
  have hr := hres.below' hb' (by omega)
  obtain ⟨a0, a1, a2, a3, a4, a5, a6, a7, a8⟩ := place_cells hq
  obtain ⟨r0, r1, r2, r3, r4, r5, r6, r7, r8⟩ := place_cells hr
  obtain ⟨f0, f1, f2, f3, f4, f5, f6, f7, f8⟩ := place_open hr
  have hlt1 := hr.lt
  clear hw' hblk hres hb3 HSRC HBL HONE HFIT hq
  go_wp2
  have hbw : Below w.heap.size w w' := below_then hb2 (by simpa using hb') (by simp; omega)
  refine bodyPost_ret (v := .tuple #[.agg (placeCells bs t), .bool true]) (by simp [results, Try.results105, go_sem, r0, r1, r2, r3, r4, r5, r6, r7, r8, placeCells]) rfl ⟨rfl, ?_⟩
  exact set_place hbw (by omega)
end Go.Proofs.Ytifaadjbkbdbnaa
