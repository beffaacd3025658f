/-
  What is proved: the contract of crowd.list: the people of a crowd in their order. Conditions: a crowd of a strictly rising list of numbers from 0 to 7.
-/
import Derived.Test.YtifaadjbkbdbnaaOwn
import Derived.Test.YtifaadjbkbdbnaaCanI
import Derived.Test.YtifaadjbkbdbnaaSlow
namespace Go.Proofs.Ytifaadjbkbdbnaa
open Go.RowKit

/-- The people of a crowd before the k-th. -/
def upTo (l : List Int) (k : Nat) : List Int := ((List.range k).filter (fun i => has l i)).map Int.ofNat
theorem upTo_yes {l : List Int} {k : Nat} (h : has l k = true) : upTo l (k + 1) = upTo l k ++ [(k : Int)] := by
  simp [upTo, List.range_succ, List.filter_append, h]
theorem upTo_no {l : List Int} {k : Nat} (h : has l k = false) : upTo l (k + 1) = upTo l k := by
  simp [upTo, List.range_succ, List.filter_append, h]
theorem upTo_len (l : List Int) (k : Nat) : (upTo l k).length ≤ k := by
  have := List.length_filter_le (fun i => has l i) (List.range k)
  simpa [upTo] using this
theorem rise_eq : ∀ {a b : List Int}, a.Pairwise (· < ·) → b.Pairwise (· < ·) → (∀ x, x ∈ a ↔ x ∈ b) → a = b
  | [], [], _, _, _ => rfl
  | [], y :: b, _, _, h => by have := (h y).2 (by simp); simp at this
  | x :: a, [], _, _, h => by have := (h x).1 (by simp); simp at this
  | x :: a, y :: b, ha, hb, h => by
    rw [List.pairwise_cons] at ha hb
    have e : x = y := by
      have h1 := (h x).1 (by simp)
      have h2 := (h y).2 (by simp)
      rcases List.mem_cons.1 h1 with h1 | h1
      · exact h1
      · rcases List.mem_cons.1 h2 with h2 | h2
        · exact h2.symm
        · have := hb.1 _ h1
          have := ha.1 _ h2
          omega
    subst e
    rw [rise_eq ha.2 hb.2 fun z => ?_]
    constructor
    · intro hz
      rcases List.mem_cons.1 ((h z).1 (List.mem_cons_of_mem _ hz)) with e | e
      · have := ha.1 _ hz; omega
      · exact e
    · intro hz
      rcases List.mem_cons.1 ((h z).2 (List.mem_cons_of_mem _ hz)) with e | e
      · have := hb.1 _ hz; omega
      · exact e
theorem steps_lt {l : List Int} {hi : Int} (h : StepsTo l hi l.length) : ∀ (d i : Nat), i + d + 1 < l.length → l.getD i 0 < l.getD (i + d + 1) 0
  | 0, i, hd => by
    have := (h (i + 1) (by omega)).2.2
    rcases this with h | h
    · omega
    · simpa using h
  | d + 1, i, hd => by
    have h1 := steps_lt h d i (by omega)
    have := (h (i + d + 1 + 1) (by omega)).2.2
    rcases this with h | h
    · omega
    · have h2 : l.getD (i + d + 1) 0 < l.getD (i + d + 1 + 1) 0 := by simpa using h
      exact Int.lt_trans h1 h2
theorem steps_pair {l : List Int} {hi : Int} (h : StepsTo l hi l.length) : l.Pairwise (· < ·) := by
  rw [List.pairwise_iff_getElem]
  intro i j hi' hj hij
  have := steps_lt h (j - i - 1) i (by omega)
  rw [show i + (j - i - 1) + 1 = j by omega] at this
  simpa [hi', hj] using this
theorem upTo_all {l : List Int} {hi : Int} (h : StepsTo l hi l.length) (h7 : hi ≤ 7) : upTo l 8 = l := by
  refine rise_eq ?_ (steps_pair h) fun x => ?_
  · refine List.Pairwise.map _ (fun a b hab => ?_) (List.Pairwise.filter _ (List.pairwise_lt_range (n := 8)))
    exact Int.ofNat_lt.2 hab
  · simp only [upTo, List.mem_map, List.mem_filter, List.mem_range]
    constructor
    · rintro ⟨i, ⟨-, hh⟩, rfl⟩
      exact has_iff.1 hh
    · intro hx
      have hm := mem_steps h hx
      obtain ⟨i, rfl⟩ := Int.eq_ofNat_of_zero_le hm.1
      exact ⟨i, ⟨by omega, has_iff.2 hx⟩, rfl⟩

set_option maxHeartbeats 1600000 in
set_option maxRecDepth 100000 in
theorem list_any (l : List Int) (hi : Int) (w : World) (hs : StepsTo l hi l.length) (h7 : hi ≤ 7) :
    Calls Try.prog 118 #[.agg (crowdCells l)] w (OwnPost l w) := by
  obtain ⟨i0, hi0, hz0, hz1, hz2⟩ := info_parts info_int
  have HI := Lib.hid hi0
  have HZ0 := Lib.hid hz0
  have HZ1 := Lib.hid hz1
  have HZ2 := Lib.hid hz2
  have HALL := Lib.hid (upTo_all hs h7)
  have hc := Whole.fresh w 92 (crowdCells l)
  have hbw := below1 w (.cells (crowdCells l) 92)
  have HBW := Lib.hid hbw
  obtain ⟨m0, m1, m2, m3, m4, m5, m6, m7⟩ := crowd_cells hc
  clear hi0 hz0 hz1 hz2 hs h7 hbw
  go_enter Try.func118, Try.ntmps118
  go_wp2
  go_loopw [3, 8] (fun v i wr => ∃ (k : Nat) (E : Option Addr) (d : Nat), k ≤ 8 ∧ i = .int .i64 k ∧ v = .slice E (upTo l k).length d ∧ wr.ownsRow w.heap.size 3 1 (.slice E (upTo l k).length d) (upTo l k).length (nums (upTo l k)) ∧ Below w.heap.size w wr) (fun _ i _ => 8 - (intOf i).toNat)
  case atStart => exact ⟨0, none, 0, by omega, rfl, rfl, World.ownsRow_nil _ _ _ _, HBW.out⟩
  case round =>
    obtain ⟨k, E, d, hk, rfl, rfl, hown, hb⟩ := hrel
    by_cases hlt : k < 8
    · have hix := fun W : World => index_crowd l hlt W
      have hk8 : (k : Int) < 8 := by omega
      have hul := upTo_len l k
      cases hp : has l k
      · have HS := Lib.hid (upTo_no hp)
        have HO := Lib.hid hown
        rw [hp] at hix
        clear hp hown
        go_wp2
        go_roundw
        case rel => exact ⟨k + 1, E, d, by omega, by go_num, by rw [HS.out], by rw [HS.out]; exact HO.out, hb⟩
        case measure => simp [intOf]; omega
      · have HS := Lib.hid (upTo_yes hp)
        have HOW := Lib.hid (hown.alloc (.cells #[.int .i64 k] 3))
        have HB := Lib.hid (hb.alloc hb.size (.cells #[.int .i64 k] 3))
        have HBASE := Lib.hid (show w.heap.size ≤ (wr.alloc (.cells #[.int .i64 k] 3)).heap.size by have := hb.size; simp; omega)
        have HMAX := Lib.hid (show (upTo l k).length + 1 ≤ maxLen by unfold maxLen; omega)
        have HBYT := Lib.hid (show ((upTo l k).length + 1) * 8 ≤ 140737488355328 by omega)
        have HLEN : Hid ((upTo l (k + 1)).length = (upTo l k).length + 1) := by show _ = _; rw [HS.out]; simp
        rw [hp] at hix
        clear hp hown hb
        go_wp2_with (at_builtin; refine wpList_append_own _ rfl (.tmp 13) (.tmp 15) 22 rfl w.heap.size 3 i0 (.int .i64 0) 1 8 Try.underlying22 HI.out HZ0.out HZ1.out HZ2.out rfl (by decide) (.slice E (upTo l k).length d) (upTo l k).length (nums (upTo l k)) rfl HOW.out ⟨wr.heap.size, 0, none⟩ 1 1 [.int .i64 k] rfl rfl (cell_one_new _ _ _) (by simp [Value.oneCell']) HMAX.out HBYT.out HBASE.out ?_; intro v' w2 hown1 hg1 _; obtain ⟨D', q', hv', -⟩ := Fresh.of_own hown1 (Nat.le_refl _); rw [hv'] at hown1 ⊢; clear hv')
        have HBN := Lib.hid (HB.out.grown hg1 HBASE.out (fun kk e => (HOW.out.lt _ e).1))
        have HON := Lib.hid hown1
        clear hg1 hown1
        go_roundw
        case rel => exact ⟨k + 1, D', q', by omega, by go_num, by rw [HLEN.out], by rw [HLEN.out, HS.out, show nums (upTo l k ++ [(k : Int)]) = nums (upTo l k) ++ [.int .i64 k] by simp [nums]]; exact HON.out, HBN.out⟩
        case measure => simp [intOf]; omega
    · obtain rfl : k = 8 := by omega
      rw [HALL.out] at hown
      have HO := Lib.hid hown
      have HL : Hid ((upTo l 8).length = l.length) := by show _ = _; rw [HALL.out]
      clear hown
      go_wp2
      go_ret
      exact ⟨E, d, by rw [HL.out]; rfl, HO.out, hb⟩
end Go.Proofs.Ytifaadjbkbdbnaa
