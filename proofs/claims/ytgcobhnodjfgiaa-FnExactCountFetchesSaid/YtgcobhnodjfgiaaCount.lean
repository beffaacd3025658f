/-
  What is proved: contracts of CountFetches, of the model and of the program. Conditions: the times are read as they lie.
-/
import Derived.Test.YtgcobhnodjfgiaaRounds
import Derived.Test.YtgcobhnodjfgiaaShelfC
import Derived.Laws.RangeString
namespace Go.Proofs.Ytgcobhnodjfgiaa
open Go.RowKit

/-- How many rounds are fetches. -/
def fetchN (l : List UInt8) : Nat := Lib.countByte l 102
theorem fetchN_next {l : List UInt8} {k : Nat} (h : k < l.length) : fetchN (l.take (k + 1)) = fetchN (l.take k) + (if l[k] = 102 then 1 else 0) := by
  rw [List.take_succ_eq_append_getElem h]
  simp only [fetchN, Lib.countByte, List.count_append, List.count_singleton]
  congr 1
  by_cases e : l[k] = 102 <;> simp [e]
theorem fetchN_le (l : List UInt8) : fetchN l ≤ l.length := List.count_le_length
theorem rounds_len (xs : List Int) : (roundsX xs).length ≤ 12 := by
  rw [roundsX, List.length_map]
  exact gainsX_len xs
theorem rounds_two (xs : List Int) : ∀ x ∈ roundsX xs, x = 102 ∨ x = 101 := by
  intro x hx
  simp only [roundsX, List.mem_map] at hx
  obtain ⟨g, -, rfl⟩ := hx
  unfold gsign
  by_cases h : 0 < g <;> simp [h]
/-- Where a string's iterator stands. -/
def posOf (w : World) (k : Nat) : Nat := match w.heap[k]? with | some (.stringIter _ p) => p | _ => 0
theorem posOf_iter (w : World) (s : ByteArray) (p : Nat) : posOf (w.iter s p) w.heap.size = p := by
  rw [posOf, World.iter_heap]
theorem at_text {l : List UInt8} {k : Nat} (h : k < l.length) : (⟨l.toArray⟩ : ByteArray)[k]'(by show k < l.toArray.size; simpa using h) = l[k] := by
  show (l.toArray)[k]'_ = _
  simp
theorem next_text (w : World) (l : List UInt8) (k : Nat) (ty : TypeId) (h : k < l.length) (ha : l[k].toNat < 128) :
    (Instr.next (.pointer (some ⟨w.heap.size, 0, none⟩)) true ty).run Try.prog (w.iter ⟨l.toArray⟩ k) = .ok (.tuple #[.bool true, .int .i64 k, .int .i32 l[k].toNat]) (w.iter ⟨l.toArray⟩ (k + 1)) := by
  have h1 : k < (⟨l.toArray⟩ : ByteArray).size := by show k < l.toArray.size; simpa using h
  have h2 := at_text h
  have h3 := run_next_ascii (P := Try.prog) w ⟨l.toArray⟩ k ty h1 (by rw [h2]; exact ha)
  rw [h2] at h3
  exact h3
theorem end_text (w : World) (l : List UInt8) (k : Nat) (ty : TypeId) (h : ¬ k < l.length) :
    (Instr.next (.pointer (some ⟨w.heap.size, 0, none⟩)) true ty).run Try.prog (w.iter ⟨l.toArray⟩ k) = .ok (.tuple #[.bool false]) (w.iter ⟨l.toArray⟩ k) :=
  run_next_end w ⟨l.toArray⟩ k ty (by show ¬ k < l.toArray.size; simpa using h)
theorem index_text (w : World) (l : List UInt8) (k : Nat) (h : k < l.length) :
    (Instr.index 9 (.string ⟨l.toArray⟩) (.int .i64 k)).run Try.prog w = .ok (.int .u8 l[k].toNat) w := by
  have h1 : (0 : Int) ≤ (k : Int) ∧ (k : Int) < ((⟨l.toArray⟩ : ByteArray).size : Nat) := by
    have : k < (⟨l.toArray⟩ : ByteArray).size := by show k < l.toArray.size; simpa using h
    omega
  rw [run_index_string w 9 ⟨l.toArray⟩ .i64 k Try.underlying9, dif_pos h1]
  have h2 := at_text h
  simp only [Int.toNat_natCast, h2]

set_option maxHeartbeats 3200000 in
set_option maxRecDepth 100000 in
theorem specCount_any (A : Option Addr) (n c : Nat) (xs : List Int) (w : World) (hA : Holds w A (nums xs)) (hx : xs.length = n) (hn : n ≤ 9223372036854775807) :
    Calls Try.prog 43 #[.slice A n c] w fun e w' => e = .returned (.tuple #[.int .i64 (fetchN (roundsX xs) : Nat), .bool (prOk xs)]) ∧ Below w.heap.size w w' := by
  have HX := Lib.hid hx
  clear hx
  cases hp : prOk xs
  · have HP := Lib.hid hp
    clear hp
    go_enter Try.func43, Try.ntmps43
    go_wp2_with (go_at_call 64; refine (prGood_any A n c xs _ hA HX.out hn).mono ?_; rintro e w' ⟨rfl, rfl⟩; rw [HP.out])
    go_ret2
    exact ⟨by rw [roundsX, gainsX_no HP.out]; rfl, Below.refl _ _⟩
  · have HP := Lib.hid hp
    clear hp
    go_enter Try.func43, Try.ntmps43
    go_wp2_with (go_at_call 64; refine (prGood_any A n c xs _ hA HX.out hn).mono ?_; rintro e w' ⟨rfl, rfl⟩; rw [HP.out])
    have ht := prTripsR A n c xs false _ hA HX.out HP.out
    rw [show (!false) = true from rfl, rounds_signs HP.out, rounds_even HP.out] at ht
    have HL := Lib.hid (rounds_len xs)
    have HTW := Lib.hid (rounds_two xs)
    generalize (gainsX xs).any (· == 0) = ev at ht ⊢
    generalize hlq : roundsX xs = l at ht HL HTW
    have HLQ := Lib.hid hlq
    clear hlq
    refine ht.mono ?_
    clear ht
    rintro e w1 ⟨E, d, rs, rfl, -, -, hb⟩
    have HB := Lib.hid hb
    clear hb
    go_wp2_with fail
    go_loopw [7] (fun v wr => ∃ k : Nat, k ≤ l.length ∧ v = .int .i64 (fetchN (l.take k) : Nat) ∧ wr = w1.iter ⟨l.toArray⟩ k) (fun _ wr => l.length - posOf wr w1.heap.size)
    case atStart => exact ⟨0, Nat.zero_le _, rfl, rfl⟩
    case round =>
      obtain ⟨k, hk, rfl, rfl⟩ := hrel
      by_cases hlt : k < l.length
      · have hfn := fetchN_next hlt
        have hfl := fetchN_le (l.take k)
        rw [List.length_take] at hfl
        have h12 := HL.out
        have hx2 := HTW.out l[k] (List.getElem_mem hlt)
        have hnx := fun ty => next_text w1 l k ty hlt (by rcases hx2 with h | h <;> rw [h] <;> decide)
        have hix := fun W => index_text W l k hlt
        generalize hcc : fetchN (l.take k) = cc at hfn hfl ⊢
        clear hcc
        rcases hx2 with h | h
        · rw [h] at hnx hix hfn
          have HFN : Hid (fetchN (l.take (k + 1)) = cc + 1) := by show _ = _; simpa using hfn
          simp only [show (102 : UInt8).toNat = 102 from rfl] at hnx hix
          have hwc : IntKind.i64.wrap ((cc : Int) + 1) = (cc : Int) + 1 := IntWalk.i64_in _ (by omega)
          clear hfn h
          go_wp2
          go_roundw
          case rel => exact ⟨k + 1, by omega, by rw [HFN.out]; rfl, rfl⟩
          case measure => simp only [posOf_iter]; omega
        · rw [h] at hnx hix hfn
          have HFN : Hid (fetchN (l.take (k + 1)) = cc) := by show _ = _; simpa using hfn
          simp only [show (101 : UInt8).toNat = 101 from rfl] at hnx hix
          clear hfn h
          go_wp2
          go_roundw
          case rel => exact ⟨k + 1, by omega, by rw [HFN.out], rfl⟩
          case measure => simp only [posOf_iter]; omega
      · have hkn : l.take k = l := List.take_of_length_le (by omega)
        rw [hkn]
        have hnx := fun ty => end_text w1 l k ty hlt
        have HBE : Hid (Below w.heap.size w (w1.iter ⟨l.toArray⟩ k)) := HB.out.alloc HB.out.size _
        go_wp2
        go_ret2
        exact ⟨by rw [HLQ.out]; rfl, HBE.out⟩

set_option maxHeartbeats 800000 in
theorem implCount_any (A : Option Addr) (n c : Nat) (xs : List Int) (w : World) (hA : Holds w A (nums xs)) (hx : xs.length = n) (hn : n ≤ 9223372036854775807) :
    Calls Try.prog 44 #[.slice A n c] w fun e w' => e = .returned (.tuple #[.int .i64 (fetchN (roundsX xs) : Nat), .bool (prOk xs)]) ∧ Below w.heap.size w w' := by
  have HX := Lib.hid hx
  clear hx
  go_enter Try.func44, Try.ntmps44
  go_wp2_with fail
  refine (implRounds_any A n c xs _ hA HX.out hn).mono ?_
  rintro e w1 ⟨rfl, hb⟩
  have HB := Lib.hid hb
  clear hb
  go_wp2_with fail
  refine (Try.countOne ⟨(roundsX xs).toArray⟩ 102 _).mono ?_
  rintro e w2 ⟨rfl, rfl⟩
  go_wp2
  go_ret2
  exact ⟨rfl, HB.out⟩
end Go.Proofs.Ytgcobhnodjfgiaa
