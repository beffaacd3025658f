/-
  What is proved: contracts of a party slowed down, as the model and the program make it. Conditions: the party's times are read as they lie.
-/
import Derived.Test.YtifaadjbkbdbnaaFirstI
import Derived.Test.YtifaadjbkbdbnaaRow
namespace Go.Proofs.Ytifaadjbkbdbnaa
open Go.RowKit

/-- What a call hands back that makes a list of numbers. -/
def NumsPost (bs : List Int) (w : World) (e : Ending) (w' : World) : Prop :=
  ∃ (A : Option Addr) (c : Nat), e = .returned (.slice A bs.length c) ∧ Fresh w' w.heap.size w'.heap.size 3 A (nums bs) ∧ Below w.heap.size w w'
/-- What a call hands back that makes a party and tells whether it did. -/
def PartyPost (xs : List Int) (s : Int) (ok : Bool) (w : World) (e : Ending) (w' : World) : Prop :=
  ∃ (A : Option Addr) (c : Nat), e = .returned (.tuple #[.agg #[.slice A xs.length c, .int .i64 s], .bool ok]) ∧ Fresh w' w.heap.size w'.heap.size 3 A (nums xs) ∧ Below w.heap.size w w'

theorem nums_one (bs : List Int) : ∀ u ∈ nums bs, u.oneCell' = true := by
  intro v hv
  simp only [nums, List.mem_map] at hv
  obtain ⟨x, -, rfl⟩ := hv
  rfl

set_option maxHeartbeats 800000 in
set_option maxRecDepth 100000 in
theorem cloneI_any (b o n d : Nat) (bs : List Int) (w : World) (hB : ∀ j u, (nums bs)[j]? = some u → w.cell? ⟨b, o + j, none⟩ = some u) (hy : bs.length = n) (hn : n ≤ 1048576) :
    Calls Try.prog 106 #[.slice (some ⟨b, o, none⟩) n d] w (NumsPost bs w) := by
  subst hy
  obtain ⟨i0, hi, hz0, hz1, hz2⟩ := info_parts info_int
  have HI := Lib.hid hi
  have HZ0 := Lib.hid hz0
  have HZ1 := Lib.hid hz1
  have HZ2 := Lib.hid hz2
  have HB := Lib.hid hB
  clear hi hz0 hz1 hz2 hB
  go_enter Try.func106, Try.ntmps106
  have hnil := fun (W : World) => Lib.run_eql_slice_nil (P := Try.prog) W 22 3 (some ⟨b, o, none⟩) bs.length d 0 0 Try.underlying22
  have HOWN := Lib.hid (World.ownsRow_made (base := w.heap.size) (e := 3) (size := 1) w #[] 0 (Nat.le_refl _) (by unfold maxLen; omega) rfl)
  have hnews : ∀ j u, (nums bs)[j]? = some u → (w.alloc (.cells #[] 3)).cell? ((⟨b, o, none⟩ : Addr).add j) = some u := fun j u hu => by
    rw [show (⟨b, o, none⟩ : Addr).add j = ⟨b, o + j, none⟩ from by unfold Addr.add; split <;> simp_all]
    have h := HB.out j u hu
    rw [World.cell?_alloc_lt _ _ _ (block_lt_of_cell h)]
    exact h
  have HNEWS := Lib.hid hnews
  have HLEN := Lib.hid (show (nums bs).length = bs.length * 1 by rw [nums_len, Nat.mul_one])
  have HONE := Lib.hid (nums_one bs)
  have HMAX := Lib.hid (show 0 + bs.length ≤ maxLen by unfold maxLen; omega)
  have HBYT := Lib.hid (show (0 + bs.length) * 8 ≤ 140737488355328 by omega)
  clear hnews
  go_wp2_with (at_builtin; refine wpList_append_own _ rfl (.tmp 5) (.tmp 6) 22 rfl w.heap.size 3 i0 (.int .i64 0) 1 8 Try.underlying22 HI.out HZ0.out HZ1.out HZ2.out rfl (by decide) _ 0 [] rfl HOWN.out ⟨b, o, none⟩ bs.length d (nums bs) rfl HLEN.out HNEWS.out HONE.out HMAX.out HBYT.out (by simp) ?_; intro v' w1 hown1 hg1 _)
  go_ret
  simp only [Nat.zero_add, List.nil_append] at hown1
  obtain ⟨A, c, hv, hf⟩ := Fresh.of_own hown1 (Nat.le_refl _)
  refine ⟨A, c, by rw [← hv]; rfl, hf, ?_⟩
  exact (below1 w _).grown hg1 (by simp) (fun k hk => Nat.le_of_eq (Option.some.inj (show some w.heap.size = some k from hk)))

/-- The times, each so many times as great. -/
def times (xs : List Int) (k : Int) : List Int := xs.map (· * k)
theorem times_len (xs : List Int) (k : Int) : (times xs k).length = xs.length := by simp [times]
def slowOk (xs : List Int) (s k : Int) : Bool := isParty xs s && (within k 1 1000 && isParty (times xs k) s)
def slowXs (xs : List Int) (s k : Int) : List Int := if slowOk xs s k then times xs k else []
def slowSeats (xs : List Int) (s k : Int) : Int := if slowOk xs s k then s else 0
theorem slow_of {xs : List Int} {s k : Int} {x : Bool} (h1 : isParty xs s = true) (h2 : within k 1 1000 = true) (h3 : isParty (times xs k) s = x) : slowOk xs s k = x := by simp [slowOk, h1, h2, h3]
theorem slowXs_le (xs : List Int) (s k : Int) : (slowXs xs s k).length ≤ xs.length := by
  rw [slowXs]
  split
  · rw [times_len]; exact Nat.le_refl _
  · simp
theorem slow_no {xs : List Int} {s k : Int} (h : slowOk xs s k = false) : slowXs xs s k = [] ∧ slowSeats xs s k = 0 := by simp [slowXs, slowSeats, h]
theorem slow_yes {xs : List Int} {s k : Int} (h : slowOk xs s k = true) : slowXs xs s k = times xs k ∧ slowSeats xs s k = s := by simp [slowXs, slowSeats, h]
theorem party_all {xs : List Int} {s : Int} (h : isParty xs s = true) : ∀ x ∈ xs, 1 ≤ x ∧ x ≤ 1000 := by
  simp only [isParty, Bool.and_eq_true] at h
  exact (allIn_iff _ _ _).1 h.2.1
theorem times_next {xs : List Int} {k : Int} {j : Nat} (hj : j < xs.length) : nums (times (xs.take j) k) ++ [.int .i64 (xs[j] * k)] = nums (times (xs.take (j + 1)) k) := by
  rw [List.take_succ_eq_append_getElem hj]
  simp only [nums, times, List.map_append, List.map_cons, List.map_nil]
theorem slow_iff {xs : List Int} {s k : Int} (hp : isParty xs s = true) (hk : 1 ≤ k) : slowOk xs s k = decide (mostOf xs ≤ 1000 / k) := by
  have hall := party_all hp
  have hne : xs ≠ [] := by
    rintro rfl
    simp [isParty, within] at hp
  have hd : ∀ x : Int, x ≤ 1000 / k ↔ x * k ≤ 1000 := fun x => Int.le_ediv_iff_mul_le (by omega)
  rw [Bool.eq_iff_iff, decide_eq_true_eq, mostOf_le hne]
  simp only [slowOk, hp, Bool.true_and, Bool.and_eq_true]
  constructor
  · rintro ⟨-, h⟩ x hx
    have := party_all h (x * k) (List.mem_map_of_mem hx)
    exact (hd x).2 this.2
  · intro h
    have hk2 : k ≤ 1000 := by
      obtain ⟨y, hy⟩ := List.exists_mem_of_ne_nil _ hne
      have h1 := (hd y).1 (h y hy)
      have h2 := (hall y hy).1
      have h3 : 1 * k ≤ y * k := Int.mul_le_mul_of_nonneg_right h2 (by omega)
      omega
    refine ⟨within_yes hk hk2, ?_⟩
    simp only [isParty, Bool.and_eq_true] at hp ⊢
    refine ⟨by rw [times_len]; exact hp.1, (allIn_iff _ _ _).2 fun y hy => ?_, hp.2.2⟩
    simp only [times, List.mem_map] at hy
    obtain ⟨x, hx, rfl⟩ := hy
    have h1 := (hd x).1 (h x hx)
    have h2 := (hall x hx).1
    have h3 : 1 * 1 ≤ x * k := Int.mul_le_mul h2 hk (by omega) (by omega)
    exact ⟨by omega, h1⟩

end Go.Proofs.Ytifaadjbkbdbnaa
