/-
  What is proved: the contract of the model's copy of a list (l1Own), and plain facts on lists of the call's own. Conditions: the list is read as it lies; at most 1,048,576 numbers.
-/
import Derived.Test.YtifaadjbkbdbnaaBuilder
import Derived.Laws.AppendOwnNone
namespace Go.Proofs.Ytifaadjbkbdbnaa
open Go.RowKit

/-- What a call hands back that makes a list to which more can be appended. -/
def OwnPost (xs : List Int) (w : World) (e : Ending) (w' : World) : Prop :=
  ∃ (A : Option Addr) (c : Nat), e = .returned (.slice A xs.length c) ∧ w'.ownsRow w.heap.size 3 1 (.slice A xs.length c) xs.length (nums xs) ∧ Below w.heap.size w w'
theorem ints_one (xs : List Int) : ∀ u ∈ nums xs, u.oneCell' = true := by
  intro v hv
  simp only [nums, List.mem_map] at hv
  obtain ⟨x, -, rfl⟩ := hv
  rfl
theorem own_some {w : World} {base : Nat} {e : TypeId} {A : Option Addr} {n c : Nat} {xs : List Value} (h : w.ownsRow base e 1 (.slice A n c) n xs) : (A = none ∧ n = 0 ∧ c = 0) ∨ ∃ g, A = some ⟨g, 0, none⟩ ∧ n ≤ c := by
  obtain ⟨-, ⟨hv, hn⟩ | ⟨g, cap, cur, hv, -, -, h1, -⟩⟩ := h
  · obtain ⟨rfl, -, rfl⟩ : A = none ∧ n = 0 ∧ c = 0 := by simpa using hv
    exact .inl ⟨rfl, hn, rfl⟩
  · obtain ⟨rfl, -, rfl⟩ : A = some ⟨g, 0, none⟩ ∧ n = n ∧ c = cap := by simpa using hv
    exact .inr ⟨g, rfl, h1⟩

theorem own_shape {w : World} {base : Nat} {e : TypeId} {v : Value} {n : Nat} {xs : List Value} (h : w.ownsRow base e 1 v n xs) : ∃ (A : Option Addr) (c : Nat), v = .slice A n c := by
  obtain ⟨-, ⟨rfl, rfl⟩ | ⟨g, cap, cur, hv, -⟩⟩ := h
  · exact ⟨none, 0, rfl⟩
  · exact ⟨_, _, hv⟩

set_option maxHeartbeats 800000 in
set_option maxRecDepth 100000 in
theorem l1Own_any (A : Option Addr) (n c : Nat) (xs : List Int) (w : World) (hA : Holds w A (nums xs)) (hx : xs.length = n) (hn : n ≤ 1048576) (hc : A = none → c = 0) :
    Calls Try.prog 112 #[.slice A n c] w (OwnPost xs w) := by
  subst hx
  obtain ⟨i0, hi, hz0, hz1, hz2⟩ := info_parts info_int
  have HI := Lib.hid hi
  have HZ0 := Lib.hid hz0
  have HZ1 := Lib.hid hz1
  have HZ2 := Lib.hid hz2
  have HOWN := Lib.hid (World.ownsRow_made (base := w.heap.size) (e := 3) (size := 1) w #[] 0 (Nat.le_refl _) (by unfold maxLen; omega) rfl)
  have HB := Lib.hid (below1 w (.cells #[] 3))
  clear hi hz0 hz1 hz2
  cases A with
  | none =>
    have h0 : xs = [] := by
      rcases hA with h | ⟨b, o, h, -⟩
      · simpa [nums] using h
      · cases h
    subst h0
    obtain rfl := hc rfl
    go_enter Try.func112, Try.ntmps112
    go_wp2_with (at_builtin; refine wpList_append_own_none rfl (.tmp 3) (.tmp 4) 22 rfl w.heap.size 3 i0 1 Try.underlying22 HI.out _ 0 [] rfl HOWN.out rfl ?_)
    go_ret
    exact ⟨_, 0, rfl, HOWN.out, HB.out⟩
  | some ad =>
    have hnews : ∀ j u, (nums xs)[j]? = some u → (w.alloc (.cells #[] 3)).cell? (ad.add j) = some u := fun j u hu => by
      rcases hA with h | ⟨b, o, h, hb, hcell⟩
      · rw [h] at hu; simp at hu
      · obtain rfl : ad = ⟨b, o, none⟩ := by simpa using h
        rw [show (⟨b, o, none⟩ : Addr).add j = ⟨b, o + j, none⟩ from by unfold Addr.add; split <;> simp_all, World.cell?_alloc_lt _ _ _ hb]
        exact hcell j u hu
    have HNEWS := Lib.hid hnews
    have HLEN := Lib.hid (show (nums xs).length = xs.length * 1 by rw [nums_len, Nat.mul_one])
    have HONE := Lib.hid (ints_one xs)
    have HMAX := Lib.hid (show 0 + xs.length ≤ maxLen by unfold maxLen; omega)
    have HBYT := Lib.hid (show (0 + xs.length) * 8 ≤ 140737488355328 by omega)
    clear hnews hc
    go_enter Try.func112, Try.ntmps112
    go_wp2_with (at_builtin; refine wpList_append_own _ rfl (.tmp 3) (.tmp 4) 22 rfl w.heap.size 3 i0 (.int .i64 0) 1 8 Try.underlying22 HI.out HZ0.out HZ1.out HZ2.out rfl (by decide) _ 0 [] rfl HOWN.out ad xs.length c (nums xs) rfl HLEN.out HNEWS.out HONE.out HMAX.out HBYT.out (by simp) ?_; intro v' w1 hown1 hg1 _)
    go_ret
    simp only [Nat.zero_add, List.nil_append] at hown1
    have hbe := HB.out.grown hg1 (by simp) (fun k hk => Nat.le_of_eq (Option.some.inj (show some w.heap.size = some k from hk)))
    obtain ⟨A1, c1, rfl⟩ := own_shape hown1
    exact ⟨A1, c1, rfl, hown1, hbe⟩
end Go.Proofs.Ytifaadjbkbdbnaa
