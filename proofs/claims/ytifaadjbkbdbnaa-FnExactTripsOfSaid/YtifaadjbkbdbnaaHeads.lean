/-
  What is proved: a list of lists that the call makes row by row. Conditions: each new row is the call's own, in a range of blocks that no other one meets.
-/
import Derived.Test.YtifaadjbkbdbnaaGrid3
import Derived.Test.YtifaadjbkbdbnaaOwn
import Derived.Test.YtifaadjbkbdbnaaPaPlay
import Derived.Deep.AppendLies
namespace Go.Proofs.Ytifaadjbkbdbnaa
open Go.RowKit


/-- A list of lists that the call makes and goes on with: its heads in a block of the call's own, each row in a range of blocks of its own, all from lo on. -/
def Heads (w : World) (lo : Nat) (A : Option Addr) (c : Nat) (rs : List RowV) : Prop :=
  w.ownsRow lo 22 1 (.slice A rs.length c) rs.length (rowVals rs) ∧
    ∃ ps, FreeRows w ps rs ∧ (∀ p ∈ ps, lo ≤ p.1 ∧ p.2 ≤ w.heap.size) ∧ ∀ a : Addr, A = some a → ∀ p ∈ ps, a.block < p.1 ∨ p.2 ≤ a.block
theorem Heads.nil (w : World) (lo : Nat) : Heads w lo none 0 [] :=
  ⟨World.ownsRow_nil _ _ _ _, [], ⟨rfl, fun k r p h => by simp at h, fun i j p p' _ h => by simp at h⟩, fun p h => by simp at h, fun a h => by cases h⟩
theorem own_keep {w w' : World} {base : Nat} {e : TypeId} {size : Nat} {v : Value} {n : Nat} {xs : List Value} (h : w.ownsRow base e size v n xs) (hb : Below w.heap.size w w') : w'.ownsRow base e size v n xs := by
  obtain ⟨hl, h | ⟨g, cap, cur, hv, hg, hh, r⟩⟩ := h
  · exact ⟨hl, .inl h⟩
  · exact ⟨hl, .inr ⟨g, cap, cur, hv, hg, (hb.block g (Array.getElem?_eq_some_iff.1 hh).1).trans hh, r⟩⟩
theorem Heads.below {w w' : World} {lo c : Nat} {A : Option Addr} {rs : List RowV} (h : Heads w lo A c rs) (hb : Below w.heap.size w w') : Heads w' lo A c rs := by
  obtain ⟨h1, ps, h2, h3, h4⟩ := h
  exact ⟨own_keep h1 hb, ps, h2.below hb, fun p hp => ⟨(h3 p hp).1, Nat.le_trans (h3 p hp).2 hb.size⟩, h4⟩
theorem Heads.alloc {w : World} {lo c : Nat} {A : Option Addr} {rs : List RowV} (h : Heads w lo A c rs) (o : Obj) : Heads (w.alloc o) lo A c rs := h.below (below1 w o)
theorem fresh_grown {w w' : World} {lo hi : Nat} {ty : TypeId} {A : Option Addr} {xs : List Value} {row : Option Nat} (hf : Fresh w lo hi ty A xs) (hg : w.grownBy w' row) (hd : ∀ g, row = some g → g < lo ∨ hi ≤ g) : Fresh w' lo hi ty A xs := by
  rcases hf with h | ⟨g, cs, hA, h1, h2, hw, h3, h4⟩
  · exact .inl h
  · refine .inr ⟨g, cs, hA, h1, h2, ?_, h3, h4⟩
    exact (hg.block g hw.lt (fun e => by have := hd g e.symm; omega)).trans hw
/-- A row more. -/
theorem Heads.push {w w1 w2 : World} {lo c cap g : Nat} {A : Option Addr} {rs : List RowV} {r : RowV} (h : Heads w lo A c rs) (hlo : lo ≤ w.heap.size) (hb : Below w.heap.size w w1) (hr : Fresh w1 w.heap.size w1.heap.size 3 r.A (nums r.xs)) (hl : r.xs.length = r.n) (hn : r.n ≤ 1048576)
    (hown : w2.ownsRow lo 22 1 (.slice (some ⟨g, 0, none⟩) (rs.length + 1) cap) (rs.length + 1) (rowVals rs ++ [r.val])) (hg : (w1.alloc (.cells #[r.val] 22)).grownBy w2 (Value.slice A rs.length c).ownBlock)
    (hat : (Value.slice A rs.length c).ownBlock = some g ∨ g = w1.heap.size + 1) : Heads w2 lo (some ⟨g, 0, none⟩) cap (rs ++ [r]) := by
  obtain ⟨h1, ps, ⟨k1, k2, k3⟩, h3, h4⟩ := h
  have hsz := hb.size
  have hsg : w1.heap.size + 1 ≤ w2.heap.size := by have := hg.size; simpa using this
  have hob : ∀ q, (Value.slice A rs.length c).ownBlock = some q → ∃ a : Addr, A = some a ∧ a.block = q ∧ q < w.heap.size := by
    intro q hq
    cases A with
    | none => simp [Value.ownBlock] at hq
    | some a => exact ⟨a, rfl, by simpa [Value.ownBlock] using hq, (h1.lt q hq).2⟩
  refine ⟨by rw [List.length_append]; show World.ownsRow _ _ _ _ _ _ _; simpa [rowVals] using hown, ps ++ [(w.heap.size, w1.heap.size)], ⟨by simp [k1], ?_, ?_⟩, ?_, ?_⟩
  · intro k r' p' hr' hp'
    rcases Nat.lt_or_ge k rs.length with hk | hk
    · rw [List.getElem?_append_left hk] at hr'
      rw [List.getElem?_append_left (by omega)] at hp'
      obtain ⟨f1, f2⟩ := k2 k r' p' hr' hp'
      have hm := List.mem_of_getElem? hp'
      refine ⟨fresh_grown ((f1.below hb).alloc _) hg fun q hq => ?_, f2⟩
      obtain ⟨a, hA, hq2, -⟩ := hob q hq
      have := h4 a hA p' hm
      omega
    · have hke : k = rs.length := by
        have := (List.getElem?_eq_some_iff.1 hr').1
        simp at this
        omega
      subst hke
      rw [List.getElem?_append_right (Nat.le_refl _)] at hr'
      rw [List.getElem?_append_right (by omega), k1] at hp'
      simp at hr' hp'
      subst hr' hp'
      exact ⟨fresh_grown (hr.alloc _) hg fun q hq => by obtain ⟨a, -, -, hlt⟩ := hob q hq; exact .inl hlt, hl, hn⟩
  · intro i j p p' hij hp hp'
    have hlen : ∀ {i : Nat} {p : Nat × Nat}, (ps ++ [(w.heap.size, w1.heap.size)])[i]? = some p → (i < ps.length ∧ ps[i]? = some p) ∨ (i = ps.length ∧ p = (w.heap.size, w1.heap.size)) := by
      intro i p hp
      rcases Nat.lt_or_ge i ps.length with hi | hi
      · rw [List.getElem?_append_left hi] at hp
        exact .inl ⟨hi, hp⟩
      · have hie : i = ps.length := by
          have := (List.getElem?_eq_some_iff.1 hp).1
          simp at this
          omega
        subst hie
        rw [List.getElem?_append_right (Nat.le_refl _)] at hp
        simp at hp
        exact .inr ⟨rfl, hp.symm⟩
    rcases hlen hp with ⟨hi, hp⟩ | ⟨hi, rfl⟩ <;> rcases hlen hp' with ⟨hj, hp'⟩ | ⟨hj, rfl⟩
    · exact k3 i j p p' hij hp hp'
    · exact .inl (h3 p (List.mem_of_getElem? hp)).2
    · exact .inr (h3 p' (List.mem_of_getElem? hp')).2
    · omega
  · intro p hp
    rcases List.mem_append.1 hp with hp | hp
    · exact ⟨(h3 p hp).1, by have := (h3 p hp).2; omega⟩
    · simp only [List.mem_singleton] at hp
      subst hp
      exact ⟨hlo, by show w1.heap.size ≤ _; omega⟩
  · intro a ha p hp
    obtain rfl : (⟨g, 0, none⟩ : Addr) = a := Option.some.inj ha
    show g < p.1 ∨ p.2 ≤ g
    rcases List.mem_append.1 hp with hp | hp
    · rcases hat with hat | hat
      · obtain ⟨a, hA, hq2, -⟩ := hob g hat
        have := h4 a hA p hp
        omega
      · have := (h3 p hp).2
        omega
    · simp only [List.mem_singleton] at hp
      subst hp
      show g < w.heap.size ∨ w1.heap.size ≤ g
      rcases hat with hat | hat
      · obtain ⟨-, -, -, hlt⟩ := hob g hat
        exact .inl hlt
      · omega
/-- What was made is the call's own, all of it. -/
theorem Heads.free {w : World} {lo c : Nat} {A : Option Addr} {rs : List RowV} (h : Heads w lo A c rs) : FreeGrid w lo w.heap.size A rs := by
  obtain ⟨h1, ps, h2, h3, h4⟩ := h
  refine ⟨ps, h2, h3, ?_⟩
  rcases own_some h1 with ⟨rfl, hn, -⟩ | ⟨g, rfl, -⟩
  · exact .inl (List.length_eq_zero_iff.1 hn)
  · obtain ⟨-, ⟨hv, -⟩ | ⟨g', cap, cur, hv, hb, hh, -, -, -, ht⟩⟩ := h1
    · simp at hv
    · obtain ⟨rfl, -⟩ : g = g' ∧ c = cap := by simpa using hv
      have hlt := (Array.getElem?_eq_some_iff.1 hh).1
      refine .inr ⟨g, 0, rfl, hlt, hb, hlt, fun p hp => h4 _ rfl p hp, fun j u hu => ?_⟩
      rw [Nat.zero_add, (show Whole w g 22 cur from hh).cell j]
      rw [← ht, List.getElem?_take] at hu
      split at hu
      · simpa using hu
      · simp at hu
/-- What a call hands back that makes a list of lists. -/
def RowsPost (ls : List (List Int)) (w : World) (e : Ending) (w' : World) : Prop :=
  ∃ (A : Option Addr) (c : Nat) (rs : List RowV), e = .returned (.slice A rs.length c) ∧ rowNums rs = ls ∧ FreeGrid w' w.heap.size w'.heap.size A rs ∧ Below w.heap.size w w'
end Go.Proofs.Ytifaadjbkbdbnaa
