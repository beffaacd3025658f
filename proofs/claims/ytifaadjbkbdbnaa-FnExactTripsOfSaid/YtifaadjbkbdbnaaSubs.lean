/-
  What is proved: plain facts on the rising lists that begin with some people and go on with others, and on lists of lists put one behind the other. Conditions: none.
-/
import Derived.Test.YtifaadjbkbdbnaaHeads
namespace Go.Proofs.Ytifaadjbkbdbnaa
open Go.RowKit

/-- The rising lists of at most m that begin with b and go on with some of the others, at least one of them; each ahead of those that it begins. -/
def subs (m : Nat) : List Int → List Int → List (List Int)
  | [], _ => []
  | k :: r, b => if m ≤ b.length then [] else ((b ++ [k]) :: subs m r (b ++ [k])) ++ subs m r b
theorem subs_full {m : Nat} {b : List Int} (h : m ≤ b.length) : ∀ o : List Int, subs m o b = []
  | [] => rfl
  | _ :: _ => if_pos h
theorem subs_next {m : Nat} {b o : List Int} {i : Nat} (hi : i < o.length) (h : b.length < m) : subs m (o.drop i) b = ((b ++ [o[i]]) :: subs m (o.drop (i + 1)) (b ++ [o[i]])) ++ subs m (o.drop (i + 1)) b := by
  rw [List.drop_eq_getElem_cons hi, subs, if_neg (by omega)]
theorem subs_len (m : Nat) : ∀ (o b : List Int), (subs m o b).length + 1 ≤ 2 ^ o.length
  | [], _ => by simp [subs]
  | k :: r, b => by
    have h1 := subs_len m r (b ++ [k])
    have h2 := subs_len m r b
    rw [subs, List.length_cons, Nat.pow_succ]
    split
    · have : 0 < 2 ^ r.length := Nat.pos_of_ne_zero (by simp)
      simp
      omega
    · simp only [List.length_append, List.length_cons]
      omega
theorem subs_small {m : Nat} {o b : List Int} (h : o.length ≤ 8) : (subs m o b).length ≤ 255 := by
  have h1 := subs_len m o b
  have h2 : 2 ^ o.length ≤ 2 ^ 8 := Nat.pow_le_pow_right (by omega) h
  omega

theorem subs_mem (m : Nat) : ∀ (o b l : List Int), l ∈ subs m o b ↔ ∃ c, l = b ++ c ∧ c ≠ [] ∧ c.Sublist o ∧ l.length ≤ m := by
  intro o
  induction o with
  | nil =>
    intro b l
    constructor
    · intro h
      simp [subs] at h
    · rintro ⟨c, -, hne, hs, -⟩
      exact absurd (List.sublist_nil.1 hs) hne
  | cons k r ih =>
    intro b l
    rw [subs]
    by_cases hm : m ≤ b.length
    · rw [if_pos hm]
      constructor
      · intro h
        simp at h
      · rintro ⟨c, rfl, hne, -, hl⟩
        have : 0 < c.length := List.length_pos_iff.2 hne
        rw [List.length_append] at hl
        omega
    · rw [if_neg hm, List.mem_append, List.mem_cons, ih, ih]
      constructor
      · rintro ((rfl | ⟨c, rfl, hne, hs, hl⟩) | ⟨c, rfl, hne, hs, hl⟩)
        · refine ⟨[k], rfl, by simp, ?_, by simp; omega⟩
          exact (List.nil_sublist r).cons_cons k
        · refine ⟨k :: c, by simp, by simp, hs.cons_cons k, hl⟩
        · exact ⟨c, rfl, hne, hs.cons k, hl⟩
      · rintro ⟨c, rfl, hne, hs, hl⟩
        cases hs with
        | cons _ h => exact .inr ⟨c, rfl, hne, h, hl⟩
        | cons_cons _ h =>
          rename_i c'
          by_cases hc : c' = []
          · subst hc
            exact .inl (.inl rfl)
          · exact .inl (.inr ⟨c', by simp, hc, h, hl⟩)

theorem FreeRows.grown {w w' : World} {ps : List (Nat × Nat)} {rs : List RowV} {row : Option Nat} (h : FreeRows w ps rs) (hg : w.grownBy w' row) (hd : ∀ g, row = some g → ∀ p ∈ ps, g < p.1 ∨ p.2 ≤ g) : FreeRows w' ps rs :=
  ⟨h.1, fun k r p hr hp => ⟨fresh_grown (h.2.1 k r p hr hp).1 hg (fun g e => hd g e p (List.mem_of_getElem? hp)), (h.2.1 k r p hr hp).2⟩, h.2.2⟩
theorem FreeRows.join {w : World} {ps qs : List (Nat × Nat)} {rs ss : List RowV} (h : FreeRows w ps rs) (h' : FreeRows w qs ss) (hd : ∀ p ∈ ps, ∀ q ∈ qs, p.2 ≤ q.1) : FreeRows w (ps ++ qs) (rs ++ ss) := by
  obtain ⟨a1, a2, a3⟩ := h
  obtain ⟨b1, b2, b3⟩ := h'
  refine ⟨by simp [a1, b1], fun k r p hr hp => ?_, fun i j p p' hij hp hp' => ?_⟩
  · rcases Nat.lt_or_ge k rs.length with hk | hk
    · rw [List.getElem?_append_left hk] at hr
      rw [List.getElem?_append_left (by omega)] at hp
      exact a2 k r p hr hp
    · rw [List.getElem?_append_right hk] at hr
      rw [List.getElem?_append_right (by omega), a1] at hp
      exact b2 _ r p hr hp
  · rcases Nat.lt_or_ge i ps.length with hi | hi <;> rcases Nat.lt_or_ge j ps.length with hj | hj
    · rw [List.getElem?_append_left hi] at hp
      rw [List.getElem?_append_left hj] at hp'
      exact a3 i j p p' hij hp hp'
    · rw [List.getElem?_append_left hi] at hp
      rw [List.getElem?_append_right hj] at hp'
      exact .inl (hd p (List.mem_of_getElem? hp) p' (List.mem_of_getElem? hp'))
    · rw [List.getElem?_append_right hi] at hp
      rw [List.getElem?_append_left hj] at hp'
      exact .inr (hd p' (List.mem_of_getElem? hp') p (List.mem_of_getElem? hp))
    · rw [List.getElem?_append_right hi] at hp
      rw [List.getElem?_append_right hj] at hp'
      exact b3 _ _ p p' (by omega) hp hp'
/-- Lists of lists put behind others, both made by the call. -/
theorem Heads.join {w w1 w2 : World} {lo c d cap g : Nat} {A B : Option Addr} {rs ss : List RowV} (h : Heads w lo A c rs) (hlo : lo ≤ w.heap.size) (hb : Below w.heap.size w w1) (h' : Heads w1 w.heap.size B d ss)
    (hown : w2.ownsRow lo 22 1 (.slice (some ⟨g, 0, none⟩) (rs.length + ss.length) cap) (rs.length + ss.length) (rowVals rs ++ rowVals ss)) (hg : w1.grownBy w2 (Value.slice A rs.length c).ownBlock)
    (hat : (Value.slice A rs.length c).ownBlock = some g ∨ g = w1.heap.size) : Heads w2 lo (some ⟨g, 0, none⟩) cap (rs ++ ss) := by
  obtain ⟨h1, ps, h2, h3, h4⟩ := h
  obtain ⟨-, qs, k2, k3, -⟩ := h'
  have hsz := hb.size
  have hsg := hg.size
  have hob : ∀ q, (Value.slice A rs.length c).ownBlock = some q → ∃ a : Addr, A = some a ∧ a.block = q ∧ q < w.heap.size := by
    intro q hq
    cases A with
    | none => simp [Value.ownBlock] at hq
    | some a => exact ⟨a, rfl, by simpa [Value.ownBlock] using hq, (h1.lt q hq).2⟩
  refine ⟨by rw [List.length_append]; show World.ownsRow _ _ _ _ _ _ _; simpa [rowVals] using hown, ps ++ qs, ?_, ?_, ?_⟩
  · refine (FreeRows.join (h2.below hb) k2 fun p hp q hq => ?_).grown hg ?_
    · have := (h3 p hp).2; have := (k3 q hq).1; omega
    · intro q hq p hp
      obtain ⟨a, hA, hq2, hl⟩ := hob q hq
      rcases List.mem_append.1 hp with hp | hp
      · have := h4 a hA p hp; omega
      · have := (k3 p hp).1; omega
  · intro p hp
    rcases List.mem_append.1 hp with hp | hp
    · exact ⟨(h3 p hp).1, by have := (h3 p hp).2; omega⟩
    · exact ⟨by have := (k3 p hp).1; omega, by have := (k3 p hp).2; omega⟩
  · intro a ha p hp
    obtain rfl : (⟨g, 0, none⟩ : Addr) = a := Option.some.inj ha
    show g < p.1 ∨ p.2 ≤ g
    rcases List.mem_append.1 hp with hp | hp
    · rcases hat with hat | hat
      · obtain ⟨a, hA, hq2, -⟩ := hob g hat
        have := h4 a hA p hp
        omega
      · have := (h3 p hp).2
        omega
    · rcases hat with hat | hat
      · obtain ⟨a, hA, hq2, hl⟩ := hob g hat
        have := (k3 p hp).1
        omega
      · have := (k3 p hp).2
        omega
theorem Heads.raise {w : World} {lo lo' c : Nat} {A : Option Addr} {rs : List RowV} (h : Heads w lo A c rs) (hl : lo' ≤ lo) : Heads w lo' A c rs := by
  obtain ⟨h1, ps, h2, h3, h4⟩ := h
  refine ⟨?_, ps, h2, fun p hp => ⟨Nat.le_trans hl (h3 p hp).1, (h3 p hp).2⟩, h4⟩
  obtain ⟨hn, h | ⟨g, cap, cur, hv, hg, r⟩⟩ := h1
  · exact ⟨hn, .inl h⟩
  · exact ⟨hn, .inr ⟨g, cap, cur, hv, Nat.le_trans hl hg, r⟩⟩
/-- What a call hands back that makes a list of lists to which more can be appended. -/
def SubsPost (ls : List (List Int)) (w : World) (e : Ending) (w' : World) : Prop :=
  ∃ (A : Option Addr) (c : Nat) (rs : List RowV), e = .returned (.slice A rs.length c) ∧ rowNums rs = ls ∧ (A = none → rs = [] ∧ c = 0) ∧ (∀ a, A = some a → a = ⟨a.block, 0, none⟩ ∧ 0 < rs.length) ∧ Heads w' w.heap.size A c rs ∧ Below w.heap.size w w'
end Go.Proofs.Ytifaadjbkbdbnaa
